/- The functions of this program as the walk reads them, each proved to be what the program holds. -/
import Derived.Test.YtkpdkhidlhaaiaaEng3
import Derived.Test.YtkpdkhidlhaaiaaProg
import Derived.KernelRfl
namespace Go.Proofs
open Go.Eng
set_option maxRecDepth 100000

/-- ferrule/ferrulelaw05.GustsTrue -/
def c3 : CI := (.seq (.reg [⟨none, (some 3), .box 0 true (.t 0)⟩,
      ⟨none, (some 5), .box 1 true (.t 2)⟩,
      ⟨none, (some 6), .mv (.c (.bool false))⟩])
    (.seq (.seq (.reg [⟨none, (some 25), .load true 9 (.t 3)⟩,
      ⟨none, (some 26), .mv (.t 1)⟩,
      ⟨none, (some 27), .call 10 [(.t 25), (.t 26)]⟩,
      ⟨none, (some 28), .un .not (.t 27)⟩,
      ⟨none, (some 29), .mv (.t 28)⟩,
      ⟨(some (29, false)), (some 30), .load true 9 (.t 3)⟩,
      ⟨(some (29, false)), (some 31), .faddr 0 (.t 5)⟩,
      ⟨(some (29, false)), (some 32), .load true 2 (.t 31)⟩,
      ⟨(some (29, false)), (some 33), .faddr 2 (.t 5)⟩,
      ⟨(some (29, false)), (some 34), .load false 1 (.t 33)⟩,
      ⟨(some (29, false)), (some 35), .call 11 [(.t 30), (.t 32), (.t 34)]⟩,
      ⟨(some (29, false)), (some 36), .un .not (.t 35)⟩,
      ⟨none, (some 37), .pick (.t 29) (.c (.bool true)) (.t 36)⟩,
      ⟨none, (some 38), .mv (.t 37)⟩,
      ⟨(some (38, false)), (some 39), .faddr 3 (.t 5)⟩,
      ⟨(some (38, false)), (some 40), .load false 1 (.t 39)⟩,
      ⟨(some (38, false)), (some 41), .bin .lss (.t 40) (.c (.int .i64 0))⟩,
      ⟨none, (some 42), .pick (.t 38) (.c (.bool true)) (.t 41)⟩,
      ⟨none, (some 43), .mv (.t 42)⟩,
      ⟨(some (43, false)), (some 44), .faddr 3 (.t 5)⟩,
      ⟨(some (43, false)), (some 45), .load false 1 (.t 44)⟩,
      ⟨(some (43, false)), (some 46), .mv (.t 1)⟩,
      ⟨(some (43, false)), (some 47), .len (.t 46)⟩,
      ⟨(some (43, false)), (some 48), .bin .geq (.t 45) (.t 47)⟩,
      ⟨none, (some 49), .pick (.t 43) (.c (.bool true)) (.t 48)⟩])
    (.cond (.t 49) (.seq (.reg [⟨none, (some 50), .call 12 []⟩,
      ⟨none, (some 6), .mv (.t 50)⟩])
    .ret)
    .skip))
    (.seq (.reg [⟨none, (some 51), .mv (.t 1)⟩,
      ⟨none, (some 52), .faddr 3 (.t 5)⟩,
      ⟨none, (some 53), .load false 1 (.t 52)⟩,
      ⟨none, (some 54), .iaddr 2 (.t 51) (.t 53)⟩,
      ⟨none, (some 55), .load true 2 (.t 54)⟩,
      ⟨none, (some 7), .alloc 2 [(.int .i64 0), (.int .i64 0)]⟩,
      ⟨none, none, .store true 2 (.t 7) (.t 55) []⟩])
    (.seq (.reg [⟨none, (some 56), .load true 9 (.t 3)⟩,
      ⟨none, (some 57), .faddr 0 (.t 5)⟩,
      ⟨none, (some 58), .load true 2 (.t 57)⟩,
      ⟨none, (some 60), .faddr 2 (.t 5)⟩,
      ⟨none, (some 61), .load false 1 (.t 60)⟩,
      ⟨none, (some 8), .alloc 3 [(.int .i64 0), .nils]⟩,
      ⟨none, (some 59), .call 13 [(.t 56), (.t 58)]⟩,
      ⟨none, (some 62), .build [(.int .i64 0), .nils] [(0, 1, (.t 59)), (1, 1, (.t 61))]⟩,
      ⟨none, none, .stz true 2 (.t 8) (.t 62) []⟩])
    (.seq (.reg [⟨none, (some 64), .load true 9 (.t 3)⟩,
      ⟨none, (some 65), .call 14 [(.t 64)]⟩,
      ⟨none, (some 63), .mv (.t 65)⟩,
      ⟨none, (some 66), .extract 0 (.t 63)⟩,
      ⟨none, (some 67), .extract 1 (.t 63)⟩,
      ⟨none, (some 9), .alloc 4 [(.int .i64 0), (.int .i64 0)]⟩,
      ⟨none, none, .store true 2 (.t 9) (.t 66) []⟩,
      ⟨none, (some 10), .mv (.t 67)⟩])
    (.seq (.reg [⟨none, (some 69), .load true 9 (.t 3)⟩,
      ⟨none, (some 70), .load true 2 (.t 7)⟩,
      ⟨none, (some 71), .callw 5 1 15 [(.t 69), (.t 70)]⟩,
      ⟨none, (some 68), .mv (.t 71)⟩,
      ⟨none, (some 72), .extract 0 (.t 68)⟩,
      ⟨none, (some 73), .extract 1 (.t 68)⟩,
      ⟨none, (some 11), .mv (.t 72)⟩,
      ⟨none, (some 12), .mv (.t 73)⟩])
    (.seq (.reg [⟨none, (some 75), .load true 9 (.t 3)⟩,
      ⟨none, (some 76), .load true 2 (.t 7)⟩,
      ⟨none, (some 77), .callw 6 2 16 [(.t 75), (.t 76)]⟩,
      ⟨none, (some 74), .mv (.t 77)⟩,
      ⟨none, (some 78), .extract 0 (.t 74)⟩,
      ⟨none, (some 79), .extract 1 (.t 74)⟩,
      ⟨none, (some 80), .extract 2 (.t 74)⟩,
      ⟨none, (some 13), .mv (.t 78)⟩,
      ⟨none, (some 14), .mv (.t 79)⟩,
      ⟨none, (some 15), .mv (.t 80)⟩])
    (.seq (.reg [⟨none, (some 82), .load true 9 (.t 3)⟩,
      ⟨none, (some 83), .mv (.t 1)⟩,
      ⟨none, (some 84), .call 17 [(.t 82), (.t 83)]⟩,
      ⟨none, (some 81), .mv (.t 84)⟩,
      ⟨none, (some 85), .extract 0 (.t 81)⟩,
      ⟨none, (some 86), .extract 1 (.t 81)⟩,
      ⟨none, (some 16), .mv (.t 85)⟩,
      ⟨none, (some 17), .mv (.t 86)⟩])
    (.seq (.reg [⟨none, (some 88), .load true 9 (.t 3)⟩,
      ⟨none, (some 89), .mv (.t 1)⟩,
      ⟨none, (some 90), .callw 8 1 18 [(.t 88), (.t 89)]⟩,
      ⟨none, (some 87), .mv (.t 90)⟩,
      ⟨none, (some 91), .extract 0 (.t 87)⟩,
      ⟨none, (some 92), .extract 1 (.t 87)⟩,
      ⟨none, (some 93), .extract 2 (.t 87)⟩,
      ⟨none, (some 18), .mv (.t 91)⟩,
      ⟨none, (some 19), .mv (.t 92)⟩,
      ⟨none, (some 20), .mv (.t 93)⟩])
    (.seq (.seq (.reg [⟨none, (some 94), .mv (.t 10)⟩,
      ⟨none, (some 95), .bin .neq (.t 94) (.c (.int .i64 0))⟩,
      ⟨none, (some 96), .mv (.t 95)⟩,
      ⟨(some (96, false)), (some 97), .mv (.t 12)⟩,
      ⟨(some (96, false)), (some 98), .bin .neq (.t 97) (.c (.int .i64 0))⟩,
      ⟨none, (some 99), .pick (.t 96) (.c (.bool true)) (.t 98)⟩,
      ⟨none, (some 100), .mv (.t 99)⟩,
      ⟨(some (100, false)), (some 101), .mv (.t 15)⟩,
      ⟨(some (100, false)), (some 102), .bin .neq (.t 101) (.c (.int .i64 0))⟩,
      ⟨none, (some 103), .pick (.t 100) (.c (.bool true)) (.t 102)⟩,
      ⟨none, (some 104), .mv (.t 103)⟩,
      ⟨(some (104, false)), (some 105), .mv (.t 17)⟩,
      ⟨(some (104, false)), (some 106), .bin .neq (.t 105) (.c (.int .i64 0))⟩,
      ⟨none, (some 107), .pick (.t 104) (.c (.bool true)) (.t 106)⟩,
      ⟨none, (some 108), .mv (.t 107)⟩,
      ⟨(some (108, false)), (some 109), .mv (.t 20)⟩,
      ⟨(some (108, false)), (some 110), .bin .neq (.t 109) (.c (.int .i64 0))⟩,
      ⟨(some (108, false)), (some 111), .mv (.t 110)⟩,
      ⟨(some (111, true)), (some 112), .mv (.t 20)⟩,
      ⟨(some (111, true)), (some 113), .bin .neq (.t 112) (.c (.int .i64 3))⟩,
      ⟨(some (108, false)), (some 114), .pick (.t 111) (.t 113) (.c (.bool false))⟩,
      ⟨none, (some 115), .pick (.t 108) (.c (.bool true)) (.t 114)⟩,
      ⟨none, (some 116), .mv (.t 115)⟩,
      ⟨(some (116, false)), (some 117), .faddr 0 (.t 8)⟩,
      ⟨(some (116, false)), (some 118), .load false 1 (.t 117)⟩,
      ⟨(some (116, false)), (some 119), .faddr 0 (.t 9)⟩,
      ⟨(some (116, false)), (some 120), .load false 1 (.t 119)⟩,
      ⟨(some (116, false)), (some 121), .bin .lss (.t 118) (.t 120)⟩,
      ⟨none, (some 122), .pick (.t 116) (.c (.bool true)) (.t 121)⟩,
      ⟨none, (some 123), .mv (.t 122)⟩,
      ⟨(some (123, false)), (some 124), .faddr 0 (.t 8)⟩,
      ⟨(some (123, false)), (some 125), .load false 1 (.t 124)⟩,
      ⟨(some (123, false)), (some 126), .faddr 1 (.t 9)⟩,
      ⟨(some (123, false)), (some 127), .load false 1 (.t 126)⟩,
      ⟨(some (123, false)), (some 128), .bin .gtr (.t 125) (.t 127)⟩,
      ⟨none, (some 129), .pick (.t 123) (.c (.bool true)) (.t 128)⟩,
      ⟨none, (some 130), .mv (.t 129)⟩,
      ⟨(some (130, false)), (some 131), .mv (.t 11)⟩,
      ⟨(some (130, false)), (some 132), .len (.t 131)⟩,
      ⟨(some (130, false)), (some 133), .faddr 7 (.t 3)⟩,
      ⟨(some (130, false)), (some 134), .load false 1 (.t 133)⟩,
      ⟨(some (130, false)), (some 135), .len (.t 134)⟩,
      ⟨(some (130, false)), (some 136), .bin .neq (.t 132) (.t 135)⟩,
      ⟨none, (some 137), .pick (.t 130) (.c (.bool true)) (.t 136)⟩,
      ⟨none, (some 138), .mv (.t 137)⟩,
      ⟨(some (138, false)), (some 139), .mv (.t 13)⟩,
      ⟨(some (138, false)), (some 140), .len (.t 139)⟩,
      ⟨(some (138, false)), (some 141), .mv (.t 14)⟩,
      ⟨(some (138, false)), (some 142), .len (.t 141)⟩,
      ⟨(some (138, false)), (some 143), .bin .add (.t 140) (.t 142)⟩,
      ⟨(some (138, false)), (some 144), .bin .gtr (.t 143) (.c (.int .i64 40))⟩,
      ⟨none, (some 145), .pick (.t 138) (.c (.bool true)) (.t 144)⟩])
    (.cond (.t 145) (.seq (.reg [⟨none, (some 6), .mv (.c (.bool false))⟩])
    .ret)
    .skip))
    (.seq (.reg [⟨none, (some 146), .load true 9 (.t 3)⟩,
      ⟨none, (some 147), .load true 2 (.t 7)⟩,
      ⟨none, (some 148), .load true 2 (.t 8)⟩,
      ⟨none, (some 149), .callw 9 1 19 [(.t 146), (.t 147), (.t 148)]⟩,
      ⟨none, (some 21), .mv (.t 149)⟩])
    (.seq (.seq (.reg [⟨none, (some 22), .mv (.c (.int .i64 0))⟩])
    (.block 0 (.loop (.seq (.seq (.reg [⟨none, (some 150), .mv (.t 22)⟩,
      ⟨none, (some 151), .mv (.t 21)⟩,
      ⟨none, (some 152), .len (.t 151)⟩,
      ⟨none, (some 153), .bin .lss (.t 150) (.t 152)⟩])
    (.cond (.t 153) .skip
    (.exit 0)))
    (.seq (.block 1 (.seq (.seq (.reg [⟨none, (some 156), .load true 9 (.t 3)⟩,
      ⟨none, (some 157), .load true 2 (.t 7)⟩,
      ⟨none, (some 158), .faddr 0 (.t 8)⟩,
      ⟨none, (some 159), .load false 1 (.t 158)⟩,
      ⟨none, (some 160), .mv (.t 22)⟩,
      ⟨none, (some 161), .call 20 [(.t 156), (.t 157), (.t 159), (.t 160)]⟩,
      ⟨none, (some 23), .mv (.t 161)⟩])
    (.seq (.reg [⟨none, (some 162), .mv (.t 23)⟩,
      ⟨none, (some 163), .mv (.t 11)⟩,
      ⟨none, (some 164), .mv (.t 22)⟩,
      ⟨none, (some 165), .iaddr 2 (.t 163) (.t 164)⟩,
      ⟨none, (some 166), .faddr 0 (.t 165)⟩,
      ⟨none, (some 167), .load false 1 (.t 166)⟩,
      ⟨none, (some 168), .bin .lss (.t 162) (.t 167)⟩,
      ⟨none, (some 169), .mv (.t 168)⟩,
      ⟨(some (169, false)), (some 170), .mv (.t 23)⟩,
      ⟨(some (169, false)), (some 171), .mv (.t 11)⟩,
      ⟨(some (169, false)), (some 172), .mv (.t 22)⟩,
      ⟨(some (169, false)), (some 173), .iaddr 2 (.t 171) (.t 172)⟩,
      ⟨(some (169, false)), (some 174), .faddr 1 (.t 173)⟩,
      ⟨(some (169, false)), (some 175), .load false 1 (.t 174)⟩,
      ⟨(some (169, false)), (some 176), .bin .gtr (.t 170) (.t 175)⟩,
      ⟨none, (some 177), .pick (.t 169) (.c (.bool true)) (.t 176)⟩])
    (.cond (.t 177) (.seq (.reg [⟨none, (some 6), .mv (.c (.bool false))⟩])
    .ret)
    .skip)))
    (.seq (.seq (.reg [⟨none, (some 178), .mv (.t 13)⟩,
      ⟨none, (some 179), .mv (.t 22)⟩,
      ⟨none, (some 180), .call 21 [(.t 178), (.t 179)]⟩,
      ⟨none, (some 181), .mv (.t 180)⟩,
      ⟨(some (181, true)), (some 182), .mv (.t 21)⟩,
      ⟨(some (181, true)), (some 183), .mv (.t 22)⟩,
      ⟨(some (181, true)), (some 184), .iaddr 1 (.t 182) (.t 183)⟩,
      ⟨(some (181, true)), (some 185), .load false 1 (.t 184)⟩,
      ⟨(some (181, true)), (some 186), .bin .eql (.t 185) (.c (.int .i64 0))⟩,
      ⟨none, (some 187), .pick (.t 181) (.t 186) (.c (.bool false))⟩,
      ⟨none, (some 188), .mv (.t 187)⟩,
      ⟨(some (188, false)), (some 189), .mv (.t 21)⟩,
      ⟨(some (188, false)), (some 190), .mv (.t 22)⟩,
      ⟨(some (188, false)), (some 191), .iaddr 1 (.t 189) (.t 190)⟩,
      ⟨(some (188, false)), (some 192), .load false 1 (.t 191)⟩,
      ⟨(some (188, false)), (some 193), .bin .gtr (.t 192) (.c (.int .i64 0))⟩,
      ⟨(some (188, false)), (some 194), .mv (.t 193)⟩,
      ⟨(some (194, true)), (some 195), .mv (.t 14)⟩,
      ⟨(some (194, true)), (some 196), .mv (.t 22)⟩,
      ⟨(some (194, true)), (some 197), .call 21 [(.t 195), (.t 196)]⟩,
      ⟨(some (194, true)), (some 198), .un .not (.t 197)⟩,
      ⟨(some (188, false)), (some 199), .pick (.t 194) (.t 198) (.c (.bool false))⟩,
      ⟨none, (some 200), .pick (.t 188) (.c (.bool true)) (.t 199)⟩])
    (.cond (.t 200) (.seq (.reg [⟨none, (some 6), .mv (.c (.bool false))⟩])
    .ret)
    .skip))
    (.seq (.reg [⟨none, (some 201), .mv (.t 21)⟩,
      ⟨none, (some 202), .mv (.t 22)⟩,
      ⟨none, (some 203), .iaddr 1 (.t 201) (.t 202)⟩,
      ⟨none, (some 204), .load false 1 (.t 203)⟩,
      ⟨none, (some 205), .bin .eql (.t 204) (.c (.int .i64 1))⟩,
      ⟨none, (some 206), .mv (.t 205)⟩,
      ⟨(some (206, true)), (some 207), .mv (.t 20)⟩,
      ⟨(some (206, true)), (some 208), .bin .neq (.t 207) (.c (.int .i64 0))⟩,
      ⟨(some (206, true)), (some 209), .mv (.t 208)⟩,
      ⟨(some (209, false)), (some 210), .mv (.t 18)⟩,
      ⟨(some (209, false)), (some 211), .faddr 3 (.t 5)⟩,
      ⟨(some (209, false)), (some 212), .load false 1 (.t 211)⟩,
      ⟨(some (209, false)), (some 213), .bin .gtr (.t 210) (.t 212)⟩,
      ⟨(some (206, true)), (some 214), .pick (.t 209) (.c (.bool true)) (.t 213)⟩,
      ⟨(some (206, true)), (some 215), .mv (.t 214)⟩,
      ⟨(some (215, false)), (some 216), .mv (.t 18)⟩,
      ⟨(some (215, false)), (some 217), .faddr 3 (.t 5)⟩,
      ⟨(some (215, false)), (some 218), .load false 1 (.t 217)⟩,
      ⟨(some (215, false)), (some 219), .bin .eql (.t 216) (.t 218)⟩,
      ⟨(some (215, false)), (some 220), .mv (.t 219)⟩,
      ⟨(some (220, true)), (some 221), .mv (.t 19)⟩,
      ⟨(some (220, true)), (some 222), .mv (.t 22)⟩,
      ⟨(some (220, true)), (some 223), .call 21 [(.t 221), (.t 222)]⟩,
      ⟨(some (220, true)), (some 224), .un .not (.t 223)⟩,
      ⟨(some (215, false)), (some 225), .pick (.t 220) (.t 224) (.c (.bool false))⟩,
      ⟨(some (206, true)), (some 226), .pick (.t 215) (.c (.bool true)) (.t 225)⟩,
      ⟨none, (some 227), .pick (.t 206) (.t 226) (.c (.bool false))⟩])
    (.cond (.t 227) (.seq (.reg [⟨none, (some 6), .mv (.c (.bool false))⟩])
    .ret)
    .skip)))))
    (.reg [⟨none, (some 154), .mv (.t 22)⟩,
      ⟨none, (some 155), .bin .add (.t 154) (.c (.int .i64 1))⟩,
      ⟨none, (some 22), .mv (.t 155)⟩]))))))
    (.seq (.reg [⟨none, (some 228), .load true 9 (.t 3)⟩,
      ⟨none, (some 229), .mv (.t 1)⟩,
      ⟨none, (some 230), .load true 2 (.t 8)⟩,
      ⟨none, (some 231), .call 22 [(.t 228), (.t 229), (.t 230)]⟩,
      ⟨none, (some 24), .mv (.t 231)⟩])
    (.seq (.seq (.reg [⟨none, (some 232), .mv (.t 16)⟩])
    (.block 2 (.seq (.reg [⟨none, (some 234), .bin .eql (.t 232) (.c (.int .i64 1))⟩,
      ⟨none, (some 233), .mv (.t 234)⟩])
    (.cond (.t 233) (.seq (.reg [⟨none, (some 235), .mv (.t 24)⟩,
      ⟨none, (some 236), .mv (.t 235)⟩,
      ⟨(some (236, true)), (some 237), .call 12 []⟩,
      ⟨none, (some 238), .pick (.t 236) (.t 237) (.c (.bool false))⟩,
      ⟨none, (some 6), .mv (.t 238)⟩])
    .ret)
    (.seq (.reg [⟨none, (some 240), .bin .eql (.t 232) (.c (.int .i64 2))⟩,
      ⟨none, (some 239), .mv (.t 240)⟩])
    (.cond (.t 239) (.seq (.reg [⟨none, (some 241), .mv (.t 24)⟩,
      ⟨none, (some 242), .un .not (.t 241)⟩,
      ⟨none, (some 243), .mv (.t 242)⟩,
      ⟨(some (243, true)), (some 244), .call 12 []⟩,
      ⟨none, (some 245), .pick (.t 243) (.t 244) (.c (.bool false))⟩,
      ⟨none, (some 6), .mv (.t 245)⟩])
    .ret)
    .skip))))))
    (.seq (.reg [⟨none, (some 246), .mv (.t 16)⟩,
      ⟨none, (some 247), .bin .eql (.t 246) (.c (.int .i64 3))⟩,
      ⟨none, (some 248), .mv (.t 247)⟩,
      ⟨(some (248, true)), (some 249), .call 12 []⟩,
      ⟨none, (some 250), .pick (.t 248) (.t 249) (.c (.bool false))⟩,
      ⟨none, (some 6), .mv (.t 250)⟩])
    .ret)))))))))))))))
theorem ok3 : FnOk Try.prog 3 251 10 c3 [.t 6] := ⟨_, _, Try.func3, rfl, rfl, by kernel_rfl, by kernel_rfl⟩
theorem bd3 : bodied Try.prog 3 = true := by kernel_rfl

/-- ferrule/ferrulelaw05.GustsStronger -/
def c4 : CI := (.seq (.reg [⟨none, (some 3), .box 0 true (.t 0)⟩,
      ⟨none, (some 4), .box 1 true (.t 1)⟩,
      ⟨none, (some 5), .box 2 true (.t 2)⟩,
      ⟨none, (some 6), .mv (.c (.bool false))⟩])
    (.seq (.reg [⟨none, (some 24), .load true 2 (.t 4)⟩,
      ⟨none, (some 25), .bsl 3 40 2 [(.t 24)] []⟩,
      ⟨none, (some 7), .mv (.t 25)⟩])
    (.seq (.seq (.reg [⟨none, (some 26), .load true 9 (.t 3)⟩,
      ⟨none, (some 27), .mv (.t 7)⟩,
      ⟨none, (some 28), .call 10 [(.t 26), (.t 27)]⟩,
      ⟨none, (some 29), .un .not (.t 28)⟩,
      ⟨none, (some 30), .mv (.t 29)⟩,
      ⟨(some (30, false)), (some 31), .load true 9 (.t 3)⟩,
      ⟨(some (30, false)), (some 32), .faddr 0 (.t 5)⟩,
      ⟨(some (30, false)), (some 33), .load false 1 (.t 32)⟩,
      ⟨(some (30, false)), (some 34), .call 23 [(.t 31), (.t 33)]⟩,
      ⟨(some (30, false)), (some 35), .un .not (.t 34)⟩,
      ⟨none, (some 36), .pick (.t 30) (.c (.bool true)) (.t 35)⟩,
      ⟨none, (some 37), .mv (.t 36)⟩,
      ⟨(some (37, false)), (some 38), .faddr 1 (.t 5)⟩,
      ⟨(some (37, false)), (some 39), .load false 1 (.t 38)⟩,
      ⟨(some (37, false)), (some 40), .bin .lss (.t 39) (.c (.int .i64 0))⟩,
      ⟨none, (some 41), .pick (.t 37) (.c (.bool true)) (.t 40)⟩,
      ⟨none, (some 42), .mv (.t 41)⟩,
      ⟨(some (42, false)), (some 43), .faddr 1 (.t 5)⟩,
      ⟨(some (42, false)), (some 44), .load false 1 (.t 43)⟩,
      ⟨(some (42, false)), (some 45), .bin .gtr (.t 44) (.c (.int .i64 99999))⟩,
      ⟨none, (some 46), .pick (.t 42) (.c (.bool true)) (.t 45)⟩,
      ⟨none, (some 47), .mv (.t 46)⟩,
      ⟨(some (47, false)), (some 48), .faddr 2 (.t 5)⟩,
      ⟨(some (47, false)), (some 49), .load false 1 (.t 48)⟩,
      ⟨(some (47, false)), (some 50), .bin .lss (.t 49) (.c (.int .i64 0))⟩,
      ⟨none, (some 51), .pick (.t 47) (.c (.bool true)) (.t 50)⟩,
      ⟨none, (some 52), .mv (.t 51)⟩,
      ⟨(some (52, false)), (some 53), .faddr 2 (.t 5)⟩,
      ⟨(some (52, false)), (some 54), .load false 1 (.t 53)⟩,
      ⟨(some (52, false)), (some 55), .faddr 0 (.t 4)⟩,
      ⟨(some (52, false)), (some 56), .load false 1 (.t 55)⟩,
      ⟨(some (52, false)), (some 57), .bin .gtr (.t 54) (.t 56)⟩,
      ⟨none, (some 58), .pick (.t 52) (.c (.bool true)) (.t 57)⟩])
    (.cond (.t 58) (.seq (.reg [⟨none, (some 59), .call 12 []⟩,
      ⟨none, (some 6), .mv (.t 59)⟩])
    .ret)
    .skip))
    (.seq (.reg [⟨none, (some 60), .load true 9 (.t 3)⟩,
      ⟨none, (some 61), .callw 4 3 24 [(.t 60)]⟩,
      ⟨none, (some 8), .alloc 7 [.nils, (.int .i64 0), (.int .i64 0), (.int .i64 0), (.int .i64 0), (.int .i64 0), (.int .i64 0), .nils, .nils]⟩,
      ⟨none, none, .stz true 9 (.t 8) (.t 61) []⟩])
    (.seq (.reg [⟨none, (some 62), .faddr 7 (.t 8)⟩,
      ⟨none, (some 63), .load false 1 (.t 62)⟩,
      ⟨none, (some 64), .faddr 0 (.t 5)⟩,
      ⟨none, (some 65), .load false 1 (.t 64)⟩,
      ⟨none, (some 66), .faddr 7 (.t 8)⟩,
      ⟨none, (some 67), .load false 1 (.t 66)⟩,
      ⟨none, (some 68), .faddr 0 (.t 5)⟩,
      ⟨none, (some 69), .load false 1 (.t 68)⟩,
      ⟨none, (some 70), .iaddr 2 (.t 67) (.t 69)⟩,
      ⟨none, (some 71), .faddr 0 (.t 70)⟩,
      ⟨none, (some 72), .load false 1 (.t 71)⟩,
      ⟨none, (some 73), .faddr 1 (.t 5)⟩,
      ⟨none, (some 74), .load false 1 (.t 73)⟩,
      ⟨none, (some 75), .bin .add (.t 72) (.t 74)⟩,
      ⟨none, (some 76), .mm false [(.c (.int .i64 99999)), (.t 75)]⟩,
      ⟨none, (some 77), .iaddr 2 (.t 63) (.t 65)⟩,
      ⟨none, (some 78), .faddr 0 (.t 77)⟩,
      ⟨none, none, .store false 1 (.t 78) (.t 76) []⟩])
    (.seq (.reg [⟨none, (some 79), .faddr 7 (.t 8)⟩,
      ⟨none, (some 80), .load false 1 (.t 79)⟩,
      ⟨none, (some 81), .faddr 0 (.t 5)⟩,
      ⟨none, (some 82), .load false 1 (.t 81)⟩,
      ⟨none, (some 83), .faddr 7 (.t 8)⟩,
      ⟨none, (some 84), .load false 1 (.t 83)⟩,
      ⟨none, (some 85), .faddr 0 (.t 5)⟩,
      ⟨none, (some 86), .load false 1 (.t 85)⟩,
      ⟨none, (some 87), .iaddr 2 (.t 84) (.t 86)⟩,
      ⟨none, (some 88), .faddr 1 (.t 87)⟩,
      ⟨none, (some 89), .load false 1 (.t 88)⟩,
      ⟨none, (some 90), .faddr 1 (.t 5)⟩,
      ⟨none, (some 91), .load false 1 (.t 90)⟩,
      ⟨none, (some 92), .bin .add (.t 89) (.t 91)⟩,
      ⟨none, (some 93), .mm false [(.c (.int .i64 99999)), (.t 92)]⟩,
      ⟨none, (some 94), .iaddr 2 (.t 80) (.t 82)⟩,
      ⟨none, (some 95), .faddr 1 (.t 94)⟩,
      ⟨none, none, .store false 1 (.t 95) (.t 93) []⟩])
    (.seq (.reg [⟨none, (some 96), .faddr 0 (.t 4)⟩,
      ⟨none, (some 97), .load false 1 (.t 96)⟩,
      ⟨none, (some 98), .faddr 2 (.t 5)⟩,
      ⟨none, (some 99), .load false 1 (.t 98)⟩,
      ⟨none, (some 100), .bin .sub (.t 97) (.t 99)⟩,
      ⟨none, (some 101), .faddr 1 (.t 4)⟩,
      ⟨none, (some 102), .load false 1 (.t 101)⟩,
      ⟨none, (some 103), .build [(.int .i64 0), (.int .i64 0)] [(0, 1, (.t 100)), (1, 1, (.t 102))]⟩,
      ⟨none, (some 9), .alloc 8 [(.int .i64 0), (.int .i64 0)]⟩,
      ⟨none, none, .store true 2 (.t 9) (.t 103) []⟩])
    (.seq (.reg [⟨none, (some 105), .load true 9 (.t 3)⟩,
      ⟨none, (some 106), .load true 2 (.t 4)⟩,
      ⟨none, (some 107), .callw 9 2 16 [(.t 105), (.t 106)]⟩,
      ⟨none, (some 104), .mv (.t 107)⟩,
      ⟨none, (some 108), .extract 0 (.t 104)⟩,
      ⟨none, (some 109), .extract 1 (.t 104)⟩,
      ⟨none, (some 110), .extract 2 (.t 104)⟩,
      ⟨none, (some 10), .mv (.t 108)⟩,
      ⟨none, (some 11), .mv (.t 109)⟩,
      ⟨none, (some 12), .mv (.t 110)⟩])
    (.seq (.reg [⟨none, (some 112), .load true 9 (.t 8)⟩,
      ⟨none, (some 113), .load true 2 (.t 9)⟩,
      ⟨none, (some 114), .callw 11 2 16 [(.t 112), (.t 113)]⟩,
      ⟨none, (some 111), .mv (.t 114)⟩,
      ⟨none, (some 115), .extract 0 (.t 111)⟩,
      ⟨none, (some 116), .extract 1 (.t 111)⟩,
      ⟨none, (some 117), .extract 2 (.t 111)⟩,
      ⟨none, (some 13), .mv (.t 115)⟩,
      ⟨none, (some 14), .mv (.t 116)⟩,
      ⟨none, (some 15), .mv (.t 117)⟩])
    (.seq (.reg [⟨none, (some 119), .load true 9 (.t 3)⟩,
      ⟨none, (some 120), .mv (.t 7)⟩,
      ⟨none, (some 121), .call 17 [(.t 119), (.t 120)]⟩,
      ⟨none, (some 118), .mv (.t 121)⟩,
      ⟨none, (some 122), .extract 0 (.t 118)⟩,
      ⟨none, (some 123), .extract 1 (.t 118)⟩,
      ⟨none, (some 16), .mv (.t 122)⟩,
      ⟨none, (some 17), .mv (.t 123)⟩])
    (.seq (.reg [⟨none, (some 125), .load true 9 (.t 8)⟩,
      ⟨none, (some 126), .load true 2 (.t 9)⟩,
      ⟨none, (some 127), .bsl 13 40 2 [(.t 126)] []⟩,
      ⟨none, (some 128), .call 17 [(.t 125), (.t 127)]⟩,
      ⟨none, (some 124), .mv (.t 128)⟩,
      ⟨none, (some 129), .extract 0 (.t 124)⟩,
      ⟨none, (some 130), .extract 1 (.t 124)⟩,
      ⟨none, (some 18), .mv (.t 129)⟩,
      ⟨none, (some 19), .mv (.t 130)⟩])
    (.seq (.reg [⟨none, (some 132), .load true 9 (.t 3)⟩,
      ⟨none, (some 133), .faddr 1 (.t 4)⟩,
      ⟨none, (some 134), .load false 1 (.t 133)⟩,
      ⟨none, (some 135), .call 25 [(.t 132), (.t 134)]⟩,
      ⟨none, (some 131), .mv (.t 135)⟩,
      ⟨none, (some 136), .extract 0 (.t 131)⟩,
      ⟨none, (some 137), .extract 1 (.t 131)⟩,
      ⟨none, (some 20), .mv (.t 136)⟩,
      ⟨none, (some 21), .mv (.t 137)⟩])
    (.seq (.reg [⟨none, (some 139), .load true 9 (.t 8)⟩,
      ⟨none, (some 140), .faddr 1 (.t 4)⟩,
      ⟨none, (some 141), .load false 1 (.t 140)⟩,
      ⟨none, (some 142), .call 25 [(.t 139), (.t 141)]⟩,
      ⟨none, (some 138), .mv (.t 142)⟩,
      ⟨none, (some 143), .extract 0 (.t 138)⟩,
      ⟨none, (some 144), .extract 1 (.t 138)⟩,
      ⟨none, (some 22), .mv (.t 143)⟩,
      ⟨none, (some 23), .mv (.t 144)⟩])
    (.seq (.seq (.reg [⟨none, (some 145), .mv (.t 12)⟩,
      ⟨none, (some 146), .bin .neq (.t 145) (.c (.int .i64 0))⟩,
      ⟨none, (some 147), .mv (.t 146)⟩,
      ⟨(some (147, false)), (some 148), .mv (.t 15)⟩,
      ⟨(some (147, false)), (some 149), .bin .neq (.t 148) (.c (.int .i64 0))⟩,
      ⟨none, (some 150), .pick (.t 147) (.c (.bool true)) (.t 149)⟩,
      ⟨none, (some 151), .mv (.t 150)⟩,
      ⟨(some (151, false)), (some 152), .mv (.t 17)⟩,
      ⟨(some (151, false)), (some 153), .bin .neq (.t 152) (.c (.int .i64 0))⟩,
      ⟨none, (some 154), .pick (.t 151) (.c (.bool true)) (.t 153)⟩,
      ⟨none, (some 155), .mv (.t 154)⟩,
      ⟨(some (155, false)), (some 156), .mv (.t 19)⟩,
      ⟨(some (155, false)), (some 157), .bin .neq (.t 156) (.c (.int .i64 0))⟩,
      ⟨none, (some 158), .pick (.t 155) (.c (.bool true)) (.t 157)⟩,
      ⟨none, (some 159), .mv (.t 158)⟩,
      ⟨(some (159, false)), (some 160), .mv (.t 21)⟩,
      ⟨(some (159, false)), (some 161), .bin .neq (.t 160) (.c (.int .i64 0))⟩,
      ⟨none, (some 162), .pick (.t 159) (.c (.bool true)) (.t 161)⟩,
      ⟨none, (some 163), .mv (.t 162)⟩,
      ⟨(some (163, false)), (some 164), .mv (.t 23)⟩,
      ⟨(some (163, false)), (some 165), .bin .neq (.t 164) (.c (.int .i64 0))⟩,
      ⟨none, (some 166), .pick (.t 163) (.c (.bool true)) (.t 165)⟩,
      ⟨none, (some 167), .mv (.t 166)⟩,
      ⟨(some (167, false)), (some 168), .mv (.t 13)⟩,
      ⟨(some (167, false)), (some 169), .len (.t 168)⟩,
      ⟨(some (167, false)), (some 170), .mv (.t 14)⟩,
      ⟨(some (167, false)), (some 171), .len (.t 170)⟩,
      ⟨(some (167, false)), (some 172), .bin .add (.t 169) (.t 171)⟩,
      ⟨(some (167, false)), (some 173), .bin .gtr (.t 172) (.c (.int .i64 40))⟩,
      ⟨none, (some 174), .pick (.t 167) (.c (.bool true)) (.t 173)⟩])
    (.cond (.t 174) (.seq (.reg [⟨none, (some 6), .mv (.c (.bool false))⟩])
    .ret)
    .skip))
    (.seq (.reg [⟨none, (some 175), .mv (.t 13)⟩,
      ⟨none, (some 176), .mv (.t 10)⟩,
      ⟨none, (some 177), .call 26 [(.t 175), (.t 176)]⟩,
      ⟨none, (some 178), .mv (.t 177)⟩,
      ⟨(some (178, true)), (some 179), .mv (.t 14)⟩,
      ⟨(some (178, true)), (some 180), .mv (.t 11)⟩,
      ⟨(some (178, true)), (some 181), .call 26 [(.t 179), (.t 180)]⟩,
      ⟨none, (some 182), .pick (.t 178) (.t 181) (.c (.bool false))⟩,
      ⟨none, (some 183), .mv (.t 182)⟩,
      ⟨(some (183, true)), (some 184), .mv (.t 16)⟩,
      ⟨(some (183, true)), (some 185), .bin .neq (.t 184) (.c (.int .i64 1))⟩,
      ⟨(some (183, true)), (some 186), .mv (.t 185)⟩,
      ⟨(some (186, false)), (some 187), .mv (.t 18)⟩,
      ⟨(some (186, false)), (some 188), .bin .eql (.t 187) (.c (.int .i64 1))⟩,
      ⟨(some (183, true)), (some 189), .pick (.t 186) (.c (.bool true)) (.t 188)⟩,
      ⟨none, (some 190), .pick (.t 183) (.t 189) (.c (.bool false))⟩,
      ⟨none, (some 191), .mv (.t 190)⟩,
      ⟨(some (191, true)), (some 192), .mv (.t 18)⟩,
      ⟨(some (191, true)), (some 193), .bin .neq (.t 192) (.c (.int .i64 2))⟩,
      ⟨(some (191, true)), (some 194), .mv (.t 193)⟩,
      ⟨(some (194, false)), (some 195), .mv (.t 16)⟩,
      ⟨(some (194, false)), (some 196), .bin .eql (.t 195) (.c (.int .i64 2))⟩,
      ⟨(some (191, true)), (some 197), .pick (.t 194) (.c (.bool true)) (.t 196)⟩,
      ⟨none, (some 198), .pick (.t 191) (.t 197) (.c (.bool false))⟩,
      ⟨none, (some 199), .mv (.t 198)⟩,
      ⟨(some (199, true)), (some 200), .mv (.t 22)⟩,
      ⟨(some (199, true)), (some 201), .mv (.t 20)⟩,
      ⟨(some (199, true)), (some 202), .bin .geq (.t 200) (.t 201)⟩,
      ⟨none, (some 203), .pick (.t 199) (.t 202) (.c (.bool false))⟩,
      ⟨none, (some 204), .mv (.t 203)⟩,
      ⟨(some (204, true)), (some 205), .call 12 []⟩,
      ⟨none, (some 206), .pick (.t 204) (.t 205) (.c (.bool false))⟩,
      ⟨none, (some 6), .mv (.t 206)⟩])
    .ret)))))))))))))))
theorem ok4 : FnOk Try.prog 4 207 14 c4 [.t 6] := ⟨_, _, Try.func4, rfl, rfl, by kernel_rfl, by kernel_rfl⟩
theorem bd4 : bodied Try.prog 4 = true := by kernel_rfl

/-- ferrule/ferrulelaw05.GustsBetter -/
def c5 : CI := (.seq (.reg [⟨none, (some 3), .box 0 true (.t 0)⟩,
      ⟨none, (some 5), .box 1 true (.t 2)⟩,
      ⟨none, (some 6), .mv (.c (.bool false))⟩])
    (.seq (.seq (.reg [⟨none, (some 23), .load true 9 (.t 3)⟩,
      ⟨none, (some 24), .mv (.t 1)⟩,
      ⟨none, (some 25), .call 10 [(.t 23), (.t 24)]⟩,
      ⟨none, (some 26), .un .not (.t 25)⟩,
      ⟨none, (some 27), .mv (.t 26)⟩,
      ⟨(some (27, false)), (some 28), .load true 9 (.t 3)⟩,
      ⟨(some (27, false)), (some 29), .faddr 0 (.t 5)⟩,
      ⟨(some (27, false)), (some 30), .load false 1 (.t 29)⟩,
      ⟨(some (27, false)), (some 31), .call 23 [(.t 28), (.t 30)]⟩,
      ⟨(some (27, false)), (some 32), .un .not (.t 31)⟩,
      ⟨none, (some 33), .pick (.t 27) (.c (.bool true)) (.t 32)⟩,
      ⟨none, (some 34), .mv (.t 33)⟩,
      ⟨(some (34, false)), (some 35), .faddr 1 (.t 5)⟩,
      ⟨(some (34, false)), (some 36), .load false 1 (.t 35)⟩,
      ⟨(some (34, false)), (some 37), .bin .lss (.t 36) (.c (.int .i64 0))⟩,
      ⟨none, (some 38), .pick (.t 34) (.c (.bool true)) (.t 37)⟩,
      ⟨none, (some 39), .mv (.t 38)⟩,
      ⟨(some (39, false)), (some 40), .faddr 2 (.t 5)⟩,
      ⟨(some (39, false)), (some 41), .load false 1 (.t 40)⟩,
      ⟨(some (39, false)), (some 42), .bin .lss (.t 41) (.c (.int .i64 0))⟩,
      ⟨none, (some 43), .pick (.t 39) (.c (.bool true)) (.t 42)⟩,
      ⟨none, (some 44), .mv (.t 43)⟩,
      ⟨(some (44, false)), (some 45), .faddr 1 (.t 5)⟩,
      ⟨(some (44, false)), (some 46), .load false 1 (.t 45)⟩,
      ⟨(some (44, false)), (some 47), .bin .gtr (.t 46) (.c (.int .i64 99999))⟩,
      ⟨none, (some 48), .pick (.t 44) (.c (.bool true)) (.t 47)⟩,
      ⟨none, (some 49), .mv (.t 48)⟩,
      ⟨(some (49, false)), (some 50), .faddr 2 (.t 5)⟩,
      ⟨(some (49, false)), (some 51), .load false 1 (.t 50)⟩,
      ⟨(some (49, false)), (some 52), .bin .gtr (.t 51) (.c (.int .i64 99999))⟩,
      ⟨none, (some 53), .pick (.t 49) (.c (.bool true)) (.t 52)⟩])
    (.cond (.t 53) (.seq (.reg [⟨none, (some 54), .call 12 []⟩,
      ⟨none, (some 6), .mv (.t 54)⟩])
    .ret)
    .skip))
    (.seq (.reg [⟨none, (some 55), .load true 9 (.t 3)⟩,
      ⟨none, (some 56), .callw 2 3 24 [(.t 55)]⟩,
      ⟨none, (some 7), .alloc 5 [.nils, (.int .i64 0), (.int .i64 0), (.int .i64 0), (.int .i64 0), (.int .i64 0), (.int .i64 0), .nils, .nils]⟩,
      ⟨none, none, .stz true 9 (.t 7) (.t 56) []⟩])
    (.seq (.reg [⟨none, (some 57), .faddr 7 (.t 7)⟩,
      ⟨none, (some 58), .load false 1 (.t 57)⟩,
      ⟨none, (some 59), .faddr 0 (.t 5)⟩,
      ⟨none, (some 60), .load false 1 (.t 59)⟩,
      ⟨none, (some 61), .faddr 7 (.t 3)⟩,
      ⟨none, (some 62), .load false 1 (.t 61)⟩,
      ⟨none, (some 63), .faddr 0 (.t 5)⟩,
      ⟨none, (some 64), .load false 1 (.t 63)⟩,
      ⟨none, (some 65), .iaddr 2 (.t 62) (.t 64)⟩,
      ⟨none, (some 66), .faddr 0 (.t 65)⟩,
      ⟨none, (some 67), .load false 1 (.t 66)⟩,
      ⟨none, (some 68), .faddr 1 (.t 5)⟩,
      ⟨none, (some 69), .load false 1 (.t 68)⟩,
      ⟨none, (some 70), .bin .add (.t 67) (.t 69)⟩,
      ⟨none, (some 71), .faddr 7 (.t 3)⟩,
      ⟨none, (some 72), .load false 1 (.t 71)⟩,
      ⟨none, (some 73), .faddr 0 (.t 5)⟩,
      ⟨none, (some 74), .load false 1 (.t 73)⟩,
      ⟨none, (some 75), .iaddr 2 (.t 72) (.t 74)⟩,
      ⟨none, (some 76), .faddr 1 (.t 75)⟩,
      ⟨none, (some 77), .load false 1 (.t 76)⟩,
      ⟨none, (some 78), .faddr 2 (.t 5)⟩,
      ⟨none, (some 79), .load false 1 (.t 78)⟩,
      ⟨none, (some 80), .bin .sub (.t 77) (.t 79)⟩,
      ⟨none, (some 81), .build [(.int .i64 0), (.int .i64 0)] [(0, 1, (.t 70)), (1, 1, (.t 80))]⟩,
      ⟨none, (some 82), .iaddr 2 (.t 58) (.t 60)⟩,
      ⟨none, none, .store true 2 (.t 82) (.t 81) []⟩])
    (.seq (.seq (.reg [⟨none, (some 83), .load true 9 (.t 7)⟩,
      ⟨none, (some 84), .mv (.t 1)⟩,
      ⟨none, (some 85), .call 10 [(.t 83), (.t 84)]⟩,
      ⟨none, (some 86), .un .not (.t 85)⟩])
    (.cond (.t 86) (.seq (.reg [⟨none, (some 87), .call 12 []⟩,
      ⟨none, (some 6), .mv (.t 87)⟩])
    .ret)
    .skip))
    (.seq (.seq (.reg [⟨none, (some 8), .mv (.c (.int .i64 0))⟩])
    (.block 0 (.loop (.seq (.seq (.reg [⟨none, (some 88), .mv (.t 8)⟩,
      ⟨none, (some 89), .mv (.t 1)⟩,
      ⟨none, (some 90), .len (.t 89)⟩,
      ⟨none, (some 91), .bin .lss (.t 88) (.t 90)⟩])
    (.cond (.t 91) .skip
    (.exit 0)))
    (.seq (.block 1 (.seq (.reg [⟨none, (some 95), .load true 9 (.t 3)⟩,
      ⟨none, (some 96), .mv (.t 1)⟩,
      ⟨none, (some 97), .mv (.t 8)⟩,
      ⟨none, (some 98), .iaddr 2 (.t 96) (.t 97)⟩,
      ⟨none, (some 99), .load true 2 (.t 98)⟩,
      ⟨none, (some 100), .callz 6 2 16 [(.t 95), (.t 99)] []⟩,
      ⟨none, (some 94), .mv (.t 100)⟩,
      ⟨none, (some 101), .extract 0 (.t 94)⟩,
      ⟨none, (some 102), .extract 1 (.t 94)⟩,
      ⟨none, (some 103), .extract 2 (.t 94)⟩,
      ⟨none, (some 9), .mv (.t 101)⟩,
      ⟨none, (some 10), .mv (.t 102)⟩,
      ⟨none, (some 11), .mv (.t 103)⟩])
    (.seq (.reg [⟨none, (some 105), .load true 9 (.t 7)⟩,
      ⟨none, (some 106), .mv (.t 1)⟩,
      ⟨none, (some 107), .mv (.t 8)⟩,
      ⟨none, (some 108), .iaddr 2 (.t 106) (.t 107)⟩,
      ⟨none, (some 109), .load true 2 (.t 108)⟩,
      ⟨none, (some 110), .callz 8 2 16 [(.t 105), (.t 109)] []⟩,
      ⟨none, (some 104), .mv (.t 110)⟩,
      ⟨none, (some 111), .extract 0 (.t 104)⟩,
      ⟨none, (some 112), .extract 1 (.t 104)⟩,
      ⟨none, (some 113), .extract 2 (.t 104)⟩,
      ⟨none, (some 12), .mv (.t 111)⟩,
      ⟨none, (some 13), .mv (.t 112)⟩,
      ⟨none, (some 14), .mv (.t 113)⟩])
    (.seq (.reg [⟨none, (some 114), .mv (.t 11)⟩,
      ⟨none, (some 115), .bin .neq (.t 114) (.c (.int .i64 0))⟩,
      ⟨none, (some 116), .mv (.t 115)⟩,
      ⟨(some (116, false)), (some 117), .mv (.t 14)⟩,
      ⟨(some (116, false)), (some 118), .bin .neq (.t 117) (.c (.int .i64 0))⟩,
      ⟨none, (some 119), .pick (.t 116) (.c (.bool true)) (.t 118)⟩,
      ⟨none, (some 120), .mv (.t 119)⟩,
      ⟨(some (120, false)), (some 121), .mv (.t 9)⟩,
      ⟨(some (120, false)), (some 122), .mv (.t 12)⟩,
      ⟨(some (120, false)), (some 123), .call 26 [(.t 121), (.t 122)]⟩,
      ⟨(some (120, false)), (some 124), .un .not (.t 123)⟩,
      ⟨none, (some 125), .pick (.t 120) (.c (.bool true)) (.t 124)⟩,
      ⟨none, (some 126), .mv (.t 125)⟩,
      ⟨(some (126, false)), (some 127), .mv (.t 13)⟩,
      ⟨(some (126, false)), (some 128), .mv (.t 10)⟩,
      ⟨(some (126, false)), (some 129), .call 26 [(.t 127), (.t 128)]⟩,
      ⟨(some (126, false)), (some 130), .un .not (.t 129)⟩,
      ⟨none, (some 131), .pick (.t 126) (.c (.bool true)) (.t 130)⟩])
    (.cond (.t 131) (.seq (.reg [⟨none, (some 6), .mv (.c (.bool false))⟩])
    .ret)
    .skip)))))
    (.reg [⟨none, (some 92), .mv (.t 8)⟩,
      ⟨none, (some 93), .bin .add (.t 92) (.c (.int .i64 1))⟩,
      ⟨none, (some 8), .mv (.t 93)⟩]))))))
    (.seq (.reg [⟨none, (some 133), .load true 9 (.t 3)⟩,
      ⟨none, (some 134), .mv (.t 1)⟩,
      ⟨none, (some 135), .call 17 [(.t 133), (.t 134)]⟩,
      ⟨none, (some 132), .mv (.t 135)⟩,
      ⟨none, (some 136), .extract 0 (.t 132)⟩,
      ⟨none, (some 137), .extract 1 (.t 132)⟩,
      ⟨none, (some 15), .mv (.t 136)⟩,
      ⟨none, (some 16), .mv (.t 137)⟩])
    (.seq (.reg [⟨none, (some 139), .load true 9 (.t 7)⟩,
      ⟨none, (some 140), .mv (.t 1)⟩,
      ⟨none, (some 141), .call 17 [(.t 139), (.t 140)]⟩,
      ⟨none, (some 138), .mv (.t 141)⟩,
      ⟨none, (some 142), .extract 0 (.t 138)⟩,
      ⟨none, (some 143), .extract 1 (.t 138)⟩,
      ⟨none, (some 17), .mv (.t 142)⟩,
      ⟨none, (some 18), .mv (.t 143)⟩])
    (.seq (.reg [⟨none, (some 145), .load true 9 (.t 3)⟩,
      ⟨none, (some 146), .mv (.t 1)⟩,
      ⟨none, (some 147), .callw 10 1 27 [(.t 145), (.t 146)]⟩,
      ⟨none, (some 144), .mv (.t 147)⟩,
      ⟨none, (some 148), .extract 0 (.t 144)⟩,
      ⟨none, (some 149), .extract 1 (.t 144)⟩,
      ⟨none, (some 19), .mv (.t 148)⟩,
      ⟨none, (some 20), .mv (.t 149)⟩])
    (.seq (.reg [⟨none, (some 151), .load true 9 (.t 7)⟩,
      ⟨none, (some 152), .mv (.t 1)⟩,
      ⟨none, (some 153), .callw 11 1 27 [(.t 151), (.t 152)]⟩,
      ⟨none, (some 150), .mv (.t 153)⟩,
      ⟨none, (some 154), .extract 0 (.t 150)⟩,
      ⟨none, (some 155), .extract 1 (.t 150)⟩,
      ⟨none, (some 21), .mv (.t 154)⟩,
      ⟨none, (some 22), .mv (.t 155)⟩])
    (.seq (.reg [⟨none, (some 156), .mv (.t 16)⟩,
      ⟨none, (some 157), .bin .eql (.t 156) (.c (.int .i64 0))⟩,
      ⟨none, (some 158), .mv (.t 157)⟩,
      ⟨(some (158, true)), (some 159), .mv (.t 18)⟩,
      ⟨(some (158, true)), (some 160), .bin .eql (.t 159) (.c (.int .i64 0))⟩,
      ⟨none, (some 161), .pick (.t 158) (.t 160) (.c (.bool false))⟩,
      ⟨none, (some 162), .mv (.t 161)⟩,
      ⟨(some (162, true)), (some 163), .mv (.t 20)⟩,
      ⟨(some (162, true)), (some 164), .bin .eql (.t 163) (.c (.int .i64 0))⟩,
      ⟨none, (some 165), .pick (.t 162) (.t 164) (.c (.bool false))⟩,
      ⟨none, (some 166), .mv (.t 165)⟩,
      ⟨(some (166, true)), (some 167), .mv (.t 22)⟩,
      ⟨(some (166, true)), (some 168), .bin .eql (.t 167) (.c (.int .i64 0))⟩,
      ⟨none, (some 169), .pick (.t 166) (.t 168) (.c (.bool false))⟩,
      ⟨none, (some 170), .mv (.t 169)⟩,
      ⟨(some (170, true)), (some 171), .mv (.t 15)⟩,
      ⟨(some (170, true)), (some 172), .bin .eql (.t 171) (.c (.int .i64 3))⟩,
      ⟨(some (170, true)), (some 173), .mv (.t 172)⟩,
      ⟨(some (173, false)), (some 174), .mv (.t 15)⟩,
      ⟨(some (173, false)), (some 175), .mv (.t 17)⟩,
      ⟨(some (173, false)), (some 176), .bin .eql (.t 174) (.t 175)⟩,
      ⟨(some (170, true)), (some 177), .pick (.t 173) (.c (.bool true)) (.t 176)⟩,
      ⟨none, (some 178), .pick (.t 170) (.t 177) (.c (.bool false))⟩,
      ⟨none, (some 179), .mv (.t 178)⟩,
      ⟨(some (179, true)), (some 180), .mv (.t 21)⟩,
      ⟨(some (179, true)), (some 181), .mv (.t 19)⟩,
      ⟨(some (179, true)), (some 182), .call 26 [(.t 180), (.t 181)]⟩,
      ⟨none, (some 183), .pick (.t 179) (.t 182) (.c (.bool false))⟩,
      ⟨none, (some 184), .mv (.t 183)⟩,
      ⟨(some (184, true)), (some 185), .call 12 []⟩,
      ⟨none, (some 186), .pick (.t 184) (.t 185) (.c (.bool false))⟩,
      ⟨none, (some 6), .mv (.t 186)⟩])
    .ret)))))))))))
theorem ok5 : FnOk Try.prog 5 187 12 c5 [.t 6] := ⟨_, _, Try.func5, rfl, rfl, by kernel_rfl, by kernel_rfl⟩
theorem bd5 : bodied Try.prog 5 = true := by kernel_rfl

/-- ferrule/ferrulelaw05.GustsMended -/
def c6 : CI := (.seq (.reg [⟨none, (some 3), .box 0 true (.t 0)⟩,
      ⟨none, (some 5), .box 1 true (.t 2)⟩,
      ⟨none, (some 6), .mv (.c (.bool false))⟩])
    (.seq (.seq (.reg [⟨none, (some 24), .load true 9 (.t 3)⟩,
      ⟨none, (some 25), .mv (.t 1)⟩,
      ⟨none, (some 26), .call 10 [(.t 24), (.t 25)]⟩,
      ⟨none, (some 27), .un .not (.t 26)⟩,
      ⟨none, (some 28), .mv (.t 27)⟩,
      ⟨(some (28, false)), (some 29), .load true 9 (.t 3)⟩,
      ⟨(some (28, false)), (some 30), .faddr 1 (.t 5)⟩,
      ⟨(some (28, false)), (some 31), .load false 1 (.t 30)⟩,
      ⟨(some (28, false)), (some 32), .call 23 [(.t 29), (.t 31)]⟩,
      ⟨(some (28, false)), (some 33), .un .not (.t 32)⟩,
      ⟨none, (some 34), .pick (.t 28) (.c (.bool true)) (.t 33)⟩])
    (.cond (.t 34) (.seq (.reg [⟨none, (some 35), .call 12 []⟩,
      ⟨none, (some 6), .mv (.t 35)⟩])
    .ret)
    .skip))
    (.seq (.reg [⟨none, (some 37), .load true 9 (.t 3)⟩,
      ⟨none, (some 38), .mv (.t 1)⟩,
      ⟨none, (some 39), .call 17 [(.t 37), (.t 38)]⟩,
      ⟨none, (some 36), .mv (.t 39)⟩,
      ⟨none, (some 40), .extract 0 (.t 36)⟩,
      ⟨none, (some 41), .extract 1 (.t 36)⟩,
      ⟨none, (some 7), .mv (.t 40)⟩,
      ⟨none, (some 8), .mv (.t 41)⟩])
    (.seq (.reg [⟨none, (some 43), .load true 9 (.t 3)⟩,
      ⟨none, (some 44), .mv (.t 1)⟩,
      ⟨none, (some 45), .callw 2 1 18 [(.t 43), (.t 44)]⟩,
      ⟨none, (some 42), .mv (.t 45)⟩,
      ⟨none, (some 46), .extract 0 (.t 42)⟩,
      ⟨none, (some 47), .extract 1 (.t 42)⟩,
      ⟨none, (some 48), .extract 2 (.t 42)⟩,
      ⟨none, (some 9), .mv (.t 46)⟩,
      ⟨none, (some 10), .mv (.t 47)⟩,
      ⟨none, (some 11), .mv (.t 48)⟩])
    (.seq (.reg [⟨none, (some 50), .load true 9 (.t 3)⟩,
      ⟨none, (some 51), .mv (.t 1)⟩,
      ⟨none, (some 52), .callw 3 1 27 [(.t 50), (.t 51)]⟩,
      ⟨none, (some 49), .mv (.t 52)⟩,
      ⟨none, (some 53), .extract 0 (.t 49)⟩,
      ⟨none, (some 54), .extract 1 (.t 49)⟩,
      ⟨none, (some 12), .mv (.t 53)⟩,
      ⟨none, (some 13), .mv (.t 54)⟩])
    (.seq (.seq (.reg [⟨none, (some 55), .mv (.t 8)⟩,
      ⟨none, (some 56), .bin .neq (.t 55) (.c (.int .i64 0))⟩,
      ⟨none, (some 57), .mv (.t 56)⟩,
      ⟨(some (57, false)), (some 58), .mv (.t 11)⟩,
      ⟨(some (57, false)), (some 59), .bin .neq (.t 58) (.c (.int .i64 0))⟩,
      ⟨(some (57, false)), (some 60), .mv (.t 59)⟩,
      ⟨(some (60, true)), (some 61), .mv (.t 11)⟩,
      ⟨(some (60, true)), (some 62), .bin .neq (.t 61) (.c (.int .i64 3))⟩,
      ⟨(some (57, false)), (some 63), .pick (.t 60) (.t 62) (.c (.bool false))⟩,
      ⟨none, (some 64), .pick (.t 57) (.c (.bool true)) (.t 63)⟩,
      ⟨none, (some 65), .mv (.t 64)⟩,
      ⟨(some (65, false)), (some 66), .mv (.t 13)⟩,
      ⟨(some (65, false)), (some 67), .bin .neq (.t 66) (.c (.int .i64 0))⟩,
      ⟨none, (some 68), .pick (.t 65) (.c (.bool true)) (.t 67)⟩,
      ⟨none, (some 69), .mv (.t 68)⟩,
      ⟨(some (69, false)), (some 70), .mv (.t 7)⟩,
      ⟨(some (69, false)), (some 71), .bin .eql (.t 70) (.c (.int .i64 1))⟩,
      ⟨(some (69, false)), (some 72), .mv (.t 11)⟩,
      ⟨(some (69, false)), (some 73), .bin .eql (.t 72) (.c (.int .i64 3))⟩,
      ⟨(some (69, false)), (some 74), .eqb true (.t 71) (.t 73)⟩,
      ⟨none, (some 75), .pick (.t 69) (.c (.bool true)) (.t 74)⟩,
      ⟨none, (some 76), .mv (.t 75)⟩,
      ⟨(some (76, false)), (some 77), .mv (.t 7)⟩,
      ⟨(some (76, false)), (some 78), .bin .eql (.t 77) (.c (.int .i64 1))⟩,
      ⟨(some (76, false)), (some 79), .mv (.t 12)⟩,
      ⟨(some (76, false)), (some 80), .len (.t 79)⟩,
      ⟨(some (76, false)), (some 81), .bin .eql (.t 80) (.c (.int .i64 0))⟩,
      ⟨(some (76, false)), (some 82), .eqb true (.t 78) (.t 81)⟩,
      ⟨none, (some 83), .pick (.t 76) (.c (.bool true)) (.t 82)⟩,
      ⟨none, (some 84), .mv (.t 83)⟩,
      ⟨(some (84, false)), (some 85), .mv (.t 10)⟩,
      ⟨(some (84, false)), (some 86), .mv (.t 12)⟩,
      ⟨(some (84, false)), (some 87), .call 26 [(.t 85), (.t 86)]⟩,
      ⟨(some (84, false)), (some 88), .un .not (.t 87)⟩,
      ⟨none, (some 89), .pick (.t 84) (.c (.bool true)) (.t 88)⟩,
      ⟨none, (some 90), .mv (.t 89)⟩,
      ⟨(some (90, false)), (some 91), .mv (.t 12)⟩,
      ⟨(some (90, false)), (some 92), .len (.t 91)⟩,
      ⟨(some (90, false)), (some 93), .faddr 7 (.t 3)⟩,
      ⟨(some (90, false)), (some 94), .load false 1 (.t 93)⟩,
      ⟨(some (90, false)), (some 95), .len (.t 94)⟩,
      ⟨(some (90, false)), (some 96), .bin .gtr (.t 92) (.t 95)⟩,
      ⟨none, (some 97), .pick (.t 90) (.c (.bool true)) (.t 96)⟩])
    (.cond (.t 97) (.seq (.reg [⟨none, (some 6), .mv (.c (.bool false))⟩])
    .ret)
    .skip))
    (.seq (.reg [⟨none, (some 98), .load true 9 (.t 3)⟩,
      ⟨none, (some 99), .callw 4 3 24 [(.t 98)]⟩,
      ⟨none, (some 14), .alloc 7 [.nils, (.int .i64 0), (.int .i64 0), (.int .i64 0), (.int .i64 0), (.int .i64 0), (.int .i64 0), .nils, .nils]⟩,
      ⟨none, none, .stz true 9 (.t 14) (.t 99) []⟩])
    (.seq (.seq (.reg [⟨none, (some 15), .mv (.c (.int .i64 0))⟩])
    (.block 0 (.loop (.seq (.seq (.reg [⟨none, (some 100), .mv (.t 15)⟩,
      ⟨none, (some 101), .mv (.t 12)⟩,
      ⟨none, (some 102), .len (.t 101)⟩,
      ⟨none, (some 103), .bin .lss (.t 100) (.t 102)⟩])
    (.cond (.t 103) .skip
    (.exit 0)))
    (.seq (.block 1 (.seq (.seq (.reg [⟨none, (some 106), .load true 9 (.t 3)⟩,
      ⟨none, (some 107), .mv (.t 12)⟩,
      ⟨none, (some 108), .mv (.t 15)⟩,
      ⟨none, (some 109), .iaddr 1 (.t 107) (.t 108)⟩,
      ⟨none, (some 110), .load false 1 (.t 109)⟩,
      ⟨none, (some 111), .call 23 [(.t 106), (.t 110)]⟩,
      ⟨none, (some 112), .un .not (.t 111)⟩])
    (.cond (.t 112) (.seq (.reg [⟨none, (some 6), .mv (.c (.bool false))⟩])
    .ret)
    .skip))
    (.reg [⟨none, (some 113), .faddr 7 (.t 14)⟩,
      ⟨none, (some 114), .load false 1 (.t 113)⟩,
      ⟨none, (some 115), .mv (.t 12)⟩,
      ⟨none, (some 116), .mv (.t 15)⟩,
      ⟨none, (some 117), .iaddr 1 (.t 115) (.t 116)⟩,
      ⟨none, (some 118), .load false 1 (.t 117)⟩,
      ⟨none, (some 119), .build [(.int .i64 0), (.int .i64 0)] [(0, 1, (.c (.int .i64 99999))), (1, 1, (.c (.int .i64 99999)))]⟩,
      ⟨none, (some 120), .iaddr 2 (.t 114) (.t 118)⟩,
      ⟨none, none, .store true 2 (.t 120) (.t 119) []⟩])))
    (.reg [⟨none, (some 104), .mv (.t 15)⟩,
      ⟨none, (some 105), .bin .add (.t 104) (.c (.int .i64 1))⟩,
      ⟨none, (some 15), .mv (.t 105)⟩]))))))
    (.seq (.seq (.reg [⟨none, (some 122), .load true 9 (.t 14)⟩,
      ⟨none, (some 123), .mv (.t 1)⟩,
      ⟨none, (some 124), .call 17 [(.t 122), (.t 123)]⟩,
      ⟨none, (some 121), .mv (.t 124)⟩,
      ⟨none, (some 125), .extract 0 (.t 121)⟩,
      ⟨none, (some 126), .extract 1 (.t 121)⟩,
      ⟨none, (some 16), .mv (.t 125)⟩,
      ⟨none, (some 17), .mv (.t 126)⟩])
    (.seq (.reg [⟨none, (some 127), .mv (.t 17)⟩,
      ⟨none, (some 128), .bin .neq (.t 127) (.c (.int .i64 0))⟩,
      ⟨none, (some 129), .mv (.t 128)⟩,
      ⟨(some (129, false)), (some 130), .mv (.t 16)⟩,
      ⟨(some (129, false)), (some 131), .bin .neq (.t 130) (.c (.int .i64 1))⟩,
      ⟨none, (some 132), .pick (.t 129) (.c (.bool true)) (.t 131)⟩])
    (.cond (.t 132) (.seq (.reg [⟨none, (some 6), .mv (.c (.bool false))⟩])
    .ret)
    .skip)))
    (.seq (.seq (.reg [⟨none, (some 133), .faddr 0 (.t 5)⟩,
      ⟨none, (some 134), .load false 1 (.t 133)⟩,
      ⟨none, (some 135), .bin .geq (.t 134) (.c (.int .i64 0))⟩,
      ⟨none, (some 136), .mv (.t 135)⟩,
      ⟨(some (136, true)), (some 137), .faddr 0 (.t 5)⟩,
      ⟨(some (136, true)), (some 138), .load false 1 (.t 137)⟩,
      ⟨(some (136, true)), (some 139), .mv (.t 12)⟩,
      ⟨(some (136, true)), (some 140), .len (.t 139)⟩,
      ⟨(some (136, true)), (some 141), .bin .lss (.t 138) (.t 140)⟩,
      ⟨none, (some 142), .pick (.t 136) (.t 141) (.c (.bool false))⟩])
    (.cond (.t 142) (.seq (.reg [⟨none, (some 143), .faddr 7 (.t 14)⟩,
      ⟨none, (some 144), .load false 1 (.t 143)⟩,
      ⟨none, (some 145), .mv (.t 12)⟩,
      ⟨none, (some 146), .faddr 0 (.t 5)⟩,
      ⟨none, (some 147), .load false 1 (.t 146)⟩,
      ⟨none, (some 148), .iaddr 1 (.t 145) (.t 147)⟩,
      ⟨none, (some 149), .load false 1 (.t 148)⟩,
      ⟨none, (some 150), .faddr 7 (.t 3)⟩,
      ⟨none, (some 151), .load false 1 (.t 150)⟩,
      ⟨none, (some 152), .mv (.t 12)⟩,
      ⟨none, (some 153), .faddr 0 (.t 5)⟩,
      ⟨none, (some 154), .load false 1 (.t 153)⟩,
      ⟨none, (some 155), .iaddr 1 (.t 152) (.t 154)⟩,
      ⟨none, (some 156), .load false 1 (.t 155)⟩,
      ⟨none, (some 157), .iaddr 2 (.t 151) (.t 156)⟩,
      ⟨none, (some 158), .load true 2 (.t 157)⟩,
      ⟨none, (some 159), .iaddr 2 (.t 144) (.t 149)⟩,
      ⟨none, none, .store true 2 (.t 159) (.t 158) []⟩])
    (.seq (.reg [⟨none, (some 161), .load true 9 (.t 14)⟩,
      ⟨none, (some 162), .mv (.t 1)⟩,
      ⟨none, (some 163), .call 17 [(.t 161), (.t 162)]⟩,
      ⟨none, (some 160), .mv (.t 163)⟩,
      ⟨none, (some 164), .extract 0 (.t 160)⟩,
      ⟨none, (some 165), .extract 1 (.t 160)⟩,
      ⟨none, (some 18), .mv (.t 164)⟩,
      ⟨none, (some 19), .mv (.t 165)⟩])
    (.seq (.reg [⟨none, (some 166), .mv (.t 19)⟩,
      ⟨none, (some 167), .bin .neq (.t 166) (.c (.int .i64 0))⟩,
      ⟨none, (some 168), .mv (.t 167)⟩,
      ⟨(some (168, false)), (some 169), .mv (.t 18)⟩,
      ⟨(some (168, false)), (some 170), .bin .eql (.t 169) (.c (.int .i64 1))⟩,
      ⟨none, (some 171), .pick (.t 168) (.c (.bool true)) (.t 170)⟩])
    (.cond (.t 171) (.seq (.reg [⟨none, (some 6), .mv (.c (.bool false))⟩])
    .ret)
    .skip))))
    .skip))
    (.seq (.reg [⟨none, (some 173), .load true 9 (.t 3)⟩,
      ⟨none, (some 174), .faddr 1 (.t 5)⟩,
      ⟨none, (some 175), .load false 1 (.t 174)⟩,
      ⟨none, (some 176), .call 25 [(.t 173), (.t 175)]⟩,
      ⟨none, (some 172), .mv (.t 176)⟩,
      ⟨none, (some 177), .extract 0 (.t 172)⟩,
      ⟨none, (some 178), .extract 1 (.t 172)⟩,
      ⟨none, (some 20), .mv (.t 177)⟩,
      ⟨none, (some 21), .mv (.t 178)⟩])
    (.seq (.seq (.reg [⟨none, (some 179), .mv (.t 21)⟩,
      ⟨none, (some 180), .bin .neq (.t 179) (.c (.int .i64 0))⟩,
      ⟨none, (some 181), .mv (.t 180)⟩,
      ⟨(some (181, false)), (some 182), .mv (.t 20)⟩,
      ⟨(some (181, false)), (some 183), .bin .lss (.t 182) (.c (.int .i64 0))⟩,
      ⟨none, (some 184), .pick (.t 181) (.c (.bool true)) (.t 183)⟩,
      ⟨none, (some 185), .mv (.t 184)⟩,
      ⟨(some (185, false)), (some 186), .mv (.t 20)⟩,
      ⟨(some (185, false)), (some 187), .bin .gtr (.t 186) (.c (.int .i64 99))⟩,
      ⟨none, (some 188), .pick (.t 185) (.c (.bool true)) (.t 187)⟩])
    (.cond (.t 188) (.seq (.reg [⟨none, (some 6), .mv (.c (.bool false))⟩])
    .ret)
    .skip))
    (.seq (.reg [⟨none, (some 190), .load true 9 (.t 3)⟩,
      ⟨none, (some 191), .mv (.t 20)⟩,
      ⟨none, (some 192), .faddr 1 (.t 5)⟩,
      ⟨none, (some 193), .load false 1 (.t 192)⟩,
      ⟨none, (some 194), .build [(.int .i64 0), (.int .i64 0)] [(0, 1, (.t 191)), (1, 1, (.t 193))]⟩,
      ⟨none, (some 195), .bsl 8 40 2 [(.t 194)] []⟩,
      ⟨none, (some 196), .call 17 [(.t 190), (.t 195)]⟩,
      ⟨none, (some 189), .mv (.t 196)⟩,
      ⟨none, (some 197), .extract 0 (.t 189)⟩,
      ⟨none, (some 198), .extract 1 (.t 189)⟩,
      ⟨none, (some 22), .mv (.t 197)⟩,
      ⟨none, (some 23), .mv (.t 198)⟩])
    (.seq (.seq (.reg [⟨none, (some 199), .mv (.t 23)⟩,
      ⟨none, (some 200), .bin .neq (.t 199) (.c (.int .i64 0))⟩,
      ⟨none, (some 201), .mv (.t 200)⟩,
      ⟨(some (201, false)), (some 202), .mv (.t 22)⟩,
      ⟨(some (201, false)), (some 203), .bin .neq (.t 202) (.c (.int .i64 1))⟩,
      ⟨none, (some 204), .pick (.t 201) (.c (.bool true)) (.t 203)⟩])
    (.cond (.t 204) (.seq (.reg [⟨none, (some 6), .mv (.c (.bool false))⟩])
    .ret)
    .skip))
    (.seq (.seq (.reg [⟨none, (some 205), .mv (.t 20)⟩,
      ⟨none, (some 206), .bin .lss (.t 205) (.c (.int .i64 99))⟩])
    (.cond (.t 206) (.seq (.reg [⟨none, (some 208), .load true 9 (.t 3)⟩,
      ⟨none, (some 209), .mv (.t 20)⟩,
      ⟨none, (some 210), .bin .add (.t 209) (.c (.int .i64 1))⟩,
      ⟨none, (some 211), .faddr 1 (.t 5)⟩,
      ⟨none, (some 212), .load false 1 (.t 211)⟩,
      ⟨none, (some 213), .build [(.int .i64 0), (.int .i64 0)] [(0, 1, (.t 210)), (1, 1, (.t 212))]⟩,
      ⟨none, (some 214), .bsl 9 40 2 [(.t 213)] []⟩,
      ⟨none, (some 215), .call 17 [(.t 208), (.t 214)]⟩,
      ⟨none, (some 207), .mv (.t 215)⟩,
      ⟨none, (some 216), .extract 0 (.t 207)⟩,
      ⟨none, (some 217), .extract 1 (.t 207)⟩,
      ⟨none, (some 22), .mv (.t 216)⟩,
      ⟨none, (some 23), .mv (.t 217)⟩])
    (.seq (.reg [⟨none, (some 218), .mv (.t 23)⟩,
      ⟨none, (some 219), .bin .eql (.t 218) (.c (.int .i64 0))⟩,
      ⟨none, (some 220), .mv (.t 219)⟩,
      ⟨(some (220, true)), (some 221), .mv (.t 22)⟩,
      ⟨(some (220, true)), (some 222), .bin .neq (.t 221) (.c (.int .i64 1))⟩,
      ⟨none, (some 223), .pick (.t 220) (.t 222) (.c (.bool false))⟩,
      ⟨none, (some 224), .mv (.t 223)⟩,
      ⟨(some (224, true)), (some 225), .call 12 []⟩,
      ⟨none, (some 226), .pick (.t 224) (.t 225) (.c (.bool false))⟩,
      ⟨none, (some 6), .mv (.t 226)⟩])
    .ret))
    .skip))
    (.seq (.reg [⟨none, (some 227), .call 12 []⟩,
      ⟨none, (some 6), .mv (.t 227)⟩])
    .ret))))))))))))))))
theorem ok6 : FnOk Try.prog 6 228 10 c6 [.t 6] := ⟨_, _, Try.func6, rfl, rfl, by kernel_rfl, by kernel_rfl⟩
theorem bd6 : bodied Try.prog 6 = true := by kernel_rfl

/-- ferrule/ferrulelaw05.GustsTurned -/
def c7 : CI := (.seq (.reg [⟨none, (some 3), .box 0 true (.t 0)⟩,
      ⟨none, (some 4), .box 1 true (.t 1)⟩,
      ⟨none, (some 6), .mv (.c (.bool false))⟩])
    (.seq (.seq (.reg [⟨none, (some 19), .load true 9 (.t 3)⟩,
      ⟨none, (some 20), .load true 2 (.t 4)⟩,
      ⟨none, (some 21), .bsl 2 40 2 [(.t 20)] []⟩,
      ⟨none, (some 22), .call 10 [(.t 19), (.t 21)]⟩,
      ⟨none, (some 23), .un .not (.t 22)⟩,
      ⟨none, (some 24), .mv (.t 23)⟩,
      ⟨(some (24, false)), (some 25), .mv (.t 2)⟩,
      ⟨(some (24, false)), (some 26), .bin .lss (.t 25) (.c (.int .i64 0))⟩,
      ⟨none, (some 27), .pick (.t 24) (.c (.bool true)) (.t 26)⟩,
      ⟨none, (some 28), .mv (.t 27)⟩,
      ⟨(some (28, false)), (some 29), .mv (.t 2)⟩,
      ⟨(some (28, false)), (some 30), .bin .gtr (.t 29) (.c (.int .i64 100))⟩,
      ⟨none, (some 31), .pick (.t 28) (.c (.bool true)) (.t 30)⟩])
    (.cond (.t 31) (.seq (.reg [⟨none, (some 32), .call 12 []⟩,
      ⟨none, (some 6), .mv (.t 32)⟩])
    .ret)
    .skip))
    (.seq (.reg [⟨none, (some 33), .faddr 7 (.t 3)⟩,
      ⟨none, (some 34), .load false 1 (.t 33)⟩,
      ⟨none, (some 35), .len (.t 34)⟩,
      ⟨none, (some 7), .mv (.t 35)⟩])
    (.seq (.reg [⟨none, (some 36), .load true 9 (.t 3)⟩,
      ⟨none, (some 37), .callw 3 3 24 [(.t 36)]⟩,
      ⟨none, (some 8), .alloc 6 [.nils, (.int .i64 0), (.int .i64 0), (.int .i64 0), (.int .i64 0), (.int .i64 0), (.int .i64 0), .nils, .nils]⟩,
      ⟨none, none, .stz true 9 (.t 8) (.t 37) []⟩])
    (.seq (.seq (.reg [⟨none, (some 9), .mv (.c (.int .i64 0))⟩])
    (.block 0 (.loop (.seq (.seq (.reg [⟨none, (some 38), .mv (.t 9)⟩,
      ⟨none, (some 39), .mv (.t 7)⟩,
      ⟨none, (some 40), .bin .lss (.t 38) (.t 39)⟩])
    (.cond (.t 40) .skip
    (.exit 0)))
    (.seq (.block 1 (.reg [⟨none, (some 43), .faddr 7 (.t 8)⟩,
      ⟨none, (some 44), .load false 1 (.t 43)⟩,
      ⟨none, (some 45), .mv (.t 9)⟩,
      ⟨none, (some 46), .faddr 7 (.t 3)⟩,
      ⟨none, (some 47), .load false 1 (.t 46)⟩,
      ⟨none, (some 48), .mv (.t 9)⟩,
      ⟨none, (some 49), .mv (.t 2)⟩,
      ⟨none, (some 50), .bin .add (.t 48) (.t 49)⟩,
      ⟨none, (some 51), .mv (.t 7)⟩,
      ⟨none, (some 52), .bin .rem (.t 50) (.t 51)⟩,
      ⟨none, (some 53), .iaddr 2 (.t 47) (.t 52)⟩,
      ⟨none, (some 54), .load true 2 (.t 53)⟩,
      ⟨none, (some 55), .iaddr 2 (.t 44) (.t 45)⟩,
      ⟨none, none, .store true 2 (.t 55) (.t 54) []⟩]))
    (.reg [⟨none, (some 41), .mv (.t 9)⟩,
      ⟨none, (some 42), .bin .add (.t 41) (.c (.int .i64 1))⟩,
      ⟨none, (some 9), .mv (.t 42)⟩]))))))
    (.seq (.reg [⟨none, (some 56), .faddr 0 (.t 4)⟩,
      ⟨none, (some 57), .load false 1 (.t 56)⟩,
      ⟨none, (some 58), .faddr 1 (.t 4)⟩,
      ⟨none, (some 59), .load false 1 (.t 58)⟩,
      ⟨none, (some 60), .mv (.t 2)⟩,
      ⟨none, (some 61), .mv (.t 7)⟩,
      ⟨none, (some 62), .bin .rem (.t 60) (.t 61)⟩,
      ⟨none, (some 63), .bin .sub (.t 59) (.t 62)⟩,
      ⟨none, (some 64), .mv (.t 7)⟩,
      ⟨none, (some 65), .bin .add (.t 63) (.t 64)⟩,
      ⟨none, (some 66), .mv (.t 7)⟩,
      ⟨none, (some 67), .bin .rem (.t 65) (.t 66)⟩,
      ⟨none, (some 68), .build [(.int .i64 0), (.int .i64 0)] [(0, 1, (.t 57)), (1, 1, (.t 67))]⟩,
      ⟨none, (some 10), .alloc 7 [(.int .i64 0), (.int .i64 0)]⟩,
      ⟨none, none, .store true 2 (.t 10) (.t 68) []⟩])
    (.seq (.reg [⟨none, (some 70), .load true 9 (.t 3)⟩,
      ⟨none, (some 71), .load true 2 (.t 4)⟩,
      ⟨none, (some 72), .callw 8 2 16 [(.t 70), (.t 71)]⟩,
      ⟨none, (some 69), .mv (.t 72)⟩,
      ⟨none, (some 73), .extract 0 (.t 69)⟩,
      ⟨none, (some 74), .extract 1 (.t 69)⟩,
      ⟨none, (some 75), .extract 2 (.t 69)⟩,
      ⟨none, (some 11), .mv (.t 73)⟩,
      ⟨none, (some 12), .mv (.t 74)⟩,
      ⟨none, (some 13), .mv (.t 75)⟩])
    (.seq (.reg [⟨none, (some 77), .load true 9 (.t 8)⟩,
      ⟨none, (some 78), .load true 2 (.t 10)⟩,
      ⟨none, (some 79), .callw 10 2 16 [(.t 77), (.t 78)]⟩,
      ⟨none, (some 76), .mv (.t 79)⟩,
      ⟨none, (some 80), .extract 0 (.t 76)⟩,
      ⟨none, (some 81), .extract 1 (.t 76)⟩,
      ⟨none, (some 82), .extract 2 (.t 76)⟩,
      ⟨none, (some 14), .mv (.t 80)⟩,
      ⟨none, (some 15), .mv (.t 81)⟩,
      ⟨none, (some 16), .mv (.t 82)⟩])
    (.seq (.seq (.reg [⟨none, (some 83), .mv (.t 13)⟩,
      ⟨none, (some 84), .bin .neq (.t 83) (.c (.int .i64 0))⟩,
      ⟨none, (some 85), .mv (.t 84)⟩,
      ⟨(some (85, false)), (some 86), .mv (.t 16)⟩,
      ⟨(some (85, false)), (some 87), .bin .neq (.t 86) (.c (.int .i64 0))⟩,
      ⟨none, (some 88), .pick (.t 85) (.c (.bool true)) (.t 87)⟩,
      ⟨none, (some 89), .mv (.t 88)⟩,
      ⟨(some (89, false)), (some 90), .mv (.t 11)⟩,
      ⟨(some (89, false)), (some 91), .len (.t 90)⟩,
      ⟨(some (89, false)), (some 92), .mv (.t 14)⟩,
      ⟨(some (89, false)), (some 93), .len (.t 92)⟩,
      ⟨(some (89, false)), (some 94), .bin .neq (.t 91) (.t 93)⟩,
      ⟨none, (some 95), .pick (.t 89) (.c (.bool true)) (.t 94)⟩,
      ⟨none, (some 96), .mv (.t 95)⟩,
      ⟨(some (96, false)), (some 97), .mv (.t 12)⟩,
      ⟨(some (96, false)), (some 98), .len (.t 97)⟩,
      ⟨(some (96, false)), (some 99), .mv (.t 15)⟩,
      ⟨(some (96, false)), (some 100), .len (.t 99)⟩,
      ⟨(some (96, false)), (some 101), .bin .neq (.t 98) (.t 100)⟩,
      ⟨none, (some 102), .pick (.t 96) (.c (.bool true)) (.t 101)⟩,
      ⟨none, (some 103), .mv (.t 102)⟩,
      ⟨(some (103, false)), (some 104), .mv (.t 12)⟩,
      ⟨(some (103, false)), (some 105), .len (.t 104)⟩,
      ⟨(some (103, false)), (some 106), .mv (.t 7)⟩,
      ⟨(some (103, false)), (some 107), .bin .gtr (.t 105) (.t 106)⟩,
      ⟨none, (some 108), .pick (.t 103) (.c (.bool true)) (.t 107)⟩,
      ⟨none, (some 109), .mv (.t 108)⟩,
      ⟨(some (109, false)), (some 110), .mv (.t 11)⟩,
      ⟨(some (109, false)), (some 111), .len (.t 110)⟩,
      ⟨(some (109, false)), (some 112), .mv (.t 7)⟩,
      ⟨(some (109, false)), (some 113), .bin .gtr (.t 111) (.t 112)⟩,
      ⟨none, (some 114), .pick (.t 109) (.c (.bool true)) (.t 113)⟩])
    (.cond (.t 114) (.seq (.reg [⟨none, (some 6), .mv (.c (.bool false))⟩])
    .ret)
    .skip))
    (.seq (.seq (.reg [⟨none, (some 17), .mv (.c (.int .i64 0))⟩])
    (.block 2 (.loop (.seq (.seq (.reg [⟨none, (some 115), .mv (.t 17)⟩,
      ⟨none, (some 116), .mv (.t 14)⟩,
      ⟨none, (some 117), .len (.t 116)⟩,
      ⟨none, (some 118), .bin .lss (.t 115) (.t 117)⟩])
    (.cond (.t 118) .skip
    (.exit 2)))
    (.seq (.block 3 (.seq (.reg [⟨none, (some 121), .mv (.t 14)⟩,
      ⟨none, (some 122), .mv (.t 17)⟩,
      ⟨none, (some 123), .iaddr 1 (.t 121) (.t 122)⟩,
      ⟨none, (some 124), .load false 1 (.t 123)⟩,
      ⟨none, (some 125), .bin .lss (.t 124) (.c (.int .i64 0))⟩,
      ⟨none, (some 126), .mv (.t 125)⟩,
      ⟨(some (126, false)), (some 127), .mv (.t 14)⟩,
      ⟨(some (126, false)), (some 128), .mv (.t 17)⟩,
      ⟨(some (126, false)), (some 129), .iaddr 1 (.t 127) (.t 128)⟩,
      ⟨(some (126, false)), (some 130), .load false 1 (.t 129)⟩,
      ⟨(some (126, false)), (some 131), .mv (.t 7)⟩,
      ⟨(some (126, false)), (some 132), .bin .geq (.t 130) (.t 131)⟩,
      ⟨none, (some 133), .pick (.t 126) (.c (.bool true)) (.t 132)⟩,
      ⟨none, (some 134), .mv (.t 133)⟩,
      ⟨(some (134, false)), (some 135), .mv (.t 11)⟩,
      ⟨(some (134, false)), (some 136), .mv (.t 14)⟩,
      ⟨(some (134, false)), (some 137), .mv (.t 17)⟩,
      ⟨(some (134, false)), (some 138), .iaddr 1 (.t 136) (.t 137)⟩,
      ⟨(some (134, false)), (some 139), .load false 1 (.t 138)⟩,
      ⟨(some (134, false)), (some 140), .mv (.t 2)⟩,
      ⟨(some (134, false)), (some 141), .bin .add (.t 139) (.t 140)⟩,
      ⟨(some (134, false)), (some 142), .mv (.t 7)⟩,
      ⟨(some (134, false)), (some 143), .bin .rem (.t 141) (.t 142)⟩,
      ⟨(some (134, false)), (some 144), .call 21 [(.t 135), (.t 143)]⟩,
      ⟨(some (134, false)), (some 145), .un .not (.t 144)⟩,
      ⟨none, (some 146), .pick (.t 134) (.c (.bool true)) (.t 145)⟩])
    (.cond (.t 146) (.seq (.reg [⟨none, (some 6), .mv (.c (.bool false))⟩])
    .ret)
    .skip)))
    (.reg [⟨none, (some 119), .mv (.t 17)⟩,
      ⟨none, (some 120), .bin .add (.t 119) (.c (.int .i64 1))⟩,
      ⟨none, (some 17), .mv (.t 120)⟩]))))))
    (.seq (.seq (.reg [⟨none, (some 18), .mv (.c (.int .i64 0))⟩])
    (.block 4 (.loop (.seq (.seq (.reg [⟨none, (some 147), .mv (.t 18)⟩,
      ⟨none, (some 148), .mv (.t 15)⟩,
      ⟨none, (some 149), .len (.t 148)⟩,
      ⟨none, (some 150), .bin .lss (.t 147) (.t 149)⟩])
    (.cond (.t 150) .skip
    (.exit 4)))
    (.seq (.block 5 (.seq (.reg [⟨none, (some 153), .mv (.t 15)⟩,
      ⟨none, (some 154), .mv (.t 18)⟩,
      ⟨none, (some 155), .iaddr 1 (.t 153) (.t 154)⟩,
      ⟨none, (some 156), .load false 1 (.t 155)⟩,
      ⟨none, (some 157), .bin .lss (.t 156) (.c (.int .i64 0))⟩,
      ⟨none, (some 158), .mv (.t 157)⟩,
      ⟨(some (158, false)), (some 159), .mv (.t 15)⟩,
      ⟨(some (158, false)), (some 160), .mv (.t 18)⟩,
      ⟨(some (158, false)), (some 161), .iaddr 1 (.t 159) (.t 160)⟩,
      ⟨(some (158, false)), (some 162), .load false 1 (.t 161)⟩,
      ⟨(some (158, false)), (some 163), .mv (.t 7)⟩,
      ⟨(some (158, false)), (some 164), .bin .geq (.t 162) (.t 163)⟩,
      ⟨none, (some 165), .pick (.t 158) (.c (.bool true)) (.t 164)⟩,
      ⟨none, (some 166), .mv (.t 165)⟩,
      ⟨(some (166, false)), (some 167), .mv (.t 12)⟩,
      ⟨(some (166, false)), (some 168), .mv (.t 15)⟩,
      ⟨(some (166, false)), (some 169), .mv (.t 18)⟩,
      ⟨(some (166, false)), (some 170), .iaddr 1 (.t 168) (.t 169)⟩,
      ⟨(some (166, false)), (some 171), .load false 1 (.t 170)⟩,
      ⟨(some (166, false)), (some 172), .mv (.t 2)⟩,
      ⟨(some (166, false)), (some 173), .bin .add (.t 171) (.t 172)⟩,
      ⟨(some (166, false)), (some 174), .mv (.t 7)⟩,
      ⟨(some (166, false)), (some 175), .bin .rem (.t 173) (.t 174)⟩,
      ⟨(some (166, false)), (some 176), .call 21 [(.t 167), (.t 175)]⟩,
      ⟨(some (166, false)), (some 177), .un .not (.t 176)⟩,
      ⟨none, (some 178), .pick (.t 166) (.c (.bool true)) (.t 177)⟩])
    (.cond (.t 178) (.seq (.reg [⟨none, (some 6), .mv (.c (.bool false))⟩])
    .ret)
    .skip)))
    (.reg [⟨none, (some 151), .mv (.t 18)⟩,
      ⟨none, (some 152), .bin .add (.t 151) (.c (.int .i64 1))⟩,
      ⟨none, (some 18), .mv (.t 152)⟩]))))))
    (.seq (.reg [⟨none, (some 179), .call 12 []⟩,
      ⟨none, (some 6), .mv (.t 179)⟩])
    .ret))))))))))))
theorem ok7 : FnOk Try.prog 7 180 12 c7 [.t 6] := ⟨_, _, Try.func7, rfl, rfl, by kernel_rfl, by kernel_rfl⟩
theorem bd7 : bodied Try.prog 7 = true := by kernel_rfl

/-- ferrule/ferrulelaw05.GustsRounds -/
def c8 : CI := (.seq (.reg [⟨none, (some 2), .box 0 true (.t 0)⟩,
      ⟨none, (some 3), .box 1 true (.t 1)⟩,
      ⟨none, (some 4), .mv (.c (.bool false))⟩])
    (.seq (.seq (.reg [⟨none, (some 13), .load true 9 (.t 2)⟩,
      ⟨none, (some 14), .load true 2 (.t 3)⟩,
      ⟨none, (some 15), .bsl 2 40 2 [(.t 14)] []⟩,
      ⟨none, (some 16), .call 10 [(.t 13), (.t 15)]⟩,
      ⟨none, (some 17), .un .not (.t 16)⟩])
    (.cond (.t 17) (.seq (.reg [⟨none, (some 18), .call 12 []⟩,
      ⟨none, (some 4), .mv (.t 18)⟩])
    .ret)
    .skip))
    (.seq (.reg [⟨none, (some 20), .load true 9 (.t 2)⟩,
      ⟨none, (some 21), .load true 2 (.t 3)⟩,
      ⟨none, (some 22), .callw 3 2 16 [(.t 20), (.t 21)]⟩,
      ⟨none, (some 19), .mv (.t 22)⟩,
      ⟨none, (some 23), .extract 0 (.t 19)⟩,
      ⟨none, (some 24), .extract 1 (.t 19)⟩,
      ⟨none, (some 25), .extract 2 (.t 19)⟩,
      ⟨none, (some 5), .mv (.t 23)⟩,
      ⟨none, (some 6), .mv (.t 24)⟩,
      ⟨none, (some 7), .mv (.t 25)⟩])
    (.seq (.reg [⟨none, (some 27), .load true 9 (.t 2)⟩,
      ⟨none, (some 28), .load true 2 (.t 3)⟩,
      ⟨none, (some 29), .bsl 5 40 2 [(.t 28)] []⟩,
      ⟨none, (some 30), .callw 6 1 18 [(.t 27), (.t 29)]⟩,
      ⟨none, (some 26), .mv (.t 30)⟩,
      ⟨none, (some 31), .extract 0 (.t 26)⟩,
      ⟨none, (some 32), .extract 1 (.t 26)⟩,
      ⟨none, (some 33), .extract 2 (.t 26)⟩,
      ⟨none, (some 8), .mv (.t 31)⟩,
      ⟨none, (some 9), .mv (.t 32)⟩,
      ⟨none, (some 10), .mv (.t 33)⟩])
    (.seq (.seq (.reg [⟨none, (some 34), .mv (.t 7)⟩,
      ⟨none, (some 35), .bin .neq (.t 34) (.c (.int .i64 0))⟩,
      ⟨none, (some 36), .mv (.t 35)⟩,
      ⟨(some (36, false)), (some 37), .mv (.t 10)⟩,
      ⟨(some (36, false)), (some 38), .bin .neq (.t 37) (.c (.int .i64 0))⟩,
      ⟨(some (36, false)), (some 39), .mv (.t 38)⟩,
      ⟨(some (39, true)), (some 40), .mv (.t 10)⟩,
      ⟨(some (39, true)), (some 41), .bin .neq (.t 40) (.c (.int .i64 3))⟩,
      ⟨(some (36, false)), (some 42), .pick (.t 39) (.t 41) (.c (.bool false))⟩,
      ⟨none, (some 43), .pick (.t 36) (.c (.bool true)) (.t 42)⟩,
      ⟨none, (some 44), .mv (.t 43)⟩,
      ⟨(some (44, false)), (some 45), .mv (.t 10)⟩,
      ⟨(some (44, false)), (some 46), .bin .eql (.t 45) (.c (.int .i64 0))⟩,
      ⟨(some (44, false)), (some 47), .mv (.t 6)⟩,
      ⟨(some (44, false)), (some 48), .len (.t 47)⟩,
      ⟨(some (44, false)), (some 49), .bin .gtr (.t 48) (.c (.int .i64 0))⟩,
      ⟨(some (44, false)), (some 50), .eqb true (.t 46) (.t 49)⟩,
      ⟨none, (some 51), .pick (.t 44) (.c (.bool true)) (.t 50)⟩,
      ⟨none, (some 52), .mv (.t 51)⟩,
      ⟨(some (52, false)), (some 53), .mv (.t 9)⟩,
      ⟨(some (52, false)), (some 54), .len (.t 53)⟩,
      ⟨(some (52, false)), (some 55), .mv (.t 6)⟩,
      ⟨(some (52, false)), (some 56), .len (.t 55)⟩,
      ⟨(some (52, false)), (some 57), .bin .gtr (.t 54) (.t 56)⟩,
      ⟨none, (some 58), .pick (.t 52) (.c (.bool true)) (.t 57)⟩,
      ⟨none, (some 59), .mv (.t 58)⟩,
      ⟨(some (59, false)), (some 60), .mv (.t 5)⟩,
      ⟨(some (59, false)), (some 61), .mv (.t 6)⟩,
      ⟨(some (59, false)), (some 62), .call 26 [(.t 60), (.t 61)]⟩,
      ⟨(some (59, false)), (some 63), .un .not (.t 62)⟩,
      ⟨none, (some 64), .pick (.t 59) (.c (.bool true)) (.t 63)⟩,
      ⟨none, (some 65), .mv (.t 64)⟩,
      ⟨(some (65, false)), (some 66), .mv (.t 9)⟩,
      ⟨(some (65, false)), (some 67), .mv (.t 6)⟩,
      ⟨(some (65, false)), (some 68), .call 26 [(.t 66), (.t 67)]⟩,
      ⟨(some (65, false)), (some 69), .un .not (.t 68)⟩,
      ⟨none, (some 70), .pick (.t 65) (.c (.bool true)) (.t 69)⟩,
      ⟨none, (some 71), .mv (.t 70)⟩,
      ⟨(some (71, false)), (some 72), .mv (.t 6)⟩,
      ⟨(some (71, false)), (some 73), .len (.t 72)⟩,
      ⟨(some (71, false)), (some 74), .faddr 7 (.t 2)⟩,
      ⟨(some (71, false)), (some 75), .load false 1 (.t 74)⟩,
      ⟨(some (71, false)), (some 76), .len (.t 75)⟩,
      ⟨(some (71, false)), (some 77), .bin .gtr (.t 73) (.t 76)⟩,
      ⟨none, (some 78), .pick (.t 71) (.c (.bool true)) (.t 77)⟩])
    (.cond (.t 78) (.seq (.reg [⟨none, (some 4), .mv (.c (.bool false))⟩])
    .ret)
    .skip))
    (.seq (.reg [⟨none, (some 79), .faddr 7 (.t 2)⟩,
      ⟨none, (some 80), .load false 1 (.t 79)⟩,
      ⟨none, (some 81), .len (.t 80)⟩,
      ⟨none, (some 11), .mv (.t 81)⟩])
    (.seq (.seq (.reg [⟨none, (some 12), .mv (.c (.int .i64 0))⟩])
    (.block 0 (.loop (.seq (.seq (.reg [⟨none, (some 82), .mv (.t 12)⟩,
      ⟨none, (some 83), .mv (.t 6)⟩,
      ⟨none, (some 84), .len (.t 83)⟩,
      ⟨none, (some 85), .bin .lss (.t 82) (.t 84)⟩])
    (.cond (.t 85) .skip
    (.exit 0)))
    (.seq (.block 1 (.seq (.seq (.reg [⟨none, (some 88), .mv (.t 6)⟩,
      ⟨none, (some 89), .mv (.t 12)⟩,
      ⟨none, (some 90), .iaddr 1 (.t 88) (.t 89)⟩,
      ⟨none, (some 91), .load false 1 (.t 90)⟩,
      ⟨none, (some 92), .bin .lss (.t 91) (.c (.int .i64 0))⟩,
      ⟨none, (some 93), .mv (.t 92)⟩,
      ⟨(some (93, false)), (some 94), .mv (.t 6)⟩,
      ⟨(some (93, false)), (some 95), .mv (.t 12)⟩,
      ⟨(some (93, false)), (some 96), .iaddr 1 (.t 94) (.t 95)⟩,
      ⟨(some (93, false)), (some 97), .load false 1 (.t 96)⟩,
      ⟨(some (93, false)), (some 98), .mv (.t 11)⟩,
      ⟨(some (93, false)), (some 99), .bin .geq (.t 97) (.t 98)⟩,
      ⟨none, (some 100), .pick (.t 93) (.c (.bool true)) (.t 99)⟩,
      ⟨none, (some 101), .mv (.t 100)⟩,
      ⟨(some (101, false)), (some 102), .mv (.t 12)⟩,
      ⟨(some (101, false)), (some 103), .bin .gtr (.t 102) (.c (.int .i64 0))⟩,
      ⟨(some (101, false)), (some 104), .mv (.t 103)⟩,
      ⟨(some (104, true)), (some 105), .mv (.t 6)⟩,
      ⟨(some (104, true)), (some 106), .mv (.t 12)⟩,
      ⟨(some (104, true)), (some 107), .iaddr 1 (.t 105) (.t 106)⟩,
      ⟨(some (104, true)), (some 108), .load false 1 (.t 107)⟩,
      ⟨(some (104, true)), (some 109), .mv (.t 6)⟩,
      ⟨(some (104, true)), (some 110), .mv (.t 12)⟩,
      ⟨(some (104, true)), (some 111), .bin .sub (.t 110) (.c (.int .i64 1))⟩,
      ⟨(some (104, true)), (some 112), .iaddr 1 (.t 109) (.t 111)⟩,
      ⟨(some (104, true)), (some 113), .load false 1 (.t 112)⟩,
      ⟨(some (104, true)), (some 114), .bin .leq (.t 108) (.t 113)⟩,
      ⟨(some (101, false)), (some 115), .pick (.t 104) (.t 114) (.c (.bool false))⟩,
      ⟨none, (some 116), .pick (.t 101) (.c (.bool true)) (.t 115)⟩])
    (.cond (.t 116) (.seq (.reg [⟨none, (some 4), .mv (.c (.bool false))⟩])
    .ret)
    .skip))
    (.seq (.reg [⟨none, (some 117), .mv (.t 9)⟩,
      ⟨none, (some 118), .mv (.t 6)⟩,
      ⟨none, (some 119), .mv (.t 12)⟩,
      ⟨none, (some 120), .iaddr 1 (.t 118) (.t 119)⟩,
      ⟨none, (some 121), .load false 1 (.t 120)⟩,
      ⟨none, (some 122), .call 21 [(.t 117), (.t 121)]⟩,
      ⟨none, (some 123), .un .not (.t 122)⟩,
      ⟨none, (some 124), .mv (.t 123)⟩,
      ⟨(some (124, true)), (some 125), .mv (.t 6)⟩,
      ⟨(some (124, true)), (some 126), .mv (.t 6)⟩,
      ⟨(some (124, true)), (some 127), .mv (.t 12)⟩,
      ⟨(some (124, true)), (some 128), .iaddr 1 (.t 126) (.t 127)⟩,
      ⟨(some (124, true)), (some 129), .load false 1 (.t 128)⟩,
      ⟨(some (124, true)), (some 130), .bin .add (.t 129) (.c (.int .i64 1))⟩,
      ⟨(some (124, true)), (some 131), .mv (.t 11)⟩,
      ⟨(some (124, true)), (some 132), .bin .rem (.t 130) (.t 131)⟩,
      ⟨(some (124, true)), (some 133), .call 21 [(.t 125), (.t 132)]⟩,
      ⟨(some (124, true)), (some 134), .un .not (.t 133)⟩,
      ⟨none, (some 135), .pick (.t 124) (.t 134) (.c (.bool false))⟩,
      ⟨none, (some 136), .mv (.t 135)⟩,
      ⟨(some (136, true)), (some 137), .mv (.t 6)⟩,
      ⟨(some (136, true)), (some 138), .mv (.t 6)⟩,
      ⟨(some (136, true)), (some 139), .mv (.t 12)⟩,
      ⟨(some (136, true)), (some 140), .iaddr 1 (.t 138) (.t 139)⟩,
      ⟨(some (136, true)), (some 141), .load false 1 (.t 140)⟩,
      ⟨(some (136, true)), (some 142), .mv (.t 11)⟩,
      ⟨(some (136, true)), (some 143), .bin .add (.t 141) (.t 142)⟩,
      ⟨(some (136, true)), (some 144), .bin .sub (.t 143) (.c (.int .i64 1))⟩,
      ⟨(some (136, true)), (some 145), .mv (.t 11)⟩,
      ⟨(some (136, true)), (some 146), .bin .rem (.t 144) (.t 145)⟩,
      ⟨(some (136, true)), (some 147), .call 21 [(.t 137), (.t 146)]⟩,
      ⟨(some (136, true)), (some 148), .un .not (.t 147)⟩,
      ⟨none, (some 149), .pick (.t 136) (.t 148) (.c (.bool false))⟩])
    (.cond (.t 149) (.seq (.reg [⟨none, (some 4), .mv (.c (.bool false))⟩])
    .ret)
    .skip))))
    (.reg [⟨none, (some 86), .mv (.t 12)⟩,
      ⟨none, (some 87), .bin .add (.t 86) (.c (.int .i64 1))⟩,
      ⟨none, (some 12), .mv (.t 87)⟩]))))))
    (.seq (.reg [⟨none, (some 150), .call 12 []⟩,
      ⟨none, (some 4), .mv (.t 150)⟩])
    .ret))))))))
theorem ok8 : FnOk Try.prog 8 151 7 c8 [.t 4] := ⟨_, _, Try.func8, rfl, rfl, by kernel_rfl, by kernel_rfl⟩
theorem bd8 : bodied Try.prog 8 = true := by kernel_rfl

/-- ferrule/ferruletop.TopLift -/
def c9 : CI := (.seq (.reg [⟨none, (some 2), .box 0 true (.t 0)⟩,
      ⟨none, (some 4), .mv (.c (.bool false))⟩])
    (.seq (.seq (.reg [⟨none, (some 15), .load true 9 (.t 2)⟩,
      ⟨none, (some 16), .call 28 [(.t 15)]⟩,
      ⟨none, (some 17), .mv (.t 16)⟩,
      ⟨(some (17, false)), (some 18), .load true 9 (.t 2)⟩,
      ⟨(some (17, false)), (some 19), .call 29 [(.t 18)]⟩,
      ⟨(some (17, false)), (some 20), .bin .neq (.t 19) (.c (.int .i64 0))⟩,
      ⟨none, (some 21), .pick (.t 17) (.c (.bool true)) (.t 20)⟩,
      ⟨none, (some 22), .mv (.t 21)⟩,
      ⟨(some (22, false)), (some 23), .load true 9 (.t 2)⟩,
      ⟨(some (22, false)), (some 24), .mv (.t 1)⟩,
      ⟨(some (22, false)), (some 25), .call 23 [(.t 23), (.t 24)]⟩,
      ⟨(some (22, false)), (some 26), .un .not (.t 25)⟩,
      ⟨none, (some 27), .pick (.t 22) (.c (.bool true)) (.t 26)⟩])
    (.cond (.t 27) (.seq (.reg [⟨none, (some 28), .call 30 []⟩,
      ⟨none, (some 4), .mv (.t 28)⟩])
    .ret)
    .skip))
    (.seq (.reg [⟨none, (some 30), .faddr 0 (.t 2)⟩,
      ⟨none, (some 31), .load true 7 (.t 30)⟩,
      ⟨none, (some 32), .faddr 0 (.t 2)⟩,
      ⟨none, (some 33), .faddr 1 (.t 32)⟩,
      ⟨none, (some 34), .load false 1 (.t 33)⟩,
      ⟨none, (some 35), .call 31 [(.t 31), (.c (.int .i64 0)), (.t 34)]⟩,
      ⟨none, (some 29), .mv (.t 35)⟩,
      ⟨none, (some 36), .extract 0 (.t 29)⟩,
      ⟨none, (some 37), .extract 1 (.t 29)⟩,
      ⟨none, (some 38), .extract 2 (.t 29)⟩,
      ⟨none, (some 5), .alloc 1 [(.int .i64 0), (.int .i64 0)]⟩,
      ⟨none, (some 6), .alloc 2 [(.int .i64 0), (.int .i64 0)]⟩,
      ⟨none, none, .store true 2 (.t 5) (.t 36) []⟩,
      ⟨none, none, .store true 2 (.t 6) (.t 37) []⟩,
      ⟨none, (some 7), .mv (.t 38)⟩])
    (.seq (.reg [⟨none, (some 40), .load true 9 (.t 2)⟩,
      ⟨none, (some 41), .call 14 [(.t 40)]⟩,
      ⟨none, (some 39), .mv (.t 41)⟩,
      ⟨none, (some 42), .extract 0 (.t 39)⟩,
      ⟨none, (some 43), .extract 1 (.t 39)⟩,
      ⟨none, (some 8), .alloc 3 [(.int .i64 0), (.int .i64 0)]⟩,
      ⟨none, none, .store true 2 (.t 8) (.t 42) []⟩,
      ⟨none, (some 9), .mv (.t 43)⟩])
    (.seq (.seq (.reg [⟨none, (some 44), .mv (.t 7)⟩,
      ⟨none, (some 45), .bin .neq (.t 44) (.c (.int .i64 0))⟩,
      ⟨none, (some 46), .mv (.t 45)⟩,
      ⟨(some (46, false)), (some 47), .mv (.t 9)⟩,
      ⟨(some (46, false)), (some 48), .bin .neq (.t 47) (.c (.int .i64 0))⟩,
      ⟨none, (some 49), .pick (.t 46) (.c (.bool true)) (.t 48)⟩,
      ⟨none, (some 50), .mv (.t 49)⟩,
      ⟨(some (50, false)), (some 51), .faddr 1 (.t 5)⟩,
      ⟨(some (50, false)), (some 52), .load false 1 (.t 51)⟩,
      ⟨(some (50, false)), (some 53), .bin .lss (.t 52) (.c (.int .i64 1))⟩,
      ⟨none, (some 54), .pick (.t 50) (.c (.bool true)) (.t 53)⟩,
      ⟨none, (some 55), .mv (.t 54)⟩,
      ⟨(some (55, false)), (some 56), .faddr 1 (.t 6)⟩,
      ⟨(some (55, false)), (some 57), .load false 1 (.t 56)⟩,
      ⟨(some (55, false)), (some 58), .bin .lss (.t 57) (.c (.int .i64 1))⟩,
      ⟨none, (some 59), .pick (.t 55) (.c (.bool true)) (.t 58)⟩,
      ⟨none, (some 60), .mv (.t 59)⟩,
      ⟨(some (60, false)), (some 61), .faddr 1 (.t 5)⟩,
      ⟨(some (60, false)), (some 62), .load false 1 (.t 61)⟩,
      ⟨(some (60, false)), (some 63), .bin .gtr (.t 62) (.c (.int .i64 1073741824))⟩,
      ⟨none, (some 64), .pick (.t 60) (.c (.bool true)) (.t 63)⟩,
      ⟨none, (some 65), .mv (.t 64)⟩,
      ⟨(some (65, false)), (some 66), .faddr 1 (.t 6)⟩,
      ⟨(some (65, false)), (some 67), .load false 1 (.t 66)⟩,
      ⟨(some (65, false)), (some 68), .bin .gtr (.t 67) (.c (.int .i64 1073741824))⟩,
      ⟨none, (some 69), .pick (.t 65) (.c (.bool true)) (.t 68)⟩,
      ⟨none, (some 70), .mv (.t 69)⟩,
      ⟨(some (70, false)), (some 71), .faddr 0 (.t 5)⟩,
      ⟨(some (70, false)), (some 72), .load false 1 (.t 71)⟩,
      ⟨(some (70, false)), (some 73), .faddr 0 (.t 5)⟩,
      ⟨(some (70, false)), (some 74), .load false 1 (.t 73)⟩,
      ⟨(some (70, false)), (some 75), .un .neg (.t 74)⟩,
      ⟨(some (70, false)), (some 76), .faddr 0 (.t 6)⟩,
      ⟨(some (70, false)), (some 77), .load false 1 (.t 76)⟩,
      ⟨(some (70, false)), (some 78), .faddr 0 (.t 6)⟩,
      ⟨(some (70, false)), (some 79), .load false 1 (.t 78)⟩,
      ⟨(some (70, false)), (some 80), .un .neg (.t 79)⟩,
      ⟨(some (70, false)), (some 81), .mm true [(.t 72), (.t 75), (.t 77), (.t 80)]⟩,
      ⟨(some (70, false)), (some 82), .bin .gtr (.t 81) (.c (.int .i64 1099511627776))⟩,
      ⟨none, (some 83), .pick (.t 70) (.c (.bool true)) (.t 82)⟩,
      ⟨none, (some 84), .mv (.t 83)⟩,
      ⟨(some (84, false)), (some 85), .faddr 0 (.t 8)⟩,
      ⟨(some (84, false)), (some 86), .load false 1 (.t 85)⟩,
      ⟨(some (84, false)), (some 87), .load true 2 (.t 5)⟩,
      ⟨(some (84, false)), (some 88), .call 32 [(.t 87)]⟩,
      ⟨(some (84, false)), (some 89), .bin .neq (.t 86) (.t 88)⟩,
      ⟨none, (some 90), .pick (.t 84) (.c (.bool true)) (.t 89)⟩,
      ⟨none, (some 91), .mv (.t 90)⟩,
      ⟨(some (91, false)), (some 92), .faddr 1 (.t 8)⟩,
      ⟨(some (91, false)), (some 93), .load false 1 (.t 92)⟩,
      ⟨(some (91, false)), (some 94), .load true 2 (.t 6)⟩,
      ⟨(some (91, false)), (some 95), .call 32 [(.t 94)]⟩,
      ⟨(some (91, false)), (some 96), .bin .neq (.t 93) (.t 95)⟩,
      ⟨none, (some 97), .pick (.t 91) (.c (.bool true)) (.t 96)⟩])
    (.cond (.t 97) (.seq (.reg [⟨none, (some 4), .mv (.c (.bool false))⟩])
    .ret)
    .skip))
    (.seq (.reg [⟨none, (some 99), .load true 9 (.t 2)⟩,
      ⟨none, (some 100), .mv (.t 1)⟩,
      ⟨none, (some 101), .call 25 [(.t 99), (.t 100)]⟩,
      ⟨none, (some 98), .mv (.t 101)⟩,
      ⟨none, (some 102), .extract 0 (.t 98)⟩,
      ⟨none, (some 103), .extract 1 (.t 98)⟩,
      ⟨none, (some 10), .mv (.t 102)⟩,
      ⟨none, (some 11), .mv (.t 103)⟩])
    (.seq (.seq (.reg [⟨none, (some 104), .mv (.t 11)⟩,
      ⟨none, (some 105), .bin .neq (.t 104) (.c (.int .i64 0))⟩,
      ⟨none, (some 106), .mv (.t 105)⟩,
      ⟨(some (106, false)), (some 107), .mv (.t 10)⟩,
      ⟨(some (106, false)), (some 108), .bin .lss (.t 107) (.c (.int .i64 0))⟩,
      ⟨none, (some 109), .pick (.t 106) (.c (.bool true)) (.t 108)⟩,
      ⟨none, (some 110), .mv (.t 109)⟩,
      ⟨(some (110, false)), (some 111), .mv (.t 10)⟩,
      ⟨(some (110, false)), (some 112), .bin .gtr (.t 111) (.c (.int .i64 99))⟩,
      ⟨none, (some 113), .pick (.t 110) (.c (.bool true)) (.t 112)⟩])
    (.cond (.t 113) (.seq (.reg [⟨none, (some 4), .mv (.c (.bool false))⟩])
    .ret)
    .skip))
    (.seq (.reg [⟨none, (some 115), .load true 9 (.t 2)⟩,
      ⟨none, (some 116), .mv (.t 10)⟩,
      ⟨none, (some 117), .mv (.t 1)⟩,
      ⟨none, (some 118), .build [(.int .i64 0), (.int .i64 0)] [(0, 1, (.t 116)), (1, 1, (.t 117))]⟩,
      ⟨none, (some 119), .callw 4 2 16 [(.t 115), (.t 118)]⟩,
      ⟨none, (some 114), .mv (.t 119)⟩,
      ⟨none, (some 120), .extract 0 (.t 114)⟩,
      ⟨none, (some 121), .extract 1 (.t 114)⟩,
      ⟨none, (some 122), .extract 2 (.t 114)⟩,
      ⟨none, (some 12), .mv (.t 120)⟩,
      ⟨none, (some 13), .mv (.t 121)⟩,
      ⟨none, (some 14), .mv (.t 122)⟩])
    (.seq (.seq (.reg [⟨none, (some 123), .mv (.t 14)⟩,
      ⟨none, (some 124), .bin .neq (.t 123) (.c (.int .i64 0))⟩,
      ⟨none, (some 125), .mv (.t 124)⟩,
      ⟨(some (125, false)), (some 126), .mv (.t 13)⟩,
      ⟨(some (125, false)), (some 127), .len (.t 126)⟩,
      ⟨(some (125, false)), (some 128), .bin .gtr (.t 127) (.c (.int .i64 0))⟩,
      ⟨none, (some 129), .pick (.t 125) (.c (.bool true)) (.t 128)⟩])
    (.cond (.t 129) (.seq (.reg [⟨none, (some 4), .mv (.c (.bool false))⟩])
    .ret)
    .skip))
    (.seq (.seq (.reg [⟨none, (some 130), .mv (.t 10)⟩,
      ⟨none, (some 131), .bin .eql (.t 130) (.c (.int .i64 99))⟩])
    (.cond (.t 131) (.seq (.reg [⟨none, (some 132), .call 30 []⟩,
      ⟨none, (some 4), .mv (.t 132)⟩])
    .ret)
    .skip))
    (.seq (.reg [⟨none, (some 134), .load true 9 (.t 2)⟩,
      ⟨none, (some 135), .mv (.t 10)⟩,
      ⟨none, (some 136), .bin .add (.t 135) (.c (.int .i64 1))⟩,
      ⟨none, (some 137), .mv (.t 1)⟩,
      ⟨none, (some 138), .build [(.int .i64 0), (.int .i64 0)] [(0, 1, (.t 136)), (1, 1, (.t 137))]⟩,
      ⟨none, (some 139), .callw 6 2 16 [(.t 134), (.t 138)]⟩,
      ⟨none, (some 133), .mv (.t 139)⟩,
      ⟨none, (some 140), .extract 0 (.t 133)⟩,
      ⟨none, (some 141), .extract 1 (.t 133)⟩,
      ⟨none, (some 142), .extract 2 (.t 133)⟩,
      ⟨none, (some 13), .mv (.t 141)⟩,
      ⟨none, (some 14), .mv (.t 142)⟩])
    (.seq (.reg [⟨none, (some 143), .mv (.t 14)⟩,
      ⟨none, (some 144), .bin .eql (.t 143) (.c (.int .i64 0))⟩,
      ⟨none, (some 145), .mv (.t 144)⟩,
      ⟨(some (145, true)), (some 146), .mv (.t 13)⟩,
      ⟨(some (145, true)), (some 147), .len (.t 146)⟩,
      ⟨(some (145, true)), (some 148), .bin .gtr (.t 147) (.c (.int .i64 0))⟩,
      ⟨none, (some 149), .pick (.t 145) (.t 148) (.c (.bool false))⟩,
      ⟨none, (some 150), .mv (.t 149)⟩,
      ⟨(some (150, true)), (some 151), .call 30 []⟩,
      ⟨none, (some 152), .pick (.t 150) (.t 151) (.c (.bool false))⟩,
      ⟨none, (some 4), .mv (.t 152)⟩])
    .ret))))))))))))
theorem ok9 : FnOk Try.prog 9 153 8 c9 [.t 4] := ⟨_, _, Try.func9, rfl, rfl, by kernel_rfl, by kernel_rfl⟩
theorem bd9 : bodied Try.prog 9 = true := by kernel_rfl

/-- ferrule/ferrulelaw05.ready -/
def c10 : CI := (.seq (.reg [⟨none, (some 2), .box 0 true (.t 0)⟩,
      ⟨none, (some 4), .mv (.c (.bool false))⟩])
    (.seq (.reg [⟨none, (some 5), .load true 9 (.t 2)⟩,
      ⟨none, (some 6), .call 28 [(.t 5)]⟩,
      ⟨none, (some 7), .un .not (.t 6)⟩,
      ⟨none, (some 8), .mv (.t 7)⟩,
      ⟨(some (8, true)), (some 9), .load true 9 (.t 2)⟩,
      ⟨(some (8, true)), (some 10), .call 29 [(.t 9)]⟩,
      ⟨(some (8, true)), (some 11), .bin .eql (.t 10) (.c (.int .i64 0))⟩,
      ⟨none, (some 12), .pick (.t 8) (.t 11) (.c (.bool false))⟩,
      ⟨none, (some 13), .mv (.t 12)⟩,
      ⟨(some (13, true)), (some 14), .load true 9 (.t 2)⟩,
      ⟨(some (13, true)), (some 15), .mv (.t 1)⟩,
      ⟨(some (13, true)), (some 16), .call 33 [(.t 14), (.t 15)]⟩,
      ⟨none, (some 17), .pick (.t 13) (.t 16) (.c (.bool false))⟩,
      ⟨none, (some 4), .mv (.t 17)⟩])
    .ret))
theorem ok10 : FnOk Try.prog 10 18 1 c10 [.t 4] := ⟨_, _, Try.func10, rfl, rfl, by kernel_rfl, by kernel_rfl⟩
theorem bd10 : bodied Try.prog 10 = true := by kernel_rfl

/-- ferrule/ferruleref05.IsTruth -/
def c11 : CI := (.seq (.reg [⟨none, (some 3), .box 0 true (.t 0)⟩,
      ⟨none, (some 4), .box 1 true (.t 1)⟩,
      ⟨none, (some 6), .mv (.c (.bool false))⟩])
    (.seq (.seq (.reg [⟨none, (some 7), .mv (.c (.int .i64 0))⟩])
    (.block 0 (.loop (.seq (.seq (.reg [⟨none, (some 8), .mv (.t 7)⟩,
      ⟨none, (some 9), .mv (.t 2)⟩,
      ⟨none, (some 10), .len (.t 9)⟩,
      ⟨none, (some 11), .bin .lss (.t 8) (.t 10)⟩,
      ⟨none, (some 12), .mv (.t 11)⟩,
      ⟨(some (12, true)), (some 13), .mv (.t 7)⟩,
      ⟨(some (12, true)), (some 14), .faddr 7 (.t 3)⟩,
      ⟨(some (12, true)), (some 15), .load false 1 (.t 14)⟩,
      ⟨(some (12, true)), (some 16), .len (.t 15)⟩,
      ⟨(some (12, true)), (some 17), .bin .lss (.t 13) (.t 16)⟩,
      ⟨none, (some 18), .pick (.t 12) (.t 17) (.c (.bool false))⟩])
    (.cond (.t 18) .skip
    (.exit 0)))
    (.seq (.block 1 (.seq (.reg [⟨none, (some 21), .mv (.t 2)⟩,
      ⟨none, (some 22), .mv (.t 7)⟩,
      ⟨none, (some 23), .iaddr 1 (.t 21) (.t 22)⟩,
      ⟨none, (some 24), .load false 1 (.t 23)⟩,
      ⟨none, (some 25), .faddr 7 (.t 3)⟩,
      ⟨none, (some 26), .load false 1 (.t 25)⟩,
      ⟨none, (some 27), .mv (.t 7)⟩,
      ⟨none, (some 28), .iaddr 2 (.t 26) (.t 27)⟩,
      ⟨none, (some 29), .faddr 0 (.t 28)⟩,
      ⟨none, (some 30), .load false 1 (.t 29)⟩,
      ⟨none, (some 31), .faddr 7 (.t 3)⟩,
      ⟨none, (some 32), .load false 1 (.t 31)⟩,
      ⟨none, (some 33), .mv (.t 7)⟩,
      ⟨none, (some 34), .iaddr 2 (.t 32) (.t 33)⟩,
      ⟨none, (some 35), .faddr 1 (.t 34)⟩,
      ⟨none, (some 36), .load false 1 (.t 35)⟩,
      ⟨none, (some 37), .call 34 [(.t 24), (.t 30), (.t 36)]⟩,
      ⟨none, (some 38), .un .not (.t 37)⟩])
    (.cond (.t 38) (.seq (.reg [⟨none, (some 6), .mv (.c (.bool false))⟩])
    .ret)
    .skip)))
    (.reg [⟨none, (some 19), .mv (.t 7)⟩,
      ⟨none, (some 20), .bin .add (.t 19) (.c (.int .i64 1))⟩,
      ⟨none, (some 7), .mv (.t 20)⟩]))))))
    (.seq (.reg [⟨none, (some 39), .mv (.t 2)⟩,
      ⟨none, (some 40), .len (.t 39)⟩,
      ⟨none, (some 41), .faddr 7 (.t 3)⟩,
      ⟨none, (some 42), .load false 1 (.t 41)⟩,
      ⟨none, (some 43), .len (.t 42)⟩,
      ⟨none, (some 44), .bin .eql (.t 40) (.t 43)⟩,
      ⟨none, (some 45), .mv (.t 44)⟩,
      ⟨(some (45, true)), (some 46), .faddr 0 (.t 3)⟩,
      ⟨(some (45, true)), (some 47), .load true 7 (.t 46)⟩,
      ⟨(some (45, true)), (some 48), .load true 2 (.t 4)⟩,
      ⟨(some (45, true)), (some 49), .call 35 [(.t 47), (.c (.int .i64 0)), (.t 48)]⟩,
      ⟨none, (some 50), .pick (.t 45) (.t 49) (.c (.bool false))⟩,
      ⟨none, (some 6), .mv (.t 50)⟩])
    .ret)))
theorem ok11 : FnOk Try.prog 11 51 2 c11 [.t 6] := ⟨_, _, Try.func11, rfl, rfl, by kernel_rfl, by kernel_rfl⟩
theorem bd11 : bodied Try.prog 11 = true := by kernel_rfl

/-- ferrule/ferrulelaw05.works -/
def c12 : CI := (.seq (.reg [⟨none, (some 0), .mv (.c (.bool false))⟩])
    (.seq (.reg [⟨none, (some 11), .callw 0 3 36 []⟩,
      ⟨none, (some 1), .alloc 3 [.nils, (.int .i64 0), (.int .i64 0), (.int .i64 0), (.int .i64 0), (.int .i64 0), (.int .i64 0), .nils, .nils]⟩,
      ⟨none, none, .stz true 9 (.t 1) (.t 11) []⟩])
    (.seq (.reg [⟨none, (some 13), .load true 9 (.t 1)⟩,
      ⟨none, (some 14), .call 14 [(.t 13)]⟩,
      ⟨none, (some 12), .mv (.t 14)⟩,
      ⟨none, (some 15), .extract 0 (.t 12)⟩,
      ⟨none, (some 16), .extract 1 (.t 12)⟩,
      ⟨none, (some 2), .alloc 4 [(.int .i64 0), (.int .i64 0)]⟩,
      ⟨none, none, .store true 2 (.t 2) (.t 15) []⟩,
      ⟨none, (some 3), .mv (.t 16)⟩])
    (.seq (.reg [⟨none, (some 18), .load true 9 (.t 1)⟩,
      ⟨none, (some 19), .build [(.int .i64 0), (.int .i64 0)] [(0, 1, (.c (.int .i64 14)))]⟩,
      ⟨none, (some 20), .callw 5 2 16 [(.t 18), (.t 19)]⟩,
      ⟨none, (some 17), .mv (.t 20)⟩,
      ⟨none, (some 21), .extract 0 (.t 17)⟩,
      ⟨none, (some 22), .extract 1 (.t 17)⟩,
      ⟨none, (some 23), .extract 2 (.t 17)⟩,
      ⟨none, (some 4), .mv (.t 21)⟩,
      ⟨none, (some 5), .mv (.t 22)⟩,
      ⟨none, (some 6), .mv (.t 23)⟩])
    (.seq (.reg [⟨none, (some 25), .load true 9 (.t 1)⟩,
      ⟨none, (some 26), .call 25 [(.t 25), (.c (.int .i64 0))]⟩,
      ⟨none, (some 24), .mv (.t 26)⟩,
      ⟨none, (some 27), .extract 0 (.t 24)⟩,
      ⟨none, (some 28), .extract 1 (.t 24)⟩,
      ⟨none, (some 7), .mv (.t 27)⟩,
      ⟨none, (some 8), .mv (.t 28)⟩])
    (.seq (.reg [⟨none, (some 30), .load true 9 (.t 1)⟩,
      ⟨none, (some 31), .build [(.int .i64 0), (.int .i64 0)] [(0, 1, (.c (.int .i64 12)))]⟩,
      ⟨none, (some 32), .build [(.int .i64 0), (.int .i64 0)] [(0, 1, (.c (.int .i64 14)))]⟩,
      ⟨none, (some 33), .bsl 7 40 2 [(.t 31), (.t 32)] []⟩,
      ⟨none, (some 34), .callw 8 1 27 [(.t 30), (.t 33)]⟩,
      ⟨none, (some 29), .mv (.t 34)⟩,
      ⟨none, (some 35), .extract 0 (.t 29)⟩,
      ⟨none, (some 36), .extract 1 (.t 29)⟩,
      ⟨none, (some 9), .mv (.t 35)⟩,
      ⟨none, (some 10), .mv (.t 36)⟩])
    (.seq (.reg [⟨none, (some 37), .mv (.t 3)⟩,
      ⟨none, (some 38), .bin .eql (.t 37) (.c (.int .i64 0))⟩,
      ⟨none, (some 39), .mv (.t 38)⟩,
      ⟨(some (39, true)), (some 40), .mv (.t 6)⟩,
      ⟨(some (39, true)), (some 41), .bin .eql (.t 40) (.c (.int .i64 0))⟩,
      ⟨none, (some 42), .pick (.t 39) (.t 41) (.c (.bool false))⟩,
      ⟨none, (some 43), .mv (.t 42)⟩,
      ⟨(some (43, true)), (some 44), .mv (.t 8)⟩,
      ⟨(some (43, true)), (some 45), .bin .eql (.t 44) (.c (.int .i64 0))⟩,
      ⟨none, (some 46), .pick (.t 43) (.t 45) (.c (.bool false))⟩,
      ⟨none, (some 47), .mv (.t 46)⟩,
      ⟨(some (47, true)), (some 48), .mv (.t 10)⟩,
      ⟨(some (47, true)), (some 49), .bin .eql (.t 48) (.c (.int .i64 0))⟩,
      ⟨none, (some 50), .pick (.t 47) (.t 49) (.c (.bool false))⟩,
      ⟨none, (some 51), .mv (.t 50)⟩,
      ⟨(some (51, true)), (some 52), .load true 2 (.t 2)⟩,
      ⟨(some (51, true)), (some 53), .build [(.int .i64 0), (.int .i64 0)] [(0, 1, (.c (.int .i64 65))), (1, 1, (.c (.int .i64 76)))]⟩,
      ⟨(some (51, true)), (some 54), .eqs false (.node [(0, 1, (.leaf true)), (1, 1, (.leaf true))]) (.t 52) (.t 53)⟩,
      ⟨none, (some 55), .pick (.t 51) (.t 54) (.c (.bool false))⟩,
      ⟨none, (some 56), .mv (.t 55)⟩,
      ⟨(some (56, true)), (some 57), .mv (.t 5)⟩,
      ⟨(some (56, true)), (some 58), .bsl 9 3 1 [(.c (.int .i64 0)), (.c (.int .i64 1)), (.c (.int .i64 2)), (.c (.int .i64 3)), (.c (.int .i64 4)), (.c (.int .i64 5))] []⟩,
      ⟨(some (56, true)), (some 59), .call 37 [(.t 57), (.t 58)]⟩,
      ⟨none, (some 60), .pick (.t 56) (.t 59) (.c (.bool false))⟩,
      ⟨none, (some 61), .mv (.t 60)⟩,
      ⟨(some (61, true)), (some 62), .mv (.t 7)⟩,
      ⟨(some (61, true)), (some 63), .bin .eql (.t 62) (.c (.int .i64 13))⟩,
      ⟨none, (some 64), .pick (.t 61) (.t 63) (.c (.bool false))⟩,
      ⟨none, (some 65), .mv (.t 64)⟩,
      ⟨(some (65, true)), (some 66), .mv (.t 9)⟩,
      ⟨(some (65, true)), (some 67), .bsl 10 3 1 [(.c (.int .i64 0)), (.c (.int .i64 1)), (.c (.int .i64 5))] []⟩,
      ⟨(some (65, true)), (some 68), .call 37 [(.t 66), (.t 67)]⟩,
      ⟨none, (some 69), .pick (.t 65) (.t 68) (.c (.bool false))⟩,
      ⟨none, (some 0), .mv (.t 69)⟩])
    .ret)))))))
theorem ok12 : FnOk Try.prog 12 70 11 c12 [.t 0] := ⟨_, _, Try.func12, rfl, rfl, by kernel_rfl, by kernel_rfl⟩
theorem bd12 : bodied Try.prog 12 = true := by kernel_rfl

/-- ferrule/ferruleref05.LiftOf -/
def c13 : CI := (.seq (.reg [⟨none, (some 2), .box 0 true (.t 0)⟩,
      ⟨none, (some 3), .box 1 true (.t 1)⟩,
      ⟨none, (some 4), .mv (.c (.int .i64 0))⟩])
    (.seq (.reg [⟨none, (some 10), .faddr 0 (.t 2)⟩,
      ⟨none, (some 11), .faddr 1 (.t 10)⟩,
      ⟨none, (some 12), .load false 1 (.t 11)⟩,
      ⟨none, (some 13), .load true 2 (.t 3)⟩,
      ⟨none, (some 14), .call 38 [(.t 12), (.t 13)]⟩,
      ⟨none, (some 9), .mv (.t 14)⟩,
      ⟨none, (some 15), .extract 0 (.t 9)⟩,
      ⟨none, (some 16), .extract 1 (.t 9)⟩,
      ⟨none, (some 5), .alloc 2 [(.int .i64 0), (.int .i64 0)]⟩,
      ⟨none, none, .store true 2 (.t 5) (.t 15) []⟩,
      ⟨none, (some 6), .mv (.t 16)⟩])
    (.seq (.reg [⟨none, (some 17), .faddr 0 (.t 5)⟩,
      ⟨none, (some 18), .load false 1 (.t 17)⟩,
      ⟨none, (some 19), .bin .mul (.c (.int .i64 100)) (.t 18)⟩,
      ⟨none, (some 7), .mv (.t 19)⟩])
    (.seq (.reg [⟨none, (some 20), .mv (.t 7)⟩,
      ⟨none, (some 21), .faddr 1 (.t 5)⟩,
      ⟨none, (some 22), .load false 1 (.t 21)⟩,
      ⟨none, (some 23), .bin .quo (.t 20) (.t 22)⟩,
      ⟨none, (some 8), .mv (.t 23)⟩])
    (.seq (.seq (.reg [⟨none, (some 24), .mv (.t 7)⟩,
      ⟨none, (some 25), .faddr 1 (.t 5)⟩,
      ⟨none, (some 26), .load false 1 (.t 25)⟩,
      ⟨none, (some 27), .bin .rem (.t 24) (.t 26)⟩,
      ⟨none, (some 28), .bin .lss (.t 27) (.c (.int .i64 0))⟩])
    (.cond (.t 28) (.reg [⟨none, (some 29), .mv (.t 8)⟩,
      ⟨none, (some 30), .bin .sub (.t 29) (.c (.int .i64 1))⟩,
      ⟨none, (some 8), .mv (.t 30)⟩])
    .skip))
    (.seq (.reg [⟨none, (some 31), .mv (.t 8)⟩,
      ⟨none, (some 32), .bin .add (.c (.int .i64 100)) (.t 31)⟩,
      ⟨none, (some 33), .mm true [(.c (.int .i64 0)), (.t 32)]⟩,
      ⟨none, (some 34), .mm false [(.c (.int .i64 200)), (.t 33)]⟩,
      ⟨none, (some 4), .mv (.t 34)⟩])
    .ret))))))
theorem ok13 : FnOk Try.prog 13 35 3 c13 [.t 4] := ⟨_, _, Try.func13, rfl, rfl, by kernel_rfl, by kernel_rfl⟩
theorem bd13 : bodied Try.prog 13 = true := by kernel_rfl

/-- ferrule/gusts.Lift -/
def c14 : CI := (.seq (.reg [⟨none, (some 1), .box 0 true (.t 0)⟩,
      ⟨none, (some 2), .alloc 1 [(.int .i64 0), (.int .i64 0)]⟩,
      ⟨none, (some 3), .mv (.c (.int .i64 0))⟩])
    (.seq (.seq (.reg [⟨none, (some 5), .load true 9 (.t 1)⟩,
      ⟨none, (some 6), .call 39 [(.t 5)]⟩,
      ⟨none, (some 4), .mv (.t 6)⟩])
    (.seq (.reg [⟨none, (some 7), .mv (.t 4)⟩,
      ⟨none, (some 8), .bin .neq (.t 7) (.c (.int .i64 0))⟩])
    (.cond (.t 8) (.seq (.reg [⟨none, (some 9), .build [(.int .i64 0), (.int .i64 0)] []⟩,
      ⟨none, (some 10), .mv (.t 4)⟩,
      ⟨none, none, .store true 2 (.t 2) (.t 9) []⟩,
      ⟨none, (some 3), .mv (.t 10)⟩])
    .ret)
    .skip)))
    (.seq (.reg [⟨none, (some 11), .faddr 0 (.t 1)⟩,
      ⟨none, (some 12), .load true 7 (.t 11)⟩,
      ⟨none, (some 13), .call 40 [(.t 12)]⟩,
      ⟨none, none, .store true 2 (.t 2) (.t 13) []⟩,
      ⟨none, (some 3), .mv (.c (.int .i64 0))⟩])
    .ret)))
theorem ok14 : FnOk Try.prog 14 14 2 c14 [.cell 2 true 2, .t 3] := ⟨_, _, Try.func14, rfl, rfl, by kernel_rfl, by kernel_rfl⟩
theorem bd14 : bodied Try.prog 14 = true := by kernel_rfl

/-- ferrule/gusts.Loads -/
def c15 : CI := (.seq (.reg [⟨none, (some 2), .box 0 true (.t 0)⟩,
      ⟨none, (some 3), .box 1 true (.t 1)⟩,
      ⟨none, (some 4), .mv (.c .nils)⟩,
      ⟨none, (some 5), .mv (.c (.int .i64 0))⟩])
    (.seq (.reg [⟨none, (some 12), .load true 9 (.t 2)⟩,
      ⟨none, (some 13), .load true 2 (.t 3)⟩,
      ⟨none, (some 14), .bsl 2 40 2 [(.t 13)] []⟩,
      ⟨none, (some 15), .callw 3 4 41 [(.t 12), (.t 14)]⟩,
      ⟨none, (some 11), .mv (.t 15)⟩,
      ⟨none, (some 16), .extract 0 (.t 11)⟩,
      ⟨none, (some 17), .extract 1 (.t 11)⟩,
      ⟨none, (some 18), .extract 2 (.t 11)⟩,
      ⟨none, (some 6), .alloc 7 [(.int .i64 0), .nils, .nils]⟩,
      ⟨none, (some 7), .alloc 8 [(.int .i64 0), .nils, .nils]⟩,
      ⟨none, none, .stz true 3 (.t 6) (.t 16) []⟩,
      ⟨none, none, .stz true 3 (.t 7) (.t 17) []⟩,
      ⟨none, (some 8), .mv (.t 18)⟩])
    (.seq (.seq (.reg [⟨none, (some 19), .mv (.t 8)⟩,
      ⟨none, (some 20), .bin .neq (.t 19) (.c (.int .i64 0))⟩])
    (.cond (.t 20) (.seq (.reg [⟨none, (some 21), .mv (.t 8)⟩,
      ⟨none, (some 4), .mv (.c .nils)⟩,
      ⟨none, (some 5), .mv (.t 21)⟩])
    .ret)
    .skip))
    (.seq (.reg [⟨none, (some 9), .mv (.c .nils)⟩])
    (.seq (.seq (.reg [⟨none, (some 22), .faddr 7 (.t 2)⟩,
      ⟨none, (some 23), .load false 1 (.t 22)⟩,
      ⟨none, (some 24), .len (.t 23)⟩,
      ⟨none, (some 25), .mv (.c (.int .i64 0))⟩])
    (.block 0 (.loop (.seq (.reg [⟨none, (some 26), .bin .lss (.t 25) (.t 24)⟩])
    (.seq (.cond (.t 26) .skip
    (.exit 0))
    (.seq (.block 1 (.seq (.reg [⟨none, (some 27), .mv (.t 25)⟩,
      ⟨none, (some 10), .mv (.t 27)⟩])
    (.reg [⟨none, (some 28), .mv (.t 9)⟩,
      ⟨none, (some 29), .load true 3 (.t 6)⟩,
      ⟨none, (some 30), .load true 2 (.t 3)⟩,
      ⟨none, (some 31), .mv (.t 10)⟩,
      ⟨none, (some 33), .load true 3 (.t 7)⟩,
      ⟨none, (some 34), .load true 2 (.t 3)⟩,
      ⟨none, (some 35), .mv (.t 10)⟩,
      ⟨none, (some 32), .call 42 [(.t 29), (.t 30), (.t 31)]⟩,
      ⟨none, (some 36), .call 42 [(.t 33), (.t 34), (.t 35)]⟩,
      ⟨none, (some 37), .build [(.int .i64 0), (.int .i64 0)] [(0, 1, (.t 32)), (1, 1, (.t 36))]⟩,
      ⟨none, (some 38), .bsl 9 45 2 [(.t 37)] []⟩,
      ⟨none, (some 39), .apd 10 45 2 16 (.t 28) (.t 38) []⟩,
      ⟨none, (some 9), .mv (.t 39)⟩])))
    (.reg [⟨none, (some 40), .bin .add (.t 25) (.c (.int .i64 1))⟩,
      ⟨none, (some 25), .mv (.t 40)⟩])))))))
    (.seq (.reg [⟨none, (some 41), .mv (.t 9)⟩,
      ⟨none, (some 4), .mv (.t 41)⟩,
      ⟨none, (some 5), .mv (.c (.int .i64 0))⟩])
    .ret))))))
theorem ok15 : FnOk Try.prog 15 42 11 c15 [.t 4, .t 5] := ⟨_, _, Try.func15, rfl, rfl, by kernel_rfl, by kernel_rfl⟩
theorem bd15 : bodied Try.prog 15 = true := by kernel_rfl

/-- ferrule/gusts.Goes -/
def c16 : CI := (.seq (.reg [⟨none, (some 2), .box 0 true (.t 0)⟩,
      ⟨none, (some 3), .box 1 true (.t 1)⟩,
      ⟨none, (some 4), .mv (.c .nils)⟩,
      ⟨none, (some 5), .mv (.c .nils)⟩,
      ⟨none, (some 6), .mv (.c (.int .i64 0))⟩])
    (.seq (.reg [⟨none, (some 10), .load true 9 (.t 2)⟩,
      ⟨none, (some 11), .load true 2 (.t 3)⟩,
      ⟨none, (some 12), .bsl 2 40 2 [(.t 11)] []⟩,
      ⟨none, (some 13), .callw 3 4 41 [(.t 10), (.t 12)]⟩,
      ⟨none, (some 9), .mv (.t 13)⟩,
      ⟨none, (some 14), .extract 0 (.t 9)⟩,
      ⟨none, (some 15), .extract 1 (.t 9)⟩,
      ⟨none, (some 16), .extract 2 (.t 9)⟩,
      ⟨none, (some 7), .alloc 7 [(.int .i64 0), .nils, .nils]⟩,
      ⟨none, (some 8), .alloc 8 [(.int .i64 0), .nils, .nils]⟩,
      ⟨none, none, .stz true 3 (.t 7) (.t 14) []⟩,
      ⟨none, none, .stz true 3 (.t 8) (.t 15) []⟩,
      ⟨none, (some 6), .mv (.t 16)⟩])
    (.seq (.seq (.reg [⟨none, (some 17), .mv (.t 6)⟩,
      ⟨none, (some 18), .bin .neq (.t 17) (.c (.int .i64 0))⟩])
    (.cond (.t 18) (.seq (.reg [⟨none, (some 19), .mv (.t 6)⟩,
      ⟨none, (some 4), .mv (.c .nils)⟩,
      ⟨none, (some 5), .mv (.c .nils)⟩,
      ⟨none, (some 6), .mv (.t 19)⟩])
    .ret)
    .skip))
    (.seq (.reg [⟨none, (some 20), .load true 3 (.t 7)⟩,
      ⟨none, (some 21), .load true 2 (.t 3)⟩,
      ⟨none, (some 23), .load true 3 (.t 8)⟩,
      ⟨none, (some 24), .load true 2 (.t 3)⟩,
      ⟨none, (some 22), .callz 9 1 43 [(.t 20), (.t 21)] []⟩,
      ⟨none, (some 25), .callz 10 1 43 [(.t 23), (.t 24)] []⟩,
      ⟨none, (some 4), .mv (.t 22)⟩,
      ⟨none, (some 5), .mv (.t 25)⟩,
      ⟨none, (some 6), .mv (.c (.int .i64 0))⟩])
    .ret))))
theorem ok16 : FnOk Try.prog 16 26 11 c16 [.t 4, .t 5, .t 6] := ⟨_, _, Try.func16, rfl, rfl, by kernel_rfl, by kernel_rfl⟩
theorem bd16 : bodied Try.prog 16 = true := by kernel_rfl

/-- ferrule/gusts.Stands -/
def c17 : CI := (.seq (.reg [⟨none, (some 2), .box 0 true (.t 0)⟩,
      ⟨none, (some 4), .mv (.c (.int .i64 0))⟩,
      ⟨none, (some 5), .mv (.c (.int .i64 0))⟩])
    (.seq (.reg [⟨none, (some 10), .load true 9 (.t 2)⟩,
      ⟨none, (some 11), .mv (.t 1)⟩,
      ⟨none, (some 12), .callw 1 4 41 [(.t 10), (.t 11)]⟩,
      ⟨none, (some 9), .mv (.t 12)⟩,
      ⟨none, (some 13), .extract 0 (.t 9)⟩,
      ⟨none, (some 14), .extract 1 (.t 9)⟩,
      ⟨none, (some 15), .extract 2 (.t 9)⟩,
      ⟨none, (some 6), .alloc 5 [(.int .i64 0), .nils, .nils]⟩,
      ⟨none, (some 7), .alloc 6 [(.int .i64 0), .nils, .nils]⟩,
      ⟨none, none, .stz true 3 (.t 6) (.t 13) []⟩,
      ⟨none, none, .stz true 3 (.t 7) (.t 14) []⟩,
      ⟨none, (some 8), .mv (.t 15)⟩])
    (.seq (.block 0 (.seq (.reg [⟨none, (some 17), .mv (.t 8)⟩,
      ⟨none, (some 18), .bin .neq (.t 17) (.c (.int .i64 0))⟩,
      ⟨none, (some 16), .mv (.t 18)⟩])
    (.cond (.t 16) (.seq (.reg [⟨none, (some 19), .mv (.t 8)⟩,
      ⟨none, (some 4), .mv (.c (.int .i64 0))⟩,
      ⟨none, (some 5), .mv (.t 19)⟩])
    .ret)
    (.seq (.reg [⟨none, (some 21), .load true 3 (.t 7)⟩,
      ⟨none, (some 22), .mv (.t 1)⟩,
      ⟨none, (some 23), .call 44 [(.t 21), (.t 22)]⟩,
      ⟨none, (some 20), .mv (.t 23)⟩])
    (.cond (.t 20) (.seq (.reg [⟨none, (some 4), .mv (.c (.int .i64 1))⟩,
      ⟨none, (some 5), .mv (.c (.int .i64 0))⟩])
    .ret)
    (.seq (.reg [⟨none, (some 25), .load true 3 (.t 6)⟩,
      ⟨none, (some 26), .mv (.t 1)⟩,
      ⟨none, (some 27), .call 44 [(.t 25), (.t 26)]⟩,
      ⟨none, (some 24), .mv (.t 27)⟩])
    (.cond (.t 24) (.seq (.reg [⟨none, (some 4), .mv (.c (.int .i64 3))⟩,
      ⟨none, (some 5), .mv (.c (.int .i64 0))⟩])
    .ret)
    .skip)))))))
    (.seq (.reg [⟨none, (some 4), .mv (.c (.int .i64 2))⟩,
      ⟨none, (some 5), .mv (.c (.int .i64 0))⟩])
    .ret))))
theorem ok17 : FnOk Try.prog 17 28 7 c17 [.t 4, .t 5] := ⟨_, _, Try.func17, rfl, rfl, by kernel_rfl, by kernel_rfl⟩
theorem bd17 : bodied Try.prog 17 = true := by kernel_rfl

/-- ferrule/gusts.First -/
def c18 : CI := (.seq (.reg [⟨none, (some 2), .box 0 true (.t 0)⟩,
      ⟨none, (some 4), .mv (.c (.int .i64 0))⟩,
      ⟨none, (some 5), .mv (.c .nils)⟩,
      ⟨none, (some 6), .mv (.c (.int .i64 0))⟩])
    (.seq (.reg [⟨none, (some 12), .load true 9 (.t 2)⟩,
      ⟨none, (some 13), .mv (.t 1)⟩,
      ⟨none, (some 14), .callw 1 4 41 [(.t 12), (.t 13)]⟩,
      ⟨none, (some 11), .mv (.t 14)⟩,
      ⟨none, (some 15), .extract 0 (.t 11)⟩,
      ⟨none, (some 16), .extract 1 (.t 11)⟩,
      ⟨none, (some 17), .extract 2 (.t 11)⟩,
      ⟨none, (some 7), .alloc 5 [(.int .i64 0), .nils, .nils]⟩,
      ⟨none, (some 8), .alloc 6 [(.int .i64 0), .nils, .nils]⟩,
      ⟨none, none, .stz true 3 (.t 7) (.t 15) []⟩,
      ⟨none, none, .stz true 3 (.t 8) (.t 16) []⟩,
      ⟨none, (some 6), .mv (.t 17)⟩])
    (.seq (.seq (.reg [⟨none, (some 18), .mv (.t 6)⟩,
      ⟨none, (some 19), .bin .neq (.t 18) (.c (.int .i64 0))⟩])
    (.cond (.t 19) (.seq (.reg [⟨none, (some 20), .mv (.t 6)⟩,
      ⟨none, (some 4), .mv (.c (.int .i64 0))⟩,
      ⟨none, (some 5), .mv (.c .nils)⟩,
      ⟨none, (some 6), .mv (.t 20)⟩])
    .ret)
    .skip))
    (.seq (.seq (.reg [⟨none, (some 21), .mv (.t 1)⟩,
      ⟨none, (some 22), .len (.t 21)⟩,
      ⟨none, (some 23), .mv (.c (.int .i64 0))⟩])
    (.block 0 (.loop (.seq (.reg [⟨none, (some 24), .bin .lss (.t 23) (.t 22)⟩])
    (.seq (.cond (.t 24) .skip
    (.exit 0))
    (.seq (.block 1 (.seq (.reg [⟨none, (some 25), .mv (.t 23)⟩,
      ⟨none, (some 26), .iaddr 2 (.t 21) (.t 23)⟩,
      ⟨none, (some 27), .load true 2 (.t 26)⟩,
      ⟨none, (some 10), .alloc 7 [(.int .i64 0), (.int .i64 0)]⟩,
      ⟨none, (some 9), .mv (.t 25)⟩,
      ⟨none, none, .store true 2 (.t 10) (.t 27) []⟩])
    (.seq (.reg [⟨none, (some 28), .load true 3 (.t 8)⟩,
      ⟨none, (some 29), .load true 2 (.t 10)⟩,
      ⟨none, (some 30), .bsl 8 40 2 [(.t 29)] []⟩,
      ⟨none, (some 31), .call 44 [(.t 28), (.t 30)]⟩,
      ⟨none, (some 32), .un .not (.t 31)⟩])
    (.cond (.t 32) (.seq (.reg [⟨none, (some 33), .mv (.t 9)⟩,
      ⟨none, (some 34), .load true 3 (.t 8)⟩,
      ⟨none, (some 35), .load true 2 (.t 10)⟩,
      ⟨none, (some 36), .callw 9 1 45 [(.t 34), (.t 35)]⟩,
      ⟨none, (some 4), .mv (.t 33)⟩,
      ⟨none, (some 5), .mv (.t 36)⟩,
      ⟨none, (some 6), .mv (.c (.int .i64 0))⟩])
    .ret)
    .skip))))
    (.reg [⟨none, (some 37), .bin .add (.t 23) (.c (.int .i64 1))⟩,
      ⟨none, (some 23), .mv (.t 37)⟩])))))))
    (.seq (.reg [⟨none, (some 4), .mv (.c (.int .i64 0))⟩,
      ⟨none, (some 5), .mv (.c .nils)⟩,
      ⟨none, (some 6), .mv (.c (.int .i64 3))⟩])
    .ret)))))
theorem ok18 : FnOk Try.prog 18 38 10 c18 [.t 4, .t 5, .t 6] := ⟨_, _, Try.func18, rfl, rfl, by kernel_rfl, by kernel_rfl⟩
theorem bd18 : bodied Try.prog 18 = true := by kernel_rfl

/-- ferrule/ferruleref05.Rounds -/
def c19 : CI := (.seq (.reg [⟨none, (some 3), .box 0 true (.t 0)⟩,
      ⟨none, (some 4), .box 1 true (.t 1)⟩,
      ⟨none, (some 5), .box 2 true (.t 2)⟩,
      ⟨none, (some 6), .mv (.c .nils)⟩])
    (.seq (.reg [⟨none, (some 15), .faddr 7 (.t 3)⟩,
      ⟨none, (some 16), .load false 1 (.t 15)⟩,
      ⟨none, (some 17), .len (.t 16)⟩,
      ⟨none, (some 7), .mv (.t 17)⟩])
    (.seq (.reg [⟨none, (some 18), .mv (.t 7)⟩,
      ⟨none, (some 19), .mks 3 3 1 8 [(.int .i64 0)] (.t 18) (.t 18)⟩,
      ⟨none, (some 20), .mv (.t 7)⟩,
      ⟨none, (some 21), .mks 4 4 1 1 [(.bool false)] (.t 20) (.t 20)⟩,
      ⟨none, (some 22), .mv (.t 7)⟩,
      ⟨none, (some 23), .mks 5 3 1 8 [(.int .i64 0)] (.t 22) (.t 22)⟩,
      ⟨none, (some 8), .mv (.t 19)⟩,
      ⟨none, (some 9), .mv (.t 21)⟩,
      ⟨none, (some 10), .mv (.t 23)⟩])
    (.seq (.seq (.reg [⟨none, (some 11), .mv (.c (.int .i64 0))⟩])
    (.block 0 (.loop (.seq (.seq (.reg [⟨none, (some 24), .mv (.t 11)⟩,
      ⟨none, (some 25), .mv (.t 7)⟩,
      ⟨none, (some 26), .bin .lss (.t 24) (.t 25)⟩])
    (.cond (.t 26) .skip
    (.exit 0)))
    (.seq (.block 1 (.reg [⟨none, (some 29), .mv (.t 8)⟩,
      ⟨none, (some 30), .mv (.t 11)⟩,
      ⟨none, (some 31), .load true 9 (.t 3)⟩,
      ⟨none, (some 32), .load true 2 (.t 4)⟩,
      ⟨none, (some 33), .faddr 0 (.t 5)⟩,
      ⟨none, (some 34), .load false 1 (.t 33)⟩,
      ⟨none, (some 35), .mv (.t 11)⟩,
      ⟨none, (some 36), .call 20 [(.t 31), (.t 32), (.t 34), (.t 35)]⟩,
      ⟨none, (some 37), .iaddr 1 (.t 29) (.t 30)⟩,
      ⟨none, none, .store false 1 (.t 37) (.t 36) []⟩]))
    (.reg [⟨none, (some 27), .mv (.t 11)⟩,
      ⟨none, (some 28), .bin .add (.t 27) (.c (.int .i64 1))⟩,
      ⟨none, (some 11), .mv (.t 28)⟩]))))))
    (.seq (.seq (.reg [⟨none, (some 12), .mv (.c (.int .i64 1))⟩])
    (.block 2 (.loop (.seq (.seq (.reg [⟨none, (some 38), .mv (.t 12)⟩,
      ⟨none, (some 39), .mv (.t 7)⟩,
      ⟨none, (some 40), .bin .leq (.t 38) (.t 39)⟩])
    (.cond (.t 40) .skip
    (.exit 2)))
    (.seq (.block 3 (.seq (.reg [⟨none, (some 43), .bsl 6 4 1 [] []⟩,
      ⟨none, (some 44), .mv (.t 9)⟩,
      ⟨none, (some 45), .apd 7 4 1 1 (.t 43) (.t 44) []⟩,
      ⟨none, (some 13), .mv (.t 45)⟩])
    (.seq (.seq (.reg [⟨none, (some 14), .mv (.c (.int .i64 0))⟩])
    (.block 4 (.loop (.seq (.seq (.reg [⟨none, (some 46), .mv (.t 14)⟩,
      ⟨none, (some 47), .mv (.t 7)⟩,
      ⟨none, (some 48), .bin .lss (.t 46) (.t 47)⟩])
    (.cond (.t 48) .skip
    (.exit 4)))
    (.seq (.block 5 (.seq (.reg [⟨none, (some 51), .mv (.t 9)⟩,
      ⟨none, (some 52), .mv (.t 14)⟩,
      ⟨none, (some 53), .iaddr 1 (.t 51) (.t 52)⟩,
      ⟨none, (some 54), .load false 1 (.t 53)⟩,
      ⟨none, (some 55), .un .not (.t 54)⟩,
      ⟨none, (some 56), .mv (.t 55)⟩,
      ⟨(some (56, true)), (some 57), .mv (.t 8)⟩,
      ⟨(some (56, true)), (some 58), .mv (.t 14)⟩,
      ⟨(some (56, true)), (some 59), .iaddr 1 (.t 57) (.t 58)⟩,
      ⟨(some (56, true)), (some 60), .load false 1 (.t 59)⟩,
      ⟨(some (56, true)), (some 61), .mv (.t 8)⟩,
      ⟨(some (56, true)), (some 62), .mv (.t 9)⟩,
      ⟨(some (56, true)), (some 63), .mv (.t 14)⟩,
      ⟨(some (56, true)), (some 67), .mv (.t 8)⟩,
      ⟨(some (56, true)), (some 68), .mv (.t 9)⟩,
      ⟨(some (56, true)), (some 69), .mv (.t 14)⟩,
      ⟨(some (56, true)), (some 73), .faddr 1 (.t 5)⟩,
      ⟨(some (56, true)), (some 74), .load false 1 (.t 73)⟩,
      ⟨(some (56, true)), (some 75), .mv (.t 14)⟩,
      ⟨(some (56, true)), (some 76), .iaddr 1 (.t 74) (.t 75)⟩,
      ⟨(some (56, true)), (some 77), .load false 1 (.t 76)⟩,
      ⟨(some (56, true)), (some 64), .call 46 [(.t 61), (.t 62), (.t 63), (.c (.int .i64 (-1)))]⟩,
      ⟨(some (56, true)), (some 65), .bin .quo (.t 64) (.c (.int .i64 2))⟩,
      ⟨(some (56, true)), (some 66), .bin .add (.t 60) (.t 65)⟩,
      ⟨(some (56, true)), (some 70), .call 46 [(.t 67), (.t 68), (.t 69), (.c (.int .i64 1))]⟩,
      ⟨(some (56, true)), (some 71), .bin .quo (.t 70) (.c (.int .i64 2))⟩,
      ⟨(some (56, true)), (some 72), .bin .add (.t 66) (.t 71)⟩,
      ⟨(some (56, true)), (some 78), .bin .gtr (.t 72) (.t 77)⟩,
      ⟨none, (some 79), .pick (.t 56) (.t 78) (.c (.bool false))⟩])
    (.cond (.t 79) (.reg [⟨none, (some 80), .mv (.t 13)⟩,
      ⟨none, (some 81), .mv (.t 14)⟩,
      ⟨none, (some 82), .mv (.t 10)⟩,
      ⟨none, (some 83), .mv (.t 14)⟩,
      ⟨none, (some 84), .mv (.t 12)⟩,
      ⟨none, (some 85), .iaddr 1 (.t 80) (.t 81)⟩,
      ⟨none, none, .store false 1 (.t 85) (.c (.bool true)) []⟩,
      ⟨none, (some 86), .iaddr 1 (.t 82) (.t 83)⟩,
      ⟨none, none, .store false 1 (.t 86) (.t 84) []⟩])
    .skip)))
    (.reg [⟨none, (some 49), .mv (.t 14)⟩,
      ⟨none, (some 50), .bin .add (.t 49) (.c (.int .i64 1))⟩,
      ⟨none, (some 14), .mv (.t 50)⟩]))))))
    (.reg [⟨none, (some 87), .mv (.t 13)⟩,
      ⟨none, (some 9), .mv (.t 87)⟩]))))
    (.reg [⟨none, (some 41), .mv (.t 12)⟩,
      ⟨none, (some 42), .bin .add (.t 41) (.c (.int .i64 1))⟩,
      ⟨none, (some 12), .mv (.t 42)⟩]))))))
    (.seq (.reg [⟨none, (some 88), .mv (.t 10)⟩,
      ⟨none, (some 6), .mv (.t 88)⟩])
    .ret))))))
theorem ok19 : FnOk Try.prog 19 89 8 c19 [.t 6] := ⟨_, _, Try.func19, rfl, rfl, by kernel_rfl, by kernel_rfl⟩
theorem bd19 : bodied Try.prog 19 = true := by kernel_rfl

/-- ferrule/ferruleref05.Load -/
def c20 : CI := (.seq (.reg [⟨none, (some 4), .box 0 true (.t 0)⟩,
      ⟨none, (some 5), .box 1 true (.t 1)⟩,
      ⟨none, (some 8), .mv (.c (.int .i64 0))⟩])
    (.seq (.reg [⟨none, (some 10), .faddr 7 (.t 4)⟩,
      ⟨none, (some 11), .load false 1 (.t 10)⟩,
      ⟨none, (some 12), .len (.t 11)⟩,
      ⟨none, (some 9), .mv (.t 12)⟩])
    (.seq (.reg [⟨none, (some 13), .faddr 0 (.t 5)⟩,
      ⟨none, (some 14), .load false 1 (.t 13)⟩,
      ⟨none, (some 15), .mv (.t 2)⟩,
      ⟨none, (some 16), .bin .mul (.t 14) (.t 15)⟩,
      ⟨none, (some 17), .faddr 8 (.t 4)⟩,
      ⟨none, (some 18), .load false 1 (.t 17)⟩,
      ⟨none, (some 19), .mv (.t 3)⟩,
      ⟨none, (some 20), .faddr 1 (.t 5)⟩,
      ⟨none, (some 21), .load false 1 (.t 20)⟩,
      ⟨none, (some 22), .bin .sub (.t 19) (.t 21)⟩,
      ⟨none, (some 23), .mv (.t 9)⟩,
      ⟨none, (some 24), .bin .add (.t 22) (.t 23)⟩,
      ⟨none, (some 25), .mv (.t 9)⟩,
      ⟨none, (some 26), .bin .rem (.t 24) (.t 25)⟩,
      ⟨none, (some 27), .iaddr 1 (.t 18) (.t 26)⟩,
      ⟨none, (some 28), .load false 1 (.t 27)⟩,
      ⟨none, (some 29), .bin .mul (.t 16) (.t 28)⟩,
      ⟨none, (some 30), .bin .quo (.t 29) (.c (.int .i64 100))⟩,
      ⟨none, (some 8), .mv (.t 30)⟩])
    .ret)))
theorem ok20 : FnOk Try.prog 20 31 2 c20 [.t 8] := ⟨_, _, Try.func20, rfl, rfl, by kernel_rfl, by kernel_rfl⟩
theorem bd20 : bodied Try.prog 20 = true := by kernel_rfl

/-- ferrule/ferrulelaw05.in -/
def c21 : CI := (.seq (.reg [⟨none, (some 4), .mv (.c (.bool false))⟩])
    (.seq (.seq (.reg [⟨none, (some 5), .mv (.c (.int .i64 0))⟩])
    (.block 0 (.loop (.seq (.seq (.reg [⟨none, (some 6), .mv (.t 5)⟩,
      ⟨none, (some 7), .mv (.t 0)⟩,
      ⟨none, (some 8), .len (.t 7)⟩,
      ⟨none, (some 9), .bin .lss (.t 6) (.t 8)⟩])
    (.cond (.t 9) .skip
    (.exit 0)))
    (.seq (.block 1 (.seq (.reg [⟨none, (some 12), .mv (.t 0)⟩,
      ⟨none, (some 13), .mv (.t 5)⟩,
      ⟨none, (some 14), .iaddr 1 (.t 12) (.t 13)⟩,
      ⟨none, (some 15), .load false 1 (.t 14)⟩,
      ⟨none, (some 16), .mv (.t 1)⟩,
      ⟨none, (some 17), .bin .eql (.t 15) (.t 16)⟩])
    (.cond (.t 17) (.seq (.reg [⟨none, (some 4), .mv (.c (.bool true))⟩])
    .ret)
    .skip)))
    (.reg [⟨none, (some 10), .mv (.t 5)⟩,
      ⟨none, (some 11), .bin .add (.t 10) (.c (.int .i64 1))⟩,
      ⟨none, (some 5), .mv (.t 11)⟩]))))))
    (.seq (.reg [⟨none, (some 4), .mv (.c (.bool false))⟩])
    .ret)))
theorem ok21 : FnOk Try.prog 21 18 0 c21 [.t 4] := ⟨_, _, Try.func21, rfl, rfl, by kernel_rfl, by kernel_rfl⟩
theorem bd21 : bodied Try.prog 21 = true := by kernel_rfl

/-- ferrule/ferruleref05.StandsIn -/
def c22 : CI := (.seq (.reg [⟨none, (some 3), .box 0 true (.t 0)⟩,
      ⟨none, (some 5), .box 1 true (.t 2)⟩,
      ⟨none, (some 6), .mv (.c (.bool false))⟩])
    (.seq (.seq (.reg [⟨none, (some 7), .mv (.c (.int .i64 0))⟩])
    (.block 0 (.loop (.seq (.seq (.reg [⟨none, (some 8), .mv (.t 7)⟩,
      ⟨none, (some 9), .mv (.t 1)⟩,
      ⟨none, (some 10), .len (.t 9)⟩,
      ⟨none, (some 11), .bin .lss (.t 8) (.t 10)⟩])
    (.cond (.t 11) .skip
    (.exit 0)))
    (.seq (.block 1 (.seq (.reg [⟨none, (some 14), .load true 9 (.t 3)⟩,
      ⟨none, (some 15), .mv (.t 1)⟩,
      ⟨none, (some 16), .mv (.t 7)⟩,
      ⟨none, (some 17), .iaddr 2 (.t 15) (.t 16)⟩,
      ⟨none, (some 18), .load true 2 (.t 17)⟩,
      ⟨none, (some 19), .load true 2 (.t 5)⟩,
      ⟨none, (some 21), .faddr 7 (.t 3)⟩,
      ⟨none, (some 22), .load false 1 (.t 21)⟩,
      ⟨none, (some 23), .len (.t 22)⟩,
      ⟨none, (some 20), .callz 2 1 19 [(.t 14), (.t 18), (.t 19)] []⟩,
      ⟨none, (some 24), .callz 3 1 47 [(.t 20), (.t 23)] []⟩,
      ⟨none, (some 25), .len (.t 24)⟩,
      ⟨none, (some 26), .bin .gtr (.t 25) (.c (.int .i64 0))⟩])
    (.cond (.t 26) (.seq (.reg [⟨none, (some 6), .mv (.c (.bool false))⟩])
    .ret)
    .skip)))
    (.reg [⟨none, (some 12), .mv (.t 7)⟩,
      ⟨none, (some 13), .bin .add (.t 12) (.c (.int .i64 1))⟩,
      ⟨none, (some 7), .mv (.t 13)⟩]))))))
    (.seq (.reg [⟨none, (some 6), .mv (.c (.bool true))⟩])
    .ret)))
theorem ok22 : FnOk Try.prog 22 27 4 c22 [.t 6] := ⟨_, _, Try.func22, rfl, rfl, by kernel_rfl, by kernel_rfl⟩
theorem bd22 : bodied Try.prog 22 = true := by kernel_rfl

/-- ferrule/ferruleref05.IsRib -/
def c23 : CI := (.seq (.reg [⟨none, (some 2), .box 0 true (.t 0)⟩,
      ⟨none, (some 4), .mv (.c (.bool false))⟩])
    (.seq (.reg [⟨none, (some 5), .mv (.t 1)⟩,
      ⟨none, (some 6), .faddr 7 (.t 2)⟩,
      ⟨none, (some 7), .load false 1 (.t 6)⟩,
      ⟨none, (some 8), .len (.t 7)⟩,
      ⟨none, (some 9), .bin .sub (.t 8) (.c (.int .i64 1))⟩,
      ⟨none, (some 10), .call 34 [(.t 5), (.c (.int .i64 0)), (.t 9)]⟩,
      ⟨none, (some 4), .mv (.t 10)⟩])
    .ret))
theorem ok23 : FnOk Try.prog 23 11 1 c23 [.t 4] := ⟨_, _, Try.func23, rfl, rfl, by kernel_rfl, by kernel_rfl⟩
theorem bd23 : bodied Try.prog 23 = true := by kernel_rfl

/-- ferrule/ferruleref05.Copy -/
def c24 : CI := (.seq (.reg [⟨none, (some 1), .box 0 true (.t 0)⟩,
      ⟨none, (some 2), .alloc 1 [.nils, (.int .i64 0), (.int .i64 0), (.int .i64 0), (.int .i64 0), (.int .i64 0), (.int .i64 0), .nils, .nils]⟩])
    (.seq (.reg [⟨none, (some 4), .load true 9 (.t 1)⟩,
      ⟨none, (some 3), .alloc 2 [.nils, (.int .i64 0), (.int .i64 0), (.int .i64 0), (.int .i64 0), (.int .i64 0), (.int .i64 0), .nils, .nils]⟩,
      ⟨none, none, .stz true 9 (.t 3) (.t 4) []⟩])
    (.seq (.reg [⟨none, (some 5), .faddr 0 (.t 1)⟩,
      ⟨none, (some 6), .load true 7 (.t 5)⟩,
      ⟨none, (some 7), .callw 3 1 48 [(.t 6)]⟩,
      ⟨none, (some 8), .faddr 0 (.t 3)⟩,
      ⟨none, none, .stz true 7 (.t 8) (.t 7) []⟩])
    (.seq (.reg [⟨none, (some 10), .faddr 7 (.t 1)⟩,
      ⟨none, (some 11), .load false 1 (.t 10)⟩,
      ⟨none, (some 14), .faddr 8 (.t 1)⟩,
      ⟨none, (some 15), .load false 1 (.t 14)⟩,
      ⟨none, (some 9), .bsl 4 45 2 [] []⟩,
      ⟨none, (some 12), .apd 5 45 2 16 (.t 9) (.t 11) [(.t 14)]⟩,
      ⟨none, (some 13), .bsl 6 3 1 [] [(.t 9), (.t 11)]⟩,
      ⟨none, (some 16), .apd 7 3 1 8 (.t 13) (.t 15) []⟩,
      ⟨none, (some 17), .faddr 7 (.t 3)⟩,
      ⟨none, none, .stz false 1 (.t 17) (.t 12) []⟩,
      ⟨none, (some 18), .faddr 8 (.t 3)⟩,
      ⟨none, none, .stz false 1 (.t 18) (.t 16) []⟩])
    (.seq (.reg [⟨none, (some 19), .load true 9 (.t 3)⟩,
      ⟨none, none, .stz true 9 (.t 2) (.t 19) []⟩])
    .ret)))))
theorem ok24 : FnOk Try.prog 24 20 8 c24 [.cell 2 true 9] := ⟨_, _, Try.func24, rfl, rfl, by kernel_rfl, by kernel_rfl⟩
theorem bd24 : bodied Try.prog 24 = true := by kernel_rfl

/-- ferrule/gusts.Most -/
def c25 : CI := (.seq (.reg [⟨none, (some 2), .box 0 true (.t 0)⟩,
      ⟨none, (some 4), .mv (.c (.int .i64 0))⟩,
      ⟨none, (some 5), .mv (.c (.int .i64 0))⟩])
    (.seq (.reg [⟨none, (some 11), .load true 9 (.t 2)⟩,
      ⟨none, (some 12), .mv (.t 1)⟩,
      ⟨none, (some 13), .build [(.int .i64 0), (.int .i64 0)] [(1, 1, (.t 12))]⟩,
      ⟨none, (some 14), .bsl 1 40 2 [(.t 13)] []⟩,
      ⟨none, (some 15), .callw 2 4 41 [(.t 11), (.t 14)]⟩,
      ⟨none, (some 10), .mv (.t 15)⟩,
      ⟨none, (some 16), .extract 0 (.t 10)⟩,
      ⟨none, (some 17), .extract 1 (.t 10)⟩,
      ⟨none, (some 18), .extract 2 (.t 10)⟩,
      ⟨none, (some 6), .alloc 6 [(.int .i64 0), .nils, .nils]⟩,
      ⟨none, (some 7), .alloc 7 [(.int .i64 0), .nils, .nils]⟩,
      ⟨none, none, .stz true 3 (.t 6) (.t 16) []⟩,
      ⟨none, none, .stz true 3 (.t 7) (.t 17) []⟩,
      ⟨none, (some 8), .mv (.t 18)⟩])
    (.seq (.seq (.reg [⟨none, (some 19), .mv (.t 8)⟩,
      ⟨none, (some 20), .bin .neq (.t 19) (.c (.int .i64 0))⟩])
    (.cond (.t 20) (.seq (.reg [⟨none, (some 21), .mv (.t 8)⟩,
      ⟨none, (some 4), .mv (.c (.int .i64 0))⟩,
      ⟨none, (some 5), .mv (.t 21)⟩])
    .ret)
    .skip))
    (.seq (.reg [⟨none, (some 9), .mv (.c (.int .i64 99))⟩])
    (.seq (.block 0 (.loop (.seq (.seq (.reg [⟨none, (some 22), .load true 3 (.t 7)⟩,
      ⟨none, (some 23), .mv (.t 9)⟩,
      ⟨none, (some 24), .mv (.t 1)⟩,
      ⟨none, (some 25), .build [(.int .i64 0), (.int .i64 0)] [(0, 1, (.t 23)), (1, 1, (.t 24))]⟩,
      ⟨none, (some 26), .bsl 8 40 2 [(.t 25)] []⟩,
      ⟨none, (some 27), .call 44 [(.t 22), (.t 26)]⟩,
      ⟨none, (some 28), .un .not (.t 27)⟩])
    (.cond (.t 28) .skip
    (.exit 0)))
    (.block 1 (.reg [⟨none, (some 29), .mv (.t 9)⟩,
      ⟨none, (some 30), .bin .sub (.t 29) (.c (.int .i64 1))⟩,
      ⟨none, (some 9), .mv (.t 30)⟩])))))
    (.seq (.reg [⟨none, (some 31), .mv (.t 9)⟩,
      ⟨none, (some 4), .mv (.t 31)⟩,
      ⟨none, (some 5), .mv (.c (.int .i64 0))⟩])
    .ret))))))
theorem ok25 : FnOk Try.prog 25 32 9 c25 [.t 4, .t 5] := ⟨_, _, Try.func25, rfl, rfl, by kernel_rfl, by kernel_rfl⟩
theorem bd25 : bodied Try.prog 25 = true := by kernel_rfl

/-- ferrule/ferrulelaw05.subset -/
def c26 : CI := (.seq (.reg [⟨none, (some 4), .mv (.c (.bool false))⟩])
    (.seq (.seq (.reg [⟨none, (some 5), .mv (.c (.int .i64 0))⟩])
    (.block 0 (.loop (.seq (.seq (.reg [⟨none, (some 6), .mv (.t 5)⟩,
      ⟨none, (some 7), .mv (.t 0)⟩,
      ⟨none, (some 8), .len (.t 7)⟩,
      ⟨none, (some 9), .bin .lss (.t 6) (.t 8)⟩])
    (.cond (.t 9) .skip
    (.exit 0)))
    (.seq (.block 1 (.seq (.reg [⟨none, (some 12), .mv (.t 1)⟩,
      ⟨none, (some 13), .mv (.t 0)⟩,
      ⟨none, (some 14), .mv (.t 5)⟩,
      ⟨none, (some 15), .iaddr 1 (.t 13) (.t 14)⟩,
      ⟨none, (some 16), .load false 1 (.t 15)⟩,
      ⟨none, (some 17), .call 21 [(.t 12), (.t 16)]⟩,
      ⟨none, (some 18), .un .not (.t 17)⟩])
    (.cond (.t 18) (.seq (.reg [⟨none, (some 4), .mv (.c (.bool false))⟩])
    .ret)
    .skip)))
    (.reg [⟨none, (some 10), .mv (.t 5)⟩,
      ⟨none, (some 11), .bin .add (.t 10) (.c (.int .i64 1))⟩,
      ⟨none, (some 5), .mv (.t 11)⟩]))))))
    (.seq (.reg [⟨none, (some 4), .mv (.c (.bool true))⟩])
    .ret)))
theorem ok26 : FnOk Try.prog 26 19 0 c26 [.t 4] := ⟨_, _, Try.func26, rfl, rfl, by kernel_rfl, by kernel_rfl⟩
theorem bd26 : bodied Try.prog 26 = true := by kernel_rfl

/-- ferrule/gusts.Weak -/
def c27 : CI := (.seq (.reg [⟨none, (some 2), .box 0 true (.t 0)⟩,
      ⟨none, (some 3), .box 1 false (.t 1)⟩,
      ⟨none, (some 4), .mv (.c .nils)⟩,
      ⟨none, (some 5), .mv (.c (.int .i64 0))⟩])
    (.seq (.reg [⟨none, (some 10), .load true 9 (.t 2)⟩,
      ⟨none, (some 11), .load false 1 (.t 3)⟩,
      ⟨none, (some 12), .callw 2 4 41 [(.t 10), (.t 11)]⟩,
      ⟨none, (some 9), .mv (.t 12)⟩,
      ⟨none, (some 13), .extract 0 (.t 9)⟩,
      ⟨none, (some 14), .extract 1 (.t 9)⟩,
      ⟨none, (some 15), .extract 2 (.t 9)⟩,
      ⟨none, (some 6), .alloc 6 [(.int .i64 0), .nils, .nils]⟩,
      ⟨none, (some 7), .alloc 7 [(.int .i64 0), .nils, .nils]⟩,
      ⟨none, none, .stz true 3 (.t 6) (.t 13) []⟩,
      ⟨none, none, .stz true 3 (.t 7) (.t 14) []⟩,
      ⟨none, (some 8), .mv (.t 15)⟩])
    (.seq (.seq (.reg [⟨none, (some 16), .mv (.t 8)⟩,
      ⟨none, (some 17), .bin .neq (.t 16) (.c (.int .i64 0))⟩])
    (.cond (.t 17) (.seq (.reg [⟨none, (some 18), .mv (.t 8)⟩,
      ⟨none, (some 4), .mv (.c .nils)⟩,
      ⟨none, (some 5), .mv (.t 18)⟩])
    .ret)
    .skip))
    (.seq (.reg [⟨none, (some 19), .faddr 7 (.t 2)⟩,
      ⟨none, (some 20), .load false 1 (.t 19)⟩,
      ⟨none, (some 21), .len (.t 20)⟩,
      ⟨none, (some 22), .mkfn 50 [(.t 3), (.t 7)]⟩,
      ⟨none, (some 23), .callw 8 1 49 [(.t 21), (.t 22)]⟩,
      ⟨none, (some 4), .mv (.t 23)⟩,
      ⟨none, (some 5), .mv (.c (.int .i64 0))⟩])
    .ret))))
theorem ok27 : FnOk Try.prog 27 24 9 c27 [.t 4, .t 5] := ⟨_, _, Try.func27, rfl, rfl, by kernel_rfl, by kernel_rfl⟩
theorem bd27 : bodied Try.prog 27 = true := by kernel_rfl

/-- ferrule/ferrulelaw05.Far -/
def c28 : CI := (.seq (.reg [⟨none, (some 1), .box 0 true (.t 0)⟩,
      ⟨none, (some 2), .mv (.c (.bool false))⟩])
    (.seq (.reg [⟨none, (some 3), .faddr 0 (.t 1)⟩,
      ⟨none, (some 4), .faddr 0 (.t 3)⟩,
      ⟨none, (some 5), .load false 1 (.t 4)⟩,
      ⟨none, (some 6), .len (.t 5)⟩,
      ⟨none, (some 7), .bin .gtr (.t 6) (.c (.int .i64 20))⟩,
      ⟨none, (some 8), .mv (.t 7)⟩,
      ⟨(some (8, false)), (some 9), .faddr 7 (.t 1)⟩,
      ⟨(some (8, false)), (some 10), .load false 1 (.t 9)⟩,
      ⟨(some (8, false)), (some 11), .len (.t 10)⟩,
      ⟨(some (8, false)), (some 12), .bin .gtr (.t 11) (.c (.int .i64 40))⟩,
      ⟨none, (some 13), .pick (.t 8) (.c (.bool true)) (.t 12)⟩,
      ⟨none, (some 14), .mv (.t 13)⟩,
      ⟨(some (14, false)), (some 15), .faddr 8 (.t 1)⟩,
      ⟨(some (14, false)), (some 16), .load false 1 (.t 15)⟩,
      ⟨(some (14, false)), (some 17), .len (.t 16)⟩,
      ⟨(some (14, false)), (some 18), .bin .gtr (.t 17) (.c (.int .i64 40))⟩,
      ⟨none, (some 19), .pick (.t 14) (.c (.bool true)) (.t 18)⟩,
      ⟨none, (some 2), .mv (.t 19)⟩])
    .ret))
theorem ok28 : FnOk Try.prog 28 20 1 c28 [.t 2] := ⟨_, _, Try.func28, rfl, rfl, by kernel_rfl, by kernel_rfl⟩
theorem bd28 : bodied Try.prog 28 = true := by kernel_rfl

/-- ferrule/ferruleref05.Check -/
def c29 : CI := (.seq (.reg [⟨none, (some 1), .box 0 true (.t 0)⟩,
      ⟨none, (some 2), .mv (.c (.int .i64 0))⟩])
    (.seq (.seq (.reg [⟨none, (some 4), .faddr 0 (.t 1)⟩,
      ⟨none, (some 5), .load true 7 (.t 4)⟩,
      ⟨none, (some 6), .call 54 [(.t 5)]⟩,
      ⟨none, (some 7), .bin .neq (.t 6) (.c (.int .i64 0))⟩,
      ⟨none, (some 8), .mv (.t 7)⟩,
      ⟨(some (8, false)), (some 9), .faddr 7 (.t 1)⟩,
      ⟨(some (8, false)), (some 10), .load false 1 (.t 9)⟩,
      ⟨(some (8, false)), (some 11), .len (.t 10)⟩,
      ⟨(some (8, false)), (some 12), .call 34 [(.t 11), (.c (.int .i64 3)), (.c (.int .i64 10))]⟩,
      ⟨(some (8, false)), (some 13), .un .not (.t 12)⟩,
      ⟨none, (some 14), .pick (.t 8) (.c (.bool true)) (.t 13)⟩,
      ⟨none, (some 15), .mv (.t 14)⟩,
      ⟨(some (15, false)), (some 16), .faddr 8 (.t 1)⟩,
      ⟨(some (15, false)), (some 17), .load false 1 (.t 16)⟩,
      ⟨(some (15, false)), (some 18), .len (.t 17)⟩,
      ⟨(some (15, false)), (some 19), .faddr 7 (.t 1)⟩,
      ⟨(some (15, false)), (some 20), .load false 1 (.t 19)⟩,
      ⟨(some (15, false)), (some 21), .len (.t 20)⟩,
      ⟨(some (15, false)), (some 22), .bin .neq (.t 18) (.t 21)⟩,
      ⟨none, (some 23), .pick (.t 15) (.c (.bool true)) (.t 22)⟩])
    (.cond (.t 23) (.seq (.reg [⟨none, (some 2), .mv (.c (.int .i64 50))⟩])
    .ret)
    .skip))
    (.seq (.seq (.reg [⟨none, (some 3), .mv (.c (.int .i64 0))⟩])
    (.block 0 (.loop (.seq (.seq (.reg [⟨none, (some 24), .mv (.t 3)⟩,
      ⟨none, (some 25), .faddr 7 (.t 1)⟩,
      ⟨none, (some 26), .load false 1 (.t 25)⟩,
      ⟨none, (some 27), .len (.t 26)⟩,
      ⟨none, (some 28), .bin .lss (.t 24) (.t 27)⟩])
    (.cond (.t 28) .skip
    (.exit 0)))
    (.seq (.block 1 (.seq (.reg [⟨none, (some 31), .faddr 7 (.t 1)⟩,
      ⟨none, (some 32), .load false 1 (.t 31)⟩,
      ⟨none, (some 33), .mv (.t 3)⟩,
      ⟨none, (some 34), .iaddr 2 (.t 32) (.t 33)⟩,
      ⟨none, (some 35), .faddr 0 (.t 34)⟩,
      ⟨none, (some 36), .load false 1 (.t 35)⟩,
      ⟨none, (some 37), .faddr 7 (.t 1)⟩,
      ⟨none, (some 38), .load false 1 (.t 37)⟩,
      ⟨none, (some 39), .mv (.t 3)⟩,
      ⟨none, (some 40), .iaddr 2 (.t 38) (.t 39)⟩,
      ⟨none, (some 41), .faddr 1 (.t 40)⟩,
      ⟨none, (some 42), .load false 1 (.t 41)⟩,
      ⟨none, (some 43), .call 34 [(.t 36), (.c (.int .i64 0)), (.t 42)]⟩,
      ⟨none, (some 44), .un .not (.t 43)⟩,
      ⟨none, (some 45), .mv (.t 44)⟩,
      ⟨(some (45, false)), (some 46), .faddr 7 (.t 1)⟩,
      ⟨(some (45, false)), (some 47), .load false 1 (.t 46)⟩,
      ⟨(some (45, false)), (some 48), .mv (.t 3)⟩,
      ⟨(some (45, false)), (some 49), .iaddr 2 (.t 47) (.t 48)⟩,
      ⟨(some (45, false)), (some 50), .faddr 1 (.t 49)⟩,
      ⟨(some (45, false)), (some 51), .load false 1 (.t 50)⟩,
      ⟨(some (45, false)), (some 52), .bin .gtr (.t 51) (.c (.int .i64 99999))⟩,
      ⟨none, (some 53), .pick (.t 45) (.c (.bool true)) (.t 52)⟩,
      ⟨none, (some 54), .mv (.t 53)⟩,
      ⟨(some (54, false)), (some 55), .faddr 8 (.t 1)⟩,
      ⟨(some (54, false)), (some 56), .load false 1 (.t 55)⟩,
      ⟨(some (54, false)), (some 57), .mv (.t 3)⟩,
      ⟨(some (54, false)), (some 58), .iaddr 1 (.t 56) (.t 57)⟩,
      ⟨(some (54, false)), (some 59), .load false 1 (.t 58)⟩,
      ⟨(some (54, false)), (some 60), .call 34 [(.t 59), (.c (.int .i64 0)), (.c (.int .i64 99))]⟩,
      ⟨(some (54, false)), (some 61), .un .not (.t 60)⟩,
      ⟨none, (some 62), .pick (.t 54) (.c (.bool true)) (.t 61)⟩])
    (.cond (.t 62) (.seq (.reg [⟨none, (some 2), .mv (.c (.int .i64 50))⟩])
    .ret)
    .skip)))
    (.reg [⟨none, (some 29), .mv (.t 3)⟩,
      ⟨none, (some 30), .bin .add (.t 29) (.c (.int .i64 1))⟩,
      ⟨none, (some 3), .mv (.t 30)⟩]))))))
    (.seq (.reg [⟨none, (some 2), .mv (.c (.int .i64 0))⟩])
    .ret))))
theorem ok29 : FnOk Try.prog 29 63 1 c29 [.t 2] := ⟨_, _, Try.func29, rfl, rfl, by kernel_rfl, by kernel_rfl⟩
theorem bd29 : bodied Try.prog 29 = true := by kernel_rfl

/-- ferrule/ferruletop.blown -/
def c30 : CI := (.seq (.reg [⟨none, (some 0), .mv (.c (.bool false))⟩])
    (.seq (.reg [⟨none, (some 6), .callw 0 1 56 []⟩,
      ⟨none, (some 7), .call 55 [(.t 6)]⟩,
      ⟨none, (some 5), .mv (.t 7)⟩,
      ⟨none, (some 8), .extract 0 (.t 5)⟩,
      ⟨none, (some 9), .extract 1 (.t 5)⟩,
      ⟨none, (some 1), .mv (.t 8)⟩,
      ⟨none, (some 2), .mv (.t 9)⟩])
    (.seq (.reg [⟨none, (some 11), .callw 1 3 36 []⟩,
      ⟨none, (some 12), .call 14 [(.t 11)]⟩,
      ⟨none, (some 10), .mv (.t 12)⟩,
      ⟨none, (some 13), .extract 0 (.t 10)⟩,
      ⟨none, (some 14), .extract 1 (.t 10)⟩,
      ⟨none, (some 3), .alloc 4 [(.int .i64 0), (.int .i64 0)]⟩,
      ⟨none, none, .store true 2 (.t 3) (.t 13) []⟩,
      ⟨none, (some 4), .mv (.t 14)⟩])
    (.seq (.reg [⟨none, (some 15), .mv (.t 2)⟩,
      ⟨none, (some 16), .bin .eql (.t 15) (.c (.int .i64 0))⟩,
      ⟨none, (some 17), .mv (.t 16)⟩,
      ⟨(some (17, true)), (some 18), .mv (.t 4)⟩,
      ⟨(some (17, true)), (some 19), .bin .eql (.t 18) (.c (.int .i64 0))⟩,
      ⟨none, (some 20), .pick (.t 17) (.t 19) (.c (.bool false))⟩,
      ⟨none, (some 21), .mv (.t 20)⟩,
      ⟨(some (21, true)), (some 22), .mv (.t 1)⟩,
      ⟨(some (21, true)), (some 23), .bin .eql (.t 22) (.c (.int .i64 1))⟩,
      ⟨none, (some 24), .pick (.t 21) (.t 23) (.c (.bool false))⟩,
      ⟨none, (some 25), .mv (.t 24)⟩,
      ⟨(some (25, true)), (some 26), .load true 2 (.t 3)⟩,
      ⟨(some (25, true)), (some 27), .build [(.int .i64 0), (.int .i64 0)] [(0, 1, (.c (.int .i64 65))), (1, 1, (.c (.int .i64 76)))]⟩,
      ⟨(some (25, true)), (some 28), .eqs false (.node [(0, 1, (.leaf true)), (1, 1, (.leaf true))]) (.t 26) (.t 27)⟩,
      ⟨none, (some 29), .pick (.t 25) (.t 28) (.c (.bool false))⟩,
      ⟨none, (some 0), .mv (.t 29)⟩])
    .ret))))
theorem ok30 : FnOk Try.prog 30 30 5 c30 [.t 0] := ⟨_, _, Try.func30, rfl, rfl, by kernel_rfl, by kernel_rfl⟩
theorem bd30 : bodied Try.prog 30 = true := by kernel_rfl

/-- ferrule/frames.Cosine -/
def c31 : CI := (.seq (.reg [⟨none, (some 3), .box 0 true (.t 0)⟩,
      ⟨none, (some 6), .alloc 1 [(.int .i64 0), (.int .i64 0)]⟩,
      ⟨none, (some 7), .alloc 2 [(.int .i64 0), (.int .i64 0)]⟩,
      ⟨none, (some 8), .mv (.c (.int .i64 0))⟩])
    (.seq (.seq (.reg [⟨none, (some 11), .load true 7 (.t 3)⟩,
      ⟨none, (some 12), .mv (.t 1)⟩,
      ⟨none, (some 13), .mv (.t 2)⟩,
      ⟨none, (some 14), .call 57 [(.t 11), (.t 12), (.t 13)]⟩,
      ⟨none, (some 9), .mv (.t 14)⟩])
    (.seq (.reg [⟨none, (some 15), .mv (.t 9)⟩,
      ⟨none, (some 16), .bin .neq (.t 15) (.c (.int .i64 0))⟩])
    (.cond (.t 16) (.seq (.reg [⟨none, (some 17), .build [(.int .i64 0), (.int .i64 0)] []⟩,
      ⟨none, (some 18), .build [(.int .i64 0), (.int .i64 0)] []⟩,
      ⟨none, (some 19), .mv (.t 9)⟩,
      ⟨none, none, .store true 2 (.t 6) (.t 17) []⟩,
      ⟨none, none, .store true 2 (.t 7) (.t 18) []⟩,
      ⟨none, (some 8), .mv (.t 19)⟩])
    .ret)
    .skip)))
    (.seq (.reg [⟨none, (some 20), .load true 7 (.t 3)⟩,
      ⟨none, (some 21), .mv (.t 1)⟩,
      ⟨none, (some 22), .mv (.t 2)⟩,
      ⟨none, (some 23), .call 58 [(.t 20), (.t 21), (.t 22)]⟩,
      ⟨none, (some 10), .mv (.t 23)⟩])
    (.seq (.seq (.reg [⟨none, (some 24), .mv (.t 10)⟩,
      ⟨none, (some 25), .bin .eql (.t 24) (.c (.int .i64 0))⟩])
    (.cond (.t 25) (.seq (.reg [⟨none, (some 26), .build [(.int .i64 0), (.int .i64 0)] []⟩,
      ⟨none, (some 27), .build [(.int .i64 0), (.int .i64 0)] []⟩,
      ⟨none, none, .store true 2 (.t 6) (.t 26) []⟩,
      ⟨none, none, .store true 2 (.t 7) (.t 27) []⟩,
      ⟨none, (some 8), .mv (.c (.int .i64 3))⟩])
    .ret)
    .skip))
    (.seq (.reg [⟨none, (some 29), .faddr 0 (.t 3)⟩,
      ⟨none, (some 30), .load false 1 (.t 29)⟩,
      ⟨none, (some 31), .mv (.t 1)⟩,
      ⟨none, (some 32), .iaddr 7 (.t 30) (.t 31)⟩,
      ⟨none, (some 33), .load true 7 (.t 32)⟩,
      ⟨none, (some 34), .mv (.t 10)⟩,
      ⟨none, (some 35), .call 59 [(.t 33), (.t 34)]⟩,
      ⟨none, (some 28), .mv (.t 35)⟩,
      ⟨none, (some 36), .extract 0 (.t 28)⟩,
      ⟨none, (some 37), .extract 1 (.t 28)⟩,
      ⟨none, none, .store true 2 (.t 6) (.t 36) []⟩,
      ⟨none, none, .store true 2 (.t 7) (.t 37) []⟩])
    (.seq (.reg [⟨none, (some 38), .load true 2 (.t 6)⟩,
      ⟨none, (some 40), .load true 2 (.t 7)⟩,
      ⟨none, (some 39), .call 60 [(.t 38)]⟩,
      ⟨none, (some 41), .call 60 [(.t 40)]⟩,
      ⟨none, none, .store true 2 (.t 6) (.t 39) []⟩,
      ⟨none, none, .store true 2 (.t 7) (.t 41) []⟩,
      ⟨none, (some 8), .mv (.c (.int .i64 0))⟩])
    .ret))))))
theorem ok31 : FnOk Try.prog 31 42 3 c31 [.cell 6 true 2, .cell 7 true 2, .t 8] := ⟨_, _, Try.func31, rfl, rfl, by kernel_rfl, by kernel_rfl⟩
theorem bd31 : bodied Try.prog 31 = true := by kernel_rfl

/-- ferrule/ferruletop.lifted -/
def c32 : CI := (.seq (.reg [⟨none, (some 1), .box 0 true (.t 0)⟩,
      ⟨none, (some 2), .mv (.c (.int .i64 0))⟩])
    (.seq (.reg [⟨none, (some 3), .faddr 0 (.t 1)⟩,
      ⟨none, (some 4), .load false 1 (.t 3)⟩,
      ⟨none, (some 5), .bin .mul (.c (.int .i64 100)) (.t 4)⟩,
      ⟨none, (some 6), .faddr 1 (.t 1)⟩,
      ⟨none, (some 7), .load false 1 (.t 6)⟩,
      ⟨none, (some 8), .call 61 [(.t 5), (.t 7)]⟩,
      ⟨none, (some 9), .bin .add (.c (.int .i64 100)) (.t 8)⟩,
      ⟨none, (some 10), .mm true [(.c (.int .i64 0)), (.t 9)]⟩,
      ⟨none, (some 11), .mm false [(.c (.int .i64 200)), (.t 10)]⟩,
      ⟨none, (some 2), .mv (.t 11)⟩])
    .ret))
theorem ok32 : FnOk Try.prog 32 12 1 c32 [.t 2] := ⟨_, _, Try.func32, rfl, rfl, by kernel_rfl, by kernel_rfl⟩
theorem bd32 : bodied Try.prog 32 = true := by kernel_rfl

/-- ferrule/ferruleref05.IsClass -/
def c33 : CI := (.seq (.reg [⟨none, (some 2), .box 0 true (.t 0)⟩,
      ⟨none, (some 4), .mv (.c (.bool false))⟩])
    (.seq (.seq (.reg [⟨none, (some 5), .mv (.c (.int .i64 0))⟩])
    (.block 0 (.loop (.seq (.seq (.reg [⟨none, (some 6), .mv (.t 5)⟩,
      ⟨none, (some 7), .mv (.t 1)⟩,
      ⟨none, (some 8), .len (.t 7)⟩,
      ⟨none, (some 9), .bin .lss (.t 6) (.t 8)⟩])
    (.cond (.t 9) .skip
    (.exit 0)))
    (.seq (.block 1 (.seq (.reg [⟨none, (some 12), .mv (.t 1)⟩,
      ⟨none, (some 13), .mv (.t 5)⟩,
      ⟨none, (some 14), .iaddr 2 (.t 12) (.t 13)⟩,
      ⟨none, (some 15), .faddr 0 (.t 14)⟩,
      ⟨none, (some 16), .load false 1 (.t 15)⟩,
      ⟨none, (some 17), .call 34 [(.t 16), (.c (.int .i64 0)), (.c (.int .i64 99))]⟩,
      ⟨none, (some 18), .un .not (.t 17)⟩,
      ⟨none, (some 19), .mv (.t 18)⟩,
      ⟨(some (19, false)), (some 20), .load true 9 (.t 2)⟩,
      ⟨(some (19, false)), (some 21), .mv (.t 1)⟩,
      ⟨(some (19, false)), (some 22), .mv (.t 5)⟩,
      ⟨(some (19, false)), (some 23), .iaddr 2 (.t 21) (.t 22)⟩,
      ⟨(some (19, false)), (some 24), .faddr 1 (.t 23)⟩,
      ⟨(some (19, false)), (some 25), .load false 1 (.t 24)⟩,
      ⟨(some (19, false)), (some 26), .call 23 [(.t 20), (.t 25)]⟩,
      ⟨(some (19, false)), (some 27), .un .not (.t 26)⟩,
      ⟨none, (some 28), .pick (.t 19) (.c (.bool true)) (.t 27)⟩])
    (.cond (.t 28) (.seq (.reg [⟨none, (some 4), .mv (.c (.bool false))⟩])
    .ret)
    .skip)))
    (.reg [⟨none, (some 10), .mv (.t 5)⟩,
      ⟨none, (some 11), .bin .add (.t 10) (.c (.int .i64 1))⟩,
      ⟨none, (some 5), .mv (.t 11)⟩]))))))
    (.seq (.reg [⟨none, (some 29), .mv (.t 1)⟩,
      ⟨none, (some 30), .len (.t 29)⟩,
      ⟨none, (some 31), .bin .leq (.t 30) (.c (.int .i64 20))⟩,
      ⟨none, (some 4), .mv (.t 31)⟩])
    .ret)))
theorem ok33 : FnOk Try.prog 33 32 1 c33 [.t 4] := ⟨_, _, Try.func33, rfl, rfl, by kernel_rfl, by kernel_rfl⟩
theorem bd33 : bodied Try.prog 33 = true := by kernel_rfl

/-- ferrule/ferruleref05.within -/
def c34 : CI := (.seq (.reg [⟨none, (some 6), .mv (.c (.bool false))⟩])
    (.seq (.reg [⟨none, (some 7), .mv (.t 0)⟩,
      ⟨none, (some 8), .mv (.t 1)⟩,
      ⟨none, (some 9), .mv (.t 2)⟩,
      ⟨none, (some 10), .call 62 [(.t 7), (.t 8), (.t 9)]⟩,
      ⟨none, (some 6), .mv (.t 10)⟩])
    .ret))
theorem ok34 : FnOk Try.prog 34 11 0 c34 [.t 6] := ⟨_, _, Try.func34, rfl, rfl, by kernel_rfl, by kernel_rfl⟩
theorem bd34 : bodied Try.prog 34 = true := by kernel_rfl

/-- ferrule/ferruleref01.IsPair -/
def c35 : CI := (.seq (.reg [⟨none, (some 3), .box 0 true (.t 0)⟩,
      ⟨none, (some 5), .box 1 true (.t 2)⟩,
      ⟨none, (some 6), .mv (.c (.bool false))⟩])
    (.seq (.reg [⟨none, (some 8), .faddr 0 (.t 3)⟩,
      ⟨none, (some 9), .load false 1 (.t 8)⟩,
      ⟨none, (some 10), .mv (.t 1)⟩,
      ⟨none, (some 11), .iaddr 7 (.t 9) (.t 10)⟩,
      ⟨none, (some 12), .load true 7 (.t 11)⟩,
      ⟨none, (some 7), .alloc 2 [(.int .i64 0), (.int .i64 0), (.int .i64 0), (.int .i64 0), (.int .i64 0), (.int .i64 0), (.int .i64 0)]⟩,
      ⟨none, none, .store true 7 (.t 7) (.t 12) []⟩])
    (.seq (.reg [⟨none, (some 13), .faddr 0 (.t 5)⟩,
      ⟨none, (some 14), .load false 1 (.t 13)⟩,
      ⟨none, (some 15), .faddr 0 (.t 7)⟩,
      ⟨none, (some 16), .faddr 0 (.t 15)⟩,
      ⟨none, (some 17), .load false 1 (.t 16)⟩,
      ⟨none, (some 18), .faddr 0 (.t 7)⟩,
      ⟨none, (some 19), .faddr 1 (.t 18)⟩,
      ⟨none, (some 20), .load false 1 (.t 19)⟩,
      ⟨none, (some 21), .call 62 [(.t 14), (.t 17), (.t 20)]⟩,
      ⟨none, (some 22), .mv (.t 21)⟩,
      ⟨(some (22, true)), (some 23), .faddr 1 (.t 5)⟩,
      ⟨(some (22, true)), (some 24), .load false 1 (.t 23)⟩,
      ⟨(some (22, true)), (some 25), .faddr 2 (.t 7)⟩,
      ⟨(some (22, true)), (some 26), .faddr 0 (.t 25)⟩,
      ⟨(some (22, true)), (some 27), .load false 1 (.t 26)⟩,
      ⟨(some (22, true)), (some 28), .faddr 2 (.t 7)⟩,
      ⟨(some (22, true)), (some 29), .faddr 1 (.t 28)⟩,
      ⟨(some (22, true)), (some 30), .load false 1 (.t 29)⟩,
      ⟨(some (22, true)), (some 31), .call 62 [(.t 24), (.t 27), (.t 30)]⟩,
      ⟨none, (some 32), .pick (.t 22) (.t 31) (.c (.bool false))⟩,
      ⟨none, (some 6), .mv (.t 32)⟩])
    .ret)))
theorem ok35 : FnOk Try.prog 35 33 3 c35 [.t 6] := ⟨_, _, Try.func35, rfl, rfl, by kernel_rfl, by kernel_rfl⟩
theorem bd35 : bodied Try.prog 35 = true := by kernel_rfl

/-- ferrule/ferrulelaw05.Example -/
def c36 : CI := (.seq (.reg [⟨none, (some 0), .alloc 0 [.nils, (.int .i64 0), (.int .i64 0), (.int .i64 0), (.int .i64 0), (.int .i64 0), (.int .i64 0), .nils, .nils]⟩])
    (.seq (.reg [⟨none, (some 1), .callw 1 1 56 []⟩,
      ⟨none, (some 2), .build [(.int .i64 0), (.int .i64 0)] [(0, 1, (.c (.int .i64 100))), (1, 1, (.c (.int .i64 110)))]⟩,
      ⟨none, (some 3), .build [(.int .i64 0), (.int .i64 0)] [(0, 1, (.c (.int .i64 60))), (1, 1, (.c (.int .i64 60)))]⟩,
      ⟨none, (some 4), .build [(.int .i64 0), (.int .i64 0)] [(0, 1, (.c (.int .i64 50))), (1, 1, (.c (.int .i64 55)))]⟩,
      ⟨none, (some 5), .build [(.int .i64 0), (.int .i64 0)] [(0, 1, (.c (.int .i64 40))), (1, 1, (.c (.int .i64 40)))]⟩,
      ⟨none, (some 6), .build [(.int .i64 0), (.int .i64 0)] [(0, 1, (.c (.int .i64 50))), (1, 1, (.c (.int .i64 50)))]⟩,
      ⟨none, (some 7), .build [(.int .i64 0), (.int .i64 0)] [(0, 1, (.c (.int .i64 60))), (1, 1, (.c (.int .i64 60)))]⟩,
      ⟨none, (some 8), .bsl 2 45 2 [(.t 2), (.t 3), (.t 4), (.t 5), (.t 6), (.t 7)] []⟩,
      ⟨none, (some 9), .bsl 3 3 1 [(.c (.int .i64 10)), (.c (.int .i64 6)), (.c (.int .i64 3)), (.c (.int .i64 1)), (.c (.int .i64 3)), (.c (.int .i64 6))] []⟩,
      ⟨none, (some 10), .build [.nils, (.int .i64 0), (.int .i64 0), (.int .i64 0), (.int .i64 0), (.int .i64 0), (.int .i64 0), .nils, .nils] [(0, 7, (.t 1)), (7, 1, (.t 8)), (8, 1, (.t 9))]⟩,
      ⟨none, none, .stz true 9 (.t 0) (.t 10) []⟩])
    .ret))
theorem ok36 : FnOk Try.prog 36 11 4 c36 [.cell 0 true 9] := ⟨_, _, Try.func36, rfl, rfl, by kernel_rfl, by kernel_rfl⟩
theorem bd36 : bodied Try.prog 36 = true := by kernel_rfl

/-- ferrule/ferrulelaw05.sameInts -/
def c37 : CI := (.seq (.reg [⟨none, (some 4), .mv (.c (.bool false))⟩])
    (.seq (.seq (.reg [⟨none, (some 6), .mv (.t 0)⟩,
      ⟨none, (some 7), .len (.t 6)⟩,
      ⟨none, (some 8), .mv (.t 1)⟩,
      ⟨none, (some 9), .len (.t 8)⟩,
      ⟨none, (some 10), .bin .neq (.t 7) (.t 9)⟩])
    (.cond (.t 10) (.seq (.reg [⟨none, (some 4), .mv (.c (.bool false))⟩])
    .ret)
    .skip))
    (.seq (.seq (.reg [⟨none, (some 5), .mv (.c (.int .i64 0))⟩])
    (.block 0 (.loop (.seq (.seq (.reg [⟨none, (some 11), .mv (.t 5)⟩,
      ⟨none, (some 12), .mv (.t 0)⟩,
      ⟨none, (some 13), .len (.t 12)⟩,
      ⟨none, (some 14), .bin .lss (.t 11) (.t 13)⟩])
    (.cond (.t 14) .skip
    (.exit 0)))
    (.seq (.block 1 (.seq (.reg [⟨none, (some 17), .mv (.t 0)⟩,
      ⟨none, (some 18), .mv (.t 5)⟩,
      ⟨none, (some 19), .iaddr 1 (.t 17) (.t 18)⟩,
      ⟨none, (some 20), .load false 1 (.t 19)⟩,
      ⟨none, (some 21), .mv (.t 1)⟩,
      ⟨none, (some 22), .mv (.t 5)⟩,
      ⟨none, (some 23), .iaddr 1 (.t 21) (.t 22)⟩,
      ⟨none, (some 24), .load false 1 (.t 23)⟩,
      ⟨none, (some 25), .bin .neq (.t 20) (.t 24)⟩])
    (.cond (.t 25) (.seq (.reg [⟨none, (some 4), .mv (.c (.bool false))⟩])
    .ret)
    .skip)))
    (.reg [⟨none, (some 15), .mv (.t 5)⟩,
      ⟨none, (some 16), .bin .add (.t 15) (.c (.int .i64 1))⟩,
      ⟨none, (some 5), .mv (.t 16)⟩]))))))
    (.seq (.reg [⟨none, (some 4), .mv (.c (.bool true))⟩])
    .ret))))
theorem ok37 : FnOk Try.prog 37 26 0 c37 [.t 4] := ⟨_, _, Try.func37, rfl, rfl, by kernel_rfl, by kernel_rfl⟩
theorem bd37 : bodied Try.prog 37 = true := by kernel_rfl

/-- ferrule/ferruleref01.CosineOf -/
def c38 : CI := (.seq (.reg [⟨none, (some 3), .box 0 true (.t 1)⟩,
      ⟨none, (some 4), .alloc 1 [(.int .i64 0), (.int .i64 0)]⟩,
      ⟨none, (some 5), .mv (.c (.bool false))⟩])
    (.seq (.seq (.reg [⟨none, (some 6), .mv (.t 0)⟩,
      ⟨none, (some 7), .bin .eql (.t 6) (.c (.int .i64 0))⟩])
    (.cond (.t 7) (.seq (.reg [⟨none, (some 8), .build [(.int .i64 0), (.int .i64 0)] []⟩,
      ⟨none, none, .store true 2 (.t 4) (.t 8) []⟩,
      ⟨none, (some 5), .mv (.c (.bool false))⟩])
    .ret)
    .skip))
    (.seq (.reg [⟨none, (some 9), .mv (.t 0)⟩,
      ⟨none, (some 10), .mv (.t 0)⟩,
      ⟨none, (some 11), .bin .mul (.t 9) (.t 10)⟩,
      ⟨none, (some 12), .faddr 0 (.t 3)⟩,
      ⟨none, (some 13), .load false 1 (.t 12)⟩,
      ⟨none, (some 14), .faddr 0 (.t 3)⟩,
      ⟨none, (some 15), .load false 1 (.t 14)⟩,
      ⟨none, (some 16), .bin .mul (.t 13) (.t 15)⟩,
      ⟨none, (some 17), .bin .add (.t 11) (.t 16)⟩,
      ⟨none, (some 18), .faddr 1 (.t 3)⟩,
      ⟨none, (some 19), .load false 1 (.t 18)⟩,
      ⟨none, (some 20), .faddr 1 (.t 3)⟩,
      ⟨none, (some 21), .load false 1 (.t 20)⟩,
      ⟨none, (some 22), .bin .mul (.t 19) (.t 21)⟩,
      ⟨none, (some 23), .bin .sub (.t 17) (.t 22)⟩,
      ⟨none, (some 24), .mv (.t 0)⟩,
      ⟨none, (some 25), .bin .mul (.c (.int .i64 2)) (.t 24)⟩,
      ⟨none, (some 26), .faddr 0 (.t 3)⟩,
      ⟨none, (some 27), .load false 1 (.t 26)⟩,
      ⟨none, (some 28), .bin .mul (.t 25) (.t 27)⟩,
      ⟨none, (some 29), .call 63 [(.t 23), (.t 28)]⟩,
      ⟨none, none, .store true 2 (.t 4) (.t 29) []⟩,
      ⟨none, (some 5), .mv (.c (.bool true))⟩])
    .ret)))
theorem ok38 : FnOk Try.prog 38 30 2 c38 [.cell 4 true 2, .t 5] := ⟨_, _, Try.func38, rfl, rfl, by kernel_rfl, by kernel_rfl⟩
theorem bd38 : bodied Try.prog 38 = true := by kernel_rfl

/-- ferrule/gusts.Check -/
def c39 : CI := (.seq (.reg [⟨none, (some 1), .box 0 true (.t 0)⟩,
      ⟨none, (some 2), .mv (.c (.int .i64 0))⟩])
    (.seq (.seq (.reg [⟨none, (some 3), .load true 9 (.t 1)⟩,
      ⟨none, (some 4), .call 64 [(.t 3)]⟩,
      ⟨none, (some 5), .un .not (.t 4)⟩])
    (.cond (.t 5) (.seq (.reg [⟨none, (some 2), .mv (.c (.int .i64 50))⟩])
    .ret)
    .skip))
    (.seq (.reg [⟨none, (some 2), .mv (.c (.int .i64 0))⟩])
    .ret)))
theorem ok39 : FnOk Try.prog 39 6 1 c39 [.t 2] := ⟨_, _, Try.func39, rfl, rfl, by kernel_rfl, by kernel_rfl⟩
theorem bd39 : bodied Try.prog 39 = true := by kernel_rfl

/-- ferrule/gusts.lifts -/
def c40 : CI := (.seq (.reg [⟨none, (some 1), .box 0 true (.t 0)⟩,
      ⟨none, (some 2), .alloc 1 [(.int .i64 0), (.int .i64 0)]⟩])
    (.seq (.reg [⟨none, (some 7), .load true 7 (.t 1)⟩,
      ⟨none, (some 8), .faddr 1 (.t 1)⟩,
      ⟨none, (some 9), .load false 1 (.t 8)⟩,
      ⟨none, (some 10), .call 31 [(.t 7), (.c (.int .i64 0)), (.t 9)]⟩,
      ⟨none, (some 6), .mv (.t 10)⟩,
      ⟨none, (some 11), .extract 0 (.t 6)⟩,
      ⟨none, (some 12), .extract 1 (.t 6)⟩,
      ⟨none, (some 13), .extract 2 (.t 6)⟩,
      ⟨none, (some 3), .alloc 2 [(.int .i64 0), (.int .i64 0)]⟩,
      ⟨none, (some 4), .alloc 3 [(.int .i64 0), (.int .i64 0)]⟩,
      ⟨none, none, .store true 2 (.t 3) (.t 11) []⟩,
      ⟨none, none, .store true 2 (.t 4) (.t 12) []⟩,
      ⟨none, (some 5), .mv (.t 13)⟩])
    (.seq (.reg [⟨none, (some 14), .load true 2 (.t 3)⟩,
      ⟨none, (some 16), .load true 2 (.t 4)⟩,
      ⟨none, (some 15), .call 65 [(.t 14)]⟩,
      ⟨none, (some 17), .call 65 [(.t 16)]⟩,
      ⟨none, (some 18), .build [(.int .i64 0), (.int .i64 0)] [(0, 1, (.t 15)), (1, 1, (.t 17))]⟩,
      ⟨none, none, .store true 2 (.t 2) (.t 18) []⟩])
    .ret)))
theorem ok40 : FnOk Try.prog 40 19 4 c40 [.cell 2 true 2] := ⟨_, _, Try.func40, rfl, rfl, by kernel_rfl, by kernel_rfl⟩
theorem bd40 : bodied Try.prog 40 = true := by kernel_rfl

/-- ferrule/gusts.open -/
def c41 : CI := (.seq (.reg [⟨none, (some 2), .box 0 true (.t 0)⟩,
      ⟨none, (some 4), .alloc 1 [(.int .i64 0), .nils, .nils]⟩,
      ⟨none, (some 5), .alloc 2 [(.int .i64 0), .nils, .nils]⟩,
      ⟨none, (some 6), .mv (.c (.int .i64 0))⟩])
    (.seq (.seq (.reg [⟨none, (some 11), .load true 9 (.t 2)⟩,
      ⟨none, (some 12), .mv (.t 1)⟩,
      ⟨none, (some 13), .call 66 [(.t 11), (.t 12)]⟩,
      ⟨none, (some 7), .mv (.t 13)⟩])
    (.seq (.reg [⟨none, (some 14), .mv (.t 7)⟩,
      ⟨none, (some 15), .bin .neq (.t 14) (.c (.int .i64 0))⟩])
    (.cond (.t 15) (.seq (.reg [⟨none, (some 16), .build [(.int .i64 0), .nils, .nils] []⟩,
      ⟨none, (some 17), .build [(.int .i64 0), .nils, .nils] []⟩,
      ⟨none, (some 18), .mv (.t 7)⟩,
      ⟨none, none, .stz true 3 (.t 4) (.t 16) []⟩,
      ⟨none, none, .stz true 3 (.t 5) (.t 17) []⟩,
      ⟨none, (some 6), .mv (.t 18)⟩])
    .ret)
    .skip)))
    (.seq (.reg [⟨none, (some 19), .faddr 0 (.t 2)⟩,
      ⟨none, (some 20), .load true 7 (.t 19)⟩,
      ⟨none, (some 21), .call 40 [(.t 20)]⟩,
      ⟨none, (some 8), .alloc 3 [(.int .i64 0), (.int .i64 0)]⟩,
      ⟨none, none, .store true 2 (.t 8) (.t 21) []⟩])
    (.seq (.reg [⟨none, (some 22), .faddr 0 (.t 8)⟩,
      ⟨none, (some 23), .load false 1 (.t 22)⟩,
      ⟨none, (some 24), .faddr 8 (.t 2)⟩,
      ⟨none, (some 25), .load false 1 (.t 24)⟩,
      ⟨none, (some 26), .build [(.int .i64 0), .nils, .nils] [(0, 1, (.t 23)), (2, 1, (.t 25))]⟩,
      ⟨none, none, .stz true 3 (.t 4) (.t 26) []⟩])
    (.seq (.reg [⟨none, (some 27), .faddr 1 (.t 8)⟩,
      ⟨none, (some 28), .load false 1 (.t 27)⟩,
      ⟨none, (some 29), .faddr 8 (.t 2)⟩,
      ⟨none, (some 30), .load false 1 (.t 29)⟩,
      ⟨none, (some 31), .build [(.int .i64 0), .nils, .nils] [(0, 1, (.t 28)), (2, 1, (.t 30))]⟩,
      ⟨none, none, .stz true 3 (.t 5) (.t 31) []⟩])
    (.seq (.seq (.reg [⟨none, (some 32), .faddr 7 (.t 2)⟩,
      ⟨none, (some 33), .load false 1 (.t 32)⟩,
      ⟨none, (some 34), .len (.t 33)⟩,
      ⟨none, (some 35), .mv (.c (.int .i64 0))⟩])
    (.block 0 (.loop (.seq (.reg [⟨none, (some 36), .bin .lss (.t 35) (.t 34)⟩])
    (.seq (.cond (.t 36) .skip
    (.exit 0))
    (.seq (.block 1 (.seq (.reg [⟨none, (some 37), .iaddr 2 (.t 33) (.t 35)⟩,
      ⟨none, (some 38), .load true 2 (.t 37)⟩,
      ⟨none, (some 10), .alloc 4 [(.int .i64 0), (.int .i64 0)]⟩,
      ⟨none, none, .store true 2 (.t 10) (.t 38) []⟩])
    (.seq (.reg [⟨none, (some 39), .faddr 1 (.t 4)⟩,
      ⟨none, (some 40), .load false 1 (.t 39)⟩,
      ⟨none, (some 41), .faddr 1 (.t 10)⟩,
      ⟨none, (some 42), .load false 1 (.t 41)⟩,
      ⟨none, (some 43), .bsl 5 3 1 [(.t 42)] []⟩,
      ⟨none, (some 44), .apd 6 3 1 8 (.t 40) (.t 43) []⟩,
      ⟨none, (some 45), .faddr 1 (.t 4)⟩,
      ⟨none, none, .stz false 1 (.t 45) (.t 44) []⟩])
    (.reg [⟨none, (some 46), .faddr 1 (.t 5)⟩,
      ⟨none, (some 47), .load false 1 (.t 46)⟩,
      ⟨none, (some 48), .faddr 0 (.t 10)⟩,
      ⟨none, (some 49), .load false 1 (.t 48)⟩,
      ⟨none, (some 50), .bsl 7 3 1 [(.t 49)] []⟩,
      ⟨none, (some 51), .apd 8 3 1 8 (.t 47) (.t 50) []⟩,
      ⟨none, (some 52), .faddr 1 (.t 5)⟩,
      ⟨none, none, .stz false 1 (.t 52) (.t 51) []⟩]))))
    (.reg [⟨none, (some 53), .bin .add (.t 35) (.c (.int .i64 1))⟩,
      ⟨none, (some 35), .mv (.t 53)⟩])))))))
    (.seq (.reg [⟨none, (some 54), .load true 3 (.t 4)⟩,
      ⟨none, (some 55), .load true 3 (.t 5)⟩,
      ⟨none, none, .stz true 3 (.t 4) (.t 54) [(.t 5)]⟩,
      ⟨none, none, .stz true 3 (.t 5) (.t 55) []⟩,
      ⟨none, (some 6), .mv (.c (.int .i64 0))⟩])
    .ret)))))))
theorem ok41 : FnOk Try.prog 41 56 9 c41 [.cell 4 true 3, .cell 5 true 3, .t 6] := ⟨_, _, Try.func41, rfl, rfl, by kernel_rfl, by kernel_rfl⟩
theorem bd41 : bodied Try.prog 41 = true := by kernel_rfl

/-- (ferrule/gusts.truth).load -/
def c42 : CI := (.seq (.reg [⟨none, (some 3), .box 0 true (.t 0)⟩,
      ⟨none, (some 4), .box 1 true (.t 1)⟩,
      ⟨none, (some 6), .mv (.c (.int .i64 0))⟩])
    (.seq (.reg [⟨none, (some 7), .faddr 0 (.t 4)⟩,
      ⟨none, (some 8), .load false 1 (.t 7)⟩,
      ⟨none, (some 9), .faddr 0 (.t 3)⟩,
      ⟨none, (some 10), .load false 1 (.t 9)⟩,
      ⟨none, (some 11), .bin .mul (.t 8) (.t 10)⟩,
      ⟨none, (some 12), .faddr 2 (.t 3)⟩,
      ⟨none, (some 13), .load false 1 (.t 12)⟩,
      ⟨none, (some 14), .load true 3 (.t 3)⟩,
      ⟨none, (some 15), .mv (.t 2)⟩,
      ⟨none, (some 16), .faddr 1 (.t 4)⟩,
      ⟨none, (some 17), .load false 1 (.t 16)⟩,
      ⟨none, (some 18), .bin .sub (.t 15) (.t 17)⟩,
      ⟨none, (some 19), .call 67 [(.t 14), (.t 18)]⟩,
      ⟨none, (some 20), .iaddr 1 (.t 13) (.t 19)⟩,
      ⟨none, (some 21), .load false 1 (.t 20)⟩,
      ⟨none, (some 22), .bin .mul (.t 11) (.t 21)⟩,
      ⟨none, (some 23), .bin .quo (.t 22) (.c (.int .i64 100))⟩,
      ⟨none, (some 6), .mv (.t 23)⟩])
    .ret))
theorem ok42 : FnOk Try.prog 42 24 2 c42 [.t 6] := ⟨_, _, Try.func42, rfl, rfl, by kernel_rfl, by kernel_rfl⟩
theorem bd42 : bodied Try.prog 42 = true := by kernel_rfl

/-- (ferrule/gusts.truth).gone -/
def c43 : CI := (.seq (.reg [⟨none, (some 2), .box 0 true (.t 0)⟩,
      ⟨none, (some 3), .box 1 true (.t 1)⟩,
      ⟨none, (some 4), .mv (.c .nils)⟩])
    (.seq (.reg [⟨none, (some 5), .alloc 2 [.nils]⟩])
    (.seq (.seq (.reg [⟨none, (some 7), .load true 3 (.t 2)⟩,
      ⟨none, (some 8), .load true 2 (.t 3)⟩,
      ⟨none, (some 9), .callw 3 0 68 [(.t 7), (.t 8)]⟩])
    (.block 0 (.rng (.t 9) [10] (.reg [⟨none, (some 6), .mv (.t 10)⟩])
    (.block 1 (.reg [⟨none, (some 11), .load false 1 (.t 5)⟩,
      ⟨none, (some 12), .mv (.t 6)⟩,
      ⟨none, (some 13), .apd 3 3 1 8 (.t 11) (.t 12) []⟩,
      ⟨none, none, .stz false 1 (.t 5) (.t 13) []⟩])))))
    (.seq (.reg [⟨none, (some 14), .load false 1 (.t 5)⟩,
      ⟨none, (some 15), .callw 4 0 69 [(.t 14)]⟩])
    (.seq (.reg [⟨none, (some 16), .load false 1 (.t 5)⟩,
      ⟨none, (some 4), .mv (.t 16)⟩])
    .ret)))))
theorem ok43 : FnOk Try.prog 43 17 4 c43 [.t 4] := ⟨_, _, Try.func43, rfl, rfl, by kernel_rfl, by kernel_rfl⟩
theorem bd43 : bodied Try.prog 43 = true := by kernel_rfl

/-- (ferrule/gusts.truth).stands -/
def c44 : CI := (.seq (.reg [⟨none, (some 2), .box 0 true (.t 0)⟩,
      ⟨none, (some 4), .mv (.c (.bool false))⟩])
    (.seq (.reg [⟨none, (some 5), .mv (.t 1)⟩,
      ⟨none, (some 6), .mkfn 71 [(.t 2)]⟩,
      ⟨none, (some 7), .call 70 [(.t 5), (.t 6)]⟩,
      ⟨none, (some 4), .mv (.t 7)⟩])
    .ret))
theorem ok44 : FnOk Try.prog 44 8 1 c44 [.t 4] := ⟨_, _, Try.func44, rfl, rfl, by kernel_rfl, by kernel_rfl⟩
theorem bd44 : bodied Try.prog 44 = true := by kernel_rfl

/-- (ferrule/gusts.truth).tooWeak -/
def c45 : CI := (.seq (.reg [⟨none, (some 2), .box 0 true (.t 0)⟩,
      ⟨none, (some 3), .box 1 true (.t 1)⟩,
      ⟨none, (some 4), .mv (.c .nils)⟩])
    (.seq (.reg [⟨none, (some 5), .faddr 1 (.t 2)⟩,
      ⟨none, (some 6), .load false 1 (.t 5)⟩,
      ⟨none, (some 7), .len (.t 6)⟩,
      ⟨none, (some 8), .mkfn 72 [(.t 2), (.t 3)]⟩,
      ⟨none, (some 9), .callw 2 1 49 [(.t 7), (.t 8)]⟩,
      ⟨none, (some 4), .mv (.t 9)⟩])
    .ret))
theorem ok45 : FnOk Try.prog 45 10 3 c45 [.t 4] := ⟨_, _, Try.func45, rfl, rfl, by kernel_rfl, by kernel_rfl⟩
theorem bd45 : bodied Try.prog 45 = true := by kernel_rfl

/-- ferrule/ferruleref05.side -/
def c46 : CI := (.seq (.reg [⟨none, (some 8), .mv (.c (.int .i64 0))⟩])
    (.seq (.reg [⟨none, (some 13), .mv (.t 0)⟩,
      ⟨none, (some 14), .len (.t 13)⟩,
      ⟨none, (some 9), .mv (.t 14)⟩])
    (.seq (.reg [⟨none, (some 10), .mv (.c (.int .i64 0))⟩])
    (.seq (.seq (.reg [⟨none, (some 11), .mv (.c (.int .i64 1))⟩])
    (.block 0 (.loop (.seq (.seq (.reg [⟨none, (some 15), .mv (.t 11)⟩,
      ⟨none, (some 16), .mv (.t 9)⟩,
      ⟨none, (some 17), .bin .lss (.t 15) (.t 16)⟩])
    (.cond (.t 17) .skip
    (.exit 0)))
    (.seq (.block 1 (.seq (.reg [⟨none, (some 20), .mv (.t 2)⟩,
      ⟨none, (some 21), .mv (.t 11)⟩,
      ⟨none, (some 22), .mv (.t 3)⟩,
      ⟨none, (some 23), .bin .mul (.t 21) (.t 22)⟩,
      ⟨none, (some 24), .bin .add (.t 20) (.t 23)⟩,
      ⟨none, (some 25), .mv (.t 9)⟩,
      ⟨none, (some 26), .bin .rem (.t 24) (.t 25)⟩,
      ⟨none, (some 27), .mv (.t 9)⟩,
      ⟨none, (some 28), .bin .add (.t 26) (.t 27)⟩,
      ⟨none, (some 29), .mv (.t 9)⟩,
      ⟨none, (some 30), .bin .rem (.t 28) (.t 29)⟩,
      ⟨none, (some 12), .mv (.t 30)⟩])
    (.seq (.seq (.reg [⟨none, (some 31), .mv (.t 1)⟩,
      ⟨none, (some 32), .mv (.t 12)⟩,
      ⟨none, (some 33), .iaddr 1 (.t 31) (.t 32)⟩,
      ⟨none, (some 34), .load false 1 (.t 33)⟩,
      ⟨none, (some 35), .un .not (.t 34)⟩])
    (.cond (.t 35) (.seq (.reg [⟨none, (some 36), .mv (.t 10)⟩,
      ⟨none, (some 8), .mv (.t 36)⟩])
    .ret)
    .skip))
    (.reg [⟨none, (some 37), .mv (.t 10)⟩,
      ⟨none, (some 38), .mv (.t 0)⟩,
      ⟨none, (some 39), .mv (.t 12)⟩,
      ⟨none, (some 40), .iaddr 1 (.t 38) (.t 39)⟩,
      ⟨none, (some 41), .load false 1 (.t 40)⟩,
      ⟨none, (some 42), .bin .add (.t 37) (.t 41)⟩,
      ⟨none, (some 10), .mv (.t 42)⟩]))))
    (.reg [⟨none, (some 18), .mv (.t 11)⟩,
      ⟨none, (some 19), .bin .add (.t 18) (.c (.int .i64 1))⟩,
      ⟨none, (some 11), .mv (.t 19)⟩]))))))
    (.seq (.reg [⟨none, (some 43), .mv (.t 10)⟩,
      ⟨none, (some 8), .mv (.t 43)⟩])
    .ret)))))
theorem ok46 : FnOk Try.prog 46 44 0 c46 [.t 8] := ⟨_, _, Try.func46, rfl, rfl, by kernel_rfl, by kernel_rfl⟩
theorem bd46 : bodied Try.prog 46 = true := by kernel_rfl

/-- ferrule/ferruleref05.went -/
def c47 : CI := (.seq (.reg [⟨none, (some 4), .mv (.c .nils)⟩])
    (.seq (.reg [⟨none, (some 5), .mv (.c .nils)⟩])
    (.seq (.seq (.reg [⟨none, (some 6), .mv (.c (.int .i64 0))⟩])
    (.block 0 (.loop (.seq (.seq (.reg [⟨none, (some 7), .mv (.t 6)⟩,
      ⟨none, (some 8), .mv (.t 0)⟩,
      ⟨none, (some 9), .len (.t 8)⟩,
      ⟨none, (some 10), .bin .lss (.t 7) (.t 9)⟩])
    (.cond (.t 10) .skip
    (.exit 0)))
    (.seq (.block 1 (.seq (.reg [⟨none, (some 13), .mv (.t 0)⟩,
      ⟨none, (some 14), .mv (.t 6)⟩,
      ⟨none, (some 15), .iaddr 1 (.t 13) (.t 14)⟩,
      ⟨none, (some 16), .load false 1 (.t 15)⟩,
      ⟨none, (some 17), .mv (.t 1)⟩,
      ⟨none, (some 18), .call 34 [(.t 16), (.c (.int .i64 1)), (.t 17)]⟩])
    (.cond (.t 18) (.reg [⟨none, (some 19), .mv (.t 5)⟩,
      ⟨none, (some 20), .mv (.t 6)⟩,
      ⟨none, (some 21), .bsl 0 3 1 [(.t 20)] []⟩,
      ⟨none, (some 22), .apd 1 3 1 8 (.t 19) (.t 21) []⟩,
      ⟨none, (some 5), .mv (.t 22)⟩])
    .skip)))
    (.reg [⟨none, (some 11), .mv (.t 6)⟩,
      ⟨none, (some 12), .bin .add (.t 11) (.c (.int .i64 1))⟩,
      ⟨none, (some 6), .mv (.t 12)⟩]))))))
    (.seq (.reg [⟨none, (some 23), .mv (.t 5)⟩,
      ⟨none, (some 4), .mv (.t 23)⟩])
    .ret))))
theorem ok47 : FnOk Try.prog 47 24 2 c47 [.t 4] := ⟨_, _, Try.func47, rfl, rfl, by kernel_rfl, by kernel_rfl⟩
theorem bd47 : bodied Try.prog 47 = true := by kernel_rfl

/-- ferrule/ferruleref01.Copy -/
def c48 : CI := (.seq (.reg [⟨none, (some 1), .box 0 true (.t 0)⟩,
      ⟨none, (some 2), .alloc 1 [.nils, (.int .i64 0), (.int .i64 0), (.int .i64 0), (.int .i64 0), (.int .i64 0), (.int .i64 0)]⟩])
    (.seq (.reg [⟨none, (some 3), .bsl 2 114 7 [] []⟩,
      ⟨none, (some 4), .faddr 0 (.t 1)⟩,
      ⟨none, (some 5), .load false 1 (.t 4)⟩,
      ⟨none, (some 6), .apd 3 114 7 56 (.t 3) (.t 5) []⟩,
      ⟨none, (some 7), .faddr 0 (.t 1)⟩,
      ⟨none, none, .stz false 1 (.t 7) (.t 6) []⟩])
    (.seq (.reg [⟨none, (some 8), .load true 7 (.t 1)⟩,
      ⟨none, none, .stz true 7 (.t 2) (.t 8) []⟩])
    .ret)))
theorem ok48 : FnOk Try.prog 48 9 4 c48 [.cell 2 true 7] := ⟨_, _, Try.func48, rfl, rfl, by kernel_rfl, by kernel_rfl⟩
theorem bd48 : bodied Try.prog 48 = true := by kernel_rfl

/-- ferrule/gusts.ribsThat -/
def c49 : CI := (.seq (.reg [⟨none, (some 4), .mv (.c .nils)⟩])
    (.seq (.reg [⟨none, (some 5), .mv (.c .nils)⟩])
    (.seq (.seq (.reg [⟨none, (some 7), .mv (.t 0)⟩,
      ⟨none, (some 8), .mv (.c (.int .i64 0))⟩])
    (.block 0 (.loop (.seq (.reg [⟨none, (some 9), .bin .lss (.t 8) (.t 7)⟩])
    (.seq (.cond (.t 9) .skip
    (.exit 0))
    (.seq (.block 1 (.seq (.reg [⟨none, (some 10), .mv (.t 8)⟩,
      ⟨none, (some 6), .mv (.t 10)⟩])
    (.seq (.reg [⟨none, (some 11), .mv (.t 1)⟩,
      ⟨none, (some 12), .mv (.t 6)⟩,
      ⟨none, (some 13), .callx (.t 11) [(.t 12)]⟩])
    (.cond (.t 13) (.reg [⟨none, (some 14), .mv (.t 5)⟩,
      ⟨none, (some 15), .mv (.t 6)⟩,
      ⟨none, (some 16), .bsl 0 3 1 [(.t 15)] []⟩,
      ⟨none, (some 17), .apd 1 3 1 8 (.t 14) (.t 16) []⟩,
      ⟨none, (some 5), .mv (.t 17)⟩])
    .skip))))
    (.reg [⟨none, (some 18), .bin .add (.t 8) (.c (.int .i64 1))⟩,
      ⟨none, (some 8), .mv (.t 18)⟩])))))))
    (.seq (.reg [⟨none, (some 19), .mv (.t 5)⟩,
      ⟨none, (some 4), .mv (.t 19)⟩])
    .ret))))
theorem ok49 : FnOk Try.prog 49 20 2 c49 [.t 4] := ⟨_, _, Try.func49, rfl, rfl, by kernel_rfl, by kernel_rfl⟩
theorem bd49 : bodied Try.prog 49 = true := by kernel_rfl

/-- ferrule/gusts.Weak$1 -/
def c50 : CI := (.seq (.reg [⟨none, (some 3), .box 0 false (.t 0)⟩,
      ⟨none, (some 4), .mv (.c (.bool false))⟩])
    (.seq (.reg [⟨none, (some 5), .load false 1 (.t 1)⟩,
      ⟨none, (some 6), .mkfn 52 [(.t 2), (.t 3)]⟩,
      ⟨none, (some 7), .call 51 [(.t 5), (.t 6)]⟩,
      ⟨none, (some 4), .mv (.t 7)⟩])
    .ret))
theorem ok50 : FnOk Try.prog 50 8 1 c50 [.t 4] := ⟨_, _, Try.func50, rfl, rfl, by kernel_rfl, by kernel_rfl⟩
theorem bd50 : bodied Try.prog 50 = true := by kernel_rfl

/-- slices.ContainsFunc[[]ferrule/api.Gust,ferrule/api.Gust] -/
def c51 : CI := (.seq (.reg [⟨none, (some 4), .mv (.c (.bool false))⟩])
    (.seq (.reg [⟨none, (some 5), .mv (.t 0)⟩,
      ⟨none, (some 6), .mv (.t 1)⟩,
      ⟨none, (some 7), .call 73 [(.t 5), (.t 6)]⟩,
      ⟨none, (some 8), .bin .geq (.t 7) (.c (.int .i64 0))⟩,
      ⟨none, (some 4), .mv (.t 8)⟩])
    .ret))
theorem ok51 : FnOk Try.prog 51 9 0 c51 [.t 4] := ⟨_, _, Try.func51, rfl, rfl, by kernel_rfl, by kernel_rfl⟩
theorem bd51 : bodied Try.prog 51 = true := by kernel_rfl

/-- ferrule/gusts.Weak$1$1 -/
def c52 : CI := (.seq (.reg [⟨none, (some 3), .box 0 true (.t 0)⟩,
      ⟨none, (some 4), .mv (.c (.bool false))⟩])
    (.seq (.reg [⟨none, (some 5), .load true 3 (.t 1)⟩,
      ⟨none, (some 6), .load true 2 (.t 3)⟩,
      ⟨none, (some 7), .load false 1 (.t 2)⟩,
      ⟨none, (some 8), .call 53 [(.t 5), (.t 6), (.t 7)]⟩,
      ⟨none, (some 4), .mv (.t 8)⟩])
    .ret))
theorem ok52 : FnOk Try.prog 52 9 1 c52 [.t 4] := ⟨_, _, Try.func52, rfl, rfl, by kernel_rfl, by kernel_rfl⟩
theorem bd52 : bodied Try.prog 52 = true := by kernel_rfl

/-- (ferrule/gusts.truth).isTooWeak -/
def c53 : CI := (.seq (.reg [⟨none, (some 3), .box 0 true (.t 0)⟩,
      ⟨none, (some 4), .box 1 true (.t 1)⟩,
      ⟨none, (some 6), .mv (.c (.bool false))⟩])
    (.seq (.reg [⟨none, (some 7), .load true 3 (.t 3)⟩,
      ⟨none, (some 8), .load true 2 (.t 4)⟩,
      ⟨none, (some 9), .mv (.t 2)⟩,
      ⟨none, (some 11), .faddr 1 (.t 3)⟩,
      ⟨none, (some 12), .load false 1 (.t 11)⟩,
      ⟨none, (some 13), .mv (.t 2)⟩,
      ⟨none, (some 14), .iaddr 1 (.t 12) (.t 13)⟩,
      ⟨none, (some 15), .load false 1 (.t 14)⟩,
      ⟨none, (some 10), .call 42 [(.t 7), (.t 8), (.t 9)]⟩,
      ⟨none, (some 16), .bin .gtr (.t 10) (.t 15)⟩,
      ⟨none, (some 6), .mv (.t 16)⟩])
    .ret))
theorem ok53 : FnOk Try.prog 53 17 2 c53 [.t 6] := ⟨_, _, Try.func53, rfl, rfl, by kernel_rfl, by kernel_rfl⟩
theorem bd53 : bodied Try.prog 53 = true := by kernel_rfl

/-- ferrule/ferruleref01.Check -/
def c54 : CI := (.seq (.reg [⟨none, (some 1), .box 0 true (.t 0)⟩,
      ⟨none, (some 2), .mv (.c (.int .i64 0))⟩])
    (.seq (.seq (.reg [⟨none, (some 3), .mv (.c (.int .i64 0))⟩])
    (.block 0 (.loop (.seq (.seq (.reg [⟨none, (some 5), .mv (.t 3)⟩,
      ⟨none, (some 6), .faddr 0 (.t 1)⟩,
      ⟨none, (some 7), .load false 1 (.t 6)⟩,
      ⟨none, (some 8), .len (.t 7)⟩,
      ⟨none, (some 9), .bin .lss (.t 5) (.t 8)⟩])
    (.cond (.t 9) .skip
    (.exit 0)))
    (.seq (.block 1 (.seq (.reg [⟨none, (some 12), .faddr 0 (.t 1)⟩,
      ⟨none, (some 13), .load false 1 (.t 12)⟩,
      ⟨none, (some 14), .mv (.t 3)⟩,
      ⟨none, (some 15), .iaddr 7 (.t 13) (.t 14)⟩,
      ⟨none, (some 16), .load true 7 (.t 15)⟩,
      ⟨none, (some 4), .alloc 1 [(.int .i64 0), (.int .i64 0), (.int .i64 0), (.int .i64 0), (.int .i64 0), (.int .i64 0), (.int .i64 0)]⟩,
      ⟨none, none, .store true 7 (.t 4) (.t 16) []⟩])
    (.seq (.reg [⟨none, (some 17), .faddr 0 (.t 4)⟩,
      ⟨none, (some 18), .load true 2 (.t 17)⟩,
      ⟨none, (some 19), .call 74 [(.t 18)]⟩,
      ⟨none, (some 20), .un .not (.t 19)⟩,
      ⟨none, (some 21), .mv (.t 20)⟩,
      ⟨(some (21, false)), (some 22), .faddr 2 (.t 4)⟩,
      ⟨(some (21, false)), (some 23), .load true 2 (.t 22)⟩,
      ⟨(some (21, false)), (some 24), .call 74 [(.t 23)]⟩,
      ⟨(some (21, false)), (some 25), .un .not (.t 24)⟩,
      ⟨none, (some 26), .pick (.t 21) (.c (.bool true)) (.t 25)⟩,
      ⟨none, (some 27), .mv (.t 26)⟩,
      ⟨(some (27, false)), (some 28), .faddr 4 (.t 4)⟩,
      ⟨(some (27, false)), (some 29), .load false 1 (.t 28)⟩,
      ⟨(some (27, false)), (some 30), .call 62 [(.t 29), (.c (.int .i64 0)), (.c (.int .i64 2000))]⟩,
      ⟨(some (27, false)), (some 31), .un .not (.t 30)⟩,
      ⟨none, (some 32), .pick (.t 27) (.c (.bool true)) (.t 31)⟩,
      ⟨none, (some 33), .mv (.t 32)⟩,
      ⟨(some (33, false)), (some 34), .faddr 5 (.t 4)⟩,
      ⟨(some (33, false)), (some 35), .load true 2 (.t 34)⟩,
      ⟨(some (33, false)), (some 36), .call 75 [(.t 35)]⟩,
      ⟨(some (33, false)), (some 37), .un .not (.t 36)⟩,
      ⟨none, (some 38), .pick (.t 33) (.c (.bool true)) (.t 37)⟩])
    (.cond (.t 38) (.seq (.reg [⟨none, (some 2), .mv (.c (.int .i64 10))⟩])
    .ret)
    .skip))))
    (.reg [⟨none, (some 10), .mv (.t 3)⟩,
      ⟨none, (some 11), .bin .add (.t 10) (.c (.int .i64 1))⟩,
      ⟨none, (some 3), .mv (.t 11)⟩]))))))
    (.seq (.seq (.reg [⟨none, (some 39), .faddr 0 (.t 1)⟩,
      ⟨none, (some 40), .load false 1 (.t 39)⟩,
      ⟨none, (some 41), .len (.t 40)⟩,
      ⟨none, (some 42), .call 62 [(.t 41), (.c (.int .i64 1)), (.c (.int .i64 3))]⟩,
      ⟨none, (some 43), .un .not (.t 42)⟩,
      ⟨none, (some 44), .mv (.t 43)⟩,
      ⟨(some (44, false)), (some 45), .faddr 1 (.t 1)⟩,
      ⟨(some (44, false)), (some 46), .load false 1 (.t 45)⟩,
      ⟨(some (44, false)), (some 47), .faddr 2 (.t 1)⟩,
      ⟨(some (44, false)), (some 48), .load false 1 (.t 47)⟩,
      ⟨(some (44, false)), (some 49), .call 62 [(.t 46), (.c (.int .i64 1)), (.t 48)]⟩,
      ⟨(some (44, false)), (some 50), .un .not (.t 49)⟩,
      ⟨none, (some 51), .pick (.t 44) (.c (.bool true)) (.t 50)⟩,
      ⟨none, (some 52), .mv (.t 51)⟩,
      ⟨(some (52, false)), (some 53), .faddr 2 (.t 1)⟩,
      ⟨(some (52, false)), (some 54), .load false 1 (.t 53)⟩,
      ⟨(some (52, false)), (some 55), .bin .gtr (.t 54) (.c (.int .i64 2000))⟩,
      ⟨none, (some 56), .pick (.t 52) (.c (.bool true)) (.t 55)⟩,
      ⟨none, (some 57), .mv (.t 56)⟩,
      ⟨(some (57, false)), (some 58), .faddr 2 (.t 1)⟩,
      ⟨(some (57, false)), (some 59), .load false 1 (.t 58)⟩,
      ⟨(some (57, false)), (some 60), .faddr 1 (.t 1)⟩,
      ⟨(some (57, false)), (some 61), .load false 1 (.t 60)⟩,
      ⟨(some (57, false)), (some 62), .bin .sub (.t 59) (.t 61)⟩,
      ⟨(some (57, false)), (some 63), .bin .gtr (.t 62) (.c (.int .i64 200))⟩,
      ⟨none, (some 64), .pick (.t 57) (.c (.bool true)) (.t 63)⟩,
      ⟨none, (some 65), .mv (.t 64)⟩,
      ⟨(some (65, false)), (some 66), .faddr 3 (.t 1)⟩,
      ⟨(some (65, false)), (some 67), .load true 2 (.t 66)⟩,
      ⟨(some (65, false)), (some 68), .call 75 [(.t 67)]⟩,
      ⟨(some (65, false)), (some 69), .un .not (.t 68)⟩,
      ⟨none, (some 70), .pick (.t 65) (.c (.bool true)) (.t 69)⟩,
      ⟨none, (some 71), .mv (.t 70)⟩,
      ⟨(some (71, false)), (some 72), .faddr 5 (.t 1)⟩,
      ⟨(some (71, false)), (some 73), .load false 1 (.t 72)⟩,
      ⟨(some (71, false)), (some 74), .call 62 [(.t 73), (.c (.int .i64 0)), (.c (.int .i64 4000))]⟩,
      ⟨(some (71, false)), (some 75), .un .not (.t 74)⟩,
      ⟨none, (some 76), .pick (.t 71) (.c (.bool true)) (.t 75)⟩,
      ⟨none, (some 77), .mv (.t 76)⟩,
      ⟨(some (77, false)), (some 78), .faddr 6 (.t 1)⟩,
      ⟨(some (77, false)), (some 79), .load false 1 (.t 78)⟩,
      ⟨(some (77, false)), (some 80), .call 62 [(.t 79), (.c (.int .i64 0)), (.c (.int .i64 4000))]⟩,
      ⟨(some (77, false)), (some 81), .un .not (.t 80)⟩,
      ⟨none, (some 82), .pick (.t 77) (.c (.bool true)) (.t 81)⟩])
    (.cond (.t 82) (.seq (.reg [⟨none, (some 2), .mv (.c (.int .i64 10))⟩])
    .ret)
    .skip))
    (.seq (.reg [⟨none, (some 2), .mv (.c (.int .i64 0))⟩])
    .ret))))
theorem ok54 : FnOk Try.prog 54 83 2 c54 [.t 2] := ⟨_, _, Try.func54, rfl, rfl, by kernel_rfl, by kernel_rfl⟩
theorem bd54 : bodied Try.prog 54 = true := by kernel_rfl

/-- ferrule/frames.Opens -/
def c55 : CI := (.seq (.reg [⟨none, (some 1), .box 0 true (.t 0)⟩,
      ⟨none, (some 2), .mv (.c (.int .i64 0))⟩,
      ⟨none, (some 3), .mv (.c (.int .i64 0))⟩])
    (.seq (.seq (.reg [⟨none, (some 9), .load true 7 (.t 1)⟩,
      ⟨none, (some 10), .call 76 [(.t 9)]⟩,
      ⟨none, (some 4), .mv (.t 10)⟩])
    (.seq (.reg [⟨none, (some 11), .mv (.t 4)⟩,
      ⟨none, (some 12), .bin .neq (.t 11) (.c (.int .i64 0))⟩])
    (.cond (.t 12) (.seq (.reg [⟨none, (some 13), .mv (.t 4)⟩,
      ⟨none, (some 2), .mv (.c (.int .i64 0))⟩,
      ⟨none, (some 3), .mv (.t 13)⟩])
    .ret)
    .skip)))
    (.seq (.reg [⟨none, (some 5), .mv (.c (.bool true))⟩,
      ⟨none, (some 6), .mv (.c (.bool true))⟩])
    (.seq (.seq (.reg [⟨none, (some 14), .faddr 0 (.t 1)⟩,
      ⟨none, (some 15), .load false 1 (.t 14)⟩,
      ⟨none, (some 16), .len (.t 15)⟩,
      ⟨none, (some 17), .mv (.c (.int .i64 0))⟩])
    (.block 0 (.loop (.seq (.reg [⟨none, (some 18), .bin .lss (.t 17) (.t 16)⟩])
    (.seq (.cond (.t 18) .skip
    (.exit 0))
    (.seq (.block 1 (.seq (.reg [⟨none, (some 19), .mv (.t 17)⟩,
      ⟨none, (some 20), .iaddr 7 (.t 15) (.t 17)⟩,
      ⟨none, (some 21), .load true 7 (.t 20)⟩,
      ⟨none, (some 8), .alloc 1 [(.int .i64 0), (.int .i64 0), (.int .i64 0), (.int .i64 0), (.int .i64 0), (.int .i64 0), (.int .i64 0)]⟩,
      ⟨none, (some 7), .mv (.t 19)⟩,
      ⟨none, none, .store true 7 (.t 8) (.t 21) []⟩])
    (.seq (.reg [⟨none, (some 22), .load true 7 (.t 8)⟩,
      ⟨none, (some 23), .load true 7 (.t 1)⟩,
      ⟨none, (some 24), .mv (.t 7)⟩,
      ⟨none, (some 25), .callz 2 0 78 [(.t 23), (.t 24)] []⟩,
      ⟨none, (some 26), .call 77 [(.t 22), (.t 25)]⟩])
    (.block 2 (.seq (.reg [⟨none, (some 28), .bin .eql (.t 26) (.c (.int .i64 1))⟩,
      ⟨none, (some 27), .mv (.t 28)⟩])
    (.cond (.t 27) (.reg [⟨none, (some 5), .mv (.c (.bool false))⟩,
      ⟨none, (some 6), .mv (.c (.bool false))⟩])
    (.seq (.reg [⟨none, (some 30), .bin .eql (.t 26) (.c (.int .i64 3))⟩,
      ⟨none, (some 29), .mv (.t 30)⟩])
    (.cond (.t 29) (.reg [⟨none, (some 5), .mv (.c (.bool false))⟩])
    .skip))))))))
    (.reg [⟨none, (some 31), .bin .add (.t 17) (.c (.int .i64 1))⟩,
      ⟨none, (some 17), .mv (.t 31)⟩])))))))
    (.seq (.reg [⟨none, (some 32), .mv (.t 5)⟩,
      ⟨none, (some 33), .mv (.t 6)⟩,
      ⟨none, (some 34), .call 79 [(.t 32), (.t 33)]⟩,
      ⟨none, (some 2), .mv (.t 34)⟩,
      ⟨none, (some 3), .mv (.c (.int .i64 0))⟩])
    .ret)))))
theorem ok55 : FnOk Try.prog 55 35 2 c55 [.t 2, .t 3] := ⟨_, _, Try.func55, rfl, rfl, by kernel_rfl, by kernel_rfl⟩
theorem bd55 : bodied Try.prog 55 = true := by kernel_rfl

/-- ferrule/ferrulelaw01.Example -/
def c56 : CI := (.seq (.reg [⟨none, (some 0), .alloc 0 [.nils, (.int .i64 0), (.int .i64 0), (.int .i64 0), (.int .i64 0), (.int .i64 0), (.int .i64 0)]⟩])
    (.seq (.reg [⟨none, (some 1), .build [(.int .i64 0), (.int .i64 0)] [(0, 1, (.c (.int .i64 50))), (1, 1, (.c (.int .i64 52)))]⟩,
      ⟨none, (some 2), .build [(.int .i64 0), (.int .i64 0)] [(0, 1, (.c (.int .i64 60))), (1, 1, (.c (.int .i64 60)))]⟩,
      ⟨none, (some 3), .build [(.int .i64 0), (.int .i64 0)] [(0, 1, (.c (.int .i64 1))), (1, 1, (.c (.int .i64 1)))]⟩,
      ⟨none, (some 4), .build [(.int .i64 0), (.int .i64 0), (.int .i64 0), (.int .i64 0), (.int .i64 0), (.int .i64 0), (.int .i64 0)] [(0, 2, (.t 1)), (2, 2, (.t 2)), (5, 2, (.t 3))]⟩,
      ⟨none, (some 5), .build [(.int .i64 0), (.int .i64 0)] [(0, 1, (.c (.int .i64 40))), (1, 1, (.c (.int .i64 40)))]⟩,
      ⟨none, (some 6), .build [(.int .i64 0), (.int .i64 0)] [(0, 1, (.c (.int .i64 45))), (1, 1, (.c (.int .i64 46)))]⟩,
      ⟨none, (some 7), .build [(.int .i64 0), (.int .i64 0)] [(0, 1, (.c (.int .i64 1))), (1, 1, (.c (.int .i64 2)))]⟩,
      ⟨none, (some 8), .build [(.int .i64 0), (.int .i64 0), (.int .i64 0), (.int .i64 0), (.int .i64 0), (.int .i64 0), (.int .i64 0)] [(0, 2, (.t 5)), (2, 2, (.t 6)), (4, 1, (.c (.int .i64 5))), (5, 2, (.t 7))]⟩,
      ⟨none, (some 9), .bsl 1 114 7 [(.t 4), (.t 8)] []⟩,
      ⟨none, (some 10), .build [(.int .i64 0), (.int .i64 0)] [(0, 1, (.c (.int .i64 1))), (1, 1, (.c (.int .i64 20)))]⟩,
      ⟨none, (some 11), .build [.nils, (.int .i64 0), (.int .i64 0), (.int .i64 0), (.int .i64 0), (.int .i64 0), (.int .i64 0)] [(0, 1, (.t 9)), (1, 1, (.c (.int .i64 20))), (2, 1, (.c (.int .i64 100))), (3, 2, (.t 10)), (5, 1, (.c (.int .i64 300))), (6, 1, (.c (.int .i64 351)))]⟩,
      ⟨none, none, .stz true 7 (.t 0) (.t 11) []⟩])
    .ret))
theorem ok56 : FnOk Try.prog 56 12 2 c56 [.cell 0 true 7] := ⟨_, _, Try.func56, rfl, rfl, by kernel_rfl, by kernel_rfl⟩
theorem bd56 : bodied Try.prog 56 = true := by kernel_rfl

/-- ferrule/frames.checkPosition -/
def c57 : CI := (.seq (.reg [⟨none, (some 3), .box 0 true (.t 0)⟩,
      ⟨none, (some 6), .mv (.c (.int .i64 0))⟩])
    (.seq (.seq (.reg [⟨none, (some 8), .load true 7 (.t 3)⟩,
      ⟨none, (some 9), .mv (.t 1)⟩,
      ⟨none, (some 10), .call 80 [(.t 8), (.t 9)]⟩,
      ⟨none, (some 7), .mv (.t 10)⟩])
    (.seq (.reg [⟨none, (some 11), .mv (.t 7)⟩,
      ⟨none, (some 12), .bin .neq (.t 11) (.c (.int .i64 0))⟩])
    (.cond (.t 12) (.seq (.reg [⟨none, (some 13), .mv (.t 7)⟩,
      ⟨none, (some 6), .mv (.t 13)⟩])
    .ret)
    .skip)))
    (.seq (.seq (.reg [⟨none, (some 14), .mv (.t 2)⟩,
      ⟨none, (some 15), .faddr 1 (.t 3)⟩,
      ⟨none, (some 16), .load false 1 (.t 15)⟩,
      ⟨none, (some 17), .faddr 2 (.t 3)⟩,
      ⟨none, (some 18), .load false 1 (.t 17)⟩,
      ⟨none, (some 19), .call 81 [(.t 14), (.t 16), (.t 18)]⟩,
      ⟨none, (some 20), .un .not (.t 19)⟩])
    (.cond (.t 20) (.seq (.reg [⟨none, (some 6), .mv (.c (.int .i64 1))⟩])
    .ret)
    .skip))
    (.seq (.reg [⟨none, (some 6), .mv (.c (.int .i64 0))⟩])
    .ret))))
theorem ok57 : FnOk Try.prog 57 21 1 c57 [.t 6] := ⟨_, _, Try.func57, rfl, rfl, by kernel_rfl, by kernel_rfl⟩
theorem bd57 : bodied Try.prog 57 = true := by kernel_rfl

/-- ferrule/frames.distance -/
def c58 : CI := (.seq (.reg [⟨none, (some 3), .box 0 true (.t 0)⟩,
      ⟨none, (some 6), .mv (.c (.int .i64 0))⟩])
    (.seq (.reg [⟨none, (some 10), .mv (.t 2)⟩,
      ⟨none, (some 7), .mv (.t 10)⟩])
    (.seq (.seq (.reg [⟨none, (some 11), .faddr 0 (.t 3)⟩,
      ⟨none, (some 12), .load false 1 (.t 11)⟩,
      ⟨none, (some 13), .mv (.t 1)⟩,
      ⟨none, (some 14), .bin .add (.t 13) (.c (.int .i64 1))⟩,
      ⟨none, (some 15), .sli 7 (.t 12) (some (.c (.int .i64 1))) (some (.t 14))⟩,
      ⟨none, (some 16), .len (.t 15)⟩,
      ⟨none, (some 17), .mv (.c (.int .i64 0))⟩])
    (.block 0 (.loop (.seq (.reg [⟨none, (some 18), .bin .lss (.t 17) (.t 16)⟩])
    (.seq (.cond (.t 18) .skip
    (.exit 0))
    (.seq (.block 1 (.seq (.reg [⟨none, (some 19), .iaddr 7 (.t 15) (.t 17)⟩,
      ⟨none, (some 20), .load true 7 (.t 19)⟩,
      ⟨none, (some 9), .alloc 1 [(.int .i64 0), (.int .i64 0), (.int .i64 0), (.int .i64 0), (.int .i64 0), (.int .i64 0), (.int .i64 0)]⟩,
      ⟨none, none, .store true 7 (.t 9) (.t 20) []⟩])
    (.reg [⟨none, (some 21), .faddr 4 (.t 9)⟩,
      ⟨none, (some 22), .load false 1 (.t 21)⟩,
      ⟨none, (some 23), .mv (.t 7)⟩,
      ⟨none, (some 24), .faddr 5 (.t 9)⟩,
      ⟨none, (some 25), .faddr 0 (.t 24)⟩,
      ⟨none, (some 26), .load false 1 (.t 25)⟩,
      ⟨none, (some 27), .bin .mul (.t 23) (.t 26)⟩,
      ⟨none, (some 28), .faddr 5 (.t 9)⟩,
      ⟨none, (some 29), .faddr 1 (.t 28)⟩,
      ⟨none, (some 30), .load false 1 (.t 29)⟩,
      ⟨none, (some 31), .bin .quo (.t 27) (.t 30)⟩,
      ⟨none, (some 32), .bin .add (.t 22) (.t 31)⟩,
      ⟨none, (some 7), .mv (.t 32)⟩])))
    (.reg [⟨none, (some 33), .bin .add (.t 17) (.c (.int .i64 1))⟩,
      ⟨none, (some 17), .mv (.t 33)⟩])))))))
    (.seq (.reg [⟨none, (some 34), .mv (.t 7)⟩,
      ⟨none, (some 6), .mv (.t 34)⟩])
    .ret))))
theorem ok58 : FnOk Try.prog 58 35 2 c58 [.t 6] := ⟨_, _, Try.func58, rfl, rfl, by kernel_rfl, by kernel_rfl⟩
theorem bd58 : bodied Try.prog 58 = true := by kernel_rfl

/-- ferrule/frames.cosines -/
def c59 : CI := (.seq (.reg [⟨none, (some 2), .box 0 true (.t 0)⟩,
      ⟨none, (some 3), .box 1 false (.t 1)⟩,
      ⟨none, (some 4), .alloc 2 [(.int .i64 0), (.int .i64 0)]⟩,
      ⟨none, (some 5), .alloc 3 [(.int .i64 0), (.int .i64 0)]⟩])
    (.seq (.reg [⟨none, (some 9), .load false 1 (.t 3)⟩,
      ⟨none, (some 10), .faddr 0 (.t 2)⟩,
      ⟨none, (some 11), .faddr 0 (.t 10)⟩,
      ⟨none, (some 12), .load false 1 (.t 11)⟩,
      ⟨none, (some 13), .faddr 2 (.t 2)⟩,
      ⟨none, (some 14), .faddr 0 (.t 13)⟩,
      ⟨none, (some 15), .load false 1 (.t 14)⟩,
      ⟨none, (some 16), .call 82 [(.t 9), (.t 12), (.t 15)]⟩,
      ⟨none, none, .store true 2 (.t 4) (.t 16) []⟩])
    (.seq (.reg [⟨none, (some 17), .load true 2 (.t 4)⟩,
      ⟨none, none, .store true 2 (.t 5) (.t 17) []⟩])
    (.seq (.seq (.reg [⟨none, (some 18), .load true 7 (.t 2)⟩,
      ⟨none, (some 19), .callw 4 0 83 [(.t 18)]⟩])
    (.block 0 (.rng (.t 19) [20, 21] (.seq (.reg [⟨none, (some 6), .mv (.t 20)⟩])
    (.reg [⟨none, (some 7), .mv (.t 21)⟩]))
    (.block 1 (.seq (.reg [⟨none, (some 22), .load false 1 (.t 3)⟩,
      ⟨none, (some 23), .mv (.t 6)⟩,
      ⟨none, (some 24), .mv (.t 7)⟩,
      ⟨none, (some 25), .call 82 [(.t 22), (.t 23), (.t 24)]⟩,
      ⟨none, (some 8), .alloc 4 [(.int .i64 0), (.int .i64 0)]⟩,
      ⟨none, none, .store true 2 (.t 8) (.t 25) []⟩])
    (.seq (.seq (.reg [⟨none, (some 26), .load true 2 (.t 8)⟩,
      ⟨none, (some 27), .load true 2 (.t 4)⟩,
      ⟨none, (some 28), .call 84 [(.t 26), (.t 27)]⟩])
    (.cond (.t 28) (.reg [⟨none, (some 29), .load true 2 (.t 8)⟩,
      ⟨none, none, .store true 2 (.t 4) (.t 29) []⟩])
    .skip))
    (.seq (.reg [⟨none, (some 30), .load true 2 (.t 5)⟩,
      ⟨none, (some 31), .load true 2 (.t 8)⟩,
      ⟨none, (some 32), .call 84 [(.t 30), (.t 31)]⟩])
    (.cond (.t 32) (.reg [⟨none, (some 33), .load true 2 (.t 8)⟩,
      ⟨none, none, .store true 2 (.t 5) (.t 33) []⟩])
    .skip))))))))
    (.seq (.reg [⟨none, (some 34), .load true 2 (.t 4)⟩,
      ⟨none, (some 35), .load true 2 (.t 5)⟩,
      ⟨none, none, .store true 2 (.t 4) (.t 34) [(.t 5)]⟩,
      ⟨none, none, .store true 2 (.t 5) (.t 35) []⟩])
    .ret)))))
theorem ok59 : FnOk Try.prog 59 36 5 c59 [.cell 4 true 2, .cell 5 true 2] := ⟨_, _, Try.func59, rfl, rfl, by kernel_rfl, by kernel_rfl⟩
theorem bd59 : bodied Try.prog 59 = true := by kernel_rfl

/-- ferrule/frames.reduced -/
def c60 : CI := (.seq (.reg [⟨none, (some 1), .box 0 true (.t 0)⟩,
      ⟨none, (some 2), .alloc 1 [(.int .i64 0), (.int .i64 0)]⟩])
    (.seq (.reg [⟨none, (some 4), .faddr 0 (.t 1)⟩,
      ⟨none, (some 5), .load false 1 (.t 4)⟩,
      ⟨none, (some 6), .faddr 0 (.t 1)⟩,
      ⟨none, (some 7), .load false 1 (.t 6)⟩,
      ⟨none, (some 8), .un .neg (.t 7)⟩,
      ⟨none, (some 9), .mm true [(.t 5), (.t 8)]⟩,
      ⟨none, (some 10), .faddr 1 (.t 1)⟩,
      ⟨none, (some 11), .load false 1 (.t 10)⟩,
      ⟨none, (some 12), .call 85 [(.t 9), (.t 11)]⟩,
      ⟨none, (some 3), .mv (.t 12)⟩])
    (.seq (.reg [⟨none, (some 13), .faddr 0 (.t 1)⟩,
      ⟨none, (some 14), .load false 1 (.t 13)⟩,
      ⟨none, (some 15), .mv (.t 3)⟩,
      ⟨none, (some 16), .bin .quo (.t 14) (.t 15)⟩,
      ⟨none, (some 17), .faddr 1 (.t 1)⟩,
      ⟨none, (some 18), .load false 1 (.t 17)⟩,
      ⟨none, (some 19), .mv (.t 3)⟩,
      ⟨none, (some 20), .bin .quo (.t 18) (.t 19)⟩,
      ⟨none, (some 21), .build [(.int .i64 0), (.int .i64 0)] [(0, 1, (.t 16)), (1, 1, (.t 20))]⟩,
      ⟨none, none, .store true 2 (.t 2) (.t 21) []⟩])
    .ret)))
theorem ok60 : FnOk Try.prog 60 22 2 c60 [.cell 2 true 2] := ⟨_, _, Try.func60, rfl, rfl, by kernel_rfl, by kernel_rfl⟩
theorem bd60 : bodied Try.prog 60 = true := by kernel_rfl

/-- ferrule/ferruletop.down -/
def c61 : CI := (.seq (.reg [⟨none, (some 4), .mv (.c (.int .i64 0))⟩])
    (.seq (.reg [⟨none, (some 6), .mv (.t 0)⟩,
      ⟨none, (some 7), .mv (.t 1)⟩,
      ⟨none, (some 8), .bin .quo (.t 6) (.t 7)⟩,
      ⟨none, (some 5), .mv (.t 8)⟩])
    (.seq (.seq (.reg [⟨none, (some 9), .mv (.t 0)⟩,
      ⟨none, (some 10), .mv (.t 1)⟩,
      ⟨none, (some 11), .bin .rem (.t 9) (.t 10)⟩,
      ⟨none, (some 12), .bin .lss (.t 11) (.c (.int .i64 0))⟩])
    (.cond (.t 12) (.reg [⟨none, (some 13), .mv (.t 5)⟩,
      ⟨none, (some 14), .bin .sub (.t 13) (.c (.int .i64 1))⟩,
      ⟨none, (some 5), .mv (.t 14)⟩])
    .skip))
    (.seq (.reg [⟨none, (some 15), .mv (.t 5)⟩,
      ⟨none, (some 4), .mv (.t 15)⟩])
    .ret))))
theorem ok61 : FnOk Try.prog 61 16 0 c61 [.t 4] := ⟨_, _, Try.func61, rfl, rfl, by kernel_rfl, by kernel_rfl⟩
theorem bd61 : bodied Try.prog 61 = true := by kernel_rfl

/-- ferrule/ferruleref01.Within -/
def c62 : CI := (.seq (.reg [⟨none, (some 6), .mv (.c (.bool false))⟩])
    (.seq (.reg [⟨none, (some 7), .mv (.t 0)⟩,
      ⟨none, (some 8), .mv (.t 1)⟩,
      ⟨none, (some 9), .bin .geq (.t 7) (.t 8)⟩,
      ⟨none, (some 10), .mv (.t 9)⟩,
      ⟨(some (10, true)), (some 11), .mv (.t 0)⟩,
      ⟨(some (10, true)), (some 12), .mv (.t 2)⟩,
      ⟨(some (10, true)), (some 13), .bin .leq (.t 11) (.t 12)⟩,
      ⟨none, (some 14), .pick (.t 10) (.t 13) (.c (.bool false))⟩,
      ⟨none, (some 6), .mv (.t 14)⟩])
    .ret))
theorem ok62 : FnOk Try.prog 62 15 0 c62 [.t 6] := ⟨_, _, Try.func62, rfl, rfl, by kernel_rfl, by kernel_rfl⟩
theorem bd62 : bodied Try.prog 62 = true := by kernel_rfl

/-- ferrule/ferruleref01.Reduced -/
def c63 : CI := (.seq (.reg [⟨none, (some 4), .alloc 0 [(.int .i64 0), (.int .i64 0)]⟩])
    (.seq (.reg [⟨none, (some 7), .mv (.t 0)⟩,
      ⟨none, (some 8), .mv (.t 0)⟩,
      ⟨none, (some 9), .un .neg (.t 8)⟩,
      ⟨none, (some 10), .mm true [(.t 7), (.t 9)]⟩,
      ⟨none, (some 11), .mv (.t 1)⟩,
      ⟨none, (some 5), .mv (.t 10)⟩,
      ⟨none, (some 6), .mv (.t 11)⟩])
    (.seq (.block 0 (.loop (.seq (.seq (.reg [⟨none, (some 12), .mv (.t 6)⟩,
      ⟨none, (some 13), .bin .neq (.t 12) (.c (.int .i64 0))⟩])
    (.cond (.t 13) .skip
    (.exit 0)))
    (.block 1 (.reg [⟨none, (some 14), .mv (.t 6)⟩,
      ⟨none, (some 15), .mv (.t 5)⟩,
      ⟨none, (some 16), .mv (.t 6)⟩,
      ⟨none, (some 17), .bin .rem (.t 15) (.t 16)⟩,
      ⟨none, (some 5), .mv (.t 14)⟩,
      ⟨none, (some 6), .mv (.t 17)⟩])))))
    (.seq (.reg [⟨none, (some 18), .mv (.t 0)⟩,
      ⟨none, (some 19), .mv (.t 5)⟩,
      ⟨none, (some 20), .bin .quo (.t 18) (.t 19)⟩,
      ⟨none, (some 21), .mv (.t 1)⟩,
      ⟨none, (some 22), .mv (.t 5)⟩,
      ⟨none, (some 23), .bin .quo (.t 21) (.t 22)⟩,
      ⟨none, (some 24), .build [(.int .i64 0), (.int .i64 0)] [(0, 1, (.t 20)), (1, 1, (.t 23))]⟩,
      ⟨none, none, .store true 2 (.t 4) (.t 24) []⟩])
    .ret))))
theorem ok63 : FnOk Try.prog 63 25 1 c63 [.cell 4 true 2] := ⟨_, _, Try.func63, rfl, rfl, by kernel_rfl, by kernel_rfl⟩
theorem bd63 : bodied Try.prog 63 = true := by kernel_rfl

/-- ferrule/gusts.validDome -/
def c64 : CI := (.seq (.reg [⟨none, (some 1), .box 0 true (.t 0)⟩,
      ⟨none, (some 2), .mv (.c (.bool false))⟩])
    (.seq (.reg [⟨none, (some 3), .faddr 0 (.t 1)⟩,
      ⟨none, (some 4), .load true 7 (.t 3)⟩,
      ⟨none, (some 5), .call 76 [(.t 4)]⟩,
      ⟨none, (some 6), .bin .eql (.t 5) (.c (.int .i64 0))⟩,
      ⟨none, (some 7), .mv (.t 6)⟩,
      ⟨(some (7, true)), (some 8), .faddr 7 (.t 1)⟩,
      ⟨(some (7, true)), (some 9), .load false 1 (.t 8)⟩,
      ⟨(some (7, true)), (some 10), .len (.t 9)⟩,
      ⟨(some (7, true)), (some 11), .call 86 [(.t 10), (.c (.int .i64 3)), (.c (.int .i64 10))]⟩,
      ⟨none, (some 12), .pick (.t 7) (.t 11) (.c (.bool false))⟩,
      ⟨none, (some 13), .mv (.t 12)⟩,
      ⟨(some (13, true)), (some 14), .faddr 7 (.t 1)⟩,
      ⟨(some (13, true)), (some 15), .load false 1 (.t 14)⟩,
      ⟨(some (13, true)), (some 16), .call 87 [(.t 15), (.c (.fn 88 []))]⟩,
      ⟨none, (some 17), .pick (.t 13) (.t 16) (.c (.bool false))⟩,
      ⟨none, (some 18), .mv (.t 17)⟩,
      ⟨(some (18, true)), (some 19), .faddr 8 (.t 1)⟩,
      ⟨(some (18, true)), (some 20), .load false 1 (.t 19)⟩,
      ⟨(some (18, true)), (some 21), .len (.t 20)⟩,
      ⟨(some (18, true)), (some 22), .faddr 7 (.t 1)⟩,
      ⟨(some (18, true)), (some 23), .load false 1 (.t 22)⟩,
      ⟨(some (18, true)), (some 24), .len (.t 23)⟩,
      ⟨(some (18, true)), (some 25), .bin .eql (.t 21) (.t 24)⟩,
      ⟨none, (some 26), .pick (.t 18) (.t 25) (.c (.bool false))⟩,
      ⟨none, (some 27), .mv (.t 26)⟩,
      ⟨(some (27, true)), (some 28), .faddr 8 (.t 1)⟩,
      ⟨(some (27, true)), (some 29), .load false 1 (.t 28)⟩,
      ⟨(some (27, true)), (some 30), .call 89 [(.t 29), (.c (.fn 90 []))]⟩,
      ⟨none, (some 31), .pick (.t 27) (.t 30) (.c (.bool false))⟩,
      ⟨none, (some 2), .mv (.t 31)⟩])
    .ret))
theorem ok64 : FnOk Try.prog 64 32 1 c64 [.t 2] := ⟨_, _, Try.func64, rfl, rfl, by kernel_rfl, by kernel_rfl⟩
theorem bd64 : bodied Try.prog 64 = true := by kernel_rfl

/-- ferrule/gusts.liftOf -/
def c65 : CI := (.seq (.reg [⟨none, (some 1), .box 0 true (.t 0)⟩,
      ⟨none, (some 2), .mv (.c (.int .i64 0))⟩])
    (.seq (.reg [⟨none, (some 4), .faddr 1 (.t 1)⟩,
      ⟨none, (some 5), .load false 1 (.t 4)⟩,
      ⟨none, (some 6), .faddr 0 (.t 1)⟩,
      ⟨none, (some 7), .load false 1 (.t 6)⟩,
      ⟨none, (some 8), .bin .add (.t 5) (.t 7)⟩,
      ⟨none, (some 9), .bin .mul (.c (.int .i64 100)) (.t 8)⟩,
      ⟨none, (some 10), .mm true [(.c (.int .i64 0)), (.t 9)]⟩,
      ⟨none, (some 11), .faddr 1 (.t 1)⟩,
      ⟨none, (some 12), .load false 1 (.t 11)⟩,
      ⟨none, (some 13), .bin .quo (.t 10) (.t 12)⟩,
      ⟨none, (some 3), .mv (.t 13)⟩])
    (.seq (.reg [⟨none, (some 14), .mv (.t 3)⟩,
      ⟨none, (some 15), .mm false [(.t 14), (.c (.int .i64 200))]⟩,
      ⟨none, (some 2), .mv (.t 15)⟩])
    .ret)))
theorem ok65 : FnOk Try.prog 65 16 1 c65 [.t 2] := ⟨_, _, Try.func65, rfl, rfl, by kernel_rfl, by kernel_rfl⟩
theorem bd65 : bodied Try.prog 65 = true := by kernel_rfl

/-- ferrule/gusts.checkGusts -/
def c66 : CI := (.seq (.reg [⟨none, (some 2), .box 0 true (.t 0)⟩,
      ⟨none, (some 4), .mv (.c (.int .i64 0))⟩])
    (.seq (.seq (.reg [⟨none, (some 7), .load true 9 (.t 2)⟩,
      ⟨none, (some 8), .call 39 [(.t 7)]⟩,
      ⟨none, (some 5), .mv (.t 8)⟩])
    (.seq (.reg [⟨none, (some 9), .mv (.t 5)⟩,
      ⟨none, (some 10), .bin .neq (.t 9) (.c (.int .i64 0))⟩])
    (.cond (.t 10) (.seq (.reg [⟨none, (some 11), .mv (.t 5)⟩,
      ⟨none, (some 4), .mv (.t 11)⟩])
    .ret)
    .skip)))
    (.seq (.reg [⟨none, (some 12), .mkfn 91 [(.t 2)]⟩,
      ⟨none, (some 6), .mv (.t 12)⟩])
    (.seq (.seq (.reg [⟨none, (some 13), .mv (.t 1)⟩,
      ⟨none, (some 14), .len (.t 13)⟩,
      ⟨none, (some 15), .bin .gtr (.t 14) (.c (.int .i64 20))⟩,
      ⟨none, (some 16), .mv (.t 15)⟩,
      ⟨(some (16, false)), (some 17), .mv (.t 1)⟩,
      ⟨(some (16, false)), (some 18), .mv (.t 6)⟩,
      ⟨(some (16, false)), (some 19), .call 70 [(.t 17), (.t 18)]⟩,
      ⟨(some (16, false)), (some 20), .un .not (.t 19)⟩,
      ⟨none, (some 21), .pick (.t 16) (.c (.bool true)) (.t 20)⟩])
    (.cond (.t 21) (.seq (.reg [⟨none, (some 4), .mv (.c (.int .i64 1))⟩])
    .ret)
    .skip))
    (.seq (.reg [⟨none, (some 4), .mv (.c (.int .i64 0))⟩])
    .ret)))))
theorem ok66 : FnOk Try.prog 66 22 1 c66 [.t 4] := ⟨_, _, Try.func66, rfl, rfl, by kernel_rfl, by kernel_rfl⟩
theorem bd66 : bodied Try.prog 66 = true := by kernel_rfl

/-- (ferrule/gusts.truth).around -/
def c67 : CI := (.seq (.reg [⟨none, (some 2), .box 0 true (.t 0)⟩,
      ⟨none, (some 4), .mv (.c (.int .i64 0))⟩])
    (.seq (.reg [⟨none, (some 6), .faddr 1 (.t 2)⟩,
      ⟨none, (some 7), .load false 1 (.t 6)⟩,
      ⟨none, (some 8), .len (.t 7)⟩,
      ⟨none, (some 5), .mv (.t 8)⟩])
    (.seq (.reg [⟨none, (some 9), .mv (.t 1)⟩,
      ⟨none, (some 10), .mv (.t 5)⟩,
      ⟨none, (some 11), .bin .add (.t 9) (.t 10)⟩,
      ⟨none, (some 12), .mv (.t 5)⟩,
      ⟨none, (some 13), .bin .rem (.t 11) (.t 12)⟩,
      ⟨none, (some 4), .mv (.t 13)⟩])
    .ret)))
theorem ok67 : FnOk Try.prog 67 14 1 c67 [.t 4] := ⟨_, _, Try.func67, rfl, rfl, by kernel_rfl, by kernel_rfl⟩
theorem bd67 : bodied Try.prog 67 = true := by kernel_rfl

/-- (ferrule/gusts.truth).rounds -/
def c68 : CI := (.seq (.reg [⟨none, (some 2), .box 0 true (.t 0)⟩,
      ⟨none, (some 3), .box 1 true (.t 1)⟩,
      ⟨none, (some 4), .mv (.c (.lit (.nilFunc)))⟩])
    (.seq (.reg [⟨none, (some 5), .mkfn 92 [(.t 2), (.t 3)]⟩,
      ⟨none, (some 4), .mv (.t 5)⟩])
    .ret))
theorem ok68 : FnOk Try.prog 68 6 2 c68 [.t 4] := ⟨_, _, Try.func68, rfl, rfl, by kernel_rfl, by kernel_rfl⟩
theorem bd68 : bodied Try.prog 68 = true := by kernel_rfl

/-- slices.Sort[[]int,int] -/
def c69 : CI := (.seq (.reg [⟨none, (some 3), .mv (.t 0)⟩,
      ⟨none, (some 4), .len (.t 3)⟩,
      ⟨none, (some 2), .mv (.t 4)⟩])
    (.reg [⟨none, (some 5), .mv (.t 0)⟩,
      ⟨none, (some 6), .mv (.t 2)⟩,
      ⟨none, (some 7), .mv (.t 2)⟩,
      ⟨none, (some 8), .conv .u64 (.t 7)⟩,
      ⟨none, (some 9), .call 96 [(.t 8)]⟩,
      ⟨none, (some 10), .callw 0 0 95 [(.t 5), (.c (.int .i64 0)), (.t 6), (.t 9)]⟩]))
theorem ok69 : FnOk Try.prog 69 11 0 c69 [] := ⟨_, _, Try.func69, rfl, rfl, by kernel_rfl, by kernel_rfl⟩
theorem bd69 : bodied Try.prog 69 = true := by kernel_rfl

/-- ferrule/gusts.each[ferrule/api.Gust] -/
def c70 : CI := (.seq (.reg [⟨none, (some 4), .mv (.c (.bool false))⟩])
    (.seq (.seq (.reg [⟨none, (some 7), .mv (.t 0)⟩,
      ⟨none, (some 8), .len (.t 7)⟩,
      ⟨none, (some 9), .mv (.c (.int .i64 0))⟩])
    (.block 0 (.loop (.seq (.reg [⟨none, (some 10), .bin .lss (.t 9) (.t 8)⟩])
    (.seq (.cond (.t 10) .skip
    (.exit 0))
    (.seq (.block 1 (.seq (.reg [⟨none, (some 11), .iaddr 2 (.t 7) (.t 9)⟩,
      ⟨none, (some 12), .load true 2 (.t 11)⟩,
      ⟨none, (some 6), .alloc 0 [(.int .i64 0), (.int .i64 0)]⟩,
      ⟨none, none, .store true 2 (.t 6) (.t 12) []⟩])
    (.seq (.reg [⟨none, (some 13), .mv (.t 1)⟩,
      ⟨none, (some 14), .load true 2 (.t 6)⟩,
      ⟨none, (some 15), .callx (.t 13) [(.t 14)]⟩,
      ⟨none, (some 16), .un .not (.t 15)⟩])
    (.cond (.t 16) (.seq (.reg [⟨none, (some 4), .mv (.c (.bool false))⟩])
    .ret)
    .skip))))
    (.reg [⟨none, (some 17), .bin .add (.t 9) (.c (.int .i64 1))⟩,
      ⟨none, (some 9), .mv (.t 17)⟩])))))))
    (.seq (.reg [⟨none, (some 4), .mv (.c (.bool true))⟩])
    .ret)))
theorem ok70 : FnOk Try.prog 70 18 1 c70 [.t 4] := ⟨_, _, Try.func70, rfl, rfl, by kernel_rfl, by kernel_rfl⟩
theorem bd70 : bodied Try.prog 70 = true := by kernel_rfl

/-- (ferrule/gusts.truth).stands$1 -/
def c71 : CI := (.seq (.reg [⟨none, (some 2), .box 0 true (.t 0)⟩,
      ⟨none, (some 3), .mv (.c (.bool false))⟩])
    (.seq (.reg [⟨none, (some 4), .load true 3 (.t 1)⟩,
      ⟨none, (some 5), .load true 2 (.t 2)⟩,
      ⟨none, (some 6), .callw 1 1 45 [(.t 4), (.t 5)]⟩,
      ⟨none, (some 7), .len (.t 6)⟩,
      ⟨none, (some 8), .bin .eql (.t 7) (.c (.int .i64 0))⟩,
      ⟨none, (some 3), .mv (.t 8)⟩])
    .ret))
theorem ok71 : FnOk Try.prog 71 9 2 c71 [.t 3] := ⟨_, _, Try.func71, rfl, rfl, by kernel_rfl, by kernel_rfl⟩
theorem bd71 : bodied Try.prog 71 = true := by kernel_rfl

/-- (ferrule/gusts.truth).tooWeak$1 -/
def c72 : CI := (.seq (.reg [⟨none, (some 4), .mv (.c (.bool false))⟩])
    (.seq (.reg [⟨none, (some 5), .load true 3 (.t 1)⟩,
      ⟨none, (some 6), .load true 2 (.t 2)⟩,
      ⟨none, (some 7), .mv (.t 0)⟩,
      ⟨none, (some 8), .call 53 [(.t 5), (.t 6), (.t 7)]⟩,
      ⟨none, (some 4), .mv (.t 8)⟩])
    .ret))
theorem ok72 : FnOk Try.prog 72 9 0 c72 [.t 4] := ⟨_, _, Try.func72, rfl, rfl, by kernel_rfl, by kernel_rfl⟩
theorem bd72 : bodied Try.prog 72 = true := by kernel_rfl

/-- slices.IndexFunc[[]ferrule/api.Gust,ferrule/api.Gust] -/
def c73 : CI := (.seq (.reg [⟨none, (some 4), .mv (.c (.int .i64 0))⟩])
    (.seq (.seq (.reg [⟨none, (some 6), .mv (.t 0)⟩,
      ⟨none, (some 7), .len (.t 6)⟩,
      ⟨none, (some 8), .mv (.c (.int .i64 0))⟩])
    (.block 0 (.loop (.seq (.reg [⟨none, (some 9), .bin .lss (.t 8) (.t 7)⟩])
    (.seq (.cond (.t 9) .skip
    (.exit 0))
    (.seq (.block 1 (.seq (.reg [⟨none, (some 10), .mv (.t 8)⟩,
      ⟨none, (some 5), .mv (.t 10)⟩])
    (.seq (.reg [⟨none, (some 11), .mv (.t 1)⟩,
      ⟨none, (some 12), .mv (.t 0)⟩,
      ⟨none, (some 13), .mv (.t 5)⟩,
      ⟨none, (some 14), .iaddr 2 (.t 12) (.t 13)⟩,
      ⟨none, (some 15), .load true 2 (.t 14)⟩,
      ⟨none, (some 16), .callx (.t 11) [(.t 15)]⟩])
    (.cond (.t 16) (.seq (.reg [⟨none, (some 17), .mv (.t 5)⟩,
      ⟨none, (some 4), .mv (.t 17)⟩])
    .ret)
    .skip))))
    (.reg [⟨none, (some 18), .bin .add (.t 8) (.c (.int .i64 1))⟩,
      ⟨none, (some 8), .mv (.t 18)⟩])))))))
    (.seq (.reg [⟨none, (some 4), .mv (.c (.int .i64 (-1)))⟩])
    .ret)))
theorem ok73 : FnOk Try.prog 73 19 0 c73 [.t 4] := ⟨_, _, Try.func73, rfl, rfl, by kernel_rfl, by kernel_rfl⟩
theorem bd73 : bodied Try.prog 73 = true := by kernel_rfl

/-- ferrule/ferruleref01.isLong -/
def c74 : CI := (.seq (.reg [⟨none, (some 1), .box 0 true (.t 0)⟩,
      ⟨none, (some 2), .mv (.c (.bool false))⟩])
    (.seq (.reg [⟨none, (some 3), .faddr 0 (.t 1)⟩,
      ⟨none, (some 4), .load false 1 (.t 3)⟩,
      ⟨none, (some 5), .faddr 1 (.t 1)⟩,
      ⟨none, (some 6), .load false 1 (.t 5)⟩,
      ⟨none, (some 7), .call 62 [(.t 4), (.c (.int .i64 1)), (.t 6)]⟩,
      ⟨none, (some 8), .mv (.t 7)⟩,
      ⟨(some (8, true)), (some 9), .faddr 1 (.t 1)⟩,
      ⟨(some (8, true)), (some 10), .load false 1 (.t 9)⟩,
      ⟨(some (8, true)), (some 11), .bin .leq (.t 10) (.c (.int .i64 2000))⟩,
      ⟨none, (some 12), .pick (.t 8) (.t 11) (.c (.bool false))⟩,
      ⟨none, (some 13), .mv (.t 12)⟩,
      ⟨(some (13, true)), (some 14), .faddr 1 (.t 1)⟩,
      ⟨(some (13, true)), (some 15), .load false 1 (.t 14)⟩,
      ⟨(some (13, true)), (some 16), .faddr 0 (.t 1)⟩,
      ⟨(some (13, true)), (some 17), .load false 1 (.t 16)⟩,
      ⟨(some (13, true)), (some 18), .bin .sub (.t 15) (.t 17)⟩,
      ⟨(some (13, true)), (some 19), .bin .leq (.t 18) (.c (.int .i64 6))⟩,
      ⟨none, (some 20), .pick (.t 13) (.t 19) (.c (.bool false))⟩,
      ⟨none, (some 2), .mv (.t 20)⟩])
    .ret))
theorem ok74 : FnOk Try.prog 74 21 1 c74 [.t 2] := ⟨_, _, Try.func74, rfl, rfl, by kernel_rfl, by kernel_rfl⟩
theorem bd74 : bodied Try.prog 74 = true := by kernel_rfl

/-- ferrule/ferruleref01.isShare -/
def c75 : CI := (.seq (.reg [⟨none, (some 1), .box 0 true (.t 0)⟩,
      ⟨none, (some 2), .mv (.c (.bool false))⟩])
    (.seq (.reg [⟨none, (some 3), .faddr 1 (.t 1)⟩,
      ⟨none, (some 4), .load false 1 (.t 3)⟩,
      ⟨none, (some 5), .call 62 [(.t 4), (.c (.int .i64 1)), (.c (.int .i64 20))]⟩,
      ⟨none, (some 6), .mv (.t 5)⟩,
      ⟨(some (6, true)), (some 7), .faddr 0 (.t 1)⟩,
      ⟨(some (6, true)), (some 8), .load false 1 (.t 7)⟩,
      ⟨(some (6, true)), (some 9), .faddr 1 (.t 1)⟩,
      ⟨(some (6, true)), (some 10), .load false 1 (.t 9)⟩,
      ⟨(some (6, true)), (some 11), .call 62 [(.t 8), (.c (.int .i64 0)), (.t 10)]⟩,
      ⟨none, (some 12), .pick (.t 6) (.t 11) (.c (.bool false))⟩,
      ⟨none, (some 2), .mv (.t 12)⟩])
    .ret))
theorem ok75 : FnOk Try.prog 75 13 1 c75 [.t 2] := ⟨_, _, Try.func75, rfl, rfl, by kernel_rfl, by kernel_rfl⟩
theorem bd75 : bodied Try.prog 75 = true := by kernel_rfl

/-- ferrule/frames.Check -/
def c76 : CI := (.seq (.reg [⟨none, (some 1), .box 0 true (.t 0)⟩,
      ⟨none, (some 2), .mv (.c (.int .i64 0))⟩])
    (.seq (.seq (.reg [⟨none, (some 3), .load true 7 (.t 1)⟩,
      ⟨none, (some 4), .call 97 [(.t 3)]⟩,
      ⟨none, (some 5), .un .not (.t 4)⟩])
    (.cond (.t 5) (.seq (.reg [⟨none, (some 2), .mv (.c (.int .i64 10))⟩])
    .ret)
    .skip))
    (.seq (.reg [⟨none, (some 2), .mv (.c (.int .i64 0))⟩])
    .ret)))
theorem ok76 : FnOk Try.prog 76 6 1 c76 [.t 2] := ⟨_, _, Try.func76, rfl, rfl, by kernel_rfl, by kernel_rfl⟩
theorem bd76 : bodied Try.prog 76 = true := by kernel_rfl

/-- ferrule/frames.known -/
def c77 : CI := (.seq (.reg [⟨none, (some 2), .box 0 true (.t 0)⟩,
      ⟨none, (some 3), .box 1 false (.t 1)⟩,
      ⟨none, (some 4), .mv (.c (.int .i64 0))⟩])
    (.seq (.reg [⟨none, (some 5), .alloc 2 [(.bool false)]⟩,
      ⟨none, (some 6), .alloc 3 [(.bool false)]⟩,
      ⟨none, none, .store false 1 (.t 5) (.c (.bool true)) []⟩,
      ⟨none, none, .store false 1 (.t 6) (.c (.bool false)) []⟩])
    (.seq (.seq (.reg [⟨none, (some 9), .load true 7 (.t 2)⟩,
      ⟨none, (some 10), .callw 4 0 83 [(.t 9)]⟩])
    (.block 0 (.rng (.t 10) [11, 12] (.seq (.reg [⟨none, (some 7), .mv (.t 11)⟩])
    (.reg [⟨none, (some 8), .mv (.t 12)⟩]))
    (.block 1 (.seq (.reg [⟨none, (some 13), .load false 1 (.t 3)⟩,
      ⟨none, (some 14), .mv (.t 7)⟩,
      ⟨none, (some 15), .mv (.t 8)⟩,
      ⟨none, (some 16), .callx (.t 13) [(.t 14), (.t 15)]⟩])
    (.cond (.t 16) (.reg [⟨none, none, .store false 1 (.t 6) (.c (.bool true)) []⟩])
    (.reg [⟨none, none, .store false 1 (.t 5) (.c (.bool false)) []⟩])))))))
    (.seq (.reg [⟨none, (some 17), .load false 1 (.t 5)⟩,
      ⟨none, (some 18), .load false 1 (.t 6)⟩,
      ⟨none, (some 19), .call 79 [(.t 17), (.t 18)]⟩,
      ⟨none, (some 4), .mv (.t 19)⟩])
    .ret))))
theorem ok77 : FnOk Try.prog 77 20 4 c77 [.t 4] := ⟨_, _, Try.func77, rfl, rfl, by kernel_rfl, by kernel_rfl⟩
theorem bd77 : bodied Try.prog 77 = true := by kernel_rfl

/-- ferrule/frames.bindsSomewhere -/
def c78 : CI := (.seq (.reg [⟨none, (some 2), .box 0 true (.t 0)⟩,
      ⟨none, (some 3), .box 1 false (.t 1)⟩,
      ⟨none, (some 4), .mv (.c (.lit (.nilFunc)))⟩])
    (.seq (.reg [⟨none, (some 5), .mkfn 98 [(.t 2), (.t 3)]⟩,
      ⟨none, (some 4), .mv (.t 5)⟩])
    .ret))
theorem ok78 : FnOk Try.prog 78 6 2 c78 [.t 4] := ⟨_, _, Try.func78, rfl, rfl, by kernel_rfl, by kernel_rfl⟩
theorem bd78 : bodied Try.prog 78 = true := by kernel_rfl

/-- ferrule/frames.verdict -/
def c79 : CI := (.seq (.reg [⟨none, (some 4), .mv (.c (.int .i64 0))⟩])
    (.seq (.block 0 (.seq (.reg [⟨none, (some 6), .mv (.t 0)⟩,
      ⟨none, (some 5), .mv (.t 6)⟩])
    (.cond (.t 5) (.seq (.reg [⟨none, (some 4), .mv (.c (.int .i64 1))⟩])
    .ret)
    (.seq (.reg [⟨none, (some 8), .mv (.t 1)⟩,
      ⟨none, (some 7), .mv (.t 8)⟩])
    (.cond (.t 7) (.seq (.reg [⟨none, (some 4), .mv (.c (.int .i64 3))⟩])
    .ret)
    .skip)))))
    (.seq (.reg [⟨none, (some 4), .mv (.c (.int .i64 2))⟩])
    .ret)))
theorem ok79 : FnOk Try.prog 79 9 0 c79 [.t 4] := ⟨_, _, Try.func79, rfl, rfl, by kernel_rfl, by kernel_rfl⟩
theorem bd79 : bodied Try.prog 79 = true := by kernel_rfl

/-- ferrule/frames.checkSection -/
def c80 : CI := (.seq (.reg [⟨none, (some 2), .box 0 true (.t 0)⟩,
      ⟨none, (some 4), .mv (.c (.int .i64 0))⟩])
    (.seq (.seq (.reg [⟨none, (some 5), .load true 7 (.t 2)⟩,
      ⟨none, (some 6), .call 97 [(.t 5)]⟩,
      ⟨none, (some 7), .un .not (.t 6)⟩])
    (.cond (.t 7) (.seq (.reg [⟨none, (some 4), .mv (.c (.int .i64 10))⟩])
    .ret)
    .skip))
    (.seq (.seq (.reg [⟨none, (some 8), .mv (.t 1)⟩,
      ⟨none, (some 9), .faddr 0 (.t 2)⟩,
      ⟨none, (some 10), .load false 1 (.t 9)⟩,
      ⟨none, (some 11), .len (.t 10)⟩,
      ⟨none, (some 12), .bin .sub (.t 11) (.c (.int .i64 1))⟩,
      ⟨none, (some 13), .call 81 [(.t 8), (.c (.int .i64 0)), (.t 12)]⟩,
      ⟨none, (some 14), .un .not (.t 13)⟩])
    (.cond (.t 14) (.seq (.reg [⟨none, (some 4), .mv (.c (.int .i64 1))⟩])
    .ret)
    .skip))
    (.seq (.reg [⟨none, (some 4), .mv (.c (.int .i64 0))⟩])
    .ret))))
theorem ok80 : FnOk Try.prog 80 15 1 c80 [.t 4] := ⟨_, _, Try.func80, rfl, rfl, by kernel_rfl, by kernel_rfl⟩
theorem bd80 : bodied Try.prog 80 = true := by kernel_rfl

/-- ferrule/frames.within -/
def c81 : CI := (.seq (.reg [⟨none, (some 6), .mv (.c (.bool false))⟩])
    (.seq (.reg [⟨none, (some 7), .mv (.t 1)⟩,
      ⟨none, (some 8), .mv (.t 0)⟩,
      ⟨none, (some 9), .bin .leq (.t 7) (.t 8)⟩,
      ⟨none, (some 10), .mv (.t 9)⟩,
      ⟨(some (10, true)), (some 11), .mv (.t 0)⟩,
      ⟨(some (10, true)), (some 12), .mv (.t 2)⟩,
      ⟨(some (10, true)), (some 13), .bin .leq (.t 11) (.t 12)⟩,
      ⟨none, (some 14), .pick (.t 10) (.t 13) (.c (.bool false))⟩,
      ⟨none, (some 6), .mv (.t 14)⟩])
    .ret))
theorem ok81 : FnOk Try.prog 81 15 0 c81 [.t 6] := ⟨_, _, Try.func81, rfl, rfl, by kernel_rfl, by kernel_rfl⟩
theorem bd81 : bodied Try.prog 81 = true := by kernel_rfl

/-- ferrule/frames.cosine -/
def c82 : CI := (.seq (.reg [⟨none, (some 6), .alloc 0 [(.int .i64 0), (.int .i64 0)]⟩])
    (.seq (.reg [⟨none, (some 7), .mv (.t 0)⟩,
      ⟨none, (some 8), .mv (.t 0)⟩,
      ⟨none, (some 9), .bin .mul (.t 7) (.t 8)⟩,
      ⟨none, (some 10), .mv (.t 1)⟩,
      ⟨none, (some 11), .mv (.t 1)⟩,
      ⟨none, (some 12), .bin .mul (.t 10) (.t 11)⟩,
      ⟨none, (some 13), .bin .add (.t 9) (.t 12)⟩,
      ⟨none, (some 14), .mv (.t 2)⟩,
      ⟨none, (some 15), .mv (.t 2)⟩,
      ⟨none, (some 16), .bin .mul (.t 14) (.t 15)⟩,
      ⟨none, (some 17), .bin .sub (.t 13) (.t 16)⟩,
      ⟨none, (some 18), .mv (.t 0)⟩,
      ⟨none, (some 19), .bin .mul (.c (.int .i64 2)) (.t 18)⟩,
      ⟨none, (some 20), .mv (.t 1)⟩,
      ⟨none, (some 21), .bin .mul (.t 19) (.t 20)⟩,
      ⟨none, (some 22), .build [(.int .i64 0), (.int .i64 0)] [(0, 1, (.t 17)), (1, 1, (.t 21))]⟩,
      ⟨none, none, .store true 2 (.t 6) (.t 22) []⟩])
    .ret))
theorem ok82 : FnOk Try.prog 82 23 1 c82 [.cell 6 true 2] := ⟨_, _, Try.func82, rfl, rfl, by kernel_rfl, by kernel_rfl⟩
theorem bd82 : bodied Try.prog 82 = true := by kernel_rfl

/-- ferrule/frames.sides -/
def c83 : CI := (.seq (.reg [⟨none, (some 1), .box 0 true (.t 0)⟩,
      ⟨none, (some 2), .mv (.c (.lit (.nilFunc)))⟩])
    (.seq (.reg [⟨none, (some 3), .mkfn 101 [(.t 1)]⟩,
      ⟨none, (some 2), .mv (.t 3)⟩])
    .ret))
theorem ok83 : FnOk Try.prog 83 4 1 c83 [.t 2] := ⟨_, _, Try.func83, rfl, rfl, by kernel_rfl, by kernel_rfl⟩
theorem bd83 : bodied Try.prog 83 = true := by kernel_rfl

/-- ferrule/frames.less -/
def c84 : CI := (.seq (.reg [⟨none, (some 2), .box 0 true (.t 0)⟩,
      ⟨none, (some 3), .box 1 true (.t 1)⟩,
      ⟨none, (some 4), .mv (.c (.bool false))⟩])
    (.seq (.reg [⟨none, (some 5), .faddr 0 (.t 2)⟩,
      ⟨none, (some 6), .load false 1 (.t 5)⟩,
      ⟨none, (some 7), .faddr 1 (.t 3)⟩,
      ⟨none, (some 8), .load false 1 (.t 7)⟩,
      ⟨none, (some 9), .bin .mul (.t 6) (.t 8)⟩,
      ⟨none, (some 10), .faddr 0 (.t 3)⟩,
      ⟨none, (some 11), .load false 1 (.t 10)⟩,
      ⟨none, (some 12), .faddr 1 (.t 2)⟩,
      ⟨none, (some 13), .load false 1 (.t 12)⟩,
      ⟨none, (some 14), .bin .mul (.t 11) (.t 13)⟩,
      ⟨none, (some 15), .bin .lss (.t 9) (.t 14)⟩,
      ⟨none, (some 4), .mv (.t 15)⟩])
    .ret))
theorem ok84 : FnOk Try.prog 84 16 2 c84 [.t 4] := ⟨_, _, Try.func84, rfl, rfl, by kernel_rfl, by kernel_rfl⟩
theorem bd84 : bodied Try.prog 84 = true := by kernel_rfl

/-- ferrule/frames.divisor -/
def c85 : CI := (.seq (.reg [⟨none, (some 4), .mv (.c (.int .i64 0))⟩])
    (.seq (.block 0 (.loop (.seq (.seq (.reg [⟨none, (some 5), .mv (.t 0)⟩,
      ⟨none, (some 6), .bin .neq (.t 5) (.c (.int .i64 0))⟩])
    (.cond (.t 6) .skip
    (.exit 0)))
    (.block 1 (.reg [⟨none, (some 7), .mv (.t 1)⟩,
      ⟨none, (some 8), .mv (.t 0)⟩,
      ⟨none, (some 9), .bin .rem (.t 7) (.t 8)⟩,
      ⟨none, (some 10), .mv (.t 0)⟩,
      ⟨none, (some 0), .mv (.t 9)⟩,
      ⟨none, (some 1), .mv (.t 10)⟩])))))
    (.seq (.reg [⟨none, (some 11), .mv (.t 1)⟩,
      ⟨none, (some 4), .mv (.t 11)⟩])
    .ret)))
theorem ok85 : FnOk Try.prog 85 12 0 c85 [.t 4] := ⟨_, _, Try.func85, rfl, rfl, by kernel_rfl, by kernel_rfl⟩
theorem bd85 : bodied Try.prog 85 = true := by kernel_rfl

/-- ferrule/gusts.within -/
def c86 : CI := (.seq (.reg [⟨none, (some 6), .mv (.c (.bool false))⟩])
    (.seq (.reg [⟨none, (some 7), .mv (.t 1)⟩,
      ⟨none, (some 8), .mv (.t 0)⟩,
      ⟨none, (some 9), .bin .leq (.t 7) (.t 8)⟩,
      ⟨none, (some 10), .mv (.t 9)⟩,
      ⟨(some (10, true)), (some 11), .mv (.t 0)⟩,
      ⟨(some (10, true)), (some 12), .mv (.t 2)⟩,
      ⟨(some (10, true)), (some 13), .bin .leq (.t 11) (.t 12)⟩,
      ⟨none, (some 14), .pick (.t 10) (.t 13) (.c (.bool false))⟩,
      ⟨none, (some 6), .mv (.t 14)⟩])
    .ret))
theorem ok86 : FnOk Try.prog 86 15 0 c86 [.t 6] := ⟨_, _, Try.func86, rfl, rfl, by kernel_rfl, by kernel_rfl⟩
theorem bd86 : bodied Try.prog 86 = true := by kernel_rfl

/-- ferrule/gusts.each[ferrule/api.Span] -/
def c87 : CI := (.seq (.reg [⟨none, (some 4), .mv (.c (.bool false))⟩])
    (.seq (.seq (.reg [⟨none, (some 7), .mv (.t 0)⟩,
      ⟨none, (some 8), .len (.t 7)⟩,
      ⟨none, (some 9), .mv (.c (.int .i64 0))⟩])
    (.block 0 (.loop (.seq (.reg [⟨none, (some 10), .bin .lss (.t 9) (.t 8)⟩])
    (.seq (.cond (.t 10) .skip
    (.exit 0))
    (.seq (.block 1 (.seq (.reg [⟨none, (some 11), .iaddr 2 (.t 7) (.t 9)⟩,
      ⟨none, (some 12), .load true 2 (.t 11)⟩,
      ⟨none, (some 6), .alloc 0 [(.int .i64 0), (.int .i64 0)]⟩,
      ⟨none, none, .store true 2 (.t 6) (.t 12) []⟩])
    (.seq (.reg [⟨none, (some 13), .mv (.t 1)⟩,
      ⟨none, (some 14), .load true 2 (.t 6)⟩,
      ⟨none, (some 15), .callx (.t 13) [(.t 14)]⟩,
      ⟨none, (some 16), .un .not (.t 15)⟩])
    (.cond (.t 16) (.seq (.reg [⟨none, (some 4), .mv (.c (.bool false))⟩])
    .ret)
    .skip))))
    (.reg [⟨none, (some 17), .bin .add (.t 9) (.c (.int .i64 1))⟩,
      ⟨none, (some 9), .mv (.t 17)⟩])))))))
    (.seq (.reg [⟨none, (some 4), .mv (.c (.bool true))⟩])
    .ret)))
theorem ok87 : FnOk Try.prog 87 18 1 c87 [.t 4] := ⟨_, _, Try.func87, rfl, rfl, by kernel_rfl, by kernel_rfl⟩
theorem bd87 : bodied Try.prog 87 = true := by kernel_rfl

/-- ferrule/gusts.validStrength -/
def c88 : CI := (.seq (.reg [⟨none, (some 1), .box 0 true (.t 0)⟩,
      ⟨none, (some 2), .mv (.c (.bool false))⟩])
    (.seq (.reg [⟨none, (some 3), .faddr 0 (.t 1)⟩,
      ⟨none, (some 4), .load false 1 (.t 3)⟩,
      ⟨none, (some 5), .faddr 1 (.t 1)⟩,
      ⟨none, (some 6), .load false 1 (.t 5)⟩,
      ⟨none, (some 7), .call 86 [(.t 4), (.c (.int .i64 0)), (.t 6)]⟩,
      ⟨none, (some 8), .mv (.t 7)⟩,
      ⟨(some (8, true)), (some 9), .faddr 1 (.t 1)⟩,
      ⟨(some (8, true)), (some 10), .load false 1 (.t 9)⟩,
      ⟨(some (8, true)), (some 11), .bin .leq (.t 10) (.c (.int .i64 99999))⟩,
      ⟨none, (some 12), .pick (.t 8) (.t 11) (.c (.bool false))⟩,
      ⟨none, (some 2), .mv (.t 12)⟩])
    .ret))
theorem ok88 : FnOk Try.prog 88 13 1 c88 [.t 2] := ⟨_, _, Try.func88, rfl, rfl, by kernel_rfl, by kernel_rfl⟩
theorem bd88 : bodied Try.prog 88 = true := by kernel_rfl

/-- ferrule/gusts.each[int] -/
def c89 : CI := (.seq (.reg [⟨none, (some 4), .mv (.c (.bool false))⟩])
    (.seq (.seq (.reg [⟨none, (some 7), .mv (.t 0)⟩,
      ⟨none, (some 8), .len (.t 7)⟩,
      ⟨none, (some 9), .mv (.c (.int .i64 0))⟩])
    (.block 0 (.loop (.seq (.reg [⟨none, (some 10), .bin .lss (.t 9) (.t 8)⟩])
    (.seq (.cond (.t 10) .skip
    (.exit 0))
    (.seq (.block 1 (.seq (.reg [⟨none, (some 11), .iaddr 1 (.t 7) (.t 9)⟩,
      ⟨none, (some 12), .load false 1 (.t 11)⟩,
      ⟨none, (some 6), .mv (.t 12)⟩])
    (.seq (.reg [⟨none, (some 13), .mv (.t 1)⟩,
      ⟨none, (some 14), .mv (.t 6)⟩,
      ⟨none, (some 15), .callx (.t 13) [(.t 14)]⟩,
      ⟨none, (some 16), .un .not (.t 15)⟩])
    (.cond (.t 16) (.seq (.reg [⟨none, (some 4), .mv (.c (.bool false))⟩])
    .ret)
    .skip))))
    (.reg [⟨none, (some 17), .bin .add (.t 9) (.c (.int .i64 1))⟩,
      ⟨none, (some 9), .mv (.t 17)⟩])))))))
    (.seq (.reg [⟨none, (some 4), .mv (.c (.bool true))⟩])
    .ret)))
theorem ok89 : FnOk Try.prog 89 18 0 c89 [.t 4] := ⟨_, _, Try.func89, rfl, rfl, by kernel_rfl, by kernel_rfl⟩
theorem bd89 : bodied Try.prog 89 = true := by kernel_rfl

/-- ferrule/gusts.validDome$1 -/
def c90 : CI := (.seq (.reg [⟨none, (some 2), .mv (.c (.bool false))⟩])
    (.seq (.reg [⟨none, (some 3), .mv (.t 0)⟩,
      ⟨none, (some 4), .call 86 [(.t 3), (.c (.int .i64 0)), (.c (.int .i64 99))]⟩,
      ⟨none, (some 2), .mv (.t 4)⟩])
    .ret))
theorem ok90 : FnOk Try.prog 90 5 0 c90 [.t 2] := ⟨_, _, Try.func90, rfl, rfl, by kernel_rfl, by kernel_rfl⟩
theorem bd90 : bodied Try.prog 90 = true := by kernel_rfl

/-- ferrule/gusts.checkGusts$1 -/
def c91 : CI := (.seq (.reg [⟨none, (some 2), .box 0 true (.t 0)⟩,
      ⟨none, (some 3), .mv (.c (.bool false))⟩])
    (.seq (.reg [⟨none, (some 4), .faddr 0 (.t 2)⟩,
      ⟨none, (some 5), .load false 1 (.t 4)⟩,
      ⟨none, (some 6), .call 86 [(.t 5), (.c (.int .i64 0)), (.c (.int .i64 99))]⟩,
      ⟨none, (some 7), .mv (.t 6)⟩,
      ⟨(some (7, true)), (some 8), .faddr 1 (.t 2)⟩,
      ⟨(some (7, true)), (some 9), .load false 1 (.t 8)⟩,
      ⟨(some (7, true)), (some 10), .faddr 7 (.t 1)⟩,
      ⟨(some (7, true)), (some 11), .load false 1 (.t 10)⟩,
      ⟨(some (7, true)), (some 12), .len (.t 11)⟩,
      ⟨(some (7, true)), (some 13), .bin .sub (.t 12) (.c (.int .i64 1))⟩,
      ⟨(some (7, true)), (some 14), .call 86 [(.t 9), (.c (.int .i64 0)), (.t 13)]⟩,
      ⟨none, (some 15), .pick (.t 7) (.t 14) (.c (.bool false))⟩,
      ⟨none, (some 3), .mv (.t 15)⟩])
    .ret))
theorem ok91 : FnOk Try.prog 91 16 1 c91 [.t 3] := ⟨_, _, Try.func91, rfl, rfl, by kernel_rfl, by kernel_rfl⟩
theorem bd91 : bodied Try.prog 91 = true := by kernel_rfl

/-- (ferrule/gusts.truth).rounds$1 -/
def c92 : CI := (.seq (.reg [⟨none, (some 8), .faddr 1 (.t 1)⟩,
      ⟨none, (some 9), .load false 1 (.t 8)⟩,
      ⟨none, (some 10), .len (.t 9)⟩,
      ⟨none, (some 11), .mks 0 4 1 1 [(.bool false)] (.t 10) (.t 10)⟩,
      ⟨none, (some 4), .alloc 1 [.nils]⟩,
      ⟨none, none, .stz false 1 (.t 4) (.t 11) []⟩])
    (.block 0 (.loop (.block 1 (.seq (.reg [⟨none, (some 12), .load false 1 (.t 4)⟩,
      ⟨none, (some 13), .len (.t 12)⟩,
      ⟨none, (some 14), .mkfn 93 [(.t 4), (.t 1), (.t 2)]⟩,
      ⟨none, (some 15), .callw 2 1 49 [(.t 13), (.t 14)]⟩,
      ⟨none, (some 5), .mv (.t 15)⟩])
    (.seq (.seq (.reg [⟨none, (some 16), .mv (.t 5)⟩,
      ⟨none, (some 17), .len (.t 16)⟩,
      ⟨none, (some 18), .bin .eql (.t 17) (.c (.int .i64 0))⟩,
      ⟨none, (some 19), .mv (.t 18)⟩,
      ⟨(some (19, false)), (some 20), .mv (.t 0)⟩,
      ⟨(some (19, false)), (some 21), .mv (.t 5)⟩,
      ⟨(some (19, false)), (some 22), .callx (.t 20) [(.t 21)]⟩,
      ⟨(some (19, false)), (some 23), .un .not (.t 22)⟩,
      ⟨none, (some 24), .pick (.t 19) (.c (.bool true)) (.t 23)⟩])
    (.cond (.t 24) .ret
    .skip))
    (.seq (.reg [⟨none, (some 25), .mv (.t 5)⟩,
      ⟨none, (some 26), .len (.t 25)⟩,
      ⟨none, (some 27), .mv (.c (.int .i64 0))⟩])
    (.block 2 (.loop (.seq (.reg [⟨none, (some 28), .bin .lss (.t 27) (.t 26)⟩])
    (.seq (.cond (.t 28) .skip
    (.exit 2))
    (.seq (.block 3 (.seq (.reg [⟨none, (some 29), .iaddr 1 (.t 25) (.t 27)⟩,
      ⟨none, (some 30), .load false 1 (.t 29)⟩,
      ⟨none, (some 7), .mv (.t 30)⟩])
    (.reg [⟨none, (some 31), .load false 1 (.t 4)⟩,
      ⟨none, (some 32), .mv (.t 7)⟩,
      ⟨none, (some 33), .iaddr 1 (.t 31) (.t 32)⟩,
      ⟨none, none, .store false 1 (.t 33) (.c (.bool true)) []⟩])))
    (.reg [⟨none, (some 34), .bin .add (.t 27) (.c (.int .i64 1))⟩,
      ⟨none, (some 27), .mv (.t 34)⟩])))))))))))))
theorem ok92 : FnOk Try.prog 92 35 3 c92 [] := ⟨_, _, Try.func92, rfl, rfl, by kernel_rfl, by kernel_rfl⟩
theorem bd92 : bodied Try.prog 92 = true := by kernel_rfl

/-- (ferrule/gusts.truth).rounds$1$1 -/
def c93 : CI := (.seq (.reg [⟨none, (some 5), .mv (.c (.bool false))⟩])
    (.seq (.reg [⟨none, (some 6), .load false 1 (.t 1)⟩,
      ⟨none, (some 7), .mv (.t 0)⟩,
      ⟨none, (some 8), .iaddr 1 (.t 6) (.t 7)⟩,
      ⟨none, (some 9), .load false 1 (.t 8)⟩,
      ⟨none, (some 10), .un .not (.t 9)⟩,
      ⟨none, (some 11), .mv (.t 10)⟩,
      ⟨(some (11, true)), (some 12), .load true 3 (.t 2)⟩,
      ⟨(some (11, true)), (some 13), .load true 2 (.t 3)⟩,
      ⟨(some (11, true)), (some 14), .mv (.t 0)⟩,
      ⟨(some (11, true)), (some 16), .load true 3 (.t 2)⟩,
      ⟨(some (11, true)), (some 17), .load true 2 (.t 3)⟩,
      ⟨(some (11, true)), (some 18), .load false 1 (.t 1)⟩,
      ⟨(some (11, true)), (some 19), .mv (.t 0)⟩,
      ⟨(some (11, true)), (some 22), .faddr 1 (.t 2)⟩,
      ⟨(some (11, true)), (some 23), .load false 1 (.t 22)⟩,
      ⟨(some (11, true)), (some 24), .mv (.t 0)⟩,
      ⟨(some (11, true)), (some 25), .iaddr 1 (.t 23) (.t 24)⟩,
      ⟨(some (11, true)), (some 26), .load false 1 (.t 25)⟩,
      ⟨(some (11, true)), (some 15), .call 42 [(.t 12), (.t 13), (.t 14)]⟩,
      ⟨(some (11, true)), (some 20), .call 94 [(.t 16), (.t 17), (.t 18), (.t 19)]⟩,
      ⟨(some (11, true)), (some 21), .bin .add (.t 15) (.t 20)⟩,
      ⟨(some (11, true)), (some 27), .bin .gtr (.t 21) (.t 26)⟩,
      ⟨none, (some 28), .pick (.t 11) (.t 27) (.c (.bool false))⟩,
      ⟨none, (some 5), .mv (.t 28)⟩])
    .ret))
theorem ok93 : FnOk Try.prog 93 29 0 c93 [.t 5] := ⟨_, _, Try.func93, rfl, rfl, by kernel_rfl, by kernel_rfl⟩
theorem bd93 : bodied Try.prog 93 = true := by kernel_rfl

/-- (ferrule/gusts.truth).handed -/
def c94 : CI := (.seq (.reg [⟨none, (some 4), .box 0 true (.t 0)⟩,
      ⟨none, (some 5), .box 1 true (.t 1)⟩,
      ⟨none, (some 8), .mv (.c (.int .i64 0))⟩])
    (.seq (.reg [⟨none, (some 9), .mv (.c (.int .i64 0))⟩])
    (.seq (.seq (.reg [⟨none, (some 14), .build [(.int .i64 0), (.int .i64 0)] [(0, 1, (.c (.int .i64 (-1)))), (1, 1, (.c (.int .i64 1)))]⟩,
      ⟨none, (some 15), .mv (.c (.int .i64 0))⟩])
    (.block 0 (.loop (.seq (.reg [⟨none, (some 16), .bin .lss (.t 15) (.c (.int .i64 2))⟩])
    (.seq (.cond (.t 16) .skip
    (.exit 0))
    (.seq (.block 1 (.seq (.reg [⟨none, (some 17), .aidx false 1 2 (.t 14) (.t 15)⟩,
      ⟨none, (some 11), .mv (.t 17)⟩])
    (.seq (.reg [⟨none, (some 12), .mv (.c (.int .i64 0))⟩])
    (.seq (.seq (.reg [⟨none, (some 18), .load true 3 (.t 4)⟩,
      ⟨none, (some 19), .mv (.t 3)⟩,
      ⟨none, (some 20), .mv (.t 11)⟩,
      ⟨none, (some 21), .bin .add (.t 19) (.t 20)⟩,
      ⟨none, (some 22), .call 67 [(.t 18), (.t 21)]⟩,
      ⟨none, (some 13), .mv (.t 22)⟩])
    (.block 2 (.loop (.seq (.seq (.reg [⟨none, (some 23), .mv (.t 2)⟩,
      ⟨none, (some 24), .mv (.t 13)⟩,
      ⟨none, (some 25), .iaddr 1 (.t 23) (.t 24)⟩,
      ⟨none, (some 26), .load false 1 (.t 25)⟩])
    (.cond (.t 26) .skip
    (.exit 2)))
    (.seq (.block 3 (.reg [⟨none, (some 32), .mv (.t 12)⟩,
      ⟨none, (some 33), .load true 3 (.t 4)⟩,
      ⟨none, (some 34), .load true 2 (.t 5)⟩,
      ⟨none, (some 35), .mv (.t 13)⟩,
      ⟨none, (some 36), .call 42 [(.t 33), (.t 34), (.t 35)]⟩,
      ⟨none, (some 37), .bin .add (.t 32) (.t 36)⟩,
      ⟨none, (some 12), .mv (.t 37)⟩]))
    (.reg [⟨none, (some 27), .load true 3 (.t 4)⟩,
      ⟨none, (some 28), .mv (.t 13)⟩,
      ⟨none, (some 29), .mv (.t 11)⟩,
      ⟨none, (some 30), .bin .add (.t 28) (.t 29)⟩,
      ⟨none, (some 31), .call 67 [(.t 27), (.t 30)]⟩,
      ⟨none, (some 13), .mv (.t 31)⟩]))))))
    (.reg [⟨none, (some 38), .mv (.t 9)⟩,
      ⟨none, (some 39), .mv (.t 12)⟩,
      ⟨none, (some 40), .bin .quo (.t 39) (.c (.int .i64 2))⟩,
      ⟨none, (some 41), .bin .add (.t 38) (.t 40)⟩,
      ⟨none, (some 9), .mv (.t 41)⟩])))))
    (.reg [⟨none, (some 42), .bin .add (.t 15) (.c (.int .i64 1))⟩,
      ⟨none, (some 15), .mv (.t 42)⟩])))))))
    (.seq (.reg [⟨none, (some 43), .mv (.t 9)⟩,
      ⟨none, (some 8), .mv (.t 43)⟩])
    .ret))))
theorem ok94 : FnOk Try.prog 94 44 2 c94 [.t 8] := ⟨_, _, Try.func94, rfl, rfl, by kernel_rfl, by kernel_rfl⟩
theorem bd94 : bodied Try.prog 94 = true := by kernel_rfl

/-- slices.pdqsortOrdered[int] -/
def c95 : CI := (.seq (.reg [⟨none, (some 8), .mv (.c (.bool true))⟩])
    (.seq (.reg [⟨none, (some 9), .mv (.c (.bool true))⟩])
    (.block 0 (.loop (.block 1 (.seq (.reg [⟨none, (some 19), .mv (.t 2)⟩,
      ⟨none, (some 20), .mv (.t 1)⟩,
      ⟨none, (some 21), .bin .sub (.t 19) (.t 20)⟩,
      ⟨none, (some 10), .mv (.t 21)⟩])
    (.seq (.seq (.reg [⟨none, (some 22), .mv (.t 10)⟩,
      ⟨none, (some 23), .bin .leq (.t 22) (.c (.int .i64 12))⟩])
    (.cond (.t 23) (.seq (.reg [⟨none, (some 24), .mv (.t 0)⟩,
      ⟨none, (some 25), .mv (.t 1)⟩,
      ⟨none, (some 26), .mv (.t 2)⟩,
      ⟨none, (some 27), .callw 0 0 102 [(.t 24), (.t 25), (.t 26)]⟩])
    .ret)
    .skip))
    (.seq (.seq (.reg [⟨none, (some 28), .mv (.t 3)⟩,
      ⟨none, (some 29), .bin .eql (.t 28) (.c (.int .i64 0))⟩])
    (.cond (.t 29) (.seq (.reg [⟨none, (some 30), .mv (.t 0)⟩,
      ⟨none, (some 31), .mv (.t 1)⟩,
      ⟨none, (some 32), .mv (.t 2)⟩,
      ⟨none, (some 33), .callw 0 0 103 [(.t 30), (.t 31), (.t 32)]⟩])
    .ret)
    .skip))
    (.seq (.seq (.reg [⟨none, (some 34), .mv (.t 8)⟩,
      ⟨none, (some 35), .un .not (.t 34)⟩])
    (.cond (.t 35) (.seq (.reg [⟨none, (some 36), .mv (.t 0)⟩,
      ⟨none, (some 37), .mv (.t 1)⟩,
      ⟨none, (some 38), .mv (.t 2)⟩,
      ⟨none, (some 39), .callw 0 0 104 [(.t 36), (.t 37), (.t 38)]⟩])
    (.reg [⟨none, (some 40), .mv (.t 3)⟩,
      ⟨none, (some 41), .bin .sub (.t 40) (.c (.int .i64 1))⟩,
      ⟨none, (some 3), .mv (.t 41)⟩]))
    .skip))
    (.seq (.reg [⟨none, (some 43), .mv (.t 0)⟩,
      ⟨none, (some 44), .mv (.t 1)⟩,
      ⟨none, (some 45), .mv (.t 2)⟩,
      ⟨none, (some 46), .call 105 [(.t 43), (.t 44), (.t 45)]⟩,
      ⟨none, (some 42), .mv (.t 46)⟩,
      ⟨none, (some 47), .extract 0 (.t 42)⟩,
      ⟨none, (some 48), .extract 1 (.t 42)⟩,
      ⟨none, (some 11), .mv (.t 47)⟩,
      ⟨none, (some 12), .mv (.t 48)⟩])
    (.seq (.seq (.reg [⟨none, (some 49), .mv (.t 12)⟩,
      ⟨none, (some 50), .bin .eql (.t 49) (.c (.int .i64 2))⟩])
    (.cond (.t 50) (.seq (.reg [⟨none, (some 51), .mv (.t 0)⟩,
      ⟨none, (some 52), .mv (.t 1)⟩,
      ⟨none, (some 53), .mv (.t 2)⟩,
      ⟨none, (some 54), .callw 0 0 106 [(.t 51), (.t 52), (.t 53)]⟩])
    (.seq (.reg [⟨none, (some 55), .mv (.t 2)⟩,
      ⟨none, (some 56), .bin .sub (.t 55) (.c (.int .i64 1))⟩,
      ⟨none, (some 57), .mv (.t 11)⟩,
      ⟨none, (some 58), .mv (.t 1)⟩,
      ⟨none, (some 59), .bin .sub (.t 57) (.t 58)⟩,
      ⟨none, (some 60), .bin .sub (.t 56) (.t 59)⟩,
      ⟨none, (some 11), .mv (.t 60)⟩])
    (.reg [⟨none, (some 12), .mv (.c (.int .i64 1))⟩])))
    .skip))
    (.seq (.seq (.reg [⟨none, (some 61), .mv (.t 8)⟩,
      ⟨none, (some 62), .mv (.t 61)⟩,
      ⟨(some (62, true)), (some 63), .mv (.t 9)⟩,
      ⟨none, (some 64), .pick (.t 62) (.t 63) (.c (.bool false))⟩,
      ⟨none, (some 65), .mv (.t 64)⟩,
      ⟨(some (65, true)), (some 66), .mv (.t 12)⟩,
      ⟨(some (65, true)), (some 67), .bin .eql (.t 66) (.c (.int .i64 1))⟩,
      ⟨none, (some 68), .pick (.t 65) (.t 67) (.c (.bool false))⟩])
    (.cond (.t 68) (.seq (.reg [⟨none, (some 69), .mv (.t 0)⟩,
      ⟨none, (some 70), .mv (.t 1)⟩,
      ⟨none, (some 71), .mv (.t 2)⟩,
      ⟨none, (some 72), .call 107 [(.t 69), (.t 70), (.t 71)]⟩])
    (.cond (.t 72) .ret
    .skip))
    .skip))
    (.seq (.seq (.reg [⟨none, (some 73), .mv (.t 1)⟩,
      ⟨none, (some 74), .bin .gtr (.t 73) (.c (.int .i64 0))⟩,
      ⟨none, (some 75), .mv (.t 74)⟩,
      ⟨(some (75, true)), (some 76), .mv (.t 0)⟩,
      ⟨(some (75, true)), (some 77), .mv (.t 1)⟩,
      ⟨(some (75, true)), (some 78), .bin .sub (.t 77) (.c (.int .i64 1))⟩,
      ⟨(some (75, true)), (some 79), .iaddr 1 (.t 76) (.t 78)⟩,
      ⟨(some (75, true)), (some 80), .load false 1 (.t 79)⟩,
      ⟨(some (75, true)), (some 81), .mv (.t 0)⟩,
      ⟨(some (75, true)), (some 82), .mv (.t 11)⟩,
      ⟨(some (75, true)), (some 83), .iaddr 1 (.t 81) (.t 82)⟩,
      ⟨(some (75, true)), (some 84), .load false 1 (.t 83)⟩,
      ⟨(some (75, true)), (some 85), .call 108 [(.t 80), (.t 84)]⟩,
      ⟨(some (75, true)), (some 86), .un .not (.t 85)⟩,
      ⟨none, (some 87), .pick (.t 75) (.t 86) (.c (.bool false))⟩])
    (.cond (.t 87) (.seq (.reg [⟨none, (some 88), .mv (.t 0)⟩,
      ⟨none, (some 89), .mv (.t 1)⟩,
      ⟨none, (some 90), .mv (.t 2)⟩,
      ⟨none, (some 91), .mv (.t 11)⟩,
      ⟨none, (some 92), .call 109 [(.t 88), (.t 89), (.t 90), (.t 91)]⟩,
      ⟨none, (some 13), .mv (.t 92)⟩])
    (.seq (.reg [⟨none, (some 93), .mv (.t 13)⟩,
      ⟨none, (some 1), .mv (.t 93)⟩])
    (.exit 1)))
    .skip))
    (.seq (.reg [⟨none, (some 95), .mv (.t 0)⟩,
      ⟨none, (some 96), .mv (.t 1)⟩,
      ⟨none, (some 97), .mv (.t 2)⟩,
      ⟨none, (some 98), .mv (.t 11)⟩,
      ⟨none, (some 99), .call 110 [(.t 95), (.t 96), (.t 97), (.t 98)]⟩,
      ⟨none, (some 94), .mv (.t 99)⟩,
      ⟨none, (some 100), .extract 0 (.t 94)⟩,
      ⟨none, (some 101), .extract 1 (.t 94)⟩,
      ⟨none, (some 14), .mv (.t 100)⟩,
      ⟨none, (some 15), .mv (.t 101)⟩])
    (.seq (.reg [⟨none, (some 102), .mv (.t 15)⟩,
      ⟨none, (some 9), .mv (.t 102)⟩])
    (.seq (.reg [⟨none, (some 103), .mv (.t 14)⟩,
      ⟨none, (some 104), .mv (.t 1)⟩,
      ⟨none, (some 105), .bin .sub (.t 103) (.t 104)⟩,
      ⟨none, (some 106), .mv (.t 2)⟩,
      ⟨none, (some 107), .mv (.t 14)⟩,
      ⟨none, (some 108), .bin .sub (.t 106) (.t 107)⟩,
      ⟨none, (some 16), .mv (.t 105)⟩,
      ⟨none, (some 17), .mv (.t 108)⟩])
    (.seq (.reg [⟨none, (some 109), .mv (.t 10)⟩,
      ⟨none, (some 110), .bin .quo (.t 109) (.c (.int .i64 8))⟩,
      ⟨none, (some 18), .mv (.t 110)⟩])
    (.seq (.reg [⟨none, (some 111), .mv (.t 16)⟩,
      ⟨none, (some 112), .mv (.t 17)⟩,
      ⟨none, (some 113), .bin .lss (.t 111) (.t 112)⟩])
    (.cond (.t 113) (.seq (.reg [⟨none, (some 114), .mv (.t 16)⟩,
      ⟨none, (some 115), .mv (.t 18)⟩,
      ⟨none, (some 116), .bin .geq (.t 114) (.t 115)⟩,
      ⟨none, (some 8), .mv (.t 116)⟩])
    (.seq (.reg [⟨none, (some 117), .mv (.t 0)⟩,
      ⟨none, (some 118), .mv (.t 1)⟩,
      ⟨none, (some 119), .mv (.t 14)⟩,
      ⟨none, (some 120), .mv (.t 3)⟩,
      ⟨none, (some 121), .callw 0 0 95 [(.t 117), (.t 118), (.t 119), (.t 120)]⟩])
    (.reg [⟨none, (some 122), .mv (.t 14)⟩,
      ⟨none, (some 123), .bin .add (.t 122) (.c (.int .i64 1))⟩,
      ⟨none, (some 1), .mv (.t 123)⟩])))
    (.seq (.reg [⟨none, (some 124), .mv (.t 17)⟩,
      ⟨none, (some 125), .mv (.t 18)⟩,
      ⟨none, (some 126), .bin .geq (.t 124) (.t 125)⟩,
      ⟨none, (some 8), .mv (.t 126)⟩])
    (.seq (.reg [⟨none, (some 127), .mv (.t 0)⟩,
      ⟨none, (some 128), .mv (.t 14)⟩,
      ⟨none, (some 129), .bin .add (.t 128) (.c (.int .i64 1))⟩,
      ⟨none, (some 130), .mv (.t 2)⟩,
      ⟨none, (some 131), .mv (.t 3)⟩,
      ⟨none, (some 132), .callw 0 0 95 [(.t 127), (.t 129), (.t 130), (.t 131)]⟩])
    (.reg [⟨none, (some 133), .mv (.t 14)⟩,
      ⟨none, (some 2), .mv (.t 133)⟩]))))))))))))))))))))))
theorem ok95 : FnOk Try.prog 95 134 0 c95 [] := ⟨_, _, Try.func95, rfl, rfl, by kernel_rfl, by kernel_rfl⟩
theorem bd95 : bodied Try.prog 95 = true := by kernel_rfl

/-- math/bits.Len -/
def c96 : CI := (.seq (.reg [⟨none, (some 2), .mv (.c (.int .i64 0))⟩])
    (.seq (.cond (.c (.bool false)) (.seq (.reg [⟨none, (some 3), .mv (.t 0)⟩,
      ⟨none, (some 4), .conv .u32 (.t 3)⟩,
      ⟨none, (some 5), .call 111 [(.t 4)]⟩,
      ⟨none, (some 2), .mv (.t 5)⟩])
    .ret)
    .skip)
    (.seq (.reg [⟨none, (some 6), .mv (.t 0)⟩,
      ⟨none, (some 7), .call 112 [(.t 6)]⟩,
      ⟨none, (some 2), .mv (.t 7)⟩])
    .ret)))
theorem ok96 : FnOk Try.prog 96 8 0 c96 [.t 2] := ⟨_, _, Try.func96, rfl, rfl, by kernel_rfl, by kernel_rfl⟩
theorem bd96 : bodied Try.prog 96 = true := by kernel_rfl

/-- ferrule/frames.valid -/
def c97 : CI := (.seq (.reg [⟨none, (some 1), .box 0 true (.t 0)⟩,
      ⟨none, (some 2), .mv (.c (.bool false))⟩])
    (.seq (.seq (.reg [⟨none, (some 5), .faddr 0 (.t 1)⟩,
      ⟨none, (some 6), .load false 1 (.t 5)⟩,
      ⟨none, (some 7), .len (.t 6)⟩,
      ⟨none, (some 8), .bin .lss (.t 7) (.c (.int .i64 1))⟩,
      ⟨none, (some 9), .mv (.t 8)⟩,
      ⟨(some (9, false)), (some 10), .faddr 0 (.t 1)⟩,
      ⟨(some (9, false)), (some 11), .load false 1 (.t 10)⟩,
      ⟨(some (9, false)), (some 12), .len (.t 11)⟩,
      ⟨(some (9, false)), (some 13), .bin .gtr (.t 12) (.c (.int .i64 3))⟩,
      ⟨none, (some 14), .pick (.t 9) (.c (.bool true)) (.t 13)⟩])
    (.cond (.t 14) (.seq (.reg [⟨none, (some 2), .mv (.c (.bool false))⟩])
    .ret)
    .skip))
    (.seq (.seq (.reg [⟨none, (some 15), .faddr 0 (.t 1)⟩,
      ⟨none, (some 16), .load false 1 (.t 15)⟩,
      ⟨none, (some 17), .len (.t 16)⟩,
      ⟨none, (some 18), .mv (.c (.int .i64 0))⟩])
    (.block 0 (.loop (.seq (.reg [⟨none, (some 19), .bin .lss (.t 18) (.t 17)⟩])
    (.seq (.cond (.t 19) .skip
    (.exit 0))
    (.seq (.block 1 (.seq (.reg [⟨none, (some 20), .iaddr 7 (.t 16) (.t 18)⟩,
      ⟨none, (some 21), .load true 7 (.t 20)⟩,
      ⟨none, (some 4), .alloc 1 [(.int .i64 0), (.int .i64 0), (.int .i64 0), (.int .i64 0), (.int .i64 0), (.int .i64 0), (.int .i64 0)]⟩,
      ⟨none, none, .store true 7 (.t 4) (.t 21) []⟩])
    (.seq (.reg [⟨none, (some 22), .load true 7 (.t 4)⟩,
      ⟨none, (some 23), .call 113 [(.t 22)]⟩,
      ⟨none, (some 24), .un .not (.t 23)⟩])
    (.cond (.t 24) (.seq (.reg [⟨none, (some 2), .mv (.c (.bool false))⟩])
    .ret)
    .skip))))
    (.reg [⟨none, (some 25), .bin .add (.t 18) (.c (.int .i64 1))⟩,
      ⟨none, (some 18), .mv (.t 25)⟩])))))))
    (.seq (.reg [⟨none, (some 26), .faddr 1 (.t 1)⟩,
      ⟨none, (some 27), .load false 1 (.t 26)⟩,
      ⟨none, (some 28), .faddr 2 (.t 1)⟩,
      ⟨none, (some 29), .load false 1 (.t 28)⟩,
      ⟨none, (some 30), .build [(.int .i64 0), (.int .i64 0)] [(0, 1, (.t 27)), (1, 1, (.t 29))]⟩,
      ⟨none, (some 31), .call 114 [(.t 30), (.c (.int .i64 200))]⟩,
      ⟨none, (some 32), .mv (.t 31)⟩,
      ⟨(some (32, true)), (some 33), .faddr 3 (.t 1)⟩,
      ⟨(some (32, true)), (some 34), .load true 2 (.t 33)⟩,
      ⟨(some (32, true)), (some 35), .call 115 [(.t 34)]⟩,
      ⟨none, (some 36), .pick (.t 32) (.t 35) (.c (.bool false))⟩,
      ⟨none, (some 37), .mv (.t 36)⟩,
      ⟨(some (37, true)), (some 38), .faddr 5 (.t 1)⟩,
      ⟨(some (37, true)), (some 39), .load false 1 (.t 38)⟩,
      ⟨(some (37, true)), (some 40), .call 81 [(.t 39), (.c (.int .i64 0)), (.c (.int .i64 4000))]⟩,
      ⟨none, (some 41), .pick (.t 37) (.t 40) (.c (.bool false))⟩,
      ⟨none, (some 42), .mv (.t 41)⟩,
      ⟨(some (42, true)), (some 43), .faddr 6 (.t 1)⟩,
      ⟨(some (42, true)), (some 44), .load false 1 (.t 43)⟩,
      ⟨(some (42, true)), (some 45), .call 81 [(.t 44), (.c (.int .i64 0)), (.c (.int .i64 4000))]⟩,
      ⟨none, (some 46), .pick (.t 42) (.t 45) (.c (.bool false))⟩,
      ⟨none, (some 2), .mv (.t 46)⟩])
    .ret))))
theorem ok97 : FnOk Try.prog 97 47 2 c97 [.t 2] := ⟨_, _, Try.func97, rfl, rfl, by kernel_rfl, by kernel_rfl⟩
theorem bd97 : bodied Try.prog 97 = true := by kernel_rfl

/-- ferrule/frames.bindsSomewhere$1 -/
def c98 : CI := (.seq (.reg [⟨none, (some 4), .box 0 false (.t 0)⟩,
      ⟨none, (some 5), .box 1 false (.t 1)⟩,
      ⟨none, (some 6), .alloc 2 [(.bool false)]⟩])
    (.seq (.seq (.reg [⟨none, (some 8), .load true 7 (.t 2)⟩,
      ⟨none, (some 9), .callw 3 0 99 [(.t 8)]⟩])
    (.block 0 (.rng (.t 9) [10] (.reg [⟨none, (some 7), .mv (.t 10)⟩])
    (.block 1 (.seq (.reg [⟨none, (some 11), .load true 7 (.t 2)⟩,
      ⟨none, (some 12), .load false 1 (.t 3)⟩,
      ⟨none, (some 13), .mv (.t 7)⟩,
      ⟨none, (some 15), .load false 1 (.t 4)⟩,
      ⟨none, (some 16), .load false 1 (.t 5)⟩,
      ⟨none, (some 14), .callz 3 0 100 [(.t 11), (.t 12), (.t 13)] []⟩,
      ⟨none, (some 17), .callv (.t 14) [(.t 15), (.t 16)]⟩])
    (.cond (.t 17) (.seq (.reg [⟨none, none, .store false 1 (.t 6) (.c (.bool true)) []⟩])
    .ret)
    .skip))))))
    (.seq (.reg [⟨none, none, .store false 1 (.t 6) (.c (.bool false)) []⟩])
    .ret)))
theorem ok98 : FnOk Try.prog 98 18 3 c98 [.cell 6 false 1] := ⟨_, _, Try.func98, rfl, rfl, by kernel_rfl, by kernel_rfl⟩
theorem bd98 : bodied Try.prog 98 = true := by kernel_rfl

/-- ferrule/frames.positions -/
def c99 : CI := (.seq (.reg [⟨none, (some 1), .box 0 true (.t 0)⟩,
      ⟨none, (some 2), .mv (.c (.lit (.nilFunc)))⟩])
    (.seq (.reg [⟨none, (some 3), .mkfn 116 [(.t 1)]⟩,
      ⟨none, (some 2), .mv (.t 3)⟩])
    .ret))
theorem ok99 : FnOk Try.prog 99 4 1 c99 [.t 2] := ⟨_, _, Try.func99, rfl, rfl, by kernel_rfl, by kernel_rfl⟩
theorem bd99 : bodied Try.prog 99 = true := by kernel_rfl

/-- ferrule/frames.bindsAt -/
def c100 : CI := (.seq (.reg [⟨none, (some 3), .box 0 true (.t 0)⟩,
      ⟨none, (some 6), .mv (.c (.lit (.nilFunc)))⟩])
    (.seq (.reg [⟨none, (some 10), .load true 7 (.t 3)⟩,
      ⟨none, (some 11), .mv (.t 1)⟩,
      ⟨none, (some 12), .mv (.t 2)⟩,
      ⟨none, (some 13), .call 58 [(.t 10), (.t 11), (.t 12)]⟩,
      ⟨none, (some 7), .alloc 1 [(.int .i64 0)]⟩,
      ⟨none, none, .store false 1 (.t 7) (.t 13) []⟩])
    (.seq (.reg [⟨none, (some 14), .faddr 3 (.t 3)⟩,
      ⟨none, (some 15), .faddr 1 (.t 14)⟩,
      ⟨none, (some 16), .load false 1 (.t 15)⟩,
      ⟨none, (some 17), .faddr 3 (.t 3)⟩,
      ⟨none, (some 18), .faddr 0 (.t 17)⟩,
      ⟨none, (some 19), .load false 1 (.t 18)⟩,
      ⟨none, (some 20), .bin .sub (.t 16) (.t 19)⟩,
      ⟨none, (some 21), .faddr 3 (.t 3)⟩,
      ⟨none, (some 22), .faddr 1 (.t 21)⟩,
      ⟨none, (some 23), .load false 1 (.t 22)⟩,
      ⟨none, (some 24), .build [(.int .i64 0), (.int .i64 0)] [(0, 1, (.t 20)), (1, 1, (.t 23))]⟩,
      ⟨none, (some 8), .alloc 2 [(.int .i64 0), (.int .i64 0)]⟩,
      ⟨none, none, .store true 2 (.t 8) (.t 24) []⟩])
    (.seq (.reg [⟨none, (some 25), .faddr 0 (.t 8)⟩,
      ⟨none, (some 26), .load false 1 (.t 25)⟩,
      ⟨none, (some 27), .un .neg (.t 26)⟩,
      ⟨none, (some 28), .faddr 1 (.t 8)⟩,
      ⟨none, (some 29), .load false 1 (.t 28)⟩,
      ⟨none, (some 30), .build [(.int .i64 0), (.int .i64 0)] [(0, 1, (.t 27)), (1, 1, (.t 29))]⟩,
      ⟨none, (some 9), .alloc 3 [(.int .i64 0), (.int .i64 0)]⟩,
      ⟨none, none, .store true 2 (.t 9) (.t 30) []⟩])
    (.seq (.reg [⟨none, (some 31), .mkfn 117 [(.t 7), (.t 8), (.t 9)]⟩,
      ⟨none, (some 6), .mv (.t 31)⟩])
    .ret)))))
theorem ok100 : FnOk Try.prog 100 32 4 c100 [.t 6] := ⟨_, _, Try.func100, rfl, rfl, by kernel_rfl, by kernel_rfl⟩
theorem bd100 : bodied Try.prog 100 = true := by kernel_rfl

/-- ferrule/frames.sides$1 -/
def c101 : CI := (.seq (.reg [⟨none, (some 5), .faddr 0 (.t 1)⟩,
      ⟨none, (some 6), .faddr 0 (.t 5)⟩,
      ⟨none, (some 7), .load false 1 (.t 6)⟩,
      ⟨none, (some 3), .mv (.t 7)⟩])
    (.block 0 (.loop (.seq (.seq (.reg [⟨none, (some 8), .mv (.t 3)⟩,
      ⟨none, (some 9), .faddr 0 (.t 1)⟩,
      ⟨none, (some 10), .faddr 1 (.t 9)⟩,
      ⟨none, (some 11), .load false 1 (.t 10)⟩,
      ⟨none, (some 12), .bin .leq (.t 8) (.t 11)⟩])
    (.cond (.t 12) .skip
    (.exit 0)))
    (.seq (.block 1 (.seq (.reg [⟨none, (some 15), .faddr 2 (.t 1)⟩,
      ⟨none, (some 16), .faddr 0 (.t 15)⟩,
      ⟨none, (some 17), .load false 1 (.t 16)⟩,
      ⟨none, (some 4), .mv (.t 17)⟩])
    (.block 2 (.loop (.seq (.seq (.reg [⟨none, (some 18), .mv (.t 4)⟩,
      ⟨none, (some 19), .faddr 2 (.t 1)⟩,
      ⟨none, (some 20), .faddr 1 (.t 19)⟩,
      ⟨none, (some 21), .load false 1 (.t 20)⟩,
      ⟨none, (some 22), .bin .leq (.t 18) (.t 21)⟩])
    (.cond (.t 22) .skip
    (.exit 2)))
    (.seq (.block 3 (.seq (.reg [⟨none, (some 25), .mv (.t 0)⟩,
      ⟨none, (some 26), .mv (.t 3)⟩,
      ⟨none, (some 27), .mv (.t 4)⟩,
      ⟨none, (some 28), .callx (.t 25) [(.t 26), (.t 27)]⟩,
      ⟨none, (some 29), .un .not (.t 28)⟩])
    (.cond (.t 29) .ret
    .skip)))
    (.reg [⟨none, (some 23), .mv (.t 4)⟩,
      ⟨none, (some 24), .bin .add (.t 23) (.c (.int .i64 1))⟩,
      ⟨none, (some 4), .mv (.t 24)⟩])))))))
    (.reg [⟨none, (some 13), .mv (.t 3)⟩,
      ⟨none, (some 14), .bin .add (.t 13) (.c (.int .i64 1))⟩,
      ⟨none, (some 3), .mv (.t 14)⟩]))))))
theorem ok101 : FnOk Try.prog 101 30 0 c101 [] := ⟨_, _, Try.func101, rfl, rfl, by kernel_rfl, by kernel_rfl⟩
theorem bd101 : bodied Try.prog 101 = true := by kernel_rfl

/-- slices.insertionSortOrdered[int] -/
def c102 : CI := (.seq (.reg [⟨none, (some 8), .mv (.t 1)⟩,
      ⟨none, (some 9), .bin .add (.t 8) (.c (.int .i64 1))⟩,
      ⟨none, (some 6), .mv (.t 9)⟩])
    (.block 0 (.loop (.seq (.seq (.reg [⟨none, (some 10), .mv (.t 6)⟩,
      ⟨none, (some 11), .mv (.t 2)⟩,
      ⟨none, (some 12), .bin .lss (.t 10) (.t 11)⟩])
    (.cond (.t 12) .skip
    (.exit 0)))
    (.seq (.block 1 (.seq (.reg [⟨none, (some 15), .mv (.t 6)⟩,
      ⟨none, (some 7), .mv (.t 15)⟩])
    (.block 2 (.loop (.seq (.seq (.reg [⟨none, (some 16), .mv (.t 7)⟩,
      ⟨none, (some 17), .mv (.t 1)⟩,
      ⟨none, (some 18), .bin .gtr (.t 16) (.t 17)⟩,
      ⟨none, (some 19), .mv (.t 18)⟩,
      ⟨(some (19, true)), (some 20), .mv (.t 0)⟩,
      ⟨(some (19, true)), (some 21), .mv (.t 7)⟩,
      ⟨(some (19, true)), (some 22), .iaddr 1 (.t 20) (.t 21)⟩,
      ⟨(some (19, true)), (some 23), .load false 1 (.t 22)⟩,
      ⟨(some (19, true)), (some 24), .mv (.t 0)⟩,
      ⟨(some (19, true)), (some 25), .mv (.t 7)⟩,
      ⟨(some (19, true)), (some 26), .bin .sub (.t 25) (.c (.int .i64 1))⟩,
      ⟨(some (19, true)), (some 27), .iaddr 1 (.t 24) (.t 26)⟩,
      ⟨(some (19, true)), (some 28), .load false 1 (.t 27)⟩,
      ⟨(some (19, true)), (some 29), .call 108 [(.t 23), (.t 28)]⟩,
      ⟨none, (some 30), .pick (.t 19) (.t 29) (.c (.bool false))⟩])
    (.cond (.t 30) .skip
    (.exit 2)))
    (.seq (.block 3 (.reg [⟨none, (some 33), .mv (.t 0)⟩,
      ⟨none, (some 34), .mv (.t 7)⟩,
      ⟨none, (some 35), .mv (.t 0)⟩,
      ⟨none, (some 36), .mv (.t 7)⟩,
      ⟨none, (some 37), .bin .sub (.t 36) (.c (.int .i64 1))⟩,
      ⟨none, (some 38), .mv (.t 0)⟩,
      ⟨none, (some 39), .mv (.t 7)⟩,
      ⟨none, (some 40), .bin .sub (.t 39) (.c (.int .i64 1))⟩,
      ⟨none, (some 41), .iaddr 1 (.t 38) (.t 40)⟩,
      ⟨none, (some 42), .load false 1 (.t 41)⟩,
      ⟨none, (some 43), .mv (.t 0)⟩,
      ⟨none, (some 44), .mv (.t 7)⟩,
      ⟨none, (some 45), .iaddr 1 (.t 43) (.t 44)⟩,
      ⟨none, (some 46), .load false 1 (.t 45)⟩,
      ⟨none, (some 47), .iaddr 1 (.t 33) (.t 34)⟩,
      ⟨none, none, .store false 1 (.t 47) (.t 42) []⟩,
      ⟨none, (some 48), .iaddr 1 (.t 35) (.t 37)⟩,
      ⟨none, none, .store false 1 (.t 48) (.t 46) []⟩]))
    (.reg [⟨none, (some 31), .mv (.t 7)⟩,
      ⟨none, (some 32), .bin .sub (.t 31) (.c (.int .i64 1))⟩,
      ⟨none, (some 7), .mv (.t 32)⟩])))))))
    (.reg [⟨none, (some 13), .mv (.t 6)⟩,
      ⟨none, (some 14), .bin .add (.t 13) (.c (.int .i64 1))⟩,
      ⟨none, (some 6), .mv (.t 14)⟩]))))))
theorem ok102 : FnOk Try.prog 102 49 0 c102 [] := ⟨_, _, Try.func102, rfl, rfl, by kernel_rfl, by kernel_rfl⟩
theorem bd102 : bodied Try.prog 102 = true := by kernel_rfl

/-- cmp.Less[int] -/
def c108 : CI := (.seq (.reg [⟨none, (some 4), .mv (.c (.bool false))⟩])
    (.seq (.reg [⟨none, (some 5), .mv (.t 0)⟩,
      ⟨none, (some 6), .call 123 [(.t 5)]⟩,
      ⟨none, (some 7), .mv (.t 6)⟩,
      ⟨(some (7, true)), (some 8), .mv (.t 1)⟩,
      ⟨(some (7, true)), (some 9), .call 123 [(.t 8)]⟩,
      ⟨(some (7, true)), (some 10), .un .not (.t 9)⟩,
      ⟨none, (some 11), .pick (.t 7) (.t 10) (.c (.bool false))⟩,
      ⟨none, (some 12), .mv (.t 11)⟩,
      ⟨(some (12, false)), (some 13), .mv (.t 0)⟩,
      ⟨(some (12, false)), (some 14), .mv (.t 1)⟩,
      ⟨(some (12, false)), (some 15), .bin .lss (.t 13) (.t 14)⟩,
      ⟨none, (some 16), .pick (.t 12) (.c (.bool true)) (.t 15)⟩,
      ⟨none, (some 4), .mv (.t 16)⟩])
    .ret))
theorem ok108 : FnOk Try.prog 108 17 0 c108 [.t 4] := ⟨_, _, Try.func108, rfl, rfl, by kernel_rfl, by kernel_rfl⟩
theorem bd108 : bodied Try.prog 108 = true := by kernel_rfl

/-- math/bits.Len32 -/
def c111 : CI := (.seq (.reg [⟨none, (some 2), .mv (.c (.int .i64 0))⟩])
    (.seq (.seq (.reg [⟨none, (some 3), .mv (.t 0)⟩,
      ⟨none, (some 4), .bin .geq (.t 3) (.c (.int .u32 65536))⟩])
    (.cond (.t 4) (.seq (.reg [⟨none, (some 5), .mv (.t 0)⟩,
      ⟨none, (some 6), .bin .shr (.t 5) (.c (.int .u64 16))⟩,
      ⟨none, (some 0), .mv (.t 6)⟩])
    (.reg [⟨none, (some 2), .mv (.c (.int .i64 16))⟩]))
    .skip))
    (.seq (.seq (.reg [⟨none, (some 7), .mv (.t 0)⟩,
      ⟨none, (some 8), .bin .geq (.t 7) (.c (.int .u32 256))⟩])
    (.cond (.t 8) (.seq (.reg [⟨none, (some 9), .mv (.t 0)⟩,
      ⟨none, (some 10), .bin .shr (.t 9) (.c (.int .u64 8))⟩,
      ⟨none, (some 0), .mv (.t 10)⟩])
    (.reg [⟨none, (some 11), .mv (.t 2)⟩,
      ⟨none, (some 12), .bin .add (.t 11) (.c (.int .i64 8))⟩,
      ⟨none, (some 2), .mv (.t 12)⟩]))
    .skip))
    (.seq (.reg [⟨none, (some 13), .mv (.t 2)⟩,
      ⟨none, (some 14), .mv (.t 0)⟩,
      ⟨none, (some 15), .conv .u8 (.t 14)⟩,
      ⟨none, (some 16), .sidx (.c (.str [0, 1, 2, 2, 3, 3, 3, 3, 4, 4, 4, 4, 4, 4, 4, 4, 5, 5, 5, 5, 5, 5, 5, 5, 5, 5, 5, 5, 5, 5, 5, 5, 6, 6, 6, 6, 6, 6, 6, 6, 6, 6, 6, 6, 6, 6, 6, 6, 6, 6, 6, 6, 6, 6, 6, 6, 6, 6, 6, 6, 6, 6, 6, 6, 7, 7, 7, 7, 7, 7, 7, 7, 7, 7, 7, 7, 7, 7, 7, 7, 7, 7, 7, 7, 7, 7, 7, 7, 7, 7, 7, 7, 7, 7, 7, 7, 7, 7, 7, 7, 7, 7, 7, 7, 7, 7, 7, 7, 7, 7, 7, 7, 7, 7, 7, 7, 7, 7, 7, 7, 7, 7, 7, 7, 7, 7, 7, 7, 8, 8, 8, 8, 8, 8, 8, 8, 8, 8, 8, 8, 8, 8, 8, 8, 8, 8, 8, 8, 8, 8, 8, 8, 8, 8, 8, 8, 8, 8, 8, 8, 8, 8, 8, 8, 8, 8, 8, 8, 8, 8, 8, 8, 8, 8, 8, 8, 8, 8, 8, 8, 8, 8, 8, 8, 8, 8, 8, 8, 8, 8, 8, 8, 8, 8, 8, 8, 8, 8, 8, 8, 8, 8, 8, 8, 8, 8, 8, 8, 8, 8, 8, 8, 8, 8, 8, 8, 8, 8, 8, 8, 8, 8, 8, 8, 8, 8, 8, 8, 8, 8, 8, 8, 8, 8, 8, 8, 8, 8, 8, 8, 8, 8, 8, 8, 8, 8, 8, 8, 8, 8, 8, 8, 8, 8, 8, 8])) (.t 15)⟩,
      ⟨none, (some 17), .conv .i64 (.t 16)⟩,
      ⟨none, (some 18), .bin .add (.t 13) (.t 17)⟩,
      ⟨none, (some 2), .mv (.t 18)⟩])
    .ret))))
theorem ok111 : FnOk Try.prog 111 19 0 c111 [.t 2] := ⟨_, _, Try.func111, rfl, rfl, by kernel_rfl, by kernel_rfl⟩
theorem bd111 : bodied Try.prog 111 = true := by kernel_rfl

/-- math/bits.Len64 -/
def c112 : CI := (.seq (.reg [⟨none, (some 2), .mv (.c (.int .i64 0))⟩])
    (.seq (.seq (.reg [⟨none, (some 3), .mv (.t 0)⟩,
      ⟨none, (some 4), .bin .geq (.t 3) (.c (.int .u64 4294967296))⟩])
    (.cond (.t 4) (.seq (.reg [⟨none, (some 5), .mv (.t 0)⟩,
      ⟨none, (some 6), .bin .shr (.t 5) (.c (.int .u64 32))⟩,
      ⟨none, (some 0), .mv (.t 6)⟩])
    (.reg [⟨none, (some 2), .mv (.c (.int .i64 32))⟩]))
    .skip))
    (.seq (.seq (.reg [⟨none, (some 7), .mv (.t 0)⟩,
      ⟨none, (some 8), .bin .geq (.t 7) (.c (.int .u64 65536))⟩])
    (.cond (.t 8) (.seq (.reg [⟨none, (some 9), .mv (.t 0)⟩,
      ⟨none, (some 10), .bin .shr (.t 9) (.c (.int .u64 16))⟩,
      ⟨none, (some 0), .mv (.t 10)⟩])
    (.reg [⟨none, (some 11), .mv (.t 2)⟩,
      ⟨none, (some 12), .bin .add (.t 11) (.c (.int .i64 16))⟩,
      ⟨none, (some 2), .mv (.t 12)⟩]))
    .skip))
    (.seq (.seq (.reg [⟨none, (some 13), .mv (.t 0)⟩,
      ⟨none, (some 14), .bin .geq (.t 13) (.c (.int .u64 256))⟩])
    (.cond (.t 14) (.seq (.reg [⟨none, (some 15), .mv (.t 0)⟩,
      ⟨none, (some 16), .bin .shr (.t 15) (.c (.int .u64 8))⟩,
      ⟨none, (some 0), .mv (.t 16)⟩])
    (.reg [⟨none, (some 17), .mv (.t 2)⟩,
      ⟨none, (some 18), .bin .add (.t 17) (.c (.int .i64 8))⟩,
      ⟨none, (some 2), .mv (.t 18)⟩]))
    .skip))
    (.seq (.reg [⟨none, (some 19), .mv (.t 2)⟩,
      ⟨none, (some 20), .mv (.t 0)⟩,
      ⟨none, (some 21), .conv .u8 (.t 20)⟩,
      ⟨none, (some 22), .sidx (.c (.str [0, 1, 2, 2, 3, 3, 3, 3, 4, 4, 4, 4, 4, 4, 4, 4, 5, 5, 5, 5, 5, 5, 5, 5, 5, 5, 5, 5, 5, 5, 5, 5, 6, 6, 6, 6, 6, 6, 6, 6, 6, 6, 6, 6, 6, 6, 6, 6, 6, 6, 6, 6, 6, 6, 6, 6, 6, 6, 6, 6, 6, 6, 6, 6, 7, 7, 7, 7, 7, 7, 7, 7, 7, 7, 7, 7, 7, 7, 7, 7, 7, 7, 7, 7, 7, 7, 7, 7, 7, 7, 7, 7, 7, 7, 7, 7, 7, 7, 7, 7, 7, 7, 7, 7, 7, 7, 7, 7, 7, 7, 7, 7, 7, 7, 7, 7, 7, 7, 7, 7, 7, 7, 7, 7, 7, 7, 7, 7, 8, 8, 8, 8, 8, 8, 8, 8, 8, 8, 8, 8, 8, 8, 8, 8, 8, 8, 8, 8, 8, 8, 8, 8, 8, 8, 8, 8, 8, 8, 8, 8, 8, 8, 8, 8, 8, 8, 8, 8, 8, 8, 8, 8, 8, 8, 8, 8, 8, 8, 8, 8, 8, 8, 8, 8, 8, 8, 8, 8, 8, 8, 8, 8, 8, 8, 8, 8, 8, 8, 8, 8, 8, 8, 8, 8, 8, 8, 8, 8, 8, 8, 8, 8, 8, 8, 8, 8, 8, 8, 8, 8, 8, 8, 8, 8, 8, 8, 8, 8, 8, 8, 8, 8, 8, 8, 8, 8, 8, 8, 8, 8, 8, 8, 8, 8, 8, 8, 8, 8, 8, 8, 8, 8, 8, 8, 8, 8])) (.t 21)⟩,
      ⟨none, (some 23), .conv .i64 (.t 22)⟩,
      ⟨none, (some 24), .bin .add (.t 19) (.t 23)⟩,
      ⟨none, (some 2), .mv (.t 24)⟩])
    .ret)))))
theorem ok112 : FnOk Try.prog 112 25 0 c112 [.t 2] := ⟨_, _, Try.func112, rfl, rfl, by kernel_rfl, by kernel_rfl⟩
theorem bd112 : bodied Try.prog 112 = true := by kernel_rfl

/-- ferrule/frames.validSection -/
def c113 : CI := (.seq (.reg [⟨none, (some 1), .box 0 true (.t 0)⟩,
      ⟨none, (some 2), .mv (.c (.bool false))⟩])
    (.seq (.reg [⟨none, (some 3), .faddr 0 (.t 1)⟩,
      ⟨none, (some 4), .load true 2 (.t 3)⟩,
      ⟨none, (some 5), .call 114 [(.t 4), (.c (.int .i64 6))]⟩,
      ⟨none, (some 6), .mv (.t 5)⟩,
      ⟨(some (6, true)), (some 7), .faddr 2 (.t 1)⟩,
      ⟨(some (6, true)), (some 8), .load true 2 (.t 7)⟩,
      ⟨(some (6, true)), (some 9), .call 114 [(.t 8), (.c (.int .i64 6))]⟩,
      ⟨none, (some 10), .pick (.t 6) (.t 9) (.c (.bool false))⟩,
      ⟨none, (some 11), .mv (.t 10)⟩,
      ⟨(some (11, true)), (some 12), .faddr 4 (.t 1)⟩,
      ⟨(some (11, true)), (some 13), .load false 1 (.t 12)⟩,
      ⟨(some (11, true)), (some 14), .call 81 [(.t 13), (.c (.int .i64 0)), (.c (.int .i64 2000))]⟩,
      ⟨none, (some 15), .pick (.t 11) (.t 14) (.c (.bool false))⟩,
      ⟨none, (some 16), .mv (.t 15)⟩,
      ⟨(some (16, true)), (some 17), .faddr 5 (.t 1)⟩,
      ⟨(some (16, true)), (some 18), .load true 2 (.t 17)⟩,
      ⟨(some (16, true)), (some 19), .call 115 [(.t 18)]⟩,
      ⟨none, (some 20), .pick (.t 16) (.t 19) (.c (.bool false))⟩,
      ⟨none, (some 2), .mv (.t 20)⟩])
    .ret))
theorem ok113 : FnOk Try.prog 113 21 1 c113 [.t 2] := ⟨_, _, Try.func113, rfl, rfl, by kernel_rfl, by kernel_rfl⟩
theorem bd113 : bodied Try.prog 113 = true := by kernel_rfl

/-- ferrule/frames.validSpan -/
def c114 : CI := (.seq (.reg [⟨none, (some 2), .box 0 true (.t 0)⟩,
      ⟨none, (some 4), .mv (.c (.bool false))⟩])
    (.seq (.reg [⟨none, (some 5), .faddr 0 (.t 2)⟩,
      ⟨none, (some 6), .load false 1 (.t 5)⟩,
      ⟨none, (some 7), .faddr 1 (.t 2)⟩,
      ⟨none, (some 8), .load false 1 (.t 7)⟩,
      ⟨none, (some 9), .call 81 [(.t 6), (.c (.int .i64 1)), (.t 8)]⟩,
      ⟨none, (some 10), .mv (.t 9)⟩,
      ⟨(some (10, true)), (some 11), .faddr 1 (.t 2)⟩,
      ⟨(some (10, true)), (some 12), .load false 1 (.t 11)⟩,
      ⟨(some (10, true)), (some 13), .bin .leq (.t 12) (.c (.int .i64 2000))⟩,
      ⟨none, (some 14), .pick (.t 10) (.t 13) (.c (.bool false))⟩,
      ⟨none, (some 15), .mv (.t 14)⟩,
      ⟨(some (15, true)), (some 16), .faddr 1 (.t 2)⟩,
      ⟨(some (15, true)), (some 17), .load false 1 (.t 16)⟩,
      ⟨(some (15, true)), (some 18), .faddr 0 (.t 2)⟩,
      ⟨(some (15, true)), (some 19), .load false 1 (.t 18)⟩,
      ⟨(some (15, true)), (some 20), .bin .sub (.t 17) (.t 19)⟩,
      ⟨(some (15, true)), (some 21), .mv (.t 1)⟩,
      ⟨(some (15, true)), (some 22), .bin .leq (.t 20) (.t 21)⟩,
      ⟨none, (some 23), .pick (.t 15) (.t 22) (.c (.bool false))⟩,
      ⟨none, (some 4), .mv (.t 23)⟩])
    .ret))
theorem ok114 : FnOk Try.prog 114 24 1 c114 [.t 4] := ⟨_, _, Try.func114, rfl, rfl, by kernel_rfl, by kernel_rfl⟩
theorem bd114 : bodied Try.prog 114 = true := by kernel_rfl

/-- ferrule/frames.validPart -/
def c115 : CI := (.seq (.reg [⟨none, (some 1), .box 0 true (.t 0)⟩,
      ⟨none, (some 2), .mv (.c (.bool false))⟩])
    (.seq (.reg [⟨none, (some 3), .faddr 1 (.t 1)⟩,
      ⟨none, (some 4), .load false 1 (.t 3)⟩,
      ⟨none, (some 5), .call 81 [(.t 4), (.c (.int .i64 1)), (.c (.int .i64 20))]⟩,
      ⟨none, (some 6), .mv (.t 5)⟩,
      ⟨(some (6, true)), (some 7), .faddr 0 (.t 1)⟩,
      ⟨(some (6, true)), (some 8), .load false 1 (.t 7)⟩,
      ⟨(some (6, true)), (some 9), .faddr 1 (.t 1)⟩,
      ⟨(some (6, true)), (some 10), .load false 1 (.t 9)⟩,
      ⟨(some (6, true)), (some 11), .call 81 [(.t 8), (.c (.int .i64 0)), (.t 10)]⟩,
      ⟨none, (some 12), .pick (.t 6) (.t 11) (.c (.bool false))⟩,
      ⟨none, (some 2), .mv (.t 12)⟩])
    .ret))
theorem ok115 : FnOk Try.prog 115 13 1 c115 [.t 2] := ⟨_, _, Try.func115, rfl, rfl, by kernel_rfl, by kernel_rfl⟩
theorem bd115 : bodied Try.prog 115 = true := by kernel_rfl

/-- ferrule/frames.positions$1 -/
def c116 : CI := (.seq (.reg [⟨none, (some 4), .faddr 2 (.t 1)⟩,
      ⟨none, (some 5), .load false 1 (.t 4)⟩,
      ⟨none, (some 3), .mv (.t 5)⟩])
    (.block 0 (.loop (.seq (.seq (.reg [⟨none, (some 6), .mv (.t 3)⟩,
      ⟨none, (some 7), .faddr 1 (.t 1)⟩,
      ⟨none, (some 8), .load false 1 (.t 7)⟩,
      ⟨none, (some 9), .bin .geq (.t 6) (.t 8)⟩])
    (.cond (.t 9) .skip
    (.exit 0)))
    (.seq (.block 1 (.seq (.reg [⟨none, (some 12), .mv (.t 0)⟩,
      ⟨none, (some 13), .mv (.t 3)⟩,
      ⟨none, (some 14), .callx (.t 12) [(.t 13)]⟩,
      ⟨none, (some 15), .un .not (.t 14)⟩])
    (.cond (.t 15) .ret
    .skip)))
    (.reg [⟨none, (some 10), .mv (.t 3)⟩,
      ⟨none, (some 11), .bin .sub (.t 10) (.c (.int .i64 1))⟩,
      ⟨none, (some 3), .mv (.t 11)⟩]))))))
theorem ok116 : FnOk Try.prog 116 16 0 c116 [] := ⟨_, _, Try.func116, rfl, rfl, by kernel_rfl, by kernel_rfl⟩
theorem bd116 : bodied Try.prog 116 = true := by kernel_rfl

/-- ferrule/frames.bindsAt$1 -/
def c117 : CI := (.seq (.reg [⟨none, (some 7), .mv (.c (.bool false))⟩])
    (.seq (.seq (.reg [⟨none, (some 9), .load false 1 (.t 2)⟩,
      ⟨none, (some 10), .bin .eql (.t 9) (.c (.int .i64 0))⟩])
    (.cond (.t 10) (.seq (.reg [⟨none, (some 7), .mv (.c (.bool true))⟩])
    .ret)
    .skip))
    (.seq (.reg [⟨none, (some 11), .load false 1 (.t 2)⟩,
      ⟨none, (some 12), .mv (.t 0)⟩,
      ⟨none, (some 13), .mv (.t 1)⟩,
      ⟨none, (some 14), .call 82 [(.t 11), (.t 12), (.t 13)]⟩,
      ⟨none, (some 8), .alloc 0 [(.int .i64 0), (.int .i64 0)]⟩,
      ⟨none, none, .store true 2 (.t 8) (.t 14) []⟩])
    (.seq (.reg [⟨none, (some 15), .load true 2 (.t 8)⟩,
      ⟨none, (some 16), .load true 2 (.t 3)⟩,
      ⟨none, (some 17), .call 84 [(.t 15), (.t 16)]⟩,
      ⟨none, (some 18), .un .not (.t 17)⟩,
      ⟨none, (some 19), .mv (.t 18)⟩,
      ⟨(some (19, false)), (some 20), .load true 2 (.t 4)⟩,
      ⟨(some (19, false)), (some 21), .load true 2 (.t 8)⟩,
      ⟨(some (19, false)), (some 22), .call 84 [(.t 20), (.t 21)]⟩,
      ⟨(some (19, false)), (some 23), .un .not (.t 22)⟩,
      ⟨none, (some 24), .pick (.t 19) (.c (.bool true)) (.t 23)⟩,
      ⟨none, (some 7), .mv (.t 24)⟩])
    .ret))))
theorem ok117 : FnOk Try.prog 117 25 1 c117 [.t 7] := ⟨_, _, Try.func117, rfl, rfl, by kernel_rfl, by kernel_rfl⟩
theorem bd117 : bodied Try.prog 117 = true := by kernel_rfl

/-- cmp.isNaN[int] -/
def c123 : CI := (.seq (.reg [⟨none, (some 2), .mv (.c (.bool false))⟩])
    (.seq (.reg [⟨none, (some 3), .mv (.t 0)⟩,
      ⟨none, (some 4), .mv (.t 0)⟩,
      ⟨none, (some 5), .bin .neq (.t 3) (.t 4)⟩,
      ⟨none, (some 2), .mv (.t 5)⟩])
    .ret))
theorem ok123 : FnOk Try.prog 123 6 0 c123 [.t 2] := ⟨_, _, Try.func123, rfl, rfl, by kernel_rfl, by kernel_rfl⟩
theorem bd123 : bodied Try.prog 123 = true := by kernel_rfl

end Go.Proofs
