/- The functions of this program as the walk reads them, each proved to be what the program holds. -/
import Derived.Test.YtpiofeaafnldfaaEng3
import Derived.Test.YtpiofeaafnldfaaProg
import Derived.KernelRfl
namespace Go.Proofs
open Go.Eng
set_option maxRecDepth 100000

/-- ferrule/ferrulelaw02.ClothBetween -/
def c5 : CI := (.seq (.reg [⟨none, (some 3), .box 0 true (.t 0)⟩,
      ⟨none, (some 6), .mv (.c (.bool false))⟩])
    (.seq (.seq (.reg [⟨none, (some 11), .load true 6 (.t 3)⟩,
      ⟨none, (some 12), .mv (.t 1)⟩,
      ⟨none, (some 13), .call 15 [(.t 11), (.t 12)]⟩,
      ⟨none, (some 14), .un .not (.t 13)⟩,
      ⟨none, (some 15), .mv (.t 14)⟩,
      ⟨(some (15, false)), (some 16), .mv (.t 2)⟩,
      ⟨(some (15, false)), (some 17), .faddr 2 (.t 3)⟩,
      ⟨(some (15, false)), (some 18), .load false 1 (.t 17)⟩,
      ⟨(some (15, false)), (some 19), .bin .mul (.c (.int .i64 2)) (.t 18)⟩,
      ⟨(some (15, false)), (some 20), .bin .lss (.t 16) (.t 19)⟩,
      ⟨none, (some 21), .pick (.t 15) (.c (.bool true)) (.t 20)⟩,
      ⟨none, (some 22), .mv (.t 21)⟩,
      ⟨(some (22, false)), (some 23), .mv (.t 2)⟩,
      ⟨(some (22, false)), (some 24), .bin .gtr (.t 23) (.c (.int .i64 2000))⟩,
      ⟨none, (some 25), .pick (.t 22) (.c (.bool true)) (.t 24)⟩])
    (.cond (.t 25) (.seq (.reg [⟨none, (some 26), .call 17 []⟩,
      ⟨none, (some 6), .mv (.t 26)⟩])
    .ret)
    .skip))
    (.seq (.reg [⟨none, (some 28), .load true 6 (.t 3)⟩,
      ⟨none, (some 29), .mv (.t 1)⟩,
      ⟨none, (some 30), .mv (.t 2)⟩,
      ⟨none, (some 31), .callz 1 4 25 [(.t 28), (.t 29), (.t 30)] []⟩,
      ⟨none, (some 32), .mv (.t 1)⟩,
      ⟨none, (some 33), .call 22 [(.t 31), (.t 32)]⟩,
      ⟨none, (some 27), .mv (.t 33)⟩,
      ⟨none, (some 34), .extract 0 (.t 27)⟩,
      ⟨none, (some 35), .extract 1 (.t 27)⟩,
      ⟨none, (some 7), .mv (.t 34)⟩,
      ⟨none, (some 8), .mv (.t 35)⟩])
    (.seq (.reg [⟨none, (some 37), .load true 6 (.t 3)⟩,
      ⟨none, (some 38), .mv (.t 1)⟩,
      ⟨none, (some 39), .call 26 [(.t 37), (.t 38)]⟩,
      ⟨none, (some 36), .mv (.t 39)⟩,
      ⟨none, (some 40), .extract 0 (.t 36)⟩,
      ⟨none, (some 41), .extract 1 (.t 36)⟩,
      ⟨none, (some 9), .alloc 5 [(.int .i64 0), (.int .i64 0)]⟩,
      ⟨none, none, .store true 2 (.t 9) (.t 40) []⟩,
      ⟨none, (some 10), .mv (.t 41)⟩])
    (.seq (.seq (.reg [⟨none, (some 42), .mv (.t 8)⟩,
      ⟨none, (some 43), .bin .neq (.t 42) (.c (.int .i64 0))⟩])
    (.cond (.t 43) (.seq (.reg [⟨none, (some 44), .mv (.t 8)⟩,
      ⟨none, (some 45), .bin .eql (.t 44) (.c (.int .i64 3))⟩,
      ⟨none, (some 46), .mv (.t 45)⟩,
      ⟨(some (46, true)), (some 47), .mv (.t 10)⟩,
      ⟨(some (46, true)), (some 48), .bin .eql (.t 47) (.c (.int .i64 3))⟩,
      ⟨none, (some 49), .pick (.t 46) (.t 48) (.c (.bool false))⟩,
      ⟨none, (some 50), .mv (.t 49)⟩,
      ⟨(some (50, true)), (some 51), .call 17 []⟩,
      ⟨none, (some 52), .pick (.t 50) (.t 51) (.c (.bool false))⟩,
      ⟨none, (some 6), .mv (.t 52)⟩])
    .ret)
    .skip))
    (.seq (.seq (.reg [⟨none, (some 53), .mv (.t 10)⟩,
      ⟨none, (some 54), .bin .neq (.t 53) (.c (.int .i64 0))⟩])
    (.cond (.t 54) (.seq (.reg [⟨none, (some 55), .mv (.t 10)⟩,
      ⟨none, (some 56), .bin .eql (.t 55) (.c (.int .i64 3))⟩,
      ⟨none, (some 57), .mv (.t 56)⟩,
      ⟨(some (57, true)), (some 58), .mv (.t 7)⟩,
      ⟨(some (57, true)), (some 59), .bin .neq (.t 58) (.c (.int .i64 1))⟩,
      ⟨none, (some 60), .pick (.t 57) (.t 59) (.c (.bool false))⟩,
      ⟨none, (some 61), .mv (.t 60)⟩,
      ⟨(some (61, true)), (some 62), .call 17 []⟩,
      ⟨none, (some 63), .pick (.t 61) (.t 62) (.c (.bool false))⟩,
      ⟨none, (some 6), .mv (.t 63)⟩])
    .ret)
    .skip))
    (.seq (.reg [⟨none, (some 64), .faddr 0 (.t 9)⟩,
      ⟨none, (some 65), .load false 1 (.t 64)⟩,
      ⟨none, (some 66), .faddr 2 (.t 3)⟩,
      ⟨none, (some 67), .load false 1 (.t 66)⟩,
      ⟨none, (some 68), .bin .mul (.c (.int .i64 2)) (.t 67)⟩,
      ⟨none, (some 69), .bin .geq (.t 65) (.t 68)⟩,
      ⟨none, (some 70), .mv (.t 69)⟩,
      ⟨(some (70, true)), (some 71), .faddr 0 (.t 9)⟩,
      ⟨(some (70, true)), (some 72), .load false 1 (.t 71)⟩,
      ⟨(some (70, true)), (some 73), .faddr 1 (.t 9)⟩,
      ⟨(some (70, true)), (some 74), .load false 1 (.t 73)⟩,
      ⟨(some (70, true)), (some 75), .bin .leq (.t 72) (.t 74)⟩,
      ⟨none, (some 76), .pick (.t 70) (.t 75) (.c (.bool false))⟩,
      ⟨none, (some 77), .mv (.t 76)⟩,
      ⟨(some (77, true)), (some 78), .faddr 1 (.t 9)⟩,
      ⟨(some (77, true)), (some 79), .load false 1 (.t 78)⟩,
      ⟨(some (77, true)), (some 80), .bin .leq (.t 79) (.c (.int .i64 2000))⟩,
      ⟨none, (some 81), .pick (.t 77) (.t 80) (.c (.bool false))⟩,
      ⟨none, (some 82), .mv (.t 81)⟩,
      ⟨(some (82, true)), (some 83), .mv (.t 7)⟩,
      ⟨(some (82, true)), (some 84), .bin .eql (.t 83) (.c (.int .i64 1))⟩,
      ⟨(some (82, true)), (some 85), .load true 2 (.t 9)⟩,
      ⟨(some (82, true)), (some 86), .mv (.t 2)⟩,
      ⟨(some (82, true)), (some 87), .call 24 [(.t 85), (.t 86)]⟩,
      ⟨(some (82, true)), (some 88), .eqb false (.t 84) (.t 87)⟩,
      ⟨none, (some 89), .pick (.t 82) (.t 88) (.c (.bool false))⟩,
      ⟨none, (some 90), .mv (.t 89)⟩,
      ⟨(some (90, true)), (some 91), .call 17 []⟩,
      ⟨none, (some 92), .pick (.t 90) (.t 91) (.c (.bool false))⟩,
      ⟨none, (some 6), .mv (.t 92)⟩])
    .ret)))))))
theorem ok5 : FnOk Try.prog 5 93 6 c5 [.t 6] := ⟨_, _, Try.func5, rfl, rfl, by kernel_rfl, by kernel_rfl⟩
theorem bd5 : bodied Try.prog 5 = true := by kernel_rfl

/-- ferrule/ferrulelaw02.ClothBest -/
def c9 : CI := (.seq (.reg [⟨none, (some 3), .box 0 true (.t 0)⟩,
      ⟨none, (some 6), .mv (.c (.bool false))⟩])
    (.seq (.seq (.reg [⟨none, (some 20), .load true 6 (.t 3)⟩,
      ⟨none, (some 21), .call 15 [(.t 20), (.c (.int .i64 0))]⟩,
      ⟨none, (some 22), .un .not (.t 21)⟩,
      ⟨none, (some 23), .mv (.t 22)⟩,
      ⟨(some (23, false)), (some 24), .mv (.t 1)⟩,
      ⟨(some (23, false)), (some 25), .len (.t 24)⟩,
      ⟨(some (23, false)), (some 26), .bin .gtr (.t 25) (.c (.int .i64 40))⟩,
      ⟨none, (some 27), .pick (.t 23) (.c (.bool true)) (.t 26)⟩,
      ⟨none, (some 28), .mv (.t 27)⟩,
      ⟨(some (28, false)), (some 29), .mv (.t 2)⟩,
      ⟨(some (28, false)), (some 30), .bin .lss (.t 29) (.c (.int .i64 0))⟩,
      ⟨none, (some 31), .pick (.t 28) (.c (.bool true)) (.t 30)⟩,
      ⟨none, (some 32), .mv (.t 31)⟩,
      ⟨(some (32, false)), (some 33), .mv (.t 2)⟩,
      ⟨(some (32, false)), (some 34), .faddr 5 (.t 3)⟩,
      ⟨(some (32, false)), (some 35), .load false 1 (.t 34)⟩,
      ⟨(some (32, false)), (some 36), .bin .sub (.c (.int .i64 500)) (.t 35)⟩,
      ⟨(some (32, false)), (some 37), .bin .gtr (.t 33) (.t 36)⟩,
      ⟨none, (some 38), .pick (.t 32) (.c (.bool true)) (.t 37)⟩])
    (.cond (.t 38) (.seq (.reg [⟨none, (some 39), .call 17 []⟩,
      ⟨none, (some 6), .mv (.t 39)⟩])
    .ret)
    .skip))
    (.seq (.reg [⟨none, (some 41), .load true 6 (.t 3)⟩,
      ⟨none, (some 42), .call 30 [(.t 41)]⟩,
      ⟨none, (some 40), .mv (.t 42)⟩,
      ⟨none, (some 43), .extract 0 (.t 40)⟩,
      ⟨none, (some 44), .extract 1 (.t 40)⟩,
      ⟨none, (some 7), .mv (.t 43)⟩,
      ⟨none, (some 8), .mv (.t 44)⟩])
    (.seq (.seq (.reg [⟨none, (some 45), .mv (.t 8)⟩,
      ⟨none, (some 46), .bin .neq (.t 45) (.c (.int .i64 0))⟩,
      ⟨none, (some 47), .mv (.t 46)⟩,
      ⟨(some (47, true)), (some 48), .mv (.t 8)⟩,
      ⟨(some (47, true)), (some 49), .bin .neq (.t 48) (.c (.int .i64 3))⟩,
      ⟨none, (some 50), .pick (.t 47) (.t 49) (.c (.bool false))⟩])
    (.cond (.t 50) (.seq (.reg [⟨none, (some 6), .mv (.c (.bool false))⟩])
    .ret)
    .skip))
    (.seq (.reg [⟨none, (some 52), .load true 6 (.t 3)⟩,
      ⟨none, (some 53), .callz 1 1 18 [(.t 52), (.c (.int .i64 0))] []⟩,
      ⟨none, (some 51), .mv (.t 53)⟩,
      ⟨none, (some 54), .extract 0 (.t 51)⟩,
      ⟨none, (some 55), .extract 1 (.t 51)⟩,
      ⟨none, (some 9), .mv (.t 54)⟩,
      ⟨none, (some 10), .mv (.t 55)⟩])
    (.seq (.seq (.reg [⟨none, (some 56), .mv (.t 10)⟩,
      ⟨none, (some 57), .bin .eql (.t 56) (.c (.int .i64 0))⟩,
      ⟨none, (some 58), .mv (.t 57)⟩,
      ⟨(some (58, true)), (some 59), .mv (.t 9)⟩,
      ⟨(some (58, true)), (some 60), .len (.t 59)⟩,
      ⟨(some (58, true)), (some 61), .bin .gtr (.t 60) (.c (.int .i64 0))⟩,
      ⟨none, (some 62), .pick (.t 58) (.t 61) (.c (.bool false))⟩,
      ⟨none, (some 63), .mv (.t 62)⟩,
      ⟨(some (63, true)), (some 64), .load true 6 (.t 3)⟩,
      ⟨(some (63, true)), (some 65), .mv (.t 1)⟩,
      ⟨(some (63, true)), (some 66), .call 31 [(.t 64), (.t 65)]⟩,
      ⟨none, (some 67), .pick (.t 63) (.t 66) (.c (.bool false))⟩])
    (.cond (.t 67) (.seq (.reg [⟨none, (some 11), .mv (.c (.int .i64 0))⟩])
    (.seq (.seq (.reg [⟨none, (some 12), .mv (.c (.int .i64 0))⟩])
    (.block 0 (.loop (.seq (.seq (.reg [⟨none, (some 68), .mv (.t 12)⟩,
      ⟨none, (some 69), .mv (.t 1)⟩,
      ⟨none, (some 70), .len (.t 69)⟩,
      ⟨none, (some 71), .bin .lss (.t 68) (.t 70)⟩])
    (.cond (.t 71) .skip
    (.exit 0)))
    (.seq (.block 1 (.reg [⟨none, (some 74), .mv (.t 11)⟩,
      ⟨none, (some 75), .mv (.t 1)⟩,
      ⟨none, (some 76), .mv (.t 12)⟩,
      ⟨none, (some 77), .iaddr 1 (.t 75) (.t 76)⟩,
      ⟨none, (some 78), .load false 1 (.t 77)⟩,
      ⟨none, (some 79), .bin .add (.t 74) (.t 78)⟩,
      ⟨none, (some 11), .mv (.t 79)⟩]))
    (.reg [⟨none, (some 72), .mv (.t 12)⟩,
      ⟨none, (some 73), .bin .add (.t 72) (.c (.int .i64 1))⟩,
      ⟨none, (some 12), .mv (.t 73)⟩]))))))
    (.seq (.reg [⟨none, (some 80), .mv (.t 8)⟩,
      ⟨none, (some 81), .bin .neq (.t 80) (.c (.int .i64 0))⟩,
      ⟨none, (some 82), .mv (.t 81)⟩,
      ⟨(some (82, false)), (some 83), .mv (.t 11)⟩,
      ⟨(some (82, false)), (some 84), .mv (.t 7)⟩,
      ⟨(some (82, false)), (some 85), .bin .lss (.t 83) (.t 84)⟩,
      ⟨none, (some 86), .pick (.t 82) (.c (.bool true)) (.t 85)⟩])
    (.cond (.t 86) (.seq (.reg [⟨none, (some 6), .mv (.c (.bool false))⟩])
    .ret)
    .skip))))
    .skip))
    (.seq (.reg [⟨none, (some 87), .load true 6 (.t 3)⟩,
      ⟨none, (some 89), .load true 6 (.t 3)⟩,
      ⟨none, (some 13), .alloc 10 [.nils, .nils, (.int .i64 0), .nils, .nils, (.int .i64 0)]⟩,
      ⟨none, (some 14), .alloc 11 [.nils, .nils, (.int .i64 0), .nils, .nils, (.int .i64 0)]⟩,
      ⟨none, (some 88), .callz 2 4 27 [(.t 87)] []⟩,
      ⟨none, (some 90), .callz 6 4 27 [(.t 89)] []⟩,
      ⟨none, none, .stz true 6 (.t 13) (.t 88) []⟩,
      ⟨none, none, .stz true 6 (.t 14) (.t 90) []⟩])
    (.seq (.reg [⟨none, (some 91), .faddr 5 (.t 13)⟩,
      ⟨none, (some 92), .load false 1 (.t 91)⟩,
      ⟨none, (some 93), .mv (.t 2)⟩,
      ⟨none, (some 94), .bin .add (.t 92) (.t 93)⟩,
      ⟨none, (some 95), .faddr 5 (.t 13)⟩,
      ⟨none, none, .store false 1 (.t 95) (.t 94) []⟩])
    (.seq (.seq (.reg [⟨none, (some 15), .mv (.c (.int .i64 0))⟩])
    (.block 2 (.loop (.seq (.seq (.reg [⟨none, (some 96), .mv (.t 15)⟩,
      ⟨none, (some 97), .faddr 3 (.t 3)⟩,
      ⟨none, (some 98), .load false 1 (.t 97)⟩,
      ⟨none, (some 99), .len (.t 98)⟩,
      ⟨none, (some 100), .bin .lss (.t 96) (.t 99)⟩])
    (.cond (.t 100) .skip
    (.exit 2)))
    (.seq (.block 3 (.reg [⟨none, (some 103), .faddr 3 (.t 14)⟩,
      ⟨none, (some 104), .load false 1 (.t 103)⟩,
      ⟨none, (some 105), .mv (.t 15)⟩,
      ⟨none, (some 106), .faddr 4 (.t 14)⟩,
      ⟨none, (some 107), .load false 1 (.t 106)⟩,
      ⟨none, (some 108), .mv (.t 15)⟩,
      ⟨none, (some 109), .faddr 3 (.t 3)⟩,
      ⟨none, (some 110), .load false 1 (.t 109)⟩,
      ⟨none, (some 111), .faddr 3 (.t 3)⟩,
      ⟨none, (some 112), .load false 1 (.t 111)⟩,
      ⟨none, (some 113), .len (.t 112)⟩,
      ⟨none, (some 114), .bin .sub (.t 113) (.c (.int .i64 1))⟩,
      ⟨none, (some 115), .mv (.t 15)⟩,
      ⟨none, (some 116), .bin .sub (.t 114) (.t 115)⟩,
      ⟨none, (some 117), .iaddr 2 (.t 110) (.t 116)⟩,
      ⟨none, (some 118), .load true 2 (.t 117)⟩,
      ⟨none, (some 119), .faddr 4 (.t 3)⟩,
      ⟨none, (some 120), .load false 1 (.t 119)⟩,
      ⟨none, (some 121), .faddr 3 (.t 3)⟩,
      ⟨none, (some 122), .load false 1 (.t 121)⟩,
      ⟨none, (some 123), .len (.t 122)⟩,
      ⟨none, (some 124), .bin .sub (.t 123) (.c (.int .i64 1))⟩,
      ⟨none, (some 125), .mv (.t 15)⟩,
      ⟨none, (some 126), .bin .sub (.t 124) (.t 125)⟩,
      ⟨none, (some 127), .iaddr 1 (.t 120) (.t 126)⟩,
      ⟨none, (some 128), .load false 1 (.t 127)⟩,
      ⟨none, (some 129), .iaddr 2 (.t 104) (.t 105)⟩,
      ⟨none, none, .store true 2 (.t 129) (.t 118) [(.t 106)]⟩,
      ⟨none, (some 130), .iaddr 1 (.t 107) (.t 108)⟩,
      ⟨none, none, .store false 1 (.t 130) (.t 128) []⟩]))
    (.reg [⟨none, (some 101), .mv (.t 15)⟩,
      ⟨none, (some 102), .bin .add (.t 101) (.c (.int .i64 1))⟩,
      ⟨none, (some 15), .mv (.t 102)⟩]))))))
    (.seq (.reg [⟨none, (some 132), .load true 6 (.t 13)⟩,
      ⟨none, (some 133), .call 30 [(.t 132)]⟩,
      ⟨none, (some 131), .mv (.t 133)⟩,
      ⟨none, (some 134), .extract 0 (.t 131)⟩,
      ⟨none, (some 135), .extract 1 (.t 131)⟩,
      ⟨none, (some 16), .mv (.t 134)⟩,
      ⟨none, (some 17), .mv (.t 135)⟩])
    (.seq (.reg [⟨none, (some 137), .load true 6 (.t 14)⟩,
      ⟨none, (some 138), .call 30 [(.t 137)]⟩,
      ⟨none, (some 136), .mv (.t 138)⟩,
      ⟨none, (some 139), .extract 0 (.t 136)⟩,
      ⟨none, (some 140), .extract 1 (.t 136)⟩,
      ⟨none, (some 18), .mv (.t 139)⟩,
      ⟨none, (some 19), .mv (.t 140)⟩])
    (.seq (.reg [⟨none, (some 141), .mv (.t 8)⟩,
      ⟨none, (some 142), .bin .neq (.t 141) (.c (.int .i64 0))⟩,
      ⟨none, (some 143), .mv (.t 142)⟩,
      ⟨(some (143, false)), (some 144), .mv (.t 17)⟩,
      ⟨(some (143, false)), (some 145), .bin .eql (.t 144) (.c (.int .i64 0))⟩,
      ⟨(some (143, false)), (some 146), .mv (.t 145)⟩,
      ⟨(some (146, true)), (some 147), .mv (.t 16)⟩,
      ⟨(some (146, true)), (some 148), .mv (.t 7)⟩,
      ⟨(some (146, true)), (some 149), .bin .leq (.t 147) (.t 148)⟩,
      ⟨(some (143, false)), (some 150), .pick (.t 146) (.t 149) (.c (.bool false))⟩,
      ⟨none, (some 151), .pick (.t 143) (.c (.bool true)) (.t 150)⟩,
      ⟨none, (some 152), .mv (.t 151)⟩,
      ⟨(some (152, true)), (some 153), .mv (.t 19)⟩,
      ⟨(some (152, true)), (some 154), .mv (.t 8)⟩,
      ⟨(some (152, true)), (some 155), .bin .eql (.t 153) (.t 154)⟩,
      ⟨none, (some 156), .pick (.t 152) (.t 155) (.c (.bool false))⟩,
      ⟨none, (some 157), .mv (.t 156)⟩,
      ⟨(some (157, true)), (some 158), .mv (.t 18)⟩,
      ⟨(some (157, true)), (some 159), .mv (.t 7)⟩,
      ⟨(some (157, true)), (some 160), .bin .eql (.t 158) (.t 159)⟩,
      ⟨none, (some 161), .pick (.t 157) (.t 160) (.c (.bool false))⟩,
      ⟨none, (some 162), .mv (.t 161)⟩,
      ⟨(some (162, true)), (some 163), .call 17 []⟩,
      ⟨none, (some 164), .pick (.t 162) (.t 163) (.c (.bool false))⟩,
      ⟨none, (some 6), .mv (.t 164)⟩])
    .ret))))))))))))
theorem ok9 : FnOk Try.prog 9 165 12 c9 [.t 6] := ⟨_, _, Try.func9, rfl, rfl, by kernel_rfl, by kernel_rfl⟩
theorem bd9 : bodied Try.prog 9 = true := by kernel_rfl

/-- ferrule/ferrulelaw02.ClothCuts -/
def c13 : CI := (.seq (.reg [⟨none, (some 2), .box 0 true (.t 0)⟩,
      ⟨none, (some 4), .mv (.c (.bool false))⟩])
    (.seq (.seq (.reg [⟨none, (some 14), .load true 6 (.t 2)⟩,
      ⟨none, (some 15), .call 33 [(.t 14)]⟩])
    (.cond (.t 15) (.seq (.reg [⟨none, (some 16), .call 17 []⟩,
      ⟨none, (some 4), .mv (.t 16)⟩])
    .ret)
    .skip))
    (.seq (.reg [⟨none, (some 17), .load true 6 (.t 2)⟩,
      ⟨none, (some 18), .callz 1 4 27 [(.t 17)] []⟩,
      ⟨none, (some 5), .alloc 5 [.nils, .nils, (.int .i64 0), .nils, .nils, (.int .i64 0)]⟩,
      ⟨none, none, .stz true 6 (.t 5) (.t 18) []⟩])
    (.seq (.reg [⟨none, (some 20), .load true 6 (.t 5)⟩,
      ⟨none, (some 21), .mv (.t 1)⟩,
      ⟨none, (some 22), .call 26 [(.t 20), (.t 21)]⟩,
      ⟨none, (some 19), .mv (.t 22)⟩,
      ⟨none, (some 23), .extract 0 (.t 19)⟩,
      ⟨none, (some 24), .extract 1 (.t 19)⟩,
      ⟨none, (some 6), .alloc 6 [(.int .i64 0), (.int .i64 0)]⟩,
      ⟨none, none, .store true 2 (.t 6) (.t 23) []⟩,
      ⟨none, (some 7), .mv (.t 24)⟩])
    (.seq (.reg [⟨none, (some 26), .load true 6 (.t 2)⟩,
      ⟨none, (some 27), .mv (.t 1)⟩,
      ⟨none, (some 28), .call 41 [(.t 26), (.t 27)]⟩,
      ⟨none, (some 25), .mv (.t 28)⟩,
      ⟨none, (some 29), .extract 0 (.t 25)⟩,
      ⟨none, (some 30), .extract 1 (.t 25)⟩,
      ⟨none, (some 8), .alloc 7 [(.int .i64 0), (.int .i64 0)]⟩,
      ⟨none, none, .store true 2 (.t 8) (.t 29) []⟩,
      ⟨none, (some 9), .mv (.t 30)⟩])
    (.seq (.reg [⟨none, (some 32), .load true 6 (.t 5)⟩,
      ⟨none, (some 33), .call 30 [(.t 32)]⟩,
      ⟨none, (some 31), .mv (.t 33)⟩,
      ⟨none, (some 34), .extract 0 (.t 31)⟩,
      ⟨none, (some 35), .extract 1 (.t 31)⟩,
      ⟨none, (some 10), .mv (.t 34)⟩,
      ⟨none, (some 11), .mv (.t 35)⟩])
    (.seq (.reg [⟨none, (some 37), .load true 6 (.t 2)⟩,
      ⟨none, (some 38), .call 42 [(.t 37)]⟩,
      ⟨none, (some 36), .mv (.t 38)⟩,
      ⟨none, (some 39), .extract 0 (.t 36)⟩,
      ⟨none, (some 40), .extract 1 (.t 36)⟩,
      ⟨none, (some 12), .mv (.t 39)⟩,
      ⟨none, (some 13), .mv (.t 40)⟩])
    (.seq (.reg [⟨none, (some 41), .load true 2 (.t 6)⟩,
      ⟨none, (some 42), .load true 2 (.t 8)⟩,
      ⟨none, (some 43), .eqs false (.node [(0, 1, (.leaf true)), (1, 1, (.leaf true))]) (.t 41) (.t 42)⟩,
      ⟨none, (some 44), .mv (.t 43)⟩,
      ⟨(some (44, true)), (some 45), .mv (.t 7)⟩,
      ⟨(some (44, true)), (some 46), .mv (.t 9)⟩,
      ⟨(some (44, true)), (some 47), .bin .eql (.t 45) (.t 46)⟩,
      ⟨none, (some 48), .pick (.t 44) (.t 47) (.c (.bool false))⟩,
      ⟨none, (some 49), .mv (.t 48)⟩,
      ⟨(some (49, true)), (some 50), .mv (.t 10)⟩,
      ⟨(some (49, true)), (some 51), .mv (.t 12)⟩,
      ⟨(some (49, true)), (some 52), .bin .eql (.t 50) (.t 51)⟩,
      ⟨none, (some 53), .pick (.t 49) (.t 52) (.c (.bool false))⟩,
      ⟨none, (some 54), .mv (.t 53)⟩,
      ⟨(some (54, true)), (some 55), .mv (.t 11)⟩,
      ⟨(some (54, true)), (some 56), .mv (.t 13)⟩,
      ⟨(some (54, true)), (some 57), .bin .eql (.t 55) (.t 56)⟩,
      ⟨none, (some 58), .pick (.t 54) (.t 57) (.c (.bool false))⟩,
      ⟨none, (some 59), .mv (.t 58)⟩,
      ⟨(some (59, true)), (some 60), .load true 6 (.t 5)⟩,
      ⟨(some (59, true)), (some 61), .load true 6 (.t 2)⟩,
      ⟨(some (59, true)), (some 62), .call 37 [(.t 60), (.t 61)]⟩,
      ⟨none, (some 63), .pick (.t 59) (.t 62) (.c (.bool false))⟩,
      ⟨none, (some 64), .mv (.t 63)⟩,
      ⟨(some (64, true)), (some 65), .call 17 []⟩,
      ⟨none, (some 66), .pick (.t 64) (.t 65) (.c (.bool false))⟩,
      ⟨none, (some 4), .mv (.t 66)⟩])
    .ret))))))))
theorem ok13 : FnOk Try.prog 13 67 8 c13 [.t 4] := ⟨_, _, Try.func13, rfl, rfl, by kernel_rfl, by kernel_rfl⟩
theorem bd13 : bodied Try.prog 13 = true := by kernel_rfl

/-- ferrule/ferrulelaw02.ready -/
def c15 : CI := (.seq (.reg [⟨none, (some 2), .box 0 true (.t 0)⟩,
      ⟨none, (some 4), .mv (.c (.bool false))⟩])
    (.seq (.reg [⟨none, (some 5), .load true 6 (.t 2)⟩,
      ⟨none, (some 6), .call 33 [(.t 5)]⟩,
      ⟨none, (some 7), .un .not (.t 6)⟩,
      ⟨none, (some 8), .mv (.t 7)⟩,
      ⟨(some (8, true)), (some 9), .load true 6 (.t 2)⟩,
      ⟨(some (8, true)), (some 10), .call 28 [(.t 9)]⟩,
      ⟨(some (8, true)), (some 11), .bin .eql (.t 10) (.c (.int .i64 0))⟩,
      ⟨none, (some 12), .pick (.t 8) (.t 11) (.c (.bool false))⟩,
      ⟨none, (some 13), .mv (.t 12)⟩,
      ⟨(some (13, true)), (some 14), .mv (.t 1)⟩,
      ⟨(some (13, true)), (some 15), .bin .geq (.t 14) (.c (.int .i64 0))⟩,
      ⟨none, (some 16), .pick (.t 13) (.t 15) (.c (.bool false))⟩,
      ⟨none, (some 17), .mv (.t 16)⟩,
      ⟨(some (17, true)), (some 18), .mv (.t 1)⟩,
      ⟨(some (17, true)), (some 19), .faddr 3 (.t 2)⟩,
      ⟨(some (17, true)), (some 20), .load false 1 (.t 19)⟩,
      ⟨(some (17, true)), (some 21), .len (.t 20)⟩,
      ⟨(some (17, true)), (some 22), .bin .lss (.t 18) (.t 21)⟩,
      ⟨none, (some 23), .pick (.t 17) (.t 22) (.c (.bool false))⟩,
      ⟨none, (some 4), .mv (.t 23)⟩])
    .ret))
theorem ok15 : FnOk Try.prog 15 24 1 c15 [.t 4] := ⟨_, _, Try.func15, rfl, rfl, by kernel_rfl, by kernel_rfl⟩
theorem bd15 : bodied Try.prog 15 = true := by kernel_rfl

/-- ferrule/ferruleref02.IsTruth -/
def c16 : CI := (.seq (.reg [⟨none, (some 2), .box 0 true (.t 0)⟩,
      ⟨none, (some 4), .mv (.c (.bool false))⟩])
    (.seq (.seq (.reg [⟨none, (some 6), .mv (.t 1)⟩,
      ⟨none, (some 7), .len (.t 6)⟩,
      ⟨none, (some 8), .faddr 0 (.t 2)⟩,
      ⟨none, (some 9), .load false 1 (.t 8)⟩,
      ⟨none, (some 10), .len (.t 9)⟩,
      ⟨none, (some 11), .bin .neq (.t 7) (.t 10)⟩])
    (.cond (.t 11) (.seq (.reg [⟨none, (some 4), .mv (.c (.bool false))⟩])
    .ret)
    .skip))
    (.seq (.seq (.reg [⟨none, (some 5), .mv (.c (.int .i64 0))⟩])
    (.block 0 (.loop (.seq (.seq (.reg [⟨none, (some 12), .mv (.t 5)⟩,
      ⟨none, (some 13), .mv (.t 1)⟩,
      ⟨none, (some 14), .len (.t 13)⟩,
      ⟨none, (some 15), .bin .lss (.t 12) (.t 14)⟩])
    (.cond (.t 15) .skip
    (.exit 0)))
    (.seq (.block 1 (.seq (.reg [⟨none, (some 18), .faddr 0 (.t 2)⟩,
      ⟨none, (some 19), .load false 1 (.t 18)⟩,
      ⟨none, (some 20), .mv (.t 5)⟩,
      ⟨none, (some 21), .iaddr 4 (.t 19) (.t 20)⟩,
      ⟨none, (some 22), .load true 4 (.t 21)⟩,
      ⟨none, (some 23), .mv (.t 1)⟩,
      ⟨none, (some 24), .mv (.t 5)⟩,
      ⟨none, (some 25), .iaddr 1 (.t 23) (.t 24)⟩,
      ⟨none, (some 26), .load false 1 (.t 25)⟩,
      ⟨none, (some 27), .call 44 [(.t 22), (.t 26)]⟩,
      ⟨none, (some 28), .un .not (.t 27)⟩])
    (.cond (.t 28) (.seq (.reg [⟨none, (some 4), .mv (.c (.bool false))⟩])
    .ret)
    .skip)))
    (.reg [⟨none, (some 16), .mv (.t 5)⟩,
      ⟨none, (some 17), .bin .add (.t 16) (.c (.int .i64 1))⟩,
      ⟨none, (some 5), .mv (.t 17)⟩]))))))
    (.seq (.reg [⟨none, (some 4), .mv (.c (.bool true))⟩])
    .ret))))
theorem ok16 : FnOk Try.prog 16 29 1 c16 [.t 4] := ⟨_, _, Try.func16, rfl, rfl, by kernel_rfl, by kernel_rfl⟩
theorem bd16 : bodied Try.prog 16 = true := by kernel_rfl

/-- ferrule/ferrulelaw02.works -/
def c17 : CI := (.seq (.reg [⟨none, (some 0), .mv (.c (.bool false))⟩])
    (.seq (.reg [⟨none, (some 12), .callz 0 4 45 [] []⟩,
      ⟨none, (some 1), .alloc 4 [.nils, .nils, (.int .i64 0), .nils, .nils, (.int .i64 0)]⟩,
      ⟨none, none, .stz true 6 (.t 1) (.t 12) []⟩])
    (.seq (.reg [⟨none, (some 14), .load true 6 (.t 1)⟩,
      ⟨none, (some 15), .call 21 [(.t 14), (.c (.int .i64 2))]⟩,
      ⟨none, (some 13), .mv (.t 15)⟩,
      ⟨none, (some 16), .extract 0 (.t 13)⟩,
      ⟨none, (some 17), .extract 1 (.t 13)⟩,
      ⟨none, (some 2), .alloc 5 [(.int .i64 0), (.int .i64 0)]⟩,
      ⟨none, none, .store true 2 (.t 2) (.t 16) []⟩,
      ⟨none, (some 3), .mv (.t 17)⟩])
    (.seq (.reg [⟨none, (some 19), .load true 6 (.t 1)⟩,
      ⟨none, (some 20), .call 22 [(.t 19), (.c (.int .i64 1))]⟩,
      ⟨none, (some 18), .mv (.t 20)⟩,
      ⟨none, (some 21), .extract 0 (.t 18)⟩,
      ⟨none, (some 22), .extract 1 (.t 18)⟩,
      ⟨none, (some 4), .mv (.t 21)⟩,
      ⟨none, (some 5), .mv (.t 22)⟩])
    (.seq (.reg [⟨none, (some 24), .load true 6 (.t 1)⟩,
      ⟨none, (some 25), .call 26 [(.t 24), (.c (.int .i64 1))]⟩,
      ⟨none, (some 23), .mv (.t 25)⟩,
      ⟨none, (some 26), .extract 0 (.t 23)⟩,
      ⟨none, (some 27), .extract 1 (.t 23)⟩,
      ⟨none, (some 6), .alloc 6 [(.int .i64 0), (.int .i64 0)]⟩,
      ⟨none, none, .store true 2 (.t 6) (.t 26) []⟩,
      ⟨none, (some 7), .mv (.t 27)⟩])
    (.seq (.reg [⟨none, (some 29), .load true 6 (.t 1)⟩,
      ⟨none, (some 30), .callz 7 1 23 [(.t 29)] []⟩,
      ⟨none, (some 28), .mv (.t 30)⟩,
      ⟨none, (some 31), .extract 0 (.t 28)⟩,
      ⟨none, (some 32), .extract 1 (.t 28)⟩,
      ⟨none, (some 8), .mv (.t 31)⟩,
      ⟨none, (some 9), .mv (.t 32)⟩])
    (.seq (.reg [⟨none, (some 33), .faddr 3 (.t 1)⟩,
      ⟨none, (some 34), .load false 1 (.t 33)⟩,
      ⟨none, (some 35), .build [(.int .i64 0), (.int .i64 0)] [(0, 1, (.c (.int .i64 800))), (1, 1, (.c (.int .i64 808)))]⟩,
      ⟨none, (some 36), .iaddr 2 (.t 34) (.c (.int .i64 2))⟩,
      ⟨none, none, .store true 2 (.t 36) (.t 35) []⟩])
    (.seq (.reg [⟨none, (some 38), .load true 6 (.t 1)⟩,
      ⟨none, (some 39), .call 30 [(.t 38)]⟩,
      ⟨none, (some 37), .mv (.t 39)⟩,
      ⟨none, (some 40), .extract 0 (.t 37)⟩,
      ⟨none, (some 41), .extract 1 (.t 37)⟩,
      ⟨none, (some 10), .mv (.t 40)⟩,
      ⟨none, (some 11), .mv (.t 41)⟩])
    (.seq (.reg [⟨none, (some 42), .mv (.t 3)⟩,
      ⟨none, (some 43), .bin .eql (.t 42) (.c (.int .i64 0))⟩,
      ⟨none, (some 44), .mv (.t 43)⟩,
      ⟨(some (44, true)), (some 45), .mv (.t 5)⟩,
      ⟨(some (44, true)), (some 46), .bin .eql (.t 45) (.c (.int .i64 0))⟩,
      ⟨none, (some 47), .pick (.t 44) (.t 46) (.c (.bool false))⟩,
      ⟨none, (some 48), .mv (.t 47)⟩,
      ⟨(some (48, true)), (some 49), .mv (.t 7)⟩,
      ⟨(some (48, true)), (some 50), .bin .eql (.t 49) (.c (.int .i64 0))⟩,
      ⟨none, (some 51), .pick (.t 48) (.t 50) (.c (.bool false))⟩,
      ⟨none, (some 52), .mv (.t 51)⟩,
      ⟨(some (52, true)), (some 53), .mv (.t 9)⟩,
      ⟨(some (52, true)), (some 54), .bin .eql (.t 53) (.c (.int .i64 0))⟩,
      ⟨none, (some 55), .pick (.t 52) (.t 54) (.c (.bool false))⟩,
      ⟨none, (some 56), .mv (.t 55)⟩,
      ⟨(some (56, true)), (some 57), .mv (.t 11)⟩,
      ⟨(some (56, true)), (some 58), .bin .eql (.t 57) (.c (.int .i64 0))⟩,
      ⟨none, (some 59), .pick (.t 56) (.t 58) (.c (.bool false))⟩,
      ⟨none, (some 60), .mv (.t 59)⟩,
      ⟨(some (60, true)), (some 61), .load true 2 (.t 2)⟩,
      ⟨(some (60, true)), (some 62), .build [(.int .i64 0), (.int .i64 0)] [(0, 1, (.c (.int .i64 802))), (1, 1, (.c (.int .i64 808)))]⟩,
      ⟨(some (60, true)), (some 63), .eqs false (.node [(0, 1, (.leaf true)), (1, 1, (.leaf true))]) (.t 61) (.t 62)⟩,
      ⟨none, (some 64), .pick (.t 60) (.t 63) (.c (.bool false))⟩,
      ⟨none, (some 65), .mv (.t 64)⟩,
      ⟨(some (65, true)), (some 66), .mv (.t 4)⟩,
      ⟨(some (65, true)), (some 67), .bin .eql (.t 66) (.c (.int .i64 1))⟩,
      ⟨none, (some 68), .pick (.t 65) (.t 67) (.c (.bool false))⟩,
      ⟨none, (some 69), .mv (.t 68)⟩,
      ⟨(some (69, true)), (some 70), .load true 2 (.t 6)⟩,
      ⟨(some (69, true)), (some 71), .build [(.int .i64 0), (.int .i64 0)] [(0, 1, (.c (.int .i64 160))), (1, 1, (.c (.int .i64 171)))]⟩,
      ⟨(some (69, true)), (some 72), .eqs false (.node [(0, 1, (.leaf true)), (1, 1, (.leaf true))]) (.t 70) (.t 71)⟩,
      ⟨none, (some 73), .pick (.t 69) (.t 72) (.c (.bool false))⟩,
      ⟨none, (some 74), .mv (.t 73)⟩,
      ⟨(some (74, true)), (some 75), .mv (.t 8)⟩,
      ⟨(some (74, true)), (some 76), .bsl 8 3 1 [(.c (.int .i64 2))] []⟩,
      ⟨(some (74, true)), (some 77), .call 29 [(.t 75), (.t 76)]⟩,
      ⟨none, (some 78), .pick (.t 74) (.t 77) (.c (.bool false))⟩,
      ⟨none, (some 79), .mv (.t 78)⟩,
      ⟨(some (79, true)), (some 80), .mv (.t 10)⟩,
      ⟨(some (79, true)), (some 81), .bin .eql (.t 80) (.c (.int .i64 480))⟩,
      ⟨none, (some 82), .pick (.t 79) (.t 81) (.c (.bool false))⟩,
      ⟨none, (some 0), .mv (.t 82)⟩])
    .ret)))))))))
theorem ok17 : FnOk Try.prog 17 83 9 c17 [.t 0] := ⟨_, _, Try.func17, rfl, rfl, by kernel_rfl, by kernel_rfl⟩
theorem bd17 : bodied Try.prog 17 = true := by kernel_rfl

/-- ferrule/cloth.Stretches -/
def c18 : CI := (.seq (.reg [⟨none, (some 2), .box 0 true (.t 0)⟩,
      ⟨none, (some 4), .mv (.c .nils)⟩,
      ⟨none, (some 5), .mv (.c (.int .i64 0))⟩])
    (.seq (.reg [⟨none, (some 9), .load true 6 (.t 2)⟩,
      ⟨none, (some 10), .faddr 0 (.t 2)⟩,
      ⟨none, (some 11), .load false 1 (.t 10)⟩,
      ⟨none, (some 12), .mv (.t 1)⟩,
      ⟨none, (some 13), .callz 1 5 46 [(.t 9), (.t 11), (.t 12)] []⟩,
      ⟨none, (some 8), .mv (.t 13)⟩,
      ⟨none, (some 14), .extract 0 (.t 8)⟩,
      ⟨none, (some 15), .extract 1 (.t 8)⟩,
      ⟨none, (some 6), .alloc 6 [.nils, .nils, (.int .i64 0), .nils, .nils, (.int .i64 0), .nils]⟩,
      ⟨none, none, .stz true 7 (.t 6) (.t 14) []⟩,
      ⟨none, (some 7), .mv (.t 15)⟩])
    (.seq (.seq (.reg [⟨none, (some 16), .mv (.t 7)⟩,
      ⟨none, (some 17), .bin .neq (.t 16) (.c (.int .i64 0))⟩])
    (.cond (.t 17) (.seq (.reg [⟨none, (some 18), .mv (.t 7)⟩,
      ⟨none, (some 4), .mv (.c .nils)⟩,
      ⟨none, (some 5), .mv (.t 18)⟩])
    .ret)
    .skip))
    (.seq (.reg [⟨none, (some 19), .faddr 6 (.t 6)⟩,
      ⟨none, (some 20), .load false 1 (.t 19)⟩,
      ⟨none, (some 21), .mv (.t 1)⟩,
      ⟨none, (some 22), .iaddr 1 (.t 20) (.t 21)⟩,
      ⟨none, (some 23), .load false 1 (.t 22)⟩,
      ⟨none, (some 4), .mv (.t 23)⟩,
      ⟨none, (some 5), .mv (.c (.int .i64 0))⟩])
    .ret))))
theorem ok18 : FnOk Try.prog 18 24 7 c18 [.t 4, .t 5] := ⟨_, _, Try.func18, rfl, rfl, by kernel_rfl, by kernel_rfl⟩
theorem bd18 : bodied Try.prog 18 = true := by kernel_rfl

/-- ferrule/ferrulelaw02.in -/
def c19 : CI := (.seq (.reg [⟨none, (some 4), .mv (.c (.bool false))⟩])
    (.seq (.seq (.reg [⟨none, (some 5), .mv (.c (.int .i64 0))⟩])
    (.block 0 (.loop (.seq (.seq (.reg [⟨none, (some 6), .mv (.t 5)⟩,
      ⟨none, (some 7), .mv (.t 0)⟩,
      ⟨none, (some 8), .len (.t 7)⟩,
      ⟨none, (some 9), .bin .lss (.t 6) (.t 8)⟩])
    (.cond (.t 9) .skip
    (.exit 0)))
    (.seq (.block 1 (.seq (.reg [⟨none, (some 12), .mv (.t 0)⟩,
      ⟨none, (some 13), .mv (.t 5)⟩,
      ⟨none, (some 14), .iaddr 1 (.t 12) (.t 13)⟩,
      ⟨none, (some 15), .load false 1 (.t 14)⟩,
      ⟨none, (some 16), .mv (.t 1)⟩,
      ⟨none, (some 17), .bin .eql (.t 15) (.t 16)⟩])
    (.cond (.t 17) (.seq (.reg [⟨none, (some 4), .mv (.c (.bool true))⟩])
    .ret)
    .skip)))
    (.reg [⟨none, (some 10), .mv (.t 5)⟩,
      ⟨none, (some 11), .bin .add (.t 10) (.c (.int .i64 1))⟩,
      ⟨none, (some 5), .mv (.t 11)⟩]))))))
    (.seq (.reg [⟨none, (some 4), .mv (.c (.bool false))⟩])
    .ret)))
theorem ok19 : FnOk Try.prog 19 18 0 c19 [.t 4] := ⟨_, _, Try.func19, rfl, rfl, by kernel_rfl, by kernel_rfl⟩
theorem bd19 : bodied Try.prog 19 = true := by kernel_rfl

/-- ferrule/ferruleref02.RoundBy -/
def c20 : CI := (.seq (.reg [⟨none, (some 3), .box 0 true (.t 0)⟩,
      ⟨none, (some 6), .mv (.c (.int .i64 0))⟩])
    (.seq (.reg [⟨none, (some 7), .mv (.c (.int .i64 0))⟩])
    (.seq (.seq (.reg [⟨none, (some 8), .mv (.c (.int .i64 0))⟩])
    (.block 0 (.loop (.seq (.seq (.reg [⟨none, (some 9), .mv (.t 8)⟩,
      ⟨none, (some 10), .faddr 1 (.t 3)⟩,
      ⟨none, (some 11), .load false 1 (.t 10)⟩,
      ⟨none, (some 12), .len (.t 11)⟩,
      ⟨none, (some 13), .bin .lss (.t 9) (.t 12)⟩])
    (.cond (.t 13) .skip
    (.exit 0)))
    (.seq (.block 1 (.reg [⟨none, (some 16), .mv (.t 7)⟩,
      ⟨none, (some 17), .mv (.t 1)⟩,
      ⟨none, (some 18), .faddr 2 (.t 3)⟩,
      ⟨none, (some 19), .load false 1 (.t 18)⟩,
      ⟨none, (some 20), .bin .mul (.c (.int .i64 2)) (.t 19)⟩,
      ⟨none, (some 21), .bin .sub (.t 17) (.t 20)⟩,
      ⟨none, (some 22), .mv (.t 2)⟩,
      ⟨none, (some 23), .faddr 1 (.t 3)⟩,
      ⟨none, (some 24), .load false 1 (.t 23)⟩,
      ⟨none, (some 25), .mv (.t 8)⟩,
      ⟨none, (some 26), .iaddr 1 (.t 24) (.t 25)⟩,
      ⟨none, (some 27), .load false 1 (.t 26)⟩,
      ⟨none, (some 28), .iaddr 1 (.t 22) (.t 27)⟩,
      ⟨none, (some 29), .load false 1 (.t 28)⟩,
      ⟨none, (some 30), .call 47 [(.t 21), (.t 29)]⟩,
      ⟨none, (some 31), .bin .add (.t 16) (.t 30)⟩,
      ⟨none, (some 7), .mv (.t 31)⟩]))
    (.reg [⟨none, (some 14), .mv (.t 8)⟩,
      ⟨none, (some 15), .bin .add (.t 14) (.c (.int .i64 1))⟩,
      ⟨none, (some 8), .mv (.t 15)⟩]))))))
    (.seq (.reg [⟨none, (some 32), .mv (.t 7)⟩,
      ⟨none, (some 6), .mv (.t 32)⟩])
    .ret))))
theorem ok20 : FnOk Try.prog 20 33 1 c20 [.t 6] := ⟨_, _, Try.func20, rfl, rfl, by kernel_rfl, by kernel_rfl⟩
theorem bd20 : bodied Try.prog 20 = true := by kernel_rfl

/-- ferrule/cloth.Round -/
def c21 : CI := (.seq (.reg [⟨none, (some 2), .box 0 true (.t 0)⟩,
      ⟨none, (some 4), .alloc 1 [(.int .i64 0), (.int .i64 0)]⟩,
      ⟨none, (some 5), .mv (.c (.int .i64 0))⟩])
    (.seq (.reg [⟨none, (some 9), .load true 6 (.t 2)⟩,
      ⟨none, (some 10), .faddr 3 (.t 2)⟩,
      ⟨none, (some 11), .load false 1 (.t 10)⟩,
      ⟨none, (some 12), .mv (.t 1)⟩,
      ⟨none, (some 13), .callz 2 5 48 [(.t 9), (.t 11), (.t 12)] []⟩,
      ⟨none, (some 8), .mv (.t 13)⟩,
      ⟨none, (some 14), .extract 0 (.t 8)⟩,
      ⟨none, (some 15), .extract 1 (.t 8)⟩,
      ⟨none, (some 6), .alloc 7 [.nils, .nils, (.int .i64 0), .nils, .nils, (.int .i64 0), .nils]⟩,
      ⟨none, none, .stz true 7 (.t 6) (.t 14) []⟩,
      ⟨none, (some 7), .mv (.t 15)⟩])
    (.seq (.seq (.reg [⟨none, (some 16), .mv (.t 7)⟩,
      ⟨none, (some 17), .bin .neq (.t 16) (.c (.int .i64 0))⟩])
    (.cond (.t 17) (.seq (.reg [⟨none, (some 18), .build [(.int .i64 0), (.int .i64 0)] []⟩,
      ⟨none, (some 19), .mv (.t 7)⟩,
      ⟨none, none, .store true 2 (.t 4) (.t 18) []⟩,
      ⟨none, (some 5), .mv (.t 19)⟩])
    .ret)
    .skip))
    (.seq (.reg [⟨none, (some 20), .load true 7 (.t 6)⟩,
      ⟨none, (some 21), .faddr 4 (.t 2)⟩,
      ⟨none, (some 22), .load false 1 (.t 21)⟩,
      ⟨none, (some 23), .mv (.t 1)⟩,
      ⟨none, (some 24), .iaddr 1 (.t 22) (.t 23)⟩,
      ⟨none, (some 25), .load false 1 (.t 24)⟩,
      ⟨none, (some 26), .call 49 [(.t 20), (.t 25)]⟩,
      ⟨none, none, .store true 2 (.t 4) (.t 26) []⟩,
      ⟨none, (some 5), .mv (.c (.int .i64 0))⟩])
    .ret))))
theorem ok21 : FnOk Try.prog 21 27 8 c21 [.cell 4 true 2, .t 5] := ⟨_, _, Try.func21, rfl, rfl, by kernel_rfl, by kernel_rfl⟩
theorem bd21 : bodied Try.prog 21 = true := by kernel_rfl

/-- ferrule/cloth.Tight -/
def c22 : CI := (.seq (.reg [⟨none, (some 2), .box 0 true (.t 0)⟩,
      ⟨none, (some 4), .mv (.c (.int .i64 0))⟩,
      ⟨none, (some 5), .mv (.c (.int .i64 0))⟩])
    (.seq (.reg [⟨none, (some 9), .load true 6 (.t 2)⟩,
      ⟨none, (some 10), .faddr 3 (.t 2)⟩,
      ⟨none, (some 11), .load false 1 (.t 10)⟩,
      ⟨none, (some 12), .mv (.t 1)⟩,
      ⟨none, (some 13), .callz 1 5 48 [(.t 9), (.t 11), (.t 12)] []⟩,
      ⟨none, (some 8), .mv (.t 13)⟩,
      ⟨none, (some 14), .extract 0 (.t 8)⟩,
      ⟨none, (some 15), .extract 1 (.t 8)⟩,
      ⟨none, (some 6), .alloc 6 [.nils, .nils, (.int .i64 0), .nils, .nils, (.int .i64 0), .nils]⟩,
      ⟨none, none, .stz true 7 (.t 6) (.t 14) []⟩,
      ⟨none, (some 7), .mv (.t 15)⟩])
    (.seq (.seq (.reg [⟨none, (some 16), .mv (.t 7)⟩,
      ⟨none, (some 17), .bin .neq (.t 16) (.c (.int .i64 0))⟩])
    (.cond (.t 17) (.seq (.reg [⟨none, (some 18), .mv (.t 7)⟩,
      ⟨none, (some 4), .mv (.c (.int .i64 0))⟩,
      ⟨none, (some 5), .mv (.t 18)⟩])
    .ret)
    .skip))
    (.seq (.reg [⟨none, (some 19), .load true 7 (.t 6)⟩,
      ⟨none, (some 20), .mv (.t 1)⟩,
      ⟨none, (some 21), .call 50 [(.t 19), (.t 20)]⟩,
      ⟨none, (some 4), .mv (.t 21)⟩,
      ⟨none, (some 5), .mv (.c (.int .i64 0))⟩])
    .ret))))
theorem ok22 : FnOk Try.prog 22 22 7 c22 [.t 4, .t 5] := ⟨_, _, Try.func22, rfl, rfl, by kernel_rfl, by kernel_rfl⟩
theorem bd22 : bodied Try.prog 22 = true := by kernel_rfl

/-- ferrule/cloth.Loose -/
def c23 : CI := (.seq (.reg [⟨none, (some 1), .box 0 true (.t 0)⟩,
      ⟨none, (some 2), .mv (.c .nils)⟩,
      ⟨none, (some 3), .mv (.c (.int .i64 0))⟩])
    (.seq (.reg [⟨none, (some 10), .load true 6 (.t 1)⟩,
      ⟨none, (some 11), .callz 1 5 51 [(.t 10)] []⟩,
      ⟨none, (some 9), .mv (.t 11)⟩,
      ⟨none, (some 12), .extract 0 (.t 9)⟩,
      ⟨none, (some 13), .extract 1 (.t 9)⟩,
      ⟨none, (some 4), .alloc 6 [.nils, .nils, (.int .i64 0), .nils, .nils, (.int .i64 0), .nils]⟩,
      ⟨none, none, .stz true 7 (.t 4) (.t 12) []⟩,
      ⟨none, (some 5), .mv (.t 13)⟩])
    (.seq (.seq (.reg [⟨none, (some 14), .mv (.t 5)⟩,
      ⟨none, (some 15), .bin .neq (.t 14) (.c (.int .i64 0))⟩])
    (.cond (.t 15) (.seq (.reg [⟨none, (some 16), .mv (.t 5)⟩,
      ⟨none, (some 2), .mv (.c .nils)⟩,
      ⟨none, (some 3), .mv (.t 16)⟩])
    .ret)
    .skip))
    (.seq (.reg [⟨none, (some 6), .mv (.c .nils)⟩])
    (.seq (.seq (.reg [⟨none, (some 17), .faddr 0 (.t 4)⟩,
      ⟨none, (some 18), .faddr 4 (.t 17)⟩,
      ⟨none, (some 19), .load false 1 (.t 18)⟩,
      ⟨none, (some 20), .len (.t 19)⟩,
      ⟨none, (some 21), .mv (.c (.int .i64 0))⟩])
    (.block 0 (.loop (.seq (.reg [⟨none, (some 22), .bin .lss (.t 21) (.t 20)⟩])
    (.seq (.cond (.t 22) .skip
    (.exit 0))
    (.seq (.block 1 (.seq (.reg [⟨none, (some 23), .mv (.t 21)⟩,
      ⟨none, (some 24), .iaddr 1 (.t 19) (.t 21)⟩,
      ⟨none, (some 25), .load false 1 (.t 24)⟩,
      ⟨none, (some 7), .mv (.t 23)⟩,
      ⟨none, (some 8), .mv (.t 25)⟩])
    (.seq (.reg [⟨none, (some 26), .load true 7 (.t 4)⟩,
      ⟨none, (some 27), .mv (.t 7)⟩,
      ⟨none, (some 28), .mv (.t 8)⟩,
      ⟨none, (some 29), .call 52 [(.t 26), (.t 27), (.t 28)]⟩,
      ⟨none, (some 30), .un .not (.t 29)⟩])
    (.cond (.t 30) (.reg [⟨none, (some 31), .mv (.t 6)⟩,
      ⟨none, (some 32), .mv (.t 7)⟩,
      ⟨none, (some 33), .bsl 7 3 1 [(.t 32)] []⟩,
      ⟨none, (some 34), .apd 8 3 1 8 (.t 31) (.t 33) []⟩,
      ⟨none, (some 6), .mv (.t 34)⟩])
    .skip))))
    (.reg [⟨none, (some 35), .bin .add (.t 21) (.c (.int .i64 1))⟩,
      ⟨none, (some 21), .mv (.t 35)⟩])))))))
    (.seq (.reg [⟨none, (some 36), .mv (.t 6)⟩,
      ⟨none, (some 2), .mv (.t 36)⟩,
      ⟨none, (some 3), .mv (.c (.int .i64 0))⟩])
    .ret))))))
theorem ok23 : FnOk Try.prog 23 37 9 c23 [.t 2, .t 3] := ⟨_, _, Try.func23, rfl, rfl, by kernel_rfl, by kernel_rfl⟩
theorem bd23 : bodied Try.prog 23 = true := by kernel_rfl

/-- ferrule/ferrulelaw02.holds -/
def c24 : CI := (.seq (.reg [⟨none, (some 2), .box 0 true (.t 0)⟩,
      ⟨none, (some 4), .mv (.c (.bool false))⟩])
    (.seq (.reg [⟨none, (some 5), .faddr 0 (.t 2)⟩,
      ⟨none, (some 6), .load false 1 (.t 5)⟩,
      ⟨none, (some 7), .mv (.t 1)⟩,
      ⟨none, (some 8), .bin .leq (.t 6) (.t 7)⟩,
      ⟨none, (some 9), .mv (.t 8)⟩,
      ⟨(some (9, true)), (some 10), .mv (.t 1)⟩,
      ⟨(some (9, true)), (some 11), .faddr 1 (.t 2)⟩,
      ⟨(some (9, true)), (some 12), .load false 1 (.t 11)⟩,
      ⟨(some (9, true)), (some 13), .bin .leq (.t 10) (.t 12)⟩,
      ⟨none, (some 14), .pick (.t 9) (.t 13) (.c (.bool false))⟩,
      ⟨none, (some 4), .mv (.t 14)⟩])
    .ret))
theorem ok24 : FnOk Try.prog 24 15 1 c24 [.t 4] := ⟨_, _, Try.func24, rfl, rfl, by kernel_rfl, by kernel_rfl⟩
theorem bd24 : bodied Try.prog 24 = true := by kernel_rfl

/-- ferrule/ferrulelaw02.cutTo -/
def c25 : CI := (.seq (.reg [⟨none, (some 3), .box 0 true (.t 0)⟩,
      ⟨none, (some 6), .alloc 1 [.nils, .nils, (.int .i64 0), .nils, .nils, (.int .i64 0)]⟩])
    (.seq (.reg [⟨none, (some 8), .load true 6 (.t 3)⟩,
      ⟨none, (some 9), .callz 2 4 27 [(.t 8)] []⟩,
      ⟨none, (some 7), .alloc 6 [.nils, .nils, (.int .i64 0), .nils, .nils, (.int .i64 0)]⟩,
      ⟨none, none, .stz true 6 (.t 7) (.t 9) []⟩])
    (.seq (.reg [⟨none, (some 10), .faddr 4 (.t 7)⟩,
      ⟨none, (some 11), .load false 1 (.t 10)⟩,
      ⟨none, (some 12), .mv (.t 1)⟩,
      ⟨none, (some 13), .mv (.t 2)⟩,
      ⟨none, (some 14), .iaddr 1 (.t 11) (.t 12)⟩,
      ⟨none, none, .store false 1 (.t 14) (.t 13) []⟩])
    (.seq (.reg [⟨none, (some 15), .load true 6 (.t 7)⟩,
      ⟨none, none, .stz true 6 (.t 6) (.t 15) []⟩])
    .ret))))
theorem ok25 : FnOk Try.prog 25 16 7 c25 [.cell 6 true 6] := ⟨_, _, Try.func25, rfl, rfl, by kernel_rfl, by kernel_rfl⟩
theorem bd25 : bodied Try.prog 25 = true := by kernel_rfl

/-- ferrule/cloth.Cut -/
def c26 : CI := (.seq (.reg [⟨none, (some 2), .box 0 true (.t 0)⟩,
      ⟨none, (some 4), .alloc 1 [(.int .i64 0), (.int .i64 0)]⟩,
      ⟨none, (some 5), .mv (.c (.int .i64 0))⟩])
    (.seq (.reg [⟨none, (some 9), .load true 6 (.t 2)⟩,
      ⟨none, (some 10), .faddr 3 (.t 2)⟩,
      ⟨none, (some 11), .load false 1 (.t 10)⟩,
      ⟨none, (some 12), .mv (.t 1)⟩,
      ⟨none, (some 13), .callz 2 5 48 [(.t 9), (.t 11), (.t 12)] []⟩,
      ⟨none, (some 8), .mv (.t 13)⟩,
      ⟨none, (some 14), .extract 0 (.t 8)⟩,
      ⟨none, (some 15), .extract 1 (.t 8)⟩,
      ⟨none, (some 6), .alloc 7 [.nils, .nils, (.int .i64 0), .nils, .nils, (.int .i64 0), .nils]⟩,
      ⟨none, none, .stz true 7 (.t 6) (.t 14) []⟩,
      ⟨none, (some 7), .mv (.t 15)⟩])
    (.seq (.seq (.reg [⟨none, (some 16), .mv (.t 7)⟩,
      ⟨none, (some 17), .bin .neq (.t 16) (.c (.int .i64 0))⟩])
    (.cond (.t 17) (.seq (.reg [⟨none, (some 18), .build [(.int .i64 0), (.int .i64 0)] []⟩,
      ⟨none, (some 19), .mv (.t 7)⟩,
      ⟨none, none, .store true 2 (.t 4) (.t 18) []⟩,
      ⟨none, (some 5), .mv (.t 19)⟩])
    .ret)
    .skip))
    (.seq (.reg [⟨none, (some 20), .load true 7 (.t 6)⟩,
      ⟨none, (some 21), .mv (.t 1)⟩,
      ⟨none, (some 22), .call 53 [(.t 20), (.t 21)]⟩,
      ⟨none, (some 23), .extract 0 (.t 22)⟩,
      ⟨none, (some 24), .extract 1 (.t 22)⟩,
      ⟨none, none, .store true 2 (.t 4) (.t 23) []⟩,
      ⟨none, (some 5), .mv (.t 24)⟩])
    .ret))))
theorem ok26 : FnOk Try.prog 26 25 8 c26 [.cell 4 true 2, .t 5] := ⟨_, _, Try.func26, rfl, rfl, by kernel_rfl, by kernel_rfl⟩
theorem bd26 : bodied Try.prog 26 = true := by kernel_rfl

/-- ferrule/ferruleref02.Copy -/
def c27 : CI := (.seq (.reg [⟨none, (some 1), .box 0 true (.t 0)⟩,
      ⟨none, (some 2), .alloc 1 [.nils, .nils, (.int .i64 0), .nils, .nils, (.int .i64 0)]⟩])
    (.seq (.reg [⟨none, (some 5), .load true 6 (.t 1)⟩,
      ⟨none, (some 3), .alloc 2 [.nils, .nils, (.int .i64 0), .nils, .nils, (.int .i64 0)]⟩,
      ⟨none, none, .stz true 6 (.t 3) (.t 5) []⟩])
    (.seq (.reg [⟨none, (some 6), .bsl 3 52 4 [] []⟩,
      ⟨none, (some 7), .faddr 0 (.t 1)⟩,
      ⟨none, (some 8), .load false 1 (.t 7)⟩,
      ⟨none, (some 9), .apd 4 52 4 48 (.t 6) (.t 8) []⟩,
      ⟨none, (some 10), .faddr 0 (.t 3)⟩,
      ⟨none, none, .stz false 1 (.t 10) (.t 9) []⟩])
    (.seq (.seq (.reg [⟨none, (some 4), .mv (.c (.int .i64 0))⟩])
    (.block 0 (.loop (.seq (.seq (.reg [⟨none, (some 11), .mv (.t 4)⟩,
      ⟨none, (some 12), .faddr 0 (.t 3)⟩,
      ⟨none, (some 13), .load false 1 (.t 12)⟩,
      ⟨none, (some 14), .len (.t 13)⟩,
      ⟨none, (some 15), .bin .lss (.t 11) (.t 14)⟩])
    (.cond (.t 15) .skip
    (.exit 0)))
    (.seq (.block 1 (.reg [⟨none, (some 18), .faddr 0 (.t 3)⟩,
      ⟨none, (some 19), .load false 1 (.t 18)⟩,
      ⟨none, (some 20), .mv (.t 4)⟩,
      ⟨none, (some 22), .faddr 0 (.t 1)⟩,
      ⟨none, (some 23), .load false 1 (.t 22)⟩,
      ⟨none, (some 24), .mv (.t 4)⟩,
      ⟨none, (some 25), .iaddr 4 (.t 23) (.t 24)⟩,
      ⟨none, (some 26), .faddr 2 (.t 25)⟩,
      ⟨none, (some 27), .load false 1 (.t 26)⟩,
      ⟨none, (some 21), .bsl 5 47 3 [] []⟩,
      ⟨none, (some 28), .apd 6 47 3 24 (.t 21) (.t 27) [(.t 18)]⟩,
      ⟨none, (some 29), .iaddr 4 (.t 19) (.t 20)⟩,
      ⟨none, (some 30), .faddr 2 (.t 29)⟩,
      ⟨none, none, .stz false 1 (.t 30) (.t 28) []⟩]))
    (.reg [⟨none, (some 16), .mv (.t 4)⟩,
      ⟨none, (some 17), .bin .add (.t 16) (.c (.int .i64 1))⟩,
      ⟨none, (some 4), .mv (.t 17)⟩]))))))
    (.seq (.reg [⟨none, (some 32), .faddr 1 (.t 1)⟩,
      ⟨none, (some 33), .load false 1 (.t 32)⟩,
      ⟨none, (some 36), .faddr 3 (.t 1)⟩,
      ⟨none, (some 37), .load false 1 (.t 36)⟩,
      ⟨none, (some 40), .faddr 4 (.t 1)⟩,
      ⟨none, (some 41), .load false 1 (.t 40)⟩,
      ⟨none, (some 31), .bsl 7 3 1 [] []⟩,
      ⟨none, (some 34), .apd 8 3 1 8 (.t 31) (.t 33) [(.t 36), (.t 40)]⟩,
      ⟨none, (some 35), .bsl 9 36 2 [] [(.t 31), (.t 33)]⟩,
      ⟨none, (some 38), .apd 10 36 2 16 (.t 35) (.t 37) [(.t 40)]⟩,
      ⟨none, (some 39), .bsl 11 3 1 [] [(.t 31), (.t 33), (.t 35), (.t 37)]⟩,
      ⟨none, (some 42), .apd 12 3 1 8 (.t 39) (.t 41) []⟩,
      ⟨none, (some 43), .faddr 1 (.t 3)⟩,
      ⟨none, none, .stz false 1 (.t 43) (.t 34) []⟩,
      ⟨none, (some 44), .faddr 3 (.t 3)⟩,
      ⟨none, none, .stz false 1 (.t 44) (.t 38) []⟩,
      ⟨none, (some 45), .faddr 4 (.t 3)⟩,
      ⟨none, none, .stz false 1 (.t 45) (.t 42) []⟩])
    (.seq (.reg [⟨none, (some 46), .load true 6 (.t 3)⟩,
      ⟨none, none, .stz true 6 (.t 2) (.t 46) []⟩])
    .ret))))))
theorem ok27 : FnOk Try.prog 27 47 13 c27 [.cell 2 true 6] := ⟨_, _, Try.func27, rfl, rfl, by kernel_rfl, by kernel_rfl⟩
theorem bd27 : bodied Try.prog 27 = true := by kernel_rfl

/-- ferrule/ferruleref02.Check -/
def c28 : CI := (.seq (.reg [⟨none, (some 1), .box 0 true (.t 0)⟩,
      ⟨none, (some 2), .mv (.c (.int .i64 0))⟩])
    (.seq (.seq (.reg [⟨none, (some 6), .faddr 0 (.t 1)⟩,
      ⟨none, (some 7), .load false 1 (.t 6)⟩,
      ⟨none, (some 8), .len (.t 7)⟩,
      ⟨none, (some 9), .call 54 [(.t 8), (.c (.int .i64 1)), (.c (.int .i64 4))]⟩,
      ⟨none, (some 10), .un .not (.t 9)⟩,
      ⟨none, (some 11), .mv (.t 10)⟩,
      ⟨(some (11, false)), (some 12), .faddr 1 (.t 1)⟩,
      ⟨(some (11, false)), (some 13), .load false 1 (.t 12)⟩,
      ⟨(some (11, false)), (some 14), .len (.t 13)⟩,
      ⟨(some (11, false)), (some 15), .call 54 [(.t 14), (.c (.int .i64 3)), (.c (.int .i64 16))]⟩,
      ⟨(some (11, false)), (some 16), .un .not (.t 15)⟩,
      ⟨none, (some 17), .pick (.t 11) (.c (.bool true)) (.t 16)⟩,
      ⟨none, (some 18), .mv (.t 17)⟩,
      ⟨(some (18, false)), (some 19), .faddr 2 (.t 1)⟩,
      ⟨(some (18, false)), (some 20), .load false 1 (.t 19)⟩,
      ⟨(some (18, false)), (some 21), .call 54 [(.t 20), (.c (.int .i64 0)), (.c (.int .i64 20))]⟩,
      ⟨(some (18, false)), (some 22), .un .not (.t 21)⟩,
      ⟨none, (some 23), .pick (.t 18) (.c (.bool true)) (.t 22)⟩,
      ⟨none, (some 24), .mv (.t 23)⟩,
      ⟨(some (24, false)), (some 25), .faddr 3 (.t 1)⟩,
      ⟨(some (24, false)), (some 26), .load false 1 (.t 25)⟩,
      ⟨(some (24, false)), (some 27), .len (.t 26)⟩,
      ⟨(some (24, false)), (some 28), .call 54 [(.t 27), (.c (.int .i64 1)), (.c (.int .i64 12))]⟩,
      ⟨(some (24, false)), (some 29), .un .not (.t 28)⟩,
      ⟨none, (some 30), .pick (.t 24) (.c (.bool true)) (.t 29)⟩,
      ⟨none, (some 31), .mv (.t 30)⟩,
      ⟨(some (31, false)), (some 32), .faddr 4 (.t 1)⟩,
      ⟨(some (31, false)), (some 33), .load false 1 (.t 32)⟩,
      ⟨(some (31, false)), (some 34), .len (.t 33)⟩,
      ⟨(some (31, false)), (some 35), .faddr 3 (.t 1)⟩,
      ⟨(some (31, false)), (some 36), .load false 1 (.t 35)⟩,
      ⟨(some (31, false)), (some 37), .len (.t 36)⟩,
      ⟨(some (31, false)), (some 38), .bin .neq (.t 34) (.t 37)⟩,
      ⟨none, (some 39), .pick (.t 31) (.c (.bool true)) (.t 38)⟩,
      ⟨none, (some 40), .mv (.t 39)⟩,
      ⟨(some (40, false)), (some 41), .faddr 5 (.t 1)⟩,
      ⟨(some (40, false)), (some 42), .load false 1 (.t 41)⟩,
      ⟨(some (40, false)), (some 43), .call 54 [(.t 42), (.c (.int .i64 0)), (.c (.int .i64 500))]⟩,
      ⟨(some (40, false)), (some 44), .un .not (.t 43)⟩,
      ⟨none, (some 45), .pick (.t 40) (.c (.bool true)) (.t 44)⟩])
    (.cond (.t 45) (.seq (.reg [⟨none, (some 2), .mv (.c (.int .i64 20))⟩])
    .ret)
    .skip))
    (.seq (.seq (.reg [⟨none, (some 3), .mv (.c (.int .i64 0))⟩])
    (.block 0 (.loop (.seq (.seq (.reg [⟨none, (some 46), .mv (.t 3)⟩,
      ⟨none, (some 47), .faddr 1 (.t 1)⟩,
      ⟨none, (some 48), .load false 1 (.t 47)⟩,
      ⟨none, (some 49), .len (.t 48)⟩,
      ⟨none, (some 50), .bin .lss (.t 46) (.t 49)⟩])
    (.cond (.t 50) .skip
    (.exit 0)))
    (.seq (.block 1 (.seq (.reg [⟨none, (some 53), .faddr 1 (.t 1)⟩,
      ⟨none, (some 54), .load false 1 (.t 53)⟩,
      ⟨none, (some 55), .mv (.t 3)⟩,
      ⟨none, (some 56), .iaddr 1 (.t 54) (.t 55)⟩,
      ⟨none, (some 57), .load false 1 (.t 56)⟩,
      ⟨none, (some 58), .faddr 0 (.t 1)⟩,
      ⟨none, (some 59), .load false 1 (.t 58)⟩,
      ⟨none, (some 60), .len (.t 59)⟩,
      ⟨none, (some 61), .bin .sub (.t 60) (.c (.int .i64 1))⟩,
      ⟨none, (some 62), .call 54 [(.t 57), (.c (.int .i64 0)), (.t 61)]⟩,
      ⟨none, (some 63), .un .not (.t 62)⟩])
    (.cond (.t 63) (.seq (.reg [⟨none, (some 2), .mv (.c (.int .i64 20))⟩])
    .ret)
    .skip)))
    (.reg [⟨none, (some 51), .mv (.t 3)⟩,
      ⟨none, (some 52), .bin .add (.t 51) (.c (.int .i64 1))⟩,
      ⟨none, (some 3), .mv (.t 52)⟩]))))))
    (.seq (.seq (.reg [⟨none, (some 4), .mv (.c (.int .i64 0))⟩])
    (.block 2 (.loop (.seq (.seq (.reg [⟨none, (some 64), .mv (.t 4)⟩,
      ⟨none, (some 65), .faddr 3 (.t 1)⟩,
      ⟨none, (some 66), .load false 1 (.t 65)⟩,
      ⟨none, (some 67), .len (.t 66)⟩,
      ⟨none, (some 68), .bin .lss (.t 64) (.t 67)⟩])
    (.cond (.t 68) .skip
    (.exit 2)))
    (.seq (.block 3 (.seq (.reg [⟨none, (some 71), .faddr 3 (.t 1)⟩,
      ⟨none, (some 72), .load false 1 (.t 71)⟩,
      ⟨none, (some 73), .mv (.t 4)⟩,
      ⟨none, (some 74), .iaddr 2 (.t 72) (.t 73)⟩,
      ⟨none, (some 75), .load true 2 (.t 74)⟩,
      ⟨none, (some 76), .call 55 [(.t 75), (.c (.int .i64 40000))]⟩,
      ⟨none, (some 77), .un .not (.t 76)⟩,
      ⟨none, (some 78), .mv (.t 77)⟩,
      ⟨(some (78, false)), (some 79), .faddr 4 (.t 1)⟩,
      ⟨(some (78, false)), (some 80), .load false 1 (.t 79)⟩,
      ⟨(some (78, false)), (some 81), .mv (.t 4)⟩,
      ⟨(some (78, false)), (some 82), .iaddr 1 (.t 80) (.t 81)⟩,
      ⟨(some (78, false)), (some 83), .load false 1 (.t 82)⟩,
      ⟨(some (78, false)), (some 84), .faddr 2 (.t 1)⟩,
      ⟨(some (78, false)), (some 85), .load false 1 (.t 84)⟩,
      ⟨(some (78, false)), (some 86), .bin .mul (.c (.int .i64 2)) (.t 85)⟩,
      ⟨(some (78, false)), (some 87), .call 54 [(.t 83), (.t 86), (.c (.int .i64 2000))]⟩,
      ⟨(some (78, false)), (some 88), .un .not (.t 87)⟩,
      ⟨none, (some 89), .pick (.t 78) (.c (.bool true)) (.t 88)⟩])
    (.cond (.t 89) (.seq (.reg [⟨none, (some 2), .mv (.c (.int .i64 20))⟩])
    .ret)
    .skip)))
    (.reg [⟨none, (some 69), .mv (.t 4)⟩,
      ⟨none, (some 70), .bin .add (.t 69) (.c (.int .i64 1))⟩,
      ⟨none, (some 4), .mv (.t 70)⟩]))))))
    (.seq (.seq (.reg [⟨none, (some 5), .mv (.c (.int .i64 0))⟩])
    (.block 4 (.loop (.seq (.seq (.reg [⟨none, (some 90), .mv (.t 5)⟩,
      ⟨none, (some 91), .faddr 0 (.t 1)⟩,
      ⟨none, (some 92), .load false 1 (.t 91)⟩,
      ⟨none, (some 93), .len (.t 92)⟩,
      ⟨none, (some 94), .bin .lss (.t 90) (.t 93)⟩])
    (.cond (.t 94) .skip
    (.exit 4)))
    (.seq (.block 5 (.seq (.reg [⟨none, (some 97), .faddr 0 (.t 1)⟩,
      ⟨none, (some 98), .load false 1 (.t 97)⟩,
      ⟨none, (some 99), .mv (.t 5)⟩,
      ⟨none, (some 100), .iaddr 4 (.t 98) (.t 99)⟩,
      ⟨none, (some 101), .load true 4 (.t 100)⟩,
      ⟨none, (some 102), .call 56 [(.t 101)]⟩,
      ⟨none, (some 103), .un .not (.t 102)⟩])
    (.cond (.t 103) (.seq (.reg [⟨none, (some 2), .mv (.c (.int .i64 21))⟩])
    .ret)
    .skip)))
    (.reg [⟨none, (some 95), .mv (.t 5)⟩,
      ⟨none, (some 96), .bin .add (.t 95) (.c (.int .i64 1))⟩,
      ⟨none, (some 5), .mv (.t 96)⟩]))))))
    (.seq (.reg [⟨none, (some 2), .mv (.c (.int .i64 0))⟩])
    .ret))))))
theorem ok28 : FnOk Try.prog 28 104 1 c28 [.t 2] := ⟨_, _, Try.func28, rfl, rfl, by kernel_rfl, by kernel_rfl⟩
theorem bd28 : bodied Try.prog 28 = true := by kernel_rfl

/-- ferrule/ferrulelaw02.sameInts -/
def c29 : CI := (.seq (.reg [⟨none, (some 4), .mv (.c (.bool false))⟩])
    (.seq (.seq (.reg [⟨none, (some 6), .mv (.t 0)⟩,
      ⟨none, (some 7), .len (.t 6)⟩,
      ⟨none, (some 8), .mv (.t 1)⟩,
      ⟨none, (some 9), .len (.t 8)⟩,
      ⟨none, (some 10), .bin .neq (.t 7) (.t 9)⟩])
    (.cond (.t 10) (.seq (.reg [⟨none, (some 4), .mv (.c (.bool false))⟩])
    .ret)
    .skip))
    (.seq (.seq (.reg [⟨none, (some 5), .mv (.c (.int .i64 0))⟩])
    (.block 0 (.loop (.seq (.seq (.reg [⟨none, (some 11), .mv (.t 5)⟩,
      ⟨none, (some 12), .mv (.t 0)⟩,
      ⟨none, (some 13), .len (.t 12)⟩,
      ⟨none, (some 14), .bin .lss (.t 11) (.t 13)⟩])
    (.cond (.t 14) .skip
    (.exit 0)))
    (.seq (.block 1 (.seq (.reg [⟨none, (some 17), .mv (.t 0)⟩,
      ⟨none, (some 18), .mv (.t 5)⟩,
      ⟨none, (some 19), .iaddr 1 (.t 17) (.t 18)⟩,
      ⟨none, (some 20), .load false 1 (.t 19)⟩,
      ⟨none, (some 21), .mv (.t 1)⟩,
      ⟨none, (some 22), .mv (.t 5)⟩,
      ⟨none, (some 23), .iaddr 1 (.t 21) (.t 22)⟩,
      ⟨none, (some 24), .load false 1 (.t 23)⟩,
      ⟨none, (some 25), .bin .neq (.t 20) (.t 24)⟩])
    (.cond (.t 25) (.seq (.reg [⟨none, (some 4), .mv (.c (.bool false))⟩])
    .ret)
    .skip)))
    (.reg [⟨none, (some 15), .mv (.t 5)⟩,
      ⟨none, (some 16), .bin .add (.t 15) (.c (.int .i64 1))⟩,
      ⟨none, (some 5), .mv (.t 16)⟩]))))))
    (.seq (.reg [⟨none, (some 4), .mv (.c (.bool true))⟩])
    .ret))))
theorem ok29 : FnOk Try.prog 29 26 0 c29 [.t 4] := ⟨_, _, Try.func29, rfl, rfl, by kernel_rfl, by kernel_rfl⟩
theorem bd29 : bodied Try.prog 29 = true := by kernel_rfl

/-- ferrule/cloth.Least -/
def c30 : CI := (.seq (.reg [⟨none, (some 1), .box 0 true (.t 0)⟩,
      ⟨none, (some 2), .mv (.c (.int .i64 0))⟩,
      ⟨none, (some 3), .mv (.c (.int .i64 0))⟩])
    (.seq (.reg [⟨none, (some 10), .load true 6 (.t 1)⟩,
      ⟨none, (some 11), .callz 1 1 43 [(.t 10)] []⟩,
      ⟨none, (some 9), .mv (.t 11)⟩,
      ⟨none, (some 12), .extract 0 (.t 9)⟩,
      ⟨none, (some 13), .extract 1 (.t 9)⟩,
      ⟨none, (some 4), .mv (.t 12)⟩,
      ⟨none, (some 5), .mv (.t 13)⟩])
    (.seq (.reg [⟨none, (some 6), .mv (.c (.int .i64 0))⟩])
    (.seq (.seq (.reg [⟨none, (some 14), .mv (.t 4)⟩,
      ⟨none, (some 15), .len (.t 14)⟩,
      ⟨none, (some 16), .mv (.c (.int .i64 0))⟩])
    (.block 0 (.loop (.seq (.reg [⟨none, (some 17), .bin .lss (.t 16) (.t 15)⟩])
    (.seq (.cond (.t 17) .skip
    (.exit 0))
    (.seq (.block 1 (.seq (.reg [⟨none, (some 18), .iaddr 1 (.t 14) (.t 16)⟩,
      ⟨none, (some 19), .load false 1 (.t 18)⟩,
      ⟨none, (some 8), .mv (.t 19)⟩])
    (.reg [⟨none, (some 20), .mv (.t 6)⟩,
      ⟨none, (some 21), .mv (.t 8)⟩,
      ⟨none, (some 22), .bin .add (.t 20) (.t 21)⟩,
      ⟨none, (some 6), .mv (.t 22)⟩])))
    (.reg [⟨none, (some 23), .bin .add (.t 16) (.c (.int .i64 1))⟩,
      ⟨none, (some 16), .mv (.t 23)⟩])))))))
    (.seq (.reg [⟨none, (some 24), .mv (.t 6)⟩,
      ⟨none, (some 25), .mv (.t 5)⟩,
      ⟨none, (some 2), .mv (.t 24)⟩,
      ⟨none, (some 3), .mv (.t 25)⟩])
    .ret)))))
theorem ok30 : FnOk Try.prog 30 26 2 c30 [.t 2, .t 3] := ⟨_, _, Try.func30, rfl, rfl, by kernel_rfl, by kernel_rfl⟩
theorem bd30 : bodied Try.prog 30 = true := by kernel_rfl

/-- ferrule/ferruleref02.IsCurve -/
def c31 : CI := (.seq (.reg [⟨none, (some 2), .box 0 true (.t 0)⟩,
      ⟨none, (some 4), .mv (.c (.bool false))⟩])
    (.seq (.seq (.reg [⟨none, (some 7), .mv (.t 1)⟩,
      ⟨none, (some 8), .len (.t 7)⟩,
      ⟨none, (some 9), .faddr 3 (.t 2)⟩,
      ⟨none, (some 10), .load false 1 (.t 9)⟩,
      ⟨none, (some 11), .len (.t 10)⟩,
      ⟨none, (some 12), .bin .neq (.t 8) (.t 11)⟩])
    (.cond (.t 12) (.seq (.reg [⟨none, (some 4), .mv (.c (.bool false))⟩])
    .ret)
    .skip))
    (.seq (.reg [⟨none, (some 13), .load true 6 (.t 2)⟩,
      ⟨none, (some 14), .callz 1 1 57 [(.t 13), (.c .nils)] []⟩,
      ⟨none, (some 5), .mv (.t 14)⟩])
    (.seq (.seq (.reg [⟨none, (some 6), .mv (.c (.int .i64 0))⟩])
    (.block 0 (.loop (.seq (.seq (.reg [⟨none, (some 15), .mv (.t 6)⟩,
      ⟨none, (some 16), .mv (.t 1)⟩,
      ⟨none, (some 17), .len (.t 16)⟩,
      ⟨none, (some 18), .bin .lss (.t 15) (.t 17)⟩])
    (.cond (.t 18) .skip
    (.exit 0)))
    (.seq (.block 1 (.seq (.seq (.reg [⟨none, (some 21), .mv (.t 1)⟩,
      ⟨none, (some 22), .mv (.t 6)⟩,
      ⟨none, (some 23), .iaddr 1 (.t 21) (.t 22)⟩,
      ⟨none, (some 24), .load false 1 (.t 23)⟩,
      ⟨none, (some 25), .faddr 2 (.t 2)⟩,
      ⟨none, (some 26), .load false 1 (.t 25)⟩,
      ⟨none, (some 27), .bin .mul (.c (.int .i64 2)) (.t 26)⟩,
      ⟨none, (some 28), .call 54 [(.t 24), (.t 27), (.c (.int .i64 2000))]⟩,
      ⟨none, (some 29), .un .not (.t 28)⟩,
      ⟨none, (some 30), .mv (.t 29)⟩,
      ⟨(some (30, false)), (some 31), .load true 6 (.t 2)⟩,
      ⟨(some (30, false)), (some 32), .mv (.t 5)⟩,
      ⟨(some (30, false)), (some 33), .mv (.t 6)⟩,
      ⟨(some (30, false)), (some 34), .mv (.t 1)⟩,
      ⟨(some (30, false)), (some 35), .mv (.t 6)⟩,
      ⟨(some (30, false)), (some 36), .iaddr 1 (.t 34) (.t 35)⟩,
      ⟨(some (30, false)), (some 37), .load false 1 (.t 36)⟩,
      ⟨(some (30, false)), (some 39), .mv (.t 5)⟩,
      ⟨(some (30, false)), (some 40), .len (.t 39)⟩,
      ⟨(some (30, false)), (some 38), .call 58 [(.t 31), (.t 32), (.t 33), (.t 37)]⟩,
      ⟨(some (30, false)), (some 41), .bin .lss (.t 38) (.t 40)⟩,
      ⟨none, (some 42), .pick (.t 30) (.c (.bool true)) (.t 41)⟩])
    (.cond (.t 42) (.seq (.reg [⟨none, (some 4), .mv (.c (.bool false))⟩])
    .ret)
    .skip))
    (.seq (.reg [⟨none, (some 43), .mv (.t 6)⟩,
      ⟨none, (some 44), .bin .gtr (.t 43) (.c (.int .i64 0))⟩,
      ⟨none, (some 45), .mv (.t 44)⟩,
      ⟨(some (45, true)), (some 46), .mv (.t 1)⟩,
      ⟨(some (45, true)), (some 47), .mv (.t 6)⟩,
      ⟨(some (45, true)), (some 48), .iaddr 1 (.t 46) (.t 47)⟩,
      ⟨(some (45, true)), (some 49), .load false 1 (.t 48)⟩,
      ⟨(some (45, true)), (some 50), .mv (.t 1)⟩,
      ⟨(some (45, true)), (some 51), .mv (.t 6)⟩,
      ⟨(some (45, true)), (some 52), .bin .sub (.t 51) (.c (.int .i64 1))⟩,
      ⟨(some (45, true)), (some 53), .iaddr 1 (.t 50) (.t 52)⟩,
      ⟨(some (45, true)), (some 54), .load false 1 (.t 53)⟩,
      ⟨(some (45, true)), (some 55), .bin .sub (.t 49) (.t 54)⟩,
      ⟨(some (45, true)), (some 56), .faddr 5 (.t 2)⟩,
      ⟨(some (45, true)), (some 57), .load false 1 (.t 56)⟩,
      ⟨(some (45, true)), (some 58), .un .neg (.t 57)⟩,
      ⟨(some (45, true)), (some 59), .faddr 5 (.t 2)⟩,
      ⟨(some (45, true)), (some 60), .load false 1 (.t 59)⟩,
      ⟨(some (45, true)), (some 61), .call 54 [(.t 55), (.t 58), (.t 60)]⟩,
      ⟨(some (45, true)), (some 62), .un .not (.t 61)⟩,
      ⟨none, (some 63), .pick (.t 45) (.t 62) (.c (.bool false))⟩])
    (.cond (.t 63) (.seq (.reg [⟨none, (some 4), .mv (.c (.bool false))⟩])
    .ret)
    .skip))))
    (.reg [⟨none, (some 19), .mv (.t 6)⟩,
      ⟨none, (some 20), .bin .add (.t 19) (.c (.int .i64 1))⟩,
      ⟨none, (some 6), .mv (.t 20)⟩]))))))
    (.seq (.reg [⟨none, (some 4), .mv (.c (.bool true))⟩])
    .ret)))))
theorem ok31 : FnOk Try.prog 31 64 2 c31 [.t 4] := ⟨_, _, Try.func31, rfl, rfl, by kernel_rfl, by kernel_rfl⟩
theorem bd31 : bodied Try.prog 31 = true := by kernel_rfl

/-- ferrule/cloth.Fewest -/
def c32 : CI := (.seq (.reg [⟨none, (some 2), .box 0 true (.t 0)⟩,
      ⟨none, (some 4), .mv (.c (.int .i64 0))⟩,
      ⟨none, (some 5), .mv (.c (.int .i64 0))⟩])
    (.seq (.seq (.reg [⟨none, (some 10), .load true 6 (.t 2)⟩,
      ⟨none, (some 11), .faddr 0 (.t 2)⟩,
      ⟨none, (some 12), .load false 1 (.t 11)⟩,
      ⟨none, (some 13), .mv (.t 1)⟩,
      ⟨none, (some 14), .call 59 [(.t 10), (.t 12), (.t 13)]⟩,
      ⟨none, (some 6), .mv (.t 14)⟩])
    (.seq (.reg [⟨none, (some 15), .mv (.t 6)⟩,
      ⟨none, (some 16), .bin .neq (.t 15) (.c (.int .i64 0))⟩])
    (.cond (.t 16) (.seq (.reg [⟨none, (some 17), .mv (.t 6)⟩,
      ⟨none, (some 4), .mv (.c (.int .i64 0))⟩,
      ⟨none, (some 5), .mv (.t 17)⟩])
    .ret)
    .skip)))
    (.seq (.reg [⟨none, (some 18), .faddr 0 (.t 2)⟩,
      ⟨none, (some 19), .load false 1 (.t 18)⟩,
      ⟨none, (some 20), .mv (.t 1)⟩,
      ⟨none, (some 21), .iaddr 4 (.t 19) (.t 20)⟩,
      ⟨none, (some 22), .faddr 2 (.t 21)⟩,
      ⟨none, (some 23), .load false 1 (.t 22)⟩,
      ⟨none, (some 24), .len (.t 23)⟩,
      ⟨none, (some 7), .alloc 1 [(.int .i64 0)]⟩,
      ⟨none, none, .store false 1 (.t 7) (.t 24) []⟩])
    (.seq (.seq (.reg [⟨none, (some 25), .faddr 0 (.t 2)⟩,
      ⟨none, (some 26), .load false 1 (.t 25)⟩,
      ⟨none, (some 27), .mv (.t 1)⟩,
      ⟨none, (some 28), .iaddr 4 (.t 26) (.t 27)⟩,
      ⟨none, (some 29), .load true 4 (.t 28)⟩,
      ⟨none, (some 30), .callz 2 0 60 [(.t 29)] []⟩])
    (.block 0 (.rng (.t 30) [31, 32] (.reg [⟨none, (some 9), .mv (.t 32)⟩])
    (.block 1 (.reg [⟨none, (some 33), .load false 1 (.t 7)⟩,
      ⟨none, (some 34), .mv (.t 9)⟩,
      ⟨none, (some 35), .mm false [(.t 33), (.t 34)]⟩,
      ⟨none, none, .store false 1 (.t 7) (.t 35) []⟩])))))
    (.seq (.reg [⟨none, (some 36), .load false 1 (.t 7)⟩,
      ⟨none, (some 4), .mv (.t 36)⟩,
      ⟨none, (some 5), .mv (.c (.int .i64 0))⟩])
    .ret)))))
theorem ok32 : FnOk Try.prog 32 37 2 c32 [.t 4, .t 5] := ⟨_, _, Try.func32, rfl, rfl, by kernel_rfl, by kernel_rfl⟩
theorem bd32 : bodied Try.prog 32 = true := by kernel_rfl

/-- ferrule/ferrulelaw02.Far -/
def c33 : CI := (.seq (.reg [⟨none, (some 1), .box 0 true (.t 0)⟩,
      ⟨none, (some 2), .mv (.c (.bool false))⟩])
    (.seq (.seq (.reg [⟨none, (some 8), .faddr 0 (.t 1)⟩,
      ⟨none, (some 9), .load false 1 (.t 8)⟩,
      ⟨none, (some 10), .len (.t 9)⟩,
      ⟨none, (some 11), .bin .gtr (.t 10) (.c (.int .i64 20))⟩,
      ⟨none, (some 12), .mv (.t 11)⟩,
      ⟨(some (12, false)), (some 13), .faddr 1 (.t 1)⟩,
      ⟨(some (12, false)), (some 14), .load false 1 (.t 13)⟩,
      ⟨(some (12, false)), (some 15), .len (.t 14)⟩,
      ⟨(some (12, false)), (some 16), .bin .gtr (.t 15) (.c (.int .i64 60))⟩,
      ⟨none, (some 17), .pick (.t 12) (.c (.bool true)) (.t 16)⟩,
      ⟨none, (some 18), .mv (.t 17)⟩,
      ⟨(some (18, false)), (some 19), .faddr 3 (.t 1)⟩,
      ⟨(some (18, false)), (some 20), .load false 1 (.t 19)⟩,
      ⟨(some (18, false)), (some 21), .len (.t 20)⟩,
      ⟨(some (18, false)), (some 22), .bin .gtr (.t 21) (.c (.int .i64 60))⟩,
      ⟨none, (some 23), .pick (.t 18) (.c (.bool true)) (.t 22)⟩,
      ⟨none, (some 24), .mv (.t 23)⟩,
      ⟨(some (24, false)), (some 25), .faddr 4 (.t 1)⟩,
      ⟨(some (24, false)), (some 26), .load false 1 (.t 25)⟩,
      ⟨(some (24, false)), (some 27), .len (.t 26)⟩,
      ⟨(some (24, false)), (some 28), .bin .gtr (.t 27) (.c (.int .i64 60))⟩,
      ⟨none, (some 29), .pick (.t 24) (.c (.bool true)) (.t 28)⟩])
    (.cond (.t 29) (.seq (.reg [⟨none, (some 2), .mv (.c (.bool true))⟩])
    .ret)
    .skip))
    (.seq (.seq (.reg [⟨none, (some 3), .mv (.c (.int .i64 0))⟩])
    (.block 0 (.loop (.seq (.seq (.reg [⟨none, (some 30), .mv (.t 3)⟩,
      ⟨none, (some 31), .faddr 0 (.t 1)⟩,
      ⟨none, (some 32), .load false 1 (.t 31)⟩,
      ⟨none, (some 33), .len (.t 32)⟩,
      ⟨none, (some 34), .bin .lss (.t 30) (.t 33)⟩])
    (.cond (.t 34) .skip
    (.exit 0)))
    (.seq (.block 1 (.seq (.reg [⟨none, (some 37), .faddr 0 (.t 1)⟩,
      ⟨none, (some 38), .load false 1 (.t 37)⟩,
      ⟨none, (some 39), .mv (.t 3)⟩,
      ⟨none, (some 40), .iaddr 4 (.t 38) (.t 39)⟩,
      ⟨none, (some 41), .faddr 2 (.t 40)⟩,
      ⟨none, (some 42), .load false 1 (.t 41)⟩,
      ⟨none, (some 43), .len (.t 42)⟩,
      ⟨none, (some 44), .bin .gtr (.t 43) (.c (.int .i64 60))⟩])
    (.cond (.t 44) (.seq (.reg [⟨none, (some 2), .mv (.c (.bool true))⟩])
    .ret)
    .skip)))
    (.reg [⟨none, (some 35), .mv (.t 3)⟩,
      ⟨none, (some 36), .bin .add (.t 35) (.c (.int .i64 1))⟩,
      ⟨none, (some 3), .mv (.t 36)⟩]))))))
    (.seq (.seq (.reg [⟨none, (some 45), .load true 6 (.t 1)⟩,
      ⟨none, (some 46), .call 28 [(.t 45)]⟩,
      ⟨none, (some 47), .bin .neq (.t 46) (.c (.int .i64 0))⟩])
    (.cond (.t 47) (.seq (.reg [⟨none, (some 2), .mv (.c (.bool false))⟩])
    .ret)
    .skip))
    (.seq (.reg [⟨none, (some 4), .mv (.c (.int .i64 1))⟩])
    (.seq (.seq (.reg [⟨none, (some 5), .mv (.c (.int .i64 0))⟩])
    (.block 2 (.loop (.seq (.seq (.reg [⟨none, (some 48), .mv (.t 5)⟩,
      ⟨none, (some 49), .faddr 0 (.t 1)⟩,
      ⟨none, (some 50), .load false 1 (.t 49)⟩,
      ⟨none, (some 51), .len (.t 50)⟩,
      ⟨none, (some 52), .bin .lss (.t 48) (.t 51)⟩])
    (.cond (.t 52) .skip
    (.exit 2)))
    (.seq (.block 3 (.seq (.reg [⟨none, (some 6), .mv (.c (.int .i64 0))⟩])
    (.seq (.seq (.reg [⟨none, (some 55), .faddr 0 (.t 1)⟩,
      ⟨none, (some 56), .load false 1 (.t 55)⟩,
      ⟨none, (some 57), .mv (.t 5)⟩,
      ⟨none, (some 58), .iaddr 4 (.t 56) (.t 57)⟩,
      ⟨none, (some 59), .faddr 0 (.t 58)⟩,
      ⟨none, (some 60), .faddr 0 (.t 59)⟩,
      ⟨none, (some 61), .load false 1 (.t 60)⟩,
      ⟨none, (some 7), .mv (.t 61)⟩])
    (.block 4 (.loop (.seq (.seq (.reg [⟨none, (some 62), .mv (.t 7)⟩,
      ⟨none, (some 63), .faddr 0 (.t 1)⟩,
      ⟨none, (some 64), .load false 1 (.t 63)⟩,
      ⟨none, (some 65), .mv (.t 5)⟩,
      ⟨none, (some 66), .iaddr 4 (.t 64) (.t 65)⟩,
      ⟨none, (some 67), .faddr 0 (.t 66)⟩,
      ⟨none, (some 68), .faddr 1 (.t 67)⟩,
      ⟨none, (some 69), .load false 1 (.t 68)⟩,
      ⟨none, (some 70), .bin .leq (.t 62) (.t 69)⟩])
    (.cond (.t 70) .skip
    (.exit 4)))
    (.seq (.block 5 (.seq (.reg [⟨none, (some 73), .faddr 0 (.t 1)⟩,
      ⟨none, (some 74), .load false 1 (.t 73)⟩,
      ⟨none, (some 75), .mv (.t 5)⟩,
      ⟨none, (some 76), .iaddr 4 (.t 74) (.t 75)⟩,
      ⟨none, (some 77), .load true 4 (.t 76)⟩,
      ⟨none, (some 78), .mv (.t 7)⟩,
      ⟨none, (some 79), .call 44 [(.t 77), (.t 78)]⟩])
    (.cond (.t 79) (.reg [⟨none, (some 80), .mv (.t 6)⟩,
      ⟨none, (some 81), .bin .add (.t 80) (.c (.int .i64 1))⟩,
      ⟨none, (some 6), .mv (.t 81)⟩])
    .skip)))
    (.reg [⟨none, (some 71), .mv (.t 7)⟩,
      ⟨none, (some 72), .bin .add (.t 71) (.c (.int .i64 1))⟩,
      ⟨none, (some 7), .mv (.t 72)⟩]))))))
    (.reg [⟨none, (some 82), .mv (.t 4)⟩,
      ⟨none, (some 83), .mv (.t 6)⟩,
      ⟨none, (some 84), .bin .mul (.t 82) (.t 83)⟩,
      ⟨none, (some 4), .mv (.t 84)⟩]))))
    (.reg [⟨none, (some 53), .mv (.t 5)⟩,
      ⟨none, (some 54), .bin .add (.t 53) (.c (.int .i64 1))⟩,
      ⟨none, (some 5), .mv (.t 54)⟩]))))))
    (.seq (.reg [⟨none, (some 85), .mv (.t 4)⟩,
      ⟨none, (some 86), .bin .gtr (.t 85) (.c (.int .i64 49))⟩,
      ⟨none, (some 87), .mv (.t 86)⟩,
      ⟨(some (87, false)), (some 88), .faddr 1 (.t 1)⟩,
      ⟨(some (87, false)), (some 89), .load false 1 (.t 88)⟩,
      ⟨(some (87, false)), (some 90), .len (.t 89)⟩,
      ⟨(some (87, false)), (some 91), .bin .gtr (.t 90) (.c (.int .i64 8))⟩,
      ⟨none, (some 92), .pick (.t 87) (.c (.bool true)) (.t 91)⟩,
      ⟨none, (some 93), .mv (.t 92)⟩,
      ⟨(some (93, false)), (some 94), .faddr 3 (.t 1)⟩,
      ⟨(some (93, false)), (some 95), .load false 1 (.t 94)⟩,
      ⟨(some (93, false)), (some 96), .len (.t 95)⟩,
      ⟨(some (93, false)), (some 97), .bin .gtr (.t 96) (.c (.int .i64 4))⟩,
      ⟨none, (some 98), .pick (.t 93) (.c (.bool true)) (.t 97)⟩,
      ⟨none, (some 2), .mv (.t 98)⟩])
    .ret)))))))
theorem ok33 : FnOk Try.prog 33 99 1 c33 [.t 2] := ⟨_, _, Try.func33, rfl, rfl, by kernel_rfl, by kernel_rfl⟩
theorem bd33 : bodied Try.prog 33 = true := by kernel_rfl

/-- ferrule/cloth.Check -/
def c34 : CI := (.seq (.reg [⟨none, (some 1), .box 0 true (.t 0)⟩,
      ⟨none, (some 2), .mv (.c (.int .i64 0))⟩])
    (.seq (.seq (.reg [⟨none, (some 3), .load true 6 (.t 1)⟩,
      ⟨none, (some 4), .call 61 [(.t 3)]⟩,
      ⟨none, (some 5), .un .not (.t 4)⟩])
    (.cond (.t 5) (.seq (.reg [⟨none, (some 2), .mv (.c (.int .i64 20))⟩])
    .ret)
    .skip))
    (.seq (.seq (.reg [⟨none, (some 6), .faddr 0 (.t 1)⟩,
      ⟨none, (some 7), .load false 1 (.t 6)⟩,
      ⟨none, (some 8), .call 62 [(.t 7), (.c (.fn 63 []))]⟩,
      ⟨none, (some 9), .un .not (.t 8)⟩])
    (.cond (.t 9) (.seq (.reg [⟨none, (some 2), .mv (.c (.int .i64 21))⟩])
    .ret)
    .skip))
    (.seq (.reg [⟨none, (some 2), .mv (.c (.int .i64 0))⟩])
    .ret))))
theorem ok34 : FnOk Try.prog 34 10 1 c34 [.t 2] := ⟨_, _, Try.func34, rfl, rfl, by kernel_rfl, by kernel_rfl⟩
theorem bd34 : bodied Try.prog 34 = true := by kernel_rfl

/-- ferrule/ferruleref02.Stretches -/
def c35 : CI := (.seq (.reg [⟨none, (some 2), .box 0 true (.t 0)⟩,
      ⟨none, (some 4), .mv (.c .nils)⟩,
      ⟨none, (some 5), .mv (.c (.int .i64 0))⟩])
    (.seq (.seq (.reg [⟨none, (some 9), .load true 6 (.t 2)⟩,
      ⟨none, (some 10), .mv (.t 1)⟩,
      ⟨none, (some 11), .callz 1 1 64 [(.t 9), (.t 10), (.c (.int .i64 0))] []⟩,
      ⟨none, (some 8), .mv (.t 11)⟩,
      ⟨none, (some 12), .extract 0 (.t 8)⟩,
      ⟨none, (some 13), .extract 1 (.t 8)⟩,
      ⟨none, (some 6), .mv (.t 12)⟩,
      ⟨none, (some 7), .mv (.t 13)⟩])
    (.seq (.reg [⟨none, (some 14), .mv (.t 7)⟩,
      ⟨none, (some 15), .bin .neq (.t 14) (.c (.int .i64 0))⟩])
    (.cond (.t 15) (.seq (.reg [⟨none, (some 16), .mv (.t 7)⟩,
      ⟨none, (some 4), .mv (.c .nils)⟩,
      ⟨none, (some 5), .mv (.t 16)⟩])
    .ret)
    .skip)))
    (.seq (.reg [⟨none, (some 17), .faddr 0 (.t 2)⟩,
      ⟨none, (some 18), .load false 1 (.t 17)⟩,
      ⟨none, (some 19), .mv (.t 1)⟩,
      ⟨none, (some 20), .iaddr 4 (.t 18) (.t 19)⟩,
      ⟨none, (some 21), .load true 4 (.t 20)⟩,
      ⟨none, (some 22), .callz 2 1 65 [(.t 21)] []⟩,
      ⟨none, (some 4), .mv (.t 22)⟩,
      ⟨none, (some 5), .mv (.c (.int .i64 0))⟩])
    .ret)))
theorem ok35 : FnOk Try.prog 35 23 3 c35 [.t 4, .t 5] := ⟨_, _, Try.func35, rfl, rfl, by kernel_rfl, by kernel_rfl⟩
theorem bd35 : bodied Try.prog 35 = true := by kernel_rfl

/-- ferrule/ferruleref02.Fewest -/
def c36 : CI := (.seq (.reg [⟨none, (some 2), .box 0 true (.t 0)⟩,
      ⟨none, (some 4), .mv (.c (.int .i64 0))⟩,
      ⟨none, (some 5), .mv (.c (.int .i64 0))⟩])
    (.seq (.seq (.reg [⟨none, (some 10), .load true 6 (.t 2)⟩,
      ⟨none, (some 11), .call 28 [(.t 10)]⟩,
      ⟨none, (some 6), .mv (.t 11)⟩])
    (.seq (.reg [⟨none, (some 12), .mv (.t 6)⟩,
      ⟨none, (some 13), .bin .neq (.t 12) (.c (.int .i64 0))⟩])
    (.cond (.t 13) (.seq (.reg [⟨none, (some 14), .mv (.t 6)⟩,
      ⟨none, (some 4), .mv (.c (.int .i64 0))⟩,
      ⟨none, (some 5), .mv (.t 14)⟩])
    .ret)
    .skip)))
    (.seq (.seq (.reg [⟨none, (some 15), .mv (.t 1)⟩,
      ⟨none, (some 16), .faddr 0 (.t 2)⟩,
      ⟨none, (some 17), .load false 1 (.t 16)⟩,
      ⟨none, (some 18), .len (.t 17)⟩,
      ⟨none, (some 19), .bin .sub (.t 18) (.c (.int .i64 1))⟩,
      ⟨none, (some 20), .call 54 [(.t 15), (.c (.int .i64 0)), (.t 19)]⟩,
      ⟨none, (some 21), .un .not (.t 20)⟩])
    (.cond (.t 21) (.seq (.reg [⟨none, (some 4), .mv (.c (.int .i64 0))⟩,
      ⟨none, (some 5), .mv (.c (.int .i64 1))⟩])
    .ret)
    .skip))
    (.seq (.reg [⟨none, (some 22), .faddr 0 (.t 2)⟩,
      ⟨none, (some 23), .load false 1 (.t 22)⟩,
      ⟨none, (some 24), .mv (.t 1)⟩,
      ⟨none, (some 25), .iaddr 4 (.t 23) (.t 24)⟩,
      ⟨none, (some 26), .load true 4 (.t 25)⟩,
      ⟨none, (some 7), .alloc 1 [(.int .i64 0), (.int .i64 0), .nils, (.int .i64 0)]⟩,
      ⟨none, none, .stz true 4 (.t 7) (.t 26) []⟩])
    (.seq (.reg [⟨none, (some 27), .faddr 2 (.t 7)⟩,
      ⟨none, (some 28), .load false 1 (.t 27)⟩,
      ⟨none, (some 29), .len (.t 28)⟩,
      ⟨none, (some 8), .mv (.t 29)⟩])
    (.seq (.seq (.reg [⟨none, (some 30), .faddr 0 (.t 7)⟩,
      ⟨none, (some 31), .faddr 0 (.t 30)⟩,
      ⟨none, (some 32), .load false 1 (.t 31)⟩,
      ⟨none, (some 9), .mv (.t 32)⟩])
    (.block 0 (.loop (.seq (.seq (.reg [⟨none, (some 33), .mv (.t 9)⟩,
      ⟨none, (some 34), .faddr 0 (.t 7)⟩,
      ⟨none, (some 35), .faddr 1 (.t 34)⟩,
      ⟨none, (some 36), .load false 1 (.t 35)⟩,
      ⟨none, (some 37), .bin .leq (.t 33) (.t 36)⟩])
    (.cond (.t 37) .skip
    (.exit 0)))
    (.seq (.block 1 (.reg [⟨none, (some 40), .mv (.t 8)⟩,
      ⟨none, (some 41), .load true 4 (.t 7)⟩,
      ⟨none, (some 42), .mv (.t 9)⟩,
      ⟨none, (some 43), .call 66 [(.t 41), (.t 42)]⟩,
      ⟨none, (some 44), .mm false [(.t 40), (.t 43)]⟩,
      ⟨none, (some 8), .mv (.t 44)⟩]))
    (.reg [⟨none, (some 38), .mv (.t 9)⟩,
      ⟨none, (some 39), .bin .add (.t 38) (.c (.int .i64 1))⟩,
      ⟨none, (some 9), .mv (.t 39)⟩]))))))
    (.seq (.reg [⟨none, (some 45), .mv (.t 8)⟩,
      ⟨none, (some 4), .mv (.t 45)⟩,
      ⟨none, (some 5), .mv (.c (.int .i64 0))⟩])
    .ret)))))))
theorem ok36 : FnOk Try.prog 36 46 2 c36 [.t 4, .t 5] := ⟨_, _, Try.func36, rfl, rfl, by kernel_rfl, by kernel_rfl⟩
theorem bd36 : bodied Try.prog 36 = true := by kernel_rfl

/-- ferrule/ferrulelaw02.same -/
def c37 : CI := (.seq (.reg [⟨none, (some 2), .box 0 true (.t 0)⟩,
      ⟨none, (some 3), .box 1 true (.t 1)⟩,
      ⟨none, (some 4), .mv (.c (.bool false))⟩])
    (.seq (.seq (.reg [⟨none, (some 10), .faddr 0 (.t 2)⟩,
      ⟨none, (some 11), .load false 1 (.t 10)⟩,
      ⟨none, (some 12), .len (.t 11)⟩,
      ⟨none, (some 13), .faddr 0 (.t 3)⟩,
      ⟨none, (some 14), .load false 1 (.t 13)⟩,
      ⟨none, (some 15), .len (.t 14)⟩,
      ⟨none, (some 16), .bin .neq (.t 12) (.t 15)⟩,
      ⟨none, (some 17), .mv (.t 16)⟩,
      ⟨(some (17, false)), (some 18), .faddr 1 (.t 2)⟩,
      ⟨(some (17, false)), (some 19), .load false 1 (.t 18)⟩,
      ⟨(some (17, false)), (some 20), .faddr 1 (.t 3)⟩,
      ⟨(some (17, false)), (some 21), .load false 1 (.t 20)⟩,
      ⟨(some (17, false)), (some 22), .call 29 [(.t 19), (.t 21)]⟩,
      ⟨(some (17, false)), (some 23), .un .not (.t 22)⟩,
      ⟨none, (some 24), .pick (.t 17) (.c (.bool true)) (.t 23)⟩,
      ⟨none, (some 25), .mv (.t 24)⟩,
      ⟨(some (25, false)), (some 26), .faddr 2 (.t 2)⟩,
      ⟨(some (25, false)), (some 27), .load false 1 (.t 26)⟩,
      ⟨(some (25, false)), (some 28), .faddr 2 (.t 3)⟩,
      ⟨(some (25, false)), (some 29), .load false 1 (.t 28)⟩,
      ⟨(some (25, false)), (some 30), .bin .neq (.t 27) (.t 29)⟩,
      ⟨none, (some 31), .pick (.t 25) (.c (.bool true)) (.t 30)⟩,
      ⟨none, (some 32), .mv (.t 31)⟩,
      ⟨(some (32, false)), (some 33), .faddr 3 (.t 2)⟩,
      ⟨(some (32, false)), (some 34), .load false 1 (.t 33)⟩,
      ⟨(some (32, false)), (some 35), .len (.t 34)⟩,
      ⟨(some (32, false)), (some 36), .faddr 3 (.t 3)⟩,
      ⟨(some (32, false)), (some 37), .load false 1 (.t 36)⟩,
      ⟨(some (32, false)), (some 38), .len (.t 37)⟩,
      ⟨(some (32, false)), (some 39), .bin .neq (.t 35) (.t 38)⟩,
      ⟨none, (some 40), .pick (.t 32) (.c (.bool true)) (.t 39)⟩,
      ⟨none, (some 41), .mv (.t 40)⟩,
      ⟨(some (41, false)), (some 42), .faddr 4 (.t 2)⟩,
      ⟨(some (41, false)), (some 43), .load false 1 (.t 42)⟩,
      ⟨(some (41, false)), (some 44), .faddr 4 (.t 3)⟩,
      ⟨(some (41, false)), (some 45), .load false 1 (.t 44)⟩,
      ⟨(some (41, false)), (some 46), .call 29 [(.t 43), (.t 45)]⟩,
      ⟨(some (41, false)), (some 47), .un .not (.t 46)⟩,
      ⟨none, (some 48), .pick (.t 41) (.c (.bool true)) (.t 47)⟩,
      ⟨none, (some 49), .mv (.t 48)⟩,
      ⟨(some (49, false)), (some 50), .faddr 5 (.t 2)⟩,
      ⟨(some (49, false)), (some 51), .load false 1 (.t 50)⟩,
      ⟨(some (49, false)), (some 52), .faddr 5 (.t 3)⟩,
      ⟨(some (49, false)), (some 53), .load false 1 (.t 52)⟩,
      ⟨(some (49, false)), (some 54), .bin .neq (.t 51) (.t 53)⟩,
      ⟨none, (some 55), .pick (.t 49) (.c (.bool true)) (.t 54)⟩])
    (.cond (.t 55) (.seq (.reg [⟨none, (some 4), .mv (.c (.bool false))⟩])
    .ret)
    .skip))
    (.seq (.seq (.reg [⟨none, (some 5), .mv (.c (.int .i64 0))⟩])
    (.block 0 (.loop (.seq (.seq (.reg [⟨none, (some 56), .mv (.t 5)⟩,
      ⟨none, (some 57), .faddr 3 (.t 2)⟩,
      ⟨none, (some 58), .load false 1 (.t 57)⟩,
      ⟨none, (some 59), .len (.t 58)⟩,
      ⟨none, (some 60), .bin .lss (.t 56) (.t 59)⟩])
    (.cond (.t 60) .skip
    (.exit 0)))
    (.seq (.block 1 (.seq (.reg [⟨none, (some 63), .faddr 3 (.t 2)⟩,
      ⟨none, (some 64), .load false 1 (.t 63)⟩,
      ⟨none, (some 65), .mv (.t 5)⟩,
      ⟨none, (some 66), .iaddr 2 (.t 64) (.t 65)⟩,
      ⟨none, (some 67), .load true 2 (.t 66)⟩,
      ⟨none, (some 68), .faddr 3 (.t 3)⟩,
      ⟨none, (some 69), .load false 1 (.t 68)⟩,
      ⟨none, (some 70), .mv (.t 5)⟩,
      ⟨none, (some 71), .iaddr 2 (.t 69) (.t 70)⟩,
      ⟨none, (some 72), .load true 2 (.t 71)⟩,
      ⟨none, (some 73), .eqs true (.node [(0, 1, (.leaf true)), (1, 1, (.leaf true))]) (.t 67) (.t 72)⟩])
    (.cond (.t 73) (.seq (.reg [⟨none, (some 4), .mv (.c (.bool false))⟩])
    .ret)
    .skip)))
    (.reg [⟨none, (some 61), .mv (.t 5)⟩,
      ⟨none, (some 62), .bin .add (.t 61) (.c (.int .i64 1))⟩,
      ⟨none, (some 5), .mv (.t 62)⟩]))))))
    (.seq (.seq (.reg [⟨none, (some 6), .mv (.c (.int .i64 0))⟩])
    (.block 2 (.loop (.seq (.seq (.reg [⟨none, (some 74), .mv (.t 6)⟩,
      ⟨none, (some 75), .faddr 0 (.t 2)⟩,
      ⟨none, (some 76), .load false 1 (.t 75)⟩,
      ⟨none, (some 77), .len (.t 76)⟩,
      ⟨none, (some 78), .bin .lss (.t 74) (.t 77)⟩])
    (.cond (.t 78) .skip
    (.exit 2)))
    (.seq (.block 3 (.seq (.reg [⟨none, (some 81), .faddr 0 (.t 2)⟩,
      ⟨none, (some 82), .load false 1 (.t 81)⟩,
      ⟨none, (some 83), .mv (.t 6)⟩,
      ⟨none, (some 84), .iaddr 4 (.t 82) (.t 83)⟩,
      ⟨none, (some 85), .load true 4 (.t 84)⟩,
      ⟨none, (some 86), .faddr 0 (.t 3)⟩,
      ⟨none, (some 87), .load false 1 (.t 86)⟩,
      ⟨none, (some 88), .mv (.t 6)⟩,
      ⟨none, (some 89), .iaddr 4 (.t 87) (.t 88)⟩,
      ⟨none, (some 90), .load true 4 (.t 89)⟩,
      ⟨none, (some 7), .alloc 2 [(.int .i64 0), (.int .i64 0), .nils, (.int .i64 0)]⟩,
      ⟨none, (some 8), .alloc 3 [(.int .i64 0), (.int .i64 0), .nils, (.int .i64 0)]⟩,
      ⟨none, none, .stz true 4 (.t 7) (.t 85) [(.t 86), (.t 87), (.t 89)]⟩,
      ⟨none, none, .stz true 4 (.t 8) (.t 90) []⟩])
    (.seq (.seq (.reg [⟨none, (some 91), .faddr 0 (.t 7)⟩,
      ⟨none, (some 92), .load true 2 (.t 91)⟩,
      ⟨none, (some 93), .faddr 0 (.t 8)⟩,
      ⟨none, (some 94), .load true 2 (.t 93)⟩,
      ⟨none, (some 95), .eqs true (.node [(0, 1, (.leaf true)), (1, 1, (.leaf true))]) (.t 92) (.t 94)⟩,
      ⟨none, (some 96), .mv (.t 95)⟩,
      ⟨(some (96, false)), (some 97), .faddr 3 (.t 7)⟩,
      ⟨(some (96, false)), (some 98), .load false 1 (.t 97)⟩,
      ⟨(some (96, false)), (some 99), .faddr 3 (.t 8)⟩,
      ⟨(some (96, false)), (some 100), .load false 1 (.t 99)⟩,
      ⟨(some (96, false)), (some 101), .bin .neq (.t 98) (.t 100)⟩,
      ⟨none, (some 102), .pick (.t 96) (.c (.bool true)) (.t 101)⟩,
      ⟨none, (some 103), .mv (.t 102)⟩,
      ⟨(some (103, false)), (some 104), .faddr 2 (.t 7)⟩,
      ⟨(some (103, false)), (some 105), .load false 1 (.t 104)⟩,
      ⟨(some (103, false)), (some 106), .len (.t 105)⟩,
      ⟨(some (103, false)), (some 107), .faddr 2 (.t 8)⟩,
      ⟨(some (103, false)), (some 108), .load false 1 (.t 107)⟩,
      ⟨(some (103, false)), (some 109), .len (.t 108)⟩,
      ⟨(some (103, false)), (some 110), .bin .neq (.t 106) (.t 109)⟩,
      ⟨none, (some 111), .pick (.t 103) (.c (.bool true)) (.t 110)⟩])
    (.cond (.t 111) (.seq (.reg [⟨none, (some 4), .mv (.c (.bool false))⟩])
    .ret)
    .skip))
    (.seq (.reg [⟨none, (some 9), .mv (.c (.int .i64 0))⟩])
    (.block 4 (.loop (.seq (.seq (.reg [⟨none, (some 112), .mv (.t 9)⟩,
      ⟨none, (some 113), .faddr 2 (.t 7)⟩,
      ⟨none, (some 114), .load false 1 (.t 113)⟩,
      ⟨none, (some 115), .len (.t 114)⟩,
      ⟨none, (some 116), .bin .lss (.t 112) (.t 115)⟩])
    (.cond (.t 116) .skip
    (.exit 4)))
    (.seq (.block 5 (.seq (.reg [⟨none, (some 119), .faddr 2 (.t 7)⟩,
      ⟨none, (some 120), .load false 1 (.t 119)⟩,
      ⟨none, (some 121), .mv (.t 9)⟩,
      ⟨none, (some 122), .iaddr 3 (.t 120) (.t 121)⟩,
      ⟨none, (some 123), .load true 3 (.t 122)⟩,
      ⟨none, (some 124), .faddr 2 (.t 8)⟩,
      ⟨none, (some 125), .load false 1 (.t 124)⟩,
      ⟨none, (some 126), .mv (.t 9)⟩,
      ⟨none, (some 127), .iaddr 3 (.t 125) (.t 126)⟩,
      ⟨none, (some 128), .load true 3 (.t 127)⟩,
      ⟨none, (some 129), .eqs true (.node [(0, 1, (.leaf true)), (1, 2, (.node [(0, 1, (.leaf true)), (1, 1, (.leaf true))]))]) (.t 123) (.t 128)⟩])
    (.cond (.t 129) (.seq (.reg [⟨none, (some 4), .mv (.c (.bool false))⟩])
    .ret)
    .skip)))
    (.reg [⟨none, (some 117), .mv (.t 9)⟩,
      ⟨none, (some 118), .bin .add (.t 117) (.c (.int .i64 1))⟩,
      ⟨none, (some 9), .mv (.t 118)⟩])))))))))
    (.reg [⟨none, (some 79), .mv (.t 6)⟩,
      ⟨none, (some 80), .bin .add (.t 79) (.c (.int .i64 1))⟩,
      ⟨none, (some 6), .mv (.t 80)⟩]))))))
    (.seq (.reg [⟨none, (some 4), .mv (.c (.bool true))⟩])
    .ret)))))
theorem ok37 : FnOk Try.prog 37 130 4 c37 [.t 4] := ⟨_, _, Try.func37, rfl, rfl, by kernel_rfl, by kernel_rfl⟩
theorem bd37 : bodied Try.prog 37 = true := by kernel_rfl

/-- ferrule/ferruleref02.Round -/
def c38 : CI := (.seq (.reg [⟨none, (some 2), .box 0 true (.t 0)⟩,
      ⟨none, (some 4), .alloc 1 [(.int .i64 0), (.int .i64 0)]⟩,
      ⟨none, (some 5), .mv (.c (.int .i64 0))⟩])
    (.seq (.reg [⟨none, (some 12), .load true 6 (.t 2)⟩,
      ⟨none, (some 13), .mv (.t 1)⟩,
      ⟨none, (some 14), .callz 2 1 64 [(.t 12), (.c (.int .i64 0)), (.t 13)] []⟩,
      ⟨none, (some 11), .mv (.t 14)⟩,
      ⟨none, (some 15), .extract 0 (.t 11)⟩,
      ⟨none, (some 16), .extract 1 (.t 11)⟩,
      ⟨none, (some 6), .mv (.t 15)⟩,
      ⟨none, (some 7), .mv (.t 16)⟩])
    (.seq (.seq (.reg [⟨none, (some 17), .mv (.t 7)⟩,
      ⟨none, (some 18), .bin .neq (.t 17) (.c (.int .i64 0))⟩])
    (.cond (.t 18) (.seq (.reg [⟨none, (some 19), .build [(.int .i64 0), (.int .i64 0)] []⟩,
      ⟨none, (some 20), .mv (.t 7)⟩,
      ⟨none, none, .store true 2 (.t 4) (.t 19) []⟩,
      ⟨none, (some 5), .mv (.t 20)⟩])
    .ret)
    .skip))
    (.seq (.reg [⟨none, (some 21), .load true 6 (.t 2)⟩,
      ⟨none, (some 22), .faddr 4 (.t 2)⟩,
      ⟨none, (some 23), .load false 1 (.t 22)⟩,
      ⟨none, (some 24), .mv (.t 1)⟩,
      ⟨none, (some 25), .iaddr 1 (.t 23) (.t 24)⟩,
      ⟨none, (some 26), .load false 1 (.t 25)⟩,
      ⟨none, (some 27), .mv (.t 6)⟩,
      ⟨none, (some 28), .iaddr 1 (.t 27) (.c (.int .i64 0))⟩,
      ⟨none, (some 29), .load false 1 (.t 28)⟩,
      ⟨none, (some 30), .call 20 [(.t 21), (.t 26), (.t 29)]⟩,
      ⟨none, (some 8), .mv (.t 30)⟩])
    (.seq (.reg [⟨none, (some 31), .mv (.t 8)⟩,
      ⟨none, (some 32), .mv (.t 8)⟩,
      ⟨none, (some 33), .build [(.int .i64 0), (.int .i64 0)] [(0, 1, (.t 31)), (1, 1, (.t 32))]⟩,
      ⟨none, (some 9), .alloc 3 [(.int .i64 0), (.int .i64 0)]⟩,
      ⟨none, none, .store true 2 (.t 9) (.t 33) []⟩])
    (.seq (.seq (.reg [⟨none, (some 10), .mv (.c (.int .i64 0))⟩])
    (.block 0 (.loop (.seq (.seq (.reg [⟨none, (some 34), .mv (.t 10)⟩,
      ⟨none, (some 35), .mv (.t 6)⟩,
      ⟨none, (some 36), .len (.t 35)⟩,
      ⟨none, (some 37), .bin .lss (.t 34) (.t 36)⟩])
    (.cond (.t 37) .skip
    (.exit 0)))
    (.seq (.block 1 (.seq (.reg [⟨none, (some 40), .load true 6 (.t 2)⟩,
      ⟨none, (some 41), .faddr 4 (.t 2)⟩,
      ⟨none, (some 42), .load false 1 (.t 41)⟩,
      ⟨none, (some 43), .mv (.t 1)⟩,
      ⟨none, (some 44), .iaddr 1 (.t 42) (.t 43)⟩,
      ⟨none, (some 45), .load false 1 (.t 44)⟩,
      ⟨none, (some 46), .mv (.t 6)⟩,
      ⟨none, (some 47), .mv (.t 10)⟩,
      ⟨none, (some 48), .iaddr 1 (.t 46) (.t 47)⟩,
      ⟨none, (some 49), .load false 1 (.t 48)⟩,
      ⟨none, (some 50), .call 20 [(.t 40), (.t 45), (.t 49)]⟩,
      ⟨none, (some 8), .mv (.t 50)⟩])
    (.reg [⟨none, (some 51), .faddr 0 (.t 9)⟩,
      ⟨none, (some 52), .load false 1 (.t 51)⟩,
      ⟨none, (some 53), .mv (.t 8)⟩,
      ⟨none, (some 54), .mm false [(.t 52), (.t 53)]⟩,
      ⟨none, (some 55), .faddr 1 (.t 9)⟩,
      ⟨none, (some 56), .load false 1 (.t 55)⟩,
      ⟨none, (some 57), .mv (.t 8)⟩,
      ⟨none, (some 58), .mm true [(.t 56), (.t 57)]⟩,
      ⟨none, (some 59), .build [(.int .i64 0), (.int .i64 0)] [(0, 1, (.t 54)), (1, 1, (.t 58))]⟩,
      ⟨none, none, .store true 2 (.t 9) (.t 59) []⟩])))
    (.reg [⟨none, (some 38), .mv (.t 10)⟩,
      ⟨none, (some 39), .bin .add (.t 38) (.c (.int .i64 1))⟩,
      ⟨none, (some 10), .mv (.t 39)⟩]))))))
    (.seq (.reg [⟨none, (some 60), .load true 2 (.t 9)⟩,
      ⟨none, none, .store true 2 (.t 4) (.t 60) []⟩,
      ⟨none, (some 5), .mv (.c (.int .i64 0))⟩])
    .ret)))))))
theorem ok38 : FnOk Try.prog 38 61 4 c38 [.cell 4 true 2, .t 5] := ⟨_, _, Try.func38, rfl, rfl, by kernel_rfl, by kernel_rfl⟩
theorem bd38 : bodied Try.prog 38 = true := by kernel_rfl

/-- ferrule/ferruleref02.Tight -/
def c39 : CI := (.seq (.reg [⟨none, (some 2), .box 0 true (.t 0)⟩,
      ⟨none, (some 4), .mv (.c (.int .i64 0))⟩,
      ⟨none, (some 5), .mv (.c (.int .i64 0))⟩])
    (.seq (.reg [⟨none, (some 9), .load true 6 (.t 2)⟩,
      ⟨none, (some 10), .mv (.t 1)⟩,
      ⟨none, (some 11), .callz 1 1 64 [(.t 9), (.c (.int .i64 0)), (.t 10)] []⟩,
      ⟨none, (some 8), .mv (.t 11)⟩,
      ⟨none, (some 12), .extract 0 (.t 8)⟩,
      ⟨none, (some 13), .extract 1 (.t 8)⟩,
      ⟨none, (some 6), .mv (.t 12)⟩,
      ⟨none, (some 7), .mv (.t 13)⟩])
    (.seq (.seq (.reg [⟨none, (some 14), .mv (.t 7)⟩,
      ⟨none, (some 15), .bin .neq (.t 14) (.c (.int .i64 0))⟩])
    (.cond (.t 15) (.seq (.reg [⟨none, (some 16), .mv (.t 7)⟩,
      ⟨none, (some 4), .mv (.c (.int .i64 0))⟩,
      ⟨none, (some 5), .mv (.t 16)⟩])
    .ret)
    .skip))
    (.seq (.seq (.reg [⟨none, (some 17), .load true 6 (.t 2)⟩,
      ⟨none, (some 18), .mv (.t 6)⟩,
      ⟨none, (some 19), .mv (.t 1)⟩,
      ⟨none, (some 20), .faddr 4 (.t 2)⟩,
      ⟨none, (some 21), .load false 1 (.t 20)⟩,
      ⟨none, (some 22), .mv (.t 1)⟩,
      ⟨none, (some 23), .iaddr 1 (.t 21) (.t 22)⟩,
      ⟨none, (some 24), .load false 1 (.t 23)⟩,
      ⟨none, (some 25), .call 58 [(.t 17), (.t 18), (.t 19), (.t 24)]⟩])
    (.block 0 (.seq (.reg [⟨none, (some 27), .mv (.t 6)⟩,
      ⟨none, (some 28), .len (.t 27)⟩,
      ⟨none, (some 29), .bin .eql (.t 25) (.t 28)⟩,
      ⟨none, (some 26), .mv (.t 29)⟩])
    (.cond (.t 26) (.seq (.reg [⟨none, (some 4), .mv (.c (.int .i64 1))⟩,
      ⟨none, (some 5), .mv (.c (.int .i64 0))⟩])
    .ret)
    (.seq (.reg [⟨none, (some 31), .bin .eql (.t 25) (.c (.int .i64 0))⟩,
      ⟨none, (some 30), .mv (.t 31)⟩])
    (.cond (.t 30) (.seq (.reg [⟨none, (some 4), .mv (.c (.int .i64 2))⟩,
      ⟨none, (some 5), .mv (.c (.int .i64 0))⟩])
    .ret)
    .skip))))))
    (.seq (.reg [⟨none, (some 4), .mv (.c (.int .i64 3))⟩,
      ⟨none, (some 5), .mv (.c (.int .i64 0))⟩])
    .ret)))))
theorem ok39 : FnOk Try.prog 39 32 2 c39 [.t 4, .t 5] := ⟨_, _, Try.func39, rfl, rfl, by kernel_rfl, by kernel_rfl⟩
theorem bd39 : bodied Try.prog 39 = true := by kernel_rfl

/-- ferrule/ferruleref02.Loose -/
def c40 : CI := (.seq (.reg [⟨none, (some 1), .box 0 true (.t 0)⟩,
      ⟨none, (some 2), .mv (.c .nils)⟩,
      ⟨none, (some 3), .mv (.c (.int .i64 0))⟩])
    (.seq (.seq (.reg [⟨none, (some 11), .load true 6 (.t 1)⟩,
      ⟨none, (some 12), .callz 1 1 64 [(.t 11), (.c (.int .i64 0)), (.c (.int .i64 0))] []⟩,
      ⟨none, (some 10), .mv (.t 12)⟩,
      ⟨none, (some 13), .extract 0 (.t 10)⟩,
      ⟨none, (some 14), .extract 1 (.t 10)⟩,
      ⟨none, (some 4), .mv (.t 13)⟩,
      ⟨none, (some 5), .mv (.t 14)⟩])
    (.seq (.reg [⟨none, (some 15), .mv (.t 5)⟩,
      ⟨none, (some 16), .bin .neq (.t 15) (.c (.int .i64 0))⟩])
    (.cond (.t 16) (.seq (.reg [⟨none, (some 17), .mv (.t 5)⟩,
      ⟨none, (some 2), .mv (.c .nils)⟩,
      ⟨none, (some 3), .mv (.t 17)⟩])
    .ret)
    .skip)))
    (.seq (.reg [⟨none, (some 6), .mv (.c .nils)⟩])
    (.seq (.seq (.reg [⟨none, (some 7), .mv (.c (.int .i64 0))⟩])
    (.block 0 (.loop (.seq (.seq (.reg [⟨none, (some 18), .mv (.t 7)⟩,
      ⟨none, (some 19), .faddr 3 (.t 1)⟩,
      ⟨none, (some 20), .load false 1 (.t 19)⟩,
      ⟨none, (some 21), .len (.t 20)⟩,
      ⟨none, (some 22), .bin .lss (.t 18) (.t 21)⟩])
    (.cond (.t 22) .skip
    (.exit 0)))
    (.seq (.block 1 (.seq (.reg [⟨none, (some 26), .load true 6 (.t 1)⟩,
      ⟨none, (some 27), .mv (.t 7)⟩,
      ⟨none, (some 28), .call 39 [(.t 26), (.t 27)]⟩,
      ⟨none, (some 25), .mv (.t 28)⟩,
      ⟨none, (some 29), .extract 0 (.t 25)⟩,
      ⟨none, (some 30), .extract 1 (.t 25)⟩,
      ⟨none, (some 8), .mv (.t 29)⟩,
      ⟨none, (some 9), .mv (.t 30)⟩])
    (.seq (.reg [⟨none, (some 31), .mv (.t 8)⟩,
      ⟨none, (some 32), .bin .neq (.t 31) (.c (.int .i64 1))⟩])
    (.cond (.t 32) (.reg [⟨none, (some 33), .mv (.t 6)⟩,
      ⟨none, (some 34), .mv (.t 7)⟩,
      ⟨none, (some 35), .bsl 2 3 1 [(.t 34)] []⟩,
      ⟨none, (some 36), .apd 3 3 1 8 (.t 33) (.t 35) []⟩,
      ⟨none, (some 6), .mv (.t 36)⟩])
    .skip))))
    (.reg [⟨none, (some 23), .mv (.t 7)⟩,
      ⟨none, (some 24), .bin .add (.t 23) (.c (.int .i64 1))⟩,
      ⟨none, (some 7), .mv (.t 24)⟩]))))))
    (.seq (.reg [⟨none, (some 37), .mv (.t 6)⟩,
      ⟨none, (some 2), .mv (.t 37)⟩,
      ⟨none, (some 3), .mv (.c (.int .i64 0))⟩])
    .ret)))))
theorem ok40 : FnOk Try.prog 40 38 4 c40 [.t 2, .t 3] := ⟨_, _, Try.func40, rfl, rfl, by kernel_rfl, by kernel_rfl⟩
theorem bd40 : bodied Try.prog 40 = true := by kernel_rfl

/-- ferrule/ferruleref02.Cut -/
def c41 : CI := (.seq (.reg [⟨none, (some 2), .box 0 true (.t 0)⟩,
      ⟨none, (some 4), .alloc 1 [(.int .i64 0), (.int .i64 0)]⟩,
      ⟨none, (some 5), .mv (.c (.int .i64 0))⟩])
    (.seq (.reg [⟨none, (some 11), .load true 6 (.t 2)⟩,
      ⟨none, (some 12), .mv (.t 1)⟩,
      ⟨none, (some 13), .callz 2 1 64 [(.t 11), (.c (.int .i64 0)), (.t 12)] []⟩,
      ⟨none, (some 10), .mv (.t 13)⟩,
      ⟨none, (some 14), .extract 0 (.t 10)⟩,
      ⟨none, (some 15), .extract 1 (.t 10)⟩,
      ⟨none, (some 6), .mv (.t 14)⟩,
      ⟨none, (some 7), .mv (.t 15)⟩])
    (.seq (.seq (.reg [⟨none, (some 16), .mv (.t 7)⟩,
      ⟨none, (some 17), .bin .neq (.t 16) (.c (.int .i64 0))⟩])
    (.cond (.t 17) (.seq (.reg [⟨none, (some 18), .build [(.int .i64 0), (.int .i64 0)] []⟩,
      ⟨none, (some 19), .mv (.t 7)⟩,
      ⟨none, none, .store true 2 (.t 4) (.t 18) []⟩,
      ⟨none, (some 5), .mv (.t 19)⟩])
    .ret)
    .skip))
    (.seq (.reg [⟨none, (some 21), .load true 6 (.t 2)⟩,
      ⟨none, (some 22), .mv (.t 6)⟩,
      ⟨none, (some 23), .mv (.t 1)⟩,
      ⟨none, (some 24), .call 67 [(.t 21), (.t 22), (.t 23)]⟩,
      ⟨none, (some 20), .mv (.t 24)⟩,
      ⟨none, (some 25), .extract 0 (.t 20)⟩,
      ⟨none, (some 26), .extract 1 (.t 20)⟩,
      ⟨none, (some 8), .alloc 3 [(.int .i64 0), (.int .i64 0)]⟩,
      ⟨none, none, .store true 2 (.t 8) (.t 25) []⟩,
      ⟨none, (some 9), .mv (.t 26)⟩])
    (.seq (.seq (.reg [⟨none, (some 27), .mv (.t 9)⟩,
      ⟨none, (some 28), .un .not (.t 27)⟩])
    (.cond (.t 28) (.seq (.reg [⟨none, (some 29), .build [(.int .i64 0), (.int .i64 0)] []⟩,
      ⟨none, none, .store true 2 (.t 4) (.t 29) []⟩,
      ⟨none, (some 5), .mv (.c (.int .i64 3))⟩])
    .ret)
    .skip))
    (.seq (.reg [⟨none, (some 30), .load true 2 (.t 8)⟩,
      ⟨none, none, .store true 2 (.t 4) (.t 30) []⟩,
      ⟨none, (some 5), .mv (.c (.int .i64 0))⟩])
    .ret))))))
theorem ok41 : FnOk Try.prog 41 31 4 c41 [.cell 4 true 2, .t 5] := ⟨_, _, Try.func41, rfl, rfl, by kernel_rfl, by kernel_rfl⟩
theorem bd41 : bodied Try.prog 41 = true := by kernel_rfl

/-- ferrule/ferruleref02.Least -/
def c42 : CI := (.seq (.reg [⟨none, (some 1), .box 0 true (.t 0)⟩,
      ⟨none, (some 2), .mv (.c (.int .i64 0))⟩,
      ⟨none, (some 3), .mv (.c (.int .i64 0))⟩])
    (.seq (.reg [⟨none, (some 16), .load true 6 (.t 1)⟩,
      ⟨none, (some 17), .callz 1 1 64 [(.t 16), (.c (.int .i64 0)), (.c (.int .i64 0))] []⟩,
      ⟨none, (some 15), .mv (.t 17)⟩,
      ⟨none, (some 18), .extract 0 (.t 15)⟩,
      ⟨none, (some 19), .extract 1 (.t 15)⟩,
      ⟨none, (some 4), .mv (.t 18)⟩,
      ⟨none, (some 5), .mv (.t 19)⟩])
    (.seq (.seq (.reg [⟨none, (some 20), .mv (.t 5)⟩,
      ⟨none, (some 21), .bin .neq (.t 20) (.c (.int .i64 0))⟩])
    (.cond (.t 21) (.seq (.reg [⟨none, (some 22), .mv (.t 5)⟩,
      ⟨none, (some 2), .mv (.c (.int .i64 0))⟩,
      ⟨none, (some 3), .mv (.t 22)⟩])
    .ret)
    .skip))
    (.seq (.reg [⟨none, (some 6), .mv (.c .nils)⟩])
    (.seq (.seq (.reg [⟨none, (some 7), .mv (.c (.int .i64 0))⟩])
    (.block 0 (.loop (.seq (.seq (.reg [⟨none, (some 23), .mv (.t 7)⟩,
      ⟨none, (some 24), .faddr 3 (.t 1)⟩,
      ⟨none, (some 25), .load false 1 (.t 24)⟩,
      ⟨none, (some 26), .len (.t 25)⟩,
      ⟨none, (some 27), .bin .lss (.t 23) (.t 26)⟩])
    (.cond (.t 27) .skip
    (.exit 0)))
    (.seq (.block 1 (.seq (.reg [⟨none, (some 31), .load true 6 (.t 1)⟩,
      ⟨none, (some 32), .mv (.t 4)⟩,
      ⟨none, (some 33), .mv (.t 7)⟩,
      ⟨none, (some 34), .call 67 [(.t 31), (.t 32), (.t 33)]⟩,
      ⟨none, (some 30), .mv (.t 34)⟩,
      ⟨none, (some 35), .extract 0 (.t 30)⟩,
      ⟨none, (some 36), .extract 1 (.t 30)⟩,
      ⟨none, (some 8), .alloc 2 [(.int .i64 0), (.int .i64 0)]⟩,
      ⟨none, none, .store true 2 (.t 8) (.t 35) []⟩,
      ⟨none, (some 9), .mv (.t 36)⟩])
    (.seq (.seq (.reg [⟨none, (some 37), .mv (.t 9)⟩,
      ⟨none, (some 38), .un .not (.t 37)⟩])
    (.cond (.t 38) (.seq (.reg [⟨none, (some 2), .mv (.c (.int .i64 0))⟩,
      ⟨none, (some 3), .mv (.c (.int .i64 3))⟩])
    .ret)
    .skip))
    (.seq (.reg [⟨none, (some 39), .mks 3 3 1 8 [(.int .i64 0)] (.c (.int .i64 2001)) (.c (.int .i64 2001))⟩,
      ⟨none, (some 10), .mv (.t 39)⟩])
    (.seq (.seq (.reg [⟨none, (some 11), .mv (.c (.int .i64 0))⟩])
    (.block 2 (.loop (.seq (.seq (.reg [⟨none, (some 40), .mv (.t 11)⟩,
      ⟨none, (some 41), .bin .leq (.t 40) (.c (.int .i64 2000))⟩])
    (.cond (.t 41) .skip
    (.exit 2)))
    (.seq (.block 3 (.seq (.reg [⟨none, (some 44), .mv (.t 10)⟩,
      ⟨none, (some 45), .mv (.t 11)⟩,
      ⟨none, (some 46), .iaddr 1 (.t 44) (.t 45)⟩,
      ⟨none, none, .store false 1 (.t 46) (.c (.int .i64 1073741824)) []⟩])
    (.seq (.seq (.reg [⟨none, (some 47), .mv (.t 11)⟩,
      ⟨none, (some 48), .faddr 0 (.t 8)⟩,
      ⟨none, (some 49), .load false 1 (.t 48)⟩,
      ⟨none, (some 50), .faddr 1 (.t 8)⟩,
      ⟨none, (some 51), .load false 1 (.t 50)⟩,
      ⟨none, (some 52), .call 54 [(.t 47), (.t 49), (.t 51)]⟩,
      ⟨none, (some 53), .un .not (.t 52)⟩])
    (.cond (.t 53) (.exit 3)
    .skip))
    (.seq (.seq (.reg [⟨none, (some 54), .mv (.t 7)⟩,
      ⟨none, (some 55), .bin .eql (.t 54) (.c (.int .i64 0))⟩])
    (.cond (.t 55) (.reg [⟨none, (some 56), .mv (.t 10)⟩,
      ⟨none, (some 57), .mv (.t 11)⟩,
      ⟨none, (some 58), .mv (.t 11)⟩,
      ⟨none, (some 59), .iaddr 1 (.t 56) (.t 57)⟩,
      ⟨none, none, .store false 1 (.t 59) (.t 58) []⟩])
    .skip))
    (.seq (.reg [⟨none, (some 60), .mv (.t 11)⟩,
      ⟨none, (some 61), .faddr 5 (.t 1)⟩,
      ⟨none, (some 62), .load false 1 (.t 61)⟩,
      ⟨none, (some 63), .bin .sub (.t 60) (.t 62)⟩,
      ⟨none, (some 64), .mm true [(.c (.int .i64 0)), (.t 63)]⟩,
      ⟨none, (some 12), .mv (.t 64)⟩])
    (.block 4 (.loop (.seq (.seq (.reg [⟨none, (some 65), .mv (.t 7)⟩,
      ⟨none, (some 66), .bin .gtr (.t 65) (.c (.int .i64 0))⟩,
      ⟨none, (some 67), .mv (.t 66)⟩,
      ⟨(some (67, true)), (some 68), .mv (.t 12)⟩,
      ⟨(some (67, true)), (some 69), .mv (.t 11)⟩,
      ⟨(some (67, true)), (some 70), .faddr 5 (.t 1)⟩,
      ⟨(some (67, true)), (some 71), .load false 1 (.t 70)⟩,
      ⟨(some (67, true)), (some 72), .bin .add (.t 69) (.t 71)⟩,
      ⟨(some (67, true)), (some 73), .mm false [(.c (.int .i64 2000)), (.t 72)]⟩,
      ⟨(some (67, true)), (some 74), .bin .leq (.t 68) (.t 73)⟩,
      ⟨none, (some 75), .pick (.t 67) (.t 74) (.c (.bool false))⟩])
    (.cond (.t 75) .skip
    (.exit 4)))
    (.seq (.block 5 (.reg [⟨none, (some 78), .mv (.t 10)⟩,
      ⟨none, (some 79), .mv (.t 11)⟩,
      ⟨none, (some 80), .mv (.t 10)⟩,
      ⟨none, (some 81), .mv (.t 11)⟩,
      ⟨none, (some 82), .iaddr 1 (.t 80) (.t 81)⟩,
      ⟨none, (some 83), .load false 1 (.t 82)⟩,
      ⟨none, (some 84), .mv (.t 6)⟩,
      ⟨none, (some 85), .mv (.t 12)⟩,
      ⟨none, (some 86), .iaddr 1 (.t 84) (.t 85)⟩,
      ⟨none, (some 87), .load false 1 (.t 86)⟩,
      ⟨none, (some 88), .mv (.t 11)⟩,
      ⟨none, (some 89), .bin .add (.t 87) (.t 88)⟩,
      ⟨none, (some 90), .mm false [(.t 83), (.t 89)]⟩,
      ⟨none, (some 91), .iaddr 1 (.t 78) (.t 79)⟩,
      ⟨none, none, .store false 1 (.t 91) (.t 90) []⟩]))
    (.reg [⟨none, (some 76), .mv (.t 12)⟩,
      ⟨none, (some 77), .bin .add (.t 76) (.c (.int .i64 1))⟩,
      ⟨none, (some 12), .mv (.t 77)⟩]))))))))))
    (.reg [⟨none, (some 42), .mv (.t 11)⟩,
      ⟨none, (some 43), .bin .add (.t 42) (.c (.int .i64 1))⟩,
      ⟨none, (some 11), .mv (.t 43)⟩]))))))
    (.reg [⟨none, (some 92), .mv (.t 10)⟩,
      ⟨none, (some 6), .mv (.t 92)⟩]))))))
    (.reg [⟨none, (some 28), .mv (.t 7)⟩,
      ⟨none, (some 29), .bin .add (.t 28) (.c (.int .i64 1))⟩,
      ⟨none, (some 7), .mv (.t 29)⟩]))))))
    (.seq (.reg [⟨none, (some 13), .mv (.c (.int .i64 1073741824))⟩])
    (.seq (.seq (.reg [⟨none, (some 14), .mv (.c (.int .i64 0))⟩])
    (.block 6 (.loop (.seq (.seq (.reg [⟨none, (some 93), .mv (.t 14)⟩,
      ⟨none, (some 94), .bin .leq (.t 93) (.c (.int .i64 2000))⟩])
    (.cond (.t 94) .skip
    (.exit 6)))
    (.seq (.block 7 (.reg [⟨none, (some 97), .mv (.t 13)⟩,
      ⟨none, (some 98), .mv (.t 6)⟩,
      ⟨none, (some 99), .mv (.t 14)⟩,
      ⟨none, (some 100), .iaddr 1 (.t 98) (.t 99)⟩,
      ⟨none, (some 101), .load false 1 (.t 100)⟩,
      ⟨none, (some 102), .mm false [(.t 97), (.t 101)]⟩,
      ⟨none, (some 13), .mv (.t 102)⟩]))
    (.reg [⟨none, (some 95), .mv (.t 14)⟩,
      ⟨none, (some 96), .bin .add (.t 95) (.c (.int .i64 1))⟩,
      ⟨none, (some 14), .mv (.t 96)⟩]))))))
    (.seq (.seq (.reg [⟨none, (some 103), .mv (.t 13)⟩,
      ⟨none, (some 104), .bin .geq (.t 103) (.c (.int .i64 1073741824))⟩])
    (.cond (.t 104) (.seq (.reg [⟨none, (some 2), .mv (.c (.int .i64 0))⟩,
      ⟨none, (some 3), .mv (.c (.int .i64 3))⟩])
    .ret)
    .skip))
    (.seq (.reg [⟨none, (some 105), .mv (.t 13)⟩,
      ⟨none, (some 2), .mv (.t 105)⟩,
      ⟨none, (some 3), .mv (.c (.int .i64 0))⟩])
    .ret)))))))))
theorem ok42 : FnOk Try.prog 42 106 4 c42 [.t 2, .t 3] := ⟨_, _, Try.func42, rfl, rfl, by kernel_rfl, by kernel_rfl⟩
theorem bd42 : bodied Try.prog 42 = true := by kernel_rfl

/-- ferrule/cloth.Curve -/
def c43 : CI := (.seq (.reg [⟨none, (some 1), .box 0 true (.t 0)⟩,
      ⟨none, (some 2), .mv (.c .nils)⟩,
      ⟨none, (some 3), .mv (.c (.int .i64 0))⟩])
    (.seq (.reg [⟨none, (some 7), .load true 6 (.t 1)⟩,
      ⟨none, (some 8), .callz 1 5 51 [(.t 7)] []⟩,
      ⟨none, (some 6), .mv (.t 8)⟩,
      ⟨none, (some 9), .extract 0 (.t 6)⟩,
      ⟨none, (some 10), .extract 1 (.t 6)⟩,
      ⟨none, (some 4), .alloc 6 [.nils, .nils, (.int .i64 0), .nils, .nils, (.int .i64 0), .nils]⟩,
      ⟨none, none, .stz true 7 (.t 4) (.t 9) []⟩,
      ⟨none, (some 5), .mv (.t 10)⟩])
    (.seq (.seq (.reg [⟨none, (some 11), .mv (.t 5)⟩,
      ⟨none, (some 12), .bin .neq (.t 11) (.c (.int .i64 0))⟩])
    (.cond (.t 12) (.seq (.reg [⟨none, (some 13), .mv (.t 5)⟩,
      ⟨none, (some 2), .mv (.c .nils)⟩,
      ⟨none, (some 3), .mv (.t 13)⟩])
    .ret)
    .skip))
    (.seq (.reg [⟨none, (some 14), .load true 7 (.t 4)⟩,
      ⟨none, (some 15), .callz 7 1 68 [(.t 14)] []⟩,
      ⟨none, (some 16), .extract 0 (.t 15)⟩,
      ⟨none, (some 17), .extract 1 (.t 15)⟩,
      ⟨none, (some 2), .mv (.t 16)⟩,
      ⟨none, (some 3), .mv (.t 17)⟩])
    .ret))))
theorem ok43 : FnOk Try.prog 43 18 8 c43 [.t 2, .t 3] := ⟨_, _, Try.func43, rfl, rfl, by kernel_rfl, by kernel_rfl⟩
theorem bd43 : bodied Try.prog 43 = true := by kernel_rfl

/-- ferrule/ferruleref02.Can -/
def c44 : CI := (.seq (.reg [⟨none, (some 2), .box 0 true (.t 0)⟩,
      ⟨none, (some 4), .mv (.c (.bool false))⟩])
    (.seq (.reg [⟨none, (some 5), .mv (.t 1)⟩,
      ⟨none, (some 6), .faddr 0 (.t 2)⟩,
      ⟨none, (some 7), .faddr 0 (.t 6)⟩,
      ⟨none, (some 8), .load false 1 (.t 7)⟩,
      ⟨none, (some 9), .faddr 0 (.t 2)⟩,
      ⟨none, (some 10), .faddr 1 (.t 9)⟩,
      ⟨none, (some 11), .load false 1 (.t 10)⟩,
      ⟨none, (some 12), .call 54 [(.t 5), (.t 8), (.t 11)]⟩,
      ⟨none, (some 13), .mv (.t 12)⟩,
      ⟨(some (13, true)), (some 14), .load true 4 (.t 2)⟩,
      ⟨(some (13, true)), (some 15), .mv (.t 1)⟩,
      ⟨(some (13, true)), (some 17), .faddr 3 (.t 2)⟩,
      ⟨(some (13, true)), (some 18), .load false 1 (.t 17)⟩,
      ⟨(some (13, true)), (some 16), .call 66 [(.t 14), (.t 15)]⟩,
      ⟨(some (13, true)), (some 19), .bin .leq (.t 16) (.t 18)⟩,
      ⟨none, (some 20), .pick (.t 13) (.t 19) (.c (.bool false))⟩,
      ⟨none, (some 4), .mv (.t 20)⟩])
    .ret))
theorem ok44 : FnOk Try.prog 44 21 1 c44 [.t 4] := ⟨_, _, Try.func44, rfl, rfl, by kernel_rfl, by kernel_rfl⟩
theorem bd44 : bodied Try.prog 44 = true := by kernel_rfl

/-- ferrule/ferrulelaw02.Example -/
def c45 : CI := (.seq (.reg [⟨none, (some 0), .alloc 0 [.nils, .nils, (.int .i64 0), .nils, .nils, (.int .i64 0)]⟩])
    (.seq (.reg [⟨none, (some 1), .build [(.int .i64 0), (.int .i64 0)] [(1, 1, (.c (.int .i64 20)))]⟩,
      ⟨none, (some 2), .build [(.int .i64 0), (.int .i64 0)] [(0, 1, (.c (.int .i64 1005))), (1, 1, (.c (.int .i64 1010)))]⟩,
      ⟨none, (some 3), .build [(.int .i64 0), (.int .i64 0), (.int .i64 0)] [(0, 1, (.c (.int .i64 1000))), (1, 2, (.t 2))]⟩,
      ⟨none, (some 4), .bsl 1 47 3 [(.t 3)] []⟩,
      ⟨none, (some 5), .build [(.int .i64 0), (.int .i64 0), .nils, (.int .i64 0)] [(0, 2, (.t 1)), (2, 1, (.t 4))]⟩,
      ⟨none, (some 6), .build [(.int .i64 0), (.int .i64 0)] [(1, 1, (.c (.int .i64 10)))]⟩,
      ⟨none, (some 7), .build [(.int .i64 0), (.int .i64 0), .nils, (.int .i64 0)] [(0, 2, (.t 6))]⟩,
      ⟨none, (some 8), .bsl 2 52 4 [(.t 5), (.t 7)] []⟩,
      ⟨none, (some 9), .bsl 3 3 1 [(.c (.int .i64 0)), (.c (.int .i64 0)), (.c (.int .i64 1)), (.c (.int .i64 1))] []⟩,
      ⟨none, (some 10), .build [(.int .i64 0), (.int .i64 0)] [(0, 1, (.c (.int .i64 400))), (1, 1, (.c (.int .i64 404)))]⟩,
      ⟨none, (some 11), .build [(.int .i64 0), (.int .i64 0)] [(0, 1, (.c (.int .i64 600))), (1, 1, (.c (.int .i64 650)))]⟩,
      ⟨none, (some 12), .build [(.int .i64 0), (.int .i64 0)] [(0, 1, (.c (.int .i64 803))), (1, 1, (.c (.int .i64 806)))]⟩,
      ⟨none, (some 13), .bsl 4 36 2 [(.t 10), (.t 11), (.t 12)] []⟩,
      ⟨none, (some 14), .bsl 5 3 1 [(.c (.int .i64 110)), (.c (.int .i64 165)), (.c (.int .i64 210))] []⟩,
      ⟨none, (some 15), .build [.nils, .nils, (.int .i64 0), .nils, .nils, (.int .i64 0)] [(0, 1, (.t 8)), (1, 1, (.t 9)), (2, 1, (.c (.int .i64 5))), (3, 1, (.t 13)), (4, 1, (.t 14)), (5, 1, (.c (.int .i64 50)))]⟩,
      ⟨none, none, .stz true 6 (.t 0) (.t 15) []⟩])
    .ret))
theorem ok45 : FnOk Try.prog 45 16 6 c45 [.cell 0 true 6] := ⟨_, _, Try.func45, rfl, rfl, by kernel_rfl, by kernel_rfl⟩
theorem bd45 : bodied Try.prog 45 = true := by kernel_rfl

/-- ferrule/cloth.openAt[ferrule/api.Bolt] -/
def c46 : CI := (.seq (.reg [⟨none, (some 3), .box 0 true (.t 0)⟩,
      ⟨none, (some 6), .alloc 1 [.nils, .nils, (.int .i64 0), .nils, .nils, (.int .i64 0), .nils]⟩,
      ⟨none, (some 7), .mv (.c (.int .i64 0))⟩])
    (.seq (.seq (.reg [⟨none, (some 9), .load true 6 (.t 3)⟩,
      ⟨none, (some 10), .mv (.t 1)⟩,
      ⟨none, (some 11), .mv (.t 2)⟩,
      ⟨none, (some 12), .call 59 [(.t 9), (.t 10), (.t 11)]⟩,
      ⟨none, (some 8), .mv (.t 12)⟩])
    (.seq (.reg [⟨none, (some 13), .mv (.t 8)⟩,
      ⟨none, (some 14), .bin .neq (.t 13) (.c (.int .i64 0))⟩])
    (.cond (.t 14) (.seq (.reg [⟨none, (some 15), .build [.nils, .nils, (.int .i64 0), .nils, .nils, (.int .i64 0), .nils] []⟩,
      ⟨none, (some 16), .mv (.t 8)⟩,
      ⟨none, none, .stz true 7 (.t 6) (.t 15) []⟩,
      ⟨none, (some 7), .mv (.t 16)⟩])
    .ret)
    .skip)))
    (.seq (.reg [⟨none, (some 17), .load true 6 (.t 3)⟩,
      ⟨none, (some 18), .callz 2 5 69 [(.t 17)] []⟩,
      ⟨none, (some 19), .extract 0 (.t 18)⟩,
      ⟨none, (some 20), .extract 1 (.t 18)⟩,
      ⟨none, none, .stz true 7 (.t 6) (.t 19) []⟩,
      ⟨none, (some 7), .mv (.t 20)⟩])
    .ret)))
theorem ok46 : FnOk Try.prog 46 21 7 c46 [.cell 6 true 7, .t 7] := ⟨_, _, Try.func46, rfl, rfl, by kernel_rfl, by kernel_rfl⟩
theorem bd46 : bodied Try.prog 46 = true := by kernel_rfl

/-- ferrule/ferruleref02.Pull -/
def c47 : CI := (.seq (.reg [⟨none, (some 4), .mv (.c (.int .i64 0))⟩])
    (.seq (.reg [⟨none, (some 5), .mv (.t 0)⟩,
      ⟨none, (some 6), .mv (.t 1)⟩,
      ⟨none, (some 7), .bin .add (.c (.int .i64 1000)) (.t 6)⟩,
      ⟨none, (some 8), .bin .mul (.t 5) (.t 7)⟩,
      ⟨none, (some 9), .bin .quo (.t 8) (.c (.int .i64 1000))⟩,
      ⟨none, (some 4), .mv (.t 9)⟩])
    .ret))
theorem ok47 : FnOk Try.prog 47 10 0 c47 [.t 4] := ⟨_, _, Try.func47, rfl, rfl, by kernel_rfl, by kernel_rfl⟩
theorem bd47 : bodied Try.prog 47 = true := by kernel_rfl

/-- ferrule/cloth.openAt[ferrule/api.Span] -/
def c48 : CI := (.seq (.reg [⟨none, (some 3), .box 0 true (.t 0)⟩,
      ⟨none, (some 6), .alloc 1 [.nils, .nils, (.int .i64 0), .nils, .nils, (.int .i64 0), .nils]⟩,
      ⟨none, (some 7), .mv (.c (.int .i64 0))⟩])
    (.seq (.seq (.reg [⟨none, (some 9), .load true 6 (.t 3)⟩,
      ⟨none, (some 10), .mv (.t 1)⟩,
      ⟨none, (some 11), .mv (.t 2)⟩,
      ⟨none, (some 12), .call 70 [(.t 9), (.t 10), (.t 11)]⟩,
      ⟨none, (some 8), .mv (.t 12)⟩])
    (.seq (.reg [⟨none, (some 13), .mv (.t 8)⟩,
      ⟨none, (some 14), .bin .neq (.t 13) (.c (.int .i64 0))⟩])
    (.cond (.t 14) (.seq (.reg [⟨none, (some 15), .build [.nils, .nils, (.int .i64 0), .nils, .nils, (.int .i64 0), .nils] []⟩,
      ⟨none, (some 16), .mv (.t 8)⟩,
      ⟨none, none, .stz true 7 (.t 6) (.t 15) []⟩,
      ⟨none, (some 7), .mv (.t 16)⟩])
    .ret)
    .skip)))
    (.seq (.reg [⟨none, (some 17), .load true 6 (.t 3)⟩,
      ⟨none, (some 18), .callz 2 5 69 [(.t 17)] []⟩,
      ⟨none, (some 19), .extract 0 (.t 18)⟩,
      ⟨none, (some 20), .extract 1 (.t 18)⟩,
      ⟨none, none, .stz true 7 (.t 6) (.t 19) []⟩,
      ⟨none, (some 7), .mv (.t 20)⟩])
    .ret)))
theorem ok48 : FnOk Try.prog 48 21 7 c48 [.cell 6 true 7, .t 7] := ⟨_, _, Try.func48, rfl, rfl, by kernel_rfl, by kernel_rfl⟩
theorem bd48 : bodied Try.prog 48 = true := by kernel_rfl

/-- (ferrule/cloth.opened).round -/
def c49 : CI := (.seq (.reg [⟨none, (some 2), .box 0 true (.t 0)⟩,
      ⟨none, (some 4), .alloc 1 [(.int .i64 0), (.int .i64 0)]⟩])
    (.seq (.reg [⟨none, (some 5), .alloc 2 [(.int .i64 0), (.int .i64 0)]⟩])
    (.seq (.seq (.reg [⟨none, (some 9), .faddr 0 (.t 2)⟩,
      ⟨none, (some 10), .faddr 1 (.t 9)⟩,
      ⟨none, (some 11), .load false 1 (.t 10)⟩,
      ⟨none, (some 12), .len (.t 11)⟩,
      ⟨none, (some 13), .mv (.c (.int .i64 0))⟩])
    (.block 0 (.loop (.seq (.reg [⟨none, (some 14), .bin .lss (.t 13) (.t 12)⟩])
    (.seq (.cond (.t 14) .skip
    (.exit 0))
    (.seq (.block 1 (.seq (.reg [⟨none, (some 15), .iaddr 1 (.t 11) (.t 13)⟩,
      ⟨none, (some 16), .load false 1 (.t 15)⟩,
      ⟨none, (some 7), .mv (.t 16)⟩])
    (.seq (.reg [⟨none, (some 17), .faddr 6 (.t 2)⟩,
      ⟨none, (some 18), .load false 1 (.t 17)⟩,
      ⟨none, (some 19), .mv (.t 7)⟩,
      ⟨none, (some 20), .iaddr 1 (.t 18) (.t 19)⟩,
      ⟨none, (some 21), .load false 1 (.t 20)⟩,
      ⟨none, (some 8), .mv (.t 21)⟩])
    (.seq (.reg [⟨none, (some 22), .faddr 0 (.t 5)⟩,
      ⟨none, (some 23), .load false 1 (.t 22)⟩,
      ⟨none, (some 24), .load true 7 (.t 2)⟩,
      ⟨none, (some 25), .mv (.t 1)⟩,
      ⟨none, (some 26), .mv (.t 8)⟩,
      ⟨none, (some 27), .iaddr 1 (.t 26) (.c (.int .i64 0))⟩,
      ⟨none, (some 28), .load false 1 (.t 27)⟩,
      ⟨none, (some 29), .call 71 [(.t 24), (.t 25), (.t 28)]⟩,
      ⟨none, (some 30), .bin .add (.t 23) (.t 29)⟩,
      ⟨none, (some 31), .faddr 0 (.t 5)⟩,
      ⟨none, none, .store false 1 (.t 31) (.t 30) []⟩])
    (.reg [⟨none, (some 32), .faddr 1 (.t 5)⟩,
      ⟨none, (some 33), .load false 1 (.t 32)⟩,
      ⟨none, (some 34), .load true 7 (.t 2)⟩,
      ⟨none, (some 35), .mv (.t 1)⟩,
      ⟨none, (some 36), .mv (.t 8)⟩,
      ⟨none, (some 37), .mv (.t 8)⟩,
      ⟨none, (some 38), .len (.t 37)⟩,
      ⟨none, (some 39), .bin .sub (.t 38) (.c (.int .i64 1))⟩,
      ⟨none, (some 40), .iaddr 1 (.t 36) (.t 39)⟩,
      ⟨none, (some 41), .load false 1 (.t 40)⟩,
      ⟨none, (some 42), .call 71 [(.t 34), (.t 35), (.t 41)]⟩,
      ⟨none, (some 43), .bin .add (.t 33) (.t 42)⟩,
      ⟨none, (some 44), .faddr 1 (.t 5)⟩,
      ⟨none, none, .store false 1 (.t 44) (.t 43) []⟩])))))
    (.reg [⟨none, (some 45), .bin .add (.t 13) (.c (.int .i64 1))⟩,
      ⟨none, (some 13), .mv (.t 45)⟩])))))))
    (.seq (.reg [⟨none, (some 46), .load true 2 (.t 5)⟩,
      ⟨none, none, .store true 2 (.t 4) (.t 46) []⟩])
    .ret))))
theorem ok49 : FnOk Try.prog 49 47 3 c49 [.cell 4 true 2] := ⟨_, _, Try.func49, rfl, rfl, by kernel_rfl, by kernel_rfl⟩
theorem bd49 : bodied Try.prog 49 = true := by kernel_rfl

/-- (ferrule/cloth.opened).tight -/
def c50 : CI := (.seq (.reg [⟨none, (some 2), .box 0 true (.t 0)⟩,
      ⟨none, (some 4), .mv (.c (.int .i64 0))⟩])
    (.seq (.seq (.reg [⟨none, (some 6), .load true 7 (.t 2)⟩,
      ⟨none, (some 7), .mv (.t 1)⟩,
      ⟨none, (some 8), .faddr 0 (.t 2)⟩,
      ⟨none, (some 9), .faddr 4 (.t 8)⟩,
      ⟨none, (some 10), .load false 1 (.t 9)⟩,
      ⟨none, (some 11), .mv (.t 1)⟩,
      ⟨none, (some 12), .iaddr 1 (.t 10) (.t 11)⟩,
      ⟨none, (some 13), .load false 1 (.t 12)⟩,
      ⟨none, (some 14), .call 52 [(.t 6), (.t 7), (.t 13)]⟩])
    (.cond (.t 14) (.seq (.reg [⟨none, (some 4), .mv (.c (.int .i64 1))⟩])
    .ret)
    .skip))
    (.seq (.seq (.reg [⟨none, (some 15), .load true 7 (.t 2)⟩,
      ⟨none, (some 16), .faddr 0 (.t 2)⟩,
      ⟨none, (some 17), .faddr 4 (.t 16)⟩,
      ⟨none, (some 18), .load false 1 (.t 17)⟩,
      ⟨none, (some 19), .mv (.t 1)⟩,
      ⟨none, (some 20), .iaddr 1 (.t 18) (.t 19)⟩,
      ⟨none, (some 21), .load false 1 (.t 20)⟩,
      ⟨none, (some 22), .callz 1 0 72 [(.t 15), (.t 21)] []⟩,
      ⟨none, (some 23), .mrg 1 (.t 22) []⟩])
    (.block 0 (.loop (.seq (.reg [⟨none, (some 24), .mnx (.t 23)⟩,
      ⟨none, (some 25), .extract 0 (.t 24)⟩])
    (.seq (.cond (.t 25) .skip
    (.exit 0))
    (.block 1 (.seq (.reg [⟨none, (some 26), .men (.t 23)⟩,
      ⟨none, (some 27), .extract 0 (.t 26)⟩,
      ⟨none, (some 5), .mv (.t 27)⟩])
    (.seq (.reg [⟨none, (some 28), .faddr 0 (.t 2)⟩,
      ⟨none, (some 29), .faddr 3 (.t 28)⟩,
      ⟨none, (some 30), .load false 1 (.t 29)⟩,
      ⟨none, (some 31), .mv (.t 1)⟩,
      ⟨none, (some 32), .iaddr 2 (.t 30) (.t 31)⟩,
      ⟨none, (some 33), .load true 2 (.t 32)⟩,
      ⟨none, (some 34), .mv (.t 5)⟩,
      ⟨none, (some 35), .call 73 [(.t 33), (.t 34)]⟩])
    (.cond (.t 35) (.seq (.reg [⟨none, (some 4), .mv (.c (.int .i64 3))⟩])
    .ret)
    .skip)))))))))
    (.seq (.reg [⟨none, (some 4), .mv (.c (.int .i64 2))⟩])
    .ret))))
theorem ok50 : FnOk Try.prog 50 36 2 c50 [.t 4] := ⟨_, _, Try.func50, rfl, rfl, by kernel_rfl, by kernel_rfl⟩
theorem bd50 : bodied Try.prog 50 = true := by kernel_rfl

/-- ferrule/cloth.open -/
def c51 : CI := (.seq (.reg [⟨none, (some 1), .box 0 true (.t 0)⟩,
      ⟨none, (some 2), .alloc 1 [.nils, .nils, (.int .i64 0), .nils, .nils, (.int .i64 0), .nils]⟩,
      ⟨none, (some 3), .mv (.c (.int .i64 0))⟩])
    (.seq (.seq (.reg [⟨none, (some 5), .load true 6 (.t 1)⟩,
      ⟨none, (some 6), .call 34 [(.t 5)]⟩,
      ⟨none, (some 4), .mv (.t 6)⟩])
    (.seq (.reg [⟨none, (some 7), .mv (.t 4)⟩,
      ⟨none, (some 8), .bin .neq (.t 7) (.c (.int .i64 0))⟩])
    (.cond (.t 8) (.seq (.reg [⟨none, (some 9), .build [.nils, .nils, (.int .i64 0), .nils, .nils, (.int .i64 0), .nils] []⟩,
      ⟨none, (some 10), .mv (.t 4)⟩,
      ⟨none, none, .stz true 7 (.t 2) (.t 9) []⟩,
      ⟨none, (some 3), .mv (.t 10)⟩])
    .ret)
    .skip)))
    (.seq (.reg [⟨none, (some 11), .load true 6 (.t 1)⟩,
      ⟨none, (some 12), .callz 2 5 69 [(.t 11)] []⟩,
      ⟨none, (some 13), .extract 0 (.t 12)⟩,
      ⟨none, (some 14), .extract 1 (.t 12)⟩,
      ⟨none, none, .stz true 7 (.t 2) (.t 13) []⟩,
      ⟨none, (some 3), .mv (.t 14)⟩])
    .ret)))
theorem ok51 : FnOk Try.prog 51 15 7 c51 [.cell 2 true 7, .t 3] := ⟨_, _, Try.func51, rfl, rfl, by kernel_rfl, by kernel_rfl⟩
theorem bd51 : bodied Try.prog 51 = true := by kernel_rfl

/-- (ferrule/cloth.opened).surelyTight -/
def c52 : CI := (.seq (.reg [⟨none, (some 3), .box 0 true (.t 0)⟩,
      ⟨none, (some 6), .mv (.c (.bool false))⟩])
    (.seq (.reg [⟨none, (some 8), .load true 7 (.t 3)⟩,
      ⟨none, (some 9), .mv (.t 2)⟩,
      ⟨none, (some 10), .call 49 [(.t 8), (.t 9)]⟩,
      ⟨none, (some 7), .alloc 1 [(.int .i64 0), (.int .i64 0)]⟩,
      ⟨none, none, .store true 2 (.t 7) (.t 10) []⟩])
    (.seq (.reg [⟨none, (some 11), .faddr 0 (.t 3)⟩,
      ⟨none, (some 12), .faddr 3 (.t 11)⟩,
      ⟨none, (some 13), .load false 1 (.t 12)⟩,
      ⟨none, (some 14), .mv (.t 1)⟩,
      ⟨none, (some 15), .iaddr 2 (.t 13) (.t 14)⟩,
      ⟨none, (some 16), .load true 2 (.t 15)⟩,
      ⟨none, (some 17), .faddr 0 (.t 7)⟩,
      ⟨none, (some 18), .load false 1 (.t 17)⟩,
      ⟨none, (some 19), .call 73 [(.t 16), (.t 18)]⟩,
      ⟨none, (some 20), .mv (.t 19)⟩,
      ⟨(some (20, true)), (some 21), .faddr 0 (.t 3)⟩,
      ⟨(some (20, true)), (some 22), .faddr 3 (.t 21)⟩,
      ⟨(some (20, true)), (some 23), .load false 1 (.t 22)⟩,
      ⟨(some (20, true)), (some 24), .mv (.t 1)⟩,
      ⟨(some (20, true)), (some 25), .iaddr 2 (.t 23) (.t 24)⟩,
      ⟨(some (20, true)), (some 26), .load true 2 (.t 25)⟩,
      ⟨(some (20, true)), (some 27), .faddr 1 (.t 7)⟩,
      ⟨(some (20, true)), (some 28), .load false 1 (.t 27)⟩,
      ⟨(some (20, true)), (some 29), .call 73 [(.t 26), (.t 28)]⟩,
      ⟨none, (some 30), .pick (.t 20) (.t 29) (.c (.bool false))⟩,
      ⟨none, (some 6), .mv (.t 30)⟩])
    .ret)))
theorem ok52 : FnOk Try.prog 52 31 2 c52 [.t 6] := ⟨_, _, Try.func52, rfl, rfl, by kernel_rfl, by kernel_rfl⟩
theorem bd52 : bodied Try.prog 52 = true := by kernel_rfl

/-- (ferrule/cloth.opened).cut -/
def c53 : CI := (.seq (.reg [⟨none, (some 2), .box 0 true (.t 0)⟩,
      ⟨none, (some 4), .alloc 1 [(.int .i64 0), (.int .i64 0)]⟩,
      ⟨none, (some 5), .mv (.c (.int .i64 0))⟩])
    (.seq (.reg [⟨none, (some 6), .mv (.c (.bool false))⟩])
    (.seq (.reg [⟨none, (some 7), .alloc 2 [(.int .i64 0), (.int .i64 0)]⟩])
    (.seq (.seq (.reg [⟨none, (some 9), .faddr 0 (.t 2)⟩,
      ⟨none, (some 10), .faddr 2 (.t 9)⟩,
      ⟨none, (some 11), .load false 1 (.t 10)⟩,
      ⟨none, (some 12), .bin .mul (.c (.int .i64 2)) (.t 11)⟩,
      ⟨none, (some 8), .mv (.t 12)⟩])
    (.block 0 (.loop (.seq (.seq (.reg [⟨none, (some 13), .mv (.t 8)⟩,
      ⟨none, (some 14), .bin .leq (.t 13) (.c (.int .i64 2000))⟩])
    (.cond (.t 14) .skip
    (.exit 0)))
    (.seq (.block 1 (.seq (.seq (.reg [⟨none, (some 17), .load true 7 (.t 2)⟩,
      ⟨none, (some 18), .mv (.t 1)⟩,
      ⟨none, (some 19), .mv (.t 8)⟩,
      ⟨none, (some 20), .call 52 [(.t 17), (.t 18), (.t 19)]⟩,
      ⟨none, (some 21), .un .not (.t 20)⟩])
    (.cond (.t 21) (.exit 1)
    .skip))
    (.seq (.seq (.reg [⟨none, (some 22), .mv (.t 6)⟩,
      ⟨none, (some 23), .un .not (.t 22)⟩])
    (.cond (.t 23) (.reg [⟨none, (some 24), .mv (.t 8)⟩,
      ⟨none, (some 25), .faddr 0 (.t 7)⟩,
      ⟨none, none, .store false 1 (.t 25) (.t 24) []⟩])
    .skip))
    (.reg [⟨none, (some 26), .mv (.t 8)⟩,
      ⟨none, (some 27), .faddr 1 (.t 7)⟩,
      ⟨none, none, .store false 1 (.t 27) (.t 26) []⟩,
      ⟨none, (some 6), .mv (.c (.bool true))⟩]))))
    (.reg [⟨none, (some 15), .mv (.t 8)⟩,
      ⟨none, (some 16), .bin .add (.t 15) (.c (.int .i64 1))⟩,
      ⟨none, (some 8), .mv (.t 16)⟩]))))))
    (.seq (.seq (.reg [⟨none, (some 28), .mv (.t 6)⟩,
      ⟨none, (some 29), .un .not (.t 28)⟩])
    (.cond (.t 29) (.seq (.reg [⟨none, (some 30), .build [(.int .i64 0), (.int .i64 0)] []⟩,
      ⟨none, none, .store true 2 (.t 4) (.t 30) []⟩,
      ⟨none, (some 5), .mv (.c (.int .i64 3))⟩])
    .ret)
    .skip))
    (.seq (.reg [⟨none, (some 31), .load true 2 (.t 7)⟩,
      ⟨none, none, .store true 2 (.t 4) (.t 31) []⟩,
      ⟨none, (some 5), .mv (.c (.int .i64 0))⟩])
    .ret))))))
theorem ok53 : FnOk Try.prog 53 32 3 c53 [.cell 4 true 2, .t 5] := ⟨_, _, Try.func53, rfl, rfl, by kernel_rfl, by kernel_rfl⟩
theorem bd53 : bodied Try.prog 53 = true := by kernel_rfl

/-- ferrule/ferruleref02.within -/
def c54 : CI := (.seq (.reg [⟨none, (some 6), .mv (.c (.bool false))⟩])
    (.seq (.reg [⟨none, (some 7), .mv (.t 0)⟩,
      ⟨none, (some 8), .mv (.t 1)⟩,
      ⟨none, (some 9), .bin .geq (.t 7) (.t 8)⟩,
      ⟨none, (some 10), .mv (.t 9)⟩,
      ⟨(some (10, true)), (some 11), .mv (.t 0)⟩,
      ⟨(some (10, true)), (some 12), .mv (.t 2)⟩,
      ⟨(some (10, true)), (some 13), .bin .leq (.t 11) (.t 12)⟩,
      ⟨none, (some 14), .pick (.t 10) (.t 13) (.c (.bool false))⟩,
      ⟨none, (some 6), .mv (.t 14)⟩])
    .ret))
theorem ok54 : FnOk Try.prog 54 15 0 c54 [.t 6] := ⟨_, _, Try.func54, rfl, rfl, by kernel_rfl, by kernel_rfl⟩
theorem bd54 : bodied Try.prog 54 = true := by kernel_rfl

/-- ferrule/ferruleref02.isSpan -/
def c55 : CI := (.seq (.reg [⟨none, (some 2), .box 0 true (.t 0)⟩,
      ⟨none, (some 4), .mv (.c (.bool false))⟩])
    (.seq (.reg [⟨none, (some 5), .faddr 0 (.t 2)⟩,
      ⟨none, (some 6), .load false 1 (.t 5)⟩,
      ⟨none, (some 7), .bin .leq (.c (.int .i64 0)) (.t 6)⟩,
      ⟨none, (some 8), .mv (.t 7)⟩,
      ⟨(some (8, true)), (some 9), .faddr 0 (.t 2)⟩,
      ⟨(some (8, true)), (some 10), .load false 1 (.t 9)⟩,
      ⟨(some (8, true)), (some 11), .faddr 1 (.t 2)⟩,
      ⟨(some (8, true)), (some 12), .load false 1 (.t 11)⟩,
      ⟨(some (8, true)), (some 13), .bin .leq (.t 10) (.t 12)⟩,
      ⟨none, (some 14), .pick (.t 8) (.t 13) (.c (.bool false))⟩,
      ⟨none, (some 15), .mv (.t 14)⟩,
      ⟨(some (15, true)), (some 16), .faddr 1 (.t 2)⟩,
      ⟨(some (15, true)), (some 17), .load false 1 (.t 16)⟩,
      ⟨(some (15, true)), (some 18), .mv (.t 1)⟩,
      ⟨(some (15, true)), (some 19), .bin .leq (.t 17) (.t 18)⟩,
      ⟨none, (some 20), .pick (.t 15) (.t 19) (.c (.bool false))⟩,
      ⟨none, (some 4), .mv (.t 20)⟩])
    .ret))
theorem ok55 : FnOk Try.prog 55 21 1 c55 [.t 4] := ⟨_, _, Try.func55, rfl, rfl, by kernel_rfl, by kernel_rfl⟩
theorem bd55 : bodied Try.prog 55 = true := by kernel_rfl

/-- ferrule/ferruleref02.isBolt -/
def c56 : CI := (.seq (.reg [⟨none, (some 1), .box 0 true (.t 0)⟩,
      ⟨none, (some 2), .mv (.c (.bool false))⟩])
    (.seq (.seq (.reg [⟨none, (some 4), .faddr 0 (.t 1)⟩,
      ⟨none, (some 5), .load true 2 (.t 4)⟩,
      ⟨none, (some 6), .call 55 [(.t 5), (.c (.int .i64 60))]⟩,
      ⟨none, (some 7), .un .not (.t 6)⟩,
      ⟨none, (some 8), .mv (.t 7)⟩,
      ⟨(some (8, false)), (some 9), .faddr 2 (.t 1)⟩,
      ⟨(some (8, false)), (some 10), .load false 1 (.t 9)⟩,
      ⟨(some (8, false)), (some 11), .len (.t 10)⟩,
      ⟨(some (8, false)), (some 12), .bin .gtr (.t 11) (.c (.int .i64 8))⟩,
      ⟨none, (some 13), .pick (.t 8) (.c (.bool true)) (.t 12)⟩,
      ⟨none, (some 14), .mv (.t 13)⟩,
      ⟨(some (14, false)), (some 15), .faddr 3 (.t 1)⟩,
      ⟨(some (14, false)), (some 16), .load false 1 (.t 15)⟩,
      ⟨(some (14, false)), (some 17), .call 54 [(.t 16), (.c (.int .i64 0)), (.c (.int .i64 2))]⟩,
      ⟨(some (14, false)), (some 18), .un .not (.t 17)⟩,
      ⟨none, (some 19), .pick (.t 14) (.c (.bool true)) (.t 18)⟩])
    (.cond (.t 19) (.seq (.reg [⟨none, (some 2), .mv (.c (.bool false))⟩])
    .ret)
    .skip))
    (.seq (.seq (.reg [⟨none, (some 3), .mv (.c (.int .i64 0))⟩])
    (.block 0 (.loop (.seq (.seq (.reg [⟨none, (some 20), .mv (.t 3)⟩,
      ⟨none, (some 21), .faddr 2 (.t 1)⟩,
      ⟨none, (some 22), .load false 1 (.t 21)⟩,
      ⟨none, (some 23), .len (.t 22)⟩,
      ⟨none, (some 24), .bin .lss (.t 20) (.t 23)⟩])
    (.cond (.t 24) .skip
    (.exit 0)))
    (.seq (.block 1 (.seq (.reg [⟨none, (some 27), .faddr 2 (.t 1)⟩,
      ⟨none, (some 28), .load false 1 (.t 27)⟩,
      ⟨none, (some 29), .mv (.t 3)⟩,
      ⟨none, (some 30), .iaddr 3 (.t 28) (.t 29)⟩,
      ⟨none, (some 31), .faddr 0 (.t 30)⟩,
      ⟨none, (some 32), .load false 1 (.t 31)⟩,
      ⟨none, (some 33), .call 54 [(.t 32), (.c (.int .i64 1)), (.c (.int .i64 2000))]⟩,
      ⟨none, (some 34), .un .not (.t 33)⟩,
      ⟨none, (some 35), .mv (.t 34)⟩,
      ⟨(some (35, false)), (some 36), .faddr 2 (.t 1)⟩,
      ⟨(some (35, false)), (some 37), .load false 1 (.t 36)⟩,
      ⟨(some (35, false)), (some 38), .mv (.t 3)⟩,
      ⟨(some (35, false)), (some 39), .iaddr 3 (.t 37) (.t 38)⟩,
      ⟨(some (35, false)), (some 40), .faddr 1 (.t 39)⟩,
      ⟨(some (35, false)), (some 41), .load true 2 (.t 40)⟩,
      ⟨(some (35, false)), (some 42), .call 55 [(.t 41), (.c (.int .i64 4000))]⟩,
      ⟨(some (35, false)), (some 43), .un .not (.t 42)⟩,
      ⟨none, (some 44), .pick (.t 35) (.c (.bool true)) (.t 43)⟩])
    (.cond (.t 44) (.seq (.reg [⟨none, (some 2), .mv (.c (.bool false))⟩])
    .ret)
    .skip)))
    (.reg [⟨none, (some 25), .mv (.t 3)⟩,
      ⟨none, (some 26), .bin .add (.t 25) (.c (.int .i64 1))⟩,
      ⟨none, (some 3), .mv (.t 26)⟩]))))))
    (.seq (.reg [⟨none, (some 2), .mv (.c (.bool true))⟩])
    .ret))))
theorem ok56 : FnOk Try.prog 56 45 1 c56 [.t 2] := ⟨_, _, Try.func56, rfl, rfl, by kernel_rfl, by kernel_rfl⟩
theorem bd56 : bodied Try.prog 56 = true := by kernel_rfl

/-- ferrule/ferruleref02.truths -/
def c57 : CI := (.seq (.reg [⟨none, (some 2), .box 0 true (.t 0)⟩,
      ⟨none, (some 4), .mv (.c .nils)⟩])
    (.seq (.seq (.reg [⟨none, (some 8), .mv (.t 1)⟩,
      ⟨none, (some 9), .len (.t 8)⟩,
      ⟨none, (some 10), .faddr 0 (.t 2)⟩,
      ⟨none, (some 11), .load false 1 (.t 10)⟩,
      ⟨none, (some 12), .len (.t 11)⟩,
      ⟨none, (some 13), .bin .eql (.t 9) (.t 12)⟩])
    (.cond (.t 13) (.seq (.reg [⟨none, (some 14), .mv (.t 1)⟩,
      ⟨none, (some 15), .bsl 1 23 1 [(.t 14)] []⟩,
      ⟨none, (some 4), .mv (.t 15)⟩])
    .ret)
    .skip))
    (.seq (.reg [⟨none, (some 5), .mv (.c .nils)⟩])
    (.seq (.reg [⟨none, (some 16), .faddr 0 (.t 2)⟩,
      ⟨none, (some 17), .load false 1 (.t 16)⟩,
      ⟨none, (some 18), .mv (.t 1)⟩,
      ⟨none, (some 19), .len (.t 18)⟩,
      ⟨none, (some 20), .iaddr 4 (.t 17) (.t 19)⟩,
      ⟨none, (some 21), .load true 4 (.t 20)⟩,
      ⟨none, (some 22), .callz 2 1 65 [(.t 21)] []⟩,
      ⟨none, (some 6), .mv (.t 22)⟩])
    (.seq (.seq (.reg [⟨none, (some 7), .mv (.c (.int .i64 0))⟩])
    (.block 0 (.loop (.seq (.seq (.reg [⟨none, (some 23), .mv (.t 7)⟩,
      ⟨none, (some 24), .mv (.t 6)⟩,
      ⟨none, (some 25), .len (.t 24)⟩,
      ⟨none, (some 26), .bin .lss (.t 23) (.t 25)⟩])
    (.cond (.t 26) .skip
    (.exit 0)))
    (.seq (.block 1 (.reg [⟨none, (some 29), .mv (.t 5)⟩,
      ⟨none, (some 30), .load true 6 (.t 2)⟩,
      ⟨none, (some 32), .mv (.t 1)⟩,
      ⟨none, (some 34), .mv (.t 6)⟩,
      ⟨none, (some 35), .mv (.t 7)⟩,
      ⟨none, (some 36), .iaddr 1 (.t 34) (.t 35)⟩,
      ⟨none, (some 37), .load false 1 (.t 36)⟩,
      ⟨none, (some 31), .bsl 3 3 1 [] []⟩,
      ⟨none, (some 33), .apd 4 3 1 8 (.t 31) (.t 32) [(.t 2), (.t 34), (.t 36)]⟩,
      ⟨none, (some 38), .bsl 5 3 1 [(.t 37)] [(.t 31), (.t 32)]⟩,
      ⟨none, (some 39), .apd 6 3 1 8 (.t 33) (.t 38) [(.t 2)]⟩,
      ⟨none, (some 40), .callz 7 1 57 [(.t 30), (.t 39)] []⟩,
      ⟨none, (some 41), .apd 8 23 1 24 (.t 29) (.t 40) []⟩,
      ⟨none, (some 5), .mv (.t 41)⟩]))
    (.reg [⟨none, (some 27), .mv (.t 7)⟩,
      ⟨none, (some 28), .bin .add (.t 27) (.c (.int .i64 1))⟩,
      ⟨none, (some 7), .mv (.t 28)⟩]))))))
    (.seq (.reg [⟨none, (some 42), .mv (.t 5)⟩,
      ⟨none, (some 4), .mv (.t 42)⟩])
    .ret))))))
theorem ok57 : FnOk Try.prog 57 43 9 c57 [.t 4] := ⟨_, _, Try.func57, rfl, rfl, by kernel_rfl, by kernel_rfl⟩
theorem bd57 : bodied Try.prog 57 = true := by kernel_rfl

/-- ferrule/ferruleref02.tight -/
def c58 : CI := (.seq (.reg [⟨none, (some 4), .box 0 true (.t 0)⟩,
      ⟨none, (some 8), .mv (.c (.int .i64 0))⟩])
    (.seq (.reg [⟨none, (some 9), .mv (.c (.int .i64 0))⟩])
    (.seq (.seq (.reg [⟨none, (some 10), .mv (.c (.int .i64 0))⟩])
    (.block 0 (.loop (.seq (.seq (.reg [⟨none, (some 11), .mv (.t 10)⟩,
      ⟨none, (some 12), .mv (.t 1)⟩,
      ⟨none, (some 13), .len (.t 12)⟩,
      ⟨none, (some 14), .bin .lss (.t 11) (.t 13)⟩])
    (.cond (.t 14) .skip
    (.exit 0)))
    (.seq (.block 1 (.seq (.reg [⟨none, (some 17), .load true 6 (.t 4)⟩,
      ⟨none, (some 18), .mv (.t 3)⟩,
      ⟨none, (some 19), .mv (.t 1)⟩,
      ⟨none, (some 20), .mv (.t 10)⟩,
      ⟨none, (some 21), .iaddr 1 (.t 19) (.t 20)⟩,
      ⟨none, (some 22), .load false 1 (.t 21)⟩,
      ⟨none, (some 24), .faddr 3 (.t 4)⟩,
      ⟨none, (some 25), .load false 1 (.t 24)⟩,
      ⟨none, (some 26), .mv (.t 2)⟩,
      ⟨none, (some 27), .iaddr 2 (.t 25) (.t 26)⟩,
      ⟨none, (some 28), .faddr 0 (.t 27)⟩,
      ⟨none, (some 29), .load false 1 (.t 28)⟩,
      ⟨none, (some 30), .faddr 3 (.t 4)⟩,
      ⟨none, (some 31), .load false 1 (.t 30)⟩,
      ⟨none, (some 32), .mv (.t 2)⟩,
      ⟨none, (some 33), .iaddr 2 (.t 31) (.t 32)⟩,
      ⟨none, (some 34), .faddr 1 (.t 33)⟩,
      ⟨none, (some 35), .load false 1 (.t 34)⟩,
      ⟨none, (some 23), .call 20 [(.t 17), (.t 18), (.t 22)]⟩,
      ⟨none, (some 36), .call 54 [(.t 23), (.t 29), (.t 35)]⟩])
    (.cond (.t 36) (.reg [⟨none, (some 37), .mv (.t 9)⟩,
      ⟨none, (some 38), .bin .add (.t 37) (.c (.int .i64 1))⟩,
      ⟨none, (some 9), .mv (.t 38)⟩])
    .skip)))
    (.reg [⟨none, (some 15), .mv (.t 10)⟩,
      ⟨none, (some 16), .bin .add (.t 15) (.c (.int .i64 1))⟩,
      ⟨none, (some 10), .mv (.t 16)⟩]))))))
    (.seq (.reg [⟨none, (some 39), .mv (.t 9)⟩,
      ⟨none, (some 8), .mv (.t 39)⟩])
    .ret))))
theorem ok58 : FnOk Try.prog 58 40 1 c58 [.t 8] := ⟨_, _, Try.func58, rfl, rfl, by kernel_rfl, by kernel_rfl⟩
theorem bd58 : bodied Try.prog 58 = true := by kernel_rfl

/-- ferrule/cloth.checkAt[ferrule/api.Bolt] -/
def c59 : CI := (.seq (.reg [⟨none, (some 3), .box 0 true (.t 0)⟩,
      ⟨none, (some 6), .mv (.c (.int .i64 0))⟩])
    (.seq (.seq (.reg [⟨none, (some 8), .load true 6 (.t 3)⟩,
      ⟨none, (some 9), .call 34 [(.t 8)]⟩,
      ⟨none, (some 7), .mv (.t 9)⟩])
    (.seq (.reg [⟨none, (some 10), .mv (.t 7)⟩,
      ⟨none, (some 11), .bin .neq (.t 10) (.c (.int .i64 0))⟩])
    (.cond (.t 11) (.seq (.reg [⟨none, (some 12), .mv (.t 7)⟩,
      ⟨none, (some 6), .mv (.t 12)⟩])
    .ret)
    .skip)))
    (.seq (.seq (.reg [⟨none, (some 13), .mv (.t 1)⟩,
      ⟨none, (some 14), .mv (.t 2)⟩,
      ⟨none, (some 15), .call 74 [(.t 13), (.t 14)]⟩,
      ⟨none, (some 16), .un .not (.t 15)⟩])
    (.cond (.t 16) (.seq (.reg [⟨none, (some 6), .mv (.c (.int .i64 1))⟩])
    .ret)
    .skip))
    (.seq (.reg [⟨none, (some 6), .mv (.c (.int .i64 0))⟩])
    .ret))))
theorem ok59 : FnOk Try.prog 59 17 1 c59 [.t 6] := ⟨_, _, Try.func59, rfl, rfl, by kernel_rfl, by kernel_rfl⟩
theorem bd59 : bodied Try.prog 59 = true := by kernel_rfl

/-- ferrule/cloth.tried -/
def c60 : CI := (.seq (.reg [⟨none, (some 1), .box 0 true (.t 0)⟩,
      ⟨none, (some 2), .mv (.c (.lit (.nilFunc)))⟩])
    (.seq (.reg [⟨none, (some 3), .mkfn 75 [(.t 1)]⟩,
      ⟨none, (some 2), .mv (.t 3)⟩])
    .ret))
theorem ok60 : FnOk Try.prog 60 4 1 c60 [.t 2] := ⟨_, _, Try.func60, rfl, rfl, by kernel_rfl, by kernel_rfl⟩
theorem bd60 : bodied Try.prog 60 = true := by kernel_rfl

/-- ferrule/cloth.validDome -/
def c61 : CI := (.seq (.reg [⟨none, (some 1), .box 0 true (.t 0)⟩,
      ⟨none, (some 2), .mv (.c (.bool false))⟩])
    (.seq (.reg [⟨none, (some 3), .faddr 0 (.t 1)⟩,
      ⟨none, (some 4), .load false 1 (.t 3)⟩,
      ⟨none, (some 5), .len (.t 4)⟩,
      ⟨none, (some 6), .call 77 [(.t 5), (.c (.int .i64 1)), (.c (.int .i64 4))]⟩,
      ⟨none, (some 7), .mv (.t 6)⟩,
      ⟨(some (7, true)), (some 8), .faddr 1 (.t 1)⟩,
      ⟨(some (7, true)), (some 9), .load false 1 (.t 8)⟩,
      ⟨(some (7, true)), (some 10), .len (.t 9)⟩,
      ⟨(some (7, true)), (some 11), .call 77 [(.t 10), (.c (.int .i64 3)), (.c (.int .i64 16))]⟩,
      ⟨none, (some 12), .pick (.t 7) (.t 11) (.c (.bool false))⟩,
      ⟨none, (some 13), .mv (.t 12)⟩,
      ⟨(some (13, true)), (some 14), .faddr 1 (.t 1)⟩,
      ⟨(some (13, true)), (some 15), .load false 1 (.t 14)⟩,
      ⟨(some (13, true)), (some 16), .mkfn 79 [(.t 1)]⟩,
      ⟨(some (13, true)), (some 17), .call 78 [(.t 15), (.t 16)]⟩,
      ⟨none, (some 18), .pick (.t 13) (.t 17) (.c (.bool false))⟩,
      ⟨none, (some 19), .mv (.t 18)⟩,
      ⟨(some (19, true)), (some 20), .faddr 2 (.t 1)⟩,
      ⟨(some (19, true)), (some 21), .load false 1 (.t 20)⟩,
      ⟨(some (19, true)), (some 22), .call 77 [(.t 21), (.c (.int .i64 0)), (.c (.int .i64 20))]⟩,
      ⟨none, (some 23), .pick (.t 19) (.t 22) (.c (.bool false))⟩,
      ⟨none, (some 24), .mv (.t 23)⟩,
      ⟨(some (24, true)), (some 25), .faddr 3 (.t 1)⟩,
      ⟨(some (24, true)), (some 26), .load false 1 (.t 25)⟩,
      ⟨(some (24, true)), (some 27), .len (.t 26)⟩,
      ⟨(some (24, true)), (some 28), .call 77 [(.t 27), (.c (.int .i64 1)), (.c (.int .i64 12))]⟩,
      ⟨none, (some 29), .pick (.t 24) (.t 28) (.c (.bool false))⟩,
      ⟨none, (some 30), .mv (.t 29)⟩,
      ⟨(some (30, true)), (some 31), .faddr 3 (.t 1)⟩,
      ⟨(some (30, true)), (some 32), .load false 1 (.t 31)⟩,
      ⟨(some (30, true)), (some 33), .call 80 [(.t 32), (.c (.fn 81 []))]⟩,
      ⟨none, (some 34), .pick (.t 30) (.t 33) (.c (.bool false))⟩,
      ⟨none, (some 35), .mv (.t 34)⟩,
      ⟨(some (35, true)), (some 36), .faddr 4 (.t 1)⟩,
      ⟨(some (35, true)), (some 37), .load false 1 (.t 36)⟩,
      ⟨(some (35, true)), (some 38), .len (.t 37)⟩,
      ⟨(some (35, true)), (some 39), .faddr 3 (.t 1)⟩,
      ⟨(some (35, true)), (some 40), .load false 1 (.t 39)⟩,
      ⟨(some (35, true)), (some 41), .len (.t 40)⟩,
      ⟨(some (35, true)), (some 42), .bin .eql (.t 38) (.t 41)⟩,
      ⟨none, (some 43), .pick (.t 35) (.t 42) (.c (.bool false))⟩,
      ⟨none, (some 44), .mv (.t 43)⟩,
      ⟨(some (44, true)), (some 45), .faddr 4 (.t 1)⟩,
      ⟨(some (44, true)), (some 46), .load false 1 (.t 45)⟩,
      ⟨(some (44, true)), (some 47), .mkfn 83 [(.t 1)]⟩,
      ⟨(some (44, true)), (some 48), .call 78 [(.t 46), (.t 47)]⟩,
      ⟨none, (some 49), .pick (.t 44) (.t 48) (.c (.bool false))⟩,
      ⟨none, (some 50), .mv (.t 49)⟩,
      ⟨(some (50, true)), (some 51), .faddr 5 (.t 1)⟩,
      ⟨(some (50, true)), (some 52), .load false 1 (.t 51)⟩,
      ⟨(some (50, true)), (some 53), .call 77 [(.t 52), (.c (.int .i64 0)), (.c (.int .i64 500))]⟩,
      ⟨none, (some 54), .pick (.t 50) (.t 53) (.c (.bool false))⟩,
      ⟨none, (some 2), .mv (.t 54)⟩])
    .ret))
theorem ok61 : FnOk Try.prog 61 55 1 c61 [.t 2] := ⟨_, _, Try.func61, rfl, rfl, by kernel_rfl, by kernel_rfl⟩
theorem bd61 : bodied Try.prog 61 = true := by kernel_rfl

/-- ferrule/cloth.each[ferrule/api.Bolt] -/
def c62 : CI := (.seq (.reg [⟨none, (some 4), .mv (.c (.bool false))⟩])
    (.seq (.seq (.reg [⟨none, (some 7), .mv (.t 0)⟩,
      ⟨none, (some 8), .len (.t 7)⟩,
      ⟨none, (some 9), .mv (.c (.int .i64 0))⟩])
    (.block 0 (.loop (.seq (.reg [⟨none, (some 10), .bin .lss (.t 9) (.t 8)⟩])
    (.seq (.cond (.t 10) .skip
    (.exit 0))
    (.seq (.block 1 (.seq (.reg [⟨none, (some 11), .iaddr 4 (.t 7) (.t 9)⟩,
      ⟨none, (some 12), .load true 4 (.t 11)⟩,
      ⟨none, (some 6), .alloc 0 [(.int .i64 0), (.int .i64 0), .nils, (.int .i64 0)]⟩,
      ⟨none, none, .stz true 4 (.t 6) (.t 12) []⟩])
    (.seq (.reg [⟨none, (some 13), .mv (.t 1)⟩,
      ⟨none, (some 14), .load true 4 (.t 6)⟩,
      ⟨none, (some 15), .callv (.t 13) [(.t 14)]⟩,
      ⟨none, (some 16), .un .not (.t 15)⟩])
    (.cond (.t 16) (.seq (.reg [⟨none, (some 4), .mv (.c (.bool false))⟩])
    .ret)
    .skip))))
    (.reg [⟨none, (some 17), .bin .add (.t 9) (.c (.int .i64 1))⟩,
      ⟨none, (some 9), .mv (.t 17)⟩])))))))
    (.seq (.reg [⟨none, (some 4), .mv (.c (.bool true))⟩])
    .ret)))
theorem ok62 : FnOk Try.prog 62 18 1 c62 [.t 4] := ⟨_, _, Try.func62, rfl, rfl, by kernel_rfl, by kernel_rfl⟩
theorem bd62 : bodied Try.prog 62 = true := by kernel_rfl

/-- ferrule/cloth.validBolt -/
def c63 : CI := (.seq (.reg [⟨none, (some 1), .box 0 true (.t 0)⟩,
      ⟨none, (some 2), .mv (.c (.bool false))⟩])
    (.seq (.reg [⟨none, (some 3), .faddr 0 (.t 1)⟩,
      ⟨none, (some 4), .load true 2 (.t 3)⟩,
      ⟨none, (some 5), .call 82 [(.t 4), (.c (.int .i64 60))]⟩,
      ⟨none, (some 6), .mv (.t 5)⟩,
      ⟨(some (6, true)), (some 7), .faddr 2 (.t 1)⟩,
      ⟨(some (6, true)), (some 8), .load false 1 (.t 7)⟩,
      ⟨(some (6, true)), (some 9), .len (.t 8)⟩,
      ⟨(some (6, true)), (some 10), .bin .leq (.t 9) (.c (.int .i64 8))⟩,
      ⟨none, (some 11), .pick (.t 6) (.t 10) (.c (.bool false))⟩,
      ⟨none, (some 12), .mv (.t 11)⟩,
      ⟨(some (12, true)), (some 13), .faddr 2 (.t 1)⟩,
      ⟨(some (12, true)), (some 14), .load false 1 (.t 13)⟩,
      ⟨(some (12, true)), (some 15), .call 84 [(.t 14), (.c (.fn 85 []))]⟩,
      ⟨none, (some 16), .pick (.t 12) (.t 15) (.c (.bool false))⟩,
      ⟨none, (some 17), .mv (.t 16)⟩,
      ⟨(some (17, true)), (some 18), .faddr 3 (.t 1)⟩,
      ⟨(some (17, true)), (some 19), .load false 1 (.t 18)⟩,
      ⟨(some (17, true)), (some 20), .call 77 [(.t 19), (.c (.int .i64 0)), (.c (.int .i64 2))]⟩,
      ⟨none, (some 21), .pick (.t 17) (.t 20) (.c (.bool false))⟩,
      ⟨none, (some 2), .mv (.t 21)⟩])
    .ret))
theorem ok63 : FnOk Try.prog 63 22 1 c63 [.t 2] := ⟨_, _, Try.func63, rfl, rfl, by kernel_rfl, by kernel_rfl⟩
theorem bd63 : bodied Try.prog 63 = true := by kernel_rfl

/-- ferrule/ferruleref02.known -/
def c64 : CI := (.seq (.reg [⟨none, (some 3), .box 0 true (.t 0)⟩,
      ⟨none, (some 6), .mv (.c .nils)⟩,
      ⟨none, (some 7), .mv (.c (.int .i64 0))⟩])
    (.seq (.seq (.reg [⟨none, (some 10), .load true 6 (.t 3)⟩,
      ⟨none, (some 11), .call 28 [(.t 10)]⟩,
      ⟨none, (some 8), .mv (.t 11)⟩])
    (.seq (.reg [⟨none, (some 12), .mv (.t 8)⟩,
      ⟨none, (some 13), .bin .neq (.t 12) (.c (.int .i64 0))⟩])
    (.cond (.t 13) (.seq (.reg [⟨none, (some 14), .mv (.t 8)⟩,
      ⟨none, (some 6), .mv (.c .nils)⟩,
      ⟨none, (some 7), .mv (.t 14)⟩])
    .ret)
    .skip)))
    (.seq (.seq (.reg [⟨none, (some 15), .mv (.t 1)⟩,
      ⟨none, (some 16), .faddr 0 (.t 3)⟩,
      ⟨none, (some 17), .load false 1 (.t 16)⟩,
      ⟨none, (some 18), .len (.t 17)⟩,
      ⟨none, (some 19), .bin .sub (.t 18) (.c (.int .i64 1))⟩,
      ⟨none, (some 20), .call 54 [(.t 15), (.c (.int .i64 0)), (.t 19)]⟩,
      ⟨none, (some 21), .un .not (.t 20)⟩,
      ⟨none, (some 22), .mv (.t 21)⟩,
      ⟨(some (22, false)), (some 23), .mv (.t 2)⟩,
      ⟨(some (22, false)), (some 24), .faddr 3 (.t 3)⟩,
      ⟨(some (22, false)), (some 25), .load false 1 (.t 24)⟩,
      ⟨(some (22, false)), (some 26), .len (.t 25)⟩,
      ⟨(some (22, false)), (some 27), .bin .sub (.t 26) (.c (.int .i64 1))⟩,
      ⟨(some (22, false)), (some 28), .call 54 [(.t 23), (.c (.int .i64 0)), (.t 27)]⟩,
      ⟨(some (22, false)), (some 29), .un .not (.t 28)⟩,
      ⟨none, (some 30), .pick (.t 22) (.c (.bool true)) (.t 29)⟩])
    (.cond (.t 30) (.seq (.reg [⟨none, (some 6), .mv (.c .nils)⟩,
      ⟨none, (some 7), .mv (.c (.int .i64 1))⟩])
    .ret)
    .skip))
    (.seq (.reg [⟨none, (some 31), .load true 6 (.t 3)⟩,
      ⟨none, (some 32), .callz 1 1 57 [(.t 31), (.c .nils)] []⟩,
      ⟨none, (some 9), .mv (.t 32)⟩])
    (.seq (.seq (.reg [⟨none, (some 33), .mv (.t 9)⟩,
      ⟨none, (some 34), .len (.t 33)⟩,
      ⟨none, (some 35), .bin .eql (.t 34) (.c (.int .i64 0))⟩])
    (.cond (.t 35) (.seq (.reg [⟨none, (some 6), .mv (.c .nils)⟩,
      ⟨none, (some 7), .mv (.c (.int .i64 3))⟩])
    .ret)
    .skip))
    (.seq (.reg [⟨none, (some 36), .mv (.t 9)⟩,
      ⟨none, (some 6), .mv (.t 36)⟩,
      ⟨none, (some 7), .mv (.c (.int .i64 0))⟩])
    .ret))))))
theorem ok64 : FnOk Try.prog 64 37 2 c64 [.t 6, .t 7] := ⟨_, _, Try.func64, rfl, rfl, by kernel_rfl, by kernel_rfl⟩
theorem bd64 : bodied Try.prog 64 = true := by kernel_rfl

/-- ferrule/ferruleref02.numbers -/
def c65 : CI := (.seq (.reg [⟨none, (some 1), .box 0 true (.t 0)⟩,
      ⟨none, (some 2), .mv (.c .nils)⟩])
    (.seq (.reg [⟨none, (some 3), .mv (.c .nils)⟩])
    (.seq (.seq (.reg [⟨none, (some 5), .faddr 0 (.t 1)⟩,
      ⟨none, (some 6), .faddr 0 (.t 5)⟩,
      ⟨none, (some 7), .load false 1 (.t 6)⟩,
      ⟨none, (some 4), .mv (.t 7)⟩])
    (.block 0 (.loop (.seq (.seq (.reg [⟨none, (some 8), .mv (.t 4)⟩,
      ⟨none, (some 9), .faddr 0 (.t 1)⟩,
      ⟨none, (some 10), .faddr 1 (.t 9)⟩,
      ⟨none, (some 11), .load false 1 (.t 10)⟩,
      ⟨none, (some 12), .bin .leq (.t 8) (.t 11)⟩])
    (.cond (.t 12) .skip
    (.exit 0)))
    (.seq (.block 1 (.seq (.reg [⟨none, (some 15), .load true 4 (.t 1)⟩,
      ⟨none, (some 16), .mv (.t 4)⟩,
      ⟨none, (some 17), .call 44 [(.t 15), (.t 16)]⟩])
    (.cond (.t 17) (.reg [⟨none, (some 18), .mv (.t 3)⟩,
      ⟨none, (some 19), .mv (.t 4)⟩,
      ⟨none, (some 20), .bsl 1 3 1 [(.t 19)] []⟩,
      ⟨none, (some 21), .apd 2 3 1 8 (.t 18) (.t 20) []⟩,
      ⟨none, (some 3), .mv (.t 21)⟩])
    .skip)))
    (.reg [⟨none, (some 13), .mv (.t 4)⟩,
      ⟨none, (some 14), .bin .add (.t 13) (.c (.int .i64 1))⟩,
      ⟨none, (some 4), .mv (.t 14)⟩]))))))
    (.seq (.reg [⟨none, (some 22), .mv (.t 3)⟩,
      ⟨none, (some 2), .mv (.t 22)⟩])
    .ret))))
theorem ok65 : FnOk Try.prog 65 23 3 c65 [.t 2] := ⟨_, _, Try.func65, rfl, rfl, by kernel_rfl, by kernel_rfl⟩
theorem bd65 : bodied Try.prog 65 = true := by kernel_rfl

/-- ferrule/ferruleref02.False -/
def c66 : CI := (.seq (.reg [⟨none, (some 2), .box 0 true (.t 0)⟩,
      ⟨none, (some 4), .mv (.c (.int .i64 0))⟩])
    (.seq (.reg [⟨none, (some 5), .mv (.c (.int .i64 0))⟩])
    (.seq (.seq (.reg [⟨none, (some 6), .mv (.c (.int .i64 0))⟩])
    (.block 0 (.loop (.seq (.seq (.reg [⟨none, (some 7), .mv (.t 6)⟩,
      ⟨none, (some 8), .faddr 2 (.t 2)⟩,
      ⟨none, (some 9), .load false 1 (.t 8)⟩,
      ⟨none, (some 10), .len (.t 9)⟩,
      ⟨none, (some 11), .bin .lss (.t 7) (.t 10)⟩])
    (.cond (.t 11) .skip
    (.exit 0)))
    (.seq (.block 1 (.seq (.reg [⟨none, (some 14), .faddr 2 (.t 2)⟩,
      ⟨none, (some 15), .load false 1 (.t 14)⟩,
      ⟨none, (some 16), .mv (.t 6)⟩,
      ⟨none, (some 17), .iaddr 3 (.t 15) (.t 16)⟩,
      ⟨none, (some 18), .faddr 0 (.t 17)⟩,
      ⟨none, (some 19), .load false 1 (.t 18)⟩,
      ⟨none, (some 20), .mv (.t 1)⟩,
      ⟨none, (some 22), .faddr 2 (.t 2)⟩,
      ⟨none, (some 23), .load false 1 (.t 22)⟩,
      ⟨none, (some 24), .mv (.t 6)⟩,
      ⟨none, (some 25), .iaddr 3 (.t 23) (.t 24)⟩,
      ⟨none, (some 26), .faddr 1 (.t 25)⟩,
      ⟨none, (some 27), .faddr 0 (.t 26)⟩,
      ⟨none, (some 28), .load false 1 (.t 27)⟩,
      ⟨none, (some 29), .faddr 2 (.t 2)⟩,
      ⟨none, (some 30), .load false 1 (.t 29)⟩,
      ⟨none, (some 31), .mv (.t 6)⟩,
      ⟨none, (some 32), .iaddr 3 (.t 30) (.t 31)⟩,
      ⟨none, (some 33), .faddr 1 (.t 32)⟩,
      ⟨none, (some 34), .faddr 1 (.t 33)⟩,
      ⟨none, (some 35), .load false 1 (.t 34)⟩,
      ⟨none, (some 21), .call 47 [(.t 19), (.t 20)]⟩,
      ⟨none, (some 36), .call 54 [(.t 21), (.t 28), (.t 35)]⟩,
      ⟨none, (some 37), .un .not (.t 36)⟩])
    (.cond (.t 37) (.reg [⟨none, (some 38), .mv (.t 5)⟩,
      ⟨none, (some 39), .bin .add (.t 38) (.c (.int .i64 1))⟩,
      ⟨none, (some 5), .mv (.t 39)⟩])
    .skip)))
    (.reg [⟨none, (some 12), .mv (.t 6)⟩,
      ⟨none, (some 13), .bin .add (.t 12) (.c (.int .i64 1))⟩,
      ⟨none, (some 6), .mv (.t 13)⟩]))))))
    (.seq (.reg [⟨none, (some 40), .mv (.t 5)⟩,
      ⟨none, (some 4), .mv (.t 40)⟩])
    .ret))))
theorem ok66 : FnOk Try.prog 66 41 1 c66 [.t 4] := ⟨_, _, Try.func66, rfl, rfl, by kernel_rfl, by kernel_rfl⟩
theorem bd66 : bodied Try.prog 66 = true := by kernel_rfl

/-- ferrule/ferruleref02.cut -/
def c67 : CI := (.seq (.reg [⟨none, (some 3), .box 0 true (.t 0)⟩,
      ⟨none, (some 6), .alloc 1 [(.int .i64 0), (.int .i64 0)]⟩,
      ⟨none, (some 7), .mv (.c (.bool false))⟩])
    (.seq (.reg [⟨none, (some 11), .build [(.int .i64 0), (.int .i64 0)] []⟩,
      ⟨none, (some 8), .alloc 2 [(.int .i64 0), (.int .i64 0)]⟩,
      ⟨none, none, .store true 2 (.t 8) (.t 11) []⟩,
      ⟨none, (some 9), .mv (.c (.bool false))⟩])
    (.seq (.seq (.reg [⟨none, (some 12), .faddr 2 (.t 3)⟩,
      ⟨none, (some 13), .load false 1 (.t 12)⟩,
      ⟨none, (some 14), .bin .mul (.c (.int .i64 2)) (.t 13)⟩,
      ⟨none, (some 10), .mv (.t 14)⟩])
    (.block 0 (.loop (.seq (.seq (.reg [⟨none, (some 15), .mv (.t 10)⟩,
      ⟨none, (some 16), .bin .leq (.t 15) (.c (.int .i64 2000))⟩])
    (.cond (.t 16) .skip
    (.exit 0)))
    (.seq (.block 1 (.seq (.seq (.reg [⟨none, (some 19), .load true 6 (.t 3)⟩,
      ⟨none, (some 20), .mv (.t 1)⟩,
      ⟨none, (some 21), .mv (.t 2)⟩,
      ⟨none, (some 22), .mv (.t 10)⟩,
      ⟨none, (some 23), .call 58 [(.t 19), (.t 20), (.t 21), (.t 22)]⟩,
      ⟨none, (some 24), .mv (.t 1)⟩,
      ⟨none, (some 25), .len (.t 24)⟩,
      ⟨none, (some 26), .bin .lss (.t 23) (.t 25)⟩])
    (.cond (.t 26) (.exit 1)
    .skip))
    (.seq (.seq (.reg [⟨none, (some 27), .mv (.t 9)⟩,
      ⟨none, (some 28), .un .not (.t 27)⟩])
    (.cond (.t 28) (.reg [⟨none, (some 29), .mv (.t 10)⟩,
      ⟨none, (some 30), .faddr 0 (.t 8)⟩,
      ⟨none, none, .store false 1 (.t 30) (.t 29) []⟩])
    .skip))
    (.reg [⟨none, (some 31), .mv (.t 10)⟩,
      ⟨none, (some 32), .faddr 1 (.t 8)⟩,
      ⟨none, none, .store false 1 (.t 32) (.t 31) []⟩,
      ⟨none, (some 9), .mv (.c (.bool true))⟩]))))
    (.reg [⟨none, (some 17), .mv (.t 10)⟩,
      ⟨none, (some 18), .bin .add (.t 17) (.c (.int .i64 1))⟩,
      ⟨none, (some 10), .mv (.t 18)⟩]))))))
    (.seq (.reg [⟨none, (some 33), .load true 2 (.t 8)⟩,
      ⟨none, (some 34), .mv (.t 9)⟩,
      ⟨none, none, .store true 2 (.t 6) (.t 33) []⟩,
      ⟨none, (some 7), .mv (.t 34)⟩])
    .ret))))
theorem ok67 : FnOk Try.prog 67 35 3 c67 [.cell 6 true 2, .t 7] := ⟨_, _, Try.func67, rfl, rfl, by kernel_rfl, by kernel_rfl⟩
theorem bd67 : bodied Try.prog 67 = true := by kernel_rfl

/-- (ferrule/cloth.opened).curve -/
def c68 : CI := (.seq (.reg [⟨none, (some 1), .box 0 true (.t 0)⟩,
      ⟨none, (some 2), .mv (.c .nils)⟩,
      ⟨none, (some 3), .mv (.c (.int .i64 0))⟩])
    (.seq (.reg [⟨none, (some 13), .load true 7 (.t 1)⟩,
      ⟨none, (some 14), .callz 1 1 86 [(.t 13)] []⟩,
      ⟨none, (some 12), .mv (.t 14)⟩,
      ⟨none, (some 15), .extract 0 (.t 12)⟩,
      ⟨none, (some 16), .extract 1 (.t 12)⟩,
      ⟨none, (some 4), .mv (.t 15)⟩,
      ⟨none, (some 5), .mv (.t 16)⟩])
    (.seq (.seq (.reg [⟨none, (some 17), .mv (.t 5)⟩,
      ⟨none, (some 18), .bin .neq (.t 17) (.c (.int .i64 0))⟩])
    (.cond (.t 18) (.seq (.reg [⟨none, (some 19), .mv (.t 5)⟩,
      ⟨none, (some 2), .mv (.c .nils)⟩,
      ⟨none, (some 3), .mv (.t 19)⟩])
    .ret)
    .skip))
    (.seq (.reg [⟨none, (some 20), .mv (.t 4)⟩,
      ⟨none, (some 21), .len (.t 20)⟩,
      ⟨none, (some 22), .mks 2 3 1 8 [(.int .i64 0)] (.t 21) (.t 21)⟩,
      ⟨none, (some 6), .mv (.t 22)⟩])
    (.seq (.seq (.reg [⟨none, (some 23), .mv (.t 4)⟩,
      ⟨none, (some 24), .len (.t 23)⟩,
      ⟨none, (some 25), .mv (.c (.int .i64 0))⟩])
    (.block 0 (.loop (.seq (.reg [⟨none, (some 26), .bin .lss (.t 25) (.t 24)⟩])
    (.seq (.cond (.t 26) .skip
    (.exit 0))
    (.seq (.block 1 (.seq (.reg [⟨none, (some 27), .mv (.t 25)⟩,
      ⟨none, (some 28), .iaddr 2 (.t 23) (.t 25)⟩,
      ⟨none, (some 29), .load true 2 (.t 28)⟩,
      ⟨none, (some 8), .alloc 3 [(.int .i64 0), (.int .i64 0)]⟩,
      ⟨none, (some 7), .mv (.t 27)⟩,
      ⟨none, none, .store true 2 (.t 8) (.t 29) []⟩])
    (.seq (.reg [⟨none, (some 30), .mv (.t 6)⟩,
      ⟨none, (some 31), .mv (.t 7)⟩,
      ⟨none, (some 32), .faddr 0 (.t 8)⟩,
      ⟨none, (some 33), .load false 1 (.t 32)⟩,
      ⟨none, (some 34), .iaddr 1 (.t 30) (.t 31)⟩,
      ⟨none, none, .store false 1 (.t 34) (.t 33) []⟩])
    (.seq (.reg [⟨none, (some 35), .mv (.t 7)⟩,
      ⟨none, (some 36), .bin .gtr (.t 35) (.c (.int .i64 0))⟩])
    (.cond (.t 36) (.reg [⟨none, (some 37), .mv (.t 6)⟩,
      ⟨none, (some 38), .mv (.t 7)⟩,
      ⟨none, (some 39), .faddr 0 (.t 8)⟩,
      ⟨none, (some 40), .load false 1 (.t 39)⟩,
      ⟨none, (some 41), .mv (.t 6)⟩,
      ⟨none, (some 42), .mv (.t 7)⟩,
      ⟨none, (some 43), .bin .sub (.t 42) (.c (.int .i64 1))⟩,
      ⟨none, (some 44), .iaddr 1 (.t 41) (.t 43)⟩,
      ⟨none, (some 45), .load false 1 (.t 44)⟩,
      ⟨none, (some 46), .faddr 0 (.t 1)⟩,
      ⟨none, (some 47), .faddr 5 (.t 46)⟩,
      ⟨none, (some 48), .load false 1 (.t 47)⟩,
      ⟨none, (some 49), .bin .sub (.t 45) (.t 48)⟩,
      ⟨none, (some 50), .mm true [(.t 40), (.t 49)]⟩,
      ⟨none, (some 51), .iaddr 1 (.t 37) (.t 38)⟩,
      ⟨none, none, .store false 1 (.t 51) (.t 50) []⟩])
    .skip)))))
    (.reg [⟨none, (some 52), .bin .add (.t 25) (.c (.int .i64 1))⟩,
      ⟨none, (some 25), .mv (.t 52)⟩])))))))
    (.seq (.seq (.reg [⟨none, (some 53), .mv (.t 6)⟩,
      ⟨none, (some 54), .len (.t 53)⟩,
      ⟨none, (some 55), .bin .sub (.t 54) (.c (.int .i64 2))⟩,
      ⟨none, (some 9), .mv (.t 55)⟩])
    (.block 2 (.loop (.seq (.seq (.reg [⟨none, (some 56), .mv (.t 9)⟩,
      ⟨none, (some 57), .bin .geq (.t 56) (.c (.int .i64 0))⟩])
    (.cond (.t 57) .skip
    (.exit 2)))
    (.seq (.block 3 (.reg [⟨none, (some 60), .mv (.t 6)⟩,
      ⟨none, (some 61), .mv (.t 9)⟩,
      ⟨none, (some 62), .mv (.t 6)⟩,
      ⟨none, (some 63), .mv (.t 9)⟩,
      ⟨none, (some 64), .iaddr 1 (.t 62) (.t 63)⟩,
      ⟨none, (some 65), .load false 1 (.t 64)⟩,
      ⟨none, (some 66), .mv (.t 6)⟩,
      ⟨none, (some 67), .mv (.t 9)⟩,
      ⟨none, (some 68), .bin .add (.t 67) (.c (.int .i64 1))⟩,
      ⟨none, (some 69), .iaddr 1 (.t 66) (.t 68)⟩,
      ⟨none, (some 70), .load false 1 (.t 69)⟩,
      ⟨none, (some 71), .faddr 0 (.t 1)⟩,
      ⟨none, (some 72), .faddr 5 (.t 71)⟩,
      ⟨none, (some 73), .load false 1 (.t 72)⟩,
      ⟨none, (some 74), .bin .sub (.t 70) (.t 73)⟩,
      ⟨none, (some 75), .mm true [(.t 65), (.t 74)]⟩,
      ⟨none, (some 76), .iaddr 1 (.t 60) (.t 61)⟩,
      ⟨none, none, .store false 1 (.t 76) (.t 75) []⟩]))
    (.reg [⟨none, (some 58), .mv (.t 9)⟩,
      ⟨none, (some 59), .bin .sub (.t 58) (.c (.int .i64 1))⟩,
      ⟨none, (some 9), .mv (.t 59)⟩]))))))
    (.seq (.seq (.reg [⟨none, (some 77), .mv (.t 4)⟩,
      ⟨none, (some 78), .len (.t 77)⟩,
      ⟨none, (some 79), .mv (.c (.int .i64 0))⟩])
    (.block 4 (.loop (.seq (.reg [⟨none, (some 80), .bin .lss (.t 79) (.t 78)⟩])
    (.seq (.cond (.t 80) .skip
    (.exit 4))
    (.seq (.block 5 (.seq (.reg [⟨none, (some 81), .mv (.t 79)⟩,
      ⟨none, (some 82), .iaddr 2 (.t 77) (.t 79)⟩,
      ⟨none, (some 83), .load true 2 (.t 82)⟩,
      ⟨none, (some 11), .alloc 4 [(.int .i64 0), (.int .i64 0)]⟩,
      ⟨none, (some 10), .mv (.t 81)⟩,
      ⟨none, none, .store true 2 (.t 11) (.t 83) []⟩])
    (.seq (.reg [⟨none, (some 84), .load true 2 (.t 11)⟩,
      ⟨none, (some 85), .mv (.t 6)⟩,
      ⟨none, (some 86), .mv (.t 10)⟩,
      ⟨none, (some 87), .iaddr 1 (.t 85) (.t 86)⟩,
      ⟨none, (some 88), .load false 1 (.t 87)⟩,
      ⟨none, (some 89), .call 73 [(.t 84), (.t 88)]⟩,
      ⟨none, (some 90), .un .not (.t 89)⟩])
    (.cond (.t 90) (.seq (.reg [⟨none, (some 2), .mv (.c .nils)⟩,
      ⟨none, (some 3), .mv (.c (.int .i64 3))⟩])
    .ret)
    .skip))))
    (.reg [⟨none, (some 91), .bin .add (.t 79) (.c (.int .i64 1))⟩,
      ⟨none, (some 79), .mv (.t 91)⟩])))))))
    (.seq (.reg [⟨none, (some 92), .mv (.t 6)⟩,
      ⟨none, (some 2), .mv (.t 92)⟩,
      ⟨none, (some 3), .mv (.c (.int .i64 0))⟩])
    .ret))))))))
theorem ok68 : FnOk Try.prog 68 93 5 c68 [.t 2, .t 3] := ⟨_, _, Try.func68, rfl, rfl, by kernel_rfl, by kernel_rfl⟩
theorem bd68 : bodied Try.prog 68 = true := by kernel_rfl

/-- ferrule/cloth.stretched -/
def c69 : CI := (.seq (.reg [⟨none, (some 1), .box 0 true (.t 0)⟩,
      ⟨none, (some 2), .alloc 1 [.nils, .nils, (.int .i64 0), .nils, .nils, (.int .i64 0), .nils]⟩,
      ⟨none, (some 3), .mv (.c (.int .i64 0))⟩])
    (.seq (.reg [⟨none, (some 8), .load true 6 (.t 1)⟩,
      ⟨none, (some 9), .build [.nils, .nils, (.int .i64 0), .nils, .nils, (.int .i64 0), .nils] [(0, 6, (.t 8))]⟩,
      ⟨none, (some 4), .alloc 2 [.nils, .nils, (.int .i64 0), .nils, .nils, (.int .i64 0), .nils]⟩,
      ⟨none, none, .stz true 7 (.t 4) (.t 9) []⟩])
    (.seq (.seq (.reg [⟨none, (some 10), .faddr 0 (.t 1)⟩,
      ⟨none, (some 11), .load false 1 (.t 10)⟩,
      ⟨none, (some 12), .len (.t 11)⟩,
      ⟨none, (some 13), .mv (.c (.int .i64 0))⟩])
    (.block 0 (.loop (.seq (.reg [⟨none, (some 14), .bin .lss (.t 13) (.t 12)⟩])
    (.seq (.cond (.t 14) .skip
    (.exit 0))
    (.seq (.block 1 (.seq (.reg [⟨none, (some 15), .iaddr 4 (.t 11) (.t 13)⟩,
      ⟨none, (some 16), .load true 4 (.t 15)⟩,
      ⟨none, (some 6), .alloc 3 [(.int .i64 0), (.int .i64 0), .nils, (.int .i64 0)]⟩,
      ⟨none, none, .stz true 4 (.t 6) (.t 16) []⟩])
    (.seq (.reg [⟨none, (some 17), .load true 4 (.t 6)⟩,
      ⟨none, (some 18), .callz 4 0 88 [(.t 17)] []⟩,
      ⟨none, (some 19), .callz 4 1 87 [(.t 18)] []⟩,
      ⟨none, (some 7), .mv (.t 19)⟩])
    (.seq (.seq (.reg [⟨none, (some 20), .mv (.t 7)⟩,
      ⟨none, (some 21), .len (.t 20)⟩,
      ⟨none, (some 22), .bin .eql (.t 21) (.c (.int .i64 0))⟩])
    (.cond (.t 22) (.seq (.reg [⟨none, (some 23), .build [.nils, .nils, (.int .i64 0), .nils, .nils, (.int .i64 0), .nils] []⟩,
      ⟨none, none, .stz true 7 (.t 2) (.t 23) []⟩,
      ⟨none, (some 3), .mv (.c (.int .i64 3))⟩])
    .ret)
    .skip))
    (.reg [⟨none, (some 24), .faddr 6 (.t 4)⟩,
      ⟨none, (some 25), .load false 1 (.t 24)⟩,
      ⟨none, (some 26), .mv (.t 7)⟩,
      ⟨none, (some 27), .bsl 5 23 1 [(.t 26)] []⟩,
      ⟨none, (some 28), .apd 6 23 1 24 (.t 25) (.t 27) []⟩,
      ⟨none, (some 29), .faddr 6 (.t 4)⟩,
      ⟨none, none, .stz false 1 (.t 29) (.t 28) []⟩])))))
    (.reg [⟨none, (some 30), .bin .add (.t 13) (.c (.int .i64 1))⟩,
      ⟨none, (some 13), .mv (.t 30)⟩])))))))
    (.seq (.reg [⟨none, (some 31), .load true 7 (.t 4)⟩,
      ⟨none, none, .stz true 7 (.t 2) (.t 31) []⟩,
      ⟨none, (some 3), .mv (.c (.int .i64 0))⟩])
    .ret))))
theorem ok69 : FnOk Try.prog 69 32 7 c69 [.cell 2 true 7, .t 3] := ⟨_, _, Try.func69, rfl, rfl, by kernel_rfl, by kernel_rfl⟩
theorem bd69 : bodied Try.prog 69 = true := by kernel_rfl

/-- ferrule/cloth.checkAt[ferrule/api.Span] -/
def c70 : CI := (.seq (.reg [⟨none, (some 3), .box 0 true (.t 0)⟩,
      ⟨none, (some 6), .mv (.c (.int .i64 0))⟩])
    (.seq (.seq (.reg [⟨none, (some 8), .load true 6 (.t 3)⟩,
      ⟨none, (some 9), .call 34 [(.t 8)]⟩,
      ⟨none, (some 7), .mv (.t 9)⟩])
    (.seq (.reg [⟨none, (some 10), .mv (.t 7)⟩,
      ⟨none, (some 11), .bin .neq (.t 10) (.c (.int .i64 0))⟩])
    (.cond (.t 11) (.seq (.reg [⟨none, (some 12), .mv (.t 7)⟩,
      ⟨none, (some 6), .mv (.t 12)⟩])
    .ret)
    .skip)))
    (.seq (.seq (.reg [⟨none, (some 13), .mv (.t 1)⟩,
      ⟨none, (some 14), .mv (.t 2)⟩,
      ⟨none, (some 15), .call 89 [(.t 13), (.t 14)]⟩,
      ⟨none, (some 16), .un .not (.t 15)⟩])
    (.cond (.t 16) (.seq (.reg [⟨none, (some 6), .mv (.c (.int .i64 1))⟩])
    .ret)
    .skip))
    (.seq (.reg [⟨none, (some 6), .mv (.c (.int .i64 0))⟩])
    .ret))))
theorem ok70 : FnOk Try.prog 70 17 1 c70 [.t 6] := ⟨_, _, Try.func70, rfl, rfl, by kernel_rfl, by kernel_rfl⟩
theorem bd70 : bodied Try.prog 70 = true := by kernel_rfl

/-- (ferrule/cloth.opened).gore -/
def c71 : CI := (.seq (.reg [⟨none, (some 3), .box 0 true (.t 0)⟩,
      ⟨none, (some 6), .mv (.c (.int .i64 0))⟩])
    (.seq (.reg [⟨none, (some 7), .mv (.t 1)⟩,
      ⟨none, (some 8), .faddr 0 (.t 3)⟩,
      ⟨none, (some 9), .faddr 2 (.t 8)⟩,
      ⟨none, (some 10), .load false 1 (.t 9)⟩,
      ⟨none, (some 11), .bin .mul (.c (.int .i64 2)) (.t 10)⟩,
      ⟨none, (some 12), .bin .sub (.t 7) (.t 11)⟩,
      ⟨none, (some 13), .mv (.t 2)⟩,
      ⟨none, (some 14), .call 76 [(.t 12), (.t 13)]⟩,
      ⟨none, (some 6), .mv (.t 14)⟩])
    .ret))
theorem ok71 : FnOk Try.prog 71 15 1 c71 [.t 6] := ⟨_, _, Try.func71, rfl, rfl, by kernel_rfl, by kernel_rfl⟩
theorem bd71 : bodied Try.prog 71 = true := by kernel_rfl

/-- (ferrule/cloth.opened).rounds -/
def c72 : CI := (.seq (.reg [⟨none, (some 2), .box 0 true (.t 0)⟩,
      ⟨none, (some 4), .mv (.c (.lit (.map none)))⟩])
    (.seq (.reg [⟨none, (some 13), .mkm 1⟩,
      ⟨none, none, .mpu .int (.t 13) (.c (.int .i64 0)) (.c (.bool true)) []⟩,
      ⟨none, (some 14), .mv (.t 13)⟩,
      ⟨none, (some 5), .mv (.t 14)⟩])
    (.seq (.seq (.reg [⟨none, (some 15), .faddr 6 (.t 2)⟩,
      ⟨none, (some 16), .load false 1 (.t 15)⟩,
      ⟨none, (some 17), .len (.t 16)⟩,
      ⟨none, (some 18), .mv (.c (.int .i64 0))⟩])
    (.block 0 (.loop (.seq (.reg [⟨none, (some 19), .bin .lss (.t 18) (.t 17)⟩])
    (.seq (.cond (.t 19) .skip
    (.exit 0))
    (.seq (.block 1 (.seq (.reg [⟨none, (some 20), .mv (.t 18)⟩,
      ⟨none, (some 21), .iaddr 1 (.t 16) (.t 18)⟩,
      ⟨none, (some 22), .load false 1 (.t 21)⟩,
      ⟨none, (some 6), .mv (.t 20)⟩,
      ⟨none, (some 7), .mv (.t 22)⟩])
    (.seq (.reg [⟨none, (some 23), .load true 7 (.t 2)⟩,
      ⟨none, (some 24), .mv (.t 6)⟩,
      ⟨none, (some 25), .call 90 [(.t 23), (.t 24)]⟩,
      ⟨none, (some 8), .mv (.t 25)⟩])
    (.seq (.reg [⟨none, (some 26), .mkm 2⟩,
      ⟨none, (some 9), .mv (.t 26)⟩])
    (.seq (.seq (.reg [⟨none, (some 27), .mv (.t 5)⟩,
      ⟨none, (some 28), .mrg 3 (.t 27) []⟩])
    (.block 2 (.loop (.seq (.reg [⟨none, (some 29), .mnx (.t 28)⟩,
      ⟨none, (some 30), .extract 0 (.t 29)⟩])
    (.seq (.cond (.t 30) .skip
    (.exit 2))
    (.block 3 (.seq (.reg [⟨none, (some 31), .men (.t 28)⟩,
      ⟨none, (some 32), .extract 0 (.t 31)⟩,
      ⟨none, (some 10), .mv (.t 32)⟩])
    (.seq (.reg [⟨none, (some 33), .mv (.t 7)⟩,
      ⟨none, (some 34), .len (.t 33)⟩,
      ⟨none, (some 35), .mv (.c (.int .i64 0))⟩])
    (.block 4 (.loop (.seq (.reg [⟨none, (some 36), .bin .lss (.t 35) (.t 34)⟩])
    (.seq (.cond (.t 36) .skip
    (.exit 4))
    (.seq (.block 5 (.seq (.reg [⟨none, (some 37), .iaddr 1 (.t 33) (.t 35)⟩,
      ⟨none, (some 38), .load false 1 (.t 37)⟩,
      ⟨none, (some 12), .mv (.t 38)⟩])
    (.reg [⟨none, (some 39), .mv (.t 9)⟩,
      ⟨none, (some 40), .mv (.t 10)⟩,
      ⟨none, (some 41), .mv (.t 8)⟩,
      ⟨none, (some 42), .load true 7 (.t 2)⟩,
      ⟨none, (some 43), .mv (.t 1)⟩,
      ⟨none, (some 44), .mv (.t 12)⟩,
      ⟨none, (some 45), .call 71 [(.t 42), (.t 43), (.t 44)]⟩,
      ⟨none, (some 46), .bin .mul (.t 41) (.t 45)⟩,
      ⟨none, (some 47), .bin .add (.t 40) (.t 46)⟩,
      ⟨none, none, .mpu .int (.t 39) (.t 47) (.c (.bool true)) []⟩])))
    (.reg [⟨none, (some 48), .bin .add (.t 35) (.c (.int .i64 1))⟩,
      ⟨none, (some 35), .mv (.t 48)⟩]))))))))))))))
    (.reg [⟨none, (some 49), .mv (.t 9)⟩,
      ⟨none, (some 5), .mv (.t 49)⟩]))))))
    (.reg [⟨none, (some 50), .bin .add (.t 18) (.c (.int .i64 1))⟩,
      ⟨none, (some 18), .mv (.t 50)⟩])))))))
    (.seq (.reg [⟨none, (some 51), .mv (.t 5)⟩,
      ⟨none, (some 4), .mv (.t 51)⟩])
    .ret))))
theorem ok72 : FnOk Try.prog 72 52 4 c72 [.t 4] := ⟨_, _, Try.func72, rfl, rfl, by kernel_rfl, by kernel_rfl⟩
theorem bd72 : bodied Try.prog 72 = true := by kernel_rfl

/-- ferrule/cloth.in -/
def c73 : CI := (.seq (.reg [⟨none, (some 2), .box 0 true (.t 0)⟩,
      ⟨none, (some 4), .mv (.c (.bool false))⟩])
    (.seq (.reg [⟨none, (some 5), .mv (.t 1)⟩,
      ⟨none, (some 6), .faddr 0 (.t 2)⟩,
      ⟨none, (some 7), .load false 1 (.t 6)⟩,
      ⟨none, (some 8), .faddr 1 (.t 2)⟩,
      ⟨none, (some 9), .load false 1 (.t 8)⟩,
      ⟨none, (some 10), .call 77 [(.t 5), (.t 7), (.t 9)]⟩,
      ⟨none, (some 4), .mv (.t 10)⟩])
    .ret))
theorem ok73 : FnOk Try.prog 73 11 1 c73 [.t 4] := ⟨_, _, Try.func73, rfl, rfl, by kernel_rfl, by kernel_rfl⟩
theorem bd73 : bodied Try.prog 73 = true := by kernel_rfl

/-- ferrule/cloth.isNumber[ferrule/api.Bolt] -/
def c74 : CI := (.seq (.reg [⟨none, (some 4), .mv (.c (.bool false))⟩])
    (.seq (.reg [⟨none, (some 5), .mv (.t 1)⟩,
      ⟨none, (some 6), .mv (.t 0)⟩,
      ⟨none, (some 7), .len (.t 6)⟩,
      ⟨none, (some 8), .bin .sub (.t 7) (.c (.int .i64 1))⟩,
      ⟨none, (some 9), .call 77 [(.t 5), (.c (.int .i64 0)), (.t 8)]⟩,
      ⟨none, (some 4), .mv (.t 9)⟩])
    .ret))
theorem ok74 : FnOk Try.prog 74 10 0 c74 [.t 4] := ⟨_, _, Try.func74, rfl, rfl, by kernel_rfl, by kernel_rfl⟩
theorem bd74 : bodied Try.prog 74 = true := by kernel_rfl

/-- ferrule/cloth.tried$1 -/
def c75 : CI := (.seq (.reg [⟨none, (some 7), .faddr 0 (.t 1)⟩,
      ⟨none, (some 8), .faddr 0 (.t 7)⟩,
      ⟨none, (some 9), .load false 1 (.t 8)⟩,
      ⟨none, (some 3), .mv (.t 9)⟩])
    (.block 0 (.loop (.seq (.seq (.reg [⟨none, (some 10), .mv (.t 3)⟩,
      ⟨none, (some 11), .faddr 0 (.t 1)⟩,
      ⟨none, (some 12), .faddr 1 (.t 11)⟩,
      ⟨none, (some 13), .load false 1 (.t 12)⟩,
      ⟨none, (some 14), .bin .leq (.t 10) (.t 13)⟩])
    (.cond (.t 14) .skip
    (.exit 0)))
    (.seq (.block 1 (.seq (.reg [⟨none, (some 4), .mv (.c (.int .i64 0))⟩])
    (.seq (.seq (.reg [⟨none, (some 17), .faddr 2 (.t 1)⟩,
      ⟨none, (some 18), .load false 1 (.t 17)⟩,
      ⟨none, (some 19), .len (.t 18)⟩,
      ⟨none, (some 20), .mv (.c (.int .i64 0))⟩])
    (.block 2 (.loop (.seq (.reg [⟨none, (some 21), .bin .lss (.t 20) (.t 19)⟩])
    (.seq (.cond (.t 21) .skip
    (.exit 2))
    (.seq (.block 3 (.seq (.reg [⟨none, (some 22), .iaddr 3 (.t 18) (.t 20)⟩,
      ⟨none, (some 23), .load true 3 (.t 22)⟩,
      ⟨none, (some 6), .alloc 0 [(.int .i64 0), (.int .i64 0), (.int .i64 0)]⟩,
      ⟨none, none, .store true 3 (.t 6) (.t 23) []⟩])
    (.seq (.reg [⟨none, (some 24), .faddr 1 (.t 6)⟩,
      ⟨none, (some 25), .load true 2 (.t 24)⟩,
      ⟨none, (some 26), .faddr 0 (.t 6)⟩,
      ⟨none, (some 27), .load false 1 (.t 26)⟩,
      ⟨none, (some 28), .mv (.t 3)⟩,
      ⟨none, (some 29), .call 76 [(.t 27), (.t 28)]⟩,
      ⟨none, (some 30), .call 73 [(.t 25), (.t 29)]⟩,
      ⟨none, (some 31), .un .not (.t 30)⟩])
    (.cond (.t 31) (.reg [⟨none, (some 32), .mv (.t 4)⟩,
      ⟨none, (some 33), .bin .add (.t 32) (.c (.int .i64 1))⟩,
      ⟨none, (some 4), .mv (.t 33)⟩])
    .skip))))
    (.reg [⟨none, (some 34), .bin .add (.t 20) (.c (.int .i64 1))⟩,
      ⟨none, (some 20), .mv (.t 34)⟩])))))))
    (.seq (.reg [⟨none, (some 35), .mv (.t 0)⟩,
      ⟨none, (some 36), .mv (.t 3)⟩,
      ⟨none, (some 37), .mv (.t 4)⟩,
      ⟨none, (some 38), .callv (.t 35) [(.t 36), (.t 37)]⟩,
      ⟨none, (some 39), .un .not (.t 38)⟩])
    (.cond (.t 39) .ret
    .skip)))))
    (.reg [⟨none, (some 15), .mv (.t 3)⟩,
      ⟨none, (some 16), .bin .add (.t 15) (.c (.int .i64 1))⟩,
      ⟨none, (some 3), .mv (.t 16)⟩]))))))
theorem ok75 : FnOk Try.prog 75 40 1 c75 [] := ⟨_, _, Try.func75, rfl, rfl, by kernel_rfl, by kernel_rfl⟩
theorem bd75 : bodied Try.prog 75 = true := by kernel_rfl

/-- ferrule/cloth.pulled -/
def c76 : CI := (.seq (.reg [⟨none, (some 4), .mv (.c (.int .i64 0))⟩])
    (.seq (.reg [⟨none, (some 5), .mv (.t 0)⟩,
      ⟨none, (some 6), .mv (.t 1)⟩,
      ⟨none, (some 7), .bin .add (.c (.int .i64 1000)) (.t 6)⟩,
      ⟨none, (some 8), .bin .mul (.t 5) (.t 7)⟩,
      ⟨none, (some 9), .bin .quo (.t 8) (.c (.int .i64 1000))⟩,
      ⟨none, (some 4), .mv (.t 9)⟩])
    .ret))
theorem ok76 : FnOk Try.prog 76 10 0 c76 [.t 4] := ⟨_, _, Try.func76, rfl, rfl, by kernel_rfl, by kernel_rfl⟩
theorem bd76 : bodied Try.prog 76 = true := by kernel_rfl

/-- ferrule/cloth.within -/
def c77 : CI := (.seq (.reg [⟨none, (some 6), .mv (.c (.bool false))⟩])
    (.seq (.reg [⟨none, (some 7), .mv (.t 1)⟩,
      ⟨none, (some 8), .mv (.t 0)⟩,
      ⟨none, (some 9), .bin .leq (.t 7) (.t 8)⟩,
      ⟨none, (some 10), .mv (.t 9)⟩,
      ⟨(some (10, true)), (some 11), .mv (.t 0)⟩,
      ⟨(some (10, true)), (some 12), .mv (.t 2)⟩,
      ⟨(some (10, true)), (some 13), .bin .leq (.t 11) (.t 12)⟩,
      ⟨none, (some 14), .pick (.t 10) (.t 13) (.c (.bool false))⟩,
      ⟨none, (some 6), .mv (.t 14)⟩])
    .ret))
theorem ok77 : FnOk Try.prog 77 15 0 c77 [.t 6] := ⟨_, _, Try.func77, rfl, rfl, by kernel_rfl, by kernel_rfl⟩
theorem bd77 : bodied Try.prog 77 = true := by kernel_rfl

/-- ferrule/cloth.each[int] -/
def c78 : CI := (.seq (.reg [⟨none, (some 4), .mv (.c (.bool false))⟩])
    (.seq (.seq (.reg [⟨none, (some 7), .mv (.t 0)⟩,
      ⟨none, (some 8), .len (.t 7)⟩,
      ⟨none, (some 9), .mv (.c (.int .i64 0))⟩])
    (.block 0 (.loop (.seq (.reg [⟨none, (some 10), .bin .lss (.t 9) (.t 8)⟩])
    (.seq (.cond (.t 10) .skip
    (.exit 0))
    (.seq (.block 1 (.seq (.reg [⟨none, (some 11), .iaddr 1 (.t 7) (.t 9)⟩,
      ⟨none, (some 12), .load false 1 (.t 11)⟩,
      ⟨none, (some 6), .mv (.t 12)⟩])
    (.seq (.reg [⟨none, (some 13), .mv (.t 1)⟩,
      ⟨none, (some 14), .mv (.t 6)⟩,
      ⟨none, (some 15), .callv (.t 13) [(.t 14)]⟩,
      ⟨none, (some 16), .un .not (.t 15)⟩])
    (.cond (.t 16) (.seq (.reg [⟨none, (some 4), .mv (.c (.bool false))⟩])
    .ret)
    .skip))))
    (.reg [⟨none, (some 17), .bin .add (.t 9) (.c (.int .i64 1))⟩,
      ⟨none, (some 9), .mv (.t 17)⟩])))))))
    (.seq (.reg [⟨none, (some 4), .mv (.c (.bool true))⟩])
    .ret)))
theorem ok78 : FnOk Try.prog 78 18 0 c78 [.t 4] := ⟨_, _, Try.func78, rfl, rfl, by kernel_rfl, by kernel_rfl⟩
theorem bd78 : bodied Try.prog 78 = true := by kernel_rfl

/-- ferrule/cloth.validDome$1 -/
def c79 : CI := (.seq (.reg [⟨none, (some 3), .mv (.c (.bool false))⟩])
    (.seq (.reg [⟨none, (some 4), .faddr 0 (.t 1)⟩,
      ⟨none, (some 5), .load false 1 (.t 4)⟩,
      ⟨none, (some 6), .mv (.t 0)⟩,
      ⟨none, (some 7), .call 74 [(.t 5), (.t 6)]⟩,
      ⟨none, (some 3), .mv (.t 7)⟩])
    .ret))
theorem ok79 : FnOk Try.prog 79 8 0 c79 [.t 3] := ⟨_, _, Try.func79, rfl, rfl, by kernel_rfl, by kernel_rfl⟩
theorem bd79 : bodied Try.prog 79 = true := by kernel_rfl

/-- ferrule/cloth.each[ferrule/api.Span] -/
def c80 : CI := (.seq (.reg [⟨none, (some 4), .mv (.c (.bool false))⟩])
    (.seq (.seq (.reg [⟨none, (some 7), .mv (.t 0)⟩,
      ⟨none, (some 8), .len (.t 7)⟩,
      ⟨none, (some 9), .mv (.c (.int .i64 0))⟩])
    (.block 0 (.loop (.seq (.reg [⟨none, (some 10), .bin .lss (.t 9) (.t 8)⟩])
    (.seq (.cond (.t 10) .skip
    (.exit 0))
    (.seq (.block 1 (.seq (.reg [⟨none, (some 11), .iaddr 2 (.t 7) (.t 9)⟩,
      ⟨none, (some 12), .load true 2 (.t 11)⟩,
      ⟨none, (some 6), .alloc 0 [(.int .i64 0), (.int .i64 0)]⟩,
      ⟨none, none, .store true 2 (.t 6) (.t 12) []⟩])
    (.seq (.reg [⟨none, (some 13), .mv (.t 1)⟩,
      ⟨none, (some 14), .load true 2 (.t 6)⟩,
      ⟨none, (some 15), .callv (.t 13) [(.t 14)]⟩,
      ⟨none, (some 16), .un .not (.t 15)⟩])
    (.cond (.t 16) (.seq (.reg [⟨none, (some 4), .mv (.c (.bool false))⟩])
    .ret)
    .skip))))
    (.reg [⟨none, (some 17), .bin .add (.t 9) (.c (.int .i64 1))⟩,
      ⟨none, (some 9), .mv (.t 17)⟩])))))))
    (.seq (.reg [⟨none, (some 4), .mv (.c (.bool true))⟩])
    .ret)))
theorem ok80 : FnOk Try.prog 80 18 1 c80 [.t 4] := ⟨_, _, Try.func80, rfl, rfl, by kernel_rfl, by kernel_rfl⟩
theorem bd80 : bodied Try.prog 80 = true := by kernel_rfl

/-- ferrule/cloth.validDome$2 -/
def c81 : CI := (.seq (.reg [⟨none, (some 1), .box 0 true (.t 0)⟩,
      ⟨none, (some 2), .mv (.c (.bool false))⟩])
    (.seq (.reg [⟨none, (some 3), .load true 2 (.t 1)⟩,
      ⟨none, (some 4), .call 82 [(.t 3), (.c (.int .i64 40000))]⟩,
      ⟨none, (some 2), .mv (.t 4)⟩])
    .ret))
theorem ok81 : FnOk Try.prog 81 5 1 c81 [.t 2] := ⟨_, _, Try.func81, rfl, rfl, by kernel_rfl, by kernel_rfl⟩
theorem bd81 : bodied Try.prog 81 = true := by kernel_rfl

/-- ferrule/cloth.validSpan -/
def c82 : CI := (.seq (.reg [⟨none, (some 2), .box 0 true (.t 0)⟩,
      ⟨none, (some 4), .mv (.c (.bool false))⟩])
    (.seq (.reg [⟨none, (some 5), .faddr 0 (.t 2)⟩,
      ⟨none, (some 6), .load false 1 (.t 5)⟩,
      ⟨none, (some 7), .faddr 1 (.t 2)⟩,
      ⟨none, (some 8), .load false 1 (.t 7)⟩,
      ⟨none, (some 9), .call 77 [(.t 6), (.c (.int .i64 0)), (.t 8)]⟩,
      ⟨none, (some 10), .mv (.t 9)⟩,
      ⟨(some (10, true)), (some 11), .faddr 1 (.t 2)⟩,
      ⟨(some (10, true)), (some 12), .load false 1 (.t 11)⟩,
      ⟨(some (10, true)), (some 13), .mv (.t 1)⟩,
      ⟨(some (10, true)), (some 14), .bin .leq (.t 12) (.t 13)⟩,
      ⟨none, (some 15), .pick (.t 10) (.t 14) (.c (.bool false))⟩,
      ⟨none, (some 4), .mv (.t 15)⟩])
    .ret))
theorem ok82 : FnOk Try.prog 82 16 1 c82 [.t 4] := ⟨_, _, Try.func82, rfl, rfl, by kernel_rfl, by kernel_rfl⟩
theorem bd82 : bodied Try.prog 82 = true := by kernel_rfl

/-- ferrule/cloth.validDome$3 -/
def c83 : CI := (.seq (.reg [⟨none, (some 3), .mv (.c (.bool false))⟩])
    (.seq (.reg [⟨none, (some 4), .mv (.t 0)⟩,
      ⟨none, (some 5), .faddr 2 (.t 1)⟩,
      ⟨none, (some 6), .load false 1 (.t 5)⟩,
      ⟨none, (some 7), .bin .mul (.c (.int .i64 2)) (.t 6)⟩,
      ⟨none, (some 8), .call 77 [(.t 4), (.t 7), (.c (.int .i64 2000))]⟩,
      ⟨none, (some 3), .mv (.t 8)⟩])
    .ret))
theorem ok83 : FnOk Try.prog 83 9 0 c83 [.t 3] := ⟨_, _, Try.func83, rfl, rfl, by kernel_rfl, by kernel_rfl⟩
theorem bd83 : bodied Try.prog 83 = true := by kernel_rfl

/-- ferrule/cloth.each[ferrule/api.Strip] -/
def c84 : CI := (.seq (.reg [⟨none, (some 4), .mv (.c (.bool false))⟩])
    (.seq (.seq (.reg [⟨none, (some 7), .mv (.t 0)⟩,
      ⟨none, (some 8), .len (.t 7)⟩,
      ⟨none, (some 9), .mv (.c (.int .i64 0))⟩])
    (.block 0 (.loop (.seq (.reg [⟨none, (some 10), .bin .lss (.t 9) (.t 8)⟩])
    (.seq (.cond (.t 10) .skip
    (.exit 0))
    (.seq (.block 1 (.seq (.reg [⟨none, (some 11), .iaddr 3 (.t 7) (.t 9)⟩,
      ⟨none, (some 12), .load true 3 (.t 11)⟩,
      ⟨none, (some 6), .alloc 0 [(.int .i64 0), (.int .i64 0), (.int .i64 0)]⟩,
      ⟨none, none, .store true 3 (.t 6) (.t 12) []⟩])
    (.seq (.reg [⟨none, (some 13), .mv (.t 1)⟩,
      ⟨none, (some 14), .load true 3 (.t 6)⟩,
      ⟨none, (some 15), .callv (.t 13) [(.t 14)]⟩,
      ⟨none, (some 16), .un .not (.t 15)⟩])
    (.cond (.t 16) (.seq (.reg [⟨none, (some 4), .mv (.c (.bool false))⟩])
    .ret)
    .skip))))
    (.reg [⟨none, (some 17), .bin .add (.t 9) (.c (.int .i64 1))⟩,
      ⟨none, (some 9), .mv (.t 17)⟩])))))))
    (.seq (.reg [⟨none, (some 4), .mv (.c (.bool true))⟩])
    .ret)))
theorem ok84 : FnOk Try.prog 84 18 1 c84 [.t 4] := ⟨_, _, Try.func84, rfl, rfl, by kernel_rfl, by kernel_rfl⟩
theorem bd84 : bodied Try.prog 84 = true := by kernel_rfl

/-- ferrule/cloth.validStrip -/
def c85 : CI := (.seq (.reg [⟨none, (some 1), .box 0 true (.t 0)⟩,
      ⟨none, (some 2), .mv (.c (.bool false))⟩])
    (.seq (.reg [⟨none, (some 3), .faddr 0 (.t 1)⟩,
      ⟨none, (some 4), .load false 1 (.t 3)⟩,
      ⟨none, (some 5), .call 77 [(.t 4), (.c (.int .i64 1)), (.c (.int .i64 2000))]⟩,
      ⟨none, (some 6), .mv (.t 5)⟩,
      ⟨(some (6, true)), (some 7), .faddr 1 (.t 1)⟩,
      ⟨(some (6, true)), (some 8), .load true 2 (.t 7)⟩,
      ⟨(some (6, true)), (some 9), .call 82 [(.t 8), (.c (.int .i64 4000))]⟩,
      ⟨none, (some 10), .pick (.t 6) (.t 9) (.c (.bool false))⟩,
      ⟨none, (some 2), .mv (.t 10)⟩])
    .ret))
theorem ok85 : FnOk Try.prog 85 11 1 c85 [.t 2] := ⟨_, _, Try.func85, rfl, rfl, by kernel_rfl, by kernel_rfl⟩
theorem bd85 : bodied Try.prog 85 = true := by kernel_rfl

/-- (ferrule/cloth.opened).cuts -/
def c86 : CI := (.seq (.reg [⟨none, (some 1), .box 0 true (.t 0)⟩,
      ⟨none, (some 2), .mv (.c .nils)⟩,
      ⟨none, (some 3), .mv (.c (.int .i64 0))⟩])
    (.seq (.reg [⟨none, (some 8), .faddr 0 (.t 1)⟩,
      ⟨none, (some 9), .faddr 3 (.t 8)⟩,
      ⟨none, (some 10), .load false 1 (.t 9)⟩,
      ⟨none, (some 11), .len (.t 10)⟩,
      ⟨none, (some 12), .mks 1 36 2 16 [(.int .i64 0), (.int .i64 0)] (.t 11) (.t 11)⟩,
      ⟨none, (some 4), .mv (.t 12)⟩])
    (.seq (.seq (.reg [⟨none, (some 13), .mv (.t 4)⟩,
      ⟨none, (some 14), .len (.t 13)⟩,
      ⟨none, (some 15), .mv (.c (.int .i64 0))⟩])
    (.block 0 (.loop (.seq (.reg [⟨none, (some 16), .bin .lss (.t 15) (.t 14)⟩])
    (.seq (.cond (.t 16) .skip
    (.exit 0))
    (.seq (.block 1 (.seq (.reg [⟨none, (some 17), .mv (.t 15)⟩,
      ⟨none, (some 5), .mv (.t 17)⟩])
    (.seq (.reg [⟨none, (some 19), .load true 7 (.t 1)⟩,
      ⟨none, (some 20), .mv (.t 5)⟩,
      ⟨none, (some 21), .call 53 [(.t 19), (.t 20)]⟩,
      ⟨none, (some 18), .mv (.t 21)⟩,
      ⟨none, (some 22), .extract 0 (.t 18)⟩,
      ⟨none, (some 23), .extract 1 (.t 18)⟩,
      ⟨none, (some 6), .alloc 2 [(.int .i64 0), (.int .i64 0)]⟩,
      ⟨none, none, .store true 2 (.t 6) (.t 22) []⟩,
      ⟨none, (some 7), .mv (.t 23)⟩])
    (.seq (.seq (.reg [⟨none, (some 24), .mv (.t 7)⟩,
      ⟨none, (some 25), .bin .neq (.t 24) (.c (.int .i64 0))⟩])
    (.cond (.t 25) (.seq (.reg [⟨none, (some 26), .mv (.t 7)⟩,
      ⟨none, (some 2), .mv (.c .nils)⟩,
      ⟨none, (some 3), .mv (.t 26)⟩])
    .ret)
    .skip))
    (.reg [⟨none, (some 27), .mv (.t 4)⟩,
      ⟨none, (some 28), .mv (.t 5)⟩,
      ⟨none, (some 29), .load true 2 (.t 6)⟩,
      ⟨none, (some 30), .iaddr 2 (.t 27) (.t 28)⟩,
      ⟨none, none, .store true 2 (.t 30) (.t 29) []⟩])))))
    (.reg [⟨none, (some 31), .bin .add (.t 15) (.c (.int .i64 1))⟩,
      ⟨none, (some 15), .mv (.t 31)⟩])))))))
    (.seq (.reg [⟨none, (some 32), .mv (.t 4)⟩,
      ⟨none, (some 2), .mv (.t 32)⟩,
      ⟨none, (some 3), .mv (.c (.int .i64 0))⟩])
    .ret))))
theorem ok86 : FnOk Try.prog 86 33 3 c86 [.t 2, .t 3] := ⟨_, _, Try.func86, rfl, rfl, by kernel_rfl, by kernel_rfl⟩
theorem bd86 : bodied Try.prog 86 = true := by kernel_rfl

/-- slices.Collect[int] -/
def c87 : CI := (.seq (.reg [⟨none, (some 2), .mv (.c .nils)⟩])
    (.seq (.reg [⟨none, (some 3), .mv (.t 0)⟩,
      ⟨none, (some 4), .callz 0 1 91 [(.c .nils), (.t 3)] []⟩,
      ⟨none, (some 2), .mv (.t 4)⟩])
    .ret))
theorem ok87 : FnOk Try.prog 87 5 1 c87 [.t 2] := ⟨_, _, Try.func87, rfl, rfl, by kernel_rfl, by kernel_rfl⟩
theorem bd87 : bodied Try.prog 87 = true := by kernel_rfl

/-- ferrule/cloth.stretches -/
def c88 : CI := (.seq (.reg [⟨none, (some 1), .box 0 true (.t 0)⟩,
      ⟨none, (some 2), .mv (.c (.lit (.nilFunc)))⟩])
    (.seq (.reg [⟨none, (some 3), .mkfn 92 [(.t 1)]⟩,
      ⟨none, (some 2), .mv (.t 3)⟩])
    .ret))
theorem ok88 : FnOk Try.prog 88 4 1 c88 [.t 2] := ⟨_, _, Try.func88, rfl, rfl, by kernel_rfl, by kernel_rfl⟩
theorem bd88 : bodied Try.prog 88 = true := by kernel_rfl

/-- ferrule/cloth.isNumber[ferrule/api.Span] -/
def c89 : CI := (.seq (.reg [⟨none, (some 4), .mv (.c (.bool false))⟩])
    (.seq (.reg [⟨none, (some 5), .mv (.t 1)⟩,
      ⟨none, (some 6), .mv (.t 0)⟩,
      ⟨none, (some 7), .len (.t 6)⟩,
      ⟨none, (some 8), .bin .sub (.t 7) (.c (.int .i64 1))⟩,
      ⟨none, (some 9), .call 77 [(.t 5), (.c (.int .i64 0)), (.t 8)]⟩,
      ⟨none, (some 4), .mv (.t 9)⟩])
    .ret))
theorem ok89 : FnOk Try.prog 89 10 0 c89 [.t 4] := ⟨_, _, Try.func89, rfl, rfl, by kernel_rfl, by kernel_rfl⟩
theorem bd89 : bodied Try.prog 89 = true := by kernel_rfl

/-- (ferrule/cloth.opened).goresOf -/
def c90 : CI := (.seq (.reg [⟨none, (some 2), .box 0 true (.t 0)⟩,
      ⟨none, (some 4), .mv (.c (.int .i64 0))⟩])
    (.seq (.reg [⟨none, (some 5), .mv (.c (.int .i64 0))⟩])
    (.seq (.seq (.reg [⟨none, (some 8), .faddr 0 (.t 2)⟩,
      ⟨none, (some 9), .faddr 1 (.t 8)⟩,
      ⟨none, (some 10), .load false 1 (.t 9)⟩,
      ⟨none, (some 11), .len (.t 10)⟩,
      ⟨none, (some 12), .mv (.c (.int .i64 0))⟩])
    (.block 0 (.loop (.seq (.reg [⟨none, (some 13), .bin .lss (.t 12) (.t 11)⟩])
    (.seq (.cond (.t 13) .skip
    (.exit 0))
    (.seq (.block 1 (.seq (.reg [⟨none, (some 14), .iaddr 1 (.t 10) (.t 12)⟩,
      ⟨none, (some 15), .load false 1 (.t 14)⟩,
      ⟨none, (some 7), .mv (.t 15)⟩])
    (.seq (.reg [⟨none, (some 16), .mv (.t 7)⟩,
      ⟨none, (some 17), .mv (.t 1)⟩,
      ⟨none, (some 18), .bin .eql (.t 16) (.t 17)⟩])
    (.cond (.t 18) (.reg [⟨none, (some 19), .mv (.t 5)⟩,
      ⟨none, (some 20), .bin .add (.t 19) (.c (.int .i64 1))⟩,
      ⟨none, (some 5), .mv (.t 20)⟩])
    .skip))))
    (.reg [⟨none, (some 21), .bin .add (.t 12) (.c (.int .i64 1))⟩,
      ⟨none, (some 12), .mv (.t 21)⟩])))))))
    (.seq (.reg [⟨none, (some 22), .mv (.t 5)⟩,
      ⟨none, (some 4), .mv (.t 22)⟩])
    .ret))))
theorem ok90 : FnOk Try.prog 90 23 1 c90 [.t 4] := ⟨_, _, Try.func90, rfl, rfl, by kernel_rfl, by kernel_rfl⟩
theorem bd90 : bodied Try.prog 90 = true := by kernel_rfl

/-- slices.AppendSeq[[]int,int] -/
def c91 : CI := (.seq (.reg [⟨none, (some 2), .box 0 false (.t 0)⟩,
      ⟨none, (some 4), .mv (.c .nils)⟩])
    (.seq (.seq (.reg [⟨none, (some 6), .mv (.t 1)⟩])
    (.block 0 (.rng (.t 6) [7] (.reg [⟨none, (some 5), .mv (.t 7)⟩])
    (.block 1 (.reg [⟨none, (some 8), .load false 1 (.t 2)⟩,
      ⟨none, (some 9), .mv (.t 5)⟩,
      ⟨none, (some 10), .bsl 1 3 1 [(.t 9)] []⟩,
      ⟨none, (some 11), .apd 2 3 1 8 (.t 8) (.t 10) []⟩,
      ⟨none, none, .stz false 1 (.t 2) (.t 11) []⟩])))))
    (.seq (.reg [⟨none, (some 12), .load false 1 (.t 2)⟩,
      ⟨none, (some 4), .mv (.t 12)⟩])
    .ret)))
theorem ok91 : FnOk Try.prog 91 13 3 c91 [.t 4] := ⟨_, _, Try.func91, rfl, rfl, by kernel_rfl, by kernel_rfl⟩
theorem bd91 : bodied Try.prog 91 = true := by kernel_rfl

/-- ferrule/cloth.stretches$1 -/
def c92 : CI := (.seq (.reg [⟨none, (some 2), .box 0 false (.t 0)⟩])
    (.seq (.reg [⟨none, (some 5), .load true 4 (.t 1)⟩,
      ⟨none, (some 6), .callz 1 0 60 [(.t 5)] []⟩])
    (.block 0 (.rng (.t 6) [7, 8] (.seq (.reg [⟨none, (some 3), .mv (.t 7)⟩])
    (.reg [⟨none, (some 4), .mv (.t 8)⟩]))
    (.block 1 (.seq (.reg [⟨none, (some 9), .mv (.t 4)⟩,
      ⟨none, (some 10), .faddr 3 (.t 1)⟩,
      ⟨none, (some 11), .load false 1 (.t 10)⟩,
      ⟨none, (some 12), .bin .leq (.t 9) (.t 11)⟩,
      ⟨none, (some 13), .mv (.t 12)⟩,
      ⟨(some (13, true)), (some 14), .load false 1 (.t 2)⟩,
      ⟨(some (13, true)), (some 15), .mv (.t 3)⟩,
      ⟨(some (13, true)), (some 16), .callv (.t 14) [(.t 15)]⟩,
      ⟨(some (13, true)), (some 17), .un .not (.t 16)⟩,
      ⟨none, (some 18), .pick (.t 13) (.t 17) (.c (.bool false))⟩])
    (.cond (.t 18) .ret
    .skip)))))))
theorem ok92 : FnOk Try.prog 92 19 1 c92 [] := ⟨_, _, Try.func92, rfl, rfl, by kernel_rfl, by kernel_rfl⟩
theorem bd92 : bodied Try.prog 92 = true := by kernel_rfl

end Go.Proofs
