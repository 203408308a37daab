/- The functions of this program as the walk reads them, each proved to be what the program holds. -/
import Derived.Test.YtipjmcaehgajeaaEng4
import Derived.Test.YtipjmcaehgajeaaProg
import Derived.KernelRfl
namespace Go.Proofs
open Go.Eng
set_option maxRecDepth 100000

/-- ferrule/ferrulelaw01.FramesCosine -/
def c3 : CI := (.seq (.reg [⟨none, (some 2), .box 0 true (.t 0)⟩,
      ⟨none, (some 3), .box 1 true (.t 1)⟩,
      ⟨none, (some 4), .mv (.c (.bool false))⟩])
    (.seq (.seq (.reg [⟨none, (some 20), .load true 7 (.t 2)⟩,
      ⟨none, (some 21), .call 11 [(.t 20)]⟩])
    (.cond (.t 21) (.seq (.reg [⟨none, (some 22), .call 12 []⟩,
      ⟨none, (some 4), .mv (.t 22)⟩])
    .ret)
    .skip))
    (.seq (.reg [⟨none, (some 23), .load true 7 (.t 2)⟩,
      ⟨none, (some 24), .callz 2 1 13 [(.t 23)] []⟩,
      ⟨none, (some 5), .alloc 3 [.nils, (.int .i64 0), (.int .i64 0), (.int .i64 0), (.int .i64 0), (.int .i64 0), (.int .i64 0)]⟩,
      ⟨none, none, .store true 7 (.t 5) (.t 24) []⟩])
    (.seq (.seq (.reg [⟨none, (some 25), .load true 7 (.t 5)⟩,
      ⟨none, (some 27), .load true 7 (.t 2)⟩,
      ⟨none, (some 26), .call 14 [(.t 25)]⟩,
      ⟨none, (some 28), .call 15 [(.t 27)]⟩,
      ⟨none, (some 29), .bin .neq (.t 26) (.t 28)⟩])
    (.cond (.t 29) (.seq (.reg [⟨none, (some 4), .mv (.c (.bool false))⟩])
    .ret)
    .skip))
    (.seq (.reg [⟨none, (some 31), .load true 7 (.t 5)⟩,
      ⟨none, (some 32), .faddr 0 (.t 3)⟩,
      ⟨none, (some 33), .load false 1 (.t 32)⟩,
      ⟨none, (some 34), .faddr 1 (.t 3)⟩,
      ⟨none, (some 35), .load false 1 (.t 34)⟩,
      ⟨none, (some 36), .call 16 [(.t 31), (.t 33), (.t 35)]⟩,
      ⟨none, (some 30), .mv (.t 36)⟩,
      ⟨none, (some 37), .extract 0 (.t 30)⟩,
      ⟨none, (some 38), .extract 1 (.t 30)⟩,
      ⟨none, (some 6), .mv (.t 37)⟩,
      ⟨none, (some 7), .mv (.t 38)⟩])
    (.seq (.reg [⟨none, (some 40), .load true 7 (.t 2)⟩,
      ⟨none, (some 41), .faddr 0 (.t 3)⟩,
      ⟨none, (some 42), .load false 1 (.t 41)⟩,
      ⟨none, (some 43), .faddr 1 (.t 3)⟩,
      ⟨none, (some 44), .load false 1 (.t 43)⟩,
      ⟨none, (some 45), .call 17 [(.t 40), (.t 42), (.t 44)]⟩,
      ⟨none, (some 39), .mv (.t 45)⟩,
      ⟨none, (some 46), .extract 0 (.t 39)⟩,
      ⟨none, (some 47), .extract 1 (.t 39)⟩,
      ⟨none, (some 8), .mv (.t 46)⟩,
      ⟨none, (some 9), .mv (.t 47)⟩])
    (.seq (.reg [⟨none, (some 49), .load true 7 (.t 5)⟩,
      ⟨none, (some 50), .faddr 0 (.t 3)⟩,
      ⟨none, (some 51), .load false 1 (.t 50)⟩,
      ⟨none, (some 52), .faddr 1 (.t 3)⟩,
      ⟨none, (some 53), .load false 1 (.t 52)⟩,
      ⟨none, (some 54), .call 18 [(.t 49), (.t 51), (.t 53)]⟩,
      ⟨none, (some 48), .mv (.t 54)⟩,
      ⟨none, (some 55), .extract 0 (.t 48)⟩,
      ⟨none, (some 56), .extract 1 (.t 48)⟩,
      ⟨none, (some 57), .extract 2 (.t 48)⟩,
      ⟨none, (some 10), .alloc 4 [(.int .i64 0), (.int .i64 0)]⟩,
      ⟨none, (some 11), .alloc 5 [(.int .i64 0), (.int .i64 0)]⟩,
      ⟨none, none, .store true 2 (.t 10) (.t 55) []⟩,
      ⟨none, none, .store true 2 (.t 11) (.t 56) []⟩,
      ⟨none, (some 12), .mv (.t 57)⟩])
    (.seq (.reg [⟨none, (some 59), .load true 7 (.t 2)⟩,
      ⟨none, (some 60), .faddr 0 (.t 3)⟩,
      ⟨none, (some 61), .load false 1 (.t 60)⟩,
      ⟨none, (some 62), .faddr 1 (.t 3)⟩,
      ⟨none, (some 63), .load false 1 (.t 62)⟩,
      ⟨none, (some 64), .call 19 [(.t 59), (.t 61), (.t 63)]⟩,
      ⟨none, (some 58), .mv (.t 64)⟩,
      ⟨none, (some 65), .extract 0 (.t 58)⟩,
      ⟨none, (some 66), .extract 1 (.t 58)⟩,
      ⟨none, (some 67), .extract 2 (.t 58)⟩,
      ⟨none, (some 13), .alloc 6 [(.int .i64 0), (.int .i64 0)]⟩,
      ⟨none, (some 14), .alloc 7 [(.int .i64 0), (.int .i64 0)]⟩,
      ⟨none, none, .store true 2 (.t 13) (.t 65) []⟩,
      ⟨none, none, .store true 2 (.t 14) (.t 66) []⟩,
      ⟨none, (some 15), .mv (.t 67)⟩])
    (.seq (.reg [⟨none, (some 69), .load true 7 (.t 5)⟩,
      ⟨none, (some 70), .faddr 0 (.t 3)⟩,
      ⟨none, (some 71), .load false 1 (.t 70)⟩,
      ⟨none, (some 72), .faddr 1 (.t 3)⟩,
      ⟨none, (some 73), .load false 1 (.t 72)⟩,
      ⟨none, (some 74), .call 20 [(.t 69), (.t 71), (.t 73)]⟩,
      ⟨none, (some 68), .mv (.t 74)⟩,
      ⟨none, (some 75), .extract 0 (.t 68)⟩,
      ⟨none, (some 76), .extract 1 (.t 68)⟩,
      ⟨none, (some 16), .mv (.t 75)⟩,
      ⟨none, (some 17), .mv (.t 76)⟩])
    (.seq (.reg [⟨none, (some 78), .load true 7 (.t 2)⟩,
      ⟨none, (some 79), .faddr 0 (.t 3)⟩,
      ⟨none, (some 80), .load false 1 (.t 79)⟩,
      ⟨none, (some 81), .faddr 1 (.t 3)⟩,
      ⟨none, (some 82), .load false 1 (.t 81)⟩,
      ⟨none, (some 83), .call 21 [(.t 78), (.t 80), (.t 82)]⟩,
      ⟨none, (some 77), .mv (.t 83)⟩,
      ⟨none, (some 84), .extract 0 (.t 77)⟩,
      ⟨none, (some 85), .extract 1 (.t 77)⟩,
      ⟨none, (some 18), .mv (.t 84)⟩,
      ⟨none, (some 19), .mv (.t 85)⟩])
    (.seq (.reg [⟨none, (some 86), .mv (.t 6)⟩,
      ⟨none, (some 87), .mv (.t 8)⟩,
      ⟨none, (some 88), .bin .eql (.t 86) (.t 87)⟩,
      ⟨none, (some 89), .mv (.t 88)⟩,
      ⟨(some (89, true)), (some 90), .mv (.t 7)⟩,
      ⟨(some (89, true)), (some 91), .mv (.t 9)⟩,
      ⟨(some (89, true)), (some 92), .bin .eql (.t 90) (.t 91)⟩,
      ⟨none, (some 93), .pick (.t 89) (.t 92) (.c (.bool false))⟩,
      ⟨none, (some 94), .mv (.t 93)⟩,
      ⟨(some (94, true)), (some 95), .load true 2 (.t 10)⟩,
      ⟨(some (94, true)), (some 96), .load true 2 (.t 13)⟩,
      ⟨(some (94, true)), (some 97), .eqs false (.node [(0, 1, (.leaf true)), (1, 1, (.leaf true))]) (.t 95) (.t 96)⟩,
      ⟨none, (some 98), .pick (.t 94) (.t 97) (.c (.bool false))⟩,
      ⟨none, (some 99), .mv (.t 98)⟩,
      ⟨(some (99, true)), (some 100), .load true 2 (.t 11)⟩,
      ⟨(some (99, true)), (some 101), .load true 2 (.t 14)⟩,
      ⟨(some (99, true)), (some 102), .eqs false (.node [(0, 1, (.leaf true)), (1, 1, (.leaf true))]) (.t 100) (.t 101)⟩,
      ⟨none, (some 103), .pick (.t 99) (.t 102) (.c (.bool false))⟩,
      ⟨none, (some 104), .mv (.t 103)⟩,
      ⟨(some (104, true)), (some 105), .mv (.t 12)⟩,
      ⟨(some (104, true)), (some 106), .mv (.t 15)⟩,
      ⟨(some (104, true)), (some 107), .bin .eql (.t 105) (.t 106)⟩,
      ⟨none, (some 108), .pick (.t 104) (.t 107) (.c (.bool false))⟩,
      ⟨none, (some 109), .mv (.t 108)⟩,
      ⟨(some (109, true)), (some 110), .mv (.t 16)⟩,
      ⟨(some (109, true)), (some 111), .mv (.t 18)⟩,
      ⟨(some (109, true)), (some 112), .bin .eql (.t 110) (.t 111)⟩,
      ⟨none, (some 113), .pick (.t 109) (.t 112) (.c (.bool false))⟩,
      ⟨none, (some 114), .mv (.t 113)⟩,
      ⟨(some (114, true)), (some 115), .mv (.t 17)⟩,
      ⟨(some (114, true)), (some 116), .mv (.t 19)⟩,
      ⟨(some (114, true)), (some 117), .bin .eql (.t 115) (.t 116)⟩,
      ⟨none, (some 118), .pick (.t 114) (.t 117) (.c (.bool false))⟩,
      ⟨none, (some 119), .mv (.t 118)⟩,
      ⟨(some (119, true)), (some 120), .load true 7 (.t 5)⟩,
      ⟨(some (119, true)), (some 121), .load true 7 (.t 2)⟩,
      ⟨(some (119, true)), (some 122), .call 22 [(.t 120), (.t 121)]⟩,
      ⟨none, (some 123), .pick (.t 119) (.t 122) (.c (.bool false))⟩,
      ⟨none, (some 124), .mv (.t 123)⟩,
      ⟨(some (124, true)), (some 125), .call 12 []⟩,
      ⟨none, (some 126), .pick (.t 124) (.t 125) (.c (.bool false))⟩,
      ⟨none, (some 4), .mv (.t 126)⟩])
    .ret)))))))))))
theorem ok3 : FnOk Try.prog 3 127 8 c3 [.t 4] := ⟨_, _, Try.func3, rfl, rfl, by kernel_rfl, by kernel_rfl⟩
theorem bd3 : bodied Try.prog 3 = true := by kernel_rfl

/-- ferrule/ferrulelaw01.FramesOpens -/
def c4 : CI := (.seq (.reg [⟨none, (some 2), .box 0 true (.t 0)⟩,
      ⟨none, (some 4), .mv (.c (.bool false))⟩])
    (.seq (.seq (.reg [⟨none, (some 28), .load true 7 (.t 2)⟩,
      ⟨none, (some 29), .call 11 [(.t 28)]⟩])
    (.cond (.t 29) (.seq (.reg [⟨none, (some 30), .call 12 []⟩,
      ⟨none, (some 4), .mv (.t 30)⟩])
    .ret)
    .skip))
    (.seq (.reg [⟨none, (some 31), .load true 7 (.t 2)⟩,
      ⟨none, (some 32), .callz 1 1 13 [(.t 31)] []⟩,
      ⟨none, (some 5), .alloc 2 [.nils, (.int .i64 0), (.int .i64 0), (.int .i64 0), (.int .i64 0), (.int .i64 0), (.int .i64 0)]⟩,
      ⟨none, none, .store true 7 (.t 5) (.t 32) []⟩])
    (.seq (.reg [⟨none, (some 34), .load true 7 (.t 5)⟩,
      ⟨none, (some 35), .call 23 [(.t 34)]⟩,
      ⟨none, (some 33), .mv (.t 35)⟩,
      ⟨none, (some 36), .extract 0 (.t 33)⟩,
      ⟨none, (some 37), .extract 1 (.t 33)⟩,
      ⟨none, (some 38), .extract 2 (.t 33)⟩,
      ⟨none, (some 6), .mv (.t 36)⟩,
      ⟨none, (some 7), .mv (.t 37)⟩,
      ⟨none, (some 8), .mv (.t 38)⟩])
    (.seq (.reg [⟨none, (some 40), .load true 7 (.t 2)⟩,
      ⟨none, (some 41), .call 24 [(.t 40)]⟩,
      ⟨none, (some 39), .mv (.t 41)⟩,
      ⟨none, (some 42), .extract 0 (.t 39)⟩,
      ⟨none, (some 43), .extract 1 (.t 39)⟩,
      ⟨none, (some 44), .extract 2 (.t 39)⟩,
      ⟨none, (some 9), .mv (.t 42)⟩,
      ⟨none, (some 10), .mv (.t 43)⟩,
      ⟨none, (some 11), .mv (.t 44)⟩])
    (.seq (.reg [⟨none, (some 46), .load true 7 (.t 5)⟩,
      ⟨none, (some 47), .call 25 [(.t 46)]⟩,
      ⟨none, (some 45), .mv (.t 47)⟩,
      ⟨none, (some 48), .extract 0 (.t 45)⟩,
      ⟨none, (some 49), .extract 1 (.t 45)⟩,
      ⟨none, (some 12), .mv (.t 48)⟩,
      ⟨none, (some 13), .mv (.t 49)⟩])
    (.seq (.reg [⟨none, (some 51), .load true 7 (.t 2)⟩,
      ⟨none, (some 52), .call 26 [(.t 51)]⟩,
      ⟨none, (some 50), .mv (.t 52)⟩,
      ⟨none, (some 53), .extract 0 (.t 50)⟩,
      ⟨none, (some 54), .extract 1 (.t 50)⟩,
      ⟨none, (some 14), .mv (.t 53)⟩,
      ⟨none, (some 15), .mv (.t 54)⟩])
    (.seq (.reg [⟨none, (some 56), .load true 7 (.t 5)⟩,
      ⟨none, (some 57), .mv (.t 1)⟩,
      ⟨none, (some 58), .call 27 [(.t 56), (.t 57)]⟩,
      ⟨none, (some 55), .mv (.t 58)⟩,
      ⟨none, (some 59), .extract 0 (.t 55)⟩,
      ⟨none, (some 60), .extract 1 (.t 55)⟩,
      ⟨none, (some 16), .mv (.t 59)⟩,
      ⟨none, (some 17), .mv (.t 60)⟩])
    (.seq (.reg [⟨none, (some 62), .load true 7 (.t 2)⟩,
      ⟨none, (some 63), .mv (.t 1)⟩,
      ⟨none, (some 64), .call 28 [(.t 62), (.t 63)]⟩,
      ⟨none, (some 61), .mv (.t 64)⟩,
      ⟨none, (some 65), .extract 0 (.t 61)⟩,
      ⟨none, (some 66), .extract 1 (.t 61)⟩,
      ⟨none, (some 18), .mv (.t 65)⟩,
      ⟨none, (some 19), .mv (.t 66)⟩])
    (.seq (.reg [⟨none, (some 68), .load true 7 (.t 5)⟩,
      ⟨none, (some 69), .callz 3 1 29 [(.t 68)] []⟩,
      ⟨none, (some 67), .mv (.t 69)⟩,
      ⟨none, (some 70), .extract 0 (.t 67)⟩,
      ⟨none, (some 71), .extract 1 (.t 67)⟩,
      ⟨none, (some 20), .mv (.t 70)⟩,
      ⟨none, (some 21), .mv (.t 71)⟩])
    (.seq (.reg [⟨none, (some 73), .load true 7 (.t 2)⟩,
      ⟨none, (some 74), .callz 4 1 30 [(.t 73)] []⟩,
      ⟨none, (some 72), .mv (.t 74)⟩,
      ⟨none, (some 75), .extract 0 (.t 72)⟩,
      ⟨none, (some 76), .extract 1 (.t 72)⟩,
      ⟨none, (some 22), .mv (.t 75)⟩,
      ⟨none, (some 23), .mv (.t 76)⟩])
    (.seq (.reg [⟨none, (some 78), .load true 7 (.t 5)⟩,
      ⟨none, (some 79), .call 31 [(.t 78)]⟩,
      ⟨none, (some 77), .mv (.t 79)⟩,
      ⟨none, (some 80), .extract 0 (.t 77)⟩,
      ⟨none, (some 81), .extract 1 (.t 77)⟩,
      ⟨none, (some 24), .mv (.t 80)⟩,
      ⟨none, (some 25), .mv (.t 81)⟩])
    (.seq (.reg [⟨none, (some 83), .load true 7 (.t 2)⟩,
      ⟨none, (some 84), .call 32 [(.t 83)]⟩,
      ⟨none, (some 82), .mv (.t 84)⟩,
      ⟨none, (some 85), .extract 0 (.t 82)⟩,
      ⟨none, (some 86), .extract 1 (.t 82)⟩,
      ⟨none, (some 26), .mv (.t 85)⟩,
      ⟨none, (some 27), .mv (.t 86)⟩])
    (.seq (.reg [⟨none, (some 87), .mv (.t 6)⟩,
      ⟨none, (some 88), .mv (.t 9)⟩,
      ⟨none, (some 89), .bin .eql (.t 87) (.t 88)⟩,
      ⟨none, (some 90), .mv (.t 89)⟩,
      ⟨(some (90, true)), (some 91), .mv (.t 7)⟩,
      ⟨(some (90, true)), (some 92), .mv (.t 10)⟩,
      ⟨(some (90, true)), (some 93), .bin .eql (.t 91) (.t 92)⟩,
      ⟨none, (some 94), .pick (.t 90) (.t 93) (.c (.bool false))⟩,
      ⟨none, (some 95), .mv (.t 94)⟩,
      ⟨(some (95, true)), (some 96), .mv (.t 8)⟩,
      ⟨(some (95, true)), (some 97), .mv (.t 11)⟩,
      ⟨(some (95, true)), (some 98), .bin .eql (.t 96) (.t 97)⟩,
      ⟨none, (some 99), .pick (.t 95) (.t 98) (.c (.bool false))⟩,
      ⟨none, (some 100), .mv (.t 99)⟩,
      ⟨(some (100, true)), (some 101), .mv (.t 12)⟩,
      ⟨(some (100, true)), (some 102), .mv (.t 14)⟩,
      ⟨(some (100, true)), (some 103), .bin .eql (.t 101) (.t 102)⟩,
      ⟨none, (some 104), .pick (.t 100) (.t 103) (.c (.bool false))⟩,
      ⟨none, (some 105), .mv (.t 104)⟩,
      ⟨(some (105, true)), (some 106), .mv (.t 13)⟩,
      ⟨(some (105, true)), (some 107), .mv (.t 15)⟩,
      ⟨(some (105, true)), (some 108), .bin .eql (.t 106) (.t 107)⟩,
      ⟨none, (some 109), .pick (.t 105) (.t 108) (.c (.bool false))⟩,
      ⟨none, (some 110), .mv (.t 109)⟩,
      ⟨(some (110, true)), (some 111), .mv (.t 16)⟩,
      ⟨(some (110, true)), (some 112), .mv (.t 18)⟩,
      ⟨(some (110, true)), (some 113), .bin .eql (.t 111) (.t 112)⟩,
      ⟨none, (some 114), .pick (.t 110) (.t 113) (.c (.bool false))⟩,
      ⟨none, (some 115), .mv (.t 114)⟩,
      ⟨(some (115, true)), (some 116), .mv (.t 17)⟩,
      ⟨(some (115, true)), (some 117), .mv (.t 19)⟩,
      ⟨(some (115, true)), (some 118), .bin .eql (.t 116) (.t 117)⟩,
      ⟨none, (some 119), .pick (.t 115) (.t 118) (.c (.bool false))⟩,
      ⟨none, (some 120), .mv (.t 119)⟩,
      ⟨(some (120, true)), (some 121), .mv (.t 20)⟩,
      ⟨(some (120, true)), (some 122), .mv (.t 22)⟩,
      ⟨(some (120, true)), (some 123), .call 33 [(.t 121), (.t 122)]⟩,
      ⟨none, (some 124), .pick (.t 120) (.t 123) (.c (.bool false))⟩,
      ⟨none, (some 125), .mv (.t 124)⟩,
      ⟨(some (125, true)), (some 126), .mv (.t 21)⟩,
      ⟨(some (125, true)), (some 127), .mv (.t 23)⟩,
      ⟨(some (125, true)), (some 128), .bin .eql (.t 126) (.t 127)⟩,
      ⟨none, (some 129), .pick (.t 125) (.t 128) (.c (.bool false))⟩,
      ⟨none, (some 130), .mv (.t 129)⟩,
      ⟨(some (130, true)), (some 131), .mv (.t 24)⟩,
      ⟨(some (130, true)), (some 132), .mv (.t 26)⟩,
      ⟨(some (130, true)), (some 133), .bin .eql (.t 131) (.t 132)⟩,
      ⟨none, (some 134), .pick (.t 130) (.t 133) (.c (.bool false))⟩,
      ⟨none, (some 135), .mv (.t 134)⟩,
      ⟨(some (135, true)), (some 136), .mv (.t 25)⟩,
      ⟨(some (135, true)), (some 137), .mv (.t 27)⟩,
      ⟨(some (135, true)), (some 138), .bin .eql (.t 136) (.t 137)⟩,
      ⟨none, (some 139), .pick (.t 135) (.t 138) (.c (.bool false))⟩,
      ⟨none, (some 140), .mv (.t 139)⟩,
      ⟨(some (140, true)), (some 141), .call 12 []⟩,
      ⟨none, (some 142), .pick (.t 140) (.t 141) (.c (.bool false))⟩,
      ⟨none, (some 4), .mv (.t 142)⟩])
    .ret))))))))))))))
theorem ok4 : FnOk Try.prog 4 143 5 c4 [.t 4] := ⟨_, _, Try.func4, rfl, rfl, by kernel_rfl, by kernel_rfl⟩
theorem bd4 : bodied Try.prog 4 = true := by kernel_rfl

/-- ferrule/ferrulelaw01.FramesTrue -/
def c5 : CI := (.seq (.reg [⟨none, (some 3), .box 0 true (.t 0)⟩,
      ⟨none, (some 5), .box 1 true (.t 2)⟩,
      ⟨none, (some 6), .mv (.c (.bool false))⟩])
    (.seq (.seq (.reg [⟨none, (some 29), .load true 7 (.t 3)⟩,
      ⟨none, (some 30), .call 34 [(.t 29)]⟩,
      ⟨none, (some 31), .un .not (.t 30)⟩,
      ⟨none, (some 32), .mv (.t 31)⟩,
      ⟨(some (32, false)), (some 33), .load true 7 (.t 3)⟩,
      ⟨(some (32, false)), (some 34), .load true 2 (.t 5)⟩,
      ⟨(some (32, false)), (some 35), .call 35 [(.t 33), (.t 34)]⟩,
      ⟨(some (32, false)), (some 36), .un .not (.t 35)⟩,
      ⟨none, (some 37), .pick (.t 32) (.c (.bool true)) (.t 36)⟩,
      ⟨none, (some 38), .mv (.t 37)⟩,
      ⟨(some (38, false)), (some 39), .mv (.t 1)⟩,
      ⟨(some (38, false)), (some 40), .len (.t 39)⟩,
      ⟨(some (38, false)), (some 41), .faddr 0 (.t 3)⟩,
      ⟨(some (38, false)), (some 42), .load false 1 (.t 41)⟩,
      ⟨(some (38, false)), (some 43), .len (.t 42)⟩,
      ⟨(some (38, false)), (some 44), .bin .neq (.t 40) (.t 43)⟩,
      ⟨none, (some 45), .pick (.t 38) (.c (.bool true)) (.t 44)⟩])
    (.cond (.t 45) (.seq (.reg [⟨none, (some 46), .call 12 []⟩,
      ⟨none, (some 6), .mv (.t 46)⟩])
    .ret)
    .skip))
    (.seq (.reg [⟨none, (some 7), .mv (.c (.bool true))⟩,
      ⟨none, (some 8), .mv (.c (.int .i64 0))⟩])
    (.seq (.seq (.reg [⟨none, (some 9), .mv (.c (.int .i64 0))⟩])
    (.block 0 (.loop (.seq (.seq (.reg [⟨none, (some 47), .mv (.t 9)⟩,
      ⟨none, (some 48), .mv (.t 1)⟩,
      ⟨none, (some 49), .len (.t 48)⟩,
      ⟨none, (some 50), .bin .lss (.t 47) (.t 49)⟩])
    (.cond (.t 50) .skip
    (.exit 0)))
    (.seq (.block 1 (.seq (.seq (.reg [⟨none, (some 53), .load true 7 (.t 3)⟩,
      ⟨none, (some 54), .mv (.t 9)⟩,
      ⟨none, (some 55), .mv (.t 1)⟩,
      ⟨none, (some 56), .mv (.t 9)⟩,
      ⟨none, (some 57), .iaddr 2 (.t 55) (.t 56)⟩,
      ⟨none, (some 58), .load true 2 (.t 57)⟩,
      ⟨none, (some 59), .call 36 [(.t 53), (.t 54), (.t 58)]⟩,
      ⟨none, (some 60), .un .not (.t 59)⟩])
    (.cond (.t 60) (.seq (.reg [⟨none, (some 61), .call 12 []⟩,
      ⟨none, (some 6), .mv (.t 61)⟩])
    .ret)
    .skip))
    (.seq (.reg [⟨none, (some 62), .mv (.t 7)⟩,
      ⟨none, (some 63), .mv (.t 62)⟩,
      ⟨(some (63, true)), (some 64), .load true 7 (.t 3)⟩,
      ⟨(some (63, true)), (some 65), .mv (.t 9)⟩,
      ⟨(some (63, true)), (some 66), .mv (.t 1)⟩,
      ⟨(some (63, true)), (some 67), .mv (.t 9)⟩,
      ⟨(some (63, true)), (some 68), .iaddr 2 (.t 66) (.t 67)⟩,
      ⟨(some (63, true)), (some 69), .load true 2 (.t 68)⟩,
      ⟨(some (63, true)), (some 70), .call 37 [(.t 64), (.t 65), (.t 69)]⟩,
      ⟨none, (some 71), .pick (.t 63) (.t 70) (.c (.bool false))⟩,
      ⟨none, (some 7), .mv (.t 71)⟩])
    (.reg [⟨none, (some 72), .mv (.t 8)⟩,
      ⟨none, (some 73), .mv (.t 1)⟩,
      ⟨none, (some 74), .mv (.t 9)⟩,
      ⟨none, (some 75), .iaddr 2 (.t 73) (.t 74)⟩,
      ⟨none, (some 76), .faddr 0 (.t 75)⟩,
      ⟨none, (some 77), .load false 1 (.t 76)⟩,
      ⟨none, (some 78), .mm true [(.t 72), (.t 77)]⟩,
      ⟨none, (some 8), .mv (.t 78)⟩]))))
    (.reg [⟨none, (some 51), .mv (.t 9)⟩,
      ⟨none, (some 52), .bin .add (.t 51) (.c (.int .i64 1))⟩,
      ⟨none, (some 9), .mv (.t 52)⟩]))))))
    (.seq (.reg [⟨none, (some 80), .load true 7 (.t 3)⟩,
      ⟨none, (some 81), .faddr 0 (.t 5)⟩,
      ⟨none, (some 82), .load false 1 (.t 81)⟩,
      ⟨none, (some 83), .faddr 1 (.t 5)⟩,
      ⟨none, (some 84), .load false 1 (.t 83)⟩,
      ⟨none, (some 85), .call 18 [(.t 80), (.t 82), (.t 84)]⟩,
      ⟨none, (some 79), .mv (.t 85)⟩,
      ⟨none, (some 86), .extract 0 (.t 79)⟩,
      ⟨none, (some 87), .extract 1 (.t 79)⟩,
      ⟨none, (some 88), .extract 2 (.t 79)⟩,
      ⟨none, (some 10), .alloc 2 [(.int .i64 0), (.int .i64 0)]⟩,
      ⟨none, (some 11), .alloc 3 [(.int .i64 0), (.int .i64 0)]⟩,
      ⟨none, none, .store true 2 (.t 10) (.t 86) []⟩,
      ⟨none, none, .store true 2 (.t 11) (.t 87) []⟩,
      ⟨none, (some 12), .mv (.t 88)⟩])
    (.seq (.reg [⟨none, (some 90), .load true 7 (.t 3)⟩,
      ⟨none, (some 91), .faddr 0 (.t 5)⟩,
      ⟨none, (some 92), .load false 1 (.t 91)⟩,
      ⟨none, (some 93), .faddr 1 (.t 5)⟩,
      ⟨none, (some 94), .load false 1 (.t 93)⟩,
      ⟨none, (some 95), .call 20 [(.t 90), (.t 92), (.t 94)]⟩,
      ⟨none, (some 89), .mv (.t 95)⟩,
      ⟨none, (some 96), .extract 0 (.t 89)⟩,
      ⟨none, (some 97), .extract 1 (.t 89)⟩,
      ⟨none, (some 13), .mv (.t 96)⟩,
      ⟨none, (some 14), .mv (.t 97)⟩])
    (.seq (.reg [⟨none, (some 99), .load true 7 (.t 3)⟩,
      ⟨none, (some 100), .call 25 [(.t 99)]⟩,
      ⟨none, (some 98), .mv (.t 100)⟩,
      ⟨none, (some 101), .extract 0 (.t 98)⟩,
      ⟨none, (some 102), .extract 1 (.t 98)⟩,
      ⟨none, (some 15), .mv (.t 101)⟩,
      ⟨none, (some 16), .mv (.t 102)⟩])
    (.seq (.reg [⟨none, (some 104), .load true 7 (.t 3)⟩,
      ⟨none, (some 105), .faddr 0 (.t 5)⟩,
      ⟨none, (some 106), .load false 1 (.t 105)⟩,
      ⟨none, (some 107), .call 27 [(.t 104), (.t 106)]⟩,
      ⟨none, (some 103), .mv (.t 107)⟩,
      ⟨none, (some 108), .extract 0 (.t 103)⟩,
      ⟨none, (some 109), .extract 1 (.t 103)⟩,
      ⟨none, (some 17), .mv (.t 108)⟩,
      ⟨none, (some 18), .mv (.t 109)⟩])
    (.seq (.reg [⟨none, (some 111), .load true 7 (.t 3)⟩,
      ⟨none, (some 112), .call 31 [(.t 111)]⟩,
      ⟨none, (some 110), .mv (.t 112)⟩,
      ⟨none, (some 113), .extract 0 (.t 110)⟩,
      ⟨none, (some 114), .extract 1 (.t 110)⟩,
      ⟨none, (some 19), .mv (.t 113)⟩,
      ⟨none, (some 20), .mv (.t 114)⟩])
    (.seq (.reg [⟨none, (some 116), .load true 7 (.t 3)⟩,
      ⟨none, (some 117), .faddr 0 (.t 5)⟩,
      ⟨none, (some 118), .load false 1 (.t 117)⟩,
      ⟨none, (some 119), .faddr 1 (.t 5)⟩,
      ⟨none, (some 120), .load false 1 (.t 119)⟩,
      ⟨none, (some 121), .call 16 [(.t 116), (.t 118), (.t 120)]⟩,
      ⟨none, (some 115), .mv (.t 121)⟩,
      ⟨none, (some 122), .extract 0 (.t 115)⟩,
      ⟨none, (some 123), .extract 1 (.t 115)⟩,
      ⟨none, (some 21), .mv (.t 122)⟩,
      ⟨none, (some 22), .mv (.t 123)⟩])
    (.seq (.seq (.reg [⟨none, (some 124), .mv (.t 12)⟩,
      ⟨none, (some 125), .bin .neq (.t 124) (.c (.int .i64 0))⟩,
      ⟨none, (some 126), .mv (.t 125)⟩,
      ⟨(some (126, true)), (some 127), .mv (.t 12)⟩,
      ⟨(some (126, true)), (some 128), .bin .neq (.t 127) (.c (.int .i64 3))⟩,
      ⟨none, (some 129), .pick (.t 126) (.t 128) (.c (.bool false))⟩,
      ⟨none, (some 130), .mv (.t 129)⟩,
      ⟨(some (130, false)), (some 131), .mv (.t 14)⟩,
      ⟨(some (130, false)), (some 132), .bin .neq (.t 131) (.c (.int .i64 0))⟩,
      ⟨none, (some 133), .pick (.t 130) (.c (.bool true)) (.t 132)⟩,
      ⟨none, (some 134), .mv (.t 133)⟩,
      ⟨(some (134, false)), (some 135), .mv (.t 16)⟩,
      ⟨(some (134, false)), (some 136), .bin .neq (.t 135) (.c (.int .i64 0))⟩,
      ⟨none, (some 137), .pick (.t 134) (.c (.bool true)) (.t 136)⟩,
      ⟨none, (some 138), .mv (.t 137)⟩,
      ⟨(some (138, false)), (some 139), .mv (.t 18)⟩,
      ⟨(some (138, false)), (some 140), .bin .neq (.t 139) (.c (.int .i64 0))⟩,
      ⟨none, (some 141), .pick (.t 138) (.c (.bool true)) (.t 140)⟩,
      ⟨none, (some 142), .mv (.t 141)⟩,
      ⟨(some (142, false)), (some 143), .mv (.t 20)⟩,
      ⟨(some (142, false)), (some 144), .bin .neq (.t 143) (.c (.int .i64 0))⟩,
      ⟨none, (some 145), .pick (.t 142) (.c (.bool true)) (.t 144)⟩,
      ⟨none, (some 146), .mv (.t 145)⟩,
      ⟨(some (146, false)), (some 147), .mv (.t 22)⟩,
      ⟨(some (146, false)), (some 148), .bin .neq (.t 147) (.c (.int .i64 0))⟩,
      ⟨none, (some 149), .pick (.t 146) (.c (.bool true)) (.t 148)⟩,
      ⟨none, (some 150), .mv (.t 149)⟩,
      ⟨(some (150, false)), (some 151), .mv (.t 21)⟩,
      ⟨(some (150, false)), (some 152), .bin .lss (.t 151) (.c (.int .i64 0))⟩,
      ⟨none, (some 153), .pick (.t 150) (.c (.bool true)) (.t 152)⟩,
      ⟨none, (some 154), .mv (.t 153)⟩,
      ⟨(some (154, false)), (some 155), .mv (.t 21)⟩,
      ⟨(some (154, false)), (some 156), .bin .gtr (.t 155) (.c (.int .i64 20000))⟩,
      ⟨none, (some 157), .pick (.t 154) (.c (.bool true)) (.t 156)⟩])
    (.cond (.t 157) (.seq (.reg [⟨none, (some 6), .mv (.c (.bool false))⟩])
    .ret)
    .skip))
    (.seq (.reg [⟨none, (some 159), .mv (.t 21)⟩,
      ⟨none, (some 160), .mv (.t 1)⟩,
      ⟨none, (some 161), .faddr 0 (.t 5)⟩,
      ⟨none, (some 162), .load false 1 (.t 161)⟩,
      ⟨none, (some 163), .iaddr 2 (.t 160) (.t 162)⟩,
      ⟨none, (some 164), .load true 2 (.t 163)⟩,
      ⟨none, (some 165), .call 38 [(.t 159), (.t 164)]⟩,
      ⟨none, (some 158), .mv (.t 165)⟩,
      ⟨none, (some 166), .extract 0 (.t 158)⟩,
      ⟨none, (some 167), .extract 1 (.t 158)⟩,
      ⟨none, (some 23), .alloc 4 [(.int .i64 0), (.int .i64 0)]⟩,
      ⟨none, none, .store true 2 (.t 23) (.t 166) []⟩,
      ⟨none, (some 24), .mv (.t 167)⟩])
    (.seq (.seq (.reg [⟨none, (some 168), .mv (.t 24)⟩,
      ⟨none, (some 169), .mv (.t 12)⟩,
      ⟨none, (some 170), .bin .eql (.t 169) (.c (.int .i64 0))⟩,
      ⟨none, (some 171), .eqb true (.t 168) (.t 170)⟩,
      ⟨none, (some 172), .mv (.t 171)⟩,
      ⟨(some (172, false)), (some 173), .mv (.t 24)⟩,
      ⟨(some (172, false)), (some 174), .mv (.t 173)⟩,
      ⟨(some (174, true)), (some 175), .load true 2 (.t 10)⟩,
      ⟨(some (174, true)), (some 176), .call 39 [(.t 175)]⟩,
      ⟨(some (174, true)), (some 177), .un .not (.t 176)⟩,
      ⟨(some (174, true)), (some 178), .mv (.t 177)⟩,
      ⟨(some (178, false)), (some 179), .load true 2 (.t 11)⟩,
      ⟨(some (178, false)), (some 180), .call 39 [(.t 179)]⟩,
      ⟨(some (178, false)), (some 181), .un .not (.t 180)⟩,
      ⟨(some (174, true)), (some 182), .pick (.t 178) (.c (.bool true)) (.t 181)⟩,
      ⟨(some (174, true)), (some 183), .mv (.t 182)⟩,
      ⟨(some (183, false)), (some 184), .load true 2 (.t 23)⟩,
      ⟨(some (183, false)), (some 185), .load true 2 (.t 10)⟩,
      ⟨(some (183, false)), (some 186), .call 40 [(.t 184), (.t 185)]⟩,
      ⟨(some (174, true)), (some 187), .pick (.t 183) (.c (.bool true)) (.t 186)⟩,
      ⟨(some (174, true)), (some 188), .mv (.t 187)⟩,
      ⟨(some (188, false)), (some 189), .load true 2 (.t 11)⟩,
      ⟨(some (188, false)), (some 190), .load true 2 (.t 23)⟩,
      ⟨(some (188, false)), (some 191), .call 40 [(.t 189), (.t 190)]⟩,
      ⟨(some (174, true)), (some 192), .pick (.t 188) (.c (.bool true)) (.t 191)⟩,
      ⟨(some (172, false)), (some 193), .pick (.t 174) (.t 192) (.c (.bool false))⟩,
      ⟨none, (some 194), .pick (.t 172) (.c (.bool true)) (.t 193)⟩])
    (.cond (.t 194) (.seq (.reg [⟨none, (some 6), .mv (.c (.bool false))⟩])
    .ret)
    .skip))
    (.seq (.reg [⟨none, (some 195), .load true 7 (.t 3)⟩,
      ⟨none, (some 196), .faddr 0 (.t 5)⟩,
      ⟨none, (some 197), .load false 1 (.t 196)⟩,
      ⟨none, (some 198), .faddr 1 (.t 5)⟩,
      ⟨none, (some 199), .load false 1 (.t 198)⟩,
      ⟨none, (some 200), .mv (.t 1)⟩,
      ⟨none, (some 201), .faddr 0 (.t 5)⟩,
      ⟨none, (some 202), .load false 1 (.t 201)⟩,
      ⟨none, (some 203), .iaddr 2 (.t 200) (.t 202)⟩,
      ⟨none, (some 204), .load true 2 (.t 203)⟩,
      ⟨none, (some 205), .call 41 [(.t 195), (.t 197), (.t 199), (.t 204)]⟩,
      ⟨none, (some 25), .mv (.t 205)⟩])
    (.seq (.seq (.reg [⟨none, (some 206), .mv (.t 13)⟩,
      ⟨none, (some 207), .mv (.t 25)⟩,
      ⟨none, (some 208), .call 42 [(.t 206), (.t 207)]⟩,
      ⟨none, (some 209), .un .not (.t 208)⟩,
      ⟨none, (some 210), .mv (.t 209)⟩,
      ⟨(some (210, false)), (some 211), .mv (.t 15)⟩,
      ⟨(some (210, false)), (some 212), .mv (.t 7)⟩,
      ⟨(some (210, false)), (some 213), .call 42 [(.t 211), (.t 212)]⟩,
      ⟨(some (210, false)), (some 214), .un .not (.t 213)⟩,
      ⟨none, (some 215), .pick (.t 210) (.c (.bool true)) (.t 214)⟩,
      ⟨none, (some 216), .mv (.t 215)⟩,
      ⟨(some (216, false)), (some 217), .mv (.t 17)⟩,
      ⟨(some (216, false)), (some 218), .load true 7 (.t 3)⟩,
      ⟨(some (216, false)), (some 219), .faddr 0 (.t 5)⟩,
      ⟨(some (216, false)), (some 220), .load false 1 (.t 219)⟩,
      ⟨(some (216, false)), (some 221), .mv (.t 1)⟩,
      ⟨(some (216, false)), (some 222), .faddr 0 (.t 5)⟩,
      ⟨(some (216, false)), (some 223), .load false 1 (.t 222)⟩,
      ⟨(some (216, false)), (some 224), .iaddr 2 (.t 221) (.t 223)⟩,
      ⟨(some (216, false)), (some 225), .load true 2 (.t 224)⟩,
      ⟨(some (216, false)), (some 226), .call 43 [(.t 218), (.t 220), (.t 225)]⟩,
      ⟨(some (216, false)), (some 227), .call 42 [(.t 217), (.t 226)]⟩,
      ⟨(some (216, false)), (some 228), .un .not (.t 227)⟩,
      ⟨none, (some 229), .pick (.t 216) (.c (.bool true)) (.t 228)⟩,
      ⟨none, (some 230), .mv (.t 229)⟩,
      ⟨(some (230, false)), (some 231), .mv (.t 19)⟩,
      ⟨(some (230, false)), (some 232), .faddr 5 (.t 3)⟩,
      ⟨(some (230, false)), (some 233), .load false 1 (.t 232)⟩,
      ⟨(some (230, false)), (some 234), .mv (.t 8)⟩,
      ⟨(some (230, false)), (some 235), .bin .add (.t 233) (.t 234)⟩,
      ⟨(some (230, false)), (some 236), .faddr 6 (.t 3)⟩,
      ⟨(some (230, false)), (some 237), .load false 1 (.t 236)⟩,
      ⟨(some (230, false)), (some 238), .bin .leq (.t 235) (.t 237)⟩,
      ⟨(some (230, false)), (some 239), .call 42 [(.t 231), (.t 238)]⟩,
      ⟨(some (230, false)), (some 240), .un .not (.t 239)⟩,
      ⟨none, (some 241), .pick (.t 230) (.c (.bool true)) (.t 240)⟩])
    (.cond (.t 241) (.seq (.reg [⟨none, (some 6), .mv (.c (.bool false))⟩])
    .ret)
    .skip))
    (.seq (.reg [⟨none, (some 243), .load true 7 (.t 3)⟩,
      ⟨none, (some 244), .call 23 [(.t 243)]⟩,
      ⟨none, (some 242), .mv (.t 244)⟩,
      ⟨none, (some 245), .extract 0 (.t 242)⟩,
      ⟨none, (some 246), .extract 1 (.t 242)⟩,
      ⟨none, (some 247), .extract 2 (.t 242)⟩,
      ⟨none, (some 26), .mv (.t 245)⟩,
      ⟨none, (some 27), .mv (.t 246)⟩,
      ⟨none, (some 28), .mv (.t 247)⟩])
    (.seq (.seq (.reg [⟨none, (some 248), .mv (.t 28)⟩,
      ⟨none, (some 249), .bin .eql (.t 248) (.c (.int .i64 0))⟩])
    (.cond (.t 249) (.seq (.reg [⟨none, (some 250), .mv (.t 25)⟩,
      ⟨none, (some 251), .un .not (.t 250)⟩,
      ⟨none, (some 252), .mv (.t 251)⟩,
      ⟨(some (252, false)), (some 253), .faddr 1 (.t 5)⟩,
      ⟨(some (252, false)), (some 254), .load false 1 (.t 253)⟩,
      ⟨(some (252, false)), (some 255), .mv (.t 27)⟩,
      ⟨(some (252, false)), (some 256), .bin .leq (.t 254) (.t 255)⟩,
      ⟨none, (some 257), .pick (.t 252) (.c (.bool true)) (.t 256)⟩,
      ⟨none, (some 258), .mv (.t 257)⟩,
      ⟨(some (258, true)), (some 259), .call 12 []⟩,
      ⟨none, (some 260), .pick (.t 258) (.t 259) (.c (.bool false))⟩,
      ⟨none, (some 6), .mv (.t 260)⟩])
    .ret)
    .skip))
    (.seq (.reg [⟨none, (some 261), .mv (.t 28)⟩,
      ⟨none, (some 262), .bin .eql (.t 261) (.c (.int .i64 3))⟩,
      ⟨none, (some 263), .mv (.t 262)⟩,
      ⟨(some (263, true)), (some 264), .mv (.t 25)⟩,
      ⟨(some (263, true)), (some 265), .un .not (.t 264)⟩,
      ⟨none, (some 266), .pick (.t 263) (.t 265) (.c (.bool false))⟩,
      ⟨none, (some 267), .mv (.t 266)⟩,
      ⟨(some (267, true)), (some 268), .call 12 []⟩,
      ⟨none, (some 269), .pick (.t 267) (.t 268) (.c (.bool false))⟩,
      ⟨none, (some 6), .mv (.t 269)⟩])
    .ret))))))))))))))))))
theorem ok5 : FnOk Try.prog 5 270 5 c5 [.t 6] := ⟨_, _, Try.func5, rfl, rfl, by kernel_rfl, by kernel_rfl⟩
theorem bd5 : bodied Try.prog 5 = true := by kernel_rfl

/-- ferrule/ferrulelaw01.FramesEnds -/
def c6 : CI := (.seq (.reg [⟨none, (some 2), .box 0 true (.t 0)⟩,
      ⟨none, (some 3), .box 1 true (.t 1)⟩,
      ⟨none, (some 4), .mv (.c (.bool false))⟩])
    (.seq (.seq (.reg [⟨none, (some 24), .load true 7 (.t 2)⟩,
      ⟨none, (some 25), .call 34 [(.t 24)]⟩,
      ⟨none, (some 26), .un .not (.t 25)⟩,
      ⟨none, (some 27), .mv (.t 26)⟩,
      ⟨(some (27, false)), (some 28), .load true 7 (.t 2)⟩,
      ⟨(some (27, false)), (some 29), .load true 2 (.t 3)⟩,
      ⟨(some (27, false)), (some 30), .call 35 [(.t 28), (.t 29)]⟩,
      ⟨(some (27, false)), (some 31), .un .not (.t 30)⟩,
      ⟨none, (some 32), .pick (.t 27) (.c (.bool true)) (.t 31)⟩])
    (.cond (.t 32) (.seq (.reg [⟨none, (some 33), .call 12 []⟩,
      ⟨none, (some 4), .mv (.t 33)⟩])
    .ret)
    .skip))
    (.seq (.reg [⟨none, (some 35), .load true 7 (.t 2)⟩,
      ⟨none, (some 36), .faddr 0 (.t 3)⟩,
      ⟨none, (some 37), .load false 1 (.t 36)⟩,
      ⟨none, (some 38), .faddr 1 (.t 3)⟩,
      ⟨none, (some 39), .load false 1 (.t 38)⟩,
      ⟨none, (some 40), .call 18 [(.t 35), (.t 37), (.t 39)]⟩,
      ⟨none, (some 34), .mv (.t 40)⟩,
      ⟨none, (some 41), .extract 0 (.t 34)⟩,
      ⟨none, (some 42), .extract 1 (.t 34)⟩,
      ⟨none, (some 43), .extract 2 (.t 34)⟩,
      ⟨none, (some 5), .alloc 2 [(.int .i64 0), (.int .i64 0)]⟩,
      ⟨none, (some 6), .alloc 3 [(.int .i64 0), (.int .i64 0)]⟩,
      ⟨none, none, .store true 2 (.t 5) (.t 41) []⟩,
      ⟨none, none, .store true 2 (.t 6) (.t 42) []⟩,
      ⟨none, (some 7), .mv (.t 43)⟩])
    (.seq (.reg [⟨none, (some 45), .load true 7 (.t 2)⟩,
      ⟨none, (some 46), .faddr 0 (.t 3)⟩,
      ⟨none, (some 47), .load false 1 (.t 46)⟩,
      ⟨none, (some 48), .faddr 1 (.t 3)⟩,
      ⟨none, (some 49), .load false 1 (.t 48)⟩,
      ⟨none, (some 50), .call 20 [(.t 45), (.t 47), (.t 49)]⟩,
      ⟨none, (some 44), .mv (.t 50)⟩,
      ⟨none, (some 51), .extract 0 (.t 44)⟩,
      ⟨none, (some 52), .extract 1 (.t 44)⟩,
      ⟨none, (some 8), .mv (.t 51)⟩,
      ⟨none, (some 9), .mv (.t 52)⟩])
    (.seq (.reg [⟨none, (some 54), .load true 7 (.t 2)⟩,
      ⟨none, (some 55), .faddr 0 (.t 3)⟩,
      ⟨none, (some 56), .load false 1 (.t 55)⟩,
      ⟨none, (some 57), .faddr 1 (.t 3)⟩,
      ⟨none, (some 58), .load false 1 (.t 57)⟩,
      ⟨none, (some 59), .call 16 [(.t 54), (.t 56), (.t 58)]⟩,
      ⟨none, (some 53), .mv (.t 59)⟩,
      ⟨none, (some 60), .extract 0 (.t 53)⟩,
      ⟨none, (some 61), .extract 1 (.t 53)⟩,
      ⟨none, (some 10), .mv (.t 60)⟩,
      ⟨none, (some 11), .mv (.t 61)⟩])
    (.seq (.seq (.reg [⟨none, (some 62), .mv (.t 9)⟩,
      ⟨none, (some 63), .bin .neq (.t 62) (.c (.int .i64 0))⟩,
      ⟨none, (some 64), .mv (.t 63)⟩,
      ⟨(some (64, false)), (some 65), .mv (.t 11)⟩,
      ⟨(some (64, false)), (some 66), .bin .neq (.t 65) (.c (.int .i64 0))⟩,
      ⟨none, (some 67), .pick (.t 64) (.c (.bool true)) (.t 66)⟩,
      ⟨none, (some 68), .mv (.t 67)⟩,
      ⟨(some (68, false)), (some 69), .mv (.t 7)⟩,
      ⟨(some (68, false)), (some 70), .bin .neq (.t 69) (.c (.int .i64 0))⟩,
      ⟨(some (68, false)), (some 71), .mv (.t 70)⟩,
      ⟨(some (71, true)), (some 72), .mv (.t 7)⟩,
      ⟨(some (71, true)), (some 73), .bin .neq (.t 72) (.c (.int .i64 3))⟩,
      ⟨(some (68, false)), (some 74), .pick (.t 71) (.t 73) (.c (.bool false))⟩,
      ⟨none, (some 75), .pick (.t 68) (.c (.bool true)) (.t 74)⟩,
      ⟨none, (some 76), .mv (.t 75)⟩,
      ⟨(some (76, false)), (some 77), .mv (.t 7)⟩,
      ⟨(some (76, false)), (some 78), .bin .eql (.t 77) (.c (.int .i64 3))⟩,
      ⟨(some (76, false)), (some 79), .mv (.t 10)⟩,
      ⟨(some (76, false)), (some 80), .bin .eql (.t 79) (.c (.int .i64 0))⟩,
      ⟨(some (76, false)), (some 81), .eqb true (.t 78) (.t 80)⟩,
      ⟨none, (some 82), .pick (.t 76) (.c (.bool true)) (.t 81)⟩,
      ⟨none, (some 83), .mv (.t 82)⟩,
      ⟨(some (83, false)), (some 84), .mv (.t 10)⟩,
      ⟨(some (83, false)), (some 85), .bin .lss (.t 84) (.c (.int .i64 0))⟩,
      ⟨none, (some 86), .pick (.t 83) (.c (.bool true)) (.t 85)⟩,
      ⟨none, (some 87), .mv (.t 86)⟩,
      ⟨(some (87, false)), (some 88), .mv (.t 10)⟩,
      ⟨(some (87, false)), (some 89), .bin .gtr (.t 88) (.c (.int .i64 20000))⟩,
      ⟨none, (some 90), .pick (.t 87) (.c (.bool true)) (.t 89)⟩])
    (.cond (.t 90) (.seq (.reg [⟨none, (some 4), .mv (.c (.bool false))⟩])
    .ret)
    .skip))
    (.seq (.reg [⟨none, (some 91), .load true 7 (.t 2)⟩,
      ⟨none, (some 92), .faddr 0 (.t 3)⟩,
      ⟨none, (some 93), .load false 1 (.t 92)⟩,
      ⟨none, (some 94), .callz 4 1 44 [(.t 91), (.t 93)] []⟩,
      ⟨none, (some 12), .mv (.t 94)⟩])
    (.seq (.reg [⟨none, (some 95), .mv (.t 7)⟩,
      ⟨none, (some 96), .bin .neq (.t 95) (.c (.int .i64 0))⟩,
      ⟨none, (some 97), .mv (.t 7)⟩,
      ⟨none, (some 98), .bin .neq (.t 97) (.c (.int .i64 0))⟩,
      ⟨none, (some 13), .mv (.t 96)⟩,
      ⟨none, (some 14), .mv (.t 98)⟩])
    (.seq (.reg [⟨none, (some 15), .mv (.c (.int .i64 0))⟩])
    (.seq (.seq (.reg [⟨none, (some 16), .mv (.c (.int .i64 0))⟩])
    (.block 0 (.loop (.seq (.seq (.reg [⟨none, (some 99), .mv (.t 16)⟩,
      ⟨none, (some 100), .mv (.t 12)⟩,
      ⟨none, (some 101), .len (.t 100)⟩,
      ⟨none, (some 102), .bin .lss (.t 99) (.t 101)⟩])
    (.cond (.t 102) .skip
    (.exit 0)))
    (.seq (.block 1 (.seq (.seq (.reg [⟨none, (some 106), .mv (.t 10)⟩,
      ⟨none, (some 107), .mv (.t 12)⟩,
      ⟨none, (some 108), .mv (.t 16)⟩,
      ⟨none, (some 109), .iaddr 2 (.t 107) (.t 108)⟩,
      ⟨none, (some 110), .load true 2 (.t 109)⟩,
      ⟨none, (some 111), .call 38 [(.t 106), (.t 110)]⟩,
      ⟨none, (some 105), .mv (.t 111)⟩,
      ⟨none, (some 112), .extract 0 (.t 105)⟩,
      ⟨none, (some 113), .extract 1 (.t 105)⟩,
      ⟨none, (some 17), .alloc 5 [(.int .i64 0), (.int .i64 0)]⟩,
      ⟨none, none, .store true 2 (.t 17) (.t 112) []⟩,
      ⟨none, (some 18), .mv (.t 113)⟩])
    (.seq (.reg [⟨none, (some 114), .mv (.t 18)⟩])
    (.cond (.t 114) (.reg [⟨none, (some 115), .mv (.t 13)⟩,
      ⟨none, (some 116), .mv (.t 115)⟩,
      ⟨(some (116, false)), (some 117), .load true 2 (.t 17)⟩,
      ⟨(some (116, false)), (some 118), .load true 2 (.t 5)⟩,
      ⟨(some (116, false)), (some 119), .eqs false (.node [(0, 1, (.leaf true)), (1, 1, (.leaf true))]) (.t 117) (.t 118)⟩,
      ⟨none, (some 120), .pick (.t 116) (.c (.bool true)) (.t 119)⟩,
      ⟨none, (some 121), .mv (.t 14)⟩,
      ⟨none, (some 122), .mv (.t 121)⟩,
      ⟨(some (122, false)), (some 123), .load true 2 (.t 17)⟩,
      ⟨(some (122, false)), (some 124), .load true 2 (.t 6)⟩,
      ⟨(some (122, false)), (some 125), .eqs false (.node [(0, 1, (.leaf true)), (1, 1, (.leaf true))]) (.t 123) (.t 124)⟩,
      ⟨none, (some 126), .pick (.t 122) (.c (.bool true)) (.t 125)⟩,
      ⟨none, (some 13), .mv (.t 120)⟩,
      ⟨none, (some 14), .mv (.t 126)⟩])
    .skip)))
    (.seq (.reg [⟨none, (some 127), .load true 7 (.t 2)⟩,
      ⟨none, (some 128), .faddr 0 (.t 3)⟩,
      ⟨none, (some 129), .load false 1 (.t 128)⟩,
      ⟨none, (some 130), .faddr 1 (.t 3)⟩,
      ⟨none, (some 131), .load false 1 (.t 130)⟩,
      ⟨none, (some 132), .mv (.t 12)⟩,
      ⟨none, (some 133), .mv (.t 16)⟩,
      ⟨none, (some 134), .iaddr 2 (.t 132) (.t 133)⟩,
      ⟨none, (some 135), .load true 2 (.t 134)⟩,
      ⟨none, (some 136), .call 41 [(.t 127), (.t 129), (.t 131), (.t 135)]⟩])
    (.cond (.t 136) (.reg [⟨none, (some 137), .mv (.t 15)⟩,
      ⟨none, (some 138), .bin .add (.t 137) (.c (.int .i64 1))⟩,
      ⟨none, (some 15), .mv (.t 138)⟩])
    .skip))))
    (.reg [⟨none, (some 103), .mv (.t 16)⟩,
      ⟨none, (some 104), .bin .add (.t 103) (.c (.int .i64 1))⟩,
      ⟨none, (some 16), .mv (.t 104)⟩]))))))
    (.seq (.seq (.reg [⟨none, (some 139), .mv (.t 13)⟩,
      ⟨none, (some 140), .un .not (.t 139)⟩,
      ⟨none, (some 141), .mv (.t 140)⟩,
      ⟨(some (141, false)), (some 142), .mv (.t 14)⟩,
      ⟨(some (141, false)), (some 143), .un .not (.t 142)⟩,
      ⟨none, (some 144), .pick (.t 141) (.c (.bool true)) (.t 143)⟩,
      ⟨none, (some 145), .mv (.t 144)⟩,
      ⟨(some (145, false)), (some 146), .mv (.t 8)⟩,
      ⟨(some (145, false)), (some 147), .bin .eql (.t 146) (.c (.int .i64 1))⟩,
      ⟨(some (145, false)), (some 148), .mv (.t 15)⟩,
      ⟨(some (145, false)), (some 149), .mv (.t 12)⟩,
      ⟨(some (145, false)), (some 150), .len (.t 149)⟩,
      ⟨(some (145, false)), (some 151), .bin .eql (.t 148) (.t 150)⟩,
      ⟨(some (145, false)), (some 152), .eqb true (.t 147) (.t 151)⟩,
      ⟨none, (some 153), .pick (.t 145) (.c (.bool true)) (.t 152)⟩,
      ⟨none, (some 154), .mv (.t 153)⟩,
      ⟨(some (154, false)), (some 155), .mv (.t 8)⟩,
      ⟨(some (154, false)), (some 156), .bin .eql (.t 155) (.c (.int .i64 2))⟩,
      ⟨(some (154, false)), (some 157), .mv (.t 15)⟩,
      ⟨(some (154, false)), (some 158), .bin .eql (.t 157) (.c (.int .i64 0))⟩,
      ⟨(some (154, false)), (some 159), .eqb true (.t 156) (.t 158)⟩,
      ⟨none, (some 160), .pick (.t 154) (.c (.bool true)) (.t 159)⟩])
    (.cond (.t 160) (.seq (.reg [⟨none, (some 4), .mv (.c (.bool false))⟩])
    .ret)
    .skip))
    (.seq (.reg [⟨none, (some 162), .load true 7 (.t 2)⟩,
      ⟨none, (some 163), .call 23 [(.t 162)]⟩,
      ⟨none, (some 161), .mv (.t 163)⟩,
      ⟨none, (some 164), .extract 0 (.t 161)⟩,
      ⟨none, (some 165), .extract 1 (.t 161)⟩,
      ⟨none, (some 166), .extract 2 (.t 161)⟩,
      ⟨none, (some 19), .mv (.t 164)⟩,
      ⟨none, (some 20), .mv (.t 165)⟩,
      ⟨none, (some 21), .mv (.t 166)⟩])
    (.seq (.seq (.reg [⟨none, (some 167), .mv (.t 21)⟩,
      ⟨none, (some 168), .bin .neq (.t 167) (.c (.int .i64 0))⟩])
    (.cond (.t 168) (.seq (.reg [⟨none, (some 169), .mv (.t 21)⟩,
      ⟨none, (some 170), .bin .eql (.t 169) (.c (.int .i64 3))⟩,
      ⟨none, (some 171), .mv (.t 170)⟩,
      ⟨(some (171, true)), (some 172), .mv (.t 15)⟩,
      ⟨(some (171, true)), (some 173), .bin .eql (.t 172) (.c (.int .i64 0))⟩,
      ⟨none, (some 174), .pick (.t 171) (.t 173) (.c (.bool false))⟩,
      ⟨none, (some 175), .mv (.t 174)⟩,
      ⟨(some (175, true)), (some 176), .call 12 []⟩,
      ⟨none, (some 177), .pick (.t 175) (.t 176) (.c (.bool false))⟩,
      ⟨none, (some 4), .mv (.t 177)⟩])
    .ret)
    .skip))
    (.seq (.reg [⟨none, (some 179), .load true 7 (.t 2)⟩,
      ⟨none, (some 180), .mv (.t 19)⟩,
      ⟨none, (some 181), .mv (.t 20)⟩,
      ⟨none, (some 182), .call 20 [(.t 179), (.t 180), (.t 181)]⟩,
      ⟨none, (some 178), .mv (.t 182)⟩,
      ⟨none, (some 183), .extract 0 (.t 178)⟩,
      ⟨none, (some 184), .extract 1 (.t 178)⟩,
      ⟨none, (some 22), .mv (.t 183)⟩,
      ⟨none, (some 23), .mv (.t 184)⟩])
    (.seq (.reg [⟨none, (some 185), .mv (.t 23)⟩,
      ⟨none, (some 186), .bin .eql (.t 185) (.c (.int .i64 0))⟩,
      ⟨none, (some 187), .mv (.t 186)⟩,
      ⟨(some (187, true)), (some 188), .mv (.t 22)⟩,
      ⟨(some (187, true)), (some 189), .bin .neq (.t 188) (.c (.int .i64 2))⟩,
      ⟨none, (some 190), .pick (.t 187) (.t 189) (.c (.bool false))⟩,
      ⟨none, (some 191), .mv (.t 190)⟩,
      ⟨(some (191, true)), (some 192), .mv (.t 15)⟩,
      ⟨(some (191, true)), (some 193), .bin .eql (.t 192) (.c (.int .i64 0))⟩,
      ⟨(some (191, true)), (some 194), .mv (.t 193)⟩,
      ⟨(some (194, false)), (some 195), .faddr 1 (.t 3)⟩,
      ⟨(some (194, false)), (some 196), .load false 1 (.t 195)⟩,
      ⟨(some (194, false)), (some 197), .mv (.t 20)⟩,
      ⟨(some (194, false)), (some 198), .bin .lss (.t 196) (.t 197)⟩,
      ⟨(some (191, true)), (some 199), .pick (.t 194) (.c (.bool true)) (.t 198)⟩,
      ⟨(some (191, true)), (some 200), .mv (.t 199)⟩,
      ⟨(some (200, false)), (some 201), .faddr 1 (.t 3)⟩,
      ⟨(some (200, false)), (some 202), .load false 1 (.t 201)⟩,
      ⟨(some (200, false)), (some 203), .mv (.t 20)⟩,
      ⟨(some (200, false)), (some 204), .bin .eql (.t 202) (.t 203)⟩,
      ⟨(some (200, false)), (some 205), .mv (.t 204)⟩,
      ⟨(some (205, true)), (some 206), .mv (.t 19)⟩,
      ⟨(some (205, true)), (some 207), .faddr 0 (.t 3)⟩,
      ⟨(some (205, true)), (some 208), .load false 1 (.t 207)⟩,
      ⟨(some (205, true)), (some 209), .bin .leq (.t 206) (.t 208)⟩,
      ⟨(some (200, false)), (some 210), .pick (.t 205) (.t 209) (.c (.bool false))⟩,
      ⟨(some (191, true)), (some 211), .pick (.t 200) (.c (.bool true)) (.t 210)⟩,
      ⟨none, (some 212), .pick (.t 191) (.t 211) (.c (.bool false))⟩,
      ⟨none, (some 213), .mv (.t 212)⟩,
      ⟨(some (213, true)), (some 214), .call 12 []⟩,
      ⟨none, (some 215), .pick (.t 213) (.t 214) (.c (.bool false))⟩,
      ⟨none, (some 4), .mv (.t 215)⟩])
    .ret)))))))))))))))
theorem ok6 : FnOk Try.prog 6 216 6 c6 [.t 4] := ⟨_, _, Try.func6, rfl, rfl, by kernel_rfl, by kernel_rfl⟩
theorem bd6 : bodied Try.prog 6 = true := by kernel_rfl

/-- ferrule/ferrulelaw01.FramesFiner -/
def c7 : CI := (.seq (.reg [⟨none, (some 3), .box 0 true (.t 0)⟩,
      ⟨none, (some 4), .box 1 true (.t 1)⟩,
      ⟨none, (some 5), .box 2 true (.t 2)⟩,
      ⟨none, (some 6), .mv (.c (.bool false))⟩])
    (.seq (.seq (.reg [⟨none, (some 37), .load true 7 (.t 3)⟩,
      ⟨none, (some 38), .call 34 [(.t 37)]⟩,
      ⟨none, (some 39), .un .not (.t 38)⟩,
      ⟨none, (some 40), .mv (.t 39)⟩,
      ⟨(some (40, false)), (some 41), .load true 7 (.t 3)⟩,
      ⟨(some (40, false)), (some 42), .load true 2 (.t 5)⟩,
      ⟨(some (40, false)), (some 43), .call 35 [(.t 41), (.t 42)]⟩,
      ⟨(some (40, false)), (some 44), .un .not (.t 43)⟩,
      ⟨none, (some 45), .pick (.t 40) (.c (.bool true)) (.t 44)⟩,
      ⟨none, (some 46), .mv (.t 45)⟩,
      ⟨(some (46, false)), (some 47), .load true 7 (.t 3)⟩,
      ⟨(some (46, false)), (some 48), .faddr 0 (.t 4)⟩,
      ⟨(some (46, false)), (some 49), .load false 1 (.t 48)⟩,
      ⟨(some (46, false)), (some 50), .call 45 [(.t 47), (.t 49)]⟩,
      ⟨(some (46, false)), (some 51), .un .not (.t 50)⟩,
      ⟨none, (some 52), .pick (.t 46) (.c (.bool true)) (.t 51)⟩,
      ⟨none, (some 53), .mv (.t 52)⟩,
      ⟨(some (53, false)), (some 54), .faddr 1 (.t 4)⟩,
      ⟨(some (53, false)), (some 55), .load false 1 (.t 54)⟩,
      ⟨(some (53, false)), (some 56), .faddr 2 (.t 4)⟩,
      ⟨(some (53, false)), (some 57), .load false 1 (.t 56)⟩,
      ⟨(some (53, false)), (some 58), .mm false [(.t 55), (.t 57)]⟩,
      ⟨(some (53, false)), (some 59), .faddr 3 (.t 4)⟩,
      ⟨(some (53, false)), (some 60), .load false 1 (.t 59)⟩,
      ⟨(some (53, false)), (some 61), .faddr 4 (.t 4)⟩,
      ⟨(some (53, false)), (some 62), .load false 1 (.t 61)⟩,
      ⟨(some (53, false)), (some 63), .mm false [(.t 60), (.t 62)]⟩,
      ⟨(some (53, false)), (some 64), .mm false [(.t 58), (.t 63)]⟩,
      ⟨(some (53, false)), (some 65), .bin .lss (.t 64) (.c (.int .i64 0))⟩,
      ⟨none, (some 66), .pick (.t 53) (.c (.bool true)) (.t 65)⟩,
      ⟨none, (some 67), .mv (.t 66)⟩,
      ⟨(some (67, false)), (some 68), .faddr 1 (.t 4)⟩,
      ⟨(some (67, false)), (some 69), .load false 1 (.t 68)⟩,
      ⟨(some (67, false)), (some 70), .faddr 2 (.t 4)⟩,
      ⟨(some (67, false)), (some 71), .load false 1 (.t 70)⟩,
      ⟨(some (67, false)), (some 72), .mm true [(.t 69), (.t 71)]⟩,
      ⟨(some (67, false)), (some 73), .faddr 3 (.t 4)⟩,
      ⟨(some (67, false)), (some 74), .load false 1 (.t 73)⟩,
      ⟨(some (67, false)), (some 75), .faddr 4 (.t 4)⟩,
      ⟨(some (67, false)), (some 76), .load false 1 (.t 75)⟩,
      ⟨(some (67, false)), (some 77), .mm true [(.t 74), (.t 76)]⟩,
      ⟨(some (67, false)), (some 78), .mm true [(.t 72), (.t 77)]⟩,
      ⟨(some (67, false)), (some 79), .bin .gtr (.t 78) (.c (.int .i64 6))⟩,
      ⟨none, (some 80), .pick (.t 67) (.c (.bool true)) (.t 79)⟩])
    (.cond (.t 80) (.seq (.reg [⟨none, (some 81), .call 12 []⟩,
      ⟨none, (some 6), .mv (.t 81)⟩])
    .ret)
    .skip))
    (.seq (.reg [⟨none, (some 82), .load true 7 (.t 3)⟩,
      ⟨none, (some 83), .callz 3 1 13 [(.t 82)] []⟩,
      ⟨none, (some 7), .alloc 4 [.nils, (.int .i64 0), (.int .i64 0), (.int .i64 0), (.int .i64 0), (.int .i64 0), (.int .i64 0)]⟩,
      ⟨none, none, .store true 7 (.t 7) (.t 83) []⟩])
    (.seq (.reg [⟨none, (some 84), .faddr 0 (.t 7)⟩,
      ⟨none, (some 85), .load false 1 (.t 84)⟩,
      ⟨none, (some 86), .faddr 0 (.t 4)⟩,
      ⟨none, (some 87), .load false 1 (.t 86)⟩,
      ⟨none, (some 88), .iaddr 7 (.t 85) (.t 87)⟩,
      ⟨none, (some 89), .load true 7 (.t 88)⟩,
      ⟨none, (some 8), .alloc 5 [(.int .i64 0), (.int .i64 0), (.int .i64 0), (.int .i64 0), (.int .i64 0), (.int .i64 0), (.int .i64 0)]⟩,
      ⟨none, none, .store true 7 (.t 8) (.t 89) []⟩])
    (.seq (.reg [⟨none, (some 90), .faddr 0 (.t 8)⟩,
      ⟨none, (some 91), .faddr 0 (.t 90)⟩,
      ⟨none, (some 92), .load false 1 (.t 91)⟩,
      ⟨none, (some 93), .faddr 1 (.t 4)⟩,
      ⟨none, (some 94), .load false 1 (.t 93)⟩,
      ⟨none, (some 95), .bin .add (.t 92) (.t 94)⟩,
      ⟨none, (some 96), .faddr 0 (.t 8)⟩,
      ⟨none, (some 97), .faddr 1 (.t 96)⟩,
      ⟨none, (some 98), .load false 1 (.t 97)⟩,
      ⟨none, (some 99), .faddr 2 (.t 4)⟩,
      ⟨none, (some 100), .load false 1 (.t 99)⟩,
      ⟨none, (some 101), .bin .sub (.t 98) (.t 100)⟩,
      ⟨none, (some 102), .build [(.int .i64 0), (.int .i64 0)] [(0, 1, (.t 95)), (1, 1, (.t 101))]⟩,
      ⟨none, (some 103), .faddr 0 (.t 8)⟩,
      ⟨none, none, .store true 2 (.t 103) (.t 102) []⟩])
    (.seq (.reg [⟨none, (some 104), .faddr 2 (.t 8)⟩,
      ⟨none, (some 105), .faddr 0 (.t 104)⟩,
      ⟨none, (some 106), .load false 1 (.t 105)⟩,
      ⟨none, (some 107), .faddr 3 (.t 4)⟩,
      ⟨none, (some 108), .load false 1 (.t 107)⟩,
      ⟨none, (some 109), .bin .add (.t 106) (.t 108)⟩,
      ⟨none, (some 110), .faddr 2 (.t 8)⟩,
      ⟨none, (some 111), .faddr 1 (.t 110)⟩,
      ⟨none, (some 112), .load false 1 (.t 111)⟩,
      ⟨none, (some 113), .faddr 4 (.t 4)⟩,
      ⟨none, (some 114), .load false 1 (.t 113)⟩,
      ⟨none, (some 115), .bin .sub (.t 112) (.t 114)⟩,
      ⟨none, (some 116), .build [(.int .i64 0), (.int .i64 0)] [(0, 1, (.t 109)), (1, 1, (.t 115))]⟩,
      ⟨none, (some 117), .faddr 2 (.t 8)⟩,
      ⟨none, none, .store true 2 (.t 117) (.t 116) []⟩])
    (.seq (.reg [⟨none, (some 118), .faddr 0 (.t 7)⟩,
      ⟨none, (some 119), .load false 1 (.t 118)⟩,
      ⟨none, (some 120), .faddr 0 (.t 4)⟩,
      ⟨none, (some 121), .load false 1 (.t 120)⟩,
      ⟨none, (some 122), .load true 7 (.t 8)⟩,
      ⟨none, (some 123), .iaddr 7 (.t 119) (.t 121)⟩,
      ⟨none, none, .store true 7 (.t 123) (.t 122) []⟩])
    (.seq (.seq (.reg [⟨none, (some 124), .load true 7 (.t 7)⟩,
      ⟨none, (some 125), .call 34 [(.t 124)]⟩,
      ⟨none, (some 126), .un .not (.t 125)⟩])
    (.cond (.t 126) (.seq (.reg [⟨none, (some 127), .call 12 []⟩,
      ⟨none, (some 6), .mv (.t 127)⟩])
    .ret)
    .skip))
    (.seq (.reg [⟨none, (some 129), .load true 7 (.t 3)⟩,
      ⟨none, (some 130), .faddr 0 (.t 5)⟩,
      ⟨none, (some 131), .load false 1 (.t 130)⟩,
      ⟨none, (some 132), .faddr 1 (.t 5)⟩,
      ⟨none, (some 133), .load false 1 (.t 132)⟩,
      ⟨none, (some 134), .call 18 [(.t 129), (.t 131), (.t 133)]⟩,
      ⟨none, (some 128), .mv (.t 134)⟩,
      ⟨none, (some 135), .extract 0 (.t 128)⟩,
      ⟨none, (some 136), .extract 1 (.t 128)⟩,
      ⟨none, (some 137), .extract 2 (.t 128)⟩,
      ⟨none, (some 9), .alloc 6 [(.int .i64 0), (.int .i64 0)]⟩,
      ⟨none, (some 10), .alloc 7 [(.int .i64 0), (.int .i64 0)]⟩,
      ⟨none, none, .store true 2 (.t 9) (.t 135) []⟩,
      ⟨none, none, .store true 2 (.t 10) (.t 136) []⟩,
      ⟨none, (some 11), .mv (.t 137)⟩])
    (.seq (.reg [⟨none, (some 139), .load true 7 (.t 7)⟩,
      ⟨none, (some 140), .faddr 0 (.t 5)⟩,
      ⟨none, (some 141), .load false 1 (.t 140)⟩,
      ⟨none, (some 142), .faddr 1 (.t 5)⟩,
      ⟨none, (some 143), .load false 1 (.t 142)⟩,
      ⟨none, (some 144), .call 18 [(.t 139), (.t 141), (.t 143)]⟩,
      ⟨none, (some 138), .mv (.t 144)⟩,
      ⟨none, (some 145), .extract 0 (.t 138)⟩,
      ⟨none, (some 146), .extract 1 (.t 138)⟩,
      ⟨none, (some 147), .extract 2 (.t 138)⟩,
      ⟨none, (some 12), .alloc 8 [(.int .i64 0), (.int .i64 0)]⟩,
      ⟨none, (some 13), .alloc 9 [(.int .i64 0), (.int .i64 0)]⟩,
      ⟨none, none, .store true 2 (.t 12) (.t 145) []⟩,
      ⟨none, none, .store true 2 (.t 13) (.t 146) []⟩,
      ⟨none, (some 14), .mv (.t 147)⟩])
    (.seq (.seq (.reg [⟨none, (some 148), .mv (.t 11)⟩,
      ⟨none, (some 149), .mv (.t 14)⟩,
      ⟨none, (some 150), .bin .neq (.t 148) (.t 149)⟩,
      ⟨none, (some 151), .mv (.t 150)⟩,
      ⟨(some (151, false)), (some 152), .mv (.t 11)⟩,
      ⟨(some (151, false)), (some 153), .bin .neq (.t 152) (.c (.int .i64 0))⟩,
      ⟨(some (151, false)), (some 154), .mv (.t 153)⟩,
      ⟨(some (154, true)), (some 155), .mv (.t 11)⟩,
      ⟨(some (154, true)), (some 156), .bin .neq (.t 155) (.c (.int .i64 3))⟩,
      ⟨(some (151, false)), (some 157), .pick (.t 154) (.t 156) (.c (.bool false))⟩,
      ⟨none, (some 158), .pick (.t 151) (.c (.bool true)) (.t 157)⟩,
      ⟨none, (some 159), .mv (.t 158)⟩,
      ⟨(some (159, false)), (some 160), .mv (.t 11)⟩,
      ⟨(some (159, false)), (some 161), .bin .eql (.t 160) (.c (.int .i64 0))⟩,
      ⟨(some (159, false)), (some 162), .mv (.t 161)⟩,
      ⟨(some (162, true)), (some 163), .load true 2 (.t 9)⟩,
      ⟨(some (162, true)), (some 164), .call 39 [(.t 163)]⟩,
      ⟨(some (162, true)), (some 165), .un .not (.t 164)⟩,
      ⟨(some (162, true)), (some 166), .mv (.t 165)⟩,
      ⟨(some (166, false)), (some 167), .load true 2 (.t 10)⟩,
      ⟨(some (166, false)), (some 168), .call 39 [(.t 167)]⟩,
      ⟨(some (166, false)), (some 169), .un .not (.t 168)⟩,
      ⟨(some (162, true)), (some 170), .pick (.t 166) (.c (.bool true)) (.t 169)⟩,
      ⟨(some (162, true)), (some 171), .mv (.t 170)⟩,
      ⟨(some (171, false)), (some 172), .load true 2 (.t 12)⟩,
      ⟨(some (171, false)), (some 173), .call 39 [(.t 172)]⟩,
      ⟨(some (171, false)), (some 174), .un .not (.t 173)⟩,
      ⟨(some (162, true)), (some 175), .pick (.t 171) (.c (.bool true)) (.t 174)⟩,
      ⟨(some (162, true)), (some 176), .mv (.t 175)⟩,
      ⟨(some (176, false)), (some 177), .load true 2 (.t 13)⟩,
      ⟨(some (176, false)), (some 178), .call 39 [(.t 177)]⟩,
      ⟨(some (176, false)), (some 179), .un .not (.t 178)⟩,
      ⟨(some (162, true)), (some 180), .pick (.t 176) (.c (.bool true)) (.t 179)⟩,
      ⟨(some (162, true)), (some 181), .mv (.t 180)⟩,
      ⟨(some (181, false)), (some 182), .load true 2 (.t 12)⟩,
      ⟨(some (181, false)), (some 183), .load true 2 (.t 9)⟩,
      ⟨(some (181, false)), (some 184), .call 40 [(.t 182), (.t 183)]⟩,
      ⟨(some (162, true)), (some 185), .pick (.t 181) (.c (.bool true)) (.t 184)⟩,
      ⟨(some (162, true)), (some 186), .mv (.t 185)⟩,
      ⟨(some (186, false)), (some 187), .load true 2 (.t 10)⟩,
      ⟨(some (186, false)), (some 188), .load true 2 (.t 13)⟩,
      ⟨(some (186, false)), (some 189), .call 40 [(.t 187), (.t 188)]⟩,
      ⟨(some (162, true)), (some 190), .pick (.t 186) (.c (.bool true)) (.t 189)⟩,
      ⟨(some (159, false)), (some 191), .pick (.t 162) (.t 190) (.c (.bool false))⟩,
      ⟨none, (some 192), .pick (.t 159) (.c (.bool true)) (.t 191)⟩])
    (.cond (.t 192) (.seq (.reg [⟨none, (some 6), .mv (.c (.bool false))⟩])
    .ret)
    .skip))
    (.seq (.reg [⟨none, (some 194), .load true 7 (.t 3)⟩,
      ⟨none, (some 195), .faddr 0 (.t 5)⟩,
      ⟨none, (some 196), .load false 1 (.t 195)⟩,
      ⟨none, (some 197), .faddr 1 (.t 5)⟩,
      ⟨none, (some 198), .load false 1 (.t 197)⟩,
      ⟨none, (some 199), .call 20 [(.t 194), (.t 196), (.t 198)]⟩,
      ⟨none, (some 193), .mv (.t 199)⟩,
      ⟨none, (some 200), .extract 0 (.t 193)⟩,
      ⟨none, (some 201), .extract 1 (.t 193)⟩,
      ⟨none, (some 15), .mv (.t 200)⟩,
      ⟨none, (some 16), .mv (.t 201)⟩])
    (.seq (.reg [⟨none, (some 203), .load true 7 (.t 7)⟩,
      ⟨none, (some 204), .faddr 0 (.t 5)⟩,
      ⟨none, (some 205), .load false 1 (.t 204)⟩,
      ⟨none, (some 206), .faddr 1 (.t 5)⟩,
      ⟨none, (some 207), .load false 1 (.t 206)⟩,
      ⟨none, (some 208), .call 20 [(.t 203), (.t 205), (.t 207)]⟩,
      ⟨none, (some 202), .mv (.t 208)⟩,
      ⟨none, (some 209), .extract 0 (.t 202)⟩,
      ⟨none, (some 210), .extract 1 (.t 202)⟩,
      ⟨none, (some 17), .mv (.t 209)⟩,
      ⟨none, (some 18), .mv (.t 210)⟩])
    (.seq (.reg [⟨none, (some 212), .load true 7 (.t 3)⟩,
      ⟨none, (some 213), .call 25 [(.t 212)]⟩,
      ⟨none, (some 211), .mv (.t 213)⟩,
      ⟨none, (some 214), .extract 0 (.t 211)⟩,
      ⟨none, (some 215), .extract 1 (.t 211)⟩,
      ⟨none, (some 19), .mv (.t 214)⟩,
      ⟨none, (some 20), .mv (.t 215)⟩])
    (.seq (.reg [⟨none, (some 217), .load true 7 (.t 7)⟩,
      ⟨none, (some 218), .call 25 [(.t 217)]⟩,
      ⟨none, (some 216), .mv (.t 218)⟩,
      ⟨none, (some 219), .extract 0 (.t 216)⟩,
      ⟨none, (some 220), .extract 1 (.t 216)⟩,
      ⟨none, (some 21), .mv (.t 219)⟩,
      ⟨none, (some 22), .mv (.t 220)⟩])
    (.seq (.reg [⟨none, (some 222), .load true 7 (.t 3)⟩,
      ⟨none, (some 223), .faddr 0 (.t 5)⟩,
      ⟨none, (some 224), .load false 1 (.t 223)⟩,
      ⟨none, (some 225), .call 27 [(.t 222), (.t 224)]⟩,
      ⟨none, (some 221), .mv (.t 225)⟩,
      ⟨none, (some 226), .extract 0 (.t 221)⟩,
      ⟨none, (some 227), .extract 1 (.t 221)⟩,
      ⟨none, (some 23), .mv (.t 226)⟩,
      ⟨none, (some 24), .mv (.t 227)⟩])
    (.seq (.reg [⟨none, (some 229), .load true 7 (.t 7)⟩,
      ⟨none, (some 230), .faddr 0 (.t 5)⟩,
      ⟨none, (some 231), .load false 1 (.t 230)⟩,
      ⟨none, (some 232), .call 27 [(.t 229), (.t 231)]⟩,
      ⟨none, (some 228), .mv (.t 232)⟩,
      ⟨none, (some 233), .extract 0 (.t 228)⟩,
      ⟨none, (some 234), .extract 1 (.t 228)⟩,
      ⟨none, (some 25), .mv (.t 233)⟩,
      ⟨none, (some 26), .mv (.t 234)⟩])
    (.seq (.reg [⟨none, (some 236), .load true 7 (.t 3)⟩,
      ⟨none, (some 237), .call 31 [(.t 236)]⟩,
      ⟨none, (some 235), .mv (.t 237)⟩,
      ⟨none, (some 238), .extract 0 (.t 235)⟩,
      ⟨none, (some 239), .extract 1 (.t 235)⟩,
      ⟨none, (some 27), .mv (.t 238)⟩,
      ⟨none, (some 28), .mv (.t 239)⟩])
    (.seq (.reg [⟨none, (some 241), .load true 7 (.t 7)⟩,
      ⟨none, (some 242), .call 31 [(.t 241)]⟩,
      ⟨none, (some 240), .mv (.t 242)⟩,
      ⟨none, (some 243), .extract 0 (.t 240)⟩,
      ⟨none, (some 244), .extract 1 (.t 240)⟩,
      ⟨none, (some 29), .mv (.t 243)⟩,
      ⟨none, (some 30), .mv (.t 244)⟩])
    (.seq (.seq (.reg [⟨none, (some 245), .mv (.t 16)⟩,
      ⟨none, (some 246), .bin .neq (.t 245) (.c (.int .i64 0))⟩,
      ⟨none, (some 247), .mv (.t 246)⟩,
      ⟨(some (247, false)), (some 248), .mv (.t 18)⟩,
      ⟨(some (247, false)), (some 249), .bin .neq (.t 248) (.c (.int .i64 0))⟩,
      ⟨none, (some 250), .pick (.t 247) (.c (.bool true)) (.t 249)⟩,
      ⟨none, (some 251), .mv (.t 250)⟩,
      ⟨(some (251, false)), (some 252), .mv (.t 20)⟩,
      ⟨(some (251, false)), (some 253), .bin .neq (.t 252) (.c (.int .i64 0))⟩,
      ⟨none, (some 254), .pick (.t 251) (.c (.bool true)) (.t 253)⟩,
      ⟨none, (some 255), .mv (.t 254)⟩,
      ⟨(some (255, false)), (some 256), .mv (.t 22)⟩,
      ⟨(some (255, false)), (some 257), .bin .neq (.t 256) (.c (.int .i64 0))⟩,
      ⟨none, (some 258), .pick (.t 255) (.c (.bool true)) (.t 257)⟩,
      ⟨none, (some 259), .mv (.t 258)⟩,
      ⟨(some (259, false)), (some 260), .mv (.t 24)⟩,
      ⟨(some (259, false)), (some 261), .bin .neq (.t 260) (.c (.int .i64 0))⟩,
      ⟨none, (some 262), .pick (.t 259) (.c (.bool true)) (.t 261)⟩,
      ⟨none, (some 263), .mv (.t 262)⟩,
      ⟨(some (263, false)), (some 264), .mv (.t 26)⟩,
      ⟨(some (263, false)), (some 265), .bin .neq (.t 264) (.c (.int .i64 0))⟩,
      ⟨none, (some 266), .pick (.t 263) (.c (.bool true)) (.t 265)⟩,
      ⟨none, (some 267), .mv (.t 266)⟩,
      ⟨(some (267, false)), (some 268), .mv (.t 28)⟩,
      ⟨(some (267, false)), (some 269), .bin .neq (.t 268) (.c (.int .i64 0))⟩,
      ⟨none, (some 270), .pick (.t 267) (.c (.bool true)) (.t 269)⟩,
      ⟨none, (some 271), .mv (.t 270)⟩,
      ⟨(some (271, false)), (some 272), .mv (.t 30)⟩,
      ⟨(some (271, false)), (some 273), .bin .neq (.t 272) (.c (.int .i64 0))⟩,
      ⟨none, (some 274), .pick (.t 271) (.c (.bool true)) (.t 273)⟩,
      ⟨none, (some 275), .mv (.t 274)⟩,
      ⟨(some (275, false)), (some 276), .mv (.t 15)⟩,
      ⟨(some (275, false)), (some 277), .bin .neq (.t 276) (.c (.int .i64 3))⟩,
      ⟨(some (275, false)), (some 278), .mv (.t 277)⟩,
      ⟨(some (278, true)), (some 279), .mv (.t 15)⟩,
      ⟨(some (278, true)), (some 280), .mv (.t 17)⟩,
      ⟨(some (278, true)), (some 281), .bin .neq (.t 279) (.t 280)⟩,
      ⟨(some (275, false)), (some 282), .pick (.t 278) (.t 281) (.c (.bool false))⟩,
      ⟨none, (some 283), .pick (.t 275) (.c (.bool true)) (.t 282)⟩,
      ⟨none, (some 284), .mv (.t 283)⟩,
      ⟨(some (284, false)), (some 285), .mv (.t 19)⟩,
      ⟨(some (284, false)), (some 286), .bin .neq (.t 285) (.c (.int .i64 3))⟩,
      ⟨(some (284, false)), (some 287), .mv (.t 286)⟩,
      ⟨(some (287, true)), (some 288), .mv (.t 19)⟩,
      ⟨(some (287, true)), (some 289), .mv (.t 21)⟩,
      ⟨(some (287, true)), (some 290), .bin .neq (.t 288) (.t 289)⟩,
      ⟨(some (284, false)), (some 291), .pick (.t 287) (.t 290) (.c (.bool false))⟩,
      ⟨none, (some 292), .pick (.t 284) (.c (.bool true)) (.t 291)⟩,
      ⟨none, (some 293), .mv (.t 292)⟩,
      ⟨(some (293, false)), (some 294), .mv (.t 23)⟩,
      ⟨(some (293, false)), (some 295), .bin .neq (.t 294) (.c (.int .i64 3))⟩,
      ⟨(some (293, false)), (some 296), .mv (.t 295)⟩,
      ⟨(some (296, true)), (some 297), .mv (.t 23)⟩,
      ⟨(some (296, true)), (some 298), .mv (.t 25)⟩,
      ⟨(some (296, true)), (some 299), .bin .neq (.t 297) (.t 298)⟩,
      ⟨(some (293, false)), (some 300), .pick (.t 296) (.t 299) (.c (.bool false))⟩,
      ⟨none, (some 301), .pick (.t 293) (.c (.bool true)) (.t 300)⟩,
      ⟨none, (some 302), .mv (.t 301)⟩,
      ⟨(some (302, false)), (some 303), .mv (.t 27)⟩,
      ⟨(some (302, false)), (some 304), .bin .neq (.t 303) (.c (.int .i64 3))⟩,
      ⟨(some (302, false)), (some 305), .mv (.t 304)⟩,
      ⟨(some (305, true)), (some 306), .mv (.t 27)⟩,
      ⟨(some (305, true)), (some 307), .mv (.t 29)⟩,
      ⟨(some (305, true)), (some 308), .bin .neq (.t 306) (.t 307)⟩,
      ⟨(some (302, false)), (some 309), .pick (.t 305) (.t 308) (.c (.bool false))⟩,
      ⟨none, (some 310), .pick (.t 302) (.c (.bool true)) (.t 309)⟩])
    (.cond (.t 310) (.seq (.reg [⟨none, (some 6), .mv (.c (.bool false))⟩])
    .ret)
    .skip))
    (.seq (.reg [⟨none, (some 312), .load true 7 (.t 3)⟩,
      ⟨none, (some 313), .call 23 [(.t 312)]⟩,
      ⟨none, (some 311), .mv (.t 313)⟩,
      ⟨none, (some 314), .extract 0 (.t 311)⟩,
      ⟨none, (some 315), .extract 1 (.t 311)⟩,
      ⟨none, (some 316), .extract 2 (.t 311)⟩,
      ⟨none, (some 31), .mv (.t 314)⟩,
      ⟨none, (some 32), .mv (.t 315)⟩,
      ⟨none, (some 33), .mv (.t 316)⟩])
    (.seq (.reg [⟨none, (some 318), .load true 7 (.t 7)⟩,
      ⟨none, (some 319), .call 23 [(.t 318)]⟩,
      ⟨none, (some 317), .mv (.t 319)⟩,
      ⟨none, (some 320), .extract 0 (.t 317)⟩,
      ⟨none, (some 321), .extract 1 (.t 317)⟩,
      ⟨none, (some 322), .extract 2 (.t 317)⟩,
      ⟨none, (some 34), .mv (.t 320)⟩,
      ⟨none, (some 35), .mv (.t 321)⟩,
      ⟨none, (some 36), .mv (.t 322)⟩])
    (.seq (.reg [⟨none, (some 323), .mv (.t 36)⟩,
      ⟨none, (some 324), .bin .neq (.t 323) (.c (.int .i64 0))⟩,
      ⟨none, (some 325), .mv (.t 324)⟩,
      ⟨(some (325, false)), (some 326), .mv (.t 33)⟩,
      ⟨(some (325, false)), (some 327), .bin .eql (.t 326) (.c (.int .i64 0))⟩,
      ⟨(some (325, false)), (some 328), .mv (.t 327)⟩,
      ⟨(some (328, true)), (some 329), .mv (.t 35)⟩,
      ⟨(some (328, true)), (some 330), .mv (.t 32)⟩,
      ⟨(some (328, true)), (some 331), .bin .leq (.t 329) (.t 330)⟩,
      ⟨(some (325, false)), (some 332), .pick (.t 328) (.t 331) (.c (.bool false))⟩,
      ⟨none, (some 333), .pick (.t 325) (.c (.bool true)) (.t 332)⟩,
      ⟨none, (some 334), .mv (.t 333)⟩,
      ⟨(some (334, true)), (some 335), .call 12 []⟩,
      ⟨none, (some 336), .pick (.t 334) (.t 335) (.c (.bool false))⟩,
      ⟨none, (some 6), .mv (.t 336)⟩])
    .ret)))))))))))))))))))))))
theorem ok7 : FnOk Try.prog 7 337 10 c7 [.t 6] := ⟨_, _, Try.func7, rfl, rfl, by kernel_rfl, by kernel_rfl⟩
theorem bd7 : bodied Try.prog 7 = true := by kernel_rfl

/-- ferrule/ferrulelaw01.FramesEase -/
def c8 : CI := (.seq (.reg [⟨none, (some 3), .box 0 true (.t 0)⟩,
      ⟨none, (some 4), .box 1 true (.t 1)⟩,
      ⟨none, (some 5), .box 2 true (.t 2)⟩,
      ⟨none, (some 6), .mv (.c (.bool false))⟩])
    (.seq (.reg [⟨none, (some 22), .load true 7 (.t 3)⟩,
      ⟨none, (some 7), .alloc 3 [.nils, (.int .i64 0), (.int .i64 0), (.int .i64 0), (.int .i64 0), (.int .i64 0), (.int .i64 0)]⟩,
      ⟨none, none, .store true 7 (.t 7) (.t 22) []⟩])
    (.seq (.reg [⟨none, (some 23), .load true 2 (.t 4)⟩,
      ⟨none, (some 24), .faddr 3 (.t 7)⟩,
      ⟨none, none, .store true 2 (.t 24) (.t 23) []⟩])
    (.seq (.seq (.reg [⟨none, (some 25), .load true 7 (.t 3)⟩,
      ⟨none, (some 26), .call 34 [(.t 25)]⟩,
      ⟨none, (some 27), .un .not (.t 26)⟩,
      ⟨none, (some 28), .mv (.t 27)⟩,
      ⟨(some (28, false)), (some 29), .load true 7 (.t 7)⟩,
      ⟨(some (28, false)), (some 30), .call 34 [(.t 29)]⟩,
      ⟨(some (28, false)), (some 31), .un .not (.t 30)⟩,
      ⟨none, (some 32), .pick (.t 28) (.c (.bool true)) (.t 31)⟩,
      ⟨none, (some 33), .mv (.t 32)⟩,
      ⟨(some (33, false)), (some 34), .load true 7 (.t 3)⟩,
      ⟨(some (33, false)), (some 35), .load true 2 (.t 5)⟩,
      ⟨(some (33, false)), (some 36), .call 35 [(.t 34), (.t 35)]⟩,
      ⟨(some (33, false)), (some 37), .un .not (.t 36)⟩,
      ⟨none, (some 38), .pick (.t 33) (.c (.bool true)) (.t 37)⟩,
      ⟨none, (some 39), .mv (.t 38)⟩,
      ⟨(some (39, false)), (some 40), .load true 2 (.t 4)⟩,
      ⟨(some (39, false)), (some 41), .faddr 3 (.t 3)⟩,
      ⟨(some (39, false)), (some 42), .load true 2 (.t 41)⟩,
      ⟨(some (39, false)), (some 43), .call 40 [(.t 40), (.t 42)]⟩,
      ⟨none, (some 44), .pick (.t 39) (.c (.bool true)) (.t 43)⟩])
    (.cond (.t 44) (.seq (.reg [⟨none, (some 45), .call 12 []⟩,
      ⟨none, (some 6), .mv (.t 45)⟩])
    .ret)
    .skip))
    (.seq (.reg [⟨none, (some 47), .load true 7 (.t 3)⟩,
      ⟨none, (some 48), .faddr 0 (.t 5)⟩,
      ⟨none, (some 49), .load false 1 (.t 48)⟩,
      ⟨none, (some 50), .faddr 1 (.t 5)⟩,
      ⟨none, (some 51), .load false 1 (.t 50)⟩,
      ⟨none, (some 52), .call 20 [(.t 47), (.t 49), (.t 51)]⟩,
      ⟨none, (some 46), .mv (.t 52)⟩,
      ⟨none, (some 53), .extract 0 (.t 46)⟩,
      ⟨none, (some 54), .extract 1 (.t 46)⟩,
      ⟨none, (some 8), .mv (.t 53)⟩,
      ⟨none, (some 9), .mv (.t 54)⟩])
    (.seq (.reg [⟨none, (some 56), .load true 7 (.t 7)⟩,
      ⟨none, (some 57), .faddr 0 (.t 5)⟩,
      ⟨none, (some 58), .load false 1 (.t 57)⟩,
      ⟨none, (some 59), .faddr 1 (.t 5)⟩,
      ⟨none, (some 60), .load false 1 (.t 59)⟩,
      ⟨none, (some 61), .call 20 [(.t 56), (.t 58), (.t 60)]⟩,
      ⟨none, (some 55), .mv (.t 61)⟩,
      ⟨none, (some 62), .extract 0 (.t 55)⟩,
      ⟨none, (some 63), .extract 1 (.t 55)⟩,
      ⟨none, (some 10), .mv (.t 62)⟩,
      ⟨none, (some 11), .mv (.t 63)⟩])
    (.seq (.reg [⟨none, (some 65), .load true 7 (.t 3)⟩,
      ⟨none, (some 66), .call 25 [(.t 65)]⟩,
      ⟨none, (some 64), .mv (.t 66)⟩,
      ⟨none, (some 67), .extract 0 (.t 64)⟩,
      ⟨none, (some 68), .extract 1 (.t 64)⟩,
      ⟨none, (some 12), .mv (.t 67)⟩,
      ⟨none, (some 13), .mv (.t 68)⟩])
    (.seq (.reg [⟨none, (some 70), .load true 7 (.t 7)⟩,
      ⟨none, (some 71), .call 25 [(.t 70)]⟩,
      ⟨none, (some 69), .mv (.t 71)⟩,
      ⟨none, (some 72), .extract 0 (.t 69)⟩,
      ⟨none, (some 73), .extract 1 (.t 69)⟩,
      ⟨none, (some 14), .mv (.t 72)⟩,
      ⟨none, (some 15), .mv (.t 73)⟩])
    (.seq (.reg [⟨none, (some 75), .load true 7 (.t 3)⟩,
      ⟨none, (some 76), .call 23 [(.t 75)]⟩,
      ⟨none, (some 74), .mv (.t 76)⟩,
      ⟨none, (some 77), .extract 0 (.t 74)⟩,
      ⟨none, (some 78), .extract 1 (.t 74)⟩,
      ⟨none, (some 79), .extract 2 (.t 74)⟩,
      ⟨none, (some 16), .mv (.t 77)⟩,
      ⟨none, (some 17), .mv (.t 78)⟩,
      ⟨none, (some 18), .mv (.t 79)⟩])
    (.seq (.reg [⟨none, (some 81), .load true 7 (.t 7)⟩,
      ⟨none, (some 82), .call 23 [(.t 81)]⟩,
      ⟨none, (some 80), .mv (.t 82)⟩,
      ⟨none, (some 83), .extract 0 (.t 80)⟩,
      ⟨none, (some 84), .extract 1 (.t 80)⟩,
      ⟨none, (some 85), .extract 2 (.t 80)⟩,
      ⟨none, (some 19), .mv (.t 83)⟩,
      ⟨none, (some 20), .mv (.t 84)⟩,
      ⟨none, (some 21), .mv (.t 85)⟩])
    (.seq (.seq (.reg [⟨none, (some 86), .mv (.t 9)⟩,
      ⟨none, (some 87), .bin .neq (.t 86) (.c (.int .i64 0))⟩,
      ⟨none, (some 88), .mv (.t 87)⟩,
      ⟨(some (88, false)), (some 89), .mv (.t 11)⟩,
      ⟨(some (88, false)), (some 90), .bin .neq (.t 89) (.c (.int .i64 0))⟩,
      ⟨none, (some 91), .pick (.t 88) (.c (.bool true)) (.t 90)⟩,
      ⟨none, (some 92), .mv (.t 91)⟩,
      ⟨(some (92, false)), (some 93), .mv (.t 13)⟩,
      ⟨(some (92, false)), (some 94), .bin .neq (.t 93) (.c (.int .i64 0))⟩,
      ⟨none, (some 95), .pick (.t 92) (.c (.bool true)) (.t 94)⟩,
      ⟨none, (some 96), .mv (.t 95)⟩,
      ⟨(some (96, false)), (some 97), .mv (.t 15)⟩,
      ⟨(some (96, false)), (some 98), .bin .neq (.t 97) (.c (.int .i64 0))⟩,
      ⟨none, (some 99), .pick (.t 96) (.c (.bool true)) (.t 98)⟩,
      ⟨none, (some 100), .mv (.t 99)⟩,
      ⟨(some (100, false)), (some 101), .mv (.t 8)⟩,
      ⟨(some (100, false)), (some 102), .bin .eql (.t 101) (.c (.int .i64 1))⟩,
      ⟨(some (100, false)), (some 103), .mv (.t 102)⟩,
      ⟨(some (103, true)), (some 104), .mv (.t 10)⟩,
      ⟨(some (103, true)), (some 105), .bin .neq (.t 104) (.c (.int .i64 1))⟩,
      ⟨(some (100, false)), (some 106), .pick (.t 103) (.t 105) (.c (.bool false))⟩,
      ⟨none, (some 107), .pick (.t 100) (.c (.bool true)) (.t 106)⟩,
      ⟨none, (some 108), .mv (.t 107)⟩,
      ⟨(some (108, false)), (some 109), .mv (.t 10)⟩,
      ⟨(some (108, false)), (some 110), .bin .eql (.t 109) (.c (.int .i64 2))⟩,
      ⟨(some (108, false)), (some 111), .mv (.t 110)⟩,
      ⟨(some (111, true)), (some 112), .mv (.t 8)⟩,
      ⟨(some (111, true)), (some 113), .bin .neq (.t 112) (.c (.int .i64 2))⟩,
      ⟨(some (108, false)), (some 114), .pick (.t 111) (.t 113) (.c (.bool false))⟩,
      ⟨none, (some 115), .pick (.t 108) (.c (.bool true)) (.t 114)⟩,
      ⟨none, (some 116), .mv (.t 115)⟩,
      ⟨(some (116, false)), (some 117), .mv (.t 12)⟩,
      ⟨(some (116, false)), (some 118), .bin .eql (.t 117) (.c (.int .i64 2))⟩,
      ⟨(some (116, false)), (some 119), .mv (.t 118)⟩,
      ⟨(some (119, true)), (some 120), .mv (.t 14)⟩,
      ⟨(some (119, true)), (some 121), .bin .neq (.t 120) (.c (.int .i64 2))⟩,
      ⟨(some (116, false)), (some 122), .pick (.t 119) (.t 121) (.c (.bool false))⟩,
      ⟨none, (some 123), .pick (.t 116) (.c (.bool true)) (.t 122)⟩,
      ⟨none, (some 124), .mv (.t 123)⟩,
      ⟨(some (124, false)), (some 125), .mv (.t 14)⟩,
      ⟨(some (124, false)), (some 126), .bin .eql (.t 125) (.c (.int .i64 1))⟩,
      ⟨(some (124, false)), (some 127), .mv (.t 126)⟩,
      ⟨(some (127, true)), (some 128), .mv (.t 12)⟩,
      ⟨(some (127, true)), (some 129), .bin .neq (.t 128) (.c (.int .i64 1))⟩,
      ⟨(some (124, false)), (some 130), .pick (.t 127) (.t 129) (.c (.bool false))⟩,
      ⟨none, (some 131), .pick (.t 124) (.c (.bool true)) (.t 130)⟩])
    (.cond (.t 131) (.seq (.reg [⟨none, (some 6), .mv (.c (.bool false))⟩])
    .ret)
    .skip))
    (.seq (.seq (.reg [⟨none, (some 132), .mv (.t 18)⟩,
      ⟨none, (some 133), .bin .eql (.t 132) (.c (.int .i64 0))⟩,
      ⟨none, (some 134), .mv (.t 133)⟩,
      ⟨(some (134, true)), (some 135), .mv (.t 21)⟩,
      ⟨(some (134, true)), (some 136), .bin .neq (.t 135) (.c (.int .i64 0))⟩,
      ⟨(some (134, true)), (some 137), .mv (.t 136)⟩,
      ⟨(some (137, false)), (some 138), .mv (.t 20)⟩,
      ⟨(some (137, false)), (some 139), .mv (.t 17)⟩,
      ⟨(some (137, false)), (some 140), .bin .lss (.t 138) (.t 139)⟩,
      ⟨(some (134, true)), (some 141), .pick (.t 137) (.c (.bool true)) (.t 140)⟩,
      ⟨none, (some 142), .pick (.t 134) (.t 141) (.c (.bool false))⟩])
    (.cond (.t 142) (.seq (.reg [⟨none, (some 6), .mv (.c (.bool false))⟩])
    .ret)
    .skip))
    (.seq (.reg [⟨none, (some 143), .faddr 0 (.t 4)⟩,
      ⟨none, (some 144), .load false 1 (.t 143)⟩,
      ⟨none, (some 145), .faddr 1 (.t 4)⟩,
      ⟨none, (some 146), .load false 1 (.t 145)⟩,
      ⟨none, (some 147), .bin .lss (.t 144) (.t 146)⟩,
      ⟨none, (some 148), .mv (.t 147)⟩,
      ⟨(some (148, false)), (some 149), .mv (.t 10)⟩,
      ⟨(some (148, false)), (some 150), .bin .eql (.t 149) (.c (.int .i64 1))⟩,
      ⟨(some (148, false)), (some 151), .mv (.t 150)⟩,
      ⟨(some (151, true)), (some 152), .mv (.t 14)⟩,
      ⟨(some (151, true)), (some 153), .bin .eql (.t 152) (.c (.int .i64 2))⟩,
      ⟨(some (148, false)), (some 154), .pick (.t 151) (.t 153) (.c (.bool false))⟩,
      ⟨(some (148, false)), (some 155), .mv (.t 154)⟩,
      ⟨(some (155, true)), (some 156), .mv (.t 21)⟩,
      ⟨(some (155, true)), (some 157), .bin .eql (.t 156) (.c (.int .i64 0))⟩,
      ⟨(some (148, false)), (some 158), .pick (.t 155) (.t 157) (.c (.bool false))⟩,
      ⟨(some (148, false)), (some 159), .mv (.t 158)⟩,
      ⟨(some (159, true)), (some 160), .mv (.t 20)⟩,
      ⟨(some (159, true)), (some 161), .faddr 2 (.t 7)⟩,
      ⟨(some (159, true)), (some 162), .load false 1 (.t 161)⟩,
      ⟨(some (159, true)), (some 163), .bin .eql (.t 160) (.t 162)⟩,
      ⟨(some (148, false)), (some 164), .pick (.t 159) (.t 163) (.c (.bool false))⟩,
      ⟨none, (some 165), .pick (.t 148) (.c (.bool true)) (.t 164)⟩,
      ⟨none, (some 166), .mv (.t 165)⟩,
      ⟨(some (166, true)), (some 167), .call 12 []⟩,
      ⟨none, (some 168), .pick (.t 166) (.t 167) (.c (.bool false))⟩,
      ⟨none, (some 6), .mv (.t 168)⟩])
    .ret)))))))))))))
theorem ok8 : FnOk Try.prog 8 169 4 c8 [.t 6] := ⟨_, _, Try.func8, rfl, rfl, by kernel_rfl, by kernel_rfl⟩
theorem bd8 : bodied Try.prog 8 = true := by kernel_rfl

/-- ferrule/ferrulelaw01.FramesLarger -/
def c9 : CI := (.seq (.reg [⟨none, (some 3), .box 0 true (.t 0)⟩,
      ⟨none, (some 6), .mv (.c (.bool false))⟩])
    (.seq (.seq (.reg [⟨none, (some 19), .mv (.t 2)⟩,
      ⟨none, (some 20), .bin .lss (.t 19) (.c (.int .i64 1))⟩,
      ⟨none, (some 21), .mv (.t 20)⟩,
      ⟨(some (21, false)), (some 22), .mv (.t 2)⟩,
      ⟨(some (21, false)), (some 23), .bin .gtr (.t 22) (.c (.int .i64 100))⟩,
      ⟨none, (some 24), .pick (.t 21) (.c (.bool true)) (.t 23)⟩,
      ⟨none, (some 25), .mv (.t 24)⟩,
      ⟨(some (25, false)), (some 26), .mv (.t 1)⟩,
      ⟨(some (25, false)), (some 27), .bin .lss (.t 26) (.c (.int .i64 1))⟩,
      ⟨none, (some 28), .pick (.t 25) (.c (.bool true)) (.t 27)⟩,
      ⟨none, (some 29), .mv (.t 28)⟩,
      ⟨(some (29, false)), (some 30), .mv (.t 1)⟩,
      ⟨(some (29, false)), (some 31), .bin .gtr (.t 30) (.c (.int .i64 2000))⟩,
      ⟨none, (some 32), .pick (.t 29) (.c (.bool true)) (.t 31)⟩,
      ⟨none, (some 33), .mv (.t 32)⟩,
      ⟨(some (33, false)), (some 34), .faddr 0 (.t 3)⟩,
      ⟨(some (33, false)), (some 35), .load false 1 (.t 34)⟩,
      ⟨(some (33, false)), (some 36), .bin .lss (.t 35) (.c (.int .i64 1))⟩,
      ⟨none, (some 37), .pick (.t 33) (.c (.bool true)) (.t 36)⟩,
      ⟨none, (some 38), .mv (.t 37)⟩,
      ⟨(some (38, false)), (some 39), .faddr 0 (.t 3)⟩,
      ⟨(some (38, false)), (some 40), .load false 1 (.t 39)⟩,
      ⟨(some (38, false)), (some 41), .bin .gtr (.t 40) (.c (.int .i64 2000))⟩,
      ⟨none, (some 42), .pick (.t 38) (.c (.bool true)) (.t 41)⟩,
      ⟨none, (some 43), .mv (.t 42)⟩,
      ⟨(some (43, false)), (some 44), .faddr 1 (.t 3)⟩,
      ⟨(some (43, false)), (some 45), .load false 1 (.t 44)⟩,
      ⟨(some (43, false)), (some 46), .bin .lss (.t 45) (.c (.int .i64 1))⟩,
      ⟨none, (some 47), .pick (.t 43) (.c (.bool true)) (.t 46)⟩,
      ⟨none, (some 48), .mv (.t 47)⟩,
      ⟨(some (48, false)), (some 49), .faddr 1 (.t 3)⟩,
      ⟨(some (48, false)), (some 50), .load false 1 (.t 49)⟩,
      ⟨(some (48, false)), (some 51), .bin .gtr (.t 50) (.c (.int .i64 2000))⟩,
      ⟨none, (some 52), .pick (.t 48) (.c (.bool true)) (.t 51)⟩])
    (.cond (.t 52) (.seq (.reg [⟨none, (some 53), .call 12 []⟩,
      ⟨none, (some 6), .mv (.t 53)⟩])
    .ret)
    .skip))
    (.seq (.reg [⟨none, (some 54), .load true 2 (.t 3)⟩,
      ⟨none, (some 55), .mv (.t 1)⟩,
      ⟨none, (some 56), .callz 1 1 46 [(.t 54), (.t 55)] []⟩,
      ⟨none, (some 7), .alloc 2 [.nils, (.int .i64 0), (.int .i64 0), (.int .i64 0), (.int .i64 0), (.int .i64 0), (.int .i64 0)]⟩,
      ⟨none, none, .store true 7 (.t 7) (.t 56) []⟩])
    (.seq (.reg [⟨none, (some 57), .faddr 0 (.t 3)⟩,
      ⟨none, (some 58), .load false 1 (.t 57)⟩,
      ⟨none, (some 59), .mv (.t 2)⟩,
      ⟨none, (some 60), .bin .mul (.t 58) (.t 59)⟩,
      ⟨none, (some 61), .faddr 1 (.t 3)⟩,
      ⟨none, (some 62), .load false 1 (.t 61)⟩,
      ⟨none, (some 63), .mv (.t 2)⟩,
      ⟨none, (some 64), .bin .mul (.t 62) (.t 63)⟩,
      ⟨none, (some 65), .build [(.int .i64 0), (.int .i64 0)] [(0, 1, (.t 60)), (1, 1, (.t 64))]⟩,
      ⟨none, (some 66), .mv (.t 1)⟩,
      ⟨none, (some 67), .mv (.t 2)⟩,
      ⟨none, (some 68), .bin .mul (.t 66) (.t 67)⟩,
      ⟨none, (some 69), .callz 3 1 46 [(.t 65), (.t 68)] []⟩,
      ⟨none, (some 8), .alloc 4 [.nils, (.int .i64 0), (.int .i64 0), (.int .i64 0), (.int .i64 0), (.int .i64 0), (.int .i64 0)]⟩,
      ⟨none, none, .store true 7 (.t 8) (.t 69) []⟩])
    (.seq (.seq (.reg [⟨none, (some 70), .load true 7 (.t 8)⟩,
      ⟨none, (some 71), .call 15 [(.t 70)]⟩,
      ⟨none, (some 72), .bin .neq (.t 71) (.c (.int .i64 0))⟩])
    (.cond (.t 72) (.seq (.reg [⟨none, (some 73), .call 12 []⟩,
      ⟨none, (some 6), .mv (.t 73)⟩])
    .ret)
    .skip))
    (.seq (.reg [⟨none, (some 75), .load true 7 (.t 7)⟩,
      ⟨none, (some 76), .mv (.t 1)⟩,
      ⟨none, (some 77), .call 18 [(.t 75), (.c (.int .i64 0)), (.t 76)]⟩,
      ⟨none, (some 74), .mv (.t 77)⟩,
      ⟨none, (some 78), .extract 0 (.t 74)⟩,
      ⟨none, (some 79), .extract 1 (.t 74)⟩,
      ⟨none, (some 80), .extract 2 (.t 74)⟩,
      ⟨none, (some 9), .alloc 5 [(.int .i64 0), (.int .i64 0)]⟩,
      ⟨none, (some 10), .alloc 6 [(.int .i64 0), (.int .i64 0)]⟩,
      ⟨none, none, .store true 2 (.t 9) (.t 78) []⟩,
      ⟨none, none, .store true 2 (.t 10) (.t 79) []⟩,
      ⟨none, (some 11), .mv (.t 80)⟩])
    (.seq (.reg [⟨none, (some 82), .load true 7 (.t 8)⟩,
      ⟨none, (some 83), .mv (.t 1)⟩,
      ⟨none, (some 84), .mv (.t 2)⟩,
      ⟨none, (some 85), .bin .mul (.t 83) (.t 84)⟩,
      ⟨none, (some 86), .call 18 [(.t 82), (.c (.int .i64 0)), (.t 85)]⟩,
      ⟨none, (some 81), .mv (.t 86)⟩,
      ⟨none, (some 87), .extract 0 (.t 81)⟩,
      ⟨none, (some 88), .extract 1 (.t 81)⟩,
      ⟨none, (some 89), .extract 2 (.t 81)⟩,
      ⟨none, (some 12), .alloc 7 [(.int .i64 0), (.int .i64 0)]⟩,
      ⟨none, (some 13), .alloc 8 [(.int .i64 0), (.int .i64 0)]⟩,
      ⟨none, none, .store true 2 (.t 12) (.t 87) []⟩,
      ⟨none, none, .store true 2 (.t 13) (.t 88) []⟩,
      ⟨none, (some 14), .mv (.t 89)⟩])
    (.seq (.reg [⟨none, (some 91), .load true 7 (.t 7)⟩,
      ⟨none, (some 92), .mv (.t 1)⟩,
      ⟨none, (some 93), .call 20 [(.t 91), (.c (.int .i64 0)), (.t 92)]⟩,
      ⟨none, (some 90), .mv (.t 93)⟩,
      ⟨none, (some 94), .extract 0 (.t 90)⟩,
      ⟨none, (some 95), .extract 1 (.t 90)⟩,
      ⟨none, (some 15), .mv (.t 94)⟩,
      ⟨none, (some 16), .mv (.t 95)⟩])
    (.seq (.reg [⟨none, (some 97), .load true 7 (.t 8)⟩,
      ⟨none, (some 98), .mv (.t 1)⟩,
      ⟨none, (some 99), .mv (.t 2)⟩,
      ⟨none, (some 100), .bin .mul (.t 98) (.t 99)⟩,
      ⟨none, (some 101), .call 20 [(.t 97), (.c (.int .i64 0)), (.t 100)]⟩,
      ⟨none, (some 96), .mv (.t 101)⟩,
      ⟨none, (some 102), .extract 0 (.t 96)⟩,
      ⟨none, (some 103), .extract 1 (.t 96)⟩,
      ⟨none, (some 17), .mv (.t 102)⟩,
      ⟨none, (some 18), .mv (.t 103)⟩])
    (.seq (.reg [⟨none, (some 104), .mv (.t 11)⟩,
      ⟨none, (some 105), .bin .eql (.t 104) (.c (.int .i64 0))⟩,
      ⟨none, (some 106), .mv (.t 105)⟩,
      ⟨(some (106, true)), (some 107), .mv (.t 14)⟩,
      ⟨(some (106, true)), (some 108), .bin .eql (.t 107) (.c (.int .i64 0))⟩,
      ⟨none, (some 109), .pick (.t 106) (.t 108) (.c (.bool false))⟩,
      ⟨none, (some 110), .mv (.t 109)⟩,
      ⟨(some (110, true)), (some 111), .mv (.t 16)⟩,
      ⟨(some (110, true)), (some 112), .bin .eql (.t 111) (.c (.int .i64 0))⟩,
      ⟨none, (some 113), .pick (.t 110) (.t 112) (.c (.bool false))⟩,
      ⟨none, (some 114), .mv (.t 113)⟩,
      ⟨(some (114, true)), (some 115), .mv (.t 18)⟩,
      ⟨(some (114, true)), (some 116), .bin .eql (.t 115) (.c (.int .i64 0))⟩,
      ⟨none, (some 117), .pick (.t 114) (.t 116) (.c (.bool false))⟩,
      ⟨none, (some 118), .mv (.t 117)⟩,
      ⟨(some (118, true)), (some 119), .load true 2 (.t 9)⟩,
      ⟨(some (118, true)), (some 120), .load true 2 (.t 10)⟩,
      ⟨(some (118, true)), (some 121), .eqs false (.node [(0, 1, (.leaf true)), (1, 1, (.leaf true))]) (.t 119) (.t 120)⟩,
      ⟨none, (some 122), .pick (.t 118) (.t 121) (.c (.bool false))⟩,
      ⟨none, (some 123), .mv (.t 122)⟩,
      ⟨(some (123, true)), (some 124), .load true 2 (.t 9)⟩,
      ⟨(some (123, true)), (some 125), .load true 2 (.t 12)⟩,
      ⟨(some (123, true)), (some 126), .eqs false (.node [(0, 1, (.leaf true)), (1, 1, (.leaf true))]) (.t 124) (.t 125)⟩,
      ⟨none, (some 127), .pick (.t 123) (.t 126) (.c (.bool false))⟩,
      ⟨none, (some 128), .mv (.t 127)⟩,
      ⟨(some (128, true)), (some 129), .load true 2 (.t 9)⟩,
      ⟨(some (128, true)), (some 130), .load true 2 (.t 13)⟩,
      ⟨(some (128, true)), (some 131), .eqs false (.node [(0, 1, (.leaf true)), (1, 1, (.leaf true))]) (.t 129) (.t 130)⟩,
      ⟨none, (some 132), .pick (.t 128) (.t 131) (.c (.bool false))⟩,
      ⟨none, (some 133), .mv (.t 132)⟩,
      ⟨(some (133, true)), (some 134), .mv (.t 15)⟩,
      ⟨(some (133, true)), (some 135), .mv (.t 17)⟩,
      ⟨(some (133, true)), (some 136), .bin .eql (.t 134) (.t 135)⟩,
      ⟨none, (some 137), .pick (.t 133) (.t 136) (.c (.bool false))⟩,
      ⟨none, (some 138), .mv (.t 137)⟩,
      ⟨(some (138, true)), (some 139), .mv (.t 15)⟩,
      ⟨(some (138, true)), (some 140), .bin .neq (.t 139) (.c (.int .i64 3))⟩,
      ⟨none, (some 141), .pick (.t 138) (.t 140) (.c (.bool false))⟩,
      ⟨none, (some 142), .mv (.t 141)⟩,
      ⟨(some (142, true)), (some 143), .call 12 []⟩,
      ⟨none, (some 144), .pick (.t 142) (.t 143) (.c (.bool false))⟩,
      ⟨none, (some 6), .mv (.t 144)⟩])
    .ret))))))))))
theorem ok9 : FnOk Try.prog 9 145 9 c9 [.t 6] := ⟨_, _, Try.func9, rfl, rfl, by kernel_rfl, by kernel_rfl⟩
theorem bd9 : bodied Try.prog 9 = true := by kernel_rfl

/-- ferrule/ferrulelaw01.FramesFolds -/
def c10 : CI := (.seq (.reg [⟨none, (some 2), .box 0 true (.t 0)⟩,
      ⟨none, (some 3), .box 1 true (.t 1)⟩,
      ⟨none, (some 4), .mv (.c (.bool false))⟩])
    (.seq (.seq (.reg [⟨none, (some 26), .load true 7 (.t 2)⟩,
      ⟨none, (some 27), .call 34 [(.t 26)]⟩,
      ⟨none, (some 28), .un .not (.t 27)⟩,
      ⟨none, (some 29), .mv (.t 28)⟩,
      ⟨(some (29, false)), (some 30), .load true 7 (.t 2)⟩,
      ⟨(some (29, false)), (some 31), .load true 2 (.t 3)⟩,
      ⟨(some (29, false)), (some 32), .call 35 [(.t 30), (.t 31)]⟩,
      ⟨(some (29, false)), (some 33), .un .not (.t 32)⟩,
      ⟨none, (some 34), .pick (.t 29) (.c (.bool true)) (.t 33)⟩])
    (.cond (.t 34) (.seq (.reg [⟨none, (some 35), .call 12 []⟩,
      ⟨none, (some 4), .mv (.t 35)⟩])
    .ret)
    .skip))
    (.seq (.reg [⟨none, (some 37), .load true 7 (.t 2)⟩,
      ⟨none, (some 38), .call 25 [(.t 37)]⟩,
      ⟨none, (some 36), .mv (.t 38)⟩,
      ⟨none, (some 39), .extract 0 (.t 36)⟩,
      ⟨none, (some 40), .extract 1 (.t 36)⟩,
      ⟨none, (some 5), .mv (.t 39)⟩,
      ⟨none, (some 6), .mv (.t 40)⟩])
    (.seq (.reg [⟨none, (some 42), .load true 7 (.t 2)⟩,
      ⟨none, (some 43), .call 23 [(.t 42)]⟩,
      ⟨none, (some 41), .mv (.t 43)⟩,
      ⟨none, (some 44), .extract 0 (.t 41)⟩,
      ⟨none, (some 45), .extract 1 (.t 41)⟩,
      ⟨none, (some 46), .extract 2 (.t 41)⟩,
      ⟨none, (some 7), .mv (.t 44)⟩,
      ⟨none, (some 8), .mv (.t 45)⟩,
      ⟨none, (some 9), .mv (.t 46)⟩])
    (.seq (.reg [⟨none, (some 48), .load true 7 (.t 2)⟩,
      ⟨none, (some 49), .callz 2 1 29 [(.t 48)] []⟩,
      ⟨none, (some 47), .mv (.t 49)⟩,
      ⟨none, (some 50), .extract 0 (.t 47)⟩,
      ⟨none, (some 51), .extract 1 (.t 47)⟩,
      ⟨none, (some 10), .mv (.t 50)⟩,
      ⟨none, (some 11), .mv (.t 51)⟩])
    (.seq (.seq (.reg [⟨none, (some 52), .mv (.t 6)⟩,
      ⟨none, (some 53), .bin .neq (.t 52) (.c (.int .i64 0))⟩,
      ⟨none, (some 54), .mv (.t 53)⟩,
      ⟨(some (54, false)), (some 55), .mv (.t 9)⟩,
      ⟨(some (54, false)), (some 56), .bin .neq (.t 55) (.c (.int .i64 0))⟩,
      ⟨(some (54, false)), (some 57), .mv (.t 56)⟩,
      ⟨(some (57, true)), (some 58), .mv (.t 9)⟩,
      ⟨(some (57, true)), (some 59), .bin .neq (.t 58) (.c (.int .i64 3))⟩,
      ⟨(some (54, false)), (some 60), .pick (.t 57) (.t 59) (.c (.bool false))⟩,
      ⟨none, (some 61), .pick (.t 54) (.c (.bool true)) (.t 60)⟩,
      ⟨none, (some 62), .mv (.t 61)⟩,
      ⟨(some (62, false)), (some 63), .mv (.t 11)⟩,
      ⟨(some (62, false)), (some 64), .bin .neq (.t 63) (.c (.int .i64 0))⟩,
      ⟨none, (some 65), .pick (.t 62) (.c (.bool true)) (.t 64)⟩,
      ⟨none, (some 66), .mv (.t 65)⟩,
      ⟨(some (66, false)), (some 67), .mv (.t 5)⟩,
      ⟨(some (66, false)), (some 68), .bin .eql (.t 67) (.c (.int .i64 1))⟩,
      ⟨(some (66, false)), (some 69), .mv (.t 9)⟩,
      ⟨(some (66, false)), (some 70), .bin .eql (.t 69) (.c (.int .i64 3))⟩,
      ⟨(some (66, false)), (some 71), .eqb true (.t 68) (.t 70)⟩,
      ⟨none, (some 72), .pick (.t 66) (.c (.bool true)) (.t 71)⟩,
      ⟨none, (some 73), .mv (.t 72)⟩,
      ⟨(some (73, false)), (some 74), .mv (.t 5)⟩,
      ⟨(some (73, false)), (some 75), .bin .eql (.t 74) (.c (.int .i64 2))⟩,
      ⟨(some (73, false)), (some 76), .mv (.t 10)⟩,
      ⟨(some (73, false)), (some 77), .len (.t 76)⟩,
      ⟨(some (73, false)), (some 78), .bin .gtr (.t 77) (.c (.int .i64 0))⟩,
      ⟨(some (73, false)), (some 79), .eqb true (.t 75) (.t 78)⟩,
      ⟨none, (some 80), .pick (.t 73) (.c (.bool true)) (.t 79)⟩,
      ⟨none, (some 81), .mv (.t 80)⟩,
      ⟨(some (81, false)), (some 82), .mv (.t 10)⟩,
      ⟨(some (81, false)), (some 83), .len (.t 82)⟩,
      ⟨(some (81, false)), (some 84), .faddr 0 (.t 2)⟩,
      ⟨(some (81, false)), (some 85), .load false 1 (.t 84)⟩,
      ⟨(some (81, false)), (some 86), .len (.t 85)⟩,
      ⟨(some (81, false)), (some 87), .bin .gtr (.t 83) (.t 86)⟩,
      ⟨none, (some 88), .pick (.t 81) (.c (.bool true)) (.t 87)⟩])
    (.cond (.t 88) (.seq (.reg [⟨none, (some 4), .mv (.c (.bool false))⟩])
    .ret)
    .skip))
    (.seq (.reg [⟨none, (some 89), .load true 7 (.t 2)⟩,
      ⟨none, (some 90), .callz 3 1 13 [(.t 89)] []⟩,
      ⟨none, (some 12), .alloc 4 [.nils, (.int .i64 0), (.int .i64 0), (.int .i64 0), (.int .i64 0), (.int .i64 0), (.int .i64 0)]⟩,
      ⟨none, none, .store true 7 (.t 12) (.t 90) []⟩])
    (.seq (.reg [⟨none, (some 91), .faddr 0 (.t 12)⟩,
      ⟨none, (some 92), .load false 1 (.t 91)⟩,
      ⟨none, (some 93), .faddr 0 (.t 3)⟩,
      ⟨none, (some 94), .load false 1 (.t 93)⟩,
      ⟨none, (some 95), .bin .add (.t 94) (.c (.int .i64 1))⟩,
      ⟨none, (some 96), .sli 7 (.t 92) none (some (.t 95))⟩,
      ⟨none, (some 97), .faddr 0 (.t 12)⟩,
      ⟨none, none, .store false 1 (.t 97) (.t 96) []⟩])
    (.seq (.reg [⟨none, (some 99), .load true 7 (.t 2)⟩,
      ⟨none, (some 100), .faddr 0 (.t 3)⟩,
      ⟨none, (some 101), .load false 1 (.t 100)⟩,
      ⟨none, (some 102), .faddr 1 (.t 3)⟩,
      ⟨none, (some 103), .load false 1 (.t 102)⟩,
      ⟨none, (some 104), .call 20 [(.t 99), (.t 101), (.t 103)]⟩,
      ⟨none, (some 98), .mv (.t 104)⟩,
      ⟨none, (some 105), .extract 0 (.t 98)⟩,
      ⟨none, (some 106), .extract 1 (.t 98)⟩,
      ⟨none, (some 13), .mv (.t 105)⟩,
      ⟨none, (some 14), .mv (.t 106)⟩])
    (.seq (.reg [⟨none, (some 108), .load true 7 (.t 12)⟩,
      ⟨none, (some 109), .faddr 0 (.t 3)⟩,
      ⟨none, (some 110), .load false 1 (.t 109)⟩,
      ⟨none, (some 111), .faddr 1 (.t 3)⟩,
      ⟨none, (some 112), .load false 1 (.t 111)⟩,
      ⟨none, (some 113), .call 20 [(.t 108), (.t 110), (.t 112)]⟩,
      ⟨none, (some 107), .mv (.t 113)⟩,
      ⟨none, (some 114), .extract 0 (.t 107)⟩,
      ⟨none, (some 115), .extract 1 (.t 107)⟩,
      ⟨none, (some 15), .mv (.t 114)⟩,
      ⟨none, (some 16), .mv (.t 115)⟩])
    (.seq (.reg [⟨none, (some 117), .load true 7 (.t 2)⟩,
      ⟨none, (some 118), .faddr 0 (.t 3)⟩,
      ⟨none, (some 119), .load false 1 (.t 118)⟩,
      ⟨none, (some 120), .call 27 [(.t 117), (.t 119)]⟩,
      ⟨none, (some 116), .mv (.t 120)⟩,
      ⟨none, (some 121), .extract 0 (.t 116)⟩,
      ⟨none, (some 122), .extract 1 (.t 116)⟩,
      ⟨none, (some 17), .mv (.t 121)⟩,
      ⟨none, (some 18), .mv (.t 122)⟩])
    (.seq (.reg [⟨none, (some 124), .load true 7 (.t 12)⟩,
      ⟨none, (some 125), .faddr 0 (.t 3)⟩,
      ⟨none, (some 126), .load false 1 (.t 125)⟩,
      ⟨none, (some 127), .call 27 [(.t 124), (.t 126)]⟩,
      ⟨none, (some 123), .mv (.t 127)⟩,
      ⟨none, (some 128), .extract 0 (.t 123)⟩,
      ⟨none, (some 129), .extract 1 (.t 123)⟩,
      ⟨none, (some 19), .mv (.t 128)⟩,
      ⟨none, (some 20), .mv (.t 129)⟩])
    (.seq (.reg [⟨none, (some 131), .load true 7 (.t 2)⟩,
      ⟨none, (some 132), .faddr 0 (.t 3)⟩,
      ⟨none, (some 133), .load false 1 (.t 132)⟩,
      ⟨none, (some 134), .faddr 1 (.t 3)⟩,
      ⟨none, (some 135), .load false 1 (.t 134)⟩,
      ⟨none, (some 136), .call 16 [(.t 131), (.t 133), (.t 135)]⟩,
      ⟨none, (some 130), .mv (.t 136)⟩,
      ⟨none, (some 137), .extract 0 (.t 130)⟩,
      ⟨none, (some 138), .extract 1 (.t 130)⟩,
      ⟨none, (some 21), .mv (.t 137)⟩,
      ⟨none, (some 22), .mv (.t 138)⟩])
    (.seq (.seq (.reg [⟨none, (some 139), .mv (.t 14)⟩,
      ⟨none, (some 140), .bin .neq (.t 139) (.c (.int .i64 0))⟩,
      ⟨none, (some 141), .mv (.t 140)⟩,
      ⟨(some (141, false)), (some 142), .mv (.t 16)⟩,
      ⟨(some (141, false)), (some 143), .bin .neq (.t 142) (.c (.int .i64 0))⟩,
      ⟨none, (some 144), .pick (.t 141) (.c (.bool true)) (.t 143)⟩,
      ⟨none, (some 145), .mv (.t 144)⟩,
      ⟨(some (145, false)), (some 146), .mv (.t 18)⟩,
      ⟨(some (145, false)), (some 147), .bin .neq (.t 146) (.c (.int .i64 0))⟩,
      ⟨none, (some 148), .pick (.t 145) (.c (.bool true)) (.t 147)⟩,
      ⟨none, (some 149), .mv (.t 148)⟩,
      ⟨(some (149, false)), (some 150), .mv (.t 20)⟩,
      ⟨(some (149, false)), (some 151), .bin .neq (.t 150) (.c (.int .i64 0))⟩,
      ⟨none, (some 152), .pick (.t 149) (.c (.bool true)) (.t 151)⟩,
      ⟨none, (some 153), .mv (.t 152)⟩,
      ⟨(some (153, false)), (some 154), .mv (.t 22)⟩,
      ⟨(some (153, false)), (some 155), .bin .neq (.t 154) (.c (.int .i64 0))⟩,
      ⟨none, (some 156), .pick (.t 153) (.c (.bool true)) (.t 155)⟩,
      ⟨none, (some 157), .mv (.t 156)⟩,
      ⟨(some (157, false)), (some 158), .mv (.t 13)⟩,
      ⟨(some (157, false)), (some 159), .mv (.t 15)⟩,
      ⟨(some (157, false)), (some 160), .bin .neq (.t 158) (.t 159)⟩,
      ⟨none, (some 161), .pick (.t 157) (.c (.bool true)) (.t 160)⟩,
      ⟨none, (some 162), .mv (.t 161)⟩,
      ⟨(some (162, false)), (some 163), .mv (.t 17)⟩,
      ⟨(some (162, false)), (some 164), .mv (.t 19)⟩,
      ⟨(some (162, false)), (some 165), .bin .neq (.t 163) (.t 164)⟩,
      ⟨none, (some 166), .pick (.t 162) (.c (.bool true)) (.t 165)⟩])
    (.cond (.t 166) (.seq (.reg [⟨none, (some 4), .mv (.c (.bool false))⟩])
    .ret)
    .skip))
    (.seq (.seq (.reg [⟨none, (some 167), .faddr 0 (.t 3)⟩,
      ⟨none, (some 168), .load false 1 (.t 167)⟩,
      ⟨none, (some 169), .bin .eql (.t 168) (.c (.int .i64 0))⟩])
    (.cond (.t 169) (.seq (.reg [⟨none, (some 170), .mv (.t 21)⟩,
      ⟨none, (some 171), .faddr 1 (.t 3)⟩,
      ⟨none, (some 172), .load false 1 (.t 171)⟩,
      ⟨none, (some 173), .bin .eql (.t 170) (.t 172)⟩,
      ⟨none, (some 174), .mv (.t 173)⟩,
      ⟨(some (174, true)), (some 175), .call 12 []⟩,
      ⟨none, (some 176), .pick (.t 174) (.t 175) (.c (.bool false))⟩,
      ⟨none, (some 4), .mv (.t 176)⟩])
    .ret)
    .skip))
    (.seq (.reg [⟨none, (some 177), .faddr 0 (.t 2)⟩,
      ⟨none, (some 178), .load false 1 (.t 177)⟩,
      ⟨none, (some 179), .faddr 0 (.t 3)⟩,
      ⟨none, (some 180), .load false 1 (.t 179)⟩,
      ⟨none, (some 181), .iaddr 7 (.t 178) (.t 180)⟩,
      ⟨none, (some 182), .load true 7 (.t 181)⟩,
      ⟨none, (some 23), .alloc 5 [(.int .i64 0), (.int .i64 0), (.int .i64 0), (.int .i64 0), (.int .i64 0), (.int .i64 0), (.int .i64 0)]⟩,
      ⟨none, none, .store true 7 (.t 23) (.t 182) []⟩])
    (.seq (.reg [⟨none, (some 184), .load true 7 (.t 2)⟩,
      ⟨none, (some 185), .faddr 0 (.t 3)⟩,
      ⟨none, (some 186), .load false 1 (.t 185)⟩,
      ⟨none, (some 187), .bin .sub (.t 186) (.c (.int .i64 1))⟩,
      ⟨none, (some 188), .faddr 1 (.t 3)⟩,
      ⟨none, (some 189), .load false 1 (.t 188)⟩,
      ⟨none, (some 190), .call 16 [(.t 184), (.t 187), (.t 189)]⟩,
      ⟨none, (some 183), .mv (.t 190)⟩,
      ⟨none, (some 191), .extract 0 (.t 183)⟩,
      ⟨none, (some 192), .extract 1 (.t 183)⟩,
      ⟨none, (some 24), .mv (.t 191)⟩,
      ⟨none, (some 25), .mv (.t 192)⟩])
    (.seq (.reg [⟨none, (some 193), .mv (.t 25)⟩,
      ⟨none, (some 194), .bin .eql (.t 193) (.c (.int .i64 0))⟩,
      ⟨none, (some 195), .mv (.t 194)⟩,
      ⟨(some (195, true)), (some 196), .mv (.t 24)⟩,
      ⟨(some (195, true)), (some 197), .bin .geq (.t 196) (.c (.int .i64 0))⟩,
      ⟨none, (some 198), .pick (.t 195) (.t 197) (.c (.bool false))⟩,
      ⟨none, (some 199), .mv (.t 198)⟩,
      ⟨(some (199, true)), (some 200), .mv (.t 24)⟩,
      ⟨(some (199, true)), (some 201), .bin .leq (.t 200) (.c (.int .i64 20000))⟩,
      ⟨none, (some 202), .pick (.t 199) (.t 201) (.c (.bool false))⟩,
      ⟨none, (some 203), .mv (.t 202)⟩,
      ⟨(some (203, true)), (some 204), .mv (.t 21)⟩,
      ⟨(some (203, true)), (some 205), .faddr 4 (.t 23)⟩,
      ⟨(some (203, true)), (some 206), .load false 1 (.t 205)⟩,
      ⟨(some (203, true)), (some 207), .mv (.t 24)⟩,
      ⟨(some (203, true)), (some 208), .faddr 5 (.t 23)⟩,
      ⟨(some (203, true)), (some 209), .faddr 0 (.t 208)⟩,
      ⟨(some (203, true)), (some 210), .load false 1 (.t 209)⟩,
      ⟨(some (203, true)), (some 211), .bin .mul (.t 207) (.t 210)⟩,
      ⟨(some (203, true)), (some 212), .faddr 5 (.t 23)⟩,
      ⟨(some (203, true)), (some 213), .faddr 1 (.t 212)⟩,
      ⟨(some (203, true)), (some 214), .load false 1 (.t 213)⟩,
      ⟨(some (203, true)), (some 215), .bin .quo (.t 211) (.t 214)⟩,
      ⟨(some (203, true)), (some 216), .bin .add (.t 206) (.t 215)⟩,
      ⟨(some (203, true)), (some 217), .bin .eql (.t 204) (.t 216)⟩,
      ⟨none, (some 218), .pick (.t 203) (.t 217) (.c (.bool false))⟩,
      ⟨none, (some 219), .mv (.t 218)⟩,
      ⟨(some (219, true)), (some 220), .call 12 []⟩,
      ⟨none, (some 221), .pick (.t 219) (.t 220) (.c (.bool false))⟩,
      ⟨none, (some 4), .mv (.t 221)⟩])
    .ret))))))))))))))))))
theorem ok10 : FnOk Try.prog 10 222 6 c10 [.t 4] := ⟨_, _, Try.func10, rfl, rfl, by kernel_rfl, by kernel_rfl⟩
theorem bd10 : bodied Try.prog 10 = true := by kernel_rfl

/-- ferrule/ferrulelaw01.Far -/
def c11 : CI := (.seq (.reg [⟨none, (some 1), .box 0 true (.t 0)⟩,
      ⟨none, (some 2), .mv (.c (.bool false))⟩])
    (.seq (.reg [⟨none, (some 3), .faddr 0 (.t 1)⟩,
      ⟨none, (some 4), .load false 1 (.t 3)⟩,
      ⟨none, (some 5), .len (.t 4)⟩,
      ⟨none, (some 6), .bin .gtr (.t 5) (.c (.int .i64 40))⟩,
      ⟨none, (some 7), .mv (.t 6)⟩,
      ⟨(some (7, false)), (some 8), .load true 7 (.t 1)⟩,
      ⟨(some (7, false)), (some 9), .call 15 [(.t 8)]⟩,
      ⟨(some (7, false)), (some 10), .bin .eql (.t 9) (.c (.int .i64 0))⟩,
      ⟨(some (7, false)), (some 11), .mv (.t 10)⟩,
      ⟨(some (11, true)), (some 12), .faddr 2 (.t 1)⟩,
      ⟨(some (11, true)), (some 13), .load false 1 (.t 12)⟩,
      ⟨(some (11, true)), (some 14), .faddr 1 (.t 1)⟩,
      ⟨(some (11, true)), (some 15), .load false 1 (.t 14)⟩,
      ⟨(some (11, true)), (some 16), .bin .sub (.t 13) (.t 15)⟩,
      ⟨(some (11, true)), (some 17), .bin .geq (.t 16) (.c (.int .i64 60))⟩,
      ⟨(some (7, false)), (some 18), .pick (.t 11) (.t 17) (.c (.bool false))⟩,
      ⟨none, (some 19), .pick (.t 7) (.c (.bool true)) (.t 18)⟩,
      ⟨none, (some 2), .mv (.t 19)⟩])
    .ret))
theorem ok11 : FnOk Try.prog 11 20 1 c11 [.t 2] := ⟨_, _, Try.func11, rfl, rfl, by kernel_rfl, by kernel_rfl⟩
theorem bd11 : bodied Try.prog 11 = true := by kernel_rfl

/-- ferrule/ferrulelaw01.works -/
def c12 : CI := (.seq (.reg [⟨none, (some 0), .mv (.c (.bool false))⟩])
    (.seq (.reg [⟨none, (some 12), .callz 0 1 47 [] []⟩,
      ⟨none, (some 1), .alloc 1 [.nils, (.int .i64 0), (.int .i64 0), (.int .i64 0), (.int .i64 0), (.int .i64 0), (.int .i64 0)]⟩,
      ⟨none, none, .store true 7 (.t 1) (.t 12) []⟩])
    (.seq (.reg [⟨none, (some 14), .load true 7 (.t 1)⟩,
      ⟨none, (some 15), .call 16 [(.t 14), (.c (.int .i64 1)), (.c (.int .i64 100))]⟩,
      ⟨none, (some 13), .mv (.t 15)⟩,
      ⟨none, (some 16), .extract 0 (.t 13)⟩,
      ⟨none, (some 17), .extract 1 (.t 13)⟩,
      ⟨none, (some 2), .mv (.t 16)⟩,
      ⟨none, (some 3), .mv (.t 17)⟩])
    (.seq (.reg [⟨none, (some 19), .load true 7 (.t 1)⟩,
      ⟨none, (some 20), .call 18 [(.t 19), (.c (.int .i64 0)), (.c (.int .i64 20))]⟩,
      ⟨none, (some 18), .mv (.t 20)⟩,
      ⟨none, (some 21), .extract 0 (.t 18)⟩,
      ⟨none, (some 22), .extract 1 (.t 18)⟩,
      ⟨none, (some 23), .extract 2 (.t 18)⟩,
      ⟨none, (some 4), .alloc 2 [(.int .i64 0), (.int .i64 0)]⟩,
      ⟨none, (some 5), .alloc 3 [(.int .i64 0), (.int .i64 0)]⟩,
      ⟨none, none, .store true 2 (.t 4) (.t 21) []⟩,
      ⟨none, none, .store true 2 (.t 5) (.t 22) []⟩,
      ⟨none, (some 6), .mv (.t 23)⟩])
    (.seq (.reg [⟨none, (some 24), .faddr 2 (.t 1)⟩,
      ⟨none, none, .store false 1 (.t 24) (.c (.int .i64 106)) []⟩])
    (.seq (.reg [⟨none, (some 26), .load true 7 (.t 1)⟩,
      ⟨none, (some 27), .call 23 [(.t 26)]⟩,
      ⟨none, (some 25), .mv (.t 27)⟩,
      ⟨none, (some 28), .extract 0 (.t 25)⟩,
      ⟨none, (some 29), .extract 1 (.t 25)⟩,
      ⟨none, (some 30), .extract 2 (.t 25)⟩,
      ⟨none, (some 7), .mv (.t 28)⟩,
      ⟨none, (some 8), .mv (.t 29)⟩,
      ⟨none, (some 9), .mv (.t 30)⟩])
    (.seq (.reg [⟨none, (some 32), .load true 7 (.t 1)⟩,
      ⟨none, (some 33), .call 25 [(.t 32)]⟩,
      ⟨none, (some 31), .mv (.t 33)⟩,
      ⟨none, (some 34), .extract 0 (.t 31)⟩,
      ⟨none, (some 35), .extract 1 (.t 31)⟩,
      ⟨none, (some 10), .mv (.t 34)⟩,
      ⟨none, (some 11), .mv (.t 35)⟩])
    (.seq (.reg [⟨none, (some 36), .mv (.t 3)⟩,
      ⟨none, (some 37), .bin .eql (.t 36) (.c (.int .i64 0))⟩,
      ⟨none, (some 38), .mv (.t 37)⟩,
      ⟨(some (38, true)), (some 39), .mv (.t 6)⟩,
      ⟨(some (38, true)), (some 40), .bin .eql (.t 39) (.c (.int .i64 0))⟩,
      ⟨none, (some 41), .pick (.t 38) (.t 40) (.c (.bool false))⟩,
      ⟨none, (some 42), .mv (.t 41)⟩,
      ⟨(some (42, true)), (some 43), .mv (.t 9)⟩,
      ⟨(some (42, true)), (some 44), .bin .eql (.t 43) (.c (.int .i64 0))⟩,
      ⟨none, (some 45), .pick (.t 42) (.t 44) (.c (.bool false))⟩,
      ⟨none, (some 46), .mv (.t 45)⟩,
      ⟨(some (46, true)), (some 47), .mv (.t 11)⟩,
      ⟨(some (46, true)), (some 48), .bin .eql (.t 47) (.c (.int .i64 0))⟩,
      ⟨none, (some 49), .pick (.t 46) (.t 48) (.c (.bool false))⟩,
      ⟨none, (some 50), .mv (.t 49)⟩,
      ⟨(some (50, true)), (some 51), .mv (.t 2)⟩,
      ⟨(some (50, true)), (some 52), .bin .eql (.t 51) (.c (.int .i64 55))⟩,
      ⟨none, (some 53), .pick (.t 50) (.t 52) (.c (.bool false))⟩,
      ⟨none, (some 54), .mv (.t 53)⟩,
      ⟨(some (54, true)), (some 55), .load true 2 (.t 4)⟩,
      ⟨(some (54, true)), (some 56), .build [(.int .i64 0), (.int .i64 0)] [(0, 1, (.c (.int .i64 (-7)))), (1, 1, (.c (.int .i64 20)))]⟩,
      ⟨(some (54, true)), (some 57), .eqs false (.node [(0, 1, (.leaf true)), (1, 1, (.leaf true))]) (.t 55) (.t 56)⟩,
      ⟨none, (some 58), .pick (.t 54) (.t 57) (.c (.bool false))⟩,
      ⟨none, (some 59), .mv (.t 58)⟩,
      ⟨(some (59, true)), (some 60), .load true 2 (.t 5)⟩,
      ⟨(some (59, true)), (some 61), .build [(.int .i64 0), (.int .i64 0)] [(0, 1, (.c (.int .i64 (-31)))), (1, 1, (.c (.int .i64 130)))]⟩,
      ⟨(some (59, true)), (some 62), .eqs false (.node [(0, 1, (.leaf true)), (1, 1, (.leaf true))]) (.t 60) (.t 61)⟩,
      ⟨none, (some 63), .pick (.t 59) (.t 62) (.c (.bool false))⟩,
      ⟨none, (some 64), .mv (.t 63)⟩,
      ⟨(some (64, true)), (some 65), .mv (.t 7)⟩,
      ⟨(some (64, true)), (some 66), .bin .eql (.t 65) (.c (.int .i64 0))⟩,
      ⟨none, (some 67), .pick (.t 64) (.t 66) (.c (.bool false))⟩,
      ⟨none, (some 68), .mv (.t 67)⟩,
      ⟨(some (68, true)), (some 69), .mv (.t 8)⟩,
      ⟨(some (68, true)), (some 70), .bin .eql (.t 69) (.c (.int .i64 106))⟩,
      ⟨none, (some 71), .pick (.t 68) (.t 70) (.c (.bool false))⟩,
      ⟨none, (some 72), .mv (.t 71)⟩,
      ⟨(some (72, true)), (some 73), .mv (.t 10)⟩,
      ⟨(some (72, true)), (some 74), .bin .eql (.t 73) (.c (.int .i64 3))⟩,
      ⟨none, (some 75), .pick (.t 72) (.t 74) (.c (.bool false))⟩,
      ⟨none, (some 0), .mv (.t 75)⟩])
    .ret))))))))
theorem ok12 : FnOk Try.prog 12 76 4 c12 [.t 0] := ⟨_, _, Try.func12, rfl, rfl, by kernel_rfl, by kernel_rfl⟩
theorem bd12 : bodied Try.prog 12 = true := by kernel_rfl

/-- ferrule/ferruleref01.Copy -/
def c13 : CI := (.seq (.reg [⟨none, (some 1), .box 0 true (.t 0)⟩,
      ⟨none, (some 2), .alloc 1 [.nils, (.int .i64 0), (.int .i64 0), (.int .i64 0), (.int .i64 0), (.int .i64 0), (.int .i64 0)]⟩])
    (.seq (.reg [⟨none, (some 3), .bsl 2 66 7 [] []⟩,
      ⟨none, (some 4), .faddr 0 (.t 1)⟩,
      ⟨none, (some 5), .load false 1 (.t 4)⟩,
      ⟨none, (some 6), .apd 3 66 7 56 (.t 3) (.t 5) []⟩,
      ⟨none, (some 7), .faddr 0 (.t 1)⟩,
      ⟨none, none, .store false 1 (.t 7) (.t 6) []⟩])
    (.seq (.reg [⟨none, (some 8), .load true 7 (.t 1)⟩,
      ⟨none, none, .store true 7 (.t 2) (.t 8) []⟩])
    .ret)))
theorem ok13 : FnOk Try.prog 13 9 4 c13 [.cell 2 true 7] := ⟨_, _, Try.func13, rfl, rfl, by kernel_rfl, by kernel_rfl⟩
theorem bd13 : bodied Try.prog 13 = true := by kernel_rfl

/-- ferrule/frames.Check -/
def c14 : CI := (.seq (.reg [⟨none, (some 1), .box 0 true (.t 0)⟩,
      ⟨none, (some 2), .mv (.c (.int .i64 0))⟩])
    (.seq (.seq (.reg [⟨none, (some 3), .load true 7 (.t 1)⟩,
      ⟨none, (some 4), .call 48 [(.t 3)]⟩,
      ⟨none, (some 5), .un .not (.t 4)⟩])
    (.cond (.t 5) (.seq (.reg [⟨none, (some 2), .mv (.c (.int .i64 10))⟩])
    .ret)
    .skip))
    (.seq (.reg [⟨none, (some 2), .mv (.c (.int .i64 0))⟩])
    .ret)))
theorem ok14 : FnOk Try.prog 14 6 1 c14 [.t 2] := ⟨_, _, Try.func14, rfl, rfl, by kernel_rfl, by kernel_rfl⟩
theorem bd14 : bodied Try.prog 14 = true := by kernel_rfl

/-- ferrule/ferruleref01.Check -/
def c15 : CI := (.seq (.reg [⟨none, (some 1), .box 0 true (.t 0)⟩,
      ⟨none, (some 2), .mv (.c (.int .i64 0))⟩])
    (.seq (.seq (.reg [⟨none, (some 3), .mv (.c (.int .i64 0))⟩])
    (.block 0 (.loop (.seq (.seq (.reg [⟨none, (some 5), .mv (.t 3)⟩,
      ⟨none, (some 6), .faddr 0 (.t 1)⟩,
      ⟨none, (some 7), .load false 1 (.t 6)⟩,
      ⟨none, (some 8), .len (.t 7)⟩,
      ⟨none, (some 9), .bin .lss (.t 5) (.t 8)⟩])
    (.cond (.t 9) .skip
    (.exit 0)))
    (.seq (.block 1 (.seq (.reg [⟨none, (some 12), .faddr 0 (.t 1)⟩,
      ⟨none, (some 13), .load false 1 (.t 12)⟩,
      ⟨none, (some 14), .mv (.t 3)⟩,
      ⟨none, (some 15), .iaddr 7 (.t 13) (.t 14)⟩,
      ⟨none, (some 16), .load true 7 (.t 15)⟩,
      ⟨none, (some 4), .alloc 1 [(.int .i64 0), (.int .i64 0), (.int .i64 0), (.int .i64 0), (.int .i64 0), (.int .i64 0), (.int .i64 0)]⟩,
      ⟨none, none, .store true 7 (.t 4) (.t 16) []⟩])
    (.seq (.reg [⟨none, (some 17), .faddr 0 (.t 4)⟩,
      ⟨none, (some 18), .load true 2 (.t 17)⟩,
      ⟨none, (some 19), .call 49 [(.t 18)]⟩,
      ⟨none, (some 20), .un .not (.t 19)⟩,
      ⟨none, (some 21), .mv (.t 20)⟩,
      ⟨(some (21, false)), (some 22), .faddr 2 (.t 4)⟩,
      ⟨(some (21, false)), (some 23), .load true 2 (.t 22)⟩,
      ⟨(some (21, false)), (some 24), .call 49 [(.t 23)]⟩,
      ⟨(some (21, false)), (some 25), .un .not (.t 24)⟩,
      ⟨none, (some 26), .pick (.t 21) (.c (.bool true)) (.t 25)⟩,
      ⟨none, (some 27), .mv (.t 26)⟩,
      ⟨(some (27, false)), (some 28), .faddr 4 (.t 4)⟩,
      ⟨(some (27, false)), (some 29), .load false 1 (.t 28)⟩,
      ⟨(some (27, false)), (some 30), .call 50 [(.t 29), (.c (.int .i64 0)), (.c (.int .i64 2000))]⟩,
      ⟨(some (27, false)), (some 31), .un .not (.t 30)⟩,
      ⟨none, (some 32), .pick (.t 27) (.c (.bool true)) (.t 31)⟩,
      ⟨none, (some 33), .mv (.t 32)⟩,
      ⟨(some (33, false)), (some 34), .faddr 5 (.t 4)⟩,
      ⟨(some (33, false)), (some 35), .load true 2 (.t 34)⟩,
      ⟨(some (33, false)), (some 36), .call 51 [(.t 35)]⟩,
      ⟨(some (33, false)), (some 37), .un .not (.t 36)⟩,
      ⟨none, (some 38), .pick (.t 33) (.c (.bool true)) (.t 37)⟩])
    (.cond (.t 38) (.seq (.reg [⟨none, (some 2), .mv (.c (.int .i64 10))⟩])
    .ret)
    .skip))))
    (.reg [⟨none, (some 10), .mv (.t 3)⟩,
      ⟨none, (some 11), .bin .add (.t 10) (.c (.int .i64 1))⟩,
      ⟨none, (some 3), .mv (.t 11)⟩]))))))
    (.seq (.seq (.reg [⟨none, (some 39), .faddr 0 (.t 1)⟩,
      ⟨none, (some 40), .load false 1 (.t 39)⟩,
      ⟨none, (some 41), .len (.t 40)⟩,
      ⟨none, (some 42), .call 50 [(.t 41), (.c (.int .i64 1)), (.c (.int .i64 3))]⟩,
      ⟨none, (some 43), .un .not (.t 42)⟩,
      ⟨none, (some 44), .mv (.t 43)⟩,
      ⟨(some (44, false)), (some 45), .faddr 1 (.t 1)⟩,
      ⟨(some (44, false)), (some 46), .load false 1 (.t 45)⟩,
      ⟨(some (44, false)), (some 47), .faddr 2 (.t 1)⟩,
      ⟨(some (44, false)), (some 48), .load false 1 (.t 47)⟩,
      ⟨(some (44, false)), (some 49), .call 50 [(.t 46), (.c (.int .i64 1)), (.t 48)]⟩,
      ⟨(some (44, false)), (some 50), .un .not (.t 49)⟩,
      ⟨none, (some 51), .pick (.t 44) (.c (.bool true)) (.t 50)⟩,
      ⟨none, (some 52), .mv (.t 51)⟩,
      ⟨(some (52, false)), (some 53), .faddr 2 (.t 1)⟩,
      ⟨(some (52, false)), (some 54), .load false 1 (.t 53)⟩,
      ⟨(some (52, false)), (some 55), .bin .gtr (.t 54) (.c (.int .i64 2000))⟩,
      ⟨none, (some 56), .pick (.t 52) (.c (.bool true)) (.t 55)⟩,
      ⟨none, (some 57), .mv (.t 56)⟩,
      ⟨(some (57, false)), (some 58), .faddr 2 (.t 1)⟩,
      ⟨(some (57, false)), (some 59), .load false 1 (.t 58)⟩,
      ⟨(some (57, false)), (some 60), .faddr 1 (.t 1)⟩,
      ⟨(some (57, false)), (some 61), .load false 1 (.t 60)⟩,
      ⟨(some (57, false)), (some 62), .bin .sub (.t 59) (.t 61)⟩,
      ⟨(some (57, false)), (some 63), .bin .gtr (.t 62) (.c (.int .i64 200))⟩,
      ⟨none, (some 64), .pick (.t 57) (.c (.bool true)) (.t 63)⟩,
      ⟨none, (some 65), .mv (.t 64)⟩,
      ⟨(some (65, false)), (some 66), .faddr 3 (.t 1)⟩,
      ⟨(some (65, false)), (some 67), .load true 2 (.t 66)⟩,
      ⟨(some (65, false)), (some 68), .call 51 [(.t 67)]⟩,
      ⟨(some (65, false)), (some 69), .un .not (.t 68)⟩,
      ⟨none, (some 70), .pick (.t 65) (.c (.bool true)) (.t 69)⟩,
      ⟨none, (some 71), .mv (.t 70)⟩,
      ⟨(some (71, false)), (some 72), .faddr 5 (.t 1)⟩,
      ⟨(some (71, false)), (some 73), .load false 1 (.t 72)⟩,
      ⟨(some (71, false)), (some 74), .call 50 [(.t 73), (.c (.int .i64 0)), (.c (.int .i64 4000))]⟩,
      ⟨(some (71, false)), (some 75), .un .not (.t 74)⟩,
      ⟨none, (some 76), .pick (.t 71) (.c (.bool true)) (.t 75)⟩,
      ⟨none, (some 77), .mv (.t 76)⟩,
      ⟨(some (77, false)), (some 78), .faddr 6 (.t 1)⟩,
      ⟨(some (77, false)), (some 79), .load false 1 (.t 78)⟩,
      ⟨(some (77, false)), (some 80), .call 50 [(.t 79), (.c (.int .i64 0)), (.c (.int .i64 4000))]⟩,
      ⟨(some (77, false)), (some 81), .un .not (.t 80)⟩,
      ⟨none, (some 82), .pick (.t 77) (.c (.bool true)) (.t 81)⟩])
    (.cond (.t 82) (.seq (.reg [⟨none, (some 2), .mv (.c (.int .i64 10))⟩])
    .ret)
    .skip))
    (.seq (.reg [⟨none, (some 2), .mv (.c (.int .i64 0))⟩])
    .ret))))
theorem ok15 : FnOk Try.prog 15 83 2 c15 [.t 2] := ⟨_, _, Try.func15, rfl, rfl, by kernel_rfl, by kernel_rfl⟩
theorem bd15 : bodied Try.prog 15 = true := by kernel_rfl

/-- ferrule/frames.Distance -/
def c16 : CI := (.seq (.reg [⟨none, (some 3), .box 0 true (.t 0)⟩,
      ⟨none, (some 6), .mv (.c (.int .i64 0))⟩,
      ⟨none, (some 7), .mv (.c (.int .i64 0))⟩])
    (.seq (.seq (.reg [⟨none, (some 9), .load true 7 (.t 3)⟩,
      ⟨none, (some 10), .mv (.t 1)⟩,
      ⟨none, (some 11), .mv (.t 2)⟩,
      ⟨none, (some 12), .call 52 [(.t 9), (.t 10), (.t 11)]⟩,
      ⟨none, (some 8), .mv (.t 12)⟩])
    (.seq (.reg [⟨none, (some 13), .mv (.t 8)⟩,
      ⟨none, (some 14), .bin .neq (.t 13) (.c (.int .i64 0))⟩])
    (.cond (.t 14) (.seq (.reg [⟨none, (some 15), .mv (.t 8)⟩,
      ⟨none, (some 6), .mv (.c (.int .i64 0))⟩,
      ⟨none, (some 7), .mv (.t 15)⟩])
    .ret)
    .skip)))
    (.seq (.reg [⟨none, (some 16), .load true 7 (.t 3)⟩,
      ⟨none, (some 17), .mv (.t 1)⟩,
      ⟨none, (some 18), .mv (.t 2)⟩,
      ⟨none, (some 19), .call 53 [(.t 16), (.t 17), (.t 18)]⟩,
      ⟨none, (some 6), .mv (.t 19)⟩,
      ⟨none, (some 7), .mv (.c (.int .i64 0))⟩])
    .ret)))
theorem ok16 : FnOk Try.prog 16 20 1 c16 [.t 6, .t 7] := ⟨_, _, Try.func16, rfl, rfl, by kernel_rfl, by kernel_rfl⟩
theorem bd16 : bodied Try.prog 16 = true := by kernel_rfl

/-- ferrule/ferruleref01.Distance -/
def c17 : CI := (.seq (.reg [⟨none, (some 3), .box 0 true (.t 0)⟩,
      ⟨none, (some 6), .mv (.c (.int .i64 0))⟩,
      ⟨none, (some 7), .mv (.c (.int .i64 0))⟩])
    (.seq (.seq (.reg [⟨none, (some 9), .load true 7 (.t 3)⟩,
      ⟨none, (some 10), .load true 7 (.t 3)⟩,
      ⟨none, (some 11), .mv (.t 1)⟩,
      ⟨none, (some 12), .call 45 [(.t 10), (.t 11)]⟩,
      ⟨none, (some 13), .mv (.t 12)⟩,
      ⟨(some (13, true)), (some 14), .load true 7 (.t 3)⟩,
      ⟨(some (13, true)), (some 15), .mv (.t 2)⟩,
      ⟨(some (13, true)), (some 16), .call 55 [(.t 14), (.t 15)]⟩,
      ⟨none, (some 17), .pick (.t 13) (.t 16) (.c (.bool false))⟩,
      ⟨none, (some 18), .call 54 [(.t 9), (.t 17)]⟩,
      ⟨none, (some 8), .mv (.t 18)⟩])
    (.seq (.reg [⟨none, (some 19), .mv (.t 8)⟩,
      ⟨none, (some 20), .bin .neq (.t 19) (.c (.int .i64 0))⟩])
    (.cond (.t 20) (.seq (.reg [⟨none, (some 21), .mv (.t 8)⟩,
      ⟨none, (some 6), .mv (.c (.int .i64 0))⟩,
      ⟨none, (some 7), .mv (.t 21)⟩])
    .ret)
    .skip)))
    (.seq (.reg [⟨none, (some 22), .load true 7 (.t 3)⟩,
      ⟨none, (some 23), .mv (.t 1)⟩,
      ⟨none, (some 24), .mv (.t 2)⟩,
      ⟨none, (some 25), .call 56 [(.t 22), (.t 23), (.t 24)]⟩,
      ⟨none, (some 6), .mv (.t 25)⟩,
      ⟨none, (some 7), .mv (.c (.int .i64 0))⟩])
    .ret)))
theorem ok17 : FnOk Try.prog 17 26 1 c17 [.t 6, .t 7] := ⟨_, _, Try.func17, rfl, rfl, by kernel_rfl, by kernel_rfl⟩
theorem bd17 : bodied Try.prog 17 = true := by kernel_rfl

/-- ferrule/frames.Cosine -/
def c18 : CI := (.seq (.reg [⟨none, (some 3), .box 0 true (.t 0)⟩,
      ⟨none, (some 6), .alloc 1 [(.int .i64 0), (.int .i64 0)]⟩,
      ⟨none, (some 7), .alloc 2 [(.int .i64 0), (.int .i64 0)]⟩,
      ⟨none, (some 8), .mv (.c (.int .i64 0))⟩])
    (.seq (.seq (.reg [⟨none, (some 11), .load true 7 (.t 3)⟩,
      ⟨none, (some 12), .mv (.t 1)⟩,
      ⟨none, (some 13), .mv (.t 2)⟩,
      ⟨none, (some 14), .call 52 [(.t 11), (.t 12), (.t 13)]⟩,
      ⟨none, (some 9), .mv (.t 14)⟩])
    (.seq (.reg [⟨none, (some 15), .mv (.t 9)⟩,
      ⟨none, (some 16), .bin .neq (.t 15) (.c (.int .i64 0))⟩])
    (.cond (.t 16) (.seq (.reg [⟨none, (some 17), .build [(.int .i64 0), (.int .i64 0)] []⟩,
      ⟨none, (some 18), .build [(.int .i64 0), (.int .i64 0)] []⟩,
      ⟨none, (some 19), .mv (.t 9)⟩,
      ⟨none, none, .store true 2 (.t 6) (.t 17) []⟩,
      ⟨none, none, .store true 2 (.t 7) (.t 18) []⟩,
      ⟨none, (some 8), .mv (.t 19)⟩])
    .ret)
    .skip)))
    (.seq (.reg [⟨none, (some 20), .load true 7 (.t 3)⟩,
      ⟨none, (some 21), .mv (.t 1)⟩,
      ⟨none, (some 22), .mv (.t 2)⟩,
      ⟨none, (some 23), .call 53 [(.t 20), (.t 21), (.t 22)]⟩,
      ⟨none, (some 10), .mv (.t 23)⟩])
    (.seq (.seq (.reg [⟨none, (some 24), .mv (.t 10)⟩,
      ⟨none, (some 25), .bin .eql (.t 24) (.c (.int .i64 0))⟩])
    (.cond (.t 25) (.seq (.reg [⟨none, (some 26), .build [(.int .i64 0), (.int .i64 0)] []⟩,
      ⟨none, (some 27), .build [(.int .i64 0), (.int .i64 0)] []⟩,
      ⟨none, none, .store true 2 (.t 6) (.t 26) []⟩,
      ⟨none, none, .store true 2 (.t 7) (.t 27) []⟩,
      ⟨none, (some 8), .mv (.c (.int .i64 3))⟩])
    .ret)
    .skip))
    (.seq (.reg [⟨none, (some 29), .faddr 0 (.t 3)⟩,
      ⟨none, (some 30), .load false 1 (.t 29)⟩,
      ⟨none, (some 31), .mv (.t 1)⟩,
      ⟨none, (some 32), .iaddr 7 (.t 30) (.t 31)⟩,
      ⟨none, (some 33), .load true 7 (.t 32)⟩,
      ⟨none, (some 34), .mv (.t 10)⟩,
      ⟨none, (some 35), .call 57 [(.t 33), (.t 34)]⟩,
      ⟨none, (some 28), .mv (.t 35)⟩,
      ⟨none, (some 36), .extract 0 (.t 28)⟩,
      ⟨none, (some 37), .extract 1 (.t 28)⟩,
      ⟨none, none, .store true 2 (.t 6) (.t 36) []⟩,
      ⟨none, none, .store true 2 (.t 7) (.t 37) []⟩])
    (.seq (.reg [⟨none, (some 38), .load true 2 (.t 6)⟩,
      ⟨none, (some 40), .load true 2 (.t 7)⟩,
      ⟨none, (some 39), .call 58 [(.t 38)]⟩,
      ⟨none, (some 41), .call 58 [(.t 40)]⟩,
      ⟨none, none, .store true 2 (.t 6) (.t 39) []⟩,
      ⟨none, none, .store true 2 (.t 7) (.t 41) []⟩,
      ⟨none, (some 8), .mv (.c (.int .i64 0))⟩])
    .ret))))))
theorem ok18 : FnOk Try.prog 18 42 3 c18 [.cell 6 true 2, .cell 7 true 2, .t 8] := ⟨_, _, Try.func18, rfl, rfl, by kernel_rfl, by kernel_rfl⟩
theorem bd18 : bodied Try.prog 18 = true := by kernel_rfl

/-- ferrule/ferruleref01.Cosine -/
def c19 : CI := (.seq (.reg [⟨none, (some 3), .box 0 true (.t 0)⟩,
      ⟨none, (some 6), .alloc 1 [(.int .i64 0), (.int .i64 0)]⟩,
      ⟨none, (some 7), .alloc 2 [(.int .i64 0), (.int .i64 0)]⟩,
      ⟨none, (some 8), .mv (.c (.int .i64 0))⟩])
    (.seq (.seq (.reg [⟨none, (some 14), .load true 7 (.t 3)⟩,
      ⟨none, (some 15), .load true 7 (.t 3)⟩,
      ⟨none, (some 16), .mv (.t 1)⟩,
      ⟨none, (some 17), .call 45 [(.t 15), (.t 16)]⟩,
      ⟨none, (some 18), .mv (.t 17)⟩,
      ⟨(some (18, true)), (some 19), .load true 7 (.t 3)⟩,
      ⟨(some (18, true)), (some 20), .mv (.t 2)⟩,
      ⟨(some (18, true)), (some 21), .call 55 [(.t 19), (.t 20)]⟩,
      ⟨none, (some 22), .pick (.t 18) (.t 21) (.c (.bool false))⟩,
      ⟨none, (some 23), .call 54 [(.t 14), (.t 22)]⟩,
      ⟨none, (some 9), .mv (.t 23)⟩])
    (.seq (.reg [⟨none, (some 24), .mv (.t 9)⟩,
      ⟨none, (some 25), .bin .neq (.t 24) (.c (.int .i64 0))⟩])
    (.cond (.t 25) (.seq (.reg [⟨none, (some 26), .build [(.int .i64 0), (.int .i64 0)] []⟩,
      ⟨none, (some 27), .build [(.int .i64 0), (.int .i64 0)] []⟩,
      ⟨none, (some 28), .mv (.t 9)⟩,
      ⟨none, none, .store true 2 (.t 6) (.t 26) []⟩,
      ⟨none, none, .store true 2 (.t 7) (.t 27) []⟩,
      ⟨none, (some 8), .mv (.t 28)⟩])
    .ret)
    .skip)))
    (.seq (.reg [⟨none, (some 29), .load true 7 (.t 3)⟩,
      ⟨none, (some 30), .mv (.t 1)⟩,
      ⟨none, (some 31), .callz 3 1 44 [(.t 29), (.t 30)] []⟩,
      ⟨none, (some 10), .mv (.t 31)⟩])
    (.seq (.seq (.reg [⟨none, (some 11), .mv (.c (.int .i64 0))⟩])
    (.block 0 (.loop (.seq (.seq (.reg [⟨none, (some 32), .mv (.t 11)⟩,
      ⟨none, (some 33), .mv (.t 10)⟩,
      ⟨none, (some 34), .len (.t 33)⟩,
      ⟨none, (some 35), .bin .lss (.t 32) (.t 34)⟩])
    (.cond (.t 35) .skip
    (.exit 0)))
    (.seq (.block 1 (.seq (.reg [⟨none, (some 39), .load true 7 (.t 3)⟩,
      ⟨none, (some 40), .mv (.t 1)⟩,
      ⟨none, (some 41), .mv (.t 2)⟩,
      ⟨none, (some 43), .mv (.t 10)⟩,
      ⟨none, (some 44), .mv (.t 11)⟩,
      ⟨none, (some 45), .iaddr 2 (.t 43) (.t 44)⟩,
      ⟨none, (some 46), .load true 2 (.t 45)⟩,
      ⟨none, (some 12), .alloc 4 [(.int .i64 0), (.int .i64 0)]⟩,
      ⟨none, (some 42), .call 56 [(.t 39), (.t 40), (.t 41)]⟩,
      ⟨none, (some 47), .call 38 [(.t 42), (.t 46)]⟩,
      ⟨none, (some 38), .mv (.t 47)⟩,
      ⟨none, (some 48), .extract 0 (.t 38)⟩,
      ⟨none, (some 49), .extract 1 (.t 38)⟩,
      ⟨none, none, .store true 2 (.t 12) (.t 48) []⟩,
      ⟨none, (some 13), .mv (.t 49)⟩])
    (.seq (.seq (.reg [⟨none, (some 50), .mv (.t 13)⟩,
      ⟨none, (some 51), .un .not (.t 50)⟩])
    (.cond (.t 51) (.seq (.reg [⟨none, (some 52), .build [(.int .i64 0), (.int .i64 0)] []⟩,
      ⟨none, (some 53), .build [(.int .i64 0), (.int .i64 0)] []⟩,
      ⟨none, none, .store true 2 (.t 6) (.t 52) []⟩,
      ⟨none, none, .store true 2 (.t 7) (.t 53) []⟩,
      ⟨none, (some 8), .mv (.c (.int .i64 3))⟩])
    .ret)
    .skip))
    (.seq (.seq (.reg [⟨none, (some 54), .mv (.t 11)⟩,
      ⟨none, (some 55), .bin .eql (.t 54) (.c (.int .i64 0))⟩,
      ⟨none, (some 56), .mv (.t 55)⟩,
      ⟨(some (56, false)), (some 57), .load true 2 (.t 12)⟩,
      ⟨(some (56, false)), (some 58), .load true 2 (.t 6)⟩,
      ⟨(some (56, false)), (some 59), .call 40 [(.t 57), (.t 58)]⟩,
      ⟨none, (some 60), .pick (.t 56) (.c (.bool true)) (.t 59)⟩])
    (.cond (.t 60) (.reg [⟨none, (some 61), .load true 2 (.t 12)⟩,
      ⟨none, none, .store true 2 (.t 6) (.t 61) []⟩])
    .skip))
    (.seq (.reg [⟨none, (some 62), .mv (.t 11)⟩,
      ⟨none, (some 63), .bin .eql (.t 62) (.c (.int .i64 0))⟩,
      ⟨none, (some 64), .mv (.t 63)⟩,
      ⟨(some (64, false)), (some 65), .load true 2 (.t 7)⟩,
      ⟨(some (64, false)), (some 66), .load true 2 (.t 12)⟩,
      ⟨(some (64, false)), (some 67), .call 40 [(.t 65), (.t 66)]⟩,
      ⟨none, (some 68), .pick (.t 64) (.c (.bool true)) (.t 67)⟩])
    (.cond (.t 68) (.reg [⟨none, (some 69), .load true 2 (.t 12)⟩,
      ⟨none, none, .store true 2 (.t 7) (.t 69) []⟩])
    .skip))))))
    (.reg [⟨none, (some 36), .mv (.t 11)⟩,
      ⟨none, (some 37), .bin .add (.t 36) (.c (.int .i64 1))⟩,
      ⟨none, (some 11), .mv (.t 37)⟩]))))))
    (.seq (.reg [⟨none, (some 70), .load true 2 (.t 6)⟩,
      ⟨none, (some 71), .load true 2 (.t 7)⟩,
      ⟨none, none, .store true 2 (.t 6) (.t 70) [(.t 7)]⟩,
      ⟨none, none, .store true 2 (.t 7) (.t 71) []⟩,
      ⟨none, (some 8), .mv (.c (.int .i64 0))⟩])
    .ret)))))
theorem ok19 : FnOk Try.prog 19 72 5 c19 [.cell 6 true 2, .cell 7 true 2, .t 8] := ⟨_, _, Try.func19, rfl, rfl, by kernel_rfl, by kernel_rfl⟩
theorem bd19 : bodied Try.prog 19 = true := by kernel_rfl

/-- ferrule/frames.Binds -/
def c20 : CI := (.seq (.reg [⟨none, (some 3), .box 0 true (.t 0)⟩,
      ⟨none, (some 6), .mv (.c (.int .i64 0))⟩,
      ⟨none, (some 7), .mv (.c (.int .i64 0))⟩])
    (.seq (.seq (.reg [⟨none, (some 9), .load true 7 (.t 3)⟩,
      ⟨none, (some 10), .mv (.t 1)⟩,
      ⟨none, (some 11), .mv (.t 2)⟩,
      ⟨none, (some 12), .call 52 [(.t 9), (.t 10), (.t 11)]⟩,
      ⟨none, (some 8), .mv (.t 12)⟩])
    (.seq (.reg [⟨none, (some 13), .mv (.t 8)⟩,
      ⟨none, (some 14), .bin .neq (.t 13) (.c (.int .i64 0))⟩])
    (.cond (.t 14) (.seq (.reg [⟨none, (some 15), .mv (.t 8)⟩,
      ⟨none, (some 6), .mv (.c (.int .i64 0))⟩,
      ⟨none, (some 7), .mv (.t 15)⟩])
    .ret)
    .skip)))
    (.seq (.reg [⟨none, (some 16), .faddr 0 (.t 3)⟩,
      ⟨none, (some 17), .load false 1 (.t 16)⟩,
      ⟨none, (some 18), .mv (.t 1)⟩,
      ⟨none, (some 19), .iaddr 7 (.t 17) (.t 18)⟩,
      ⟨none, (some 20), .load true 7 (.t 19)⟩,
      ⟨none, (some 21), .load true 7 (.t 3)⟩,
      ⟨none, (some 22), .mv (.t 1)⟩,
      ⟨none, (some 23), .mv (.t 2)⟩,
      ⟨none, (some 24), .callz 1 0 60 [(.t 21), (.t 22), (.t 23)] []⟩,
      ⟨none, (some 25), .call 59 [(.t 20), (.t 24)]⟩,
      ⟨none, (some 6), .mv (.t 25)⟩,
      ⟨none, (some 7), .mv (.c (.int .i64 0))⟩])
    .ret)))
theorem ok20 : FnOk Try.prog 20 26 1 c20 [.t 6, .t 7] := ⟨_, _, Try.func20, rfl, rfl, by kernel_rfl, by kernel_rfl⟩
theorem bd20 : bodied Try.prog 20 = true := by kernel_rfl

/-- ferrule/ferruleref01.Binds -/
def c21 : CI := (.seq (.reg [⟨none, (some 3), .box 0 true (.t 0)⟩,
      ⟨none, (some 6), .mv (.c (.int .i64 0))⟩,
      ⟨none, (some 7), .mv (.c (.int .i64 0))⟩])
    (.seq (.seq (.reg [⟨none, (some 11), .load true 7 (.t 3)⟩,
      ⟨none, (some 12), .load true 7 (.t 3)⟩,
      ⟨none, (some 13), .mv (.t 1)⟩,
      ⟨none, (some 14), .call 45 [(.t 12), (.t 13)]⟩,
      ⟨none, (some 15), .mv (.t 14)⟩,
      ⟨(some (15, true)), (some 16), .load true 7 (.t 3)⟩,
      ⟨(some (15, true)), (some 17), .mv (.t 2)⟩,
      ⟨(some (15, true)), (some 18), .call 55 [(.t 16), (.t 17)]⟩,
      ⟨none, (some 19), .pick (.t 15) (.t 18) (.c (.bool false))⟩,
      ⟨none, (some 20), .call 54 [(.t 11), (.t 19)]⟩,
      ⟨none, (some 8), .mv (.t 20)⟩])
    (.seq (.reg [⟨none, (some 21), .mv (.t 8)⟩,
      ⟨none, (some 22), .bin .neq (.t 21) (.c (.int .i64 0))⟩])
    (.cond (.t 22) (.seq (.reg [⟨none, (some 23), .mv (.t 8)⟩,
      ⟨none, (some 6), .mv (.c (.int .i64 0))⟩,
      ⟨none, (some 7), .mv (.t 23)⟩])
    .ret)
    .skip)))
    (.seq (.reg [⟨none, (some 25), .load true 7 (.t 3)⟩,
      ⟨none, (some 26), .mv (.t 1)⟩,
      ⟨none, (some 27), .mv (.t 2)⟩,
      ⟨none, (some 28), .call 61 [(.t 25), (.t 26), (.t 27)]⟩,
      ⟨none, (some 24), .mv (.t 28)⟩,
      ⟨none, (some 29), .extract 0 (.t 24)⟩,
      ⟨none, (some 30), .extract 1 (.t 24)⟩,
      ⟨none, (some 9), .mv (.t 29)⟩,
      ⟨none, (some 10), .mv (.t 30)⟩])
    (.seq (.reg [⟨none, (some 31), .mv (.t 9)⟩,
      ⟨none, (some 32), .mv (.t 10)⟩,
      ⟨none, (some 33), .call 62 [(.t 31), (.t 32)]⟩,
      ⟨none, (some 6), .mv (.t 33)⟩,
      ⟨none, (some 7), .mv (.c (.int .i64 0))⟩])
    .ret))))
theorem ok21 : FnOk Try.prog 21 34 1 c21 [.t 6, .t 7] := ⟨_, _, Try.func21, rfl, rfl, by kernel_rfl, by kernel_rfl⟩
theorem bd21 : bodied Try.prog 21 = true := by kernel_rfl

/-- ferrule/ferrulelaw01.same -/
def c22 : CI := (.seq (.reg [⟨none, (some 2), .box 0 true (.t 0)⟩,
      ⟨none, (some 3), .box 1 true (.t 1)⟩,
      ⟨none, (some 4), .mv (.c (.bool false))⟩])
    (.seq (.seq (.reg [⟨none, (some 6), .faddr 0 (.t 2)⟩,
      ⟨none, (some 7), .load false 1 (.t 6)⟩,
      ⟨none, (some 8), .len (.t 7)⟩,
      ⟨none, (some 9), .faddr 0 (.t 3)⟩,
      ⟨none, (some 10), .load false 1 (.t 9)⟩,
      ⟨none, (some 11), .len (.t 10)⟩,
      ⟨none, (some 12), .bin .neq (.t 8) (.t 11)⟩,
      ⟨none, (some 13), .mv (.t 12)⟩,
      ⟨(some (13, false)), (some 14), .faddr 1 (.t 2)⟩,
      ⟨(some (13, false)), (some 15), .load false 1 (.t 14)⟩,
      ⟨(some (13, false)), (some 16), .faddr 1 (.t 3)⟩,
      ⟨(some (13, false)), (some 17), .load false 1 (.t 16)⟩,
      ⟨(some (13, false)), (some 18), .bin .neq (.t 15) (.t 17)⟩,
      ⟨none, (some 19), .pick (.t 13) (.c (.bool true)) (.t 18)⟩,
      ⟨none, (some 20), .mv (.t 19)⟩,
      ⟨(some (20, false)), (some 21), .faddr 2 (.t 2)⟩,
      ⟨(some (20, false)), (some 22), .load false 1 (.t 21)⟩,
      ⟨(some (20, false)), (some 23), .faddr 2 (.t 3)⟩,
      ⟨(some (20, false)), (some 24), .load false 1 (.t 23)⟩,
      ⟨(some (20, false)), (some 25), .bin .neq (.t 22) (.t 24)⟩,
      ⟨none, (some 26), .pick (.t 20) (.c (.bool true)) (.t 25)⟩,
      ⟨none, (some 27), .mv (.t 26)⟩,
      ⟨(some (27, false)), (some 28), .faddr 3 (.t 2)⟩,
      ⟨(some (27, false)), (some 29), .load true 2 (.t 28)⟩,
      ⟨(some (27, false)), (some 30), .faddr 3 (.t 3)⟩,
      ⟨(some (27, false)), (some 31), .load true 2 (.t 30)⟩,
      ⟨(some (27, false)), (some 32), .eqs true (.node [(0, 1, (.leaf true)), (1, 1, (.leaf true))]) (.t 29) (.t 31)⟩,
      ⟨none, (some 33), .pick (.t 27) (.c (.bool true)) (.t 32)⟩,
      ⟨none, (some 34), .mv (.t 33)⟩,
      ⟨(some (34, false)), (some 35), .faddr 5 (.t 2)⟩,
      ⟨(some (34, false)), (some 36), .load false 1 (.t 35)⟩,
      ⟨(some (34, false)), (some 37), .faddr 5 (.t 3)⟩,
      ⟨(some (34, false)), (some 38), .load false 1 (.t 37)⟩,
      ⟨(some (34, false)), (some 39), .bin .neq (.t 36) (.t 38)⟩,
      ⟨none, (some 40), .pick (.t 34) (.c (.bool true)) (.t 39)⟩,
      ⟨none, (some 41), .mv (.t 40)⟩,
      ⟨(some (41, false)), (some 42), .faddr 6 (.t 2)⟩,
      ⟨(some (41, false)), (some 43), .load false 1 (.t 42)⟩,
      ⟨(some (41, false)), (some 44), .faddr 6 (.t 3)⟩,
      ⟨(some (41, false)), (some 45), .load false 1 (.t 44)⟩,
      ⟨(some (41, false)), (some 46), .bin .neq (.t 43) (.t 45)⟩,
      ⟨none, (some 47), .pick (.t 41) (.c (.bool true)) (.t 46)⟩])
    (.cond (.t 47) (.seq (.reg [⟨none, (some 4), .mv (.c (.bool false))⟩])
    .ret)
    .skip))
    (.seq (.seq (.reg [⟨none, (some 5), .mv (.c (.int .i64 0))⟩])
    (.block 0 (.loop (.seq (.seq (.reg [⟨none, (some 48), .mv (.t 5)⟩,
      ⟨none, (some 49), .faddr 0 (.t 2)⟩,
      ⟨none, (some 50), .load false 1 (.t 49)⟩,
      ⟨none, (some 51), .len (.t 50)⟩,
      ⟨none, (some 52), .bin .lss (.t 48) (.t 51)⟩])
    (.cond (.t 52) .skip
    (.exit 0)))
    (.seq (.block 1 (.seq (.reg [⟨none, (some 55), .faddr 0 (.t 2)⟩,
      ⟨none, (some 56), .load false 1 (.t 55)⟩,
      ⟨none, (some 57), .mv (.t 5)⟩,
      ⟨none, (some 58), .iaddr 7 (.t 56) (.t 57)⟩,
      ⟨none, (some 59), .load true 7 (.t 58)⟩,
      ⟨none, (some 60), .faddr 0 (.t 3)⟩,
      ⟨none, (some 61), .load false 1 (.t 60)⟩,
      ⟨none, (some 62), .mv (.t 5)⟩,
      ⟨none, (some 63), .iaddr 7 (.t 61) (.t 62)⟩,
      ⟨none, (some 64), .load true 7 (.t 63)⟩,
      ⟨none, (some 65), .eqs true (.node [(0, 2, (.node [(0, 1, (.leaf true)), (1, 1, (.leaf true))])), (2, 2, (.node [(0, 1, (.leaf true)), (1, 1, (.leaf true))])), (4, 1, (.leaf true)), (5, 2, (.node [(0, 1, (.leaf true)), (1, 1, (.leaf true))]))]) (.t 59) (.t 64)⟩])
    (.cond (.t 65) (.seq (.reg [⟨none, (some 4), .mv (.c (.bool false))⟩])
    .ret)
    .skip)))
    (.reg [⟨none, (some 53), .mv (.t 5)⟩,
      ⟨none, (some 54), .bin .add (.t 53) (.c (.int .i64 1))⟩,
      ⟨none, (some 5), .mv (.t 54)⟩]))))))
    (.seq (.reg [⟨none, (some 4), .mv (.c (.bool true))⟩])
    .ret))))
theorem ok22 : FnOk Try.prog 22 66 2 c22 [.t 4] := ⟨_, _, Try.func22, rfl, rfl, by kernel_rfl, by kernel_rfl⟩
theorem bd22 : bodied Try.prog 22 = true := by kernel_rfl

/-- ferrule/frames.First -/
def c23 : CI := (.seq (.reg [⟨none, (some 1), .box 0 true (.t 0)⟩,
      ⟨none, (some 2), .alloc 1 [(.int .i64 0)]⟩,
      ⟨none, (some 3), .alloc 2 [(.int .i64 0)]⟩,
      ⟨none, (some 4), .alloc 3 [(.int .i64 0)]⟩])
    (.seq (.seq (.reg [⟨none, (some 9), .load true 7 (.t 1)⟩,
      ⟨none, (some 10), .call 14 [(.t 9)]⟩,
      ⟨none, (some 5), .mv (.t 10)⟩])
    (.seq (.reg [⟨none, (some 11), .mv (.t 5)⟩,
      ⟨none, (some 12), .bin .neq (.t 11) (.c (.int .i64 0))⟩])
    (.cond (.t 12) (.seq (.reg [⟨none, (some 13), .mv (.t 5)⟩,
      ⟨none, none, .store false 1 (.t 2) (.c (.int .i64 0)) []⟩,
      ⟨none, none, .store false 1 (.t 3) (.c (.int .i64 0)) []⟩,
      ⟨none, none, .store false 1 (.t 4) (.t 13) []⟩])
    .ret)
    .skip)))
    (.seq (.seq (.reg [⟨none, (some 14), .load true 7 (.t 1)⟩,
      ⟨none, (some 15), .callz 4 0 63 [(.t 14)] []⟩])
    (.block 0 (.rng (.t 15) [16] (.reg [⟨none, (some 6), .mv (.t 16)⟩])
    (.block 1 (.seq (.reg [⟨none, (some 17), .faddr 0 (.t 1)⟩,
      ⟨none, (some 18), .load false 1 (.t 17)⟩,
      ⟨none, (some 19), .len (.t 18)⟩,
      ⟨none, (some 20), .mv (.c (.int .i64 0))⟩])
    (.block 2 (.loop (.seq (.reg [⟨none, (some 21), .bin .lss (.t 20) (.t 19)⟩])
    (.seq (.cond (.t 21) .skip
    (.exit 2))
    (.seq (.block 3 (.seq (.reg [⟨none, (some 22), .mv (.t 20)⟩,
      ⟨none, (some 23), .iaddr 7 (.t 18) (.t 20)⟩,
      ⟨none, (some 24), .load true 7 (.t 23)⟩,
      ⟨none, (some 8), .alloc 4 [(.int .i64 0), (.int .i64 0), (.int .i64 0), (.int .i64 0), (.int .i64 0), (.int .i64 0), (.int .i64 0)]⟩,
      ⟨none, (some 7), .mv (.t 22)⟩,
      ⟨none, none, .store true 7 (.t 8) (.t 24) []⟩])
    (.seq (.reg [⟨none, (some 25), .load true 7 (.t 8)⟩,
      ⟨none, (some 26), .load true 7 (.t 1)⟩,
      ⟨none, (some 27), .mv (.t 7)⟩,
      ⟨none, (some 28), .mv (.t 6)⟩,
      ⟨none, (some 29), .callz 5 0 60 [(.t 26), (.t 27), (.t 28)] []⟩,
      ⟨none, (some 30), .call 59 [(.t 25), (.t 29)]⟩,
      ⟨none, (some 31), .bin .neq (.t 30) (.c (.int .i64 2))⟩])
    (.cond (.t 31) (.seq (.reg [⟨none, (some 32), .mv (.t 7)⟩,
      ⟨none, (some 33), .mv (.t 6)⟩,
      ⟨none, none, .store false 1 (.t 2) (.t 32) []⟩,
      ⟨none, none, .store false 1 (.t 3) (.t 33) []⟩,
      ⟨none, none, .store false 1 (.t 4) (.c (.int .i64 0)) []⟩])
    .ret)
    .skip))))
    (.reg [⟨none, (some 34), .bin .add (.t 20) (.c (.int .i64 1))⟩,
      ⟨none, (some 20), .mv (.t 34)⟩])))))))))))
    (.seq (.reg [⟨none, none, .store false 1 (.t 2) (.c (.int .i64 0)) []⟩,
      ⟨none, none, .store false 1 (.t 3) (.c (.int .i64 0)) []⟩,
      ⟨none, none, .store false 1 (.t 4) (.c (.int .i64 3)) []⟩])
    .ret))))
theorem ok23 : FnOk Try.prog 23 35 5 c23 [.cell 2 false 1, .cell 3 false 1, .cell 4 false 1] := ⟨_, _, Try.func23, rfl, rfl, by kernel_rfl, by kernel_rfl⟩
theorem bd23 : bodied Try.prog 23 = true := by kernel_rfl

/-- ferrule/ferruleref01.First -/
def c24 : CI := (.seq (.reg [⟨none, (some 1), .box 0 true (.t 0)⟩,
      ⟨none, (some 2), .mv (.c (.int .i64 0))⟩,
      ⟨none, (some 3), .mv (.c (.int .i64 0))⟩,
      ⟨none, (some 4), .mv (.c (.int .i64 0))⟩])
    (.seq (.seq (.reg [⟨none, (some 10), .load true 7 (.t 1)⟩,
      ⟨none, (some 11), .call 15 [(.t 10)]⟩,
      ⟨none, (some 5), .mv (.t 11)⟩])
    (.seq (.reg [⟨none, (some 12), .mv (.t 5)⟩,
      ⟨none, (some 13), .bin .neq (.t 12) (.c (.int .i64 0))⟩])
    (.cond (.t 13) (.seq (.reg [⟨none, (some 14), .mv (.t 5)⟩,
      ⟨none, (some 2), .mv (.c (.int .i64 0))⟩,
      ⟨none, (some 3), .mv (.c (.int .i64 0))⟩,
      ⟨none, (some 4), .mv (.t 14)⟩])
    .ret)
    .skip)))
    (.seq (.seq (.reg [⟨none, (some 15), .faddr 2 (.t 1)⟩,
      ⟨none, (some 16), .load false 1 (.t 15)⟩,
      ⟨none, (some 6), .mv (.t 16)⟩])
    (.block 0 (.loop (.seq (.seq (.reg [⟨none, (some 17), .mv (.t 6)⟩,
      ⟨none, (some 18), .faddr 1 (.t 1)⟩,
      ⟨none, (some 19), .load false 1 (.t 18)⟩,
      ⟨none, (some 20), .bin .geq (.t 17) (.t 19)⟩])
    (.cond (.t 20) .skip
    (.exit 0)))
    (.seq (.block 1 (.seq (.reg [⟨none, (some 7), .mv (.c (.int .i64 0))⟩])
    (.block 2 (.loop (.seq (.seq (.reg [⟨none, (some 23), .mv (.t 7)⟩,
      ⟨none, (some 24), .faddr 0 (.t 1)⟩,
      ⟨none, (some 25), .load false 1 (.t 24)⟩,
      ⟨none, (some 26), .len (.t 25)⟩,
      ⟨none, (some 27), .bin .lss (.t 23) (.t 26)⟩])
    (.cond (.t 27) .skip
    (.exit 2)))
    (.seq (.block 3 (.seq (.reg [⟨none, (some 31), .load true 7 (.t 1)⟩,
      ⟨none, (some 32), .mv (.t 7)⟩,
      ⟨none, (some 33), .mv (.t 6)⟩,
      ⟨none, (some 34), .call 61 [(.t 31), (.t 32), (.t 33)]⟩,
      ⟨none, (some 30), .mv (.t 34)⟩,
      ⟨none, (some 35), .extract 0 (.t 30)⟩,
      ⟨none, (some 36), .extract 1 (.t 30)⟩,
      ⟨none, (some 8), .mv (.t 35)⟩,
      ⟨none, (some 9), .mv (.t 36)⟩])
    (.seq (.reg [⟨none, (some 37), .mv (.t 8)⟩,
      ⟨none, (some 38), .bin .gtr (.t 37) (.c (.int .i64 0))⟩])
    (.cond (.t 38) (.seq (.reg [⟨none, (some 39), .mv (.t 7)⟩,
      ⟨none, (some 40), .mv (.t 6)⟩,
      ⟨none, (some 2), .mv (.t 39)⟩,
      ⟨none, (some 3), .mv (.t 40)⟩,
      ⟨none, (some 4), .mv (.c (.int .i64 0))⟩])
    .ret)
    .skip))))
    (.reg [⟨none, (some 28), .mv (.t 7)⟩,
      ⟨none, (some 29), .bin .add (.t 28) (.c (.int .i64 1))⟩,
      ⟨none, (some 7), .mv (.t 29)⟩])))))))
    (.reg [⟨none, (some 21), .mv (.t 6)⟩,
      ⟨none, (some 22), .bin .sub (.t 21) (.c (.int .i64 1))⟩,
      ⟨none, (some 6), .mv (.t 22)⟩]))))))
    (.seq (.reg [⟨none, (some 2), .mv (.c (.int .i64 0))⟩,
      ⟨none, (some 3), .mv (.c (.int .i64 0))⟩,
      ⟨none, (some 4), .mv (.c (.int .i64 3))⟩])
    .ret))))
theorem ok24 : FnOk Try.prog 24 41 1 c24 [.t 2, .t 3, .t 4] := ⟨_, _, Try.func24, rfl, rfl, by kernel_rfl, by kernel_rfl⟩
theorem bd24 : bodied Try.prog 24 = true := by kernel_rfl

/-- ferrule/frames.Opens -/
def c25 : CI := (.seq (.reg [⟨none, (some 1), .box 0 true (.t 0)⟩,
      ⟨none, (some 2), .mv (.c (.int .i64 0))⟩,
      ⟨none, (some 3), .mv (.c (.int .i64 0))⟩])
    (.seq (.seq (.reg [⟨none, (some 9), .load true 7 (.t 1)⟩,
      ⟨none, (some 10), .call 14 [(.t 9)]⟩,
      ⟨none, (some 4), .mv (.t 10)⟩])
    (.seq (.reg [⟨none, (some 11), .mv (.t 4)⟩,
      ⟨none, (some 12), .bin .neq (.t 11) (.c (.int .i64 0))⟩])
    (.cond (.t 12) (.seq (.reg [⟨none, (some 13), .mv (.t 4)⟩,
      ⟨none, (some 2), .mv (.c (.int .i64 0))⟩,
      ⟨none, (some 3), .mv (.t 13)⟩])
    .ret)
    .skip)))
    (.seq (.reg [⟨none, (some 5), .mv (.c (.bool true))⟩,
      ⟨none, (some 6), .mv (.c (.bool true))⟩])
    (.seq (.seq (.reg [⟨none, (some 14), .faddr 0 (.t 1)⟩,
      ⟨none, (some 15), .load false 1 (.t 14)⟩,
      ⟨none, (some 16), .len (.t 15)⟩,
      ⟨none, (some 17), .mv (.c (.int .i64 0))⟩])
    (.block 0 (.loop (.seq (.reg [⟨none, (some 18), .bin .lss (.t 17) (.t 16)⟩])
    (.seq (.cond (.t 18) .skip
    (.exit 0))
    (.seq (.block 1 (.seq (.reg [⟨none, (some 19), .mv (.t 17)⟩,
      ⟨none, (some 20), .iaddr 7 (.t 15) (.t 17)⟩,
      ⟨none, (some 21), .load true 7 (.t 20)⟩,
      ⟨none, (some 8), .alloc 1 [(.int .i64 0), (.int .i64 0), (.int .i64 0), (.int .i64 0), (.int .i64 0), (.int .i64 0), (.int .i64 0)]⟩,
      ⟨none, (some 7), .mv (.t 19)⟩,
      ⟨none, none, .store true 7 (.t 8) (.t 21) []⟩])
    (.seq (.reg [⟨none, (some 22), .load true 7 (.t 8)⟩,
      ⟨none, (some 23), .load true 7 (.t 1)⟩,
      ⟨none, (some 24), .mv (.t 7)⟩,
      ⟨none, (some 25), .callz 2 0 64 [(.t 23), (.t 24)] []⟩,
      ⟨none, (some 26), .call 59 [(.t 22), (.t 25)]⟩])
    (.block 2 (.seq (.reg [⟨none, (some 28), .bin .eql (.t 26) (.c (.int .i64 1))⟩,
      ⟨none, (some 27), .mv (.t 28)⟩])
    (.cond (.t 27) (.reg [⟨none, (some 5), .mv (.c (.bool false))⟩,
      ⟨none, (some 6), .mv (.c (.bool false))⟩])
    (.seq (.reg [⟨none, (some 30), .bin .eql (.t 26) (.c (.int .i64 3))⟩,
      ⟨none, (some 29), .mv (.t 30)⟩])
    (.cond (.t 29) (.reg [⟨none, (some 5), .mv (.c (.bool false))⟩])
    .skip))))))))
    (.reg [⟨none, (some 31), .bin .add (.t 17) (.c (.int .i64 1))⟩,
      ⟨none, (some 17), .mv (.t 31)⟩])))))))
    (.seq (.reg [⟨none, (some 32), .mv (.t 5)⟩,
      ⟨none, (some 33), .mv (.t 6)⟩,
      ⟨none, (some 34), .call 65 [(.t 32), (.t 33)]⟩,
      ⟨none, (some 2), .mv (.t 34)⟩,
      ⟨none, (some 3), .mv (.c (.int .i64 0))⟩])
    .ret)))))
theorem ok25 : FnOk Try.prog 25 35 2 c25 [.t 2, .t 3] := ⟨_, _, Try.func25, rfl, rfl, by kernel_rfl, by kernel_rfl⟩
theorem bd25 : bodied Try.prog 25 = true := by kernel_rfl

/-- ferrule/ferruleref01.Opens -/
def c26 : CI := (.seq (.reg [⟨none, (some 1), .box 0 true (.t 0)⟩,
      ⟨none, (some 2), .mv (.c (.int .i64 0))⟩,
      ⟨none, (some 3), .mv (.c (.int .i64 0))⟩])
    (.seq (.seq (.reg [⟨none, (some 9), .load true 7 (.t 1)⟩,
      ⟨none, (some 10), .call 15 [(.t 9)]⟩,
      ⟨none, (some 4), .mv (.t 10)⟩])
    (.seq (.reg [⟨none, (some 11), .mv (.t 4)⟩,
      ⟨none, (some 12), .bin .neq (.t 11) (.c (.int .i64 0))⟩])
    (.cond (.t 12) (.seq (.reg [⟨none, (some 13), .mv (.t 4)⟩,
      ⟨none, (some 2), .mv (.c (.int .i64 0))⟩,
      ⟨none, (some 3), .mv (.t 13)⟩])
    .ret)
    .skip)))
    (.seq (.reg [⟨none, (some 5), .mv (.c (.int .i64 1))⟩])
    (.seq (.seq (.reg [⟨none, (some 6), .mv (.c (.int .i64 0))⟩])
    (.block 0 (.loop (.seq (.seq (.reg [⟨none, (some 14), .mv (.t 6)⟩,
      ⟨none, (some 15), .faddr 0 (.t 1)⟩,
      ⟨none, (some 16), .load false 1 (.t 15)⟩,
      ⟨none, (some 17), .len (.t 16)⟩,
      ⟨none, (some 18), .bin .lss (.t 14) (.t 17)⟩])
    (.cond (.t 18) .skip
    (.exit 0)))
    (.seq (.block 1 (.seq (.reg [⟨none, (some 22), .load true 7 (.t 1)⟩,
      ⟨none, (some 23), .mv (.t 6)⟩,
      ⟨none, (some 24), .call 66 [(.t 22), (.t 23)]⟩,
      ⟨none, (some 21), .mv (.t 24)⟩,
      ⟨none, (some 25), .extract 0 (.t 21)⟩,
      ⟨none, (some 26), .extract 1 (.t 21)⟩,
      ⟨none, (some 7), .mv (.t 25)⟩,
      ⟨none, (some 8), .mv (.t 26)⟩])
    (.seq (.reg [⟨none, (some 27), .mv (.t 7)⟩,
      ⟨none, (some 28), .mv (.t 8)⟩,
      ⟨none, (some 29), .call 62 [(.t 27), (.t 28)]⟩])
    (.block 2 (.seq (.reg [⟨none, (some 31), .bin .eql (.t 29) (.c (.int .i64 2))⟩,
      ⟨none, (some 30), .mv (.t 31)⟩])
    (.cond (.t 30) (.seq (.reg [⟨none, (some 2), .mv (.c (.int .i64 2))⟩,
      ⟨none, (some 3), .mv (.c (.int .i64 0))⟩])
    .ret)
    (.seq (.reg [⟨none, (some 33), .bin .eql (.t 29) (.c (.int .i64 3))⟩,
      ⟨none, (some 32), .mv (.t 33)⟩])
    (.cond (.t 32) (.reg [⟨none, (some 5), .mv (.c (.int .i64 3))⟩])
    .skip))))))))
    (.reg [⟨none, (some 19), .mv (.t 6)⟩,
      ⟨none, (some 20), .bin .add (.t 19) (.c (.int .i64 1))⟩,
      ⟨none, (some 6), .mv (.t 20)⟩]))))))
    (.seq (.reg [⟨none, (some 34), .mv (.t 5)⟩,
      ⟨none, (some 2), .mv (.t 34)⟩,
      ⟨none, (some 3), .mv (.c (.int .i64 0))⟩])
    .ret)))))
theorem ok26 : FnOk Try.prog 26 35 1 c26 [.t 2, .t 3] := ⟨_, _, Try.func26, rfl, rfl, by kernel_rfl, by kernel_rfl⟩
theorem bd26 : bodied Try.prog 26 = true := by kernel_rfl

/-- ferrule/frames.Turns -/
def c27 : CI := (.seq (.reg [⟨none, (some 2), .box 0 true (.t 0)⟩,
      ⟨none, (some 4), .mv (.c (.int .i64 0))⟩,
      ⟨none, (some 5), .mv (.c (.int .i64 0))⟩])
    (.seq (.seq (.reg [⟨none, (some 7), .load true 7 (.t 2)⟩,
      ⟨none, (some 8), .mv (.t 1)⟩,
      ⟨none, (some 9), .call 67 [(.t 7), (.t 8)]⟩,
      ⟨none, (some 6), .mv (.t 9)⟩])
    (.seq (.reg [⟨none, (some 10), .mv (.t 6)⟩,
      ⟨none, (some 11), .bin .neq (.t 10) (.c (.int .i64 0))⟩])
    (.cond (.t 11) (.seq (.reg [⟨none, (some 12), .mv (.t 6)⟩,
      ⟨none, (some 4), .mv (.c (.int .i64 0))⟩,
      ⟨none, (some 5), .mv (.t 12)⟩])
    .ret)
    .skip)))
    (.seq (.reg [⟨none, (some 13), .faddr 0 (.t 2)⟩,
      ⟨none, (some 14), .load false 1 (.t 13)⟩,
      ⟨none, (some 15), .mv (.t 1)⟩,
      ⟨none, (some 16), .iaddr 7 (.t 14) (.t 15)⟩,
      ⟨none, (some 17), .load true 7 (.t 16)⟩,
      ⟨none, (some 18), .load true 7 (.t 2)⟩,
      ⟨none, (some 19), .mv (.t 1)⟩,
      ⟨none, (some 20), .callz 1 0 68 [(.t 18), (.t 19)] []⟩,
      ⟨none, (some 21), .call 59 [(.t 17), (.t 20)]⟩,
      ⟨none, (some 4), .mv (.t 21)⟩,
      ⟨none, (some 5), .mv (.c (.int .i64 0))⟩])
    .ret)))
theorem ok27 : FnOk Try.prog 27 22 1 c27 [.t 4, .t 5] := ⟨_, _, Try.func27, rfl, rfl, by kernel_rfl, by kernel_rfl⟩
theorem bd27 : bodied Try.prog 27 = true := by kernel_rfl

/-- ferrule/ferruleref01.Turns -/
def c28 : CI := (.seq (.reg [⟨none, (some 2), .box 0 true (.t 0)⟩,
      ⟨none, (some 4), .mv (.c (.int .i64 0))⟩,
      ⟨none, (some 5), .mv (.c (.int .i64 0))⟩])
    (.seq (.seq (.reg [⟨none, (some 10), .load true 7 (.t 2)⟩,
      ⟨none, (some 11), .load true 7 (.t 2)⟩,
      ⟨none, (some 12), .mv (.t 1)⟩,
      ⟨none, (some 13), .call 45 [(.t 11), (.t 12)]⟩,
      ⟨none, (some 14), .call 54 [(.t 10), (.t 13)]⟩,
      ⟨none, (some 6), .mv (.t 14)⟩])
    (.seq (.reg [⟨none, (some 15), .mv (.t 6)⟩,
      ⟨none, (some 16), .bin .neq (.t 15) (.c (.int .i64 0))⟩])
    (.cond (.t 16) (.seq (.reg [⟨none, (some 17), .mv (.t 6)⟩,
      ⟨none, (some 4), .mv (.c (.int .i64 0))⟩,
      ⟨none, (some 5), .mv (.t 17)⟩])
    .ret)
    .skip)))
    (.seq (.reg [⟨none, (some 18), .load true 7 (.t 2)⟩,
      ⟨none, (some 19), .mv (.t 1)⟩,
      ⟨none, (some 20), .callz 1 1 44 [(.t 18), (.t 19)] []⟩,
      ⟨none, (some 7), .mv (.t 20)⟩])
    (.seq (.reg [⟨none, (some 8), .mv (.c (.int .i64 0))⟩])
    (.seq (.seq (.reg [⟨none, (some 9), .mv (.c (.int .i64 0))⟩])
    (.block 0 (.loop (.seq (.seq (.reg [⟨none, (some 21), .mv (.t 9)⟩,
      ⟨none, (some 22), .mv (.t 7)⟩,
      ⟨none, (some 23), .len (.t 22)⟩,
      ⟨none, (some 24), .bin .lss (.t 21) (.t 23)⟩])
    (.cond (.t 24) .skip
    (.exit 0)))
    (.seq (.block 1 (.seq (.reg [⟨none, (some 27), .load true 7 (.t 2)⟩,
      ⟨none, (some 28), .mv (.t 1)⟩,
      ⟨none, (some 29), .mv (.t 7)⟩,
      ⟨none, (some 30), .mv (.t 9)⟩,
      ⟨none, (some 31), .iaddr 2 (.t 29) (.t 30)⟩,
      ⟨none, (some 32), .load true 2 (.t 31)⟩,
      ⟨none, (some 33), .call 43 [(.t 27), (.t 28), (.t 32)]⟩])
    (.cond (.t 33) (.reg [⟨none, (some 34), .mv (.t 8)⟩,
      ⟨none, (some 35), .bin .add (.t 34) (.c (.int .i64 1))⟩,
      ⟨none, (some 8), .mv (.t 35)⟩])
    .skip)))
    (.reg [⟨none, (some 25), .mv (.t 9)⟩,
      ⟨none, (some 26), .bin .add (.t 25) (.c (.int .i64 1))⟩,
      ⟨none, (some 9), .mv (.t 26)⟩]))))))
    (.seq (.reg [⟨none, (some 36), .mv (.t 8)⟩,
      ⟨none, (some 37), .mv (.t 7)⟩,
      ⟨none, (some 38), .len (.t 37)⟩,
      ⟨none, (some 39), .call 62 [(.t 36), (.t 38)]⟩,
      ⟨none, (some 4), .mv (.t 39)⟩,
      ⟨none, (some 5), .mv (.c (.int .i64 0))⟩])
    .ret))))))
theorem ok28 : FnOk Try.prog 28 40 2 c28 [.t 4, .t 5] := ⟨_, _, Try.func28, rfl, rfl, by kernel_rfl, by kernel_rfl⟩
theorem bd28 : bodied Try.prog 28 = true := by kernel_rfl

/-- ferrule/frames.Blame -/
def c29 : CI := (.seq (.reg [⟨none, (some 1), .box 0 true (.t 0)⟩,
      ⟨none, (some 2), .mv (.c .nils)⟩,
      ⟨none, (some 3), .mv (.c (.int .i64 0))⟩])
    (.seq (.seq (.reg [⟨none, (some 8), .load true 7 (.t 1)⟩,
      ⟨none, (some 9), .call 14 [(.t 8)]⟩,
      ⟨none, (some 4), .mv (.t 9)⟩])
    (.seq (.reg [⟨none, (some 10), .mv (.t 4)⟩,
      ⟨none, (some 11), .bin .neq (.t 10) (.c (.int .i64 0))⟩])
    (.cond (.t 11) (.seq (.reg [⟨none, (some 12), .mv (.t 4)⟩,
      ⟨none, (some 2), .mv (.c .nils)⟩,
      ⟨none, (some 3), .mv (.t 12)⟩])
    .ret)
    .skip)))
    (.seq (.reg [⟨none, (some 5), .mv (.c .nils)⟩])
    (.seq (.seq (.reg [⟨none, (some 13), .faddr 0 (.t 1)⟩,
      ⟨none, (some 14), .load false 1 (.t 13)⟩,
      ⟨none, (some 15), .len (.t 14)⟩,
      ⟨none, (some 16), .mv (.c (.int .i64 0))⟩])
    (.block 0 (.loop (.seq (.reg [⟨none, (some 17), .bin .lss (.t 16) (.t 15)⟩])
    (.seq (.cond (.t 17) .skip
    (.exit 0))
    (.seq (.block 1 (.seq (.reg [⟨none, (some 18), .mv (.t 16)⟩,
      ⟨none, (some 19), .iaddr 7 (.t 14) (.t 16)⟩,
      ⟨none, (some 20), .load true 7 (.t 19)⟩,
      ⟨none, (some 7), .alloc 1 [(.int .i64 0), (.int .i64 0), (.int .i64 0), (.int .i64 0), (.int .i64 0), (.int .i64 0), (.int .i64 0)]⟩,
      ⟨none, (some 6), .mv (.t 18)⟩,
      ⟨none, none, .store true 7 (.t 7) (.t 20) []⟩])
    (.seq (.reg [⟨none, (some 21), .load true 7 (.t 7)⟩,
      ⟨none, (some 22), .load true 7 (.t 1)⟩,
      ⟨none, (some 23), .mv (.t 6)⟩,
      ⟨none, (some 24), .callz 2 0 64 [(.t 22), (.t 23)] []⟩,
      ⟨none, (some 25), .call 59 [(.t 21), (.t 24)]⟩,
      ⟨none, (some 26), .bin .eql (.t 25) (.c (.int .i64 1))⟩])
    (.cond (.t 26) (.reg [⟨none, (some 27), .mv (.t 5)⟩,
      ⟨none, (some 28), .mv (.t 6)⟩,
      ⟨none, (some 29), .bsl 2 3 1 [(.t 28)] []⟩,
      ⟨none, (some 30), .apd 3 3 1 8 (.t 27) (.t 29) []⟩,
      ⟨none, (some 5), .mv (.t 30)⟩])
    .skip))))
    (.reg [⟨none, (some 31), .bin .add (.t 16) (.c (.int .i64 1))⟩,
      ⟨none, (some 16), .mv (.t 31)⟩])))))))
    (.seq (.reg [⟨none, (some 32), .mv (.t 5)⟩,
      ⟨none, (some 2), .mv (.t 32)⟩,
      ⟨none, (some 3), .mv (.c (.int .i64 0))⟩])
    .ret)))))
theorem ok29 : FnOk Try.prog 29 33 4 c29 [.t 2, .t 3] := ⟨_, _, Try.func29, rfl, rfl, by kernel_rfl, by kernel_rfl⟩
theorem bd29 : bodied Try.prog 29 = true := by kernel_rfl

/-- ferrule/ferruleref01.Blame -/
def c30 : CI := (.seq (.reg [⟨none, (some 1), .box 0 true (.t 0)⟩,
      ⟨none, (some 2), .mv (.c .nils)⟩,
      ⟨none, (some 3), .mv (.c (.int .i64 0))⟩])
    (.seq (.seq (.reg [⟨none, (some 9), .load true 7 (.t 1)⟩,
      ⟨none, (some 10), .call 15 [(.t 9)]⟩,
      ⟨none, (some 4), .mv (.t 10)⟩])
    (.seq (.reg [⟨none, (some 11), .mv (.t 4)⟩,
      ⟨none, (some 12), .bin .neq (.t 11) (.c (.int .i64 0))⟩])
    (.cond (.t 12) (.seq (.reg [⟨none, (some 13), .mv (.t 4)⟩,
      ⟨none, (some 2), .mv (.c .nils)⟩,
      ⟨none, (some 3), .mv (.t 13)⟩])
    .ret)
    .skip)))
    (.seq (.reg [⟨none, (some 5), .mv (.c .nils)⟩])
    (.seq (.seq (.reg [⟨none, (some 6), .mv (.c (.int .i64 0))⟩])
    (.block 0 (.loop (.seq (.seq (.reg [⟨none, (some 14), .mv (.t 6)⟩,
      ⟨none, (some 15), .faddr 0 (.t 1)⟩,
      ⟨none, (some 16), .load false 1 (.t 15)⟩,
      ⟨none, (some 17), .len (.t 16)⟩,
      ⟨none, (some 18), .bin .lss (.t 14) (.t 17)⟩])
    (.cond (.t 18) .skip
    (.exit 0)))
    (.seq (.block 1 (.seq (.reg [⟨none, (some 22), .load true 7 (.t 1)⟩,
      ⟨none, (some 23), .mv (.t 6)⟩,
      ⟨none, (some 24), .call 66 [(.t 22), (.t 23)]⟩,
      ⟨none, (some 21), .mv (.t 24)⟩,
      ⟨none, (some 25), .extract 0 (.t 21)⟩,
      ⟨none, (some 26), .extract 1 (.t 21)⟩,
      ⟨none, (some 7), .mv (.t 25)⟩,
      ⟨none, (some 8), .mv (.t 26)⟩])
    (.seq (.reg [⟨none, (some 27), .mv (.t 7)⟩,
      ⟨none, (some 28), .bin .eql (.t 27) (.c (.int .i64 0))⟩])
    (.cond (.t 28) (.reg [⟨none, (some 29), .mv (.t 5)⟩,
      ⟨none, (some 30), .mv (.t 6)⟩,
      ⟨none, (some 31), .bsl 1 3 1 [(.t 30)] []⟩,
      ⟨none, (some 32), .apd 2 3 1 8 (.t 29) (.t 31) []⟩,
      ⟨none, (some 5), .mv (.t 32)⟩])
    .skip))))
    (.reg [⟨none, (some 19), .mv (.t 6)⟩,
      ⟨none, (some 20), .bin .add (.t 19) (.c (.int .i64 1))⟩,
      ⟨none, (some 6), .mv (.t 20)⟩]))))))
    (.seq (.reg [⟨none, (some 33), .mv (.t 5)⟩,
      ⟨none, (some 2), .mv (.t 33)⟩,
      ⟨none, (some 3), .mv (.c (.int .i64 0))⟩])
    .ret)))))
theorem ok30 : FnOk Try.prog 30 34 3 c30 [.t 2, .t 3] := ⟨_, _, Try.func30, rfl, rfl, by kernel_rfl, by kernel_rfl⟩
theorem bd30 : bodied Try.prog 30 = true := by kernel_rfl

/-- ferrule/frames.Closes -/
def c31 : CI := (.seq (.reg [⟨none, (some 1), .box 0 true (.t 0)⟩,
      ⟨none, (some 2), .mv (.c (.int .i64 0))⟩,
      ⟨none, (some 3), .mv (.c (.int .i64 0))⟩])
    (.seq (.seq (.reg [⟨none, (some 9), .load true 7 (.t 1)⟩,
      ⟨none, (some 10), .call 14 [(.t 9)]⟩,
      ⟨none, (some 4), .mv (.t 10)⟩])
    (.seq (.reg [⟨none, (some 11), .mv (.t 4)⟩,
      ⟨none, (some 12), .bin .neq (.t 11) (.c (.int .i64 0))⟩])
    (.cond (.t 12) (.seq (.reg [⟨none, (some 13), .mv (.t 4)⟩,
      ⟨none, (some 2), .mv (.c (.int .i64 0))⟩,
      ⟨none, (some 3), .mv (.t 13)⟩])
    .ret)
    .skip)))
    (.seq (.reg [⟨none, (some 5), .mv (.c (.int .i64 0))⟩,
      ⟨none, (some 6), .mv (.c (.int .i64 0))⟩])
    (.seq (.seq (.reg [⟨none, (some 14), .faddr 0 (.t 1)⟩,
      ⟨none, (some 15), .load false 1 (.t 14)⟩,
      ⟨none, (some 16), .len (.t 15)⟩,
      ⟨none, (some 17), .mv (.c (.int .i64 0))⟩])
    (.block 0 (.loop (.seq (.reg [⟨none, (some 18), .bin .lss (.t 17) (.t 16)⟩])
    (.seq (.cond (.t 18) .skip
    (.exit 0))
    (.seq (.block 1 (.seq (.reg [⟨none, (some 19), .iaddr 7 (.t 15) (.t 17)⟩,
      ⟨none, (some 20), .load true 7 (.t 19)⟩,
      ⟨none, (some 8), .alloc 1 [(.int .i64 0), (.int .i64 0), (.int .i64 0), (.int .i64 0), (.int .i64 0), (.int .i64 0), (.int .i64 0)]⟩,
      ⟨none, none, .store true 7 (.t 8) (.t 20) []⟩])
    (.reg [⟨none, (some 21), .mv (.t 5)⟩,
      ⟨none, (some 22), .faddr 0 (.t 8)⟩,
      ⟨none, (some 23), .faddr 0 (.t 22)⟩,
      ⟨none, (some 24), .load false 1 (.t 23)⟩,
      ⟨none, (some 25), .mm true [(.t 21), (.t 24)]⟩,
      ⟨none, (some 26), .mv (.t 6)⟩,
      ⟨none, (some 27), .faddr 0 (.t 8)⟩,
      ⟨none, (some 28), .faddr 1 (.t 27)⟩,
      ⟨none, (some 29), .load false 1 (.t 28)⟩,
      ⟨none, (some 30), .mm true [(.t 26), (.t 29)]⟩,
      ⟨none, (some 5), .mv (.t 25)⟩,
      ⟨none, (some 6), .mv (.t 30)⟩])))
    (.reg [⟨none, (some 31), .bin .add (.t 17) (.c (.int .i64 1))⟩,
      ⟨none, (some 17), .mv (.t 31)⟩])))))))
    (.seq (.reg [⟨none, (some 32), .faddr 5 (.t 1)⟩,
      ⟨none, (some 33), .load false 1 (.t 32)⟩,
      ⟨none, (some 34), .mv (.t 6)⟩,
      ⟨none, (some 35), .bin .add (.t 33) (.t 34)⟩,
      ⟨none, (some 36), .faddr 6 (.t 1)⟩,
      ⟨none, (some 37), .load false 1 (.t 36)⟩,
      ⟨none, (some 38), .bin .leq (.t 35) (.t 37)⟩,
      ⟨none, (some 39), .faddr 5 (.t 1)⟩,
      ⟨none, (some 40), .load false 1 (.t 39)⟩,
      ⟨none, (some 41), .mv (.t 5)⟩,
      ⟨none, (some 42), .bin .add (.t 40) (.t 41)⟩,
      ⟨none, (some 43), .faddr 6 (.t 1)⟩,
      ⟨none, (some 44), .load false 1 (.t 43)⟩,
      ⟨none, (some 45), .bin .leq (.t 42) (.t 44)⟩,
      ⟨none, (some 46), .call 65 [(.t 38), (.t 45)]⟩,
      ⟨none, (some 2), .mv (.t 46)⟩,
      ⟨none, (some 3), .mv (.c (.int .i64 0))⟩])
    .ret)))))
theorem ok31 : FnOk Try.prog 31 47 2 c31 [.t 2, .t 3] := ⟨_, _, Try.func31, rfl, rfl, by kernel_rfl, by kernel_rfl⟩
theorem bd31 : bodied Try.prog 31 = true := by kernel_rfl

/-- ferrule/ferruleref01.Closes -/
def c32 : CI := (.seq (.reg [⟨none, (some 1), .box 0 true (.t 0)⟩,
      ⟨none, (some 2), .mv (.c (.int .i64 0))⟩,
      ⟨none, (some 3), .mv (.c (.int .i64 0))⟩])
    (.seq (.seq (.reg [⟨none, (some 8), .load true 7 (.t 1)⟩,
      ⟨none, (some 9), .call 15 [(.t 8)]⟩,
      ⟨none, (some 4), .mv (.t 9)⟩])
    (.seq (.reg [⟨none, (some 10), .mv (.t 4)⟩,
      ⟨none, (some 11), .bin .neq (.t 10) (.c (.int .i64 0))⟩])
    (.cond (.t 11) (.seq (.reg [⟨none, (some 12), .mv (.t 4)⟩,
      ⟨none, (some 2), .mv (.c (.int .i64 0))⟩,
      ⟨none, (some 3), .mv (.t 12)⟩])
    .ret)
    .skip)))
    (.seq (.reg [⟨none, (some 5), .mv (.c (.int .i64 0))⟩,
      ⟨none, (some 6), .mv (.c (.int .i64 0))⟩])
    (.seq (.seq (.reg [⟨none, (some 7), .mv (.c (.int .i64 0))⟩])
    (.block 0 (.loop (.seq (.seq (.reg [⟨none, (some 13), .mv (.t 7)⟩,
      ⟨none, (some 14), .faddr 0 (.t 1)⟩,
      ⟨none, (some 15), .load false 1 (.t 14)⟩,
      ⟨none, (some 16), .len (.t 15)⟩,
      ⟨none, (some 17), .bin .lss (.t 13) (.t 16)⟩])
    (.cond (.t 17) .skip
    (.exit 0)))
    (.seq (.block 1 (.reg [⟨none, (some 20), .mv (.t 5)⟩,
      ⟨none, (some 21), .faddr 0 (.t 1)⟩,
      ⟨none, (some 22), .load false 1 (.t 21)⟩,
      ⟨none, (some 23), .mv (.t 7)⟩,
      ⟨none, (some 24), .iaddr 7 (.t 22) (.t 23)⟩,
      ⟨none, (some 25), .faddr 0 (.t 24)⟩,
      ⟨none, (some 26), .faddr 0 (.t 25)⟩,
      ⟨none, (some 27), .load false 1 (.t 26)⟩,
      ⟨none, (some 28), .mm true [(.t 20), (.t 27)]⟩,
      ⟨none, (some 29), .mv (.t 6)⟩,
      ⟨none, (some 30), .faddr 0 (.t 1)⟩,
      ⟨none, (some 31), .load false 1 (.t 30)⟩,
      ⟨none, (some 32), .mv (.t 7)⟩,
      ⟨none, (some 33), .iaddr 7 (.t 31) (.t 32)⟩,
      ⟨none, (some 34), .faddr 0 (.t 33)⟩,
      ⟨none, (some 35), .faddr 1 (.t 34)⟩,
      ⟨none, (some 36), .load false 1 (.t 35)⟩,
      ⟨none, (some 37), .mm true [(.t 29), (.t 36)]⟩,
      ⟨none, (some 5), .mv (.t 28)⟩,
      ⟨none, (some 6), .mv (.t 37)⟩]))
    (.reg [⟨none, (some 18), .mv (.t 7)⟩,
      ⟨none, (some 19), .bin .add (.t 18) (.c (.int .i64 1))⟩,
      ⟨none, (some 7), .mv (.t 19)⟩]))))))
    (.seq (.block 2 (.seq (.reg [⟨none, (some 39), .faddr 5 (.t 1)⟩,
      ⟨none, (some 40), .load false 1 (.t 39)⟩,
      ⟨none, (some 41), .mv (.t 6)⟩,
      ⟨none, (some 42), .bin .add (.t 40) (.t 41)⟩,
      ⟨none, (some 43), .faddr 6 (.t 1)⟩,
      ⟨none, (some 44), .load false 1 (.t 43)⟩,
      ⟨none, (some 45), .bin .leq (.t 42) (.t 44)⟩,
      ⟨none, (some 38), .mv (.t 45)⟩])
    (.cond (.t 38) (.seq (.reg [⟨none, (some 2), .mv (.c (.int .i64 1))⟩,
      ⟨none, (some 3), .mv (.c (.int .i64 0))⟩])
    .ret)
    (.seq (.reg [⟨none, (some 47), .faddr 5 (.t 1)⟩,
      ⟨none, (some 48), .load false 1 (.t 47)⟩,
      ⟨none, (some 49), .mv (.t 5)⟩,
      ⟨none, (some 50), .bin .add (.t 48) (.t 49)⟩,
      ⟨none, (some 51), .faddr 6 (.t 1)⟩,
      ⟨none, (some 52), .load false 1 (.t 51)⟩,
      ⟨none, (some 53), .bin .gtr (.t 50) (.t 52)⟩,
      ⟨none, (some 46), .mv (.t 53)⟩])
    (.cond (.t 46) (.seq (.reg [⟨none, (some 2), .mv (.c (.int .i64 2))⟩,
      ⟨none, (some 3), .mv (.c (.int .i64 0))⟩])
    .ret)
    .skip)))))
    (.seq (.reg [⟨none, (some 2), .mv (.c (.int .i64 3))⟩,
      ⟨none, (some 3), .mv (.c (.int .i64 0))⟩])
    .ret))))))
theorem ok32 : FnOk Try.prog 32 54 1 c32 [.t 2, .t 3] := ⟨_, _, Try.func32, rfl, rfl, by kernel_rfl, by kernel_rfl⟩
theorem bd32 : bodied Try.prog 32 = true := by kernel_rfl

/-- ferrule/ferrulelaw01.sameInts -/
def c33 : CI := (.seq (.reg [⟨none, (some 4), .mv (.c (.bool false))⟩])
    (.seq (.seq (.reg [⟨none, (some 6), .mv (.t 0)⟩,
      ⟨none, (some 7), .len (.t 6)⟩,
      ⟨none, (some 8), .mv (.t 1)⟩,
      ⟨none, (some 9), .len (.t 8)⟩,
      ⟨none, (some 10), .bin .neq (.t 7) (.t 9)⟩])
    (.cond (.t 10) (.seq (.reg [⟨none, (some 4), .mv (.c (.bool false))⟩])
    .ret)
    .skip))
    (.seq (.seq (.reg [⟨none, (some 5), .mv (.c (.int .i64 0))⟩])
    (.block 0 (.loop (.seq (.seq (.reg [⟨none, (some 11), .mv (.t 5)⟩,
      ⟨none, (some 12), .mv (.t 0)⟩,
      ⟨none, (some 13), .len (.t 12)⟩,
      ⟨none, (some 14), .bin .lss (.t 11) (.t 13)⟩])
    (.cond (.t 14) .skip
    (.exit 0)))
    (.seq (.block 1 (.seq (.reg [⟨none, (some 17), .mv (.t 0)⟩,
      ⟨none, (some 18), .mv (.t 5)⟩,
      ⟨none, (some 19), .iaddr 1 (.t 17) (.t 18)⟩,
      ⟨none, (some 20), .load false 1 (.t 19)⟩,
      ⟨none, (some 21), .mv (.t 1)⟩,
      ⟨none, (some 22), .mv (.t 5)⟩,
      ⟨none, (some 23), .iaddr 1 (.t 21) (.t 22)⟩,
      ⟨none, (some 24), .load false 1 (.t 23)⟩,
      ⟨none, (some 25), .bin .neq (.t 20) (.t 24)⟩])
    (.cond (.t 25) (.seq (.reg [⟨none, (some 4), .mv (.c (.bool false))⟩])
    .ret)
    .skip)))
    (.reg [⟨none, (some 15), .mv (.t 5)⟩,
      ⟨none, (some 16), .bin .add (.t 15) (.c (.int .i64 1))⟩,
      ⟨none, (some 5), .mv (.t 16)⟩]))))))
    (.seq (.reg [⟨none, (some 4), .mv (.c (.bool true))⟩])
    .ret))))
theorem ok33 : FnOk Try.prog 33 26 0 c33 [.t 4] := ⟨_, _, Try.func33, rfl, rfl, by kernel_rfl, by kernel_rfl⟩
theorem bd33 : bodied Try.prog 33 = true := by kernel_rfl

/-- ferrule/ferrulelaw01.ready -/
def c34 : CI := (.seq (.reg [⟨none, (some 1), .box 0 true (.t 0)⟩,
      ⟨none, (some 2), .mv (.c (.bool false))⟩])
    (.seq (.reg [⟨none, (some 3), .load true 7 (.t 1)⟩,
      ⟨none, (some 4), .call 11 [(.t 3)]⟩,
      ⟨none, (some 5), .un .not (.t 4)⟩,
      ⟨none, (some 6), .mv (.t 5)⟩,
      ⟨(some (6, true)), (some 7), .load true 7 (.t 1)⟩,
      ⟨(some (6, true)), (some 8), .call 15 [(.t 7)]⟩,
      ⟨(some (6, true)), (some 9), .bin .eql (.t 8) (.c (.int .i64 0))⟩,
      ⟨none, (some 10), .pick (.t 6) (.t 9) (.c (.bool false))⟩,
      ⟨none, (some 2), .mv (.t 10)⟩])
    .ret))
theorem ok34 : FnOk Try.prog 34 11 1 c34 [.t 2] := ⟨_, _, Try.func34, rfl, rfl, by kernel_rfl, by kernel_rfl⟩
theorem bd34 : bodied Try.prog 34 = true := by kernel_rfl

/-- ferrule/ferrulelaw01.isAsk -/
def c35 : CI := (.seq (.reg [⟨none, (some 2), .box 0 true (.t 0)⟩,
      ⟨none, (some 3), .box 1 true (.t 1)⟩,
      ⟨none, (some 4), .mv (.c (.bool false))⟩])
    (.seq (.reg [⟨none, (some 5), .load true 7 (.t 2)⟩,
      ⟨none, (some 6), .faddr 0 (.t 3)⟩,
      ⟨none, (some 7), .load false 1 (.t 6)⟩,
      ⟨none, (some 8), .call 45 [(.t 5), (.t 7)]⟩,
      ⟨none, (some 9), .mv (.t 8)⟩,
      ⟨(some (9, true)), (some 10), .load true 7 (.t 2)⟩,
      ⟨(some (9, true)), (some 11), .faddr 1 (.t 3)⟩,
      ⟨(some (9, true)), (some 12), .load false 1 (.t 11)⟩,
      ⟨(some (9, true)), (some 13), .call 55 [(.t 10), (.t 12)]⟩,
      ⟨none, (some 14), .pick (.t 9) (.t 13) (.c (.bool false))⟩,
      ⟨none, (some 4), .mv (.t 14)⟩])
    .ret))
theorem ok35 : FnOk Try.prog 35 15 2 c35 [.t 4] := ⟨_, _, Try.func35, rfl, rfl, by kernel_rfl, by kernel_rfl⟩
theorem bd35 : bodied Try.prog 35 = true := by kernel_rfl

/-- ferrule/ferruleref01.IsPair -/
def c36 : CI := (.seq (.reg [⟨none, (some 3), .box 0 true (.t 0)⟩,
      ⟨none, (some 5), .box 1 true (.t 2)⟩,
      ⟨none, (some 6), .mv (.c (.bool false))⟩])
    (.seq (.reg [⟨none, (some 8), .faddr 0 (.t 3)⟩,
      ⟨none, (some 9), .load false 1 (.t 8)⟩,
      ⟨none, (some 10), .mv (.t 1)⟩,
      ⟨none, (some 11), .iaddr 7 (.t 9) (.t 10)⟩,
      ⟨none, (some 12), .load true 7 (.t 11)⟩,
      ⟨none, (some 7), .alloc 2 [(.int .i64 0), (.int .i64 0), (.int .i64 0), (.int .i64 0), (.int .i64 0), (.int .i64 0), (.int .i64 0)]⟩,
      ⟨none, none, .store true 7 (.t 7) (.t 12) []⟩])
    (.seq (.reg [⟨none, (some 13), .faddr 0 (.t 5)⟩,
      ⟨none, (some 14), .load false 1 (.t 13)⟩,
      ⟨none, (some 15), .faddr 0 (.t 7)⟩,
      ⟨none, (some 16), .faddr 0 (.t 15)⟩,
      ⟨none, (some 17), .load false 1 (.t 16)⟩,
      ⟨none, (some 18), .faddr 0 (.t 7)⟩,
      ⟨none, (some 19), .faddr 1 (.t 18)⟩,
      ⟨none, (some 20), .load false 1 (.t 19)⟩,
      ⟨none, (some 21), .call 50 [(.t 14), (.t 17), (.t 20)]⟩,
      ⟨none, (some 22), .mv (.t 21)⟩,
      ⟨(some (22, true)), (some 23), .faddr 1 (.t 5)⟩,
      ⟨(some (22, true)), (some 24), .load false 1 (.t 23)⟩,
      ⟨(some (22, true)), (some 25), .faddr 2 (.t 7)⟩,
      ⟨(some (22, true)), (some 26), .faddr 0 (.t 25)⟩,
      ⟨(some (22, true)), (some 27), .load false 1 (.t 26)⟩,
      ⟨(some (22, true)), (some 28), .faddr 2 (.t 7)⟩,
      ⟨(some (22, true)), (some 29), .faddr 1 (.t 28)⟩,
      ⟨(some (22, true)), (some 30), .load false 1 (.t 29)⟩,
      ⟨(some (22, true)), (some 31), .call 50 [(.t 24), (.t 27), (.t 30)]⟩,
      ⟨none, (some 32), .pick (.t 22) (.t 31) (.c (.bool false))⟩,
      ⟨none, (some 6), .mv (.t 32)⟩])
    .ret)))
theorem ok36 : FnOk Try.prog 36 33 3 c36 [.t 6] := ⟨_, _, Try.func36, rfl, rfl, by kernel_rfl, by kernel_rfl⟩
theorem bd36 : bodied Try.prog 36 = true := by kernel_rfl

/-- ferrule/ferruleref01.Free -/
def c37 : CI := (.seq (.reg [⟨none, (some 3), .box 0 true (.t 0)⟩,
      ⟨none, (some 5), .box 1 true (.t 2)⟩,
      ⟨none, (some 6), .mv (.c (.bool false))⟩])
    (.seq (.seq (.reg [⟨none, (some 8), .faddr 1 (.t 3)⟩,
      ⟨none, (some 9), .load false 1 (.t 8)⟩,
      ⟨none, (some 7), .mv (.t 9)⟩])
    (.block 0 (.loop (.seq (.seq (.reg [⟨none, (some 10), .mv (.t 7)⟩,
      ⟨none, (some 11), .faddr 2 (.t 3)⟩,
      ⟨none, (some 12), .load false 1 (.t 11)⟩,
      ⟨none, (some 13), .bin .leq (.t 10) (.t 12)⟩])
    (.cond (.t 13) .skip
    (.exit 0)))
    (.seq (.block 1 (.seq (.reg [⟨none, (some 16), .load true 7 (.t 3)⟩,
      ⟨none, (some 17), .mv (.t 1)⟩,
      ⟨none, (some 18), .mv (.t 7)⟩,
      ⟨none, (some 19), .load true 2 (.t 5)⟩,
      ⟨none, (some 20), .call 41 [(.t 16), (.t 17), (.t 18), (.t 19)]⟩])
    (.cond (.t 20) (.seq (.reg [⟨none, (some 6), .mv (.c (.bool false))⟩])
    .ret)
    .skip)))
    (.reg [⟨none, (some 14), .mv (.t 7)⟩,
      ⟨none, (some 15), .bin .add (.t 14) (.c (.int .i64 1))⟩,
      ⟨none, (some 7), .mv (.t 15)⟩]))))))
    (.seq (.reg [⟨none, (some 6), .mv (.c (.bool true))⟩])
    .ret)))
theorem ok37 : FnOk Try.prog 37 21 2 c37 [.t 6] := ⟨_, _, Try.func37, rfl, rfl, by kernel_rfl, by kernel_rfl⟩
theorem bd37 : bodied Try.prog 37 = true := by kernel_rfl

/-- ferrule/ferruleref01.CosineOf -/
def c38 : CI := (.seq (.reg [⟨none, (some 3), .box 0 true (.t 1)⟩,
      ⟨none, (some 4), .alloc 1 [(.int .i64 0), (.int .i64 0)]⟩,
      ⟨none, (some 5), .mv (.c (.bool false))⟩])
    (.seq (.seq (.reg [⟨none, (some 6), .mv (.t 0)⟩,
      ⟨none, (some 7), .bin .eql (.t 6) (.c (.int .i64 0))⟩])
    (.cond (.t 7) (.seq (.reg [⟨none, (some 8), .build [(.int .i64 0), (.int .i64 0)] []⟩,
      ⟨none, none, .store true 2 (.t 4) (.t 8) []⟩,
      ⟨none, (some 5), .mv (.c (.bool false))⟩])
    .ret)
    .skip))
    (.seq (.reg [⟨none, (some 9), .mv (.t 0)⟩,
      ⟨none, (some 10), .mv (.t 0)⟩,
      ⟨none, (some 11), .bin .mul (.t 9) (.t 10)⟩,
      ⟨none, (some 12), .faddr 0 (.t 3)⟩,
      ⟨none, (some 13), .load false 1 (.t 12)⟩,
      ⟨none, (some 14), .faddr 0 (.t 3)⟩,
      ⟨none, (some 15), .load false 1 (.t 14)⟩,
      ⟨none, (some 16), .bin .mul (.t 13) (.t 15)⟩,
      ⟨none, (some 17), .bin .add (.t 11) (.t 16)⟩,
      ⟨none, (some 18), .faddr 1 (.t 3)⟩,
      ⟨none, (some 19), .load false 1 (.t 18)⟩,
      ⟨none, (some 20), .faddr 1 (.t 3)⟩,
      ⟨none, (some 21), .load false 1 (.t 20)⟩,
      ⟨none, (some 22), .bin .mul (.t 19) (.t 21)⟩,
      ⟨none, (some 23), .bin .sub (.t 17) (.t 22)⟩,
      ⟨none, (some 24), .mv (.t 0)⟩,
      ⟨none, (some 25), .bin .mul (.c (.int .i64 2)) (.t 24)⟩,
      ⟨none, (some 26), .faddr 0 (.t 3)⟩,
      ⟨none, (some 27), .load false 1 (.t 26)⟩,
      ⟨none, (some 28), .bin .mul (.t 25) (.t 27)⟩,
      ⟨none, (some 29), .call 69 [(.t 23), (.t 28)]⟩,
      ⟨none, none, .store true 2 (.t 4) (.t 29) []⟩,
      ⟨none, (some 5), .mv (.c (.bool true))⟩])
    .ret)))
theorem ok38 : FnOk Try.prog 38 30 2 c38 [.cell 4 true 2, .t 5] := ⟨_, _, Try.func38, rfl, rfl, by kernel_rfl, by kernel_rfl⟩
theorem bd38 : bodied Try.prog 38 = true := by kernel_rfl

/-- ferrule/ferrulelaw01.isFrac -/
def c39 : CI := (.seq (.reg [⟨none, (some 1), .box 0 true (.t 0)⟩,
      ⟨none, (some 2), .mv (.c (.bool false))⟩])
    (.seq (.reg [⟨none, (some 3), .faddr 1 (.t 1)⟩,
      ⟨none, (some 4), .load false 1 (.t 3)⟩,
      ⟨none, (some 5), .bin .geq (.t 4) (.c (.int .i64 1))⟩,
      ⟨none, (some 6), .mv (.t 5)⟩,
      ⟨(some (6, true)), (some 7), .faddr 1 (.t 1)⟩,
      ⟨(some (6, true)), (some 8), .load false 1 (.t 7)⟩,
      ⟨(some (6, true)), (some 9), .bin .lss (.t 8) (.c (.int .i64 1073741824))⟩,
      ⟨none, (some 10), .pick (.t 6) (.t 9) (.c (.bool false))⟩,
      ⟨none, (some 11), .mv (.t 10)⟩,
      ⟨(some (11, true)), (some 12), .faddr 0 (.t 1)⟩,
      ⟨(some (11, true)), (some 13), .load false 1 (.t 12)⟩,
      ⟨(some (11, true)), (some 14), .bin .gtr (.t 13) (.c (.int .i64 (-1073741824)))⟩,
      ⟨none, (some 15), .pick (.t 11) (.t 14) (.c (.bool false))⟩,
      ⟨none, (some 16), .mv (.t 15)⟩,
      ⟨(some (16, true)), (some 17), .faddr 0 (.t 1)⟩,
      ⟨(some (16, true)), (some 18), .load false 1 (.t 17)⟩,
      ⟨(some (16, true)), (some 19), .bin .lss (.t 18) (.c (.int .i64 1073741824))⟩,
      ⟨none, (some 20), .pick (.t 16) (.t 19) (.c (.bool false))⟩,
      ⟨none, (some 2), .mv (.t 20)⟩])
    .ret))
theorem ok39 : FnOk Try.prog 39 21 1 c39 [.t 2] := ⟨_, _, Try.func39, rfl, rfl, by kernel_rfl, by kernel_rfl⟩
theorem bd39 : bodied Try.prog 39 = true := by kernel_rfl

/-- ferrule/ferruleref01.Less -/
def c40 : CI := (.seq (.reg [⟨none, (some 2), .box 0 true (.t 0)⟩,
      ⟨none, (some 3), .box 1 true (.t 1)⟩,
      ⟨none, (some 4), .mv (.c (.bool false))⟩])
    (.seq (.reg [⟨none, (some 5), .faddr 0 (.t 2)⟩,
      ⟨none, (some 6), .load false 1 (.t 5)⟩,
      ⟨none, (some 7), .faddr 1 (.t 3)⟩,
      ⟨none, (some 8), .load false 1 (.t 7)⟩,
      ⟨none, (some 9), .bin .mul (.t 6) (.t 8)⟩,
      ⟨none, (some 10), .faddr 0 (.t 3)⟩,
      ⟨none, (some 11), .load false 1 (.t 10)⟩,
      ⟨none, (some 12), .faddr 1 (.t 2)⟩,
      ⟨none, (some 13), .load false 1 (.t 12)⟩,
      ⟨none, (some 14), .bin .mul (.t 11) (.t 13)⟩,
      ⟨none, (some 15), .bin .lss (.t 9) (.t 14)⟩,
      ⟨none, (some 4), .mv (.t 15)⟩])
    .ret))
theorem ok40 : FnOk Try.prog 40 16 2 c40 [.t 4] := ⟨_, _, Try.func40, rfl, rfl, by kernel_rfl, by kernel_rfl⟩
theorem bd40 : bodied Try.prog 40 = true := by kernel_rfl

/-- ferrule/ferruleref01.BindsAt -/
def c41 : CI := (.seq (.reg [⟨none, (some 4), .box 0 true (.t 0)⟩,
      ⟨none, (some 7), .box 1 true (.t 3)⟩,
      ⟨none, (some 8), .mv (.c (.bool false))⟩])
    (.seq (.reg [⟨none, (some 13), .load true 7 (.t 4)⟩,
      ⟨none, (some 14), .mv (.t 1)⟩,
      ⟨none, (some 15), .mv (.t 2)⟩,
      ⟨none, (some 17), .load true 2 (.t 7)⟩,
      ⟨none, (some 9), .alloc 2 [(.int .i64 0), (.int .i64 0)]⟩,
      ⟨none, (some 16), .call 56 [(.t 13), (.t 14), (.t 15)]⟩,
      ⟨none, (some 18), .call 38 [(.t 16), (.t 17)]⟩,
      ⟨none, (some 12), .mv (.t 18)⟩,
      ⟨none, (some 19), .extract 0 (.t 12)⟩,
      ⟨none, (some 20), .extract 1 (.t 12)⟩,
      ⟨none, none, .store true 2 (.t 9) (.t 19) []⟩,
      ⟨none, (some 10), .mv (.t 20)⟩])
    (.seq (.reg [⟨none, (some 21), .faddr 3 (.t 4)⟩,
      ⟨none, (some 22), .faddr 1 (.t 21)⟩,
      ⟨none, (some 23), .load false 1 (.t 22)⟩,
      ⟨none, (some 24), .faddr 3 (.t 4)⟩,
      ⟨none, (some 25), .faddr 0 (.t 24)⟩,
      ⟨none, (some 26), .load false 1 (.t 25)⟩,
      ⟨none, (some 27), .bin .sub (.t 23) (.t 26)⟩,
      ⟨none, (some 28), .faddr 3 (.t 4)⟩,
      ⟨none, (some 29), .faddr 1 (.t 28)⟩,
      ⟨none, (some 30), .load false 1 (.t 29)⟩,
      ⟨none, (some 31), .build [(.int .i64 0), (.int .i64 0)] [(0, 1, (.t 27)), (1, 1, (.t 30))]⟩,
      ⟨none, (some 11), .alloc 3 [(.int .i64 0), (.int .i64 0)]⟩,
      ⟨none, none, .store true 2 (.t 11) (.t 31) []⟩])
    (.seq (.reg [⟨none, (some 32), .mv (.t 10)⟩,
      ⟨none, (some 33), .un .not (.t 32)⟩,
      ⟨none, (some 34), .mv (.t 33)⟩,
      ⟨(some (34, false)), (some 35), .load true 2 (.t 9)⟩,
      ⟨(some (34, false)), (some 36), .load true 2 (.t 11)⟩,
      ⟨(some (34, false)), (some 37), .call 40 [(.t 35), (.t 36)]⟩,
      ⟨(some (34, false)), (some 38), .un .not (.t 37)⟩,
      ⟨none, (some 39), .pick (.t 34) (.c (.bool true)) (.t 38)⟩,
      ⟨none, (some 40), .mv (.t 39)⟩,
      ⟨(some (40, false)), (some 41), .faddr 0 (.t 11)⟩,
      ⟨(some (40, false)), (some 42), .load false 1 (.t 41)⟩,
      ⟨(some (40, false)), (some 43), .un .neg (.t 42)⟩,
      ⟨(some (40, false)), (some 44), .faddr 1 (.t 11)⟩,
      ⟨(some (40, false)), (some 45), .load false 1 (.t 44)⟩,
      ⟨(some (40, false)), (some 46), .build [(.int .i64 0), (.int .i64 0)] [(0, 1, (.t 43)), (1, 1, (.t 45))]⟩,
      ⟨(some (40, false)), (some 47), .load true 2 (.t 9)⟩,
      ⟨(some (40, false)), (some 48), .call 40 [(.t 46), (.t 47)]⟩,
      ⟨(some (40, false)), (some 49), .un .not (.t 48)⟩,
      ⟨none, (some 50), .pick (.t 40) (.c (.bool true)) (.t 49)⟩,
      ⟨none, (some 8), .mv (.t 50)⟩])
    .ret))))
theorem ok41 : FnOk Try.prog 41 51 4 c41 [.t 8] := ⟨_, _, Try.func41, rfl, rfl, by kernel_rfl, by kernel_rfl⟩
theorem bd41 : bodied Try.prog 41 = true := by kernel_rfl

/-- ferrule/ferrulelaw01.agrees -/
def c42 : CI := (.seq (.reg [⟨none, (some 4), .mv (.c (.bool false))⟩])
    (.seq (.seq (.reg [⟨none, (some 5), .mv (.t 0)⟩])
    (.block 0 (.seq (.reg [⟨none, (some 7), .bin .eql (.t 5) (.c (.int .i64 1))⟩,
      ⟨none, (some 6), .mv (.t 7)⟩])
    (.cond (.t 6) (.seq (.reg [⟨none, (some 8), .mv (.t 1)⟩,
      ⟨none, (some 4), .mv (.t 8)⟩])
    .ret)
    (.seq (.reg [⟨none, (some 10), .bin .eql (.t 5) (.c (.int .i64 2))⟩,
      ⟨none, (some 9), .mv (.t 10)⟩])
    (.cond (.t 9) (.seq (.reg [⟨none, (some 11), .mv (.t 1)⟩,
      ⟨none, (some 12), .un .not (.t 11)⟩,
      ⟨none, (some 4), .mv (.t 12)⟩])
    .ret)
    .skip))))))
    (.seq (.reg [⟨none, (some 13), .mv (.t 0)⟩,
      ⟨none, (some 14), .bin .eql (.t 13) (.c (.int .i64 3))⟩,
      ⟨none, (some 4), .mv (.t 14)⟩])
    .ret)))
theorem ok42 : FnOk Try.prog 42 15 0 c42 [.t 4] := ⟨_, _, Try.func42, rfl, rfl, by kernel_rfl, by kernel_rfl⟩
theorem bd42 : bodied Try.prog 42 = true := by kernel_rfl

/-- ferrule/ferruleref01.TurnsWith -/
def c43 : CI := (.seq (.reg [⟨none, (some 3), .box 0 true (.t 0)⟩,
      ⟨none, (some 5), .box 1 true (.t 2)⟩,
      ⟨none, (some 6), .mv (.c (.bool false))⟩])
    (.seq (.seq (.reg [⟨none, (some 12), .faddr 1 (.t 3)⟩,
      ⟨none, (some 13), .load false 1 (.t 12)⟩,
      ⟨none, (some 14), .bin .add (.t 13) (.c (.int .i64 1))⟩,
      ⟨none, (some 7), .mv (.t 14)⟩])
    (.block 0 (.loop (.seq (.seq (.reg [⟨none, (some 15), .mv (.t 7)⟩,
      ⟨none, (some 16), .faddr 2 (.t 3)⟩,
      ⟨none, (some 17), .load false 1 (.t 16)⟩,
      ⟨none, (some 18), .bin .leq (.t 15) (.t 17)⟩])
    (.cond (.t 18) .skip
    (.exit 0)))
    (.seq (.block 1 (.seq (.reg [⟨none, (some 22), .load true 7 (.t 3)⟩,
      ⟨none, (some 23), .mv (.t 1)⟩,
      ⟨none, (some 24), .mv (.t 7)⟩,
      ⟨none, (some 25), .bin .sub (.t 24) (.c (.int .i64 1))⟩,
      ⟨none, (some 27), .load true 2 (.t 5)⟩,
      ⟨none, (some 8), .alloc 2 [(.int .i64 0), (.int .i64 0)]⟩,
      ⟨none, (some 26), .call 56 [(.t 22), (.t 23), (.t 25)]⟩,
      ⟨none, (some 28), .call 38 [(.t 26), (.t 27)]⟩,
      ⟨none, (some 21), .mv (.t 28)⟩,
      ⟨none, (some 29), .extract 0 (.t 21)⟩,
      ⟨none, (some 30), .extract 1 (.t 21)⟩,
      ⟨none, none, .store true 2 (.t 8) (.t 29) []⟩,
      ⟨none, (some 9), .mv (.t 30)⟩])
    (.seq (.reg [⟨none, (some 32), .load true 7 (.t 3)⟩,
      ⟨none, (some 33), .mv (.t 1)⟩,
      ⟨none, (some 34), .mv (.t 7)⟩,
      ⟨none, (some 36), .load true 2 (.t 5)⟩,
      ⟨none, (some 10), .alloc 3 [(.int .i64 0), (.int .i64 0)]⟩,
      ⟨none, (some 35), .call 56 [(.t 32), (.t 33), (.t 34)]⟩,
      ⟨none, (some 37), .call 38 [(.t 35), (.t 36)]⟩,
      ⟨none, (some 31), .mv (.t 37)⟩,
      ⟨none, (some 38), .extract 0 (.t 31)⟩,
      ⟨none, (some 39), .extract 1 (.t 31)⟩,
      ⟨none, none, .store true 2 (.t 10) (.t 38) []⟩,
      ⟨none, (some 11), .mv (.t 39)⟩])
    (.seq (.reg [⟨none, (some 40), .mv (.t 9)⟩,
      ⟨none, (some 41), .mv (.t 40)⟩,
      ⟨(some (41, true)), (some 42), .mv (.t 11)⟩,
      ⟨none, (some 43), .pick (.t 41) (.t 42) (.c (.bool false))⟩,
      ⟨none, (some 44), .mv (.t 43)⟩,
      ⟨(some (44, true)), (some 45), .load true 2 (.t 10)⟩,
      ⟨(some (44, true)), (some 46), .load true 2 (.t 8)⟩,
      ⟨(some (44, true)), (some 47), .call 40 [(.t 45), (.t 46)]⟩,
      ⟨none, (some 48), .pick (.t 44) (.t 47) (.c (.bool false))⟩])
    (.cond (.t 48) (.seq (.reg [⟨none, (some 6), .mv (.c (.bool true))⟩])
    .ret)
    .skip)))))
    (.reg [⟨none, (some 19), .mv (.t 7)⟩,
      ⟨none, (some 20), .bin .add (.t 19) (.c (.int .i64 1))⟩,
      ⟨none, (some 7), .mv (.t 20)⟩]))))))
    (.seq (.reg [⟨none, (some 6), .mv (.c (.bool false))⟩])
    .ret)))
theorem ok43 : FnOk Try.prog 43 49 4 c43 [.t 6] := ⟨_, _, Try.func43, rfl, rfl, by kernel_rfl, by kernel_rfl⟩
theorem bd43 : bodied Try.prog 43 = true := by kernel_rfl

/-- ferrule/ferruleref01.Pairs -/
def c44 : CI := (.seq (.reg [⟨none, (some 2), .box 0 true (.t 0)⟩,
      ⟨none, (some 4), .mv (.c .nils)⟩])
    (.seq (.reg [⟨none, (some 9), .faddr 0 (.t 2)⟩,
      ⟨none, (some 10), .load false 1 (.t 9)⟩,
      ⟨none, (some 11), .mv (.t 1)⟩,
      ⟨none, (some 12), .iaddr 7 (.t 10) (.t 11)⟩,
      ⟨none, (some 13), .load true 7 (.t 12)⟩,
      ⟨none, (some 5), .alloc 1 [(.int .i64 0), (.int .i64 0), (.int .i64 0), (.int .i64 0), (.int .i64 0), (.int .i64 0), (.int .i64 0)]⟩,
      ⟨none, none, .store true 7 (.t 5) (.t 13) []⟩])
    (.seq (.reg [⟨none, (some 6), .mv (.c .nils)⟩])
    (.seq (.seq (.reg [⟨none, (some 14), .faddr 0 (.t 5)⟩,
      ⟨none, (some 15), .faddr 0 (.t 14)⟩,
      ⟨none, (some 16), .load false 1 (.t 15)⟩,
      ⟨none, (some 7), .mv (.t 16)⟩])
    (.block 0 (.loop (.seq (.seq (.reg [⟨none, (some 17), .mv (.t 7)⟩,
      ⟨none, (some 18), .faddr 0 (.t 5)⟩,
      ⟨none, (some 19), .faddr 1 (.t 18)⟩,
      ⟨none, (some 20), .load false 1 (.t 19)⟩,
      ⟨none, (some 21), .bin .leq (.t 17) (.t 20)⟩])
    (.cond (.t 21) .skip
    (.exit 0)))
    (.seq (.block 1 (.seq (.reg [⟨none, (some 24), .faddr 2 (.t 5)⟩,
      ⟨none, (some 25), .faddr 0 (.t 24)⟩,
      ⟨none, (some 26), .load false 1 (.t 25)⟩,
      ⟨none, (some 8), .mv (.t 26)⟩])
    (.block 2 (.loop (.seq (.seq (.reg [⟨none, (some 27), .mv (.t 8)⟩,
      ⟨none, (some 28), .faddr 2 (.t 5)⟩,
      ⟨none, (some 29), .faddr 1 (.t 28)⟩,
      ⟨none, (some 30), .load false 1 (.t 29)⟩,
      ⟨none, (some 31), .bin .leq (.t 27) (.t 30)⟩])
    (.cond (.t 31) .skip
    (.exit 2)))
    (.seq (.block 3 (.reg [⟨none, (some 34), .mv (.t 6)⟩,
      ⟨none, (some 35), .mv (.t 7)⟩,
      ⟨none, (some 36), .mv (.t 8)⟩,
      ⟨none, (some 37), .build [(.int .i64 0), (.int .i64 0)] [(0, 1, (.t 35)), (1, 1, (.t 36))]⟩,
      ⟨none, (some 38), .bsl 2 52 2 [(.t 37)] []⟩,
      ⟨none, (some 39), .apd 3 52 2 16 (.t 34) (.t 38) []⟩,
      ⟨none, (some 6), .mv (.t 39)⟩]))
    (.reg [⟨none, (some 32), .mv (.t 8)⟩,
      ⟨none, (some 33), .bin .add (.t 32) (.c (.int .i64 1))⟩,
      ⟨none, (some 8), .mv (.t 33)⟩])))))))
    (.reg [⟨none, (some 22), .mv (.t 7)⟩,
      ⟨none, (some 23), .bin .add (.t 22) (.c (.int .i64 1))⟩,
      ⟨none, (some 7), .mv (.t 23)⟩]))))))
    (.seq (.reg [⟨none, (some 40), .mv (.t 6)⟩,
      ⟨none, (some 4), .mv (.t 40)⟩])
    .ret)))))
theorem ok44 : FnOk Try.prog 44 41 4 c44 [.t 4] := ⟨_, _, Try.func44, rfl, rfl, by kernel_rfl, by kernel_rfl⟩
theorem bd44 : bodied Try.prog 44 = true := by kernel_rfl

/-- ferrule/ferruleref01.IsSection -/
def c45 : CI := (.seq (.reg [⟨none, (some 2), .box 0 true (.t 0)⟩,
      ⟨none, (some 4), .mv (.c (.bool false))⟩])
    (.seq (.reg [⟨none, (some 5), .mv (.t 1)⟩,
      ⟨none, (some 6), .faddr 0 (.t 2)⟩,
      ⟨none, (some 7), .load false 1 (.t 6)⟩,
      ⟨none, (some 8), .len (.t 7)⟩,
      ⟨none, (some 9), .bin .sub (.t 8) (.c (.int .i64 1))⟩,
      ⟨none, (some 10), .call 50 [(.t 5), (.c (.int .i64 0)), (.t 9)]⟩,
      ⟨none, (some 4), .mv (.t 10)⟩])
    .ret))
theorem ok45 : FnOk Try.prog 45 11 1 c45 [.t 4] := ⟨_, _, Try.func45, rfl, rfl, by kernel_rfl, by kernel_rfl⟩
theorem bd45 : bodied Try.prog 45 = true := by kernel_rfl

/-- ferrule/ferrulelaw01.single -/
def c46 : CI := (.seq (.reg [⟨none, (some 2), .box 0 true (.t 0)⟩,
      ⟨none, (some 4), .alloc 1 [.nils, (.int .i64 0), (.int .i64 0), (.int .i64 0), (.int .i64 0), (.int .i64 0), (.int .i64 0)]⟩])
    (.seq (.reg [⟨none, (some 5), .faddr 0 (.t 2)⟩,
      ⟨none, (some 6), .load false 1 (.t 5)⟩,
      ⟨none, (some 7), .faddr 0 (.t 2)⟩,
      ⟨none, (some 8), .load false 1 (.t 7)⟩,
      ⟨none, (some 9), .build [(.int .i64 0), (.int .i64 0)] [(0, 1, (.t 6)), (1, 1, (.t 8))]⟩,
      ⟨none, (some 10), .faddr 1 (.t 2)⟩,
      ⟨none, (some 11), .load false 1 (.t 10)⟩,
      ⟨none, (some 12), .faddr 1 (.t 2)⟩,
      ⟨none, (some 13), .load false 1 (.t 12)⟩,
      ⟨none, (some 14), .build [(.int .i64 0), (.int .i64 0)] [(0, 1, (.t 11)), (1, 1, (.t 13))]⟩,
      ⟨none, (some 15), .build [(.int .i64 0), (.int .i64 0)] [(1, 1, (.c (.int .i64 1)))]⟩,
      ⟨none, (some 16), .build [(.int .i64 0), (.int .i64 0), (.int .i64 0), (.int .i64 0), (.int .i64 0), (.int .i64 0), (.int .i64 0)] [(0, 2, (.t 9)), (2, 2, (.t 14)), (5, 2, (.t 15))]⟩,
      ⟨none, (some 17), .bsl 2 66 7 [(.t 16)] []⟩,
      ⟨none, (some 18), .mv (.t 1)⟩,
      ⟨none, (some 19), .mv (.t 1)⟩,
      ⟨none, (some 20), .build [(.int .i64 0), (.int .i64 0)] [(0, 1, (.c (.int .i64 1))), (1, 1, (.c (.int .i64 10)))]⟩,
      ⟨none, (some 21), .build [.nils, (.int .i64 0), (.int .i64 0), (.int .i64 0), (.int .i64 0), (.int .i64 0), (.int .i64 0)] [(0, 1, (.t 17)), (1, 1, (.t 18)), (2, 1, (.t 19)), (3, 2, (.t 20))]⟩,
      ⟨none, none, .store true 7 (.t 4) (.t 21) []⟩])
    .ret))
theorem ok46 : FnOk Try.prog 46 22 3 c46 [.cell 4 true 7] := ⟨_, _, Try.func46, rfl, rfl, by kernel_rfl, by kernel_rfl⟩
theorem bd46 : bodied Try.prog 46 = true := by kernel_rfl

/-- ferrule/ferrulelaw01.Example -/
def c47 : CI := (.seq (.reg [⟨none, (some 0), .alloc 0 [.nils, (.int .i64 0), (.int .i64 0), (.int .i64 0), (.int .i64 0), (.int .i64 0), (.int .i64 0)]⟩])
    (.seq (.reg [⟨none, (some 1), .build [(.int .i64 0), (.int .i64 0)] [(0, 1, (.c (.int .i64 50))), (1, 1, (.c (.int .i64 52)))]⟩,
      ⟨none, (some 2), .build [(.int .i64 0), (.int .i64 0)] [(0, 1, (.c (.int .i64 60))), (1, 1, (.c (.int .i64 60)))]⟩,
      ⟨none, (some 3), .build [(.int .i64 0), (.int .i64 0)] [(0, 1, (.c (.int .i64 1))), (1, 1, (.c (.int .i64 1)))]⟩,
      ⟨none, (some 4), .build [(.int .i64 0), (.int .i64 0), (.int .i64 0), (.int .i64 0), (.int .i64 0), (.int .i64 0), (.int .i64 0)] [(0, 2, (.t 1)), (2, 2, (.t 2)), (5, 2, (.t 3))]⟩,
      ⟨none, (some 5), .build [(.int .i64 0), (.int .i64 0)] [(0, 1, (.c (.int .i64 40))), (1, 1, (.c (.int .i64 40)))]⟩,
      ⟨none, (some 6), .build [(.int .i64 0), (.int .i64 0)] [(0, 1, (.c (.int .i64 45))), (1, 1, (.c (.int .i64 46)))]⟩,
      ⟨none, (some 7), .build [(.int .i64 0), (.int .i64 0)] [(0, 1, (.c (.int .i64 1))), (1, 1, (.c (.int .i64 2)))]⟩,
      ⟨none, (some 8), .build [(.int .i64 0), (.int .i64 0), (.int .i64 0), (.int .i64 0), (.int .i64 0), (.int .i64 0), (.int .i64 0)] [(0, 2, (.t 5)), (2, 2, (.t 6)), (4, 1, (.c (.int .i64 5))), (5, 2, (.t 7))]⟩,
      ⟨none, (some 9), .bsl 1 66 7 [(.t 4), (.t 8)] []⟩,
      ⟨none, (some 10), .build [(.int .i64 0), (.int .i64 0)] [(0, 1, (.c (.int .i64 1))), (1, 1, (.c (.int .i64 20)))]⟩,
      ⟨none, (some 11), .build [.nils, (.int .i64 0), (.int .i64 0), (.int .i64 0), (.int .i64 0), (.int .i64 0), (.int .i64 0)] [(0, 1, (.t 9)), (1, 1, (.c (.int .i64 20))), (2, 1, (.c (.int .i64 100))), (3, 2, (.t 10)), (5, 1, (.c (.int .i64 300))), (6, 1, (.c (.int .i64 351)))]⟩,
      ⟨none, none, .store true 7 (.t 0) (.t 11) []⟩])
    .ret))
theorem ok47 : FnOk Try.prog 47 12 2 c47 [.cell 0 true 7] := ⟨_, _, Try.func47, rfl, rfl, by kernel_rfl, by kernel_rfl⟩
theorem bd47 : bodied Try.prog 47 = true := by kernel_rfl

/-- ferrule/frames.valid -/
def c48 : CI := (.seq (.reg [⟨none, (some 1), .box 0 true (.t 0)⟩,
      ⟨none, (some 2), .mv (.c (.bool false))⟩])
    (.seq (.seq (.reg [⟨none, (some 5), .faddr 0 (.t 1)⟩,
      ⟨none, (some 6), .load false 1 (.t 5)⟩,
      ⟨none, (some 7), .len (.t 6)⟩,
      ⟨none, (some 8), .bin .lss (.t 7) (.c (.int .i64 1))⟩,
      ⟨none, (some 9), .mv (.t 8)⟩,
      ⟨(some (9, false)), (some 10), .faddr 0 (.t 1)⟩,
      ⟨(some (9, false)), (some 11), .load false 1 (.t 10)⟩,
      ⟨(some (9, false)), (some 12), .len (.t 11)⟩,
      ⟨(some (9, false)), (some 13), .bin .gtr (.t 12) (.c (.int .i64 3))⟩,
      ⟨none, (some 14), .pick (.t 9) (.c (.bool true)) (.t 13)⟩])
    (.cond (.t 14) (.seq (.reg [⟨none, (some 2), .mv (.c (.bool false))⟩])
    .ret)
    .skip))
    (.seq (.seq (.reg [⟨none, (some 15), .faddr 0 (.t 1)⟩,
      ⟨none, (some 16), .load false 1 (.t 15)⟩,
      ⟨none, (some 17), .len (.t 16)⟩,
      ⟨none, (some 18), .mv (.c (.int .i64 0))⟩])
    (.block 0 (.loop (.seq (.reg [⟨none, (some 19), .bin .lss (.t 18) (.t 17)⟩])
    (.seq (.cond (.t 19) .skip
    (.exit 0))
    (.seq (.block 1 (.seq (.reg [⟨none, (some 20), .iaddr 7 (.t 16) (.t 18)⟩,
      ⟨none, (some 21), .load true 7 (.t 20)⟩,
      ⟨none, (some 4), .alloc 1 [(.int .i64 0), (.int .i64 0), (.int .i64 0), (.int .i64 0), (.int .i64 0), (.int .i64 0), (.int .i64 0)]⟩,
      ⟨none, none, .store true 7 (.t 4) (.t 21) []⟩])
    (.seq (.reg [⟨none, (some 22), .load true 7 (.t 4)⟩,
      ⟨none, (some 23), .call 70 [(.t 22)]⟩,
      ⟨none, (some 24), .un .not (.t 23)⟩])
    (.cond (.t 24) (.seq (.reg [⟨none, (some 2), .mv (.c (.bool false))⟩])
    .ret)
    .skip))))
    (.reg [⟨none, (some 25), .bin .add (.t 18) (.c (.int .i64 1))⟩,
      ⟨none, (some 18), .mv (.t 25)⟩])))))))
    (.seq (.reg [⟨none, (some 26), .faddr 1 (.t 1)⟩,
      ⟨none, (some 27), .load false 1 (.t 26)⟩,
      ⟨none, (some 28), .faddr 2 (.t 1)⟩,
      ⟨none, (some 29), .load false 1 (.t 28)⟩,
      ⟨none, (some 30), .build [(.int .i64 0), (.int .i64 0)] [(0, 1, (.t 27)), (1, 1, (.t 29))]⟩,
      ⟨none, (some 31), .call 71 [(.t 30), (.c (.int .i64 200))]⟩,
      ⟨none, (some 32), .mv (.t 31)⟩,
      ⟨(some (32, true)), (some 33), .faddr 3 (.t 1)⟩,
      ⟨(some (32, true)), (some 34), .load true 2 (.t 33)⟩,
      ⟨(some (32, true)), (some 35), .call 72 [(.t 34)]⟩,
      ⟨none, (some 36), .pick (.t 32) (.t 35) (.c (.bool false))⟩,
      ⟨none, (some 37), .mv (.t 36)⟩,
      ⟨(some (37, true)), (some 38), .faddr 5 (.t 1)⟩,
      ⟨(some (37, true)), (some 39), .load false 1 (.t 38)⟩,
      ⟨(some (37, true)), (some 40), .call 73 [(.t 39), (.c (.int .i64 0)), (.c (.int .i64 4000))]⟩,
      ⟨none, (some 41), .pick (.t 37) (.t 40) (.c (.bool false))⟩,
      ⟨none, (some 42), .mv (.t 41)⟩,
      ⟨(some (42, true)), (some 43), .faddr 6 (.t 1)⟩,
      ⟨(some (42, true)), (some 44), .load false 1 (.t 43)⟩,
      ⟨(some (42, true)), (some 45), .call 73 [(.t 44), (.c (.int .i64 0)), (.c (.int .i64 4000))]⟩,
      ⟨none, (some 46), .pick (.t 42) (.t 45) (.c (.bool false))⟩,
      ⟨none, (some 2), .mv (.t 46)⟩])
    .ret))))
theorem ok48 : FnOk Try.prog 48 47 2 c48 [.t 2] := ⟨_, _, Try.func48, rfl, rfl, by kernel_rfl, by kernel_rfl⟩
theorem bd48 : bodied Try.prog 48 = true := by kernel_rfl

/-- ferrule/ferruleref01.isLong -/
def c49 : CI := (.seq (.reg [⟨none, (some 1), .box 0 true (.t 0)⟩,
      ⟨none, (some 2), .mv (.c (.bool false))⟩])
    (.seq (.reg [⟨none, (some 3), .faddr 0 (.t 1)⟩,
      ⟨none, (some 4), .load false 1 (.t 3)⟩,
      ⟨none, (some 5), .faddr 1 (.t 1)⟩,
      ⟨none, (some 6), .load false 1 (.t 5)⟩,
      ⟨none, (some 7), .call 50 [(.t 4), (.c (.int .i64 1)), (.t 6)]⟩,
      ⟨none, (some 8), .mv (.t 7)⟩,
      ⟨(some (8, true)), (some 9), .faddr 1 (.t 1)⟩,
      ⟨(some (8, true)), (some 10), .load false 1 (.t 9)⟩,
      ⟨(some (8, true)), (some 11), .bin .leq (.t 10) (.c (.int .i64 2000))⟩,
      ⟨none, (some 12), .pick (.t 8) (.t 11) (.c (.bool false))⟩,
      ⟨none, (some 13), .mv (.t 12)⟩,
      ⟨(some (13, true)), (some 14), .faddr 1 (.t 1)⟩,
      ⟨(some (13, true)), (some 15), .load false 1 (.t 14)⟩,
      ⟨(some (13, true)), (some 16), .faddr 0 (.t 1)⟩,
      ⟨(some (13, true)), (some 17), .load false 1 (.t 16)⟩,
      ⟨(some (13, true)), (some 18), .bin .sub (.t 15) (.t 17)⟩,
      ⟨(some (13, true)), (some 19), .bin .leq (.t 18) (.c (.int .i64 6))⟩,
      ⟨none, (some 20), .pick (.t 13) (.t 19) (.c (.bool false))⟩,
      ⟨none, (some 2), .mv (.t 20)⟩])
    .ret))
theorem ok49 : FnOk Try.prog 49 21 1 c49 [.t 2] := ⟨_, _, Try.func49, rfl, rfl, by kernel_rfl, by kernel_rfl⟩
theorem bd49 : bodied Try.prog 49 = true := by kernel_rfl

/-- ferrule/ferruleref01.Within -/
def c50 : CI := (.seq (.reg [⟨none, (some 6), .mv (.c (.bool false))⟩])
    (.seq (.reg [⟨none, (some 7), .mv (.t 0)⟩,
      ⟨none, (some 8), .mv (.t 1)⟩,
      ⟨none, (some 9), .bin .geq (.t 7) (.t 8)⟩,
      ⟨none, (some 10), .mv (.t 9)⟩,
      ⟨(some (10, true)), (some 11), .mv (.t 0)⟩,
      ⟨(some (10, true)), (some 12), .mv (.t 2)⟩,
      ⟨(some (10, true)), (some 13), .bin .leq (.t 11) (.t 12)⟩,
      ⟨none, (some 14), .pick (.t 10) (.t 13) (.c (.bool false))⟩,
      ⟨none, (some 6), .mv (.t 14)⟩])
    .ret))
theorem ok50 : FnOk Try.prog 50 15 0 c50 [.t 6] := ⟨_, _, Try.func50, rfl, rfl, by kernel_rfl, by kernel_rfl⟩
theorem bd50 : bodied Try.prog 50 = true := by kernel_rfl

/-- ferrule/ferruleref01.isShare -/
def c51 : CI := (.seq (.reg [⟨none, (some 1), .box 0 true (.t 0)⟩,
      ⟨none, (some 2), .mv (.c (.bool false))⟩])
    (.seq (.reg [⟨none, (some 3), .faddr 1 (.t 1)⟩,
      ⟨none, (some 4), .load false 1 (.t 3)⟩,
      ⟨none, (some 5), .call 50 [(.t 4), (.c (.int .i64 1)), (.c (.int .i64 20))]⟩,
      ⟨none, (some 6), .mv (.t 5)⟩,
      ⟨(some (6, true)), (some 7), .faddr 0 (.t 1)⟩,
      ⟨(some (6, true)), (some 8), .load false 1 (.t 7)⟩,
      ⟨(some (6, true)), (some 9), .faddr 1 (.t 1)⟩,
      ⟨(some (6, true)), (some 10), .load false 1 (.t 9)⟩,
      ⟨(some (6, true)), (some 11), .call 50 [(.t 8), (.c (.int .i64 0)), (.t 10)]⟩,
      ⟨none, (some 12), .pick (.t 6) (.t 11) (.c (.bool false))⟩,
      ⟨none, (some 2), .mv (.t 12)⟩])
    .ret))
theorem ok51 : FnOk Try.prog 51 13 1 c51 [.t 2] := ⟨_, _, Try.func51, rfl, rfl, by kernel_rfl, by kernel_rfl⟩
theorem bd51 : bodied Try.prog 51 = true := by kernel_rfl

/-- ferrule/frames.checkPosition -/
def c52 : CI := (.seq (.reg [⟨none, (some 3), .box 0 true (.t 0)⟩,
      ⟨none, (some 6), .mv (.c (.int .i64 0))⟩])
    (.seq (.seq (.reg [⟨none, (some 8), .load true 7 (.t 3)⟩,
      ⟨none, (some 9), .mv (.t 1)⟩,
      ⟨none, (some 10), .call 67 [(.t 8), (.t 9)]⟩,
      ⟨none, (some 7), .mv (.t 10)⟩])
    (.seq (.reg [⟨none, (some 11), .mv (.t 7)⟩,
      ⟨none, (some 12), .bin .neq (.t 11) (.c (.int .i64 0))⟩])
    (.cond (.t 12) (.seq (.reg [⟨none, (some 13), .mv (.t 7)⟩,
      ⟨none, (some 6), .mv (.t 13)⟩])
    .ret)
    .skip)))
    (.seq (.seq (.reg [⟨none, (some 14), .mv (.t 2)⟩,
      ⟨none, (some 15), .faddr 1 (.t 3)⟩,
      ⟨none, (some 16), .load false 1 (.t 15)⟩,
      ⟨none, (some 17), .faddr 2 (.t 3)⟩,
      ⟨none, (some 18), .load false 1 (.t 17)⟩,
      ⟨none, (some 19), .call 73 [(.t 14), (.t 16), (.t 18)]⟩,
      ⟨none, (some 20), .un .not (.t 19)⟩])
    (.cond (.t 20) (.seq (.reg [⟨none, (some 6), .mv (.c (.int .i64 1))⟩])
    .ret)
    .skip))
    (.seq (.reg [⟨none, (some 6), .mv (.c (.int .i64 0))⟩])
    .ret))))
theorem ok52 : FnOk Try.prog 52 21 1 c52 [.t 6] := ⟨_, _, Try.func52, rfl, rfl, by kernel_rfl, by kernel_rfl⟩
theorem bd52 : bodied Try.prog 52 = true := by kernel_rfl

/-- ferrule/frames.distance -/
def c53 : CI := (.seq (.reg [⟨none, (some 3), .box 0 true (.t 0)⟩,
      ⟨none, (some 6), .mv (.c (.int .i64 0))⟩])
    (.seq (.reg [⟨none, (some 10), .mv (.t 2)⟩,
      ⟨none, (some 7), .mv (.t 10)⟩])
    (.seq (.seq (.reg [⟨none, (some 11), .faddr 0 (.t 3)⟩,
      ⟨none, (some 12), .load false 1 (.t 11)⟩,
      ⟨none, (some 13), .mv (.t 1)⟩,
      ⟨none, (some 14), .bin .add (.t 13) (.c (.int .i64 1))⟩,
      ⟨none, (some 15), .sli 7 (.t 12) (some (.c (.int .i64 1))) (some (.t 14))⟩,
      ⟨none, (some 16), .len (.t 15)⟩,
      ⟨none, (some 17), .mv (.c (.int .i64 0))⟩])
    (.block 0 (.loop (.seq (.reg [⟨none, (some 18), .bin .lss (.t 17) (.t 16)⟩])
    (.seq (.cond (.t 18) .skip
    (.exit 0))
    (.seq (.block 1 (.seq (.reg [⟨none, (some 19), .iaddr 7 (.t 15) (.t 17)⟩,
      ⟨none, (some 20), .load true 7 (.t 19)⟩,
      ⟨none, (some 9), .alloc 1 [(.int .i64 0), (.int .i64 0), (.int .i64 0), (.int .i64 0), (.int .i64 0), (.int .i64 0), (.int .i64 0)]⟩,
      ⟨none, none, .store true 7 (.t 9) (.t 20) []⟩])
    (.reg [⟨none, (some 21), .faddr 4 (.t 9)⟩,
      ⟨none, (some 22), .load false 1 (.t 21)⟩,
      ⟨none, (some 23), .mv (.t 7)⟩,
      ⟨none, (some 24), .faddr 5 (.t 9)⟩,
      ⟨none, (some 25), .faddr 0 (.t 24)⟩,
      ⟨none, (some 26), .load false 1 (.t 25)⟩,
      ⟨none, (some 27), .bin .mul (.t 23) (.t 26)⟩,
      ⟨none, (some 28), .faddr 5 (.t 9)⟩,
      ⟨none, (some 29), .faddr 1 (.t 28)⟩,
      ⟨none, (some 30), .load false 1 (.t 29)⟩,
      ⟨none, (some 31), .bin .quo (.t 27) (.t 30)⟩,
      ⟨none, (some 32), .bin .add (.t 22) (.t 31)⟩,
      ⟨none, (some 7), .mv (.t 32)⟩])))
    (.reg [⟨none, (some 33), .bin .add (.t 17) (.c (.int .i64 1))⟩,
      ⟨none, (some 17), .mv (.t 33)⟩])))))))
    (.seq (.reg [⟨none, (some 34), .mv (.t 7)⟩,
      ⟨none, (some 6), .mv (.t 34)⟩])
    .ret))))
theorem ok53 : FnOk Try.prog 53 35 2 c53 [.t 6] := ⟨_, _, Try.func53, rfl, rfl, by kernel_rfl, by kernel_rfl⟩
theorem bd53 : bodied Try.prog 53 = true := by kernel_rfl

/-- ferrule/ferruleref01.check -/
def c54 : CI := (.seq (.reg [⟨none, (some 2), .box 0 true (.t 0)⟩,
      ⟨none, (some 4), .mv (.c (.int .i64 0))⟩])
    (.seq (.seq (.reg [⟨none, (some 6), .load true 7 (.t 2)⟩,
      ⟨none, (some 7), .call 15 [(.t 6)]⟩,
      ⟨none, (some 5), .mv (.t 7)⟩])
    (.seq (.reg [⟨none, (some 8), .mv (.t 5)⟩,
      ⟨none, (some 9), .bin .neq (.t 8) (.c (.int .i64 0))⟩])
    (.cond (.t 9) (.seq (.reg [⟨none, (some 10), .mv (.t 5)⟩,
      ⟨none, (some 4), .mv (.t 10)⟩])
    .ret)
    .skip)))
    (.seq (.seq (.reg [⟨none, (some 11), .mv (.t 1)⟩,
      ⟨none, (some 12), .un .not (.t 11)⟩])
    (.cond (.t 12) (.seq (.reg [⟨none, (some 4), .mv (.c (.int .i64 1))⟩])
    .ret)
    .skip))
    (.seq (.reg [⟨none, (some 4), .mv (.c (.int .i64 0))⟩])
    .ret))))
theorem ok54 : FnOk Try.prog 54 13 1 c54 [.t 4] := ⟨_, _, Try.func54, rfl, rfl, by kernel_rfl, by kernel_rfl⟩
theorem bd54 : bodied Try.prog 54 = true := by kernel_rfl

/-- ferrule/ferruleref01.IsPosition -/
def c55 : CI := (.seq (.reg [⟨none, (some 2), .box 0 true (.t 0)⟩,
      ⟨none, (some 4), .mv (.c (.bool false))⟩])
    (.seq (.reg [⟨none, (some 5), .mv (.t 1)⟩,
      ⟨none, (some 6), .faddr 1 (.t 2)⟩,
      ⟨none, (some 7), .load false 1 (.t 6)⟩,
      ⟨none, (some 8), .faddr 2 (.t 2)⟩,
      ⟨none, (some 9), .load false 1 (.t 8)⟩,
      ⟨none, (some 10), .call 50 [(.t 5), (.t 7), (.t 9)]⟩,
      ⟨none, (some 4), .mv (.t 10)⟩])
    .ret))
theorem ok55 : FnOk Try.prog 55 11 1 c55 [.t 4] := ⟨_, _, Try.func55, rfl, rfl, by kernel_rfl, by kernel_rfl⟩
theorem bd55 : bodied Try.prog 55 = true := by kernel_rfl

/-- ferrule/ferruleref01.distance -/
def c56 : CI := (.seq (.reg [⟨none, (some 3), .box 0 true (.t 0)⟩,
      ⟨none, (some 6), .mv (.c (.int .i64 0))⟩])
    (.seq (.seq (.reg [⟨none, (some 8), .mv (.t 1)⟩,
      ⟨none, (some 9), .bin .eql (.t 8) (.c (.int .i64 0))⟩])
    (.cond (.t 9) (.seq (.reg [⟨none, (some 10), .mv (.t 2)⟩,
      ⟨none, (some 6), .mv (.t 10)⟩])
    .ret)
    .skip))
    (.seq (.reg [⟨none, (some 11), .faddr 0 (.t 3)⟩,
      ⟨none, (some 12), .load false 1 (.t 11)⟩,
      ⟨none, (some 13), .mv (.t 1)⟩,
      ⟨none, (some 14), .iaddr 7 (.t 12) (.t 13)⟩,
      ⟨none, (some 15), .load true 7 (.t 14)⟩,
      ⟨none, (some 7), .alloc 1 [(.int .i64 0), (.int .i64 0), (.int .i64 0), (.int .i64 0), (.int .i64 0), (.int .i64 0), (.int .i64 0)]⟩,
      ⟨none, none, .store true 7 (.t 7) (.t 15) []⟩])
    (.seq (.reg [⟨none, (some 16), .faddr 4 (.t 7)⟩,
      ⟨none, (some 17), .load false 1 (.t 16)⟩,
      ⟨none, (some 18), .load true 7 (.t 3)⟩,
      ⟨none, (some 19), .mv (.t 1)⟩,
      ⟨none, (some 20), .bin .sub (.t 19) (.c (.int .i64 1))⟩,
      ⟨none, (some 21), .mv (.t 2)⟩,
      ⟨none, (some 23), .faddr 5 (.t 7)⟩,
      ⟨none, (some 24), .faddr 0 (.t 23)⟩,
      ⟨none, (some 25), .load false 1 (.t 24)⟩,
      ⟨none, (some 27), .faddr 5 (.t 7)⟩,
      ⟨none, (some 28), .faddr 1 (.t 27)⟩,
      ⟨none, (some 29), .load false 1 (.t 28)⟩,
      ⟨none, (some 22), .call 56 [(.t 18), (.t 20), (.t 21)]⟩,
      ⟨none, (some 26), .bin .mul (.t 22) (.t 25)⟩,
      ⟨none, (some 30), .bin .quo (.t 26) (.t 29)⟩,
      ⟨none, (some 31), .bin .add (.t 17) (.t 30)⟩,
      ⟨none, (some 6), .mv (.t 31)⟩])
    .ret))))
theorem ok56 : FnOk Try.prog 56 32 2 c56 [.t 6] := ⟨_, _, Try.func56, rfl, rfl, by kernel_rfl, by kernel_rfl⟩
theorem bd56 : bodied Try.prog 56 = true := by kernel_rfl

/-- ferrule/frames.cosines -/
def c57 : CI := (.seq (.reg [⟨none, (some 2), .box 0 true (.t 0)⟩,
      ⟨none, (some 3), .box 1 false (.t 1)⟩,
      ⟨none, (some 4), .alloc 2 [(.int .i64 0), (.int .i64 0)]⟩,
      ⟨none, (some 5), .alloc 3 [(.int .i64 0), (.int .i64 0)]⟩])
    (.seq (.reg [⟨none, (some 9), .load false 1 (.t 3)⟩,
      ⟨none, (some 10), .faddr 0 (.t 2)⟩,
      ⟨none, (some 11), .faddr 0 (.t 10)⟩,
      ⟨none, (some 12), .load false 1 (.t 11)⟩,
      ⟨none, (some 13), .faddr 2 (.t 2)⟩,
      ⟨none, (some 14), .faddr 0 (.t 13)⟩,
      ⟨none, (some 15), .load false 1 (.t 14)⟩,
      ⟨none, (some 16), .call 74 [(.t 9), (.t 12), (.t 15)]⟩,
      ⟨none, none, .store true 2 (.t 4) (.t 16) []⟩])
    (.seq (.reg [⟨none, (some 17), .load true 2 (.t 4)⟩,
      ⟨none, none, .store true 2 (.t 5) (.t 17) []⟩])
    (.seq (.seq (.reg [⟨none, (some 18), .load true 7 (.t 2)⟩,
      ⟨none, (some 19), .callz 4 0 75 [(.t 18)] []⟩])
    (.block 0 (.rng (.t 19) [20, 21] (.seq (.reg [⟨none, (some 6), .mv (.t 20)⟩])
    (.reg [⟨none, (some 7), .mv (.t 21)⟩]))
    (.block 1 (.seq (.reg [⟨none, (some 22), .load false 1 (.t 3)⟩,
      ⟨none, (some 23), .mv (.t 6)⟩,
      ⟨none, (some 24), .mv (.t 7)⟩,
      ⟨none, (some 25), .call 74 [(.t 22), (.t 23), (.t 24)]⟩,
      ⟨none, (some 8), .alloc 4 [(.int .i64 0), (.int .i64 0)]⟩,
      ⟨none, none, .store true 2 (.t 8) (.t 25) []⟩])
    (.seq (.seq (.reg [⟨none, (some 26), .load true 2 (.t 8)⟩,
      ⟨none, (some 27), .load true 2 (.t 4)⟩,
      ⟨none, (some 28), .call 76 [(.t 26), (.t 27)]⟩])
    (.cond (.t 28) (.reg [⟨none, (some 29), .load true 2 (.t 8)⟩,
      ⟨none, none, .store true 2 (.t 4) (.t 29) []⟩])
    .skip))
    (.seq (.reg [⟨none, (some 30), .load true 2 (.t 5)⟩,
      ⟨none, (some 31), .load true 2 (.t 8)⟩,
      ⟨none, (some 32), .call 76 [(.t 30), (.t 31)]⟩])
    (.cond (.t 32) (.reg [⟨none, (some 33), .load true 2 (.t 8)⟩,
      ⟨none, none, .store true 2 (.t 5) (.t 33) []⟩])
    .skip))))))))
    (.seq (.reg [⟨none, (some 34), .load true 2 (.t 4)⟩,
      ⟨none, (some 35), .load true 2 (.t 5)⟩,
      ⟨none, none, .store true 2 (.t 4) (.t 34) [(.t 5)]⟩,
      ⟨none, none, .store true 2 (.t 5) (.t 35) []⟩])
    .ret)))))
theorem ok57 : FnOk Try.prog 57 36 5 c57 [.cell 4 true 2, .cell 5 true 2] := ⟨_, _, Try.func57, rfl, rfl, by kernel_rfl, by kernel_rfl⟩
theorem bd57 : bodied Try.prog 57 = true := by kernel_rfl

/-- ferrule/frames.reduced -/
def c58 : CI := (.seq (.reg [⟨none, (some 1), .box 0 true (.t 0)⟩,
      ⟨none, (some 2), .alloc 1 [(.int .i64 0), (.int .i64 0)]⟩])
    (.seq (.reg [⟨none, (some 4), .faddr 0 (.t 1)⟩,
      ⟨none, (some 5), .load false 1 (.t 4)⟩,
      ⟨none, (some 6), .faddr 0 (.t 1)⟩,
      ⟨none, (some 7), .load false 1 (.t 6)⟩,
      ⟨none, (some 8), .un .neg (.t 7)⟩,
      ⟨none, (some 9), .mm true [(.t 5), (.t 8)]⟩,
      ⟨none, (some 10), .faddr 1 (.t 1)⟩,
      ⟨none, (some 11), .load false 1 (.t 10)⟩,
      ⟨none, (some 12), .call 77 [(.t 9), (.t 11)]⟩,
      ⟨none, (some 3), .mv (.t 12)⟩])
    (.seq (.reg [⟨none, (some 13), .faddr 0 (.t 1)⟩,
      ⟨none, (some 14), .load false 1 (.t 13)⟩,
      ⟨none, (some 15), .mv (.t 3)⟩,
      ⟨none, (some 16), .bin .quo (.t 14) (.t 15)⟩,
      ⟨none, (some 17), .faddr 1 (.t 1)⟩,
      ⟨none, (some 18), .load false 1 (.t 17)⟩,
      ⟨none, (some 19), .mv (.t 3)⟩,
      ⟨none, (some 20), .bin .quo (.t 18) (.t 19)⟩,
      ⟨none, (some 21), .build [(.int .i64 0), (.int .i64 0)] [(0, 1, (.t 16)), (1, 1, (.t 20))]⟩,
      ⟨none, none, .store true 2 (.t 2) (.t 21) []⟩])
    .ret)))
theorem ok58 : FnOk Try.prog 58 22 2 c58 [.cell 2 true 2] := ⟨_, _, Try.func58, rfl, rfl, by kernel_rfl, by kernel_rfl⟩
theorem bd58 : bodied Try.prog 58 = true := by kernel_rfl

/-- ferrule/frames.known -/
def c59 : CI := (.seq (.reg [⟨none, (some 2), .box 0 true (.t 0)⟩,
      ⟨none, (some 3), .box 1 false (.t 1)⟩,
      ⟨none, (some 4), .mv (.c (.int .i64 0))⟩])
    (.seq (.reg [⟨none, (some 5), .alloc 2 [(.bool false)]⟩,
      ⟨none, (some 6), .alloc 3 [(.bool false)]⟩,
      ⟨none, none, .store false 1 (.t 5) (.c (.bool true)) []⟩,
      ⟨none, none, .store false 1 (.t 6) (.c (.bool false)) []⟩])
    (.seq (.seq (.reg [⟨none, (some 9), .load true 7 (.t 2)⟩,
      ⟨none, (some 10), .callz 4 0 75 [(.t 9)] []⟩])
    (.block 0 (.rng (.t 10) [11, 12] (.seq (.reg [⟨none, (some 7), .mv (.t 11)⟩])
    (.reg [⟨none, (some 8), .mv (.t 12)⟩]))
    (.block 1 (.seq (.reg [⟨none, (some 13), .load false 1 (.t 3)⟩,
      ⟨none, (some 14), .mv (.t 7)⟩,
      ⟨none, (some 15), .mv (.t 8)⟩,
      ⟨none, (some 16), .callv (.t 13) [(.t 14), (.t 15)]⟩])
    (.cond (.t 16) (.reg [⟨none, none, .store false 1 (.t 6) (.c (.bool true)) []⟩])
    (.reg [⟨none, none, .store false 1 (.t 5) (.c (.bool false)) []⟩])))))))
    (.seq (.reg [⟨none, (some 17), .load false 1 (.t 5)⟩,
      ⟨none, (some 18), .load false 1 (.t 6)⟩,
      ⟨none, (some 19), .call 65 [(.t 17), (.t 18)]⟩,
      ⟨none, (some 4), .mv (.t 19)⟩])
    .ret))))
theorem ok59 : FnOk Try.prog 59 20 4 c59 [.t 4] := ⟨_, _, Try.func59, rfl, rfl, by kernel_rfl, by kernel_rfl⟩
theorem bd59 : bodied Try.prog 59 = true := by kernel_rfl

/-- ferrule/frames.bindsAt -/
def c60 : CI := (.seq (.reg [⟨none, (some 3), .box 0 true (.t 0)⟩,
      ⟨none, (some 6), .mv (.c (.lit (.nilFunc)))⟩])
    (.seq (.reg [⟨none, (some 10), .load true 7 (.t 3)⟩,
      ⟨none, (some 11), .mv (.t 1)⟩,
      ⟨none, (some 12), .mv (.t 2)⟩,
      ⟨none, (some 13), .call 53 [(.t 10), (.t 11), (.t 12)]⟩,
      ⟨none, (some 7), .alloc 1 [(.int .i64 0)]⟩,
      ⟨none, none, .store false 1 (.t 7) (.t 13) []⟩])
    (.seq (.reg [⟨none, (some 14), .faddr 3 (.t 3)⟩,
      ⟨none, (some 15), .faddr 1 (.t 14)⟩,
      ⟨none, (some 16), .load false 1 (.t 15)⟩,
      ⟨none, (some 17), .faddr 3 (.t 3)⟩,
      ⟨none, (some 18), .faddr 0 (.t 17)⟩,
      ⟨none, (some 19), .load false 1 (.t 18)⟩,
      ⟨none, (some 20), .bin .sub (.t 16) (.t 19)⟩,
      ⟨none, (some 21), .faddr 3 (.t 3)⟩,
      ⟨none, (some 22), .faddr 1 (.t 21)⟩,
      ⟨none, (some 23), .load false 1 (.t 22)⟩,
      ⟨none, (some 24), .build [(.int .i64 0), (.int .i64 0)] [(0, 1, (.t 20)), (1, 1, (.t 23))]⟩,
      ⟨none, (some 8), .alloc 2 [(.int .i64 0), (.int .i64 0)]⟩,
      ⟨none, none, .store true 2 (.t 8) (.t 24) []⟩])
    (.seq (.reg [⟨none, (some 25), .faddr 0 (.t 8)⟩,
      ⟨none, (some 26), .load false 1 (.t 25)⟩,
      ⟨none, (some 27), .un .neg (.t 26)⟩,
      ⟨none, (some 28), .faddr 1 (.t 8)⟩,
      ⟨none, (some 29), .load false 1 (.t 28)⟩,
      ⟨none, (some 30), .build [(.int .i64 0), (.int .i64 0)] [(0, 1, (.t 27)), (1, 1, (.t 29))]⟩,
      ⟨none, (some 9), .alloc 3 [(.int .i64 0), (.int .i64 0)]⟩,
      ⟨none, none, .store true 2 (.t 9) (.t 30) []⟩])
    (.seq (.reg [⟨none, (some 31), .mkfn 78 [(.t 7), (.t 8), (.t 9)]⟩,
      ⟨none, (some 6), .mv (.t 31)⟩])
    .ret)))))
theorem ok60 : FnOk Try.prog 60 32 4 c60 [.t 6] := ⟨_, _, Try.func60, rfl, rfl, by kernel_rfl, by kernel_rfl⟩
theorem bd60 : bodied Try.prog 60 = true := by kernel_rfl

/-- ferrule/ferruleref01.binds -/
def c61 : CI := (.seq (.reg [⟨none, (some 3), .box 0 true (.t 0)⟩,
      ⟨none, (some 6), .mv (.c (.int .i64 0))⟩,
      ⟨none, (some 7), .mv (.c (.int .i64 0))⟩])
    (.seq (.reg [⟨none, (some 10), .load true 7 (.t 3)⟩,
      ⟨none, (some 11), .mv (.t 1)⟩,
      ⟨none, (some 12), .callz 1 1 44 [(.t 10), (.t 11)] []⟩,
      ⟨none, (some 8), .mv (.t 12)⟩])
    (.seq (.seq (.reg [⟨none, (some 9), .mv (.c (.int .i64 0))⟩])
    (.block 0 (.loop (.seq (.seq (.reg [⟨none, (some 13), .mv (.t 9)⟩,
      ⟨none, (some 14), .mv (.t 8)⟩,
      ⟨none, (some 15), .len (.t 14)⟩,
      ⟨none, (some 16), .bin .lss (.t 13) (.t 15)⟩])
    (.cond (.t 16) .skip
    (.exit 0)))
    (.seq (.block 1 (.seq (.reg [⟨none, (some 19), .load true 7 (.t 3)⟩,
      ⟨none, (some 20), .mv (.t 1)⟩,
      ⟨none, (some 21), .mv (.t 2)⟩,
      ⟨none, (some 22), .mv (.t 8)⟩,
      ⟨none, (some 23), .mv (.t 9)⟩,
      ⟨none, (some 24), .iaddr 2 (.t 22) (.t 23)⟩,
      ⟨none, (some 25), .load true 2 (.t 24)⟩,
      ⟨none, (some 26), .call 41 [(.t 19), (.t 20), (.t 21), (.t 25)]⟩])
    (.cond (.t 26) (.reg [⟨none, (some 27), .mv (.t 6)⟩,
      ⟨none, (some 28), .bin .add (.t 27) (.c (.int .i64 1))⟩,
      ⟨none, (some 6), .mv (.t 28)⟩])
    .skip)))
    (.reg [⟨none, (some 17), .mv (.t 9)⟩,
      ⟨none, (some 18), .bin .add (.t 17) (.c (.int .i64 1))⟩,
      ⟨none, (some 9), .mv (.t 18)⟩]))))))
    (.seq (.reg [⟨none, (some 29), .mv (.t 6)⟩,
      ⟨none, (some 30), .mv (.t 8)⟩,
      ⟨none, (some 31), .len (.t 30)⟩,
      ⟨none, (some 6), .mv (.t 29)⟩,
      ⟨none, (some 7), .mv (.t 31)⟩])
    .ret))))
theorem ok61 : FnOk Try.prog 61 32 2 c61 [.t 6, .t 7] := ⟨_, _, Try.func61, rfl, rfl, by kernel_rfl, by kernel_rfl⟩
theorem bd61 : bodied Try.prog 61 = true := by kernel_rfl

/-- ferrule/ferruleref01.is -/
def c62 : CI := (.seq (.reg [⟨none, (some 4), .mv (.c (.int .i64 0))⟩])
    (.seq (.seq (.reg [⟨none, (some 5), .mv (.t 0)⟩])
    (.block 0 (.seq (.reg [⟨none, (some 7), .mv (.t 1)⟩,
      ⟨none, (some 8), .bin .eql (.t 5) (.t 7)⟩,
      ⟨none, (some 6), .mv (.t 8)⟩])
    (.cond (.t 6) (.seq (.reg [⟨none, (some 4), .mv (.c (.int .i64 1))⟩])
    .ret)
    (.seq (.reg [⟨none, (some 10), .bin .eql (.t 5) (.c (.int .i64 0))⟩,
      ⟨none, (some 9), .mv (.t 10)⟩])
    (.cond (.t 9) (.seq (.reg [⟨none, (some 4), .mv (.c (.int .i64 2))⟩])
    .ret)
    .skip))))))
    (.seq (.reg [⟨none, (some 4), .mv (.c (.int .i64 3))⟩])
    .ret)))
theorem ok62 : FnOk Try.prog 62 11 0 c62 [.t 4] := ⟨_, _, Try.func62, rfl, rfl, by kernel_rfl, by kernel_rfl⟩
theorem bd62 : bodied Try.prog 62 = true := by kernel_rfl

/-- ferrule/frames.positions -/
def c63 : CI := (.seq (.reg [⟨none, (some 1), .box 0 true (.t 0)⟩,
      ⟨none, (some 2), .mv (.c (.lit (.nilFunc)))⟩])
    (.seq (.reg [⟨none, (some 3), .mkfn 79 [(.t 1)]⟩,
      ⟨none, (some 2), .mv (.t 3)⟩])
    .ret))
theorem ok63 : FnOk Try.prog 63 4 1 c63 [.t 2] := ⟨_, _, Try.func63, rfl, rfl, by kernel_rfl, by kernel_rfl⟩
theorem bd63 : bodied Try.prog 63 = true := by kernel_rfl

/-- ferrule/frames.bindsSomewhere -/
def c64 : CI := (.seq (.reg [⟨none, (some 2), .box 0 true (.t 0)⟩,
      ⟨none, (some 3), .box 1 false (.t 1)⟩,
      ⟨none, (some 4), .mv (.c (.lit (.nilFunc)))⟩])
    (.seq (.reg [⟨none, (some 5), .mkfn 80 [(.t 2), (.t 3)]⟩,
      ⟨none, (some 4), .mv (.t 5)⟩])
    .ret))
theorem ok64 : FnOk Try.prog 64 6 2 c64 [.t 4] := ⟨_, _, Try.func64, rfl, rfl, by kernel_rfl, by kernel_rfl⟩
theorem bd64 : bodied Try.prog 64 = true := by kernel_rfl

/-- ferrule/frames.verdict -/
def c65 : CI := (.seq (.reg [⟨none, (some 4), .mv (.c (.int .i64 0))⟩])
    (.seq (.block 0 (.seq (.reg [⟨none, (some 6), .mv (.t 0)⟩,
      ⟨none, (some 5), .mv (.t 6)⟩])
    (.cond (.t 5) (.seq (.reg [⟨none, (some 4), .mv (.c (.int .i64 1))⟩])
    .ret)
    (.seq (.reg [⟨none, (some 8), .mv (.t 1)⟩,
      ⟨none, (some 7), .mv (.t 8)⟩])
    (.cond (.t 7) (.seq (.reg [⟨none, (some 4), .mv (.c (.int .i64 3))⟩])
    .ret)
    .skip)))))
    (.seq (.reg [⟨none, (some 4), .mv (.c (.int .i64 2))⟩])
    .ret)))
theorem ok65 : FnOk Try.prog 65 9 0 c65 [.t 4] := ⟨_, _, Try.func65, rfl, rfl, by kernel_rfl, by kernel_rfl⟩
theorem bd65 : bodied Try.prog 65 = true := by kernel_rfl

/-- ferrule/ferruleref01.free -/
def c66 : CI := (.seq (.reg [⟨none, (some 2), .box 0 true (.t 0)⟩,
      ⟨none, (some 4), .mv (.c (.int .i64 0))⟩,
      ⟨none, (some 5), .mv (.c (.int .i64 0))⟩])
    (.seq (.reg [⟨none, (some 8), .load true 7 (.t 2)⟩,
      ⟨none, (some 9), .mv (.t 1)⟩,
      ⟨none, (some 10), .callz 1 1 44 [(.t 8), (.t 9)] []⟩,
      ⟨none, (some 6), .mv (.t 10)⟩])
    (.seq (.seq (.reg [⟨none, (some 7), .mv (.c (.int .i64 0))⟩])
    (.block 0 (.loop (.seq (.seq (.reg [⟨none, (some 11), .mv (.t 7)⟩,
      ⟨none, (some 12), .mv (.t 6)⟩,
      ⟨none, (some 13), .len (.t 12)⟩,
      ⟨none, (some 14), .bin .lss (.t 11) (.t 13)⟩])
    (.cond (.t 14) .skip
    (.exit 0)))
    (.seq (.block 1 (.seq (.reg [⟨none, (some 17), .load true 7 (.t 2)⟩,
      ⟨none, (some 18), .mv (.t 1)⟩,
      ⟨none, (some 19), .mv (.t 6)⟩,
      ⟨none, (some 20), .mv (.t 7)⟩,
      ⟨none, (some 21), .iaddr 2 (.t 19) (.t 20)⟩,
      ⟨none, (some 22), .load true 2 (.t 21)⟩,
      ⟨none, (some 23), .call 37 [(.t 17), (.t 18), (.t 22)]⟩])
    (.cond (.t 23) (.reg [⟨none, (some 24), .mv (.t 4)⟩,
      ⟨none, (some 25), .bin .add (.t 24) (.c (.int .i64 1))⟩,
      ⟨none, (some 4), .mv (.t 25)⟩])
    .skip)))
    (.reg [⟨none, (some 15), .mv (.t 7)⟩,
      ⟨none, (some 16), .bin .add (.t 15) (.c (.int .i64 1))⟩,
      ⟨none, (some 7), .mv (.t 16)⟩]))))))
    (.seq (.reg [⟨none, (some 26), .mv (.t 4)⟩,
      ⟨none, (some 27), .mv (.t 6)⟩,
      ⟨none, (some 28), .len (.t 27)⟩,
      ⟨none, (some 4), .mv (.t 26)⟩,
      ⟨none, (some 5), .mv (.t 28)⟩])
    .ret))))
theorem ok66 : FnOk Try.prog 66 29 2 c66 [.t 4, .t 5] := ⟨_, _, Try.func66, rfl, rfl, by kernel_rfl, by kernel_rfl⟩
theorem bd66 : bodied Try.prog 66 = true := by kernel_rfl

/-- ferrule/frames.checkSection -/
def c67 : CI := (.seq (.reg [⟨none, (some 2), .box 0 true (.t 0)⟩,
      ⟨none, (some 4), .mv (.c (.int .i64 0))⟩])
    (.seq (.seq (.reg [⟨none, (some 5), .load true 7 (.t 2)⟩,
      ⟨none, (some 6), .call 48 [(.t 5)]⟩,
      ⟨none, (some 7), .un .not (.t 6)⟩])
    (.cond (.t 7) (.seq (.reg [⟨none, (some 4), .mv (.c (.int .i64 10))⟩])
    .ret)
    .skip))
    (.seq (.seq (.reg [⟨none, (some 8), .mv (.t 1)⟩,
      ⟨none, (some 9), .faddr 0 (.t 2)⟩,
      ⟨none, (some 10), .load false 1 (.t 9)⟩,
      ⟨none, (some 11), .len (.t 10)⟩,
      ⟨none, (some 12), .bin .sub (.t 11) (.c (.int .i64 1))⟩,
      ⟨none, (some 13), .call 73 [(.t 8), (.c (.int .i64 0)), (.t 12)]⟩,
      ⟨none, (some 14), .un .not (.t 13)⟩])
    (.cond (.t 14) (.seq (.reg [⟨none, (some 4), .mv (.c (.int .i64 1))⟩])
    .ret)
    .skip))
    (.seq (.reg [⟨none, (some 4), .mv (.c (.int .i64 0))⟩])
    .ret))))
theorem ok67 : FnOk Try.prog 67 15 1 c67 [.t 4] := ⟨_, _, Try.func67, rfl, rfl, by kernel_rfl, by kernel_rfl⟩
theorem bd67 : bodied Try.prog 67 = true := by kernel_rfl

/-- ferrule/frames.turnsBack -/
def c68 : CI := (.seq (.reg [⟨none, (some 2), .box 0 true (.t 0)⟩,
      ⟨none, (some 3), .box 1 false (.t 1)⟩,
      ⟨none, (some 4), .mv (.c (.lit (.nilFunc)))⟩])
    (.seq (.reg [⟨none, (some 5), .mkfn 81 [(.t 2), (.t 3)]⟩,
      ⟨none, (some 4), .mv (.t 5)⟩])
    .ret))
theorem ok68 : FnOk Try.prog 68 6 2 c68 [.t 4] := ⟨_, _, Try.func68, rfl, rfl, by kernel_rfl, by kernel_rfl⟩
theorem bd68 : bodied Try.prog 68 = true := by kernel_rfl

/-- ferrule/ferruleref01.Reduced -/
def c69 : CI := (.seq (.reg [⟨none, (some 4), .alloc 0 [(.int .i64 0), (.int .i64 0)]⟩])
    (.seq (.reg [⟨none, (some 7), .mv (.t 0)⟩,
      ⟨none, (some 8), .mv (.t 0)⟩,
      ⟨none, (some 9), .un .neg (.t 8)⟩,
      ⟨none, (some 10), .mm true [(.t 7), (.t 9)]⟩,
      ⟨none, (some 11), .mv (.t 1)⟩,
      ⟨none, (some 5), .mv (.t 10)⟩,
      ⟨none, (some 6), .mv (.t 11)⟩])
    (.seq (.block 0 (.loop (.seq (.seq (.reg [⟨none, (some 12), .mv (.t 6)⟩,
      ⟨none, (some 13), .bin .neq (.t 12) (.c (.int .i64 0))⟩])
    (.cond (.t 13) .skip
    (.exit 0)))
    (.block 1 (.reg [⟨none, (some 14), .mv (.t 6)⟩,
      ⟨none, (some 15), .mv (.t 5)⟩,
      ⟨none, (some 16), .mv (.t 6)⟩,
      ⟨none, (some 17), .bin .rem (.t 15) (.t 16)⟩,
      ⟨none, (some 5), .mv (.t 14)⟩,
      ⟨none, (some 6), .mv (.t 17)⟩])))))
    (.seq (.reg [⟨none, (some 18), .mv (.t 0)⟩,
      ⟨none, (some 19), .mv (.t 5)⟩,
      ⟨none, (some 20), .bin .quo (.t 18) (.t 19)⟩,
      ⟨none, (some 21), .mv (.t 1)⟩,
      ⟨none, (some 22), .mv (.t 5)⟩,
      ⟨none, (some 23), .bin .quo (.t 21) (.t 22)⟩,
      ⟨none, (some 24), .build [(.int .i64 0), (.int .i64 0)] [(0, 1, (.t 20)), (1, 1, (.t 23))]⟩,
      ⟨none, none, .store true 2 (.t 4) (.t 24) []⟩])
    .ret))))
theorem ok69 : FnOk Try.prog 69 25 1 c69 [.cell 4 true 2] := ⟨_, _, Try.func69, rfl, rfl, by kernel_rfl, by kernel_rfl⟩
theorem bd69 : bodied Try.prog 69 = true := by kernel_rfl

/-- ferrule/frames.validSection -/
def c70 : CI := (.seq (.reg [⟨none, (some 1), .box 0 true (.t 0)⟩,
      ⟨none, (some 2), .mv (.c (.bool false))⟩])
    (.seq (.reg [⟨none, (some 3), .faddr 0 (.t 1)⟩,
      ⟨none, (some 4), .load true 2 (.t 3)⟩,
      ⟨none, (some 5), .call 71 [(.t 4), (.c (.int .i64 6))]⟩,
      ⟨none, (some 6), .mv (.t 5)⟩,
      ⟨(some (6, true)), (some 7), .faddr 2 (.t 1)⟩,
      ⟨(some (6, true)), (some 8), .load true 2 (.t 7)⟩,
      ⟨(some (6, true)), (some 9), .call 71 [(.t 8), (.c (.int .i64 6))]⟩,
      ⟨none, (some 10), .pick (.t 6) (.t 9) (.c (.bool false))⟩,
      ⟨none, (some 11), .mv (.t 10)⟩,
      ⟨(some (11, true)), (some 12), .faddr 4 (.t 1)⟩,
      ⟨(some (11, true)), (some 13), .load false 1 (.t 12)⟩,
      ⟨(some (11, true)), (some 14), .call 73 [(.t 13), (.c (.int .i64 0)), (.c (.int .i64 2000))]⟩,
      ⟨none, (some 15), .pick (.t 11) (.t 14) (.c (.bool false))⟩,
      ⟨none, (some 16), .mv (.t 15)⟩,
      ⟨(some (16, true)), (some 17), .faddr 5 (.t 1)⟩,
      ⟨(some (16, true)), (some 18), .load true 2 (.t 17)⟩,
      ⟨(some (16, true)), (some 19), .call 72 [(.t 18)]⟩,
      ⟨none, (some 20), .pick (.t 16) (.t 19) (.c (.bool false))⟩,
      ⟨none, (some 2), .mv (.t 20)⟩])
    .ret))
theorem ok70 : FnOk Try.prog 70 21 1 c70 [.t 2] := ⟨_, _, Try.func70, rfl, rfl, by kernel_rfl, by kernel_rfl⟩
theorem bd70 : bodied Try.prog 70 = true := by kernel_rfl

/-- ferrule/frames.validSpan -/
def c71 : CI := (.seq (.reg [⟨none, (some 2), .box 0 true (.t 0)⟩,
      ⟨none, (some 4), .mv (.c (.bool false))⟩])
    (.seq (.reg [⟨none, (some 5), .faddr 0 (.t 2)⟩,
      ⟨none, (some 6), .load false 1 (.t 5)⟩,
      ⟨none, (some 7), .faddr 1 (.t 2)⟩,
      ⟨none, (some 8), .load false 1 (.t 7)⟩,
      ⟨none, (some 9), .call 73 [(.t 6), (.c (.int .i64 1)), (.t 8)]⟩,
      ⟨none, (some 10), .mv (.t 9)⟩,
      ⟨(some (10, true)), (some 11), .faddr 1 (.t 2)⟩,
      ⟨(some (10, true)), (some 12), .load false 1 (.t 11)⟩,
      ⟨(some (10, true)), (some 13), .bin .leq (.t 12) (.c (.int .i64 2000))⟩,
      ⟨none, (some 14), .pick (.t 10) (.t 13) (.c (.bool false))⟩,
      ⟨none, (some 15), .mv (.t 14)⟩,
      ⟨(some (15, true)), (some 16), .faddr 1 (.t 2)⟩,
      ⟨(some (15, true)), (some 17), .load false 1 (.t 16)⟩,
      ⟨(some (15, true)), (some 18), .faddr 0 (.t 2)⟩,
      ⟨(some (15, true)), (some 19), .load false 1 (.t 18)⟩,
      ⟨(some (15, true)), (some 20), .bin .sub (.t 17) (.t 19)⟩,
      ⟨(some (15, true)), (some 21), .mv (.t 1)⟩,
      ⟨(some (15, true)), (some 22), .bin .leq (.t 20) (.t 21)⟩,
      ⟨none, (some 23), .pick (.t 15) (.t 22) (.c (.bool false))⟩,
      ⟨none, (some 4), .mv (.t 23)⟩])
    .ret))
theorem ok71 : FnOk Try.prog 71 24 1 c71 [.t 4] := ⟨_, _, Try.func71, rfl, rfl, by kernel_rfl, by kernel_rfl⟩
theorem bd71 : bodied Try.prog 71 = true := by kernel_rfl

/-- ferrule/frames.validPart -/
def c72 : CI := (.seq (.reg [⟨none, (some 1), .box 0 true (.t 0)⟩,
      ⟨none, (some 2), .mv (.c (.bool false))⟩])
    (.seq (.reg [⟨none, (some 3), .faddr 1 (.t 1)⟩,
      ⟨none, (some 4), .load false 1 (.t 3)⟩,
      ⟨none, (some 5), .call 73 [(.t 4), (.c (.int .i64 1)), (.c (.int .i64 20))]⟩,
      ⟨none, (some 6), .mv (.t 5)⟩,
      ⟨(some (6, true)), (some 7), .faddr 0 (.t 1)⟩,
      ⟨(some (6, true)), (some 8), .load false 1 (.t 7)⟩,
      ⟨(some (6, true)), (some 9), .faddr 1 (.t 1)⟩,
      ⟨(some (6, true)), (some 10), .load false 1 (.t 9)⟩,
      ⟨(some (6, true)), (some 11), .call 73 [(.t 8), (.c (.int .i64 0)), (.t 10)]⟩,
      ⟨none, (some 12), .pick (.t 6) (.t 11) (.c (.bool false))⟩,
      ⟨none, (some 2), .mv (.t 12)⟩])
    .ret))
theorem ok72 : FnOk Try.prog 72 13 1 c72 [.t 2] := ⟨_, _, Try.func72, rfl, rfl, by kernel_rfl, by kernel_rfl⟩
theorem bd72 : bodied Try.prog 72 = true := by kernel_rfl

/-- ferrule/frames.within -/
def c73 : CI := (.seq (.reg [⟨none, (some 6), .mv (.c (.bool false))⟩])
    (.seq (.reg [⟨none, (some 7), .mv (.t 1)⟩,
      ⟨none, (some 8), .mv (.t 0)⟩,
      ⟨none, (some 9), .bin .leq (.t 7) (.t 8)⟩,
      ⟨none, (some 10), .mv (.t 9)⟩,
      ⟨(some (10, true)), (some 11), .mv (.t 0)⟩,
      ⟨(some (10, true)), (some 12), .mv (.t 2)⟩,
      ⟨(some (10, true)), (some 13), .bin .leq (.t 11) (.t 12)⟩,
      ⟨none, (some 14), .pick (.t 10) (.t 13) (.c (.bool false))⟩,
      ⟨none, (some 6), .mv (.t 14)⟩])
    .ret))
theorem ok73 : FnOk Try.prog 73 15 0 c73 [.t 6] := ⟨_, _, Try.func73, rfl, rfl, by kernel_rfl, by kernel_rfl⟩
theorem bd73 : bodied Try.prog 73 = true := by kernel_rfl

/-- ferrule/frames.cosine -/
def c74 : CI := (.seq (.reg [⟨none, (some 6), .alloc 0 [(.int .i64 0), (.int .i64 0)]⟩])
    (.seq (.reg [⟨none, (some 7), .mv (.t 0)⟩,
      ⟨none, (some 8), .mv (.t 0)⟩,
      ⟨none, (some 9), .bin .mul (.t 7) (.t 8)⟩,
      ⟨none, (some 10), .mv (.t 1)⟩,
      ⟨none, (some 11), .mv (.t 1)⟩,
      ⟨none, (some 12), .bin .mul (.t 10) (.t 11)⟩,
      ⟨none, (some 13), .bin .add (.t 9) (.t 12)⟩,
      ⟨none, (some 14), .mv (.t 2)⟩,
      ⟨none, (some 15), .mv (.t 2)⟩,
      ⟨none, (some 16), .bin .mul (.t 14) (.t 15)⟩,
      ⟨none, (some 17), .bin .sub (.t 13) (.t 16)⟩,
      ⟨none, (some 18), .mv (.t 0)⟩,
      ⟨none, (some 19), .bin .mul (.c (.int .i64 2)) (.t 18)⟩,
      ⟨none, (some 20), .mv (.t 1)⟩,
      ⟨none, (some 21), .bin .mul (.t 19) (.t 20)⟩,
      ⟨none, (some 22), .build [(.int .i64 0), (.int .i64 0)] [(0, 1, (.t 17)), (1, 1, (.t 21))]⟩,
      ⟨none, none, .store true 2 (.t 6) (.t 22) []⟩])
    .ret))
theorem ok74 : FnOk Try.prog 74 23 1 c74 [.cell 6 true 2] := ⟨_, _, Try.func74, rfl, rfl, by kernel_rfl, by kernel_rfl⟩
theorem bd74 : bodied Try.prog 74 = true := by kernel_rfl

/-- ferrule/frames.sides -/
def c75 : CI := (.seq (.reg [⟨none, (some 1), .box 0 true (.t 0)⟩,
      ⟨none, (some 2), .mv (.c (.lit (.nilFunc)))⟩])
    (.seq (.reg [⟨none, (some 3), .mkfn 83 [(.t 1)]⟩,
      ⟨none, (some 2), .mv (.t 3)⟩])
    .ret))
theorem ok75 : FnOk Try.prog 75 4 1 c75 [.t 2] := ⟨_, _, Try.func75, rfl, rfl, by kernel_rfl, by kernel_rfl⟩
theorem bd75 : bodied Try.prog 75 = true := by kernel_rfl

/-- ferrule/frames.less -/
def c76 : CI := (.seq (.reg [⟨none, (some 2), .box 0 true (.t 0)⟩,
      ⟨none, (some 3), .box 1 true (.t 1)⟩,
      ⟨none, (some 4), .mv (.c (.bool false))⟩])
    (.seq (.reg [⟨none, (some 5), .faddr 0 (.t 2)⟩,
      ⟨none, (some 6), .load false 1 (.t 5)⟩,
      ⟨none, (some 7), .faddr 1 (.t 3)⟩,
      ⟨none, (some 8), .load false 1 (.t 7)⟩,
      ⟨none, (some 9), .bin .mul (.t 6) (.t 8)⟩,
      ⟨none, (some 10), .faddr 0 (.t 3)⟩,
      ⟨none, (some 11), .load false 1 (.t 10)⟩,
      ⟨none, (some 12), .faddr 1 (.t 2)⟩,
      ⟨none, (some 13), .load false 1 (.t 12)⟩,
      ⟨none, (some 14), .bin .mul (.t 11) (.t 13)⟩,
      ⟨none, (some 15), .bin .lss (.t 9) (.t 14)⟩,
      ⟨none, (some 4), .mv (.t 15)⟩])
    .ret))
theorem ok76 : FnOk Try.prog 76 16 2 c76 [.t 4] := ⟨_, _, Try.func76, rfl, rfl, by kernel_rfl, by kernel_rfl⟩
theorem bd76 : bodied Try.prog 76 = true := by kernel_rfl

/-- ferrule/frames.divisor -/
def c77 : CI := (.seq (.reg [⟨none, (some 4), .mv (.c (.int .i64 0))⟩])
    (.seq (.block 0 (.loop (.seq (.seq (.reg [⟨none, (some 5), .mv (.t 0)⟩,
      ⟨none, (some 6), .bin .neq (.t 5) (.c (.int .i64 0))⟩])
    (.cond (.t 6) .skip
    (.exit 0)))
    (.block 1 (.reg [⟨none, (some 7), .mv (.t 1)⟩,
      ⟨none, (some 8), .mv (.t 0)⟩,
      ⟨none, (some 9), .bin .rem (.t 7) (.t 8)⟩,
      ⟨none, (some 10), .mv (.t 0)⟩,
      ⟨none, (some 0), .mv (.t 9)⟩,
      ⟨none, (some 1), .mv (.t 10)⟩])))))
    (.seq (.reg [⟨none, (some 11), .mv (.t 1)⟩,
      ⟨none, (some 4), .mv (.t 11)⟩])
    .ret)))
theorem ok77 : FnOk Try.prog 77 12 0 c77 [.t 4] := ⟨_, _, Try.func77, rfl, rfl, by kernel_rfl, by kernel_rfl⟩
theorem bd77 : bodied Try.prog 77 = true := by kernel_rfl

/-- ferrule/frames.bindsAt$1 -/
def c78 : CI := (.seq (.reg [⟨none, (some 7), .mv (.c (.bool false))⟩])
    (.seq (.seq (.reg [⟨none, (some 9), .load false 1 (.t 2)⟩,
      ⟨none, (some 10), .bin .eql (.t 9) (.c (.int .i64 0))⟩])
    (.cond (.t 10) (.seq (.reg [⟨none, (some 7), .mv (.c (.bool true))⟩])
    .ret)
    .skip))
    (.seq (.reg [⟨none, (some 11), .load false 1 (.t 2)⟩,
      ⟨none, (some 12), .mv (.t 0)⟩,
      ⟨none, (some 13), .mv (.t 1)⟩,
      ⟨none, (some 14), .call 74 [(.t 11), (.t 12), (.t 13)]⟩,
      ⟨none, (some 8), .alloc 0 [(.int .i64 0), (.int .i64 0)]⟩,
      ⟨none, none, .store true 2 (.t 8) (.t 14) []⟩])
    (.seq (.reg [⟨none, (some 15), .load true 2 (.t 8)⟩,
      ⟨none, (some 16), .load true 2 (.t 3)⟩,
      ⟨none, (some 17), .call 76 [(.t 15), (.t 16)]⟩,
      ⟨none, (some 18), .un .not (.t 17)⟩,
      ⟨none, (some 19), .mv (.t 18)⟩,
      ⟨(some (19, false)), (some 20), .load true 2 (.t 4)⟩,
      ⟨(some (19, false)), (some 21), .load true 2 (.t 8)⟩,
      ⟨(some (19, false)), (some 22), .call 76 [(.t 20), (.t 21)]⟩,
      ⟨(some (19, false)), (some 23), .un .not (.t 22)⟩,
      ⟨none, (some 24), .pick (.t 19) (.c (.bool true)) (.t 23)⟩,
      ⟨none, (some 7), .mv (.t 24)⟩])
    .ret))))
theorem ok78 : FnOk Try.prog 78 25 1 c78 [.t 7] := ⟨_, _, Try.func78, rfl, rfl, by kernel_rfl, by kernel_rfl⟩
theorem bd78 : bodied Try.prog 78 = true := by kernel_rfl

/-- ferrule/frames.positions$1 -/
def c79 : CI := (.seq (.reg [⟨none, (some 4), .faddr 2 (.t 1)⟩,
      ⟨none, (some 5), .load false 1 (.t 4)⟩,
      ⟨none, (some 3), .mv (.t 5)⟩])
    (.block 0 (.loop (.seq (.seq (.reg [⟨none, (some 6), .mv (.t 3)⟩,
      ⟨none, (some 7), .faddr 1 (.t 1)⟩,
      ⟨none, (some 8), .load false 1 (.t 7)⟩,
      ⟨none, (some 9), .bin .geq (.t 6) (.t 8)⟩])
    (.cond (.t 9) .skip
    (.exit 0)))
    (.seq (.block 1 (.seq (.reg [⟨none, (some 12), .mv (.t 0)⟩,
      ⟨none, (some 13), .mv (.t 3)⟩,
      ⟨none, (some 14), .callv (.t 12) [(.t 13)]⟩,
      ⟨none, (some 15), .un .not (.t 14)⟩])
    (.cond (.t 15) .ret
    .skip)))
    (.reg [⟨none, (some 10), .mv (.t 3)⟩,
      ⟨none, (some 11), .bin .sub (.t 10) (.c (.int .i64 1))⟩,
      ⟨none, (some 3), .mv (.t 11)⟩]))))))
theorem ok79 : FnOk Try.prog 79 16 0 c79 [] := ⟨_, _, Try.func79, rfl, rfl, by kernel_rfl, by kernel_rfl⟩
theorem bd79 : bodied Try.prog 79 = true := by kernel_rfl

/-- ferrule/frames.bindsSomewhere$1 -/
def c80 : CI := (.seq (.reg [⟨none, (some 4), .box 0 false (.t 0)⟩,
      ⟨none, (some 5), .box 1 false (.t 1)⟩,
      ⟨none, (some 6), .alloc 2 [(.bool false)]⟩])
    (.seq (.seq (.reg [⟨none, (some 8), .load true 7 (.t 2)⟩,
      ⟨none, (some 9), .callz 3 0 63 [(.t 8)] []⟩])
    (.block 0 (.rng (.t 9) [10] (.reg [⟨none, (some 7), .mv (.t 10)⟩])
    (.block 1 (.seq (.reg [⟨none, (some 11), .load true 7 (.t 2)⟩,
      ⟨none, (some 12), .load false 1 (.t 3)⟩,
      ⟨none, (some 13), .mv (.t 7)⟩,
      ⟨none, (some 15), .load false 1 (.t 4)⟩,
      ⟨none, (some 16), .load false 1 (.t 5)⟩,
      ⟨none, (some 14), .callz 3 0 60 [(.t 11), (.t 12), (.t 13)] []⟩,
      ⟨none, (some 17), .callv (.t 14) [(.t 15), (.t 16)]⟩])
    (.cond (.t 17) (.seq (.reg [⟨none, none, .store false 1 (.t 6) (.c (.bool true)) []⟩])
    .ret)
    .skip))))))
    (.seq (.reg [⟨none, none, .store false 1 (.t 6) (.c (.bool false)) []⟩])
    .ret)))
theorem ok80 : FnOk Try.prog 80 18 3 c80 [.cell 6 false 1] := ⟨_, _, Try.func80, rfl, rfl, by kernel_rfl, by kernel_rfl⟩
theorem bd80 : bodied Try.prog 80 = true := by kernel_rfl

/-- ferrule/frames.turnsBack$1 -/
def c81 : CI := (.seq (.reg [⟨none, (some 4), .box 0 false (.t 0)⟩,
      ⟨none, (some 5), .box 1 false (.t 1)⟩,
      ⟨none, (some 6), .alloc 2 [(.bool false)]⟩])
    (.seq (.seq (.reg [⟨none, (some 8), .load true 7 (.t 2)⟩,
      ⟨none, (some 9), .callz 3 0 63 [(.t 8)] []⟩])
    (.block 0 (.rng (.t 9) [10] (.reg [⟨none, (some 7), .mv (.t 10)⟩])
    (.block 1 (.seq (.reg [⟨none, (some 11), .mv (.t 7)⟩,
      ⟨none, (some 12), .faddr 1 (.t 2)⟩,
      ⟨none, (some 13), .load false 1 (.t 12)⟩,
      ⟨none, (some 14), .bin .gtr (.t 11) (.t 13)⟩,
      ⟨none, (some 15), .mv (.t 14)⟩,
      ⟨(some (15, true)), (some 16), .load true 7 (.t 2)⟩,
      ⟨(some (15, true)), (some 17), .load false 1 (.t 3)⟩,
      ⟨(some (15, true)), (some 18), .mv (.t 7)⟩,
      ⟨(some (15, true)), (some 19), .bin .sub (.t 18) (.c (.int .i64 1))⟩,
      ⟨(some (15, true)), (some 21), .load true 7 (.t 2)⟩,
      ⟨(some (15, true)), (some 22), .load false 1 (.t 3)⟩,
      ⟨(some (15, true)), (some 23), .mv (.t 7)⟩,
      ⟨(some (15, true)), (some 25), .load false 1 (.t 4)⟩,
      ⟨(some (15, true)), (some 26), .load false 1 (.t 5)⟩,
      ⟨(some (15, true)), (some 20), .call 53 [(.t 16), (.t 17), (.t 19)]⟩,
      ⟨(some (15, true)), (some 24), .call 53 [(.t 21), (.t 22), (.t 23)]⟩,
      ⟨(some (15, true)), (some 27), .call 82 [(.t 20), (.t 24), (.t 25), (.t 26)]⟩,
      ⟨none, (some 28), .pick (.t 15) (.t 27) (.c (.bool false))⟩])
    (.cond (.t 28) (.seq (.reg [⟨none, none, .store false 1 (.t 6) (.c (.bool true)) []⟩])
    .ret)
    .skip))))))
    (.seq (.reg [⟨none, none, .store false 1 (.t 6) (.c (.bool false)) []⟩])
    .ret)))
theorem ok81 : FnOk Try.prog 81 29 3 c81 [.cell 6 false 1] := ⟨_, _, Try.func81, rfl, rfl, by kernel_rfl, by kernel_rfl⟩
theorem bd81 : bodied Try.prog 81 = true := by kernel_rfl

/-- ferrule/frames.fallsBetween -/
def c82 : CI := (.seq (.reg [⟨none, (some 8), .mv (.c (.bool false))⟩])
    (.seq (.reg [⟨none, (some 9), .mv (.t 0)⟩,
      ⟨none, (some 10), .bin .gtr (.t 9) (.c (.int .i64 0))⟩,
      ⟨none, (some 11), .mv (.t 10)⟩,
      ⟨(some (11, true)), (some 12), .mv (.t 1)⟩,
      ⟨(some (11, true)), (some 13), .bin .gtr (.t 12) (.c (.int .i64 0))⟩,
      ⟨none, (some 14), .pick (.t 11) (.t 13) (.c (.bool false))⟩,
      ⟨none, (some 15), .mv (.t 14)⟩,
      ⟨(some (15, true)), (some 16), .mv (.t 1)⟩,
      ⟨(some (15, true)), (some 17), .mv (.t 2)⟩,
      ⟨(some (15, true)), (some 18), .mv (.t 3)⟩,
      ⟨(some (15, true)), (some 19), .call 74 [(.t 16), (.t 17), (.t 18)]⟩,
      ⟨(some (15, true)), (some 20), .mv (.t 0)⟩,
      ⟨(some (15, true)), (some 21), .mv (.t 2)⟩,
      ⟨(some (15, true)), (some 22), .mv (.t 3)⟩,
      ⟨(some (15, true)), (some 23), .call 74 [(.t 20), (.t 21), (.t 22)]⟩,
      ⟨(some (15, true)), (some 24), .call 76 [(.t 19), (.t 23)]⟩,
      ⟨none, (some 25), .pick (.t 15) (.t 24) (.c (.bool false))⟩,
      ⟨none, (some 8), .mv (.t 25)⟩])
    .ret))
theorem ok82 : FnOk Try.prog 82 26 0 c82 [.t 8] := ⟨_, _, Try.func82, rfl, rfl, by kernel_rfl, by kernel_rfl⟩
theorem bd82 : bodied Try.prog 82 = true := by kernel_rfl

/-- ferrule/frames.sides$1 -/
def c83 : CI := (.seq (.reg [⟨none, (some 5), .faddr 0 (.t 1)⟩,
      ⟨none, (some 6), .faddr 0 (.t 5)⟩,
      ⟨none, (some 7), .load false 1 (.t 6)⟩,
      ⟨none, (some 3), .mv (.t 7)⟩])
    (.block 0 (.loop (.seq (.seq (.reg [⟨none, (some 8), .mv (.t 3)⟩,
      ⟨none, (some 9), .faddr 0 (.t 1)⟩,
      ⟨none, (some 10), .faddr 1 (.t 9)⟩,
      ⟨none, (some 11), .load false 1 (.t 10)⟩,
      ⟨none, (some 12), .bin .leq (.t 8) (.t 11)⟩])
    (.cond (.t 12) .skip
    (.exit 0)))
    (.seq (.block 1 (.seq (.reg [⟨none, (some 15), .faddr 2 (.t 1)⟩,
      ⟨none, (some 16), .faddr 0 (.t 15)⟩,
      ⟨none, (some 17), .load false 1 (.t 16)⟩,
      ⟨none, (some 4), .mv (.t 17)⟩])
    (.block 2 (.loop (.seq (.seq (.reg [⟨none, (some 18), .mv (.t 4)⟩,
      ⟨none, (some 19), .faddr 2 (.t 1)⟩,
      ⟨none, (some 20), .faddr 1 (.t 19)⟩,
      ⟨none, (some 21), .load false 1 (.t 20)⟩,
      ⟨none, (some 22), .bin .leq (.t 18) (.t 21)⟩])
    (.cond (.t 22) .skip
    (.exit 2)))
    (.seq (.block 3 (.seq (.reg [⟨none, (some 25), .mv (.t 0)⟩,
      ⟨none, (some 26), .mv (.t 3)⟩,
      ⟨none, (some 27), .mv (.t 4)⟩,
      ⟨none, (some 28), .callv (.t 25) [(.t 26), (.t 27)]⟩,
      ⟨none, (some 29), .un .not (.t 28)⟩])
    (.cond (.t 29) .ret
    .skip)))
    (.reg [⟨none, (some 23), .mv (.t 4)⟩,
      ⟨none, (some 24), .bin .add (.t 23) (.c (.int .i64 1))⟩,
      ⟨none, (some 4), .mv (.t 24)⟩])))))))
    (.reg [⟨none, (some 13), .mv (.t 3)⟩,
      ⟨none, (some 14), .bin .add (.t 13) (.c (.int .i64 1))⟩,
      ⟨none, (some 3), .mv (.t 14)⟩]))))))
theorem ok83 : FnOk Try.prog 83 30 0 c83 [] := ⟨_, _, Try.func83, rfl, rfl, by kernel_rfl, by kernel_rfl⟩
theorem bd83 : bodied Try.prog 83 = true := by kernel_rfl

def tblL : List (Nat × FE) := [(3, 127, 8, c3, [.t 4]),
  (4, 143, 5, c4, [.t 4]),
  (5, 270, 5, c5, [.t 6]),
  (6, 216, 6, c6, [.t 4]),
  (7, 337, 10, c7, [.t 6]),
  (8, 169, 4, c8, [.t 6]),
  (9, 145, 9, c9, [.t 6]),
  (10, 222, 6, c10, [.t 4]),
  (11, 20, 1, c11, [.t 2]),
  (12, 76, 4, c12, [.t 0]),
  (13, 9, 4, c13, [.cell 2 true 7]),
  (14, 6, 1, c14, [.t 2]),
  (15, 83, 2, c15, [.t 2]),
  (16, 20, 1, c16, [.t 6, .t 7]),
  (17, 26, 1, c17, [.t 6, .t 7]),
  (18, 42, 3, c18, [.cell 6 true 2, .cell 7 true 2, .t 8]),
  (19, 72, 5, c19, [.cell 6 true 2, .cell 7 true 2, .t 8]),
  (20, 26, 1, c20, [.t 6, .t 7]),
  (21, 34, 1, c21, [.t 6, .t 7]),
  (22, 66, 2, c22, [.t 4]),
  (23, 35, 5, c23, [.cell 2 false 1, .cell 3 false 1, .cell 4 false 1]),
  (24, 41, 1, c24, [.t 2, .t 3, .t 4]),
  (25, 35, 2, c25, [.t 2, .t 3]),
  (26, 35, 1, c26, [.t 2, .t 3]),
  (27, 22, 1, c27, [.t 4, .t 5]),
  (28, 40, 2, c28, [.t 4, .t 5]),
  (29, 33, 4, c29, [.t 2, .t 3]),
  (30, 34, 3, c30, [.t 2, .t 3]),
  (31, 47, 2, c31, [.t 2, .t 3]),
  (32, 54, 1, c32, [.t 2, .t 3]),
  (33, 26, 0, c33, [.t 4]),
  (34, 11, 1, c34, [.t 2]),
  (35, 15, 2, c35, [.t 4]),
  (36, 33, 3, c36, [.t 6]),
  (37, 21, 2, c37, [.t 6]),
  (38, 30, 2, c38, [.cell 4 true 2, .t 5]),
  (39, 21, 1, c39, [.t 2]),
  (40, 16, 2, c40, [.t 4]),
  (41, 51, 4, c41, [.t 8]),
  (42, 15, 0, c42, [.t 4]),
  (43, 49, 4, c43, [.t 6]),
  (44, 41, 4, c44, [.t 4]),
  (45, 11, 1, c45, [.t 4]),
  (46, 22, 3, c46, [.cell 4 true 7]),
  (47, 12, 2, c47, [.cell 0 true 7]),
  (48, 47, 2, c48, [.t 2]),
  (49, 21, 1, c49, [.t 2]),
  (50, 15, 0, c50, [.t 6]),
  (51, 13, 1, c51, [.t 2]),
  (52, 21, 1, c52, [.t 6]),
  (53, 35, 2, c53, [.t 6]),
  (54, 13, 1, c54, [.t 4]),
  (55, 11, 1, c55, [.t 4]),
  (56, 32, 2, c56, [.t 6]),
  (57, 36, 5, c57, [.cell 4 true 2, .cell 5 true 2]),
  (58, 22, 2, c58, [.cell 2 true 2]),
  (59, 20, 4, c59, [.t 4]),
  (60, 32, 4, c60, [.t 6]),
  (61, 32, 2, c61, [.t 6, .t 7]),
  (62, 11, 0, c62, [.t 4]),
  (63, 4, 1, c63, [.t 2]),
  (64, 6, 2, c64, [.t 4]),
  (65, 9, 0, c65, [.t 4]),
  (66, 29, 2, c66, [.t 4, .t 5]),
  (67, 15, 1, c67, [.t 4]),
  (68, 6, 2, c68, [.t 4]),
  (69, 25, 1, c69, [.cell 4 true 2]),
  (70, 21, 1, c70, [.t 2]),
  (71, 24, 1, c71, [.t 4]),
  (72, 13, 1, c72, [.t 2]),
  (73, 15, 0, c73, [.t 6]),
  (74, 23, 1, c74, [.cell 6 true 2]),
  (75, 4, 1, c75, [.t 2]),
  (76, 16, 2, c76, [.t 4]),
  (77, 12, 0, c77, [.t 4]),
  (78, 25, 1, c78, [.t 7]),
  (79, 16, 0, c79, []),
  (80, 18, 3, c80, [.cell 6 false 1]),
  (81, 29, 3, c81, [.cell 6 false 1]),
  (82, 26, 0, c82, [.t 8]),
  (83, 30, 0, c83, [])]

theorem tbl_ok : TblOk Try.prog tblL := ⟨⟨ok3, bd3⟩, ⟨ok4, bd4⟩, ⟨ok5, bd5⟩, ⟨ok6, bd6⟩, ⟨ok7, bd7⟩, ⟨ok8, bd8⟩, ⟨ok9, bd9⟩, ⟨ok10, bd10⟩, ⟨ok11, bd11⟩, ⟨ok12, bd12⟩, ⟨ok13, bd13⟩, ⟨ok14, bd14⟩, ⟨ok15, bd15⟩, ⟨ok16, bd16⟩, ⟨ok17, bd17⟩, ⟨ok18, bd18⟩, ⟨ok19, bd19⟩, ⟨ok20, bd20⟩, ⟨ok21, bd21⟩, ⟨ok22, bd22⟩, ⟨ok23, bd23⟩, ⟨ok24, bd24⟩, ⟨ok25, bd25⟩, ⟨ok26, bd26⟩, ⟨ok27, bd27⟩, ⟨ok28, bd28⟩, ⟨ok29, bd29⟩, ⟨ok30, bd30⟩, ⟨ok31, bd31⟩, ⟨ok32, bd32⟩, ⟨ok33, bd33⟩, ⟨ok34, bd34⟩, ⟨ok35, bd35⟩, ⟨ok36, bd36⟩, ⟨ok37, bd37⟩, ⟨ok38, bd38⟩, ⟨ok39, bd39⟩, ⟨ok40, bd40⟩, ⟨ok41, bd41⟩, ⟨ok42, bd42⟩, ⟨ok43, bd43⟩, ⟨ok44, bd44⟩, ⟨ok45, bd45⟩, ⟨ok46, bd46⟩, ⟨ok47, bd47⟩, ⟨ok48, bd48⟩, ⟨ok49, bd49⟩, ⟨ok50, bd50⟩, ⟨ok51, bd51⟩, ⟨ok52, bd52⟩, ⟨ok53, bd53⟩, ⟨ok54, bd54⟩, ⟨ok55, bd55⟩, ⟨ok56, bd56⟩, ⟨ok57, bd57⟩, ⟨ok58, bd58⟩, ⟨ok59, bd59⟩, ⟨ok60, bd60⟩, ⟨ok61, bd61⟩, ⟨ok62, bd62⟩, ⟨ok63, bd63⟩, ⟨ok64, bd64⟩, ⟨ok65, bd65⟩, ⟨ok66, bd66⟩, ⟨ok67, bd67⟩, ⟨ok68, bd68⟩, ⟨ok69, bd69⟩, ⟨ok70, bd70⟩, ⟨ok71, bd71⟩, ⟨ok72, bd72⟩, ⟨ok73, bd73⟩, ⟨ok74, bd74⟩, ⟨ok75, bd75⟩, ⟨ok76, bd76⟩, ⟨ok77, bd77⟩, ⟨ok78, bd78⟩, ⟨ok79, bd79⟩, ⟨ok80, bd80⟩, ⟨ok81, bd81⟩, ⟨ok82, bd82⟩, ⟨ok83, bd83⟩, trivial⟩

theorem run {sp : FTab} (hS : ∀ f args r, sp f args = some r → bodied Try.prog f = true ∧ FnA Try.prog f args (· = r)) {f : FuncId} {args : List AV} {r : AV} (L n : Nat) (h : (tabX (lookF tblL) sp L n).1 f args = some r) : FnA Try.prog f args (· = r) := fnA_run (lookF_ok tbl_ok) hS L n h

end Go.Proofs
