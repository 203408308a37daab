/- The functions of this program as the walk reads them, each proved to be what the program holds. -/
import Derived.Test.YtkpdkhidlhaaiaaGreatEng3
import Derived.Test.YtkpdkhidlhaaiaaGreatProg
import Derived.KernelRfl
namespace Go.Proofs
open Go.Eng
set_option maxRecDepth 100000

/-- ferrule/ferrulelaw05.GustsLoads -/
def c3 : CI := (.seq (.reg [⟨none, (some 2), .box 0 true (.t 0)⟩,
      ⟨none, (some 3), .box 1 true (.t 1)⟩,
      ⟨none, (some 4), .mv (.c (.bool false))⟩])
    (.seq (.seq (.reg [⟨none, (some 20), .load true 9 (.t 2)⟩,
      ⟨none, (some 21), .call 5 [(.t 20)]⟩])
    (.cond (.t 21) (.seq (.reg [⟨none, (some 22), .call 6 []⟩,
      ⟨none, (some 4), .mv (.t 22)⟩])
    .ret)
    .skip))
    (.seq (.reg [⟨none, (some 23), .load true 9 (.t 2)⟩,
      ⟨none, (some 24), .callw 2 3 7 [(.t 23)]⟩,
      ⟨none, (some 5), .alloc 5 [.nils, (.int .i64 0), (.int .i64 0), (.int .i64 0), (.int .i64 0), (.int .i64 0), (.int .i64 0), .nils, .nils]⟩,
      ⟨none, none, .stz true 9 (.t 5) (.t 24) []⟩])
    (.seq (.seq (.reg [⟨none, (some 25), .load true 9 (.t 5)⟩,
      ⟨none, (some 27), .load true 9 (.t 2)⟩,
      ⟨none, (some 26), .call 8 [(.t 25)]⟩,
      ⟨none, (some 28), .call 9 [(.t 27)]⟩,
      ⟨none, (some 29), .bin .neq (.t 26) (.t 28)⟩])
    (.cond (.t 29) (.seq (.reg [⟨none, (some 4), .mv (.c (.bool false))⟩])
    .ret)
    .skip))
    (.seq (.reg [⟨none, (some 31), .load true 9 (.t 5)⟩,
      ⟨none, (some 32), .call 10 [(.t 31)]⟩,
      ⟨none, (some 30), .mv (.t 32)⟩,
      ⟨none, (some 33), .extract 0 (.t 30)⟩,
      ⟨none, (some 34), .extract 1 (.t 30)⟩,
      ⟨none, (some 6), .alloc 6 [(.int .i64 0), (.int .i64 0)]⟩,
      ⟨none, none, .store true 2 (.t 6) (.t 33) []⟩,
      ⟨none, (some 7), .mv (.t 34)⟩])
    (.seq (.reg [⟨none, (some 36), .load true 9 (.t 2)⟩,
      ⟨none, (some 37), .call 11 [(.t 36)]⟩,
      ⟨none, (some 35), .mv (.t 37)⟩,
      ⟨none, (some 38), .extract 0 (.t 35)⟩,
      ⟨none, (some 39), .extract 1 (.t 35)⟩,
      ⟨none, (some 8), .alloc 7 [(.int .i64 0), (.int .i64 0)]⟩,
      ⟨none, none, .store true 2 (.t 8) (.t 38) []⟩,
      ⟨none, (some 9), .mv (.t 39)⟩])
    (.seq (.reg [⟨none, (some 41), .load true 9 (.t 5)⟩,
      ⟨none, (some 42), .load true 2 (.t 3)⟩,
      ⟨none, (some 43), .callw 8 1 12 [(.t 41), (.t 42)]⟩,
      ⟨none, (some 40), .mv (.t 43)⟩,
      ⟨none, (some 44), .extract 0 (.t 40)⟩,
      ⟨none, (some 45), .extract 1 (.t 40)⟩,
      ⟨none, (some 10), .mv (.t 44)⟩,
      ⟨none, (some 11), .mv (.t 45)⟩])
    (.seq (.reg [⟨none, (some 47), .load true 9 (.t 2)⟩,
      ⟨none, (some 48), .load true 2 (.t 3)⟩,
      ⟨none, (some 49), .callw 9 1 13 [(.t 47), (.t 48)]⟩,
      ⟨none, (some 46), .mv (.t 49)⟩,
      ⟨none, (some 50), .extract 0 (.t 46)⟩,
      ⟨none, (some 51), .extract 1 (.t 46)⟩,
      ⟨none, (some 12), .mv (.t 50)⟩,
      ⟨none, (some 13), .mv (.t 51)⟩])
    (.seq (.reg [⟨none, (some 53), .load true 9 (.t 5)⟩,
      ⟨none, (some 54), .load true 2 (.t 3)⟩,
      ⟨none, (some 55), .callw 10 2 14 [(.t 53), (.t 54)]⟩,
      ⟨none, (some 52), .mv (.t 55)⟩,
      ⟨none, (some 56), .extract 0 (.t 52)⟩,
      ⟨none, (some 57), .extract 1 (.t 52)⟩,
      ⟨none, (some 58), .extract 2 (.t 52)⟩,
      ⟨none, (some 14), .mv (.t 56)⟩,
      ⟨none, (some 15), .mv (.t 57)⟩,
      ⟨none, (some 16), .mv (.t 58)⟩])
    (.seq (.reg [⟨none, (some 60), .load true 9 (.t 2)⟩,
      ⟨none, (some 61), .load true 2 (.t 3)⟩,
      ⟨none, (some 62), .callw 12 2 15 [(.t 60), (.t 61)]⟩,
      ⟨none, (some 59), .mv (.t 62)⟩,
      ⟨none, (some 63), .extract 0 (.t 59)⟩,
      ⟨none, (some 64), .extract 1 (.t 59)⟩,
      ⟨none, (some 65), .extract 2 (.t 59)⟩,
      ⟨none, (some 17), .mv (.t 63)⟩,
      ⟨none, (some 18), .mv (.t 64)⟩,
      ⟨none, (some 19), .mv (.t 65)⟩])
    (.seq (.reg [⟨none, (some 66), .load true 2 (.t 6)⟩,
      ⟨none, (some 67), .load true 2 (.t 8)⟩,
      ⟨none, (some 68), .eqs false (.node [(0, 1, (.leaf true)), (1, 1, (.leaf true))]) (.t 66) (.t 67)⟩,
      ⟨none, (some 69), .mv (.t 68)⟩,
      ⟨(some (69, true)), (some 70), .mv (.t 7)⟩,
      ⟨(some (69, true)), (some 71), .mv (.t 9)⟩,
      ⟨(some (69, true)), (some 72), .bin .eql (.t 70) (.t 71)⟩,
      ⟨none, (some 73), .pick (.t 69) (.t 72) (.c (.bool false))⟩,
      ⟨none, (some 74), .mv (.t 73)⟩,
      ⟨(some (74, true)), (some 75), .mv (.t 10)⟩,
      ⟨(some (74, true)), (some 76), .mv (.t 12)⟩,
      ⟨(some (74, true)), (some 77), .call 16 [(.t 75), (.t 76)]⟩,
      ⟨none, (some 78), .pick (.t 74) (.t 77) (.c (.bool false))⟩,
      ⟨none, (some 79), .mv (.t 78)⟩,
      ⟨(some (79, true)), (some 80), .mv (.t 11)⟩,
      ⟨(some (79, true)), (some 81), .mv (.t 13)⟩,
      ⟨(some (79, true)), (some 82), .bin .eql (.t 80) (.t 81)⟩,
      ⟨none, (some 83), .pick (.t 79) (.t 82) (.c (.bool false))⟩,
      ⟨none, (some 84), .mv (.t 83)⟩,
      ⟨(some (84, true)), (some 85), .mv (.t 14)⟩,
      ⟨(some (84, true)), (some 86), .mv (.t 17)⟩,
      ⟨(some (84, true)), (some 87), .call 17 [(.t 85), (.t 86)]⟩,
      ⟨none, (some 88), .pick (.t 84) (.t 87) (.c (.bool false))⟩,
      ⟨none, (some 89), .mv (.t 88)⟩,
      ⟨(some (89, true)), (some 90), .mv (.t 15)⟩,
      ⟨(some (89, true)), (some 91), .mv (.t 18)⟩,
      ⟨(some (89, true)), (some 92), .call 17 [(.t 90), (.t 91)]⟩,
      ⟨none, (some 93), .pick (.t 89) (.t 92) (.c (.bool false))⟩,
      ⟨none, (some 94), .mv (.t 93)⟩,
      ⟨(some (94, true)), (some 95), .mv (.t 16)⟩,
      ⟨(some (94, true)), (some 96), .mv (.t 19)⟩,
      ⟨(some (94, true)), (some 97), .bin .eql (.t 95) (.t 96)⟩,
      ⟨none, (some 98), .pick (.t 94) (.t 97) (.c (.bool false))⟩,
      ⟨none, (some 99), .mv (.t 98)⟩,
      ⟨(some (99, true)), (some 100), .faddr 7 (.t 5)⟩,
      ⟨(some (99, true)), (some 101), .load false 1 (.t 100)⟩,
      ⟨(some (99, true)), (some 102), .faddr 7 (.t 2)⟩,
      ⟨(some (99, true)), (some 103), .load false 1 (.t 102)⟩,
      ⟨(some (99, true)), (some 104), .call 16 [(.t 101), (.t 103)]⟩,
      ⟨none, (some 105), .pick (.t 99) (.t 104) (.c (.bool false))⟩,
      ⟨none, (some 106), .mv (.t 105)⟩,
      ⟨(some (106, true)), (some 107), .faddr 8 (.t 5)⟩,
      ⟨(some (106, true)), (some 108), .load false 1 (.t 107)⟩,
      ⟨(some (106, true)), (some 109), .faddr 8 (.t 2)⟩,
      ⟨(some (106, true)), (some 110), .load false 1 (.t 109)⟩,
      ⟨(some (106, true)), (some 111), .call 17 [(.t 108), (.t 110)]⟩,
      ⟨none, (some 112), .pick (.t 106) (.t 111) (.c (.bool false))⟩,
      ⟨none, (some 113), .mv (.t 112)⟩,
      ⟨(some (113, true)), (some 114), .call 6 []⟩,
      ⟨none, (some 115), .pick (.t 113) (.t 114) (.c (.bool false))⟩,
      ⟨none, (some 4), .mv (.t 115)⟩])
    .ret)))))))))))
theorem ok3 : FnOk Tryz.prog 3 116 14 c3 [.t 4] := ⟨_, _, Tryz.func3, rfl, rfl, by kernel_rfl, by kernel_rfl⟩
theorem bd3 : bodied Tryz.prog 3 = true := by kernel_rfl

/-- ferrule/ferrulelaw05.Far -/
def c5 : CI := (.seq (.reg [⟨none, (some 1), .box 0 true (.t 0)⟩,
      ⟨none, (some 2), .mv (.c (.bool false))⟩])
    (.seq (.reg [⟨none, (some 3), .faddr 0 (.t 1)⟩,
      ⟨none, (some 4), .faddr 0 (.t 3)⟩,
      ⟨none, (some 5), .load false 1 (.t 4)⟩,
      ⟨none, (some 6), .len (.t 5)⟩,
      ⟨none, (some 7), .bin .gtr (.t 6) (.c (.int .i64 20))⟩,
      ⟨none, (some 8), .mv (.t 7)⟩,
      ⟨(some (8, false)), (some 9), .faddr 7 (.t 1)⟩,
      ⟨(some (8, false)), (some 10), .load false 1 (.t 9)⟩,
      ⟨(some (8, false)), (some 11), .len (.t 10)⟩,
      ⟨(some (8, false)), (some 12), .bin .gtr (.t 11) (.c (.int .i64 40))⟩,
      ⟨none, (some 13), .pick (.t 8) (.c (.bool true)) (.t 12)⟩,
      ⟨none, (some 14), .mv (.t 13)⟩,
      ⟨(some (14, false)), (some 15), .faddr 8 (.t 1)⟩,
      ⟨(some (14, false)), (some 16), .load false 1 (.t 15)⟩,
      ⟨(some (14, false)), (some 17), .len (.t 16)⟩,
      ⟨(some (14, false)), (some 18), .bin .gtr (.t 17) (.c (.int .i64 40))⟩,
      ⟨none, (some 19), .pick (.t 14) (.c (.bool true)) (.t 18)⟩,
      ⟨none, (some 2), .mv (.t 19)⟩])
    .ret))
theorem ok5 : FnOk Tryz.prog 5 20 1 c5 [.t 2] := ⟨_, _, Tryz.func5, rfl, rfl, by kernel_rfl, by kernel_rfl⟩
theorem bd5 : bodied Tryz.prog 5 = true := by kernel_rfl

/-- ferrule/ferrulelaw05.works -/
def c6 : CI := (.seq (.reg [⟨none, (some 0), .mv (.c (.bool false))⟩])
    (.seq (.reg [⟨none, (some 11), .callw 0 3 26 []⟩,
      ⟨none, (some 1), .alloc 3 [.nils, (.int .i64 0), (.int .i64 0), (.int .i64 0), (.int .i64 0), (.int .i64 0), (.int .i64 0), .nils, .nils]⟩,
      ⟨none, none, .stz true 9 (.t 1) (.t 11) []⟩])
    (.seq (.reg [⟨none, (some 13), .load true 9 (.t 1)⟩,
      ⟨none, (some 14), .call 10 [(.t 13)]⟩,
      ⟨none, (some 12), .mv (.t 14)⟩,
      ⟨none, (some 15), .extract 0 (.t 12)⟩,
      ⟨none, (some 16), .extract 1 (.t 12)⟩,
      ⟨none, (some 2), .alloc 4 [(.int .i64 0), (.int .i64 0)]⟩,
      ⟨none, none, .store true 2 (.t 2) (.t 15) []⟩,
      ⟨none, (some 3), .mv (.t 16)⟩])
    (.seq (.reg [⟨none, (some 18), .load true 9 (.t 1)⟩,
      ⟨none, (some 19), .build [(.int .i64 0), (.int .i64 0)] [(0, 1, (.c (.int .i64 14)))]⟩,
      ⟨none, (some 20), .callw 5 2 14 [(.t 18), (.t 19)]⟩,
      ⟨none, (some 17), .mv (.t 20)⟩,
      ⟨none, (some 21), .extract 0 (.t 17)⟩,
      ⟨none, (some 22), .extract 1 (.t 17)⟩,
      ⟨none, (some 23), .extract 2 (.t 17)⟩,
      ⟨none, (some 4), .mv (.t 21)⟩,
      ⟨none, (some 5), .mv (.t 22)⟩,
      ⟨none, (some 6), .mv (.t 23)⟩])
    (.seq (.reg [⟨none, (some 25), .load true 9 (.t 1)⟩,
      ⟨none, (some 26), .call 22 [(.t 25), (.c (.int .i64 0))]⟩,
      ⟨none, (some 24), .mv (.t 26)⟩,
      ⟨none, (some 27), .extract 0 (.t 24)⟩,
      ⟨none, (some 28), .extract 1 (.t 24)⟩,
      ⟨none, (some 7), .mv (.t 27)⟩,
      ⟨none, (some 8), .mv (.t 28)⟩])
    (.seq (.reg [⟨none, (some 30), .load true 9 (.t 1)⟩,
      ⟨none, (some 31), .build [(.int .i64 0), (.int .i64 0)] [(0, 1, (.c (.int .i64 12)))]⟩,
      ⟨none, (some 32), .build [(.int .i64 0), (.int .i64 0)] [(0, 1, (.c (.int .i64 14)))]⟩,
      ⟨none, (some 33), .bsl 7 32 2 [(.t 31), (.t 32)] []⟩,
      ⟨none, (some 34), .callw 8 1 24 [(.t 30), (.t 33)]⟩,
      ⟨none, (some 29), .mv (.t 34)⟩,
      ⟨none, (some 35), .extract 0 (.t 29)⟩,
      ⟨none, (some 36), .extract 1 (.t 29)⟩,
      ⟨none, (some 9), .mv (.t 35)⟩,
      ⟨none, (some 10), .mv (.t 36)⟩])
    (.seq (.reg [⟨none, (some 37), .mv (.t 3)⟩,
      ⟨none, (some 38), .bin .eql (.t 37) (.c (.int .i64 0))⟩,
      ⟨none, (some 39), .mv (.t 38)⟩,
      ⟨(some (39, true)), (some 40), .mv (.t 6)⟩,
      ⟨(some (39, true)), (some 41), .bin .eql (.t 40) (.c (.int .i64 0))⟩,
      ⟨none, (some 42), .pick (.t 39) (.t 41) (.c (.bool false))⟩,
      ⟨none, (some 43), .mv (.t 42)⟩,
      ⟨(some (43, true)), (some 44), .mv (.t 8)⟩,
      ⟨(some (43, true)), (some 45), .bin .eql (.t 44) (.c (.int .i64 0))⟩,
      ⟨none, (some 46), .pick (.t 43) (.t 45) (.c (.bool false))⟩,
      ⟨none, (some 47), .mv (.t 46)⟩,
      ⟨(some (47, true)), (some 48), .mv (.t 10)⟩,
      ⟨(some (47, true)), (some 49), .bin .eql (.t 48) (.c (.int .i64 0))⟩,
      ⟨none, (some 50), .pick (.t 47) (.t 49) (.c (.bool false))⟩,
      ⟨none, (some 51), .mv (.t 50)⟩,
      ⟨(some (51, true)), (some 52), .load true 2 (.t 2)⟩,
      ⟨(some (51, true)), (some 53), .build [(.int .i64 0), (.int .i64 0)] [(0, 1, (.c (.int .i64 65))), (1, 1, (.c (.int .i64 76)))]⟩,
      ⟨(some (51, true)), (some 54), .eqs false (.node [(0, 1, (.leaf true)), (1, 1, (.leaf true))]) (.t 52) (.t 53)⟩,
      ⟨none, (some 55), .pick (.t 51) (.t 54) (.c (.bool false))⟩,
      ⟨none, (some 56), .mv (.t 55)⟩,
      ⟨(some (56, true)), (some 57), .mv (.t 5)⟩,
      ⟨(some (56, true)), (some 58), .bsl 9 3 1 [(.c (.int .i64 0)), (.c (.int .i64 1)), (.c (.int .i64 2)), (.c (.int .i64 3)), (.c (.int .i64 4)), (.c (.int .i64 5))] []⟩,
      ⟨(some (56, true)), (some 59), .call 17 [(.t 57), (.t 58)]⟩,
      ⟨none, (some 60), .pick (.t 56) (.t 59) (.c (.bool false))⟩,
      ⟨none, (some 61), .mv (.t 60)⟩,
      ⟨(some (61, true)), (some 62), .mv (.t 7)⟩,
      ⟨(some (61, true)), (some 63), .bin .eql (.t 62) (.c (.int .i64 13))⟩,
      ⟨none, (some 64), .pick (.t 61) (.t 63) (.c (.bool false))⟩,
      ⟨none, (some 65), .mv (.t 64)⟩,
      ⟨(some (65, true)), (some 66), .mv (.t 9)⟩,
      ⟨(some (65, true)), (some 67), .bsl 10 3 1 [(.c (.int .i64 0)), (.c (.int .i64 1)), (.c (.int .i64 5))] []⟩,
      ⟨(some (65, true)), (some 68), .call 17 [(.t 66), (.t 67)]⟩,
      ⟨none, (some 69), .pick (.t 65) (.t 68) (.c (.bool false))⟩,
      ⟨none, (some 0), .mv (.t 69)⟩])
    .ret)))))))
theorem ok6 : FnOk Tryz.prog 6 70 11 c6 [.t 0] := ⟨_, _, Tryz.func6, rfl, rfl, by kernel_rfl, by kernel_rfl⟩
theorem bd6 : bodied Tryz.prog 6 = true := by kernel_rfl

/-- ferrule/ferruleref05.Copy -/
def c7 : CI := (.seq (.reg [⟨none, (some 1), .box 0 true (.t 0)⟩,
      ⟨none, (some 2), .alloc 1 [.nils, (.int .i64 0), (.int .i64 0), (.int .i64 0), (.int .i64 0), (.int .i64 0), (.int .i64 0), .nils, .nils]⟩])
    (.seq (.reg [⟨none, (some 4), .load true 9 (.t 1)⟩,
      ⟨none, (some 3), .alloc 2 [.nils, (.int .i64 0), (.int .i64 0), (.int .i64 0), (.int .i64 0), (.int .i64 0), (.int .i64 0), .nils, .nils]⟩,
      ⟨none, none, .stz true 9 (.t 3) (.t 4) []⟩])
    (.seq (.reg [⟨none, (some 5), .faddr 0 (.t 1)⟩,
      ⟨none, (some 6), .load true 7 (.t 5)⟩,
      ⟨none, (some 7), .callw 3 1 27 [(.t 6)]⟩,
      ⟨none, (some 8), .faddr 0 (.t 3)⟩,
      ⟨none, none, .stz true 7 (.t 8) (.t 7) []⟩])
    (.seq (.reg [⟨none, (some 10), .faddr 7 (.t 1)⟩,
      ⟨none, (some 11), .load false 1 (.t 10)⟩,
      ⟨none, (some 14), .faddr 8 (.t 1)⟩,
      ⟨none, (some 15), .load false 1 (.t 14)⟩,
      ⟨none, (some 9), .bsl 4 39 2 [] []⟩,
      ⟨none, (some 12), .apd 5 39 2 16 (.t 9) (.t 11) [(.t 14)]⟩,
      ⟨none, (some 13), .bsl 6 3 1 [] [(.t 9), (.t 11)]⟩,
      ⟨none, (some 16), .apd 7 3 1 8 (.t 13) (.t 15) []⟩,
      ⟨none, (some 17), .faddr 7 (.t 3)⟩,
      ⟨none, none, .stz false 1 (.t 17) (.t 12) []⟩,
      ⟨none, (some 18), .faddr 8 (.t 3)⟩,
      ⟨none, none, .stz false 1 (.t 18) (.t 16) []⟩])
    (.seq (.reg [⟨none, (some 19), .load true 9 (.t 3)⟩,
      ⟨none, none, .stz true 9 (.t 2) (.t 19) []⟩])
    .ret)))))
theorem ok7 : FnOk Tryz.prog 7 20 8 c7 [.cell 2 true 9] := ⟨_, _, Tryz.func7, rfl, rfl, by kernel_rfl, by kernel_rfl⟩
theorem bd7 : bodied Tryz.prog 7 = true := by kernel_rfl

/-- ferrule/gusts.Check -/
def c8 : CI := (.seq (.reg [⟨none, (some 1), .box 0 true (.t 0)⟩,
      ⟨none, (some 2), .mv (.c (.int .i64 0))⟩])
    (.seq (.seq (.reg [⟨none, (some 3), .load true 9 (.t 1)⟩,
      ⟨none, (some 4), .call 28 [(.t 3)]⟩,
      ⟨none, (some 5), .un .not (.t 4)⟩])
    (.cond (.t 5) (.seq (.reg [⟨none, (some 2), .mv (.c (.int .i64 50))⟩])
    .ret)
    .skip))
    (.seq (.reg [⟨none, (some 2), .mv (.c (.int .i64 0))⟩])
    .ret)))
theorem ok8 : FnOk Tryz.prog 8 6 1 c8 [.t 2] := ⟨_, _, Tryz.func8, rfl, rfl, by kernel_rfl, by kernel_rfl⟩
theorem bd8 : bodied Tryz.prog 8 = true := by kernel_rfl

/-- ferrule/ferruleref05.Check -/
def c9 : CI := (.seq (.reg [⟨none, (some 1), .box 0 true (.t 0)⟩,
      ⟨none, (some 2), .mv (.c (.int .i64 0))⟩])
    (.seq (.seq (.reg [⟨none, (some 4), .faddr 0 (.t 1)⟩,
      ⟨none, (some 5), .load true 7 (.t 4)⟩,
      ⟨none, (some 6), .call 29 [(.t 5)]⟩,
      ⟨none, (some 7), .bin .neq (.t 6) (.c (.int .i64 0))⟩,
      ⟨none, (some 8), .mv (.t 7)⟩,
      ⟨(some (8, false)), (some 9), .faddr 7 (.t 1)⟩,
      ⟨(some (8, false)), (some 10), .load false 1 (.t 9)⟩,
      ⟨(some (8, false)), (some 11), .len (.t 10)⟩,
      ⟨(some (8, false)), (some 12), .call 30 [(.t 11), (.c (.int .i64 3)), (.c (.int .i64 10))]⟩,
      ⟨(some (8, false)), (some 13), .un .not (.t 12)⟩,
      ⟨none, (some 14), .pick (.t 8) (.c (.bool true)) (.t 13)⟩,
      ⟨none, (some 15), .mv (.t 14)⟩,
      ⟨(some (15, false)), (some 16), .faddr 8 (.t 1)⟩,
      ⟨(some (15, false)), (some 17), .load false 1 (.t 16)⟩,
      ⟨(some (15, false)), (some 18), .len (.t 17)⟩,
      ⟨(some (15, false)), (some 19), .faddr 7 (.t 1)⟩,
      ⟨(some (15, false)), (some 20), .load false 1 (.t 19)⟩,
      ⟨(some (15, false)), (some 21), .len (.t 20)⟩,
      ⟨(some (15, false)), (some 22), .bin .neq (.t 18) (.t 21)⟩,
      ⟨none, (some 23), .pick (.t 15) (.c (.bool true)) (.t 22)⟩])
    (.cond (.t 23) (.seq (.reg [⟨none, (some 2), .mv (.c (.int .i64 50))⟩])
    .ret)
    .skip))
    (.seq (.seq (.reg [⟨none, (some 3), .mv (.c (.int .i64 0))⟩])
    (.block 0 (.loop (.seq (.seq (.reg [⟨none, (some 24), .mv (.t 3)⟩,
      ⟨none, (some 25), .faddr 7 (.t 1)⟩,
      ⟨none, (some 26), .load false 1 (.t 25)⟩,
      ⟨none, (some 27), .len (.t 26)⟩,
      ⟨none, (some 28), .bin .lss (.t 24) (.t 27)⟩])
    (.cond (.t 28) .skip
    (.exit 0)))
    (.seq (.block 1 (.seq (.reg [⟨none, (some 31), .faddr 7 (.t 1)⟩,
      ⟨none, (some 32), .load false 1 (.t 31)⟩,
      ⟨none, (some 33), .mv (.t 3)⟩,
      ⟨none, (some 34), .iaddr 2 (.t 32) (.t 33)⟩,
      ⟨none, (some 35), .faddr 0 (.t 34)⟩,
      ⟨none, (some 36), .load false 1 (.t 35)⟩,
      ⟨none, (some 37), .faddr 7 (.t 1)⟩,
      ⟨none, (some 38), .load false 1 (.t 37)⟩,
      ⟨none, (some 39), .mv (.t 3)⟩,
      ⟨none, (some 40), .iaddr 2 (.t 38) (.t 39)⟩,
      ⟨none, (some 41), .faddr 1 (.t 40)⟩,
      ⟨none, (some 42), .load false 1 (.t 41)⟩,
      ⟨none, (some 43), .call 30 [(.t 36), (.c (.int .i64 0)), (.t 42)]⟩,
      ⟨none, (some 44), .un .not (.t 43)⟩,
      ⟨none, (some 45), .mv (.t 44)⟩,
      ⟨(some (45, false)), (some 46), .faddr 7 (.t 1)⟩,
      ⟨(some (45, false)), (some 47), .load false 1 (.t 46)⟩,
      ⟨(some (45, false)), (some 48), .mv (.t 3)⟩,
      ⟨(some (45, false)), (some 49), .iaddr 2 (.t 47) (.t 48)⟩,
      ⟨(some (45, false)), (some 50), .faddr 1 (.t 49)⟩,
      ⟨(some (45, false)), (some 51), .load false 1 (.t 50)⟩,
      ⟨(some (45, false)), (some 52), .bin .gtr (.t 51) (.c (.int .i64 99999))⟩,
      ⟨none, (some 53), .pick (.t 45) (.c (.bool true)) (.t 52)⟩,
      ⟨none, (some 54), .mv (.t 53)⟩,
      ⟨(some (54, false)), (some 55), .faddr 8 (.t 1)⟩,
      ⟨(some (54, false)), (some 56), .load false 1 (.t 55)⟩,
      ⟨(some (54, false)), (some 57), .mv (.t 3)⟩,
      ⟨(some (54, false)), (some 58), .iaddr 1 (.t 56) (.t 57)⟩,
      ⟨(some (54, false)), (some 59), .load false 1 (.t 58)⟩,
      ⟨(some (54, false)), (some 60), .call 30 [(.t 59), (.c (.int .i64 0)), (.c (.int .i64 99))]⟩,
      ⟨(some (54, false)), (some 61), .un .not (.t 60)⟩,
      ⟨none, (some 62), .pick (.t 54) (.c (.bool true)) (.t 61)⟩])
    (.cond (.t 62) (.seq (.reg [⟨none, (some 2), .mv (.c (.int .i64 50))⟩])
    .ret)
    .skip)))
    (.reg [⟨none, (some 29), .mv (.t 3)⟩,
      ⟨none, (some 30), .bin .add (.t 29) (.c (.int .i64 1))⟩,
      ⟨none, (some 3), .mv (.t 30)⟩]))))))
    (.seq (.reg [⟨none, (some 2), .mv (.c (.int .i64 0))⟩])
    .ret))))
theorem ok9 : FnOk Tryz.prog 9 63 1 c9 [.t 2] := ⟨_, _, Tryz.func9, rfl, rfl, by kernel_rfl, by kernel_rfl⟩
theorem bd9 : bodied Tryz.prog 9 = true := by kernel_rfl

/-- ferrule/gusts.Lift -/
def c10 : CI := (.seq (.reg [⟨none, (some 1), .box 0 true (.t 0)⟩,
      ⟨none, (some 2), .alloc 1 [(.int .i64 0), (.int .i64 0)]⟩,
      ⟨none, (some 3), .mv (.c (.int .i64 0))⟩])
    (.seq (.seq (.reg [⟨none, (some 5), .load true 9 (.t 1)⟩,
      ⟨none, (some 6), .call 8 [(.t 5)]⟩,
      ⟨none, (some 4), .mv (.t 6)⟩])
    (.seq (.reg [⟨none, (some 7), .mv (.t 4)⟩,
      ⟨none, (some 8), .bin .neq (.t 7) (.c (.int .i64 0))⟩])
    (.cond (.t 8) (.seq (.reg [⟨none, (some 9), .build [(.int .i64 0), (.int .i64 0)] []⟩,
      ⟨none, (some 10), .mv (.t 4)⟩,
      ⟨none, none, .store true 2 (.t 2) (.t 9) []⟩,
      ⟨none, (some 3), .mv (.t 10)⟩])
    .ret)
    .skip)))
    (.seq (.reg [⟨none, (some 11), .faddr 0 (.t 1)⟩,
      ⟨none, (some 12), .load true 7 (.t 11)⟩,
      ⟨none, (some 13), .call 31 [(.t 12)]⟩,
      ⟨none, none, .store true 2 (.t 2) (.t 13) []⟩,
      ⟨none, (some 3), .mv (.c (.int .i64 0))⟩])
    .ret)))
theorem ok10 : FnOk Tryz.prog 10 14 2 c10 [.cell 2 true 2, .t 3] := ⟨_, _, Tryz.func10, rfl, rfl, by kernel_rfl, by kernel_rfl⟩
theorem bd10 : bodied Tryz.prog 10 = true := by kernel_rfl

/-- ferrule/ferruleref05.Lift -/
def c11 : CI := (.seq (.reg [⟨none, (some 1), .box 0 true (.t 0)⟩,
      ⟨none, (some 2), .alloc 1 [(.int .i64 0), (.int .i64 0)]⟩,
      ⟨none, (some 3), .mv (.c (.int .i64 0))⟩])
    (.seq (.seq (.reg [⟨none, (some 5), .load true 9 (.t 1)⟩,
      ⟨none, (some 6), .call 9 [(.t 5)]⟩,
      ⟨none, (some 4), .mv (.t 6)⟩])
    (.seq (.reg [⟨none, (some 7), .mv (.t 4)⟩,
      ⟨none, (some 8), .bin .neq (.t 7) (.c (.int .i64 0))⟩])
    (.cond (.t 8) (.seq (.reg [⟨none, (some 9), .build [(.int .i64 0), (.int .i64 0)] []⟩,
      ⟨none, (some 10), .mv (.t 4)⟩,
      ⟨none, none, .store true 2 (.t 2) (.t 9) []⟩,
      ⟨none, (some 3), .mv (.t 10)⟩])
    .ret)
    .skip)))
    (.seq (.reg [⟨none, (some 11), .load true 9 (.t 1)⟩,
      ⟨none, (some 12), .call 32 [(.t 11)]⟩,
      ⟨none, none, .store true 2 (.t 2) (.t 12) []⟩,
      ⟨none, (some 3), .mv (.c (.int .i64 0))⟩])
    .ret)))
theorem ok11 : FnOk Tryz.prog 11 13 2 c11 [.cell 2 true 2, .t 3] := ⟨_, _, Tryz.func11, rfl, rfl, by kernel_rfl, by kernel_rfl⟩
theorem bd11 : bodied Tryz.prog 11 = true := by kernel_rfl

/-- ferrule/gusts.Loads -/
def c12 : CI := (.seq (.reg [⟨none, (some 2), .box 0 true (.t 0)⟩,
      ⟨none, (some 3), .box 1 true (.t 1)⟩,
      ⟨none, (some 4), .mv (.c .nils)⟩,
      ⟨none, (some 5), .mv (.c (.int .i64 0))⟩])
    (.seq (.reg [⟨none, (some 12), .load true 9 (.t 2)⟩,
      ⟨none, (some 13), .load true 2 (.t 3)⟩,
      ⟨none, (some 14), .bsl 2 32 2 [(.t 13)] []⟩,
      ⟨none, (some 15), .callw 3 4 33 [(.t 12), (.t 14)]⟩,
      ⟨none, (some 11), .mv (.t 15)⟩,
      ⟨none, (some 16), .extract 0 (.t 11)⟩,
      ⟨none, (some 17), .extract 1 (.t 11)⟩,
      ⟨none, (some 18), .extract 2 (.t 11)⟩,
      ⟨none, (some 6), .alloc 7 [(.int .i64 0), .nils, .nils]⟩,
      ⟨none, (some 7), .alloc 8 [(.int .i64 0), .nils, .nils]⟩,
      ⟨none, none, .stz true 3 (.t 6) (.t 16) []⟩,
      ⟨none, none, .stz true 3 (.t 7) (.t 17) []⟩,
      ⟨none, (some 8), .mv (.t 18)⟩])
    (.seq (.seq (.reg [⟨none, (some 19), .mv (.t 8)⟩,
      ⟨none, (some 20), .bin .neq (.t 19) (.c (.int .i64 0))⟩])
    (.cond (.t 20) (.seq (.reg [⟨none, (some 21), .mv (.t 8)⟩,
      ⟨none, (some 4), .mv (.c .nils)⟩,
      ⟨none, (some 5), .mv (.t 21)⟩])
    .ret)
    .skip))
    (.seq (.reg [⟨none, (some 9), .mv (.c .nils)⟩])
    (.seq (.seq (.reg [⟨none, (some 22), .faddr 7 (.t 2)⟩,
      ⟨none, (some 23), .load false 1 (.t 22)⟩,
      ⟨none, (some 24), .len (.t 23)⟩,
      ⟨none, (some 25), .mv (.c (.int .i64 0))⟩])
    (.block 0 (.loop (.seq (.reg [⟨none, (some 26), .bin .lss (.t 25) (.t 24)⟩])
    (.seq (.cond (.t 26) .skip
    (.exit 0))
    (.seq (.block 1 (.seq (.reg [⟨none, (some 27), .mv (.t 25)⟩,
      ⟨none, (some 10), .mv (.t 27)⟩])
    (.reg [⟨none, (some 28), .mv (.t 9)⟩,
      ⟨none, (some 29), .load true 3 (.t 6)⟩,
      ⟨none, (some 30), .load true 2 (.t 3)⟩,
      ⟨none, (some 31), .mv (.t 10)⟩,
      ⟨none, (some 33), .load true 3 (.t 7)⟩,
      ⟨none, (some 34), .load true 2 (.t 3)⟩,
      ⟨none, (some 35), .mv (.t 10)⟩,
      ⟨none, (some 32), .call 34 [(.t 29), (.t 30), (.t 31)]⟩,
      ⟨none, (some 36), .call 34 [(.t 33), (.t 34), (.t 35)]⟩,
      ⟨none, (some 37), .build [(.int .i64 0), (.int .i64 0)] [(0, 1, (.t 32)), (1, 1, (.t 36))]⟩,
      ⟨none, (some 38), .bsl 9 39 2 [(.t 37)] []⟩,
      ⟨none, (some 39), .apd 10 39 2 16 (.t 28) (.t 38) []⟩,
      ⟨none, (some 9), .mv (.t 39)⟩])))
    (.reg [⟨none, (some 40), .bin .add (.t 25) (.c (.int .i64 1))⟩,
      ⟨none, (some 25), .mv (.t 40)⟩])))))))
    (.seq (.reg [⟨none, (some 41), .mv (.t 9)⟩,
      ⟨none, (some 4), .mv (.t 41)⟩,
      ⟨none, (some 5), .mv (.c (.int .i64 0))⟩])
    .ret))))))
theorem ok12 : FnOk Tryz.prog 12 42 11 c12 [.t 4, .t 5] := ⟨_, _, Tryz.func12, rfl, rfl, by kernel_rfl, by kernel_rfl⟩
theorem bd12 : bodied Tryz.prog 12 = true := by kernel_rfl

/-- ferrule/ferruleref05.Loads -/
def c13 : CI := (.seq (.reg [⟨none, (some 2), .box 0 true (.t 0)⟩,
      ⟨none, (some 3), .box 1 true (.t 1)⟩,
      ⟨none, (some 4), .mv (.c .nils)⟩,
      ⟨none, (some 5), .mv (.c (.int .i64 0))⟩])
    (.seq (.seq (.reg [⟨none, (some 10), .load true 9 (.t 2)⟩,
      ⟨none, (some 11), .load true 2 (.t 3)⟩,
      ⟨none, (some 12), .bsl 2 32 2 [(.t 11)] []⟩,
      ⟨none, (some 13), .call 35 [(.t 10), (.t 12)]⟩,
      ⟨none, (some 6), .mv (.t 13)⟩])
    (.seq (.reg [⟨none, (some 14), .mv (.t 6)⟩,
      ⟨none, (some 15), .bin .neq (.t 14) (.c (.int .i64 0))⟩])
    (.cond (.t 15) (.seq (.reg [⟨none, (some 16), .mv (.t 6)⟩,
      ⟨none, (some 4), .mv (.c .nils)⟩,
      ⟨none, (some 5), .mv (.t 16)⟩])
    .ret)
    .skip)))
    (.seq (.reg [⟨none, (some 7), .mv (.c .nils)⟩])
    (.seq (.reg [⟨none, (some 17), .load true 9 (.t 2)⟩,
      ⟨none, (some 18), .call 32 [(.t 17)]⟩,
      ⟨none, (some 8), .alloc 3 [(.int .i64 0), (.int .i64 0)]⟩,
      ⟨none, none, .store true 2 (.t 8) (.t 18) []⟩])
    (.seq (.seq (.reg [⟨none, (some 9), .mv (.c (.int .i64 0))⟩])
    (.block 0 (.loop (.seq (.seq (.reg [⟨none, (some 19), .mv (.t 9)⟩,
      ⟨none, (some 20), .faddr 7 (.t 2)⟩,
      ⟨none, (some 21), .load false 1 (.t 20)⟩,
      ⟨none, (some 22), .len (.t 21)⟩,
      ⟨none, (some 23), .bin .lss (.t 19) (.t 22)⟩])
    (.cond (.t 23) .skip
    (.exit 0)))
    (.seq (.block 1 (.reg [⟨none, (some 26), .mv (.t 7)⟩,
      ⟨none, (some 27), .load true 9 (.t 2)⟩,
      ⟨none, (some 28), .load true 2 (.t 3)⟩,
      ⟨none, (some 29), .faddr 0 (.t 8)⟩,
      ⟨none, (some 30), .load false 1 (.t 29)⟩,
      ⟨none, (some 31), .mv (.t 9)⟩,
      ⟨none, (some 33), .load true 9 (.t 2)⟩,
      ⟨none, (some 34), .load true 2 (.t 3)⟩,
      ⟨none, (some 35), .faddr 1 (.t 8)⟩,
      ⟨none, (some 36), .load false 1 (.t 35)⟩,
      ⟨none, (some 37), .mv (.t 9)⟩,
      ⟨none, (some 32), .call 36 [(.t 27), (.t 28), (.t 30), (.t 31)]⟩,
      ⟨none, (some 38), .call 36 [(.t 33), (.t 34), (.t 36), (.t 37)]⟩,
      ⟨none, (some 39), .build [(.int .i64 0), (.int .i64 0)] [(0, 1, (.t 32)), (1, 1, (.t 38))]⟩,
      ⟨none, (some 40), .bsl 4 39 2 [(.t 39)] []⟩,
      ⟨none, (some 41), .apd 5 39 2 16 (.t 26) (.t 40) []⟩,
      ⟨none, (some 7), .mv (.t 41)⟩]))
    (.reg [⟨none, (some 24), .mv (.t 9)⟩,
      ⟨none, (some 25), .bin .add (.t 24) (.c (.int .i64 1))⟩,
      ⟨none, (some 9), .mv (.t 25)⟩]))))))
    (.seq (.reg [⟨none, (some 42), .mv (.t 7)⟩,
      ⟨none, (some 4), .mv (.t 42)⟩,
      ⟨none, (some 5), .mv (.c (.int .i64 0))⟩])
    .ret))))))
theorem ok13 : FnOk Tryz.prog 13 43 6 c13 [.t 4, .t 5] := ⟨_, _, Tryz.func13, rfl, rfl, by kernel_rfl, by kernel_rfl⟩
theorem bd13 : bodied Tryz.prog 13 = true := by kernel_rfl

/-- ferrule/gusts.Goes -/
def c14 : CI := (.seq (.reg [⟨none, (some 2), .box 0 true (.t 0)⟩,
      ⟨none, (some 3), .box 1 true (.t 1)⟩,
      ⟨none, (some 4), .mv (.c .nils)⟩,
      ⟨none, (some 5), .mv (.c .nils)⟩,
      ⟨none, (some 6), .mv (.c (.int .i64 0))⟩])
    (.seq (.reg [⟨none, (some 10), .load true 9 (.t 2)⟩,
      ⟨none, (some 11), .load true 2 (.t 3)⟩,
      ⟨none, (some 12), .bsl 2 32 2 [(.t 11)] []⟩,
      ⟨none, (some 13), .callw 3 4 33 [(.t 10), (.t 12)]⟩,
      ⟨none, (some 9), .mv (.t 13)⟩,
      ⟨none, (some 14), .extract 0 (.t 9)⟩,
      ⟨none, (some 15), .extract 1 (.t 9)⟩,
      ⟨none, (some 16), .extract 2 (.t 9)⟩,
      ⟨none, (some 7), .alloc 7 [(.int .i64 0), .nils, .nils]⟩,
      ⟨none, (some 8), .alloc 8 [(.int .i64 0), .nils, .nils]⟩,
      ⟨none, none, .stz true 3 (.t 7) (.t 14) []⟩,
      ⟨none, none, .stz true 3 (.t 8) (.t 15) []⟩,
      ⟨none, (some 6), .mv (.t 16)⟩])
    (.seq (.seq (.reg [⟨none, (some 17), .mv (.t 6)⟩,
      ⟨none, (some 18), .bin .neq (.t 17) (.c (.int .i64 0))⟩])
    (.cond (.t 18) (.seq (.reg [⟨none, (some 19), .mv (.t 6)⟩,
      ⟨none, (some 4), .mv (.c .nils)⟩,
      ⟨none, (some 5), .mv (.c .nils)⟩,
      ⟨none, (some 6), .mv (.t 19)⟩])
    .ret)
    .skip))
    (.seq (.reg [⟨none, (some 20), .load true 3 (.t 7)⟩,
      ⟨none, (some 21), .load true 2 (.t 3)⟩,
      ⟨none, (some 23), .load true 3 (.t 8)⟩,
      ⟨none, (some 24), .load true 2 (.t 3)⟩,
      ⟨none, (some 22), .callz 9 1 37 [(.t 20), (.t 21)] []⟩,
      ⟨none, (some 25), .callz 10 1 37 [(.t 23), (.t 24)] []⟩,
      ⟨none, (some 4), .mv (.t 22)⟩,
      ⟨none, (some 5), .mv (.t 25)⟩,
      ⟨none, (some 6), .mv (.c (.int .i64 0))⟩])
    .ret))))
theorem ok14 : FnOk Tryz.prog 14 26 11 c14 [.t 4, .t 5, .t 6] := ⟨_, _, Tryz.func14, rfl, rfl, by kernel_rfl, by kernel_rfl⟩
theorem bd14 : bodied Tryz.prog 14 = true := by kernel_rfl

/-- ferrule/ferruleref05.Goes -/
def c15 : CI := (.seq (.reg [⟨none, (some 2), .box 0 true (.t 0)⟩,
      ⟨none, (some 3), .box 1 true (.t 1)⟩,
      ⟨none, (some 4), .mv (.c .nils)⟩,
      ⟨none, (some 5), .mv (.c .nils)⟩,
      ⟨none, (some 6), .mv (.c (.int .i64 0))⟩])
    (.seq (.seq (.reg [⟨none, (some 10), .load true 9 (.t 2)⟩,
      ⟨none, (some 11), .load true 2 (.t 3)⟩,
      ⟨none, (some 12), .bsl 2 32 2 [(.t 11)] []⟩,
      ⟨none, (some 13), .call 35 [(.t 10), (.t 12)]⟩,
      ⟨none, (some 7), .mv (.t 13)⟩])
    (.seq (.reg [⟨none, (some 14), .mv (.t 7)⟩,
      ⟨none, (some 15), .bin .neq (.t 14) (.c (.int .i64 0))⟩])
    (.cond (.t 15) (.seq (.reg [⟨none, (some 16), .mv (.t 7)⟩,
      ⟨none, (some 4), .mv (.c .nils)⟩,
      ⟨none, (some 5), .mv (.c .nils)⟩,
      ⟨none, (some 6), .mv (.t 16)⟩])
    .ret)
    .skip)))
    (.seq (.reg [⟨none, (some 18), .load true 9 (.t 2)⟩,
      ⟨none, (some 19), .callw 3 2 38 [(.t 18)]⟩,
      ⟨none, (some 17), .mv (.t 19)⟩,
      ⟨none, (some 20), .extract 0 (.t 17)⟩,
      ⟨none, (some 21), .extract 1 (.t 17)⟩,
      ⟨none, (some 8), .alloc 5 [(.int .i64 0), .nils]⟩,
      ⟨none, (some 9), .alloc 6 [(.int .i64 0), .nils]⟩,
      ⟨none, none, .stz true 2 (.t 8) (.t 20) []⟩,
      ⟨none, none, .stz true 2 (.t 9) (.t 21) []⟩])
    (.seq (.reg [⟨none, (some 22), .load true 9 (.t 2)⟩,
      ⟨none, (some 23), .load true 2 (.t 3)⟩,
      ⟨none, (some 24), .load true 2 (.t 8)⟩,
      ⟨none, (some 26), .faddr 7 (.t 2)⟩,
      ⟨none, (some 27), .load false 1 (.t 26)⟩,
      ⟨none, (some 28), .len (.t 27)⟩,
      ⟨none, (some 30), .load true 9 (.t 2)⟩,
      ⟨none, (some 31), .load true 2 (.t 3)⟩,
      ⟨none, (some 32), .load true 2 (.t 9)⟩,
      ⟨none, (some 34), .faddr 7 (.t 2)⟩,
      ⟨none, (some 35), .load false 1 (.t 34)⟩,
      ⟨none, (some 36), .len (.t 35)⟩,
      ⟨none, (some 25), .callz 7 1 40 [(.t 22), (.t 23), (.t 24)] []⟩,
      ⟨none, (some 29), .callz 8 1 39 [(.t 25), (.t 28)] []⟩,
      ⟨none, (some 33), .callz 9 1 40 [(.t 30), (.t 31), (.t 32)] []⟩,
      ⟨none, (some 37), .callz 10 1 39 [(.t 33), (.t 36)] []⟩,
      ⟨none, (some 4), .mv (.t 29)⟩,
      ⟨none, (some 5), .mv (.t 37)⟩,
      ⟨none, (some 6), .mv (.c (.int .i64 0))⟩])
    .ret))))
theorem ok15 : FnOk Tryz.prog 15 38 11 c15 [.t 4, .t 5, .t 6] := ⟨_, _, Tryz.func15, rfl, rfl, by kernel_rfl, by kernel_rfl⟩
theorem bd15 : bodied Tryz.prog 15 = true := by kernel_rfl

/-- ferrule/ferrulelaw05.sameSpans -/
def c16 : CI := (.seq (.reg [⟨none, (some 4), .mv (.c (.bool false))⟩])
    (.seq (.seq (.reg [⟨none, (some 6), .mv (.t 0)⟩,
      ⟨none, (some 7), .len (.t 6)⟩,
      ⟨none, (some 8), .mv (.t 1)⟩,
      ⟨none, (some 9), .len (.t 8)⟩,
      ⟨none, (some 10), .bin .neq (.t 7) (.t 9)⟩])
    (.cond (.t 10) (.seq (.reg [⟨none, (some 4), .mv (.c (.bool false))⟩])
    .ret)
    .skip))
    (.seq (.seq (.reg [⟨none, (some 5), .mv (.c (.int .i64 0))⟩])
    (.block 0 (.loop (.seq (.seq (.reg [⟨none, (some 11), .mv (.t 5)⟩,
      ⟨none, (some 12), .mv (.t 0)⟩,
      ⟨none, (some 13), .len (.t 12)⟩,
      ⟨none, (some 14), .bin .lss (.t 11) (.t 13)⟩])
    (.cond (.t 14) .skip
    (.exit 0)))
    (.seq (.block 1 (.seq (.reg [⟨none, (some 17), .mv (.t 0)⟩,
      ⟨none, (some 18), .mv (.t 5)⟩,
      ⟨none, (some 19), .iaddr 2 (.t 17) (.t 18)⟩,
      ⟨none, (some 20), .load true 2 (.t 19)⟩,
      ⟨none, (some 21), .mv (.t 1)⟩,
      ⟨none, (some 22), .mv (.t 5)⟩,
      ⟨none, (some 23), .iaddr 2 (.t 21) (.t 22)⟩,
      ⟨none, (some 24), .load true 2 (.t 23)⟩,
      ⟨none, (some 25), .eqs true (.node [(0, 1, (.leaf true)), (1, 1, (.leaf true))]) (.t 20) (.t 24)⟩])
    (.cond (.t 25) (.seq (.reg [⟨none, (some 4), .mv (.c (.bool false))⟩])
    .ret)
    .skip)))
    (.reg [⟨none, (some 15), .mv (.t 5)⟩,
      ⟨none, (some 16), .bin .add (.t 15) (.c (.int .i64 1))⟩,
      ⟨none, (some 5), .mv (.t 16)⟩]))))))
    (.seq (.reg [⟨none, (some 4), .mv (.c (.bool true))⟩])
    .ret))))
theorem ok16 : FnOk Tryz.prog 16 26 0 c16 [.t 4] := ⟨_, _, Tryz.func16, rfl, rfl, by kernel_rfl, by kernel_rfl⟩
theorem bd16 : bodied Tryz.prog 16 = true := by kernel_rfl

/-- ferrule/ferrulelaw05.sameInts -/
def c17 : CI := (.seq (.reg [⟨none, (some 4), .mv (.c (.bool false))⟩])
    (.seq (.seq (.reg [⟨none, (some 6), .mv (.t 0)⟩,
      ⟨none, (some 7), .len (.t 6)⟩,
      ⟨none, (some 8), .mv (.t 1)⟩,
      ⟨none, (some 9), .len (.t 8)⟩,
      ⟨none, (some 10), .bin .neq (.t 7) (.t 9)⟩])
    (.cond (.t 10) (.seq (.reg [⟨none, (some 4), .mv (.c (.bool false))⟩])
    .ret)
    .skip))
    (.seq (.seq (.reg [⟨none, (some 5), .mv (.c (.int .i64 0))⟩])
    (.block 0 (.loop (.seq (.seq (.reg [⟨none, (some 11), .mv (.t 5)⟩,
      ⟨none, (some 12), .mv (.t 0)⟩,
      ⟨none, (some 13), .len (.t 12)⟩,
      ⟨none, (some 14), .bin .lss (.t 11) (.t 13)⟩])
    (.cond (.t 14) .skip
    (.exit 0)))
    (.seq (.block 1 (.seq (.reg [⟨none, (some 17), .mv (.t 0)⟩,
      ⟨none, (some 18), .mv (.t 5)⟩,
      ⟨none, (some 19), .iaddr 1 (.t 17) (.t 18)⟩,
      ⟨none, (some 20), .load false 1 (.t 19)⟩,
      ⟨none, (some 21), .mv (.t 1)⟩,
      ⟨none, (some 22), .mv (.t 5)⟩,
      ⟨none, (some 23), .iaddr 1 (.t 21) (.t 22)⟩,
      ⟨none, (some 24), .load false 1 (.t 23)⟩,
      ⟨none, (some 25), .bin .neq (.t 20) (.t 24)⟩])
    (.cond (.t 25) (.seq (.reg [⟨none, (some 4), .mv (.c (.bool false))⟩])
    .ret)
    .skip)))
    (.reg [⟨none, (some 15), .mv (.t 5)⟩,
      ⟨none, (some 16), .bin .add (.t 15) (.c (.int .i64 1))⟩,
      ⟨none, (some 5), .mv (.t 16)⟩]))))))
    (.seq (.reg [⟨none, (some 4), .mv (.c (.bool true))⟩])
    .ret))))
theorem ok17 : FnOk Tryz.prog 17 26 0 c17 [.t 4] := ⟨_, _, Tryz.func17, rfl, rfl, by kernel_rfl, by kernel_rfl⟩
theorem bd17 : bodied Tryz.prog 17 = true := by kernel_rfl

/-- ferrule/gusts.Stands -/
def c18 : CI := (.seq (.reg [⟨none, (some 2), .box 0 true (.t 0)⟩,
      ⟨none, (some 4), .mv (.c (.int .i64 0))⟩,
      ⟨none, (some 5), .mv (.c (.int .i64 0))⟩])
    (.seq (.reg [⟨none, (some 10), .load true 9 (.t 2)⟩,
      ⟨none, (some 11), .mv (.t 1)⟩,
      ⟨none, (some 12), .callw 1 4 33 [(.t 10), (.t 11)]⟩,
      ⟨none, (some 9), .mv (.t 12)⟩,
      ⟨none, (some 13), .extract 0 (.t 9)⟩,
      ⟨none, (some 14), .extract 1 (.t 9)⟩,
      ⟨none, (some 15), .extract 2 (.t 9)⟩,
      ⟨none, (some 6), .alloc 5 [(.int .i64 0), .nils, .nils]⟩,
      ⟨none, (some 7), .alloc 6 [(.int .i64 0), .nils, .nils]⟩,
      ⟨none, none, .stz true 3 (.t 6) (.t 13) []⟩,
      ⟨none, none, .stz true 3 (.t 7) (.t 14) []⟩,
      ⟨none, (some 8), .mv (.t 15)⟩])
    (.seq (.block 0 (.seq (.reg [⟨none, (some 17), .mv (.t 8)⟩,
      ⟨none, (some 18), .bin .neq (.t 17) (.c (.int .i64 0))⟩,
      ⟨none, (some 16), .mv (.t 18)⟩])
    (.cond (.t 16) (.seq (.reg [⟨none, (some 19), .mv (.t 8)⟩,
      ⟨none, (some 4), .mv (.c (.int .i64 0))⟩,
      ⟨none, (some 5), .mv (.t 19)⟩])
    .ret)
    (.seq (.reg [⟨none, (some 21), .load true 3 (.t 7)⟩,
      ⟨none, (some 22), .mv (.t 1)⟩,
      ⟨none, (some 23), .call 41 [(.t 21), (.t 22)]⟩,
      ⟨none, (some 20), .mv (.t 23)⟩])
    (.cond (.t 20) (.seq (.reg [⟨none, (some 4), .mv (.c (.int .i64 1))⟩,
      ⟨none, (some 5), .mv (.c (.int .i64 0))⟩])
    .ret)
    (.seq (.reg [⟨none, (some 25), .load true 3 (.t 6)⟩,
      ⟨none, (some 26), .mv (.t 1)⟩,
      ⟨none, (some 27), .call 41 [(.t 25), (.t 26)]⟩,
      ⟨none, (some 24), .mv (.t 27)⟩])
    (.cond (.t 24) (.seq (.reg [⟨none, (some 4), .mv (.c (.int .i64 3))⟩,
      ⟨none, (some 5), .mv (.c (.int .i64 0))⟩])
    .ret)
    .skip)))))))
    (.seq (.reg [⟨none, (some 4), .mv (.c (.int .i64 2))⟩,
      ⟨none, (some 5), .mv (.c (.int .i64 0))⟩])
    .ret))))
theorem ok18 : FnOk Tryz.prog 18 28 7 c18 [.t 4, .t 5] := ⟨_, _, Tryz.func18, rfl, rfl, by kernel_rfl, by kernel_rfl⟩
theorem bd18 : bodied Tryz.prog 18 = true := by kernel_rfl

/-- ferrule/ferruleref05.Stands -/
def c19 : CI := (.seq (.reg [⟨none, (some 2), .box 0 true (.t 0)⟩,
      ⟨none, (some 4), .mv (.c (.int .i64 0))⟩,
      ⟨none, (some 5), .mv (.c (.int .i64 0))⟩])
    (.seq (.seq (.reg [⟨none, (some 9), .load true 9 (.t 2)⟩,
      ⟨none, (some 10), .mv (.t 1)⟩,
      ⟨none, (some 11), .call 35 [(.t 9), (.t 10)]⟩,
      ⟨none, (some 6), .mv (.t 11)⟩])
    (.seq (.reg [⟨none, (some 12), .mv (.t 6)⟩,
      ⟨none, (some 13), .bin .neq (.t 12) (.c (.int .i64 0))⟩])
    (.cond (.t 13) (.seq (.reg [⟨none, (some 14), .mv (.t 6)⟩,
      ⟨none, (some 4), .mv (.c (.int .i64 0))⟩,
      ⟨none, (some 5), .mv (.t 14)⟩])
    .ret)
    .skip)))
    (.seq (.reg [⟨none, (some 16), .load true 9 (.t 2)⟩,
      ⟨none, (some 17), .callw 1 2 38 [(.t 16)]⟩,
      ⟨none, (some 15), .mv (.t 17)⟩,
      ⟨none, (some 18), .extract 0 (.t 15)⟩,
      ⟨none, (some 19), .extract 1 (.t 15)⟩,
      ⟨none, (some 7), .alloc 3 [(.int .i64 0), .nils]⟩,
      ⟨none, (some 8), .alloc 4 [(.int .i64 0), .nils]⟩,
      ⟨none, none, .stz true 2 (.t 7) (.t 18) []⟩,
      ⟨none, none, .stz true 2 (.t 8) (.t 19) []⟩])
    (.seq (.block 0 (.seq (.reg [⟨none, (some 21), .load true 9 (.t 2)⟩,
      ⟨none, (some 22), .mv (.t 1)⟩,
      ⟨none, (some 23), .load true 2 (.t 8)⟩,
      ⟨none, (some 24), .call 42 [(.t 21), (.t 22), (.t 23)]⟩,
      ⟨none, (some 20), .mv (.t 24)⟩])
    (.cond (.t 20) (.seq (.reg [⟨none, (some 4), .mv (.c (.int .i64 1))⟩,
      ⟨none, (some 5), .mv (.c (.int .i64 0))⟩])
    .ret)
    (.seq (.reg [⟨none, (some 26), .load true 9 (.t 2)⟩,
      ⟨none, (some 27), .mv (.t 1)⟩,
      ⟨none, (some 28), .load true 2 (.t 7)⟩,
      ⟨none, (some 29), .call 42 [(.t 26), (.t 27), (.t 28)]⟩,
      ⟨none, (some 30), .un .not (.t 29)⟩,
      ⟨none, (some 25), .mv (.t 30)⟩])
    (.cond (.t 25) (.seq (.reg [⟨none, (some 4), .mv (.c (.int .i64 2))⟩,
      ⟨none, (some 5), .mv (.c (.int .i64 0))⟩])
    .ret)
    .skip)))))
    (.seq (.reg [⟨none, (some 4), .mv (.c (.int .i64 3))⟩,
      ⟨none, (some 5), .mv (.c (.int .i64 0))⟩])
    .ret)))))
theorem ok19 : FnOk Tryz.prog 19 31 5 c19 [.t 4, .t 5] := ⟨_, _, Tryz.func19, rfl, rfl, by kernel_rfl, by kernel_rfl⟩
theorem bd19 : bodied Tryz.prog 19 = true := by kernel_rfl

/-- ferrule/gusts.First -/
def c20 : CI := (.seq (.reg [⟨none, (some 2), .box 0 true (.t 0)⟩,
      ⟨none, (some 4), .mv (.c (.int .i64 0))⟩,
      ⟨none, (some 5), .mv (.c .nils)⟩,
      ⟨none, (some 6), .mv (.c (.int .i64 0))⟩])
    (.seq (.reg [⟨none, (some 12), .load true 9 (.t 2)⟩,
      ⟨none, (some 13), .mv (.t 1)⟩,
      ⟨none, (some 14), .callw 1 4 33 [(.t 12), (.t 13)]⟩,
      ⟨none, (some 11), .mv (.t 14)⟩,
      ⟨none, (some 15), .extract 0 (.t 11)⟩,
      ⟨none, (some 16), .extract 1 (.t 11)⟩,
      ⟨none, (some 17), .extract 2 (.t 11)⟩,
      ⟨none, (some 7), .alloc 5 [(.int .i64 0), .nils, .nils]⟩,
      ⟨none, (some 8), .alloc 6 [(.int .i64 0), .nils, .nils]⟩,
      ⟨none, none, .stz true 3 (.t 7) (.t 15) []⟩,
      ⟨none, none, .stz true 3 (.t 8) (.t 16) []⟩,
      ⟨none, (some 6), .mv (.t 17)⟩])
    (.seq (.seq (.reg [⟨none, (some 18), .mv (.t 6)⟩,
      ⟨none, (some 19), .bin .neq (.t 18) (.c (.int .i64 0))⟩])
    (.cond (.t 19) (.seq (.reg [⟨none, (some 20), .mv (.t 6)⟩,
      ⟨none, (some 4), .mv (.c (.int .i64 0))⟩,
      ⟨none, (some 5), .mv (.c .nils)⟩,
      ⟨none, (some 6), .mv (.t 20)⟩])
    .ret)
    .skip))
    (.seq (.seq (.reg [⟨none, (some 21), .mv (.t 1)⟩,
      ⟨none, (some 22), .len (.t 21)⟩,
      ⟨none, (some 23), .mv (.c (.int .i64 0))⟩])
    (.block 0 (.loop (.seq (.reg [⟨none, (some 24), .bin .lss (.t 23) (.t 22)⟩])
    (.seq (.cond (.t 24) .skip
    (.exit 0))
    (.seq (.block 1 (.seq (.reg [⟨none, (some 25), .mv (.t 23)⟩,
      ⟨none, (some 26), .iaddr 2 (.t 21) (.t 23)⟩,
      ⟨none, (some 27), .load true 2 (.t 26)⟩,
      ⟨none, (some 10), .alloc 7 [(.int .i64 0), (.int .i64 0)]⟩,
      ⟨none, (some 9), .mv (.t 25)⟩,
      ⟨none, none, .store true 2 (.t 10) (.t 27) []⟩])
    (.seq (.reg [⟨none, (some 28), .load true 3 (.t 8)⟩,
      ⟨none, (some 29), .load true 2 (.t 10)⟩,
      ⟨none, (some 30), .bsl 8 32 2 [(.t 29)] []⟩,
      ⟨none, (some 31), .call 41 [(.t 28), (.t 30)]⟩,
      ⟨none, (some 32), .un .not (.t 31)⟩])
    (.cond (.t 32) (.seq (.reg [⟨none, (some 33), .mv (.t 9)⟩,
      ⟨none, (some 34), .load true 3 (.t 8)⟩,
      ⟨none, (some 35), .load true 2 (.t 10)⟩,
      ⟨none, (some 36), .callw 9 1 43 [(.t 34), (.t 35)]⟩,
      ⟨none, (some 4), .mv (.t 33)⟩,
      ⟨none, (some 5), .mv (.t 36)⟩,
      ⟨none, (some 6), .mv (.c (.int .i64 0))⟩])
    .ret)
    .skip))))
    (.reg [⟨none, (some 37), .bin .add (.t 23) (.c (.int .i64 1))⟩,
      ⟨none, (some 23), .mv (.t 37)⟩])))))))
    (.seq (.reg [⟨none, (some 4), .mv (.c (.int .i64 0))⟩,
      ⟨none, (some 5), .mv (.c .nils)⟩,
      ⟨none, (some 6), .mv (.c (.int .i64 3))⟩])
    .ret)))))
theorem ok20 : FnOk Tryz.prog 20 38 10 c20 [.t 4, .t 5, .t 6] := ⟨_, _, Tryz.func20, rfl, rfl, by kernel_rfl, by kernel_rfl⟩
theorem bd20 : bodied Tryz.prog 20 = true := by kernel_rfl

/-- ferrule/ferruleref05.First -/
def c21 : CI := (.seq (.reg [⟨none, (some 2), .box 0 true (.t 0)⟩,
      ⟨none, (some 4), .mv (.c (.int .i64 0))⟩,
      ⟨none, (some 5), .mv (.c .nils)⟩,
      ⟨none, (some 6), .mv (.c (.int .i64 0))⟩])
    (.seq (.seq (.reg [⟨none, (some 12), .load true 9 (.t 2)⟩,
      ⟨none, (some 13), .mv (.t 1)⟩,
      ⟨none, (some 14), .call 35 [(.t 12), (.t 13)]⟩,
      ⟨none, (some 7), .mv (.t 14)⟩])
    (.seq (.reg [⟨none, (some 15), .mv (.t 7)⟩,
      ⟨none, (some 16), .bin .neq (.t 15) (.c (.int .i64 0))⟩])
    (.cond (.t 16) (.seq (.reg [⟨none, (some 17), .mv (.t 7)⟩,
      ⟨none, (some 4), .mv (.c (.int .i64 0))⟩,
      ⟨none, (some 5), .mv (.c .nils)⟩,
      ⟨none, (some 6), .mv (.t 17)⟩])
    .ret)
    .skip)))
    (.seq (.reg [⟨none, (some 19), .load true 9 (.t 2)⟩,
      ⟨none, (some 20), .callw 1 2 38 [(.t 19)]⟩,
      ⟨none, (some 18), .mv (.t 20)⟩,
      ⟨none, (some 21), .extract 0 (.t 18)⟩,
      ⟨none, (some 22), .extract 1 (.t 18)⟩,
      ⟨none, (some 8), .alloc 3 [(.int .i64 0), .nils]⟩,
      ⟨none, (some 9), .alloc 4 [(.int .i64 0), .nils]⟩,
      ⟨none, none, .stz true 2 (.t 8) (.t 21) []⟩,
      ⟨none, none, .stz true 2 (.t 9) (.t 22) []⟩])
    (.seq (.seq (.reg [⟨none, (some 10), .mv (.c (.int .i64 0))⟩])
    (.block 0 (.loop (.seq (.seq (.reg [⟨none, (some 23), .mv (.t 10)⟩,
      ⟨none, (some 24), .mv (.t 1)⟩,
      ⟨none, (some 25), .len (.t 24)⟩,
      ⟨none, (some 26), .bin .lss (.t 23) (.t 25)⟩])
    (.cond (.t 26) .skip
    (.exit 0)))
    (.seq (.block 1 (.seq (.reg [⟨none, (some 29), .load true 9 (.t 2)⟩,
      ⟨none, (some 30), .mv (.t 1)⟩,
      ⟨none, (some 31), .mv (.t 10)⟩,
      ⟨none, (some 32), .iaddr 2 (.t 30) (.t 31)⟩,
      ⟨none, (some 33), .load true 2 (.t 32)⟩,
      ⟨none, (some 34), .load true 2 (.t 9)⟩,
      ⟨none, (some 35), .callz 5 1 40 [(.t 29), (.t 33), (.t 34)] []⟩,
      ⟨none, (some 36), .callz 6 1 39 [(.t 35), (.c (.int .i64 1))] []⟩,
      ⟨none, (some 11), .mv (.t 36)⟩])
    (.seq (.reg [⟨none, (some 37), .mv (.t 11)⟩,
      ⟨none, (some 38), .len (.t 37)⟩,
      ⟨none, (some 39), .bin .gtr (.t 38) (.c (.int .i64 0))⟩])
    (.cond (.t 39) (.seq (.reg [⟨none, (some 40), .mv (.t 10)⟩,
      ⟨none, (some 41), .mv (.t 11)⟩,
      ⟨none, (some 4), .mv (.t 40)⟩,
      ⟨none, (some 5), .mv (.t 41)⟩,
      ⟨none, (some 6), .mv (.c (.int .i64 0))⟩])
    .ret)
    .skip))))
    (.reg [⟨none, (some 27), .mv (.t 10)⟩,
      ⟨none, (some 28), .bin .add (.t 27) (.c (.int .i64 1))⟩,
      ⟨none, (some 10), .mv (.t 28)⟩]))))))
    (.seq (.reg [⟨none, (some 4), .mv (.c (.int .i64 0))⟩,
      ⟨none, (some 5), .mv (.c .nils)⟩,
      ⟨none, (some 6), .mv (.c (.int .i64 3))⟩])
    .ret)))))
theorem ok21 : FnOk Tryz.prog 21 42 7 c21 [.t 4, .t 5, .t 6] := ⟨_, _, Tryz.func21, rfl, rfl, by kernel_rfl, by kernel_rfl⟩
theorem bd21 : bodied Tryz.prog 21 = true := by kernel_rfl

/-- ferrule/gusts.Most -/
def c22 : CI := (.seq (.reg [⟨none, (some 2), .box 0 true (.t 0)⟩,
      ⟨none, (some 4), .mv (.c (.int .i64 0))⟩,
      ⟨none, (some 5), .mv (.c (.int .i64 0))⟩])
    (.seq (.reg [⟨none, (some 11), .load true 9 (.t 2)⟩,
      ⟨none, (some 12), .mv (.t 1)⟩,
      ⟨none, (some 13), .build [(.int .i64 0), (.int .i64 0)] [(1, 1, (.t 12))]⟩,
      ⟨none, (some 14), .bsl 1 32 2 [(.t 13)] []⟩,
      ⟨none, (some 15), .callw 2 4 33 [(.t 11), (.t 14)]⟩,
      ⟨none, (some 10), .mv (.t 15)⟩,
      ⟨none, (some 16), .extract 0 (.t 10)⟩,
      ⟨none, (some 17), .extract 1 (.t 10)⟩,
      ⟨none, (some 18), .extract 2 (.t 10)⟩,
      ⟨none, (some 6), .alloc 6 [(.int .i64 0), .nils, .nils]⟩,
      ⟨none, (some 7), .alloc 7 [(.int .i64 0), .nils, .nils]⟩,
      ⟨none, none, .stz true 3 (.t 6) (.t 16) []⟩,
      ⟨none, none, .stz true 3 (.t 7) (.t 17) []⟩,
      ⟨none, (some 8), .mv (.t 18)⟩])
    (.seq (.seq (.reg [⟨none, (some 19), .mv (.t 8)⟩,
      ⟨none, (some 20), .bin .neq (.t 19) (.c (.int .i64 0))⟩])
    (.cond (.t 20) (.seq (.reg [⟨none, (some 21), .mv (.t 8)⟩,
      ⟨none, (some 4), .mv (.c (.int .i64 0))⟩,
      ⟨none, (some 5), .mv (.t 21)⟩])
    .ret)
    .skip))
    (.seq (.reg [⟨none, (some 9), .mv (.c (.int .i64 99))⟩])
    (.seq (.block 0 (.loop (.seq (.seq (.reg [⟨none, (some 22), .load true 3 (.t 7)⟩,
      ⟨none, (some 23), .mv (.t 9)⟩,
      ⟨none, (some 24), .mv (.t 1)⟩,
      ⟨none, (some 25), .build [(.int .i64 0), (.int .i64 0)] [(0, 1, (.t 23)), (1, 1, (.t 24))]⟩,
      ⟨none, (some 26), .bsl 8 32 2 [(.t 25)] []⟩,
      ⟨none, (some 27), .call 41 [(.t 22), (.t 26)]⟩,
      ⟨none, (some 28), .un .not (.t 27)⟩])
    (.cond (.t 28) .skip
    (.exit 0)))
    (.block 1 (.reg [⟨none, (some 29), .mv (.t 9)⟩,
      ⟨none, (some 30), .bin .sub (.t 29) (.c (.int .i64 1))⟩,
      ⟨none, (some 9), .mv (.t 30)⟩])))))
    (.seq (.reg [⟨none, (some 31), .mv (.t 9)⟩,
      ⟨none, (some 4), .mv (.t 31)⟩,
      ⟨none, (some 5), .mv (.c (.int .i64 0))⟩])
    .ret))))))
theorem ok22 : FnOk Tryz.prog 22 32 9 c22 [.t 4, .t 5] := ⟨_, _, Tryz.func22, rfl, rfl, by kernel_rfl, by kernel_rfl⟩
theorem bd22 : bodied Tryz.prog 22 = true := by kernel_rfl

/-- ferrule/ferruleref05.Most -/
def c23 : CI := (.seq (.reg [⟨none, (some 2), .box 0 true (.t 0)⟩,
      ⟨none, (some 4), .mv (.c (.int .i64 0))⟩,
      ⟨none, (some 5), .mv (.c (.int .i64 0))⟩])
    (.seq (.seq (.reg [⟨none, (some 11), .load true 9 (.t 2)⟩,
      ⟨none, (some 12), .mv (.t 1)⟩,
      ⟨none, (some 13), .build [(.int .i64 0), (.int .i64 0)] [(1, 1, (.t 12))]⟩,
      ⟨none, (some 14), .bsl 1 32 2 [(.t 13)] []⟩,
      ⟨none, (some 15), .call 35 [(.t 11), (.t 14)]⟩,
      ⟨none, (some 6), .mv (.t 15)⟩])
    (.seq (.reg [⟨none, (some 16), .mv (.t 6)⟩,
      ⟨none, (some 17), .bin .neq (.t 16) (.c (.int .i64 0))⟩])
    (.cond (.t 17) (.seq (.reg [⟨none, (some 18), .mv (.t 6)⟩,
      ⟨none, (some 4), .mv (.c (.int .i64 0))⟩,
      ⟨none, (some 5), .mv (.t 18)⟩])
    .ret)
    .skip)))
    (.seq (.reg [⟨none, (some 20), .load true 9 (.t 2)⟩,
      ⟨none, (some 21), .callw 2 2 38 [(.t 20)]⟩,
      ⟨none, (some 19), .mv (.t 21)⟩,
      ⟨none, (some 22), .extract 0 (.t 19)⟩,
      ⟨none, (some 23), .extract 1 (.t 19)⟩,
      ⟨none, (some 7), .alloc 4 [(.int .i64 0), .nils]⟩,
      ⟨none, (some 8), .alloc 5 [(.int .i64 0), .nils]⟩,
      ⟨none, none, .stz true 2 (.t 7) (.t 22) []⟩,
      ⟨none, none, .stz true 2 (.t 8) (.t 23) []⟩])
    (.seq (.reg [⟨none, (some 9), .mv (.c (.int .i64 0))⟩])
    (.seq (.seq (.reg [⟨none, (some 10), .mv (.c (.int .i64 0))⟩])
    (.block 0 (.loop (.seq (.seq (.reg [⟨none, (some 24), .mv (.t 10)⟩,
      ⟨none, (some 25), .bin .leq (.t 24) (.c (.int .i64 99))⟩])
    (.cond (.t 25) .skip
    (.exit 0)))
    (.seq (.block 1 (.seq (.reg [⟨none, (some 28), .load true 9 (.t 2)⟩,
      ⟨none, (some 29), .mv (.t 10)⟩,
      ⟨none, (some 30), .mv (.t 1)⟩,
      ⟨none, (some 31), .build [(.int .i64 0), (.int .i64 0)] [(0, 1, (.t 29)), (1, 1, (.t 30))]⟩,
      ⟨none, (some 32), .bsl 6 32 2 [(.t 31)] []⟩,
      ⟨none, (some 33), .load true 2 (.t 8)⟩,
      ⟨none, (some 34), .call 42 [(.t 28), (.t 32), (.t 33)]⟩])
    (.cond (.t 34) (.reg [⟨none, (some 35), .mv (.t 10)⟩,
      ⟨none, (some 9), .mv (.t 35)⟩])
    .skip)))
    (.reg [⟨none, (some 26), .mv (.t 10)⟩,
      ⟨none, (some 27), .bin .add (.t 26) (.c (.int .i64 1))⟩,
      ⟨none, (some 10), .mv (.t 27)⟩]))))))
    (.seq (.reg [⟨none, (some 36), .mv (.t 9)⟩,
      ⟨none, (some 4), .mv (.t 36)⟩,
      ⟨none, (some 5), .mv (.c (.int .i64 0))⟩])
    .ret))))))
theorem ok23 : FnOk Tryz.prog 23 37 7 c23 [.t 4, .t 5] := ⟨_, _, Tryz.func23, rfl, rfl, by kernel_rfl, by kernel_rfl⟩
theorem bd23 : bodied Tryz.prog 23 = true := by kernel_rfl

/-- ferrule/gusts.Weak -/
def c24 : CI := (.seq (.reg [⟨none, (some 2), .box 0 true (.t 0)⟩,
      ⟨none, (some 3), .box 1 false (.t 1)⟩,
      ⟨none, (some 4), .mv (.c .nils)⟩,
      ⟨none, (some 5), .mv (.c (.int .i64 0))⟩])
    (.seq (.reg [⟨none, (some 10), .load true 9 (.t 2)⟩,
      ⟨none, (some 11), .load false 1 (.t 3)⟩,
      ⟨none, (some 12), .callw 2 4 33 [(.t 10), (.t 11)]⟩,
      ⟨none, (some 9), .mv (.t 12)⟩,
      ⟨none, (some 13), .extract 0 (.t 9)⟩,
      ⟨none, (some 14), .extract 1 (.t 9)⟩,
      ⟨none, (some 15), .extract 2 (.t 9)⟩,
      ⟨none, (some 6), .alloc 6 [(.int .i64 0), .nils, .nils]⟩,
      ⟨none, (some 7), .alloc 7 [(.int .i64 0), .nils, .nils]⟩,
      ⟨none, none, .stz true 3 (.t 6) (.t 13) []⟩,
      ⟨none, none, .stz true 3 (.t 7) (.t 14) []⟩,
      ⟨none, (some 8), .mv (.t 15)⟩])
    (.seq (.seq (.reg [⟨none, (some 16), .mv (.t 8)⟩,
      ⟨none, (some 17), .bin .neq (.t 16) (.c (.int .i64 0))⟩])
    (.cond (.t 17) (.seq (.reg [⟨none, (some 18), .mv (.t 8)⟩,
      ⟨none, (some 4), .mv (.c .nils)⟩,
      ⟨none, (some 5), .mv (.t 18)⟩])
    .ret)
    .skip))
    (.seq (.reg [⟨none, (some 19), .faddr 7 (.t 2)⟩,
      ⟨none, (some 20), .load false 1 (.t 19)⟩,
      ⟨none, (some 21), .len (.t 20)⟩,
      ⟨none, (some 22), .mkfn 45 [(.t 3), (.t 7)]⟩,
      ⟨none, (some 23), .callw 8 1 44 [(.t 21), (.t 22)]⟩,
      ⟨none, (some 4), .mv (.t 23)⟩,
      ⟨none, (some 5), .mv (.c (.int .i64 0))⟩])
    .ret))))
theorem ok24 : FnOk Tryz.prog 24 24 9 c24 [.t 4, .t 5] := ⟨_, _, Tryz.func24, rfl, rfl, by kernel_rfl, by kernel_rfl⟩
theorem bd24 : bodied Tryz.prog 24 = true := by kernel_rfl

/-- ferrule/ferruleref05.Weak -/
def c25 : CI := (.seq (.reg [⟨none, (some 2), .box 0 true (.t 0)⟩,
      ⟨none, (some 4), .mv (.c .nils)⟩,
      ⟨none, (some 5), .mv (.c (.int .i64 0))⟩])
    (.seq (.seq (.reg [⟨none, (some 12), .load true 9 (.t 2)⟩,
      ⟨none, (some 13), .mv (.t 1)⟩,
      ⟨none, (some 14), .call 35 [(.t 12), (.t 13)]⟩,
      ⟨none, (some 6), .mv (.t 14)⟩])
    (.seq (.reg [⟨none, (some 15), .mv (.t 6)⟩,
      ⟨none, (some 16), .bin .neq (.t 15) (.c (.int .i64 0))⟩])
    (.cond (.t 16) (.seq (.reg [⟨none, (some 17), .mv (.t 6)⟩,
      ⟨none, (some 4), .mv (.c .nils)⟩,
      ⟨none, (some 5), .mv (.t 17)⟩])
    .ret)
    .skip)))
    (.seq (.reg [⟨none, (some 18), .load true 9 (.t 2)⟩,
      ⟨none, (some 19), .call 32 [(.t 18)]⟩,
      ⟨none, (some 7), .alloc 1 [(.int .i64 0), (.int .i64 0)]⟩,
      ⟨none, none, .store true 2 (.t 7) (.t 19) []⟩])
    (.seq (.reg [⟨none, (some 8), .mv (.c .nils)⟩])
    (.seq (.seq (.reg [⟨none, (some 9), .mv (.c (.int .i64 0))⟩])
    (.block 0 (.loop (.seq (.seq (.reg [⟨none, (some 20), .mv (.t 9)⟩,
      ⟨none, (some 21), .faddr 7 (.t 2)⟩,
      ⟨none, (some 22), .load false 1 (.t 21)⟩,
      ⟨none, (some 23), .len (.t 22)⟩,
      ⟨none, (some 24), .bin .lss (.t 20) (.t 23)⟩])
    (.cond (.t 24) .skip
    (.exit 0)))
    (.seq (.block 1 (.seq (.reg [⟨none, (some 10), .mv (.c (.bool false))⟩])
    (.seq (.seq (.reg [⟨none, (some 11), .mv (.c (.int .i64 0))⟩])
    (.block 2 (.loop (.seq (.seq (.reg [⟨none, (some 27), .mv (.t 11)⟩,
      ⟨none, (some 28), .mv (.t 1)⟩,
      ⟨none, (some 29), .len (.t 28)⟩,
      ⟨none, (some 30), .bin .lss (.t 27) (.t 29)⟩])
    (.cond (.t 30) .skip
    (.exit 2)))
    (.seq (.block 3 (.reg [⟨none, (some 33), .mv (.t 10)⟩,
      ⟨none, (some 34), .mv (.t 33)⟩,
      ⟨(some (34, false)), (some 35), .load true 9 (.t 2)⟩,
      ⟨(some (34, false)), (some 36), .mv (.t 1)⟩,
      ⟨(some (34, false)), (some 37), .mv (.t 11)⟩,
      ⟨(some (34, false)), (some 38), .iaddr 2 (.t 36) (.t 37)⟩,
      ⟨(some (34, false)), (some 39), .load true 2 (.t 38)⟩,
      ⟨(some (34, false)), (some 40), .faddr 1 (.t 7)⟩,
      ⟨(some (34, false)), (some 41), .load false 1 (.t 40)⟩,
      ⟨(some (34, false)), (some 42), .mv (.t 9)⟩,
      ⟨(some (34, false)), (some 44), .faddr 7 (.t 2)⟩,
      ⟨(some (34, false)), (some 45), .load false 1 (.t 44)⟩,
      ⟨(some (34, false)), (some 46), .mv (.t 9)⟩,
      ⟨(some (34, false)), (some 47), .iaddr 2 (.t 45) (.t 46)⟩,
      ⟨(some (34, false)), (some 48), .faddr 0 (.t 47)⟩,
      ⟨(some (34, false)), (some 49), .load false 1 (.t 48)⟩,
      ⟨(some (34, false)), (some 43), .call 36 [(.t 35), (.t 39), (.t 41), (.t 42)]⟩,
      ⟨(some (34, false)), (some 50), .bin .gtr (.t 43) (.t 49)⟩,
      ⟨none, (some 51), .pick (.t 34) (.c (.bool true)) (.t 50)⟩,
      ⟨none, (some 10), .mv (.t 51)⟩]))
    (.reg [⟨none, (some 31), .mv (.t 11)⟩,
      ⟨none, (some 32), .bin .add (.t 31) (.c (.int .i64 1))⟩,
      ⟨none, (some 11), .mv (.t 32)⟩]))))))
    (.seq (.reg [⟨none, (some 52), .mv (.t 10)⟩])
    (.cond (.t 52) (.reg [⟨none, (some 53), .mv (.t 8)⟩,
      ⟨none, (some 54), .mv (.t 9)⟩,
      ⟨none, (some 55), .bsl 2 3 1 [(.t 54)] []⟩,
      ⟨none, (some 56), .apd 3 3 1 8 (.t 53) (.t 55) []⟩,
      ⟨none, (some 8), .mv (.t 56)⟩])
    .skip)))))
    (.reg [⟨none, (some 25), .mv (.t 9)⟩,
      ⟨none, (some 26), .bin .add (.t 25) (.c (.int .i64 1))⟩,
      ⟨none, (some 9), .mv (.t 26)⟩]))))))
    (.seq (.reg [⟨none, (some 57), .mv (.t 8)⟩,
      ⟨none, (some 4), .mv (.t 57)⟩,
      ⟨none, (some 5), .mv (.c (.int .i64 0))⟩])
    .ret))))))
theorem ok25 : FnOk Tryz.prog 25 58 4 c25 [.t 4, .t 5] := ⟨_, _, Tryz.func25, rfl, rfl, by kernel_rfl, by kernel_rfl⟩
theorem bd25 : bodied Tryz.prog 25 = true := by kernel_rfl

/-- ferrule/ferrulelaw05.Example -/
def c26 : CI := (.seq (.reg [⟨none, (some 0), .alloc 0 [.nils, (.int .i64 0), (.int .i64 0), (.int .i64 0), (.int .i64 0), (.int .i64 0), (.int .i64 0), .nils, .nils]⟩])
    (.seq (.reg [⟨none, (some 1), .callw 1 1 49 []⟩,
      ⟨none, (some 2), .build [(.int .i64 0), (.int .i64 0)] [(0, 1, (.c (.int .i64 100))), (1, 1, (.c (.int .i64 110)))]⟩,
      ⟨none, (some 3), .build [(.int .i64 0), (.int .i64 0)] [(0, 1, (.c (.int .i64 60))), (1, 1, (.c (.int .i64 60)))]⟩,
      ⟨none, (some 4), .build [(.int .i64 0), (.int .i64 0)] [(0, 1, (.c (.int .i64 50))), (1, 1, (.c (.int .i64 55)))]⟩,
      ⟨none, (some 5), .build [(.int .i64 0), (.int .i64 0)] [(0, 1, (.c (.int .i64 40))), (1, 1, (.c (.int .i64 40)))]⟩,
      ⟨none, (some 6), .build [(.int .i64 0), (.int .i64 0)] [(0, 1, (.c (.int .i64 50))), (1, 1, (.c (.int .i64 50)))]⟩,
      ⟨none, (some 7), .build [(.int .i64 0), (.int .i64 0)] [(0, 1, (.c (.int .i64 60))), (1, 1, (.c (.int .i64 60)))]⟩,
      ⟨none, (some 8), .bsl 2 39 2 [(.t 2), (.t 3), (.t 4), (.t 5), (.t 6), (.t 7)] []⟩,
      ⟨none, (some 9), .bsl 3 3 1 [(.c (.int .i64 10)), (.c (.int .i64 6)), (.c (.int .i64 3)), (.c (.int .i64 1)), (.c (.int .i64 3)), (.c (.int .i64 6))] []⟩,
      ⟨none, (some 10), .build [.nils, (.int .i64 0), (.int .i64 0), (.int .i64 0), (.int .i64 0), (.int .i64 0), (.int .i64 0), .nils, .nils] [(0, 7, (.t 1)), (7, 1, (.t 8)), (8, 1, (.t 9))]⟩,
      ⟨none, none, .stz true 9 (.t 0) (.t 10) []⟩])
    .ret))
theorem ok26 : FnOk Tryz.prog 26 11 4 c26 [.cell 0 true 9] := ⟨_, _, Tryz.func26, rfl, rfl, by kernel_rfl, by kernel_rfl⟩
theorem bd26 : bodied Tryz.prog 26 = true := by kernel_rfl

/-- ferrule/ferruleref01.Copy -/
def c27 : CI := (.seq (.reg [⟨none, (some 1), .box 0 true (.t 0)⟩,
      ⟨none, (some 2), .alloc 1 [.nils, (.int .i64 0), (.int .i64 0), (.int .i64 0), (.int .i64 0), (.int .i64 0), (.int .i64 0)]⟩])
    (.seq (.reg [⟨none, (some 3), .bsl 2 90 7 [] []⟩,
      ⟨none, (some 4), .faddr 0 (.t 1)⟩,
      ⟨none, (some 5), .load false 1 (.t 4)⟩,
      ⟨none, (some 6), .apd 3 90 7 56 (.t 3) (.t 5) []⟩,
      ⟨none, (some 7), .faddr 0 (.t 1)⟩,
      ⟨none, none, .stz false 1 (.t 7) (.t 6) []⟩])
    (.seq (.reg [⟨none, (some 8), .load true 7 (.t 1)⟩,
      ⟨none, none, .stz true 7 (.t 2) (.t 8) []⟩])
    .ret)))
theorem ok27 : FnOk Tryz.prog 27 9 4 c27 [.cell 2 true 7] := ⟨_, _, Tryz.func27, rfl, rfl, by kernel_rfl, by kernel_rfl⟩
theorem bd27 : bodied Tryz.prog 27 = true := by kernel_rfl

/-- ferrule/gusts.validDome -/
def c28 : CI := (.seq (.reg [⟨none, (some 1), .box 0 true (.t 0)⟩,
      ⟨none, (some 2), .mv (.c (.bool false))⟩])
    (.seq (.reg [⟨none, (some 3), .faddr 0 (.t 1)⟩,
      ⟨none, (some 4), .load true 7 (.t 3)⟩,
      ⟨none, (some 5), .call 50 [(.t 4)]⟩,
      ⟨none, (some 6), .bin .eql (.t 5) (.c (.int .i64 0))⟩,
      ⟨none, (some 7), .mv (.t 6)⟩,
      ⟨(some (7, true)), (some 8), .faddr 7 (.t 1)⟩,
      ⟨(some (7, true)), (some 9), .load false 1 (.t 8)⟩,
      ⟨(some (7, true)), (some 10), .len (.t 9)⟩,
      ⟨(some (7, true)), (some 11), .call 51 [(.t 10), (.c (.int .i64 3)), (.c (.int .i64 10))]⟩,
      ⟨none, (some 12), .pick (.t 7) (.t 11) (.c (.bool false))⟩,
      ⟨none, (some 13), .mv (.t 12)⟩,
      ⟨(some (13, true)), (some 14), .faddr 7 (.t 1)⟩,
      ⟨(some (13, true)), (some 15), .load false 1 (.t 14)⟩,
      ⟨(some (13, true)), (some 16), .call 52 [(.t 15), (.c (.fn 53 []))]⟩,
      ⟨none, (some 17), .pick (.t 13) (.t 16) (.c (.bool false))⟩,
      ⟨none, (some 18), .mv (.t 17)⟩,
      ⟨(some (18, true)), (some 19), .faddr 8 (.t 1)⟩,
      ⟨(some (18, true)), (some 20), .load false 1 (.t 19)⟩,
      ⟨(some (18, true)), (some 21), .len (.t 20)⟩,
      ⟨(some (18, true)), (some 22), .faddr 7 (.t 1)⟩,
      ⟨(some (18, true)), (some 23), .load false 1 (.t 22)⟩,
      ⟨(some (18, true)), (some 24), .len (.t 23)⟩,
      ⟨(some (18, true)), (some 25), .bin .eql (.t 21) (.t 24)⟩,
      ⟨none, (some 26), .pick (.t 18) (.t 25) (.c (.bool false))⟩,
      ⟨none, (some 27), .mv (.t 26)⟩,
      ⟨(some (27, true)), (some 28), .faddr 8 (.t 1)⟩,
      ⟨(some (27, true)), (some 29), .load false 1 (.t 28)⟩,
      ⟨(some (27, true)), (some 30), .call 54 [(.t 29), (.c (.fn 55 []))]⟩,
      ⟨none, (some 31), .pick (.t 27) (.t 30) (.c (.bool false))⟩,
      ⟨none, (some 2), .mv (.t 31)⟩])
    .ret))
theorem ok28 : FnOk Tryz.prog 28 32 1 c28 [.t 2] := ⟨_, _, Tryz.func28, rfl, rfl, by kernel_rfl, by kernel_rfl⟩
theorem bd28 : bodied Tryz.prog 28 = true := by kernel_rfl

/-- ferrule/ferruleref01.Check -/
def c29 : CI := (.seq (.reg [⟨none, (some 1), .box 0 true (.t 0)⟩,
      ⟨none, (some 2), .mv (.c (.int .i64 0))⟩])
    (.seq (.seq (.reg [⟨none, (some 3), .mv (.c (.int .i64 0))⟩])
    (.block 0 (.loop (.seq (.seq (.reg [⟨none, (some 5), .mv (.t 3)⟩,
      ⟨none, (some 6), .faddr 0 (.t 1)⟩,
      ⟨none, (some 7), .load false 1 (.t 6)⟩,
      ⟨none, (some 8), .len (.t 7)⟩,
      ⟨none, (some 9), .bin .lss (.t 5) (.t 8)⟩])
    (.cond (.t 9) .skip
    (.exit 0)))
    (.seq (.block 1 (.seq (.reg [⟨none, (some 12), .faddr 0 (.t 1)⟩,
      ⟨none, (some 13), .load false 1 (.t 12)⟩,
      ⟨none, (some 14), .mv (.t 3)⟩,
      ⟨none, (some 15), .iaddr 7 (.t 13) (.t 14)⟩,
      ⟨none, (some 16), .load true 7 (.t 15)⟩,
      ⟨none, (some 4), .alloc 1 [(.int .i64 0), (.int .i64 0), (.int .i64 0), (.int .i64 0), (.int .i64 0), (.int .i64 0), (.int .i64 0)]⟩,
      ⟨none, none, .store true 7 (.t 4) (.t 16) []⟩])
    (.seq (.reg [⟨none, (some 17), .faddr 0 (.t 4)⟩,
      ⟨none, (some 18), .load true 2 (.t 17)⟩,
      ⟨none, (some 19), .call 56 [(.t 18)]⟩,
      ⟨none, (some 20), .un .not (.t 19)⟩,
      ⟨none, (some 21), .mv (.t 20)⟩,
      ⟨(some (21, false)), (some 22), .faddr 2 (.t 4)⟩,
      ⟨(some (21, false)), (some 23), .load true 2 (.t 22)⟩,
      ⟨(some (21, false)), (some 24), .call 56 [(.t 23)]⟩,
      ⟨(some (21, false)), (some 25), .un .not (.t 24)⟩,
      ⟨none, (some 26), .pick (.t 21) (.c (.bool true)) (.t 25)⟩,
      ⟨none, (some 27), .mv (.t 26)⟩,
      ⟨(some (27, false)), (some 28), .faddr 4 (.t 4)⟩,
      ⟨(some (27, false)), (some 29), .load false 1 (.t 28)⟩,
      ⟨(some (27, false)), (some 30), .call 57 [(.t 29), (.c (.int .i64 0)), (.c (.int .i64 2000))]⟩,
      ⟨(some (27, false)), (some 31), .un .not (.t 30)⟩,
      ⟨none, (some 32), .pick (.t 27) (.c (.bool true)) (.t 31)⟩,
      ⟨none, (some 33), .mv (.t 32)⟩,
      ⟨(some (33, false)), (some 34), .faddr 5 (.t 4)⟩,
      ⟨(some (33, false)), (some 35), .load true 2 (.t 34)⟩,
      ⟨(some (33, false)), (some 36), .call 58 [(.t 35)]⟩,
      ⟨(some (33, false)), (some 37), .un .not (.t 36)⟩,
      ⟨none, (some 38), .pick (.t 33) (.c (.bool true)) (.t 37)⟩])
    (.cond (.t 38) (.seq (.reg [⟨none, (some 2), .mv (.c (.int .i64 10))⟩])
    .ret)
    .skip))))
    (.reg [⟨none, (some 10), .mv (.t 3)⟩,
      ⟨none, (some 11), .bin .add (.t 10) (.c (.int .i64 1))⟩,
      ⟨none, (some 3), .mv (.t 11)⟩]))))))
    (.seq (.seq (.reg [⟨none, (some 39), .faddr 0 (.t 1)⟩,
      ⟨none, (some 40), .load false 1 (.t 39)⟩,
      ⟨none, (some 41), .len (.t 40)⟩,
      ⟨none, (some 42), .call 57 [(.t 41), (.c (.int .i64 1)), (.c (.int .i64 3))]⟩,
      ⟨none, (some 43), .un .not (.t 42)⟩,
      ⟨none, (some 44), .mv (.t 43)⟩,
      ⟨(some (44, false)), (some 45), .faddr 1 (.t 1)⟩,
      ⟨(some (44, false)), (some 46), .load false 1 (.t 45)⟩,
      ⟨(some (44, false)), (some 47), .faddr 2 (.t 1)⟩,
      ⟨(some (44, false)), (some 48), .load false 1 (.t 47)⟩,
      ⟨(some (44, false)), (some 49), .call 57 [(.t 46), (.c (.int .i64 1)), (.t 48)]⟩,
      ⟨(some (44, false)), (some 50), .un .not (.t 49)⟩,
      ⟨none, (some 51), .pick (.t 44) (.c (.bool true)) (.t 50)⟩,
      ⟨none, (some 52), .mv (.t 51)⟩,
      ⟨(some (52, false)), (some 53), .faddr 2 (.t 1)⟩,
      ⟨(some (52, false)), (some 54), .load false 1 (.t 53)⟩,
      ⟨(some (52, false)), (some 55), .bin .gtr (.t 54) (.c (.int .i64 2000))⟩,
      ⟨none, (some 56), .pick (.t 52) (.c (.bool true)) (.t 55)⟩,
      ⟨none, (some 57), .mv (.t 56)⟩,
      ⟨(some (57, false)), (some 58), .faddr 2 (.t 1)⟩,
      ⟨(some (57, false)), (some 59), .load false 1 (.t 58)⟩,
      ⟨(some (57, false)), (some 60), .faddr 1 (.t 1)⟩,
      ⟨(some (57, false)), (some 61), .load false 1 (.t 60)⟩,
      ⟨(some (57, false)), (some 62), .bin .sub (.t 59) (.t 61)⟩,
      ⟨(some (57, false)), (some 63), .bin .gtr (.t 62) (.c (.int .i64 200))⟩,
      ⟨none, (some 64), .pick (.t 57) (.c (.bool true)) (.t 63)⟩,
      ⟨none, (some 65), .mv (.t 64)⟩,
      ⟨(some (65, false)), (some 66), .faddr 3 (.t 1)⟩,
      ⟨(some (65, false)), (some 67), .load true 2 (.t 66)⟩,
      ⟨(some (65, false)), (some 68), .call 58 [(.t 67)]⟩,
      ⟨(some (65, false)), (some 69), .un .not (.t 68)⟩,
      ⟨none, (some 70), .pick (.t 65) (.c (.bool true)) (.t 69)⟩,
      ⟨none, (some 71), .mv (.t 70)⟩,
      ⟨(some (71, false)), (some 72), .faddr 5 (.t 1)⟩,
      ⟨(some (71, false)), (some 73), .load false 1 (.t 72)⟩,
      ⟨(some (71, false)), (some 74), .call 57 [(.t 73), (.c (.int .i64 0)), (.c (.int .i64 4000))]⟩,
      ⟨(some (71, false)), (some 75), .un .not (.t 74)⟩,
      ⟨none, (some 76), .pick (.t 71) (.c (.bool true)) (.t 75)⟩,
      ⟨none, (some 77), .mv (.t 76)⟩,
      ⟨(some (77, false)), (some 78), .faddr 6 (.t 1)⟩,
      ⟨(some (77, false)), (some 79), .load false 1 (.t 78)⟩,
      ⟨(some (77, false)), (some 80), .call 57 [(.t 79), (.c (.int .i64 0)), (.c (.int .i64 4000))]⟩,
      ⟨(some (77, false)), (some 81), .un .not (.t 80)⟩,
      ⟨none, (some 82), .pick (.t 77) (.c (.bool true)) (.t 81)⟩])
    (.cond (.t 82) (.seq (.reg [⟨none, (some 2), .mv (.c (.int .i64 10))⟩])
    .ret)
    .skip))
    (.seq (.reg [⟨none, (some 2), .mv (.c (.int .i64 0))⟩])
    .ret))))
theorem ok29 : FnOk Tryz.prog 29 83 2 c29 [.t 2] := ⟨_, _, Tryz.func29, rfl, rfl, by kernel_rfl, by kernel_rfl⟩
theorem bd29 : bodied Tryz.prog 29 = true := by kernel_rfl

/-- ferrule/ferruleref05.within -/
def c30 : CI := (.seq (.reg [⟨none, (some 6), .mv (.c (.bool false))⟩])
    (.seq (.reg [⟨none, (some 7), .mv (.t 0)⟩,
      ⟨none, (some 8), .mv (.t 1)⟩,
      ⟨none, (some 9), .mv (.t 2)⟩,
      ⟨none, (some 10), .call 57 [(.t 7), (.t 8), (.t 9)]⟩,
      ⟨none, (some 6), .mv (.t 10)⟩])
    .ret))
theorem ok30 : FnOk Tryz.prog 30 11 0 c30 [.t 6] := ⟨_, _, Tryz.func30, rfl, rfl, by kernel_rfl, by kernel_rfl⟩
theorem bd30 : bodied Tryz.prog 30 = true := by kernel_rfl

/-- ferrule/gusts.lifts -/
def c31 : CI := (.seq (.reg [⟨none, (some 1), .box 0 true (.t 0)⟩,
      ⟨none, (some 2), .alloc 1 [(.int .i64 0), (.int .i64 0)]⟩])
    (.seq (.reg [⟨none, (some 7), .load true 7 (.t 1)⟩,
      ⟨none, (some 8), .faddr 1 (.t 1)⟩,
      ⟨none, (some 9), .load false 1 (.t 8)⟩,
      ⟨none, (some 10), .call 59 [(.t 7), (.c (.int .i64 0)), (.t 9)]⟩,
      ⟨none, (some 6), .mv (.t 10)⟩,
      ⟨none, (some 11), .extract 0 (.t 6)⟩,
      ⟨none, (some 12), .extract 1 (.t 6)⟩,
      ⟨none, (some 13), .extract 2 (.t 6)⟩,
      ⟨none, (some 3), .alloc 2 [(.int .i64 0), (.int .i64 0)]⟩,
      ⟨none, (some 4), .alloc 3 [(.int .i64 0), (.int .i64 0)]⟩,
      ⟨none, none, .store true 2 (.t 3) (.t 11) []⟩,
      ⟨none, none, .store true 2 (.t 4) (.t 12) []⟩,
      ⟨none, (some 5), .mv (.t 13)⟩])
    (.seq (.reg [⟨none, (some 14), .load true 2 (.t 3)⟩,
      ⟨none, (some 16), .load true 2 (.t 4)⟩,
      ⟨none, (some 15), .call 60 [(.t 14)]⟩,
      ⟨none, (some 17), .call 60 [(.t 16)]⟩,
      ⟨none, (some 18), .build [(.int .i64 0), (.int .i64 0)] [(0, 1, (.t 15)), (1, 1, (.t 17))]⟩,
      ⟨none, none, .store true 2 (.t 2) (.t 18) []⟩])
    .ret)))
theorem ok31 : FnOk Tryz.prog 31 19 4 c31 [.cell 2 true 2] := ⟨_, _, Tryz.func31, rfl, rfl, by kernel_rfl, by kernel_rfl⟩
theorem bd31 : bodied Tryz.prog 31 = true := by kernel_rfl

/-- ferrule/ferruleref05.lift -/
def c32 : CI := (.seq (.reg [⟨none, (some 1), .box 0 true (.t 0)⟩,
      ⟨none, (some 2), .alloc 1 [(.int .i64 0), (.int .i64 0)]⟩])
    (.seq (.reg [⟨none, (some 7), .faddr 0 (.t 1)⟩,
      ⟨none, (some 8), .load true 7 (.t 7)⟩,
      ⟨none, (some 9), .callw 2 1 61 [(.t 8), (.c (.int .i64 0))]⟩,
      ⟨none, (some 3), .mv (.t 9)⟩])
    (.seq (.reg [⟨none, (some 10), .build [(.int .i64 0), (.int .i64 0)] [(0, 1, (.c (.int .i64 200)))]⟩,
      ⟨none, (some 4), .alloc 3 [(.int .i64 0), (.int .i64 0)]⟩,
      ⟨none, none, .store true 2 (.t 4) (.t 10) []⟩])
    (.seq (.seq (.reg [⟨none, (some 5), .mv (.c (.int .i64 0))⟩])
    (.block 0 (.loop (.seq (.seq (.reg [⟨none, (some 11), .mv (.t 5)⟩,
      ⟨none, (some 12), .mv (.t 3)⟩,
      ⟨none, (some 13), .len (.t 12)⟩,
      ⟨none, (some 14), .bin .lss (.t 11) (.t 13)⟩])
    (.cond (.t 14) .skip
    (.exit 0)))
    (.seq (.block 1 (.seq (.reg [⟨none, (some 17), .load true 9 (.t 1)⟩,
      ⟨none, (some 18), .mv (.t 3)⟩,
      ⟨none, (some 19), .mv (.t 5)⟩,
      ⟨none, (some 20), .iaddr 2 (.t 18) (.t 19)⟩,
      ⟨none, (some 21), .load true 2 (.t 20)⟩,
      ⟨none, (some 22), .call 62 [(.t 17), (.t 21)]⟩,
      ⟨none, (some 6), .mv (.t 22)⟩])
    (.reg [⟨none, (some 23), .faddr 0 (.t 4)⟩,
      ⟨none, (some 24), .load false 1 (.t 23)⟩,
      ⟨none, (some 25), .mv (.t 6)⟩,
      ⟨none, (some 26), .mm false [(.t 24), (.t 25)]⟩,
      ⟨none, (some 27), .faddr 1 (.t 4)⟩,
      ⟨none, (some 28), .load false 1 (.t 27)⟩,
      ⟨none, (some 29), .mv (.t 6)⟩,
      ⟨none, (some 30), .mm true [(.t 28), (.t 29)]⟩,
      ⟨none, (some 31), .build [(.int .i64 0), (.int .i64 0)] [(0, 1, (.t 26)), (1, 1, (.t 30))]⟩,
      ⟨none, none, .store true 2 (.t 4) (.t 31) []⟩])))
    (.reg [⟨none, (some 15), .mv (.t 5)⟩,
      ⟨none, (some 16), .bin .add (.t 15) (.c (.int .i64 1))⟩,
      ⟨none, (some 5), .mv (.t 16)⟩]))))))
    (.seq (.reg [⟨none, (some 32), .load true 2 (.t 4)⟩,
      ⟨none, none, .store true 2 (.t 2) (.t 32) []⟩])
    .ret)))))
theorem ok32 : FnOk Tryz.prog 32 33 4 c32 [.cell 2 true 2] := ⟨_, _, Tryz.func32, rfl, rfl, by kernel_rfl, by kernel_rfl⟩
theorem bd32 : bodied Tryz.prog 32 = true := by kernel_rfl

/-- ferrule/gusts.open -/
def c33 : CI := (.seq (.reg [⟨none, (some 2), .box 0 true (.t 0)⟩,
      ⟨none, (some 4), .alloc 1 [(.int .i64 0), .nils, .nils]⟩,
      ⟨none, (some 5), .alloc 2 [(.int .i64 0), .nils, .nils]⟩,
      ⟨none, (some 6), .mv (.c (.int .i64 0))⟩])
    (.seq (.seq (.reg [⟨none, (some 11), .load true 9 (.t 2)⟩,
      ⟨none, (some 12), .mv (.t 1)⟩,
      ⟨none, (some 13), .call 63 [(.t 11), (.t 12)]⟩,
      ⟨none, (some 7), .mv (.t 13)⟩])
    (.seq (.reg [⟨none, (some 14), .mv (.t 7)⟩,
      ⟨none, (some 15), .bin .neq (.t 14) (.c (.int .i64 0))⟩])
    (.cond (.t 15) (.seq (.reg [⟨none, (some 16), .build [(.int .i64 0), .nils, .nils] []⟩,
      ⟨none, (some 17), .build [(.int .i64 0), .nils, .nils] []⟩,
      ⟨none, (some 18), .mv (.t 7)⟩,
      ⟨none, none, .stz true 3 (.t 4) (.t 16) []⟩,
      ⟨none, none, .stz true 3 (.t 5) (.t 17) []⟩,
      ⟨none, (some 6), .mv (.t 18)⟩])
    .ret)
    .skip)))
    (.seq (.reg [⟨none, (some 19), .faddr 0 (.t 2)⟩,
      ⟨none, (some 20), .load true 7 (.t 19)⟩,
      ⟨none, (some 21), .call 31 [(.t 20)]⟩,
      ⟨none, (some 8), .alloc 3 [(.int .i64 0), (.int .i64 0)]⟩,
      ⟨none, none, .store true 2 (.t 8) (.t 21) []⟩])
    (.seq (.reg [⟨none, (some 22), .faddr 0 (.t 8)⟩,
      ⟨none, (some 23), .load false 1 (.t 22)⟩,
      ⟨none, (some 24), .faddr 8 (.t 2)⟩,
      ⟨none, (some 25), .load false 1 (.t 24)⟩,
      ⟨none, (some 26), .build [(.int .i64 0), .nils, .nils] [(0, 1, (.t 23)), (2, 1, (.t 25))]⟩,
      ⟨none, none, .stz true 3 (.t 4) (.t 26) []⟩])
    (.seq (.reg [⟨none, (some 27), .faddr 1 (.t 8)⟩,
      ⟨none, (some 28), .load false 1 (.t 27)⟩,
      ⟨none, (some 29), .faddr 8 (.t 2)⟩,
      ⟨none, (some 30), .load false 1 (.t 29)⟩,
      ⟨none, (some 31), .build [(.int .i64 0), .nils, .nils] [(0, 1, (.t 28)), (2, 1, (.t 30))]⟩,
      ⟨none, none, .stz true 3 (.t 5) (.t 31) []⟩])
    (.seq (.seq (.reg [⟨none, (some 32), .faddr 7 (.t 2)⟩,
      ⟨none, (some 33), .load false 1 (.t 32)⟩,
      ⟨none, (some 34), .len (.t 33)⟩,
      ⟨none, (some 35), .mv (.c (.int .i64 0))⟩])
    (.block 0 (.loop (.seq (.reg [⟨none, (some 36), .bin .lss (.t 35) (.t 34)⟩])
    (.seq (.cond (.t 36) .skip
    (.exit 0))
    (.seq (.block 1 (.seq (.reg [⟨none, (some 37), .iaddr 2 (.t 33) (.t 35)⟩,
      ⟨none, (some 38), .load true 2 (.t 37)⟩,
      ⟨none, (some 10), .alloc 4 [(.int .i64 0), (.int .i64 0)]⟩,
      ⟨none, none, .store true 2 (.t 10) (.t 38) []⟩])
    (.seq (.reg [⟨none, (some 39), .faddr 1 (.t 4)⟩,
      ⟨none, (some 40), .load false 1 (.t 39)⟩,
      ⟨none, (some 41), .faddr 1 (.t 10)⟩,
      ⟨none, (some 42), .load false 1 (.t 41)⟩,
      ⟨none, (some 43), .bsl 5 3 1 [(.t 42)] []⟩,
      ⟨none, (some 44), .apd 6 3 1 8 (.t 40) (.t 43) []⟩,
      ⟨none, (some 45), .faddr 1 (.t 4)⟩,
      ⟨none, none, .stz false 1 (.t 45) (.t 44) []⟩])
    (.reg [⟨none, (some 46), .faddr 1 (.t 5)⟩,
      ⟨none, (some 47), .load false 1 (.t 46)⟩,
      ⟨none, (some 48), .faddr 0 (.t 10)⟩,
      ⟨none, (some 49), .load false 1 (.t 48)⟩,
      ⟨none, (some 50), .bsl 7 3 1 [(.t 49)] []⟩,
      ⟨none, (some 51), .apd 8 3 1 8 (.t 47) (.t 50) []⟩,
      ⟨none, (some 52), .faddr 1 (.t 5)⟩,
      ⟨none, none, .stz false 1 (.t 52) (.t 51) []⟩]))))
    (.reg [⟨none, (some 53), .bin .add (.t 35) (.c (.int .i64 1))⟩,
      ⟨none, (some 35), .mv (.t 53)⟩])))))))
    (.seq (.reg [⟨none, (some 54), .load true 3 (.t 4)⟩,
      ⟨none, (some 55), .load true 3 (.t 5)⟩,
      ⟨none, none, .stz true 3 (.t 4) (.t 54) [(.t 5)]⟩,
      ⟨none, none, .stz true 3 (.t 5) (.t 55) []⟩,
      ⟨none, (some 6), .mv (.c (.int .i64 0))⟩])
    .ret)))))))
theorem ok33 : FnOk Tryz.prog 33 56 9 c33 [.cell 4 true 3, .cell 5 true 3, .t 6] := ⟨_, _, Tryz.func33, rfl, rfl, by kernel_rfl, by kernel_rfl⟩
theorem bd33 : bodied Tryz.prog 33 = true := by kernel_rfl

/-- (ferrule/gusts.truth).load -/
def c34 : CI := (.seq (.reg [⟨none, (some 3), .box 0 true (.t 0)⟩,
      ⟨none, (some 4), .box 1 true (.t 1)⟩,
      ⟨none, (some 6), .mv (.c (.int .i64 0))⟩])
    (.seq (.reg [⟨none, (some 7), .faddr 0 (.t 4)⟩,
      ⟨none, (some 8), .load false 1 (.t 7)⟩,
      ⟨none, (some 9), .faddr 0 (.t 3)⟩,
      ⟨none, (some 10), .load false 1 (.t 9)⟩,
      ⟨none, (some 11), .bin .mul (.t 8) (.t 10)⟩,
      ⟨none, (some 12), .faddr 2 (.t 3)⟩,
      ⟨none, (some 13), .load false 1 (.t 12)⟩,
      ⟨none, (some 14), .load true 3 (.t 3)⟩,
      ⟨none, (some 15), .mv (.t 2)⟩,
      ⟨none, (some 16), .faddr 1 (.t 4)⟩,
      ⟨none, (some 17), .load false 1 (.t 16)⟩,
      ⟨none, (some 18), .bin .sub (.t 15) (.t 17)⟩,
      ⟨none, (some 19), .call 64 [(.t 14), (.t 18)]⟩,
      ⟨none, (some 20), .iaddr 1 (.t 13) (.t 19)⟩,
      ⟨none, (some 21), .load false 1 (.t 20)⟩,
      ⟨none, (some 22), .bin .mul (.t 11) (.t 21)⟩,
      ⟨none, (some 23), .bin .quo (.t 22) (.c (.int .i64 100))⟩,
      ⟨none, (some 6), .mv (.t 23)⟩])
    .ret))
theorem ok34 : FnOk Tryz.prog 34 24 2 c34 [.t 6] := ⟨_, _, Tryz.func34, rfl, rfl, by kernel_rfl, by kernel_rfl⟩
theorem bd34 : bodied Tryz.prog 34 = true := by kernel_rfl

/-- ferrule/ferruleref05.check -/
def c35 : CI := (.seq (.reg [⟨none, (some 2), .box 0 true (.t 0)⟩,
      ⟨none, (some 4), .mv (.c (.int .i64 0))⟩])
    (.seq (.seq (.reg [⟨none, (some 6), .load true 9 (.t 2)⟩,
      ⟨none, (some 7), .call 9 [(.t 6)]⟩,
      ⟨none, (some 5), .mv (.t 7)⟩])
    (.seq (.reg [⟨none, (some 8), .mv (.t 5)⟩,
      ⟨none, (some 9), .bin .neq (.t 8) (.c (.int .i64 0))⟩])
    (.cond (.t 9) (.seq (.reg [⟨none, (some 10), .mv (.t 5)⟩,
      ⟨none, (some 4), .mv (.t 10)⟩])
    .ret)
    .skip)))
    (.seq (.seq (.reg [⟨none, (some 11), .load true 9 (.t 2)⟩,
      ⟨none, (some 12), .mv (.t 1)⟩,
      ⟨none, (some 13), .call 65 [(.t 11), (.t 12)]⟩,
      ⟨none, (some 14), .un .not (.t 13)⟩])
    (.cond (.t 14) (.seq (.reg [⟨none, (some 4), .mv (.c (.int .i64 1))⟩])
    .ret)
    .skip))
    (.seq (.reg [⟨none, (some 4), .mv (.c (.int .i64 0))⟩])
    .ret))))
theorem ok35 : FnOk Tryz.prog 35 15 1 c35 [.t 4] := ⟨_, _, Tryz.func35, rfl, rfl, by kernel_rfl, by kernel_rfl⟩
theorem bd35 : bodied Tryz.prog 35 = true := by kernel_rfl

/-- ferrule/ferruleref05.Load -/
def c36 : CI := (.seq (.reg [⟨none, (some 4), .box 0 true (.t 0)⟩,
      ⟨none, (some 5), .box 1 true (.t 1)⟩,
      ⟨none, (some 8), .mv (.c (.int .i64 0))⟩])
    (.seq (.reg [⟨none, (some 10), .faddr 7 (.t 4)⟩,
      ⟨none, (some 11), .load false 1 (.t 10)⟩,
      ⟨none, (some 12), .len (.t 11)⟩,
      ⟨none, (some 9), .mv (.t 12)⟩])
    (.seq (.reg [⟨none, (some 13), .faddr 0 (.t 5)⟩,
      ⟨none, (some 14), .load false 1 (.t 13)⟩,
      ⟨none, (some 15), .mv (.t 2)⟩,
      ⟨none, (some 16), .bin .mul (.t 14) (.t 15)⟩,
      ⟨none, (some 17), .faddr 8 (.t 4)⟩,
      ⟨none, (some 18), .load false 1 (.t 17)⟩,
      ⟨none, (some 19), .mv (.t 3)⟩,
      ⟨none, (some 20), .faddr 1 (.t 5)⟩,
      ⟨none, (some 21), .load false 1 (.t 20)⟩,
      ⟨none, (some 22), .bin .sub (.t 19) (.t 21)⟩,
      ⟨none, (some 23), .mv (.t 9)⟩,
      ⟨none, (some 24), .bin .add (.t 22) (.t 23)⟩,
      ⟨none, (some 25), .mv (.t 9)⟩,
      ⟨none, (some 26), .bin .rem (.t 24) (.t 25)⟩,
      ⟨none, (some 27), .iaddr 1 (.t 18) (.t 26)⟩,
      ⟨none, (some 28), .load false 1 (.t 27)⟩,
      ⟨none, (some 29), .bin .mul (.t 16) (.t 28)⟩,
      ⟨none, (some 30), .bin .quo (.t 29) (.c (.int .i64 100))⟩,
      ⟨none, (some 8), .mv (.t 30)⟩])
    .ret)))
theorem ok36 : FnOk Tryz.prog 36 31 2 c36 [.t 8] := ⟨_, _, Tryz.func36, rfl, rfl, by kernel_rfl, by kernel_rfl⟩
theorem bd36 : bodied Tryz.prog 36 = true := by kernel_rfl

/-- (ferrule/gusts.truth).gone -/
def c37 : CI := (.seq (.reg [⟨none, (some 2), .box 0 true (.t 0)⟩,
      ⟨none, (some 3), .box 1 true (.t 1)⟩,
      ⟨none, (some 4), .mv (.c .nils)⟩])
    (.seq (.reg [⟨none, (some 5), .alloc 2 [.nils]⟩])
    (.seq (.seq (.reg [⟨none, (some 7), .load true 3 (.t 2)⟩,
      ⟨none, (some 8), .load true 2 (.t 3)⟩,
      ⟨none, (some 9), .callw 3 0 66 [(.t 7), (.t 8)]⟩])
    (.block 0 (.rng (.t 9) [10] (.reg [⟨none, (some 6), .mv (.t 10)⟩])
    (.block 1 (.reg [⟨none, (some 11), .load false 1 (.t 5)⟩,
      ⟨none, (some 12), .mv (.t 6)⟩,
      ⟨none, (some 13), .apd 3 3 1 8 (.t 11) (.t 12) []⟩,
      ⟨none, none, .stz false 1 (.t 5) (.t 13) []⟩])))))
    (.seq (.reg [⟨none, (some 14), .load false 1 (.t 5)⟩,
      ⟨none, (some 15), .callw 4 0 67 [(.t 14)]⟩])
    (.seq (.reg [⟨none, (some 16), .load false 1 (.t 5)⟩,
      ⟨none, (some 4), .mv (.t 16)⟩])
    .ret)))))
theorem ok37 : FnOk Tryz.prog 37 17 4 c37 [.t 4] := ⟨_, _, Tryz.func37, rfl, rfl, by kernel_rfl, by kernel_rfl⟩
theorem bd37 : bodied Tryz.prog 37 = true := by kernel_rfl

/-- ferrule/ferruleref05.ends -/
def c38 : CI := (.seq (.reg [⟨none, (some 1), .box 0 true (.t 0)⟩,
      ⟨none, (some 2), .alloc 1 [(.int .i64 0), .nils]⟩,
      ⟨none, (some 3), .alloc 2 [(.int .i64 0), .nils]⟩])
    (.seq (.reg [⟨none, (some 6), .load true 9 (.t 1)⟩,
      ⟨none, (some 7), .call 32 [(.t 6)]⟩,
      ⟨none, (some 4), .alloc 3 [(.int .i64 0), (.int .i64 0)]⟩,
      ⟨none, none, .store true 2 (.t 4) (.t 7) []⟩])
    (.seq (.reg [⟨none, (some 8), .faddr 0 (.t 4)⟩,
      ⟨none, (some 9), .load false 1 (.t 8)⟩,
      ⟨none, (some 10), .faddr 1 (.t 4)⟩,
      ⟨none, (some 11), .load false 1 (.t 10)⟩,
      ⟨none, (some 12), .faddr 0 (.t 2)⟩,
      ⟨none, none, .store false 1 (.t 12) (.t 9) [(.t 10)]⟩,
      ⟨none, (some 13), .faddr 0 (.t 3)⟩,
      ⟨none, none, .store false 1 (.t 13) (.t 11) []⟩])
    (.seq (.seq (.reg [⟨none, (some 5), .mv (.c (.int .i64 0))⟩])
    (.block 0 (.loop (.seq (.seq (.reg [⟨none, (some 14), .mv (.t 5)⟩,
      ⟨none, (some 15), .faddr 7 (.t 1)⟩,
      ⟨none, (some 16), .load false 1 (.t 15)⟩,
      ⟨none, (some 17), .len (.t 16)⟩,
      ⟨none, (some 18), .bin .lss (.t 14) (.t 17)⟩])
    (.cond (.t 18) .skip
    (.exit 0)))
    (.seq (.block 1 (.reg [⟨none, (some 21), .faddr 1 (.t 2)⟩,
      ⟨none, (some 22), .load false 1 (.t 21)⟩,
      ⟨none, (some 23), .faddr 7 (.t 1)⟩,
      ⟨none, (some 24), .load false 1 (.t 23)⟩,
      ⟨none, (some 25), .mv (.t 5)⟩,
      ⟨none, (some 26), .iaddr 2 (.t 24) (.t 25)⟩,
      ⟨none, (some 27), .faddr 1 (.t 26)⟩,
      ⟨none, (some 28), .load false 1 (.t 27)⟩,
      ⟨none, (some 31), .faddr 1 (.t 3)⟩,
      ⟨none, (some 32), .load false 1 (.t 31)⟩,
      ⟨none, (some 33), .faddr 7 (.t 1)⟩,
      ⟨none, (some 34), .load false 1 (.t 33)⟩,
      ⟨none, (some 35), .mv (.t 5)⟩,
      ⟨none, (some 36), .iaddr 2 (.t 34) (.t 35)⟩,
      ⟨none, (some 37), .faddr 0 (.t 36)⟩,
      ⟨none, (some 38), .load false 1 (.t 37)⟩,
      ⟨none, (some 29), .bsl 4 3 1 [(.t 28)] []⟩,
      ⟨none, (some 30), .apd 5 3 1 8 (.t 22) (.t 29) [(.t 31), (.t 33), (.t 34), (.t 37)]⟩,
      ⟨none, (some 39), .bsl 6 3 1 [(.t 38)] [(.t 28), (.t 22), (.t 29)]⟩,
      ⟨none, (some 40), .apd 7 3 1 8 (.t 32) (.t 39) []⟩,
      ⟨none, (some 41), .faddr 1 (.t 2)⟩,
      ⟨none, none, .stz false 1 (.t 41) (.t 30) []⟩,
      ⟨none, (some 42), .faddr 1 (.t 3)⟩,
      ⟨none, none, .stz false 1 (.t 42) (.t 40) []⟩]))
    (.reg [⟨none, (some 19), .mv (.t 5)⟩,
      ⟨none, (some 20), .bin .add (.t 19) (.c (.int .i64 1))⟩,
      ⟨none, (some 5), .mv (.t 20)⟩]))))))
    (.seq (.reg [⟨none, (some 43), .load true 2 (.t 2)⟩,
      ⟨none, (some 44), .load true 2 (.t 3)⟩,
      ⟨none, none, .stz true 2 (.t 2) (.t 43) [(.t 3)]⟩,
      ⟨none, none, .stz true 2 (.t 3) (.t 44) []⟩])
    .ret)))))
theorem ok38 : FnOk Tryz.prog 38 45 8 c38 [.cell 2 true 2, .cell 3 true 2] := ⟨_, _, Tryz.func38, rfl, rfl, by kernel_rfl, by kernel_rfl⟩
theorem bd38 : bodied Tryz.prog 38 = true := by kernel_rfl

/-- ferrule/ferruleref05.went -/
def c39 : CI := (.seq (.reg [⟨none, (some 4), .mv (.c .nils)⟩])
    (.seq (.reg [⟨none, (some 5), .mv (.c .nils)⟩])
    (.seq (.seq (.reg [⟨none, (some 6), .mv (.c (.int .i64 0))⟩])
    (.block 0 (.loop (.seq (.seq (.reg [⟨none, (some 7), .mv (.t 6)⟩,
      ⟨none, (some 8), .mv (.t 0)⟩,
      ⟨none, (some 9), .len (.t 8)⟩,
      ⟨none, (some 10), .bin .lss (.t 7) (.t 9)⟩])
    (.cond (.t 10) .skip
    (.exit 0)))
    (.seq (.block 1 (.seq (.reg [⟨none, (some 13), .mv (.t 0)⟩,
      ⟨none, (some 14), .mv (.t 6)⟩,
      ⟨none, (some 15), .iaddr 1 (.t 13) (.t 14)⟩,
      ⟨none, (some 16), .load false 1 (.t 15)⟩,
      ⟨none, (some 17), .mv (.t 1)⟩,
      ⟨none, (some 18), .call 30 [(.t 16), (.c (.int .i64 1)), (.t 17)]⟩])
    (.cond (.t 18) (.reg [⟨none, (some 19), .mv (.t 5)⟩,
      ⟨none, (some 20), .mv (.t 6)⟩,
      ⟨none, (some 21), .bsl 0 3 1 [(.t 20)] []⟩,
      ⟨none, (some 22), .apd 1 3 1 8 (.t 19) (.t 21) []⟩,
      ⟨none, (some 5), .mv (.t 22)⟩])
    .skip)))
    (.reg [⟨none, (some 11), .mv (.t 6)⟩,
      ⟨none, (some 12), .bin .add (.t 11) (.c (.int .i64 1))⟩,
      ⟨none, (some 6), .mv (.t 12)⟩]))))))
    (.seq (.reg [⟨none, (some 23), .mv (.t 5)⟩,
      ⟨none, (some 4), .mv (.t 23)⟩])
    .ret))))
theorem ok39 : FnOk Tryz.prog 39 24 2 c39 [.t 4] := ⟨_, _, Tryz.func39, rfl, rfl, by kernel_rfl, by kernel_rfl⟩
theorem bd39 : bodied Tryz.prog 39 = true := by kernel_rfl

/-- ferrule/ferruleref05.Rounds -/
def c40 : CI := (.seq (.reg [⟨none, (some 3), .box 0 true (.t 0)⟩,
      ⟨none, (some 4), .box 1 true (.t 1)⟩,
      ⟨none, (some 5), .box 2 true (.t 2)⟩,
      ⟨none, (some 6), .mv (.c .nils)⟩])
    (.seq (.reg [⟨none, (some 15), .faddr 7 (.t 3)⟩,
      ⟨none, (some 16), .load false 1 (.t 15)⟩,
      ⟨none, (some 17), .len (.t 16)⟩,
      ⟨none, (some 7), .mv (.t 17)⟩])
    (.seq (.reg [⟨none, (some 18), .mv (.t 7)⟩,
      ⟨none, (some 19), .mks 3 3 1 8 [(.int .i64 0)] (.t 18) (.t 18)⟩,
      ⟨none, (some 20), .mv (.t 7)⟩,
      ⟨none, (some 21), .mks 4 4 1 1 [(.bool false)] (.t 20) (.t 20)⟩,
      ⟨none, (some 22), .mv (.t 7)⟩,
      ⟨none, (some 23), .mks 5 3 1 8 [(.int .i64 0)] (.t 22) (.t 22)⟩,
      ⟨none, (some 8), .mv (.t 19)⟩,
      ⟨none, (some 9), .mv (.t 21)⟩,
      ⟨none, (some 10), .mv (.t 23)⟩])
    (.seq (.seq (.reg [⟨none, (some 11), .mv (.c (.int .i64 0))⟩])
    (.block 0 (.loop (.seq (.seq (.reg [⟨none, (some 24), .mv (.t 11)⟩,
      ⟨none, (some 25), .mv (.t 7)⟩,
      ⟨none, (some 26), .bin .lss (.t 24) (.t 25)⟩])
    (.cond (.t 26) .skip
    (.exit 0)))
    (.seq (.block 1 (.reg [⟨none, (some 29), .mv (.t 8)⟩,
      ⟨none, (some 30), .mv (.t 11)⟩,
      ⟨none, (some 31), .load true 9 (.t 3)⟩,
      ⟨none, (some 32), .load true 2 (.t 4)⟩,
      ⟨none, (some 33), .faddr 0 (.t 5)⟩,
      ⟨none, (some 34), .load false 1 (.t 33)⟩,
      ⟨none, (some 35), .mv (.t 11)⟩,
      ⟨none, (some 36), .call 36 [(.t 31), (.t 32), (.t 34), (.t 35)]⟩,
      ⟨none, (some 37), .iaddr 1 (.t 29) (.t 30)⟩,
      ⟨none, none, .store false 1 (.t 37) (.t 36) []⟩]))
    (.reg [⟨none, (some 27), .mv (.t 11)⟩,
      ⟨none, (some 28), .bin .add (.t 27) (.c (.int .i64 1))⟩,
      ⟨none, (some 11), .mv (.t 28)⟩]))))))
    (.seq (.seq (.reg [⟨none, (some 12), .mv (.c (.int .i64 1))⟩])
    (.block 2 (.loop (.seq (.seq (.reg [⟨none, (some 38), .mv (.t 12)⟩,
      ⟨none, (some 39), .mv (.t 7)⟩,
      ⟨none, (some 40), .bin .leq (.t 38) (.t 39)⟩])
    (.cond (.t 40) .skip
    (.exit 2)))
    (.seq (.block 3 (.seq (.reg [⟨none, (some 43), .bsl 6 4 1 [] []⟩,
      ⟨none, (some 44), .mv (.t 9)⟩,
      ⟨none, (some 45), .apd 7 4 1 1 (.t 43) (.t 44) []⟩,
      ⟨none, (some 13), .mv (.t 45)⟩])
    (.seq (.seq (.reg [⟨none, (some 14), .mv (.c (.int .i64 0))⟩])
    (.block 4 (.loop (.seq (.seq (.reg [⟨none, (some 46), .mv (.t 14)⟩,
      ⟨none, (some 47), .mv (.t 7)⟩,
      ⟨none, (some 48), .bin .lss (.t 46) (.t 47)⟩])
    (.cond (.t 48) .skip
    (.exit 4)))
    (.seq (.block 5 (.seq (.reg [⟨none, (some 51), .mv (.t 9)⟩,
      ⟨none, (some 52), .mv (.t 14)⟩,
      ⟨none, (some 53), .iaddr 1 (.t 51) (.t 52)⟩,
      ⟨none, (some 54), .load false 1 (.t 53)⟩,
      ⟨none, (some 55), .un .not (.t 54)⟩,
      ⟨none, (some 56), .mv (.t 55)⟩,
      ⟨(some (56, true)), (some 57), .mv (.t 8)⟩,
      ⟨(some (56, true)), (some 58), .mv (.t 14)⟩,
      ⟨(some (56, true)), (some 59), .iaddr 1 (.t 57) (.t 58)⟩,
      ⟨(some (56, true)), (some 60), .load false 1 (.t 59)⟩,
      ⟨(some (56, true)), (some 61), .mv (.t 8)⟩,
      ⟨(some (56, true)), (some 62), .mv (.t 9)⟩,
      ⟨(some (56, true)), (some 63), .mv (.t 14)⟩,
      ⟨(some (56, true)), (some 67), .mv (.t 8)⟩,
      ⟨(some (56, true)), (some 68), .mv (.t 9)⟩,
      ⟨(some (56, true)), (some 69), .mv (.t 14)⟩,
      ⟨(some (56, true)), (some 73), .faddr 1 (.t 5)⟩,
      ⟨(some (56, true)), (some 74), .load false 1 (.t 73)⟩,
      ⟨(some (56, true)), (some 75), .mv (.t 14)⟩,
      ⟨(some (56, true)), (some 76), .iaddr 1 (.t 74) (.t 75)⟩,
      ⟨(some (56, true)), (some 77), .load false 1 (.t 76)⟩,
      ⟨(some (56, true)), (some 64), .call 68 [(.t 61), (.t 62), (.t 63), (.c (.int .i64 (-1)))]⟩,
      ⟨(some (56, true)), (some 65), .bin .quo (.t 64) (.c (.int .i64 2))⟩,
      ⟨(some (56, true)), (some 66), .bin .add (.t 60) (.t 65)⟩,
      ⟨(some (56, true)), (some 70), .call 68 [(.t 67), (.t 68), (.t 69), (.c (.int .i64 1))]⟩,
      ⟨(some (56, true)), (some 71), .bin .quo (.t 70) (.c (.int .i64 2))⟩,
      ⟨(some (56, true)), (some 72), .bin .add (.t 66) (.t 71)⟩,
      ⟨(some (56, true)), (some 78), .bin .gtr (.t 72) (.t 77)⟩,
      ⟨none, (some 79), .pick (.t 56) (.t 78) (.c (.bool false))⟩])
    (.cond (.t 79) (.reg [⟨none, (some 80), .mv (.t 13)⟩,
      ⟨none, (some 81), .mv (.t 14)⟩,
      ⟨none, (some 82), .mv (.t 10)⟩,
      ⟨none, (some 83), .mv (.t 14)⟩,
      ⟨none, (some 84), .mv (.t 12)⟩,
      ⟨none, (some 85), .iaddr 1 (.t 80) (.t 81)⟩,
      ⟨none, none, .store false 1 (.t 85) (.c (.bool true)) []⟩,
      ⟨none, (some 86), .iaddr 1 (.t 82) (.t 83)⟩,
      ⟨none, none, .store false 1 (.t 86) (.t 84) []⟩])
    .skip)))
    (.reg [⟨none, (some 49), .mv (.t 14)⟩,
      ⟨none, (some 50), .bin .add (.t 49) (.c (.int .i64 1))⟩,
      ⟨none, (some 14), .mv (.t 50)⟩]))))))
    (.reg [⟨none, (some 87), .mv (.t 13)⟩,
      ⟨none, (some 9), .mv (.t 87)⟩]))))
    (.reg [⟨none, (some 41), .mv (.t 12)⟩,
      ⟨none, (some 42), .bin .add (.t 41) (.c (.int .i64 1))⟩,
      ⟨none, (some 12), .mv (.t 42)⟩]))))))
    (.seq (.reg [⟨none, (some 88), .mv (.t 10)⟩,
      ⟨none, (some 6), .mv (.t 88)⟩])
    .ret))))))
theorem ok40 : FnOk Tryz.prog 40 89 8 c40 [.t 6] := ⟨_, _, Tryz.func40, rfl, rfl, by kernel_rfl, by kernel_rfl⟩
theorem bd40 : bodied Tryz.prog 40 = true := by kernel_rfl

/-- (ferrule/gusts.truth).stands -/
def c41 : CI := (.seq (.reg [⟨none, (some 2), .box 0 true (.t 0)⟩,
      ⟨none, (some 4), .mv (.c (.bool false))⟩])
    (.seq (.reg [⟨none, (some 5), .mv (.t 1)⟩,
      ⟨none, (some 6), .mkfn 70 [(.t 2)]⟩,
      ⟨none, (some 7), .call 69 [(.t 5), (.t 6)]⟩,
      ⟨none, (some 4), .mv (.t 7)⟩])
    .ret))
theorem ok41 : FnOk Tryz.prog 41 8 1 c41 [.t 4] := ⟨_, _, Tryz.func41, rfl, rfl, by kernel_rfl, by kernel_rfl⟩
theorem bd41 : bodied Tryz.prog 41 = true := by kernel_rfl

/-- ferrule/ferruleref05.StandsIn -/
def c42 : CI := (.seq (.reg [⟨none, (some 3), .box 0 true (.t 0)⟩,
      ⟨none, (some 5), .box 1 true (.t 2)⟩,
      ⟨none, (some 6), .mv (.c (.bool false))⟩])
    (.seq (.seq (.reg [⟨none, (some 7), .mv (.c (.int .i64 0))⟩])
    (.block 0 (.loop (.seq (.seq (.reg [⟨none, (some 8), .mv (.t 7)⟩,
      ⟨none, (some 9), .mv (.t 1)⟩,
      ⟨none, (some 10), .len (.t 9)⟩,
      ⟨none, (some 11), .bin .lss (.t 8) (.t 10)⟩])
    (.cond (.t 11) .skip
    (.exit 0)))
    (.seq (.block 1 (.seq (.reg [⟨none, (some 14), .load true 9 (.t 3)⟩,
      ⟨none, (some 15), .mv (.t 1)⟩,
      ⟨none, (some 16), .mv (.t 7)⟩,
      ⟨none, (some 17), .iaddr 2 (.t 15) (.t 16)⟩,
      ⟨none, (some 18), .load true 2 (.t 17)⟩,
      ⟨none, (some 19), .load true 2 (.t 5)⟩,
      ⟨none, (some 21), .faddr 7 (.t 3)⟩,
      ⟨none, (some 22), .load false 1 (.t 21)⟩,
      ⟨none, (some 23), .len (.t 22)⟩,
      ⟨none, (some 20), .callz 2 1 40 [(.t 14), (.t 18), (.t 19)] []⟩,
      ⟨none, (some 24), .callz 3 1 39 [(.t 20), (.t 23)] []⟩,
      ⟨none, (some 25), .len (.t 24)⟩,
      ⟨none, (some 26), .bin .gtr (.t 25) (.c (.int .i64 0))⟩])
    (.cond (.t 26) (.seq (.reg [⟨none, (some 6), .mv (.c (.bool false))⟩])
    .ret)
    .skip)))
    (.reg [⟨none, (some 12), .mv (.t 7)⟩,
      ⟨none, (some 13), .bin .add (.t 12) (.c (.int .i64 1))⟩,
      ⟨none, (some 7), .mv (.t 13)⟩]))))))
    (.seq (.reg [⟨none, (some 6), .mv (.c (.bool true))⟩])
    .ret)))
theorem ok42 : FnOk Tryz.prog 42 27 4 c42 [.t 6] := ⟨_, _, Tryz.func42, rfl, rfl, by kernel_rfl, by kernel_rfl⟩
theorem bd42 : bodied Tryz.prog 42 = true := by kernel_rfl

/-- (ferrule/gusts.truth).tooWeak -/
def c43 : CI := (.seq (.reg [⟨none, (some 2), .box 0 true (.t 0)⟩,
      ⟨none, (some 3), .box 1 true (.t 1)⟩,
      ⟨none, (some 4), .mv (.c .nils)⟩])
    (.seq (.reg [⟨none, (some 5), .faddr 1 (.t 2)⟩,
      ⟨none, (some 6), .load false 1 (.t 5)⟩,
      ⟨none, (some 7), .len (.t 6)⟩,
      ⟨none, (some 8), .mkfn 71 [(.t 2), (.t 3)]⟩,
      ⟨none, (some 9), .callw 2 1 44 [(.t 7), (.t 8)]⟩,
      ⟨none, (some 4), .mv (.t 9)⟩])
    .ret))
theorem ok43 : FnOk Tryz.prog 43 10 3 c43 [.t 4] := ⟨_, _, Tryz.func43, rfl, rfl, by kernel_rfl, by kernel_rfl⟩
theorem bd43 : bodied Tryz.prog 43 = true := by kernel_rfl

/-- ferrule/gusts.ribsThat -/
def c44 : CI := (.seq (.reg [⟨none, (some 4), .mv (.c .nils)⟩])
    (.seq (.reg [⟨none, (some 5), .mv (.c .nils)⟩])
    (.seq (.seq (.reg [⟨none, (some 7), .mv (.t 0)⟩,
      ⟨none, (some 8), .mv (.c (.int .i64 0))⟩])
    (.block 0 (.loop (.seq (.reg [⟨none, (some 9), .bin .lss (.t 8) (.t 7)⟩])
    (.seq (.cond (.t 9) .skip
    (.exit 0))
    (.seq (.block 1 (.seq (.reg [⟨none, (some 10), .mv (.t 8)⟩,
      ⟨none, (some 6), .mv (.t 10)⟩])
    (.seq (.reg [⟨none, (some 11), .mv (.t 1)⟩,
      ⟨none, (some 12), .mv (.t 6)⟩,
      ⟨none, (some 13), .callx (.t 11) [(.t 12)]⟩])
    (.cond (.t 13) (.reg [⟨none, (some 14), .mv (.t 5)⟩,
      ⟨none, (some 15), .mv (.t 6)⟩,
      ⟨none, (some 16), .bsl 0 3 1 [(.t 15)] []⟩,
      ⟨none, (some 17), .apd 1 3 1 8 (.t 14) (.t 16) []⟩,
      ⟨none, (some 5), .mv (.t 17)⟩])
    .skip))))
    (.reg [⟨none, (some 18), .bin .add (.t 8) (.c (.int .i64 1))⟩,
      ⟨none, (some 8), .mv (.t 18)⟩])))))))
    (.seq (.reg [⟨none, (some 19), .mv (.t 5)⟩,
      ⟨none, (some 4), .mv (.t 19)⟩])
    .ret))))
theorem ok44 : FnOk Tryz.prog 44 20 2 c44 [.t 4] := ⟨_, _, Tryz.func44, rfl, rfl, by kernel_rfl, by kernel_rfl⟩
theorem bd44 : bodied Tryz.prog 44 = true := by kernel_rfl

/-- ferrule/gusts.Weak$1 -/
def c45 : CI := (.seq (.reg [⟨none, (some 3), .box 0 false (.t 0)⟩,
      ⟨none, (some 4), .mv (.c (.bool false))⟩])
    (.seq (.reg [⟨none, (some 5), .load false 1 (.t 1)⟩,
      ⟨none, (some 6), .mkfn 47 [(.t 2), (.t 3)]⟩,
      ⟨none, (some 7), .call 46 [(.t 5), (.t 6)]⟩,
      ⟨none, (some 4), .mv (.t 7)⟩])
    .ret))
theorem ok45 : FnOk Tryz.prog 45 8 1 c45 [.t 4] := ⟨_, _, Tryz.func45, rfl, rfl, by kernel_rfl, by kernel_rfl⟩
theorem bd45 : bodied Tryz.prog 45 = true := by kernel_rfl

/-- slices.ContainsFunc[[]ferrule/api.Gust,ferrule/api.Gust] -/
def c46 : CI := (.seq (.reg [⟨none, (some 4), .mv (.c (.bool false))⟩])
    (.seq (.reg [⟨none, (some 5), .mv (.t 0)⟩,
      ⟨none, (some 6), .mv (.t 1)⟩,
      ⟨none, (some 7), .call 72 [(.t 5), (.t 6)]⟩,
      ⟨none, (some 8), .bin .geq (.t 7) (.c (.int .i64 0))⟩,
      ⟨none, (some 4), .mv (.t 8)⟩])
    .ret))
theorem ok46 : FnOk Tryz.prog 46 9 0 c46 [.t 4] := ⟨_, _, Tryz.func46, rfl, rfl, by kernel_rfl, by kernel_rfl⟩
theorem bd46 : bodied Tryz.prog 46 = true := by kernel_rfl

/-- ferrule/gusts.Weak$1$1 -/
def c47 : CI := (.seq (.reg [⟨none, (some 3), .box 0 true (.t 0)⟩,
      ⟨none, (some 4), .mv (.c (.bool false))⟩])
    (.seq (.reg [⟨none, (some 5), .load true 3 (.t 1)⟩,
      ⟨none, (some 6), .load true 2 (.t 3)⟩,
      ⟨none, (some 7), .load false 1 (.t 2)⟩,
      ⟨none, (some 8), .call 48 [(.t 5), (.t 6), (.t 7)]⟩,
      ⟨none, (some 4), .mv (.t 8)⟩])
    .ret))
theorem ok47 : FnOk Tryz.prog 47 9 1 c47 [.t 4] := ⟨_, _, Tryz.func47, rfl, rfl, by kernel_rfl, by kernel_rfl⟩
theorem bd47 : bodied Tryz.prog 47 = true := by kernel_rfl

/-- (ferrule/gusts.truth).isTooWeak -/
def c48 : CI := (.seq (.reg [⟨none, (some 3), .box 0 true (.t 0)⟩,
      ⟨none, (some 4), .box 1 true (.t 1)⟩,
      ⟨none, (some 6), .mv (.c (.bool false))⟩])
    (.seq (.reg [⟨none, (some 7), .load true 3 (.t 3)⟩,
      ⟨none, (some 8), .load true 2 (.t 4)⟩,
      ⟨none, (some 9), .mv (.t 2)⟩,
      ⟨none, (some 11), .faddr 1 (.t 3)⟩,
      ⟨none, (some 12), .load false 1 (.t 11)⟩,
      ⟨none, (some 13), .mv (.t 2)⟩,
      ⟨none, (some 14), .iaddr 1 (.t 12) (.t 13)⟩,
      ⟨none, (some 15), .load false 1 (.t 14)⟩,
      ⟨none, (some 10), .call 34 [(.t 7), (.t 8), (.t 9)]⟩,
      ⟨none, (some 16), .bin .gtr (.t 10) (.t 15)⟩,
      ⟨none, (some 6), .mv (.t 16)⟩])
    .ret))
theorem ok48 : FnOk Tryz.prog 48 17 2 c48 [.t 6] := ⟨_, _, Tryz.func48, rfl, rfl, by kernel_rfl, by kernel_rfl⟩
theorem bd48 : bodied Tryz.prog 48 = true := by kernel_rfl

/-- ferrule/ferrulelaw01.Example -/
def c49 : CI := (.seq (.reg [⟨none, (some 0), .alloc 0 [.nils, (.int .i64 0), (.int .i64 0), (.int .i64 0), (.int .i64 0), (.int .i64 0), (.int .i64 0)]⟩])
    (.seq (.reg [⟨none, (some 1), .build [(.int .i64 0), (.int .i64 0)] [(0, 1, (.c (.int .i64 50))), (1, 1, (.c (.int .i64 52)))]⟩,
      ⟨none, (some 2), .build [(.int .i64 0), (.int .i64 0)] [(0, 1, (.c (.int .i64 60))), (1, 1, (.c (.int .i64 60)))]⟩,
      ⟨none, (some 3), .build [(.int .i64 0), (.int .i64 0)] [(0, 1, (.c (.int .i64 1))), (1, 1, (.c (.int .i64 1)))]⟩,
      ⟨none, (some 4), .build [(.int .i64 0), (.int .i64 0), (.int .i64 0), (.int .i64 0), (.int .i64 0), (.int .i64 0), (.int .i64 0)] [(0, 2, (.t 1)), (2, 2, (.t 2)), (5, 2, (.t 3))]⟩,
      ⟨none, (some 5), .build [(.int .i64 0), (.int .i64 0)] [(0, 1, (.c (.int .i64 40))), (1, 1, (.c (.int .i64 40)))]⟩,
      ⟨none, (some 6), .build [(.int .i64 0), (.int .i64 0)] [(0, 1, (.c (.int .i64 45))), (1, 1, (.c (.int .i64 46)))]⟩,
      ⟨none, (some 7), .build [(.int .i64 0), (.int .i64 0)] [(0, 1, (.c (.int .i64 1))), (1, 1, (.c (.int .i64 2)))]⟩,
      ⟨none, (some 8), .build [(.int .i64 0), (.int .i64 0), (.int .i64 0), (.int .i64 0), (.int .i64 0), (.int .i64 0), (.int .i64 0)] [(0, 2, (.t 5)), (2, 2, (.t 6)), (4, 1, (.c (.int .i64 5))), (5, 2, (.t 7))]⟩,
      ⟨none, (some 9), .bsl 1 90 7 [(.t 4), (.t 8)] []⟩,
      ⟨none, (some 10), .build [(.int .i64 0), (.int .i64 0)] [(0, 1, (.c (.int .i64 1))), (1, 1, (.c (.int .i64 20)))]⟩,
      ⟨none, (some 11), .build [.nils, (.int .i64 0), (.int .i64 0), (.int .i64 0), (.int .i64 0), (.int .i64 0), (.int .i64 0)] [(0, 1, (.t 9)), (1, 1, (.c (.int .i64 20))), (2, 1, (.c (.int .i64 100))), (3, 2, (.t 10)), (5, 1, (.c (.int .i64 300))), (6, 1, (.c (.int .i64 351)))]⟩,
      ⟨none, none, .stz true 7 (.t 0) (.t 11) []⟩])
    .ret))
theorem ok49 : FnOk Tryz.prog 49 12 2 c49 [.cell 0 true 7] := ⟨_, _, Tryz.func49, rfl, rfl, by kernel_rfl, by kernel_rfl⟩
theorem bd49 : bodied Tryz.prog 49 = true := by kernel_rfl

/-- ferrule/frames.Check -/
def c50 : CI := (.seq (.reg [⟨none, (some 1), .box 0 true (.t 0)⟩,
      ⟨none, (some 2), .mv (.c (.int .i64 0))⟩])
    (.seq (.seq (.reg [⟨none, (some 3), .load true 7 (.t 1)⟩,
      ⟨none, (some 4), .call 73 [(.t 3)]⟩,
      ⟨none, (some 5), .un .not (.t 4)⟩])
    (.cond (.t 5) (.seq (.reg [⟨none, (some 2), .mv (.c (.int .i64 10))⟩])
    .ret)
    .skip))
    (.seq (.reg [⟨none, (some 2), .mv (.c (.int .i64 0))⟩])
    .ret)))
theorem ok50 : FnOk Tryz.prog 50 6 1 c50 [.t 2] := ⟨_, _, Tryz.func50, rfl, rfl, by kernel_rfl, by kernel_rfl⟩
theorem bd50 : bodied Tryz.prog 50 = true := by kernel_rfl

/-- ferrule/gusts.within -/
def c51 : CI := (.seq (.reg [⟨none, (some 6), .mv (.c (.bool false))⟩])
    (.seq (.reg [⟨none, (some 7), .mv (.t 1)⟩,
      ⟨none, (some 8), .mv (.t 0)⟩,
      ⟨none, (some 9), .bin .leq (.t 7) (.t 8)⟩,
      ⟨none, (some 10), .mv (.t 9)⟩,
      ⟨(some (10, true)), (some 11), .mv (.t 0)⟩,
      ⟨(some (10, true)), (some 12), .mv (.t 2)⟩,
      ⟨(some (10, true)), (some 13), .bin .leq (.t 11) (.t 12)⟩,
      ⟨none, (some 14), .pick (.t 10) (.t 13) (.c (.bool false))⟩,
      ⟨none, (some 6), .mv (.t 14)⟩])
    .ret))
theorem ok51 : FnOk Tryz.prog 51 15 0 c51 [.t 6] := ⟨_, _, Tryz.func51, rfl, rfl, by kernel_rfl, by kernel_rfl⟩
theorem bd51 : bodied Tryz.prog 51 = true := by kernel_rfl

/-- ferrule/gusts.each[ferrule/api.Span] -/
def c52 : CI := (.seq (.reg [⟨none, (some 4), .mv (.c (.bool false))⟩])
    (.seq (.seq (.reg [⟨none, (some 7), .mv (.t 0)⟩,
      ⟨none, (some 8), .len (.t 7)⟩,
      ⟨none, (some 9), .mv (.c (.int .i64 0))⟩])
    (.block 0 (.loop (.seq (.reg [⟨none, (some 10), .bin .lss (.t 9) (.t 8)⟩])
    (.seq (.cond (.t 10) .skip
    (.exit 0))
    (.seq (.block 1 (.seq (.reg [⟨none, (some 11), .iaddr 2 (.t 7) (.t 9)⟩,
      ⟨none, (some 12), .load true 2 (.t 11)⟩,
      ⟨none, (some 6), .alloc 0 [(.int .i64 0), (.int .i64 0)]⟩,
      ⟨none, none, .store true 2 (.t 6) (.t 12) []⟩])
    (.seq (.reg [⟨none, (some 13), .mv (.t 1)⟩,
      ⟨none, (some 14), .load true 2 (.t 6)⟩,
      ⟨none, (some 15), .callx (.t 13) [(.t 14)]⟩,
      ⟨none, (some 16), .un .not (.t 15)⟩])
    (.cond (.t 16) (.seq (.reg [⟨none, (some 4), .mv (.c (.bool false))⟩])
    .ret)
    .skip))))
    (.reg [⟨none, (some 17), .bin .add (.t 9) (.c (.int .i64 1))⟩,
      ⟨none, (some 9), .mv (.t 17)⟩])))))))
    (.seq (.reg [⟨none, (some 4), .mv (.c (.bool true))⟩])
    .ret)))
theorem ok52 : FnOk Tryz.prog 52 18 1 c52 [.t 4] := ⟨_, _, Tryz.func52, rfl, rfl, by kernel_rfl, by kernel_rfl⟩
theorem bd52 : bodied Tryz.prog 52 = true := by kernel_rfl

/-- ferrule/gusts.validStrength -/
def c53 : CI := (.seq (.reg [⟨none, (some 1), .box 0 true (.t 0)⟩,
      ⟨none, (some 2), .mv (.c (.bool false))⟩])
    (.seq (.reg [⟨none, (some 3), .faddr 0 (.t 1)⟩,
      ⟨none, (some 4), .load false 1 (.t 3)⟩,
      ⟨none, (some 5), .faddr 1 (.t 1)⟩,
      ⟨none, (some 6), .load false 1 (.t 5)⟩,
      ⟨none, (some 7), .call 51 [(.t 4), (.c (.int .i64 0)), (.t 6)]⟩,
      ⟨none, (some 8), .mv (.t 7)⟩,
      ⟨(some (8, true)), (some 9), .faddr 1 (.t 1)⟩,
      ⟨(some (8, true)), (some 10), .load false 1 (.t 9)⟩,
      ⟨(some (8, true)), (some 11), .bin .leq (.t 10) (.c (.int .i64 99999))⟩,
      ⟨none, (some 12), .pick (.t 8) (.t 11) (.c (.bool false))⟩,
      ⟨none, (some 2), .mv (.t 12)⟩])
    .ret))
theorem ok53 : FnOk Tryz.prog 53 13 1 c53 [.t 2] := ⟨_, _, Tryz.func53, rfl, rfl, by kernel_rfl, by kernel_rfl⟩
theorem bd53 : bodied Tryz.prog 53 = true := by kernel_rfl

/-- ferrule/gusts.each[int] -/
def c54 : CI := (.seq (.reg [⟨none, (some 4), .mv (.c (.bool false))⟩])
    (.seq (.seq (.reg [⟨none, (some 7), .mv (.t 0)⟩,
      ⟨none, (some 8), .len (.t 7)⟩,
      ⟨none, (some 9), .mv (.c (.int .i64 0))⟩])
    (.block 0 (.loop (.seq (.reg [⟨none, (some 10), .bin .lss (.t 9) (.t 8)⟩])
    (.seq (.cond (.t 10) .skip
    (.exit 0))
    (.seq (.block 1 (.seq (.reg [⟨none, (some 11), .iaddr 1 (.t 7) (.t 9)⟩,
      ⟨none, (some 12), .load false 1 (.t 11)⟩,
      ⟨none, (some 6), .mv (.t 12)⟩])
    (.seq (.reg [⟨none, (some 13), .mv (.t 1)⟩,
      ⟨none, (some 14), .mv (.t 6)⟩,
      ⟨none, (some 15), .callx (.t 13) [(.t 14)]⟩,
      ⟨none, (some 16), .un .not (.t 15)⟩])
    (.cond (.t 16) (.seq (.reg [⟨none, (some 4), .mv (.c (.bool false))⟩])
    .ret)
    .skip))))
    (.reg [⟨none, (some 17), .bin .add (.t 9) (.c (.int .i64 1))⟩,
      ⟨none, (some 9), .mv (.t 17)⟩])))))))
    (.seq (.reg [⟨none, (some 4), .mv (.c (.bool true))⟩])
    .ret)))
theorem ok54 : FnOk Tryz.prog 54 18 0 c54 [.t 4] := ⟨_, _, Tryz.func54, rfl, rfl, by kernel_rfl, by kernel_rfl⟩
theorem bd54 : bodied Tryz.prog 54 = true := by kernel_rfl

/-- ferrule/gusts.validDome$1 -/
def c55 : CI := (.seq (.reg [⟨none, (some 2), .mv (.c (.bool false))⟩])
    (.seq (.reg [⟨none, (some 3), .mv (.t 0)⟩,
      ⟨none, (some 4), .call 51 [(.t 3), (.c (.int .i64 0)), (.c (.int .i64 99))]⟩,
      ⟨none, (some 2), .mv (.t 4)⟩])
    .ret))
theorem ok55 : FnOk Tryz.prog 55 5 0 c55 [.t 2] := ⟨_, _, Tryz.func55, rfl, rfl, by kernel_rfl, by kernel_rfl⟩
theorem bd55 : bodied Tryz.prog 55 = true := by kernel_rfl

/-- ferrule/ferruleref01.isLong -/
def c56 : CI := (.seq (.reg [⟨none, (some 1), .box 0 true (.t 0)⟩,
      ⟨none, (some 2), .mv (.c (.bool false))⟩])
    (.seq (.reg [⟨none, (some 3), .faddr 0 (.t 1)⟩,
      ⟨none, (some 4), .load false 1 (.t 3)⟩,
      ⟨none, (some 5), .faddr 1 (.t 1)⟩,
      ⟨none, (some 6), .load false 1 (.t 5)⟩,
      ⟨none, (some 7), .call 57 [(.t 4), (.c (.int .i64 1)), (.t 6)]⟩,
      ⟨none, (some 8), .mv (.t 7)⟩,
      ⟨(some (8, true)), (some 9), .faddr 1 (.t 1)⟩,
      ⟨(some (8, true)), (some 10), .load false 1 (.t 9)⟩,
      ⟨(some (8, true)), (some 11), .bin .leq (.t 10) (.c (.int .i64 2000))⟩,
      ⟨none, (some 12), .pick (.t 8) (.t 11) (.c (.bool false))⟩,
      ⟨none, (some 13), .mv (.t 12)⟩,
      ⟨(some (13, true)), (some 14), .faddr 1 (.t 1)⟩,
      ⟨(some (13, true)), (some 15), .load false 1 (.t 14)⟩,
      ⟨(some (13, true)), (some 16), .faddr 0 (.t 1)⟩,
      ⟨(some (13, true)), (some 17), .load false 1 (.t 16)⟩,
      ⟨(some (13, true)), (some 18), .bin .sub (.t 15) (.t 17)⟩,
      ⟨(some (13, true)), (some 19), .bin .leq (.t 18) (.c (.int .i64 6))⟩,
      ⟨none, (some 20), .pick (.t 13) (.t 19) (.c (.bool false))⟩,
      ⟨none, (some 2), .mv (.t 20)⟩])
    .ret))
theorem ok56 : FnOk Tryz.prog 56 21 1 c56 [.t 2] := ⟨_, _, Tryz.func56, rfl, rfl, by kernel_rfl, by kernel_rfl⟩
theorem bd56 : bodied Tryz.prog 56 = true := by kernel_rfl

/-- ferrule/ferruleref01.Within -/
def c57 : CI := (.seq (.reg [⟨none, (some 6), .mv (.c (.bool false))⟩])
    (.seq (.reg [⟨none, (some 7), .mv (.t 0)⟩,
      ⟨none, (some 8), .mv (.t 1)⟩,
      ⟨none, (some 9), .bin .geq (.t 7) (.t 8)⟩,
      ⟨none, (some 10), .mv (.t 9)⟩,
      ⟨(some (10, true)), (some 11), .mv (.t 0)⟩,
      ⟨(some (10, true)), (some 12), .mv (.t 2)⟩,
      ⟨(some (10, true)), (some 13), .bin .leq (.t 11) (.t 12)⟩,
      ⟨none, (some 14), .pick (.t 10) (.t 13) (.c (.bool false))⟩,
      ⟨none, (some 6), .mv (.t 14)⟩])
    .ret))
theorem ok57 : FnOk Tryz.prog 57 15 0 c57 [.t 6] := ⟨_, _, Tryz.func57, rfl, rfl, by kernel_rfl, by kernel_rfl⟩
theorem bd57 : bodied Tryz.prog 57 = true := by kernel_rfl

/-- ferrule/ferruleref01.isShare -/
def c58 : CI := (.seq (.reg [⟨none, (some 1), .box 0 true (.t 0)⟩,
      ⟨none, (some 2), .mv (.c (.bool false))⟩])
    (.seq (.reg [⟨none, (some 3), .faddr 1 (.t 1)⟩,
      ⟨none, (some 4), .load false 1 (.t 3)⟩,
      ⟨none, (some 5), .call 57 [(.t 4), (.c (.int .i64 1)), (.c (.int .i64 20))]⟩,
      ⟨none, (some 6), .mv (.t 5)⟩,
      ⟨(some (6, true)), (some 7), .faddr 0 (.t 1)⟩,
      ⟨(some (6, true)), (some 8), .load false 1 (.t 7)⟩,
      ⟨(some (6, true)), (some 9), .faddr 1 (.t 1)⟩,
      ⟨(some (6, true)), (some 10), .load false 1 (.t 9)⟩,
      ⟨(some (6, true)), (some 11), .call 57 [(.t 8), (.c (.int .i64 0)), (.t 10)]⟩,
      ⟨none, (some 12), .pick (.t 6) (.t 11) (.c (.bool false))⟩,
      ⟨none, (some 2), .mv (.t 12)⟩])
    .ret))
theorem ok58 : FnOk Tryz.prog 58 13 1 c58 [.t 2] := ⟨_, _, Tryz.func58, rfl, rfl, by kernel_rfl, by kernel_rfl⟩
theorem bd58 : bodied Tryz.prog 58 = true := by kernel_rfl

/-- ferrule/frames.Cosine -/
def c59 : CI := (.seq (.reg [⟨none, (some 3), .box 0 true (.t 0)⟩,
      ⟨none, (some 6), .alloc 1 [(.int .i64 0), (.int .i64 0)]⟩,
      ⟨none, (some 7), .alloc 2 [(.int .i64 0), (.int .i64 0)]⟩,
      ⟨none, (some 8), .mv (.c (.int .i64 0))⟩])
    (.seq (.seq (.reg [⟨none, (some 11), .load true 7 (.t 3)⟩,
      ⟨none, (some 12), .mv (.t 1)⟩,
      ⟨none, (some 13), .mv (.t 2)⟩,
      ⟨none, (some 14), .call 74 [(.t 11), (.t 12), (.t 13)]⟩,
      ⟨none, (some 9), .mv (.t 14)⟩])
    (.seq (.reg [⟨none, (some 15), .mv (.t 9)⟩,
      ⟨none, (some 16), .bin .neq (.t 15) (.c (.int .i64 0))⟩])
    (.cond (.t 16) (.seq (.reg [⟨none, (some 17), .build [(.int .i64 0), (.int .i64 0)] []⟩,
      ⟨none, (some 18), .build [(.int .i64 0), (.int .i64 0)] []⟩,
      ⟨none, (some 19), .mv (.t 9)⟩,
      ⟨none, none, .store true 2 (.t 6) (.t 17) []⟩,
      ⟨none, none, .store true 2 (.t 7) (.t 18) []⟩,
      ⟨none, (some 8), .mv (.t 19)⟩])
    .ret)
    .skip)))
    (.seq (.reg [⟨none, (some 20), .load true 7 (.t 3)⟩,
      ⟨none, (some 21), .mv (.t 1)⟩,
      ⟨none, (some 22), .mv (.t 2)⟩,
      ⟨none, (some 23), .call 75 [(.t 20), (.t 21), (.t 22)]⟩,
      ⟨none, (some 10), .mv (.t 23)⟩])
    (.seq (.seq (.reg [⟨none, (some 24), .mv (.t 10)⟩,
      ⟨none, (some 25), .bin .eql (.t 24) (.c (.int .i64 0))⟩])
    (.cond (.t 25) (.seq (.reg [⟨none, (some 26), .build [(.int .i64 0), (.int .i64 0)] []⟩,
      ⟨none, (some 27), .build [(.int .i64 0), (.int .i64 0)] []⟩,
      ⟨none, none, .store true 2 (.t 6) (.t 26) []⟩,
      ⟨none, none, .store true 2 (.t 7) (.t 27) []⟩,
      ⟨none, (some 8), .mv (.c (.int .i64 3))⟩])
    .ret)
    .skip))
    (.seq (.reg [⟨none, (some 29), .faddr 0 (.t 3)⟩,
      ⟨none, (some 30), .load false 1 (.t 29)⟩,
      ⟨none, (some 31), .mv (.t 1)⟩,
      ⟨none, (some 32), .iaddr 7 (.t 30) (.t 31)⟩,
      ⟨none, (some 33), .load true 7 (.t 32)⟩,
      ⟨none, (some 34), .mv (.t 10)⟩,
      ⟨none, (some 35), .call 76 [(.t 33), (.t 34)]⟩,
      ⟨none, (some 28), .mv (.t 35)⟩,
      ⟨none, (some 36), .extract 0 (.t 28)⟩,
      ⟨none, (some 37), .extract 1 (.t 28)⟩,
      ⟨none, none, .store true 2 (.t 6) (.t 36) []⟩,
      ⟨none, none, .store true 2 (.t 7) (.t 37) []⟩])
    (.seq (.reg [⟨none, (some 38), .load true 2 (.t 6)⟩,
      ⟨none, (some 40), .load true 2 (.t 7)⟩,
      ⟨none, (some 39), .call 77 [(.t 38)]⟩,
      ⟨none, (some 41), .call 77 [(.t 40)]⟩,
      ⟨none, none, .store true 2 (.t 6) (.t 39) []⟩,
      ⟨none, none, .store true 2 (.t 7) (.t 41) []⟩,
      ⟨none, (some 8), .mv (.c (.int .i64 0))⟩])
    .ret))))))
theorem ok59 : FnOk Tryz.prog 59 42 3 c59 [.cell 6 true 2, .cell 7 true 2, .t 8] := ⟨_, _, Tryz.func59, rfl, rfl, by kernel_rfl, by kernel_rfl⟩
theorem bd59 : bodied Tryz.prog 59 = true := by kernel_rfl

/-- ferrule/gusts.liftOf -/
def c60 : CI := (.seq (.reg [⟨none, (some 1), .box 0 true (.t 0)⟩,
      ⟨none, (some 2), .mv (.c (.int .i64 0))⟩])
    (.seq (.reg [⟨none, (some 4), .faddr 1 (.t 1)⟩,
      ⟨none, (some 5), .load false 1 (.t 4)⟩,
      ⟨none, (some 6), .faddr 0 (.t 1)⟩,
      ⟨none, (some 7), .load false 1 (.t 6)⟩,
      ⟨none, (some 8), .bin .add (.t 5) (.t 7)⟩,
      ⟨none, (some 9), .bin .mul (.c (.int .i64 100)) (.t 8)⟩,
      ⟨none, (some 10), .mm true [(.c (.int .i64 0)), (.t 9)]⟩,
      ⟨none, (some 11), .faddr 1 (.t 1)⟩,
      ⟨none, (some 12), .load false 1 (.t 11)⟩,
      ⟨none, (some 13), .bin .quo (.t 10) (.t 12)⟩,
      ⟨none, (some 3), .mv (.t 13)⟩])
    (.seq (.reg [⟨none, (some 14), .mv (.t 3)⟩,
      ⟨none, (some 15), .mm false [(.t 14), (.c (.int .i64 200))]⟩,
      ⟨none, (some 2), .mv (.t 15)⟩])
    .ret)))
theorem ok60 : FnOk Tryz.prog 60 16 1 c60 [.t 2] := ⟨_, _, Tryz.func60, rfl, rfl, by kernel_rfl, by kernel_rfl⟩
theorem bd60 : bodied Tryz.prog 60 = true := by kernel_rfl

/-- ferrule/ferruleref01.Pairs -/
def c61 : CI := (.seq (.reg [⟨none, (some 2), .box 0 true (.t 0)⟩,
      ⟨none, (some 4), .mv (.c .nils)⟩])
    (.seq (.reg [⟨none, (some 9), .faddr 0 (.t 2)⟩,
      ⟨none, (some 10), .load false 1 (.t 9)⟩,
      ⟨none, (some 11), .mv (.t 1)⟩,
      ⟨none, (some 12), .iaddr 7 (.t 10) (.t 11)⟩,
      ⟨none, (some 13), .load true 7 (.t 12)⟩,
      ⟨none, (some 5), .alloc 1 [(.int .i64 0), (.int .i64 0), (.int .i64 0), (.int .i64 0), (.int .i64 0), (.int .i64 0), (.int .i64 0)]⟩,
      ⟨none, none, .store true 7 (.t 5) (.t 13) []⟩])
    (.seq (.reg [⟨none, (some 6), .mv (.c .nils)⟩])
    (.seq (.seq (.reg [⟨none, (some 14), .faddr 0 (.t 5)⟩,
      ⟨none, (some 15), .faddr 0 (.t 14)⟩,
      ⟨none, (some 16), .load false 1 (.t 15)⟩,
      ⟨none, (some 7), .mv (.t 16)⟩])
    (.block 0 (.loop (.seq (.seq (.reg [⟨none, (some 17), .mv (.t 7)⟩,
      ⟨none, (some 18), .faddr 0 (.t 5)⟩,
      ⟨none, (some 19), .faddr 1 (.t 18)⟩,
      ⟨none, (some 20), .load false 1 (.t 19)⟩,
      ⟨none, (some 21), .bin .leq (.t 17) (.t 20)⟩])
    (.cond (.t 21) .skip
    (.exit 0)))
    (.seq (.block 1 (.seq (.reg [⟨none, (some 24), .faddr 2 (.t 5)⟩,
      ⟨none, (some 25), .faddr 0 (.t 24)⟩,
      ⟨none, (some 26), .load false 1 (.t 25)⟩,
      ⟨none, (some 8), .mv (.t 26)⟩])
    (.block 2 (.loop (.seq (.seq (.reg [⟨none, (some 27), .mv (.t 8)⟩,
      ⟨none, (some 28), .faddr 2 (.t 5)⟩,
      ⟨none, (some 29), .faddr 1 (.t 28)⟩,
      ⟨none, (some 30), .load false 1 (.t 29)⟩,
      ⟨none, (some 31), .bin .leq (.t 27) (.t 30)⟩])
    (.cond (.t 31) .skip
    (.exit 2)))
    (.seq (.block 3 (.reg [⟨none, (some 34), .mv (.t 6)⟩,
      ⟨none, (some 35), .mv (.t 7)⟩,
      ⟨none, (some 36), .mv (.t 8)⟩,
      ⟨none, (some 37), .build [(.int .i64 0), (.int .i64 0)] [(0, 1, (.t 35)), (1, 1, (.t 36))]⟩,
      ⟨none, (some 38), .bsl 2 99 2 [(.t 37)] []⟩,
      ⟨none, (some 39), .apd 3 99 2 16 (.t 34) (.t 38) []⟩,
      ⟨none, (some 6), .mv (.t 39)⟩]))
    (.reg [⟨none, (some 32), .mv (.t 8)⟩,
      ⟨none, (some 33), .bin .add (.t 32) (.c (.int .i64 1))⟩,
      ⟨none, (some 8), .mv (.t 33)⟩])))))))
    (.reg [⟨none, (some 22), .mv (.t 7)⟩,
      ⟨none, (some 23), .bin .add (.t 22) (.c (.int .i64 1))⟩,
      ⟨none, (some 7), .mv (.t 23)⟩]))))))
    (.seq (.reg [⟨none, (some 40), .mv (.t 6)⟩,
      ⟨none, (some 4), .mv (.t 40)⟩])
    .ret)))))
theorem ok61 : FnOk Tryz.prog 61 41 4 c61 [.t 4] := ⟨_, _, Tryz.func61, rfl, rfl, by kernel_rfl, by kernel_rfl⟩
theorem bd61 : bodied Tryz.prog 61 = true := by kernel_rfl

/-- ferrule/ferruleref05.LiftOf -/
def c62 : CI := (.seq (.reg [⟨none, (some 2), .box 0 true (.t 0)⟩,
      ⟨none, (some 3), .box 1 true (.t 1)⟩,
      ⟨none, (some 4), .mv (.c (.int .i64 0))⟩])
    (.seq (.reg [⟨none, (some 10), .faddr 0 (.t 2)⟩,
      ⟨none, (some 11), .faddr 1 (.t 10)⟩,
      ⟨none, (some 12), .load false 1 (.t 11)⟩,
      ⟨none, (some 13), .load true 2 (.t 3)⟩,
      ⟨none, (some 14), .call 78 [(.t 12), (.t 13)]⟩,
      ⟨none, (some 9), .mv (.t 14)⟩,
      ⟨none, (some 15), .extract 0 (.t 9)⟩,
      ⟨none, (some 16), .extract 1 (.t 9)⟩,
      ⟨none, (some 5), .alloc 2 [(.int .i64 0), (.int .i64 0)]⟩,
      ⟨none, none, .store true 2 (.t 5) (.t 15) []⟩,
      ⟨none, (some 6), .mv (.t 16)⟩])
    (.seq (.reg [⟨none, (some 17), .faddr 0 (.t 5)⟩,
      ⟨none, (some 18), .load false 1 (.t 17)⟩,
      ⟨none, (some 19), .bin .mul (.c (.int .i64 100)) (.t 18)⟩,
      ⟨none, (some 7), .mv (.t 19)⟩])
    (.seq (.reg [⟨none, (some 20), .mv (.t 7)⟩,
      ⟨none, (some 21), .faddr 1 (.t 5)⟩,
      ⟨none, (some 22), .load false 1 (.t 21)⟩,
      ⟨none, (some 23), .bin .quo (.t 20) (.t 22)⟩,
      ⟨none, (some 8), .mv (.t 23)⟩])
    (.seq (.seq (.reg [⟨none, (some 24), .mv (.t 7)⟩,
      ⟨none, (some 25), .faddr 1 (.t 5)⟩,
      ⟨none, (some 26), .load false 1 (.t 25)⟩,
      ⟨none, (some 27), .bin .rem (.t 24) (.t 26)⟩,
      ⟨none, (some 28), .bin .lss (.t 27) (.c (.int .i64 0))⟩])
    (.cond (.t 28) (.reg [⟨none, (some 29), .mv (.t 8)⟩,
      ⟨none, (some 30), .bin .sub (.t 29) (.c (.int .i64 1))⟩,
      ⟨none, (some 8), .mv (.t 30)⟩])
    .skip))
    (.seq (.reg [⟨none, (some 31), .mv (.t 8)⟩,
      ⟨none, (some 32), .bin .add (.c (.int .i64 100)) (.t 31)⟩,
      ⟨none, (some 33), .mm true [(.c (.int .i64 0)), (.t 32)]⟩,
      ⟨none, (some 34), .mm false [(.c (.int .i64 200)), (.t 33)]⟩,
      ⟨none, (some 4), .mv (.t 34)⟩])
    .ret))))))
theorem ok62 : FnOk Tryz.prog 62 35 3 c62 [.t 4] := ⟨_, _, Tryz.func62, rfl, rfl, by kernel_rfl, by kernel_rfl⟩
theorem bd62 : bodied Tryz.prog 62 = true := by kernel_rfl

/-- ferrule/gusts.checkGusts -/
def c63 : CI := (.seq (.reg [⟨none, (some 2), .box 0 true (.t 0)⟩,
      ⟨none, (some 4), .mv (.c (.int .i64 0))⟩])
    (.seq (.seq (.reg [⟨none, (some 7), .load true 9 (.t 2)⟩,
      ⟨none, (some 8), .call 8 [(.t 7)]⟩,
      ⟨none, (some 5), .mv (.t 8)⟩])
    (.seq (.reg [⟨none, (some 9), .mv (.t 5)⟩,
      ⟨none, (some 10), .bin .neq (.t 9) (.c (.int .i64 0))⟩])
    (.cond (.t 10) (.seq (.reg [⟨none, (some 11), .mv (.t 5)⟩,
      ⟨none, (some 4), .mv (.t 11)⟩])
    .ret)
    .skip)))
    (.seq (.reg [⟨none, (some 12), .mkfn 79 [(.t 2)]⟩,
      ⟨none, (some 6), .mv (.t 12)⟩])
    (.seq (.seq (.reg [⟨none, (some 13), .mv (.t 1)⟩,
      ⟨none, (some 14), .len (.t 13)⟩,
      ⟨none, (some 15), .bin .gtr (.t 14) (.c (.int .i64 20))⟩,
      ⟨none, (some 16), .mv (.t 15)⟩,
      ⟨(some (16, false)), (some 17), .mv (.t 1)⟩,
      ⟨(some (16, false)), (some 18), .mv (.t 6)⟩,
      ⟨(some (16, false)), (some 19), .call 69 [(.t 17), (.t 18)]⟩,
      ⟨(some (16, false)), (some 20), .un .not (.t 19)⟩,
      ⟨none, (some 21), .pick (.t 16) (.c (.bool true)) (.t 20)⟩])
    (.cond (.t 21) (.seq (.reg [⟨none, (some 4), .mv (.c (.int .i64 1))⟩])
    .ret)
    .skip))
    (.seq (.reg [⟨none, (some 4), .mv (.c (.int .i64 0))⟩])
    .ret)))))
theorem ok63 : FnOk Tryz.prog 63 22 1 c63 [.t 4] := ⟨_, _, Tryz.func63, rfl, rfl, by kernel_rfl, by kernel_rfl⟩
theorem bd63 : bodied Tryz.prog 63 = true := by kernel_rfl

/-- (ferrule/gusts.truth).around -/
def c64 : CI := (.seq (.reg [⟨none, (some 2), .box 0 true (.t 0)⟩,
      ⟨none, (some 4), .mv (.c (.int .i64 0))⟩])
    (.seq (.reg [⟨none, (some 6), .faddr 1 (.t 2)⟩,
      ⟨none, (some 7), .load false 1 (.t 6)⟩,
      ⟨none, (some 8), .len (.t 7)⟩,
      ⟨none, (some 5), .mv (.t 8)⟩])
    (.seq (.reg [⟨none, (some 9), .mv (.t 1)⟩,
      ⟨none, (some 10), .mv (.t 5)⟩,
      ⟨none, (some 11), .bin .add (.t 9) (.t 10)⟩,
      ⟨none, (some 12), .mv (.t 5)⟩,
      ⟨none, (some 13), .bin .rem (.t 11) (.t 12)⟩,
      ⟨none, (some 4), .mv (.t 13)⟩])
    .ret)))
theorem ok64 : FnOk Tryz.prog 64 14 1 c64 [.t 4] := ⟨_, _, Tryz.func64, rfl, rfl, by kernel_rfl, by kernel_rfl⟩
theorem bd64 : bodied Tryz.prog 64 = true := by kernel_rfl

/-- ferrule/ferruleref05.IsClass -/
def c65 : CI := (.seq (.reg [⟨none, (some 2), .box 0 true (.t 0)⟩,
      ⟨none, (some 4), .mv (.c (.bool false))⟩])
    (.seq (.seq (.reg [⟨none, (some 5), .mv (.c (.int .i64 0))⟩])
    (.block 0 (.loop (.seq (.seq (.reg [⟨none, (some 6), .mv (.t 5)⟩,
      ⟨none, (some 7), .mv (.t 1)⟩,
      ⟨none, (some 8), .len (.t 7)⟩,
      ⟨none, (some 9), .bin .lss (.t 6) (.t 8)⟩])
    (.cond (.t 9) .skip
    (.exit 0)))
    (.seq (.block 1 (.seq (.reg [⟨none, (some 12), .mv (.t 1)⟩,
      ⟨none, (some 13), .mv (.t 5)⟩,
      ⟨none, (some 14), .iaddr 2 (.t 12) (.t 13)⟩,
      ⟨none, (some 15), .faddr 0 (.t 14)⟩,
      ⟨none, (some 16), .load false 1 (.t 15)⟩,
      ⟨none, (some 17), .call 30 [(.t 16), (.c (.int .i64 0)), (.c (.int .i64 99))]⟩,
      ⟨none, (some 18), .un .not (.t 17)⟩,
      ⟨none, (some 19), .mv (.t 18)⟩,
      ⟨(some (19, false)), (some 20), .load true 9 (.t 2)⟩,
      ⟨(some (19, false)), (some 21), .mv (.t 1)⟩,
      ⟨(some (19, false)), (some 22), .mv (.t 5)⟩,
      ⟨(some (19, false)), (some 23), .iaddr 2 (.t 21) (.t 22)⟩,
      ⟨(some (19, false)), (some 24), .faddr 1 (.t 23)⟩,
      ⟨(some (19, false)), (some 25), .load false 1 (.t 24)⟩,
      ⟨(some (19, false)), (some 26), .call 80 [(.t 20), (.t 25)]⟩,
      ⟨(some (19, false)), (some 27), .un .not (.t 26)⟩,
      ⟨none, (some 28), .pick (.t 19) (.c (.bool true)) (.t 27)⟩])
    (.cond (.t 28) (.seq (.reg [⟨none, (some 4), .mv (.c (.bool false))⟩])
    .ret)
    .skip)))
    (.reg [⟨none, (some 10), .mv (.t 5)⟩,
      ⟨none, (some 11), .bin .add (.t 10) (.c (.int .i64 1))⟩,
      ⟨none, (some 5), .mv (.t 11)⟩]))))))
    (.seq (.reg [⟨none, (some 29), .mv (.t 1)⟩,
      ⟨none, (some 30), .len (.t 29)⟩,
      ⟨none, (some 31), .bin .leq (.t 30) (.c (.int .i64 20))⟩,
      ⟨none, (some 4), .mv (.t 31)⟩])
    .ret)))
theorem ok65 : FnOk Tryz.prog 65 32 1 c65 [.t 4] := ⟨_, _, Tryz.func65, rfl, rfl, by kernel_rfl, by kernel_rfl⟩
theorem bd65 : bodied Tryz.prog 65 = true := by kernel_rfl

/-- (ferrule/gusts.truth).rounds -/
def c66 : CI := (.seq (.reg [⟨none, (some 2), .box 0 true (.t 0)⟩,
      ⟨none, (some 3), .box 1 true (.t 1)⟩,
      ⟨none, (some 4), .mv (.c (.lit (.nilFunc)))⟩])
    (.seq (.reg [⟨none, (some 5), .mkfn 81 [(.t 2), (.t 3)]⟩,
      ⟨none, (some 4), .mv (.t 5)⟩])
    .ret))
theorem ok66 : FnOk Tryz.prog 66 6 2 c66 [.t 4] := ⟨_, _, Tryz.func66, rfl, rfl, by kernel_rfl, by kernel_rfl⟩
theorem bd66 : bodied Tryz.prog 66 = true := by kernel_rfl

/-- slices.Sort[[]int,int] -/
def c67 : CI := (.seq (.reg [⟨none, (some 3), .mv (.t 0)⟩,
      ⟨none, (some 4), .len (.t 3)⟩,
      ⟨none, (some 2), .mv (.t 4)⟩])
    (.reg [⟨none, (some 5), .mv (.t 0)⟩,
      ⟨none, (some 6), .mv (.t 2)⟩,
      ⟨none, (some 7), .mv (.t 2)⟩,
      ⟨none, (some 8), .conv .u64 (.t 7)⟩,
      ⟨none, (some 9), .call 85 [(.t 8)]⟩,
      ⟨none, (some 10), .callw 0 0 84 [(.t 5), (.c (.int .i64 0)), (.t 6), (.t 9)]⟩]))
theorem ok67 : FnOk Tryz.prog 67 11 0 c67 [] := ⟨_, _, Tryz.func67, rfl, rfl, by kernel_rfl, by kernel_rfl⟩
theorem bd67 : bodied Tryz.prog 67 = true := by kernel_rfl

/-- ferrule/ferruleref05.side -/
def c68 : CI := (.seq (.reg [⟨none, (some 8), .mv (.c (.int .i64 0))⟩])
    (.seq (.reg [⟨none, (some 13), .mv (.t 0)⟩,
      ⟨none, (some 14), .len (.t 13)⟩,
      ⟨none, (some 9), .mv (.t 14)⟩])
    (.seq (.reg [⟨none, (some 10), .mv (.c (.int .i64 0))⟩])
    (.seq (.seq (.reg [⟨none, (some 11), .mv (.c (.int .i64 1))⟩])
    (.block 0 (.loop (.seq (.seq (.reg [⟨none, (some 15), .mv (.t 11)⟩,
      ⟨none, (some 16), .mv (.t 9)⟩,
      ⟨none, (some 17), .bin .lss (.t 15) (.t 16)⟩])
    (.cond (.t 17) .skip
    (.exit 0)))
    (.seq (.block 1 (.seq (.reg [⟨none, (some 20), .mv (.t 2)⟩,
      ⟨none, (some 21), .mv (.t 11)⟩,
      ⟨none, (some 22), .mv (.t 3)⟩,
      ⟨none, (some 23), .bin .mul (.t 21) (.t 22)⟩,
      ⟨none, (some 24), .bin .add (.t 20) (.t 23)⟩,
      ⟨none, (some 25), .mv (.t 9)⟩,
      ⟨none, (some 26), .bin .rem (.t 24) (.t 25)⟩,
      ⟨none, (some 27), .mv (.t 9)⟩,
      ⟨none, (some 28), .bin .add (.t 26) (.t 27)⟩,
      ⟨none, (some 29), .mv (.t 9)⟩,
      ⟨none, (some 30), .bin .rem (.t 28) (.t 29)⟩,
      ⟨none, (some 12), .mv (.t 30)⟩])
    (.seq (.seq (.reg [⟨none, (some 31), .mv (.t 1)⟩,
      ⟨none, (some 32), .mv (.t 12)⟩,
      ⟨none, (some 33), .iaddr 1 (.t 31) (.t 32)⟩,
      ⟨none, (some 34), .load false 1 (.t 33)⟩,
      ⟨none, (some 35), .un .not (.t 34)⟩])
    (.cond (.t 35) (.seq (.reg [⟨none, (some 36), .mv (.t 10)⟩,
      ⟨none, (some 8), .mv (.t 36)⟩])
    .ret)
    .skip))
    (.reg [⟨none, (some 37), .mv (.t 10)⟩,
      ⟨none, (some 38), .mv (.t 0)⟩,
      ⟨none, (some 39), .mv (.t 12)⟩,
      ⟨none, (some 40), .iaddr 1 (.t 38) (.t 39)⟩,
      ⟨none, (some 41), .load false 1 (.t 40)⟩,
      ⟨none, (some 42), .bin .add (.t 37) (.t 41)⟩,
      ⟨none, (some 10), .mv (.t 42)⟩]))))
    (.reg [⟨none, (some 18), .mv (.t 11)⟩,
      ⟨none, (some 19), .bin .add (.t 18) (.c (.int .i64 1))⟩,
      ⟨none, (some 11), .mv (.t 19)⟩]))))))
    (.seq (.reg [⟨none, (some 43), .mv (.t 10)⟩,
      ⟨none, (some 8), .mv (.t 43)⟩])
    .ret)))))
theorem ok68 : FnOk Tryz.prog 68 44 0 c68 [.t 8] := ⟨_, _, Tryz.func68, rfl, rfl, by kernel_rfl, by kernel_rfl⟩
theorem bd68 : bodied Tryz.prog 68 = true := by kernel_rfl

/-- ferrule/gusts.each[ferrule/api.Gust] -/
def c69 : CI := (.seq (.reg [⟨none, (some 4), .mv (.c (.bool false))⟩])
    (.seq (.seq (.reg [⟨none, (some 7), .mv (.t 0)⟩,
      ⟨none, (some 8), .len (.t 7)⟩,
      ⟨none, (some 9), .mv (.c (.int .i64 0))⟩])
    (.block 0 (.loop (.seq (.reg [⟨none, (some 10), .bin .lss (.t 9) (.t 8)⟩])
    (.seq (.cond (.t 10) .skip
    (.exit 0))
    (.seq (.block 1 (.seq (.reg [⟨none, (some 11), .iaddr 2 (.t 7) (.t 9)⟩,
      ⟨none, (some 12), .load true 2 (.t 11)⟩,
      ⟨none, (some 6), .alloc 0 [(.int .i64 0), (.int .i64 0)]⟩,
      ⟨none, none, .store true 2 (.t 6) (.t 12) []⟩])
    (.seq (.reg [⟨none, (some 13), .mv (.t 1)⟩,
      ⟨none, (some 14), .load true 2 (.t 6)⟩,
      ⟨none, (some 15), .callx (.t 13) [(.t 14)]⟩,
      ⟨none, (some 16), .un .not (.t 15)⟩])
    (.cond (.t 16) (.seq (.reg [⟨none, (some 4), .mv (.c (.bool false))⟩])
    .ret)
    .skip))))
    (.reg [⟨none, (some 17), .bin .add (.t 9) (.c (.int .i64 1))⟩,
      ⟨none, (some 9), .mv (.t 17)⟩])))))))
    (.seq (.reg [⟨none, (some 4), .mv (.c (.bool true))⟩])
    .ret)))
theorem ok69 : FnOk Tryz.prog 69 18 1 c69 [.t 4] := ⟨_, _, Tryz.func69, rfl, rfl, by kernel_rfl, by kernel_rfl⟩
theorem bd69 : bodied Tryz.prog 69 = true := by kernel_rfl

/-- (ferrule/gusts.truth).stands$1 -/
def c70 : CI := (.seq (.reg [⟨none, (some 2), .box 0 true (.t 0)⟩,
      ⟨none, (some 3), .mv (.c (.bool false))⟩])
    (.seq (.reg [⟨none, (some 4), .load true 3 (.t 1)⟩,
      ⟨none, (some 5), .load true 2 (.t 2)⟩,
      ⟨none, (some 6), .callw 1 1 43 [(.t 4), (.t 5)]⟩,
      ⟨none, (some 7), .len (.t 6)⟩,
      ⟨none, (some 8), .bin .eql (.t 7) (.c (.int .i64 0))⟩,
      ⟨none, (some 3), .mv (.t 8)⟩])
    .ret))
theorem ok70 : FnOk Tryz.prog 70 9 2 c70 [.t 3] := ⟨_, _, Tryz.func70, rfl, rfl, by kernel_rfl, by kernel_rfl⟩
theorem bd70 : bodied Tryz.prog 70 = true := by kernel_rfl

/-- (ferrule/gusts.truth).tooWeak$1 -/
def c71 : CI := (.seq (.reg [⟨none, (some 4), .mv (.c (.bool false))⟩])
    (.seq (.reg [⟨none, (some 5), .load true 3 (.t 1)⟩,
      ⟨none, (some 6), .load true 2 (.t 2)⟩,
      ⟨none, (some 7), .mv (.t 0)⟩,
      ⟨none, (some 8), .call 48 [(.t 5), (.t 6), (.t 7)]⟩,
      ⟨none, (some 4), .mv (.t 8)⟩])
    .ret))
theorem ok71 : FnOk Tryz.prog 71 9 0 c71 [.t 4] := ⟨_, _, Tryz.func71, rfl, rfl, by kernel_rfl, by kernel_rfl⟩
theorem bd71 : bodied Tryz.prog 71 = true := by kernel_rfl

/-- slices.IndexFunc[[]ferrule/api.Gust,ferrule/api.Gust] -/
def c72 : CI := (.seq (.reg [⟨none, (some 4), .mv (.c (.int .i64 0))⟩])
    (.seq (.seq (.reg [⟨none, (some 6), .mv (.t 0)⟩,
      ⟨none, (some 7), .len (.t 6)⟩,
      ⟨none, (some 8), .mv (.c (.int .i64 0))⟩])
    (.block 0 (.loop (.seq (.reg [⟨none, (some 9), .bin .lss (.t 8) (.t 7)⟩])
    (.seq (.cond (.t 9) .skip
    (.exit 0))
    (.seq (.block 1 (.seq (.reg [⟨none, (some 10), .mv (.t 8)⟩,
      ⟨none, (some 5), .mv (.t 10)⟩])
    (.seq (.reg [⟨none, (some 11), .mv (.t 1)⟩,
      ⟨none, (some 12), .mv (.t 0)⟩,
      ⟨none, (some 13), .mv (.t 5)⟩,
      ⟨none, (some 14), .iaddr 2 (.t 12) (.t 13)⟩,
      ⟨none, (some 15), .load true 2 (.t 14)⟩,
      ⟨none, (some 16), .callx (.t 11) [(.t 15)]⟩])
    (.cond (.t 16) (.seq (.reg [⟨none, (some 17), .mv (.t 5)⟩,
      ⟨none, (some 4), .mv (.t 17)⟩])
    .ret)
    .skip))))
    (.reg [⟨none, (some 18), .bin .add (.t 8) (.c (.int .i64 1))⟩,
      ⟨none, (some 8), .mv (.t 18)⟩])))))))
    (.seq (.reg [⟨none, (some 4), .mv (.c (.int .i64 (-1)))⟩])
    .ret)))
theorem ok72 : FnOk Tryz.prog 72 19 0 c72 [.t 4] := ⟨_, _, Tryz.func72, rfl, rfl, by kernel_rfl, by kernel_rfl⟩
theorem bd72 : bodied Tryz.prog 72 = true := by kernel_rfl

/-- ferrule/frames.valid -/
def c73 : CI := (.seq (.reg [⟨none, (some 1), .box 0 true (.t 0)⟩,
      ⟨none, (some 2), .mv (.c (.bool false))⟩])
    (.seq (.seq (.reg [⟨none, (some 5), .faddr 0 (.t 1)⟩,
      ⟨none, (some 6), .load false 1 (.t 5)⟩,
      ⟨none, (some 7), .len (.t 6)⟩,
      ⟨none, (some 8), .bin .lss (.t 7) (.c (.int .i64 1))⟩,
      ⟨none, (some 9), .mv (.t 8)⟩,
      ⟨(some (9, false)), (some 10), .faddr 0 (.t 1)⟩,
      ⟨(some (9, false)), (some 11), .load false 1 (.t 10)⟩,
      ⟨(some (9, false)), (some 12), .len (.t 11)⟩,
      ⟨(some (9, false)), (some 13), .bin .gtr (.t 12) (.c (.int .i64 3))⟩,
      ⟨none, (some 14), .pick (.t 9) (.c (.bool true)) (.t 13)⟩])
    (.cond (.t 14) (.seq (.reg [⟨none, (some 2), .mv (.c (.bool false))⟩])
    .ret)
    .skip))
    (.seq (.seq (.reg [⟨none, (some 15), .faddr 0 (.t 1)⟩,
      ⟨none, (some 16), .load false 1 (.t 15)⟩,
      ⟨none, (some 17), .len (.t 16)⟩,
      ⟨none, (some 18), .mv (.c (.int .i64 0))⟩])
    (.block 0 (.loop (.seq (.reg [⟨none, (some 19), .bin .lss (.t 18) (.t 17)⟩])
    (.seq (.cond (.t 19) .skip
    (.exit 0))
    (.seq (.block 1 (.seq (.reg [⟨none, (some 20), .iaddr 7 (.t 16) (.t 18)⟩,
      ⟨none, (some 21), .load true 7 (.t 20)⟩,
      ⟨none, (some 4), .alloc 1 [(.int .i64 0), (.int .i64 0), (.int .i64 0), (.int .i64 0), (.int .i64 0), (.int .i64 0), (.int .i64 0)]⟩,
      ⟨none, none, .store true 7 (.t 4) (.t 21) []⟩])
    (.seq (.reg [⟨none, (some 22), .load true 7 (.t 4)⟩,
      ⟨none, (some 23), .call 86 [(.t 22)]⟩,
      ⟨none, (some 24), .un .not (.t 23)⟩])
    (.cond (.t 24) (.seq (.reg [⟨none, (some 2), .mv (.c (.bool false))⟩])
    .ret)
    .skip))))
    (.reg [⟨none, (some 25), .bin .add (.t 18) (.c (.int .i64 1))⟩,
      ⟨none, (some 18), .mv (.t 25)⟩])))))))
    (.seq (.reg [⟨none, (some 26), .faddr 1 (.t 1)⟩,
      ⟨none, (some 27), .load false 1 (.t 26)⟩,
      ⟨none, (some 28), .faddr 2 (.t 1)⟩,
      ⟨none, (some 29), .load false 1 (.t 28)⟩,
      ⟨none, (some 30), .build [(.int .i64 0), (.int .i64 0)] [(0, 1, (.t 27)), (1, 1, (.t 29))]⟩,
      ⟨none, (some 31), .call 87 [(.t 30), (.c (.int .i64 200))]⟩,
      ⟨none, (some 32), .mv (.t 31)⟩,
      ⟨(some (32, true)), (some 33), .faddr 3 (.t 1)⟩,
      ⟨(some (32, true)), (some 34), .load true 2 (.t 33)⟩,
      ⟨(some (32, true)), (some 35), .call 88 [(.t 34)]⟩,
      ⟨none, (some 36), .pick (.t 32) (.t 35) (.c (.bool false))⟩,
      ⟨none, (some 37), .mv (.t 36)⟩,
      ⟨(some (37, true)), (some 38), .faddr 5 (.t 1)⟩,
      ⟨(some (37, true)), (some 39), .load false 1 (.t 38)⟩,
      ⟨(some (37, true)), (some 40), .call 89 [(.t 39), (.c (.int .i64 0)), (.c (.int .i64 4000))]⟩,
      ⟨none, (some 41), .pick (.t 37) (.t 40) (.c (.bool false))⟩,
      ⟨none, (some 42), .mv (.t 41)⟩,
      ⟨(some (42, true)), (some 43), .faddr 6 (.t 1)⟩,
      ⟨(some (42, true)), (some 44), .load false 1 (.t 43)⟩,
      ⟨(some (42, true)), (some 45), .call 89 [(.t 44), (.c (.int .i64 0)), (.c (.int .i64 4000))]⟩,
      ⟨none, (some 46), .pick (.t 42) (.t 45) (.c (.bool false))⟩,
      ⟨none, (some 2), .mv (.t 46)⟩])
    .ret))))
theorem ok73 : FnOk Tryz.prog 73 47 2 c73 [.t 2] := ⟨_, _, Tryz.func73, rfl, rfl, by kernel_rfl, by kernel_rfl⟩
theorem bd73 : bodied Tryz.prog 73 = true := by kernel_rfl

/-- ferrule/frames.checkPosition -/
def c74 : CI := (.seq (.reg [⟨none, (some 3), .box 0 true (.t 0)⟩,
      ⟨none, (some 6), .mv (.c (.int .i64 0))⟩])
    (.seq (.seq (.reg [⟨none, (some 8), .load true 7 (.t 3)⟩,
      ⟨none, (some 9), .mv (.t 1)⟩,
      ⟨none, (some 10), .call 90 [(.t 8), (.t 9)]⟩,
      ⟨none, (some 7), .mv (.t 10)⟩])
    (.seq (.reg [⟨none, (some 11), .mv (.t 7)⟩,
      ⟨none, (some 12), .bin .neq (.t 11) (.c (.int .i64 0))⟩])
    (.cond (.t 12) (.seq (.reg [⟨none, (some 13), .mv (.t 7)⟩,
      ⟨none, (some 6), .mv (.t 13)⟩])
    .ret)
    .skip)))
    (.seq (.seq (.reg [⟨none, (some 14), .mv (.t 2)⟩,
      ⟨none, (some 15), .faddr 1 (.t 3)⟩,
      ⟨none, (some 16), .load false 1 (.t 15)⟩,
      ⟨none, (some 17), .faddr 2 (.t 3)⟩,
      ⟨none, (some 18), .load false 1 (.t 17)⟩,
      ⟨none, (some 19), .call 89 [(.t 14), (.t 16), (.t 18)]⟩,
      ⟨none, (some 20), .un .not (.t 19)⟩])
    (.cond (.t 20) (.seq (.reg [⟨none, (some 6), .mv (.c (.int .i64 1))⟩])
    .ret)
    .skip))
    (.seq (.reg [⟨none, (some 6), .mv (.c (.int .i64 0))⟩])
    .ret))))
theorem ok74 : FnOk Tryz.prog 74 21 1 c74 [.t 6] := ⟨_, _, Tryz.func74, rfl, rfl, by kernel_rfl, by kernel_rfl⟩
theorem bd74 : bodied Tryz.prog 74 = true := by kernel_rfl

/-- ferrule/frames.distance -/
def c75 : CI := (.seq (.reg [⟨none, (some 3), .box 0 true (.t 0)⟩,
      ⟨none, (some 6), .mv (.c (.int .i64 0))⟩])
    (.seq (.reg [⟨none, (some 10), .mv (.t 2)⟩,
      ⟨none, (some 7), .mv (.t 10)⟩])
    (.seq (.seq (.reg [⟨none, (some 11), .faddr 0 (.t 3)⟩,
      ⟨none, (some 12), .load false 1 (.t 11)⟩,
      ⟨none, (some 13), .mv (.t 1)⟩,
      ⟨none, (some 14), .bin .add (.t 13) (.c (.int .i64 1))⟩,
      ⟨none, (some 15), .sli 7 (.t 12) (some (.c (.int .i64 1))) (some (.t 14))⟩,
      ⟨none, (some 16), .len (.t 15)⟩,
      ⟨none, (some 17), .mv (.c (.int .i64 0))⟩])
    (.block 0 (.loop (.seq (.reg [⟨none, (some 18), .bin .lss (.t 17) (.t 16)⟩])
    (.seq (.cond (.t 18) .skip
    (.exit 0))
    (.seq (.block 1 (.seq (.reg [⟨none, (some 19), .iaddr 7 (.t 15) (.t 17)⟩,
      ⟨none, (some 20), .load true 7 (.t 19)⟩,
      ⟨none, (some 9), .alloc 1 [(.int .i64 0), (.int .i64 0), (.int .i64 0), (.int .i64 0), (.int .i64 0), (.int .i64 0), (.int .i64 0)]⟩,
      ⟨none, none, .store true 7 (.t 9) (.t 20) []⟩])
    (.reg [⟨none, (some 21), .faddr 4 (.t 9)⟩,
      ⟨none, (some 22), .load false 1 (.t 21)⟩,
      ⟨none, (some 23), .mv (.t 7)⟩,
      ⟨none, (some 24), .faddr 5 (.t 9)⟩,
      ⟨none, (some 25), .faddr 0 (.t 24)⟩,
      ⟨none, (some 26), .load false 1 (.t 25)⟩,
      ⟨none, (some 27), .bin .mul (.t 23) (.t 26)⟩,
      ⟨none, (some 28), .faddr 5 (.t 9)⟩,
      ⟨none, (some 29), .faddr 1 (.t 28)⟩,
      ⟨none, (some 30), .load false 1 (.t 29)⟩,
      ⟨none, (some 31), .bin .quo (.t 27) (.t 30)⟩,
      ⟨none, (some 32), .bin .add (.t 22) (.t 31)⟩,
      ⟨none, (some 7), .mv (.t 32)⟩])))
    (.reg [⟨none, (some 33), .bin .add (.t 17) (.c (.int .i64 1))⟩,
      ⟨none, (some 17), .mv (.t 33)⟩])))))))
    (.seq (.reg [⟨none, (some 34), .mv (.t 7)⟩,
      ⟨none, (some 6), .mv (.t 34)⟩])
    .ret))))
theorem ok75 : FnOk Tryz.prog 75 35 2 c75 [.t 6] := ⟨_, _, Tryz.func75, rfl, rfl, by kernel_rfl, by kernel_rfl⟩
theorem bd75 : bodied Tryz.prog 75 = true := by kernel_rfl

/-- ferrule/frames.cosines -/
def c76 : CI := (.seq (.reg [⟨none, (some 2), .box 0 true (.t 0)⟩,
      ⟨none, (some 3), .box 1 false (.t 1)⟩,
      ⟨none, (some 4), .alloc 2 [(.int .i64 0), (.int .i64 0)]⟩,
      ⟨none, (some 5), .alloc 3 [(.int .i64 0), (.int .i64 0)]⟩])
    (.seq (.reg [⟨none, (some 9), .load false 1 (.t 3)⟩,
      ⟨none, (some 10), .faddr 0 (.t 2)⟩,
      ⟨none, (some 11), .faddr 0 (.t 10)⟩,
      ⟨none, (some 12), .load false 1 (.t 11)⟩,
      ⟨none, (some 13), .faddr 2 (.t 2)⟩,
      ⟨none, (some 14), .faddr 0 (.t 13)⟩,
      ⟨none, (some 15), .load false 1 (.t 14)⟩,
      ⟨none, (some 16), .call 91 [(.t 9), (.t 12), (.t 15)]⟩,
      ⟨none, none, .store true 2 (.t 4) (.t 16) []⟩])
    (.seq (.reg [⟨none, (some 17), .load true 2 (.t 4)⟩,
      ⟨none, none, .store true 2 (.t 5) (.t 17) []⟩])
    (.seq (.seq (.reg [⟨none, (some 18), .load true 7 (.t 2)⟩,
      ⟨none, (some 19), .callw 4 0 92 [(.t 18)]⟩])
    (.block 0 (.rng (.t 19) [20, 21] (.seq (.reg [⟨none, (some 6), .mv (.t 20)⟩])
    (.reg [⟨none, (some 7), .mv (.t 21)⟩]))
    (.block 1 (.seq (.reg [⟨none, (some 22), .load false 1 (.t 3)⟩,
      ⟨none, (some 23), .mv (.t 6)⟩,
      ⟨none, (some 24), .mv (.t 7)⟩,
      ⟨none, (some 25), .call 91 [(.t 22), (.t 23), (.t 24)]⟩,
      ⟨none, (some 8), .alloc 4 [(.int .i64 0), (.int .i64 0)]⟩,
      ⟨none, none, .store true 2 (.t 8) (.t 25) []⟩])
    (.seq (.seq (.reg [⟨none, (some 26), .load true 2 (.t 8)⟩,
      ⟨none, (some 27), .load true 2 (.t 4)⟩,
      ⟨none, (some 28), .call 93 [(.t 26), (.t 27)]⟩])
    (.cond (.t 28) (.reg [⟨none, (some 29), .load true 2 (.t 8)⟩,
      ⟨none, none, .store true 2 (.t 4) (.t 29) []⟩])
    .skip))
    (.seq (.reg [⟨none, (some 30), .load true 2 (.t 5)⟩,
      ⟨none, (some 31), .load true 2 (.t 8)⟩,
      ⟨none, (some 32), .call 93 [(.t 30), (.t 31)]⟩])
    (.cond (.t 32) (.reg [⟨none, (some 33), .load true 2 (.t 8)⟩,
      ⟨none, none, .store true 2 (.t 5) (.t 33) []⟩])
    .skip))))))))
    (.seq (.reg [⟨none, (some 34), .load true 2 (.t 4)⟩,
      ⟨none, (some 35), .load true 2 (.t 5)⟩,
      ⟨none, none, .store true 2 (.t 4) (.t 34) [(.t 5)]⟩,
      ⟨none, none, .store true 2 (.t 5) (.t 35) []⟩])
    .ret)))))
theorem ok76 : FnOk Tryz.prog 76 36 5 c76 [.cell 4 true 2, .cell 5 true 2] := ⟨_, _, Tryz.func76, rfl, rfl, by kernel_rfl, by kernel_rfl⟩
theorem bd76 : bodied Tryz.prog 76 = true := by kernel_rfl

/-- ferrule/frames.reduced -/
def c77 : CI := (.seq (.reg [⟨none, (some 1), .box 0 true (.t 0)⟩,
      ⟨none, (some 2), .alloc 1 [(.int .i64 0), (.int .i64 0)]⟩])
    (.seq (.reg [⟨none, (some 4), .faddr 0 (.t 1)⟩,
      ⟨none, (some 5), .load false 1 (.t 4)⟩,
      ⟨none, (some 6), .faddr 0 (.t 1)⟩,
      ⟨none, (some 7), .load false 1 (.t 6)⟩,
      ⟨none, (some 8), .un .neg (.t 7)⟩,
      ⟨none, (some 9), .mm true [(.t 5), (.t 8)]⟩,
      ⟨none, (some 10), .faddr 1 (.t 1)⟩,
      ⟨none, (some 11), .load false 1 (.t 10)⟩,
      ⟨none, (some 12), .call 94 [(.t 9), (.t 11)]⟩,
      ⟨none, (some 3), .mv (.t 12)⟩])
    (.seq (.reg [⟨none, (some 13), .faddr 0 (.t 1)⟩,
      ⟨none, (some 14), .load false 1 (.t 13)⟩,
      ⟨none, (some 15), .mv (.t 3)⟩,
      ⟨none, (some 16), .bin .quo (.t 14) (.t 15)⟩,
      ⟨none, (some 17), .faddr 1 (.t 1)⟩,
      ⟨none, (some 18), .load false 1 (.t 17)⟩,
      ⟨none, (some 19), .mv (.t 3)⟩,
      ⟨none, (some 20), .bin .quo (.t 18) (.t 19)⟩,
      ⟨none, (some 21), .build [(.int .i64 0), (.int .i64 0)] [(0, 1, (.t 16)), (1, 1, (.t 20))]⟩,
      ⟨none, none, .store true 2 (.t 2) (.t 21) []⟩])
    .ret)))
theorem ok77 : FnOk Tryz.prog 77 22 2 c77 [.cell 2 true 2] := ⟨_, _, Tryz.func77, rfl, rfl, by kernel_rfl, by kernel_rfl⟩
theorem bd77 : bodied Tryz.prog 77 = true := by kernel_rfl

/-- ferrule/ferruleref01.CosineOf -/
def c78 : CI := (.seq (.reg [⟨none, (some 3), .box 0 true (.t 1)⟩,
      ⟨none, (some 4), .alloc 1 [(.int .i64 0), (.int .i64 0)]⟩,
      ⟨none, (some 5), .mv (.c (.bool false))⟩])
    (.seq (.seq (.reg [⟨none, (some 6), .mv (.t 0)⟩,
      ⟨none, (some 7), .bin .eql (.t 6) (.c (.int .i64 0))⟩])
    (.cond (.t 7) (.seq (.reg [⟨none, (some 8), .build [(.int .i64 0), (.int .i64 0)] []⟩,
      ⟨none, none, .store true 2 (.t 4) (.t 8) []⟩,
      ⟨none, (some 5), .mv (.c (.bool false))⟩])
    .ret)
    .skip))
    (.seq (.reg [⟨none, (some 9), .mv (.t 0)⟩,
      ⟨none, (some 10), .mv (.t 0)⟩,
      ⟨none, (some 11), .bin .mul (.t 9) (.t 10)⟩,
      ⟨none, (some 12), .faddr 0 (.t 3)⟩,
      ⟨none, (some 13), .load false 1 (.t 12)⟩,
      ⟨none, (some 14), .faddr 0 (.t 3)⟩,
      ⟨none, (some 15), .load false 1 (.t 14)⟩,
      ⟨none, (some 16), .bin .mul (.t 13) (.t 15)⟩,
      ⟨none, (some 17), .bin .add (.t 11) (.t 16)⟩,
      ⟨none, (some 18), .faddr 1 (.t 3)⟩,
      ⟨none, (some 19), .load false 1 (.t 18)⟩,
      ⟨none, (some 20), .faddr 1 (.t 3)⟩,
      ⟨none, (some 21), .load false 1 (.t 20)⟩,
      ⟨none, (some 22), .bin .mul (.t 19) (.t 21)⟩,
      ⟨none, (some 23), .bin .sub (.t 17) (.t 22)⟩,
      ⟨none, (some 24), .mv (.t 0)⟩,
      ⟨none, (some 25), .bin .mul (.c (.int .i64 2)) (.t 24)⟩,
      ⟨none, (some 26), .faddr 0 (.t 3)⟩,
      ⟨none, (some 27), .load false 1 (.t 26)⟩,
      ⟨none, (some 28), .bin .mul (.t 25) (.t 27)⟩,
      ⟨none, (some 29), .call 95 [(.t 23), (.t 28)]⟩,
      ⟨none, none, .store true 2 (.t 4) (.t 29) []⟩,
      ⟨none, (some 5), .mv (.c (.bool true))⟩])
    .ret)))
theorem ok78 : FnOk Tryz.prog 78 30 2 c78 [.cell 4 true 2, .t 5] := ⟨_, _, Tryz.func78, rfl, rfl, by kernel_rfl, by kernel_rfl⟩
theorem bd78 : bodied Tryz.prog 78 = true := by kernel_rfl

/-- ferrule/gusts.checkGusts$1 -/
def c79 : CI := (.seq (.reg [⟨none, (some 2), .box 0 true (.t 0)⟩,
      ⟨none, (some 3), .mv (.c (.bool false))⟩])
    (.seq (.reg [⟨none, (some 4), .faddr 0 (.t 2)⟩,
      ⟨none, (some 5), .load false 1 (.t 4)⟩,
      ⟨none, (some 6), .call 51 [(.t 5), (.c (.int .i64 0)), (.c (.int .i64 99))]⟩,
      ⟨none, (some 7), .mv (.t 6)⟩,
      ⟨(some (7, true)), (some 8), .faddr 1 (.t 2)⟩,
      ⟨(some (7, true)), (some 9), .load false 1 (.t 8)⟩,
      ⟨(some (7, true)), (some 10), .faddr 7 (.t 1)⟩,
      ⟨(some (7, true)), (some 11), .load false 1 (.t 10)⟩,
      ⟨(some (7, true)), (some 12), .len (.t 11)⟩,
      ⟨(some (7, true)), (some 13), .bin .sub (.t 12) (.c (.int .i64 1))⟩,
      ⟨(some (7, true)), (some 14), .call 51 [(.t 9), (.c (.int .i64 0)), (.t 13)]⟩,
      ⟨none, (some 15), .pick (.t 7) (.t 14) (.c (.bool false))⟩,
      ⟨none, (some 3), .mv (.t 15)⟩])
    .ret))
theorem ok79 : FnOk Tryz.prog 79 16 1 c79 [.t 3] := ⟨_, _, Tryz.func79, rfl, rfl, by kernel_rfl, by kernel_rfl⟩
theorem bd79 : bodied Tryz.prog 79 = true := by kernel_rfl

/-- ferrule/ferruleref05.IsRib -/
def c80 : CI := (.seq (.reg [⟨none, (some 2), .box 0 true (.t 0)⟩,
      ⟨none, (some 4), .mv (.c (.bool false))⟩])
    (.seq (.reg [⟨none, (some 5), .mv (.t 1)⟩,
      ⟨none, (some 6), .faddr 7 (.t 2)⟩,
      ⟨none, (some 7), .load false 1 (.t 6)⟩,
      ⟨none, (some 8), .len (.t 7)⟩,
      ⟨none, (some 9), .bin .sub (.t 8) (.c (.int .i64 1))⟩,
      ⟨none, (some 10), .call 30 [(.t 5), (.c (.int .i64 0)), (.t 9)]⟩,
      ⟨none, (some 4), .mv (.t 10)⟩])
    .ret))
theorem ok80 : FnOk Tryz.prog 80 11 1 c80 [.t 4] := ⟨_, _, Tryz.func80, rfl, rfl, by kernel_rfl, by kernel_rfl⟩
theorem bd80 : bodied Tryz.prog 80 = true := by kernel_rfl

/-- (ferrule/gusts.truth).rounds$1 -/
def c81 : CI := (.seq (.reg [⟨none, (some 8), .faddr 1 (.t 1)⟩,
      ⟨none, (some 9), .load false 1 (.t 8)⟩,
      ⟨none, (some 10), .len (.t 9)⟩,
      ⟨none, (some 11), .mks 0 4 1 1 [(.bool false)] (.t 10) (.t 10)⟩,
      ⟨none, (some 4), .alloc 1 [.nils]⟩,
      ⟨none, none, .stz false 1 (.t 4) (.t 11) []⟩])
    (.block 0 (.loop (.block 1 (.seq (.reg [⟨none, (some 12), .load false 1 (.t 4)⟩,
      ⟨none, (some 13), .len (.t 12)⟩,
      ⟨none, (some 14), .mkfn 82 [(.t 4), (.t 1), (.t 2)]⟩,
      ⟨none, (some 15), .callw 2 1 44 [(.t 13), (.t 14)]⟩,
      ⟨none, (some 5), .mv (.t 15)⟩])
    (.seq (.seq (.reg [⟨none, (some 16), .mv (.t 5)⟩,
      ⟨none, (some 17), .len (.t 16)⟩,
      ⟨none, (some 18), .bin .eql (.t 17) (.c (.int .i64 0))⟩,
      ⟨none, (some 19), .mv (.t 18)⟩,
      ⟨(some (19, false)), (some 20), .mv (.t 0)⟩,
      ⟨(some (19, false)), (some 21), .mv (.t 5)⟩,
      ⟨(some (19, false)), (some 22), .callx (.t 20) [(.t 21)]⟩,
      ⟨(some (19, false)), (some 23), .un .not (.t 22)⟩,
      ⟨none, (some 24), .pick (.t 19) (.c (.bool true)) (.t 23)⟩])
    (.cond (.t 24) .ret
    .skip))
    (.seq (.reg [⟨none, (some 25), .mv (.t 5)⟩,
      ⟨none, (some 26), .len (.t 25)⟩,
      ⟨none, (some 27), .mv (.c (.int .i64 0))⟩])
    (.block 2 (.loop (.seq (.reg [⟨none, (some 28), .bin .lss (.t 27) (.t 26)⟩])
    (.seq (.cond (.t 28) .skip
    (.exit 2))
    (.seq (.block 3 (.seq (.reg [⟨none, (some 29), .iaddr 1 (.t 25) (.t 27)⟩,
      ⟨none, (some 30), .load false 1 (.t 29)⟩,
      ⟨none, (some 7), .mv (.t 30)⟩])
    (.reg [⟨none, (some 31), .load false 1 (.t 4)⟩,
      ⟨none, (some 32), .mv (.t 7)⟩,
      ⟨none, (some 33), .iaddr 1 (.t 31) (.t 32)⟩,
      ⟨none, none, .store false 1 (.t 33) (.c (.bool true)) []⟩])))
    (.reg [⟨none, (some 34), .bin .add (.t 27) (.c (.int .i64 1))⟩,
      ⟨none, (some 27), .mv (.t 34)⟩])))))))))))))
theorem ok81 : FnOk Tryz.prog 81 35 3 c81 [] := ⟨_, _, Tryz.func81, rfl, rfl, by kernel_rfl, by kernel_rfl⟩
theorem bd81 : bodied Tryz.prog 81 = true := by kernel_rfl

/-- (ferrule/gusts.truth).rounds$1$1 -/
def c82 : CI := (.seq (.reg [⟨none, (some 5), .mv (.c (.bool false))⟩])
    (.seq (.reg [⟨none, (some 6), .load false 1 (.t 1)⟩,
      ⟨none, (some 7), .mv (.t 0)⟩,
      ⟨none, (some 8), .iaddr 1 (.t 6) (.t 7)⟩,
      ⟨none, (some 9), .load false 1 (.t 8)⟩,
      ⟨none, (some 10), .un .not (.t 9)⟩,
      ⟨none, (some 11), .mv (.t 10)⟩,
      ⟨(some (11, true)), (some 12), .load true 3 (.t 2)⟩,
      ⟨(some (11, true)), (some 13), .load true 2 (.t 3)⟩,
      ⟨(some (11, true)), (some 14), .mv (.t 0)⟩,
      ⟨(some (11, true)), (some 16), .load true 3 (.t 2)⟩,
      ⟨(some (11, true)), (some 17), .load true 2 (.t 3)⟩,
      ⟨(some (11, true)), (some 18), .load false 1 (.t 1)⟩,
      ⟨(some (11, true)), (some 19), .mv (.t 0)⟩,
      ⟨(some (11, true)), (some 22), .faddr 1 (.t 2)⟩,
      ⟨(some (11, true)), (some 23), .load false 1 (.t 22)⟩,
      ⟨(some (11, true)), (some 24), .mv (.t 0)⟩,
      ⟨(some (11, true)), (some 25), .iaddr 1 (.t 23) (.t 24)⟩,
      ⟨(some (11, true)), (some 26), .load false 1 (.t 25)⟩,
      ⟨(some (11, true)), (some 15), .call 34 [(.t 12), (.t 13), (.t 14)]⟩,
      ⟨(some (11, true)), (some 20), .call 83 [(.t 16), (.t 17), (.t 18), (.t 19)]⟩,
      ⟨(some (11, true)), (some 21), .bin .add (.t 15) (.t 20)⟩,
      ⟨(some (11, true)), (some 27), .bin .gtr (.t 21) (.t 26)⟩,
      ⟨none, (some 28), .pick (.t 11) (.t 27) (.c (.bool false))⟩,
      ⟨none, (some 5), .mv (.t 28)⟩])
    .ret))
theorem ok82 : FnOk Tryz.prog 82 29 0 c82 [.t 5] := ⟨_, _, Tryz.func82, rfl, rfl, by kernel_rfl, by kernel_rfl⟩
theorem bd82 : bodied Tryz.prog 82 = true := by kernel_rfl

/-- (ferrule/gusts.truth).handed -/
def c83 : CI := (.seq (.reg [⟨none, (some 4), .box 0 true (.t 0)⟩,
      ⟨none, (some 5), .box 1 true (.t 1)⟩,
      ⟨none, (some 8), .mv (.c (.int .i64 0))⟩])
    (.seq (.reg [⟨none, (some 9), .mv (.c (.int .i64 0))⟩])
    (.seq (.seq (.reg [⟨none, (some 14), .build [(.int .i64 0), (.int .i64 0)] [(0, 1, (.c (.int .i64 (-1)))), (1, 1, (.c (.int .i64 1)))]⟩,
      ⟨none, (some 15), .mv (.c (.int .i64 0))⟩])
    (.block 0 (.loop (.seq (.reg [⟨none, (some 16), .bin .lss (.t 15) (.c (.int .i64 2))⟩])
    (.seq (.cond (.t 16) .skip
    (.exit 0))
    (.seq (.block 1 (.seq (.reg [⟨none, (some 17), .aidx false 1 2 (.t 14) (.t 15)⟩,
      ⟨none, (some 11), .mv (.t 17)⟩])
    (.seq (.reg [⟨none, (some 12), .mv (.c (.int .i64 0))⟩])
    (.seq (.seq (.reg [⟨none, (some 18), .load true 3 (.t 4)⟩,
      ⟨none, (some 19), .mv (.t 3)⟩,
      ⟨none, (some 20), .mv (.t 11)⟩,
      ⟨none, (some 21), .bin .add (.t 19) (.t 20)⟩,
      ⟨none, (some 22), .call 64 [(.t 18), (.t 21)]⟩,
      ⟨none, (some 13), .mv (.t 22)⟩])
    (.block 2 (.loop (.seq (.seq (.reg [⟨none, (some 23), .mv (.t 2)⟩,
      ⟨none, (some 24), .mv (.t 13)⟩,
      ⟨none, (some 25), .iaddr 1 (.t 23) (.t 24)⟩,
      ⟨none, (some 26), .load false 1 (.t 25)⟩])
    (.cond (.t 26) .skip
    (.exit 2)))
    (.seq (.block 3 (.reg [⟨none, (some 32), .mv (.t 12)⟩,
      ⟨none, (some 33), .load true 3 (.t 4)⟩,
      ⟨none, (some 34), .load true 2 (.t 5)⟩,
      ⟨none, (some 35), .mv (.t 13)⟩,
      ⟨none, (some 36), .call 34 [(.t 33), (.t 34), (.t 35)]⟩,
      ⟨none, (some 37), .bin .add (.t 32) (.t 36)⟩,
      ⟨none, (some 12), .mv (.t 37)⟩]))
    (.reg [⟨none, (some 27), .load true 3 (.t 4)⟩,
      ⟨none, (some 28), .mv (.t 13)⟩,
      ⟨none, (some 29), .mv (.t 11)⟩,
      ⟨none, (some 30), .bin .add (.t 28) (.t 29)⟩,
      ⟨none, (some 31), .call 64 [(.t 27), (.t 30)]⟩,
      ⟨none, (some 13), .mv (.t 31)⟩]))))))
    (.reg [⟨none, (some 38), .mv (.t 9)⟩,
      ⟨none, (some 39), .mv (.t 12)⟩,
      ⟨none, (some 40), .bin .quo (.t 39) (.c (.int .i64 2))⟩,
      ⟨none, (some 41), .bin .add (.t 38) (.t 40)⟩,
      ⟨none, (some 9), .mv (.t 41)⟩])))))
    (.reg [⟨none, (some 42), .bin .add (.t 15) (.c (.int .i64 1))⟩,
      ⟨none, (some 15), .mv (.t 42)⟩])))))))
    (.seq (.reg [⟨none, (some 43), .mv (.t 9)⟩,
      ⟨none, (some 8), .mv (.t 43)⟩])
    .ret))))
theorem ok83 : FnOk Tryz.prog 83 44 2 c83 [.t 8] := ⟨_, _, Tryz.func83, rfl, rfl, by kernel_rfl, by kernel_rfl⟩
theorem bd83 : bodied Tryz.prog 83 = true := by kernel_rfl

/-- slices.pdqsortOrdered[int] -/
def c84 : CI := (.seq (.reg [⟨none, (some 8), .mv (.c (.bool true))⟩])
    (.seq (.reg [⟨none, (some 9), .mv (.c (.bool true))⟩])
    (.block 0 (.loop (.block 1 (.seq (.reg [⟨none, (some 19), .mv (.t 2)⟩,
      ⟨none, (some 20), .mv (.t 1)⟩,
      ⟨none, (some 21), .bin .sub (.t 19) (.t 20)⟩,
      ⟨none, (some 10), .mv (.t 21)⟩])
    (.seq (.seq (.reg [⟨none, (some 22), .mv (.t 10)⟩,
      ⟨none, (some 23), .bin .leq (.t 22) (.c (.int .i64 12))⟩])
    (.cond (.t 23) (.seq (.reg [⟨none, (some 24), .mv (.t 0)⟩,
      ⟨none, (some 25), .mv (.t 1)⟩,
      ⟨none, (some 26), .mv (.t 2)⟩,
      ⟨none, (some 27), .callw 0 0 96 [(.t 24), (.t 25), (.t 26)]⟩])
    .ret)
    .skip))
    (.seq (.seq (.reg [⟨none, (some 28), .mv (.t 3)⟩,
      ⟨none, (some 29), .bin .eql (.t 28) (.c (.int .i64 0))⟩])
    (.cond (.t 29) (.seq (.reg [⟨none, (some 30), .mv (.t 0)⟩,
      ⟨none, (some 31), .mv (.t 1)⟩,
      ⟨none, (some 32), .mv (.t 2)⟩,
      ⟨none, (some 33), .callw 0 0 97 [(.t 30), (.t 31), (.t 32)]⟩])
    .ret)
    .skip))
    (.seq (.seq (.reg [⟨none, (some 34), .mv (.t 8)⟩,
      ⟨none, (some 35), .un .not (.t 34)⟩])
    (.cond (.t 35) (.seq (.reg [⟨none, (some 36), .mv (.t 0)⟩,
      ⟨none, (some 37), .mv (.t 1)⟩,
      ⟨none, (some 38), .mv (.t 2)⟩,
      ⟨none, (some 39), .callw 0 0 98 [(.t 36), (.t 37), (.t 38)]⟩])
    (.reg [⟨none, (some 40), .mv (.t 3)⟩,
      ⟨none, (some 41), .bin .sub (.t 40) (.c (.int .i64 1))⟩,
      ⟨none, (some 3), .mv (.t 41)⟩]))
    .skip))
    (.seq (.reg [⟨none, (some 43), .mv (.t 0)⟩,
      ⟨none, (some 44), .mv (.t 1)⟩,
      ⟨none, (some 45), .mv (.t 2)⟩,
      ⟨none, (some 46), .call 99 [(.t 43), (.t 44), (.t 45)]⟩,
      ⟨none, (some 42), .mv (.t 46)⟩,
      ⟨none, (some 47), .extract 0 (.t 42)⟩,
      ⟨none, (some 48), .extract 1 (.t 42)⟩,
      ⟨none, (some 11), .mv (.t 47)⟩,
      ⟨none, (some 12), .mv (.t 48)⟩])
    (.seq (.seq (.reg [⟨none, (some 49), .mv (.t 12)⟩,
      ⟨none, (some 50), .bin .eql (.t 49) (.c (.int .i64 2))⟩])
    (.cond (.t 50) (.seq (.reg [⟨none, (some 51), .mv (.t 0)⟩,
      ⟨none, (some 52), .mv (.t 1)⟩,
      ⟨none, (some 53), .mv (.t 2)⟩,
      ⟨none, (some 54), .callw 0 0 100 [(.t 51), (.t 52), (.t 53)]⟩])
    (.seq (.reg [⟨none, (some 55), .mv (.t 2)⟩,
      ⟨none, (some 56), .bin .sub (.t 55) (.c (.int .i64 1))⟩,
      ⟨none, (some 57), .mv (.t 11)⟩,
      ⟨none, (some 58), .mv (.t 1)⟩,
      ⟨none, (some 59), .bin .sub (.t 57) (.t 58)⟩,
      ⟨none, (some 60), .bin .sub (.t 56) (.t 59)⟩,
      ⟨none, (some 11), .mv (.t 60)⟩])
    (.reg [⟨none, (some 12), .mv (.c (.int .i64 1))⟩])))
    .skip))
    (.seq (.seq (.reg [⟨none, (some 61), .mv (.t 8)⟩,
      ⟨none, (some 62), .mv (.t 61)⟩,
      ⟨(some (62, true)), (some 63), .mv (.t 9)⟩,
      ⟨none, (some 64), .pick (.t 62) (.t 63) (.c (.bool false))⟩,
      ⟨none, (some 65), .mv (.t 64)⟩,
      ⟨(some (65, true)), (some 66), .mv (.t 12)⟩,
      ⟨(some (65, true)), (some 67), .bin .eql (.t 66) (.c (.int .i64 1))⟩,
      ⟨none, (some 68), .pick (.t 65) (.t 67) (.c (.bool false))⟩])
    (.cond (.t 68) (.seq (.reg [⟨none, (some 69), .mv (.t 0)⟩,
      ⟨none, (some 70), .mv (.t 1)⟩,
      ⟨none, (some 71), .mv (.t 2)⟩,
      ⟨none, (some 72), .call 101 [(.t 69), (.t 70), (.t 71)]⟩])
    (.cond (.t 72) .ret
    .skip))
    .skip))
    (.seq (.seq (.reg [⟨none, (some 73), .mv (.t 1)⟩,
      ⟨none, (some 74), .bin .gtr (.t 73) (.c (.int .i64 0))⟩,
      ⟨none, (some 75), .mv (.t 74)⟩,
      ⟨(some (75, true)), (some 76), .mv (.t 0)⟩,
      ⟨(some (75, true)), (some 77), .mv (.t 1)⟩,
      ⟨(some (75, true)), (some 78), .bin .sub (.t 77) (.c (.int .i64 1))⟩,
      ⟨(some (75, true)), (some 79), .iaddr 1 (.t 76) (.t 78)⟩,
      ⟨(some (75, true)), (some 80), .load false 1 (.t 79)⟩,
      ⟨(some (75, true)), (some 81), .mv (.t 0)⟩,
      ⟨(some (75, true)), (some 82), .mv (.t 11)⟩,
      ⟨(some (75, true)), (some 83), .iaddr 1 (.t 81) (.t 82)⟩,
      ⟨(some (75, true)), (some 84), .load false 1 (.t 83)⟩,
      ⟨(some (75, true)), (some 85), .call 102 [(.t 80), (.t 84)]⟩,
      ⟨(some (75, true)), (some 86), .un .not (.t 85)⟩,
      ⟨none, (some 87), .pick (.t 75) (.t 86) (.c (.bool false))⟩])
    (.cond (.t 87) (.seq (.reg [⟨none, (some 88), .mv (.t 0)⟩,
      ⟨none, (some 89), .mv (.t 1)⟩,
      ⟨none, (some 90), .mv (.t 2)⟩,
      ⟨none, (some 91), .mv (.t 11)⟩,
      ⟨none, (some 92), .call 103 [(.t 88), (.t 89), (.t 90), (.t 91)]⟩,
      ⟨none, (some 13), .mv (.t 92)⟩])
    (.seq (.reg [⟨none, (some 93), .mv (.t 13)⟩,
      ⟨none, (some 1), .mv (.t 93)⟩])
    (.exit 1)))
    .skip))
    (.seq (.reg [⟨none, (some 95), .mv (.t 0)⟩,
      ⟨none, (some 96), .mv (.t 1)⟩,
      ⟨none, (some 97), .mv (.t 2)⟩,
      ⟨none, (some 98), .mv (.t 11)⟩,
      ⟨none, (some 99), .call 104 [(.t 95), (.t 96), (.t 97), (.t 98)]⟩,
      ⟨none, (some 94), .mv (.t 99)⟩,
      ⟨none, (some 100), .extract 0 (.t 94)⟩,
      ⟨none, (some 101), .extract 1 (.t 94)⟩,
      ⟨none, (some 14), .mv (.t 100)⟩,
      ⟨none, (some 15), .mv (.t 101)⟩])
    (.seq (.reg [⟨none, (some 102), .mv (.t 15)⟩,
      ⟨none, (some 9), .mv (.t 102)⟩])
    (.seq (.reg [⟨none, (some 103), .mv (.t 14)⟩,
      ⟨none, (some 104), .mv (.t 1)⟩,
      ⟨none, (some 105), .bin .sub (.t 103) (.t 104)⟩,
      ⟨none, (some 106), .mv (.t 2)⟩,
      ⟨none, (some 107), .mv (.t 14)⟩,
      ⟨none, (some 108), .bin .sub (.t 106) (.t 107)⟩,
      ⟨none, (some 16), .mv (.t 105)⟩,
      ⟨none, (some 17), .mv (.t 108)⟩])
    (.seq (.reg [⟨none, (some 109), .mv (.t 10)⟩,
      ⟨none, (some 110), .bin .quo (.t 109) (.c (.int .i64 8))⟩,
      ⟨none, (some 18), .mv (.t 110)⟩])
    (.seq (.reg [⟨none, (some 111), .mv (.t 16)⟩,
      ⟨none, (some 112), .mv (.t 17)⟩,
      ⟨none, (some 113), .bin .lss (.t 111) (.t 112)⟩])
    (.cond (.t 113) (.seq (.reg [⟨none, (some 114), .mv (.t 16)⟩,
      ⟨none, (some 115), .mv (.t 18)⟩,
      ⟨none, (some 116), .bin .geq (.t 114) (.t 115)⟩,
      ⟨none, (some 8), .mv (.t 116)⟩])
    (.seq (.reg [⟨none, (some 117), .mv (.t 0)⟩,
      ⟨none, (some 118), .mv (.t 1)⟩,
      ⟨none, (some 119), .mv (.t 14)⟩,
      ⟨none, (some 120), .mv (.t 3)⟩,
      ⟨none, (some 121), .callw 0 0 84 [(.t 117), (.t 118), (.t 119), (.t 120)]⟩])
    (.reg [⟨none, (some 122), .mv (.t 14)⟩,
      ⟨none, (some 123), .bin .add (.t 122) (.c (.int .i64 1))⟩,
      ⟨none, (some 1), .mv (.t 123)⟩])))
    (.seq (.reg [⟨none, (some 124), .mv (.t 17)⟩,
      ⟨none, (some 125), .mv (.t 18)⟩,
      ⟨none, (some 126), .bin .geq (.t 124) (.t 125)⟩,
      ⟨none, (some 8), .mv (.t 126)⟩])
    (.seq (.reg [⟨none, (some 127), .mv (.t 0)⟩,
      ⟨none, (some 128), .mv (.t 14)⟩,
      ⟨none, (some 129), .bin .add (.t 128) (.c (.int .i64 1))⟩,
      ⟨none, (some 130), .mv (.t 2)⟩,
      ⟨none, (some 131), .mv (.t 3)⟩,
      ⟨none, (some 132), .callw 0 0 84 [(.t 127), (.t 129), (.t 130), (.t 131)]⟩])
    (.reg [⟨none, (some 133), .mv (.t 14)⟩,
      ⟨none, (some 2), .mv (.t 133)⟩]))))))))))))))))))))))
theorem ok84 : FnOk Tryz.prog 84 134 0 c84 [] := ⟨_, _, Tryz.func84, rfl, rfl, by kernel_rfl, by kernel_rfl⟩
theorem bd84 : bodied Tryz.prog 84 = true := by kernel_rfl

/-- math/bits.Len -/
def c85 : CI := (.seq (.reg [⟨none, (some 2), .mv (.c (.int .i64 0))⟩])
    (.seq (.cond (.c (.bool false)) (.seq (.reg [⟨none, (some 3), .mv (.t 0)⟩,
      ⟨none, (some 4), .conv .u32 (.t 3)⟩,
      ⟨none, (some 5), .call 105 [(.t 4)]⟩,
      ⟨none, (some 2), .mv (.t 5)⟩])
    .ret)
    .skip)
    (.seq (.reg [⟨none, (some 6), .mv (.t 0)⟩,
      ⟨none, (some 7), .call 106 [(.t 6)]⟩,
      ⟨none, (some 2), .mv (.t 7)⟩])
    .ret)))
theorem ok85 : FnOk Tryz.prog 85 8 0 c85 [.t 2] := ⟨_, _, Tryz.func85, rfl, rfl, by kernel_rfl, by kernel_rfl⟩
theorem bd85 : bodied Tryz.prog 85 = true := by kernel_rfl

/-- ferrule/frames.validSection -/
def c86 : CI := (.seq (.reg [⟨none, (some 1), .box 0 true (.t 0)⟩,
      ⟨none, (some 2), .mv (.c (.bool false))⟩])
    (.seq (.reg [⟨none, (some 3), .faddr 0 (.t 1)⟩,
      ⟨none, (some 4), .load true 2 (.t 3)⟩,
      ⟨none, (some 5), .call 87 [(.t 4), (.c (.int .i64 6))]⟩,
      ⟨none, (some 6), .mv (.t 5)⟩,
      ⟨(some (6, true)), (some 7), .faddr 2 (.t 1)⟩,
      ⟨(some (6, true)), (some 8), .load true 2 (.t 7)⟩,
      ⟨(some (6, true)), (some 9), .call 87 [(.t 8), (.c (.int .i64 6))]⟩,
      ⟨none, (some 10), .pick (.t 6) (.t 9) (.c (.bool false))⟩,
      ⟨none, (some 11), .mv (.t 10)⟩,
      ⟨(some (11, true)), (some 12), .faddr 4 (.t 1)⟩,
      ⟨(some (11, true)), (some 13), .load false 1 (.t 12)⟩,
      ⟨(some (11, true)), (some 14), .call 89 [(.t 13), (.c (.int .i64 0)), (.c (.int .i64 2000))]⟩,
      ⟨none, (some 15), .pick (.t 11) (.t 14) (.c (.bool false))⟩,
      ⟨none, (some 16), .mv (.t 15)⟩,
      ⟨(some (16, true)), (some 17), .faddr 5 (.t 1)⟩,
      ⟨(some (16, true)), (some 18), .load true 2 (.t 17)⟩,
      ⟨(some (16, true)), (some 19), .call 88 [(.t 18)]⟩,
      ⟨none, (some 20), .pick (.t 16) (.t 19) (.c (.bool false))⟩,
      ⟨none, (some 2), .mv (.t 20)⟩])
    .ret))
theorem ok86 : FnOk Tryz.prog 86 21 1 c86 [.t 2] := ⟨_, _, Tryz.func86, rfl, rfl, by kernel_rfl, by kernel_rfl⟩
theorem bd86 : bodied Tryz.prog 86 = true := by kernel_rfl

/-- ferrule/frames.validSpan -/
def c87 : CI := (.seq (.reg [⟨none, (some 2), .box 0 true (.t 0)⟩,
      ⟨none, (some 4), .mv (.c (.bool false))⟩])
    (.seq (.reg [⟨none, (some 5), .faddr 0 (.t 2)⟩,
      ⟨none, (some 6), .load false 1 (.t 5)⟩,
      ⟨none, (some 7), .faddr 1 (.t 2)⟩,
      ⟨none, (some 8), .load false 1 (.t 7)⟩,
      ⟨none, (some 9), .call 89 [(.t 6), (.c (.int .i64 1)), (.t 8)]⟩,
      ⟨none, (some 10), .mv (.t 9)⟩,
      ⟨(some (10, true)), (some 11), .faddr 1 (.t 2)⟩,
      ⟨(some (10, true)), (some 12), .load false 1 (.t 11)⟩,
      ⟨(some (10, true)), (some 13), .bin .leq (.t 12) (.c (.int .i64 2000))⟩,
      ⟨none, (some 14), .pick (.t 10) (.t 13) (.c (.bool false))⟩,
      ⟨none, (some 15), .mv (.t 14)⟩,
      ⟨(some (15, true)), (some 16), .faddr 1 (.t 2)⟩,
      ⟨(some (15, true)), (some 17), .load false 1 (.t 16)⟩,
      ⟨(some (15, true)), (some 18), .faddr 0 (.t 2)⟩,
      ⟨(some (15, true)), (some 19), .load false 1 (.t 18)⟩,
      ⟨(some (15, true)), (some 20), .bin .sub (.t 17) (.t 19)⟩,
      ⟨(some (15, true)), (some 21), .mv (.t 1)⟩,
      ⟨(some (15, true)), (some 22), .bin .leq (.t 20) (.t 21)⟩,
      ⟨none, (some 23), .pick (.t 15) (.t 22) (.c (.bool false))⟩,
      ⟨none, (some 4), .mv (.t 23)⟩])
    .ret))
theorem ok87 : FnOk Tryz.prog 87 24 1 c87 [.t 4] := ⟨_, _, Tryz.func87, rfl, rfl, by kernel_rfl, by kernel_rfl⟩
theorem bd87 : bodied Tryz.prog 87 = true := by kernel_rfl

/-- ferrule/frames.validPart -/
def c88 : CI := (.seq (.reg [⟨none, (some 1), .box 0 true (.t 0)⟩,
      ⟨none, (some 2), .mv (.c (.bool false))⟩])
    (.seq (.reg [⟨none, (some 3), .faddr 1 (.t 1)⟩,
      ⟨none, (some 4), .load false 1 (.t 3)⟩,
      ⟨none, (some 5), .call 89 [(.t 4), (.c (.int .i64 1)), (.c (.int .i64 20))]⟩,
      ⟨none, (some 6), .mv (.t 5)⟩,
      ⟨(some (6, true)), (some 7), .faddr 0 (.t 1)⟩,
      ⟨(some (6, true)), (some 8), .load false 1 (.t 7)⟩,
      ⟨(some (6, true)), (some 9), .faddr 1 (.t 1)⟩,
      ⟨(some (6, true)), (some 10), .load false 1 (.t 9)⟩,
      ⟨(some (6, true)), (some 11), .call 89 [(.t 8), (.c (.int .i64 0)), (.t 10)]⟩,
      ⟨none, (some 12), .pick (.t 6) (.t 11) (.c (.bool false))⟩,
      ⟨none, (some 2), .mv (.t 12)⟩])
    .ret))
theorem ok88 : FnOk Tryz.prog 88 13 1 c88 [.t 2] := ⟨_, _, Tryz.func88, rfl, rfl, by kernel_rfl, by kernel_rfl⟩
theorem bd88 : bodied Tryz.prog 88 = true := by kernel_rfl

/-- ferrule/frames.within -/
def c89 : CI := (.seq (.reg [⟨none, (some 6), .mv (.c (.bool false))⟩])
    (.seq (.reg [⟨none, (some 7), .mv (.t 1)⟩,
      ⟨none, (some 8), .mv (.t 0)⟩,
      ⟨none, (some 9), .bin .leq (.t 7) (.t 8)⟩,
      ⟨none, (some 10), .mv (.t 9)⟩,
      ⟨(some (10, true)), (some 11), .mv (.t 0)⟩,
      ⟨(some (10, true)), (some 12), .mv (.t 2)⟩,
      ⟨(some (10, true)), (some 13), .bin .leq (.t 11) (.t 12)⟩,
      ⟨none, (some 14), .pick (.t 10) (.t 13) (.c (.bool false))⟩,
      ⟨none, (some 6), .mv (.t 14)⟩])
    .ret))
theorem ok89 : FnOk Tryz.prog 89 15 0 c89 [.t 6] := ⟨_, _, Tryz.func89, rfl, rfl, by kernel_rfl, by kernel_rfl⟩
theorem bd89 : bodied Tryz.prog 89 = true := by kernel_rfl

/-- ferrule/frames.checkSection -/
def c90 : CI := (.seq (.reg [⟨none, (some 2), .box 0 true (.t 0)⟩,
      ⟨none, (some 4), .mv (.c (.int .i64 0))⟩])
    (.seq (.seq (.reg [⟨none, (some 5), .load true 7 (.t 2)⟩,
      ⟨none, (some 6), .call 73 [(.t 5)]⟩,
      ⟨none, (some 7), .un .not (.t 6)⟩])
    (.cond (.t 7) (.seq (.reg [⟨none, (some 4), .mv (.c (.int .i64 10))⟩])
    .ret)
    .skip))
    (.seq (.seq (.reg [⟨none, (some 8), .mv (.t 1)⟩,
      ⟨none, (some 9), .faddr 0 (.t 2)⟩,
      ⟨none, (some 10), .load false 1 (.t 9)⟩,
      ⟨none, (some 11), .len (.t 10)⟩,
      ⟨none, (some 12), .bin .sub (.t 11) (.c (.int .i64 1))⟩,
      ⟨none, (some 13), .call 89 [(.t 8), (.c (.int .i64 0)), (.t 12)]⟩,
      ⟨none, (some 14), .un .not (.t 13)⟩])
    (.cond (.t 14) (.seq (.reg [⟨none, (some 4), .mv (.c (.int .i64 1))⟩])
    .ret)
    .skip))
    (.seq (.reg [⟨none, (some 4), .mv (.c (.int .i64 0))⟩])
    .ret))))
theorem ok90 : FnOk Tryz.prog 90 15 1 c90 [.t 4] := ⟨_, _, Tryz.func90, rfl, rfl, by kernel_rfl, by kernel_rfl⟩
theorem bd90 : bodied Tryz.prog 90 = true := by kernel_rfl

/-- ferrule/frames.cosine -/
def c91 : CI := (.seq (.reg [⟨none, (some 6), .alloc 0 [(.int .i64 0), (.int .i64 0)]⟩])
    (.seq (.reg [⟨none, (some 7), .mv (.t 0)⟩,
      ⟨none, (some 8), .mv (.t 0)⟩,
      ⟨none, (some 9), .bin .mul (.t 7) (.t 8)⟩,
      ⟨none, (some 10), .mv (.t 1)⟩,
      ⟨none, (some 11), .mv (.t 1)⟩,
      ⟨none, (some 12), .bin .mul (.t 10) (.t 11)⟩,
      ⟨none, (some 13), .bin .add (.t 9) (.t 12)⟩,
      ⟨none, (some 14), .mv (.t 2)⟩,
      ⟨none, (some 15), .mv (.t 2)⟩,
      ⟨none, (some 16), .bin .mul (.t 14) (.t 15)⟩,
      ⟨none, (some 17), .bin .sub (.t 13) (.t 16)⟩,
      ⟨none, (some 18), .mv (.t 0)⟩,
      ⟨none, (some 19), .bin .mul (.c (.int .i64 2)) (.t 18)⟩,
      ⟨none, (some 20), .mv (.t 1)⟩,
      ⟨none, (some 21), .bin .mul (.t 19) (.t 20)⟩,
      ⟨none, (some 22), .build [(.int .i64 0), (.int .i64 0)] [(0, 1, (.t 17)), (1, 1, (.t 21))]⟩,
      ⟨none, none, .store true 2 (.t 6) (.t 22) []⟩])
    .ret))
theorem ok91 : FnOk Tryz.prog 91 23 1 c91 [.cell 6 true 2] := ⟨_, _, Tryz.func91, rfl, rfl, by kernel_rfl, by kernel_rfl⟩
theorem bd91 : bodied Tryz.prog 91 = true := by kernel_rfl

/-- ferrule/frames.sides -/
def c92 : CI := (.seq (.reg [⟨none, (some 1), .box 0 true (.t 0)⟩,
      ⟨none, (some 2), .mv (.c (.lit (.nilFunc)))⟩])
    (.seq (.reg [⟨none, (some 3), .mkfn 107 [(.t 1)]⟩,
      ⟨none, (some 2), .mv (.t 3)⟩])
    .ret))
theorem ok92 : FnOk Tryz.prog 92 4 1 c92 [.t 2] := ⟨_, _, Tryz.func92, rfl, rfl, by kernel_rfl, by kernel_rfl⟩
theorem bd92 : bodied Tryz.prog 92 = true := by kernel_rfl

/-- ferrule/frames.less -/
def c93 : CI := (.seq (.reg [⟨none, (some 2), .box 0 true (.t 0)⟩,
      ⟨none, (some 3), .box 1 true (.t 1)⟩,
      ⟨none, (some 4), .mv (.c (.bool false))⟩])
    (.seq (.reg [⟨none, (some 5), .faddr 0 (.t 2)⟩,
      ⟨none, (some 6), .load false 1 (.t 5)⟩,
      ⟨none, (some 7), .faddr 1 (.t 3)⟩,
      ⟨none, (some 8), .load false 1 (.t 7)⟩,
      ⟨none, (some 9), .bin .mul (.t 6) (.t 8)⟩,
      ⟨none, (some 10), .faddr 0 (.t 3)⟩,
      ⟨none, (some 11), .load false 1 (.t 10)⟩,
      ⟨none, (some 12), .faddr 1 (.t 2)⟩,
      ⟨none, (some 13), .load false 1 (.t 12)⟩,
      ⟨none, (some 14), .bin .mul (.t 11) (.t 13)⟩,
      ⟨none, (some 15), .bin .lss (.t 9) (.t 14)⟩,
      ⟨none, (some 4), .mv (.t 15)⟩])
    .ret))
theorem ok93 : FnOk Tryz.prog 93 16 2 c93 [.t 4] := ⟨_, _, Tryz.func93, rfl, rfl, by kernel_rfl, by kernel_rfl⟩
theorem bd93 : bodied Tryz.prog 93 = true := by kernel_rfl

/-- ferrule/frames.divisor -/
def c94 : CI := (.seq (.reg [⟨none, (some 4), .mv (.c (.int .i64 0))⟩])
    (.seq (.block 0 (.loop (.seq (.seq (.reg [⟨none, (some 5), .mv (.t 0)⟩,
      ⟨none, (some 6), .bin .neq (.t 5) (.c (.int .i64 0))⟩])
    (.cond (.t 6) .skip
    (.exit 0)))
    (.block 1 (.reg [⟨none, (some 7), .mv (.t 1)⟩,
      ⟨none, (some 8), .mv (.t 0)⟩,
      ⟨none, (some 9), .bin .rem (.t 7) (.t 8)⟩,
      ⟨none, (some 10), .mv (.t 0)⟩,
      ⟨none, (some 0), .mv (.t 9)⟩,
      ⟨none, (some 1), .mv (.t 10)⟩])))))
    (.seq (.reg [⟨none, (some 11), .mv (.t 1)⟩,
      ⟨none, (some 4), .mv (.t 11)⟩])
    .ret)))
theorem ok94 : FnOk Tryz.prog 94 12 0 c94 [.t 4] := ⟨_, _, Tryz.func94, rfl, rfl, by kernel_rfl, by kernel_rfl⟩
theorem bd94 : bodied Tryz.prog 94 = true := by kernel_rfl

/-- ferrule/ferruleref01.Reduced -/
def c95 : CI := (.seq (.reg [⟨none, (some 4), .alloc 0 [(.int .i64 0), (.int .i64 0)]⟩])
    (.seq (.reg [⟨none, (some 7), .mv (.t 0)⟩,
      ⟨none, (some 8), .mv (.t 0)⟩,
      ⟨none, (some 9), .un .neg (.t 8)⟩,
      ⟨none, (some 10), .mm true [(.t 7), (.t 9)]⟩,
      ⟨none, (some 11), .mv (.t 1)⟩,
      ⟨none, (some 5), .mv (.t 10)⟩,
      ⟨none, (some 6), .mv (.t 11)⟩])
    (.seq (.block 0 (.loop (.seq (.seq (.reg [⟨none, (some 12), .mv (.t 6)⟩,
      ⟨none, (some 13), .bin .neq (.t 12) (.c (.int .i64 0))⟩])
    (.cond (.t 13) .skip
    (.exit 0)))
    (.block 1 (.reg [⟨none, (some 14), .mv (.t 6)⟩,
      ⟨none, (some 15), .mv (.t 5)⟩,
      ⟨none, (some 16), .mv (.t 6)⟩,
      ⟨none, (some 17), .bin .rem (.t 15) (.t 16)⟩,
      ⟨none, (some 5), .mv (.t 14)⟩,
      ⟨none, (some 6), .mv (.t 17)⟩])))))
    (.seq (.reg [⟨none, (some 18), .mv (.t 0)⟩,
      ⟨none, (some 19), .mv (.t 5)⟩,
      ⟨none, (some 20), .bin .quo (.t 18) (.t 19)⟩,
      ⟨none, (some 21), .mv (.t 1)⟩,
      ⟨none, (some 22), .mv (.t 5)⟩,
      ⟨none, (some 23), .bin .quo (.t 21) (.t 22)⟩,
      ⟨none, (some 24), .build [(.int .i64 0), (.int .i64 0)] [(0, 1, (.t 20)), (1, 1, (.t 23))]⟩,
      ⟨none, none, .store true 2 (.t 4) (.t 24) []⟩])
    .ret))))
theorem ok95 : FnOk Tryz.prog 95 25 1 c95 [.cell 4 true 2] := ⟨_, _, Tryz.func95, rfl, rfl, by kernel_rfl, by kernel_rfl⟩
theorem bd95 : bodied Tryz.prog 95 = true := by kernel_rfl

/-- slices.insertionSortOrdered[int] -/
def c96 : CI := (.seq (.reg [⟨none, (some 8), .mv (.t 1)⟩,
      ⟨none, (some 9), .bin .add (.t 8) (.c (.int .i64 1))⟩,
      ⟨none, (some 6), .mv (.t 9)⟩])
    (.block 0 (.loop (.seq (.seq (.reg [⟨none, (some 10), .mv (.t 6)⟩,
      ⟨none, (some 11), .mv (.t 2)⟩,
      ⟨none, (some 12), .bin .lss (.t 10) (.t 11)⟩])
    (.cond (.t 12) .skip
    (.exit 0)))
    (.seq (.block 1 (.seq (.reg [⟨none, (some 15), .mv (.t 6)⟩,
      ⟨none, (some 7), .mv (.t 15)⟩])
    (.block 2 (.loop (.seq (.seq (.reg [⟨none, (some 16), .mv (.t 7)⟩,
      ⟨none, (some 17), .mv (.t 1)⟩,
      ⟨none, (some 18), .bin .gtr (.t 16) (.t 17)⟩,
      ⟨none, (some 19), .mv (.t 18)⟩,
      ⟨(some (19, true)), (some 20), .mv (.t 0)⟩,
      ⟨(some (19, true)), (some 21), .mv (.t 7)⟩,
      ⟨(some (19, true)), (some 22), .iaddr 1 (.t 20) (.t 21)⟩,
      ⟨(some (19, true)), (some 23), .load false 1 (.t 22)⟩,
      ⟨(some (19, true)), (some 24), .mv (.t 0)⟩,
      ⟨(some (19, true)), (some 25), .mv (.t 7)⟩,
      ⟨(some (19, true)), (some 26), .bin .sub (.t 25) (.c (.int .i64 1))⟩,
      ⟨(some (19, true)), (some 27), .iaddr 1 (.t 24) (.t 26)⟩,
      ⟨(some (19, true)), (some 28), .load false 1 (.t 27)⟩,
      ⟨(some (19, true)), (some 29), .call 102 [(.t 23), (.t 28)]⟩,
      ⟨none, (some 30), .pick (.t 19) (.t 29) (.c (.bool false))⟩])
    (.cond (.t 30) .skip
    (.exit 2)))
    (.seq (.block 3 (.reg [⟨none, (some 33), .mv (.t 0)⟩,
      ⟨none, (some 34), .mv (.t 7)⟩,
      ⟨none, (some 35), .mv (.t 0)⟩,
      ⟨none, (some 36), .mv (.t 7)⟩,
      ⟨none, (some 37), .bin .sub (.t 36) (.c (.int .i64 1))⟩,
      ⟨none, (some 38), .mv (.t 0)⟩,
      ⟨none, (some 39), .mv (.t 7)⟩,
      ⟨none, (some 40), .bin .sub (.t 39) (.c (.int .i64 1))⟩,
      ⟨none, (some 41), .iaddr 1 (.t 38) (.t 40)⟩,
      ⟨none, (some 42), .load false 1 (.t 41)⟩,
      ⟨none, (some 43), .mv (.t 0)⟩,
      ⟨none, (some 44), .mv (.t 7)⟩,
      ⟨none, (some 45), .iaddr 1 (.t 43) (.t 44)⟩,
      ⟨none, (some 46), .load false 1 (.t 45)⟩,
      ⟨none, (some 47), .iaddr 1 (.t 33) (.t 34)⟩,
      ⟨none, none, .store false 1 (.t 47) (.t 42) []⟩,
      ⟨none, (some 48), .iaddr 1 (.t 35) (.t 37)⟩,
      ⟨none, none, .store false 1 (.t 48) (.t 46) []⟩]))
    (.reg [⟨none, (some 31), .mv (.t 7)⟩,
      ⟨none, (some 32), .bin .sub (.t 31) (.c (.int .i64 1))⟩,
      ⟨none, (some 7), .mv (.t 32)⟩])))))))
    (.reg [⟨none, (some 13), .mv (.t 6)⟩,
      ⟨none, (some 14), .bin .add (.t 13) (.c (.int .i64 1))⟩,
      ⟨none, (some 6), .mv (.t 14)⟩]))))))
theorem ok96 : FnOk Tryz.prog 96 49 0 c96 [] := ⟨_, _, Tryz.func96, rfl, rfl, by kernel_rfl, by kernel_rfl⟩
theorem bd96 : bodied Tryz.prog 96 = true := by kernel_rfl

/-- cmp.Less[int] -/
def c102 : CI := (.seq (.reg [⟨none, (some 4), .mv (.c (.bool false))⟩])
    (.seq (.reg [⟨none, (some 5), .mv (.t 0)⟩,
      ⟨none, (some 6), .call 113 [(.t 5)]⟩,
      ⟨none, (some 7), .mv (.t 6)⟩,
      ⟨(some (7, true)), (some 8), .mv (.t 1)⟩,
      ⟨(some (7, true)), (some 9), .call 113 [(.t 8)]⟩,
      ⟨(some (7, true)), (some 10), .un .not (.t 9)⟩,
      ⟨none, (some 11), .pick (.t 7) (.t 10) (.c (.bool false))⟩,
      ⟨none, (some 12), .mv (.t 11)⟩,
      ⟨(some (12, false)), (some 13), .mv (.t 0)⟩,
      ⟨(some (12, false)), (some 14), .mv (.t 1)⟩,
      ⟨(some (12, false)), (some 15), .bin .lss (.t 13) (.t 14)⟩,
      ⟨none, (some 16), .pick (.t 12) (.c (.bool true)) (.t 15)⟩,
      ⟨none, (some 4), .mv (.t 16)⟩])
    .ret))
theorem ok102 : FnOk Tryz.prog 102 17 0 c102 [.t 4] := ⟨_, _, Tryz.func102, rfl, rfl, by kernel_rfl, by kernel_rfl⟩
theorem bd102 : bodied Tryz.prog 102 = true := by kernel_rfl

/-- math/bits.Len32 -/
def c105 : CI := (.seq (.reg [⟨none, (some 2), .mv (.c (.int .i64 0))⟩])
    (.seq (.seq (.reg [⟨none, (some 3), .mv (.t 0)⟩,
      ⟨none, (some 4), .bin .geq (.t 3) (.c (.int .u32 65536))⟩])
    (.cond (.t 4) (.seq (.reg [⟨none, (some 5), .mv (.t 0)⟩,
      ⟨none, (some 6), .bin .shr (.t 5) (.c (.int .u64 16))⟩,
      ⟨none, (some 0), .mv (.t 6)⟩])
    (.reg [⟨none, (some 2), .mv (.c (.int .i64 16))⟩]))
    .skip))
    (.seq (.seq (.reg [⟨none, (some 7), .mv (.t 0)⟩,
      ⟨none, (some 8), .bin .geq (.t 7) (.c (.int .u32 256))⟩])
    (.cond (.t 8) (.seq (.reg [⟨none, (some 9), .mv (.t 0)⟩,
      ⟨none, (some 10), .bin .shr (.t 9) (.c (.int .u64 8))⟩,
      ⟨none, (some 0), .mv (.t 10)⟩])
    (.reg [⟨none, (some 11), .mv (.t 2)⟩,
      ⟨none, (some 12), .bin .add (.t 11) (.c (.int .i64 8))⟩,
      ⟨none, (some 2), .mv (.t 12)⟩]))
    .skip))
    (.seq (.reg [⟨none, (some 13), .mv (.t 2)⟩,
      ⟨none, (some 14), .mv (.t 0)⟩,
      ⟨none, (some 15), .conv .u8 (.t 14)⟩,
      ⟨none, (some 16), .sidx (.c (.str [0, 1, 2, 2, 3, 3, 3, 3, 4, 4, 4, 4, 4, 4, 4, 4, 5, 5, 5, 5, 5, 5, 5, 5, 5, 5, 5, 5, 5, 5, 5, 5, 6, 6, 6, 6, 6, 6, 6, 6, 6, 6, 6, 6, 6, 6, 6, 6, 6, 6, 6, 6, 6, 6, 6, 6, 6, 6, 6, 6, 6, 6, 6, 6, 7, 7, 7, 7, 7, 7, 7, 7, 7, 7, 7, 7, 7, 7, 7, 7, 7, 7, 7, 7, 7, 7, 7, 7, 7, 7, 7, 7, 7, 7, 7, 7, 7, 7, 7, 7, 7, 7, 7, 7, 7, 7, 7, 7, 7, 7, 7, 7, 7, 7, 7, 7, 7, 7, 7, 7, 7, 7, 7, 7, 7, 7, 7, 7, 8, 8, 8, 8, 8, 8, 8, 8, 8, 8, 8, 8, 8, 8, 8, 8, 8, 8, 8, 8, 8, 8, 8, 8, 8, 8, 8, 8, 8, 8, 8, 8, 8, 8, 8, 8, 8, 8, 8, 8, 8, 8, 8, 8, 8, 8, 8, 8, 8, 8, 8, 8, 8, 8, 8, 8, 8, 8, 8, 8, 8, 8, 8, 8, 8, 8, 8, 8, 8, 8, 8, 8, 8, 8, 8, 8, 8, 8, 8, 8, 8, 8, 8, 8, 8, 8, 8, 8, 8, 8, 8, 8, 8, 8, 8, 8, 8, 8, 8, 8, 8, 8, 8, 8, 8, 8, 8, 8, 8, 8, 8, 8, 8, 8, 8, 8, 8, 8, 8, 8, 8, 8, 8, 8, 8, 8, 8, 8])) (.t 15)⟩,
      ⟨none, (some 17), .conv .i64 (.t 16)⟩,
      ⟨none, (some 18), .bin .add (.t 13) (.t 17)⟩,
      ⟨none, (some 2), .mv (.t 18)⟩])
    .ret))))
theorem ok105 : FnOk Tryz.prog 105 19 0 c105 [.t 2] := ⟨_, _, Tryz.func105, rfl, rfl, by kernel_rfl, by kernel_rfl⟩
theorem bd105 : bodied Tryz.prog 105 = true := by kernel_rfl

/-- math/bits.Len64 -/
def c106 : CI := (.seq (.reg [⟨none, (some 2), .mv (.c (.int .i64 0))⟩])
    (.seq (.seq (.reg [⟨none, (some 3), .mv (.t 0)⟩,
      ⟨none, (some 4), .bin .geq (.t 3) (.c (.int .u64 4294967296))⟩])
    (.cond (.t 4) (.seq (.reg [⟨none, (some 5), .mv (.t 0)⟩,
      ⟨none, (some 6), .bin .shr (.t 5) (.c (.int .u64 32))⟩,
      ⟨none, (some 0), .mv (.t 6)⟩])
    (.reg [⟨none, (some 2), .mv (.c (.int .i64 32))⟩]))
    .skip))
    (.seq (.seq (.reg [⟨none, (some 7), .mv (.t 0)⟩,
      ⟨none, (some 8), .bin .geq (.t 7) (.c (.int .u64 65536))⟩])
    (.cond (.t 8) (.seq (.reg [⟨none, (some 9), .mv (.t 0)⟩,
      ⟨none, (some 10), .bin .shr (.t 9) (.c (.int .u64 16))⟩,
      ⟨none, (some 0), .mv (.t 10)⟩])
    (.reg [⟨none, (some 11), .mv (.t 2)⟩,
      ⟨none, (some 12), .bin .add (.t 11) (.c (.int .i64 16))⟩,
      ⟨none, (some 2), .mv (.t 12)⟩]))
    .skip))
    (.seq (.seq (.reg [⟨none, (some 13), .mv (.t 0)⟩,
      ⟨none, (some 14), .bin .geq (.t 13) (.c (.int .u64 256))⟩])
    (.cond (.t 14) (.seq (.reg [⟨none, (some 15), .mv (.t 0)⟩,
      ⟨none, (some 16), .bin .shr (.t 15) (.c (.int .u64 8))⟩,
      ⟨none, (some 0), .mv (.t 16)⟩])
    (.reg [⟨none, (some 17), .mv (.t 2)⟩,
      ⟨none, (some 18), .bin .add (.t 17) (.c (.int .i64 8))⟩,
      ⟨none, (some 2), .mv (.t 18)⟩]))
    .skip))
    (.seq (.reg [⟨none, (some 19), .mv (.t 2)⟩,
      ⟨none, (some 20), .mv (.t 0)⟩,
      ⟨none, (some 21), .conv .u8 (.t 20)⟩,
      ⟨none, (some 22), .sidx (.c (.str [0, 1, 2, 2, 3, 3, 3, 3, 4, 4, 4, 4, 4, 4, 4, 4, 5, 5, 5, 5, 5, 5, 5, 5, 5, 5, 5, 5, 5, 5, 5, 5, 6, 6, 6, 6, 6, 6, 6, 6, 6, 6, 6, 6, 6, 6, 6, 6, 6, 6, 6, 6, 6, 6, 6, 6, 6, 6, 6, 6, 6, 6, 6, 6, 7, 7, 7, 7, 7, 7, 7, 7, 7, 7, 7, 7, 7, 7, 7, 7, 7, 7, 7, 7, 7, 7, 7, 7, 7, 7, 7, 7, 7, 7, 7, 7, 7, 7, 7, 7, 7, 7, 7, 7, 7, 7, 7, 7, 7, 7, 7, 7, 7, 7, 7, 7, 7, 7, 7, 7, 7, 7, 7, 7, 7, 7, 7, 7, 8, 8, 8, 8, 8, 8, 8, 8, 8, 8, 8, 8, 8, 8, 8, 8, 8, 8, 8, 8, 8, 8, 8, 8, 8, 8, 8, 8, 8, 8, 8, 8, 8, 8, 8, 8, 8, 8, 8, 8, 8, 8, 8, 8, 8, 8, 8, 8, 8, 8, 8, 8, 8, 8, 8, 8, 8, 8, 8, 8, 8, 8, 8, 8, 8, 8, 8, 8, 8, 8, 8, 8, 8, 8, 8, 8, 8, 8, 8, 8, 8, 8, 8, 8, 8, 8, 8, 8, 8, 8, 8, 8, 8, 8, 8, 8, 8, 8, 8, 8, 8, 8, 8, 8, 8, 8, 8, 8, 8, 8, 8, 8, 8, 8, 8, 8, 8, 8, 8, 8, 8, 8, 8, 8, 8, 8, 8, 8])) (.t 21)⟩,
      ⟨none, (some 23), .conv .i64 (.t 22)⟩,
      ⟨none, (some 24), .bin .add (.t 19) (.t 23)⟩,
      ⟨none, (some 2), .mv (.t 24)⟩])
    .ret)))))
theorem ok106 : FnOk Tryz.prog 106 25 0 c106 [.t 2] := ⟨_, _, Tryz.func106, rfl, rfl, by kernel_rfl, by kernel_rfl⟩
theorem bd106 : bodied Tryz.prog 106 = true := by kernel_rfl

/-- ferrule/frames.sides$1 -/
def c107 : CI := (.seq (.reg [⟨none, (some 5), .faddr 0 (.t 1)⟩,
      ⟨none, (some 6), .faddr 0 (.t 5)⟩,
      ⟨none, (some 7), .load false 1 (.t 6)⟩,
      ⟨none, (some 3), .mv (.t 7)⟩])
    (.block 0 (.loop (.seq (.seq (.reg [⟨none, (some 8), .mv (.t 3)⟩,
      ⟨none, (some 9), .faddr 0 (.t 1)⟩,
      ⟨none, (some 10), .faddr 1 (.t 9)⟩,
      ⟨none, (some 11), .load false 1 (.t 10)⟩,
      ⟨none, (some 12), .bin .leq (.t 8) (.t 11)⟩])
    (.cond (.t 12) .skip
    (.exit 0)))
    (.seq (.block 1 (.seq (.reg [⟨none, (some 15), .faddr 2 (.t 1)⟩,
      ⟨none, (some 16), .faddr 0 (.t 15)⟩,
      ⟨none, (some 17), .load false 1 (.t 16)⟩,
      ⟨none, (some 4), .mv (.t 17)⟩])
    (.block 2 (.loop (.seq (.seq (.reg [⟨none, (some 18), .mv (.t 4)⟩,
      ⟨none, (some 19), .faddr 2 (.t 1)⟩,
      ⟨none, (some 20), .faddr 1 (.t 19)⟩,
      ⟨none, (some 21), .load false 1 (.t 20)⟩,
      ⟨none, (some 22), .bin .leq (.t 18) (.t 21)⟩])
    (.cond (.t 22) .skip
    (.exit 2)))
    (.seq (.block 3 (.seq (.reg [⟨none, (some 25), .mv (.t 0)⟩,
      ⟨none, (some 26), .mv (.t 3)⟩,
      ⟨none, (some 27), .mv (.t 4)⟩,
      ⟨none, (some 28), .callx (.t 25) [(.t 26), (.t 27)]⟩,
      ⟨none, (some 29), .un .not (.t 28)⟩])
    (.cond (.t 29) .ret
    .skip)))
    (.reg [⟨none, (some 23), .mv (.t 4)⟩,
      ⟨none, (some 24), .bin .add (.t 23) (.c (.int .i64 1))⟩,
      ⟨none, (some 4), .mv (.t 24)⟩])))))))
    (.reg [⟨none, (some 13), .mv (.t 3)⟩,
      ⟨none, (some 14), .bin .add (.t 13) (.c (.int .i64 1))⟩,
      ⟨none, (some 3), .mv (.t 14)⟩]))))))
theorem ok107 : FnOk Tryz.prog 107 30 0 c107 [] := ⟨_, _, Tryz.func107, rfl, rfl, by kernel_rfl, by kernel_rfl⟩
theorem bd107 : bodied Tryz.prog 107 = true := by kernel_rfl

/-- cmp.isNaN[int] -/
def c113 : CI := (.seq (.reg [⟨none, (some 2), .mv (.c (.bool false))⟩])
    (.seq (.reg [⟨none, (some 3), .mv (.t 0)⟩,
      ⟨none, (some 4), .mv (.t 0)⟩,
      ⟨none, (some 5), .bin .neq (.t 3) (.t 4)⟩,
      ⟨none, (some 2), .mv (.t 5)⟩])
    .ret))
theorem ok113 : FnOk Tryz.prog 113 6 0 c113 [.t 2] := ⟨_, _, Tryz.func113, rfl, rfl, by kernel_rfl, by kernel_rfl⟩
theorem bd113 : bodied Tryz.prog 113 = true := by kernel_rfl

end Go.Proofs
