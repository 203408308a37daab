/- The functions of this program as the walk reads them, each proved to be what the program holds. -/
import Derived.Test.YtkkpokakjblenaaEng3
import Derived.Test.YtkkpokakjblenaaProg
import Derived.KernelRfl
namespace Go.Proofs
open Go.Eng
set_option maxRecDepth 100000

/-- ferrule/ferrulelaw04.SeamsTrue -/
def c3 : CI := (.seq (.reg [⟨none, some 3, .box 0 true (.t 0)⟩, ⟨none, some 6, .mv (.c (.bool false))⟩]) (.seq (.seq (.reg [⟨none, some 12, .load true
 11 (.t 3)⟩, ⟨none, some 13, .call 17 [(.t 12)]⟩, ⟨none, some 14, .mv (.t 13)⟩, ⟨(some (14, false)), (some 15), .load true 11 (.t 3)⟩, ⟨(some (14, false)),
 (some 16), .call 18 [(.t 15)]⟩, ⟨(some (14, false)), (some 17), .bin .neq (.t 16) (.c (.int .i64 0))⟩, ⟨none, some 18, .pick (.t 14) (.c (.bool true))
 (.t 17)⟩, ⟨none, some 19, .mv (.t 18)⟩, ⟨(some (19, false)), (some 20), .faddr 0 (.t 3)⟩, ⟨(some (19, false)), (some 21), .load true 6 (.t 20)⟩, ⟨(some
 (19, false)), (some 22), .mv (.t 1)⟩, ⟨(some (19, false)), (some 23), .call 19 [(.t 21), (.t 22)]⟩, ⟨(some (19, false)), (some 24), .un .not (.t 23)⟩,
 ⟨none, some 25, .pick (.t 19) (.c (.bool true)) (.t 24)⟩, ⟨none, some 26, .mv (.t 25)⟩, ⟨(some (26, false)), (some 27), .mv (.t 2)⟩, ⟨(some (26, false)),
 (some 28), .bin .lss (.t 27) (.c (.int .i64 0))⟩, ⟨none, some 29, .pick (.t 26) (.c (.bool true)) (.t 28)⟩, ⟨none, some 30, .mv (.t 29)⟩, ⟨(some (30, false)),
 (some 31), .mv (.t 2)⟩, ⟨(some (30, false)), (some 32), .faddr 9 (.t 3)⟩, ⟨(some (30, false)), (some 33), .load false 1 (.t 32)⟩, ⟨(some (30, false)),
 (some 34), .len (.t 33)⟩, ⟨(some (30, false)), (some 35), .bin .geq (.t 31) (.t 34)⟩, ⟨none, some 36, .pick (.t 30) (.c (.bool true)) (.t 35)⟩]) (.cond
 (.t 36) (.seq (.reg [⟨none, some 37, .call 20 []⟩, ⟨none, some 6, .mv (.t 37)⟩]) .ret) .skip)) (.seq (.reg [⟨none, some 39, .load true 11 (.t 3)⟩, ⟨none,
 some 40, .mv (.t 2)⟩, ⟨none, some 41, .call 21 [(.t 39), (.t 40)]⟩, ⟨none, some 38, .mv (.t 41)⟩, ⟨none, some 42, .extract 0 (.t 38)⟩, ⟨none, some 43,
 .extract 1 (.t 38)⟩, ⟨none, some 7, .mv (.t 42)⟩, ⟨none, some 8, .mv (.t 43)⟩]) (.seq (.reg [⟨none, some 45, .load true 11 (.t 3)⟩, ⟨none, some 46, .callw
 1 1 22 [(.t 45)]⟩, ⟨none, some 44, .mv (.t 46)⟩, ⟨none, some 47, .extract 0 (.t 44)⟩, ⟨none, some 48, .extract 1 (.t 44)⟩, ⟨none, some 9, .mv (.t 47)⟩,
 ⟨none, some 10, .mv (.t 48)⟩]) (.seq (.seq (.reg [⟨none, some 49, .mv (.t 8)⟩, ⟨none, some 50, .bin .neq (.t 49) (.c (.int .i64 0))⟩, ⟨none, some 51, .mv
 (.t 50)⟩, ⟨(some (51, false)), (some 52), .mv (.t 10)⟩, ⟨(some (51, false)), (some 53), .bin .neq (.t 52) (.c (.int .i64 0))⟩, ⟨none, some 54, .pick (.t
 51) (.c (.bool true)) (.t 53)⟩, ⟨none, some 55, .mv (.t 54)⟩, ⟨(some (55, false)), (some 56), .mv (.t 9)⟩, ⟨(some (55, false)), (some 57), .mv (.t 2)⟩,
 ⟨(some (55, false)), (some 58), .call 23 [(.t 56), (.t 57)]⟩, ⟨(some (55, false)), (some 59), .mv (.t 7)⟩, ⟨(some (55, false)), (some 60), .bin .neq (.t
 59) (.c (.int .i64 1))⟩, ⟨(some (55, false)), (some 61), .eqb true (.t 58) (.t 60)⟩, ⟨none, some 62, .pick (.t 55) (.c (.bool true)) (.t 61)⟩]) (.cond
 (.t 62) (.seq (.reg [⟨none, some 6, .mv (.c (.bool false))⟩]) .ret) .skip)) (.seq (.reg [⟨none, some 63, .load true 11 (.t 3)⟩, ⟨none, some 64, .faddr
 9 (.t 3)⟩, ⟨none, some 65, .load false 1 (.t 64)⟩, ⟨none, some 66, .mv (.t 2)⟩, ⟨none, some 67, .mv (.t 1)⟩, ⟨none, some 68, .faddr 0 (.t 3)⟩, ⟨none, some
 69, .faddr 1 (.t 68)⟩, ⟨none, some 70, .load false 1 (.t 69)⟩, ⟨none, some 71, .mv (.t 2)⟩, ⟨none, some 72, .iaddr 1 (.t 70) (.t 71)⟩, ⟨none, some 73,
 .load false 1 (.t 72)⟩, ⟨none, some 74, .iaddr 1 (.t 67) (.t 73)⟩, ⟨none, some 75, .load false 1 (.t 74)⟩, ⟨none, some 76, .call 24 [(.t 63), (.t 65),
 (.t 66), (.t 75)]⟩, ⟨none, some 11, .mv (.t 76)⟩]) (.seq (.reg [⟨none, some 77, .mv (.t 7)⟩, ⟨none, some 78, .bin .eql (.t 77) (.c (.int .i64 1))⟩, ⟨none,
 some 79, .mv (.t 78)⟩, ⟨(some (79, true)), (some 80), .mv (.t 11)⟩, ⟨none, some 81, .pick (.t 79) (.t 80) (.c (.bool false))⟩, ⟨none, some 82, .mv (.t
 81)⟩, ⟨(some (82, false)), (some 83), .mv (.t 7)⟩, ⟨(some (82, false)), (some 84), .bin .eql (.t 83) (.c (.int .i64 2))⟩, ⟨(some (82, false)), (some 85),
 .mv (.t 84)⟩, ⟨(some (85, true)), (some 86), .mv (.t 11)⟩, ⟨(some (85, true)), (some 87), .un .not (.t 86)⟩, ⟨(some (82, false)), (some 88), .pick (.t
 85) (.t 87) (.c (.bool false))⟩, ⟨none, some 89, .pick (.t 82) (.c (.bool true)) (.t 88)⟩, ⟨none, some 90, .mv (.t 89)⟩, ⟨(some (90, false)), (some 91),
 .mv (.t 7)⟩, ⟨(some (90, false)), (some 92), .bin .eql (.t 91) (.c (.int .i64 3))⟩, ⟨none, some 93, .pick (.t 90) (.c (.bool true)) (.t 92)⟩, ⟨none, some
 94, .mv (.t 93)⟩, ⟨(some (94, true)), (some 95), .call 20 []⟩, ⟨none, some 96, .pick (.t 94) (.t 95) (.c (.bool false))⟩, ⟨none, some 6, .mv (.t 96)⟩])
 .ret)))))))
theorem ok3 : FnOk Try.prog 3 97 2 c3 [.t 6] := ⟨_, _, Try.func3, rfl, rfl, by kernel_rfl, by kernel_rfl⟩
theorem bd3 : bodied Try.prog 3 = true := by kernel_rfl

/-- ferrule/ferrulelaw04.SeamsLess -/
def c4 : CI := (.seq (.reg [⟨none, some 2, .box 0 true (.t 0)⟩, ⟨none, some 4, .mv (.c (.bool false))⟩]) (.seq (.seq (.reg [⟨none, some 11, .load true
 11 (.t 2)⟩, ⟨none, some 12, .call 25 [(.t 11)]⟩, ⟨none, some 13, .un .not (.t 12)⟩, ⟨none, some 14, .mv (.t 13)⟩, ⟨(some (14, false)), (some 15), .mv (.t
 1)⟩, ⟨(some (14, false)), (some 16), .len (.t 15)⟩, ⟨(some (14, false)), (some 17), .bin .gtr (.t 16) (.c (.int .i64 20))⟩, ⟨none, some 18, .pick (.t 14)
 (.c (.bool true)) (.t 17)⟩]) (.cond (.t 18) (.seq (.reg [⟨none, some 19, .call 20 []⟩, ⟨none, some 4, .mv (.t 19)⟩]) .ret) .skip)) (.seq (.reg [⟨none,
 some 21, .load true 11 (.t 2)⟩, ⟨none, some 22, .call 26 [(.t 21)]⟩, ⟨none, some 20, .mv (.t 22)⟩, ⟨none, some 23, .extract 0 (.t 20)⟩, ⟨none, some 24,
 .extract 1 (.t 20)⟩, ⟨none, some 5, .mv (.t 23)⟩, ⟨none, some 6, .mv (.t 24)⟩]) (.seq (.reg [⟨none, some 26, .load true 11 (.t 2)⟩, ⟨none, some 27, .callw
 1 1 22 [(.t 26)]⟩, ⟨none, some 25, .mv (.t 27)⟩, ⟨none, some 28, .extract 0 (.t 25)⟩, ⟨none, some 29, .extract 1 (.t 25)⟩, ⟨none, some 7, .mv (.t 28)⟩,
 ⟨none, some 8, .mv (.t 29)⟩]) (.seq (.seq (.reg [⟨none, some 30, .mv (.t 6)⟩, ⟨none, some 31, .bin .neq (.t 30) (.c (.int .i64 0))⟩, ⟨none, some 32, .mv
 (.t 31)⟩, ⟨(some (32, true)), (some 33), .mv (.t 6)⟩, ⟨(some (32, true)), (some 34), .bin .neq (.t 33) (.c (.int .i64 3))⟩, ⟨none, some 35, .pick (.t 32)
 (.t 34) (.c (.bool false))⟩, ⟨none, some 36, .mv (.t 35)⟩, ⟨(some (36, false)), (some 37), .mv (.t 8)⟩, ⟨(some (36, false)), (some 38), .bin .neq (.t 37)
 (.c (.int .i64 0))⟩, ⟨none, some 39, .pick (.t 36) (.c (.bool true)) (.t 38)⟩, ⟨none, some 40, .mv (.t 39)⟩, ⟨(some (40, false)), (some 41), .mv (.t 7)⟩,
 ⟨(some (40, false)), (some 42), .len (.t 41)⟩, ⟨(some (40, false)), (some 43), .bin .eql (.t 42) (.c (.int .i64 0))⟩, ⟨(some (40, false)), (some 44), .load
 true 11 (.t 2)⟩, ⟨(some (40, false)), (some 45), .faddr 9 (.t 2)⟩, ⟨(some (40, false)), (some 46), .load false 1 (.t 45)⟩, ⟨(some (40, false)), (some 47),
 .call 27 [(.t 44), (.t 46)]⟩, ⟨(some (40, false)), (some 48), .eqb true (.t 43) (.t 47)⟩, ⟨none, some 49, .pick (.t 40) (.c (.bool true)) (.t 48)⟩]) (.cond
 (.t 49) (.seq (.reg [⟨none, some 4, .mv (.c (.bool false))⟩]) .ret) .skip)) (.seq (.seq (.reg [⟨none, some 50, .load true 11 (.t 2)⟩, ⟨none, some 51, .mv
 (.t 1)⟩, ⟨none, some 52, .call 27 [(.t 50), (.t 51)]⟩, ⟨none, some 53, .un .not (.t 52)⟩]) (.cond (.t 53) (.seq (.reg [⟨none, some 54, .call 20 []⟩, ⟨none,
 some 4, .mv (.t 54)⟩]) .ret) .skip)) (.seq (.reg [⟨none, some 9, .mv (.c (.int .i64 0))⟩]) (.seq (.seq (.reg [⟨none, some 10, .mv (.c (.int .i64 0))⟩])
 (.block 0 (.loop (.seq (.seq (.reg [⟨none, some 55, .mv (.t 10)⟩, ⟨none, some 56, .mv (.t 1)⟩, ⟨none, some 57, .len (.t 56)⟩, ⟨none, some 58, .bin .lss
 (.t 55) (.t 57)⟩]) (.cond (.t 58) .skip (.exit 0))) (.seq (.block 1 (.reg [⟨none, some 61, .mv (.t 9)⟩, ⟨none, some 62, .mv (.t 1)⟩, ⟨none, some 63, .mv
 (.t 10)⟩, ⟨none, some 64, .iaddr 1 (.t 62) (.t 63)⟩, ⟨none, some 65, .load false 1 (.t 64)⟩, ⟨none, some 66, .bin .add (.t 61) (.t 65)⟩, ⟨none, some 9,
 .mv (.t 66)⟩])) (.reg [⟨none, some 59, .mv (.t 10)⟩, ⟨none, some 60, .bin .add (.t 59) (.c (.int .i64 1))⟩, ⟨none, some 10, .mv (.t 60)⟩])))))) (.seq (.reg
 [⟨none, some 67, .mv (.t 6)⟩, ⟨none, some 68, .bin .eql (.t 67) (.c (.int .i64 0))⟩, ⟨none, some 69, .mv (.t 68)⟩, ⟨(some (69, true)), (some 70), .mv (.t
 5)⟩, ⟨(some (69, true)), (some 71), .bin .geq (.t 70) (.c (.int .i64 0))⟩, ⟨none, some 72, .pick (.t 69) (.t 71) (.c (.bool false))⟩, ⟨none, some 73, .mv
 (.t 72)⟩, ⟨(some (73, true)), (some 74), .mv (.t 5)⟩, ⟨(some (73, true)), (some 75), .mv (.t 9)⟩, ⟨(some (73, true)), (some 76), .bin .leq (.t 74) (.t
 75)⟩, ⟨none, some 77, .pick (.t 73) (.t 76) (.c (.bool false))⟩, ⟨none, some 78, .mv (.t 77)⟩, ⟨(some (78, true)), (some 79), .call 20 []⟩, ⟨none, some
 80, .pick (.t 78) (.t 79) (.c (.bool false))⟩, ⟨none, some 4, .mv (.t 80)⟩]) .ret)))))))))
theorem ok4 : FnOk Try.prog 4 81 2 c4 [.t 4] := ⟨_, _, Try.func4, rfl, rfl, by kernel_rfl, by kernel_rfl⟩
theorem bd4 : bodied Try.prog 4 = true := by kernel_rfl

/-- ferrule/ferrulelaw04.SeamsNearer -/
def c5 : CI := (.seq (.reg [⟨none, some 2, .box 0 true (.t 0)⟩, ⟨none, some 4, .mv (.c (.bool false))⟩]) (.seq (.seq (.reg [⟨none, some 19, .load true
 11 (.t 2)⟩, ⟨none, some 20, .call 25 [(.t 19)]⟩, ⟨none, some 21, .un .not (.t 20)⟩, ⟨none, some 22, .mv (.t 21)⟩, ⟨(some (22, false)), (some 23), .mv (.t
 1)⟩, ⟨(some (22, false)), (some 24), .bin .lss (.t 23) (.c (.int .i64 0))⟩, ⟨none, some 25, .pick (.t 22) (.c (.bool true)) (.t 24)⟩, ⟨none, some 26, .mv
 (.t 25)⟩, ⟨(some (26, false)), (some 27), .mv (.t 1)⟩, ⟨(some (26, false)), (some 28), .bin .gtr (.t 27) (.c (.int .i64 60))⟩, ⟨none, some 29, .pick (.t
 26) (.c (.bool true)) (.t 28)⟩]) (.cond (.t 29) (.seq (.reg [⟨none, some 30, .call 20 []⟩, ⟨none, some 4, .mv (.t 30)⟩]) .ret) .skip)) (.seq (.reg [⟨none,
 some 31, .load true 11 (.t 2)⟩, ⟨none, some 32, .callw 1 6 28 [(.t 31)]⟩, ⟨none, some 5, .alloc 7 [.nils, .nils, (.int .i64 0), .nils, .nils, (.int .i64
 0), (.int .i64 0), (.int .i64 0), (.int .i64 0), .nils, .nils]⟩, ⟨none, none, .stz true 11 (.t 5) (.t 32) []⟩]) (.seq (.reg [⟨none, some 33, .faddr 6 (.t
 2)⟩, ⟨none, some 34, .load false 1 (.t 33)⟩, ⟨none, some 35, .bin .quo (.t 34) (.c (.int .i64 2))⟩, ⟨none, some 36, .faddr 8 (.t 2)⟩, ⟨none, some 37, .load
 false 1 (.t 36)⟩, ⟨none, some 38, .mv (.t 1)⟩, ⟨none, some 39, .bin .add (.t 37) (.t 38)⟩, ⟨none, some 40, .mm false [(.t 35), (.t 39)]⟩, ⟨none, some 41,
 .faddr 8 (.t 5)⟩, ⟨none, none, .store false 1 (.t 41) (.t 40) []⟩]) (.seq (.reg [⟨none, some 43, .load true 11 (.t 2)⟩, ⟨none, some 44, .call 26 [(.t 43)]⟩,
 ⟨none, some 42, .mv (.t 44)⟩, ⟨none, some 45, .extract 0 (.t 42)⟩, ⟨none, some 46, .extract 1 (.t 42)⟩, ⟨none, some 6, .mv (.t 45)⟩, ⟨none, some 7, .mv
 (.t 46)⟩]) (.seq (.reg [⟨none, some 48, .load true 11 (.t 5)⟩, ⟨none, some 49, .call 26 [(.t 48)]⟩, ⟨none, some 47, .mv (.t 49)⟩, ⟨none, some 50, .extract
 0 (.t 47)⟩, ⟨none, some 51, .extract 1 (.t 47)⟩, ⟨none, some 8, .mv (.t 50)⟩, ⟨none, some 9, .mv (.t 51)⟩]) (.seq (.reg [⟨none, some 53, .load true 11
 (.t 2)⟩, ⟨none, some 54, .call 29 [(.t 53)]⟩, ⟨none, some 52, .mv (.t 54)⟩, ⟨none, some 55, .extract 0 (.t 52)⟩, ⟨none, some 56, .extract 1 (.t 52)⟩, ⟨none,
 some 10, .mv (.t 55)⟩, ⟨none, some 11, .mv (.t 56)⟩]) (.seq (.reg [⟨none, some 58, .load true 11 (.t 5)⟩, ⟨none, some 59, .call 29 [(.t 58)]⟩, ⟨none, some
 57, .mv (.t 59)⟩, ⟨none, some 60, .extract 0 (.t 57)⟩, ⟨none, some 61, .extract 1 (.t 57)⟩, ⟨none, some 12, .mv (.t 60)⟩, ⟨none, some 13, .mv (.t 61)⟩])
 (.seq (.reg [⟨none, some 63, .load true 11 (.t 2)⟩, ⟨none, some 64, .callw 8 1 22 [(.t 63)]⟩, ⟨none, some 62, .mv (.t 64)⟩, ⟨none, some 65, .extract 0
 (.t 62)⟩, ⟨none, some 66, .extract 1 (.t 62)⟩, ⟨none, some 14, .mv (.t 65)⟩, ⟨none, some 15, .mv (.t 66)⟩]) (.seq (.reg [⟨none, some 68, .load true 11
 (.t 5)⟩, ⟨none, some 69, .callw 9 1 22 [(.t 68)]⟩, ⟨none, some 67, .mv (.t 69)⟩, ⟨none, some 70, .extract 0 (.t 67)⟩, ⟨none, some 71, .extract 1 (.t 67)⟩,
 ⟨none, some 16, .mv (.t 70)⟩, ⟨none, some 17, .mv (.t 71)⟩]) (.seq (.seq (.reg [⟨none, some 72, .mv (.t 11)⟩, ⟨none, some 73, .bin .neq (.t 72) (.c (.int
 .i64 0))⟩, ⟨none, some 74, .mv (.t 73)⟩, ⟨(some (74, false)), (some 75), .mv (.t 13)⟩, ⟨(some (74, false)), (some 76), .bin .neq (.t 75) (.c (.int .i64
 0))⟩, ⟨none, some 77, .pick (.t 74) (.c (.bool true)) (.t 76)⟩, ⟨none, some 78, .mv (.t 77)⟩, ⟨(some (78, false)), (some 79), .mv (.t 15)⟩, ⟨(some (78,
 false)), (some 80), .bin .neq (.t 79) (.c (.int .i64 0))⟩, ⟨none, some 81, .pick (.t 78) (.c (.bool true)) (.t 80)⟩, ⟨none, some 82, .mv (.t 81)⟩, ⟨(some
 (82, false)), (some 83), .mv (.t 17)⟩, ⟨(some (82, false)), (some 84), .bin .neq (.t 83) (.c (.int .i64 0))⟩, ⟨none, some 85, .pick (.t 82) (.c (.bool
 true)) (.t 84)⟩, ⟨none, some 86, .mv (.t 85)⟩, ⟨(some (86, false)), (some 87), .mv (.t 10)⟩, ⟨(some (86, false)), (some 88), .mv (.t 12)⟩, ⟨(some (86,
 false)), (some 89), .bin .neq (.t 87) (.t 88)⟩, ⟨none, some 90, .pick (.t 86) (.c (.bool true)) (.t 89)⟩, ⟨none, some 91, .mv (.t 90)⟩, ⟨(some (91, false)),
 (some 92), .mv (.t 10)⟩, ⟨(some (91, false)), (some 93), .bin .lss (.t 92) (.c (.int .i64 0))⟩, ⟨none, some 94, .pick (.t 91) (.c (.bool true)) (.t 93)⟩,
 ⟨none, some 95, .mv (.t 94)⟩, ⟨(some (95, false)), (some 96), .mv (.t 10)⟩, ⟨(some (95, false)), (some 97), .faddr 6 (.t 2)⟩, ⟨(some (95, false)), (some
 98), .load false 1 (.t 97)⟩, ⟨(some (95, false)), (some 99), .bin .quo (.t 98) (.c (.int .i64 2))⟩, ⟨(some (95, false)), (some 100), .bin .gtr (.t 96)
 (.t 99)⟩, ⟨none, some 101, .pick (.t 95) (.c (.bool true)) (.t 100)⟩, ⟨none, some 102, .mv (.t 101)⟩, ⟨(some (102, false)), (some 103), .mv (.t 7)⟩, ⟨(some
 (102, false)), (some 104), .bin .neq (.t 103) (.c (.int .i64 0))⟩, ⟨(some (102, false)), (some 105), .mv (.t 104)⟩, ⟨(some (105, true)), (some 106), .mv
 (.t 7)⟩, ⟨(some (105, true)), (some 107), .bin .neq (.t 106) (.c (.int .i64 3))⟩, ⟨(some (102, false)), (some 108), .pick (.t 105) (.t 107) (.c (.bool
 false))⟩, ⟨none, some 109, .pick (.t 102) (.c (.bool true)) (.t 108)⟩, ⟨none, some 110, .mv (.t 109)⟩, ⟨(some (110, false)), (some 111), .mv (.t 7)⟩, ⟨(some
 (110, false)), (some 112), .bin .eql (.t 111) (.c (.int .i64 0))⟩, ⟨(some (110, false)), (some 113), .faddr 8 (.t 2)⟩, ⟨(some (110, false)), (some 114),
 .load false 1 (.t 113)⟩, ⟨(some (110, false)), (some 115), .mv (.t 10)⟩, ⟨(some (110, false)), (some 116), .bin .geq (.t 114) (.t 115)⟩, ⟨(some (110, false)),
 (some 117), .eqb true (.t 112) (.t 116)⟩, ⟨none, some 118, .pick (.t 110) (.c (.bool true)) (.t 117)⟩, ⟨none, some 119, .mv (.t 118)⟩, ⟨(some (119, false)),
 (some 120), .mv (.t 9)⟩, ⟨(some (119, false)), (some 121), .bin .eql (.t 120) (.c (.int .i64 0))⟩, ⟨(some (119, false)), (some 122), .faddr 8 (.t 5)⟩,
 ⟨(some (119, false)), (some 123), .load false 1 (.t 122)⟩, ⟨(some (119, false)), (some 124), .mv (.t 10)⟩, ⟨(some (119, false)), (some 125), .bin .geq
 (.t 123) (.t 124)⟩, ⟨(some (119, false)), (some 126), .eqb true (.t 121) (.t 125)⟩, ⟨none, some 127, .pick (.t 119) (.c (.bool true)) (.t 126)⟩, ⟨none,
 some 128, .mv (.t 127)⟩, ⟨(some (128, false)), (some 129), .mv (.t 7)⟩, ⟨(some (128, false)), (some 130), .bin .eql (.t 129) (.c (.int .i64 0))⟩, ⟨(some
 (128, false)), (some 131), .mv (.t 130)⟩, ⟨(some (131, true)), (some 132), .mv (.t 8)⟩, ⟨(some (131, true)), (some 133), .mv (.t 6)⟩, ⟨(some (131, true)),
 (some 134), .bin .gtr (.t 132) (.t 133)⟩, ⟨(some (128, false)), (some 135), .pick (.t 131) (.t 134) (.c (.bool false))⟩, ⟨none, some 136, .pick (.t 128)
 (.c (.bool true)) (.t 135)⟩]) (.cond (.t 136) (.seq (.reg [⟨none, some 4, .mv (.c (.bool false))⟩]) .ret) .skip)) (.seq (.seq (.reg [⟨none, some 18, .mv
 (.c (.int .i64 0))⟩]) (.block 0 (.loop (.seq (.seq (.reg [⟨none, some 137, .mv (.t 18)⟩, ⟨none, some 138, .mv (.t 16)⟩, ⟨none, some 139, .len (.t 138)⟩,
 ⟨none, some 140, .bin .lss (.t 137) (.t 139)⟩]) (.cond (.t 140) .skip (.exit 0))) (.seq (.block 1 (.seq (.reg [⟨none, some 143, .mv (.t 14)⟩, ⟨none, some
 144, .mv (.t 16)⟩, ⟨none, some 145, .mv (.t 18)⟩, ⟨none, some 146, .iaddr 1 (.t 144) (.t 145)⟩, ⟨none, some 147, .load false 1 (.t 146)⟩, ⟨none, some 148,
 .call 23 [(.t 143), (.t 147)]⟩, ⟨none, some 149, .un .not (.t 148)⟩]) (.cond (.t 149) (.seq (.reg [⟨none, some 4, .mv (.c (.bool false))⟩]) .ret) .skip)))
 (.reg [⟨none, some 141, .mv (.t 18)⟩, ⟨none, some 142, .bin .add (.t 141) (.c (.int .i64 1))⟩, ⟨none, some 18, .mv (.t 142)⟩])))))) (.seq (.reg [⟨none,
 some 150, .call 20 []⟩, ⟨none, some 4, .mv (.t 150)⟩]) .ret)))))))))))))
theorem ok5 : FnOk Try.prog 5 151 10 c5 [.t 4] := ⟨_, _, Try.func5, rfl, rfl, by kernel_rfl, by kernel_rfl⟩
theorem bd5 : bodied Try.prog 5 = true := by kernel_rfl

/-- ferrule/ferrulelaw04.SeamsRing -/
def c6 : CI := (.seq (.reg [⟨none, some 3, .box 0 true (.t 0)⟩, ⟨none, some 6, .mv (.c (.bool false))⟩]) (.seq (.seq (.reg [⟨none, some 24, .load true
 11 (.t 3)⟩, ⟨none, some 25, .call 25 [(.t 24)]⟩, ⟨none, some 26, .un .not (.t 25)⟩, ⟨none, some 27, .mv (.t 26)⟩, ⟨(some (27, false)), (some 28), .mv (.t
 1)⟩, ⟨(some (27, false)), (some 29), .bin .lss (.t 28) (.c (.int .i64 0))⟩, ⟨none, some 30, .pick (.t 27) (.c (.bool true)) (.t 29)⟩, ⟨none, some 31, .mv
 (.t 30)⟩, ⟨(some (31, false)), (some 32), .mv (.t 1)⟩, ⟨(some (31, false)), (some 33), .bin .gtr (.t 32) (.c (.int .i64 1000))⟩, ⟨none, some 34, .pick
 (.t 31) (.c (.bool true)) (.t 33)⟩, ⟨none, some 35, .mv (.t 34)⟩, ⟨(some (35, false)), (some 36), .mv (.t 2)⟩, ⟨(some (35, false)), (some 37), .bin .lss
 (.t 36) (.c (.int .i64 0))⟩, ⟨none, some 38, .pick (.t 35) (.c (.bool true)) (.t 37)⟩, ⟨none, some 39, .mv (.t 38)⟩, ⟨(some (39, false)), (some 40), .mv
 (.t 2)⟩, ⟨(some (39, false)), (some 41), .faddr 9 (.t 3)⟩, ⟨(some (39, false)), (some 42), .load false 1 (.t 41)⟩, ⟨(some (39, false)), (some 43), .len
 (.t 42)⟩, ⟨(some (39, false)), (some 44), .bin .geq (.t 40) (.t 43)⟩, ⟨none, some 45, .pick (.t 39) (.c (.bool true)) (.t 44)⟩]) (.cond (.t 45) (.seq (.reg
 [⟨none, some 46, .call 20 []⟩, ⟨none, some 6, .mv (.t 46)⟩]) .ret) .skip)) (.seq (.reg [⟨none, some 47, .load true 11 (.t 3)⟩, ⟨none, some 48, .mv (.t
 1)⟩, ⟨none, some 49, .callw 1 6 30 [(.t 47), (.t 48)]⟩, ⟨none, some 7, .alloc 7 [.nils, .nils, (.int .i64 0), .nils, .nils, (.int .i64 0), (.int .i64 0),
 (.int .i64 0), (.int .i64 0), .nils, .nils]⟩, ⟨none, none, .stz true 11 (.t 7) (.t 49) []⟩]) (.seq (.reg [⟨none, some 51, .load true 11 (.t 3)⟩, ⟨none,
 some 52, .mv (.t 2)⟩, ⟨none, some 53, .mv (.t 1)⟩, ⟨none, some 54, .bin .add (.t 52) (.t 53)⟩, ⟨none, some 55, .faddr 9 (.t 3)⟩, ⟨none, some 56, .load
 false 1 (.t 55)⟩, ⟨none, some 57, .len (.t 56)⟩, ⟨none, some 58, .bin .rem (.t 54) (.t 57)⟩, ⟨none, some 59, .call 21 [(.t 51), (.t 58)]⟩, ⟨none, some
 50, .mv (.t 59)⟩, ⟨none, some 60, .extract 0 (.t 50)⟩, ⟨none, some 61, .extract 1 (.t 50)⟩, ⟨none, some 8, .mv (.t 60)⟩, ⟨none, some 9, .mv (.t 61)⟩])
 (.seq (.reg [⟨none, some 63, .load true 11 (.t 7)⟩, ⟨none, some 64, .mv (.t 2)⟩, ⟨none, some 65, .call 21 [(.t 63), (.t 64)]⟩, ⟨none, some 62, .mv (.t
 65)⟩, ⟨none, some 66, .extract 0 (.t 62)⟩, ⟨none, some 67, .extract 1 (.t 62)⟩, ⟨none, some 10, .mv (.t 66)⟩, ⟨none, some 11, .mv (.t 67)⟩]) (.seq (.reg
 [⟨none, some 69, .load true 11 (.t 3)⟩, ⟨none, some 70, .call 26 [(.t 69)]⟩, ⟨none, some 68, .mv (.t 70)⟩, ⟨none, some 71, .extract 0 (.t 68)⟩, ⟨none,
 some 72, .extract 1 (.t 68)⟩, ⟨none, some 12, .mv (.t 71)⟩, ⟨none, some 13, .mv (.t 72)⟩]) (.seq (.reg [⟨none, some 74, .load true 11 (.t 7)⟩, ⟨none, some
 75, .call 26 [(.t 74)]⟩, ⟨none, some 73, .mv (.t 75)⟩, ⟨none, some 76, .extract 0 (.t 73)⟩, ⟨none, some 77, .extract 1 (.t 73)⟩, ⟨none, some 14, .mv (.t
 76)⟩, ⟨none, some 15, .mv (.t 77)⟩]) (.seq (.reg [⟨none, some 79, .load true 11 (.t 3)⟩, ⟨none, some 80, .call 29 [(.t 79)]⟩, ⟨none, some 78, .mv (.t 80)⟩,
 ⟨none, some 81, .extract 0 (.t 78)⟩, ⟨none, some 82, .extract 1 (.t 78)⟩, ⟨none, some 16, .mv (.t 81)⟩, ⟨none, some 17, .mv (.t 82)⟩]) (.seq (.reg [⟨none,
 some 84, .load true 11 (.t 7)⟩, ⟨none, some 85, .call 29 [(.t 84)]⟩, ⟨none, some 83, .mv (.t 85)⟩, ⟨none, some 86, .extract 0 (.t 83)⟩, ⟨none, some 87,
 .extract 1 (.t 83)⟩, ⟨none, some 18, .mv (.t 86)⟩, ⟨none, some 19, .mv (.t 87)⟩]) (.seq (.reg [⟨none, some 89, .load true 11 (.t 3)⟩, ⟨none, some 90, .call
 31 [(.t 89)]⟩, ⟨none, some 88, .mv (.t 90)⟩, ⟨none, some 91, .extract 0 (.t 88)⟩, ⟨none, some 92, .extract 1 (.t 88)⟩, ⟨none, some 20, .mv (.t 91)⟩, ⟨none,
 some 21, .mv (.t 92)⟩]) (.seq (.reg [⟨none, some 94, .load true 11 (.t 7)⟩, ⟨none, some 95, .call 31 [(.t 94)]⟩, ⟨none, some 93, .mv (.t 95)⟩, ⟨none, some
 96, .extract 0 (.t 93)⟩, ⟨none, some 97, .extract 1 (.t 93)⟩, ⟨none, some 22, .mv (.t 96)⟩, ⟨none, some 23, .mv (.t 97)⟩]) (.seq (.reg [⟨none, some 98,
 .mv (.t 8)⟩, ⟨none, some 99, .mv (.t 10)⟩, ⟨none, some 100, .bin .eql (.t 98) (.t 99)⟩, ⟨none, some 101, .mv (.t 100)⟩, ⟨(some (101, true)), (some 102),
 .mv (.t 9)⟩, ⟨(some (101, true)), (some 103), .mv (.t 11)⟩, ⟨(some (101, true)), (some 104), .bin .eql (.t 102) (.t 103)⟩, ⟨none, some 105, .pick (.t 101)
 (.t 104) (.c (.bool false))⟩, ⟨none, some 106, .mv (.t 105)⟩, ⟨(some (106, true)), (some 107), .mv (.t 12)⟩, ⟨(some (106, true)), (some 108), .mv (.t 14)⟩,
 ⟨(some (106, true)), (some 109), .bin .eql (.t 107) (.t 108)⟩, ⟨none, some 110, .pick (.t 106) (.t 109) (.c (.bool false))⟩, ⟨none, some 111, .mv (.t 110)⟩,
 ⟨(some (111, true)), (some 112), .mv (.t 13)⟩, ⟨(some (111, true)), (some 113), .mv (.t 15)⟩, ⟨(some (111, true)), (some 114), .bin .eql (.t 112) (.t 113)⟩,
 ⟨none, some 115, .pick (.t 111) (.t 114) (.c (.bool false))⟩, ⟨none, some 116, .mv (.t 115)⟩, ⟨(some (116, true)), (some 117), .mv (.t 16)⟩, ⟨(some (116,
 true)), (some 118), .mv (.t 18)⟩, ⟨(some (116, true)), (some 119), .bin .eql (.t 117) (.t 118)⟩, ⟨none, some 120, .pick (.t 116) (.t 119) (.c (.bool false))⟩,
 ⟨none, some 121, .mv (.t 120)⟩, ⟨(some (121, true)), (some 122), .mv (.t 17)⟩, ⟨(some (121, true)), (some 123), .mv (.t 19)⟩, ⟨(some (121, true)), (some
 124), .bin .eql (.t 122) (.t 123)⟩, ⟨none, some 125, .pick (.t 121) (.t 124) (.c (.bool false))⟩, ⟨none, some 126, .mv (.t 125)⟩, ⟨(some (126, true)),
 (some 127), .mv (.t 20)⟩, ⟨(some (126, true)), (some 128), .mv (.t 22)⟩, ⟨(some (126, true)), (some 129), .bin .eql (.t 127) (.t 128)⟩, ⟨none, some 130,
 .pick (.t 126) (.t 129) (.c (.bool false))⟩, ⟨none, some 131, .mv (.t 130)⟩, ⟨(some (131, true)), (some 132), .mv (.t 21)⟩, ⟨(some (131, true)), (some
 133), .mv (.t 23)⟩, ⟨(some (131, true)), (some 134), .bin .eql (.t 132) (.t 133)⟩, ⟨none, some 135, .pick (.t 131) (.t 134) (.c (.bool false))⟩, ⟨none,
 some 136, .mv (.t 135)⟩, ⟨(some (136, true)), (some 137), .call 20 []⟩, ⟨none, some 138, .pick (.t 136) (.t 137) (.c (.bool false))⟩, ⟨none, some 6, .mv
 (.t 138)⟩]) .ret))))))))))))
theorem ok6 : FnOk Try.prog 6 139 8 c6 [.t 6] := ⟨_, _, Try.func6, rfl, rfl, by kernel_rfl, by kernel_rfl⟩
theorem bd6 : bodied Try.prog 6 = true := by kernel_rfl

/-- ferrule/ferrulelaw04.SeamsSooner -/
def c7 : CI := (.seq (.reg [⟨none, some 2, .box 0 true (.t 0)⟩, ⟨none, some 4, .mv (.c (.bool false))⟩]) (.seq (.seq (.reg [⟨none, some 10, .load true
 11 (.t 2)⟩, ⟨none, some 11, .call 17 [(.t 10)]⟩, ⟨none, some 12, .mv (.t 11)⟩, ⟨(some (12, false)), (some 13), .load true 11 (.t 2)⟩, ⟨(some (12, false)),
 (some 14), .call 32 [(.t 13)]⟩, ⟨(some (12, false)), (some 15), .bin .neq (.t 14) (.c (.int .i64 0))⟩, ⟨none, some 16, .pick (.t 12) (.c (.bool true))
 (.t 15)⟩, ⟨none, some 17, .mv (.t 16)⟩, ⟨(some (17, false)), (some 18), .mv (.t 1)⟩, ⟨(some (17, false)), (some 19), .len (.t 18)⟩, ⟨(some (17, false)),
 (some 20), .bin .gtr (.t 19) (.c (.int .i64 60))⟩, ⟨none, some 21, .pick (.t 17) (.c (.bool true)) (.t 20)⟩]) (.cond (.t 21) (.seq (.reg [⟨none, some 22,
 .call 20 []⟩, ⟨none, some 4, .mv (.t 22)⟩]) .ret) .skip)) (.seq (.reg [⟨none, some 24, .load true 11 (.t 2)⟩, ⟨none, some 25, .call 31 [(.t 24)]⟩, ⟨none,
 some 23, .mv (.t 25)⟩, ⟨none, some 26, .extract 0 (.t 23)⟩, ⟨none, some 27, .extract 1 (.t 23)⟩, ⟨none, some 5, .mv (.t 26)⟩, ⟨none, some 6, .mv (.t 27)⟩])
 (.seq (.seq (.reg [⟨none, some 28, .mv (.t 6)⟩, ⟨none, some 29, .bin .neq (.t 28) (.c (.int .i64 0))⟩]) (.cond (.t 29) (.seq (.reg [⟨none, some 4, .mv
 (.c (.bool false))⟩]) .ret) .skip)) (.seq (.reg [⟨none, some 7, .mv (.c (.int .i64 0))⟩, ⟨none, some 8, .mv (.c (.bool true))⟩]) (.seq (.seq (.reg [⟨none,
 some 9, .mv (.c (.int .i64 0))⟩]) (.block 0 (.loop (.seq (.seq (.reg [⟨none, some 30, .mv (.t 9)⟩, ⟨none, some 31, .faddr 10 (.t 2)⟩, ⟨none, some 32, .load
 false 1 (.t 31)⟩, ⟨none, some 33, .len (.t 32)⟩, ⟨none, some 34, .bin .lss (.t 30) (.t 33)⟩]) (.cond (.t 34) .skip (.exit 0))) (.seq (.block 1 (.seq (.reg
 [⟨none, some 37, .mv (.t 7)⟩, ⟨none, some 38, .faddr 10 (.t 2)⟩, ⟨none, some 39, .load false 1 (.t 38)⟩, ⟨none, some 40, .mv (.t 9)⟩, ⟨none, some 41, .iaddr
 1 (.t 39) (.t 40)⟩, ⟨none, some 42, .load false 1 (.t 41)⟩, ⟨none, some 43, .bin .add (.t 37) (.t 42)⟩, ⟨none, some 7, .mv (.t 43)⟩]) (.seq (.reg [⟨none,
 some 44, .mv (.t 8)⟩, ⟨none, some 45, .mv (.t 44)⟩, ⟨(some (45, true)), (some 46), .faddr 10 (.t 2)⟩, ⟨(some (45, true)), (some 47), .load false 1 (.t
 46)⟩, ⟨(some (45, true)), (some 48), .mv (.t 9)⟩, ⟨(some (45, true)), (some 49), .iaddr 1 (.t 47) (.t 48)⟩, ⟨(some (45, true)), (some 50), .load false
 1 (.t 49)⟩, ⟨(some (45, true)), (some 51), .faddr 10 (.t 2)⟩, ⟨(some (45, true)), (some 52), .load false 1 (.t 51)⟩, ⟨(some (45, true)), (some 53), .iaddr
 1 (.t 52) (.c (.int .i64 0))⟩, ⟨(some (45, true)), (some 54), .load false 1 (.t 53)⟩, ⟨(some (45, true)), (some 55), .bin .eql (.t 50) (.t 54)⟩, ⟨none,
 some 56, .pick (.t 45) (.t 55) (.c (.bool false))⟩, ⟨none, some 8, .mv (.t 56)⟩]) (.seq (.reg [⟨none, some 57, .mv (.t 5)⟩, ⟨none, some 58, .faddr 10 (.t
 2)⟩, ⟨none, some 59, .load false 1 (.t 58)⟩, ⟨none, some 60, .mv (.t 9)⟩, ⟨none, some 61, .iaddr 1 (.t 59) (.t 60)⟩, ⟨none, some 62, .load false 1 (.t
 61)⟩, ⟨none, some 63, .bin .lss (.t 57) (.t 62)⟩]) (.cond (.t 63) (.seq (.reg [⟨none, some 4, .mv (.c (.bool false))⟩]) .ret) .skip))))) (.reg [⟨none,
 some 35, .mv (.t 9)⟩, ⟨none, some 36, .bin .add (.t 35) (.c (.int .i64 1))⟩, ⟨none, some 9, .mv (.t 36)⟩])))))) (.seq (.seq (.reg [⟨none, some 64, .mv
 (.t 5)⟩, ⟨none, some 65, .mv (.t 7)⟩, ⟨none, some 66, .bin .gtr (.t 64) (.t 65)⟩, ⟨none, some 67, .mv (.t 66)⟩, ⟨(some (67, false)), (some 68), .mv (.t
 8)⟩, ⟨(some (67, false)), (some 69), .mv (.t 68)⟩, ⟨(some (69, true)), (some 70), .mv (.t 5)⟩, ⟨(some (69, true)), (some 71), .faddr 10 (.t 2)⟩, ⟨(some
 (69, true)), (some 72), .load false 1 (.t 71)⟩, ⟨(some (69, true)), (some 73), .iaddr 1 (.t 72) (.c (.int .i64 0))⟩, ⟨(some (69, true)), (some 74), .load
 false 1 (.t 73)⟩, ⟨(some (69, true)), (some 75), .bin .rem (.t 70) (.t 74)⟩, ⟨(some (69, true)), (some 76), .bin .neq (.t 75) (.c (.int .i64 0))⟩, ⟨(some
 (67, false)), (some 77), .pick (.t 69) (.t 76) (.c (.bool false))⟩, ⟨none, some 78, .pick (.t 67) (.c (.bool true)) (.t 77)⟩]) (.cond (.t 78) (.seq (.reg
 [⟨none, some 4, .mv (.c (.bool false))⟩]) .ret) .skip)) (.seq (.seq (.reg [⟨none, some 79, .load true 11 (.t 2)⟩, ⟨none, some 80, .mv (.t 1)⟩, ⟨none, some
 81, .call 33 [(.t 79), (.t 80)]⟩, ⟨none, some 82, .mv (.t 81)⟩, ⟨(some (82, true)), (some 83), .load true 11 (.t 2)⟩, ⟨(some (82, true)), (some 84), .mv
 (.t 1)⟩, ⟨(some (82, true)), (some 85), .call 34 [(.t 83), (.t 84)]⟩, ⟨(some (82, true)), (some 86), .mv (.t 5)⟩, ⟨(some (82, true)), (some 87), .bin .lss
 (.t 85) (.t 86)⟩, ⟨none, some 88, .pick (.t 82) (.t 87) (.c (.bool false))⟩]) (.cond (.t 88) (.seq (.reg [⟨none, some 4, .mv (.c (.bool false))⟩]) .ret)
 .skip)) (.seq (.reg [⟨none, some 89, .call 20 []⟩, ⟨none, some 4, .mv (.t 89)⟩]) .ret)))))))))
theorem ok7 : FnOk Try.prog 7 90 1 c7 [.t 4] := ⟨_, _, Try.func7, rfl, rfl, by kernel_rfl, by kernel_rfl⟩
theorem bd7 : bodied Try.prog 7 = true := by kernel_rfl

/-- ferrule/ferrulelaw04.SeamsMoved -/
def c8 : CI := (.seq (.reg [⟨none, some 3, .box 0 true (.t 0)⟩, ⟨none, some 6, .mv (.c (.bool false))⟩]) (.seq (.seq (.reg [⟨none, some 21, .load true
 11 (.t 3)⟩, ⟨none, some 22, .call 25 [(.t 21)]⟩, ⟨none, some 23, .un .not (.t 22)⟩, ⟨none, some 24, .mv (.t 23)⟩, ⟨(some (24, false)), (some 25), .mv (.t
 1)⟩, ⟨(some (24, false)), (some 26), .bin .lss (.t 25) (.c (.int .i64 0))⟩, ⟨none, some 27, .pick (.t 24) (.c (.bool true)) (.t 26)⟩, ⟨none, some 28, .mv
 (.t 27)⟩, ⟨(some (28, false)), (some 29), .mv (.t 1)⟩, ⟨(some (28, false)), (some 30), .bin .gtr (.t 29) (.c (.int .i64 1000))⟩, ⟨none, some 31, .pick
 (.t 28) (.c (.bool true)) (.t 30)⟩, ⟨none, some 32, .mv (.t 31)⟩, ⟨(some (32, false)), (some 33), .mv (.t 2)⟩, ⟨(some (32, false)), (some 34), .bin .lss
 (.t 33) (.c (.int .i64 0))⟩, ⟨none, some 35, .pick (.t 32) (.c (.bool true)) (.t 34)⟩, ⟨none, some 36, .mv (.t 35)⟩, ⟨(some (36, false)), (some 37), .mv
 (.t 2)⟩, ⟨(some (36, false)), (some 38), .faddr 9 (.t 3)⟩, ⟨(some (36, false)), (some 39), .load false 1 (.t 38)⟩, ⟨(some (36, false)), (some 40), .len
 (.t 39)⟩, ⟨(some (36, false)), (some 41), .bin .geq (.t 37) (.t 40)⟩, ⟨none, some 42, .pick (.t 36) (.c (.bool true)) (.t 41)⟩]) (.cond (.t 42) (.seq (.reg
 [⟨none, some 43, .call 20 []⟩, ⟨none, some 6, .mv (.t 43)⟩]) .ret) .skip)) (.seq (.reg [⟨none, some 44, .load true 11 (.t 3)⟩, ⟨none, some 45, .callw 1
 6 28 [(.t 44)]⟩, ⟨none, some 7, .alloc 7 [.nils, .nils, (.int .i64 0), .nils, .nils, (.int .i64 0), (.int .i64 0), (.int .i64 0), (.int .i64 0), .nils,
 .nils]⟩, ⟨none, none, .stz true 11 (.t 7) (.t 45) []⟩]) (.seq (.seq (.reg [⟨none, some 8, .mv (.c (.int .i64 0))⟩]) (.block 0 (.loop (.seq (.seq (.reg
 [⟨none, some 46, .mv (.t 8)⟩, ⟨none, some 47, .faddr 9 (.t 7)⟩, ⟨none, some 48, .load false 1 (.t 47)⟩, ⟨none, some 49, .len (.t 48)⟩, ⟨none, some 50,
 .bin .lss (.t 46) (.t 49)⟩]) (.cond (.t 50) .skip (.exit 0))) (.seq (.block 1 (.reg [⟨none, some 53, .faddr 9 (.t 7)⟩, ⟨none, some 54, .load false 1 (.t
 53)⟩, ⟨none, some 55, .mv (.t 8)⟩, ⟨none, some 56, .faddr 9 (.t 7)⟩, ⟨none, some 57, .load false 1 (.t 56)⟩, ⟨none, some 58, .mv (.t 8)⟩, ⟨none, some 59,
 .iaddr 1 (.t 57) (.t 58)⟩, ⟨none, some 60, .load false 1 (.t 59)⟩, ⟨none, some 61, .mv (.t 1)⟩, ⟨none, some 62, .bin .add (.t 60) (.t 61)⟩, ⟨none, some
 63, .faddr 6 (.t 3)⟩, ⟨none, some 64, .load false 1 (.t 63)⟩, ⟨none, some 65, .bin .rem (.t 62) (.t 64)⟩, ⟨none, some 66, .iaddr 1 (.t 54) (.t 55)⟩, ⟨none,
 none, .store false 1 (.t 66) (.t 65) []⟩])) (.reg [⟨none, some 51, .mv (.t 8)⟩, ⟨none, some 52, .bin .add (.t 51) (.c (.int .i64 1))⟩, ⟨none, some 8, .mv
 (.t 52)⟩])))))) (.seq (.reg [⟨none, some 68, .load true 11 (.t 3)⟩, ⟨none, some 69, .mv (.t 2)⟩, ⟨none, some 70, .call 21 [(.t 68), (.t 69)]⟩, ⟨none, some
 67, .mv (.t 70)⟩, ⟨none, some 71, .extract 0 (.t 67)⟩, ⟨none, some 72, .extract 1 (.t 67)⟩, ⟨none, some 9, .mv (.t 71)⟩, ⟨none, some 10, .mv (.t 72)⟩])
 (.seq (.reg [⟨none, some 74, .load true 11 (.t 7)⟩, ⟨none, some 75, .mv (.t 2)⟩, ⟨none, some 76, .call 21 [(.t 74), (.t 75)]⟩, ⟨none, some 73, .mv (.t
 76)⟩, ⟨none, some 77, .extract 0 (.t 73)⟩, ⟨none, some 78, .extract 1 (.t 73)⟩, ⟨none, some 11, .mv (.t 77)⟩, ⟨none, some 12, .mv (.t 78)⟩]) (.seq (.reg
 [⟨none, some 80, .load true 11 (.t 3)⟩, ⟨none, some 81, .callw 8 1 22 [(.t 80)]⟩, ⟨none, some 79, .mv (.t 81)⟩, ⟨none, some 82, .extract 0 (.t 79)⟩, ⟨none,
 some 83, .extract 1 (.t 79)⟩, ⟨none, some 13, .mv (.t 82)⟩, ⟨none, some 14, .mv (.t 83)⟩]) (.seq (.reg [⟨none, some 85, .load true 11 (.t 7)⟩, ⟨none, some
 86, .callw 9 1 22 [(.t 85)]⟩, ⟨none, some 84, .mv (.t 86)⟩, ⟨none, some 87, .extract 0 (.t 84)⟩, ⟨none, some 88, .extract 1 (.t 84)⟩, ⟨none, some 15, .mv
 (.t 87)⟩, ⟨none, some 16, .mv (.t 88)⟩]) (.seq (.reg [⟨none, some 90, .load true 11 (.t 3)⟩, ⟨none, some 91, .call 26 [(.t 90)]⟩, ⟨none, some 89, .mv (.t
 91)⟩, ⟨none, some 92, .extract 0 (.t 89)⟩, ⟨none, some 93, .extract 1 (.t 89)⟩, ⟨none, some 17, .mv (.t 92)⟩, ⟨none, some 18, .mv (.t 93)⟩]) (.seq (.reg
 [⟨none, some 95, .load true 11 (.t 7)⟩, ⟨none, some 96, .call 26 [(.t 95)]⟩, ⟨none, some 94, .mv (.t 96)⟩, ⟨none, some 97, .extract 0 (.t 94)⟩, ⟨none,
 some 98, .extract 1 (.t 94)⟩, ⟨none, some 19, .mv (.t 97)⟩, ⟨none, some 20, .mv (.t 98)⟩]) (.seq (.reg [⟨none, some 99, .mv (.t 9)⟩, ⟨none, some 100, .mv
 (.t 11)⟩, ⟨none, some 101, .bin .eql (.t 99) (.t 100)⟩, ⟨none, some 102, .mv (.t 101)⟩, ⟨(some (102, true)), (some 103), .mv (.t 10)⟩, ⟨(some (102, true)),
 (some 104), .mv (.t 12)⟩, ⟨(some (102, true)), (some 105), .bin .eql (.t 103) (.t 104)⟩, ⟨none, some 106, .pick (.t 102) (.t 105) (.c (.bool false))⟩,
 ⟨none, some 107, .mv (.t 106)⟩, ⟨(some (107, true)), (some 108), .mv (.t 13)⟩, ⟨(some (107, true)), (some 109), .mv (.t 15)⟩, ⟨(some (107, true)), (some
 110), .call 35 [(.t 108), (.t 109)]⟩, ⟨none, some 111, .pick (.t 107) (.t 110) (.c (.bool false))⟩, ⟨none, some 112, .mv (.t 111)⟩, ⟨(some (112, true)),
 (some 113), .mv (.t 14)⟩, ⟨(some (112, true)), (some 114), .mv (.t 16)⟩, ⟨(some (112, true)), (some 115), .bin .eql (.t 113) (.t 114)⟩, ⟨none, some 116,
 .pick (.t 112) (.t 115) (.c (.bool false))⟩, ⟨none, some 117, .mv (.t 116)⟩, ⟨(some (117, true)), (some 118), .mv (.t 17)⟩, ⟨(some (117, true)), (some
 119), .mv (.t 19)⟩, ⟨(some (117, true)), (some 120), .bin .eql (.t 118) (.t 119)⟩, ⟨none, some 121, .pick (.t 117) (.t 120) (.c (.bool false))⟩, ⟨none,
 some 122, .mv (.t 121)⟩, ⟨(some (122, true)), (some 123), .mv (.t 18)⟩, ⟨(some (122, true)), (some 124), .mv (.t 20)⟩, ⟨(some (122, true)), (some 125),
 .bin .eql (.t 123) (.t 124)⟩, ⟨none, some 126, .pick (.t 122) (.t 125) (.c (.bool false))⟩, ⟨none, some 127, .mv (.t 126)⟩, ⟨(some (127, true)), (some
 128), .call 20 []⟩, ⟨none, some 129, .pick (.t 127) (.t 128) (.c (.bool false))⟩, ⟨none, some 6, .mv (.t 129)⟩]) .ret)))))))))))
theorem ok8 : FnOk Try.prog 8 130 10 c8 [.t 6] := ⟨_, _, Try.func8, rfl, rfl, by kernel_rfl, by kernel_rfl⟩
theorem bd8 : bodied Try.prog 8 = true := by kernel_rfl

/-- ferrule/ferrulelaw04.SeamsQuicker -/
def c9 : CI := (.seq (.reg [⟨none, some 3, .box 0 true (.t 0)⟩, ⟨none, some 6, .mv (.c (.bool false))⟩]) (.seq (.seq (.reg [⟨none, some 16, .load true
 11 (.t 3)⟩, ⟨none, some 17, .call 17 [(.t 16)]⟩, ⟨none, some 18, .mv (.t 17)⟩, ⟨(some (18, false)), (some 19), .load true 11 (.t 3)⟩, ⟨(some (18, false)),
 (some 20), .call 32 [(.t 19)]⟩, ⟨(some (18, false)), (some 21), .bin .neq (.t 20) (.c (.int .i64 0))⟩, ⟨none, some 22, .pick (.t 18) (.c (.bool true))
 (.t 21)⟩, ⟨none, some 23, .mv (.t 22)⟩, ⟨(some (23, false)), (some 24), .mv (.t 1)⟩, ⟨(some (23, false)), (some 25), .bin .lss (.t 24) (.c (.int .i64 0))⟩,
 ⟨none, some 26, .pick (.t 23) (.c (.bool true)) (.t 25)⟩, ⟨none, some 27, .mv (.t 26)⟩, ⟨(some (27, false)), (some 28), .mv (.t 1)⟩, ⟨(some (27, false)),
 (some 29), .faddr 10 (.t 3)⟩, ⟨(some (27, false)), (some 30), .load false 1 (.t 29)⟩, ⟨(some (27, false)), (some 31), .len (.t 30)⟩, ⟨(some (27, false)),
 (some 32), .bin .geq (.t 28) (.t 31)⟩, ⟨none, some 33, .pick (.t 27) (.c (.bool true)) (.t 32)⟩, ⟨none, some 34, .mv (.t 33)⟩, ⟨(some (34, false)), (some
 35), .mv (.t 2)⟩, ⟨(some (34, false)), (some 36), .bin .lss (.t 35) (.c (.int .i64 0))⟩, ⟨none, some 37, .pick (.t 34) (.c (.bool true)) (.t 36)⟩, ⟨none,
 some 38, .mv (.t 37)⟩, ⟨(some (38, false)), (some 39), .mv (.t 2)⟩, ⟨(some (38, false)), (some 40), .faddr 10 (.t 3)⟩, ⟨(some (38, false)), (some 41),
 .load false 1 (.t 40)⟩, ⟨(some (38, false)), (some 42), .mv (.t 1)⟩, ⟨(some (38, false)), (some 43), .iaddr 1 (.t 41) (.t 42)⟩, ⟨(some (38, false)), (some
 44), .load false 1 (.t 43)⟩, ⟨(some (38, false)), (some 45), .bin .geq (.t 39) (.t 44)⟩, ⟨none, some 46, .pick (.t 38) (.c (.bool true)) (.t 45)⟩]) (.cond
 (.t 46) (.seq (.reg [⟨none, some 47, .call 20 []⟩, ⟨none, some 6, .mv (.t 47)⟩]) .ret) .skip)) (.seq (.reg [⟨none, some 48, .load true 11 (.t 3)⟩, ⟨none,
 some 50, .load true 11 (.t 3)⟩, ⟨none, some 7, .alloc 13 [.nils, .nils, (.int .i64 0), .nils, .nils, (.int .i64 0), (.int .i64 0), (.int .i64 0), (.int
 .i64 0), .nils, .nils]⟩, ⟨none, some 8, .alloc 14 [.nils, .nils, (.int .i64 0), .nils, .nils, (.int .i64 0), (.int .i64 0), (.int .i64 0), (.int .i64 0),
 .nils, .nils]⟩, ⟨none, some 49, .callz 1 6 28 [(.t 48)] []⟩, ⟨none, some 51, .callz 7 6 28 [(.t 50)] []⟩, ⟨none, none, .stz true 11 (.t 7) (.t 49) []⟩,
 ⟨none, none, .stz true 11 (.t 8) (.t 51) []⟩]) (.seq (.reg [⟨none, some 52, .faddr 10 (.t 7)⟩, ⟨none, some 53, .load false 1 (.t 52)⟩, ⟨none, some 54,
 .mv (.t 1)⟩, ⟨none, some 55, .iaddr 1 (.t 53) (.t 54)⟩, ⟨none, some 56, .load false 1 (.t 55)⟩, ⟨none, some 57, .mv (.t 2)⟩, ⟨none, some 58, .bin .sub
 (.t 56) (.t 57)⟩, ⟨none, some 59, .iaddr 1 (.t 53) (.t 54)⟩, ⟨none, none, .store false 1 (.t 59) (.t 58) []⟩]) (.seq (.seq (.reg [⟨none, some 9, .mv (.c
 (.int .i64 0))⟩]) (.block 0 (.loop (.seq (.seq (.reg [⟨none, some 60, .mv (.t 9)⟩, ⟨none, some 61, .faddr 10 (.t 3)⟩, ⟨none, some 62, .load false 1 (.t
 61)⟩, ⟨none, some 63, .len (.t 62)⟩, ⟨none, some 64, .bin .lss (.t 60) (.t 63)⟩]) (.cond (.t 64) .skip (.exit 0))) (.seq (.block 1 (.reg [⟨none, some 67,
 .faddr 10 (.t 8)⟩, ⟨none, some 68, .load false 1 (.t 67)⟩, ⟨none, some 69, .mv (.t 9)⟩, ⟨none, some 70, .iaddr 1 (.t 68) (.t 69)⟩, ⟨none, some 71, .load
 false 1 (.t 70)⟩, ⟨none, some 72, .bin .mul (.t 71) (.c (.int .i64 2))⟩, ⟨none, some 73, .iaddr 1 (.t 68) (.t 69)⟩, ⟨none, none, .store false 1 (.t 73)
 (.t 72) []⟩])) (.reg [⟨none, some 65, .mv (.t 9)⟩, ⟨none, some 66, .bin .add (.t 65) (.c (.int .i64 1))⟩, ⟨none, some 9, .mv (.t 66)⟩])))))) (.seq (.reg
 [⟨none, some 75, .load true 11 (.t 3)⟩, ⟨none, some 76, .call 31 [(.t 75)]⟩, ⟨none, some 74, .mv (.t 76)⟩, ⟨none, some 77, .extract 0 (.t 74)⟩, ⟨none,
 some 78, .extract 1 (.t 74)⟩, ⟨none, some 10, .mv (.t 77)⟩, ⟨none, some 11, .mv (.t 78)⟩]) (.seq (.reg [⟨none, some 80, .load true 11 (.t 7)⟩, ⟨none, some
 81, .call 31 [(.t 80)]⟩, ⟨none, some 79, .mv (.t 81)⟩, ⟨none, some 82, .extract 0 (.t 79)⟩, ⟨none, some 83, .extract 1 (.t 79)⟩, ⟨none, some 12, .mv (.t
 82)⟩, ⟨none, some 13, .mv (.t 83)⟩]) (.seq (.seq (.reg [⟨none, some 84, .mv (.t 11)⟩, ⟨none, some 85, .bin .neq (.t 84) (.c (.int .i64 0))⟩, ⟨none, some
 86, .mv (.t 85)⟩, ⟨(some (86, false)), (some 87), .mv (.t 13)⟩, ⟨(some (86, false)), (some 88), .bin .neq (.t 87) (.c (.int .i64 0))⟩, ⟨none, some 89,
 .pick (.t 86) (.c (.bool true)) (.t 88)⟩, ⟨none, some 90, .mv (.t 89)⟩, ⟨(some (90, false)), (some 91), .mv (.t 12)⟩, ⟨(some (90, false)), (some 92), .mv
 (.t 10)⟩, ⟨(some (90, false)), (some 93), .bin .gtr (.t 91) (.t 92)⟩, ⟨none, some 94, .pick (.t 90) (.c (.bool true)) (.t 93)⟩, ⟨none, some 95, .mv (.t
 94)⟩, ⟨(some (95, false)), (some 96), .mv (.t 10)⟩, ⟨(some (95, false)), (some 97), .mv (.t 12)⟩, ⟨(some (95, false)), (some 98), .bin .sub (.t 96) (.t
 97)⟩, ⟨(some (95, false)), (some 99), .mv (.t 2)⟩, ⟨(some (95, false)), (some 100), .bin .gtr (.t 98) (.t 99)⟩, ⟨none, some 101, .pick (.t 95) (.c (.bool
 true)) (.t 100)⟩]) (.cond (.t 101) (.seq (.reg [⟨none, some 6, .mv (.c (.bool false))⟩]) .ret) .skip)) (.seq (.seq (.reg [⟨none, some 102, .load true 11
 (.t 8)⟩, ⟨none, some 103, .call 32 [(.t 102)]⟩, ⟨none, some 104, .bin .neq (.t 103) (.c (.int .i64 0))⟩]) (.cond (.t 104) (.seq (.reg [⟨none, some 105,
 .call 20 []⟩, ⟨none, some 6, .mv (.t 105)⟩]) .ret) .skip)) (.seq (.reg [⟨none, some 107, .load true 11 (.t 8)⟩, ⟨none, some 108, .call 31 [(.t 107)]⟩,
 ⟨none, some 106, .mv (.t 108)⟩, ⟨none, some 109, .extract 0 (.t 106)⟩, ⟨none, some 110, .extract 1 (.t 106)⟩, ⟨none, some 14, .mv (.t 109)⟩, ⟨none, some
 15, .mv (.t 110)⟩]) (.seq (.reg [⟨none, some 111, .mv (.t 15)⟩, ⟨none, some 112, .bin .eql (.t 111) (.c (.int .i64 0))⟩, ⟨none, some 113, .mv (.t 112)⟩,
 ⟨(some (113, true)), (some 114), .mv (.t 14)⟩, ⟨(some (113, true)), (some 115), .mv (.t 10)⟩, ⟨(some (113, true)), (some 116), .bin .mul (.c (.int .i64
 2)) (.t 115)⟩, ⟨(some (113, true)), (some 117), .bin .eql (.t 114) (.t 116)⟩, ⟨none, some 118, .pick (.t 113) (.t 117) (.c (.bool false))⟩, ⟨none, some
 119, .mv (.t 118)⟩, ⟨(some (119, true)), (some 120), .call 20 []⟩, ⟨none, some 121, .pick (.t 119) (.t 120) (.c (.bool false))⟩, ⟨none, some 6, .mv (.t
 121)⟩]) .ret)))))))))))
theorem ok9 : FnOk Try.prog 9 122 15 c9 [.t 6] := ⟨_, _, Try.func9, rfl, rfl, by kernel_rfl, by kernel_rfl⟩
theorem bd9 : bodied Try.prog 9 = true := by kernel_rfl

/-- ferrule/ferrulelaw04.SeamsSewn -/
def c13 : CI := (.seq (.reg [⟨none, some 1, .box 0 true (.t 0)⟩, ⟨none, some 2, .mv (.c (.bool false))⟩]) (.seq (.seq (.reg [⟨none, some 9, .load true
 11 (.t 1)⟩, ⟨none, some 10, .call 17 [(.t 9)]⟩]) (.cond (.t 10) (.seq (.reg [⟨none, some 11, .call 20 []⟩, ⟨none, some 2, .mv (.t 11)⟩]) .ret) .skip))
 (.seq (.reg [⟨none, some 13, .load true 11 (.t 1)⟩, ⟨none, some 14, .callw 1 6 28 [(.t 13)]⟩, ⟨none, some 15, .call 31 [(.t 14)]⟩, ⟨none, some 12, .mv
 (.t 15)⟩, ⟨none, some 16, .extract 0 (.t 12)⟩, ⟨none, some 17, .extract 1 (.t 12)⟩, ⟨none, some 3, .mv (.t 16)⟩, ⟨none, some 4, .mv (.t 17)⟩]) (.seq (.reg
 [⟨none, some 19, .load true 11 (.t 1)⟩, ⟨none, some 20, .call 43 [(.t 19)]⟩, ⟨none, some 18, .mv (.t 20)⟩, ⟨none, some 21, .extract 0 (.t 18)⟩, ⟨none,
 some 22, .extract 1 (.t 18)⟩, ⟨none, some 5, .mv (.t 21)⟩, ⟨none, some 6, .mv (.t 22)⟩]) (.seq (.reg [⟨none, some 24, .load true 11 (.t 1)⟩, ⟨none, some
 25, .callw 7 6 28 [(.t 24)]⟩, ⟨none, some 26, .callw 13 1 44 [(.t 25)]⟩, ⟨none, some 23, .mv (.t 26)⟩, ⟨none, some 27, .extract 0 (.t 23)⟩, ⟨none, some
 28, .extract 1 (.t 23)⟩, ⟨none, some 7, .mv (.t 27)⟩, ⟨none, some 8, .mv (.t 28)⟩]) (.seq (.seq (.reg [⟨none, some 29, .mv (.t 3)⟩, ⟨none, some 30, .mv
 (.t 5)⟩, ⟨none, some 31, .bin .neq (.t 29) (.t 30)⟩, ⟨none, some 32, .mv (.t 31)⟩, ⟨(some (32, false)), (some 33), .mv (.t 4)⟩, ⟨(some (32, false)), (some
 34), .mv (.t 6)⟩, ⟨(some (32, false)), (some 35), .bin .neq (.t 33) (.t 34)⟩, ⟨none, some 36, .pick (.t 32) (.c (.bool true)) (.t 35)⟩, ⟨none, some 37,
 .mv (.t 36)⟩, ⟨(some (37, false)), (some 38), .mv (.t 8)⟩, ⟨(some (37, false)), (some 39), .mv (.t 6)⟩, ⟨(some (37, false)), (some 40), .bin .neq (.t 38)
 (.t 39)⟩, ⟨none, some 41, .pick (.t 37) (.c (.bool true)) (.t 40)⟩]) (.cond (.t 41) (.seq (.reg [⟨none, some 2, .mv (.c (.bool false))⟩]) .ret) .skip))
 (.seq (.seq (.reg [⟨none, some 42, .mv (.t 6)⟩, ⟨none, some 43, .bin .neq (.t 42) (.c (.int .i64 0))⟩]) (.cond (.t 43) (.seq (.reg [⟨none, some 44, .mv
 (.t 7)⟩, ⟨none, some 45, .len (.t 44)⟩, ⟨none, some 46, .bin .eql (.t 45) (.c (.int .i64 0))⟩, ⟨none, some 47, .mv (.t 46)⟩, ⟨(some (47, true)), (some
 48), .call 20 []⟩, ⟨none, some 49, .pick (.t 47) (.t 48) (.c (.bool false))⟩, ⟨none, some 2, .mv (.t 49)⟩]) .ret) .skip)) (.seq (.reg [⟨none, some 50,
 .load true 11 (.t 1)⟩, ⟨none, some 51, .mv (.t 7)⟩, ⟨none, some 52, .call 33 [(.t 50), (.t 51)]⟩, ⟨none, some 53, .mv (.t 52)⟩, ⟨(some (53, true)), (some
 54), .load true 11 (.t 1)⟩, ⟨(some (53, true)), (some 55), .mv (.t 7)⟩, ⟨(some (53, true)), (some 56), .call 34 [(.t 54), (.t 55)]⟩, ⟨(some (53, true)),
 (some 57), .mv (.t 5)⟩, ⟨(some (53, true)), (some 58), .bin .eql (.t 56) (.t 57)⟩, ⟨none, some 59, .pick (.t 53) (.t 58) (.c (.bool false))⟩, ⟨none, some
 60, .mv (.t 59)⟩, ⟨(some (60, true)), (some 61), .call 20 []⟩, ⟨none, some 62, .pick (.t 60) (.t 61) (.c (.bool false))⟩, ⟨none, some 2, .mv (.t 62)⟩])
 .ret))))))))
theorem ok13 : FnOk Try.prog 13 63 14 c13 [.t 2] := ⟨_, _, Try.func13, rfl, rfl, by kernel_rfl, by kernel_rfl⟩
theorem bd13 : bodied Try.prog 13 = true := by kernel_rfl

/-- ferrule/ferrulelaw04.FarRing -/
def c17 : CI := (.seq (.reg [⟨none, some 1, .box 0 true (.t 0)⟩, ⟨none, some 2, .mv (.c (.bool false))⟩]) (.seq (.reg [⟨none, some 3, .faddr 0 (.t 1)⟩,
 ⟨none, some 4, .load true 6 (.t 3)⟩, ⟨none, some 5, .call 54 [(.t 4)]⟩, ⟨none, some 6, .mv (.t 5)⟩, ⟨(some (6, false)), (some 7), .faddr 9 (.t 1)⟩, ⟨(some
 (6, false)), (some 8), .load false 1 (.t 7)⟩, ⟨(some (6, false)), (some 9), .len (.t 8)⟩, ⟨(some (6, false)), (some 10), .bin .gtr (.t 9) (.c (.int .i64
 60))⟩, ⟨none, some 11, .pick (.t 6) (.c (.bool true)) (.t 10)⟩, ⟨none, some 12, .mv (.t 11)⟩, ⟨(some (12, false)), (some 13), .faddr 10 (.t 1)⟩, ⟨(some
 (12, false)), (some 14), .load false 1 (.t 13)⟩, ⟨(some (12, false)), (some 15), .len (.t 14)⟩, ⟨(some (12, false)), (some 16), .bin .gtr (.t 15) (.c (.int
 .i64 60))⟩, ⟨none, some 17, .pick (.t 12) (.c (.bool true)) (.t 16)⟩, ⟨none, some 2, .mv (.t 17)⟩]) .ret))
theorem ok17 : FnOk Try.prog 17 18 1 c17 [.t 2] := ⟨_, _, Try.func17, rfl, rfl, by kernel_rfl, by kernel_rfl⟩
theorem bd17 : bodied Try.prog 17 = true := by kernel_rfl

/-- ferrule/ferrulelaw04.works -/
def c20 : CI := (.seq (.reg [⟨none, some 0, .mv (.c (.bool false))⟩]) (.seq (.reg [⟨none, some 10, .callw 0 6 57 []⟩, ⟨none, some 1, .alloc 6 [.nils, .nils,
 (.int .i64 0), .nils, .nils, (.int .i64 0), (.int .i64 0), (.int .i64 0), (.int .i64 0), .nils, .nils]⟩, ⟨none, none, .stz true 11 (.t 1) (.t 10) []⟩])
 (.seq (.reg [⟨none, some 12, .load true 11 (.t 1)⟩, ⟨none, some 13, .callw 7 1 22 [(.t 12)]⟩, ⟨none, some 11, .mv (.t 13)⟩, ⟨none, some 14, .extract 0
 (.t 11)⟩, ⟨none, some 15, .extract 1 (.t 11)⟩, ⟨none, some 2, .mv (.t 14)⟩, ⟨none, some 3, .mv (.t 15)⟩]) (.seq (.reg [⟨none, some 17, .load true 11 (.t
 1)⟩, ⟨none, some 18, .call 29 [(.t 17)]⟩, ⟨none, some 16, .mv (.t 18)⟩, ⟨none, some 19, .extract 0 (.t 16)⟩, ⟨none, some 20, .extract 1 (.t 16)⟩, ⟨none,
 some 4, .mv (.t 19)⟩, ⟨none, some 5, .mv (.t 20)⟩]) (.seq (.reg [⟨none, some 22, .load true 11 (.t 1)⟩, ⟨none, some 23, .call 31 [(.t 22)]⟩, ⟨none, some
 21, .mv (.t 23)⟩, ⟨none, some 24, .extract 0 (.t 21)⟩, ⟨none, some 25, .extract 1 (.t 21)⟩, ⟨none, some 6, .mv (.t 24)⟩, ⟨none, some 7, .mv (.t 25)⟩])
 (.seq (.reg [⟨none, some 26, .faddr 8 (.t 1)⟩, ⟨none, none, .store false 1 (.t 26) (.c (.int .i64 2)) []⟩]) (.seq (.reg [⟨none, some 28, .load true 11
 (.t 1)⟩, ⟨none, some 29, .call 26 [(.t 28)]⟩, ⟨none, some 27, .mv (.t 29)⟩, ⟨none, some 30, .extract 0 (.t 27)⟩, ⟨none, some 31, .extract 1 (.t 27)⟩, ⟨none,
 some 8, .mv (.t 30)⟩, ⟨none, some 9, .mv (.t 31)⟩]) (.seq (.reg [⟨none, some 32, .mv (.t 3)⟩, ⟨none, some 33, .bin .eql (.t 32) (.c (.int .i64 0))⟩, ⟨none,
 some 34, .mv (.t 33)⟩, ⟨(some (34, true)), (some 35), .mv (.t 5)⟩, ⟨(some (34, true)), (some 36), .bin .eql (.t 35) (.c (.int .i64 0))⟩, ⟨none, some 37,
 .pick (.t 34) (.t 36) (.c (.bool false))⟩, ⟨none, some 38, .mv (.t 37)⟩, ⟨(some (38, true)), (some 39), .mv (.t 7)⟩, ⟨(some (38, true)), (some 40), .bin
 .eql (.t 39) (.c (.int .i64 0))⟩, ⟨none, some 41, .pick (.t 38) (.t 40) (.c (.bool false))⟩, ⟨none, some 42, .mv (.t 41)⟩, ⟨(some (42, true)), (some 43),
 .mv (.t 9)⟩, ⟨(some (42, true)), (some 44), .bin .eql (.t 43) (.c (.int .i64 0))⟩, ⟨none, some 45, .pick (.t 42) (.t 44) (.c (.bool false))⟩, ⟨none, some
 46, .mv (.t 45)⟩, ⟨(some (46, true)), (some 47), .mv (.t 2)⟩, ⟨(some (46, true)), (some 48), .bsl 8 3 1 [(.c (.int .i64 0)), (.c (.int .i64 3))] []⟩, ⟨(some
 (46, true)), (some 49), .call 35 [(.t 47), (.t 48)]⟩, ⟨none, some 50, .pick (.t 46) (.t 49) (.c (.bool false))⟩, ⟨none, some 51, .mv (.t 50)⟩, ⟨(some (51,
 true)), (some 52), .mv (.t 4)⟩, ⟨(some (51, true)), (some 53), .bin .eql (.t 52) (.c (.int .i64 2))⟩, ⟨none, some 54, .pick (.t 51) (.t 53) (.c (.bool
 false))⟩, ⟨none, some 55, .mv (.t 54)⟩, ⟨(some (55, true)), (some 56), .mv (.t 6)⟩, ⟨(some (55, true)), (some 57), .bin .eql (.t 56) (.c (.int .i64 13))⟩,
 ⟨none, some 58, .pick (.t 55) (.t 57) (.c (.bool false))⟩, ⟨none, some 59, .mv (.t 58)⟩, ⟨(some (59, true)), (some 60), .mv (.t 8)⟩, ⟨(some (59, true)),
 (some 61), .bin .eql (.t 60) (.c (.int .i64 12))⟩, ⟨none, some 62, .pick (.t 59) (.t 61) (.c (.bool false))⟩, ⟨none, some 0, .mv (.t 62)⟩]) .ret))))))))
theorem ok20 : FnOk Try.prog 20 63 9 c20 [.t 0] := ⟨_, _, Try.func20, rfl, rfl, by kernel_rfl, by kernel_rfl⟩
theorem bd20 : bodied Try.prog 20 = true := by kernel_rfl

/-- ferrule/seams.Bad -/
def c22 : CI := (.seq (.reg [⟨none, some 1, .box 0 true (.t 0)⟩, ⟨none, some 2, .mv (.c .nils)⟩, ⟨none, some 3, .mv (.c (.int .i64 0))⟩]) (.seq (.reg [⟨none,
 some 9, .load true 11 (.t 1)⟩, ⟨none, some 10, .callw 1 7 61 [(.t 9)]⟩, ⟨none, some 8, .mv (.t 10)⟩, ⟨none, some 11, .extract 0 (.t 8)⟩, ⟨none, some 12,
 .extract 1 (.t 8)⟩, ⟨none, some 4, .alloc 8 [.nils, .nils, (.int .i64 0), .nils, .nils, (.int .i64 0), (.int .i64 0), (.int .i64 0), (.int .i64 0), .nils,
 .nils, .nils]⟩, ⟨none, none, .stz true 12 (.t 4) (.t 11) []⟩, ⟨none, some 5, .mv (.t 12)⟩]) (.seq (.seq (.reg [⟨none, some 13, .mv (.t 5)⟩, ⟨none, some
 14, .bin .neq (.t 13) (.c (.int .i64 0))⟩]) (.cond (.t 14) (.seq (.reg [⟨none, some 15, .mv (.t 5)⟩, ⟨none, some 2, .mv (.c .nils)⟩, ⟨none, some 3, .mv
 (.t 15)⟩]) .ret) .skip)) (.seq (.reg [⟨none, some 6, .mv (.c .nils)⟩]) (.seq (.seq (.reg [⟨none, some 16, .faddr 0 (.t 4)⟩, ⟨none, some 17, .faddr 0 (.t
 16)⟩, ⟨none, some 18, .faddr 10 (.t 17)⟩, ⟨none, some 19, .load false 1 (.t 18)⟩, ⟨none, some 20, .len (.t 19)⟩, ⟨none, some 21, .mv (.c (.int .i64 0))⟩])
 (.block 0 (.loop (.seq (.reg [⟨none, some 22, .bin .lss (.t 21) (.t 20)⟩]) (.seq (.cond (.t 22) .skip (.exit 0)) (.seq (.block 1 (.seq (.reg [⟨none, some
 23, .mv (.t 21)⟩, ⟨none, some 7, .mv (.t 23)⟩]) (.seq (.reg [⟨none, some 24, .load true 12 (.t 4)⟩, ⟨none, some 25, .mv (.t 7)⟩, ⟨none, some 26, .call
 60 [(.t 24), (.t 25)]⟩, ⟨none, some 27, .bin .neq (.t 26) (.c (.int .i64 1))⟩]) (.cond (.t 27) (.reg [⟨none, some 28, .mv (.t 6)⟩, ⟨none, some 29, .mv
 (.t 7)⟩, ⟨none, some 30, .bsl 9 3 1 [(.t 29)] []⟩, ⟨none, some 31, .apd 10 3 1 8 (.t 28) (.t 30) []⟩, ⟨none, some 6, .mv (.t 31)⟩]) .skip)))) (.reg [⟨none,
 some 32, .bin .add (.t 21) (.c (.int .i64 1))⟩, ⟨none, some 21, .mv (.t 32)⟩]))))))) (.seq (.reg [⟨none, some 33, .mv (.t 6)⟩, ⟨none, some 2, .mv (.t 33)⟩,
 ⟨none, some 3, .mv (.c (.int .i64 0))⟩]) .ret))))))
theorem ok22 : FnOk Try.prog 22 34 11 c22 [.t 2, .t 3] := ⟨_, _, Try.func22, rfl, rfl, by kernel_rfl, by kernel_rfl⟩
theorem bd22 : bodied Try.prog 22 = true := by kernel_rfl

/-- ferrule/seams.Least -/
def c26 : CI := (.seq (.reg [⟨none, some 1, .box 0 true (.t 0)⟩, ⟨none, some 2, .mv (.c (.int .i64 0))⟩, ⟨none, some 3, .mv (.c (.int .i64 0))⟩]) (.seq
 (.reg [⟨none, some 10, .load true 11 (.t 1)⟩, ⟨none, some 11, .callw 1 1 42 [(.t 10)]⟩, ⟨none, some 9, .mv (.t 11)⟩, ⟨none, some 12, .extract 0 (.t 9)⟩,
 ⟨none, some 13, .extract 1 (.t 9)⟩, ⟨none, some 4, .mv (.t 12)⟩, ⟨none, some 5, .mv (.t 13)⟩]) (.seq (.reg [⟨none, some 6, .mv (.c (.int .i64 0))⟩]) (.seq
 (.seq (.reg [⟨none, some 14, .mv (.t 4)⟩, ⟨none, some 15, .len (.t 14)⟩, ⟨none, some 16, .mv (.c (.int .i64 0))⟩]) (.block 0 (.loop (.seq (.reg [⟨none,
 some 17, .bin .lss (.t 16) (.t 15)⟩]) (.seq (.cond (.t 17) .skip (.exit 0)) (.seq (.block 1 (.seq (.reg [⟨none, some 18, .iaddr 1 (.t 14) (.t 16)⟩, ⟨none,
 some 19, .load false 1 (.t 18)⟩, ⟨none, some 8, .mv (.t 19)⟩]) (.reg [⟨none, some 20, .mv (.t 6)⟩, ⟨none, some 21, .mv (.t 8)⟩, ⟨none, some 22, .bin .add
 (.t 20) (.t 21)⟩, ⟨none, some 6, .mv (.t 22)⟩]))) (.reg [⟨none, some 23, .bin .add (.t 16) (.c (.int .i64 1))⟩, ⟨none, some 16, .mv (.t 23)⟩]))))))) (.seq
 (.reg [⟨none, some 24, .mv (.t 6)⟩, ⟨none, some 25, .mv (.t 5)⟩, ⟨none, some 2, .mv (.t 24)⟩, ⟨none, some 3, .mv (.t 25)⟩]) .ret)))))
theorem ok26 : FnOk Try.prog 26 26 2 c26 [.t 2, .t 3] := ⟨_, _, Try.func26, rfl, rfl, by kernel_rfl, by kernel_rfl⟩
theorem bd26 : bodied Try.prog 26 = true := by kernel_rfl

/-- ferrule/ferruleref04.Copy -/
def c28 : CI := (.seq (.reg [⟨none, some 1, .box 0 true (.t 0)⟩, ⟨none, some 2, .alloc 1 [.nils, .nils, (.int .i64 0), .nils, .nils, (.int .i64 0), (.int
 .i64 0), (.int .i64 0), (.int .i64 0), .nils, .nils]⟩]) (.seq (.reg [⟨none, some 4, .load true 11 (.t 1)⟩, ⟨none, some 3, .alloc 2 [.nils, .nils, (.int
 .i64 0), .nils, .nils, (.int .i64 0), (.int .i64 0), (.int .i64 0), (.int .i64 0), .nils, .nils]⟩, ⟨none, none, .stz true 11 (.t 3) (.t 4) []⟩]) (.seq
 (.reg [⟨none, some 5, .faddr 0 (.t 1)⟩, ⟨none, some 6, .load true 6 (.t 5)⟩, ⟨none, some 7, .callw 3 4 67 [(.t 6)]⟩, ⟨none, some 8, .faddr 0 (.t 3)⟩, ⟨none,
 none, .stz true 6 (.t 8) (.t 7) []⟩]) (.seq (.reg [⟨none, some 10, .faddr 9 (.t 1)⟩, ⟨none, some 11, .load false 1 (.t 10)⟩, ⟨none, some 14, .faddr 10
 (.t 1)⟩, ⟨none, some 15, .load false 1 (.t 14)⟩, ⟨none, some 9, .bsl 7 3 1 [] []⟩, ⟨none, some 12, .apd 8 3 1 8 (.t 9) (.t 11) [(.t 14)]⟩, ⟨none, some
 13, .bsl 9 3 1 [] [(.t 9), (.t 11)]⟩, ⟨none, some 16, .apd 10 3 1 8 (.t 13) (.t 15) []⟩, ⟨none, some 17, .faddr 9 (.t 3)⟩, ⟨none, none, .stz false 1 (.t
 17) (.t 12) []⟩, ⟨none, some 18, .faddr 10 (.t 3)⟩, ⟨none, none, .stz false 1 (.t 18) (.t 16) []⟩]) (.seq (.reg [⟨none, some 19, .load true 11 (.t 3)⟩,
 ⟨none, none, .stz true 11 (.t 2) (.t 19) []⟩]) .ret)))))
theorem ok28 : FnOk Try.prog 28 20 11 c28 [.cell 2 true 11] := ⟨_, _, Try.func28, rfl, rfl, by kernel_rfl, by kernel_rfl⟩
theorem bd28 : bodied Try.prog 28 = true := by kernel_rfl

/-- ferrule/seams.Closest -/
def c29 : CI := (.seq (.reg [⟨none, some 1, .box 0 true (.t 0)⟩, ⟨none, some 2, .mv (.c (.int .i64 0))⟩, ⟨none, some 3, .mv (.c (.int .i64 0))⟩]) (.seq
 (.reg [⟨none, some 7, .load true 11 (.t 1)⟩, ⟨none, some 8, .callw 1 7 61 [(.t 7)]⟩, ⟨none, some 6, .mv (.t 8)⟩, ⟨none, some 9, .extract 0 (.t 6)⟩, ⟨none,
 some 10, .extract 1 (.t 6)⟩, ⟨none, some 4, .alloc 8 [.nils, .nils, (.int .i64 0), .nils, .nils, (.int .i64 0), (.int .i64 0), (.int .i64 0), (.int .i64
 0), .nils, .nils, .nils]⟩, ⟨none, none, .stz true 12 (.t 4) (.t 9) []⟩, ⟨none, some 5, .mv (.t 10)⟩]) (.seq (.seq (.reg [⟨none, some 11, .mv (.t 5)⟩, ⟨none,
 some 12, .bin .neq (.t 11) (.c (.int .i64 0))⟩]) (.cond (.t 12) (.seq (.reg [⟨none, some 13, .mv (.t 5)⟩, ⟨none, some 2, .mv (.c (.int .i64 0))⟩, ⟨none,
 some 3, .mv (.t 13)⟩]) .ret) .skip)) (.seq (.reg [⟨none, some 14, .load true 12 (.t 4)⟩, ⟨none, some 15, .call 68 [(.t 14)]⟩, ⟨none, some 2, .mv (.t 15)⟩,
 ⟨none, some 3, .mv (.c (.int .i64 0))⟩]) .ret))))
theorem ok29 : FnOk Try.prog 29 16 9 c29 [.t 2, .t 3] := ⟨_, _, Try.func29, rfl, rfl, by kernel_rfl, by kernel_rfl⟩
theorem bd29 : bodied Try.prog 29 = true := by kernel_rfl

/-- ferrule/seams.Soonest -/
def c31 : CI := (.seq (.reg [⟨none, some 1, .box 0 true (.t 0)⟩, ⟨none, some 2, .mv (.c (.int .i64 0))⟩, ⟨none, some 3, .mv (.c (.int .i64 0))⟩]) (.seq
 (.seq (.reg [⟨none, some 7, .load true 11 (.t 1)⟩, ⟨none, some 8, .call 36 [(.t 7)]⟩, ⟨none, some 4, .mv (.t 8)⟩]) (.seq (.reg [⟨none, some 9, .mv (.t
 4)⟩, ⟨none, some 10, .bin .neq (.t 9) (.c (.int .i64 0))⟩]) (.cond (.t 10) (.seq (.reg [⟨none, some 11, .mv (.t 4)⟩, ⟨none, some 2, .mv (.c (.int .i64
 0))⟩, ⟨none, some 3, .mv (.t 11)⟩]) .ret) .skip))) (.seq (.reg [⟨none, some 13, .load true 11 (.t 1)⟩, ⟨none, some 14, .build [.nils, .nils, (.int .i64
 0), .nils, .nils, (.int .i64 0), (.int .i64 0), (.int .i64 0), (.int .i64 0), .nils, .nils] [(0, 11, (.t 13))]⟩, ⟨none, some 15, .callw 1 1 69 [(.t 14)]⟩,
 ⟨none, some 12, .mv (.t 15)⟩, ⟨none, some 16, .extract 0 (.t 12)⟩, ⟨none, some 17, .extract 1 (.t 12)⟩, ⟨none, some 5, .mv (.t 16)⟩, ⟨none, some 6, .mv
 (.t 17)⟩]) (.seq (.reg [⟨none, some 18, .mv (.t 6)⟩, ⟨none, some 2, .mv (.t 18)⟩, ⟨none, some 3, .mv (.c (.int .i64 0))⟩]) .ret))))
theorem ok31 : FnOk Try.prog 31 19 2 c31 [.t 2, .t 3] := ⟨_, _, Try.func31, rfl, rfl, by kernel_rfl, by kernel_rfl⟩
theorem bd31 : bodied Try.prog 31 = true := by kernel_rfl

/-- ferrule/ferruleref04.Check -/
def c32 : CI := (.seq (.reg [⟨none, some 1, .box 0 true (.t 0)⟩, ⟨none, some 2, .mv (.c (.int .i64 0))⟩]) (.seq (.seq (.reg [⟨none, some 5, .faddr 0 (.t
 1)⟩, ⟨none, some 6, .load true 6 (.t 5)⟩, ⟨none, some 7, .call 70 [(.t 6)]⟩, ⟨none, some 3, .mv (.t 7)⟩]) (.seq (.reg [⟨none, some 8, .mv (.t 3)⟩, ⟨none,
 some 9, .bin .neq (.t 8) (.c (.int .i64 0))⟩]) (.cond (.t 9) (.seq (.reg [⟨none, some 10, .mv (.t 3)⟩, ⟨none, some 2, .mv (.t 10)⟩]) .ret) .skip))) (.seq
 (.reg [⟨none, some 11, .faddr 0 (.t 1)⟩, ⟨none, some 12, .faddr 1 (.t 11)⟩, ⟨none, some 13, .load false 1 (.t 12)⟩, ⟨none, some 14, .len (.t 13)⟩, ⟨none,
 some 4, .mv (.t 14)⟩]) (.seq (.seq (.reg [⟨none, some 15, .faddr 6 (.t 1)⟩, ⟨none, some 16, .load false 1 (.t 15)⟩, ⟨none, some 17, .bin .lss (.t 16) (.c
 (.int .i64 1))⟩, ⟨none, some 18, .mv (.t 17)⟩, ⟨(some (18, false)), (some 19), .faddr 6 (.t 1)⟩, ⟨(some (18, false)), (some 20), .load false 1 (.t 19)⟩,
 ⟨(some (18, false)), (some 21), .bin .gtr (.t 20) (.c (.int .i64 60))⟩, ⟨none, some 22, .pick (.t 18) (.c (.bool true)) (.t 21)⟩, ⟨none, some 23, .mv (.t
 22)⟩, ⟨(some (23, false)), (some 24), .faddr 7 (.t 1)⟩, ⟨(some (23, false)), (some 25), .load false 1 (.t 24)⟩, ⟨(some (23, false)), (some 26), .bin .lss
 (.t 25) (.c (.int .i64 0))⟩, ⟨none, some 27, .pick (.t 23) (.c (.bool true)) (.t 26)⟩, ⟨none, some 28, .mv (.t 27)⟩, ⟨(some (28, false)), (some 29), .faddr
 7 (.t 1)⟩, ⟨(some (28, false)), (some 30), .load false 1 (.t 29)⟩, ⟨(some (28, false)), (some 31), .bin .gtr (.t 30) (.c (.int .i64 2000))⟩, ⟨none, some
 32, .pick (.t 28) (.c (.bool true)) (.t 31)⟩, ⟨none, some 33, .mv (.t 32)⟩, ⟨(some (33, false)), (some 34), .faddr 8 (.t 1)⟩, ⟨(some (33, false)), (some
 35), .load false 1 (.t 34)⟩, ⟨(some (33, false)), (some 36), .bin .lss (.t 35) (.c (.int .i64 0))⟩, ⟨none, some 37, .pick (.t 33) (.c (.bool true)) (.t
 36)⟩, ⟨none, some 38, .mv (.t 37)⟩, ⟨(some (38, false)), (some 39), .faddr 8 (.t 1)⟩, ⟨(some (38, false)), (some 40), .load false 1 (.t 39)⟩, ⟨(some (38,
 false)), (some 41), .faddr 6 (.t 1)⟩, ⟨(some (38, false)), (some 42), .load false 1 (.t 41)⟩, ⟨(some (38, false)), (some 43), .bin .quo (.t 42) (.c (.int
 .i64 2))⟩, ⟨(some (38, false)), (some 44), .bin .gtr (.t 40) (.t 43)⟩, ⟨none, some 45, .pick (.t 38) (.c (.bool true)) (.t 44)⟩, ⟨none, some 46, .mv (.t
 45)⟩, ⟨(some (46, false)), (some 47), .faddr 9 (.t 1)⟩, ⟨(some (46, false)), (some 48), .load false 1 (.t 47)⟩, ⟨(some (46, false)), (some 49), .mv (.t
 4)⟩, ⟨(some (46, false)), (some 50), .faddr 6 (.t 1)⟩, ⟨(some (46, false)), (some 51), .load false 1 (.t 50)⟩, ⟨(some (46, false)), (some 52), .bin .sub
 (.t 51) (.c (.int .i64 1))⟩, ⟨(some (46, false)), (some 53), .call 64 [(.t 48), (.t 49), (.c (.int .i64 0)), (.t 52)]⟩, ⟨(some (46, false)), (some 54),
 .un .not (.t 53)⟩, ⟨none, some 55, .pick (.t 46) (.c (.bool true)) (.t 54)⟩, ⟨none, some 56, .mv (.t 55)⟩, ⟨(some (56, false)), (some 57), .faddr 10 (.t
 1)⟩, ⟨(some (56, false)), (some 58), .load false 1 (.t 57)⟩, ⟨(some (56, false)), (some 59), .mv (.t 4)⟩, ⟨(some (56, false)), (some 60), .call 64 [(.t
 58), (.t 59), (.c (.int .i64 1)), (.c (.int .i64 99))]⟩, ⟨(some (56, false)), (some 61), .un .not (.t 60)⟩, ⟨none, some 62, .pick (.t 56) (.c (.bool true))
 (.t 61)⟩]) (.cond (.t 62) (.seq (.reg [⟨none, some 2, .mv (.c (.int .i64 40))⟩]) .ret) .skip)) (.seq (.reg [⟨none, some 2, .mv (.c (.int .i64 0))⟩]) .ret)))))
theorem ok32 : FnOk Try.prog 32 63 1 c32 [.t 2] := ⟨_, _, Try.func32, rfl, rfl, by kernel_rfl, by kernel_rfl⟩
theorem bd32 : bodied Try.prog 32 = true := by kernel_rfl

/-- ferrule/ferruleref04.CanSew -/
def c33 : CI := (.seq (.reg [⟨none, some 2, .box 0 true (.t 0)⟩, ⟨none, some 4, .mv (.c (.bool false))⟩]) (.seq (.seq (.reg [⟨none, some 10, .mv (.t 1)⟩,
 ⟨none, some 11, .faddr 10 (.t 2)⟩, ⟨none, some 12, .load false 1 (.t 11)⟩, ⟨none, some 13, .len (.t 12)⟩, ⟨none, some 14, .call 64 [(.t 10), (.t 13), (.c
 (.int .i64 0)), (.c (.int .i64 1000000))]⟩, ⟨none, some 15, .un .not (.t 14)⟩]) (.cond (.t 15) (.seq (.reg [⟨none, some 4, .mv (.c (.bool false))⟩]) .ret)
 .skip)) (.seq (.seq (.reg [⟨none, some 5, .mv (.c (.int .i64 0))⟩]) (.block 0 (.loop (.seq (.seq (.reg [⟨none, some 16, .mv (.t 5)⟩, ⟨none, some 17, .mv
 (.t 1)⟩, ⟨none, some 18, .len (.t 17)⟩, ⟨none, some 19, .bin .lss (.t 16) (.t 18)⟩]) (.cond (.t 19) .skip (.exit 0))) (.seq (.block 1 (.seq (.reg [⟨none,
 some 6, .mv (.c (.int .i64 0))⟩]) (.block 2 (.loop (.seq (.seq (.reg [⟨none, some 22, .mv (.t 6)⟩, ⟨none, some 23, .mv (.t 5)⟩, ⟨none, some 24, .bin .lss
 (.t 22) (.t 23)⟩]) (.cond (.t 24) .skip (.exit 2))) (.seq (.block 3 (.seq (.seq (.reg [⟨none, some 27, .mv (.t 1)⟩, ⟨none, some 28, .mv (.t 5)⟩, ⟨none,
 some 29, .iaddr 1 (.t 27) (.t 28)⟩, ⟨none, some 30, .load false 1 (.t 29)⟩, ⟨none, some 31, .mv (.t 1)⟩, ⟨none, some 32, .mv (.t 6)⟩, ⟨none, some 33, .iaddr
 1 (.t 31) (.t 32)⟩, ⟨none, some 34, .load false 1 (.t 33)⟩, ⟨none, some 35, .faddr 10 (.t 2)⟩, ⟨none, some 36, .load false 1 (.t 35)⟩, ⟨none, some 37,
 .mv (.t 6)⟩, ⟨none, some 38, .iaddr 1 (.t 36) (.t 37)⟩, ⟨none, some 39, .load false 1 (.t 38)⟩, ⟨none, some 40, .bin .add (.t 34) (.t 39)⟩, ⟨none, some
 41, .bin .geq (.t 30) (.t 40)⟩, ⟨none, some 42, .mv (.t 41)⟩, ⟨(some (42, false)), (some 43), .mv (.t 1)⟩, ⟨(some (42, false)), (some 44), .mv (.t 6)⟩,
 ⟨(some (42, false)), (some 45), .iaddr 1 (.t 43) (.t 44)⟩, ⟨(some (42, false)), (some 46), .load false 1 (.t 45)⟩, ⟨(some (42, false)), (some 47), .mv
 (.t 1)⟩, ⟨(some (42, false)), (some 48), .mv (.t 5)⟩, ⟨(some (42, false)), (some 49), .iaddr 1 (.t 47) (.t 48)⟩, ⟨(some (42, false)), (some 50), .load
 false 1 (.t 49)⟩, ⟨(some (42, false)), (some 51), .faddr 10 (.t 2)⟩, ⟨(some (42, false)), (some 52), .load false 1 (.t 51)⟩, ⟨(some (42, false)), (some
 53), .mv (.t 5)⟩, ⟨(some (42, false)), (some 54), .iaddr 1 (.t 52) (.t 53)⟩, ⟨(some (42, false)), (some 55), .load false 1 (.t 54)⟩, ⟨(some (42, false)),
 (some 56), .bin .add (.t 50) (.t 55)⟩, ⟨(some (42, false)), (some 57), .bin .geq (.t 46) (.t 56)⟩, ⟨none, some 58, .pick (.t 42) (.c (.bool true)) (.t
 57)⟩]) (.cond (.t 58) (.exit 3) .skip)) (.seq (.reg [⟨none, some 59, .load true 11 (.t 2)⟩, ⟨none, some 60, .mv (.t 1)⟩, ⟨none, some 61, .mv (.t 5)⟩, ⟨none,
 some 63, .load true 11 (.t 2)⟩, ⟨none, some 64, .mv (.t 1)⟩, ⟨none, some 65, .mv (.t 6)⟩, ⟨none, some 62, .callz 1 1 71 [(.t 59), (.t 60), (.t 61)] []⟩,
 ⟨none, some 66, .callz 2 1 71 [(.t 63), (.t 64), (.t 65)] []⟩, ⟨none, some 7, .mv (.t 62)⟩, ⟨none, some 8, .mv (.t 66)⟩]) (.seq (.reg [⟨none, some 9, .mv
 (.c (.int .i64 0))⟩]) (.block 4 (.loop (.seq (.seq (.reg [⟨none, some 67, .mv (.t 9)⟩, ⟨none, some 68, .mv (.t 1)⟩, ⟨none, some 69, .len (.t 68)⟩, ⟨none,
 some 70, .bin .lss (.t 67) (.t 69)⟩]) (.cond (.t 70) .skip (.exit 4))) (.seq (.block 5 (.seq (.reg [⟨none, some 73, .mv (.t 7)⟩, ⟨none, some 74, .mv (.t
 9)⟩, ⟨none, some 75, .iaddr 1 (.t 73) (.t 74)⟩, ⟨none, some 76, .load false 1 (.t 75)⟩, ⟨none, some 77, .mv (.t 76)⟩, ⟨(some (77, true)), (some 78), .mv
 (.t 8)⟩, ⟨(some (77, true)), (some 79), .mv (.t 9)⟩, ⟨(some (77, true)), (some 80), .iaddr 1 (.t 78) (.t 79)⟩, ⟨(some (77, true)), (some 81), .load false
 1 (.t 80)⟩, ⟨none, some 82, .pick (.t 77) (.t 81) (.c (.bool false))⟩]) (.cond (.t 82) (.seq (.reg [⟨none, some 4, .mv (.c (.bool false))⟩]) .ret) .skip)))
 (.reg [⟨none, some 71, .mv (.t 9)⟩, ⟨none, some 72, .bin .add (.t 71) (.c (.int .i64 1))⟩, ⟨none, some 9, .mv (.t 72)⟩]))))))))) (.reg [⟨none, some 25,
 .mv (.t 6)⟩, ⟨none, some 26, .bin .add (.t 25) (.c (.int .i64 1))⟩, ⟨none, some 6, .mv (.t 26)⟩]))))))) (.reg [⟨none, some 20, .mv (.t 5)⟩, ⟨none, some
 21, .bin .add (.t 20) (.c (.int .i64 1))⟩, ⟨none, some 5, .mv (.t 21)⟩])))))) (.seq (.reg [⟨none, some 4, .mv (.c (.bool true))⟩]) .ret))))
theorem ok33 : FnOk Try.prog 33 83 3 c33 [.t 4] := ⟨_, _, Try.func33, rfl, rfl, by kernel_rfl, by kernel_rfl⟩
theorem bd33 : bodied Try.prog 33 = true := by kernel_rfl

/-- ferrule/ferruleref04.Ends -/
def c34 : CI := (.seq (.reg [⟨none, some 2, .box 0 true (.t 0)⟩, ⟨none, some 4, .mv (.c (.int .i64 0))⟩]) (.seq (.reg [⟨none, some 5, .mv (.c (.int .i64
 0))⟩]) (.seq (.seq (.reg [⟨none, some 6, .mv (.c (.int .i64 0))⟩]) (.block 0 (.loop (.seq (.seq (.reg [⟨none, some 7, .mv (.t 6)⟩, ⟨none, some 8, .mv (.t
 1)⟩, ⟨none, some 9, .len (.t 8)⟩, ⟨none, some 10, .bin .lss (.t 7) (.t 9)⟩]) (.cond (.t 10) .skip (.exit 0))) (.seq (.block 1 (.reg [⟨none, some 13, .mv
 (.t 5)⟩, ⟨none, some 14, .mv (.t 1)⟩, ⟨none, some 15, .mv (.t 6)⟩, ⟨none, some 16, .iaddr 1 (.t 14) (.t 15)⟩, ⟨none, some 17, .load false 1 (.t 16)⟩, ⟨none,
 some 18, .faddr 10 (.t 2)⟩, ⟨none, some 19, .load false 1 (.t 18)⟩, ⟨none, some 20, .mv (.t 6)⟩, ⟨none, some 21, .iaddr 1 (.t 19) (.t 20)⟩, ⟨none, some
 22, .load false 1 (.t 21)⟩, ⟨none, some 23, .bin .add (.t 17) (.t 22)⟩, ⟨none, some 24, .mm true [(.t 13), (.t 23)]⟩, ⟨none, some 5, .mv (.t 24)⟩])) (.reg
 [⟨none, some 11, .mv (.t 6)⟩, ⟨none, some 12, .bin .add (.t 11) (.c (.int .i64 1))⟩, ⟨none, some 6, .mv (.t 12)⟩])))))) (.seq (.reg [⟨none, some 25, .mv
 (.t 5)⟩, ⟨none, some 4, .mv (.t 25)⟩]) .ret))))
theorem ok34 : FnOk Try.prog 34 26 1 c34 [.t 4] := ⟨_, _, Try.func34, rfl, rfl, by kernel_rfl, by kernel_rfl⟩
theorem bd34 : bodied Try.prog 34 = true := by kernel_rfl

/-- ferrule/ferrulelaw04.sameInts -/
def c35 : CI := (.seq (.reg [⟨none, some 4, .mv (.c (.bool false))⟩]) (.seq (.seq (.reg [⟨none, some 6, .mv (.t 0)⟩, ⟨none, some 7, .len (.t 6)⟩, ⟨none,
 some 8, .mv (.t 1)⟩, ⟨none, some 9, .len (.t 8)⟩, ⟨none, some 10, .bin .neq (.t 7) (.t 9)⟩]) (.cond (.t 10) (.seq (.reg [⟨none, some 4, .mv (.c (.bool
 false))⟩]) .ret) .skip)) (.seq (.seq (.reg [⟨none, some 5, .mv (.c (.int .i64 0))⟩]) (.block 0 (.loop (.seq (.seq (.reg [⟨none, some 11, .mv (.t 5)⟩, ⟨none,
 some 12, .mv (.t 0)⟩, ⟨none, some 13, .len (.t 12)⟩, ⟨none, some 14, .bin .lss (.t 11) (.t 13)⟩]) (.cond (.t 14) .skip (.exit 0))) (.seq (.block 1 (.seq
 (.reg [⟨none, some 17, .mv (.t 0)⟩, ⟨none, some 18, .mv (.t 5)⟩, ⟨none, some 19, .iaddr 1 (.t 17) (.t 18)⟩, ⟨none, some 20, .load false 1 (.t 19)⟩, ⟨none,
 some 21, .mv (.t 1)⟩, ⟨none, some 22, .mv (.t 5)⟩, ⟨none, some 23, .iaddr 1 (.t 21) (.t 22)⟩, ⟨none, some 24, .load false 1 (.t 23)⟩, ⟨none, some 25, .bin
 .neq (.t 20) (.t 24)⟩]) (.cond (.t 25) (.seq (.reg [⟨none, some 4, .mv (.c (.bool false))⟩]) .ret) .skip))) (.reg [⟨none, some 15, .mv (.t 5)⟩, ⟨none,
 some 16, .bin .add (.t 15) (.c (.int .i64 1))⟩, ⟨none, some 5, .mv (.t 16)⟩])))))) (.seq (.reg [⟨none, some 4, .mv (.c (.bool true))⟩]) .ret))))
theorem ok35 : FnOk Try.prog 35 26 0 c35 [.t 4] := ⟨_, _, Try.func35, rfl, rfl, by kernel_rfl, by kernel_rfl⟩
theorem bd35 : bodied Try.prog 35 = true := by kernel_rfl

/-- ferrule/seams.Check -/
def c36 : CI := (.seq (.reg [⟨none, some 1, .box 0 true (.t 0)⟩, ⟨none, some 2, .mv (.c (.int .i64 0))⟩]) (.seq (.seq (.reg [⟨none, some 4, .faddr 0 (.t
 1)⟩, ⟨none, some 5, .load true 6 (.t 4)⟩, ⟨none, some 6, .call 72 [(.t 5)]⟩, ⟨none, some 3, .mv (.t 6)⟩]) (.seq (.reg [⟨none, some 7, .mv (.t 3)⟩, ⟨none,
 some 8, .bin .neq (.t 7) (.c (.int .i64 0))⟩]) (.cond (.t 8) (.seq (.reg [⟨none, some 9, .mv (.t 3)⟩, ⟨none, some 2, .mv (.t 9)⟩]) .ret) .skip))) (.seq
 (.seq (.reg [⟨none, some 10, .load true 11 (.t 1)⟩, ⟨none, some 11, .call 73 [(.t 10)]⟩, ⟨none, some 12, .un .not (.t 11)⟩]) (.cond (.t 12) (.seq (.reg
 [⟨none, some 2, .mv (.c (.int .i64 40))⟩]) .ret) .skip)) (.seq (.reg [⟨none, some 2, .mv (.c (.int .i64 0))⟩]) .ret))))
theorem ok36 : FnOk Try.prog 36 13 1 c36 [.t 2] := ⟨_, _, Try.func36, rfl, rfl, by kernel_rfl, by kernel_rfl⟩
theorem bd36 : bodied Try.prog 36 = true := by kernel_rfl

/-- ferrule/seams.Begin -/
def c42 : CI := (.seq (.reg [⟨none, some 1, .box 0 true (.t 0)⟩, ⟨none, some 2, .mv (.c .nils)⟩, ⟨none, some 3, .mv (.c (.int .i64 0))⟩]) (.seq (.reg [⟨none,
 some 7, .load true 11 (.t 1)⟩, ⟨none, some 8, .callw 1 7 61 [(.t 7)]⟩, ⟨none, some 6, .mv (.t 8)⟩, ⟨none, some 9, .extract 0 (.t 6)⟩, ⟨none, some 10, .extract
 1 (.t 6)⟩, ⟨none, some 4, .alloc 8 [.nils, .nils, (.int .i64 0), .nils, .nils, (.int .i64 0), (.int .i64 0), (.int .i64 0), (.int .i64 0), .nils, .nils,
 .nils]⟩, ⟨none, none, .stz true 12 (.t 4) (.t 9) []⟩, ⟨none, some 5, .mv (.t 10)⟩]) (.seq (.seq (.reg [⟨none, some 11, .mv (.t 5)⟩, ⟨none, some 12, .bin
 .neq (.t 11) (.c (.int .i64 0))⟩]) (.cond (.t 12) (.seq (.reg [⟨none, some 13, .mv (.t 5)⟩, ⟨none, some 2, .mv (.c .nils)⟩, ⟨none, some 3, .mv (.t 13)⟩])
 .ret) .skip)) (.seq (.reg [⟨none, some 14, .load true 12 (.t 4)⟩, ⟨none, some 15, .callw 9 1 76 [(.t 14)]⟩, ⟨none, some 16, .extract 0 (.t 15)⟩, ⟨none,
 some 17, .extract 1 (.t 15)⟩, ⟨none, some 2, .mv (.t 16)⟩, ⟨none, some 3, .mv (.t 17)⟩]) .ret))))
theorem ok42 : FnOk Try.prog 42 18 10 c42 [.t 2, .t 3] := ⟨_, _, Try.func42, rfl, rfl, by kernel_rfl, by kernel_rfl⟩
theorem bd42 : bodied Try.prog 42 = true := by kernel_rfl

/-- ferrule/ferruleref04.Soonest -/
def c43 : CI := (.seq (.reg [⟨none, some 1, .box 0 true (.t 0)⟩, ⟨none, some 2, .mv (.c (.int .i64 0))⟩, ⟨none, some 3, .mv (.c (.int .i64 0))⟩]) (.seq
 (.seq (.reg [⟨none, some 8, .load true 11 (.t 1)⟩, ⟨none, some 9, .call 32 [(.t 8)]⟩, ⟨none, some 4, .mv (.t 9)⟩]) (.seq (.reg [⟨none, some 10, .mv (.t
 4)⟩, ⟨none, some 11, .bin .neq (.t 10) (.c (.int .i64 0))⟩]) (.cond (.t 11) (.seq (.reg [⟨none, some 12, .mv (.t 4)⟩, ⟨none, some 2, .mv (.c (.int .i64
 0))⟩, ⟨none, some 3, .mv (.t 12)⟩]) .ret) .skip))) (.seq (.reg [⟨none, some 5, .mv (.c (.int .i64 (-1)))⟩]) (.seq (.seq (.reg [⟨none, some 6, .mv (.c (.int
 .i64 0))⟩]) (.block 0 (.loop (.seq (.seq (.reg [⟨none, some 13, .mv (.t 6)⟩, ⟨none, some 14, .faddr 10 (.t 1)⟩, ⟨none, some 15, .load false 1 (.t 14)⟩,
 ⟨none, some 16, .len (.t 15)⟩, ⟨none, some 17, .bin .lss (.t 13) (.t 16)⟩]) (.cond (.t 17) .skip (.exit 0))) (.seq (.block 1 (.seq (.reg [⟨none, some 20,
 .load true 11 (.t 1)⟩, ⟨none, some 21, .mv (.t 6)⟩, ⟨none, some 22, .faddr 10 (.t 1)⟩, ⟨none, some 23, .load false 1 (.t 22)⟩, ⟨none, some 24, .len (.t
 23)⟩, ⟨none, some 25, .bin .sub (.t 24) (.c (.int .i64 1))⟩, ⟨none, some 27, .faddr 10 (.t 1)⟩, ⟨none, some 28, .load false 1 (.t 27)⟩, ⟨none, some 29,
 .mv (.t 6)⟩, ⟨none, some 30, .iaddr 1 (.t 28) (.t 29)⟩, ⟨none, some 31, .load false 1 (.t 30)⟩, ⟨none, some 26, .call 77 [(.t 20), (.t 21), (.t 25)]⟩,
 ⟨none, some 32, .bin .add (.t 26) (.t 31)⟩, ⟨none, some 7, .mv (.t 32)⟩]) (.seq (.reg [⟨none, some 33, .mv (.t 5)⟩, ⟨none, some 34, .bin .lss (.t 33) (.c
 (.int .i64 0))⟩, ⟨none, some 35, .mv (.t 34)⟩, ⟨(some (35, false)), (some 36), .mv (.t 7)⟩, ⟨(some (35, false)), (some 37), .mv (.t 5)⟩, ⟨(some (35, false)),
 (some 38), .bin .lss (.t 36) (.t 37)⟩, ⟨none, some 39, .pick (.t 35) (.c (.bool true)) (.t 38)⟩]) (.cond (.t 39) (.reg [⟨none, some 40, .mv (.t 7)⟩, ⟨none,
 some 5, .mv (.t 40)⟩]) .skip)))) (.reg [⟨none, some 18, .mv (.t 6)⟩, ⟨none, some 19, .bin .add (.t 18) (.c (.int .i64 1))⟩, ⟨none, some 6, .mv (.t 19)⟩]))))))
 (.seq (.reg [⟨none, some 41, .mv (.t 5)⟩, ⟨none, some 2, .mv (.t 41)⟩, ⟨none, some 3, .mv (.c (.int .i64 0))⟩]) .ret)))))
theorem ok43 : FnOk Try.prog 43 42 1 c43 [.t 2, .t 3] := ⟨_, _, Try.func43, rfl, rfl, by kernel_rfl, by kernel_rfl⟩
theorem bd43 : bodied Try.prog 43 = true := by kernel_rfl

/-- ferrule/seams.Plan -/
def c44 : CI := (.seq (.reg [⟨none, some 1, .box 0 true (.t 0)⟩, ⟨none, some 2, .mv (.c .nils)⟩, ⟨none, some 3, .mv (.c (.int .i64 0))⟩]) (.seq (.seq (.reg
 [⟨none, some 7, .load true 11 (.t 1)⟩, ⟨none, some 8, .call 36 [(.t 7)]⟩, ⟨none, some 4, .mv (.t 8)⟩]) (.seq (.reg [⟨none, some 9, .mv (.t 4)⟩, ⟨none,
 some 10, .bin .neq (.t 9) (.c (.int .i64 0))⟩]) (.cond (.t 10) (.seq (.reg [⟨none, some 11, .mv (.t 4)⟩, ⟨none, some 2, .mv (.c .nils)⟩, ⟨none, some 3,
 .mv (.t 11)⟩]) .ret) .skip))) (.seq (.reg [⟨none, some 13, .load true 11 (.t 1)⟩, ⟨none, some 14, .build [.nils, .nils, (.int .i64 0), .nils, .nils, (.int
 .i64 0), (.int .i64 0), (.int .i64 0), (.int .i64 0), .nils, .nils] [(0, 11, (.t 13))]⟩, ⟨none, some 15, .callw 1 1 69 [(.t 14)]⟩, ⟨none, some 12, .mv
 (.t 15)⟩, ⟨none, some 16, .extract 0 (.t 12)⟩, ⟨none, some 17, .extract 1 (.t 12)⟩, ⟨none, some 5, .mv (.t 16)⟩, ⟨none, some 6, .mv (.t 17)⟩]) (.seq (.reg
 [⟨none, some 18, .mv (.t 5)⟩, ⟨none, some 2, .mv (.t 18)⟩, ⟨none, some 3, .mv (.c (.int .i64 0))⟩]) .ret))))
theorem ok44 : FnOk Try.prog 44 19 2 c44 [.t 2, .t 3] := ⟨_, _, Try.func44, rfl, rfl, by kernel_rfl, by kernel_rfl⟩
theorem bd44 : bodied Try.prog 44 = true := by kernel_rfl

/-- ferrule/cloth.Stretches -/
def c48 : CI := (.seq (.reg [⟨none, some 2, .box 0 true (.t 0)⟩, ⟨none, some 4, .mv (.c .nils)⟩, ⟨none, some 5, .mv (.c (.int .i64 0))⟩]) (.seq (.reg [⟨none,
 some 9, .load true 6 (.t 2)⟩, ⟨none, some 10, .faddr 0 (.t 2)⟩, ⟨none, some 11, .load false 1 (.t 10)⟩, ⟨none, some 12, .mv (.t 1)⟩, ⟨none, some 13, .callw
 1 5 81 [(.t 9), (.t 11), (.t 12)]⟩, ⟨none, some 8, .mv (.t 13)⟩, ⟨none, some 14, .extract 0 (.t 8)⟩, ⟨none, some 15, .extract 1 (.t 8)⟩, ⟨none, some 6,
 .alloc 6 [.nils, .nils, (.int .i64 0), .nils, .nils, (.int .i64 0), .nils]⟩, ⟨none, none, .stz true 7 (.t 6) (.t 14) []⟩, ⟨none, some 7, .mv (.t 15)⟩])
 (.seq (.seq (.reg [⟨none, some 16, .mv (.t 7)⟩, ⟨none, some 17, .bin .neq (.t 16) (.c (.int .i64 0))⟩]) (.cond (.t 17) (.seq (.reg [⟨none, some 18, .mv
 (.t 7)⟩, ⟨none, some 4, .mv (.c .nils)⟩, ⟨none, some 5, .mv (.t 18)⟩]) .ret) .skip)) (.seq (.reg [⟨none, some 19, .faddr 6 (.t 6)⟩, ⟨none, some 20, .load
 false 1 (.t 19)⟩, ⟨none, some 21, .mv (.t 1)⟩, ⟨none, some 22, .iaddr 1 (.t 20) (.t 21)⟩, ⟨none, some 23, .load false 1 (.t 22)⟩, ⟨none, some 4, .mv (.t
 23)⟩, ⟨none, some 5, .mv (.c (.int .i64 0))⟩]) .ret))))
theorem ok48 : FnOk Try.prog 48 24 7 c48 [.t 4, .t 5] := ⟨_, _, Try.func48, rfl, rfl, by kernel_rfl, by kernel_rfl⟩
theorem bd48 : bodied Try.prog 48 = true := by kernel_rfl

/-- ferrule/ferruleref02.Pull -/
def c49 : CI := (.seq (.reg [⟨none, some 4, .mv (.c (.int .i64 0))⟩]) (.seq (.reg [⟨none, some 5, .mv (.t 0)⟩, ⟨none, some 6, .mv (.t 1)⟩, ⟨none, some
 7, .bin .add (.c (.int .i64 1000)) (.t 6)⟩, ⟨none, some 8, .bin .mul (.t 5) (.t 7)⟩, ⟨none, some 9, .bin .quo (.t 8) (.c (.int .i64 1000))⟩, ⟨none, some
 4, .mv (.t 9)⟩]) .ret))
theorem ok49 : FnOk Try.prog 49 10 0 c49 [.t 4] := ⟨_, _, Try.func49, rfl, rfl, by kernel_rfl, by kernel_rfl⟩
theorem bd49 : bodied Try.prog 49 = true := by kernel_rfl

/-- ferrule/ferrulelaw02.Far -/
def c54 : CI := (.seq (.reg [⟨none, some 1, .box 0 true (.t 0)⟩, ⟨none, some 2, .mv (.c (.bool false))⟩]) (.seq (.seq (.reg [⟨none, some 8, .faddr 0 (.t
 1)⟩, ⟨none, some 9, .load false 1 (.t 8)⟩, ⟨none, some 10, .len (.t 9)⟩, ⟨none, some 11, .bin .gtr (.t 10) (.c (.int .i64 20))⟩, ⟨none, some 12, .mv (.t
 11)⟩, ⟨(some (12, false)), (some 13), .faddr 1 (.t 1)⟩, ⟨(some (12, false)), (some 14), .load false 1 (.t 13)⟩, ⟨(some (12, false)), (some 15), .len (.t
 14)⟩, ⟨(some (12, false)), (some 16), .bin .gtr (.t 15) (.c (.int .i64 60))⟩, ⟨none, some 17, .pick (.t 12) (.c (.bool true)) (.t 16)⟩, ⟨none, some 18,
 .mv (.t 17)⟩, ⟨(some (18, false)), (some 19), .faddr 3 (.t 1)⟩, ⟨(some (18, false)), (some 20), .load false 1 (.t 19)⟩, ⟨(some (18, false)), (some 21),
 .len (.t 20)⟩, ⟨(some (18, false)), (some 22), .bin .gtr (.t 21) (.c (.int .i64 60))⟩, ⟨none, some 23, .pick (.t 18) (.c (.bool true)) (.t 22)⟩, ⟨none,
 some 24, .mv (.t 23)⟩, ⟨(some (24, false)), (some 25), .faddr 4 (.t 1)⟩, ⟨(some (24, false)), (some 26), .load false 1 (.t 25)⟩, ⟨(some (24, false)), (some
 27), .len (.t 26)⟩, ⟨(some (24, false)), (some 28), .bin .gtr (.t 27) (.c (.int .i64 60))⟩, ⟨none, some 29, .pick (.t 24) (.c (.bool true)) (.t 28)⟩])
 (.cond (.t 29) (.seq (.reg [⟨none, some 2, .mv (.c (.bool true))⟩]) .ret) .skip)) (.seq (.seq (.reg [⟨none, some 3, .mv (.c (.int .i64 0))⟩]) (.block 0
 (.loop (.seq (.seq (.reg [⟨none, some 30, .mv (.t 3)⟩, ⟨none, some 31, .faddr 0 (.t 1)⟩, ⟨none, some 32, .load false 1 (.t 31)⟩, ⟨none, some 33, .len (.t
 32)⟩, ⟨none, some 34, .bin .lss (.t 30) (.t 33)⟩]) (.cond (.t 34) .skip (.exit 0))) (.seq (.block 1 (.seq (.reg [⟨none, some 37, .faddr 0 (.t 1)⟩, ⟨none,
 some 38, .load false 1 (.t 37)⟩, ⟨none, some 39, .mv (.t 3)⟩, ⟨none, some 40, .iaddr 4 (.t 38) (.t 39)⟩, ⟨none, some 41, .faddr 2 (.t 40)⟩, ⟨none, some
 42, .load false 1 (.t 41)⟩, ⟨none, some 43, .len (.t 42)⟩, ⟨none, some 44, .bin .gtr (.t 43) (.c (.int .i64 60))⟩]) (.cond (.t 44) (.seq (.reg [⟨none,
 some 2, .mv (.c (.bool true))⟩]) .ret) .skip))) (.reg [⟨none, some 35, .mv (.t 3)⟩, ⟨none, some 36, .bin .add (.t 35) (.c (.int .i64 1))⟩, ⟨none, some
 3, .mv (.t 36)⟩])))))) (.seq (.seq (.reg [⟨none, some 45, .load true 6 (.t 1)⟩, ⟨none, some 46, .call 70 [(.t 45)]⟩, ⟨none, some 47, .bin .neq (.t 46)
 (.c (.int .i64 0))⟩]) (.cond (.t 47) (.seq (.reg [⟨none, some 2, .mv (.c (.bool false))⟩]) .ret) .skip)) (.seq (.reg [⟨none, some 4, .mv (.c (.int .i64
 1))⟩]) (.seq (.seq (.reg [⟨none, some 5, .mv (.c (.int .i64 0))⟩]) (.block 2 (.loop (.seq (.seq (.reg [⟨none, some 48, .mv (.t 5)⟩, ⟨none, some 49, .faddr
 0 (.t 1)⟩, ⟨none, some 50, .load false 1 (.t 49)⟩, ⟨none, some 51, .len (.t 50)⟩, ⟨none, some 52, .bin .lss (.t 48) (.t 51)⟩]) (.cond (.t 52) .skip (.exit
 2))) (.seq (.block 3 (.seq (.reg [⟨none, some 6, .mv (.c (.int .i64 0))⟩]) (.seq (.seq (.reg [⟨none, some 55, .faddr 0 (.t 1)⟩, ⟨none, some 56, .load false
 1 (.t 55)⟩, ⟨none, some 57, .mv (.t 5)⟩, ⟨none, some 58, .iaddr 4 (.t 56) (.t 57)⟩, ⟨none, some 59, .faddr 0 (.t 58)⟩, ⟨none, some 60, .faddr 0 (.t 59)⟩,
 ⟨none, some 61, .load false 1 (.t 60)⟩, ⟨none, some 7, .mv (.t 61)⟩]) (.block 4 (.loop (.seq (.seq (.reg [⟨none, some 62, .mv (.t 7)⟩, ⟨none, some 63,
 .faddr 0 (.t 1)⟩, ⟨none, some 64, .load false 1 (.t 63)⟩, ⟨none, some 65, .mv (.t 5)⟩, ⟨none, some 66, .iaddr 4 (.t 64) (.t 65)⟩, ⟨none, some 67, .faddr
 0 (.t 66)⟩, ⟨none, some 68, .faddr 1 (.t 67)⟩, ⟨none, some 69, .load false 1 (.t 68)⟩, ⟨none, some 70, .bin .leq (.t 62) (.t 69)⟩]) (.cond (.t 70) .skip
 (.exit 4))) (.seq (.block 5 (.seq (.reg [⟨none, some 73, .faddr 0 (.t 1)⟩, ⟨none, some 74, .load false 1 (.t 73)⟩, ⟨none, some 75, .mv (.t 5)⟩, ⟨none,
 some 76, .iaddr 4 (.t 74) (.t 75)⟩, ⟨none, some 77, .load true 4 (.t 76)⟩, ⟨none, some 78, .mv (.t 7)⟩, ⟨none, some 79, .call 56 [(.t 77), (.t 78)]⟩])
 (.cond (.t 79) (.reg [⟨none, some 80, .mv (.t 6)⟩, ⟨none, some 81, .bin .add (.t 80) (.c (.int .i64 1))⟩, ⟨none, some 6, .mv (.t 81)⟩]) .skip))) (.reg
 [⟨none, some 71, .mv (.t 7)⟩, ⟨none, some 72, .bin .add (.t 71) (.c (.int .i64 1))⟩, ⟨none, some 7, .mv (.t 72)⟩])))))) (.reg [⟨none, some 82, .mv (.t
 4)⟩, ⟨none, some 83, .mv (.t 6)⟩, ⟨none, some 84, .bin .mul (.t 82) (.t 83)⟩, ⟨none, some 4, .mv (.t 84)⟩])))) (.reg [⟨none, some 53, .mv (.t 5)⟩, ⟨none,
 some 54, .bin .add (.t 53) (.c (.int .i64 1))⟩, ⟨none, some 5, .mv (.t 54)⟩])))))) (.seq (.reg [⟨none, some 85, .mv (.t 4)⟩, ⟨none, some 86, .bin .gtr
 (.t 85) (.c (.int .i64 49))⟩, ⟨none, some 87, .mv (.t 86)⟩, ⟨(some (87, false)), (some 88), .faddr 1 (.t 1)⟩, ⟨(some (87, false)), (some 89), .load false
 1 (.t 88)⟩, ⟨(some (87, false)), (some 90), .len (.t 89)⟩, ⟨(some (87, false)), (some 91), .bin .gtr (.t 90) (.c (.int .i64 8))⟩, ⟨none, some 92, .pick
 (.t 87) (.c (.bool true)) (.t 91)⟩, ⟨none, some 93, .mv (.t 92)⟩, ⟨(some (93, false)), (some 94), .faddr 3 (.t 1)⟩, ⟨(some (93, false)), (some 95), .load
 false 1 (.t 94)⟩, ⟨(some (93, false)), (some 96), .len (.t 95)⟩, ⟨(some (93, false)), (some 97), .bin .gtr (.t 96) (.c (.int .i64 4))⟩, ⟨none, some 98,
 .pick (.t 93) (.c (.bool true)) (.t 97)⟩, ⟨none, some 2, .mv (.t 98)⟩]) .ret)))))))
theorem ok54 : FnOk Try.prog 54 99 1 c54 [.t 2] := ⟨_, _, Try.func54, rfl, rfl, by kernel_rfl, by kernel_rfl⟩
theorem bd54 : bodied Try.prog 54 = true := by kernel_rfl

/-- ferrule/ferruleref02.Can -/
def c56 : CI := (.seq (.reg [⟨none, some 2, .box 0 true (.t 0)⟩, ⟨none, some 4, .mv (.c (.bool false))⟩]) (.seq (.reg [⟨none, some 5, .mv (.t 1)⟩, ⟨none,
 some 6, .faddr 0 (.t 2)⟩, ⟨none, some 7, .faddr 0 (.t 6)⟩, ⟨none, some 8, .load false 1 (.t 7)⟩, ⟨none, some 9, .faddr 0 (.t 2)⟩, ⟨none, some 10, .faddr
 1 (.t 9)⟩, ⟨none, some 11, .load false 1 (.t 10)⟩, ⟨none, some 12, .call 87 [(.t 5), (.t 8), (.t 11)]⟩, ⟨none, some 13, .mv (.t 12)⟩, ⟨(some (13, true)),
 (some 14), .load true 4 (.t 2)⟩, ⟨(some (13, true)), (some 15), .mv (.t 1)⟩, ⟨(some (13, true)), (some 17), .faddr 3 (.t 2)⟩, ⟨(some (13, true)), (some
 18), .load false 1 (.t 17)⟩, ⟨(some (13, true)), (some 16), .call 88 [(.t 14), (.t 15)]⟩, ⟨(some (13, true)), (some 19), .bin .leq (.t 16) (.t 18)⟩, ⟨none,
 some 20, .pick (.t 13) (.t 19) (.c (.bool false))⟩, ⟨none, some 4, .mv (.t 20)⟩]) .ret))
theorem ok56 : FnOk Try.prog 56 21 1 c56 [.t 4] := ⟨_, _, Try.func56, rfl, rfl, by kernel_rfl, by kernel_rfl⟩
theorem bd56 : bodied Try.prog 56 = true := by kernel_rfl

/-- ferrule/ferrulelaw04.Example -/
def c57 : CI := (.seq (.reg [⟨none, some 0, .alloc 0 [.nils, .nils, (.int .i64 0), .nils, .nils, (.int .i64 0), (.int .i64 0), (.int .i64 0), (.int .i64
 0), .nils, .nils]⟩]) (.seq (.reg [⟨none, some 1, .callw 1 4 78 []⟩, ⟨none, some 2, .bsl 5 3 1 [(.c (.int .i64 0)), (.c (.int .i64 3)), (.c (.int .i64 8)),
 (.c (.int .i64 0))] []⟩, ⟨none, some 3, .bsl 6 3 1 [(.c (.int .i64 5)), (.c (.int .i64 3)), (.c (.int .i64 8)), (.c (.int .i64 2))] []⟩, ⟨none, some 4,
 .build [.nils, .nils, (.int .i64 0), .nils, .nils, (.int .i64 0), (.int .i64 0), (.int .i64 0), (.int .i64 0), .nils, .nils] [(0, 6, (.t 1)), (6, 1, (.c
 (.int .i64 12))), (7, 1, (.c (.int .i64 100))), (8, 1, (.c (.int .i64 1))), (9, 1, (.t 2)), (10, 1, (.t 3))]⟩, ⟨none, none, .stz true 11 (.t 0) (.t 4)
 []⟩]) .ret))
theorem ok57 : FnOk Try.prog 57 5 7 c57 [.cell 0 true 11] := ⟨_, _, Try.func57, rfl, rfl, by kernel_rfl, by kernel_rfl⟩
theorem bd57 : bodied Try.prog 57 = true := by kernel_rfl

/-- ferrule/seams.within -/
def c58 : CI := (.seq (.reg [⟨none, some 6, .mv (.c (.bool false))⟩]) (.seq (.reg [⟨none, some 7, .mv (.t 1)⟩, ⟨none, some 8, .mv (.t 0)⟩, ⟨none, some
 9, .bin .leq (.t 7) (.t 8)⟩, ⟨none, some 10, .mv (.t 9)⟩, ⟨(some (10, true)), (some 11), .mv (.t 0)⟩, ⟨(some (10, true)), (some 12), .mv (.t 2)⟩, ⟨(some
 (10, true)), (some 13), .bin .leq (.t 11) (.t 12)⟩, ⟨none, some 14, .pick (.t 10) (.t 13) (.c (.bool false))⟩, ⟨none, some 6, .mv (.t 14)⟩]) .ret))
theorem ok58 : FnOk Try.prog 58 15 0 c58 [.t 6] := ⟨_, _, Try.func58, rfl, rfl, by kernel_rfl, by kernel_rfl⟩
theorem bd58 : bodied Try.prog 58 = true := by kernel_rfl

/-- ferrule/seams.pull -/
def c59 : CI := (.seq (.reg [⟨none, some 1, .box 0 true (.t 0)⟩, ⟨none, some 2, .alloc 1 [.nils, .nils, (.int .i64 0), .nils, .nils, (.int .i64 0), (.int
 .i64 0), (.int .i64 0), (.int .i64 0), .nils, .nils, .nils]⟩, ⟨none, some 3, .mv (.c (.int .i64 0))⟩]) (.seq (.reg [⟨none, some 8, .load true 11 (.t 1)⟩,
 ⟨none, some 9, .build [.nils, .nils, (.int .i64 0), .nils, .nils, (.int .i64 0), (.int .i64 0), (.int .i64 0), (.int .i64 0), .nils, .nils] [(0, 11, (.t
 8))]⟩, ⟨none, some 10, .build [.nils, .nils, (.int .i64 0), .nils, .nils, (.int .i64 0), (.int .i64 0), (.int .i64 0), (.int .i64 0), .nils, .nils, .nils]
 [(0, 11, (.t 9))]⟩, ⟨none, some 4, .alloc 2 [.nils, .nils, (.int .i64 0), .nils, .nils, (.int .i64 0), (.int .i64 0), (.int .i64 0), (.int .i64 0), .nils,
 .nils, .nils]⟩, ⟨none, none, .stz true 12 (.t 4) (.t 10) []⟩]) (.seq (.seq (.reg [⟨none, some 11, .faddr 0 (.t 1)⟩, ⟨none, some 12, .faddr 0 (.t 11)⟩,
 ⟨none, some 13, .load false 1 (.t 12)⟩, ⟨none, some 14, .len (.t 13)⟩, ⟨none, some 15, .mv (.c (.int .i64 0))⟩]) (.block 0 (.loop (.seq (.reg [⟨none, some
 16, .bin .lss (.t 15) (.t 14)⟩]) (.seq (.cond (.t 16) .skip (.exit 0)) (.seq (.block 1 (.seq (.reg [⟨none, some 17, .mv (.t 15)⟩, ⟨none, some 5, .mv (.t
 17)⟩]) (.seq (.reg [⟨none, some 19, .faddr 0 (.t 1)⟩, ⟨none, some 20, .load true 6 (.t 19)⟩, ⟨none, some 21, .mv (.t 5)⟩, ⟨none, some 22, .callw 3 1 48
 [(.t 20), (.t 21)]⟩, ⟨none, some 18, .mv (.t 22)⟩, ⟨none, some 23, .extract 0 (.t 18)⟩, ⟨none, some 24, .extract 1 (.t 18)⟩, ⟨none, some 6, .mv (.t 23)⟩,
 ⟨none, some 7, .mv (.t 24)⟩]) (.seq (.seq (.reg [⟨none, some 25, .mv (.t 7)⟩, ⟨none, some 26, .bin .neq (.t 25) (.c (.int .i64 0))⟩]) (.cond (.t 26) (.seq
 (.reg [⟨none, some 27, .build [.nils, .nils, (.int .i64 0), .nils, .nils, (.int .i64 0), (.int .i64 0), (.int .i64 0), (.int .i64 0), .nils, .nils, .nils]
 []⟩, ⟨none, some 28, .mv (.t 7)⟩, ⟨none, none, .stz true 12 (.t 2) (.t 27) []⟩, ⟨none, some 3, .mv (.t 28)⟩]) .ret) .skip)) (.reg [⟨none, some 29, .faddr
 11 (.t 4)⟩, ⟨none, some 30, .load false 1 (.t 29)⟩, ⟨none, some 31, .load true 12 (.t 4)⟩, ⟨none, some 32, .mv (.t 6)⟩, ⟨none, some 33, .callz 4 1 89 [(.t
 31), (.t 32)] []⟩, ⟨none, some 34, .bsl 5 23 1 [(.t 33)] []⟩, ⟨none, some 35, .apd 6 23 1 24 (.t 30) (.t 34) []⟩, ⟨none, some 36, .faddr 11 (.t 4)⟩, ⟨none,
 none, .stz false 1 (.t 36) (.t 35) []⟩]))))) (.reg [⟨none, some 37, .bin .add (.t 15) (.c (.int .i64 1))⟩, ⟨none, some 15, .mv (.t 37)⟩]))))))) (.seq (.reg
 [⟨none, some 38, .load true 12 (.t 4)⟩, ⟨none, none, .stz true 12 (.t 2) (.t 38) []⟩, ⟨none, some 3, .mv (.c (.int .i64 0))⟩]) .ret))))
theorem ok59 : FnOk Try.prog 59 39 7 c59 [.cell 2 true 12, .t 3] := ⟨_, _, Try.func59, rfl, rfl, by kernel_rfl, by kernel_rfl⟩
theorem bd59 : bodied Try.prog 59 = true := by kernel_rfl

/-- (ferrule/seams.pulled).meets -/
def c60 : CI := (.seq (.reg [⟨none, some 2, .box 0 true (.t 0)⟩, ⟨none, some 4, .mv (.c (.int .i64 0))⟩]) (.seq (.reg [⟨none, some 11, .load true 12 (.t
 2)⟩, ⟨none, some 12, .mv (.t 1)⟩, ⟨none, some 14, .faddr 0 (.t 2)⟩, ⟨none, some 15, .faddr 0 (.t 14)⟩, ⟨none, some 16, .faddr 9 (.t 15)⟩, ⟨none, some 17,
 .load false 1 (.t 16)⟩, ⟨none, some 18, .faddr 0 (.t 2)⟩, ⟨none, some 19, .load true 11 (.t 18)⟩, ⟨none, some 20, .mv (.t 1)⟩, ⟨none, some 21, .bin .add
 (.t 20) (.c (.int .i64 1))⟩, ⟨none, some 13, .callz 1 1 90 [(.t 11), (.t 12)] []⟩, ⟨none, some 22, .call 91 [(.t 19), (.t 21)]⟩, ⟨none, some 23, .iaddr
 1 (.t 17) (.t 22)⟩, ⟨none, some 24, .load false 1 (.t 23)⟩, ⟨none, some 5, .mv (.t 13)⟩, ⟨none, some 6, .mv (.t 24)⟩]) (.seq (.reg [⟨none, some 7, .mv
 (.c (.int .i64 0))⟩]) (.seq (.seq (.reg [⟨none, some 25, .mv (.t 5)⟩, ⟨none, some 26, .len (.t 25)⟩, ⟨none, some 27, .mv (.c (.int .i64 0))⟩]) (.block
 0 (.loop (.seq (.reg [⟨none, some 28, .bin .lss (.t 27) (.t 26)⟩]) (.seq (.cond (.t 28) .skip (.exit 0)) (.seq (.block 1 (.seq (.reg [⟨none, some 29, .iaddr
 1 (.t 25) (.t 27)⟩, ⟨none, some 30, .load false 1 (.t 29)⟩, ⟨none, some 9, .mv (.t 30)⟩]) (.seq (.reg [⟨none, some 31, .faddr 0 (.t 2)⟩, ⟨none, some 32,
 .faddr 0 (.t 31)⟩, ⟨none, some 33, .faddr 9 (.t 32)⟩, ⟨none, some 34, .load false 1 (.t 33)⟩, ⟨none, some 35, .mv (.t 1)⟩, ⟨none, some 36, .iaddr 1 (.t
 34) (.t 35)⟩, ⟨none, some 37, .load false 1 (.t 36)⟩, ⟨none, some 38, .mv (.t 9)⟩, ⟨none, some 39, .bin .add (.t 37) (.t 38)⟩, ⟨none, some 40, .faddr 0
 (.t 2)⟩, ⟨none, some 41, .faddr 0 (.t 40)⟩, ⟨none, some 42, .faddr 6 (.t 41)⟩, ⟨none, some 43, .load false 1 (.t 42)⟩, ⟨none, some 44, .bin .rem (.t 39)
 (.t 43)⟩, ⟨none, some 10, .mv (.t 44)⟩]) (.seq (.reg [⟨none, some 45, .faddr 0 (.t 2)⟩, ⟨none, some 46, .load true 11 (.t 45)⟩, ⟨none, some 47, .mv (.t
 10)⟩, ⟨none, some 48, .mv (.t 6)⟩, ⟨none, some 50, .faddr 0 (.t 2)⟩, ⟨none, some 51, .faddr 0 (.t 50)⟩, ⟨none, some 52, .faddr 8 (.t 51)⟩, ⟨none, some
 53, .load false 1 (.t 52)⟩, ⟨none, some 49, .call 92 [(.t 46), (.t 47), (.t 48)]⟩, ⟨none, some 54, .bin .leq (.t 49) (.t 53)⟩]) (.cond (.t 54) (.reg [⟨none,
 some 55, .mv (.t 7)⟩, ⟨none, some 56, .bin .add (.t 55) (.c (.int .i64 1))⟩, ⟨none, some 7, .mv (.t 56)⟩]) .skip))))) (.reg [⟨none, some 57, .bin .add
 (.t 27) (.c (.int .i64 1))⟩, ⟨none, some 27, .mv (.t 57)⟩]))))))) (.seq (.seq (.reg [⟨none, some 58, .mv (.t 7)⟩]) (.block 2 (.seq (.reg [⟨none, some 60,
 .mv (.t 5)⟩, ⟨none, some 61, .len (.t 60)⟩, ⟨none, some 62, .bin .eql (.t 58) (.t 61)⟩, ⟨none, some 59, .mv (.t 62)⟩]) (.cond (.t 59) (.seq (.reg [⟨none,
 some 4, .mv (.c (.int .i64 1))⟩]) .ret) (.seq (.reg [⟨none, some 64, .bin .eql (.t 58) (.c (.int .i64 0))⟩, ⟨none, some 63, .mv (.t 64)⟩]) (.cond (.t 63)
 (.seq (.reg [⟨none, some 4, .mv (.c (.int .i64 2))⟩]) .ret) .skip)))))) (.seq (.reg [⟨none, some 4, .mv (.c (.int .i64 3))⟩]) .ret))))))
theorem ok60 : FnOk Try.prog 60 65 2 c60 [.t 4] := ⟨_, _, Try.func60, rfl, rfl, by kernel_rfl, by kernel_rfl⟩
theorem bd60 : bodied Try.prog 60 = true := by kernel_rfl

/-- ferrule/seams.checkAndPull -/
def c61 : CI := (.seq (.reg [⟨none, some 1, .box 0 true (.t 0)⟩, ⟨none, some 2, .alloc 1 [.nils, .nils, (.int .i64 0), .nils, .nils, (.int .i64 0), (.int
 .i64 0), (.int .i64 0), (.int .i64 0), .nils, .nils, .nils]⟩, ⟨none, some 3, .mv (.c (.int .i64 0))⟩]) (.seq (.seq (.reg [⟨none, some 5, .load true 11
 (.t 1)⟩, ⟨none, some 6, .call 36 [(.t 5)]⟩, ⟨none, some 4, .mv (.t 6)⟩]) (.seq (.reg [⟨none, some 7, .mv (.t 4)⟩, ⟨none, some 8, .bin .neq (.t 7) (.c (.int
 .i64 0))⟩]) (.cond (.t 8) (.seq (.reg [⟨none, some 9, .build [.nils, .nils, (.int .i64 0), .nils, .nils, (.int .i64 0), (.int .i64 0), (.int .i64 0), (.int
 .i64 0), .nils, .nils, .nils] []⟩, ⟨none, some 10, .mv (.t 4)⟩, ⟨none, none, .stz true 12 (.t 2) (.t 9) []⟩, ⟨none, some 3, .mv (.t 10)⟩]) .ret) .skip)))
 (.seq (.reg [⟨none, some 11, .load true 11 (.t 1)⟩, ⟨none, some 12, .callw 2 7 59 [(.t 11)]⟩, ⟨none, some 13, .extract 0 (.t 12)⟩, ⟨none, some 14, .extract
 1 (.t 12)⟩, ⟨none, none, .stz true 12 (.t 2) (.t 13) []⟩, ⟨none, some 3, .mv (.t 14)⟩]) .ret)))
theorem ok61 : FnOk Try.prog 61 15 9 c61 [.cell 2 true 12, .t 3] := ⟨_, _, Try.func61, rfl, rfl, by kernel_rfl, by kernel_rfl⟩
theorem bd61 : bodied Try.prog 61 = true := by kernel_rfl

/-- ferrule/ferruleref04.all -/
def c64 : CI := (.seq (.reg [⟨none, some 8, .mv (.c (.bool false))⟩]) (.seq (.seq (.reg [⟨none, some 9, .mv (.c (.int .i64 0))⟩]) (.block 0 (.loop (.seq
 (.seq (.reg [⟨none, some 10, .mv (.t 9)⟩, ⟨none, some 11, .mv (.t 0)⟩, ⟨none, some 12, .len (.t 11)⟩, ⟨none, some 13, .bin .lss (.t 10) (.t 12)⟩]) (.cond
 (.t 13) .skip (.exit 0))) (.seq (.block 1 (.seq (.reg [⟨none, some 16, .mv (.t 0)⟩, ⟨none, some 17, .mv (.t 9)⟩, ⟨none, some 18, .iaddr 1 (.t 16) (.t 17)⟩,
 ⟨none, some 19, .load false 1 (.t 18)⟩, ⟨none, some 20, .mv (.t 2)⟩, ⟨none, some 21, .bin .lss (.t 19) (.t 20)⟩, ⟨none, some 22, .mv (.t 21)⟩, ⟨(some (22,
 false)), (some 23), .mv (.t 0)⟩, ⟨(some (22, false)), (some 24), .mv (.t 9)⟩, ⟨(some (22, false)), (some 25), .iaddr 1 (.t 23) (.t 24)⟩, ⟨(some (22, false)),
 (some 26), .load false 1 (.t 25)⟩, ⟨(some (22, false)), (some 27), .mv (.t 3)⟩, ⟨(some (22, false)), (some 28), .bin .gtr (.t 26) (.t 27)⟩, ⟨none, some
 29, .pick (.t 22) (.c (.bool true)) (.t 28)⟩]) (.cond (.t 29) (.seq (.reg [⟨none, some 8, .mv (.c (.bool false))⟩]) .ret) .skip))) (.reg [⟨none, some 14,
 .mv (.t 9)⟩, ⟨none, some 15, .bin .add (.t 14) (.c (.int .i64 1))⟩, ⟨none, some 9, .mv (.t 15)⟩])))))) (.seq (.reg [⟨none, some 30, .mv (.t 0)⟩, ⟨none,
 some 31, .len (.t 30)⟩, ⟨none, some 32, .mv (.t 1)⟩, ⟨none, some 33, .bin .eql (.t 31) (.t 32)⟩, ⟨none, some 8, .mv (.t 33)⟩]) .ret)))
theorem ok64 : FnOk Try.prog 64 34 0 c64 [.t 8] := ⟨_, _, Try.func64, rfl, rfl, by kernel_rfl, by kernel_rfl⟩
theorem bd64 : bodied Try.prog 64 = true := by kernel_rfl

/-- ferrule/ferruleref02.Copy -/
def c67 : CI := (.seq (.reg [⟨none, some 1, .box 0 true (.t 0)⟩, ⟨none, some 2, .alloc 1 [.nils, .nils, (.int .i64 0), .nils, .nils, (.int .i64 0)]⟩])
 (.seq (.reg [⟨none, some 5, .load true 6 (.t 1)⟩, ⟨none, some 3, .alloc 2 [.nils, .nils, (.int .i64 0), .nils, .nils, (.int .i64 0)]⟩, ⟨none, none, .stz
 true 6 (.t 3) (.t 5) []⟩]) (.seq (.reg [⟨none, some 6, .bsl 3 55 4 [] []⟩, ⟨none, some 7, .faddr 0 (.t 1)⟩, ⟨none, some 8, .load false 1 (.t 7)⟩, ⟨none,
 some 9, .apd 4 55 4 48 (.t 6) (.t 8) []⟩, ⟨none, some 10, .faddr 0 (.t 3)⟩, ⟨none, none, .stz false 1 (.t 10) (.t 9) []⟩]) (.seq (.seq (.reg [⟨none, some
 4, .mv (.c (.int .i64 0))⟩]) (.block 0 (.loop (.seq (.seq (.reg [⟨none, some 11, .mv (.t 4)⟩, ⟨none, some 12, .faddr 0 (.t 3)⟩, ⟨none, some 13, .load false
 1 (.t 12)⟩, ⟨none, some 14, .len (.t 13)⟩, ⟨none, some 15, .bin .lss (.t 11) (.t 14)⟩]) (.cond (.t 15) .skip (.exit 0))) (.seq (.block 1 (.reg [⟨none,
 some 18, .faddr 0 (.t 3)⟩, ⟨none, some 19, .load false 1 (.t 18)⟩, ⟨none, some 20, .mv (.t 4)⟩, ⟨none, some 22, .faddr 0 (.t 1)⟩, ⟨none, some 23, .load
 false 1 (.t 22)⟩, ⟨none, some 24, .mv (.t 4)⟩, ⟨none, some 25, .iaddr 4 (.t 23) (.t 24)⟩, ⟨none, some 26, .faddr 2 (.t 25)⟩, ⟨none, some 27, .load false
 1 (.t 26)⟩, ⟨none, some 21, .bsl 5 52 3 [] []⟩, ⟨none, some 28, .apd 6 52 3 24 (.t 21) (.t 27) [(.t 18)]⟩, ⟨none, some 29, .iaddr 4 (.t 19) (.t 20)⟩, ⟨none,
 some 30, .faddr 2 (.t 29)⟩, ⟨none, none, .stz false 1 (.t 30) (.t 28) []⟩])) (.reg [⟨none, some 16, .mv (.t 4)⟩, ⟨none, some 17, .bin .add (.t 16) (.c
 (.int .i64 1))⟩, ⟨none, some 4, .mv (.t 17)⟩])))))) (.seq (.reg [⟨none, some 32, .faddr 1 (.t 1)⟩, ⟨none, some 33, .load false 1 (.t 32)⟩, ⟨none, some
 36, .faddr 3 (.t 1)⟩, ⟨none, some 37, .load false 1 (.t 36)⟩, ⟨none, some 40, .faddr 4 (.t 1)⟩, ⟨none, some 41, .load false 1 (.t 40)⟩, ⟨none, some 31,
 .bsl 7 3 1 [] []⟩, ⟨none, some 34, .apd 8 3 1 8 (.t 31) (.t 33) [(.t 36), (.t 40)]⟩, ⟨none, some 35, .bsl 9 50 2 [] [(.t 31), (.t 33)]⟩, ⟨none, some 38,
 .apd 10 50 2 16 (.t 35) (.t 37) [(.t 40)]⟩, ⟨none, some 39, .bsl 11 3 1 [] [(.t 31), (.t 33), (.t 35), (.t 37)]⟩, ⟨none, some 42, .apd 12 3 1 8 (.t 39)
 (.t 41) []⟩, ⟨none, some 43, .faddr 1 (.t 3)⟩, ⟨none, none, .stz false 1 (.t 43) (.t 34) []⟩, ⟨none, some 44, .faddr 3 (.t 3)⟩, ⟨none, none, .stz false
 1 (.t 44) (.t 38) []⟩, ⟨none, some 45, .faddr 4 (.t 3)⟩, ⟨none, none, .stz false 1 (.t 45) (.t 42) []⟩]) (.seq (.reg [⟨none, some 46, .load true 6 (.t
 3)⟩, ⟨none, none, .stz true 6 (.t 2) (.t 46) []⟩]) .ret))))))
theorem ok67 : FnOk Try.prog 67 47 13 c67 [.cell 2 true 6] := ⟨_, _, Try.func67, rfl, rfl, by kernel_rfl, by kernel_rfl⟩
theorem bd67 : bodied Try.prog 67 = true := by kernel_rfl

/-- (ferrule/seams.pulled).closest -/
def c68 : CI := (.seq (.reg [⟨none, some 1, .box 0 true (.t 0)⟩, ⟨none, some 2, .mv (.c (.int .i64 0))⟩]) (.seq (.seq (.reg [⟨none, some 4, .faddr 0 (.t
 1)⟩, ⟨none, some 5, .faddr 0 (.t 4)⟩, ⟨none, some 6, .faddr 6 (.t 5)⟩, ⟨none, some 7, .load false 1 (.t 6)⟩, ⟨none, some 8, .bin .quo (.t 7) (.c (.int
 .i64 2))⟩, ⟨none, some 9, .mv (.c (.int .i64 0))⟩]) (.block 0 (.loop (.seq (.reg [⟨none, some 10, .bin .lss (.t 9) (.t 8)⟩]) (.seq (.cond (.t 10) .skip
 (.exit 0)) (.seq (.block 1 (.seq (.reg [⟨none, some 11, .mv (.t 9)⟩, ⟨none, some 3, .mv (.t 11)⟩]) (.seq (.reg [⟨none, some 12, .load true 12 (.t 1)⟩,
 ⟨none, some 13, .mv (.t 3)⟩, ⟨none, some 14, .call 93 [(.t 12), (.t 13)]⟩]) (.cond (.t 14) (.seq (.reg [⟨none, some 15, .mv (.t 3)⟩, ⟨none, some 2, .mv
 (.t 15)⟩]) .ret) .skip)))) (.reg [⟨none, some 16, .bin .add (.t 9) (.c (.int .i64 1))⟩, ⟨none, some 9, .mv (.t 16)⟩]))))))) (.seq (.reg [⟨none, some 17,
 .faddr 0 (.t 1)⟩, ⟨none, some 18, .faddr 0 (.t 17)⟩, ⟨none, some 19, .faddr 6 (.t 18)⟩, ⟨none, some 20, .load false 1 (.t 19)⟩, ⟨none, some 21, .bin .quo
 (.t 20) (.c (.int .i64 2))⟩, ⟨none, some 2, .mv (.t 21)⟩]) .ret)))
theorem ok68 : FnOk Try.prog 68 22 1 c68 [.t 2] := ⟨_, _, Try.func68, rfl, rfl, by kernel_rfl, by kernel_rfl⟩
theorem bd68 : bodied Try.prog 68 = true := by kernel_rfl

/-- (ferrule/seams.ring).plan -/
def c69 : CI := (.seq (.reg [⟨none, some 1, .box 0 true (.t 0)⟩, ⟨none, some 2, .mv (.c .nils)⟩, ⟨none, some 3, .mv (.c (.int .i64 0))⟩]) (.seq (.reg [⟨none,
 some 8, .load true 11 (.t 1)⟩, ⟨none, some 9, .callw 1 1 94 [(.t 8)]⟩, ⟨none, some 4, .alloc 2 [.nils]⟩, ⟨none, none, .stz false 1 (.t 4) (.t 9) []⟩])
 (.seq (.reg [⟨none, some 10, .faddr 0 (.t 1)⟩, ⟨none, some 11, .faddr 10 (.t 10)⟩, ⟨none, some 12, .load false 1 (.t 11)⟩, ⟨none, some 13, .len (.t 12)⟩,
 ⟨none, some 14, .mks 3 3 1 8 [(.int .i64 0)] (.t 13) (.t 13)⟩, ⟨none, some 5, .alloc 4 [.nils]⟩, ⟨none, none, .stz false 1 (.t 5) (.t 14) []⟩]) (.seq (.reg
 [⟨none, some 6, .alloc 5 [(.lit (.nilFunc))]⟩]) (.seq (.reg [⟨none, some 15, .mkfn 95 [(.t 4), (.t 1), (.t 5), (.t 6)]⟩, ⟨none, none, .stz false 1 (.t
 6) (.t 15) []⟩]) (.seq (.reg [⟨none, some 16, .load true 11 (.t 1)⟩, ⟨none, some 17, .load false 1 (.t 4)⟩, ⟨none, some 18, .call 96 [(.t 16), (.t 17)]⟩,
 ⟨none, some 7, .alloc 6 [(.int .i64 0), (.int .i64 0)]⟩, ⟨none, none, .store true 2 (.t 7) (.t 18) []⟩]) (.seq (.reg [⟨none, some 19, .load false 1 (.t
 5)⟩, ⟨none, some 20, .faddr 1 (.t 7)⟩, ⟨none, some 21, .load false 1 (.t 20)⟩, ⟨none, some 22, .faddr 0 (.t 7)⟩, ⟨none, some 23, .load false 1 (.t 22)⟩,
 ⟨none, some 24, .faddr 0 (.t 1)⟩, ⟨none, some 25, .faddr 10 (.t 24)⟩, ⟨none, some 26, .load false 1 (.t 25)⟩, ⟨none, some 27, .faddr 1 (.t 7)⟩, ⟨none,
 some 28, .load false 1 (.t 27)⟩, ⟨none, some 29, .iaddr 1 (.t 26) (.t 28)⟩, ⟨none, some 30, .load false 1 (.t 29)⟩, ⟨none, some 31, .bin .sub (.t 23) (.t
 30)⟩, ⟨none, some 32, .iaddr 1 (.t 19) (.t 21)⟩, ⟨none, none, .store false 1 (.t 32) (.t 31) []⟩]) (.seq (.reg [⟨none, some 33, .load false 1 (.t 6)⟩,
 ⟨none, some 34, .load true 11 (.t 1)⟩, ⟨none, some 35, .faddr 1 (.t 7)⟩, ⟨none, some 36, .load false 1 (.t 35)⟩, ⟨none, some 37, .bin .add (.t 36) (.c
 (.int .i64 1))⟩, ⟨none, some 39, .faddr 0 (.t 1)⟩, ⟨none, some 40, .faddr 10 (.t 39)⟩, ⟨none, some 41, .load false 1 (.t 40)⟩, ⟨none, some 42, .len (.t
 41)⟩, ⟨none, some 43, .bin .sub (.t 42) (.c (.int .i64 1))⟩, ⟨none, some 38, .call 91 [(.t 34), (.t 37)]⟩, ⟨none, some 44, .callx (.t 33) [(.t 38), (.t
 43)]⟩]) (.seq (.reg [⟨none, some 45, .load false 1 (.t 5)⟩, ⟨none, some 46, .faddr 0 (.t 7)⟩, ⟨none, some 47, .load false 1 (.t 46)⟩, ⟨none, some 2, .mv
 (.t 45)⟩, ⟨none, some 3, .mv (.t 47)⟩]) .ret)))))))))
theorem ok69 : FnOk Try.prog 69 48 7 c69 [.t 2, .t 3] := ⟨_, _, Try.func69, rfl, rfl, by kernel_rfl, by kernel_rfl⟩
theorem bd69 : bodied Try.prog 69 = true := by kernel_rfl

/-- ferrule/ferruleref02.Check -/
def c70 : CI := (.seq (.reg [⟨none, some 1, .box 0 true (.t 0)⟩, ⟨none, some 2, .mv (.c (.int .i64 0))⟩]) (.seq (.seq (.reg [⟨none, some 6, .faddr 0 (.t
 1)⟩, ⟨none, some 7, .load false 1 (.t 6)⟩, ⟨none, some 8, .len (.t 7)⟩, ⟨none, some 9, .call 87 [(.t 8), (.c (.int .i64 1)), (.c (.int .i64 4))]⟩, ⟨none,
 some 10, .un .not (.t 9)⟩, ⟨none, some 11, .mv (.t 10)⟩, ⟨(some (11, false)), (some 12), .faddr 1 (.t 1)⟩, ⟨(some (11, false)), (some 13), .load false
 1 (.t 12)⟩, ⟨(some (11, false)), (some 14), .len (.t 13)⟩, ⟨(some (11, false)), (some 15), .call 87 [(.t 14), (.c (.int .i64 3)), (.c (.int .i64 16))]⟩,
 ⟨(some (11, false)), (some 16), .un .not (.t 15)⟩, ⟨none, some 17, .pick (.t 11) (.c (.bool true)) (.t 16)⟩, ⟨none, some 18, .mv (.t 17)⟩, ⟨(some (18,
 false)), (some 19), .faddr 2 (.t 1)⟩, ⟨(some (18, false)), (some 20), .load false 1 (.t 19)⟩, ⟨(some (18, false)), (some 21), .call 87 [(.t 20), (.c (.int
 .i64 0)), (.c (.int .i64 20))]⟩, ⟨(some (18, false)), (some 22), .un .not (.t 21)⟩, ⟨none, some 23, .pick (.t 18) (.c (.bool true)) (.t 22)⟩, ⟨none, some
 24, .mv (.t 23)⟩, ⟨(some (24, false)), (some 25), .faddr 3 (.t 1)⟩, ⟨(some (24, false)), (some 26), .load false 1 (.t 25)⟩, ⟨(some (24, false)), (some
 27), .len (.t 26)⟩, ⟨(some (24, false)), (some 28), .call 87 [(.t 27), (.c (.int .i64 1)), (.c (.int .i64 12))]⟩, ⟨(some (24, false)), (some 29), .un .not
 (.t 28)⟩, ⟨none, some 30, .pick (.t 24) (.c (.bool true)) (.t 29)⟩, ⟨none, some 31, .mv (.t 30)⟩, ⟨(some (31, false)), (some 32), .faddr 4 (.t 1)⟩, ⟨(some
 (31, false)), (some 33), .load false 1 (.t 32)⟩, ⟨(some (31, false)), (some 34), .len (.t 33)⟩, ⟨(some (31, false)), (some 35), .faddr 3 (.t 1)⟩, ⟨(some
 (31, false)), (some 36), .load false 1 (.t 35)⟩, ⟨(some (31, false)), (some 37), .len (.t 36)⟩, ⟨(some (31, false)), (some 38), .bin .neq (.t 34) (.t 37)⟩,
 ⟨none, some 39, .pick (.t 31) (.c (.bool true)) (.t 38)⟩, ⟨none, some 40, .mv (.t 39)⟩, ⟨(some (40, false)), (some 41), .faddr 5 (.t 1)⟩, ⟨(some (40, false)),
 (some 42), .load false 1 (.t 41)⟩, ⟨(some (40, false)), (some 43), .call 87 [(.t 42), (.c (.int .i64 0)), (.c (.int .i64 500))]⟩, ⟨(some (40, false)),
 (some 44), .un .not (.t 43)⟩, ⟨none, some 45, .pick (.t 40) (.c (.bool true)) (.t 44)⟩]) (.cond (.t 45) (.seq (.reg [⟨none, some 2, .mv (.c (.int .i64
 20))⟩]) .ret) .skip)) (.seq (.seq (.reg [⟨none, some 3, .mv (.c (.int .i64 0))⟩]) (.block 0 (.loop (.seq (.seq (.reg [⟨none, some 46, .mv (.t 3)⟩, ⟨none,
 some 47, .faddr 1 (.t 1)⟩, ⟨none, some 48, .load false 1 (.t 47)⟩, ⟨none, some 49, .len (.t 48)⟩, ⟨none, some 50, .bin .lss (.t 46) (.t 49)⟩]) (.cond (.t
 50) .skip (.exit 0))) (.seq (.block 1 (.seq (.reg [⟨none, some 53, .faddr 1 (.t 1)⟩, ⟨none, some 54, .load false 1 (.t 53)⟩, ⟨none, some 55, .mv (.t 3)⟩,
 ⟨none, some 56, .iaddr 1 (.t 54) (.t 55)⟩, ⟨none, some 57, .load false 1 (.t 56)⟩, ⟨none, some 58, .faddr 0 (.t 1)⟩, ⟨none, some 59, .load false 1 (.t
 58)⟩, ⟨none, some 60, .len (.t 59)⟩, ⟨none, some 61, .bin .sub (.t 60) (.c (.int .i64 1))⟩, ⟨none, some 62, .call 87 [(.t 57), (.c (.int .i64 0)), (.t
 61)]⟩, ⟨none, some 63, .un .not (.t 62)⟩]) (.cond (.t 63) (.seq (.reg [⟨none, some 2, .mv (.c (.int .i64 20))⟩]) .ret) .skip))) (.reg [⟨none, some 51,
 .mv (.t 3)⟩, ⟨none, some 52, .bin .add (.t 51) (.c (.int .i64 1))⟩, ⟨none, some 3, .mv (.t 52)⟩])))))) (.seq (.seq (.reg [⟨none, some 4, .mv (.c (.int
 .i64 0))⟩]) (.block 2 (.loop (.seq (.seq (.reg [⟨none, some 64, .mv (.t 4)⟩, ⟨none, some 65, .faddr 3 (.t 1)⟩, ⟨none, some 66, .load false 1 (.t 65)⟩,
 ⟨none, some 67, .len (.t 66)⟩, ⟨none, some 68, .bin .lss (.t 64) (.t 67)⟩]) (.cond (.t 68) .skip (.exit 2))) (.seq (.block 3 (.seq (.reg [⟨none, some 71,
 .faddr 3 (.t 1)⟩, ⟨none, some 72, .load false 1 (.t 71)⟩, ⟨none, some 73, .mv (.t 4)⟩, ⟨none, some 74, .iaddr 2 (.t 72) (.t 73)⟩, ⟨none, some 75, .load
 true 2 (.t 74)⟩, ⟨none, some 76, .call 97 [(.t 75), (.c (.int .i64 40000))]⟩, ⟨none, some 77, .un .not (.t 76)⟩, ⟨none, some 78, .mv (.t 77)⟩, ⟨(some (78,
 false)), (some 79), .faddr 4 (.t 1)⟩, ⟨(some (78, false)), (some 80), .load false 1 (.t 79)⟩, ⟨(some (78, false)), (some 81), .mv (.t 4)⟩, ⟨(some (78,
 false)), (some 82), .iaddr 1 (.t 80) (.t 81)⟩, ⟨(some (78, false)), (some 83), .load false 1 (.t 82)⟩, ⟨(some (78, false)), (some 84), .faddr 2 (.t 1)⟩,
 ⟨(some (78, false)), (some 85), .load false 1 (.t 84)⟩, ⟨(some (78, false)), (some 86), .bin .mul (.c (.int .i64 2)) (.t 85)⟩, ⟨(some (78, false)), (some
 87), .call 87 [(.t 83), (.t 86), (.c (.int .i64 2000))]⟩, ⟨(some (78, false)), (some 88), .un .not (.t 87)⟩, ⟨none, some 89, .pick (.t 78) (.c (.bool true))
 (.t 88)⟩]) (.cond (.t 89) (.seq (.reg [⟨none, some 2, .mv (.c (.int .i64 20))⟩]) .ret) .skip))) (.reg [⟨none, some 69, .mv (.t 4)⟩, ⟨none, some 70, .bin
 .add (.t 69) (.c (.int .i64 1))⟩, ⟨none, some 4, .mv (.t 70)⟩])))))) (.seq (.seq (.reg [⟨none, some 5, .mv (.c (.int .i64 0))⟩]) (.block 4 (.loop (.seq
 (.seq (.reg [⟨none, some 90, .mv (.t 5)⟩, ⟨none, some 91, .faddr 0 (.t 1)⟩, ⟨none, some 92, .load false 1 (.t 91)⟩, ⟨none, some 93, .len (.t 92)⟩, ⟨none,
 some 94, .bin .lss (.t 90) (.t 93)⟩]) (.cond (.t 94) .skip (.exit 4))) (.seq (.block 5 (.seq (.reg [⟨none, some 97, .faddr 0 (.t 1)⟩, ⟨none, some 98, .load
 false 1 (.t 97)⟩, ⟨none, some 99, .mv (.t 5)⟩, ⟨none, some 100, .iaddr 4 (.t 98) (.t 99)⟩, ⟨none, some 101, .load true 4 (.t 100)⟩, ⟨none, some 102, .call
 98 [(.t 101)]⟩, ⟨none, some 103, .un .not (.t 102)⟩]) (.cond (.t 103) (.seq (.reg [⟨none, some 2, .mv (.c (.int .i64 21))⟩]) .ret) .skip))) (.reg [⟨none,
 some 95, .mv (.t 5)⟩, ⟨none, some 96, .bin .add (.t 95) (.c (.int .i64 1))⟩, ⟨none, some 5, .mv (.t 96)⟩])))))) (.seq (.reg [⟨none, some 2, .mv (.c (.int
 .i64 0))⟩]) .ret))))))
theorem ok70 : FnOk Try.prog 70 104 1 c70 [.t 2] := ⟨_, _, Try.func70, rfl, rfl, by kernel_rfl, by kernel_rfl⟩
theorem bd70 : bodied Try.prog 70 = true := by kernel_rfl

/-- ferrule/ferruleref04.occupied -/
def c71 : CI := (.seq (.reg [⟨none, some 3, .box 0 true (.t 0)⟩, ⟨none, some 6, .mv (.c .nils)⟩]) (.seq (.reg [⟨none, some 11, .mv (.t 1)⟩, ⟨none, some
 12, .len (.t 11)⟩, ⟨none, some 7, .mv (.t 12)⟩]) (.seq (.reg [⟨none, some 13, .mv (.t 7)⟩, ⟨none, some 14, .mks 1 4 1 1 [(.bool false)] (.t 13) (.t 13)⟩,
 ⟨none, some 8, .mv (.t 14)⟩]) (.seq (.reg [⟨none, some 15, .mv (.t 8)⟩, ⟨none, some 16, .mv (.t 2)⟩, ⟨none, some 17, .mv (.t 8)⟩, ⟨none, some 18, .mv (.t
 2)⟩, ⟨none, some 19, .bin .add (.t 18) (.c (.int .i64 1))⟩, ⟨none, some 20, .mv (.t 7)⟩, ⟨none, some 21, .bin .rem (.t 19) (.t 20)⟩, ⟨none, some 22, .iaddr
 1 (.t 15) (.t 16)⟩, ⟨none, none, .store false 1 (.t 22) (.c (.bool true)) []⟩, ⟨none, some 23, .iaddr 1 (.t 17) (.t 21)⟩, ⟨none, none, .store false 1 (.t
 23) (.c (.bool true)) []⟩]) (.seq (.seq (.reg [⟨none, some 9, .mv (.c (.int .i64 0))⟩]) (.block 0 (.loop (.seq (.seq (.reg [⟨none, some 24, .mv (.t 9)⟩,
 ⟨none, some 25, .mv (.t 7)⟩, ⟨none, some 26, .bin .lss (.t 24) (.t 25)⟩]) (.cond (.t 26) .skip (.exit 0))) (.seq (.block 1 (.seq (.reg [⟨none, some 10,
 .mv (.c (.int .i64 0))⟩]) (.block 2 (.loop (.seq (.seq (.reg [⟨none, some 29, .mv (.t 10)⟩, ⟨none, some 30, .mv (.t 7)⟩, ⟨none, some 31, .bin .lss (.t
 29) (.t 30)⟩]) (.cond (.t 31) .skip (.exit 2))) (.seq (.block 3 (.seq (.reg [⟨none, some 34, .mv (.t 1)⟩, ⟨none, some 35, .mv (.t 10)⟩, ⟨none, some 36,
 .iaddr 1 (.t 34) (.t 35)⟩, ⟨none, some 37, .load false 1 (.t 36)⟩, ⟨none, some 38, .faddr 10 (.t 3)⟩, ⟨none, some 39, .load false 1 (.t 38)⟩, ⟨none, some
 40, .mv (.t 10)⟩, ⟨none, some 41, .iaddr 1 (.t 39) (.t 40)⟩, ⟨none, some 42, .load false 1 (.t 41)⟩, ⟨none, some 43, .bin .add (.t 37) (.t 42)⟩, ⟨none,
 some 44, .mv (.t 1)⟩, ⟨none, some 45, .mv (.t 2)⟩, ⟨none, some 46, .iaddr 1 (.t 44) (.t 45)⟩, ⟨none, some 47, .load false 1 (.t 46)⟩, ⟨none, some 48, .bin
 .leq (.t 43) (.t 47)⟩, ⟨none, some 49, .mv (.t 48)⟩, ⟨(some (49, true)), (some 50), .mv (.t 8)⟩, ⟨(some (49, true)), (some 51), .mv (.t 10)⟩, ⟨(some (49,
 true)), (some 52), .iaddr 1 (.t 50) (.t 51)⟩, ⟨(some (49, true)), (some 53), .load false 1 (.t 52)⟩, ⟨(some (49, true)), (some 54), .mv (.t 53)⟩, ⟨(some
 (54, false)), (some 55), .mv (.t 8)⟩, ⟨(some (54, false)), (some 56), .mv (.t 10)⟩, ⟨(some (54, false)), (some 57), .bin .add (.t 56) (.c (.int .i64 1))⟩,
 ⟨(some (54, false)), (some 58), .mv (.t 7)⟩, ⟨(some (54, false)), (some 59), .bin .rem (.t 57) (.t 58)⟩, ⟨(some (54, false)), (some 60), .iaddr 1 (.t 55)
 (.t 59)⟩, ⟨(some (54, false)), (some 61), .load false 1 (.t 60)⟩, ⟨(some (49, true)), (some 62), .pick (.t 54) (.c (.bool true)) (.t 61)⟩, ⟨none, some
 63, .pick (.t 49) (.t 62) (.c (.bool false))⟩]) (.cond (.t 63) (.reg [⟨none, some 64, .mv (.t 8)⟩, ⟨none, some 65, .mv (.t 10)⟩, ⟨none, some 66, .mv (.t
 8)⟩, ⟨none, some 67, .mv (.t 10)⟩, ⟨none, some 68, .bin .add (.t 67) (.c (.int .i64 1))⟩, ⟨none, some 69, .mv (.t 7)⟩, ⟨none, some 70, .bin .rem (.t 68)
 (.t 69)⟩, ⟨none, some 71, .iaddr 1 (.t 64) (.t 65)⟩, ⟨none, none, .store false 1 (.t 71) (.c (.bool true)) []⟩, ⟨none, some 72, .iaddr 1 (.t 66) (.t 70)⟩,
 ⟨none, none, .store false 1 (.t 72) (.c (.bool true)) []⟩]) .skip))) (.reg [⟨none, some 32, .mv (.t 10)⟩, ⟨none, some 33, .bin .add (.t 32) (.c (.int .i64
 1))⟩, ⟨none, some 10, .mv (.t 33)⟩]))))))) (.reg [⟨none, some 27, .mv (.t 9)⟩, ⟨none, some 28, .bin .add (.t 27) (.c (.int .i64 1))⟩, ⟨none, some 9, .mv
 (.t 28)⟩])))))) (.seq (.reg [⟨none, some 73, .mv (.t 8)⟩, ⟨none, some 6, .mv (.t 73)⟩]) .ret))))))
theorem ok71 : FnOk Try.prog 71 74 2 c71 [.t 6] := ⟨_, _, Try.func71, rfl, rfl, by kernel_rfl, by kernel_rfl⟩
theorem bd71 : bodied Try.prog 71 = true := by kernel_rfl

/-- ferrule/cloth.Check -/
def c72 : CI := (.seq (.reg [⟨none, some 1, .box 0 true (.t 0)⟩, ⟨none, some 2, .mv (.c (.int .i64 0))⟩]) (.seq (.seq (.reg [⟨none, some 3, .load true
 6 (.t 1)⟩, ⟨none, some 4, .call 99 [(.t 3)]⟩, ⟨none, some 5, .un .not (.t 4)⟩]) (.cond (.t 5) (.seq (.reg [⟨none, some 2, .mv (.c (.int .i64 20))⟩]) .ret)
 .skip)) (.seq (.seq (.reg [⟨none, some 6, .faddr 0 (.t 1)⟩, ⟨none, some 7, .load false 1 (.t 6)⟩, ⟨none, some 8, .call 100 [(.t 7), (.c (.fn 101 []))]⟩,
 ⟨none, some 9, .un .not (.t 8)⟩]) (.cond (.t 9) (.seq (.reg [⟨none, some 2, .mv (.c (.int .i64 21))⟩]) .ret) .skip)) (.seq (.reg [⟨none, some 2, .mv (.c
 (.int .i64 0))⟩]) .ret))))
theorem ok72 : FnOk Try.prog 72 10 1 c72 [.t 2] := ⟨_, _, Try.func72, rfl, rfl, by kernel_rfl, by kernel_rfl⟩
theorem bd72 : bodied Try.prog 72 = true := by kernel_rfl

/-- ferrule/seams.validFigure -/
def c73 : CI := (.seq (.reg [⟨none, some 1, .box 0 true (.t 0)⟩, ⟨none, some 2, .mv (.c (.bool false))⟩]) (.seq (.reg [⟨none, some 4, .faddr 0 (.t 1)⟩,
 ⟨none, some 5, .faddr 1 (.t 4)⟩, ⟨none, some 6, .load false 1 (.t 5)⟩, ⟨none, some 7, .len (.t 6)⟩, ⟨none, some 3, .mv (.t 7)⟩]) (.seq (.reg [⟨none, some
 8, .faddr 6 (.t 1)⟩, ⟨none, some 9, .load false 1 (.t 8)⟩, ⟨none, some 10, .call 58 [(.t 9), (.c (.int .i64 1)), (.c (.int .i64 60))]⟩, ⟨none, some 11,
 .mv (.t 10)⟩, ⟨(some (11, true)), (some 12), .faddr 7 (.t 1)⟩, ⟨(some (11, true)), (some 13), .load false 1 (.t 12)⟩, ⟨(some (11, true)), (some 14), .call
 58 [(.t 13), (.c (.int .i64 0)), (.c (.int .i64 2000))]⟩, ⟨none, some 15, .pick (.t 11) (.t 14) (.c (.bool false))⟩, ⟨none, some 16, .mv (.t 15)⟩, ⟨(some
 (16, true)), (some 17), .faddr 8 (.t 1)⟩, ⟨(some (16, true)), (some 18), .load false 1 (.t 17)⟩, ⟨(some (16, true)), (some 19), .faddr 6 (.t 1)⟩, ⟨(some
 (16, true)), (some 20), .load false 1 (.t 19)⟩, ⟨(some (16, true)), (some 21), .bin .quo (.t 20) (.c (.int .i64 2))⟩, ⟨(some (16, true)), (some 22), .call
 58 [(.t 18), (.c (.int .i64 0)), (.t 21)]⟩, ⟨none, some 23, .pick (.t 16) (.t 22) (.c (.bool false))⟩, ⟨none, some 24, .mv (.t 23)⟩, ⟨(some (24, true)),
 (some 25), .faddr 9 (.t 1)⟩, ⟨(some (24, true)), (some 26), .load false 1 (.t 25)⟩, ⟨(some (24, true)), (some 27), .len (.t 26)⟩, ⟨(some (24, true)), (some
 28), .mv (.t 3)⟩, ⟨(some (24, true)), (some 29), .bin .eql (.t 27) (.t 28)⟩, ⟨none, some 30, .pick (.t 24) (.t 29) (.c (.bool false))⟩, ⟨none, some 31,
 .mv (.t 30)⟩, ⟨(some (31, true)), (some 32), .faddr 9 (.t 1)⟩, ⟨(some (31, true)), (some 33), .load false 1 (.t 32)⟩, ⟨(some (31, true)), (some 34), .faddr
 6 (.t 1)⟩, ⟨(some (31, true)), (some 35), .load false 1 (.t 34)⟩, ⟨(some (31, true)), (some 36), .bin .sub (.t 35) (.c (.int .i64 1))⟩, ⟨(some (31, true)),
 (some 37), .call 102 [(.t 33), (.c (.int .i64 0)), (.t 36)]⟩, ⟨none, some 38, .pick (.t 31) (.t 37) (.c (.bool false))⟩, ⟨none, some 39, .mv (.t 38)⟩,
 ⟨(some (39, true)), (some 40), .faddr 10 (.t 1)⟩, ⟨(some (39, true)), (some 41), .load false 1 (.t 40)⟩, ⟨(some (39, true)), (some 42), .len (.t 41)⟩,
 ⟨(some (39, true)), (some 43), .mv (.t 3)⟩, ⟨(some (39, true)), (some 44), .bin .eql (.t 42) (.t 43)⟩, ⟨none, some 45, .pick (.t 39) (.t 44) (.c (.bool
 false))⟩, ⟨none, some 46, .mv (.t 45)⟩, ⟨(some (46, true)), (some 47), .faddr 10 (.t 1)⟩, ⟨(some (46, true)), (some 48), .load false 1 (.t 47)⟩, ⟨(some
 (46, true)), (some 49), .call 102 [(.t 48), (.c (.int .i64 1)), (.c (.int .i64 99))]⟩, ⟨none, some 50, .pick (.t 46) (.t 49) (.c (.bool false))⟩, ⟨none,
 some 2, .mv (.t 50)⟩]) .ret)))
theorem ok73 : FnOk Try.prog 73 51 1 c73 [.t 2] := ⟨_, _, Try.func73, rfl, rfl, by kernel_rfl, by kernel_rfl⟩
theorem bd73 : bodied Try.prog 73 = true := by kernel_rfl

/-- (ferrule/seams.pulled).begin -/
def c76 : CI := (.seq (.reg [⟨none, some 1, .box 0 true (.t 0)⟩, ⟨none, some 2, .mv (.c .nils)⟩, ⟨none, some 3, .mv (.c (.int .i64 0))⟩]) (.seq (.reg [⟨none,
 some 4, .mv (.c .nils)⟩]) (.seq (.seq (.reg [⟨none, some 10, .faddr 0 (.t 1)⟩, ⟨none, some 11, .faddr 0 (.t 10)⟩, ⟨none, some 12, .faddr 9 (.t 11)⟩, ⟨none,
 some 13, .load false 1 (.t 12)⟩, ⟨none, some 14, .len (.t 13)⟩, ⟨none, some 15, .mv (.c (.int .i64 0))⟩]) (.block 0 (.loop (.seq (.reg [⟨none, some 16,
 .bin .lss (.t 15) (.t 14)⟩]) (.seq (.cond (.t 16) .skip (.exit 0)) (.seq (.block 1 (.seq (.reg [⟨none, some 17, .mv (.t 15)⟩, ⟨none, some 5, .mv (.t 17)⟩])
 (.reg [⟨none, some 18, .mv (.t 4)⟩, ⟨none, some 19, .load true 12 (.t 1)⟩, ⟨none, some 20, .mv (.t 5)⟩, ⟨none, some 21, .faddr 0 (.t 1)⟩, ⟨none, some 22,
 .faddr 0 (.t 21)⟩, ⟨none, some 23, .faddr 8 (.t 22)⟩, ⟨none, some 24, .load false 1 (.t 23)⟩, ⟨none, some 25, .callw 1 1 104 [(.t 19), (.t 20), (.t 24)]⟩,
 ⟨none, some 26, .bsl 2 23 1 [(.t 25)] []⟩, ⟨none, some 27, .apd 3 23 1 24 (.t 18) (.t 26) []⟩, ⟨none, some 4, .mv (.t 27)⟩]))) (.reg [⟨none, some 28, .bin
 .add (.t 15) (.c (.int .i64 1))⟩, ⟨none, some 15, .mv (.t 28)⟩]))))))) (.seq (.reg [⟨none, some 29, .build [.nils, (.int .i64 0)] [(1, 1, (.c (.int .i64
 9223372036854775807)))]⟩, ⟨none, some 6, .alloc 4 [.nils, (.int .i64 0)]⟩, ⟨none, none, .stz true 2 (.t 6) (.t 29) []⟩]) (.seq (.seq (.reg [⟨none, some
 30, .faddr 0 (.t 1)⟩, ⟨none, some 31, .faddr 0 (.t 30)⟩, ⟨none, some 32, .faddr 6 (.t 31)⟩, ⟨none, some 33, .load false 1 (.t 32)⟩, ⟨none, some 34, .mv
 (.c (.int .i64 0))⟩]) (.block 2 (.loop (.seq (.reg [⟨none, some 35, .bin .lss (.t 34) (.t 33)⟩]) (.seq (.cond (.t 35) .skip (.exit 2)) (.seq (.block 3
 (.seq (.reg [⟨none, some 36, .mv (.t 34)⟩, ⟨none, some 7, .mv (.t 36)⟩]) (.seq (.reg [⟨none, some 38, .load true 12 (.t 1)⟩, ⟨none, some 39, .mv (.t 7)⟩,
 ⟨none, some 40, .mv (.t 4)⟩, ⟨none, some 41, .faddr 1 (.t 6)⟩, ⟨none, some 42, .load false 1 (.t 41)⟩, ⟨none, some 43, .callw 5 1 105 [(.t 38), (.t 39),
 (.t 40), (.t 42)]⟩, ⟨none, some 37, .mv (.t 43)⟩, ⟨none, some 44, .extract 0 (.t 37)⟩, ⟨none, some 45, .extract 1 (.t 37)⟩, ⟨none, some 8, .alloc 6 [.nils,
 (.int .i64 0)]⟩, ⟨none, none, .stz true 2 (.t 8) (.t 44) []⟩, ⟨none, some 9, .mv (.t 45)⟩]) (.seq (.reg [⟨none, some 46, .mv (.t 9)⟩]) (.cond (.t 46) (.reg
 [⟨none, some 47, .load true 2 (.t 8)⟩, ⟨none, none, .stz true 2 (.t 6) (.t 47) []⟩]) .skip))))) (.reg [⟨none, some 48, .bin .add (.t 34) (.c (.int .i64
 1))⟩, ⟨none, some 34, .mv (.t 48)⟩]))))))) (.seq (.seq (.reg [⟨none, some 49, .faddr 0 (.t 6)⟩, ⟨none, some 50, .load false 1 (.t 49)⟩, ⟨none, some 51,
 .eqn false (.t 50)⟩]) (.cond (.t 51) (.seq (.reg [⟨none, some 2, .mv (.c .nils)⟩, ⟨none, some 3, .mv (.c (.int .i64 3))⟩]) .ret) .skip)) (.seq (.reg [⟨none,
 some 52, .faddr 0 (.t 6)⟩, ⟨none, some 53, .load false 1 (.t 52)⟩, ⟨none, some 2, .mv (.t 53)⟩, ⟨none, some 3, .mv (.c (.int .i64 0))⟩]) .ret)))))))
theorem ok76 : FnOk Try.prog 76 54 7 c76 [.t 2, .t 3] := ⟨_, _, Try.func76, rfl, rfl, by kernel_rfl, by kernel_rfl⟩
theorem bd76 : bodied Try.prog 76 = true := by kernel_rfl

/-- ferrule/ferruleref04.soonest -/
def c77 : CI := (.seq (.reg [⟨none, some 3, .box 0 true (.t 0)⟩, ⟨none, some 6, .mv (.c (.int .i64 0))⟩]) (.seq (.seq (.reg [⟨none, some 11, .mv (.t 2)⟩,
 ⟨none, some 12, .bin .eql (.t 11) (.c (.int .i64 0))⟩]) (.cond (.t 12) (.seq (.reg [⟨none, some 6, .mv (.c (.int .i64 0))⟩]) .ret) .skip)) (.seq (.reg
 [⟨none, some 13, .faddr 10 (.t 3)⟩, ⟨none, some 14, .load false 1 (.t 13)⟩, ⟨none, some 15, .len (.t 14)⟩, ⟨none, some 7, .mv (.t 15)⟩]) (.seq (.reg [⟨none,
 some 8, .mv (.c (.int .i64 (-1)))⟩]) (.seq (.seq (.reg [⟨none, some 9, .mv (.c (.int .i64 1))⟩]) (.block 0 (.loop (.seq (.seq (.reg [⟨none, some 16, .mv
 (.t 9)⟩, ⟨none, some 17, .mv (.t 2)⟩, ⟨none, some 18, .bin .leq (.t 16) (.t 17)⟩]) (.cond (.t 18) .skip (.exit 0))) (.seq (.block 1 (.seq (.reg [⟨none,
 some 21, .load true 11 (.t 3)⟩, ⟨none, some 22, .mv (.t 1)⟩, ⟨none, some 23, .mv (.t 9)⟩, ⟨none, some 24, .bin .sub (.t 23) (.c (.int .i64 1))⟩, ⟨none,
 some 26, .load true 11 (.t 3)⟩, ⟨none, some 27, .mv (.t 1)⟩, ⟨none, some 28, .mv (.t 9)⟩, ⟨none, some 29, .bin .add (.t 27) (.t 28)⟩, ⟨none, some 30, .mv
 (.t 2)⟩, ⟨none, some 31, .mv (.t 9)⟩, ⟨none, some 32, .bin .sub (.t 30) (.t 31)⟩, ⟨none, some 35, .faddr 10 (.t 3)⟩, ⟨none, some 36, .load false 1 (.t
 35)⟩, ⟨none, some 37, .mv (.t 1)⟩, ⟨none, some 38, .mv (.t 9)⟩, ⟨none, some 39, .bin .add (.t 37) (.t 38)⟩, ⟨none, some 40, .mv (.t 7)⟩, ⟨none, some 41,
 .bin .rem (.t 39) (.t 40)⟩, ⟨none, some 42, .iaddr 1 (.t 36) (.t 41)⟩, ⟨none, some 43, .load false 1 (.t 42)⟩, ⟨none, some 25, .call 77 [(.t 21), (.t 22),
 (.t 24)]⟩, ⟨none, some 33, .call 77 [(.t 26), (.t 29), (.t 32)]⟩, ⟨none, some 34, .mm true [(.t 25), (.t 33)]⟩, ⟨none, some 44, .bin .add (.t 34) (.t 43)⟩,
 ⟨none, some 10, .mv (.t 44)⟩]) (.seq (.reg [⟨none, some 45, .mv (.t 8)⟩, ⟨none, some 46, .bin .lss (.t 45) (.c (.int .i64 0))⟩, ⟨none, some 47, .mv (.t
 46)⟩, ⟨(some (47, false)), (some 48), .mv (.t 10)⟩, ⟨(some (47, false)), (some 49), .mv (.t 8)⟩, ⟨(some (47, false)), (some 50), .bin .lss (.t 48) (.t
 49)⟩, ⟨none, some 51, .pick (.t 47) (.c (.bool true)) (.t 50)⟩]) (.cond (.t 51) (.reg [⟨none, some 52, .mv (.t 10)⟩, ⟨none, some 8, .mv (.t 52)⟩]) .skip))))
 (.reg [⟨none, some 19, .mv (.t 9)⟩, ⟨none, some 20, .bin .add (.t 19) (.c (.int .i64 1))⟩, ⟨none, some 9, .mv (.t 20)⟩])))))) (.seq (.reg [⟨none, some
 53, .mv (.t 8)⟩, ⟨none, some 6, .mv (.t 53)⟩]) .ret))))))
theorem ok77 : FnOk Try.prog 77 54 1 c77 [.t 6] := ⟨_, _, Try.func77, rfl, rfl, by kernel_rfl, by kernel_rfl⟩
theorem bd77 : bodied Try.prog 77 = true := by kernel_rfl

/-- ferrule/ferrulelaw02.Example -/
def c78 : CI := (.seq (.reg [⟨none, some 0, .alloc 0 [.nils, .nils, (.int .i64 0), .nils, .nils, (.int .i64 0)]⟩]) (.seq (.reg [⟨none, some 1, .build [(.int
 .i64 0), (.int .i64 0)] [(1, 1, (.c (.int .i64 20)))]⟩, ⟨none, some 2, .build [(.int .i64 0), (.int .i64 0)] [(0, 1, (.c (.int .i64 1005))), (1, 1, (.c
 (.int .i64 1010)))]⟩, ⟨none, some 3, .build [(.int .i64 0), (.int .i64 0), (.int .i64 0)] [(0, 1, (.c (.int .i64 1000))), (1, 2, (.t 2))]⟩, ⟨none, some
 4, .bsl 1 52 3 [(.t 3)] []⟩, ⟨none, some 5, .build [(.int .i64 0), (.int .i64 0), .nils, (.int .i64 0)] [(0, 2, (.t 1)), (2, 1, (.t 4))]⟩, ⟨none, some
 6, .build [(.int .i64 0), (.int .i64 0)] [(1, 1, (.c (.int .i64 10)))]⟩, ⟨none, some 7, .build [(.int .i64 0), (.int .i64 0), .nils, (.int .i64 0)] [(0,
 2, (.t 6))]⟩, ⟨none, some 8, .bsl 2 55 4 [(.t 5), (.t 7)] []⟩, ⟨none, some 9, .bsl 3 3 1 [(.c (.int .i64 0)), (.c (.int .i64 0)), (.c (.int .i64 1)), (.c
 (.int .i64 1))] []⟩, ⟨none, some 10, .build [(.int .i64 0), (.int .i64 0)] [(0, 1, (.c (.int .i64 400))), (1, 1, (.c (.int .i64 404)))]⟩, ⟨none, some 11,
 .build [(.int .i64 0), (.int .i64 0)] [(0, 1, (.c (.int .i64 600))), (1, 1, (.c (.int .i64 650)))]⟩, ⟨none, some 12, .build [(.int .i64 0), (.int .i64
 0)] [(0, 1, (.c (.int .i64 803))), (1, 1, (.c (.int .i64 806)))]⟩, ⟨none, some 13, .bsl 4 50 2 [(.t 10), (.t 11), (.t 12)] []⟩, ⟨none, some 14, .bsl 5
 3 1 [(.c (.int .i64 110)), (.c (.int .i64 165)), (.c (.int .i64 210))] []⟩, ⟨none, some 15, .build [.nils, .nils, (.int .i64 0), .nils, .nils, (.int .i64
 0)] [(0, 1, (.t 8)), (1, 1, (.t 9)), (2, 1, (.c (.int .i64 5))), (3, 1, (.t 13)), (4, 1, (.t 14)), (5, 1, (.c (.int .i64 50)))]⟩, ⟨none, none, .stz true
 6 (.t 0) (.t 15) []⟩]) .ret))
theorem ok78 : FnOk Try.prog 78 16 6 c78 [.cell 0 true 6] := ⟨_, _, Try.func78, rfl, rfl, by kernel_rfl, by kernel_rfl⟩
theorem bd78 : bodied Try.prog 78 = true := by kernel_rfl

/-- ferrule/cloth.openAt[ferrule/api.Bolt] -/
def c81 : CI := (.seq (.reg [⟨none, some 3, .box 0 true (.t 0)⟩, ⟨none, some 6, .alloc 1 [.nils, .nils, (.int .i64 0), .nils, .nils, (.int .i64 0), .nils]⟩,
 ⟨none, some 7, .mv (.c (.int .i64 0))⟩]) (.seq (.seq (.reg [⟨none, some 9, .load true 6 (.t 3)⟩, ⟨none, some 10, .mv (.t 1)⟩, ⟨none, some 11, .mv (.t 2)⟩,
 ⟨none, some 12, .call 108 [(.t 9), (.t 10), (.t 11)]⟩, ⟨none, some 8, .mv (.t 12)⟩]) (.seq (.reg [⟨none, some 13, .mv (.t 8)⟩, ⟨none, some 14, .bin .neq
 (.t 13) (.c (.int .i64 0))⟩]) (.cond (.t 14) (.seq (.reg [⟨none, some 15, .build [.nils, .nils, (.int .i64 0), .nils, .nils, (.int .i64 0), .nils] []⟩,
 ⟨none, some 16, .mv (.t 8)⟩, ⟨none, none, .stz true 7 (.t 6) (.t 15) []⟩, ⟨none, some 7, .mv (.t 16)⟩]) .ret) .skip))) (.seq (.reg [⟨none, some 17, .load
 true 6 (.t 3)⟩, ⟨none, some 18, .callw 2 5 106 [(.t 17)]⟩, ⟨none, some 19, .extract 0 (.t 18)⟩, ⟨none, some 20, .extract 1 (.t 18)⟩, ⟨none, none, .stz
 true 7 (.t 6) (.t 19) []⟩, ⟨none, some 7, .mv (.t 20)⟩]) .ret)))
theorem ok81 : FnOk Try.prog 81 21 7 c81 [.cell 6 true 7, .t 7] := ⟨_, _, Try.func81, rfl, rfl, by kernel_rfl, by kernel_rfl⟩
theorem bd81 : bodied Try.prog 81 = true := by kernel_rfl

/-- ferrule/ferruleref02.within -/
def c87 : CI := (.seq (.reg [⟨none, some 6, .mv (.c (.bool false))⟩]) (.seq (.reg [⟨none, some 7, .mv (.t 0)⟩, ⟨none, some 8, .mv (.t 1)⟩, ⟨none, some
 9, .bin .geq (.t 7) (.t 8)⟩, ⟨none, some 10, .mv (.t 9)⟩, ⟨(some (10, true)), (some 11), .mv (.t 0)⟩, ⟨(some (10, true)), (some 12), .mv (.t 2)⟩, ⟨(some
 (10, true)), (some 13), .bin .leq (.t 11) (.t 12)⟩, ⟨none, some 14, .pick (.t 10) (.t 13) (.c (.bool false))⟩, ⟨none, some 6, .mv (.t 14)⟩]) .ret))
theorem ok87 : FnOk Try.prog 87 15 0 c87 [.t 6] := ⟨_, _, Try.func87, rfl, rfl, by kernel_rfl, by kernel_rfl⟩
theorem bd87 : bodied Try.prog 87 = true := by kernel_rfl

/-- ferrule/ferruleref02.False -/
def c88 : CI := (.seq (.reg [⟨none, some 2, .box 0 true (.t 0)⟩, ⟨none, some 4, .mv (.c (.int .i64 0))⟩]) (.seq (.reg [⟨none, some 5, .mv (.c (.int .i64
 0))⟩]) (.seq (.seq (.reg [⟨none, some 6, .mv (.c (.int .i64 0))⟩]) (.block 0 (.loop (.seq (.seq (.reg [⟨none, some 7, .mv (.t 6)⟩, ⟨none, some 8, .faddr
 2 (.t 2)⟩, ⟨none, some 9, .load false 1 (.t 8)⟩, ⟨none, some 10, .len (.t 9)⟩, ⟨none, some 11, .bin .lss (.t 7) (.t 10)⟩]) (.cond (.t 11) .skip (.exit
 0))) (.seq (.block 1 (.seq (.reg [⟨none, some 14, .faddr 2 (.t 2)⟩, ⟨none, some 15, .load false 1 (.t 14)⟩, ⟨none, some 16, .mv (.t 6)⟩, ⟨none, some 17,
 .iaddr 3 (.t 15) (.t 16)⟩, ⟨none, some 18, .faddr 0 (.t 17)⟩, ⟨none, some 19, .load false 1 (.t 18)⟩, ⟨none, some 20, .mv (.t 1)⟩, ⟨none, some 22, .faddr
 2 (.t 2)⟩, ⟨none, some 23, .load false 1 (.t 22)⟩, ⟨none, some 24, .mv (.t 6)⟩, ⟨none, some 25, .iaddr 3 (.t 23) (.t 24)⟩, ⟨none, some 26, .faddr 1 (.t
 25)⟩, ⟨none, some 27, .faddr 0 (.t 26)⟩, ⟨none, some 28, .load false 1 (.t 27)⟩, ⟨none, some 29, .faddr 2 (.t 2)⟩, ⟨none, some 30, .load false 1 (.t 29)⟩,
 ⟨none, some 31, .mv (.t 6)⟩, ⟨none, some 32, .iaddr 3 (.t 30) (.t 31)⟩, ⟨none, some 33, .faddr 1 (.t 32)⟩, ⟨none, some 34, .faddr 1 (.t 33)⟩, ⟨none, some
 35, .load false 1 (.t 34)⟩, ⟨none, some 21, .call 49 [(.t 19), (.t 20)]⟩, ⟨none, some 36, .call 87 [(.t 21), (.t 28), (.t 35)]⟩, ⟨none, some 37, .un .not
 (.t 36)⟩]) (.cond (.t 37) (.reg [⟨none, some 38, .mv (.t 5)⟩, ⟨none, some 39, .bin .add (.t 38) (.c (.int .i64 1))⟩, ⟨none, some 5, .mv (.t 39)⟩]) .skip)))
 (.reg [⟨none, some 12, .mv (.t 6)⟩, ⟨none, some 13, .bin .add (.t 12) (.c (.int .i64 1))⟩, ⟨none, some 6, .mv (.t 13)⟩])))))) (.seq (.reg [⟨none, some
 40, .mv (.t 5)⟩, ⟨none, some 4, .mv (.t 40)⟩]) .ret))))
theorem ok88 : FnOk Try.prog 88 41 1 c88 [.t 4] := ⟨_, _, Try.func88, rfl, rfl, by kernel_rfl, by kernel_rfl⟩
theorem bd88 : bodied Try.prog 88 = true := by kernel_rfl

/-- (ferrule/seams.pulled).lengths -/
def c89 : CI := (.seq (.reg [⟨none, some 2, .box 0 true (.t 0)⟩, ⟨none, some 4, .mv (.c .nils)⟩]) (.seq (.reg [⟨none, some 5, .mv (.c .nils)⟩]) (.seq (.seq
 (.reg [⟨none, some 8, .mv (.t 1)⟩, ⟨none, some 9, .len (.t 8)⟩, ⟨none, some 10, .mv (.c (.int .i64 0))⟩]) (.block 0 (.loop (.seq (.reg [⟨none, some 11,
 .bin .lss (.t 10) (.t 9)⟩]) (.seq (.cond (.t 11) .skip (.exit 0)) (.seq (.block 1 (.seq (.reg [⟨none, some 12, .iaddr 1 (.t 8) (.t 10)⟩, ⟨none, some 13,
 .load false 1 (.t 12)⟩, ⟨none, some 7, .mv (.t 13)⟩]) (.reg [⟨none, some 14, .mv (.t 5)⟩, ⟨none, some 15, .faddr 0 (.t 2)⟩, ⟨none, some 16, .faddr 0 (.t
 15)⟩, ⟨none, some 17, .faddr 7 (.t 16)⟩, ⟨none, some 18, .load false 1 (.t 17)⟩, ⟨none, some 19, .mv (.t 7)⟩, ⟨none, some 20, .bin .add (.c (.int .i64
 1000)) (.t 19)⟩, ⟨none, some 21, .bin .mul (.t 18) (.t 20)⟩, ⟨none, some 22, .bin .quo (.t 21) (.c (.int .i64 1000))⟩, ⟨none, some 23, .faddr 0 (.t 2)⟩,
 ⟨none, some 24, .faddr 0 (.t 23)⟩, ⟨none, some 25, .faddr 6 (.t 24)⟩, ⟨none, some 26, .load false 1 (.t 25)⟩, ⟨none, some 27, .bin .rem (.t 22) (.t 26)⟩,
 ⟨none, some 28, .bsl 1 3 1 [(.t 27)] []⟩, ⟨none, some 29, .apd 2 3 1 8 (.t 14) (.t 28) []⟩, ⟨none, some 5, .mv (.t 29)⟩]))) (.reg [⟨none, some 30, .bin
 .add (.t 10) (.c (.int .i64 1))⟩, ⟨none, some 10, .mv (.t 30)⟩]))))))) (.seq (.reg [⟨none, some 31, .mv (.t 5)⟩, ⟨none, some 4, .mv (.t 31)⟩]) .ret))))
theorem ok89 : FnOk Try.prog 89 32 3 c89 [.t 4] := ⟨_, _, Try.func89, rfl, rfl, by kernel_rfl, by kernel_rfl⟩
theorem bd89 : bodied Try.prog 89 = true := by kernel_rfl

/-- (ferrule/seams.pulled).of -/
def c90 : CI := (.seq (.reg [⟨none, some 2, .box 0 true (.t 0)⟩, ⟨none, some 4, .mv (.c .nils)⟩]) (.seq (.reg [⟨none, some 5, .faddr 11 (.t 2)⟩, ⟨none,
 some 6, .load false 1 (.t 5)⟩, ⟨none, some 7, .faddr 0 (.t 2)⟩, ⟨none, some 8, .faddr 0 (.t 7)⟩, ⟨none, some 9, .faddr 0 (.t 8)⟩, ⟨none, some 10, .faddr
 1 (.t 9)⟩, ⟨none, some 11, .load false 1 (.t 10)⟩, ⟨none, some 12, .mv (.t 1)⟩, ⟨none, some 13, .iaddr 1 (.t 11) (.t 12)⟩, ⟨none, some 14, .load false
 1 (.t 13)⟩, ⟨none, some 15, .iaddr 1 (.t 6) (.t 14)⟩, ⟨none, some 16, .load false 1 (.t 15)⟩, ⟨none, some 4, .mv (.t 16)⟩]) .ret))
theorem ok90 : FnOk Try.prog 90 17 1 c90 [.t 4] := ⟨_, _, Try.func90, rfl, rfl, by kernel_rfl, by kernel_rfl⟩
theorem bd90 : bodied Try.prog 90 = true := by kernel_rfl

/-- (ferrule/seams.ring).at -/
def c91 : CI := (.seq (.reg [⟨none, some 2, .box 0 true (.t 0)⟩, ⟨none, some 4, .mv (.c (.int .i64 0))⟩]) (.seq (.reg [⟨none, some 5, .mv (.t 1)⟩, ⟨none,
 some 6, .faddr 0 (.t 2)⟩, ⟨none, some 7, .faddr 10 (.t 6)⟩, ⟨none, some 8, .load false 1 (.t 7)⟩, ⟨none, some 9, .len (.t 8)⟩, ⟨none, some 10, .bin .rem
 (.t 5) (.t 9)⟩, ⟨none, some 4, .mv (.t 10)⟩]) .ret))
theorem ok91 : FnOk Try.prog 91 11 1 c91 [.t 4] := ⟨_, _, Try.func91, rfl, rfl, by kernel_rfl, by kernel_rfl⟩
theorem bd91 : bodied Try.prog 91 = true := by kernel_rfl

/-- (ferrule/seams.ring).distance -/
def c92 : CI := (.seq (.reg [⟨none, some 3, .box 0 true (.t 0)⟩, ⟨none, some 6, .mv (.c (.int .i64 0))⟩]) (.seq (.reg [⟨none, some 8, .mv (.t 1)⟩, ⟨none,
 some 9, .mv (.t 2)⟩, ⟨none, some 10, .bin .sub (.t 8) (.t 9)⟩, ⟨none, some 11, .mv (.t 2)⟩, ⟨none, some 12, .mv (.t 1)⟩, ⟨none, some 13, .bin .sub (.t
 11) (.t 12)⟩, ⟨none, some 14, .mm true [(.t 10), (.t 13)]⟩, ⟨none, some 7, .mv (.t 14)⟩]) (.seq (.reg [⟨none, some 15, .mv (.t 7)⟩, ⟨none, some 16, .faddr
 0 (.t 3)⟩, ⟨none, some 17, .faddr 6 (.t 16)⟩, ⟨none, some 18, .load false 1 (.t 17)⟩, ⟨none, some 19, .mv (.t 7)⟩, ⟨none, some 20, .bin .sub (.t 18) (.t
 19)⟩, ⟨none, some 21, .mm false [(.t 15), (.t 20)]⟩, ⟨none, some 6, .mv (.t 21)⟩]) .ret)))
theorem ok92 : FnOk Try.prog 92 22 1 c92 [.t 6] := ⟨_, _, Try.func92, rfl, rfl, by kernel_rfl, by kernel_rfl⟩
theorem bd92 : bodied Try.prog 92 = true := by kernel_rfl

/-- (ferrule/seams.pulled).closes -/
def c93 : CI := (.seq (.reg [⟨none, some 2, .box 0 true (.t 0)⟩, ⟨none, some 4, .mv (.c (.bool false))⟩]) (.seq (.reg [⟨none, some 12, .mkm 1⟩, ⟨none,
 none, .mpu .int (.t 12) (.c (.int .i64 0)) (.c (.bool true)) []⟩, ⟨none, some 13, .mv (.t 12)⟩, ⟨none, some 5, .mv (.t 13)⟩]) (.seq (.seq (.reg [⟨none,
 some 14, .faddr 0 (.t 2)⟩, ⟨none, some 15, .faddr 0 (.t 14)⟩, ⟨none, some 16, .faddr 9 (.t 15)⟩, ⟨none, some 17, .load false 1 (.t 16)⟩, ⟨none, some 18,
 .len (.t 17)⟩, ⟨none, some 19, .mv (.c (.int .i64 0))⟩]) (.block 0 (.loop (.seq (.reg [⟨none, some 20, .bin .lss (.t 19) (.t 18)⟩]) (.seq (.cond (.t 20)
 .skip (.exit 0)) (.seq (.block 1 (.seq (.reg [⟨none, some 21, .mv (.t 19)⟩, ⟨none, some 6, .mv (.t 21)⟩]) (.seq (.reg [⟨none, some 22, .load true 12 (.t
 2)⟩, ⟨none, some 23, .mv (.t 6)⟩, ⟨none, some 24, .mv (.t 1)⟩, ⟨none, some 25, .callw 2 1 104 [(.t 22), (.t 23), (.t 24)]⟩, ⟨none, some 7, .mv (.t 25)⟩])
 (.seq (.reg [⟨none, some 26, .mkm 3⟩, ⟨none, some 8, .mv (.t 26)⟩]) (.seq (.seq (.reg [⟨none, some 27, .mv (.t 5)⟩, ⟨none, some 28, .mrg 4 (.t 27) []⟩])
 (.block 2 (.loop (.seq (.reg [⟨none, some 29, .mnx (.t 28)⟩, ⟨none, some 30, .extract 0 (.t 29)⟩]) (.seq (.cond (.t 30) .skip (.exit 2)) (.block 3 (.seq
 (.reg [⟨none, some 31, .men (.t 28)⟩, ⟨none, some 32, .extract 0 (.t 31)⟩, ⟨none, some 9, .mv (.t 32)⟩]) (.seq (.reg [⟨none, some 33, .mv (.t 7)⟩, ⟨none,
 some 34, .len (.t 33)⟩, ⟨none, some 35, .mv (.c (.int .i64 0))⟩]) (.block 4 (.loop (.seq (.reg [⟨none, some 36, .bin .lss (.t 35) (.t 34)⟩]) (.seq (.cond
 (.t 36) .skip (.exit 4)) (.seq (.block 5 (.seq (.reg [⟨none, some 37, .iaddr 1 (.t 33) (.t 35)⟩, ⟨none, some 38, .load false 1 (.t 37)⟩, ⟨none, some 11,
 .mv (.t 38)⟩]) (.reg [⟨none, some 39, .mv (.t 8)⟩, ⟨none, some 40, .mv (.t 9)⟩, ⟨none, some 41, .mv (.t 11)⟩, ⟨none, some 42, .bin .add (.t 40) (.t 41)⟩,
 ⟨none, some 43, .faddr 0 (.t 2)⟩, ⟨none, some 44, .faddr 0 (.t 43)⟩, ⟨none, some 45, .faddr 6 (.t 44)⟩, ⟨none, some 46, .load false 1 (.t 45)⟩, ⟨none,
 some 47, .bin .rem (.t 42) (.t 46)⟩, ⟨none, none, .mpu .int (.t 39) (.t 47) (.c (.bool true)) []⟩]))) (.reg [⟨none, some 48, .bin .add (.t 35) (.c (.int
 .i64 1))⟩, ⟨none, some 35, .mv (.t 48)⟩])))))))))))))) (.reg [⟨none, some 49, .mv (.t 8)⟩, ⟨none, some 5, .mv (.t 49)⟩])))))) (.reg [⟨none, some 50, .bin
 .add (.t 19) (.c (.int .i64 1))⟩, ⟨none, some 19, .mv (.t 50)⟩]))))))) (.seq (.reg [⟨none, some 51, .mv (.t 5)⟩, ⟨none, some 52, .lkp .int false (.bool
 false) (.t 51) (.c (.int .i64 0))⟩, ⟨none, some 4, .mv (.t 52)⟩]) .ret))))
theorem ok93 : FnOk Try.prog 93 53 5 c93 [.t 4] := ⟨_, _, Try.func93, rfl, rfl, by kernel_rfl, by kernel_rfl⟩
theorem bd93 : bodied Try.prog 93 = true := by kernel_rfl

/-- (ferrule/seams.ring).arcs -/
def c94 : CI := (.seq (.reg [⟨none, some 1, .box 0 true (.t 0)⟩, ⟨none, some 2, .mv (.c .nils)⟩]) (.seq (.reg [⟨none, some 6, .faddr 0 (.t 1)⟩, ⟨none,
 some 7, .faddr 10 (.t 6)⟩, ⟨none, some 8, .load false 1 (.t 7)⟩, ⟨none, some 9, .len (.t 8)⟩, ⟨none, some 10, .mks 1 107 2 16 [(.int .i64 0), (.int .i64
 0)] (.t 9) (.t 9)⟩, ⟨none, some 11, .bsl 2 108 1 [(.t 10)] []⟩, ⟨none, some 3, .mv (.t 11)⟩]) (.seq (.block 0 (.loop (.seq (.seq (.reg [⟨none, some 12,
 .mv (.t 3)⟩, ⟨none, some 13, .len (.t 12)⟩, ⟨none, some 14, .faddr 0 (.t 1)⟩, ⟨none, some 15, .faddr 10 (.t 14)⟩, ⟨none, some 16, .load false 1 (.t 15)⟩,
 ⟨none, some 17, .len (.t 16)⟩, ⟨none, some 18, .bin .lss (.t 13) (.t 17)⟩]) (.cond (.t 18) .skip (.exit 0))) (.block 1 (.seq (.reg [⟨none, some 19, .faddr
 0 (.t 1)⟩, ⟨none, some 20, .faddr 10 (.t 19)⟩, ⟨none, some 21, .load false 1 (.t 20)⟩, ⟨none, some 22, .len (.t 21)⟩, ⟨none, some 23, .mks 3 107 2 16 [(.int
 .i64 0), (.int .i64 0)] (.t 22) (.t 22)⟩, ⟨none, some 4, .mv (.t 23)⟩]) (.seq (.seq (.reg [⟨none, some 24, .mv (.t 4)⟩, ⟨none, some 25, .len (.t 24)⟩,
 ⟨none, some 26, .mv (.c (.int .i64 0))⟩]) (.block 2 (.loop (.seq (.reg [⟨none, some 27, .bin .lss (.t 26) (.t 25)⟩]) (.seq (.cond (.t 27) .skip (.exit
 2)) (.seq (.block 3 (.seq (.reg [⟨none, some 28, .mv (.t 26)⟩, ⟨none, some 5, .mv (.t 28)⟩]) (.reg [⟨none, some 29, .mv (.t 4)⟩, ⟨none, some 30, .mv (.t
 5)⟩, ⟨none, some 31, .load true 11 (.t 1)⟩, ⟨none, some 32, .mv (.t 3)⟩, ⟨none, some 33, .mv (.t 5)⟩, ⟨none, some 34, .call 115 [(.t 31), (.t 32), (.t
 33)]⟩, ⟨none, some 35, .iaddr 2 (.t 29) (.t 30)⟩, ⟨none, none, .store true 2 (.t 35) (.t 34) []⟩]))) (.reg [⟨none, some 36, .bin .add (.t 26) (.c (.int
 .i64 1))⟩, ⟨none, some 26, .mv (.t 36)⟩]))))))) (.reg [⟨none, some 37, .mv (.t 3)⟩, ⟨none, some 38, .mv (.t 4)⟩, ⟨none, some 39, .bsl 4 108 1 [(.t 38)]
 []⟩, ⟨none, some 40, .apd 5 108 1 24 (.t 37) (.t 39) []⟩, ⟨none, some 3, .mv (.t 40)⟩]))))))) (.seq (.reg [⟨none, some 41, .mv (.t 3)⟩, ⟨none, some 2,
 .mv (.t 41)⟩]) .ret))))
theorem ok94 : FnOk Try.prog 94 42 6 c94 [.t 2] := ⟨_, _, Try.func94, rfl, rfl, by kernel_rfl, by kernel_rfl⟩
theorem bd94 : bodied Try.prog 94 = true := by kernel_rfl

/-- (ferrule/seams.ring).plan$1 -/
def c95 : CI := (.seq (.seq (.reg [⟨none, some 10, .mv (.t 1)⟩, ⟨none, some 11, .bin .eql (.t 10) (.c (.int .i64 0))⟩]) (.cond (.t 11) .ret .skip)) (.seq
 (.reg [⟨none, some 12, .load false 1 (.t 2)⟩, ⟨none, some 13, .mv (.t 1)⟩, ⟨none, some 14, .iaddr 1 (.t 12) (.t 13)⟩, ⟨none, some 15, .load false 1 (.t
 14)⟩, ⟨none, some 16, .mv (.t 0)⟩, ⟨none, some 17, .iaddr 2 (.t 15) (.t 16)⟩, ⟨none, some 18, .load true 2 (.t 17)⟩, ⟨none, some 8, .alloc 0 [(.int .i64
 0), (.int .i64 0)]⟩, ⟨none, none, .store true 2 (.t 8) (.t 18) []⟩]) (.seq (.reg [⟨none, some 19, .load false 1 (.t 4)⟩, ⟨none, some 20, .faddr 1 (.t 8)⟩,
 ⟨none, some 21, .load false 1 (.t 20)⟩, ⟨none, some 22, .faddr 0 (.t 8)⟩, ⟨none, some 23, .load false 1 (.t 22)⟩, ⟨none, some 24, .faddr 0 (.t 3)⟩, ⟨none,
 some 25, .faddr 10 (.t 24)⟩, ⟨none, some 26, .load false 1 (.t 25)⟩, ⟨none, some 27, .faddr 1 (.t 8)⟩, ⟨none, some 28, .load false 1 (.t 27)⟩, ⟨none, some
 29, .iaddr 1 (.t 26) (.t 28)⟩, ⟨none, some 30, .load false 1 (.t 29)⟩, ⟨none, some 31, .bin .sub (.t 23) (.t 30)⟩, ⟨none, some 32, .iaddr 1 (.t 19) (.t
 21)⟩, ⟨none, none, .store false 1 (.t 32) (.t 31) []⟩]) (.seq (.reg [⟨none, some 33, .load true 11 (.t 3)⟩, ⟨none, some 34, .faddr 1 (.t 8)⟩, ⟨none, some
 35, .load false 1 (.t 34)⟩, ⟨none, some 36, .mv (.t 0)⟩, ⟨none, some 37, .bin .sub (.t 35) (.t 36)⟩, ⟨none, some 38, .faddr 0 (.t 3)⟩, ⟨none, some 39,
 .faddr 10 (.t 38)⟩, ⟨none, some 40, .load false 1 (.t 39)⟩, ⟨none, some 41, .len (.t 40)⟩, ⟨none, some 42, .bin .add (.t 37) (.t 41)⟩, ⟨none, some 43,
 .call 91 [(.t 33), (.t 42)]⟩, ⟨none, some 9, .mv (.t 43)⟩]) (.seq (.reg [⟨none, some 44, .load false 1 (.t 5)⟩, ⟨none, some 45, .mv (.t 0)⟩, ⟨none, some
 46, .mv (.t 9)⟩, ⟨none, some 47, .callx (.t 44) [(.t 45), (.t 46)]⟩]) (.reg [⟨none, some 48, .load false 1 (.t 5)⟩, ⟨none, some 49, .load true 11 (.t 3)⟩,
 ⟨none, some 50, .faddr 1 (.t 8)⟩, ⟨none, some 51, .load false 1 (.t 50)⟩, ⟨none, some 52, .bin .add (.t 51) (.c (.int .i64 1))⟩, ⟨none, some 54, .mv (.t
 1)⟩, ⟨none, some 55, .bin .sub (.t 54) (.c (.int .i64 1))⟩, ⟨none, some 56, .mv (.t 9)⟩, ⟨none, some 57, .bin .sub (.t 55) (.t 56)⟩, ⟨none, some 53, .call
 91 [(.t 49), (.t 52)]⟩, ⟨none, some 58, .callx (.t 48) [(.t 53), (.t 57)]⟩]))))))
theorem ok95 : FnOk Try.prog 95 59 1 c95 [] := ⟨_, _, Try.func95, rfl, rfl, by kernel_rfl, by kernel_rfl⟩
theorem bd95 : bodied Try.prog 95 = true := by kernel_rfl

/-- (ferrule/seams.ring).whole -/
def c96 : CI := (.seq (.reg [⟨none, some 2, .box 0 true (.t 0)⟩, ⟨none, some 4, .alloc 1 [(.int .i64 0), (.int .i64 0)]⟩]) (.seq (.reg [⟨none, some 10,
 .mv (.t 1)⟩, ⟨none, some 11, .mv (.t 1)⟩, ⟨none, some 12, .len (.t 11)⟩, ⟨none, some 13, .bin .sub (.t 12) (.c (.int .i64 1))⟩, ⟨none, some 14, .iaddr
 1 (.t 10) (.t 13)⟩, ⟨none, some 15, .load false 1 (.t 14)⟩, ⟨none, some 5, .mv (.t 15)⟩]) (.seq (.reg [⟨none, some 16, .build [(.int .i64 0), (.int .i64
 0)] [(0, 1, (.c (.int .i64 9223372036854775807)))]⟩, ⟨none, some 6, .alloc 2 [(.int .i64 0), (.int .i64 0)]⟩, ⟨none, none, .store true 2 (.t 6) (.t 16)
 []⟩]) (.seq (.seq (.reg [⟨none, some 17, .faddr 0 (.t 2)⟩, ⟨none, some 18, .faddr 10 (.t 17)⟩, ⟨none, some 19, .load false 1 (.t 18)⟩, ⟨none, some 20,
 .len (.t 19)⟩, ⟨none, some 21, .mv (.c (.int .i64 0))⟩]) (.block 0 (.loop (.seq (.reg [⟨none, some 22, .bin .lss (.t 21) (.t 20)⟩]) (.seq (.cond (.t 22)
 .skip (.exit 0)) (.seq (.block 1 (.seq (.reg [⟨none, some 23, .mv (.t 21)⟩, ⟨none, some 24, .iaddr 1 (.t 19) (.t 21)⟩, ⟨none, some 25, .load false 1 (.t
 24)⟩, ⟨none, some 7, .mv (.t 23)⟩, ⟨none, some 8, .mv (.t 25)⟩]) (.seq (.reg [⟨none, some 26, .mv (.t 5)⟩, ⟨none, some 27, .load true 11 (.t 2)⟩, ⟨none,
 some 28, .mv (.t 7)⟩, ⟨none, some 29, .bin .add (.t 28) (.c (.int .i64 1))⟩, ⟨none, some 30, .call 91 [(.t 27), (.t 29)]⟩, ⟨none, some 31, .iaddr 2 (.t
 26) (.t 30)⟩, ⟨none, some 32, .faddr 0 (.t 31)⟩, ⟨none, some 33, .load false 1 (.t 32)⟩, ⟨none, some 34, .mv (.t 8)⟩, ⟨none, some 35, .bin .add (.t 33)
 (.t 34)⟩, ⟨none, some 9, .mv (.t 35)⟩]) (.seq (.reg [⟨none, some 36, .mv (.t 9)⟩, ⟨none, some 37, .faddr 0 (.t 6)⟩, ⟨none, some 38, .load false 1 (.t 37)⟩,
 ⟨none, some 39, .bin .lss (.t 36) (.t 38)⟩]) (.cond (.t 39) (.reg [⟨none, some 40, .mv (.t 9)⟩, ⟨none, some 41, .mv (.t 7)⟩, ⟨none, some 42, .build [(.int
 .i64 0), (.int .i64 0)] [(0, 1, (.t 40)), (1, 1, (.t 41))]⟩, ⟨none, none, .store true 2 (.t 6) (.t 42) []⟩]) .skip))))) (.reg [⟨none, some 43, .bin .add
 (.t 21) (.c (.int .i64 1))⟩, ⟨none, some 21, .mv (.t 43)⟩]))))))) (.seq (.reg [⟨none, some 44, .load true 2 (.t 6)⟩, ⟨none, none, .store true 2 (.t 4)
 (.t 44) []⟩]) .ret)))))
theorem ok96 : FnOk Try.prog 96 45 3 c96 [.cell 4 true 2] := ⟨_, _, Try.func96, rfl, rfl, by kernel_rfl, by kernel_rfl⟩
theorem bd96 : bodied Try.prog 96 = true := by kernel_rfl

/-- ferrule/ferruleref02.isSpan -/
def c97 : CI := (.seq (.reg [⟨none, some 2, .box 0 true (.t 0)⟩, ⟨none, some 4, .mv (.c (.bool false))⟩]) (.seq (.reg [⟨none, some 5, .faddr 0 (.t 2)⟩,
 ⟨none, some 6, .load false 1 (.t 5)⟩, ⟨none, some 7, .bin .leq (.c (.int .i64 0)) (.t 6)⟩, ⟨none, some 8, .mv (.t 7)⟩, ⟨(some (8, true)), (some 9), .faddr
 0 (.t 2)⟩, ⟨(some (8, true)), (some 10), .load false 1 (.t 9)⟩, ⟨(some (8, true)), (some 11), .faddr 1 (.t 2)⟩, ⟨(some (8, true)), (some 12), .load false
 1 (.t 11)⟩, ⟨(some (8, true)), (some 13), .bin .leq (.t 10) (.t 12)⟩, ⟨none, some 14, .pick (.t 8) (.t 13) (.c (.bool false))⟩, ⟨none, some 15, .mv (.t
 14)⟩, ⟨(some (15, true)), (some 16), .faddr 1 (.t 2)⟩, ⟨(some (15, true)), (some 17), .load false 1 (.t 16)⟩, ⟨(some (15, true)), (some 18), .mv (.t 1)⟩,
 ⟨(some (15, true)), (some 19), .bin .leq (.t 17) (.t 18)⟩, ⟨none, some 20, .pick (.t 15) (.t 19) (.c (.bool false))⟩, ⟨none, some 4, .mv (.t 20)⟩]) .ret))
theorem ok97 : FnOk Try.prog 97 21 1 c97 [.t 4] := ⟨_, _, Try.func97, rfl, rfl, by kernel_rfl, by kernel_rfl⟩
theorem bd97 : bodied Try.prog 97 = true := by kernel_rfl

/-- ferrule/ferruleref02.isBolt -/
def c98 : CI := (.seq (.reg [⟨none, some 1, .box 0 true (.t 0)⟩, ⟨none, some 2, .mv (.c (.bool false))⟩]) (.seq (.seq (.reg [⟨none, some 4, .faddr 0 (.t
 1)⟩, ⟨none, some 5, .load true 2 (.t 4)⟩, ⟨none, some 6, .call 97 [(.t 5), (.c (.int .i64 60))]⟩, ⟨none, some 7, .un .not (.t 6)⟩, ⟨none, some 8, .mv (.t
 7)⟩, ⟨(some (8, false)), (some 9), .faddr 2 (.t 1)⟩, ⟨(some (8, false)), (some 10), .load false 1 (.t 9)⟩, ⟨(some (8, false)), (some 11), .len (.t 10)⟩,
 ⟨(some (8, false)), (some 12), .bin .gtr (.t 11) (.c (.int .i64 8))⟩, ⟨none, some 13, .pick (.t 8) (.c (.bool true)) (.t 12)⟩, ⟨none, some 14, .mv (.t
 13)⟩, ⟨(some (14, false)), (some 15), .faddr 3 (.t 1)⟩, ⟨(some (14, false)), (some 16), .load false 1 (.t 15)⟩, ⟨(some (14, false)), (some 17), .call 87
 [(.t 16), (.c (.int .i64 0)), (.c (.int .i64 2))]⟩, ⟨(some (14, false)), (some 18), .un .not (.t 17)⟩, ⟨none, some 19, .pick (.t 14) (.c (.bool true))
 (.t 18)⟩]) (.cond (.t 19) (.seq (.reg [⟨none, some 2, .mv (.c (.bool false))⟩]) .ret) .skip)) (.seq (.seq (.reg [⟨none, some 3, .mv (.c (.int .i64 0))⟩])
 (.block 0 (.loop (.seq (.seq (.reg [⟨none, some 20, .mv (.t 3)⟩, ⟨none, some 21, .faddr 2 (.t 1)⟩, ⟨none, some 22, .load false 1 (.t 21)⟩, ⟨none, some
 23, .len (.t 22)⟩, ⟨none, some 24, .bin .lss (.t 20) (.t 23)⟩]) (.cond (.t 24) .skip (.exit 0))) (.seq (.block 1 (.seq (.reg [⟨none, some 27, .faddr 2
 (.t 1)⟩, ⟨none, some 28, .load false 1 (.t 27)⟩, ⟨none, some 29, .mv (.t 3)⟩, ⟨none, some 30, .iaddr 3 (.t 28) (.t 29)⟩, ⟨none, some 31, .faddr 0 (.t 30)⟩,
 ⟨none, some 32, .load false 1 (.t 31)⟩, ⟨none, some 33, .call 87 [(.t 32), (.c (.int .i64 1)), (.c (.int .i64 2000))]⟩, ⟨none, some 34, .un .not (.t 33)⟩,
 ⟨none, some 35, .mv (.t 34)⟩, ⟨(some (35, false)), (some 36), .faddr 2 (.t 1)⟩, ⟨(some (35, false)), (some 37), .load false 1 (.t 36)⟩, ⟨(some (35, false)),
 (some 38), .mv (.t 3)⟩, ⟨(some (35, false)), (some 39), .iaddr 3 (.t 37) (.t 38)⟩, ⟨(some (35, false)), (some 40), .faddr 1 (.t 39)⟩, ⟨(some (35, false)),
 (some 41), .load true 2 (.t 40)⟩, ⟨(some (35, false)), (some 42), .call 97 [(.t 41), (.c (.int .i64 4000))]⟩, ⟨(some (35, false)), (some 43), .un .not
 (.t 42)⟩, ⟨none, some 44, .pick (.t 35) (.c (.bool true)) (.t 43)⟩]) (.cond (.t 44) (.seq (.reg [⟨none, some 2, .mv (.c (.bool false))⟩]) .ret) .skip)))
 (.reg [⟨none, some 25, .mv (.t 3)⟩, ⟨none, some 26, .bin .add (.t 25) (.c (.int .i64 1))⟩, ⟨none, some 3, .mv (.t 26)⟩])))))) (.seq (.reg [⟨none, some
 2, .mv (.c (.bool true))⟩]) .ret))))
theorem ok98 : FnOk Try.prog 98 45 1 c98 [.t 2] := ⟨_, _, Try.func98, rfl, rfl, by kernel_rfl, by kernel_rfl⟩
theorem bd98 : bodied Try.prog 98 = true := by kernel_rfl

/-- ferrule/cloth.validDome -/
def c99 : CI := (.seq (.reg [⟨none, some 1, .box 0 true (.t 0)⟩, ⟨none, some 2, .mv (.c (.bool false))⟩]) (.seq (.reg [⟨none, some 3, .faddr 0 (.t 1)⟩,
 ⟨none, some 4, .load false 1 (.t 3)⟩, ⟨none, some 5, .len (.t 4)⟩, ⟨none, some 6, .call 116 [(.t 5), (.c (.int .i64 1)), (.c (.int .i64 4))]⟩, ⟨none, some
 7, .mv (.t 6)⟩, ⟨(some (7, true)), (some 8), .faddr 1 (.t 1)⟩, ⟨(some (7, true)), (some 9), .load false 1 (.t 8)⟩, ⟨(some (7, true)), (some 10), .len (.t
 9)⟩, ⟨(some (7, true)), (some 11), .call 116 [(.t 10), (.c (.int .i64 3)), (.c (.int .i64 16))]⟩, ⟨none, some 12, .pick (.t 7) (.t 11) (.c (.bool false))⟩,
 ⟨none, some 13, .mv (.t 12)⟩, ⟨(some (13, true)), (some 14), .faddr 1 (.t 1)⟩, ⟨(some (13, true)), (some 15), .load false 1 (.t 14)⟩, ⟨(some (13, true)),
 (some 16), .mkfn 118 [(.t 1)]⟩, ⟨(some (13, true)), (some 17), .call 117 [(.t 15), (.t 16)]⟩, ⟨none, some 18, .pick (.t 13) (.t 17) (.c (.bool false))⟩,
 ⟨none, some 19, .mv (.t 18)⟩, ⟨(some (19, true)), (some 20), .faddr 2 (.t 1)⟩, ⟨(some (19, true)), (some 21), .load false 1 (.t 20)⟩, ⟨(some (19, true)),
 (some 22), .call 116 [(.t 21), (.c (.int .i64 0)), (.c (.int .i64 20))]⟩, ⟨none, some 23, .pick (.t 19) (.t 22) (.c (.bool false))⟩, ⟨none, some 24, .mv
 (.t 23)⟩, ⟨(some (24, true)), (some 25), .faddr 3 (.t 1)⟩, ⟨(some (24, true)), (some 26), .load false 1 (.t 25)⟩, ⟨(some (24, true)), (some 27), .len (.t
 26)⟩, ⟨(some (24, true)), (some 28), .call 116 [(.t 27), (.c (.int .i64 1)), (.c (.int .i64 12))]⟩, ⟨none, some 29, .pick (.t 24) (.t 28) (.c (.bool false))⟩,
 ⟨none, some 30, .mv (.t 29)⟩, ⟨(some (30, true)), (some 31), .faddr 3 (.t 1)⟩, ⟨(some (30, true)), (some 32), .load false 1 (.t 31)⟩, ⟨(some (30, true)),
 (some 33), .call 120 [(.t 32), (.c (.fn 121 []))]⟩, ⟨none, some 34, .pick (.t 30) (.t 33) (.c (.bool false))⟩, ⟨none, some 35, .mv (.t 34)⟩, ⟨(some (35,
 true)), (some 36), .faddr 4 (.t 1)⟩, ⟨(some (35, true)), (some 37), .load false 1 (.t 36)⟩, ⟨(some (35, true)), (some 38), .len (.t 37)⟩, ⟨(some (35, true)),
 (some 39), .faddr 3 (.t 1)⟩, ⟨(some (35, true)), (some 40), .load false 1 (.t 39)⟩, ⟨(some (35, true)), (some 41), .len (.t 40)⟩, ⟨(some (35, true)), (some
 42), .bin .eql (.t 38) (.t 41)⟩, ⟨none, some 43, .pick (.t 35) (.t 42) (.c (.bool false))⟩, ⟨none, some 44, .mv (.t 43)⟩, ⟨(some (44, true)), (some 45),
 .faddr 4 (.t 1)⟩, ⟨(some (44, true)), (some 46), .load false 1 (.t 45)⟩, ⟨(some (44, true)), (some 47), .mkfn 123 [(.t 1)]⟩, ⟨(some (44, true)), (some
 48), .call 117 [(.t 46), (.t 47)]⟩, ⟨none, some 49, .pick (.t 44) (.t 48) (.c (.bool false))⟩, ⟨none, some 50, .mv (.t 49)⟩, ⟨(some (50, true)), (some
 51), .faddr 5 (.t 1)⟩, ⟨(some (50, true)), (some 52), .load false 1 (.t 51)⟩, ⟨(some (50, true)), (some 53), .call 116 [(.t 52), (.c (.int .i64 0)), (.c
 (.int .i64 500))]⟩, ⟨none, some 54, .pick (.t 50) (.t 53) (.c (.bool false))⟩, ⟨none, some 2, .mv (.t 54)⟩]) .ret))
theorem ok99 : FnOk Try.prog 99 55 1 c99 [.t 2] := ⟨_, _, Try.func99, rfl, rfl, by kernel_rfl, by kernel_rfl⟩
theorem bd99 : bodied Try.prog 99 = true := by kernel_rfl

/-- ferrule/cloth.each[ferrule/api.Bolt] -/
def c100 : CI := (.seq (.reg [⟨none, some 4, .mv (.c (.bool false))⟩]) (.seq (.seq (.reg [⟨none, some 7, .mv (.t 0)⟩, ⟨none, some 8, .len (.t 7)⟩, ⟨none,
 some 9, .mv (.c (.int .i64 0))⟩]) (.block 0 (.loop (.seq (.reg [⟨none, some 10, .bin .lss (.t 9) (.t 8)⟩]) (.seq (.cond (.t 10) .skip (.exit 0)) (.seq
 (.block 1 (.seq (.reg [⟨none, some 11, .iaddr 4 (.t 7) (.t 9)⟩, ⟨none, some 12, .load true 4 (.t 11)⟩, ⟨none, some 6, .alloc 0 [(.int .i64 0), (.int .i64
 0), .nils, (.int .i64 0)]⟩, ⟨none, none, .stz true 4 (.t 6) (.t 12) []⟩]) (.seq (.reg [⟨none, some 13, .mv (.t 1)⟩, ⟨none, some 14, .load true 4 (.t 6)⟩,
 ⟨none, some 15, .callx (.t 13) [(.t 14)]⟩, ⟨none, some 16, .un .not (.t 15)⟩]) (.cond (.t 16) (.seq (.reg [⟨none, some 4, .mv (.c (.bool false))⟩]) .ret)
 .skip)))) (.reg [⟨none, some 17, .bin .add (.t 9) (.c (.int .i64 1))⟩, ⟨none, some 9, .mv (.t 17)⟩]))))))) (.seq (.reg [⟨none, some 4, .mv (.c (.bool true))⟩])
 .ret)))
theorem ok100 : FnOk Try.prog 100 18 1 c100 [.t 4] := ⟨_, _, Try.func100, rfl, rfl, by kernel_rfl, by kernel_rfl⟩
theorem bd100 : bodied Try.prog 100 = true := by kernel_rfl

/-- ferrule/cloth.validBolt -/
def c101 : CI := (.seq (.reg [⟨none, some 1, .box 0 true (.t 0)⟩, ⟨none, some 2, .mv (.c (.bool false))⟩]) (.seq (.reg [⟨none, some 3, .faddr 0 (.t 1)⟩,
 ⟨none, some 4, .load true 2 (.t 3)⟩, ⟨none, some 5, .call 122 [(.t 4), (.c (.int .i64 60))]⟩, ⟨none, some 6, .mv (.t 5)⟩, ⟨(some (6, true)), (some 7),
 .faddr 2 (.t 1)⟩, ⟨(some (6, true)), (some 8), .load false 1 (.t 7)⟩, ⟨(some (6, true)), (some 9), .len (.t 8)⟩, ⟨(some (6, true)), (some 10), .bin .leq
 (.t 9) (.c (.int .i64 8))⟩, ⟨none, some 11, .pick (.t 6) (.t 10) (.c (.bool false))⟩, ⟨none, some 12, .mv (.t 11)⟩, ⟨(some (12, true)), (some 13), .faddr
 2 (.t 1)⟩, ⟨(some (12, true)), (some 14), .load false 1 (.t 13)⟩, ⟨(some (12, true)), (some 15), .call 124 [(.t 14), (.c (.fn 125 []))]⟩, ⟨none, some 16,
 .pick (.t 12) (.t 15) (.c (.bool false))⟩, ⟨none, some 17, .mv (.t 16)⟩, ⟨(some (17, true)), (some 18), .faddr 3 (.t 1)⟩, ⟨(some (17, true)), (some 19),
 .load false 1 (.t 18)⟩, ⟨(some (17, true)), (some 20), .call 116 [(.t 19), (.c (.int .i64 0)), (.c (.int .i64 2))]⟩, ⟨none, some 21, .pick (.t 17) (.t
 20) (.c (.bool false))⟩, ⟨none, some 2, .mv (.t 21)⟩]) .ret))
theorem ok101 : FnOk Try.prog 101 22 1 c101 [.t 2] := ⟨_, _, Try.func101, rfl, rfl, by kernel_rfl, by kernel_rfl⟩
theorem bd101 : bodied Try.prog 101 = true := by kernel_rfl

/-- ferrule/seams.eachWithin -/
def c102 : CI := (.seq (.reg [⟨none, some 4, .box 0 false (.t 1)⟩, ⟨none, some 5, .box 1 false (.t 2)⟩, ⟨none, some 6, .mv (.c (.bool false))⟩]) (.seq
 (.reg [⟨none, some 7, .mv (.t 0)⟩, ⟨none, some 8, .mkfn 127 [(.t 4), (.t 5)]⟩, ⟨none, some 9, .call 126 [(.t 7), (.t 8)]⟩, ⟨none, some 10, .un .not (.t
 9)⟩, ⟨none, some 6, .mv (.t 10)⟩]) .ret))
theorem ok102 : FnOk Try.prog 102 11 2 c102 [.t 6] := ⟨_, _, Try.func102, rfl, rfl, by kernel_rfl, by kernel_rfl⟩
theorem bd102 : bodied Try.prog 102 = true := by kernel_rfl

/-- (ferrule/seams.pulled).steps -/
def c104 : CI := (.seq (.reg [⟨none, some 3, .box 0 true (.t 0)⟩, ⟨none, some 6, .mv (.c .nils)⟩]) (.seq (.reg [⟨none, some 7, .mv (.c .nils)⟩]) (.seq
 (.seq (.reg [⟨none, some 9, .faddr 0 (.t 3)⟩, ⟨none, some 10, .faddr 0 (.t 9)⟩, ⟨none, some 11, .faddr 6 (.t 10)⟩, ⟨none, some 12, .load false 1 (.t 11)⟩,
 ⟨none, some 13, .mv (.c (.int .i64 0))⟩]) (.block 0 (.loop (.seq (.reg [⟨none, some 14, .bin .lss (.t 13) (.t 12)⟩]) (.seq (.cond (.t 14) .skip (.exit
 0)) (.seq (.block 1 (.seq (.reg [⟨none, some 15, .mv (.t 13)⟩, ⟨none, some 8, .mv (.t 15)⟩]) (.seq (.reg [⟨none, some 16, .load true 12 (.t 3)⟩, ⟨none,
 some 17, .mv (.t 8)⟩, ⟨none, some 18, .load true 12 (.t 3)⟩, ⟨none, some 19, .mv (.t 1)⟩, ⟨none, some 21, .mv (.t 2)⟩, ⟨none, some 20, .callz 1 1 90 [(.t
 18), (.t 19)] []⟩, ⟨none, some 22, .call 128 [(.t 16), (.t 17), (.t 20), (.t 21)]⟩]) (.cond (.t 22) (.reg [⟨none, some 23, .mv (.t 7)⟩, ⟨none, some 24,
 .mv (.t 8)⟩, ⟨none, some 25, .bsl 2 3 1 [(.t 24)] []⟩, ⟨none, some 26, .apd 3 3 1 8 (.t 23) (.t 25) []⟩, ⟨none, some 7, .mv (.t 26)⟩]) .skip)))) (.reg
 [⟨none, some 27, .bin .add (.t 13) (.c (.int .i64 1))⟩, ⟨none, some 13, .mv (.t 27)⟩]))))))) (.seq (.reg [⟨none, some 28, .mv (.t 7)⟩, ⟨none, some 6, .mv
 (.t 28)⟩]) .ret))))
theorem ok104 : FnOk Try.prog 104 29 4 c104 [.t 6] := ⟨_, _, Try.func104, rfl, rfl, by kernel_rfl, by kernel_rfl⟩
theorem bd104 : bodied Try.prog 104 = true := by kernel_rfl

/-- (ferrule/seams.pulled).around -/
def c105 : CI := (.seq (.reg [⟨none, some 4, .box 0 true (.t 0)⟩, ⟨none, some 8, .alloc 1 [.nils, (.int .i64 0)]⟩, ⟨none, some 9, .mv (.c (.bool false))⟩])
 (.seq (.reg [⟨none, some 14, .mkm 2⟩, ⟨none, some 15, .mv (.t 1)⟩, ⟨none, some 16, .build [.nils, (.int .i64 0)] []⟩, ⟨none, none, .mpu .int (.t 14) (.t
 15) (.t 16) []⟩, ⟨none, some 17, .mv (.t 14)⟩, ⟨none, some 10, .mv (.t 17)⟩]) (.seq (.seq (.reg [⟨none, some 18, .faddr 0 (.t 4)⟩, ⟨none, some 19, .faddr
 0 (.t 18)⟩, ⟨none, some 20, .faddr 9 (.t 19)⟩, ⟨none, some 21, .load false 1 (.t 20)⟩, ⟨none, some 22, .len (.t 21)⟩, ⟨none, some 23, .mv (.c (.int .i64
 0))⟩]) (.block 0 (.loop (.seq (.reg [⟨none, some 24, .bin .lss (.t 23) (.t 22)⟩]) (.seq (.cond (.t 24) .skip (.exit 0)) (.seq (.block 1 (.seq (.reg [⟨none,
 some 25, .mv (.t 23)⟩, ⟨none, some 11, .mv (.t 25)⟩]) (.reg [⟨none, some 26, .load true 12 (.t 4)⟩, ⟨none, some 27, .mv (.t 10)⟩, ⟨none, some 28, .mv (.t
 2)⟩, ⟨none, some 29, .mv (.t 11)⟩, ⟨none, some 30, .iaddr 1 (.t 28) (.t 29)⟩, ⟨none, some 31, .load false 1 (.t 30)⟩, ⟨none, some 32, .mv (.t 3)⟩, ⟨none,
 some 33, .callz 3 0 129 [(.t 26), (.t 27), (.t 31), (.t 32)] []⟩, ⟨none, some 10, .mv (.t 33)⟩]))) (.reg [⟨none, some 34, .bin .add (.t 23) (.c (.int .i64
 1))⟩, ⟨none, some 23, .mv (.t 34)⟩]))))))) (.seq (.reg [⟨none, some 36, .mv (.t 10)⟩, ⟨none, some 37, .mv (.t 1)⟩, ⟨none, some 38, .lkp .int true (.agg
 [.nils, (.int .i64 0)]) (.t 36) (.t 37)⟩, ⟨none, some 35, .mv (.t 38)⟩, ⟨none, some 39, .extract 0 (.t 35)⟩, ⟨none, some 40, .extract 1 (.t 35)⟩, ⟨none,
 some 12, .alloc 3 [.nils, (.int .i64 0)]⟩, ⟨none, none, .stz true 2 (.t 12) (.t 39) []⟩, ⟨none, some 13, .mv (.t 40)⟩]) (.seq (.reg [⟨none, some 41, .load
 true 2 (.t 12)⟩, ⟨none, some 42, .mv (.t 13)⟩, ⟨none, none, .stz true 2 (.t 8) (.t 41) []⟩, ⟨none, some 9, .mv (.t 42)⟩]) .ret)))))
theorem ok105 : FnOk Try.prog 105 43 4 c105 [.cell 8 true 2, .t 9] := ⟨_, _, Try.func105, rfl, rfl, by kernel_rfl, by kernel_rfl⟩
theorem bd105 : bodied Try.prog 105 = true := by kernel_rfl

/-- ferrule/cloth.stretched -/
def c106 : CI := (.seq (.reg [⟨none, some 1, .box 0 true (.t 0)⟩, ⟨none, some 2, .alloc 1 [.nils, .nils, (.int .i64 0), .nils, .nils, (.int .i64 0), .nils]⟩,
 ⟨none, some 3, .mv (.c (.int .i64 0))⟩]) (.seq (.reg [⟨none, some 8, .load true 6 (.t 1)⟩, ⟨none, some 9, .build [.nils, .nils, (.int .i64 0), .nils, .nils,
 (.int .i64 0), .nils] [(0, 6, (.t 8))]⟩, ⟨none, some 4, .alloc 2 [.nils, .nils, (.int .i64 0), .nils, .nils, (.int .i64 0), .nils]⟩, ⟨none, none, .stz
 true 7 (.t 4) (.t 9) []⟩]) (.seq (.seq (.reg [⟨none, some 10, .faddr 0 (.t 1)⟩, ⟨none, some 11, .load false 1 (.t 10)⟩, ⟨none, some 12, .len (.t 11)⟩,
 ⟨none, some 13, .mv (.c (.int .i64 0))⟩]) (.block 0 (.loop (.seq (.reg [⟨none, some 14, .bin .lss (.t 13) (.t 12)⟩]) (.seq (.cond (.t 14) .skip (.exit
 0)) (.seq (.block 1 (.seq (.reg [⟨none, some 15, .iaddr 4 (.t 11) (.t 13)⟩, ⟨none, some 16, .load true 4 (.t 15)⟩, ⟨none, some 6, .alloc 3 [(.int .i64
 0), (.int .i64 0), .nils, (.int .i64 0)]⟩, ⟨none, none, .stz true 4 (.t 6) (.t 16) []⟩]) (.seq (.reg [⟨none, some 17, .load true 4 (.t 6)⟩, ⟨none, some
 18, .callw 4 0 131 [(.t 17)]⟩, ⟨none, some 19, .callw 4 1 130 [(.t 18)]⟩, ⟨none, some 7, .mv (.t 19)⟩]) (.seq (.seq (.reg [⟨none, some 20, .mv (.t 7)⟩,
 ⟨none, some 21, .len (.t 20)⟩, ⟨none, some 22, .bin .eql (.t 21) (.c (.int .i64 0))⟩]) (.cond (.t 22) (.seq (.reg [⟨none, some 23, .build [.nils, .nils,
 (.int .i64 0), .nils, .nils, (.int .i64 0), .nils] []⟩, ⟨none, none, .stz true 7 (.t 2) (.t 23) []⟩, ⟨none, some 3, .mv (.c (.int .i64 3))⟩]) .ret) .skip))
 (.reg [⟨none, some 24, .faddr 6 (.t 4)⟩, ⟨none, some 25, .load false 1 (.t 24)⟩, ⟨none, some 26, .mv (.t 7)⟩, ⟨none, some 27, .bsl 5 23 1 [(.t 26)] []⟩,
 ⟨none, some 28, .apd 6 23 1 24 (.t 25) (.t 27) []⟩, ⟨none, some 29, .faddr 6 (.t 4)⟩, ⟨none, none, .stz false 1 (.t 29) (.t 28) []⟩]))))) (.reg [⟨none,
 some 30, .bin .add (.t 13) (.c (.int .i64 1))⟩, ⟨none, some 13, .mv (.t 30)⟩]))))))) (.seq (.reg [⟨none, some 31, .load true 7 (.t 4)⟩, ⟨none, none, .stz
 true 7 (.t 2) (.t 31) []⟩, ⟨none, some 3, .mv (.c (.int .i64 0))⟩]) .ret))))
theorem ok106 : FnOk Try.prog 106 32 7 c106 [.cell 2 true 7, .t 3] := ⟨_, _, Try.func106, rfl, rfl, by kernel_rfl, by kernel_rfl⟩
theorem bd106 : bodied Try.prog 106 = true := by kernel_rfl

/-- ferrule/cloth.in -/
def c107 : CI := (.seq (.reg [⟨none, some 2, .box 0 true (.t 0)⟩, ⟨none, some 4, .mv (.c (.bool false))⟩]) (.seq (.reg [⟨none, some 5, .mv (.t 1)⟩, ⟨none,
 some 6, .faddr 0 (.t 2)⟩, ⟨none, some 7, .load false 1 (.t 6)⟩, ⟨none, some 8, .faddr 1 (.t 2)⟩, ⟨none, some 9, .load false 1 (.t 8)⟩, ⟨none, some 10,
 .call 116 [(.t 5), (.t 7), (.t 9)]⟩, ⟨none, some 4, .mv (.t 10)⟩]) .ret))
theorem ok107 : FnOk Try.prog 107 11 1 c107 [.t 4] := ⟨_, _, Try.func107, rfl, rfl, by kernel_rfl, by kernel_rfl⟩
theorem bd107 : bodied Try.prog 107 = true := by kernel_rfl

/-- ferrule/cloth.checkAt[ferrule/api.Bolt] -/
def c108 : CI := (.seq (.reg [⟨none, some 3, .box 0 true (.t 0)⟩, ⟨none, some 6, .mv (.c (.int .i64 0))⟩]) (.seq (.seq (.reg [⟨none, some 8, .load true
 6 (.t 3)⟩, ⟨none, some 9, .call 72 [(.t 8)]⟩, ⟨none, some 7, .mv (.t 9)⟩]) (.seq (.reg [⟨none, some 10, .mv (.t 7)⟩, ⟨none, some 11, .bin .neq (.t 10)
 (.c (.int .i64 0))⟩]) (.cond (.t 11) (.seq (.reg [⟨none, some 12, .mv (.t 7)⟩, ⟨none, some 6, .mv (.t 12)⟩]) .ret) .skip))) (.seq (.seq (.reg [⟨none, some
 13, .mv (.t 1)⟩, ⟨none, some 14, .mv (.t 2)⟩, ⟨none, some 15, .call 119 [(.t 13), (.t 14)]⟩, ⟨none, some 16, .un .not (.t 15)⟩]) (.cond (.t 16) (.seq (.reg
 [⟨none, some 6, .mv (.c (.int .i64 1))⟩]) .ret) .skip)) (.seq (.reg [⟨none, some 6, .mv (.c (.int .i64 0))⟩]) .ret))))
theorem ok108 : FnOk Try.prog 108 17 1 c108 [.t 6] := ⟨_, _, Try.func108, rfl, rfl, by kernel_rfl, by kernel_rfl⟩
theorem bd108 : bodied Try.prog 108 = true := by kernel_rfl

/-- (ferrule/seams.ring).soonest -/
def c115 : CI := (.seq (.reg [⟨none, some 3, .box 0 true (.t 0)⟩, ⟨none, some 6, .alloc 1 [(.int .i64 0), (.int .i64 0)]⟩]) (.seq (.reg [⟨none, some 12,
 .build [(.int .i64 0), (.int .i64 0)] [(0, 1, (.c (.int .i64 9223372036854775807)))]⟩, ⟨none, some 7, .alloc 2 [(.int .i64 0), (.int .i64 0)]⟩, ⟨none,
 none, .store true 2 (.t 7) (.t 12) []⟩]) (.seq (.seq (.reg [⟨none, some 13, .mv (.t 1)⟩, ⟨none, some 14, .len (.t 13)⟩, ⟨none, some 15, .mv (.c (.int .i64
 0))⟩]) (.block 0 (.loop (.seq (.reg [⟨none, some 16, .bin .lss (.t 15) (.t 14)⟩]) (.seq (.cond (.t 16) .skip (.exit 0)) (.seq (.block 1 (.seq (.reg [⟨none,
 some 17, .mv (.t 15)⟩, ⟨none, some 8, .mv (.t 17)⟩]) (.seq (.reg [⟨none, some 18, .load true 11 (.t 3)⟩, ⟨none, some 19, .mv (.t 2)⟩, ⟨none, some 20, .mv
 (.t 8)⟩, ⟨none, some 21, .bin .add (.t 19) (.t 20)⟩, ⟨none, some 22, .call 91 [(.t 18), (.t 21)]⟩, ⟨none, some 9, .mv (.t 22)⟩]) (.seq (.reg [⟨none, some
 23, .mv (.t 1)⟩, ⟨none, some 24, .mv (.t 1)⟩, ⟨none, some 25, .len (.t 24)⟩, ⟨none, some 26, .bin .sub (.t 25) (.c (.int .i64 1))⟩, ⟨none, some 27, .mv
 (.t 8)⟩, ⟨none, some 28, .bin .sub (.t 26) (.t 27)⟩, ⟨none, some 29, .iaddr 1 (.t 23) (.t 28)⟩, ⟨none, some 30, .load false 1 (.t 29)⟩, ⟨none, some 31,
 .load true 11 (.t 3)⟩, ⟨none, some 32, .mv (.t 9)⟩, ⟨none, some 33, .bin .add (.t 32) (.c (.int .i64 1))⟩, ⟨none, some 10, .alloc 3 [(.int .i64 0), (.int
 .i64 0)]⟩, ⟨none, some 34, .call 91 [(.t 31), (.t 33)]⟩, ⟨none, some 35, .iaddr 2 (.t 30) (.t 34)⟩, ⟨none, some 36, .load true 2 (.t 35)⟩, ⟨none, none,
 .store true 2 (.t 10) (.t 36) []⟩]) (.seq (.reg [⟨none, some 37, .mv (.t 1)⟩, ⟨none, some 38, .mv (.t 8)⟩, ⟨none, some 39, .iaddr 1 (.t 37) (.t 38)⟩, ⟨none,
 some 40, .load false 1 (.t 39)⟩, ⟨none, some 41, .mv (.t 2)⟩, ⟨none, some 42, .iaddr 2 (.t 40) (.t 41)⟩, ⟨none, some 43, .faddr 0 (.t 42)⟩, ⟨none, some
 44, .load false 1 (.t 43)⟩, ⟨none, some 45, .faddr 0 (.t 10)⟩, ⟨none, some 46, .load false 1 (.t 45)⟩, ⟨none, some 47, .mm true [(.t 44), (.t 46)]⟩, ⟨none,
 some 48, .faddr 0 (.t 3)⟩, ⟨none, some 49, .faddr 10 (.t 48)⟩, ⟨none, some 50, .load false 1 (.t 49)⟩, ⟨none, some 51, .mv (.t 9)⟩, ⟨none, some 52, .iaddr
 1 (.t 50) (.t 51)⟩, ⟨none, some 53, .load false 1 (.t 52)⟩, ⟨none, some 54, .bin .add (.t 47) (.t 53)⟩, ⟨none, some 11, .mv (.t 54)⟩]) (.seq (.reg [⟨none,
 some 55, .mv (.t 11)⟩, ⟨none, some 56, .faddr 0 (.t 7)⟩, ⟨none, some 57, .load false 1 (.t 56)⟩, ⟨none, some 58, .bin .lss (.t 55) (.t 57)⟩]) (.cond (.t
 58) (.reg [⟨none, some 59, .mv (.t 11)⟩, ⟨none, some 60, .mv (.t 9)⟩, ⟨none, some 61, .build [(.int .i64 0), (.int .i64 0)] [(0, 1, (.t 59)), (1, 1, (.t
 60))]⟩, ⟨none, none, .store true 2 (.t 7) (.t 61) []⟩]) .skip))))))) (.reg [⟨none, some 62, .bin .add (.t 15) (.c (.int .i64 1))⟩, ⟨none, some 15, .mv
 (.t 62)⟩]))))))) (.seq (.reg [⟨none, some 63, .load true 2 (.t 7)⟩, ⟨none, none, .store true 2 (.t 6) (.t 63) []⟩]) .ret))))
theorem ok115 : FnOk Try.prog 115 64 4 c115 [.cell 6 true 2] := ⟨_, _, Try.func115, rfl, rfl, by kernel_rfl, by kernel_rfl⟩
theorem bd115 : bodied Try.prog 115 = true := by kernel_rfl

/-- ferrule/cloth.within -/
def c116 : CI := (.seq (.reg [⟨none, some 6, .mv (.c (.bool false))⟩]) (.seq (.reg [⟨none, some 7, .mv (.t 1)⟩, ⟨none, some 8, .mv (.t 0)⟩, ⟨none, some
 9, .bin .leq (.t 7) (.t 8)⟩, ⟨none, some 10, .mv (.t 9)⟩, ⟨(some (10, true)), (some 11), .mv (.t 0)⟩, ⟨(some (10, true)), (some 12), .mv (.t 2)⟩, ⟨(some
 (10, true)), (some 13), .bin .leq (.t 11) (.t 12)⟩, ⟨none, some 14, .pick (.t 10) (.t 13) (.c (.bool false))⟩, ⟨none, some 6, .mv (.t 14)⟩]) .ret))
theorem ok116 : FnOk Try.prog 116 15 0 c116 [.t 6] := ⟨_, _, Try.func116, rfl, rfl, by kernel_rfl, by kernel_rfl⟩
theorem bd116 : bodied Try.prog 116 = true := by kernel_rfl

/-- ferrule/cloth.each[int] -/
def c117 : CI := (.seq (.reg [⟨none, some 4, .mv (.c (.bool false))⟩]) (.seq (.seq (.reg [⟨none, some 7, .mv (.t 0)⟩, ⟨none, some 8, .len (.t 7)⟩, ⟨none,
 some 9, .mv (.c (.int .i64 0))⟩]) (.block 0 (.loop (.seq (.reg [⟨none, some 10, .bin .lss (.t 9) (.t 8)⟩]) (.seq (.cond (.t 10) .skip (.exit 0)) (.seq
 (.block 1 (.seq (.reg [⟨none, some 11, .iaddr 1 (.t 7) (.t 9)⟩, ⟨none, some 12, .load false 1 (.t 11)⟩, ⟨none, some 6, .mv (.t 12)⟩]) (.seq (.reg [⟨none,
 some 13, .mv (.t 1)⟩, ⟨none, some 14, .mv (.t 6)⟩, ⟨none, some 15, .callx (.t 13) [(.t 14)]⟩, ⟨none, some 16, .un .not (.t 15)⟩]) (.cond (.t 16) (.seq
 (.reg [⟨none, some 4, .mv (.c (.bool false))⟩]) .ret) .skip)))) (.reg [⟨none, some 17, .bin .add (.t 9) (.c (.int .i64 1))⟩, ⟨none, some 9, .mv (.t 17)⟩])))))))
 (.seq (.reg [⟨none, some 4, .mv (.c (.bool true))⟩]) .ret)))
theorem ok117 : FnOk Try.prog 117 18 0 c117 [.t 4] := ⟨_, _, Try.func117, rfl, rfl, by kernel_rfl, by kernel_rfl⟩
theorem bd117 : bodied Try.prog 117 = true := by kernel_rfl

/-- ferrule/cloth.validDome$1 -/
def c118 : CI := (.seq (.reg [⟨none, some 3, .mv (.c (.bool false))⟩]) (.seq (.reg [⟨none, some 4, .faddr 0 (.t 1)⟩, ⟨none, some 5, .load false 1 (.t 4)⟩,
 ⟨none, some 6, .mv (.t 0)⟩, ⟨none, some 7, .call 119 [(.t 5), (.t 6)]⟩, ⟨none, some 3, .mv (.t 7)⟩]) .ret))
theorem ok118 : FnOk Try.prog 118 8 0 c118 [.t 3] := ⟨_, _, Try.func118, rfl, rfl, by kernel_rfl, by kernel_rfl⟩
theorem bd118 : bodied Try.prog 118 = true := by kernel_rfl

/-- ferrule/cloth.isNumber[ferrule/api.Bolt] -/
def c119 : CI := (.seq (.reg [⟨none, some 4, .mv (.c (.bool false))⟩]) (.seq (.reg [⟨none, some 5, .mv (.t 1)⟩, ⟨none, some 6, .mv (.t 0)⟩, ⟨none, some
 7, .len (.t 6)⟩, ⟨none, some 8, .bin .sub (.t 7) (.c (.int .i64 1))⟩, ⟨none, some 9, .call 116 [(.t 5), (.c (.int .i64 0)), (.t 8)]⟩, ⟨none, some 4, .mv
 (.t 9)⟩]) .ret))
theorem ok119 : FnOk Try.prog 119 10 0 c119 [.t 4] := ⟨_, _, Try.func119, rfl, rfl, by kernel_rfl, by kernel_rfl⟩
theorem bd119 : bodied Try.prog 119 = true := by kernel_rfl

/-- ferrule/cloth.each[ferrule/api.Span] -/
def c120 : CI := (.seq (.reg [⟨none, some 4, .mv (.c (.bool false))⟩]) (.seq (.seq (.reg [⟨none, some 7, .mv (.t 0)⟩, ⟨none, some 8, .len (.t 7)⟩, ⟨none,
 some 9, .mv (.c (.int .i64 0))⟩]) (.block 0 (.loop (.seq (.reg [⟨none, some 10, .bin .lss (.t 9) (.t 8)⟩]) (.seq (.cond (.t 10) .skip (.exit 0)) (.seq
 (.block 1 (.seq (.reg [⟨none, some 11, .iaddr 2 (.t 7) (.t 9)⟩, ⟨none, some 12, .load true 2 (.t 11)⟩, ⟨none, some 6, .alloc 0 [(.int .i64 0), (.int .i64
 0)]⟩, ⟨none, none, .store true 2 (.t 6) (.t 12) []⟩]) (.seq (.reg [⟨none, some 13, .mv (.t 1)⟩, ⟨none, some 14, .load true 2 (.t 6)⟩, ⟨none, some 15, .callx
 (.t 13) [(.t 14)]⟩, ⟨none, some 16, .un .not (.t 15)⟩]) (.cond (.t 16) (.seq (.reg [⟨none, some 4, .mv (.c (.bool false))⟩]) .ret) .skip)))) (.reg [⟨none,
 some 17, .bin .add (.t 9) (.c (.int .i64 1))⟩, ⟨none, some 9, .mv (.t 17)⟩]))))))) (.seq (.reg [⟨none, some 4, .mv (.c (.bool true))⟩]) .ret)))
theorem ok120 : FnOk Try.prog 120 18 1 c120 [.t 4] := ⟨_, _, Try.func120, rfl, rfl, by kernel_rfl, by kernel_rfl⟩
theorem bd120 : bodied Try.prog 120 = true := by kernel_rfl

/-- ferrule/cloth.validDome$2 -/
def c121 : CI := (.seq (.reg [⟨none, some 1, .box 0 true (.t 0)⟩, ⟨none, some 2, .mv (.c (.bool false))⟩]) (.seq (.reg [⟨none, some 3, .load true 2 (.t
 1)⟩, ⟨none, some 4, .call 122 [(.t 3), (.c (.int .i64 40000))]⟩, ⟨none, some 2, .mv (.t 4)⟩]) .ret))
theorem ok121 : FnOk Try.prog 121 5 1 c121 [.t 2] := ⟨_, _, Try.func121, rfl, rfl, by kernel_rfl, by kernel_rfl⟩
theorem bd121 : bodied Try.prog 121 = true := by kernel_rfl

/-- ferrule/cloth.validSpan -/
def c122 : CI := (.seq (.reg [⟨none, some 2, .box 0 true (.t 0)⟩, ⟨none, some 4, .mv (.c (.bool false))⟩]) (.seq (.reg [⟨none, some 5, .faddr 0 (.t 2)⟩,
 ⟨none, some 6, .load false 1 (.t 5)⟩, ⟨none, some 7, .faddr 1 (.t 2)⟩, ⟨none, some 8, .load false 1 (.t 7)⟩, ⟨none, some 9, .call 116 [(.t 6), (.c (.int
 .i64 0)), (.t 8)]⟩, ⟨none, some 10, .mv (.t 9)⟩, ⟨(some (10, true)), (some 11), .faddr 1 (.t 2)⟩, ⟨(some (10, true)), (some 12), .load false 1 (.t 11)⟩,
 ⟨(some (10, true)), (some 13), .mv (.t 1)⟩, ⟨(some (10, true)), (some 14), .bin .leq (.t 12) (.t 13)⟩, ⟨none, some 15, .pick (.t 10) (.t 14) (.c (.bool
 false))⟩, ⟨none, some 4, .mv (.t 15)⟩]) .ret))
theorem ok122 : FnOk Try.prog 122 16 1 c122 [.t 4] := ⟨_, _, Try.func122, rfl, rfl, by kernel_rfl, by kernel_rfl⟩
theorem bd122 : bodied Try.prog 122 = true := by kernel_rfl

/-- ferrule/cloth.validDome$3 -/
def c123 : CI := (.seq (.reg [⟨none, some 3, .mv (.c (.bool false))⟩]) (.seq (.reg [⟨none, some 4, .mv (.t 0)⟩, ⟨none, some 5, .faddr 2 (.t 1)⟩, ⟨none,
 some 6, .load false 1 (.t 5)⟩, ⟨none, some 7, .bin .mul (.c (.int .i64 2)) (.t 6)⟩, ⟨none, some 8, .call 116 [(.t 4), (.t 7), (.c (.int .i64 2000))]⟩,
 ⟨none, some 3, .mv (.t 8)⟩]) .ret))
theorem ok123 : FnOk Try.prog 123 9 0 c123 [.t 3] := ⟨_, _, Try.func123, rfl, rfl, by kernel_rfl, by kernel_rfl⟩
theorem bd123 : bodied Try.prog 123 = true := by kernel_rfl

/-- ferrule/cloth.each[ferrule/api.Strip] -/
def c124 : CI := (.seq (.reg [⟨none, some 4, .mv (.c (.bool false))⟩]) (.seq (.seq (.reg [⟨none, some 7, .mv (.t 0)⟩, ⟨none, some 8, .len (.t 7)⟩, ⟨none,
 some 9, .mv (.c (.int .i64 0))⟩]) (.block 0 (.loop (.seq (.reg [⟨none, some 10, .bin .lss (.t 9) (.t 8)⟩]) (.seq (.cond (.t 10) .skip (.exit 0)) (.seq
 (.block 1 (.seq (.reg [⟨none, some 11, .iaddr 3 (.t 7) (.t 9)⟩, ⟨none, some 12, .load true 3 (.t 11)⟩, ⟨none, some 6, .alloc 0 [(.int .i64 0), (.int .i64
 0), (.int .i64 0)]⟩, ⟨none, none, .store true 3 (.t 6) (.t 12) []⟩]) (.seq (.reg [⟨none, some 13, .mv (.t 1)⟩, ⟨none, some 14, .load true 3 (.t 6)⟩, ⟨none,
 some 15, .callx (.t 13) [(.t 14)]⟩, ⟨none, some 16, .un .not (.t 15)⟩]) (.cond (.t 16) (.seq (.reg [⟨none, some 4, .mv (.c (.bool false))⟩]) .ret) .skip))))
 (.reg [⟨none, some 17, .bin .add (.t 9) (.c (.int .i64 1))⟩, ⟨none, some 9, .mv (.t 17)⟩]))))))) (.seq (.reg [⟨none, some 4, .mv (.c (.bool true))⟩]) .ret)))
theorem ok124 : FnOk Try.prog 124 18 1 c124 [.t 4] := ⟨_, _, Try.func124, rfl, rfl, by kernel_rfl, by kernel_rfl⟩
theorem bd124 : bodied Try.prog 124 = true := by kernel_rfl

/-- ferrule/cloth.validStrip -/
def c125 : CI := (.seq (.reg [⟨none, some 1, .box 0 true (.t 0)⟩, ⟨none, some 2, .mv (.c (.bool false))⟩]) (.seq (.reg [⟨none, some 3, .faddr 0 (.t 1)⟩,
 ⟨none, some 4, .load false 1 (.t 3)⟩, ⟨none, some 5, .call 116 [(.t 4), (.c (.int .i64 1)), (.c (.int .i64 2000))]⟩, ⟨none, some 6, .mv (.t 5)⟩, ⟨(some
 (6, true)), (some 7), .faddr 1 (.t 1)⟩, ⟨(some (6, true)), (some 8), .load true 2 (.t 7)⟩, ⟨(some (6, true)), (some 9), .call 122 [(.t 8), (.c (.int .i64
 4000))]⟩, ⟨none, some 10, .pick (.t 6) (.t 9) (.c (.bool false))⟩, ⟨none, some 2, .mv (.t 10)⟩]) .ret))
theorem ok125 : FnOk Try.prog 125 11 1 c125 [.t 2] := ⟨_, _, Try.func125, rfl, rfl, by kernel_rfl, by kernel_rfl⟩
theorem bd125 : bodied Try.prog 125 = true := by kernel_rfl

/-- slices.ContainsFunc[[]int,int] -/
def c126 : CI := (.seq (.reg [⟨none, some 4, .mv (.c (.bool false))⟩]) (.seq (.reg [⟨none, some 5, .mv (.t 0)⟩, ⟨none, some 6, .mv (.t 1)⟩, ⟨none, some
 7, .call 137 [(.t 5), (.t 6)]⟩, ⟨none, some 8, .bin .geq (.t 7) (.c (.int .i64 0))⟩, ⟨none, some 4, .mv (.t 8)⟩]) .ret))
theorem ok126 : FnOk Try.prog 126 9 0 c126 [.t 4] := ⟨_, _, Try.func126, rfl, rfl, by kernel_rfl, by kernel_rfl⟩
theorem bd126 : bodied Try.prog 126 = true := by kernel_rfl

/-- ferrule/seams.eachWithin$1 -/
def c127 : CI := (.seq (.reg [⟨none, some 4, .mv (.c (.bool false))⟩]) (.seq (.reg [⟨none, some 5, .mv (.t 0)⟩, ⟨none, some 6, .load false 1 (.t 1)⟩, ⟨none,
 some 7, .load false 1 (.t 2)⟩, ⟨none, some 8, .call 58 [(.t 5), (.t 6), (.t 7)]⟩, ⟨none, some 9, .un .not (.t 8)⟩, ⟨none, some 4, .mv (.t 9)⟩]) .ret))
theorem ok127 : FnOk Try.prog 127 10 0 c127 [.t 4] := ⟨_, _, Try.func127, rfl, rfl, by kernel_rfl, by kernel_rfl⟩
theorem bd127 : bodied Try.prog 127 = true := by kernel_rfl

/-- (ferrule/seams.pulled).isNear -/
def c128 : CI := (.seq (.reg [⟨none, some 4, .box 0 true (.t 0)⟩, ⟨none, some 8, .mv (.c (.bool false))⟩]) (.seq (.seq (.reg [⟨none, some 11, .mv (.t 2)⟩,
 ⟨none, some 12, .len (.t 11)⟩, ⟨none, some 13, .mv (.c (.int .i64 0))⟩]) (.block 0 (.loop (.seq (.reg [⟨none, some 14, .bin .lss (.t 13) (.t 12)⟩]) (.seq
 (.cond (.t 14) .skip (.exit 0)) (.seq (.block 1 (.seq (.reg [⟨none, some 15, .iaddr 1 (.t 11) (.t 13)⟩, ⟨none, some 16, .load false 1 (.t 15)⟩, ⟨none,
 some 10, .mv (.t 16)⟩]) (.seq (.reg [⟨none, some 17, .faddr 0 (.t 4)⟩, ⟨none, some 18, .load true 11 (.t 17)⟩, ⟨none, some 19, .mv (.t 1)⟩, ⟨none, some
 20, .mv (.t 10)⟩, ⟨none, some 21, .call 92 [(.t 18), (.t 19), (.t 20)]⟩, ⟨none, some 22, .mv (.t 3)⟩, ⟨none, some 23, .bin .gtr (.t 21) (.t 22)⟩]) (.cond
 (.t 23) (.seq (.reg [⟨none, some 8, .mv (.c (.bool false))⟩]) .ret) .skip)))) (.reg [⟨none, some 24, .bin .add (.t 13) (.c (.int .i64 1))⟩, ⟨none, some
 13, .mv (.t 24)⟩]))))))) (.seq (.reg [⟨none, some 8, .mv (.c (.bool true))⟩]) .ret)))
theorem ok128 : FnOk Try.prog 128 25 1 c128 [.t 8] := ⟨_, _, Try.func128, rfl, rfl, by kernel_rfl, by kernel_rfl⟩
theorem bd128 : bodied Try.prog 128 = true := by kernel_rfl

/-- (ferrule/seams.pulled).longer -/
def c129 : CI := (.seq (.reg [⟨none, some 4, .box 0 true (.t 0)⟩, ⟨none, some 8, .mv (.c (.lit (.map none)))⟩]) (.seq (.reg [⟨none, some 17, .mkm 1⟩, ⟨none,
 some 9, .mv (.t 17)⟩]) (.seq (.seq (.reg [⟨none, some 18, .mv (.t 1)⟩, ⟨none, some 19, .mrg 2 (.t 18) []⟩]) (.block 0 (.loop (.seq (.reg [⟨none, some 20,
 .mnx (.t 19)⟩, ⟨none, some 21, .extract 0 (.t 20)⟩]) (.seq (.cond (.t 21) .skip (.exit 0)) (.block 1 (.seq (.reg [⟨none, some 22, .men (.t 19)⟩, ⟨none,
 some 23, .extract 0 (.t 22)⟩, ⟨none, some 24, .extract 1 (.t 22)⟩, ⟨none, some 11, .alloc 3 [.nils, (.int .i64 0)]⟩, ⟨none, some 10, .mv (.t 23)⟩, ⟨none,
 none, .stz true 2 (.t 11) (.t 24) []⟩]) (.seq (.reg [⟨none, some 25, .load true 2 (.t 11)⟩, ⟨none, some 26, .mv (.t 10)⟩, ⟨none, some 27, .callw 4 1 138
 [(.t 25), (.t 26)]⟩, ⟨none, none, .stz true 2 (.t 11) (.t 27) []⟩]) (.seq (.seq (.reg [⟨none, some 28, .faddr 1 (.t 11)⟩, ⟨none, some 29, .load false 1
 (.t 28)⟩, ⟨none, some 30, .mv (.t 3)⟩, ⟨none, some 31, .bin .geq (.t 29) (.t 30)⟩]) (.cond (.t 31) (.exit 1) .skip)) (.seq (.reg [⟨none, some 32, .mv (.t
 2)⟩, ⟨none, some 33, .len (.t 32)⟩, ⟨none, some 34, .mv (.c (.int .i64 0))⟩]) (.block 2 (.loop (.seq (.reg [⟨none, some 35, .bin .lss (.t 34) (.t 33)⟩])
 (.seq (.cond (.t 35) .skip (.exit 2)) (.seq (.block 3 (.seq (.reg [⟨none, some 36, .iaddr 1 (.t 32) (.t 34)⟩, ⟨none, some 37, .load false 1 (.t 36)⟩, ⟨none,
 some 13, .mv (.t 37)⟩]) (.seq (.reg [⟨none, some 38, .mv (.t 10)⟩, ⟨none, some 39, .mv (.t 13)⟩, ⟨none, some 40, .bin .add (.t 38) (.t 39)⟩, ⟨none, some
 41, .faddr 0 (.t 4)⟩, ⟨none, some 42, .faddr 0 (.t 41)⟩, ⟨none, some 43, .faddr 6 (.t 42)⟩, ⟨none, some 44, .load false 1 (.t 43)⟩, ⟨none, some 45, .bin
 .rem (.t 40) (.t 44)⟩, ⟨none, some 14, .mv (.t 45)⟩]) (.seq (.reg [⟨none, some 47, .mv (.t 9)⟩, ⟨none, some 48, .mv (.t 14)⟩, ⟨none, some 49, .lkp .int
 true (.agg [.nils, (.int .i64 0)]) (.t 47) (.t 48)⟩, ⟨none, some 46, .mv (.t 49)⟩, ⟨none, some 50, .extract 0 (.t 46)⟩, ⟨none, some 51, .extract 1 (.t
 46)⟩, ⟨none, some 15, .alloc 5 [.nils, (.int .i64 0)]⟩, ⟨none, none, .stz true 2 (.t 15) (.t 50) []⟩, ⟨none, some 16, .mv (.t 51)⟩]) (.seq (.reg [⟨none,
 some 52, .mv (.t 16)⟩, ⟨none, some 53, .un .not (.t 52)⟩, ⟨none, some 54, .mv (.t 53)⟩, ⟨(some (54, false)), (some 55), .load true 2 (.t 11)⟩, ⟨(some (54,
 false)), (some 56), .load true 2 (.t 15)⟩, ⟨(some (54, false)), (some 57), .call 139 [(.t 55), (.t 56)]⟩, ⟨(some (54, false)), (some 58), .bin .lss (.t
 57) (.c (.int .i64 0))⟩, ⟨none, some 59, .pick (.t 54) (.c (.bool true)) (.t 58)⟩]) (.cond (.t 59) (.reg [⟨none, some 60, .mv (.t 9)⟩, ⟨none, some 61,
 .mv (.t 14)⟩, ⟨none, some 62, .load true 2 (.t 11)⟩, ⟨none, none, .mpu .int (.t 60) (.t 61) (.t 62) []⟩]) .skip)))))) (.reg [⟨none, some 63, .bin .add
 (.t 34) (.c (.int .i64 1))⟩, ⟨none, some 34, .mv (.t 63)⟩])))))))))))))))) (.seq (.reg [⟨none, some 64, .mv (.t 9)⟩, ⟨none, some 8, .mv (.t 64)⟩]) .ret))))
theorem ok129 : FnOk Try.prog 129 65 6 c129 [.t 8] := ⟨_, _, Try.func129, rfl, rfl, by kernel_rfl, by kernel_rfl⟩
theorem bd129 : bodied Try.prog 129 = true := by kernel_rfl

/-- slices.Collect[int] -/
def c130 : CI := (.seq (.reg [⟨none, some 2, .mv (.c .nils)⟩]) (.seq (.reg [⟨none, some 3, .mv (.t 0)⟩, ⟨none, some 4, .callw 0 1 140 [(.c .nils), (.t
 3)]⟩, ⟨none, some 2, .mv (.t 4)⟩]) .ret))
theorem ok130 : FnOk Try.prog 130 5 1 c130 [.t 2] := ⟨_, _, Try.func130, rfl, rfl, by kernel_rfl, by kernel_rfl⟩
theorem bd130 : bodied Try.prog 130 = true := by kernel_rfl

/-- ferrule/cloth.stretches -/
def c131 : CI := (.seq (.reg [⟨none, some 1, .box 0 true (.t 0)⟩, ⟨none, some 2, .mv (.c (.lit (.nilFunc)))⟩]) (.seq (.reg [⟨none, some 3, .mkfn 141 [(.t
 1)]⟩, ⟨none, some 2, .mv (.t 3)⟩]) .ret))
theorem ok131 : FnOk Try.prog 131 4 1 c131 [.t 2] := ⟨_, _, Try.func131, rfl, rfl, by kernel_rfl, by kernel_rfl⟩
theorem bd131 : bodied Try.prog 131 = true := by kernel_rfl

/-- ferrule/cloth.pulled -/
def c133 : CI := (.seq (.reg [⟨none, some 4, .mv (.c (.int .i64 0))⟩]) (.seq (.reg [⟨none, some 5, .mv (.t 0)⟩, ⟨none, some 6, .mv (.t 1)⟩, ⟨none, some
 7, .bin .add (.c (.int .i64 1000)) (.t 6)⟩, ⟨none, some 8, .bin .mul (.t 5) (.t 7)⟩, ⟨none, some 9, .bin .quo (.t 8) (.c (.int .i64 1000))⟩, ⟨none, some
 4, .mv (.t 9)⟩]) .ret))
theorem ok133 : FnOk Try.prog 133 10 0 c133 [.t 4] := ⟨_, _, Try.func133, rfl, rfl, by kernel_rfl, by kernel_rfl⟩
theorem bd133 : bodied Try.prog 133 = true := by kernel_rfl

/-- slices.IndexFunc[[]int,int] -/
def c137 : CI := (.seq (.reg [⟨none, some 4, .mv (.c (.int .i64 0))⟩]) (.seq (.seq (.reg [⟨none, some 6, .mv (.t 0)⟩, ⟨none, some 7, .len (.t 6)⟩, ⟨none,
 some 8, .mv (.c (.int .i64 0))⟩]) (.block 0 (.loop (.seq (.reg [⟨none, some 9, .bin .lss (.t 8) (.t 7)⟩]) (.seq (.cond (.t 9) .skip (.exit 0)) (.seq (.block
 1 (.seq (.reg [⟨none, some 10, .mv (.t 8)⟩, ⟨none, some 5, .mv (.t 10)⟩]) (.seq (.reg [⟨none, some 11, .mv (.t 1)⟩, ⟨none, some 12, .mv (.t 0)⟩, ⟨none,
 some 13, .mv (.t 5)⟩, ⟨none, some 14, .iaddr 1 (.t 12) (.t 13)⟩, ⟨none, some 15, .load false 1 (.t 14)⟩, ⟨none, some 16, .callx (.t 11) [(.t 15)]⟩]) (.cond
 (.t 16) (.seq (.reg [⟨none, some 17, .mv (.t 5)⟩, ⟨none, some 4, .mv (.t 17)⟩]) .ret) .skip)))) (.reg [⟨none, some 18, .bin .add (.t 8) (.c (.int .i64
 1))⟩, ⟨none, some 8, .mv (.t 18)⟩]))))))) (.seq (.reg [⟨none, some 4, .mv (.c (.int .i64 (-1)))⟩]) .ret)))
theorem ok137 : FnOk Try.prog 137 19 0 c137 [.t 4] := ⟨_, _, Try.func137, rfl, rfl, by kernel_rfl, by kernel_rfl⟩
theorem bd137 : bodied Try.prog 137 = true := by kernel_rfl

/-- (ferrule/seams.way).longer -/
def c138 : CI := (.seq (.reg [⟨none, some 2, .box 0 true (.t 0)⟩, ⟨none, some 4, .alloc 1 [.nils, (.int .i64 0)]⟩]) (.seq (.reg [⟨none, some 6, .faddr
 0 (.t 2)⟩, ⟨none, some 7, .load false 1 (.t 6)⟩, ⟨none, some 8, .len (.t 7)⟩, ⟨none, some 5, .mv (.t 8)⟩]) (.seq (.reg [⟨none, some 9, .faddr 0 (.t 2)⟩,
 ⟨none, some 10, .load false 1 (.t 9)⟩, ⟨none, some 11, .mv (.t 5)⟩, ⟨none, some 12, .mv (.t 5)⟩, ⟨none, some 13, .sl3 1 (.t 10) (.t 11) (.t 12)⟩, ⟨none,
 some 14, .mv (.t 1)⟩, ⟨none, some 17, .faddr 1 (.t 2)⟩, ⟨none, some 18, .load false 1 (.t 17)⟩, ⟨none, some 19, .mv (.t 1)⟩, ⟨none, some 20, .bin .add
 (.t 18) (.t 19)⟩, ⟨none, some 15, .bsl 2 3 1 [(.t 14)] []⟩, ⟨none, some 16, .apd 3 3 1 8 (.t 13) (.t 15) [(.t 17)]⟩, ⟨none, some 21, .build [.nils, (.int
 .i64 0)] [(0, 1, (.t 16)), (1, 1, (.t 20))]⟩, ⟨none, none, .stz true 2 (.t 4) (.t 21) []⟩]) .ret)))
theorem ok138 : FnOk Try.prog 138 22 4 c138 [.cell 4 true 2] := ⟨_, _, Try.func138, rfl, rfl, by kernel_rfl, by kernel_rfl⟩
theorem bd138 : bodied Try.prog 138 = true := by kernel_rfl

/-- (ferrule/seams.way).compare -/
def c139 : CI := (.seq (.reg [⟨none, some 2, .box 0 true (.t 0)⟩, ⟨none, some 3, .box 1 true (.t 1)⟩, ⟨none, some 4, .mv (.c (.int .i64 0))⟩]) (.seq (.reg
 [⟨none, some 5, .faddr 1 (.t 2)⟩, ⟨none, some 6, .load false 1 (.t 5)⟩, ⟨none, some 7, .faddr 1 (.t 3)⟩, ⟨none, some 8, .load false 1 (.t 7)⟩, ⟨none, some
 9, .bin .sub (.t 6) (.t 8)⟩, ⟨none, some 10, .faddr 0 (.t 2)⟩, ⟨none, some 11, .load false 1 (.t 10)⟩, ⟨none, some 12, .faddr 0 (.t 3)⟩, ⟨none, some 13,
 .load false 1 (.t 12)⟩, ⟨none, some 14, .call 144 [(.t 11), (.t 13)]⟩, ⟨none, some 15, .bsl 2 3 1 [(.t 9), (.t 14)] []⟩, ⟨none, some 16, .call 143 [(.t
 15)]⟩, ⟨none, some 4, .mv (.t 16)⟩]) .ret))
theorem ok139 : FnOk Try.prog 139 17 3 c139 [.t 4] := ⟨_, _, Try.func139, rfl, rfl, by kernel_rfl, by kernel_rfl⟩
theorem bd139 : bodied Try.prog 139 = true := by kernel_rfl

/-- slices.AppendSeq[[]int,int] -/
def c140 : CI := (.seq (.reg [⟨none, some 2, .box 0 false (.t 0)⟩, ⟨none, some 4, .mv (.c .nils)⟩]) (.seq (.seq (.reg [⟨none, some 6, .mv (.t 1)⟩]) (.block
 0 (.rng (.t 6) [7] (.reg [⟨none, some 5, .mv (.t 7)⟩]) (.block 1 (.reg [⟨none, some 8, .load false 1 (.t 2)⟩, ⟨none, some 9, .mv (.t 5)⟩, ⟨none, some 10,
 .bsl 1 3 1 [(.t 9)] []⟩, ⟨none, some 11, .apd 2 3 1 8 (.t 8) (.t 10) []⟩, ⟨none, none, .stz false 1 (.t 2) (.t 11) []⟩]))))) (.seq (.reg [⟨none, some 12,
 .load false 1 (.t 2)⟩, ⟨none, some 4, .mv (.t 12)⟩]) .ret)))
theorem ok140 : FnOk Try.prog 140 13 3 c140 [.t 4] := ⟨_, _, Try.func140, rfl, rfl, by kernel_rfl, by kernel_rfl⟩
theorem bd140 : bodied Try.prog 140 = true := by kernel_rfl

/-- ferrule/cloth.stretches$1 -/
def c141 : CI := (.seq (.reg [⟨none, some 2, .box 0 false (.t 0)⟩]) (.seq (.reg [⟨none, some 5, .load true 4 (.t 1)⟩, ⟨none, some 6, .callw 1 0 142 [(.t
 5)]⟩]) (.block 0 (.rng (.t 6) [7, 8] (.seq (.reg [⟨none, some 3, .mv (.t 7)⟩]) (.reg [⟨none, some 4, .mv (.t 8)⟩])) (.block 1 (.seq (.reg [⟨none, some
 9, .mv (.t 4)⟩, ⟨none, some 10, .faddr 3 (.t 1)⟩, ⟨none, some 11, .load false 1 (.t 10)⟩, ⟨none, some 12, .bin .leq (.t 9) (.t 11)⟩, ⟨none, some 13, .mv
 (.t 12)⟩, ⟨(some (13, true)), (some 14), .load false 1 (.t 2)⟩, ⟨(some (13, true)), (some 15), .mv (.t 3)⟩, ⟨(some (13, true)), (some 16), .callx (.t 14)
 [(.t 15)]⟩, ⟨(some (13, true)), (some 17), .un .not (.t 16)⟩, ⟨none, some 18, .pick (.t 13) (.t 17) (.c (.bool false))⟩]) (.cond (.t 18) .ret .skip)))))))
theorem ok141 : FnOk Try.prog 141 19 1 c141 [] := ⟨_, _, Try.func141, rfl, rfl, by kernel_rfl, by kernel_rfl⟩
theorem bd141 : bodied Try.prog 141 = true := by kernel_rfl

/-- ferrule/cloth.tried -/
def c142 : CI := (.seq (.reg [⟨none, some 1, .box 0 true (.t 0)⟩, ⟨none, some 2, .mv (.c (.lit (.nilFunc)))⟩]) (.seq (.reg [⟨none, some 3, .mkfn 145 [(.t
 1)]⟩, ⟨none, some 2, .mv (.t 3)⟩]) .ret))
theorem ok142 : FnOk Try.prog 142 4 1 c142 [.t 2] := ⟨_, _, Try.func142, rfl, rfl, by kernel_rfl, by kernel_rfl⟩
theorem bd142 : bodied Try.prog 142 = true := by kernel_rfl

/-- cmp.Or[int] -/
def c143 : CI := (.seq (.reg [⟨none, some 2, .mv (.c (.int .i64 0))⟩]) (.seq (.reg [⟨none, some 3, .mv (.c (.int .i64 0))⟩]) (.seq (.seq (.reg [⟨none,
 some 6, .mv (.t 0)⟩, ⟨none, some 7, .len (.t 6)⟩, ⟨none, some 8, .mv (.c (.int .i64 0))⟩]) (.block 0 (.loop (.seq (.reg [⟨none, some 9, .bin .lss (.t 8)
 (.t 7)⟩]) (.seq (.cond (.t 9) .skip (.exit 0)) (.seq (.block 1 (.seq (.reg [⟨none, some 10, .iaddr 1 (.t 6) (.t 8)⟩, ⟨none, some 11, .load false 1 (.t
 10)⟩, ⟨none, some 5, .mv (.t 11)⟩]) (.seq (.reg [⟨none, some 12, .mv (.t 5)⟩, ⟨none, some 13, .mv (.t 3)⟩, ⟨none, some 14, .bin .neq (.t 12) (.t 13)⟩])
 (.cond (.t 14) (.seq (.reg [⟨none, some 15, .mv (.t 5)⟩, ⟨none, some 2, .mv (.t 15)⟩]) .ret) .skip)))) (.reg [⟨none, some 16, .bin .add (.t 8) (.c (.int
 .i64 1))⟩, ⟨none, some 8, .mv (.t 16)⟩]))))))) (.seq (.reg [⟨none, some 17, .mv (.t 3)⟩, ⟨none, some 2, .mv (.t 17)⟩]) .ret))))
theorem ok143 : FnOk Try.prog 143 18 0 c143 [.t 2] := ⟨_, _, Try.func143, rfl, rfl, by kernel_rfl, by kernel_rfl⟩
theorem bd143 : bodied Try.prog 143 = true := by kernel_rfl

/-- slices.Compare[[]int,int] -/
def c144 : CI := (.seq (.reg [⟨none, some 4, .mv (.c (.int .i64 0))⟩]) (.seq (.seq (.reg [⟨none, some 9, .mv (.t 0)⟩, ⟨none, some 10, .len (.t 9)⟩, ⟨none,
 some 11, .mv (.c (.int .i64 0))⟩]) (.block 0 (.loop (.seq (.reg [⟨none, some 12, .bin .lss (.t 11) (.t 10)⟩]) (.seq (.cond (.t 12) .skip (.exit 0)) (.seq
 (.block 1 (.seq (.reg [⟨none, some 13, .mv (.t 11)⟩, ⟨none, some 14, .iaddr 1 (.t 9) (.t 11)⟩, ⟨none, some 15, .load false 1 (.t 14)⟩, ⟨none, some 5, .mv
 (.t 13)⟩, ⟨none, some 6, .mv (.t 15)⟩]) (.seq (.seq (.reg [⟨none, some 16, .mv (.t 5)⟩, ⟨none, some 17, .mv (.t 1)⟩, ⟨none, some 18, .len (.t 17)⟩, ⟨none,
 some 19, .bin .geq (.t 16) (.t 18)⟩]) (.cond (.t 19) (.seq (.reg [⟨none, some 4, .mv (.c (.int .i64 1))⟩]) .ret) .skip)) (.seq (.reg [⟨none, some 20, .mv
 (.t 1)⟩, ⟨none, some 21, .mv (.t 5)⟩, ⟨none, some 22, .iaddr 1 (.t 20) (.t 21)⟩, ⟨none, some 23, .load false 1 (.t 22)⟩, ⟨none, some 7, .mv (.t 23)⟩])
 (.seq (.reg [⟨none, some 24, .mv (.t 6)⟩, ⟨none, some 25, .mv (.t 7)⟩, ⟨none, some 26, .call 146 [(.t 24), (.t 25)]⟩, ⟨none, some 8, .mv (.t 26)⟩]) (.seq
 (.reg [⟨none, some 27, .mv (.t 8)⟩, ⟨none, some 28, .bin .neq (.t 27) (.c (.int .i64 0))⟩]) (.cond (.t 28) (.seq (.reg [⟨none, some 29, .mv (.t 8)⟩, ⟨none,
 some 4, .mv (.t 29)⟩]) .ret) .skip))))))) (.reg [⟨none, some 30, .bin .add (.t 11) (.c (.int .i64 1))⟩, ⟨none, some 11, .mv (.t 30)⟩]))))))) (.seq (.seq
 (.reg [⟨none, some 31, .mv (.t 0)⟩, ⟨none, some 32, .len (.t 31)⟩, ⟨none, some 33, .mv (.t 1)⟩, ⟨none, some 34, .len (.t 33)⟩, ⟨none, some 35, .bin .lss
 (.t 32) (.t 34)⟩]) (.cond (.t 35) (.seq (.reg [⟨none, some 4, .mv (.c (.int .i64 (-1)))⟩]) .ret) .skip)) (.seq (.reg [⟨none, some 4, .mv (.c (.int .i64
 0))⟩]) .ret))))
theorem ok144 : FnOk Try.prog 144 36 0 c144 [.t 4] := ⟨_, _, Try.func144, rfl, rfl, by kernel_rfl, by kernel_rfl⟩
theorem bd144 : bodied Try.prog 144 = true := by kernel_rfl

/-- ferrule/cloth.tried$1 -/
def c145 : CI := (.seq (.reg [⟨none, some 7, .faddr 0 (.t 1)⟩, ⟨none, some 8, .faddr 0 (.t 7)⟩, ⟨none, some 9, .load false 1 (.t 8)⟩, ⟨none, some 3, .mv
 (.t 9)⟩]) (.block 0 (.loop (.seq (.seq (.reg [⟨none, some 10, .mv (.t 3)⟩, ⟨none, some 11, .faddr 0 (.t 1)⟩, ⟨none, some 12, .faddr 1 (.t 11)⟩, ⟨none,
 some 13, .load false 1 (.t 12)⟩, ⟨none, some 14, .bin .leq (.t 10) (.t 13)⟩]) (.cond (.t 14) .skip (.exit 0))) (.seq (.block 1 (.seq (.reg [⟨none, some
 4, .mv (.c (.int .i64 0))⟩]) (.seq (.seq (.reg [⟨none, some 17, .faddr 2 (.t 1)⟩, ⟨none, some 18, .load false 1 (.t 17)⟩, ⟨none, some 19, .len (.t 18)⟩,
 ⟨none, some 20, .mv (.c (.int .i64 0))⟩]) (.block 2 (.loop (.seq (.reg [⟨none, some 21, .bin .lss (.t 20) (.t 19)⟩]) (.seq (.cond (.t 21) .skip (.exit
 2)) (.seq (.block 3 (.seq (.reg [⟨none, some 22, .iaddr 3 (.t 18) (.t 20)⟩, ⟨none, some 23, .load true 3 (.t 22)⟩, ⟨none, some 6, .alloc 0 [(.int .i64
 0), (.int .i64 0), (.int .i64 0)]⟩, ⟨none, none, .store true 3 (.t 6) (.t 23) []⟩]) (.seq (.reg [⟨none, some 24, .faddr 1 (.t 6)⟩, ⟨none, some 25, .load
 true 2 (.t 24)⟩, ⟨none, some 26, .faddr 0 (.t 6)⟩, ⟨none, some 27, .load false 1 (.t 26)⟩, ⟨none, some 28, .mv (.t 3)⟩, ⟨none, some 29, .call 133 [(.t
 27), (.t 28)]⟩, ⟨none, some 30, .call 107 [(.t 25), (.t 29)]⟩, ⟨none, some 31, .un .not (.t 30)⟩]) (.cond (.t 31) (.reg [⟨none, some 32, .mv (.t 4)⟩, ⟨none,
 some 33, .bin .add (.t 32) (.c (.int .i64 1))⟩, ⟨none, some 4, .mv (.t 33)⟩]) .skip)))) (.reg [⟨none, some 34, .bin .add (.t 20) (.c (.int .i64 1))⟩, ⟨none,
 some 20, .mv (.t 34)⟩]))))))) (.seq (.reg [⟨none, some 35, .mv (.t 0)⟩, ⟨none, some 36, .mv (.t 3)⟩, ⟨none, some 37, .mv (.t 4)⟩, ⟨none, some 38, .callx
 (.t 35) [(.t 36), (.t 37)]⟩, ⟨none, some 39, .un .not (.t 38)⟩]) (.cond (.t 39) .ret .skip))))) (.reg [⟨none, some 15, .mv (.t 3)⟩, ⟨none, some 16, .bin
 .add (.t 15) (.c (.int .i64 1))⟩, ⟨none, some 3, .mv (.t 16)⟩]))))))
theorem ok145 : FnOk Try.prog 145 40 1 c145 [] := ⟨_, _, Try.func145, rfl, rfl, by kernel_rfl, by kernel_rfl⟩
theorem bd145 : bodied Try.prog 145 = true := by kernel_rfl

/-- cmp.Compare[int] -/
def c146 : CI := (.seq (.reg [⟨none, some 4, .mv (.c (.int .i64 0))⟩]) (.seq (.reg [⟨none, some 7, .mv (.t 0)⟩, ⟨none, some 8, .call 147 [(.t 7)]⟩, ⟨none,
 some 5, .mv (.t 8)⟩]) (.seq (.reg [⟨none, some 9, .mv (.t 1)⟩, ⟨none, some 10, .call 147 [(.t 9)]⟩, ⟨none, some 6, .mv (.t 10)⟩]) (.seq (.seq (.reg [⟨none,
 some 11, .mv (.t 5)⟩]) (.cond (.t 11) (.seq (.seq (.reg [⟨none, some 12, .mv (.t 6)⟩]) (.cond (.t 12) (.seq (.reg [⟨none, some 4, .mv (.c (.int .i64 0))⟩])
 .ret) .skip)) (.seq (.reg [⟨none, some 4, .mv (.c (.int .i64 (-1)))⟩]) .ret)) .skip)) (.seq (.seq (.reg [⟨none, some 13, .mv (.t 6)⟩]) (.cond (.t 13) (.seq
 (.reg [⟨none, some 4, .mv (.c (.int .i64 1))⟩]) .ret) .skip)) (.seq (.seq (.reg [⟨none, some 14, .mv (.t 0)⟩, ⟨none, some 15, .mv (.t 1)⟩, ⟨none, some
 16, .bin .lss (.t 14) (.t 15)⟩]) (.cond (.t 16) (.seq (.reg [⟨none, some 4, .mv (.c (.int .i64 (-1)))⟩]) .ret) .skip)) (.seq (.seq (.reg [⟨none, some 17,
 .mv (.t 0)⟩, ⟨none, some 18, .mv (.t 1)⟩, ⟨none, some 19, .bin .gtr (.t 17) (.t 18)⟩]) (.cond (.t 19) (.seq (.reg [⟨none, some 4, .mv (.c (.int .i64 1))⟩])
 .ret) .skip)) (.seq (.reg [⟨none, some 4, .mv (.c (.int .i64 0))⟩]) .ret))))))))
theorem ok146 : FnOk Try.prog 146 20 0 c146 [.t 4] := ⟨_, _, Try.func146, rfl, rfl, by kernel_rfl, by kernel_rfl⟩
theorem bd146 : bodied Try.prog 146 = true := by kernel_rfl

/-- cmp.isNaN[int] -/
def c147 : CI := (.seq (.reg [⟨none, some 2, .mv (.c (.bool false))⟩]) (.seq (.reg [⟨none, some 3, .mv (.t 0)⟩, ⟨none, some 4, .mv (.t 0)⟩, ⟨none, some
 5, .bin .neq (.t 3) (.t 4)⟩, ⟨none, some 2, .mv (.t 5)⟩]) .ret))
theorem ok147 : FnOk Try.prog 147 6 0 c147 [.t 2] := ⟨_, _, Try.func147, rfl, rfl, by kernel_rfl, by kernel_rfl⟩
theorem bd147 : bodied Try.prog 147 = true := by kernel_rfl

end Go.Proofs
