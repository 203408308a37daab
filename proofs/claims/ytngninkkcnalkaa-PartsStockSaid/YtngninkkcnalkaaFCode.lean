/- The functions of this program as the walk reads them, each proved to be what the program holds. -/
import Derived.Test.YtngninkkcnalkaaEng3
import Derived.Test.YtngninkkcnalkaaProg
import Derived.KernelRfl
namespace Go.Proofs
open Go.Eng
set_option maxRecDepth 100000

/-- ferrule/ferrulelaw07.PartsFits -/
def c3 : CI := (.seq (.reg [⟨none, some 2, .box 0 true (.t 0)⟩, ⟨none, some 3, .box 1 true (.t 1)⟩, ⟨none, some 4, .mv (.c (.bool false))⟩]) (.seq (.seq
 (.reg [⟨none, some 14, .load true 4 (.t 2)⟩, ⟨none, some 15, .call 14 [(.t 14)]⟩]) (.cond (.t 15) (.seq (.reg [⟨none, some 16, .call 15 []⟩, ⟨none, some
 4, .mv (.t 16)⟩]) .ret) .skip)) (.seq (.reg [⟨none, some 17, .load true 4 (.t 2)⟩, ⟨none, some 18, .callw 2 3 16 [(.t 17)]⟩, ⟨none, some 5, .alloc 5 [.nils,
 .nils, (.int .i64 0), .nils]⟩, ⟨none, none, .stz true 4 (.t 5) (.t 18) []⟩]) (.seq (.seq (.reg [⟨none, some 19, .load true 4 (.t 5)⟩, ⟨none, some 21, .load
 true 4 (.t 2)⟩, ⟨none, some 20, .call 17 [(.t 19)]⟩, ⟨none, some 22, .call 18 [(.t 21)]⟩, ⟨none, some 23, .bin .neq (.t 20) (.t 22)⟩]) (.cond (.t 23) (.seq
 (.reg [⟨none, some 4, .mv (.c (.bool false))⟩]) .ret) .skip)) (.seq (.reg [⟨none, some 25, .load true 4 (.t 5)⟩, ⟨none, some 26, .faddr 0 (.t 3)⟩, ⟨none,
 some 27, .load false 1 (.t 26)⟩, ⟨none, some 28, .call 19 [(.t 25), (.t 27)]⟩, ⟨none, some 24, .mv (.t 28)⟩, ⟨none, some 29, .extract 0 (.t 24)⟩, ⟨none,
 some 30, .extract 1 (.t 24)⟩, ⟨none, some 6, .alloc 6 [(.int .i64 0), (.int .i64 0)]⟩, ⟨none, none, .store true 2 (.t 6) (.t 29) []⟩, ⟨none, some 7, .mv
 (.t 30)⟩]) (.seq (.reg [⟨none, some 32, .load true 4 (.t 2)⟩, ⟨none, some 33, .faddr 0 (.t 3)⟩, ⟨none, some 34, .load false 1 (.t 33)⟩, ⟨none, some 35,
 .call 20 [(.t 32), (.t 34)]⟩, ⟨none, some 31, .mv (.t 35)⟩, ⟨none, some 36, .extract 0 (.t 31)⟩, ⟨none, some 37, .extract 1 (.t 31)⟩, ⟨none, some 8, .alloc
 7 [(.int .i64 0), (.int .i64 0)]⟩, ⟨none, none, .store true 2 (.t 8) (.t 36) []⟩, ⟨none, some 9, .mv (.t 37)⟩]) (.seq (.reg [⟨none, some 39, .load true
 4 (.t 5)⟩, ⟨none, some 40, .faddr 0 (.t 3)⟩, ⟨none, some 41, .load false 1 (.t 40)⟩, ⟨none, some 42, .faddr 1 (.t 3)⟩, ⟨none, some 43, .load false 1 (.t
 42)⟩, ⟨none, some 44, .faddr 2 (.t 3)⟩, ⟨none, some 45, .load false 1 (.t 44)⟩, ⟨none, some 46, .call 21 [(.t 39), (.t 41), (.t 43), (.t 45)]⟩, ⟨none,
 some 38, .mv (.t 46)⟩, ⟨none, some 47, .extract 0 (.t 38)⟩, ⟨none, some 48, .extract 1 (.t 38)⟩, ⟨none, some 10, .mv (.t 47)⟩, ⟨none, some 11, .mv (.t
 48)⟩]) (.seq (.reg [⟨none, some 50, .load true 4 (.t 2)⟩, ⟨none, some 51, .faddr 0 (.t 3)⟩, ⟨none, some 52, .load false 1 (.t 51)⟩, ⟨none, some 53, .faddr
 1 (.t 3)⟩, ⟨none, some 54, .load false 1 (.t 53)⟩, ⟨none, some 55, .faddr 2 (.t 3)⟩, ⟨none, some 56, .load false 1 (.t 55)⟩, ⟨none, some 57, .call 22 [(.t
 50), (.t 52), (.t 54), (.t 56)]⟩, ⟨none, some 49, .mv (.t 57)⟩, ⟨none, some 58, .extract 0 (.t 49)⟩, ⟨none, some 59, .extract 1 (.t 49)⟩, ⟨none, some 12,
 .mv (.t 58)⟩, ⟨none, some 13, .mv (.t 59)⟩]) (.seq (.reg [⟨none, some 60, .load true 2 (.t 6)⟩, ⟨none, some 61, .load true 2 (.t 8)⟩, ⟨none, some 62, .eqs
 false (.node [(0, 1, (.leaf true)), (1, 1, (.leaf true))]) (.t 60) (.t 61)⟩, ⟨none, some 63, .mv (.t 62)⟩, ⟨(some (63, true)), (some 64), .mv (.t 7)⟩,
 ⟨(some (63, true)), (some 65), .mv (.t 9)⟩, ⟨(some (63, true)), (some 66), .bin .eql (.t 64) (.t 65)⟩, ⟨none, some 67, .pick (.t 63) (.t 66) (.c (.bool
 false))⟩, ⟨none, some 68, .mv (.t 67)⟩, ⟨(some (68, true)), (some 69), .mv (.t 10)⟩, ⟨(some (68, true)), (some 70), .mv (.t 12)⟩, ⟨(some (68, true)), (some
 71), .bin .eql (.t 69) (.t 70)⟩, ⟨none, some 72, .pick (.t 68) (.t 71) (.c (.bool false))⟩, ⟨none, some 73, .mv (.t 72)⟩, ⟨(some (73, true)), (some 74),
 .mv (.t 11)⟩, ⟨(some (73, true)), (some 75), .mv (.t 13)⟩, ⟨(some (73, true)), (some 76), .bin .eql (.t 74) (.t 75)⟩, ⟨none, some 77, .pick (.t 73) (.t
 76) (.c (.bool false))⟩, ⟨none, some 78, .mv (.t 77)⟩, ⟨(some (78, true)), (some 79), .load true 4 (.t 5)⟩, ⟨(some (78, true)), (some 80), .load true 4
 (.t 2)⟩, ⟨(some (78, true)), (some 81), .call 23 [(.t 79), (.t 80)]⟩, ⟨none, some 82, .pick (.t 78) (.t 81) (.c (.bool false))⟩, ⟨none, some 83, .mv (.t
 82)⟩, ⟨(some (83, true)), (some 84), .call 15 []⟩, ⟨none, some 85, .pick (.t 83) (.t 84) (.c (.bool false))⟩, ⟨none, some 4, .mv (.t 85)⟩]) .ret)))))))))
theorem ok3 : FnOk Try.prog 3 86 8 c3 [.t 4] := ⟨_, _, Try.func3, rfl, rfl, by kernel_rfl, by kernel_rfl⟩
theorem bd3 : bodied Try.prog 3 = true := by kernel_rfl

/-- ferrule/ferrulelaw07.PartsMends -/
def c4 : CI := (.seq (.reg [⟨none, some 3, .box 0 true (.t 0)⟩, ⟨none, some 6, .mv (.c (.bool false))⟩]) (.seq (.seq (.reg [⟨none, some 11, .load true
 4 (.t 3)⟩, ⟨none, some 12, .call 14 [(.t 11)]⟩, ⟨none, some 13, .mv (.t 12)⟩, ⟨(some (13, false)), (some 14), .mv (.t 1)⟩, ⟨(some (13, false)), (some 15),
 .len (.t 14)⟩, ⟨(some (13, false)), (some 16), .bin .gtr (.t 15) (.c (.int .i64 20))⟩, ⟨none, some 17, .pick (.t 13) (.c (.bool true)) (.t 16)⟩]) (.cond
 (.t 17) (.seq (.reg [⟨none, some 18, .call 15 []⟩, ⟨none, some 6, .mv (.t 18)⟩]) .ret) .skip)) (.seq (.reg [⟨none, some 20, .load true 4 (.t 3)⟩, ⟨none,
 some 21, .callw 1 3 16 [(.t 20)]⟩, ⟨none, some 22, .bsl 4 3 1 [] []⟩, ⟨none, some 23, .mv (.t 1)⟩, ⟨none, some 24, .apd 5 3 1 8 (.t 22) (.t 23) []⟩, ⟨none,
 some 25, .mv (.t 2)⟩, ⟨none, some 26, .call 24 [(.t 21), (.t 24), (.t 25)]⟩, ⟨none, some 19, .mv (.t 26)⟩, ⟨none, some 27, .extract 0 (.t 19)⟩, ⟨none,
 some 28, .extract 1 (.t 19)⟩, ⟨none, some 7, .mv (.t 27)⟩, ⟨none, some 8, .mv (.t 28)⟩]) (.seq (.reg [⟨none, some 30, .load true 4 (.t 3)⟩, ⟨none, some
 31, .mv (.t 1)⟩, ⟨none, some 32, .mv (.t 2)⟩, ⟨none, some 33, .call 25 [(.t 30), (.t 31), (.t 32)]⟩, ⟨none, some 29, .mv (.t 33)⟩, ⟨none, some 34, .extract
 0 (.t 29)⟩, ⟨none, some 35, .extract 1 (.t 29)⟩, ⟨none, some 9, .mv (.t 34)⟩, ⟨none, some 10, .mv (.t 35)⟩]) (.seq (.reg [⟨none, some 36, .mv (.t 7)⟩,
 ⟨none, some 37, .mv (.t 9)⟩, ⟨none, some 38, .bin .eql (.t 36) (.t 37)⟩, ⟨none, some 39, .mv (.t 38)⟩, ⟨(some (39, true)), (some 40), .mv (.t 8)⟩, ⟨(some
 (39, true)), (some 41), .mv (.t 10)⟩, ⟨(some (39, true)), (some 42), .bin .eql (.t 40) (.t 41)⟩, ⟨none, some 43, .pick (.t 39) (.t 42) (.c (.bool false))⟩,
 ⟨none, some 44, .mv (.t 43)⟩, ⟨(some (44, true)), (some 45), .call 15 []⟩, ⟨none, some 46, .pick (.t 44) (.t 45) (.c (.bool false))⟩, ⟨none, some 6, .mv
 (.t 46)⟩]) .ret)))))
theorem ok4 : FnOk Try.prog 4 47 6 c4 [.t 6] := ⟨_, _, Try.func4, rfl, rfl, by kernel_rfl, by kernel_rfl⟩
theorem bd4 : bodied Try.prog 4 = true := by kernel_rfl

/-- ferrule/ferrulelaw07.PartsFewest -/
def c5 : CI := (.seq (.reg [⟨none, some 1, .box 0 true (.t 0)⟩, ⟨none, some 2, .mv (.c (.bool false))⟩]) (.seq (.seq (.reg [⟨none, some 14, .load true
 4 (.t 1)⟩, ⟨none, some 15, .call 14 [(.t 14)]⟩]) (.cond (.t 15) (.seq (.reg [⟨none, some 16, .call 15 []⟩, ⟨none, some 2, .mv (.t 16)⟩]) .ret) .skip))
 (.seq (.reg [⟨none, some 17, .load true 4 (.t 1)⟩, ⟨none, some 18, .callw 1 3 16 [(.t 17)]⟩, ⟨none, some 3, .alloc 4 [.nils, .nils, (.int .i64 0), .nils]⟩,
 ⟨none, none, .stz true 4 (.t 3) (.t 18) []⟩]) (.seq (.reg [⟨none, some 20, .load true 4 (.t 3)⟩, ⟨none, some 21, .call 26 [(.t 20)]⟩, ⟨none, some 19, .mv
 (.t 21)⟩, ⟨none, some 22, .extract 0 (.t 19)⟩, ⟨none, some 23, .extract 1 (.t 19)⟩, ⟨none, some 4, .mv (.t 22)⟩, ⟨none, some 5, .mv (.t 23)⟩]) (.seq (.reg
 [⟨none, some 25, .load true 4 (.t 1)⟩, ⟨none, some 26, .call 27 [(.t 25)]⟩, ⟨none, some 24, .mv (.t 26)⟩, ⟨none, some 27, .extract 0 (.t 24)⟩, ⟨none, some
 28, .extract 1 (.t 24)⟩, ⟨none, some 6, .mv (.t 27)⟩, ⟨none, some 7, .mv (.t 28)⟩]) (.seq (.reg [⟨none, some 30, .load true 4 (.t 3)⟩, ⟨none, some 31,
 .callw 5 1 28 [(.t 30)]⟩, ⟨none, some 29, .mv (.t 31)⟩, ⟨none, some 32, .extract 0 (.t 29)⟩, ⟨none, some 33, .extract 1 (.t 29)⟩, ⟨none, some 8, .mv (.t
 32)⟩, ⟨none, some 9, .mv (.t 33)⟩]) (.seq (.reg [⟨none, some 35, .load true 4 (.t 1)⟩, ⟨none, some 36, .callw 6 1 29 [(.t 35)]⟩, ⟨none, some 34, .mv (.t
 36)⟩, ⟨none, some 37, .extract 0 (.t 34)⟩, ⟨none, some 38, .extract 1 (.t 34)⟩, ⟨none, some 10, .mv (.t 37)⟩, ⟨none, some 11, .mv (.t 38)⟩]) (.seq (.reg
 [⟨none, some 40, .load true 4 (.t 3)⟩, ⟨none, some 41, .callw 7 1 30 [(.t 40)]⟩, ⟨none, some 39, .mv (.t 41)⟩, ⟨none, some 42, .extract 0 (.t 39)⟩, ⟨none,
 some 43, .extract 1 (.t 39)⟩, ⟨none, some 12, .mv (.t 42)⟩, ⟨none, some 13, .mv (.t 43)⟩]) (.seq (.seq (.reg [⟨none, some 44, .mv (.t 4)⟩, ⟨none, some
 45, .mv (.t 6)⟩, ⟨none, some 46, .bin .neq (.t 44) (.t 45)⟩, ⟨none, some 47, .mv (.t 46)⟩, ⟨(some (47, false)), (some 48), .mv (.t 5)⟩, ⟨(some (47, false)),
 (some 49), .mv (.t 7)⟩, ⟨(some (47, false)), (some 50), .bin .neq (.t 48) (.t 49)⟩, ⟨none, some 51, .pick (.t 47) (.c (.bool true)) (.t 50)⟩, ⟨none, some
 52, .mv (.t 51)⟩, ⟨(some (52, false)), (some 53), .mv (.t 8)⟩, ⟨(some (52, false)), (some 54), .mv (.t 10)⟩, ⟨(some (52, false)), (some 55), .call 31 [(.t
 53), (.t 54)]⟩, ⟨(some (52, false)), (some 56), .un .not (.t 55)⟩, ⟨none, some 57, .pick (.t 52) (.c (.bool true)) (.t 56)⟩, ⟨none, some 58, .mv (.t 57)⟩,
 ⟨(some (58, false)), (some 59), .mv (.t 9)⟩, ⟨(some (58, false)), (some 60), .mv (.t 11)⟩, ⟨(some (58, false)), (some 61), .bin .neq (.t 59) (.t 60)⟩,
 ⟨none, some 62, .pick (.t 58) (.c (.bool true)) (.t 61)⟩, ⟨none, some 63, .mv (.t 62)⟩, ⟨(some (63, false)), (some 64), .mv (.t 13)⟩, ⟨(some (63, false)),
 (some 65), .mv (.t 7)⟩, ⟨(some (63, false)), (some 66), .bin .neq (.t 64) (.t 65)⟩, ⟨none, some 67, .pick (.t 63) (.c (.bool true)) (.t 66)⟩, ⟨none, some
 68, .mv (.t 67)⟩, ⟨(some (68, false)), (some 69), .mv (.t 12)⟩, ⟨(some (68, false)), (some 70), .len (.t 69)⟩, ⟨(some (68, false)), (some 71), .bin .gtr
 (.t 70) (.c (.int .i64 40))⟩, ⟨none, some 72, .pick (.t 68) (.c (.bool true)) (.t 71)⟩]) (.cond (.t 72) (.seq (.reg [⟨none, some 2, .mv (.c (.bool false))⟩])
 .ret) .skip)) (.seq (.seq (.reg [⟨none, some 73, .mv (.t 7)⟩, ⟨none, some 74, .bin .neq (.t 73) (.c (.int .i64 0))⟩]) (.cond (.t 74) (.seq (.reg [⟨none,
 some 75, .mv (.t 12)⟩, ⟨none, some 76, .len (.t 75)⟩, ⟨none, some 77, .bin .eql (.t 76) (.c (.int .i64 0))⟩, ⟨none, some 78, .mv (.t 77)⟩, ⟨(some (78,
 true)), (some 79), .call 15 []⟩, ⟨none, some 80, .pick (.t 78) (.t 79) (.c (.bool false))⟩, ⟨none, some 2, .mv (.t 80)⟩]) .ret) .skip)) (.seq (.reg [⟨none,
 some 81, .mv (.t 12)⟩, ⟨none, some 82, .len (.t 81)⟩, ⟨none, some 83, .mv (.t 6)⟩, ⟨none, some 84, .bin .eql (.t 82) (.t 83)⟩, ⟨none, some 85, .mv (.t
 84)⟩, ⟨(some (85, true)), (some 86), .load true 4 (.t 1)⟩, ⟨(some (85, true)), (some 87), .mv (.t 12)⟩, ⟨(some (85, true)), (some 88), .call 32 [(.t 86),
 (.t 87)]⟩, ⟨none, some 89, .pick (.t 85) (.t 88) (.c (.bool false))⟩, ⟨none, some 90, .mv (.t 89)⟩, ⟨(some (90, true)), (some 91), .call 15 []⟩, ⟨none,
 some 92, .pick (.t 90) (.t 91) (.c (.bool false))⟩, ⟨none, some 2, .mv (.t 92)⟩]) .ret)))))))))))
theorem ok5 : FnOk Try.prog 5 93 8 c5 [.t 2] := ⟨_, _, Try.func5, rfl, rfl, by kernel_rfl, by kernel_rfl⟩
theorem bd5 : bodied Try.prog 5 = true := by kernel_rfl

/-- ferrule/ferrulelaw07.PartsMost -/
def c6 : CI := (.seq (.reg [⟨none, some 2, .box 0 true (.t 0)⟩, ⟨none, some 3, .box 1 true (.t 1)⟩, ⟨none, some 4, .mv (.c (.bool false))⟩]) (.seq (.seq
 (.reg [⟨none, some 14, .load true 4 (.t 2)⟩, ⟨none, some 15, .call 14 [(.t 14)]⟩, ⟨none, some 16, .mv (.t 15)⟩, ⟨(some (16, false)), (some 17), .faddr
 0 (.t 3)⟩, ⟨(some (16, false)), (some 18), .load false 1 (.t 17)⟩, ⟨(some (16, false)), (some 19), .len (.t 18)⟩, ⟨(some (16, false)), (some 20), .bin
 .gtr (.t 19) (.c (.int .i64 40))⟩, ⟨none, some 21, .pick (.t 16) (.c (.bool true)) (.t 20)⟩, ⟨none, some 22, .mv (.t 21)⟩, ⟨(some (22, false)), (some 23),
 .faddr 1 (.t 3)⟩, ⟨(some (22, false)), (some 24), .load false 1 (.t 23)⟩, ⟨(some (22, false)), (some 25), .len (.t 24)⟩, ⟨(some (22, false)), (some 26),
 .bin .gtr (.t 25) (.c (.int .i64 40))⟩, ⟨none, some 27, .pick (.t 22) (.c (.bool true)) (.t 26)⟩, ⟨none, some 28, .mv (.t 27)⟩, ⟨(some (28, false)), (some
 29), .faddr 1 (.t 3)⟩, ⟨(some (28, false)), (some 30), .load false 1 (.t 29)⟩, ⟨(some (28, false)), (some 31), .len (.t 30)⟩, ⟨(some (28, false)), (some
 32), .bin .gtr (.t 31) (.c (.int .i64 5))⟩, ⟨(some (28, false)), (some 33), .mv (.t 32)⟩, ⟨(some (33, true)), (some 34), .load true 4 (.t 2)⟩, ⟨(some (33,
 true)), (some 35), .call 18 [(.t 34)]⟩, ⟨(some (33, true)), (some 36), .bin .eql (.t 35) (.c (.int .i64 0))⟩, ⟨(some (28, false)), (some 37), .pick (.t
 33) (.t 36) (.c (.bool false))⟩, ⟨(some (28, false)), (some 38), .mv (.t 37)⟩, ⟨(some (38, true)), (some 39), .load true 4 (.t 2)⟩, ⟨(some (38, true)),
 (some 40), .faddr 0 (.t 3)⟩, ⟨(some (38, true)), (some 41), .load false 1 (.t 40)⟩, ⟨(some (38, true)), (some 42), .faddr 1 (.t 3)⟩, ⟨(some (38, true)),
 (some 43), .load false 1 (.t 42)⟩, ⟨(some (38, true)), (some 44), .call 33 [(.t 39), (.t 41), (.t 43)]⟩, ⟨(some (28, false)), (some 45), .pick (.t 38)
 (.t 44) (.c (.bool false))⟩, ⟨none, some 46, .pick (.t 28) (.c (.bool true)) (.t 45)⟩]) (.cond (.t 46) (.seq (.reg [⟨none, some 47, .call 15 []⟩, ⟨none,
 some 4, .mv (.t 47)⟩]) .ret) .skip)) (.seq (.reg [⟨none, some 48, .load true 4 (.t 2)⟩, ⟨none, some 49, .callw 2 3 16 [(.t 48)]⟩, ⟨none, some 5, .alloc
 5 [.nils, .nils, (.int .i64 0), .nils]⟩, ⟨none, none, .stz true 4 (.t 5) (.t 49) []⟩]) (.seq (.reg [⟨none, some 51, .load true 4 (.t 5)⟩, ⟨none, some 53,
 .faddr 0 (.t 3)⟩, ⟨none, some 54, .load false 1 (.t 53)⟩, ⟨none, some 57, .faddr 1 (.t 3)⟩, ⟨none, some 58, .load false 1 (.t 57)⟩, ⟨none, some 52, .bsl
 6 3 1 [] []⟩, ⟨none, some 55, .apd 7 3 1 8 (.t 52) (.t 54) [(.t 5), (.t 57)]⟩, ⟨none, some 56, .bsl 8 82 2 [] [(.t 52), (.t 54)]⟩, ⟨none, some 59, .apd
 9 82 2 16 (.t 56) (.t 58) [(.t 5)]⟩, ⟨none, some 60, .call 34 [(.t 51), (.t 55), (.t 59)]⟩, ⟨none, some 50, .mv (.t 60)⟩, ⟨none, some 61, .extract 0 (.t
 50)⟩, ⟨none, some 62, .extract 1 (.t 50)⟩, ⟨none, some 6, .mv (.t 61)⟩, ⟨none, some 7, .mv (.t 62)⟩]) (.seq (.reg [⟨none, some 64, .load true 4 (.t 2)⟩,
 ⟨none, some 65, .faddr 0 (.t 3)⟩, ⟨none, some 66, .load false 1 (.t 65)⟩, ⟨none, some 67, .faddr 1 (.t 3)⟩, ⟨none, some 68, .load false 1 (.t 67)⟩, ⟨none,
 some 69, .call 35 [(.t 64), (.t 66), (.t 68)]⟩, ⟨none, some 63, .mv (.t 69)⟩, ⟨none, some 70, .extract 0 (.t 63)⟩, ⟨none, some 71, .extract 1 (.t 63)⟩,
 ⟨none, some 8, .mv (.t 70)⟩, ⟨none, some 9, .mv (.t 71)⟩]) (.seq (.reg [⟨none, some 73, .load true 4 (.t 5)⟩, ⟨none, some 75, .faddr 0 (.t 3)⟩, ⟨none,
 some 76, .load false 1 (.t 75)⟩, ⟨none, some 79, .faddr 1 (.t 3)⟩, ⟨none, some 80, .load false 1 (.t 79)⟩, ⟨none, some 74, .bsl 10 3 1 [] []⟩, ⟨none, some
 77, .apd 11 3 1 8 (.t 74) (.t 76) [(.t 5), (.t 79)]⟩, ⟨none, some 78, .bsl 12 82 2 [] [(.t 74), (.t 76)]⟩, ⟨none, some 81, .apd 13 82 2 16 (.t 78) (.t
 80) [(.t 5)]⟩, ⟨none, some 82, .callz 14 1 36 [(.t 73), (.t 77), (.t 81)] []⟩, ⟨none, some 72, .mv (.t 82)⟩, ⟨none, some 83, .extract 0 (.t 72)⟩, ⟨none,
 some 84, .extract 1 (.t 72)⟩, ⟨none, some 10, .mv (.t 83)⟩, ⟨none, some 11, .mv (.t 84)⟩]) (.seq (.reg [⟨none, some 86, .load true 4 (.t 5)⟩, ⟨none, some
 88, .faddr 0 (.t 3)⟩, ⟨none, some 89, .load false 1 (.t 88)⟩, ⟨none, some 92, .faddr 1 (.t 3)⟩, ⟨none, some 93, .load false 1 (.t 92)⟩, ⟨none, some 87,
 .bsl 15 3 1 [] []⟩, ⟨none, some 90, .apd 16 3 1 8 (.t 87) (.t 89) [(.t 5), (.t 92)]⟩, ⟨none, some 91, .bsl 17 82 2 [] [(.t 87), (.t 89)]⟩, ⟨none, some
 94, .apd 18 82 2 16 (.t 91) (.t 93) [(.t 5)]⟩, ⟨none, some 95, .callz 19 1 37 [(.t 86), (.t 90), (.t 94)] []⟩, ⟨none, some 85, .mv (.t 95)⟩, ⟨none, some
 96, .extract 0 (.t 85)⟩, ⟨none, some 97, .extract 1 (.t 85)⟩, ⟨none, some 12, .mv (.t 96)⟩, ⟨none, some 13, .mv (.t 97)⟩]) (.seq (.seq (.reg [⟨none, some
 98, .mv (.t 6)⟩, ⟨none, some 99, .mv (.t 8)⟩, ⟨none, some 100, .bin .neq (.t 98) (.t 99)⟩, ⟨none, some 101, .mv (.t 100)⟩, ⟨(some (101, false)), (some
 102), .mv (.t 7)⟩, ⟨(some (101, false)), (some 103), .mv (.t 9)⟩, ⟨(some (101, false)), (some 104), .bin .neq (.t 102) (.t 103)⟩, ⟨none, some 105, .pick
 (.t 101) (.c (.bool true)) (.t 104)⟩, ⟨none, some 106, .mv (.t 105)⟩, ⟨(some (106, false)), (some 107), .mv (.t 11)⟩, ⟨(some (106, false)), (some 108),
 .mv (.t 9)⟩, ⟨(some (106, false)), (some 109), .bin .neq (.t 107) (.t 108)⟩, ⟨none, some 110, .pick (.t 106) (.c (.bool true)) (.t 109)⟩, ⟨none, some 111,
 .mv (.t 110)⟩, ⟨(some (111, false)), (some 112), .mv (.t 13)⟩, ⟨(some (111, false)), (some 113), .mv (.t 9)⟩, ⟨(some (111, false)), (some 114), .bin .neq
 (.t 112) (.t 113)⟩, ⟨none, some 115, .pick (.t 111) (.c (.bool true)) (.t 114)⟩, ⟨none, some 116, .mv (.t 115)⟩, ⟨(some (116, false)), (some 117), .mv
 (.t 12)⟩, ⟨(some (116, false)), (some 118), .len (.t 117)⟩, ⟨(some (116, false)), (some 119), .faddr 1 (.t 3)⟩, ⟨(some (116, false)), (some 120), .load
 false 1 (.t 119)⟩, ⟨(some (116, false)), (some 121), .len (.t 120)⟩, ⟨(some (116, false)), (some 122), .bin .gtr (.t 118) (.t 121)⟩, ⟨none, some 123, .pick
 (.t 116) (.c (.bool true)) (.t 122)⟩]) (.cond (.t 123) (.seq (.reg [⟨none, some 4, .mv (.c (.bool false))⟩]) .ret) .skip)) (.seq (.seq (.reg [⟨none, some
 124, .mv (.t 9)⟩, ⟨none, some 125, .bin .neq (.t 124) (.c (.int .i64 0))⟩]) (.cond (.t 125) (.seq (.reg [⟨none, some 126, .mv (.t 10)⟩, ⟨none, some 127,
 .len (.t 126)⟩, ⟨none, some 128, .bin .eql (.t 127) (.c (.int .i64 0))⟩, ⟨none, some 129, .mv (.t 128)⟩, ⟨(some (129, true)), (some 130), .mv (.t 12)⟩,
 ⟨(some (129, true)), (some 131), .len (.t 130)⟩, ⟨(some (129, true)), (some 132), .bin .eql (.t 131) (.c (.int .i64 0))⟩, ⟨none, some 133, .pick (.t 129)
 (.t 132) (.c (.bool false))⟩, ⟨none, some 134, .mv (.t 133)⟩, ⟨(some (134, true)), (some 135), .call 15 []⟩, ⟨none, some 136, .pick (.t 134) (.t 135) (.c
 (.bool false))⟩, ⟨none, some 4, .mv (.t 136)⟩]) .ret) .skip)) (.seq (.reg [⟨none, some 137, .load true 4 (.t 2)⟩, ⟨none, some 138, .faddr 0 (.t 3)⟩, ⟨none,
 some 139, .load false 1 (.t 138)⟩, ⟨none, some 140, .faddr 1 (.t 3)⟩, ⟨none, some 141, .load false 1 (.t 140)⟩, ⟨none, some 142, .mv (.t 10)⟩, ⟨none, some
 144, .mv (.t 8)⟩, ⟨none, some 143, .call 38 [(.t 137), (.t 139), (.t 141), (.t 142)]⟩, ⟨none, some 145, .bin .eql (.t 143) (.t 144)⟩, ⟨none, some 146,
 .mv (.t 145)⟩, ⟨(some (146, true)), (some 147), .faddr 1 (.t 3)⟩, ⟨(some (146, true)), (some 148), .load false 1 (.t 147)⟩, ⟨(some (146, true)), (some
 149), .mv (.t 12)⟩, ⟨(some (146, true)), (some 150), .call 39 [(.t 148), (.t 149)]⟩, ⟨none, some 151, .pick (.t 146) (.t 150) (.c (.bool false))⟩, ⟨none,
 some 152, .mv (.t 151)⟩, ⟨(some (152, true)), (some 153), .load true 4 (.t 2)⟩, ⟨(some (152, true)), (some 154), .faddr 0 (.t 3)⟩, ⟨(some (152, true)),
 (some 155), .load false 1 (.t 154)⟩, ⟨(some (152, true)), (some 156), .faddr 1 (.t 3)⟩, ⟨(some (152, true)), (some 157), .load false 1 (.t 156)⟩, ⟨(some
 (152, true)), (some 158), .mv (.t 12)⟩, ⟨(some (152, true)), (some 160), .faddr 1 (.t 3)⟩, ⟨(some (152, true)), (some 161), .load false 1 (.t 160)⟩, ⟨(some
 (152, true)), (some 162), .len (.t 161)⟩, ⟨(some (152, true)), (some 163), .mv (.t 8)⟩, ⟨(some (152, true)), (some 164), .bin .sub (.t 162) (.t 163)⟩,
 ⟨(some (152, true)), (some 159), .call 40 [(.t 153), (.t 155), (.t 157), (.t 158)]⟩, ⟨(some (152, true)), (some 165), .bin .eql (.t 159) (.t 164)⟩, ⟨none,
 some 166, .pick (.t 152) (.t 165) (.c (.bool false))⟩, ⟨none, some 167, .mv (.t 166)⟩, ⟨(some (167, true)), (some 168), .call 15 []⟩, ⟨none, some 169,
 .pick (.t 167) (.t 168) (.c (.bool false))⟩, ⟨none, some 4, .mv (.t 169)⟩]) .ret))))))))))
theorem ok6 : FnOk Try.prog 6 170 20 c6 [.t 4] := ⟨_, _, Try.func6, rfl, rfl, by kernel_rfl, by kernel_rfl⟩
theorem bd6 : bodied Try.prog 6 = true := by kernel_rfl

/-- ferrule/ferrulelaw07.PartsStock -/
def c12 : CI := (.seq (.reg [⟨none, some 3, .box 0 true (.t 0)⟩, ⟨none, some 4, .box 1 true (.t 1)⟩, ⟨none, some 5, .box 2 true (.t 2)⟩, ⟨none, some 6,
 .mv (.c (.bool false))⟩]) (.seq (.seq (.reg [⟨none, some 24, .load true 4 (.t 3)⟩, ⟨none, some 25, .call 41 [(.t 24)]⟩, ⟨none, some 26, .un .not (.t 25)⟩,
 ⟨none, some 27, .mv (.t 26)⟩, ⟨(some (27, false)), (some 28), .faddr 0 (.t 4)⟩, ⟨(some (27, false)), (some 29), .load false 1 (.t 28)⟩, ⟨(some (27, false)),
 (some 30), .len (.t 29)⟩, ⟨(some (27, false)), (some 31), .bin .gtr (.t 30) (.c (.int .i64 40))⟩, ⟨none, some 32, .pick (.t 27) (.c (.bool true)) (.t 31)⟩,
 ⟨none, some 33, .mv (.t 32)⟩, ⟨(some (33, false)), (some 34), .faddr 1 (.t 4)⟩, ⟨(some (33, false)), (some 35), .load false 1 (.t 34)⟩, ⟨(some (33, false)),
 (some 36), .len (.t 35)⟩, ⟨(some (33, false)), (some 37), .bin .gtr (.t 36) (.c (.int .i64 9))⟩, ⟨none, some 38, .pick (.t 33) (.c (.bool true)) (.t 37)⟩,
 ⟨none, some 39, .mv (.t 38)⟩, ⟨(some (39, false)), (some 40), .load true 4 (.t 3)⟩, ⟨(some (39, false)), (some 41), .faddr 0 (.t 4)⟩, ⟨(some (39, false)),
 (some 42), .load false 1 (.t 41)⟩, ⟨(some (39, false)), (some 43), .faddr 1 (.t 4)⟩, ⟨(some (39, false)), (some 44), .load false 1 (.t 43)⟩, ⟨(some (39,
 false)), (some 45), .call 33 [(.t 40), (.t 42), (.t 44)]⟩, ⟨(some (39, false)), (some 46), .un .not (.t 45)⟩, ⟨none, some 47, .pick (.t 39) (.c (.bool
 true)) (.t 46)⟩, ⟨none, some 48, .mv (.t 47)⟩, ⟨(some (48, false)), (some 49), .load true 4 (.t 3)⟩, ⟨(some (48, false)), (some 50), .faddr 0 (.t 5)⟩,
 ⟨(some (48, false)), (some 51), .load false 1 (.t 50)⟩, ⟨(some (48, false)), (some 52), .call 47 [(.t 49), (.t 51)]⟩, ⟨(some (48, false)), (some 53), .un
 .not (.t 52)⟩, ⟨none, some 54, .pick (.t 48) (.c (.bool true)) (.t 53)⟩, ⟨none, some 55, .mv (.t 54)⟩, ⟨(some (55, false)), (some 56), .faddr 3 (.t 5)⟩,
 ⟨(some (55, false)), (some 57), .load false 1 (.t 56)⟩, ⟨(some (55, false)), (some 58), .bin .lss (.t 57) (.c (.int .i64 0))⟩, ⟨none, some 59, .pick (.t
 55) (.c (.bool true)) (.t 58)⟩, ⟨none, some 60, .mv (.t 59)⟩, ⟨(some (60, false)), (some 61), .faddr 3 (.t 5)⟩, ⟨(some (60, false)), (some 62), .load false
 1 (.t 61)⟩, ⟨(some (60, false)), (some 63), .bin .gtr (.t 62) (.c (.int .i64 100))⟩, ⟨none, some 64, .pick (.t 60) (.c (.bool true)) (.t 63)⟩]) (.cond
 (.t 64) (.seq (.reg [⟨none, some 65, .call 15 []⟩, ⟨none, some 6, .mv (.t 65)⟩]) .ret) .skip)) (.seq (.reg [⟨none, some 67, .load true 4 (.t 3)⟩, ⟨none,
 some 68, .faddr 0 (.t 4)⟩, ⟨none, some 69, .load false 1 (.t 68)⟩, ⟨none, some 70, .faddr 1 (.t 4)⟩, ⟨none, some 71, .load false 1 (.t 70)⟩, ⟨none, some
 72, .call 34 [(.t 67), (.t 69), (.t 71)]⟩, ⟨none, some 66, .mv (.t 72)⟩, ⟨none, some 73, .extract 0 (.t 66)⟩, ⟨none, some 74, .extract 1 (.t 66)⟩, ⟨none,
 some 7, .mv (.t 73)⟩, ⟨none, some 8, .mv (.t 74)⟩]) (.seq (.seq (.reg [⟨none, some 75, .mv (.t 8)⟩, ⟨none, some 76, .bin .neq (.t 75) (.c (.int .i64 0))⟩])
 (.cond (.t 76) (.seq (.reg [⟨none, some 6, .mv (.c (.bool false))⟩]) .ret) .skip)) (.seq (.reg [⟨none, some 77, .bsl 3 3 1 [] []⟩, ⟨none, some 78, .faddr
 0 (.t 4)⟩, ⟨none, some 79, .load false 1 (.t 78)⟩, ⟨none, some 80, .apd 4 3 1 8 (.t 77) (.t 79) []⟩, ⟨none, some 9, .mv (.t 80)⟩]) (.seq (.reg [⟨none,
 some 81, .mv (.t 9)⟩, ⟨none, some 82, .faddr 0 (.t 5)⟩, ⟨none, some 83, .load false 1 (.t 82)⟩, ⟨none, some 84, .mv (.t 9)⟩, ⟨none, some 85, .faddr 0 (.t
 5)⟩, ⟨none, some 86, .load false 1 (.t 85)⟩, ⟨none, some 87, .iaddr 1 (.t 84) (.t 86)⟩, ⟨none, some 88, .load false 1 (.t 87)⟩, ⟨none, some 89, .bin .add
 (.t 88) (.c (.int .i64 1))⟩, ⟨none, some 90, .mm false [(.c (.int .i64 10)), (.t 89)]⟩, ⟨none, some 91, .iaddr 1 (.t 81) (.t 83)⟩, ⟨none, none, .store
 false 1 (.t 91) (.t 90) []⟩]) (.seq (.seq (.reg [⟨none, some 93, .load true 4 (.t 3)⟩, ⟨none, some 94, .mv (.t 9)⟩, ⟨none, some 95, .faddr 1 (.t 4)⟩, ⟨none,
 some 96, .load false 1 (.t 95)⟩, ⟨none, some 97, .call 34 [(.t 93), (.t 94), (.t 96)]⟩, ⟨none, some 92, .mv (.t 97)⟩, ⟨none, some 98, .extract 0 (.t 92)⟩,
 ⟨none, some 99, .extract 1 (.t 92)⟩, ⟨none, some 10, .mv (.t 98)⟩, ⟨none, some 11, .mv (.t 99)⟩]) (.seq (.reg [⟨none, some 100, .mv (.t 11)⟩, ⟨none, some
 101, .bin .neq (.t 100) (.c (.int .i64 0))⟩, ⟨none, some 102, .mv (.t 101)⟩, ⟨(some (102, false)), (some 103), .mv (.t 10)⟩, ⟨(some (102, false)), (some
 104), .mv (.t 7)⟩, ⟨(some (102, false)), (some 105), .bin .lss (.t 103) (.t 104)⟩, ⟨none, some 106, .pick (.t 102) (.c (.bool true)) (.t 105)⟩, ⟨none,
 some 107, .mv (.t 106)⟩, ⟨(some (107, false)), (some 108), .mv (.t 10)⟩, ⟨(some (107, false)), (some 109), .mv (.t 7)⟩, ⟨(some (107, false)), (some 110),
 .bin .add (.t 109) (.c (.int .i64 1))⟩, ⟨(some (107, false)), (some 111), .bin .gtr (.t 108) (.t 110)⟩, ⟨none, some 112, .pick (.t 107) (.c (.bool true))
 (.t 111)⟩]) (.cond (.t 112) (.seq (.reg [⟨none, some 6, .mv (.c (.bool false))⟩]) .ret) .skip))) (.seq (.seq (.reg [⟨none, some 113, .load true 4 (.t 3)⟩,
 ⟨none, some 114, .faddr 1 (.t 5)⟩, ⟨none, some 115, .faddr 0 (.t 114)⟩, ⟨none, some 116, .load false 1 (.t 115)⟩, ⟨none, some 117, .faddr 1 (.t 5)⟩, ⟨none,
 some 118, .faddr 1 (.t 117)⟩, ⟨none, some 119, .load false 1 (.t 118)⟩, ⟨none, some 120, .call 53 [(.t 113), (.t 116), (.t 119)]⟩]) (.cond (.t 120) (.seq
 (.reg [⟨none, some 122, .load true 4 (.t 3)⟩, ⟨none, some 123, .faddr 0 (.t 4)⟩, ⟨none, some 124, .load false 1 (.t 123)⟩, ⟨none, some 126, .faddr 1 (.t
 4)⟩, ⟨none, some 127, .load false 1 (.t 126)⟩, ⟨none, some 129, .faddr 1 (.t 5)⟩, ⟨none, some 130, .load true 2 (.t 129)⟩, ⟨none, some 125, .bsl 5 82 2
 [] []⟩, ⟨none, some 128, .apd 6 82 2 16 (.t 125) (.t 127) [(.t 3), (.t 123), (.t 129)]⟩, ⟨none, some 131, .bsl 7 82 2 [(.t 130)] [(.t 125), (.t 127)]⟩,
 ⟨none, some 132, .apd 8 82 2 16 (.t 128) (.t 131) [(.t 3), (.t 123)]⟩, ⟨none, some 133, .call 34 [(.t 122), (.t 124), (.t 132)]⟩, ⟨none, some 121, .mv
 (.t 133)⟩, ⟨none, some 134, .extract 0 (.t 121)⟩, ⟨none, some 135, .extract 1 (.t 121)⟩, ⟨none, some 12, .mv (.t 134)⟩, ⟨none, some 13, .mv (.t 135)⟩])
 (.seq (.reg [⟨none, some 136, .mv (.t 13)⟩, ⟨none, some 137, .bin .neq (.t 136) (.c (.int .i64 0))⟩, ⟨none, some 138, .mv (.t 137)⟩, ⟨(some (138, false)),
 (some 139), .mv (.t 12)⟩, ⟨(some (138, false)), (some 140), .mv (.t 7)⟩, ⟨(some (138, false)), (some 141), .bin .lss (.t 139) (.t 140)⟩, ⟨none, some 142,
 .pick (.t 138) (.c (.bool true)) (.t 141)⟩, ⟨none, some 143, .mv (.t 142)⟩, ⟨(some (143, false)), (some 144), .mv (.t 12)⟩, ⟨(some (143, false)), (some
 145), .mv (.t 7)⟩, ⟨(some (143, false)), (some 146), .bin .add (.t 145) (.c (.int .i64 1))⟩, ⟨(some (143, false)), (some 147), .bin .gtr (.t 144) (.t 146)⟩,
 ⟨none, some 148, .pick (.t 143) (.c (.bool true)) (.t 147)⟩]) (.cond (.t 148) (.seq (.reg [⟨none, some 6, .mv (.c (.bool false))⟩]) .ret) .skip))) .skip))
 (.seq (.reg [⟨none, some 149, .load true 4 (.t 3)⟩, ⟨none, some 150, .callw 9 3 16 [(.t 149)]⟩, ⟨none, some 14, .alloc 12 [.nils, .nils, (.int .i64 0),
 .nils]⟩, ⟨none, none, .stz true 4 (.t 14) (.t 150) []⟩]) (.seq (.reg [⟨none, some 15, .mv (.c .nils)⟩]) (.seq (.seq (.reg [⟨none, some 16, .mv (.c (.int
 .i64 0))⟩]) (.block 0 (.loop (.seq (.seq (.reg [⟨none, some 151, .mv (.t 16)⟩, ⟨none, some 152, .faddr 1 (.t 4)⟩, ⟨none, some 153, .load false 1 (.t 152)⟩,
 ⟨none, some 154, .len (.t 153)⟩, ⟨none, some 155, .bin .lss (.t 151) (.t 154)⟩]) (.cond (.t 155) .skip (.exit 0))) (.seq (.block 1 (.reg [⟨none, some 158,
 .mv (.t 15)⟩, ⟨none, some 159, .faddr 1 (.t 4)⟩, ⟨none, some 160, .load false 1 (.t 159)⟩, ⟨none, some 161, .mv (.t 16)⟩, ⟨none, some 162, .faddr 3 (.t
 5)⟩, ⟨none, some 163, .load false 1 (.t 162)⟩, ⟨none, some 164, .bin .add (.t 161) (.t 163)⟩, ⟨none, some 165, .faddr 1 (.t 4)⟩, ⟨none, some 166, .load
 false 1 (.t 165)⟩, ⟨none, some 167, .len (.t 166)⟩, ⟨none, some 168, .bin .rem (.t 164) (.t 167)⟩, ⟨none, some 169, .iaddr 2 (.t 160) (.t 168)⟩, ⟨none,
 some 170, .load true 2 (.t 169)⟩, ⟨none, some 171, .bsl 13 82 2 [(.t 170)] []⟩, ⟨none, some 172, .apd 14 82 2 16 (.t 158) (.t 171) []⟩, ⟨none, some 15,
 .mv (.t 172)⟩])) (.reg [⟨none, some 156, .mv (.t 16)⟩, ⟨none, some 157, .bin .add (.t 156) (.c (.int .i64 1))⟩, ⟨none, some 16, .mv (.t 157)⟩])))))) (.seq
 (.seq (.reg [⟨none, some 17, .mv (.c (.int .i64 0))⟩]) (.block 2 (.loop (.seq (.seq (.reg [⟨none, some 173, .mv (.t 17)⟩, ⟨none, some 174, .faddr 3 (.t
 3)⟩, ⟨none, some 175, .load false 1 (.t 174)⟩, ⟨none, some 176, .len (.t 175)⟩, ⟨none, some 177, .bin .lss (.t 173) (.t 176)⟩]) (.cond (.t 177) .skip (.exit
 2))) (.seq (.block 3 (.reg [⟨none, some 180, .faddr 3 (.t 14)⟩, ⟨none, some 181, .load false 1 (.t 180)⟩, ⟨none, some 182, .mv (.t 17)⟩, ⟨none, some 183,
 .faddr 3 (.t 3)⟩, ⟨none, some 184, .load false 1 (.t 183)⟩, ⟨none, some 185, .mv (.t 17)⟩, ⟨none, some 186, .faddr 3 (.t 5)⟩, ⟨none, some 187, .load false
 1 (.t 186)⟩, ⟨none, some 188, .bin .add (.t 185) (.t 187)⟩, ⟨none, some 189, .faddr 3 (.t 3)⟩, ⟨none, some 190, .load false 1 (.t 189)⟩, ⟨none, some 191,
 .len (.t 190)⟩, ⟨none, some 192, .bin .rem (.t 188) (.t 191)⟩, ⟨none, some 193, .iaddr 4 (.t 184) (.t 192)⟩, ⟨none, some 194, .load true 4 (.t 193)⟩, ⟨none,
 some 195, .iaddr 4 (.t 181) (.t 182)⟩, ⟨none, none, .store true 4 (.t 195) (.t 194) []⟩])) (.reg [⟨none, some 178, .mv (.t 17)⟩, ⟨none, some 179, .bin
 .add (.t 178) (.c (.int .i64 1))⟩, ⟨none, some 17, .mv (.t 179)⟩])))))) (.seq (.reg [⟨none, some 197, .load true 4 (.t 14)⟩, ⟨none, some 198, .faddr 0
 (.t 4)⟩, ⟨none, some 199, .load false 1 (.t 198)⟩, ⟨none, some 200, .mv (.t 15)⟩, ⟨none, some 201, .call 34 [(.t 197), (.t 199), (.t 200)]⟩, ⟨none, some
 196, .mv (.t 201)⟩, ⟨none, some 202, .extract 0 (.t 196)⟩, ⟨none, some 203, .extract 1 (.t 196)⟩, ⟨none, some 18, .mv (.t 202)⟩, ⟨none, some 19, .mv (.t
 203)⟩]) (.seq (.reg [⟨none, some 205, .load true 4 (.t 3)⟩, ⟨none, some 206, .callw 15 1 28 [(.t 205)]⟩, ⟨none, some 204, .mv (.t 206)⟩, ⟨none, some 207,
 .extract 0 (.t 204)⟩, ⟨none, some 208, .extract 1 (.t 204)⟩, ⟨none, some 20, .mv (.t 207)⟩, ⟨none, some 21, .mv (.t 208)⟩]) (.seq (.reg [⟨none, some 210,
 .load true 4 (.t 14)⟩, ⟨none, some 211, .callw 16 1 28 [(.t 210)]⟩, ⟨none, some 209, .mv (.t 211)⟩, ⟨none, some 212, .extract 0 (.t 209)⟩, ⟨none, some
 213, .extract 1 (.t 209)⟩, ⟨none, some 22, .mv (.t 212)⟩, ⟨none, some 23, .mv (.t 213)⟩]) (.seq (.reg [⟨none, some 214, .mv (.t 19)⟩, ⟨none, some 215,
 .bin .eql (.t 214) (.c (.int .i64 0))⟩, ⟨none, some 216, .mv (.t 215)⟩, ⟨(some (216, true)), (some 217), .mv (.t 18)⟩, ⟨(some (216, true)), (some 218),
 .mv (.t 7)⟩, ⟨(some (216, true)), (some 219), .bin .eql (.t 217) (.t 218)⟩, ⟨none, some 220, .pick (.t 216) (.t 219) (.c (.bool false))⟩, ⟨none, some 221,
 .mv (.t 220)⟩, ⟨(some (221, true)), (some 222), .mv (.t 21)⟩, ⟨(some (221, true)), (some 223), .mv (.t 23)⟩, ⟨(some (221, true)), (some 224), .bin .eql
 (.t 222) (.t 223)⟩, ⟨none, some 225, .pick (.t 221) (.t 224) (.c (.bool false))⟩, ⟨none, some 226, .mv (.t 225)⟩, ⟨(some (226, true)), (some 227), .mv
 (.t 20)⟩, ⟨(some (226, true)), (some 228), .mv (.t 22)⟩, ⟨(some (226, true)), (some 229), .call 31 [(.t 227), (.t 228)]⟩, ⟨none, some 230, .pick (.t 226)
 (.t 229) (.c (.bool false))⟩, ⟨none, some 231, .mv (.t 230)⟩, ⟨(some (231, true)), (some 232), .call 15 []⟩, ⟨none, some 233, .pick (.t 231) (.t 232) (.c
 (.bool false))⟩, ⟨none, some 6, .mv (.t 233)⟩]) .ret))))))))))))))))
theorem ok12 : FnOk Try.prog 12 234 17 c12 [.t 6] := ⟨_, _, Try.func12, rfl, rfl, by kernel_rfl, by kernel_rfl⟩
theorem bd12 : bodied Try.prog 12 = true := by kernel_rfl

/-- ferrule/ferrulelaw07.Far -/
def c14 : CI := (.seq (.reg [⟨none, some 1, .box 0 true (.t 0)⟩, ⟨none, some 2, .mv (.c (.bool false))⟩]) (.seq (.seq (.reg [⟨none, some 6, .faddr 0 (.t
 1)⟩, ⟨none, some 7, .load false 1 (.t 6)⟩, ⟨none, some 8, .len (.t 7)⟩, ⟨none, some 9, .bin .gtr (.t 8) (.c (.int .i64 40))⟩, ⟨none, some 10, .mv (.t 9)⟩,
 ⟨(some (10, false)), (some 11), .faddr 1 (.t 1)⟩, ⟨(some (10, false)), (some 12), .load false 1 (.t 11)⟩, ⟨(some (10, false)), (some 13), .len (.t 12)⟩,
 ⟨(some (10, false)), (some 14), .bin .gtr (.t 13) (.c (.int .i64 40))⟩, ⟨none, some 15, .pick (.t 10) (.c (.bool true)) (.t 14)⟩, ⟨none, some 16, .mv (.t
 15)⟩, ⟨(some (16, false)), (some 17), .faddr 3 (.t 1)⟩, ⟨(some (16, false)), (some 18), .load false 1 (.t 17)⟩, ⟨(some (16, false)), (some 19), .len (.t
 18)⟩, ⟨(some (16, false)), (some 20), .bin .gtr (.t 19) (.c (.int .i64 60))⟩, ⟨none, some 21, .pick (.t 16) (.c (.bool true)) (.t 20)⟩]) (.cond (.t 21)
 (.seq (.reg [⟨none, some 2, .mv (.c (.bool true))⟩]) .ret) .skip)) (.seq (.seq (.reg [⟨none, some 3, .mv (.c (.int .i64 0))⟩]) (.block 0 (.loop (.seq (.seq
 (.reg [⟨none, some 22, .mv (.t 3)⟩, ⟨none, some 23, .faddr 1 (.t 1)⟩, ⟨none, some 24, .load false 1 (.t 23)⟩, ⟨none, some 25, .len (.t 24)⟩, ⟨none, some
 26, .bin .lss (.t 22) (.t 25)⟩]) (.cond (.t 26) .skip (.exit 0))) (.seq (.block 1 (.seq (.seq (.reg [⟨none, some 29, .faddr 1 (.t 1)⟩, ⟨none, some 30,
 .load false 1 (.t 29)⟩, ⟨none, some 31, .mv (.t 3)⟩, ⟨none, some 32, .iaddr 1 (.t 30) (.t 31)⟩, ⟨none, some 33, .faddr 0 (.t 32)⟩, ⟨none, some 34, .load
 false 1 (.t 33)⟩, ⟨none, some 35, .len (.t 34)⟩, ⟨none, some 36, .bin .gtr (.t 35) (.c (.int .i64 20))⟩]) (.cond (.t 36) (.seq (.reg [⟨none, some 2, .mv
 (.c (.bool true))⟩]) .ret) .skip)) (.seq (.reg [⟨none, some 4, .mv (.c (.int .i64 0))⟩]) (.block 2 (.loop (.seq (.seq (.reg [⟨none, some 37, .mv (.t 4)⟩,
 ⟨none, some 38, .faddr 1 (.t 1)⟩, ⟨none, some 39, .load false 1 (.t 38)⟩, ⟨none, some 40, .mv (.t 3)⟩, ⟨none, some 41, .iaddr 1 (.t 39) (.t 40)⟩, ⟨none,
 some 42, .faddr 0 (.t 41)⟩, ⟨none, some 43, .load false 1 (.t 42)⟩, ⟨none, some 44, .len (.t 43)⟩, ⟨none, some 45, .bin .lss (.t 37) (.t 44)⟩]) (.cond
 (.t 45) .skip (.exit 2))) (.seq (.block 3 (.seq (.reg [⟨none, some 48, .faddr 1 (.t 1)⟩, ⟨none, some 49, .load false 1 (.t 48)⟩, ⟨none, some 50, .mv (.t
 3)⟩, ⟨none, some 51, .iaddr 1 (.t 49) (.t 50)⟩, ⟨none, some 52, .faddr 0 (.t 51)⟩, ⟨none, some 53, .load false 1 (.t 52)⟩, ⟨none, some 54, .mv (.t 4)⟩,
 ⟨none, some 55, .iaddr 4 (.t 53) (.t 54)⟩, ⟨none, some 56, .faddr 1 (.t 55)⟩, ⟨none, some 57, .load false 1 (.t 56)⟩, ⟨none, some 58, .len (.t 57)⟩, ⟨none,
 some 59, .bin .gtr (.t 58) (.c (.int .i64 20))⟩]) (.cond (.t 59) (.seq (.reg [⟨none, some 2, .mv (.c (.bool true))⟩]) .ret) .skip))) (.reg [⟨none, some
 46, .mv (.t 4)⟩, ⟨none, some 47, .bin .add (.t 46) (.c (.int .i64 1))⟩, ⟨none, some 4, .mv (.t 47)⟩])))))))) (.reg [⟨none, some 27, .mv (.t 3)⟩, ⟨none,
 some 28, .bin .add (.t 27) (.c (.int .i64 1))⟩, ⟨none, some 3, .mv (.t 28)⟩])))))) (.seq (.seq (.reg [⟨none, some 60, .load true 4 (.t 1)⟩, ⟨none, some
 61, .call 18 [(.t 60)]⟩, ⟨none, some 62, .bin .neq (.t 61) (.c (.int .i64 0))⟩]) (.cond (.t 62) (.seq (.reg [⟨none, some 2, .mv (.c (.bool false))⟩]) .ret)
 .skip)) (.seq (.seq (.reg [⟨none, some 5, .mv (.c (.int .i64 0))⟩]) (.block 4 (.loop (.seq (.seq (.reg [⟨none, some 63, .mv (.t 5)⟩, ⟨none, some 64, .faddr
 0 (.t 1)⟩, ⟨none, some 65, .load false 1 (.t 64)⟩, ⟨none, some 66, .len (.t 65)⟩, ⟨none, some 67, .bin .lss (.t 63) (.t 66)⟩]) (.cond (.t 67) .skip (.exit
 4))) (.seq (.block 5 (.seq (.reg [⟨none, some 70, .faddr 0 (.t 1)⟩, ⟨none, some 71, .load false 1 (.t 70)⟩, ⟨none, some 72, .mv (.t 5)⟩, ⟨none, some 73,
 .iaddr 4 (.t 71) (.t 72)⟩, ⟨none, some 74, .faddr 2 (.t 73)⟩, ⟨none, some 75, .faddr 1 (.t 74)⟩, ⟨none, some 76, .load false 1 (.t 75)⟩, ⟨none, some 77,
 .faddr 0 (.t 1)⟩, ⟨none, some 78, .load false 1 (.t 77)⟩, ⟨none, some 79, .mv (.t 5)⟩, ⟨none, some 80, .iaddr 4 (.t 78) (.t 79)⟩, ⟨none, some 81, .faddr
 2 (.t 80)⟩, ⟨none, some 82, .faddr 0 (.t 81)⟩, ⟨none, some 83, .load false 1 (.t 82)⟩, ⟨none, some 84, .bin .sub (.t 76) (.t 83)⟩, ⟨none, some 85, .bin
 .geq (.t 84) (.c (.int .i64 50))⟩]) (.cond (.t 85) (.seq (.reg [⟨none, some 2, .mv (.c (.bool true))⟩]) .ret) .skip))) (.reg [⟨none, some 68, .mv (.t 5)⟩,
 ⟨none, some 69, .bin .add (.t 68) (.c (.int .i64 1))⟩, ⟨none, some 5, .mv (.t 69)⟩])))))) (.seq (.reg [⟨none, some 86, .faddr 0 (.t 1)⟩, ⟨none, some 87,
 .load false 1 (.t 86)⟩, ⟨none, some 88, .len (.t 87)⟩, ⟨none, some 89, .bin .gtr (.t 88) (.c (.int .i64 6))⟩, ⟨none, some 90, .mv (.t 89)⟩, ⟨(some (90,
 false)), (some 91), .faddr 1 (.t 1)⟩, ⟨(some (90, false)), (some 92), .load false 1 (.t 91)⟩, ⟨(some (90, false)), (some 93), .len (.t 92)⟩, ⟨(some (90,
 false)), (some 94), .bin .gtr (.t 93) (.c (.int .i64 4))⟩, ⟨none, some 95, .pick (.t 90) (.c (.bool true)) (.t 94)⟩, ⟨none, some 96, .mv (.t 95)⟩, ⟨(some
 (96, false)), (some 97), .faddr 3 (.t 1)⟩, ⟨(some (96, false)), (some 98), .load false 1 (.t 97)⟩, ⟨(some (96, false)), (some 99), .len (.t 98)⟩, ⟨(some
 (96, false)), (some 100), .bin .gtr (.t 99) (.c (.int .i64 10))⟩, ⟨none, some 101, .pick (.t 96) (.c (.bool true)) (.t 100)⟩, ⟨none, some 2, .mv (.t 101)⟩])
 .ret))))))
theorem ok14 : FnOk Try.prog 14 102 1 c14 [.t 2] := ⟨_, _, Try.func14, rfl, rfl, by kernel_rfl, by kernel_rfl⟩
theorem bd14 : bodied Try.prog 14 = true := by kernel_rfl

/-- ferrule/ferrulelaw07.works -/
def c15 : CI := (.seq (.reg [⟨none, some 0, .mv (.c (.bool false))⟩]) (.seq (.reg [⟨none, some 10, .callw 0 3 64 []⟩, ⟨none, some 1, .alloc 3 [.nils, .nils,
 (.int .i64 0), .nils]⟩, ⟨none, none, .stz true 4 (.t 1) (.t 10) []⟩]) (.seq (.reg [⟨none, some 12, .load true 4 (.t 1)⟩, ⟨none, some 13, .call 19 [(.t
 12), (.c (.int .i64 0))]⟩, ⟨none, some 11, .mv (.t 13)⟩, ⟨none, some 14, .extract 0 (.t 11)⟩, ⟨none, some 15, .extract 1 (.t 11)⟩, ⟨none, some 2, .alloc
 4 [(.int .i64 0), (.int .i64 0)]⟩, ⟨none, none, .store true 2 (.t 2) (.t 14) []⟩, ⟨none, some 3, .mv (.t 15)⟩]) (.seq (.reg [⟨none, some 17, .load true
 4 (.t 1)⟩, ⟨none, some 18, .call 26 [(.t 17)]⟩, ⟨none, some 16, .mv (.t 18)⟩, ⟨none, some 19, .extract 0 (.t 16)⟩, ⟨none, some 20, .extract 1 (.t 16)⟩,
 ⟨none, some 4, .mv (.t 19)⟩, ⟨none, some 5, .mv (.t 20)⟩]) (.seq (.reg [⟨none, some 22, .load true 4 (.t 1)⟩, ⟨none, some 23, .bsl 5 3 1 [(.c (.int .i64
 1)), (.c (.int .i64 0)), (.c (.int .i64 1)), (.c (.int .i64 1))] []⟩, ⟨none, some 24, .callz 6 1 65 [] []⟩, ⟨none, some 25, .call 34 [(.t 22), (.t 23),
 (.t 24)]⟩, ⟨none, some 21, .mv (.t 25)⟩, ⟨none, some 26, .extract 0 (.t 21)⟩, ⟨none, some 27, .extract 1 (.t 21)⟩, ⟨none, some 6, .mv (.t 26)⟩, ⟨none,
 some 7, .mv (.t 27)⟩]) (.seq (.reg [⟨none, some 29, .load true 4 (.t 1)⟩, ⟨none, some 30, .callw 7 1 28 [(.t 29)]⟩, ⟨none, some 28, .mv (.t 30)⟩, ⟨none,
 some 31, .extract 0 (.t 28)⟩, ⟨none, some 32, .extract 1 (.t 28)⟩, ⟨none, some 8, .mv (.t 31)⟩, ⟨none, some 9, .mv (.t 32)⟩]) (.seq (.reg [⟨none, some
 33, .mv (.t 3)⟩, ⟨none, some 34, .bin .eql (.t 33) (.c (.int .i64 0))⟩, ⟨none, some 35, .mv (.t 34)⟩, ⟨(some (35, true)), (some 36), .mv (.t 5)⟩, ⟨(some
 (35, true)), (some 37), .bin .eql (.t 36) (.c (.int .i64 0))⟩, ⟨none, some 38, .pick (.t 35) (.t 37) (.c (.bool false))⟩, ⟨none, some 39, .mv (.t 38)⟩,
 ⟨(some (39, true)), (some 40), .mv (.t 7)⟩, ⟨(some (39, true)), (some 41), .bin .eql (.t 40) (.c (.int .i64 0))⟩, ⟨none, some 42, .pick (.t 39) (.t 41)
 (.c (.bool false))⟩, ⟨none, some 43, .mv (.t 42)⟩, ⟨(some (43, true)), (some 44), .mv (.t 9)⟩, ⟨(some (43, true)), (some 45), .bin .eql (.t 44) (.c (.int
 .i64 0))⟩, ⟨none, some 46, .pick (.t 43) (.t 45) (.c (.bool false))⟩, ⟨none, some 47, .mv (.t 46)⟩, ⟨(some (47, true)), (some 48), .load true 2 (.t 2)⟩,
 ⟨(some (47, true)), (some 49), .build [(.int .i64 0), (.int .i64 0)] [(0, 1, (.c (.int .i64 300))), (1, 1, (.c (.int .i64 309)))]⟩, ⟨(some (47, true)),
 (some 50), .eqs false (.node [(0, 1, (.leaf true)), (1, 1, (.leaf true))]) (.t 48) (.t 49)⟩, ⟨none, some 51, .pick (.t 47) (.t 50) (.c (.bool false))⟩,
 ⟨none, some 52, .mv (.t 51)⟩, ⟨(some (52, true)), (some 53), .mv (.t 4)⟩, ⟨(some (52, true)), (some 54), .bin .eql (.t 53) (.c (.int .i64 3))⟩, ⟨none,
 some 55, .pick (.t 52) (.t 54) (.c (.bool false))⟩, ⟨none, some 56, .mv (.t 55)⟩, ⟨(some (56, true)), (some 57), .mv (.t 6)⟩, ⟨(some (56, true)), (some
 58), .bin .eql (.t 57) (.c (.int .i64 3))⟩, ⟨none, some 59, .pick (.t 56) (.t 58) (.c (.bool false))⟩, ⟨none, some 60, .mv (.t 59)⟩, ⟨(some (60, true)),
 (some 61), .mv (.t 8)⟩, ⟨(some (60, true)), (some 62), .bsl 8 3 1 [(.c (.int .i64 2)), (.c (.int .i64 3))] []⟩, ⟨(some (60, true)), (some 63), .call 31
 [(.t 61), (.t 62)]⟩, ⟨none, some 64, .pick (.t 60) (.t 63) (.c (.bool false))⟩, ⟨none, some 0, .mv (.t 64)⟩]) .ret)))))))
theorem ok15 : FnOk Try.prog 15 65 9 c15 [.t 0] := ⟨_, _, Try.func15, rfl, rfl, by kernel_rfl, by kernel_rfl⟩
theorem bd15 : bodied Try.prog 15 = true := by kernel_rfl

/-- ferrule/ferruleref07.Copy -/
def c16 : CI := (.seq (.reg [⟨none, some 1, .box 0 true (.t 0)⟩, ⟨none, some 2, .alloc 1 [.nils, .nils, (.int .i64 0), .nils]⟩]) (.seq (.reg [⟨none, some
 7, .load true 4 (.t 1)⟩, ⟨none, some 3, .alloc 2 [.nils, .nils, (.int .i64 0), .nils]⟩, ⟨none, none, .stz true 4 (.t 3) (.t 7) []⟩]) (.seq (.reg [⟨none,
 some 9, .faddr 0 (.t 1)⟩, ⟨none, some 10, .load false 1 (.t 9)⟩, ⟨none, some 13, .faddr 3 (.t 1)⟩, ⟨none, some 14, .load false 1 (.t 13)⟩, ⟨none, some
 8, .bsl 3 76 4 [] []⟩, ⟨none, some 11, .apd 4 76 4 32 (.t 8) (.t 10) [(.t 13)]⟩, ⟨none, some 12, .bsl 5 70 4 [] [(.t 8), (.t 10)]⟩, ⟨none, some 15, .apd
 6 70 4 32 (.t 12) (.t 14) []⟩, ⟨none, some 16, .faddr 0 (.t 3)⟩, ⟨none, none, .stz false 1 (.t 16) (.t 11) []⟩, ⟨none, some 17, .faddr 3 (.t 3)⟩, ⟨none,
 none, .stz false 1 (.t 17) (.t 15) []⟩]) (.seq (.reg [⟨none, some 18, .faddr 1 (.t 3)⟩, ⟨none, none, .stz false 1 (.t 18) (.c .nils) []⟩]) (.seq (.seq
 (.reg [⟨none, some 4, .mv (.c (.int .i64 0))⟩]) (.block 0 (.loop (.seq (.seq (.reg [⟨none, some 19, .mv (.t 4)⟩, ⟨none, some 20, .faddr 1 (.t 1)⟩, ⟨none,
 some 21, .load false 1 (.t 20)⟩, ⟨none, some 22, .len (.t 21)⟩, ⟨none, some 23, .bin .lss (.t 19) (.t 22)⟩]) (.cond (.t 23) .skip (.exit 0))) (.seq (.block
 1 (.seq (.reg [⟨none, some 26, .bsl 7 106 4 [] []⟩, ⟨none, some 27, .faddr 1 (.t 1)⟩, ⟨none, some 28, .load false 1 (.t 27)⟩, ⟨none, some 29, .mv (.t 4)⟩,
 ⟨none, some 30, .iaddr 1 (.t 28) (.t 29)⟩, ⟨none, some 31, .faddr 0 (.t 30)⟩, ⟨none, some 32, .load false 1 (.t 31)⟩, ⟨none, some 33, .apd 8 106 4 48 (.t
 26) (.t 32) []⟩, ⟨none, some 34, .build [.nils] [(0, 1, (.t 33))]⟩, ⟨none, some 5, .alloc 9 [.nils]⟩, ⟨none, none, .stz true 1 (.t 5) (.t 34) []⟩]) (.seq
 (.seq (.reg [⟨none, some 6, .mv (.c (.int .i64 0))⟩]) (.block 2 (.loop (.seq (.seq (.reg [⟨none, some 35, .mv (.t 6)⟩, ⟨none, some 36, .faddr 0 (.t 5)⟩,
 ⟨none, some 37, .load false 1 (.t 36)⟩, ⟨none, some 38, .len (.t 37)⟩, ⟨none, some 39, .bin .lss (.t 35) (.t 38)⟩]) (.cond (.t 39) .skip (.exit 2))) (.seq
 (.block 3 (.reg [⟨none, some 42, .faddr 0 (.t 5)⟩, ⟨none, some 43, .load false 1 (.t 42)⟩, ⟨none, some 44, .mv (.t 6)⟩, ⟨none, some 46, .faddr 0 (.t 5)⟩,
 ⟨none, some 47, .load false 1 (.t 46)⟩, ⟨none, some 48, .mv (.t 6)⟩, ⟨none, some 49, .iaddr 4 (.t 47) (.t 48)⟩, ⟨none, some 50, .faddr 1 (.t 49)⟩, ⟨none,
 some 51, .load false 1 (.t 50)⟩, ⟨none, some 45, .bsl 10 3 1 [] []⟩, ⟨none, some 52, .apd 11 3 1 8 (.t 45) (.t 51) [(.t 42)]⟩, ⟨none, some 53, .iaddr 4
 (.t 43) (.t 44)⟩, ⟨none, some 54, .faddr 1 (.t 53)⟩, ⟨none, none, .stz false 1 (.t 54) (.t 52) []⟩])) (.reg [⟨none, some 40, .mv (.t 6)⟩, ⟨none, some 41,
 .bin .add (.t 40) (.c (.int .i64 1))⟩, ⟨none, some 6, .mv (.t 41)⟩])))))) (.reg [⟨none, some 55, .faddr 1 (.t 3)⟩, ⟨none, some 56, .load false 1 (.t 55)⟩,
 ⟨none, some 57, .load true 1 (.t 5)⟩, ⟨none, some 58, .bsl 12 66 1 [(.t 57)] []⟩, ⟨none, some 59, .apd 13 66 1 24 (.t 56) (.t 58) []⟩, ⟨none, some 60,
 .faddr 1 (.t 3)⟩, ⟨none, none, .stz false 1 (.t 60) (.t 59) []⟩])))) (.reg [⟨none, some 24, .mv (.t 4)⟩, ⟨none, some 25, .bin .add (.t 24) (.c (.int .i64
 1))⟩, ⟨none, some 4, .mv (.t 25)⟩])))))) (.seq (.reg [⟨none, some 61, .load true 4 (.t 3)⟩, ⟨none, none, .stz true 4 (.t 2) (.t 61) []⟩]) .ret))))))
theorem ok16 : FnOk Try.prog 16 62 14 c16 [.cell 2 true 4] := ⟨_, _, Try.func16, rfl, rfl, by kernel_rfl, by kernel_rfl⟩
theorem bd16 : bodied Try.prog 16 = true := by kernel_rfl

/-- ferrule/parts.Check -/
def c17 : CI := (.seq (.reg [⟨none, some 1, .box 0 true (.t 0)⟩, ⟨none, some 2, .mv (.c (.int .i64 0))⟩]) (.seq (.block 0 (.seq (.reg [⟨none, some 4, .load
 true 4 (.t 1)⟩, ⟨none, some 5, .call 66 [(.t 4)]⟩, ⟨none, some 6, .un .not (.t 5)⟩, ⟨none, some 3, .mv (.t 6)⟩]) (.cond (.t 3) (.seq (.reg [⟨none, some
 2, .mv (.c (.int .i64 70))⟩]) .ret) (.seq (.reg [⟨none, some 8, .faddr 3 (.t 1)⟩, ⟨none, some 9, .load false 1 (.t 8)⟩, ⟨none, some 10, .call 67 [(.t 9)]⟩,
 ⟨none, some 7, .mv (.t 10)⟩]) (.cond (.t 7) (.seq (.reg [⟨none, some 2, .mv (.c (.int .i64 71))⟩]) .ret) .skip))))) (.seq (.reg [⟨none, some 2, .mv (.c
 (.int .i64 0))⟩]) .ret)))
theorem ok17 : FnOk Try.prog 17 11 1 c17 [.t 2] := ⟨_, _, Try.func17, rfl, rfl, by kernel_rfl, by kernel_rfl⟩
theorem bd17 : bodied Try.prog 17 = true := by kernel_rfl

/-- ferrule/ferruleref07.Check -/
def c18 : CI := (.seq (.reg [⟨none, some 1, .box 0 true (.t 0)⟩, ⟨none, some 2, .mv (.c (.int .i64 0))⟩]) (.seq (.seq (.reg [⟨none, some 7, .load true
 4 (.t 1)⟩, ⟨none, some 8, .call 68 [(.t 7)]⟩, ⟨none, some 9, .un .not (.t 8)⟩]) (.cond (.t 9) (.seq (.reg [⟨none, some 2, .mv (.c (.int .i64 70))⟩]) .ret)
 .skip)) (.seq (.seq (.reg [⟨none, some 3, .mv (.c (.int .i64 0))⟩]) (.block 0 (.loop (.seq (.seq (.reg [⟨none, some 10, .mv (.t 3)⟩, ⟨none, some 11, .faddr
 3 (.t 1)⟩, ⟨none, some 12, .load false 1 (.t 11)⟩, ⟨none, some 13, .len (.t 12)⟩, ⟨none, some 14, .bin .lss (.t 10) (.t 13)⟩]) (.cond (.t 14) .skip (.exit
 0))) (.seq (.block 1 (.seq (.reg [⟨none, some 4, .mv (.c (.int .i64 0))⟩]) (.block 2 (.loop (.seq (.seq (.reg [⟨none, some 17, .mv (.t 4)⟩, ⟨none, some
 18, .mv (.t 3)⟩, ⟨none, some 19, .bin .lss (.t 17) (.t 18)⟩]) (.cond (.t 19) .skip (.exit 2))) (.seq (.block 3 (.seq (.reg [⟨none, some 22, .faddr 3 (.t
 1)⟩, ⟨none, some 23, .load false 1 (.t 22)⟩, ⟨none, some 24, .mv (.t 4)⟩, ⟨none, some 25, .iaddr 4 (.t 23) (.t 24)⟩, ⟨none, some 26, .load true 4 (.t 25)⟩,
 ⟨none, some 27, .faddr 3 (.t 1)⟩, ⟨none, some 28, .load false 1 (.t 27)⟩, ⟨none, some 29, .mv (.t 3)⟩, ⟨none, some 30, .iaddr 4 (.t 28) (.t 29)⟩, ⟨none,
 some 31, .load true 4 (.t 30)⟩, ⟨none, some 5, .alloc 1 [(.int .i64 0), (.int .i64 0), (.int .i64 0), (.int .i64 0)]⟩, ⟨none, some 6, .alloc 2 [(.int .i64
 0), (.int .i64 0), (.int .i64 0), (.int .i64 0)]⟩, ⟨none, none, .store true 4 (.t 5) (.t 26) [(.t 27), (.t 28), (.t 30)]⟩, ⟨none, none, .store true 4 (.t
 6) (.t 31) []⟩]) (.seq (.reg [⟨none, some 32, .faddr 0 (.t 5)⟩, ⟨none, some 33, .load false 1 (.t 32)⟩, ⟨none, some 34, .faddr 0 (.t 6)⟩, ⟨none, some 35,
 .load false 1 (.t 34)⟩, ⟨none, some 36, .bin .eql (.t 33) (.t 35)⟩, ⟨none, some 37, .mv (.t 36)⟩, ⟨(some (37, true)), (some 38), .faddr 1 (.t 5)⟩, ⟨(some
 (37, true)), (some 39), .load false 1 (.t 38)⟩, ⟨(some (37, true)), (some 40), .faddr 1 (.t 6)⟩, ⟨(some (37, true)), (some 41), .load false 1 (.t 40)⟩,
 ⟨(some (37, true)), (some 42), .bin .eql (.t 39) (.t 41)⟩, ⟨none, some 43, .pick (.t 37) (.t 42) (.c (.bool false))⟩, ⟨none, some 44, .mv (.t 43)⟩, ⟨(some
 (44, true)), (some 45), .faddr 2 (.t 5)⟩, ⟨(some (44, true)), (some 46), .load false 1 (.t 45)⟩, ⟨(some (44, true)), (some 47), .faddr 2 (.t 6)⟩, ⟨(some
 (44, true)), (some 48), .load false 1 (.t 47)⟩, ⟨(some (44, true)), (some 49), .bin .eql (.t 46) (.t 48)⟩, ⟨none, some 50, .pick (.t 44) (.t 49) (.c (.bool
 false))⟩, ⟨none, some 51, .mv (.t 50)⟩, ⟨(some (51, true)), (some 52), .faddr 3 (.t 5)⟩, ⟨(some (51, true)), (some 53), .load false 1 (.t 52)⟩, ⟨(some
 (51, true)), (some 54), .faddr 3 (.t 6)⟩, ⟨(some (51, true)), (some 55), .load false 1 (.t 54)⟩, ⟨(some (51, true)), (some 56), .bin .neq (.t 53) (.t 55)⟩,
 ⟨none, some 57, .pick (.t 51) (.t 56) (.c (.bool false))⟩]) (.cond (.t 57) (.seq (.reg [⟨none, some 2, .mv (.c (.int .i64 71))⟩]) .ret) .skip)))) (.reg
 [⟨none, some 20, .mv (.t 4)⟩, ⟨none, some 21, .bin .add (.t 20) (.c (.int .i64 1))⟩, ⟨none, some 4, .mv (.t 21)⟩]))))))) (.reg [⟨none, some 15, .mv (.t
 3)⟩, ⟨none, some 16, .bin .add (.t 15) (.c (.int .i64 1))⟩, ⟨none, some 3, .mv (.t 16)⟩])))))) (.seq (.reg [⟨none, some 2, .mv (.c (.int .i64 0))⟩]) .ret))))
theorem ok18 : FnOk Try.prog 18 58 3 c18 [.t 2] := ⟨_, _, Try.func18, rfl, rfl, by kernel_rfl, by kernel_rfl⟩
theorem bd18 : bodied Try.prog 18 = true := by kernel_rfl

/-- ferrule/parts.Length -/
def c19 : CI := (.seq (.reg [⟨none, some 2, .box 0 true (.t 0)⟩, ⟨none, some 4, .alloc 1 [(.int .i64 0), (.int .i64 0)]⟩, ⟨none, some 5, .mv (.c (.int
 .i64 0))⟩]) (.seq (.reg [⟨none, some 10, .load true 4 (.t 2)⟩, ⟨none, some 11, .load true 4 (.t 2)⟩, ⟨none, some 12, .mv (.t 1)⟩, ⟨none, some 6, .alloc
 6 [.nils, .nils, (.int .i64 0), .nils, .nils]⟩, ⟨none, some 13, .call 70 [(.t 11), (.t 12)]⟩, ⟨none, some 14, .callz 2 4 69 [(.t 10), (.t 13)] []⟩, ⟨none,
 some 9, .mv (.t 14)⟩, ⟨none, some 15, .extract 0 (.t 9)⟩, ⟨none, some 16, .extract 1 (.t 9)⟩, ⟨none, none, .stz true 5 (.t 6) (.t 15) []⟩, ⟨none, some
 7, .mv (.t 16)⟩]) (.seq (.seq (.reg [⟨none, some 17, .mv (.t 7)⟩, ⟨none, some 18, .bin .neq (.t 17) (.c (.int .i64 0))⟩]) (.cond (.t 18) (.seq (.reg [⟨none,
 some 19, .build [(.int .i64 0), (.int .i64 0)] []⟩, ⟨none, some 20, .mv (.t 7)⟩, ⟨none, none, .store true 2 (.t 4) (.t 19) []⟩, ⟨none, some 5, .mv (.t
 20)⟩]) .ret) .skip)) (.seq (.reg [⟨none, some 21, .faddr 4 (.t 6)⟩, ⟨none, some 22, .load false 1 (.t 21)⟩, ⟨none, some 23, .mv (.t 1)⟩, ⟨none, some 24,
 .iaddr 1 (.t 22) (.t 23)⟩, ⟨none, some 25, .load false 1 (.t 24)⟩, ⟨none, some 8, .mv (.t 25)⟩]) (.seq (.reg [⟨none, some 26, .mv (.t 8)⟩, ⟨none, some
 27, .iaddr 2 (.t 26) (.c (.int .i64 0))⟩, ⟨none, some 28, .faddr 0 (.t 27)⟩, ⟨none, some 29, .load false 1 (.t 28)⟩, ⟨none, some 30, .mv (.t 8)⟩, ⟨none,
 some 31, .mv (.t 8)⟩, ⟨none, some 32, .len (.t 31)⟩, ⟨none, some 33, .bin .sub (.t 32) (.c (.int .i64 1))⟩, ⟨none, some 34, .iaddr 2 (.t 30) (.t 33)⟩,
 ⟨none, some 35, .faddr 1 (.t 34)⟩, ⟨none, some 36, .load false 1 (.t 35)⟩, ⟨none, some 37, .build [(.int .i64 0), (.int .i64 0)] [(0, 1, (.t 29)), (1,
 1, (.t 36))]⟩, ⟨none, none, .store true 2 (.t 4) (.t 37) []⟩, ⟨none, some 5, .mv (.c (.int .i64 0))⟩]) .ret)))))
theorem ok19 : FnOk Try.prog 19 38 7 c19 [.cell 4 true 2, .t 5] := ⟨_, _, Try.func19, rfl, rfl, by kernel_rfl, by kernel_rfl⟩
theorem bd19 : bodied Try.prog 19 = true := by kernel_rfl

/-- ferrule/parts.Fewest -/
def c26 : CI := (.seq (.reg [⟨none, some 1, .box 0 true (.t 0)⟩, ⟨none, some 2, .mv (.c (.int .i64 0))⟩, ⟨none, some 3, .mv (.c (.int .i64 0))⟩]) (.seq
 (.reg [⟨none, some 7, .load true 4 (.t 1)⟩, ⟨none, some 8, .callw 1 1 30 [(.t 7)]⟩, ⟨none, some 6, .mv (.t 8)⟩, ⟨none, some 9, .extract 0 (.t 6)⟩, ⟨none,
 some 10, .extract 1 (.t 6)⟩, ⟨none, some 4, .mv (.t 9)⟩, ⟨none, some 5, .mv (.t 10)⟩]) (.seq (.reg [⟨none, some 11, .mv (.t 4)⟩, ⟨none, some 12, .len (.t
 11)⟩, ⟨none, some 13, .mv (.t 5)⟩, ⟨none, some 2, .mv (.t 12)⟩, ⟨none, some 3, .mv (.t 13)⟩]) .ret)))
theorem ok26 : FnOk Try.prog 26 14 2 c26 [.t 2, .t 3] := ⟨_, _, Try.func26, rfl, rfl, by kernel_rfl, by kernel_rfl⟩
theorem bd26 : bodied Try.prog 26 = true := by kernel_rfl

/-- ferrule/parts.Needed -/
def c28 : CI := (.seq (.reg [⟨none, some 1, .box 0 true (.t 0)⟩, ⟨none, some 2, .mv (.c .nils)⟩, ⟨none, some 3, .mv (.c (.int .i64 0))⟩]) (.seq (.reg [⟨none,
 some 7, .load true 4 (.t 1)⟩, ⟨none, some 8, .callw 1 1 84 [(.t 7)]⟩, ⟨none, some 6, .mv (.t 8)⟩, ⟨none, some 9, .extract 0 (.t 6)⟩, ⟨none, some 10, .extract
 1 (.t 6)⟩, ⟨none, some 4, .alloc 2 [.nils]⟩, ⟨none, none, .stz false 1 (.t 4) (.t 9) []⟩, ⟨none, some 5, .mv (.t 10)⟩]) (.seq (.seq (.reg [⟨none, some
 11, .mv (.t 5)⟩, ⟨none, some 12, .bin .neq (.t 11) (.c (.int .i64 0))⟩]) (.cond (.t 12) (.seq (.reg [⟨none, some 13, .mv (.t 5)⟩, ⟨none, some 2, .mv (.c
 .nils)⟩, ⟨none, some 3, .mv (.t 13)⟩]) .ret) .skip)) (.seq (.reg [⟨none, some 14, .faddr 0 (.t 1)⟩, ⟨none, some 15, .load false 1 (.t 14)⟩, ⟨none, some
 16, .len (.t 15)⟩, ⟨none, some 17, .mkfn 86 [(.t 4)]⟩, ⟨none, some 18, .callw 3 1 85 [(.t 16), (.t 17)]⟩, ⟨none, some 2, .mv (.t 18)⟩, ⟨none, some 3, .mv
 (.c (.int .i64 0))⟩]) .ret))))
theorem ok28 : FnOk Try.prog 28 19 4 c28 [.t 2, .t 3] := ⟨_, _, Try.func28, rfl, rfl, by kernel_rfl, by kernel_rfl⟩
theorem bd28 : bodied Try.prog 28 = true := by kernel_rfl

/-- ferrule/parts.Keep -/
def c30 : CI := (.seq (.reg [⟨none, some 1, .box 0 true (.t 0)⟩, ⟨none, some 2, .mv (.c .nils)⟩, ⟨none, some 3, .mv (.c (.int .i64 0))⟩]) (.seq (.reg [⟨none,
 some 7, .load true 4 (.t 1)⟩, ⟨none, some 8, .callw 1 1 84 [(.t 7)]⟩, ⟨none, some 6, .mv (.t 8)⟩, ⟨none, some 9, .extract 0 (.t 6)⟩, ⟨none, some 10, .extract
 1 (.t 6)⟩, ⟨none, some 4, .mv (.t 9)⟩, ⟨none, some 5, .mv (.t 10)⟩]) (.seq (.seq (.reg [⟨none, some 11, .mv (.t 5)⟩, ⟨none, some 12, .bin .neq (.t 11)
 (.c (.int .i64 0))⟩]) (.cond (.t 12) (.seq (.reg [⟨none, some 13, .mv (.t 5)⟩, ⟨none, some 2, .mv (.c .nils)⟩, ⟨none, some 3, .mv (.t 13)⟩]) .ret) .skip))
 (.seq (.reg [⟨none, some 14, .mv (.t 4)⟩, ⟨none, some 15, .iaddr 1 (.t 14) (.c (.int .i64 0))⟩, ⟨none, some 16, .load false 1 (.t 15)⟩, ⟨none, some 2,
 .mv (.t 16)⟩, ⟨none, some 3, .mv (.c (.int .i64 0))⟩]) .ret))))
theorem ok30 : FnOk Try.prog 30 17 2 c30 [.t 2, .t 3] := ⟨_, _, Try.func30, rfl, rfl, by kernel_rfl, by kernel_rfl⟩
theorem bd30 : bodied Try.prog 30 = true := by kernel_rfl

/-- ferrule/ferrulelaw07.sameInts -/
def c31 : CI := (.seq (.reg [⟨none, some 4, .mv (.c (.bool false))⟩]) (.seq (.seq (.reg [⟨none, some 6, .mv (.t 0)⟩, ⟨none, some 7, .len (.t 6)⟩, ⟨none,
 some 8, .mv (.t 1)⟩, ⟨none, some 9, .len (.t 8)⟩, ⟨none, some 10, .bin .neq (.t 7) (.t 9)⟩]) (.cond (.t 10) (.seq (.reg [⟨none, some 4, .mv (.c (.bool
 false))⟩]) .ret) .skip)) (.seq (.seq (.reg [⟨none, some 5, .mv (.c (.int .i64 0))⟩]) (.block 0 (.loop (.seq (.seq (.reg [⟨none, some 11, .mv (.t 5)⟩, ⟨none,
 some 12, .mv (.t 0)⟩, ⟨none, some 13, .len (.t 12)⟩, ⟨none, some 14, .bin .lss (.t 11) (.t 13)⟩]) (.cond (.t 14) .skip (.exit 0))) (.seq (.block 1 (.seq
 (.reg [⟨none, some 17, .mv (.t 0)⟩, ⟨none, some 18, .mv (.t 5)⟩, ⟨none, some 19, .iaddr 1 (.t 17) (.t 18)⟩, ⟨none, some 20, .load false 1 (.t 19)⟩, ⟨none,
 some 21, .mv (.t 1)⟩, ⟨none, some 22, .mv (.t 5)⟩, ⟨none, some 23, .iaddr 1 (.t 21) (.t 22)⟩, ⟨none, some 24, .load false 1 (.t 23)⟩, ⟨none, some 25, .bin
 .neq (.t 20) (.t 24)⟩]) (.cond (.t 25) (.seq (.reg [⟨none, some 4, .mv (.c (.bool false))⟩]) .ret) .skip))) (.reg [⟨none, some 15, .mv (.t 5)⟩, ⟨none,
 some 16, .bin .add (.t 15) (.c (.int .i64 1))⟩, ⟨none, some 5, .mv (.t 16)⟩])))))) (.seq (.reg [⟨none, some 4, .mv (.c (.bool true))⟩]) .ret))))
theorem ok31 : FnOk Try.prog 31 26 0 c31 [.t 4] := ⟨_, _, Try.func31, rfl, rfl, by kernel_rfl, by kernel_rfl⟩
theorem bd31 : bodied Try.prog 31 = true := by kernel_rfl

/-- ferrule/ferruleref07.IsTask -/
def c33 : CI := (.seq (.reg [⟨none, some 3, .box 0 true (.t 0)⟩, ⟨none, some 6, .mv (.c (.bool false))⟩]) (.seq (.seq (.reg [⟨none, some 9, .mv (.t 1)⟩,
 ⟨none, some 10, .len (.t 9)⟩, ⟨none, some 11, .faddr 0 (.t 3)⟩, ⟨none, some 12, .load false 1 (.t 11)⟩, ⟨none, some 13, .len (.t 12)⟩, ⟨none, some 14,
 .bin .neq (.t 10) (.t 13)⟩, ⟨none, some 15, .mv (.t 14)⟩, ⟨(some (15, false)), (some 16), .mv (.t 2)⟩, ⟨(some (15, false)), (some 17), .len (.t 16)⟩, ⟨(some
 (15, false)), (some 18), .bin .gtr (.t 17) (.c (.int .i64 10))⟩, ⟨none, some 19, .pick (.t 15) (.c (.bool true)) (.t 18)⟩]) (.cond (.t 19) (.seq (.reg
 [⟨none, some 6, .mv (.c (.bool false))⟩]) .ret) .skip)) (.seq (.seq (.reg [⟨none, some 7, .mv (.c (.int .i64 0))⟩]) (.block 0 (.loop (.seq (.seq (.reg
 [⟨none, some 20, .mv (.t 7)⟩, ⟨none, some 21, .mv (.t 1)⟩, ⟨none, some 22, .len (.t 21)⟩, ⟨none, some 23, .bin .lss (.t 20) (.t 22)⟩]) (.cond (.t 23) .skip
 (.exit 0))) (.seq (.block 1 (.seq (.reg [⟨none, some 26, .mv (.t 1)⟩, ⟨none, some 27, .mv (.t 7)⟩, ⟨none, some 28, .iaddr 1 (.t 26) (.t 27)⟩, ⟨none, some
 29, .load false 1 (.t 28)⟩, ⟨none, some 30, .call 90 [(.t 29), (.c (.int .i64 0)), (.c (.int .i64 10))]⟩, ⟨none, some 31, .un .not (.t 30)⟩]) (.cond (.t
 31) (.seq (.reg [⟨none, some 6, .mv (.c (.bool false))⟩]) .ret) .skip))) (.reg [⟨none, some 24, .mv (.t 7)⟩, ⟨none, some 25, .bin .add (.t 24) (.c (.int
 .i64 1))⟩, ⟨none, some 7, .mv (.t 25)⟩])))))) (.seq (.seq (.reg [⟨none, some 8, .mv (.c (.int .i64 0))⟩]) (.block 2 (.loop (.seq (.seq (.reg [⟨none, some
 32, .mv (.t 8)⟩, ⟨none, some 33, .mv (.t 2)⟩, ⟨none, some 34, .len (.t 33)⟩, ⟨none, some 35, .bin .lss (.t 32) (.t 34)⟩]) (.cond (.t 35) .skip (.exit 2)))
 (.seq (.block 3 (.seq (.reg [⟨none, some 38, .load true 4 (.t 3)⟩, ⟨none, some 39, .mv (.t 2)⟩, ⟨none, some 40, .mv (.t 8)⟩, ⟨none, some 41, .iaddr 2 (.t
 39) (.t 40)⟩, ⟨none, some 42, .faddr 0 (.t 41)⟩, ⟨none, some 43, .load false 1 (.t 42)⟩, ⟨none, some 44, .mv (.t 2)⟩, ⟨none, some 45, .mv (.t 8)⟩, ⟨none,
 some 46, .iaddr 2 (.t 44) (.t 45)⟩, ⟨none, some 47, .faddr 1 (.t 46)⟩, ⟨none, some 48, .load false 1 (.t 47)⟩, ⟨none, some 49, .call 53 [(.t 38), (.t 43),
 (.t 48)]⟩, ⟨none, some 50, .un .not (.t 49)⟩]) (.cond (.t 50) (.seq (.reg [⟨none, some 6, .mv (.c (.bool false))⟩]) .ret) .skip))) (.reg [⟨none, some 36,
 .mv (.t 8)⟩, ⟨none, some 37, .bin .add (.t 36) (.c (.int .i64 1))⟩, ⟨none, some 8, .mv (.t 37)⟩])))))) (.seq (.reg [⟨none, some 6, .mv (.c (.bool true))⟩])
 .ret)))))
theorem ok33 : FnOk Try.prog 33 51 1 c33 [.t 6] := ⟨_, _, Try.func33, rfl, rfl, by kernel_rfl, by kernel_rfl⟩
theorem bd33 : bodied Try.prog 33 = true := by kernel_rfl

/-- ferrule/parts.Most -/
def c34 : CI := (.seq (.reg [⟨none, some 3, .box 0 true (.t 0)⟩, ⟨none, some 6, .mv (.c (.int .i64 0))⟩, ⟨none, some 7, .mv (.c (.int .i64 0))⟩]) (.seq
 (.reg [⟨none, some 11, .load true 4 (.t 3)⟩, ⟨none, some 12, .mv (.t 1)⟩, ⟨none, some 13, .mv (.t 2)⟩, ⟨none, some 14, .callw 1 3 91 [(.t 11), (.t 12),
 (.t 13)]⟩, ⟨none, some 10, .mv (.t 14)⟩, ⟨none, some 15, .extract 0 (.t 10)⟩, ⟨none, some 16, .extract 1 (.t 10)⟩, ⟨none, some 8, .alloc 4 [.nils, .nils,
 .nils]⟩, ⟨none, none, .stz true 3 (.t 8) (.t 15) []⟩, ⟨none, some 9, .mv (.t 16)⟩]) (.seq (.seq (.reg [⟨none, some 17, .mv (.t 9)⟩, ⟨none, some 18, .bin
 .neq (.t 17) (.c (.int .i64 0))⟩]) (.cond (.t 18) (.seq (.reg [⟨none, some 19, .mv (.t 9)⟩, ⟨none, some 6, .mv (.c (.int .i64 0))⟩, ⟨none, some 7, .mv
 (.t 19)⟩]) .ret) .skip)) (.seq (.reg [⟨none, some 20, .call 92 [(.t 8)]⟩, ⟨none, some 6, .mv (.t 20)⟩, ⟨none, some 7, .mv (.c (.int .i64 0))⟩]) .ret))))
theorem ok34 : FnOk Try.prog 34 21 5 c34 [.t 6, .t 7] := ⟨_, _, Try.func34, rfl, rfl, by kernel_rfl, by kernel_rfl⟩
theorem bd34 : bodied Try.prog 34 = true := by kernel_rfl

/-- ferrule/ferrulelaw07.ready -/
def c41 : CI := (.seq (.reg [⟨none, some 1, .box 0 true (.t 0)⟩, ⟨none, some 2, .mv (.c (.bool false))⟩]) (.seq (.reg [⟨none, some 3, .load true 4 (.t
 1)⟩, ⟨none, some 4, .call 14 [(.t 3)]⟩, ⟨none, some 5, .un .not (.t 4)⟩, ⟨none, some 6, .mv (.t 5)⟩, ⟨(some (6, true)), (some 7), .load true 4 (.t 1)⟩,
 ⟨(some (6, true)), (some 8), .call 54 [(.t 7)]⟩, ⟨(some (6, true)), (some 9), .bin .eql (.t 8) (.c (.int .i64 0))⟩, ⟨none, some 10, .pick (.t 6) (.t 9)
 (.c (.bool false))⟩, ⟨none, some 2, .mv (.t 10)⟩]) .ret))
theorem ok41 : FnOk Try.prog 41 11 1 c41 [.t 2] := ⟨_, _, Try.func41, rfl, rfl, by kernel_rfl, by kernel_rfl⟩
theorem bd41 : bodied Try.prog 41 = true := by kernel_rfl

/-- ferrule/ferruleref07.CanBe -/
def c44 : CI := (.seq (.reg [⟨none, some 3, .box 0 true (.t 0)⟩, ⟨none, some 6, .mv (.c (.bool false))⟩]) (.seq (.seq (.reg [⟨none, some 7, .mv (.c (.int
 .i64 0))⟩]) (.block 0 (.loop (.seq (.seq (.reg [⟨none, some 9, .mv (.t 7)⟩, ⟨none, some 10, .faddr 3 (.t 3)⟩, ⟨none, some 11, .load false 1 (.t 10)⟩, ⟨none,
 some 12, .len (.t 11)⟩, ⟨none, some 13, .bin .lss (.t 9) (.t 12)⟩]) (.cond (.t 13) .skip (.exit 0))) (.seq (.block 1 (.seq (.reg [⟨none, some 16, .faddr
 3 (.t 3)⟩, ⟨none, some 17, .load false 1 (.t 16)⟩, ⟨none, some 18, .mv (.t 7)⟩, ⟨none, some 19, .iaddr 4 (.t 17) (.t 18)⟩, ⟨none, some 20, .load true 4
 (.t 19)⟩, ⟨none, some 8, .alloc 1 [(.int .i64 0), (.int .i64 0), (.int .i64 0), (.int .i64 0)]⟩, ⟨none, none, .store true 4 (.t 8) (.t 20) []⟩]) (.seq
 (.reg [⟨none, some 21, .faddr 0 (.t 8)⟩, ⟨none, some 22, .load false 1 (.t 21)⟩, ⟨none, some 23, .mv (.t 1)⟩, ⟨none, some 24, .bin .eql (.t 22) (.t 23)⟩,
 ⟨none, some 25, .mv (.t 24)⟩, ⟨(some (25, true)), (some 26), .load true 4 (.t 3)⟩, ⟨(some (25, true)), (some 27), .mv (.t 1)⟩, ⟨(some (25, true)), (some
 28), .mv (.t 2)⟩, ⟨(some (25, true)), (some 29), .faddr 1 (.t 8)⟩, ⟨(some (25, true)), (some 30), .load false 1 (.t 29)⟩, ⟨(some (25, true)), (some 31),
 .faddr 2 (.t 8)⟩, ⟨(some (25, true)), (some 32), .load false 1 (.t 31)⟩, ⟨(some (25, true)), (some 34), .faddr 3 (.t 8)⟩, ⟨(some (25, true)), (some 35),
 .load false 1 (.t 34)⟩, ⟨(some (25, true)), (some 36), .bin .eql (.t 35) (.c (.int .i64 1))⟩, ⟨(some (25, true)), (some 33), .call 46 [(.t 26), (.t 27),
 (.t 28), (.t 30), (.t 32)]⟩, ⟨(some (25, true)), (some 37), .eqb true (.t 33) (.t 36)⟩, ⟨none, some 38, .pick (.t 25) (.t 37) (.c (.bool false))⟩]) (.cond
 (.t 38) (.seq (.reg [⟨none, some 6, .mv (.c (.bool false))⟩]) .ret) .skip)))) (.reg [⟨none, some 14, .mv (.t 7)⟩, ⟨none, some 15, .bin .add (.t 14) (.c
 (.int .i64 1))⟩, ⟨none, some 7, .mv (.t 15)⟩])))))) (.seq (.reg [⟨none, some 39, .mv (.t 2)⟩, ⟨none, some 40, .faddr 0 (.t 3)⟩, ⟨none, some 41, .load false
 1 (.t 40)⟩, ⟨none, some 42, .mv (.t 1)⟩, ⟨none, some 43, .iaddr 4 (.t 41) (.t 42)⟩, ⟨none, some 44, .faddr 2 (.t 43)⟩, ⟨none, some 45, .faddr 0 (.t 44)⟩,
 ⟨none, some 46, .load false 1 (.t 45)⟩, ⟨none, some 47, .faddr 0 (.t 3)⟩, ⟨none, some 48, .load false 1 (.t 47)⟩, ⟨none, some 49, .mv (.t 1)⟩, ⟨none, some
 50, .iaddr 4 (.t 48) (.t 49)⟩, ⟨none, some 51, .faddr 2 (.t 50)⟩, ⟨none, some 52, .faddr 1 (.t 51)⟩, ⟨none, some 53, .load false 1 (.t 52)⟩, ⟨none, some
 54, .call 90 [(.t 39), (.t 46), (.t 53)]⟩, ⟨none, some 6, .mv (.t 54)⟩]) .ret)))
theorem ok44 : FnOk Try.prog 44 55 2 c44 [.t 6] := ⟨_, _, Try.func44, rfl, rfl, by kernel_rfl, by kernel_rfl⟩
theorem bd44 : bodied Try.prog 44 = true := by kernel_rfl

/-- ferrule/ferruleref07.FitsAt -/
def c46 : CI := (.seq (.reg [⟨none, some 5, .box 0 true (.t 0)⟩, ⟨none, some 10, .mv (.c (.bool false))⟩]) (.seq (.reg [⟨none, some 13, .faddr 0 (.t 5)⟩,
 ⟨none, some 14, .load false 1 (.t 13)⟩, ⟨none, some 15, .mv (.t 1)⟩, ⟨none, some 16, .iaddr 4 (.t 14) (.t 15)⟩, ⟨none, some 17, .load true 4 (.t 16)⟩,
 ⟨none, some 18, .faddr 1 (.t 5)⟩, ⟨none, some 19, .load false 1 (.t 18)⟩, ⟨none, some 20, .mv (.t 3)⟩, ⟨none, some 21, .iaddr 1 (.t 19) (.t 20)⟩, ⟨none,
 some 22, .faddr 0 (.t 21)⟩, ⟨none, some 23, .load false 1 (.t 22)⟩, ⟨none, some 24, .mv (.t 4)⟩, ⟨none, some 25, .iaddr 4 (.t 23) (.t 24)⟩, ⟨none, some
 26, .load true 4 (.t 25)⟩, ⟨none, some 11, .alloc 1 [(.int .i64 0), (.int .i64 0), (.int .i64 0), (.int .i64 0)]⟩, ⟨none, some 12, .alloc 2 [(.int .i64
 0), .nils, (.int .i64 0), (.int .i64 0)]⟩, ⟨none, none, .store true 4 (.t 11) (.t 17) [(.t 18), (.t 19), (.t 22), (.t 23), (.t 25)]⟩, ⟨none, none, .stz
 true 4 (.t 12) (.t 26) []⟩]) (.seq (.reg [⟨none, some 27, .faddr 0 (.t 11)⟩, ⟨none, some 28, .load false 1 (.t 27)⟩, ⟨none, some 29, .faddr 0 (.t 12)⟩,
 ⟨none, some 30, .load false 1 (.t 29)⟩, ⟨none, some 31, .bin .eql (.t 28) (.t 30)⟩, ⟨none, some 32, .mv (.t 31)⟩, ⟨(some (32, true)), (some 33), .faddr
 1 (.t 12)⟩, ⟨(some (32, true)), (some 34), .load false 1 (.t 33)⟩, ⟨(some (32, true)), (some 35), .faddr 1 (.t 11)⟩, ⟨(some (32, true)), (some 36), .load
 false 1 (.t 35)⟩, ⟨(some (32, true)), (some 37), .call 51 [(.t 34), (.t 36)]⟩, ⟨none, some 38, .pick (.t 32) (.t 37) (.c (.bool false))⟩, ⟨none, some 39,
 .mv (.t 38)⟩, ⟨(some (39, true)), (some 40), .mv (.t 2)⟩, ⟨(some (39, true)), (some 41), .faddr 2 (.t 12)⟩, ⟨(some (39, true)), (some 42), .faddr 0 (.t
 41)⟩, ⟨(some (39, true)), (some 43), .load false 1 (.t 42)⟩, ⟨(some (39, true)), (some 44), .faddr 2 (.t 12)⟩, ⟨(some (39, true)), (some 45), .faddr 1
 (.t 44)⟩, ⟨(some (39, true)), (some 46), .load false 1 (.t 45)⟩, ⟨(some (39, true)), (some 47), .faddr 2 (.t 5)⟩, ⟨(some (39, true)), (some 48), .load
 false 1 (.t 47)⟩, ⟨(some (39, true)), (some 49), .bin .add (.t 46) (.t 48)⟩, ⟨(some (39, true)), (some 50), .call 90 [(.t 40), (.t 43), (.t 49)]⟩, ⟨none,
 some 51, .pick (.t 39) (.t 50) (.c (.bool false))⟩, ⟨none, some 10, .mv (.t 51)⟩]) .ret)))
theorem ok46 : FnOk Try.prog 46 52 3 c46 [.t 10] := ⟨_, _, Try.func46, rfl, rfl, by kernel_rfl, by kernel_rfl⟩
theorem bd46 : bodied Try.prog 46 = true := by kernel_rfl

/-- ferrule/ferruleref07.IsSpare -/
def c47 : CI := (.seq (.reg [⟨none, some 2, .box 0 true (.t 0)⟩, ⟨none, some 4, .mv (.c (.bool false))⟩]) (.seq (.reg [⟨none, some 5, .mv (.t 1)⟩, ⟨none,
 some 6, .faddr 0 (.t 2)⟩, ⟨none, some 7, .load false 1 (.t 6)⟩, ⟨none, some 8, .len (.t 7)⟩, ⟨none, some 9, .bin .sub (.t 8) (.c (.int .i64 1))⟩, ⟨none,
 some 10, .call 90 [(.t 5), (.c (.int .i64 0)), (.t 9)]⟩, ⟨none, some 4, .mv (.t 10)⟩]) .ret))
theorem ok47 : FnOk Try.prog 47 11 1 c47 [.t 4] := ⟨_, _, Try.func47, rfl, rfl, by kernel_rfl, by kernel_rfl⟩
theorem bd47 : bodied Try.prog 47 = true := by kernel_rfl

/-- ferrule/ferruleref07.Ascending -/
def c50 : CI := (.seq (.reg [⟨none, some 2, .mv (.c (.bool false))⟩]) (.seq (.seq (.reg [⟨none, some 3, .mv (.c (.int .i64 1))⟩]) (.block 0 (.loop (.seq
 (.seq (.reg [⟨none, some 4, .mv (.t 3)⟩, ⟨none, some 5, .mv (.t 0)⟩, ⟨none, some 6, .len (.t 5)⟩, ⟨none, some 7, .bin .lss (.t 4) (.t 6)⟩]) (.cond (.t
 7) .skip (.exit 0))) (.seq (.block 1 (.seq (.reg [⟨none, some 10, .mv (.t 0)⟩, ⟨none, some 11, .mv (.t 3)⟩, ⟨none, some 12, .iaddr 1 (.t 10) (.t 11)⟩,
 ⟨none, some 13, .load false 1 (.t 12)⟩, ⟨none, some 14, .mv (.t 0)⟩, ⟨none, some 15, .mv (.t 3)⟩, ⟨none, some 16, .bin .sub (.t 15) (.c (.int .i64 1))⟩,
 ⟨none, some 17, .iaddr 1 (.t 14) (.t 16)⟩, ⟨none, some 18, .load false 1 (.t 17)⟩, ⟨none, some 19, .bin .leq (.t 13) (.t 18)⟩]) (.cond (.t 19) (.seq (.reg
 [⟨none, some 2, .mv (.c (.bool false))⟩]) .ret) .skip))) (.reg [⟨none, some 8, .mv (.t 3)⟩, ⟨none, some 9, .bin .add (.t 8) (.c (.int .i64 1))⟩, ⟨none,
 some 3, .mv (.t 9)⟩])))))) (.seq (.reg [⟨none, some 2, .mv (.c (.bool true))⟩]) .ret)))
theorem ok50 : FnOk Try.prog 50 20 0 c50 [.t 2] := ⟨_, _, Try.func50, rfl, rfl, by kernel_rfl, by kernel_rfl⟩
theorem bd50 : bodied Try.prog 50 = true := by kernel_rfl

/-- ferrule/ferruleref07.In -/
def c51 : CI := (.seq (.reg [⟨none, some 4, .mv (.c (.bool false))⟩]) (.seq (.seq (.reg [⟨none, some 5, .mv (.c (.int .i64 0))⟩]) (.block 0 (.loop (.seq
 (.seq (.reg [⟨none, some 6, .mv (.t 5)⟩, ⟨none, some 7, .mv (.t 0)⟩, ⟨none, some 8, .len (.t 7)⟩, ⟨none, some 9, .bin .lss (.t 6) (.t 8)⟩]) (.cond (.t
 9) .skip (.exit 0))) (.seq (.block 1 (.seq (.reg [⟨none, some 12, .mv (.t 0)⟩, ⟨none, some 13, .mv (.t 5)⟩, ⟨none, some 14, .iaddr 1 (.t 12) (.t 13)⟩,
 ⟨none, some 15, .load false 1 (.t 14)⟩, ⟨none, some 16, .mv (.t 1)⟩, ⟨none, some 17, .bin .eql (.t 15) (.t 16)⟩]) (.cond (.t 17) (.seq (.reg [⟨none, some
 4, .mv (.c (.bool true))⟩]) .ret) .skip))) (.reg [⟨none, some 10, .mv (.t 5)⟩, ⟨none, some 11, .bin .add (.t 10) (.c (.int .i64 1))⟩, ⟨none, some 5, .mv
 (.t 11)⟩])))))) (.seq (.reg [⟨none, some 4, .mv (.c (.bool false))⟩]) .ret)))
theorem ok51 : FnOk Try.prog 51 18 0 c51 [.t 4] := ⟨_, _, Try.func51, rfl, rfl, by kernel_rfl, by kernel_rfl⟩
theorem bd51 : bodied Try.prog 51 = true := by kernel_rfl

/-- ferrule/ferruleref07.IsSlotOf -/
def c53 : CI := (.seq (.reg [⟨none, some 3, .box 0 true (.t 0)⟩, ⟨none, some 6, .mv (.c (.bool false))⟩]) (.seq (.reg [⟨none, some 7, .load true 4 (.t
 3)⟩, ⟨none, some 8, .mv (.t 1)⟩, ⟨none, some 9, .call 80 [(.t 7), (.t 8)]⟩, ⟨none, some 10, .mv (.t 9)⟩, ⟨(some (10, true)), (some 11), .mv (.t 2)⟩, ⟨(some
 (10, true)), (some 12), .faddr 1 (.t 3)⟩, ⟨(some (10, true)), (some 13), .load false 1 (.t 12)⟩, ⟨(some (10, true)), (some 14), .mv (.t 1)⟩, ⟨(some (10,
 true)), (some 15), .iaddr 1 (.t 13) (.t 14)⟩, ⟨(some (10, true)), (some 16), .faddr 0 (.t 15)⟩, ⟨(some (10, true)), (some 17), .load false 1 (.t 16)⟩,
 ⟨(some (10, true)), (some 18), .len (.t 17)⟩, ⟨(some (10, true)), (some 19), .bin .sub (.t 18) (.c (.int .i64 1))⟩, ⟨(some (10, true)), (some 20), .call
 90 [(.t 11), (.c (.int .i64 0)), (.t 19)]⟩, ⟨none, some 21, .pick (.t 10) (.t 20) (.c (.bool false))⟩, ⟨none, some 6, .mv (.t 21)⟩]) .ret))
theorem ok53 : FnOk Try.prog 53 22 1 c53 [.t 6] := ⟨_, _, Try.func53, rfl, rfl, by kernel_rfl, by kernel_rfl⟩
theorem bd53 : bodied Try.prog 53 = true := by kernel_rfl

/-- ferrule/ferruleref07.Known -/
def c54 : CI := (.seq (.reg [⟨none, some 1, .box 0 true (.t 0)⟩, ⟨none, some 2, .mv (.c (.int .i64 0))⟩]) (.seq (.reg [⟨none, some 3, .load true 4 (.t
 1)⟩, ⟨none, some 4, .call 71 [(.t 3), (.c (.bool true))]⟩, ⟨none, some 2, .mv (.t 4)⟩]) .ret))
theorem ok54 : FnOk Try.prog 54 5 1 c54 [.t 2] := ⟨_, _, Try.func54, rfl, rfl, by kernel_rfl, by kernel_rfl⟩
theorem bd54 : bodied Try.prog 54 = true := by kernel_rfl

/-- ferrule/ferrulelaw07.Example -/
def c64 : CI := (.seq (.reg [⟨none, some 0, .alloc 0 [.nils, .nils, (.int .i64 0), .nils]⟩]) (.seq (.reg [⟨none, some 1, .build [(.int .i64 0), (.int .i64
 0)] [(0, 1, (.c (.int .i64 300))), (1, 1, (.c (.int .i64 310)))]⟩, ⟨none, some 2, .build [(.int .i64 0), (.int .i64 0), (.int .i64 0), (.int .i64 0)] [(0,
 1, (.c (.int .i64 1))), (1, 1, (.c (.int .i64 2))), (2, 2, (.t 1))]⟩, ⟨none, some 3, .build [(.int .i64 0), (.int .i64 0)] [(0, 1, (.c (.int .i64 305))),
 (1, 1, (.c (.int .i64 305)))]⟩, ⟨none, some 4, .build [(.int .i64 0), (.int .i64 0), (.int .i64 0), (.int .i64 0)] [(0, 1, (.c (.int .i64 1))), (1, 1,
 (.c (.int .i64 3))), (2, 2, (.t 3))]⟩, ⟨none, some 5, .build [(.int .i64 0), (.int .i64 0)] [(0, 1, (.c (.int .i64 50))), (1, 1, (.c (.int .i64 60)))]⟩,
 ⟨none, some 6, .build [(.int .i64 0), (.int .i64 0), (.int .i64 0), (.int .i64 0)] [(0, 1, (.c (.int .i64 2))), (1, 1, (.c (.int .i64 1))), (2, 2, (.t
 5))]⟩, ⟨none, some 7, .build [(.int .i64 0), (.int .i64 0)] [(0, 1, (.c (.int .i64 320))), (1, 1, (.c (.int .i64 330)))]⟩, ⟨none, some 8, .build [(.int
 .i64 0), (.int .i64 0), (.int .i64 0), (.int .i64 0)] [(0, 1, (.c (.int .i64 1))), (1, 1, (.c (.int .i64 2))), (2, 2, (.t 7))]⟩, ⟨none, some 9, .bsl 1
 76 4 [(.t 2), (.t 4), (.t 6), (.t 8)] []⟩, ⟨none, some 10, .bsl 2 3 1 [(.c (.int .i64 2)), (.c (.int .i64 3))] []⟩, ⟨none, some 11, .build [(.int .i64
 0), (.int .i64 0)] [(0, 1, (.c (.int .i64 300))), (1, 1, (.c (.int .i64 306)))]⟩, ⟨none, some 12, .build [(.int .i64 0), .nils, (.int .i64 0), (.int .i64
 0)] [(0, 1, (.c (.int .i64 1))), (1, 1, (.t 10)), (2, 2, (.t 11))]⟩, ⟨none, some 13, .bsl 3 3 1 [(.c (.int .i64 1))] []⟩, ⟨none, some 14, .build [(.int
 .i64 0), (.int .i64 0)] [(0, 1, (.c (.int .i64 40))), (1, 1, (.c (.int .i64 58)))]⟩, ⟨none, some 15, .build [(.int .i64 0), .nils, (.int .i64 0), (.int
 .i64 0)] [(0, 1, (.c (.int .i64 2))), (1, 1, (.t 13)), (2, 2, (.t 14))]⟩, ⟨none, some 16, .bsl 4 106 4 [(.t 12), (.t 15)] []⟩, ⟨none, some 17, .build [.nils]
 [(0, 1, (.t 16))]⟩, ⟨none, some 18, .bsl 5 3 1 [(.c (.int .i64 2))] []⟩, ⟨none, some 19, .build [(.int .i64 0), (.int .i64 0)] [(0, 1, (.c (.int .i64 310))),
 (1, 1, (.c (.int .i64 326)))]⟩, ⟨none, some 20, .build [(.int .i64 0), .nils, (.int .i64 0), (.int .i64 0)] [(0, 1, (.c (.int .i64 1))), (1, 1, (.t 18)),
 (2, 2, (.t 19))]⟩, ⟨none, some 21, .bsl 6 106 4 [(.t 20)] []⟩, ⟨none, some 22, .build [.nils] [(0, 1, (.t 21))]⟩, ⟨none, some 23, .bsl 7 66 1 [(.t 17),
 (.t 22)] []⟩, ⟨none, some 24, .build [(.int .i64 0), (.int .i64 0), (.int .i64 0), (.int .i64 0)] [(1, 1, (.c (.int .i64 1)))]⟩, ⟨none, some 25, .bsl 8
 70 4 [(.t 24)] []⟩, ⟨none, some 26, .build [.nils, .nils, (.int .i64 0), .nils] [(0, 1, (.t 9)), (1, 1, (.t 23)), (2, 1, (.c (.int .i64 5))), (3, 1, (.t
 25))]⟩, ⟨none, none, .stz true 4 (.t 0) (.t 26) []⟩]) .ret))
theorem ok64 : FnOk Try.prog 64 27 9 c64 [.cell 0 true 4] := ⟨_, _, Try.func64, rfl, rfl, by kernel_rfl, by kernel_rfl⟩
theorem bd64 : bodied Try.prog 64 = true := by kernel_rfl

/-- ferrule/ferrulelaw07.Jobs -/
def c65 : CI := (.seq (.reg [⟨none, some 0, .mv (.c .nils)⟩]) (.seq (.reg [⟨none, some 1, .build [(.int .i64 0), (.int .i64 0)] []⟩, ⟨none, some 2, .build
 [(.int .i64 0), (.int .i64 0)] []⟩, ⟨none, some 3, .build [(.int .i64 0), (.int .i64 0)] [(1, 1, (.c (.int .i64 1)))]⟩, ⟨none, some 4, .build [(.int .i64
 0), (.int .i64 0)] [(0, 1, (.c (.int .i64 1)))]⟩, ⟨none, some 5, .bsl 0 82 2 [(.t 1), (.t 2), (.t 3), (.t 4)] []⟩, ⟨none, some 0, .mv (.t 5)⟩]) .ret))
theorem ok65 : FnOk Try.prog 65 6 1 c65 [.t 0] := ⟨_, _, Try.func65, rfl, rfl, by kernel_rfl, by kernel_rfl⟩
theorem bd65 : bodied Try.prog 65 = true := by kernel_rfl

/-- ferrule/parts.validWorkshop -/
def c66 : CI := (.seq (.reg [⟨none, some 1, .box 0 true (.t 0)⟩, ⟨none, some 2, .mv (.c (.bool false))⟩]) (.seq (.reg [⟨none, some 3, .faddr 0 (.t 1)⟩,
 ⟨none, some 4, .load false 1 (.t 3)⟩, ⟨none, some 5, .len (.t 4)⟩, ⟨none, some 6, .bin .leq (.t 5) (.c (.int .i64 10))⟩, ⟨none, some 7, .mv (.t 6)⟩, ⟨(some
 (7, true)), (some 8), .faddr 0 (.t 1)⟩, ⟨(some (7, true)), (some 9), .load false 1 (.t 8)⟩, ⟨(some (7, true)), (some 10), .call 110 [(.t 9), (.c (.fn 111
 []))]⟩, ⟨none, some 11, .pick (.t 7) (.t 10) (.c (.bool false))⟩, ⟨none, some 12, .mv (.t 11)⟩, ⟨(some (12, true)), (some 13), .faddr 1 (.t 1)⟩, ⟨(some
 (12, true)), (some 14), .load false 1 (.t 13)⟩, ⟨(some (12, true)), (some 15), .len (.t 14)⟩, ⟨(some (12, true)), (some 16), .bin .leq (.t 15) (.c (.int
 .i64 6))⟩, ⟨none, some 17, .pick (.t 12) (.t 16) (.c (.bool false))⟩, ⟨none, some 18, .mv (.t 17)⟩, ⟨(some (18, true)), (some 19), .faddr 1 (.t 1)⟩, ⟨(some
 (18, true)), (some 20), .load false 1 (.t 19)⟩, ⟨(some (18, true)), (some 21), .call 112 [(.t 20), (.c (.fn 113 []))]⟩, ⟨none, some 22, .pick (.t 18) (.t
 21) (.c (.bool false))⟩, ⟨none, some 23, .mv (.t 22)⟩, ⟨(some (23, true)), (some 24), .faddr 2 (.t 1)⟩, ⟨(some (23, true)), (some 25), .load false 1 (.t
 24)⟩, ⟨(some (23, true)), (some 26), .call 114 [(.t 25), (.c (.int .i64 0)), (.c (.int .i64 99))]⟩, ⟨none, some 27, .pick (.t 23) (.t 26) (.c (.bool false))⟩,
 ⟨none, some 28, .mv (.t 27)⟩, ⟨(some (28, true)), (some 29), .faddr 3 (.t 1)⟩, ⟨(some (28, true)), (some 30), .load false 1 (.t 29)⟩, ⟨(some (28, true)),
 (some 31), .len (.t 30)⟩, ⟨(some (28, true)), (some 32), .bin .leq (.t 31) (.c (.int .i64 30))⟩, ⟨none, some 33, .pick (.t 28) (.t 32) (.c (.bool false))⟩,
 ⟨none, some 34, .mv (.t 33)⟩, ⟨(some (34, true)), (some 35), .faddr 3 (.t 1)⟩, ⟨(some (34, true)), (some 36), .load false 1 (.t 35)⟩, ⟨(some (34, true)),
 (some 37), .mkfn 116 [(.t 1)]⟩, ⟨(some (34, true)), (some 38), .call 115 [(.t 36), (.t 37)]⟩, ⟨none, some 39, .pick (.t 34) (.t 38) (.c (.bool false))⟩,
 ⟨none, some 2, .mv (.t 39)⟩]) .ret))
theorem ok66 : FnOk Try.prog 66 40 1 c66 [.t 2] := ⟨_, _, Try.func66, rfl, rfl, by kernel_rfl, by kernel_rfl⟩
theorem bd66 : bodied Try.prog 66 = true := by kernel_rfl

/-- ferrule/parts.clashes -/
def c67 : CI := (.seq (.reg [⟨none, some 1, .box 0 false (.t 0)⟩, ⟨none, some 2, .mv (.c (.bool false))⟩]) (.seq (.reg [⟨none, some 3, .load false 1 (.t
 1)⟩, ⟨none, some 4, .mkfn 118 [(.t 1)]⟩, ⟨none, some 5, .call 117 [(.t 3), (.t 4)]⟩, ⟨none, some 2, .mv (.t 5)⟩]) .ret))
theorem ok67 : FnOk Try.prog 67 6 1 c67 [.t 2] := ⟨_, _, Try.func67, rfl, rfl, by kernel_rfl, by kernel_rfl⟩
theorem bd67 : bodied Try.prog 67 = true := by kernel_rfl

/-- ferrule/ferruleref07.isWorkshop -/
def c68 : CI := (.seq (.reg [⟨none, some 1, .box 0 true (.t 0)⟩, ⟨none, some 2, .mv (.c (.bool false))⟩]) (.seq (.seq (.reg [⟨none, some 9, .faddr 0 (.t
 1)⟩, ⟨none, some 10, .load false 1 (.t 9)⟩, ⟨none, some 11, .len (.t 10)⟩, ⟨none, some 12, .bin .gtr (.t 11) (.c (.int .i64 10))⟩, ⟨none, some 13, .mv
 (.t 12)⟩, ⟨(some (13, false)), (some 14), .faddr 1 (.t 1)⟩, ⟨(some (13, false)), (some 15), .load false 1 (.t 14)⟩, ⟨(some (13, false)), (some 16), .len
 (.t 15)⟩, ⟨(some (13, false)), (some 17), .bin .gtr (.t 16) (.c (.int .i64 6))⟩, ⟨none, some 18, .pick (.t 13) (.c (.bool true)) (.t 17)⟩, ⟨none, some
 19, .mv (.t 18)⟩, ⟨(some (19, false)), (some 20), .faddr 2 (.t 1)⟩, ⟨(some (19, false)), (some 21), .load false 1 (.t 20)⟩, ⟨(some (19, false)), (some
 22), .call 90 [(.t 21), (.c (.int .i64 0)), (.c (.int .i64 99))]⟩, ⟨(some (19, false)), (some 23), .un .not (.t 22)⟩, ⟨none, some 24, .pick (.t 19) (.c
 (.bool true)) (.t 23)⟩, ⟨none, some 25, .mv (.t 24)⟩, ⟨(some (25, false)), (some 26), .faddr 3 (.t 1)⟩, ⟨(some (25, false)), (some 27), .load false 1 (.t
 26)⟩, ⟨(some (25, false)), (some 28), .len (.t 27)⟩, ⟨(some (25, false)), (some 29), .bin .gtr (.t 28) (.c (.int .i64 30))⟩, ⟨none, some 30, .pick (.t
 25) (.c (.bool true)) (.t 29)⟩]) (.cond (.t 30) (.seq (.reg [⟨none, some 2, .mv (.c (.bool false))⟩]) .ret) .skip)) (.seq (.seq (.reg [⟨none, some 3, .mv
 (.c (.int .i64 0))⟩]) (.block 0 (.loop (.seq (.seq (.reg [⟨none, some 31, .mv (.t 3)⟩, ⟨none, some 32, .faddr 0 (.t 1)⟩, ⟨none, some 33, .load false 1
 (.t 32)⟩, ⟨none, some 34, .len (.t 33)⟩, ⟨none, some 35, .bin .lss (.t 31) (.t 34)⟩]) (.cond (.t 35) .skip (.exit 0))) (.seq (.block 1 (.seq (.reg [⟨none,
 some 38, .faddr 0 (.t 1)⟩, ⟨none, some 39, .load false 1 (.t 38)⟩, ⟨none, some 40, .mv (.t 3)⟩, ⟨none, some 41, .iaddr 4 (.t 39) (.t 40)⟩, ⟨none, some
 42, .load true 4 (.t 41)⟩, ⟨none, some 4, .alloc 1 [(.int .i64 0), (.int .i64 0), (.int .i64 0), (.int .i64 0)]⟩, ⟨none, none, .store true 4 (.t 4) (.t
 42) []⟩]) (.seq (.reg [⟨none, some 43, .faddr 0 (.t 4)⟩, ⟨none, some 44, .load false 1 (.t 43)⟩, ⟨none, some 45, .call 90 [(.t 44), (.c (.int .i64 0)),
 (.c (.int .i64 9))]⟩, ⟨none, some 46, .un .not (.t 45)⟩, ⟨none, some 47, .mv (.t 46)⟩, ⟨(some (47, false)), (some 48), .faddr 1 (.t 4)⟩, ⟨(some (47, false)),
 (some 49), .load false 1 (.t 48)⟩, ⟨(some (47, false)), (some 50), .call 90 [(.t 49), (.c (.int .i64 0)), (.c (.int .i64 9))]⟩, ⟨(some (47, false)), (some
 51), .un .not (.t 50)⟩, ⟨none, some 52, .pick (.t 47) (.c (.bool true)) (.t 51)⟩, ⟨none, some 53, .mv (.t 52)⟩, ⟨(some (53, false)), (some 54), .faddr
 2 (.t 4)⟩, ⟨(some (53, false)), (some 55), .load true 2 (.t 54)⟩, ⟨(some (53, false)), (some 56), .call 120 [(.t 55)]⟩, ⟨(some (53, false)), (some 57),
 .un .not (.t 56)⟩, ⟨none, some 58, .pick (.t 53) (.c (.bool true)) (.t 57)⟩]) (.cond (.t 58) (.seq (.reg [⟨none, some 2, .mv (.c (.bool false))⟩]) .ret)
 .skip)))) (.reg [⟨none, some 36, .mv (.t 3)⟩, ⟨none, some 37, .bin .add (.t 36) (.c (.int .i64 1))⟩, ⟨none, some 3, .mv (.t 37)⟩])))))) (.seq (.seq (.reg
 [⟨none, some 5, .mv (.c (.int .i64 0))⟩]) (.block 2 (.loop (.seq (.seq (.reg [⟨none, some 59, .mv (.t 5)⟩, ⟨none, some 60, .faddr 1 (.t 1)⟩, ⟨none, some
 61, .load false 1 (.t 60)⟩, ⟨none, some 62, .len (.t 61)⟩, ⟨none, some 63, .bin .lss (.t 59) (.t 62)⟩]) (.cond (.t 63) .skip (.exit 2))) (.seq (.block
 3 (.seq (.seq (.reg [⟨none, some 66, .faddr 1 (.t 1)⟩, ⟨none, some 67, .load false 1 (.t 66)⟩, ⟨none, some 68, .mv (.t 5)⟩, ⟨none, some 69, .iaddr 1 (.t
 67) (.t 68)⟩, ⟨none, some 70, .faddr 0 (.t 69)⟩, ⟨none, some 71, .load false 1 (.t 70)⟩, ⟨none, some 72, .len (.t 71)⟩, ⟨none, some 73, .bin .gtr (.t 72)
 (.c (.int .i64 4))⟩]) (.cond (.t 73) (.seq (.reg [⟨none, some 2, .mv (.c (.bool false))⟩]) .ret) .skip)) (.seq (.reg [⟨none, some 6, .mv (.c (.int .i64
 0))⟩]) (.block 4 (.loop (.seq (.seq (.reg [⟨none, some 74, .mv (.t 6)⟩, ⟨none, some 75, .faddr 1 (.t 1)⟩, ⟨none, some 76, .load false 1 (.t 75)⟩, ⟨none,
 some 77, .mv (.t 5)⟩, ⟨none, some 78, .iaddr 1 (.t 76) (.t 77)⟩, ⟨none, some 79, .faddr 0 (.t 78)⟩, ⟨none, some 80, .load false 1 (.t 79)⟩, ⟨none, some
 81, .len (.t 80)⟩, ⟨none, some 82, .bin .lss (.t 74) (.t 81)⟩]) (.cond (.t 82) .skip (.exit 4))) (.seq (.block 5 (.seq (.reg [⟨none, some 85, .faddr 1
 (.t 1)⟩, ⟨none, some 86, .load false 1 (.t 85)⟩, ⟨none, some 87, .mv (.t 5)⟩, ⟨none, some 88, .iaddr 1 (.t 86) (.t 87)⟩, ⟨none, some 89, .faddr 0 (.t 88)⟩,
 ⟨none, some 90, .load false 1 (.t 89)⟩, ⟨none, some 91, .mv (.t 6)⟩, ⟨none, some 92, .iaddr 4 (.t 90) (.t 91)⟩, ⟨none, some 93, .load true 4 (.t 92)⟩,
 ⟨none, some 94, .call 121 [(.t 93)]⟩, ⟨none, some 95, .un .not (.t 94)⟩]) (.cond (.t 95) (.seq (.reg [⟨none, some 2, .mv (.c (.bool false))⟩]) .ret) .skip)))
 (.reg [⟨none, some 83, .mv (.t 6)⟩, ⟨none, some 84, .bin .add (.t 83) (.c (.int .i64 1))⟩, ⟨none, some 6, .mv (.t 84)⟩])))))))) (.reg [⟨none, some 64,
 .mv (.t 5)⟩, ⟨none, some 65, .bin .add (.t 64) (.c (.int .i64 1))⟩, ⟨none, some 5, .mv (.t 65)⟩])))))) (.seq (.seq (.reg [⟨none, some 7, .mv (.c (.int
 .i64 0))⟩]) (.block 6 (.loop (.seq (.seq (.reg [⟨none, some 96, .mv (.t 7)⟩, ⟨none, some 97, .faddr 3 (.t 1)⟩, ⟨none, some 98, .load false 1 (.t 97)⟩,
 ⟨none, some 99, .len (.t 98)⟩, ⟨none, some 100, .bin .lss (.t 96) (.t 99)⟩]) (.cond (.t 100) .skip (.exit 6))) (.seq (.block 7 (.seq (.reg [⟨none, some
 103, .faddr 3 (.t 1)⟩, ⟨none, some 104, .load false 1 (.t 103)⟩, ⟨none, some 105, .mv (.t 7)⟩, ⟨none, some 106, .iaddr 4 (.t 104) (.t 105)⟩, ⟨none, some
 107, .load true 4 (.t 106)⟩, ⟨none, some 8, .alloc 2 [(.int .i64 0), (.int .i64 0), (.int .i64 0), (.int .i64 0)]⟩, ⟨none, none, .store true 4 (.t 8) (.t
 107) []⟩]) (.seq (.reg [⟨none, some 108, .load true 4 (.t 1)⟩, ⟨none, some 109, .faddr 0 (.t 8)⟩, ⟨none, some 110, .load false 1 (.t 109)⟩, ⟨none, some
 111, .call 47 [(.t 108), (.t 110)]⟩, ⟨none, some 112, .un .not (.t 111)⟩, ⟨none, some 113, .mv (.t 112)⟩, ⟨(some (113, false)), (some 114), .load true
 4 (.t 1)⟩, ⟨(some (113, false)), (some 115), .faddr 1 (.t 8)⟩, ⟨(some (113, false)), (some 116), .load false 1 (.t 115)⟩, ⟨(some (113, false)), (some 117),
 .faddr 2 (.t 8)⟩, ⟨(some (113, false)), (some 118), .load false 1 (.t 117)⟩, ⟨(some (113, false)), (some 119), .call 53 [(.t 114), (.t 116), (.t 118)]⟩,
 ⟨(some (113, false)), (some 120), .un .not (.t 119)⟩, ⟨none, some 121, .pick (.t 113) (.c (.bool true)) (.t 120)⟩, ⟨none, some 122, .mv (.t 121)⟩, ⟨(some
 (122, false)), (some 123), .faddr 3 (.t 8)⟩, ⟨(some (122, false)), (some 124), .load false 1 (.t 123)⟩, ⟨(some (122, false)), (some 125), .call 90 [(.t
 124), (.c (.int .i64 0)), (.c (.int .i64 1))]⟩, ⟨(some (122, false)), (some 126), .un .not (.t 125)⟩, ⟨none, some 127, .pick (.t 122) (.c (.bool true))
 (.t 126)⟩]) (.cond (.t 127) (.seq (.reg [⟨none, some 2, .mv (.c (.bool false))⟩]) .ret) .skip)))) (.reg [⟨none, some 101, .mv (.t 7)⟩, ⟨none, some 102,
 .bin .add (.t 101) (.c (.int .i64 1))⟩, ⟨none, some 7, .mv (.t 102)⟩])))))) (.seq (.reg [⟨none, some 2, .mv (.c (.bool true))⟩]) .ret))))))
theorem ok68 : FnOk Try.prog 68 128 3 c68 [.t 2] := ⟨_, _, Try.func68, rfl, rfl, by kernel_rfl, by kernel_rfl⟩
theorem bd68 : bodied Try.prog 68 = true := by kernel_rfl

/-- ferrule/parts.open -/
def c69 : CI := (.seq (.reg [⟨none, some 2, .box 0 true (.t 0)⟩, ⟨none, some 4, .alloc 1 [.nils, .nils, (.int .i64 0), .nils, .nils]⟩, ⟨none, some 5, .mv
 (.c (.int .i64 0))⟩]) (.seq (.seq (.reg [⟨none, some 10, .load true 4 (.t 2)⟩, ⟨none, some 11, .call 17 [(.t 10)]⟩, ⟨none, some 6, .mv (.t 11)⟩]) (.seq
 (.reg [⟨none, some 12, .mv (.t 6)⟩, ⟨none, some 13, .bin .neq (.t 12) (.c (.int .i64 0))⟩]) (.cond (.t 13) (.seq (.reg [⟨none, some 14, .build [.nils,
 .nils, (.int .i64 0), .nils, .nils] []⟩, ⟨none, some 15, .mv (.t 6)⟩, ⟨none, none, .stz true 5 (.t 4) (.t 14) []⟩, ⟨none, some 5, .mv (.t 15)⟩]) .ret)
 .skip))) (.seq (.seq (.reg [⟨none, some 16, .mv (.t 1)⟩, ⟨none, some 17, .un .not (.t 16)⟩]) (.cond (.t 17) (.seq (.reg [⟨none, some 18, .build [.nils,
 .nils, (.int .i64 0), .nils, .nils] []⟩, ⟨none, none, .stz true 5 (.t 4) (.t 18) []⟩, ⟨none, some 5, .mv (.c (.int .i64 1))⟩]) .ret) .skip)) (.seq (.reg
 [⟨none, some 19, .load true 4 (.t 2)⟩, ⟨none, some 20, .build [.nils, .nils, (.int .i64 0), .nils, .nils] [(0, 4, (.t 19))]⟩, ⟨none, some 7, .alloc 2 [.nils,
 .nils, (.int .i64 0), .nils, .nils]⟩, ⟨none, none, .stz true 5 (.t 7) (.t 20) []⟩]) (.seq (.seq (.reg [⟨none, some 21, .faddr 0 (.t 2)⟩, ⟨none, some 22,
 .load false 1 (.t 21)⟩, ⟨none, some 23, .len (.t 22)⟩, ⟨none, some 24, .mv (.c (.int .i64 0))⟩]) (.block 0 (.loop (.seq (.reg [⟨none, some 25, .bin .lss
 (.t 24) (.t 23)⟩]) (.seq (.cond (.t 25) .skip (.exit 0)) (.seq (.block 1 (.seq (.reg [⟨none, some 26, .mv (.t 24)⟩, ⟨none, some 8, .mv (.t 26)⟩]) (.seq
 (.reg [⟨none, some 27, .load true 5 (.t 7)⟩, ⟨none, some 28, .mv (.t 8)⟩, ⟨none, some 29, .callw 3 1 122 [(.t 27), (.t 28)]⟩, ⟨none, some 9, .mv (.t 29)⟩])
 (.seq (.seq (.reg [⟨none, some 30, .mv (.t 9)⟩, ⟨none, some 31, .len (.t 30)⟩, ⟨none, some 32, .bin .eql (.t 31) (.c (.int .i64 0))⟩]) (.cond (.t 32) (.seq
 (.reg [⟨none, some 33, .build [.nils, .nils, (.int .i64 0), .nils, .nils] []⟩, ⟨none, none, .stz true 5 (.t 4) (.t 33) []⟩, ⟨none, some 5, .mv (.c (.int
 .i64 3))⟩]) .ret) .skip)) (.reg [⟨none, some 34, .faddr 4 (.t 7)⟩, ⟨none, some 35, .load false 1 (.t 34)⟩, ⟨none, some 36, .mv (.t 9)⟩, ⟨none, some 37,
 .bsl 4 115 1 [(.t 36)] []⟩, ⟨none, some 38, .apd 5 115 1 24 (.t 35) (.t 37) []⟩, ⟨none, some 39, .faddr 4 (.t 7)⟩, ⟨none, none, .stz false 1 (.t 39) (.t
 38) []⟩]))))) (.reg [⟨none, some 40, .bin .add (.t 24) (.c (.int .i64 1))⟩, ⟨none, some 24, .mv (.t 40)⟩]))))))) (.seq (.reg [⟨none, some 41, .load true
 5 (.t 7)⟩, ⟨none, none, .stz true 5 (.t 4) (.t 41) []⟩, ⟨none, some 5, .mv (.c (.int .i64 0))⟩]) .ret))))))
theorem ok69 : FnOk Try.prog 69 42 6 c69 [.cell 4 true 5, .t 5] := ⟨_, _, Try.func69, rfl, rfl, by kernel_rfl, by kernel_rfl⟩
theorem bd69 : bodied Try.prog 69 = true := by kernel_rfl

/-- ferrule/parts.isSpare -/
def c70 : CI := (.seq (.reg [⟨none, some 2, .box 0 true (.t 0)⟩, ⟨none, some 4, .mv (.c (.bool false))⟩]) (.seq (.reg [⟨none, some 5, .mv (.t 1)⟩, ⟨none,
 some 6, .faddr 0 (.t 2)⟩, ⟨none, some 7, .load false 1 (.t 6)⟩, ⟨none, some 8, .len (.t 7)⟩, ⟨none, some 9, .bin .sub (.t 8) (.c (.int .i64 1))⟩, ⟨none,
 some 10, .call 114 [(.t 5), (.c (.int .i64 0)), (.t 9)]⟩, ⟨none, some 4, .mv (.t 10)⟩]) .ret))
theorem ok70 : FnOk Try.prog 70 11 1 c70 [.t 4] := ⟨_, _, Try.func70, rfl, rfl, by kernel_rfl, by kernel_rfl⟩
theorem bd70 : bodied Try.prog 70 = true := by kernel_rfl

/-- ferrule/ferruleref07.known -/
def c71 : CI := (.seq (.reg [⟨none, some 2, .box 0 true (.t 0)⟩, ⟨none, some 4, .mv (.c (.int .i64 0))⟩]) (.seq (.seq (.reg [⟨none, some 7, .load true
 4 (.t 2)⟩, ⟨none, some 8, .call 18 [(.t 7)]⟩, ⟨none, some 5, .mv (.t 8)⟩]) (.seq (.reg [⟨none, some 9, .mv (.t 5)⟩, ⟨none, some 10, .bin .neq (.t 9) (.c
 (.int .i64 0))⟩]) (.cond (.t 10) (.seq (.reg [⟨none, some 11, .mv (.t 5)⟩, ⟨none, some 4, .mv (.t 11)⟩]) .ret) .skip))) (.seq (.seq (.reg [⟨none, some
 12, .mv (.t 1)⟩, ⟨none, some 13, .un .not (.t 12)⟩]) (.cond (.t 13) (.seq (.reg [⟨none, some 4, .mv (.c (.int .i64 1))⟩]) .ret) .skip)) (.seq (.seq (.reg
 [⟨none, some 6, .mv (.c (.int .i64 0))⟩]) (.block 0 (.loop (.seq (.seq (.reg [⟨none, some 14, .mv (.t 6)⟩, ⟨none, some 15, .faddr 0 (.t 2)⟩, ⟨none, some
 16, .load false 1 (.t 15)⟩, ⟨none, some 17, .len (.t 16)⟩, ⟨none, some 18, .bin .lss (.t 14) (.t 17)⟩]) (.cond (.t 18) .skip (.exit 0))) (.seq (.block
 1 (.seq (.reg [⟨none, some 21, .load true 4 (.t 2)⟩, ⟨none, some 22, .mv (.t 6)⟩, ⟨none, some 23, .callw 1 1 72 [(.t 21), (.t 22)]⟩, ⟨none, some 24, .len
 (.t 23)⟩, ⟨none, some 25, .bin .eql (.t 24) (.c (.int .i64 0))⟩]) (.cond (.t 25) (.seq (.reg [⟨none, some 4, .mv (.c (.int .i64 3))⟩]) .ret) .skip))) (.reg
 [⟨none, some 19, .mv (.t 6)⟩, ⟨none, some 20, .bin .add (.t 19) (.c (.int .i64 1))⟩, ⟨none, some 6, .mv (.t 20)⟩])))))) (.seq (.reg [⟨none, some 4, .mv
 (.c (.int .i64 0))⟩]) .ret)))))
theorem ok71 : FnOk Try.prog 71 26 2 c71 [.t 4] := ⟨_, _, Try.func71, rfl, rfl, by kernel_rfl, by kernel_rfl⟩
theorem bd71 : bodied Try.prog 71 = true := by kernel_rfl

/-- ferrule/ferruleref07.all -/
def c72 : CI := (.seq (.reg [⟨none, some 2, .box 0 true (.t 0)⟩, ⟨none, some 4, .mv (.c .nils)⟩]) (.seq (.reg [⟨none, some 5, .mv (.c .nils)⟩]) (.seq (.seq
 (.reg [⟨none, some 7, .faddr 0 (.t 2)⟩, ⟨none, some 8, .load false 1 (.t 7)⟩, ⟨none, some 9, .mv (.t 1)⟩, ⟨none, some 10, .iaddr 4 (.t 8) (.t 9)⟩, ⟨none,
 some 11, .faddr 2 (.t 10)⟩, ⟨none, some 12, .faddr 0 (.t 11)⟩, ⟨none, some 13, .load false 1 (.t 12)⟩, ⟨none, some 6, .mv (.t 13)⟩]) (.block 0 (.loop (.seq
 (.seq (.reg [⟨none, some 14, .mv (.t 6)⟩, ⟨none, some 15, .faddr 0 (.t 2)⟩, ⟨none, some 16, .load false 1 (.t 15)⟩, ⟨none, some 17, .mv (.t 1)⟩, ⟨none,
 some 18, .iaddr 4 (.t 16) (.t 17)⟩, ⟨none, some 19, .faddr 2 (.t 18)⟩, ⟨none, some 20, .faddr 1 (.t 19)⟩, ⟨none, some 21, .load false 1 (.t 20)⟩, ⟨none,
 some 22, .bin .leq (.t 14) (.t 21)⟩]) (.cond (.t 22) .skip (.exit 0))) (.seq (.block 1 (.seq (.reg [⟨none, some 25, .load true 4 (.t 2)⟩, ⟨none, some 26,
 .mv (.t 1)⟩, ⟨none, some 27, .mv (.t 6)⟩, ⟨none, some 28, .call 44 [(.t 25), (.t 26), (.t 27)]⟩]) (.cond (.t 28) (.reg [⟨none, some 29, .mv (.t 5)⟩, ⟨none,
 some 30, .mv (.t 6)⟩, ⟨none, some 31, .bsl 1 3 1 [(.t 30)] []⟩, ⟨none, some 32, .apd 2 3 1 8 (.t 29) (.t 31) []⟩, ⟨none, some 5, .mv (.t 32)⟩]) .skip)))
 (.reg [⟨none, some 23, .mv (.t 6)⟩, ⟨none, some 24, .bin .add (.t 23) (.c (.int .i64 1))⟩, ⟨none, some 6, .mv (.t 24)⟩])))))) (.seq (.reg [⟨none, some
 33, .mv (.t 5)⟩, ⟨none, some 4, .mv (.t 33)⟩]) .ret))))
theorem ok72 : FnOk Try.prog 72 34 3 c72 [.t 4] := ⟨_, _, Try.func72, rfl, rfl, by kernel_rfl, by kernel_rfl⟩
theorem bd72 : bodied Try.prog 72 = true := by kernel_rfl

/-- ferrule/parts.isSlot -/
def c73 : CI := (.seq (.reg [⟨none, some 3, .box 0 true (.t 0)⟩, ⟨none, some 6, .mv (.c (.bool false))⟩]) (.seq (.reg [⟨none, some 7, .load true 4 (.t
 3)⟩, ⟨none, some 8, .mv (.t 1)⟩, ⟨none, some 9, .call 77 [(.t 7), (.t 8)]⟩, ⟨none, some 10, .mv (.t 9)⟩, ⟨(some (10, true)), (some 11), .mv (.t 2)⟩, ⟨(some
 (10, true)), (some 12), .faddr 1 (.t 3)⟩, ⟨(some (10, true)), (some 13), .load false 1 (.t 12)⟩, ⟨(some (10, true)), (some 14), .mv (.t 1)⟩, ⟨(some (10,
 true)), (some 15), .iaddr 1 (.t 13) (.t 14)⟩, ⟨(some (10, true)), (some 16), .faddr 0 (.t 15)⟩, ⟨(some (10, true)), (some 17), .load false 1 (.t 16)⟩,
 ⟨(some (10, true)), (some 18), .len (.t 17)⟩, ⟨(some (10, true)), (some 19), .bin .sub (.t 18) (.c (.int .i64 1))⟩, ⟨(some (10, true)), (some 20), .call
 114 [(.t 11), (.c (.int .i64 0)), (.t 19)]⟩, ⟨none, some 21, .pick (.t 10) (.t 20) (.c (.bool false))⟩, ⟨none, some 6, .mv (.t 21)⟩]) .ret))
theorem ok73 : FnOk Try.prog 73 22 1 c73 [.t 6] := ⟨_, _, Try.func73, rfl, rfl, by kernel_rfl, by kernel_rfl⟩
theorem bd73 : bodied Try.prog 73 = true := by kernel_rfl

/-- (ferrule/parts.shop).fits -/
def c74 : CI := (.seq (.reg [⟨none, some 4, .box 0 true (.t 0)⟩, ⟨none, some 8, .mv (.c (.int .i64 0))⟩]) (.seq (.reg [⟨none, some 12, .faddr 4 (.t 4)⟩,
 ⟨none, some 13, .load false 1 (.t 12)⟩, ⟨none, some 14, .mv (.t 1)⟩, ⟨none, some 15, .iaddr 1 (.t 13) (.t 14)⟩, ⟨none, some 16, .load false 1 (.t 15)⟩,
 ⟨none, some 17, .load true 5 (.t 4)⟩, ⟨none, some 18, .mv (.t 1)⟩, ⟨none, some 19, .mv (.t 2)⟩, ⟨none, some 20, .mv (.t 3)⟩, ⟨none, some 21, .call 124
 [(.t 17), (.t 18), (.t 19), (.t 20)]⟩, ⟨none, some 22, .callz 1 2 123 [(.t 16), (.t 21)] []⟩, ⟨none, some 11, .mv (.t 22)⟩, ⟨none, some 23, .extract 0
 (.t 11)⟩, ⟨none, some 24, .extract 1 (.t 11)⟩, ⟨none, some 9, .mv (.t 23)⟩, ⟨none, some 10, .mv (.t 24)⟩]) (.seq (.block 0 (.seq (.reg [⟨none, some 26,
 .mv (.t 9)⟩, ⟨none, some 27, .len (.t 26)⟩, ⟨none, some 28, .bin .eql (.t 27) (.c (.int .i64 0))⟩, ⟨none, some 25, .mv (.t 28)⟩]) (.cond (.t 25) (.seq
 (.reg [⟨none, some 8, .mv (.c (.int .i64 2))⟩]) .ret) (.seq (.reg [⟨none, some 30, .mv (.t 10)⟩, ⟨none, some 31, .len (.t 30)⟩, ⟨none, some 32, .bin .eql
 (.t 31) (.c (.int .i64 0))⟩, ⟨none, some 29, .mv (.t 32)⟩]) (.cond (.t 29) (.seq (.reg [⟨none, some 8, .mv (.c (.int .i64 1))⟩]) .ret) .skip))))) (.seq
 (.reg [⟨none, some 8, .mv (.c (.int .i64 3))⟩]) .ret))))
theorem ok74 : FnOk Try.prog 74 33 3 c74 [.t 8] := ⟨_, _, Try.func74, rfl, rfl, by kernel_rfl, by kernel_rfl⟩
theorem bd74 : bodied Try.prog 74 = true := by kernel_rfl

/-- ferrule/parts.isMake -/
def c77 : CI := (.seq (.reg [⟨none, some 2, .box 0 true (.t 0)⟩, ⟨none, some 4, .mv (.c (.bool false))⟩]) (.seq (.reg [⟨none, some 5, .mv (.t 1)⟩, ⟨none,
 some 6, .faddr 1 (.t 2)⟩, ⟨none, some 7, .load false 1 (.t 6)⟩, ⟨none, some 8, .len (.t 7)⟩, ⟨none, some 9, .bin .sub (.t 8) (.c (.int .i64 1))⟩, ⟨none,
 some 10, .call 114 [(.t 5), (.c (.int .i64 0)), (.t 9)]⟩, ⟨none, some 4, .mv (.t 10)⟩]) .ret))
theorem ok77 : FnOk Try.prog 77 11 1 c77 [.t 4] := ⟨_, _, Try.func77, rfl, rfl, by kernel_rfl, by kernel_rfl⟩
theorem bd77 : bodied Try.prog 77 = true := by kernel_rfl

/-- ferrule/ferruleref07.IsMake -/
def c80 : CI := (.seq (.reg [⟨none, some 2, .box 0 true (.t 0)⟩, ⟨none, some 4, .mv (.c (.bool false))⟩]) (.seq (.reg [⟨none, some 5, .mv (.t 1)⟩, ⟨none,
 some 6, .faddr 1 (.t 2)⟩, ⟨none, some 7, .load false 1 (.t 6)⟩, ⟨none, some 8, .len (.t 7)⟩, ⟨none, some 9, .bin .sub (.t 8) (.c (.int .i64 1))⟩, ⟨none,
 some 10, .call 90 [(.t 5), (.c (.int .i64 0)), (.t 9)]⟩, ⟨none, some 4, .mv (.t 10)⟩]) .ret))
theorem ok80 : FnOk Try.prog 80 11 1 c80 [.t 4] := ⟨_, _, Try.func80, rfl, rfl, by kernel_rfl, by kernel_rfl⟩
theorem bd80 : bodied Try.prog 80 = true := by kernel_rfl

/-- ferrule/parts.fewest -/
def c84 : CI := (.seq (.reg [⟨none, some 1, .box 0 true (.t 0)⟩, ⟨none, some 2, .mv (.c .nils)⟩, ⟨none, some 3, .mv (.c (.int .i64 0))⟩]) (.seq (.reg [⟨none,
 some 8, .load true 4 (.t 1)⟩, ⟨none, some 9, .callw 1 4 69 [(.t 8), (.c (.bool true))]⟩, ⟨none, some 7, .mv (.t 9)⟩, ⟨none, some 10, .extract 0 (.t 7)⟩,
 ⟨none, some 11, .extract 1 (.t 7)⟩, ⟨none, some 4, .alloc 5 [.nils, .nils, (.int .i64 0), .nils, .nils]⟩, ⟨none, none, .stz true 5 (.t 4) (.t 10) []⟩,
 ⟨none, some 5, .mv (.t 11)⟩]) (.seq (.seq (.reg [⟨none, some 12, .mv (.t 5)⟩, ⟨none, some 13, .bin .neq (.t 12) (.c (.int .i64 0))⟩]) (.cond (.t 13) (.seq
 (.reg [⟨none, some 14, .mv (.t 5)⟩, ⟨none, some 2, .mv (.c .nils)⟩, ⟨none, some 3, .mv (.t 14)⟩]) .ret) .skip)) (.seq (.reg [⟨none, some 15, .load true
 5 (.t 4)⟩, ⟨none, some 16, .callw 6 1 131 [(.t 15)]⟩, ⟨none, some 6, .mv (.t 16)⟩]) (.seq (.seq (.reg [⟨none, some 17, .mv (.t 6)⟩, ⟨none, some 18, .len
 (.t 17)⟩, ⟨none, some 19, .bin .eql (.t 18) (.c (.int .i64 0))⟩]) (.cond (.t 19) (.seq (.reg [⟨none, some 2, .mv (.c .nils)⟩, ⟨none, some 3, .mv (.c (.int
 .i64 3))⟩]) .ret) .skip)) (.seq (.reg [⟨none, some 20, .mv (.t 6)⟩, ⟨none, some 2, .mv (.t 20)⟩, ⟨none, some 3, .mv (.c (.int .i64 0))⟩]) .ret))))))
theorem ok84 : FnOk Try.prog 84 21 7 c84 [.t 2, .t 3] := ⟨_, _, Try.func84, rfl, rfl, by kernel_rfl, by kernel_rfl⟩
theorem bd84 : bodied Try.prog 84 = true := by kernel_rfl

/-- ferrule/parts.numbersThat -/
def c85 : CI := (.seq (.reg [⟨none, some 4, .mv (.c .nils)⟩]) (.seq (.reg [⟨none, some 5, .mv (.c .nils)⟩]) (.seq (.seq (.reg [⟨none, some 7, .mv (.t 0)⟩,
 ⟨none, some 8, .mv (.c (.int .i64 0))⟩]) (.block 0 (.loop (.seq (.reg [⟨none, some 9, .bin .lss (.t 8) (.t 7)⟩]) (.seq (.cond (.t 9) .skip (.exit 0)) (.seq
 (.block 1 (.seq (.reg [⟨none, some 10, .mv (.t 8)⟩, ⟨none, some 6, .mv (.t 10)⟩]) (.seq (.reg [⟨none, some 11, .mv (.t 1)⟩, ⟨none, some 12, .mv (.t 6)⟩,
 ⟨none, some 13, .callx (.t 11) [(.t 12)]⟩]) (.cond (.t 13) (.reg [⟨none, some 14, .mv (.t 5)⟩, ⟨none, some 15, .mv (.t 6)⟩, ⟨none, some 16, .bsl 0 3 1
 [(.t 15)] []⟩, ⟨none, some 17, .apd 1 3 1 8 (.t 14) (.t 16) []⟩, ⟨none, some 5, .mv (.t 17)⟩]) .skip)))) (.reg [⟨none, some 18, .bin .add (.t 8) (.c (.int
 .i64 1))⟩, ⟨none, some 8, .mv (.t 18)⟩]))))))) (.seq (.reg [⟨none, some 19, .mv (.t 5)⟩, ⟨none, some 4, .mv (.t 19)⟩]) .ret))))
theorem ok85 : FnOk Try.prog 85 20 2 c85 [.t 4] := ⟨_, _, Try.func85, rfl, rfl, by kernel_rfl, by kernel_rfl⟩
theorem bd85 : bodied Try.prog 85 = true := by kernel_rfl

/-- ferrule/parts.Needed$1 -/
def c86 : CI := (.seq (.reg [⟨none, some 2, .box 0 false (.t 0)⟩, ⟨none, some 3, .mv (.c (.bool false))⟩]) (.seq (.reg [⟨none, some 4, .load false 1 (.t
 1)⟩, ⟨none, some 5, .mkfn 88 [(.t 2)]⟩, ⟨none, some 6, .call 87 [(.t 4), (.t 5)]⟩, ⟨none, some 3, .mv (.t 6)⟩]) .ret))
theorem ok86 : FnOk Try.prog 86 7 1 c86 [.t 3] := ⟨_, _, Try.func86, rfl, rfl, by kernel_rfl, by kernel_rfl⟩
theorem bd86 : bodied Try.prog 86 = true := by kernel_rfl

/-- ferrule/parts.each[[]int] -/
def c87 : CI := (.seq (.reg [⟨none, some 4, .mv (.c (.bool false))⟩]) (.seq (.seq (.reg [⟨none, some 7, .mv (.t 0)⟩, ⟨none, some 8, .len (.t 7)⟩, ⟨none,
 some 9, .mv (.c (.int .i64 0))⟩]) (.block 0 (.loop (.seq (.reg [⟨none, some 10, .bin .lss (.t 9) (.t 8)⟩]) (.seq (.cond (.t 10) .skip (.exit 0)) (.seq
 (.block 1 (.seq (.reg [⟨none, some 11, .iaddr 1 (.t 7) (.t 9)⟩, ⟨none, some 12, .load false 1 (.t 11)⟩, ⟨none, some 6, .mv (.t 12)⟩]) (.seq (.reg [⟨none,
 some 13, .mv (.t 1)⟩, ⟨none, some 14, .mv (.t 6)⟩, ⟨none, some 15, .callx (.t 13) [(.t 14)]⟩, ⟨none, some 16, .un .not (.t 15)⟩]) (.cond (.t 16) (.seq
 (.reg [⟨none, some 4, .mv (.c (.bool false))⟩]) .ret) .skip)))) (.reg [⟨none, some 17, .bin .add (.t 9) (.c (.int .i64 1))⟩, ⟨none, some 9, .mv (.t 17)⟩])))))))
 (.seq (.reg [⟨none, some 4, .mv (.c (.bool true))⟩]) .ret)))
theorem ok87 : FnOk Try.prog 87 18 0 c87 [.t 4] := ⟨_, _, Try.func87, rfl, rfl, by kernel_rfl, by kernel_rfl⟩
theorem bd87 : bodied Try.prog 87 = true := by kernel_rfl

/-- ferrule/parts.Needed$1$1 -/
def c88 : CI := (.seq (.reg [⟨none, some 3, .mv (.c (.bool false))⟩]) (.seq (.reg [⟨none, some 4, .mv (.t 0)⟩, ⟨none, some 5, .load false 1 (.t 1)⟩, ⟨none,
 some 6, .call 89 [(.t 4), (.t 5)]⟩, ⟨none, some 3, .mv (.t 6)⟩]) .ret))
theorem ok88 : FnOk Try.prog 88 7 0 c88 [.t 3] := ⟨_, _, Try.func88, rfl, rfl, by kernel_rfl, by kernel_rfl⟩
theorem bd88 : bodied Try.prog 88 = true := by kernel_rfl

/-- slices.Contains[[]int,int] -/
def c89 : CI := (.seq (.reg [⟨none, some 4, .mv (.c (.bool false))⟩]) (.seq (.reg [⟨none, some 5, .mv (.t 0)⟩, ⟨none, some 6, .mv (.t 1)⟩, ⟨none, some
 7, .call 132 [(.t 5), (.t 6)]⟩, ⟨none, some 8, .bin .geq (.t 7) (.c (.int .i64 0))⟩, ⟨none, some 4, .mv (.t 8)⟩]) .ret))
theorem ok89 : FnOk Try.prog 89 9 0 c89 [.t 4] := ⟨_, _, Try.func89, rfl, rfl, by kernel_rfl, by kernel_rfl⟩
theorem bd89 : bodied Try.prog 89 = true := by kernel_rfl

/-- ferrule/ferruleref07.Within -/
def c90 : CI := (.seq (.reg [⟨none, some 6, .mv (.c (.bool false))⟩]) (.seq (.reg [⟨none, some 7, .mv (.t 0)⟩, ⟨none, some 8, .mv (.t 1)⟩, ⟨none, some
 9, .bin .geq (.t 7) (.t 8)⟩, ⟨none, some 10, .mv (.t 9)⟩, ⟨(some (10, true)), (some 11), .mv (.t 0)⟩, ⟨(some (10, true)), (some 12), .mv (.t 2)⟩, ⟨(some
 (10, true)), (some 13), .bin .leq (.t 11) (.t 12)⟩, ⟨none, some 14, .pick (.t 10) (.t 13) (.c (.bool false))⟩, ⟨none, some 6, .mv (.t 14)⟩]) .ret))
theorem ok90 : FnOk Try.prog 90 15 0 c90 [.t 6] := ⟨_, _, Try.func90, rfl, rfl, by kernel_rfl, by kernel_rfl⟩
theorem bd90 : bodied Try.prog 90 = true := by kernel_rfl

/-- ferrule/parts.workFor -/
def c91 : CI := (.seq (.reg [⟨none, some 3, .box 0 true (.t 0)⟩, ⟨none, some 6, .alloc 1 [.nils, .nils, .nils]⟩, ⟨none, some 7, .mv (.c (.int .i64 0))⟩])
 (.seq (.reg [⟨none, some 11, .load true 4 (.t 3)⟩, ⟨none, some 12, .load true 4 (.t 3)⟩, ⟨none, some 13, .mv (.t 1)⟩, ⟨none, some 8, .alloc 6 [.nils, .nils,
 (.int .i64 0), .nils, .nils]⟩, ⟨none, some 14, .call 133 [(.t 12), (.t 13)]⟩, ⟨none, some 15, .mv (.t 14)⟩, ⟨(some (15, true)), (some 16), .load true 4
 (.t 3)⟩, ⟨(some (15, true)), (some 17), .mv (.t 2)⟩, ⟨(some (15, true)), (some 18), .call 134 [(.t 16), (.t 17)]⟩, ⟨none, some 19, .pick (.t 15) (.t 18)
 (.c (.bool false))⟩, ⟨none, some 20, .callz 2 4 69 [(.t 11), (.t 19)] []⟩, ⟨none, some 10, .mv (.t 20)⟩, ⟨none, some 21, .extract 0 (.t 10)⟩, ⟨none, some
 22, .extract 1 (.t 10)⟩, ⟨none, none, .stz true 5 (.t 8) (.t 21) []⟩, ⟨none, some 9, .mv (.t 22)⟩]) (.seq (.seq (.reg [⟨none, some 23, .mv (.t 9)⟩, ⟨none,
 some 24, .bin .neq (.t 23) (.c (.int .i64 0))⟩]) (.cond (.t 24) (.seq (.reg [⟨none, some 25, .build [.nils, .nils, .nils] []⟩, ⟨none, some 26, .mv (.t
 9)⟩, ⟨none, none, .stz true 3 (.t 6) (.t 25) []⟩, ⟨none, some 7, .mv (.t 26)⟩]) .ret) .skip)) (.seq (.reg [⟨none, some 27, .load true 5 (.t 8)⟩, ⟨none,
 some 28, .mv (.t 1)⟩, ⟨none, some 29, .mv (.t 2)⟩, ⟨none, some 30, .callw 7 3 135 [(.t 27), (.t 28), (.t 29)]⟩, ⟨none, none, .stz true 3 (.t 6) (.t 30)
 []⟩, ⟨none, some 7, .mv (.c (.int .i64 0))⟩]) .ret))))
theorem ok91 : FnOk Try.prog 91 31 10 c91 [.cell 6 true 3, .t 7] := ⟨_, _, Try.func91, rfl, rfl, by kernel_rfl, by kernel_rfl⟩
theorem bd91 : bodied Try.prog 91 = true := by kernel_rfl

/-- (*ferrule/parts.work).most -/
def c92 : CI := (.seq (.reg [⟨none, some 2, .mv (.c (.int .i64 0))⟩]) (.seq (.reg [⟨none, some 3, .mv (.c (.int .i64 0))⟩]) (.seq (.seq (.reg [⟨none, some
 6, .mv (.t 0)⟩, ⟨none, some 7, .nilck (.t 6)⟩, ⟨none, some 8, .faddr 2 (.t 7)⟩, ⟨none, some 9, .load false 1 (.t 8)⟩, ⟨none, some 10, .len (.t 9)⟩, ⟨none,
 some 11, .mv (.c (.int .i64 0))⟩]) (.block 0 (.loop (.seq (.reg [⟨none, some 12, .bin .lss (.t 11) (.t 10)⟩]) (.seq (.cond (.t 12) .skip (.exit 0)) (.seq
 (.block 1 (.seq (.reg [⟨none, some 13, .iaddr 1 (.t 9) (.t 11)⟩, ⟨none, some 14, .load false 1 (.t 13)⟩, ⟨none, some 5, .mv (.t 14)⟩]) (.seq (.reg [⟨none,
 some 15, .mv (.t 5)⟩, ⟨none, some 16, .bin .neq (.t 15) (.c (.int .i64 (-1)))⟩]) (.cond (.t 16) (.reg [⟨none, some 17, .mv (.t 3)⟩, ⟨none, some 18, .bin
 .add (.t 17) (.c (.int .i64 1))⟩, ⟨none, some 3, .mv (.t 18)⟩]) .skip)))) (.reg [⟨none, some 19, .bin .add (.t 11) (.c (.int .i64 1))⟩, ⟨none, some 11,
 .mv (.t 19)⟩]))))))) (.seq (.reg [⟨none, some 20, .mv (.t 3)⟩, ⟨none, some 2, .mv (.t 20)⟩]) .ret))))
theorem ok92 : FnOk Try.prog 92 21 0 c92 [.t 2] := ⟨_, _, Try.func92, rfl, rfl, by kernel_rfl, by kernel_rfl⟩
theorem bd92 : bodied Try.prog 92 = true := by kernel_rfl

/-- ferrule/parts.each[ferrule/api.Spare] -/
def c110 : CI := (.seq (.reg [⟨none, some 4, .mv (.c (.bool false))⟩]) (.seq (.seq (.reg [⟨none, some 7, .mv (.t 0)⟩, ⟨none, some 8, .len (.t 7)⟩, ⟨none,
 some 9, .mv (.c (.int .i64 0))⟩]) (.block 0 (.loop (.seq (.reg [⟨none, some 10, .bin .lss (.t 9) (.t 8)⟩]) (.seq (.cond (.t 10) .skip (.exit 0)) (.seq
 (.block 1 (.seq (.reg [⟨none, some 11, .iaddr 4 (.t 7) (.t 9)⟩, ⟨none, some 12, .load true 4 (.t 11)⟩, ⟨none, some 6, .alloc 0 [(.int .i64 0), (.int .i64
 0), (.int .i64 0), (.int .i64 0)]⟩, ⟨none, none, .store true 4 (.t 6) (.t 12) []⟩]) (.seq (.reg [⟨none, some 13, .mv (.t 1)⟩, ⟨none, some 14, .load true
 4 (.t 6)⟩, ⟨none, some 15, .callx (.t 13) [(.t 14)]⟩, ⟨none, some 16, .un .not (.t 15)⟩]) (.cond (.t 16) (.seq (.reg [⟨none, some 4, .mv (.c (.bool false))⟩])
 .ret) .skip)))) (.reg [⟨none, some 17, .bin .add (.t 9) (.c (.int .i64 1))⟩, ⟨none, some 9, .mv (.t 17)⟩]))))))) (.seq (.reg [⟨none, some 4, .mv (.c (.bool
 true))⟩]) .ret)))
theorem ok110 : FnOk Try.prog 110 18 1 c110 [.t 4] := ⟨_, _, Try.func110, rfl, rfl, by kernel_rfl, by kernel_rfl⟩
theorem bd110 : bodied Try.prog 110 = true := by kernel_rfl

/-- ferrule/parts.validSpare -/
def c111 : CI := (.seq (.reg [⟨none, some 1, .box 0 true (.t 0)⟩, ⟨none, some 2, .mv (.c (.bool false))⟩]) (.seq (.reg [⟨none, some 3, .faddr 0 (.t 1)⟩,
 ⟨none, some 4, .load false 1 (.t 3)⟩, ⟨none, some 5, .call 148 [(.t 4)]⟩, ⟨none, some 6, .mv (.t 5)⟩, ⟨(some (6, true)), (some 7), .faddr 1 (.t 1)⟩, ⟨(some
 (6, true)), (some 8), .load false 1 (.t 7)⟩, ⟨(some (6, true)), (some 9), .call 148 [(.t 8)]⟩, ⟨none, some 10, .pick (.t 6) (.t 9) (.c (.bool false))⟩,
 ⟨none, some 11, .mv (.t 10)⟩, ⟨(some (11, true)), (some 12), .faddr 2 (.t 1)⟩, ⟨(some (11, true)), (some 13), .load true 2 (.t 12)⟩, ⟨(some (11, true)),
 (some 14), .call 149 [(.t 13)]⟩, ⟨none, some 15, .pick (.t 11) (.t 14) (.c (.bool false))⟩, ⟨none, some 2, .mv (.t 15)⟩]) .ret))
theorem ok111 : FnOk Try.prog 111 16 1 c111 [.t 2] := ⟨_, _, Try.func111, rfl, rfl, by kernel_rfl, by kernel_rfl⟩
theorem bd111 : bodied Try.prog 111 = true := by kernel_rfl

/-- ferrule/parts.each[ferrule/api.Make] -/
def c112 : CI := (.seq (.reg [⟨none, some 4, .mv (.c (.bool false))⟩]) (.seq (.seq (.reg [⟨none, some 7, .mv (.t 0)⟩, ⟨none, some 8, .len (.t 7)⟩, ⟨none,
 some 9, .mv (.c (.int .i64 0))⟩]) (.block 0 (.loop (.seq (.reg [⟨none, some 10, .bin .lss (.t 9) (.t 8)⟩]) (.seq (.cond (.t 10) .skip (.exit 0)) (.seq
 (.block 1 (.seq (.reg [⟨none, some 11, .iaddr 1 (.t 7) (.t 9)⟩, ⟨none, some 12, .load true 1 (.t 11)⟩, ⟨none, some 6, .alloc 0 [.nils]⟩, ⟨none, none, .stz
 true 1 (.t 6) (.t 12) []⟩]) (.seq (.reg [⟨none, some 13, .mv (.t 1)⟩, ⟨none, some 14, .load true 1 (.t 6)⟩, ⟨none, some 15, .callx (.t 13) [(.t 14)]⟩,
 ⟨none, some 16, .un .not (.t 15)⟩]) (.cond (.t 16) (.seq (.reg [⟨none, some 4, .mv (.c (.bool false))⟩]) .ret) .skip)))) (.reg [⟨none, some 17, .bin .add
 (.t 9) (.c (.int .i64 1))⟩, ⟨none, some 9, .mv (.t 17)⟩]))))))) (.seq (.reg [⟨none, some 4, .mv (.c (.bool true))⟩]) .ret)))
theorem ok112 : FnOk Try.prog 112 18 1 c112 [.t 4] := ⟨_, _, Try.func112, rfl, rfl, by kernel_rfl, by kernel_rfl⟩
theorem bd112 : bodied Try.prog 112 = true := by kernel_rfl

/-- ferrule/parts.validMake -/
def c113 : CI := (.seq (.reg [⟨none, some 1, .box 0 true (.t 0)⟩, ⟨none, some 2, .mv (.c (.bool false))⟩]) (.seq (.reg [⟨none, some 3, .faddr 0 (.t 1)⟩,
 ⟨none, some 4, .load false 1 (.t 3)⟩, ⟨none, some 5, .len (.t 4)⟩, ⟨none, some 6, .bin .leq (.t 5) (.c (.int .i64 4))⟩, ⟨none, some 7, .mv (.t 6)⟩, ⟨(some
 (7, true)), (some 8), .faddr 0 (.t 1)⟩, ⟨(some (7, true)), (some 9), .load false 1 (.t 8)⟩, ⟨(some (7, true)), (some 10), .call 150 [(.t 9), (.c (.fn 151
 []))]⟩, ⟨none, some 11, .pick (.t 7) (.t 10) (.c (.bool false))⟩, ⟨none, some 2, .mv (.t 11)⟩]) .ret))
theorem ok113 : FnOk Try.prog 113 12 1 c113 [.t 2] := ⟨_, _, Try.func113, rfl, rfl, by kernel_rfl, by kernel_rfl⟩
theorem bd113 : bodied Try.prog 113 = true := by kernel_rfl

/-- ferrule/parts.within -/
def c114 : CI := (.seq (.reg [⟨none, some 6, .mv (.c (.bool false))⟩]) (.seq (.reg [⟨none, some 7, .mv (.t 1)⟩, ⟨none, some 8, .mv (.t 0)⟩, ⟨none, some
 9, .bin .leq (.t 7) (.t 8)⟩, ⟨none, some 10, .mv (.t 9)⟩, ⟨(some (10, true)), (some 11), .mv (.t 0)⟩, ⟨(some (10, true)), (some 12), .mv (.t 2)⟩, ⟨(some
 (10, true)), (some 13), .bin .leq (.t 11) (.t 12)⟩, ⟨none, some 14, .pick (.t 10) (.t 13) (.c (.bool false))⟩, ⟨none, some 6, .mv (.t 14)⟩]) .ret))
theorem ok114 : FnOk Try.prog 114 15 0 c114 [.t 6] := ⟨_, _, Try.func114, rfl, rfl, by kernel_rfl, by kernel_rfl⟩
theorem bd114 : bodied Try.prog 114 = true := by kernel_rfl

/-- ferrule/parts.each[ferrule/api.Trial] -/
def c115 : CI := (.seq (.reg [⟨none, some 4, .mv (.c (.bool false))⟩]) (.seq (.seq (.reg [⟨none, some 7, .mv (.t 0)⟩, ⟨none, some 8, .len (.t 7)⟩, ⟨none,
 some 9, .mv (.c (.int .i64 0))⟩]) (.block 0 (.loop (.seq (.reg [⟨none, some 10, .bin .lss (.t 9) (.t 8)⟩]) (.seq (.cond (.t 10) .skip (.exit 0)) (.seq
 (.block 1 (.seq (.reg [⟨none, some 11, .iaddr 4 (.t 7) (.t 9)⟩, ⟨none, some 12, .load true 4 (.t 11)⟩, ⟨none, some 6, .alloc 0 [(.int .i64 0), (.int .i64
 0), (.int .i64 0), (.int .i64 0)]⟩, ⟨none, none, .store true 4 (.t 6) (.t 12) []⟩]) (.seq (.reg [⟨none, some 13, .mv (.t 1)⟩, ⟨none, some 14, .load true
 4 (.t 6)⟩, ⟨none, some 15, .callx (.t 13) [(.t 14)]⟩, ⟨none, some 16, .un .not (.t 15)⟩]) (.cond (.t 16) (.seq (.reg [⟨none, some 4, .mv (.c (.bool false))⟩])
 .ret) .skip)))) (.reg [⟨none, some 17, .bin .add (.t 9) (.c (.int .i64 1))⟩, ⟨none, some 9, .mv (.t 17)⟩]))))))) (.seq (.reg [⟨none, some 4, .mv (.c (.bool
 true))⟩]) .ret)))
theorem ok115 : FnOk Try.prog 115 18 1 c115 [.t 4] := ⟨_, _, Try.func115, rfl, rfl, by kernel_rfl, by kernel_rfl⟩
theorem bd115 : bodied Try.prog 115 = true := by kernel_rfl

/-- ferrule/parts.validWorkshop$1 -/
def c116 : CI := (.seq (.reg [⟨none, some 2, .box 0 true (.t 0)⟩, ⟨none, some 3, .mv (.c (.bool false))⟩]) (.seq (.reg [⟨none, some 4, .load true 4 (.t
 1)⟩, ⟨none, some 5, .faddr 0 (.t 2)⟩, ⟨none, some 6, .load false 1 (.t 5)⟩, ⟨none, some 7, .call 70 [(.t 4), (.t 6)]⟩, ⟨none, some 8, .mv (.t 7)⟩, ⟨(some
 (8, true)), (some 9), .load true 4 (.t 1)⟩, ⟨(some (8, true)), (some 10), .faddr 1 (.t 2)⟩, ⟨(some (8, true)), (some 11), .load false 1 (.t 10)⟩, ⟨(some
 (8, true)), (some 12), .faddr 2 (.t 2)⟩, ⟨(some (8, true)), (some 13), .load false 1 (.t 12)⟩, ⟨(some (8, true)), (some 14), .call 73 [(.t 9), (.t 11),
 (.t 13)]⟩, ⟨none, some 15, .pick (.t 8) (.t 14) (.c (.bool false))⟩, ⟨none, some 16, .mv (.t 15)⟩, ⟨(some (16, true)), (some 17), .faddr 3 (.t 2)⟩, ⟨(some
 (16, true)), (some 18), .load false 1 (.t 17)⟩, ⟨(some (16, true)), (some 19), .call 114 [(.t 18), (.c (.int .i64 0)), (.c (.int .i64 1))]⟩, ⟨none, some
 20, .pick (.t 16) (.t 19) (.c (.bool false))⟩, ⟨none, some 3, .mv (.t 20)⟩]) .ret))
theorem ok116 : FnOk Try.prog 116 21 1 c116 [.t 3] := ⟨_, _, Try.func116, rfl, rfl, by kernel_rfl, by kernel_rfl⟩
theorem bd116 : bodied Try.prog 116 = true := by kernel_rfl

/-- slices.ContainsFunc[[]ferrule/api.Trial,ferrule/api.Trial] -/
def c117 : CI := (.seq (.reg [⟨none, some 4, .mv (.c (.bool false))⟩]) (.seq (.reg [⟨none, some 5, .mv (.t 0)⟩, ⟨none, some 6, .mv (.t 1)⟩, ⟨none, some
 7, .call 152 [(.t 5), (.t 6)]⟩, ⟨none, some 8, .bin .geq (.t 7) (.c (.int .i64 0))⟩, ⟨none, some 4, .mv (.t 8)⟩]) .ret))
theorem ok117 : FnOk Try.prog 117 9 0 c117 [.t 4] := ⟨_, _, Try.func117, rfl, rfl, by kernel_rfl, by kernel_rfl⟩
theorem bd117 : bodied Try.prog 117 = true := by kernel_rfl

/-- ferrule/parts.clashes$1 -/
def c118 : CI := (.seq (.reg [⟨none, some 2, .box 0 true (.t 0)⟩, ⟨none, some 3, .mv (.c (.bool false))⟩]) (.seq (.reg [⟨none, some 4, .faddr 3 (.t 2)⟩,
 ⟨none, some 5, .load false 1 (.t 4)⟩, ⟨none, some 6, .bin .sub (.c (.int .i64 1)) (.t 5)⟩, ⟨none, some 7, .faddr 3 (.t 2)⟩, ⟨none, none, .store false 1
 (.t 7) (.t 6) []⟩]) (.seq (.reg [⟨none, some 8, .load false 1 (.t 1)⟩, ⟨none, some 9, .load true 4 (.t 2)⟩, ⟨none, some 10, .call 119 [(.t 8), (.t 9)]⟩,
 ⟨none, some 3, .mv (.t 10)⟩]) .ret)))
theorem ok118 : FnOk Try.prog 118 11 1 c118 [.t 3] := ⟨_, _, Try.func118, rfl, rfl, by kernel_rfl, by kernel_rfl⟩
theorem bd118 : bodied Try.prog 118 = true := by kernel_rfl

/-- slices.Contains[[]ferrule/api.Trial,ferrule/api.Trial] -/
def c119 : CI := (.seq (.reg [⟨none, some 3, .box 0 true (.t 1)⟩, ⟨none, some 4, .mv (.c (.bool false))⟩]) (.seq (.reg [⟨none, some 5, .mv (.t 0)⟩, ⟨none,
 some 6, .load true 4 (.t 3)⟩, ⟨none, some 7, .call 153 [(.t 5), (.t 6)]⟩, ⟨none, some 8, .bin .geq (.t 7) (.c (.int .i64 0))⟩, ⟨none, some 4, .mv (.t 8)⟩])
 .ret))
theorem ok119 : FnOk Try.prog 119 9 1 c119 [.t 4] := ⟨_, _, Try.func119, rfl, rfl, by kernel_rfl, by kernel_rfl⟩
theorem bd119 : bodied Try.prog 119 = true := by kernel_rfl

/-- ferrule/ferruleref07.isLength -/
def c120 : CI := (.seq (.reg [⟨none, some 1, .box 0 true (.t 0)⟩, ⟨none, some 2, .mv (.c (.bool false))⟩]) (.seq (.reg [⟨none, some 3, .faddr 0 (.t 1)⟩,
 ⟨none, some 4, .load false 1 (.t 3)⟩, ⟨none, some 5, .faddr 1 (.t 1)⟩, ⟨none, some 6, .load false 1 (.t 5)⟩, ⟨none, some 7, .call 90 [(.t 4), (.c (.int
 .i64 0)), (.t 6)]⟩, ⟨none, some 8, .mv (.t 7)⟩, ⟨(some (8, true)), (some 9), .faddr 1 (.t 1)⟩, ⟨(some (8, true)), (some 10), .load false 1 (.t 9)⟩, ⟨(some
 (8, true)), (some 11), .bin .leq (.t 10) (.c (.int .i64 999))⟩, ⟨none, some 12, .pick (.t 8) (.t 11) (.c (.bool false))⟩, ⟨none, some 2, .mv (.t 12)⟩])
 .ret))
theorem ok120 : FnOk Try.prog 120 13 1 c120 [.t 2] := ⟨_, _, Try.func120, rfl, rfl, by kernel_rfl, by kernel_rfl⟩
theorem bd120 : bodied Try.prog 120 = true := by kernel_rfl

/-- ferrule/ferruleref07.isSlot -/
def c121 : CI := (.seq (.reg [⟨none, some 1, .box 0 true (.t 0)⟩, ⟨none, some 2, .mv (.c (.bool false))⟩]) (.seq (.seq (.reg [⟨none, some 3, .mv (.c (.int
 .i64 0))⟩]) (.block 0 (.loop (.seq (.seq (.reg [⟨none, some 4, .mv (.t 3)⟩, ⟨none, some 5, .faddr 1 (.t 1)⟩, ⟨none, some 6, .load false 1 (.t 5)⟩, ⟨none,
 some 7, .len (.t 6)⟩, ⟨none, some 8, .bin .lss (.t 4) (.t 7)⟩]) (.cond (.t 8) .skip (.exit 0))) (.seq (.block 1 (.seq (.reg [⟨none, some 11, .faddr 1 (.t
 1)⟩, ⟨none, some 12, .load false 1 (.t 11)⟩, ⟨none, some 13, .mv (.t 3)⟩, ⟨none, some 14, .iaddr 1 (.t 12) (.t 13)⟩, ⟨none, some 15, .load false 1 (.t
 14)⟩, ⟨none, some 16, .call 90 [(.t 15), (.c (.int .i64 0)), (.c (.int .i64 9))]⟩, ⟨none, some 17, .un .not (.t 16)⟩]) (.cond (.t 17) (.seq (.reg [⟨none,
 some 2, .mv (.c (.bool false))⟩]) .ret) .skip))) (.reg [⟨none, some 9, .mv (.t 3)⟩, ⟨none, some 10, .bin .add (.t 9) (.c (.int .i64 1))⟩, ⟨none, some 3,
 .mv (.t 10)⟩])))))) (.seq (.reg [⟨none, some 18, .faddr 0 (.t 1)⟩, ⟨none, some 19, .load false 1 (.t 18)⟩, ⟨none, some 20, .call 90 [(.t 19), (.c (.int
 .i64 0)), (.c (.int .i64 9))]⟩, ⟨none, some 21, .mv (.t 20)⟩, ⟨(some (21, true)), (some 22), .faddr 1 (.t 1)⟩, ⟨(some (21, true)), (some 23), .load false
 1 (.t 22)⟩, ⟨(some (21, true)), (some 24), .len (.t 23)⟩, ⟨(some (21, true)), (some 25), .bin .leq (.t 24) (.c (.int .i64 4))⟩, ⟨none, some 26, .pick (.t
 21) (.t 25) (.c (.bool false))⟩, ⟨none, some 27, .mv (.t 26)⟩, ⟨(some (27, true)), (some 28), .faddr 1 (.t 1)⟩, ⟨(some (27, true)), (some 29), .load false
 1 (.t 28)⟩, ⟨(some (27, true)), (some 30), .call 50 [(.t 29)]⟩, ⟨none, some 31, .pick (.t 27) (.t 30) (.c (.bool false))⟩, ⟨none, some 32, .mv (.t 31)⟩,
 ⟨(some (32, true)), (some 33), .faddr 2 (.t 1)⟩, ⟨(some (32, true)), (some 34), .load true 2 (.t 33)⟩, ⟨(some (32, true)), (some 35), .call 120 [(.t 34)]⟩,
 ⟨none, some 36, .pick (.t 32) (.t 35) (.c (.bool false))⟩, ⟨none, some 2, .mv (.t 36)⟩]) .ret)))
theorem ok121 : FnOk Try.prog 121 37 1 c121 [.t 2] := ⟨_, _, Try.func121, rfl, rfl, by kernel_rfl, by kernel_rfl⟩
theorem bd121 : bodied Try.prog 121 = true := by kernel_rfl

/-- (ferrule/parts.shop).tried -/
def c122 : CI := (.seq (.reg [⟨none, some 2, .box 0 true (.t 0)⟩, ⟨none, some 4, .mv (.c .nils)⟩]) (.seq (.reg [⟨none, some 10, .faddr 0 (.t 2)⟩, ⟨none,
 some 11, .faddr 0 (.t 10)⟩, ⟨none, some 12, .load false 1 (.t 11)⟩, ⟨none, some 13, .mv (.t 1)⟩, ⟨none, some 14, .iaddr 4 (.t 12) (.t 13)⟩, ⟨none, some
 15, .faddr 2 (.t 14)⟩, ⟨none, some 16, .load true 2 (.t 15)⟩, ⟨none, some 17, .bsl 1 35 2 [(.t 16)] []⟩, ⟨none, some 5, .mv (.t 17)⟩]) (.seq (.seq (.reg
 [⟨none, some 18, .faddr 0 (.t 2)⟩, ⟨none, some 19, .faddr 3 (.t 18)⟩, ⟨none, some 20, .load false 1 (.t 19)⟩, ⟨none, some 21, .len (.t 20)⟩, ⟨none, some
 22, .mv (.c (.int .i64 0))⟩]) (.block 0 (.loop (.seq (.reg [⟨none, some 23, .bin .lss (.t 22) (.t 21)⟩]) (.seq (.cond (.t 23) .skip (.exit 0)) (.seq (.block
 1 (.seq (.reg [⟨none, some 24, .iaddr 4 (.t 20) (.t 22)⟩, ⟨none, some 25, .load true 4 (.t 24)⟩, ⟨none, some 7, .alloc 2 [(.int .i64 0), (.int .i64 0),
 (.int .i64 0), (.int .i64 0)]⟩, ⟨none, none, .store true 4 (.t 7) (.t 25) []⟩]) (.seq (.seq (.reg [⟨none, some 26, .faddr 0 (.t 7)⟩, ⟨none, some 27, .load
 false 1 (.t 26)⟩, ⟨none, some 28, .mv (.t 1)⟩, ⟨none, some 29, .bin .neq (.t 27) (.t 28)⟩]) (.cond (.t 29) (.exit 1) .skip)) (.seq (.reg [⟨none, some 31,
 .mv (.t 5)⟩, ⟨none, some 32, .load true 5 (.t 2)⟩, ⟨none, some 33, .mv (.t 1)⟩, ⟨none, some 34, .faddr 1 (.t 7)⟩, ⟨none, some 35, .load false 1 (.t 34)⟩,
 ⟨none, some 36, .faddr 2 (.t 7)⟩, ⟨none, some 37, .load false 1 (.t 36)⟩, ⟨none, some 38, .call 124 [(.t 32), (.t 33), (.t 35), (.t 37)]⟩, ⟨none, some
 39, .callw 3 2 123 [(.t 31), (.t 38)]⟩, ⟨none, some 30, .mv (.t 39)⟩, ⟨none, some 40, .extract 0 (.t 30)⟩, ⟨none, some 41, .extract 1 (.t 30)⟩, ⟨none,
 some 8, .mv (.t 40)⟩, ⟨none, some 9, .mv (.t 41)⟩]) (.seq (.reg [⟨none, some 42, .faddr 3 (.t 7)⟩, ⟨none, some 43, .load false 1 (.t 42)⟩, ⟨none, some
 44, .bin .eql (.t 43) (.c (.int .i64 1))⟩]) (.cond (.t 44) (.reg [⟨none, some 45, .mv (.t 8)⟩, ⟨none, some 5, .mv (.t 45)⟩]) (.reg [⟨none, some 46, .mv
 (.t 9)⟩, ⟨none, some 5, .mv (.t 46)⟩]))))))) (.reg [⟨none, some 47, .bin .add (.t 22) (.c (.int .i64 1))⟩, ⟨none, some 22, .mv (.t 47)⟩]))))))) (.seq (.reg
 [⟨none, some 48, .mv (.t 5)⟩, ⟨none, some 4, .mv (.t 48)⟩]) .ret))))
theorem ok122 : FnOk Try.prog 122 49 5 c122 [.t 4] := ⟨_, _, Try.func122, rfl, rfl, by kernel_rfl, by kernel_rfl⟩
theorem bd122 : bodied Try.prog 122 = true := by kernel_rfl

/-- ferrule/parts.split -/
def c123 : CI := (.seq (.reg [⟨none, some 3, .box 0 true (.t 1)⟩, ⟨none, some 4, .mv (.c .nils)⟩, ⟨none, some 5, .mv (.c .nils)⟩]) (.seq (.seq (.reg [⟨none,
 some 8, .mv (.t 0)⟩, ⟨none, some 9, .len (.t 8)⟩, ⟨none, some 10, .mv (.c (.int .i64 0))⟩]) (.block 0 (.loop (.seq (.reg [⟨none, some 11, .bin .lss (.t
 10) (.t 9)⟩]) (.seq (.cond (.t 11) .skip (.exit 0)) (.seq (.block 1 (.seq (.reg [⟨none, some 12, .iaddr 2 (.t 8) (.t 10)⟩, ⟨none, some 13, .load true 2
 (.t 12)⟩, ⟨none, some 7, .alloc 1 [(.int .i64 0), (.int .i64 0)]⟩, ⟨none, none, .store true 2 (.t 7) (.t 13) []⟩]) (.seq (.reg [⟨none, some 14, .mv (.t
 4)⟩, ⟨none, some 15, .faddr 0 (.t 7)⟩, ⟨none, some 16, .load false 1 (.t 15)⟩, ⟨none, some 17, .faddr 0 (.t 3)⟩, ⟨none, some 18, .load false 1 (.t 17)⟩,
 ⟨none, some 19, .mm true [(.t 16), (.t 18)]⟩, ⟨none, some 20, .faddr 1 (.t 7)⟩, ⟨none, some 21, .load false 1 (.t 20)⟩, ⟨none, some 22, .faddr 1 (.t 3)⟩,
 ⟨none, some 23, .load false 1 (.t 22)⟩, ⟨none, some 24, .mm false [(.t 21), (.t 23)]⟩, ⟨none, some 25, .build [(.int .i64 0), (.int .i64 0)] [(0, 1, (.t
 19)), (1, 1, (.t 24))]⟩, ⟨none, some 26, .callw 2 1 154 [(.t 14), (.t 25)]⟩, ⟨none, some 4, .mv (.t 26)⟩]) (.seq (.reg [⟨none, some 27, .mv (.t 5)⟩, ⟨none,
 some 28, .faddr 0 (.t 7)⟩, ⟨none, some 29, .load false 1 (.t 28)⟩, ⟨none, some 30, .faddr 1 (.t 7)⟩, ⟨none, some 31, .load false 1 (.t 30)⟩, ⟨none, some
 32, .faddr 0 (.t 3)⟩, ⟨none, some 33, .load false 1 (.t 32)⟩, ⟨none, some 34, .bin .sub (.t 33) (.c (.int .i64 1))⟩, ⟨none, some 35, .mm false [(.t 31),
 (.t 34)]⟩, ⟨none, some 36, .build [(.int .i64 0), (.int .i64 0)] [(0, 1, (.t 29)), (1, 1, (.t 35))]⟩, ⟨none, some 37, .callw 3 1 154 [(.t 27), (.t 36)]⟩,
 ⟨none, some 5, .mv (.t 37)⟩]) (.reg [⟨none, some 38, .mv (.t 5)⟩, ⟨none, some 39, .faddr 0 (.t 7)⟩, ⟨none, some 40, .load false 1 (.t 39)⟩, ⟨none, some
 41, .faddr 1 (.t 3)⟩, ⟨none, some 42, .load false 1 (.t 41)⟩, ⟨none, some 43, .bin .add (.t 42) (.c (.int .i64 1))⟩, ⟨none, some 44, .mm true [(.t 40),
 (.t 43)]⟩, ⟨none, some 45, .faddr 1 (.t 7)⟩, ⟨none, some 46, .load false 1 (.t 45)⟩, ⟨none, some 47, .build [(.int .i64 0), (.int .i64 0)] [(0, 1, (.t
 44)), (1, 1, (.t 46))]⟩, ⟨none, some 48, .callw 4 1 154 [(.t 38), (.t 47)]⟩, ⟨none, some 5, .mv (.t 48)⟩]))))) (.reg [⟨none, some 49, .bin .add (.t 10)
 (.c (.int .i64 1))⟩, ⟨none, some 10, .mv (.t 49)⟩]))))))) (.seq (.reg [⟨none, some 50, .mv (.t 4)⟩, ⟨none, some 51, .mv (.t 5)⟩, ⟨none, some 4, .mv (.t
 50)⟩, ⟨none, some 5, .mv (.t 51)⟩]) .ret)))
theorem ok123 : FnOk Try.prog 123 52 5 c123 [.t 4, .t 5] := ⟨_, _, Try.func123, rfl, rfl, by kernel_rfl, by kernel_rfl⟩
theorem bd123 : bodied Try.prog 123 = true := by kernel_rfl

/-- (ferrule/parts.shop).room -/
def c124 : CI := (.seq (.reg [⟨none, some 4, .box 0 true (.t 0)⟩, ⟨none, some 8, .alloc 1 [(.int .i64 0), (.int .i64 0)]⟩]) (.seq (.reg [⟨none, some 11,
 .faddr 0 (.t 4)⟩, ⟨none, some 12, .faddr 0 (.t 11)⟩, ⟨none, some 13, .load false 1 (.t 12)⟩, ⟨none, some 14, .mv (.t 1)⟩, ⟨none, some 15, .iaddr 4 (.t
 13) (.t 14)⟩, ⟨none, some 16, .load true 4 (.t 15)⟩, ⟨none, some 17, .faddr 0 (.t 4)⟩, ⟨none, some 18, .faddr 1 (.t 17)⟩, ⟨none, some 19, .load false 1
 (.t 18)⟩, ⟨none, some 20, .mv (.t 2)⟩, ⟨none, some 21, .iaddr 1 (.t 19) (.t 20)⟩, ⟨none, some 22, .faddr 0 (.t 21)⟩, ⟨none, some 23, .load false 1 (.t
 22)⟩, ⟨none, some 24, .mv (.t 3)⟩, ⟨none, some 25, .iaddr 4 (.t 23) (.t 24)⟩, ⟨none, some 26, .load true 4 (.t 25)⟩, ⟨none, some 9, .alloc 2 [(.int .i64
 0), (.int .i64 0), (.int .i64 0), (.int .i64 0)]⟩, ⟨none, some 10, .alloc 3 [(.int .i64 0), .nils, (.int .i64 0), (.int .i64 0)]⟩, ⟨none, none, .store
 true 4 (.t 9) (.t 16) [(.t 18), (.t 19), (.t 22), (.t 23), (.t 25)]⟩, ⟨none, none, .stz true 4 (.t 10) (.t 26) []⟩]) (.seq (.seq (.reg [⟨none, some 27,
 .faddr 0 (.t 9)⟩, ⟨none, some 28, .load false 1 (.t 27)⟩, ⟨none, some 29, .faddr 0 (.t 10)⟩, ⟨none, some 30, .load false 1 (.t 29)⟩, ⟨none, some 31, .bin
 .neq (.t 28) (.t 30)⟩, ⟨none, some 32, .mv (.t 31)⟩, ⟨(some (32, false)), (some 33), .faddr 1 (.t 10)⟩, ⟨(some (32, false)), (some 34), .load false 1 (.t
 33)⟩, ⟨(some (32, false)), (some 35), .faddr 1 (.t 9)⟩, ⟨(some (32, false)), (some 36), .load false 1 (.t 35)⟩, ⟨(some (32, false)), (some 37), .call 89
 [(.t 34), (.t 36)]⟩, ⟨(some (32, false)), (some 38), .un .not (.t 37)⟩, ⟨none, some 39, .pick (.t 32) (.c (.bool true)) (.t 38)⟩]) (.cond (.t 39) (.seq
 (.reg [⟨none, some 40, .build [(.int .i64 0), (.int .i64 0)] [(0, 1, (.c (.int .i64 0))), (1, 1, (.c (.int .i64 (-1))))]⟩, ⟨none, none, .store true 2 (.t
 8) (.t 40) []⟩]) .ret) .skip)) (.seq (.reg [⟨none, some 41, .faddr 2 (.t 10)⟩, ⟨none, some 42, .faddr 0 (.t 41)⟩, ⟨none, some 43, .load false 1 (.t 42)⟩,
 ⟨none, some 44, .faddr 2 (.t 10)⟩, ⟨none, some 45, .faddr 1 (.t 44)⟩, ⟨none, some 46, .load false 1 (.t 45)⟩, ⟨none, some 47, .faddr 0 (.t 4)⟩, ⟨none,
 some 48, .faddr 2 (.t 47)⟩, ⟨none, some 49, .load false 1 (.t 48)⟩, ⟨none, some 50, .bin .add (.t 46) (.t 49)⟩, ⟨none, some 51, .build [(.int .i64 0),
 (.int .i64 0)] [(0, 1, (.t 43)), (1, 1, (.t 50))]⟩, ⟨none, none, .store true 2 (.t 8) (.t 51) []⟩]) .ret))))
theorem ok124 : FnOk Try.prog 124 52 4 c124 [.cell 8 true 2] := ⟨_, _, Try.func124, rfl, rfl, by kernel_rfl, by kernel_rfl⟩
theorem bd124 : bodied Try.prog 124 = true := by kernel_rfl

/-- ferrule/parts.ascends -/
def c126 : CI := (.seq (.reg [⟨none, some 2, .mv (.c (.bool false))⟩]) (.seq (.seq (.reg [⟨none, some 4, .mv (.t 0)⟩, ⟨none, some 5, .len (.t 4)⟩, ⟨none,
 some 6, .bin .sub (.t 5) (.c (.int .i64 1))⟩, ⟨none, some 7, .mv (.c (.int .i64 0))⟩]) (.block 0 (.loop (.seq (.reg [⟨none, some 8, .bin .lss (.t 7) (.t
 6)⟩]) (.seq (.cond (.t 8) .skip (.exit 0)) (.seq (.block 1 (.seq (.reg [⟨none, some 9, .mv (.t 7)⟩, ⟨none, some 3, .mv (.t 9)⟩]) (.seq (.reg [⟨none, some
 10, .mv (.t 0)⟩, ⟨none, some 11, .mv (.t 3)⟩, ⟨none, some 12, .iaddr 1 (.t 10) (.t 11)⟩, ⟨none, some 13, .load false 1 (.t 12)⟩, ⟨none, some 14, .mv (.t
 0)⟩, ⟨none, some 15, .mv (.t 3)⟩, ⟨none, some 16, .bin .add (.t 15) (.c (.int .i64 1))⟩, ⟨none, some 17, .iaddr 1 (.t 14) (.t 16)⟩, ⟨none, some 18, .load
 false 1 (.t 17)⟩, ⟨none, some 19, .bin .geq (.t 13) (.t 18)⟩]) (.cond (.t 19) (.seq (.reg [⟨none, some 2, .mv (.c (.bool false))⟩]) .ret) .skip)))) (.reg
 [⟨none, some 20, .bin .add (.t 7) (.c (.int .i64 1))⟩, ⟨none, some 7, .mv (.t 20)⟩]))))))) (.seq (.reg [⟨none, some 2, .mv (.c (.bool true))⟩]) .ret)))
theorem ok126 : FnOk Try.prog 126 21 0 c126 [.t 2] := ⟨_, _, Try.func126, rfl, rfl, by kernel_rfl, by kernel_rfl⟩
theorem bd126 : bodied Try.prog 126 = true := by kernel_rfl

/-- ferrule/parts.each[int] -/
def c127 : CI := (.seq (.reg [⟨none, some 4, .mv (.c (.bool false))⟩]) (.seq (.seq (.reg [⟨none, some 7, .mv (.t 0)⟩, ⟨none, some 8, .len (.t 7)⟩, ⟨none,
 some 9, .mv (.c (.int .i64 0))⟩]) (.block 0 (.loop (.seq (.reg [⟨none, some 10, .bin .lss (.t 9) (.t 8)⟩]) (.seq (.cond (.t 10) .skip (.exit 0)) (.seq
 (.block 1 (.seq (.reg [⟨none, some 11, .iaddr 1 (.t 7) (.t 9)⟩, ⟨none, some 12, .load false 1 (.t 11)⟩, ⟨none, some 6, .mv (.t 12)⟩]) (.seq (.reg [⟨none,
 some 13, .mv (.t 1)⟩, ⟨none, some 14, .mv (.t 6)⟩, ⟨none, some 15, .callx (.t 13) [(.t 14)]⟩, ⟨none, some 16, .un .not (.t 15)⟩]) (.cond (.t 16) (.seq
 (.reg [⟨none, some 4, .mv (.c (.bool false))⟩]) .ret) .skip)))) (.reg [⟨none, some 17, .bin .add (.t 9) (.c (.int .i64 1))⟩, ⟨none, some 9, .mv (.t 17)⟩])))))))
 (.seq (.reg [⟨none, some 4, .mv (.c (.bool true))⟩]) .ret)))
theorem ok127 : FnOk Try.prog 127 18 0 c127 [.t 4] := ⟨_, _, Try.func127, rfl, rfl, by kernel_rfl, by kernel_rfl⟩
theorem bd127 : bodied Try.prog 127 = true := by kernel_rfl

/-- (ferrule/parts.shop).fewest -/
def c131 : CI := (.seq (.reg [⟨none, some 1, .box 0 true (.t 0)⟩, ⟨none, some 2, .mv (.c .nils)⟩]) (.seq (.reg [⟨none, some 3, .alloc 1 [.nils]⟩]) (.seq
 (.seq (.reg [⟨none, some 5, .load true 5 (.t 1)⟩, ⟨none, some 6, .mkmt 156 [(.t 5)]⟩]) (.block 0 (.rng (.t 6) [7] (.reg [⟨none, some 4, .mv (.t 7)⟩]) (.block
 1 (.seq (.seq (.reg [⟨none, some 8, .load false 1 (.t 3)⟩, ⟨none, some 9, .len (.t 8)⟩, ⟨none, some 10, .bin .gtr (.t 9) (.c (.int .i64 0))⟩, ⟨none, some
 11, .mv (.t 10)⟩, ⟨(some (11, true)), (some 12), .mv (.t 4)⟩, ⟨(some (11, true)), (some 13), .len (.t 12)⟩, ⟨(some (11, true)), (some 14), .load false
 1 (.t 3)⟩, ⟨(some (11, true)), (some 15), .iaddr 1 (.t 14) (.c (.int .i64 0))⟩, ⟨(some (11, true)), (some 16), .load false 1 (.t 15)⟩, ⟨(some (11, true)),
 (some 17), .len (.t 16)⟩, ⟨(some (11, true)), (some 18), .bin .gtr (.t 13) (.t 17)⟩, ⟨none, some 19, .pick (.t 11) (.t 18) (.c (.bool false))⟩]) (.cond
 (.t 19) (.exit 1) .skip)) (.seq (.seq (.reg [⟨none, some 20, .load false 1 (.t 3)⟩, ⟨none, some 21, .len (.t 20)⟩, ⟨none, some 22, .bin .gtr (.t 21) (.c
 (.int .i64 0))⟩, ⟨none, some 23, .mv (.t 22)⟩, ⟨(some (23, true)), (some 24), .mv (.t 4)⟩, ⟨(some (23, true)), (some 25), .len (.t 24)⟩, ⟨(some (23, true)),
 (some 26), .load false 1 (.t 3)⟩, ⟨(some (23, true)), (some 27), .iaddr 1 (.t 26) (.c (.int .i64 0))⟩, ⟨(some (23, true)), (some 28), .load false 1 (.t
 27)⟩, ⟨(some (23, true)), (some 29), .len (.t 28)⟩, ⟨(some (23, true)), (some 30), .bin .lss (.t 25) (.t 29)⟩, ⟨none, some 31, .pick (.t 23) (.t 30) (.c
 (.bool false))⟩]) (.cond (.t 31) (.reg [⟨none, none, .stz false 1 (.t 3) (.c .nils) []⟩]) .skip)) (.reg [⟨none, some 32, .load false 1 (.t 3)⟩, ⟨none,
 some 33, .mv (.t 4)⟩, ⟨none, some 34, .bsl 2 42 1 [(.t 33)] []⟩, ⟨none, some 35, .apd 3 42 1 24 (.t 32) (.t 34) []⟩, ⟨none, none, .stz false 1 (.t 3) (.t
 35) []⟩]))))))) (.seq (.reg [⟨none, some 36, .load false 1 (.t 3)⟩, ⟨none, some 2, .mv (.t 36)⟩]) .ret))))
theorem ok131 : FnOk Try.prog 131 37 4 c131 [.t 2] := ⟨_, _, Try.func131, rfl, rfl, by kernel_rfl, by kernel_rfl⟩
theorem bd131 : bodied Try.prog 131 = true := by kernel_rfl

/-- slices.Index[[]int,int] -/
def c132 : CI := (.seq (.reg [⟨none, some 4, .mv (.c (.int .i64 0))⟩]) (.seq (.seq (.reg [⟨none, some 6, .mv (.t 0)⟩, ⟨none, some 7, .len (.t 6)⟩, ⟨none,
 some 8, .mv (.c (.int .i64 0))⟩]) (.block 0 (.loop (.seq (.reg [⟨none, some 9, .bin .lss (.t 8) (.t 7)⟩]) (.seq (.cond (.t 9) .skip (.exit 0)) (.seq (.block
 1 (.seq (.reg [⟨none, some 10, .mv (.t 8)⟩, ⟨none, some 5, .mv (.t 10)⟩]) (.seq (.reg [⟨none, some 11, .mv (.t 1)⟩, ⟨none, some 12, .mv (.t 0)⟩, ⟨none,
 some 13, .mv (.t 5)⟩, ⟨none, some 14, .iaddr 1 (.t 12) (.t 13)⟩, ⟨none, some 15, .load false 1 (.t 14)⟩, ⟨none, some 16, .bin .eql (.t 11) (.t 15)⟩]) (.cond
 (.t 16) (.seq (.reg [⟨none, some 17, .mv (.t 5)⟩, ⟨none, some 4, .mv (.t 17)⟩]) .ret) .skip)))) (.reg [⟨none, some 18, .bin .add (.t 8) (.c (.int .i64
 1))⟩, ⟨none, some 8, .mv (.t 18)⟩]))))))) (.seq (.reg [⟨none, some 4, .mv (.c (.int .i64 (-1)))⟩]) .ret)))
theorem ok132 : FnOk Try.prog 132 19 0 c132 [.t 4] := ⟨_, _, Try.func132, rfl, rfl, by kernel_rfl, by kernel_rfl⟩
theorem bd132 : bodied Try.prog 132 = true := by kernel_rfl

/-- ferrule/parts.isStock -/
def c133 : CI := (.seq (.reg [⟨none, some 2, .box 0 true (.t 0)⟩, ⟨none, some 4, .mv (.c (.bool false))⟩]) (.seq (.reg [⟨none, some 5, .mv (.t 1)⟩, ⟨none,
 some 6, .len (.t 5)⟩, ⟨none, some 7, .faddr 0 (.t 2)⟩, ⟨none, some 8, .load false 1 (.t 7)⟩, ⟨none, some 9, .len (.t 8)⟩, ⟨none, some 10, .bin .eql (.t
 6) (.t 9)⟩, ⟨none, some 11, .mv (.t 10)⟩, ⟨(some (11, true)), (some 12), .mv (.t 1)⟩, ⟨(some (11, true)), (some 13), .call 127 [(.t 12), (.c (.fn 157 []))]⟩,
 ⟨none, some 14, .pick (.t 11) (.t 13) (.c (.bool false))⟩, ⟨none, some 4, .mv (.t 14)⟩]) .ret))
theorem ok133 : FnOk Try.prog 133 15 1 c133 [.t 4] := ⟨_, _, Try.func133, rfl, rfl, by kernel_rfl, by kernel_rfl⟩
theorem bd133 : bodied Try.prog 133 = true := by kernel_rfl

/-- ferrule/parts.areJobs -/
def c134 : CI := (.seq (.reg [⟨none, some 2, .box 0 true (.t 0)⟩, ⟨none, some 4, .mv (.c (.bool false))⟩]) (.seq (.reg [⟨none, some 5, .mv (.t 1)⟩, ⟨none,
 some 6, .len (.t 5)⟩, ⟨none, some 7, .bin .leq (.t 6) (.c (.int .i64 10))⟩, ⟨none, some 8, .mv (.t 7)⟩, ⟨(some (8, true)), (some 9), .mv (.t 1)⟩, ⟨(some
 (8, true)), (some 10), .mkfn 159 [(.t 2)]⟩, ⟨(some (8, true)), (some 11), .call 158 [(.t 9), (.t 10)]⟩, ⟨none, some 12, .pick (.t 8) (.t 11) (.c (.bool
 false))⟩, ⟨none, some 4, .mv (.t 12)⟩]) .ret))
theorem ok134 : FnOk Try.prog 134 13 1 c134 [.t 4] := ⟨_, _, Try.func134, rfl, rfl, by kernel_rfl, by kernel_rfl⟩
theorem bd134 : bodied Try.prog 134 = true := by kernel_rfl

/-- (ferrule/parts.shop).work -/
def c135 : CI := (.seq (.reg [⟨none, some 3, .box 0 true (.t 0)⟩, ⟨none, some 6, .alloc 1 [.nils, .nils, .nils]⟩]) (.seq (.reg [⟨none, some 11, .mv (.t
 1)⟩, ⟨none, some 12, .callw 2 1 160 [(.t 11)]⟩, ⟨none, some 13, .build [.nils, .nils, .nils] [(1, 1, (.t 12))]⟩, ⟨none, some 7, .alloc 3 [.nils, .nils,
 .nils]⟩, ⟨none, none, .stz true 3 (.t 7) (.t 13) []⟩]) (.seq (.seq (.reg [⟨none, some 14, .mv (.t 2)⟩, ⟨none, some 15, .len (.t 14)⟩, ⟨none, some 16, .mv
 (.c (.int .i64 0))⟩]) (.block 0 (.loop (.seq (.reg [⟨none, some 17, .bin .lss (.t 16) (.t 15)⟩]) (.seq (.cond (.t 17) .skip (.exit 0)) (.seq (.block 1
 (.seq (.reg [⟨none, some 18, .iaddr 2 (.t 14) (.t 16)⟩, ⟨none, some 19, .load true 2 (.t 18)⟩, ⟨none, some 9, .alloc 4 [(.int .i64 0), (.int .i64 0)]⟩,
 ⟨none, none, .store true 2 (.t 9) (.t 19) []⟩]) (.seq (.reg [⟨none, some 20, .faddr 0 (.t 7)⟩, ⟨none, some 21, .load false 1 (.t 20)⟩, ⟨none, some 22,
 .load true 5 (.t 3)⟩, ⟨none, some 23, .faddr 0 (.t 9)⟩, ⟨none, some 24, .load false 1 (.t 23)⟩, ⟨none, some 25, .faddr 1 (.t 9)⟩, ⟨none, some 26, .load
 false 1 (.t 25)⟩, ⟨none, some 27, .callz 5 1 161 [(.t 22), (.t 24), (.t 26)] []⟩, ⟨none, some 28, .bsl 6 42 1 [(.t 27)] []⟩, ⟨none, some 29, .apd 7 42
 1 24 (.t 21) (.t 28) []⟩, ⟨none, some 30, .faddr 0 (.t 7)⟩, ⟨none, none, .stz false 1 (.t 30) (.t 29) []⟩]) (.reg [⟨none, some 31, .faddr 2 (.t 7)⟩, ⟨none,
 some 32, .load false 1 (.t 31)⟩, ⟨none, some 33, .bsl 8 3 1 [(.c (.int .i64 (-1)))] []⟩, ⟨none, some 34, .apd 9 3 1 8 (.t 32) (.t 33) []⟩, ⟨none, some
 35, .faddr 2 (.t 7)⟩, ⟨none, none, .stz false 1 (.t 35) (.t 34) []⟩])))) (.reg [⟨none, some 36, .bin .add (.t 16) (.c (.int .i64 1))⟩, ⟨none, some 16,
 .mv (.t 36)⟩]))))))) (.seq (.seq (.reg [⟨none, some 37, .mv (.t 2)⟩, ⟨none, some 38, .len (.t 37)⟩, ⟨none, some 39, .mv (.c (.int .i64 0))⟩]) (.block 2
 (.loop (.seq (.reg [⟨none, some 40, .bin .lss (.t 39) (.t 38)⟩]) (.seq (.cond (.t 40) .skip (.exit 2)) (.seq (.block 3 (.seq (.reg [⟨none, some 41, .mv
 (.t 39)⟩, ⟨none, some 10, .mv (.t 41)⟩]) (.reg [⟨none, some 42, .mv (.t 10)⟩, ⟨none, some 43, .mv (.t 1)⟩, ⟨none, some 44, .len (.t 43)⟩, ⟨none, some 45,
 .mks 10 4 1 1 [(.bool false)] (.t 44) (.t 44)⟩, ⟨none, some 46, .callw 11 0 136 [(.t 7), (.t 42), (.t 45)]⟩]))) (.reg [⟨none, some 47, .bin .add (.t 39)
 (.c (.int .i64 1))⟩, ⟨none, some 39, .mv (.t 47)⟩]))))))) (.seq (.reg [⟨none, some 48, .load true 3 (.t 7)⟩, ⟨none, none, .stz true 3 (.t 6) (.t 48) []⟩])
 .ret)))))
theorem ok135 : FnOk Try.prog 135 49 11 c135 [.cell 6 true 3] := ⟨_, _, Try.func135, rfl, rfl, by kernel_rfl, by kernel_rfl⟩
theorem bd135 : bodied Try.prog 135 = true := by kernel_rfl

/-- (*ferrule/parts.work).give -/
def c136 : CI := (.seq (.reg [⟨none, some 6, .mv (.c (.bool false))⟩]) (.seq (.seq (.reg [⟨none, some 11, .mv (.t 0)⟩, ⟨none, some 12, .nilck (.t 11)⟩,
 ⟨none, some 13, .faddr 0 (.t 12)⟩, ⟨none, some 14, .load false 1 (.t 13)⟩, ⟨none, some 15, .mv (.t 1)⟩, ⟨none, some 16, .iaddr 1 (.t 14) (.t 15)⟩, ⟨none,
 some 17, .load false 1 (.t 16)⟩, ⟨none, some 18, .len (.t 17)⟩, ⟨none, some 19, .mv (.c (.int .i64 0))⟩]) (.block 0 (.loop (.seq (.reg [⟨none, some 20,
 .bin .lss (.t 19) (.t 18)⟩]) (.seq (.cond (.t 20) .skip (.exit 0)) (.seq (.block 1 (.seq (.reg [⟨none, some 21, .iaddr 1 (.t 17) (.t 19)⟩, ⟨none, some
 22, .load false 1 (.t 21)⟩, ⟨none, some 8, .mv (.t 22)⟩]) (.seq (.seq (.reg [⟨none, some 23, .mv (.t 2)⟩, ⟨none, some 24, .mv (.t 8)⟩, ⟨none, some 25,
 .iaddr 1 (.t 23) (.t 24)⟩, ⟨none, some 26, .load false 1 (.t 25)⟩]) (.cond (.t 26) (.exit 1) .skip)) (.seq (.reg [⟨none, some 27, .mv (.t 2)⟩, ⟨none, some
 28, .mv (.t 8)⟩, ⟨none, some 29, .iaddr 1 (.t 27) (.t 28)⟩, ⟨none, none, .store false 1 (.t 29) (.c (.bool true)) []⟩]) (.seq (.seq (.reg [⟨none, some
 30, .mv (.t 0)⟩, ⟨none, some 31, .nilck (.t 30)⟩, ⟨none, some 32, .faddr 1 (.t 31)⟩, ⟨none, some 33, .load false 1 (.t 32)⟩, ⟨none, some 34, .mv (.t 8)⟩,
 ⟨none, some 35, .iaddr 1 (.t 33) (.t 34)⟩, ⟨none, some 36, .load false 1 (.t 35)⟩, ⟨none, some 37, .bin .gtr (.t 36) (.c (.int .i64 0))⟩]) (.cond (.t 37)
 (.seq (.reg [⟨none, some 38, .mv (.t 0)⟩, ⟨none, some 39, .nilck (.t 38)⟩, ⟨none, some 40, .faddr 1 (.t 39)⟩, ⟨none, some 41, .load false 1 (.t 40)⟩, ⟨none,
 some 42, .mv (.t 8)⟩, ⟨none, some 43, .iaddr 1 (.t 41) (.t 42)⟩, ⟨none, some 44, .load false 1 (.t 43)⟩, ⟨none, some 45, .bin .sub (.t 44) (.c (.int .i64
 1))⟩, ⟨none, some 46, .iaddr 1 (.t 41) (.t 42)⟩, ⟨none, none, .store false 1 (.t 46) (.t 45) []⟩]) (.seq (.reg [⟨none, some 47, .mv (.t 0)⟩, ⟨none, some
 48, .nilck (.t 47)⟩, ⟨none, some 49, .faddr 2 (.t 48)⟩, ⟨none, some 50, .load false 1 (.t 49)⟩, ⟨none, some 51, .mv (.t 1)⟩, ⟨none, some 52, .mv (.t 8)⟩,
 ⟨none, some 53, .iaddr 1 (.t 50) (.t 51)⟩, ⟨none, none, .store false 1 (.t 53) (.t 52) []⟩]) (.seq (.reg [⟨none, some 6, .mv (.c (.bool true))⟩]) .ret)))
 .skip)) (.seq (.reg [⟨none, some 54, .mv (.t 0)⟩, ⟨none, some 55, .nilck (.t 54)⟩, ⟨none, some 56, .faddr 2 (.t 55)⟩, ⟨none, some 57, .load false 1 (.t
 56)⟩, ⟨none, some 58, .len (.t 57)⟩, ⟨none, some 59, .mv (.c (.int .i64 0))⟩]) (.block 2 (.loop (.seq (.reg [⟨none, some 60, .bin .lss (.t 59) (.t 58)⟩])
 (.seq (.cond (.t 60) .skip (.exit 2)) (.seq (.block 3 (.seq (.reg [⟨none, some 61, .mv (.t 59)⟩, ⟨none, some 62, .iaddr 1 (.t 57) (.t 59)⟩, ⟨none, some
 63, .load false 1 (.t 62)⟩, ⟨none, some 9, .mv (.t 61)⟩, ⟨none, some 10, .mv (.t 63)⟩]) (.seq (.reg [⟨none, some 64, .mv (.t 10)⟩, ⟨none, some 65, .mv
 (.t 8)⟩, ⟨none, some 66, .bin .eql (.t 64) (.t 65)⟩, ⟨none, some 67, .mv (.t 66)⟩, ⟨(some (67, true)), (some 68), .mv (.t 0)⟩, ⟨(some (67, true)), (some
 69), .mv (.t 9)⟩, ⟨(some (67, true)), (some 70), .mv (.t 2)⟩, ⟨(some (67, true)), (some 71), .callw 0 0 136 [(.t 68), (.t 69), (.t 70)]⟩, ⟨none, some 72,
 .pick (.t 67) (.t 71) (.c (.bool false))⟩]) (.cond (.t 72) (.seq (.reg [⟨none, some 73, .mv (.t 0)⟩, ⟨none, some 74, .nilck (.t 73)⟩, ⟨none, some 75, .faddr
 2 (.t 74)⟩, ⟨none, some 76, .load false 1 (.t 75)⟩, ⟨none, some 77, .mv (.t 1)⟩, ⟨none, some 78, .mv (.t 8)⟩, ⟨none, some 79, .iaddr 1 (.t 76) (.t 77)⟩,
 ⟨none, none, .store false 1 (.t 79) (.t 78) []⟩]) (.seq (.reg [⟨none, some 6, .mv (.c (.bool true))⟩]) .ret)) .skip)))) (.reg [⟨none, some 80, .bin .add
 (.t 59) (.c (.int .i64 1))⟩, ⟨none, some 59, .mv (.t 80)⟩])))))))))))) (.reg [⟨none, some 81, .bin .add (.t 19) (.c (.int .i64 1))⟩, ⟨none, some 19, .mv
 (.t 81)⟩]))))))) (.seq (.reg [⟨none, some 6, .mv (.c (.bool false))⟩]) .ret)))
theorem ok136 : FnOk Try.prog 136 82 0 c136 [.t 6] := ⟨_, _, Try.func136, rfl, rfl, by kernel_rfl, by kernel_rfl⟩
theorem bd136 : bodied Try.prog 136 = true := by kernel_rfl

/-- ferrule/parts.isSection -/
def c148 : CI := (.seq (.reg [⟨none, some 2, .mv (.c (.bool false))⟩]) (.seq (.reg [⟨none, some 3, .mv (.t 0)⟩, ⟨none, some 4, .call 114 [(.t 3), (.c (.int
 .i64 0)), (.c (.int .i64 9))]⟩, ⟨none, some 2, .mv (.t 4)⟩]) .ret))
theorem ok148 : FnOk Try.prog 148 5 0 c148 [.t 2] := ⟨_, _, Try.func148, rfl, rfl, by kernel_rfl, by kernel_rfl⟩
theorem bd148 : bodied Try.prog 148 = true := by kernel_rfl

/-- ferrule/parts.validLength -/
def c149 : CI := (.seq (.reg [⟨none, some 1, .box 0 true (.t 0)⟩, ⟨none, some 2, .mv (.c (.bool false))⟩]) (.seq (.reg [⟨none, some 3, .faddr 0 (.t 1)⟩,
 ⟨none, some 4, .load false 1 (.t 3)⟩, ⟨none, some 5, .faddr 1 (.t 1)⟩, ⟨none, some 6, .load false 1 (.t 5)⟩, ⟨none, some 7, .call 114 [(.t 4), (.c (.int
 .i64 0)), (.t 6)]⟩, ⟨none, some 8, .mv (.t 7)⟩, ⟨(some (8, true)), (some 9), .faddr 1 (.t 1)⟩, ⟨(some (8, true)), (some 10), .load false 1 (.t 9)⟩, ⟨(some
 (8, true)), (some 11), .bin .leq (.t 10) (.c (.int .i64 999))⟩, ⟨none, some 12, .pick (.t 8) (.t 11) (.c (.bool false))⟩, ⟨none, some 2, .mv (.t 12)⟩])
 .ret))
theorem ok149 : FnOk Try.prog 149 13 1 c149 [.t 2] := ⟨_, _, Try.func149, rfl, rfl, by kernel_rfl, by kernel_rfl⟩
theorem bd149 : bodied Try.prog 149 = true := by kernel_rfl

/-- ferrule/parts.each[ferrule/api.Slot] -/
def c150 : CI := (.seq (.reg [⟨none, some 4, .mv (.c (.bool false))⟩]) (.seq (.seq (.reg [⟨none, some 7, .mv (.t 0)⟩, ⟨none, some 8, .len (.t 7)⟩, ⟨none,
 some 9, .mv (.c (.int .i64 0))⟩]) (.block 0 (.loop (.seq (.reg [⟨none, some 10, .bin .lss (.t 9) (.t 8)⟩]) (.seq (.cond (.t 10) .skip (.exit 0)) (.seq
 (.block 1 (.seq (.reg [⟨none, some 11, .iaddr 4 (.t 7) (.t 9)⟩, ⟨none, some 12, .load true 4 (.t 11)⟩, ⟨none, some 6, .alloc 0 [(.int .i64 0), .nils, (.int
 .i64 0), (.int .i64 0)]⟩, ⟨none, none, .stz true 4 (.t 6) (.t 12) []⟩]) (.seq (.reg [⟨none, some 13, .mv (.t 1)⟩, ⟨none, some 14, .load true 4 (.t 6)⟩,
 ⟨none, some 15, .callx (.t 13) [(.t 14)]⟩, ⟨none, some 16, .un .not (.t 15)⟩]) (.cond (.t 16) (.seq (.reg [⟨none, some 4, .mv (.c (.bool false))⟩]) .ret)
 .skip)))) (.reg [⟨none, some 17, .bin .add (.t 9) (.c (.int .i64 1))⟩, ⟨none, some 9, .mv (.t 17)⟩]))))))) (.seq (.reg [⟨none, some 4, .mv (.c (.bool true))⟩])
 .ret)))
theorem ok150 : FnOk Try.prog 150 18 1 c150 [.t 4] := ⟨_, _, Try.func150, rfl, rfl, by kernel_rfl, by kernel_rfl⟩
theorem bd150 : bodied Try.prog 150 = true := by kernel_rfl

/-- ferrule/parts.validSlot -/
def c151 : CI := (.seq (.reg [⟨none, some 1, .box 0 true (.t 0)⟩, ⟨none, some 2, .mv (.c (.bool false))⟩]) (.seq (.reg [⟨none, some 3, .faddr 0 (.t 1)⟩,
 ⟨none, some 4, .load false 1 (.t 3)⟩, ⟨none, some 5, .call 148 [(.t 4)]⟩, ⟨none, some 6, .mv (.t 5)⟩, ⟨(some (6, true)), (some 7), .faddr 1 (.t 1)⟩, ⟨(some
 (6, true)), (some 8), .load false 1 (.t 7)⟩, ⟨(some (6, true)), (some 9), .len (.t 8)⟩, ⟨(some (6, true)), (some 10), .bin .leq (.t 9) (.c (.int .i64 4))⟩,
 ⟨none, some 11, .pick (.t 6) (.t 10) (.c (.bool false))⟩, ⟨none, some 12, .mv (.t 11)⟩, ⟨(some (12, true)), (some 13), .faddr 1 (.t 1)⟩, ⟨(some (12, true)),
 (some 14), .load false 1 (.t 13)⟩, ⟨(some (12, true)), (some 15), .call 127 [(.t 14), (.c (.fn 148 []))]⟩, ⟨none, some 16, .pick (.t 12) (.t 15) (.c (.bool
 false))⟩, ⟨none, some 17, .mv (.t 16)⟩, ⟨(some (17, true)), (some 18), .faddr 1 (.t 1)⟩, ⟨(some (17, true)), (some 19), .load false 1 (.t 18)⟩, ⟨(some
 (17, true)), (some 20), .call 126 [(.t 19)]⟩, ⟨none, some 21, .pick (.t 17) (.t 20) (.c (.bool false))⟩, ⟨none, some 22, .mv (.t 21)⟩, ⟨(some (22, true)),
 (some 23), .faddr 2 (.t 1)⟩, ⟨(some (22, true)), (some 24), .load true 2 (.t 23)⟩, ⟨(some (22, true)), (some 25), .call 149 [(.t 24)]⟩, ⟨none, some 26,
 .pick (.t 22) (.t 25) (.c (.bool false))⟩, ⟨none, some 2, .mv (.t 26)⟩]) .ret))
theorem ok151 : FnOk Try.prog 151 27 1 c151 [.t 2] := ⟨_, _, Try.func151, rfl, rfl, by kernel_rfl, by kernel_rfl⟩
theorem bd151 : bodied Try.prog 151 = true := by kernel_rfl

/-- slices.IndexFunc[[]ferrule/api.Trial,ferrule/api.Trial] -/
def c152 : CI := (.seq (.reg [⟨none, some 4, .mv (.c (.int .i64 0))⟩]) (.seq (.seq (.reg [⟨none, some 6, .mv (.t 0)⟩, ⟨none, some 7, .len (.t 6)⟩, ⟨none,
 some 8, .mv (.c (.int .i64 0))⟩]) (.block 0 (.loop (.seq (.reg [⟨none, some 9, .bin .lss (.t 8) (.t 7)⟩]) (.seq (.cond (.t 9) .skip (.exit 0)) (.seq (.block
 1 (.seq (.reg [⟨none, some 10, .mv (.t 8)⟩, ⟨none, some 5, .mv (.t 10)⟩]) (.seq (.reg [⟨none, some 11, .mv (.t 1)⟩, ⟨none, some 12, .mv (.t 0)⟩, ⟨none,
 some 13, .mv (.t 5)⟩, ⟨none, some 14, .iaddr 4 (.t 12) (.t 13)⟩, ⟨none, some 15, .load true 4 (.t 14)⟩, ⟨none, some 16, .callx (.t 11) [(.t 15)]⟩]) (.cond
 (.t 16) (.seq (.reg [⟨none, some 17, .mv (.t 5)⟩, ⟨none, some 4, .mv (.t 17)⟩]) .ret) .skip)))) (.reg [⟨none, some 18, .bin .add (.t 8) (.c (.int .i64
 1))⟩, ⟨none, some 8, .mv (.t 18)⟩]))))))) (.seq (.reg [⟨none, some 4, .mv (.c (.int .i64 (-1)))⟩]) .ret)))
theorem ok152 : FnOk Try.prog 152 19 0 c152 [.t 4] := ⟨_, _, Try.func152, rfl, rfl, by kernel_rfl, by kernel_rfl⟩
theorem bd152 : bodied Try.prog 152 = true := by kernel_rfl

/-- slices.Index[[]ferrule/api.Trial,ferrule/api.Trial] -/
def c153 : CI := (.seq (.reg [⟨none, some 3, .box 0 true (.t 1)⟩, ⟨none, some 4, .mv (.c (.int .i64 0))⟩]) (.seq (.seq (.reg [⟨none, some 6, .mv (.t 0)⟩,
 ⟨none, some 7, .len (.t 6)⟩, ⟨none, some 8, .mv (.c (.int .i64 0))⟩]) (.block 0 (.loop (.seq (.reg [⟨none, some 9, .bin .lss (.t 8) (.t 7)⟩]) (.seq (.cond
 (.t 9) .skip (.exit 0)) (.seq (.block 1 (.seq (.reg [⟨none, some 10, .mv (.t 8)⟩, ⟨none, some 5, .mv (.t 10)⟩]) (.seq (.reg [⟨none, some 11, .load true
 4 (.t 3)⟩, ⟨none, some 12, .mv (.t 0)⟩, ⟨none, some 13, .mv (.t 5)⟩, ⟨none, some 14, .iaddr 4 (.t 12) (.t 13)⟩, ⟨none, some 15, .load true 4 (.t 14)⟩,
 ⟨none, some 16, .eqs false (.node [(0, 1, (.leaf true)), (1, 1, (.leaf true)), (2, 1, (.leaf true)), (3, 1, (.leaf true))]) (.t 11) (.t 15)⟩]) (.cond (.t
 16) (.seq (.reg [⟨none, some 17, .mv (.t 5)⟩, ⟨none, some 4, .mv (.t 17)⟩]) .ret) .skip)))) (.reg [⟨none, some 18, .bin .add (.t 8) (.c (.int .i64 1))⟩,
 ⟨none, some 8, .mv (.t 18)⟩]))))))) (.seq (.reg [⟨none, some 4, .mv (.c (.int .i64 (-1)))⟩]) .ret)))
theorem ok153 : FnOk Try.prog 153 19 1 c153 [.t 4] := ⟨_, _, Try.func153, rfl, rfl, by kernel_rfl, by kernel_rfl⟩
theorem bd153 : bodied Try.prog 153 = true := by kernel_rfl

/-- ferrule/parts.appendAny -/
def c154 : CI := (.seq (.reg [⟨none, some 3, .box 0 true (.t 1)⟩, ⟨none, some 4, .mv (.c .nils)⟩]) (.seq (.seq (.reg [⟨none, some 5, .faddr 0 (.t 3)⟩,
 ⟨none, some 6, .load false 1 (.t 5)⟩, ⟨none, some 7, .faddr 1 (.t 3)⟩, ⟨none, some 8, .load false 1 (.t 7)⟩, ⟨none, some 9, .bin .gtr (.t 6) (.t 8)⟩])
 (.cond (.t 9) (.seq (.reg [⟨none, some 10, .mv (.t 0)⟩, ⟨none, some 4, .mv (.t 10)⟩]) .ret) .skip)) (.seq (.reg [⟨none, some 11, .mv (.t 0)⟩, ⟨none, some
 12, .load true 2 (.t 3)⟩, ⟨none, some 13, .bsl 1 35 2 [(.t 12)] []⟩, ⟨none, some 14, .apd 2 35 2 16 (.t 11) (.t 13) []⟩, ⟨none, some 4, .mv (.t 14)⟩])
 .ret)))
theorem ok154 : FnOk Try.prog 154 15 3 c154 [.t 4] := ⟨_, _, Try.func154, rfl, rfl, by kernel_rfl, by kernel_rfl⟩
theorem bd154 : bodied Try.prog 154 = true := by kernel_rfl

/-- (ferrule/parts.shop).mending -/
def c156 : CI := (.seq (.reg [⟨none, some 2, .box 0 true (.t 0)⟩]) (.cond (.c (.bool true)) (.seq (.reg [⟨none, some 4, .mv (.c .nils)⟩]) (.seq (.seq (.reg
 [⟨none, some 12, .faddr 0 (.t 2)⟩, ⟨none, some 13, .faddr 1 (.t 12)⟩, ⟨none, some 14, .load false 1 (.t 13)⟩, ⟨none, some 15, .len (.t 14)⟩, ⟨none, some
 16, .mv (.c (.int .i64 0))⟩]) (.block 0 (.loop (.seq (.reg [⟨none, some 17, .bin .lss (.t 16) (.t 15)⟩]) (.seq (.cond (.t 17) .skip (.exit 0)) (.seq (.block
 1 (.seq (.reg [⟨none, some 18, .mv (.t 16)⟩, ⟨none, some 19, .iaddr 1 (.t 14) (.t 16)⟩, ⟨none, some 20, .load true 1 (.t 19)⟩, ⟨none, some 6, .alloc 1
 [.nils]⟩, ⟨none, some 5, .mv (.t 18)⟩, ⟨none, none, .stz true 1 (.t 6) (.t 20) []⟩]) (.seq (.reg [⟨none, some 21, .faddr 0 (.t 6)⟩, ⟨none, some 22, .load
 false 1 (.t 21)⟩, ⟨none, some 23, .len (.t 22)⟩, ⟨none, some 24, .mv (.c (.int .i64 0))⟩]) (.block 2 (.loop (.seq (.reg [⟨none, some 25, .bin .lss (.t
 24) (.t 23)⟩]) (.seq (.cond (.t 25) .skip (.exit 2)) (.seq (.block 3 (.seq (.reg [⟨none, some 26, .mv (.t 24)⟩, ⟨none, some 7, .mv (.t 26)⟩]) (.reg [⟨none,
 some 27, .mv (.t 4)⟩, ⟨none, some 28, .load true 5 (.t 2)⟩, ⟨none, some 29, .mv (.t 5)⟩, ⟨none, some 30, .mv (.t 7)⟩, ⟨none, some 31, .callw 2 1 161 [(.t
 28), (.t 29), (.t 30)]⟩, ⟨none, some 32, .bsl 3 42 1 [(.t 31)] []⟩, ⟨none, some 33, .apd 4 42 1 24 (.t 27) (.t 32) []⟩, ⟨none, some 4, .mv (.t 33)⟩])))
 (.reg [⟨none, some 34, .bin .add (.t 24) (.c (.int .i64 1))⟩, ⟨none, some 24, .mv (.t 34)⟩]))))))))) (.reg [⟨none, some 35, .bin .add (.t 16) (.c (.int
 .i64 1))⟩, ⟨none, some 16, .mv (.t 35)⟩]))))))) (.seq .skip (.seq (.reg [⟨none, some 36, .faddr 0 (.t 2)⟩, ⟨none, some 37, .faddr 0 (.t 36)⟩, ⟨none, some
 38, .load false 1 (.t 37)⟩, ⟨none, some 39, .len (.t 38)⟩, ⟨none, some 40, .bin .shl (.c (.int .i64 1)) (.t 39)⟩, ⟨none, some 41, .mv (.c (.int .i64 0))⟩])
 (.block 4 (.loop (.seq (.reg [⟨none, some 42, .bin .lss (.t 41) (.t 40)⟩]) (.seq (.cond (.t 42) .skip (.exit 4)) (.seq (.block 5 (.seq (.reg [⟨none, some
 43, .mv (.t 41)⟩, ⟨none, some 8, .alloc 5 [(.int .i64 0)]⟩, ⟨none, none, .store false 1 (.t 8) (.t 43) []⟩]) (.seq (.reg [⟨none, some 44, .faddr 0 (.t
 2)⟩, ⟨none, some 45, .faddr 0 (.t 44)⟩, ⟨none, some 46, .load false 1 (.t 45)⟩, ⟨none, some 47, .len (.t 46)⟩, ⟨none, some 48, .mkfn 167 [(.t 8)]⟩, ⟨none,
 some 49, .callw 6 1 85 [(.t 47), (.t 48)]⟩, ⟨none, some 9, .mv (.t 49)⟩]) (.seq (.seq (.reg [⟨none, some 50, .mv (.t 4)⟩, ⟨none, some 51, .len (.t 50)⟩,
 ⟨none, some 52, .mv (.c (.int .i64 0))⟩]) (.block 6 (.loop (.seq (.reg [⟨none, some 53, .bin .lss (.t 52) (.t 51)⟩]) (.seq (.cond (.t 53) .skip (.exit
 6)) (.seq (.block 7 (.seq (.reg [⟨none, some 54, .iaddr 1 (.t 50) (.t 52)⟩, ⟨none, some 55, .load false 1 (.t 54)⟩, ⟨none, some 11, .alloc 7 [.nils]⟩,
 ⟨none, none, .stz false 1 (.t 11) (.t 55) []⟩]) (.seq (.reg [⟨none, some 56, .mv (.t 9)⟩, ⟨none, some 57, .mkfn 169 [(.t 11)]⟩, ⟨none, some 58, .call 168
 [(.t 56), (.t 57)]⟩, ⟨none, some 59, .un .not (.t 58)⟩]) (.cond (.t 59) (.exit 5) .skip)))) (.reg [⟨none, some 60, .bin .add (.t 52) (.c (.int .i64 1))⟩,
 ⟨none, some 52, .mv (.t 60)⟩]))))))) (.seq (.reg [⟨none, some 61, .mv (.t 1)⟩, ⟨none, some 62, .mv (.t 9)⟩, ⟨none, some 63, .callx (.t 61) [(.t 62)]⟩,
 ⟨none, some 64, .un .not (.t 63)⟩]) (.cond (.t 64) .ret .skip)))))) (.reg [⟨none, some 65, .bin .add (.t 41) (.c (.int .i64 1))⟩, ⟨none, some 41, .mv (.t
 65)⟩])))))))))) .skip))
theorem ok156 : FnOk Try.prog 156 66 8 c156 [] := ⟨_, _, Try.func156, rfl, rfl, by kernel_rfl, by kernel_rfl⟩
theorem bd156 : bodied Try.prog 156 = true := by kernel_rfl

/-- ferrule/parts.isStock$1 -/
def c157 : CI := (.seq (.reg [⟨none, some 2, .mv (.c (.bool false))⟩]) (.seq (.reg [⟨none, some 3, .mv (.t 0)⟩, ⟨none, some 4, .call 114 [(.t 3), (.c (.int
 .i64 0)), (.c (.int .i64 10))]⟩, ⟨none, some 2, .mv (.t 4)⟩]) .ret))
theorem ok157 : FnOk Try.prog 157 5 0 c157 [.t 2] := ⟨_, _, Try.func157, rfl, rfl, by kernel_rfl, by kernel_rfl⟩
theorem bd157 : bodied Try.prog 157 = true := by kernel_rfl

/-- ferrule/parts.each[ferrule/api.Job] -/
def c158 : CI := (.seq (.reg [⟨none, some 4, .mv (.c (.bool false))⟩]) (.seq (.seq (.reg [⟨none, some 7, .mv (.t 0)⟩, ⟨none, some 8, .len (.t 7)⟩, ⟨none,
 some 9, .mv (.c (.int .i64 0))⟩]) (.block 0 (.loop (.seq (.reg [⟨none, some 10, .bin .lss (.t 9) (.t 8)⟩]) (.seq (.cond (.t 10) .skip (.exit 0)) (.seq
 (.block 1 (.seq (.reg [⟨none, some 11, .iaddr 2 (.t 7) (.t 9)⟩, ⟨none, some 12, .load true 2 (.t 11)⟩, ⟨none, some 6, .alloc 0 [(.int .i64 0), (.int .i64
 0)]⟩, ⟨none, none, .store true 2 (.t 6) (.t 12) []⟩]) (.seq (.reg [⟨none, some 13, .mv (.t 1)⟩, ⟨none, some 14, .load true 2 (.t 6)⟩, ⟨none, some 15, .callx
 (.t 13) [(.t 14)]⟩, ⟨none, some 16, .un .not (.t 15)⟩]) (.cond (.t 16) (.seq (.reg [⟨none, some 4, .mv (.c (.bool false))⟩]) .ret) .skip)))) (.reg [⟨none,
 some 17, .bin .add (.t 9) (.c (.int .i64 1))⟩, ⟨none, some 9, .mv (.t 17)⟩]))))))) (.seq (.reg [⟨none, some 4, .mv (.c (.bool true))⟩]) .ret)))
theorem ok158 : FnOk Try.prog 158 18 1 c158 [.t 4] := ⟨_, _, Try.func158, rfl, rfl, by kernel_rfl, by kernel_rfl⟩
theorem bd158 : bodied Try.prog 158 = true := by kernel_rfl

/-- ferrule/parts.areJobs$1 -/
def c159 : CI := (.seq (.reg [⟨none, some 2, .box 0 true (.t 0)⟩, ⟨none, some 3, .mv (.c (.bool false))⟩]) (.seq (.reg [⟨none, some 4, .load true 4 (.t
 1)⟩, ⟨none, some 5, .faddr 0 (.t 2)⟩, ⟨none, some 6, .load false 1 (.t 5)⟩, ⟨none, some 7, .faddr 1 (.t 2)⟩, ⟨none, some 8, .load false 1 (.t 7)⟩, ⟨none,
 some 9, .call 73 [(.t 4), (.t 6), (.t 8)]⟩, ⟨none, some 3, .mv (.t 9)⟩]) .ret))
theorem ok159 : FnOk Try.prog 159 10 1 c159 [.t 3] := ⟨_, _, Try.func159, rfl, rfl, by kernel_rfl, by kernel_rfl⟩
theorem bd159 : bodied Try.prog 159 = true := by kernel_rfl

/-- slices.Clone[[]int,int] -/
def c160 : CI := (.seq (.reg [⟨none, some 2, .mv (.c .nils)⟩]) (.seq (.seq (.reg [⟨none, some 3, .mv (.t 0)⟩, ⟨none, some 4, .eqn false (.t 3)⟩]) (.cond
 (.t 4) (.seq (.reg [⟨none, some 2, .mv (.c .nils)⟩]) .ret) .skip)) (.seq (.reg [⟨none, some 5, .bsl 0 3 1 [] []⟩, ⟨none, some 6, .mv (.t 0)⟩, ⟨none, some
 7, .apd 1 3 1 8 (.t 5) (.t 6) []⟩, ⟨none, some 2, .mv (.t 7)⟩]) .ret)))
theorem ok160 : FnOk Try.prog 160 8 2 c160 [.t 2] := ⟨_, _, Try.func160, rfl, rfl, by kernel_rfl, by kernel_rfl⟩
theorem bd160 : bodied Try.prog 160 = true := by kernel_rfl

/-- (ferrule/parts.shop).fitting -/
def c161 : CI := (.seq (.reg [⟨none, some 3, .box 0 true (.t 0)⟩, ⟨none, some 4, .box 1 false (.t 1)⟩, ⟨none, some 5, .box 2 false (.t 2)⟩, ⟨none, some
 6, .mv (.c .nils)⟩]) (.seq (.reg [⟨none, some 7, .faddr 0 (.t 3)⟩, ⟨none, some 8, .faddr 0 (.t 7)⟩, ⟨none, some 9, .load false 1 (.t 8)⟩, ⟨none, some 10,
 .len (.t 9)⟩, ⟨none, some 11, .mkfn 170 [(.t 3), (.t 4), (.t 5)]⟩, ⟨none, some 12, .callw 3 1 85 [(.t 10), (.t 11)]⟩, ⟨none, some 6, .mv (.t 12)⟩]) .ret))
theorem ok161 : FnOk Try.prog 161 13 4 c161 [.t 6] := ⟨_, _, Try.func161, rfl, rfl, by kernel_rfl, by kernel_rfl⟩
theorem bd161 : bodied Try.prog 161 = true := by kernel_rfl

/-- (ferrule/parts.shop).mending$1 -/
def c167 : CI := (.seq (.reg [⟨none, some 3, .mv (.c (.bool false))⟩]) (.seq (.reg [⟨none, some 4, .load false 1 (.t 1)⟩, ⟨none, some 5, .mv (.t 0)⟩, ⟨none,
 some 6, .bin .shr (.t 4) (.t 5)⟩, ⟨none, some 7, .bin .and (.t 6) (.c (.int .i64 1))⟩, ⟨none, some 8, .bin .eql (.t 7) (.c (.int .i64 1))⟩, ⟨none, some
 3, .mv (.t 8)⟩]) .ret))
theorem ok167 : FnOk Try.prog 167 9 0 c167 [.t 3] := ⟨_, _, Try.func167, rfl, rfl, by kernel_rfl, by kernel_rfl⟩
theorem bd167 : bodied Try.prog 167 = true := by kernel_rfl

/-- slices.ContainsFunc[[]int,int] -/
def c168 : CI := (.seq (.reg [⟨none, some 4, .mv (.c (.bool false))⟩]) (.seq (.reg [⟨none, some 5, .mv (.t 0)⟩, ⟨none, some 6, .mv (.t 1)⟩, ⟨none, some
 7, .call 171 [(.t 5), (.t 6)]⟩, ⟨none, some 8, .bin .geq (.t 7) (.c (.int .i64 0))⟩, ⟨none, some 4, .mv (.t 8)⟩]) .ret))
theorem ok168 : FnOk Try.prog 168 9 0 c168 [.t 4] := ⟨_, _, Try.func168, rfl, rfl, by kernel_rfl, by kernel_rfl⟩
theorem bd168 : bodied Try.prog 168 = true := by kernel_rfl

/-- (ferrule/parts.shop).mending$2 -/
def c169 : CI := (.seq (.reg [⟨none, some 3, .mv (.c (.bool false))⟩]) (.seq (.reg [⟨none, some 4, .load false 1 (.t 1)⟩, ⟨none, some 5, .mv (.t 0)⟩, ⟨none,
 some 6, .call 89 [(.t 4), (.t 5)]⟩, ⟨none, some 3, .mv (.t 6)⟩]) .ret))
theorem ok169 : FnOk Try.prog 169 7 0 c169 [.t 3] := ⟨_, _, Try.func169, rfl, rfl, by kernel_rfl, by kernel_rfl⟩
theorem bd169 : bodied Try.prog 169 = true := by kernel_rfl

/-- (ferrule/parts.shop).fitting$1 -/
def c170 : CI := (.seq (.reg [⟨none, some 5, .mv (.c (.bool false))⟩]) (.seq (.reg [⟨none, some 6, .load true 5 (.t 1)⟩, ⟨none, some 7, .mv (.t 0)⟩, ⟨none,
 some 8, .load false 1 (.t 2)⟩, ⟨none, some 9, .load false 1 (.t 3)⟩, ⟨none, some 10, .call 74 [(.t 6), (.t 7), (.t 8), (.t 9)]⟩, ⟨none, some 11, .bin .eql
 (.t 10) (.c (.int .i64 1))⟩, ⟨none, some 5, .mv (.t 11)⟩]) .ret))
theorem ok170 : FnOk Try.prog 170 12 0 c170 [.t 5] := ⟨_, _, Try.func170, rfl, rfl, by kernel_rfl, by kernel_rfl⟩
theorem bd170 : bodied Try.prog 170 = true := by kernel_rfl

/-- slices.IndexFunc[[]int,int] -/
def c171 : CI := (.seq (.reg [⟨none, some 4, .mv (.c (.int .i64 0))⟩]) (.seq (.seq (.reg [⟨none, some 6, .mv (.t 0)⟩, ⟨none, some 7, .len (.t 6)⟩, ⟨none,
 some 8, .mv (.c (.int .i64 0))⟩]) (.block 0 (.loop (.seq (.reg [⟨none, some 9, .bin .lss (.t 8) (.t 7)⟩]) (.seq (.cond (.t 9) .skip (.exit 0)) (.seq (.block
 1 (.seq (.reg [⟨none, some 10, .mv (.t 8)⟩, ⟨none, some 5, .mv (.t 10)⟩]) (.seq (.reg [⟨none, some 11, .mv (.t 1)⟩, ⟨none, some 12, .mv (.t 0)⟩, ⟨none,
 some 13, .mv (.t 5)⟩, ⟨none, some 14, .iaddr 1 (.t 12) (.t 13)⟩, ⟨none, some 15, .load false 1 (.t 14)⟩, ⟨none, some 16, .callx (.t 11) [(.t 15)]⟩]) (.cond
 (.t 16) (.seq (.reg [⟨none, some 17, .mv (.t 5)⟩, ⟨none, some 4, .mv (.t 17)⟩]) .ret) .skip)))) (.reg [⟨none, some 18, .bin .add (.t 8) (.c (.int .i64
 1))⟩, ⟨none, some 8, .mv (.t 18)⟩]))))))) (.seq (.reg [⟨none, some 4, .mv (.c (.int .i64 (-1)))⟩]) .ret)))
theorem ok171 : FnOk Try.prog 171 19 0 c171 [.t 4] := ⟨_, _, Try.func171, rfl, rfl, by kernel_rfl, by kernel_rfl⟩
theorem bd171 : bodied Try.prog 171 = true := by kernel_rfl

end Go.Proofs
