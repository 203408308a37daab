/- What each function of this program answers, proved by walking its body: further contracts that the law rests on. -/
import Derived.Test.YtkpdkhidlhaaiaaGreatFns3
set_option linter.unusedSimpArgs false
set_option linter.unusedVariables false
set_option linter.unusedSectionVars false
namespace Go.Proofs
open Go.Eng
attribute [local irreducible] Go.Eng.brB Go.Eng.need Go.Eng.wrE Go.Eng.iaE Go.Eng.slE Go.Eng.apE Go.Eng.CallZ Go.Eng.CallE Go.Eng.VCallE Go.Eng.YldE Go.Eng.GoC Go.Eng.MeetsE Go.Eng.FnA Go.Eng.FnV Go.Eng.ItA
set_option maxRecDepth 100000
def c4 : CI := (.seq (.reg [⟨none, (some 3), .box 0 true (.t 0)⟩,
      ⟨none, (some 6), .mv (.c (.bool false))⟩])
    (.seq (.seq (.reg [⟨none, (some 27), .load true 9 (.t 3)⟩,
      ⟨none, (some 28), .call 5 [(.t 27)]⟩,
      ⟨none, (some 29), .mv (.t 28)⟩,
      ⟨(some (29, false)), (some 30), .mv (.t 1)⟩,
      ⟨(some (29, false)), (some 31), .len (.t 30)⟩,
      ⟨(some (29, false)), (some 32), .bin .gtr (.t 31) (.c (.int .i64 40))⟩,
      ⟨none, (some 33), .pick (.t 29) (.c (.bool true)) (.t 32)⟩])
    (.cond (.t 33) (.seq (.reg [⟨none, (some 34), .call 6 []⟩,
      ⟨none, (some 6), .mv (.t 34)⟩])
    .ret)
    .skip))
    (.seq (.reg [⟨none, (some 35), .load true 9 (.t 3)⟩,
      ⟨none, (some 36), .callw 1 3 7 [(.t 35)]⟩,
      ⟨none, (some 7), .alloc 4 [.nils, (.int .i64 0), (.int .i64 0), (.int .i64 0), (.int .i64 0), (.int .i64 0), (.int .i64 0), .nils, .nils]⟩,
      ⟨none, none, .stz true 9 (.t 7) (.t 36) []⟩])
    (.seq (.reg [⟨none, (some 37), .bsl 5 32 2 [] []⟩,
      ⟨none, (some 38), .mv (.t 1)⟩,
      ⟨none, (some 39), .apd 6 32 2 16 (.t 37) (.t 38) []⟩,
      ⟨none, (some 8), .mv (.t 39)⟩])
    (.seq (.reg [⟨none, (some 41), .load true 9 (.t 7)⟩,
      ⟨none, (some 42), .mv (.t 8)⟩,
      ⟨none, (some 43), .call 18 [(.t 41), (.t 42)]⟩,
      ⟨none, (some 40), .mv (.t 43)⟩,
      ⟨none, (some 44), .extract 0 (.t 40)⟩,
      ⟨none, (some 45), .extract 1 (.t 40)⟩,
      ⟨none, (some 9), .mv (.t 44)⟩,
      ⟨none, (some 10), .mv (.t 45)⟩])
    (.seq (.reg [⟨none, (some 47), .load true 9 (.t 3)⟩,
      ⟨none, (some 48), .mv (.t 1)⟩,
      ⟨none, (some 49), .call 19 [(.t 47), (.t 48)]⟩,
      ⟨none, (some 46), .mv (.t 49)⟩,
      ⟨none, (some 50), .extract 0 (.t 46)⟩,
      ⟨none, (some 51), .extract 1 (.t 46)⟩,
      ⟨none, (some 11), .mv (.t 50)⟩,
      ⟨none, (some 12), .mv (.t 51)⟩])
    (.seq (.reg [⟨none, (some 53), .load true 9 (.t 7)⟩,
      ⟨none, (some 54), .mv (.t 8)⟩,
      ⟨none, (some 55), .callw 7 1 20 [(.t 53), (.t 54)]⟩,
      ⟨none, (some 52), .mv (.t 55)⟩,
      ⟨none, (some 56), .extract 0 (.t 52)⟩,
      ⟨none, (some 57), .extract 1 (.t 52)⟩,
      ⟨none, (some 58), .extract 2 (.t 52)⟩,
      ⟨none, (some 13), .mv (.t 56)⟩,
      ⟨none, (some 14), .mv (.t 57)⟩,
      ⟨none, (some 15), .mv (.t 58)⟩])
    (.seq (.reg [⟨none, (some 60), .load true 9 (.t 3)⟩,
      ⟨none, (some 61), .mv (.t 1)⟩,
      ⟨none, (some 62), .callw 8 1 21 [(.t 60), (.t 61)]⟩,
      ⟨none, (some 59), .mv (.t 62)⟩,
      ⟨none, (some 63), .extract 0 (.t 59)⟩,
      ⟨none, (some 64), .extract 1 (.t 59)⟩,
      ⟨none, (some 65), .extract 2 (.t 59)⟩,
      ⟨none, (some 16), .mv (.t 63)⟩,
      ⟨none, (some 17), .mv (.t 64)⟩,
      ⟨none, (some 18), .mv (.t 65)⟩])
    (.seq (.reg [⟨none, (some 67), .load true 9 (.t 7)⟩,
      ⟨none, (some 68), .mv (.t 2)⟩,
      ⟨none, (some 69), .call 22 [(.t 67), (.t 68)]⟩,
      ⟨none, (some 66), .mv (.t 69)⟩,
      ⟨none, (some 70), .extract 0 (.t 66)⟩,
      ⟨none, (some 71), .extract 1 (.t 66)⟩,
      ⟨none, (some 19), .mv (.t 70)⟩,
      ⟨none, (some 20), .mv (.t 71)⟩])
    (.seq (.reg [⟨none, (some 73), .load true 9 (.t 3)⟩,
      ⟨none, (some 74), .mv (.t 2)⟩,
      ⟨none, (some 75), .call 23 [(.t 73), (.t 74)]⟩,
      ⟨none, (some 72), .mv (.t 75)⟩,
      ⟨none, (some 76), .extract 0 (.t 72)⟩,
      ⟨none, (some 77), .extract 1 (.t 72)⟩,
      ⟨none, (some 21), .mv (.t 76)⟩,
      ⟨none, (some 22), .mv (.t 77)⟩])
    (.seq (.reg [⟨none, (some 79), .load true 9 (.t 7)⟩,
      ⟨none, (some 80), .mv (.t 8)⟩,
      ⟨none, (some 81), .callw 9 1 24 [(.t 79), (.t 80)]⟩,
      ⟨none, (some 78), .mv (.t 81)⟩,
      ⟨none, (some 82), .extract 0 (.t 78)⟩,
      ⟨none, (some 83), .extract 1 (.t 78)⟩,
      ⟨none, (some 23), .mv (.t 82)⟩,
      ⟨none, (some 24), .mv (.t 83)⟩])
    (.seq (.reg [⟨none, (some 85), .load true 9 (.t 3)⟩,
      ⟨none, (some 86), .mv (.t 1)⟩,
      ⟨none, (some 87), .callw 10 1 25 [(.t 85), (.t 86)]⟩,
      ⟨none, (some 84), .mv (.t 87)⟩,
      ⟨none, (some 88), .extract 0 (.t 84)⟩,
      ⟨none, (some 89), .extract 1 (.t 84)⟩,
      ⟨none, (some 25), .mv (.t 88)⟩,
      ⟨none, (some 26), .mv (.t 89)⟩])
    (.seq (.reg [⟨none, (some 90), .mv (.t 9)⟩,
      ⟨none, (some 91), .mv (.t 11)⟩,
      ⟨none, (some 92), .bin .eql (.t 90) (.t 91)⟩,
      ⟨none, (some 93), .mv (.t 92)⟩,
      ⟨(some (93, true)), (some 94), .mv (.t 10)⟩,
      ⟨(some (93, true)), (some 95), .mv (.t 12)⟩,
      ⟨(some (93, true)), (some 96), .bin .eql (.t 94) (.t 95)⟩,
      ⟨none, (some 97), .pick (.t 93) (.t 96) (.c (.bool false))⟩,
      ⟨none, (some 98), .mv (.t 97)⟩,
      ⟨(some (98, true)), (some 99), .mv (.t 13)⟩,
      ⟨(some (98, true)), (some 100), .mv (.t 16)⟩,
      ⟨(some (98, true)), (some 101), .bin .eql (.t 99) (.t 100)⟩,
      ⟨none, (some 102), .pick (.t 98) (.t 101) (.c (.bool false))⟩,
      ⟨none, (some 103), .mv (.t 102)⟩,
      ⟨(some (103, true)), (some 104), .mv (.t 14)⟩,
      ⟨(some (103, true)), (some 105), .mv (.t 17)⟩,
      ⟨(some (103, true)), (some 106), .call 17 [(.t 104), (.t 105)]⟩,
      ⟨none, (some 107), .pick (.t 103) (.t 106) (.c (.bool false))⟩,
      ⟨none, (some 108), .mv (.t 107)⟩,
      ⟨(some (108, true)), (some 109), .mv (.t 15)⟩,
      ⟨(some (108, true)), (some 110), .mv (.t 18)⟩,
      ⟨(some (108, true)), (some 111), .bin .eql (.t 109) (.t 110)⟩,
      ⟨none, (some 112), .pick (.t 108) (.t 111) (.c (.bool false))⟩,
      ⟨none, (some 113), .mv (.t 112)⟩,
      ⟨(some (113, true)), (some 114), .mv (.t 19)⟩,
      ⟨(some (113, true)), (some 115), .mv (.t 21)⟩,
      ⟨(some (113, true)), (some 116), .bin .eql (.t 114) (.t 115)⟩,
      ⟨none, (some 117), .pick (.t 113) (.t 116) (.c (.bool false))⟩,
      ⟨none, (some 118), .mv (.t 117)⟩,
      ⟨(some (118, true)), (some 119), .mv (.t 20)⟩,
      ⟨(some (118, true)), (some 120), .mv (.t 22)⟩,
      ⟨(some (118, true)), (some 121), .bin .eql (.t 119) (.t 120)⟩,
      ⟨none, (some 122), .pick (.t 118) (.t 121) (.c (.bool false))⟩,
      ⟨none, (some 123), .mv (.t 122)⟩,
      ⟨(some (123, true)), (some 124), .mv (.t 23)⟩,
      ⟨(some (123, true)), (some 125), .mv (.t 25)⟩,
      ⟨(some (123, true)), (some 126), .call 17 [(.t 124), (.t 125)]⟩,
      ⟨none, (some 127), .pick (.t 123) (.t 126) (.c (.bool false))⟩,
      ⟨none, (some 128), .mv (.t 127)⟩,
      ⟨(some (128, true)), (some 129), .mv (.t 24)⟩,
      ⟨(some (128, true)), (some 130), .mv (.t 26)⟩,
      ⟨(some (128, true)), (some 131), .bin .eql (.t 129) (.t 130)⟩,
      ⟨none, (some 132), .pick (.t 128) (.t 131) (.c (.bool false))⟩,
      ⟨none, (some 133), .mv (.t 132)⟩,
      ⟨(some (133, true)), (some 134), .call 6 []⟩,
      ⟨none, (some 135), .pick (.t 133) (.t 134) (.c (.bool false))⟩,
      ⟨none, (some 6), .mv (.t 135)⟩])
    .ret)))))))))))))
theorem ok4 : FnOk Tryz.prog 4 136 11 c4 [.t 6] := ⟨_, _, Tryz.func4, rfl, rfl, by kernel_rfl, by kernel_rfl⟩

theorem bd4 : bodied Tryz.prog 4 = true := by kernel_rfl

theorem g23z (d : Dm) (a : Int) (hf : d.f.ss.length ≤ 1000) (hn : d.rs.length ≤ 1000) (hs : d.sh.length ≤ 1000) (h : d.errC [⟨0, a⟩] = 0) : FnA Tryz.prog 23 [.agg d.cells, .int .i64 a] (fun r => ∃ F : Nat, isMost d.worst a F ∧ r = .tup [.int .i64 F, .int .i64 0]) := by
  obtain ⟨h1, h2⟩ := errC_ok h
  have hg := (okCl_g h2).2 ⟨0, a⟩ (by simp)
  have c := g35z d [⟨0, a⟩] hf hn hs (by simp)
  rw [h] at c
  have c38 := g38z d h1
  refine fnA 7 ok23 (by simp) ?_
  (conv => whnf); (repeat' (first | (refine bT ?_; conv => whnf) | (refine bF ?_; conv => whnf) | (refine bN ?_) | (refine bD (fun hh => ?_) (fun hh => ?_) <;> first | (exfalso; omega) | (conv => whnf)) | (refine bEq (fun hh => ?_) (fun hh => ?_) <;> first | (exfalso; omega) | (conv => whnf)) | (refine bNe (fun hh => ?_) (fun hh => ?_) <;> first | (exfalso; omega) | (conv => whnf)) | (refine (c).lendq rfl (fun r (hr : r = _) => ?_); subst hr; refine ⟨rfl, ?_⟩; conv => whnf) | (refine (c38).callzq rfl rfl (fun r (hr : r = _) => ?_); subst hr; conv => whnf) | (refine wIn (by omega) ?_; conv => whnf) | (refine nI (by omega) ?_; conv => whnf)))
  refine loop_i (α := Nat × Nat) (fun x => [(10, .int .i64 x.1), (9, .int .i64 x.2), (8, .own 5 0), (2, .own 0 0), (1, .int .i64 a)]) (fun x => [.box false d.cells, .fresh, .fresh, .fresh, .fresh, .box false d.worst.tc, .fresh]) (fun x => x.1 ≤ 100 ∧ (x.1 = 0 ∧ x.2 = 0 ∨ x.2 < x.1 ∧ d.worst.stands [⟨x.2, a⟩] = true ∧ ∀ F' : Nat, x.2 < F' → F' < x.1 → d.worst.stands [⟨F', a⟩] = false)) (fun x => 100 - x.1) (0, 0) (meets_id (by (repeat' apply And.intro) <;> first | rfl | exact True.intro | (intro hh; cases hh))) ⟨by simp, .inl ⟨rfl, rfl⟩⟩ ?_
  rintro ⟨k, n⟩ ⟨hk, hp⟩
  simp only at hk hp ⊢
  conv => whnf
  refine bD (fun h3 => ?_) (fun h3 => ?_)
  · have hgk : Gu.ok ⟨(k : Int), a⟩ d.rs.length := ⟨⟨by simp, by simp; omega⟩, hg.2⟩
    have c42 := g22 d d.worst [⟨k, a⟩] (of_worst h1) (by simp) (by intro g hg'; simp at hg'; subst hg'; exact hgk)
    cases hb : d.worst.stands [⟨k, a⟩] <;> rw [hb] at c42
    · have hk0 : k ≠ 0 := fun e => by
        subst e
        rw [show ((0 : Nat) : Int) = 0 from rfl, stands_zero (worst_ok h1)] at hb; cases hb
      (conv => whnf); (repeat' (first | (refine bT ?_; conv => whnf) | (refine bF ?_; conv => whnf) | (refine bN ?_) | (refine bD (fun hh => ?_) (fun hh => ?_) <;> first | (exfalso; omega) | (conv => whnf)) | (refine bEq (fun hh => ?_) (fun hh => ?_) <;> first | (exfalso; omega) | (conv => whnf)) | (refine bNe (fun hh => ?_) (fun hh => ?_) <;> first | (exfalso; omega) | (conv => whnf)) | (refine (c42).lendq rfl (fun r (hr : r = _) => ?_); subst hr; refine ⟨rfl, ?_⟩; conv => whnf) | (refine wIn (by omega) ?_; conv => whnf) | (refine nI (by omega) ?_; conv => whnf)))
      refine ⟨(k + 1, n), (meets_id (by (repeat' apply And.intro) <;> first | rfl | exact True.intro | (intro hh; cases hh))), ⟨by simp only; omega, ?_⟩, by simp only; omega⟩
      rcases hp with hp | ⟨p1, p2, p3⟩
      · exact absurd hp.1 hk0
      · refine .inr ⟨by simp only; omega, p2, fun F' f1 f2 => ?_⟩
        simp only at f1 f2
        by_cases e : F' = k
        · subst e; exact hb
        · exact p3 F' f1 (by omega)
    · (conv => whnf); (repeat' (first | (refine bT ?_; conv => whnf) | (refine bF ?_; conv => whnf) | (refine bN ?_) | (refine bD (fun hh => ?_) (fun hh => ?_) <;> first | (exfalso; omega) | (conv => whnf)) | (refine bEq (fun hh => ?_) (fun hh => ?_) <;> first | (exfalso; omega) | (conv => whnf)) | (refine bNe (fun hh => ?_) (fun hh => ?_) <;> first | (exfalso; omega) | (conv => whnf)) | (refine (c42).lendq rfl (fun r (hr : r = _) => ?_); subst hr; refine ⟨rfl, ?_⟩; conv => whnf) | (refine wIn (by omega) ?_; conv => whnf) | (refine nI (by omega) ?_; conv => whnf)))
      refine ⟨(k + 1, k), (meets_id (by (repeat' apply And.intro) <;> first | rfl | exact True.intro | (intro hh; cases hh))), ⟨by simp only; omega, .inr ⟨by simp only; omega, hb, fun F' f1 f2 => ?_⟩⟩, by simp only; omega⟩
      simp only at f1 f2; omega
  · have hk1 : k = 100 := by omega
    subst hk1
    rcases hp with hp | ⟨p1, p2, p3⟩
    · exact absurd hp.1 (by omega)
    · (conv => whnf); (repeat' (first | (refine bT ?_; conv => whnf) | (refine bF ?_; conv => whnf) | (refine bN ?_) | (refine bD (fun hh => ?_) (fun hh => ?_) <;> first | (exfalso; omega) | (conv => whnf)) | (refine bEq (fun hh => ?_) (fun hh => ?_) <;> first | (exfalso; omega) | (conv => whnf)) | (refine bNe (fun hh => ?_) (fun hh => ?_) <;> first | (exfalso; omega) | (conv => whnf)) | (refine wIn (by omega) ?_; conv => whnf) | (refine nI (by omega) ?_; conv => whnf)))
      all_goals exact ⟨n, ⟨by omega, p2, fun F' f1 f2 => p3 F' f1 (by omega)⟩, rfl⟩

theorem any_take {α : Type} (l : List α) (p : α → Bool) {k : Nat} (h : k < l.length) : (l.take (k + 1)).any p = ((l.take k).any p || p l[k]) := by
  rw [List.take_succ_eq_append_getElem h, List.any_append]; simp
theorem g25z (d : Dm) (l : List Gu) (hf : d.f.ss.length ≤ 1000) (hn : d.rs.length ≤ 1000) (hs : d.sh.length ≤ 1000) (hl : l.length ≤ 1000) (h : d.errC l = 0) : FnA Tryz.prog 25 [.agg d.cells, .isl (l.map Gu.av)] (· = .tup [.isl ((d.wk l).map n1), .int .i64 0]) := by
  obtain ⟨h1, h2⟩ := errC_ok h
  have hg := okCl_g h2
  have c := g35z d l hf hn hs hl
  rw [h] at c
  have hb' := okB_iff.1 h1
  have c32 := g32z d hb'.1
  have hL : (d.rs.map s2).length = d.rs.length := by simp
  have hLl : (l.map Gu.av).length = l.length := by simp
  refine fnA 5 ok25 (by simp) ?_
  (conv => whnf); (repeat' (first | (refine bT ?_; conv => whnf) | (refine bF ?_; conv => whnf) | (refine bN ?_) | (refine bD (fun hh => ?_) (fun hh => ?_) <;> first | (exfalso; omega) | (conv => whnf)) | (refine bEq (fun hh => ?_) (fun hh => ?_) <;> first | (exfalso; omega) | (conv => whnf)) | (refine bNe (fun hh => ?_) (fun hh => ?_) <;> first | (exfalso; omega) | (conv => whnf)) | (refine (c).callq rfl rfl (fun r (hr : r = _) => ?_); subst hr; conv => whnf) | (refine (c32).callq rfl rfl (fun r (hr : r = _) => ?_); subst hr; conv => whnf) | (refine wIn (by omega) ?_; conv => whnf) | (refine nI (by omega) ?_; conv => whnf)))
  refine loop_i (α := Nat) (fun i => [(9, .int .i64 i), (8, .row 4), (7, .own 1 0), (2, .own 0 0), (1, .isl (l.map Gu.av))]) (fun i => [.box false d.cells, .box false [.int .i64 d.f.l0, .int .i64 d.f.l1], .fresh, .fresh, .row false 3 1 ((lst i fun i => l.any fun g => d.worst.tw g i).map n1)]) (fun i => i ≤ d.rs.length) (fun i => d.rs.length - i) 0 (meets_nil 4 (by (repeat' apply And.intro) <;> first | rfl | exact True.intro | (intro hh; cases hh))) (by omega) ?_
  intro i hi
  conv => whnf
  refine bD (fun h3 => ?_) (fun h3 => ?_)
  · have hlt : i < d.rs.length := by omega
    have hsucc := lst_succ i fun i => l.any fun g => d.worst.tw g i
    have hlen := lst_le i fun i => l.any fun g => d.worst.tw g i
    conv => whnf
    refine loop_i (α := Nat) (fun k => [(11, .int .i64 k), (10, .bool ((l.take k).any fun g => d.worst.tw g i)), (9, .int .i64 i), (8, .row 4), (7, .own 1 0), (2, .own 0 0), (1, .isl (l.map Gu.av))]) (fun k => [.box false d.cells, .box false [.int .i64 d.f.l0, .int .i64 d.f.l1], .fresh, .fresh, .row false 3 1 ((lst i fun i => l.any fun g => d.worst.tw g i).map n1)]) (fun k => k ≤ l.length) (fun k => l.length - k) 0 (meets_id (by (repeat' apply And.intro) <;> first | rfl | exact True.intro | (intro hh; cases hh))) (by omega) ?_
    intro k hk
    conv => whnf
    refine bD (fun h4 => ?_) (fun h4 => ?_)
    · have hltk : k < l.length := by omega
      have ha := any_take l (fun g => d.worst.tw g i) hltk
      have c1 := g20 d d.worst l[k] i (of_worst h1) (hg.2 _ (List.getElem_mem hltk)) hlt
      change FnA Tryz.prog 36 [.agg d.cells, .agg l[k].av, .int .i64 d.f.l1, .int .i64 i] (· = .int .i64 (d.worst.ld l[k] i)) at c1
      have er : (d.rs.map s2).getD (i : Int).toNat [] = s2 (d.rs.getD i (0, 0)) := by
        rw [Int.toNat_natCast, getD_mapD s2 d.rs i (0, 0) hlt]
      have htw : d.worst.tw l[k] i = decide ((d.rs.getD i (0, 0)).1 < d.worst.ld l[k] i) := by
        unfold Tr.tw; congr 1
        simp [Dm.worst, List.getD_eq_getElem?_getD, hlt]
      cases hw : (l.take k).any fun g => d.worst.tw g i with
      | true =>
        rw [hw, Bool.true_or] at ha
        (conv => whnf); (repeat' (first | (refine bT ?_; conv => whnf) | (refine bF ?_; conv => whnf) | (refine bN ?_) | (refine bD (fun hh => ?_) (fun hh => ?_) <;> first | (exfalso; omega) | (conv => whnf)) | (refine bEq (fun hh => ?_) (fun hh => ?_) <;> first | (exfalso; omega) | (conv => whnf)) | (refine bNe (fun hh => ?_) (fun hh => ?_) <;> first | (exfalso; omega) | (conv => whnf)) | (refine wIn (by omega) ?_; conv => whnf) | (refine nI (by omega) ?_; conv => whnf)))
        refine ⟨k + 1, ?_, by omega, by omega⟩
        rw [ha]
        simp only [Int.natCast_add, Int.natCast_one]
        exact (meets_id (by (repeat' apply And.intro) <;> first | rfl | exact True.intro | (intro hh; cases hh)))
      | false =>
        rw [hw, Bool.false_or, htw] at ha
        (conv => whnf); (repeat' (first | (refine bT ?_; conv => whnf) | (refine bF ?_; conv => whnf) | (refine bN ?_) | (refine bD (fun hh => ?_) (fun hh => ?_) <;> first | (exfalso; omega) | (conv => whnf)) | (refine bEq (fun hh => ?_) (fun hh => ?_) <;> first | (exfalso; omega) | (conv => whnf)) | (refine bNe (fun hh => ?_) (fun hh => ?_) <;> first | (exfalso; omega) | (conv => whnf)) | (refine iaI (by omega) (by omega) (getD_map Gu.av l k hltk) ?_; conv => whnf) | (refine iaI (by omega) (by omega) er ?_; conv => whnf) | (refine (c1).callq rfl rfl (fun r (hr : r = _) => ?_); subst hr; conv => whnf) | (refine wIn (by omega) ?_; conv => whnf) | (refine nI (by omega) ?_; conv => whnf)))
        refine ⟨k + 1, ?_, by omega, by omega⟩
        rw [ha]
        simp only [Int.natCast_add, Int.natCast_one]
        exact (meets_id (by (repeat' apply And.intro) <;> first | rfl | exact True.intro | (intro hh; cases hh)))
    · have : k = l.length := by omega
      subst this
      rw [List.take_length]
      cases hw : l.any fun g => d.worst.tw g i with
      | true =>
        rw [if_pos hw] at hsucc
        (conv => whnf); (repeat' (first | (refine bT ?_; conv => whnf) | (refine bF ?_; conv => whnf) | (refine bN ?_) | (refine bD (fun hh => ?_) (fun hh => ?_) <;> first | (exfalso; omega) | (conv => whnf)) | (refine bEq (fun hh => ?_) (fun hh => ?_) <;> first | (exfalso; omega) | (conv => whnf)) | (refine bNe (fun hh => ?_) (fun hh => ?_) <;> first | (exfalso; omega) | (conv => whnf)) | (refine wIn (by omega) ?_; conv => whnf) | (refine nI (by omega) ?_; conv => whnf)))
        refine apI (by simp [AV.one]) (by rw [List.length_map]; simp only [List.length_cons, List.length_nil]; omega) ?_
        (conv => whnf); (repeat' (first | (refine bT ?_; conv => whnf) | (refine bF ?_; conv => whnf) | (refine bN ?_) | (refine bD (fun hh => ?_) (fun hh => ?_) <;> first | (exfalso; omega) | (conv => whnf)) | (refine bEq (fun hh => ?_) (fun hh => ?_) <;> first | (exfalso; omega) | (conv => whnf)) | (refine bNe (fun hh => ?_) (fun hh => ?_) <;> first | (exfalso; omega) | (conv => whnf)) | (refine wIn (by omega) ?_; conv => whnf) | (refine nI (by omega) ?_; conv => whnf)))
        refine ⟨i + 1, ?_, by omega, by omega⟩
        have e : (lst (i + 1) fun i => l.any fun g => d.worst.tw g i).map n1 = (lst i fun i => l.any fun g => d.worst.tw g i).map n1 ++ [[.int .i64 i]] := by rw [hsucc]; simp [n1]
        rw [e]
        simp only [Int.natCast_add, Int.natCast_one]
        exact (meets_ren 4 3 (by (repeat' apply And.intro) <;> first | rfl | exact True.intro | (intro hh; cases hh)))
      | false =>
        rw [if_neg (by rw [hw]; simp)] at hsucc
        (conv => whnf); (repeat' (first | (refine bT ?_; conv => whnf) | (refine bF ?_; conv => whnf) | (refine bN ?_) | (refine bD (fun hh => ?_) (fun hh => ?_) <;> first | (exfalso; omega) | (conv => whnf)) | (refine bEq (fun hh => ?_) (fun hh => ?_) <;> first | (exfalso; omega) | (conv => whnf)) | (refine bNe (fun hh => ?_) (fun hh => ?_) <;> first | (exfalso; omega) | (conv => whnf)) | (refine wIn (by omega) ?_; conv => whnf) | (refine nI (by omega) ?_; conv => whnf)))
        refine ⟨i + 1, ?_, by omega, by omega⟩
        rw [hsucc]
        simp only [Int.natCast_add, Int.natCast_one]
        exact (meets_id (by (repeat' apply And.intro) <;> first | rfl | exact True.intro | (intro hh; cases hh)))
  · have : i = d.rs.length := by omega
    subst this
    (conv => whnf); (repeat' (first | (refine bT ?_; conv => whnf) | (refine bF ?_; conv => whnf) | (refine bN ?_) | (refine bD (fun hh => ?_) (fun hh => ?_) <;> first | (exfalso; omega) | (conv => whnf)) | (refine bEq (fun hh => ?_) (fun hh => ?_) <;> first | (exfalso; omega) | (conv => whnf)) | (refine bNe (fun hh => ?_) (fun hh => ?_) <;> first | (exfalso; omega) | (conv => whnf)) | (refine wIn (by omega) ?_; conv => whnf) | (refine nI (by omega) ?_; conv => whnf)))
    all_goals rfl

theorem wnt_weak {t : Tr} {g : Gu} (hn : 1 ≤ t.ss.length) : wnt (t.out g t.ss.length) 1 = t.weak g := by
  unfold wnt Tr.weak lst
  rw [out_len]
  refine List.filter_congr fun i hi => ?_
  have hi' : i < t.ss.length := by simpa using hi
  have h1 := out_one t g hi' (t.ss.length - 1)
  rw [show t.ss.length - 1 + 1 = t.ss.length from by omega] at h1
  rw [Bool.eq_iff_iff]
  simp only [decide_eq_true_eq]
  rw [← h1]; omega
theorem g21z (d : Dm) (l : List Gu) (j : Nat) (hj : j < l.length) (hf : d.f.ss.length ≤ 1000) (hn : d.rs.length ≤ 1000) (hs : d.sh.length ≤ 1000) (hl : l.length ≤ 1000) (h : d.errC l = 0) (hw : ∀ k (hk : k < j), (d.worst.weak l[k]).isEmpty = true) (hwj : (d.worst.weak l[j]).isEmpty = false) : FnA Tryz.prog 21 [.agg d.cells, .isl (l.map Gu.av)] (· = .tup [.int .i64 j, .isl ((d.worst.weak l[j]).map n1), .int .i64 0]) := by
  obtain ⟨h1, h2⟩ := errC_ok h
  have hg := okCl_g h2
  have c := g35z d l hf hn hs hl
  rw [h] at c
  have c38 := g38z d h1
  have hwl := worst_len d
  have hb' := okB_iff.1 h1
  have hLl : (l.map Gu.av).length = l.length := by simp
  refine fnA 7 ok21 (by simp) ?_
  (conv => whnf); (repeat' (first | (refine bT ?_; conv => whnf) | (refine bF ?_; conv => whnf) | (refine bN ?_) | (refine bD (fun hh => ?_) (fun hh => ?_) <;> first | (exfalso; omega) | (conv => whnf)) | (refine bEq (fun hh => ?_) (fun hh => ?_) <;> first | (exfalso; omega) | (conv => whnf)) | (refine bNe (fun hh => ?_) (fun hh => ?_) <;> first | (exfalso; omega) | (conv => whnf)) | (refine (c).callq rfl rfl (fun r (hr : r = _) => ?_); subst hr; conv => whnf) | (refine (c38).callzq rfl rfl (fun r (hr : r = _) => ?_); subst hr; conv => whnf) | (refine wIn (by omega) ?_; conv => whnf) | (refine nI (by omega) ?_; conv => whnf)))
  refine loop_i (α := Nat) (fun k => [(10, .int .i64 k), (9, .own 4 0), (2, .own 0 0), (1, .isl (l.map Gu.av))]) (fun k => [.box false d.cells, .fresh, .fresh, .fresh, .box false d.worst.tc, .fresh, .fresh]) (fun k => k ≤ j) (fun k => j - k) 0 (meets_id (by (repeat' apply And.intro) <;> first | rfl | exact True.intro | (intro hh; cases hh))) (by omega) ?_
  intro k hk
  conv => whnf
  refine bD (fun h3 => ?_) (fun h3 => ?_)
  · have hlt : k < l.length := by omega
    have a2 := g19 d d.worst l[k] (of_worst h1) (hg.2 _ (List.getElem_mem hlt))
    have b2 := g47 (d.worst.out l[k] d.worst.ss.length) 1 (by rw [out_len]; omega)
    rw [wnt_weak (by omega)] at b2
    by_cases hkj : k < j
    · have he : d.worst.weak l[k] = [] := by simpa using hw k hkj
      rw [he] at b2
      (conv => whnf); (repeat' (first | (refine bT ?_; conv => whnf) | (refine bF ?_; conv => whnf) | (refine bN ?_) | (refine bD (fun hh => ?_) (fun hh => ?_) <;> first | (exfalso; omega) | (conv => whnf)) | (refine bEq (fun hh => ?_) (fun hh => ?_) <;> first | (exfalso; omega) | (conv => whnf)) | (refine bNe (fun hh => ?_) (fun hh => ?_) <;> first | (exfalso; omega) | (conv => whnf)) | (refine iaI (by omega) (by omega) (getD_map Gu.av l k hlt) ?_; conv => whnf) | (refine (a2).callzq rfl rfl (fun r rows (hr : r = _ ∧ rows = _) => ?_); obtain ⟨hr1, hr2⟩ := hr; subst hr1; subst hr2; refine ⟨rfl, ?_⟩; conv => whnf) | (refine (b2).callzq rfl rfl (fun r rows (hr : r = _ ∧ rows = _) => ?_); obtain ⟨hr1, hr2⟩ := hr; subst hr1; subst hr2; refine ⟨rfl, ?_⟩; conv => whnf) | (refine wIn (by omega) ?_; conv => whnf) | (refine nI (by omega) ?_; conv => whnf)))
      refine ⟨k + 1, ?_, by omega, by omega⟩
      simp only [Int.natCast_add, Int.natCast_one]
      exact (meets_id (by (repeat' apply And.intro) <;> first | rfl | exact True.intro | (intro hh; cases hh)))
    · have e : k = j := by omega
      subst e
      have hp : 1 ≤ (d.worst.weak l[k]).length := by
        cases hh : d.worst.weak l[k] with
        | nil => rw [hh] at hwj; cases hwj
        | cons x m => simp
      have hpl : ((d.worst.weak l[k]).map n1).length = (d.worst.weak l[k]).length := by simp
      (conv => whnf); (repeat' (first | (refine bT ?_; conv => whnf) | (refine bF ?_; conv => whnf) | (refine bN ?_) | (refine bD (fun hh => ?_) (fun hh => ?_) <;> first | (exfalso; omega) | (conv => whnf)) | (refine bEq (fun hh => ?_) (fun hh => ?_) <;> first | (exfalso; omega) | (conv => whnf)) | (refine bNe (fun hh => ?_) (fun hh => ?_) <;> first | (exfalso; omega) | (conv => whnf)) | (refine iaI (by omega) (by omega) (getD_map Gu.av l k hlt) ?_; conv => whnf) | (refine (a2).callzq rfl rfl (fun r rows (hr : r = _ ∧ rows = _) => ?_); obtain ⟨hr1, hr2⟩ := hr; subst hr1; subst hr2; refine ⟨rfl, ?_⟩; conv => whnf) | (refine (b2).callzq rfl rfl (fun r rows (hr : r = _ ∧ rows = _) => ?_); obtain ⟨hr1, hr2⟩ := hr; subst hr1; subst hr2; refine ⟨rfl, ?_⟩; conv => whnf) | (refine wIn (by omega) ?_; conv => whnf) | (refine nI (by omega) ?_; conv => whnf)))
      all_goals rfl
  · exfalso; omega
theorem g21zn (d : Dm) (l : List Gu) (hf : d.f.ss.length ≤ 1000) (hn : d.rs.length ≤ 1000) (hs : d.sh.length ≤ 1000) (hl : l.length ≤ 1000) (h : d.errC l = 0) (hw : ∀ g ∈ l, (d.worst.weak g).isEmpty = true) : FnA Tryz.prog 21 [.agg d.cells, .isl (l.map Gu.av)] (· = .tup [.int .i64 0, .isl [], .int .i64 3]) := by
  obtain ⟨h1, h2⟩ := errC_ok h
  have hg := okCl_g h2
  have c := g35z d l hf hn hs hl
  rw [h] at c
  have c38 := g38z d h1
  have hwl := worst_len d
  have hb' := okB_iff.1 h1
  have hLl : (l.map Gu.av).length = l.length := by simp
  refine fnA 7 ok21 (by simp) ?_
  (conv => whnf); (repeat' (first | (refine bT ?_; conv => whnf) | (refine bF ?_; conv => whnf) | (refine bN ?_) | (refine bD (fun hh => ?_) (fun hh => ?_) <;> first | (exfalso; omega) | (conv => whnf)) | (refine bEq (fun hh => ?_) (fun hh => ?_) <;> first | (exfalso; omega) | (conv => whnf)) | (refine bNe (fun hh => ?_) (fun hh => ?_) <;> first | (exfalso; omega) | (conv => whnf)) | (refine (c).callq rfl rfl (fun r (hr : r = _) => ?_); subst hr; conv => whnf) | (refine (c38).callzq rfl rfl (fun r (hr : r = _) => ?_); subst hr; conv => whnf) | (refine wIn (by omega) ?_; conv => whnf) | (refine nI (by omega) ?_; conv => whnf)))
  refine loop_i (α := Nat) (fun k => [(10, .int .i64 k), (9, .own 4 0), (2, .own 0 0), (1, .isl (l.map Gu.av))]) (fun k => [.box false d.cells, .fresh, .fresh, .fresh, .box false d.worst.tc, .fresh, .fresh]) (fun k => k ≤ l.length) (fun k => l.length - k) 0 (meets_id (by (repeat' apply And.intro) <;> first | rfl | exact True.intro | (intro hh; cases hh))) (by omega) ?_
  intro k hk
  conv => whnf
  refine bD (fun h3 => ?_) (fun h3 => ?_)
  · have hlt : k < l.length := by omega
    have a2 := g19 d d.worst l[k] (of_worst h1) (hg.2 _ (List.getElem_mem hlt))
    have b2 := g47 (d.worst.out l[k] d.worst.ss.length) 1 (by rw [out_len]; omega)
    rw [wnt_weak (by omega)] at b2
    have he : d.worst.weak l[k] = [] := by simpa using hw _ (List.getElem_mem hlt)
    rw [he] at b2
    (conv => whnf); (repeat' (first | (refine bT ?_; conv => whnf) | (refine bF ?_; conv => whnf) | (refine bN ?_) | (refine bD (fun hh => ?_) (fun hh => ?_) <;> first | (exfalso; omega) | (conv => whnf)) | (refine bEq (fun hh => ?_) (fun hh => ?_) <;> first | (exfalso; omega) | (conv => whnf)) | (refine bNe (fun hh => ?_) (fun hh => ?_) <;> first | (exfalso; omega) | (conv => whnf)) | (refine iaI (by omega) (by omega) (getD_map Gu.av l k hlt) ?_; conv => whnf) | (refine (a2).callzq rfl rfl (fun r rows (hr : r = _ ∧ rows = _) => ?_); obtain ⟨hr1, hr2⟩ := hr; subst hr1; subst hr2; refine ⟨rfl, ?_⟩; conv => whnf) | (refine (b2).callzq rfl rfl (fun r rows (hr : r = _ ∧ rows = _) => ?_); obtain ⟨hr1, hr2⟩ := hr; subst hr1; subst hr2; refine ⟨rfl, ?_⟩; conv => whnf) | (refine wIn (by omega) ?_; conv => whnf) | (refine nI (by omega) ?_; conv => whnf)))
    refine ⟨k + 1, ?_, by omega, by omega⟩
    simp only [Int.natCast_add, Int.natCast_one]
    exact (meets_id (by (repeat' apply And.intro) <;> first | rfl | exact True.intro | (intro hh; cases hh)))
  · (conv => whnf); (repeat' (first | (refine bT ?_; conv => whnf) | (refine bF ?_; conv => whnf) | (refine bN ?_) | (refine bD (fun hh => ?_) (fun hh => ?_) <;> first | (exfalso; omega) | (conv => whnf)) | (refine bEq (fun hh => ?_) (fun hh => ?_) <;> first | (exfalso; omega) | (conv => whnf)) | (refine bNe (fun hh => ?_) (fun hh => ?_) <;> first | (exfalso; omega) | (conv => whnf)) | (refine wIn (by omega) ?_; conv => whnf) | (refine nI (by omega) ?_; conv => whnf)))
    all_goals rfl

theorem e18 (d : Dm) (l : List Gu) (hn : d.rs.length ≤ 1000) (hs : d.sh.length ≤ 1000) (h : d.errC l ≠ 0) : FnA Tryz.prog 18 [.agg d.cells, .isl (l.map Gu.av)] (· = .tup [.int .i64 0, .int .i64 (d.errC l)]) := by
  refine fnA 7 ok18 (by simp) ?_
  (conv => whnf); (repeat' (first | (refine bT ?_; conv => whnf) | (refine bF ?_; conv => whnf) | (refine bN ?_) | (refine bD (fun hh => ?_) (fun hh => ?_) <;> first | (exfalso; omega) | (conv => whnf)) | (refine bEq (fun hh => ?_) (fun hh => ?_) <;> first | (exfalso; omega) | (conv => whnf)) | (refine bNe (fun hh => ?_) (fun hh => ?_) <;> first | (exfalso; omega) | (conv => whnf)) | (refine (g41e d l hn hs h).callzq rfl rfl (fun r (hr : r = _) => ?_); subst hr; conv => whnf) | (refine wIn (by omega) ?_; conv => whnf) | (refine nI (by omega) ?_; conv => whnf)))
  all_goals rfl
theorem e20 (d : Dm) (l : List Gu) (hn : d.rs.length ≤ 1000) (hs : d.sh.length ≤ 1000) (h : d.errC l ≠ 0) : FnA Tryz.prog 20 [.agg d.cells, .isl (l.map Gu.av)] (· = .tup [.int .i64 0, .isl [], .int .i64 (d.errC l)]) := by
  refine fnA 10 ok20 (by simp) ?_
  (conv => whnf); (repeat' (first | (refine bT ?_; conv => whnf) | (refine bF ?_; conv => whnf) | (refine bN ?_) | (refine bD (fun hh => ?_) (fun hh => ?_) <;> first | (exfalso; omega) | (conv => whnf)) | (refine bEq (fun hh => ?_) (fun hh => ?_) <;> first | (exfalso; omega) | (conv => whnf)) | (refine bNe (fun hh => ?_) (fun hh => ?_) <;> first | (exfalso; omega) | (conv => whnf)) | (refine (g41e d l hn hs h).callzq rfl rfl (fun r (hr : r = _) => ?_); subst hr; conv => whnf) | (refine wIn (by omega) ?_; conv => whnf) | (refine nI (by omega) ?_; conv => whnf)))
  all_goals rfl
theorem e22 (d : Dm) (a : Int) (hn : d.rs.length ≤ 1000) (hs : d.sh.length ≤ 1000) (h : d.errC [⟨0, a⟩] ≠ 0) : FnA Tryz.prog 22 [.agg d.cells, .int .i64 a] (· = .tup [.int .i64 0, .int .i64 (d.errC [⟨0, a⟩])]) := by
  refine fnA 9 ok22 (by simp) ?_
  (conv => whnf); (repeat' (first | (refine bT ?_; conv => whnf) | (refine bF ?_; conv => whnf) | (refine bN ?_) | (refine bD (fun hh => ?_) (fun hh => ?_) <;> first | (exfalso; omega) | (conv => whnf)) | (refine bEq (fun hh => ?_) (fun hh => ?_) <;> first | (exfalso; omega) | (conv => whnf)) | (refine bNe (fun hh => ?_) (fun hh => ?_) <;> first | (exfalso; omega) | (conv => whnf)) | (refine (g41e d [⟨0, a⟩] hn hs h).callzq rfl rfl (fun r (hr : r = _) => ?_); subst hr; conv => whnf) | (refine wIn (by omega) ?_; conv => whnf) | (refine nI (by omega) ?_; conv => whnf)))
  all_goals rfl
theorem e24 (d : Dm) (l : List Gu) (hn : d.rs.length ≤ 1000) (hs : d.sh.length ≤ 1000) (h : d.errC l ≠ 0) : FnA Tryz.prog 24 [.agg d.cells, .isl (l.map Gu.av)] (· = .tup [.isl [], .int .i64 (d.errC l)]) := by
  refine fnA 9 ok24 (by simp) ?_
  (conv => whnf); (repeat' (first | (refine bT ?_; conv => whnf) | (refine bF ?_; conv => whnf) | (refine bN ?_) | (refine bD (fun hh => ?_) (fun hh => ?_) <;> first | (exfalso; omega) | (conv => whnf)) | (refine bEq (fun hh => ?_) (fun hh => ?_) <;> first | (exfalso; omega) | (conv => whnf)) | (refine bNe (fun hh => ?_) (fun hh => ?_) <;> first | (exfalso; omega) | (conv => whnf)) | (refine (g41e d l hn hs h).callzq rfl rfl (fun r (hr : r = _) => ?_); subst hr; conv => whnf) | (refine wIn (by omega) ?_; conv => whnf) | (refine nI (by omega) ?_; conv => whnf)))
  all_goals rfl
theorem e19 (d : Dm) (l : List Gu) (hf : d.f.ss.length ≤ 1000) (hn : d.rs.length ≤ 1000) (hs : d.sh.length ≤ 1000) (hl : l.length ≤ 1000) (h : d.errC l ≠ 0) : FnA Tryz.prog 19 [.agg d.cells, .isl (l.map Gu.av)] (· = .tup [.int .i64 0, .int .i64 (d.errC l)]) := by
  have c := g35z d l hf hn hs hl
  refine fnA 5 ok19 (by simp) ?_
  (conv => whnf); (repeat' (first | (refine bT ?_; conv => whnf) | (refine bF ?_; conv => whnf) | (refine bN ?_) | (refine bD (fun hh => ?_) (fun hh => ?_) <;> first | (exfalso; omega) | (conv => whnf)) | (refine bEq (fun hh => ?_) (fun hh => ?_) <;> first | (exfalso; omega) | (conv => whnf)) | (refine bNe (fun hh => ?_) (fun hh => ?_) <;> first | (exfalso; omega) | (conv => whnf)) | (refine (c).callq rfl rfl (fun r (hr : r = _) => ?_); subst hr; conv => whnf) | (refine wIn (by omega) ?_; conv => whnf) | (refine nI (by omega) ?_; conv => whnf)))
  all_goals rfl
theorem e21 (d : Dm) (l : List Gu) (hf : d.f.ss.length ≤ 1000) (hn : d.rs.length ≤ 1000) (hs : d.sh.length ≤ 1000) (hl : l.length ≤ 1000) (h : d.errC l ≠ 0) : FnA Tryz.prog 21 [.agg d.cells, .isl (l.map Gu.av)] (· = .tup [.int .i64 0, .isl [], .int .i64 (d.errC l)]) := by
  have c := g35z d l hf hn hs hl
  refine fnA 7 ok21 (by simp) ?_
  (conv => whnf); (repeat' (first | (refine bT ?_; conv => whnf) | (refine bF ?_; conv => whnf) | (refine bN ?_) | (refine bD (fun hh => ?_) (fun hh => ?_) <;> first | (exfalso; omega) | (conv => whnf)) | (refine bEq (fun hh => ?_) (fun hh => ?_) <;> first | (exfalso; omega) | (conv => whnf)) | (refine bNe (fun hh => ?_) (fun hh => ?_) <;> first | (exfalso; omega) | (conv => whnf)) | (refine (c).callq rfl rfl (fun r (hr : r = _) => ?_); subst hr; conv => whnf) | (refine wIn (by omega) ?_; conv => whnf) | (refine nI (by omega) ?_; conv => whnf)))
  all_goals rfl
theorem e23 (d : Dm) (a : Int) (hf : d.f.ss.length ≤ 1000) (hn : d.rs.length ≤ 1000) (hs : d.sh.length ≤ 1000) (h : d.errC [⟨0, a⟩] ≠ 0) : FnA Tryz.prog 23 [.agg d.cells, .int .i64 a] (· = .tup [.int .i64 0, .int .i64 (d.errC [⟨0, a⟩])]) := by
  have c := g35z d [⟨0, a⟩] hf hn hs (by simp)
  refine fnA 7 ok23 (by simp) ?_
  (conv => whnf); (repeat' (first | (refine bT ?_; conv => whnf) | (refine bF ?_; conv => whnf) | (refine bN ?_) | (refine bD (fun hh => ?_) (fun hh => ?_) <;> first | (exfalso; omega) | (conv => whnf)) | (refine bEq (fun hh => ?_) (fun hh => ?_) <;> first | (exfalso; omega) | (conv => whnf)) | (refine bNe (fun hh => ?_) (fun hh => ?_) <;> first | (exfalso; omega) | (conv => whnf)) | (refine (c).lendq rfl (fun r (hr : r = _) => ?_); subst hr; refine ⟨rfl, ?_⟩; conv => whnf) | (refine wIn (by omega) ?_; conv => whnf) | (refine nI (by omega) ?_; conv => whnf)))
  all_goals rfl
theorem e25 (d : Dm) (l : List Gu) (hf : d.f.ss.length ≤ 1000) (hn : d.rs.length ≤ 1000) (hs : d.sh.length ≤ 1000) (hl : l.length ≤ 1000) (h : d.errC l ≠ 0) : FnA Tryz.prog 25 [.agg d.cells, .isl (l.map Gu.av)] (· = .tup [.isl [], .int .i64 (d.errC l)]) := by
  have c := g35z d l hf hn hs hl
  refine fnA 5 ok25 (by simp) ?_
  (conv => whnf); (repeat' (first | (refine bT ?_; conv => whnf) | (refine bF ?_; conv => whnf) | (refine bN ?_) | (refine bD (fun hh => ?_) (fun hh => ?_) <;> first | (exfalso; omega) | (conv => whnf)) | (refine bEq (fun hh => ?_) (fun hh => ?_) <;> first | (exfalso; omega) | (conv => whnf)) | (refine bNe (fun hh => ?_) (fun hh => ?_) <;> first | (exfalso; omega) | (conv => whnf)) | (refine (c).callq rfl rfl (fun r (hr : r = _) => ?_); subst hr; conv => whnf) | (refine wIn (by omega) ?_; conv => whnf) | (refine nI (by omega) ?_; conv => whnf)))
  all_goals rfl
theorem most_eq {t : Tr} {a : Int} {F F' : Nat} (h : isMost t a F) (h' : isMost t a F') : F = F' := by
  refine Classical.byContradiction fun hne => ?_
  rcases Nat.lt_or_gt_of_ne hne with hlt | hlt
  · have a1 := h.2.2 F' hlt h'.1
    rw [h'.2.1] at a1; cases a1
  · have a1 := h'.2.2 F hlt h.1
    rw [h.2.1] at a1; cases a1

theorem firstz_ex {t : Tr} : ∀ (l : List Gu), (∀ g ∈ l, (t.weak g).isEmpty = true) ∨ ∃ j, ∃ hj : j < l.length, (∀ k (hk : k < j), (t.weak l[k]).isEmpty = true) ∧ (t.weak l[j]).isEmpty = false
  | [] => .inl (by simp)
  | g :: l => by
    cases hg : (t.weak g).isEmpty with
    | false => exact .inr ⟨0, by simp, fun k hk => absurd hk (by omega), hg⟩
    | true =>
      rcases firstz_ex l with h | ⟨j, hj, h1, h2⟩
      · exact .inl fun x hx => by
          rcases List.mem_cons.1 hx with rfl | hx
          · exact hg
          · exact h x hx
      · refine .inr ⟨j + 1, by simpa using hj, fun k hk => ?_, h2⟩
        cases k with
        | zero => exact hg
        | succ k => exact h1 k (by omega)
set_option maxHeartbeats 8000000 in
theorem k4z (d : Dm) (l : List Gu) (a : Int) (hl : l.length ≤ 9223372036854775807) : FnA Tryz.prog 4 [.agg d.cells, .isl (l.map Gu.av), .int .i64 a] (· = .bool true) := by
  have hLl : (l.map Gu.av).length = l.length := by simp
  have c5 := g28 d
  by_cases hf : d.far
  · rw [decide_eq_true hf] at c5
    refine fnA 11 ok4 (by simp) ?_
    (conv => whnf); (repeat' (first | (refine bT ?_; conv => whnf) | (refine bF ?_; conv => whnf) | (refine bN ?_) | (refine bD (fun hh => ?_) (fun hh => ?_) <;> first | (exfalso; omega) | (conv => whnf)) | (refine bEq (fun hh => ?_) (fun hh => ?_) <;> first | (exfalso; omega) | (conv => whnf)) | (refine bNe (fun hh => ?_) (fun hh => ?_) <;> first | (exfalso; omega) | (conv => whnf)) | (refine (c5).callq rfl rfl (fun r (hr : r = _) => ?_); subst hr; conv => whnf) | (refine (g12).callq rfl rfl (fun r (hr : r = _) => ?_); subst hr; conv => whnf) | (refine wIn (by omega) ?_; conv => whnf) | (refine nI (by omega) ?_; conv => whnf)))
    all_goals rfl
  rw [decide_eq_false hf] at c5
  by_cases h40 : 40 < l.length
  · refine fnA 11 ok4 (by simp) ?_
    (conv => whnf); (repeat' (first | (refine bT ?_; conv => whnf) | (refine bF ?_; conv => whnf) | (refine bN ?_) | (refine bD (fun hh => ?_) (fun hh => ?_) <;> first | (exfalso; omega) | (conv => whnf)) | (refine bEq (fun hh => ?_) (fun hh => ?_) <;> first | (exfalso; omega) | (conv => whnf)) | (refine bNe (fun hh => ?_) (fun hh => ?_) <;> first | (exfalso; omega) | (conv => whnf)) | (refine (c5).callq rfl rfl (fun r (hr : r = _) => ?_); subst hr; conv => whnf) | (refine (g12).callq rfl rfl (fun r (hr : r = _) => ?_); subst hr; conv => whnf) | (refine wIn (by omega) ?_; conv => whnf) | (refine nI (by omega) ?_; conv => whnf)))
    all_goals rfl
  unfold Dm.far at hf
  have c7 := g24 d (by omega) (by omega) (by omega)
  by_cases he : d.errC l = 0
  · skip
    have c18 := g17 d l (by omega) (by omega) he
    have c19 := g19z d l (by omega) (by omega) (by omega) (by omega) he
    have c24 := g27 d l (by omega) (by omega) he
    have c25 := g25z d l (by omega) (by omega) (by omega) (by omega) he
    have hwk : (d.wk l).length ≤ d.rs.length := lst_le _ _
    have t1 := g37 (d.wk l) (d.wk l) (by omega)
    rw [decide_eq_true rfl] at t1
    rcases firstz_ex (t := d.worst) l with hw | ⟨j, hj, hj1, hj2⟩
    · skip
      have c20 := g18n d l (by omega) (by omega) he hw
      have c21 := g21zn d l (by omega) (by omega) (by omega) (by omega) he hw
      have t0 := g37 [] [] (by simp)
      rw [decide_eq_true rfl] at t0
      by_cases hm : d.errC [⟨0, a⟩] = 0
      · have c22 := g25 d a (by omega) (by omega) hm
        have c23 := g23z d a (by omega) (by omega) (by omega) hm
        refine fnA 11 ok4 (by simp) ?_
        (conv => whnf); (repeat' (first | (refine bT ?_; conv => whnf) | (refine bF ?_; conv => whnf) | (refine bN ?_) | (refine bD (fun hh => ?_) (fun hh => ?_) <;> first | (exfalso; omega) | (conv => whnf)) | (refine bEq (fun hh => ?_) (fun hh => ?_) <;> first | (exfalso; omega) | (conv => whnf)) | (refine bNe (fun hh => ?_) (fun hh => ?_) <;> first | (exfalso; omega) | (conv => whnf)) | (refine (c5).callq rfl rfl (fun r (hr : r = _) => ?_); subst hr; conv => whnf) | (refine (c7).callzq rfl rfl (fun r rows (hr : r = _ ∧ rows = _) => ?_); obtain ⟨hr1, hr2⟩ := hr; subst hr1; subst hr2; refine ⟨rfl, ?_⟩; conv => whnf) | (refine wIn (by omega) ?_; conv => whnf) | (refine nI (by omega) ?_; conv => whnf)))
        refine apI (fun e he' => ?_) (by simp; omega) ?_
        · obtain ⟨s, _, rfl⟩ := List.mem_map.1 he'; exact ⟨rfl, rfl⟩
        (conv => whnf); (repeat' (first | (refine bT ?_; conv => whnf) | (refine bF ?_; conv => whnf) | (refine bN ?_) | (refine bD (fun hh => ?_) (fun hh => ?_) <;> first | (exfalso; omega) | (conv => whnf)) | (refine bEq (fun hh => ?_) (fun hh => ?_) <;> first | (exfalso; omega) | (conv => whnf)) | (refine bNe (fun hh => ?_) (fun hh => ?_) <;> first | (exfalso; omega) | (conv => whnf)) | (refine (c18).lendq rfl (fun r (hr : r = _) => ?_); subst hr; refine ⟨rfl, ?_⟩; conv => whnf) | (refine (c19).callq rfl rfl (fun r (hr : r = _) => ?_); subst hr; conv => whnf) | (refine (c20).callzq rfl rfl (fun r (hr : r = _) => ?_); subst hr; conv => whnf) | (refine (c21).callzq rfl rfl (fun r (hr : r = _) => ?_); subst hr; conv => whnf) | (refine wIn (by omega) ?_; conv => whnf) | (refine nI (by omega) ?_; conv => whnf)))
        refine c22.lendq rfl (fun r ⟨F, hF, hr⟩ => ?_); subst hr; refine ⟨rfl, ?_⟩
        (conv => whnf); (repeat' (first | (refine bT ?_; conv => whnf) | (refine bF ?_; conv => whnf) | (refine bN ?_) | (refine bD (fun hh => ?_) (fun hh => ?_) <;> first | (exfalso; omega) | (conv => whnf)) | (refine bEq (fun hh => ?_) (fun hh => ?_) <;> first | (exfalso; omega) | (conv => whnf)) | (refine bNe (fun hh => ?_) (fun hh => ?_) <;> first | (exfalso; omega) | (conv => whnf)) | (refine wIn (by omega) ?_; conv => whnf) | (refine nI (by omega) ?_; conv => whnf)))
        refine c23.callq rfl rfl (fun r ⟨F', hF', hr⟩ => ?_); subst hr
        obtain rfl := most_eq hF hF'
        (conv => whnf); (repeat' (first | (refine bT ?_; conv => whnf) | (refine bF ?_; conv => whnf) | (refine bN ?_) | (refine bD (fun hh => ?_) (fun hh => ?_) <;> first | (exfalso; omega) | (conv => whnf)) | (refine bEq (fun hh => ?_) (fun hh => ?_) <;> first | (exfalso; omega) | (conv => whnf)) | (refine bNe (fun hh => ?_) (fun hh => ?_) <;> first | (exfalso; omega) | (conv => whnf)) | (refine (c24).callzq rfl rfl (fun r rows (hr : r = _ ∧ rows = _) => ?_); obtain ⟨hr1, hr2⟩ := hr; subst hr1; subst hr2; refine ⟨rfl, ?_⟩; conv => whnf) | (refine (c25).callzq rfl rfl (fun r (hr : r = _) => ?_); subst hr; conv => whnf) | (refine (t0).lendq rfl (fun r (hr : r = _) => ?_); subst hr; refine ⟨rfl, ?_⟩; conv => whnf) | (refine (t1).lendq rfl (fun r (hr : r = _) => ?_); subst hr; refine ⟨rfl, ?_⟩; conv => whnf) | (refine (g12).callq rfl rfl (fun r (hr : r = _) => ?_); subst hr; conv => whnf) | (refine wIn (by omega) ?_; conv => whnf) | (refine nI (by omega) ?_; conv => whnf)))
        all_goals rfl
      · have c22 := e22 d a (by omega) (by omega) hm
        have c23 := e23 d a (by omega) (by omega) (by omega) hm
        refine fnA 11 ok4 (by simp) ?_
        (conv => whnf); (repeat' (first | (refine bT ?_; conv => whnf) | (refine bF ?_; conv => whnf) | (refine bN ?_) | (refine bD (fun hh => ?_) (fun hh => ?_) <;> first | (exfalso; omega) | (conv => whnf)) | (refine bEq (fun hh => ?_) (fun hh => ?_) <;> first | (exfalso; omega) | (conv => whnf)) | (refine bNe (fun hh => ?_) (fun hh => ?_) <;> first | (exfalso; omega) | (conv => whnf)) | (refine (c5).callq rfl rfl (fun r (hr : r = _) => ?_); subst hr; conv => whnf) | (refine (c7).callzq rfl rfl (fun r rows (hr : r = _ ∧ rows = _) => ?_); obtain ⟨hr1, hr2⟩ := hr; subst hr1; subst hr2; refine ⟨rfl, ?_⟩; conv => whnf) | (refine wIn (by omega) ?_; conv => whnf) | (refine nI (by omega) ?_; conv => whnf)))
        refine apI (fun e he' => ?_) (by simp; omega) ?_
        · obtain ⟨s, _, rfl⟩ := List.mem_map.1 he'; exact ⟨rfl, rfl⟩
        (conv => whnf); (repeat' (first | (refine bT ?_; conv => whnf) | (refine bF ?_; conv => whnf) | (refine bN ?_) | (refine bD (fun hh => ?_) (fun hh => ?_) <;> first | (exfalso; omega) | (conv => whnf)) | (refine bEq (fun hh => ?_) (fun hh => ?_) <;> first | (exfalso; omega) | (conv => whnf)) | (refine bNe (fun hh => ?_) (fun hh => ?_) <;> first | (exfalso; omega) | (conv => whnf)) | (refine (c18).lendq rfl (fun r (hr : r = _) => ?_); subst hr; refine ⟨rfl, ?_⟩; conv => whnf) | (refine (c19).callq rfl rfl (fun r (hr : r = _) => ?_); subst hr; conv => whnf) | (refine (c20).callzq rfl rfl (fun r (hr : r = _) => ?_); subst hr; conv => whnf) | (refine (c21).callzq rfl rfl (fun r (hr : r = _) => ?_); subst hr; conv => whnf) | (refine wIn (by omega) ?_; conv => whnf) | (refine nI (by omega) ?_; conv => whnf)))
        (conv => whnf); (repeat' (first | (refine bT ?_; conv => whnf) | (refine bF ?_; conv => whnf) | (refine bN ?_) | (refine bD (fun hh => ?_) (fun hh => ?_) <;> first | (exfalso; omega) | (conv => whnf)) | (refine bEq (fun hh => ?_) (fun hh => ?_) <;> first | (exfalso; omega) | (conv => whnf)) | (refine bNe (fun hh => ?_) (fun hh => ?_) <;> first | (exfalso; omega) | (conv => whnf)) | (refine (c22).lendq rfl (fun r (hr : r = _) => ?_); subst hr; refine ⟨rfl, ?_⟩; conv => whnf) | (refine (c23).callq rfl rfl (fun r (hr : r = _) => ?_); subst hr; conv => whnf) | (refine (c24).callzq rfl rfl (fun r rows (hr : r = _ ∧ rows = _) => ?_); obtain ⟨hr1, hr2⟩ := hr; subst hr1; subst hr2; refine ⟨rfl, ?_⟩; conv => whnf) | (refine (c25).callzq rfl rfl (fun r (hr : r = _) => ?_); subst hr; conv => whnf) | (refine (t0).lendq rfl (fun r (hr : r = _) => ?_); subst hr; refine ⟨rfl, ?_⟩; conv => whnf) | (refine (t1).lendq rfl (fun r (hr : r = _) => ?_); subst hr; refine ⟨rfl, ?_⟩; conv => whnf) | (refine (g12).callq rfl rfl (fun r (hr : r = _) => ?_); subst hr; conv => whnf) | (refine wIn (by omega) ?_; conv => whnf) | (refine nI (by omega) ?_; conv => whnf)))
        all_goals rfl
    · skip
      have c20 := g18 d l j hj (by omega) (by omega) he hj1 hj2
      have c21 := g21z d l j hj (by omega) (by omega) (by omega) (by omega) he hj1 hj2
      have hwl := worst_len d
      have hww : (d.worst.weak l[j]).length ≤ d.worst.ss.length := lst_le _ _
      have t0 := g37 (d.worst.weak l[j]) (d.worst.weak l[j]) (by omega)
      rw [decide_eq_true rfl] at t0
      by_cases hm : d.errC [⟨0, a⟩] = 0
      · have c22 := g25 d a (by omega) (by omega) hm
        have c23 := g23z d a (by omega) (by omega) (by omega) hm
        refine fnA 11 ok4 (by simp) ?_
        (conv => whnf); (repeat' (first | (refine bT ?_; conv => whnf) | (refine bF ?_; conv => whnf) | (refine bN ?_) | (refine bD (fun hh => ?_) (fun hh => ?_) <;> first | (exfalso; omega) | (conv => whnf)) | (refine bEq (fun hh => ?_) (fun hh => ?_) <;> first | (exfalso; omega) | (conv => whnf)) | (refine bNe (fun hh => ?_) (fun hh => ?_) <;> first | (exfalso; omega) | (conv => whnf)) | (refine (c5).callq rfl rfl (fun r (hr : r = _) => ?_); subst hr; conv => whnf) | (refine (c7).callzq rfl rfl (fun r rows (hr : r = _ ∧ rows = _) => ?_); obtain ⟨hr1, hr2⟩ := hr; subst hr1; subst hr2; refine ⟨rfl, ?_⟩; conv => whnf) | (refine wIn (by omega) ?_; conv => whnf) | (refine nI (by omega) ?_; conv => whnf)))
        refine apI (fun e he' => ?_) (by simp; omega) ?_
        · obtain ⟨s, _, rfl⟩ := List.mem_map.1 he'; exact ⟨rfl, rfl⟩
        (conv => whnf); (repeat' (first | (refine bT ?_; conv => whnf) | (refine bF ?_; conv => whnf) | (refine bN ?_) | (refine bD (fun hh => ?_) (fun hh => ?_) <;> first | (exfalso; omega) | (conv => whnf)) | (refine bEq (fun hh => ?_) (fun hh => ?_) <;> first | (exfalso; omega) | (conv => whnf)) | (refine bNe (fun hh => ?_) (fun hh => ?_) <;> first | (exfalso; omega) | (conv => whnf)) | (refine (c18).lendq rfl (fun r (hr : r = _) => ?_); subst hr; refine ⟨rfl, ?_⟩; conv => whnf) | (refine (c19).callq rfl rfl (fun r (hr : r = _) => ?_); subst hr; conv => whnf) | (refine (c20).callzq rfl rfl (fun r rows (hr : r = _ ∧ rows = _) => ?_); obtain ⟨hr1, hr2⟩ := hr; subst hr1; subst hr2; refine ⟨rfl, ?_⟩; conv => whnf) | (refine (c21).callzq rfl rfl (fun r (hr : r = _) => ?_); subst hr; conv => whnf) | (refine wIn (by omega) ?_; conv => whnf) | (refine nI (by omega) ?_; conv => whnf)))
        refine c22.lendq rfl (fun r ⟨F, hF, hr⟩ => ?_); subst hr; refine ⟨rfl, ?_⟩
        (conv => whnf); (repeat' (first | (refine bT ?_; conv => whnf) | (refine bF ?_; conv => whnf) | (refine bN ?_) | (refine bD (fun hh => ?_) (fun hh => ?_) <;> first | (exfalso; omega) | (conv => whnf)) | (refine bEq (fun hh => ?_) (fun hh => ?_) <;> first | (exfalso; omega) | (conv => whnf)) | (refine bNe (fun hh => ?_) (fun hh => ?_) <;> first | (exfalso; omega) | (conv => whnf)) | (refine wIn (by omega) ?_; conv => whnf) | (refine nI (by omega) ?_; conv => whnf)))
        refine c23.callq rfl rfl (fun r ⟨F', hF', hr⟩ => ?_); subst hr
        obtain rfl := most_eq hF hF'
        (conv => whnf); (repeat' (first | (refine bT ?_; conv => whnf) | (refine bF ?_; conv => whnf) | (refine bN ?_) | (refine bD (fun hh => ?_) (fun hh => ?_) <;> first | (exfalso; omega) | (conv => whnf)) | (refine bEq (fun hh => ?_) (fun hh => ?_) <;> first | (exfalso; omega) | (conv => whnf)) | (refine bNe (fun hh => ?_) (fun hh => ?_) <;> first | (exfalso; omega) | (conv => whnf)) | (refine (c24).callzq rfl rfl (fun r rows (hr : r = _ ∧ rows = _) => ?_); obtain ⟨hr1, hr2⟩ := hr; subst hr1; subst hr2; refine ⟨rfl, ?_⟩; conv => whnf) | (refine (c25).callzq rfl rfl (fun r (hr : r = _) => ?_); subst hr; conv => whnf) | (refine (t0).lendq rfl (fun r (hr : r = _) => ?_); subst hr; refine ⟨rfl, ?_⟩; conv => whnf) | (refine (t1).lendq rfl (fun r (hr : r = _) => ?_); subst hr; refine ⟨rfl, ?_⟩; conv => whnf) | (refine (g12).callq rfl rfl (fun r (hr : r = _) => ?_); subst hr; conv => whnf) | (refine wIn (by omega) ?_; conv => whnf) | (refine nI (by omega) ?_; conv => whnf)))
        all_goals rfl
      · have c22 := e22 d a (by omega) (by omega) hm
        have c23 := e23 d a (by omega) (by omega) (by omega) hm
        refine fnA 11 ok4 (by simp) ?_
        (conv => whnf); (repeat' (first | (refine bT ?_; conv => whnf) | (refine bF ?_; conv => whnf) | (refine bN ?_) | (refine bD (fun hh => ?_) (fun hh => ?_) <;> first | (exfalso; omega) | (conv => whnf)) | (refine bEq (fun hh => ?_) (fun hh => ?_) <;> first | (exfalso; omega) | (conv => whnf)) | (refine bNe (fun hh => ?_) (fun hh => ?_) <;> first | (exfalso; omega) | (conv => whnf)) | (refine (c5).callq rfl rfl (fun r (hr : r = _) => ?_); subst hr; conv => whnf) | (refine (c7).callzq rfl rfl (fun r rows (hr : r = _ ∧ rows = _) => ?_); obtain ⟨hr1, hr2⟩ := hr; subst hr1; subst hr2; refine ⟨rfl, ?_⟩; conv => whnf) | (refine wIn (by omega) ?_; conv => whnf) | (refine nI (by omega) ?_; conv => whnf)))
        refine apI (fun e he' => ?_) (by simp; omega) ?_
        · obtain ⟨s, _, rfl⟩ := List.mem_map.1 he'; exact ⟨rfl, rfl⟩
        (conv => whnf); (repeat' (first | (refine bT ?_; conv => whnf) | (refine bF ?_; conv => whnf) | (refine bN ?_) | (refine bD (fun hh => ?_) (fun hh => ?_) <;> first | (exfalso; omega) | (conv => whnf)) | (refine bEq (fun hh => ?_) (fun hh => ?_) <;> first | (exfalso; omega) | (conv => whnf)) | (refine bNe (fun hh => ?_) (fun hh => ?_) <;> first | (exfalso; omega) | (conv => whnf)) | (refine (c18).lendq rfl (fun r (hr : r = _) => ?_); subst hr; refine ⟨rfl, ?_⟩; conv => whnf) | (refine (c19).callq rfl rfl (fun r (hr : r = _) => ?_); subst hr; conv => whnf) | (refine (c20).callzq rfl rfl (fun r rows (hr : r = _ ∧ rows = _) => ?_); obtain ⟨hr1, hr2⟩ := hr; subst hr1; subst hr2; refine ⟨rfl, ?_⟩; conv => whnf) | (refine (c21).callzq rfl rfl (fun r (hr : r = _) => ?_); subst hr; conv => whnf) | (refine wIn (by omega) ?_; conv => whnf) | (refine nI (by omega) ?_; conv => whnf)))
        (conv => whnf); (repeat' (first | (refine bT ?_; conv => whnf) | (refine bF ?_; conv => whnf) | (refine bN ?_) | (refine bD (fun hh => ?_) (fun hh => ?_) <;> first | (exfalso; omega) | (conv => whnf)) | (refine bEq (fun hh => ?_) (fun hh => ?_) <;> first | (exfalso; omega) | (conv => whnf)) | (refine bNe (fun hh => ?_) (fun hh => ?_) <;> first | (exfalso; omega) | (conv => whnf)) | (refine (c22).lendq rfl (fun r (hr : r = _) => ?_); subst hr; refine ⟨rfl, ?_⟩; conv => whnf) | (refine (c23).callq rfl rfl (fun r (hr : r = _) => ?_); subst hr; conv => whnf) | (refine (c24).callzq rfl rfl (fun r rows (hr : r = _ ∧ rows = _) => ?_); obtain ⟨hr1, hr2⟩ := hr; subst hr1; subst hr2; refine ⟨rfl, ?_⟩; conv => whnf) | (refine (c25).callzq rfl rfl (fun r (hr : r = _) => ?_); subst hr; conv => whnf) | (refine (t0).lendq rfl (fun r (hr : r = _) => ?_); subst hr; refine ⟨rfl, ?_⟩; conv => whnf) | (refine (t1).lendq rfl (fun r (hr : r = _) => ?_); subst hr; refine ⟨rfl, ?_⟩; conv => whnf) | (refine (g12).callq rfl rfl (fun r (hr : r = _) => ?_); subst hr; conv => whnf) | (refine wIn (by omega) ?_; conv => whnf) | (refine nI (by omega) ?_; conv => whnf)))
        all_goals rfl
  · skip
    have c18 := e18 d l (by omega) (by omega) he
    have c19 := e19 d l (by omega) (by omega) (by omega) (by omega) he
    have c20 := e20 d l (by omega) (by omega) he
    have c21 := e21 d l (by omega) (by omega) (by omega) (by omega) he
    have c24 := e24 d l (by omega) (by omega) he
    have c25 := e25 d l (by omega) (by omega) (by omega) (by omega) he
    have t0 := g37 [] [] (by simp)
    rw [decide_eq_true rfl] at t0
    have t1 := t0
    by_cases hm : d.errC [⟨0, a⟩] = 0
    · have c22 := g25 d a (by omega) (by omega) hm
      have c23 := g23z d a (by omega) (by omega) (by omega) hm
      refine fnA 11 ok4 (by simp) ?_
      (conv => whnf); (repeat' (first | (refine bT ?_; conv => whnf) | (refine bF ?_; conv => whnf) | (refine bN ?_) | (refine bD (fun hh => ?_) (fun hh => ?_) <;> first | (exfalso; omega) | (conv => whnf)) | (refine bEq (fun hh => ?_) (fun hh => ?_) <;> first | (exfalso; omega) | (conv => whnf)) | (refine bNe (fun hh => ?_) (fun hh => ?_) <;> first | (exfalso; omega) | (conv => whnf)) | (refine (c5).callq rfl rfl (fun r (hr : r = _) => ?_); subst hr; conv => whnf) | (refine (c7).callzq rfl rfl (fun r rows (hr : r = _ ∧ rows = _) => ?_); obtain ⟨hr1, hr2⟩ := hr; subst hr1; subst hr2; refine ⟨rfl, ?_⟩; conv => whnf) | (refine wIn (by omega) ?_; conv => whnf) | (refine nI (by omega) ?_; conv => whnf)))
      refine apI (fun e he' => ?_) (by simp; omega) ?_
      · obtain ⟨s, _, rfl⟩ := List.mem_map.1 he'; exact ⟨rfl, rfl⟩
      (conv => whnf); (repeat' (first | (refine bT ?_; conv => whnf) | (refine bF ?_; conv => whnf) | (refine bN ?_) | (refine bD (fun hh => ?_) (fun hh => ?_) <;> first | (exfalso; omega) | (conv => whnf)) | (refine bEq (fun hh => ?_) (fun hh => ?_) <;> first | (exfalso; omega) | (conv => whnf)) | (refine bNe (fun hh => ?_) (fun hh => ?_) <;> first | (exfalso; omega) | (conv => whnf)) | (refine (c18).lendq rfl (fun r (hr : r = _) => ?_); subst hr; refine ⟨rfl, ?_⟩; conv => whnf) | (refine (c19).callq rfl rfl (fun r (hr : r = _) => ?_); subst hr; conv => whnf) | (refine (c20).callzq rfl rfl (fun r (hr : r = _) => ?_); subst hr; conv => whnf) | (refine (c21).callzq rfl rfl (fun r (hr : r = _) => ?_); subst hr; conv => whnf) | (refine wIn (by omega) ?_; conv => whnf) | (refine nI (by omega) ?_; conv => whnf)))
      refine c22.lendq rfl (fun r ⟨F, hF, hr⟩ => ?_); subst hr; refine ⟨rfl, ?_⟩
      (conv => whnf); (repeat' (first | (refine bT ?_; conv => whnf) | (refine bF ?_; conv => whnf) | (refine bN ?_) | (refine bD (fun hh => ?_) (fun hh => ?_) <;> first | (exfalso; omega) | (conv => whnf)) | (refine bEq (fun hh => ?_) (fun hh => ?_) <;> first | (exfalso; omega) | (conv => whnf)) | (refine bNe (fun hh => ?_) (fun hh => ?_) <;> first | (exfalso; omega) | (conv => whnf)) | (refine wIn (by omega) ?_; conv => whnf) | (refine nI (by omega) ?_; conv => whnf)))
      refine c23.callq rfl rfl (fun r ⟨F', hF', hr⟩ => ?_); subst hr
      obtain rfl := most_eq hF hF'
      (conv => whnf); (repeat' (first | (refine bT ?_; conv => whnf) | (refine bF ?_; conv => whnf) | (refine bN ?_) | (refine bD (fun hh => ?_) (fun hh => ?_) <;> first | (exfalso; omega) | (conv => whnf)) | (refine bEq (fun hh => ?_) (fun hh => ?_) <;> first | (exfalso; omega) | (conv => whnf)) | (refine bNe (fun hh => ?_) (fun hh => ?_) <;> first | (exfalso; omega) | (conv => whnf)) | (refine (c24).callzq rfl rfl (fun r (hr : r = _) => ?_); subst hr; conv => whnf) | (refine (c25).callzq rfl rfl (fun r (hr : r = _) => ?_); subst hr; conv => whnf) | (refine (t0).lendq rfl (fun r (hr : r = _) => ?_); subst hr; refine ⟨rfl, ?_⟩; conv => whnf) | (refine (t1).lendq rfl (fun r (hr : r = _) => ?_); subst hr; refine ⟨rfl, ?_⟩; conv => whnf) | (refine (g12).callq rfl rfl (fun r (hr : r = _) => ?_); subst hr; conv => whnf) | (refine wIn (by omega) ?_; conv => whnf) | (refine nI (by omega) ?_; conv => whnf)))
      all_goals rfl
    · have c22 := e22 d a (by omega) (by omega) hm
      have c23 := e23 d a (by omega) (by omega) (by omega) hm
      refine fnA 11 ok4 (by simp) ?_
      (conv => whnf); (repeat' (first | (refine bT ?_; conv => whnf) | (refine bF ?_; conv => whnf) | (refine bN ?_) | (refine bD (fun hh => ?_) (fun hh => ?_) <;> first | (exfalso; omega) | (conv => whnf)) | (refine bEq (fun hh => ?_) (fun hh => ?_) <;> first | (exfalso; omega) | (conv => whnf)) | (refine bNe (fun hh => ?_) (fun hh => ?_) <;> first | (exfalso; omega) | (conv => whnf)) | (refine (c5).callq rfl rfl (fun r (hr : r = _) => ?_); subst hr; conv => whnf) | (refine (c7).callzq rfl rfl (fun r rows (hr : r = _ ∧ rows = _) => ?_); obtain ⟨hr1, hr2⟩ := hr; subst hr1; subst hr2; refine ⟨rfl, ?_⟩; conv => whnf) | (refine wIn (by omega) ?_; conv => whnf) | (refine nI (by omega) ?_; conv => whnf)))
      refine apI (fun e he' => ?_) (by simp; omega) ?_
      · obtain ⟨s, _, rfl⟩ := List.mem_map.1 he'; exact ⟨rfl, rfl⟩
      (conv => whnf); (repeat' (first | (refine bT ?_; conv => whnf) | (refine bF ?_; conv => whnf) | (refine bN ?_) | (refine bD (fun hh => ?_) (fun hh => ?_) <;> first | (exfalso; omega) | (conv => whnf)) | (refine bEq (fun hh => ?_) (fun hh => ?_) <;> first | (exfalso; omega) | (conv => whnf)) | (refine bNe (fun hh => ?_) (fun hh => ?_) <;> first | (exfalso; omega) | (conv => whnf)) | (refine (c18).lendq rfl (fun r (hr : r = _) => ?_); subst hr; refine ⟨rfl, ?_⟩; conv => whnf) | (refine (c19).callq rfl rfl (fun r (hr : r = _) => ?_); subst hr; conv => whnf) | (refine (c20).callzq rfl rfl (fun r (hr : r = _) => ?_); subst hr; conv => whnf) | (refine (c21).callzq rfl rfl (fun r (hr : r = _) => ?_); subst hr; conv => whnf) | (refine wIn (by omega) ?_; conv => whnf) | (refine nI (by omega) ?_; conv => whnf)))
      (conv => whnf); (repeat' (first | (refine bT ?_; conv => whnf) | (refine bF ?_; conv => whnf) | (refine bN ?_) | (refine bD (fun hh => ?_) (fun hh => ?_) <;> first | (exfalso; omega) | (conv => whnf)) | (refine bEq (fun hh => ?_) (fun hh => ?_) <;> first | (exfalso; omega) | (conv => whnf)) | (refine bNe (fun hh => ?_) (fun hh => ?_) <;> first | (exfalso; omega) | (conv => whnf)) | (refine (c22).lendq rfl (fun r (hr : r = _) => ?_); subst hr; refine ⟨rfl, ?_⟩; conv => whnf) | (refine (c23).callq rfl rfl (fun r (hr : r = _) => ?_); subst hr; conv => whnf) | (refine (c24).callzq rfl rfl (fun r (hr : r = _) => ?_); subst hr; conv => whnf) | (refine (c25).callzq rfl rfl (fun r (hr : r = _) => ?_); subst hr; conv => whnf) | (refine (t0).lendq rfl (fun r (hr : r = _) => ?_); subst hr; refine ⟨rfl, ?_⟩; conv => whnf) | (refine (t1).lendq rfl (fun r (hr : r = _) => ?_); subst hr; refine ⟨rfl, ?_⟩; conv => whnf) | (refine (g12).callq rfl rfl (fun r (hr : r = _) => ?_); subst hr; conv => whnf) | (refine wIn (by omega) ?_; conv => whnf) | (refine nI (by omega) ?_; conv => whnf)))
      all_goals rfl
end Go.Proofs
