/- What each function of this program answers, proved by walking its body: further contracts that the law rests on. -/
import Derived.Test.YtpiofeaafnldfaaFns3
set_option linter.unusedSimpArgs false
set_option linter.unusedVariables false
set_option linter.unusedSectionVars false
namespace Go.Proofs
open Go.Eng
attribute [local irreducible] Go.Eng.brB Go.Eng.need Go.Eng.wrE Go.Eng.iaE Go.Eng.slE Go.Eng.apE Go.Eng.CallZ Go.Eng.CallE Go.Eng.VCallE Go.Eng.YldE Go.Eng.GoC Go.Eng.MeetsE Go.Eng.FnA Go.Eng.FnV Go.Eng.ItA
set_option maxRecDepth 100000

def c10 : CI := (.seq (.reg [⟨none, (some 3), .box 0 true (.t 0)⟩,
      ⟨none, (some 4), .box 1 true (.t 1)⟩,
      ⟨none, (some 6), .mv (.c (.bool false))⟩])
    (.seq (.seq (.reg [⟨none, (some 19), .load true 6 (.t 3)⟩,
      ⟨none, (some 20), .faddr 1 (.t 4)⟩,
      ⟨none, (some 21), .load false 1 (.t 20)⟩,
      ⟨none, (some 22), .call 15 [(.t 19), (.t 21)]⟩,
      ⟨none, (some 23), .un .not (.t 22)⟩,
      ⟨none, (some 24), .mv (.t 23)⟩,
      ⟨(some (24, false)), (some 25), .faddr 0 (.t 4)⟩,
      ⟨(some (24, false)), (some 26), .load false 1 (.t 25)⟩,
      ⟨(some (24, false)), (some 27), .bin .lss (.t 26) (.c (.int .i64 0))⟩,
      ⟨none, (some 28), .pick (.t 24) (.c (.bool true)) (.t 27)⟩,
      ⟨none, (some 29), .mv (.t 28)⟩,
      ⟨(some (29, false)), (some 30), .faddr 0 (.t 4)⟩,
      ⟨(some (29, false)), (some 31), .load false 1 (.t 30)⟩,
      ⟨(some (29, false)), (some 32), .faddr 0 (.t 3)⟩,
      ⟨(some (29, false)), (some 33), .load false 1 (.t 32)⟩,
      ⟨(some (29, false)), (some 34), .len (.t 33)⟩,
      ⟨(some (29, false)), (some 35), .bin .geq (.t 31) (.t 34)⟩,
      ⟨none, (some 36), .pick (.t 29) (.c (.bool true)) (.t 35)⟩])
    (.cond (.t 36) (.seq (.reg [⟨none, (some 37), .call 17 []⟩,
      ⟨none, (some 6), .mv (.t 37)⟩])
    .ret)
    .skip))
    (.seq (.reg [⟨none, (some 39), .load true 6 (.t 3)⟩,
      ⟨none, (some 40), .faddr 1 (.t 4)⟩,
      ⟨none, (some 41), .load false 1 (.t 40)⟩,
      ⟨none, (some 42), .call 21 [(.t 39), (.t 41)]⟩,
      ⟨none, (some 38), .mv (.t 42)⟩,
      ⟨none, (some 43), .extract 0 (.t 38)⟩,
      ⟨none, (some 44), .extract 1 (.t 38)⟩,
      ⟨none, (some 7), .alloc 2 [(.int .i64 0), (.int .i64 0)]⟩,
      ⟨none, none, .store true 2 (.t 7) (.t 43) []⟩,
      ⟨none, (some 8), .mv (.t 44)⟩])
    (.seq (.reg [⟨none, (some 9), .mv (.c (.bool true))⟩])
    (.seq (.seq (.reg [⟨none, (some 10), .mv (.c (.int .i64 0))⟩])
    (.block 0 (.loop (.seq (.seq (.reg [⟨none, (some 45), .mv (.t 10)⟩,
      ⟨none, (some 46), .faddr 0 (.t 3)⟩,
      ⟨none, (some 47), .load false 1 (.t 46)⟩,
      ⟨none, (some 48), .len (.t 47)⟩,
      ⟨none, (some 49), .bin .lss (.t 45) (.t 48)⟩])
    (.cond (.t 49) .skip
    (.exit 0)))
    (.seq (.block 1 (.seq (.reg [⟨none, (some 53), .load true 6 (.t 3)⟩,
      ⟨none, (some 54), .mv (.t 10)⟩,
      ⟨none, (some 55), .call 32 [(.t 53), (.t 54)]⟩,
      ⟨none, (some 52), .mv (.t 55)⟩,
      ⟨none, (some 56), .extract 0 (.t 52)⟩,
      ⟨none, (some 57), .extract 1 (.t 52)⟩,
      ⟨none, (some 11), .mv (.t 56)⟩,
      ⟨none, (some 12), .mv (.t 57)⟩])
    (.seq (.seq (.reg [⟨none, (some 58), .mv (.t 12)⟩,
      ⟨none, (some 59), .bin .neq (.t 58) (.c (.int .i64 0))⟩,
      ⟨none, (some 60), .mv (.t 59)⟩,
      ⟨(some (60, false)), (some 61), .mv (.t 11)⟩,
      ⟨(some (60, false)), (some 62), .bin .lss (.t 61) (.c (.int .i64 0))⟩,
      ⟨none, (some 63), .pick (.t 60) (.c (.bool true)) (.t 62)⟩,
      ⟨none, (some 64), .mv (.t 63)⟩,
      ⟨(some (64, false)), (some 65), .mv (.t 11)⟩,
      ⟨(some (64, false)), (some 66), .faddr 0 (.t 3)⟩,
      ⟨(some (64, false)), (some 67), .load false 1 (.t 66)⟩,
      ⟨(some (64, false)), (some 68), .mv (.t 10)⟩,
      ⟨(some (64, false)), (some 69), .iaddr 4 (.t 67) (.t 68)⟩,
      ⟨(some (64, false)), (some 70), .faddr 2 (.t 69)⟩,
      ⟨(some (64, false)), (some 71), .load false 1 (.t 70)⟩,
      ⟨(some (64, false)), (some 72), .len (.t 71)⟩,
      ⟨(some (64, false)), (some 73), .bin .gtr (.t 65) (.t 72)⟩,
      ⟨none, (some 74), .pick (.t 64) (.c (.bool true)) (.t 73)⟩])
    (.cond (.t 74) (.seq (.reg [⟨none, (some 6), .mv (.c (.bool false))⟩])
    .ret)
    .skip))
    (.reg [⟨none, (some 75), .mv (.t 9)⟩,
      ⟨none, (some 76), .mv (.t 75)⟩,
      ⟨(some (76, true)), (some 77), .mv (.t 11)⟩,
      ⟨(some (76, true)), (some 78), .faddr 0 (.t 3)⟩,
      ⟨(some (76, true)), (some 79), .load false 1 (.t 78)⟩,
      ⟨(some (76, true)), (some 80), .mv (.t 10)⟩,
      ⟨(some (76, true)), (some 81), .iaddr 4 (.t 79) (.t 80)⟩,
      ⟨(some (76, true)), (some 82), .faddr 3 (.t 81)⟩,
      ⟨(some (76, true)), (some 83), .load false 1 (.t 82)⟩,
      ⟨(some (76, true)), (some 84), .bin .leq (.t 77) (.t 83)⟩,
      ⟨none, (some 85), .pick (.t 76) (.t 84) (.c (.bool false))⟩,
      ⟨none, (some 9), .mv (.t 85)⟩]))))
    (.reg [⟨none, (some 50), .mv (.t 10)⟩,
      ⟨none, (some 51), .bin .add (.t 50) (.c (.int .i64 1))⟩,
      ⟨none, (some 10), .mv (.t 51)⟩]))))))
    (.seq (.seq (.reg [⟨none, (some 86), .mv (.t 8)⟩,
      ⟨none, (some 87), .bin .neq (.t 86) (.c (.int .i64 0))⟩,
      ⟨none, (some 88), .mv (.t 87)⟩,
      ⟨(some (88, true)), (some 89), .mv (.t 8)⟩,
      ⟨(some (88, true)), (some 90), .bin .neq (.t 89) (.c (.int .i64 3))⟩,
      ⟨none, (some 91), .pick (.t 88) (.t 90) (.c (.bool false))⟩,
      ⟨none, (some 92), .mv (.t 91)⟩,
      ⟨(some (92, false)), (some 93), .mv (.t 8)⟩,
      ⟨(some (92, false)), (some 94), .bin .eql (.t 93) (.c (.int .i64 0))⟩,
      ⟨(some (92, false)), (some 95), .mv (.t 9)⟩,
      ⟨(some (92, false)), (some 96), .eqb true (.t 94) (.t 95)⟩,
      ⟨none, (some 97), .pick (.t 92) (.c (.bool true)) (.t 96)⟩])
    (.cond (.t 97) (.seq (.reg [⟨none, (some 6), .mv (.c (.bool false))⟩])
    .ret)
    .skip))
    (.seq (.reg [⟨none, (some 98), .faddr 0 (.t 3)⟩,
      ⟨none, (some 99), .load false 1 (.t 98)⟩,
      ⟨none, (some 100), .faddr 0 (.t 4)⟩,
      ⟨none, (some 101), .load false 1 (.t 100)⟩,
      ⟨none, (some 102), .iaddr 4 (.t 99) (.t 101)⟩,
      ⟨none, (some 103), .faddr 2 (.t 102)⟩,
      ⟨none, (some 104), .load false 1 (.t 103)⟩,
      ⟨none, (some 13), .mv (.t 104)⟩])
    (.seq (.seq (.reg [⟨none, (some 105), .mv (.t 2)⟩,
      ⟨none, (some 106), .bin .lss (.t 105) (.c (.int .i64 0))⟩,
      ⟨none, (some 107), .mv (.t 106)⟩,
      ⟨(some (107, false)), (some 108), .mv (.t 2)⟩,
      ⟨(some (107, false)), (some 109), .mv (.t 13)⟩,
      ⟨(some (107, false)), (some 110), .len (.t 109)⟩,
      ⟨(some (107, false)), (some 111), .bin .geq (.t 108) (.t 110)⟩,
      ⟨none, (some 112), .pick (.t 107) (.c (.bool true)) (.t 111)⟩])
    (.cond (.t 112) (.seq (.reg [⟨none, (some 113), .call 17 []⟩,
      ⟨none, (some 6), .mv (.t 113)⟩])
    .ret)
    .skip))
    (.seq (.reg [⟨none, (some 114), .load true 6 (.t 3)⟩,
      ⟨none, (some 115), .callz 3 4 27 [(.t 114)] []⟩,
      ⟨none, (some 14), .alloc 7 [.nils, .nils, (.int .i64 0), .nils, .nils, (.int .i64 0)]⟩,
      ⟨none, none, .stz true 6 (.t 14) (.t 115) []⟩])
    (.seq (.reg [⟨none, (some 116), .faddr 0 (.t 14)⟩,
      ⟨none, (some 117), .load false 1 (.t 116)⟩,
      ⟨none, (some 118), .faddr 0 (.t 4)⟩,
      ⟨none, (some 119), .load false 1 (.t 118)⟩,
      ⟨none, (some 121), .mv (.t 13)⟩,
      ⟨none, (some 122), .mv (.t 2)⟩,
      ⟨none, (some 123), .sli 3 (.t 121) none (some (.t 122))⟩,
      ⟨none, (some 125), .mv (.t 13)⟩,
      ⟨none, (some 126), .mv (.t 2)⟩,
      ⟨none, (some 127), .bin .add (.t 126) (.c (.int .i64 1))⟩,
      ⟨none, (some 128), .sli 3 (.t 125) (some (.t 127)) none⟩,
      ⟨none, (some 120), .bsl 8 47 3 [] []⟩,
      ⟨none, (some 124), .apd 9 47 3 24 (.t 120) (.t 123) [(.t 116), (.t 118)]⟩,
      ⟨none, (some 129), .apd 10 47 3 24 (.t 124) (.t 128) [(.t 116), (.t 118)]⟩,
      ⟨none, (some 130), .iaddr 4 (.t 117) (.t 119)⟩,
      ⟨none, (some 131), .faddr 2 (.t 130)⟩,
      ⟨none, none, .stz false 1 (.t 131) (.t 129) []⟩])
    (.seq (.reg [⟨none, (some 133), .load true 6 (.t 3)⟩,
      ⟨none, (some 134), .faddr 0 (.t 4)⟩,
      ⟨none, (some 135), .load false 1 (.t 134)⟩,
      ⟨none, (some 136), .call 32 [(.t 133), (.t 135)]⟩,
      ⟨none, (some 132), .mv (.t 136)⟩,
      ⟨none, (some 137), .extract 0 (.t 132)⟩,
      ⟨none, (some 138), .extract 1 (.t 132)⟩,
      ⟨none, (some 15), .mv (.t 137)⟩,
      ⟨none, (some 16), .mv (.t 138)⟩])
    (.seq (.reg [⟨none, (some 140), .load true 6 (.t 14)⟩,
      ⟨none, (some 141), .faddr 0 (.t 4)⟩,
      ⟨none, (some 142), .load false 1 (.t 141)⟩,
      ⟨none, (some 143), .call 32 [(.t 140), (.t 142)]⟩,
      ⟨none, (some 139), .mv (.t 143)⟩,
      ⟨none, (some 144), .extract 0 (.t 139)⟩,
      ⟨none, (some 145), .extract 1 (.t 139)⟩,
      ⟨none, (some 17), .mv (.t 144)⟩,
      ⟨none, (some 18), .mv (.t 145)⟩])
    (.seq (.reg [⟨none, (some 146), .mv (.t 16)⟩,
      ⟨none, (some 147), .bin .eql (.t 146) (.c (.int .i64 0))⟩,
      ⟨none, (some 148), .mv (.t 147)⟩,
      ⟨(some (148, true)), (some 149), .mv (.t 18)⟩,
      ⟨(some (148, true)), (some 150), .bin .eql (.t 149) (.c (.int .i64 0))⟩,
      ⟨none, (some 151), .pick (.t 148) (.t 150) (.c (.bool false))⟩,
      ⟨none, (some 152), .mv (.t 151)⟩,
      ⟨(some (152, true)), (some 153), .mv (.t 17)⟩,
      ⟨(some (152, true)), (some 154), .mv (.t 15)⟩,
      ⟨(some (152, true)), (some 155), .bin .leq (.t 153) (.t 154)⟩,
      ⟨none, (some 156), .pick (.t 152) (.t 155) (.c (.bool false))⟩,
      ⟨none, (some 157), .mv (.t 156)⟩,
      ⟨(some (157, true)), (some 158), .mv (.t 15)⟩,
      ⟨(some (157, true)), (some 159), .mv (.t 17)⟩,
      ⟨(some (157, true)), (some 160), .bin .add (.t 159) (.c (.int .i64 1))⟩,
      ⟨(some (157, true)), (some 161), .bin .leq (.t 158) (.t 160)⟩,
      ⟨none, (some 162), .pick (.t 157) (.t 161) (.c (.bool false))⟩,
      ⟨none, (some 163), .mv (.t 162)⟩,
      ⟨(some (163, true)), (some 164), .call 17 []⟩,
      ⟨none, (some 165), .pick (.t 163) (.t 164) (.c (.bool false))⟩,
      ⟨none, (some 6), .mv (.t 165)⟩])
    .ret)))))))))))))
theorem ok10 : FnOk Try.prog 10 166 11 c10 [.t 6] := ⟨_, _, Try.func10, rfl, rfl, by kernel_rfl, by kernel_rfl⟩

theorem untrue_len (ss : List Strip) (x : Int) : untrue ss x ≤ ss.length := List.length_filter_le _ _
theorem least_bd (b : Bolt) : ∀ n, 0 ≤ b.least n ∧ b.least n ≤ b.ss.length
  | 0 => by simp [Bolt.least]
  | n + 1 => by
    have := least_bd b n
    rw [least_succ]; omega
theorem least_le (b : Bolt) : ∀ {n k : Nat}, k < n → b.least n ≤ untrue b.ss (b.lo + (k : Nat))
  | n + 1, k, h => by
    rw [least_succ]
    by_cases e : k = n
    · subst e; omega
    · have := least_le b (n := n) (k := k) (by omega); omega
theorem least_att (b : Bolt) : ∀ n, b.least n = b.ss.length ∨ ∃ k : Nat, k < n ∧ b.least n = untrue b.ss (b.lo + (k : Nat))
  | 0 => .inl (by simp [Bolt.least])
  | n + 1 => by
    rw [least_succ]
    by_cases h : (untrue b.ss (b.lo + (n : Nat)) : Int) ≤ b.least n
    · exact .inr ⟨n, by omega, by omega⟩
    · rcases least_att b n with e | ⟨k, hk, e⟩
      · exact .inl (by omega)
      · exact .inr ⟨k, by omega, by omega⟩
theorem fewest_att {b : Bolt} (hok : b.ok) : ∃ k : Nat, k < b.nt ∧ b.fewest = untrue b.ss (b.lo + (k : Nat)) := by
  have h1 : b.lo ≤ b.hi := hok.1.2.1
  have hn : 0 < b.nt := by unfold Bolt.nt; omega
  rcases least_att b b.nt with e | h
  · have h2 := least_le b hn
    have h3 := untrue_len b.ss (b.lo + (0 : Nat))
    exact ⟨0, hn, by unfold Bolt.fewest; omega⟩
  · exact h
theorem fewest_has {b : Bolt} (hok : b.ok) : b.fewest ≤ b.wrong ↔ b.nums.isEmpty = false := by
  have h1 : b.lo ≤ b.hi := hok.1.2.1
  constructor
  · intro h
    obtain ⟨k, hk, e⟩ := fewest_att hok
    have hc : b.can (b.lo + (k : Nat)) = true := by rw [can_iff b hk h1]; exact decide_eq_true (by omega)
    cases hq : b.nums with
    | nil => have := mem_nums.2 hc; rw [hq] at this; simp at this
    | cons a l => rfl
  · intro h
    cases hq : b.nums with
    | nil => rw [hq] at h; cases h
    | cons a l =>
      have hm : a ∈ b.nums := by rw [hq]; simp
      have hc := mem_nums.1 hm
      have h2 := hc
      unfold Bolt.can at h2
      simp only [Bool.and_eq_true, decide_eq_true_eq] at h2
      have hk : (a - b.lo).toNat < b.nt := by unfold Bolt.nt; omega
      have h3 := least_le b hk
      rw [show b.lo + ((a - b.lo).toNat : Int) = a from by omega] at h3
      unfold Bolt.fewest; omega
theorem untrue_erase (ss : List Strip) (x : Int) {j : Nat} (hj : j < ss.length) : untrue (ss.take j ++ ss.drop (j + 1)) x ≤ untrue ss x ∧ untrue ss x ≤ untrue (ss.take j ++ ss.drop (j + 1)) x + 1 := by
  have e : untrue ss x = untrue (ss.take j ++ ss[j] :: ss.drop (j + 1)) x := by
    rw [← List.drop_eq_getElem_cons hj, List.take_append_drop]
  rw [e]
  unfold untrue
  simp only [List.filter_append, List.filter_cons, List.length_append]
  split <;> simp <;> omega
/-- the bolt without one strip -/
def Bolt.un (b : Bolt) (j : Nat) : Bolt := { b with ss := b.ss.take j ++ b.ss.drop (j + 1) }
def Dome.un (d : Dome) (k j : Nat) (h : k < d.bs.length) : Dome := { d with bs := d.bs.set k (d.bs[k].un j) }
theorem un_bolt {b : Bolt} (hok : b.ok) {j : Nat} (hj : j < b.ss.length) : (b.un j).ok := by
  obtain ⟨h1, h2, h3, h4⟩ := hok
  refine ⟨h1, ?_, fun s hs => ?_, h4⟩
  · show (b.ss.take j ++ b.ss.drop (j + 1)).length ≤ 8
    simp; omega
  · have hs' : s ∈ b.ss.take j ++ b.ss.drop (j + 1) := hs
    rcases List.mem_append.1 hs' with h | h
    · exact h3 s (List.mem_of_mem_take h)
    · exact h3 s (List.mem_of_mem_drop h)
theorem un_ok {d : Dome} (hok : d.ok) {k j : Nat} (h : k < d.bs.length) (hj : j < d.bs[k].ss.length) : (d.un k j h).ok := by
  obtain ⟨⟨h1, h2, h3, h4⟩, hB⟩ := hok
  refine ⟨⟨by simpa [Dome.un] using h1, h2, by simpa [Dome.un] using h3, h4⟩, fun b hb => ?_⟩
  rcases List.mem_or_eq_of_mem_set hb with hb | rfl
  · exact hB b hb
  · exact un_bolt (hB _ (List.getElem_mem h)) hj
theorem fewest_un {b : Bolt} (hok : b.ok) {j : Nat} (hj : j < b.ss.length) : (b.un j).fewest ≤ b.fewest ∧ b.fewest ≤ (b.un j).fewest + 1 := by
  have hok' := un_bolt hok hj
  obtain ⟨k, hk, e⟩ := fewest_att hok
  obtain ⟨k', hk', e'⟩ := fewest_att hok'
  have h1 := least_le (b.un j) (n := (b.un j).nt) (k := k) hk
  have h2 := least_le b (n := b.nt) (k := k') hk'
  have u1 := untrue_erase b.ss (b.lo + (k : Nat)) hj
  have u2 := untrue_erase b.ss (b.lo + (k' : Nat)) hj
  have a1 : (b.un j).ss = b.ss.take j ++ b.ss.drop (j + 1) := rfl
  have a2 : (b.un j).lo = b.lo := rfl
  rw [a1, a2] at h1 e'
  unfold Bolt.fewest at *
  omega

theorem k10 (d : Dome) (a b j : Int) : FnA Try.prog 10 [.agg d.cells, .agg [.int .i64 a, .int .i64 b], .int .i64 j] (· = .bool true) := by
  have l0 : (d.bs.map Bolt.av).length = d.bs.length := by simp
  refine fnA 11 ok10 (by simp) ?_
  conv => whnf
  refine (k15 d b).callq rfl rfl (fun r hr => ?_); obtain ⟨q, rfl, hb⟩ := hr
  cases q with
  | false =>
    (conv => whnf); (repeat' (first | (refine bT ?_; conv => whnf) | (refine bF ?_; conv => whnf) | (refine bN ?_) | (refine bD (fun hh => ?_) (fun hh => ?_) <;> first | (exfalso; omega) | (conv => whnf)) | (refine bEq (fun hh => ?_) (fun hh => ?_) <;> first | (exfalso; omega) | (conv => whnf)) | (refine bNe (fun hh => ?_) (fun hh => ?_) <;> first | (exfalso; omega) | (conv => whnf)) | (refine (k17).callq rfl rfl (fun r (hr : r = _) => ?_); subst hr; conv => whnf) | (refine wIn (by omega) ?_; conv => whnf) | (refine nI (by omega) ?_; conv => whnf)))
    all_goals rfl
  | true =>
    obtain ⟨hs, hok, h0, h1⟩ := hb rfl
    by_cases ha : 0 ≤ a ∧ a < d.bs.length
    case neg =>
      (conv => whnf); (repeat' (first | (refine bT ?_; conv => whnf) | (refine bF ?_; conv => whnf) | (refine bN ?_) | (refine bD (fun hh => ?_) (fun hh => ?_) <;> first | (exfalso; omega) | (conv => whnf)) | (refine bEq (fun hh => ?_) (fun hh => ?_) <;> first | (exfalso; omega) | (conv => whnf)) | (refine bNe (fun hh => ?_) (fun hh => ?_) <;> first | (exfalso; omega) | (conv => whnf)) | (refine (k17).callq rfl rfl (fun r (hr : r = _) => ?_); subst hr; conv => whnf) | (refine wIn (by omega) ?_; conv => whnf) | (refine nI (by omega) ?_; conv => whnf)))
      all_goals first | rfl | (exfalso; omega)
    obtain ⟨k, rfl⟩ := Int.eq_ofNat_of_zero_le ha.1
    obtain ⟨r, rfl⟩ := Int.eq_ofNat_of_zero_le h0
    have hk : k < d.bs.length := by omega
    have hr : r < d.rs.length := by omega
    have hbl := hok.1.1
    have hkw : r < d.ws.length := by have := hok.1.2.2.2.2.2.2.1; omega
    have e21 : ∃ (R : Int × Int) (cd : Int), FnA Try.prog 21 [.agg d.cells, .int .i64 r] (· = .tup [.agg [.int .i64 R.1, .int .i64 R.2], .int .i64 cd]) ∧ ((cd = 0 ∧ d.has = true) ∨ (cd = 3 ∧ d.has = false)) := by
      cases hh : d.has with
      | true =>
        have hD : d.eD = 0 := by unfold Dome.eD; rw [if_pos hok, hh]; rfl
        exact ⟨_, 0, k21 d r (eD_eR hD hr) hkw, .inl ⟨rfl, rfl⟩⟩
      | false =>
        have e4 : d.eR r = 3 := by
          unfold Dome.eR Dome.noR; rw [if_pos hok, if_pos (show 0 ≤ (r : Int) ∧ (r : Int) < d.rs.length from ⟨h0, h1⟩), if_pos rfl, hh]; rfl
        have e := k21_no d r (by rw [e4]; decide)
        rw [e4] at e
        exact ⟨(0, 0), 3, e, .inr ⟨rfl, rfl⟩⟩
    obtain ⟨R, cd, e21, hcd⟩ := e21
    have hall : (d.bs.all fun b => decide (b.fewest ≤ b.wrong)) = d.has := by
      unfold Dome.has
      rw [Bool.eq_iff_iff, List.all_eq_true, List.all_eq_true]
      refine forall_congr' fun b => forall_congr' fun hb => ?_
      have := fewest_has (hok.2 b hb)
      rw [decide_eq_true_eq, this]
      simp
    (conv => whnf); (repeat' (first | (refine bT ?_; conv => whnf) | (refine bF ?_; conv => whnf) | (refine bN ?_) | (refine bD (fun hh => ?_) (fun hh => ?_) <;> first | (exfalso; omega) | (conv => whnf)) | (refine bEq (fun hh => ?_) (fun hh => ?_) <;> first | (exfalso; omega) | (conv => whnf)) | (refine bNe (fun hh => ?_) (fun hh => ?_) <;> first | (exfalso; omega) | (conv => whnf)) | (refine (e21).callq rfl rfl (fun r (hr : r = _) => ?_); subst hr; conv => whnf) | (refine wIn (by omega) ?_; conv => whnf) | (refine nI (by omega) ?_; conv => whnf)))
    refine loop_i (α := Nat × Bool) (fun n => [(10, .int .i64 n.1), (9, .bool n.2), (8, .int .i64 cd), (6, .bool false), (4, .own 1 0), (3, .own 0 0), (2, .int .i64 j)]) (fun n => [.box false d.cells, .box false [.int .i64 k, .int .i64 r], .fresh, .fresh, .fresh, .fresh, .fresh, .fresh, .fresh, .fresh, .fresh]) (fun n => n.1 ≤ d.bs.length ∧ n.2 = (d.bs.take n.1).all fun b => decide (b.fewest ≤ b.wrong)) (fun n => d.bs.length - n.1) (0, true) (meets_id (by (repeat' apply And.intro) <;> first | rfl | exact True.intro | (intro hh; cases hh))) ⟨by simp, by simp⟩ ?_
    rintro ⟨n, A⟩ ⟨hn0, hA⟩
    simp only at hn0 hA
    conv => whnf
    refine bD (fun h4 => ?_) (fun h4 => ?_)
    · have hn : n < d.bs.length := by omega
      have hg := getD_map Bolt.av d.bs n hn
      have e32 := k32 d n hok hn
      have hf := least_bd d.bs[n] d.bs[n].nt
      have hs8 := (hok.2 _ (List.getElem_mem hn)).2.1
      have hA2 : ((d.bs.take (n + 1)).all fun b => decide (b.fewest ≤ b.wrong)) = (A && decide (d.bs[n].fewest ≤ d.bs[n].wrong)) := by
        rw [List.take_succ_eq_append_getElem hn, List.all_append, ← hA]; simp
      have hfd : d.bs[n].least d.bs[n].nt = d.bs[n].fewest := rfl
      rw [hfd] at hf
      generalize d.bs[n] = bo at *
      have l5 : (bo.ss.map Strip.av).length = bo.ss.length := by simp
      cases A with
      | false =>
        (conv => whnf); (repeat' (first | (refine bT ?_; conv => whnf) | (refine bF ?_; conv => whnf) | (refine bN ?_) | (refine bD (fun hh => ?_) (fun hh => ?_) <;> first | (exfalso; omega) | (conv => whnf)) | (refine bEq (fun hh => ?_) (fun hh => ?_) <;> first | (exfalso; omega) | (conv => whnf)) | (refine bNe (fun hh => ?_) (fun hh => ?_) <;> first | (exfalso; omega) | (conv => whnf)) | (refine (e32).callq rfl rfl (fun r (hr : r = _) => ?_); subst hr; conv => whnf) | (refine wIn (by omega) ?_; conv => whnf) | (refine nI (by omega) ?_; conv => whnf)))
        refine iaI (by omega) (by omega) hg ?_
        (conv => whnf); (repeat' (first | (refine bT ?_; conv => whnf) | (refine bF ?_; conv => whnf) | (refine bN ?_) | (refine bD (fun hh => ?_) (fun hh => ?_) <;> first | (exfalso; omega) | (conv => whnf)) | (refine bEq (fun hh => ?_) (fun hh => ?_) <;> first | (exfalso; omega) | (conv => whnf)) | (refine bNe (fun hh => ?_) (fun hh => ?_) <;> first | (exfalso; omega) | (conv => whnf)) | (refine wIn (by omega) ?_; conv => whnf) | (refine nI (by omega) ?_; conv => whnf)))
        exact ⟨(n + 1, false), (meets_id (by (repeat' apply And.intro) <;> first | rfl | exact True.intro | (intro hh; cases hh))), ⟨by simp only; omega, by simp only; rw [hA2]; rfl⟩, by simp only; omega⟩
      | true =>
        (conv => whnf); (repeat' (first | (refine bT ?_; conv => whnf) | (refine bF ?_; conv => whnf) | (refine bN ?_) | (refine bD (fun hh => ?_) (fun hh => ?_) <;> first | (exfalso; omega) | (conv => whnf)) | (refine bEq (fun hh => ?_) (fun hh => ?_) <;> first | (exfalso; omega) | (conv => whnf)) | (refine bNe (fun hh => ?_) (fun hh => ?_) <;> first | (exfalso; omega) | (conv => whnf)) | (refine (e32).callq rfl rfl (fun r (hr : r = _) => ?_); subst hr; conv => whnf) | (refine wIn (by omega) ?_; conv => whnf) | (refine nI (by omega) ?_; conv => whnf)))
        refine iaI (by omega) (by omega) hg ?_
        (conv => whnf); (repeat' (first | (refine bT ?_; conv => whnf) | (refine bF ?_; conv => whnf) | (refine bN ?_) | (refine bD (fun hh => ?_) (fun hh => ?_) <;> first | (exfalso; omega) | (conv => whnf)) | (refine bEq (fun hh => ?_) (fun hh => ?_) <;> first | (exfalso; omega) | (conv => whnf)) | (refine bNe (fun hh => ?_) (fun hh => ?_) <;> first | (exfalso; omega) | (conv => whnf)) | (refine wIn (by omega) ?_; conv => whnf) | (refine nI (by omega) ?_; conv => whnf)))
        refine iaI (by omega) (by omega) hg ?_
        (conv => whnf); (repeat' (first | (refine bT ?_; conv => whnf) | (refine bF ?_; conv => whnf) | (refine bN ?_) | (refine bD (fun hh => ?_) (fun hh => ?_) <;> first | (exfalso; omega) | (conv => whnf)) | (refine bEq (fun hh => ?_) (fun hh => ?_) <;> first | (exfalso; omega) | (conv => whnf)) | (refine bNe (fun hh => ?_) (fun hh => ?_) <;> first | (exfalso; omega) | (conv => whnf)) | (refine wIn (by omega) ?_; conv => whnf) | (refine nI (by omega) ?_; conv => whnf)))
        exact ⟨(n + 1, decide (bo.fewest ≤ bo.wrong)), (meets_id (by (repeat' apply And.intro) <;> first | rfl | exact True.intro | (intro hh; cases hh))), ⟨by simp only; omega, by simp only; rw [hA2]; rfl⟩, by simp only; omega⟩
    · have hne : n = d.bs.length := by omega
      subst hne
      rw [List.take_length, hall] at hA
      have hg := getD_map Bolt.av d.bs k hk
      have e32 := k32 d k hok hk
      have hbk := hok.2 _ (List.getElem_mem hk)
      have l5 : ((d.bs[k]).ss.map Strip.av).length = d.bs[k].ss.length := by simp
      by_cases hj : 0 ≤ j ∧ j < d.bs[k].ss.length
      · obtain ⟨j', rfl⟩ := Int.eq_ofNat_of_zero_le hj.1
        have hj' : j' < d.bs[k].ss.length := by omega
        have hs8 := hbk.2.1
        have hlt : (d.bs[k].ss.take j').length ≤ 8 := by rw [List.length_take]; omega
        have hld : (d.bs[k].ss.drop (j' + 1)).length ≤ 8 := by rw [List.length_drop]; omega
        have hset : (d.un k j' hk).bs.map Bolt.av = (d.bs.map Bolt.av).set (k : Int).toNat [.int .i64 d.bs[k].lo, .int .i64 d.bs[k].hi, .isl ([] ++ (d.bs[k].ss.take j').map Strip.av ++ (d.bs[k].ss.drop (j' + 1)).map Strip.av), .int .i64 d.bs[k].wrong] := by
          rw [Int.toNat_natCast]
          show (d.bs.set k (d.bs[k].un j')).map Bolt.av = _
          rw [List.map_set]
          simp [Bolt.av, Bolt.un]
        have e32u := k32 (d.un k j' hk) k (un_ok hok hk hj') (by simpa [Dome.un] using hk)
        rw [show ((d.un k j' hk).bs[k]'(by simpa [Dome.un] using hk)).fewest = (d.bs[k].un j').fewest from by simp [Dome.un]] at e32u
        unfold Dome.cells at e32u
        rw [hset] at e32u
        have hfu := fewest_un hbk hj'
        have hfb : 0 ≤ d.bs[k].fewest ∧ d.bs[k].fewest ≤ d.bs[k].ss.length := least_bd _ _
        have hfb2 : 0 ≤ (d.bs[k].un j').fewest := (least_bd _ _).1
        have hlen3 : ∀ e ∈ d.bs[k].ss.map Strip.av, e.length = 3 := fun e he => by obtain ⟨s, _, rfl⟩ := List.mem_map.1 he; rfl
        have hsl1 : ((d.bs[k].ss.map Strip.av).take (j' : Int).toNat).drop (0 : Int).toNat = (d.bs[k].ss.take j').map Strip.av := by simp [List.map_take]
        have hsl2 : ((d.bs[k].ss.map Strip.av).take ((d.bs[k].ss.map Strip.av).length : Int).toNat).drop ((j' : Int) + 1).toNat = (d.bs[k].ss.drop (j' + 1)).map Strip.av := by
          rw [Int.toNat_natCast, List.take_length, show ((j' : Int) + 1).toNat = j' + 1 from by omega, List.map_drop]
        rcases hcd with ⟨rfl, hh⟩ | ⟨rfl, hh⟩
        · rw [hh] at hA
          subst hA
          (conv => whnf); (repeat' (first | (refine bT ?_; conv => whnf) | (refine bF ?_; conv => whnf) | (refine bN ?_) | (refine bD (fun hh => ?_) (fun hh => ?_) <;> first | (exfalso; omega) | (conv => whnf)) | (refine bEq (fun hh => ?_) (fun hh => ?_) <;> first | (exfalso; omega) | (conv => whnf)) | (refine bNe (fun hh => ?_) (fun hh => ?_) <;> first | (exfalso; omega) | (conv => whnf)) | (refine wIn (by omega) ?_; conv => whnf) | (refine nI (by omega) ?_; conv => whnf)))
          refine iaI (by omega) (by omega) hg ?_
          (conv => whnf); (repeat' (first | (refine bT ?_; conv => whnf) | (refine bF ?_; conv => whnf) | (refine bN ?_) | (refine bD (fun hh => ?_) (fun hh => ?_) <;> first | (exfalso; omega) | (conv => whnf)) | (refine bEq (fun hh => ?_) (fun hh => ?_) <;> first | (exfalso; omega) | (conv => whnf)) | (refine bNe (fun hh => ?_) (fun hh => ?_) <;> first | (exfalso; omega) | (conv => whnf)) | (refine (k27o d hs).callzq rfl rfl (fun r rows (hr : r = _ ∧ rows = _) => ?_); obtain ⟨hr1, hr2⟩ := hr; subst hr1; subst hr2; refine ⟨rfl, ?_⟩; conv => whnf) | (refine wIn (by omega) ?_; conv => whnf) | (refine nI (by omega) ?_; conv => whnf)))
          refine slI (by omega) (by omega) (by omega) hlen3 hsl1 ?_
          (conv => whnf); (repeat' (first | (refine bT ?_; conv => whnf) | (refine bF ?_; conv => whnf) | (refine bN ?_) | (refine bD (fun hh => ?_) (fun hh => ?_) <;> first | (exfalso; omega) | (conv => whnf)) | (refine bEq (fun hh => ?_) (fun hh => ?_) <;> first | (exfalso; omega) | (conv => whnf)) | (refine bNe (fun hh => ?_) (fun hh => ?_) <;> first | (exfalso; omega) | (conv => whnf)) | (refine wIn (by omega) ?_; conv => whnf) | (refine nI (by omega) ?_; conv => whnf)))
          refine slI (by omega) (by omega) (by omega) hlen3 hsl2 ?_
          (conv => whnf); (repeat' (first | (refine bT ?_; conv => whnf) | (refine bF ?_; conv => whnf) | (refine bN ?_) | (refine bD (fun hh => ?_) (fun hh => ?_) <;> first | (exfalso; omega) | (conv => whnf)) | (refine bEq (fun hh => ?_) (fun hh => ?_) <;> first | (exfalso; omega) | (conv => whnf)) | (refine bNe (fun hh => ?_) (fun hh => ?_) <;> first | (exfalso; omega) | (conv => whnf)) | (refine wIn (by omega) ?_; conv => whnf) | (refine nI (by omega) ?_; conv => whnf)))
          refine apI (one_av Strip.av 3 (fun x => ⟨rfl, rfl⟩) _) (by simp only [List.length_map, List.length_nil]; omega) ?_
          (conv => whnf); (repeat' (first | (refine bT ?_; conv => whnf) | (refine bF ?_; conv => whnf) | (refine bN ?_) | (refine bD (fun hh => ?_) (fun hh => ?_) <;> first | (exfalso; omega) | (conv => whnf)) | (refine bEq (fun hh => ?_) (fun hh => ?_) <;> first | (exfalso; omega) | (conv => whnf)) | (refine bNe (fun hh => ?_) (fun hh => ?_) <;> first | (exfalso; omega) | (conv => whnf)) | (refine wIn (by omega) ?_; conv => whnf) | (refine nI (by omega) ?_; conv => whnf)))
          refine apI (one_av Strip.av 3 (fun x => ⟨rfl, rfl⟩) _) (by simp only [List.length_append, List.length_map, List.length_nil]; omega) ?_
          (conv => whnf); (repeat' (first | (refine bT ?_; conv => whnf) | (refine bF ?_; conv => whnf) | (refine bN ?_) | (refine bD (fun hh => ?_) (fun hh => ?_) <;> first | (exfalso; omega) | (conv => whnf)) | (refine bEq (fun hh => ?_) (fun hh => ?_) <;> first | (exfalso; omega) | (conv => whnf)) | (refine bNe (fun hh => ?_) (fun hh => ?_) <;> first | (exfalso; omega) | (conv => whnf)) | (refine wIn (by omega) ?_; conv => whnf) | (refine nI (by omega) ?_; conv => whnf)))
          refine iaI (by omega) (by omega) hg ?_
          (conv => whnf); (repeat' (first | (refine bT ?_; conv => whnf) | (refine bF ?_; conv => whnf) | (refine bN ?_) | (refine bD (fun hh => ?_) (fun hh => ?_) <;> first | (exfalso; omega) | (conv => whnf)) | (refine bEq (fun hh => ?_) (fun hh => ?_) <;> first | (exfalso; omega) | (conv => whnf)) | (refine bNe (fun hh => ?_) (fun hh => ?_) <;> first | (exfalso; omega) | (conv => whnf)) | (refine (e32).callq rfl rfl (fun r (hr : r = _) => ?_); subst hr; conv => whnf) | (refine (e32u).lendq rfl (fun r (hr : r = _) => ?_); subst hr; refine ⟨rfl, ?_⟩; conv => whnf) | (refine (k17).callq rfl rfl (fun r (hr : r = _) => ?_); subst hr; conv => whnf) | (refine wIn (by omega) ?_; conv => whnf) | (refine nI (by omega) ?_; conv => whnf)))
          all_goals first | rfl | (exfalso; omega)
        · rw [hh] at hA
          subst hA
          (conv => whnf); (repeat' (first | (refine bT ?_; conv => whnf) | (refine bF ?_; conv => whnf) | (refine bN ?_) | (refine bD (fun hh => ?_) (fun hh => ?_) <;> first | (exfalso; omega) | (conv => whnf)) | (refine bEq (fun hh => ?_) (fun hh => ?_) <;> first | (exfalso; omega) | (conv => whnf)) | (refine bNe (fun hh => ?_) (fun hh => ?_) <;> first | (exfalso; omega) | (conv => whnf)) | (refine wIn (by omega) ?_; conv => whnf) | (refine nI (by omega) ?_; conv => whnf)))
          refine iaI (by omega) (by omega) hg ?_
          (conv => whnf); (repeat' (first | (refine bT ?_; conv => whnf) | (refine bF ?_; conv => whnf) | (refine bN ?_) | (refine bD (fun hh => ?_) (fun hh => ?_) <;> first | (exfalso; omega) | (conv => whnf)) | (refine bEq (fun hh => ?_) (fun hh => ?_) <;> first | (exfalso; omega) | (conv => whnf)) | (refine bNe (fun hh => ?_) (fun hh => ?_) <;> first | (exfalso; omega) | (conv => whnf)) | (refine (k27o d hs).callzq rfl rfl (fun r rows (hr : r = _ ∧ rows = _) => ?_); obtain ⟨hr1, hr2⟩ := hr; subst hr1; subst hr2; refine ⟨rfl, ?_⟩; conv => whnf) | (refine wIn (by omega) ?_; conv => whnf) | (refine nI (by omega) ?_; conv => whnf)))
          refine slI (by omega) (by omega) (by omega) hlen3 hsl1 ?_
          (conv => whnf); (repeat' (first | (refine bT ?_; conv => whnf) | (refine bF ?_; conv => whnf) | (refine bN ?_) | (refine bD (fun hh => ?_) (fun hh => ?_) <;> first | (exfalso; omega) | (conv => whnf)) | (refine bEq (fun hh => ?_) (fun hh => ?_) <;> first | (exfalso; omega) | (conv => whnf)) | (refine bNe (fun hh => ?_) (fun hh => ?_) <;> first | (exfalso; omega) | (conv => whnf)) | (refine wIn (by omega) ?_; conv => whnf) | (refine nI (by omega) ?_; conv => whnf)))
          refine slI (by omega) (by omega) (by omega) hlen3 hsl2 ?_
          (conv => whnf); (repeat' (first | (refine bT ?_; conv => whnf) | (refine bF ?_; conv => whnf) | (refine bN ?_) | (refine bD (fun hh => ?_) (fun hh => ?_) <;> first | (exfalso; omega) | (conv => whnf)) | (refine bEq (fun hh => ?_) (fun hh => ?_) <;> first | (exfalso; omega) | (conv => whnf)) | (refine bNe (fun hh => ?_) (fun hh => ?_) <;> first | (exfalso; omega) | (conv => whnf)) | (refine wIn (by omega) ?_; conv => whnf) | (refine nI (by omega) ?_; conv => whnf)))
          refine apI (one_av Strip.av 3 (fun x => ⟨rfl, rfl⟩) _) (by simp only [List.length_map, List.length_nil]; omega) ?_
          (conv => whnf); (repeat' (first | (refine bT ?_; conv => whnf) | (refine bF ?_; conv => whnf) | (refine bN ?_) | (refine bD (fun hh => ?_) (fun hh => ?_) <;> first | (exfalso; omega) | (conv => whnf)) | (refine bEq (fun hh => ?_) (fun hh => ?_) <;> first | (exfalso; omega) | (conv => whnf)) | (refine bNe (fun hh => ?_) (fun hh => ?_) <;> first | (exfalso; omega) | (conv => whnf)) | (refine wIn (by omega) ?_; conv => whnf) | (refine nI (by omega) ?_; conv => whnf)))
          refine apI (one_av Strip.av 3 (fun x => ⟨rfl, rfl⟩) _) (by simp only [List.length_append, List.length_map, List.length_nil]; omega) ?_
          (conv => whnf); (repeat' (first | (refine bT ?_; conv => whnf) | (refine bF ?_; conv => whnf) | (refine bN ?_) | (refine bD (fun hh => ?_) (fun hh => ?_) <;> first | (exfalso; omega) | (conv => whnf)) | (refine bEq (fun hh => ?_) (fun hh => ?_) <;> first | (exfalso; omega) | (conv => whnf)) | (refine bNe (fun hh => ?_) (fun hh => ?_) <;> first | (exfalso; omega) | (conv => whnf)) | (refine wIn (by omega) ?_; conv => whnf) | (refine nI (by omega) ?_; conv => whnf)))
          refine iaI (by omega) (by omega) hg ?_
          (conv => whnf); (repeat' (first | (refine bT ?_; conv => whnf) | (refine bF ?_; conv => whnf) | (refine bN ?_) | (refine bD (fun hh => ?_) (fun hh => ?_) <;> first | (exfalso; omega) | (conv => whnf)) | (refine bEq (fun hh => ?_) (fun hh => ?_) <;> first | (exfalso; omega) | (conv => whnf)) | (refine bNe (fun hh => ?_) (fun hh => ?_) <;> first | (exfalso; omega) | (conv => whnf)) | (refine (e32).callq rfl rfl (fun r (hr : r = _) => ?_); subst hr; conv => whnf) | (refine (e32u).lendq rfl (fun r (hr : r = _) => ?_); subst hr; refine ⟨rfl, ?_⟩; conv => whnf) | (refine (k17).callq rfl rfl (fun r (hr : r = _) => ?_); subst hr; conv => whnf) | (refine wIn (by omega) ?_; conv => whnf) | (refine nI (by omega) ?_; conv => whnf)))
          all_goals first | rfl | (exfalso; omega)
      · rcases hcd with ⟨rfl, hh⟩ | ⟨rfl, hh⟩
        · rw [hh] at hA
          subst hA
          (conv => whnf); (repeat' (first | (refine bT ?_; conv => whnf) | (refine bF ?_; conv => whnf) | (refine bN ?_) | (refine bD (fun hh => ?_) (fun hh => ?_) <;> first | (exfalso; omega) | (conv => whnf)) | (refine bEq (fun hh => ?_) (fun hh => ?_) <;> first | (exfalso; omega) | (conv => whnf)) | (refine bNe (fun hh => ?_) (fun hh => ?_) <;> first | (exfalso; omega) | (conv => whnf)) | (refine wIn (by omega) ?_; conv => whnf) | (refine nI (by omega) ?_; conv => whnf)))
          refine iaI (by omega) (by omega) hg ?_
          (conv => whnf); (repeat' (first | (refine bT ?_; conv => whnf) | (refine bF ?_; conv => whnf) | (refine bN ?_) | (refine bD (fun hh => ?_) (fun hh => ?_) <;> first | (exfalso; omega) | (conv => whnf)) | (refine bEq (fun hh => ?_) (fun hh => ?_) <;> first | (exfalso; omega) | (conv => whnf)) | (refine bNe (fun hh => ?_) (fun hh => ?_) <;> first | (exfalso; omega) | (conv => whnf)) | (refine (k17).callq rfl rfl (fun r (hr : r = _) => ?_); subst hr; conv => whnf) | (refine wIn (by omega) ?_; conv => whnf) | (refine nI (by omega) ?_; conv => whnf)))
          all_goals first | rfl | (exfalso; omega)
        · rw [hh] at hA
          subst hA
          (conv => whnf); (repeat' (first | (refine bT ?_; conv => whnf) | (refine bF ?_; conv => whnf) | (refine bN ?_) | (refine bD (fun hh => ?_) (fun hh => ?_) <;> first | (exfalso; omega) | (conv => whnf)) | (refine bEq (fun hh => ?_) (fun hh => ?_) <;> first | (exfalso; omega) | (conv => whnf)) | (refine bNe (fun hh => ?_) (fun hh => ?_) <;> first | (exfalso; omega) | (conv => whnf)) | (refine wIn (by omega) ?_; conv => whnf) | (refine nI (by omega) ?_; conv => whnf)))
          refine iaI (by omega) (by omega) hg ?_
          (conv => whnf); (repeat' (first | (refine bT ?_; conv => whnf) | (refine bF ?_; conv => whnf) | (refine bN ?_) | (refine bD (fun hh => ?_) (fun hh => ?_) <;> first | (exfalso; omega) | (conv => whnf)) | (refine bEq (fun hh => ?_) (fun hh => ?_) <;> first | (exfalso; omega) | (conv => whnf)) | (refine bNe (fun hh => ?_) (fun hh => ?_) <;> first | (exfalso; omega) | (conv => whnf)) | (refine (k17).callq rfl rfl (fun r (hr : r = _) => ?_); subst hr; conv => whnf) | (refine wIn (by omega) ?_; conv => whnf) | (refine nI (by omega) ?_; conv => whnf)))
          all_goals first | rfl | (exfalso; omega)
end Go.Proofs
