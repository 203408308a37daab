/- What each function of this program answers, proved by walking its body: the contracts that the law rests on, part 2. -/
import Derived.Test.YthdggpljbnmffaaGreatFns1
set_option linter.unusedSimpArgs false
set_option linter.unusedVariables false
set_option linter.unusedSectionVars false
namespace Go.Proofs
open Go.Eng
attribute [local irreducible] Go.Eng.brB Go.Eng.need Go.Eng.wrE Go.Eng.iaE Go.Eng.slE Go.Eng.apE Go.Eng.CallZ Go.Eng.CallE Go.Eng.VCallE Go.Eng.YldE Go.Eng.GoC Go.Eng.MeetsE Go.Eng.FnA Go.Eng.FnV Go.Eng.ItM
set_option maxRecDepth 100000
structure Piece where
 col : Int
 sz : Int
 let_ : Int
 mkr : Int
 br : List Int
 deriving DecidableEq
structure Wish where
 cs : List Int
 lo : Int
 hi : Int
 let_ : Int
 due : Int
 pr : Int
 deriving DecidableEq
structure Dlv where
 day : Int
 sp : Int
 many : Int
 deriving DecidableEq
structure Ord where
 w : Shop
 st : List Int
 ps : List Piece
 ws : List Wish
 ds : List Dlv
 cv : Int
def Piece.av (p : Piece) : List AV := [.int .i64 p.col, .int .i64 p.sz, .int .i64 p.let_, .int .i64 p.mkr, .isl (p.br.map jAV)]
def Wish.av (w : Wish) : List AV := [.isl (w.cs.map jAV), .int .i64 w.lo, .int .i64 w.hi, .int .i64 w.let_, .int .i64 w.due, .int .i64 w.pr]
def Dlv.av (d : Dlv) : List AV := [.int .i64 d.day, .int .i64 d.sp, .int .i64 d.many]
def Ord.cells (s : Ord) : List AV := [.isl (s.w.sps.map Spare.av), .isl (s.w.mks.map mkAV), .int .i64 s.w.cut, .isl (s.w.tb.map Trial.av), .isl (s.st.map jAV), .isl (s.ps.map Piece.av), .isl (s.ws.map Wish.av), .isl (s.ds.map Dlv.av), .int .i64 s.cv]
theorem q104 (n lo hi : Int) : FnA Tryz.prog 104 [.int .i64 n, .int .i64 lo, .int .i64 hi] (· = .bool (decide (lo <= n /\ n <= hi))) := by
 refine fnA 0 ok104 (by simp) ?_
 (conv=>whnf);(repeat'((first|apply bT|apply bF|apply bN|((first|apply bD|apply bEq|apply bNe)<;>intro hh<;>try(exfalso;omega))|refine wJ ?_|refine nJ ?_)<;>conv=>whnf))
 all_goals first | rfl | exact congrArg AV.bool (decide_eq_decide.2 (by omega)) | exact congrArg AV.bool (decide_eq_true (by omega)).symm | exact congrArg AV.bool (decide_eq_false (by omega)).symm
theorem q74 (n lo hi : Int) : FnA Tryz.prog 74 [.int .i64 n, .int .i64 lo, .int .i64 hi] (· = .bool (decide (lo <= n /\ n <= hi))) := by
 refine fnA 0 ok74 (by simp) ?_
 (conv=>whnf);(repeat'((first|apply bT|apply bF|apply bN|((first|apply bD|apply bEq|apply bNe)<;>intro hh<;>try(exfalso;omega))|refine wJ ?_|refine nJ ?_)<;>conv=>whnf))
 all_goals first | rfl | exact congrArg AV.bool (decide_eq_decide.2 (by omega)) | exact congrArg AV.bool (decide_eq_true (by omega)).symm | exact congrArg AV.bool (decide_eq_false (by omega)).symm
def mark (n : Int) : Bool := decide (0 <= n /\ n <= 99)
theorem q148 (n : Int) : FnA Tryz.prog 148 [.int .i64 n] (· = .bool (mark n)) := by
 have e := q104 n 0 99
 refine fnA 0 ok148 (by simp) ?_
 (conv=>whnf);(repeat'((first|apply bT|apply bF|apply bN|((first|apply bD|apply bEq|apply bNe)<;>intro hh<;>try(exfalso;omega))|refine e.cq rfl rfl ?_|refine wJ ?_|refine nJ ?_)<;>conv=>whnf))
 all_goals rfl
theorem q121 (n : Int) : FnA Tryz.prog 121 [.int .i64 n] (· = .bool (mark n)) := by
 have e := q104 n 0 99
 refine fnA 0 ok121 (by simp) ?_
 (conv=>whnf);(repeat'((first|apply bT|apply bF|apply bN|((first|apply bD|apply bEq|apply bNe)<;>intro hh<;>try(exfalso;omega))|refine e.cq rfl rfl ?_|refine wJ ?_|refine nJ ?_)<;>conv=>whnf))
 all_goals rfl
theorem q113 (n : Int) : FnA Tryz.prog 113 [.int .i64 n] (· = .bool (decide (0 <= n /\ n <= 10))) := by
 have e := q104 n 0 10
 refine fnA 0 ok113 (by simp) ?_
 (conv=>whnf);(repeat'((first|apply bT|apply bF|apply bN|((first|apply bD|apply bEq|apply bNe)<;>intro hh<;>try(exfalso;omega))|refine e.cq rfl rfl ?_|refine wJ ?_|refine nJ ?_)<;>conv=>whnf))
 all_goals rfl
theorem q150 (n k : Int) (hk : -1000000 <= k /\ k <= 1000000) : FnA Tryz.prog 150 [.int .i64 n, .ipt [.int .i64 k]] (· = .bool (decide (0 <= n /\ n < k))) := by
 have e := q104 n 0 (k - 1)
 refine fnA 0 ok150 (by simp) ?_
 (conv=>whnf);(repeat'((first|apply bT|apply bF|apply bN|((first|apply bD|apply bEq|apply bNe)<;>intro hh<;>try(exfalso;omega))|refine e.cq rfl rfl ?_|refine wJ ?_|refine nJ ?_)<;>conv=>whnf))
 all_goals first | rfl | exact congrArg AV.bool (decide_eq_decide.2 (by omega)) | exact congrArg AV.bool (decide_eq_true (by omega)).symm | exact congrArg AV.bool (decide_eq_false (by omega)).symm
theorem q112 {C : List AV} (p : Int -> Bool) (l : List (Int)) (hl : l.length <= 1000000) (hg : ∀ x ∈ l, FnV Tryz.prog (.fn 113 []) [AV.int .i64 x] (· = .bool (p x))) : FnA Tryz.prog 112 [.isl (l.map jAV), (.fn 113 [])] (· = .bool (l.all p)) := by
 have hL : (l.map jAV).length = l.length := by simp
 refine fnA 0 ok112 (by simp) ?_
 (conv=>whnf);(repeat'((first|apply bT|apply bF|apply bN|((first|apply bD|apply bEq|apply bNe)<;>intro hh<;>try(exfalso;omega))|refine wJ ?_|refine nJ ?_)<;>conv=>whnf))
 refine loop_i (α := Nat) (fun k => [(9, .int .i64 k), (8, .int .i64 ↑(l.map jAV).length), (7, .isl (l.map jAV)), (1, (.fn 113 []))]) (fun k => []) (fun k => k <= l.length /\ ∀ b ∈ l.take k, p b = true) (fun k => l.length - k) 0 mI ⟨by omega, by simp⟩ ?_
 rintro k ⟨h1, h2⟩
 conv => whnf
 refine bD (fun h3 => ?_) (fun h3 => ?_)
 ·have hk : k < l.length := by omega
  have hv := hg l[k] (List.getElem_mem hk)
  cases hx : p l[k] with
  | true =>
   rw [hx] at hv
   conv => whnf
   refine iaJ (getM jAV l k hk) ?_
   (conv=>whnf);(repeat'((first|apply bT|apply bF|apply bN|((first|apply bD|apply bEq|apply bNe)<;>intro hh<;>try(exfalso;omega))|(refine hv.vcallq rfl rfl rfl rfl (fun r (hr : r = _) => ?_); subst hr)|refine wJ ?_|refine nJ ?_)<;>conv=>whnf))
   exact ⟨k + 1, mI, ⟨by omega, take_all hk h2 hx⟩, by omega⟩
  | false =>
   rw [hx] at hv
   rw [all_not hk hx]
   conv => whnf
   refine iaJ (getM jAV l k hk) ?_
   (conv=>whnf);(repeat'((first|apply bT|apply bF|apply bN|((first|apply bD|apply bEq|apply bNe)<;>intro hh<;>try(exfalso;omega))|(refine hv.vcallq rfl rfl rfl rfl (fun r (hr : r = _) => ?_); subst hr)|refine wJ ?_|refine nJ ?_)<;>conv=>whnf))
   all_goals rfl
 ·have : k = l.length := by omega
  subst this
  rw [List.take_length] at h2
  rw [all_yes h2]
  (conv=>whnf);(repeat'((first|apply bT|apply bF|apply bN|((first|apply bD|apply bEq|apply bNe)<;>intro hh<;>try(exfalso;omega))|refine wJ ?_|refine nJ ?_)<;>conv=>whnf))
  all_goals rfl
theorem q112m {C : List AV} (p : Int -> Bool) (l : List (Int)) (hl : l.length <= 1000000) (hg : ∀ x ∈ l, FnV Tryz.prog (.fn 148 []) [AV.int .i64 x] (· = .bool (p x))) : FnA Tryz.prog 112 [.isl (l.map jAV), (.fn 148 [])] (· = .bool (l.all p)) := by
 have hL : (l.map jAV).length = l.length := by simp
 refine fnA 0 ok112 (by simp) ?_
 (conv=>whnf);(repeat'((first|apply bT|apply bF|apply bN|((first|apply bD|apply bEq|apply bNe)<;>intro hh<;>try(exfalso;omega))|refine wJ ?_|refine nJ ?_)<;>conv=>whnf))
 refine loop_i (α := Nat) (fun k => [(9, .int .i64 k), (8, .int .i64 ↑(l.map jAV).length), (7, .isl (l.map jAV)), (1, (.fn 148 []))]) (fun k => []) (fun k => k <= l.length /\ ∀ b ∈ l.take k, p b = true) (fun k => l.length - k) 0 mI ⟨by omega, by simp⟩ ?_
 rintro k ⟨h1, h2⟩
 conv => whnf
 refine bD (fun h3 => ?_) (fun h3 => ?_)
 ·have hk : k < l.length := by omega
  have hv := hg l[k] (List.getElem_mem hk)
  cases hx : p l[k] with
  | true =>
   rw [hx] at hv
   conv => whnf
   refine iaJ (getM jAV l k hk) ?_
   (conv=>whnf);(repeat'((first|apply bT|apply bF|apply bN|((first|apply bD|apply bEq|apply bNe)<;>intro hh<;>try(exfalso;omega))|(refine hv.vcallq rfl rfl rfl rfl (fun r (hr : r = _) => ?_); subst hr)|refine wJ ?_|refine nJ ?_)<;>conv=>whnf))
   exact ⟨k + 1, mI, ⟨by omega, take_all hk h2 hx⟩, by omega⟩
  | false =>
   rw [hx] at hv
   rw [all_not hk hx]
   conv => whnf
   refine iaJ (getM jAV l k hk) ?_
   (conv=>whnf);(repeat'((first|apply bT|apply bF|apply bN|((first|apply bD|apply bEq|apply bNe)<;>intro hh<;>try(exfalso;omega))|(refine hv.vcallq rfl rfl rfl rfl (fun r (hr : r = _) => ?_); subst hr)|refine wJ ?_|refine nJ ?_)<;>conv=>whnf))
   all_goals rfl
 ·have : k = l.length := by omega
  subst this
  rw [List.take_length] at h2
  rw [all_yes h2]
  (conv=>whnf);(repeat'((first|apply bT|apply bF|apply bN|((first|apply bD|apply bEq|apply bNe)<;>intro hh<;>try(exfalso;omega))|refine wJ ?_|refine nJ ?_)<;>conv=>whnf))
  all_goals rfl
theorem q112s {C : List AV} (p : Int -> Bool) (l : List (Int)) (hl : l.length <= 1000000) (hg : ∀ x ∈ l, FnV Tryz.prog (.fn 150 [.ipt C]) [AV.int .i64 x] (· = .bool (p x))) : FnA Tryz.prog 112 [.isl (l.map jAV), (.fn 150 [.ipt C])] (· = .bool (l.all p)) := by
 have hL : (l.map jAV).length = l.length := by simp
 refine fnA 0 ok112 (by simp) ?_
 (conv=>whnf);(repeat'((first|apply bT|apply bF|apply bN|((first|apply bD|apply bEq|apply bNe)<;>intro hh<;>try(exfalso;omega))|refine wJ ?_|refine nJ ?_)<;>conv=>whnf))
 refine loop_i (α := Nat) (fun k => [(9, .int .i64 k), (8, .int .i64 ↑(l.map jAV).length), (7, .isl (l.map jAV)), (1, (.fn 150 [.ipt C]))]) (fun k => []) (fun k => k <= l.length /\ ∀ b ∈ l.take k, p b = true) (fun k => l.length - k) 0 mI ⟨by omega, by simp⟩ ?_
 rintro k ⟨h1, h2⟩
 conv => whnf
 refine bD (fun h3 => ?_) (fun h3 => ?_)
 ·have hk : k < l.length := by omega
  have hv := hg l[k] (List.getElem_mem hk)
  cases hx : p l[k] with
  | true =>
   rw [hx] at hv
   conv => whnf
   refine iaJ (getM jAV l k hk) ?_
   (conv=>whnf);(repeat'((first|apply bT|apply bF|apply bN|((first|apply bD|apply bEq|apply bNe)<;>intro hh<;>try(exfalso;omega))|(refine hv.vcallq rfl rfl rfl rfl (fun r (hr : r = _) => ?_); subst hr)|refine wJ ?_|refine nJ ?_)<;>conv=>whnf))
   exact ⟨k + 1, mI, ⟨by omega, take_all hk h2 hx⟩, by omega⟩
  | false =>
   rw [hx] at hv
   rw [all_not hk hx]
   conv => whnf
   refine iaJ (getM jAV l k hk) ?_
   (conv=>whnf);(repeat'((first|apply bT|apply bF|apply bN|((first|apply bD|apply bEq|apply bNe)<;>intro hh<;>try(exfalso;omega))|(refine hv.vcallq rfl rfl rfl rfl (fun r (hr : r = _) => ?_); subst hr)|refine wJ ?_|refine nJ ?_)<;>conv=>whnf))
   all_goals rfl
 ·have : k = l.length := by omega
  subst this
  rw [List.take_length] at h2
  rw [all_yes h2]
  (conv=>whnf);(repeat'((first|apply bT|apply bF|apply bN|((first|apply bD|apply bEq|apply bNe)<;>intro hh<;>try(exfalso;omega))|refine wJ ?_|refine nJ ?_)<;>conv=>whnf))
  all_goals rfl
theorem q114 {C : List AV} (p : Piece -> Bool) (l : List (Piece)) (hl : l.length <= 1000000) (hg : ∀ x ∈ l, FnV Tryz.prog (.fn 115 [.ipt C]) [.agg (Piece.av x)] (· = .bool (p x))) : FnA Tryz.prog 114 [.isl (l.map Piece.av), (.fn 115 [.ipt C])] (· = .bool (l.all p)) := by
 have hL : (l.map Piece.av).length = l.length := by simp
 refine fnA 1 ok114 (by simp) ?_
 (conv=>whnf);(repeat'((first|apply bT|apply bF|apply bN|((first|apply bD|apply bEq|apply bNe)<;>intro hh<;>try(exfalso;omega))|refine wJ ?_|refine nJ ?_)<;>conv=>whnf))
 refine loop_i (α := Nat) (fun k => [(9, .int .i64 k), (8, .int .i64 ↑(l.map Piece.av).length), (7, .isl (l.map Piece.av)), (1, (.fn 115 [.ipt C]))]) (fun k => [.fresh]) (fun k => k <= l.length /\ ∀ b ∈ l.take k, p b = true) (fun k => l.length - k) 0 mI ⟨by omega, by simp⟩ ?_
 rintro k ⟨h1, h2⟩
 conv => whnf
 refine bD (fun h3 => ?_) (fun h3 => ?_)
 ·have hk : k < l.length := by omega
  have hv := hg l[k] (List.getElem_mem hk)
  cases hx : p l[k] with
  | true =>
   rw [hx] at hv
   conv => whnf
   refine iaJ (getM Piece.av l k hk) ?_
   (conv=>whnf);(repeat'((first|apply bT|apply bF|apply bN|((first|apply bD|apply bEq|apply bNe)<;>intro hh<;>try(exfalso;omega))|(refine hv.vcallq rfl rfl rfl rfl (fun r (hr : r = _) => ?_); subst hr)|refine wJ ?_|refine nJ ?_)<;>conv=>whnf))
   exact ⟨k + 1, mI, ⟨by omega, take_all hk h2 hx⟩, by omega⟩
  | false =>
   rw [hx] at hv
   rw [all_not hk hx]
   conv => whnf
   refine iaJ (getM Piece.av l k hk) ?_
   (conv=>whnf);(repeat'((first|apply bT|apply bF|apply bN|((first|apply bD|apply bEq|apply bNe)<;>intro hh<;>try(exfalso;omega))|(refine hv.vcallq rfl rfl rfl rfl (fun r (hr : r = _) => ?_); subst hr)|refine wJ ?_|refine nJ ?_)<;>conv=>whnf))
   all_goals rfl
 ·have : k = l.length := by omega
  subst this
  rw [List.take_length] at h2
  rw [all_yes h2]
  (conv=>whnf);(repeat'((first|apply bT|apply bF|apply bN|((first|apply bD|apply bEq|apply bNe)<;>intro hh<;>try(exfalso;omega))|refine wJ ?_|refine nJ ?_)<;>conv=>whnf))
  all_goals rfl
theorem q117 {C : List AV} (p : Wish -> Bool) (l : List (Wish)) (hl : l.length <= 1000000) (hg : ∀ x ∈ l, FnV Tryz.prog (.fn 118 []) [.agg (Wish.av x)] (· = .bool (p x))) : FnA Tryz.prog 117 [.isl (l.map Wish.av), (.fn 118 [])] (· = .bool (l.all p)) := by
 have hL : (l.map Wish.av).length = l.length := by simp
 refine fnA 1 ok117 (by simp) ?_
 (conv=>whnf);(repeat'((first|apply bT|apply bF|apply bN|((first|apply bD|apply bEq|apply bNe)<;>intro hh<;>try(exfalso;omega))|refine wJ ?_|refine nJ ?_)<;>conv=>whnf))
 refine loop_i (α := Nat) (fun k => [(9, .int .i64 k), (8, .int .i64 ↑(l.map Wish.av).length), (7, .isl (l.map Wish.av)), (1, (.fn 118 []))]) (fun k => [.fresh]) (fun k => k <= l.length /\ ∀ b ∈ l.take k, p b = true) (fun k => l.length - k) 0 mI ⟨by omega, by simp⟩ ?_
 rintro k ⟨h1, h2⟩
 conv => whnf
 refine bD (fun h3 => ?_) (fun h3 => ?_)
 ·have hk : k < l.length := by omega
  have hv := hg l[k] (List.getElem_mem hk)
  cases hx : p l[k] with
  | true =>
   rw [hx] at hv
   conv => whnf
   refine iaJ (getM Wish.av l k hk) ?_
   (conv=>whnf);(repeat'((first|apply bT|apply bF|apply bN|((first|apply bD|apply bEq|apply bNe)<;>intro hh<;>try(exfalso;omega))|(refine hv.vcallq rfl rfl rfl rfl (fun r (hr : r = _) => ?_); subst hr)|refine wJ ?_|refine nJ ?_)<;>conv=>whnf))
   exact ⟨k + 1, mI, ⟨by omega, take_all hk h2 hx⟩, by omega⟩
  | false =>
   rw [hx] at hv
   rw [all_not hk hx]
   conv => whnf
   refine iaJ (getM Wish.av l k hk) ?_
   (conv=>whnf);(repeat'((first|apply bT|apply bF|apply bN|((first|apply bD|apply bEq|apply bNe)<;>intro hh<;>try(exfalso;omega))|(refine hv.vcallq rfl rfl rfl rfl (fun r (hr : r = _) => ?_); subst hr)|refine wJ ?_|refine nJ ?_)<;>conv=>whnf))
   all_goals rfl
 ·have : k = l.length := by omega
  subst this
  rw [List.take_length] at h2
  rw [all_yes h2]
  (conv=>whnf);(repeat'((first|apply bT|apply bF|apply bN|((first|apply bD|apply bEq|apply bNe)<;>intro hh<;>try(exfalso;omega))|refine wJ ?_|refine nJ ?_)<;>conv=>whnf))
  all_goals rfl
theorem q119 {C : List AV} (p : Dlv -> Bool) (l : List (Dlv)) (hl : l.length <= 1000000) (hg : ∀ x ∈ l, FnV Tryz.prog (.fn 120 [.ipt C]) [.agg (Dlv.av x)] (· = .bool (p x))) : FnA Tryz.prog 119 [.isl (l.map Dlv.av), (.fn 120 [.ipt C])] (· = .bool (l.all p)) := by
 have hL : (l.map Dlv.av).length = l.length := by simp
 refine fnA 1 ok119 (by simp) ?_
 (conv=>whnf);(repeat'((first|apply bT|apply bF|apply bN|((first|apply bD|apply bEq|apply bNe)<;>intro hh<;>try(exfalso;omega))|refine wJ ?_|refine nJ ?_)<;>conv=>whnf))
 refine loop_i (α := Nat) (fun k => [(9, .int .i64 k), (8, .int .i64 ↑(l.map Dlv.av).length), (7, .isl (l.map Dlv.av)), (1, (.fn 120 [.ipt C]))]) (fun k => [.fresh]) (fun k => k <= l.length /\ ∀ b ∈ l.take k, p b = true) (fun k => l.length - k) 0 mI ⟨by omega, by simp⟩ ?_
 rintro k ⟨h1, h2⟩
 conv => whnf
 refine bD (fun h3 => ?_) (fun h3 => ?_)
 ·have hk : k < l.length := by omega
  have hv := hg l[k] (List.getElem_mem hk)
  cases hx : p l[k] with
  | true =>
   rw [hx] at hv
   conv => whnf
   refine iaJ (getM Dlv.av l k hk) ?_
   (conv=>whnf);(repeat'((first|apply bT|apply bF|apply bN|((first|apply bD|apply bEq|apply bNe)<;>intro hh<;>try(exfalso;omega))|(refine hv.vcallq rfl rfl rfl rfl (fun r (hr : r = _) => ?_); subst hr)|refine wJ ?_|refine nJ ?_)<;>conv=>whnf))
   exact ⟨k + 1, mI, ⟨by omega, take_all hk h2 hx⟩, by omega⟩
  | false =>
   rw [hx] at hv
   rw [all_not hk hx]
   conv => whnf
   refine iaJ (getM Dlv.av l k hk) ?_
   (conv=>whnf);(repeat'((first|apply bT|apply bF|apply bN|((first|apply bD|apply bEq|apply bNe)<;>intro hh<;>try(exfalso;omega))|(refine hv.vcallq rfl rfl rfl rfl (fun r (hr : r = _) => ?_); subst hr)|refine wJ ?_|refine nJ ?_)<;>conv=>whnf))
   all_goals rfl
 ·have : k = l.length := by omega
  subst this
  rw [List.take_length] at h2
  rw [all_yes h2]
  (conv=>whnf);(repeat'((first|apply bT|apply bF|apply bN|((first|apply bD|apply bEq|apply bNe)<;>intro hh<;>try(exfalso;omega))|refine wJ ?_|refine nJ ?_)<;>conv=>whnf))
  all_goals rfl
theorem q149 (l : List Int) (hl : l.length <= 1000000) : FnA Tryz.prog 149 [.isl (l.map jAV)] (· = .bool (ascB l)) := by
 have hL : (l.map jAV).length = l.length := by simp
 refine fnA 0 ok149 (by simp) ?_
 (conv=>whnf);(repeat'((first|apply bT|apply bF|apply bN|((first|apply bD|apply bEq|apply bNe)<;>intro hh<;>try(exfalso;omega))|refine wJ ?_|refine nJ ?_)<;>conv=>whnf))
 refine loop_i (α := Nat) (fun k => [(7, .int .i64 k), (6, .int .i64 (↑(l.map jAV).length - 1)), (0, .isl (l.map jAV))]) (fun k => []) (fun k => (k : Int) <= l.length /\ ∀ i, i < k -> i + 1 < l.length -> l.getD i 0 < l.getD (i + 1) 0) (fun k => l.length - k) 0 mI ⟨by omega, by omega⟩ ?_
 rintro k ⟨h1, h2⟩
 conv => whnf
 refine bD (fun h3 => ?_) (fun h3 => ?_)
 ·have hk : k + 1 < l.length := by omega
  have g1 := jget (l := l) (i := k) (by omega)
  have g2 := jget (l := l) (i := k + 1) (by omega)
  by_cases hx : l.getD k 0 < l.getD (k + 1) 0
  ·(conv=>whnf);(repeat'((first|apply bT|apply bF|apply bN|((first|apply bD|apply bEq|apply bNe)<;>intro hh<;>try(exfalso;omega))|refine iaJ g1 ?_|refine iaJ g2 ?_|refine wJ ?_|refine nJ ?_)<;>conv=>whnf))
   refine ⟨k + 1, mI, ⟨by omega, fun i hi hi2 => ?_⟩, by omega⟩
   by_cases e : i = k
   ·rw [e]; exact hx
   ·exact h2 i (by omega) hi2
  ·rw [ascB_no hk hx]
   (conv=>whnf);(repeat'((first|apply bT|apply bF|apply bN|((first|apply bD|apply bEq|apply bNe)<;>intro hh<;>try(exfalso;omega))|refine iaJ g1 ?_|refine iaJ g2 ?_|refine wJ ?_|refine nJ ?_)<;>conv=>whnf))
   all_goals rfl
 ·rw [ascB_iff.2 fun i hi => h2 i (by omega) hi]
  (conv=>whnf);(repeat'((first|apply bT|apply bF|apply bN|((first|apply bD|apply bEq|apply bNe)<;>intro hh<;>try(exfalso;omega))|refine wJ ?_|refine nJ ?_)<;>conv=>whnf))
  all_goals rfl
def okPi (w : Shop) (p : Piece) : Bool := mark p.col && mark p.sz && mark p.let_ && w.isMk p.mkr && ascB p.br && p.br.all (fun k => decide (0 <= k /\ k < (w.slots p.mkr).length))
theorem q116 (w : Shop) (p : Piece) (hp : p.br.length <= 1000000) (hw : w.mks.length <= 1000000) (hm : ∀ x ∈ w.mks, x.length <= 1000000) : FnA Tryz.prog 116 [.agg w.cells, .agg p.av] (· = .bool (okPi w p)) := by
 have hL : (w.mks.map mkAV).length = w.mks.length := by simp
 have hL2 : ((w.slots p.mkr).map Slot.av).length = (w.slots p.mkr).length := by simp
 have e1 := q148 p.col
 have e2 := q148 p.sz
 have e3 := q148 p.let_
 have e4 := q104 p.mkr 0 (↑(w.mks.map mkAV).length - 1)
 have h4 : decide (0 <= p.mkr /\ p.mkr <= ↑(w.mks.map mkAV).length - 1) = w.isMk p.mkr := by unfold Shop.isMk; exact decide_eq_decide.2 (by omega)
 rw [h4] at e4
 clear h4
 cases b4 : w.isMk p.mkr with
 | false =>
  have h0 : okPi w p = false := by unfold okPi; rw [b4]; simp
  rw [h0]
  rw [b4] at e4
  refine fnA 3 ok116 (by simp) ?_
  cases b1 : mark p.col <;> cases b2 : mark p.sz <;> cases b3 : mark p.let_ <;> (try rw [b1] at e1) <;> (try rw [b2] at e2) <;> (try rw [b3] at e3)
  all_goals
   (conv=>whnf);(repeat'((first|apply bT|apply bF|apply bN|((first|apply bD|apply bEq|apply bNe)<;>intro hh<;>try(exfalso;omega))|refine e1.cq rfl rfl ?_|refine e2.cq rfl rfl ?_|refine e3.cq rfl rfl ?_|refine e4.cq rfl rfl ?_|refine wJ ?_|refine nJ ?_)<;>conv=>whnf))
   all_goals rfl
 | true =>
  rw [b4] at e4
  have h2 := isMk_iff.1 b4
  have hS : (w.slots p.mkr).length <= 1000000 := by
   have : p.mkr.toNat < w.mks.length := by omega
   have e : w.slots p.mkr = w.mks[p.mkr.toNat] := by unfold Shop.slots; simp [List.getD_eq_getElem?_getD, this]
   rw [e]; exact hm _ (List.getElem_mem this)
  have g1 := mkget b4
  have e5 := q149 p.br hp
  have e6 := q112s (C := [.int .i64 ↑((w.slots p.mkr).map Slot.av).length]) (fun k => decide (0 <= k /\ k < ↑((w.slots p.mkr).map Slot.av).length)) p.br hp (fun n _ => fnV_of bd150 (q150 n _ (by omega)))
  have h0 : okPi w p = (mark p.col && mark p.sz && mark p.let_ && (ascB p.br && p.br.all (fun k => decide (0 <= k /\ k < ((↑((w.slots p.mkr).map Slot.av).length : Nat) : Int))))) := by unfold okPi; rw [b4, hL2]; simp [Bool.and_assoc]
  rw [h0]
  generalize p.br.all (fun k => decide (0 <= k /\ k < ((↑((w.slots p.mkr).map Slot.av).length : Nat) : Int))) = b6 at *
  generalize ascB p.br = b5 at *
  refine fnA 3 ok116 (by simp) ?_
  cases b1 : mark p.col <;> cases b2 : mark p.sz <;> cases b3 : mark p.let_ <;> cases b5 <;> (try rw [b1] at e1) <;> (try rw [b2] at e2) <;> (try rw [b3] at e3)
  all_goals
   (conv=>whnf);(repeat'((first|apply bT|apply bF|apply bN|((first|apply bD|apply bEq|apply bNe)<;>intro hh<;>try(exfalso;omega))|refine e1.cq rfl rfl ?_|refine e2.cq rfl rfl ?_|refine e3.cq rfl rfl ?_|refine e4.cq rfl rfl ?_|refine e5.cq rfl rfl ?_|refine e6.lq rfl rfl ?_|refine iaJ g1 ?_|refine wJ ?_|refine nJ ?_)<;>conv=>whnf))
   all_goals rfl
theorem q115 (s : Ord) (p : Piece) (hp : p.br.length <= 1000000) (hw : s.w.mks.length <= 1000000) (hm : ∀ x ∈ s.w.mks, x.length <= 1000000) : FnA Tryz.prog 115 [.agg p.av, .ipt s.cells] (· = .bool (okPi s.w p)) := by
 have e := q116 s.w p hp hw hm
 refine fnA 1 ok115 (by simp) ?_
 (conv=>whnf);(repeat'((first|apply bT|apply bF|apply bN|((first|apply bD|apply bEq|apply bNe)<;>intro hh<;>try(exfalso;omega))|refine e.cq rfl rfl ?_|refine wJ ?_|refine nJ ?_)<;>conv=>whnf))
 all_goals rfl
def okDl (n : Nat) (d : Dlv) : Bool := mark d.day && decide (0 <= d.sp /\ d.sp < n) && decide (1 <= d.many /\ d.many <= 10)
theorem q120 (s : Ord) (d : Dlv) (hs : s.st.length <= 1000000) : FnA Tryz.prog 120 [.agg d.av, .ipt s.cells] (· = .bool (okDl s.st.length d)) := by
 have hL : (s.st.map jAV).length = s.st.length := by simp
 have e1 := q121 d.day
 have e2 := q104 d.sp 0 (↑(s.st.map jAV).length - 1)
 have e3 := q104 d.many 1 10
 have h2 : decide (0 <= d.sp /\ d.sp <= ↑(s.st.map jAV).length - 1) = decide (0 <= d.sp /\ d.sp < s.st.length) := decide_eq_decide.2 (by omega)
 rw [h2] at e2
 unfold okDl
 generalize mark d.day = b1 at *
 generalize decide (0 <= d.sp /\ d.sp < s.st.length) = b2 at *
 refine fnA 1 ok120 (by simp) ?_
 cases b1 <;> cases b2
 all_goals
  (conv=>whnf);(repeat'((first|apply bT|apply bF|apply bN|((first|apply bD|apply bEq|apply bNe)<;>intro hh<;>try(exfalso;omega))|refine e1.cq rfl rfl ?_|refine e2.cq rfl rfl ?_|refine e3.cq rfl rfl ?_|refine wJ ?_|refine nJ ?_)<;>conv=>whnf))
  all_goals rfl
def okWi (w : Wish) : Bool := decide (1 <= w.cs.length /\ w.cs.length <= 8) && w.cs.all mark && ascB w.cs && decide (0 <= w.lo /\ w.lo <= w.hi) && mark w.hi && mark w.let_ && mark w.due && decide (0 <= w.pr /\ w.pr <= 100000)
theorem q118 (w : Wish) (hw : w.cs.length <= 1000000) : FnA Tryz.prog 118 [.agg w.av] (· = .bool (okWi w)) := by
 have hL : (w.cs.map jAV).length = w.cs.length := by simp
 have e1 := q104 ↑(w.cs.map jAV).length 1 8
 have h1 : decide ((1 : Int) <= ↑(w.cs.map jAV).length /\ (↑(w.cs.map jAV).length : Int) <= 8) = decide (1 <= w.cs.length /\ w.cs.length <= 8) := decide_eq_decide.2 (by omega)
 rw [h1] at e1
 clear h1
 have e2 := q112m (C := []) mark w.cs hw (fun n _ => fnV_of bd148 (q148 n))
 have e3 := q149 w.cs hw
 have e4 := q104 w.lo 0 w.hi
 have e5 := q148 w.hi
 have e6 := q148 w.let_
 have e7 := q121 w.due
 have e8 := q104 w.pr 0 100000
 unfold okWi
 generalize decide (1 <= w.cs.length /\ w.cs.length <= 8) = b1 at *
 generalize w.cs.all mark = b2 at *
 generalize ascB w.cs = b3 at *
 generalize decide (0 <= w.lo /\ w.lo <= w.hi) = b4 at *
 generalize mark w.hi = b5 at *
 generalize mark w.let_ = b6 at *
 generalize mark w.due = b7 at *
 generalize decide (0 <= w.pr /\ w.pr <= 100000) = b8 at *
 refine fnA 1 ok118 (by simp) ?_
 cases b1
 ·(conv=>whnf);(repeat'((first|apply bT|apply bF|apply bN|((first|apply bD|apply bEq|apply bNe)<;>intro hh<;>try(exfalso;omega))|refine e1.cq rfl rfl ?_|refine wJ ?_|refine nJ ?_)<;>conv=>whnf))
  all_goals rfl
 cases b2
 ·(conv=>whnf);(repeat'((first|apply bT|apply bF|apply bN|((first|apply bD|apply bEq|apply bNe)<;>intro hh<;>try(exfalso;omega))|refine e1.cq rfl rfl ?_|refine e2.cq rfl rfl ?_|refine wJ ?_|refine nJ ?_)<;>conv=>whnf))
  all_goals rfl
 cases b3
 ·(conv=>whnf);(repeat'((first|apply bT|apply bF|apply bN|((first|apply bD|apply bEq|apply bNe)<;>intro hh<;>try(exfalso;omega))|refine e1.cq rfl rfl ?_|refine e2.cq rfl rfl ?_|refine e3.cq rfl rfl ?_|refine wJ ?_|refine nJ ?_)<;>conv=>whnf))
  all_goals rfl
 cases b4
 ·(conv=>whnf);(repeat'((first|apply bT|apply bF|apply bN|((first|apply bD|apply bEq|apply bNe)<;>intro hh<;>try(exfalso;omega))|refine e1.cq rfl rfl ?_|refine e2.cq rfl rfl ?_|refine e3.cq rfl rfl ?_|refine e4.cq rfl rfl ?_|refine wJ ?_|refine nJ ?_)<;>conv=>whnf))
  all_goals rfl
 cases b5
 ·(conv=>whnf);(repeat'((first|apply bT|apply bF|apply bN|((first|apply bD|apply bEq|apply bNe)<;>intro hh<;>try(exfalso;omega))|refine e1.cq rfl rfl ?_|refine e2.cq rfl rfl ?_|refine e3.cq rfl rfl ?_|refine e4.cq rfl rfl ?_|refine e5.cq rfl rfl ?_|refine wJ ?_|refine nJ ?_)<;>conv=>whnf))
  all_goals rfl
 cases b6
 ·(conv=>whnf);(repeat'((first|apply bT|apply bF|apply bN|((first|apply bD|apply bEq|apply bNe)<;>intro hh<;>try(exfalso;omega))|refine e1.cq rfl rfl ?_|refine e2.cq rfl rfl ?_|refine e3.cq rfl rfl ?_|refine e4.cq rfl rfl ?_|refine e5.cq rfl rfl ?_|refine e6.cq rfl rfl ?_|refine wJ ?_|refine nJ ?_)<;>conv=>whnf))
  all_goals rfl
 cases b7
 ·(conv=>whnf);(repeat'((first|apply bT|apply bF|apply bN|((first|apply bD|apply bEq|apply bNe)<;>intro hh<;>try(exfalso;omega))|refine e1.cq rfl rfl ?_|refine e2.cq rfl rfl ?_|refine e3.cq rfl rfl ?_|refine e4.cq rfl rfl ?_|refine e5.cq rfl rfl ?_|refine e6.cq rfl rfl ?_|refine e7.cq rfl rfl ?_|refine wJ ?_|refine nJ ?_)<;>conv=>whnf))
  all_goals rfl
 (conv=>whnf);(repeat'((first|apply bT|apply bF|apply bN|((first|apply bD|apply bEq|apply bNe)<;>intro hh<;>try(exfalso;omega))|refine e1.cq rfl rfl ?_|refine e2.cq rfl rfl ?_|refine e3.cq rfl rfl ?_|refine e4.cq rfl rfl ?_|refine e5.cq rfl rfl ?_|refine e6.cq rfl rfl ?_|refine e7.cq rfl rfl ?_|refine e8.cq rfl rfl ?_|refine wJ ?_|refine nJ ?_)<;>conv=>whnf))
 all_goals rfl
def okOrd (s : Ord) : Bool := decide (s.st.length = s.w.sps.length) && s.st.all (fun n => decide (0 <= n /\ n <= 10)) && decide (s.ps.length <= 8) && s.ps.all (okPi s.w) && decide (s.ws.length <= 6) && s.ws.all okWi && decide (s.ds.length <= 8) && s.ds.all (okDl s.st.length) && mark s.cv
structure BigO (s : Ord) : Prop where
 w : Big s.w
 st : s.st.length <= 1000000
 ps : s.ps.length <= 1000000
 ws : s.ws.length <= 1000000
 ds : s.ds.length <= 1000000
 br : ∀ p ∈ s.ps, p.br.length <= 1000000
 cs : ∀ w ∈ s.ws, w.cs.length <= 1000000
theorem q72 (s : Ord) (hB : BigO s) : FnA Tryz.prog 72 [.agg s.cells] (· = .bool (okOrd s)) := by
 obtain ⟨⟨hw1, hw2, hw3, hw4⟩, h1, h2, h3, h4, h5, h6⟩ := hB
 have hm : ∀ x ∈ s.w.mks, x.length <= 1000000 := fun x hx => (hw4 x hx).1
 have l1 : (s.st.map jAV).length = s.st.length := by simp
 have l2 : (s.w.sps.map Spare.av).length = s.w.sps.length := by simp
 have l3 : (s.ps.map Piece.av).length = s.ps.length := by simp
 have l4 : (s.ws.map Wish.av).length = s.ws.length := by simp
 have l5 : (s.ds.map Dlv.av).length = s.ds.length := by simp
 have e1 := q112 (C := []) (fun n => decide (0 <= n /\ n <= 10)) s.st h1 (fun n _ => fnV_of bd113 (q113 n))
 have e2 := q114 (C := s.cells) (okPi s.w) s.ps h2 (fun p hp => fnV_of bd115 (q115 s p (h5 p hp) hw2 hm))
 have e3 := q117 (C := []) okWi s.ws h3 (fun w hw => fnV_of bd118 (q118 w (h6 w hw)))
 have e4 := q119 (C := s.cells) (okDl s.st.length) s.ds h4 (fun d _ => fnV_of bd120 (q120 s d h1))
 have e5 := q121 s.cv
 unfold okOrd
 generalize s.st.all (fun n => decide (0 <= n /\ n <= 10)) = b1 at *
 generalize s.ps.all (okPi s.w) = b2 at *
 generalize s.ws.all okWi = b3 at *
 generalize s.ds.all (okDl s.st.length) = b4 at *
 refine fnA 1 ok72 (by simp) ?_
 by_cases c1 : s.st.length = s.w.sps.length
 case neg =>
  rw [decide_eq_false c1]
  (conv=>whnf);(repeat'((first|apply bT|apply bF|apply bN|((first|apply bD|apply bEq|apply bNe)<;>intro hh<;>try(exfalso;omega))|refine wJ ?_|refine nJ ?_)<;>conv=>whnf))
  all_goals rfl
 rw [decide_eq_true c1]
 cases b1
 ·(conv=>whnf);(repeat'((first|apply bT|apply bF|apply bN|((first|apply bD|apply bEq|apply bNe)<;>intro hh<;>try(exfalso;omega))|refine e1.cq rfl rfl ?_|refine wJ ?_|refine nJ ?_)<;>conv=>whnf))
  all_goals rfl
 by_cases c2 : s.ps.length <= 8
 case neg =>
  rw [decide_eq_false c2]
  (conv=>whnf);(repeat'((first|apply bT|apply bF|apply bN|((first|apply bD|apply bEq|apply bNe)<;>intro hh<;>try(exfalso;omega))|refine e1.cq rfl rfl ?_|refine wJ ?_|refine nJ ?_)<;>conv=>whnf))
  all_goals rfl
 rw [decide_eq_true c2]
 cases b2
 ·(conv=>whnf);(repeat'((first|apply bT|apply bF|apply bN|((first|apply bD|apply bEq|apply bNe)<;>intro hh<;>try(exfalso;omega))|refine e1.cq rfl rfl ?_|refine e2.lq rfl rfl ?_|refine wJ ?_|refine nJ ?_)<;>conv=>whnf))
  all_goals rfl
 by_cases c3 : s.ws.length <= 6
 case neg =>
  rw [decide_eq_false c3]
  (conv=>whnf);(repeat'((first|apply bT|apply bF|apply bN|((first|apply bD|apply bEq|apply bNe)<;>intro hh<;>try(exfalso;omega))|refine e1.cq rfl rfl ?_|refine e2.lq rfl rfl ?_|refine wJ ?_|refine nJ ?_)<;>conv=>whnf))
  all_goals rfl
 rw [decide_eq_true c3]
 cases b3
 ·(conv=>whnf);(repeat'((first|apply bT|apply bF|apply bN|((first|apply bD|apply bEq|apply bNe)<;>intro hh<;>try(exfalso;omega))|refine e1.cq rfl rfl ?_|refine e2.lq rfl rfl ?_|refine e3.cq rfl rfl ?_|refine wJ ?_|refine nJ ?_)<;>conv=>whnf))
  all_goals rfl
 by_cases c4 : s.ds.length <= 8
 case neg =>
  rw [decide_eq_false c4]
  (conv=>whnf);(repeat'((first|apply bT|apply bF|apply bN|((first|apply bD|apply bEq|apply bNe)<;>intro hh<;>try(exfalso;omega))|refine e1.cq rfl rfl ?_|refine e2.lq rfl rfl ?_|refine e3.cq rfl rfl ?_|refine wJ ?_|refine nJ ?_)<;>conv=>whnf))
  all_goals rfl
 rw [decide_eq_true c4]
 cases b4
 ·(conv=>whnf);(repeat'((first|apply bT|apply bF|apply bN|((first|apply bD|apply bEq|apply bNe)<;>intro hh<;>try(exfalso;omega))|refine e1.cq rfl rfl ?_|refine e2.lq rfl rfl ?_|refine e3.cq rfl rfl ?_|refine e4.lq rfl rfl ?_|refine wJ ?_|refine nJ ?_)<;>conv=>whnf))
  all_goals rfl
 (conv=>whnf);(repeat'((first|apply bT|apply bF|apply bN|((first|apply bD|apply bEq|apply bNe)<;>intro hh<;>try(exfalso;omega))|refine e1.cq rfl rfl ?_|refine e2.lq rfl rfl ?_|refine e3.cq rfl rfl ?_|refine e4.lq rfl rfl ?_|refine e5.cq rfl rfl ?_|refine wJ ?_|refine nJ ?_)<;>conv=>whnf))
 all_goals rfl
def Ord.chk (s : Ord) : Int := if s.w.chk ≠ 0 then s.w.chk else if okOrd s = true then 0 else 80
theorem wcells (s : Ord) : s.w.cells = [.isl (s.w.sps.map Spare.av), .isl (s.w.mks.map mkAV), .int .i64 s.w.cut, .isl (s.w.tb.map Trial.av)] := rfl
theorem chk_val (w : Shop) : w.chk = 0 \/ w.chk = 70 \/ w.chk = 71 := by
 unfold Shop.chk
 split
 ·split <;> simp
 ·simp
theorem q31 (s : Ord) (hB : BigO s) : FnA Tryz.prog 31 [.agg s.cells] (· = .int .i64 s.chk) := by
 have e1 := p17 s.w
 have e2 := q72 s hB
 unfold Ord.chk
 refine fnA 1 ok31 (by simp) ?_
 rcases chk_val s.w with h | h | h <;> rw [h] at e1 ⊢
 ·cases hb : okOrd s with
  | true =>
   rw [hb] at e2
   (conv=>whnf);(repeat'((first|apply bT|apply bF|apply bN|((first|apply bD|apply bEq|apply bNe)<;>intro hh<;>try(exfalso;omega))|refine e1.cq rfl rfl ?_|refine e2.cq rfl rfl ?_|refine wJ ?_|refine nJ ?_)<;>conv=>whnf))
   all_goals rfl
  | false =>
   rw [hb] at e2
   (conv=>whnf);(repeat'((first|apply bT|apply bF|apply bN|((first|apply bD|apply bEq|apply bNe)<;>intro hh<;>try(exfalso;omega))|refine e1.cq rfl rfl ?_|refine e2.cq rfl rfl ?_|refine wJ ?_|refine nJ ?_)<;>conv=>whnf))
   all_goals rfl
 ·(conv=>whnf);(repeat'((first|apply bT|apply bF|apply bN|((first|apply bD|apply bEq|apply bNe)<;>intro hh<;>try(exfalso;omega))|refine e1.cq rfl rfl ?_|refine wJ ?_|refine nJ ?_)<;>conv=>whnf))
  all_goals rfl
 ·(conv=>whnf);(repeat'((first|apply bT|apply bF|apply bN|((first|apply bD|apply bEq|apply bNe)<;>intro hh<;>try(exfalso;omega))|refine e1.cq rfl rfl ?_|refine wJ ?_|refine nJ ?_)<;>conv=>whnf))
  all_goals rfl
theorem ochk_val (s : Ord) : s.chk = 0 \/ s.chk = 70 \/ s.chk = 71 \/ s.chk = 80 := by
 unfold Ord.chk
 rcases chk_val s.w with h | h | h <;> rw [h] <;> simp
 cases okOrd s <;> simp
def Ord.e1 (s : Ord) (v : Bool) : Int := if s.chk ≠ 0 then s.chk else if v = true then 0 else 1
theorem q67 (s : Ord) (hB : BigO s) (v : Bool) : FnA Tryz.prog 67 [.agg s.cells, .bool v] (· = .int .i64 (s.e1 v)) := by
 have e1 := q31 s hB
 unfold Ord.e1
 refine fnA 1 ok67 (by simp) ?_
 rcases ochk_val s with h | h | h | h <;> rw [h] at e1 ⊢ <;> cases v
 all_goals
  (conv=>whnf);(repeat'((first|apply bT|apply bF|apply bN|((first|apply bD|apply bEq|apply bNe)<;>intro hh<;>try(exfalso;omega))|refine e1.cq rfl rfl ?_|refine wJ ?_|refine nJ ?_)<;>conv=>whnf))
  all_goals rfl
section
variable {κ V : Type} [DecidableEq κ]
def putQ : List (κ × V) -> κ -> V -> List (κ × V)
 | [], x, w => [(x, w)]
 | (y, v) :: W, x, w => if x = y then (x, w) :: W else (y, v) :: putQ W x w
def getQ : List (κ × V) -> κ -> Option V
 | [], _ => none
 | (y, v) :: W, x => if x = y then some v else getQ W x
theorem getQ_put (W : List (κ × V)) (x : κ) (w : V) (y : κ) : getQ (putQ W x w) y = if y = x then some w else getQ W y := by
 induction W with
 | nil => simp [putQ, getQ]
 | cons e W ih =>
  obtain ⟨z, v⟩ := e
  simp only [putQ]
  by_cases h : x = z
  ·subst h
   rw [if_pos rfl]
   simp only [getQ]
   by_cases h2 : y = x
   ·rw [if_pos h2, if_pos h2]
   ·rw [if_neg h2, if_neg h2, if_neg h2]
  ·rw [if_neg h]
   simp only [getQ]
   by_cases h2 : y = z
   ·subst h2; rw [if_pos rfl, if_neg (fun e => h e.symm), if_pos rfl]
   ·rw [if_neg h2, ih, if_neg h2]
def kQ (kf : κ -> AV) (W : List (κ × V)) : List AV := W.map fun e => kf e.1
def uQ (f : V -> AV) (W : List (κ × V)) : List AV := W.map fun e => f e.2
structure KeyOk (kt : KTy) (kf : κ -> AV) : Prop where
 v : ∀ x, keyV kt (kf x) = true
 e : ∀ x y, keq kt (kf x) (kf y) = some (decide (x = y))
theorem findQ {kt : KTy} {kf : κ -> AV} (hk : KeyOk kt kf) (x : κ) (w : V) : ∀ (W : List (κ × V)) (i : Nat), ∃ r, findK kt (kf x) (kQ kf W) i = some r /\ ((r = none /\ putQ W x w = W ++ [(x, w)] /\ getQ W x = none) \/ ∃ j v, r = some (i + j) /\ W[j]? = some (x, v) /\ putQ W x w = W.set j (x, w) /\ getQ W x = some v)
 | [], i => ⟨none, rfl, .inl ⟨rfl, rfl, rfl⟩⟩
 | (y, v) :: W, i => by
  have hq := hk.e x y
  by_cases h : x = y
  ·subst h
   exact ⟨some i, by simp [kQ, findK, hq], .inr ⟨0, v, rfl, rfl, by simp [putQ], by simp [getQ]⟩⟩
  ·obtain ⟨r, h1, h2⟩ := findQ hk x w W (i + 1)
   have hq' : keq kt (kf x) (kf y) = some false := by rw [hq]; simp [h]
   refine ⟨r, by simpa [kQ, findK, hq'] using h1, ?_⟩
   rcases h2 with ⟨h2, h3, h4⟩ | ⟨j, u, h2, h3, h4, h5⟩
   ·exact .inl ⟨h2, by simp [putQ, h, h3], by simp [getQ, h, h4]⟩
   ·exact .inr ⟨j + 1, u, by rw [h2]; congr 1; omega, by simpa using h3, by simp [putQ, h, h4], by simp [getQ, h, h5]⟩
theorem mput_Q {kt : KTy} {kf : κ -> AV} (hk : KeyOk kt kf) (f : V -> AV) (W : List (κ × V)) (x : κ) (w : V) : mput kt (kQ kf W) (uQ f W) (kf x) (f w) = some (kQ kf (putQ W x w), uQ f (putQ W x w)) := by
 obtain ⟨r, h1, h2⟩ := findQ hk x w W 0
 have hk' := hk.v x
 unfold mput
 rcases h2 with ⟨rfl, h2, _⟩ | ⟨j, v, rfl, h2, h3, _⟩
 ·rw [hk', h1, h2]; simp [kQ, uQ]
 ·rw [hk', h1, h3]
  simp only [Nat.zero_add, Option.some.injEq, Prod.mk.injEq]
  refine ⟨?_, by simp [uQ, List.map_set]⟩
  apply List.ext_getElem (by simp [kQ])
  intro n h4 h5
  simp only [kQ, List.getElem_map, List.getElem_set]
  split
  ·rename_i e
   subst e
   obtain ⟨h6, h7⟩ := List.getElem?_eq_some_iff.1 h2
   rw [h7]
  ·rfl
theorem mlook_Q {kt : KTy} {kf : κ -> AV} (hk : KeyOk kt kf) (f : V -> AV) (W : List (κ × V)) (x : κ) : mlook kt (kQ kf W) (uQ f W) (kf x) = some ((getQ W x).map f) := by
 by_cases hn : Nonempty V
 ·obtain ⟨v0⟩ := hn
  obtain ⟨r, h1, h2⟩ := findQ hk x v0 W 0
  have hk' := hk.v x
  unfold mlook
  rcases h2 with ⟨rfl, _, h2⟩ | ⟨j, v, rfl, h2, _, h3⟩
  ·rw [hk', h1, h2]; rfl
  ·rw [hk', h1, h3]
   have : (uQ f W)[j]? = some (f v) := by simp [uQ, h2]
   simp only [Nat.zero_add, this, Option.map_some]
 ·have hW : W = [] := by
   cases W with
   | nil => rfl
   | cons e W => exact absurd ⟨e.2⟩ hn
  subst hW
  have hk' := hk.v x
  unfold mlook
  simp [kQ, uQ, findK, hk', getQ]
end
theorem q123 (l : List Int) (m : Int) (hl : l.length <= 1000000) : FnA Tryz.prog 123 [.isl (l.map jAV), .int .i64 m] (· = .bool (ascB l && l.all fun x => decide (0 <= x /\ x <= m))) := by
 have hL : (l.map jAV).length = l.length := by simp
 refine fnA 0 ok123 (by simp) ?_
 (conv=>whnf);(repeat'((first|apply bT|apply bF|apply bN|((first|apply bD|apply bEq|apply bNe)<;>intro hh<;>try(exfalso;omega))|refine wJ ?_|refine nJ ?_)<;>conv=>whnf))
 refine loop_i (α := Nat) (fun k => [(5, .int .i64 k), (1, .int .i64 m), (0, .isl (l.map jAV))]) (fun k => []) (fun k => k <= l.length /\ (∀ x ∈ l.take k, (fun x => decide (0 <= x /\ x <= m)) x = true) /\ ∀ i, i + 1 < k -> l.getD i 0 < l.getD (i + 1) 0) (fun k => l.length - k) 0 mI ⟨by omega, by simp, fun i hi => by omega⟩ ?_
 rintro k ⟨h1, h2, h3⟩
 conv => whnf
 refine bD (fun h4 => ?_) (fun h4 => ?_)
 ·have hk : k < l.length := by omega
  have g1 := jget (l := l) (i := k) hk
  have hgk : l.getD k 0 = l[k] := by simp [List.getD_eq_getElem?_getD, hk]
  have hno : ∀ b : Bool, (ascB l && l.all fun x => decide (0 <= x /\ x <= m)) = b -> b = false -> (ascB l && l.all fun x => decide (0 <= x /\ x <= m)) = false := fun b h1 h2 => h1.trans h2
  by_cases hx : 0 <= l.getD k 0 /\ l.getD k 0 <= m
  ·by_cases h0 : k = 0
   ·subst h0
    (conv=>whnf);(repeat'((first|apply bT|apply bF|apply bN|((first|apply bD|apply bEq|apply bNe)<;>intro hh<;>try(exfalso;omega))|refine iaJ g1 ?_|refine wJ ?_|refine nJ ?_)<;>conv=>whnf))
    exact ⟨1, mI, ⟨by omega, take_all hk h2 (by rw [<- hgk]; exact decide_eq_true hx), fun i hi => by omega⟩, by omega⟩
   ·obtain ⟨j, rfl⟩ : ∃ j, k = j + 1 := ⟨k - 1, by omega⟩
    have g2 : (l.map jAV).getD (((j + 1 : Nat) : Int) - 1).toNat [] = [.int .i64 (l.getD j 0)] := by rw [show (((j + 1 : Nat) : Int) - 1).toNat = j by omega]; exact jget (by omega)
    by_cases hy : l.getD j 0 < l.getD (j + 1) 0
    ·(conv=>whnf);(repeat'((first|apply bT|apply bF|apply bN|((first|apply bD|apply bEq|apply bNe)<;>intro hh<;>try(exfalso;omega))|refine iaJ g1 ?_|refine iaJ g2 ?_|refine wJ ?_|refine nJ ?_)<;>conv=>whnf))
     refine ⟨j + 1 + 1, mI, ⟨by omega, take_all hk h2 (by rw [<- hgk]; exact decide_eq_true hx), fun i hi => ?_⟩, by omega⟩
     by_cases e : i = j
     ·rw [e]; exact hy
     ·exact h3 i (by omega)
    ·have h0 : (ascB l && l.all fun x => decide (0 <= x /\ x <= m)) = false := by rw [ascB_no (k := j) (by omega) hy]; rfl
     rw [h0]
     (conv=>whnf);(repeat'((first|apply bT|apply bF|apply bN|((first|apply bD|apply bEq|apply bNe)<;>intro hh<;>try(exfalso;omega))|refine iaJ g1 ?_|refine iaJ g2 ?_|refine wJ ?_|refine nJ ?_)<;>conv=>whnf))
     all_goals rfl
  ·have h0 : (ascB l && l.all fun x => decide (0 <= x /\ x <= m)) = false := by
    rw [all_not hk (by rw [<- hgk]; exact decide_eq_false hx)]; simp
   rw [h0]
   (conv=>whnf);(repeat'((first|apply bT|apply bF|apply bN|((first|apply bD|apply bEq|apply bNe)<;>intro hh<;>try(exfalso;omega))|refine iaJ g1 ?_|refine wJ ?_|refine nJ ?_)<;>conv=>whnf))
   all_goals rfl
 ·have : k = l.length := by omega
  subst this
  rw [List.take_length] at h2
  rw [ascB_iff.2 fun i hi => h3 i (by omega), all_yes h2]
  (conv=>whnf);(repeat'((first|apply bT|apply bF|apply bN|((first|apply bD|apply bEq|apply bNe)<;>intro hh<;>try(exfalso;omega))|refine wJ ?_|refine nJ ?_)<;>conv=>whnf))
  all_goals rfl
theorem q75 (w : Shop) (p : Piece) (hp : p.br.length <= 1000000) (hw : w.mks.length <= 1000000) (hm : ∀ x ∈ w.mks, x.length <= 1000000) (s : Ord) (hs : s.w = w) : FnA Tryz.prog 75 [.agg s.cells, .agg p.av] (· = .bool (okPi w p)) := by
 subst hs
 have hL : (s.w.mks.map mkAV).length = s.w.mks.length := by simp
 have hL2 : ((s.w.slots p.mkr).map Slot.av).length = (s.w.slots p.mkr).length := by simp
 have e1 := q74 p.col 0 99
 have e2 := q74 p.sz 0 99
 have e3 := q74 p.let_ 0 99
 have e4 := q74 p.mkr 0 (↑(s.w.mks.map mkAV).length - 1)
 have h4 : decide (0 <= p.mkr /\ p.mkr <= ↑(s.w.mks.map mkAV).length - 1) = s.w.isMk p.mkr := by unfold Shop.isMk; exact decide_eq_decide.2 (by omega)
 rw [h4] at e4
 clear h4
 change FnA _ _ _ (· = .bool (mark p.col)) at e1
 change FnA _ _ _ (· = .bool (mark p.sz)) at e2
 change FnA _ _ _ (· = .bool (mark p.let_)) at e3
 cases b4 : s.w.isMk p.mkr with
 | false =>
  have h0 : okPi s.w p = false := by unfold okPi; rw [b4]; simp
  rw [h0]
  rw [b4] at e4
  refine fnA 2 ok75 (by simp) ?_
  cases b1 : mark p.col <;> cases b2 : mark p.sz <;> cases b3 : mark p.let_ <;> (try rw [b1] at e1) <;> (try rw [b2] at e2) <;> (try rw [b3] at e3)
  all_goals
   (conv=>whnf);(repeat'((first|apply bT|apply bF|apply bN|((first|apply bD|apply bEq|apply bNe)<;>intro hh<;>try(exfalso;omega))|refine e1.cq rfl rfl ?_|refine e2.cq rfl rfl ?_|refine e3.cq rfl rfl ?_|refine e4.cq rfl rfl ?_|refine wJ ?_|refine nJ ?_)<;>conv=>whnf))
   all_goals rfl
 | true =>
  rw [b4] at e4
  have h2 := isMk_iff.1 b4
  have hS : (s.w.slots p.mkr).length <= 1000000 := by
   have : p.mkr.toNat < s.w.mks.length := by omega
   have e : s.w.slots p.mkr = s.w.mks[p.mkr.toNat] := by unfold Shop.slots; simp [List.getD_eq_getElem?_getD, this]
   rw [e]; exact hm _ (List.getElem_mem this)
  have g1 := mkget b4
  have e5 := q123 p.br (↑((s.w.slots p.mkr).map Slot.av).length - 1) hp
  have h0 : okPi s.w p = (mark p.col && mark p.sz && mark p.let_ && (ascB p.br && p.br.all (fun k => decide (0 <= k /\ k <= ((↑((s.w.slots p.mkr).map Slot.av).length : Nat) : Int) - 1)))) := by
   unfold okPi
   rw [b4, hL2]
   have : (fun k : Int => decide (0 <= k /\ k < ((s.w.slots p.mkr).length : Int))) = fun k => decide (0 <= k /\ k <= ((s.w.slots p.mkr).length : Int) - 1) := funext fun k => decide_eq_decide.2 (by omega)
   rw [this]
   simp [Bool.and_assoc]
  rw [h0]
  generalize (ascB p.br && p.br.all (fun k => decide (0 <= k /\ k <= ((↑((s.w.slots p.mkr).map Slot.av).length : Nat) : Int) - 1))) = b5 at *
  refine fnA 2 ok75 (by simp) ?_
  cases b1 : mark p.col <;> cases b2 : mark p.sz <;> cases b3 : mark p.let_ <;> (try rw [b1] at e1) <;> (try rw [b2] at e2) <;> (try rw [b3] at e3)
  all_goals
   (conv=>whnf);(repeat'((first|apply bT|apply bF|apply bN|((first|apply bD|apply bEq|apply bNe)<;>intro hh<;>try(exfalso;omega))|refine e1.cq rfl rfl ?_|refine e2.cq rfl rfl ?_|refine e3.cq rfl rfl ?_|refine e4.cq rfl rfl ?_|refine e5.cq rfl rfl ?_|refine iaJ g1 ?_|refine wJ ?_|refine nJ ?_)<;>conv=>whnf))
   all_goals rfl
theorem okWi_eq (w : Wish) : okWi w = (decide (1 <= w.cs.length /\ w.cs.length <= 8) && ((ascB w.cs && w.cs.all fun x => decide (0 <= x /\ x <= 99)) && (decide (0 <= w.lo) && (decide (w.lo <= w.hi) && (decide (w.hi <= 99) && (mark w.let_ && (mark w.due && decide (0 <= w.pr /\ w.pr <= 100000)))))))) := by
 unfold okWi
 have h1 : (w.cs.all mark) = w.cs.all fun x => decide (0 <= x /\ x <= 99) := rfl
 rw [h1]
 have h2 : (decide (0 <= w.lo /\ w.lo <= w.hi) && mark w.hi) = (decide (0 <= w.lo) && (decide (w.lo <= w.hi) && decide (w.hi <= 99))) := by
  unfold mark
  rw [<- Bool.decide_and, <- Bool.decide_and, <- Bool.decide_and]
  exact decide_eq_decide.2 (by omega)
 generalize decide (1 <= w.cs.length /\ w.cs.length <= 8) = b1
 generalize (w.cs.all fun x => decide (0 <= x /\ x <= 99)) = b2
 generalize ascB w.cs = b3
 generalize mark w.let_ = b4
 generalize mark w.due = b5
 generalize decide (0 <= w.pr /\ w.pr <= 100000) = b6
 rw [Bool.and_assoc (b1 && b2 && b3), h2]
 cases b1 <;> cases b2 <;> cases b3 <;> simp [Bool.and_assoc]
theorem q76 (w : Wish) (hw : w.cs.length <= 1000000) : FnA Tryz.prog 76 [.agg w.av] (· = .bool (okWi w)) := by
 have hL : (w.cs.map jAV).length = w.cs.length := by simp
 have e1 := q74 ↑(w.cs.map jAV).length 1 8
 have h1 : decide ((1 : Int) <= ↑(w.cs.map jAV).length /\ (↑(w.cs.map jAV).length : Int) <= 8) = decide (1 <= w.cs.length /\ w.cs.length <= 8) := decide_eq_decide.2 (by omega)
 rw [h1] at e1
 clear h1
 have e2 := q123 w.cs 99 hw
 have e6 := q74 w.let_ 0 99
 have e7 := q74 w.due 0 99
 have e8 := q74 w.pr 0 100000
 change FnA _ _ _ (· = .bool (mark w.let_)) at e6
 change FnA _ _ _ (· = .bool (mark w.due)) at e7
 rw [okWi_eq]
 generalize decide (1 <= w.cs.length /\ w.cs.length <= 8) = b1 at *
 generalize (ascB w.cs && w.cs.all fun x => decide (0 <= x /\ x <= 99)) = b2 at *
 generalize mark w.let_ = b6 at *
 generalize mark w.due = b7 at *
 generalize decide (0 <= w.pr /\ w.pr <= 100000) = b8 at *
 refine fnA 1 ok76 (by simp) ?_
 cases b1
 ·(conv=>whnf);(repeat'((first|apply bT|apply bF|apply bN|((first|apply bD|apply bEq|apply bNe)<;>intro hh<;>try(exfalso;omega))|refine e1.cq rfl rfl ?_|refine wJ ?_|refine nJ ?_)<;>conv=>whnf))
  all_goals rfl
 cases b2
 ·(conv=>whnf);(repeat'((first|apply bT|apply bF|apply bN|((first|apply bD|apply bEq|apply bNe)<;>intro hh<;>try(exfalso;omega))|refine e1.cq rfl rfl ?_|refine e2.cq rfl rfl ?_|refine wJ ?_|refine nJ ?_)<;>conv=>whnf))
  all_goals rfl
 by_cases c1 : 0 <= w.lo
 case neg =>
  rw [decide_eq_false c1]
  (conv=>whnf);(repeat'((first|apply bT|apply bF|apply bN|((first|apply bD|apply bEq|apply bNe)<;>intro hh<;>try(exfalso;omega))|refine e1.cq rfl rfl ?_|refine e2.cq rfl rfl ?_|refine wJ ?_|refine nJ ?_)<;>conv=>whnf))
  all_goals rfl
 rw [decide_eq_true c1]
 by_cases c2 : w.lo <= w.hi
 case neg =>
  rw [decide_eq_false c2]
  (conv=>whnf);(repeat'((first|apply bT|apply bF|apply bN|((first|apply bD|apply bEq|apply bNe)<;>intro hh<;>try(exfalso;omega))|refine e1.cq rfl rfl ?_|refine e2.cq rfl rfl ?_|refine wJ ?_|refine nJ ?_)<;>conv=>whnf))
  all_goals rfl
 rw [decide_eq_true c2]
 by_cases c3 : w.hi <= 99
 case neg =>
  rw [decide_eq_false c3]
  (conv=>whnf);(repeat'((first|apply bT|apply bF|apply bN|((first|apply bD|apply bEq|apply bNe)<;>intro hh<;>try(exfalso;omega))|refine e1.cq rfl rfl ?_|refine e2.cq rfl rfl ?_|refine wJ ?_|refine nJ ?_)<;>conv=>whnf))
  all_goals rfl
 rw [decide_eq_true c3]
 cases b6
 ·(conv=>whnf);(repeat'((first|apply bT|apply bF|apply bN|((first|apply bD|apply bEq|apply bNe)<;>intro hh<;>try(exfalso;omega))|refine e1.cq rfl rfl ?_|refine e2.cq rfl rfl ?_|refine e6.cq rfl rfl ?_|refine wJ ?_|refine nJ ?_)<;>conv=>whnf))
  all_goals rfl
 cases b7
 ·(conv=>whnf);(repeat'((first|apply bT|apply bF|apply bN|((first|apply bD|apply bEq|apply bNe)<;>intro hh<;>try(exfalso;omega))|refine e1.cq rfl rfl ?_|refine e2.cq rfl rfl ?_|refine e6.cq rfl rfl ?_|refine e7.cq rfl rfl ?_|refine wJ ?_|refine nJ ?_)<;>conv=>whnf))
  all_goals rfl
 (conv=>whnf);(repeat'((first|apply bT|apply bF|apply bN|((first|apply bD|apply bEq|apply bNe)<;>intro hh<;>try(exfalso;omega))|refine e1.cq rfl rfl ?_|refine e2.cq rfl rfl ?_|refine e6.cq rfl rfl ?_|refine e7.cq rfl rfl ?_|refine e8.cq rfl rfl ?_|refine wJ ?_|refine nJ ?_)<;>conv=>whnf))
 all_goals rfl
theorem oget {α : Type} (f : α -> List AV) (l : List α) {k : Nat} (h : k < l.length) : (l.map f).getD k [] = f l[k] := getM f l k h
theorem q32 (s : Ord) (hB : BigO s) : FnA Tryz.prog 32 [.agg s.cells] (· = .int .i64 s.chk) := by
 have e0 := p18 s.w hB.w
 obtain ⟨⟨hw1, hw2, hw3, hw4⟩, h1, h2, h3, h4, h5, h6⟩ := hB
 have hm : ∀ x ∈ s.w.mks, x.length <= 1000000 := fun x hx => (hw4 x hx).1
 have l1 : (s.st.map jAV).length = s.st.length := by simp
 have l2 : (s.w.sps.map Spare.av).length = s.w.sps.length := by simp
 have l3 : (s.ps.map Piece.av).length = s.ps.length := by simp
 have l4 : (s.ws.map Wish.av).length = s.ws.length := by simp
 have l5 : (s.ds.map Dlv.av).length = s.ds.length := by simp
 have e5 := q74 s.cv 0 99
 change FnA _ _ _ (· = .bool (mark s.cv)) at e5
 refine fnA 2 ok32 (by simp) ?_
 rcases chk_val s.w with h | h | h <;> rw [h] at e0
 case inr.inl =>
  have : s.chk = 70 := by unfold Ord.chk; rw [h]; rfl
  rw [this]
  (conv=>whnf);(repeat'((first|apply bT|apply bF|apply bN|((first|apply bD|apply bEq|apply bNe)<;>intro hh<;>try(exfalso;omega))|refine e0.cq rfl rfl ?_|refine wJ ?_|refine nJ ?_)<;>conv=>whnf))
  all_goals rfl
 case inr.inr =>
  have : s.chk = 71 := by unfold Ord.chk; rw [h]; rfl
  rw [this]
  (conv=>whnf);(repeat'((first|apply bT|apply bF|apply bN|((first|apply bD|apply bEq|apply bNe)<;>intro hh<;>try(exfalso;omega))|refine e0.cq rfl rfl ?_|refine wJ ?_|refine nJ ?_)<;>conv=>whnf))
  all_goals rfl
 have hno : okOrd s = false -> s.chk = 80 := fun hf => by unfold Ord.chk; rw [h, hf]; rfl
 have hyes : okOrd s = true -> s.chk = 0 := fun hf => by unfold Ord.chk; rw [h, hf]; rfl
 by_cases c1 : s.st.length = s.w.sps.length /\ s.ps.length <= 8 /\ s.ws.length <= 6 /\ s.ds.length <= 8
 case neg =>
  rw [hno (by
   by_cases d1 : s.st.length = s.w.sps.length
   ·by_cases d2 : s.ps.length <= 8
    ·by_cases d3 : s.ws.length <= 6
     ·have d4 : ¬ s.ds.length <= 8 := fun d4 => c1 ⟨d1, d2, d3, d4⟩
      unfold okOrd; rw [decide_eq_false d4]; simp
     ·unfold okOrd; rw [decide_eq_false d3]; simp
    ·unfold okOrd; rw [decide_eq_false d2]; simp
   ·unfold okOrd; rw [decide_eq_false d1]; simp)]
  by_cases d1 : s.st.length = s.w.sps.length
  ·by_cases d2 : s.ps.length <= 8
   ·by_cases d3 : s.ws.length <= 6
    ·(conv=>whnf);(repeat'((first|apply bT|apply bF|apply bN|((first|apply bD|apply bEq|apply bNe)<;>intro hh<;>try(exfalso;omega))|refine e0.cq rfl rfl ?_|refine wJ ?_|refine nJ ?_)<;>conv=>whnf))
     all_goals rfl
    ·(conv=>whnf);(repeat'((first|apply bT|apply bF|apply bN|((first|apply bD|apply bEq|apply bNe)<;>intro hh<;>try(exfalso;omega))|refine e0.cq rfl rfl ?_|refine wJ ?_|refine nJ ?_)<;>conv=>whnf))
     all_goals rfl
   ·(conv=>whnf);(repeat'((first|apply bT|apply bF|apply bN|((first|apply bD|apply bEq|apply bNe)<;>intro hh<;>try(exfalso;omega))|refine e0.cq rfl rfl ?_|refine wJ ?_|refine nJ ?_)<;>conv=>whnf))
    all_goals rfl
  ·(conv=>whnf);(repeat'((first|apply bT|apply bF|apply bN|((first|apply bD|apply bEq|apply bNe)<;>intro hh<;>try(exfalso;omega))|refine e0.cq rfl rfl ?_|refine wJ ?_|refine nJ ?_)<;>conv=>whnf))
   all_goals rfl
 obtain ⟨d1, d2, d3, d4⟩ := c1
 cases c5 : mark s.cv with
 | false =>
  rw [c5] at e5
  rw [hno (by unfold okOrd; rw [c5]; simp)]
  (conv=>whnf);(repeat'((first|apply bT|apply bF|apply bN|((first|apply bD|apply bEq|apply bNe)<;>intro hh<;>try(exfalso;omega))|refine e0.cq rfl rfl ?_|refine e5.cq rfl rfl ?_|refine wJ ?_|refine nJ ?_)<;>conv=>whnf))
  all_goals rfl
 | true =>
 rw [c5] at e5
 (conv=>whnf);(repeat'((first|apply bT|apply bF|apply bN|((first|apply bD|apply bEq|apply bNe)<;>intro hh<;>try(exfalso;omega))|refine e0.cq rfl rfl ?_|refine e5.cq rfl rfl ?_|refine wJ ?_|refine nJ ?_)<;>conv=>whnf))
 refine loop_i (α := Nat) (fun k => [(4, .int .i64 k), (1, .own 0 0)]) (fun k => [.box false s.cells, .fresh]) (fun k => k <= s.st.length /\ ∀ n ∈ s.st.take k, (fun n => decide (0 <= n /\ n <= 10)) n = true) (fun k => s.st.length - k) 0 mI ⟨by omega, by simp⟩ ?_
 rintro k ⟨k1, k2⟩
 conv => whnf
 refine bD (fun h3' => ?_) (fun h3' => ?_)
 ·have hk : k < s.st.length := by omega
  have g1 := getM jAV s.st k hk
  have e6 := q74 s.st[k] 0 10
  by_cases hx : 0 <= s.st[k] /\ s.st[k] <= 10
  ·rw [decide_eq_true hx] at e6
   (conv=>whnf);(repeat'((first|apply bT|apply bF|apply bN|((first|apply bD|apply bEq|apply bNe)<;>intro hh<;>try(exfalso;omega))|refine iaJ g1 ?_|refine e6.cq rfl rfl ?_|refine wJ ?_|refine nJ ?_)<;>conv=>whnf))
   exact ⟨k + 1, mI, ⟨by omega, take_all hk k2 (decide_eq_true hx)⟩, by omega⟩
  ·rw [decide_eq_false hx] at e6
   rw [hno (by
    have := all_not (p := fun n => decide (0 <= n /\ n <= 10)) hk (decide_eq_false hx)
    unfold okOrd; rw [this]; simp)]
   (conv=>whnf);(repeat'((first|apply bT|apply bF|apply bN|((first|apply bD|apply bEq|apply bNe)<;>intro hh<;>try(exfalso;omega))|refine iaJ g1 ?_|refine e6.cq rfl rfl ?_|refine wJ ?_|refine nJ ?_)<;>conv=>whnf))
   all_goals rfl
 have : k = s.st.length := by omega
 subst this
 rw [List.take_length] at k2
 have a1 := all_yes k2
 clear k1 k2 h3'
 (conv=>whnf);(repeat'((first|apply bT|apply bF|apply bN|((first|apply bD|apply bEq|apply bNe)<;>intro hh<;>try(exfalso;omega))|refine wJ ?_|refine nJ ?_)<;>conv=>whnf))
 refine loop_i (α := Nat) (fun k => [(5, .int .i64 k), (1, .own 0 0)]) (fun k => [.box false s.cells, .fresh]) (fun k => k <= s.ps.length /\ ∀ n ∈ s.ps.take k, okPi s.w n = true) (fun k => s.ps.length - k) 0 mI ⟨by omega, by simp⟩ ?_
 rintro k ⟨k1, k2⟩
 conv => whnf
 refine bD (fun h3' => ?_) (fun h3' => ?_)
 ·have hk : k < s.ps.length := by omega
  have g1 := getM Piece.av s.ps k hk
  have e6 := q75 s.w s.ps[k] (h5 _ (List.getElem_mem hk)) hw2 hm s rfl
  cases hx : okPi s.w s.ps[k] with
  | true =>
   rw [hx] at e6
   (conv=>whnf);(repeat'((first|apply bT|apply bF|apply bN|((first|apply bD|apply bEq|apply bNe)<;>intro hh<;>try(exfalso;omega))|refine iaJ g1 ?_|refine e6.cq rfl rfl ?_|refine wJ ?_|refine nJ ?_)<;>conv=>whnf))
   exact ⟨k + 1, mI, ⟨by omega, take_all hk k2 hx⟩, by omega⟩
  | false =>
   rw [hx] at e6
   rw [hno (by
    have := all_not (p := okPi s.w) hk hx
    unfold okOrd; rw [this]; simp)]
   (conv=>whnf);(repeat'((first|apply bT|apply bF|apply bN|((first|apply bD|apply bEq|apply bNe)<;>intro hh<;>try(exfalso;omega))|refine iaJ g1 ?_|refine e6.cq rfl rfl ?_|refine wJ ?_|refine nJ ?_)<;>conv=>whnf))
   all_goals rfl
 have : k = s.ps.length := by omega
 subst this
 rw [List.take_length] at k2
 have a2 := all_yes k2
 clear k1 k2 h3'
 (conv=>whnf);(repeat'((first|apply bT|apply bF|apply bN|((first|apply bD|apply bEq|apply bNe)<;>intro hh<;>try(exfalso;omega))|refine wJ ?_|refine nJ ?_)<;>conv=>whnf))
 refine loop_i (α := Nat) (fun k => [(6, .int .i64 k), (1, .own 0 0)]) (fun k => [.box false s.cells, .fresh]) (fun k => k <= s.ws.length /\ ∀ n ∈ s.ws.take k, okWi n = true) (fun k => s.ws.length - k) 0 mI ⟨by omega, by simp⟩ ?_
 rintro k ⟨k1, k2⟩
 conv => whnf
 refine bD (fun h3' => ?_) (fun h3' => ?_)
 ·have hk : k < s.ws.length := by omega
  have g1 := getM Wish.av s.ws k hk
  have e6 := q76 s.ws[k] (h6 _ (List.getElem_mem hk))
  cases hx : okWi s.ws[k] with
  | true =>
   rw [hx] at e6
   (conv=>whnf);(repeat'((first|apply bT|apply bF|apply bN|((first|apply bD|apply bEq|apply bNe)<;>intro hh<;>try(exfalso;omega))|refine iaJ g1 ?_|refine e6.cq rfl rfl ?_|refine wJ ?_|refine nJ ?_)<;>conv=>whnf))
   exact ⟨k + 1, mI, ⟨by omega, take_all hk k2 hx⟩, by omega⟩
  | false =>
   rw [hx] at e6
   rw [hno (by
    have := all_not (p := okWi) hk hx
    unfold okOrd; rw [this]; simp)]
   (conv=>whnf);(repeat'((first|apply bT|apply bF|apply bN|((first|apply bD|apply bEq|apply bNe)<;>intro hh<;>try(exfalso;omega))|refine iaJ g1 ?_|refine e6.cq rfl rfl ?_|refine wJ ?_|refine nJ ?_)<;>conv=>whnf))
   all_goals rfl
 have : k = s.ws.length := by omega
 subst this
 rw [List.take_length] at k2
 have a3 := all_yes k2
 clear k1 k2 h3'
 (conv=>whnf);(repeat'((first|apply bT|apply bF|apply bN|((first|apply bD|apply bEq|apply bNe)<;>intro hh<;>try(exfalso;omega))|refine wJ ?_|refine nJ ?_)<;>conv=>whnf))
 refine loop_i (α := Nat) (fun k => [(7, .int .i64 k), (1, .own 0 0)]) (fun k => [.box false s.cells, .fresh]) (fun k => k <= s.ds.length /\ ∀ n ∈ s.ds.take k, okDl s.st.length n = true) (fun k => s.ds.length - k) 0 mI ⟨by omega, by simp⟩ ?_
 rintro k ⟨k1, k2⟩
 conv => whnf
 refine bD (fun h3' => ?_) (fun h3' => ?_)
 ·have hk : k < s.ds.length := by omega
  have g1 := getM Dlv.av s.ds k hk
  have b1 := q74 s.ds[k].day 0 99
  have b2 := q74 s.ds[k].sp 0 (↑(s.w.sps.map Spare.av).length - 1)
  have b3 := q74 s.ds[k].many 1 10
  have hb2 : decide (0 <= s.ds[k].sp /\ s.ds[k].sp <= ↑(s.w.sps.map Spare.av).length - 1) = decide (0 <= s.ds[k].sp /\ s.ds[k].sp < s.st.length) := decide_eq_decide.2 (by omega)
  rw [hb2] at b2
  change FnA _ _ _ (· = .bool (mark s.ds[k].day)) at b1
  have hx : okDl s.st.length s.ds[k] = (mark s.ds[k].day && decide (0 <= s.ds[k].sp /\ s.ds[k].sp < s.st.length) && decide (1 <= s.ds[k].many /\ s.ds[k].many <= 10)) := rfl
  have hno' : okDl s.st.length s.ds[k] = false -> s.chk = 80 := fun hf => hno (by
    have := all_not (p := okDl s.st.length) hk hf
    unfold okOrd; rw [this]; simp)
  have htk : okDl s.st.length s.ds[k] = true -> ∀ n ∈ s.ds.take (k + 1), okDl s.st.length n = true := take_all hk k2
  rw [hx] at hno' htk
  generalize mark s.ds[k].day = m1 at *
  generalize decide (0 <= s.ds[k].sp /\ s.ds[k].sp < s.st.length) = m2 at *
  generalize decide (1 <= s.ds[k].many /\ s.ds[k].many <= 10) = m3 at *
  cases m1
  ·rw [hno' rfl]
   (conv=>whnf);(repeat'((first|apply bT|apply bF|apply bN|((first|apply bD|apply bEq|apply bNe)<;>intro hh<;>try(exfalso;omega))|refine iaJ g1 ?_|refine b1.cq rfl rfl ?_|refine wJ ?_|refine nJ ?_)<;>conv=>whnf))
   all_goals rfl
  cases m2
  ·rw [hno' rfl]
   (conv=>whnf);(repeat'((first|apply bT|apply bF|apply bN|((first|apply bD|apply bEq|apply bNe)<;>intro hh<;>try(exfalso;omega))|refine iaJ g1 ?_|refine b1.cq rfl rfl ?_|refine b2.cq rfl rfl ?_|refine wJ ?_|refine nJ ?_)<;>conv=>whnf))
   all_goals rfl
  cases m3
  ·rw [hno' rfl]
   (conv=>whnf);(repeat'((first|apply bT|apply bF|apply bN|((first|apply bD|apply bEq|apply bNe)<;>intro hh<;>try(exfalso;omega))|refine iaJ g1 ?_|refine b1.cq rfl rfl ?_|refine b2.cq rfl rfl ?_|refine b3.cq rfl rfl ?_|refine wJ ?_|refine nJ ?_)<;>conv=>whnf))
   all_goals rfl
  (conv=>whnf);(repeat'((first|apply bT|apply bF|apply bN|((first|apply bD|apply bEq|apply bNe)<;>intro hh<;>try(exfalso;omega))|refine iaJ g1 ?_|refine b1.cq rfl rfl ?_|refine b2.cq rfl rfl ?_|refine b3.cq rfl rfl ?_|refine wJ ?_|refine nJ ?_)<;>conv=>whnf))
  exact ⟨k + 1, mI, ⟨by omega, htk rfl⟩, by omega⟩
 have : k = s.ds.length := by omega
 subst this
 rw [List.take_length] at k2
 have a4 := all_yes k2
 rw [hyes (by unfold okOrd; rw [decide_eq_true d1, a1, decide_eq_true d2, a2, decide_eq_true d3, a3, decide_eq_true d4, a4, c5]; rfl)]
 (conv=>whnf);(repeat'((first|apply bT|apply bF|apply bN|((first|apply bD|apply bEq|apply bNe)<;>intro hh<;>try(exfalso;omega))|refine wJ ?_|refine nJ ?_)<;>conv=>whnf))
 all_goals rfl
def suitV (w : Wish) (p : Piece) : Int := if p.col ∈ w.cs /\ w.lo <= p.sz /\ p.sz <= w.hi then (if p.let_ = w.let_ then 1 else if p.let_ = 0 then 2 else 0) else 0
theorem q78 (w : Wish) (p : Piece) (hw : w.cs.length <= 1000000) : FnA Tryz.prog 78 [.agg w.av, .agg p.av] (· = .int .i64 (suitV w p)) := by
 have e1 := p89 w.cs p.col hw
 have e2 := q104 p.sz w.lo w.hi
 refine fnA 2 ok78 (by simp) ?_
 by_cases h1 : p.col ∈ w.cs
 case neg =>
  rw [decide_eq_false h1] at e1
  rw [show suitV w p = 0 from if_neg fun h => h1 h.1]
  (conv=>whnf);(repeat'((first|apply bT|apply bF|apply bN|((first|apply bD|apply bEq|apply bNe)<;>intro hh<;>try(exfalso;omega))|refine e1.cq rfl rfl ?_|refine wJ ?_|refine nJ ?_)<;>conv=>whnf))
  all_goals rfl
 rw [decide_eq_true h1] at e1
 by_cases h2 : w.lo <= p.sz /\ p.sz <= w.hi
 case neg =>
  rw [decide_eq_false h2] at e2
  rw [show suitV w p = 0 from if_neg fun h => h2 h.2]
  (conv=>whnf);(repeat'((first|apply bT|apply bF|apply bN|((first|apply bD|apply bEq|apply bNe)<;>intro hh<;>try(exfalso;omega))|refine e1.cq rfl rfl ?_|refine e2.cq rfl rfl ?_|refine wJ ?_|refine nJ ?_)<;>conv=>whnf))
  all_goals rfl
 rw [decide_eq_true h2] at e2
 rw [show suitV w p = (if p.let_ = w.let_ then 1 else if p.let_ = 0 then 2 else 0) from if_pos ⟨h1, h2⟩]
 by_cases h3 : p.let_ = w.let_
 ·rw [if_pos h3]
  (conv=>whnf);(repeat'((first|apply bT|apply bF|apply bN|((first|apply bD|apply bEq|apply bNe)<;>intro hh<;>try(exfalso;omega))|refine e1.cq rfl rfl ?_|refine e2.cq rfl rfl ?_|refine wJ ?_|refine nJ ?_)<;>conv=>whnf))
  all_goals rfl
 rw [if_neg h3]
 by_cases h4 : p.let_ = 0
 ·rw [if_pos h4]
  (conv=>whnf);(repeat'((first|apply bT|apply bF|apply bN|((first|apply bD|apply bEq|apply bNe)<;>intro hh<;>try(exfalso;omega))|refine e1.cq rfl rfl ?_|refine e2.cq rfl rfl ?_|refine wJ ?_|refine nJ ?_)<;>conv=>whnf))
  all_goals rfl
 rw [if_neg h4]
 (conv=>whnf);(repeat'((first|apply bT|apply bF|apply bN|((first|apply bD|apply bEq|apply bNe)<;>intro hh<;>try(exfalso;omega))|refine e1.cq rfl rfl ?_|refine e2.cq rfl rfl ?_|refine wJ ?_|refine nJ ?_)<;>conv=>whnf))
 all_goals rfl
theorem q80 (w : Wish) (p : Piece) (hw : w.cs.length <= 1000000) : FnA Tryz.prog 80 [.agg w.av, .agg p.av] (· = .int .i64 (suitV w p)) := by
 have hL : (w.cs.map jAV).length = w.cs.length := by simp
 have e2 := q74 p.sz w.lo w.hi
 refine fnA 2 ok80 (by simp) ?_
 (conv=>whnf);(repeat'((first|apply bT|apply bF|apply bN|((first|apply bD|apply bEq|apply bNe)<;>intro hh<;>try(exfalso;omega))|refine wJ ?_|refine nJ ?_)<;>conv=>whnf))
 refine loop_i (α := Nat × Bool) (fun q => [(6, .int .i64 q.1), (5, .bool q.2), (3, .own 1 0), (2, .own 0 0)]) (fun q => [.box false w.av, .box false p.av]) (fun q => q.1 <= w.cs.length /\ (q.2 = true <-> p.col ∈ w.cs.take q.1)) (fun q => w.cs.length - q.1) (0, false) mI ⟨by simp, by simp⟩ ?_
 rintro ⟨k, b⟩ ⟨k1, k2⟩
 dsimp only at k1 k2 ⊢
 conv => whnf
 refine bD (fun h3' => ?_) (fun h3' => ?_)
 ·have hk : k < w.cs.length := by omega
  have g1 := jget (l := w.cs) (i := k) hk
  have hgk : w.cs.getD k 0 = w.cs[k] := by simp [List.getD_eq_getElem?_getD, hk]
  have hmem : ∀ b' : Bool, (b' = true <-> p.col ∈ w.cs.take k \/ w.cs.getD k 0 = p.col) -> (b' = true <-> p.col ∈ w.cs.take (k + 1)) := fun b' hb => by
   rw [hb, List.take_succ_eq_append_getElem hk, List.mem_append, List.mem_singleton, hgk]
   constructor
   ·rintro (h | h)
    ·exact .inl h
    ·exact .inr h.symm
   ·rintro (h | h)
    ·exact .inl h
    ·exact .inr h.symm
  cases b with
  | true =>
   (conv=>whnf);(repeat'((first|apply bT|apply bF|apply bN|((first|apply bD|apply bEq|apply bNe)<;>intro hh<;>try(exfalso;omega))|refine wJ ?_|refine nJ ?_)<;>conv=>whnf))
   exact ⟨(k + 1, true), mI, ⟨by dsimp only; omega, hmem true (by simp [k2.1 rfl])⟩, by dsimp only; omega⟩
  | false =>
   have k3 : p.col ∉ w.cs.take k := fun h => by cases k2.2 h
   (conv=>whnf);(repeat'((first|apply bT|apply bF|apply bN|((first|apply bD|apply bEq|apply bNe)<;>intro hh<;>try(exfalso;omega))|refine iaJ g1 ?_|refine wJ ?_|refine nJ ?_)<;>conv=>whnf))
   exact ⟨(k + 1, decide (w.cs.getD k 0 = p.col)), mI, ⟨by dsimp only; omega, hmem _ (by simp [k3])⟩, by dsimp only; omega⟩
 have : k = w.cs.length := by omega
 subst this
 rw [List.take_length] at k2
 cases b with
 | false =>
  have h1 : p.col ∉ w.cs := fun h => by cases k2.2 h
  rw [show suitV w p = 0 from if_neg fun h => h1 h.1]
  (conv=>whnf);(repeat'((first|apply bT|apply bF|apply bN|((first|apply bD|apply bEq|apply bNe)<;>intro hh<;>try(exfalso;omega))|refine wJ ?_|refine nJ ?_)<;>conv=>whnf))
  all_goals rfl
 | true =>
 have h1 := k2.1 rfl
 by_cases h2 : w.lo <= p.sz /\ p.sz <= w.hi
 case neg =>
  rw [decide_eq_false h2] at e2
  rw [show suitV w p = 0 from if_neg fun h => h2 h.2]
  (conv=>whnf);(repeat'((first|apply bT|apply bF|apply bN|((first|apply bD|apply bEq|apply bNe)<;>intro hh<;>try(exfalso;omega))|refine e2.cq rfl rfl ?_|refine wJ ?_|refine nJ ?_)<;>conv=>whnf))
  all_goals rfl
 rw [decide_eq_true h2] at e2
 rw [show suitV w p = (if p.let_ = w.let_ then 1 else if p.let_ = 0 then 2 else 0) from if_pos ⟨h1, h2⟩]
 by_cases h3 : p.let_ = w.let_
 ·rw [if_pos h3]
  (conv=>whnf);(repeat'((first|apply bT|apply bF|apply bN|((first|apply bD|apply bEq|apply bNe)<;>intro hh<;>try(exfalso;omega))|refine e2.cq rfl rfl ?_|refine wJ ?_|refine nJ ?_)<;>conv=>whnf))
  all_goals rfl
 rw [if_neg h3]
 by_cases h4 : p.let_ = 0
 ·rw [if_pos h4]
  (conv=>whnf);(repeat'((first|apply bT|apply bF|apply bN|((first|apply bD|apply bEq|apply bNe)<;>intro hh<;>try(exfalso;omega))|refine e2.cq rfl rfl ?_|refine wJ ?_|refine nJ ?_)<;>conv=>whnf))
  all_goals rfl
 rw [if_neg h4]
 (conv=>whnf);(repeat'((first|apply bT|apply bF|apply bN|((first|apply bD|apply bEq|apply bNe)<;>intro hh<;>try(exfalso;omega))|refine e2.cq rfl rfl ?_|refine wJ ?_|refine nJ ?_)<;>conv=>whnf))
 all_goals rfl
theorem q36 (a b : List Int) (ha : a.length <= 1000000) : FnA Tryz.prog 36 [.isl (a.map jAV), .isl (b.map jAV)] (· = .bool (decide (a = b))) := by
 have l1 : (a.map jAV).length = a.length := by simp
 have l2 : (b.map jAV).length = b.length := by simp
 refine fnA 0 ok36 (by simp) ?_
 by_cases hl : a.length = b.length
 case neg =>
  rw [decide_eq_false fun h : a = b => hl (by rw [h])]
  (conv=>whnf);(repeat'((first|apply bT|apply bF|apply bN|((first|apply bD|apply bEq|apply bNe)<;>intro hh<;>try(exfalso;omega))|refine wJ ?_|refine nJ ?_)<;>conv=>whnf))
  all_goals rfl
 (conv=>whnf);(repeat'((first|apply bT|apply bF|apply bN|((first|apply bD|apply bEq|apply bNe)<;>intro hh<;>try(exfalso;omega))|refine wJ ?_|refine nJ ?_)<;>conv=>whnf))
 refine loop_i (α := Nat) (fun k => [(5, .int .i64 k), (1, .isl (b.map jAV)), (0, .isl (a.map jAV))]) (fun k => []) (fun k => k <= a.length /\ a.take k = b.take k) (fun k => a.length - k) 0 mI ⟨by omega, by simp⟩ ?_
 rintro k ⟨hk0, hin⟩
 conv => whnf
 refine bD (fun h4 => ?_) (fun h4 => ?_)
 ·have hk : k < a.length := by omega
  have hkb : k < b.length := by omega
  conv => whnf
  refine iaJ (getM jAV a k hk) ?_
  (conv=>whnf);(repeat'((first|apply bT|apply bF|apply bN|((first|apply bD|apply bEq|apply bNe)<;>intro hh<;>try(exfalso;omega))|refine wJ ?_|refine nJ ?_)<;>conv=>whnf))
  refine iaJ (getM jAV b k hkb) ?_
  by_cases he : a[k] = b[k]
  ·(conv=>whnf);(repeat'((first|apply bT|apply bF|apply bN|((first|apply bD|apply bEq|apply bNe)<;>intro hh<;>try(exfalso;omega))|refine wJ ?_|refine nJ ?_)<;>conv=>whnf))
   refine ⟨k + 1, mI, ⟨by omega, ?_⟩, by omega⟩
   rw [List.take_succ_eq_append_getElem hk, List.take_succ_eq_append_getElem hkb, hin, he]
  ·rw [decide_eq_false fun h : a = b => he (by subst h; rfl)]
   (conv=>whnf);(repeat'((first|apply bT|apply bF|apply bN|((first|apply bD|apply bEq|apply bNe)<;>intro hh<;>try(exfalso;omega))|refine wJ ?_|refine nJ ?_)<;>conv=>whnf))
   all_goals rfl
 ·have : k = a.length := by omega
  rw [this, List.take_length, List.take_of_length_le (by omega)] at hin
  rw [decide_eq_true hin]
  (conv=>whnf);(repeat'((first|apply bT|apply bF|apply bN|((first|apply bD|apply bEq|apply bNe)<;>intro hh<;>try(exfalso;omega))|refine wJ ?_|refine nJ ?_)<;>conv=>whnf))
  all_goals rfl
def Ord.isW (s : Ord) (i : Int) : Bool := decide (0 <= i /\ i < s.ws.length)
def Ord.isP (s : Ord) (i : Int) : Bool := decide (0 <= i /\ i < s.ps.length)
def Ord.isD (s : Ord) (i : Int) : Bool := decide (0 <= i /\ i < s.ds.length)
theorem q61 (s : Ord) (i : Int) (h : s.ws.length <= 1000000) : FnA Tryz.prog 61 [.agg s.cells, .int .i64 i] (· = .bool (s.isW i)) := by
 have hL : (s.ws.map Wish.av).length = s.ws.length := by simp
 have e := q104 i 0 (↑(s.ws.map Wish.av).length - 1)
 have h2 : decide (0 <= i /\ i <= ↑(s.ws.map Wish.av).length - 1) = s.isW i := decide_eq_decide.2 (by omega)
 rw [h2] at e
 refine fnA 1 ok61 (by simp) ?_
 (conv=>whnf);(repeat'((first|apply bT|apply bF|apply bN|((first|apply bD|apply bEq|apply bNe)<;>intro hh<;>try(exfalso;omega))|refine e.cq rfl rfl ?_|refine wJ ?_|refine nJ ?_)<;>conv=>whnf))
 all_goals rfl
theorem q77 (s : Ord) (i : Int) (h : s.ps.length <= 1000000) : FnA Tryz.prog 77 [.agg s.cells, .int .i64 i] (· = .bool (s.isP i)) := by
 have hL : (s.ps.map Piece.av).length = s.ps.length := by simp
 have e := q104 i 0 (↑(s.ps.map Piece.av).length - 1)
 have h2 : decide (0 <= i /\ i <= ↑(s.ps.map Piece.av).length - 1) = s.isP i := decide_eq_decide.2 (by omega)
 rw [h2] at e
 refine fnA 1 ok77 (by simp) ?_
 (conv=>whnf);(repeat'((first|apply bT|apply bF|apply bN|((first|apply bD|apply bEq|apply bNe)<;>intro hh<;>try(exfalso;omega))|refine e.cq rfl rfl ?_|refine wJ ?_|refine nJ ?_)<;>conv=>whnf))
 all_goals rfl
theorem q68 (s : Ord) (i : Int) (h : s.ds.length <= 1000000) : FnA Tryz.prog 68 [.agg s.cells, .int .i64 i] (· = .bool (s.isD i)) := by
 have hL : (s.ds.map Dlv.av).length = s.ds.length := by simp
 have e := q104 i 0 (↑(s.ds.map Dlv.av).length - 1)
 have h2 : decide (0 <= i /\ i <= ↑(s.ds.map Dlv.av).length - 1) = s.isD i := decide_eq_decide.2 (by omega)
 rw [h2] at e
 refine fnA 1 ok68 (by simp) ?_
 (conv=>whnf);(repeat'((first|apply bT|apply bF|apply bN|((first|apply bD|apply bEq|apply bNe)<;>intro hh<;>try(exfalso;omega))|refine e.cq rfl rfl ?_|refine wJ ?_|refine nJ ?_)<;>conv=>whnf))
 all_goals rfl
theorem q79 (s : Ord) (i : Int) (h : s.ws.length <= 1000000) : FnA Tryz.prog 79 [.agg s.cells, .int .i64 i] (· = .bool (s.isW i)) := by
 have hL : (s.ws.map Wish.av).length = s.ws.length := by simp
 have e := q74 i 0 (↑(s.ws.map Wish.av).length - 1)
 have h2 : decide (0 <= i /\ i <= ↑(s.ws.map Wish.av).length - 1) = s.isW i := decide_eq_decide.2 (by omega)
 rw [h2] at e
 refine fnA 1 ok79 (by simp) ?_
 (conv=>whnf);(repeat'((first|apply bT|apply bF|apply bN|((first|apply bD|apply bEq|apply bNe)<;>intro hh<;>try(exfalso;omega))|refine e.cq rfl rfl ?_|refine wJ ?_|refine nJ ?_)<;>conv=>whnf))
 all_goals rfl
theorem q52 (s : Ord) (i : Int) (h : s.ps.length <= 1000000) : FnA Tryz.prog 52 [.agg s.cells, .int .i64 i] (· = .bool (s.isP i)) := by
 have hL : (s.ps.map Piece.av).length = s.ps.length := by simp
 have e := q74 i 0 (↑(s.ps.map Piece.av).length - 1)
 have h2 : decide (0 <= i /\ i <= ↑(s.ps.map Piece.av).length - 1) = s.isP i := decide_eq_decide.2 (by omega)
 rw [h2] at e
 refine fnA 1 ok52 (by simp) ?_
 (conv=>whnf);(repeat'((first|apply bT|apply bF|apply bN|((first|apply bD|apply bEq|apply bNe)<;>intro hh<;>try(exfalso;omega))|refine e.cq rfl rfl ?_|refine wJ ?_|refine nJ ?_)<;>conv=>whnf))
 all_goals rfl
def zP : Piece := ⟨0, 0, 0, 0, []⟩
def zW : Wish := ⟨[], 0, 0, 0, 0, 0⟩
def Ord.piece (s : Ord) (i : Int) : Piece := s.ps.getD i.toNat zP
def Ord.wish (s : Ord) (i : Int) : Wish := s.ws.getD i.toNat zW
theorem isW_iff {s : Ord} {i : Int} : s.isW i = true <-> 0 <= i /\ i < s.ws.length := decide_eq_true_iff
theorem isP_iff {s : Ord} {i : Int} : s.isP i = true <-> 0 <= i /\ i < s.ps.length := decide_eq_true_iff
theorem isD_iff {s : Ord} {i : Int} : s.isD i = true <-> 0 <= i /\ i < s.ds.length := decide_eq_true_iff
theorem wget {s : Ord} {i : Int} (h : s.isW i = true) : (s.ws.map Wish.av).getD i.toNat [] = (s.wish i).av := by
 have h := isW_iff.1 h
 have : i.toNat < s.ws.length := by omega
 rw [getM Wish.av s.ws _ this]
 unfold Ord.wish; simp [List.getD_eq_getElem?_getD, this]
theorem pget {s : Ord} {i : Int} (h : s.isP i = true) : (s.ps.map Piece.av).getD i.toNat [] = (s.piece i).av := by
 have h := isP_iff.1 h
 have : i.toNat < s.ps.length := by omega
 rw [getM Piece.av s.ps _ this]
 unfold Ord.piece; simp [List.getD_eq_getElem?_getD, this]
theorem wish_mem {s : Ord} {i : Int} (h : s.isW i = true) : s.wish i ∈ s.ws := by
 have h := isW_iff.1 h
 have : i.toNat < s.ws.length := by omega
 unfold Ord.wish; simp [List.getD_eq_getElem?_getD, this]
theorem piece_mem {s : Ord} {i : Int} (h : s.isP i = true) : s.piece i ∈ s.ps := by
 have h := isP_iff.1 h
 have : i.toNat < s.ps.length := by omega
 unfold Ord.piece; simp [List.getD_eq_getElem?_getD, this]
theorem e1_val (s : Ord) (v : Bool) : s.e1 v = 0 \/ s.e1 v = 1 \/ s.e1 v = 70 \/ s.e1 v = 71 \/ s.e1 v = 80 := by
 unfold Ord.e1
 rcases ochk_val s with h | h | h | h <;> rw [h] <;> simp
 cases v <;> simp
theorem e1_0 {s : Ord} {v : Bool} (h : s.e1 v = 0) : s.chk = 0 /\ v = true := by
 unfold Ord.e1 at h
 rcases ochk_val s with h1 | h1 | h1 | h1 <;> rw [h1] at h <;> simp at h
 cases v <;> simp at h
 exact ⟨h1, rfl⟩
theorem q33 (s : Ord) (hB : BigO s) (i j : Int) : FnA Tryz.prog 33 [.agg s.cells, .int .i64 i, .int .i64 j] (· = .tup [.int .i64 (if s.e1 (s.isW i && s.isP j) = 0 then suitV (s.wish i) (s.piece j) else 0), .int .i64 (s.e1 (s.isW i && s.isP j))]) := by
 have l1 : (s.ws.map Wish.av).length = s.ws.length := by simp
 have l2 : (s.ps.map Piece.av).length = s.ps.length := by simp
 have b1 := hB.ws
 have b2 := hB.ps
 have e1 := q61 s i hB.ws
 have e2 := q77 s j hB.ps
 have e3 := q67 s hB (s.isW i && s.isP j)
 by_cases h : s.e1 (s.isW i && s.isP j) = 0
 ·rw [if_pos h]
  have hv := (e1_0 h).2
  rw [h] at e3 ⊢
  rw [Bool.and_eq_true] at hv
  obtain ⟨h1, h2⟩ := hv
  have i1 := isW_iff.1 h1
  have i2 := isP_iff.1 h2
  rw [h1] at e1 e3
  rw [h2] at e2 e3
  have e4 := q78 (s.wish i) (s.piece j) (hB.cs _ (wish_mem h1))
  refine fnA 1 ok33 (by simp) ?_
  (conv=>whnf);(repeat'((first|apply bT|apply bF|apply bN|((first|apply bD|apply bEq|apply bNe)<;>intro hh<;>try(exfalso;omega))|refine e1.cq rfl rfl ?_|refine e2.cq rfl rfl ?_|refine e3.cq rfl rfl ?_|refine e4.cq rfl rfl ?_|refine iaJ (wget h1) ?_|refine iaJ (pget h2) ?_|refine wJ ?_|refine nJ ?_)<;>conv=>whnf))
  all_goals rfl
 ·rw [if_neg h]
  refine fnA 1 ok33 (by simp) ?_
  generalize s.isW i = v1 at *
  generalize s.isP j = v2 at *
  cases v1
  ·rcases e1_val s (false && v2) with h1 | h1 | h1 | h1 | h1 <;> first | exact absurd h1 h | skip
   all_goals
    rw [h1] at e3 ⊢
    (conv=>whnf);(repeat'((first|apply bT|apply bF|apply bN|((first|apply bD|apply bEq|apply bNe)<;>intro hh<;>try(exfalso;omega))|refine e1.cq rfl rfl ?_|refine e3.cq rfl rfl ?_|refine wJ ?_|refine nJ ?_)<;>conv=>whnf))
    all_goals rfl
  ·rcases e1_val s (true && v2) with h1 | h1 | h1 | h1 | h1 <;> first | exact absurd h1 h | skip
   all_goals
    rw [h1] at e3 ⊢
    (conv=>whnf);(repeat'((first|apply bT|apply bF|apply bN|((first|apply bD|apply bEq|apply bNe)<;>intro hh<;>try(exfalso;omega))|refine e1.cq rfl rfl ?_|refine e2.cq rfl rfl ?_|refine e3.cq rfl rfl ?_|refine wJ ?_|refine nJ ?_)<;>conv=>whnf))
    all_goals rfl
theorem q34 (s : Ord) (hB : BigO s) (i j : Int) : FnA Tryz.prog 34 [.agg s.cells, .int .i64 i, .int .i64 j] (· = .tup [.int .i64 (if s.e1 (s.isW i && s.isP j) = 0 then suitV (s.wish i) (s.piece j) else 0), .int .i64 (s.e1 (s.isW i && s.isP j))]) := by
 have l1 : (s.ws.map Wish.av).length = s.ws.length := by simp
 have l2 : (s.ps.map Piece.av).length = s.ps.length := by simp
 have b1 := hB.ws
 have b2 := hB.ps
 have e1 := q79 s i hB.ws
 have e2 := q52 s j hB.ps
 have e3 := q32 s hB
 by_cases h : s.e1 (s.isW i && s.isP j) = 0
 ·rw [if_pos h]
  have hv := (e1_0 h)
  rw [hv.1] at e3
  rw [h]
  replace hv := hv.2
  rw [Bool.and_eq_true] at hv
  obtain ⟨h1, h2⟩ := hv
  have i1 := isW_iff.1 h1
  have i2 := isP_iff.1 h2
  rw [h1] at e1
  rw [h2] at e2
  have e4 := q80 (s.wish i) (s.piece j) (hB.cs _ (wish_mem h1))
  refine fnA 1 ok34 (by simp) ?_
  (conv=>whnf);(repeat'((first|apply bT|apply bF|apply bN|((first|apply bD|apply bEq|apply bNe)<;>intro hh<;>try(exfalso;omega))|refine e1.cq rfl rfl ?_|refine e2.cq rfl rfl ?_|refine e3.cq rfl rfl ?_|refine e4.cq rfl rfl ?_|refine iaJ (wget h1) ?_|refine iaJ (pget h2) ?_|refine wJ ?_|refine nJ ?_)<;>conv=>whnf))
  all_goals rfl
 ·rw [if_neg h]
  refine fnA 1 ok34 (by simp) ?_
  unfold Ord.e1 at h ⊢
  generalize s.isW i = v1 at *
  generalize s.isP j = v2 at *
  rcases ochk_val s with h1 | h1 | h1 | h1 <;> rw [h1] at e3 h ⊢
  ·cases v1 <;> cases v2 <;> first | exact absurd rfl h | skip
   all_goals
    (conv=>whnf);(repeat'((first|apply bT|apply bF|apply bN|((first|apply bD|apply bEq|apply bNe)<;>intro hh<;>try(exfalso;omega))|refine e1.cq rfl rfl ?_|refine e2.cq rfl rfl ?_|refine e3.cq rfl rfl ?_|refine wJ ?_|refine nJ ?_)<;>conv=>whnf))
    all_goals rfl
  all_goals
   (conv=>whnf);(repeat'((first|apply bT|apply bF|apply bN|((first|apply bD|apply bEq|apply bNe)<;>intro hh<;>try(exfalso;omega))|refine e3.cq rfl rfl ?_|refine wJ ?_|refine nJ ?_)<;>conv=>whnf))
   all_goals rfl
def planP (n : Nat) (l : List Int) : Prop := (∀ i, i < l.length -> l.getD i 0 = -1 \/ 0 <= l.getD i 0 /\ l.getD i 0 < n) /\ ∀ i j, i < j -> j < l.length -> l.getD j 0 ≠ -1 -> l.getD i 0 ≠ l.getD j 0
noncomputable instance (n : Nat) (l : List Int) : Decidable (planP n l) := Classical.propDecidable _
def Tryz.growD_ren : Go.Shelf.Ren := ⟨fun | 4 => 109 | n => n, fun | 22 => 30 | 25 => 45 | 3 => 3 | 4 => 4 | 9 => 9 | 20 => 20 | 0 => 0 | n => n, fun | n => n⟩
theorem Tryz.growD : Go.Proofs.Lays8.n4 Tryz.prog Tryz.growD_ren := {
 mixed := by kernel_rfl
 f4 := ⟨Tryz.f109.name, by decide, Tryz.func109.trans (congrArg some (by kernel_rfl))⟩
 t0 := Tryz.underlying0
 a0 := Tryz.isAgg0
 z0 := Tryz.sizeOf0
 v0 := Tryz.zeroValue0
 t3 := Tryz.underlying3
 a3 := Tryz.isAgg3
 z3 := Tryz.sizeOf3
 v3 := Tryz.zeroValue3
 t4 := Tryz.underlying4
 a4 := Tryz.isAgg4
 z4 := Tryz.sizeOf4
 v4 := Tryz.zeroValue4
 t9 := Tryz.underlying9
 a9 := Tryz.isAgg9
 z9 := Tryz.sizeOf9
 v9 := Tryz.zeroValue9
 t20 := Tryz.underlying20
 a20 := Tryz.isAgg20
 z20 := Tryz.sizeOf20
 v20 := Tryz.zeroValue20
 t22 := Tryz.underlying30
 a22 := Tryz.isAgg30
 z22 := Tryz.sizeOf30
 v22 := Tryz.zeroValue30 }
theorem info45 : ∃ i z, Tryz.prog.info? 45 = some i /\ i.zero = some z /\ i.size = 3 /\ i.bytes = 24 /\ z.cells.size = 3 := ⟨_, _, rfl, rfl, rfl, rfl, rfl⟩
theorem q109 (n : Nat) (hn : n <= 1000000) : FnO Tryz.prog 109 [.nils, .int .i64 (n : Nat)] (fun r rows => r = .row 0 /\ rows = [(0, .row false 45 3 [])]) := by
 intro imm w vs himm hargs
 simp only [RV0s, RV0] at hargs
 obtain ⟨_, _, rfl, rfl, _, _, rfl, rfl, rfl⟩ := hargs
 by_cases h0 : n = 0
 ·subst h0
  have h := Any8.slices_Grow_room Tryz.growD none 0 0 0 w (by omega) (by omega) (by omega) (by omega)
  refine h.mono fun e w' hw => ?_
  obtain ⟨rfl, rfl⟩ := hw
  refine ⟨_, _, _, imm, fun i => if i = 0 then some ⟨0, .slice none 0 0⟩ else none, rfl, ⟨rfl, rfl⟩, ?_, rfl, ?_, Go.RowKit.Below.refl _ _, fun b hb => hb, fun b hb => .inl hb⟩
  ·simp only [RV]; exact ⟨_, rfl, rfl⟩
  ·simp only [OwnRows]
   refine ⟨⟨45, 3, [], ⟨0, .slice none 0 0⟩, [], rfl, rfl, ⟨rfl, .inl ⟨rfl, rfl⟩⟩, ?_, by simp, ?_, by simp⟩, trivial⟩
   ·simp [RV0s]
   ·intro b hb; simp [Value.ownBlock] at hb
 ·obtain ⟨i0, z, hi0, hz0, hs, hb, hzc⟩ := info45
  have h := Any8.slices_Grow_grow Tryz.growD i0 z hi0 hz0 (by omega) none 0 0 n [] w (by omega) (by omega) (by rw [hb]; omega) (by omega) (by simp) (fun _ => rfl) (fun a ha => by cases ha)
  refine h.mono fun e w' hw => ?_
  obtain ⟨rfl, hw⟩ := hw
  have hG : grownCap w (0 + n) 0 (Tryz.growD_ren.t 25) = grownCap w (0 + n) 0 45 := rfl
  have hE : Tryz.growD_ren.t 25 = 45 := rfl
  rw [hE] at hw
  have hGn : 0 + n <= grownCap w (0 + n) 0 45 := grownCap_ge w _ _ _
  have hG63 := grownCap_le_maxLen w (0 + n) 0 45 (by unfold maxLen; omega)
  rw [hE]
  generalize grownCap w (0 + n) 0 45 = G at *
  have hbel : Go.RowKit.Below w.heap.size w w' := by
   subst hw
   exact (Go.RowKit.Below.refl w.heap.size w).drew.alloc (Nat.le_refl _) _
  have hat : w'.heap[w.heap.size]? = some (.cells (#[] ++ Builtin.zeroCells z.cells (0 + n - 0) ++ Builtin.zeroCells z.cells (G - (0 + n))) 45 (0, 0)) := by
   subst hw
   have h := heap_alloc_new (w := w.drew) (.cells (#[] ++ Builtin.zeroCells z.cells (0 + n - 0) ++ Builtin.zeroCells z.cells (G - (0 + n))) 45)
   exact h
  have hsz : ∀ m, (Builtin.zeroCells z.cells m).size = m * 3 := fun m => by
   rw [<- hzc]; exact Go.size_zeroCells _ _
  have hbm : w.heap.size < w'.heap.size := (Array.getElem?_eq_some_iff.1 hat).1
  refine ⟨_, _, _, imm, fun i => if i = 0 then some ⟨w.heap.size, .slice (some ⟨w.heap.size, 0, none⟩) 0 G⟩ else none, rfl, ⟨rfl, rfl⟩, ?_, rfl, ?_, hbel, fun b hb => hb, fun b hb => .inl hb⟩
  ·simp only [RV]; exact ⟨_, rfl, rfl⟩
  ·simp only [OwnRows]
   refine ⟨⟨45, 3, [], ⟨w.heap.size, .slice (some ⟨w.heap.size, 0, none⟩) 0 G⟩, [], rfl, rfl, ⟨rfl, .inr ⟨w.heap.size, G, _, rfl, by omega, hat, by simp, hG63, ?_, by simp⟩⟩, ?_, by simp, ?_, by simp⟩, trivial⟩
   ·simp only [Array.size_append, hsz, Array.size_empty]; omega
   ·simp [RV0s]
   ·intro b hb
    simp only [Value.ownBlock, Option.some.injEq] at hb
    subst hb
    exact ⟨Nat.le_refl _, hbm, fun hi => by have := (himm _ hi).lt; omega⟩
def dsAV (l : List Dlv) : List AV := [.isl (l.map Dlv.av)]
theorem flat_take {LL : List (List Dlv)} {k : Nat} (hk : k < LL.length) : (LL.take (k + 1)).flatten = (LL.take k).flatten ++ LL[k] := by
 rw [List.take_succ_eq_append_getElem hk, List.flatten_append]; simp
theorem flat_le (LL : List (List Dlv)) (k : Nat) : (LL.take k).flatten.length <= LL.flatten.length := by
 have h := congrArg List.length (congrArg List.flatten (List.take_append_drop k LL))
 rw [List.flatten_append, List.length_append] at h
 omega
theorem dl_one (l : List Dlv) : ∀ e ∈ l.map Dlv.av, e.length = 3 /\ e.all AV.one = true := fun e he => by
 obtain ⟨x, _, rfl⟩ := List.mem_map.1 he; exact ⟨rfl, rfl⟩
theorem q69 (LL : List (List Dlv)) (hl : LL.length <= 1000) (hf : LL.flatten.length <= 1000000) : FnA Tryz.prog 69 [.isl (LL.map dsAV)] (· = .isl (LL.flatten.map Dlv.av)) := by
 have lL : (LL.map dsAV).length = LL.length := by simp
 refine fnA 2 ok69 (by simp) ?_
 (conv=>whnf);(repeat'((first|apply bT|apply bF|apply bN|((first|apply bD|apply bEq|apply bNe)<;>intro hh<;>try(exfalso;omega))|refine wJ ?_|refine nJ ?_)<;>conv=>whnf))
 refine loop_i (α := Nat) (fun k => [(11, .int .i64 k), (10, .int .i64 ↑(LL.map dsAV).length), (9, .isl (LL.map dsAV)), (3, .int .i64 ↑(LL.take k).flatten.length), (0, .isl (LL.map dsAV))]) (fun k => [.fresh, .fresh]) (fun k => k <= LL.length) (fun k => LL.length - k) 0 ?_ (by omega) ?_
 ·simp only [List.take_zero, List.flatten_nil, List.length_nil, Int.natCast_zero]; exact mI
 intro k hk0
 conv => whnf
 refine bD (fun h4 => ?_) (fun h4 => ?_)
 ·have hk : k < LL.length := by omega
  have g1 : (LL.map dsAV).getD k [] = [.isl (LL[k].map Dlv.av)] := getM dsAV LL k hk
  have hft := flat_take hk
  have hle := flat_le LL (k + 1)
  have lk : (LL[k].map Dlv.av).length = LL[k].length := by simp
  have hlen : ((LL.take (k + 1)).flatten.length : Int) = ↑(LL.take k).flatten.length + ↑(LL[k].map Dlv.av).length := by rw [hft, List.length_append, lk]; simp
  have hle2 : (LL.take (k + 1)).flatten.length <= 1000000 := by omega
  (conv=>whnf);(repeat'((first|apply bT|apply bF|apply bN|((first|apply bD|apply bEq|apply bNe)<;>intro hh<;>try(exfalso;omega))|refine iaJ g1 ?_|refine wJ ?_|refine nJ ?_)<;>conv=>whnf))
  refine ⟨k + 1, ?_, by omega, by omega⟩
  simp only [hlen]
  exact mI
 have : k = LL.length := by omega
 subst this
 rw [List.take_length]
 have e1 := q109 LL.flatten.length hf
 clear h4 hk0
 (conv=>whnf);(repeat'((first|apply bT|apply bF|apply bN|((first|apply bD|apply bEq|apply bNe)<;>intro hh<;>try(exfalso;omega))|refine wJ ?_|refine nJ ?_)<;>conv=>whnf))
 refine e1.callzn rfl rfl (fun _ _ h => ?_); obtain ⟨h, k⟩ := h; subst h; subst k; refine ⟨rfl, ?_⟩
 (conv=>whnf);(repeat'((first|apply bT|apply bF|apply bN|((first|apply bD|apply bEq|apply bNe)<;>intro hh<;>try(exfalso;omega))|refine wJ ?_|refine nJ ?_)<;>conv=>whnf))
 refine loop_i (α := Nat) (fun k => [(27, .int .i64 k), (26, .int .i64 ↑(LL.map dsAV).length), (25, .isl (LL.map dsAV)), (6, .row 0)]) (fun k => [.row false 45 3 ((LL.take k).flatten.map Dlv.av), .fresh]) (fun k => k <= LL.length) (fun k => LL.length - k) 0 mI (by omega) ?_
 intro k hk0
 conv => whnf
 refine bD (fun h4 => ?_) (fun h4 => ?_)
 ·have hk : k < LL.length := by omega
  have g1 : (LL.map dsAV).getD k [] = [.isl (LL[k].map Dlv.av)] := getM dsAV LL k hk
  have hft := flat_take hk
  have hle := flat_le LL (k + 1)
  have hm : ((LL.take (k + 1)).flatten).map Dlv.av = (LL.take k).flatten.map Dlv.av ++ LL[k].map Dlv.av := by rw [hft, List.map_append]
  have hn : (LL.take (k + 1)).flatten.length = (LL.take k).flatten.length + LL[k].length := by rw [hft, List.length_append]
  (conv=>whnf);(repeat'((first|apply bT|apply bF|apply bN|((first|apply bD|apply bEq|apply bNe)<;>intro hh<;>try(exfalso;omega))|refine iaJ g1 ?_|refine wJ ?_|refine nJ ?_)<;>conv=>whnf))
  refine apI (dl_one _) (by simp only [List.length_map]; omega) ?_
  (conv=>whnf);(repeat'((first|apply bT|apply bF|apply bN|((first|apply bD|apply bEq|apply bNe)<;>intro hh<;>try(exfalso;omega))|refine wJ ?_|refine nJ ?_)<;>conv=>whnf))
  refine ⟨k + 1, ?_, by omega, by omega⟩
  simp only [hm]
  exact (mR 0 1)
 have : k = LL.length := by omega
 subst this
 rw [List.take_length]
 (conv=>whnf);(repeat'((first|apply bT|apply bF|apply bN|((first|apply bD|apply bEq|apply bNe)<;>intro hh<;>try(exfalso;omega))|refine wJ ?_|refine nJ ?_)<;>conv=>whnf))
 all_goals rfl
abbrev JobK := Int × Int
def jobK (j : JobK) : AV := .agg [.int .i64 j.1, .int .i64 j.2]
def jobT : EqT := .node [(0, 1, (.leaf true)), (1, 1, (.leaf true))]
theorem jobK_ok : KeyOk (.st jobT) jobK := ⟨fun _ => rfl, fun x y => by
 have h1 : eqV jobT [.int .i64 x.1, .int .i64 x.2] [.int .i64 y.1, .int .i64 y.2] = some (x.1 == y.1 && (x.2 == y.2 && true)) := rfl
 have h2 : scEq [.int .i64 x.1, .int .i64 x.2] [.int .i64 y.1, .int .i64 y.2] = some (x.1 == y.1 && (x.2 == y.2 && true)) := rfl
 show (match eqV jobT [.int .i64 x.1, .int .i64 x.2] [.int .i64 y.1, .int .i64 y.2], scEq [.int .i64 x.1, .int .i64 x.2] [.int .i64 y.1, .int .i64 y.2] with
  | some r, some q => if r = q then some r else none
  | _, _ => none) = _
 rw [h1, h2]
 simp only [if_true]
 congr 1
 obtain ⟨a, b⟩ := x; obtain ⟨c, d⟩ := y
 by_cases e1 : a = c <;> by_cases e2 : b = d <;> simp [e1, e2]⟩
def isA (l : List Int) : AV := .isl (l.map jAV)
def Ord.fitL (s : Ord) (j : JobK) : List Int := ((List.range s.st.length).map fun i : Nat => (i : Int)).filter fun i => decide (s.w.fitsV i j.1 j.2 = 1)
def Ord.fitK (s : Ord) (j : JobK) (k : Nat) : List Int := ((List.range k).map fun i : Nat => (i : Int)).filter fun i => decide (s.w.fitsV i j.1 j.2 = 1)
theorem fitK_yes {s : Ord} {j : JobK} {k : Nat} (h : s.w.fitsV (k : Nat) j.1 j.2 = 1) : s.fitK j (k + 1) = s.fitK j k ++ [(k : Int)] := by
 unfold Ord.fitK; rw [List.range_succ, List.map_append, List.filter_append]; simp [h]
theorem fitK_no {s : Ord} {j : JobK} {k : Nat} (h : ¬ s.w.fitsV (k : Nat) j.1 j.2 = 1) : s.fitK j (k + 1) = s.fitK j k := by
 unfold Ord.fitK; rw [List.range_succ, List.map_append, List.filter_append]; simp [h]
theorem fitK_len (s : Ord) (j : JobK) (k : Nat) : (s.fitK j k).length <= k := by
 unfold Ord.fitK; have := List.length_filter_le (fun i : Int => decide (s.w.fitsV i j.1 j.2 = 1)) ((List.range k).map fun i : Nat => (i : Int)); simpa using this
def stD (s : Ord) (k : Nat) : List Dlv := (List.range k).map fun i => ⟨0, (i : Nat), s.st.getD i 0⟩
def Ord.sup (s : Ord) : List Dlv := stD s s.st.length ++ s.ds
theorem stD_succ (s : Ord) (k : Nat) : stD s (k + 1) = stD s k ++ [⟨0, (k : Nat), s.st.getD k 0⟩] := by unfold stD; rw [List.range_succ, List.map_append]; rfl
theorem stD_len (s : Ord) (k : Nat) : (stD s k).length = k := by simp [stD]
def MapOk (s : Ord) (F : List (JobK × List Int)) : Prop := ∀ j v, getQ F j = some v -> v = s.fitL j
def Ord.learn1 (s : Ord) (F : List (JobK × List Int)) (j : JobK) : List (JobK × List Int) := match getQ F j with
 | some _ => F
 | none => putQ F j (s.fitL j)
theorem learn_ok {s : Ord} {F : List (JobK × List Int)} (h : MapOk s F) (j : JobK) : MapOk s (s.learn1 F j) := fun k v hk => by
 unfold Ord.learn1 at hk
 split at hk
 ·exact h k v hk
 ·rw [getQ_put] at hk
  split at hk
  ·rename_i e; subst e; cases hk; rfl
  ·exact h k v hk
theorem learn_has (s : Ord) (F : List (JobK × List Int)) (j : JobK) : (getQ (s.learn1 F j) j).isSome = true := by
 unfold Ord.learn1
 split
 ·rename_i v hv; rw [hv]; rfl
 ·rw [getQ_put, if_pos rfl]; rfl
theorem learn_keep {s : Ord} {F : List (JobK × List Int)} {j k : JobK} (h : (getQ F k).isSome = true) : (getQ (s.learn1 F j) k).isSome = true := by
 unfold Ord.learn1
 split
 ·exact h
 ·rw [getQ_put]; split
  ·rfl
  ·exact h
theorem putQ_len {κ V : Type} [DecidableEq κ] (W : List (κ × V)) (x : κ) (w : V) : (putQ W x w).length <= W.length + 1 := by
 induction W with
 | nil => simp [putQ]
 | cons e W ih =>
  obtain ⟨y, v⟩ := e
  simp only [putQ]
  split
  ·simp
  ·simp only [List.length_cons]; omega
theorem learn_len (s : Ord) (F : List (JobK × List Int)) (j : JobK) : (s.learn1 F j).length <= F.length + 1 := by
 unfold Ord.learn1
 split
 ·omega
 ·exact putQ_len _ _ _
def Ord.box (s : Ord) (x9 x10 x11 : AV) : List AV := [.isl (s.w.sps.map Spare.av), .isl (s.w.mks.map mkAV), .int .i64 s.w.cut, .isl (s.w.tb.map Trial.av), .isl (s.st.map jAV), .isl (s.ps.map Piece.av), .isl (s.ws.map Wish.av), .isl (s.ds.map Dlv.av), .int .i64 s.cv, x9, x10, x11]
def lrnIns (s : Ord) (F : List (JobK × List Int)) : List Res := [.box false (s.box (.row 1) (.row 2) .nils), .row false 45 3 (s.sup.map Dlv.av), .mp false (kQ jobK F) (uQ isA F)]
theorem chk0_ok {s : Ord} (h : s.chk = 0) : s.w.chk = 0 /\ okOrd s = true := by
 unfold Ord.chk at h
 rcases chk_val s.w with h1 | h1 | h1 <;> rw [h1] at h <;> simp at h
 ·cases hb : okOrd s with
  | true => exact ⟨h1, rfl⟩
  | false => rw [hb] at h; simp at h
structure OkO (s : Ord) : Prop where
 w : Ok s.w
 chk : s.w.chk = 0
 st1 : s.st.length = s.w.sps.length
 st2 : ∀ n ∈ s.st, 0 <= n /\ n <= 10
 p1 : s.ps.length <= 8
 p2 : ∀ p ∈ s.ps, okPi s.w p = true
 w1 : s.ws.length <= 6
 w2 : ∀ w ∈ s.ws, okWi w = true
 d1 : s.ds.length <= 8
 d2 : ∀ d ∈ s.ds, okDl s.st.length d = true
 cv : 0 <= s.cv /\ s.cv <= 99
theorem okO {s : Ord} (h : s.chk = 0) : OkO s := by
 obtain ⟨h1, h2⟩ := chk0_ok h
 unfold okOrd at h2
 simp only [Bool.and_eq_true, List.all_eq_true, decide_eq_true_eq] at h2
 obtain ⟨⟨⟨⟨⟨⟨⟨⟨a1, a2⟩, a3⟩, a4⟩, a5⟩, a6⟩, a7⟩, a8⟩, a9⟩ := h2
 exact ⟨chk_ok h1, h1, a1, a2, a3, a4, a5, a6, a7, a8, of_decide_eq_true a9⟩
theorem OkO.big {s : Ord} (h : OkO s) : s.w.sps.length <= 1000000 /\ s.w.mks.length <= 1000000 /\ ∀ x ∈ s.w.mks, x.length <= 1000000 := by
 have := h.w.big
 exact ⟨this.s, this.m, fun x hx => (this.sl x hx).1⟩
theorem eO_true {w : Shop} (h1 : w.chk = 0) (h2 : w.noT = false) : w.eO true = 0 := by unfold Shop.eO; rw [h1, h2]; rfl
def Ord.isJ (s : Ord) (j : JobK) : Bool := s.w.isSl j.1 j.2
theorem w95 (s : Ord) (hk : OkO s) (hT : s.w.noT = false) (F : List (JobK × List Int)) (hF : F.length <= 1000) (j : JobK) (hj : s.isJ j = true) : FnW Tryz.prog 95 [.own 0 0, .agg [.int .i64 j.1, .int .i64 j.2]] (lrnIns s F) (fun r outs => r = .tup [] /\ outs = lrnIns s (s.learn1 F j)) := by
 have hst := hk.st1
 have hs1 := hk.w.s1
 have lS : (s.st.map jAV).length = s.st.length := by simp
 have hlk := mlook_Q jobK_ok isA F j
 obtain ⟨b1, b2, b3⟩ := hk.big
 refine fnW 4 [] ok95 (by simp) rfl rfl ?_
 cases hg : getQ F j with
 | some v =>
  have hl : s.learn1 F j = F := by unfold Ord.learn1; rw [hg]
  rw [hg] at hlk
  rw [hl]
  (conv=>whnf);(repeat'((first|apply bT|apply bF|apply bN|((first|apply bD|apply bEq|apply bNe)<;>intro hh<;>try(exfalso;omega))|refine wJ ?_|refine nJ ?_)<;>conv=>whnf))
  refine lkI hlk ?_
  (conv=>whnf);(repeat'((first|apply bT|apply bF|apply bN|((first|apply bD|apply bEq|apply bNe)<;>intro hh<;>try(exfalso;omega))|refine wJ ?_|refine nJ ?_)<;>conv=>whnf))
  all_goals exact ⟨rfl, rfl⟩
 | none =>
  have hl : s.learn1 F j = putQ F j (s.fitL j) := by unfold Ord.learn1; rw [hg]
  have hmp := mput_Q jobK_ok isA F j (s.fitL j)
  rw [hg] at hlk
  rw [hl]
  (conv=>whnf);(repeat'((first|apply bT|apply bF|apply bN|((first|apply bD|apply bEq|apply bNe)<;>intro hh<;>try(exfalso;omega))|refine wJ ?_|refine nJ ?_)<;>conv=>whnf))
  refine lkI hlk ?_
  (conv=>whnf);(repeat'((first|apply bT|apply bF|apply bN|((first|apply bD|apply bEq|apply bNe)<;>intro hh<;>try(exfalso;omega))|refine wJ ?_|refine nJ ?_)<;>conv=>whnf))
  refine loop_i (α := Nat) (fun k => [(26, .int .i64 k), (25, .int .i64 ↑(s.st.map jAV).length), (6, .row 3), (3, .own 0 0), (0, .own 4 0)]) (fun k => [.box false [.int .i64 j.1, .int .i64 j.2], .fresh, .fresh, .row false 3 1 ((s.fitK j k).map jAV), .box false (s.box (.row 5) (.row 6) .nils), .row false 45 3 (s.sup.map Dlv.av), .mp false (kQ jobK F) (uQ isA F)]) (fun k => k <= s.st.length) (fun k => s.st.length - k) 0 (mN 3) (by omega) ?_
  intro k hk0
  conv => whnf
  refine bD (fun h3 => ?_) (fun h3 => ?_)
  ·have hkl : k < s.st.length := by omega
   have hsp : s.w.isSp (k : Nat) = true := isSp_iff.2 ⟨by omega, by omega⟩
   have hE : s.w.eO (s.w.isSp (k : Nat) && s.w.isSl j.1 j.2) = 0 := by
    have hj' : s.w.isSl j.1 j.2 = true := hj
    rw [hsp, hj']; exact eO_true hk.chk hT
   have e1 := p21 s.w (k : Nat) j.1 j.2 b1 b2 b3 hE
   have hfl := fitK_len s j k
   have lf : ((s.fitK j k).map jAV).length = (s.fitK j k).length := by simp
   by_cases hx : s.w.fitsV (k : Nat) j.1 j.2 = 1
   ·have hs : (s.fitK j (k + 1)).map jAV = (s.fitK j k).map jAV ++ [[.int .i64 (k : Nat)]] := by rw [fitK_yes hx, List.map_append]; rfl
    rw [hx] at e1
    (conv=>whnf);(repeat'((first|apply bT|apply bF|apply bN|((first|apply bD|apply bEq|apply bNe)<;>intro hh<;>try(exfalso;omega))|refine e1.cq rfl rfl ?_|refine wJ ?_|refine nJ ?_)<;>conv=>whnf))
    refine apI (by simp [AV.one]) (by simp; omega) ?_
    (conv=>whnf);(repeat'((first|apply bT|apply bF|apply bN|((first|apply bD|apply bEq|apply bNe)<;>intro hh<;>try(exfalso;omega))|refine wJ ?_|refine nJ ?_)<;>conv=>whnf))
    refine ⟨k + 1, ?_, by omega, by omega⟩
    simp only [hs]
    exact (mR 3 2)
   ·have hs := fitK_no (s := s) (j := j) (k := k) hx
    rcases fits_3 s.w (k : Nat) j.1 j.2 with h | h | h
    ·exact absurd h hx
    all_goals
     rw [h] at e1
     (conv=>whnf);(repeat'((first|apply bT|apply bF|apply bN|((first|apply bD|apply bEq|apply bNe)<;>intro hh<;>try(exfalso;omega))|refine e1.cq rfl rfl ?_|refine wJ ?_|refine nJ ?_)<;>conv=>whnf))
     refine ⟨k + 1, ?_, by omega, by omega⟩
     simp only [hs]
     exact mI
  ·have : k = s.st.length := by omega
   subst this
   (conv=>whnf);(repeat'((first|apply bT|apply bF|apply bN|((first|apply bD|apply bEq|apply bNe)<;>intro hh<;>try(exfalso;omega))|refine wJ ?_|refine nJ ?_)<;>conv=>whnf))
   refine mpI hmp ?_
   (conv=>whnf);(repeat'((first|apply bT|apply bF|apply bN|((first|apply bD|apply bEq|apply bNe)<;>intro hh<;>try(exfalso;omega))|refine wJ ?_|refine nJ ?_)<;>conv=>whnf))
   all_goals exact ⟨rfl, rfl⟩
structure Opt where
 pc : Int
 rep : List (List Int)
def Opt.av (o : Opt) : List AV := [.int .i64 o.pc, .isl (o.rep.map fAV)]
def optsAV (l : List Opt) : List AV := [.isl (l.map Opt.av)]
def Ord.stC (s : Ord) (F : List (JobK × List Int)) (O : List (List Opt)) : List AV := s.box (.isl (s.sup.map Dlv.av)) (.imp (kQ jobK F) (uQ isA F)) (.isl (O.map optsAV))
def stIns (s : Ord) (F : List (JobK × List Int)) (O : List (List Opt)) : List Res := [.box false (s.box (.row 1) (.row 2) (.row 3)), .row false 45 3 (s.sup.map Dlv.av), .mp false (kQ jobK F) (uQ isA F), .row false 96 1 (O.map optsAV)]
def Ord.su (s : Ord) (i : Nat) : Dlv := s.sup.getD i ⟨0, 0, 0⟩
def Ord.serves (s : Ord) (l : List Int) (by_ : Int) (i : Nat) : Bool := decide ((s.su i).day <= by_) && decide ((s.su i).sp ∈ l)
def Ord.inK (s : Ord) (l : List Int) (by_ : Int) (k : Nat) : List Int := ((List.range k).filter (s.serves l by_)).map fun i : Nat => (i : Int)
def Ord.inT (s : Ord) (l : List Int) (by_ : Int) : List Int := s.inK l by_ s.sup.length
theorem inK_yes {s : Ord} {l : List Int} {b : Int} {k : Nat} (h : s.serves l b k = true) : s.inK l b (k + 1) = s.inK l b k ++ [(k : Int)] := by
 unfold Ord.inK; rw [List.range_succ, List.filter_append, List.map_append]; simp [h]
theorem inK_no {s : Ord} {l : List Int} {b : Int} {k : Nat} (h : s.serves l b k = false) : s.inK l b (k + 1) = s.inK l b k := by
 unfold Ord.inK; rw [List.range_succ, List.filter_append, List.map_append]; simp [h]
theorem inK_len (s : Ord) (l : List Int) (b : Int) (k : Nat) : (s.inK l b k).length <= k := by
 unfold Ord.inK; have := List.length_filter_le (s.serves l b) (List.range k); simpa using this
theorem inT_mem {s : Ord} {l : List Int} {b : Int} {x : Int} : x ∈ s.inT l b <-> (0 <= x /\ x < s.sup.length) /\ s.serves l b x.toNat = true := by
 unfold Ord.inT Ord.inK
 simp only [List.mem_map, List.mem_filter, List.mem_range]
 constructor
 ·rintro ⟨n, ⟨h1, h2⟩, rfl⟩; exact ⟨by omega, by simpa using h2⟩
 ·rintro ⟨h1, h2⟩; exact ⟨x.toNat, ⟨by omega, h2⟩, by omega⟩
theorem sup_len {s : Ord} (hk : OkO s) : s.sup.length <= 18 := by
 have := hk.st1; have := hk.w.s1; have := hk.d1
 unfold Ord.sup; rw [List.length_append, stD_len]; omega
theorem suget {s : Ord} {k : Nat} (h : k < s.sup.length) : (s.sup.map Dlv.av).getD k [] = (s.su k).av := by
 rw [getM Dlv.av s.sup k h]; unfold Ord.su; simp [List.getD_eq_getElem?_getD, h]
theorem w133 (s : Ord) (hk : OkO s) (F : List (JobK × List Int)) (O : List (List Opt)) (l : List Int) (hl : l.length <= 1000000) (b : Int) : FnW Tryz.prog 133 [.own 0 0, .isl (l.map jAV), .int .i64 b] (stIns s F O) (fun r outs => r = .isl ((s.inT l b).map jAV) /\ outs = stIns s F O) := by
 have hsl := sup_len hk
 have lS : (s.sup.map Dlv.av).length = s.sup.length := by simp
 refine fnW 4 [] ok133 (by simp) rfl rfl ?_
 (conv=>whnf);(repeat'((first|apply bT|apply bF|apply bN|((first|apply bD|apply bEq|apply bNe)<;>intro hh<;>try(exfalso;omega))|refine wJ ?_|refine nJ ?_)<;>conv=>whnf))
 refine loop_i (α := Nat) (fun k => [(15, .int .i64 k), (14, .int .i64 ↑(s.sup.map Dlv.av).length), (13, .row 5), (7, .row 3), (2, .int .i64 b), (1, .isl (l.map jAV))]) (fun k => [.fresh, .fresh, .fresh, .row false 3 1 ((s.inK l b k).map jAV), .box false (s.box (.row 5) (.row 6) (.row 7)), .row false 45 3 (s.sup.map Dlv.av), .mp false (kQ jobK F) (uQ isA F), .row false 96 1 (O.map optsAV)]) (fun k => k <= s.sup.length) (fun k => s.sup.length - k) 0 (mN 3) (by omega) ?_
 intro k hk0
 conv => whnf
 refine bD (fun h3 => ?_) (fun h3 => ?_)
 ·have hkl : k < s.sup.length := by omega
  have g1 := suget hkl
  have e1 := p89 l (s.su k).sp hl
  have hfl := inK_len s l b k
  have lf : ((s.inK l b k).map jAV).length = (s.inK l b k).length := by simp
  have hyes : s.serves l b k = true -> (s.inK l b (k + 1)).map jAV = (s.inK l b k).map jAV ++ [[.int .i64 (k : Nat)]] := fun h => by rw [inK_yes h, List.map_append]; rfl
  by_cases h1 : (s.su k).day <= b
  ·by_cases h2 : (s.su k).sp ∈ l
   ·have hs := hyes (by unfold Ord.serves; rw [decide_eq_true h1, decide_eq_true h2]; rfl)
    rw [decide_eq_true h2] at e1
    (conv=>whnf);(repeat'((first|apply bT|apply bF|apply bN|((first|apply bD|apply bEq|apply bNe)<;>intro hh<;>try(exfalso;omega))|refine iaJ g1 ?_|refine e1.cq rfl rfl ?_|refine wJ ?_|refine nJ ?_)<;>conv=>whnf))
    refine apI (by simp [AV.one]) (by simp; omega) ?_
    (conv=>whnf);(repeat'((first|apply bT|apply bF|apply bN|((first|apply bD|apply bEq|apply bNe)<;>intro hh<;>try(exfalso;omega))|refine wJ ?_|refine nJ ?_)<;>conv=>whnf))
    refine ⟨k + 1, ?_, by omega, by omega⟩
    simp only [hs]
    exact (mR 3 2)
   ·have hs := inK_no (s := s) (l := l) (b := b) (k := k) (by unfold Ord.serves; rw [decide_eq_true h1, decide_eq_false h2]; rfl)
    rw [decide_eq_false h2] at e1
    (conv=>whnf);(repeat'((first|apply bT|apply bF|apply bN|((first|apply bD|apply bEq|apply bNe)<;>intro hh<;>try(exfalso;omega))|refine iaJ g1 ?_|refine e1.cq rfl rfl ?_|refine wJ ?_|refine nJ ?_)<;>conv=>whnf))
    refine ⟨k + 1, ?_, by omega, by omega⟩
    simp only [hs]
    exact mI
  ·have hs := inK_no (s := s) (l := l) (b := b) (k := k) (by unfold Ord.serves; rw [decide_eq_false h1]; rfl)
   (conv=>whnf);(repeat'((first|apply bT|apply bF|apply bN|((first|apply bD|apply bEq|apply bNe)<;>intro hh<;>try(exfalso;omega))|refine iaJ g1 ?_|refine wJ ?_|refine nJ ?_)<;>conv=>whnf))
   refine ⟨k + 1, ?_, by omega, by omega⟩
   simp only [hs]
   exact mI
 ·have : k = s.sup.length := by omega
  subst this
  (conv=>whnf);(repeat'((first|apply bT|apply bF|apply bN|((first|apply bD|apply bEq|apply bNe)<;>intro hh<;>try(exfalso;omega))|refine wJ ?_|refine nJ ?_)<;>conv=>whnf))
  all_goals exact ⟨rfl, rfl⟩
def Ord.by_ (s : Ord) (i j : Int) : Int := (s.wish i).due - if suitV (s.wish i) (s.piece j) = 2 then s.cv else 0
def Ord.reps (s : Ord) (i j : Int) : List (List Int) := (s.piece j).br.map fun k => s.inT (s.fitL ((s.piece j).mkr, k)) (s.by_ i j)
def Ord.optB (s : Ord) (i j : Int) : Bool := decide (suitV (s.wish i) (s.piece j) ≠ 0) && decide (0 <= s.by_ i j) && (s.piece j).br.all fun k => !(s.fitL ((s.piece j).mkr, k)).isEmpty
def Ord.opt (s : Ord) (i j : Int) : Option Opt := if s.optB i j = true then some ⟨j, s.reps i j⟩ else none
def optAVw (o : Option Opt) : AV := match o with
 | some o => .tup [.agg o.av, .bool true]
 | none => .tup [.agg [.int .i64 0, .nils], .bool false]
structure MapAll (s : Ord) (F : List (JobK × List Int)) : Prop where
 ok : MapOk s F
 all : ∀ p ∈ s.ps, ∀ k ∈ p.br, (getQ F (p.mkr, k)).isSome = true
theorem MapAll.get {s : Ord} {F : List (JobK × List Int)} (h : MapAll s F) {p : Piece} (hp : p ∈ s.ps) {k : Int} (hk : k ∈ p.br) : getQ F (p.mkr, k) = some (s.fitL (p.mkr, k)) := by
 have := h.all p hp k hk
 cases hg : getQ F (p.mkr, k) with
 | none => rw [hg] at this; cases this
 | some v => rw [h.ok _ _ hg]
theorem suit_val (w : Wish) (p : Piece) : suitV w p = 0 \/ suitV w p = 1 \/ suitV w p = 2 := by
 unfold suitV
 split
 ·split
  ·simp
  ·split <;> simp
 ·simp
theorem reps_take {s : Ord} {i j : Int} {k : Nat} (hk : k < (s.piece j).br.length) : (s.reps i j).take (k + 1) = (s.reps i j).take k ++ [s.inT (s.fitL ((s.piece j).mkr, (s.piece j).br[k])) (s.by_ i j)] := by
 unfold Ord.reps
 rw [<- List.map_take, List.take_succ_eq_append_getElem hk, List.map_append, List.map_take]; rfl
theorem fitL_len (s : Ord) (j : JobK) : (s.fitL j).length <= s.st.length := fitK_len s j s.st.length
theorem asc_len_le {l : List Int} {m : Int} (h : ascB l = true) (hb : ∀ x ∈ l, 0 <= x /\ x < m) : (l.length : Int) <= max m 0 := by
 have ha := ascB_iff.1 h
 have hi : ∀ k, k < l.length -> (k : Int) <= l.getD k 0 := fun k => by
  induction k with
  | zero => intro hk; have := (hb (l.getD 0 0) (getD_memI hk)).1; omega
  | succ k ih =>
   intro hk
   have := ih (by omega)
   have := ha k hk
   omega
 by_cases h0 : l.length = 0
 ·omega
 ·have := hi (l.length - 1) (by omega)
  have := (hb (l.getD (l.length - 1) 0) (getD_memI (by omega))).2
  omega
theorem br_le {s : Ord} (hk : OkO s) {p : Piece} (hp : p ∈ s.ps) : p.br.length <= 4 /\ s.w.isMk p.mkr = true /\ ∀ k ∈ p.br, 0 <= k /\ k < (s.w.slots p.mkr).length := by
 have h := hk.p2 _ hp
 unfold okPi at h
 simp only [Bool.and_eq_true, List.all_eq_true, decide_eq_true_eq] at h
 obtain ⟨⟨⟨⟨⟨h1, h2⟩, h3⟩, h4⟩, h5⟩, h6⟩ := h
 have hs := hk.w.slots h4
 have := asc_len_le h5 h6
 exact ⟨by omega, h4, h6⟩
theorem br_len {s : Ord} (hk : OkO s) {p : Piece} (hp : p ∈ s.ps) : p.br.length <= 1000 := by have := (br_le hk hp).1; omega
theorem br_isJ {s : Ord} (hk : OkO s) {p : Piece} (hp : p ∈ s.ps) {k : Int} (h : k ∈ p.br) : s.isJ (p.mkr, k) = true := by
 obtain ⟨_, h1, h2⟩ := br_le hk hp
 exact isSl_iff.2 ⟨h1, h2 k h⟩
theorem w99 (s : Ord) (hk : OkO s) (F : List (JobK × List Int)) (hF : MapAll s F) (O : List (List Opt)) (i j : Int) (hi : s.isW i = true) (hj : s.isP j = true) : FnW Tryz.prog 99 [.own 0 0, .int .i64 i, .int .i64 j] (stIns s F O) (fun r outs => r = optAVw (s.opt i j) /\ outs = stIns s F O) := by
 have i1 := isW_iff.1 hi
 have i2 := isP_iff.1 hj
 have l1 : (s.ws.map Wish.av).length = s.ws.length := by simp
 have l2 : (s.ps.map Piece.av).length = s.ps.length := by simp
 have l3 : ((s.piece j).br.map jAV).length = (s.piece j).br.length := by simp
 have hw1 := hk.w1
 have hp1 := hk.p1
 have hcv := hk.cv
 have hstl := hk.st1
 have hs1 := hk.w.s1
 have hwi := hk.w2 _ (wish_mem hi)
 have hcs : (s.wish i).cs.length <= 8 /\ 0 <= (s.wish i).due /\ (s.wish i).due <= 99 := by
  unfold okWi mark at hwi
  simp only [Bool.and_eq_true, decide_eq_true_eq] at hwi
  omega
 have hpi := hk.p2 _ (piece_mem hj)
 have hbr : (s.piece j).br.length <= 1000 := br_len hk (piece_mem hj)
 have e1 := q78 (s.wish i) (s.piece j) (by omega)
 refine fnW 8 [] ok99 (by simp) rfl rfl ?_
 by_cases h0 : suitV (s.wish i) (s.piece j) = 0
 ·have hO : s.opt i j = none := by unfold Ord.opt Ord.optB; rw [h0]; rfl
  rw [hO]
  rw [h0] at e1
  (conv=>whnf);(repeat'((first|apply bT|apply bF|apply bN|((first|apply bD|apply bEq|apply bNe)<;>intro hh<;>try(exfalso;omega))|refine iaJ (wget hi) ?_|refine iaJ (pget hj) ?_|refine e1.cq rfl rfl ?_|refine wJ ?_|refine nJ ?_)<;>conv=>whnf))
  all_goals exact ⟨rfl, rfl⟩
 have hby : ∀ q, suitV (s.wish i) (s.piece j) = q -> s.by_ i j = (s.wish i).due - if q = 2 then s.cv else 0 := fun q hq => by unfold Ord.by_; rw [hq]
 by_cases hb0 : 0 <= s.by_ i j
 case neg =>
  have hO : s.opt i j = none := by unfold Ord.opt Ord.optB; rw [decide_eq_false hb0]; simp
  rw [hO]
  rcases suit_val (s.wish i) (s.piece j) with h | h | h
  ·exact absurd h h0
  ·have hb := hby _ h
   rw [if_neg (by omega)] at hb
   omega
  ·have hb := hby _ h
   rw [if_pos rfl] at hb
   rw [h] at e1
   (conv=>whnf);(repeat'((first|apply bT|apply bF|apply bN|((first|apply bD|apply bEq|apply bNe)<;>intro hh<;>try(exfalso;omega))|refine iaJ (wget hi) ?_|refine iaJ (pget hj) ?_|refine e1.cq rfl rfl ?_|refine wJ ?_|refine nJ ?_)<;>conv=>whnf))
   all_goals exact ⟨rfl, rfl⟩
 have main : ∀ q, suitV (s.wish i) (s.piece j) = q -> (q = 1 \/ q = 2) -> True := fun _ _ _ => trivial
 clear main
 rcases suit_val (s.wish i) (s.piece j) with h | h | h
 ·exact absurd h h0
 all_goals
  have hb := hby _ h
  simp only [show ((1 : Int) = 2) = False from by simp, if_false, if_true, Int.sub_zero] at hb
  rw [h] at e1
  (conv=>whnf);(repeat'((first|apply bT|apply bF|apply bN|((first|apply bD|apply bEq|apply bNe)<;>intro hh<;>try(exfalso;omega))|refine iaJ (wget hi) ?_|refine iaJ (pget hj) ?_|refine e1.cq rfl rfl ?_|refine wJ ?_|refine nJ ?_)<;>conv=>whnf))
  refine loop_i (α := Nat) (fun k => [(58, .int .i64 k), (57, .int .i64 ↑((s.piece j).br.map jAV).length), (56, .isl ((s.piece j).br.map jAV)), (12, .own 3 0), (11, .int .i64 (s.by_ i j)), (9, .own 2 0), (6, .own 0 0), (0, .own 8 0)]) (fun k => [.box false [.int .i64 0, .nils], .box false (s.wish i).av, .box false (s.piece j).av, .box false [.int .i64 j, .row 7], .fresh, .fresh, .fresh, .row false 27 1 (((s.reps i j).take k).map fAV), .box false (s.box (.row 9) (.row 10) (.row 11)), .row false 45 3 (s.sup.map Dlv.av), .mp false (kQ jobK F) (uQ isA F), .row false 96 1 (O.map optsAV)]) (fun k => k <= (s.piece j).br.length /\ ∀ x ∈ (s.piece j).br.take k, (fun k => !(s.fitL ((s.piece j).mkr, k)).isEmpty) x = true) (fun k => (s.piece j).br.length - k) 0 (by rw [hb]; exact (mN 7)) ⟨by omega, by simp⟩ ?_
  rintro k ⟨hk0, hk2⟩
  conv => whnf
  refine bD (fun h3 => ?_) (fun h3 => ?_)
  ·have hkl : k < (s.piece j).br.length := by omega
   have g1 : ((s.piece j).br.map jAV).getD k [] = [.int .i64 (s.piece j).br[k]] := getM jAV _ k hkl
   have hlk := mlook_Q jobK_ok isA F ((s.piece j).mkr, (s.piece j).br[k])
   rw [hF.get (piece_mem hj) (List.getElem_mem hkl)] at hlk
   have hvl : (s.fitL ((s.piece j).mkr, (s.piece j).br[k])).length <= 1000000 := by have := fitL_len s ((s.piece j).mkr, (s.piece j).br[k]); omega
   have htk := reps_take (s := s) (i := i) (j := j) hkl
   have hno : s.fitL ((s.piece j).mkr, (s.piece j).br[k]) = [] -> s.opt i j = none := fun h => by
    have : ((s.piece j).br.all fun k => !(s.fitL ((s.piece j).mkr, k)).isEmpty) = false := all_not hkl (by rw [h]; rfl)
    unfold Ord.opt Ord.optB; rw [this]; simp
   have hyes := fun hv => take_all (p := fun k => !(s.fitL ((s.piece j).mkr, k)).isEmpty) hkl hk2 hv
   generalize s.fitL ((s.piece j).mkr, (s.piece j).br[k]) = v at hlk hvl htk hno hyes
   generalize (s.piece j).br[k] = x at g1 hlk
   have lv : (v.map jAV).length = v.length := by simp
   (conv=>whnf);(repeat'((first|apply bT|apply bF|apply bN|((first|apply bD|apply bEq|apply bNe)<;>intro hh<;>try(exfalso;omega))|refine iaJ g1 ?_|refine wJ ?_|refine nJ ?_)<;>conv=>whnf))
   refine lkI hlk ?_
   by_cases hv0 : v = []
   ·subst hv0
    rw [hno rfl]
    (conv=>whnf);(repeat'((first|apply bT|apply bF|apply bN|((first|apply bD|apply bEq|apply bNe)<;>intro hh<;>try(exfalso;omega))|refine wJ ?_|refine nJ ?_)<;>conv=>whnf))
    all_goals exact ⟨rfl, rfl⟩
   ·have hv1 : 0 < v.length := List.length_pos_iff.2 hv0
    have e5 := w133 s hk F O v hvl (s.by_ i j)
    have hrl : ((s.reps i j).take k).length <= k := by rw [List.length_take]; omega
    have lrl : (((s.reps i j).take k).map fAV).length = ((s.reps i j).take k).length := by simp
    have hm : ((s.reps i j).take (k + 1)).map fAV = ((s.reps i j).take k).map fAV ++ [[.isl ((s.inT v (s.by_ i j)).map jAV)]] := by rw [htk, List.map_append]; rfl
    have hv2 := hyes (by simpa using hv0)
    (conv=>whnf);(repeat'((first|apply bT|apply bF|apply bN|((first|apply bD|apply bEq|apply bNe)<;>intro hh<;>try(exfalso;omega))|refine wJ ?_|refine nJ ?_)<;>conv=>whnf))
    refine altI ?_ ?_
    all_goals
     (conv=>whnf);(repeat'((first|apply bT|apply bF|apply bN|((first|apply bD|apply bEq|apply bNe)<;>intro hh<;>try(exfalso;omega))|refine wJ ?_|refine nJ ?_)<;>conv=>whnf))
     refine e5.callwq [8, 9, 10, 11] rfl rfl ⟨rfl, rfl, rfl, rfl, trivial⟩ rfl rfl rfl rfl (fun r outs hr => ?_)
     obtain ⟨hr1, ho⟩ := hr; subst hr1; subst ho; refine ⟨⟨rfl, rfl, rfl, rfl⟩, ?_⟩
     (conv=>whnf);(repeat'((first|apply bT|apply bF|apply bN|((first|apply bD|apply bEq|apply bNe)<;>intro hh<;>try(exfalso;omega))|refine wJ ?_|refine nJ ?_)<;>conv=>whnf))
     refine apI (by simp [AV.one]) (by simp; omega) ?_
     (conv=>whnf);(repeat'((first|apply bT|apply bF|apply bN|((first|apply bD|apply bEq|apply bNe)<;>intro hh<;>try(exfalso;omega))|refine wJ ?_|refine nJ ?_)<;>conv=>whnf))
     refine ⟨k + 1, ?_, ⟨by omega, hv2⟩, by omega⟩
     simp only [hm]
     exact (mR 7 6)
  ·have : k = (s.piece j).br.length := by omega
   subst this
   rw [List.take_length] at hk2
   have hO : s.opt i j = some ⟨j, s.reps i j⟩ := by
    unfold Ord.opt Ord.optB
    rw [decide_eq_true h0, decide_eq_true hb0, all_yes hk2]; rfl
   rw [hO]
   have hrt : (s.reps i j).take (s.piece j).br.length = s.reps i j := List.take_of_length_le (by unfold Ord.reps; simp)
   rw [hrt]
   (conv=>whnf);(repeat'((first|apply bT|apply bF|apply bN|((first|apply bD|apply bEq|apply bNe)<;>intro hh<;>try(exfalso;omega))|refine wJ ?_|refine nJ ?_)<;>conv=>whnf))
   all_goals exact ⟨rfl, rfl⟩
def Ord.optK (s : Ord) (i : Int) (k : Nat) : List Opt := (List.range k).filterMap fun j : Nat => s.opt i (j : Nat)
def Ord.opts (s : Ord) (i : Int) : List Opt := s.optK i s.ps.length
theorem optK_some {s : Ord} {i : Int} {k : Nat} {o : Opt} (h : s.opt i (k : Nat) = some o) : s.optK i (k + 1) = s.optK i k ++ [o] := by
 unfold Ord.optK; rw [List.range_succ, List.filterMap_append]; simp [h]
theorem optK_none {s : Ord} {i : Int} {k : Nat} (h : s.opt i (k : Nat) = none) : s.optK i (k + 1) = s.optK i k := by
 unfold Ord.optK; rw [List.range_succ, List.filterMap_append]; simp [h]
theorem optK_len (s : Ord) (i : Int) (k : Nat) : (s.optK i k).length <= k := by
 unfold Ord.optK; have := List.length_filterMap_le (fun j : Nat => s.opt i (j : Nat)) (List.range k); simpa using this
theorem w96 (s : Ord) (hk : OkO s) (F : List (JobK × List Int)) (hF : MapAll s F) (O : List (List Opt)) (i : Int) (hi : s.isW i = true) : FnW Tryz.prog 96 [.own 0 0, .int .i64 i] (stIns s F O) (fun r outs => r = .isl ((s.opts i).map Opt.av) /\ outs = stIns s F O) := by
 have hp1 := hk.p1
 have l2 : (s.ps.map Piece.av).length = s.ps.length := by simp
 refine fnW 5 [] ok96 (by simp) rfl rfl ?_
 (conv=>whnf);(repeat'((first|apply bT|apply bF|apply bN|((first|apply bD|apply bEq|apply bNe)<;>intro hh<;>try(exfalso;omega))|refine wJ ?_|refine nJ ?_)<;>conv=>whnf))
 refine loop_i (α := Nat) (fun k => [(15, .int .i64 k), (14, .int .i64 ↑(s.ps.map Piece.av).length), (5, .row 4), (1, .int .i64 i), (0, .own 5 0)]) (fun k => [.fresh, .fresh, .fresh, .fresh, .row false 102 2 ((s.optK i k).map Opt.av), .box false (s.box (.row 6) (.row 7) (.row 8)), .row false 45 3 (s.sup.map Dlv.av), .mp false (kQ jobK F) (uQ isA F), .row false 96 1 (O.map optsAV)]) (fun k => k <= s.ps.length) (fun k => s.ps.length - k) 0 (mN 4) (by omega) ?_
 intro k hk0
 conv => whnf
 refine bD (fun h3 => ?_) (fun h3 => ?_)
 ·have hkl : k < s.ps.length := by omega
  have hj : s.isP (k : Nat) = true := isP_iff.2 ⟨by omega, by omega⟩
  have e1 := w99 s hk F hF O i (k : Nat) hi hj
  have hfl := optK_len s i k
  have lf : ((s.optK i k).map Opt.av).length = (s.optK i k).length := by simp
  cases hO : s.opt i (k : Nat) with
  | none =>
   have hs := optK_none hO
   rw [hO] at e1
   (conv=>whnf);(repeat'((first|apply bT|apply bF|apply bN|((first|apply bD|apply bEq|apply bNe)<;>intro hh<;>try(exfalso;omega))|refine wJ ?_|refine nJ ?_)<;>conv=>whnf))
   refine e1.callwq [5, 6, 7, 8] rfl rfl ⟨rfl, rfl, rfl, rfl, trivial⟩ rfl rfl rfl rfl (fun r outs hr => ?_)
   obtain ⟨hr1, ho⟩ := hr; subst hr1; subst ho; refine ⟨⟨rfl, rfl, rfl, rfl⟩, ?_⟩
   (conv=>whnf);(repeat'((first|apply bT|apply bF|apply bN|((first|apply bD|apply bEq|apply bNe)<;>intro hh<;>try(exfalso;omega))|refine wJ ?_|refine nJ ?_)<;>conv=>whnf))
   refine ⟨k + 1, ?_, by omega, by omega⟩
   simp only [hs]
   exact mI
  | some o =>
   have hs : (s.optK i (k + 1)).map Opt.av = (s.optK i k).map Opt.av ++ [[.int .i64 o.pc, .isl (o.rep.map fAV)]] := by rw [optK_some hO, List.map_append]; rfl
   rw [hO] at e1
   (conv=>whnf);(repeat'((first|apply bT|apply bF|apply bN|((first|apply bD|apply bEq|apply bNe)<;>intro hh<;>try(exfalso;omega))|refine wJ ?_|refine nJ ?_)<;>conv=>whnf))
   refine e1.callwq [5, 6, 7, 8] rfl rfl ⟨rfl, rfl, rfl, rfl, trivial⟩ rfl rfl rfl rfl (fun r outs hr => ?_)
   obtain ⟨hr1, ho⟩ := hr; subst hr1; subst ho; refine ⟨⟨rfl, rfl, rfl, rfl⟩, ?_⟩
   (conv=>whnf);(repeat'((first|apply bT|apply bF|apply bN|((first|apply bD|apply bEq|apply bNe)<;>intro hh<;>try(exfalso;omega))|refine wJ ?_|refine nJ ?_)<;>conv=>whnf))
   refine apI (by simp [AV.one]) (by simp; omega) ?_
   (conv=>whnf);(repeat'((first|apply bT|apply bF|apply bN|((first|apply bD|apply bEq|apply bNe)<;>intro hh<;>try(exfalso;omega))|refine wJ ?_|refine nJ ?_)<;>conv=>whnf))
   refine ⟨k + 1, ?_, by omega, by omega⟩
   simp only [hs]
   exact (mR 4 3)
 ·have : k = s.ps.length := by omega
  subst this
  (conv=>whnf);(repeat'((first|apply bT|apply bF|apply bN|((first|apply bD|apply bEq|apply bNe)<;>intro hh<;>try(exfalso;omega))|refine wJ ?_|refine nJ ?_)<;>conv=>whnf))
  all_goals exact ⟨rfl, rfl⟩
def Ord.lrnP (s : Ord) (p : Piece) (F : List (JobK × List Int)) (l : List Int) : List (JobK × List Int) := l.foldl (fun F x => s.learn1 F (p.mkr, x)) F
def Ord.mapK (s : Ord) (k : Nat) : List (JobK × List Int) := (s.ps.take k).foldl (fun F p => s.lrnP p F p.br) []
def Ord.mapF (s : Ord) : List (JobK × List Int) := s.mapK s.ps.length
def Ord.optA (s : Ord) (k : Nat) : List (List Opt) := (List.range k).map fun i : Nat => s.opts (i : Nat)
def Ord.optAll (s : Ord) : List (List Opt) := s.optA s.ws.length
theorem lrnP_succ {s : Ord} {p : Piece} {F : List (JobK × List Int)} {l : List Int} {k : Nat} (hk : k < l.length) : s.lrnP p F (l.take (k + 1)) = s.learn1 (s.lrnP p F (l.take k)) (p.mkr, l[k]) := by
 unfold Ord.lrnP; rw [List.take_succ_eq_append_getElem hk, List.foldl_append]; rfl
theorem mapK_succ {s : Ord} {k : Nat} (hk : k < s.ps.length) : s.mapK (k + 1) = s.lrnP s.ps[k] (s.mapK k) s.ps[k].br := by
 unfold Ord.mapK; rw [List.take_succ_eq_append_getElem hk, List.foldl_append]; rfl
theorem lrnP_inv {s : Ord} {p : Piece} : ∀ (l : List Int) (F : List (JobK × List Int)), MapOk s F -> MapOk s (s.lrnP p F l) /\ (∀ k, (getQ F k).isSome = true -> (getQ (s.lrnP p F l) k).isSome = true) /\ (∀ x ∈ l, (getQ (s.lrnP p F l) (p.mkr, x)).isSome = true) /\ (s.lrnP p F l).length <= F.length + l.length
 | [], F, h => ⟨h, fun _ h => h, by simp, by simp [Ord.lrnP]⟩
 | x :: l, F, h => by
  obtain ⟨h1, h2, h3, h4⟩ := lrnP_inv (s := s) (p := p) l _ (learn_ok h (p.mkr, x))
  have h5 := learn_len s F (p.mkr, x)
  refine ⟨h1, fun k hk => h2 k (learn_keep hk), fun y hy => ?_, ?_⟩
  ·rcases List.mem_cons.1 hy with rfl | hy
   ·exact h2 _ (learn_has s F _)
   ·exact h3 y hy
  ·show (s.lrnP p (s.learn1 F (p.mkr, x)) l).length <= _
   simp only [List.length_cons]; omega
theorem mapK_inv {s : Ord} (hk : OkO s) : ∀ k, k <= s.ps.length -> MapOk s (s.mapK k) /\ (∀ p ∈ s.ps.take k, ∀ x ∈ p.br, (getQ (s.mapK k) (p.mkr, x)).isSome = true) /\ (s.mapK k).length <= 4 * k
 | 0, _ => ⟨fun j v h => by simp [Ord.mapK, getQ] at h, by simp, by simp [Ord.mapK]⟩
 | k + 1, hle => by
  have hlt : k < s.ps.length := by omega
  obtain ⟨h1, h2, h3⟩ := mapK_inv hk k (by omega)
  rw [mapK_succ hlt]
  obtain ⟨g1, g2, g3, g4⟩ := lrnP_inv (s := s) (p := s.ps[k]) s.ps[k].br _ h1
  have hb := (br_le hk (List.getElem_mem hlt)).1
  refine ⟨g1, fun p hp x hx => ?_, by omega⟩
  rw [List.take_succ_eq_append_getElem hlt, List.mem_append, List.mem_singleton] at hp
  rcases hp with hp | rfl
  ·exact g2 _ (h2 p hp x hx)
  ·exact g3 x hx
theorem mapF_all {s : Ord} (hk : OkO s) : MapAll s s.mapF := by
 obtain ⟨h1, h2, _⟩ := mapK_inv hk s.ps.length (Nat.le_refl _)
 exact ⟨h1, fun p hp => h2 p (by rw [List.take_length]; exact hp)⟩
theorem optA_succ (s : Ord) (k : Nat) : s.optA (k + 1) = s.optA k ++ [s.opts (k : Nat)] := by unfold Ord.optA; rw [List.range_succ, List.map_append]; rfl
theorem optA_len (s : Ord) (k : Nat) : (s.optA k).length = k := by simp [Ord.optA]
def Ord.eS (s : Ord) (v : Bool) : Int := if s.e1 v ≠ 0 then s.e1 v else if s.w.noT = true then 3 else 0
theorem eS_0 {s : Ord} {v : Bool} (h : s.eS v = 0) : s.chk = 0 /\ v = true /\ s.w.noT = false := by
 unfold Ord.eS at h
 rcases e1_val s v with h1 | h1 | h1 | h1 | h1 <;> rw [h1] at h <;> simp at h
 cases hn : s.w.noT with
 | true => rw [hn] at h; simp at h
 | false => exact ⟨(e1_0 h1).1, (e1_0 h1).2, rfl⟩
theorem isSt_ok {s : Ord} (hk : OkO s) : (s.w.isSt s.st && s.w.areJ []) = true := by
 have h1 : s.w.isSt s.st = true := by
  unfold Shop.isSt
  rw [Bool.and_eq_true, List.all_eq_true]
  exact ⟨decide_eq_true hk.st1, fun n hn => decide_eq_true (hk.st2 n hn)⟩
 rw [h1]; rfl
theorem bd0 {s : Ord} (hk : OkO s) : Bd s.w s.st [] := ⟨hk.big.1, hk.big.2.1, hk.big.2.2, by have := hk.st1; have := hk.w.s1; omega, by simp⟩
theorem eO_noT {w : Shop} (h : w.chk = 0) : w.eO true = if w.noT = true then 3 else 0 := by unfold Shop.eO; rw [h]; rfl
theorem q54e (s : Ord) (hB : BigO s) (v : Bool) (h : s.eS v ≠ 0) : FnA Tryz.prog 54 [.agg s.cells, .bool v] (· = .tup [.lit (.pointer none), .int .i64 (s.eS v)]) := by
 have e1 := q67 s hB v
 refine fnA 12 ok54 (by simp) ?_
 by_cases h1 : s.e1 v = 0
 ·have hk := okO (e1_0 h1).1
  have hn : s.w.noT = true := by
   cases hn : s.w.noT with
   | true => rfl
   | false => exact absurd (by unfold Ord.eS; rw [h1, hn]; rfl) h
  have hE : s.eS v = 3 := by unfold Ord.eS; rw [h1, hn]; rfl
  have hEO : s.w.eO (s.w.isSt s.st && s.w.areJ []) = 3 := by rw [isSt_ok hk, eO_noT hk.chk, hn]; rfl
  have e2 := p34x s.w s.st [] (bd0 hk) (by rw [hEO]; decide)
  rw [hEO] at e2
  rw [h1] at e1
  rw [hE]
  (conv=>whnf);(repeat'((first|apply bT|apply bF|apply bN|((first|apply bD|apply bEq|apply bNe)<;>intro hh<;>try(exfalso;omega))|refine e1.cq rfl rfl ?_|refine e2.cq rfl rfl ?_|refine wJ ?_|refine nJ ?_)<;>conv=>whnf))
  all_goals rfl
 ·have hE : s.eS v = s.e1 v := by unfold Ord.eS; rw [if_pos h1]
  rw [hE]
  rcases e1_val s v with h2 | h2 | h2 | h2 | h2 <;> rw [h2] at e1 ⊢
  ·exact absurd h2 h1
  all_goals
   (conv=>whnf);(repeat'((first|apply bT|apply bF|apply bN|((first|apply bD|apply bEq|apply bNe)<;>intro hh<;>try(exfalso;omega))|refine e1.cq rfl rfl ?_|refine wJ ?_|refine nJ ?_)<;>conv=>whnf))
   all_goals rfl
theorem q54 (s : Ord) (hB : BigO s) (v : Bool) (h : s.eS v = 0) : FnA Tryz.prog 54 [.agg s.cells, .bool v] (· = .tup [.ipt (s.stC s.mapF s.optAll), .int .i64 0]) := by
 obtain ⟨hc, hv, hn⟩ := eS_0 h
 subst hv
 have hk := okO hc
 have e1 := q67 s hB true
 have h1 : s.e1 true = 0 := by unfold Ord.e1; rw [hc]; rfl
 have hEO : s.w.eO (s.w.isSt s.st && s.w.areJ []) = 0 := by rw [isSt_ok hk, eO_noT hk.chk, hn]; rfl
 have e2 := p34f s.w s.st [] (bd0 hk) hEO
 rw [h1] at e1
 have hs1 := hk.w.s1
 have hst1 := hk.st1
 have hd1 := hk.d1
 have hp1 := hk.p1
 have hw1 := hk.w1
 have lS : (s.st.map jAV).length = s.st.length := by simp
 have lD : (s.ds.map Dlv.av).length = s.ds.length := by simp
 have lP : (s.ps.map Piece.av).length = s.ps.length := by simp
 have lW : (s.ws.map Wish.av).length = s.ws.length := by simp
 refine fnA 12 ok54 (by simp) ?_
 (conv=>whnf);(repeat'((first|apply bT|apply bF|apply bN|((first|apply bD|apply bEq|apply bNe)<;>intro hh<;>try(exfalso;omega))|refine e1.cq rfl rfl ?_|refine e2.cq rfl rfl ?_|refine wJ ?_|refine nJ ?_)<;>conv=>whnf))
 refine loop_i (α := Nat) (fun k => [(41, .int .i64 k), (40, .int .i64 ↑(s.st.map jAV).length), (39, .isl (s.st.map jAV)), (9, .own 2 0), (2, .own 0 0)]) (fun k => [.box false s.cells, .mp false [] [], .box false (s.box (.row 10) (.row 1) .nils), .fresh, .fresh, .fresh, .fresh, .fresh, .fresh, .fresh, .row false 45 3 ((stD s k).map Dlv.av), .fresh]) (fun k => k <= s.st.length) (fun k => s.st.length - k) 0 (mN 10) (by omega) ?_
 intro k hk0
 conv => whnf
 refine bD (fun h3 => ?_) (fun h3 => ?_)
 ·have hkl : k < s.st.length := by omega
  have g1 := jget hkl
  have ls := stD_len s k
  have hm : (stD s (k + 1)).map Dlv.av = (stD s k).map Dlv.av ++ [[.int .i64 0, .int .i64 (k : Nat), .int .i64 (s.st.getD k 0)]] := by rw [stD_succ, List.map_append]; rfl
  (conv=>whnf);(repeat'((first|apply bT|apply bF|apply bN|((first|apply bD|apply bEq|apply bNe)<;>intro hh<;>try(exfalso;omega))|refine iaJ g1 ?_|refine wJ ?_|refine nJ ?_)<;>conv=>whnf))
  refine apI (by simp [AV.one]) (by simp; omega) ?_
  (conv=>whnf);(repeat'((first|apply bT|apply bF|apply bN|((first|apply bD|apply bEq|apply bNe)<;>intro hh<;>try(exfalso;omega))|refine wJ ?_|refine nJ ?_)<;>conv=>whnf))
  refine ⟨k + 1, ?_, by omega, by omega⟩
  simp only [hm]
  exact (mR 10 4)
 have : k = s.st.length := by omega
 subst this
 have ls := stD_len s s.st.length
 clear h3 hk0
 have hsup : s.sup.map Dlv.av = (stD s s.st.length).map Dlv.av ++ s.ds.map Dlv.av := by unfold Ord.sup; rw [List.map_append]
 (conv=>whnf);(repeat'((first|apply bT|apply bF|apply bN|((first|apply bD|apply bEq|apply bNe)<;>intro hh<;>try(exfalso;omega))|refine wJ ?_|refine nJ ?_)<;>conv=>whnf))
 refine apI (dl_one _) (by simp only [List.length_map]; omega) ?_
 (conv=>whnf);(repeat'((first|apply bT|apply bF|apply bN|((first|apply bD|apply bEq|apply bNe)<;>intro hh<;>try(exfalso;omega))|refine wJ ?_|refine nJ ?_)<;>conv=>whnf))
 refine loop_i (α := Nat) (fun k => [(72, .int .i64 k), (71, .int .i64 ↑(s.ps.map Piece.av).length), (70, .isl (s.ps.map Piece.av)), (9, .own 2 0), (2, .own 0 0)]) (fun k => [.box false s.cells, .mp false (kQ jobK (s.mapK k)) (uQ isA (s.mapK k)), .box false (s.box (.row 10) (.row 1) .nils), .fresh, .fresh, .fresh, .fresh, .fresh, .fresh, .fresh, .row false 45 3 (s.sup.map Dlv.av), .fresh]) (fun k => k <= s.ps.length) (fun k => s.ps.length - k) 0 (by simp only [hsup]; exact (mR 10 5)) (by omega) ?_
 intro k hk0
 conv => whnf
 refine bD (fun h3 => ?_) (fun h3 => ?_)
 ·have hkl : k < s.ps.length := by omega
  have g1 := oget Piece.av s.ps hkl
  have hpm := List.getElem_mem hkl
  have hsc := mapK_succ hkl
  obtain ⟨hM1, _, hM3⟩ := mapK_inv hk k (by omega)
  generalize s.ps[k] = p at g1 hpm hsc
  have hbr := br_le hk hpm
  have lB : (p.br.map jAV).length = p.br.length := by simp
  (conv=>whnf);(repeat'((first|apply bT|apply bF|apply bN|((first|apply bD|apply bEq|apply bNe)<;>intro hh<;>try(exfalso;omega))|refine iaJ g1 ?_|refine wJ ?_|refine nJ ?_)<;>conv=>whnf))
  refine loop_i (α := Nat) (fun m => [(79, .int .i64 m), (78, .int .i64 ↑(p.br.map jAV).length), (77, .isl (p.br.map jAV)), (72, .int .i64 k), (71, .int .i64 ↑(s.ps.map Piece.av).length), (70, .isl (s.ps.map Piece.av)), (13, .own 6 0), (9, .own 2 0), (2, .own 0 0)]) (fun m => [.box false s.cells, .mp false (kQ jobK (s.lrnP p (s.mapK k) (p.br.take m))) (uQ isA (s.lrnP p (s.mapK k) (p.br.take m))), .box false (s.box (.row 10) (.row 1) .nils), .fresh, .fresh, .fresh, .box false p.av, .fresh, .fresh, .fresh, .row false 45 3 (s.sup.map Dlv.av), .fresh]) (fun m => m <= p.br.length) (fun m => p.br.length - m) 0 mI (by omega) ?_
  intro m hm0
  conv => whnf
  refine bD (fun h4 => ?_) (fun h4 => ?_)
  ·have hml : m < p.br.length := by omega
   have g2 := oget jAV p.br hml
   have hls := lrnP_succ (s := s) (p := p) (F := s.mapK k) hml
   have hlen := (lrnP_inv (s := s) (p := p) (p.br.take m) (s.mapK k) hM1).2.2.2
   have hlt : (p.br.take m).length <= m := by rw [List.length_take]; omega
   have e3 := w95 s hk hn (s.lrnP p (s.mapK k) (p.br.take m)) (by omega) (p.mkr, p.br[m]) (br_isJ hk hpm (List.getElem_mem hml))
   rw [<- hls] at e3
   generalize p.br[m] = x at g2 e3
   (conv=>whnf);(repeat'((first|apply bT|apply bF|apply bN|((first|apply bD|apply bEq|apply bNe)<;>intro hh<;>try(exfalso;omega))|refine iaJ g2 ?_|refine wJ ?_|refine nJ ?_)<;>conv=>whnf))
   refine e3.callwq [2, 10, 1] rfl rfl ⟨rfl, rfl, rfl, trivial⟩ rfl rfl rfl rfl (fun r outs hr => ?_)
   obtain ⟨hr1, ho⟩ := hr; subst hr1; subst ho; refine ⟨⟨rfl, rfl, rfl, rfl⟩, ?_⟩
   (conv=>whnf);(repeat'((first|apply bT|apply bF|apply bN|((first|apply bD|apply bEq|apply bNe)<;>intro hh<;>try(exfalso;omega))|refine wJ ?_|refine nJ ?_)<;>conv=>whnf))
   exact ⟨m + 1, mI, by omega, by omega⟩
  ·have : m = p.br.length := by omega
   subst this
   rw [List.take_length]
   (conv=>whnf);(repeat'((first|apply bT|apply bF|apply bN|((first|apply bD|apply bEq|apply bNe)<;>intro hh<;>try(exfalso;omega))|refine wJ ?_|refine nJ ?_)<;>conv=>whnf))
   refine ⟨k + 1, ?_, by omega, by omega⟩
   simp only [hsc]
   exact mI
 have : k = s.ps.length := by omega
 subst this
 clear h3 hk0
 have hAll := mapF_all hk
 (conv=>whnf);(repeat'((first|apply bT|apply bF|apply bN|((first|apply bD|apply bEq|apply bNe)<;>intro hh<;>try(exfalso;omega))|refine wJ ?_|refine nJ ?_)<;>conv=>whnf))
 refine loop_i (α := Nat) (fun k => [(94, .int .i64 k), (93, .int .i64 ↑(s.ws.map Wish.av).length), (9, .own 2 0)]) (fun k => [.fresh, .mp false (kQ jobK s.mapF) (uQ isA s.mapF), .box false (s.box (.row 10) (.row 1) (.row 11)), .fresh, .fresh, .fresh, .fresh, .fresh, .fresh, .fresh, .row false 45 3 (s.sup.map Dlv.av), .row false 96 1 ((s.optA k).map optsAV)]) (fun k => k <= s.ws.length) (fun k => s.ws.length - k) 0 (mN 11) (by omega) ?_
 intro k hk0
 conv => whnf
 refine bD (fun h3 => ?_) (fun h3 => ?_)
 ·have hkl : k < s.ws.length := by omega
  have hi : s.isW (k : Nat) = true := isW_iff.2 ⟨by omega, by omega⟩
  have e3 := w96 s hk s.mapF hAll (s.optA k) (k : Nat) hi
  have lO := optA_len s k
  have hm : (s.optA (k + 1)).map optsAV = (s.optA k).map optsAV ++ [[.isl ((s.opts (k : Nat)).map Opt.av)]] := by rw [optA_succ, List.map_append]; rfl
  (conv=>whnf);(repeat'((first|apply bT|apply bF|apply bN|((first|apply bD|apply bEq|apply bNe)<;>intro hh<;>try(exfalso;omega))|refine wJ ?_|refine nJ ?_)<;>conv=>whnf))
  refine altI ?_ ?_
  all_goals
   (conv=>whnf);(repeat'((first|apply bT|apply bF|apply bN|((first|apply bD|apply bEq|apply bNe)<;>intro hh<;>try(exfalso;omega))|refine wJ ?_|refine nJ ?_)<;>conv=>whnf))
   refine e3.callwq [2, 10, 1, 11] rfl rfl ⟨rfl, rfl, rfl, rfl, trivial⟩ rfl rfl rfl rfl (fun r outs hr => ?_)
   obtain ⟨hr1, ho⟩ := hr; subst hr1; subst ho; refine ⟨⟨rfl, rfl, rfl, rfl⟩, ?_⟩
   (conv=>whnf);(repeat'((first|apply bT|apply bF|apply bN|((first|apply bD|apply bEq|apply bNe)<;>intro hh<;>try(exfalso;omega))|refine wJ ?_|refine nJ ?_)<;>conv=>whnf))
   refine apI (by simp [AV.one]) (by simp; omega) ?_
   (conv=>whnf);(repeat'((first|apply bT|apply bF|apply bN|((first|apply bD|apply bEq|apply bNe)<;>intro hh<;>try(exfalso;omega))|refine wJ ?_|refine nJ ?_)<;>conv=>whnf))
   refine ⟨k + 1, ?_, by omega, by omega⟩
   simp only [hm]
   exact (mR 11 9)
 ·have : k = s.ws.length := by omega
  subst this
  (conv=>whnf);(repeat'((first|apply bT|apply bF|apply bN|((first|apply bD|apply bEq|apply bNe)<;>intro hh<;>try(exfalso;omega))|refine wJ ?_|refine nJ ?_)<;>conv=>whnf))
  all_goals rfl
def Ord.sto (s : Ord) : AV := .ipt (s.stC s.mapF s.optAll)
structure Fil where
 pl : List Int
 lost : Int
 rep : List (List Int)
 giv : List Int
 left : List Int
 lacks : Int
def Fil.cells (f : Fil) (q : AV) : List AV := [q, .isl (f.pl.map jAV), .int .i64 f.lost, .isl (f.rep.map fAV), .isl (f.giv.map jAV), .isl (f.left.map jAV), .int .i64 f.lacks]
def fIns (s : Ord) (pl : List Int) (lost lacks : Int) (fs fx : List (List Int)) (left g : List Int) (tr : List Bool) : List Res := [.box false [.ipt (s.stC s.mapF s.optAll), .row 4, .int .i64 lost, .row 5, .row 1, .row 2, .int .i64 lacks], .row false 3 1 (g.map jAV), .row false 3 1 (left.map jAV), .row false 4 1 (tr.map bAV), .row false 3 1 (pl.map jAV), .row false 27 1 ((fs ++ fx).map fAV)]
theorem fgetx {L : List (List Int)} (fx : List (List Int)) {j : Nat} (h : j < L.length) : ((L ++ fx).map fAV).getD j [] = [.isl ((fsG L j).map jAV)] := by
 rw [fget' (by simp; omega)]
 congr 3
 unfold fsG; simp [List.getD_eq_getElem?_getD, List.getElem?_append_left h]
theorem fsG_app {fs : List (List Int)} {f : List Int} {j : Nat} (h : j < fs.length) : fsG (fs ++ [f]) j = fsG fs j := by
 unfold fsG; simp [List.getD_eq_getElem?_getD, List.getElem?_append_left h]
theorem getD_app {g : List Int} {x : Int} {j : Nat} (h : j < g.length) : (g ++ [x]).getD j 0 = g.getD j 0 := by simp [List.getD_eq_getElem?_getD, List.getElem?_append_left h]
theorem getD_new (g : List Int) (x : Int) : (g ++ [x]).getD g.length 0 = x := by simp [List.getD_eq_getElem?_getD]
def Rng (n : Nat) (fs : List (List Int)) : Prop := ∀ l ∈ fs, ∀ x ∈ l, 0 <= x /\ x < n
theorem Rng.get {n : Nat} {fs : List (List Int)} (h : Rng n fs) {j : Nat} {x : Int} (hx : x ∈ fsG fs j) : 0 <= x /\ x < n := by
 unfold fsG at hx
 by_cases hj : j < fs.length
 ·have : fs.getD j [] = fs[j] := by simp [List.getD_eq_getElem?_getD, hj]
  rw [this] at hx
  exact h _ (List.getElem_mem hj) x hx
 ·have : fs.getD j [] = [] := by simp [List.getD_eq_getElem?_getD, hj]
  rw [this] at hx; cases hx
theorem Rng.app {n : Nat} {fs fs' : List (List Int)} : Rng n (fs ++ fs') <-> Rng n fs /\ Rng n fs' := by
 unfold Rng
 simp only [List.mem_append]
 exact ⟨fun h => ⟨fun l hl => h l (.inl hl), fun l hl => h l (.inr hl)⟩, fun h l hl => hl.elim (h.1 l) (h.2 l)⟩
theorem shut_more {fs : List (List Int)} {left g : List Int} {f : List Int} (hg : g.length = fs.length) (hR : Rng left.length fs) {C : Int -> Prop} (h : Shut fs left g C) : Shut (fs ++ [f]) left (g ++ [-1]) (fun x => C x /\ 0 <= x) := fun x hx => by
 obtain ⟨h1, h2⟩ := h x hx.1
 refine ⟨h1, fun j hj hgj y hy => ?_⟩
 rw [List.length_append] at hj
 by_cases e : j < g.length
 ·rw [getD_app e] at hgj
  rw [fsG_app (by omega)] at hy
  exact ⟨h2 j e hgj y hy, (hR.get hy).1⟩
 ·have : j = g.length := by simp at hj; omega
  subst this
  rw [getD_new] at hgj
  omega
theorem lack_range (g : List Int) : lackN g = ((List.range g.length).filter fun j => g.getD j 0 == -1).length := by
 rw [filter_range_count g (fun x => x == -1)]; rfl
theorem best_fail {fs : List (List Int)} {st left g f : List Int} {tr tr' : List Bool} (h : Best fs st left g) (hR : Rng st.length (fs ++ [f])) (htr : ∀ x, trB tr x = false) (hF : Fail (fs ++ [f]) left (g ++ [-1]) tr tr' g.length) : Best (fs ++ [f]) st left (g ++ [-1]) /\ lackN (g ++ [-1]) = lackN g + 1 := by
 obtain ⟨hR1, hR2⟩ := Rng.app.1 hR
 have hll := h.ll
 refine ⟨⟨h.ll, by simp [h.lg], h.nn, fun j hj => ?_, fun x hx => ?_, fun j hj hgj => ?_⟩, by unfold lackN; rw [List.count_append]; simp⟩
 ·by_cases e : j < g.length
  ·rw [getD_app e, fsG_app (by rw [<- h.lg]; exact e)]; exact h.gok j e
  ·have : j = g.length := by simp at hj; omega
   subst this
   exact .inl (getD_new _ _)
 ·have := h.tot x hx
  rw [List.count_append]
  have : List.count (x : Int) [-1] = 0 := by
   rw [List.count_eq_zero, List.mem_singleton]; omega
  omega
 ·by_cases e : j < g.length
  ·rw [getD_app e] at hgj
   obtain ⟨C, h1, h2⟩ := h.shut j e hgj
   rw [fsG_app (by rw [<- h.lg]; exact e)]
   exact ⟨_, shut_more h.lg (by rw [hll]; exact hR1) h1, fun x hx => ⟨h2 x hx, (hR1.get hx).1⟩⟩
  ·have : j = g.length := by simp at hj; omega
   subst this
   refine ⟨fun x => 0 <= x /\ trB tr' x = true, fun x hx => ?_, fun x hx => ⟨(hR.get hx).1, hF.all x hx⟩⟩
   obtain ⟨k1, k2⟩ := hF.shut x hx.1 hx.2 (htr x)
   exact ⟨k1, fun j hj hgj y hy => ⟨(hR.get hy).1, k2 j hj hgj y hy⟩⟩
theorem best_win {fs : List (List Int)} {st left g f left' g' : List Int} {tr : List Bool} (h : Best fs st left g) (hR : Rng st.length (fs ++ [f])) (hW : Win (fs ++ [f]) left (g ++ [-1]) tr left' g' g.length) : Best (fs ++ [f]) st left' g' /\ lackN g' = lackN g := by
 obtain ⟨hR1, hR2⟩ := Rng.app.1 hR
 have hgl : g'.length = g.length + 1 := by rw [hW.gl]; simp
 have hoth : ∀ j, j < g.length -> (g'.getD j 0 = -1 <-> g.getD j 0 = -1) := fun j hj => by
  rcases hW.oth j (by simp; omega) (by omega) with k | ⟨k1, k2, _⟩
  ·rw [k, getD_app hj]
  ·rw [getD_app hj] at k2
   have := (hR.get k1).1
   constructor <;> intro <;> omega
 have hgot := (hR.get hW.got).1
 refine ⟨⟨by rw [hW.ll]; exact h.ll, by rw [hgl]; simp [h.lg], hW.nn, fun j hj => ?_, fun x hx => ?_, fun j hj hgj => ?_⟩, ?_⟩
 ·by_cases e : j < g.length
  ·rcases hW.oth j (by simp; omega) (by omega) with k | ⟨k1, _, _⟩
   ·rw [k, getD_app e, fsG_app (by rw [<- h.lg]; exact e)]; exact h.gok j e
   ·exact .inr k1
  ·have : j = g.length := by omega
   subst this
   exact .inr hW.got
 ·have h1 := hW.tot x (by rw [h.ll]; exact hx)
  have h2 := h.tot x hx
  rw [getD_new, if_neg (by omega), List.count_append] at h1
  have : List.count (x : Int) [-1] = 0 := by
   rw [List.count_eq_zero, List.mem_singleton]; omega
  omega
 ·have e : j < g.length := by
   by_cases e : j < g.length
   ·exact e
   ·have : j = g.length := by omega
    subst this; omega
  obtain ⟨C, h1, h2⟩ := h.shut j e ((hoth j e).1 hgj)
  rw [fsG_app (by rw [<- h.lg]; exact e)]
  exact ⟨_, (hW.shut _ (shut_more h.lg (by rw [h.ll]; exact hR1) h1)).1, fun x hx => ⟨h2 x hx, (hR1.get hx).1⟩⟩
 ·rw [lack_range, lack_range, hgl, List.range_succ, List.filter_append, List.length_append]
  have e1 : ((List.range g.length).filter fun j => g'.getD j 0 == -1) = (List.range g.length).filter fun j => g.getD j 0 == -1 := List.filter_congr fun j hj => by
   rw [Bool.eq_iff_iff, beq_iff_eq, beq_iff_eq]
   exact hoth j (List.mem_range.1 hj)
  have e2 : (g'.getD g.length 0 == -1) = false := by rw [beq_eq_false_iff_ne]; omega
  rw [e1, List.filter_cons_of_neg (by rw [e2]; simp)]
  rfl
theorem pre_new {fs : List (List Int)} {st left g f : List Int} (h : Best fs st left g) (hR : Rng st.length (fs ++ [f])) (h1 : st.length <= 100) (h2 : fs.length + 1 <= 100) (h3 : ∀ l ∈ fs ++ [f], l.length <= 100) (h4 : ∀ s, st.getD s 0 <= 1000) : Pre (fs ++ [f]) left (g ++ [-1]) (List.replicate st.length false) g.length := by
 have hll := h.ll
 refine ⟨fun j x hx => by rw [hll]; exact hR.get hx, by simp [hll], by simp [h.lg], by simp [h.lg], h.nn, fun j hj => ?_, .inl (getD_new _ _), by omega, by simp; omega, fun j => ?_, fun x => ?_⟩
 ·by_cases e : j < g.length
  ·rw [getD_app e, fsG_app (by rw [<- h.lg]; exact e)]; exact h.gok j e
  ·have : j = g.length := by simp at hj; omega
   subst this
   exact .inl (getD_new _ _)
 ·unfold fsG
  by_cases hj : j < (fs ++ [f]).length
  ·have : (fs ++ [f]).getD j [] = (fs ++ [f])[j] := by simp only [List.getD_eq_getElem?_getD, List.getElem?_eq_getElem hj, Option.getD_some]
   rw [this]; exact h3 _ (List.getElem_mem hj)
  ·have : (fs ++ [f]).getD j [] = [] := by rw [List.getD_eq_getElem?_getD, List.getElem?_eq_none (by omega)]; rfl
   rw [this]; simp
 ·by_cases hs : x < st.length
  ·have := h.tot x hs; have := h4 x; omega
  ·have : left.getD x 0 = 0 := by rw [List.getD_eq_getElem?_getD, List.getElem?_eq_none (by omega)]; rfl
   omega
theorem FnO.empties {P : Program} {f : FuncId} {bs : List AV} {R : AV -> List (Nat × Res) -> Prop} (h1 : FnO P f (.nils :: bs) R) (h2 : ∀ a c, FnO P f (.lit (.slice (some a) 0 c) :: bs) R) : FnO P f (.isl [] :: bs) R := by
 intro imm w vs himm hargs
 simp only [RV0s] at hargs
 obtain ⟨v, vs', rfl, hv, hr⟩ := hargs
 simp only [RV0] at hv
 rcases hv with ⟨⟨a, rfl⟩, _⟩ | ⟨sz, b, off, cap, rfl, hc, hi, _⟩
 ·cases a with
  | none => exact h1 imm w _ himm (by simp only [RV0s]; exact ⟨_, _, rfl, by simp only [RV0], hr⟩)
  | some a => exact h2 a 0 imm w _ himm (by simp only [RV0s]; exact ⟨_, _, rfl, by simp only [RV0], hr⟩)
 ·exact h2 ⟨b, off, none⟩ cap imm w _ himm (by simp only [RV0s]; exact ⟨_, _, rfl, by simp only [RV0, List.length_nil], hr⟩)
def Tryz.cloneI_ren : Go.Shelf.Ren := ⟨fun | 15 => 105 | n => n, fun | 22 => 27 | 3 => 3 | 4 => 4 | n => n, fun | n => n⟩
theorem Tryz.cloneI : Go.Proofs.Lays2.n15 Tryz.prog Tryz.cloneI_ren := {
 mixed := by kernel_rfl
 f15 := Tryz.func105.trans (congrArg some (by kernel_rfl))
 t3 := Tryz.underlying3
 a3 := Tryz.isAgg3
 z3 := Tryz.sizeOf3
 v3 := Tryz.zeroValue3
 t4 := Tryz.underlying4
 a4 := Tryz.isAgg4
 z4 := Tryz.sizeOf4
 v4 := Tryz.zeroValue4
 t22 := Tryz.underlying27
 a22 := Tryz.isAgg27
 z22 := Tryz.sizeOf27
 v22 := Tryz.zeroValue27
 i3 := by kernel_rfl }
theorem q105 (l : List Int) (hl : l.length <= 1000000) : FnO Tryz.prog 105 [.isl (l.map jAV)] (fun r rows => r = .row 1 /\ rows = [(1, .row false 3 1 (l.map jAV))]) := by
 cases l with
 | nil =>
  refine FnO.empties ?_ fun a c => ?_
  ·intro imm w vs himm hargs
   simp only [RV0s, RV0] at hargs
   obtain ⟨_, _, rfl, rfl, rfl⟩ := hargs
   refine (Any.slices_Clone_int_nil Tryz.cloneI 0 0 w).mono fun e w' hw => ?_
   obtain ⟨rfl, rfl⟩ := hw
   refine ⟨_, _, _, imm, fun i => if i = 1 then some ⟨0, .slice none 0 0⟩ else none, rfl, ⟨rfl, rfl⟩, ?_, rfl, ?_, RowKit.Below.refl _ _, fun b hb => hb, fun b hb => .inl hb⟩
   ·simp only [RV]; exact ⟨_, rfl, rfl⟩
   ·simp only [OwnRows]
    refine ⟨⟨3, 1, [], ⟨0, .slice none 0 0⟩, [], rfl, rfl, ⟨rfl, .inl ⟨rfl, rfl⟩⟩, ?_, by simp, ?_, by simp⟩, trivial⟩
    ·simp [RV0s]
    ·intro b hb; simp [Value.ownBlock] at hb
  ·refine fnO 2 ok105 (by simp) ?_
   (conv=>whnf);(repeat'((first|apply bT|apply bF|apply bN|((first|apply bD|apply bEq|apply bNe)<;>intro hh<;>try(exfalso;omega))|refine apI (by simp) (by simp) ?_|refine wJ ?_|refine nJ ?_)<;>conv=>whnf))
   all_goals exact ⟨rfl, rfl⟩
 | cons x l => exact p160 (x :: l) (by simp) hl
def Ord.many (s : Ord) : List Int := s.sup.map (·.many)
structure GoodF (s : Ord) (f : Fil) : Prop where
 best : Best f.rep s.many f.left f.giv
 lk : f.lacks = lackN f.giv
 rng : Rng s.many.length f.rep
 l1 : f.rep.length <= 60
 l2 : ∀ l ∈ f.rep, l.length <= 100
 l3 : f.pl.length <= 60
theorem many_len (s : Ord) : s.many.length = s.sup.length := by simp [Ord.many]
theorem many_bd {s : Ord} (hk : OkO s) : ∀ i, i < s.many.length -> 0 <= s.many.getD i 0 /\ s.many.getD i 0 <= 10 := fun i hi => by
 have hm : s.many.getD i 0 ∈ s.many := getD_memI hi
 obtain ⟨d, hd, e⟩ := List.mem_map.1 (show s.many.getD i 0 ∈ s.sup.map (·.many) from hm)
 have hd2 : 0 <= d.many /\ d.many <= 10 := by
  rcases List.mem_append.1 hd with h | h
  ·unfold stD at h
   obtain ⟨q, hq, rfl⟩ := List.mem_map.1 h
   exact hk.st2 _ (getD_memI (List.mem_range.1 hq))
  ·have := hk.d2 d h
   unfold okDl at this
   simp only [Bool.and_eq_true, decide_eq_true_eq] at this
   omega
 rw [<- e]; exact hd2
theorem many_nn {s : Ord} (hk : OkO s) : Nn s.many := fun i hi => (many_bd hk i hi).1
theorem many_le {s : Ord} (hk : OkO s) (i : Nat) : s.many.getD i 0 <= 1000 := by
 by_cases hi : i < s.many.length
 ·have := many_bd hk i hi; omega
 ·have : s.many.getD i 0 = 0 := by rw [List.getD_eq_getElem?_getD, List.getElem?_eq_none (by omega)]; rfl
  omega
end Go.Proofs
