/- What each function of this program answers, proved by walking its body: the contracts that the law rests on, part 1. -/
import Derived.Test.YtnigbnnmkdilbaaCode
set_option linter.unusedSimpArgs false
set_option linter.unusedVariables false
set_option linter.unusedSectionVars false
namespace Go.Proofs
open Go.Eng
attribute [local irreducible] Go.Eng.brB Go.Eng.need Go.Eng.wrE Go.Eng.iaE Go.Eng.slE Go.Eng.apE Go.Eng.CallZ Go.Eng.CallE Go.Eng.VCallE Go.Eng.YldE Go.Eng.GoC Go.Eng.MeetsE Go.Eng.FnA Go.Eng.FnV Go.Eng.ItA
set_option maxRecDepth 100000
def jAV(r:Int):List AV:=[.int .i64 r]
structure Spare where
 k:Int
 s:Int
 lo:Int
 hi:Int
deriving DecidableEq
structure Slot where
 k:Int
 ss:List Int
 lo:Int
 hi:Int
structure Trial where
 sp:Int
 mkr:Int
 sl:Int
 ft:Int
deriving DecidableEq
structure Shop where
 sps:List Spare
 mks:List (List Slot)
 cut:Int
 tb:List Trial
def Spare.av(x:Spare):List AV:=[.int .i64 x.k, .int .i64 x.s, .int .i64 x.lo, .int .i64 x.hi]
def Slot.av(x:Slot):List AV:=[.int .i64 x.k, .isl (x.ss.map jAV), .int .i64 x.lo, .int .i64 x.hi]
def mkAV(m:List Slot):List AV:=[.isl (m.map Slot.av)]
def Trial.av(x:Trial):List AV:=[.int .i64 x.sp, .int .i64 x.mkr, .int .i64 x.sl, .int .i64 x.ft]
def Shop.cells(w:Shop):List AV:=[.isl (w.sps.map Spare.av), .isl (w.mks.map mkAV), .int .i64 w.cut, .isl (w.tb.map Trial.av)]
theorem getM{α : Type}(f : α -> List AV)(l:List α)(i:Nat)(h:i<l.length):(l.map f).getD i []=f l[i]:=by
 simp[List.getD_eq_getElem?_getD,h]
theorem all_not{α : Type}{l:List α}{p : α -> Bool}{k:Nat}(hk:k<l.length)(h:p l[k]=false):l.all p=false:=by
 rw[Bool.eq_false_iff];intro h2
 rw[List.all_eq_true.1 h2 _ (List.getElem_mem hk)]at h;cases h
theorem take_all{α : Type}{l:List α}{p : α -> Bool}{k:Nat}(hk:k<l.length)(h:∀x∈l.take k,p x=true)(hx:p l[k]=true):∀x∈l.take (k+1),p x=true:=by
 intro x hm
 rw[List.take_succ_eq_append_getElem hk]at hm
 rcases List.mem_append.1 hm with hm|hm
 ·exact h x hm
 ·simp only[List.mem_singleton]at hm;subst hm;exact hx
theorem take_none{α : Type}{l:List α}{p : α -> Bool}{k:Nat}(hk:k<l.length)(h:∀x∈l.take k,p x=false)(hx:p l[k]=false):∀x∈l.take (k+1),p x=false:=by
 intro x hm
 rw[List.take_succ_eq_append_getElem hk]at hm
 rcases List.mem_append.1 hm with hm|hm
 ·exact h x hm
 ·simp only[List.mem_singleton]at hm;subst hm;exact hx
theorem all_yes{α : Type}{l:List α}{p : α -> Bool}(h:∀x∈l,p x=true):l.all p=true:=List.all_eq_true.2 h
theorem any_no{α : Type}{l:List α}{p : α -> Bool}(h:∀x∈l,p x=false):l.any p=false:=by
 rw[Bool.eq_false_iff];intro h2
 obtain⟨x,hx,hp⟩:=List.any_eq_true.1 h2
 rw[h x hx]at hp;cases hp
theorem any_yes{α : Type}{l:List α}{p : α -> Bool}{k:Nat}(hk:k<l.length)(h:p l[k]=true):l.any p=true:=List.any_eq_true.2 ⟨_,List.getElem_mem hk,h⟩
theorem p114(n lo hi:Int):FnA Try.prog 114 [.int .i64 n, .int .i64 lo, .int .i64 hi] (· = .bool (decide (lo<=n/\n<=hi))):=by
 refine fnA 0 ok114 (by simp) ?_
 (conv=>whnf);(repeat'((first|apply bT|apply bF|apply bN|((first|apply bD|apply bEq|apply bNe)<;>intro hh<;>try(exfalso;omega))|refine wIn (by omega) ?_|refine nI (by omega) ?_)<;>conv=>whnf))
 all_goals first|rfl|exact congrArg AV.bool (decide_eq_decide.2 (by omega))|exact congrArg AV.bool (decide_eq_true (by omega)).symm|exact congrArg AV.bool (decide_eq_false (by omega)).symm
theorem p90(n lo hi:Int):FnA Try.prog 90 [.int .i64 n, .int .i64 lo, .int .i64 hi] (· = .bool (decide (lo<=n/\n<=hi))):=by
 refine fnA 0 ok90 (by simp) ?_
 (conv=>whnf);(repeat'((first|apply bT|apply bF|apply bN|((first|apply bD|apply bEq|apply bNe)<;>intro hh<;>try(exfalso;omega))|refine wIn (by omega) ?_|refine nI (by omega) ?_)<;>conv=>whnf))
 all_goals first|rfl|exact congrArg AV.bool (decide_eq_decide.2 (by omega))|exact congrArg AV.bool (decide_eq_true (by omega)).symm|exact congrArg AV.bool (decide_eq_false (by omega)).symm
theorem p148(n:Int):FnA Try.prog 148 [.int .i64 n] (· = .bool (decide (0<=n/\n<=9))):=by
 have e1:=p114 n 0 9
 refine fnA 1 ok148 (by simp) ?_
 (conv=>whnf);(repeat'((first|apply bT|apply bF|apply bN|((first|apply bD|apply bEq|apply bNe)<;>intro hh<;>try(exfalso;omega))|refine e1.cq rfl rfl ?_|refine wIn (by omega) ?_|refine nI (by omega) ?_)<;>conv=>whnf))
 all_goals rfl
def okLen(lo hi:Int):Bool:=decide (0<=lo/\lo<=hi/\hi<=999)
theorem okLen_iff{lo hi:Int}:okLen lo hi=true<->0<=lo/\lo<=hi/\hi<=999:=by unfold okLen;exact decide_eq_true_iff
theorem p149(lo hi:Int):FnA Try.prog 149 [.agg [.int .i64 lo, .int .i64 hi]] (· = .bool (okLen lo hi)):=by
 have e1:=p114 lo 0 hi
 unfold okLen
 refine fnA 1 ok149 (by simp) ?_
 (conv=>whnf);(repeat'((first|apply bT|apply bF|apply bN|((first|apply bD|apply bEq|apply bNe)<;>intro hh<;>try(exfalso;omega))|refine e1.cq rfl rfl ?_|refine wIn (by omega) ?_|refine nI (by omega) ?_)<;>conv=>whnf))
 all_goals first|rfl|exact congrArg AV.bool (decide_eq_decide.2 (by omega))|exact congrArg AV.bool (decide_eq_true (by omega)).symm|exact congrArg AV.bool (decide_eq_false (by omega)).symm
theorem p120(lo hi:Int):FnA Try.prog 120 [.agg [.int .i64 lo, .int .i64 hi]] (· = .bool (okLen lo hi)):=by
 have e1:=p90 lo 0 hi
 unfold okLen
 refine fnA 1 ok120 (by simp) ?_
 (conv=>whnf);(repeat'((first|apply bT|apply bF|apply bN|((first|apply bD|apply bEq|apply bNe)<;>intro hh<;>try(exfalso;omega))|refine e1.cq rfl rfl ?_|refine wIn (by omega) ?_|refine nI (by omega) ?_)<;>conv=>whnf))
 all_goals first|rfl|exact congrArg AV.bool (decide_eq_decide.2 (by omega))|exact congrArg AV.bool (decide_eq_true (by omega)).symm|exact congrArg AV.bool (decide_eq_false (by omega)).symm
def okSp(x:Spare):Bool:=decide (0<=x.k/\x.k<=9)&&decide (0<=x.s/\x.s<=9)&&okLen x.lo x.hi
theorem p111(x:Spare):FnA Try.prog 111 [.agg x.av] (· = .bool (okSp x)):=by
 have e1:=p148 x.k
 have e2:=p148 x.s
 have e3:=p149 x.lo x.hi
 unfold okSp
 refine fnA 1 ok111 (by simp) ?_
 cases h1:decide (0<=x.k/\x.k<=9)<;>cases h2:decide (0<=x.s/\x.s<=9)<;>rw[h1]at e1<;>rw[h2]at e2
 all_goals
  (conv=>whnf);(repeat'((first|apply bT|apply bF|apply bN|((first|apply bD|apply bEq|apply bNe)<;>intro hh<;>try(exfalso;omega))|refine e1.cq rfl rfl ?_|refine e2.cq rfl rfl ?_|refine e3.cq rfl rfl ?_|refine wIn (by omega) ?_|refine nI (by omega) ?_)<;>conv=>whnf))
  all_goals rfl
def ascB:List Int->Bool
 | []=>true
 | [_]=>true
 |a::b::l=>decide (a<b)&&ascB (b::l)
theorem ascB_iff:∀ {l:List Int},ascB l=true<->∀i,i+1<l.length->l.getD i 0<l.getD (i+1) 0
 | []=>by simp[ascB]
 | [_]=>by simp[ascB]
 |a::b::l=>by
  simp only[ascB,Bool.and_eq_true,decide_eq_true_eq,ascB_iff (l:=b::l)]
  constructor
  ·rintro⟨h1,h2⟩ i hi
   cases i with
   |zero=>simpa using h1
   |succ i=>simpa using h2 i (by simpa using hi)
  ·intro h
   exact⟨by simpa using h 0 (by simp),fun i hi=>by simpa using h (i+1) (by simpa using hi)⟩
theorem jget{l:List Int}{i:Nat}(h:i<l.length):(l.map jAV).getD i []=[.int .i64 (l.getD i 0)]:=by
 simp[List.getD_eq_getElem?_getD,h,jAV]
theorem ascB_no{l:List Int}{k:Nat}(hk:k+1<l.length)(h:¬l.getD k 0<l.getD (k+1) 0):ascB l=false:=by
 rw[Bool.eq_false_iff];intro h2;exact h (ascB_iff.1 h2 k hk)
theorem p126(l:List Int)(hl:l.length<=1000000):FnA Try.prog 126 [.isl (l.map jAV)] (· = .bool (ascB l)):=by
 have hL:(l.map jAV).length=l.length:=by simp
 refine fnA 0 ok126 (by simp) ?_
 (conv=>whnf);(repeat'((first|apply bT|apply bF|apply bN|((first|apply bD|apply bEq|apply bNe)<;>intro hh<;>try(exfalso;omega))|refine wIn (by omega) ?_|refine nI (by omega) ?_)<;>conv=>whnf))
 refine loop_i (α :=Nat) (fun k=>[(7, .int .i64 k),(6, .int .i64 (↑(l.map jAV).length-1)),(0, .isl (l.map jAV))]) (fun k=>[]) (fun k=>(k:Int)<=l.length/\∀i,i<k->i+1<l.length->l.getD i 0<l.getD (i+1) 0) (fun k=>l.length-k) 0 mI ⟨by omega,by omega⟩ ?_
 rintro k ⟨h1,h2⟩
 conv=>whnf
 refine bD (fun h3=>?_) (fun h3=>?_)
 ·have hk:k+1<l.length:=by omega
  have g1:=jget (l:=l) (i:=k) (by omega)
  have g2:=jget (l:=l) (i:=k+1) (by omega)
  by_cases hx:l.getD k 0<l.getD (k+1) 0
  ·(conv=>whnf);(repeat'((first|apply bT|apply bF|apply bN|((first|apply bD|apply bEq|apply bNe)<;>intro hh<;>try(exfalso;omega))|refine iaJ g1 ?_|refine iaJ g2 ?_|refine wIn (by omega) ?_|refine nI (by omega) ?_)<;>conv=>whnf))
   refine⟨k+1,mI,⟨by omega,fun i hi hi2=>?_⟩,by omega⟩
   by_cases e:i=k
   ·rw[e];exact hx
   ·exact h2 i (by omega) hi2
  ·rw[ascB_no hk hx]
   (conv=>whnf);(repeat'((first|apply bT|apply bF|apply bN|((first|apply bD|apply bEq|apply bNe)<;>intro hh<;>try(exfalso;omega))|refine iaJ g1 ?_|refine iaJ g2 ?_|refine wIn (by omega) ?_|refine nI (by omega) ?_)<;>conv=>whnf))
   all_goals rfl
 ·rw[ascB_iff.2 fun i hi=>h2 i (by omega) hi]
  (conv=>whnf);(repeat'((first|apply bT|apply bF|apply bN|((first|apply bD|apply bEq|apply bNe)<;>intro hh<;>try(exfalso;omega))|refine wIn (by omega) ?_|refine nI (by omega) ?_)<;>conv=>whnf))
  all_goals rfl
theorem p50(l:List Int)(hl:l.length<=1000000):FnA Try.prog 50 [.isl (l.map jAV)] (· = .bool (ascB l)):=by
 have hL:(l.map jAV).length=l.length:=by simp
 refine fnA 0 ok50 (by simp) ?_
 (conv=>whnf);(repeat'((first|apply bT|apply bF|apply bN|((first|apply bD|apply bEq|apply bNe)<;>intro hh<;>try(exfalso;omega))|refine wIn (by omega) ?_|refine nI (by omega) ?_)<;>conv=>whnf))
 refine loop_i (α :=Nat) (fun k=>[(3, .int .i64 (k+1)),(0, .isl (l.map jAV))]) (fun k=>[]) (fun k=>(k:Int)<=l.length/\∀i,i<k->i+1<l.length->l.getD i 0<l.getD (i+1) 0) (fun k=>l.length-k) 0 mI ⟨by omega,by omega⟩ ?_
 rintro k ⟨h1,h2⟩
 conv=>whnf
 refine bD (fun h3=>?_) (fun h3=>?_)
 ·have hk:k+1<l.length:=by omega
  have g1:=jget (l:=l) (i:=k) (by omega)
  have g2:=jget (l:=l) (i:=k+1) (by omega)
  have h4:((k:Int)+1-1)=k:=by omega
  by_cases hx:l.getD k 0<l.getD (k+1) 0
  ·(conv=>whnf);(repeat'((first|apply bT|apply bF|apply bN|((first|apply bD|apply bEq|apply bNe)<;>intro hh<;>try(exfalso;omega))|refine iaJ g2 ?_|(refine iaI (by omega) (by omega) (show(l.map jAV).getD ((k:Int)+1-1).toNat []=[.int .i64 (l.getD k 0)] by rw[h4];exact g1) ?_)|refine wIn (by omega) ?_|refine nI (by omega) ?_)<;>conv=>whnf))
   refine⟨k+1,mI,⟨by omega,fun i hi hi2=>?_⟩,by omega⟩
   by_cases e:i=k
   ·rw[e];exact hx
   ·exact h2 i (by omega) hi2
  ·rw[ascB_no hk hx]
   (conv=>whnf);(repeat'((first|apply bT|apply bF|apply bN|((first|apply bD|apply bEq|apply bNe)<;>intro hh<;>try(exfalso;omega))|refine iaJ g2 ?_|(refine iaI (by omega) (by omega) (show(l.map jAV).getD ((k:Int)+1-1).toNat []=[.int .i64 (l.getD k 0)] by rw[h4];exact g1) ?_)|refine wIn (by omega) ?_|refine nI (by omega) ?_)<;>conv=>whnf))
   all_goals rfl
 ·rw[ascB_iff.2 fun i hi=>h2 i (by omega) hi]
  (conv=>whnf);(repeat'((first|apply bT|apply bF|apply bN|((first|apply bD|apply bEq|apply bNe)<;>intro hh<;>try(exfalso;omega))|refine wIn (by omega) ?_|refine nI (by omega) ?_)<;>conv=>whnf))
  all_goals rfl
theorem p110{C:List AV}(p:Spare->Bool)(l:List (Spare))(hl:l.length<=1000000)(hg:∀x∈l,FnV Try.prog (.fn 111 []) [.agg (Spare.av x)] (· = .bool (p x))):FnA Try.prog 110 [.isl (l.map Spare.av),(.fn 111 [])] (· = .bool (l.all p)):=by
 have hL:(l.map Spare.av).length=l.length:=by simp
 refine fnA 1 ok110 (by simp) ?_
 (conv=>whnf);(repeat'((first|apply bT|apply bF|apply bN|((first|apply bD|apply bEq|apply bNe)<;>intro hh<;>try(exfalso;omega))|refine wIn (by omega) ?_|refine nI (by omega) ?_)<;>conv=>whnf))
 refine loop_i (α :=Nat) (fun k=>[(9, .int .i64 k),(8, .int .i64 ↑(l.map Spare.av).length),(7, .isl (l.map Spare.av)),(1,(.fn 111 []))]) (fun k=>[.fresh]) (fun k=>k<=l.length/\∀b∈l.take k,p b=true) (fun k=>l.length-k) 0 mI ⟨by omega,by simp⟩ ?_
 rintro k ⟨h1,h2⟩
 conv=>whnf
 refine bD (fun h3=>?_) (fun h3=>?_)
 ·have hk:k<l.length:=by omega
  have hv:=hg l[k] (List.getElem_mem hk)
  cases hx:p l[k]with
  |true=>
   rw[hx]at hv
   conv=>whnf
   refine iaJ (getM Spare.av l k hk) ?_
   (conv=>whnf);(repeat'((first|apply bT|apply bF|apply bN|((first|apply bD|apply bEq|apply bNe)<;>intro hh<;>try(exfalso;omega))|(refine hv.vcallq rfl rfl rfl rfl (fun r (hr:r=_)=>?_);subst hr)|refine wIn (by omega) ?_|refine nI (by omega) ?_)<;>conv=>whnf))
   exact⟨k+1,mI,⟨by omega,take_all hk h2 hx⟩,by omega⟩
  |false=>
   rw[hx]at hv
   rw[all_not hk hx]
   conv=>whnf
   refine iaJ (getM Spare.av l k hk) ?_
   (conv=>whnf);(repeat'((first|apply bT|apply bF|apply bN|((first|apply bD|apply bEq|apply bNe)<;>intro hh<;>try(exfalso;omega))|(refine hv.vcallq rfl rfl rfl rfl (fun r (hr:r=_)=>?_);subst hr)|refine wIn (by omega) ?_|refine nI (by omega) ?_)<;>conv=>whnf))
   all_goals rfl
 ·have:k=l.length:=by omega
  subst this
  rw[List.take_length]at h2
  rw[all_yes h2]
  (conv=>whnf);(repeat'((first|apply bT|apply bF|apply bN|((first|apply bD|apply bEq|apply bNe)<;>intro hh<;>try(exfalso;omega))|refine wIn (by omega) ?_|refine nI (by omega) ?_)<;>conv=>whnf))
  all_goals rfl
theorem p112{C:List AV}(p:List Slot->Bool)(l:List (List Slot))(hl:l.length<=1000000)(hg:∀x∈l,FnV Try.prog (.fn 113 []) [.agg (mkAV x)] (· = .bool (p x))):FnA Try.prog 112 [.isl (l.map mkAV),(.fn 113 [])] (· = .bool (l.all p)):=by
 have hL:(l.map mkAV).length=l.length:=by simp
 refine fnA 1 ok112 (by simp) ?_
 (conv=>whnf);(repeat'((first|apply bT|apply bF|apply bN|((first|apply bD|apply bEq|apply bNe)<;>intro hh<;>try(exfalso;omega))|refine wIn (by omega) ?_|refine nI (by omega) ?_)<;>conv=>whnf))
 refine loop_i (α :=Nat) (fun k=>[(9, .int .i64 k),(8, .int .i64 ↑(l.map mkAV).length),(7, .isl (l.map mkAV)),(1,(.fn 113 []))]) (fun k=>[.fresh]) (fun k=>k<=l.length/\∀b∈l.take k,p b=true) (fun k=>l.length-k) 0 mI ⟨by omega,by simp⟩ ?_
 rintro k ⟨h1,h2⟩
 conv=>whnf
 refine bD (fun h3=>?_) (fun h3=>?_)
 ·have hk:k<l.length:=by omega
  have hv:=hg l[k] (List.getElem_mem hk)
  cases hx:p l[k]with
  |true=>
   rw[hx]at hv
   conv=>whnf
   refine iaJ (getM mkAV l k hk) ?_
   (conv=>whnf);(repeat'((first|apply bT|apply bF|apply bN|((first|apply bD|apply bEq|apply bNe)<;>intro hh<;>try(exfalso;omega))|(refine hv.vcallq rfl rfl rfl rfl (fun r (hr:r=_)=>?_);subst hr)|refine wIn (by omega) ?_|refine nI (by omega) ?_)<;>conv=>whnf))
   exact⟨k+1,mI,⟨by omega,take_all hk h2 hx⟩,by omega⟩
  |false=>
   rw[hx]at hv
   rw[all_not hk hx]
   conv=>whnf
   refine iaJ (getM mkAV l k hk) ?_
   (conv=>whnf);(repeat'((first|apply bT|apply bF|apply bN|((first|apply bD|apply bEq|apply bNe)<;>intro hh<;>try(exfalso;omega))|(refine hv.vcallq rfl rfl rfl rfl (fun r (hr:r=_)=>?_);subst hr)|refine wIn (by omega) ?_|refine nI (by omega) ?_)<;>conv=>whnf))
   all_goals rfl
 ·have:k=l.length:=by omega
  subst this
  rw[List.take_length]at h2
  rw[all_yes h2]
  (conv=>whnf);(repeat'((first|apply bT|apply bF|apply bN|((first|apply bD|apply bEq|apply bNe)<;>intro hh<;>try(exfalso;omega))|refine wIn (by omega) ?_|refine nI (by omega) ?_)<;>conv=>whnf))
  all_goals rfl
theorem p115{C:List AV}(p:Trial->Bool)(l:List (Trial))(hl:l.length<=1000000)(hg:∀x∈l,FnV Try.prog (.fn 116 [.ipt C]) [.agg (Trial.av x)] (· = .bool (p x))):FnA Try.prog 115 [.isl (l.map Trial.av),(.fn 116 [.ipt C])] (· = .bool (l.all p)):=by
 have hL:(l.map Trial.av).length=l.length:=by simp
 refine fnA 1 ok115 (by simp) ?_
 (conv=>whnf);(repeat'((first|apply bT|apply bF|apply bN|((first|apply bD|apply bEq|apply bNe)<;>intro hh<;>try(exfalso;omega))|refine wIn (by omega) ?_|refine nI (by omega) ?_)<;>conv=>whnf))
 refine loop_i (α :=Nat) (fun k=>[(9, .int .i64 k),(8, .int .i64 ↑(l.map Trial.av).length),(7, .isl (l.map Trial.av)),(1,(.fn 116 [.ipt C]))]) (fun k=>[.fresh]) (fun k=>k<=l.length/\∀b∈l.take k,p b=true) (fun k=>l.length-k) 0 mI ⟨by omega,by simp⟩ ?_
 rintro k ⟨h1,h2⟩
 conv=>whnf
 refine bD (fun h3=>?_) (fun h3=>?_)
 ·have hk:k<l.length:=by omega
  have hv:=hg l[k] (List.getElem_mem hk)
  cases hx:p l[k]with
  |true=>
   rw[hx]at hv
   conv=>whnf
   refine iaJ (getM Trial.av l k hk) ?_
   (conv=>whnf);(repeat'((first|apply bT|apply bF|apply bN|((first|apply bD|apply bEq|apply bNe)<;>intro hh<;>try(exfalso;omega))|(refine hv.vcallq rfl rfl rfl rfl (fun r (hr:r=_)=>?_);subst hr)|refine wIn (by omega) ?_|refine nI (by omega) ?_)<;>conv=>whnf))
   exact⟨k+1,mI,⟨by omega,take_all hk h2 hx⟩,by omega⟩
  |false=>
   rw[hx]at hv
   rw[all_not hk hx]
   conv=>whnf
   refine iaJ (getM Trial.av l k hk) ?_
   (conv=>whnf);(repeat'((first|apply bT|apply bF|apply bN|((first|apply bD|apply bEq|apply bNe)<;>intro hh<;>try(exfalso;omega))|(refine hv.vcallq rfl rfl rfl rfl (fun r (hr:r=_)=>?_);subst hr)|refine wIn (by omega) ?_|refine nI (by omega) ?_)<;>conv=>whnf))
   all_goals rfl
 ·have:k=l.length:=by omega
  subst this
  rw[List.take_length]at h2
  rw[all_yes h2]
  (conv=>whnf);(repeat'((first|apply bT|apply bF|apply bN|((first|apply bD|apply bEq|apply bNe)<;>intro hh<;>try(exfalso;omega))|refine wIn (by omega) ?_|refine nI (by omega) ?_)<;>conv=>whnf))
  all_goals rfl
theorem p150{C:List AV}(p:Slot->Bool)(l:List (Slot))(hl:l.length<=1000000)(hg:∀x∈l,FnV Try.prog (.fn 151 []) [.agg (Slot.av x)] (· = .bool (p x))):FnA Try.prog 150 [.isl (l.map Slot.av),(.fn 151 [])] (· = .bool (l.all p)):=by
 have hL:(l.map Slot.av).length=l.length:=by simp
 refine fnA 1 ok150 (by simp) ?_
 (conv=>whnf);(repeat'((first|apply bT|apply bF|apply bN|((first|apply bD|apply bEq|apply bNe)<;>intro hh<;>try(exfalso;omega))|refine wIn (by omega) ?_|refine nI (by omega) ?_)<;>conv=>whnf))
 refine loop_i (α :=Nat) (fun k=>[(9, .int .i64 k),(8, .int .i64 ↑(l.map Slot.av).length),(7, .isl (l.map Slot.av)),(1,(.fn 151 []))]) (fun k=>[.fresh]) (fun k=>k<=l.length/\∀b∈l.take k,p b=true) (fun k=>l.length-k) 0 mI ⟨by omega,by simp⟩ ?_
 rintro k ⟨h1,h2⟩
 conv=>whnf
 refine bD (fun h3=>?_) (fun h3=>?_)
 ·have hk:k<l.length:=by omega
  have hv:=hg l[k] (List.getElem_mem hk)
  cases hx:p l[k]with
  |true=>
   rw[hx]at hv
   conv=>whnf
   refine iaJ (getM Slot.av l k hk) ?_
   (conv=>whnf);(repeat'((first|apply bT|apply bF|apply bN|((first|apply bD|apply bEq|apply bNe)<;>intro hh<;>try(exfalso;omega))|(refine hv.vcallq rfl rfl rfl rfl (fun r (hr:r=_)=>?_);subst hr)|refine wIn (by omega) ?_|refine nI (by omega) ?_)<;>conv=>whnf))
   exact⟨k+1,mI,⟨by omega,take_all hk h2 hx⟩,by omega⟩
  |false=>
   rw[hx]at hv
   rw[all_not hk hx]
   conv=>whnf
   refine iaJ (getM Slot.av l k hk) ?_
   (conv=>whnf);(repeat'((first|apply bT|apply bF|apply bN|((first|apply bD|apply bEq|apply bNe)<;>intro hh<;>try(exfalso;omega))|(refine hv.vcallq rfl rfl rfl rfl (fun r (hr:r=_)=>?_);subst hr)|refine wIn (by omega) ?_|refine nI (by omega) ?_)<;>conv=>whnf))
   all_goals rfl
 ·have:k=l.length:=by omega
  subst this
  rw[List.take_length]at h2
  rw[all_yes h2]
  (conv=>whnf);(repeat'((first|apply bT|apply bF|apply bN|((first|apply bD|apply bEq|apply bNe)<;>intro hh<;>try(exfalso;omega))|refine wIn (by omega) ?_|refine nI (by omega) ?_)<;>conv=>whnf))
  all_goals rfl
theorem p127{C:List AV}(p:Int->Bool)(l:List (Int))(hl:l.length<=1000000)(hg:∀x∈l,FnV Try.prog (.fn 148 []) [AV.int .i64 x] (· = .bool (p x))):FnA Try.prog 127 [.isl (l.map jAV),(.fn 148 [])] (· = .bool (l.all p)):=by
 have hL:(l.map jAV).length=l.length:=by simp
 refine fnA 0 ok127 (by simp) ?_
 (conv=>whnf);(repeat'((first|apply bT|apply bF|apply bN|((first|apply bD|apply bEq|apply bNe)<;>intro hh<;>try(exfalso;omega))|refine wIn (by omega) ?_|refine nI (by omega) ?_)<;>conv=>whnf))
 refine loop_i (α :=Nat) (fun k=>[(9, .int .i64 k),(8, .int .i64 ↑(l.map jAV).length),(7, .isl (l.map jAV)),(1,(.fn 148 []))]) (fun k=>[]) (fun k=>k<=l.length/\∀b∈l.take k,p b=true) (fun k=>l.length-k) 0 mI ⟨by omega,by simp⟩ ?_
 rintro k ⟨h1,h2⟩
 conv=>whnf
 refine bD (fun h3=>?_) (fun h3=>?_)
 ·have hk:k<l.length:=by omega
  have hv:=hg l[k] (List.getElem_mem hk)
  cases hx:p l[k]with
  |true=>
   rw[hx]at hv
   conv=>whnf
   refine iaJ (getM jAV l k hk) ?_
   (conv=>whnf);(repeat'((first|apply bT|apply bF|apply bN|((first|apply bD|apply bEq|apply bNe)<;>intro hh<;>try(exfalso;omega))|(refine hv.vcallq rfl rfl rfl rfl (fun r (hr:r=_)=>?_);subst hr)|refine wIn (by omega) ?_|refine nI (by omega) ?_)<;>conv=>whnf))
   exact⟨k+1,mI,⟨by omega,take_all hk h2 hx⟩,by omega⟩
  |false=>
   rw[hx]at hv
   rw[all_not hk hx]
   conv=>whnf
   refine iaJ (getM jAV l k hk) ?_
   (conv=>whnf);(repeat'((first|apply bT|apply bF|apply bN|((first|apply bD|apply bEq|apply bNe)<;>intro hh<;>try(exfalso;omega))|(refine hv.vcallq rfl rfl rfl rfl (fun r (hr:r=_)=>?_);subst hr)|refine wIn (by omega) ?_|refine nI (by omega) ?_)<;>conv=>whnf))
   all_goals rfl
 ·have:k=l.length:=by omega
  subst this
  rw[List.take_length]at h2
  rw[all_yes h2]
  (conv=>whnf);(repeat'((first|apply bT|apply bF|apply bN|((first|apply bD|apply bEq|apply bNe)<;>intro hh<;>try(exfalso;omega))|refine wIn (by omega) ?_|refine nI (by omega) ?_)<;>conv=>whnf))
  all_goals rfl
def okSl(x:Slot):Bool:=decide (0<=x.k/\x.k<=9)&&decide (x.ss.length<=4)&&x.ss.all (fun n=>decide (0<=n/\n<=9))&&ascB x.ss&&okLen x.lo x.hi
theorem p151(x:Slot):FnA Try.prog 151 [.agg x.av] (· = .bool (okSl x)):=by
 have hL:(x.ss.map jAV).length=x.ss.length:=by simp
 by_cases hl:x.ss.length<=4
 case neg=>
  have h0:okSl x=false:=by unfold okSl;rw[decide_eq_false hl];simp
  rw[h0]
  have e1:=p148 x.k
  refine fnA 1 ok151 (by simp) ?_
  (conv=>whnf);(repeat'((first|apply bT|apply bF|apply bN|((first|apply bD|apply bEq|apply bNe)<;>intro hh<;>try(exfalso;omega))|refine e1.cq rfl rfl ?_|refine wIn (by omega) ?_|refine nI (by omega) ?_|(refine bS ?_ ?_<;>intro hh))<;>conv=>whnf))
  all_goals first|rfl|(refine congrArg AV.bool ?_;simp[*])
 have e1:=p148 x.k
 have e2:=p127 (C:=[]) (fun n=>decide (0<=n/\n<=9)) x.ss (by omega) (fun n _=>fnV_of bd148 (p148 n))
 have e3:=p126 x.ss (by omega)
 have e4:=p149 x.lo x.hi
 have h0:okSl x=(decide (0<=x.k/\x.k<=9)&&x.ss.all (fun n=>decide (0<=n/\n<=9))&&ascB x.ss&&okLen x.lo x.hi):=by unfold okSl;rw[decide_eq_true hl];simp
 rw[h0]
 generalize decide (0<=x.k/\x.k<=9)=b1 at *
 generalize x.ss.all (fun n=>decide (0<=n/\n<=9))=b2 at *
 generalize ascB x.ss=b3 at *
 refine fnA 1 ok151 (by simp) ?_
 cases b1<;>cases b2<;>cases b3
 all_goals
  (conv=>whnf);(repeat'((first|apply bT|apply bF|apply bN|((first|apply bD|apply bEq|apply bNe)<;>intro hh<;>try(exfalso;omega))|refine e1.cq rfl rfl ?_|refine e2.cq rfl rfl ?_|refine e3.cq rfl rfl ?_|refine e4.cq rfl rfl ?_|refine wIn (by omega) ?_|refine nI (by omega) ?_)<;>conv=>whnf))
  all_goals rfl
def okMk(m:List Slot):Bool:=decide (m.length<=4)&&m.all okSl
theorem p113(m:List Slot):FnA Try.prog 113 [.agg (mkAV m)] (· = .bool (okMk m)):=by
 have hL:(m.map Slot.av).length=m.length:=by simp
 by_cases hl:m.length<=4
 case neg=>
  have h0:okMk m=false:=by unfold okMk;rw[decide_eq_false hl];simp
  rw[h0]
  refine fnA 1 ok113 (by simp) ?_
  (conv=>whnf);(repeat'((first|apply bT|apply bF|apply bN|((first|apply bD|apply bEq|apply bNe)<;>intro hh<;>try(exfalso;omega))|refine wIn (by omega) ?_|refine nI (by omega) ?_)<;>conv=>whnf))
  all_goals rfl
 have e1:=p150 (C:=[]) okSl m (by omega) (fun x _=>fnV_of bd151 (p151 x))
 have h0:okMk m=m.all okSl:=by unfold okMk;rw[decide_eq_true hl];simp
 rw[h0]
 refine fnA 1 ok113 (by simp) ?_
 (conv=>whnf);(repeat'((first|apply bT|apply bF|apply bN|((first|apply bD|apply bEq|apply bNe)<;>intro hh<;>try(exfalso;omega))|refine e1.cq rfl rfl ?_|refine wIn (by omega) ?_|refine nI (by omega) ?_)<;>conv=>whnf))
 all_goals rfl
def Shop.isSp(w:Shop)(i:Int):Bool:=decide (0<=i/\i<w.sps.length)
def Shop.isMk(w:Shop)(m:Int):Bool:=decide (0<=m/\m<w.mks.length)
def Shop.slots(w:Shop)(m:Int):List Slot:=w.mks.getD m.toNat []
def Shop.isSl(w:Shop)(m k:Int):Bool:=w.isMk m&&decide (0<=k/\k<(w.slots m).length)
theorem p70(w:Shop)(i:Int)(hw:w.sps.length<=1000000):FnA Try.prog 70 [.agg w.cells, .int .i64 i] (· = .bool (w.isSp i)):=by
 have hL:(w.sps.map Spare.av).length=w.sps.length:=by simp
 have e1:=p114 i 0 (↑(w.sps.map Spare.av).length-1)
 unfold Shop.isSp
 refine fnA 1 ok70 (by simp) ?_
 (conv=>whnf);(repeat'((first|apply bT|apply bF|apply bN|((first|apply bD|apply bEq|apply bNe)<;>intro hh<;>try(exfalso;omega))|refine e1.cq rfl rfl ?_|refine wIn (by omega) ?_|refine nI (by omega) ?_)<;>conv=>whnf))
 all_goals first|rfl|exact congrArg AV.bool (decide_eq_decide.2 (by omega))|exact congrArg AV.bool (decide_eq_true (by omega)).symm|exact congrArg AV.bool (decide_eq_false (by omega)).symm
theorem p77(w:Shop)(i:Int)(hw:w.mks.length<=1000000):FnA Try.prog 77 [.agg w.cells, .int .i64 i] (· = .bool (w.isMk i)):=by
 have hL:(w.mks.map mkAV).length=w.mks.length:=by simp
 have e1:=p114 i 0 (↑(w.mks.map mkAV).length-1)
 unfold Shop.isMk
 refine fnA 1 ok77 (by simp) ?_
 (conv=>whnf);(repeat'((first|apply bT|apply bF|apply bN|((first|apply bD|apply bEq|apply bNe)<;>intro hh<;>try(exfalso;omega))|refine e1.cq rfl rfl ?_|refine wIn (by omega) ?_|refine nI (by omega) ?_)<;>conv=>whnf))
 all_goals first|rfl|exact congrArg AV.bool (decide_eq_decide.2 (by omega))|exact congrArg AV.bool (decide_eq_true (by omega)).symm|exact congrArg AV.bool (decide_eq_false (by omega)).symm
theorem isMk_iff{w:Shop}{m:Int}:w.isMk m=true<->0<=m/\m<w.mks.length:=by unfold Shop.isMk;exact decide_eq_true_iff
theorem mkget{w:Shop}{m:Int}(h:w.isMk m=true):(w.mks.map mkAV).getD m.toNat []=[.isl ((w.slots m).map Slot.av)]:=by
 have h:=isMk_iff.1 h
 have:m.toNat<w.mks.length:=by omega
 rw[getM mkAV w.mks _ this]
 unfold Shop.slots;simp[List.getD_eq_getElem?_getD,this,mkAV]
theorem p73(w:Shop)(m k:Int)(hw:w.mks.length<=1000000)(hm:∀x∈w.mks,x.length<=1000000):FnA Try.prog 73 [.agg w.cells, .int .i64 m, .int .i64 k] (· = .bool (w.isSl m k)):=by
 have hL:(w.mks.map mkAV).length=w.mks.length:=by simp
 have e1:=p77 w m hw
 unfold Shop.isSl
 refine fnA 1 ok73 (by simp) ?_
 cases h1:w.isMk m with
 |false=>
  rw[h1]at e1
  (conv=>whnf);(repeat'((first|apply bT|apply bF|apply bN|((first|apply bD|apply bEq|apply bNe)<;>intro hh<;>try(exfalso;omega))|refine e1.cq rfl rfl ?_|refine wIn (by omega) ?_|refine nI (by omega) ?_)<;>conv=>whnf))
  all_goals rfl
 |true=>
  rw[h1]at e1
  have h2:=isMk_iff.1 h1
  have hL2:((w.slots m).map Slot.av).length=(w.slots m).length:=by simp
  have hS:(w.slots m).length<=1000000:=by
   have:m.toNat<w.mks.length:=by omega
   have e:w.slots m=w.mks[m.toNat]:=by unfold Shop.slots;simp[List.getD_eq_getElem?_getD,this]
   rw[e];exact hm _ (List.getElem_mem this)
  have e2:=p114 k 0 (↑((w.slots m).map Slot.av).length-1)
  (conv=>whnf);(repeat'((first|apply bT|apply bF|apply bN|((first|apply bD|apply bEq|apply bNe)<;>intro hh<;>try(exfalso;omega))|refine e1.cq rfl rfl ?_|refine e2.cq rfl rfl ?_|refine iaJ (mkget h1) ?_|refine wIn (by omega) ?_|refine nI (by omega) ?_)<;>conv=>whnf))
  all_goals (refine congrArg AV.bool ?_;rw[Bool.true_and];exact decide_eq_decide.2 (by omega))
def okTr(w:Shop)(t:Trial):Bool:=w.isSp t.sp&&w.isSl t.mkr t.sl&&decide (0<=t.ft/\t.ft<=1)
theorem p116(w:Shop)(t:Trial)(hs:w.sps.length<=1000000)(hw:w.mks.length<=1000000)(hm:∀x∈w.mks,x.length<=1000000):FnA Try.prog 116 [.agg t.av, .ipt w.cells] (· = .bool (okTr w t)):=by
 have e1:=p70 w t.sp hs
 have e2:=p73 w t.mkr t.sl hw hm
 have e3:=p114 t.ft 0 1
 unfold okTr
 generalize w.isSp t.sp=b1 at *
 generalize w.isSl t.mkr t.sl=b2 at *
 refine fnA 1 ok116 (by simp) ?_
 cases b1<;>cases b2
 all_goals
  (conv=>whnf);(repeat'((first|apply bT|apply bF|apply bN|((first|apply bD|apply bEq|apply bNe)<;>intro hh<;>try(exfalso;omega))|refine e1.cq rfl rfl ?_|refine e2.cq rfl rfl ?_|refine e3.cq rfl rfl ?_|refine wIn (by omega) ?_|refine nI (by omega) ?_)<;>conv=>whnf))
  all_goals rfl
def okW(w:Shop):Bool:=decide (w.sps.length<=10)&&w.sps.all okSp&&decide (w.mks.length<=6)&&w.mks.all okMk&&decide (0<=w.cut/\w.cut<=99)&&decide (w.tb.length<=30)&&w.tb.all (okTr w)
theorem okMk_len{m:List Slot}(h:okMk m=true):m.length<=4:=by
 unfold okMk at h;rw[Bool.and_eq_true]at h;exact of_decide_eq_true h.1
theorem p66(w:Shop):FnA Try.prog 66 [.agg w.cells] (· = .bool (okW w)):=by
 have l1:(w.sps.map Spare.av).length=w.sps.length:=by simp
 have l2:(w.mks.map mkAV).length=w.mks.length:=by simp
 have l3:(w.tb.map Trial.av).length=w.tb.length:=by simp
 by_cases h1:w.sps.length<=10
 case neg=>
  have h0:okW w=false:=by unfold okW;rw[decide_eq_false h1];simp
  rw[h0]
  refine fnA 1 ok66 (by simp) ?_
  (conv=>whnf);(repeat'((first|apply bT|apply bF|apply bN|((first|apply bD|apply bEq|apply bNe)<;>intro hh<;>try(exfalso;omega))|refine wIn (by omega) ?_|refine nI (by omega) ?_)<;>conv=>whnf))
  all_goals rfl
 have e1:=p110 (C:=[]) okSp w.sps (by omega) (fun x _=>fnV_of bd111 (p111 x))
 cases h2:w.sps.all okSp with
 |false=>
  have h0:okW w=false:=by unfold okW;rw[h2];simp
  rw[h0]
  rw[h2]at e1
  refine fnA 1 ok66 (by simp) ?_
  (conv=>whnf);(repeat'((first|apply bT|apply bF|apply bN|((first|apply bD|apply bEq|apply bNe)<;>intro hh<;>try(exfalso;omega))|refine e1.cq rfl rfl ?_|refine wIn (by omega) ?_|refine nI (by omega) ?_)<;>conv=>whnf))
  all_goals rfl
 |true=>
 rw[h2]at e1
 by_cases h3:w.mks.length<=6
 case neg=>
  have h0:okW w=false:=by unfold okW;rw[decide_eq_false h3];simp
  rw[h0]
  refine fnA 1 ok66 (by simp) ?_
  (conv=>whnf);(repeat'((first|apply bT|apply bF|apply bN|((first|apply bD|apply bEq|apply bNe)<;>intro hh<;>try(exfalso;omega))|refine e1.cq rfl rfl ?_|refine wIn (by omega) ?_|refine nI (by omega) ?_)<;>conv=>whnf))
  all_goals rfl
 have e2:=p112 (C:=[]) okMk w.mks (by omega) (fun x _=>fnV_of bd113 (p113 x))
 cases h4:w.mks.all okMk with
 |false=>
  have h0:okW w=false:=by unfold okW;rw[h4];simp
  rw[h0]
  rw[h4]at e2
  refine fnA 1 ok66 (by simp) ?_
  (conv=>whnf);(repeat'((first|apply bT|apply bF|apply bN|((first|apply bD|apply bEq|apply bNe)<;>intro hh<;>try(exfalso;omega))|refine e1.cq rfl rfl ?_|refine e2.cq rfl rfl ?_|refine wIn (by omega) ?_|refine nI (by omega) ?_)<;>conv=>whnf))
  all_goals rfl
 |true=>
 rw[h4]at e2
 have hm:∀x∈w.mks,x.length<=1000000:=fun x hx=>by have:=okMk_len (List.all_eq_true.1 h4 x hx);omega
 have e3:=p114 w.cut 0 99
 have e5:w.tb.length<=30->FnA Try.prog 115 [.isl (w.tb.map Trial.av), .fn 116 [.ipt w.cells]] (· = .bool (w.tb.all (okTr w))):=fun h=>p115 (C:=w.cells) (okTr w) w.tb (by omega) (fun x _=>fnV_of bd116 (p116 w x (by omega) (by omega) hm))
 have h0:okW w=(decide (0<=w.cut/\w.cut<=99)&&decide (w.tb.length<=30)&&w.tb.all (okTr w)):=by unfold okW;rw[decide_eq_true h1,h2,decide_eq_true h3,h4];simp
 rw[h0]
 cases h5:decide (0<=w.cut/\w.cut<=99)with
 |false=>
  rw[h5]at e3
  refine fnA 1 ok66 (by simp) ?_
  (conv=>whnf);(repeat'((first|apply bT|apply bF|apply bN|((first|apply bD|apply bEq|apply bNe)<;>intro hh<;>try(exfalso;omega))|refine e1.cq rfl rfl ?_|refine e2.cq rfl rfl ?_|refine e3.cq rfl rfl ?_|refine wIn (by omega) ?_|refine nI (by omega) ?_)<;>conv=>whnf))
  all_goals rfl
 |true=>
 rw[h5]at e3
 by_cases h6:w.tb.length<=30
 case neg=>
  rw[decide_eq_false h6]
  refine fnA 1 ok66 (by simp) ?_
  (conv=>whnf);(repeat'((first|apply bT|apply bF|apply bN|((first|apply bD|apply bEq|apply bNe)<;>intro hh<;>try(exfalso;omega))|refine e1.cq rfl rfl ?_|refine e2.cq rfl rfl ?_|refine e3.cq rfl rfl ?_|refine wIn (by omega) ?_|refine nI (by omega) ?_)<;>conv=>whnf))
  all_goals rfl
 have e6:=e5 h6
 rw[decide_eq_true h6]
 refine fnA 1 ok66 (by simp) ?_
 (conv=>whnf);(repeat'((first|apply bT|apply bF|apply bN|((first|apply bD|apply bEq|apply bNe)<;>intro hh<;>try(exfalso;omega))|refine e1.cq rfl rfl ?_|refine e2.cq rfl rfl ?_|refine e3.cq rfl rfl ?_|refine e6.lq rfl rfl ?_|refine wIn (by omega) ?_|refine nI (by omega) ?_)<;>conv=>whnf))
 all_goals rfl
theorem p132(l:List Int)(x:Int)(hl:l.length<=1000000):FnA Try.prog 132 [.isl (l.map jAV), .int .i64 x] (fun r=>∃n:Int,r = .int .i64 n/\(0<=n<->x∈l)):=by
 have hL:(l.map jAV).length=l.length:=by simp
 refine fnA 0 ok132 (by simp) ?_
 (conv=>whnf);(repeat'((first|apply bT|apply bF|apply bN|((first|apply bD|apply bEq|apply bNe)<;>intro hh<;>try(exfalso;omega))|refine wIn (by omega) ?_|refine nI (by omega) ?_)<;>conv=>whnf))
 refine loop_i (α :=Nat) (fun k=>[(8, .int .i64 k),(7, .int .i64 ↑(l.map jAV).length),(1, .int .i64 x),(0, .isl (l.map jAV))]) (fun k=>[]) (fun k=>k<=l.length/\∀b∈l.take k,decide (x=b)=false) (fun k=>l.length-k) 0 mI ⟨by omega,by simp⟩ ?_
 rintro k ⟨h1,h2⟩
 conv=>whnf
 refine bD (fun h3=>?_) (fun h3=>?_)
 ·have hk:k<l.length:=by omega
  by_cases hx:x=l[k]
  ·conv=>whnf
   refine iaJ (getM jAV l k hk) ?_
   (conv=>whnf);(repeat'((first|apply bT|apply bF|apply bN|((first|apply bD|apply bEq|apply bNe)<;>intro hh<;>try(exfalso;omega))|refine wIn (by omega) ?_|refine nI (by omega) ?_)<;>conv=>whnf))
   all_goals exact⟨k,rfl,fun _=>by rw[hx];exact List.getElem_mem hk,fun _=>by omega⟩
  ·conv=>whnf
   refine iaJ (getM jAV l k hk) ?_
   (conv=>whnf);(repeat'((first|apply bT|apply bF|apply bN|((first|apply bD|apply bEq|apply bNe)<;>intro hh<;>try(exfalso;omega))|refine wIn (by omega) ?_|refine nI (by omega) ?_)<;>conv=>whnf))
   exact⟨k+1,mI,⟨by omega,take_none hk h2 (decide_eq_false hx)⟩,by omega⟩
 ·have:k=l.length:=by omega
  subst this
  rw[List.take_length]at h2
  (conv=>whnf);(repeat'((first|apply bT|apply bF|apply bN|((first|apply bD|apply bEq|apply bNe)<;>intro hh<;>try(exfalso;omega))|refine wIn (by omega) ?_|refine nI (by omega) ?_)<;>conv=>whnf))
  all_goals exact⟨-1,rfl,fun h=>by omega,fun h=>by have:=h2 x h;simp at this⟩
theorem p89(l:List Int)(x:Int)(hl:l.length<=1000000):FnA Try.prog 89 [.isl (l.map jAV), .int .i64 x] (· = .bool (decide (x∈l))):=by
 refine fnA 0 ok89 (by simp) ?_
 (conv=>whnf);(repeat'((first|apply bT|apply bF|apply bN|((first|apply bD|apply bEq|apply bNe)<;>intro hh<;>try(exfalso;omega))|refine wIn (by omega) ?_|refine nI (by omega) ?_)<;>conv=>whnf))
 refine(p132 l x hl).callq rfl rfl (fun r hr=>?_);obtain⟨n,rfl,hn⟩:=hr
 (conv=>whnf);(repeat'((first|apply bT|apply bF|apply bN|((first|apply bD|apply bEq|apply bNe)<;>intro hh<;>try(exfalso;omega))|refine wIn (by omega) ?_|refine nI (by omega) ?_)<;>conv=>whnf))
 all_goals exact congrArg AV.bool (decide_eq_decide.2 hn)
def trEq(x y:Trial):Bool:=x.sp==y.sp&&(x.mkr==y.mkr&&(x.sl==y.sl&&(x.ft==y.ft&&true)))
theorem trEq_iff{x y:Trial}:trEq x y=true<->x=y:=by
 cases x;cases y;simp[trEq]
theorem p153(l:List Trial)(x:Trial)(hl:l.length<=1000000):FnA Try.prog 153 [.isl (l.map Trial.av), .agg x.av] (fun r=>∃n:Int,r = .int .i64 n/\(0<=n<->x∈l)):=by
 have hL:(l.map Trial.av).length=l.length:=by simp
 refine fnA 1 ok153 (by simp) ?_
 (conv=>whnf);(repeat'((first|apply bT|apply bF|apply bN|((first|apply bD|apply bEq|apply bNe)<;>intro hh<;>try(exfalso;omega))|refine wIn (by omega) ?_|refine nI (by omega) ?_)<;>conv=>whnf))
 refine loop_i (α :=Nat) (fun k=>[(8, .int .i64 k),(7, .int .i64 ↑(l.map Trial.av).length),(3, .own 0 0),(0, .isl (l.map Trial.av))]) (fun k=>[.box false x.av]) (fun k=>k<=l.length/\∀b∈l.take k,trEq x b=false) (fun k=>l.length-k) 0 mI ⟨by omega,by simp⟩ ?_
 rintro k ⟨h1,h2⟩
 conv=>whnf
 refine bD (fun h3=>?_) (fun h3=>?_)
 ·have hk:k<l.length:=by omega
  conv=>whnf
  refine iaJ (getM Trial.av l k hk) ?_
  conv=>whnf
  refine bS (fun hx=>?_) (fun hx=>?_)
  ·have hx:trEq x l[k]=true:=hx
   (conv=>whnf);(repeat'((first|apply bT|apply bF|apply bN|((first|apply bD|apply bEq|apply bNe)<;>intro hh<;>try(exfalso;omega))|refine wIn (by omega) ?_|refine nI (by omega) ?_)<;>conv=>whnf))
   all_goals exact⟨k,rfl,fun _=>by rw[trEq_iff.1 hx];exact List.getElem_mem hk,fun _=>by omega⟩
  ·have hx:trEq x l[k]=false:=hx
   (conv=>whnf);(repeat'((first|apply bT|apply bF|apply bN|((first|apply bD|apply bEq|apply bNe)<;>intro hh<;>try(exfalso;omega))|refine wIn (by omega) ?_|refine nI (by omega) ?_)<;>conv=>whnf))
   exact⟨k+1,mI,⟨by omega,take_none hk h2 hx⟩,by omega⟩
 ·have:k=l.length:=by omega
  subst this
  rw[List.take_length]at h2
  (conv=>whnf);(repeat'((first|apply bT|apply bF|apply bN|((first|apply bD|apply bEq|apply bNe)<;>intro hh<;>try(exfalso;omega))|refine wIn (by omega) ?_|refine nI (by omega) ?_)<;>conv=>whnf))
  all_goals exact⟨-1,rfl,fun h=>by omega,fun h=>by have:=h2 x h;rw[trEq_iff.2 rfl]at this;cases this⟩
theorem p119(l:List Trial)(x:Trial)(hl:l.length<=1000000):FnA Try.prog 119 [.isl (l.map Trial.av), .agg x.av] (· = .bool (decide (x∈l))):=by
 refine fnA 1 ok119 (by simp) ?_
 (conv=>whnf);(repeat'((first|apply bT|apply bF|apply bN|((first|apply bD|apply bEq|apply bNe)<;>intro hh<;>try(exfalso;omega))|refine wIn (by omega) ?_|refine nI (by omega) ?_)<;>conv=>whnf))
 refine(p153 l x hl).callq rfl rfl (fun r hr=>?_);obtain⟨n,rfl,hn⟩:=hr
 (conv=>whnf);(repeat'((first|apply bT|apply bF|apply bN|((first|apply bD|apply bEq|apply bNe)<;>intro hh<;>try(exfalso;omega))|refine wIn (by omega) ?_|refine nI (by omega) ?_)<;>conv=>whnf))
 all_goals exact congrArg AV.bool (decide_eq_decide.2 hn)
def Trial.neg(t:Trial):Trial:=⟨t.sp,t.mkr,t.sl,1-t.ft⟩
theorem p118(l:List Trial)(x:Trial)(hl:l.length<=1000000)(hf:0<=x.ft/\x.ft<=1):FnA Try.prog 118 [.agg x.av, .ipt [.isl (l.map Trial.av)]] (· = .bool (decide (x.neg∈l))):=by
 have e1:=p119 l x.neg hl
 refine fnA 1 ok118 (by simp) ?_
 (conv=>whnf);(repeat'((first|apply bT|apply bF|apply bN|((first|apply bD|apply bEq|apply bNe)<;>intro hh<;>try(exfalso;omega))|refine e1.cq rfl rfl ?_|refine wIn (by omega) ?_|refine nI (by omega) ?_)<;>conv=>whnf))
 all_goals rfl
theorem p152(C:List AV)(p:Trial->Bool)(l:List Trial)(hl:l.length<=1000000)(hg:∀x∈l,FnV Try.prog (.fn 118 [.ipt C]) [.agg x.av] (· = .bool (p x))):FnA Try.prog 152 [.isl (l.map Trial.av), .fn 118 [.ipt C]] (fun r=>∃n:Int,r = .int .i64 n/\(0<=n<->l.any p=true)):=by
 have hL:(l.map Trial.av).length=l.length:=by simp
 refine fnA 0 ok152 (by simp) ?_
 (conv=>whnf);(repeat'((first|apply bT|apply bF|apply bN|((first|apply bD|apply bEq|apply bNe)<;>intro hh<;>try(exfalso;omega))|refine wIn (by omega) ?_|refine nI (by omega) ?_)<;>conv=>whnf))
 refine loop_i (α :=Nat) (fun k=>[(8, .int .i64 k),(7, .int .i64 ↑(l.map Trial.av).length),(1, .fn 118 [.ipt C]),(0, .isl (l.map Trial.av))]) (fun k=>[]) (fun k=>k<=l.length/\∀b∈l.take k,p b=false) (fun k=>l.length-k) 0 mI ⟨by omega,by simp⟩ ?_
 rintro k ⟨h1,h2⟩
 conv=>whnf
 refine bD (fun h3=>?_) (fun h3=>?_)
 ·have hk:k<l.length:=by omega
  have hv:=hg l[k] (List.getElem_mem hk)
  cases hx:p l[k]with
  |true=>
   rw[hx]at hv
   conv=>whnf
   refine iaJ (getM Trial.av l k hk) ?_
   (conv=>whnf);(repeat'((first|apply bT|apply bF|apply bN|((first|apply bD|apply bEq|apply bNe)<;>intro hh<;>try(exfalso;omega))|(refine hv.vcallq rfl rfl rfl rfl (fun r (hr:r=_)=>?_);subst hr)|refine wIn (by omega) ?_|refine nI (by omega) ?_)<;>conv=>whnf))
   all_goals exact⟨k,rfl,fun _=>any_yes hk hx,fun _=>by omega⟩
  |false=>
   rw[hx]at hv
   conv=>whnf
   refine iaJ (getM Trial.av l k hk) ?_
   (conv=>whnf);(repeat'((first|apply bT|apply bF|apply bN|((first|apply bD|apply bEq|apply bNe)<;>intro hh<;>try(exfalso;omega))|(refine hv.vcallq rfl rfl rfl rfl (fun r (hr:r=_)=>?_);subst hr)|refine wIn (by omega) ?_|refine nI (by omega) ?_)<;>conv=>whnf))
   exact⟨k+1,mI,⟨by omega,take_none hk h2 hx⟩,by omega⟩
 ·have:k=l.length:=by omega
  subst this
  rw[List.take_length]at h2
  (conv=>whnf);(repeat'((first|apply bT|apply bF|apply bN|((first|apply bD|apply bEq|apply bNe)<;>intro hh<;>try(exfalso;omega))|refine wIn (by omega) ?_|refine nI (by omega) ?_)<;>conv=>whnf))
  all_goals exact⟨-1,rfl,fun h=>by omega,fun h=>by rw[any_no h2]at h;cases h⟩
def clash(l:List Trial):Bool:=l.any fun t=>decide (t.neg∈l)
theorem p117(l:List Trial)(hl:l.length<=1000000)(hf:∀x∈l,0<=x.ft/\x.ft<=1):FnA Try.prog 117 [.isl (l.map Trial.av), .fn 118 [.ipt [.isl (l.map Trial.av)]]] (· = .bool (clash l)):=by
 unfold clash
 refine fnA 0 ok117 (by simp) ?_
 (conv=>whnf);(repeat'((first|apply bT|apply bF|apply bN|((first|apply bD|apply bEq|apply bNe)<;>intro hh<;>try(exfalso;omega))|refine wIn (by omega) ?_|refine nI (by omega) ?_)<;>conv=>whnf))
 refine(p152 [.isl (l.map Trial.av)] (fun t=>decide (t.neg∈l)) l hl (fun x hx=>fnV_of bd118 (p118 l x hl (hf x hx)))).callq rfl rfl (fun r hr=>?_);obtain⟨n,rfl,hn⟩:=hr
 (conv=>whnf);(repeat'((first|apply bT|apply bF|apply bN|((first|apply bD|apply bEq|apply bNe)<;>intro hh<;>try(exfalso;omega))|refine wIn (by omega) ?_|refine nI (by omega) ?_)<;>conv=>whnf))
 all_goals (refine congrArg AV.bool ?_;cases hp:l.any (fun t=>decide (t.neg∈l))<;>simp[hp]at hn⊢<;>omega)
theorem p67(l:List Trial)(hl:l.length<=1000000)(hf:∀x∈l,0<=x.ft/\x.ft<=1):FnA Try.prog 67 [.isl (l.map Trial.av)] (· = .bool (clash l)):=by
 have e1:=p117 l hl hf
 refine fnA 1 ok67 (by simp) ?_
 (conv=>whnf);(repeat'((first|apply bT|apply bF|apply bN|((first|apply bD|apply bEq|apply bNe)<;>intro hh<;>try(exfalso;omega))|refine e1.lq rfl rfl ?_|refine wIn (by omega) ?_|refine nI (by omega) ?_)<;>conv=>whnf))
 all_goals rfl
structure Ok(w:Shop):Prop where
 s1:w.sps.length<=10
 s2:∀x∈w.sps,(0<=x.k/\x.k<=9)/\(0<=x.s/\x.s<=9)/\0<=x.lo/\x.lo<=x.hi/\x.hi<=999
 m1:w.mks.length<=6
 m2:∀m∈w.mks,m.length<=4/\∀x∈m,(0<=x.k/\x.k<=9)/\x.ss.length<=4/\(∀n∈x.ss,0<=n/\n<=9)/\0<=x.lo/\x.lo<=x.hi/\x.hi<=999
 c:0<=w.cut/\w.cut<=99
 t1:w.tb.length<=30
 t2:∀t∈w.tb,w.isSp t.sp=true/\w.isSl t.mkr t.sl=true/\0<=t.ft/\t.ft<=1
theorem okW_ok{w:Shop}(h:okW w=true):Ok w:=by
 unfold okW at h
 simp only[Bool.and_eq_true,List.all_eq_true,decide_eq_true_eq]at h
 obtain⟨⟨⟨⟨⟨⟨h1,h2⟩,h3⟩,h4⟩,h5⟩,h6⟩,h7⟩:=h
 refine⟨h1,fun x hx=>?_,h3,fun m hm=>?_,h5,h6,fun t ht=>?_⟩
 ·have:=h2 x hx
  simp only[okSp,Bool.and_eq_true,decide_eq_true_eq]at this
  exact⟨this.1.1,this.1.2,okLen_iff.1 this.2⟩
 ·have:=h4 m hm
  simp only[okMk,Bool.and_eq_true,decide_eq_true_eq,List.all_eq_true]at this
  refine⟨this.1,fun x hx=>?_⟩
  have:=this.2 x hx
  simp only[okSl,Bool.and_eq_true,decide_eq_true_eq,List.all_eq_true]at this
  obtain⟨⟨⟨⟨a,b⟩,c⟩,d⟩,e⟩:=this
  exact⟨a,b,c,okLen_iff.1 e⟩
 ·have:=h7 t ht
  simp only[okTr,Bool.and_eq_true,decide_eq_true_eq]at this
  exact⟨this.1.1,this.1.2,this.2⟩
def Shop.chk(w:Shop):Int:=if okW w=true then(if clash w.tb=true then 71 else 0) else 70
theorem p17(w:Shop):FnA Try.prog 17 [.agg w.cells] (· = .int .i64 w.chk):=by
 have e1:=p66 w
 unfold Shop.chk
 cases h:okW w with
 |false=>
  rw[h]at e1
  refine fnA 1 ok17 (by simp) ?_
  (conv=>whnf);(repeat'((first|apply bT|apply bF|apply bN|((first|apply bD|apply bEq|apply bNe)<;>intro hh<;>try(exfalso;omega))|refine e1.cq rfl rfl ?_|refine wIn (by omega) ?_|refine nI (by omega) ?_)<;>conv=>whnf))
  all_goals rfl
 |true=>
  rw[h]at e1
  have hk:=okW_ok h
  have e2:=p67 w.tb (by have:=hk.t1;omega) (fun x hx=>(hk.t2 x hx).2.2)
  cases h2:clash w.tb with
  |false=>
   rw[h2]at e2
   refine fnA 1 ok17 (by simp) ?_
   (conv=>whnf);(repeat'((first|apply bT|apply bF|apply bN|((first|apply bD|apply bEq|apply bNe)<;>intro hh<;>try(exfalso;omega))|refine e1.cq rfl rfl ?_|refine e2.cq rfl rfl ?_|refine wIn (by omega) ?_|refine nI (by omega) ?_)<;>conv=>whnf))
   all_goals rfl
  |true=>
   rw[h2]at e2
   refine fnA 1 ok17 (by simp) ?_
   (conv=>whnf);(repeat'((first|apply bT|apply bF|apply bN|((first|apply bD|apply bEq|apply bNe)<;>intro hh<;>try(exfalso;omega))|refine e1.cq rfl rfl ?_|refine e2.cq rfl rfl ?_|refine wIn (by omega) ?_|refine nI (by omega) ?_)<;>conv=>whnf))
   all_goals rfl
theorem FnW.second{P:Program}{f:FuncId}{args:List AV}{i0:Res}{el:TypeId}{sz:Nat}{es:List (List AV)}(h:FnW P f args [i0] (fun r outs=>r = .row 0/\outs=[.row false el sz es])):FnW P f args [i0] (fun r outs=>r = .row 1/\outs=[.dead, .row false el sz es]):=by
 unfold FnW at h⊢
 intro imm T w os vs h1 h2 h3 h4
 refine(h imm T w os vs h1 h2 h3 h4).mono fun e w' hh=>?_
 obtain⟨v,r,outs,imm',T',os',q1,⟨rfl,rfl⟩,q3,q4,q5,q6,q7,q8,q9,q10⟩:=hh
 have hn:∀j,os' (j+1)=none:=fun j=>by
  have:=q4.sg (j+1)
  simpa[ResOk]using this
 have h0:=q4.sg 0
 refine⟨v, .row 1,_,imm',T',fun i=>if i=0 then os' 0 else if i=1 then os' 0 else none,q1,⟨rfl,rfl⟩,?_,⟨fun i=>?_,fun i j b hi hj=>?_⟩,fun i o ho=>?_,q6,q7,q8,q9,q10⟩
 ·simp only[RV]at q3⊢
  obtain⟨o,k1,k2⟩:=q3
  exact⟨o,by simpa using k1,k2⟩
 ·match i with
  |0=>
   simp only[List.getD_cons_zero,ResOk,if_true]at h0⊢
   intro x hx
   obtain⟨b,v',xs,k1,k2,_⟩:=h0
   rw[k1]at hx;cases hx
   rcases k2.2 with⟨rfl,_⟩|⟨_,_,_,rfl,_⟩<;>rfl
  |1=>
   simp only[List.getD_cons_zero,ResOk]at h0
   simp only[List.getD_cons_succ,List.getD_cons_zero,ResOk]
   simpa using h0
  |j+2=>simp[ResOk]
 ·match i,j with
  |0,_=>simp[Res.blk]at hi
  |_,0=>simp[Res.blk]at hj
  |1,1=>rfl
  |i+2,_=>simp[Res.blk]at hi
  |_,j+2=>simp[Res.blk]at hj
 ·match i with
  |0=>simpa using q5 0 o ho
  |j+1=>
   have:=q5 (j+1) o ho
   rw[hn j]at this;cases this
def spAV(p:Int × Int):List AV:=[.int .i64 p.1, .int .i64 p.2]
def addSp(L:List (Int × Int))(p:Int × Int):List (Int × Int):=if p.2<p.1 then L else L++[p]
theorem addSp_len(L:List (Int × Int))(p:Int × Int):(addSp L p).length<=L.length+1:=by
 unfold addSp;split<;>simp
theorem w154(lo hi:Int)(L:List (Int × Int))(hl:L.length<=1000000):FnW Try.prog 154 [.row 0, .agg [.int .i64 lo, .int .i64 hi]] [.row false 35 2 (L.map spAV)] (fun r outs=>r = .row 1/\outs=[.dead, .row false 35 2 ((addSp L (lo,hi)).map spAV)]):=by
 have hL:(L.map spAV).length=L.length:=by simp
 by_cases h:hi<lo
 ·refine FnW.second ?_
  have e:addSp L (lo,hi)=L:=by unfold addSp;exact if_pos h
  rw[e]
  refine fnW 3 [] ok154 (by simp) rfl rfl ?_
  (conv=>whnf);(repeat'((first|apply bT|apply bF|apply bN|((first|apply bD|apply bEq|apply bNe)<;>intro hh<;>try(exfalso;omega))|refine wIn (by omega) ?_|refine nI (by omega) ?_)<;>conv=>whnf))
  all_goals exact⟨rfl,rfl⟩
 ·have e:(addSp L (lo,hi)).map spAV=L.map spAV++[[.int .i64 lo, .int .i64 hi]]:=by unfold addSp;rw[if_neg h];simp[spAV]
  rw[e]
  refine fnW 3 [2] ok154 (by simp) rfl rfl ?_
  (conv=>whnf);(repeat'((first|apply bT|apply bF|apply bN|((first|apply bD|apply bEq|apply bNe)<;>intro hh<;>try(exfalso;omega))|(refine apI (by simp[AV.one]) (by simp;omega) ?_)|refine wIn (by omega) ?_|refine nI (by omega) ?_)<;>conv=>whnf))
  all_goals exact⟨rfl,rfl⟩
def inS(by_:Int × Int)(L:List (Int × Int))(p:Int × Int):List (Int × Int):=addSp L (max p.1 by_.1,min p.2 by_.2)
def outS(by_:Int × Int)(L:List (Int × Int))(p:Int × Int):List (Int × Int):=addSp (addSp L (p.1,min p.2 (by_.1-1))) (max p.1 (by_.2+1),p.2)
def splI(by_:Int × Int)(L:List (Int × Int)):List (Int × Int):=L.foldl (inS by_) []
def splO(by_:Int × Int)(L:List (Int × Int)):List (Int × Int):=L.foldl (outS by_) []
theorem splI_succ{by_:Int × Int}{L:List (Int × Int)}{k:Nat}(hk:k<L.length):splI by_ (L.take (k+1))=inS by_ (splI by_ (L.take k)) L[k]:=by
 unfold splI;rw[List.take_succ_eq_append_getElem hk,List.foldl_append];rfl
theorem splO_succ{by_:Int × Int}{L:List (Int × Int)}{k:Nat}(hk:k<L.length):splO by_ (L.take (k+1))=outS by_ (splO by_ (L.take k)) L[k]:=by
 unfold splO;rw[List.take_succ_eq_append_getElem hk,List.foldl_append];rfl
theorem splI_len{by_:Int × Int}:∀ {L:List (Int × Int)} {k:Nat},k<=L.length->(splI by_ (L.take k)).length<=k
 |L,0,_=>by simp[splI]
 |L,k+1,h=>by
  rw[splI_succ h]
  have:=splI_len (by_:=by_) (L:=L) (k:=k) (by omega)
  have:=addSp_len (splI by_ (L.take k)) (max (L[k]).1 by_.1,min (L[k]).2 by_.2)
  unfold inS;omega
theorem splO_len{by_:Int × Int}:∀ {L:List (Int × Int)} {k:Nat},k<=L.length->(splO by_ (L.take k)).length<=2*k
 |L,0,_=>by simp[splO]
 |L,k+1,h=>by
  rw[splO_succ h]
  have:=splO_len (by_:=by_) (L:=L) (k:=k) (by omega)
  have h1:=addSp_len (splO by_ (L.take k)) ((L[k]).1,min (L[k]).2 (by_.1-1))
  have h2:=addSp_len (addSp (splO by_ (L.take k)) ((L[k]).1,min (L[k]).2 (by_.1-1))) (max (L[k]).1 (by_.2+1),(L[k]).2)
  unfold outS;omega
theorem p123o(L:List (Int × Int))(b:Int × Int)(hl:L.length<=100000)(hb : -1000000<=b.1/\b.1<=1000000 /\ -1000000<=b.2/\b.2<=1000000):FnO Try.prog 123 [.isl (L.map spAV), .agg [.int .i64 b.1, .int .i64 b.2]] (fun r rows=>r = .tup [.row 5, .row 6]/\rows=[(5, .row false 35 2 ((splI b L).map spAV)),(6, .row false 35 2 ((splO b L).map spAV))]):=by
 have hL:(L.map spAV).length=L.length:=by simp
 refine fnO 7 ok123 (by simp) ?_
 (conv=>whnf);(repeat'((first|apply bT|apply bF|apply bN|((first|apply bD|apply bEq|apply bNe)<;>intro hh<;>try(exfalso;omega))|refine wIn (by omega) ?_|refine nI (by omega) ?_)<;>conv=>whnf))
 refine loop_i (α :=Nat) (fun k=>[(10, .int .i64 k),(9, .int .i64 ↑(L.map spAV).length),(8, .isl (L.map spAV)),(5, .row 6),(4, .row 5),(3, .own 0 0)]) (fun k=>[.box false [.int .i64 b.1, .int .i64 b.2], .fresh, .fresh, .fresh, .fresh, .row false 35 2 ((splI b (L.take k)).map spAV), .row false 35 2 ((splO b (L.take k)).map spAV)]) (fun k=>k<=L.length) (fun k=>L.length-k) 0 (mA [(5,none),(6,none)]) (by omega) ?_
 intro k hk0
 conv=>whnf
 refine bD (fun h3=>?_) (fun h3=>?_)
 ·have hk:k<L.length:=by omega
  have l1:=splI_len (by_:=b) (L:=L) (k:=k) (by omega)
  have l2:=splO_len (by_:=b) (L:=L) (k:=k) (by omega)
  have l3:=addSp_len (splO b (L.take k)) ((L[k]).1,min (L[k]).2 (b.1-1))
  have e1:=w154 (max (L[k]).1 b.1) (min (L[k]).2 b.2) (splI b (L.take k)) (by omega)
  have e2:=w154 (L[k]).1 (min (L[k]).2 (b.1-1)) (splO b (L.take k)) (by omega)
  have e3:=w154 (max (L[k]).1 (b.2+1)) (L[k]).2 (addSp (splO b (L.take k)) ((L[k]).1,min (L[k]).2 (b.1-1))) (by omega)
  conv=>whnf
  refine iaJ (getM spAV L k hk) ?_
  (conv=>whnf);(repeat'((first|apply bT|apply bF|apply bN|((first|apply bD|apply bEq|apply bNe)<;>intro hh<;>try(exfalso;omega))|refine wIn (by omega) ?_|refine nI (by omega) ?_)<;>conv=>whnf))
  refine e1.callwq [5] rfl rfl ⟨rfl,trivial⟩ rfl rfl rfl rfl (fun r outs hr=>?_)
  obtain⟨hr1,ho⟩:=hr;subst hr1;subst ho;refine⟨⟨rfl,rfl,rfl,rfl⟩,?_⟩
  (conv=>whnf);(repeat'((first|apply bT|apply bF|apply bN|((first|apply bD|apply bEq|apply bNe)<;>intro hh<;>try(exfalso;omega))|refine wIn (by omega) ?_|refine nI (by omega) ?_)<;>conv=>whnf))
  refine e2.callwq [6] rfl rfl ⟨rfl,trivial⟩ rfl rfl rfl rfl (fun r outs hr=>?_)
  obtain⟨hr1,ho⟩:=hr;subst hr1;subst ho;refine⟨⟨rfl,rfl,rfl,rfl⟩,?_⟩
  (conv=>whnf);(repeat'((first|apply bT|apply bF|apply bN|((first|apply bD|apply bEq|apply bNe)<;>intro hh<;>try(exfalso;omega))|refine wIn (by omega) ?_|refine nI (by omega) ?_)<;>conv=>whnf))
  refine e3.callwq [3] rfl rfl ⟨rfl,trivial⟩ rfl rfl rfl rfl (fun r outs hr=>?_)
  obtain⟨hr1,ho⟩:=hr;subst hr1;subst ho;refine⟨⟨rfl,rfl,rfl,rfl⟩,?_⟩
  (conv=>whnf);(repeat'((first|apply bT|apply bF|apply bN|((first|apply bD|apply bEq|apply bNe)<;>intro hh<;>try(exfalso;omega))|refine wIn (by omega) ?_|refine nI (by omega) ?_)<;>conv=>whnf))
  refine⟨k+1,?_,by omega,by omega⟩
  rw[splI_succ hk,splO_succ hk]
  exact(mA [(5,some 2),(6,some 4)])
 ·have:k=L.length:=by omega
  subst this
  rw[List.take_length]
  (conv=>whnf);(repeat'((first|apply bT|apply bF|apply bN|((first|apply bD|apply bEq|apply bNe)<;>intro hh<;>try(exfalso;omega))|refine wIn (by omega) ?_|refine nI (by omega) ?_)<;>conv=>whnf))
  all_goals exact⟨rfl,rfl⟩
def Shop.sc(w:Shop)(x:AV):List AV:=[.isl (w.sps.map Spare.av), .isl (w.mks.map mkAV), .int .i64 w.cut, .isl (w.tb.map Trial.av),x]
def Shop.sp(w:Shop)(i:Int):Spare:=w.sps.getD i.toNat ⟨0,0,0,0⟩
def Shop.slot(w:Shop)(m k:Int):Slot:=(w.slots m).getD k.toNat ⟨0,[],0,0⟩
theorem isSp_iff{w:Shop}{i:Int}:w.isSp i=true<->0<=i/\i<w.sps.length:=by unfold Shop.isSp;exact decide_eq_true_iff
theorem isSl_iff{w:Shop}{m k:Int}:w.isSl m k=true<->w.isMk m=true/\0<=k/\k<(w.slots m).length:=by
 unfold Shop.isSl;rw[Bool.and_eq_true,decide_eq_true_iff]
theorem spget{w:Shop}{i:Int}(h:w.isSp i=true):(w.sps.map Spare.av).getD i.toNat []=(w.sp i).av:=by
 have h:=isSp_iff.1 h
 have:i.toNat<w.sps.length:=by omega
 rw[getM Spare.av w.sps _ this]
 unfold Shop.sp;simp[List.getD_eq_getElem?_getD,this]
theorem slget{w:Shop}{m k:Int}(h:w.isSl m k=true):((w.slots m).map Slot.av).getD k.toNat []=(w.slot m k).av:=by
 have h:=isSl_iff.1 h
 have:k.toNat<(w.slots m).length:=by omega
 rw[getM Slot.av _ _ this]
 unfold Shop.slot;simp[List.getD_eq_getElem?_getD,this]
theorem Ok.sp{w:Shop}(h:Ok w){i:Int}(hi:w.isSp i=true):(0<=(w.sp i).k/\(w.sp i).k<=9)/\(0<=(w.sp i).s/\(w.sp i).s<=9)/\0<=(w.sp i).lo/\(w.sp i).lo<=(w.sp i).hi/\(w.sp i).hi<=999:=by
 have hi:=isSp_iff.1 hi
 have hl:i.toNat<w.sps.length:=by omega
 have e:w.sp i=w.sps[i.toNat]:=by unfold Shop.sp;simp[List.getD_eq_getElem?_getD,hl]
 rw[e];exact h.s2 _ (List.getElem_mem hl)
theorem slots_mem{w:Shop}{m:Int}(hm:w.isMk m=true):w.slots m∈w.mks:=by
 have hm:=isMk_iff.1 hm
 have hl:m.toNat<w.mks.length:=by omega
 have e:w.slots m=w.mks[m.toNat]:=by unfold Shop.slots;simp[List.getD_eq_getElem?_getD,hl]
 rw[e];exact List.getElem_mem hl
theorem Ok.slots{w:Shop}(h:Ok w){m:Int}(hm:w.isMk m=true):(w.slots m).length<=4:=(h.m2 _ (slots_mem hm)).1
theorem Ok.slot{w:Shop}(h:Ok w){m k:Int}(hm:w.isSl m k=true):(0<=(w.slot m k).k/\(w.slot m k).k<=9)/\(w.slot m k).ss.length<=4/\(∀n∈(w.slot m k).ss,0<=n/\n<=9)/\0<=(w.slot m k).lo/\(w.slot m k).lo<=(w.slot m k).hi/\(w.slot m k).hi<=999:=by
 obtain⟨h1,h2⟩:=isSl_iff.1 hm
 have hl:k.toNat<(w.slots m).length:=by omega
 have e:w.slot m k=(w.slots m)[k.toNat]:=by unfold Shop.slot;simp[List.getD_eq_getElem?_getD,hl]
 rw[e];exact(h.m2 _ (slots_mem h1)).2 _ (List.getElem_mem hl)
def Shop.kin(w:Shop)(i m k:Int):Bool:=decide ((w.sp i).k=(w.slot m k).k)&&decide ((w.sp i).s∈(w.slot m k).ss)
def Shop.room(w:Shop)(i m k:Int):Int × Int:=if w.kin i m k=true then((w.slot m k).lo,(w.slot m k).hi+w.cut) else(0, -1)
theorem p124(w:Shop)(hk:Ok w)(x:AV)(hx:x.one=true)(hx2:∃es,x = .isl es)(i m k:Int)(hi:w.isSp i=true)(hm:w.isSl m k=true):FnA Try.prog 124 [.agg (w.sc x), .int .i64 i, .int .i64 m, .int .i64 k] (· = .agg [.int .i64 (w.room i m k).1, .int .i64 (w.room i m k).2]):=by
 obtain⟨es,rfl⟩:=hx2
 have l1:(w.sps.map Spare.av).length=w.sps.length:=by simp
 have l2:(w.mks.map mkAV).length=w.mks.length:=by simp
 have l3:((w.slots m).map Slot.av).length=(w.slots m).length:=by simp
 have h1:=isSp_iff.1 hi
 obtain⟨h2,h3⟩:=isSl_iff.1 hm
 have h2':=isMk_iff.1 h2
 have hs:=hk.slot hm
 have hc:=hk.c
 have g1:=spget hi
 have g2:=mkget h2
 have g3:=slget hm
 have e1:=p89 (w.slot m k).ss (w.sp i).s (by omega)
 unfold Shop.room Shop.kin
 refine fnA 4 ok124 (by simp) ?_
 by_cases ha:(w.sp i).k=(w.slot m k).k
 ·by_cases hb:(w.sp i).s∈(w.slot m k).ss
  ·rw[decide_eq_true hb]at e1
   rw[decide_eq_true ha,decide_eq_true hb]
   (conv=>whnf);(repeat'((first|apply bT|apply bF|apply bN|((first|apply bD|apply bEq|apply bNe)<;>intro hh<;>try(exfalso;omega))|refine iaJ g1 ?_|refine iaJ g2 ?_|refine iaJ g3 ?_|refine e1.cq rfl rfl ?_|refine wIn (by omega) ?_|refine nI (by omega) ?_)<;>conv=>whnf))
   all_goals rfl
  ·rw[decide_eq_false hb]at e1
   rw[decide_eq_true ha,decide_eq_false hb]
   (conv=>whnf);(repeat'((first|apply bT|apply bF|apply bN|((first|apply bD|apply bEq|apply bNe)<;>intro hh<;>try(exfalso;omega))|refine iaJ g1 ?_|refine iaJ g2 ?_|refine iaJ g3 ?_|refine e1.cq rfl rfl ?_|refine wIn (by omega) ?_|refine nI (by omega) ?_)<;>conv=>whnf))
   all_goals rfl
 ·rw[decide_eq_false ha]
  (conv=>whnf);(repeat'((first|apply bT|apply bF|apply bN|((first|apply bD|apply bEq|apply bNe)<;>intro hh<;>try(exfalso;omega))|refine iaJ g1 ?_|refine iaJ g2 ?_|refine iaJ g3 ?_|refine wIn (by omega) ?_|refine nI (by omega) ?_)<;>conv=>whnf))
  all_goals rfl
theorem room_bd{w:Shop}(hk:Ok w){i m k:Int}(hm:w.isSl m k=true) : -1000000<=(w.room i m k).1/\(w.room i m k).1<=1000000 /\ -1000000<=(w.room i m k).2/\(w.room i m k).2<=1000000:=by
 have:=hk.slot hm
 have:=hk.c
 unfold Shop.room
 split
 ·dsimp only;omega
 ·dsimp only;omega
def Shop.stepT(w:Shop)(i:Int)(L:List (Int × Int))(t:Trial):List (Int × Int):=if t.sp=i then(if t.ft=1 then splI (w.room i t.mkr t.sl) L else splO (w.room i t.mkr t.sl) L) else L
def Shop.spans(w:Shop)(i:Int):List (Int × Int):=w.tb.foldl (w.stepT i) [((w.sp i).lo,(w.sp i).hi)]
def Shop.spansK(w:Shop)(i:Int)(k:Nat):List (Int × Int):=(w.tb.take k).foldl (w.stepT i) [((w.sp i).lo,(w.sp i).hi)]
theorem spansK_succ{w:Shop}{i:Int}{k:Nat}(hk:k<w.tb.length):w.spansK i (k+1)=w.stepT i (w.spansK i k) w.tb[k]:=by
 unfold Shop.spansK;rw[List.take_succ_eq_append_getElem hk,List.foldl_append];rfl
def inL(L:List (Int × Int))(n:Int):Prop:=∃p∈L,p.1<=n/\n<=p.2
structure Asc(L:List (Int × Int)):Prop where
 ne:∀p∈L,p.1<=p.2
 pw:L.Pairwise fun p q=>p.2<q.1
def one(p:Int × Int):List (Int × Int):=if p.2<p.1 then [] else [p]
theorem addSp_one(L:List (Int × Int))(p:Int × Int):addSp L p=L++one p:=by
 unfold addSp one;split<;>simp
theorem foldl_app{α β : Type}(g : α -> List β):∀(l:List α) (acc:List β),l.foldl (fun a p=>a++g p) acc=acc++l.flatMap g
 | [],acc=>by simp
 |a::l,acc=>by rw[List.foldl_cons,foldl_app g l];simp
def inP(b:Int × Int)(p:Int × Int):List (Int × Int):=one (max p.1 b.1,min p.2 b.2)
def outP(b:Int × Int)(p:Int × Int):List (Int × Int):=one (p.1,min p.2 (b.1-1))++one (max p.1 (b.2+1),p.2)
theorem splI_flat(b:Int × Int)(L:List (Int × Int)):splI b L=L.flatMap (inP b):=by
 have:inS b=fun a p=>a++inP b p:=by funext a p;exact addSp_one _ _
 unfold splI;rw[this,foldl_app];simp
theorem splO_flat(b:Int × Int)(L:List (Int × Int)):splO b L=L.flatMap (outP b):=by
 have:outS b=fun a p=>a++outP b p:=by
  funext a p
  show addSp (addSp a _) _=_
  rw[addSp_one,addSp_one,List.append_assoc];rfl
 unfold splO;rw[this,foldl_app];simp
theorem mem_one{p q:Int × Int}:q∈one p<->q=p/\p.1<=p.2:=by
 unfold one;split<;>simp<;>omega
theorem in_splI{b:Int × Int}{L:List (Int × Int)}{n:Int}:inL (splI b L) n<->inL L n/\b.1<=n/\n<=b.2:=by
 rw[splI_flat]
 unfold inL
 simp only[List.mem_flatMap,inP,mem_one]
 constructor
 ·rintro⟨q,⟨p,hp,rfl,h1⟩,h2⟩
  exact⟨⟨p,hp,by omega⟩,by omega⟩
 ·rintro⟨⟨p,hp,h1⟩,h2⟩
  exact⟨_,⟨p,hp,rfl,by omega⟩,by dsimp only;omega⟩
theorem in_splO{b:Int × Int}{L:List (Int × Int)}{n:Int}:inL (splO b L) n<->inL L n/\¬(b.1<=n/\n<=b.2):=by
 rw[splO_flat]
 unfold inL
 simp only[List.mem_flatMap,outP,List.mem_append,mem_one]
 constructor
 ·rintro⟨q,⟨p,hp,⟨rfl,h1⟩|⟨rfl,h1⟩⟩,h2⟩
  ·exact⟨⟨p,hp,by omega⟩,by omega⟩
  ·exact⟨⟨p,hp,by omega⟩,by omega⟩
 ·rintro⟨⟨p,hp,h1⟩,h2⟩
  by_cases h:n<b.1
  ·exact⟨_,⟨p,hp, .inl ⟨rfl,by omega⟩⟩,by dsimp only;omega⟩
  ·exact⟨_,⟨p,hp, .inr ⟨rfl,by omega⟩⟩,by dsimp only;omega⟩
theorem asc_flat{L:List (Int × Int)}(h:Asc L)(g:Int × Int->List (Int × Int))(h1:∀p,Asc (g p))(h2:∀p,∀q∈g p,p.1<=q.1/\q.2<=p.2):Asc (L.flatMap g):=by
 refine⟨fun q hq=>?_,?_⟩
 ·obtain⟨p,_,hp⟩:=List.mem_flatMap.1 hq
  exact(h1 p).ne q hp
 ·rw[List.pairwise_flatMap]
  refine⟨fun p _=>(h1 p).pw,h.pw.imp fun {p q} hpq x hx y hy=>?_⟩
  have:=h2 p x hx
  have:=h2 q y hy
  omega
theorem asc_one(p:Int × Int):Asc (one p):=by
 unfold one;split
 ·exact⟨by simp,List.Pairwise.nil⟩
 ·exact⟨by simp;omega,by simp⟩
theorem asc_splI{b:Int × Int}{L:List (Int × Int)}(h:Asc L):Asc (splI b L):=by
 rw[splI_flat]
 refine asc_flat h _ (fun p=>asc_one _) fun p q hq=>?_
 obtain⟨rfl,_⟩:=mem_one.1 hq
 dsimp only;omega
theorem asc_splO{b:Int × Int}{L:List (Int × Int)}(hb:b.1<=b.2+1)(h:Asc L):Asc (splO b L):=by
 rw[splO_flat]
 refine asc_flat h _ (fun p=>⟨fun q hq=>?_,?_⟩) fun p q hq=>?_
 ·rcases List.mem_append.1 hq with hq|hq
  ·exact(asc_one _).ne q hq
  ·exact(asc_one _).ne q hq
 ·unfold outP
  rw[List.pairwise_append]
  refine⟨(asc_one _).pw,(asc_one _).pw,fun x hx y hy=>?_⟩
  obtain⟨rfl,_⟩:=mem_one.1 hx
  obtain⟨rfl,_⟩:=mem_one.1 hy
  dsimp only;omega
 ·rcases List.mem_append.1 hq with hq|hq<;>obtain⟨rfl,_⟩:=mem_one.1 hq<;>dsimp only<;>omega
theorem asc_len:∀ {L:List (Int × Int)} {a b:Int},Asc L->(∀p∈L,a<=p.1/\p.2<=b)->a<=b+1->(L.length:Int)<=b+1-a
 | [],a,b,_,_,h=>by simp;omega
 |p::L,a,b,h,h2,h3=>by
  obtain⟨k1,k2⟩:=List.pairwise_cons.1 h.pw
  have q1:=h.ne p (by simp)
  have q2:=h2 p (by simp)
  have:=asc_len (L:=L) (a:=p.2+1) (b:=b) ⟨fun q hq=>h.ne q (by simp[hq]),k2⟩ (fun q hq=>⟨by have:=k1 q hq;omega,(h2 q (by simp[hq])).2⟩) (by omega)
  rw[List.length_cons];omega
theorem asc_head{L:List (Int × Int)}(h:Asc L)(h0:L≠[]):inL L (L.getD 0 (0,0)).1/\∀n,inL L n->(L.getD 0 (0,0)).1<=n:=by
 cases L with
 |nil=>exact absurd rfl h0
 |cons p L=>
  refine⟨⟨p,by simp,by simp;exact h.ne p (by simp)⟩,fun n hn=>?_⟩
  obtain⟨q,hq,h1⟩:=hn
  rcases List.mem_cons.1 hq with rfl|hq
  ·simpa using h1.1
  ·have:=(List.pairwise_cons.1 h.pw).1 q hq
   have:=h.ne p (by simp)
   simp;omega
theorem asc_last{L:List (Int × Int)}(h:Asc L)(h0:L≠[]):inL L (L.getD (L.length-1) (0,0)).2/\∀n,inL L n->n<=(L.getD (L.length-1) (0,0)).2:=by
 have hl:L.length-1<L.length:=by have:=List.length_pos_iff.2 h0;omega
 have e:L.getD (L.length-1) (0,0)=L.getLast h0:=by
  rw[List.getLast_eq_getElem];simp[List.getD_eq_getElem?_getD,hl]
 rw[e]
 have e2:=List.dropLast_concat_getLast h0
 refine⟨⟨_,List.getLast_mem h0,h.ne _ (List.getLast_mem h0),by omega⟩,fun n hn=>?_⟩
 obtain⟨q,hq,h1⟩:=hn
 have hp:=h.pw
 rw[<- e2]at hq hp
 rcases List.mem_append.1 hq with hq|hq
 ·have:=(List.pairwise_append.1 hp).2.2 q hq _ (List.mem_singleton.2 rfl)
  have:=h.ne _ (List.getLast_mem h0)
  omega
 ·have:q=L.getLast h0:=by simpa using hq
  rw[this]at h1;exact h1.2
theorem inL_nil{n:Int}:¬inL [] n:=by rintro⟨p,hp,_⟩;cases hp
theorem asc_nil{L:List (Int × Int)}(h:Asc L):L=[]<->∀n,¬inL L n:=by
 constructor
 ·rintro rfl n;exact inL_nil
 ·intro h2
  cases L with
  |nil=>rfl
  |cons p L=>exact absurd ⟨p,by simp,by omega,h.ne p (by simp)⟩ (h2 p.1)
def Shop.fit(w:Shop)(i n m k:Int):Bool:=w.kin i m k&&decide ((w.slot m k).lo<=n/\n<=(w.slot m k).hi+w.cut)
theorem fit_room{w:Shop}{i n m k:Int}:w.fit i n m k=true<->(w.room i m k).1<=n/\n<=(w.room i m k).2:=by
 unfold Shop.fit Shop.room
 cases w.kin i m k with
 |true=>simp
 |false=>simp;omega
theorem room_ok{w:Shop}(hk:Ok w){i m k:Int}(hm:w.isSl m k=true):(w.room i m k).1<=(w.room i m k).2+1:=by
 have:=hk.slot hm
 have:=hk.c
 unfold Shop.room
 split
 ·dsimp only;omega
 ·dsimp only;omega
def okT(w:Shop)(i n:Int)(t:Trial):Bool:=decide (t.sp=i->w.fit i n t.mkr t.sl=decide (t.ft=1))
def Shop.can(w:Shop)(i n:Int):Bool:=decide ((w.sp i).lo<=n/\n<=(w.sp i).hi)&&w.tb.all (okT w i n)
theorem spansK_ok{w:Shop}(hk:Ok w){i:Int}(hi:w.isSp i=true):∀k,k<=w.tb.length->Asc (w.spansK i k)/\∀n,inL (w.spansK i k) n<->((w.sp i).lo<=n/\n<=(w.sp i).hi)/\∀t∈w.tb.take k,okT w i n t=true
 |0,_=>by
  have:=hk.sp hi
  refine⟨⟨by simp[Shop.spansK];omega,by simp[Shop.spansK]⟩,fun n=>by simp[Shop.spansK,inL]⟩
 |k+1,h=>by
  obtain⟨h1,h2⟩:=spansK_ok hk hi k (by omega)
  have ht:=hk.t2 w.tb[k] (List.getElem_mem (by omega))
  rw[spansK_succ (by omega)]
  have hall:∀n,(∀t∈w.tb.take (k+1),okT w i n t=true)<->(∀t∈w.tb.take k,okT w i n t=true)/\okT w i n w.tb[k]=true:=fun n=>by
   rw[List.take_succ_eq_append_getElem (by omega)]
   simp only[List.mem_append,List.mem_singleton]
   exact⟨fun h=>⟨fun t ht=>h t (.inl ht),h _ (.inr rfl)⟩,fun h t ht=>ht.elim (h.1 t) fun e=>e ▸ h.2⟩
  unfold Shop.stepT
  split
  ·rename_i e1
   split
   ·rename_i e2
    refine⟨asc_splI h1,fun n=>?_⟩
    rw[in_splI,h2,hall,<- fit_room]
    have:okT w i n w.tb[k]=true<->w.fit i n w.tb[k].mkr w.tb[k].sl=true:=by
     unfold okT;simp[e1,e2]
    rw[this,and_assoc]
   ·rename_i e2
    refine⟨asc_splO (room_ok hk ht.2.1) h1,fun n=>?_⟩
    rw[in_splO,h2,hall,<- fit_room]
    have:okT w i n w.tb[k]=true<->¬w.fit i n w.tb[k].mkr w.tb[k].sl=true:=by
     unfold okT;simp[e1,e2]
    rw[this,and_assoc]
  ·rename_i e1
   refine⟨h1,fun n=>?_⟩
   have:okT w i n w.tb[k]=true:=by unfold okT;simp[e1]
   rw[h2,hall];simp[this]
theorem spans_ok{w:Shop}(hk:Ok w){i:Int}(hi:w.isSp i=true):Asc (w.spans i)/\∀n,inL (w.spans i) n<->w.can i n=true:=by
 have:=spansK_ok hk hi w.tb.length (Nat.le_refl _)
 unfold Shop.spansK at this
 rw[List.take_length]at this
 refine⟨this.1,fun n=>?_⟩
 have h2:=this.2 n
 unfold Shop.can
 rw[Bool.and_eq_true,decide_eq_true_iff,List.all_eq_true]
 exact h2
theorem spansK_len{w:Shop}(hk:Ok w){i:Int}(hi:w.isSp i=true){k:Nat}(h:k<=w.tb.length):(w.spansK i k).length<=1000:=by
 obtain⟨h1,h2⟩:=spansK_ok hk hi k h
 have hs:=hk.sp hi
 have:=asc_len h1 (a:=0) (b:=999) (fun p hp=>by
  have a:=(h2 p.1).1 ⟨p,hp,by omega,h1.ne p hp⟩
  have b:=(h2 p.2).1 ⟨p,hp,h1.ne p hp,by omega⟩
  omega) (by omega)
 omega
theorem can_bd{w:Shop}{i n:Int}(h:w.can i n=true):(w.sp i).lo<=n/\n<=(w.sp i).hi:=by
 unfold Shop.can at h;rw[Bool.and_eq_true]at h;exact of_decide_eq_true h.1
theorem sp_flat:∀l:List (Int × Int),AV.flatL ((l.map spAV).flatten)=true
 | []=>rfl
 |p::l=>by simp only[List.map_cons,List.flatten_cons,spAV,List.cons_append,List.nil_append,AV.flatL,AV.flat,Bool.true_and];exact sp_flat l
theorem p122(w:Shop)(hk:Ok w)(es:List (List AV))(i:Int)(hi:w.isSp i=true):FnO Try.prog 122 [.agg (w.sc (.isl es)), .int .i64 i] (fun r rows=>r = .row 6/\rows=[(6, .row false 35 2 ((w.spans i).map spAV))]):=by
 have l1:(w.sps.map Spare.av).length=w.sps.length:=by simp
 have l4:(w.tb.map Trial.av).length=w.tb.length:=by simp
 have h1:=isSp_iff.1 hi
 have ht1:=hk.t1
 have g1:=spget hi
 refine fnO 7 ok122 (by simp) ?_
 (conv=>whnf);(repeat'((first|apply bT|apply bF|apply bN|((first|apply bD|apply bEq|apply bNe)<;>intro hh<;>try(exfalso;omega))|refine iaJ g1 ?_|refine wIn (by omega) ?_|refine nI (by omega) ?_)<;>conv=>whnf))
 refine loop_i (α :=Nat) (fun k=>[(22, .int .i64 k),(21, .int .i64 ↑(w.tb.map Trial.av).length),(20, .isl (w.tb.map Trial.av)),(5, .row 6),(2, .own 0 0),(1, .int .i64 i)]) (fun k=>[.box false (w.sc (.isl es)), .fresh, .fresh, .fresh, .fresh, .fresh, .row false 35 2 ((w.spansK i k).map spAV)]) (fun k=>k<=w.tb.length) (fun k=>w.tb.length-k) 0 (mA [(6,some 1)]) (by omega) ?_
 intro k hk0
 conv=>whnf
 refine bD (fun h3=>?_) (fun h3=>?_)
 ·have hkl:k<w.tb.length:=by omega
  have ht:=hk.t2 w.tb[k] (List.getElem_mem hkl)
  have g2:=getM Trial.av w.tb k hkl
  have hlen:=spansK_len hk hi (k:=k) (by omega)
  have hbd:=room_bd hk (i:=i) ht.2.1
  by_cases hs:w.tb[k].sp=i
  ·have e1:=p124 w hk (.isl es) rfl ⟨_,rfl⟩ i w.tb[k].mkr w.tb[k].sl hi ht.2.1
   have e2:=p123o (w.spansK i k) (w.room i w.tb[k].mkr w.tb[k].sl) (by omega) hbd
   (conv=>whnf);(repeat'((first|apply bT|apply bF|apply bN|((first|apply bD|apply bEq|apply bNe)<;>intro hh<;>try(exfalso;omega))|refine iaJ g2 ?_|refine e1.cq rfl rfl ?_|refine wIn (by omega) ?_|refine nI (by omega) ?_)<;>conv=>whnf))
   refine e2.calllq rfl rfl (fun r rows hr=>?_)
   obtain⟨hr1,hr2⟩:=hr;subst hr1;subst hr2;refine⟨rfl,?_,rfl,?_⟩
   ·simp[flatRB,sp_flat]
   by_cases hf:w.tb[k].ft=1
   ·(conv=>whnf);(repeat'((first|apply bT|apply bF|apply bN|((first|apply bD|apply bEq|apply bNe)<;>intro hh<;>try(exfalso;omega))|refine wIn (by omega) ?_|refine nI (by omega) ?_)<;>conv=>whnf))
    refine⟨k+1,?_,by omega,by omega⟩
    rw[spansK_succ hkl]
    unfold Shop.stepT
    rw[if_pos hs,if_pos hf]
    exact(mA [(6,some 3)])
   ·(conv=>whnf);(repeat'((first|apply bT|apply bF|apply bN|((first|apply bD|apply bEq|apply bNe)<;>intro hh<;>try(exfalso;omega))|refine wIn (by omega) ?_|refine nI (by omega) ?_)<;>conv=>whnf))
    refine⟨k+1,?_,by omega,by omega⟩
    rw[spansK_succ hkl]
    unfold Shop.stepT
    rw[if_pos hs,if_neg hf]
    exact(mA [(6,some 4)])
  ·(conv=>whnf);(repeat'((first|apply bT|apply bF|apply bN|((first|apply bD|apply bEq|apply bNe)<;>intro hh<;>try(exfalso;omega))|refine iaJ g2 ?_|refine wIn (by omega) ?_|refine nI (by omega) ?_)<;>conv=>whnf))
   refine⟨k+1,?_,by omega,by omega⟩
   rw[spansK_succ hkl]
   unfold Shop.stepT
   rw[if_neg hs]
   exact mI
 ·have:k=w.tb.length:=by omega
  subst this
  have e:w.spansK i w.tb.length=w.spans i:=by unfold Shop.spansK Shop.spans;rw[List.take_length]
  rw[e]
  (conv=>whnf);(repeat'((first|apply bT|apply bF|apply bN|((first|apply bD|apply bEq|apply bNe)<;>intro hh<;>try(exfalso;omega))|refine wIn (by omega) ?_|refine nI (by omega) ?_)<;>conv=>whnf))
  all_goals exact⟨rfl,rfl⟩
theorem chk_ok{w:Shop}(h:w.chk=0):Ok w:=by
 unfold Shop.chk at h
 split at h
 ·rename_i h1;exact okW_ok h1
 ·cases h
def lenAV(L:List (Int × Int)):List AV:=[.isl (L.map spAV)]
def Shop.lensK(w:Shop)(k:Nat):List (List (Int × Int)):=(List.range k).map fun j=>w.spans (j:Nat)
def Shop.lens(w:Shop):List (List (Int × Int)):=w.lensK w.sps.length
def Shop.noT(w:Shop):Bool:=w.lens.any (·.isEmpty)
def Shop.eO(w:Shop)(v:Bool):Int:=if w.chk≠0 then w.chk else if v=true then(if w.noT=true then 3 else 0) else 1
def Shop.scL(w:Shop):List AV:=w.sc (.isl (w.lens.map lenAV))
theorem eO_0{w:Shop}{v:Bool}(h:w.eO v=0):w.chk=0/\v=true/\w.noT=false:=by
 unfold Shop.eO at h
 split at h
 ·rename_i h1;exact absurd h h1
 ·rename_i h1
  split at h
  ·rename_i h2
   split at h
   ·cases h
   ·rename_i h3;exact⟨by omega,h2,by simpa using h3⟩
  ·cases h
theorem p69(w:Shop)(v:Bool)(h:w.eO v=0):FnA Try.prog 69 [.agg w.cells, .bool v] (· = .tup [.agg w.scL, .int .i64 0]):=by
 obtain⟨hc,rfl,hn⟩:=eO_0 h
 have hk:=chk_ok hc
 have hs1:=hk.s1
 have l1:(w.sps.map Spare.av).length=w.sps.length:=by simp
 have e1:=p17 w
 rw[hc]at e1
 refine fnA 8 ok69 (by simp) ?_
 (conv=>whnf);(repeat'((first|apply bT|apply bF|apply bN|((first|apply bD|apply bEq|apply bNe)<;>intro hh<;>try(exfalso;omega))|refine e1.cq rfl rfl ?_|refine wIn (by omega) ?_|refine nI (by omega) ?_)<;>conv=>whnf))
 refine loop_i (α :=Nat) (fun k=>[(24, .int .i64 k),(23, .int .i64 ↑(w.sps.map Spare.av).length),(7, .own 2 0),(4, .own 1 0),(2, .own 0 0)]) (fun k=>[.box false w.cells, .box false [.nils, .nils, .int .i64 0, .nils, .nils], .box false (w.sc (.row 6)), .fresh, .fresh, .fresh, .row false 115 1 ((w.lensK k).map lenAV), .fresh]) (fun k=>k<=w.sps.length) (fun k=>w.sps.length-k) 0 (mA [(6,none)]) (by omega) ?_
 intro k hk0
 conv=>whnf
 refine bD (fun h3=>?_) (fun h3=>?_)
 ·have hkl:k<w.sps.length:=by omega
  have hi:w.isSp (k:Nat)=true:=isSp_iff.2 (by omega)
  have e2:=p122 w hk ((w.lensK k).map lenAV) k hi
  have hL:(w.lensK k).length=k:=by simp[Shop.lensK]
  have hL2:((w.lensK k).map lenAV).length=k:=by simp[hL]
  have hsuc:w.lensK (k+1)=w.lensK k++[w.spans (k:Nat)]:=by unfold Shop.lensK;rw[List.range_succ,List.map_append];rfl
  have hne:(w.spans (k:Nat)).isEmpty=false:=by
   have:(w.spans (k:Nat))∈w.lens:=by
    unfold Shop.lens Shop.lensK;exact List.mem_map.2 ⟨k,List.mem_range.2 hkl,rfl⟩
   rw[Bool.eq_false_iff];intro h4
   unfold Shop.noT at hn
   rw[List.any_eq_true.2 ⟨_,this,h4⟩]at hn;cases hn
  have hne2:¬((w.spans (k:Nat)).map spAV).length=0:=by
   cases hh:w.spans (k:Nat)with
   |nil=>rw[hh]at hne;cases hne
   |cons a l=>simp
  (conv=>whnf);(repeat'((first|apply bT|apply bF|apply bN|((first|apply bD|apply bEq|apply bNe)<;>intro hh<;>try(exfalso;omega))|refine wIn (by omega) ?_|refine nI (by omega) ?_)<;>conv=>whnf))
  refine e2.calllq rfl rfl (fun r rows hr=>?_)
  obtain⟨hr1,hr2⟩:=hr;subst hr1;subst hr2;refine⟨rfl,?_,rfl,?_⟩
  ·simp[flatRB,sp_flat]
  (conv=>whnf);(repeat'((first|apply bT|apply bF|apply bN|((first|apply bD|apply bEq|apply bNe)<;>intro hh<;>try(exfalso;omega))|(refine apI (by simp[AV.one]) (by simp;omega) ?_)|refine wIn (by omega) ?_|refine nI (by omega) ?_)<;>conv=>whnf))
  refine⟨k+1,?_,by omega,by omega⟩
  rw[hsuc,List.map_append]
  exact(mA [(6,some 5)])
 ·have:k=w.sps.length:=by omega
  subst this
  have e:w.lensK w.sps.length=w.lens:=rfl
  rw[e]
  (conv=>whnf);(repeat'((first|apply bT|apply bF|apply bN|((first|apply bD|apply bEq|apply bNe)<;>intro hh<;>try(exfalso;omega))|refine wIn (by omega) ?_|refine nI (by omega) ?_)<;>conv=>whnf))
  all_goals rfl
theorem lensget{w:Shop}{i:Int}(hi:w.isSp i=true):(w.lens.map lenAV).getD i.toNat []=lenAV (w.spans i):=by
 have h:=isSp_iff.1 hi
 have hl:i.toNat<w.lens.length:=by simp[Shop.lens,Shop.lensK];omega
 rw[getM lenAV w.lens _ hl]
 congr 1
 simp only[Shop.lens,Shop.lensK,List.getElem_map,List.getElem_range]
 congr 1;omega
theorem spans_len{w:Shop}(hk:Ok w){i:Int}(hi:w.isSp i=true):(w.spans i).length<=1000:=by
 have:=spansK_len hk hi (k:=w.tb.length) (Nat.le_refl _)
 unfold Shop.spansK at this
 rwa [List.take_length]at this
theorem can_ex{w:Shop}{v:Bool}(h:w.eO v=0){i:Int}(hi:w.isSp i=true):∃n,w.can i n=true:=by
 obtain⟨hc,_,hn⟩:=eO_0 h
 have hk:=chk_ok hc
 obtain⟨ha,hin⟩:=spans_ok hk hi
 have hi':=isSp_iff.1 hi
 have hm:w.spans i∈w.lens:=by
  unfold Shop.lens Shop.lensK
  exact List.mem_map.2 ⟨i.toNat,List.mem_range.2 (by omega),by congr 1;omega⟩
 have hne:(w.spans i).isEmpty=false:=by
  rw[Bool.eq_false_iff];intro h4
  unfold Shop.noT at hn
  rw[List.any_eq_true.2 ⟨_,hm,h4⟩]at hn;cases hn
 have:w.spans i≠[]:=fun e=>by rw[e]at hne;cases hne
 exact⟨_,(hin _).1 (asc_head ha this).1⟩
def Shop.loN(w:Shop)(i:Int):Int:=((w.spans i).getD 0 (0,0)).1
def Shop.hiN(w:Shop)(i:Int):Int:=((w.spans i).getD ((w.spans i).length-1) (0,0)).2
theorem spans_ne{w:Shop}(hk:Ok w){i:Int}(hi:w.isSp i=true)(h:∃n,w.can i n=true):w.spans i≠[]:=by
 obtain⟨n,hn⟩:=h
 obtain⟨ha,hin⟩:=spans_ok hk hi
 intro e
 have:=(hin n).2 hn
 rw[e]at this;exact inL_nil this
theorem loN_ok{w:Shop}(hk:Ok w){i:Int}(hi:w.isSp i=true)(h:∃n,w.can i n=true):w.can i (w.loN i)=true/\∀n,w.can i n=true->w.loN i<=n:=by
 obtain⟨ha,hin⟩:=spans_ok hk hi
 obtain⟨h1,h2⟩:=asc_head ha (spans_ne hk hi h)
 exact⟨(hin _).1 h1,fun n hn=>h2 n ((hin n).2 hn)⟩
theorem hiN_ok{w:Shop}(hk:Ok w){i:Int}(hi:w.isSp i=true)(h:∃n,w.can i n=true):w.can i (w.hiN i)=true/\∀n,w.can i n=true->n<=w.hiN i:=by
 obtain⟨ha,hin⟩:=spans_ok hk hi
 obtain⟨h1,h2⟩:=asc_last ha (spans_ne hk hi h)
 exact⟨(hin _).1 h1,fun n hn=>h2 n ((hin n).2 hn)⟩
theorem spAVget{L:List (Int × Int)}{j:Nat}(h:j<L.length):(L.map spAV).getD j []=spAV (L.getD j (0,0)):=by
 rw[getM spAV L j h];simp[List.getD_eq_getElem?_getD,h]
theorem chk_0{w:Shop}{v:Bool}(h:w.eO v=0):w.chk=0:=(eO_0 h).1
theorem eO_v{w:Shop}{v:Bool}(h:w.eO v=0):v=true:=(eO_0 h).2.1
theorem p19(w:Shop)(i:Int)(hs:w.sps.length<=1000000)(h:w.eO (w.isSp i)=0):FnA Try.prog 19 [.agg w.cells, .int .i64 i] (· = .tup [.agg [.int .i64 (w.loN i), .int .i64 (w.hiN i)], .int .i64 0]):=by
 have hi:=eO_v h
 have hk:=chk_ok (chk_0 h)
 have hne:=spans_ne hk hi (can_ex h hi)
 have hlen:=spans_len hk hi
 have h1:=isSp_iff.1 hi
 have hs1:=hk.s1
 have l1:(w.lens.map lenAV).length=w.sps.length:=by simp[Shop.lens,Shop.lensK]
 have l2:((w.spans i).map spAV).length=(w.spans i).length:=by simp
 have hpos:=List.length_pos_iff.2 hne
 have e1:=p70 w i hs
 have e2:=p69 w (w.isSp i) h
 have g1:=lensget hi
 have g2:=spAVget (L:=w.spans i) (j:=0) hpos
 have g3:((w.spans i).map spAV).getD (↑((w.spans i).map spAV).length-1:Int).toNat []=spAV ((w.spans i).getD ((w.spans i).length-1) (0,0)):=by
  rw[show(↑((w.spans i).map spAV).length-1:Int).toNat=(w.spans i).length-1 by omega];exact spAVget (by omega)
 refine fnA 7 ok19 (by simp) ?_
 (conv=>whnf);(repeat'((first|apply bT|apply bF|apply bN|((first|apply bD|apply bEq|apply bNe)<;>intro hh<;>try(exfalso;omega))|refine e1.cq rfl rfl ?_|refine e2.zq rfl rfl ?_|refine iaJ g1 ?_|refine iaJ g2 ?_|refine iaJ g3 ?_|refine wIn (by omega) ?_|refine nI (by omega) ?_)<;>conv=>whnf))
 all_goals rfl
def Shop.cov(w:Shop)(i n m:Int):Nat->Nat
 |0=>0
 |k+1=>w.cov i n m k+if w.fit i n m (k:Nat)=true then 2 ^ k else 0
structure Big(w:Shop):Prop where
 s:w.sps.length<=1000000
 m:w.mks.length<=1000000
 t:w.tb.length<=1000000
 sl:∀x∈w.mks,x.length<=1000000/\∀y∈x,y.ss.length<=1000000
theorem p47(w:Shop)(i:Int)(hw:w.sps.length<=1000000):FnA Try.prog 47 [.agg w.cells, .int .i64 i] (· = .bool (w.isSp i)):=by
 have hL:(w.sps.map Spare.av).length=w.sps.length:=by simp
 have e1:=p90 i 0 (↑(w.sps.map Spare.av).length-1)
 unfold Shop.isSp
 refine fnA 1 ok47 (by simp) ?_
 (conv=>whnf);(repeat'((first|apply bT|apply bF|apply bN|((first|apply bD|apply bEq|apply bNe)<;>intro hh<;>try(exfalso;omega))|refine e1.cq rfl rfl ?_|refine wIn (by omega) ?_|refine nI (by omega) ?_)<;>conv=>whnf))
 all_goals first|rfl|exact congrArg AV.bool (decide_eq_decide.2 (by omega))|exact congrArg AV.bool (decide_eq_true (by omega)).symm|exact congrArg AV.bool (decide_eq_false (by omega)).symm
theorem p80(w:Shop)(i:Int)(hw:w.mks.length<=1000000):FnA Try.prog 80 [.agg w.cells, .int .i64 i] (· = .bool (w.isMk i)):=by
 have hL:(w.mks.map mkAV).length=w.mks.length:=by simp
 have e1:=p90 i 0 (↑(w.mks.map mkAV).length-1)
 unfold Shop.isMk
 refine fnA 1 ok80 (by simp) ?_
 (conv=>whnf);(repeat'((first|apply bT|apply bF|apply bN|((first|apply bD|apply bEq|apply bNe)<;>intro hh<;>try(exfalso;omega))|refine e1.cq rfl rfl ?_|refine wIn (by omega) ?_|refine nI (by omega) ?_)<;>conv=>whnf))
 all_goals first|rfl|exact congrArg AV.bool (decide_eq_decide.2 (by omega))|exact congrArg AV.bool (decide_eq_true (by omega)).symm|exact congrArg AV.bool (decide_eq_false (by omega)).symm
theorem p53(w:Shop)(m k:Int)(hw:w.mks.length<=1000000)(hm:∀x∈w.mks,x.length<=1000000):FnA Try.prog 53 [.agg w.cells, .int .i64 m, .int .i64 k] (· = .bool (w.isSl m k)):=by
 have hL:(w.mks.map mkAV).length=w.mks.length:=by simp
 have e1:=p80 w m hw
 unfold Shop.isSl
 refine fnA 1 ok53 (by simp) ?_
 cases h1:w.isMk m with
 |false=>
  rw[h1]at e1
  (conv=>whnf);(repeat'((first|apply bT|apply bF|apply bN|((first|apply bD|apply bEq|apply bNe)<;>intro hh<;>try(exfalso;omega))|refine e1.cq rfl rfl ?_|refine wIn (by omega) ?_|refine nI (by omega) ?_)<;>conv=>whnf))
  all_goals rfl
 |true=>
  rw[h1]at e1
  have h2:=isMk_iff.1 h1
  have hL2:((w.slots m).map Slot.av).length=(w.slots m).length:=by simp
  have hS:(w.slots m).length<=1000000:=hm _ (slots_mem h1)
  have e2:=p90 k 0 (↑((w.slots m).map Slot.av).length-1)
  (conv=>whnf);(repeat'((first|apply bT|apply bF|apply bN|((first|apply bD|apply bEq|apply bNe)<;>intro hh<;>try(exfalso;omega))|refine e1.cq rfl rfl ?_|refine e2.cq rfl rfl ?_|refine iaJ (mkget h1) ?_|refine wIn (by omega) ?_|refine nI (by omega) ?_)<;>conv=>whnf))
  all_goals (refine congrArg AV.bool ?_;rw[Bool.true_and];exact decide_eq_decide.2 (by omega))
theorem p51(l:List Int)(x:Int)(hl:l.length<=1000000):FnA Try.prog 51 [.isl (l.map jAV), .int .i64 x] (· = .bool (decide (x∈l))):=by
 have hL:(l.map jAV).length=l.length:=by simp
 refine fnA 0 ok51 (by simp) ?_
 (conv=>whnf);(repeat'((first|apply bT|apply bF|apply bN|((first|apply bD|apply bEq|apply bNe)<;>intro hh<;>try(exfalso;omega))|refine wIn (by omega) ?_|refine nI (by omega) ?_)<;>conv=>whnf))
 refine loop_i (α :=Nat) (fun k=>[(5, .int .i64 k),(1, .int .i64 x),(0, .isl (l.map jAV))]) (fun k=>[]) (fun k=>k<=l.length/\∀b∈l.take k,decide (b=x)=false) (fun k=>l.length-k) 0 mI ⟨by omega,by simp⟩ ?_
 rintro k ⟨h1,h2⟩
 conv=>whnf
 refine bD (fun h3=>?_) (fun h3=>?_)
 ·have hk:k<l.length:=by omega
  by_cases hx:l[k]=x
  ·rw[decide_eq_true (show x∈l by rw[<- hx];exact List.getElem_mem hk)]
   conv=>whnf
   refine iaJ (getM jAV l k hk) ?_
   (conv=>whnf);(repeat'((first|apply bT|apply bF|apply bN|((first|apply bD|apply bEq|apply bNe)<;>intro hh<;>try(exfalso;omega))|refine wIn (by omega) ?_|refine nI (by omega) ?_)<;>conv=>whnf))
   all_goals rfl
  ·conv=>whnf
   refine iaJ (getM jAV l k hk) ?_
   (conv=>whnf);(repeat'((first|apply bT|apply bF|apply bN|((first|apply bD|apply bEq|apply bNe)<;>intro hh<;>try(exfalso;omega))|refine wIn (by omega) ?_|refine nI (by omega) ?_)<;>conv=>whnf))
   exact⟨k+1,mI,⟨by omega,take_none hk h2 (decide_eq_false hx)⟩,by omega⟩
 ·have:k=l.length:=by omega
  subst this
  rw[List.take_length]at h2
  rw[decide_eq_false (fun h=>by have:=h2 x h;simp at this)]
  (conv=>whnf);(repeat'((first|apply bT|apply bF|apply bN|((first|apply bD|apply bEq|apply bNe)<;>intro hh<;>try(exfalso;omega))|refine wIn (by omega) ?_|refine nI (by omega) ?_)<;>conv=>whnf))
  all_goals rfl
theorem p121(x:Slot)(hl:x.ss.length<=1000000):FnA Try.prog 121 [.agg x.av] (· = .bool (okSl x)):=by
 have hL:(x.ss.map jAV).length=x.ss.length:=by simp
 refine fnA 1 ok121 (by simp) ?_
 (conv=>whnf);(repeat'((first|apply bT|apply bF|apply bN|((first|apply bD|apply bEq|apply bNe)<;>intro hh<;>try(exfalso;omega))|refine wIn (by omega) ?_|refine nI (by omega) ?_)<;>conv=>whnf))
 refine loop_i (α :=Nat) (fun k=>[(3, .int .i64 k),(1, .own 0 0)]) (fun k=>[.box false x.av]) (fun k=>k<=x.ss.length/\∀n∈x.ss.take k,decide (0<=n/\n<=9)=true) (fun k=>x.ss.length-k) 0 mI ⟨by omega,by simp⟩ ?_
 rintro k ⟨h1,h2⟩
 conv=>whnf
 refine bD (fun h3=>?_) (fun h3=>?_)
 ·have hk:k<x.ss.length:=by omega
  have g1:=getM jAV x.ss k hk
  have e1:=p90 x.ss[k] 0 9
  cases hx:decide (0<=x.ss[k]/\x.ss[k]<=9)with
  |true=>
   rw[hx]at e1
   (conv=>whnf);(repeat'((first|apply bT|apply bF|apply bN|((first|apply bD|apply bEq|apply bNe)<;>intro hh<;>try(exfalso;omega))|refine iaJ g1 ?_|refine e1.cq rfl rfl ?_|refine wIn (by omega) ?_|refine nI (by omega) ?_)<;>conv=>whnf))
   exact⟨k+1,mI,⟨by omega,take_all (p:=fun n=>decide (0<=n/\n<=9)) hk h2 hx⟩,by omega⟩
  |false=>
   rw[hx]at e1
   have h0:okSl x=false:=by unfold okSl;rw[all_not (p:=fun n=>decide (0<=n/\n<=9)) hk hx];simp
   rw[h0]
   (conv=>whnf);(repeat'((first|apply bT|apply bF|apply bN|((first|apply bD|apply bEq|apply bNe)<;>intro hh<;>try(exfalso;omega))|refine iaJ g1 ?_|refine e1.cq rfl rfl ?_|refine wIn (by omega) ?_|refine nI (by omega) ?_)<;>conv=>whnf))
   all_goals rfl
 ·have:k=x.ss.length:=by omega
  subst this
  rw[List.take_length]at h2
  have ha:=all_yes (p:=fun n=>decide (0<=n/\n<=9)) h2
  have e1:=p90 x.k 0 9
  have e2:=p50 x.ss hl
  have e3:=p120 x.lo x.hi
  have h0:okSl x=(decide (0<=x.k/\x.k<=9)&&decide (x.ss.length<=4)&&ascB x.ss&&okLen x.lo x.hi):=by unfold okSl;rw[ha];simp
  rw[h0]
  generalize ascB x.ss=b3 at *
  cases h5:decide (0<=x.k/\x.k<=9)with
  |false=>
   rw[h5]at e1
   (conv=>whnf);(repeat'((first|apply bT|apply bF|apply bN|((first|apply bD|apply bEq|apply bNe)<;>intro hh<;>try(exfalso;omega))|refine e1.cq rfl rfl ?_|refine wIn (by omega) ?_|refine nI (by omega) ?_)<;>conv=>whnf))
   all_goals rfl
  |true=>
   rw[h5]at e1
   by_cases h6:x.ss.length<=4
   ·rw[decide_eq_true h6]
    cases b3
    all_goals
     (conv=>whnf);(repeat'((first|apply bT|apply bF|apply bN|((first|apply bD|apply bEq|apply bNe)<;>intro hh<;>try(exfalso;omega))|refine e1.cq rfl rfl ?_|refine e2.cq rfl rfl ?_|refine e3.cq rfl rfl ?_|refine wIn (by omega) ?_|refine nI (by omega) ?_)<;>conv=>whnf))
     all_goals rfl
   ·rw[decide_eq_false h6]
    (conv=>whnf);(repeat'((first|apply bT|apply bF|apply bN|((first|apply bD|apply bEq|apply bNe)<;>intro hh<;>try(exfalso;omega))|refine e1.cq rfl rfl ?_|refine wIn (by omega) ?_|refine nI (by omega) ?_)<;>conv=>whnf))
    all_goals rfl
theorem p68(w:Shop)(hB:Big w):FnA Try.prog 68 [.agg w.cells] (· = .bool (okW w)):=by
 have l1:(w.sps.map Spare.av).length=w.sps.length:=by simp
 have l2:(w.mks.map mkAV).length=w.mks.length:=by simp
 have l3:(w.tb.map Trial.av).length=w.tb.length:=by simp
 have hBs:=hB.s
 have hBm:=hB.m
 have hBt:=hB.t
 have e3:=p90 w.cut 0 99
 by_cases h1:w.sps.length<=10
 case neg=>
  have h0:okW w=false:=by unfold okW;rw[decide_eq_false h1];simp
  rw[h0]
  refine fnA 3 ok68 (by simp) ?_
  (conv=>whnf);(repeat'((first|apply bT|apply bF|apply bN|((first|apply bD|apply bEq|apply bNe)<;>intro hh<;>try(exfalso;omega))|refine wIn (by omega) ?_|refine nI (by omega) ?_)<;>conv=>whnf))
  all_goals rfl
 by_cases h3:w.mks.length<=6
 case neg=>
  have h0:okW w=false:=by unfold okW;rw[decide_eq_false h3];simp
  rw[h0]
  refine fnA 3 ok68 (by simp) ?_
  (conv=>whnf);(repeat'((first|apply bT|apply bF|apply bN|((first|apply bD|apply bEq|apply bNe)<;>intro hh<;>try(exfalso;omega))|refine wIn (by omega) ?_|refine nI (by omega) ?_)<;>conv=>whnf))
  all_goals rfl
 by_cases h5:0<=w.cut/\w.cut<=99
 case neg=>
  have h0:okW w=false:=by unfold okW;rw[decide_eq_false h5];simp
  rw[h0]
  rw[decide_eq_false h5]at e3
  refine fnA 3 ok68 (by simp) ?_
  (conv=>whnf);(repeat'((first|apply bT|apply bF|apply bN|((first|apply bD|apply bEq|apply bNe)<;>intro hh<;>try(exfalso;omega))|refine e3.cq rfl rfl ?_|refine wIn (by omega) ?_|refine nI (by omega) ?_)<;>conv=>whnf))
  all_goals rfl
 rw[decide_eq_true h5]at e3
 by_cases h6:w.tb.length<=30
 case neg=>
  have h0:okW w=false:=by unfold okW;rw[decide_eq_false h6];simp
  rw[h0]
  refine fnA 3 ok68 (by simp) ?_
  (conv=>whnf);(repeat'((first|apply bT|apply bF|apply bN|((first|apply bD|apply bEq|apply bNe)<;>intro hh<;>try(exfalso;omega))|refine e3.cq rfl rfl ?_|refine wIn (by omega) ?_|refine nI (by omega) ?_)<;>conv=>whnf))
  all_goals rfl
 have h0:okW w=(w.sps.all okSp&&w.mks.all okMk&&w.tb.all (okTr w)):=by unfold okW;rw[decide_eq_true h1,decide_eq_true h3,decide_eq_true h5,decide_eq_true h6];simp
 rw[h0]
 refine fnA 3 ok68 (by simp) ?_
 (conv=>whnf);(repeat'((first|apply bT|apply bF|apply bN|((first|apply bD|apply bEq|apply bNe)<;>intro hh<;>try(exfalso;omega))|refine e3.cq rfl rfl ?_|refine wIn (by omega) ?_|refine nI (by omega) ?_)<;>conv=>whnf))
 refine loop_i (α :=Nat) (fun k=>[(3, .int .i64 k),(1, .own 0 0)]) (fun k=>[.box false w.cells, .fresh, .fresh]) (fun k=>k<=w.sps.length/\∀n∈w.sps.take k,okSp n=true) (fun k=>w.sps.length-k) 0 mI ⟨by omega,by simp⟩ ?_
 rintro k ⟨k1,k2⟩
 conv=>whnf
 refine bD (fun h7=>?_) (fun h7=>?_)
 ·have hk:k<w.sps.length:=by omega
  have g1:=getM Spare.av w.sps k hk
  have f1:=p90 w.sps[k].k 0 9
  have f2:=p90 w.sps[k].s 0 9
  have f3:=p120 w.sps[k].lo w.sps[k].hi
  have ho:okSp w.sps[k]=(decide (0<=w.sps[k].k/\w.sps[k].k<=9)&&decide (0<=w.sps[k].s/\w.sps[k].s<=9)&&okLen w.sps[k].lo w.sps[k].hi):=rfl
  have hno:okSp w.sps[k]=false->(w.sps.all okSp&&w.mks.all okMk&&w.tb.all (okTr w))=false:=fun h=>by rw[all_not hk h];simp
  have hyes:okSp w.sps[k]=true->∀n∈w.sps.take (k+1),okSp n=true:=fun h=>take_all hk k2 h
  generalize decide (0<=w.sps[k].k/\w.sps[k].k<=9)=b1 at *
  generalize decide (0<=w.sps[k].s/\w.sps[k].s<=9)=b2 at *
  generalize okLen w.sps[k].lo w.sps[k].hi=b3 at *
  cases b1<;>cases b2<;>cases b3
  case true.true.true=>
   (conv=>whnf);(repeat'((first|apply bT|apply bF|apply bN|((first|apply bD|apply bEq|apply bNe)<;>intro hh<;>try(exfalso;omega))|refine iaJ g1 ?_|refine f1.cq rfl rfl ?_|refine f2.cq rfl rfl ?_|refine f3.cq rfl rfl ?_|refine wIn (by omega) ?_|refine nI (by omega) ?_)<;>conv=>whnf))
   exact⟨k+1,mI,⟨by omega,hyes ho⟩,by omega⟩
  all_goals
   rw[hno ho]
   (conv=>whnf);(repeat'((first|apply bT|apply bF|apply bN|((first|apply bD|apply bEq|apply bNe)<;>intro hh<;>try(exfalso;omega))|refine iaJ g1 ?_|refine f1.cq rfl rfl ?_|refine f2.cq rfl rfl ?_|refine f3.cq rfl rfl ?_|refine wIn (by omega) ?_|refine nI (by omega) ?_)<;>conv=>whnf))
   all_goals rfl
 ·have:k=w.sps.length:=by omega
  subst this
  rw[List.take_length]at k2
  rw[all_yes k2,Bool.true_and]
  (conv=>whnf);(repeat'((first|apply bT|apply bF|apply bN|((first|apply bD|apply bEq|apply bNe)<;>intro hh<;>try(exfalso;omega))|refine wIn (by omega) ?_|refine nI (by omega) ?_)<;>conv=>whnf))
  refine loop_i (α :=Nat) (fun k=>[(5, .int .i64 k),(1, .own 0 0)]) (fun k=>[.box false w.cells, .fresh, .fresh]) (fun k=>k<=w.mks.length/\∀n∈w.mks.take k,okMk n=true) (fun k=>w.mks.length-k) 0 mI ⟨by omega,by simp⟩ ?_
  rintro m ⟨m1,m2⟩
  conv=>whnf
  refine bD (fun h8=>?_) (fun h8=>?_)
  ·have hm:m<w.mks.length:=by omega
   have g1:=getM mkAV w.mks m hm
   have hbs:=hB.sl _ (List.getElem_mem hm)
   have l4:(w.mks[m].map Slot.av).length=w.mks[m].length:=by simp
   have hno:okMk w.mks[m]=false->(w.mks.all okMk&&w.tb.all (okTr w))=false:=fun h=>by rw[all_not hm h];simp
   have hyes:okMk w.mks[m]=true->∀n∈w.mks.take (m+1),okMk n=true:=fun h=>take_all hm m2 h
   by_cases h9:w.mks[m].length<=4
   ·(conv=>whnf);(repeat'((first|apply bT|apply bF|apply bN|((first|apply bD|apply bEq|apply bNe)<;>intro hh<;>try(exfalso;omega))|refine iaJ g1 ?_|refine wIn (by omega) ?_|refine nI (by omega) ?_)<;>conv=>whnf))
    refine loop_i (α :=Nat) (fun k=>[(6, .int .i64 k),(5, .int .i64 m),(1, .own 0 0)]) (fun k=>[.box false w.cells, .fresh, .fresh]) (fun k=>k<=w.mks[m].length/\∀n∈w.mks[m].take k,okSl n=true) (fun k=>w.mks[m].length-k) 0 mI ⟨by omega,by simp⟩ ?_
    rintro s ⟨s1,s2⟩
    conv=>whnf
    refine iaJ g1 ?_
    conv=>whnf
    refine bD (fun h10=>?_) (fun h10=>?_)
    ·have hs:s<w.mks[m].length:=by omega
     have g2:=getM Slot.av w.mks[m] s hs
     have f1:=p121 w.mks[m][s] (hbs.2 _ (List.getElem_mem hs))
     cases hx:okSl w.mks[m][s]with
     |true=>
      rw[hx]at f1
      (conv=>whnf);(repeat'((first|apply bT|apply bF|apply bN|((first|apply bD|apply bEq|apply bNe)<;>intro hh<;>try(exfalso;omega))|refine iaJ g1 ?_|refine iaJ g2 ?_|refine f1.cq rfl rfl ?_|refine wIn (by omega) ?_|refine nI (by omega) ?_)<;>conv=>whnf))
      exact⟨s+1,mI,⟨by omega,take_all hs s2 hx⟩,by omega⟩
     |false=>
      rw[hx]at f1
      rw[hno (by unfold okMk;rw[all_not hs hx];simp)]
      (conv=>whnf);(repeat'((first|apply bT|apply bF|apply bN|((first|apply bD|apply bEq|apply bNe)<;>intro hh<;>try(exfalso;omega))|refine iaJ g1 ?_|refine iaJ g2 ?_|refine f1.cq rfl rfl ?_|refine wIn (by omega) ?_|refine nI (by omega) ?_)<;>conv=>whnf))
      all_goals rfl
    ·have:s=w.mks[m].length:=by omega
     subst this
     rw[List.take_length]at s2
     (conv=>whnf);(repeat'((first|apply bT|apply bF|apply bN|((first|apply bD|apply bEq|apply bNe)<;>intro hh<;>try(exfalso;omega))|refine wIn (by omega) ?_|refine nI (by omega) ?_)<;>conv=>whnf))
     exact⟨m+1,mI,⟨by omega,hyes (by unfold okMk;rw[all_yes s2,decide_eq_true h9];rfl)⟩,by omega⟩
   ·rw[hno (by unfold okMk;rw[decide_eq_false h9];rfl)]
    (conv=>whnf);(repeat'((first|apply bT|apply bF|apply bN|((first|apply bD|apply bEq|apply bNe)<;>intro hh<;>try(exfalso;omega))|refine iaJ g1 ?_|refine wIn (by omega) ?_|refine nI (by omega) ?_)<;>conv=>whnf))
    all_goals rfl
  ·have:m=w.mks.length:=by omega
   subst this
   rw[List.take_length]at m2
   rw[all_yes m2,Bool.true_and]
   (conv=>whnf);(repeat'((first|apply bT|apply bF|apply bN|((first|apply bD|apply bEq|apply bNe)<;>intro hh<;>try(exfalso;omega))|refine wIn (by omega) ?_|refine nI (by omega) ?_)<;>conv=>whnf))
   refine loop_i (α :=Nat) (fun k=>[(7, .int .i64 k),(1, .own 0 0)]) (fun k=>[.box false w.cells, .fresh, .fresh]) (fun k=>k<=w.tb.length/\∀n∈w.tb.take k,okTr w n=true) (fun k=>w.tb.length-k) 0 mI ⟨by omega,by simp⟩ ?_
   rintro t ⟨t1,t2⟩
   conv=>whnf
   refine bD (fun h9=>?_) (fun h9=>?_)
   ·have ht:t<w.tb.length:=by omega
    have g1:=getM Trial.av w.tb t ht
    have f1:=p47 w w.tb[t].sp hBs
    have f2:=p53 w w.tb[t].mkr w.tb[t].sl hBm (fun x hx=>(hB.sl x hx).1)
    have f3:=p90 w.tb[t].ft 0 1
    have ho:okTr w w.tb[t]=(w.isSp w.tb[t].sp&&w.isSl w.tb[t].mkr w.tb[t].sl&&decide (0<=w.tb[t].ft/\w.tb[t].ft<=1)):=rfl
    have hno:okTr w w.tb[t]=false->w.tb.all (okTr w)=false:=fun h=>all_not ht h
    have hyes:okTr w w.tb[t]=true->∀n∈w.tb.take (t+1),okTr w n=true:=fun h=>take_all ht t2 h
    generalize w.isSp w.tb[t].sp=b1 at *
    generalize w.isSl w.tb[t].mkr w.tb[t].sl=b2 at *
    generalize decide (0<=w.tb[t].ft/\w.tb[t].ft<=1)=b3 at *
    cases b1<;>cases b2<;>cases b3
    case true.true.true=>
     (conv=>whnf);(repeat'((first|apply bT|apply bF|apply bN|((first|apply bD|apply bEq|apply bNe)<;>intro hh<;>try(exfalso;omega))|refine iaJ g1 ?_|refine f1.cq rfl rfl ?_|refine f2.cq rfl rfl ?_|refine f3.cq rfl rfl ?_|refine wIn (by omega) ?_|refine nI (by omega) ?_)<;>conv=>whnf))
     exact⟨t+1,mI,⟨by omega,hyes ho⟩,by omega⟩
    all_goals
     rw[hno ho]
     (conv=>whnf);(repeat'((first|apply bT|apply bF|apply bN|((first|apply bD|apply bEq|apply bNe)<;>intro hh<;>try(exfalso;omega))|refine iaJ g1 ?_|refine f1.cq rfl rfl ?_|refine f2.cq rfl rfl ?_|refine f3.cq rfl rfl ?_|refine wIn (by omega) ?_|refine nI (by omega) ?_)<;>conv=>whnf))
     all_goals rfl
   ·have:t=w.tb.length:=by omega
    subst this
    rw[List.take_length]at t2
    rw[all_yes t2]
    (conv=>whnf);(repeat'((first|apply bT|apply bF|apply bN|((first|apply bD|apply bEq|apply bNe)<;>intro hh<;>try(exfalso;omega))|refine wIn (by omega) ?_|refine nI (by omega) ?_)<;>conv=>whnf))
    all_goals rfl
theorem clash_pair{l:List Trial}(hf:∀x∈l,0<=x.ft/\x.ft<=1):clash l=true<->∃k i:Nat,k<i/\∃a b:Trial,l[k]?=some a/\l[i]?=some b/\a.sp=b.sp/\a.mkr=b.mkr/\a.sl=b.sl/\a.ft≠b.ft:=by
 unfold clash
 rw[List.any_eq_true]
 constructor
 ·rintro⟨t,ht,hd⟩
  have hd:=of_decide_eq_true hd
  obtain⟨x,hx,rfl⟩:=List.getElem_of_mem ht
  obtain⟨y,hy,he⟩:=List.getElem_of_mem hd
  have hfx:=hf _ (List.getElem_mem hx)
  have hfy:=hf _ (List.getElem_mem hy)
  have e1:l[y].sp=l[x].sp:=by rw[he];rfl
  have e2:l[y].mkr=l[x].mkr:=by rw[he];rfl
  have e3:l[y].sl=l[x].sl:=by rw[he];rfl
  have e4:l[y].ft=1-l[x].ft:=by rw[he];rfl
  rcases Nat.lt_trichotomy x y with h|h|h
  ·exact⟨x,y,h,_,_,List.getElem?_eq_getElem hx,List.getElem?_eq_getElem hy,e1.symm,e2.symm,e3.symm,by omega⟩
  ·subst h;omega
  ·exact⟨y,x,h,_,_,List.getElem?_eq_getElem hy,List.getElem?_eq_getElem hx,e1,e2,e3,by omega⟩
 ·rintro⟨k,i,_,a,b,h1,h2,e1,e2,e3,e4⟩
  have ha:=List.mem_of_getElem? h1
  have hb:=List.mem_of_getElem? h2
  have:=hf a ha
  have:=hf b hb
  refine⟨a,ha,decide_eq_true ?_⟩
  have:a.neg=b:=by
   cases a;cases b
   simp only[Trial.neg,Trial.mk.injEq]at *
   omega
  rw[this];exact hb
theorem p18(w:Shop)(hB:Big w):FnA Try.prog 18 [.agg w.cells] (· = .int .i64 w.chk):=by
 have e1:=p68 w hB
 have l3:(w.tb.map Trial.av).length=w.tb.length:=by simp
 have hBt:=hB.t
 unfold Shop.chk
 cases h:okW w with
 |false=>
  rw[h]at e1
  refine fnA 3 ok18 (by simp) ?_
  (conv=>whnf);(repeat'((first|apply bT|apply bF|apply bN|((first|apply bD|apply bEq|apply bNe)<;>intro hh<;>try(exfalso;omega))|refine e1.cq rfl rfl ?_|refine wIn (by omega) ?_|refine nI (by omega) ?_)<;>conv=>whnf))
  all_goals rfl
 |true=>
 rw[h]at e1
 have hk:=okW_ok h
 have hcp:=clash_pair (l:=w.tb) (fun x hx=>(hk.t2 x hx).2.2)
 rw[if_pos rfl]
 refine fnA 3 ok18 (by simp) ?_
 (conv=>whnf);(repeat'((first|apply bT|apply bF|apply bN|((first|apply bD|apply bEq|apply bNe)<;>intro hh<;>try(exfalso;omega))|refine e1.cq rfl rfl ?_|refine wIn (by omega) ?_|refine nI (by omega) ?_)<;>conv=>whnf))
 refine loop_i (α :=Nat) (fun k=>[(3, .int .i64 k),(1, .own 0 0)]) (fun k=>[.box false w.cells, .fresh, .fresh]) (fun i=>i<=w.tb.length/\∀i' k,i'<i->k<i'->¬ ∃a b:Trial,w.tb[k]?=some a/\w.tb[i']?=some b/\a.sp=b.sp/\a.mkr=b.mkr/\a.sl=b.sl/\a.ft≠b.ft) (fun k=>w.tb.length-k) 0 mI ⟨by omega,fun i' k hi=>by omega⟩ ?_
 rintro i ⟨i1,i2⟩
 conv=>whnf
 refine bD (fun h3=>?_) (fun h3=>?_)
 ·have hi:i<w.tb.length:=by omega
  have gi:=getM Trial.av w.tb i hi
  (conv=>whnf);(repeat'((first|apply bT|apply bF|apply bN|((first|apply bD|apply bEq|apply bNe)<;>intro hh<;>try(exfalso;omega))|refine wIn (by omega) ?_|refine nI (by omega) ?_)<;>conv=>whnf))
  refine loop_i (α :=Nat) (fun k=>[(4, .int .i64 k),(3, .int .i64 i),(1, .own 0 0)]) (fun k=>[.box false w.cells, .fresh, .fresh]) (fun k=>k<=i/\∀k',k'<k->¬ ∃a b:Trial,w.tb[k']?=some a/\w.tb[i]?=some b/\a.sp=b.sp/\a.mkr=b.mkr/\a.sl=b.sl/\a.ft≠b.ft) (fun k=>i-k) 0 mI ⟨by omega,fun k' hk=>by omega⟩ ?_
  rintro k ⟨k1,k2⟩
  conv=>whnf
  refine bD (fun h4=>?_) (fun h4=>?_)
  ·have hkl:k<w.tb.length:=by omega
   have gk:=getM Trial.av w.tb k hkl
   by_cases hc:w.tb[k].sp=w.tb[i].sp/\w.tb[k].mkr=w.tb[i].mkr/\w.tb[k].sl=w.tb[i].sl/\w.tb[k].ft≠w.tb[i].ft
   ·have hcl:clash w.tb=true:=hcp.2 ⟨k,i,by omega,_,_,List.getElem?_eq_getElem hkl,List.getElem?_eq_getElem hi,hc⟩
    rw[if_pos hcl]
    (conv=>whnf);(repeat'((first|apply bT|apply bF|apply bN|((first|apply bD|apply bEq|apply bNe)<;>intro hh<;>try(exfalso;omega))|refine iaJ gk ?_|refine iaJ gi ?_|refine wIn (by omega) ?_|refine nI (by omega) ?_)<;>conv=>whnf))
    all_goals rfl
   ·(conv=>whnf);(repeat'((first|apply bT|apply bF|apply bN|((first|apply bD|apply bEq|apply bNe)<;>intro hh<;>try(exfalso;omega))|refine iaJ gk ?_|refine iaJ gi ?_|refine wIn (by omega) ?_|refine nI (by omega) ?_)<;>conv=>whnf))
    all_goals
     refine⟨k+1,mI,⟨by omega,fun k' hk'=>?_⟩,by omega⟩
     by_cases e:k'=k
     ·subst e
      rintro⟨a,b,q1,q2,q3⟩
      rw[List.getElem?_eq_getElem hkl]at q1;cases q1
      rw[List.getElem?_eq_getElem hi]at q2;cases q2
      exact hc q3
     ·exact k2 k' (by omega)
  ·have:k=i:=by omega
   subst this
   (conv=>whnf);(repeat'((first|apply bT|apply bF|apply bN|((first|apply bD|apply bEq|apply bNe)<;>intro hh<;>try(exfalso;omega))|refine wIn (by omega) ?_|refine nI (by omega) ?_)<;>conv=>whnf))
   refine⟨k+1,mI,⟨by omega,fun i' k' hi' hk'=>?_⟩,by omega⟩
   by_cases e:i'=k
   ·subst e;exact k2 k' hk'
   ·exact i2 i' k' (by omega) hk'
 ·have hcl:clash w.tb=false:=by
   rw[Bool.eq_false_iff];intro hc
   obtain⟨k,j,hkj,a,b,q1,q2,q3⟩:=hcp.1 hc
   have hj:=(List.getElem?_eq_some_iff.1 q2).1
   exact i2 j k (by omega) hkj ⟨a,b,q1,q2,q3⟩
  rw[hcl]
  (conv=>whnf);(repeat'((first|apply bT|apply bF|apply bN|((first|apply bD|apply bEq|apply bNe)<;>intro hh<;>try(exfalso;omega))|refine wIn (by omega) ?_|refine nI (by omega) ?_)<;>conv=>whnf))
  all_goals rfl
theorem p46(w:Shop)(hk:Ok w)(i n m k:Int)(hi:w.isSp i=true)(hm:w.isSl m k=true):FnA Try.prog 46 [.agg w.cells, .int .i64 i, .int .i64 n, .int .i64 m, .int .i64 k] (· = .bool (w.fit i n m k)):=by
 have l1:(w.sps.map Spare.av).length=w.sps.length:=by simp
 have l2:(w.mks.map mkAV).length=w.mks.length:=by simp
 have l3:((w.slots m).map Slot.av).length=(w.slots m).length:=by simp
 have h1:=isSp_iff.1 hi
 obtain⟨h2,h3⟩:=isSl_iff.1 hm
 have h2':=isMk_iff.1 h2
 have hs:=hk.slot hm
 have hc:=hk.c
 have g1:=spget hi
 have g2:=mkget h2
 have g3:=slget hm
 have e1:=p51 (w.slot m k).ss (w.sp i).s (by omega)
 have e2:=p90 n (w.slot m k).lo ((w.slot m k).hi+w.cut)
 unfold Shop.fit Shop.kin
 refine fnA 3 ok46 (by simp) ?_
 by_cases ha:(w.sp i).k=(w.slot m k).k
 ·by_cases hb:(w.sp i).s∈(w.slot m k).ss
  ·rw[decide_eq_true hb]at e1
   rw[decide_eq_true ha,decide_eq_true hb]
   (conv=>whnf);(repeat'((first|apply bT|apply bF|apply bN|((first|apply bD|apply bEq|apply bNe)<;>intro hh<;>try(exfalso;omega))|refine iaJ g1 ?_|refine iaJ g2 ?_|refine iaJ g3 ?_|refine e1.cq rfl rfl ?_|refine e2.cq rfl rfl ?_|refine wIn (by omega) ?_|refine nI (by omega) ?_)<;>conv=>whnf))
   all_goals rfl
  ·rw[decide_eq_false hb]at e1
   rw[decide_eq_true ha,decide_eq_false hb]
   (conv=>whnf);(repeat'((first|apply bT|apply bF|apply bN|((first|apply bD|apply bEq|apply bNe)<;>intro hh<;>try(exfalso;omega))|refine iaJ g1 ?_|refine iaJ g2 ?_|refine iaJ g3 ?_|refine e1.cq rfl rfl ?_|refine wIn (by omega) ?_|refine nI (by omega) ?_)<;>conv=>whnf))
   all_goals rfl
 ·rw[decide_eq_false ha]
  (conv=>whnf);(repeat'((first|apply bT|apply bF|apply bN|((first|apply bD|apply bEq|apply bNe)<;>intro hh<;>try(exfalso;omega))|refine iaJ g1 ?_|refine iaJ g2 ?_|refine iaJ g3 ?_|refine wIn (by omega) ?_|refine nI (by omega) ?_)<;>conv=>whnf))
  all_goals rfl
theorem p44(w:Shop)(hk:Ok w)(i n:Int)(hi:w.isSp i=true):FnA Try.prog 44 [.agg w.cells, .int .i64 i, .int .i64 n] (· = .bool (w.can i n)):=by
 have l1:(w.sps.map Spare.av).length=w.sps.length:=by simp
 have l3:(w.tb.map Trial.av).length=w.tb.length:=by simp
 have h1:=isSp_iff.1 hi
 have ht1:=hk.t1
 have hs1:=hk.s1
 have g1:=spget hi
 have e2:=p90 n (w.sp i).lo (w.sp i).hi
 unfold Shop.can
 refine fnA 2 ok44 (by simp) ?_
 (conv=>whnf);(repeat'((first|apply bT|apply bF|apply bN|((first|apply bD|apply bEq|apply bNe)<;>intro hh<;>try(exfalso;omega))|refine wIn (by omega) ?_|refine nI (by omega) ?_)<;>conv=>whnf))
 refine loop_i (α :=Nat) (fun k=>[(7, .int .i64 k),(3, .own 0 0),(2, .int .i64 n),(1, .int .i64 i)]) (fun k=>[.box false w.cells, .fresh]) (fun k=>k<=w.tb.length/\∀t∈w.tb.take k,okT w i n t=true) (fun k=>w.tb.length-k) 0 mI ⟨by omega,by simp⟩ ?_
 rintro k ⟨k1,k2⟩
 conv=>whnf
 refine bD (fun h3=>?_) (fun h3=>?_)
 ·have hkl:k<w.tb.length:=by omega
  have ht:=hk.t2 _ (List.getElem_mem hkl)
  have gk:=getM Trial.av w.tb k hkl
  have hyes:okT w i n w.tb[k]=true->∀t∈w.tb.take (k+1),okT w i n t=true:=fun h=>take_all hkl k2 h
  have hno:okT w i n w.tb[k]=false->(decide ((w.sp i).lo<=n/\n<=(w.sp i).hi)&&w.tb.all (okT w i n))=false:=fun h=>by rw[all_not hkl h];simp
  have hdef:okT w i n w.tb[k]=decide (w.tb[k].sp=i->w.fit i n w.tb[k].mkr w.tb[k].sl=decide (w.tb[k].ft=1)):=rfl
  by_cases hs:w.tb[k].sp=i
  ·have e1:=p46 w hk i n w.tb[k].mkr w.tb[k].sl hi ht.2.1
   unfold Trial.av at gk
   by_cases hf:w.tb[k].ft=1
   ·rw[hf]at gk
    cases hx:w.fit i n w.tb[k].mkr w.tb[k].sl with
    |true=>
     rw[hx]at e1
     (conv=>whnf);(repeat'((first|apply bT|apply bF|apply bN|((first|apply bD|apply bEq|apply bNe)<;>intro hh<;>try(exfalso;omega))|refine iaJ gk ?_|refine e1.cq rfl rfl ?_|refine wIn (by omega) ?_|refine nI (by omega) ?_)<;>conv=>whnf))
     exact⟨k+1,mI,⟨by omega,hyes (by rw[hdef,hx,hf];simp)⟩,by omega⟩
    |false=>
     rw[hx]at e1
     rw[hno (by rw[hdef,hx,hf];simp[hs])]
     (conv=>whnf);(repeat'((first|apply bT|apply bF|apply bN|((first|apply bD|apply bEq|apply bNe)<;>intro hh<;>try(exfalso;omega))|refine iaJ gk ?_|refine e1.cq rfl rfl ?_|refine wIn (by omega) ?_|refine nI (by omega) ?_)<;>conv=>whnf))
     all_goals rfl
   ·have hf0:w.tb[k].ft=0:=by omega
    rw[hf0]at gk
    cases hx:w.fit i n w.tb[k].mkr w.tb[k].sl with
    |true=>
     rw[hx]at e1
     rw[hno (by rw[hdef,hx,hf0];simp[hs])]
     (conv=>whnf);(repeat'((first|apply bT|apply bF|apply bN|((first|apply bD|apply bEq|apply bNe)<;>intro hh<;>try(exfalso;omega))|refine iaJ gk ?_|refine e1.cq rfl rfl ?_|refine wIn (by omega) ?_|refine nI (by omega) ?_)<;>conv=>whnf))
     all_goals rfl
    |false=>
     rw[hx]at e1
     (conv=>whnf);(repeat'((first|apply bT|apply bF|apply bN|((first|apply bD|apply bEq|apply bNe)<;>intro hh<;>try(exfalso;omega))|refine iaJ gk ?_|refine e1.cq rfl rfl ?_|refine wIn (by omega) ?_|refine nI (by omega) ?_)<;>conv=>whnf))
     exact⟨k+1,mI,⟨by omega,hyes (by rw[hdef,hx,hf0];simp)⟩,by omega⟩
  ·(conv=>whnf);(repeat'((first|apply bT|apply bF|apply bN|((first|apply bD|apply bEq|apply bNe)<;>intro hh<;>try(exfalso;omega))|refine iaJ gk ?_|refine wIn (by omega) ?_|refine nI (by omega) ?_)<;>conv=>whnf))
   exact⟨k+1,mI,⟨by omega,hyes (by rw[hdef];simp[hs])⟩,by omega⟩
 ·have:k=w.tb.length:=by omega
  subst this
  rw[List.take_length]at k2
  rw[all_yes k2,Bool.and_true]
  (conv=>whnf);(repeat'((first|apply bT|apply bF|apply bN|((first|apply bD|apply bEq|apply bNe)<;>intro hh<;>try(exfalso;omega))|refine iaJ g1 ?_|refine e2.cq rfl rfl ?_|refine wIn (by omega) ?_|refine nI (by omega) ?_)<;>conv=>whnf))
  all_goals rfl
def Shop.allK(w:Shop)(i:Int)(k:Nat):List Int:=((List.range k).map fun j:Nat=>(w.sp i).lo+(j:Nat)).filter (w.can i)
def Shop.allN(w:Shop)(i:Int):Nat:=((w.sp i).hi+1-(w.sp i).lo).toNat
def Shop.allL(w:Shop)(i:Int):List Int:=w.allK i (w.allN i)
theorem allK_yes{w:Shop}{i:Int}{k:Nat}(h:w.can i ((w.sp i).lo+k)=true):w.allK i (k+1)=w.allK i k++[(w.sp i).lo+(k:Nat)]:=by
 unfold Shop.allK;rw[List.range_succ,List.map_append,List.filter_append];simp[h]
theorem allK_no{w:Shop}{i:Int}{k:Nat}(h:w.can i ((w.sp i).lo+k)=false):w.allK i (k+1)=w.allK i k:=by
 unfold Shop.allK;rw[List.range_succ,List.map_append,List.filter_append];simp[h]
theorem allK_len(w:Shop)(i:Int)(k:Nat):(w.allK i k).length<=k:=by
 unfold Shop.allK
 have:=List.length_filter_le (w.can i) ((List.range k).map fun j:Nat=>(w.sp i).lo+(j:Nat))
 simpa using this
theorem mem_allL{w:Shop}{i n:Int}:n∈w.allL i<->w.can i n=true:=by
 unfold Shop.allL Shop.allK Shop.allN
 simp only[List.mem_filter,List.mem_map,List.mem_range]
 constructor
 ·rintro⟨_,h⟩;exact h
 ·intro h
  have:=can_bd h
  exact⟨⟨(n-(w.sp i).lo).toNat,by omega,by omega⟩,h⟩
theorem p72(w:Shop)(hk:Ok w)(i:Int)(hi:w.isSp i=true):FnA Try.prog 72 [.agg w.cells, .int .i64 i] (· = .isl ((w.allL i).map jAV)):=by
 have l1:(w.sps.map Spare.av).length=w.sps.length:=by simp
 have h1:=isSp_iff.1 hi
 have hs:=hk.sp hi
 have g1:=spget hi
 have hn:(w.allN i:Int)=(w.sp i).hi+1-(w.sp i).lo:=by unfold Shop.allN;omega
 refine fnA 4 ok72 (by simp) ?_
 (conv=>whnf);(repeat'((first|apply bT|apply bF|apply bN|((first|apply bD|apply bEq|apply bNe)<;>intro hh<;>try(exfalso;omega))|refine iaJ g1 ?_|refine wIn (by omega) ?_|refine nI (by omega) ?_)<;>conv=>whnf))
 refine loop_i (α :=Nat) (fun k=>[(6, .int .i64 ((w.sp i).lo+k)),(5, .row 3),(2, .own 0 0),(1, .int .i64 i)]) (fun k=>[.box false w.cells, .fresh, .fresh, .row false 3 1 ((w.allK i k).map jAV)]) (fun k=>k<=w.allN i) (fun k=>w.allN i-k) 0 ?_ (by omega) ?_
 ·simp only[Int.natCast_zero,Int.add_zero]
  exact(mA [(3,none)])
 intro k hk0
 conv=>whnf
 refine iaJ g1 ?_
 conv=>whnf
 refine bD (fun h3=>?_) (fun h3=>?_)
 ·have e1:=p44 w hk i ((w.sp i).lo+k) hi
  have hl:=allK_len w i k
  cases hx:w.can i ((w.sp i).lo+k)with
  |true=>
   rw[hx]at e1
   have hm:(w.allK i (k+1)).map jAV=(w.allK i k).map jAV++[[.int .i64 ((w.sp i).lo+(k:Nat))]]:=by rw[allK_yes hx,List.map_append];rfl
   (conv=>whnf);(repeat'((first|apply bT|apply bF|apply bN|((first|apply bD|apply bEq|apply bNe)<;>intro hh<;>try(exfalso;omega))|refine e1.cq rfl rfl ?_|(refine apI (by simp[AV.one]) (by simp;omega) ?_)|refine wIn (by omega) ?_|refine nI (by omega) ?_)<;>conv=>whnf))
   refine⟨k+1,?_,by omega,by omega⟩
   rw[hm]
   simp only[Int.natCast_add,Int.natCast_one,<- Int.add_assoc]
   exact(mA [(3,some 2)])
  |false=>
   rw[hx]at e1
   (conv=>whnf);(repeat'((first|apply bT|apply bF|apply bN|((first|apply bD|apply bEq|apply bNe)<;>intro hh<;>try(exfalso;omega))|refine e1.cq rfl rfl ?_|refine wIn (by omega) ?_|refine nI (by omega) ?_)<;>conv=>whnf))
   refine⟨k+1,?_,by omega,by omega⟩
   rw[allK_no hx]
   simp only[Int.natCast_add,Int.natCast_one,<- Int.add_assoc]
   exact mI
 ·have:k=w.allN i:=by omega
  subst this
  have e:w.allK i (w.allN i)=w.allL i:=rfl
  rw[e]
  (conv=>whnf);(repeat'((first|apply bT|apply bF|apply bN|((first|apply bD|apply bEq|apply bNe)<;>intro hh<;>try(exfalso;omega))|refine wIn (by omega) ?_|refine nI (by omega) ?_)<;>conv=>whnf))
  all_goals rfl
theorem allL_nil{w:Shop}(hk:Ok w){i:Int}(hi:w.isSp i=true):w.allL i=[]<->(w.spans i).isEmpty=true:=by
 obtain⟨ha,hin⟩:=spans_ok hk hi
 rw[List.isEmpty_iff,asc_nil ha]
 constructor
 ·intro h n hn
  have:=mem_allL.2 ((hin n).1 hn)
  rw[h]at this;cases this
 ·intro h
  apply List.eq_nil_iff_forall_not_mem.2
  intro n hn
  exact h n ((hin n).2 (mem_allL.1 hn))
theorem p71(w:Shop)(hB:Big w)(v:Bool):FnA Try.prog 71 [.agg w.cells, .bool v] (· = .int .i64 (w.eO v)):=by
 have e1:=p18 w hB
 by_cases hc:w.chk=0
 case neg=>
  have e:w.eO v=w.chk:=by unfold Shop.eO;rw[if_pos hc]
  rw[e]
  refine fnA 2 ok71 (by simp) ?_
  (conv=>whnf);(repeat'((first|apply bT|apply bF|apply bN|((first|apply bD|apply bEq|apply bNe)<;>intro hh<;>try(exfalso;omega))|refine e1.cq rfl rfl ?_|refine wIn (by omega) ?_|refine nI (by omega) ?_)<;>conv=>whnf))
  all_goals rfl
 rw[hc]at e1
 cases v with
 |false=>
  have e:w.eO false=1:=by unfold Shop.eO;rw[if_neg (by simpa using hc)];rfl
  rw[e]
  refine fnA 2 ok71 (by simp) ?_
  (conv=>whnf);(repeat'((first|apply bT|apply bF|apply bN|((first|apply bD|apply bEq|apply bNe)<;>intro hh<;>try(exfalso;omega))|refine e1.cq rfl rfl ?_|refine wIn (by omega) ?_|refine nI (by omega) ?_)<;>conv=>whnf))
  all_goals rfl
 |true=>
 have hk:=chk_ok hc
 have hs1:=hk.s1
 have l1:(w.sps.map Spare.av).length=w.sps.length:=by simp
 have he:w.eO true=if w.noT=true then 3 else 0:=by unfold Shop.eO;rw[if_neg (by simpa using hc)];rfl
 refine fnA 2 ok71 (by simp) ?_
 (conv=>whnf);(repeat'((first|apply bT|apply bF|apply bN|((first|apply bD|apply bEq|apply bNe)<;>intro hh<;>try(exfalso;omega))|refine e1.cq rfl rfl ?_|refine wIn (by omega) ?_|refine nI (by omega) ?_)<;>conv=>whnf))
 refine loop_i (α :=Nat) (fun k=>[(6, .int .i64 k),(2, .own 0 0)]) (fun k=>[.box false w.cells, .fresh]) (fun k=>k<=w.sps.length/\∀j,j<k->(w.spans (j:Nat)).isEmpty=false) (fun k=>w.sps.length-k) 0 mI ⟨by omega,fun j hj=>by omega⟩ ?_
 rintro k ⟨k1,k2⟩
 conv=>whnf
 refine bD (fun h3=>?_) (fun h3=>?_)
 ·have hkl:k<w.sps.length:=by omega
  have hi:w.isSp (k:Nat)=true:=isSp_iff.2 (by omega)
  have e2:=p72 w hk k hi
  have hnil:=allL_nil hk hi
  cases hne:(w.spans (k:Nat)).isEmpty with
  |true=>
   have hl0:((w.allL (k:Nat)).map jAV).length=0:=by rw[hnil.2 hne];rfl
   have hn:w.noT=true:=by
    unfold Shop.noT
    refine List.any_eq_true.2 ⟨_,?_,hne⟩
    unfold Shop.lens Shop.lensK;exact List.mem_map.2 ⟨k,List.mem_range.2 hkl,rfl⟩
   rw[he,hn]
   (conv=>whnf);(repeat'((first|apply bT|apply bF|apply bN|((first|apply bD|apply bEq|apply bNe)<;>intro hh<;>try(exfalso;omega))|refine e2.zq rfl rfl ?_|refine wIn (by omega) ?_|refine nI (by omega) ?_)<;>conv=>whnf))
   all_goals rfl
  |false=>
   have hl0:¬((w.allL (k:Nat)).map jAV).length=0:=by
    rw[List.length_map];intro h
    rw[hnil.1 (List.eq_nil_of_length_eq_zero h)]at hne;cases hne
   (conv=>whnf);(repeat'((first|apply bT|apply bF|apply bN|((first|apply bD|apply bEq|apply bNe)<;>intro hh<;>try(exfalso;omega))|refine e2.zq rfl rfl ?_|refine wIn (by omega) ?_|refine nI (by omega) ?_)<;>conv=>whnf))
   refine⟨k+1,mI,⟨by omega,fun j hj=>?_⟩,by omega⟩
   by_cases e:j=k
   ·rw[e];exact hne
   ·exact k2 j (by omega)
 ·have hn:w.noT=false:=by
   rw[Bool.eq_false_iff];intro hn
   unfold Shop.noT Shop.lens Shop.lensK at hn
   obtain⟨x,hx,h5⟩:=List.any_eq_true.1 hn
   obtain⟨j,hj,rfl⟩:=List.mem_map.1 hx
   have:=k2 j (by have:=List.mem_range.1 hj;omega)
   rw[this]at h5;cases h5
  rw[he,hn]
  (conv=>whnf);(repeat'((first|apply bT|apply bF|apply bN|((first|apply bD|apply bEq|apply bNe)<;>intro hh<;>try(exfalso;omega))|refine wIn (by omega) ?_|refine nI (by omega) ?_)<;>conv=>whnf))
  all_goals rfl
theorem p54(w:Shop)(hB:Big w):FnA Try.prog 54 [.agg w.cells] (· = .int .i64 (w.eO true)):=by
 have e1:=p71 w hB true
 refine fnA 1 ok54 (by simp) ?_
 (conv=>whnf);(repeat'((first|apply bT|apply bF|apply bN|((first|apply bD|apply bEq|apply bNe)<;>intro hh<;>try(exfalso;omega))|refine e1.cq rfl rfl ?_|refine wIn (by omega) ?_|refine nI (by omega) ?_)<;>conv=>whnf))
 all_goals rfl
def szM(m:List Slot):Bool:=decide (m.length<=20)&&m.all fun s=>decide (s.ss.length<=20)
def Shop.sz(w:Shop):Bool:=decide (w.sps.length<=40)&&decide (w.mks.length<=40)&&decide (w.tb.length<=60)&&w.mks.all szM
theorem sz_big{w:Shop}(h:w.sz=true):Big w:=by
 unfold Shop.sz at h
 simp only[Bool.and_eq_true,decide_eq_true_eq,List.all_eq_true]at h
 obtain⟨⟨⟨h1,h2⟩,h3⟩,h4⟩:=h
 refine⟨by omega,by omega,by omega,fun x hx=>?_⟩
 have:=h4 x hx
 unfold szM at this
 simp only[Bool.and_eq_true,decide_eq_true_eq,List.all_eq_true]at this
 exact⟨by omega,fun y hy=>by have:=this.2 y hy;omega⟩
def wide(s:Spare):Bool:=decide (50<=s.hi-s.lo)
def Shop.far(w:Shop):Bool := !w.sz||(decide (w.chk=0)&&(w.sps.any wide||decide (6<w.sps.length)||decide (4<w.mks.length)||decide (10<w.tb.length)))
theorem p14(w:Shop):FnA Try.prog 14 [.agg w.cells] (· = .bool w.far):=by
 have l1:(w.sps.map Spare.av).length=w.sps.length:=by simp
 have l2:(w.mks.map mkAV).length=w.mks.length:=by simp
 have l3:(w.tb.map Trial.av).length=w.tb.length:=by simp
 have far1:w.sz=false->w.far=true:=fun h=>by unfold Shop.far;rw[h];rfl
 by_cases h1:w.sps.length<=40
 case neg=>
  rw[far1 (by unfold Shop.sz;rw[decide_eq_false h1];simp)]
  refine fnA 1 ok14 (by simp) ?_
  (conv=>whnf);(repeat'((first|apply bT|apply bF|apply bN|((first|apply bD|apply bEq|apply bNe)<;>intro hh<;>try(exfalso;omega))|refine wIn (by omega) ?_|refine nI (by omega) ?_)<;>conv=>whnf))
  all_goals rfl
 by_cases h2:w.mks.length<=40
 case neg=>
  rw[far1 (by unfold Shop.sz;rw[decide_eq_false h2];simp)]
  refine fnA 1 ok14 (by simp) ?_
  (conv=>whnf);(repeat'((first|apply bT|apply bF|apply bN|((first|apply bD|apply bEq|apply bNe)<;>intro hh<;>try(exfalso;omega))|refine wIn (by omega) ?_|refine nI (by omega) ?_)<;>conv=>whnf))
  all_goals rfl
 by_cases h3:w.tb.length<=60
 case neg=>
  rw[far1 (by unfold Shop.sz;rw[decide_eq_false h3];simp)]
  refine fnA 1 ok14 (by simp) ?_
  (conv=>whnf);(repeat'((first|apply bT|apply bF|apply bN|((first|apply bD|apply bEq|apply bNe)<;>intro hh<;>try(exfalso;omega))|refine wIn (by omega) ?_|refine nI (by omega) ?_)<;>conv=>whnf))
  all_goals rfl
 have hsz:w.sz=w.mks.all szM:=by unfold Shop.sz;rw[decide_eq_true h1,decide_eq_true h2,decide_eq_true h3];simp
 refine fnA 1 ok14 (by simp) ?_
 (conv=>whnf);(repeat'((first|apply bT|apply bF|apply bN|((first|apply bD|apply bEq|apply bNe)<;>intro hh<;>try(exfalso;omega))|refine wIn (by omega) ?_|refine nI (by omega) ?_)<;>conv=>whnf))
 refine loop_i (α :=Nat) (fun k=>[(3, .int .i64 k),(1, .own 0 0)]) (fun k=>[.box false w.cells]) (fun k=>k<=w.mks.length/\∀n∈w.mks.take k,szM n=true) (fun k=>w.mks.length-k) 0 mI ⟨by omega,by simp⟩ ?_
 rintro m ⟨m1,m2⟩
 conv=>whnf
 refine bD (fun h8=>?_) (fun h8=>?_)
 ·have hm:m<w.mks.length:=by omega
  have g1:=getM mkAV w.mks m hm
  have l4:(w.mks[m].map Slot.av).length=w.mks[m].length:=by simp
  have hno:szM w.mks[m]=false->w.far=true:=fun h=>far1 (by rw[hsz,all_not hm h])
  have hyes:szM w.mks[m]=true->∀n∈w.mks.take (m+1),szM n=true:=fun h=>take_all hm m2 h
  by_cases h9:w.mks[m].length<=20
  ·(conv=>whnf);(repeat'((first|apply bT|apply bF|apply bN|((first|apply bD|apply bEq|apply bNe)<;>intro hh<;>try(exfalso;omega))|refine iaJ g1 ?_|refine wIn (by omega) ?_|refine nI (by omega) ?_)<;>conv=>whnf))
   refine loop_i (α :=Nat) (fun k=>[(4, .int .i64 k),(3, .int .i64 m),(1, .own 0 0)]) (fun k=>[.box false w.cells]) (fun k=>k<=w.mks[m].length/\∀n∈w.mks[m].take k,decide (n.ss.length<=20)=true) (fun k=>w.mks[m].length-k) 0 mI ⟨by omega,by simp⟩ ?_
   rintro s ⟨s1,s2⟩
   conv=>whnf
   refine iaJ g1 ?_
   conv=>whnf
   refine bD (fun h10=>?_) (fun h10=>?_)
   ·have hs:s<w.mks[m].length:=by omega
    have g2:=getM Slot.av w.mks[m] s hs
    have l5:(w.mks[m][s].ss.map jAV).length=w.mks[m][s].ss.length:=by simp
    by_cases hx:w.mks[m][s].ss.length<=20
    ·(conv=>whnf);(repeat'((first|apply bT|apply bF|apply bN|((first|apply bD|apply bEq|apply bNe)<;>intro hh<;>try(exfalso;omega))|refine iaJ g1 ?_|refine iaJ g2 ?_|refine wIn (by omega) ?_|refine nI (by omega) ?_)<;>conv=>whnf))
     exact⟨s+1,mI,⟨by omega,take_all (p:=fun n:Slot=>decide (n.ss.length<=20)) hs s2 (decide_eq_true hx)⟩,by omega⟩
    ·rw[hno (by unfold szM;rw[all_not (p:=fun n:Slot=>decide (n.ss.length<=20)) hs (decide_eq_false hx)];simp)]
     (conv=>whnf);(repeat'((first|apply bT|apply bF|apply bN|((first|apply bD|apply bEq|apply bNe)<;>intro hh<;>try(exfalso;omega))|refine iaJ g1 ?_|refine iaJ g2 ?_|refine wIn (by omega) ?_|refine nI (by omega) ?_)<;>conv=>whnf))
     all_goals rfl
   ·have:s=w.mks[m].length:=by omega
    subst this
    rw[List.take_length]at s2
    (conv=>whnf);(repeat'((first|apply bT|apply bF|apply bN|((first|apply bD|apply bEq|apply bNe)<;>intro hh<;>try(exfalso;omega))|refine wIn (by omega) ?_|refine nI (by omega) ?_)<;>conv=>whnf))
    exact⟨m+1,mI,⟨by omega,hyes (by unfold szM;rw[all_yes (p:=fun n:Slot=>decide (n.ss.length<=20)) s2,decide_eq_true h9];rfl)⟩,by omega⟩
  ·rw[hno (by unfold szM;rw[decide_eq_false h9];rfl)]
   (conv=>whnf);(repeat'((first|apply bT|apply bF|apply bN|((first|apply bD|apply bEq|apply bNe)<;>intro hh<;>try(exfalso;omega))|refine iaJ g1 ?_|refine wIn (by omega) ?_|refine nI (by omega) ?_)<;>conv=>whnf))
   all_goals rfl
 ·have:m=w.mks.length:=by omega
  subst this
  rw[List.take_length]at m2
  have hszt:w.sz=true:=by rw[hsz,all_yes m2]
  have hB:=sz_big hszt
  have e1:=p18 w hB
  by_cases hc:w.chk=0
  case neg=>
   have:w.far=false:=by unfold Shop.far;rw[hszt,decide_eq_false hc];rfl
   rw[this]
   (conv=>whnf);(repeat'((first|apply bT|apply bF|apply bN|((first|apply bD|apply bEq|apply bNe)<;>intro hh<;>try(exfalso;omega))|refine e1.cq rfl rfl ?_|refine wIn (by omega) ?_|refine nI (by omega) ?_)<;>conv=>whnf))
   all_goals rfl
  have hk:=chk_ok hc
  have hf:w.far=(w.sps.any wide||decide (6<w.sps.length)||decide (4<w.mks.length)||decide (10<w.tb.length)):=by unfold Shop.far;rw[hszt,decide_eq_true hc];rfl
  rw[hc]at e1
  rw[hf]
  (conv=>whnf);(repeat'((first|apply bT|apply bF|apply bN|((first|apply bD|apply bEq|apply bNe)<;>intro hh<;>try(exfalso;omega))|refine e1.cq rfl rfl ?_|refine wIn (by omega) ?_|refine nI (by omega) ?_)<;>conv=>whnf))
  refine loop_i (α :=Nat) (fun k=>[(5, .int .i64 k),(1, .own 0 0)]) (fun k=>[.box false w.cells]) (fun k=>k<=w.sps.length/\∀n∈w.sps.take k,wide n=false) (fun k=>w.sps.length-k) 0 mI ⟨by omega,by simp⟩ ?_
  rintro i ⟨i1,i2⟩
  conv=>whnf
  refine bD (fun h8=>?_) (fun h8=>?_)
  ·have hi:i<w.sps.length:=by omega
   have g1:=getM Spare.av w.sps i hi
   have hs:=hk.s2 _ (List.getElem_mem hi)
   by_cases hx:50<=w.sps[i].hi-w.sps[i].lo
   ·rw[any_yes (p:=wide) hi (decide_eq_true hx)]
    (conv=>whnf);(repeat'((first|apply bT|apply bF|apply bN|((first|apply bD|apply bEq|apply bNe)<;>intro hh<;>try(exfalso;omega))|refine iaJ g1 ?_|refine wIn (by omega) ?_|refine nI (by omega) ?_)<;>conv=>whnf))
    all_goals rfl
   ·(conv=>whnf);(repeat'((first|apply bT|apply bF|apply bN|((first|apply bD|apply bEq|apply bNe)<;>intro hh<;>try(exfalso;omega))|refine iaJ g1 ?_|refine wIn (by omega) ?_|refine nI (by omega) ?_)<;>conv=>whnf))
    exact⟨i+1,mI,⟨by omega,take_none (p:=wide) hi i2 (decide_eq_false hx)⟩,by omega⟩
  ·have:i=w.sps.length:=by omega
   subst this
   rw[List.take_length]at i2
   rw[any_no i2,Bool.false_or]
   by_cases q1:6<w.sps.length
   ·rw[decide_eq_true q1]
    (conv=>whnf);(repeat'((first|apply bT|apply bF|apply bN|((first|apply bD|apply bEq|apply bNe)<;>intro hh<;>try(exfalso;omega))|refine wIn (by omega) ?_|refine nI (by omega) ?_)<;>conv=>whnf))
    all_goals rfl
   ·rw[decide_eq_false q1]
    by_cases q2:4<w.mks.length
    ·rw[decide_eq_true q2]
     (conv=>whnf);(repeat'((first|apply bT|apply bF|apply bN|((first|apply bD|apply bEq|apply bNe)<;>intro hh<;>try(exfalso;omega))|refine wIn (by omega) ?_|refine nI (by omega) ?_)<;>conv=>whnf))
     all_goals rfl
    ·rw[decide_eq_false q2]
     (conv=>whnf);(repeat'((first|apply bT|apply bF|apply bN|((first|apply bD|apply bEq|apply bNe)<;>intro hh<;>try(exfalso;omega))|refine wIn (by omega) ?_|refine nI (by omega) ?_)<;>conv=>whnf))
     all_goals (refine congrArg AV.bool ?_;rw[Bool.false_or,Bool.false_or];exact decide_eq_decide.2 (by omega))
theorem far_sz{w:Shop}(h:w.far=false):w.sz=true:=by
 cases hs:w.sz with
 |true=>rfl
 |false=>unfold Shop.far at h;rw[hs]at h;cases h
def exW:Shop:=⟨[⟨1,2,300,310⟩,⟨1,3,305,305⟩,⟨2,1,50,60⟩,⟨1,2,320,330⟩],[[⟨1,[2,3],300,306⟩,⟨2,[1],40,58⟩],[⟨1,[2],310,326⟩]],5,[⟨0,1,0,0⟩]⟩
theorem p64:FnA Try.prog 64 [] (· = .agg exW.cells):=by
 refine fnA 9 ok64 (by simp) ?_
 (conv=>whnf);(repeat'((first|apply bT|apply bF|apply bN|((first|apply bD|apply bEq|apply bNe)<;>intro hh<;>try(exfalso;omega))|refine wIn (by omega) ?_|refine nI (by omega) ?_)<;>conv=>whnf))
 all_goals rfl
theorem ex_1:exW.eO (exW.isSp 0)=0:=by decide +kernel
theorem ex_2:exW.loN 0=300/\exW.hiN 0=309:=by decide +kernel
theorem sp_one(l:List Spare):∀e∈l.map Spare.av,e.length=4/\e.all AV.one=true:=fun e he=>by
 obtain⟨x,_,rfl⟩:=List.mem_map.1 he;simp[Spare.av,AV.one]
theorem tr_one(l:List Trial):∀e∈l.map Trial.av,e.length=4/\e.all AV.one=true:=fun e he=>by
 obtain⟨x,_,rfl⟩:=List.mem_map.1 he;simp[Trial.av,AV.one]
theorem sl_one(l:List Slot):∀e∈l.map Slot.av,e.length=4/\e.all AV.one=true:=fun e he=>by
 obtain⟨x,_,rfl⟩:=List.mem_map.1 he;simp[Slot.av,AV.one]
theorem j_one(l:List Int):∀e∈l.map jAV,e.length=1/\e.all AV.one=true:=fun e he=>by
 obtain⟨x,_,rfl⟩:=List.mem_map.1 he;simp[jAV,AV.one]
theorem p16o(w:Shop)(hB:Big w):FnO Try.prog 16 [.agg w.cells] (fun r rows=>r = .agg [.row 4, .row 14, .int .i64 w.cut, .row 6]/\rows=[(4, .row false 76 4 (w.sps.map Spare.av)),(14, .row false 66 1 (w.mks.map mkAV)),(6, .row false 70 4 (w.tb.map Trial.av))]):=by
 have l1:(w.sps.map Spare.av).length=w.sps.length:=by simp
 have l2:(w.mks.map mkAV).length=w.mks.length:=by simp
 have l3:(w.tb.map Trial.av).length=w.tb.length:=by simp
 have hBs:=hB.s
 have hBm:=hB.m
 have hBt:=hB.t
 refine fnO 15 ok16 (by simp) ?_
 (conv=>whnf);(repeat'((first|apply bT|apply bF|apply bN|((first|apply bD|apply bEq|apply bNe)<;>intro hh<;>try(exfalso;omega))|(refine apI (sp_one w.sps) (by simp only[l1,List.length_nil];omega) ?_)|(refine apI (tr_one w.tb) (by simp only[l3,List.length_nil];omega) ?_)|refine wIn (by omega) ?_|refine nI (by omega) ?_)<;>conv=>whnf))
 refine loop_i (α :=Nat) (fun i=>[(4, .int .i64 i),(3, .own 2 0),(2, .own 1 0),(1, .own 0 0)]) (fun i=>[.box false w.cells, .box false [.nils, .nils, .int .i64 0, .nils], .box false [.row 4, .row 14, .int .i64 w.cut, .row 6], .fresh, .row false 76 4 (w.sps.map Spare.av), .fresh, .row false 70 4 (w.tb.map Trial.av), .fresh, .fresh, .fresh, .fresh, .fresh, .fresh, .fresh, .row false 66 1 ((w.mks.take i).map mkAV)]) (fun i=>i<=w.mks.length) (fun i=>w.mks.length-i) 0 (mA [(14,none)]) (by omega) ?_
 intro i hi0
 conv=>whnf
 refine bD (fun h3=>?_) (fun h3=>?_)
 ·have hi:i<w.mks.length:=by omega
  have g1:=getM mkAV w.mks i hi
  have hbs:=hB.sl _ (List.getElem_mem hi)
  have l4:(w.mks[i].map Slot.av).length=w.mks[i].length:=by simp
  have hsuc:(w.mks.take (i+1)).map mkAV=(w.mks.take i).map mkAV++[mkAV w.mks[i]]:=by
   rw[List.take_succ_eq_append_getElem hi,List.map_append];rfl
  have l5:((w.mks.take i).map mkAV).length=i:=by rw[List.length_map,List.length_take];omega
  (conv=>whnf);(repeat'((first|apply bT|apply bF|apply bN|((first|apply bD|apply bEq|apply bNe)<;>intro hh<;>try(exfalso;omega))|refine iaJ g1 ?_|(refine apI (sl_one w.mks[i]) (by simp only[l4,List.length_nil];omega) ?_)|refine wIn (by omega) ?_|refine nI (by omega) ?_)<;>conv=>whnf))
  refine loop_i (α :=Nat × List (List AV)) (fun q=>[(6, .int .i64 q.1),(5, .own 9 0),(4, .int .i64 i),(3, .own 2 0),(2, .own 1 0),(1, .own 0 0)]) (fun q=>[.box false w.cells, .box false [.nils, .nils, .int .i64 0, .nils], .box false [.row 4, .row 14, .int .i64 w.cut, .row 6], .fresh, .row false 76 4 (w.sps.map Spare.av), .fresh, .row false 70 4 (w.tb.map Trial.av), .fresh, .row false 106 4 q.2, .box false [.row 8], .fresh, .fresh, .fresh, .fresh, .row false 66 1 ((w.mks.take i).map mkAV)]) (fun q=>q.1<=w.mks[i].length/\q.2=w.mks[i].map Slot.av) (fun q=>w.mks[i].length-q.1) (0,w.mks[i].map Slot.av) mI ⟨by simp,rfl⟩ ?_
  rintro⟨k,L⟩ ⟨hk0,hLe⟩
  dsimp only at hk0 hLe⊢
  subst hLe
  conv=>whnf
  refine bD (fun h4=>?_) (fun h4=>?_)
  ·have hk:k<w.mks[i].length:=by omega
   have g2:=getM Slot.av w.mks[i] k hk
   have hb2:=hbs.2 _ (List.getElem_mem hk)
   have l6:(w.mks[i][k].ss.map jAV).length=w.mks[i][k].ss.length:=by simp
   have hset:(w.mks[i].map Slot.av).set k (w.mks[i][k]).av=w.mks[i].map Slot.av:=by
    apply List.ext_getElem (by simp)
    intro n h5 h6
    rw[List.getElem_set]
    split
    ·rename_i e;subst e;simp
    ·rfl
   (conv=>whnf);(repeat'((first|apply bT|apply bF|apply bN|((first|apply bD|apply bEq|apply bNe)<;>intro hh<;>try(exfalso;omega))|refine iaJ g2 ?_|(refine apI (j_one w.mks[i][k].ss) (by simp only[l6,List.length_nil];omega) ?_)|refine wIn (by omega) ?_|refine nI (by omega) ?_)<;>conv=>whnf))
   exact⟨(k+1,(w.mks[i].map Slot.av).set k (w.mks[i][k]).av),mI,⟨by dsimp only;omega,hset⟩,by dsimp only;omega⟩
  ·have:k=w.mks[i].length:=by omega
   subst this
   (conv=>whnf);(repeat'((first|apply bT|apply bF|apply bN|((first|apply bD|apply bEq|apply bNe)<;>intro hh<;>try(exfalso;omega))|(refine apI (by simp[AV.one]) (by simp only[l5];simp;omega) ?_)|refine wIn (by omega) ?_|refine nI (by omega) ?_)<;>conv=>whnf))
   refine⟨i+1,?_,by omega,by omega⟩
   rw[hsuc]
   exact(mA [(14,some 13)])
 ·have:i=w.mks.length:=by omega
  subst this
  rw[List.take_length]
  (conv=>whnf);(repeat'((first|apply bT|apply bF|apply bN|((first|apply bD|apply bEq|apply bNe)<;>intro hh<;>try(exfalso;omega))|refine wIn (by omega) ?_|refine nI (by omega) ?_)<;>conv=>whnf))
  all_goals exact⟨rfl,rfl⟩
theorem bKT{A B:Prop}{b:Bool}(hb:b=true)(hA:A):BrB b A B:=bS (fun _=>hA) (fun h=>absurd h (by simp[hb]))
theorem bKF{A B:Prop}{b:Bool}(hb:b=false)(hB:B):BrB b A B:=bS (fun h=>absurd h (by simp[hb])) (fun _=>hB)
def dd1(own:List Nat)(b:Nat):List Nat:=if b∈own then own else own++[b]
def Shop.ownK(w:Shop)(m i:Int)(k:Nat):List Nat:=((w.allL i).take k).foldl (fun own n=>dd1 own (w.cov i n m (w.slots m).length)) []
def Shop.own(w:Shop)(m i:Int):List Nat:=w.ownK m i (w.allL i).length
def Shop.add(w:Shop)(t:Trial):Shop:={ w with tb:=w.tb++[t] }
theorem add_can{w:Shop}{t:Trial}{i n:Int}(h:(w.add t).can i n=true):w.can i n=true:=by
 unfold Shop.can Shop.add at h
 rw[Bool.and_eq_true,List.all_append,Bool.and_eq_true]at h
 unfold Shop.can
 rw[Bool.and_eq_true]
 exact⟨h.1,h.2.1⟩
structure Sec where
 (al ah sl sh base num den:Int)
def Sec.av(s:Sec):List AV:=[.int .i64 s.al, .int .i64 s.ah, .int .i64 s.sl, .int .i64 s.sh, .int .i64 s.base, .int .i64 s.num, .int .i64 s.den]
structure Frm where
 ss:List Sec
 (lo hi en ed rod cs:Int)
def Frm.cells(f:Frm):List AV:=[.isl (f.ss.map Sec.av), .int .i64 f.lo, .int .i64 f.hi, .int .i64 f.en, .int .i64 f.ed, .int .i64 f.rod, .int .i64 f.cs]
def okSpan(a b p:Int):Prop:=1<=a/\a<=b/\b<=2000/\b-a<=p
def okPart(n d:Int):Prop:=1<=d/\d<=20/\0<=n/\n<=d
instance (a b p:Int):Decidable (okSpan a b p):=by unfold okSpan;infer_instance
instance (n d:Int):Decidable (okPart n d):=by unfold okPart;infer_instance
def Sec.ok(s:Sec):Prop:=okSpan s.al s.ah 6/\okSpan s.sl s.sh 6/\(0<=s.base/\s.base<=2000)/\okPart s.num s.den
instance (s:Sec):Decidable s.ok:=by unfold Sec.ok;infer_instance
def Frm.ok(f:Frm):Prop:=1<=f.ss.length/\f.ss.length<=3/\(∀s∈f.ss,s.ok)/\okSpan f.lo f.hi 200/\okPart f.en f.ed/\(0<=f.rod/\f.rod<=4000)/\(0<=f.cs/\f.cs<=4000)
instance (f:Frm):Decidable f.ok:=by unfold Frm.ok;infer_instance
theorem k73(n lo hi:Int):FnA Try.prog 139 [.int .i64 n, .int .i64 lo, .int .i64 hi] (· = .bool (decide (lo<=n/\n<=hi))):=by
 refine fnA 2 ok139 (by simp) ?_
 (conv=>whnf);(repeat' (first|(refine bT ?_;conv=>whnf)|(refine bF ?_;conv=>whnf)|(refine bN ?_)|(refine bD (fun hh=>?_) (fun hh=>?_)<;>first|(exfalso;omega)|(conv=>whnf))|(refine bEq (fun hh=>?_) (fun hh=>?_)<;>first|(exfalso;omega)|(conv=>whnf))|(refine bNe (fun hh=>?_) (fun hh=>?_)<;>first|(exfalso;omega)|(conv=>whnf))|(refine wIn (by omega) ?_;conv=>whnf)|(refine nI (by omega) ?_;conv=>whnf)))
 all_goals first|rfl|exact congrArg AV.bool (decide_eq_decide.2 (by omega))|exact congrArg AV.bool (decide_eq_true (by omega)).symm|exact congrArg AV.bool (decide_eq_false (by omega)).symm
theorem k71(a b p:Int):FnA Try.prog 164 [.agg [.int .i64 a, .int .i64 b], .int .i64 p] (· = .bool (decide (okSpan a b p))):=by
 refine fnA 2 ok164 (by simp) ?_
 unfold okSpan
 (conv=>whnf);(repeat' (first|(refine bT ?_;conv=>whnf)|(refine bF ?_;conv=>whnf)|(refine bN ?_)|(refine bD (fun hh=>?_) (fun hh=>?_)<;>first|(exfalso;omega)|(conv=>whnf))|(refine bEq (fun hh=>?_) (fun hh=>?_)<;>first|(exfalso;omega)|(conv=>whnf))|(refine bNe (fun hh=>?_) (fun hh=>?_)<;>first|(exfalso;omega)|(conv=>whnf))|(refine(k73 _ _ _).callq rfl rfl (fun r (hr:r=_)=>?_);subst hr;conv=>whnf)|(refine wIn (by omega) ?_;conv=>whnf)|(refine nI (by omega) ?_;conv=>whnf)))
 all_goals first|rfl|exact congrArg AV.bool (decide_eq_decide.2 (by omega))|exact congrArg AV.bool (decide_eq_true (by omega)).symm|exact congrArg AV.bool (decide_eq_false (by omega)).symm
theorem k72(a b:Int):FnA Try.prog 165 [.agg [.int .i64 a, .int .i64 b]] (· = .bool (decide (okPart a b))):=by
 refine fnA 2 ok165 (by simp) ?_
 unfold okPart
 (conv=>whnf);(repeat' (first|(refine bT ?_;conv=>whnf)|(refine bF ?_;conv=>whnf)|(refine bN ?_)|(refine bD (fun hh=>?_) (fun hh=>?_)<;>first|(exfalso;omega)|(conv=>whnf))|(refine bEq (fun hh=>?_) (fun hh=>?_)<;>first|(exfalso;omega)|(conv=>whnf))|(refine bNe (fun hh=>?_) (fun hh=>?_)<;>first|(exfalso;omega)|(conv=>whnf))|(refine(k73 _ _ _).callq rfl rfl (fun r (hr:r=_)=>?_);subst hr;conv=>whnf)|(refine wIn (by omega) ?_;conv=>whnf)|(refine nI (by omega) ?_;conv=>whnf)))
 all_goals first|rfl|exact congrArg AV.bool (decide_eq_decide.2 (by omega))|exact congrArg AV.bool (decide_eq_true (by omega)).symm|exact congrArg AV.bool (decide_eq_false (by omega)).symm
theorem k70(s:Sec):FnA Try.prog 163 [.agg s.av] (· = .bool (decide s.ok)):=by
 refine fnA 2 ok163 (by simp) ?_
 unfold Sec.ok
 (conv=>whnf);(repeat' (first|(refine bT ?_;conv=>whnf)|(refine bF ?_;conv=>whnf)|(refine bN ?_)|(refine bD (fun hh=>?_) (fun hh=>?_)<;>(conv=>whnf))|(refine bEq (fun hh=>?_) (fun hh=>?_)<;>(conv=>whnf))|(refine bNe (fun hh=>?_) (fun hh=>?_)<;>(conv=>whnf))|(refine(k71 _ _ _).callq rfl rfl (fun r (hr:r=_)=>?_);subst hr;conv=>whnf)|(refine(k72 _ _).callq rfl rfl (fun r (hr:r=_)=>?_);subst hr;conv=>whnf)|(refine(k73 _ _ _).callq rfl rfl (fun r (hr:r=_)=>?_);subst hr;conv=>whnf)|(refine wIn (by omega) ?_;conv=>whnf)|(refine nI (by omega) ?_;conv=>whnf)))
 all_goals (simp[*])
theorem k76(a b c d:Int)(h1 : -9000000000000000000<=a*d/\a*d<=9000000000000000000)(h2 : -9000000000000000000<=c*b/\c*b<=9000000000000000000):FnA Try.prog 142 [.agg [.int .i64 a, .int .i64 b], .agg [.int .i64 c, .int .i64 d]] (· = .bool (decide (a*d<c*b))):=by
 refine fnA 2 ok142 (by simp) ?_
 (conv=>whnf);(repeat' (first|(refine bT ?_;conv=>whnf)|(refine bF ?_;conv=>whnf)|(refine bN ?_)|(refine bD (fun hh=>?_) (fun hh=>?_)<;>first|(exfalso;omega)|(conv=>whnf))|(refine bEq (fun hh=>?_) (fun hh=>?_)<;>first|(exfalso;omega)|(conv=>whnf))|(refine bNe (fun hh=>?_) (fun hh=>?_)<;>first|(exfalso;omega)|(conv=>whnf))|(refine wIn (by omega) ?_;conv=>whnf)|(refine nI (by omega) ?_;conv=>whnf)))
 all_goals rfl
theorem getD_map{α : Type}(f : α -> List AV)(l:List α)(i:Nat)(h:i<l.length):(l.map f).getD i []=f l[i]:=by
 simp[List.getD_eq_getElem?_getD,h]
theorem all_take{α : Type}{p : α -> Prop}{l:List α}{i:Nat}(h:i<l.length)(h1:∀s∈l.take i,p s)(h2:p l[i]):∀s∈l.take (i+1),p s:=by
 intro s hs
 rw[List.take_succ_eq_append_getElem h]at hs
 rcases List.mem_append.1 hs with hs|hs
 ·exact h1 s hs
 ·simp at hs;subst hs;exact h2
theorem k48(f:Frm):FnA Try.prog 144 [.agg f.cells] (· = .bool (decide f.ok)):=by
 have hL:(f.ss.map Sec.av).length=f.ss.length:=by simp
 refine fnA 2 ok144 (by simp) ?_
 (conv=>whnf);(repeat' (first|(refine bT ?_;conv=>whnf)|(refine bF ?_;conv=>whnf)|(refine bN ?_)|(refine bD (fun hh=>?_) (fun hh=>?_)<;>first|(exfalso;omega)|(conv=>whnf))|(refine bEq (fun hh=>?_) (fun hh=>?_)<;>first|(exfalso;omega)|(conv=>whnf))|(refine bNe (fun hh=>?_) (fun hh=>?_)<;>first|(exfalso;omega)|(conv=>whnf))|(refine wIn (by omega) ?_;conv=>whnf)|(refine nI (by omega) ?_;conv=>whnf)))
 all_goals try (refine congrArg AV.bool (decide_eq_false fun h=>?_).symm;unfold Frm.ok at h;omega)
 refine loop_i (α :=Nat) (fun k=>[(18, .int .i64 k),(17, .int .i64 ↑(f.ss.map Sec.av).length),(16, .isl (f.ss.map Sec.av)),(1, .own 0 0)]) (fun k=>[.box false f.cells, .fresh]) (fun k=>k<=f.ss.length/\∀s∈f.ss.take k,s.ok) (fun k=>f.ss.length-k) 0 (meets_id (by(repeat' apply And.intro)<;>first|rfl|exact True.intro|(intro hh;cases hh))) ⟨by omega,by simp⟩ ?_
 rintro k ⟨h1,h2⟩
 conv=>whnf
 refine bD (fun h3=>?_) (fun h3=>?_)
 ·conv=>whnf
  refine iaI (by omega) (by omega) (getD_map Sec.av f.ss k (by omega)) ?_
  conv=>whnf
  have hk:k<f.ss.length:=by omega
  refine(k70 f.ss[k]).callq rfl rfl (fun r (hr:r=_)=>?_)
  subst hr
  conv=>whnf
  refine bN (bD (fun h4=>?_) (fun h4=>?_))
  ·conv=>whnf
   refine wIn (by omega) ?_
   exact⟨k+1,(meets_id (by(repeat' apply And.intro)<;>first|rfl|exact True.intro|(intro hh;cases hh))),⟨by omega,all_take hk h2 h4⟩,by omega⟩
  ·conv=>whnf
   refine congrArg AV.bool (decide_eq_false fun h=>h4 ?_).symm
   exact h.2.2.1 _ (List.getElem_mem hk)
 ·have e:k=f.ss.length:=by omega
  subst e
  rw[List.take_length]at h2
  have hiff:f.ok<->(okSpan f.lo f.hi 200/\okPart f.en f.ed/\(0<=f.rod/\f.rod<=4000)/\(0<=f.cs/\f.cs<=4000)):=⟨fun h=>h.2.2.2,fun h=>⟨by omega,by omega,h2,h⟩⟩
  clear h3 h1 h2
  (conv=>whnf);(repeat' (first|(refine bT ?_;conv=>whnf)|(refine bF ?_;conv=>whnf)|(refine bN ?_)|(refine bD (fun hh=>?_) (fun hh=>?_)<;>first|(exfalso;omega)|(conv=>whnf))|(refine bEq (fun hh=>?_) (fun hh=>?_)<;>first|(exfalso;omega)|(conv=>whnf))|(refine bNe (fun hh=>?_) (fun hh=>?_)<;>first|(exfalso;omega)|(conv=>whnf))|(refine(k71 _ _ _).callq rfl rfl (fun r (hr:r=_)=>?_);subst hr;conv=>whnf)|(refine(k72 _ _).callq rfl rfl (fun r (hr:r=_)=>?_);subst hr;conv=>whnf)|(refine(k73 _ _ _).callq rfl rfl (fun r (hr:r=_)=>?_);subst hr;conv=>whnf)|(refine wIn (by omega) ?_;conv=>whnf)|(refine nI (by omega) ?_;conv=>whnf)))
  all_goals (simp[*])
theorem k14(f:Frm):FnA Try.prog 105 [.agg f.cells] (· = .int .i64 (if f.ok then 0 else 10)):=by
 refine fnA 2 ok105 (by simp) ?_
 (conv=>whnf);(repeat' (first|(refine bT ?_;conv=>whnf)|(refine bF ?_;conv=>whnf)|(refine bN ?_)|(refine bD (fun hh=>?_) (fun hh=>?_)<;>(conv=>whnf))|(refine bEq (fun hh=>?_) (fun hh=>?_)<;>(conv=>whnf))|(refine bNe (fun hh=>?_) (fun hh=>?_)<;>(conv=>whnf))|(refine(k48 f).callq rfl rfl (fun r (hr:r=_)=>?_);subst hr;conv=>whnf)|(refine wIn (by omega) ?_;conv=>whnf)|(refine nI (by omega) ?_;conv=>whnf)))
 all_goals simp[*]
theorem k67(f:Frm)(i:Int):FnA Try.prog 138 [.agg f.cells, .int .i64 i] (· = .int .i64 (if f.ok then(if 0<=i/\i<f.ss.length then 0 else 1) else 10)):=by
 have hL:(f.ss.map Sec.av).length=f.ss.length:=by simp
 refine fnA 2 ok138 (by simp) ?_
 by_cases hok:f.ok
 ·have h3:=hok.2.1
  (conv=>whnf);(repeat' (first|(refine bT ?_;conv=>whnf)|(refine bF ?_;conv=>whnf)|(refine bN ?_)|(refine bD (fun hh=>?_) (fun hh=>?_)<;>(conv=>whnf))|(refine bEq (fun hh=>?_) (fun hh=>?_)<;>(conv=>whnf))|(refine bNe (fun hh=>?_) (fun hh=>?_)<;>(conv=>whnf))|(refine(k48 f).callq rfl rfl (fun r (hr:r=_)=>?_);subst hr;conv=>whnf)|(refine(k73 _ _ _).callq rfl rfl (fun r (hr:r=_)=>?_);subst hr;conv=>whnf)|(refine wIn (by omega) ?_;conv=>whnf)|(refine nI (by omega) ?_;conv=>whnf)))
  all_goals (simp only[hL]at *)
  all_goals (first|exact absurd hok (by assumption)|skip)
  all_goals (rw[if_pos hok])
  ·rw[if_pos (by omega)]
  ·rw[if_neg (by omega)]
 ·(conv=>whnf);(repeat' (first|(refine bT ?_;conv=>whnf)|(refine bF ?_;conv=>whnf)|(refine bN ?_)|(refine bD (fun hh=>?_) (fun hh=>?_)<;>(conv=>whnf))|(refine bEq (fun hh=>?_) (fun hh=>?_)<;>(conv=>whnf))|(refine bNe (fun hh=>?_) (fun hh=>?_)<;>(conv=>whnf))|(refine(k48 f).callq rfl rfl (fun r (hr:r=_)=>?_);subst hr;conv=>whnf)|(refine(k73 _ _ _).callq rfl rfl (fun r (hr:r=_)=>?_);subst hr;conv=>whnf)|(refine wIn (by omega) ?_;conv=>whnf)|(refine nI (by omega) ?_;conv=>whnf)))
  all_goals (first|exact absurd (by assumption) hok|rw[if_neg hok])
def Frm.pos(f:Frm)(i r:Int):Int:=if f.ok then(if (0<=i/\i<f.ss.length)/\f.lo<=r/\r<=f.hi then 0 else 1) else 10
theorem k52(f:Frm)(i r:Int):FnA Try.prog 101 [.agg f.cells, .int .i64 i, .int .i64 r] (· = .int .i64 (f.pos i r)):=by
 refine fnA 2 ok101 (by simp) ?_
 by_cases hok:f.ok
 ·by_cases hi:0<=i/\i<f.ss.length
  ·(conv=>whnf);(repeat' (first|(refine bT ?_;conv=>whnf)|(refine bF ?_;conv=>whnf)|(refine bN ?_)|(refine bD (fun hh=>?_) (fun hh=>?_)<;>(conv=>whnf))|(refine bEq (fun hh=>?_) (fun hh=>?_)<;>(conv=>whnf))|(refine bNe (fun hh=>?_) (fun hh=>?_)<;>(conv=>whnf))|(refine(k67 f _).callq rfl rfl (fun r (hr:r=_)=>?_);subst hr;conv=>whnf)|(refine(k73 _ _ _).callq rfl rfl (fun r (hr:r=_)=>?_);subst hr;conv=>whnf)|(refine wIn (by omega) ?_;conv=>whnf)|(refine nI (by omega) ?_;conv=>whnf)))
   all_goals simp_all[Frm.pos]
   all_goals omega
  ·(conv=>whnf);(repeat' (first|(refine bT ?_;conv=>whnf)|(refine bF ?_;conv=>whnf)|(refine bN ?_)|(refine bD (fun hh=>?_) (fun hh=>?_)<;>(conv=>whnf))|(refine bEq (fun hh=>?_) (fun hh=>?_)<;>(conv=>whnf))|(refine bNe (fun hh=>?_) (fun hh=>?_)<;>(conv=>whnf))|(refine(k67 f _).callq rfl rfl (fun r (hr:r=_)=>?_);subst hr;conv=>whnf)|(refine(k73 _ _ _).callq rfl rfl (fun r (hr:r=_)=>?_);subst hr;conv=>whnf)|(refine wIn (by omega) ?_;conv=>whnf)|(refine nI (by omega) ?_;conv=>whnf)))
   all_goals simp_all[Frm.pos]
   all_goals (rw[if_neg (by omega),if_neg (by omega)])
 ·(conv=>whnf);(repeat' (first|(refine bT ?_;conv=>whnf)|(refine bF ?_;conv=>whnf)|(refine bN ?_)|(refine bD (fun hh=>?_) (fun hh=>?_)<;>(conv=>whnf))|(refine bEq (fun hh=>?_) (fun hh=>?_)<;>(conv=>whnf))|(refine bNe (fun hh=>?_) (fun hh=>?_)<;>(conv=>whnf))|(refine(k67 f _).callq rfl rfl (fun r (hr:r=_)=>?_);subst hr;conv=>whnf)|(refine(k73 _ _ _).callq rfl rfl (fun r (hr:r=_)=>?_);subst hr;conv=>whnf)|(refine wIn (by omega) ?_;conv=>whnf)|(refine nI (by omega) ?_;conv=>whnf)))
  all_goals simp_all[Frm.pos]
theorem tdiv_bd{a n m:Int}(ha:0<=a)(h0:0<=n)(h1:n<=m)(h2:1<=m):0<=(a*n).tdiv m/\(a*n).tdiv m<=a:=by
 have h3:0<=a*n:=Int.mul_nonneg ha h0
 rw[Int.tdiv_eq_ediv_of_nonneg h3]
 refine⟨Int.ediv_nonneg h3 (by omega),?_⟩
 have h4:a*n<=a*m:=Int.mul_le_mul_of_nonneg_left h1 ha
 calc a*n / m<=a*m / m:=Int.ediv_le_ediv (by omega) h4
  _=a:=Int.mul_ediv_cancel _ (by omega)
theorem mul_bd{a b:Int}(A B:Int)(h1:0<=a)(h2:a<=A)(h3:0<=b)(h4:b<=B):0<=a*b/\a*b<=A*B:=
 ⟨Int.mul_nonneg h1 h3,Int.mul_le_mul h2 h4 h3 (by omega)⟩
def dstep(d:Int)(s:Sec):Int:=s.base+(d*s.num).tdiv s.den
def Frm.dist(f:Frm)(i:Nat)(r:Int):Int:=((f.ss.take (i+1)).drop 1).foldl dstep r
theorem dstep_bd{d D:Int}{s:Sec}(h:s.ok)(h0:0<=d)(h1:d<=D):0<=dstep d s/\dstep d s<=D+2000:=by
 obtain⟨_,_,h2,h3⟩:=h
 have:=tdiv_bd h0 h3.2.2.1 h3.2.2.2 h3.1
 unfold dstep;omega
theorem fold_bd{l:List Sec}(h:∀s∈l,s.ok):∀ {d D:Int},0<=d->d<=D->0<=l.foldl dstep d/\l.foldl dstep d<=D+2000*l.length:=by
 induction l with
 |nil=>intro d D h0 h1;simp;omega
 |cons s l ih=>
  intro d D h0 h1
  have h2:=dstep_bd (h s (by simp)) h0 h1
  have:=ih (fun s hs=>h s (by simp[hs])) h2.1 h2.2
  simp only[List.foldl_cons,List.length_cons]
  omega
theorem Frm.dist_bd{f:Frm}(h:f.ok)(i:Nat){r:Int}(h0:0<=r)(h1:r<=2000):0<=f.dist i r/\f.dist i r<=6000:=by
 have h2:=h.2.1
 have h3:∀s∈(f.ss.take (i+1)).drop 1,s.ok:=fun s hs=>h.2.2.1 s (List.mem_of_mem_take (List.mem_of_mem_drop hs))
 have h4:=fold_bd h3 h0 h1
 have h5:((f.ss.take (i+1)).drop 1).length<=2:=by simp;omega
 unfold Frm.dist;omega
theorem k53(f:Frm)(i:Nat)(r:Int)(hok:f.ok)(hi:i<f.ss.length)(h0:0<=r)(h1:r<=2000):FnA Try.prog 102 [.agg f.cells, .int .i64 i, .int .i64 r] (· = .int .i64 (f.dist i r)):=by
 have h2:=hok.2.1
 have hL:(f.ss.map Sec.av).length=f.ss.length:=by simp
 generalize hl:(f.ss.take (i+1)).drop 1=l
 have hlo:∀s∈l,s.ok:=fun s hs=>hok.2.2.1 s (List.mem_of_mem_take (List.mem_of_mem_drop (hl ▸ hs)))
 have hll:(l.map Sec.av).length=l.length:=by simp
 have hl2:l.length<=2:=by rw[<- hl];simp;omega
 refine fnA 2 ok102 (by simp) ?_
 (conv=>whnf);(repeat' (first|(refine bT ?_;conv=>whnf)|(refine bF ?_;conv=>whnf)|(refine bN ?_)|(refine bD (fun hh=>?_) (fun hh=>?_)<;>(conv=>whnf))|(refine bEq (fun hh=>?_) (fun hh=>?_)<;>(conv=>whnf))|(refine bNe (fun hh=>?_) (fun hh=>?_)<;>(conv=>whnf))|(refine wIn (by omega) ?_;conv=>whnf)|(refine nI (by omega) ?_;conv=>whnf)))
 refine slI (es':=l.map Sec.av) (by omega) (by omega) (by omega) (fun e he=>?_) ?_ ?_
 ·obtain⟨s,_,rfl⟩:=List.mem_map.1 he;rfl
 ·rw[<- hl];simp only[List.map_drop,List.map_take];congr 1
 conv=>whnf
 refine loop_i (α :=Nat) (fun k=>[(17, .int .i64 k),(16, .int .i64 ↑(l.map Sec.av).length),(15, .isl (l.map Sec.av)),(7, .int .i64 ((l.take k).foldl dstep r))]) (fun k=>[.box false f.cells, .fresh]) (fun k=>k<=l.length) (fun k=>l.length-k) 0 (meets_id (by(repeat' apply And.intro)<;>first|rfl|exact True.intro|(intro hh;cases hh))) (by omega) ?_
 intro k hk
 conv=>whnf
 refine bD (fun h3=>?_) (fun h3=>?_)
 ·conv=>whnf
  have hk:k<l.length:=by omega
  refine iaI (by omega) (by omega) (getD_map Sec.av l k hk) ?_
  conv=>whnf
  have hs:=hlo l[k] (List.getElem_mem hk)
  have hf:=fold_bd (l:=l.take k) (fun s hs=>hlo s (List.mem_of_mem_take hs)) h0 h1
  have hkl:(l.take k).length<=2:=by simp;omega
  have hm:=mul_bd 6000 20 hf.1 (by omega) hs.2.2.2.2.2.1 (by have:=hs.2.2.2;unfold okPart at this;omega)
  have ht:=tdiv_bd hf.1 hs.2.2.2.2.2.1 hs.2.2.2.2.2.2 hs.2.2.2.1
  have hd:=hs.2.2.2.1
  have hb:=hs.2.2.1
  have hst:(l.take (k+1)).foldl dstep r=l[k].base+((l.take k).foldl dstep r*l[k].num).tdiv l[k].den:=by
   rw[List.take_succ_eq_append_getElem hk,List.foldl_append];rfl
  (conv=>whnf);(repeat' (first|(refine bT ?_;conv=>whnf)|(refine bF ?_;conv=>whnf)|(refine bN ?_)|(refine bD (fun hh=>?_) (fun hh=>?_)<;>first|(exfalso;omega)|(conv=>whnf))|(refine bEq (fun hh=>?_) (fun hh=>?_)<;>first|(exfalso;omega)|(conv=>whnf))|(refine bNe (fun hh=>?_) (fun hh=>?_)<;>first|(exfalso;omega)|(conv=>whnf))|(refine wIn (by omega) ?_;conv=>whnf)|(refine nI (by omega) ?_;conv=>whnf)))
  refine⟨k+1,?_,by omega,by omega⟩
  rw[hst]
  exact(meets_id (by(repeat' apply And.intro)<;>first|rfl|exact True.intro|(intro hh;cases hh)))
 ·conv=>whnf
  have:k=l.length:=by omega
  subst this
  rw[List.take_length,Frm.dist,hl]
def Sec.na(s:Sec):Nat:=(s.ah+1-s.al).toNat
def Sec.nb(s:Sec):Nat:=(s.sh+1-s.sl).toNat
def Sec.side(s:Sec)(k:Nat):Int × Int:=(s.al+((k / s.nb:Nat):Int),s.sl+((k%s.nb:Nat):Int))
def Sec.sides(s:Sec):List (Int × Int):=(List.range (s.na*s.nb)).map s.side
def pairAV(p:Int × Int):List AV:=[.int .i64 p.1, .int .i64 p.2]
theorem side_ij(s:Sec)(i j:Nat)(hj:j<s.nb):s.side (i*s.nb+j)=(s.al+i,s.sl+j):=by
 unfold Sec.side
 have h1:(i*s.nb+j) / s.nb=i:=by
  rw[Nat.mul_comm,Nat.mul_add_div (by omega),Nat.div_eq_of_lt hj];rfl
 have h2:(i*s.nb+j)%s.nb=j:=by
  rw[Nat.mul_comm,Nat.mul_add_mod];exact Nat.mod_eq_of_lt hj
 rw[h1,h2]
theorem sides_get(s:Sec)(i j:Nat)(hi:i<s.na)(hj:j<s.nb):(s.sides.map pairAV)[i*s.nb+j]?=some [.int .i64 (s.al+i), .int .i64 (s.sl+j)]:=by
 have hlt:i*s.nb+j<s.na*s.nb:=by
  have:(i+1)*s.nb<=s.na*s.nb:=Nat.mul_le_mul_right _ hi
  rw[Nat.add_mul]at this;omega
 simp only[Sec.sides,List.map_map,List.getElem?_map,List.getElem?_range hlt,Option.map_some]
 simp only[Function.comp,side_ij s i j hj,pairAV]
theorem sides_len(s:Sec):(s.sides.map pairAV).length=s.na*s.nb:=by simp[Sec.sides]
theorem mem_sides{s:Sec}{p:Int × Int}:p∈s.sides<->(s.al<=p.1/\p.1<=s.ah)/\s.sl<=p.2/\p.2<=s.sh:=by
 simp only[Sec.sides,List.mem_map,List.mem_range]
 constructor
 ·rintro⟨k,hk,rfl⟩
  have hnb:0<s.nb:=by
   cases h:s.nb with
   |zero=>rw[h]at hk;simp at hk
   |succ n=>omega
  have h1:k / s.nb<s.na:=(Nat.div_lt_iff_lt_mul hnb).2 hk
  have h2:=Nat.mod_lt k hnb
  generalize hq:k / s.nb=q at *
  generalize hr:k%s.nb=r at *
  unfold Sec.side
  rw[hq,hr]
  simp only[Sec.na,Sec.nb]at h1 h2
  omega
 ·rintro⟨⟨h1,h2⟩,h3,h4⟩
  have hj:(p.2-s.sl).toNat<s.nb:=by unfold Sec.nb;omega
  have hi:(p.1-s.al).toNat<s.na:=by unfold Sec.na;omega
  refine⟨(p.1-s.al).toNat*s.nb+(p.2-s.sl).toNat,?_,?_⟩
  ·have:((p.1-s.al).toNat+1)*s.nb<=s.na*s.nb:=Nat.mul_le_mul_right _ hi
   rw[Nat.add_mul]at this;omega
  ·rw[side_ij s _ _ hj]
   ext<;>simp<;>omega
theorem i83(s:Sec)(hok:s.ok):ItA Try.prog 162 [.ipt s.av] (s.sides.map pairAV):=by
 have h1:=hok.1
 have h2:=hok.2.1
 unfold okSpan at h1 h2
 refine itA 2 ok162 (by simp) ?_
 conv=>whnf
 refine loop_y (α :=Nat) (fun i=>[(3, .int .i64 (s.al+i)),(1, .ipt s.av),(0, .yld)]) (fun i=>[.fresh, .fresh]) (fun i=>⟨[],i*s.nb,false⟩) (fun i=>i<=s.na) (fun i=>s.na-i) 0 ?_ (by omega) ?_
 ·simp only[Int.natCast_zero,Int.add_zero,Nat.zero_mul];exact(meets_id (by(repeat' apply And.intro)<;>first|rfl|exact True.intro|(intro hh;cases hh)))
 intro i hi
 conv=>whnf
 have ena:(s.na:Int)=s.ah+1-s.al:=by unfold Sec.na;omega
 have enb:(s.nb:Int)=s.sh+1-s.sl:=by unfold Sec.nb;omega
 refine bD (fun h3=>?_) (fun h3=>?_)
 ·conv=>whnf
  refine loop_y (α :=Nat) (fun j=>[(4, .int .i64 (s.sl+j)),(3, .int .i64 (s.al+i)),(1, .ipt s.av),(0, .yld)]) (fun j=>[.fresh, .fresh]) (fun j=>⟨[],i*s.nb+j,false⟩) (fun j=>j<=s.nb) (fun j=>s.nb-j) 0 ?_ (by omega) ?_
  ·simp only[Int.natCast_zero,Int.add_zero,Nat.add_zero];exact(meets_id (by(repeat' apply And.intro)<;>first|rfl|exact True.intro|(intro hh;cases hh)))
  intro j hj
  conv=>whnf
  refine bD (fun h4=>?_) (fun h4=>?_)
  ·conv=>whnf
   refine yI rfl (sides_get s i j (by omega) (by omega)) rfl ?_ ?_
   ·conv=>whnf
    refine bN (bT ?_)
    conv=>whnf
    refine wIn (by omega) ?_
    refine⟨j+1,?_,by omega,by omega⟩
    simp only[Int.natCast_add,Int.natCast_one,<- Int.add_assoc,<- Nat.add_assoc]
    exact(meets_id (by(repeat' apply And.intro)<;>first|rfl|exact True.intro|(intro hh;cases hh)))
   ·conv=>whnf
    refine bN (bF ?_)
    conv=>whnf
    exact .inl rfl
  ·conv=>whnf
   refine wIn (by omega) ?_
   have:j=s.nb:=by omega
   subst this
   refine⟨i+1,?_,by omega,by omega⟩
   simp only[Int.natCast_add,Int.natCast_one,<- Int.add_assoc,Nat.add_mul,Nat.one_mul]
   exact(meets_id (by(repeat' apply And.intro)<;>first|rfl|exact True.intro|(intro hh;cases hh)))
 ·conv=>whnf
  right
  have:i=s.na:=by omega
  subst this
  rw[sides_len]
theorem k75(s:Sec):FnA Try.prog 141 [.agg s.av] (· = .fn 162 [.ipt s.av]):=by
 refine fnA 2 ok141 (by simp) ?_
 (conv=>whnf);(repeat' (first|(refine bT ?_;conv=>whnf)|(refine bF ?_;conv=>whnf)|(refine bN ?_)|(refine bD (fun hh=>?_) (fun hh=>?_)<;>(conv=>whnf))|(refine bEq (fun hh=>?_) (fun hh=>?_)<;>(conv=>whnf))|(refine bNe (fun hh=>?_) (fun hh=>?_)<;>(conv=>whnf))|(refine wIn (by omega) ?_;conv=>whnf)|(refine nI (by omega) ?_;conv=>whnf)))
 all_goals rfl
theorem k65(a b:Bool):FnA Try.prog 108 [.bool a, .bool b] (· = .int .i64 (if a then 1 else if b then 3 else 2)):=by
 refine fnA 2 ok108 (by simp) ?_
 cases a<;>cases b
 all_goals (conv=>whnf);(repeat' (first|(refine bT ?_;conv=>whnf)|(refine bF ?_;conv=>whnf)|(refine bN ?_)|(refine bD (fun hh=>?_) (fun hh=>?_)<;>(conv=>whnf))|(refine bEq (fun hh=>?_) (fun hh=>?_)<;>(conv=>whnf))|(refine bNe (fun hh=>?_) (fun hh=>?_)<;>(conv=>whnf))|(refine wIn (by omega) ?_;conv=>whnf)|(refine nI (by omega) ?_;conv=>whnf)))
 all_goals rfl
def cosN(d a t:Int):Int:=d*d+a*a-t*t
def cosD(d a:Int):Int:=2*d*a
theorem k74(d a t:Int)(hd:0<=d/\d<=6000)(ha:0<=a/\a<=2000)(ht:0<=t/\t<=2000):FnA Try.prog 140 [.int .i64 d, .int .i64 a, .int .i64 t] (· = .agg [.int .i64 (cosN d a t), .int .i64 (cosD d a)]):=by
 have h1:=mul_bd 6000 6000 hd.1 hd.2 hd.1 hd.2
 have h2:=mul_bd 2000 2000 ha.1 ha.2 ha.1 ha.2
 have h3:=mul_bd 2000 2000 ht.1 ht.2 ht.1 ht.2
 have h4:=mul_bd (a:=2*d) 12000 2000 (by omega) (by omega) ha.1 ha.2
 refine fnA 2 ok140 (by simp) ?_
 (conv=>whnf);(repeat' (first|(refine bT ?_;conv=>whnf)|(refine bF ?_;conv=>whnf)|(refine bN ?_)|(refine bD (fun hh=>?_) (fun hh=>?_)<;>(conv=>whnf))|(refine bEq (fun hh=>?_) (fun hh=>?_)<;>(conv=>whnf))|(refine bNe (fun hh=>?_) (fun hh=>?_)<;>(conv=>whnf))|(refine wIn (by omega) ?_;conv=>whnf)|(refine nI (by omega) ?_;conv=>whnf)))
 all_goals rfl
theorem cosN_bd{d a t:Int}(hd:0<=d/\d<=6000)(ha:0<=a/\a<=2000)(ht:0<=t/\t<=2000) : -4000000<=cosN d a t/\cosN d a t<=40000000:=by
 have h1:=mul_bd 6000 6000 hd.1 hd.2 hd.1 hd.2
 have h2:=mul_bd 2000 2000 ha.1 ha.2 ha.1 ha.2
 have h3:=mul_bd 2000 2000 ht.1 ht.2 ht.1 ht.2
 unfold cosN;omega
theorem cosD_bd{d a:Int}(hd:0<=d/\d<=6000)(ha:0<=a/\a<=2000):0<=cosD d a/\cosD d a<=24000000:=by
 have h4:=mul_bd (a:=2*d) 12000 2000 (by omega) (by omega) ha.1 ha.2
 unfold cosD;omega
theorem gcd_step{x y:Int}(h1:0<=x)(h2:0<=y):Int.gcd (y%x) x=Int.gcd x y:=by
 obtain⟨n,rfl⟩:=Int.eq_ofNat_of_zero_le h1
 obtain⟨m,rfl⟩:=Int.eq_ofNat_of_zero_le h2
 rw[<- Int.natCast_emod]
 simp only[Int.gcd_natCast_natCast]
 exact(Nat.gcd_rec n m).symm
theorem k77(a b:Int)(ha:0<=a/\a<=1000000000000)(hb:0<=b/\b<=1000000000000):FnA Try.prog 143 [.int .i64 a, .int .i64 b] (· = .int .i64 (Int.gcd a b)):=by
 refine fnA 2 ok143 (by simp) ?_
 (conv=>whnf);(repeat' (first|(refine bT ?_;conv=>whnf)|(refine bF ?_;conv=>whnf)|(refine bN ?_)|(refine bD (fun hh=>?_) (fun hh=>?_)<;>(conv=>whnf))|(refine bEq (fun hh=>?_) (fun hh=>?_)<;>(conv=>whnf))|(refine bNe (fun hh=>?_) (fun hh=>?_)<;>(conv=>whnf))|(refine wIn (by omega) ?_;conv=>whnf)|(refine nI (by omega) ?_;conv=>whnf)))
 refine loop_i (α :=Int × Int) (fun x=>[(0, .int .i64 x.1),(1, .int .i64 x.2)]) (fun x=>[.fresh, .fresh]) (fun x=>0<=x.1/\0<=x.2/\Int.gcd x.1 x.2=Int.gcd a b) (fun x=>x.1.toNat) (a,b) (meets_id (by(repeat' apply And.intro)<;>first|rfl|exact True.intro|(intro hh;cases hh))) ⟨ha.1,hb.1,rfl⟩ ?_
 rintro⟨x,y⟩ ⟨h1,h2,h3⟩
 simp only at h1 h2 h3
 conv=>whnf
 refine bNe (fun h4=>?_) (fun h4=>?_)
 ·conv=>whnf
  refine nI h4 ?_
  conv=>whnf
  have e:y.tmod x=y%x:=Int.tmod_eq_emod_of_nonneg h2
  have h5:=Int.emod_nonneg y h4
  have h6:=Int.emod_lt_of_pos y (show 0<x by omega)
  refine⟨(y.tmod x,x),(meets_id (by(repeat' apply And.intro)<;>first|rfl|exact True.intro|(intro hh;cases hh))),⟨by simp only[e];exact h5,h1,?_⟩,?_⟩
  ·simp only[e]
   rw[<- h3];exact gcd_step h1 h2
  ·simp only[e];omega
 ·conv=>whnf
  subst h4
  rw[<- h3]
  simp;omega
def redN(n d:Int):Int:=n.tdiv (Int.gcd n d)
def redD(n d:Int):Int:=d.tdiv (Int.gcd n d)
theorem gcd_max(n d:Int):Int.gcd (max n (0-n)) d=Int.gcd n d:=by
 by_cases h:0<=n
 ·rw[Int.max_eq_left (by omega)]
 ·rw[Int.max_eq_right (by omega),Int.zero_sub,Int.neg_gcd]
theorem gcd_bd{n d:Int}(hd:1<=d):1<=(Int.gcd n d:Int)/\(Int.gcd n d:Int)<=d:=by
 have h1:0<Int.gcd n d:=Int.gcd_pos_of_ne_zero_right n (by omega)
 have h2:=Int.le_of_dvd (by omega) (Int.gcd_dvd_right n d)
 omega
theorem tdiv_abs{a b:Int}(hb:1<=b)(B:Int)(h1 : -B<=a)(h2:a<=B) : -B<=a.tdiv b/\a.tdiv b<=B:=by
 by_cases h:0<=a
 ·rw[Int.tdiv_eq_ediv_of_nonneg h]
  have h3:=Int.ediv_nonneg h (show 0<=b by omega)
  have h4:=Int.ediv_le_self b h
  omega
 ·have e:a.tdiv b = - ((-a) / b):=by
   have:=Int.neg_tdiv (a := -a) (b:=b)
   rw[Int.neg_neg]at this
   rw[this,Int.tdiv_eq_ediv_of_nonneg (by omega)]
  have h3:=Int.ediv_nonneg (show 0 <= -a by omega) (show 0<=b by omega)
  have h4:=Int.ediv_le_self b (show 0 <= -a by omega)
  omega
theorem k58(n d:Int)(hn : -100000000<=n/\n<=100000000)(hd:1<=d/\d<=100000000):FnA Try.prog 104 [.agg [.int .i64 n, .int .i64 d]] (· = .agg [.int .i64 (redN n d), .int .i64 (redD n d)]):=by
 have hg:=gcd_bd (n:=n) hd.1
 have h1:=tdiv_abs (a:=n) hg.1 100000000 (by omega) (by omega)
 have h2:=tdiv_abs (a:=d) hg.1 100000000 (by omega) (by omega)
 have hm:max n (0-n)<=100000000/\0<=max n (0-n):=by omega
 refine fnA 2 ok104 (by simp) ?_
 (conv=>whnf);(repeat' (first|(refine bT ?_;conv=>whnf)|(refine bF ?_;conv=>whnf)|(refine bN ?_)|(refine bD (fun hh=>?_) (fun hh=>?_)<;>(conv=>whnf))|(refine bEq (fun hh=>?_) (fun hh=>?_)<;>(conv=>whnf))|(refine bNe (fun hh=>?_) (fun hh=>?_)<;>(conv=>whnf))|(refine wIn (by omega) ?_;conv=>whnf)|(refine nI (by omega) ?_;conv=>whnf)))
 refine(k77 (max n (0-n)) d ⟨hm.2,by omega⟩ (by omega)).callq rfl rfl (fun r (hr:r=_)=>?_)
 rw[gcd_max]at hr
 subst hr
 (conv=>whnf);(repeat' (first|(refine bT ?_;conv=>whnf)|(refine bF ?_;conv=>whnf)|(refine bN ?_)|(refine bD (fun hh=>?_) (fun hh=>?_)<;>(conv=>whnf))|(refine bEq (fun hh=>?_) (fun hh=>?_)<;>(conv=>whnf))|(refine bNe (fun hh=>?_) (fun hh=>?_)<;>(conv=>whnf))|(refine wIn (by omega) ?_;conv=>whnf)|(refine nI (by omega) ?_;conv=>whnf)))
 all_goals rfl
theorem mul_ab{a b:Int}(A B:Int)(h1 : -A<=a)(h2:a<=A)(h3:0<=b)(h4:b<=B) : -(A*B)<=a*b/\a*b<=A*B:=by
 by_cases h:0<=a
 ·have:=mul_bd A B h h2 h3 h4
  omega
 ·have:=mul_bd (a := -a) A B (by omega) (by omega) h3 h4
  rw[Int.neg_mul]at this
  omega
def knw(s:Sec)(p:Int->Int->Bool):Int:=if s.sides.all (fun q=>p q.1 q.2) then 1 else if s.sides.any (fun q=>p q.1 q.2) then 3 else 2
theorem takeallR{α : Type}(l:List α)(p : α -> Bool){k:Nat}{q : α}(h:l[k]?=some q):(l.take (k+1)).all p=((l.take k).all p&&p q):=by
 obtain⟨h1,rfl⟩:=List.getElem?_eq_some_iff.1 h
 rw[List.take_succ_eq_append_getElem h1,List.all_append];simp
theorem take_any{α : Type}(l:List α)(p : α -> Bool){k:Nat}{q : α}(h:l[k]?=some q):(l.take (k+1)).any p=((l.take k).any p||p q):=by
 obtain⟨h1,rfl⟩:=List.getElem?_eq_some_iff.1 h
 rw[List.take_succ_eq_append_getElem h1,List.any_append];simp
theorem k59_3(s:Sec)(hok:s.ok)(h:FuncId)(a b c:List AV)(p:Int->Int->Bool)
  (hg:∀x y,(s.al<=x/\x<=s.ah)->(s.sl<=y/\y<=s.sh)->FnV Try.prog (.fn h [.ipt a, .ipt b, .ipt c]) [.int .i64 x, .int .i64 y] (· = .bool (p x y))):FnA Try.prog 106 [.agg s.av, .fn h [.ipt a, .ipt b, .ipt c]] (· = .int .i64 (knw s p)):=by
 refine fnA 4 ok106 (by simp) ?_
 (conv=>whnf);(repeat' (first|(refine bT ?_;conv=>whnf)|(refine bF ?_;conv=>whnf)|(refine bN ?_)|(refine bD (fun hh=>?_) (fun hh=>?_)<;>(conv=>whnf))|(refine bEq (fun hh=>?_) (fun hh=>?_)<;>(conv=>whnf))|(refine bNe (fun hh=>?_) (fun hh=>?_)<;>(conv=>whnf))|(refine(k75 s).callzq rfl rfl (fun r (hr:r=_)=>?_);subst hr;conv=>whnf)|(refine wIn (by omega) ?_;conv=>whnf)|(refine nI (by omega) ?_;conv=>whnf)))
 refine rng_i (α :=Bool × Bool) (s.sides.map pairAV) [0,1,2,3] [(2, .own 0 0),(3, .own 1 0),(5, .own 2 0),(6, .own 3 0)] (fun x=>[.box false s.av, .box false [.fn h [.ipt a, .ipt b, .ipt c]], .box false [.bool x.1], .box false [.bool x.2]])
  (fun k x=>x.1=(s.sides.take k).all (fun q=>p q.1 q.2)/\x.2=(s.sides.take k).any (fun q=>p q.1 q.2)) (true,false) rfl rfl rfl bd162 (i83 s hok) rfl (meets_id (by(repeat' apply And.intro)<;>first|rfl|exact True.intro|(intro hh;cases hh))) rfl ⟨by simp,by simp⟩ (fun v hv=>by obtain⟨q,_,rfl⟩:=List.mem_map.1 hv;rfl) ?_ ?_
 ·rintro k v ⟨e,o⟩ hv ⟨h1,h2⟩
  obtain⟨q,hq,rfl⟩:∃q,s.sides[k]?=some q/\pairAV q=v:=by simpa using hv
  have hm:=mem_sides.1 (List.mem_of_getElem? hq)
  simp only at h1 h2
  conv=>whnf
  refine(hg q.1 q.2 hm.1 hm.2).vcallq rfl rfl rfl rfl (fun r (hr:r=_)=>?_)
  subst hr
  conv=>whnf
  refine bS (fun h3=>?_) (fun h3=>?_)
  ·conv=>whnf
   exact⟨(e,true),(meets_id (by(repeat' apply And.intro)<;>first|rfl|exact True.intro|(intro hh;cases hh))),by rw[takeallR _ _ hq,h1,h3];simp,by rw[take_any _ _ hq,h3];simp⟩
  ·conv=>whnf
   exact⟨(false,o),(meets_id (by(repeat' apply And.intro)<;>first|rfl|exact True.intro|(intro hh;cases hh))),by rw[takeallR _ _ hq,h3];simp,by rw[take_any _ _ hq,h2,h3];simp⟩
 ·rintro⟨e,o⟩ ⟨h1,h2⟩
  have hlen:(s.sides.map pairAV).length=s.sides.length:=by simp
  rw[hlen,List.take_length]at h1 h2
  simp only at h1 h2
  subst h1 h2
  (conv=>whnf);(repeat' (first|(refine bT ?_;conv=>whnf)|(refine bF ?_;conv=>whnf)|(refine bN ?_)|(refine bD (fun hh=>?_) (fun hh=>?_)<;>(conv=>whnf))|(refine bEq (fun hh=>?_) (fun hh=>?_)<;>(conv=>whnf))|(refine bNe (fun hh=>?_) (fun hh=>?_)<;>(conv=>whnf))|(refine(k65 _ _).callq rfl rfl (fun r (hr:r=_)=>?_);subst hr;conv=>whnf)|(refine wIn (by omega) ?_;conv=>whnf)|(refine nI (by omega) ?_;conv=>whnf)))
  all_goals rfl
theorem k59_2(s:Sec)(hok:s.ok)(h:FuncId)(a b:List AV)(p:Int->Int->Bool)
  (hg:∀x y,(s.al<=x/\x<=s.ah)->(s.sl<=y/\y<=s.sh)->FnV Try.prog (.fn h [.ipt a, .ipt b]) [.int .i64 x, .int .i64 y] (· = .bool (p x y))):FnA Try.prog 106 [.agg s.av, .fn h [.ipt a, .ipt b]] (· = .int .i64 (knw s p)):=by
 refine fnA 4 ok106 (by simp) ?_
 (conv=>whnf);(repeat' (first|(refine bT ?_;conv=>whnf)|(refine bF ?_;conv=>whnf)|(refine bN ?_)|(refine bD (fun hh=>?_) (fun hh=>?_)<;>(conv=>whnf))|(refine bEq (fun hh=>?_) (fun hh=>?_)<;>(conv=>whnf))|(refine bNe (fun hh=>?_) (fun hh=>?_)<;>(conv=>whnf))|(refine(k75 s).callzq rfl rfl (fun r (hr:r=_)=>?_);subst hr;conv=>whnf)|(refine wIn (by omega) ?_;conv=>whnf)|(refine nI (by omega) ?_;conv=>whnf)))
 refine rng_i (α :=Bool × Bool) (s.sides.map pairAV) [0,1,2,3] [(2, .own 0 0),(3, .own 1 0),(5, .own 2 0),(6, .own 3 0)] (fun x=>[.box false s.av, .box false [.fn h [.ipt a, .ipt b]], .box false [.bool x.1], .box false [.bool x.2]])
  (fun k x=>x.1=(s.sides.take k).all (fun q=>p q.1 q.2)/\x.2=(s.sides.take k).any (fun q=>p q.1 q.2)) (true,false) rfl rfl rfl bd162 (i83 s hok) rfl (meets_id (by(repeat' apply And.intro)<;>first|rfl|exact True.intro|(intro hh;cases hh))) rfl ⟨by simp,by simp⟩ (fun v hv=>by obtain⟨q,_,rfl⟩:=List.mem_map.1 hv;rfl) ?_ ?_
 ·rintro k v ⟨e,o⟩ hv ⟨h1,h2⟩
  obtain⟨q,hq,rfl⟩:∃q,s.sides[k]?=some q/\pairAV q=v:=by simpa using hv
  have hm:=mem_sides.1 (List.mem_of_getElem? hq)
  simp only at h1 h2
  conv=>whnf
  refine(hg q.1 q.2 hm.1 hm.2).vcallq rfl rfl rfl rfl (fun r (hr:r=_)=>?_)
  subst hr
  conv=>whnf
  refine bS (fun h3=>?_) (fun h3=>?_)
  ·conv=>whnf
   exact⟨(e,true),(meets_id (by(repeat' apply And.intro)<;>first|rfl|exact True.intro|(intro hh;cases hh))),by rw[takeallR _ _ hq,h1,h3];simp,by rw[take_any _ _ hq,h3];simp⟩
  ·conv=>whnf
   exact⟨(false,o),(meets_id (by(repeat' apply And.intro)<;>first|rfl|exact True.intro|(intro hh;cases hh))),by rw[takeallR _ _ hq,h3];simp,by rw[take_any _ _ hq,h2,h3];simp⟩
 ·rintro⟨e,o⟩ ⟨h1,h2⟩
  have hlen:(s.sides.map pairAV).length=s.sides.length:=by simp
  rw[hlen,List.take_length]at h1 h2
  simp only at h1 h2
  subst h1 h2
  (conv=>whnf);(repeat' (first|(refine bT ?_;conv=>whnf)|(refine bF ?_;conv=>whnf)|(refine bN ?_)|(refine bD (fun hh=>?_) (fun hh=>?_)<;>(conv=>whnf))|(refine bEq (fun hh=>?_) (fun hh=>?_)<;>(conv=>whnf))|(refine bNe (fun hh=>?_) (fun hh=>?_)<;>(conv=>whnf))|(refine(k65 _ _).callq rfl rfl (fun r (hr:r=_)=>?_);subst hr;conv=>whnf)|(refine wIn (by omega) ?_;conv=>whnf)|(refine nI (by omega) ?_;conv=>whnf)))
  all_goals rfl
abbrev FF:=(Int × Int) × (Int × Int)
def cstep(d:Int)(x:FF)(q:Int × Int):FF:=
 (if cosN d q.1 q.2*x.1.2<x.1.1*cosD d q.1 then(cosN d q.1 q.2,cosD d q.1) else x.1,
  if x.2.1*cosD d q.1<cosN d q.1 q.2*x.2.2 then(cosN d q.1 q.2,cosD d q.1) else x.2)
def cosF(s:Sec)(d:Int):FF:=s.sides.foldl (cstep d) ((cosN d s.al s.sl,cosD d s.al),(cosN d s.al s.sl,cosD d s.al))
def fbd(q:Int × Int):Prop:=(-40000000<=q.1/\q.1<=40000000)/\0<=q.2/\q.2<=24000000
theorem cos_fbd{s:Sec}(hok:s.ok){d:Int}(hd:0<=d/\d<=6000){q:Int × Int}(hq:q∈s.sides):fbd (cosN d q.1 q.2,cosD d q.1):=by
 have hm:=mem_sides.1 hq
 have h1:=hok.1
 have h2:=hok.2.1
 unfold okSpan at h1 h2
 have h3:=cosN_bd (d:=d) (a:=q.1) (t:=q.2) hd (by omega) (by omega)
 have h4:=cosD_bd (d:=d) (a:=q.1) hd (by omega)
 unfold fbd;omega
theorem k57(s:Sec)(d:Int)(hok:s.ok)(hd:0<=d/\d<=6000):FnA Try.prog 103 [.agg s.av, .int .i64 d] (· = .tup [.agg [.int .i64 (cosF s d).1.1, .int .i64 (cosF s d).1.2], .agg [.int .i64 (cosF s d).2.1, .int .i64 (cosF s d).2.2]]):=by
 have h1:=hok.1
 have h2:=hok.2.1
 unfold okSpan at h1 h2
 have h0:(s.al,s.sl)∈s.sides:=mem_sides.2 ⟨⟨by simp,by simp;omega⟩,by simp,by simp;omega⟩
 have hf0:=cos_fbd hok hd h0
 refine fnA 5 ok103 (by simp) ?_
 (conv=>whnf);(repeat' (first|(refine bT ?_;conv=>whnf)|(refine bF ?_;conv=>whnf)|(refine bN ?_)|(refine bD (fun hh=>?_) (fun hh=>?_)<;>(conv=>whnf))|(refine bEq (fun hh=>?_) (fun hh=>?_)<;>(conv=>whnf))|(refine bNe (fun hh=>?_) (fun hh=>?_)<;>(conv=>whnf))|(refine(k74 _ _ _ hd (by omega) (by omega)).callq rfl rfl (fun r (hr:r=_)=>?_);subst hr;conv=>whnf)|(refine(k75 s).callzq rfl rfl (fun r (hr:r=_)=>?_);subst hr;conv=>whnf)|(refine wIn (by omega) ?_;conv=>whnf)|(refine nI (by omega) ?_;conv=>whnf)))
 refine rng_i (α :=FF) (s.sides.map pairAV) [0,1,2,3] [(2, .own 0 0),(3, .own 1 0),(4, .own 2 0),(5, .own 3 0)] (fun x=>[.box false s.av, .box false [.int .i64 d], .box false [.int .i64 x.1.1, .int .i64 x.1.2], .box false [.int .i64 x.2.1, .int .i64 x.2.2], .fresh])
  (fun k x=>x=(s.sides.take k).foldl (cstep d) ((cosN d s.al s.sl,cosD d s.al),(cosN d s.al s.sl,cosD d s.al))/\fbd x.1/\fbd x.2) ((cosN d s.al s.sl,cosD d s.al),(cosN d s.al s.sl,cosD d s.al)) rfl rfl rfl bd162 (i83 s hok) rfl (meets_id (by(repeat' apply And.intro)<;>first|rfl|exact True.intro|(intro hh;cases hh))) rfl ⟨by simp,hf0,hf0⟩ (fun v hv=>by obtain⟨q,_,rfl⟩:=List.mem_map.1 hv;rfl) ?_ ?_
 ·rintro k v ⟨⟨ln,ld⟩,hn,hd'⟩ hv ⟨h3,h4,h5⟩
  obtain⟨q,hq,rfl⟩:∃q,s.sides[k]?=some q/\pairAV q=v:=by simpa using hv
  have hqm:=List.mem_of_getElem? hq
  have hm:=mem_sides.1 hqm
  have hc:=cos_fbd hok hd hqm
  have hst:(s.sides.take (k+1)).foldl (cstep d) ((cosN d s.al s.sl,cosD d s.al),(cosN d s.al s.sl,cosD d s.al))=cstep d ((ln,ld),(hn,hd')) q:=by
   obtain⟨hk,rfl⟩:=List.getElem?_eq_some_iff.1 hq
   rw[List.take_succ_eq_append_getElem hk,List.foldl_append,<- h3];rfl
  clear h3
  simp only[fbd]at h4 h5 hc
  have m1:=mul_ab 40000000 24000000 hc.1.1 hc.1.2 h4.2.1 h4.2.2
  have m2:=mul_ab 40000000 24000000 h4.1.1 h4.1.2 hc.2.1 hc.2.2
  have m3:=mul_ab 40000000 24000000 h5.1.1 h5.1.2 hc.2.1 hc.2.2
  have m4:=mul_ab 40000000 24000000 hc.1.1 hc.1.2 h5.2.1 h5.2.2
  (conv=>whnf);(repeat' (first|(refine bT ?_;conv=>whnf)|(refine bF ?_;conv=>whnf)|(refine bN ?_)|(refine bD (fun hh=>?_) (fun hh=>?_)<;>(conv=>whnf))|(refine bEq (fun hh=>?_) (fun hh=>?_)<;>(conv=>whnf))|(refine bNe (fun hh=>?_) (fun hh=>?_)<;>(conv=>whnf))|(refine(k74 _ _ _ hd (by omega) (by omega)).callq rfl rfl (fun r (hr:r=_)=>?_);subst hr;conv=>whnf)|(refine(k76 (cosN d q.1 q.2) (cosD d q.1) ln ld (by omega) (by omega)).callq rfl rfl (fun r (hr:r=_)=>?_);subst hr;conv=>whnf)|(refine(k76 hn hd' (cosN d q.1 q.2) (cosD d q.1) (by omega) (by omega)).callq rfl rfl (fun r (hr:r=_)=>?_);subst hr;conv=>whnf)|(refine wIn (by omega) ?_;conv=>whnf)|(refine nI (by omega) ?_;conv=>whnf)))
  ·rename_i b1
   exact⟨((cosN d q.1 q.2,cosD d q.1),(cosN d q.1 q.2,cosD d q.1)),(meets_id (by(repeat' apply And.intro)<;>first|rfl|exact True.intro|(intro hh;cases hh))),by rw[hst];simp[cstep,b1,hh],hc,hc⟩
  ·rename_i b1
   exact⟨((cosN d q.1 q.2,cosD d q.1),(hn,hd')),(meets_id (by(repeat' apply And.intro)<;>first|rfl|exact True.intro|(intro hh;cases hh))),by rw[hst];simp only[cstep,b1,hh,if_true,if_false],hc,h5⟩
  ·rename_i b1
   exact⟨((ln,ld),(cosN d q.1 q.2,cosD d q.1)),(meets_id (by(repeat' apply And.intro)<;>first|rfl|exact True.intro|(intro hh;cases hh))),by rw[hst];simp only[cstep,b1,hh,if_true,if_false],h4,hc⟩
  ·rename_i b1
   exact⟨((ln,ld),(hn,hd')),(meets_id (by(repeat' apply And.intro)<;>first|rfl|exact True.intro|(intro hh;cases hh))),by rw[hst];simp only[cstep,b1,hh,if_true,if_false],h4,h5⟩
 ·rintro x ⟨h3,_,_⟩
  have hlen:(s.sides.map pairAV).length=s.sides.length:=by simp
  rw[hlen,List.take_length]at h3
  have h3:x=cosF s d:=h3
  subst h3
  (conv=>whnf);(repeat' (first|(refine bT ?_;conv=>whnf)|(refine bF ?_;conv=>whnf)|(refine bN ?_)|(refine bD (fun hh=>?_) (fun hh=>?_)<;>(conv=>whnf))|(refine bEq (fun hh=>?_) (fun hh=>?_)<;>(conv=>whnf))|(refine bNe (fun hh=>?_) (fun hh=>?_)<;>(conv=>whnf))|(refine wIn (by omega) ?_;conv=>whnf)|(refine nI (by omega) ?_;conv=>whnf)))
  all_goals rfl
def bind(d a t en ed:Int):Bool:=decide (d=0)||(!decide (cosN d a t*ed<(ed-en)*cosD d a) || !decide ((0-(ed-en))*cosD d a<cosN d a t*ed))
theorem k78(d a t en ed:Int)(hd:0<=d/\d<=6000)(ha:0<=a/\a<=2000)(ht:0<=t/\t<=2000)(he:okPart en ed):FnA Try.prog 147 [.int .i64 a, .int .i64 t, .ipt [.int .i64 d], .ipt [.int .i64 (ed-en), .int .i64 ed], .ipt [.int .i64 (0-(ed-en)), .int .i64 ed]] (· = .bool (bind d a t en ed)):=by
 have h1:=cosN_bd hd ha ht
 have h2:=cosD_bd hd ha
 unfold okPart at he
 have m1:=mul_ab (a:=cosN d a t) 40000000 20 (by omega) (by omega) (show 0<=ed by omega) (by omega)
 have m2:=mul_ab (a:=ed-en) 20 24000000 (by omega) (by omega) h2.1 h2.2
 have m3:=mul_ab (a:=0-(ed-en)) 20 24000000 (by omega) (by omega) h2.1 h2.2
 refine fnA 2 ok147 (by simp) ?_
 (conv=>whnf);(repeat' (first|(refine bT ?_;conv=>whnf)|(refine bF ?_;conv=>whnf)|(refine bN ?_)|(refine bD (fun hh=>?_) (fun hh=>?_)<;>(conv=>whnf))|(refine bEq (fun hh=>?_) (fun hh=>?_)<;>(conv=>whnf))|(refine bNe (fun hh=>?_) (fun hh=>?_)<;>(conv=>whnf))|(refine(k74 _ _ _ hd ha ht).callq rfl rfl (fun r (hr:r=_)=>?_);subst hr;conv=>whnf)|(refine(k76 (cosN d a t) (cosD d a) (ed-en) ed (by omega) (by omega)).callq rfl rfl (fun r (hr:r=_)=>?_);subst hr;conv=>whnf)|(refine(k76 (0-(ed-en)) ed (cosN d a t) (cosD d a) (by omega) (by omega)).callq rfl rfl (fun r (hr:r=_)=>?_);subst hr;conv=>whnf)|(refine wIn (by omega) ?_;conv=>whnf)|(refine nI (by omega) ?_;conv=>whnf)))
 all_goals (unfold bind;simp[*])
 all_goals (rename_i hh;simpa using hh)
theorem v78(d en ed a t:Int)(hd:0<=d/\d<=6000)(ha:0<=a/\a<=2000)(ht:0<=t/\t<=2000)(he:okPart en ed):FnV Try.prog (.fn 147 [.ipt [.int .i64 d], .ipt [.int .i64 (ed-en), .int .i64 ed], .ipt [.int .i64 (0-(ed-en)), .int .i64 ed]]) [.int .i64 a, .int .i64 t] (· = .bool (bind d a t en ed)):=
 fnV_of bd147 (k78 d a t en ed hd ha ht he)
theorem k60(f:Frm)(i:Nat)(r:Int)(hok:f.ok)(hi:i<f.ss.length)(h0:0<=r)(h1:r<=2000):FnA Try.prog 109 [.agg f.cells, .int .i64 i, .int .i64 r] (· = .fn 147 [.ipt [.int .i64 (f.dist i r)], .ipt [.int .i64 (f.ed-f.en), .int .i64 f.ed], .ipt [.int .i64 (0-(f.ed-f.en)), .int .i64 f.ed]]):=by
 have he:=hok.2.2.2.2.1
 unfold okPart at he
 refine fnA 4 ok109 (by simp) ?_
 (conv=>whnf);(repeat' (first|(refine bT ?_;conv=>whnf)|(refine bF ?_;conv=>whnf)|(refine bN ?_)|(refine bD (fun hh=>?_) (fun hh=>?_)<;>(conv=>whnf))|(refine bEq (fun hh=>?_) (fun hh=>?_)<;>(conv=>whnf))|(refine bNe (fun hh=>?_) (fun hh=>?_)<;>(conv=>whnf))|(refine(k53 f i r hok hi h0 h1).callq rfl rfl (fun r (hr:r=_)=>?_);subst hr;conv=>whnf)|(refine wIn (by omega) ?_;conv=>whnf)|(refine nI (by omega) ?_;conv=>whnf)))
 all_goals rfl
instance:Inhabited Sec:=⟨⟨0,0,0,0,0,0,0⟩⟩
theorem sec_ok{f:Frm}(hok:f.ok){i:Nat}(hi:i<f.ss.length):(f.ss[i]).ok:=hok.2.2.1 _ (List.getElem_mem hi)
theorem pos_ok{f:Frm}{i r:Int}(h:f.pos i r=0):f.ok/\(0<=i/\i<f.ss.length)/\f.lo<=r/\r<=f.hi/\1<=r/\r<=2000:=by
 unfold Frm.pos at h
 split at h
 ·rename_i hok
  split at h
  ·rename_i h2
   have h3:=hok.2.2.2.1
   unfold okSpan at h3
   exact⟨hok,h2.1,h2.2.1,h2.2.2,by omega,by omega⟩
  ·cases h
 ·cases h
theorem pos_zero{f:Frm}{i r:Int}(hok:f.ok)(hi:0<=i/\i<f.ss.length)(hr:f.lo<=r/\r<=f.hi):f.pos i r=0:=by
 unfold Frm.pos;rw[if_pos hok,if_pos ⟨hi,hr⟩]
def Frm.bnd(f:Frm)(i:Nat)(r:Int):Int:=knw (f.ss.getD i default) (fun a t=>bind (f.dist i r) a t f.en f.ed)
theorem k20(f:Frm)(i:Nat)(r:Int)(h:f.pos i r=0):FnA Try.prog 63 [.agg f.cells, .int .i64 i, .int .i64 r] (· = .tup [.int .i64 (f.bnd i r), .int .i64 0]):=by
 obtain⟨hok,hi,h1,h2,h3,h4⟩:=pos_ok h
 have hi':i<f.ss.length:=by omega
 have hL:(f.ss.map Sec.av).length=f.ss.length:=by simp
 have hs:=sec_ok hok hi'
 have hd:=Frm.dist_bd hok i (show 0<=r by omega) h4
 have he:=hok.2.2.2.2.1
 have hsec:f.ss.getD i default=f.ss[i]:=by simp[List.getD_eq_getElem?_getD,hi']
 refine fnA 2 ok63 (by simp) ?_
 (conv=>whnf);(repeat' (first|(refine bT ?_;conv=>whnf)|(refine bF ?_;conv=>whnf)|(refine bN ?_)|(refine bD (fun hh=>?_) (fun hh=>?_)<;>(conv=>whnf))|(refine bEq (fun hh=>?_) (fun hh=>?_)<;>(conv=>whnf))|(refine bNe (fun hh=>?_) (fun hh=>?_)<;>(conv=>whnf))|(refine(k52 f _ _).callq rfl rfl (fun r (hr:r=_)=>?_);subst hr;conv=>whnf)|(refine wIn (by omega) ?_;conv=>whnf)|(refine nI (by omega) ?_;conv=>whnf)))
 all_goals (first|exact absurd h (by assumption)|skip)
 refine iaI (by omega) (by omega) (getD_map Sec.av f.ss i hi') ?_
 (conv=>whnf);(repeat' (first|(refine bT ?_;conv=>whnf)|(refine bF ?_;conv=>whnf)|(refine bN ?_)|(refine bD (fun hh=>?_) (fun hh=>?_)<;>(conv=>whnf))|(refine bEq (fun hh=>?_) (fun hh=>?_)<;>(conv=>whnf))|(refine bNe (fun hh=>?_) (fun hh=>?_)<;>(conv=>whnf))|(refine(k60 f i r hok hi' (by omega) h4).callzq rfl rfl (fun r (hr:r=_)=>?_);subst hr;conv=>whnf)|(refine(k59_3 f.ss[i] hs 147 _ _ _ (fun a t=>bind (f.dist i r) a t f.en f.ed) (fun x y hx hy=>v78 _ _ _ _ _ hd (by have:=hs.1;unfold okSpan at this;omega) (by have:=hs.2.1;unfold okSpan at this;omega) he)).callq rfl rfl (fun r (hr:r=_)=>?_);subst hr;conv=>whnf)|(refine wIn (by omega) ?_;conv=>whnf)|(refine nI (by omega) ?_;conv=>whnf)))
 all_goals (unfold Frm.bnd;rw[hsec])
theorem cosF_mem(s:Sec)(d:Int)(h0:(s.al,s.sl)∈s.sides):(∃q∈s.sides,(cosF s d).1=(cosN d q.1 q.2,cosD d q.1))/\∃q∈s.sides,(cosF s d).2=(cosN d q.1 q.2,cosD d q.1):=by
 have key:∀(l:List (Int × Int)) (x:FF),(∀q∈l,q∈s.sides)->(∃q∈s.sides,x.1=(cosN d q.1 q.2,cosD d q.1))->(∃q∈s.sides,x.2=(cosN d q.1 q.2,cosD d q.1))->(∃q∈s.sides,(l.foldl (cstep d) x).1=(cosN d q.1 q.2,cosD d q.1))/\∃q∈s.sides,(l.foldl (cstep d) x).2=(cosN d q.1 q.2,cosD d q.1):=by
  intro l
  induction l with
  |nil=>intro x _ h1 h2;exact⟨h1,h2⟩
  |cons q l ih=>
   intro x hl h1 h2
   refine ih _ (fun q hq=>hl q (by simp[hq])) ?_ ?_
   ·simp only[cstep];split
    ·exact⟨q,hl q (by simp),rfl⟩
    ·exact h1
   ·simp only[cstep];split
    ·exact⟨q,hl q (by simp),rfl⟩
    ·exact h2
 exact key s.sides _ (fun _ h=>h) ⟨_,h0,rfl⟩ ⟨_,h0,rfl⟩
theorem fst_side{s:Sec}(hok:s.ok):(s.al,s.sl)∈s.sides:=by
 have h1:=hok.1
 have h2:=hok.2.1
 unfold okSpan at h1 h2
 exact mem_sides.2 ⟨⟨by simp,by simp;omega⟩,by simp,by simp;omega⟩
theorem cos_rbd{s:Sec}(hok:s.ok){d:Int}(hd:1<=d/\d<=6000){q:Int × Int}(hq:q∈s.sides):(-100000000<=cosN d q.1 q.2/\cosN d q.1 q.2<=100000000)/\1<=cosD d q.1/\cosD d q.1<=100000000:=by
 have h:=cos_fbd hok (d:=d) (by omega) hq
 have hm:=mem_sides.1 hq
 have h1:=hok.1
 unfold okSpan at h1
 have h2:1*1<=d*q.1:=Int.mul_le_mul hd.1 (by omega) (by omega) (by omega)
 unfold fbd at h
 have h3:cosD d q.1=2*(d*q.1):=by unfold cosD;rw[Int.mul_assoc]
 omega
theorem cosF_bd{s:Sec}(hok:s.ok){d:Int}(hd:1<=d/\d<=6000):((-100000000<=(cosF s d).1.1/\(cosF s d).1.1<=100000000)/\1<=(cosF s d).1.2/\(cosF s d).1.2<=100000000)/\(-100000000<=(cosF s d).2.1/\(cosF s d).2.1<=100000000)/\1<=(cosF s d).2.2/\(cosF s d).2.2<=100000000:=by
 obtain⟨⟨q,hq,e⟩,⟨q',hq',e'⟩⟩:=cosF_mem s d (fst_side hok)
 rw[e,e']
 exact⟨cos_rbd hok hd hq,cos_rbd hok hd hq'⟩
def fz:AV:=.agg [.int .i64 0, .int .i64 0]
def fr(q:Int × Int):AV:=.agg [.int .i64 (redN q.1 q.2), .int .i64 (redD q.1 q.2)]
theorem k18(f:Frm)(i:Nat)(r:Int)(h:f.pos i r=0):FnA Try.prog 60 [.agg f.cells, .int .i64 i, .int .i64 r] (· = if f.dist i r=0 then .tup [fz,fz, .int .i64 3] else .tup [fr (cosF (f.ss.getD i default) (f.dist i r)).1,fr (cosF (f.ss.getD i default) (f.dist i r)).2, .int .i64 0]):=by
 obtain⟨hok,hi,h1,h2,h3,h4⟩:=pos_ok h
 have hi':i<f.ss.length:=by omega
 have hL:(f.ss.map Sec.av).length=f.ss.length:=by simp
 have hs:=sec_ok hok hi'
 have hd:=Frm.dist_bd hok i (show 0<=r by omega) h4
 have hsec:f.ss.getD i default=f.ss[i]:=by simp[List.getD_eq_getElem?_getD,hi']
 rw[hsec]
 refine fnA 3 ok60 (by simp) ?_
 (conv=>whnf);(repeat' (first|(refine bT ?_;conv=>whnf)|(refine bF ?_;conv=>whnf)|(refine bN ?_)|(refine bD (fun hh=>?_) (fun hh=>?_)<;>(conv=>whnf))|(refine bEq (fun hh=>?_) (fun hh=>?_)<;>(conv=>whnf))|(refine bNe (fun hh=>?_) (fun hh=>?_)<;>(conv=>whnf))|(refine(k52 f _ _).callq rfl rfl (fun r (hr:r=_)=>?_);subst hr;conv=>whnf)|(refine(k53 f i r hok hi' (by omega) h4).callq rfl rfl (fun r (hr:r=_)=>?_);subst hr;conv=>whnf)|(refine wIn (by omega) ?_;conv=>whnf)|(refine nI (by omega) ?_;conv=>whnf)))
 all_goals (first|exact absurd h (by assumption)|skip)
 ·rw[if_pos (by assumption)];rfl
 ·have hne:f.dist i r≠0:=by assumption
  have hb:=cosF_bd hs (d:=f.dist i r) (by omega)
  refine iaI (by omega) (by omega) (getD_map Sec.av f.ss i hi') ?_
  (conv=>whnf);(repeat' (first|(refine bT ?_;conv=>whnf)|(refine bF ?_;conv=>whnf)|(refine bN ?_)|(refine bD (fun hh=>?_) (fun hh=>?_)<;>(conv=>whnf))|(refine bEq (fun hh=>?_) (fun hh=>?_)<;>(conv=>whnf))|(refine bNe (fun hh=>?_) (fun hh=>?_)<;>(conv=>whnf))|(refine(k57 f.ss[i] _ hs hd).callq rfl rfl (fun r (hr:r=_)=>?_);subst hr;conv=>whnf)|(refine(k58 _ _ hb.1.1 hb.1.2).callq rfl rfl (fun r (hr:r=_)=>?_);subst hr;conv=>whnf)|(refine(k58 _ _ hb.2.1 hb.2.2).callq rfl rfl (fun r (hr:r=_)=>?_);subst hr;conv=>whnf)|(refine wIn (by omega) ?_;conv=>whnf)|(refine nI (by omega) ?_;conv=>whnf)))
  all_goals (rw[if_neg hne];rfl)
theorem k50(n lo hi:Int):FnA Try.prog 98 [.int .i64 n, .int .i64 lo, .int .i64 hi] (· = .bool (decide (lo<=n/\n<=hi))):=by
 refine fnA 2 ok98 (by simp) ?_
 (conv=>whnf);(repeat' (first|(refine bT ?_;conv=>whnf)|(refine bF ?_;conv=>whnf)|(refine bN ?_)|(refine bD (fun hh=>?_) (fun hh=>?_)<;>first|(exfalso;omega)|(conv=>whnf))|(refine bEq (fun hh=>?_) (fun hh=>?_)<;>first|(exfalso;omega)|(conv=>whnf))|(refine bNe (fun hh=>?_) (fun hh=>?_)<;>first|(exfalso;omega)|(conv=>whnf))|(refine wIn (by omega) ?_;conv=>whnf)|(refine nI (by omega) ?_;conv=>whnf)))
 all_goals first|rfl|exact congrArg AV.bool (decide_eq_decide.2 (by omega))|exact congrArg AV.bool (decide_eq_true (by omega)).symm|exact congrArg AV.bool (decide_eq_false (by omega)).symm
theorem k49(a b:Int):FnA Try.prog 97 [.agg [.int .i64 a, .int .i64 b]] (· = .bool (decide (okSpan a b 6))):=by
 refine fnA 2 ok97 (by simp) ?_
 unfold okSpan
 (conv=>whnf);(repeat' (first|(refine bT ?_;conv=>whnf)|(refine bF ?_;conv=>whnf)|(refine bN ?_)|(refine bD (fun hh=>?_) (fun hh=>?_)<;>first|(exfalso;omega)|(conv=>whnf))|(refine bEq (fun hh=>?_) (fun hh=>?_)<;>first|(exfalso;omega)|(conv=>whnf))|(refine bNe (fun hh=>?_) (fun hh=>?_)<;>first|(exfalso;omega)|(conv=>whnf))|(refine(k50 _ _ _).callq rfl rfl (fun r (hr:r=_)=>?_);subst hr;conv=>whnf)|(refine wIn (by omega) ?_;conv=>whnf)|(refine nI (by omega) ?_;conv=>whnf)))
 all_goals first|rfl|exact congrArg AV.bool (decide_eq_decide.2 (by omega))|exact congrArg AV.bool (decide_eq_true (by omega)).symm|exact congrArg AV.bool (decide_eq_false (by omega)).symm
theorem k51(a b:Int):FnA Try.prog 99 [.agg [.int .i64 a, .int .i64 b]] (· = .bool (decide (okPart a b))):=by
 refine fnA 2 ok99 (by simp) ?_
 unfold okPart
 (conv=>whnf);(repeat' (first|(refine bT ?_;conv=>whnf)|(refine bF ?_;conv=>whnf)|(refine bN ?_)|(refine bD (fun hh=>?_) (fun hh=>?_)<;>first|(exfalso;omega)|(conv=>whnf))|(refine bEq (fun hh=>?_) (fun hh=>?_)<;>first|(exfalso;omega)|(conv=>whnf))|(refine bNe (fun hh=>?_) (fun hh=>?_)<;>first|(exfalso;omega)|(conv=>whnf))|(refine(k50 _ _ _).callq rfl rfl (fun r (hr:r=_)=>?_);subst hr;conv=>whnf)|(refine wIn (by omega) ?_;conv=>whnf)|(refine nI (by omega) ?_;conv=>whnf)))
 all_goals first|rfl|exact congrArg AV.bool (decide_eq_decide.2 (by omega))|exact congrArg AV.bool (decide_eq_true (by omega)).symm|exact congrArg AV.bool (decide_eq_false (by omega)).symm
theorem k15(f:Frm)(hn:f.ss.length<=1000000000000):FnA Try.prog 56 [.agg f.cells] (· = .int .i64 (if f.ok then 0 else 10)):=by
 have hL:(f.ss.map Sec.av).length=f.ss.length:=by simp
 refine fnA 2 ok56 (by simp) ?_
 (conv=>whnf);(repeat' (first|(refine bT ?_;conv=>whnf)|(refine bF ?_;conv=>whnf)|(refine bN ?_)|(refine bD (fun hh=>?_) (fun hh=>?_)<;>(conv=>whnf))|(refine bEq (fun hh=>?_) (fun hh=>?_)<;>(conv=>whnf))|(refine bNe (fun hh=>?_) (fun hh=>?_)<;>(conv=>whnf))|(refine wIn (by omega) ?_;conv=>whnf)|(refine nI (by omega) ?_;conv=>whnf)))
 refine loop_i (α :=Nat) (fun k=>[(3, .int .i64 k),(1, .own 0 0)]) (fun k=>[.box false f.cells, .fresh]) (fun k=>k<=f.ss.length/\∀s∈f.ss.take k,s.ok) (fun k=>f.ss.length-k) 0 (meets_id (by(repeat' apply And.intro)<;>first|rfl|exact True.intro|(intro hh;cases hh))) ⟨by omega,by simp⟩ ?_
 rintro k ⟨h1,h2⟩
 conv=>whnf
 refine bD (fun h3=>?_) (fun h3=>?_)
 ·conv=>whnf
  have hk:k<f.ss.length:=by omega
  refine iaI (by omega) (by omega) (getD_map Sec.av f.ss k hk) ?_
  generalize hsk:f.ss[k]=s
  have hms:s∈f.ss:=hsk ▸ List.getElem_mem hk
  by_cases hs:s.ok
  ·obtain⟨s1,s2,s3,s4⟩:=hs
   (conv=>whnf);(repeat' (first|(refine bT ?_;conv=>whnf)|(refine bF ?_;conv=>whnf)|(refine bN ?_)|(refine bD (fun hh=>?_) (fun hh=>?_)<;>(conv=>whnf))|(refine bEq (fun hh=>?_) (fun hh=>?_)<;>(conv=>whnf))|(refine bNe (fun hh=>?_) (fun hh=>?_)<;>(conv=>whnf))|(refine(k49 _ _).callq rfl rfl (fun r (hr:r=_)=>?_);subst hr;conv=>whnf)|(refine(k51 _ _).callq rfl rfl (fun r (hr:r=_)=>?_);subst hr;conv=>whnf)|(refine(k50 _ _ _).callq rfl rfl (fun r (hr:r=_)=>?_);subst hr;conv=>whnf)|(refine wIn (by omega) ?_;conv=>whnf)|(refine nI (by omega) ?_;conv=>whnf)))
   all_goals first
    |exact absurd s1 (by assumption)
    |exact absurd s2 (by assumption)
    |exact absurd s3 (by assumption)
    |exact absurd s4 (by assumption)
    |skip
   refine⟨k+1,(meets_id (by(repeat' apply And.intro)<;>first|rfl|exact True.intro|(intro hh;cases hh))),⟨by omega,all_take hk h2 ?_⟩,by omega⟩
   rw[hsk];exact⟨s1,s2,s3,s4⟩
  ·have hno:¬f.ok:=fun h=>hs (h.2.2.1 s hms)
   rw[if_neg hno]
   (conv=>whnf);(repeat' (first|(refine bT ?_;conv=>whnf)|(refine bF ?_;conv=>whnf)|(refine bN ?_)|(refine bD (fun hh=>?_) (fun hh=>?_)<;>(conv=>whnf))|(refine bEq (fun hh=>?_) (fun hh=>?_)<;>(conv=>whnf))|(refine bNe (fun hh=>?_) (fun hh=>?_)<;>(conv=>whnf))|(refine(k49 _ _).callq rfl rfl (fun r (hr:r=_)=>?_);subst hr;conv=>whnf)|(refine(k51 _ _).callq rfl rfl (fun r (hr:r=_)=>?_);subst hr;conv=>whnf)|(refine(k50 _ _ _).callq rfl rfl (fun r (hr:r=_)=>?_);subst hr;conv=>whnf)|(refine wIn (by omega) ?_;conv=>whnf)|(refine nI (by omega) ?_;conv=>whnf)))
   all_goals first
    |rfl
    |(exfalso;refine hs ⟨?_,?_,?_,?_⟩<;>assumption)
 ·have e:k=f.ss.length:=by omega
  subst e
  rw[List.take_length]at h2
  have hiff:f.ok<->(1<=(f.ss.length:Int)/\(f.ss.length:Int)<=3)/\okSpan f.lo f.hi 200/\okPart f.en f.ed/\(0<=f.rod/\f.rod<=4000)/\(0<=f.cs/\f.cs<=4000):=⟨fun h=>⟨⟨by have:=h.1;omega,by have:=h.2.1;omega⟩,h.2.2.2⟩,fun h=>⟨by omega,by omega,h2,h.2⟩⟩
  clear h3 h1 h2
  simp only[hiff,okSpan]
  rw[<- hL]
  (conv=>whnf);(repeat' (first|(refine bT ?_;conv=>whnf)|(refine bF ?_;conv=>whnf)|(refine bN ?_)|(refine bD (fun hh=>?_) (fun hh=>?_)<;>first|(exfalso;omega)|(conv=>whnf))|(refine bEq (fun hh=>?_) (fun hh=>?_)<;>first|(exfalso;omega)|(conv=>whnf))|(refine bNe (fun hh=>?_) (fun hh=>?_)<;>first|(exfalso;omega)|(conv=>whnf))|(refine(k51 _ _).callq rfl rfl (fun r (hr:r=_)=>?_);subst hr;conv=>whnf)|(refine(k50 _ _ _).callq rfl rfl (fun r (hr:r=_)=>?_);subst hr;conv=>whnf)|(refine wIn (by omega) ?_;conv=>whnf)|(refine nI (by omega) ?_;conv=>whnf)))
  all_goals first
   |(rw[if_pos ⟨by assumption,by omega,by assumption,by assumption,by assumption⟩])
   |(rw[if_neg fun h=>?_];first|exact absurd h.2.2.1 (by assumption)|omega)
def Frm.np(f:Frm):Nat:=(f.hi+1-f.lo).toNat
def Frm.poss(f:Frm):List Int:=(List.range f.np).map fun k=>f.hi-(k:Nat)
def rAV(r:Int):List AV:=[.int .i64 r]
theorem poss_len(f:Frm):(f.poss.map rAV).length=f.np:=by simp[Frm.poss]
theorem poss_get(f:Frm)(k:Nat)(h:k<f.np):(f.poss.map rAV)[k]?=some [.int .i64 (f.hi-k)]:=by
 simp[Frm.poss,h,rAV]
theorem mem_poss{f:Frm}{r:Int}:r∈f.poss<->f.lo<=r/\r<=f.hi:=by
 simp only[Frm.poss,List.mem_map,List.mem_range,Frm.np]
 constructor
 ·rintro⟨k,hk,rfl⟩;omega
 ·intro h;exact⟨(f.hi-r).toNat,by omega,by omega⟩
theorem poss_k{f:Frm}{k:Nat}{r:Int}(h:f.poss[k]?=some r):f.lo<=r/\r<=f.hi/\r=f.hi-k:=by
 have h1:=mem_poss.1 (List.mem_of_getElem? h)
 have h2:k<f.np:=by
  have:=(List.getElem?_eq_some_iff.1 h).1
  simpa[Frm.poss]using this
 simp[Frm.poss,h2]at h
 exact⟨h1.1,h1.2,h.symm⟩
theorem i79(f:Frm)(hok:f.ok):ItA Try.prog 166 [.ipt f.cells] (f.poss.map rAV):=by
 have h1:=hok.2.2.2.1
 unfold okSpan at h1
 have hn:(f.np:Int)=f.hi+1-f.lo:=by unfold Frm.np;omega
 refine itA 2 ok166 (by simp) ?_
 conv=>whnf
 refine loop_y (α :=Nat) (fun i=>[(3, .int .i64 (f.hi-i)),(1, .ipt f.cells),(0, .yld)]) (fun i=>[.fresh, .fresh]) (fun i=>⟨[],i,false⟩) (fun i=>i<=f.np) (fun i=>f.np-i) 0 ?_ (by omega) ?_
 ·simp only[Int.natCast_zero,Int.sub_zero];exact(meets_id (by(repeat' apply And.intro)<;>first|rfl|exact True.intro|(intro hh;cases hh)))
 intro i hi
 conv=>whnf
 refine bD (fun h3=>?_) (fun h3=>?_)
 ·conv=>whnf
  refine yI rfl (poss_get f i (by omega)) rfl ?_ ?_
  ·conv=>whnf
   refine bN (bT ?_)
   conv=>whnf
   refine wIn (by omega) ?_
   refine⟨i+1,?_,by omega,by omega⟩
   simp only[Int.natCast_add,Int.natCast_one,<- Int.sub_sub]
   exact(meets_id (by(repeat' apply And.intro)<;>first|rfl|exact True.intro|(intro hh;cases hh)))
  ·conv=>whnf
   refine bN (bF ?_)
   conv=>whnf
   exact .inl rfl
 ·conv=>whnf
  right
  have:i=f.np:=by omega
  subst this
  rw[poss_len]
theorem k63(f:Frm):FnA Try.prog 146 [.agg f.cells] (· = .fn 166 [.ipt f.cells]):=by
 refine fnA 1 ok146 (by simp) ?_
 (conv=>whnf);(repeat' (first|(refine bT ?_;conv=>whnf)|(refine bF ?_;conv=>whnf)|(refine bN ?_)|(refine bD (fun hh=>?_) (fun hh=>?_)<;>(conv=>whnf))|(refine bEq (fun hh=>?_) (fun hh=>?_)<;>(conv=>whnf))|(refine bNe (fun hh=>?_) (fun hh=>?_)<;>(conv=>whnf))|(refine wIn (by omega) ?_;conv=>whnf)|(refine nI (by omega) ?_;conv=>whnf)))
 all_goals rfl
theorem k64(f:Frm)(i:Int):FnA Try.prog 107 [.agg f.cells, .int .i64 i] (· = .fn 145 [.ipt f.cells, .ipt [.int .i64 i]]):=by
 refine fnA 2 ok107 (by simp) ?_
 (conv=>whnf);(repeat' (first|(refine bT ?_;conv=>whnf)|(refine bF ?_;conv=>whnf)|(refine bN ?_)|(refine bD (fun hh=>?_) (fun hh=>?_)<;>(conv=>whnf))|(refine bEq (fun hh=>?_) (fun hh=>?_)<;>(conv=>whnf))|(refine bNe (fun hh=>?_) (fun hh=>?_)<;>(conv=>whnf))|(refine wIn (by omega) ?_;conv=>whnf)|(refine nI (by omega) ?_;conv=>whnf)))
 all_goals rfl
def Frm.bindsF(f:Frm)(i:Nat)(a t r:Int):Bool:=bind (f.dist i r) a t f.en f.ed
def Frm.smw(f:Frm)(i:Nat)(a t:Int):Bool:=f.poss.any (fun r=>f.bindsF i a t r)
theorem k80(f:Frm)(i:Nat)(a t:Int)(hok:f.ok)(hi:i<f.ss.length)(ha:0<=a/\a<=2000)(ht:0<=t/\t<=2000):FnA Try.prog 145 [.int .i64 a, .int .i64 t, .ipt f.cells, .ipt [.int .i64 i]] (· = .bool (f.smw i a t)):=by
 have h1:=hok.2.2.2.1
 unfold okSpan at h1
 have he:=hok.2.2.2.2.1
 refine fnA 3 ok145 (by simp) ?_
 (conv=>whnf);(repeat' (first|(refine bT ?_;conv=>whnf)|(refine bF ?_;conv=>whnf)|(refine bN ?_)|(refine bD (fun hh=>?_) (fun hh=>?_)<;>(conv=>whnf))|(refine bEq (fun hh=>?_) (fun hh=>?_)<;>(conv=>whnf))|(refine bNe (fun hh=>?_) (fun hh=>?_)<;>(conv=>whnf))|(refine(k63 f).callzq rfl rfl (fun r (hr:r=_)=>?_);subst hr;conv=>whnf)|(refine wIn (by omega) ?_;conv=>whnf)|(refine nI (by omega) ?_;conv=>whnf)))
 refine rng_i (α :=Unit) (f.poss.map rAV) [0,1,2] [(2, .ipt f.cells),(3, .ipt [.int .i64 i]),(4, .own 0 0),(5, .own 1 0),(6, .own 2 0)] (fun _=>[.box false [.int .i64 a], .box false [.int .i64 t], .box false [.bool false]])
  (fun k _=>(f.poss.take k).any (fun r=>f.bindsF i a t r)=false) () rfl rfl rfl bd166 (i79 f hok) rfl (meets_id (by(repeat' apply And.intro)<;>first|rfl|exact True.intro|(intro hh;cases hh))) rfl (by simp) (fun v hv=>by obtain⟨q,_,rfl⟩:=List.mem_map.1 hv;rfl) ?_ ?_
 ·rintro k v _ hv h2
  obtain⟨r,hr,rfl⟩:∃q,f.poss[k]?=some q/\rAV q=v:=by simpa using hv
  obtain⟨r1,r2,r3⟩:=poss_k hr
  have hd:=Frm.dist_bd hok i (show 0<=r by omega) (by omega)
  have htk:=take_any f.poss (fun r=>f.bindsF i a t r) hr
  rw[h2]at htk
  (conv=>whnf);(repeat' (first|(refine bT ?_;conv=>whnf)|(refine bF ?_;conv=>whnf)|(refine bN ?_)|(refine bD (fun hh=>?_) (fun hh=>?_)<;>(conv=>whnf))|(refine bEq (fun hh=>?_) (fun hh=>?_)<;>(conv=>whnf))|(refine bNe (fun hh=>?_) (fun hh=>?_)<;>(conv=>whnf))|(refine(k60 f i r hok hi (by omega) (by omega)).callzq rfl rfl (fun r (hr:r=_)=>?_);subst hr;conv=>whnf)|(refine wIn (by omega) ?_;conv=>whnf)|(refine nI (by omega) ?_;conv=>whnf)))
  refine(v78 (f.dist i r) f.en f.ed a t hd ha ht he).vcallq rfl rfl rfl rfl (fun x (hx:x=_)=>?_)
  subst hx
  conv=>whnf
  refine bS (fun h3=>?_) (fun h3=>?_)
  ·conv=>whnf
   refine⟨[.box false [.int .i64 a], .box false [.int .i64 t], .box false [.bool true]],(meets_id (by(repeat' apply And.intro)<;>first|rfl|exact True.intro|(intro hh;cases hh))),?_⟩
   conv=>whnf
   have:f.smw i a t=true:=List.any_eq_true.2 ⟨r,List.mem_of_getElem? hr,h3⟩
   rw[this]
  ·conv=>whnf
   exact⟨(),(meets_id (by(repeat' apply And.intro)<;>first|rfl|exact True.intro|(intro hh;cases hh))),by rw[htk];simpa[Frm.bindsF]using h3⟩
 ·rintro _ h2
  have:f.smw i a t=false:=by
   rw[poss_len]at h2
   have e:f.poss.take f.np=f.poss:=List.take_of_length_le (by simp[Frm.poss])
   rwa [e]at h2
  rw[this]
  (conv=>whnf);(repeat' (first|(refine bT ?_;conv=>whnf)|(refine bF ?_;conv=>whnf)|(refine bN ?_)|(refine bD (fun hh=>?_) (fun hh=>?_)<;>(conv=>whnf))|(refine bEq (fun hh=>?_) (fun hh=>?_)<;>(conv=>whnf))|(refine bNe (fun hh=>?_) (fun hh=>?_)<;>(conv=>whnf))|(refine wIn (by omega) ?_;conv=>whnf)|(refine nI (by omega) ?_;conv=>whnf)))
  all_goals rfl
def Frm.sec(f:Frm)(i:Nat):Sec:=f.ss.getD i default
theorem Frm.sec_eq{f:Frm}{i:Nat}(h:i<f.ss.length):f.sec i=f.ss[i]:=by simp[Frm.sec,List.getD_eq_getElem?_getD,h]
theorem Frm.sec_ok{f:Frm}(hok:f.ok){i:Nat}(h:i<f.ss.length):(f.sec i).ok:=by rw[Frm.sec_eq h];exact Go.Proofs.sec_ok hok h
theorem Frm.sec_get(f:Frm){i:Nat}(h:i<f.ss.length):(f.ss.map Sec.av).getD i []=(f.sec i).av:=by rw[Frm.sec_eq h];exact getD_map Sec.av f.ss i h
theorem side_bd{s:Sec}(h:s.ok){x y:Int}(hx:s.al<=x/\x<=s.ah)(hy:s.sl<=y/\y<=s.sh):(0<=x/\x<=2000)/\0<=y/\y<=2000:=by
 have h1:=h.1
 have h2:=h.2.1
 unfold okSpan at h1 h2
 omega
def Frm.someK(f:Frm)(i:Nat):Int:=knw (f.sec i) (f.smw i)
theorem k59s(f:Frm)(i:Nat)(hok:f.ok)(hi:i<f.ss.length):FnA Try.prog 106 [.agg (f.sec i).av, .fn 145 [.ipt f.cells, .ipt [.int .i64 i]]] (· = .int .i64 (f.someK i)):=
 k59_2 (f.sec i) (Frm.sec_ok hok hi) 145 _ _ _ fun x y hx hy=>fnV_of bd145 (k80 f i x y hok hi (side_bd (Frm.sec_ok hok hi) hx hy).1 (side_bd (Frm.sec_ok hok hi) hx hy).2)
theorem knw_123(s:Sec)(p:Int->Int->Bool):knw s p=1\/knw s p=2\/knw s p=3:=by
 unfold knw;split
 ·simp
 ·split<;>simp
theorem range_all(k:Nat)(p:Nat->Bool):(List.range (k+1)).all p=((List.range k).all p&&p k):=by
 rw[List.range_succ,List.all_append];simp
def Frm.opens(f:Frm):Int:=if (List.range f.ss.length).all (fun i=>decide (f.someK i=2)) then 1 else if (List.range f.ss.length).all (fun i=>decide (f.someK i≠1)) then 3 else 2
theorem k25(f:Frm)(hok:f.ok):FnA Try.prog 62 [.agg f.cells] (· = .tup [.int .i64 f.opens, .int .i64 0]):=by
 have hL:(f.ss.map Sec.av).length=f.ss.length:=by simp
 have h3:=hok.2.1
 have h0:(if f.ok then(0:Int) else 10)=0:=if_pos hok
 refine fnA 3 ok62 (by simp) ?_
 (conv=>whnf);(repeat' (first|(refine bT ?_;conv=>whnf)|(refine bF ?_;conv=>whnf)|(refine bN ?_)|(refine bD (fun hh=>?_) (fun hh=>?_)<;>first|(exfalso;omega)|(conv=>whnf))|(refine bEq (fun hh=>?_) (fun hh=>?_)<;>first|(exfalso;omega)|(conv=>whnf))|(refine bNe (fun hh=>?_) (fun hh=>?_)<;>first|(exfalso;omega)|(conv=>whnf))|(refine(k14 f).callq rfl rfl (fun r (hr:r=_)=>?_);subst hr;conv=>whnf)|(refine wIn (by omega) ?_;conv=>whnf)|(refine nI (by omega) ?_;conv=>whnf)))
 refine loop_i (α :=Nat × Bool × Bool) (fun x=>[(17, .int .i64 x.1),(16, .int .i64 ↑(f.ss.map Sec.av).length),(15, .isl (f.ss.map Sec.av)),(6, .bool x.2.2),(5, .bool x.2.1),(1, .own 0 0)]) (fun x=>[.box false f.cells, .fresh, .fresh])
  (fun x=>x.1<=f.ss.length/\x.2.1=(List.range x.1).all (fun i=>decide (f.someK i=2))/\x.2.2=(List.range x.1).all (fun i=>decide (f.someK i≠1))) (fun x=>f.ss.length-x.1) (0,true,true) (meets_id (by(repeat' apply And.intro)<;>first|rfl|exact True.intro|(intro hh;cases hh))) ⟨by simp,by simp,by simp⟩ ?_
 rintro⟨k,e,o⟩ ⟨h4,h5,h6⟩
 simp only at h4 h5 h6
 conv=>whnf
 refine bD (fun h7=>?_) (fun h7=>?_)
 ·conv=>whnf
  have hk:k<f.ss.length:=by omega
  refine iaI (by omega) (by omega) (f.sec_get hk) ?_
  (conv=>whnf);(repeat' (first|(refine bT ?_;conv=>whnf)|(refine bF ?_;conv=>whnf)|(refine bN ?_)|(refine bD (fun hh=>?_) (fun hh=>?_)<;>first|(exfalso;omega)|(conv=>whnf))|(refine bEq (fun hh=>?_) (fun hh=>?_)<;>first|(exfalso;omega)|(conv=>whnf))|(refine bNe (fun hh=>?_) (fun hh=>?_)<;>first|(exfalso;omega)|(conv=>whnf))|(refine(k64 f k).callzq rfl rfl (fun r (hr:r=_)=>?_);subst hr;conv=>whnf)|(refine(k59s f k hok hk).callq rfl rfl (fun r (hr:r=_)=>?_);subst hr;conv=>whnf)|(refine wIn (by omega) ?_;conv=>whnf)|(refine nI (by omega) ?_;conv=>whnf)))
  all_goals (have hra:=range_all k (fun i=>decide (f.someK i=2));have hrb:=range_all k (fun i=>decide (f.someK i≠1)))
  ·refine⟨(k+1,false,false),(meets_id (by(repeat' apply And.intro)<;>first|rfl|exact True.intro|(intro hh;cases hh))),⟨by simp;omega,?_,?_⟩,by simp;omega⟩
   ·simp only[hra];simp[*]
   ·simp only[hrb];simp[*]
  ·refine⟨(k+1,false,o),(meets_id (by(repeat' apply And.intro)<;>first|rfl|exact True.intro|(intro hh;cases hh))),⟨by simp;omega,?_,?_⟩,by simp;omega⟩
   ·simp only[hra];simp[*]
   ·simp only[hrb];simp[*]
  ·refine⟨(k+1,e,o),(meets_id (by(repeat' apply And.intro)<;>first|rfl|exact True.intro|(intro hh;cases hh))),⟨by simp;omega,?_,?_⟩,by simp;omega⟩
   ·simp only[hra]
    have:f.someK k=2:=by rcases knw_123 (f.sec k) (f.smw k)with h|h|h<;>simp_all[Frm.someK]
    simp[*]
   ·simp only[hrb];simp[*]
 ·have:k=f.ss.length:=by omega
  subst this
  subst h5 h6
  (conv=>whnf);(repeat' (first|(refine bT ?_;conv=>whnf)|(refine bF ?_;conv=>whnf)|(refine bN ?_)|(refine bD (fun hh=>?_) (fun hh=>?_)<;>first|(exfalso;omega)|(conv=>whnf))|(refine bEq (fun hh=>?_) (fun hh=>?_)<;>first|(exfalso;omega)|(conv=>whnf))|(refine bNe (fun hh=>?_) (fun hh=>?_)<;>first|(exfalso;omega)|(conv=>whnf))|(refine(k65 _ _).callq rfl rfl (fun r (hr:r=_)=>?_);subst hr;conv=>whnf)|(refine wIn (by omega) ?_;conv=>whnf)|(refine nI (by omega) ?_;conv=>whnf)))
  all_goals rfl
def Frm.firstS(f:Frm)(r:Int):Option Nat:=(List.range f.ss.length).find? (fun i=>decide (f.bnd i r≠2))
def Frm.first(f:Frm):Option (Nat × Int):=f.poss.findSome? (fun r=>(f.firstS r).map (fun i=>(i,r)))
theorem k45(f:Frm)(i:Int)(hn:f.ss.length<=1000):FnA Try.prog 57 [.agg f.cells, .int .i64 i] (· = .bool (decide (0<=i/\i<f.ss.length))):=by
 have hL:(f.ss.map Sec.av).length=f.ss.length:=by simp
 refine fnA 1 ok57 (by simp) ?_
 (conv=>whnf);(repeat' (first|(refine bT ?_;conv=>whnf)|(refine bF ?_;conv=>whnf)|(refine bN ?_)|(refine bD (fun hh=>?_) (fun hh=>?_)<;>first|(exfalso;omega)|(conv=>whnf))|(refine bEq (fun hh=>?_) (fun hh=>?_)<;>first|(exfalso;omega)|(conv=>whnf))|(refine bNe (fun hh=>?_) (fun hh=>?_)<;>first|(exfalso;omega)|(conv=>whnf))|(refine(k50 _ _ _).callq rfl rfl (fun r (hr:r=_)=>?_);subst hr;conv=>whnf)|(refine wIn (by omega) ?_;conv=>whnf)|(refine nI (by omega) ?_;conv=>whnf)))
 all_goals exact congrArg AV.bool (decide_eq_decide.2 (by omega))
def Frm.far(f:Frm):Bool:=decide (40<f.ss.length)||(decide f.ok&&decide (60<=f.hi-f.lo))
theorem r11(f:Frm):FnA Try.prog 55 [.agg f.cells] (· = .bool f.far):=by
 have hL:(f.ss.map Sec.av).length=f.ss.length:=by simp
 refine fnA 1 ok55 (by simp) ?_
 by_cases h1:40<f.ss.length
 ·(conv=>whnf);(repeat' (first|(refine bT ?_;conv=>whnf)|(refine bF ?_;conv=>whnf)|(refine bN ?_)|(refine bD (fun hh=>?_) (fun hh=>?_)<;>first|(exfalso;omega)|(conv=>whnf))|(refine bEq (fun hh=>?_) (fun hh=>?_)<;>first|(exfalso;omega)|(conv=>whnf))|(refine bNe (fun hh=>?_) (fun hh=>?_)<;>first|(exfalso;omega)|(conv=>whnf))|(refine wIn (by omega) ?_;conv=>whnf)|(refine nI (by omega) ?_;conv=>whnf)))
  all_goals (unfold Frm.far;simp;omega)
 ·by_cases hok:f.ok
  ·have h0:(if f.ok then(0:Int) else 10)=0:=if_pos hok
   have h2:=hok.2.2.2.1
   unfold okSpan at h2
   (conv=>whnf);(repeat' (first|(refine bT ?_;conv=>whnf)|(refine bF ?_;conv=>whnf)|(refine bN ?_)|(refine bD (fun hh=>?_) (fun hh=>?_)<;>first|(exfalso;omega)|(conv=>whnf))|(refine bEq (fun hh=>?_) (fun hh=>?_)<;>first|(exfalso;omega)|(conv=>whnf))|(refine bNe (fun hh=>?_) (fun hh=>?_)<;>first|(exfalso;omega)|(conv=>whnf))|(refine(k15 f (by omega)).callq rfl rfl (fun r (hr:r=_)=>?_);subst hr;conv=>whnf)|(refine wIn (by omega) ?_;conv=>whnf)|(refine nI (by omega) ?_;conv=>whnf)))
   all_goals (unfold Frm.far;simp[hok];omega)
  ·have h0:(if f.ok then(0:Int) else 10)=10:=if_neg hok
   (conv=>whnf);(repeat' (first|(refine bT ?_;conv=>whnf)|(refine bF ?_;conv=>whnf)|(refine bN ?_)|(refine bD (fun hh=>?_) (fun hh=>?_)<;>first|(exfalso;omega)|(conv=>whnf))|(refine bEq (fun hh=>?_) (fun hh=>?_)<;>first|(exfalso;omega)|(conv=>whnf))|(refine bNe (fun hh=>?_) (fun hh=>?_)<;>first|(exfalso;omega)|(conv=>whnf))|(refine(k15 f (by omega)).callq rfl rfl (fun r (hr:r=_)=>?_);subst hr;conv=>whnf)|(refine wIn (by omega) ?_;conv=>whnf)|(refine nI (by omega) ?_;conv=>whnf)))
   all_goals (unfold Frm.far;simp[hok];omega)
theorem k40(a b c d:Int)(h1 : -9000000000000000000<=a*d/\a*d<=9000000000000000000)(h2 : -9000000000000000000<=c*b/\c*b<=9000000000000000000):FnA Try.prog 61 [.agg [.int .i64 a, .int .i64 b], .agg [.int .i64 c, .int .i64 d]] (· = .bool (decide (a*d<c*b))):=by
 refine fnA 2 ok61 (by simp) ?_
 (conv=>whnf);(repeat' (first|(refine bT ?_;conv=>whnf)|(refine bF ?_;conv=>whnf)|(refine bN ?_)|(refine bD (fun hh=>?_) (fun hh=>?_)<;>first|(exfalso;omega)|(conv=>whnf))|(refine bEq (fun hh=>?_) (fun hh=>?_)<;>first|(exfalso;omega)|(conv=>whnf))|(refine bNe (fun hh=>?_) (fun hh=>?_)<;>first|(exfalso;omega)|(conv=>whnf))|(refine wIn (by omega) ?_;conv=>whnf)|(refine nI (by omega) ?_;conv=>whnf)))
 all_goals rfl
theorem sides_ne{s:Sec}(hok:s.ok):∃q,q∈s.sides:=⟨_,fst_side hok⟩
theorem knw1{s:Sec}(p:Int->Int->Bool):knw s p=1<->∀q∈s.sides,p q.1 q.2=true:=by
 unfold knw
 constructor
 ·intro h
  split at h
  ·rename_i h1;exact List.all_eq_true.1 h1
  ·split at h<;>omega
 ·intro h
  rw[if_pos (List.all_eq_true.2 h)]
theorem knw2{s:Sec}(hok:s.ok)(p:Int->Int->Bool):knw s p=2<->∀q∈s.sides,p q.1 q.2=false:=by
 obtain⟨q0,hq0⟩:=sides_ne hok
 unfold knw
 constructor
 ·intro h q hq
  split at h
  ·omega
  ·split at h
   ·omega
   ·rename_i h1
    simp only[List.any_eq_true,not_exists,not_and]at h1
    simpa using h1 q hq
 ·intro h
  rw[if_neg fun h1=>by have:=List.all_eq_true.1 h1 q0 hq0;rw[h q0 hq0]at this;cases this]
  rw[if_neg fun h1=>by obtain⟨q,hq,h2⟩:=List.any_eq_true.1 h1;rw[h q hq]at h2;cases h2]
theorem opens1{f:Frm}:f.opens=1<->∀i<f.ss.length,f.someK i=2:=by
 unfold Frm.opens
 constructor
 ·intro h
  split at h
  ·rename_i h1;simpa using h1
  ·split at h<;>omega
 ·intro h;rw[if_pos (by simpa using h)]
theorem opens2{f:Frm}:f.opens=2<->∃i<f.ss.length,f.someK i=1:=by
 unfold Frm.opens
 constructor
 ·intro h
  split at h
  ·omega
  ·split at h
   ·omega
   ·rename_i h1;simpa using h1
 ·rintro⟨i,hi,h⟩
  rw[if_neg (by simp;exact⟨i,hi,by omega⟩),if_neg (by simp;exact⟨i,hi,h⟩)]
theorem opens_123(f:Frm):f.opens=1\/f.opens=2\/f.opens=3:=by
 unfold Frm.opens;split
 ·simp
 ·split<;>simp
theorem dist_zero(f:Frm)(r:Int):f.dist 0 r=r:=by
 unfold Frm.dist
 cases f.ss<;>simp
theorem dist_succ{f:Frm}{i:Nat}(hi:i+1<f.ss.length)(r:Int):f.dist (i+1) r=(f.sec (i+1)).base+(f.dist i r*(f.sec (i+1)).num).tdiv (f.sec (i+1)).den:=by
 unfold Frm.dist
 rw[List.take_succ_eq_append_getElem hi,List.drop_append_of_le_length (by simp;omega),List.foldl_append,Frm.sec_eq hi]
 rfl
theorem bnd_123(f:Frm)(i:Nat)(r:Int):f.bnd i r=1\/f.bnd i r=2\/f.bnd i r=3:=knw_123 _ _
theorem red_eq{n d:Int}(hd:1<=d):n=Int.gcd n d*redN n d/\d=Int.gcd n d*redD n d/\1<=redD n d:=by
 have hg:=gcd_bd (n:=n) hd
 have e1:d=Int.gcd n d*redD n d:=(Int.mul_tdiv_cancel' (Int.gcd_dvd_right n d)).symm
 refine⟨(Int.mul_tdiv_cancel' (Int.gcd_dvd_left n d)).symm,e1,?_⟩
 by_cases h:1<=redD n d
 ·exact h
 ·have:(Int.gcd n d:Int)*redD n d<=0:=Int.mul_nonpos_of_nonneg_of_nonpos (by omega) (by omega)
  omega
theorem red_lt{n d L M:Int}(hd:1<=d):redN n d*M<L*redD n d<->n*M<L*d:=by
 obtain⟨h1,h2,h3⟩:=red_eq (n:=n) hd
 have hg:=gcd_bd (n:=n) hd
 generalize (Int.gcd n d:Int)=g at *
 have e1:n*M=g*(redN n d*M):=by rw[<- Int.mul_assoc,<- h1]
 have e2:L*d=g*(L*redD n d):=by rw[Int.mul_left_comm,<- h2]
 rw[e1,e2]
 exact(Int.mul_lt_mul_left (show 0<g by omega)).symm
theorem red_gt{n d L M:Int}(hd:1<=d):L*redD n d<redN n d*M<->L*d<n*M:=by
 obtain⟨h1,h2,h3⟩:=red_eq (n:=n) hd
 have hg:=gcd_bd (n:=n) hd
 generalize (Int.gcd n d:Int)=g at *
 have e1:n*M=g*(redN n d*M):=by rw[<- Int.mul_assoc,<- h1]
 have e2:L*d=g*(L*redD n d):=by rw[Int.mul_left_comm,<- h2]
 rw[e1,e2]
 exact(Int.mul_lt_mul_left (show 0<g by omega)).symm
theorem red_bd{n d:Int}(hn : -100000000<=n/\n<=100000000)(hd:1<=d/\d<=100000000):(-100000000<=redN n d/\redN n d<=100000000)/\1<=redD n d/\redD n d<=100000000:=by
 have hg:=gcd_bd (n:=n) hd.1
 have h1:=tdiv_abs (a:=n) hg.1 100000000 (by omega) (by omega)
 have h2:=tdiv_abs (a:=d) hg.1 100000000 (by omega) (by omega)
 have h3:=(red_eq (n:=n) hd.1).2.2
 unfold redN redD at *
 omega
def Sec.rows(s:Sec)(k:Nat):List (List AV):=((List.range k).map s.side).map pairAV
def Sec.n(s:Sec):Nat:=s.na*s.nb
theorem sides_n(s:Sec):s.sides.length=s.n:=by simp[Sec.sides,Sec.n]
def cini(s:Sec)(d:Int):FF:=((cosN d s.al s.sl,cosD d s.al),(cosN d s.al s.sl,cosD d s.al))
def cpart(s:Sec)(d:Int)(k:Nat):FF:=(s.sides.take k).foldl (cstep d) (cini s d)
theorem cpart_succ{s:Sec}{d:Int}{k:Nat}{q:Int × Int}(h:s.sides[k]?=some q):cpart s d (k+1)=cstep d (cpart s d k) q:=by
 obtain⟨hk,rfl⟩:=List.getElem?_eq_some_iff.1 h
 unfold cpart
 rw[List.take_succ_eq_append_getElem hk,List.foldl_append];rfl
def bdF(q:Int × Int):Prop:=(-100000000<=q.1/\q.1<=100000000)/\1<=q.2/\q.2<=100000000
theorem cpart_bd{s:Sec}(hok:s.ok){d:Int}(hd:1<=d/\d<=6000):∀k,bdF (cpart s d k).1/\bdF (cpart s d k).2
 |0=>by
  have:=cos_rbd hok hd (fst_side hok)
  exact⟨this,this⟩
 |k+1=>by
  have ih:=cpart_bd hok hd k
  cases h:s.sides[k]? with
  |none=>
   have:cpart s d (k+1)=cpart s d k:=by
    have h':s.sides.length<=k:=List.getElem?_eq_none_iff.1 h
    unfold cpart;rw[List.take_of_length_le (by omega),List.take_of_length_le h']
   rw[this];exact ih
  |some q=>
   rw[cpart_succ h]
   have:=cos_rbd hok hd (List.mem_of_getElem? h)
   unfold cstep
   constructor
   ·simp only;split
    ·exact this
    ·exact ih.1
   ·simp only;split
    ·exact this
    ·exact ih.2
theorem cpart_all(s:Sec)(d:Int):cpart s d s.n=cosF s d:=by
 unfold cpart;rw[List.take_of_length_le (by rw[sides_n];omega)];rfl
def leF(x y:Int × Int):Prop:=x.1*y.2<=y.1*x.2
theorem leF_trans{x y z:Int × Int}(hx:1<=x.2)(hy:1<=y.2)(hz:1<=z.2)(h1:leF x y)(h2:leF y z):leF x z:=by
 unfold leF at *
 have e1:x.1*y.2*z.2<=y.1*x.2*z.2:=Int.mul_le_mul_of_nonneg_right h1 (by omega)
 have e2:y.1*z.2*x.2<=z.1*y.2*x.2:=Int.mul_le_mul_of_nonneg_right h2 (by omega)
 have e3:x.1*z.2*y.2<=z.1*x.2*y.2:=by
  have a1:x.1*z.2*y.2=x.1*y.2*z.2:=Int.mul_right_comm ..
  have a2:y.1*x.2*z.2=y.1*z.2*x.2:=Int.mul_right_comm ..
  have a3:z.1*x.2*y.2=z.1*y.2*x.2:=Int.mul_right_comm ..
  omega
 exact Int.le_of_mul_le_mul_right e3 (by omega)
def cosQ(d:Int)(q:Int × Int):Int × Int:=(cosN d q.1 q.2,cosD d q.1)
theorem cpart_ends{s:Sec}(hok:s.ok){d:Int}(hd:1<=d/\d<=6000):∀k,∀q∈s.sides.take k,leF (cpart s d k).1 (cosQ d q)/\leF (cosQ d q) (cpart s d k).2
 |0,q,h=>by simp at h
 |k+1,q,h=>by
  have ih:=cpart_ends hok hd k
  have hb:=cpart_bd hok hd k
  cases hk:s.sides[k]? with
  |none=>
   have h':s.sides.length<=k:=List.getElem?_eq_none_iff.1 hk
   have e:cpart s d (k+1)=cpart s d k:=by
    unfold cpart;rw[List.take_of_length_le (by omega),List.take_of_length_le h']
   rw[e]
   rw[List.take_of_length_le (by omega)]at h
   rw[List.take_of_length_le h']at ih
   exact ih q h
  |some p=>
   have hpm:=List.mem_of_getElem? hk
   have hpb:bdF (cosQ d p):=cos_rbd hok hd hpm
   rw[cpart_succ hk]
   obtain⟨hk1,rfl⟩:=List.getElem?_eq_some_iff.1 hk
   rw[List.take_succ_eq_append_getElem hk1]at h
   generalize hL:cpart s d k=L at *
   generalize hp:s.sides[k]=p at *
   have hs1:(cstep d L p).1=if cosN d p.1 p.2*L.1.2<L.1.1*cosD d p.1 then cosQ d p else L.1:=rfl
   have hs2:(cstep d L p).2=if L.2.1*cosD d p.1<cosN d p.1 p.2*L.2.2 then cosQ d p else L.2:=rfl
   rw[hs1,hs2]
   rcases List.mem_append.1 h with h|h
   ·have h0:=ih q h
    have hqb:bdF (cosQ d q):=cos_rbd hok hd (List.mem_of_mem_take h)
    constructor
    ·split
     ·rename_i hlt
      exact leF_trans hpb.2.1 hb.1.2.1 hqb.2.1 (show cosN d p.1 p.2*L.1.2<=L.1.1*cosD d p.1 by omega) h0.1
     ·exact h0.1
    ·split
     ·rename_i hlt
      exact leF_trans hqb.2.1 hb.2.2.1 hpb.2.1 h0.2 (show L.2.1*cosD d p.1<=cosN d p.1 p.2*L.2.2 by omega)
     ·exact h0.2
   ·simp at h;subst h
    constructor
    ·split
     ·exact Int.le_refl _
     ·rename_i hlt;show L.1.1*cosD d q.1<=cosN d q.1 q.2*L.1.2;omega
    ·split
     ·exact Int.le_refl _
     ·rename_i hlt;show cosN d q.1 q.2*L.2.2<=L.2.1*cosD d q.1;omega
theorem cosF_ends{s:Sec}(hok:s.ok){d:Int}(hd:1<=d/\d<=6000){q:Int × Int}(hq:q∈s.sides):leF (cosF s d).1 (cosQ d q)/\leF (cosQ d q) (cosF s d).2:=by
 have:=cpart_ends hok hd s.n q (by rw[List.take_of_length_le (by rw[sides_n];omega)];exact hq)
 rwa [cpart_all]at this
theorem red_leF{x y:Int × Int}(hx:bdF x)(hy:bdF y):¬(redN y.1 y.2*redD x.1 x.2<redN x.1 x.2*redD y.1 y.2)<->leF x y:=by
 rw[red_lt hy.2.1,red_gt hx.2.1]
 unfold leF;omega
theorem k40r{x y:Int × Int}(hx:bdF x)(hy:bdF y)(h:leF y x):FnA Try.prog 61 [fr x,fr y] (· = .bool false):=by
 have c1:=red_bd hx.1 hx.2
 have c2:=red_bd hy.1 hy.2
 have m1:=mul_ab (a:=redN x.1 x.2) 100000000 100000000 c1.1.1 c1.1.2 (show 0<=redD y.1 y.2 by omega) c2.2.2
 have m2:=mul_ab (a:=redN y.1 y.2) 100000000 100000000 c2.1.1 c2.1.2 (show 0<=redD x.1 x.2 by omega) c1.2.2
 have:=k40 (redN x.1 x.2) (redD x.1 x.2) (redN y.1 y.2) (redD y.1 y.2) (by omega) (by omega)
 rwa [decide_eq_false ((red_leF hy hx).2 h)]at this
theorem k13o(f:Frm)(hn:f.ss.length<=1000):FnO Try.prog 59 [.agg f.cells] (fun r rows=>r = .agg [.row 3, .int .i64 f.lo, .int .i64 f.hi, .int .i64 f.en, .int .i64 f.ed, .int .i64 f.rod, .int .i64 f.cs]/\rows=[(3, .row false 98 7 (f.ss.map Sec.av))]):=by
 have hL:(f.ss.map Sec.av).length=f.ss.length:=by simp
 refine fnO 5 ok59 (by simp) ?_
 (conv=>whnf);(repeat' (first|(refine bT ?_;conv=>whnf)|(refine bF ?_;conv=>whnf)|(refine bN ?_)|(refine bD (fun hh=>?_) (fun hh=>?_)<;>first|(exfalso;omega)|(conv=>whnf))|(refine bEq (fun hh=>?_) (fun hh=>?_)<;>first|(exfalso;omega)|(conv=>whnf))|(refine bNe (fun hh=>?_) (fun hh=>?_)<;>first|(exfalso;omega)|(conv=>whnf))|(refine wIn (by omega) ?_;conv=>whnf)|(refine nI (by omega) ?_;conv=>whnf)))
 refine apI (fun e he=>?_) (by simp;omega) ?_
 ·obtain⟨s,_,rfl⟩:=List.mem_map.1 he;exact⟨rfl,rfl⟩
 (conv=>whnf);(repeat' (first|(refine bT ?_;conv=>whnf)|(refine bF ?_;conv=>whnf)|(refine bN ?_)|(refine bD (fun hh=>?_) (fun hh=>?_)<;>first|(exfalso;omega)|(conv=>whnf))|(refine bEq (fun hh=>?_) (fun hh=>?_)<;>first|(exfalso;omega)|(conv=>whnf))|(refine bNe (fun hh=>?_) (fun hh=>?_)<;>first|(exfalso;omega)|(conv=>whnf))|(refine wIn (by omega) ?_;conv=>whnf)|(refine nI (by omega) ?_;conv=>whnf)))
 all_goals exact⟨rfl,rfl⟩
def Sec.fin(s:Sec)(a b c d:Int):Sec:=⟨s.al+a,s.ah-b,s.sl+c,s.sh-d,s.base,s.num,s.den⟩
def Frm.fin(f:Frm)(j:Nat)(a b c d:Int):Frm:={ f with ss:=f.ss.set j ((f.sec j).fin a b c d) }
theorem fin_len(f:Frm)(j:Nat)(a b c d:Int):(f.fin j a b c d).ss.length=f.ss.length:=by simp[Frm.fin]
theorem fin_sec{f:Frm}{j:Nat}(hj:j<f.ss.length)(a b c d:Int)(i:Nat):(f.fin j a b c d).sec i=if i=j then(f.sec j).fin a b c d else f.sec i:=by
 simp only[Frm.sec,Frm.fin,List.getD_eq_getElem?_getD,List.getElem?_set]
 by_cases h:i=j
 ·subst h;simp[hj]
 ·simp[h,Ne.symm h]
theorem fin_dist{f:Frm}{j:Nat}(hj:j<f.ss.length)(a b c d:Int)(r:Int):∀i<f.ss.length,(f.fin j a b c d).dist i r=f.dist i r
 |0,_=>by rw[dist_zero,dist_zero]
 |i+1,hi=>by
  have ih:=fin_dist hj a b c d r i (by omega)
  rw[dist_succ (by rw[fin_len];exact hi),dist_succ hi,ih,fin_sec hj]
  split
  ·rename_i e;subst e;rfl
  ·rfl
section
variable {f:Frm} {j:Nat} {a b c d:Int} (hok:f.ok) (hok':(f.fin j a b c d).ok) (hj:j<f.ss.length) (ha:0<=a) (hb:0<=b) (hc:0<=c) (hd:0<=d)
include hok hok' hj ha hb hc hd
theorem fin_sides(i:Nat){q:Int × Int}(hq:q∈((f.fin j a b c d).sec i).sides):q∈(f.sec i).sides:=by
 rw[fin_sec hj]at hq
 split at hq
 ·rename_i e;subst e
  rw[mem_sides]at hq⊢
  simp only[Sec.fin]at hq
  omega
 ·exact hq
theorem fin_binds{i:Nat}(hi:i<f.ss.length)(x t r:Int):(f.fin j a b c d).bindsF i x t r=f.bindsF i x t r:=by
 unfold Frm.bindsF;rw[fin_dist hj a b c d r i hi];rfl
theorem fin_knw{i:Nat}(hi:i<f.ss.length)(P:Int->Int->Bool):(knw (f.sec i) P=1->knw ((f.fin j a b c d).sec i) P=1)/\(knw (f.sec i) P=2->knw ((f.fin j a b c d).sec i) P=2):=by
 have hs':=Frm.sec_ok hok' (i:=i) (by rw[fin_len];exact hi)
 rw[knw1,knw1,knw2 (Frm.sec_ok hok hi),knw2 hs']
 exact⟨fun h q hq=>h q (fin_sides hok hok' hj ha hb hc hd i hq),fun h q hq=>h q (fin_sides hok hok' hj ha hb hc hd i hq)⟩
theorem fin_bnd{i:Nat}(hi:i<f.ss.length)(r:Int):(f.bnd i r=1->(f.fin j a b c d).bnd i r=1)/\(f.bnd i r=2->(f.fin j a b c d).bnd i r=2):=by
 have e:(f.fin j a b c d).bnd i r=knw ((f.fin j a b c d).sec i) (fun x t=>f.bindsF i x t r):=by
  show knw ((f.fin j a b c d).sec i) (fun x t=>(f.fin j a b c d).bindsF i x t r)=_
  congr 1;funext x t;exact fin_binds hok hok' hj ha hb hc hd hi x t r
 rw[e]
 exact fin_knw hok hok' hj ha hb hc hd hi _
theorem fin_some{i:Nat}(hi:i<f.ss.length):(f.someK i=1->(f.fin j a b c d).someK i=1)/\(f.someK i=2->(f.fin j a b c d).someK i=2):=by
 have e:(f.fin j a b c d).someK i=knw ((f.fin j a b c d).sec i) (f.smw i):=by
  show knw ((f.fin j a b c d).sec i) ((f.fin j a b c d).smw i)=_
  congr 1;funext x t
  show(f.poss.any fun r=>(f.fin j a b c d).bindsF i x t r)=f.poss.any fun r=>f.bindsF i x t r
  congr 1;funext r;exact fin_binds hok hok' hj ha hb hc hd hi x t r
 rw[e]
 exact fin_knw hok hok' hj ha hb hc hd hi _
theorem fin_opens:(f.opens=1->(f.fin j a b c d).opens=1)/\(f.opens=2->(f.fin j a b c d).opens=2):=by
 constructor
 ·rw[opens1,opens1,fin_len]
  exact fun h i hi=>(fin_some hok hok' hj ha hb hc hd hi).2 (h i hi)
 ·rw[opens2,opens2,fin_len]
  rintro⟨i,hi,h⟩
  exact⟨i,hi,(fin_some hok hok' hj ha hb hc hd hi).1 h⟩
theorem fin_cos{i:Nat}(hi:i<f.ss.length){e:Int}(he:1<=e/\e<=6000):leF (cosF (f.sec i) e).1 (cosF ((f.fin j a b c d).sec i) e).1/\leF (cosF ((f.fin j a b c d).sec i) e).2 (cosF (f.sec i) e).2:=by
 have hs':=Frm.sec_ok hok' (i:=i) (by rw[fin_len];exact hi)
 obtain⟨⟨q,hq,e1⟩,⟨p,hp,e2⟩⟩:=cosF_mem ((f.fin j a b c d).sec i) e (fst_side hs')
 rw[e1,e2]
 exact⟨(cosF_ends (Frm.sec_ok hok hi) he (fin_sides hok hok' hj ha hb hc hd i hq)).1,(cosF_ends (Frm.sec_ok hok hi) he (fin_sides hok hok' hj ha hb hc hd i hp)).2⟩
end
def exF7:Frm:=⟨[⟨50,52,60,60,0,1,1⟩,⟨40,40,45,46,5,1,2⟩],20,100,1,20,300,351⟩
theorem t100:FnA Try.prog 100 [] (· = .agg exF7.cells):=by
 refine fnA 2 ok100 (by simp) ?_
 (conv=>whnf);(repeat'((first|apply bT|apply bF|apply bN|((first|apply bD|apply bEq|apply bNe)<;>intro hh<;>try(exfalso;omega))|refine wIn (by omega) ?_|refine nI (by omega) ?_)<;>conv=>whnf))
 all_goals rfl
theorem exF_1:exF7.ok/\exF7.opens=1:=by decide +kernel
theorem t58:FnA Try.prog 58 [] (· = .bool true):=by
 have e1:=k25 exF7 exF_1.1
 rw[exF_1.2]at e1
 have e2:=p19 exW 0 (by decide) ex_1
 rw[ex_2.1,ex_2.2]at e2
 refine fnA 5 ok58 (by simp) ?_
 (conv=>whnf);(repeat'((first|apply bT|apply bF|apply bN|((first|apply bD|apply bEq|apply bNe)<;>intro hh<;>try(exfalso;omega))|refine t100.zq rfl rfl ?_|refine e1.cq rfl rfl ?_|refine p64.zq rfl rfl ?_|refine e2.cq rfl rfl ?_|refine wIn (by omega) ?_|refine nI (by omega) ?_)<;>conv=>whnf))
 all_goals rfl
def Frm.arm(f:Frm)(j:Nat)(lo hi:Int):Frm:={ f with ss:=f.ss.set j ⟨lo,hi,(f.sec j).sl,(f.sec j).sh,(f.sec j).base,(f.sec j).num,(f.sec j).den⟩ }
theorem arm_cells(f:Frm)(j:Nat)(lo hi:Int):(f.arm j lo hi).cells=[.isl ((f.ss.map Sec.av).set j [.int .i64 lo, .int .i64 hi, .int .i64 (f.sec j).sl, .int .i64 (f.sec j).sh, .int .i64 (f.sec j).base, .int .i64 (f.sec j).num, .int .i64 (f.sec j).den]), .int .i64 f.lo, .int .i64 f.hi, .int .i64 f.en, .int .i64 f.ed, .int .i64 f.rod, .int .i64 f.cs]:=by
 simp[Frm.cells,Frm.arm,List.map_set,Sec.av]
theorem arm_len(f:Frm)(j:Nat)(lo hi:Int):(f.arm j lo hi).ss.length=f.ss.length:=by simp[Frm.arm]
theorem arm_fin{f:Frm}{j:Nat}(hj:j<f.ss.length)(lo hi lo' hi':Int):(f.arm j lo hi).fin j (lo'-lo) (hi-hi') 0 0=f.arm j lo' hi':=by
 have e:(f.arm j lo hi).sec j=⟨lo,hi,(f.sec j).sl,(f.sec j).sh,(f.sec j).base,(f.sec j).num,(f.sec j).den⟩:=by
  simp[Frm.sec,Frm.arm,List.getD_eq_getElem?_getD,hj]
 unfold Frm.fin
 rw[e]
 unfold Sec.fin Frm.arm
 simp only[List.set_set]
 congr 2
 simp;omega
set_option maxHeartbeats 8000000 in
theorem k13R(w:Shop)(f:Frm)(i s:Int)(t:Trial):FnA Try.prog 13 [.agg w.cells, .agg f.cells, .agg [.int .i64 i, .int .i64 s, .int .i64 t.sp, .int .i64 t.mkr, .int .i64 t.sl, .int .i64 t.ft]] (· = .bool true):=by
 have e1:=p14 w
 have hL:(f.ss.map Sec.av).length=f.ss.length:=by simp
 have lt:(w.tb.map Trial.av).length=w.tb.length:=by simp
 cases hf:w.far with
 |true=>
  rw[hf]at e1
  refine fnA 19 ok13 (by simp) ?_
  (conv=>whnf);(repeat'((first|apply bT|apply bF|apply bN|((first|apply bD|apply bEq|apply bNe)<;>intro hh<;>try(exfalso;omega))|refine e1.cq rfl rfl ?_|refine t58.cq rfl rfl ?_|refine wIn (by omega) ?_|refine nI (by omega) ?_)<;>conv=>whnf))
  all_goals rfl
 |false=>
 rw[hf]at e1
 have hB:=sz_big (far_sz hf)
 by_cases hlt:w.tb.length<=9
 case neg=>
  refine fnA 19 ok13 (by simp) ?_
  (conv=>whnf);(repeat'((first|apply bT|apply bF|apply bN|((first|apply bD|apply bEq|apply bNe)<;>intro hh<;>try(exfalso;omega))|refine e1.cq rfl rfl ?_|refine t58.cq rfl rfl ?_|refine wIn (by omega) ?_|refine nI (by omega) ?_)<;>conv=>whnf))
  all_goals rfl
 have e2:=p54 w hB
 by_cases h0:w.eO true=0
 case neg=>
  refine fnA 19 ok13 (by simp) ?_
  (conv=>whnf);(repeat'((first|apply bT|apply bF|apply bN|((first|apply bD|apply bEq|apply bNe)<;>intro hh<;>try(exfalso;omega))|refine e1.cq rfl rfl ?_|refine e2.cq rfl rfl ?_|refine t58.cq rfl rfl ?_|refine wIn (by omega) ?_|refine nI (by omega) ?_)<;>conv=>whnf))
  all_goals rfl
 rw[h0]at e2
 have e3:=r11 f
 cases hff:f.far with
 |true=>
  rw[hff]at e3
  refine fnA 19 ok13 (by simp) ?_
  (conv=>whnf);(repeat'((first|apply bT|apply bF|apply bN|((first|apply bD|apply bEq|apply bNe)<;>intro hh<;>try(exfalso;omega))|refine e1.cq rfl rfl ?_|refine e2.cq rfl rfl ?_|refine e3.cq rfl rfl ?_|refine t58.cq rfl rfl ?_|refine wIn (by omega) ?_|refine nI (by omega) ?_)<;>conv=>whnf))
  all_goals rfl
 |false=>
 rw[hff]at e3
 have hf40:f.ss.length<=40:=by
  unfold Frm.far at hff
  rw[Bool.or_eq_false_iff]at hff
  have:=of_decide_eq_false hff.1
  omega
 have e4:=k15 f (by omega)
 by_cases hok:f.ok
 case neg=>
  rw[if_neg hok]at e4
  refine fnA 19 ok13 (by simp) ?_
  (conv=>whnf);(repeat'((first|apply bT|apply bF|apply bN|((first|apply bD|apply bEq|apply bNe)<;>intro hh<;>try(exfalso;omega))|refine e1.cq rfl rfl ?_|refine e2.cq rfl rfl ?_|refine e3.cq rfl rfl ?_|refine e4.cq rfl rfl ?_|refine t58.cq rfl rfl ?_|refine wIn (by omega) ?_|refine nI (by omega) ?_)<;>conv=>whnf))
  all_goals rfl
 rw[if_pos hok]at e4
 have e5:=p47 w i hB.s
 cases hi:w.isSp i with
 |false=>
  rw[hi]at e5
  refine fnA 19 ok13 (by simp) ?_
  (conv=>whnf);(repeat'((first|apply bT|apply bF|apply bN|((first|apply bD|apply bEq|apply bNe)<;>intro hh<;>try(exfalso;omega))|refine e1.cq rfl rfl ?_|refine e2.cq rfl rfl ?_|refine e3.cq rfl rfl ?_|refine e4.cq rfl rfl ?_|refine e5.cq rfl rfl ?_|refine t58.cq rfl rfl ?_|refine wIn (by omega) ?_|refine nI (by omega) ?_)<;>conv=>whnf))
  all_goals rfl
 |true=>
 rw[hi]at e5
 have e6:=k45 f s (by omega)
 by_cases hs:0<=s/\s<f.ss.length
 case neg=>
  rw[decide_eq_false hs]at e6
  refine fnA 19 ok13 (by simp) ?_
  (conv=>whnf);(repeat'((first|apply bT|apply bF|apply bN|((first|apply bD|apply bEq|apply bNe)<;>intro hh<;>try(exfalso;omega))|refine e1.cq rfl rfl ?_|refine e2.cq rfl rfl ?_|refine e3.cq rfl rfl ?_|refine e4.cq rfl rfl ?_|refine e5.cq rfl rfl ?_|refine e6.cq rfl rfl ?_|refine t58.cq rfl rfl ?_|refine wIn (by omega) ?_|refine nI (by omega) ?_)<;>conv=>whnf))
  all_goals rfl
 rw[decide_eq_true hs]at e6
 obtain⟨j,rfl⟩:=Int.eq_ofNat_of_zero_le hs.1
 have hj:j<f.ss.length:=by omega
 have hcp:=p16o w hB
 have hcells:(w.add t).cells=[.isl (w.sps.map Spare.av), .isl (w.mks.map mkAV), .int .i64 w.cut, .isl (w.tb.map Trial.av++[[.int .i64 t.sp, .int .i64 t.mkr, .int .i64 t.sl, .int .i64 t.ft]])]:=by
  simp[Shop.cells,Shop.add,Trial.av]
 have hB':Big (w.add t):=⟨hB.s,hB.m,by
                       have:(w.add t).tb.length=w.tb.length+1:=by simp[Shop.add]
                       omega,hB.sl⟩
 have e7:=p54 (w.add t) hB'
 rw[hcells]at e7
 by_cases h0':(w.add t).eO true=0
 case neg=>
  refine fnA 19 ok13 (by simp) ?_
  (conv=>whnf);(repeat'((first|apply bT|apply bF|apply bN|((first|apply bD|apply bEq|apply bNe)<;>intro hh<;>try(exfalso;omega))|refine e1.cq rfl rfl ?_|refine e2.cq rfl rfl ?_|refine e3.cq rfl rfl ?_|refine e4.cq rfl rfl ?_|refine e5.cq rfl rfl ?_|refine e6.cq rfl rfl ?_|refine wIn (by omega) ?_|refine nI (by omega) ?_)<;>conv=>whnf))
  refine hcp.callzq rfl rfl (fun r rows hr=>?_)
  obtain⟨rfl,rfl⟩:=hr
  refine⟨rfl,?_⟩
  (conv=>whnf);(repeat'((first|apply bT|apply bF|apply bN|((first|apply bD|apply bEq|apply bNe)<;>intro hh<;>try(exfalso;omega))|(refine apI (by simp[AV.one]) (by simp only[lt];simp;omega) ?_)|refine e7.lq rfl rfl ?_|refine t58.cq rfl rfl ?_|refine wIn (by omega) ?_|refine nI (by omega) ?_)<;>conv=>whnf))
  all_goals rfl
 rw[h0']at e7
 have hk:=chk_ok (chk_0 h0)
 have hk':=chk_ok (chk_0 h0')
 have a1:=p19 w i hB.s (by rw[hi];exact h0)
 have a2:=p19 (w.add t) i hB.s (by show(w.add t).eO (w.isSp i)=0;rw[hi];exact h0')
 rw[hcells]at a2
 have hc':∃n,(w.add t).can i n=true:=can_ex h0' hi
 obtain⟨b1,b2⟩:=loN_ok hk hi (can_ex h0 hi)
 obtain⟨b3,b4⟩:=hiN_ok hk hi (can_ex h0 hi)
 obtain⟨c1,c2⟩:=loN_ok (w:=w.add t) hk' hi hc'
 obtain⟨c3,c4⟩:=hiN_ok (w:=w.add t) hk' hi hc'
 have q1:=b2 _ (add_can c1)
 have q2:=b4 _ (add_can c3)
 have q3:=c2 _ c3
 generalize w.loN i=lo at *
 generalize w.hiN i=hi2 at *
 generalize (w.add t).loN i=lo' at *
 generalize (w.add t).hiN i=hi2' at *
 have hcp2:=k13o f (by omega)
 have gA:=f.sec_get hj
 have hbf:=arm_fin hj lo hi2 lo' hi2'
 have hcA:=arm_cells f j lo hi2
 have hcB:=arm_cells f j lo' hi2'
 have hlA:=arm_len f j lo hi2
 have hlB:=arm_len f j lo' hi2'
 have eA:=k15 (f.arm j lo hi2) (by omega)
 have eB:=k15 (f.arm j lo' hi2') (by omega)
 rw[hcA]at eA
 rw[hcB]at eB
 by_cases hokA:(f.arm j lo hi2).ok
 case neg=>
  rw[if_neg hokA]at eA
  refine fnA 19 ok13 (by simp) ?_
  (conv=>whnf);(repeat'((first|apply bT|apply bF|apply bN|((first|apply bD|apply bEq|apply bNe)<;>intro hh<;>try(exfalso;omega))|refine e1.cq rfl rfl ?_|refine e2.cq rfl rfl ?_|refine e3.cq rfl rfl ?_|refine e4.cq rfl rfl ?_|refine e5.cq rfl rfl ?_|refine e6.cq rfl rfl ?_|refine wIn (by omega) ?_|refine nI (by omega) ?_)<;>conv=>whnf))
  refine hcp.callzq rfl rfl (fun r rows hr=>?_)
  obtain⟨rfl,rfl⟩:=hr
  refine⟨rfl,?_⟩
  (conv=>whnf);(repeat'((first|apply bT|apply bF|apply bN|((first|apply bD|apply bEq|apply bNe)<;>intro hh<;>try(exfalso;omega))|(refine apI (by simp[AV.one]) (by simp only[lt];simp;omega) ?_)|refine e7.lq rfl rfl ?_|refine a1.cq rfl rfl ?_|refine a2.lq rfl rfl ?_|refine t58.cq rfl rfl ?_|(refine bKT ?_ ?_;(focus (simp;done)))|refine wIn (by omega) ?_|refine nI (by omega) ?_)<;>conv=>whnf))
  refine hcp2.callzq rfl rfl (fun r rows hr=>?_)
  obtain⟨rfl,rfl⟩:=hr
  refine⟨rfl,?_⟩
  conv=>whnf
  refine hcp2.callzq rfl rfl (fun r rows hr=>?_)
  obtain⟨rfl,rfl⟩:=hr
  refine⟨rfl,?_⟩
  (conv=>whnf);(repeat'((first|apply bT|apply bF|apply bN|((first|apply bD|apply bEq|apply bNe)<;>intro hh<;>try(exfalso;omega))|refine iaJ gA ?_|refine eA.lq rfl rfl ?_|refine t58.cq rfl rfl ?_|refine wIn (by omega) ?_|refine nI (by omega) ?_)<;>conv=>whnf))
  all_goals rfl
 rw[if_pos hokA]at eA
 by_cases hokB:(f.arm j lo' hi2').ok
 case neg=>
  rw[if_neg hokB]at eB
  refine fnA 19 ok13 (by simp) ?_
  (conv=>whnf);(repeat'((first|apply bT|apply bF|apply bN|((first|apply bD|apply bEq|apply bNe)<;>intro hh<;>try(exfalso;omega))|refine e1.cq rfl rfl ?_|refine e2.cq rfl rfl ?_|refine e3.cq rfl rfl ?_|refine e4.cq rfl rfl ?_|refine e5.cq rfl rfl ?_|refine e6.cq rfl rfl ?_|refine wIn (by omega) ?_|refine nI (by omega) ?_)<;>conv=>whnf))
  refine hcp.callzq rfl rfl (fun r rows hr=>?_)
  obtain⟨rfl,rfl⟩:=hr
  refine⟨rfl,?_⟩
  (conv=>whnf);(repeat'((first|apply bT|apply bF|apply bN|((first|apply bD|apply bEq|apply bNe)<;>intro hh<;>try(exfalso;omega))|(refine apI (by simp[AV.one]) (by simp only[lt];simp;omega) ?_)|refine e7.lq rfl rfl ?_|refine a1.cq rfl rfl ?_|refine a2.lq rfl rfl ?_|refine t58.cq rfl rfl ?_|(refine bKT ?_ ?_;(focus (simp;done)))|refine wIn (by omega) ?_|refine nI (by omega) ?_)<;>conv=>whnf))
  refine hcp2.callzq rfl rfl (fun r rows hr=>?_)
  obtain⟨rfl,rfl⟩:=hr
  refine⟨rfl,?_⟩
  conv=>whnf
  refine hcp2.callzq rfl rfl (fun r rows hr=>?_)
  obtain⟨rfl,rfl⟩:=hr
  refine⟨rfl,?_⟩
  (conv=>whnf);(repeat'((first|apply bT|apply bF|apply bN|((first|apply bD|apply bEq|apply bNe)<;>intro hh<;>try(exfalso;omega))|refine iaJ gA ?_|refine eA.lq rfl rfl ?_|refine eB.lq rfl rfl ?_|refine t58.cq rfl rfl ?_|refine wIn (by omega) ?_|refine nI (by omega) ?_)<;>conv=>whnf))
  all_goals rfl
 rw[if_pos hokB]at eB
 have loA:(f.arm j lo hi2).lo=f.lo:=rfl
 have hiA:(f.arm j lo hi2).hi=f.hi:=rfl
 have hsp:=hok.2.2.2.1
 unfold okSpan at hsp
 have posA:∀r,f.lo<=r->r<=f.hi->(f.arm j lo hi2).pos (j:Nat) r=0:=fun r h1 h2=>pos_zero hokA (by rw[hlA];omega) ⟨h1,h2⟩
 have posB:∀r,f.lo<=r->r<=f.hi->(f.arm j lo' hi2').pos (j:Nat) r=0:=fun r h1 h2=>pos_zero hokB (by rw[hlB];omega) ⟨h1,h2⟩
 have k1:=k18 (f.arm j lo hi2) j f.lo (posA _ (by omega) (by omega))
 have k2:=k18 (f.arm j lo' hi2') j f.lo (posB _ (by omega) (by omega))
 have k3':=k20 (f.arm j lo hi2) j f.hi (posA _ (by omega) (by omega))
 have k4':=k20 (f.arm j lo' hi2') j f.hi (posB _ (by omega) (by omega))
 have k5':=k25 (f.arm j lo hi2) hokA
 have k6':=k25 (f.arm j lo' hi2') hokB
 have hjA:j<(f.arm j lo hi2).ss.length:=by omega
 have hd:(f.arm j lo' hi2').dist j f.lo=(f.arm j lo hi2).dist j f.lo:=by
  rw[<- hbf];exact fin_dist hjA _ _ _ _ f.lo j hjA
 have hokB':((f.arm j lo hi2).fin j (lo'-lo) (hi2-hi2') 0 0).ok:=by rw[hbf];exact hokB
 have f1:=fin_bnd hokA hokB' hjA (by omega) (by omega) (by omega) (by omega) hjA f.hi
 have f2:=fin_opens hokA hokB' hjA (by omega) (by omega) (by omega) (by omega)
 rw[hbf]at f1 f2
 have g1:=bnd_123 (f.arm j lo hi2) j f.hi
 have g2:=opens_123 (f.arm j lo hi2)
 have hdb:=Frm.dist_bd hokA j (show 0<=f.lo by omega) (by omega)
 have lc:1<=(f.arm j lo hi2).dist j f.lo/\(f.arm j lo hi2).dist j f.lo<=6000->_:=fun he=>fin_cos hokA hokB' hjA (show 0<=lo'-lo by omega) (show 0<=hi2-hi2' by omega) (Int.le_refl 0) (Int.le_refl 0) hjA he
 rw[hbf]at lc
 have e0:(f.arm j lo hi2).ss.getD j default=(f.arm j lo hi2).sec j:=rfl
 have e0':(f.arm j lo' hi2').ss.getD j default=(f.arm j lo' hi2').sec j:=rfl
 have sA:=Frm.sec_ok hokA hjA
 have sB:=Frm.sec_ok hokB (i:=j) (by omega)
 rw[e0]at k1
 rw[e0',hd]at k2
 rw[hcA]at k1 k3' k5'
 rw[hcB]at k2 k4' k6'
 generalize (f.arm j lo hi2).bnd j f.hi=M1 at *
 generalize (f.arm j lo' hi2').bnd j f.hi=N1 at *
 generalize (f.arm j lo hi2).opens=M2 at *
 generalize (f.arm j lo' hi2').opens=N2 at *
 by_cases hz:(f.arm j lo hi2).dist j f.lo=0
 ·rw[if_pos hz]at k1 k2
  refine fnA 19 ok13 (by simp) ?_
  (conv=>whnf);(repeat'((first|apply bT|apply bF|apply bN|((first|apply bD|apply bEq|apply bNe)<;>intro hh<;>try(exfalso;omega))|refine e1.cq rfl rfl ?_|refine e2.cq rfl rfl ?_|refine e3.cq rfl rfl ?_|refine e4.cq rfl rfl ?_|refine e5.cq rfl rfl ?_|refine e6.cq rfl rfl ?_|refine wIn (by omega) ?_|refine nI (by omega) ?_)<;>conv=>whnf))
  refine hcp.callzq rfl rfl (fun r rows hr=>?_)
  obtain⟨rfl,rfl⟩:=hr
  refine⟨rfl,?_⟩
  (conv=>whnf);(repeat'((first|apply bT|apply bF|apply bN|((first|apply bD|apply bEq|apply bNe)<;>intro hh<;>try(exfalso;omega))|(refine apI (by simp[AV.one]) (by simp only[lt];simp;omega) ?_)|refine e7.lq rfl rfl ?_|refine a1.cq rfl rfl ?_|refine a2.lq rfl rfl ?_|refine t58.cq rfl rfl ?_|(refine bKT ?_ ?_;(focus (simp;done)))|refine wIn (by omega) ?_|refine nI (by omega) ?_)<;>conv=>whnf))
  refine hcp2.callzq rfl rfl (fun r rows hr=>?_)
  obtain⟨rfl,rfl⟩:=hr
  refine⟨rfl,?_⟩
  conv=>whnf
  refine hcp2.callzq rfl rfl (fun r rows hr=>?_)
  obtain⟨rfl,rfl⟩:=hr
  refine⟨rfl,?_⟩
  (conv=>whnf);(repeat'((first|apply bT|apply bF|apply bN|((first|apply bD|apply bEq|apply bNe)<;>intro hh<;>try(exfalso;omega))|refine iaJ gA ?_|refine eA.lq rfl rfl ?_|refine eB.lq rfl rfl ?_|refine t58.cq rfl rfl ?_|refine k1.lq rfl rfl ?_|refine k2.lq rfl rfl ?_|refine k3'.lq rfl rfl ?_|refine k4'.lq rfl rfl ?_|refine k5'.lq rfl rfl ?_|refine k6'.lq rfl rfl ?_|refine wIn (by omega) ?_|refine nI (by omega) ?_)<;>conv=>whnf))
  all_goals rfl
 ·rw[if_neg hz]at k1 k2
  obtain⟨lc1,lc2⟩:=lc (by omega)
  have b1':=cosF_bd sA (d:=(f.arm j lo hi2).dist j f.lo) (by omega)
  have b2':=cosF_bd sB (d:=(f.arm j lo hi2).dist j f.lo) (by omega)
  have l1:=k40r b2'.1 b1'.1 lc1
  have l2:=k40r b1'.2 b2'.2 lc2
  have r1:=red_bd b1'.1.1 b1'.1.2
  have r2:=red_bd b1'.2.1 b1'.2.2
  have r3:=red_bd b2'.1.1 b2'.1.2
  have r4:=red_bd b2'.2.1 b2'.2.2
  unfold fr at k1 k2 l1 l2
  clear b1' b2' lc lc1 lc2
  generalize redN (cosF ((f.arm j lo hi2).sec j) ((f.arm j lo hi2).dist j f.lo)).1.1 (cosF ((f.arm j lo hi2).sec j) ((f.arm j lo hi2).dist j f.lo)).1.2=n1 at *
  generalize redD (cosF ((f.arm j lo hi2).sec j) ((f.arm j lo hi2).dist j f.lo)).1.1 (cosF ((f.arm j lo hi2).sec j) ((f.arm j lo hi2).dist j f.lo)).1.2=d1 at *
  generalize redN (cosF ((f.arm j lo hi2).sec j) ((f.arm j lo hi2).dist j f.lo)).2.1 (cosF ((f.arm j lo hi2).sec j) ((f.arm j lo hi2).dist j f.lo)).2.2=n2 at *
  generalize redD (cosF ((f.arm j lo hi2).sec j) ((f.arm j lo hi2).dist j f.lo)).2.1 (cosF ((f.arm j lo hi2).sec j) ((f.arm j lo hi2).dist j f.lo)).2.2=d2 at *
  generalize redN (cosF ((f.arm j lo' hi2').sec j) ((f.arm j lo hi2).dist j f.lo)).1.1 (cosF ((f.arm j lo' hi2').sec j) ((f.arm j lo hi2).dist j f.lo)).1.2=n3 at *
  generalize redD (cosF ((f.arm j lo' hi2').sec j) ((f.arm j lo hi2).dist j f.lo)).1.1 (cosF ((f.arm j lo' hi2').sec j) ((f.arm j lo hi2).dist j f.lo)).1.2=d3 at *
  generalize redN (cosF ((f.arm j lo' hi2').sec j) ((f.arm j lo hi2).dist j f.lo)).2.1 (cosF ((f.arm j lo' hi2').sec j) ((f.arm j lo hi2).dist j f.lo)).2.2=n4 at *
  generalize redD (cosF ((f.arm j lo' hi2').sec j) ((f.arm j lo hi2).dist j f.lo)).2.1 (cosF ((f.arm j lo' hi2').sec j) ((f.arm j lo hi2).dist j f.lo)).2.2=d4 at *
  have m1:(if false=true then max (if false=true then max (if false=true then max d1 d2 else min d1 d2) d3 else min (if false=true then max d1 d2 else min d1 d2) d3) d4 else min (if false=true then max (if false=true then max d1 d2 else min d1 d2) d3 else min (if false=true then max d1 d2 else min d1 d2) d3) d4)=min (min (min d1 d2) d3) d4:=rfl
  have m2:(if true=true then max (if true=true then max (if true=true then max d1 d2 else min d1 d2) d3 else min (if true=true then max d1 d2 else min d1 d2) d3) d4 else min (if true=true then max (if true=true then max d1 d2 else min d1 d2) d3 else min (if true=true then max d1 d2 else min d1 d2) d3) d4)=max (max (max d1 d2) d3) d4:=rfl
  have m3:(if true=true then max (if true=true then max (if true=true then max n1 n2 else min n1 n2) n3 else min (if true=true then max n1 n2 else min n1 n2) n3) n4 else min (if true=true then max (if true=true then max n1 n2 else min n1 n2) n3 else min (if true=true then max n1 n2 else min n1 n2) n3) n4)=max (max (max n1 n2) n3) n4:=rfl
  have m4:(if false=true then max (if false=true then max (if false=true then max n1 n2 else min n1 n2) n3 else min (if false=true then max n1 n2 else min n1 n2) n3) n4 else min (if false=true then max (if false=true then max n1 n2 else min n1 n2) n3 else min (if false=true then max n1 n2 else min n1 n2) n3) n4)=min (min (min n1 n2) n3) n4:=rfl
  refine fnA 19 ok13 (by simp) ?_
  (conv=>whnf);(repeat'((first|apply bT|apply bF|apply bN|((first|apply bD|apply bEq|apply bNe)<;>intro hh<;>try(exfalso;omega))|refine e1.cq rfl rfl ?_|refine e2.cq rfl rfl ?_|refine e3.cq rfl rfl ?_|refine e4.cq rfl rfl ?_|refine e5.cq rfl rfl ?_|refine e6.cq rfl rfl ?_|refine wIn (by omega) ?_|refine nI (by omega) ?_)<;>conv=>whnf))
  refine hcp.callzq rfl rfl (fun r rows hr=>?_)
  obtain⟨rfl,rfl⟩:=hr
  refine⟨rfl,?_⟩
  (conv=>whnf);(repeat'((first|apply bT|apply bF|apply bN|((first|apply bD|apply bEq|apply bNe)<;>intro hh<;>try(exfalso;omega))|(refine apI (by simp[AV.one]) (by simp only[lt];simp;omega) ?_)|refine e7.lq rfl rfl ?_|refine a1.cq rfl rfl ?_|refine a2.lq rfl rfl ?_|refine t58.cq rfl rfl ?_|(refine bKT ?_ ?_;(focus (simp;done)))|refine wIn (by omega) ?_|refine nI (by omega) ?_)<;>conv=>whnf))
  refine hcp2.callzq rfl rfl (fun r rows hr=>?_)
  obtain⟨rfl,rfl⟩:=hr
  refine⟨rfl,?_⟩
  conv=>whnf
  refine hcp2.callzq rfl rfl (fun r rows hr=>?_)
  obtain⟨rfl,rfl⟩:=hr
  refine⟨rfl,?_⟩
  clear m1 m2 m3 m4
  (conv=>whnf);(repeat'((first|apply bT|apply bF|apply bN|refine eA.lq rfl rfl ?_|refine eB.lq rfl rfl ?_|refine iaJ gA ?_|refine nI (by omega) ?_|((first|apply bEq|apply bNe)<;>intro hh<;>try(exfalso;omega))|refine k1.lq rfl rfl ?_|refine k2.lq rfl rfl ?_)<;>conv=>whnf))
  refine bKF (decide_eq_false (show ¬(min (min (min d1 d2) d3) d4<1) by omega)) ?_
  (conv=>whnf);(repeat'((first|apply bT|apply bF|apply bN|refine nI (by omega) ?_|((first|apply bEq|apply bNe)<;>intro hh<;>try(exfalso;omega)))<;>conv=>whnf))
  refine bKF (decide_eq_false (show ¬(1073741824<max (max (max d1 d2) d3) d4) by omega)) ?_
  (conv=>whnf);(repeat'((first|apply bT|apply bF|apply bN|refine nI (by omega) ?_|((first|apply bEq|apply bNe)<;>intro hh<;>try(exfalso;omega)))<;>conv=>whnf))
  refine bKF (decide_eq_false (show ¬(1073741824<max (max (max n1 n2) n3) n4) by omega)) ?_
  (conv=>whnf);(repeat'((first|apply bT|apply bF|apply bN|refine nI (by omega) ?_|((first|apply bEq|apply bNe)<;>intro hh<;>try(exfalso;omega)))<;>conv=>whnf))
  refine bKF (decide_eq_false (show ¬(min (min (min n1 n2) n3) n4 < -1073741824) by omega)) ?_
  (conv=>whnf);(repeat'((first|apply bT|apply bF|apply bN|((first|apply bD|apply bEq|apply bNe)<;>intro hh<;>try(exfalso;omega))|refine l1.cq rfl rfl ?_|refine l2.cq rfl rfl ?_|refine t58.cq rfl rfl ?_|refine k3'.lq rfl rfl ?_|refine k4'.lq rfl rfl ?_|refine k5'.lq rfl rfl ?_|refine k6'.lq rfl rfl ?_|refine wIn (by omega) ?_|refine nI (by omega) ?_)<;>conv=>whnf))
  all_goals rfl
end Go.Proofs
