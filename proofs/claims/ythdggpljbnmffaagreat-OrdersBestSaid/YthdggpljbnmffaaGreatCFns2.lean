/- What each function of this program answers, proved by walking its body: the contracts that the law rests on, part 2. -/
import Derived.Test.YthdggpljbnmffaaGreatCFns1
set_option linter.unusedSimpArgs false
set_option linter.unusedVariables false
set_option linter.unusedSectionVars false
namespace Go.Proofs
open Go.Eng
attribute [local irreducible] Go.Eng.brB Go.Eng.need Go.Eng.wrE Go.Eng.iaE Go.Eng.slE Go.Eng.apE Go.Eng.CallZ Go.Eng.CallE Go.Eng.VCallE Go.Eng.YldE Go.Eng.GoC Go.Eng.MeetsE Go.Eng.FnA Go.Eng.FnV Go.Eng.ItM
set_option maxRecDepth 100000
theorem q36(a b:List Int)(ha:a.length<=1000000):FnA Tryz.prog 36 [.isl (a.map jAV), .isl (b.map jAV)] (· = .bool (decide (a=b))):=by
 have l1:(a.map jAV).length=a.length:=by simp
 have l2:(b.map jAV).length=b.length:=by simp
 refine fnA 0 ok36 (by simp) ?_
 by_cases hl:a.length=b.length
 case neg=>
  rw[decide_eq_false fun h:a=b=>hl (by rw[h])]
  (conv=>whnf);(repeat'((first|apply bT|apply bF|apply bN|((first|apply bD|apply bEq|apply bNe)<;>intro hh<;>try(exfalso;omega))|refine wJ ?_|refine nJ ?_)<;>conv=>whnf))
  all_goals rfl
 (conv=>whnf);(repeat'((first|apply bT|apply bF|apply bN|((first|apply bD|apply bEq|apply bNe)<;>intro hh<;>try(exfalso;omega))|refine wJ ?_|refine nJ ?_)<;>conv=>whnf))
 refine loop_i (α :=Nat) (fun k=>[(5, .int .i64 k),(1, .isl (b.map jAV)),(0, .isl (a.map jAV))]) (fun k=>[]) (fun k=>k<=a.length/\a.take k=b.take k) (fun k=>a.length-k) 0 mI ⟨by omega,by simp⟩ ?_
 rintro k ⟨hk0,hin⟩
 conv=>whnf
 refine bD (fun h4=>?_) (fun h4=>?_)
 ·have hk:k<a.length:=by omega
  have hkb:k<b.length:=by omega
  conv=>whnf
  refine iaJ (getM jAV a k hk) ?_
  (conv=>whnf);(repeat'((first|apply bT|apply bF|apply bN|((first|apply bD|apply bEq|apply bNe)<;>intro hh<;>try(exfalso;omega))|refine wJ ?_|refine nJ ?_)<;>conv=>whnf))
  refine iaJ (getM jAV b k hkb) ?_
  by_cases he:a[k]=b[k]
  ·(conv=>whnf);(repeat'((first|apply bT|apply bF|apply bN|((first|apply bD|apply bEq|apply bNe)<;>intro hh<;>try(exfalso;omega))|refine wJ ?_|refine nJ ?_)<;>conv=>whnf))
   refine⟨k+1,mI,⟨by omega,?_⟩,by omega⟩
   rw[List.take_succ_eq_append_getElem hk,List.take_succ_eq_append_getElem hkb,hin,he]
  ·rw[decide_eq_false fun h:a=b=>he (by subst h;rfl)]
   (conv=>whnf);(repeat'((first|apply bT|apply bF|apply bN|((first|apply bD|apply bEq|apply bNe)<;>intro hh<;>try(exfalso;omega))|refine wJ ?_|refine nJ ?_)<;>conv=>whnf))
   all_goals rfl
 ·have:k=a.length:=by omega
  rw[this,List.take_length,List.take_of_length_le (by omega)]at hin
  rw[decide_eq_true hin]
  (conv=>whnf);(repeat'((first|apply bT|apply bF|apply bN|((first|apply bD|apply bEq|apply bNe)<;>intro hh<;>try(exfalso;omega))|refine wJ ?_|refine nJ ?_)<;>conv=>whnf))
  all_goals rfl
theorem q23(l:List Int)(x:Int)(hl:l.length<=1000000):FnA Tryz.prog 23 [.isl (l.map jAV), .int .i64 x] (· = .bool (decide (x∈l))):=by
 have hL:(l.map jAV).length=l.length:=by simp
 refine fnA 0 ok23 (by simp) ?_
 (conv=>whnf);(repeat'((first|apply bT|apply bF|apply bN|((first|apply bD|apply bEq|apply bNe)<;>intro hh<;>try(exfalso;omega))|refine wJ ?_|refine nJ ?_)<;>conv=>whnf))
 refine loop_i (α :=Nat) (fun k=>[(5, .int .i64 k),(1, .int .i64 x),(0, .isl (l.map jAV))]) (fun k=>[]) (fun k=>k<=l.length/\∀b∈l.take k,decide (b=x)=false) (fun k=>l.length-k) 0 mI ⟨by omega,by simp⟩ ?_
 rintro k ⟨h1,h2⟩
 conv=>whnf
 refine bD (fun h3=>?_) (fun h3=>?_)
 ·have hk:k<l.length:=by omega
  by_cases hx:l[k]=x
  ·rw[decide_eq_true (show x∈l by rw[<- hx];exact List.getElem_mem hk)]
   conv=>whnf
   refine iaJ (getM jAV l k hk) ?_
   (conv=>whnf);(repeat'((first|apply bT|apply bF|apply bN|((first|apply bD|apply bEq|apply bNe)<;>intro hh<;>try(exfalso;omega))|refine wJ ?_|refine nJ ?_)<;>conv=>whnf))
   all_goals rfl
  ·conv=>whnf
   refine iaJ (getM jAV l k hk) ?_
   (conv=>whnf);(repeat'((first|apply bT|apply bF|apply bN|((first|apply bD|apply bEq|apply bNe)<;>intro hh<;>try(exfalso;omega))|refine wJ ?_|refine nJ ?_)<;>conv=>whnf))
   exact⟨k+1,mI,⟨by omega,take_none hk h2 (decide_eq_false hx)⟩,by omega⟩
 ·have:k=l.length:=by omega
  subst this
  rw[List.take_length]at h2
  rw[decide_eq_false (fun h=>by have:=h2 x h;simp at this)]
  (conv=>whnf);(repeat'((first|apply bT|apply bF|apply bN|((first|apply bD|apply bEq|apply bNe)<;>intro hh<;>try(exfalso;omega))|refine wJ ?_|refine nJ ?_)<;>conv=>whnf))
  all_goals rfl
def Ord.isW(s:Ord)(i:Int):Bool:=decide (0<=i/\i<s.ws.length)
def Ord.isP(s:Ord)(i:Int):Bool:=decide (0<=i/\i<s.ps.length)
def Ord.isD(s:Ord)(i:Int):Bool:=decide (0<=i/\i<s.ds.length)
theorem q61(s:Ord)(i:Int)(h:s.ws.length<=1000000):FnA Tryz.prog 61 [.agg s.cells, .int .i64 i] (· = .bool (s.isW i)):=by
 have hL:(s.ws.map Wish.av).length=s.ws.length:=by simp
 have e:=q104 i 0 (↑(s.ws.map Wish.av).length-1)
 have h2:decide (0<=i/\i <= ↑(s.ws.map Wish.av).length-1)=s.isW i:=decide_eq_decide.2 (by omega)
 rw[h2]at e
 refine fnA 1 ok61 (by simp) ?_
 (conv=>whnf);(repeat'((first|apply bT|apply bF|apply bN|((first|apply bD|apply bEq|apply bNe)<;>intro hh<;>try(exfalso;omega))|refine e.cq rfl rfl ?_|refine wJ ?_|refine nJ ?_)<;>conv=>whnf))
 all_goals rfl
theorem q77(s:Ord)(i:Int)(h:s.ps.length<=1000000):FnA Tryz.prog 77 [.agg s.cells, .int .i64 i] (· = .bool (s.isP i)):=by
 have hL:(s.ps.map Piece.av).length=s.ps.length:=by simp
 have e:=q104 i 0 (↑(s.ps.map Piece.av).length-1)
 have h2:decide (0<=i/\i <= ↑(s.ps.map Piece.av).length-1)=s.isP i:=decide_eq_decide.2 (by omega)
 rw[h2]at e
 refine fnA 1 ok77 (by simp) ?_
 (conv=>whnf);(repeat'((first|apply bT|apply bF|apply bN|((first|apply bD|apply bEq|apply bNe)<;>intro hh<;>try(exfalso;omega))|refine e.cq rfl rfl ?_|refine wJ ?_|refine nJ ?_)<;>conv=>whnf))
 all_goals rfl
theorem q68(s:Ord)(i:Int)(h:s.ds.length<=1000000):FnA Tryz.prog 68 [.agg s.cells, .int .i64 i] (· = .bool (s.isD i)):=by
 have hL:(s.ds.map Dlv.av).length=s.ds.length:=by simp
 have e:=q104 i 0 (↑(s.ds.map Dlv.av).length-1)
 have h2:decide (0<=i/\i <= ↑(s.ds.map Dlv.av).length-1)=s.isD i:=decide_eq_decide.2 (by omega)
 rw[h2]at e
 refine fnA 1 ok68 (by simp) ?_
 (conv=>whnf);(repeat'((first|apply bT|apply bF|apply bN|((first|apply bD|apply bEq|apply bNe)<;>intro hh<;>try(exfalso;omega))|refine e.cq rfl rfl ?_|refine wJ ?_|refine nJ ?_)<;>conv=>whnf))
 all_goals rfl
theorem q52(s:Ord)(i:Int)(h:s.ps.length<=1000000):FnA Tryz.prog 52 [.agg s.cells, .int .i64 i] (· = .bool (s.isP i)):=by
 have hL:(s.ps.map Piece.av).length=s.ps.length:=by simp
 have e:=q74 i 0 (↑(s.ps.map Piece.av).length-1)
 have h2:decide (0<=i/\i <= ↑(s.ps.map Piece.av).length-1)=s.isP i:=decide_eq_decide.2 (by omega)
 rw[h2]at e
 refine fnA 1 ok52 (by simp) ?_
 (conv=>whnf);(repeat'((first|apply bT|apply bF|apply bN|((first|apply bD|apply bEq|apply bNe)<;>intro hh<;>try(exfalso;omega))|refine e.cq rfl rfl ?_|refine wJ ?_|refine nJ ?_)<;>conv=>whnf))
 all_goals rfl
def zP:Piece:=⟨0,0,0,0,[]⟩
def zW:Wish:=⟨[],0,0,0,0,0⟩
def Ord.piece(s:Ord)(i:Int):Piece:=s.ps.getD i.toNat zP
def Ord.wish(s:Ord)(i:Int):Wish:=s.ws.getD i.toNat zW
theorem isW_iff{s:Ord}{i:Int}:s.isW i=true<->0<=i/\i<s.ws.length:=decide_eq_true_iff
theorem isP_iff{s:Ord}{i:Int}:s.isP i=true<->0<=i/\i<s.ps.length:=decide_eq_true_iff
theorem isD_iff{s:Ord}{i:Int}:s.isD i=true<->0<=i/\i<s.ds.length:=decide_eq_true_iff
theorem wget{s:Ord}{i:Int}(h:s.isW i=true):(s.ws.map Wish.av).getD i.toNat []=(s.wish i).av:=by
 have h:=isW_iff.1 h
 have:i.toNat<s.ws.length:=by omega
 rw[getM Wish.av s.ws _ this]
 unfold Ord.wish;simp[List.getD_eq_getElem?_getD,this]
theorem pget{s:Ord}{i:Int}(h:s.isP i=true):(s.ps.map Piece.av).getD i.toNat []=(s.piece i).av:=by
 have h:=isP_iff.1 h
 have:i.toNat<s.ps.length:=by omega
 rw[getM Piece.av s.ps _ this]
 unfold Ord.piece;simp[List.getD_eq_getElem?_getD,this]
theorem wish_mem{s:Ord}{i:Int}(h:s.isW i=true):s.wish i∈s.ws:=by
 have h:=isW_iff.1 h
 have:i.toNat<s.ws.length:=by omega
 unfold Ord.wish;simp[List.getD_eq_getElem?_getD,this]
theorem piece_mem{s:Ord}{i:Int}(h:s.isP i=true):s.piece i∈s.ps:=by
 have h:=isP_iff.1 h
 have:i.toNat<s.ps.length:=by omega
 unfold Ord.piece;simp[List.getD_eq_getElem?_getD,this]
theorem e1_val(s:Ord)(v:Bool):s.e1 v=0\/s.e1 v=1\/s.e1 v=70\/s.e1 v=71\/s.e1 v=80:=by
 unfold Ord.e1
 rcases ochk_val s with h|h|h|h<;>rw[h]<;>simp
 cases v<;>simp
theorem e1_0{s:Ord}{v:Bool}(h:s.e1 v=0):s.chk=0/\v=true:=by
 unfold Ord.e1 at h
 rcases ochk_val s with h1|h1|h1|h1<;>rw[h1]at h<;>simp at h
 cases v<;>simp at h
 exact⟨h1,rfl⟩
theorem q33(s:Ord)(hB:BigO s)(i j:Int):FnA Tryz.prog 33 [.agg s.cells, .int .i64 i, .int .i64 j] (· = .tup [.int .i64 (if s.e1 (s.isW i&&s.isP j)=0 then suitV (s.wish i) (s.piece j) else 0), .int .i64 (s.e1 (s.isW i&&s.isP j))]):=by
 have l1:(s.ws.map Wish.av).length=s.ws.length:=by simp
 have l2:(s.ps.map Piece.av).length=s.ps.length:=by simp
 have b1:=hB.ws
 have b2:=hB.ps
 have e1:=q61 s i hB.ws
 have e2:=q77 s j hB.ps
 have e3:=q67 s hB (s.isW i&&s.isP j)
 by_cases h:s.e1 (s.isW i&&s.isP j)=0
 ·rw[if_pos h]
  have hv:=(e1_0 h).2
  rw[h]at e3⊢
  rw[Bool.and_eq_true]at hv
  obtain⟨h1,h2⟩:=hv
  have i1:=isW_iff.1 h1
  have i2:=isP_iff.1 h2
  rw[h1]at e1 e3
  rw[h2]at e2 e3
  have e4:=q78 (s.wish i) (s.piece j) (hB.cs _ (wish_mem h1))
  refine fnA 1 ok33 (by simp) ?_
  (conv=>whnf);(repeat'((first|apply bT|apply bF|apply bN|((first|apply bD|apply bEq|apply bNe)<;>intro hh<;>try(exfalso;omega))|refine e1.cq rfl rfl ?_|refine e2.cq rfl rfl ?_|refine e3.cq rfl rfl ?_|refine e4.cq rfl rfl ?_|refine iaJ (wget h1) ?_|refine iaJ (pget h2) ?_|refine wJ ?_|refine nJ ?_)<;>conv=>whnf))
  all_goals rfl
 ·rw[if_neg h]
  refine fnA 1 ok33 (by simp) ?_
  generalize s.isW i=v1 at *
  generalize s.isP j=v2 at *
  cases v1
  ·rcases e1_val s (false&&v2)with h1|h1|h1|h1|h1<;>first|exact absurd h1 h|skip
   all_goals
    rw[h1]at e3⊢
    (conv=>whnf);(repeat'((first|apply bT|apply bF|apply bN|((first|apply bD|apply bEq|apply bNe)<;>intro hh<;>try(exfalso;omega))|refine e1.cq rfl rfl ?_|refine e3.cq rfl rfl ?_|refine wJ ?_|refine nJ ?_)<;>conv=>whnf))
    all_goals rfl
  ·rcases e1_val s (true&&v2)with h1|h1|h1|h1|h1<;>first|exact absurd h1 h|skip
   all_goals
    rw[h1]at e3⊢
    (conv=>whnf);(repeat'((first|apply bT|apply bF|apply bN|((first|apply bD|apply bEq|apply bNe)<;>intro hh<;>try(exfalso;omega))|refine e1.cq rfl rfl ?_|refine e2.cq rfl rfl ?_|refine e3.cq rfl rfl ?_|refine wJ ?_|refine nJ ?_)<;>conv=>whnf))
    all_goals rfl
def planP(n:Nat)(l:List Int):Prop:=(∀i,i<l.length->l.getD i 0 = -1\/0<=l.getD i 0/\l.getD i 0<n)/\∀i j,i<j->j<l.length->l.getD j 0 ≠ -1->l.getD i 0≠l.getD j 0
noncomputable instance (n:Nat) (l:List Int):Decidable (planP n l):=Classical.propDecidable _
noncomputable def Ord.isPl(s:Ord)(l:List Int):Bool:=decide (planP s.ps.length l/\l.length=s.ws.length)
theorem isPl_iff{s:Ord}{l:List Int}:s.isPl l=true<->planP s.ps.length l/\l.length=s.ws.length:=by unfold Ord.isPl;exact decide_eq_true_iff
theorem isPl_no{s:Ord}{l:List Int}(h:¬planP s.ps.length l):s.isPl l=false:=by
 cases hb:s.isPl l with
 |false=>rfl
 |true=>exact absurd (isPl_iff.1 hb).1 h
theorem isPl_len{s:Ord}{l:List Int}(h:planP s.ps.length l):s.isPl l=decide (l.length=s.ws.length):=by
 by_cases e:l.length=s.ws.length
 ·rw[decide_eq_true e];exact isPl_iff.2 ⟨h,e⟩
 ·rw[decide_eq_false e]
  cases hb:s.isPl l with
  |false=>rfl
  |true=>exact absurd (isPl_iff.1 hb).2 e
def tkn(l:List Int):List (Int × Bool):=l.foldl (fun W x=>putQ W x true) []
theorem tkn_succ{l:List Int}{k:Nat}(hk:k<l.length):tkn (l.take (k+1))=putQ (tkn (l.take k)) (l.getD k 0) true:=by
 unfold tkn
 rw[List.take_succ_eq_append_getElem hk,List.foldl_append]
 simp[List.getD_eq_getElem?_getD,hk]
theorem tkn_get(l:List Int):∀k,k<=l.length->∀x,getQ (tkn (l.take k)) x=if ∃i,i<k/\l.getD i 0=x then some true else none
 |0,_,x=>by rw[if_neg (fun⟨i,h,_⟩=>by omega)];rfl
 |k+1,hk,x=>by
  rw[tkn_succ (by omega),getQ_put,tkn_get l k (by omega)]
  by_cases h:x=l.getD k 0
  ·rw[if_pos h,if_pos ⟨k,by omega,h.symm⟩]
  ·rw[if_neg h]
   by_cases h2:∃i,i<k/\l.getD i 0=x
   ·rw[if_pos h2,if_pos (by obtain⟨i,a,b⟩:=h2;exact⟨i,by omega,b⟩)]
   ·rw[if_neg h2,if_neg]
    rintro⟨i,a,b⟩
    by_cases e:i=k
    ·subst e;exact h b.symm
    ·exact h2 ⟨i,by omega,b⟩
theorem tkn_len(l:List Int):∀k,k<=l.length->(tkn (l.take k)).length<=k
 |0,_=>by simp[tkn]
 |k+1,hk=>by
  rw[tkn_succ (by omega)]
  have:=tkn_len l k (by omega)
  have h2:∀(W:List (Int × Bool)) x,(putQ W x true).length<=W.length+1:=fun W x=>by
   induction W with
   |nil=>simp[putQ]
   |cons e W ih=>
    obtain⟨y,v⟩:=e
    simp only[putQ]
    split
    ·simp
    ·simp only[List.length_cons];omega
  have:=h2 (tkn (l.take k)) (l.getD k 0)
  omega
theorem q57(s:Ord)(l:List Int)(h:s.ps.length<=1000000)(hw:s.ws.length<=1000000)(hl:l.length<=1000000):FnA Tryz.prog 57 [.agg s.cells, .isl (l.map jAV)] (· = .bool (s.isPl l)):=by
 have lL:(l.map jAV).length=l.length:=by simp
 have lW:(s.ws.map Wish.av).length=s.ws.length:=by simp
 refine fnA 2 ok57 (by simp) ?_
 (conv=>whnf);(repeat'((first|apply bT|apply bF|apply bN|((first|apply bD|apply bEq|apply bNe)<;>intro hh<;>try(exfalso;omega))|refine wJ ?_|refine nJ ?_)<;>conv=>whnf))
 refine loop_i (α :=Nat) (fun k=>[(11, .int .i64 k),(10, .int .i64 ↑(l.map jAV).length),(9, .isl (l.map jAV)),(5, .row 1),(2, .own 0 0),(1, .isl (l.map jAV))]) (fun k=>[.box false s.cells, .mp false (kQ iK (tkn (l.take k))) (uQ AV.bool (tkn (l.take k)))]) (fun k=>k<=l.length/\(∀i,i<k->l.getD i 0 = -1\/0<=l.getD i 0/\l.getD i 0<s.ps.length)/\∀i j,i<j->j<k->l.getD j 0 ≠ -1->l.getD i 0≠l.getD j 0) (fun k=>l.length-k) 0 mI ⟨by omega,fun i hi=>by omega,fun i j _ hj=>by omega⟩ ?_
 rintro k ⟨k1,k2,k3⟩
 conv=>whnf
 refine bD (fun h4=>?_) (fun h4=>?_)
 ·have hk:k<l.length:=by omega
  have g1:=jget (l:=l) (i:=k) hk
  have e1:=q77 s (l.getD k 0) h
  have hlk:=mlook_Q iK_ok AV.bool (tkn (l.take k)) (l.getD k 0)
  have hmp:=mput_Q iK_ok AV.bool (tkn (l.take k)) (l.getD k 0) true
  rw[<- tkn_succ hk]at hmp
  have hgt:=tkn_get l k (by omega) (l.getD k 0)
  have hlen:=tkn_len l k (by omega)
  have stp:(l.getD k 0 = -1\/(0<=l.getD k 0/\l.getD k 0<s.ps.length)/\¬ ∃i,i<k/\l.getD i 0=l.getD k 0)->k+1<=l.length/\(∀i,i<k+1->l.getD i 0 = -1\/0<=l.getD i 0/\l.getD i 0<s.ps.length)/\∀i j,i<j->j<k+1->l.getD j 0 ≠ -1->l.getD i 0≠l.getD j 0:=fun hh=>by
   refine⟨by omega,fun i hi=>?_,fun i j hij hj hne=>?_⟩
   ·by_cases e:i=k
    ·subst e;exact hh.imp id fun q=>q.1
    ·exact k2 i (by omega)
   ·by_cases e:j=k
    ·subst e
     rcases hh with q|q
     ·exact absurd q hne
     ·exact fun e=>q.2 ⟨i,hij,e⟩
    ·exact k3 i j hij (by omega) hne
  by_cases h1:l.getD k 0 = -1
  ·(conv=>whnf);(repeat'((first|apply bT|apply bF|apply bN|((first|apply bD|apply bEq|apply bNe)<;>intro hh<;>try(exfalso;omega))|refine iaJ g1 ?_|refine wJ ?_|refine nJ ?_)<;>conv=>whnf))
   refine mpI hmp ?_
   (conv=>whnf);(repeat'((first|apply bT|apply bF|apply bN|((first|apply bD|apply bEq|apply bNe)<;>intro hh<;>try(exfalso;omega))|refine wJ ?_|refine nJ ?_)<;>conv=>whnf))
   exact⟨k+1,mI,stp (.inl h1),by omega⟩
  ·cases hp:s.isP (l.getD k 0)with
   |false=>
    rw[hp]at e1
    rw[isPl_no (s:=s) (l:=l) fun hq=>by
     rcases hq.1 k hk with q|q
     ·exact h1 q
     ·have:=isP_iff.2 q;rw[hp]at this;cases this]
    (conv=>whnf);(repeat'((first|apply bT|apply bF|apply bN|((first|apply bD|apply bEq|apply bNe)<;>intro hh<;>try(exfalso;omega))|refine iaJ g1 ?_|refine e1.cq rfl rfl ?_|refine wJ ?_|refine nJ ?_)<;>conv=>whnf))
    all_goals rfl
   |true=>
    rw[hp]at e1
    by_cases hx:∃i,i<k/\l.getD i 0=l.getD k 0
    ·rw[if_pos hx]at hgt
     rw[hgt]at hlk
     rw[isPl_no (s:=s) (l:=l) fun hq=>by obtain⟨i,a,b⟩:=hx;exact hq.2 i k a hk h1 b]
     (conv=>whnf);(repeat'((first|apply bT|apply bF|apply bN|((first|apply bD|apply bEq|apply bNe)<;>intro hh<;>try(exfalso;omega))|refine iaJ g1 ?_|refine e1.cq rfl rfl ?_|refine wJ ?_|refine nJ ?_)<;>conv=>whnf))
     refine lkI hlk ?_
     (conv=>whnf);(repeat'((first|apply bT|apply bF|apply bN|((first|apply bD|apply bEq|apply bNe)<;>intro hh<;>try(exfalso;omega))|refine wJ ?_|refine nJ ?_)<;>conv=>whnf))
     all_goals rfl
    ·rw[if_neg hx]at hgt
     rw[hgt]at hlk
     (conv=>whnf);(repeat'((first|apply bT|apply bF|apply bN|((first|apply bD|apply bEq|apply bNe)<;>intro hh<;>try(exfalso;omega))|refine iaJ g1 ?_|refine e1.cq rfl rfl ?_|refine wJ ?_|refine nJ ?_)<;>conv=>whnf))
     refine lkI hlk ?_
     (conv=>whnf);(repeat'((first|apply bT|apply bF|apply bN|((first|apply bD|apply bEq|apply bNe)<;>intro hh<;>try(exfalso;omega))|refine wJ ?_|refine nJ ?_)<;>conv=>whnf))
     refine mpI hmp ?_
     (conv=>whnf);(repeat'((first|apply bT|apply bF|apply bN|((first|apply bD|apply bEq|apply bNe)<;>intro hh<;>try(exfalso;omega))|refine wJ ?_|refine nJ ?_)<;>conv=>whnf))
     exact⟨k+1,mI,stp (.inr ⟨isP_iff.1 hp,hx⟩),by omega⟩
 ·have:k=l.length:=by omega
  subst this
  rw[isPl_len (s:=s) (l:=l) ⟨k2,k3⟩]
  (conv=>whnf);(repeat'((first|apply bT|apply bF|apply bN|((first|apply bD|apply bEq|apply bNe)<;>intro hh<;>try(exfalso;omega))|refine wJ ?_|refine nJ ?_)<;>conv=>whnf))
  all_goals exact congrArg AV.bool (decide_eq_decide.2 (by omega))
theorem q16(s:Ord)(l:List Int)(h:s.ps.length<=1000000)(hw:s.ws.length<=1000000)(hl:l.length<=1000000):FnA Tryz.prog 16 [.agg s.cells, .isl (l.map jAV)] (· = .bool (s.isPl l)):=by
 have lL:(l.map jAV).length=l.length:=by simp
 have lW:(s.ws.map Wish.av).length=s.ws.length:=by simp
 refine fnA 1 ok16 (by simp) ?_
 (conv=>whnf);(repeat'((first|apply bT|apply bF|apply bN|((first|apply bD|apply bEq|apply bNe)<;>intro hh<;>try(exfalso;omega))|refine wJ ?_|refine nJ ?_)<;>conv=>whnf))
 refine loop_i (α :=Nat) (fun k=>[(5, .int .i64 k),(2, .own 0 0),(1, .isl (l.map jAV))]) (fun k=>[.box false s.cells]) (fun k=>k<=l.length/\(∀i,i<k->l.getD i 0 = -1\/0<=l.getD i 0/\l.getD i 0<s.ps.length)/\∀i j,i<j->j<k->l.getD j 0 ≠ -1->l.getD i 0≠l.getD j 0) (fun k=>l.length-k) 0 mI ⟨by omega,fun i hi=>by omega,fun i j _ hj=>by omega⟩ ?_
 rintro k ⟨k1,k2,k3⟩
 conv=>whnf
 refine bD (fun h4=>?_) (fun h4=>?_)
 ·have hk:k<l.length:=by omega
  have g1:=jget (l:=l) (i:=k) hk
  have e1:=q52 s (l.getD k 0) h
  by_cases hgo:l.getD k 0 = -1\/s.isP (l.getD k 0)=true
  case neg=>
   have h1:¬l.getD k 0 = -1:=fun q=>hgo (.inl q)
   have hp:s.isP (l.getD k 0)=false:=by
    cases hp:s.isP (l.getD k 0)with
    |false=>rfl
    |true=>exact absurd (.inr hp) hgo
   rw[hp]at e1
   rw[isPl_no (s:=s) (l:=l) fun hq=>by
     rcases hq.1 k hk with q|q
     ·exact h1 q
     ·have:=isP_iff.2 q;rw[hp]at this;cases this]
   (conv=>whnf);(repeat'((first|apply bT|apply bF|apply bN|((first|apply bD|apply bEq|apply bNe)<;>intro hh<;>try(exfalso;omega))|refine iaJ g1 ?_|refine e1.cq rfl rfl ?_|refine wJ ?_|refine nJ ?_)<;>conv=>whnf))
   all_goals rfl
  have hin:l.getD k 0 = -1\/0<=l.getD k 0/\l.getD k 0<s.ps.length:=hgo.imp id fun q=>isP_iff.1 q
  have fin:∀i,i<k+1->l.getD i 0 = -1\/0<=l.getD i 0/\l.getD i 0<s.ps.length:=fun i hi=>by
   by_cases e:i=k
   ·subst e;exact hin
   ·exact k2 i (by omega)
  by_cases h1:l.getD k 0 = -1
  ·(conv=>whnf);(repeat'((first|apply bT|apply bF|apply bN|((first|apply bD|apply bEq|apply bNe)<;>intro hh<;>try(exfalso;omega))|refine iaJ g1 ?_|refine wJ ?_|refine nJ ?_)<;>conv=>whnf))
   refine loop_i (α :=Nat) (fun j=>[(6, .int .i64 j),(5, .int .i64 k),(2, .own 0 0),(1, .isl (l.map jAV))]) (fun j=>[.box false s.cells]) (fun j=>j<=k) (fun j=>k-j) 0 mI (by omega) ?_
   intro j hj0
   conv=>whnf
   refine bD (fun h5=>?_) (fun h5=>?_)
   ·have hj:j<k:=by omega
    have g2:=jget (l:=l) (i:=j) (by omega)
    (conv=>whnf);(repeat'((first|apply bT|apply bF|apply bN|((first|apply bD|apply bEq|apply bNe)<;>intro hh<;>try(exfalso;omega))|refine iaJ g1 ?_|refine iaJ g2 ?_|refine wJ ?_|refine nJ ?_)<;>conv=>whnf))
    all_goals exact⟨j+1,mI,by omega,by omega⟩
   ·(conv=>whnf);(repeat'((first|apply bT|apply bF|apply bN|((first|apply bD|apply bEq|apply bNe)<;>intro hh<;>try(exfalso;omega))|refine wJ ?_|refine nJ ?_)<;>conv=>whnf))
    refine⟨k+1,mI,⟨by omega,fin,fun i j hij hj hne=>?_⟩,by omega⟩
    by_cases e:j=k
    ·subst e;exact absurd h1 hne
    ·exact k3 i j hij (by omega) hne
  ·have hp:s.isP (l.getD k 0)=true:=hgo.resolve_left h1
   rw[hp]at e1
   (conv=>whnf);(repeat'((first|apply bT|apply bF|apply bN|((first|apply bD|apply bEq|apply bNe)<;>intro hh<;>try(exfalso;omega))|refine iaJ g1 ?_|refine e1.cq rfl rfl ?_|refine wJ ?_|refine nJ ?_)<;>conv=>whnf))
   refine loop_i (α :=Nat) (fun j=>[(6, .int .i64 j),(5, .int .i64 k),(2, .own 0 0),(1, .isl (l.map jAV))]) (fun j=>[.box false s.cells]) (fun j=>j<=k/\∀i,i<j->l.getD i 0≠l.getD k 0) (fun j=>k-j) 0 mI ⟨by omega,fun i hi=>by omega⟩ ?_
   rintro j ⟨hj0,hj2⟩
   conv=>whnf
   refine bD (fun h5=>?_) (fun h5=>?_)
   ·have hj:j<k:=by omega
    have g2:=jget (l:=l) (i:=j) (by omega)
    by_cases hx:l.getD j 0=l.getD k 0
    ·rw[isPl_no (s:=s) (l:=l) fun hq=>hq.2 j k hj hk h1 hx]
     (conv=>whnf);(repeat'((first|apply bT|apply bF|apply bN|((first|apply bD|apply bEq|apply bNe)<;>intro hh<;>try(exfalso;omega))|refine iaJ g1 ?_|refine iaJ g2 ?_|refine wJ ?_|refine nJ ?_)<;>conv=>whnf))
     all_goals rfl
    ·(conv=>whnf);(repeat'((first|apply bT|apply bF|apply bN|((first|apply bD|apply bEq|apply bNe)<;>intro hh<;>try(exfalso;omega))|refine iaJ g1 ?_|refine iaJ g2 ?_|refine wJ ?_|refine nJ ?_)<;>conv=>whnf))
     refine⟨j+1,mI,⟨by omega,fun i hi=>?_⟩,by omega⟩
     by_cases e:i=j
     ·subst e;exact hx
     ·exact hj2 i (by omega)
   ·(conv=>whnf);(repeat'((first|apply bT|apply bF|apply bN|((first|apply bD|apply bEq|apply bNe)<;>intro hh<;>try(exfalso;omega))|refine wJ ?_|refine nJ ?_)<;>conv=>whnf))
    refine⟨k+1,mI,⟨by omega,fin,fun i j hij hj hne=>?_⟩,by omega⟩
    by_cases e:j=k
    ·subst e;exact hj2 i (by omega)
    ·exact k3 i j hij (by omega) hne
 ·have:k=l.length:=by omega
  subst this
  rw[isPl_len (s:=s) (l:=l) ⟨k2,k3⟩]
  (conv=>whnf);(repeat'((first|apply bT|apply bF|apply bN|((first|apply bD|apply bEq|apply bNe)<;>intro hh<;>try(exfalso;omega))|refine wJ ?_|refine nJ ?_)<;>conv=>whnf))
  all_goals exact congrArg AV.bool (decide_eq_decide.2 (by omega))
def Tryz.growD_ren:Go.Shelf.Ren:=⟨fun|4=>109|n=>n,fun|22=>30|25=>45|3=>3|4=>4|9=>9|20=>20|0=>0|n=>n,fun|n=>n⟩
theorem Tryz.growD:Go.Proofs.Lays8.n4 Tryz.prog Tryz.growD_ren:={
 mixed:=by kernel_rfl
 f4:=⟨Tryz.f109.name,by decide,Tryz.func109.trans (congrArg some (by kernel_rfl))⟩
 t0:=Tryz.underlying0
 a0:=Tryz.isAgg0
 z0:=Tryz.sizeOf0
 v0:=Tryz.zeroValue0
 t3:=Tryz.underlying3
 a3:=Tryz.isAgg3
 z3:=Tryz.sizeOf3
 v3:=Tryz.zeroValue3
 t4:=Tryz.underlying4
 a4:=Tryz.isAgg4
 z4:=Tryz.sizeOf4
 v4:=Tryz.zeroValue4
 t9:=Tryz.underlying9
 a9:=Tryz.isAgg9
 z9:=Tryz.sizeOf9
 v9:=Tryz.zeroValue9
 t20:=Tryz.underlying20
 a20:=Tryz.isAgg20
 z20:=Tryz.sizeOf20
 v20:=Tryz.zeroValue20
 t22:=Tryz.underlying30
 a22:=Tryz.isAgg30
 z22:=Tryz.sizeOf30
 v22:=Tryz.zeroValue30 }
theorem info45:∃i z,Tryz.prog.info? 45=some i/\i.zero=some z/\i.size=3/\i.bytes=24/\z.cells.size=3:=⟨_,_,rfl,rfl,rfl,rfl,rfl⟩
theorem q109(n:Nat)(hn:n<=1000000):FnO Tryz.prog 109 [.nils, .int .i64 (n:Nat)] (fun r rows=>r = .row 0/\rows=[(0, .row false 45 3 [])]):=by
 intro imm w vs himm hargs
 simp only[RV0s,RV0]at hargs
 obtain⟨_,_,rfl,rfl,_,_,rfl,rfl,rfl⟩:=hargs
 by_cases h0:n=0
 ·subst h0
  have h:=Any8.slices_Grow_room Tryz.growD none 0 0 0 w (by omega) (by omega) (by omega) (by omega)
  refine h.mono fun e w' hw=>?_
  obtain⟨rfl,rfl⟩:=hw
  refine⟨_,_,_,imm,fun i=>if i=0 then some ⟨0, .slice none 0 0⟩ else none,rfl,⟨rfl,rfl⟩,?_,rfl,?_,Go.RowKit.Below.refl _ _,fun b hb=>hb,fun b hb=>.inl hb⟩
  ·simp only[RV];exact⟨_,rfl,rfl⟩
  ·simp only[OwnRows]
   refine⟨⟨45,3,[],⟨0, .slice none 0 0⟩,[],rfl,rfl,⟨rfl, .inl ⟨rfl,rfl⟩⟩,?_,by simp,?_,by simp⟩,trivial⟩
   ·simp[RV0s]
   ·intro b hb;simp[Value.ownBlock]at hb
 ·obtain⟨i0,z,hi0,hz0,hs,hb,hzc⟩:=info45
  have h:=Any8.slices_Grow_grow Tryz.growD i0 z hi0 hz0 (by omega) none 0 0 n [] w (by omega) (by omega) (by rw[hb];omega) (by omega) (by simp) (fun _=>rfl) (fun a ha=>by cases ha)
  refine h.mono fun e w' hw=>?_
  obtain⟨rfl,hw⟩:=hw
  have hG:grownCap w (0+n) 0 (Tryz.growD_ren.t 25)=grownCap w (0+n) 0 45:=rfl
  have hE:Tryz.growD_ren.t 25=45:=rfl
  rw[hE]at hw
  have hGn:0+n<=grownCap w (0+n) 0 45:=grownCap_ge w _ _ _
  have hG63:=grownCap_le_maxLen w (0+n) 0 45 (by unfold maxLen;omega)
  rw[hE]
  generalize grownCap w (0+n) 0 45=G at *
  have hbel:Go.RowKit.Below w.heap.size w w':=by
   subst hw
   exact(Go.RowKit.Below.refl w.heap.size w).drew.alloc (Nat.le_refl _) _
  have hat:w'.heap[w.heap.size]?=some (.cells (#[]++Builtin.zeroCells z.cells (0+n-0)++Builtin.zeroCells z.cells (G-(0+n))) 45 (0,0)):=by
   subst hw
   have h:=heap_alloc_new (w:=w.drew) (.cells (#[]++Builtin.zeroCells z.cells (0+n-0)++Builtin.zeroCells z.cells (G-(0+n))) 45)
   exact h
  have hsz:∀m,(Builtin.zeroCells z.cells m).size=m*3:=fun m=>by
   rw[<- hzc];exact Go.size_zeroCells _ _
  have hbm:w.heap.size<w'.heap.size:=(Array.getElem?_eq_some_iff.1 hat).1
  refine⟨_,_,_,imm,fun i=>if i=0 then some ⟨w.heap.size, .slice (some ⟨w.heap.size,0,none⟩) 0 G⟩ else none,rfl,⟨rfl,rfl⟩,?_,rfl,?_,hbel,fun b hb=>hb,fun b hb=>.inl hb⟩
  ·simp only[RV];exact⟨_,rfl,rfl⟩
  ·simp only[OwnRows]
   refine⟨⟨45,3,[],⟨w.heap.size, .slice (some ⟨w.heap.size,0,none⟩) 0 G⟩,[],rfl,rfl,⟨rfl, .inr ⟨w.heap.size,G,_,rfl,by omega,hat,by simp,hG63,?_,by simp⟩⟩,?_,by simp,?_,by simp⟩,trivial⟩
   ·simp only[Array.size_append,hsz,Array.size_empty];omega
   ·simp[RV0s]
   ·intro b hb
    simp only[Value.ownBlock,Option.some.injEq]at hb
    subst hb
    exact⟨Nat.le_refl _,hbm,fun hi=>by have:=(himm _ hi).lt;omega⟩
def dsAV(l:List Dlv):List AV:=[.isl (l.map Dlv.av)]
theorem flat_take{LL:List (List Dlv)}{k:Nat}(hk:k<LL.length):(LL.take (k+1)).flatten=(LL.take k).flatten++LL[k]:=by
 rw[List.take_succ_eq_append_getElem hk,List.flatten_append];simp
theorem flat_le(LL:List (List Dlv))(k:Nat):(LL.take k).flatten.length<=LL.flatten.length:=by
 have h:=congrArg List.length (congrArg List.flatten (List.take_append_drop k LL))
 rw[List.flatten_append,List.length_append]at h
 omega
theorem dl_one(l:List Dlv):∀e∈l.map Dlv.av,e.length=3/\e.all AV.one=true:=fun e he=>by
 obtain⟨x,_,rfl⟩:=List.mem_map.1 he;exact⟨rfl,rfl⟩
theorem q69(LL:List (List Dlv))(hl:LL.length<=1000)(hf:LL.flatten.length<=1000000):FnA Tryz.prog 69 [.isl (LL.map dsAV)] (· = .isl (LL.flatten.map Dlv.av)):=by
 have lL:(LL.map dsAV).length=LL.length:=by simp
 refine fnA 2 ok69 (by simp) ?_
 (conv=>whnf);(repeat'((first|apply bT|apply bF|apply bN|((first|apply bD|apply bEq|apply bNe)<;>intro hh<;>try(exfalso;omega))|refine wJ ?_|refine nJ ?_)<;>conv=>whnf))
 refine loop_i (α :=Nat) (fun k=>[(11, .int .i64 k),(10, .int .i64 ↑(LL.map dsAV).length),(9, .isl (LL.map dsAV)),(3, .int .i64 ↑(LL.take k).flatten.length),(0, .isl (LL.map dsAV))]) (fun k=>[.fresh, .fresh]) (fun k=>k<=LL.length) (fun k=>LL.length-k) 0 ?_ (by omega) ?_
 ·simp only[List.take_zero,List.flatten_nil,List.length_nil,Int.natCast_zero];exact mI
 intro k hk0
 conv=>whnf
 refine bD (fun h4=>?_) (fun h4=>?_)
 ·have hk:k<LL.length:=by omega
  have g1:(LL.map dsAV).getD k []=[.isl (LL[k].map Dlv.av)]:=getM dsAV LL k hk
  have hft:=flat_take hk
  have hle:=flat_le LL (k+1)
  have lk:(LL[k].map Dlv.av).length=LL[k].length:=by simp
  have hlen:((LL.take (k+1)).flatten.length:Int) = ↑(LL.take k).flatten.length + ↑(LL[k].map Dlv.av).length:=by rw[hft,List.length_append,lk];simp
  have hle2:(LL.take (k+1)).flatten.length<=1000000:=by omega
  (conv=>whnf);(repeat'((first|apply bT|apply bF|apply bN|((first|apply bD|apply bEq|apply bNe)<;>intro hh<;>try(exfalso;omega))|refine iaJ g1 ?_|refine wJ ?_|refine nJ ?_)<;>conv=>whnf))
  refine⟨k+1,?_,by omega,by omega⟩
  simp only[hlen]
  exact mI
 have:k=LL.length:=by omega
 subst this
 rw[List.take_length]
 have e1:=q109 LL.flatten.length hf
 clear h4 hk0
 (conv=>whnf);(repeat'((first|apply bT|apply bF|apply bN|((first|apply bD|apply bEq|apply bNe)<;>intro hh<;>try(exfalso;omega))|refine wJ ?_|refine nJ ?_)<;>conv=>whnf))
 refine e1.callzn rfl rfl (fun _ _ h=>?_);obtain⟨h,k⟩:=h;subst h;subst k;refine⟨rfl,?_⟩
 (conv=>whnf);(repeat'((first|apply bT|apply bF|apply bN|((first|apply bD|apply bEq|apply bNe)<;>intro hh<;>try(exfalso;omega))|refine wJ ?_|refine nJ ?_)<;>conv=>whnf))
 refine loop_i (α :=Nat) (fun k=>[(27, .int .i64 k),(26, .int .i64 ↑(LL.map dsAV).length),(25, .isl (LL.map dsAV)),(6, .row 0)]) (fun k=>[.row false 45 3 ((LL.take k).flatten.map Dlv.av), .fresh]) (fun k=>k<=LL.length) (fun k=>LL.length-k) 0 mI (by omega) ?_
 intro k hk0
 conv=>whnf
 refine bD (fun h4=>?_) (fun h4=>?_)
 ·have hk:k<LL.length:=by omega
  have g1:(LL.map dsAV).getD k []=[.isl (LL[k].map Dlv.av)]:=getM dsAV LL k hk
  have hft:=flat_take hk
  have hle:=flat_le LL (k+1)
  have hm:((LL.take (k+1)).flatten).map Dlv.av=(LL.take k).flatten.map Dlv.av++LL[k].map Dlv.av:=by rw[hft,List.map_append]
  have hn:(LL.take (k+1)).flatten.length=(LL.take k).flatten.length+LL[k].length:=by rw[hft,List.length_append]
  (conv=>whnf);(repeat'((first|apply bT|apply bF|apply bN|((first|apply bD|apply bEq|apply bNe)<;>intro hh<;>try(exfalso;omega))|refine iaJ g1 ?_|refine wJ ?_|refine nJ ?_)<;>conv=>whnf))
  refine apI (dl_one _) (by simp only[List.length_map];omega) ?_
  (conv=>whnf);(repeat'((first|apply bT|apply bF|apply bN|((first|apply bD|apply bEq|apply bNe)<;>intro hh<;>try(exfalso;omega))|refine wJ ?_|refine nJ ?_)<;>conv=>whnf))
  refine⟨k+1,?_,by omega,by omega⟩
  simp only[hm]
  exact(mR 0 1)
 have:k=LL.length:=by omega
 subst this
 rw[List.take_length]
 (conv=>whnf);(repeat'((first|apply bT|apply bF|apply bN|((first|apply bD|apply bEq|apply bNe)<;>intro hh<;>try(exfalso;omega))|refine wJ ?_|refine nJ ?_)<;>conv=>whnf))
 all_goals rfl
abbrev JobK:=Int × Int
def jobK(j:JobK):AV:=.agg [.int .i64 j.1, .int .i64 j.2]
def jobT:EqT:=.node [(0,1,(.leaf true)),(1,1,(.leaf true))]
theorem jobK_ok:KeyOk (.st jobT) jobK:=⟨fun _=>rfl,fun x y=>by
 have h1:eqV jobT [.int .i64 x.1, .int .i64 x.2] [.int .i64 y.1, .int .i64 y.2]=some (x.1==y.1&&(x.2==y.2&&true)):=rfl
 have h2:scEq [.int .i64 x.1, .int .i64 x.2] [.int .i64 y.1, .int .i64 y.2]=some (x.1==y.1&&(x.2==y.2&&true)):=rfl
 show(match eqV jobT [.int .i64 x.1, .int .i64 x.2] [.int .i64 y.1, .int .i64 y.2],scEq [.int .i64 x.1, .int .i64 x.2] [.int .i64 y.1, .int .i64 y.2]with
  |some r,some q=>if r=q then some r else none
  |_,_=>none)=_
 rw[h1,h2]
 simp only[if_true]
 congr 1
 obtain⟨a,b⟩:=x;obtain⟨c,d⟩:=y
 by_cases e1:a=c<;>by_cases e2:b=d<;>simp[e1,e2]⟩
def isA(l:List Int):AV:=.isl (l.map jAV)
def Ord.fitL(s:Ord)(j:JobK):List Int:=((List.range s.st.length).map fun i:Nat=>(i:Int)).filter fun i=>decide (s.w.fitsV i j.1 j.2=1)
def Ord.fitK(s:Ord)(j:JobK)(k:Nat):List Int:=((List.range k).map fun i:Nat=>(i:Int)).filter fun i=>decide (s.w.fitsV i j.1 j.2=1)
theorem fitK_yes{s:Ord}{j:JobK}{k:Nat}(h:s.w.fitsV (k:Nat) j.1 j.2=1):s.fitK j (k+1)=s.fitK j k++[(k:Int)]:=by
 unfold Ord.fitK;rw[List.range_succ,List.map_append,List.filter_append];simp[h]
theorem fitK_no{s:Ord}{j:JobK}{k:Nat}(h:¬s.w.fitsV (k:Nat) j.1 j.2=1):s.fitK j (k+1)=s.fitK j k:=by
 unfold Ord.fitK;rw[List.range_succ,List.map_append,List.filter_append];simp[h]
theorem fitK_len(s:Ord)(j:JobK)(k:Nat):(s.fitK j k).length<=k:=by
 unfold Ord.fitK;have:=List.length_filter_le (fun i:Int=>decide (s.w.fitsV i j.1 j.2=1)) ((List.range k).map fun i:Nat=>(i:Int));simpa using this
def stD(s:Ord)(k:Nat):List Dlv:=(List.range k).map fun i=>⟨0,(i:Nat),s.st.getD i 0⟩
def Ord.sup(s:Ord):List Dlv:=stD s s.st.length++s.ds
theorem stD_succ(s:Ord)(k:Nat):stD s (k+1)=stD s k++[⟨0,(k:Nat),s.st.getD k 0⟩]:=by unfold stD;rw[List.range_succ,List.map_append];rfl
theorem stD_len(s:Ord)(k:Nat):(stD s k).length=k:=by simp[stD]
def MapOk(s:Ord)(F:List (JobK × List Int)):Prop:=∀j v,getQ F j=some v->v=s.fitL j
def Ord.learn1(s:Ord)(F:List (JobK × List Int))(j:JobK):List (JobK × List Int):=match getQ F j with
 |some _=>F
 |none=>putQ F j (s.fitL j)
theorem learn_ok{s:Ord}{F:List (JobK × List Int)}(h:MapOk s F)(j:JobK):MapOk s (s.learn1 F j):=fun k v hk=>by
 unfold Ord.learn1 at hk
 split at hk
 ·exact h k v hk
 ·rw[getQ_put]at hk
  split at hk
  ·rename_i e;subst e;cases hk;rfl
  ·exact h k v hk
theorem learn_has(s:Ord)(F:List (JobK × List Int))(j:JobK):(getQ (s.learn1 F j) j).isSome=true:=by
 unfold Ord.learn1
 split
 ·rename_i v hv;rw[hv];rfl
 ·rw[getQ_put,if_pos rfl];rfl
theorem learn_keep{s:Ord}{F:List (JobK × List Int)}{j k:JobK}(h:(getQ F k).isSome=true):(getQ (s.learn1 F j) k).isSome=true:=by
 unfold Ord.learn1
 split
 ·exact h
 ·rw[getQ_put];split
  ·rfl
  ·exact h
theorem putQ_len{κ V:Type}[DecidableEq κ](W:List (κ × V))(x : κ)(w:V):(putQ W x w).length<=W.length+1:=by
 induction W with
 |nil=>simp[putQ]
 |cons e W ih=>
  obtain⟨y,v⟩:=e
  simp only[putQ]
  split
  ·simp
  ·simp only[List.length_cons];omega
theorem learn_len(s:Ord)(F:List (JobK × List Int))(j:JobK):(s.learn1 F j).length<=F.length+1:=by
 unfold Ord.learn1
 split
 ·omega
 ·exact putQ_len _ _ _
def Ord.box(s:Ord)(x9 x10 x11:AV):List AV:=[.isl (s.w.sps.map Spare.av), .isl (s.w.mks.map mkAV), .int .i64 s.w.cut, .isl (s.w.tb.map Trial.av), .isl (s.st.map jAV), .isl (s.ps.map Piece.av), .isl (s.ws.map Wish.av), .isl (s.ds.map Dlv.av), .int .i64 s.cv,x9,x10,x11]
def lrnIns(s:Ord)(F:List (JobK × List Int)):List Res:=[.box false (s.box (.row 1) (.row 2) .nils), .row false 45 3 (s.sup.map Dlv.av), .mp false (kQ jobK F) (uQ isA F)]
theorem chk0_ok{s:Ord}(h:s.chk=0):s.w.chk=0/\okOrd s=true:=by
 unfold Ord.chk at h
 rcases chk_val s.w with h1|h1|h1<;>rw[h1]at h<;>simp at h
 ·cases hb:okOrd s with
  |true=>exact⟨h1,rfl⟩
  |false=>rw[hb]at h;simp at h
structure OkO(s:Ord):Prop where
 w:Ok s.w
 chk:s.w.chk=0
 st1:s.st.length=s.w.sps.length
 st2:∀n∈s.st,0<=n/\n<=10
 p1:s.ps.length<=8
 p2:∀p∈s.ps,okPi s.w p=true
 w1:s.ws.length<=6
 w2:∀w∈s.ws,okWi w=true
 d1:s.ds.length<=8
 d2:∀d∈s.ds,okDl s.st.length d=true
 cv:0<=s.cv/\s.cv<=99
theorem okO{s:Ord}(h:s.chk=0):OkO s:=by
 obtain⟨h1,h2⟩:=chk0_ok h
 unfold okOrd at h2
 simp only[Bool.and_eq_true,List.all_eq_true,decide_eq_true_eq]at h2
 obtain⟨⟨⟨⟨⟨⟨⟨⟨a1,a2⟩,a3⟩,a4⟩,a5⟩,a6⟩,a7⟩,a8⟩,a9⟩:=h2
 exact⟨chk_ok h1,h1,a1,a2,a3,a4,a5,a6,a7,a8,of_decide_eq_true a9⟩
theorem OkO.big{s:Ord}(h:OkO s):s.w.sps.length<=1000000/\s.w.mks.length<=1000000/\∀x∈s.w.mks,x.length<=1000000:=by
 have:=h.w.big
 exact⟨this.s,this.m,fun x hx=>(this.sl x hx).1⟩
theorem eO_true{w:Shop}(h1:w.chk=0)(h2:w.noT=false):w.eO true=0:=by unfold Shop.eO;rw[h1,h2];rfl
def Ord.isJ(s:Ord)(j:JobK):Bool:=s.w.isSl j.1 j.2
theorem w95(s:Ord)(hk:OkO s)(hT:s.w.noT=false)(F:List (JobK × List Int))(hF:F.length<=1000)(j:JobK)(hj:s.isJ j=true):FnW Tryz.prog 95 [.own 0 0, .agg [.int .i64 j.1, .int .i64 j.2]] (lrnIns s F) (fun r outs=>r = .tup []/\outs=lrnIns s (s.learn1 F j)):=by
 have hst:=hk.st1
 have hs1:=hk.w.s1
 have lS:(s.st.map jAV).length=s.st.length:=by simp
 have hlk:=mlook_Q jobK_ok isA F j
 obtain⟨b1,b2,b3⟩:=hk.big
 refine fnW 4 [] ok95 (by simp) rfl rfl ?_
 cases hg:getQ F j with
 |some v=>
  have hl:s.learn1 F j=F:=by unfold Ord.learn1;rw[hg]
  rw[hg]at hlk
  rw[hl]
  (conv=>whnf);(repeat'((first|apply bT|apply bF|apply bN|((first|apply bD|apply bEq|apply bNe)<;>intro hh<;>try(exfalso;omega))|refine wJ ?_|refine nJ ?_)<;>conv=>whnf))
  refine lkI hlk ?_
  (conv=>whnf);(repeat'((first|apply bT|apply bF|apply bN|((first|apply bD|apply bEq|apply bNe)<;>intro hh<;>try(exfalso;omega))|refine wJ ?_|refine nJ ?_)<;>conv=>whnf))
  all_goals exact⟨rfl,rfl⟩
 |none=>
  have hl:s.learn1 F j=putQ F j (s.fitL j):=by unfold Ord.learn1;rw[hg]
  have hmp:=mput_Q jobK_ok isA F j (s.fitL j)
  rw[hg]at hlk
  rw[hl]
  (conv=>whnf);(repeat'((first|apply bT|apply bF|apply bN|((first|apply bD|apply bEq|apply bNe)<;>intro hh<;>try(exfalso;omega))|refine wJ ?_|refine nJ ?_)<;>conv=>whnf))
  refine lkI hlk ?_
  (conv=>whnf);(repeat'((first|apply bT|apply bF|apply bN|((first|apply bD|apply bEq|apply bNe)<;>intro hh<;>try(exfalso;omega))|refine wJ ?_|refine nJ ?_)<;>conv=>whnf))
  refine loop_i (α :=Nat) (fun k=>[(26, .int .i64 k),(25, .int .i64 ↑(s.st.map jAV).length),(6, .row 3),(3, .own 0 0),(0, .own 4 0)]) (fun k=>[.box false [.int .i64 j.1, .int .i64 j.2], .fresh, .fresh, .row false 3 1 ((s.fitK j k).map jAV), .box false (s.box (.row 5) (.row 6) .nils), .row false 45 3 (s.sup.map Dlv.av), .mp false (kQ jobK F) (uQ isA F)]) (fun k=>k<=s.st.length) (fun k=>s.st.length-k) 0 (mN 3) (by omega) ?_
  intro k hk0
  conv=>whnf
  refine bD (fun h3=>?_) (fun h3=>?_)
  ·have hkl:k<s.st.length:=by omega
   have hsp:s.w.isSp (k:Nat)=true:=isSp_iff.2 ⟨by omega,by omega⟩
   have hE:s.w.eO (s.w.isSp (k:Nat)&&s.w.isSl j.1 j.2)=0:=by
    have hj':s.w.isSl j.1 j.2=true:=hj
    rw[hsp,hj'];exact eO_true hk.chk hT
   have e1:=p21 s.w (k:Nat) j.1 j.2 b1 b2 b3 hE
   have hfl:=fitK_len s j k
   have lf:((s.fitK j k).map jAV).length=(s.fitK j k).length:=by simp
   by_cases hx:s.w.fitsV (k:Nat) j.1 j.2=1
   ·have hs:(s.fitK j (k+1)).map jAV=(s.fitK j k).map jAV++[[.int .i64 (k:Nat)]]:=by rw[fitK_yes hx,List.map_append];rfl
    rw[hx]at e1
    (conv=>whnf);(repeat'((first|apply bT|apply bF|apply bN|((first|apply bD|apply bEq|apply bNe)<;>intro hh<;>try(exfalso;omega))|refine e1.cq rfl rfl ?_|refine wJ ?_|refine nJ ?_)<;>conv=>whnf))
    refine apI (by simp[AV.one]) (by simp;omega) ?_
    (conv=>whnf);(repeat'((first|apply bT|apply bF|apply bN|((first|apply bD|apply bEq|apply bNe)<;>intro hh<;>try(exfalso;omega))|refine wJ ?_|refine nJ ?_)<;>conv=>whnf))
    refine⟨k+1,?_,by omega,by omega⟩
    simp only[hs]
    exact(mR 3 2)
   ·have hs:=fitK_no (s:=s) (j:=j) (k:=k) hx
    rcases fits_3 s.w (k:Nat) j.1 j.2 with h|h|h
    ·exact absurd h hx
    all_goals
     rw[h]at e1
     (conv=>whnf);(repeat'((first|apply bT|apply bF|apply bN|((first|apply bD|apply bEq|apply bNe)<;>intro hh<;>try(exfalso;omega))|refine e1.cq rfl rfl ?_|refine wJ ?_|refine nJ ?_)<;>conv=>whnf))
     refine⟨k+1,?_,by omega,by omega⟩
     simp only[hs]
     exact mI
  ·have:k=s.st.length:=by omega
   subst this
   (conv=>whnf);(repeat'((first|apply bT|apply bF|apply bN|((first|apply bD|apply bEq|apply bNe)<;>intro hh<;>try(exfalso;omega))|refine wJ ?_|refine nJ ?_)<;>conv=>whnf))
   refine mpI hmp ?_
   (conv=>whnf);(repeat'((first|apply bT|apply bF|apply bN|((first|apply bD|apply bEq|apply bNe)<;>intro hh<;>try(exfalso;omega))|refine wJ ?_|refine nJ ?_)<;>conv=>whnf))
   all_goals exact⟨rfl,rfl⟩
structure Opt where
 pc:Int
 rep:List (List Int)
def Opt.av(o:Opt):List AV:=[.int .i64 o.pc, .isl (o.rep.map fAV)]
def optsAV(l:List Opt):List AV:=[.isl (l.map Opt.av)]
def Ord.stC(s:Ord)(F:List (JobK × List Int))(O:List (List Opt)):List AV:=s.box (.isl (s.sup.map Dlv.av)) (.imp (kQ jobK F) (uQ isA F)) (.isl (O.map optsAV))
def stIns(s:Ord)(F:List (JobK × List Int))(O:List (List Opt)):List Res:=[.box false (s.box (.row 1) (.row 2) (.row 3)), .row false 45 3 (s.sup.map Dlv.av), .mp false (kQ jobK F) (uQ isA F), .row false 96 1 (O.map optsAV)]
def Ord.su(s:Ord)(i:Nat):Dlv:=s.sup.getD i ⟨0,0,0⟩
def Ord.serves(s:Ord)(l:List Int)(by_:Int)(i:Nat):Bool:=decide ((s.su i).day<=by_)&&decide ((s.su i).sp∈l)
def Ord.inK(s:Ord)(l:List Int)(by_:Int)(k:Nat):List Int:=((List.range k).filter (s.serves l by_)).map fun i:Nat=>(i:Int)
def Ord.inT(s:Ord)(l:List Int)(by_:Int):List Int:=s.inK l by_ s.sup.length
theorem inK_yes{s:Ord}{l:List Int}{b:Int}{k:Nat}(h:s.serves l b k=true):s.inK l b (k+1)=s.inK l b k++[(k:Int)]:=by
 unfold Ord.inK;rw[List.range_succ,List.filter_append,List.map_append];simp[h]
theorem inK_no{s:Ord}{l:List Int}{b:Int}{k:Nat}(h:s.serves l b k=false):s.inK l b (k+1)=s.inK l b k:=by
 unfold Ord.inK;rw[List.range_succ,List.filter_append,List.map_append];simp[h]
theorem inK_len(s:Ord)(l:List Int)(b:Int)(k:Nat):(s.inK l b k).length<=k:=by
 unfold Ord.inK;have:=List.length_filter_le (s.serves l b) (List.range k);simpa using this
theorem inT_mem{s:Ord}{l:List Int}{b:Int}{x:Int}:x∈s.inT l b<->(0<=x/\x<s.sup.length)/\s.serves l b x.toNat=true:=by
 unfold Ord.inT Ord.inK
 simp only[List.mem_map,List.mem_filter,List.mem_range]
 constructor
 ·rintro⟨n,⟨h1,h2⟩,rfl⟩;exact⟨by omega,by simpa using h2⟩
 ·rintro⟨h1,h2⟩;exact⟨x.toNat,⟨by omega,h2⟩,by omega⟩
theorem sup_len{s:Ord}(hk:OkO s):s.sup.length<=18:=by
 have:=hk.st1;have:=hk.w.s1;have:=hk.d1
 unfold Ord.sup;rw[List.length_append,stD_len];omega
theorem suget{s:Ord}{k:Nat}(h:k<s.sup.length):(s.sup.map Dlv.av).getD k []=(s.su k).av:=by
 rw[getM Dlv.av s.sup k h];unfold Ord.su;simp[List.getD_eq_getElem?_getD,h]
theorem q133(s:Ord)(hk:OkO s)(F:List (JobK × List Int))(O:List (List Opt))(l:List Int)(hl:l.length<=1000000)(b:Int):FnA Tryz.prog 133 [.ipt (s.stC F O), .isl (l.map jAV), .int .i64 b] (· = .isl ((s.inT l b).map jAV)):=by
 have hsl:=sup_len hk
 have lS:(s.sup.map Dlv.av).length=s.sup.length:=by simp
 refine fnA 4 ok133 (by simp) ?_
 (conv=>whnf);(repeat'((first|apply bT|apply bF|apply bN|((first|apply bD|apply bEq|apply bNe)<;>intro hh<;>try(exfalso;omega))|refine wJ ?_|refine nJ ?_)<;>conv=>whnf))
 refine loop_i (α :=Nat) (fun k=>[(15, .int .i64 k),(14, .int .i64 ↑(s.sup.map Dlv.av).length),(13, .isl (s.sup.map Dlv.av)),(7, .row 3),(2, .int .i64 b),(1, .isl (l.map jAV))]) (fun k=>[.fresh, .fresh, .fresh, .row false 3 1 ((s.inK l b k).map jAV)]) (fun k=>k<=s.sup.length) (fun k=>s.sup.length-k) 0 (mN 3) (by omega) ?_
 intro k hk0
 conv=>whnf
 refine bD (fun h3=>?_) (fun h3=>?_)
 ·have hkl:k<s.sup.length:=by omega
  have g1:=suget hkl
  have e1:=p89 l (s.su k).sp hl
  have hfl:=inK_len s l b k
  have lf:((s.inK l b k).map jAV).length=(s.inK l b k).length:=by simp
  have hyes:s.serves l b k=true->(s.inK l b (k+1)).map jAV=(s.inK l b k).map jAV++[[.int .i64 (k:Nat)]]:=fun h=>by rw[inK_yes h,List.map_append];rfl
  by_cases h1:(s.su k).day<=b
  ·by_cases h2:(s.su k).sp∈l
   ·have hs:=hyes (by unfold Ord.serves;rw[decide_eq_true h1,decide_eq_true h2];rfl)
    rw[decide_eq_true h2]at e1
    (conv=>whnf);(repeat'((first|apply bT|apply bF|apply bN|((first|apply bD|apply bEq|apply bNe)<;>intro hh<;>try(exfalso;omega))|refine iaJ g1 ?_|refine e1.cq rfl rfl ?_|refine wJ ?_|refine nJ ?_)<;>conv=>whnf))
    refine apI (by simp[AV.one]) (by simp;omega) ?_
    (conv=>whnf);(repeat'((first|apply bT|apply bF|apply bN|((first|apply bD|apply bEq|apply bNe)<;>intro hh<;>try(exfalso;omega))|refine wJ ?_|refine nJ ?_)<;>conv=>whnf))
    refine⟨k+1,?_,by omega,by omega⟩
    simp only[hs]
    exact(mR 3 2)
   ·have hs:=inK_no (s:=s) (l:=l) (b:=b) (k:=k) (by unfold Ord.serves;rw[decide_eq_true h1,decide_eq_false h2];rfl)
    rw[decide_eq_false h2]at e1
    (conv=>whnf);(repeat'((first|apply bT|apply bF|apply bN|((first|apply bD|apply bEq|apply bNe)<;>intro hh<;>try(exfalso;omega))|refine iaJ g1 ?_|refine e1.cq rfl rfl ?_|refine wJ ?_|refine nJ ?_)<;>conv=>whnf))
    refine⟨k+1,?_,by omega,by omega⟩
    simp only[hs]
    exact mI
  ·have hs:=inK_no (s:=s) (l:=l) (b:=b) (k:=k) (by unfold Ord.serves;rw[decide_eq_false h1];rfl)
   (conv=>whnf);(repeat'((first|apply bT|apply bF|apply bN|((first|apply bD|apply bEq|apply bNe)<;>intro hh<;>try(exfalso;omega))|refine iaJ g1 ?_|refine wJ ?_|refine nJ ?_)<;>conv=>whnf))
   refine⟨k+1,?_,by omega,by omega⟩
   simp only[hs]
   exact mI
 ·have:k=s.sup.length:=by omega
  subst this
  (conv=>whnf);(repeat'((first|apply bT|apply bF|apply bN|((first|apply bD|apply bEq|apply bNe)<;>intro hh<;>try(exfalso;omega))|refine wJ ?_|refine nJ ?_)<;>conv=>whnf))
  all_goals rfl
theorem w133(s:Ord)(hk:OkO s)(F:List (JobK × List Int))(O:List (List Opt))(l:List Int)(hl:l.length<=1000000)(b:Int):FnW Tryz.prog 133 [.own 0 0, .isl (l.map jAV), .int .i64 b] (stIns s F O) (fun r outs=>r = .isl ((s.inT l b).map jAV)/\outs=stIns s F O):=by
 have hsl:=sup_len hk
 have lS:(s.sup.map Dlv.av).length=s.sup.length:=by simp
 refine fnW 4 [] ok133 (by simp) rfl rfl ?_
 (conv=>whnf);(repeat'((first|apply bT|apply bF|apply bN|((first|apply bD|apply bEq|apply bNe)<;>intro hh<;>try(exfalso;omega))|refine wJ ?_|refine nJ ?_)<;>conv=>whnf))
 refine loop_i (α :=Nat) (fun k=>[(15, .int .i64 k),(14, .int .i64 ↑(s.sup.map Dlv.av).length),(13, .row 5),(7, .row 3),(2, .int .i64 b),(1, .isl (l.map jAV))]) (fun k=>[.fresh, .fresh, .fresh, .row false 3 1 ((s.inK l b k).map jAV), .box false (s.box (.row 5) (.row 6) (.row 7)), .row false 45 3 (s.sup.map Dlv.av), .mp false (kQ jobK F) (uQ isA F), .row false 96 1 (O.map optsAV)]) (fun k=>k<=s.sup.length) (fun k=>s.sup.length-k) 0 (mN 3) (by omega) ?_
 intro k hk0
 conv=>whnf
 refine bD (fun h3=>?_) (fun h3=>?_)
 ·have hkl:k<s.sup.length:=by omega
  have g1:=suget hkl
  have e1:=p89 l (s.su k).sp hl
  have hfl:=inK_len s l b k
  have lf:((s.inK l b k).map jAV).length=(s.inK l b k).length:=by simp
  have hyes:s.serves l b k=true->(s.inK l b (k+1)).map jAV=(s.inK l b k).map jAV++[[.int .i64 (k:Nat)]]:=fun h=>by rw[inK_yes h,List.map_append];rfl
  by_cases h1:(s.su k).day<=b
  ·by_cases h2:(s.su k).sp∈l
   ·have hs:=hyes (by unfold Ord.serves;rw[decide_eq_true h1,decide_eq_true h2];rfl)
    rw[decide_eq_true h2]at e1
    (conv=>whnf);(repeat'((first|apply bT|apply bF|apply bN|((first|apply bD|apply bEq|apply bNe)<;>intro hh<;>try(exfalso;omega))|refine iaJ g1 ?_|refine e1.cq rfl rfl ?_|refine wJ ?_|refine nJ ?_)<;>conv=>whnf))
    refine apI (by simp[AV.one]) (by simp;omega) ?_
    (conv=>whnf);(repeat'((first|apply bT|apply bF|apply bN|((first|apply bD|apply bEq|apply bNe)<;>intro hh<;>try(exfalso;omega))|refine wJ ?_|refine nJ ?_)<;>conv=>whnf))
    refine⟨k+1,?_,by omega,by omega⟩
    simp only[hs]
    exact(mR 3 2)
   ·have hs:=inK_no (s:=s) (l:=l) (b:=b) (k:=k) (by unfold Ord.serves;rw[decide_eq_true h1,decide_eq_false h2];rfl)
    rw[decide_eq_false h2]at e1
    (conv=>whnf);(repeat'((first|apply bT|apply bF|apply bN|((first|apply bD|apply bEq|apply bNe)<;>intro hh<;>try(exfalso;omega))|refine iaJ g1 ?_|refine e1.cq rfl rfl ?_|refine wJ ?_|refine nJ ?_)<;>conv=>whnf))
    refine⟨k+1,?_,by omega,by omega⟩
    simp only[hs]
    exact mI
  ·have hs:=inK_no (s:=s) (l:=l) (b:=b) (k:=k) (by unfold Ord.serves;rw[decide_eq_false h1];rfl)
   (conv=>whnf);(repeat'((first|apply bT|apply bF|apply bN|((first|apply bD|apply bEq|apply bNe)<;>intro hh<;>try(exfalso;omega))|refine iaJ g1 ?_|refine wJ ?_|refine nJ ?_)<;>conv=>whnf))
   refine⟨k+1,?_,by omega,by omega⟩
   simp only[hs]
   exact mI
 ·have:k=s.sup.length:=by omega
  subst this
  (conv=>whnf);(repeat'((first|apply bT|apply bF|apply bN|((first|apply bD|apply bEq|apply bNe)<;>intro hh<;>try(exfalso;omega))|refine wJ ?_|refine nJ ?_)<;>conv=>whnf))
  all_goals exact⟨rfl,rfl⟩
def Ord.by_(s:Ord)(i j:Int):Int:=(s.wish i).due-if suitV (s.wish i) (s.piece j)=2 then s.cv else 0
def Ord.reps(s:Ord)(i j:Int):List (List Int):=(s.piece j).br.map fun k=>s.inT (s.fitL ((s.piece j).mkr,k)) (s.by_ i j)
def Ord.optB(s:Ord)(i j:Int):Bool:=decide (suitV (s.wish i) (s.piece j)≠0)&&decide (0<=s.by_ i j)&&(s.piece j).br.all fun k => !(s.fitL ((s.piece j).mkr,k)).isEmpty
def Ord.opt(s:Ord)(i j:Int):Option Opt:=if s.optB i j=true then some ⟨j,s.reps i j⟩ else none
def optAVs(o:Option Opt):AV:=match o with
 |some o=>.tup [.agg o.av, .bool true]
 |none=>.tup [.agg [.int .i64 0, .isl []], .bool false]
def optAVw(o:Option Opt):AV:=match o with
 |some o=>.tup [.agg o.av, .bool true]
 |none=>.tup [.agg [.int .i64 0, .nils], .bool false]
structure MapAll(s:Ord)(F:List (JobK × List Int)):Prop where
 ok:MapOk s F
 all:∀p∈s.ps,∀k∈p.br,(getQ F (p.mkr,k)).isSome=true
theorem MapAll.get{s:Ord}{F:List (JobK × List Int)}(h:MapAll s F){p:Piece}(hp:p∈s.ps){k:Int}(hk:k∈p.br):getQ F (p.mkr,k)=some (s.fitL (p.mkr,k)):=by
 have:=h.all p hp k hk
 cases hg:getQ F (p.mkr,k)with
 |none=>rw[hg]at this;cases this
 |some v=>rw[h.ok _ _ hg]
theorem suit_val(w:Wish)(p:Piece):suitV w p=0\/suitV w p=1\/suitV w p=2:=by
 unfold suitV
 split
 ·split
  ·simp
  ·split<;>simp
 ·simp
theorem reps_take{s:Ord}{i j:Int}{k:Nat}(hk:k<(s.piece j).br.length):(s.reps i j).take (k+1)=(s.reps i j).take k++[s.inT (s.fitL ((s.piece j).mkr,(s.piece j).br[k])) (s.by_ i j)]:=by
 unfold Ord.reps
 rw[<- List.map_take,List.take_succ_eq_append_getElem hk,List.map_append,List.map_take];rfl
theorem fitL_len(s:Ord)(j:JobK):(s.fitL j).length<=s.st.length:=fitK_len s j s.st.length
theorem asc_len_le{l:List Int}{m:Int}(h:ascB l=true)(hb:∀x∈l,0<=x/\x<m):(l.length:Int)<=max m 0:=by
 have ha:=ascB_iff.1 h
 have hi:∀k,k<l.length->(k:Int)<=l.getD k 0:=fun k=>by
  induction k with
  |zero=>intro hk;have:=(hb (l.getD 0 0) (getD_memI hk)).1;omega
  |succ k ih=>
   intro hk
   have:=ih (by omega)
   have:=ha k hk
   omega
 by_cases h0:l.length=0
 ·omega
 ·have:=hi (l.length-1) (by omega)
  have:=(hb (l.getD (l.length-1) 0) (getD_memI (by omega))).2
  omega
theorem br_le{s:Ord}(hk:OkO s){p:Piece}(hp:p∈s.ps):p.br.length<=4/\s.w.isMk p.mkr=true/\∀k∈p.br,0<=k/\k<(s.w.slots p.mkr).length:=by
 have h:=hk.p2 _ hp
 unfold okPi at h
 simp only[Bool.and_eq_true,List.all_eq_true,decide_eq_true_eq]at h
 obtain⟨⟨⟨⟨⟨h1,h2⟩,h3⟩,h4⟩,h5⟩,h6⟩:=h
 have hs:=hk.w.slots h4
 have:=asc_len_le h5 h6
 exact⟨by omega,h4,h6⟩
theorem br_len{s:Ord}(hk:OkO s){p:Piece}(hp:p∈s.ps):p.br.length<=1000:=by have:=(br_le hk hp).1;omega
theorem br_isJ{s:Ord}(hk:OkO s){p:Piece}(hp:p∈s.ps){k:Int}(h:k∈p.br):s.isJ (p.mkr,k)=true:=by
 obtain⟨_,h1,h2⟩:=br_le hk hp
 exact isSl_iff.2 ⟨h1,h2 k h⟩
theorem q99(s:Ord)(hk:OkO s)(F:List (JobK × List Int))(hF:MapAll s F)(O:List (List Opt))(i j:Int)(hi:s.isW i=true)(hj:s.isP j=true):FnA Tryz.prog 99 [.ipt (s.stC F O), .int .i64 i, .int .i64 j] (· = optAVs (s.opt i j)):=by
 have i1:=isW_iff.1 hi
 have i2:=isP_iff.1 hj
 have l1:(s.ws.map Wish.av).length=s.ws.length:=by simp
 have l2:(s.ps.map Piece.av).length=s.ps.length:=by simp
 have l3:((s.piece j).br.map jAV).length=(s.piece j).br.length:=by simp
 have hw1:=hk.w1
 have hp1:=hk.p1
 have hcv:=hk.cv
 have hstl:=hk.st1
 have hs1:=hk.w.s1
 have hwi:=hk.w2 _ (wish_mem hi)
 have hcs:(s.wish i).cs.length<=8/\0<=(s.wish i).due/\(s.wish i).due<=99:=by
  unfold okWi mark at hwi
  simp only[Bool.and_eq_true,decide_eq_true_eq]at hwi
  omega
 have hpi:=hk.p2 _ (piece_mem hj)
 have hbr:(s.piece j).br.length<=1000:=br_len hk (piece_mem hj)
 have e1:=q78 (s.wish i) (s.piece j) (by omega)
 refine fnA 8 ok99 (by simp) ?_
 by_cases h0:suitV (s.wish i) (s.piece j)=0
 ·have hO:s.opt i j=none:=by unfold Ord.opt Ord.optB;rw[h0];rfl
  rw[hO]
  rw[h0]at e1
  (conv=>whnf);(repeat'((first|apply bT|apply bF|apply bN|((first|apply bD|apply bEq|apply bNe)<;>intro hh<;>try(exfalso;omega))|refine iaJ (wget hi) ?_|refine iaJ (pget hj) ?_|refine e1.cq rfl rfl ?_|refine wJ ?_|refine nJ ?_)<;>conv=>whnf))
  all_goals rfl
 have hby:∀q,suitV (s.wish i) (s.piece j)=q->s.by_ i j=(s.wish i).due-if q=2 then s.cv else 0:=fun q hq=>by unfold Ord.by_;rw[hq]
 by_cases hb0:0<=s.by_ i j
 case neg=>
  have hO:s.opt i j=none:=by unfold Ord.opt Ord.optB;rw[decide_eq_false hb0];simp
  rw[hO]
  rcases suit_val (s.wish i) (s.piece j)with h|h|h
  ·exact absurd h h0
  ·have hb:=hby _ h
   rw[if_neg (by omega)]at hb
   omega
  ·have hb:=hby _ h
   rw[if_pos rfl]at hb
   rw[h]at e1
   (conv=>whnf);(repeat'((first|apply bT|apply bF|apply bN|((first|apply bD|apply bEq|apply bNe)<;>intro hh<;>try(exfalso;omega))|refine iaJ (wget hi) ?_|refine iaJ (pget hj) ?_|refine e1.cq rfl rfl ?_|refine wJ ?_|refine nJ ?_)<;>conv=>whnf))
   all_goals rfl
 have main:∀q,suitV (s.wish i) (s.piece j)=q->(q=1\/q=2)->True:=fun _ _ _=>trivial
 clear main
 rcases suit_val (s.wish i) (s.piece j)with h|h|h
 ·exact absurd h h0
 all_goals
  have hb:=hby _ h
  simp only[show((1:Int)=2)=False from by simp,if_false,if_true,Int.sub_zero]at hb
  rw[h]at e1
  (conv=>whnf);(repeat'((first|apply bT|apply bF|apply bN|((first|apply bD|apply bEq|apply bNe)<;>intro hh<;>try(exfalso;omega))|refine iaJ (wget hi) ?_|refine iaJ (pget hj) ?_|refine e1.cq rfl rfl ?_|refine wJ ?_|refine nJ ?_)<;>conv=>whnf))
  refine loop_i (α :=Nat) (fun k=>[(58, .int .i64 k),(57, .int .i64 ↑((s.piece j).br.map jAV).length),(56, .isl ((s.piece j).br.map jAV)),(12, .own 3 0),(11, .int .i64 (s.by_ i j)),(9, .own 2 0),(6, .own 0 0),(0, .ipt (s.stC F O))]) (fun k=>[.box false [.int .i64 0, .nils], .box false (s.wish i).av, .box false (s.piece j).av, .box false [.int .i64 j, .row 7], .fresh, .fresh, .fresh, .row false 27 1 (((s.reps i j).take k).map fAV)]) (fun k=>k<=(s.piece j).br.length/\∀x∈(s.piece j).br.take k,(fun k => !(s.fitL ((s.piece j).mkr,k)).isEmpty) x=true) (fun k=>(s.piece j).br.length-k) 0 (by rw[hb];exact(mN 7)) ⟨by omega,by simp⟩ ?_
  rintro k ⟨hk0,hk2⟩
  conv=>whnf
  refine bD (fun h3=>?_) (fun h3=>?_)
  ·have hkl:k<(s.piece j).br.length:=by omega
   have g1:((s.piece j).br.map jAV).getD k []=[.int .i64 (s.piece j).br[k]]:=getM jAV _ k hkl
   have hlk:=mlook_Q jobK_ok isA F ((s.piece j).mkr,(s.piece j).br[k])
   rw[hF.get (piece_mem hj) (List.getElem_mem hkl)]at hlk
   have hvl:(s.fitL ((s.piece j).mkr,(s.piece j).br[k])).length<=1000000:=by have:=fitL_len s ((s.piece j).mkr,(s.piece j).br[k]);omega
   have htk:=reps_take (s:=s) (i:=i) (j:=j) hkl
   have hno:s.fitL ((s.piece j).mkr,(s.piece j).br[k])=[]->s.opt i j=none:=fun h=>by
    have:((s.piece j).br.all fun k => !(s.fitL ((s.piece j).mkr,k)).isEmpty)=false:=all_not hkl (by rw[h];rfl)
    unfold Ord.opt Ord.optB;rw[this];simp
   have hyes:=fun hv=>take_all (p:=fun k => !(s.fitL ((s.piece j).mkr,k)).isEmpty) hkl hk2 hv
   generalize s.fitL ((s.piece j).mkr,(s.piece j).br[k])=v at hlk hvl htk hno hyes
   generalize (s.piece j).br[k]=x at g1 hlk
   have lv:(v.map jAV).length=v.length:=by simp
   (conv=>whnf);(repeat'((first|apply bT|apply bF|apply bN|((first|apply bD|apply bEq|apply bNe)<;>intro hh<;>try(exfalso;omega))|refine iaJ g1 ?_|refine wJ ?_|refine nJ ?_)<;>conv=>whnf))
   refine lkI hlk ?_
   by_cases hv0:v=[]
   ·subst hv0
    rw[hno rfl]
    (conv=>whnf);(repeat'((first|apply bT|apply bF|apply bN|((first|apply bD|apply bEq|apply bNe)<;>intro hh<;>try(exfalso;omega))|refine wJ ?_|refine nJ ?_)<;>conv=>whnf))
    all_goals rfl
   ·have hv1:0<v.length:=List.length_pos_iff.2 hv0
    have e5:=q133 s hk F O v hvl (s.by_ i j)
    have hrl:((s.reps i j).take k).length<=k:=by rw[List.length_take];omega
    have lrl:(((s.reps i j).take k).map fAV).length=((s.reps i j).take k).length:=by simp
    have hm:((s.reps i j).take (k+1)).map fAV=((s.reps i j).take k).map fAV++[[.isl ((s.inT v (s.by_ i j)).map jAV)]]:=by rw[htk,List.map_append];rfl
    have hv2:=hyes (by simpa using hv0)
    (conv=>whnf);(repeat'((first|apply bT|apply bF|apply bN|((first|apply bD|apply bEq|apply bNe)<;>intro hh<;>try(exfalso;omega))|refine wJ ?_|refine nJ ?_)<;>conv=>whnf))
    refine altI ?_ ?_
    all_goals
     (conv=>whnf);(repeat'((first|apply bT|apply bF|apply bN|((first|apply bD|apply bEq|apply bNe)<;>intro hh<;>try(exfalso;omega))|refine wJ ?_|refine nJ ?_)<;>conv=>whnf))
     refine e5.callzq rfl rfl (fun _ h=>?_);subst h
     (conv=>whnf);(repeat'((first|apply bT|apply bF|apply bN|((first|apply bD|apply bEq|apply bNe)<;>intro hh<;>try(exfalso;omega))|refine wJ ?_|refine nJ ?_)<;>conv=>whnf))
     refine apI (by simp[AV.one]) (by simp;omega) ?_
     (conv=>whnf);(repeat'((first|apply bT|apply bF|apply bN|((first|apply bD|apply bEq|apply bNe)<;>intro hh<;>try(exfalso;omega))|refine wJ ?_|refine nJ ?_)<;>conv=>whnf))
     refine⟨k+1,?_,⟨by omega,hv2⟩,by omega⟩
     simp only[hm]
     exact(mR 7 6)
  ·have:k=(s.piece j).br.length:=by omega
   subst this
   rw[List.take_length]at hk2
   have hO:s.opt i j=some ⟨j,s.reps i j⟩:=by
    unfold Ord.opt Ord.optB
    rw[decide_eq_true h0,decide_eq_true hb0,all_yes hk2];rfl
   rw[hO]
   have hrt:(s.reps i j).take (s.piece j).br.length=s.reps i j:=List.take_of_length_le (by unfold Ord.reps;simp)
   rw[hrt]
   (conv=>whnf);(repeat'((first|apply bT|apply bF|apply bN|((first|apply bD|apply bEq|apply bNe)<;>intro hh<;>try(exfalso;omega))|refine wJ ?_|refine nJ ?_)<;>conv=>whnf))
   all_goals rfl
theorem w99(s:Ord)(hk:OkO s)(F:List (JobK × List Int))(hF:MapAll s F)(O:List (List Opt))(i j:Int)(hi:s.isW i=true)(hj:s.isP j=true):FnW Tryz.prog 99 [.own 0 0, .int .i64 i, .int .i64 j] (stIns s F O) (fun r outs=>r=optAVw (s.opt i j)/\outs=stIns s F O):=by
 have i1:=isW_iff.1 hi
 have i2:=isP_iff.1 hj
 have l1:(s.ws.map Wish.av).length=s.ws.length:=by simp
 have l2:(s.ps.map Piece.av).length=s.ps.length:=by simp
 have l3:((s.piece j).br.map jAV).length=(s.piece j).br.length:=by simp
 have hw1:=hk.w1
 have hp1:=hk.p1
 have hcv:=hk.cv
 have hstl:=hk.st1
 have hs1:=hk.w.s1
 have hwi:=hk.w2 _ (wish_mem hi)
 have hcs:(s.wish i).cs.length<=8/\0<=(s.wish i).due/\(s.wish i).due<=99:=by
  unfold okWi mark at hwi
  simp only[Bool.and_eq_true,decide_eq_true_eq]at hwi
  omega
 have hpi:=hk.p2 _ (piece_mem hj)
 have hbr:(s.piece j).br.length<=1000:=br_len hk (piece_mem hj)
 have e1:=q78 (s.wish i) (s.piece j) (by omega)
 refine fnW 8 [] ok99 (by simp) rfl rfl ?_
 by_cases h0:suitV (s.wish i) (s.piece j)=0
 ·have hO:s.opt i j=none:=by unfold Ord.opt Ord.optB;rw[h0];rfl
  rw[hO]
  rw[h0]at e1
  (conv=>whnf);(repeat'((first|apply bT|apply bF|apply bN|((first|apply bD|apply bEq|apply bNe)<;>intro hh<;>try(exfalso;omega))|refine iaJ (wget hi) ?_|refine iaJ (pget hj) ?_|refine e1.cq rfl rfl ?_|refine wJ ?_|refine nJ ?_)<;>conv=>whnf))
  all_goals exact⟨rfl,rfl⟩
 have hby:∀q,suitV (s.wish i) (s.piece j)=q->s.by_ i j=(s.wish i).due-if q=2 then s.cv else 0:=fun q hq=>by unfold Ord.by_;rw[hq]
 by_cases hb0:0<=s.by_ i j
 case neg=>
  have hO:s.opt i j=none:=by unfold Ord.opt Ord.optB;rw[decide_eq_false hb0];simp
  rw[hO]
  rcases suit_val (s.wish i) (s.piece j)with h|h|h
  ·exact absurd h h0
  ·have hb:=hby _ h
   rw[if_neg (by omega)]at hb
   omega
  ·have hb:=hby _ h
   rw[if_pos rfl]at hb
   rw[h]at e1
   (conv=>whnf);(repeat'((first|apply bT|apply bF|apply bN|((first|apply bD|apply bEq|apply bNe)<;>intro hh<;>try(exfalso;omega))|refine iaJ (wget hi) ?_|refine iaJ (pget hj) ?_|refine e1.cq rfl rfl ?_|refine wJ ?_|refine nJ ?_)<;>conv=>whnf))
   all_goals exact⟨rfl,rfl⟩
 have main:∀q,suitV (s.wish i) (s.piece j)=q->(q=1\/q=2)->True:=fun _ _ _=>trivial
 clear main
 rcases suit_val (s.wish i) (s.piece j)with h|h|h
 ·exact absurd h h0
 all_goals
  have hb:=hby _ h
  simp only[show((1:Int)=2)=False from by simp,if_false,if_true,Int.sub_zero]at hb
  rw[h]at e1
  (conv=>whnf);(repeat'((first|apply bT|apply bF|apply bN|((first|apply bD|apply bEq|apply bNe)<;>intro hh<;>try(exfalso;omega))|refine iaJ (wget hi) ?_|refine iaJ (pget hj) ?_|refine e1.cq rfl rfl ?_|refine wJ ?_|refine nJ ?_)<;>conv=>whnf))
  refine loop_i (α :=Nat) (fun k=>[(58, .int .i64 k),(57, .int .i64 ↑((s.piece j).br.map jAV).length),(56, .isl ((s.piece j).br.map jAV)),(12, .own 3 0),(11, .int .i64 (s.by_ i j)),(9, .own 2 0),(6, .own 0 0),(0, .own 8 0)]) (fun k=>[.box false [.int .i64 0, .nils], .box false (s.wish i).av, .box false (s.piece j).av, .box false [.int .i64 j, .row 7], .fresh, .fresh, .fresh, .row false 27 1 (((s.reps i j).take k).map fAV), .box false (s.box (.row 9) (.row 10) (.row 11)), .row false 45 3 (s.sup.map Dlv.av), .mp false (kQ jobK F) (uQ isA F), .row false 96 1 (O.map optsAV)]) (fun k=>k<=(s.piece j).br.length/\∀x∈(s.piece j).br.take k,(fun k => !(s.fitL ((s.piece j).mkr,k)).isEmpty) x=true) (fun k=>(s.piece j).br.length-k) 0 (by rw[hb];exact(mN 7)) ⟨by omega,by simp⟩ ?_
  rintro k ⟨hk0,hk2⟩
  conv=>whnf
  refine bD (fun h3=>?_) (fun h3=>?_)
  ·have hkl:k<(s.piece j).br.length:=by omega
   have g1:((s.piece j).br.map jAV).getD k []=[.int .i64 (s.piece j).br[k]]:=getM jAV _ k hkl
   have hlk:=mlook_Q jobK_ok isA F ((s.piece j).mkr,(s.piece j).br[k])
   rw[hF.get (piece_mem hj) (List.getElem_mem hkl)]at hlk
   have hvl:(s.fitL ((s.piece j).mkr,(s.piece j).br[k])).length<=1000000:=by have:=fitL_len s ((s.piece j).mkr,(s.piece j).br[k]);omega
   have htk:=reps_take (s:=s) (i:=i) (j:=j) hkl
   have hno:s.fitL ((s.piece j).mkr,(s.piece j).br[k])=[]->s.opt i j=none:=fun h=>by
    have:((s.piece j).br.all fun k => !(s.fitL ((s.piece j).mkr,k)).isEmpty)=false:=all_not hkl (by rw[h];rfl)
    unfold Ord.opt Ord.optB;rw[this];simp
   have hyes:=fun hv=>take_all (p:=fun k => !(s.fitL ((s.piece j).mkr,k)).isEmpty) hkl hk2 hv
   generalize s.fitL ((s.piece j).mkr,(s.piece j).br[k])=v at hlk hvl htk hno hyes
   generalize (s.piece j).br[k]=x at g1 hlk
   have lv:(v.map jAV).length=v.length:=by simp
   (conv=>whnf);(repeat'((first|apply bT|apply bF|apply bN|((first|apply bD|apply bEq|apply bNe)<;>intro hh<;>try(exfalso;omega))|refine iaJ g1 ?_|refine wJ ?_|refine nJ ?_)<;>conv=>whnf))
   refine lkI hlk ?_
   by_cases hv0:v=[]
   ·subst hv0
    rw[hno rfl]
    (conv=>whnf);(repeat'((first|apply bT|apply bF|apply bN|((first|apply bD|apply bEq|apply bNe)<;>intro hh<;>try(exfalso;omega))|refine wJ ?_|refine nJ ?_)<;>conv=>whnf))
    all_goals exact⟨rfl,rfl⟩
   ·have hv1:0<v.length:=List.length_pos_iff.2 hv0
    have e5:=w133 s hk F O v hvl (s.by_ i j)
    have hrl:((s.reps i j).take k).length<=k:=by rw[List.length_take];omega
    have lrl:(((s.reps i j).take k).map fAV).length=((s.reps i j).take k).length:=by simp
    have hm:((s.reps i j).take (k+1)).map fAV=((s.reps i j).take k).map fAV++[[.isl ((s.inT v (s.by_ i j)).map jAV)]]:=by rw[htk,List.map_append];rfl
    have hv2:=hyes (by simpa using hv0)
    (conv=>whnf);(repeat'((first|apply bT|apply bF|apply bN|((first|apply bD|apply bEq|apply bNe)<;>intro hh<;>try(exfalso;omega))|refine wJ ?_|refine nJ ?_)<;>conv=>whnf))
    refine altI ?_ ?_
    all_goals
     (conv=>whnf);(repeat'((first|apply bT|apply bF|apply bN|((first|apply bD|apply bEq|apply bNe)<;>intro hh<;>try(exfalso;omega))|refine wJ ?_|refine nJ ?_)<;>conv=>whnf))
     refine e5.callwq [8,9,10,11] rfl rfl ⟨rfl,rfl,rfl,rfl,trivial⟩ rfl rfl rfl rfl (fun r outs hr=>?_)
     obtain⟨hr1,ho⟩:=hr;subst hr1;subst ho;refine⟨⟨rfl,rfl,rfl,rfl⟩,?_⟩
     (conv=>whnf);(repeat'((first|apply bT|apply bF|apply bN|((first|apply bD|apply bEq|apply bNe)<;>intro hh<;>try(exfalso;omega))|refine wJ ?_|refine nJ ?_)<;>conv=>whnf))
     refine apI (by simp[AV.one]) (by simp;omega) ?_
     (conv=>whnf);(repeat'((first|apply bT|apply bF|apply bN|((first|apply bD|apply bEq|apply bNe)<;>intro hh<;>try(exfalso;omega))|refine wJ ?_|refine nJ ?_)<;>conv=>whnf))
     refine⟨k+1,?_,⟨by omega,hv2⟩,by omega⟩
     simp only[hm]
     exact(mR 7 6)
  ·have:k=(s.piece j).br.length:=by omega
   subst this
   rw[List.take_length]at hk2
   have hO:s.opt i j=some ⟨j,s.reps i j⟩:=by
    unfold Ord.opt Ord.optB
    rw[decide_eq_true h0,decide_eq_true hb0,all_yes hk2];rfl
   rw[hO]
   have hrt:(s.reps i j).take (s.piece j).br.length=s.reps i j:=List.take_of_length_le (by unfold Ord.reps;simp)
   rw[hrt]
   (conv=>whnf);(repeat'((first|apply bT|apply bF|apply bN|((first|apply bD|apply bEq|apply bNe)<;>intro hh<;>try(exfalso;omega))|refine wJ ?_|refine nJ ?_)<;>conv=>whnf))
   all_goals exact⟨rfl,rfl⟩
def Ord.optK(s:Ord)(i:Int)(k:Nat):List Opt:=(List.range k).filterMap fun j:Nat=>s.opt i (j:Nat)
def Ord.opts(s:Ord)(i:Int):List Opt:=s.optK i s.ps.length
theorem optK_some{s:Ord}{i:Int}{k:Nat}{o:Opt}(h:s.opt i (k:Nat)=some o):s.optK i (k+1)=s.optK i k++[o]:=by
 unfold Ord.optK;rw[List.range_succ,List.filterMap_append];simp[h]
theorem optK_none{s:Ord}{i:Int}{k:Nat}(h:s.opt i (k:Nat)=none):s.optK i (k+1)=s.optK i k:=by
 unfold Ord.optK;rw[List.range_succ,List.filterMap_append];simp[h]
theorem optK_len(s:Ord)(i:Int)(k:Nat):(s.optK i k).length<=k:=by
 unfold Ord.optK;have:=List.length_filterMap_le (fun j:Nat=>s.opt i (j:Nat)) (List.range k);simpa using this
theorem w96(s:Ord)(hk:OkO s)(F:List (JobK × List Int))(hF:MapAll s F)(O:List (List Opt))(i:Int)(hi:s.isW i=true):FnW Tryz.prog 96 [.own 0 0, .int .i64 i] (stIns s F O) (fun r outs=>r = .isl ((s.opts i).map Opt.av)/\outs=stIns s F O):=by
 have hp1:=hk.p1
 have l2:(s.ps.map Piece.av).length=s.ps.length:=by simp
 refine fnW 5 [] ok96 (by simp) rfl rfl ?_
 (conv=>whnf);(repeat'((first|apply bT|apply bF|apply bN|((first|apply bD|apply bEq|apply bNe)<;>intro hh<;>try(exfalso;omega))|refine wJ ?_|refine nJ ?_)<;>conv=>whnf))
 refine loop_i (α :=Nat) (fun k=>[(15, .int .i64 k),(14, .int .i64 ↑(s.ps.map Piece.av).length),(5, .row 4),(1, .int .i64 i),(0, .own 5 0)]) (fun k=>[.fresh, .fresh, .fresh, .fresh, .row false 102 2 ((s.optK i k).map Opt.av), .box false (s.box (.row 6) (.row 7) (.row 8)), .row false 45 3 (s.sup.map Dlv.av), .mp false (kQ jobK F) (uQ isA F), .row false 96 1 (O.map optsAV)]) (fun k=>k<=s.ps.length) (fun k=>s.ps.length-k) 0 (mN 4) (by omega) ?_
 intro k hk0
 conv=>whnf
 refine bD (fun h3=>?_) (fun h3=>?_)
 ·have hkl:k<s.ps.length:=by omega
  have hj:s.isP (k:Nat)=true:=isP_iff.2 ⟨by omega,by omega⟩
  have e1:=w99 s hk F hF O i (k:Nat) hi hj
  have hfl:=optK_len s i k
  have lf:((s.optK i k).map Opt.av).length=(s.optK i k).length:=by simp
  cases hO:s.opt i (k:Nat)with
  |none=>
   have hs:=optK_none hO
   rw[hO]at e1
   (conv=>whnf);(repeat'((first|apply bT|apply bF|apply bN|((first|apply bD|apply bEq|apply bNe)<;>intro hh<;>try(exfalso;omega))|refine wJ ?_|refine nJ ?_)<;>conv=>whnf))
   refine e1.callwq [5,6,7,8] rfl rfl ⟨rfl,rfl,rfl,rfl,trivial⟩ rfl rfl rfl rfl (fun r outs hr=>?_)
   obtain⟨hr1,ho⟩:=hr;subst hr1;subst ho;refine⟨⟨rfl,rfl,rfl,rfl⟩,?_⟩
   (conv=>whnf);(repeat'((first|apply bT|apply bF|apply bN|((first|apply bD|apply bEq|apply bNe)<;>intro hh<;>try(exfalso;omega))|refine wJ ?_|refine nJ ?_)<;>conv=>whnf))
   refine⟨k+1,?_,by omega,by omega⟩
   simp only[hs]
   exact mI
  |some o=>
   have hs:(s.optK i (k+1)).map Opt.av=(s.optK i k).map Opt.av++[[.int .i64 o.pc, .isl (o.rep.map fAV)]]:=by rw[optK_some hO,List.map_append];rfl
   rw[hO]at e1
   (conv=>whnf);(repeat'((first|apply bT|apply bF|apply bN|((first|apply bD|apply bEq|apply bNe)<;>intro hh<;>try(exfalso;omega))|refine wJ ?_|refine nJ ?_)<;>conv=>whnf))
   refine e1.callwq [5,6,7,8] rfl rfl ⟨rfl,rfl,rfl,rfl,trivial⟩ rfl rfl rfl rfl (fun r outs hr=>?_)
   obtain⟨hr1,ho⟩:=hr;subst hr1;subst ho;refine⟨⟨rfl,rfl,rfl,rfl⟩,?_⟩
   (conv=>whnf);(repeat'((first|apply bT|apply bF|apply bN|((first|apply bD|apply bEq|apply bNe)<;>intro hh<;>try(exfalso;omega))|refine wJ ?_|refine nJ ?_)<;>conv=>whnf))
   refine apI (by simp[AV.one]) (by simp;omega) ?_
   (conv=>whnf);(repeat'((first|apply bT|apply bF|apply bN|((first|apply bD|apply bEq|apply bNe)<;>intro hh<;>try(exfalso;omega))|refine wJ ?_|refine nJ ?_)<;>conv=>whnf))
   refine⟨k+1,?_,by omega,by omega⟩
   simp only[hs]
   exact(mR 4 3)
 ·have:k=s.ps.length:=by omega
  subst this
  (conv=>whnf);(repeat'((first|apply bT|apply bF|apply bN|((first|apply bD|apply bEq|apply bNe)<;>intro hh<;>try(exfalso;omega))|refine wJ ?_|refine nJ ?_)<;>conv=>whnf))
  all_goals exact⟨rfl,rfl⟩
def Ord.lrnP(s:Ord)(p:Piece)(F:List (JobK × List Int))(l:List Int):List (JobK × List Int):=l.foldl (fun F x=>s.learn1 F (p.mkr,x)) F
def Ord.mapK(s:Ord)(k:Nat):List (JobK × List Int):=(s.ps.take k).foldl (fun F p=>s.lrnP p F p.br) []
def Ord.mapF(s:Ord):List (JobK × List Int):=s.mapK s.ps.length
def Ord.optA(s:Ord)(k:Nat):List (List Opt):=(List.range k).map fun i:Nat=>s.opts (i:Nat)
def Ord.optAll(s:Ord):List (List Opt):=s.optA s.ws.length
theorem lrnP_succ{s:Ord}{p:Piece}{F:List (JobK × List Int)}{l:List Int}{k:Nat}(hk:k<l.length):s.lrnP p F (l.take (k+1))=s.learn1 (s.lrnP p F (l.take k)) (p.mkr,l[k]):=by
 unfold Ord.lrnP;rw[List.take_succ_eq_append_getElem hk,List.foldl_append];rfl
theorem mapK_succ{s:Ord}{k:Nat}(hk:k<s.ps.length):s.mapK (k+1)=s.lrnP s.ps[k] (s.mapK k) s.ps[k].br:=by
 unfold Ord.mapK;rw[List.take_succ_eq_append_getElem hk,List.foldl_append];rfl
theorem lrnP_inv{s:Ord}{p:Piece}:∀(l:List Int) (F:List (JobK × List Int)),MapOk s F->MapOk s (s.lrnP p F l)/\(∀k,(getQ F k).isSome=true->(getQ (s.lrnP p F l) k).isSome=true)/\(∀x∈l,(getQ (s.lrnP p F l) (p.mkr,x)).isSome=true)/\(s.lrnP p F l).length<=F.length+l.length
 | [],F,h=>⟨h,fun _ h=>h,by simp,by simp[Ord.lrnP]⟩
 |x::l,F,h=>by
  obtain⟨h1,h2,h3,h4⟩:=lrnP_inv (s:=s) (p:=p) l _ (learn_ok h (p.mkr,x))
  have h5:=learn_len s F (p.mkr,x)
  refine⟨h1,fun k hk=>h2 k (learn_keep hk),fun y hy=>?_,?_⟩
  ·rcases List.mem_cons.1 hy with rfl|hy
   ·exact h2 _ (learn_has s F _)
   ·exact h3 y hy
  ·show(s.lrnP p (s.learn1 F (p.mkr,x)) l).length<=_
   simp only[List.length_cons];omega
theorem mapK_inv{s:Ord}(hk:OkO s):∀k,k<=s.ps.length->MapOk s (s.mapK k)/\(∀p∈s.ps.take k,∀x∈p.br,(getQ (s.mapK k) (p.mkr,x)).isSome=true)/\(s.mapK k).length<=4*k
 |0,_=>⟨fun j v h=>by simp[Ord.mapK,getQ]at h,by simp,by simp[Ord.mapK]⟩
 |k+1,hle=>by
  have hlt:k<s.ps.length:=by omega
  obtain⟨h1,h2,h3⟩:=mapK_inv hk k (by omega)
  rw[mapK_succ hlt]
  obtain⟨g1,g2,g3,g4⟩:=lrnP_inv (s:=s) (p:=s.ps[k]) s.ps[k].br _ h1
  have hb:=(br_le hk (List.getElem_mem hlt)).1
  refine⟨g1,fun p hp x hx=>?_,by omega⟩
  rw[List.take_succ_eq_append_getElem hlt,List.mem_append,List.mem_singleton]at hp
  rcases hp with hp|rfl
  ·exact g2 _ (h2 p hp x hx)
  ·exact g3 x hx
theorem mapF_all{s:Ord}(hk:OkO s):MapAll s s.mapF:=by
 obtain⟨h1,h2,_⟩:=mapK_inv hk s.ps.length (Nat.le_refl _)
 exact⟨h1,fun p hp=>h2 p (by rw[List.take_length];exact hp)⟩
theorem optA_succ(s:Ord)(k:Nat):s.optA (k+1)=s.optA k++[s.opts (k:Nat)]:=by unfold Ord.optA;rw[List.range_succ,List.map_append];rfl
theorem optA_len(s:Ord)(k:Nat):(s.optA k).length=k:=by simp[Ord.optA]
def Ord.eS(s:Ord)(v:Bool):Int:=if s.e1 v≠0 then s.e1 v else if s.w.noT=true then 3 else 0
theorem eS_0{s:Ord}{v:Bool}(h:s.eS v=0):s.chk=0/\v=true/\s.w.noT=false:=by
 unfold Ord.eS at h
 rcases e1_val s v with h1|h1|h1|h1|h1<;>rw[h1]at h<;>simp at h
 cases hn:s.w.noT with
 |true=>rw[hn]at h;simp at h
 |false=>exact⟨(e1_0 h1).1,(e1_0 h1).2,rfl⟩
theorem isSt_ok{s:Ord}(hk:OkO s):(s.w.isSt s.st&&s.w.areJ [])=true:=by
 have h1:s.w.isSt s.st=true:=by
  unfold Shop.isSt
  rw[Bool.and_eq_true,List.all_eq_true]
  exact⟨decide_eq_true hk.st1,fun n hn=>decide_eq_true (hk.st2 n hn)⟩
 rw[h1];rfl
theorem bd0{s:Ord}(hk:OkO s):Bd s.w s.st []:=⟨hk.big.1,hk.big.2.1,hk.big.2.2,by have:=hk.st1;have:=hk.w.s1;omega,by simp⟩
theorem eO_noT{w:Shop}(h:w.chk=0):w.eO true=if w.noT=true then 3 else 0:=by unfold Shop.eO;rw[h];rfl
theorem q54e(s:Ord)(hB:BigO s)(v:Bool)(h:s.eS v≠0):FnA Tryz.prog 54 [.agg s.cells, .bool v] (· = .tup [.lit (.pointer none), .int .i64 (s.eS v)]):=by
 have e1:=q67 s hB v
 refine fnA 12 ok54 (by simp) ?_
 by_cases h1:s.e1 v=0
 ·have hk:=okO (e1_0 h1).1
  have hn:s.w.noT=true:=by
   cases hn:s.w.noT with
   |true=>rfl
   |false=>exact absurd (by unfold Ord.eS;rw[h1,hn];rfl) h
  have hE:s.eS v=3:=by unfold Ord.eS;rw[h1,hn];rfl
  have hEO:s.w.eO (s.w.isSt s.st&&s.w.areJ [])=3:=by rw[isSt_ok hk,eO_noT hk.chk,hn];rfl
  have e2:=p34x s.w s.st [] (bd0 hk) (by rw[hEO];decide)
  rw[hEO]at e2
  rw[h1]at e1
  rw[hE]
  (conv=>whnf);(repeat'((first|apply bT|apply bF|apply bN|((first|apply bD|apply bEq|apply bNe)<;>intro hh<;>try(exfalso;omega))|refine e1.cq rfl rfl ?_|refine e2.cq rfl rfl ?_|refine wJ ?_|refine nJ ?_)<;>conv=>whnf))
  all_goals rfl
 ·have hE:s.eS v=s.e1 v:=by unfold Ord.eS;rw[if_pos h1]
  rw[hE]
  rcases e1_val s v with h2|h2|h2|h2|h2<;>rw[h2]at e1⊢
  ·exact absurd h2 h1
  all_goals
   (conv=>whnf);(repeat'((first|apply bT|apply bF|apply bN|((first|apply bD|apply bEq|apply bNe)<;>intro hh<;>try(exfalso;omega))|refine e1.cq rfl rfl ?_|refine wJ ?_|refine nJ ?_)<;>conv=>whnf))
   all_goals rfl
theorem q54(s:Ord)(hB:BigO s)(v:Bool)(h:s.eS v=0):FnA Tryz.prog 54 [.agg s.cells, .bool v] (· = .tup [.ipt (s.stC s.mapF s.optAll), .int .i64 0]):=by
 obtain⟨hc,hv,hn⟩:=eS_0 h
 subst hv
 have hk:=okO hc
 have e1:=q67 s hB true
 have h1:s.e1 true=0:=by unfold Ord.e1;rw[hc];rfl
 have hEO:s.w.eO (s.w.isSt s.st&&s.w.areJ [])=0:=by rw[isSt_ok hk,eO_noT hk.chk,hn];rfl
 have e2:=p34f s.w s.st [] (bd0 hk) hEO
 rw[h1]at e1
 have hs1:=hk.w.s1
 have hst1:=hk.st1
 have hd1:=hk.d1
 have hp1:=hk.p1
 have hw1:=hk.w1
 have lS:(s.st.map jAV).length=s.st.length:=by simp
 have lD:(s.ds.map Dlv.av).length=s.ds.length:=by simp
 have lP:(s.ps.map Piece.av).length=s.ps.length:=by simp
 have lW:(s.ws.map Wish.av).length=s.ws.length:=by simp
 refine fnA 12 ok54 (by simp) ?_
 (conv=>whnf);(repeat'((first|apply bT|apply bF|apply bN|((first|apply bD|apply bEq|apply bNe)<;>intro hh<;>try(exfalso;omega))|refine e1.cq rfl rfl ?_|refine e2.cq rfl rfl ?_|refine wJ ?_|refine nJ ?_)<;>conv=>whnf))
 refine loop_i (α :=Nat) (fun k=>[(41, .int .i64 k),(40, .int .i64 ↑(s.st.map jAV).length),(39, .isl (s.st.map jAV)),(9, .own 2 0),(2, .own 0 0)]) (fun k=>[.box false s.cells, .mp false [] [], .box false (s.box (.row 10) (.row 1) .nils), .fresh, .fresh, .fresh, .fresh, .fresh, .fresh, .fresh, .row false 45 3 ((stD s k).map Dlv.av), .fresh]) (fun k=>k<=s.st.length) (fun k=>s.st.length-k) 0 (mN 10) (by omega) ?_
 intro k hk0
 conv=>whnf
 refine bD (fun h3=>?_) (fun h3=>?_)
 ·have hkl:k<s.st.length:=by omega
  have g1:=jget hkl
  have ls:=stD_len s k
  have hm:(stD s (k+1)).map Dlv.av=(stD s k).map Dlv.av++[[.int .i64 0, .int .i64 (k:Nat), .int .i64 (s.st.getD k 0)]]:=by rw[stD_succ,List.map_append];rfl
  (conv=>whnf);(repeat'((first|apply bT|apply bF|apply bN|((first|apply bD|apply bEq|apply bNe)<;>intro hh<;>try(exfalso;omega))|refine iaJ g1 ?_|refine wJ ?_|refine nJ ?_)<;>conv=>whnf))
  refine apI (by simp[AV.one]) (by simp;omega) ?_
  (conv=>whnf);(repeat'((first|apply bT|apply bF|apply bN|((first|apply bD|apply bEq|apply bNe)<;>intro hh<;>try(exfalso;omega))|refine wJ ?_|refine nJ ?_)<;>conv=>whnf))
  refine⟨k+1,?_,by omega,by omega⟩
  simp only[hm]
  exact(mR 10 4)
 have:k=s.st.length:=by omega
 subst this
 have ls:=stD_len s s.st.length
 clear h3 hk0
 have hsup:s.sup.map Dlv.av=(stD s s.st.length).map Dlv.av++s.ds.map Dlv.av:=by unfold Ord.sup;rw[List.map_append]
 (conv=>whnf);(repeat'((first|apply bT|apply bF|apply bN|((first|apply bD|apply bEq|apply bNe)<;>intro hh<;>try(exfalso;omega))|refine wJ ?_|refine nJ ?_)<;>conv=>whnf))
 refine apI (dl_one _) (by simp only[List.length_map];omega) ?_
 (conv=>whnf);(repeat'((first|apply bT|apply bF|apply bN|((first|apply bD|apply bEq|apply bNe)<;>intro hh<;>try(exfalso;omega))|refine wJ ?_|refine nJ ?_)<;>conv=>whnf))
 refine loop_i (α :=Nat) (fun k=>[(72, .int .i64 k),(71, .int .i64 ↑(s.ps.map Piece.av).length),(70, .isl (s.ps.map Piece.av)),(9, .own 2 0),(2, .own 0 0)]) (fun k=>[.box false s.cells, .mp false (kQ jobK (s.mapK k)) (uQ isA (s.mapK k)), .box false (s.box (.row 10) (.row 1) .nils), .fresh, .fresh, .fresh, .fresh, .fresh, .fresh, .fresh, .row false 45 3 (s.sup.map Dlv.av), .fresh]) (fun k=>k<=s.ps.length) (fun k=>s.ps.length-k) 0 (by simp only[hsup];exact(mR 10 5)) (by omega) ?_
 intro k hk0
 conv=>whnf
 refine bD (fun h3=>?_) (fun h3=>?_)
 ·have hkl:k<s.ps.length:=by omega
  have g1:=oget Piece.av s.ps hkl
  have hpm:=List.getElem_mem hkl
  have hsc:=mapK_succ hkl
  obtain⟨hM1,_,hM3⟩:=mapK_inv hk k (by omega)
  generalize s.ps[k]=p at g1 hpm hsc
  have hbr:=br_le hk hpm
  have lB:(p.br.map jAV).length=p.br.length:=by simp
  (conv=>whnf);(repeat'((first|apply bT|apply bF|apply bN|((first|apply bD|apply bEq|apply bNe)<;>intro hh<;>try(exfalso;omega))|refine iaJ g1 ?_|refine wJ ?_|refine nJ ?_)<;>conv=>whnf))
  refine loop_i (α :=Nat) (fun m=>[(79, .int .i64 m),(78, .int .i64 ↑(p.br.map jAV).length),(77, .isl (p.br.map jAV)),(72, .int .i64 k),(71, .int .i64 ↑(s.ps.map Piece.av).length),(70, .isl (s.ps.map Piece.av)),(13, .own 6 0),(9, .own 2 0),(2, .own 0 0)]) (fun m=>[.box false s.cells, .mp false (kQ jobK (s.lrnP p (s.mapK k) (p.br.take m))) (uQ isA (s.lrnP p (s.mapK k) (p.br.take m))), .box false (s.box (.row 10) (.row 1) .nils), .fresh, .fresh, .fresh, .box false p.av, .fresh, .fresh, .fresh, .row false 45 3 (s.sup.map Dlv.av), .fresh]) (fun m=>m<=p.br.length) (fun m=>p.br.length-m) 0 mI (by omega) ?_
  intro m hm0
  conv=>whnf
  refine bD (fun h4=>?_) (fun h4=>?_)
  ·have hml:m<p.br.length:=by omega
   have g2:=oget jAV p.br hml
   have hls:=lrnP_succ (s:=s) (p:=p) (F:=s.mapK k) hml
   have hlen:=(lrnP_inv (s:=s) (p:=p) (p.br.take m) (s.mapK k) hM1).2.2.2
   have hlt:(p.br.take m).length<=m:=by rw[List.length_take];omega
   have e3:=w95 s hk hn (s.lrnP p (s.mapK k) (p.br.take m)) (by omega) (p.mkr,p.br[m]) (br_isJ hk hpm (List.getElem_mem hml))
   rw[<- hls]at e3
   generalize p.br[m]=x at g2 e3
   (conv=>whnf);(repeat'((first|apply bT|apply bF|apply bN|((first|apply bD|apply bEq|apply bNe)<;>intro hh<;>try(exfalso;omega))|refine iaJ g2 ?_|refine wJ ?_|refine nJ ?_)<;>conv=>whnf))
   refine e3.callwq [2,10,1] rfl rfl ⟨rfl,rfl,rfl,trivial⟩ rfl rfl rfl rfl (fun r outs hr=>?_)
   obtain⟨hr1,ho⟩:=hr;subst hr1;subst ho;refine⟨⟨rfl,rfl,rfl,rfl⟩,?_⟩
   (conv=>whnf);(repeat'((first|apply bT|apply bF|apply bN|((first|apply bD|apply bEq|apply bNe)<;>intro hh<;>try(exfalso;omega))|refine wJ ?_|refine nJ ?_)<;>conv=>whnf))
   exact⟨m+1,mI,by omega,by omega⟩
  ·have:m=p.br.length:=by omega
   subst this
   rw[List.take_length]
   (conv=>whnf);(repeat'((first|apply bT|apply bF|apply bN|((first|apply bD|apply bEq|apply bNe)<;>intro hh<;>try(exfalso;omega))|refine wJ ?_|refine nJ ?_)<;>conv=>whnf))
   refine⟨k+1,?_,by omega,by omega⟩
   simp only[hsc]
   exact mI
 have:k=s.ps.length:=by omega
 subst this
 clear h3 hk0
 have hAll:=mapF_all hk
 (conv=>whnf);(repeat'((first|apply bT|apply bF|apply bN|((first|apply bD|apply bEq|apply bNe)<;>intro hh<;>try(exfalso;omega))|refine wJ ?_|refine nJ ?_)<;>conv=>whnf))
 refine loop_i (α :=Nat) (fun k=>[(94, .int .i64 k),(93, .int .i64 ↑(s.ws.map Wish.av).length),(9, .own 2 0)]) (fun k=>[.fresh, .mp false (kQ jobK s.mapF) (uQ isA s.mapF), .box false (s.box (.row 10) (.row 1) (.row 11)), .fresh, .fresh, .fresh, .fresh, .fresh, .fresh, .fresh, .row false 45 3 (s.sup.map Dlv.av), .row false 96 1 ((s.optA k).map optsAV)]) (fun k=>k<=s.ws.length) (fun k=>s.ws.length-k) 0 (mN 11) (by omega) ?_
 intro k hk0
 conv=>whnf
 refine bD (fun h3=>?_) (fun h3=>?_)
 ·have hkl:k<s.ws.length:=by omega
  have hi:s.isW (k:Nat)=true:=isW_iff.2 ⟨by omega,by omega⟩
  have e3:=w96 s hk s.mapF hAll (s.optA k) (k:Nat) hi
  have lO:=optA_len s k
  have hm:(s.optA (k+1)).map optsAV=(s.optA k).map optsAV++[[.isl ((s.opts (k:Nat)).map Opt.av)]]:=by rw[optA_succ,List.map_append];rfl
  (conv=>whnf);(repeat'((first|apply bT|apply bF|apply bN|((first|apply bD|apply bEq|apply bNe)<;>intro hh<;>try(exfalso;omega))|refine wJ ?_|refine nJ ?_)<;>conv=>whnf))
  refine altI ?_ ?_
  all_goals
   (conv=>whnf);(repeat'((first|apply bT|apply bF|apply bN|((first|apply bD|apply bEq|apply bNe)<;>intro hh<;>try(exfalso;omega))|refine wJ ?_|refine nJ ?_)<;>conv=>whnf))
   refine e3.callwq [2,10,1,11] rfl rfl ⟨rfl,rfl,rfl,rfl,trivial⟩ rfl rfl rfl rfl (fun r outs hr=>?_)
   obtain⟨hr1,ho⟩:=hr;subst hr1;subst ho;refine⟨⟨rfl,rfl,rfl,rfl⟩,?_⟩
   (conv=>whnf);(repeat'((first|apply bT|apply bF|apply bN|((first|apply bD|apply bEq|apply bNe)<;>intro hh<;>try(exfalso;omega))|refine wJ ?_|refine nJ ?_)<;>conv=>whnf))
   refine apI (by simp[AV.one]) (by simp;omega) ?_
   (conv=>whnf);(repeat'((first|apply bT|apply bF|apply bN|((first|apply bD|apply bEq|apply bNe)<;>intro hh<;>try(exfalso;omega))|refine wJ ?_|refine nJ ?_)<;>conv=>whnf))
   refine⟨k+1,?_,by omega,by omega⟩
   simp only[hm]
   exact(mR 11 9)
 ·have:k=s.ws.length:=by omega
  subst this
  (conv=>whnf);(repeat'((first|apply bT|apply bF|apply bN|((first|apply bD|apply bEq|apply bNe)<;>intro hh<;>try(exfalso;omega))|refine wJ ?_|refine nJ ?_)<;>conv=>whnf))
  all_goals rfl
def Ord.sto(s:Ord):AV:=.ipt (s.stC s.mapF s.optAll)
structure Fil where
 pl:List Int
 lost:Int
 rep:List (List Int)
 giv:List Int
 left:List Int
 lacks:Int
def Fil.cells(f:Fil)(q:AV):List AV:=[q, .isl (f.pl.map jAV), .int .i64 f.lost, .isl (f.rep.map fAV), .isl (f.giv.map jAV), .isl (f.left.map jAV), .int .i64 f.lacks]
def fIns(s:Ord)(pl:List Int)(lost lacks:Int)(fs fx:List (List Int))(left g:List Int)(tr:List Bool):List Res:=[.box false [.ipt (s.stC s.mapF s.optAll), .row 4, .int .i64 lost, .row 5, .row 1, .row 2, .int .i64 lacks], .row false 3 1 (g.map jAV), .row false 3 1 (left.map jAV), .row false 4 1 (tr.map bAV), .row false 3 1 (pl.map jAV), .row false 27 1 ((fs++fx).map fAV)]
theorem fgetx{L:List (List Int)}(fx:List (List Int)){j:Nat}(h:j<L.length):((L++fx).map fAV).getD j []=[.isl ((fsG L j).map jAV)]:=by
 rw[fget' (by simp;omega)]
 congr 3
 unfold fsG;simp[List.getD_eq_getElem?_getD,List.getElem?_append_left h]
theorem fsG_app{fs:List (List Int)}{f:List Int}{j:Nat}(h:j<fs.length):fsG (fs++[f]) j=fsG fs j:=by
 unfold fsG;simp[List.getD_eq_getElem?_getD,List.getElem?_append_left h]
theorem getD_app{g:List Int}{x:Int}{j:Nat}(h:j<g.length):(g++[x]).getD j 0=g.getD j 0:=by simp[List.getD_eq_getElem?_getD,List.getElem?_append_left h]
theorem getD_new(g:List Int)(x:Int):(g++[x]).getD g.length 0=x:=by simp[List.getD_eq_getElem?_getD]
def Rng(n:Nat)(fs:List (List Int)):Prop:=∀l∈fs,∀x∈l,0<=x/\x<n
theorem Rng.get{n:Nat}{fs:List (List Int)}(h:Rng n fs){j:Nat}{x:Int}(hx:x∈fsG fs j):0<=x/\x<n:=by
 unfold fsG at hx
 by_cases hj:j<fs.length
 ·have:fs.getD j []=fs[j]:=by simp[List.getD_eq_getElem?_getD,hj]
  rw[this]at hx
  exact h _ (List.getElem_mem hj) x hx
 ·have:fs.getD j []=[]:=by simp[List.getD_eq_getElem?_getD,hj]
  rw[this]at hx;cases hx
theorem Rng.app{n:Nat}{fs fs':List (List Int)}:Rng n (fs++fs')<->Rng n fs/\Rng n fs':=by
 unfold Rng
 simp only[List.mem_append]
 exact⟨fun h=>⟨fun l hl=>h l (.inl hl),fun l hl=>h l (.inr hl)⟩,fun h l hl=>hl.elim (h.1 l) (h.2 l)⟩
theorem shut_more{fs:List (List Int)}{left g:List Int}{f:List Int}(hg:g.length=fs.length)(hR:Rng left.length fs){C:Int->Prop}(h:Shut fs left g C):Shut (fs++[f]) left (g++[-1]) (fun x=>C x/\0<=x):=fun x hx=>by
 obtain⟨h1,h2⟩:=h x hx.1
 refine⟨h1,fun j hj hgj y hy=>?_⟩
 rw[List.length_append]at hj
 by_cases e:j<g.length
 ·rw[getD_app e]at hgj
  rw[fsG_app (by omega)]at hy
  exact⟨h2 j e hgj y hy,(hR.get hy).1⟩
 ·have:j=g.length:=by simp at hj;omega
  subst this
  rw[getD_new]at hgj
  omega
theorem lack_range(g:List Int):lackN g=((List.range g.length).filter fun j=>g.getD j 0 == -1).length:=by
 rw[filter_range_count g (fun x=>x == -1)];rfl
theorem best_fail{fs:List (List Int)}{st left g f:List Int}{tr tr':List Bool}(h:Best fs st left g)(hR:Rng st.length (fs++[f]))(htr:∀x,trB tr x=false)(hF:Fail (fs++[f]) left (g++[-1]) tr tr' g.length):Best (fs++[f]) st left (g++[-1])/\lackN (g++[-1])=lackN g+1:=by
 obtain⟨hR1,hR2⟩:=Rng.app.1 hR
 have hll:=h.ll
 refine⟨⟨h.ll,by simp[h.lg],h.nn,fun j hj=>?_,fun x hx=>?_,fun j hj hgj=>?_⟩,by unfold lackN;rw[List.count_append];simp⟩
 ·by_cases e:j<g.length
  ·rw[getD_app e,fsG_app (by rw[<- h.lg];exact e)];exact h.gok j e
  ·have:j=g.length:=by simp at hj;omega
   subst this
   exact .inl (getD_new _ _)
 ·have:=h.tot x hx
  rw[List.count_append]
  have:List.count (x:Int) [-1]=0:=by
   rw[List.count_eq_zero,List.mem_singleton];omega
  omega
 ·by_cases e:j<g.length
  ·rw[getD_app e]at hgj
   obtain⟨C,h1,h2⟩:=h.shut j e hgj
   rw[fsG_app (by rw[<- h.lg];exact e)]
   exact⟨_,shut_more h.lg (by rw[hll];exact hR1) h1,fun x hx=>⟨h2 x hx,(hR1.get hx).1⟩⟩
  ·have:j=g.length:=by simp at hj;omega
   subst this
   refine⟨fun x=>0<=x/\trB tr' x=true,fun x hx=>?_,fun x hx=>⟨(hR.get hx).1,hF.all x hx⟩⟩
   obtain⟨k1,k2⟩:=hF.shut x hx.1 hx.2 (htr x)
   exact⟨k1,fun j hj hgj y hy=>⟨(hR.get hy).1,k2 j hj hgj y hy⟩⟩
theorem best_win{fs:List (List Int)}{st left g f left' g':List Int}{tr:List Bool}(h:Best fs st left g)(hR:Rng st.length (fs++[f]))(hW:Win (fs++[f]) left (g++[-1]) tr left' g' g.length):Best (fs++[f]) st left' g'/\lackN g'=lackN g:=by
 obtain⟨hR1,hR2⟩:=Rng.app.1 hR
 have hgl:g'.length=g.length+1:=by rw[hW.gl];simp
 have hoth:∀j,j<g.length->(g'.getD j 0 = -1<->g.getD j 0 = -1):=fun j hj=>by
  rcases hW.oth j (by simp;omega) (by omega)with k|⟨k1,k2,_⟩
  ·rw[k,getD_app hj]
  ·rw[getD_app hj]at k2
   have:=(hR.get k1).1
   constructor<;>intro<;>omega
 have hgot:=(hR.get hW.got).1
 refine⟨⟨by rw[hW.ll];exact h.ll,by rw[hgl];simp[h.lg],hW.nn,fun j hj=>?_,fun x hx=>?_,fun j hj hgj=>?_⟩,?_⟩
 ·by_cases e:j<g.length
  ·rcases hW.oth j (by simp;omega) (by omega)with k|⟨k1,_,_⟩
   ·rw[k,getD_app e,fsG_app (by rw[<- h.lg];exact e)];exact h.gok j e
   ·exact .inr k1
  ·have:j=g.length:=by omega
   subst this
   exact .inr hW.got
 ·have h1:=hW.tot x (by rw[h.ll];exact hx)
  have h2:=h.tot x hx
  rw[getD_new,if_neg (by omega),List.count_append]at h1
  have:List.count (x:Int) [-1]=0:=by
   rw[List.count_eq_zero,List.mem_singleton];omega
  omega
 ·have e:j<g.length:=by
   by_cases e:j<g.length
   ·exact e
   ·have:j=g.length:=by omega
    subst this;omega
  obtain⟨C,h1,h2⟩:=h.shut j e ((hoth j e).1 hgj)
  rw[fsG_app (by rw[<- h.lg];exact e)]
  exact⟨_,(hW.shut _ (shut_more h.lg (by rw[h.ll];exact hR1) h1)).1,fun x hx=>⟨h2 x hx,(hR1.get hx).1⟩⟩
 ·rw[lack_range,lack_range,hgl,List.range_succ,List.filter_append,List.length_append]
  have e1:((List.range g.length).filter fun j=>g'.getD j 0 == -1)=(List.range g.length).filter fun j=>g.getD j 0 == -1:=List.filter_congr fun j hj=>by
   rw[Bool.eq_iff_iff,beq_iff_eq,beq_iff_eq]
   exact hoth j (List.mem_range.1 hj)
  have e2:(g'.getD g.length 0 == -1)=false:=by rw[beq_eq_false_iff_ne];omega
  rw[e1,List.filter_cons_of_neg (by rw[e2];simp)]
  rfl
theorem pre_new{fs:List (List Int)}{st left g f:List Int}(h:Best fs st left g)(hR:Rng st.length (fs++[f]))(h1:st.length<=100)(h2:fs.length+1<=100)(h3:∀l∈fs++[f],l.length<=100)(h4:∀s,st.getD s 0<=1000):Pre (fs++[f]) left (g++[-1]) (List.replicate st.length false) g.length:=by
 have hll:=h.ll
 refine⟨fun j x hx=>by rw[hll];exact hR.get hx,by simp[hll],by simp[h.lg],by simp[h.lg],h.nn,fun j hj=>?_, .inl (getD_new _ _),by omega,by simp;omega,fun j=>?_,fun x=>?_⟩
 ·by_cases e:j<g.length
  ·rw[getD_app e,fsG_app (by rw[<- h.lg];exact e)];exact h.gok j e
  ·have:j=g.length:=by simp at hj;omega
   subst this
   exact .inl (getD_new _ _)
 ·unfold fsG
  by_cases hj:j<(fs++[f]).length
  ·have:(fs++[f]).getD j []=(fs++[f])[j]:=by simp only[List.getD_eq_getElem?_getD,List.getElem?_eq_getElem hj,Option.getD_some]
   rw[this];exact h3 _ (List.getElem_mem hj)
  ·have:(fs++[f]).getD j []=[]:=by rw[List.getD_eq_getElem?_getD,List.getElem?_eq_none (by omega)];rfl
   rw[this];simp
 ·by_cases hs:x<st.length
  ·have:=h.tot x hs;have:=h4 x;omega
  ·have:left.getD x 0=0:=by rw[List.getD_eq_getElem?_getD,List.getElem?_eq_none (by omega)];rfl
   omega
theorem FnO.empties{P:Program}{f:FuncId}{bs:List AV}{R:AV->List (Nat × Res)->Prop}(h1:FnO P f (.nils::bs) R)(h2:∀a c,FnO P f (.lit (.slice (some a) 0 c)::bs) R):FnO P f (.isl []::bs) R:=by
 intro imm w vs himm hargs
 simp only[RV0s]at hargs
 obtain⟨v,vs',rfl,hv,hr⟩:=hargs
 simp only[RV0]at hv
 rcases hv with⟨⟨a,rfl⟩,_⟩|⟨sz,b,off,cap,rfl,hc,hi,_⟩
 ·cases a with
  |none=>exact h1 imm w _ himm (by simp only[RV0s];exact⟨_,_,rfl,by simp only[RV0],hr⟩)
  |some a=>exact h2 a 0 imm w _ himm (by simp only[RV0s];exact⟨_,_,rfl,by simp only[RV0],hr⟩)
 ·exact h2 ⟨b,off,none⟩ cap imm w _ himm (by simp only[RV0s];exact⟨_,_,rfl,by simp only[RV0,List.length_nil],hr⟩)
def Tryz.cloneI_ren:Go.Shelf.Ren:=⟨fun|15=>105|n=>n,fun|22=>27|3=>3|4=>4|n=>n,fun|n=>n⟩
theorem Tryz.cloneI:Go.Proofs.Lays2.n15 Tryz.prog Tryz.cloneI_ren:={
 mixed:=by kernel_rfl
 f15:=Tryz.func105.trans (congrArg some (by kernel_rfl))
 t3:=Tryz.underlying3
 a3:=Tryz.isAgg3
 z3:=Tryz.sizeOf3
 v3:=Tryz.zeroValue3
 t4:=Tryz.underlying4
 a4:=Tryz.isAgg4
 z4:=Tryz.sizeOf4
 v4:=Tryz.zeroValue4
 t22:=Tryz.underlying27
 a22:=Tryz.isAgg27
 z22:=Tryz.sizeOf27
 v22:=Tryz.zeroValue27
 i3:=by kernel_rfl }
theorem q105(l:List Int)(hl:l.length<=1000000):FnO Tryz.prog 105 [.isl (l.map jAV)] (fun r rows=>r = .row 1/\rows=[(1, .row false 3 1 (l.map jAV))]):=by
 cases l with
 |nil=>
  refine FnO.empties ?_ fun a c=>?_
  ·intro imm w vs himm hargs
   simp only[RV0s,RV0]at hargs
   obtain⟨_,_,rfl,rfl,rfl⟩:=hargs
   refine(Any.slices_Clone_int_nil Tryz.cloneI 0 0 w).mono fun e w' hw=>?_
   obtain⟨rfl,rfl⟩:=hw
   refine⟨_,_,_,imm,fun i=>if i=1 then some ⟨0, .slice none 0 0⟩ else none,rfl,⟨rfl,rfl⟩,?_,rfl,?_,RowKit.Below.refl _ _,fun b hb=>hb,fun b hb=>.inl hb⟩
   ·simp only[RV];exact⟨_,rfl,rfl⟩
   ·simp only[OwnRows]
    refine⟨⟨3,1,[],⟨0, .slice none 0 0⟩,[],rfl,rfl,⟨rfl, .inl ⟨rfl,rfl⟩⟩,?_,by simp,?_,by simp⟩,trivial⟩
    ·simp[RV0s]
    ·intro b hb;simp[Value.ownBlock]at hb
  ·refine fnO 2 ok105 (by simp) ?_
   (conv=>whnf);(repeat'((first|apply bT|apply bF|apply bN|((first|apply bD|apply bEq|apply bNe)<;>intro hh<;>try(exfalso;omega))|refine apI (by simp) (by simp) ?_|refine wJ ?_|refine nJ ?_)<;>conv=>whnf))
   all_goals exact⟨rfl,rfl⟩
 |cons x l=>exact p160 (x::l) (by simp) hl
def Ord.many(s:Ord):List Int:=s.sup.map (·.many)
structure GoodF(s:Ord)(f:Fil):Prop where
 best:Best f.rep s.many f.left f.giv
 lk:f.lacks=lackN f.giv
 rng:Rng s.many.length f.rep
 l1:f.rep.length<=60
 l2:∀l∈f.rep,l.length<=100
 l3:f.pl.length<=60
theorem many_len(s:Ord):s.many.length=s.sup.length:=by simp[Ord.many]
theorem many_bd{s:Ord}(hk:OkO s):∀i,i<s.many.length->0<=s.many.getD i 0/\s.many.getD i 0<=10:=fun i hi=>by
 have hm:s.many.getD i 0∈s.many:=getD_memI hi
 obtain⟨d,hd,e⟩:=List.mem_map.1 (show s.many.getD i 0∈s.sup.map (·.many) from hm)
 have hd2:0<=d.many/\d.many<=10:=by
  rcases List.mem_append.1 hd with h|h
  ·unfold stD at h
   obtain⟨q,hq,rfl⟩:=List.mem_map.1 h
   exact hk.st2 _ (getD_memI (List.mem_range.1 hq))
  ·have:=hk.d2 d h
   unfold okDl at this
   simp only[Bool.and_eq_true,decide_eq_true_eq]at this
   omega
 rw[<- e];exact hd2
theorem many_nn{s:Ord}(hk:OkO s):Nn s.many:=fun i hi=>(many_bd hk i hi).1
theorem many_le{s:Ord}(hk:OkO s)(i:Nat):s.many.getD i 0<=1000:=by
 by_cases hi:i<s.many.length
 ·have:=many_bd hk i hi;omega
 ·have:s.many.getD i 0=0:=by rw[List.getD_eq_getElem?_getD,List.getElem?_eq_none (by omega)];rfl
  omega
theorem f_one(l:List (List Int)):∀e∈l.map fAV,e.length=1/\e.all AV.one=true:=fun e he=>by
 obtain⟨x,_,rfl⟩:=List.mem_map.1 he;exact⟨rfl,rfl⟩
theorem takej(l:List (List AV))(n:Nat)(h:l.length=n):(l.take ((n:Nat):Int).toNat).drop (0:Int).toNat=l:=by
 subst h;simp
structure GRes where
 b:Bool
 left:List Int
 g:List Int
 tr:List Bool
abbrev GRec:=List Int->List Int->List Bool->Nat->GRes
def goO(rec:GRec)(x:Int):List Nat->List Int->List Int->List Bool->GRes
 | [],left,g,tr=>⟨false,left,g,tr⟩
 |j::js,left,g,tr=>if g.getD j 0=x then(match rec left g tr j with
   |⟨true,l,h,t⟩=>⟨true,l,h,t⟩
   |⟨false,l,h,t⟩=>goO rec x js l h t) else goO rec x js left g tr
def goS(rec:GRec)(J:Nat):List Int->List Int->List Int->List Bool->GRes
 | [],left,g,tr=>⟨false,left,g,tr⟩
 |x::xs,left,g,tr=>if tr.getD x.toNat false=true then goS rec J xs left g tr else
   if 0<left.getD x.toNat 0 then⟨true,left.set x.toNat (left.getD x.toNat 0-1),g.set J x,tr.set x.toNat true⟩ else
   match goO rec x (List.range g.length) left g (tr.set x.toNat true)with
   |⟨true,l,h,t⟩=>⟨true,l,h.set J x,t⟩
   |⟨false,l,h,t⟩=>goS rec J xs l h t
def noR:GRec:=fun left g tr _=>⟨false,left,g,tr⟩
def gv(fs:List (List Int)):Nat->GRec
 |0=>fun left g tr J=>goS noR J (fsG fs J) left g tr
 |n+1=>fun left g tr J=>goS (gv fs n) J (fsG fs J) left g tr
def recF(fs:List (List Int)):Nat->GRec
 |0=>noR
 |n+1=>gv fs n
theorem gv_eq(fs:List (List Int))(n:Nat)(left g:List Int)(tr:List Bool)(J:Nat):gv fs n left g tr J=goS (recF fs n) J (fsG fs J) left g tr:=by cases n<;>rfl
structure GOk(fs:List (List Int))(left g:List Int)(tr:List Bool)(J:Nat)(r:GRes):Prop where
 len:r.tr.length=tr.length
 no:r.b=false->r.left=left/\r.g=g/\Fail fs left g tr r.tr J
 yes:r.b=true->Win fs left g tr r.left r.g J
theorem trB_sub{tr tr':List Bool}(hl:tr'.length=tr.length)(h:∀x,trB tr x=true->trB tr' x=true):untr tr'<=untr tr:=untr_le hl (fun i hi=>by
 have:=h (i:Nat) (by unfold trB;simpa using hi)
 unfold trB at this;simpa using this)
structure OOk(fs:List (List Int))(left g:List Int)(t1:List Bool)(x:Int)(js:List Nat)(r:GRes):Prop where
 len:r.tr.length=t1.length
 no:r.b=false->r.left=left/\r.g=g/\(∀y,trB t1 y=true->trB r.tr y=true)/\(∀j∈js,g.getD j 0=x->∀y∈fsG fs j,trB r.tr y=true)/\∀y,0<=y->trB r.tr y=true->trB t1 y=false->left.getD y.toNat 0=0/\∀j,j<g.length->g.getD j 0=y->∀z∈fsG fs j,trB r.tr z=true
 yes:r.b=true->∃t2 O,O<g.length/\g.getD O 0=x/\(∀y,trB t1 y=true->trB t2 y=true)/\Win fs left g t2 r.left r.g O
theorem goO_ok{fs:List (List Int)}{left g:List Int}{x:Int}{rec:GRec}{n T:Nat}(hrec:∀tr j,j<g.length->g.getD j 0=x->trB tr x=true->tr.length=T->untr tr<n->GOk fs left g tr j (rec left g tr j)):∀(js:List Nat) (t1:List Bool),(∀j∈js,j<g.length)->trB t1 x=true->t1.length=T->untr t1<n->OOk fs left g t1 x js (goO rec x js left g t1)
 | [],t1,_,_,_,_=>⟨rfl,fun _=>⟨rfl,rfl,fun y hy=>hy,by simp,fun y _ h1 h2=>by simp only[goO]at h1;rw[h2]at h1;cases h1⟩,fun h=>by cases h⟩
 |j::js,t1,hj,hx,hT,hu=>by
  unfold goO
  by_cases he:g.getD j 0=x
  ·rw[if_pos he]
   have h:=hrec t1 j (hj j (by simp)) he hx hT hu
   generalize rec left g t1 j=r at h
   obtain⟨b,l,h',t⟩:=r
   cases b with
   |true=>exact⟨h.len,(fun h=>by cases h),fun _=>⟨t1,j,hj j (by simp),he,fun y hy=>hy,h.yes rfl⟩⟩
   |false=>
    obtain⟨e1,e2,hF⟩:=h.no rfl
    have hlen:=h.len
    dsimp only at e1 e2 hF hlen
    subst e1;subst e2
    have ih:=goO_ok hrec js t (fun j hj'=>hj j (by simp[hj'])) (hF.sup x hx) (hlen.trans hT) (by have:=trB_sub hlen hF.sup;omega)
    refine⟨ih.len.trans hlen,fun hb=>?_,fun hb=>?_⟩
    ·obtain⟨a1,a2,a3,a4,a5⟩:=ih.no hb
     refine⟨a1,a2,fun y hy=>a3 y (hF.sup y hy),fun i hi hgi y hy=>?_,fun y hy0 hy hyr=>?_⟩
     ·rcases List.mem_cons.1 hi with rfl|hi
      ·exact a3 y (hF.all y hy)
      ·exact a4 i hi hgi y hy
     ·cases hq:trB t y with
      |true=>
       obtain⟨c1,c2⟩:=hF.shut y hy0 hq hyr
       exact⟨c1,fun i hi hgi z hz=>a3 z (c2 i hi hgi z hz)⟩
      |false=>exact a5 y hy0 hy hq
    ·obtain⟨t2,O,a1,a2,a3,a4⟩:=ih.yes hb
     exact⟨t2,O,a1,a2,fun y hy=>a3 y (hF.sup y hy),a4⟩
  ·rw[if_neg he]
   have ih:=goO_ok hrec js t1 (fun j hj'=>hj j (by simp[hj'])) hx hT hu
   refine⟨ih.len,fun hb=>?_,ih.yes⟩
   obtain⟨a1,a2,a3,a4,a5⟩:=ih.no hb
   refine⟨a1,a2,a3,fun i hi hgi y hy=>?_,a5⟩
   rcases List.mem_cons.1 hi with rfl|hi
   ·exact absurd hgi he
   ·exact a4 i hi hgi y hy
theorem goS_ok{fs:List (List Int)}{left g:List Int}{tr:List Bool}{J n:Nat}{rec:GRec}(h:Pre fs left g tr J)(hrec:∀tr' j,j<g.length->trB tr' (g.getD j 0)=true->tr'.length=tr.length->untr tr'<n->GOk fs left g tr' j (rec left g tr' j)) :
  ∀(xs:List Int) (t1:List Bool),(∀x∈xs,x∈fsG fs J)->(∀x,trB tr x=true->trB t1 x=true)->t1.length=tr.length->untr t1<=n ->
   (∀x∈fsG fs J,x∈xs\/trB t1 x=true)->(∀x,0<=x->trB t1 x=true->trB tr x=false->left.getD x.toNat 0=0/\∀j,j<g.length->g.getD j 0=x->∀y∈fsG fs j,trB t1 y=true)->GOk fs left g tr J (goS rec J xs left g t1)
 | [],t1,_,hsup,hl,_,hall,hshut=>⟨hl,fun _=>⟨rfl,rfl,hsup,fun x hx=>(hall x hx).resolve_left (by simp),fun x h0 h1 h2=>hshut x h0 h1 h2⟩,fun h=>by cases h⟩
 |x::xs,t1,hxs,hsup,hl,hu,hall,hshut=>by
  unfold goS
  have hxm:=hxs x (by simp)
  obtain⟨hx0,hx1⟩:=h.sp J x hxm
  have hxt:x.toNat<t1.length:=by rw[hl,h.lt];omega
  by_cases hb:t1.getD x.toNat false=true
  ·rw[if_pos hb]
   exact goS_ok h hrec xs t1 (fun y hy=>hxs y (by simp[hy])) hsup hl hu (fun y hy=>by
    rcases hall y hy with q|q
    ·rcases List.mem_cons.1 q with rfl|q
     ·exact .inr hb
     ·exact .inl q
    ·exact .inr q) hshut
  ·rw[if_neg hb]
   have hb':t1.getD x.toNat false=false:=by simpa using hb
   have hxr:trB tr x=false:=by
    cases hq:trB tr x with
    |false=>rfl
    |true=>exact absurd (hsup x hq) hb
   have hu1:=untr_set hxt hb'
   have hsx:trB (t1.set x.toNat true) x=true:=by unfold trB;rw[getD_setB _ _ _ _ hxt,if_pos rfl]
   have hsup2:∀y,trB t1 y=true->trB (t1.set x.toNat true) y=true:=fun y hy=>sup_set ⟨hx0,hxt⟩ hy
   have hnew:∀y,0<=y->trB (t1.set x.toNat true) y=true->y≠x->trB t1 y=true:=fun y hy0 hy hne=>by
    unfold trB at hy⊢
    rw[getD_setB _ _ _ _ hxt]at hy
    split at hy
    ·omega
    ·exact hy
   by_cases hp:0<left.getD x.toNat 0
   ·rw[if_pos hp]
    exact⟨by simp[hl],(fun h=>by cases h),fun _=>win_take h hxm hp⟩
   ·rw[if_neg hp]
    have hl0:left.getD x.toNat 0=0:=by
     have:=h.nn x.toNat (by omega)
     omega
    have hO:=goO_ok (fs:=fs) (left:=left) (g:=g) (x:=x) (rec:=rec) (n:=n) (T:=tr.length) (fun tr' j hj hgj htx hT hun=>hrec tr' j hj (by rw[hgj];exact htx) hT hun) (List.range g.length) (t1.set x.toNat true) (fun j hj=>List.mem_range.1 hj) hsx (by simp[hl]) (by omega)
    generalize goO rec x (List.range g.length) left g (t1.set x.toNat true)=r at hO
    obtain⟨b,l,g',t⟩:=r
    cases b with
    |true=>
     obtain⟨t2,O,a1,a2,a3,a4⟩:=hO.yes rfl
     have hlen:=hO.len
     dsimp only at a4 hlen
     exact⟨by dsimp only;rw[hlen];simp[hl],(fun h=>by cases h),fun _=>win_from h hxm a1 a2 hxr (fun y hy=>a3 y (hsup2 y (hsup y hy))) a4⟩
    |false=>
     obtain⟨e1,e2,a3,a4,a5⟩:=hO.no rfl
     have hlen:=hO.len
     dsimp only at e1 e2 a3 a4 a5 hlen
     subst e1;subst e2
     have hlt:t.length=tr.length:=by rw[hlen];simp[hl]
     refine goS_ok h hrec xs t (fun y hy=>hxs y (by simp[hy])) (fun y hy=>a3 y (hsup2 y (hsup y hy))) hlt ?_ (fun y hy=>?_) (fun y hy0 hy hyr=>?_)
     ·have:=trB_sub hlen a3;omega
     ·rcases hall y hy with q|q
      ·rcases List.mem_cons.1 q with rfl|q
       ·exact .inr (a3 _ hsx)
       ·exact .inl q
      ·exact .inr (a3 y (hsup2 y q))
     ·by_cases e:y=x
      ·subst e
       exact⟨hl0,fun j hj hgj=>a4 j (List.mem_range.2 hj) hgj⟩
      ·cases hq:trB (t1.set x.toNat true) y with
       |true=>
        obtain⟨c1,c2⟩:=hshut y hy0 (hnew y hy0 hq e) hyr
        exact⟨c1,fun j hj hgj z hz=>a3 z (hsup2 z (c2 j hj hgj z hz))⟩
       |false=>exact a5 y hy0 hy hq
theorem gv_ok{fs:List (List Int)}:∀(n:Nat) (left g:List Int) (tr:List Bool) (J:Nat),untr tr<=n->Pre fs left g tr J->GOk fs left g tr J (gv fs n left g tr J):=by
 intro n
 induction n with
 |zero=>
  intro left g tr J hn h
  rw[gv_eq]
  exact goS_ok h (n:=0) (fun _ _ _ _ _ hu=>absurd hu (by omega)) (fsG fs J) tr (fun x hx=>hx) (fun x hx=>hx) rfl hn (fun x hx=>.inl hx) (fun x _ h1 h2=>by rw[h2]at h1;cases h1)
 |succ n ih=>
  intro left g tr J hn h
  rw[gv_eq]
  exact goS_ok h (n:=n+1) (fun tr' j hj htj hl hu=>ih left g tr' j (by omega) ⟨h.sp,by rw[hl];exact h.lt,h.lg,by rw[<- h.lg];exact hj,h.nn,h.gok, .inr htj,h.s1,h.s2,h.s3,h.s4⟩) (fsG fs J) tr (fun x hx=>hx) (fun x hx=>hx) rfl hn (fun x hx=>.inl hx) (fun x _ h1 h2=>by rw[h2]at h1;cases h1)
def resG(s:Ord)(pl:List Int)(lost lacks:Int)(fs fx:List (List Int))(q:GRes)(r:AV)(outs:List Res):Prop:=r = .bool q.b/\outs=fIns s pl lost lacks fs fx q.left q.g q.tr
def contS(rec:GRec)(J:Nat)(xs:List Int)(x:Int):GRes->GRes
 |⟨true,l,h,t⟩=>⟨true,l,h.set J x,t⟩
 |⟨false,l,h,t⟩=>goS rec J xs l h t
theorem goS_yes{rec:GRec}{J:Nat}{x:Int}{xs:List Int}{left g:List Int}{tr:List Bool}(h:tr.getD x.toNat false=true):goS rec J (x::xs) left g tr=goS rec J xs left g tr:=by rw[goS,if_pos h]
theorem goS_take{rec:GRec}{J:Nat}{x:Int}{xs:List Int}{left g:List Int}{tr:List Bool}(h:tr.getD x.toNat false=false)(hp:0<left.getD x.toNat 0):goS rec J (x::xs) left g tr=⟨true,left.set x.toNat (left.getD x.toNat 0-1),g.set J x,tr.set x.toNat true⟩:=by rw[goS,if_neg (by rw[h];simp),if_pos hp]
theorem goS_try{rec:GRec}{J:Nat}{x:Int}{xs:List Int}{left g:List Int}{tr:List Bool}(h:tr.getD x.toNat false=false)(hp:¬ 0<left.getD x.toNat 0):goS rec J (x::xs) left g tr=contS rec J xs x (goO rec x (List.range g.length) left g (tr.set x.toNat true)):=by
 rw[goS,if_neg (by rw[h];simp),if_neg hp];rfl
theorem drop_cons{α : Type}{l:List α}{k:Nat}(h:k<l.length):l.drop k=l[k]::l.drop (k+1):=List.drop_eq_getElem_cons h
theorem v106s(s:Ord)(pl:List Int)(lost lacks:Int)(fs fx:List (List Int))(hfx:fx.length<=1000)(left g:List Int)(tr:List Bool)(J:Nat)(rec:GRec)(h:Pre fs left g tr J)
  (hrec:∀t2 j,j<g.length->trB t2 (g.getD j 0)=true->t2.length=tr.length->untr t2<untr tr->GOk fs left g t2 j (rec left g t2 j)/\FnW Tryz.prog 106 [.own 0 0, .int .i64 (j:Nat), .row 3] (fIns s pl lost lacks fs fx left g t2) (resG s pl lost lacks fs fx (rec left g t2 j))) :
  FnW Tryz.prog 106 [.own 0 0, .int .i64 (J:Nat), .row 3] (fIns s pl lost lacks fs fx left g tr) (resG s pl lost lacks fs fx (goS rec J (fsG fs J) left g tr)):=by
  have hJ:J<g.length:=by rw[h.lg];exact h.jlt
  have hJf:=h.jlt
  have hs1:=h.s1
  have hs2:=h.s2
  have hs3:=h.s3 J
  have hlg:=h.lg
  have hlt:=h.lt
  have lf:((fs++fx).map fAV).length=fs.length+fx.length:=by simp
  have lg:(g.map jAV).length=g.length:=by simp
  have ll:(left.map jAV).length=left.length:=by simp
  have lJ:((fsG fs J).map jAV).length=(fsG fs J).length:=by simp
  refine fnW 0 [] ok106 (by simp) rfl rfl ?_
  (conv=>whnf);(repeat'((first|apply bT|apply bF|apply bN|((first|apply bD|apply bEq|apply bNe)<;>intro hh<;>try(exfalso;omega))|refine iaJ (fgetx fx hJf) ?_|refine wJ ?_|refine nJ ?_)<;>conv=>whnf))
  refine loop_i (α :=Nat × List Bool) (fun q=>[(19, .int .i64 q.1),(18, .int .i64 ↑((fsG fs J).map jAV).length),(17, .isl ((fsG fs J).map jAV)),(2, .row 3),(1, .int .i64 J),(0, .own 0 0)]) (fun q=>fIns s pl lost lacks fs fx left g q.2) (fun q=>q.1<=(fsG fs J).length/\q.2.length=tr.length/\(∀x,trB tr x=true->trB q.2 x=true)/\goS rec J (fsG fs J) left g tr=goS rec J ((fsG fs J).drop q.1) left g q.2) (fun q=>(fsG fs J).length-q.1) (0,tr) mI ⟨by simp,rfl,fun x hx=>hx,by simp⟩ ?_
  rintro⟨k,t1⟩ ⟨hk0,hl1,hsup,heq⟩
  dsimp only at hk0 hl1 hsup heq⊢
  rw[heq]
  clear heq
  have lt1:(t1.map bAV).length=t1.length:=by simp
  conv=>whnf
  refine bD (fun h3=>?_) (fun h3=>?_)
  ·have hk:k<(fsG fs J).length:=by omega
   have hgx:=getM jAV (fsG fs J) k hk
   have hxm:(fsG fs J)[k]∈fsG fs J:=List.getElem_mem hk
   have hdc:=drop_cons hk
   generalize (fsG fs J)[k]=x at hgx hxm hdc
   generalize hxs:(fsG fs J).drop (k+1)=xs at hdc
   obtain⟨hx0,hx1⟩:=h.sp J x hxm
   have hxt:x.toNat<t1.length:=by omega
   have hxl:x.toNat<left.length:=by omega
   have g1:=bget hxt
   have gl:=jget hxl
   have gJ:=jget hJ
   rw[hdc]
   cases hb:t1.getD x.toNat false with
   |true=>
    rw[hb]at g1
    rw[goS_yes hb,<- hxs]
    (conv=>whnf);(repeat'((first|apply bT|apply bF|apply bN|((first|apply bD|apply bEq|apply bNe)<;>intro hh<;>try(exfalso;omega))|refine iaJ hgx ?_|refine iaJ g1 ?_|refine wJ ?_|refine nJ ?_)<;>conv=>whnf))
    exact⟨(k+1,t1),mI,⟨by dsimp only;omega,hl1,hsup,rfl⟩,by dsimp only;omega⟩
   |false=>
    rw[hb]at g1
    have hb':trB t1 x=false:=hb
    have hu1:=untr_set hxt hb
    have hu2:=trB_sub hl1 hsup
    have hput:(t1.map bAV).set x.toNat [.bool true]=(t1.set x.toNat true).map bAV:=by rw[List.map_set];rfl
    have hsx:trB (t1.set x.toNat true) x=true:=by unfold trB;rw[getD_setB _ _ _ _ hxt,if_pos rfl]
    have hsup2:∀y,trB t1 y=true->trB (t1.set x.toNat true) y=true:=fun y hy=>sup_set ⟨hx0,hxt⟩ hy
    by_cases hp:0<left.getD x.toNat 0
    ·-- some are left
     have hput2:(left.map jAV).set x.toNat [.int .i64 (left.getD x.toNat 0-1)]=(left.set x.toNat (left.getD x.toNat 0-1)).map jAV:=by rw[List.map_set];rfl
     have hput3:(g.map jAV).set J [.int .i64 x]=(g.set J x).map jAV:=by rw[List.map_set];rfl
     have hs4:=h.s4 x.toNat
     rw[goS_take hb hp]
     (conv=>whnf);(repeat'((first|apply bT|apply bF|apply bN|((first|apply bD|apply bEq|apply bNe)<;>intro hh<;>try(exfalso;omega))|refine iaJ hgx ?_|refine iaJ g1 ?_|refine iaJ gl ?_|refine iaJ gJ ?_|refine wJ ?_|refine nJ ?_)<;>conv=>whnf))
     all_goals
      refine⟨rfl,?_⟩
      unfold fIns
      dsimp only
      rw[<- hput,<- hput2,<- hput3]
      rfl
    ·-- those that have it
     have lt2:(t1.set x.toNat true).length=tr.length:=by simp[hl1]
     rw[goS_try hb hp]
     (conv=>whnf);(repeat'((first|apply bT|apply bF|apply bN|((first|apply bD|apply bEq|apply bNe)<;>intro hh<;>try(exfalso;omega))|refine iaJ hgx ?_|refine iaJ g1 ?_|refine iaJ gl ?_|refine wJ ?_|refine nJ ?_)<;>conv=>whnf))
     refine loop_i (α :=Nat × List Bool) (fun q=>[(59, .int .i64 q.1),(58, .int .i64 ↑(g.map jAV).length),(57, .row 1),(19, .int .i64 k),(18, .int .i64 ↑((fsG fs J).map jAV).length),(17, .isl ((fsG fs J).map jAV)),(8, .int .i64 x),(2, .row 3),(1, .int .i64 J),(0, .own 0 0)]) (fun q=>fIns s pl lost lacks fs fx left g q.2) (fun q=>q.1<=g.length/\q.2.length=tr.length/\(∀y,trB (t1.set x.toNat true) y=true->trB q.2 y=true)/\contS rec J xs x (goO rec x (List.range g.length) left g (t1.set x.toNat true))=contS rec J xs x (goO rec x ((List.range g.length).drop q.1) left g q.2)) (fun q=>g.length-q.1) (0,t1.set x.toNat true) ?_ ⟨by simp,lt2,fun y hy=>hy,by simp⟩ ?_
     ·dsimp only
      unfold fIns
      rw[<- hput]
      exact mI
     rintro⟨j,t2⟩ ⟨hj0,hl2,hs2',heq2⟩
     dsimp only at hj0 hl2 hs2' heq2⊢
     rw[heq2]
     clear heq2
     conv=>whnf
     refine bD (fun h5=>?_) (fun h5=>?_)
     ·have hj:j<g.length:=by omega
      have gj:=jget hj
      have hdr:(List.range g.length).drop j=j::(List.range g.length).drop (j+1):=by
       rw[drop_cons (l:=List.range g.length) (k:=j) (by simpa using hj),List.getElem_range]
      rw[hdr]
      by_cases he:g.getD j 0=x
      ·have hx2:trB t2 x=true:=hs2' x hsx
       have hu3:=trB_sub (tr:=t1.set x.toNat true) (tr':=t2) (by rw[hl2,lt2]) hs2'
       obtain⟨hG,hW⟩:=hrec t2 j hj (by rw[he];exact hx2) hl2 (by omega)
       have hgo:goO rec x (j::(List.range g.length).drop (j+1)) left g t2=(match rec left g t2 j with
         |⟨true,l,h,t⟩=>⟨true,l,h,t⟩
         |⟨false,l,h,t⟩=>goO rec x ((List.range g.length).drop (j+1)) l h t):=by
        rw[goO,if_pos he]
        try (generalize rec left g t2 j=q;obtain⟨b,l,h,t⟩:=q;cases b<;>rfl)
       rw[hgo]
       generalize rec left g t2 j=q at hG hW
       obtain⟨b,l',g',t3⟩:=q
       have hW:FnW Tryz.prog 106 [.own 0 0, .int .i64 (j:Nat), .row 3] (fIns s pl lost lacks fs fx left g t2) (fun r outs=>r = .bool b/\outs=fIns s pl lost lacks fs fx l' g' t3):=hW
       have hl3:=hG.len
       dsimp only at hl3
       (conv=>whnf);(repeat'((first|apply bT|apply bF|apply bN|((first|apply bD|apply bEq|apply bNe)<;>intro hh<;>try(exfalso;omega))|refine iaJ gj ?_|refine wJ ?_|refine nJ ?_)<;>conv=>whnf))
       refine hW.callwq [0,1,2,3,4,5] rfl rfl ⟨rfl,rfl,rfl,rfl,rfl,rfl,trivial⟩ rfl rfl rfl rfl (fun r outs hr=>?_)
       obtain⟨hr1,ho⟩:=hr
       subst hr1;subst ho
       refine⟨⟨rfl,rfl,rfl,rfl⟩,?_⟩
       cases b with
       |false=>
        obtain⟨e1,e2,hF⟩:=hG.no rfl
        dsimp only at e1 e2 hF
        subst e1;subst e2
        (conv=>whnf);(repeat'((first|apply bT|apply bF|apply bN|((first|apply bD|apply bEq|apply bNe)<;>intro hh<;>try(exfalso;omega))|refine wJ ?_|refine nJ ?_)<;>conv=>whnf))
        exact⟨(j+1,t3),mI,⟨by dsimp only;omega,by rw[hl3,hl2],fun y hy=>hF.sup y (hs2' y hy),rfl⟩,by dsimp only;omega⟩
       |true=>
        have hWn:=hG.yes rfl
        dsimp only at hWn
        have hJ1:J<g'.length:=by rw[hWn.gl];exact hJ
        have lg1:(g'.map jAV).length=g'.length:=by simp
        have gJ1:=jget hJ1
        have hput3:(g'.map jAV).set J [.int .i64 x]=(g'.set J x).map jAV:=by rw[List.map_set];rfl
        have hgl:=hWn.gl
        (conv=>whnf);(repeat'((first|apply bT|apply bF|apply bN|((first|apply bD|apply bEq|apply bNe)<;>intro hh<;>try(exfalso;omega))|refine iaJ gJ1 ?_|refine wJ ?_|refine nJ ?_)<;>conv=>whnf))
        all_goals
         refine⟨rfl,?_⟩
         unfold fIns
         dsimp only[contS]
         rw[<- hput3]
         rfl
      ·have hgo:goO rec x (j::(List.range g.length).drop (j+1)) left g t2=goO rec x ((List.range g.length).drop (j+1)) left g t2:=by rw[goO,if_neg he]
       rw[hgo]
       (conv=>whnf);(repeat'((first|apply bT|apply bF|apply bN|((first|apply bD|apply bEq|apply bNe)<;>intro hh<;>try(exfalso;omega))|refine iaJ gj ?_|refine wJ ?_|refine nJ ?_)<;>conv=>whnf))
       exact⟨(j+1,t2),mI,⟨by dsimp only;omega,hl2,hs2',rfl⟩,by dsimp only;omega⟩
     ·have:j=g.length:=by omega
      subst this
      have hdn:(List.range g.length).drop g.length=[]:=by simp
      rw[hdn]
      (conv=>whnf);(repeat'((first|apply bT|apply bF|apply bN|((first|apply bD|apply bEq|apply bNe)<;>intro hh<;>try(exfalso;omega))|refine wJ ?_|refine nJ ?_)<;>conv=>whnf))
      refine⟨(k+1,t2),mI,⟨by dsimp only;omega,hl2,fun y hy=>hs2' y (hsup2 y (hsup y hy)),?_⟩,by dsimp only;omega⟩
      dsimp only
      rw[hxs];rfl
  ·have:k=(fsG fs J).length:=by omega
   subst this
   have hdn:(fsG fs J).drop (fsG fs J).length=[]:=by simp
   rw[hdn]
   (conv=>whnf);(repeat'((first|apply bT|apply bF|apply bN|((first|apply bD|apply bEq|apply bNe)<;>intro hh<;>try(exfalso;omega))|refine wJ ?_|refine nJ ?_)<;>conv=>whnf))
   all_goals exact⟨rfl,rfl⟩
theorem v106(s:Ord)(pl:List Int)(lost lacks:Int)(fs fx:List (List Int))(hfx:fx.length<=1000):∀(n:Nat) (left g:List Int) (tr:List Bool) (J:Nat),untr tr<=n->Pre fs left g tr J->FnW Tryz.prog 106 [.own 0 0, .int .i64 (J:Nat), .row 3] (fIns s pl lost lacks fs fx left g tr) (resG s pl lost lacks fs fx (gv fs n left g tr J)):=by
 intro n
 induction n with
 |zero=>
  intro left g tr J hn h
  rw[gv_eq]
  exact v106s s pl lost lacks fs fx hfx left g tr J _ h fun t2 j _ _ _ hu=>absurd hu (by omega)
 |succ n ih=>
  intro left g tr J hn h
  rw[gv_eq]
  refine v106s s pl lost lacks fs fx hfx left g tr J _ h fun t2 j hj htj hl hu=>?_
  have hp:Pre fs left g t2 j:=⟨h.sp,by rw[hl];exact h.lt,h.lg,by rw[<- h.lg];exact hj,h.nn,h.gok, .inr htj,h.s1,h.s2,h.s3,h.s4⟩
  exact⟨gv_ok n left g t2 j (by omega) hp,ih left g t2 j (by omega) hp⟩
structure WS where
 left:List Int
 g:List Int
 c:Int
def wF(s:Ord)(f:Fil)(o:Opt):Nat->WS
 |0=>⟨f.left,f.giv,f.lacks⟩
 |k+1=>let q:=wF s f o k
  let r:=gv (f.rep++o.rep.take (k+1)) s.many.length q.left (q.g++[-1]) (List.replicate s.many.length false) q.g.length
  ⟨r.left,r.g,if r.b=true then q.c else q.c+1⟩
def withF(s:Ord)(f:Fil)(o:Opt):Fil:=⟨f.pl++[o.pc],f.lost,f.rep++o.rep,(wF s f o o.rep.length).g,(wF s f o o.rep.length).left,(wF s f o o.rep.length).c⟩
theorem untr_rep(n:Nat):untr (List.replicate n false)=n:=by unfold untr;simp
theorem trB_repl(n:Nat)(x:Int):trB (List.replicate n false) x=false:=by unfold trB;rw[List.getD_eq_getElem?_getD,List.getElem?_replicate];split<;>rfl
structure OptOk(s:Ord)(o:Opt):Prop where
 r:Rng s.many.length o.rep
 l1:o.rep.length<=30
 l2:∀l∈o.rep,l.length<=100
theorem wF_pre{s:Ord}(hk:OkO s){f:Fil}(hf:GoodF s f){o:Opt}(ho:OptOk s o){k:Nat}(hkl:k<o.rep.length){left g:List Int}(hB:Best (f.rep++o.rep.take k) s.many left g):Pre (f.rep++o.rep.take (k+1)) left (g++[-1]) (List.replicate s.many.length false) g.length/\f.rep++o.rep.take (k+1)=f.rep++o.rep.take k++[o.rep[k]]/\Rng s.many.length (f.rep++o.rep.take k++[o.rep[k]]):=by
 have htk:o.rep.take (k+1)=o.rep.take k++[o.rep[k]]:=List.take_succ_eq_append_getElem hkl
 have hfm:o.rep[k]∈o.rep:=List.getElem_mem hkl
 have hRf:Rng s.many.length (f.rep++o.rep.take k++[o.rep[k]]):=by
  refine Rng.app.2 ⟨Rng.app.2 ⟨hf.rng,fun l hl=>ho.r l (List.mem_of_mem_take hl)⟩,fun l hl=>?_⟩
  rw[List.mem_singleton.1 hl];exact ho.r _ hfm
 have hlen:(f.rep++o.rep.take k).length=f.rep.length+k:=by rw[List.length_append,List.length_take];omega
 have hl1:=hf.l1
 have ho1:=ho.l1
 have hsl:=sup_len hk
 have hml:=many_len s
 have hl2:∀l∈f.rep++o.rep.take k++[o.rep[k]],l.length<=100:=fun l hl=>by
  rcases List.mem_append.1 hl with hl|hl
  ·rcases List.mem_append.1 hl with hl|hl
   ·exact hf.l2 l hl
   ·exact ho.l2 l (List.mem_of_mem_take hl)
  ·rw[List.mem_singleton.1 hl];exact ho.l2 _ hfm
 have hpre:=pre_new hB hRf (by omega) (by omega) hl2 (many_le hk)
 have e:f.rep++o.rep.take (k+1)=f.rep++o.rep.take k++[o.rep[k]]:=by rw[htk,List.append_assoc]
 rw[e]
 exact⟨hpre,rfl,hRf⟩
theorem wF_ok{s:Ord}(hk:OkO s){f:Fil}(hf:GoodF s f){o:Opt}(ho:OptOk s o):∀k,k<=o.rep.length->Best (f.rep++o.rep.take k) s.many (wF s f o k).left (wF s f o k).g/\(wF s f o k).c=lackN (wF s f o k).g
 |0,_=>by simpa[wF]using⟨hf.best,hf.lk⟩
 |k+1,hle=>by
  obtain⟨hB,hlk⟩:=wF_ok hk hf ho k (by omega)
  obtain⟨hpre,e,hRf⟩:=wF_pre hk hf ho (by omega) hB
  have hG:=gv_ok s.many.length _ _ _ _ (Nat.le_of_eq (untr_rep _)) hpre
  simp only[wF]
  generalize wF s f o k=q at *
  generalize gv (f.rep++o.rep.take (k+1)) s.many.length q.left (q.g++[-1]) (List.replicate s.many.length false) q.g.length=r at hG⊢
  obtain⟨b,l',g',t'⟩:=r
  cases b with
  |false=>
   obtain⟨e1,e2,hF⟩:=hG.no rfl
   dsimp only at e1 e2 hF
   subst e1;subst e2
   rw[e]at hF⊢
   obtain⟨a,b⟩:=best_fail hB hRf (trB_repl _) hF
   exact⟨a,by simp only[Bool.false_eq_true,if_false];rw[b];omega⟩
  |true=>
   have hw:=hG.yes rfl
   dsimp only at hw
   rw[e]at hw⊢
   obtain⟨a,b⟩:=best_win hB hRf hw
   exact⟨a,by simp only[if_true];rw[b];exact hlk⟩
theorem withF_ok{s:Ord}(hk:OkO s){f:Fil}(hf:GoodF s f){o:Opt}(ho:OptOk s o)(h1:f.rep.length+o.rep.length<=60)(h2:f.pl.length<60):GoodF s (withF s f o):=by
 obtain⟨a,b⟩:=wF_ok hk hf ho o.rep.length (Nat.le_refl _)
 rw[List.take_length]at a
 refine⟨a,b,Rng.app.2 ⟨hf.rng,ho.r⟩,by simp only[withF,List.length_append];omega,fun l hl=>?_,by simp only[withF,List.length_append,List.length_singleton];omega⟩
 rcases List.mem_append.1 hl with hl|hl
 ·exact hf.l2 l hl
 ·exact ho.l2 l hl
theorem v63e(s:Ord)(hk:OkO s)(f:Fil)(hf:GoodF s f)(pc:Int):FnA Tryz.prog 63 [.agg (f.cells s.sto), .agg [.int .i64 pc, .isl []]] (· = .agg ((withF s f ⟨pc,[]⟩).cells s.sto)):=by
 have lP:(f.pl.map jAV).length=f.pl.length:=by simp
 have lR:(f.rep.map fAV).length=f.rep.length:=by simp
 have hlg:=hf.best.lg
 have hll:=hf.best.ll
 have hl1:=hf.l1
 have hl3:=hf.l3
 have hsl:=sup_len hk
 have hml:=many_len s
 have e1:=q105 f.giv (by omega)
 have e2:=q105 f.left (by omega)
 have hlk:=hf.lk
 refine fnA 14 ok63 (by simp) ?_
 (conv=>whnf);(repeat'((first|apply bT|apply bF|apply bN|((first|apply bD|apply bEq|apply bNe)<;>intro hh<;>try(exfalso;omega))|refine wJ ?_|refine nJ ?_)<;>conv=>whnf))
 refine slI (es':=f.pl.map jAV) (by omega) (by omega) (by omega) (fun e he=>(j_one f.pl e he).1) (takej _ _ rfl) ?_
 (conv=>whnf);(repeat'((first|apply bT|apply bF|apply bN|((first|apply bD|apply bEq|apply bNe)<;>intro hh<;>try(exfalso;omega))|refine wJ ?_|refine nJ ?_)<;>conv=>whnf))
 refine apI (by simp[AV.one]) (by simp;omega) ?_
 (conv=>whnf);(repeat'((first|apply bT|apply bF|apply bN|((first|apply bD|apply bEq|apply bNe)<;>intro hh<;>try(exfalso;omega))|refine wJ ?_|refine nJ ?_)<;>conv=>whnf))
 refine slI (es':=f.rep.map fAV) (by omega) (by omega) (by omega) (fun e he=>(f_one f.rep e he).1) (takej _ _ rfl) ?_
 (conv=>whnf);(repeat'((first|apply bT|apply bF|apply bN|((first|apply bD|apply bEq|apply bNe)<;>intro hh<;>try(exfalso;omega))|refine wJ ?_|refine nJ ?_)<;>conv=>whnf))
 refine apI (by simp) (by simp;omega) ?_
 (conv=>whnf);(repeat'((first|apply bT|apply bF|apply bN|((first|apply bD|apply bEq|apply bNe)<;>intro hh<;>try(exfalso;omega))|refine e1.oq rfl rfl rfl ?_|refine e2.oq rfl rfl rfl ?_|refine wJ ?_|refine nJ ?_)<;>conv=>whnf))
 refine loop_i (α :=Unit) (fun _=>[(44, .int .i64 0),(43, .int .i64 0),(4, .own 2 0),(2, .own 0 0)]) (fun _=>[.box false [.ipt (s.stC s.mapF s.optAll), .row 4, .int .i64 f.lost, .tsl 1 (f.rep.map fAV), .row 6, .row 7, .int .i64 f.lacks], .fresh, .box false [.lit (.pointer none), .nils, .int .i64 0, .nils, .nils, .nils, .int .i64 0], .fresh, .row false 3 1 (f.pl.map jAV++[[.int .i64 pc]]), .fresh, .row false 3 1 (f.giv.map jAV), .row false 3 1 (f.left.map jAV), .fresh, .fresh, .fresh, .fresh, .fresh, .fresh]) (fun _=>True) (fun _=>0) () mI trivial ?_
 intro _ _
 (conv=>whnf);(repeat'((first|apply bT|apply bF|apply bN|((first|apply bD|apply bEq|apply bNe)<;>intro hh<;>try(exfalso;omega))|refine wJ ?_|refine nJ ?_)<;>conv=>whnf))
 all_goals
  have e:withF s f ⟨pc,[]⟩=⟨f.pl++[pc],f.lost,f.rep,f.giv,f.left,f.lacks⟩:=by simp[withF,wF]
  rw[e]
  unfold Fil.cells
  rw[List.map_append]
  rfl
theorem v63n(s:Ord)(hk:OkO s)(f:Fil)(hf:GoodF s f)(pc:Int)(r0:List Int)(rs:List (List Int))(ho:OptOk s ⟨pc,r0::rs⟩):FnA Tryz.prog 63 [.agg (f.cells s.sto), .agg [.int .i64 pc, .isl ((r0::rs).map fAV)]] (· = .agg ((withF s f ⟨pc,r0::rs⟩).cells s.sto)):=by
 have lP:(f.pl.map jAV).length=f.pl.length:=by simp
 have lR:(f.rep.map fAV).length=f.rep.length:=by simp
 have lO:((r0::rs).map fAV).length=(r0::rs).length:=by simp
 have hlg:=hf.best.lg
 have hll:=hf.best.ll
 have hl1:=hf.l1
 have hl3:=hf.l3
 have hsl:=sup_len hk
 have hml:=many_len s
 have e1:=q105 f.giv (by omega)
 have e2:=q105 f.left (by omega)
 have hm:(f.rep++r0::rs).map fAV=f.rep.map fAV++(r0::rs).map fAV:=List.map_append
 have h1:(r0::rs).length<=30:=ho.l1
 have h2:∀l∈r0::rs,l.length<=100:=ho.l2
 have hR:Rng s.many.length (r0::rs):=ho.r
 have hpl:(f.pl++[pc]).map jAV=f.pl.map jAV++[[.int .i64 pc]]:=by rw[List.map_append];rfl
 refine fnA 14 ok63 (by simp) ?_
 (conv=>whnf);(repeat'((first|apply bT|apply bF|apply bN|((first|apply bD|apply bEq|apply bNe)<;>intro hh<;>try(exfalso;omega))|refine wJ ?_|refine nJ ?_)<;>conv=>whnf))
 refine slI (es':=f.pl.map jAV) (by omega) (by omega) (by omega) (fun e he=>(j_one f.pl e he).1) (takej _ _ rfl) ?_
 (conv=>whnf);(repeat'((first|apply bT|apply bF|apply bN|((first|apply bD|apply bEq|apply bNe)<;>intro hh<;>try(exfalso;omega))|refine wJ ?_|refine nJ ?_)<;>conv=>whnf))
 refine apI (by simp[AV.one]) (by simp;omega) ?_
 (conv=>whnf);(repeat'((first|apply bT|apply bF|apply bN|((first|apply bD|apply bEq|apply bNe)<;>intro hh<;>try(exfalso;omega))|refine wJ ?_|refine nJ ?_)<;>conv=>whnf))
 refine slI (es':=f.rep.map fAV) (by omega) (by omega) (by omega) (fun e he=>(f_one f.rep e he).1) (takej _ _ rfl) ?_
 (conv=>whnf);(repeat'((first|apply bT|apply bF|apply bN|((first|apply bD|apply bEq|apply bNe)<;>intro hh<;>try(exfalso;omega))|refine wJ ?_|refine nJ ?_)<;>conv=>whnf))
 refine apI (f_one (r0::rs)) (by simp only[List.length_map];omega) ?_
 (conv=>whnf);(repeat'((first|apply bT|apply bF|apply bN|((first|apply bD|apply bEq|apply bNe)<;>intro hh<;>try(exfalso;omega))|refine e1.oq rfl rfl rfl ?_|refine e2.oq rfl rfl rfl ?_|refine wJ ?_|refine nJ ?_)<;>conv=>whnf))
 refine loop_i (α :=Nat) (fun q=>[(44, .int .i64 q),(43, .int .i64 ↑((r0::rs).map fAV).length),(6, .int .i64 ↑(f.rep.map fAV).length),(4, .own 2 0),(2, .own 0 0)]) (fun q=>[.box false [.ipt (s.stC s.mapF s.optAll), .row 4, .int .i64 f.lost, .row 5, .row 11, .row 7, .int .i64 (wF s f ⟨pc,r0::rs⟩ q).c], .fresh, .box false [.lit (.pointer none), .nils, .int .i64 0, .nils, .nils, .nils, .int .i64 0], .fresh, .row false 3 1 ((f.pl++[pc]).map jAV), .row false 27 1 ((f.rep++r0::rs).map fAV), .fresh, .row false 3 1 ((wF s f ⟨pc,r0::rs⟩ q).left.map jAV), .fresh, .fresh, .fresh, .row false 3 1 ((wF s f ⟨pc,r0::rs⟩ q).g.map jAV), .fresh, .fresh])
  (fun q=>q<=(r0::rs).length) (fun q=>(r0::rs).length-q) 0 (by dsimp only;rw[hm,hpl];exact(mR 11 6)) (by omega) ?_
 intro k hk0
 have hW1:=wF_ok hk hf ho k hk0
 have hWs:wF s f ⟨pc,r0::rs⟩ (k+1)=(let q:=wF s f ⟨pc,r0::rs⟩ k
  let r:=gv (f.rep++(r0::rs).take (k+1)) s.many.length q.left (q.g++[-1]) (List.replicate s.many.length false) q.g.length
  ⟨r.left,r.g,if r.b=true then q.c else q.c+1⟩):=rfl
 dsimp only at hWs
 have hpreF:∀hkl:k<(r0::rs).length,Pre (f.rep++(r0::rs).take (k+1)) (wF s f ⟨pc,r0::rs⟩ k).left ((wF s f ⟨pc,r0::rs⟩ k).g++[-1]) (List.replicate s.many.length false) (wF s f ⟨pc,r0::rs⟩ k).g.length:=fun hkl=>(wF_pre hk hf ho hkl hW1.1).1
 obtain⟨hB,hlk⟩:Best (f.rep++(r0::rs).take k) s.many (wF s f ⟨pc,r0::rs⟩ k).left (wF s f ⟨pc,r0::rs⟩ k).g/\(wF s f ⟨pc,r0::rs⟩ k).c=lackN (wF s f ⟨pc,r0::rs⟩ k).g:=hW1
 have hfin:k=(r0::rs).length->withF s f ⟨pc,r0::rs⟩=⟨f.pl++[pc],f.lost,f.rep++r0::rs,(wF s f ⟨pc,r0::rs⟩ k).g,(wF s f ⟨pc,r0::rs⟩ k).left,(wF s f ⟨pc,r0::rs⟩ k).c⟩:=fun e=>by subst e;rfl
 generalize wF s f ⟨pc,r0::rs⟩ k=q at hWs hpreF hB hlk hfin⊢
 obtain⟨left,g,lc⟩:=q
 dsimp only at hWs hpreF hB hlk hfin⊢
 conv=>whnf
 refine bD (fun h3=>?_) (fun h3=>?_)
 ·have hkl:k<(r0::rs).length:=by omega
  have htk:(r0::rs).take (k+1)=(r0::rs).take k++[(r0::rs)[k]]:=List.take_succ_eq_append_getElem hkl
  have hdr:f.rep++r0::rs=(f.rep++(r0::rs).take k++[(r0::rs)[k]])++(r0::rs).drop (k+1):=by
   rw[List.append_assoc f.rep,<- htk,List.append_assoc,List.take_append_drop]
  have hfm:(r0::rs)[k]∈r0::rs:=List.getElem_mem hkl
  have hRf:Rng s.many.length (f.rep++(r0::rs).take k++[(r0::rs)[k]]):=by
   refine Rng.app.2 ⟨Rng.app.2 ⟨hf.rng,fun l hl=>hR l (List.mem_of_mem_take hl)⟩,fun l hl=>?_⟩
   rw[List.mem_singleton.1 hl];exact hR _ hfm
  have hlen:(f.rep++(r0::rs).take k).length=f.rep.length+k:=by rw[List.length_append,List.length_take];omega
  have hgl:g.length=f.rep.length+k:=hB.lg.trans hlen
  have hdl:((r0::rs).drop (k+1)).length<=1000:=by rw[List.length_drop];omega
  have hl2:∀l∈f.rep++(r0::rs).take k++[(r0::rs)[k]],l.length<=100:=fun l hl=>by
   rcases List.mem_append.1 hl with hl|hl
   ·rcases List.mem_append.1 hl with hl|hl
    ·exact hf.l2 l hl
    ·exact h2 l (List.mem_of_mem_take hl)
   ·rw[List.mem_singleton.1 hl];exact h2 _ hfm
  have hpre:=hpreF hkl
  have hG:=gv_ok s.many.length _ _ _ _ (Nat.le_of_eq (untr_rep _)) hpre
  have hgv:=v106 s (f.pl++[pc]) f.lost lc (f.rep++(r0::rs).take (k+1)) ((r0::rs).drop (k+1)) hdl s.many.length left (g++[-1]) (List.replicate s.many.length false) g.length (Nat.le_of_eq (untr_rep _)) hpre
  unfold resG fIns at hgv
  rw[show f.rep++(r0::rs).take (k+1)++(r0::rs).drop (k+1)=f.rep++r0::rs by rw[List.append_assoc,List.take_append_drop]]at hgv
  clear hpreF hpre
  generalize gv (f.rep++(r0::rs).take (k+1)) s.many.length left (g++[-1]) (List.replicate s.many.length false) g.length=rr at hWs hG hgv
  obtain⟨b,left',g',t3⟩:=rr
  dsimp only at hWs hgv
  have hll2:left.length=s.many.length:=hB.ll
  have lL:(left.map jAV).length=left.length:=by simp
  have lG:(g.map jAV).length=g.length:=by simp
  have hrep:List.replicate (↑(left.map jAV).length:Int).toNat [AV.bool false]=(List.replicate s.many.length false).map bAV:=by simp[bAV,hll2]
  have hg1:(g++[-1]).map jAV=g.map jAV++[[.int .i64 (-1)]]:=by rw[List.map_append];rfl
  have hJ:((g.length:Nat):Int) = ↑(f.rep.map fAV).length+(k:Int):=by rw[hgl,lR];simp
  have hlc0:0<=lc/\lc<=1000:=by
   have:lackN g<=g.length:=List.count_le_length
   omega
  rw[hg1,<- hrep,hJ]at hgv
  (conv=>whnf);(repeat'((first|apply bT|apply bF|apply bN|((first|apply bD|apply bEq|apply bNe)<;>intro hh<;>try(exfalso;omega))|refine wJ ?_|refine nJ ?_)<;>conv=>whnf))
  refine apI (by simp[AV.one]) (by simp;omega) ?_
  (conv=>whnf);(repeat'((first|apply bT|apply bF|apply bN|((first|apply bD|apply bEq|apply bNe)<;>intro hh<;>try(exfalso;omega))|refine mkI (by omega) (by omega) (by omega) ?_|refine wJ ?_|refine nJ ?_)<;>conv=>whnf))
  refine hgv.callwq [0,9,7,10,4,5] rfl rfl ⟨rfl,rfl,rfl,rfl,rfl,rfl,trivial⟩ rfl rfl rfl rfl (fun r outs hr=>?_)
  obtain⟨hr1,ho'⟩:=hr
  subst hr1;subst ho'
  refine⟨⟨rfl,rfl,rfl,rfl⟩,?_⟩
  cases b with
  |false=>
   obtain⟨q1,q2,hF⟩:=hG.no rfl
   dsimp only at q1 q2
   subst q1;subst q2
   simp only[Bool.false_eq_true,if_false]at hWs
   (conv=>whnf);(repeat'((first|apply bT|apply bF|apply bN|((first|apply bD|apply bEq|apply bNe)<;>intro hh<;>try(exfalso;omega))|refine wJ ?_|refine nJ ?_)<;>conv=>whnf))
   refine⟨k+1,?_,by omega,by omega⟩
   rw[hWs]
   exact(mR 11 9)
  |true=>
   simp only[if_true]at hWs
   (conv=>whnf);(repeat'((first|apply bT|apply bF|apply bN|((first|apply bD|apply bEq|apply bNe)<;>intro hh<;>try(exfalso;omega))|refine wJ ?_|refine nJ ?_)<;>conv=>whnf))
   refine⟨k+1,?_,by omega,by omega⟩
   rw[hWs]
   exact(mR 11 9)
 ·rw[hfin (by omega)]
  (conv=>whnf);(repeat'((first|apply bT|apply bF|apply bN|((first|apply bD|apply bEq|apply bNe)<;>intro hh<;>try(exfalso;omega))|refine wJ ?_|refine nJ ?_)<;>conv=>whnf))
  all_goals rfl
theorem v63(s:Ord)(hk:OkO s)(f:Fil)(hf:GoodF s f)(o:Opt)(ho:OptOk s o):FnA Tryz.prog 63 [.agg (f.cells s.sto), .agg o.av] (· = .agg ((withF s f o).cells s.sto)):=by
 obtain⟨pc,rep⟩:=o
 cases rep with
 |nil=>exact v63e s hk f hf pc
 |cons r0 rs=>exact v63n s hk f hf pc r0 rs ho
theorem opt_some{s:Ord}{i j:Int}{o:Opt}(h:s.opt i j=some o):s.optB i j=true/\o=⟨j,s.reps i j⟩:=by
 unfold Ord.opt at h
 split at h
 ·rename_i hb;exact⟨hb,(Option.some.inj h).symm⟩
 ·cases h
theorem opts_mem{s:Ord}{i:Int}{o:Opt}:o∈s.opts i<->∃j:Nat,j<s.ps.length/\s.opt i (j:Nat)=some o:=by
 unfold Ord.opts Ord.optK
 simp only[List.mem_filterMap,List.mem_range]
theorem opts_ok{s:Ord}(hk:OkO s){i:Int}{o:Opt}(h:o∈s.opts i):OptOk s o/\o.rep.length<=4:=by
 obtain⟨j,hj,ho⟩:=opts_mem.1 h
 obtain⟨_,rfl⟩:=opt_some ho
 have hp:s.isP (j:Nat)=true:=isP_iff.2 ⟨by omega,by omega⟩
 have hb:=(br_le hk (piece_mem hp)).1
 have hl:(s.reps i (j:Nat)).length=(s.piece (j:Nat)).br.length:=by unfold Ord.reps;simp
 have hml:=many_len s
 have hsl:=sup_len hk
 refine⟨⟨fun l hl x hx=>?_,by dsimp only;omega,fun l hl=>?_⟩,by dsimp only;omega⟩
 ·obtain⟨k,_,rfl⟩:=List.mem_map.1 hl
  have:=(inT_mem.1 hx).1
  omega
 ·obtain⟨k,_,rfl⟩:=List.mem_map.1 hl
  have:=inK_len s (s.fitL ((s.piece (j:Nat)).mkr,k)) (s.by_ i (j:Nat)) s.sup.length
  exact Nat.le_trans this (by omega)
def emF(s:Ord):Fil:=⟨[],0,[],[],s.many,0⟩
theorem em_ok{s:Ord}(hk:OkO s):GoodF s (emF s):=
 ⟨⟨rfl,rfl,many_nn hk,(fun j hj=>by cases hj),(fun x hx=>by simp[emF]),(fun j hj=>by cases hj)⟩,rfl,(fun l hl=>by cases hl),by simp[emF],(fun l hl=>by cases hl),by simp[emF]⟩
theorem v62(s:Ord)(hk:OkO s):FnA Tryz.prog 62 [.ipt (s.stC s.mapF s.optAll)] (· = .agg ((emF s).cells s.sto)):=by
 have hsl:=sup_len hk
 have hml:=many_len s
 have lS:(s.sup.map Dlv.av).length=s.sup.length:=by simp
 refine fnA 6 ok62 (by simp) ?_
 (conv=>whnf);(repeat'((first|apply bT|apply bF|apply bN|((first|apply bD|apply bEq|apply bNe)<;>intro hh<;>try(exfalso;omega))|refine wJ ?_|refine nJ ?_)<;>conv=>whnf))
 refine loop_i (α :=Nat) (fun k=>[(13, .int .i64 k),(12, .int .i64 ↑(s.sup.map Dlv.av).length),(11, .isl (s.sup.map Dlv.av)),(3, .own 1 0),(2, .own 0 0)]) (fun k=>[.box false [.lit (.pointer none), .nils, .int .i64 0, .nils, .nils, .nils, .int .i64 0], .box false [.ipt (s.stC s.mapF s.optAll), .nils, .int .i64 0, .nils, .nils, .row 5, .int .i64 0], .fresh, .fresh, .fresh, .row false 3 1 ((s.many.take k).map jAV)]) (fun k=>k<=s.sup.length) (fun k=>s.sup.length-k) 0 (mN 5) (by omega) ?_
 intro k hk0
 conv=>whnf
 refine bD (fun h3=>?_) (fun h3=>?_)
 ·have hkl:k<s.sup.length:=by omega
  have g1:=suget hkl
  have hm:(s.many.take (k+1)).map jAV=(s.many.take k).map jAV++[[.int .i64 (s.su k).many]]:=by
   have e:s.many[k]'(by omega)=(s.su k).many:=by
    unfold Ord.many Ord.su;simp[List.getD_eq_getElem?_getD,hkl]
   rw[List.take_succ_eq_append_getElem (by omega),List.map_append,e];rfl
  have lk:((s.many.take k).map jAV).length<=100:=by rw[List.length_map,List.length_take];omega
  (conv=>whnf);(repeat'((first|apply bT|apply bF|apply bN|((first|apply bD|apply bEq|apply bNe)<;>intro hh<;>try(exfalso;omega))|refine iaJ g1 ?_|refine wJ ?_|refine nJ ?_)<;>conv=>whnf))
  refine apJ ?_
  (conv=>whnf);(repeat'((first|apply bT|apply bF|apply bN|((first|apply bD|apply bEq|apply bNe)<;>intro hh<;>try(exfalso;omega))|refine wJ ?_|refine nJ ?_)<;>conv=>whnf))
  refine⟨k+1,?_,by omega,by omega⟩
  simp only[hm]
  exact(mR 5 4)
 ·have:k=s.many.length:=by omega
  subst this
  rw[List.take_length]
  (conv=>whnf);(repeat'((first|apply bT|apply bF|apply bN|((first|apply bD|apply bEq|apply bNe)<;>intro hh<;>try(exfalso;omega))|refine wJ ?_|refine nJ ?_)<;>conv=>whnf))
  all_goals rfl
def woF(s:Ord)(f:Fil):Fil:={ f with pl:=f.pl++[-1],lost:=f.lost+(s.wish (f.pl.length:Nat)).pr }
theorem wo_ok{s:Ord}{f:Fil}(hf:GoodF s f)(h:f.pl.length<60):GoodF s (woF s f):=⟨hf.best,hf.lk,hf.rng,hf.l1,hf.l2,by simp[woF];omega⟩
theorem wish_pr{s:Ord}(hk:OkO s){i:Int}(hi:s.isW i=true):0<=(s.wish i).pr/\(s.wish i).pr<=100000:=by
 have h:=hk.w2 _ (wish_mem hi)
 unfold okWi at h
 simp only[Bool.and_eq_true,decide_eq_true_eq]at h
 exact h.2
theorem v97(s:Ord)(hk:OkO s)(f:Fil)(hf:GoodF s f)(hp:f.pl.length<s.ws.length)(hl:0<=f.lost/\f.lost<=1000000000):FnA Tryz.prog 97 [.agg (f.cells s.sto)] (· = .agg ((woF s f).cells s.sto)):=by
 have lP:(f.pl.map jAV).length=f.pl.length:=by simp
 have lW:(s.ws.map Wish.av).length=s.ws.length:=by simp
 have hl3:=hf.l3
 have hi:s.isW (f.pl.length:Nat)=true:=isW_iff.2 ⟨by omega,by omega⟩
 have hpr:=wish_pr hk hi
 have g1:(s.ws.map Wish.av).getD (↑(f.pl.map jAV).length:Int).toNat []=(s.wish (f.pl.length:Nat)).av:=by rw[lP];exact wget hi
 refine fnA 4 ok97 (by simp) ?_
 (conv=>whnf);(repeat'((first|apply bT|apply bF|apply bN|((first|apply bD|apply bEq|apply bNe)<;>intro hh<;>try(exfalso;omega))|refine wJ ?_|refine nJ ?_)<;>conv=>whnf))
 refine slI (es':=f.pl.map jAV) (by omega) (by omega) (by omega) (fun e he=>(j_one f.pl e he).1) (takej _ _ rfl) ?_
 (conv=>whnf);(repeat'((first|apply bT|apply bF|apply bN|((first|apply bD|apply bEq|apply bNe)<;>intro hh<;>try(exfalso;omega))|refine wJ ?_|refine nJ ?_)<;>conv=>whnf))
 refine apI (by simp[AV.one]) (by simp;omega) ?_
 (conv=>whnf);(repeat'((first|apply bT|apply bF|apply bN|((first|apply bD|apply bEq|apply bNe)<;>intro hh<;>try(exfalso;omega))|refine iaJ g1 ?_|refine wJ ?_|refine nJ ?_)<;>conv=>whnf))
 all_goals
  unfold woF Fil.cells
  rw[List.map_append]
  rfl
def Ord.sumP(s:Ord):Nat->Int
 |0=>0
 |k+1=>s.sumP k+(s.wish (k:Nat)).pr
theorem sumP_bd{s:Ord}(hk:OkO s):∀k,k<=s.ws.length->0<=s.sumP k/\s.sumP k<=100000*k
 |0,_=>by simp[Ord.sumP]
 |k+1,h=>by
  have:=sumP_bd hk k (by omega)
  have:=wish_pr hk (i:=(k:Nat)) (isW_iff.2 ⟨by omega,by omega⟩)
  simp only[Ord.sumP];omega
theorem v56(s:Ord)(hk:OkO s)(f:Fil)(hp:f.pl.length<=s.ws.length)(hl:0<=f.lost/\f.lost<=1000000000):FnA Tryz.prog 56 [.agg (f.cells s.sto)] (· = .int .i64 (s.sumP f.pl.length-f.lost)):=by
 have lP:(f.pl.map jAV).length=f.pl.length:=by simp
 have lW:(s.ws.map Wish.av).length=s.ws.length:=by simp
 have hw1:=hk.w1
 have lT:((s.ws.take f.pl.length).map Wish.av).length=f.pl.length:=by rw[List.length_map,List.length_take];omega
 have hone:∀e∈s.ws.map Wish.av,e.length=6:=fun e he=>by obtain⟨x,_,rfl⟩:=List.mem_map.1 he;rfl
 refine fnA 2 ok56 (by simp) ?_
 (conv=>whnf);(repeat'((first|apply bT|apply bF|apply bN|((first|apply bD|apply bEq|apply bNe)<;>intro hh<;>try(exfalso;omega))|refine wJ ?_|refine nJ ?_)<;>conv=>whnf))
 refine slI (es':=(s.ws.take f.pl.length).map Wish.av) (by omega) (by omega) (by omega) hone (by rw[lP];simp) ?_
 (conv=>whnf);(repeat'((first|apply bT|apply bF|apply bN|((first|apply bD|apply bEq|apply bNe)<;>intro hh<;>try(exfalso;omega))|refine wJ ?_|refine nJ ?_)<;>conv=>whnf))
 refine loop_i (α :=Nat) (fun k=>[(20, .int .i64 k),(19, .int .i64 ↑((s.ws.take f.pl.length).map Wish.av).length),(18, .isl ((s.ws.take f.pl.length).map Wish.av)),(3, .int .i64 (s.sumP k-f.lost))]) (fun k=>[.fresh, .fresh]) (fun k=>k<=f.pl.length) (fun k=>f.pl.length-k) 0 (by rw[show s.sumP 0=0 from rfl];exact mI) (by omega) ?_
 intro k hk0
 conv=>whnf
 refine bD (fun h3=>?_) (fun h3=>?_)
 ·have hkl:k<f.pl.length:=by omega
  have hi:s.isW (k:Nat)=true:=isW_iff.2 ⟨by omega,by omega⟩
  have hpr:=wish_pr hk hi
  have hsb:=sumP_bd hk k (by omega)
  have g1:((s.ws.take f.pl.length).map Wish.av).getD k []=(s.wish (k:Nat)).av:=by
   rw[getM Wish.av _ k (by rw[List.length_take];omega)]
   congr 1
   unfold Ord.wish
   simp[List.getD_eq_getElem?_getD,show k<s.ws.length by omega]
  have hs:s.sumP (k+1)-f.lost=s.sumP k-f.lost+(s.wish (k:Nat)).pr:=by simp only[Ord.sumP];omega
  (conv=>whnf);(repeat'((first|apply bT|apply bF|apply bN|((first|apply bD|apply bEq|apply bNe)<;>intro hh<;>try(exfalso;omega))|refine iaJ g1 ?_|refine wJ ?_|refine nJ ?_)<;>conv=>whnf))
  refine⟨k+1,?_,by omega,by omega⟩
  simp only[hs]
  exact mI
 ·have:k=f.pl.length:=by omega
  subst this
  (conv=>whnf);(repeat'((first|apply bT|apply bF|apply bN|((first|apply bD|apply bEq|apply bNe)<;>intro hh<;>try(exfalso;omega))|refine wJ ?_|refine nJ ?_)<;>conv=>whnf))
  all_goals rfl
def nextO(s:Ord)(f:Fil):List Opt:=(s.opts (f.pl.length:Nat)).filter fun o => !decide (o.pc∈f.pl)
def stepL(s:Ord)(f:Fil):List Fil:=(nextO s f).map (withF s f)
theorem i107(s:Ord)(hk:OkO s)(f:Fil)(hf:GoodF s f)(hp:f.pl.length<s.ws.length):ItM Tryz.prog 107 [.agg (f.cells s.sto)] ((stepL s f).map fun x=>[.agg (x.cells s.sto)]):=by
 have lP:(f.pl.map jAV).length=f.pl.length:=by simp
 have hl3:=hf.l3
 have lO:(s.optAll.map optsAV).length=s.ws.length:=by rw[List.length_map];exact optA_len s _
 have hw1:=hk.w1
 have g0:(s.optAll.map optsAV).getD (↑(f.pl.map jAV).length:Int).toNat []=[.isl ((s.opts (f.pl.length:Nat)).map Opt.av)]:=by
  rw[lP]
  have hl:(f.pl.length:Int).toNat<s.optAll.length:=by have:=optA_len s s.ws.length;unfold Ord.optAll;omega
  rw[getM optsAV s.optAll _ hl]
  have:s.optAll[(f.pl.length:Int).toNat]'hl=s.opts (f.pl.length:Nat):=by simp[Ord.optAll,Ord.optA]
  rw[this];rfl
 have hlo:(s.opts (f.pl.length:Nat)).length<=8:=Nat.le_trans (optK_len s _ _) hk.p1
 have hall:=fun o (h:o∈s.opts (f.pl.length:Nat))=>(opts_ok hk h).1
 unfold stepL nextO
 generalize s.opts (f.pl.length:Nat)=L at g0 hlo hall
 have lL:(L.map Opt.av).length=L.length:=by simp
 refine itM 6 ok107 (by simp) ?_
 (conv=>whnf);(repeat'((first|apply bT|apply bF|apply bN|((first|apply bD|apply bEq|apply bNe)<;>intro hh<;>try(exfalso;omega))|refine iaJ g0 ?_|refine wJ ?_|refine nJ ?_)<;>conv=>whnf))
 refine loop_y (α :=Nat) (fun m=>[(17, .int .i64 m),(16, .int .i64 ↑(L.map Opt.av).length),(15, .isl (L.map Opt.av)),(2, .own 0 0),(1, .yld)]) (fun m=>[.box false (f.cells s.sto), .fresh, .fresh, .fresh, .fresh, .fresh]) (fun m=>⟨[],((L.take m).filter fun o => !decide (o.pc∈f.pl)).length,false⟩) (fun m=>m<=L.length) (fun m=>L.length-m) 0 mI (by omega) ?_
 intro m hm0
 conv=>whnf
 refine bD (fun h3=>?_) (fun h3=>?_)
 ·have hm:m<L.length:=by omega
  have g1:=oget Opt.av L hm
  have hom:=List.getElem_mem hm
  have htk:L.take (m+1)=L.take m++[L[m]]:=List.take_succ_eq_append_getElem hm
  have hd:L.drop m=L[m]::L.drop (m+1):=drop_cons hm
  have hsplit:L=L.take m++L[m]::L.drop (m+1):=by rw[<- hd,List.take_append_drop]
  generalize L[m]=o at g1 hom htk hsplit
  have e1:=p89 f.pl o.pc (by omega)
  by_cases hc:o.pc∈f.pl
  ·rw[decide_eq_true hc]at e1
   have hlen:((L.take (m+1)).filter fun o => !decide (o.pc∈f.pl)).length=((L.take m).filter fun o => !decide (o.pc∈f.pl)).length:=by
    rw[htk,List.filter_append];simp[hc]
   (conv=>whnf);(repeat'((first|apply bT|apply bF|apply bN|((first|apply bD|apply bEq|apply bNe)<;>intro hh<;>try(exfalso;omega))|refine iaJ g1 ?_|refine e1.cq rfl rfl ?_|refine wJ ?_|refine nJ ?_)<;>conv=>whnf))
   refine⟨m+1,?_,by omega,by omega⟩
   simp only[hlen]
   exact mI
  ·rw[decide_eq_false hc]at e1
   have hlen:((L.take (m+1)).filter fun o => !decide (o.pc∈f.pl)).length=((L.take m).filter fun o => !decide (o.pc∈f.pl)).length+1:=by
    rw[htk,List.filter_append];simp[hc]
   have hget:(((L.filter fun o => !decide (o.pc∈f.pl)).map (withF s f)).map fun x=>[AV.agg (x.cells s.sto)])[((L.take m).filter fun o => !decide (o.pc∈f.pl)).length]?=some [.agg ((withF s f o).cells s.sto)]:=by
    have:L.filter (fun o => !decide (o.pc∈f.pl))=(L.take m).filter (fun o => !decide (o.pc∈f.pl))++o::(L.drop (m+1)).filter fun o => !decide (o.pc∈f.pl):=by
     conv=>lhs;rw[hsplit]
     rw[List.filter_append,List.filter_cons_of_pos (by simp[hc])]
    rw[this,List.getElem?_map,List.getElem?_map,List.getElem?_append_right (Nat.le_refl _)]
    simp
   have e2:=v63 s hk f hf o (hall o hom)
   (conv=>whnf);(repeat'((first|apply bT|apply bF|apply bN|((first|apply bD|apply bEq|apply bNe)<;>intro hh<;>try(exfalso;omega))|refine iaJ g1 ?_|refine e1.cq rfl rfl ?_|refine wJ ?_|refine nJ ?_)<;>conv=>whnf))
   refine e2.callzq rfl rfl (fun _ h=>?_);subst h
   (conv=>whnf);(repeat'((first|apply bT|apply bF|apply bN|((first|apply bD|apply bEq|apply bNe)<;>intro hh<;>try(exfalso;omega))|refine wJ ?_|refine nJ ?_)<;>conv=>whnf))
   refine yZ rfl rfl rfl hget ?_ ?_
   ·(conv=>whnf);(repeat'((first|apply bT|apply bF|apply bN|((first|apply bD|apply bEq|apply bNe)<;>intro hh<;>try(exfalso;omega))|refine wJ ?_|refine nJ ?_)<;>conv=>whnf))
    refine⟨m+1,?_,by omega,by omega⟩
    simp only[hlen]
    exact mI
   ·(conv=>whnf);(repeat'((first|apply bT|apply bF|apply bN|((first|apply bD|apply bEq|apply bNe)<;>intro hh<;>try(exfalso;omega))|refine wJ ?_|refine nJ ?_)<;>conv=>whnf))
    all_goals exact .inl rfl
 ·have:m=L.length:=by omega
  subst this
  conv=>whnf
  right
  simp
structure GoodP(s:Ord)(f:Fil):Prop where
 g:GoodF s f
 p:f.pl.length<=s.ws.length
 l:0<=f.lost/\f.lost<=100000*f.pl.length
 r:f.rep.length<=4*f.pl.length
theorem emP{s:Ord}(hk:OkO s):GoodP s (emF s):=⟨em_ok hk,by simp[emF],by simp[emF],by simp[emF]⟩
theorem woP{s:Ord}(hk:OkO s){f:Fil}(h:GoodP s f)(hp:f.pl.length<s.ws.length):GoodP s (woF s f):=by
 have hw1:=hk.w1
 have hpr:=wish_pr hk (i:=(f.pl.length:Nat)) (isW_iff.2 ⟨by omega,by omega⟩)
 have h1:=h.l
 have h2:=h.r
 refine⟨wo_ok h.g (by omega),?_,?_,?_⟩
 ·simp only[woF,List.length_append,List.length_singleton];omega
 ·simp only[woF,List.length_append,List.length_singleton];omega
 ·simp only[woF,List.length_append,List.length_singleton];omega
theorem withP{s:Ord}(hk:OkO s){f:Fil}(h:GoodP s f)(hp:f.pl.length<s.ws.length){o:Opt}(ho:o∈s.opts (f.pl.length:Nat)):GoodP s (withF s f o):=by
 have hw1:=hk.w1
 obtain⟨h3,h4⟩:=opts_ok hk ho
 have h1:=h.l
 have h2:=h.r
 refine⟨withF_ok hk h.g h3 (by omega) (by omega),?_,?_,?_⟩
 ·simp only[withF,List.length_append,List.length_singleton];omega
 ·simp only[withF,List.length_append,List.length_singleton];omega
 ·simp only[withF,List.length_append,List.length_singleton];omega
theorem step_mem{s:Ord}{f x:Fil}(h:x∈stepL s f):∃o,o∈s.opts (f.pl.length:Nat)/\o.pc∉f.pl/\x=withF s f o:=by
 unfold stepL nextO at h
 obtain⟨o,ho,rfl⟩:=List.mem_map.1 h
 obtain⟨h1,h2⟩:=List.mem_filter.1 ho
 exact⟨o,h1,by simpa using h2,rfl⟩
def betF(s:Ord):Nat->Fil->Fil->Fil
 |0,f,b=>if b.lost<=f.lost then b else f
 |n+1,f,b=>if b.lost<=f.lost then b else betF s n (woF s f) ((stepL s f).foldl (fun b x=>if x.lacks=0 then betF s n x b else b) b)
theorem v98(s:Ord)(hk:OkO s):∀(n:Nat) (f b:Fil),f.pl.length+n=s.ws.length->GoodP s f->FnA Tryz.prog 98 [.agg (f.cells s.sto), .agg (b.cells s.sto)] (· = .agg ((betF s n f b).cells s.sto)):=by
 intro n
 induction n with
 |zero=>
  intro f b hn h
  have lP:(f.pl.map jAV).length=f.pl.length:=by simp
  have lW:(s.ws.map Wish.av).length=s.ws.length:=by simp
  refine fnA 16 ok98 (by simp) ?_
  unfold betF
  by_cases hc:b.lost<=f.lost
  ·rw[if_pos hc]
   (conv=>whnf);(repeat'((first|apply bT|apply bF|apply bN|((first|apply bD|apply bEq|apply bNe)<;>intro hh<;>try(exfalso;omega))|refine wJ ?_|refine nJ ?_)<;>conv=>whnf))
   all_goals rfl
  ·rw[if_neg hc]
   (conv=>whnf);(repeat'((first|apply bT|apply bF|apply bN|((first|apply bD|apply bEq|apply bNe)<;>intro hh<;>try(exfalso;omega))|refine wJ ?_|refine nJ ?_)<;>conv=>whnf))
   all_goals rfl
 |succ n ih=>
  intro f b hn h
  have lP:(f.pl.map jAV).length=f.pl.length:=by simp
  have lW:(s.ws.map Wish.av).length=s.ws.length:=by simp
  have hw1:=hk.w1
  have hl:=h.l
  refine fnA 16 ok98 (by simp) ?_
  unfold betF
  by_cases hc:b.lost<=f.lost
  ·rw[if_pos hc]
   (conv=>whnf);(repeat'((first|apply bT|apply bF|apply bN|((first|apply bD|apply bEq|apply bNe)<;>intro hh<;>try(exfalso;omega))|refine wJ ?_|refine nJ ?_)<;>conv=>whnf))
   all_goals rfl
  rw[if_neg hc]
  (conv=>whnf);(repeat'((first|apply bT|apply bF|apply bN|((first|apply bD|apply bEq|apply bNe)<;>intro hh<;>try(exfalso;omega))|refine wJ ?_|refine nJ ?_)<;>conv=>whnf))
  refine rng_iM (α :=Nat × Fil) ((stepL s f).map fun x:Fil=>[AV.agg (x.cells s.sto)]) [0,1,2] [(4, .own 2 0),(3, .own 1 0),(2, .own 0 0)] (fun q=>[.box false (f.cells s.sto), .box false (q.2.cells s.sto), .box false [.lit (.pointer none), .nils, .int .i64 0, .nils, .nils, .nils, .int .i64 0], .fresh, .fresh, .fresh, .fresh, .fresh, .fresh, .fresh, .fresh, .fresh, .fresh, .fresh, .fresh, .fresh])
   (fun k q=>q.1=k/\q.2=((stepL s f).take k).foldl (fun b x=>if x.lacks=0 then betF s n x b else b) b) (0,b) rfl bd107 (i107 s hk f h.g (by omega)) rfl ?_ rfl ⟨rfl,rfl⟩ (fun v hv=>by obtain⟨q,_,rfl⟩:=List.mem_map.1 hv;rfl) ?_ ?_
  ·exact mI
  ·rintro k v ⟨a,c⟩ hv ⟨rfl,hc2⟩
   dsimp only at hv hc2⊢
   obtain⟨x,hx,rfl⟩:∃x,(stepL s f)[a]?=some x/\[AV.agg (x.cells s.sto)]=v:=by simpa using hv
   obtain⟨hk1,hxe⟩:=List.getElem?_eq_some_iff.1 hx
   have hxm:x∈stepL s f:=List.mem_of_getElem? hx
   obtain⟨o,ho1,_,hxo⟩:=step_mem hxm
   have hxP:GoodP s x:=hxo ▸ withP hk h (by omega) ho1
   have hxl:x.pl.length+n=s.ws.length:=by rw[hxo];simp only[withF,List.length_append,List.length_singleton];omega
   have e1:=ih x c hxl hxP
   have hsu:((stepL s f).take (a+1)).foldl (fun b x=>if x.lacks=0 then betF s n x b else b) b=if x.lacks=0 then betF s n x c else c:=by
    rw[List.take_succ_eq_append_getElem hk1,List.foldl_append,<- hc2,hxe];rfl
   clear hx hxe hv
   by_cases h0:x.lacks=0
   ·rw[if_pos h0]at hsu
    (conv=>whnf);(repeat'((first|apply bT|apply bF|apply bN|((first|apply bD|apply bEq|apply bNe)<;>intro hh<;>try(exfalso;omega))|refine wJ ?_|refine nJ ?_)<;>conv=>whnf))
    refine e1.callzq rfl rfl (fun _ h=>?_);subst h
    (conv=>whnf);(repeat'((first|apply bT|apply bF|apply bN|((first|apply bD|apply bEq|apply bNe)<;>intro hh<;>try(exfalso;omega))|refine wJ ?_|refine nJ ?_)<;>conv=>whnf))
    exact⟨(a+1,betF s n x c),mI,rfl,hsu.symm⟩
   ·rw[if_neg h0]at hsu
    (conv=>whnf);(repeat'((first|apply bT|apply bF|apply bN|((first|apply bD|apply bEq|apply bNe)<;>intro hh<;>try(exfalso;omega))|refine wJ ?_|refine nJ ?_)<;>conv=>whnf))
    exact⟨(a+1,c),mI,rfl,hsu.symm⟩
  ·rintro⟨a,c⟩ ⟨ha,hc2⟩
   dsimp only at hc2⊢
   have hT:((stepL s f).map fun x=>[AV.agg (x.cells s.sto)]).length=(stepL s f).length:=by simp
   rw[hT,List.take_length]at hc2
   rw[<- hc2]
   have e1:=v97 s hk f h.g (by omega) (by omega)
   have e2:=ih (woF s f) c (by simp only[woF,List.length_append,List.length_singleton];omega) (woP hk h (by omega))
   (conv=>whnf);(repeat'((first|apply bT|apply bF|apply bN|((first|apply bD|apply bEq|apply bNe)<;>intro hh<;>try(exfalso;omega))|refine wJ ?_|refine nJ ?_)<;>conv=>whnf))
   refine e1.callzq rfl rfl (fun _ h=>?_);subst h
   (conv=>whnf);(repeat'((first|apply bT|apply bF|apply bN|((first|apply bD|apply bEq|apply bNe)<;>intro hh<;>try(exfalso;omega))|refine wJ ?_|refine nJ ?_)<;>conv=>whnf))
   refine e2.callzq rfl rfl (fun _ h=>?_);subst h
   (conv=>whnf);(repeat'((first|apply bT|apply bF|apply bN|((first|apply bD|apply bEq|apply bNe)<;>intro hh<;>try(exfalso;omega))|refine wJ ?_|refine nJ ?_)<;>conv=>whnf))
   all_goals rfl
def fewF(s:Ord):Nat->Fil->Int->Int
 |0,f,b=>if b<=f.lacks then b else f.lacks
 |n+1,f,b=>if b<=f.lacks then b else(stepL s f).foldl (fun b x=>fewF s n x b) b
theorem v65(s:Ord)(hk:OkO s):∀(n:Nat) (f:Fil) (b:Int),f.pl.length+n=s.ws.length->GoodP s f->FnA Tryz.prog 65 [.agg (f.cells s.sto), .int .i64 b] (· = .int .i64 (fewF s n f b)):=by
 intro n
 induction n with
 |zero=>
  intro f b hn h
  have lP:(f.pl.map jAV).length=f.pl.length:=by simp
  have lW:(s.ws.map Wish.av).length=s.ws.length:=by simp
  refine fnA 3 ok65 (by simp) ?_
  unfold fewF
  by_cases hc:b<=f.lacks
  ·rw[if_pos hc]
   (conv=>whnf);(repeat'((first|apply bT|apply bF|apply bN|((first|apply bD|apply bEq|apply bNe)<;>intro hh<;>try(exfalso;omega))|refine wJ ?_|refine nJ ?_)<;>conv=>whnf))
   all_goals rfl
  ·rw[if_neg hc]
   (conv=>whnf);(repeat'((first|apply bT|apply bF|apply bN|((first|apply bD|apply bEq|apply bNe)<;>intro hh<;>try(exfalso;omega))|refine wJ ?_|refine nJ ?_)<;>conv=>whnf))
   all_goals rfl
 |succ n ih=>
  intro f b hn h
  have lP:(f.pl.map jAV).length=f.pl.length:=by simp
  have lW:(s.ws.map Wish.av).length=s.ws.length:=by simp
  have hw1:=hk.w1
  refine fnA 3 ok65 (by simp) ?_
  unfold fewF
  by_cases hc:b<=f.lacks
  ·rw[if_pos hc]
   (conv=>whnf);(repeat'((first|apply bT|apply bF|apply bN|((first|apply bD|apply bEq|apply bNe)<;>intro hh<;>try(exfalso;omega))|refine wJ ?_|refine nJ ?_)<;>conv=>whnf))
   all_goals rfl
  rw[if_neg hc]
  (conv=>whnf);(repeat'((first|apply bT|apply bF|apply bN|((first|apply bD|apply bEq|apply bNe)<;>intro hh<;>try(exfalso;omega))|refine wJ ?_|refine nJ ?_)<;>conv=>whnf))
  refine rng_iM (α :=Nat × Int) ((stepL s f).map fun x:Fil=>[AV.agg (x.cells s.sto)]) [0,1] [(3, .own 1 0),(2, .own 0 0)] (fun q=>[.box false (f.cells s.sto), .box false [.int .i64 q.2], .fresh])
   (fun k q=>q.1=k/\q.2=((stepL s f).take k).foldl (fun b x=>fewF s n x b) b) (0,b) rfl bd107 (i107 s hk f h.g (by omega)) rfl ?_ rfl ⟨rfl,rfl⟩ (fun v hv=>by obtain⟨q,_,rfl⟩:=List.mem_map.1 hv;rfl) ?_ ?_
  ·exact mI
  ·rintro k v ⟨a,c⟩ hv ⟨rfl,hc2⟩
   dsimp only at hv hc2⊢
   obtain⟨x,hx,rfl⟩:∃x,(stepL s f)[a]?=some x/\[AV.agg (x.cells s.sto)]=v:=by simpa using hv
   obtain⟨hk1,hxe⟩:=List.getElem?_eq_some_iff.1 hx
   have hxm:x∈stepL s f:=List.mem_of_getElem? hx
   obtain⟨o,ho1,_,hxo⟩:=step_mem hxm
   have hxP:GoodP s x:=hxo ▸ withP hk h (by omega) ho1
   have hxl:x.pl.length+n=s.ws.length:=by rw[hxo];simp only[withF,List.length_append,List.length_singleton];omega
   have e1:=ih x c hxl hxP
   have hsu:((stepL s f).take (a+1)).foldl (fun b x=>fewF s n x b) b=fewF s n x c:=by
    rw[List.take_succ_eq_append_getElem hk1,List.foldl_append,<- hc2,hxe];rfl
   clear hx hxe hv
   (conv=>whnf);(repeat'((first|apply bT|apply bF|apply bN|((first|apply bD|apply bEq|apply bNe)<;>intro hh<;>try(exfalso;omega))|refine e1.cq rfl rfl ?_|refine wJ ?_|refine nJ ?_)<;>conv=>whnf))
   exact⟨(a+1,fewF s n x c),mI,rfl,hsu.symm⟩
  ·rintro⟨a,c⟩ ⟨ha,hc2⟩
   dsimp only at hc2⊢
   have hT:((stepL s f).map fun x=>[AV.agg (x.cells s.sto)]).length=(stepL s f).length:=by simp
   rw[hT,List.take_length]at hc2
   rw[<- hc2]
   (conv=>whnf);(repeat'((first|apply bT|apply bF|apply bN|((first|apply bD|apply bEq|apply bNe)<;>intro hh<;>try(exfalso;omega))|refine wJ ?_|refine nJ ?_)<;>conv=>whnf))
   all_goals rfl
def woN(s:Ord):Nat->Fil
 |0=>emF s
 |k+1=>woF s (woN s k)
theorem woN_len(s:Ord):∀k,(woN s k).pl.length=k
 |0=>rfl
 |k+1=>by simp only[woN,woF,List.length_append,List.length_singleton];rw[woN_len s k]
theorem woN_ok{s:Ord}(hk:OkO s):∀k,k<=s.ws.length->GoodP s (woN s k)
 |0,_=>emP hk
 |k+1,h=>woP hk (woN_ok hk k (by omega)) (by rw[woN_len];omega)
def bestF(s:Ord):Fil:=betF s s.ws.length (emF s) (woN s s.ws.length)
theorem v55(s:Ord)(hk:OkO s):FnA Tryz.prog 55 [.ipt (s.stC s.mapF s.optAll)] (· = .agg ((bestF s).cells s.sto)):=by
 have lW:(s.ws.map Wish.av).length=s.ws.length:=by simp
 have hw1:=hk.w1
 have e0:=v62 s hk
 refine fnA 18 ok55 (by simp) ?_
 (conv=>whnf);(repeat'((first|apply bT|apply bF|apply bN|((first|apply bD|apply bEq|apply bNe)<;>intro hh<;>try(exfalso;omega))|refine wJ ?_|refine nJ ?_)<;>conv=>whnf))
 refine e0.callzq rfl rfl (fun _ h=>?_);subst h
 (conv=>whnf);(repeat'((first|apply bT|apply bF|apply bN|((first|apply bD|apply bEq|apply bNe)<;>intro hh<;>try(exfalso;omega))|refine wJ ?_|refine nJ ?_)<;>conv=>whnf))
 refine loop_i (α :=Nat) (fun k=>[(12, .int .i64 k),(11, .int .i64 ↑(s.ws.map Wish.av).length),(3, .own 5 0),(2, .own 0 0),(0, .ipt (s.stC s.mapF s.optAll))]) (fun k=>[.box false [.lit (.pointer none), .nils, .int .i64 0, .nils, .nils, .nils, .int .i64 0], .fresh, .fresh, .fresh, .fresh, .box false ((woN s k).cells s.sto), .fresh, .fresh, .fresh, .fresh, .fresh, .fresh, .fresh, .fresh, .fresh, .fresh, .fresh, .fresh]) (fun k=>k<=s.ws.length) (fun k=>s.ws.length-k) 0 mI (by omega) ?_
 intro k hk0
 conv=>whnf
 refine bD (fun h3=>?_) (fun h3=>?_)
 ·have hkl:k<s.ws.length:=by omega
  have hP:=woN_ok hk k hk0
  have hl:=hP.l
  have hlen:=woN_len s k
  have e1:=v97 s hk (woN s k) hP.g (by omega) (by omega)
  (conv=>whnf);(repeat'((first|apply bT|apply bF|apply bN|((first|apply bD|apply bEq|apply bNe)<;>intro hh<;>try(exfalso;omega))|refine wJ ?_|refine nJ ?_)<;>conv=>whnf))
  refine e1.callzq rfl rfl (fun _ h=>?_);subst h
  (conv=>whnf);(repeat'((first|apply bT|apply bF|apply bN|((first|apply bD|apply bEq|apply bNe)<;>intro hh<;>try(exfalso;omega))|refine wJ ?_|refine nJ ?_)<;>conv=>whnf))
  exact⟨k+1,mI,by omega,by omega⟩
 ·have:k=s.ws.length:=by omega
  subst this
  have e2:=v98 s hk s.ws.length (emF s) (woN s s.ws.length) (by simp[emF]) (emP hk)
  (conv=>whnf);(repeat'((first|apply bT|apply bF|apply bN|((first|apply bD|apply bEq|apply bNe)<;>intro hh<;>try(exfalso;omega))|refine wJ ?_|refine nJ ?_)<;>conv=>whnf))
  refine altI ?_ ?_
  all_goals
   (conv=>whnf);(repeat'((first|apply bT|apply bF|apply bN|((first|apply bD|apply bEq|apply bNe)<;>intro hh<;>try(exfalso;omega))|refine wJ ?_|refine nJ ?_)<;>conv=>whnf))
   refine e0.callzq rfl rfl (fun _ h=>?_);subst h
   (conv=>whnf);(repeat'((first|apply bT|apply bF|apply bN|((first|apply bD|apply bEq|apply bNe)<;>intro hh<;>try(exfalso;omega))|refine wJ ?_|refine nJ ?_)<;>conv=>whnf))
   refine e2.callzq rfl rfl (fun _ h=>?_);subst h
   (conv=>whnf);(repeat'((first|apply bT|apply bF|apply bN|((first|apply bD|apply bEq|apply bNe)<;>intro hh<;>try(exfalso;omega))|refine wJ ?_|refine nJ ?_)<;>conv=>whnf))
   all_goals rfl
def plF(s:Ord)(l:List Int):Nat->Option Fil
 |0=>some (emF s)
 |k+1=>match plF s l k with
  |none=>none
  |some f=>if l.getD k 0 = -1 then some (woF s f) else match s.opt (k:Nat) (l.getD k 0)with
   |none=>none
   |some o=>some (withF s f o)
def plAV(s:Ord)(o:Option Fil):AV:=match o with
 |some f=>.tup [.agg (f.cells s.sto), .bool true]
 |none=>.tup [.agg [.lit (.pointer none), .isl [], .int .i64 0, .isl [], .isl [], .isl [], .int .i64 0], .bool false]
theorem plF_none{s:Ord}{l:List Int}{k:Nat}(h:plF s l k=none):∀n,k<=n->plF s l n=none
 |0,hn=>by rw[show k=0 by omega]at h;exact h
 |n+1,hn=>by
  by_cases e:k=n+1
  ·rw[<- e];exact h
  ·simp only[plF,plF_none h n (by omega)]
theorem opts_of{s:Ord}{i j:Int}{o:Opt}(hj:s.isP j=true)(h:s.opt i j=some o):o∈s.opts i:=by
 have hj:=isP_iff.1 hj
 exact opts_mem.2 ⟨j.toNat,by omega,by rw[show((j.toNat:Nat):Int)=j by omega];exact h⟩
theorem plF_ok{s:Ord}(hk:OkO s){l:List Int}(hl:s.isPl l=true):∀k,k<=l.length->∀f,plF s l k=some f->GoodP s f/\f.pl.length=k
 |0,_,f,h=>by cases h;exact⟨emP hk,rfl⟩
 |k+1,hle,f,h=>by
  obtain⟨hp,hlen⟩:=isPl_iff.1 hl
  simp only[plF]at h
  split at h
  ·cases h
  ·rename_i f0 h0
   obtain⟨hP,hl0⟩:=plF_ok hk hl k (by omega) f0 h0
   split at h
   ·cases h
    exact⟨woP hk hP (by omega),by simp[woF,hl0]⟩
   ·rename_i hne
    split at h
    ·cases h
    ·rename_i o ho
     cases h
     have hj:s.isP (l.getD k 0)=true:=isP_iff.2 ((hp.1 k (by omega)).resolve_left hne)
     exact⟨withP hk hP (by omega) (by rw[hl0];exact opts_of hj ho),by simp[withF,hl0]⟩
theorem v58(s:Ord)(hk:OkO s)(l:List Int)(hl:s.isPl l=true):FnA Tryz.prog 58 [.ipt (s.stC s.mapF s.optAll), .isl (l.map jAV)] (· = plAV s (plF s l l.length)):=by
 obtain⟨hp,hlen⟩:=isPl_iff.1 hl
 have lL:(l.map jAV).length=l.length:=by simp
 have hw1:=hk.w1
 have e0:=v62 s hk
 refine fnA 16 ok58 (by simp) ?_
 (conv=>whnf);(repeat'((first|apply bT|apply bF|apply bN|((first|apply bD|apply bEq|apply bNe)<;>intro hh<;>try(exfalso;omega))|refine wJ ?_|refine nJ ?_)<;>conv=>whnf))
 refine e0.callzq rfl rfl (fun _ h=>?_);subst h
 (conv=>whnf);(repeat'((first|apply bT|apply bF|apply bN|((first|apply bD|apply bEq|apply bNe)<;>intro hh<;>try(exfalso;omega))|refine wJ ?_|refine nJ ?_)<;>conv=>whnf))
 refine loop_i (α :=Nat × Fil) (fun q=>[(15, .int .i64 q.1),(14, .int .i64 ↑(l.map jAV).length),(13, .isl (l.map jAV)),(6, .own 5 0),(4, .own 0 0),(0, .ipt (s.stC s.mapF s.optAll))]) (fun q=>[.box false [.lit (.pointer none), .nils, .int .i64 0, .nils, .nils, .nils, .int .i64 0], .fresh, .fresh, .fresh, .fresh, .box false (q.2.cells s.sto), .fresh, .fresh, .fresh, .fresh, .fresh, .fresh, .fresh, .fresh, .fresh, .fresh]) (fun q=>q.1<=l.length/\plF s l q.1=some q.2) (fun q=>l.length-q.1) (0,emF s) mI ⟨by simp,rfl⟩ ?_
 rintro⟨k,f⟩ ⟨hk0,hf⟩
 dsimp only at hk0 hf⊢
 obtain⟨hP,hpl⟩:=plF_ok hk hl k hk0 f hf
 have hfl:=hP.l
 conv=>whnf
 refine bD (fun h3=>?_) (fun h3=>?_)
 ·have hkl:k<l.length:=by omega
  have g1:=jget (l:=l) (i:=k) hkl
  have hi:s.isW (k:Nat)=true:=isW_iff.2 ⟨by omega,by omega⟩
  by_cases h1:l.getD k 0 = -1
  ·have hs:plF s l (k+1)=some (woF s f):=by simp only[plF,hf,if_pos h1]
   have e1:=v97 s hk f hP.g (by omega) (by omega)
   (conv=>whnf);(repeat'((first|apply bT|apply bF|apply bN|((first|apply bD|apply bEq|apply bNe)<;>intro hh<;>try(exfalso;omega))|refine iaJ g1 ?_|refine wJ ?_|refine nJ ?_)<;>conv=>whnf))
   refine e1.callzq rfl rfl (fun _ h=>?_);subst h
   (conv=>whnf);(repeat'((first|apply bT|apply bF|apply bN|((first|apply bD|apply bEq|apply bNe)<;>intro hh<;>try(exfalso;omega))|refine wJ ?_|refine nJ ?_)<;>conv=>whnf))
   exact⟨(k+1,woF s f),mI,⟨by dsimp only;omega,hs⟩,by dsimp only;omega⟩
  ·have hj:s.isP (l.getD k 0)=true:=isP_iff.2 ((hp.1 k hkl).resolve_left h1)
   have e1:=q99 s hk s.mapF (mapF_all hk) s.optAll (k:Nat) (l.getD k 0) hi hj
   cases ho:s.opt (k:Nat) (l.getD k 0)with
   |none=>
    have hs:plF s l (k+1)=none:=by simp only[plF,hf,if_neg h1,ho]
    rw[plF_none hs l.length (by omega)]
    rw[ho]at e1
    (conv=>whnf);(repeat'((first|apply bT|apply bF|apply bN|((first|apply bD|apply bEq|apply bNe)<;>intro hh<;>try(exfalso;omega))|refine iaJ g1 ?_|refine wJ ?_|refine nJ ?_)<;>conv=>whnf))
    refine e1.callzq rfl rfl (fun _ h=>?_);subst h
    (conv=>whnf);(repeat'((first|apply bT|apply bF|apply bN|((first|apply bD|apply bEq|apply bNe)<;>intro hh<;>try(exfalso;omega))|refine wJ ?_|refine nJ ?_)<;>conv=>whnf))
    all_goals rfl
   |some o=>
    have hs:plF s l (k+1)=some (withF s f o):=by simp only[plF,hf,if_neg h1,ho]
    have hoo:=(opts_ok hk (opts_of hj ho)).1
    have e2:=v63 s hk f hP.g o hoo
    rw[ho]at e1
    (conv=>whnf);(repeat'((first|apply bT|apply bF|apply bN|((first|apply bD|apply bEq|apply bNe)<;>intro hh<;>try(exfalso;omega))|refine iaJ g1 ?_|refine wJ ?_|refine nJ ?_)<;>conv=>whnf))
    refine e1.callzq rfl rfl (fun _ h=>?_);subst h
    (conv=>whnf);(repeat'((first|apply bT|apply bF|apply bN|((first|apply bD|apply bEq|apply bNe)<;>intro hh<;>try(exfalso;omega))|refine wJ ?_|refine nJ ?_)<;>conv=>whnf))
    refine e2.callzq rfl rfl (fun _ h=>?_);subst h
    (conv=>whnf);(repeat'((first|apply bT|apply bF|apply bN|((first|apply bD|apply bEq|apply bNe)<;>intro hh<;>try(exfalso;omega))|refine wJ ?_|refine nJ ?_)<;>conv=>whnf))
    exact⟨(k+1,withF s f o),mI,⟨by dsimp only;omega,hs⟩,by dsimp only;omega⟩
 ·have:k=l.length:=by omega
  subst this
  rw[hf]
  (conv=>whnf);(repeat'((first|apply bT|apply bF|apply bN|((first|apply bD|apply bEq|apply bNe)<;>intro hh<;>try(exfalso;omega))|refine wJ ?_|refine nJ ?_)<;>conv=>whnf))
  all_goals rfl
theorem foldl_P{α β : Type}{P : β -> Prop}{f : β -> α -> β}{l:List α}(h:∀b,∀x∈l,P b->P (f b x)):∀ {b : β},P b->P (l.foldl f b):=by
 induction l with
 |nil=>intro b hb;exact hb
 |cons x l ih=>intro b hb;exact ih (fun b y hy=>h b y (by simp[hy])) (h b x (by simp) hb)
theorem bet_P{s:Ord}(hk:OkO s):∀(n:Nat) (f b:Fil),f.pl.length+n=s.ws.length->GoodP s f->GoodP s b->GoodP s (betF s n f b)
 |0,f,b,_,hf,hb=>by unfold betF;split<;>assumption
 |n+1,f,b,hn,hf,hb=>by
  unfold betF
  split
  ·exact hb
  ·refine bet_P hk n _ _ (by simp only[woF,List.length_append,List.length_singleton];omega) (woP hk hf (by omega)) (foldl_P (fun c x hx hc=>?_) hb)
   split
   ·obtain⟨o,ho,_,rfl⟩:=step_mem hx
    exact bet_P hk n _ _ (by simp only[withF,List.length_append,List.length_singleton];omega) (withP hk hf (by omega) ho) hc
   ·exact hc
theorem best_P{s:Ord}(hk:OkO s):GoodP s (bestF s):=bet_P hk _ _ _ (by simp[emF]) (emP hk) (woN_ok hk _ (Nat.le_refl _))
def Ord.mostF(s:Ord):Int:=s.sumP (bestF s).pl.length-(bestF s).lost
def Ord.mostAV(s:Ord):AV:=if s.eS true=0 then .tup [.int .i64 s.mostF, .int .i64 0] else .tup [.int .i64 0, .int .i64 (s.eS true)]
theorem v18(s:Ord)(hB:BigO s):FnA Tryz.prog 18 [.agg s.cells] (· = s.mostAV):=by
 unfold Ord.mostAV
 by_cases h:s.eS true=0
 ·rw[if_pos h]
  have hk:=okO (eS_0 h).1
  have e1:=q54 s hB true h
  have e2:=v55 s hk
  have hP:=best_P hk
  have hl:=hP.l
  have hw1:=hk.w1
  have hp:=hP.p
  have e3:=v56 s hk (bestF s) hP.p (by omega)
  refine fnA 12 ok18 (by simp) ?_
  (conv=>whnf);(repeat'((first|apply bT|apply bF|apply bN|((first|apply bD|apply bEq|apply bNe)<;>intro hh<;>try(exfalso;omega))|refine e1.zq rfl rfl ?_|refine e2.zq rfl rfl ?_|refine e3.cq rfl rfl ?_|refine wJ ?_|refine nJ ?_)<;>conv=>whnf))
  all_goals rfl
 ·rw[if_neg h]
  have e1:=q54e s hB true h
  refine fnA 12 ok18 (by simp) ?_
  (conv=>whnf);(repeat'((first|apply bT|apply bF|apply bN|((first|apply bD|apply bEq|apply bNe)<;>intro hh<;>try(exfalso;omega))|refine e1.zq rfl rfl ?_|refine wJ ?_|refine nJ ?_)<;>conv=>whnf))
  all_goals rfl
noncomputable def Ord.takesAV(s:Ord)(l:List Int):AV:=if s.eS (s.isPl l)=0 then(match plF s l l.length with
  |some f=>if f.lacks=0 then .tup [.int .i64 (s.sumP f.pl.length-f.lost), .int .i64 0] else .tup [.int .i64 0, .int .i64 3]
  |none=>.tup [.int .i64 0, .int .i64 3]) else .tup [.int .i64 0, .int .i64 (s.eS (s.isPl l))]
theorem v19(s:Ord)(hB:BigO s)(l:List Int)(hl:l.length<=1000000):FnA Tryz.prog 19 [.agg s.cells, .isl (l.map jAV)] (· = s.takesAV l):=by
 have e0:=q57 s l hB.ps hB.ws hl
 unfold Ord.takesAV
 by_cases h:s.eS (s.isPl l)=0
 ·rw[if_pos h]
  obtain⟨hc,hv,_⟩:=eS_0 h
  have hk:=okO hc
  have e1:=q54 s hB _ h
  have e2:=v58 s hk l hv
  refine fnA 12 ok19 (by simp) ?_
  cases hf:plF s l l.length with
  |none=>
   rw[hf]at e2
   (conv=>whnf);(repeat'((first|apply bT|apply bF|apply bN|((first|apply bD|apply bEq|apply bNe)<;>intro hh<;>try(exfalso;omega))|refine e0.cq rfl rfl ?_|refine e1.zq rfl rfl ?_|refine e2.zq rfl rfl ?_|refine wJ ?_|refine nJ ?_)<;>conv=>whnf))
   all_goals rfl
  |some f=>
   rw[hf]at e2
   obtain⟨hP,hpl⟩:=plF_ok hk hv l.length (Nat.le_refl _) f hf
   have hfl:=hP.l
   have hw1:=hk.w1
   have hp:=hP.p
   have e3:=v56 s hk f hP.p (by omega)
   have hlk:=hP.g.lk
   dsimp only
   by_cases h0:f.lacks=0
   ·rw[if_pos h0]
    (conv=>whnf);(repeat'((first|apply bT|apply bF|apply bN|((first|apply bD|apply bEq|apply bNe)<;>intro hh<;>try(exfalso;omega))|refine e0.cq rfl rfl ?_|refine e1.zq rfl rfl ?_|refine e2.zq rfl rfl ?_|refine e3.cq rfl rfl ?_|refine wJ ?_|refine nJ ?_)<;>conv=>whnf))
    all_goals rfl
   ·rw[if_neg h0]
    (conv=>whnf);(repeat'((first|apply bT|apply bF|apply bN|((first|apply bD|apply bEq|apply bNe)<;>intro hh<;>try(exfalso;omega))|refine e0.cq rfl rfl ?_|refine e1.zq rfl rfl ?_|refine e2.zq rfl rfl ?_|refine wJ ?_|refine nJ ?_)<;>conv=>whnf))
    all_goals rfl
 ·rw[if_neg h]
  have e1:=q54e s hB _ h
  refine fnA 12 ok19 (by simp) ?_
  (conv=>whnf);(repeat'((first|apply bT|apply bF|apply bN|((first|apply bD|apply bEq|apply bNe)<;>intro hh<;>try(exfalso;omega))|refine e0.cq rfl rfl ?_|refine e1.zq rfl rfl ?_|refine wJ ?_|refine nJ ?_)<;>conv=>whnf))
  all_goals rfl
def Ord.fewN(s:Ord):Int:=fewF s s.ws.length (emF s) 25
def Ord.extraAV(s:Ord):AV:=if s.eS true=0 then(if s.fewN=25 then .tup [.int .i64 0, .int .i64 3] else .tup [.int .i64 s.fewN, .int .i64 0]) else .tup [.int .i64 0, .int .i64 (s.eS true)]
theorem v26(s:Ord)(hB:BigO s):FnA Tryz.prog 26 [.agg s.cells] (· = s.extraAV):=by
 unfold Ord.extraAV
 by_cases h:s.eS true=0
 ·rw[if_pos h]
  have hk:=okO (eS_0 h).1
  have e1:=q54 s hB true h
  have e2:=v62 s hk
  have e3:=v65 s hk s.ws.length (emF s) 25 (by simp[emF]) (emP hk)
  have hN:s.fewN=fewF s s.ws.length (emF s) 25:=rfl
  rw[<- hN]at e3
  refine fnA 12 ok26 (by simp) ?_
  by_cases h25:s.fewN=25
  ·rw[if_pos h25]
   (conv=>whnf);(repeat'((first|apply bT|apply bF|apply bN|((first|apply bD|apply bEq|apply bNe)<;>intro hh<;>try(exfalso;omega))|refine e1.zq rfl rfl ?_|refine e2.zq rfl rfl ?_|refine e3.cq rfl rfl ?_|refine wJ ?_|refine nJ ?_)<;>conv=>whnf))
   all_goals rfl
  ·rw[if_neg h25]
   (conv=>whnf);(repeat'((first|apply bT|apply bF|apply bN|((first|apply bD|apply bEq|apply bNe)<;>intro hh<;>try(exfalso;omega))|refine e1.zq rfl rfl ?_|refine e2.zq rfl rfl ?_|refine e3.cq rfl rfl ?_|refine wJ ?_|refine nJ ?_)<;>conv=>whnf))
   all_goals rfl
 ·rw[if_neg h]
  have e1:=q54e s hB true h
  refine fnA 12 ok26 (by simp) ?_
  (conv=>whnf);(repeat'((first|apply bT|apply bF|apply bN|((first|apply bD|apply bEq|apply bNe)<;>intro hh<;>try(exfalso;omega))|refine e1.zq rfl rfl ?_|refine wJ ?_|refine nJ ?_)<;>conv=>whnf))
  all_goals rfl
def canB(s:Ord)(o:Opt):Bool:=decide ((withF s (emF s) o).lacks=0)
def Ord.canL(s:Ord)(i:Int):List Int:=((s.opts i).filter (canB s)).map (·.pc)
def Ord.canAV(s:Ord)(i:Int):AV:=if s.eS (s.isW i)=0 then .tup [.isl ((s.canL i).map jAV), .int .i64 0] else .tup [.isl [], .int .i64 (s.eS (s.isW i))]
theorem v22(s:Ord)(hB:BigO s)(i:Int):FnA Tryz.prog 22 [.agg s.cells, .int .i64 i] (· = s.canAV i):=by
 have e0:=q61 s i hB.ws
 unfold Ord.canAV
 by_cases h:s.eS (s.isW i)=0
 ·rw[if_pos h]
  obtain⟨hc,hv,_⟩:=eS_0 h
  have hk:=okO hc
  have hi:=isW_iff.1 hv
  have e1:=q54 s hB _ h
  have e2:=v62 s hk
  have lO:(s.optAll.map optsAV).length=s.ws.length:=by rw[List.length_map];exact optA_len s _
  have hw1:=hk.w1
  have g0:(s.optAll.map optsAV).getD i.toNat []=[.isl ((s.opts i).map Opt.av)]:=by
   have hl:i.toNat<s.optAll.length:=by have:=optA_len s s.ws.length;unfold Ord.optAll;omega
   rw[getM optsAV s.optAll _ hl]
   have:s.optAll[i.toNat]'hl=s.opts i:=by
    simp only[Ord.optAll,Ord.optA,List.getElem_map,List.getElem_range]
    rw[show((i.toNat:Nat):Int)=i by omega]
   rw[this];rfl
  have hlo:(s.opts i).length<=8:=Nat.le_trans (optK_len s _ _) hk.p1
  have hall:=fun o (h:o∈s.opts i)=>(opts_ok hk h).1
  unfold Ord.canL
  generalize s.opts i=L at g0 hlo hall
  have lL:(L.map Opt.av).length=L.length:=by simp
  refine fnA 13 ok22 (by simp) ?_
  (conv=>whnf);(repeat'((first|apply bT|apply bF|apply bN|((first|apply bD|apply bEq|apply bNe)<;>intro hh<;>try(exfalso;omega))|refine e0.cq rfl rfl ?_|refine e1.zq rfl rfl ?_|refine iaJ g0 ?_|refine wJ ?_|refine nJ ?_)<;>conv=>whnf))
  refine loop_i (α :=Nat) (fun k=>[(30, .int .i64 k),(29, .int .i64 ↑(L.map Opt.av).length),(28, .isl (L.map Opt.av)),(8, .row 12),(6, .ipt (s.stC s.mapF s.optAll))]) (fun k=>[.fresh, .fresh, .fresh, .fresh, .fresh, .fresh, .fresh, .fresh, .fresh, .fresh, .fresh, .fresh, .row false 3 1 ((((L.take k).filter (canB s)).map (·.pc)).map jAV)]) (fun k=>k<=L.length) (fun k=>L.length-k) 0 (mN 12) (by omega) ?_
  intro k hk0
  conv=>whnf
  refine bD (fun h3=>?_) (fun h3=>?_)
  ·have hkl:k<L.length:=by omega
   have g1:=oget Opt.av L hkl
   have hom:=List.getElem_mem hkl
   have htk:L.take (k+1)=L.take k++[L[k]]:=List.take_succ_eq_append_getElem hkl
   generalize L[k]=o at g1 hom htk
   have e3:=v63 s hk (emF s) (em_ok hk) o (hall o hom)
   have lk:((((L.take k).filter (canB s)).map (·.pc)).map jAV).length<=8:=by
    rw[List.length_map,List.length_map]
    have:=List.length_filter_le (canB s) (L.take k)
    rw[List.length_take]at this
    omega
   (conv=>whnf);(repeat'((first|apply bT|apply bF|apply bN|((first|apply bD|apply bEq|apply bNe)<;>intro hh<;>try(exfalso;omega))|refine iaJ g1 ?_|refine wJ ?_|refine nJ ?_)<;>conv=>whnf))
   refine altI ?_ ?_
   all_goals
    (conv=>whnf);(repeat'((first|apply bT|apply bF|apply bN|((first|apply bD|apply bEq|apply bNe)<;>intro hh<;>try(exfalso;omega))|refine wJ ?_|refine nJ ?_)<;>conv=>whnf))
    refine e2.callzq rfl rfl (fun _ h=>?_);subst h
    (conv=>whnf);(repeat'((first|apply bT|apply bF|apply bN|((first|apply bD|apply bEq|apply bNe)<;>intro hh<;>try(exfalso;omega))|refine wJ ?_|refine nJ ?_)<;>conv=>whnf))
    refine e3.callzq rfl rfl (fun _ h=>?_);subst h
    by_cases h0:(withF s (emF s) o).lacks=0
    ·have hm:(((L.take (k+1)).filter (canB s)).map (·.pc)).map jAV=(((L.take k).filter (canB s)).map (·.pc)).map jAV++[[.int .i64 o.pc]]:=by
      rw[htk,List.filter_append]
      have:canB s o=true:=decide_eq_true h0
      simp[this,jAV]
     (conv=>whnf);(repeat'((first|apply bT|apply bF|apply bN|((first|apply bD|apply bEq|apply bNe)<;>intro hh<;>try(exfalso;omega))|refine wJ ?_|refine nJ ?_)<;>conv=>whnf))
     refine apJ ?_
     (conv=>whnf);(repeat'((first|apply bT|apply bF|apply bN|((first|apply bD|apply bEq|apply bNe)<;>intro hh<;>try(exfalso;omega))|refine wJ ?_|refine nJ ?_)<;>conv=>whnf))
     refine⟨k+1,?_,by omega,by omega⟩
     simp only[hm]
     exact(mR 12 11)
    ·have hm:(((L.take (k+1)).filter (canB s)).map (·.pc)).map jAV=(((L.take k).filter (canB s)).map (·.pc)).map jAV:=by
      rw[htk,List.filter_append]
      have:canB s o=false:=decide_eq_false h0
      simp[this]
     (conv=>whnf);(repeat'((first|apply bT|apply bF|apply bN|((first|apply bD|apply bEq|apply bNe)<;>intro hh<;>try(exfalso;omega))|refine wJ ?_|refine nJ ?_)<;>conv=>whnf))
     refine⟨k+1,?_,by omega,by omega⟩
     simp only[hm]
     exact mI
  ·have:k=L.length:=by omega
   subst this
   rw[List.take_length]
   (conv=>whnf);(repeat'((first|apply bT|apply bF|apply bN|((first|apply bD|apply bEq|apply bNe)<;>intro hh<;>try(exfalso;omega))|refine wJ ?_|refine nJ ?_)<;>conv=>whnf))
   all_goals rfl
 ·rw[if_neg h]
  have e1:=q54e s hB _ h
  refine fnA 12 ok22 (by simp) ?_
  (conv=>whnf);(repeat'((first|apply bT|apply bF|apply bN|((first|apply bD|apply bEq|apply bNe)<;>intro hh<;>try(exfalso;omega))|refine e0.cq rfl rfl ?_|refine e1.zq rfl rfl ?_|refine wJ ?_|refine nJ ?_)<;>conv=>whnf))
  all_goals rfl
def Ord.less(s:Ord)(d:Int):Ord:={ s with ds:=s.ds.take d.toNat++s.ds.drop (d.toNat+1) }
def Ord.withoutAV(s:Ord)(d:Int):AV:=if s.e1 (s.isD d)=0 then(s.less d).mostAV else .tup [.int .i64 0, .int .i64 (s.e1 (s.isD d))]
theorem less_big{s:Ord}(hB:BigO s)(d:Int):BigO (s.less d):=⟨hB.w,hB.st,hB.ps,hB.ws,by
 have:=hB.ds
 simp only[Ord.less,List.length_append,List.length_take,List.length_drop];omega,hB.br,hB.cs⟩
theorem v28(s:Ord)(hB:BigO s)(d:Int):FnA Tryz.prog 28 [.agg s.cells, .int .i64 d] (· = s.withoutAV d):=by
 have e0:=q68 s d hB.ds
 have e1:=q67 s hB (s.isD d)
 have hds:=hB.ds
 have lD:(s.ds.map Dlv.av).length=s.ds.length:=by simp
 unfold Ord.withoutAV
 by_cases h:s.e1 (s.isD d)=0
 ·rw[if_pos h]
  have hd:=isD_iff.1 (e1_0 h).2
  rw[h]at e1
  have hone:∀e∈s.ds.map Dlv.av,e.length=3:=fun e he=>(dl_one s.ds e he).1
  have e2:=q69 [s.ds.take d.toNat,s.ds.drop (d.toNat+1)] (by simp) (by simp only[List.flatten_cons,List.flatten_nil,List.length_append,List.length_take,List.length_drop,List.length_nil];omega)
  have hfl:[s.ds.take d.toNat,s.ds.drop (d.toNat+1)].flatten=s.ds.take d.toNat++s.ds.drop (d.toNat+1):=by simp
  rw[hfl]at e2
  have e3:=v18 (s.less d) (less_big hB d)
  have hsh:∃a b:Int,(s.less d).mostAV = .tup [.int .i64 a, .int .i64 b]:=by unfold Ord.mostAV;split<;>exact⟨_,_,rfl⟩
  obtain⟨ma,mb,hma⟩:=hsh
  rw[hma]at e3⊢
  refine fnA 4 ok28 (by simp) ?_
  (conv=>whnf);(repeat'((first|apply bT|apply bF|apply bN|((first|apply bD|apply bEq|apply bNe)<;>intro hh<;>try(exfalso;omega))|refine e0.cq rfl rfl ?_|refine e1.cq rfl rfl ?_|refine wJ ?_|refine nJ ?_)<;>conv=>whnf))
  refine slI (es':=(s.ds.take d.toNat).map Dlv.av) (by omega) (by omega) (by omega) hone (by simp[List.map_take]) ?_
  (conv=>whnf);(repeat'((first|apply bT|apply bF|apply bN|((first|apply bD|apply bEq|apply bNe)<;>intro hh<;>try(exfalso;omega))|refine wJ ?_|refine nJ ?_)<;>conv=>whnf))
  refine slI (es':=(s.ds.drop (d.toNat+1)).map Dlv.av) (by omega) (by omega) (by omega) hone (by rw[show(d+1).toNat=d.toNat+1 by omega,List.map_drop];congr 1;exact List.take_of_length_le (by omega)) ?_
  (conv=>whnf);(repeat'((first|apply bT|apply bF|apply bN|((first|apply bD|apply bEq|apply bNe)<;>intro hh<;>try(exfalso;omega))|refine e2.zq rfl rfl ?_|refine e3.cq rfl rfl ?_|refine wJ ?_|refine nJ ?_)<;>conv=>whnf))
  all_goals rfl
 ·rw[if_neg h]
  refine fnA 4 ok28 (by simp) ?_
  rcases e1_val s (s.isD d)with h2|h2|h2|h2|h2<;>rw[h2]at e1⊢
  ·exact absurd h2 h
  all_goals
   (conv=>whnf);(repeat'((first|apply bT|apply bF|apply bN|((first|apply bD|apply bEq|apply bNe)<;>intro hh<;>try(exfalso;omega))|refine e0.cq rfl rfl ?_|refine e1.cq rfl rfl ?_|refine wJ ?_|refine nJ ?_)<;>conv=>whnf))
   all_goals rfl
def exO:Ord:=⟨exW,[1,0,0,0],[⟨1,60,0,0,[0]⟩,⟨1,60,7,0,[]⟩,⟨2,65,0,1,[0]⟩,⟨2,60,0,0,[0,1]⟩],[⟨[1],55,65,7,3,500⟩,⟨[1,2],60,60,0,5,400⟩,⟨[2],60,70,9,8,700⟩,⟨[2],65,65,0,5,300⟩],[⟨4,2,1⟩,⟨6,3,1⟩],2⟩
theorem q53:FnA Tryz.prog 53 [] (· = .agg exO.cells):=by
 have e:=p64
 refine fnA 15 ok53 (by simp) ?_
 (conv=>whnf);(repeat'((first|apply bT|apply bF|apply bN|((first|apply bD|apply bEq|apply bNe)<;>intro hh<;>try(exfalso;omega))|refine e.zq rfl rfl ?_|refine wJ ?_|refine nJ ?_)<;>conv=>whnf))
 all_goals rfl
theorem exO_1:exO.eS true=0/\exO.mostF=1600:=by decide +kernel
theorem exO_2:exO.eS (exO.isW 2)=0/\exO.canL 2=[2,3]:=by decide +kernel
theorem exO_3:exO.e1 (exO.isD 1)=0/\(exO.less 1).eS true=0/\(exO.less 1).mostF=1200:=by decide +kernel
theorem exO_4:exO.fewN=2:=by decide +kernel
theorem exO_5:exO.e1 (exO.isW 0&&exO.isP 0)=0/\suitV (exO.wish 0) (exO.piece 0)=2:=by decide +kernel
theorem exO_6:BigO exO:=⟨⟨by decide,by decide,by decide,by decide⟩,by decide,by decide,by decide,by decide,by decide,by decide⟩
theorem q17:FnA Tryz.prog 17 [] (· = .bool true):=by
 have e0:=q53
 have e1:=v18 exO exO_6
 have e2:=v22 exO exO_6 2
 have e3:=v28 exO exO_6 1
 have e4:=v26 exO exO_6
 have e5:=q33 exO exO_6 0 0
 have e6:=q36 [2,3] [2,3] (by simp)
 obtain⟨a1,a2⟩:=exO_1
 obtain⟨b1,b2⟩:=exO_2
 obtain⟨c1,c2,c3⟩:=exO_3
 obtain⟨d1,d2⟩:=exO_5
 unfold Ord.mostAV at e1
 rw[if_pos a1,a2]at e1
 unfold Ord.canAV at e2
 rw[if_pos b1,b2]at e2
 unfold Ord.withoutAV Ord.mostAV at e3
 rw[if_pos c1,if_pos c2,c3]at e3
 unfold Ord.extraAV at e4
 rw[if_pos a1,exO_4,if_neg (by decide)]at e4
 rw[d1,if_pos rfl,d2]at e5
 clear a1 a2 b1 b2 c1 c2 c3 d1 d2
 refine fnA 10 ok17 (by simp) ?_
 (conv=>whnf);(repeat'((first|apply bT|apply bF|apply bN|((first|apply bD|apply bEq|apply bNe)<;>intro hh<;>try(exfalso;omega))|refine e0.zq rfl rfl ?_|refine e1.cq rfl rfl ?_|refine e2.zq rfl rfl ?_|refine e3.cq rfl rfl ?_|refine e4.cq rfl rfl ?_|refine e5.cq rfl rfl ?_|refine e6.lq rfl rfl ?_|refine wJ ?_|refine nJ ?_)<;>conv=>whnf))
 all_goals rfl
theorem q81(s:Ord)(hB:BigO s)(v:Bool):FnA Tryz.prog 81 [.agg s.cells, .bool v] (· = .int .i64 (s.eS v)):=by
 have e0:=q32 s hB
 have e1:=p54 s.w hB.w
 have hd:s.eS v=if s.chk≠0 then s.chk else if v=false then 1 else s.w.eO true:=by
  unfold Ord.eS Ord.e1
  by_cases hc:s.chk=0
  ·rw[eO_noT (chk0_ok hc).1]
   cases v<;>simp[hc]
  ·simp[hc]
 rw[hd]
 by_cases hc:s.chk=0
 ·rw[hc]at e0
  rw[if_neg (fun h=>h hc)]
  cases v<;>
  ·refine fnA 1 ok81 (by simp) ?_
   (conv=>whnf);(repeat'((first|apply bT|apply bF|apply bN|((first|apply bD|apply bEq|apply bNe)<;>intro hh<;>try(exfalso;omega))|refine e0.cq rfl rfl ?_|refine e1.cq rfl rfl ?_|refine wJ ?_|refine nJ ?_)<;>conv=>whnf))
   all_goals rfl
 ·rw[if_pos hc]
  generalize s.chk=c at *
  refine fnA 1 ok81 (by simp) ?_
  (conv=>whnf);(repeat'((first|apply bT|apply bF|apply bN|((first|apply bD|apply bEq|apply bNe)<;>intro hh<;>try(exfalso;omega))|refine e0.cq rfl rfl ?_|refine e1.cq rfl rfl ?_|refine wJ ?_|refine nJ ?_)<;>conv=>whnf))
  all_goals first|rfl|omega
theorem q50(s:Ord)(hB:BigO s):FnA Tryz.prog 50 [.agg s.cells] (· = .int .i64 (s.eS true)):=by
 have e0:=q81 s hB true
 refine fnA 1 ok50 (by simp) ?_
 (conv=>whnf);(repeat'((first|apply bT|apply bF|apply bN|((first|apply bD|apply bEq|apply bNe)<;>intro hh<;>try(exfalso;omega))|refine e0.cq rfl rfl ?_|refine wJ ?_|refine nJ ?_)<;>conv=>whnf))
 all_goals rfl
theorem isSp_of{s:Ord}(hk:OkO s){k:Nat}(h:k<s.w.sps.length):s.w.isSp (k:Nat)=true:=by
 unfold Shop.isSp;exact decide_eq_true (by omega)
theorem q103(s:Ord)(hk:OkO s)(hT:s.w.noT=false)(j:JobK)(hj:s.isJ j=true):FnA Tryz.prog 103 [.agg s.w.cells, .int .i64 j.1, .int .i64 j.2] (· = .isl ((s.fitL j).map jAV)):=by
 have hB:=hk.w.big
 have hst:=hk.st1
 have hs1:=hk.w.s1
 have l1:(s.w.sps.map Spare.av).length=s.w.sps.length:=by simp
 refine fnA 4 ok103 (by simp) ?_
 (conv=>whnf);(repeat'((first|apply bT|apply bF|apply bN|((first|apply bD|apply bEq|apply bNe)<;>intro hh<;>try(exfalso;omega))|refine wJ ?_|refine nJ ?_)<;>conv=>whnf))
 refine loop_i (α :=Nat) (fun k=>[(8, .int .i64 k),(7, .row 3),(3, .own 0 0),(2, .int .i64 j.2),(1, .int .i64 j.1)]) (fun k=>[.box false s.w.cells, .fresh, .fresh, .row false 3 1 ((s.fitK j k).map jAV)]) (fun k=>k<=s.w.sps.length) (fun k=>s.w.sps.length-k) 0 (mN 3) (by omega) ?_
 intro k hk0
 conv=>whnf
 refine bD (fun h3=>?_) (fun h3=>?_)
 ·have hkl:k<s.w.sps.length:=by omega
  have e1:=p22 s.w hB (k:Nat) j.1 j.2 (by rw[isSp_of hk hkl,show s.w.isSl j.1 j.2=true from hj];exact eO_true hk.chk hT)
  have lk:((s.fitK j k).map jAV).length<=100:=by rw[List.length_map];have:=fitK_len s j k;omega
  by_cases h4:s.w.fitsV (k:Nat) j.1 j.2=1
  ·have hm:(s.fitK j (k+1)).map jAV=(s.fitK j k).map jAV++[[.int .i64 (k:Nat)]]:=by rw[fitK_yes h4,List.map_append];rfl
   (conv=>whnf);(repeat'((first|apply bT|apply bF|apply bN|((first|apply bD|apply bEq|apply bNe)<;>intro hh<;>try(exfalso;omega))|refine e1.cq rfl rfl ?_|refine wJ ?_|refine nJ ?_)<;>conv=>whnf))
   refine apJ ?_
   (conv=>whnf);(repeat'((first|apply bT|apply bF|apply bN|((first|apply bD|apply bEq|apply bNe)<;>intro hh<;>try(exfalso;omega))|refine wJ ?_|refine nJ ?_)<;>conv=>whnf))
   refine⟨k+1,?_,by omega,by omega⟩
   simp only[hm]
   exact(mR 3 2)
  ·have hm:(s.fitK j (k+1)).map jAV=(s.fitK j k).map jAV:=by rw[fitK_no h4]
   (conv=>whnf);(repeat'((first|apply bT|apply bF|apply bN|((first|apply bD|apply bEq|apply bNe)<;>intro hh<;>try(exfalso;omega))|refine e1.cq rfl rfl ?_|refine wJ ?_|refine nJ ?_)<;>conv=>whnf))
   refine⟨k+1,?_,by omega,by omega⟩
   simp only[hm]
   exact mI
 ·have:k=s.w.sps.length:=by omega
  subst this
  (conv=>whnf);(repeat'((first|apply bT|apply bF|apply bN|((first|apply bD|apply bEq|apply bNe)<;>intro hh<;>try(exfalso;omega))|refine wJ ?_|refine nJ ?_)<;>conv=>whnf))
  rw[show s.fitL j=s.fitK j s.w.sps.length by rw[<- hst];rfl]
  all_goals rfl
def aloneL(n:Nat)(i p:Int):List Int:=(List.replicate n (-1)).set i.toNat p
def Ord.sup2(s:Ord):List Dlv:=s.ds++stD s s.st.length
theorem w102(s:Ord)(h1:s.st.length<=1000000)(h2:s.ds.length<=1000000):FnA Tryz.prog 102 [.agg s.cells] (· = .isl (s.sup2.map Dlv.av)):=by
 have l1:(s.st.map jAV).length=s.st.length:=by simp
 have l2:(s.ds.map Dlv.av).length=s.ds.length:=by simp
 refine fnA 6 ok102 (by simp) ?_
 (conv=>whnf);(repeat'((first|apply bT|apply bF|apply bN|((first|apply bD|apply bEq|apply bNe)<;>intro hh<;>try(exfalso;omega))|(refine apI (dl_one s.ds) (by simp only[l2,List.length_nil];omega) ?_)|refine wJ ?_|refine nJ ?_)<;>conv=>whnf))
 refine loop_i (α :=Nat × List (List AV)) (fun q=>[(4, .int .i64 q.1),(3, .row 5),(1, .own 0 0)]) (fun q=>[.box false s.cells, .fresh, .fresh, .fresh, .fresh, .row false 45 3 q.2]) (fun q=>q.1<=s.st.length/\q.2=(s.ds++stD s q.1).map Dlv.av) (fun q=>s.st.length-q.1) (0,[]++s.ds.map Dlv.av) (mA [(5,some 2)]) ⟨by simp,by simp[stD]⟩ ?_
 rintro⟨k,L⟩ ⟨hk0,hL⟩
 dsimp only at hk0 hL⊢
 conv=>whnf
 refine bD (fun h3=>?_) (fun h3=>?_)
 ·have hkl:k<s.st.length:=by omega
  have g1:(s.st.map jAV).getD k []=[.int .i64 (s.st.getD k 0)]:=by rw[getM jAV s.st k hkl];simp[List.getD_eq_getElem?_getD,hkl,jAV]
  have hm:(s.ds++stD s (k+1)).map Dlv.av=L++[Dlv.av ⟨0,(k:Nat),s.st.getD k 0⟩]:=by rw[hL,stD_succ,<- List.append_assoc,List.map_append];rfl
  have lk:L.length<=2000000:=by rw[hL,List.length_map,List.length_append,stD_len];omega
  (conv=>whnf);(repeat'((first|apply bT|apply bF|apply bN|((first|apply bD|apply bEq|apply bNe)<;>intro hh<;>try(exfalso;omega))|refine iaJ g1 ?_|refine wJ ?_|refine nJ ?_)<;>conv=>whnf))
  refine apJ ?_
  (conv=>whnf);(repeat'((first|apply bT|apply bF|apply bN|((first|apply bD|apply bEq|apply bNe)<;>intro hh<;>try(exfalso;omega))|refine wJ ?_|refine nJ ?_)<;>conv=>whnf))
  exact⟨(k+1,L++[Dlv.av ⟨0,(k:Nat),s.st.getD k 0⟩]),(mR 5 4),⟨by dsimp only;omega,hm.symm⟩,by dsimp only;omega⟩
 ·have:k=s.st.length:=by omega
  subst this
  (conv=>whnf);(repeat'((first|apply bT|apply bF|apply bN|((first|apply bD|apply bEq|apply bNe)<;>intro hh<;>try(exfalso;omega))|refine wJ ?_|refine nJ ?_)<;>conv=>whnf))
  all_goals (rw[hL];rfl)
def Ord.ftP(s:Ord)(p:Piece):List (List Int):=p.br.map fun k=>s.fitL (p.mkr,k)
def ftAV(l:List (List Int)):List AV:=[.isl (l.map fAV)]
def Ord.ft(s:Ord):List (List (List Int)):=s.ps.map s.ftP
theorem ft_succ{s:Ord}{k:Nat}(hk:k<s.ps.length):((s.ps.take (k+1)).map s.ftP).map ftAV=((s.ps.take k).map s.ftP).map ftAV++[ftAV (s.ftP s.ps[k])]:=by
 rw[List.take_succ_eq_append_getElem hk,List.map_append,List.map_append];rfl
theorem ftP_succ{s:Ord}{p:Piece}{i:Nat}(hi:i<p.br.length):((s.ftP p).take (i+1)).map fAV=((s.ftP p).take i).map fAV++[fAV (s.fitL (p.mkr,p.br[i]))]:=by
 have hl:i<(s.ftP p).length:=by unfold Ord.ftP;rw[List.length_map];exact hi
 rw[List.take_succ_eq_append_getElem hl,List.map_append]
 simp[Ord.ftP]
theorem q60(s:Ord)(hk:OkO s)(hT:s.w.noT=false):FnA Tryz.prog 60 [.agg s.cells] (· = .isl (s.ft.map ftAV)):=by
 have l1:(s.ps.map Piece.av).length=s.ps.length:=by simp
 have hp1:=hk.p1
 refine fnA 9 ok60 (by simp) ?_
 (conv=>whnf);(repeat'((first|apply bT|apply bF|apply bN|((first|apply bD|apply bEq|apply bNe)<;>intro hh<;>try(exfalso;omega))|refine wJ ?_|refine nJ ?_)<;>conv=>whnf))
 refine loop_i (α :=Nat) (fun k=>[(4, .int .i64 k),(3, .row 8),(1, .own 0 0)]) (fun k=>[.box false s.cells, .fresh, .fresh, .fresh, .fresh, .fresh, .fresh, .fresh, .row false 85 1 (((s.ps.take k).map s.ftP).map ftAV)]) (fun k=>k<=s.ps.length) (fun k=>s.ps.length-k) 0 (mN 8) (by omega) ?_
 intro k hk0
 conv=>whnf
 refine bD (fun h3=>?_) (fun h3=>?_)
 ·have hkl:k<s.ps.length:=by omega
  have g1:=oget Piece.av s.ps hkl
  have hpm:=List.getElem_mem hkl
  have hsuc:=ft_succ hkl
  have lk:(((s.ps.take k).map s.ftP).map ftAV).length<=8:=by rw[List.length_map,List.length_map,List.length_take];omega
  generalize hL:((s.ps.take k).map s.ftP).map ftAV=L at hsuc lk
  generalize s.ps[k]=p at g1 hpm hsuc
  have l2:(p.br.map jAV).length=p.br.length:=by simp
  have hbl:=br_len hk hpm
  (conv=>whnf);(repeat'((first|apply bT|apply bF|apply bN|((first|apply bD|apply bEq|apply bNe)<;>intro hh<;>try(exfalso;omega))|refine iaJ g1 ?_|refine wJ ?_|refine nJ ?_)<;>conv=>whnf))
  refine loop_i (α :=Nat) (fun i=>[(7, .int .i64 i),(6, .row 7),(5, .own 1 0),(4, .int .i64 k),(3, .row 8),(1, .own 0 0)]) (fun i=>[.box false s.cells, .box false p.av, .fresh, .fresh, .fresh, .fresh, .fresh, .row false 27 1 (((s.ftP p).take i).map fAV), .row false 85 1 L]) (fun i=>i<=p.br.length) (fun i=>p.br.length-i) 0 (mN 7) (by omega) ?_
  intro i hi0
  conv=>whnf
  refine bD (fun h4=>?_) (fun h4=>?_)
  ·have hil:i<p.br.length:=by omega
   have g2:=getM jAV p.br i hil
   have hjs:=br_isJ hk hpm (List.getElem_mem hil)
   have e1:=q103 s hk hT (p.mkr,p.br[i]) hjs
   have hsu2:=ftP_succ (s:=s) hil
   have li:(((s.ftP p).take i).map fAV).length<=1000:=by rw[List.length_map,List.length_take];omega
   generalize p.br[i]=b at g2 hjs e1 hsu2
   (conv=>whnf);(repeat'((first|apply bT|apply bF|apply bN|((first|apply bD|apply bEq|apply bNe)<;>intro hh<;>try(exfalso;omega))|refine iaJ g2 ?_|refine e1.zq rfl rfl ?_|refine wJ ?_|refine nJ ?_)<;>conv=>whnf))
   refine apJ ?_
   (conv=>whnf);(repeat'((first|apply bT|apply bF|apply bN|((first|apply bD|apply bEq|apply bNe)<;>intro hh<;>try(exfalso;omega))|refine wJ ?_|refine nJ ?_)<;>conv=>whnf))
   refine⟨i+1,?_,by omega,by omega⟩
   rw[hsu2]
   exact(mR 7 4)
  ·have:i=p.br.length:=by omega
   subst this
   have hft:(s.ftP p).take p.br.length=s.ftP p:=List.take_of_length_le (by simp[Ord.ftP])
   rw[hft]
   (conv=>whnf);(repeat'((first|apply bT|apply bF|apply bN|((first|apply bD|apply bEq|apply bNe)<;>intro hh<;>try(exfalso;omega))|refine wJ ?_|refine nJ ?_)<;>conv=>whnf))
   refine apJ ?_
   (conv=>whnf);(repeat'((first|apply bT|apply bF|apply bN|((first|apply bD|apply bEq|apply bNe)<;>intro hh<;>try(exfalso;omega))|refine wJ ?_|refine nJ ?_)<;>conv=>whnf))
   refine⟨k+1,?_,by omega,by omega⟩
   rw[hsuc]
   exact(mR 8 6)
 ·have:k=s.ps.length:=by omega
  subst this
  rw[List.take_length]
  (conv=>whnf);(repeat'((first|apply bT|apply bF|apply bN|((first|apply bD|apply bEq|apply bNe)<;>intro hh<;>try(exfalso;omega))|refine wJ ?_|refine nJ ?_)<;>conv=>whnf))
  all_goals rfl
structure Tk where
 by_:Int
 sp:List Int
def Tk.av(t:Tk):List AV:=[.int .i64 t.by_, .isl (t.sp.map jAV)]
def Ord.tkG(s:Ord)(i j:Int):Bool:=decide (j<0)||(decide (suitV (s.wish i) (s.piece j)≠0)&&decide (0<=s.by_ i j))
def Ord.tkOk(s:Ord)(pl:List Int)(k:Nat):Bool:=(List.range k).all fun i:Nat=>s.tkG (i:Nat) (pl.getD i 0)
def Ord.tkP(s:Ord)(i j:Int):List Tk:=(s.ftP (s.piece j)).map fun l=>⟨s.by_ i j,l⟩
def Ord.tkI(s:Ord)(i j:Int):List Tk:=if j<0 then [] else s.tkP i j
def Ord.tks(s:Ord)(pl:List Int)(k:Nat):List Tk:=(List.range k).flatMap fun i:Nat=>s.tkI (i:Nat) (pl.getD i 0)
theorem tks_succ(s:Ord)(pl:List Int)(k:Nat):s.tks pl (k+1)=s.tks pl k++s.tkI (k:Nat) (pl.getD k 0):=by
 unfold Ord.tks;rw[List.range_succ,List.flatMap_append];simp
theorem tkOk_succ(s:Ord)(pl:List Int)(k:Nat):s.tkOk pl (k+1)=(s.tkOk pl k&&s.tkG (k:Nat) (pl.getD k 0)):=by
 unfold Ord.tkOk;rw[List.range_succ,List.all_append];simp
theorem tkOk_le{s:Ord}{pl:List Int}{k n:Nat}(h:s.tkG (k:Nat) (pl.getD k 0)=false)(hk:k<n):s.tkOk pl n=false:=by
 cases hb:s.tkOk pl n with
 |false=>rfl
 |true=>
  unfold Ord.tkOk at hb
  have:=List.all_eq_true.1 hb k (List.mem_range.2 hk)
  rw[h]at this;cases this
def Ord.tkAV(s:Ord)(pl:List Int):AV:=if s.tkOk pl pl.length=true then .tup [.isl ((s.tks pl pl.length).map Tk.av), .bool true] else .tup [.isl [], .bool false]
theorem tkAV_no{s:Ord}{pl:List Int}(h:s.tkOk pl pl.length=false):s.tkAV pl = .tup [.isl [], .bool false]:=by unfold Ord.tkAV;rw[h];rfl
theorem tkP_len(s:Ord)(i j:Int):(s.tkP i j).length=(s.piece j).br.length:=by simp[Ord.tkP,Ord.ftP]
theorem tkP_succ{s:Ord}{i j:Int}{m:Nat}(hm:m<(s.piece j).br.length):((s.tkP i j).take (m+1)).map Tk.av=((s.tkP i j).take m).map Tk.av++[Tk.av ⟨s.by_ i j,s.fitL ((s.piece j).mkr,(s.piece j).br[m])⟩]:=by
 have hl:m<(s.tkP i j).length:=by rw[tkP_len];exact hm
 rw[List.take_succ_eq_append_getElem hl,List.map_append]
 simp[Ord.tkP,Ord.ftP]
theorem ftget{s:Ord}{j:Int}(h:s.isP j=true):(s.ft.map ftAV).getD j.toNat []=ftAV (s.ftP (s.piece j)):=by
 have h:=isP_iff.1 h
 have hl:j.toNat<s.ps.length:=by omega
 rw[getM ftAV s.ft j.toNat (by unfold Ord.ft;rw[List.length_map];exact hl)]
 simp[Ord.ft,Ord.piece,List.getD_eq_getElem?_getD,hl]
def PlO(s:Ord)(pl:List Int):Prop:=pl.length<=s.ws.length/\∀k,k<pl.length->pl.getD k 0 = -1\/s.isP (pl.getD k 0)=true
theorem tks_len{s:Ord}(hk:OkO s){pl:List Int}(hpl:PlO s pl):∀k,k<=pl.length->(s.tks pl k).length<=4*k
 |0,_=>by simp[Ord.tks]
 |k+1,h=>by
  rw[tks_succ,List.length_append]
  have ih:=tks_len hk hpl k (by omega)
  have:(s.tkI (k:Nat) (pl.getD k 0)).length<=4:=by
   unfold Ord.tkI
   rcases hpl.2 k (by omega)with h|h
   ·rw[h];simp
   ·have hp:=isP_iff.1 h
    rw[if_neg (by omega),tkP_len]
    exact(br_le hk (piece_mem h)).1
  omega
theorem q100(s:Ord)(hk:OkO s)(pl:List Int)(hpl:PlO s pl):FnA Tryz.prog 100 [.agg s.cells, .isl (s.ft.map ftAV), .isl (pl.map jAV)] (· = s.tkAV pl):=by
 have l1:(s.ws.map Wish.av).length=s.ws.length:=by simp
 have l2:(s.ps.map Piece.av).length=s.ps.length:=by simp
 have l3:(pl.map jAV).length=pl.length:=by simp
 have l4:(s.ft.map ftAV).length=s.ps.length:=by simp[Ord.ft]
 have hw1:=hk.w1
 have hp1:=hk.p1
 have hcv:=hk.cv
 have hpl1:=hpl.1
 refine fnA 6 ok100 (by simp) ?_
 (conv=>whnf);(repeat'((first|apply bT|apply bF|apply bN|((first|apply bD|apply bEq|apply bNe)<;>intro hh<;>try(exfalso;omega))|refine wJ ?_|refine nJ ?_)<;>conv=>whnf))
 refine loop_i (α :=Nat) (fun k=>[(9, .int .i64 k),(8, .row 5),(3, .own 0 0),(2, .isl (pl.map jAV)),(1, .isl (s.ft.map ftAV))]) (fun k=>[.box false s.cells, .fresh, .fresh, .fresh, .fresh, .row false 174 2 ((s.tks pl k).map Tk.av)]) (fun k=>k<=pl.length/\s.tkOk pl k=true) (fun k=>pl.length-k) 0 (mN 5) ⟨by omega,rfl⟩ ?_
 rintro k ⟨hk0,hkb⟩
 conv=>whnf
 refine bD (fun h3=>?_) (fun h3=>?_)
 ·have hkl:k<pl.length:=by omega
  have gp:(pl.map jAV).getD k []=[.int .i64 (pl.getD k 0)]:=by rw[getM jAV pl k hkl];simp[List.getD_eq_getElem?_getD,hkl,jAV]
  have hsuc:=tks_succ s pl k
  have hosuc:=tkOk_succ s pl k
  have hole:=@tkOk_le s pl k pl.length
  have hlen:=tks_len hk hpl k (by omega)
  have hj:=hpl.2 k hkl
  generalize pl.getD k 0=j at gp hsuc hosuc hole hj
  by_cases hj0:j<0
  ·have h1:s.tks pl (k+1)=s.tks pl k:=by rw[hsuc];unfold Ord.tkI;rw[if_pos hj0,List.append_nil]
   have h2:s.tkOk pl (k+1)=true:=by rw[hosuc,hkb];unfold Ord.tkG;rw[decide_eq_true hj0];rfl
   (conv=>whnf);(repeat'((first|apply bT|apply bF|apply bN|((first|apply bD|apply bEq|apply bNe)<;>intro hh<;>try(exfalso;omega))|refine iaJ gp ?_|refine wJ ?_|refine nJ ?_)<;>conv=>whnf))
   refine⟨k+1,?_,⟨by omega,h2⟩,by omega⟩
   rw[h1]
   exact mI
  have hjp:s.isP j=true:=by
   rcases hj with h|h
   ·omega
   ·exact h
  have i2:=isP_iff.1 hjp
  have hi:s.isW (k:Nat)=true:=isW_iff.2 (by omega)
  have gw:=wget hi
  rw[show((k:Nat):Int).toNat=k by omega]at gw
  have gq:=pget hjp
  have gf:=ftget hjp
  have hwi:=hk.w2 _ (wish_mem hi)
  have hcs:(s.wish (k:Nat)).cs.length<=8/\0<=(s.wish (k:Nat)).due/\(s.wish (k:Nat)).due<=99:=by
   unfold okWi mark at hwi
   simp only[Bool.and_eq_true,decide_eq_true_eq]at hwi
   omega
  have hbr:(s.piece j).br.length<=4:=(br_le hk (piece_mem hjp)).1
  have lb:((s.piece j).br.map jAV).length=(s.piece j).br.length:=by simp
  have e1:=q80 (s.wish (k:Nat)) (s.piece j) (by omega)
  have htI:s.tks pl (k+1)=s.tks pl k++s.tkP (k:Nat) j:=by rw[hsuc];unfold Ord.tkI;rw[if_neg hj0]
  have hfl:(((s.ftP (s.piece j)).map fAV)).length=(s.piece j).br.length:=by simp[Ord.ftP]
  have hby:∀q,suitV (s.wish (k:Nat)) (s.piece j)=q->s.by_ (k:Nat) j=(s.wish (k:Nat)).due-if q=2 then s.cv else 0:=fun q hq=>by unfold Ord.by_;rw[hq]
  rcases suit_val (s.wish (k:Nat)) (s.piece j)with h|h|h
  ·have hno:s.tkG (k:Nat) j=false:=by unfold Ord.tkG;rw[h,decide_eq_false hj0];rfl
   rw[tkAV_no (hole hno hkl)]
   rw[h]at e1
   (conv=>whnf);(repeat'((first|apply bT|apply bF|apply bN|((first|apply bD|apply bEq|apply bNe)<;>intro hh<;>try(exfalso;omega))|refine iaJ gp ?_|refine iaJ gw ?_|refine iaJ gp ?_|refine iaJ gq ?_|refine e1.cq rfl rfl ?_|refine wJ ?_|refine nJ ?_)<;>conv=>whnf))
   all_goals rfl
  ·have hb:=hby _ h
   rw[if_neg (by omega)]at hb
   rw[Int.sub_zero]at hb
   rw[h]at e1
   have hyes:s.tkG (k:Nat) j=true:=by unfold Ord.tkG;rw[h,hb,decide_eq_true (show 0<=(s.wish (k:Nat)).due by omega)];simp
   have h2:s.tkOk pl (k+1)=true:=by rw[hosuc,hkb,hyes];rfl
   (conv=>whnf);(repeat'((first|apply bT|apply bF|apply bN|((first|apply bD|apply bEq|apply bNe)<;>intro hh<;>try(exfalso;omega))|refine iaJ gp ?_|refine iaJ gw ?_|refine iaJ gp ?_|refine iaJ gq ?_|refine e1.cq rfl rfl ?_|refine wJ ?_|refine nJ ?_)<;>conv=>whnf))
   refine loop_i (α :=Nat × List (List AV)) (fun q=>[(13, .int .i64 q.1),(12, .int .i64 ((s.wish (k:Nat)).due)),(11, .own 2 0),(9, .int .i64 k),(8, .row 5),(3, .own 0 0),(2, .isl (pl.map jAV)),(1, .isl (s.ft.map ftAV))]) (fun q=>[.box false s.cells, .fresh, .box false (s.piece j).av, .fresh, .fresh, .row false 174 2 q.2]) (fun q=>q.1<=(s.piece j).br.length/\q.2=(s.tks pl k++(s.tkP (k:Nat) j).take q.1).map Tk.av) (fun q=>(s.piece j).br.length-q.1) (0,(s.tks pl k).map Tk.av) mI ⟨by simp,by simp⟩ ?_
   rintro⟨m,L⟩ ⟨hm0,hL⟩
   dsimp only at hm0 hL⊢
   conv=>whnf
   refine bD (fun h4=>?_) (fun h4=>?_)
   ·have hml:m<(s.piece j).br.length:=by omega
    have hsu2:=tkP_succ (s:=s) (i:=(k:Nat)) hml
    have gm:((s.ftP (s.piece j)).map fAV).getD m []=fAV (s.fitL ((s.piece j).mkr,(s.piece j).br[m])):=by
     rw[getM fAV _ m (by rw[List.length_map]at hfl;omega)]
     simp[Ord.ftP]
    have lL:L.length<=1000:=by rw[hL,List.length_map,List.length_append,List.length_take,tkP_len];omega
    have hm:(s.tks pl k++(s.tkP (k:Nat) j).take (m+1)).map Tk.av=L++[Tk.av ⟨(s.wish (k:Nat)).due,s.fitL ((s.piece j).mkr,(s.piece j).br[m])⟩]:=by rw[hL,List.map_append,hsu2,List.map_append,List.append_assoc,hb]
    (conv=>whnf);(repeat'((first|apply bT|apply bF|apply bN|((first|apply bD|apply bEq|apply bNe)<;>intro hh<;>try(exfalso;omega))|refine iaJ gp ?_|refine iaJ gf ?_|refine iaJ gm ?_|refine wJ ?_|refine nJ ?_)<;>conv=>whnf))
    refine apJ ?_
    (conv=>whnf);(repeat'((first|apply bT|apply bF|apply bN|((first|apply bD|apply bEq|apply bNe)<;>intro hh<;>try(exfalso;omega))|refine wJ ?_|refine nJ ?_)<;>conv=>whnf))
    exact⟨(m+1,L++[Tk.av ⟨(s.wish (k:Nat)).due,s.fitL ((s.piece j).mkr,(s.piece j).br[m])⟩]),(mR 5 4),⟨by dsimp only;omega,hm.symm⟩,by dsimp only;omega⟩
   ·have:m=(s.piece j).br.length:=by omega
    subst this
    rw[List.take_of_length_le (by rw[tkP_len];exact Nat.le_refl _),<- htI]at hL
    (conv=>whnf);(repeat'((first|apply bT|apply bF|apply bN|((first|apply bD|apply bEq|apply bNe)<;>intro hh<;>try(exfalso;omega))|refine wJ ?_|refine nJ ?_)<;>conv=>whnf))
    refine⟨k+1,?_,⟨by omega,h2⟩,by omega⟩
    rw[<- hL]
    exact mI
  ·have hb:=hby _ h
   rw[if_pos rfl]at hb
   rw[h]at e1
   by_cases hb0:0<=(s.wish (k:Nat)).due-s.cv
   case neg=>
    have hno:s.tkG (k:Nat) j=false:=by unfold Ord.tkG;rw[hb,decide_eq_false hb0,decide_eq_false hj0];simp
    rw[tkAV_no (hole hno hkl)]
    (conv=>whnf);(repeat'((first|apply bT|apply bF|apply bN|((first|apply bD|apply bEq|apply bNe)<;>intro hh<;>try(exfalso;omega))|refine iaJ gp ?_|refine iaJ gw ?_|refine iaJ gp ?_|refine iaJ gq ?_|refine e1.cq rfl rfl ?_|refine wJ ?_|refine nJ ?_)<;>conv=>whnf))
    all_goals rfl
   have hyes:s.tkG (k:Nat) j=true:=by unfold Ord.tkG;rw[h,hb,decide_eq_true (show 0<=(s.wish (k:Nat)).due-s.cv by omega)];simp
   have h2:s.tkOk pl (k+1)=true:=by rw[hosuc,hkb,hyes];rfl
   (conv=>whnf);(repeat'((first|apply bT|apply bF|apply bN|((first|apply bD|apply bEq|apply bNe)<;>intro hh<;>try(exfalso;omega))|refine iaJ gp ?_|refine iaJ gw ?_|refine iaJ gp ?_|refine iaJ gq ?_|refine e1.cq rfl rfl ?_|refine wJ ?_|refine nJ ?_)<;>conv=>whnf))
   refine loop_i (α :=Nat × List (List AV)) (fun q=>[(13, .int .i64 q.1),(12, .int .i64 ((s.wish (k:Nat)).due-s.cv)),(11, .own 2 0),(9, .int .i64 k),(8, .row 5),(3, .own 0 0),(2, .isl (pl.map jAV)),(1, .isl (s.ft.map ftAV))]) (fun q=>[.box false s.cells, .fresh, .box false (s.piece j).av, .fresh, .fresh, .row false 174 2 q.2]) (fun q=>q.1<=(s.piece j).br.length/\q.2=(s.tks pl k++(s.tkP (k:Nat) j).take q.1).map Tk.av) (fun q=>(s.piece j).br.length-q.1) (0,(s.tks pl k).map Tk.av) mI ⟨by simp,by simp⟩ ?_
   rintro⟨m,L⟩ ⟨hm0,hL⟩
   dsimp only at hm0 hL⊢
   conv=>whnf
   refine bD (fun h4=>?_) (fun h4=>?_)
   ·have hml:m<(s.piece j).br.length:=by omega
    have hsu2:=tkP_succ (s:=s) (i:=(k:Nat)) hml
    have gm:((s.ftP (s.piece j)).map fAV).getD m []=fAV (s.fitL ((s.piece j).mkr,(s.piece j).br[m])):=by
     rw[getM fAV _ m (by rw[List.length_map]at hfl;omega)]
     simp[Ord.ftP]
    have lL:L.length<=1000:=by rw[hL,List.length_map,List.length_append,List.length_take,tkP_len];omega
    have hm:(s.tks pl k++(s.tkP (k:Nat) j).take (m+1)).map Tk.av=L++[Tk.av ⟨(s.wish (k:Nat)).due-s.cv,s.fitL ((s.piece j).mkr,(s.piece j).br[m])⟩]:=by rw[hL,List.map_append,hsu2,List.map_append,List.append_assoc,hb]
    (conv=>whnf);(repeat'((first|apply bT|apply bF|apply bN|((first|apply bD|apply bEq|apply bNe)<;>intro hh<;>try(exfalso;omega))|refine iaJ gp ?_|refine iaJ gf ?_|refine iaJ gm ?_|refine wJ ?_|refine nJ ?_)<;>conv=>whnf))
    refine apJ ?_
    (conv=>whnf);(repeat'((first|apply bT|apply bF|apply bN|((first|apply bD|apply bEq|apply bNe)<;>intro hh<;>try(exfalso;omega))|refine wJ ?_|refine nJ ?_)<;>conv=>whnf))
    exact⟨(m+1,L++[Tk.av ⟨(s.wish (k:Nat)).due-s.cv,s.fitL ((s.piece j).mkr,(s.piece j).br[m])⟩]),(mR 5 4),⟨by dsimp only;omega,hm.symm⟩,by dsimp only;omega⟩
   ·have:m=(s.piece j).br.length:=by omega
    subst this
    rw[List.take_of_length_le (by rw[tkP_len];exact Nat.le_refl _),<- htI]at hL
    (conv=>whnf);(repeat'((first|apply bT|apply bF|apply bN|((first|apply bD|apply bEq|apply bNe)<;>intro hh<;>try(exfalso;omega))|refine wJ ?_|refine nJ ?_)<;>conv=>whnf))
    refine⟨k+1,?_,⟨by omega,h2⟩,by omega⟩
    rw[<- hL]
    exact mI
 ·have:k=pl.length:=by omega
  subst this
  unfold Ord.tkAV
  rw[if_pos hkb]
  (conv=>whnf);(repeat'((first|apply bT|apply bF|apply bN|((first|apply bD|apply bEq|apply bNe)<;>intro hh<;>try(exfalso;omega))|refine wJ ?_|refine nJ ?_)<;>conv=>whnf))
  all_goals rfl
def Dlv.one(d:Dlv):Dlv:=⟨d.day,d.sp,d.many-1⟩
def dlAV(l:List Dlv):List AV:=[.isl (l.map Dlv.av)]
def zD:Dlv:=⟨0,0,0⟩
def gB(t:Tk)(ds:List Dlv)(k:Nat):Bool:=decide (0<(ds.getD k zD).many)&&(decide ((ds.getD k zD).day<=t.by_)&&decide ((ds.getD k zD).sp∈t.sp))
def gS(ds:List Dlv)(k:Nat):List Dlv:=ds.set k (ds.getD k zD).one
def givK(t:Tk)(ds:List Dlv)(k:Nat):List (List Dlv):=((List.range k).filter (gB t ds)).map (gS ds)
def giv(t:Tk)(ds:List Dlv):List (List Dlv):=givK t ds ds.length
theorem givK_yes{t:Tk}{ds:List Dlv}{k:Nat}(h:gB t ds k=true):givK t ds (k+1)=givK t ds k++[gS ds k]:=by
 unfold givK;rw[List.range_succ,List.filter_append,List.map_append];simp[h]
theorem givK_no{t:Tk}{ds:List Dlv}{k:Nat}(h:gB t ds k=false):givK t ds (k+1)=givK t ds k:=by
 unfold givK;rw[List.range_succ,List.filter_append,List.map_append];simp[h]
theorem givK_len(t:Tk)(ds:List Dlv)(k:Nat):(givK t ds k).length<=k:=by
 unfold givK;have:=List.length_filter_le (gB t ds) (List.range k);simpa using this
structure DsO(ds:List Dlv):Prop where
 l:ds.length<=100
 b:∀d∈ds,0<=d.many/\d.many<=10
theorem gS_ok{ds:List Dlv}{k:Nat}(h:DsO ds)(hk:k<ds.length)(hm:0<(ds.getD k zD).many):DsO (gS ds k):=by
 refine⟨by unfold gS;rw[List.length_set];exact h.l,fun d hd=>?_⟩
 unfold gS at hd
 rcases List.mem_or_eq_of_mem_set hd with h1|h1
 ·exact h.b d h1
 ·subst h1
  have e:ds.getD k zD=ds[k]:=by simp[List.getD_eq_getElem?_getD,hk]
  rw[e]at hm⊢
  have:=h.b _ (List.getElem_mem hk)
  simp only[Dlv.one];omega
theorem giv_mem{t:Tk}{ds:List Dlv}{r:List Dlv}:r∈giv t ds<->∃k,k<ds.length/\gB t ds k=true/\r=gS ds k:=by
 unfold giv givK
 simp only[List.mem_map,List.mem_filter,List.mem_range]
 constructor
 ·rintro⟨k,⟨h1,h2⟩,rfl⟩;exact⟨k,h1,h2,rfl⟩
 ·rintro⟨k,h1,h2,rfl⟩;exact⟨k,⟨h1,h2⟩,rfl⟩
theorem gB_pos{t:Tk}{ds:List Dlv}{k:Nat}(h:gB t ds k=true):0<(ds.getD k zD).many:=by
 unfold gB at h;simp only[Bool.and_eq_true,decide_eq_true_eq]at h;exact h.1
theorem giv_ok{t:Tk}{ds:List Dlv}(h:DsO ds):∀r∈giv t ds,DsO r:=fun r hr=>by
 obtain⟨k,h1,h2,rfl⟩:=giv_mem.1 hr
 exact gS_ok h h1 (gB_pos h2)
theorem q134(t:Tk)(ds:List Dlv)(hd:DsO ds)(ht:t.sp.length<=1000000):FnA Tryz.prog 134 [.agg t.av, .isl (ds.map Dlv.av)] (· = .isl ((giv t ds).map dlAV)):=by
 have l1:(ds.map Dlv.av).length=ds.length:=by simp
 have l2:(([]:List (List AV))++ds.map Dlv.av).length=ds.length:=by simp
 have hl:=hd.l
 refine fnA 6 ok134 (by simp) ?_
 (conv=>whnf);(repeat'((first|apply bT|apply bF|apply bN|((first|apply bD|apply bEq|apply bNe)<;>intro hh<;>try(exfalso;omega))|refine wJ ?_|refine nJ ?_)<;>conv=>whnf))
 refine loop_i (α :=Nat) (fun k=>[(6, .int .i64 k),(5, .row 5),(2, .own 0 0),(1, .isl (ds.map Dlv.av))]) (fun k=>[.box false t.av, .fresh, .fresh, .fresh, .fresh, .row false 30 1 ((givK t ds k).map dlAV)]) (fun k=>k<=ds.length) (fun k=>ds.length-k) 0 (mN 5) (by omega) ?_
 intro k hk0
 conv=>whnf
 refine bD (fun h3=>?_) (fun h3=>?_)
 ·have hkl:k<ds.length:=by omega
  have e:ds.getD k zD=ds[k]:=by simp[List.getD_eq_getElem?_getD,hkl]
  have g1:(ds.map Dlv.av).getD k []=(ds.getD k zD).av:=by rw[e];exact oget Dlv.av ds hkl
  have hb:=hd.b _ (List.getElem_mem hkl)
  rw[<- e]at hb
  have hs:(gS ds k).map Dlv.av=(ds.map Dlv.av).set k (ds.getD k zD).one.av:=by unfold gS;rw[List.map_set]
  have hyes:=@givK_yes t ds k
  have hno:=@givK_no t ds k
  have lk:=givK_len t ds k
  have lm:((givK t ds k).map dlAV).length=(givK t ds k).length:=by simp
  have hgb:gB t ds k=(decide (0<(ds.getD k zD).many)&&(decide ((ds.getD k zD).day<=t.by_)&&decide ((ds.getD k zD).sp∈t.sp))):=rfl
  have e1:=p51 t.sp (ds.getD k zD).sp ht
  generalize ds.getD k zD=d at g1 hb hs hgb e1
  have fin:gB t ds k=false->(givK t ds (k+1)).map dlAV=(givK t ds k).map dlAV:=fun h=>by rw[hno h]
  by_cases c1:0<d.many
  case neg=>
   have hm:=fin (by rw[hgb,decide_eq_false c1];rfl)
   (conv=>whnf);(repeat'((first|apply bT|apply bF|apply bN|((first|apply bD|apply bEq|apply bNe)<;>intro hh<;>try(exfalso;omega))|refine iaJ g1 ?_|refine wJ ?_|refine nJ ?_)<;>conv=>whnf))
   refine⟨k+1,?_,by omega,by omega⟩
   simp only[hm]
   exact mI
  by_cases c2:d.day<=t.by_
  case neg=>
   have hm:=fin (by rw[hgb,decide_eq_false c2];simp)
   (conv=>whnf);(repeat'((first|apply bT|apply bF|apply bN|((first|apply bD|apply bEq|apply bNe)<;>intro hh<;>try(exfalso;omega))|refine iaJ g1 ?_|refine wJ ?_|refine nJ ?_)<;>conv=>whnf))
   refine⟨k+1,?_,by omega,by omega⟩
   simp only[hm]
   exact mI
  by_cases c3:d.sp∈t.sp
  case neg=>
   have hm:=fin (by rw[hgb,decide_eq_false c3];simp)
   rw[decide_eq_false c3]at e1
   (conv=>whnf);(repeat'((first|apply bT|apply bF|apply bN|((first|apply bD|apply bEq|apply bNe)<;>intro hh<;>try(exfalso;omega))|refine iaJ g1 ?_|refine e1.cq rfl rfl ?_|refine wJ ?_|refine nJ ?_)<;>conv=>whnf))
   refine⟨k+1,?_,by omega,by omega⟩
   simp only[hm]
   exact mI
  have hm:(givK t ds (k+1)).map dlAV=(givK t ds k).map dlAV++[[.isl ((ds.map Dlv.av).set k d.one.av)]]:=by
   rw[hyes (by rw[hgb,decide_eq_true c1,decide_eq_true c2,decide_eq_true c3];rfl),List.map_append,<- hs];rfl
  rw[decide_eq_true c3]at e1
  (conv=>whnf);(repeat'((first|apply bT|apply bF|apply bN|((first|apply bD|apply bEq|apply bNe)<;>intro hh<;>try(exfalso;omega))|refine iaJ g1 ?_|refine e1.cq rfl rfl ?_|(refine apI (dl_one ds) (by simp only[l1,List.length_nil];omega) ?_)|refine wJ ?_|refine nJ ?_)<;>conv=>whnf))
  refine apJ ?_
  (conv=>whnf);(repeat'((first|apply bT|apply bF|apply bN|((first|apply bD|apply bEq|apply bNe)<;>intro hh<;>try(exfalso;omega))|refine wJ ?_|refine nJ ?_)<;>conv=>whnf))
  refine⟨k+1,?_,by omega,by omega⟩
  simp only[hm]
  exact(mR 5 4)
 ·have:k=ds.length:=by omega
  subst this
  (conv=>whnf);(repeat'((first|apply bT|apply bF|apply bN|((first|apply bD|apply bEq|apply bNe)<;>intro hh<;>try(exfalso;omega))|refine wJ ?_|refine nJ ?_)<;>conv=>whnf))
  all_goals rfl
def doesB:List Tk->List Dlv->Bool
 | [],_=>true
 |t::l,ds=>(giv t ds).any (doesB l)
structure TkO(l:List Tk):Prop where
 ln:l.length<=1000
 s:∀t∈l,t.sp.length<=1000000
theorem tk_one(l:List Tk):∀e∈l.map Tk.av,e.length=2:=fun e he=>by
 obtain⟨x,_,rfl⟩:=List.mem_map.1 he;rfl
theorem any_take{α : Type}{p : α -> Bool}{l:List α}{k:Nat}(hk:k<l.length)(h:(l.take k).any p=false)(h1:p l[k]=false):(l.take (k+1)).any p=false:=by
 rw[List.take_succ_eq_append_getElem hk,List.any_append,h];simp[h1]
theorem q101:∀(l:List Tk) (ds:List Dlv),TkO l->DsO ds->FnA Tryz.prog 101 [.isl (l.map Tk.av), .isl (ds.map Dlv.av)] (· = .bool (doesB l ds))
 | [],ds,hl,hd=>by
  refine fnA 1 ok101 (by simp) ?_
  (conv=>whnf);(repeat'((first|apply bT|apply bF|apply bN|((first|apply bD|apply bEq|apply bNe)<;>intro hh<;>try(exfalso;omega))|refine wJ ?_|refine nJ ?_)<;>conv=>whnf))
  all_goals rfl
 |t::l,ds,hl,hd=>by
  have hl':TkO l:=⟨by have:=hl.ln;simp at this;omega,fun x hx=>hl.s x (by simp[hx])⟩
  have ih:=fun r (hr:r∈giv t ds)=>q101 l r hl' (giv_ok hd r hr)
  have e1:=q134 t ds hd (hl.s t (by simp))
  have l1:((t::l).map Tk.av).length=l.length+1:=by simp
  have hll:=hl'.ln
  have g0:((t::l).map Tk.av).getD 0 []=t.av:=rfl
  have hone:=tk_one (t::l)
  have hsl:(((t::l).map Tk.av).take ((((t::l).map Tk.av).length:Int)).toNat).drop (1:Int).toNat=l.map Tk.av:=by
   rw[List.take_of_length_le (by omega)];rfl
  have hdo:doesB (t::l) ds=(giv t ds).any (doesB l):=rfl
  rw[hdo]
  have hlen:=givK_len t ds ds.length
  have hdl:=hd.l
  have hlen:(giv t ds).length<=100:=Nat.le_trans hlen hdl
  generalize giv t ds=R at ih e1 hlen
  have l2:(R.map dlAV).length=R.length:=by simp
  generalize hM:(t::l).map Tk.av=M at l1 g0 hone hsl
  refine fnA 1 ok101 (by simp) ?_
  (conv=>whnf);(repeat'((first|apply bT|apply bF|apply bN|((first|apply bD|apply bEq|apply bNe)<;>intro hh<;>try(exfalso;omega))|refine iaJ g0 ?_|refine e1.zq rfl rfl ?_|refine wJ ?_|refine nJ ?_)<;>conv=>whnf))
  refine loop_i (α :=Nat) (fun k=>[(6, .int .i64 k),(5, .isl (R.map dlAV)),(0, .isl M)]) (fun k=>[.fresh]) (fun k=>k<=R.length/\(R.take k).any (doesB l)=false) (fun k=>R.length-k) 0 mI ⟨by omega,rfl⟩ ?_
  rintro k ⟨hk0,hkb⟩
  conv=>whnf
  refine bD (fun h3=>?_) (fun h3=>?_)
  ·have hkl:k<R.length:=by omega
   have g1:=getM dlAV R k hkl
   have e2:=ih R[k] (List.getElem_mem hkl)
   cases hv:doesB l R[k]with
   |true=>
    rw[hv]at e2
    have hT:R.any (doesB l)=true:=List.any_eq_true.2 ⟨_,List.getElem_mem hkl,hv⟩
    rw[hT]
    (conv=>whnf);(repeat'((first|apply bT|apply bF|apply bN|((first|apply bD|apply bEq|apply bNe)<;>intro hh<;>try(exfalso;omega))|refine slI (by omega) (by omega) (by omega) hone hsl ?_|refine iaJ g1 ?_|refine e2.cq rfl rfl ?_|refine wJ ?_|refine nJ ?_)<;>conv=>whnf))
    all_goals rfl
   |false=>
    rw[hv]at e2
    have:=any_take hkl hkb hv
    (conv=>whnf);(repeat'((first|apply bT|apply bF|apply bN|((first|apply bD|apply bEq|apply bNe)<;>intro hh<;>try(exfalso;omega))|refine slI (by omega) (by omega) (by omega) hone hsl ?_|refine iaJ g1 ?_|refine e2.cq rfl rfl ?_|refine wJ ?_|refine nJ ?_)<;>conv=>whnf))
    exact⟨k+1,mI,⟨by omega,this⟩,by omega⟩
  ·have:k=R.length:=by omega
   subst this
   rw[List.take_length]at hkb
   rw[hkb]
   (conv=>whnf);(repeat'((first|apply bT|apply bF|apply bN|((first|apply bD|apply bEq|apply bNe)<;>intro hh<;>try(exfalso;omega))|refine wJ ?_|refine nJ ?_)<;>conv=>whnf))
   all_goals rfl
theorem sup2_ok{s:Ord}(hk:OkO s):DsO s.sup2:=by
 have h1:=hk.st1
 have h2:=hk.w.s1
 have h3:=hk.d1
 refine⟨by unfold Ord.sup2;rw[List.length_append,stD_len];omega,fun d hd=>?_⟩
 unfold Ord.sup2 stD at hd
 rcases List.mem_append.1 hd with h|h
 ·have:=hk.d2 _ h
  unfold okDl at this
  simp only[Bool.and_eq_true,decide_eq_true_eq]at this
  omega
 ·obtain⟨i,hi,rfl⟩:=List.mem_map.1 h
  have hi:=List.mem_range.1 hi
  exact hk.st2 _ (by simp[List.getD_eq_getElem?_getD,hi])
theorem tks_ok{s:Ord}(hk:OkO s){pl:List Int}(hpl:PlO s pl):TkO (s.tks pl pl.length):=by
 have hw:=hk.w1
 have h0:=hpl.1
 refine⟨by have:=tks_len hk hpl _ (Nat.le_refl _);omega,fun t ht=>?_⟩
 unfold Ord.tks at ht
 obtain⟨i,_,h⟩:=List.mem_flatMap.1 ht
 unfold Ord.tkI at h
 split at h
 ·cases h
 ·unfold Ord.tkP Ord.ftP at h
  obtain⟨l,hl,rfl⟩:=List.mem_map.1 h
  obtain⟨k,_,rfl⟩:=List.mem_map.1 hl
  have:=fitL_len s ((s.piece (pl.getD i 0)).mkr,k)
  have:=hk.st1
  have:=hk.w.s1
  show(s.fitL ((s.piece (pl.getD i 0)).mkr,k)).length<=1000000
  omega
def Ord.fillB(s:Ord)(pl:List Int):Bool:=s.tkOk pl pl.length&&doesB (s.tks pl pl.length) s.sup2
theorem q59(s:Ord)(hk:OkO s)(pl:List Int)(hpl:PlO s pl):FnA Tryz.prog 59 [.agg s.cells, .isl (s.ft.map ftAV), .isl (pl.map jAV)] (· = .bool (s.fillB pl)):=by
 have e1:=q100 s hk pl hpl
 have e2:=w102 s (by have:=hk.st1;have:=hk.w.s1;omega) (by have:=hk.d1;omega)
 have e3:=q101 (s.tks pl pl.length) s.sup2 (tks_ok hk hpl) (sup2_ok hk)
 unfold Ord.tkAV at e1
 unfold Ord.fillB
 refine fnA 3 ok59 (by simp) ?_
 cases h:s.tkOk pl pl.length with
 |true=>
  rw[h,if_pos rfl]at e1
  (conv=>whnf);(repeat'((first|apply bT|apply bF|apply bN|((first|apply bD|apply bEq|apply bNe)<;>intro hh<;>try(exfalso;omega))|refine e1.zq rfl rfl ?_|refine e2.zq rfl rfl ?_|refine e3.cq rfl rfl ?_|refine wJ ?_|refine nJ ?_)<;>conv=>whnf))
  all_goals rfl
 |false=>
  rw[h,if_neg (by simp)]at e1
  (conv=>whnf);(repeat'((first|apply bT|apply bF|apply bN|((first|apply bD|apply bEq|apply bNe)<;>intro hh<;>try(exfalso;omega))|refine e1.zq rfl rfl ?_|refine e2.zq rfl rfl ?_|refine e3.cq rfl rfl ?_|refine wJ ?_|refine nJ ?_)<;>conv=>whnf))
  all_goals rfl
def Ord.rcanK(s:Ord)(i:Int)(k:Nat):List Int:=((List.range k).filter fun p:Nat=>s.fillB (aloneL s.ws.length i (p:Nat))).map fun p:Nat=>(p:Int)
def Ord.rcan(s:Ord)(i:Int):List Int:=s.rcanK i s.ps.length
theorem rcanK_yes{s:Ord}{i:Int}{k:Nat}(h:s.fillB (aloneL s.ws.length i (k:Nat))=true):s.rcanK i (k+1)=s.rcanK i k++[(k:Int)]:=by
 unfold Ord.rcanK;rw[List.range_succ,List.filter_append,List.map_append];simp[h]
theorem rcanK_no{s:Ord}{i:Int}{k:Nat}(h:s.fillB (aloneL s.ws.length i (k:Nat))=false):s.rcanK i (k+1)=s.rcanK i k:=by
 unfold Ord.rcanK;rw[List.range_succ,List.filter_append,List.map_append];simp[h]
theorem rcanK_len(s:Ord)(i:Int)(k:Nat):(s.rcanK i k).length<=k:=by
 unfold Ord.rcanK;have:=List.length_filter_le (fun p:Nat=>s.fillB (aloneL s.ws.length i (p:Nat))) (List.range k);simpa using this
theorem alone_get(n:Nat)(i p:Int){k:Nat}(hk:k<n)(hi:0<=i):(aloneL n i p).getD k 0=if (k:Int)=i then p else -1:=by
 unfold aloneL
 rw[List.getD_eq_getElem?_getD,List.getElem?_set,List.getElem?_replicate]
 by_cases h:(k:Int)=i
 ·have:i.toNat=k:=by omega
  simp[this,h,hk]
 ·have:i.toNat≠k:=by omega
  simp[this,h,hk]
theorem alone_len(n:Nat)(i p:Int):(aloneL n i p).length=n:=by simp[aloneL]
theorem pi_one(l:List Piece):∀e∈l.map Piece.av,e.length=5/\e.all AV.one=true:=fun e he=>by
 obtain⟨x,_,rfl⟩:=List.mem_map.1 he;simp[Piece.av,AV.one]
theorem wi_one(l:List Wish):∀e∈l.map Wish.av,e.length=6/\e.all AV.one=true:=fun e he=>by
 obtain⟨x,_,rfl⟩:=List.mem_map.1 he;simp[Wish.av,AV.one]
theorem map_set_same{α : Type}(f : α -> List AV)(l:List α){k:Nat}(hk:k<l.length):(l.map f).set k (f l[k])=l.map f:=by
 apply List.ext_getElem (by simp)
 intro n h5 h6
 rw[List.getElem_set]
 split
 ·rename_i e;subst e;simp
 ·rfl
def zO:List AV:=[.nils, .nils, .int .i64 0, .nils, .nils, .nils, .nils, .nils, .int .i64 0]
def Ord.cpy(s:Ord):List AV:=[.isl (s.w.sps.map Spare.av), .isl (s.w.mks.map mkAV), .int .i64 s.w.cut, .isl (s.w.tb.map Trial.av), .row 7, .row 9, .row 11, .row 13, .int .i64 s.cv]
theorem q24(s:Ord)(hB:BigO s):FnA Tryz.prog 24 [.agg s.cells] (· = .agg s.cells):=by
 have e1:=p16 s.w hB.w
 rw[wcells]at e1
 have l1:(s.st.map jAV).length=s.st.length:=by simp
 have l2:(s.ps.map Piece.av).length=s.ps.length:=by simp
 have l3:(s.ws.map Wish.av).length=s.ws.length:=by simp
 have l4:(s.ds.map Dlv.av).length=s.ds.length:=by simp
 have l2':(([]:List (List AV))++s.ps.map Piece.av).length=s.ps.length:=by simp
 have l3':(([]:List (List AV))++s.ws.map Wish.av).length=s.ws.length:=by simp
 have h1:=hB.st
 have h2:=hB.ps
 have h3:=hB.ws
 have h4:=hB.ds
 refine fnA 18 ok24 (by simp) ?_
 (conv=>whnf);(repeat'((first|apply bT|apply bF|apply bN|((first|apply bD|apply bEq|apply bNe)<;>intro hh<;>try(exfalso;omega))|refine e1.zq rfl rfl ?_|(refine apI (j_one s.st) (by simp only[l1,List.length_nil];omega) ?_)|(refine apI (pi_one s.ps) (by simp only[l2,List.length_nil];omega) ?_)|(refine apI (wi_one s.ws) (by simp only[l3,List.length_nil];omega) ?_)|(refine apI (dl_one s.ds) (by simp only[l4,List.length_nil];omega) ?_)|refine wJ ?_|refine nJ ?_)<;>conv=>whnf))
 refine loop_i (α :=Nat × List (List AV)) (fun q=>[(4, .int .i64 q.1),(3, .own 2 0),(2, .own 1 0),(1, .own 0 0)]) (fun q=>[.box false s.cells, .box false zO, .box false s.cpy, .fresh, .fresh, .fresh, .fresh, .row false 3 1 ([]++s.st.map jAV), .fresh, .row false 57 5 q.2, .fresh, .row false 54 6 ([]++s.ws.map Wish.av), .fresh, .row false 45 3 ([]++s.ds.map Dlv.av), .fresh, .fresh, .fresh, .fresh]) (fun q=>q.1<=s.ps.length/\q.2=s.ps.map Piece.av) (fun q=>s.ps.length-q.1) (0,[]++s.ps.map Piece.av) mI ⟨by simp,rfl⟩ ?_
 rintro⟨k,L⟩ ⟨hk0,hL⟩
 dsimp only at hk0 hL⊢
 subst hL
 conv=>whnf
 refine bD (fun h5=>?_) (fun h5=>?_)
 ·have hkl:k<s.ps.length:=by omega
  have g1:=getM Piece.av s.ps k hkl
  have hbr:=hB.br _ (List.getElem_mem hkl)
  have l5:(s.ps[k].br.map jAV).length=s.ps[k].br.length:=by simp
  have hset:=map_set_same Piece.av s.ps hkl
  (conv=>whnf);(repeat'((first|apply bT|apply bF|apply bN|((first|apply bD|apply bEq|apply bNe)<;>intro hh<;>try(exfalso;omega))|refine iaJ g1 ?_|(refine apI (j_one s.ps[k].br) (by simp only[l5,List.length_nil];omega) ?_)|refine wJ ?_|refine nJ ?_)<;>conv=>whnf))
  exact⟨(k+1,(s.ps.map Piece.av).set k (s.ps[k]).av),mI,⟨by dsimp only;omega,hset⟩,by dsimp only;omega⟩
 ·have:k=s.ps.length:=by omega
  subst this
  (conv=>whnf);(repeat'((first|apply bT|apply bF|apply bN|((first|apply bD|apply bEq|apply bNe)<;>intro hh<;>try(exfalso;omega))|refine wJ ?_|refine nJ ?_)<;>conv=>whnf))
  refine loop_i (α :=Nat × List (List AV)) (fun q=>[(5, .int .i64 q.1),(3, .own 2 0),(2, .own 1 0),(1, .own 0 0)]) (fun q=>[.box false s.cells, .box false zO, .box false s.cpy, .fresh, .fresh, .fresh, .fresh, .row false 3 1 ([]++s.st.map jAV), .fresh, .row false 57 5 (s.ps.map Piece.av), .fresh, .row false 54 6 q.2, .fresh, .row false 45 3 ([]++s.ds.map Dlv.av), .fresh, .fresh, .fresh, .fresh]) (fun q=>q.1<=s.ws.length/\q.2=s.ws.map Wish.av) (fun q=>s.ws.length-q.1) (0,[]++s.ws.map Wish.av) mI ⟨by simp,rfl⟩ ?_
  rintro⟨k,L⟩ ⟨hk0,hL⟩
  dsimp only at hk0 hL⊢
  subst hL
  conv=>whnf
  refine bD (fun h5=>?_) (fun h5=>?_)
  ·have hkl:k<s.ws.length:=by omega
   have g1:=getM Wish.av s.ws k hkl
   have hbr:=hB.cs _ (List.getElem_mem hkl)
   have l5:(s.ws[k].cs.map jAV).length=s.ws[k].cs.length:=by simp
   have hset:=map_set_same Wish.av s.ws hkl
   (conv=>whnf);(repeat'((first|apply bT|apply bF|apply bN|((first|apply bD|apply bEq|apply bNe)<;>intro hh<;>try(exfalso;omega))|refine iaJ g1 ?_|(refine apI (j_one s.ws[k].cs) (by simp only[l5,List.length_nil];omega) ?_)|refine wJ ?_|refine nJ ?_)<;>conv=>whnf))
   exact⟨(k+1,(s.ws.map Wish.av).set k (s.ws[k]).av),mI,⟨by dsimp only;omega,hset⟩,by dsimp only;omega⟩
  ·have:k=s.ws.length:=by omega
   subst this
   (conv=>whnf);(repeat'((first|apply bT|apply bF|apply bN|((first|apply bD|apply bEq|apply bNe)<;>intro hh<;>try(exfalso;omega))|refine wJ ?_|refine nJ ?_)<;>conv=>whnf))
   all_goals rfl
theorem sameI{l:List Int}(h:l.length<=1000000):FnA Tryz.prog 36 [.isl (l.map jAV), .isl (l.map jAV)] (· = .bool true):=by
 have:=q36 l l h
 rw[decide_eq_true rfl]at this
 exact this
theorem q37(s:Ord)(hB:BigO s):FnA Tryz.prog 37 [.agg s.cells, .agg s.cells] (· = .bool true):=by
 have l2:(s.ps.map Piece.av).length=s.ps.length:=by simp
 have l3:(s.ws.map Wish.av).length=s.ws.length:=by simp
 have l4:(s.ds.map Dlv.av).length=s.ds.length:=by simp
 have h1:=hB.st
 have h2:=hB.ps
 have h3:=hB.ws
 have h4:=hB.ds
 have e0:=sameI h1
 refine fnA 6 ok37 (by simp) ?_
 (conv=>whnf);(repeat'((first|apply bT|apply bF|apply bN|((first|apply bD|apply bEq|apply bNe)<;>intro hh<;>try(exfalso;omega))|refine e0.cq rfl rfl ?_|refine wJ ?_|refine nJ ?_)<;>conv=>whnf))
 refine loop_i (α :=Nat) (fun k=>[(5, .int .i64 k),(3, .own 1 0),(2, .own 0 0)]) (fun k=>[.box false s.cells, .box false s.cells, .fresh, .fresh, .fresh, .fresh]) (fun k=>k<=s.ps.length) (fun k=>s.ps.length-k) 0 mI (by omega) ?_
 intro k hk0
 conv=>whnf
 refine bD (fun h5=>?_) (fun h5=>?_)
 ·have hkl:k<s.ps.length:=by omega
  have g1:=getM Piece.av s.ps k hkl
  have e1:=sameI (hB.br _ (List.getElem_mem hkl))
  (conv=>whnf);(repeat'((first|apply bT|apply bF|apply bN|((first|apply bD|apply bEq|apply bNe)<;>intro hh<;>try(exfalso;omega))|refine iaJ g1 ?_|refine e1.cq rfl rfl ?_|(refine bKT ?_ ?_;(focus (simp;done)))|(refine bKF ?_ ?_;(focus (simp;done)))|refine wJ ?_|refine nJ ?_)<;>conv=>whnf))
  exact⟨k+1,mI,by omega,by omega⟩
 ·have:k=s.ps.length:=by omega
  subst this
  (conv=>whnf);(repeat'((first|apply bT|apply bF|apply bN|((first|apply bD|apply bEq|apply bNe)<;>intro hh<;>try(exfalso;omega))|refine wJ ?_|refine nJ ?_)<;>conv=>whnf))
  refine loop_i (α :=Nat) (fun k=>[(8, .int .i64 k),(3, .own 1 0),(2, .own 0 0)]) (fun k=>[.box false s.cells, .box false s.cells, .fresh, .fresh, .fresh, .fresh]) (fun k=>k<=s.ws.length) (fun k=>s.ws.length-k) 0 mI (by omega) ?_
  intro k hk0
  conv=>whnf
  refine bD (fun h5=>?_) (fun h5=>?_)
  ·have hkl:k<s.ws.length:=by omega
   have g1:=getM Wish.av s.ws k hkl
   have e1:=sameI (hB.cs _ (List.getElem_mem hkl))
   (conv=>whnf);(repeat'((first|apply bT|apply bF|apply bN|((first|apply bD|apply bEq|apply bNe)<;>intro hh<;>try(exfalso;omega))|refine iaJ g1 ?_|refine e1.cq rfl rfl ?_|(refine bKT ?_ ?_;(focus (simp;done)))|(refine bKF ?_ ?_;(focus (simp;done)))|refine wJ ?_|refine nJ ?_)<;>conv=>whnf))
   exact⟨k+1,mI,by omega,by omega⟩
  ·have:k=s.ws.length:=by omega
   subst this
   (conv=>whnf);(repeat'((first|apply bT|apply bF|apply bN|((first|apply bD|apply bEq|apply bNe)<;>intro hh<;>try(exfalso;omega))|refine wJ ?_|refine nJ ?_)<;>conv=>whnf))
   refine loop_i (α :=Nat) (fun k=>[(11, .int .i64 k),(3, .own 1 0),(2, .own 0 0)]) (fun k=>[.box false s.cells, .box false s.cells, .fresh, .fresh, .fresh, .fresh]) (fun k=>k<=s.ds.length) (fun k=>s.ds.length-k) 0 mI (by omega) ?_
   intro k hk0
   conv=>whnf
   refine bD (fun h5=>?_) (fun h5=>?_)
   ·have hkl:k<s.ds.length:=by omega
    have g1:=getM Dlv.av s.ds k hkl
    (conv=>whnf);(repeat'((first|apply bT|apply bF|apply bN|((first|apply bD|apply bEq|apply bNe)<;>intro hh<;>try(exfalso;omega))|refine iaJ g1 ?_|(refine bKT ?_ ?_;(focus (simp;done)))|(refine bKF ?_ ?_;(focus (simp;done)))|refine wJ ?_|refine nJ ?_)<;>conv=>whnf))
    exact⟨k+1,mI,by omega,by omega⟩
   ·have:k=s.ds.length:=by omega
    subst this
    (conv=>whnf);(repeat'((first|apply bT|apply bF|apply bN|((first|apply bD|apply bEq|apply bNe)<;>intro hh<;>try(exfalso;omega))|refine wJ ?_|refine nJ ?_)<;>conv=>whnf))
    all_goals rfl
def szP(p:Piece):Bool:=decide (p.br.length<=40)
def szW(w:Wish):Bool:=decide (w.cs.length<=40)
def Ord.sz(s:Ord):Bool := !s.w.far&&(decide (s.st.length<=40)&&(decide (s.ps.length<=40)&&(decide (s.ws.length<=40)&&(decide (s.ds.length<=40)&&(s.ps.all szP&&s.ws.all szW)))))
def brN(l:List Piece):Int:=l.foldl (fun n p=>n+(p.br.length:Int)) 0
theorem brN_succ{l:List Piece}{k:Nat}(hk:k<l.length):brN (l.take (k+1))=brN (l.take k)+(l[k].br.length:Int):=by
 unfold brN;rw[List.take_succ_eq_append_getElem hk,List.foldl_append];rfl
theorem brN_bd{l:List Piece}(h:∀x∈l,szP x=true):∀k,k<=l.length->0<=brN (l.take k)/\brN (l.take k)<=40*(k:Int)
 |0,_=>by simp[brN]
 |k+1,hk=>by
  have:=brN_bd h k (by omega)
  have h1:=of_decide_eq_true (h _ (List.getElem_mem (show k<l.length by omega)))
  rw[brN_succ (show k<l.length by omega)]
  omega
def Ord.far(s:Ord):Bool := !s.sz||(decide (s.chk=0)&&(decide (3<s.ws.length)||(decide (4<s.ps.length)||(decide (3<s.ds.length)||decide (4<brN s.ps)))))
theorem far_false{s:Ord}(h:s.far=false):s.sz=true:=by
 cases hb:s.sz with
 |true=>rfl
 |false=>unfold Ord.far at h;rw[hb]at h;simp at h
theorem osz_big{s:Ord}(h:s.sz=true):BigO s:=by
 unfold Ord.sz at h
 simp only[Bool.and_eq_true,decide_eq_true_eq,List.all_eq_true,Bool.not_eq_true']at h
 obtain⟨h0,h1,h2,h3,h4,h5,h6⟩:=h
 exact⟨sz_big (far_sz h0),by omega,by omega,by omega,by omega,fun p hp=>by have:=of_decide_eq_true (h5 p hp);omega,fun w hw=>by have:=of_decide_eq_true (h6 w hw);omega⟩
theorem q30(s:Ord):FnA Tryz.prog 30 [.agg s.cells] (· = .bool s.far):=by
 have l1:(s.st.map jAV).length=s.st.length:=by simp
 have l2:(s.ps.map Piece.av).length=s.ps.length:=by simp
 have l3:(s.ws.map Wish.av).length=s.ws.length:=by simp
 have l4:(s.ds.map Dlv.av).length=s.ds.length:=by simp
 have e0:=p14 s.w
 rw[wcells]at e0
 have far1:s.sz=false->s.far=true:=fun h=>by unfold Ord.far;rw[h];rfl
 cases h0:s.w.far with
 |true=>
  rw[h0]at e0
  rw[far1 (by unfold Ord.sz;rw[h0];rfl)]
  refine fnA 1 ok30 (by simp) ?_
  (conv=>whnf);(repeat'((first|apply bT|apply bF|apply bN|((first|apply bD|apply bEq|apply bNe)<;>intro hh<;>try(exfalso;omega))|refine e0.cq rfl rfl ?_|refine wJ ?_|refine nJ ?_)<;>conv=>whnf))
  all_goals rfl
 |false=>
 rw[h0]at e0
 by_cases h1:s.st.length<=40
 case neg=>
  rw[far1 (by unfold Ord.sz;rw[decide_eq_false h1];simp)]
  refine fnA 1 ok30 (by simp) ?_
  (conv=>whnf);(repeat'((first|apply bT|apply bF|apply bN|((first|apply bD|apply bEq|apply bNe)<;>intro hh<;>try(exfalso;omega))|refine e0.cq rfl rfl ?_|refine wJ ?_|refine nJ ?_)<;>conv=>whnf))
  all_goals rfl
 by_cases h2:s.ps.length<=40
 case neg=>
  rw[far1 (by unfold Ord.sz;rw[decide_eq_false h2];simp)]
  refine fnA 1 ok30 (by simp) ?_
  (conv=>whnf);(repeat'((first|apply bT|apply bF|apply bN|((first|apply bD|apply bEq|apply bNe)<;>intro hh<;>try(exfalso;omega))|refine e0.cq rfl rfl ?_|refine wJ ?_|refine nJ ?_)<;>conv=>whnf))
  all_goals rfl
 by_cases h3:s.ws.length<=40
 case neg=>
  rw[far1 (by unfold Ord.sz;rw[decide_eq_false h3];simp)]
  refine fnA 1 ok30 (by simp) ?_
  (conv=>whnf);(repeat'((first|apply bT|apply bF|apply bN|((first|apply bD|apply bEq|apply bNe)<;>intro hh<;>try(exfalso;omega))|refine e0.cq rfl rfl ?_|refine wJ ?_|refine nJ ?_)<;>conv=>whnf))
  all_goals rfl
 by_cases h4:s.ds.length<=40
 case neg=>
  rw[far1 (by unfold Ord.sz;rw[decide_eq_false h4];simp)]
  refine fnA 1 ok30 (by simp) ?_
  (conv=>whnf);(repeat'((first|apply bT|apply bF|apply bN|((first|apply bD|apply bEq|apply bNe)<;>intro hh<;>try(exfalso;omega))|refine e0.cq rfl rfl ?_|refine wJ ?_|refine nJ ?_)<;>conv=>whnf))
  all_goals rfl
 have hsz:s.sz=(s.ps.all szP&&s.ws.all szW):=by unfold Ord.sz;rw[h0,decide_eq_true h1,decide_eq_true h2,decide_eq_true h3,decide_eq_true h4];simp
 refine fnA 1 ok30 (by simp) ?_
 (conv=>whnf);(repeat'((first|apply bT|apply bF|apply bN|((first|apply bD|apply bEq|apply bNe)<;>intro hh<;>try(exfalso;omega))|refine e0.cq rfl rfl ?_|refine wJ ?_|refine nJ ?_)<;>conv=>whnf))
 refine loop_i (α :=Nat) (fun k=>[(3, .int .i64 k),(1, .own 0 0)]) (fun k=>[.box false s.cells]) (fun k=>k<=s.ps.length/\∀n∈s.ps.take k,szP n=true) (fun k=>s.ps.length-k) 0 mI ⟨by omega,by simp⟩ ?_
 rintro k ⟨k1,k2⟩
 conv=>whnf
 refine bD (fun h8=>?_) (fun h8=>?_)
 ·have hkl:k<s.ps.length:=by omega
  have g1:=getM Piece.av s.ps k hkl
  have lb:(s.ps[k].br.map jAV).length=s.ps[k].br.length:=by simp
  by_cases hx:s.ps[k].br.length<=40
  ·(conv=>whnf);(repeat'((first|apply bT|apply bF|apply bN|((first|apply bD|apply bEq|apply bNe)<;>intro hh<;>try(exfalso;omega))|refine iaJ g1 ?_|refine wJ ?_|refine nJ ?_)<;>conv=>whnf))
   exact⟨k+1,mI,⟨by omega,take_all (p:=szP) hkl k2 (decide_eq_true hx)⟩,by omega⟩
  ·rw[far1 (by rw[hsz,all_not (p:=szP) hkl (decide_eq_false hx)];rfl)]
   (conv=>whnf);(repeat'((first|apply bT|apply bF|apply bN|((first|apply bD|apply bEq|apply bNe)<;>intro hh<;>try(exfalso;omega))|refine iaJ g1 ?_|refine wJ ?_|refine nJ ?_)<;>conv=>whnf))
   all_goals rfl
 have:k=s.ps.length:=by omega
 subst this
 rw[List.take_length]at k2
 (conv=>whnf);(repeat'((first|apply bT|apply bF|apply bN|((first|apply bD|apply bEq|apply bNe)<;>intro hh<;>try(exfalso;omega))|refine wJ ?_|refine nJ ?_)<;>conv=>whnf))
 refine loop_i (α :=Nat) (fun k=>[(4, .int .i64 k),(1, .own 0 0)]) (fun k=>[.box false s.cells]) (fun k=>k<=s.ws.length/\∀n∈s.ws.take k,szW n=true) (fun k=>s.ws.length-k) 0 mI ⟨by omega,by simp⟩ ?_
 rintro k ⟨k1,k3⟩
 conv=>whnf
 refine bD (fun h8=>?_) (fun h8=>?_)
 ·have hkl:k<s.ws.length:=by omega
  have g1:=getM Wish.av s.ws k hkl
  have lb:(s.ws[k].cs.map jAV).length=s.ws[k].cs.length:=by simp
  by_cases hx:s.ws[k].cs.length<=40
  ·(conv=>whnf);(repeat'((first|apply bT|apply bF|apply bN|((first|apply bD|apply bEq|apply bNe)<;>intro hh<;>try(exfalso;omega))|refine iaJ g1 ?_|refine wJ ?_|refine nJ ?_)<;>conv=>whnf))
   exact⟨k+1,mI,⟨by omega,take_all (p:=szW) hkl k3 (decide_eq_true hx)⟩,by omega⟩
  ·rw[far1 (by rw[hsz,all_not (p:=szW) hkl (decide_eq_false hx)];simp)]
   (conv=>whnf);(repeat'((first|apply bT|apply bF|apply bN|((first|apply bD|apply bEq|apply bNe)<;>intro hh<;>try(exfalso;omega))|refine iaJ g1 ?_|refine wJ ?_|refine nJ ?_)<;>conv=>whnf))
   all_goals rfl
 have:k=s.ws.length:=by omega
 subst this
 rw[List.take_length]at k3
 have hszt:s.sz=true:=by rw[hsz,all_yes k2,all_yes k3];rfl
 have hB:=osz_big hszt
 have e1:=q32 s hB
 by_cases hc:s.chk=0
 case neg=>
  rw[show s.far=false by unfold Ord.far;rw[hszt,decide_eq_false hc];rfl]
  (conv=>whnf);(repeat'((first|apply bT|apply bF|apply bN|((first|apply bD|apply bEq|apply bNe)<;>intro hh<;>try(exfalso;omega))|refine e1.cq rfl rfl ?_|refine wJ ?_|refine nJ ?_)<;>conv=>whnf))
  all_goals rfl
 have hf:s.far=(decide (3<s.ws.length)||(decide (4<s.ps.length)||(decide (3<s.ds.length)||decide (4<brN s.ps)))):=by unfold Ord.far;rw[hszt,decide_eq_true hc];rfl
 rw[hc]at e1
 (conv=>whnf);(repeat'((first|apply bT|apply bF|apply bN|((first|apply bD|apply bEq|apply bNe)<;>intro hh<;>try(exfalso;omega))|refine e1.cq rfl rfl ?_|refine wJ ?_|refine nJ ?_)<;>conv=>whnf))
 refine loop_i (α :=Nat) (fun k=>[(6, .int .i64 k),(5, .int .i64 (brN (s.ps.take k))),(1, .own 0 0)]) (fun k=>[.box false s.cells]) (fun k=>k<=s.ps.length) (fun k=>s.ps.length-k) 0 mI (by omega) ?_
 intro k hk0
 conv=>whnf
 refine bD (fun h8=>?_) (fun h8=>?_)
 ·have hkl:k<s.ps.length:=by omega
  have g1:=getM Piece.av s.ps k hkl
  have lb:(s.ps[k].br.map jAV).length=s.ps[k].br.length:=by simp
  have hx:=of_decide_eq_true (k2 _ (List.getElem_mem hkl))
  have hbd:=brN_bd k2 k (by omega)
  have hsu:=brN_succ hkl
  (conv=>whnf);(repeat'((first|apply bT|apply bF|apply bN|((first|apply bD|apply bEq|apply bNe)<;>intro hh<;>try(exfalso;omega))|refine iaJ g1 ?_|refine wJ ?_|refine nJ ?_)<;>conv=>whnf))
  refine⟨k+1,?_,by omega,by omega⟩
  rw[hsu,<- lb]
  exact mI
 have:k=s.ps.length:=by omega
 subst this
 rw[List.take_length,hf]
 by_cases q1:3<s.ws.length
 ·rw[decide_eq_true q1]
  (conv=>whnf);(repeat'((first|apply bT|apply bF|apply bN|((first|apply bD|apply bEq|apply bNe)<;>intro hh<;>try(exfalso;omega))|refine wJ ?_|refine nJ ?_)<;>conv=>whnf))
  all_goals rfl
 rw[decide_eq_false q1]
 by_cases q2:4<s.ps.length
 ·rw[decide_eq_true q2]
  (conv=>whnf);(repeat'((first|apply bT|apply bF|apply bN|((first|apply bD|apply bEq|apply bNe)<;>intro hh<;>try(exfalso;omega))|refine wJ ?_|refine nJ ?_)<;>conv=>whnf))
  all_goals rfl
 rw[decide_eq_false q2]
 by_cases q3:3<s.ds.length
 ·rw[decide_eq_true q3]
  (conv=>whnf);(repeat'((first|apply bT|apply bF|apply bN|((first|apply bD|apply bEq|apply bNe)<;>intro hh<;>try(exfalso;omega))|refine wJ ?_|refine nJ ?_)<;>conv=>whnf))
  all_goals rfl
 rw[decide_eq_false q3]
 (conv=>whnf);(repeat'((first|apply bT|apply bF|apply bN|((first|apply bD|apply bEq|apply bNe)<;>intro hh<;>try(exfalso;omega))|refine wJ ?_|refine nJ ?_)<;>conv=>whnf))
 all_goals rfl
def srvB(ds:List Dlv)(t:Tk)(k:Nat):Bool:=decide ((ds.getD k zD).day<=t.by_)&&decide ((ds.getD k zD).sp∈t.sp)
def inD(ds:List Dlv)(t:Tk):List Int:=((List.range ds.length).filter (srvB ds t)).map fun i:Nat=>(i:Int)
theorem gB_srv(t:Tk)(ds:List Dlv)(k:Nat):gB t ds k=(decide (0<(ds.getD k zD).many)&&srvB ds t k):=rfl
theorem inD_mem{ds:List Dlv}{t:Tk}{x:Int}:x∈inD ds t<->∃k:Nat,k<ds.length/\srvB ds t k=true/\x=(k:Int):=by
 unfold inD
 simp only[List.mem_map,List.mem_filter,List.mem_range]
 constructor
 ·rintro⟨k,⟨h1,h2⟩,rfl⟩;exact⟨k,h1,h2,rfl⟩
 ·rintro⟨k,h1,h2,rfl⟩;exact⟨k,⟨h1,h2⟩,rfl⟩
def Full(st:List Int)(fs:List (List Int)):Prop:=∃g,Valid st fs g/\lackN g=0
def manyL(ds:List Dlv):List Int:=ds.map (·.many)
theorem many_get(ds:List Dlv)(k:Nat):(manyL ds).getD k 0=(ds.getD k zD).many:=by
 unfold manyL
 by_cases h:k<ds.length
 ·simp[List.getD_eq_getElem?_getD,h]
 ·simp[List.getD_eq_getElem?_getD,h,zD]
theorem manyL_len(ds:List Dlv):(manyL ds).length=ds.length:=by simp[manyL]
theorem lackN_cons(x:Int)(g:List Int):lackN (x::g)=lackN g+if x = -1 then 1 else 0:=by
 unfold lackN;rw[List.count_cons];simp
theorem full_nil{st:List Int}(h:Nn st):Full st []:=⟨[],⟨rfl,by simp,fun s hs=>by have:=h s hs;simpa using this⟩,rfl⟩
theorem full_cons{st:List Int}{f:List Int}{fs:List (List Int)}(hs:Spr st (f::fs)):Full st (f::fs)<->∃x∈f,0<st.getD x.toNat 0/\Full (st.set x.toNat (st.getD x.toNat 0-1)) fs:=by
 constructor
 ·rintro⟨g,hv,hl⟩
  cases g with
  |nil=>have:=hv.len;simp at this
  |cons x g=>
   rw[lackN_cons]at hl
   rcases(valid_cons hs).1 hv with⟨h1,_⟩|⟨h1,h2,h3⟩
   ·rw[if_pos h1]at hl;omega
   ·exact⟨x,h1,h2,g,h3,by omega⟩
 ·rintro⟨x,h1,h2,g,h3,h4⟩
  have h0:=hs f (by simp) x h1
  refine⟨x::g,(valid_cons hs).2 (.inr ⟨h1,h2,h3⟩),?_⟩
  rw[lackN_cons,if_neg (by omega),h4]
theorem getD_gS(ds:List Dlv)(k n:Nat):(gS ds k).getD n zD=if n=k/\k<ds.length then(ds.getD k zD).one else ds.getD n zD:=by
 unfold gS
 rw[List.getD_eq_getElem?_getD,List.getElem?_set]
 by_cases h:k=n
 ·subst h
  by_cases hk:k<ds.length
  ·simp[hk]
  ·simp[hk,List.getD_eq_getElem?_getD]
 ·have:n≠k:=fun e=>h e.symm
  simp[h,this,List.getD_eq_getElem?_getD]
theorem inD_gS(ds:List Dlv)(k:Nat)(t:Tk):inD (gS ds k) t=inD ds t:=by
 unfold inD
 have hl:(gS ds k).length=ds.length:=by simp[gS]
 rw[hl]
 congr 2
 funext n
 unfold srvB
 rw[getD_gS]
 split
 ·rename_i h;obtain⟨rfl,_⟩:=h;rfl
 ·rfl
theorem many_gS{ds:List Dlv}{k:Nat}:manyL (gS ds k)=(manyL ds).set k ((manyL ds).getD k 0-1):=by
 rw[many_get]
 unfold manyL gS
 rw[List.map_set];rfl
theorem inD_spr(ds:List Dlv)(l:List Tk):Spr (manyL ds) (l.map (inD ds)):=fun f hf x hx=>by
 obtain⟨t,_,rfl⟩:=List.mem_map.1 hf
 obtain⟨k,h1,_,rfl⟩:=inD_mem.1 hx
 rw[manyL_len];omega
theorem DsO.nn{ds:List Dlv}(h:DsO ds):Nn (manyL ds):=fun k hk=>by
 rw[many_get]
 rw[manyL_len]at hk
 have e:ds.getD k zD=ds[k]:=by simp[List.getD_eq_getElem?_getD,hk]
 rw[e];exact(h.b _ (List.getElem_mem hk)).1
theorem does_full:∀(l:List Tk) (ds:List Dlv),DsO ds->(doesB l ds=true<->Full (manyL ds) (l.map (inD ds)))
 | [],ds,hd=>⟨fun _=>full_nil hd.nn,fun _=>rfl⟩
 |t::l,ds,hd=>by
  rw[List.map_cons,full_cons (inD_spr ds (t::l))]
  unfold doesB
  rw[List.any_eq_true]
  constructor
  ·rintro⟨r,hr,h⟩
   obtain⟨k,h1,h2,rfl⟩:=giv_mem.1 hr
   have h3:=(does_full l _ (giv_ok hd _ hr)).1 h
   rw[gB_srv,Bool.and_eq_true,decide_eq_true_eq]at h2
   rw[many_gS,show l.map (inD (gS ds k))=l.map (inD ds) from List.map_congr_left fun t _=>inD_gS ds k t]at h3
   exact⟨(k:Nat),inD_mem.2 ⟨k,h1,h2.2,rfl⟩,by rw[Int.toNat_natCast,many_get];exact h2.1,by rw[Int.toNat_natCast];exact h3⟩
  ·rintro⟨x,hx,h1,h2⟩
   obtain⟨k,h3,h4,rfl⟩:=inD_mem.1 hx
   rw[Int.toNat_natCast]at h1 h2
   have hg:gB t ds k=true:=by rw[gB_srv,h4,decide_eq_true (by rw[many_get]at h1;exact h1)];rfl
   have hr:gS ds k∈giv t ds:=giv_mem.2 ⟨k,h3,hg,rfl⟩
   refine⟨_,hr,(does_full l _ (giv_ok hd _ hr)).2 ?_⟩
   rw[many_gS,show l.map (inD (gS ds k))=l.map (inD ds) from List.map_congr_left fun t _=>inD_gS ds k t]
   exact h2
theorem getD_appL{α : Type}{A B:List α}{z : α}{k:Nat}(h:k<A.length):(A++B).getD k z=A.getD k z:=by simp[List.getD_eq_getElem?_getD,List.getElem?_append_left h]
theorem getD_appR{α : Type}(A B:List α)(z : α)(k:Nat):(A++B).getD (A.length+k) z=B.getD k z:=by simp[List.getD_eq_getElem?_getD,List.getElem?_append_right]
theorem does_swap1:∀(l:List Tk) (A B:List Dlv),doesB l (A++B)=true->doesB l (B++A)=true
 | [],_,_,_=>rfl
 |t::l,A,B,h=>by
  unfold doesB at h⊢
  rw[List.any_eq_true]at h⊢
  obtain⟨r,hr,h⟩:=h
  obtain⟨k,h1,h2,rfl⟩:=giv_mem.1 hr
  by_cases hk:k<A.length
  ·have e1:gS (A++B) k=gS A k++B:=by unfold gS;rw[getD_appL hk,List.set_append_left _ _ hk]
   have e2:gS (B++A) (B.length+k)=B++gS A k:=by unfold gS;rw[getD_appR,List.set_append_right _ _ (by omega),Nat.add_sub_cancel_left]
   have e3:gB t (B++A) (B.length+k)=gB t (A++B) k:=by unfold gB;rw[getD_appR,getD_appL hk]
   rw[e1]at h
   exact⟨_,giv_mem.2 ⟨B.length+k,by rw[List.length_append];omega,by rw[e3];exact h2,rfl⟩,by rw[e2];exact does_swap1 l _ _ h⟩
  ·obtain⟨m,rfl⟩:∃m,k=A.length+m:=⟨k-A.length,by omega⟩
   rw[List.length_append]at h1
   have hm:m<B.length:=by omega
   have e1:gS (A++B) (A.length+m)=A++gS B m:=by unfold gS;rw[getD_appR,List.set_append_right _ _ (by omega),Nat.add_sub_cancel_left]
   have e2:gS (B++A) m=gS B m++A:=by unfold gS;rw[getD_appL hm,List.set_append_left _ _ hm]
   have e3:gB t (B++A) m=gB t (A++B) (A.length+m):=by unfold gB;rw[getD_appR,getD_appL hm]
   rw[e1]at h
   exact⟨_,giv_mem.2 ⟨m,by rw[List.length_append];omega,by rw[e3];exact h2,rfl⟩,by rw[e2];exact does_swap1 l _ _ h⟩
theorem does_swap(l:List Tk)(A B:List Dlv):doesB l (A++B)=doesB l (B++A):=by
 cases h:doesB l (A++B)with
 |true=>exact(does_swap1 l A B h).symm
 |false=>
  cases k:doesB l (B++A)with
  |false=>rfl
  |true=>rw[does_swap1 l B A k]at h;cases h
theorem aTkOk{s:Ord}{i:Int}(hi:s.isW i=true)(p:Int):s.tkOk (aloneL s.ws.length i p) s.ws.length=s.tkG i p:=by
 have hi:=isW_iff.1 hi
 cases h:s.tkG i p with
 |true=>
  refine List.all_eq_true.2 fun k hk=>?_
  have hk:=List.mem_range.1 hk
  rw[alone_get _ _ _ hk hi.1]
  split
  ·rename_i e;rw[e];exact h
  ·rfl
 |false=>exact tkOk_le (k:=i.toNat) (by rw[alone_get _ _ _ (by omega) hi.1,if_pos (by omega),show((i.toNat:Nat):Int)=i by omega];exact h) (by omega)
theorem aTks{s:Ord}{i:Int}(hi:0<=i)(p:Int):∀k,k<=s.ws.length->s.tks (aloneL s.ws.length i p) k=if i<(k:Int) then s.tkI i p else []
 |0,_=>by rw[if_neg (by omega)];rfl
 |k+1,hk=>by
  rw[tks_succ,aTks hi p k (by omega),alone_get _ _ _ (by omega) hi]
  by_cases h:(k:Int)=i
  ·rw[if_pos h,if_neg (by omega),if_pos (by omega),h];rfl
  ·rw[if_neg h,show s.tkI (k:Nat) (-1)=[] from rfl,List.append_nil]
   by_cases h2:i<(k:Int)
   ·rw[if_pos h2,if_pos (by omega)]
   ·rw[if_neg h2,if_neg (by omega)]
theorem aTksF{s:Ord}{i:Int}(hi:s.isW i=true)(p:Nat):s.tks (aloneL s.ws.length i (p:Nat)) s.ws.length=s.tkP i (p:Nat):=by
 have hi:=isW_iff.1 hi
 rw[aTks hi.1 _ _ (Nat.le_refl _),if_pos hi.2]
 unfold Ord.tkI;rw[if_neg (by omega)]
theorem reps_tkP(s:Ord)(i j:Int):s.reps i j=(s.tkP i j).map (inD s.sup):=by
 unfold Ord.reps Ord.tkP Ord.ftP
 rw[List.map_map,List.map_map];rfl
theorem sup_swap(s:Ord):s.sup2=s.ds++stD s s.st.length/\s.sup=stD s s.st.length++s.ds:=⟨rfl,rfl⟩
theorem sup_dsO{s:Ord}(hk:OkO s):DsO s.sup:=by
 have h:=sup2_ok hk
 refine⟨by have:=h.l;unfold Ord.sup2 at this;unfold Ord.sup;rw[List.length_append]at *;omega,fun d hd=>h.b d ?_⟩
 unfold Ord.sup at hd;unfold Ord.sup2
 rcases List.mem_append.1 hd with h|h
 ·exact List.mem_append_right _ h
 ·exact List.mem_append_left _ h
theorem does_sup{s:Ord}(hk:OkO s)(l:List Tk):doesB l s.sup2=true<->Full s.many (l.map (inD s.sup)):=by
 rw[(sup_swap s).1,does_swap,<- (sup_swap s).2]
 exact does_full l s.sup (sup_dsO hk)
theorem lack_full{st:List Int}{fs:List (List Int)}{left g:List Int}(h:Best fs st left g)(hs:Spr st fs)(hn:Nn st):lackN g=0<->Full st fs:=by
 have hm:=best_IsMost h hs hn
 obtain⟨g0,hv0,h0⟩:=hm.has
 have a:=hasN_add g
 have b:=h.lg
 constructor
 ·intro hl
  have a0:=hasN_add g0
  have b0:=hv0.len
  exact⟨g0,hv0,by omega⟩
 ·rintro⟨g1,hv,hl⟩
  have:=hm.max g1 hv
  have a1:=hasN_add g1
  have b1:=hv.len
  omega
theorem rng_spr{n:Nat}{st:List Int}{fs:List (List Int)}(h:Rng n fs)(hn:st.length=n):Spr st fs:=fun f hf x hx=>by
 have:=h f hf x hx
 omega
theorem can_iff{s:Ord}(hk:OkO s){i:Int}(hi:s.isW i=true){p:Nat}(hp:p<s.ps.length):s.fillB (aloneL s.ws.length i (p:Nat))=match s.opt i (p:Nat)with
  |some o=>canB s o
  |none=>false:=by
 have hpp:s.isP (p:Nat)=true:=isP_iff.2 (by omega)
 unfold Ord.fillB
 rw[alone_len,aTkOk hi,aTksF hi]
 have hg:s.tkG i (p:Nat)=(decide (suitV (s.wish i) (s.piece (p:Nat))≠0)&&decide (0<=s.by_ i (p:Nat))):=by
  unfold Ord.tkG;rw[decide_eq_false (by omega)];rfl
 rw[hg]
 unfold Ord.opt
 cases ho:s.optB i (p:Nat)with
 |true=>
  rw[if_pos rfl]
  have hmem:(⟨(p:Nat),s.reps i (p:Nat)⟩:Opt)∈s.opts i:=by
   unfold Ord.opts Ord.optK
   refine List.mem_filterMap.2 ⟨p,List.mem_range.2 hp,?_⟩
   unfold Ord.opt;rw[ho];rfl
  obtain⟨hok,h4⟩:=opts_ok hk hmem
  unfold Ord.optB at ho
  rw[Bool.and_eq_true]at ho
  rw[ho.1,Bool.true_and]
  have hW:=withF_ok hk (em_ok hk) hok (by simp only[emF,List.length_nil]at h4⊢;omega) (by simp[emF])
  have hrep:(withF s (emF s) ⟨(p:Nat),s.reps i (p:Nat)⟩).rep=s.reps i (p:Nat):=rfl
  have hl:=lack_full (show Best (s.reps i (p:Nat)) s.many _ _ from hW.best) (rng_spr hok.r rfl) (many_nn hk)
  have hd:=does_sup hk (s.tkP i (p:Nat))
  rw[<- reps_tkP]at hd
  have e:doesB (s.tkP i (p:Nat)) s.sup2=true<->canB s ⟨(p:Nat),s.reps i (p:Nat)⟩=true:=by
   rw[hd,<- hl]
   unfold canB
   rw[decide_eq_true_eq,hW.lk];omega
  show doesB (s.tkP i (p:Nat)) s.sup2=canB s ⟨(p:Nat),s.reps i (p:Nat)⟩
  cases h1:doesB (s.tkP i (p:Nat)) s.sup2 with
  |true=>exact(e.1 h1).symm
  |false=>
   cases h2:canB s ⟨(p:Nat),s.reps i (p:Nat)⟩with
   |true=>rw[e.2 h2]at h1;cases h1
   |false=>rfl
 |false=>
  rw[if_neg (by simp)]
  show(_&&doesB (s.tkP i (p:Nat)) s.sup2)=false
  unfold Ord.optB at ho
  cases hz:(decide (suitV (s.wish i) (s.piece (p:Nat))≠0)&&decide (0<=s.by_ i (p:Nat)))with
  |false=>rfl
  |true=>
   rw[hz,Bool.true_and]at ho
   rw[Bool.true_and]
   cases h1:doesB (s.tkP i (p:Nat)) s.sup2 with
   |false=>rfl
   |true=>
    obtain⟨g,hv,hl⟩:=(does_sup hk _).1 h1
    have hall:((s.piece (p:Nat)).br.all fun k => !(s.fitL ((s.piece (p:Nat)).mkr,k)).isEmpty)=true:=by
     refine List.all_eq_true.2 fun k hk'=>?_
     obtain⟨n,hn,rfl⟩:=List.getElem_of_mem hk'
     have hlen:n<((s.tkP i (p:Nat)).map (inD s.sup)).length:=by rw[List.length_map,tkP_len];exact hn
     have hgl:=hv.len
     have hgn:g.getD n 0 ≠ -1:=fun e=>by
      have:(-1:Int)∈g:=by rw[<- e];exact getD_memI (by omega)
      have:0<lackN g:=List.count_pos_iff.2 this
      omega
     rcases hv.fit n (by omega)with h|h
     ·exact absurd h hgn
     ·have e2:fsG ((s.tkP i (p:Nat)).map (inD s.sup)) n=inD s.sup ⟨s.by_ i (p:Nat),s.fitL ((s.piece (p:Nat)).mkr,(s.piece (p:Nat)).br[n])⟩:=by
       unfold fsG Ord.tkP Ord.ftP
       simp[List.getD_eq_getElem?_getD,hn]
      rw[e2]at h
      obtain⟨k,_,h3,_⟩:=inD_mem.1 h
      unfold srvB at h3
      rw[Bool.and_eq_true,decide_eq_true_eq,decide_eq_true_eq]at h3
      have:=h3.2
      cases hL:s.fitL ((s.piece (p:Nat)).mkr,(s.piece (p:Nat)).br[n])with
      |nil=>dsimp only at this;rw[hL]at this;cases this
      |cons a b=>rfl
    rw[hall]at ho;cases ho
theorem can_eq{s:Ord}(hk:OkO s){i:Int}(hi:s.isW i=true):s.canL i=s.rcan i:=by
 have:∀k,k<=s.ps.length->((s.optK i k).filter (canB s)).map (·.pc)=s.rcanK i k:=by
  intro k
  induction k with
  |zero=>intro _;rfl
  |succ k ih=>
   intro hkl
   have ih:=ih (by omega)
   have hc:=can_iff hk hi (show k<s.ps.length by omega)
   cases ho:s.opt i (k:Nat)with
   |none=>
    rw[ho]at hc
    rw[optK_none ho,rcanK_no hc,ih]
   |some o=>
    rw[ho]at hc
    have hpc:o.pc=(k:Int):=by
     unfold Ord.opt at ho
     split at ho
     ·cases ho;rfl
     ·cases ho
    dsimp only at hc
    rw[optK_some ho,List.filter_append,List.map_append,ih]
    cases hb:canB s o with
    |true=>rw[hb]at hc;rw[rcanK_yes hc];simp[hb,hpc]
    |false=>rw[hb]at hc;rw[rcanK_no hc];simp[hb]
 exact this _ (Nat.le_refl _)
def prc(s:Ord)(l:List Int):Nat->Int
 |0=>0
 |k+1=>prc s l k+if 0<=l.getD k 0 then(s.wish (k:Nat)).pr else 0
theorem prc_bd{s:Ord}(hk:OkO s)(l:List Int):∀k,k<=s.ws.length->0<=prc s l k/\prc s l k<=100000*(k:Int)
 |0,_=>by simp[prc]
 |k+1,h=>by
  have ih:=prc_bd hk l k (by omega)
  have hp:=wish_pr hk (i:=(k:Nat)) (isW_iff.2 ⟨by omega,by omega⟩)
  simp only[prc]
  split<;>omega
theorem q84(s:Ord)(hk:OkO s)(l:List Int)(hl:l.length<=s.ws.length):FnA Tryz.prog 84 [.agg s.cells, .isl (l.map jAV)] (· = .int .i64 (prc s l l.length)):=by
 have l1:(s.ws.map Wish.av).length=s.ws.length:=by simp
 have l2:(l.map jAV).length=l.length:=by simp
 have hw1:=hk.w1
 refine fnA 1 ok84 (by simp) ?_
 (conv=>whnf);(repeat'((first|apply bT|apply bF|apply bN|((first|apply bD|apply bEq|apply bNe)<;>intro hh<;>try(exfalso;omega))|refine wJ ?_|refine nJ ?_)<;>conv=>whnf))
 refine loop_i (α :=Nat) (fun k=>[(6, .int .i64 k),(5, .int .i64 (prc s l k)),(2, .own 0 0),(1, .isl (l.map jAV))]) (fun k=>[.box false s.cells]) (fun k=>k<=l.length) (fun k=>l.length-k) 0 mI (by omega) ?_
 intro k hk0
 conv=>whnf
 refine bD (fun h3=>?_) (fun h3=>?_)
 ·have hkl:k<l.length:=by omega
  have g1:(l.map jAV).getD k []=[.int .i64 (l.getD k 0)]:=by rw[getM jAV l k hkl];simp[List.getD_eq_getElem?_getD,hkl,jAV]
  have hi:s.isW (k:Nat)=true:=isW_iff.2 (by omega)
  have gw:=wget hi
  rw[show((k:Nat):Int).toNat=k by omega]at gw
  have hp:=wish_pr hk hi
  have hb:=prc_bd hk l k (by omega)
  have hs:prc s l (k+1)=prc s l k+if 0<=l.getD k 0 then(s.wish (k:Nat)).pr else 0:=rfl
  generalize l.getD k 0=j at g1 hs
  by_cases hj:0<=j
  ·rw[if_pos hj]at hs
   (conv=>whnf);(repeat'((first|apply bT|apply bF|apply bN|((first|apply bD|apply bEq|apply bNe)<;>intro hh<;>try(exfalso;omega))|refine iaJ g1 ?_|refine iaJ gw ?_|refine wJ ?_|refine nJ ?_)<;>conv=>whnf))
   refine⟨k+1,?_,by omega,by omega⟩
   rw[hs]
   exact mI
  ·rw[if_neg hj,Int.add_zero]at hs
   (conv=>whnf);(repeat'((first|apply bT|apply bF|apply bN|((first|apply bD|apply bEq|apply bNe)<;>intro hh<;>try(exfalso;omega))|refine iaJ g1 ?_|refine wJ ?_|refine nJ ?_)<;>conv=>whnf))
   refine⟨k+1,?_,by omega,by omega⟩
   rw[hs]
   exact mI
 ·have:k=l.length:=by omega
  subst this
  (conv=>whnf);(repeat'((first|apply bT|apply bF|apply bN|((first|apply bD|apply bEq|apply bNe)<;>intro hh<;>try(exfalso;omega))|refine wJ ?_|refine nJ ?_)<;>conv=>whnf))
  all_goals rfl
theorem q21(s:Ord)(hk:OkO s)(hT:s.w.noT=false)(pl:List Int)(hpl:PlO s pl):FnA Tryz.prog 21 [.agg s.cells, .isl (pl.map jAV)] (· = .bool (s.fillB pl)):=by
 have e1:=q60 s hk hT
 have e2:=q59 s hk pl hpl
 refine fnA 2 ok21 (by simp) ?_
 (conv=>whnf);(repeat'((first|apply bT|apply bF|apply bN|((first|apply bD|apply bEq|apply bNe)<;>intro hh<;>try(exfalso;omega))|refine e1.zq rfl rfl ?_|refine e2.cq rfl rfl ?_|refine wJ ?_|refine nJ ?_)<;>conv=>whnf))
 all_goals rfl
theorem plO_of{s:Ord}{l:List Int}(h:s.isPl l=true):PlO s l:=by
 obtain⟨h1,h2⟩:=isPl_iff.1 h
 refine⟨by omega,fun k hk=>?_⟩
 rcases h1.1 k hk with h|h
 ·exact .inl h
 ·exact .inr (isP_iff.2 h)
noncomputable def Ord.rtakesAV(s:Ord)(l:List Int):AV:=if s.eS (s.isPl l)=0 then(if s.fillB l=true then .tup [.int .i64 (prc s l l.length), .int .i64 0] else .tup [.int .i64 0, .int .i64 3]) else .tup [.int .i64 0, .int .i64 (s.eS (s.isPl l))]
theorem full_ne{st:List Int}{fs:List (List Int)}(h:Full st fs):∀f∈fs,f≠[]:=fun f hf e=>by
 obtain⟨g,hv,hl⟩:=h
 obtain⟨n,hn,he⟩:=List.getElem_of_mem hf
 have hgl:=hv.len
 have hgn:g.getD n 0 ≠ -1:=fun e=>by
  have:(-1:Int)∈g:=by rw[<- e];exact getD_memI (by omega)
  have:0<lackN g:=List.count_pos_iff.2 this
  omega
 rcases hv.fit n (by omega)with h|h
 ·exact hgn h
 ·have e2:fsG fs n=[]:=by unfold fsG;simp[List.getD_eq_getElem?_getD,hn,he,e]
  rw[e2]at h;cases h
theorem inD_nil(ds:List Dlv)(b:Int):inD ds ⟨b,[]⟩=[]:=by
 cases h:inD ds ⟨b,[]⟩with
 |nil=>rfl
 |cons x l=>
  obtain⟨k,_,h2,_⟩:=inD_mem.1 (show x∈inD ds ⟨b,[]⟩ by rw[h];simp)
  unfold srvB at h2
  simp at h2
theorem opt_tk{s:Ord}{i j:Int}{o:Opt}(hj:0<=j)(h:s.opt i j=some o):s.tkG i j=true/\o.rep=(s.tkI i j).map (inD s.sup):=by
 unfold Ord.opt at h
 split at h
 ·rename_i hb
  cases h
  unfold Ord.optB at hb
  rw[Bool.and_eq_true]at hb
  refine⟨by unfold Ord.tkG;rw[hb.1];simp,?_⟩
  show s.reps i j=_
  unfold Ord.tkI;rw[if_neg (by omega),reps_tkP]
 ·cases h
theorem opt_tkn{s:Ord}{i j:Int}(hj:0<=j)(h:s.opt i j=none):s.tkG i j=false\/∃t∈s.tkI i j,t.sp=[]:=by
 unfold Ord.opt at h
 split at h
 ·cases h
 ·rename_i hb
  cases hg:s.tkG i j with
  |false=>exact .inl rfl
  |true=>
   right
   unfold Ord.tkG at hg
   rw[decide_eq_false (by omega),Bool.false_or]at hg
   unfold Ord.optB at hb
   rw[hg,Bool.true_and]at hb
   have:∃k∈(s.piece j).br,s.fitL ((s.piece j).mkr,k)=[]:=by
    apply Classical.byContradiction
    intro hno
    apply hb
    refine List.all_eq_true.2 fun k hk=>?_
    cases hL:s.fitL ((s.piece j).mkr,k)with
    |nil=>exact absurd ⟨k,hk,hL⟩ hno
    |cons a b=>rfl
   obtain⟨k,hk,hL⟩:=this
   refine⟨⟨s.by_ i j,s.fitL ((s.piece j).mkr,k)⟩,?_,hL⟩
   unfold Ord.tkI;rw[if_neg (by omega)]
   exact List.mem_map.2 ⟨_,List.mem_map.2 ⟨k,hk,rfl⟩,rfl⟩
theorem pl_some{s:Ord}{l:List Int}(hl:s.isPl l=true):∀k,k<=l.length->∀f,plF s l k=some f->f.pl.length=k/\f.rep=(s.tks l k).map (inD s.sup)/\s.tkOk l k=true/\s.sumP k-f.lost=prc s l k
 |0,_,f,h=>by cases h;exact⟨rfl,rfl,rfl,rfl⟩
 |k+1,hle,f,h=>by
  obtain⟨hp,hlen⟩:=isPl_iff.1 hl
  simp only[plF]at h
  split at h
  ·cases h
  ·rename_i f0 h0
   obtain⟨i1,i2,i3,i4⟩:=pl_some hl k (by omega) f0 h0
   rw[tks_succ,tkOk_succ,i3,Bool.true_and,List.map_append,<- i2]
   have hs:s.sumP (k+1)=s.sumP k+(s.wish (k:Nat)).pr:=rfl
   have hq:prc s l (k+1)=prc s l k+if 0<=l.getD k 0 then(s.wish (k:Nat)).pr else 0:=rfl
   split at h
   ·rename_i he
    cases h
    rw[he,if_neg (by omega)]at hq
    refine⟨by simp[woF,i1],?_,?_,?_⟩
    ·rw[he];show f0.rep=f0.rep++_;rw[show s.tkI (k:Nat) (-1)=[] from rfl];simp
    ·rw[he];rfl
    ·show _-(f0.lost+(s.wish (f0.pl.length:Nat)).pr)=_
     rw[i1];omega
   ·rename_i hne
    have hj:=(hp.1 k (by omega)).resolve_left hne
    split at h
    ·cases h
    ·rename_i o ho
     cases h
     obtain⟨t1,t2⟩:=opt_tk hj.1 ho
     rw[if_pos hj.1]at hq
     refine⟨by simp[withF,i1],by show f0.rep++o.rep=_;rw[t2],t1,?_⟩
     show _-f0.lost=_
     omega
theorem pl_none{s:Ord}{l:List Int}(hl:s.isPl l=true):∀k,k<=l.length->plF s l k=none->s.tkOk l k=false\/∃t∈s.tks l k,t.sp=[]
 |0,_,h=>by cases h
 |k+1,hle,h=>by
  obtain⟨hp,hlen⟩:=isPl_iff.1 hl
  rw[tks_succ,tkOk_succ]
  simp only[plF]at h
  split at h
  ·rename_i h0
   rcases pl_none hl k (by omega) h0 with h|⟨t,h1,h2⟩
   ·exact .inl (by rw[h];rfl)
   ·exact .inr ⟨t,List.mem_append_left _ h1,h2⟩
  ·split at h
   ·cases h
   ·rename_i hne
    have hj:=(hp.1 k (by omega)).resolve_left hne
    split at h
    ·rename_i ho
     rcases opt_tkn hj.1 ho with h|⟨t,h1,h2⟩
     ·exact .inl (by rw[h];simp)
     ·exact .inr ⟨t,List.mem_append_right _ h1,h2⟩
    ·cases h
theorem takes_av{s:Ord}(l:List Int):s.takesAV l=s.rtakesAV l:=by
 unfold Ord.takesAV Ord.rtakesAV
 by_cases h:s.eS (s.isPl l)=0
 ·rw[if_pos h,if_pos h]
  obtain⟨hc,hv,_⟩:=eS_0 h
  have hk:=okO hc
  cases hp:plF s l l.length with
  |none=>
   have hf:s.fillB l=false:=by
    unfold Ord.fillB
    rcases pl_none hv _ (Nat.le_refl _) hp with h|⟨t,h1,h2⟩
    ·rw[h];rfl
    ·cases hd:doesB (s.tks l l.length) s.sup2 with
     |false=>simp
     |true=>
      exfalso
      have hF:=(does_sup hk _).1 hd
      refine full_ne hF (inD s.sup t) (List.mem_map_of_mem h1) ?_
      obtain⟨b,sp⟩:=t
      dsimp only at h2;subst h2
      exact inD_nil _ _
   rw[hf];rfl
  |some f=>
   obtain⟨i1,i2,i3,i4⟩:=pl_some hv _ (Nat.le_refl _) f hp
   obtain⟨hG,_⟩:=plF_ok hk hv _ (Nat.le_refl _) f hp
   have hsp:=inD_spr s.sup (s.tks l l.length)
   rw[<- i2]at hsp
   have hF:=lack_full hG.g.best hsp (many_nn hk)
   have hd:=does_sup hk (s.tks l l.length)
   rw[<- i2,<- hF]at hd
   have hlk:=hG.g.lk
   show(if f.lacks=0 then _ else _)=_
   unfold Ord.fillB
   rw[i3,Bool.true_and,i1,i4]
   by_cases hz:f.lacks=0
   ·rw[if_pos hz,if_pos (hd.2 (by omega))]
   ·rw[if_neg hz,if_neg (fun e=>hz (by have:=hd.1 e;omega))]
 ·rw[if_neg h,if_neg h]
def Ach:List Tk->List Dlv->Nat->Prop
 | [],_,n=>n=0
 |t::l,ds,n=>(∃m,n=m+1/\Ach l ds m)\/∃k,k<ds.length/\gB t ds k=true/\Ach l (gS ds k) n
theorem ach_len:∀(l:List Tk) (ds:List Dlv) (n:Nat),Ach l ds n->n<=l.length
 | [],_,n,h=>by simp only[Ach]at h;simp[h]
 |t::l,ds,n,h=>by
  simp only[List.length_cons]
  rcases h with⟨m,rfl,h⟩|⟨k,_,_,h⟩
  ·have:=ach_len l ds m h;omega
  ·have:=ach_len l _ n h;omega
theorem gS_len(ds:List Dlv)(k:Nat):(gS ds k).length=ds.length:=by simp[gS]
theorem ach_valid:∀(l:List Tk) (ds:List Dlv),DsO ds->∀n,Ach l ds n<->∃g,Valid (manyL ds) (l.map (inD ds)) g/\lackN g=n
 | [],ds,hd,n=>by
  constructor
  ·intro h
   simp only[Ach]at h
   subst h
   exact full_nil hd.nn
  ·rintro⟨g,hv,h⟩
   have:=hv.len
   simp at this
   subst this
   exact h.symm
 |t::l,ds,hd,n=>by
  have hs:Spr (manyL ds) (inD ds t::l.map (inD ds)):=inD_spr ds (t::l)
  have e:∀k,l.map (inD (gS ds k))=l.map (inD ds):=fun k=>List.map_congr_left fun t _=>inD_gS ds k t
  rw[List.map_cons]
  constructor
  ·rintro(⟨m,rfl,h⟩|⟨k,h1,h2,h⟩)
   ·obtain⟨g,hv,hl⟩:=(ach_valid l ds hd m).1 h
    exact⟨-1::g,(valid_cons hs).2 (.inl ⟨rfl,hv⟩),by rw[lackN_cons,if_pos rfl,hl]⟩
   ·obtain⟨g,hv,hl⟩:=(ach_valid l _ (gS_ok hd h1 (gB_pos h2)) n).1 h
    rw[many_gS,e]at hv
    rw[gB_srv,Bool.and_eq_true,decide_eq_true_eq]at h2
    refine⟨(k:Int)::g,(valid_cons hs).2 (.inr ⟨inD_mem.2 ⟨k,h1,h2.2,rfl⟩,by rw[Int.toNat_natCast,many_get];exact h2.1,by rw[Int.toNat_natCast];exact hv⟩),?_⟩
    rw[lackN_cons,if_neg (by omega),hl,Nat.add_zero]
  ·rintro⟨g,hv,hl⟩
   cases g with
   |nil=>have:=hv.len;simp at this
   |cons x g=>
    rw[lackN_cons]at hl
    rcases(valid_cons hs).1 hv with⟨h1,h2⟩|⟨h1,h2,h3⟩
    ·rw[if_pos h1]at hl
     exact .inl ⟨lackN g,hl.symm,(ach_valid l ds hd _).2 ⟨g,h2,rfl⟩⟩
    ·obtain⟨k,a1,a2,rfl⟩:=inD_mem.1 h1
     rw[if_neg (by omega),Nat.add_zero]at hl
     rw[Int.toNat_natCast]at h2 h3
     have hg:gB t ds k=true:=by rw[gB_srv,a2,decide_eq_true (by rw[many_get]at h2;exact h2)];rfl
     exact .inr ⟨k,a1,hg,(ach_valid l _ (gS_ok hd a1 (gB_pos hg)) n).2 ⟨g,by rw[many_gS,e];exact h3,hl⟩⟩
theorem does_ach(l:List Tk){ds:List Dlv}(hd:DsO ds):doesB l ds=true<->Ach l ds 0:=(does_full l ds hd).trans (ach_valid l ds hd 0).symm
structure SubD(ds es:List Dlv)(φ : Nat->Nat):Prop where
 r:∀k,k<ds.length -> φ k<es.length/\(es.getD (φ k) zD).day<=(ds.getD k zD).day/\(es.getD (φ k) zD).sp=(ds.getD k zD).sp/\(ds.getD k zD).many<=(es.getD (φ k) zD).many
 i:∀j k,j<ds.length->k<ds.length -> φ j = φ k->j=k
theorem SubD.step{ds es:List Dlv}{φ : Nat->Nat}(h:SubD ds es φ){k:Nat}(hk:k<ds.length):SubD (gS ds k) (gS es (φ k)) φ :=by
 refine⟨fun n hn=>?_,fun a b ha hb=>h.i a b (by rw[gS_len]at ha;exact ha) (by rw[gS_len]at hb;exact hb)⟩
 rw[gS_len]at hn
 have h1:=h.r n hn
 have h2:=h.r k hk
 rw[gS_len,getD_gS,getD_gS]
 by_cases e:n=k
 ·subst e
  rw[if_pos ⟨rfl,h1.1⟩,if_pos ⟨rfl,hn⟩]
  simp only[Dlv.one];omega
 ·rw[if_neg (fun q=>e (h.i n k hn hk q.1)),if_neg (fun q=>e q.1)]
  exact h1
def TkL(t u:Tk):Prop:=t.by_<=u.by_/\t.sp=u.sp
def TkLs:List Tk->List Tk->Prop
 | [],[]=>True
 |t::l,u::m=>TkL t u/\TkLs l m
 |_,_=>False
theorem TkLs.refl:∀l:List Tk,TkLs l l
 | []=>trivial
 |_::l=>⟨⟨Int.le_refl _,rfl⟩,TkLs.refl l⟩
theorem ach_sub:∀(l m:List Tk),TkLs l m->∀(ds es:List Dlv) (φ : Nat->Nat) (n:Nat),SubD ds es φ -> Ach l ds n->Ach m es n
 | [],[],_,_,_,_,_,_,h=>h
 | [],_::_,h,_,_,_,_,_,_=>h.elim
 |_::_,[],h,_,_,_,_,_,_=>h.elim
 |t::l,u::m,hl,ds,es,φ,n,hs,h=>by
  rcases h with⟨q,rfl,h⟩|⟨k,h1,h2,h⟩
  ·exact .inl ⟨q,rfl,ach_sub l m hl.2 ds es φ q hs h⟩
  ·have a:=hs.r k h1
   refine .inr ⟨φ k,a.1,?_,ach_sub l m hl.2 _ _ φ n (hs.step h1) h⟩
   have b:=hl.1
   unfold gB at h2⊢
   simp only[Bool.and_eq_true,decide_eq_true_eq]at h2⊢
   rw[a.2.2.1,<- b.2]
   exact⟨by omega,by have:=b.1;omega,h2.2.2⟩
theorem SubD.id{ds es:List Dlv}(hl:ds.length<=es.length)(h:∀k,k<ds.length->(es.getD k zD).day<=(ds.getD k zD).day/\(es.getD k zD).sp=(ds.getD k zD).sp/\(ds.getD k zD).many<=(es.getD k zD).many):SubD ds es (fun k=>k):=
 ⟨fun k hk=>⟨by omega,h k hk⟩,fun _ _ _ _ e=>e⟩
theorem ach_more{l:List Tk}{ds:List Dlv}{k n:Nat}(h:Ach l (gS ds k) n):Ach l ds n:=
 ach_sub l l (TkLs.refl l) _ _ _ n (SubD.id (by rw[gS_len];exact Nat.le_refl _) fun j hj=>by
  rw[getD_gS];split
  ·rename_i e;obtain⟨rfl,_⟩:=e;exact⟨Int.le_refl _,rfl,Int.sub_le_self _ (by decide)⟩
  ·exact⟨Int.le_refl _,rfl,Int.le_refl _⟩) h
theorem SubD.swap(A B:List Dlv):SubD (A++B) (B++A) (fun k=>if k<A.length then B.length+k else k-A.length):=by
 refine⟨fun k hk=>?_,fun a b ha hb e=>?_⟩
 ·rw[List.length_append]at hk⊢
  by_cases h:k<A.length
  ·simp only[if_pos h]
   rw[getD_appR,getD_appL h]
   exact⟨by omega,Int.le_refl _,rfl,Int.le_refl _⟩
  ·simp only[if_neg h]
   obtain⟨m,rfl⟩:∃m,k=A.length+m:=⟨k-A.length,by omega⟩
   rw[show A.length+m-A.length=m by omega,getD_appR,getD_appL (by omega)]
   exact⟨by omega,Int.le_refl _,rfl,Int.le_refl _⟩
 ·rw[List.length_append]at ha hb
  split at e<;>split at e<;>omega
theorem ach_swap(l:List Tk)(A B:List Dlv)(n:Nat):Ach l (A++B) n<->Ach l (B++A) n:=
 ⟨ach_sub l l (TkLs.refl l) _ _ _ n (SubD.swap A B),ach_sub l l (TkLs.refl l) _ _ _ n (SubD.swap B A)⟩
theorem ach_cut{l m:List Tk}(h:m.Sublist l):∀(ds:List Dlv) (n:Nat),Ach l ds n->∃q,q<=n/\Ach m ds q:=by
 induction h with
 |slnil=>exact fun _ n h=>⟨n,Nat.le_refl _,h⟩
 |cons x _ ih=>
  rintro ds n (⟨q,rfl,h⟩|⟨k,h1,h2,h⟩)
  ·obtain⟨r,h3,h4⟩:=ih ds q h
   exact⟨r,by omega,h4⟩
  ·obtain⟨r,h3,h4⟩:=ih _ n h
   exact⟨r,h3,ach_more h4⟩
 |cons_cons x _ ih=>
  rintro ds n (⟨q,rfl,h⟩|⟨k,h1,h2,h⟩)
  ·obtain⟨r,h3,h4⟩:=ih ds q h
   exact⟨r+1,by omega, .inl ⟨r,rfl,h4⟩⟩
  ·obtain⟨r,h3,h4⟩:=ih _ n h
   exact⟨r,h3, .inr ⟨k,h1,h2,h4⟩⟩
theorem plF_congr{s:Ord}{l m:List Int}:∀k,(∀i,i<k->l.getD i 0=m.getD i 0)->plF s l k=plF s m k
 |0,_=>rfl
 |k+1,h=>by simp only[plF,plF_congr k (fun i hi=>h i (by omega)),h k (by omega)]
theorem getD_take{l:List Int}{k i:Nat}(h:i<k):(l.take k).getD i 0=l.getD i 0:=by
 simp[List.getD_eq_getElem?_getD,List.getElem?_take,h]
theorem take_getD{l:List Int}{k:Nat}(h:k<l.length):l.take (k+1)=l.take k++[l.getD k 0]:=by
 rw[List.take_succ_eq_append_getElem h];simp[List.getD_eq_getElem?_getD,h]
theorem plF_pl{s:Ord}{l:List Int}:∀k,k<=l.length->∀f,plF s l k=some f->f.pl=l.take k
 |0,_,f,h=>by cases h;rfl
 |k+1,hle,f,h=>by
  rw[take_getD (by omega)]
  simp only[plF]at h
  split at h
  ·cases h
  ·rename_i f0 h0
   have e:=plF_pl k (by omega) f0 h0
   split at h
   ·rename_i h1;cases h;rw[h1,<- e];rfl
   ·split at h
    ·cases h
    ·rename_i o ho
     cases h
     obtain⟨_,rfl⟩:=opt_some ho
     rw[<- e];rfl
theorem planP_take{n:Nat}{l:List Int}(h:planP n l)(k:Nat):planP n (l.take k):=by
 refine⟨fun i hi=>?_,fun i j hij hj hne=>?_⟩
 ·rw[List.length_take]at hi
  rw[getD_take (by omega)];exact h.1 i (by omega)
 ·rw[List.length_take]at hj
  rw[getD_take (by omega)]at hne
  rw[getD_take (by omega),getD_take (by omega)];exact h.2 i j hij (by omega) hne
theorem getD_snoc{p:List Int}{x:Int}{i:Nat}(h:i<p.length+1):(p++[x]).getD i 0=if i<p.length then p.getD i 0 else x:=by
 by_cases h1:i<p.length
 ·rw[if_pos h1];simp[List.getD_eq_getElem?_getD,List.getElem?_append_left h1]
 ·rw[if_neg h1,show i=p.length by omega];simp[List.getD_eq_getElem?_getD]
theorem planP_snoc{n:Nat}{p:List Int}{x:Int}(h:planP n p)(hx:x = -1\/(0<=x/\x<n)/\x∉p):planP n (p++[x]):=by
 refine⟨fun i hi=>?_,fun i j hij hj hne=>?_⟩
 ·rw[List.length_append,List.length_singleton]at hi
  rw[getD_snoc hi]
  split
  ·exact h.1 i (by omega)
  ·exact hx.imp id (·.1)
 ·rw[List.length_append,List.length_singleton]at hj
  rw[getD_snoc hj]at hne
  rw[getD_snoc hj,getD_snoc (by omega),if_pos (show i<p.length by omega)]
  split
  ·rename_i hj2;rw[if_pos hj2]at hne;exact h.2 i j hij hj2 hne
  ·rename_i hj2
   rw[if_neg hj2]at hne
   rcases hx with hx|hx
   ·exact absurd hx hne
   ·intro e;exact hx.2 (by rw[<- e];exact getD_memI (by omega))
structure Rch(s:Ord)(f:Fil):Prop where
 p:planP s.ps.length f.pl
 l:f.pl.length<=s.ws.length
 e:plF s f.pl f.pl.length=some f
theorem rch_of{s:Ord}{l:List Int}(hl:s.isPl l=true){k:Nat}(hk:k<=s.ws.length){f:Fil}(h:plF s l k=some f):Rch s f/\f.pl.length=k:=by
 obtain⟨hp,hlen⟩:=isPl_iff.1 hl
 have e:=plF_pl k (by omega) f h
 have el:f.pl.length=k:=by rw[e,List.length_take];omega
 refine⟨⟨by rw[e];exact planP_take hp k,by omega,?_⟩,el⟩
 rw[el,plF_congr (m:=l) k (fun i hi=>by rw[e];exact getD_take hi)];exact h
theorem rch_em(s:Ord):Rch s (emF s):=⟨⟨fun i hi=>by simp[emF]at hi,fun i j _ hj=>by simp[emF]at hj⟩,by simp[emF],rfl⟩
theorem snoc_pre{s:Ord}{f:Fil}(h:Rch s f)(x:Int):plF s (f.pl++[x]) f.pl.length=some f:=by
 rw[plF_congr (m:=f.pl) _ (fun i hi=>by rw[getD_snoc (by omega),if_pos hi])];exact h.e
theorem rch_wo{s:Ord}{f:Fil}(h:Rch s f)(hl:f.pl.length<s.ws.length):Rch s (woF s f):=by
 refine⟨planP_snoc h.p (.inl rfl),by simp only[woF,List.length_append,List.length_singleton];omega,?_⟩
 show plF s (f.pl++[-1]) (f.pl++[-1]).length=_
 have e:(f.pl++[-1]).getD f.pl.length 0 = -1:=by rw[getD_snoc (Nat.lt_succ_self _),if_neg (Nat.lt_irrefl _)]
 rw[List.length_append]
 simp only[List.length_singleton,plF,snoc_pre h]
 rw[e,if_pos rfl]
theorem step_opt{s:Ord}{f:Fil}{o:Opt}(ho:o∈s.opts (f.pl.length:Nat)):s.opt (f.pl.length:Nat) o.pc=some o/\s.isP o.pc=true:=by
 obtain⟨j,hj,e⟩:=opts_mem.1 ho
 obtain⟨_,rfl⟩:=opt_some e
 exact⟨e,isP_iff.2 ⟨by dsimp only;omega,by dsimp only;omega⟩⟩
theorem rch_step{s:Ord}{f:Fil}(h:Rch s f)(hl:f.pl.length<s.ws.length){x:Fil}(hx:x∈stepL s f):Rch s x/\x.pl.length=f.pl.length+1/\∃o,x=withF s f o/\0<=o.pc:=by
 obtain⟨o,ho,hn,rfl⟩:=step_mem hx
 obtain⟨e,hp⟩:=step_opt ho
 have hp:=isP_iff.1 hp
 have hlen:(withF s f o).pl.length=f.pl.length+1:=by simp only[withF,List.length_append,List.length_singleton]
 refine⟨⟨planP_snoc h.p (.inr ⟨hp,hn⟩),by omega,?_⟩,hlen,o,rfl,hp.1⟩
 show plF s (f.pl++[o.pc]) (f.pl++[o.pc]).length=_
 have e2:(f.pl++[o.pc]).getD f.pl.length 0=o.pc:=by rw[getD_snoc (Nat.lt_succ_self _),if_neg (Nat.lt_irrefl _)]
 rw[List.length_append]
 simp only[List.length_singleton,plF,snoc_pre h]
 rw[e2,if_neg (by omega),e]
theorem next_of{s:Ord}{l:List Int}(hl:s.isPl l=true){k:Nat}(hk:k<s.ws.length){f g:Fil}(h:plF s l k=some f)(h2:plF s l (k+1)=some g):l.getD k 0 = -1/\g=woF s f\/l.getD k 0 ≠ -1/\g∈stepL s f:=by
 obtain⟨hp,hlen⟩:=isPl_iff.1 hl
 have e:=plF_pl k (by omega) f h
 have el:f.pl.length=k:=by rw[e,List.length_take];omega
 simp only[plF,h]at h2
 split at h2
 ·rename_i h1;cases h2;exact .inl ⟨h1,rfl⟩
 ·rename_i h1
  split at h2
  ·cases h2
  ·rename_i o ho
   cases h2
   refine .inr ⟨h1,?_⟩
   have hj:=(hp.1 k (by omega)).resolve_left h1
   obtain⟨_,rfl⟩:=opt_some ho
   have hm:=opts_of (isP_iff.2 hj) ho
   refine List.mem_map.2 ⟨_,List.mem_filter.2 ⟨by rw[el];exact hm,?_⟩,rfl⟩
   have:l.getD k 0∉f.pl:=fun q=>by
    rw[e]at q
    obtain⟨i,hi,hq⟩:=List.getElem_of_mem q
    rw[List.length_take]at hi
    refine hp.2 i k (by omega) (by omega) h1 ?_
    rw[<- hq];simp[List.getD_eq_getElem?_getD,show i<l.length by omega]
   simpa using this
theorem tks_pre(s:Ord)(l:List Int){k:Nat}:∀ {m:Nat},k<=m->(s.tks l k).Sublist (s.tks l m)
 |0,h=>by rw[show k=0 by omega];exact List.Sublist.refl _
 |m+1,h=>by
  by_cases e:k=m+1
  ·rw[e];exact List.Sublist.refl _
  ·rw[tks_succ]
   exact(tks_pre s l (show k<=m by omega)).trans (List.sublist_append_left _ _)
theorem pl_min{s:Ord}(hk:OkO s){l:List Int}(hl:s.isPl l=true){k:Nat}(hle:k<=s.ws.length){f:Fil}(h:plF s l k=some f):(∃n:Nat,f.lacks=n/\Ach (s.tks l k) s.sup n)/\∀n:Nat,Ach (s.tks l k) s.sup n->f.lacks<=n:=by
 obtain⟨hp,hlen⟩:=isPl_iff.1 hl
 obtain⟨_,i2,_,_⟩:=pl_some hl k (by omega) f h
 obtain⟨hG,_⟩:=plF_ok hk hl k (by omega) f h
 have hB:=hG.g.best
 have hlk:=hG.g.lk
 rw[i2]at hB
 have hs:=inD_spr s.sup (s.tks l k)
 have hm:=best_IsMost hB hs (many_nn hk)
 have hv:=ach_valid (s.tks l k) s.sup (sup_dsO hk)
 have hg:=hB.lg
 have hga:=hasN_add f.giv
 refine⟨⟨lackN f.giv,hlk,?_⟩,fun n hn=>?_⟩
 ·obtain⟨g0,hv0,h0⟩:=hm.has
  have a0:=hasN_add g0
  have b0:=hv0.len
  exact(hv _).2 ⟨g0,hv0,by omega⟩
 ·obtain⟨g1,hv1,h1⟩:=(hv n).1 hn
  have:=hm.max g1 hv1
  have a1:=hasN_add g1
  have b1:=hv1.len
  omega
theorem pl_mono{s:Ord}(hk:OkO s){l:List Int}(hl:s.isPl l=true){k m:Nat}(hkm:k<=m)(hm:m<=s.ws.length){f g:Fil}(hf:plF s l k=some f)(hg:plF s l m=some g):f.lost<=g.lost/\f.lacks<=g.lacks:=by
 obtain⟨hp,hlen⟩:=isPl_iff.1 hl
 constructor
 ·have i1:=(pl_some hl k (by omega) f hf).2.2.2
  have i2:=(pl_some hl m (by omega) g hg).2.2.2
  have:∀n,k<=n->n<=s.ws.length->s.sumP k-prc s l k<=s.sumP n-prc s l n:=by
   intro n
   induction n with
   |zero=>intro h _;rw[show k=0 by omega];exact Int.le_refl _
   |succ n ih=>
    intro h hn
    by_cases e:k=n+1
    ·rw[e];exact Int.le_refl _
    ·have:=ih (by omega) (by omega)
     have hpr:=wish_pr hk (i:=(n:Nat)) (isW_iff.2 ⟨by omega,by omega⟩)
     simp only[Ord.sumP,prc]
     split<;>omega
  have:=this m hkm hm
  omega
 ·obtain⟨⟨n,e,hn⟩,_⟩:=pl_min hk hl hm hg
  obtain⟨_,h2⟩:=pl_min hk hl (by omega) hf
  obtain⟨q,h3,h4⟩:=ach_cut (tks_pre s l hkm) s.sup n hn
  have:=h2 q h4
  omega
structure Ext(s:Ord)(f:Fil)(l:List Int)(g:Fil):Prop where
 p:s.isPl l=true
 t:plF s l f.pl.length=some f
 e:plF s l s.ws.length=some g
theorem Ext.next{s:Ord}{f:Fil}{l:List Int}{g:Fil}(h:Ext s f l g)(hl:f.pl.length<s.ws.length):l.getD f.pl.length 0 = -1/\Ext s (woF s f) l g\/l.getD f.pl.length 0 ≠ -1/\∃x,x∈stepL s f/\Ext s x l g:=by
 cases h2:plF s l (f.pl.length+1)with
 |none=>have h3:=h.e;rw[plF_none h2 _ hl]at h3;cases h3
 |some x=>
  have hx:=(rch_of h.p (by omega) h2).2
  rcases next_of h.p hl h.t h2 with⟨a,b⟩|⟨a,b⟩
  ·subst b
   exact .inl ⟨a,h.p,by rw[hx];exact h2,h.e⟩
  ·exact .inr ⟨a,x,b,h.p,by rw[hx];exact h2,h.e⟩
def Fin(s:Ord)(f:Fil):Prop:=Rch s f/\f.pl.length=s.ws.length/\f.lacks=0
theorem bet_spec{s:Ord}(hk:OkO s):∀(n:Nat) (f b:Fil),Rch s f->f.pl.length+n=s.ws.length->f.lacks=0 ->
  (betF s n f b).lost<=b.lost/\(betF s n f b=b\/Fin s (betF s n f b))/\∀l g,Ext s f l g->g.lacks=0->(betF s n f b).lost<=g.lost:=by
 intro n
 induction n with
 |zero=>
  intro f b h hn h0
  unfold betF
  have key:∀l g,Ext s f l g->g=f:=fun l g he=>by
   have:=he.t
   rw[show f.pl.length=s.ws.length by omega,he.e]at this
   exact Option.some.inj this
  split
  ·exact⟨Int.le_refl _, .inl rfl,fun l g he _=>by rw[key l g he];omega⟩
  ·exact⟨by omega, .inr ⟨h,by omega,h0⟩,fun l g he _=>by rw[key l g he];omega⟩
 |succ n ih=>
  intro f b h hn h0
  unfold betF
  split
  ·rename_i hc
   refine⟨Int.le_refl _, .inl rfl,fun l g he _=>?_⟩
   have:=(pl_mono hk he.p h.l (Nat.le_refl _) he.t he.e).1
   omega
  ·have hfold:∀(L:List Fil),(∀x∈L,x∈stepL s f)->∀b:Fil,(L.foldl (fun b x=>if x.lacks=0 then betF s n x b else b) b).lost<=b.lost/\(L.foldl (fun b x=>if x.lacks=0 then betF s n x b else b) b=b\/Fin s (L.foldl (fun b x=>if x.lacks=0 then betF s n x b else b) b))/\∀x∈L,x.lacks=0->∀l g,Ext s x l g->g.lacks=0->(L.foldl (fun b x=>if x.lacks=0 then betF s n x b else b) b).lost<=g.lost:=by
    intro L
    induction L with
    |nil=>intro _ b;exact⟨Int.le_refl _, .inl rfl,fun x hx=>by cases hx⟩
    |cons x L ihL=>
     intro hL b
     obtain⟨hx1,hx2,_⟩:=rch_step h (by omega) (hL x (by simp))
     simp only[List.foldl_cons]
     obtain⟨a1,a2,a3⟩:=ihL (fun y hy=>hL y (by simp[hy])) (if x.lacks=0 then betF s n x b else b)
     by_cases hz:x.lacks=0
     ·obtain⟨b1,b2,b3⟩:=ih x b hx1 (by omega) hz
      rw[if_pos hz]at a1 a2 a3⊢
      refine⟨by omega,?_,fun y hy hy0 l g he hg=>?_⟩
      ·rcases a2 with a2|a2
       ·rw[a2];exact b2
       ·exact .inr a2
      ·rcases List.mem_cons.1 hy with rfl|hy
       ·have:=b3 l g he hg;omega
       ·exact a3 y hy hy0 l g he hg
     ·rw[if_neg hz]at a1 a2 a3⊢
      refine⟨a1,a2,fun y hy hy0 l g he hg=>?_⟩
      rcases List.mem_cons.1 hy with rfl|hy
      ·exact absurd hy0 hz
      ·exact a3 y hy hy0 l g he hg
   obtain⟨a1,a2,a3⟩:=hfold (stepL s f) (fun _ hx=>hx) b
   generalize (stepL s f).foldl (fun b x=>if x.lacks=0 then betF s n x b else b) b=c at a1 a2 a3
   have hw:=rch_wo h (by omega)
   obtain⟨b1,b2,b3⟩:=ih (woF s f) c hw (by simp only[woF,List.length_append,List.length_singleton];omega) h0
   refine⟨by omega,?_,fun l g he hg=>?_⟩
   ·rcases b2 with b2|b2
    ·rw[b2];exact a2
    ·exact .inr b2
   ·rcases he.next (by omega)with⟨_,he⟩|⟨_,x,hx,he⟩
    ·exact b3 l g he hg
    ·have h1:=(rch_step h (by omega) hx).1.l
     have h2:=pl_mono hk he.p h1 (Nat.le_refl _) he.t he.e
     have h3:0<=x.lacks:=by obtain⟨⟨m,e,_⟩,_⟩:=pl_min hk he.p h1 he.t;omega
     have:=a3 x hx (by omega) l g he hg
     omega
theorem rch_woN(s:Ord):∀k,k<=s.ws.length->Rch s (woN s k)/\(woN s k).lacks=0
 |0,_=>⟨rch_em s,rfl⟩
 |k+1,h=>by
  obtain⟨a,b⟩:=rch_woN s k (by omega)
  exact⟨rch_wo a (by rw[woN_len];omega),b⟩
theorem Rch.pl{s:Ord}{f:Fil}(h:Rch s f)(hl:f.pl.length=s.ws.length):s.isPl f.pl=true/\plF s f.pl s.ws.length=some f:=⟨isPl_iff.2 ⟨h.p,hl⟩,by rw[<- hl];exact h.e⟩
theorem best_spec{s:Ord}(hk:OkO s):Fin s (bestF s)/\∀l g,s.isPl l=true->plF s l s.ws.length=some g->g.lacks=0->(bestF s).lost<=g.lost:=by
 obtain⟨a,b,c⟩:=bet_spec hk s.ws.length (emF s) (woN s s.ws.length) (rch_em s) (by simp[emF]) rfl
 refine⟨?_,fun l g hl hg h0=>c l g ⟨hl,rfl,hg⟩ h0⟩
 rcases b with b|b
 ·show Fin s (betF s s.ws.length (emF s) (woN s s.ws.length))
  rw[b]
  obtain⟨h1,h2⟩:=rch_woN s s.ws.length (Nat.le_refl _)
  exact⟨h1,woN_len s _,h2⟩
 ·exact b
theorem few_spec{s:Ord}(hk:OkO s):∀(n:Nat) (f:Fil) (b:Int),Rch s f->f.pl.length+n=s.ws.length->(-1:Int)∉f.pl ->
  fewF s n f b<=b/\(fewF s n f b=b\/∃g,Rch s g/\g.pl.length=s.ws.length/\(-1:Int)∉g.pl/\fewF s n f b=g.lacks)/\∀l g,Ext s f l g->(-1:Int)∉l->fewF s n f b<=g.lacks:=by
 intro n
 induction n with
 |zero=>
  intro f b h hn h0
  unfold fewF
  have key:∀l g,Ext s f l g->g=f:=fun l g he=>by
   have:=he.t
   rw[show f.pl.length=s.ws.length by omega,he.e]at this
   exact Option.some.inj this
  split
  ·exact⟨Int.le_refl _, .inl rfl,fun l g he _=>by rw[key l g he];omega⟩
  ·exact⟨by omega, .inr ⟨f,h,by omega,h0,rfl⟩,fun l g he _=>by rw[key l g he];omega⟩
 |succ n ih=>
  intro f b h hn h0
  unfold fewF
  split
  ·rename_i hc
   refine⟨Int.le_refl _, .inl rfl,fun l g he _=>?_⟩
   have:=(pl_mono hk he.p h.l (Nat.le_refl _) he.t he.e).2
   omega
  ·have hfold:∀(L:List Fil),(∀x∈L,x∈stepL s f)->∀b:Int,L.foldl (fun b x=>fewF s n x b) b<=b/\(L.foldl (fun b x=>fewF s n x b) b=b\/∃g,Rch s g/\g.pl.length=s.ws.length/\(-1:Int)∉g.pl/\L.foldl (fun b x=>fewF s n x b) b=g.lacks)/\∀x∈L,∀l g,Ext s x l g->(-1:Int)∉l->L.foldl (fun b x=>fewF s n x b) b<=g.lacks:=by
    intro L
    induction L with
    |nil=>intro _ b;exact⟨Int.le_refl _, .inl rfl,fun x hx=>by cases hx⟩
    |cons x L ihL=>
     intro hL b
     obtain⟨hx1,hx2,o,hxo,ho⟩:=rch_step h (by omega) (hL x (by simp))
     simp only[List.foldl_cons]
     have hx3:(-1:Int)∉x.pl:=by
      rw[hxo]
      simp only[withF,List.mem_append,List.mem_singleton]
      rintro(q|q)
      ·exact h0 q
      ·omega
     obtain⟨a1,a2,a3⟩:=ihL (fun y hy=>hL y (by simp[hy])) (fewF s n x b)
     obtain⟨b1,b2,b3⟩:=ih x b hx1 (by omega) hx3
     refine⟨by omega,?_,fun y hy l g he hg=>?_⟩
     ·rcases a2 with a2|a2
      ·rw[a2];exact b2
      ·exact .inr a2
     ·rcases List.mem_cons.1 hy with rfl|hy
      ·have:=b3 l g he hg;omega
      ·exact a3 y hy l g he hg
   obtain⟨a1,a2,a3⟩:=hfold (stepL s f) (fun _ hx=>hx) b
   refine⟨a1,a2,fun l g he hg=>?_⟩
   rcases he.next (by omega)with⟨q,_⟩|⟨_,x,hx,he⟩
   ·have hlen:=(isPl_iff.1 he.p).2
    exact absurd (by rw[<- q];exact getD_memI (by omega)) hg
   ·exact a3 x hx l g he hg
theorem fewN_spec{s:Ord}(hk:OkO s):s.fewN<=25/\(s.fewN=25\/∃l g,s.isPl l=true/\plF s l s.ws.length=some g/\(-1:Int)∉l/\s.fewN=g.lacks)/\∀l g,s.isPl l=true->plF s l s.ws.length=some g->(-1:Int)∉l->s.fewN<=g.lacks:=by
 obtain⟨a,b,c⟩:=few_spec hk s.ws.length (emF s) 25 (rch_em s) (by simp[emF]) (by simp[emF])
 refine⟨a,b.imp id ?_,fun l g hl hg h0=>c l g ⟨hl,rfl,hg⟩ h0⟩
 rintro⟨g,h1,h2,h3,h4⟩
 obtain⟨h5,h6⟩:=h1.pl h2
 exact⟨g.pl,g,h5,h6,h3,h4⟩
def lsS(b n:Int):Int:=if 0<=n/\(b<0\/n<b) then n else b
def lsB(b:Int):Int:=if 0<=b then b+1 else b
def leastI:List Tk->List Dlv->Int
 | [],_=>0
 |t::l,ds=>if t.sp=[] then -1 else(giv t ds).foldl (fun b r=>lsS b (leastI l r)) (lsB (leastI l ds))
theorem lsS_bd{b n m:Int}(hb : -1<=b/\b<=m)(hn : -1<=n/\n<=m) : -1<=lsS b n/\lsS b n<=m:=by unfold lsS;split<;>omega
theorem least_bd:∀(l:List Tk) (ds:List Dlv), -1<=leastI l ds/\leastI l ds<=l.length
 | [],_=>by simp[leastI]
 |t::l,ds=>by
  unfold leastI
  rw[List.length_cons]
  split
  ·omega
  ·have h0:=least_bd l ds
   refine foldl_P (P:=fun b => -1<=b/\b<=((l.length+1:Nat):Int)) (fun b r _ hb=>lsS_bd hb ?_) ?_
   ·have:=least_bd l r;omega
   ·unfold lsB;split<;>omega
theorem fold_min{α : Type}(F : α -> Int):∀(L:List α) (b:Int),0<=b->(∀x∈L,0<=F x)->0<=L.foldl (fun b r=>lsS b (F r)) b/\L.foldl (fun b r=>lsS b (F r)) b<=b/\(∀x∈L,L.foldl (fun b r=>lsS b (F r)) b<=F x)/\(L.foldl (fun b r=>lsS b (F r)) b=b\/∃x∈L,L.foldl (fun b r=>lsS b (F r)) b=F x)
 | [],b,hb,_=>⟨hb,Int.le_refl _,(fun x hx=>by cases hx), .inl rfl⟩
 |x::L,b,hb,h=>by
  have hx:=h x (by simp)
  rw[List.foldl_cons]
  have e:lsS b (F x)=b/\b<=F x\/lsS b (F x)=F x/\F x<=b:=by unfold lsS;split<;>omega
  obtain⟨a1,a2,a3,a4⟩:=fold_min F L (lsS b (F x)) (by omega) (fun y hy=>h y (by simp[hy]))
  refine⟨a1,by omega,fun y hy=>?_,?_⟩
  ·rcases List.mem_cons.1 hy with rfl|hy
   ·omega
   ·exact a3 y hy
  ·rcases a4 with a4|⟨y,hy,a4⟩
   ·rcases e with e|e
    ·exact .inl (a4.trans e.1)
    ·exact .inr ⟨x,by simp,a4.trans e.1⟩
   ·exact .inr ⟨y,by simp[hy],a4⟩
theorem fold_neg{α : Type}(F : α -> Int):∀(L:List α) (b:Int),(∀x∈L,F x<0)->L.foldl (fun b r=>lsS b (F r)) b=b
 | [],_,_=>rfl
 |x::L,b,h=>by
  have hx:=h x (by simp)
  rw[List.foldl_cons,show lsS b (F x)=b by unfold lsS;rw[if_neg (by omega)]]
  exact fold_neg F L b (fun y hy=>h y (by simp[hy]))
theorem least_no:∀(l:List Tk) (ds:List Dlv),(∃t∈l,t.sp=[])->leastI l ds = -1
 | [],_,h=>by obtain⟨t,ht,_⟩:=h;cases ht
 |t::l,ds,h=>by
  unfold leastI
  split
  ·rfl
  ·rename_i hz
   have hl:∃t∈l,t.sp=[]:=by
    obtain⟨u,hu,h1⟩:=h
    rcases List.mem_cons.1 hu with rfl|hu
    ·exact absurd h1 hz
    ·exact⟨u,hu,h1⟩
   rw[fold_neg (leastI l) _ _ (fun r _=>by rw[least_no l r hl];omega),least_no l ds hl];rfl
theorem least_ach:∀(l:List Tk) (ds:List Dlv),(∀t∈l,t.sp≠[])->(∃n:Nat,leastI l ds=n/\Ach l ds n)/\∀n:Nat,Ach l ds n->leastI l ds<=n
 | [],_,_=>⟨⟨0,rfl,rfl⟩,fun n _=>by simp[leastI]⟩
 |t::l,ds,h=>by
  have hl:∀t∈l,t.sp≠[]:=fun u hu=>h u (by simp[hu])
  obtain⟨⟨m,h1,h2⟩,h3⟩:=least_ach l ds hl
  have ih:=fun r=>least_ach l r hl
  have hb:lsB (leastI l ds)=(m:Int)+1:=by unfold lsB;rw[h1,if_pos (by omega)]
  unfold leastI
  rw[if_neg (h t (by simp)),hb]
  obtain⟨a1,a2,a3,a4⟩:=fold_min (leastI l) (giv t ds) ((m:Int)+1) (by omega) (fun r _=>by obtain⟨⟨n,e,_⟩,_⟩:=ih r;omega)
  generalize (giv t ds).foldl (fun b r=>lsS b (leastI l r)) ((m:Int)+1)=v at a1 a2 a3 a4
  refine⟨?_,?_⟩
  ·rcases a4 with a4|⟨r,hr,a4⟩
   ·exact⟨m+1,by omega, .inl ⟨m,rfl,h2⟩⟩
   ·obtain⟨⟨n,e,hn⟩,_⟩:=ih r
    obtain⟨k,k1,k2,rfl⟩:=giv_mem.1 hr
    exact⟨n,by omega, .inr ⟨k,k1,k2,hn⟩⟩
  ·rintro n (⟨q,rfl,hq⟩|⟨k,k1,k2,hq⟩)
   ·have:=h3 q hq;omega
   ·have e1:=a3 _ (giv_mem.2 ⟨k,k1,k2,rfl⟩)
    have e2:=(ih (gS ds k)).2 n hq
    omega
theorem lsS_take{l:List Tk}{R:List (List Dlv)}{b c:Int}{k:Nat}(hk:k<R.length)(h:c=(R.take k).foldl (fun b r=>lsS b (leastI l r)) b):(R.take (k+1)).foldl (fun b r=>lsS b (leastI l r)) b=lsS c (leastI l R[k]):=by
 rw[List.take_succ_eq_append_getElem hk,List.foldl_append,<- h];rfl
theorem q108:∀(l:List Tk) (ds:List Dlv),TkO l->DsO ds->FnA Tryz.prog 108 [.isl (l.map Tk.av), .isl (ds.map Dlv.av)] (· = .int .i64 (leastI l ds))
 | [],ds,hl,hd=>by
  refine fnA 1 ok108 (by simp) ?_
  (conv=>whnf);(repeat'((first|apply bT|apply bF|apply bN|((first|apply bD|apply bEq|apply bNe)<;>intro hh<;>try(exfalso;omega))|refine wJ ?_|refine nJ ?_)<;>conv=>whnf))
  all_goals rfl
 |t::l,ds,hl,hd=>by
  have hl':TkO l:=⟨by have:=hl.ln;simp at this;omega,fun x hx=>hl.s x (by simp[hx])⟩
  have ih:=fun r (hr:r∈giv t ds)=>q108 l r hl' (giv_ok hd r hr)
  have ih0:=q108 l ds hl' hd
  have e1:=q134 t ds hd (hl.s t (by simp))
  have l1:((t::l).map Tk.av).length=l.length+1:=by simp
  have lS:(t.sp.map jAV).length=t.sp.length:=by simp
  have hll:=hl'.ln
  have g0:((t::l).map Tk.av).getD 0 []=t.av:=rfl
  have hone:=tk_one (t::l)
  have hsl:(((t::l).map Tk.av).take ((((t::l).map Tk.av).length:Int)).toNat).drop (1:Int).toNat=l.map Tk.av:=by
   rw[List.take_of_length_le (by omega)];rfl
  have hdo:leastI (t::l) ds=if t.sp=[] then -1 else(giv t ds).foldl (fun b r=>lsS b (leastI l r)) (lsB (leastI l ds)):=rfl
  rw[hdo]
  have hbd:=fun r=>least_bd l r
  have hlen:=givK_len t ds ds.length
  have hdl:=hd.l
  have hlen:(giv t ds).length<=100:=Nat.le_trans hlen hdl
  generalize giv t ds=R at ih e1 hlen
  have l2:(R.map dlAV).length=R.length:=by simp
  generalize hM:(t::l).map Tk.av=M at l1 g0 hone hsl
  have hav:t.av=[.int .i64 t.by_, .isl (t.sp.map jAV)]:=rfl
  rw[hav]at g0
  refine fnA 1 ok108 (by simp) ?_
  by_cases hz:t.sp=[]
  ·rw[if_pos hz]
   have:t.sp.length=0:=by rw[hz];rfl
   (conv=>whnf);(repeat'((first|apply bT|apply bF|apply bN|((first|apply bD|apply bEq|apply bNe)<;>intro hh<;>try(exfalso;omega))|refine iaJ g0 ?_|refine wJ ?_|refine nJ ?_)<;>conv=>whnf))
   all_goals rfl
  rw[if_neg hz]
  have hz1:t.sp.length≠0:=fun e=>hz (List.length_eq_zero_iff.1 e)
  have hb0:=hbd ds
  have hB:lsB (leastI l ds)=if 0<=leastI l ds then leastI l ds+1 else leastI l ds:=rfl
  generalize leastI l ds=b1 at ih0 hb0 hB⊢
  have hB1 : -1<=lsB b1/\lsB b1<=2000:=by rw[hB];split<;>omega
  rw[hav]at e1
  by_cases hp:0<=b1
  all_goals
   first|rw[if_pos hp]at hB|rw[if_neg hp]at hB
   (conv=>whnf);(repeat'((first|apply bT|apply bF|apply bN|((first|apply bD|apply bEq|apply bNe)<;>intro hh<;>try(exfalso;omega))|refine iaJ g0 ?_|refine slI (by omega) (by omega) (by omega) hone hsl ?_|refine ih0.cq rfl rfl ?_|refine e1.zq rfl rfl ?_|refine wJ ?_|refine nJ ?_)<;>conv=>whnf))
   first
    |refine loop_i (α :=Nat × Int) (fun q=>[(7, .int .i64 q.1),(6, .isl (R.map dlAV)),(5, .int .i64 q.2),(0, .isl M)]) (fun q=>[.fresh]) (fun q=>q.1<=R.length/\q.2=(R.take q.1).foldl (fun b r=>lsS b (leastI l r)) (lsB b1)) (fun q=>R.length-q.1) (0,b1+1) mI ⟨by simp,hB.symm⟩ ?_
    |refine loop_i (α :=Nat × Int) (fun q=>[(7, .int .i64 q.1),(6, .isl (R.map dlAV)),(5, .int .i64 q.2),(0, .isl M)]) (fun q=>[.fresh]) (fun q=>q.1<=R.length/\q.2=(R.take q.1).foldl (fun b r=>lsS b (leastI l r)) (lsB b1)) (fun q=>R.length-q.1) (0,b1) mI ⟨by simp,hB.symm⟩ ?_
   rintro⟨k,c⟩ ⟨hk0,hkb⟩
   dsimp only at hk0 hkb⊢
   conv=>whnf
   refine bD (fun h3=>?_) (fun h3=>?_)
   ·have hkl:k<R.length:=by omega
    have g1:=getM dlAV R k hkl
    have e2:=ih R[k] (List.getElem_mem hkl)
    have hn:=hbd R[k]
    have hsu:=lsS_take hkl hkb
    generalize leastI l R[k]=n at e2 hn hsu
    by_cases hj:0<=n/\(c<0\/n<c)
    ·rw[show lsS c n=n by unfold lsS;rw[if_pos hj]]at hsu
     (conv=>whnf);(repeat'((first|apply bT|apply bF|apply bN|((first|apply bD|apply bEq|apply bNe)<;>intro hh<;>try(exfalso;omega))|refine slI (by omega) (by omega) (by omega) hone hsl ?_|refine iaJ g1 ?_|refine e2.cq rfl rfl ?_|refine wJ ?_|refine nJ ?_)<;>conv=>whnf))
     all_goals exact⟨(k+1,n),mI,⟨by dsimp only;omega,hsu.symm⟩,by dsimp only;omega⟩
    ·rw[show lsS c n=c by unfold lsS;rw[if_neg hj]]at hsu
     (conv=>whnf);(repeat'((first|apply bT|apply bF|apply bN|((first|apply bD|apply bEq|apply bNe)<;>intro hh<;>try(exfalso;omega))|refine slI (by omega) (by omega) (by omega) hone hsl ?_|refine iaJ g1 ?_|refine e2.cq rfl rfl ?_|refine wJ ?_|refine nJ ?_)<;>conv=>whnf))
     all_goals exact⟨(k+1,c),mI,⟨by dsimp only;omega,hsu.symm⟩,by dsimp only;omega⟩
   ·have:k=R.length:=by omega
    subst this
    rw[List.take_length]at hkb
    rw[<- hkb]
    (conv=>whnf);(repeat'((first|apply bT|apply bF|apply bN|((first|apply bD|apply bEq|apply bNe)<;>intro hh<;>try(exfalso;omega))|refine wJ ?_|refine nJ ?_)<;>conv=>whnf))
    all_goals rfl
def Ord.buyI(s:Ord)(pl:List Int):Int:=if s.tkOk pl pl.length=true then leastI (s.tks pl pl.length) s.sup2 else -1
theorem q66(s:Ord)(hk:OkO s)(pl:List Int)(hpl:PlO s pl):FnA Tryz.prog 66 [.agg s.cells, .isl (s.ft.map ftAV), .isl (pl.map jAV)] (· = .int .i64 (s.buyI pl)):=by
 have e1:=q100 s hk pl hpl
 have e2:=w102 s (by have:=hk.st1;have:=hk.w.s1;omega) (by have:=hk.d1;omega)
 have e3:=q108 (s.tks pl pl.length) s.sup2 (tks_ok hk hpl) (sup2_ok hk)
 unfold Ord.tkAV at e1
 unfold Ord.buyI
 refine fnA 3 ok66 (by simp) ?_
 cases h:s.tkOk pl pl.length with
 |true=>
  rw[h,if_pos rfl]at e1
  rw[if_pos rfl]
  (conv=>whnf);(repeat'((first|apply bT|apply bF|apply bN|((first|apply bD|apply bEq|apply bNe)<;>intro hh<;>try(exfalso;omega))|refine e1.zq rfl rfl ?_|refine e2.zq rfl rfl ?_|refine e3.cq rfl rfl ?_|refine wJ ?_|refine nJ ?_)<;>conv=>whnf))
  all_goals rfl
 |false=>
  rw[h,if_neg (by simp)]at e1
  rw[if_neg (by simp)]
  (conv=>whnf);(repeat'((first|apply bT|apply bF|apply bN|((first|apply bD|apply bEq|apply bNe)<;>intro hh<;>try(exfalso;omega))|refine e1.zq rfl rfl ?_|refine e2.zq rfl rfl ?_|refine e3.cq rfl rfl ?_|refine wJ ?_|refine nJ ?_)<;>conv=>whnf))
  all_goals rfl
theorem q27(s:Ord)(hk:OkO s)(hT:s.w.noT=false)(pl:List Int)(hpl:PlO s pl):FnA Tryz.prog 27 [.agg s.cells, .isl (pl.map jAV)] (· = .int .i64 (s.buyI pl)):=by
 have e1:=q60 s hk hT
 have e2:=q66 s hk pl hpl
 refine fnA 2 ok27 (by simp) ?_
 (conv=>whnf);(repeat'((first|apply bT|apply bF|apply bN|((first|apply bD|apply bEq|apply bNe)<;>intro hh<;>try(exfalso;omega))|refine e1.zq rfl rfl ?_|refine e2.cq rfl rfl ?_|refine wJ ?_|refine nJ ?_)<;>conv=>whnf))
 all_goals rfl
def Ord.plG(s:Ord)(first:List Int)(p:Int):Bool:=decide (p = -1)||(decide (suitV (s.wish (first.length:Nat)) (s.piece p)≠0) && !decide (p∈first))
def Ord.plK(s:Ord)(f:List Int->List (List Int))(first:List Int):Nat->List (List Int)
 |0=>[]
 |k+1=>s.plK f first k++if s.plG first ((k:Int)-1)=true then f (first++[(k:Int)-1]) else []
def Ord.plansF(s:Ord):Nat->List Int->List (List Int)
 |0,first=>[first]
 |n+1,first=>s.plK (s.plansF n) first (s.ps.length+1)
theorem plK_len{s:Ord}{f:List Int->List (List Int)}{B:Nat}(hf:∀x,(f x).length<=B)(first:List Int):∀k,(s.plK f first k).length<=k*B
 |0=>by simp[Ord.plK]
 |k+1=>by
  simp only[Ord.plK,List.length_append]
  have:=plK_len (s:=s) hf first k
  have h2:=hf (first++[(k:Int)-1])
  rw[Nat.add_mul,Nat.one_mul]
  split
  ·omega
  ·simp;omega
theorem plans_len{s:Ord}(hp:s.ps.length<=4):∀n first,(s.plansF n first).length<=5 ^ n
 |0,_=>by simp[Ord.plansF]
 |n+1,first=>by
  simp only[Ord.plansF]
  have:=plK_len (s:=s) (plans_len hp n) first (s.ps.length+1)
  rw[Nat.pow_succ]
  have h2:(s.ps.length+1)*5 ^ n<=5*5 ^ n:=Nat.mul_le_mul_right _ (by omega)
  omega
theorem plans_125{s:Ord}(hp:s.ps.length<=4){n:Nat}(hn:n<=3)(first:List Int):(s.plansF n first).length<=125:=
 Nat.le_trans (plans_len hp n first) (Nat.pow_le_pow_right (by decide) hn)
theorem v83(s:Ord)(hk:OkO s)(hp:s.ps.length<=4)(hw:s.ws.length<=3):∀(n:Nat) (first:List Int),first.length+n=s.ws.length->FnA Tryz.prog 83 [.agg s.cells, .isl (first.map jAV)] (· = .isl ((s.plansF n first).map fAV)):=by
 intro n
 induction n with
 |zero=>
  intro first hn
  have l1:(first.map jAV).length=first.length:=by simp
  have l2:(s.ws.map Wish.av).length=s.ws.length:=by simp
  refine fnA 8 ok83 (by simp) ?_
  (conv=>whnf);(repeat'((first|apply bT|apply bF|apply bN|((first|apply bD|apply bEq|apply bNe)<;>intro hh<;>try(exfalso;omega))|refine wJ ?_|refine nJ ?_)<;>conv=>whnf))
  all_goals rfl
 |succ n ih=>
  intro first hn
  have l1:(first.map jAV).length=first.length:=by simp
  have l2:(s.ws.map Wish.av).length=s.ws.length:=by simp
  have l3:(s.ps.map Piece.av).length=s.ps.length:=by simp
  have hpl:s.plansF (n+1) first=s.plK (s.plansF n) first (s.ps.length+1):=rfl
  rw[hpl]
  have gw:=wget (s:=s) (i:=(first.length:Nat)) (isW_iff.2 ⟨by omega,by omega⟩)
  rw[show((first.length:Nat):Int).toNat=(first.map jAV).length by rw[l1];omega]at gw
  have hkl0:=fun k=>plK_len (s:=s) (f:=s.plansF n) (plans_125 hp (by omega)) first k
  refine fnA 9 ok83 (by simp) ?_
  (conv=>whnf);(repeat'((first|apply bT|apply bF|apply bN|((first|apply bD|apply bEq|apply bNe)<;>intro hh<;>try(exfalso;omega))|refine wJ ?_|refine nJ ?_)<;>conv=>whnf))
  refine loop_i (α :=Int × List (List AV)) (fun q=>[(7, .int .i64 q.1),(6, .row 8),(5, .int .i64 ↑(first.map jAV).length),(2, .own 0 0),(1, .isl (first.map jAV))]) (fun q=>[.box false s.cells, .fresh, .fresh, .fresh, .fresh, .fresh, .fresh, .fresh, .row false 27 1 q.2]) (fun q => -1<=q.1/\q.1<=s.ps.length/\q.2=(s.plK (s.plansF n) first (q.1+1).toNat).map fAV) (fun q=>(s.ps.length-q.1).toNat) (-1,[]) (mN 8) ⟨by simp,by dsimp only;omega,rfl⟩ ?_
  rintro⟨p,L⟩ ⟨hp0,hp1,hL⟩
  dsimp only at hp0 hp1 hL⊢
  obtain⟨k,hkp⟩:∃k:Nat,(k:Int)-1=p:=⟨(p+1).toNat,by omega⟩
  rw[show(p+1).toNat=k by omega]at hL
  have hLl:L.length<=k*125:=by rw[hL,List.length_map];exact hkl0 k
  have hsu:(s.plK (s.plansF n) first (k+1)).map fAV=L++(if s.plG first p=true then s.plansF n (first++[p]) else []).map fAV:=by
   simp only[Ord.plK,List.map_append,<- hL,hkp]
  rw[show k+1=(p+1+1).toNat by omega]at hsu
  conv=>whnf
  refine bD (fun h3=>?_) (fun h3=>?_)
  ·have hkl:p<s.ps.length:=by omega
   have hmore:(first++[p]).map jAV=first.map jAV++[[.int .i64 p]]:=by rw[List.map_append];rfl
   have e1:=ih (first++[p]) (by simp;omega)
   have h125:=plans_125 hp (n:=n) (by omega) (first++[p])
   have l4:((s.plansF n (first++[p])).map fAV).length=(s.plansF n (first++[p])).length:=by simp
   rw[hmore]at e1
   have hG:s.plG first p=(decide (p = -1)||(decide (suitV (s.wish (first.length:Nat)) (s.piece p)≠0) && !decide (p∈first))):=rfl
   generalize s.plansF n (first++[p])=P at e1 h125 l4 hsu
   have hfo:=f_one P
   clear hL hkl0 hmore
   by_cases h0:p = -1
   ·subst h0
    rw[if_pos (by rw[hG];rfl)]at hsu
    (conv=>whnf);(repeat'((first|apply bT|apply bF|apply bN|((first|apply bD|apply bEq|apply bNe)<;>intro hh<;>try(exfalso;omega))|(refine apI (j_one first) (by simp only[l1,List.length_nil];omega) ?_)|refine apI hfo (by omega) ?_|(refine apI (by simp[AV.one]) (by simp;omega) ?_)|refine e1.zq rfl rfl ?_|refine wJ ?_|refine nJ ?_)<;>conv=>whnf))
    exact⟨(-1+1,L++P.map fAV),(mR 8 7),⟨by dsimp only;omega,by dsimp only;omega,hsu.symm⟩,by dsimp only;omega⟩
   ·have hwi:=hk.w2 _ (wish_mem (s:=s) (i:=(first.length:Nat)) (isW_iff.2 ⟨by omega,by omega⟩))
    have hcs:(s.wish (first.length:Nat)).cs.length<=8:=by
     unfold okWi mark at hwi
     simp only[Bool.and_eq_true,decide_eq_true_eq]at hwi
     omega
    have gp:=pget (s:=s) (i:=p) (isP_iff.2 ⟨by omega,by omega⟩)
    have e2:=q80 (s.wish (first.length:Nat)) (s.piece p) (by omega)
    have e3:=p51 first p (by omega)
    rw[decide_eq_false h0,Bool.false_or]at hG
    generalize suitV (s.wish (first.length:Nat)) (s.piece p)=sv at e2 hG
    have no:s.plG first p=false->(s.plK (s.plansF n) first (p+1+1).toNat).map fAV=L:=fun h=>by rw[hsu,h];simp
    by_cases c1:sv=0
    ·have hm:=no (by rw[hG,decide_eq_false (fun h=>h c1)];rfl)
     (conv=>whnf);(repeat'((first|apply bT|apply bF|apply bN|((first|apply bD|apply bEq|apply bNe)<;>intro hh<;>try(exfalso;omega))|(refine apI (j_one first) (by simp only[l1,List.length_nil];omega) ?_)|(refine apI (by simp[AV.one]) (by simp;omega) ?_)|refine iaJ gw ?_|refine iaJ gp ?_|refine e2.cq rfl rfl ?_|refine wJ ?_|refine nJ ?_)<;>conv=>whnf))
     exact⟨(p+1,L),mI,⟨by dsimp only;omega,by dsimp only;omega,hm.symm⟩,by dsimp only;omega⟩
    by_cases c2:p∈first
    ·have hm:=no (by rw[hG,decide_eq_true c2];simp)
     rw[decide_eq_true c2]at e3
     (conv=>whnf);(repeat'((first|apply bT|apply bF|apply bN|((first|apply bD|apply bEq|apply bNe)<;>intro hh<;>try(exfalso;omega))|(refine apI (j_one first) (by simp only[l1,List.length_nil];omega) ?_)|(refine apI (by simp[AV.one]) (by simp;omega) ?_)|refine iaJ gw ?_|refine iaJ gp ?_|refine e2.cq rfl rfl ?_|refine e3.cq rfl rfl ?_|refine wJ ?_|refine nJ ?_)<;>conv=>whnf))
     exact⟨(p+1,L),mI,⟨by dsimp only;omega,by dsimp only;omega,hm.symm⟩,by dsimp only;omega⟩
    rw[decide_eq_false c2]at e3 hG
    rw[decide_eq_true (show sv≠0 from c1),show(true && !false)=true from rfl]at hG
    rw[if_pos hG]at hsu
    (conv=>whnf);(repeat'((first|apply bT|apply bF|apply bN|((first|apply bD|apply bEq|apply bNe)<;>intro hh<;>try(exfalso;omega))|(refine apI (j_one first) (by simp only[l1,List.length_nil];omega) ?_)|refine apI hfo (by omega) ?_|(refine apI (by simp[AV.one]) (by simp;omega) ?_)|refine iaJ gw ?_|refine iaJ gp ?_|refine e2.cq rfl rfl ?_|refine e3.cq rfl rfl ?_|refine e1.zq rfl rfl ?_|refine wJ ?_|refine nJ ?_)<;>conv=>whnf))
    exact⟨(p+1,L++P.map fAV),(mR 8 7),⟨by dsimp only;omega,by dsimp only;omega,hsu.symm⟩,by dsimp only;omega⟩
  ·have:k=s.ps.length+1:=by omega
   subst this
   rw[<- hL]
   (conv=>whnf);(repeat'((first|apply bT|apply bF|apply bN|((first|apply bD|apply bEq|apply bNe)<;>intro hh<;>try(exfalso;omega))|refine wJ ?_|refine nJ ?_)<;>conv=>whnf))
   all_goals rfl
end Go.Proofs
