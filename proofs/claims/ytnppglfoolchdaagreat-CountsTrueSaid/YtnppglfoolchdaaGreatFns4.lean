/- What each function of this program answers, proved by walking its body: the contracts that the law rests on, part 4. -/
import Derived.Test.YtnppglfoolchdaaGreatFns3
set_option linter.unusedSimpArgs false
set_option linter.unusedVariables false
set_option linter.unusedSectionVars false
namespace Go.Proofs
open Go.Eng
attribute [local irreducible] Go.Eng.brB Go.Eng.need Go.Eng.wrE Go.Eng.iaE Go.Eng.slE Go.Eng.apE Go.Eng.CallZ Go.Eng.CallE Go.Eng.VCallE Go.Eng.YldE Go.Eng.GoC Go.Eng.MeetsE Go.Eng.FnA Go.Eng.FnV
set_option maxRecDepth 100000
theorem err_b{r:Ru}{b:Bool}(he:r.err b=0):b=true:=(err_zero.1 he).2.1
theorem p16(r:Ru)(q:Int)(h:Sm r)(hf:Few r):FnA Tryz.prog 16 [.agg r.cells, .int .i64 q] (· = .tup [.int .i64 (if r.err (decide (0<=q/\q<=(r.ms.length:Int)-1))=0 then rgtC r.trs (r.ms.getD q.toNat ⟨0,0⟩) else 0), .int .i64 (r.err (decide (0<=q/\q<=(r.ms.length:Int)-1)))]):=by
 have e0:=p42 r q h
 by_cases he:r.err (decide (0<=q/\q<=(r.ms.length:Int)-1))=0
 case neg=>
  rw[if_neg he]
  generalize decide (0<=q/\q<=(r.ms.length:Int)-1)=b at *
  have e1:=p39e r b h hf he
  generalize r.err b=E at *
  refine fnA 14 ok16 (by simp) ?_
  (conv=>whnf);(repeat'((first|apply bT|apply bF|apply bN|((first|apply bD|apply bEq|apply bNe)<;>intro hh<;>try(exfalso;omega))|refine e0.cq rfl rfl ?_|refine e1.zq rfl rfl ?_|refine wJ ?_|refine nJ ?_)<;>conv=>whnf))
  all_goals rfl
 rw[if_pos he]
 have hb:=err_b he
 rw[hb]at e0 he⊢
 have hq:=of_decide_eq_true hb
 rw[he]
 obtain⟨k,rfl⟩:∃k:Nat,q=(k:Int):=⟨q.toNat,by omega⟩
 have e1:=p39 r true h hf he
 obtain⟨ho,hbs,hm,hfew,hne⟩:=rb hf he
 have e2:=p40_0 r _ 59 (fun _ _=>false) hbs hm hfew (fun k _ x _ _=>v41 k x)
 have hk:k<r.ms.length:=by omega
 rw[show((k:Nat):Int).toNat=k from Int.toNat_natCast k]
 have hM:(r.ms.map Met.av).length=r.ms.length:=by simp
 have g1:=gM r.ms k hk
 have hval:∀f∈trs r.bs r.ms r.w,(decide ((TL r.ms (fun _ _=>false) f).getD k 0=(r.ms.getD k ⟨0,0⟩).c))=rgtM (r.ms.getD k ⟨0,0⟩) f:=fun f _=>by
  rw[abv_tl hm hk];rfl
 refine fnA 14 ok16 (by simp) ?_
 (conv=>whnf);(repeat'((first|apply bT|apply bF|apply bN|((first|apply bD|apply bEq|apply bNe)<;>intro hh<;>try(exfalso;omega))|refine e0.cq rfl rfl ?_|refine e1.zq rfl rfl ?_|refine wJ ?_|refine nJ ?_)<;>conv=>whnf))
 refine e2.callwq [] rfl rfl trivial rfl rfl rfl rfl (fun r' outs hr=>?_)
 obtain⟨E,hr1,hr2,hR⟩:=hr
 subst hr1;subst hr2
 refine⟨⟨rfl,rfl,rfl,rfl⟩,?_⟩
 have hkey:=fun y=>hR.keys (fun t=>if t.getD k 0=(r.ms.getD k ⟨0,0⟩).c then 1 else 0) y
 have hEn:=hR.ne hne
 have hfin:∀(R W:Bool),(R=true<->∃j,j<E.length/\(E.getD j ([],0)).1.getD k 0=(r.ms.getD k ⟨0,0⟩).c)->(W=true<->∃j,j<E.length/\¬(E.getD j ([],0)).1.getD k 0=(r.ms.getD k ⟨0,0⟩).c)->rgtC r.trs (r.ms.getD k ⟨0,0⟩)=if W=false then 1 else if R=false then 2 else 3:=fun R W hRt hWt=>by
  have h1:R=true<->∃f∈trs r.bs r.ms r.w,rgtM (r.ms.getD k ⟨0,0⟩) f=true:=by
   rw[hRt]
   have:=hkey 1
   constructor
   ·rintro⟨j,hj,hv⟩
    obtain⟨f,hf,hv2⟩:=this.2 ⟨j,hj,by rw[if_pos hv]⟩
    refine⟨f,hf,?_⟩
    rw[<- hval f hf,decide_eq_true_eq]
    split at hv2
    ·assumption
    ·omega
   ·rintro⟨f,hf,hv⟩
    rw[<- hval f hf,decide_eq_true_eq]at hv
    obtain⟨j,hj,hv2⟩:=this.1 ⟨f,hf,by rw[if_pos hv]⟩
    refine⟨j,hj,?_⟩
    split at hv2
    ·assumption
    ·omega
  have h2:W=true<->∃f∈trs r.bs r.ms r.w,¬rgtM (r.ms.getD k ⟨0,0⟩) f=true:=by
   rw[hWt]
   have:=hkey 0
   constructor
   ·rintro⟨j,hj,hv⟩
    obtain⟨f,hf,hv2⟩:=this.2 ⟨j,hj,by rw[if_neg hv]⟩
    refine⟨f,hf,?_⟩
    rw[<- hval f hf,decide_eq_true_eq]
    split at hv2
    ·omega
    ·assumption
   ·rintro⟨f,hf,hv⟩
    rw[<- hval f hf,decide_eq_true_eq]at hv
    obtain⟨j,hj,hv2⟩:=this.1 ⟨f,hf,by rw[if_neg hv]⟩
    refine⟨j,hj,?_⟩
    split at hv2
    ·omega
    ·assumption
  have htr:r.trs=trs r.bs r.ms r.w:=rfl
  have hlen:0<r.trs.length:=List.length_pos_iff.2 hne
  unfold rgtC knwC
  cases hW:W with
  |false=>
   rw[hW]at h2
   have:r.trs.countP (rgtM (r.ms.getD k ⟨0,0⟩))=r.trs.length:=by
    rw[List.countP_eq_length]
    intro f hf
    exact Classical.byContradiction fun hn=>absurd (h2.2 ⟨f,hf,hn⟩) (by simp)
   simp only[if_pos this];simp
  |true=>
   obtain⟨f,hf,hn⟩:=h2.1 hW
   have n1:¬r.trs.countP (rgtM (r.ms.getD k ⟨0,0⟩))=r.trs.length:=fun e=>hn (List.countP_eq_length.1 e f hf)
   cases hRv:R with
   |false=>
    rw[hRv]at h1
    have:r.trs.countP (rgtM (r.ms.getD k ⟨0,0⟩))=0:=by
     rw[List.countP_eq_zero]
     intro f hf hh
     exact absurd (h1.2 ⟨f,hf,hh⟩) (by simp)
    simp only[if_neg n1,if_pos this];simp
   |true=>
    obtain⟨f,hf,hh⟩:=h1.1 hRv
    have:¬r.trs.countP (rgtM (r.ms.getD k ⟨0,0⟩))=0:=fun e=>List.countP_eq_zero.1 e f hf hh
    simp only[if_neg n1,if_neg this];simp
 clear hkey hval
 generalize rgtC r.trs (r.ms.getD k ⟨0,0⟩)=res at *
 (conv=>whnf);(repeat'((first|apply bT|apply bF|apply bN|((first|apply bD|apply bEq|apply bNe)<;>intro hh<;>try(exfalso;omega))|refine MrgE.bn ?_|refine wJ ?_|refine nJ ?_)<;>conv=>whnf))
 intro bn n hbn
 conv=>whnf
 refine loop_i (α :=List Nat × Bool × Bool) (fun x=>[(25, .row 8),(9, .bool x.2.2),(8, .bool x.2.1),(6, .own 6 0),(1, .int .i64 (k:Nat))]) (fun x=>[.fresh, .fresh, .fresh, .fresh, .fresh, .fresh, .box false r.cells, .mpb (kE E) (uE E) bn n, .itd [.row 7] n (mm bn x.1), .fresh, .fresh, .fresh, .fresh, .fresh])
  (fun x=>x.1.Nodup/\(∀j∈x.1,j<E.length)/\(x.2.1=true<->∃j,j∈x.1/\(E.getD j ([],0)).1.getD k 0=(r.ms.getD k ⟨0,0⟩).c)/\(x.2.2=true<->∃j,j∈x.1/\¬(E.getD j ([],0)).1.getD k 0=(r.ms.getD k ⟨0,0⟩).c)) (fun x=>E.length-x.1.length) ([],false,false) mI ⟨by simp,by simp,by simp,by simp⟩ ?_
 rintro⟨s,R,W⟩ ⟨hs1,hs2,hS1,hS2⟩
 dsimp only at hs1 hs2 hS1 hS2⊢
 conv=>whnf
 refine nxD6 hbn hR.len (fun j c0 c1 c2 c3 c4 c5 v hj hEj hns=>?_) (fun hall=>?_)
 ·have hjs:=mm_not hns
  have hsl:=met_lt hs1 hs2 hjs hj
  have hin:∀(P:Nat->Prop),(∃i,i∈s++[j]/\P i)<->(∃i,i∈s/\P i)\/P j:=fun P=>by
   constructor
   ·rintro⟨i,hi,hp⟩
    rcases List.mem_append.1 hi with hi|hi
    ·exact .inl ⟨i,hi,hp⟩
    ·simp only[List.mem_singleton]at hi;subst hi;exact .inr hp
   ·rintro(⟨i,hi,hp⟩|hp)
    ·exact⟨i,List.mem_append_left _ hi,hp⟩
    ·exact⟨j,by simp,hp⟩
  have step:∀(u:Int),(E.getD j ([],0)).1.getD k 0=u->(((R||decide (u=(r.ms.getD k ⟨0,0⟩).c))=true<->∃i,i∈s++[j]/\(E.getD i ([],0)).1.getD k 0=(r.ms.getD k ⟨0,0⟩).c)/\((W || !decide (u=(r.ms.getD k ⟨0,0⟩).c))=true<->∃i,i∈s++[j]/\¬(E.getD i ([],0)).1.getD k 0=(r.ms.getD k ⟨0,0⟩).c)):=fun u hu=>by
   rw[hin,hin,<- hS1,<- hS2,hu]
   cases R<;>cases W<;>simp
  have hfk:k=0\/k=1\/k=2\/k=3\/k=4:=by omega
  clear hfin e0 e1 e2
  rcases hfk with hk0|hk1|hk2|hk3|hk4
  ·have hki:k=0:=hk0
   have st:=step c0 (by rw[hEj];first|rfl|(subst hki;rfl))
   clear step
   by_cases hv:c0=(r.ms.getD k ⟨0,0⟩).c
   ·rw[decide_eq_true hv]at st
    subst hki
    have hbq:(c0==(r.ms.getD 0 ⟨0,0⟩).c)=true:=by simpa using hv
    cases R with
    |false=>
     cases W with
     |false=>
      (conv=>whnf);(repeat'((first|apply bT|apply bF|apply bN|((first|apply bD|apply bEq|apply bNe)<;>intro hh<;>try(exfalso;omega))|refine enD6 hbn hj hEj ?_|refine iaJ g1 ?_|refine wJ ?_|refine nJ ?_)<;>conv=>whnf))
      exact⟨(s++[j],true,false),by rw[mm_snoc];(try simp only[hbq,Bool.not_true,Bool.not_false]);exact mI,⟨nd_snoc hs1 hjs,lt_snoc hs2 hj,st.1,st.2⟩,by dsimp only;rw[List.length_append,List.length_singleton];omega⟩
     |true=>
      (conv=>whnf);(repeat'((first|apply bT|apply bF|apply bN|((first|apply bD|apply bEq|apply bNe)<;>intro hh<;>try(exfalso;omega))|refine enD6 hbn hj hEj ?_|refine iaJ g1 ?_|refine wJ ?_|refine nJ ?_)<;>conv=>whnf))
      exact⟨(s++[j],true,true),by rw[mm_snoc];(try simp only[hbq,Bool.not_true,Bool.not_false]);exact mI,⟨nd_snoc hs1 hjs,lt_snoc hs2 hj,st.1,st.2⟩,by dsimp only;rw[List.length_append,List.length_singleton];omega⟩
    |true=>
     cases W with
     |false=>
      (conv=>whnf);(repeat'((first|apply bT|apply bF|apply bN|((first|apply bD|apply bEq|apply bNe)<;>intro hh<;>try(exfalso;omega))|refine enD6 hbn hj hEj ?_|refine iaJ g1 ?_|refine wJ ?_|refine nJ ?_)<;>conv=>whnf))
      exact⟨(s++[j],true,false),by rw[mm_snoc];(try simp only[hbq,Bool.not_true,Bool.not_false]);exact mI,⟨nd_snoc hs1 hjs,lt_snoc hs2 hj,st.1,st.2⟩,by dsimp only;rw[List.length_append,List.length_singleton];omega⟩
     |true=>
      (conv=>whnf);(repeat'((first|apply bT|apply bF|apply bN|((first|apply bD|apply bEq|apply bNe)<;>intro hh<;>try(exfalso;omega))|refine enD6 hbn hj hEj ?_|refine iaJ g1 ?_|refine wJ ?_|refine nJ ?_)<;>conv=>whnf))
      exact⟨(s++[j],true,true),by rw[mm_snoc];(try simp only[hbq,Bool.not_true,Bool.not_false]);exact mI,⟨nd_snoc hs1 hjs,lt_snoc hs2 hj,st.1,st.2⟩,by dsimp only;rw[List.length_append,List.length_singleton];omega⟩
   ·rw[decide_eq_false hv]at st
    subst hki
    have hbq:(c0==(r.ms.getD 0 ⟨0,0⟩).c)=false:=by simpa using hv
    cases R with
    |false=>
     cases W with
     |false=>
      (conv=>whnf);(repeat'((first|apply bT|apply bF|apply bN|((first|apply bD|apply bEq|apply bNe)<;>intro hh<;>try(exfalso;omega))|refine enD6 hbn hj hEj ?_|refine iaJ g1 ?_|refine wJ ?_|refine nJ ?_)<;>conv=>whnf))
      exact⟨(s++[j],false,true),by rw[mm_snoc];(try simp only[hbq,Bool.not_true,Bool.not_false]);exact mI,⟨nd_snoc hs1 hjs,lt_snoc hs2 hj,st.1,st.2⟩,by dsimp only;rw[List.length_append,List.length_singleton];omega⟩
     |true=>
      (conv=>whnf);(repeat'((first|apply bT|apply bF|apply bN|((first|apply bD|apply bEq|apply bNe)<;>intro hh<;>try(exfalso;omega))|refine enD6 hbn hj hEj ?_|refine iaJ g1 ?_|refine wJ ?_|refine nJ ?_)<;>conv=>whnf))
      exact⟨(s++[j],false,true),by rw[mm_snoc];(try simp only[hbq,Bool.not_true,Bool.not_false]);exact mI,⟨nd_snoc hs1 hjs,lt_snoc hs2 hj,st.1,st.2⟩,by dsimp only;rw[List.length_append,List.length_singleton];omega⟩
    |true=>
     cases W with
     |false=>
      (conv=>whnf);(repeat'((first|apply bT|apply bF|apply bN|((first|apply bD|apply bEq|apply bNe)<;>intro hh<;>try(exfalso;omega))|refine enD6 hbn hj hEj ?_|refine iaJ g1 ?_|refine wJ ?_|refine nJ ?_)<;>conv=>whnf))
      exact⟨(s++[j],true,true),by rw[mm_snoc];(try simp only[hbq,Bool.not_true,Bool.not_false]);exact mI,⟨nd_snoc hs1 hjs,lt_snoc hs2 hj,st.1,st.2⟩,by dsimp only;rw[List.length_append,List.length_singleton];omega⟩
     |true=>
      (conv=>whnf);(repeat'((first|apply bT|apply bF|apply bN|((first|apply bD|apply bEq|apply bNe)<;>intro hh<;>try(exfalso;omega))|refine enD6 hbn hj hEj ?_|refine iaJ g1 ?_|refine wJ ?_|refine nJ ?_)<;>conv=>whnf))
      exact⟨(s++[j],true,true),by rw[mm_snoc];(try simp only[hbq,Bool.not_true,Bool.not_false]);exact mI,⟨nd_snoc hs1 hjs,lt_snoc hs2 hj,st.1,st.2⟩,by dsimp only;rw[List.length_append,List.length_singleton];omega⟩
  ·have hki:k=1:=hk1
   have st:=step c1 (by rw[hEj];first|rfl|(subst hki;rfl))
   clear step
   by_cases hv:c1=(r.ms.getD k ⟨0,0⟩).c
   ·rw[decide_eq_true hv]at st
    subst hki
    have hbq:(c1==(r.ms.getD 1 ⟨0,0⟩).c)=true:=by simpa using hv
    cases R with
    |false=>
     cases W with
     |false=>
      (conv=>whnf);(repeat'((first|apply bT|apply bF|apply bN|((first|apply bD|apply bEq|apply bNe)<;>intro hh<;>try(exfalso;omega))|refine enD6 hbn hj hEj ?_|refine iaJ g1 ?_|refine wJ ?_|refine nJ ?_)<;>conv=>whnf))
      exact⟨(s++[j],true,false),by rw[mm_snoc];(try simp only[hbq,Bool.not_true,Bool.not_false]);exact mI,⟨nd_snoc hs1 hjs,lt_snoc hs2 hj,st.1,st.2⟩,by dsimp only;rw[List.length_append,List.length_singleton];omega⟩
     |true=>
      (conv=>whnf);(repeat'((first|apply bT|apply bF|apply bN|((first|apply bD|apply bEq|apply bNe)<;>intro hh<;>try(exfalso;omega))|refine enD6 hbn hj hEj ?_|refine iaJ g1 ?_|refine wJ ?_|refine nJ ?_)<;>conv=>whnf))
      exact⟨(s++[j],true,true),by rw[mm_snoc];(try simp only[hbq,Bool.not_true,Bool.not_false]);exact mI,⟨nd_snoc hs1 hjs,lt_snoc hs2 hj,st.1,st.2⟩,by dsimp only;rw[List.length_append,List.length_singleton];omega⟩
    |true=>
     cases W with
     |false=>
      (conv=>whnf);(repeat'((first|apply bT|apply bF|apply bN|((first|apply bD|apply bEq|apply bNe)<;>intro hh<;>try(exfalso;omega))|refine enD6 hbn hj hEj ?_|refine iaJ g1 ?_|refine wJ ?_|refine nJ ?_)<;>conv=>whnf))
      exact⟨(s++[j],true,false),by rw[mm_snoc];(try simp only[hbq,Bool.not_true,Bool.not_false]);exact mI,⟨nd_snoc hs1 hjs,lt_snoc hs2 hj,st.1,st.2⟩,by dsimp only;rw[List.length_append,List.length_singleton];omega⟩
     |true=>
      (conv=>whnf);(repeat'((first|apply bT|apply bF|apply bN|((first|apply bD|apply bEq|apply bNe)<;>intro hh<;>try(exfalso;omega))|refine enD6 hbn hj hEj ?_|refine iaJ g1 ?_|refine wJ ?_|refine nJ ?_)<;>conv=>whnf))
      exact⟨(s++[j],true,true),by rw[mm_snoc];(try simp only[hbq,Bool.not_true,Bool.not_false]);exact mI,⟨nd_snoc hs1 hjs,lt_snoc hs2 hj,st.1,st.2⟩,by dsimp only;rw[List.length_append,List.length_singleton];omega⟩
   ·rw[decide_eq_false hv]at st
    subst hki
    have hbq:(c1==(r.ms.getD 1 ⟨0,0⟩).c)=false:=by simpa using hv
    cases R with
    |false=>
     cases W with
     |false=>
      (conv=>whnf);(repeat'((first|apply bT|apply bF|apply bN|((first|apply bD|apply bEq|apply bNe)<;>intro hh<;>try(exfalso;omega))|refine enD6 hbn hj hEj ?_|refine iaJ g1 ?_|refine wJ ?_|refine nJ ?_)<;>conv=>whnf))
      exact⟨(s++[j],false,true),by rw[mm_snoc];(try simp only[hbq,Bool.not_true,Bool.not_false]);exact mI,⟨nd_snoc hs1 hjs,lt_snoc hs2 hj,st.1,st.2⟩,by dsimp only;rw[List.length_append,List.length_singleton];omega⟩
     |true=>
      (conv=>whnf);(repeat'((first|apply bT|apply bF|apply bN|((first|apply bD|apply bEq|apply bNe)<;>intro hh<;>try(exfalso;omega))|refine enD6 hbn hj hEj ?_|refine iaJ g1 ?_|refine wJ ?_|refine nJ ?_)<;>conv=>whnf))
      exact⟨(s++[j],false,true),by rw[mm_snoc];(try simp only[hbq,Bool.not_true,Bool.not_false]);exact mI,⟨nd_snoc hs1 hjs,lt_snoc hs2 hj,st.1,st.2⟩,by dsimp only;rw[List.length_append,List.length_singleton];omega⟩
    |true=>
     cases W with
     |false=>
      (conv=>whnf);(repeat'((first|apply bT|apply bF|apply bN|((first|apply bD|apply bEq|apply bNe)<;>intro hh<;>try(exfalso;omega))|refine enD6 hbn hj hEj ?_|refine iaJ g1 ?_|refine wJ ?_|refine nJ ?_)<;>conv=>whnf))
      exact⟨(s++[j],true,true),by rw[mm_snoc];(try simp only[hbq,Bool.not_true,Bool.not_false]);exact mI,⟨nd_snoc hs1 hjs,lt_snoc hs2 hj,st.1,st.2⟩,by dsimp only;rw[List.length_append,List.length_singleton];omega⟩
     |true=>
      (conv=>whnf);(repeat'((first|apply bT|apply bF|apply bN|((first|apply bD|apply bEq|apply bNe)<;>intro hh<;>try(exfalso;omega))|refine enD6 hbn hj hEj ?_|refine iaJ g1 ?_|refine wJ ?_|refine nJ ?_)<;>conv=>whnf))
      exact⟨(s++[j],true,true),by rw[mm_snoc];(try simp only[hbq,Bool.not_true,Bool.not_false]);exact mI,⟨nd_snoc hs1 hjs,lt_snoc hs2 hj,st.1,st.2⟩,by dsimp only;rw[List.length_append,List.length_singleton];omega⟩
  ·have hki:k=2:=hk2
   have st:=step c2 (by rw[hEj];first|rfl|(subst hki;rfl))
   clear step
   by_cases hv:c2=(r.ms.getD k ⟨0,0⟩).c
   ·rw[decide_eq_true hv]at st
    subst hki
    have hbq:(c2==(r.ms.getD 2 ⟨0,0⟩).c)=true:=by simpa using hv
    cases R with
    |false=>
     cases W with
     |false=>
      (conv=>whnf);(repeat'((first|apply bT|apply bF|apply bN|((first|apply bD|apply bEq|apply bNe)<;>intro hh<;>try(exfalso;omega))|refine enD6 hbn hj hEj ?_|refine iaJ g1 ?_|refine wJ ?_|refine nJ ?_)<;>conv=>whnf))
      exact⟨(s++[j],true,false),by rw[mm_snoc];(try simp only[hbq,Bool.not_true,Bool.not_false]);exact mI,⟨nd_snoc hs1 hjs,lt_snoc hs2 hj,st.1,st.2⟩,by dsimp only;rw[List.length_append,List.length_singleton];omega⟩
     |true=>
      (conv=>whnf);(repeat'((first|apply bT|apply bF|apply bN|((first|apply bD|apply bEq|apply bNe)<;>intro hh<;>try(exfalso;omega))|refine enD6 hbn hj hEj ?_|refine iaJ g1 ?_|refine wJ ?_|refine nJ ?_)<;>conv=>whnf))
      exact⟨(s++[j],true,true),by rw[mm_snoc];(try simp only[hbq,Bool.not_true,Bool.not_false]);exact mI,⟨nd_snoc hs1 hjs,lt_snoc hs2 hj,st.1,st.2⟩,by dsimp only;rw[List.length_append,List.length_singleton];omega⟩
    |true=>
     cases W with
     |false=>
      (conv=>whnf);(repeat'((first|apply bT|apply bF|apply bN|((first|apply bD|apply bEq|apply bNe)<;>intro hh<;>try(exfalso;omega))|refine enD6 hbn hj hEj ?_|refine iaJ g1 ?_|refine wJ ?_|refine nJ ?_)<;>conv=>whnf))
      exact⟨(s++[j],true,false),by rw[mm_snoc];(try simp only[hbq,Bool.not_true,Bool.not_false]);exact mI,⟨nd_snoc hs1 hjs,lt_snoc hs2 hj,st.1,st.2⟩,by dsimp only;rw[List.length_append,List.length_singleton];omega⟩
     |true=>
      (conv=>whnf);(repeat'((first|apply bT|apply bF|apply bN|((first|apply bD|apply bEq|apply bNe)<;>intro hh<;>try(exfalso;omega))|refine enD6 hbn hj hEj ?_|refine iaJ g1 ?_|refine wJ ?_|refine nJ ?_)<;>conv=>whnf))
      exact⟨(s++[j],true,true),by rw[mm_snoc];(try simp only[hbq,Bool.not_true,Bool.not_false]);exact mI,⟨nd_snoc hs1 hjs,lt_snoc hs2 hj,st.1,st.2⟩,by dsimp only;rw[List.length_append,List.length_singleton];omega⟩
   ·rw[decide_eq_false hv]at st
    subst hki
    have hbq:(c2==(r.ms.getD 2 ⟨0,0⟩).c)=false:=by simpa using hv
    cases R with
    |false=>
     cases W with
     |false=>
      (conv=>whnf);(repeat'((first|apply bT|apply bF|apply bN|((first|apply bD|apply bEq|apply bNe)<;>intro hh<;>try(exfalso;omega))|refine enD6 hbn hj hEj ?_|refine iaJ g1 ?_|refine wJ ?_|refine nJ ?_)<;>conv=>whnf))
      exact⟨(s++[j],false,true),by rw[mm_snoc];(try simp only[hbq,Bool.not_true,Bool.not_false]);exact mI,⟨nd_snoc hs1 hjs,lt_snoc hs2 hj,st.1,st.2⟩,by dsimp only;rw[List.length_append,List.length_singleton];omega⟩
     |true=>
      (conv=>whnf);(repeat'((first|apply bT|apply bF|apply bN|((first|apply bD|apply bEq|apply bNe)<;>intro hh<;>try(exfalso;omega))|refine enD6 hbn hj hEj ?_|refine iaJ g1 ?_|refine wJ ?_|refine nJ ?_)<;>conv=>whnf))
      exact⟨(s++[j],false,true),by rw[mm_snoc];(try simp only[hbq,Bool.not_true,Bool.not_false]);exact mI,⟨nd_snoc hs1 hjs,lt_snoc hs2 hj,st.1,st.2⟩,by dsimp only;rw[List.length_append,List.length_singleton];omega⟩
    |true=>
     cases W with
     |false=>
      (conv=>whnf);(repeat'((first|apply bT|apply bF|apply bN|((first|apply bD|apply bEq|apply bNe)<;>intro hh<;>try(exfalso;omega))|refine enD6 hbn hj hEj ?_|refine iaJ g1 ?_|refine wJ ?_|refine nJ ?_)<;>conv=>whnf))
      exact⟨(s++[j],true,true),by rw[mm_snoc];(try simp only[hbq,Bool.not_true,Bool.not_false]);exact mI,⟨nd_snoc hs1 hjs,lt_snoc hs2 hj,st.1,st.2⟩,by dsimp only;rw[List.length_append,List.length_singleton];omega⟩
     |true=>
      (conv=>whnf);(repeat'((first|apply bT|apply bF|apply bN|((first|apply bD|apply bEq|apply bNe)<;>intro hh<;>try(exfalso;omega))|refine enD6 hbn hj hEj ?_|refine iaJ g1 ?_|refine wJ ?_|refine nJ ?_)<;>conv=>whnf))
      exact⟨(s++[j],true,true),by rw[mm_snoc];(try simp only[hbq,Bool.not_true,Bool.not_false]);exact mI,⟨nd_snoc hs1 hjs,lt_snoc hs2 hj,st.1,st.2⟩,by dsimp only;rw[List.length_append,List.length_singleton];omega⟩
  ·have hki:k=3:=hk3
   have st:=step c3 (by rw[hEj];first|rfl|(subst hki;rfl))
   clear step
   by_cases hv:c3=(r.ms.getD k ⟨0,0⟩).c
   ·rw[decide_eq_true hv]at st
    subst hki
    have hbq:(c3==(r.ms.getD 3 ⟨0,0⟩).c)=true:=by simpa using hv
    cases R with
    |false=>
     cases W with
     |false=>
      (conv=>whnf);(repeat'((first|apply bT|apply bF|apply bN|((first|apply bD|apply bEq|apply bNe)<;>intro hh<;>try(exfalso;omega))|refine enD6 hbn hj hEj ?_|refine iaJ g1 ?_|refine wJ ?_|refine nJ ?_)<;>conv=>whnf))
      exact⟨(s++[j],true,false),by rw[mm_snoc];(try simp only[hbq,Bool.not_true,Bool.not_false]);exact mI,⟨nd_snoc hs1 hjs,lt_snoc hs2 hj,st.1,st.2⟩,by dsimp only;rw[List.length_append,List.length_singleton];omega⟩
     |true=>
      (conv=>whnf);(repeat'((first|apply bT|apply bF|apply bN|((first|apply bD|apply bEq|apply bNe)<;>intro hh<;>try(exfalso;omega))|refine enD6 hbn hj hEj ?_|refine iaJ g1 ?_|refine wJ ?_|refine nJ ?_)<;>conv=>whnf))
      exact⟨(s++[j],true,true),by rw[mm_snoc];(try simp only[hbq,Bool.not_true,Bool.not_false]);exact mI,⟨nd_snoc hs1 hjs,lt_snoc hs2 hj,st.1,st.2⟩,by dsimp only;rw[List.length_append,List.length_singleton];omega⟩
    |true=>
     cases W with
     |false=>
      (conv=>whnf);(repeat'((first|apply bT|apply bF|apply bN|((first|apply bD|apply bEq|apply bNe)<;>intro hh<;>try(exfalso;omega))|refine enD6 hbn hj hEj ?_|refine iaJ g1 ?_|refine wJ ?_|refine nJ ?_)<;>conv=>whnf))
      exact⟨(s++[j],true,false),by rw[mm_snoc];(try simp only[hbq,Bool.not_true,Bool.not_false]);exact mI,⟨nd_snoc hs1 hjs,lt_snoc hs2 hj,st.1,st.2⟩,by dsimp only;rw[List.length_append,List.length_singleton];omega⟩
     |true=>
      (conv=>whnf);(repeat'((first|apply bT|apply bF|apply bN|((first|apply bD|apply bEq|apply bNe)<;>intro hh<;>try(exfalso;omega))|refine enD6 hbn hj hEj ?_|refine iaJ g1 ?_|refine wJ ?_|refine nJ ?_)<;>conv=>whnf))
      exact⟨(s++[j],true,true),by rw[mm_snoc];(try simp only[hbq,Bool.not_true,Bool.not_false]);exact mI,⟨nd_snoc hs1 hjs,lt_snoc hs2 hj,st.1,st.2⟩,by dsimp only;rw[List.length_append,List.length_singleton];omega⟩
   ·rw[decide_eq_false hv]at st
    subst hki
    have hbq:(c3==(r.ms.getD 3 ⟨0,0⟩).c)=false:=by simpa using hv
    cases R with
    |false=>
     cases W with
     |false=>
      (conv=>whnf);(repeat'((first|apply bT|apply bF|apply bN|((first|apply bD|apply bEq|apply bNe)<;>intro hh<;>try(exfalso;omega))|refine enD6 hbn hj hEj ?_|refine iaJ g1 ?_|refine wJ ?_|refine nJ ?_)<;>conv=>whnf))
      exact⟨(s++[j],false,true),by rw[mm_snoc];(try simp only[hbq,Bool.not_true,Bool.not_false]);exact mI,⟨nd_snoc hs1 hjs,lt_snoc hs2 hj,st.1,st.2⟩,by dsimp only;rw[List.length_append,List.length_singleton];omega⟩
     |true=>
      (conv=>whnf);(repeat'((first|apply bT|apply bF|apply bN|((first|apply bD|apply bEq|apply bNe)<;>intro hh<;>try(exfalso;omega))|refine enD6 hbn hj hEj ?_|refine iaJ g1 ?_|refine wJ ?_|refine nJ ?_)<;>conv=>whnf))
      exact⟨(s++[j],false,true),by rw[mm_snoc];(try simp only[hbq,Bool.not_true,Bool.not_false]);exact mI,⟨nd_snoc hs1 hjs,lt_snoc hs2 hj,st.1,st.2⟩,by dsimp only;rw[List.length_append,List.length_singleton];omega⟩
    |true=>
     cases W with
     |false=>
      (conv=>whnf);(repeat'((first|apply bT|apply bF|apply bN|((first|apply bD|apply bEq|apply bNe)<;>intro hh<;>try(exfalso;omega))|refine enD6 hbn hj hEj ?_|refine iaJ g1 ?_|refine wJ ?_|refine nJ ?_)<;>conv=>whnf))
      exact⟨(s++[j],true,true),by rw[mm_snoc];(try simp only[hbq,Bool.not_true,Bool.not_false]);exact mI,⟨nd_snoc hs1 hjs,lt_snoc hs2 hj,st.1,st.2⟩,by dsimp only;rw[List.length_append,List.length_singleton];omega⟩
     |true=>
      (conv=>whnf);(repeat'((first|apply bT|apply bF|apply bN|((first|apply bD|apply bEq|apply bNe)<;>intro hh<;>try(exfalso;omega))|refine enD6 hbn hj hEj ?_|refine iaJ g1 ?_|refine wJ ?_|refine nJ ?_)<;>conv=>whnf))
      exact⟨(s++[j],true,true),by rw[mm_snoc];(try simp only[hbq,Bool.not_true,Bool.not_false]);exact mI,⟨nd_snoc hs1 hjs,lt_snoc hs2 hj,st.1,st.2⟩,by dsimp only;rw[List.length_append,List.length_singleton];omega⟩
  ·have hki:k=4:=hk4
   have st:=step c4 (by rw[hEj];first|rfl|(subst hki;rfl))
   clear step
   by_cases hv:c4=(r.ms.getD k ⟨0,0⟩).c
   ·rw[decide_eq_true hv]at st
    subst hki
    have hbq:(c4==(r.ms.getD 4 ⟨0,0⟩).c)=true:=by simpa using hv
    cases R with
    |false=>
     cases W with
     |false=>
      (conv=>whnf);(repeat'((first|apply bT|apply bF|apply bN|((first|apply bD|apply bEq|apply bNe)<;>intro hh<;>try(exfalso;omega))|refine enD6 hbn hj hEj ?_|refine iaJ g1 ?_|refine wJ ?_|refine nJ ?_)<;>conv=>whnf))
      exact⟨(s++[j],true,false),by rw[mm_snoc];(try simp only[hbq,Bool.not_true,Bool.not_false]);exact mI,⟨nd_snoc hs1 hjs,lt_snoc hs2 hj,st.1,st.2⟩,by dsimp only;rw[List.length_append,List.length_singleton];omega⟩
     |true=>
      (conv=>whnf);(repeat'((first|apply bT|apply bF|apply bN|((first|apply bD|apply bEq|apply bNe)<;>intro hh<;>try(exfalso;omega))|refine enD6 hbn hj hEj ?_|refine iaJ g1 ?_|refine wJ ?_|refine nJ ?_)<;>conv=>whnf))
      exact⟨(s++[j],true,true),by rw[mm_snoc];(try simp only[hbq,Bool.not_true,Bool.not_false]);exact mI,⟨nd_snoc hs1 hjs,lt_snoc hs2 hj,st.1,st.2⟩,by dsimp only;rw[List.length_append,List.length_singleton];omega⟩
    |true=>
     cases W with
     |false=>
      (conv=>whnf);(repeat'((first|apply bT|apply bF|apply bN|((first|apply bD|apply bEq|apply bNe)<;>intro hh<;>try(exfalso;omega))|refine enD6 hbn hj hEj ?_|refine iaJ g1 ?_|refine wJ ?_|refine nJ ?_)<;>conv=>whnf))
      exact⟨(s++[j],true,false),by rw[mm_snoc];(try simp only[hbq,Bool.not_true,Bool.not_false]);exact mI,⟨nd_snoc hs1 hjs,lt_snoc hs2 hj,st.1,st.2⟩,by dsimp only;rw[List.length_append,List.length_singleton];omega⟩
     |true=>
      (conv=>whnf);(repeat'((first|apply bT|apply bF|apply bN|((first|apply bD|apply bEq|apply bNe)<;>intro hh<;>try(exfalso;omega))|refine enD6 hbn hj hEj ?_|refine iaJ g1 ?_|refine wJ ?_|refine nJ ?_)<;>conv=>whnf))
      exact⟨(s++[j],true,true),by rw[mm_snoc];(try simp only[hbq,Bool.not_true,Bool.not_false]);exact mI,⟨nd_snoc hs1 hjs,lt_snoc hs2 hj,st.1,st.2⟩,by dsimp only;rw[List.length_append,List.length_singleton];omega⟩
   ·rw[decide_eq_false hv]at st
    subst hki
    have hbq:(c4==(r.ms.getD 4 ⟨0,0⟩).c)=false:=by simpa using hv
    cases R with
    |false=>
     cases W with
     |false=>
      (conv=>whnf);(repeat'((first|apply bT|apply bF|apply bN|((first|apply bD|apply bEq|apply bNe)<;>intro hh<;>try(exfalso;omega))|refine enD6 hbn hj hEj ?_|refine iaJ g1 ?_|refine wJ ?_|refine nJ ?_)<;>conv=>whnf))
      exact⟨(s++[j],false,true),by rw[mm_snoc];(try simp only[hbq,Bool.not_true,Bool.not_false]);exact mI,⟨nd_snoc hs1 hjs,lt_snoc hs2 hj,st.1,st.2⟩,by dsimp only;rw[List.length_append,List.length_singleton];omega⟩
     |true=>
      (conv=>whnf);(repeat'((first|apply bT|apply bF|apply bN|((first|apply bD|apply bEq|apply bNe)<;>intro hh<;>try(exfalso;omega))|refine enD6 hbn hj hEj ?_|refine iaJ g1 ?_|refine wJ ?_|refine nJ ?_)<;>conv=>whnf))
      exact⟨(s++[j],false,true),by rw[mm_snoc];(try simp only[hbq,Bool.not_true,Bool.not_false]);exact mI,⟨nd_snoc hs1 hjs,lt_snoc hs2 hj,st.1,st.2⟩,by dsimp only;rw[List.length_append,List.length_singleton];omega⟩
    |true=>
     cases W with
     |false=>
      (conv=>whnf);(repeat'((first|apply bT|apply bF|apply bN|((first|apply bD|apply bEq|apply bNe)<;>intro hh<;>try(exfalso;omega))|refine enD6 hbn hj hEj ?_|refine iaJ g1 ?_|refine wJ ?_|refine nJ ?_)<;>conv=>whnf))
      exact⟨(s++[j],true,true),by rw[mm_snoc];(try simp only[hbq,Bool.not_true,Bool.not_false]);exact mI,⟨nd_snoc hs1 hjs,lt_snoc hs2 hj,st.1,st.2⟩,by dsimp only;rw[List.length_append,List.length_singleton];omega⟩
     |true=>
      (conv=>whnf);(repeat'((first|apply bT|apply bF|apply bN|((first|apply bD|apply bEq|apply bNe)<;>intro hh<;>try(exfalso;omega))|refine enD6 hbn hj hEj ?_|refine iaJ g1 ?_|refine wJ ?_|refine nJ ?_)<;>conv=>whnf))
      exact⟨(s++[j],true,true),by rw[mm_snoc];(try simp only[hbq,Bool.not_true,Bool.not_false]);exact mI,⟨nd_snoc hs1 hjs,lt_snoc hs2 hj,st.1,st.2⟩,by dsimp only;rw[List.length_append,List.length_singleton];omega⟩
 ·have hall2:=mm_all hbn hs2 hall
  have hf:=hfin R W (hS1.trans ⟨fun⟨j,hj,hp⟩=>⟨j,hs2 j hj,hp⟩,fun⟨j,hj,hp⟩=>⟨j,hall2 j hj,hp⟩⟩) (hS2.trans ⟨fun⟨j,hj,hp⟩=>⟨j,hs2 j hj,hp⟩,fun⟨j,hj,hp⟩=>⟨j,hall2 j hj,hp⟩⟩)
  cases W with
  |false=>
   rw[if_pos rfl]at hf
   rw[hf]
   (conv=>whnf);(repeat'((first|apply bT|apply bF|apply bN|((first|apply bD|apply bEq|apply bNe)<;>intro hh<;>try(exfalso;omega))|refine wJ ?_|refine nJ ?_)<;>conv=>whnf))
   all_goals rfl
  |true=>
   rw[if_neg (by simp)]at hf
   cases R with
   |false=>
    rw[if_pos rfl]at hf
    rw[hf]
    (conv=>whnf);(repeat'((first|apply bT|apply bF|apply bN|((first|apply bD|apply bEq|apply bNe)<;>intro hh<;>try(exfalso;omega))|refine wJ ?_|refine nJ ?_)<;>conv=>whnf))
    all_goals rfl
   |true=>
    rw[if_neg (by simp)]at hf
    rw[hf]
    (conv=>whnf);(repeat'((first|apply bT|apply bF|apply bN|((first|apply bD|apply bEq|apply bNe)<;>intro hh<;>try(exfalso;omega))|refine wJ ?_|refine nJ ?_)<;>conv=>whnf))
    all_goals rfl
def canB(r:Ru)(k:Nat)(x:Int):Bool:=decide (∃f,f∈trs r.bs r.ms r.w/\f.getD k 0=x)
theorem fsK_asc(lo:Int)(j:Nat):(fsK lo j).Pairwise (· < ·):=by
 unfold fsK
 refine List.Pairwise.map _ (fun a b h=>?_) List.pairwise_lt_range
 omega
theorem mem_fsK{lo:Int}{j:Nat}{x:Int}:x∈fsK lo j<->lo<=x/\x<lo+(j:Int):=by
 unfold fsK
 rw[List.mem_map]
 constructor
 ·rintro⟨i,hi,rfl⟩
  have:=List.mem_range.1 hi;omega
 ·rintro⟨h1,h2⟩
  exact⟨(x-lo).toNat,List.mem_range.2 (by omega),by omega⟩
theorem frc_fs{r:Ru}{n:Nat}(hbs:okBs n r.bs){k:Nat}(hk:k<r.bs.length):(fsB (r.bs.getD k ⟨0,0,0⟩)).filter (canB r k)=frc r.trs k:=by
 refine asc_eq ((fsK_asc _ _).filter _) (frc_asc _ _) fun x=>?_
 have hb:=hbs.2 _ (show r.bs.getD k ⟨0,0,0⟩∈r.bs by simp[List.getD_eq_getElem?_getD,hk])
 unfold okBlw at hb
 rw[List.mem_filter,show r.trs=trs r.bs r.ms r.w from rfl,mem_frc hbs hk]
 unfold canB
 rw[decide_eq_true_eq]
 constructor
 ·exact fun h=>h.2
 ·intro h
  refine⟨?_,h⟩
  obtain⟨f,hf,hx⟩:=h
  have:=(isC_iff.1 (mem_trs.1 hf).1).2 k hk
  unfold fsB wid
  rw[mem_fsK];omega
theorem p18(r:Ru)(q:Int)(h:Sm r)(hf:Few r):FnA Tryz.prog 14 [.agg r.cells, .int .i64 q] (· = .tup [.isl ((frc (r.kn (decide (0<=q/\q<=(r.bs.length:Int)-1))) q.toNat).map i1), .int .i64 (r.err (decide (0<=q/\q<=(r.bs.length:Int)-1)))]):=by
 have e0:=p46 r q h
 by_cases he:r.err (decide (0<=q/\q<=(r.bs.length:Int)-1))=0
 case neg=>
  have hk:r.kn (decide (0<=q/\q<=(r.bs.length:Int)-1))=[]:=by rw[Ru.kn,if_neg he]
  rw[hk]
  have hfr:frc [] q.toNat=[]:=by
   unfold frc
   rw[List.filter_eq_nil_iff.2 (fun n _=>by simp)];rfl
  rw[hfr]
  generalize decide (0<=q/\q<=(r.bs.length:Int)-1)=b at *
  have e1:=p39e r b h hf he
  generalize r.err b=E at *
  refine fnA 14 ok14 (by simp) ?_
  (conv=>whnf);(repeat'((first|apply bT|apply bF|apply bN|((first|apply bD|apply bEq|apply bNe)<;>intro hh<;>try(exfalso;omega))|refine e0.cq rfl rfl ?_|refine e1.zq rfl rfl ?_|refine wJ ?_|refine nJ ?_)<;>conv=>whnf))
  all_goals rfl
 have hb:=err_b he
 have hkn:r.kn (decide (0<=q/\q<=(r.bs.length:Int)-1))=r.trs:=by rw[Ru.kn,if_pos he]
 rw[hkn]
 rw[hb]at e0 he⊢
 have hq:=of_decide_eq_true hb
 rw[he]
 clear hkn hb
 obtain⟨k,rfl⟩:∃k:Nat,q=(k:Int):=⟨q.toNat,by omega⟩
 have e1:=p39 r true h hf he
 obtain⟨ho,hbs,hm,hfew,hne⟩:=rb hf he
 have hk:k<r.bs.length:=by omega
 rw[show((k:Nat):Int).toNat=k from Int.toNat_natCast k]
 have hB:(r.bs.map Blw.av).length=r.bs.length:=by simp
 have g1:=gB r.bs k hk
 have hbl:=hbs.2 _ (show r.bs.getD k ⟨0,0,0⟩∈r.bs by simp[List.getD_eq_getElem?_getD,hk])
 have e3:=fun x=>p47 r k x hbs hm hfew hne hk
 have hres:=frc_fs hbs hk
 unfold fsB at hres
 have hw:=wid_pos hbl
 unfold okBlw at hbl
 have hwd:wid (r.bs.getD k ⟨0,0,0⟩)=((r.bs.getD k ⟨0,0,0⟩).hi+1-(r.bs.getD k ⟨0,0,0⟩).lo).toNat:=rfl
 generalize r.bs.getD k ⟨0,0,0⟩=b at *
 rw[<- hres]
 refine fnA 14 ok14 (by simp) ?_
 (conv=>whnf);(repeat'((first|apply bT|apply bF|apply bN|((first|apply bD|apply bEq|apply bNe)<;>intro hh<;>try(exfalso;omega))|refine e0.cq rfl rfl ?_|refine e1.zq rfl rfl ?_|refine iaJ g1 ?_|refine wJ ?_|refine nJ ?_)<;>conv=>whnf))
 refine loop_i (α :=Nat × Int) (fun x=>[(9, .int .i64 x.2),(8, .row 12),(6, .own 6 0),(1, .int .i64 (k:Nat))]) (fun x=>[.fresh, .fresh, .fresh, .fresh, .fresh, .fresh, .box false r.cells, .fresh, .fresh, .fresh, .fresh, .fresh, .row false 3 1 (((fsK b.lo x.1).filter (canB r k)).map i1), .fresh])
  (fun x=>x.1<=wid b/\x.2=b.lo+(x.1:Int)) (fun x=>wid b-x.1) (0,b.lo) (mA [(12,none)]) ⟨by omega,by simp⟩ ?_
 rintro⟨j,p⟩ ⟨hj,hp⟩
 dsimp only at hj hp⊢
 have hlen:((fsK b.lo j).filter (canB r k)).length<=j:=by
  have:=List.length_filter_le (canB r k) (fsK b.lo j)
  have h2:(fsK b.lo j).length=j:=by simp[fsK]
  omega
 have hL:(((fsK b.lo j).filter (canB r k)).map i1).length=((fsK b.lo j).filter (canB r k)).length:=by simp
 have hone:=i1_one ((fsK b.lo j).filter (canB r k))
 conv=>whnf
 refine iaJ g1 ?_
 conv=>whnf
 refine bD (fun h4=>?_) (fun h4=>?_)
 ·have hjl:j<wid b:=by omega
  have e4:=e3 p
  have hsuc:(fsK b.lo (j+1)).filter (canB r k)=(fsK b.lo j).filter (canB r k)++(if canB r k p=true then [p] else []):=by
   rw[fsK_suc,List.filter_append,<- hp,List.filter_cons,List.filter_nil]
  change FnA Tryz.prog 55 _ (· = .bool (canB r k p))at e4
  cases hc:canB r k p
  ·rw[hc]at e4
   rw[hc,if_neg (by simp),List.append_nil]at hsuc
   (conv=>whnf);(repeat'((first|apply bT|apply bF|apply bN|((first|apply bD|apply bEq|apply bNe)<;>intro hh<;>try(exfalso;omega))|refine e4.cq rfl rfl ?_|refine wJ ?_|refine nJ ?_)<;>conv=>whnf))
   exact⟨(j+1,p+1),by dsimp only;rw[hsuc];exact(mA [(12,some 12)]),⟨by dsimp only;omega,by dsimp only;omega⟩,by dsimp only;omega⟩
  ·rw[hc]at e4
   rw[hc,if_pos rfl]at hsuc
   (conv=>whnf);(repeat'((first|apply bT|apply bF|apply bN|((first|apply bD|apply bEq|apply bNe)<;>intro hh<;>try(exfalso;omega))|refine e4.cq rfl rfl ?_|refine apJ ?_|refine wJ ?_|refine nJ ?_)<;>conv=>whnf))
   exact⟨(j+1,p+1),by dsimp only;rw[hsuc,List.map_append];exact(mA [(12,some 8)]),⟨by dsimp only;omega,by dsimp only;omega⟩,by dsimp only;omega⟩
 ·have:j=wid b:=by omega
  subst this
  (conv=>whnf);(repeat'((first|apply bT|apply bF|apply bN|((first|apply bD|apply bEq|apply bNe)<;>intro hh<;>try(exfalso;omega))|refine wJ ?_|refine nJ ?_)<;>conv=>whnf))
  all_goals rfl
def fx:List Blw->List Int->List Blw
 |b::bs,x::l=>⟨b.a,x,x⟩::fx bs l
 |bs,_=>bs
theorem fx_nil(bs:List Blw):fx bs []=bs:=by cases bs<;>rfl
theorem fx_len:∀(bs:List Blw) (l:List Int),(fx bs l).length=bs.length
 | [],l=>by cases l<;>rfl
 |b::bs,[]=>rfl
 |b::bs,x::l=>by simp[fx,fx_len bs l]
theorem fx_set:∀ {bs:List Blw} {l:List Int} (x:Int),l.length<bs.length->(fx bs l).set l.length ⟨(bs.getD l.length ⟨0,0,0⟩).a,x,x⟩=fx bs (l++[x])
 | [],l,x,h=>by simp at h
 |b::bs,[],x,_=>by simp[fx,fx_nil]
 |b::bs,y::l,x,h=>by
  have:=fx_set (bs:=bs) (l:=l) x (by simpa using h)
  simp only[List.length_cons,List.cons_append,fx,List.set_cons_succ,List.getD_cons_succ,this]
theorem fx_reset:∀ {bs:List Blw} {l:List Int} (y x:Int),l.length<bs.length->(fx bs (l++[y])).set l.length ⟨(bs.getD l.length ⟨0,0,0⟩).a,x,x⟩=fx bs (l++[x])
 | [],l,y,x,h=>by simp at h
 |b::bs,[],y,x,_=>by simp[fx,fx_nil]
 |b::bs,z::l,y,x,h=>by
  have:=fx_reset (bs:=bs) (l:=l) y x (by simpa using h)
  simp only[List.length_cons,List.cons_append,fx,List.set_cons_succ,List.getD_cons_succ,this]
theorem fx_get:∀ {bs:List Blw} {l:List Int},l.length<bs.length->(fx bs l).getD l.length ⟨0,0,0⟩=bs.getD l.length ⟨0,0,0⟩
 | [],l,h=>by simp at h
 |b::bs,[],_=>rfl
 |b::bs,y::l,h=>by
  have:=fx_get (bs:=bs) (l:=l) (by simpa using h)
  simpa only[List.length_cons,fx,List.getD_cons_succ]using this
theorem fx_get1:∀ {bs:List Blw} {l:List Int} {y:Int},l.length<bs.length->(fx bs (l++[y])).getD l.length ⟨0,0,0⟩=⟨(bs.getD l.length ⟨0,0,0⟩).a,y,y⟩
 | [],l,y,h=>by simp at h
 |b::bs,[],y,_=>by simp[fx]
 |b::bs,z::l,y,h=>by
  have:=fx_get1 (bs:=bs) (l:=l) (y:=y) (by simpa using h)
  simpa only[List.length_cons,List.cons_append,fx,List.getD_cons_succ]using this
def inB:List Blw->List Int->Prop
 |_,[]=>True
 | [],_::_=>False
 |b::bs,x::l=>(b.lo<=x/\x<=b.hi)/\inB bs l
theorem inB_snoc:∀ {bs:List Blw} {l:List Int} {x:Int},l.length<bs.length->(inB bs (l++[x])<->inB bs l/\(bs.getD l.length ⟨0,0,0⟩).lo<=x/\x<=(bs.getD l.length ⟨0,0,0⟩).hi)
 | [],l,x,h=>by simp at h
 |b::bs,[],x,_=>by simp[inB]
 |b::bs,y::l,x,h=>by
  have:=inB_snoc (bs:=bs) (l:=l) (x:=x) (by simpa using h)
  simp only[List.cons_append,inB,this,List.length_cons,List.getD_cons_succ,and_assoc]
theorem isC_fx:∀ {bs:List Blw} {l f:List Int},inB bs l->(isC (fx bs l) f<->isC bs f/\f.take l.length=l)
 |bs,[],f,_=>by rw[fx_nil];simp
 | [],x::l,f,h=>h.elim
 |b::bs,x::l,[],h=>by simp[fx,isC]
 |b::bs,x::l,y::f,h=>by
  have ih:=isC_fx (bs:=bs) (l:=l) (f:=f) h.2
  have h1:=h.1
  simp only[fx,isC,ih,List.length_cons,List.take_succ_cons,List.cons.injEq]
  constructor
  ·rintro⟨⟨a1,a2⟩,a3,a4⟩
   exact⟨⟨by omega,a3⟩,by omega,a4⟩
  ·rintro⟨⟨a1,a2⟩,a3,a4⟩
   exact⟨by omega,a2,a4⟩
theorem fx_ok{n:Nat}:∀ {bs:List Blw} {l:List Int},inB bs l->(∀b∈bs,okBlw n b)->∀b∈fx bs l,okBlw n b
 |bs,[],_,hb=>by rw[fx_nil];exact hb
 | [],x::l,h,_=>h.elim
 |b::bs,x::l,h,hb=>by
  intro c hc
  simp only[fx,List.mem_cons]at hc
  rcases hc with rfl|hc
  ·have h1:=hb b (by simp)
   have h2:=h.1
   unfold okBlw at h1⊢
   dsimp only;omega
  ·exact fx_ok h.2 (fun b hb'=>hb b (by simp[hb'])) c hc
theorem fx_prd{n:Nat}:∀ {bs:List Blw} {l:List Int},inB bs l->(∀b∈bs,okBlw n b)->prd (fx bs l)<=prd bs
 |bs,[],_,hb=>by rw[fx_nil];exact Nat.le_refl _
 | [],x::l,h,_=>h.elim
 |b::bs,x::l,h,hb=>by
  have ih:=fx_prd (n:=n) h.2 (fun b hb'=>hb b (by simp[hb']))
  have h1:=(wid_pos (hb b (by simp))).1
  rw[show fx (b::bs) (x::l)=⟨b.a,x,x⟩::fx bs l from rfl,prd_cons,prd_cons]
  have:wid ⟨b.a,x,x⟩=1:=by unfold wid;dsimp only;omega
  rw[this,Nat.one_mul]
  exact Nat.le_trans ih (Nat.le_mul_of_pos_left _ (by omega))
def Beg(r:Ru)(l:List Int):Prop:=∃f,f∈r.trs/\f.take l.length=l
theorem beg_in{r:Ru}{l:List Int}(h:Beg r l)(hl:l.length<=r.bs.length):inB r.bs l:=by
 obtain⟨f,hf,e⟩:=h
 have hc:=(mem_trs.1 hf).1
 have:∀(bs:List Blw) (f l:List Int),isC bs f->f.take l.length=l->inB bs l:=by
  intro bs;induction bs with
  |nil=>intro f l hc e;cases f with
   |nil=>cases l with
    |nil=>trivial
    |cons a l=>simp at e
   |cons _ _=>exact hc.elim
  |cons b bs ih=>
   intro f l hc e
   cases l with
   |nil=>trivial
   |cons x l=>
    cases f with
    |nil=>exact hc.elim
    |cons y f=>
     simp only[List.length_cons,List.take_succ_cons,List.cons.injEq]at e
     exact⟨by have:=hc.1;rw[<- e.1];exact this,ih f l hc.2 e.2⟩
 exact this r.bs f l hc e
def Ru.fix(r:Ru)(l:List Int):Ru:=⟨r.d,fx r.bs l,r.ms,r.w⟩
theorem beg_iff{r:Ru}{l:List Int}(h:inB r.bs l):(r.fix l).trs≠[]<->Beg r l:=by
 constructor
 ·intro hn
  obtain⟨f,hf⟩:=List.exists_mem_of_ne_nil _ hn
  obtain⟨h1,h2⟩:=mem_trs.1 hf
  obtain⟨h3,h4⟩:=(isC_fx h).1 h1
  exact⟨f,mem_trs.2 ⟨h3,h2⟩,h4⟩
 ·rintro⟨f,hf,e⟩ hn
  obtain⟨h1,h2⟩:=mem_trs.1 hf
  have:f∈(r.fix l).trs:=mem_trs.2 ⟨(isC_fx h).2 ⟨h1,e⟩,h2⟩
  rw[hn]at this;cases this
theorem beg_next{r:Ru}{l:List Int}(h:Beg r l)(hl:l.length<r.bs.length):∃x,(r.bs.getD l.length ⟨0,0,0⟩).lo<=x/\x<=(r.bs.getD l.length ⟨0,0,0⟩).hi/\Beg r (l++[x]):=by
 obtain⟨f,hf,e⟩:=h
 have hc:=isC_iff.1 (mem_trs.1 hf).1
 refine⟨f.getD l.length 0,(hc.2 _ hl).1,(hc.2 _ hl).2,f,hf,?_⟩
 have hlt:l.length<f.length:=by rw[hc.1];exact hl
 rw[List.length_append,List.length_singleton,List.take_succ_eq_append_getElem hlt,e,List.getD_eq_getElem?_getD,List.getElem?_eq_getElem hlt];rfl
theorem beg_full{r:Ru}{l:List Int}(h:Beg r l)(hl:l.length=r.bs.length):l∈r.trs:=by
 obtain⟨f,hf,e⟩:=h
 have hc:=isC_len (mem_trs.1 hf).1
 have:f=l:=by rw[<- e,hl,<- hc,List.take_length]
 rw[<- this];exact hf
theorem FnA.isl0{P:Program}{f:FuncId}{R:AV->Prop}(h1:FnA P f [.nils] R)(h2:∀a c,FnA P f [.lit (.slice (some a) 0 c)] R):FnA P f [.isl []] R:=by
 unfold FnA at h1 h2⊢
 intro imm w vs himm hargs
 simp only[RV0s]at hargs
 obtain⟨v,vs',rfl,hv,rfl⟩:=hargs
 simp only[RV0]at hv
 rcases hv with⟨⟨a,hv⟩,_⟩|⟨sz,b,off,cap,hv,_⟩
 ·cases a with
  |none=>exact h1 imm w [v] himm (by simp only[RV0s,RV0];exact⟨v,[],rfl,hv,rfl⟩)
  |some a=>exact h2 a 0 imm w [v] himm (by simp only[RV0s,RV0];exact⟨v,[],rfl,hv,rfl⟩)
 ·exact h2 _ cap imm w [v] himm (by simp only[RV0s,RV0];exact⟨v,[],rfl,hv,rfl⟩)
theorem z102e:FnA Tryz.prog 102 [.isl []] (· = .isl []):=by
 refine FnA.isl0 ?_ fun a c=>?_
 ·refine fnA 2 ok102 (by simp) ?_
  (conv=>whnf);(repeat'((first|apply bT|apply bF|apply bN|((first|apply bD|apply bEq|apply bNe)<;>intro hh<;>try(exfalso;omega))|refine wJ ?_|refine nJ ?_)<;>conv=>whnf))
  all_goals rfl
 ·refine fnA 2 ok102 (by simp) ?_
  (conv=>whnf);(repeat'((first|apply bT|apply bF|apply bN|((first|apply bD|apply bEq|apply bNe)<;>intro hh<;>try(exfalso;omega))|refine apI (by simp[AV.one]) (by simp) ?_|refine wJ ?_|refine nJ ?_)<;>conv=>whnf))
  all_goals rfl
theorem z102(t:List Blw)(h0:0<t.length)(ht:t.length<=1000):FnO Tryz.prog 102 [.isl (t.map Blw.av)] (fun r rows=>r = .row 1/\rows=[(1, .row false 67 3 (t.map Blw.av))]):=by
 have hL:(t.map Blw.av).length=t.length:=by simp
 refine fnO 2 ok102 (by simp) ?_
 (conv=>whnf);(repeat'((first|apply bT|apply bF|apply bN|((first|apply bD|apply bEq|apply bNe)<;>intro hh<;>try(exfalso;omega))|(refine apI (fun e he=>blw_one t e he) (by simp only[List.length_nil,hL];omega) ?_)|refine wJ ?_|refine nJ ?_)<;>conv=>whnf))
 all_goals exact⟨rfl,rfl⟩
theorem z97(r:Ru)(l:List Int)(ho:r.ok=true)(hfew:prd r.bs<=600)(hl:inB r.bs l):FnA Tryz.prog 97 [.agg (r.fix l).cells] (· = .bool (decide ((r.fix l).trs≠[]))):=by
 obtain⟨_,hbs,hm,_,_⟩:=rok_iff.1 ho
 have h1:okBs r.d.rs.length (r.fix l).bs:=⟨by show(fx r.bs l).length<=8;rw[fx_len];exact hbs.1,fx_ok hl hbs.2⟩
 have:=p69 (r.fix l) _ h1 hm (Nat.le_trans (fx_prd hl hbs.2) hfew)
 rw[show decide (few (r.fix l).bs (r.fix l).ms<=(r.fix l).w)=decide ((r.fix l).trs≠[]) from decide_eq_decide.2 (few_iff h1)]at this
 exact this
theorem set_av(cu:List Blw)(k:Nat)(x:Int)(hk:k<cu.length):(cu.map Blw.av).set k [.int .i64 (cu.getD k ⟨0,0,0⟩).a, .int .i64 x, .int .i64 x]=(cu.set k ⟨(cu.getD k ⟨0,0,0⟩).a,x,x⟩).map Blw.av:=by
 rw[List.map_set];rfl
theorem z70(r:Ru)(ho:r.ok=true)(hfew:prd r.bs<=600)(hne:r.trs≠[]):FnA Tryz.prog 70 [.agg r.cells] (fun v=>∃l:List Int,v = .isl (l.map i1)/\l∈r.trs):=by
 obtain⟨_,hbs,hm,_,_⟩:=rok_iff.1 ho
 have hbl:=hbs.1
 by_cases h0:r.bs=[]
 ·have e0:=z102e
  have hB:r.bs.map Blw.av=[]:=by rw[h0];rfl
  have hmem:[]∈r.trs:=by
   obtain⟨f,hf⟩:=List.exists_mem_of_ne_nil _ hne
   have:=isC_len (mem_trs.1 hf).1
   rw[h0]at this
   cases f with
   |nil=>exact hf
   |cons _ _=>simp at this
  have hc:r.cells=[.isl (r.d.f.ss.map Sec.av), .int .i64 r.d.f.lo, .int .i64 r.d.f.hi, .int .i64 r.d.f.en, .int .i64 r.d.f.ed, .int .i64 r.d.f.rod, .int .i64 r.d.f.cs, .isl (r.d.rs.map s2), .isl (r.d.sh.map i1), .isl [], .isl (r.ms.map Met.av), .int .i64 r.w]:=by
   rw[<- hB];rfl
  rw[hc]
  refine fnA 8 ok70 (by simp) ?_
  (conv=>whnf);(repeat'((first|apply bT|apply bF|apply bN|((first|apply bD|apply bEq|apply bNe)<;>intro hh<;>try(exfalso;omega))|refine e0.zq rfl rfl ?_|refine wJ ?_|refine nJ ?_)<;>conv=>whnf))
  refine loop_i (α :=Unit) (fun _=>[(17, .int .i64 0),(16, .int .i64 0),(3, .nils)]) (fun _=>[.fresh, .fresh, .fresh, .fresh, .fresh, .fresh, .fresh, .fresh]) (fun _=>True) (fun _=>0) () mI trivial ?_
  rintro⟨⟩ _
  (conv=>whnf);(repeat'((first|apply bT|apply bF|apply bN|((first|apply bD|apply bEq|apply bNe)<;>intro hh<;>try(exfalso;omega))|refine wJ ?_|refine nJ ?_)<;>conv=>whnf))
  all_goals exact⟨[],rfl,hmem⟩
 have hpos:0<r.bs.length:=List.length_pos_iff.2 h0
 have e0:=z102 r.bs hpos (by omega)
 have hB:∀cu:List Blw,(cu.map Blw.av).length=cu.length:=fun cu=>by simp
 have hz:=fun l hl=>z97 r l ho hfew hl
 have hbeg0:Beg r []:=by
  obtain⟨f,hf⟩:=List.exists_mem_of_ne_nil _ hne
  exact⟨f,hf,by simp⟩
 have hst:∀l,(r.fix l).cells=[.isl (r.d.f.ss.map Sec.av), .int .i64 r.d.f.lo, .int .i64 r.d.f.hi, .int .i64 r.d.f.en, .int .i64 r.d.f.ed, .int .i64 r.d.f.rod, .int .i64 r.d.f.cs, .isl (r.d.rs.map s2), .isl (r.d.sh.map i1), .isl ((fx r.bs l).map Blw.av), .isl (r.ms.map Met.av), .int .i64 r.w]:=fun l=>rfl
 have hn:=hB r.bs
 refine fnA 12 ok70 (by simp) ?_
 (conv=>whnf);(repeat'((first|apply bT|apply bF|apply bN|((first|apply bD|apply bEq|apply bNe)<;>intro hh<;>try(exfalso;omega))|refine e0.oq rfl rfl rfl ?_|refine wJ ?_|refine nJ ?_)<;>conv=>whnf))
 refine loop_i (α :=List Int) (fun l=>[(17, .int .i64 (l.length:Nat)),(16, .int .i64 (r.bs.map Blw.av).length),(15, .row 1),(3, .row 9),(1, .own 0 0)]) (fun l=>[.box false [.isl (r.d.f.ss.map Sec.av), .int .i64 r.d.f.lo, .int .i64 r.d.f.hi, .int .i64 r.d.f.en, .int .i64 r.d.f.ed, .int .i64 r.d.f.rod, .int .i64 r.d.f.cs, .isl (r.d.rs.map s2), .isl (r.d.sh.map i1), .row 1, .isl (r.ms.map Met.av), .int .i64 r.w], .row false 67 3 ((fx r.bs l).map Blw.av), .fresh, .fresh, .fresh, .fresh, .fresh, .fresh, .fresh, .row false 3 1 (l.map i1), .fresh, .fresh])
  (fun l=>l.length<=r.bs.length/\Beg r l) (fun l=>r.bs.length-l.length) [] (by rw[fx_nil];exact(mA [(9,none)])) ⟨by simp,hbeg0⟩ ?_
 rintro l ⟨hl,hb⟩
 have hL:=hB (fx r.bs l)
 have hfl:=fx_len r.bs l
 have hLi:(l.map i1).length=l.length:=by simp
 have hone:=i1_one l
 conv=>whnf
 refine bD (fun h3=>?_) (fun h3=>?_)
 ·have hlt:l.length<r.bs.length:=by omega
  have g1:=gB (fx r.bs l) l.length (by omega)
  rw[fx_get hlt]at g1
  obtain⟨x0,hx1,hx2,hx3⟩:=beg_next hb hlt
  have hin:∀x,(r.bs.getD l.length ⟨0,0,0⟩).lo<=x->x<=(r.bs.getD l.length ⟨0,0,0⟩).hi->inB r.bs (l++[x]):=fun x h1 h2=>(inB_snoc hlt).2 ⟨beg_in hb hl,h1,h2⟩
  have hmem:r.bs.getD l.length ⟨0,0,0⟩∈r.bs:=by simp[List.getD_eq_getElem?_getD,hlt]
  have hbb:=hbs.2 _ hmem
  unfold okBlw at hbb
  have hset:=fun x=>fx_set (bs:=r.bs) (l:=l) x hlt
  have hres:=fun y x=>fx_reset (bs:=r.bs) (l:=l) y x hlt
  have hg0:=fx_get (bs:=r.bs) (l:=l) hlt
  have hgy:=fun y=>fx_get1 (bs:=r.bs) (l:=l) (y:=y) hlt
  generalize r.bs.getD l.length ⟨0,0,0⟩=b at *
  (conv=>whnf);(repeat'((first|apply bT|apply bF|apply bN|((first|apply bD|apply bEq|apply bNe)<;>intro hh<;>try(exfalso;omega))|refine iaJ g1 ?_|refine wJ ?_|refine nJ ?_)<;>conv=>whnf))
  refine loop_i (α :=Int × List Blw) (fun x=>[(17, .int .i64 (l.length:Nat)),(16, .int .i64 (r.bs.map Blw.av).length),(15, .row 1),(6, .int .i64 x.1),(5, .own 2 0),(4, .int .i64 (l.length:Nat)),(3, .row 9),(1, .own 0 0)]) (fun x=>[.box false [.isl (r.d.f.ss.map Sec.av), .int .i64 r.d.f.lo, .int .i64 r.d.f.hi, .int .i64 r.d.f.en, .int .i64 r.d.f.ed, .int .i64 r.d.f.rod, .int .i64 r.d.f.cs, .isl (r.d.rs.map s2), .isl (r.d.sh.map i1), .row 1, .isl (r.ms.map Met.av), .int .i64 r.w], .row false 67 3 (x.2.map Blw.av), .box false [.int .i64 b.a, .int .i64 b.lo, .int .i64 b.hi], .fresh, .fresh, .fresh, .fresh, .fresh, .fresh, .row false 3 1 (l.map i1), .fresh, .fresh])
   (fun x=>b.lo<=x.1/\(∀y,b.lo<=y->y<x.1->¬Beg r (l++[y]))/\x.2.length=r.bs.length/\(∀y,x.2.set l.length ⟨b.a,y,y⟩=fx r.bs (l++[y]))/\(x.2.getD l.length ⟨0,0,0⟩).a=b.a) (fun x=>(b.hi+1-x.1).toNat) (b.lo,fx r.bs l) mI ⟨by omega,fun y h1 h2=>by omega,hfl,hset,by rw[hg0]⟩ ?_
  rintro⟨x,cu⟩ ⟨hx,hno,hcl,hcs,hca⟩
  dsimp only at hx hno hcl hcs hca⊢
  have hC:=hB cu
  have g2:=gB cu l.length (by omega)
  rw[hca]at g2
  conv=>whnf
  refine bD (fun h4=>?_) (fun h4=>?_)
  ·have hi:=hin x hx h4
   have e1:=hz _ hi
   rw[hst]at e1
   have hsa:=set_av cu l.length x (by omega)
   rw[hca,hcs]at hsa
   rw[<- hsa]at e1
   have hit:=beg_iff (r:=r) hi
   by_cases hB2:(r.fix (l++[x])).trs≠[]
   ·rw[decide_eq_true hB2]at e1
    have hb2:=hit.1 hB2
    (conv=>whnf);(repeat'((first|apply bT|apply bF|apply bN|((first|apply bD|apply bEq|apply bNe)<;>intro hh<;>try(exfalso;omega))|refine iaJ g2 ?_|refine e1.lq rfl rfl ?_|refine apJ ?_|refine wJ ?_|refine nJ ?_)<;>conv=>whnf))
    refine⟨l++[x],?_,⟨by rw[List.length_append,List.length_singleton];omega,hb2⟩,by rw[List.length_append,List.length_singleton];omega⟩
    rw[<- hsa,List.length_append,List.length_singleton,Int.natCast_add,Int.natCast_one,List.map_append]
    exact(mA [(9,some 4)])
   ·rw[decide_eq_false hB2]at e1
    have hb2:¬Beg r (l++[x]):=fun h=>hB2 (hit.2 h)
    (conv=>whnf);(repeat'((first|apply bT|apply bF|apply bN|((first|apply bD|apply bEq|apply bNe)<;>intro hh<;>try(exfalso;omega))|refine iaJ g2 ?_|refine e1.lq rfl rfl ?_|refine wJ ?_|refine nJ ?_)<;>conv=>whnf))
    refine⟨(x+1,fx r.bs (l++[x])),?_,⟨by dsimp only;omega,fun y h1 h2=>?_,fx_len _ _,fun y=>hres x y,by rw[hgy]⟩,by dsimp only;omega⟩
    ·dsimp only
     rw[<- hsa]
     exact mI
    ·dsimp only at h2
     by_cases e:y=x
     ·rw[e];exact hb2
     ·exact hno y h1 (by omega)
  ·exfalso
   exact hno x0 hx1 (by omega) hx3
 ·have:l.length=r.bs.length:=by omega
  (conv=>whnf);(repeat'((first|apply bT|apply bF|apply bN|((first|apply bD|apply bEq|apply bNe)<;>intro hh<;>try(exfalso;omega))|refine wJ ?_|refine nJ ?_)<;>conv=>whnf))
  all_goals exact⟨l,rfl,beg_full hb this⟩
theorem z28(r:Ru)(h:Sm r)(hf:Few r):FnA Tryz.prog 28 [.agg r.cells] (fun v=>∃l:List Int,v = .tup [.isl (l.map i1), .int .i64 (r.err true)]/\(r.err true=0->l∈r.trs)/\(r.err true≠0->l=[])):=by
 by_cases he:r.err true=0
 case neg=>
  have e1:=p39e r true h hf he
  generalize r.err true=E at *
  refine fnA 12 ok28 (by simp) ?_
  (conv=>whnf);(repeat'((first|apply bT|apply bF|apply bN|((first|apply bD|apply bEq|apply bNe)<;>intro hh<;>try(exfalso;omega))|refine e1.zq rfl rfl ?_|refine wJ ?_|refine nJ ?_)<;>conv=>whnf))
  all_goals exact⟨[],rfl,fun hh=>absurd hh he,fun _=>rfl⟩
 have e1:=p39 r true h hf he
 obtain⟨ho,hbs,hm,hfew,hne⟩:=rb hf he
 have e2:=z70 r ho hfew hne
 rw[he]
 refine fnA 12 ok28 (by simp) ?_
 (conv=>whnf);(repeat'((first|apply bT|apply bF|apply bN|((first|apply bD|apply bEq|apply bNe)<;>intro hh<;>try(exfalso;omega))|refine e1.zq rfl rfl ?_|refine wJ ?_|refine nJ ?_)<;>conv=>whnf))
 refine e2.callzq rfl rfl (fun v hv=>?_)
 obtain⟨l,hv1,hv2⟩:=hv
 subst hv1
 (conv=>whnf);(repeat'((first|apply bT|apply bF|apply bN|((first|apply bD|apply bEq|apply bNe)<;>intro hh<;>try(exfalso;omega))|refine wJ ?_|refine nJ ?_)<;>conv=>whnf))
 all_goals exact⟨l,rfl,fun _=>hv2,fun hh=>absurd rfl hh⟩
theorem prg:Prg where
 check r h _:=p37 r h
 few r h hf:=p14 r h hf
 forces r q h hf:=p18 r q h hf
 right r m h hf:=p16 r m h hf
 reads r L h hf:=p17 r L h hf
 many r h hf:=p15 r h hf
 stood r h hf:=p21 r h hf
 harm r h hf:=p22 r h hf
 shw r h hf:=z28 r h hf
end Go.Proofs
