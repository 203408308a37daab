/- What each function of this program answers, proved by walking its body: the contracts that the law rests on, part 4. -/
import Derived.Test.YtnppglfoolchdaaFns3
set_option linter.unusedSimpArgs false
set_option linter.unusedVariables false
set_option linter.unusedSectionVars false
namespace Go.Proofs
open Go.Eng
attribute [local irreducible] Go.Eng.brB Go.Eng.need Go.Eng.wrE Go.Eng.iaE Go.Eng.slE Go.Eng.apE Go.Eng.CallZ Go.Eng.CallE Go.Eng.VCallE Go.Eng.YldE Go.Eng.GoC Go.Eng.MeetsE Go.Eng.FnA Go.Eng.FnV
set_option maxRecDepth 100000
theorem err_b{r:Ru}{b:Bool}(he:r.err b=0):b=true:=(err_zero.1 he).2.1
theorem p16(r:Ru)(q:Int)(h:Sm r)(hf:Few r):FnA Try.prog 16 [.agg r.cells, .int .i64 q] (· = .tup [.int .i64 (if r.err (decide (0<=q/\q<=(r.ms.length:Int)-1))=0 then rgtC r.trs (r.ms.getD q.toNat ⟨0,0⟩) else 0), .int .i64 (r.err (decide (0<=q/\q<=(r.ms.length:Int)-1)))]):=by
 have e0:=p42 r q h
 by_cases he:r.err (decide (0<=q/\q<=(r.ms.length:Int)-1))=0
 case neg=>
  rw[if_neg he]
  generalize decide (0<=q/\q<=(r.ms.length:Int)-1)=b at *
  have e1:=p39e r b h hf he
  generalize r.err b=E at *
  refine fnA 14 ok16 (by simp) ?_
  (conv=>whnf);(repeat'((first|apply bT|apply bF|apply bN|((first|apply bD|apply bEq|apply bNe)<;>intro hh<;>try(exfalso;omega))|refine e0.cq rfl rfl ?_|refine e1.zq rfl rfl ?_|refine wJ ?_|refine nJ ?_)<;>conv=>whnf))
  all_goals rfl
 rw[if_pos he]
 have hb:=err_b he
 rw[hb]at e0 he⊢
 have hq:=of_decide_eq_true hb
 rw[he]
 obtain⟨k,rfl⟩:∃k:Nat,q=(k:Int):=⟨q.toNat,by omega⟩
 have e1:=p39 r true h hf he
 obtain⟨ho,hbs,hm,hfew,hne⟩:=rb hf he
 have e2:=p40_0 r _ 41 (fun _ _=>false) hbs hm hfew (fun k _ x _ _=>v41 k x)
 have hk:k<r.ms.length:=by omega
 rw[show((k:Nat):Int).toNat=k from Int.toNat_natCast k]
 have hM:(r.ms.map Met.av).length=r.ms.length:=by simp
 have g1:=gM r.ms k hk
 have hval:∀f∈trs r.bs r.ms r.w,(decide ((TL r.ms (fun _ _=>false) f).getD k 0=(r.ms.getD k ⟨0,0⟩).c))=rgtM (r.ms.getD k ⟨0,0⟩) f:=fun f _=>by
  rw[abv_tl hm hk];rfl
 refine fnA 14 ok16 (by simp) ?_
 (conv=>whnf);(repeat'((first|apply bT|apply bF|apply bN|((first|apply bD|apply bEq|apply bNe)<;>intro hh<;>try(exfalso;omega))|refine e0.cq rfl rfl ?_|refine e1.zq rfl rfl ?_|refine wJ ?_|refine nJ ?_)<;>conv=>whnf))
 refine e2.callwq [] rfl rfl trivial rfl rfl rfl rfl (fun r' outs hr=>?_)
 obtain⟨E,hr1,hr2,hR⟩:=hr
 subst hr1;subst hr2
 refine⟨⟨rfl,rfl,rfl,rfl⟩,?_⟩
 have hkey:=fun y=>hR.keys (fun t=>if t.getD k 0=(r.ms.getD k ⟨0,0⟩).c then 1 else 0) y
 have hEn:=hR.ne hne
 have hfin:∀(R W:Bool),(R=true<->∃j,j<E.length/\(E.getD j ([],0)).1.getD k 0=(r.ms.getD k ⟨0,0⟩).c)->(W=true<->∃j,j<E.length/\¬(E.getD j ([],0)).1.getD k 0=(r.ms.getD k ⟨0,0⟩).c)->rgtC r.trs (r.ms.getD k ⟨0,0⟩)=if W=false then 1 else if R=false then 2 else 3:=fun R W hRt hWt=>by
  have h1:R=true<->∃f∈trs r.bs r.ms r.w,rgtM (r.ms.getD k ⟨0,0⟩) f=true:=by
   rw[hRt]
   have:=hkey 1
   constructor
   ·rintro⟨j,hj,hv⟩
    obtain⟨f,hf,hv2⟩:=this.2 ⟨j,hj,by rw[if_pos hv]⟩
    refine⟨f,hf,?_⟩
    rw[<- hval f hf,decide_eq_true_eq]
    split at hv2
    ·assumption
    ·omega
   ·rintro⟨f,hf,hv⟩
    rw[<- hval f hf,decide_eq_true_eq]at hv
    obtain⟨j,hj,hv2⟩:=this.1 ⟨f,hf,by rw[if_pos hv]⟩
    refine⟨j,hj,?_⟩
    split at hv2
    ·assumption
    ·omega
  have h2:W=true<->∃f∈trs r.bs r.ms r.w,¬rgtM (r.ms.getD k ⟨0,0⟩) f=true:=by
   rw[hWt]
   have:=hkey 0
   constructor
   ·rintro⟨j,hj,hv⟩
    obtain⟨f,hf,hv2⟩:=this.2 ⟨j,hj,by rw[if_neg hv]⟩
    refine⟨f,hf,?_⟩
    rw[<- hval f hf,decide_eq_true_eq]
    split at hv2
    ·omega
    ·assumption
   ·rintro⟨f,hf,hv⟩
    rw[<- hval f hf,decide_eq_true_eq]at hv
    obtain⟨j,hj,hv2⟩:=this.1 ⟨f,hf,by rw[if_neg hv]⟩
    refine⟨j,hj,?_⟩
    split at hv2
    ·omega
    ·assumption
  have htr:r.trs=trs r.bs r.ms r.w:=rfl
  have hlen:0<r.trs.length:=List.length_pos_iff.2 hne
  unfold rgtC knwC
  cases hW:W with
  |false=>
   rw[hW]at h2
   have:r.trs.countP (rgtM (r.ms.getD k ⟨0,0⟩))=r.trs.length:=by
    rw[List.countP_eq_length]
    intro f hf
    exact Classical.byContradiction fun hn=>absurd (h2.2 ⟨f,hf,hn⟩) (by simp)
   simp only[if_pos this];simp
  |true=>
   obtain⟨f,hf,hn⟩:=h2.1 hW
   have n1:¬r.trs.countP (rgtM (r.ms.getD k ⟨0,0⟩))=r.trs.length:=fun e=>hn (List.countP_eq_length.1 e f hf)
   cases hRv:R with
   |false=>
    rw[hRv]at h1
    have:r.trs.countP (rgtM (r.ms.getD k ⟨0,0⟩))=0:=by
     rw[List.countP_eq_zero]
     intro f hf hh
     exact absurd (h1.2 ⟨f,hf,hh⟩) (by simp)
    simp only[if_neg n1,if_pos this];simp
   |true=>
    obtain⟨f,hf,hh⟩:=h1.1 hRv
    have:¬r.trs.countP (rgtM (r.ms.getD k ⟨0,0⟩))=0:=fun e=>List.countP_eq_zero.1 e f hf hh
    simp only[if_neg n1,if_neg this];simp
 clear hkey hval
 generalize rgtC r.trs (r.ms.getD k ⟨0,0⟩)=res at *
 (conv=>whnf);(repeat'((first|apply bT|apply bF|apply bN|((first|apply bD|apply bEq|apply bNe)<;>intro hh<;>try(exfalso;omega))|refine MrgE.bn ?_|refine wJ ?_|refine nJ ?_)<;>conv=>whnf))
 intro bn n hbn
 conv=>whnf
 refine loop_i (α :=List Nat × Bool × Bool) (fun x=>[(25, .row 8),(9, .bool x.2.2),(8, .bool x.2.1),(6, .own 6 0),(1, .int .i64 (k:Nat))]) (fun x=>[.fresh, .fresh, .fresh, .fresh, .fresh, .fresh, .box false r.cells, .mpb (kE E) (uE E) bn n, .itd [.row 7] n (mm bn x.1), .fresh, .fresh, .fresh, .fresh, .fresh])
  (fun x=>x.1.Nodup/\(∀j∈x.1,j<E.length)/\(x.2.1=true<->∃j,j∈x.1/\(E.getD j ([],0)).1.getD k 0=(r.ms.getD k ⟨0,0⟩).c)/\(x.2.2=true<->∃j,j∈x.1/\¬(E.getD j ([],0)).1.getD k 0=(r.ms.getD k ⟨0,0⟩).c)) (fun x=>E.length-x.1.length) ([],false,false) mI ⟨by simp,by simp,by simp,by simp⟩ ?_
 rintro⟨s,R,W⟩ ⟨hs1,hs2,hS1,hS2⟩
 dsimp only at hs1 hs2 hS1 hS2⊢
 conv=>whnf
 refine nxD6 hbn hR.len (fun j c0 c1 c2 c3 c4 c5 v hj hEj hns=>?_) (fun hall=>?_)
 ·have hjs:=mm_not hns
  have hsl:=met_lt hs1 hs2 hjs hj
  have hin:∀(P:Nat->Prop),(∃i,i∈s++[j]/\P i)<->(∃i,i∈s/\P i)\/P j:=fun P=>by
   constructor
   ·rintro⟨i,hi,hp⟩
    rcases List.mem_append.1 hi with hi|hi
    ·exact .inl ⟨i,hi,hp⟩
    ·simp only[List.mem_singleton]at hi;subst hi;exact .inr hp
   ·rintro(⟨i,hi,hp⟩|hp)
    ·exact⟨i,List.mem_append_left _ hi,hp⟩
    ·exact⟨j,by simp,hp⟩
  have step:∀(u:Int),(E.getD j ([],0)).1.getD k 0=u->(((R||decide (u=(r.ms.getD k ⟨0,0⟩).c))=true<->∃i,i∈s++[j]/\(E.getD i ([],0)).1.getD k 0=(r.ms.getD k ⟨0,0⟩).c)/\((W || !decide (u=(r.ms.getD k ⟨0,0⟩).c))=true<->∃i,i∈s++[j]/\¬(E.getD i ([],0)).1.getD k 0=(r.ms.getD k ⟨0,0⟩).c)):=fun u hu=>by
   rw[hin,hin,<- hS1,<- hS2,hu]
   cases R<;>cases W<;>simp
  have hfk:k=0\/k=1\/k=2\/k=3\/k=4:=by omega
  clear hfin e0 e1 e2
  rcases hfk with hk0|hk1|hk2|hk3|hk4
  ·have hki:k=0:=hk0
   have st:=step c0 (by rw[hEj];first|rfl|(subst hki;rfl))
   clear step
   by_cases hv:c0=(r.ms.getD k ⟨0,0⟩).c
   ·rw[decide_eq_true hv]at st
    subst hki
    have hbq:(c0==(r.ms.getD 0 ⟨0,0⟩).c)=true:=by simpa using hv
    cases R with
    |false=>
     cases W with
     |false=>
      (conv=>whnf);(repeat'((first|apply bT|apply bF|apply bN|((first|apply bD|apply bEq|apply bNe)<;>intro hh<;>try(exfalso;omega))|refine enD6 hbn hj hEj ?_|refine iaJ g1 ?_|refine wJ ?_|refine nJ ?_)<;>conv=>whnf))
      exact⟨(s++[j],true,false),by rw[mm_snoc];(try simp only[hbq,Bool.not_true,Bool.not_false]);exact mI,⟨nd_snoc hs1 hjs,lt_snoc hs2 hj,st.1,st.2⟩,by dsimp only;rw[List.length_append,List.length_singleton];omega⟩
     |true=>
      (conv=>whnf);(repeat'((first|apply bT|apply bF|apply bN|((first|apply bD|apply bEq|apply bNe)<;>intro hh<;>try(exfalso;omega))|refine enD6 hbn hj hEj ?_|refine iaJ g1 ?_|refine wJ ?_|refine nJ ?_)<;>conv=>whnf))
      exact⟨(s++[j],true,true),by rw[mm_snoc];(try simp only[hbq,Bool.not_true,Bool.not_false]);exact mI,⟨nd_snoc hs1 hjs,lt_snoc hs2 hj,st.1,st.2⟩,by dsimp only;rw[List.length_append,List.length_singleton];omega⟩
    |true=>
     cases W with
     |false=>
      (conv=>whnf);(repeat'((first|apply bT|apply bF|apply bN|((first|apply bD|apply bEq|apply bNe)<;>intro hh<;>try(exfalso;omega))|refine enD6 hbn hj hEj ?_|refine iaJ g1 ?_|refine wJ ?_|refine nJ ?_)<;>conv=>whnf))
      exact⟨(s++[j],true,false),by rw[mm_snoc];(try simp only[hbq,Bool.not_true,Bool.not_false]);exact mI,⟨nd_snoc hs1 hjs,lt_snoc hs2 hj,st.1,st.2⟩,by dsimp only;rw[List.length_append,List.length_singleton];omega⟩
     |true=>
      (conv=>whnf);(repeat'((first|apply bT|apply bF|apply bN|((first|apply bD|apply bEq|apply bNe)<;>intro hh<;>try(exfalso;omega))|refine enD6 hbn hj hEj ?_|refine iaJ g1 ?_|refine wJ ?_|refine nJ ?_)<;>conv=>whnf))
      exact⟨(s++[j],true,true),by rw[mm_snoc];(try simp only[hbq,Bool.not_true,Bool.not_false]);exact mI,⟨nd_snoc hs1 hjs,lt_snoc hs2 hj,st.1,st.2⟩,by dsimp only;rw[List.length_append,List.length_singleton];omega⟩
   ·rw[decide_eq_false hv]at st
    subst hki
    have hbq:(c0==(r.ms.getD 0 ⟨0,0⟩).c)=false:=by simpa using hv
    cases R with
    |false=>
     cases W with
     |false=>
      (conv=>whnf);(repeat'((first|apply bT|apply bF|apply bN|((first|apply bD|apply bEq|apply bNe)<;>intro hh<;>try(exfalso;omega))|refine enD6 hbn hj hEj ?_|refine iaJ g1 ?_|refine wJ ?_|refine nJ ?_)<;>conv=>whnf))
      exact⟨(s++[j],false,true),by rw[mm_snoc];(try simp only[hbq,Bool.not_true,Bool.not_false]);exact mI,⟨nd_snoc hs1 hjs,lt_snoc hs2 hj,st.1,st.2⟩,by dsimp only;rw[List.length_append,List.length_singleton];omega⟩
     |true=>
      (conv=>whnf);(repeat'((first|apply bT|apply bF|apply bN|((first|apply bD|apply bEq|apply bNe)<;>intro hh<;>try(exfalso;omega))|refine enD6 hbn hj hEj ?_|refine iaJ g1 ?_|refine wJ ?_|refine nJ ?_)<;>conv=>whnf))
      exact⟨(s++[j],false,true),by rw[mm_snoc];(try simp only[hbq,Bool.not_true,Bool.not_false]);exact mI,⟨nd_snoc hs1 hjs,lt_snoc hs2 hj,st.1,st.2⟩,by dsimp only;rw[List.length_append,List.length_singleton];omega⟩
    |true=>
     cases W with
     |false=>
      (conv=>whnf);(repeat'((first|apply bT|apply bF|apply bN|((first|apply bD|apply bEq|apply bNe)<;>intro hh<;>try(exfalso;omega))|refine enD6 hbn hj hEj ?_|refine iaJ g1 ?_|refine wJ ?_|refine nJ ?_)<;>conv=>whnf))
      exact⟨(s++[j],true,true),by rw[mm_snoc];(try simp only[hbq,Bool.not_true,Bool.not_false]);exact mI,⟨nd_snoc hs1 hjs,lt_snoc hs2 hj,st.1,st.2⟩,by dsimp only;rw[List.length_append,List.length_singleton];omega⟩
     |true=>
      (conv=>whnf);(repeat'((first|apply bT|apply bF|apply bN|((first|apply bD|apply bEq|apply bNe)<;>intro hh<;>try(exfalso;omega))|refine enD6 hbn hj hEj ?_|refine iaJ g1 ?_|refine wJ ?_|refine nJ ?_)<;>conv=>whnf))
      exact⟨(s++[j],true,true),by rw[mm_snoc];(try simp only[hbq,Bool.not_true,Bool.not_false]);exact mI,⟨nd_snoc hs1 hjs,lt_snoc hs2 hj,st.1,st.2⟩,by dsimp only;rw[List.length_append,List.length_singleton];omega⟩
  ·have hki:k=1:=hk1
   have st:=step c1 (by rw[hEj];first|rfl|(subst hki;rfl))
   clear step
   by_cases hv:c1=(r.ms.getD k ⟨0,0⟩).c
   ·rw[decide_eq_true hv]at st
    subst hki
    have hbq:(c1==(r.ms.getD 1 ⟨0,0⟩).c)=true:=by simpa using hv
    cases R with
    |false=>
     cases W with
     |false=>
      (conv=>whnf);(repeat'((first|apply bT|apply bF|apply bN|((first|apply bD|apply bEq|apply bNe)<;>intro hh<;>try(exfalso;omega))|refine enD6 hbn hj hEj ?_|refine iaJ g1 ?_|refine wJ ?_|refine nJ ?_)<;>conv=>whnf))
      exact⟨(s++[j],true,false),by rw[mm_snoc];(try simp only[hbq,Bool.not_true,Bool.not_false]);exact mI,⟨nd_snoc hs1 hjs,lt_snoc hs2 hj,st.1,st.2⟩,by dsimp only;rw[List.length_append,List.length_singleton];omega⟩
     |true=>
      (conv=>whnf);(repeat'((first|apply bT|apply bF|apply bN|((first|apply bD|apply bEq|apply bNe)<;>intro hh<;>try(exfalso;omega))|refine enD6 hbn hj hEj ?_|refine iaJ g1 ?_|refine wJ ?_|refine nJ ?_)<;>conv=>whnf))
      exact⟨(s++[j],true,true),by rw[mm_snoc];(try simp only[hbq,Bool.not_true,Bool.not_false]);exact mI,⟨nd_snoc hs1 hjs,lt_snoc hs2 hj,st.1,st.2⟩,by dsimp only;rw[List.length_append,List.length_singleton];omega⟩
    |true=>
     cases W with
     |false=>
      (conv=>whnf);(repeat'((first|apply bT|apply bF|apply bN|((first|apply bD|apply bEq|apply bNe)<;>intro hh<;>try(exfalso;omega))|refine enD6 hbn hj hEj ?_|refine iaJ g1 ?_|refine wJ ?_|refine nJ ?_)<;>conv=>whnf))
      exact⟨(s++[j],true,false),by rw[mm_snoc];(try simp only[hbq,Bool.not_true,Bool.not_false]);exact mI,⟨nd_snoc hs1 hjs,lt_snoc hs2 hj,st.1,st.2⟩,by dsimp only;rw[List.length_append,List.length_singleton];omega⟩
     |true=>
      (conv=>whnf);(repeat'((first|apply bT|apply bF|apply bN|((first|apply bD|apply bEq|apply bNe)<;>intro hh<;>try(exfalso;omega))|refine enD6 hbn hj hEj ?_|refine iaJ g1 ?_|refine wJ ?_|refine nJ ?_)<;>conv=>whnf))
      exact⟨(s++[j],true,true),by rw[mm_snoc];(try simp only[hbq,Bool.not_true,Bool.not_false]);exact mI,⟨nd_snoc hs1 hjs,lt_snoc hs2 hj,st.1,st.2⟩,by dsimp only;rw[List.length_append,List.length_singleton];omega⟩
   ·rw[decide_eq_false hv]at st
    subst hki
    have hbq:(c1==(r.ms.getD 1 ⟨0,0⟩).c)=false:=by simpa using hv
    cases R with
    |false=>
     cases W with
     |false=>
      (conv=>whnf);(repeat'((first|apply bT|apply bF|apply bN|((first|apply bD|apply bEq|apply bNe)<;>intro hh<;>try(exfalso;omega))|refine enD6 hbn hj hEj ?_|refine iaJ g1 ?_|refine wJ ?_|refine nJ ?_)<;>conv=>whnf))
      exact⟨(s++[j],false,true),by rw[mm_snoc];(try simp only[hbq,Bool.not_true,Bool.not_false]);exact mI,⟨nd_snoc hs1 hjs,lt_snoc hs2 hj,st.1,st.2⟩,by dsimp only;rw[List.length_append,List.length_singleton];omega⟩
     |true=>
      (conv=>whnf);(repeat'((first|apply bT|apply bF|apply bN|((first|apply bD|apply bEq|apply bNe)<;>intro hh<;>try(exfalso;omega))|refine enD6 hbn hj hEj ?_|refine iaJ g1 ?_|refine wJ ?_|refine nJ ?_)<;>conv=>whnf))
      exact⟨(s++[j],false,true),by rw[mm_snoc];(try simp only[hbq,Bool.not_true,Bool.not_false]);exact mI,⟨nd_snoc hs1 hjs,lt_snoc hs2 hj,st.1,st.2⟩,by dsimp only;rw[List.length_append,List.length_singleton];omega⟩
    |true=>
     cases W with
     |false=>
      (conv=>whnf);(repeat'((first|apply bT|apply bF|apply bN|((first|apply bD|apply bEq|apply bNe)<;>intro hh<;>try(exfalso;omega))|refine enD6 hbn hj hEj ?_|refine iaJ g1 ?_|refine wJ ?_|refine nJ ?_)<;>conv=>whnf))
      exact⟨(s++[j],true,true),by rw[mm_snoc];(try simp only[hbq,Bool.not_true,Bool.not_false]);exact mI,⟨nd_snoc hs1 hjs,lt_snoc hs2 hj,st.1,st.2⟩,by dsimp only;rw[List.length_append,List.length_singleton];omega⟩
     |true=>
      (conv=>whnf);(repeat'((first|apply bT|apply bF|apply bN|((first|apply bD|apply bEq|apply bNe)<;>intro hh<;>try(exfalso;omega))|refine enD6 hbn hj hEj ?_|refine iaJ g1 ?_|refine wJ ?_|refine nJ ?_)<;>conv=>whnf))
      exact⟨(s++[j],true,true),by rw[mm_snoc];(try simp only[hbq,Bool.not_true,Bool.not_false]);exact mI,⟨nd_snoc hs1 hjs,lt_snoc hs2 hj,st.1,st.2⟩,by dsimp only;rw[List.length_append,List.length_singleton];omega⟩
  ·have hki:k=2:=hk2
   have st:=step c2 (by rw[hEj];first|rfl|(subst hki;rfl))
   clear step
   by_cases hv:c2=(r.ms.getD k ⟨0,0⟩).c
   ·rw[decide_eq_true hv]at st
    subst hki
    have hbq:(c2==(r.ms.getD 2 ⟨0,0⟩).c)=true:=by simpa using hv
    cases R with
    |false=>
     cases W with
     |false=>
      (conv=>whnf);(repeat'((first|apply bT|apply bF|apply bN|((first|apply bD|apply bEq|apply bNe)<;>intro hh<;>try(exfalso;omega))|refine enD6 hbn hj hEj ?_|refine iaJ g1 ?_|refine wJ ?_|refine nJ ?_)<;>conv=>whnf))
      exact⟨(s++[j],true,false),by rw[mm_snoc];(try simp only[hbq,Bool.not_true,Bool.not_false]);exact mI,⟨nd_snoc hs1 hjs,lt_snoc hs2 hj,st.1,st.2⟩,by dsimp only;rw[List.length_append,List.length_singleton];omega⟩
     |true=>
      (conv=>whnf);(repeat'((first|apply bT|apply bF|apply bN|((first|apply bD|apply bEq|apply bNe)<;>intro hh<;>try(exfalso;omega))|refine enD6 hbn hj hEj ?_|refine iaJ g1 ?_|refine wJ ?_|refine nJ ?_)<;>conv=>whnf))
      exact⟨(s++[j],true,true),by rw[mm_snoc];(try simp only[hbq,Bool.not_true,Bool.not_false]);exact mI,⟨nd_snoc hs1 hjs,lt_snoc hs2 hj,st.1,st.2⟩,by dsimp only;rw[List.length_append,List.length_singleton];omega⟩
    |true=>
     cases W with
     |false=>
      (conv=>whnf);(repeat'((first|apply bT|apply bF|apply bN|((first|apply bD|apply bEq|apply bNe)<;>intro hh<;>try(exfalso;omega))|refine enD6 hbn hj hEj ?_|refine iaJ g1 ?_|refine wJ ?_|refine nJ ?_)<;>conv=>whnf))
      exact⟨(s++[j],true,false),by rw[mm_snoc];(try simp only[hbq,Bool.not_true,Bool.not_false]);exact mI,⟨nd_snoc hs1 hjs,lt_snoc hs2 hj,st.1,st.2⟩,by dsimp only;rw[List.length_append,List.length_singleton];omega⟩
     |true=>
      (conv=>whnf);(repeat'((first|apply bT|apply bF|apply bN|((first|apply bD|apply bEq|apply bNe)<;>intro hh<;>try(exfalso;omega))|refine enD6 hbn hj hEj ?_|refine iaJ g1 ?_|refine wJ ?_|refine nJ ?_)<;>conv=>whnf))
      exact⟨(s++[j],true,true),by rw[mm_snoc];(try simp only[hbq,Bool.not_true,Bool.not_false]);exact mI,⟨nd_snoc hs1 hjs,lt_snoc hs2 hj,st.1,st.2⟩,by dsimp only;rw[List.length_append,List.length_singleton];omega⟩
   ·rw[decide_eq_false hv]at st
    subst hki
    have hbq:(c2==(r.ms.getD 2 ⟨0,0⟩).c)=false:=by simpa using hv
    cases R with
    |false=>
     cases W with
     |false=>
      (conv=>whnf);(repeat'((first|apply bT|apply bF|apply bN|((first|apply bD|apply bEq|apply bNe)<;>intro hh<;>try(exfalso;omega))|refine enD6 hbn hj hEj ?_|refine iaJ g1 ?_|refine wJ ?_|refine nJ ?_)<;>conv=>whnf))
      exact⟨(s++[j],false,true),by rw[mm_snoc];(try simp only[hbq,Bool.not_true,Bool.not_false]);exact mI,⟨nd_snoc hs1 hjs,lt_snoc hs2 hj,st.1,st.2⟩,by dsimp only;rw[List.length_append,List.length_singleton];omega⟩
     |true=>
      (conv=>whnf);(repeat'((first|apply bT|apply bF|apply bN|((first|apply bD|apply bEq|apply bNe)<;>intro hh<;>try(exfalso;omega))|refine enD6 hbn hj hEj ?_|refine iaJ g1 ?_|refine wJ ?_|refine nJ ?_)<;>conv=>whnf))
      exact⟨(s++[j],false,true),by rw[mm_snoc];(try simp only[hbq,Bool.not_true,Bool.not_false]);exact mI,⟨nd_snoc hs1 hjs,lt_snoc hs2 hj,st.1,st.2⟩,by dsimp only;rw[List.length_append,List.length_singleton];omega⟩
    |true=>
     cases W with
     |false=>
      (conv=>whnf);(repeat'((first|apply bT|apply bF|apply bN|((first|apply bD|apply bEq|apply bNe)<;>intro hh<;>try(exfalso;omega))|refine enD6 hbn hj hEj ?_|refine iaJ g1 ?_|refine wJ ?_|refine nJ ?_)<;>conv=>whnf))
      exact⟨(s++[j],true,true),by rw[mm_snoc];(try simp only[hbq,Bool.not_true,Bool.not_false]);exact mI,⟨nd_snoc hs1 hjs,lt_snoc hs2 hj,st.1,st.2⟩,by dsimp only;rw[List.length_append,List.length_singleton];omega⟩
     |true=>
      (conv=>whnf);(repeat'((first|apply bT|apply bF|apply bN|((first|apply bD|apply bEq|apply bNe)<;>intro hh<;>try(exfalso;omega))|refine enD6 hbn hj hEj ?_|refine iaJ g1 ?_|refine wJ ?_|refine nJ ?_)<;>conv=>whnf))
      exact⟨(s++[j],true,true),by rw[mm_snoc];(try simp only[hbq,Bool.not_true,Bool.not_false]);exact mI,⟨nd_snoc hs1 hjs,lt_snoc hs2 hj,st.1,st.2⟩,by dsimp only;rw[List.length_append,List.length_singleton];omega⟩
  ·have hki:k=3:=hk3
   have st:=step c3 (by rw[hEj];first|rfl|(subst hki;rfl))
   clear step
   by_cases hv:c3=(r.ms.getD k ⟨0,0⟩).c
   ·rw[decide_eq_true hv]at st
    subst hki
    have hbq:(c3==(r.ms.getD 3 ⟨0,0⟩).c)=true:=by simpa using hv
    cases R with
    |false=>
     cases W with
     |false=>
      (conv=>whnf);(repeat'((first|apply bT|apply bF|apply bN|((first|apply bD|apply bEq|apply bNe)<;>intro hh<;>try(exfalso;omega))|refine enD6 hbn hj hEj ?_|refine iaJ g1 ?_|refine wJ ?_|refine nJ ?_)<;>conv=>whnf))
      exact⟨(s++[j],true,false),by rw[mm_snoc];(try simp only[hbq,Bool.not_true,Bool.not_false]);exact mI,⟨nd_snoc hs1 hjs,lt_snoc hs2 hj,st.1,st.2⟩,by dsimp only;rw[List.length_append,List.length_singleton];omega⟩
     |true=>
      (conv=>whnf);(repeat'((first|apply bT|apply bF|apply bN|((first|apply bD|apply bEq|apply bNe)<;>intro hh<;>try(exfalso;omega))|refine enD6 hbn hj hEj ?_|refine iaJ g1 ?_|refine wJ ?_|refine nJ ?_)<;>conv=>whnf))
      exact⟨(s++[j],true,true),by rw[mm_snoc];(try simp only[hbq,Bool.not_true,Bool.not_false]);exact mI,⟨nd_snoc hs1 hjs,lt_snoc hs2 hj,st.1,st.2⟩,by dsimp only;rw[List.length_append,List.length_singleton];omega⟩
    |true=>
     cases W with
     |false=>
      (conv=>whnf);(repeat'((first|apply bT|apply bF|apply bN|((first|apply bD|apply bEq|apply bNe)<;>intro hh<;>try(exfalso;omega))|refine enD6 hbn hj hEj ?_|refine iaJ g1 ?_|refine wJ ?_|refine nJ ?_)<;>conv=>whnf))
      exact⟨(s++[j],true,false),by rw[mm_snoc];(try simp only[hbq,Bool.not_true,Bool.not_false]);exact mI,⟨nd_snoc hs1 hjs,lt_snoc hs2 hj,st.1,st.2⟩,by dsimp only;rw[List.length_append,List.length_singleton];omega⟩
     |true=>
      (conv=>whnf);(repeat'((first|apply bT|apply bF|apply bN|((first|apply bD|apply bEq|apply bNe)<;>intro hh<;>try(exfalso;omega))|refine enD6 hbn hj hEj ?_|refine iaJ g1 ?_|refine wJ ?_|refine nJ ?_)<;>conv=>whnf))
      exact⟨(s++[j],true,true),by rw[mm_snoc];(try simp only[hbq,Bool.not_true,Bool.not_false]);exact mI,⟨nd_snoc hs1 hjs,lt_snoc hs2 hj,st.1,st.2⟩,by dsimp only;rw[List.length_append,List.length_singleton];omega⟩
   ·rw[decide_eq_false hv]at st
    subst hki
    have hbq:(c3==(r.ms.getD 3 ⟨0,0⟩).c)=false:=by simpa using hv
    cases R with
    |false=>
     cases W with
     |false=>
      (conv=>whnf);(repeat'((first|apply bT|apply bF|apply bN|((first|apply bD|apply bEq|apply bNe)<;>intro hh<;>try(exfalso;omega))|refine enD6 hbn hj hEj ?_|refine iaJ g1 ?_|refine wJ ?_|refine nJ ?_)<;>conv=>whnf))
      exact⟨(s++[j],false,true),by rw[mm_snoc];(try simp only[hbq,Bool.not_true,Bool.not_false]);exact mI,⟨nd_snoc hs1 hjs,lt_snoc hs2 hj,st.1,st.2⟩,by dsimp only;rw[List.length_append,List.length_singleton];omega⟩
     |true=>
      (conv=>whnf);(repeat'((first|apply bT|apply bF|apply bN|((first|apply bD|apply bEq|apply bNe)<;>intro hh<;>try(exfalso;omega))|refine enD6 hbn hj hEj ?_|refine iaJ g1 ?_|refine wJ ?_|refine nJ ?_)<;>conv=>whnf))
      exact⟨(s++[j],false,true),by rw[mm_snoc];(try simp only[hbq,Bool.not_true,Bool.not_false]);exact mI,⟨nd_snoc hs1 hjs,lt_snoc hs2 hj,st.1,st.2⟩,by dsimp only;rw[List.length_append,List.length_singleton];omega⟩
    |true=>
     cases W with
     |false=>
      (conv=>whnf);(repeat'((first|apply bT|apply bF|apply bN|((first|apply bD|apply bEq|apply bNe)<;>intro hh<;>try(exfalso;omega))|refine enD6 hbn hj hEj ?_|refine iaJ g1 ?_|refine wJ ?_|refine nJ ?_)<;>conv=>whnf))
      exact⟨(s++[j],true,true),by rw[mm_snoc];(try simp only[hbq,Bool.not_true,Bool.not_false]);exact mI,⟨nd_snoc hs1 hjs,lt_snoc hs2 hj,st.1,st.2⟩,by dsimp only;rw[List.length_append,List.length_singleton];omega⟩
     |true=>
      (conv=>whnf);(repeat'((first|apply bT|apply bF|apply bN|((first|apply bD|apply bEq|apply bNe)<;>intro hh<;>try(exfalso;omega))|refine enD6 hbn hj hEj ?_|refine iaJ g1 ?_|refine wJ ?_|refine nJ ?_)<;>conv=>whnf))
      exact⟨(s++[j],true,true),by rw[mm_snoc];(try simp only[hbq,Bool.not_true,Bool.not_false]);exact mI,⟨nd_snoc hs1 hjs,lt_snoc hs2 hj,st.1,st.2⟩,by dsimp only;rw[List.length_append,List.length_singleton];omega⟩
  ·have hki:k=4:=hk4
   have st:=step c4 (by rw[hEj];first|rfl|(subst hki;rfl))
   clear step
   by_cases hv:c4=(r.ms.getD k ⟨0,0⟩).c
   ·rw[decide_eq_true hv]at st
    subst hki
    have hbq:(c4==(r.ms.getD 4 ⟨0,0⟩).c)=true:=by simpa using hv
    cases R with
    |false=>
     cases W with
     |false=>
      (conv=>whnf);(repeat'((first|apply bT|apply bF|apply bN|((first|apply bD|apply bEq|apply bNe)<;>intro hh<;>try(exfalso;omega))|refine enD6 hbn hj hEj ?_|refine iaJ g1 ?_|refine wJ ?_|refine nJ ?_)<;>conv=>whnf))
      exact⟨(s++[j],true,false),by rw[mm_snoc];(try simp only[hbq,Bool.not_true,Bool.not_false]);exact mI,⟨nd_snoc hs1 hjs,lt_snoc hs2 hj,st.1,st.2⟩,by dsimp only;rw[List.length_append,List.length_singleton];omega⟩
     |true=>
      (conv=>whnf);(repeat'((first|apply bT|apply bF|apply bN|((first|apply bD|apply bEq|apply bNe)<;>intro hh<;>try(exfalso;omega))|refine enD6 hbn hj hEj ?_|refine iaJ g1 ?_|refine wJ ?_|refine nJ ?_)<;>conv=>whnf))
      exact⟨(s++[j],true,true),by rw[mm_snoc];(try simp only[hbq,Bool.not_true,Bool.not_false]);exact mI,⟨nd_snoc hs1 hjs,lt_snoc hs2 hj,st.1,st.2⟩,by dsimp only;rw[List.length_append,List.length_singleton];omega⟩
    |true=>
     cases W with
     |false=>
      (conv=>whnf);(repeat'((first|apply bT|apply bF|apply bN|((first|apply bD|apply bEq|apply bNe)<;>intro hh<;>try(exfalso;omega))|refine enD6 hbn hj hEj ?_|refine iaJ g1 ?_|refine wJ ?_|refine nJ ?_)<;>conv=>whnf))
      exact⟨(s++[j],true,false),by rw[mm_snoc];(try simp only[hbq,Bool.not_true,Bool.not_false]);exact mI,⟨nd_snoc hs1 hjs,lt_snoc hs2 hj,st.1,st.2⟩,by dsimp only;rw[List.length_append,List.length_singleton];omega⟩
     |true=>
      (conv=>whnf);(repeat'((first|apply bT|apply bF|apply bN|((first|apply bD|apply bEq|apply bNe)<;>intro hh<;>try(exfalso;omega))|refine enD6 hbn hj hEj ?_|refine iaJ g1 ?_|refine wJ ?_|refine nJ ?_)<;>conv=>whnf))
      exact⟨(s++[j],true,true),by rw[mm_snoc];(try simp only[hbq,Bool.not_true,Bool.not_false]);exact mI,⟨nd_snoc hs1 hjs,lt_snoc hs2 hj,st.1,st.2⟩,by dsimp only;rw[List.length_append,List.length_singleton];omega⟩
   ·rw[decide_eq_false hv]at st
    subst hki
    have hbq:(c4==(r.ms.getD 4 ⟨0,0⟩).c)=false:=by simpa using hv
    cases R with
    |false=>
     cases W with
     |false=>
      (conv=>whnf);(repeat'((first|apply bT|apply bF|apply bN|((first|apply bD|apply bEq|apply bNe)<;>intro hh<;>try(exfalso;omega))|refine enD6 hbn hj hEj ?_|refine iaJ g1 ?_|refine wJ ?_|refine nJ ?_)<;>conv=>whnf))
      exact⟨(s++[j],false,true),by rw[mm_snoc];(try simp only[hbq,Bool.not_true,Bool.not_false]);exact mI,⟨nd_snoc hs1 hjs,lt_snoc hs2 hj,st.1,st.2⟩,by dsimp only;rw[List.length_append,List.length_singleton];omega⟩
     |true=>
      (conv=>whnf);(repeat'((first|apply bT|apply bF|apply bN|((first|apply bD|apply bEq|apply bNe)<;>intro hh<;>try(exfalso;omega))|refine enD6 hbn hj hEj ?_|refine iaJ g1 ?_|refine wJ ?_|refine nJ ?_)<;>conv=>whnf))
      exact⟨(s++[j],false,true),by rw[mm_snoc];(try simp only[hbq,Bool.not_true,Bool.not_false]);exact mI,⟨nd_snoc hs1 hjs,lt_snoc hs2 hj,st.1,st.2⟩,by dsimp only;rw[List.length_append,List.length_singleton];omega⟩
    |true=>
     cases W with
     |false=>
      (conv=>whnf);(repeat'((first|apply bT|apply bF|apply bN|((first|apply bD|apply bEq|apply bNe)<;>intro hh<;>try(exfalso;omega))|refine enD6 hbn hj hEj ?_|refine iaJ g1 ?_|refine wJ ?_|refine nJ ?_)<;>conv=>whnf))
      exact⟨(s++[j],true,true),by rw[mm_snoc];(try simp only[hbq,Bool.not_true,Bool.not_false]);exact mI,⟨nd_snoc hs1 hjs,lt_snoc hs2 hj,st.1,st.2⟩,by dsimp only;rw[List.length_append,List.length_singleton];omega⟩
     |true=>
      (conv=>whnf);(repeat'((first|apply bT|apply bF|apply bN|((first|apply bD|apply bEq|apply bNe)<;>intro hh<;>try(exfalso;omega))|refine enD6 hbn hj hEj ?_|refine iaJ g1 ?_|refine wJ ?_|refine nJ ?_)<;>conv=>whnf))
      exact⟨(s++[j],true,true),by rw[mm_snoc];(try simp only[hbq,Bool.not_true,Bool.not_false]);exact mI,⟨nd_snoc hs1 hjs,lt_snoc hs2 hj,st.1,st.2⟩,by dsimp only;rw[List.length_append,List.length_singleton];omega⟩
 ·have hall2:=mm_all hbn hs2 hall
  have hf:=hfin R W (hS1.trans ⟨fun⟨j,hj,hp⟩=>⟨j,hs2 j hj,hp⟩,fun⟨j,hj,hp⟩=>⟨j,hall2 j hj,hp⟩⟩) (hS2.trans ⟨fun⟨j,hj,hp⟩=>⟨j,hs2 j hj,hp⟩,fun⟨j,hj,hp⟩=>⟨j,hall2 j hj,hp⟩⟩)
  cases W with
  |false=>
   rw[if_pos rfl]at hf
   rw[hf]
   (conv=>whnf);(repeat'((first|apply bT|apply bF|apply bN|((first|apply bD|apply bEq|apply bNe)<;>intro hh<;>try(exfalso;omega))|refine wJ ?_|refine nJ ?_)<;>conv=>whnf))
   all_goals rfl
  |true=>
   rw[if_neg (by simp)]at hf
   cases R with
   |false=>
    rw[if_pos rfl]at hf
    rw[hf]
    (conv=>whnf);(repeat'((first|apply bT|apply bF|apply bN|((first|apply bD|apply bEq|apply bNe)<;>intro hh<;>try(exfalso;omega))|refine wJ ?_|refine nJ ?_)<;>conv=>whnf))
    all_goals rfl
   |true=>
    rw[if_neg (by simp)]at hf
    rw[hf]
    (conv=>whnf);(repeat'((first|apply bT|apply bF|apply bN|((first|apply bD|apply bEq|apply bNe)<;>intro hh<;>try(exfalso;omega))|refine wJ ?_|refine nJ ?_)<;>conv=>whnf))
    all_goals rfl
def canB(r:Ru)(k:Nat)(x:Int):Bool:=decide (∃f,f∈trs r.bs r.ms r.w/\f.getD k 0=x)
theorem fsK_asc(lo:Int)(j:Nat):(fsK lo j).Pairwise (· < ·):=by
 unfold fsK
 refine List.Pairwise.map _ (fun a b h=>?_) List.pairwise_lt_range
 omega
theorem mem_fsK{lo:Int}{j:Nat}{x:Int}:x∈fsK lo j<->lo<=x/\x<lo+(j:Int):=by
 unfold fsK
 rw[List.mem_map]
 constructor
 ·rintro⟨i,hi,rfl⟩
  have:=List.mem_range.1 hi;omega
 ·rintro⟨h1,h2⟩
  exact⟨(x-lo).toNat,List.mem_range.2 (by omega),by omega⟩
theorem frc_fs{r:Ru}{n:Nat}(hbs:okBs n r.bs){k:Nat}(hk:k<r.bs.length):(fsB (r.bs.getD k ⟨0,0,0⟩)).filter (canB r k)=frc r.trs k:=by
 refine asc_eq ((fsK_asc _ _).filter _) (frc_asc _ _) fun x=>?_
 have hb:=hbs.2 _ (show r.bs.getD k ⟨0,0,0⟩∈r.bs by simp[List.getD_eq_getElem?_getD,hk])
 unfold okBlw at hb
 rw[List.mem_filter,show r.trs=trs r.bs r.ms r.w from rfl,mem_frc hbs hk]
 unfold canB
 rw[decide_eq_true_eq]
 constructor
 ·exact fun h=>h.2
 ·intro h
  refine⟨?_,h⟩
  obtain⟨f,hf,hx⟩:=h
  have:=(isC_iff.1 (mem_trs.1 hf).1).2 k hk
  unfold fsB wid
  rw[mem_fsK];omega
theorem p18(r:Ru)(q:Int)(h:Sm r)(hf:Few r):FnA Try.prog 18 [.agg r.cells, .int .i64 q] (· = .tup [.isl ((frc (r.kn (decide (0<=q/\q<=(r.bs.length:Int)-1))) q.toNat).map i1), .int .i64 (r.err (decide (0<=q/\q<=(r.bs.length:Int)-1)))]):=by
 have e0:=p46 r q h
 by_cases he:r.err (decide (0<=q/\q<=(r.bs.length:Int)-1))=0
 case neg=>
  have hk:r.kn (decide (0<=q/\q<=(r.bs.length:Int)-1))=[]:=by rw[Ru.kn,if_neg he]
  rw[hk]
  have hfr:frc [] q.toNat=[]:=by
   unfold frc
   rw[List.filter_eq_nil_iff.2 (fun n _=>by simp)];rfl
  rw[hfr]
  generalize decide (0<=q/\q<=(r.bs.length:Int)-1)=b at *
  have e1:=p39e r b h hf he
  generalize r.err b=E at *
  refine fnA 14 ok18 (by simp) ?_
  (conv=>whnf);(repeat'((first|apply bT|apply bF|apply bN|((first|apply bD|apply bEq|apply bNe)<;>intro hh<;>try(exfalso;omega))|refine e0.cq rfl rfl ?_|refine e1.zq rfl rfl ?_|refine wJ ?_|refine nJ ?_)<;>conv=>whnf))
  all_goals rfl
 have hb:=err_b he
 have hkn:r.kn (decide (0<=q/\q<=(r.bs.length:Int)-1))=r.trs:=by rw[Ru.kn,if_pos he]
 rw[hkn]
 rw[hb]at e0 he⊢
 have hq:=of_decide_eq_true hb
 rw[he]
 clear hkn hb
 obtain⟨k,rfl⟩:∃k:Nat,q=(k:Int):=⟨q.toNat,by omega⟩
 have e1:=p39 r true h hf he
 obtain⟨ho,hbs,hm,hfew,hne⟩:=rb hf he
 have hk:k<r.bs.length:=by omega
 rw[show((k:Nat):Int).toNat=k from Int.toNat_natCast k]
 have hB:(r.bs.map Blw.av).length=r.bs.length:=by simp
 have g1:=gB r.bs k hk
 have hbl:=hbs.2 _ (show r.bs.getD k ⟨0,0,0⟩∈r.bs by simp[List.getD_eq_getElem?_getD,hk])
 have e3:=fun x=>p47 r k x hbs hm hfew hne hk
 have hres:=frc_fs hbs hk
 unfold fsB at hres
 have hw:=wid_pos hbl
 unfold okBlw at hbl
 have hwd:wid (r.bs.getD k ⟨0,0,0⟩)=((r.bs.getD k ⟨0,0,0⟩).hi+1-(r.bs.getD k ⟨0,0,0⟩).lo).toNat:=rfl
 generalize r.bs.getD k ⟨0,0,0⟩=b at *
 rw[<- hres]
 refine fnA 14 ok18 (by simp) ?_
 (conv=>whnf);(repeat'((first|apply bT|apply bF|apply bN|((first|apply bD|apply bEq|apply bNe)<;>intro hh<;>try(exfalso;omega))|refine e0.cq rfl rfl ?_|refine e1.zq rfl rfl ?_|refine iaJ g1 ?_|refine wJ ?_|refine nJ ?_)<;>conv=>whnf))
 refine loop_i (α :=Nat × Int) (fun x=>[(9, .int .i64 x.2),(8, .row 12),(6, .own 6 0),(1, .int .i64 (k:Nat))]) (fun x=>[.fresh, .fresh, .fresh, .fresh, .fresh, .fresh, .box false r.cells, .fresh, .fresh, .fresh, .fresh, .fresh, .row false 3 1 (((fsK b.lo x.1).filter (canB r k)).map i1), .fresh])
  (fun x=>x.1<=wid b/\x.2=b.lo+(x.1:Int)) (fun x=>wid b-x.1) (0,b.lo) (mA [(12,none)]) ⟨by omega,by simp⟩ ?_
 rintro⟨j,p⟩ ⟨hj,hp⟩
 dsimp only at hj hp⊢
 have hlen:((fsK b.lo j).filter (canB r k)).length<=j:=by
  have:=List.length_filter_le (canB r k) (fsK b.lo j)
  have h2:(fsK b.lo j).length=j:=by simp[fsK]
  omega
 have hL:(((fsK b.lo j).filter (canB r k)).map i1).length=((fsK b.lo j).filter (canB r k)).length:=by simp
 have hone:=i1_one ((fsK b.lo j).filter (canB r k))
 conv=>whnf
 refine iaJ g1 ?_
 conv=>whnf
 refine bD (fun h4=>?_) (fun h4=>?_)
 ·have hjl:j<wid b:=by omega
  have e4:=e3 p
  have hsuc:(fsK b.lo (j+1)).filter (canB r k)=(fsK b.lo j).filter (canB r k)++(if canB r k p=true then [p] else []):=by
   rw[fsK_suc,List.filter_append,<- hp,List.filter_cons,List.filter_nil]
  change FnA Try.prog 47 _ (· = .bool (canB r k p))at e4
  cases hc:canB r k p
  ·rw[hc]at e4
   rw[hc,if_neg (by simp),List.append_nil]at hsuc
   (conv=>whnf);(repeat'((first|apply bT|apply bF|apply bN|((first|apply bD|apply bEq|apply bNe)<;>intro hh<;>try(exfalso;omega))|refine e4.cq rfl rfl ?_|refine wJ ?_|refine nJ ?_)<;>conv=>whnf))
   exact⟨(j+1,p+1),by dsimp only;rw[hsuc];exact(mA [(12,some 12)]),⟨by dsimp only;omega,by dsimp only;omega⟩,by dsimp only;omega⟩
  ·rw[hc]at e4
   rw[hc,if_pos rfl]at hsuc
   (conv=>whnf);(repeat'((first|apply bT|apply bF|apply bN|((first|apply bD|apply bEq|apply bNe)<;>intro hh<;>try(exfalso;omega))|refine e4.cq rfl rfl ?_|refine apJ ?_|refine wJ ?_|refine nJ ?_)<;>conv=>whnf))
   exact⟨(j+1,p+1),by dsimp only;rw[hsuc,List.map_append];exact(mA [(12,some 8)]),⟨by dsimp only;omega,by dsimp only;omega⟩,by dsimp only;omega⟩
 ·have:j=wid b:=by omega
  subst this
  (conv=>whnf);(repeat'((first|apply bT|apply bF|apply bN|((first|apply bD|apply bEq|apply bNe)<;>intro hh<;>try(exfalso;omega))|refine wJ ?_|refine nJ ?_)<;>conv=>whnf))
  all_goals rfl
theorem prg:Prg where
 check r h _:=p37 r h
 few r h hf:=p14 r h hf
 forces r q h hf:=p18 r q h hf
 right r m h hf:=p16 r m h hf
 reads r L h hf:=p17 r L h hf
 many r h hf:=p15 r h hf
 stood r h hf:=p21 r h hf
 harm r h hf:=p22 r h hf
end Go.Proofs
