/- What each function of this program answers, proved by walking its body: the contracts that the law rests on, part 2. -/
import Derived.Test.YtnppglfoolchdaaGreatFns1
set_option linter.unusedSimpArgs false
set_option linter.unusedVariables false
set_option linter.unusedSectionVars false
namespace Go.Proofs
open Go.Eng
attribute [local irreducible] Go.Eng.brB Go.Eng.need Go.Eng.wrE Go.Eng.iaE Go.Eng.slE Go.Eng.apE Go.Eng.CallZ Go.Eng.CallE Go.Eng.VCallE Go.Eng.YldE Go.Eng.GoC Go.Eng.MeetsE Go.Eng.FnA Go.Eng.FnV
set_option maxRecDepth 100000
structure Prg:Prop where
 check:∀r,Sm r->Few r->FnA Tryz.prog 10 [.agg r.cells] (· = .int .i64 r.chk)
 few:∀r,Sm r->Few r->FnA Tryz.prog 12 [.agg r.cells] (· = .tup [.int .i64 (if r.ok=true then Go.Proofs.few r.bs r.ms else 0), .int .i64 r.chk])
 forces:∀(r:Ru) (q:Int),Sm r->Few r->FnA Tryz.prog 14 [.agg r.cells, .int .i64 q] (· = .tup [.isl ((frc (r.kn (decide (0<=q/\q<=(r.bs.length:Int)-1))) q.toNat).map i1), .int .i64 (r.err (decide (0<=q/\q<=(r.bs.length:Int)-1)))])
 right:∀(r:Ru) (m:Int),Sm r->Few r->FnA Tryz.prog 16 [.agg r.cells, .int .i64 m] (· = .tup [.int .i64 (if r.err (decide (0<=m/\m<=(r.ms.length:Int)-1))=0 then rgtC r.trs (r.ms.getD m.toNat ⟨0,0⟩) else 0), .int .i64 (r.err (decide (0<=m/\m<=(r.ms.length:Int)-1)))])
 reads:∀(r:Ru) (L:Int),Sm r->Few r->FnA Tryz.prog 18 [.agg r.cells, .int .i64 L] (· = .tup [.agg [.int .i64 (rds (r.kn (decide (0<=L/\L<=99))) L).1, .int .i64 (rds (r.kn (decide (0<=L/\L<=99))) L).2], .int .i64 (r.err (decide (0<=L/\L<=99)))])
 many:∀r,Sm r->Few r->FnA Tryz.prog 20 [.agg r.cells] (· = .tup [.int .i64 ((r.kn true).length:Nat), .int .i64 (r.err true)])
 stood:∀r,Sm r->Few r->FnA Tryz.prog 24 [.agg r.cells] (· = .tup [.int .i64 (if r.err true=0 then r.std else 0), .int .i64 (r.err true)])
 harm:∀r,Sm r->Few r->FnA Tryz.prog 26 [.agg r.cells] (· = spS (r.hrm (r.kn true)) (r.err true))
 shw:∀r,Sm r->Few r->FnA Tryz.prog 28 [.agg r.cells] (fun v=>∃l:List Int,v = .tup [.isl (l.map i1), .int .i64 (r.err true)]/\(r.err true=0->l∈r.trs)/\(r.err true≠0->l=[]))
def exR:Ru:=⟨exD,[⟨0,10,14⟩,⟨0,12,15⟩,⟨3,4,6⟩],[⟨13,1⟩,⟨5,3⟩],0⟩
theorem n58:FnA Tryz.prog 44 [] (· = .agg exR.cells):=by
 have e1:=g36
 refine fnA 8 ok44 (by simp) ?_
 (conv=>whnf);(repeat'((first|apply bT|apply bF|apply bN|((first|apply bD|apply bEq|apply bNe)<;>intro hh<;>try(exfalso;omega))|refine e1.zq rfl rfl ?_|refine wJ ?_|refine nJ ?_)<;>conv=>whnf))
 all_goals rfl
theorem exR_ok:exR.ok=true:=by decide +kernel
theorem exR_sm:Sm exR:=rok_sm exR_ok
theorem exR_few:Few exR:=fun _=>by decide +kernel
theorem exR_len:exR.trs.length=22:=by decide +kernel
theorem exR_err{b:Bool}(h:b=true):exR.err b=0:=err_zero.2 ⟨exR_ok,h,fun e=>by have:=exR_len;rw[e]at this;cases this⟩
theorem exR_kn{b:Bool}(h:b=true):exR.kn b=exR.trs:=by rw[Ru.kn,if_pos (exR_err h)]
theorem n50(P:Prg):FnA Tryz.prog 40 [] (· = .bool true):=by
 have e0:=n58
 have e1:=g36
 have e2:=P.many exR exR_sm exR_few
 rw[exR_err rfl,exR_kn rfl,exR_len]at e2
 have e3:=g14 exD (by decide) (by decide) ex_ok
 rw[ex_l0,ex_l1]at e3
 refine fnA 9 ok40 (by simp) ?_
 (conv=>whnf);(repeat'((first|apply bT|apply bF|apply bN|((first|apply bD|apply bEq|apply bNe)<;>intro hh<;>try(exfalso;omega))|refine e1.zq rfl rfl ?_|refine e0.zq rfl rfl ?_|refine e2.cq rfl rfl ?_|refine e3.cq rfl rfl ?_|refine wJ ?_|refine nJ ?_)<;>conv=>whnf))
 all_goals rfl
theorem n49(r:Ru):FnA Tryz.prog 39 [.agg r.cells] (· = .bool r.rdy):=by
 have e1:=n14 r
 unfold Ru.rdy
 cases hf:r.farB<;>rw[hf]at e1
 ·have e2:=n18 r (far_sm hf).1
  by_cases ho:r.ok=true
  ·rw[Ru.chk,if_pos ho]at e2
   rw[ho]
   refine fnA 1 ok39 (by simp) ?_
   (conv=>whnf);(repeat'((first|apply bT|apply bF|apply bN|((first|apply bD|apply bEq|apply bNe)<;>intro hh<;>try(exfalso;omega))|refine e1.cq rfl rfl ?_|refine e2.cq rfl rfl ?_|refine wJ ?_|refine nJ ?_)<;>conv=>whnf))
   all_goals rfl
  ·rw[Ru.chk,if_neg ho]at e2
   have:r.ok=false:=by simpa using ho
   rw[this]
   refine fnA 1 ok39 (by simp) ?_
   (conv=>whnf);(repeat'((first|apply bT|apply bF|apply bN|((first|apply bD|apply bEq|apply bNe)<;>intro hh<;>try(exfalso;omega))|refine e1.cq rfl rfl ?_|refine e2.cq rfl rfl ?_|refine wJ ?_|refine nJ ?_)<;>conv=>whnf))
   all_goals rfl
 ·refine fnA 1 ok39 (by simp) ?_
  (conv=>whnf);(repeat'((first|apply bT|apply bF|apply bN|((first|apply bD|apply bEq|apply bNe)<;>intro hh<;>try(exfalso;omega))|refine e1.cq rfl rfl ?_|refine wJ ?_|refine nJ ?_)<;>conv=>whnf))
  all_goals rfl
theorem err_none{r:Ru}(ho:r.ok=true)(ht:r.trs=[]){b:Bool}(hb:b=true):r.err b=3:=by
 rw[Ru.err,if_pos ho,if_pos hb,if_pos ht]
theorem kn_none{r:Ru}(ho:r.ok=true)(ht:r.trs=[]){b:Bool}:r.kn b=[]:=by
 unfold Ru.kn;split
 ·exact ht
 ·rfl
theorem err_some{r:Ru}(ho:r.ok=true)(ht:r.trs≠[]){b:Bool}(hb:b=true):r.err b=0:=err_zero.2 ⟨ho,hb,ht⟩
theorem kn_some{r:Ru}(ho:r.ok=true)(ht:r.trs≠[]){b:Bool}(hb:b=true):r.kn b=r.trs:=by rw[Ru.kn,if_pos (err_some ho ht hb)]
theorem inR{r:Ru}{q:Nat}(h:q<r.bs.length):decide ((0:Int)<=(q:Int)/\(q:Int)<=(r.bs.length:Int)-1)=true:=decide_eq_true (by omega)
structure Ans(r:Ru):Prop where
 many:FnA Tryz.prog 20 [.agg r.cells] (· = .tup [.int .i64 (r.trs.length:Nat), .int .i64 (if r.trs=[] then 3 else 0)])
 forces:∀q:Nat,q<r.bs.length->FnA Tryz.prog 14 [.agg r.cells, .int .i64 q] (· = .tup [.isl ((frc r.trs q).map i1), .int .i64 (if r.trs=[] then 3 else 0)])
 harm:FnA Tryz.prog 26 [.agg r.cells] (· = .tup [.agg [.int .i64 (r.hrm r.trs).1, .int .i64 (r.hrm r.trs).2], .int .i64 (if r.trs=[] then 3 else 0)])
 stood:FnA Tryz.prog 24 [.agg r.cells] (· = .tup [.int .i64 (if r.trs=[] then 0 else r.std), .int .i64 (if r.trs=[] then 3 else 0)])
 reads:∀L:Int,0<=L->L<=99->FnA Tryz.prog 18 [.agg r.cells, .int .i64 L] (· = .tup [.agg [.int .i64 (rds r.trs L).1, .int .i64 (rds r.trs L).2], .int .i64 (if r.trs=[] then 3 else 0)])
 right:∀m:Nat,m<r.ms.length->FnA Tryz.prog 16 [.agg r.cells, .int .i64 m] (· = .tup [.int .i64 (if r.trs=[] then 0 else rgtC r.trs (r.ms.getD m ⟨0,0⟩)), .int .i64 (if r.trs=[] then 3 else 0)])
 few:FnA Tryz.prog 12 [.agg r.cells] (· = .tup [.int .i64 (Go.Proofs.few r.bs r.ms), .int .i64 0])
theorem ans(P:Prg){r:Ru}(ho:r.ok=true)(hs:Sm r)(hw:Few r):Ans r:=by
 have herr:∀b,b=true->r.err b=if r.trs=[] then 3 else 0:=fun b hb=>by rw[Ru.err,if_pos ho,if_pos hb]
 have hkn:∀b,b=true->r.kn b=r.trs:=fun b hb=>by
  by_cases ht:r.trs=[]
  ·rw[kn_none ho ht,ht]
  ·exact kn_some ho ht hb
 have h1:=P.many r hs hw
 have h3:=P.harm r hs hw
 have h4:=P.stood r hs hw
 have h7:=P.few r hs hw
 rw[herr _ rfl,hkn _ rfl]at h1 h3
 rw[herr _ rfl]at h4
 rw[if_pos ho,Ru.chk,if_pos ho]at h7
 refine⟨h1,fun q hq=>?_,h3,?_,fun L h0 h9=>?_,fun m hm=>?_,h7⟩
 ·have h2:=P.forces r q hs hw
  rw[herr _ (inR hq),hkn _ (inR hq),show((q:Nat):Int).toNat=q by omega]at h2
  exact h2
 ·by_cases ht:r.trs=[]
  ·rw[if_pos ht,if_neg (by decide)]at h4;rw[if_pos ht,if_pos ht];exact h4
  ·rw[if_neg ht,if_pos rfl]at h4;rw[if_neg ht,if_neg ht];exact h4
 ·have h2:=P.reads r L hs hw
  rw[herr _ (decide_eq_true ⟨h0,h9⟩),hkn _ (decide_eq_true ⟨h0,h9⟩)]at h2
  exact h2
 ·have h2:=P.right r m hs hw
  have hd:decide ((0:Int)<=(m:Int)/\(m:Int)<=(r.ms.length:Int)-1)=true:=decide_eq_true (by omega)
  rw[herr _ hd,show((m:Nat):Int).toNat=m by omega]at h2
  by_cases ht:r.trs=[]
  ·rw[if_pos ht,if_neg (by decide)]at h2;rw[if_pos ht,if_pos ht];exact h2
  ·rw[if_neg ht,if_pos rfl]at h2;rw[if_neg ht,if_neg ht];exact h2
theorem case_gu{r:Ru}(ho:r.ok=true){f:List Int}(hf:isC r.bs f){i:Nat}(hi:i<r.bs.length):Gu.ok ⟨f.getD i 0,(r.bs.getD i ⟨0,0,0⟩).a⟩ r.d.rs.length:=by
 have hm:r.bs.getD i ⟨0,0,0⟩∈r.bs:=by simp[List.getD_eq_getElem?_getD,hi]
 have hb:=(rok_iff.1 ho).2.1.2 _ hm
 have hc:=(isC_iff.1 hf).2 i hi
 unfold okBlw at hb
 exact⟨by dsimp only;omega,by dsimp only;omega⟩
theorem hrm_in{r:Ru}{f:List Int}(hf:f∈r.trs):(r.hrm r.trs).1<=(r.loN f r.bs.length:Nat)/\((r.hiN f r.bs.length:Nat):Int)<=(r.hrm r.trs).2:=
 ⟨(spL_in (List.mem_map.2 ⟨f,hf,rfl⟩:((r.loN f r.bs.length:Nat):Int)∈r.loL r.trs)).1,(spL_in (List.mem_map.2 ⟨f,hf,rfl⟩:((r.hiN f r.bs.length:Nat):Int)∈r.hiL r.trs)).2⟩
theorem leq_force{t:Tr}(ht:t.ok){F F' A:Int}(hF0:0<=F)(hF:F<=F')(hg:Gu.ok ⟨F,A⟩ t.ss.length):Leq t t ⟨F,A⟩ ⟨F',A⟩:=
 ⟨rfl,fun _=>Int.le_refl _,fun j=>(ld_bd (n:=t.ss.length) ht hg j).1,fun j=>ld_mono (t:=t) (u:=t) ht rfl rfl (Int.le_refl _) hF0 hF j⟩
theorem hiN_zero{r:Ru}{f:List Int}{i:Nat}(hi:i<r.bs.length)(h:r.hiN f r.bs.length=0):r.sv i (f.getD i 0)=1:=by
 refine Classical.byContradiction fun hn=>?_
 have:=List.countP_eq_zero.1 h i (List.mem_range.2 hi)
 exact this (decide_eq_true hn)
theorem hrm_bd{r:Ru}(ht:r.trs≠[]):0<=(r.hrm r.trs).1/\(r.hrm r.trs).1<=(r.hrm r.trs).2/\(r.hrm r.trs).2<=r.bs.length:=by
 obtain⟨f,hf⟩:=List.exists_mem_of_ne_nil _ ht
 obtain⟨a,b⟩:=hrm_in hf
 have c:=lo_le_hi r f r.bs.length
 obtain⟨x1,_⟩:=spL_ex (x:=r.loL r.trs) (by unfold Ru.loL;simpa using ht)
 obtain⟨_,x2⟩:=spL_ex (x:=r.hiL r.trs) (by unfold Ru.hiL;simpa using ht)
 obtain⟨g,_,g2⟩:=List.mem_map.1 x1
 obtain⟨g',_,g2'⟩:=List.mem_map.1 x2
 have c':=lo_le_hi r g' r.bs.length
 have e1:(r.hrm r.trs).1=(spL (r.loL r.trs)).1:=rfl
 have e2:(r.hrm r.trs).2=(spL (r.hiL r.trs)).2:=rfl
 omega
theorem hrm_hi_ex{r:Ru}(ht:r.trs≠[]):∃f∈r.trs,(r.hrm r.trs).2=(r.hiN f r.bs.length:Nat):=by
 obtain⟨_,x1⟩:=spL_ex (x:=r.hiL r.trs) (by unfold Ru.hiL;simpa using ht)
 obtain⟨g,h1,h2⟩:=List.mem_map.1 x1
 exact⟨g,h1,h2.symm⟩
theorem std_cases{r:Ru}(ht:r.trs≠[]):(r.std=1/\(r.hrm r.trs).2=0)\/(r.std=2/\0<(r.hrm r.trs).2/\0<(r.hrm r.trs).1)\/(r.std=3/\0<(r.hrm r.trs).2/\(r.hrm r.trs).1=0):=by
 have hb:=hrm_bd ht
 unfold Ru.std
 by_cases h:(r.hrm r.trs).2=0
 ·rw[if_pos h];exact .inl ⟨rfl,h⟩
 ·rw[if_neg h]
  by_cases h3:0<(r.hrm r.trs).1
  ·rw[if_pos h3];exact .inr (.inl ⟨rfl,by omega,h3⟩)
  ·rw[if_neg h3];exact .inr (.inr ⟨rfl,by omega,by omega⟩)
theorem frc_first{n:Nat}{bs:List Blw}{ms:List Met}{w:Int}(h:okBs n bs){k:Nat}(hk:k<bs.length)(ht:trs bs ms w≠[]):0<(frc (trs bs ms w) k).length/\(∀x∈frc (trs bs ms w) k,(frc (trs bs ms w) k).getD 0 0<=x/\x<=(frc (trs bs ms w) k).getD ((frc (trs bs ms w) k).length-1) 0):=by
 obtain⟨f,hf⟩:=List.exists_mem_of_ne_nil _ ht
 have hm:=(mem_frc h hk).2 ⟨f,hf,rfl⟩
 have h0:=List.length_pos_of_mem hm
 refine⟨h0,fun x hx=>?_⟩
 obtain⟨i,hi,rfl⟩:=List.getElem_of_mem hx
 have ha:=List.pairwise_iff_getElem.1 (frc_asc (trs bs ms w) k)
 rw[gE _ 0 0 h0,gE _ 0 ((frc (trs bs ms w) k).length-1) (by omega)]
 constructor
 ·by_cases e:i=0
  ·subst e;exact Int.le_refl _
  ·exact Int.le_of_lt (ha 0 i h0 hi (by omega))
 ·by_cases e:i=(frc (trs bs ms w) k).length-1
  ·subst e;exact Int.le_refl _
  ·exact Int.le_of_lt (ha i _ hi (by omega) (by omega))
theorem most_sure{r:Ru}(ho:r.ok=true){k:Nat}(hk:k<r.bs.length)(ht:r.trs≠[])(h:r.std=1):r.sv k ((frc r.trs k).getD ((frc r.trs k).length-1) 0)=1:=by
 have hr:=rok_iff.1 ho
 obtain⟨h0,_⟩:=frc_first (ms:=r.ms) (w:=r.w) hr.2.1 hk ht
 change 0<(frc r.trs k).length at h0
 obtain⟨f0,hf0,e0⟩:=(mem_frc (ms:=r.ms) (w:=r.w) hr.2.1 hk).1 (show(frc r.trs k).getD ((frc r.trs k).length-1) 0∈frc r.trs k by rw[gE _ 0 ((frc r.trs k).length-1) (by omega)];exact List.getElem_mem _)
 rw[<- e0]
 have h2:=(hrm_in hf0).2
 rcases std_cases ht with h1|h1|h1
 ·exact hiN_zero hk (by omega)
 ·omega
 ·omega
def Ru.wd(r:Ru)(e:Dm):Ru:=⟨e,r.bs,r.ms,r.w⟩
theorem ans_some{r:Ru}(A:Ans r)(ht:r.trs≠[]):FnA Tryz.prog 24 [.agg r.cells] (· = .tup [.int .i64 r.std, .int .i64 0])/\FnA Tryz.prog 26 [.agg r.cells] (· = .tup [.agg [.int .i64 (r.hrm r.trs).1, .int .i64 (r.hrm r.trs).2], .int .i64 0]):=by
 have a:=A.stood;have b:=A.harm
 rw[if_neg ht,if_neg ht]at a
 rw[if_neg ht]at b
 exact⟨a,b⟩
theorem wd_ok{r:Ru}{e:Dm}(ho:r.ok=true)(he:e.okB=true)(hl:e.rs.length=r.d.rs.length):(r.wd e).ok=true:=by
 have h:=rok_iff.1 ho
 exact rok_iff.2 ⟨he,by show okBs e.rs.length r.bs;rw[hl];exact h.2.1,h.2.2⟩
def Ru.gst(r:Ru)(i:Nat):Gu:=⟨(frc r.trs i).getD ((frc r.trs i).length-1) 0,(r.bs.getD i ⟨0,0,0⟩).a⟩
def Ru.gsL(r:Ru)(n:Nat):List Gu:=(List.range n).map r.gst
theorem gsL_suc(r:Ru)(n:Nat):r.gsL (n+1)=r.gsL n++[r.gst n]:=by unfold Ru.gsL;rw[List.range_succ,List.map_append];rfl
theorem gsL_len(r:Ru)(n:Nat):(r.gsL n).length=n:=by simp[Ru.gsL]
theorem last_mem{r:Ru}(ho:r.ok=true){i:Nat}(hi:i<r.bs.length)(ht:r.trs≠[]):∃f,f∈r.trs/\f.getD i 0=(frc r.trs i).getD ((frc r.trs i).length-1) 0:=by
 have hr:=rok_iff.1 ho
 obtain⟨h0,_⟩:=frc_first (ms:=r.ms) (w:=r.w) hr.2.1 hi ht
 change 0<(frc r.trs i).length at h0
 exact(mem_frc (ms:=r.ms) (w:=r.w) hr.2.1 hi).1 (show(frc r.trs i).getD ((frc r.trs i).length-1) 0∈frc r.trs i by rw[gE _ 0 ((frc r.trs i).length-1) (by omega)];exact List.getElem_mem _)
theorem gst_ok{r:Ru}(ho:r.ok=true){i:Nat}(hi:i<r.bs.length)(ht:r.trs≠[]):(r.gst i).ok r.d.rs.length:=by
 obtain⟨f,hf,e⟩:=last_mem ho hi ht
 have:=case_gu ho (mem_trs.1 hf).1 hi
 rw[e]at this;exact this
theorem gst_top{r:Ru}(ho:r.ok=true){i:Nat}(hi:i<r.bs.length)(ht:r.trs≠[]){f:List Int}(hf:f∈r.trs):f.getD i 0<=(r.gst i).F:=by
 have hr:=rok_iff.1 ho
 exact((frc_first (ms:=r.ms) (w:=r.w) hr.2.1 hi ht).2 _ ((mem_frc (ms:=r.ms) (w:=r.w) hr.2.1 hi).2 ⟨f,hf,rfl⟩)).2
theorem std_iff{r:Ru}(ho:r.ok=true)(ht:r.trs≠[]):r.std=1<->∀i,i<r.bs.length->r.d.worst.stands [r.gst i]=true:=by
 have hr:=rok_iff.1 ho
 constructor
 ·intro h i hi
  exact st_one.1 (most_sure ho hi ht h)
 ·intro h
  obtain⟨f,hf,e⟩:=hrm_hi_ex ht
  have:r.hiN f r.bs.length=0:=List.countP_eq_zero.2 fun i hi=>by
   rw[List.mem_range]at hi
   rw[decide_eq_true_eq]
   intro hn
   refine hn (st_one.2 ?_)
   have hg:=case_gu ho (mem_trs.1 hf).1 hi
   exact stands_mono (leq_force (t:=r.d.worst) (worst_ok hr.1) hg.1.1 (gst_top ho hi ht hf) (by rw[worst_len];exact hg)) (h i hi)
  rcases std_cases ht with h1|h1|h1
  ·exact h1.1
  ·omega
  ·omega
theorem n51(P:Prg)(r:Ru)(ho:r.ok=true)(hw:Few r)(ht:r.trs≠[]):FnA Tryz.prog 41 [.agg r.cells] (· = .tup [.isl ((r.gsL r.bs.length).map Gu.av), .bool true]):=by
 have hk:=rok_iff.1 ho
 have hb8:=hk.2.1.1
 have hB:(r.bs.map Blw.av).length=r.bs.length:=by simp
 have A:=ans P ho (rok_sm ho) hw
 refine fnA 6 ok41 (by simp) ?_
 (conv=>whnf);(repeat'((first|apply bT|apply bF|apply bN|((first|apply bD|apply bEq|apply bNe)<;>intro hh<;>try(exfalso;omega))|refine wJ ?_|refine nJ ?_)<;>conv=>whnf))
 refine loop_i (α :=Nat) (fun k=>[(5, .int .i64 k),(4, .row 4),(1, .own 0 0)]) (fun k=>[.box false r.cells, .fresh, .fresh, .fresh, .row false 69 2 ((r.gsL k).map Gu.av)]) (fun k=>k<=r.bs.length) (fun k=>r.bs.length-k) 0 (mA [(4,none)]) (by omega) ?_
 intro k hk'
 conv=>whnf
 refine bD (fun h3=>?_) (fun h3=>?_)
 ·have hlt:k<r.bs.length:=by omega
  have f1:=A.forces k hlt
  rw[if_neg ht]at f1
  obtain⟨l0,_⟩:=frc_first (ms:=r.ms) (w:=r.w) hk.2.1 hlt ht
  change 0<(frc r.trs k).length at l0
  have l10:=frc_len (ms:=r.ms) (w:=r.w) hk.2.1 hlt
  change (frc r.trs k).length<=10 at l10
  have hF:((frc r.trs k).map i1).length=(frc r.trs k).length:=by simp
  have g9:=gI (frc r.trs k) ((frc r.trs k).length-1) (by omega)
  have g9':((frc r.trs k).map i1).getD ((((frc r.trs k).map i1).length:Int)-1).toNat []=[.int .i64 ((frc r.trs k).getD ((frc r.trs k).length-1) 0)]:=by
   rw[show((((frc r.trs k).map i1).length:Int)-1).toNat=(frc r.trs k).length-1 by omega,g9]
  have gb:=gB r.bs k hlt
  have es:=gsL_suc r k
  have hlen:=gsL_len r k
  have eg:(r.gst k).av=[.int .i64 ((frc r.trs k).getD ((frc r.trs k).length-1) 0), .int .i64 (r.bs.getD k ⟨0,0,0⟩).a]:=rfl
  have lr:((r.gsL k).map Gu.av).length<=10:=by rw[List.length_map,hlen];omega
  have hK:∀e∈[[AV.int .i64 ((frc r.trs k).getD ((frc r.trs k).length-1) 0),AV.int .i64 (r.bs.getD k ⟨0,0,0⟩).a]],e.length=2/\e.all AV.one=true:=by simp[AV.one]
  (conv=>whnf);(repeat'((first|apply bT|apply bF|apply bN|((first|apply bD|apply bEq|apply bNe)<;>intro hh<;>try(exfalso;omega))|refine f1.zq rfl rfl ?_|refine iaI (by omega) (by omega) g9' ?_|refine iaJ gb ?_|(refine apI hK (by simp only[List.length_cons,List.length_nil];omega) ?_)|refine wJ ?_|refine nJ ?_)<;>conv=>whnf))
  refine⟨k+1,?_,by omega,by omega⟩
  rw[es,List.map_append,List.map_cons,List.map_nil,eg]
  exact(mA [(4,some 3)])
 ·have:k=r.bs.length:=by omega
  subst this
  (conv=>whnf);(repeat'((first|apply bT|apply bF|apply bN|((first|apply bD|apply bEq|apply bNe)<;>intro hh<;>try(exfalso;omega))|refine wJ ?_|refine nJ ?_)<;>conv=>whnf))
  all_goals rfl
theorem stands_all{t:Tr}{l:List Gu}:t.stands l=true<->∀g∈l,t.stands [g]=true:=by
 unfold Tr.stands;simp
theorem wd_std{r:Ru}{e:Dm}(ho:r.ok=true)(he:e.okB=true)(hl:e.rs.length=r.d.rs.length)(ht:r.trs≠[]):(r.wd e).std=1<->e.st (r.gsL r.bs.length)=1:=by
 have h1:=std_iff (r:=r.wd e) (wd_ok ho he hl) ht
 rw[h1,st_one,stands_all]
 constructor
 ·intro h g hg
  obtain⟨i,hi,rfl⟩:=List.mem_map.1 hg
  exact h i (List.mem_range.1 hi)
 ·intro h i hi
  exact h _ (List.mem_map.2 ⟨i,List.mem_range.2 hi,rfl⟩)
theorem gsL_cl{r:Ru}(ho:r.ok=true)(ht:r.trs≠[]):okCl r.d.rs.length (r.gsL r.bs.length)=true:=by
 have h8:=(rok_iff.1 ho).2.1.1
 unfold okCl
 rw[gsL_len,decide_eq_true (by omega),Bool.true_and,List.all_eq_true]
 intro g hg
 obtain⟨i,hi,rfl⟩:=List.mem_map.1 hg
 exact decide_eq_true (gst_ok ho (List.mem_range.1 hi) ht)
set_option maxHeartbeats 8000000 in
theorem k12(P:Prg)(r:Ru)(left:Int):FnA Tryz.prog 6 [.agg r.cells, .int .i64 left] (· = .bool true):=by
 have e0:=n50 P
 have e1:=n49 r
 have hR:(r.d.rs.map s2).length=r.d.rs.length:=by simp
 refine fnA 26 ok6 (by simp) ?_
 cases hy:r.rdy<;>rw[hy]at e1
 ·(conv=>whnf);(repeat'((first|apply bT|apply bF|apply bN|((first|apply bD|apply bEq|apply bNe)<;>intro hh<;>try(exfalso;omega))|refine e1.cq rfl rfl ?_|refine e0.cq rfl rfl ?_|refine wJ ?_|refine nJ ?_)<;>conv=>whnf))
  all_goals rfl
 obtain⟨ho,hs,hw,hp⟩:=rdy_of hy
 have hk:=rok_iff.1 ho
 have hb8:=hk.2.1.1
 have hsn:=hs.n
 have d1:=n36 r hs hw
 by_cases ht:r.trs=[]
 ·rw[err_none ho ht rfl]at d1
  (conv=>whnf);(repeat'((first|apply bT|apply bF|apply bN|((first|apply bD|apply bEq|apply bNe)<;>intro hh<;>try(exfalso;omega))|refine e1.cq rfl rfl ?_|refine d1.cq rfl rfl ?_|refine e0.cq rfl rfl ?_|refine wJ ?_|refine nJ ?_)<;>conv=>whnf))
  all_goals rfl
 rw[err_some ho ht rfl]at d1
 have g1:=n51 P r ho hw ht
 have hcl:=gsL_cl ho ht
 have c27:=g27 r.d (r.gsL r.bs.length) hs.n hs.s (errC_zero hk.1 hcl)
 have hms:=mend_st hk.1 hcl
 have hls:=fun w hw=>left_st (w:=w) hk.1 hcl hw
 have hwl:=wk_le r.d (r.gsL r.bs.length)
 have hmok:=mend_ok hk.1 (r.d.wk (r.gsL r.bs.length)) (fun i hi=>wk_lt hi)
 have hmlen:(r.d.mend (r.d.wk (r.gsL r.bs.length))).rs.length=r.d.rs.length:=mend_len _ _
 have hwlt:∀i∈r.d.wk (r.gsL r.bs.length),i<r.d.rs.length:=fun i hi=>wk_lt hi
 have hput:∀w,(hw:w∈r.d.wk (r.gsL r.bs.length))->((r.d.mend (r.d.wk (r.gsL r.bs.length))).put w (r.d.rs.getD w (0,0))).okB=true:=fun w hw=>put_ok hmok (by
  rw[gE _ _ w (hwlt w hw)];exact rib_mem hk.1 _ (List.getElem_mem _))
 have hstd1:=(wd_std ho hmok hmlen ht).2 hms
 have hstd2:=fun w hw h=>hls w hw ((wd_std ho (hput w hw) (by rw[put_len];exact hmlen) ht).1 h)
 have c1:=n16o r hs
 have omo:=wd_ok ho hmok hmlen
 have M:=ans P omo (rok_sm omo) (fun _=>hp)
 obtain⟨m1,_⟩:=ans_some M (show(r.wd (r.d.mend (r.d.wk (r.gsL r.bs.length)))).trs≠[] from ht)
 rw[hstd1]at m1
 have m2:∀w,(hw:w∈r.d.wk (r.gsL r.bs.length))->FnA Tryz.prog 24 [.agg (r.wd ((r.d.mend (r.d.wk (r.gsL r.bs.length))).put w (r.d.rs.getD w (0,0)))).cells] (· = .tup [.int .i64 (r.wd ((r.d.mend (r.d.wk (r.gsL r.bs.length))).put w (r.d.rs.getD w (0,0)))).std, .int .i64 0]):=fun w hw=>by
  have omo2:=wd_ok ho (hput w hw) (by rw[put_len];exact hmlen)
  exact(ans_some (ans P omo2 (rok_sm omo2) (fun _=>hp)) (show(r.wd _).trs≠[] from ht)).1
 have hmd:∀k (hk:k<(r.d.wk (r.gsL r.bs.length)).length),mend r.d.rs ((r.d.wk (r.gsL r.bs.length)).take (k+1))=(mend r.d.rs ((r.d.wk (r.gsL r.bs.length)).take k)).set ((r.d.wk (r.gsL r.bs.length))[k]) (99999,99999):=fun k hk=>mend_take _ _ hk
 have mcells:(r.wd (r.d.mend (r.d.wk (r.gsL r.bs.length)))).cells=[.isl (r.d.f.ss.map Sec.av), .int .i64 r.d.f.lo, .int .i64 r.d.f.hi, .int .i64 r.d.f.en, .int .i64 r.d.f.ed, .int .i64 r.d.f.rod, .int .i64 r.d.f.cs, .isl ((mend r.d.rs (r.d.wk (r.gsL r.bs.length))).map s2), .isl (r.d.sh.map i1), .isl (r.bs.map Blw.av), .isl (r.ms.map Met.av), .int .i64 r.w]:=rfl
 rw[mcells]at m1
 have pcells:∀w,(r.wd ((r.d.mend (r.d.wk (r.gsL r.bs.length))).put w (r.d.rs.getD w (0,0)))).cells=[.isl (r.d.f.ss.map Sec.av), .int .i64 r.d.f.lo, .int .i64 r.d.f.hi, .int .i64 r.d.f.en, .int .i64 r.d.f.ed, .int .i64 r.d.f.rod, .int .i64 r.d.f.cs, .isl (((mend r.d.rs (r.d.wk (r.gsL r.bs.length))).map s2).set w (s2 (r.d.rs.getD w (0,0)))), .isl (r.d.sh.map i1), .isl (r.bs.map Blw.av), .isl (r.ms.map Met.av), .int .i64 r.w]:=fun w=>by
  rw[<- List.map_set];rfl
 have hml0:=mend_len (r.d.wk (r.gsL r.bs.length)) r.d.rs
 generalize hWk:r.d.wk (r.gsL r.bs.length)=W at *
 have hW:(W.map n1).length=W.length:=by simp
 (conv=>whnf);(repeat'((first|apply bT|apply bF|apply bN|((first|apply bD|apply bEq|apply bNe)<;>intro hh<;>try(exfalso;omega))|refine e1.cq rfl rfl ?_|refine d1.cq rfl rfl ?_|refine g1.zq rfl rfl ?_|refine c27.oq rfl rfl rfl ?_|refine c1.oq rfl rfl rfl ?_|refine wJ ?_|refine nJ ?_)<;>conv=>whnf))
 refine loop_i (α :=Nat × List (List AV)) (fun z=>[(10, .int .i64 z.1),(9, .own 8 0),(7, .row 2),(2, .own 0 0),(1, .int .i64 left)]) (fun z=>[.box false r.cells, .fresh, .row false 3 1 (W.map n1), .row false 138 7 (r.d.f.ss.map Sec.av), .row false 48 2 z.2, .row false 3 1 (r.d.sh.map i1), .row false 67 3 (r.bs.map Blw.av), .row false 76 2 (r.ms.map Met.av), .box false (r.cp 3 4 5 6 7)]) (fun z=>z.1<=W.length/\z.2=(mend r.d.rs (W.take z.1)).map s2) (fun z=>W.length-z.1) (0,r.d.rs.map s2) mI ⟨by simp,by simp[mend]⟩ ?_
 rintro⟨k,Lr⟩ ⟨hk0,hL⟩
 dsimp only at hk0 hL⊢
 have hLl:Lr.length=r.d.rs.length:=by rw[hL,List.length_map,mend_len]
 conv=>whnf
 refine bD (fun h3=>?_) (fun h3=>?_)
 ·have hkl:k<W.length:=by omega
  have g3:(W.map n1).getD k []=[.int .i64 (W[k]:Nat)]:=getD_map n1 W k hkl
  have hwk:=hwlt _ (List.getElem_mem hkl)
  have hmk:=hmd k hkl
  have hset:Lr.set (((W[k]:Nat):Int)).toNat [.int .i64 99999, .int .i64 99999]=(mend r.d.rs (W.take (k+1))).map s2:=by
   rw[Int.toNat_natCast,hmk,List.map_set,hL];rfl
  have hget:Lr.getD (((W[k]:Nat):Int)).toNat []=s2 ((mend r.d.rs (W.take k)).getD W[k] (0,0)):=by
   rw[Int.toNat_natCast,hL];exact getD_mapD s2 _ _ _ (by rw[mend_len];exact hwk)
  generalize W[k]=w at *
  (conv=>whnf);(repeat'((first|apply bT|apply bF|apply bN|((first|apply bD|apply bEq|apply bNe)<;>intro hh<;>try(exfalso;omega))|refine iaJ g3 ?_|refine iaJ hget ?_|refine nJ ?_|refine wJ ?_|refine nJ ?_)<;>conv=>whnf))
  exact⟨(k+1,Lr.set ((w:Nat):Int).toNat [.int .i64 99999, .int .i64 99999]),mI,⟨by dsimp only;omega,hset⟩,by dsimp only;omega⟩
 have:k=W.length:=by omega
 subst this
 rw[List.take_length]at hL
 subst hL
 by_cases hlf:0<=left/\left<W.length
 case neg=>
  (conv=>whnf);(repeat'((first|apply bT|apply bF|apply bN|((first|apply bD|apply bEq|apply bNe)<;>intro hh<;>try(exfalso;omega))|refine m1.lq rfl rfl ?_|refine e0.cq rfl rfl ?_|refine wJ ?_|refine nJ ?_)<;>conv=>whnf))
  all_goals rfl
 obtain⟨p,rfl,hpl⟩:∃p:Nat,left=p/\p<W.length:=⟨left.toNat,by omega,by omega⟩
 have g3:(W.map n1).getD p []=[.int .i64 (W[p]:Nat)]:=getD_map n1 W p hpl
 have hwk:=hwlt _ (List.getElem_mem hpl)
 have hm2:=m2 _ (List.getElem_mem hpl)
 have hne:=hstd2 _ (List.getElem_mem hpl)
 rw[pcells]at hm2
 generalize W[p]=w at *
 have hget:((mend r.d.rs W).map s2).getD ((w:Nat):Int).toNat []=s2 ((mend r.d.rs W).getD w (0,0)):=by
  rw[Int.toNat_natCast];exact getD_mapD s2 _ _ _ (by rw[mend_len];exact hwk)
 have hgr:(r.d.rs.map s2).getD ((w:Nat):Int).toNat []=[.int .i64 (r.d.rs.getD w (0,0)).1, .int .i64 (r.d.rs.getD w (0,0)).2]:=by
  rw[Int.toNat_natCast];exact getD_mapD s2 _ _ _ hwk
 generalize (r.wd ((r.d.mend W).put w (r.d.rs.getD w (0,0)))).std=v at *
 have hLm:((mend r.d.rs W).map s2).length=r.d.rs.length:=by rw[List.length_map,hml0]
 change FnA Tryz.prog 24 [.agg [.isl (r.d.f.ss.map Sec.av), .int .i64 r.d.f.lo, .int .i64 r.d.f.hi, .int .i64 r.d.f.en, .int .i64 r.d.f.ed, .int .i64 r.d.f.rod, .int .i64 r.d.f.cs, .isl (((mend r.d.rs W).map s2).set ((w:Nat):Int).toNat [.int .i64 (r.d.rs.getD w (0,0)).1, .int .i64 (r.d.rs.getD w (0,0)).2]), .isl (r.d.sh.map i1), .isl (r.bs.map Blw.av), .isl (r.ms.map Met.av), .int .i64 r.w]] _ at hm2
 have hne':v≠1:=hne
 (conv=>whnf);(repeat'((first|apply bT|apply bF|apply bN|((first|apply bD|apply bEq|apply bNe)<;>intro hh<;>try(exfalso;omega))|refine m1.lq rfl rfl ?_|refine iaJ g3 ?_|refine iaJ hgr ?_|refine iaJ hget ?_|refine nJ ?_|refine hm2.lq rfl rfl ?_|refine e0.cq rfl rfl ?_|refine wJ ?_|refine nJ ?_)<;>conv=>whnf))
 all_goals rfl
abbrev Tal:=List Int
def tkA(c:Tal):AV:=.agg (c.map fun x=>AV.int .i64 x)
abbrev Ent:=List (Tal × Int)
def kE(E:Ent):List AV:=E.map fun e=>tkA e.1
def uE(E:Ent):List AV:=E.map fun e=>AV.int .i64 e.2
def getE:Ent->Tal->Option Int
 | [],_=>none
 |(c,v)::E,t=>if t=c then some v else getE E t
def vE(E:Ent)(t:Tal):Int:=(getE E t).getD 0
def addE:Ent->Tal->Int->Ent
 | [],t,v=>[(t,v)]
 |(c,u)::E,t,v=>if t=c then(c,u+v)::E else(c,u)::addE E t v
theorem vE_add(E:Ent)(t:Tal)(v:Int)(s:Tal):vE (addE E t v) s=vE E s+if s=t then v else 0:=by
 unfold vE
 induction E with
 |nil=>
  simp only[addE,getE]
  split<;>simp
 |cons e E ih=>
  obtain⟨c,u⟩:=e
  simp only[addE]
  by_cases h:t=c
  ·subst h
   rw[if_pos rfl]
   simp only[getE]
   by_cases h2:s=t
   ·rw[if_pos h2,if_pos h2,if_pos h2];simp
   ·rw[if_neg h2,if_neg h2,if_neg h2];simp
  ·rw[if_neg h]
   simp only[getE]
   by_cases h2:s=c
   ·have:¬s=t:=fun e=>h (e ▸ h2)
    rw[if_pos h2,if_pos h2,if_neg this];simp
   ·rw[if_neg h2,if_neg h2];exact ih
def K6:KTy:=.st (.node [(0,1, .leaf true),(1,1, .leaf true),(2,1, .leaf true),(3,1, .leaf true),(4,1, .leaf true),(5,1, .leaf true)])
theorem six{a:Tal}(h:a.length=6):∃a0 a1 a2 a3 a4 a5,a=[a0,a1,a2,a3,a4,a5]:=by
 match a,h with
 | [a0,a1,a2,a3,a4,a5],_=>exact⟨a0,a1,a2,a3,a4,a5,rfl⟩
theorem keq6{a b:Tal}(ha:a.length=6)(hb:b.length=6):keq K6 (tkA a) (tkA b)=some (decide (a=b)):=by
 obtain⟨a0,a1,a2,a3,a4,a5,rfl⟩:=six ha
 obtain⟨b0,b1,b2,b3,b4,b5,rfl⟩:=six hb
 have h1:eqV (.node [(0,1, .leaf true),(1,1, .leaf true),(2,1, .leaf true),(3,1, .leaf true),(4,1, .leaf true),(5,1, .leaf true)]) [.int .i64 a0, .int .i64 a1, .int .i64 a2, .int .i64 a3, .int .i64 a4, .int .i64 a5] [.int .i64 b0, .int .i64 b1, .int .i64 b2, .int .i64 b3, .int .i64 b4, .int .i64 b5]=some (decide ([a0,a1,a2,a3,a4,a5]=[b0,b1,b2,b3,b4,b5])):=by
  simp only[eqV,eqVs,List.drop,List.take,eq1,if_true]
  simp
  try grind
 have h2:scEq [.int .i64 a0, .int .i64 a1, .int .i64 a2, .int .i64 a3, .int .i64 a4, .int .i64 a5] [.int .i64 b0, .int .i64 b1, .int .i64 b2, .int .i64 b3, .int .i64 b4, .int .i64 b5]=some (decide ([a0,a1,a2,a3,a4,a5]=[b0,b1,b2,b3,b4,b5])):=by
  simp only[scEq,if_true]
  simp
  try grind
 show keqB K6 _ _=_
 simp only[K6,keqB,tkA,List.map,h1,h2,if_true]
theorem key6{a:Tal}(ha:a.length=6):keyV K6 (tkA a)=true:=by
 obtain⟨a0,a1,a2,a3,a4,a5,rfl⟩:=six ha
 simp[keyV,K6,KTy.base,keyVB,tkA,eqV,eqVs,scV,eq1]
theorem findE{t:Tal}(ht:t.length=6)(v:Int):∀(E:Ent) (i:Nat),(∀e∈E,e.1.length=6)->∃r,findK K6 (tkA t) (kE E) i=some r/\((r=none/\addE E t v=E++[(t,v)]/\getE E t=none)\/∃j u,r=some (i+j)/\E[j]?=some (t,u)/\addE E t v=E.set j (t,u+v)/\getE E t=some u)
 | [],i,_=>⟨none,rfl, .inl ⟨rfl,rfl,rfl⟩⟩
 |(y,u)::E,i,hE=>by
  have hq:=keq6 ht (hE (y,u) (by simp))
  by_cases h:t=y
  ·subst h
   rw[decide_eq_true rfl]at hq
   exact⟨some i,by simp[kE,findK,hq], .inr ⟨0,u,rfl,rfl,by simp[addE],by simp[getE]⟩⟩
  ·obtain⟨r,h1,h2⟩:=findE ht v E (i+1) (fun e he=>hE e (by simp[he]))
   rw[decide_eq_false h]at hq
   refine⟨r,by simpa[kE,findK,hq]using h1,?_⟩
   rcases h2 with⟨h2,h3,h4⟩|⟨j,w,h2,h3,h4,h5⟩
   ·exact .inl ⟨h2,by simp[addE,h,h3],by simp[getE,h,h4]⟩
   ·exact .inr ⟨j+1,w,by rw[h2];congr 1;omega,by simpa using h3,by simp[addE,h,h4],by simp[getE,h,h5]⟩
theorem kE_set{E:Ent}{j:Nat}{t:Tal}{u v:Int}(h:E[j]?=some (t,u)):kE (E.set j (t,v))=kE E:=by
 apply List.ext_getElem (by simp[kE])
 intro n h4 h5
 simp only[kE,List.getElem_map,List.getElem_set]
 split
 ·rename_i e
  subst e
  obtain⟨h6,h7⟩:=List.getElem?_eq_some_iff.1 h
  rw[h7]
 ·rfl
theorem look6{E:Ent}{t:Tal}(ht:t.length=6)(hE:∀e∈E,e.1.length=6):mlook K6 (kE E) (uE E) (tkA t)=some ((getE E t).map fun v=>AV.int .i64 v):=by
 obtain⟨r,h1,h2⟩:=findE ht 0 E 0 hE
 unfold mlook
 rw[key6 ht,h1]
 rcases h2 with⟨rfl,_,h2⟩|⟨j,v,rfl,h2,_,h3⟩
 ·rw[h2];rfl
 ·rw[h3]
  have:(uE E)[j]?=some (.int .i64 v):=by simp[uE,h2]
  simp only[Nat.zero_add,this,Option.map_some]
theorem BnOk.len6{ks us:List AV}{bn:List Nat}{n:Nat}(h:BnOk ks us bn n):bn.Nodup:=h.asc.imp fun h=>Nat.ne_of_lt h
theorem mpe6{E:Ent}{t:Tal}{bn:List Nat}{n:Nat}(ht:t.length=6)(hE:∀e∈E,e.1.length=6)(hb:BnOk (kE E) (uE E) bn n)(v:Int) :
  ∃v0 b bn' n' j,mpeF K6 (kE E) (uE E) bn n (tkA t) (.int .i64 0)=some (.int .i64 v0,b,kE (addE E t v),uE (addE E t 0),bn',n')/\bn'[j]?=some b/\(uE (addE E t 0)).set j (.int .i64 (vE E t+v))=uE (addE E t v)/\BnOk (kE (addE E t v)) (uE (addE E t v)) bn' n' /\
   mlook K6 (kE (addE E t v)) (uE (addE E t 0)) (tkA t)=some (some (.int .i64 (vE E t)))/\∀e∈addE E t v,e.1.length=6:=by
 obtain⟨r,h1,h2⟩:=findE ht v E 0 hE
 obtain⟨r',h1',h2'⟩:=findE ht 0 E 0 hE
 rw[h1]at h1';cases h1'
 unfold mpeF
 rw[key6 ht,h1]
 have hlen:=hb.len
 have hlenu:=hb.lenu
 simp only[kE,uE,List.length_map]at hlen hlenu
 have hkd:K6.isDel=false:=rfl
 rcases h2 with⟨rfl,h2,h3⟩|⟨j,u,rfl,h2,h3,h4⟩
 ·rcases h2' with⟨_,h2',_⟩|⟨j',u',e,_⟩
  ·have hv:vE E t=0:=by unfold vE;rw[h3];rfl
   have hl6:∀e∈addE E t v,e.1.length=6:=by
    rw[h2];intro e he
    rcases List.mem_append.1 he with he|he
    ·exact hE e he
    ·simp only[List.mem_singleton]at he;rw[he];exact ht
   refine⟨0,n,bn++[n],n+1,E.length,?_,by simp[hlen],?_,?_,?_,hl6⟩
   ·rw[hkd];simp[h2,h2',kE,uE]
   ·rw[h2,h2',hv];simp[uE]
   ·rw[h2]
    refine⟨by simp[kE,hlen],by simp[uE,hlen],?_,fun x hx=>?_⟩
    ·refine List.pairwise_append.2 ⟨hb.asc,by simp,fun a ha b hb'=>?_⟩
     simp only[List.mem_singleton]at hb';subst hb';exact hb.lt a ha
    ·rcases List.mem_append.1 hx with hx|hx
     ·exact Nat.lt_succ_of_lt (hb.lt x hx)
     ·simp only[List.mem_singleton]at hx;omega
   ·have e1:kE (addE E t v)=kE (addE E t 0):=by rw[h2,h2'];simp[kE]
    have e2:vE (addE E t 0) t=vE E t:=by rw[vE_add];simp
    have hl6':∀e∈addE E t 0,e.1.length=6:=by
     rw[h2'];intro e he
     rcases List.mem_append.1 he with he|he
     ·exact hE e he
     ·simp only[List.mem_singleton]at he;rw[he];exact ht
    rw[e1,look6 ht hl6']
    have:getE (addE E t 0) t=some 0:=by
     obtain⟨r2,q1,q2⟩:=findE ht 0 (addE E t 0) 0 hl6'
     rcases q2 with⟨_,q3,_⟩|⟨j2,u2,_,_,_,q4⟩
     ·have hlq:=congrArg List.length q3
      exfalso
      have hg:∀(E:Ent),getE (E++[(t,0)]) t≠none:=by
       intro E;induction E with
       |nil=>simp[getE]
       |cons e E ih=>obtain⟨c,u⟩:=e;simp only[List.cons_append,getE];split<;>first|(simp;done)|exact ih
      rename_i q5
      rw[h2']at q5
      exact hg _ q5
     ·have:vE (addE E t 0) t=u2:=by unfold vE;rw[q4];rfl
      rw[q4,<- this,e2,hv]
    rw[this,hv];rfl
  ·cases e
 ·rcases h2' with⟨e,_⟩|⟨j',u',e,h2',h3',h4'⟩
  ·cases e
  ·have ej:j=j':=by simpa using e
   subst ej
   have eu:u'=u:=by rw[h2]at h2';simpa using h2'.symm
   subst eu
   have hv:vE E t=u':=by unfold vE;rw[h4];rfl
   have hjl:=(List.getElem?_eq_some_iff.1 h2).1
   have e0:addE E t 0=E:=by
    rw[h3',Int.add_zero]
    apply List.ext_getElem (by simp)
    intro n h5 h6
    rw[List.getElem_set]
    split
    ·rename_i e;subst e;exact(List.getElem?_eq_some_iff.1 h2).2.symm
    ·rfl
   have hb2:bn[j]?=some bn[j]:=List.getElem?_eq_getElem (by omega)
   have hu2:(uE E)[j]?=some (.int .i64 u'):=by simp[uE,h2]
   refine⟨u',bn[j],bn,n,j,?_,hb2,?_,?_,?_,?_⟩
   ·simp only[Nat.zero_add,hkd,hu2,hb2,e0,h3,kE_set h2]
   ·rw[e0,h3,hv]
    simp only[uE,List.map_set]
   ·rw[h3,kE_set h2]
    exact⟨hb.len,by simp[uE];omega,hb.asc,hb.lt⟩
   ·rw[e0,h3,kE_set h2,look6 ht hE,h4,hv];rfl
   ·rw[h3];intro e he
    rcases List.mem_or_eq_of_mem_set he with he|he
    ·exact hE e he
    ·rw[he];exact ht
theorem perm_sum{l m:List Int}(h:l.Perm m):l.sum=m.sum:=by
 induction h with
 |nil=>rfl
 |cons x _ ih=>simp[ih]
 |swap x y l=>simp;omega
 |trans _ _ a b=>exact a.trans b
theorem met_sum{s:List Nat}{m:Nat}(g:Nat->Int)(hn:s.Nodup)(hs:∀j∈s,j<m)(ha:∀j,j<m->j∈s):(s.map g).sum=((List.range m).map g).sum:=by
 refine perm_sum (List.Perm.map g ?_)
 rw[List.perm_ext_iff_of_nodup hn List.nodup_range]
 intro a
 rw[List.mem_range]
 exact⟨hs a,ha a⟩
theorem met_len{s:List Nat}{m:Nat}(hn:s.Nodup)(hs:∀j∈s,j<m):s.length<=m:=by
 have:=nd_sub_lenC (b:=List.range m) hn (fun x hx=>List.mem_range.2 (hs x hx))
 simpa using this
theorem sum_map_add{α : Type}(l:List α)(f g : α -> Int):(l.map fun a=>f a+g a).sum=(l.map f).sum+(l.map g).sum:=by
 induction l with
 |nil=>rfl
 |cons a l ih=>simp only[List.map_cons,List.sum_cons,ih];omega
def cnT{α : Type}(W:List α)(T : α -> Tal)(t:Tal):Int:=((W.countP fun f=>decide (T f=t):Nat):Int)
theorem cnt_cons{α : Type}(f : α)(W:List α)(T : α -> Tal)(t:Tal):cnT (f::W) T t=cnT W T t+if t=T f then 1 else 0:=by
 unfold cnT
 rw[List.countP_cons]
 by_cases h:T f=t
 ·have h2:t=T f:=h.symm
  simp[h2]
 ·have h2:¬t=T f:=fun e=>h e.symm
  simp[h,h2]
theorem cnt_app{α : Type}(W V:List α)(T : α -> Tal)(t:Tal):cnT (W++V) T t=cnT W T t+cnT V T t:=by
 unfold cnT;rw[List.countP_append];omega
structure Rep{α : Type}(E:Ent)(W:List α)(T : α -> Tal):Prop where
 nd:(E.map (·.1)).Nodup
 len:∀e∈E,e.1.length=6
 cnt:∀t,vE E t=cnT W T t
 pos:∀e∈E,0<e.2
theorem vE_of{E:Ent}(hn:(E.map (·.1)).Nodup){e:Tal × Int}(he:e∈E):vE E e.1=e.2:=by
 unfold vE
 induction E with
 |nil=>cases he
 |cons a E ih=>
  obtain⟨c,u⟩:=a
  simp only[getE]
  rw[List.map_cons,List.nodup_cons]at hn
  rcases List.mem_cons.1 he with rfl|he
  ·rw[if_pos rfl];rfl
  ·have:¬e.1=c:=fun h=>hn.1 (h ▸ List.mem_map.2 ⟨e,he,rfl⟩)
   rw[if_neg this];exact ih hn.2 he
theorem vE_no{E:Ent}{t:Tal}(h:t∉E.map (·.1)):vE E t=0:=by
 unfold vE
 induction E with
 |nil=>rfl
 |cons a E ih=>
  obtain⟨c,u⟩:=a
  simp only[List.map_cons,List.mem_cons,not_or]at h
  simp only[getE]
  rw[if_neg h.1];exact ih h.2
theorem cnt_pos{α : Type}{W:List α}{T : α -> Tal}{t:Tal}:0<cnT W T t<->∃f∈W,T f=t:=by
 unfold cnT
 rw[show(0<((W.countP fun f=>decide (T f=t):Nat):Int))<->0<W.countP fun f=>decide (T f=t) by omega,List.countP_pos_iff]
 simp
theorem Rep.mem{α : Type}{E:Ent}{W:List α}{T : α -> Tal}(h:Rep E W T){t:Tal}:t∈E.map (·.1)<->∃f∈W,T f=t:=by
 rw[<- cnt_pos,<- h.cnt]
 constructor
 ·intro hm
  obtain⟨e,he,rfl⟩:=List.mem_map.1 hm
  rw[vE_of h.nd he];exact h.pos e he
 ·intro hp
  refine Classical.byContradiction fun hn=>?_
  rw[vE_no hn]at hp;omega
theorem keys_sum{α : Type}{T : α -> Tal}(φ : Tal->Int){K:List Tal}(hn:K.Nodup):∀(W:List α),(∀f∈W,T f∈K)->(K.map fun t => φ t*cnT W T t).sum=(W.map fun f => φ (T f)).sum
 | [],_=>by
  have:∀(K:List Tal),(K.map fun t => φ t*cnT ([]:List α) T t).sum=0:=by
   intro K;induction K with
   |nil=>rfl
   |cons t K ih=>
    have h0:cnT ([]:List α) T t=0:=rfl
    simp only[List.map_cons,List.sum_cons,ih,h0];simp
  rw[this];rfl
 |f::W,h=>by
  have ih:=keys_sum φ hn W (fun g hg=>h g (by simp[hg]))
  rw[List.map_cons,List.sum_cons,<- ih]
  have e1:(K.map fun t => φ t*cnT (f::W) T t)=K.map fun t => φ t*cnT W T t+(if t=T f then φ t else 0):=by
   refine List.map_congr_left fun t _=>?_
   rw[cnt_cons];split<;>rw[Int.mul_add]<;>simp
  rw[e1,sum_map_add]
  have e2:∀(K:List Tal),K.Nodup->T f∈K->(K.map fun t=>if t=T f then φ t else 0).sum = φ (T f):=by
   intro K;induction K with
   |nil=>intro _ h;cases h
   |cons t K ih=>
    intro hn hm
    rw[List.nodup_cons]at hn
    rw[List.map_cons,List.sum_cons]
    rcases List.mem_cons.1 hm with e|hm
    ·rw[if_pos e.symm]
     have:(K.map fun t=>if t=T f then φ t else 0).sum=0:=by
      have hz:∀(L:List Tal),T f∉L->(L.map fun t=>if t=T f then φ t else 0).sum=0:=by
       intro L;induction L with
       |nil=>intro _;rfl
       |cons a L ih2=>
        intro hL
        simp only[List.mem_cons,not_or]at hL
        rw[List.map_cons,List.sum_cons,if_neg (fun e=>hL.1 e.symm),ih2 hL.2];rfl
      exact hz K (e ▸ hn.1)
     rw[this,e];omega
    ·have:¬t=T f:=fun e=>hn.1 (e ▸ hm)
     rw[if_neg this,ih hn.2 hm];omega
  rw[e2 K hn (h f (by simp))];omega
theorem Rep.sum{α : Type}{E:Ent}{W:List α}{T : α -> Tal}(h:Rep E W T)(φ : Tal->Int):(E.map fun e => φ e.1*e.2).sum=(W.map fun f => φ (T f)).sum:=by
 rw[<- keys_sum φ h.nd W (fun f hf=>h.mem.2 ⟨f,hf,rfl⟩),List.map_map]
 congr 1
 refine List.map_congr_left fun e he=>?_
 show _ = φ e.1*cnT W T e.1
 rw[<- h.cnt,vE_of h.nd he]
theorem addE_keys{E:Ent}{t:Tal}{v:Int}:∀y,y∈(addE E t v).map (·.1)->y∈E.map (·.1)\/y=t:=by
 induction E with
 |nil=>intro y hy;simp[addE]at hy;exact .inr hy
 |cons a E ih=>
  obtain⟨c,u⟩:=a
  intro y hy
  simp only[addE]at hy
  split at hy
  ·left;simpa using hy
  ·simp only[List.map_cons,List.mem_cons]at hy⊢
   rcases hy with hy|hy
   ·exact .inl (.inl hy)
   ·rcases ih y hy with h|h
    ·exact .inl (.inr h)
    ·exact .inr h
theorem addE_nd{E:Ent}{t:Tal}{v:Int}(h:(E.map (·.1)).Nodup):((addE E t v).map (·.1)).Nodup:=by
 induction E with
 |nil=>simp[addE]
 |cons a E ih=>
  obtain⟨c,u⟩:=a
  rw[List.map_cons,List.nodup_cons]at h
  simp only[addE]
  split
  ·rw[List.map_cons,List.nodup_cons];exact h
  ·rename_i hne
   rw[List.map_cons,List.nodup_cons]
   refine⟨fun hm=>?_,ih h.2⟩
   rcases addE_keys _ hm with q|q
   ·exact h.1 q
   ·exact hne q.symm
theorem addE_pos{E:Ent}{t:Tal}{v:Int}(h:∀e∈E,0<e.2)(hv:0<v):∀e∈addE E t v,0<e.2:=by
 induction E with
 |nil=>intro e he;simp[addE]at he;rw[he];exact hv
 |cons a E ih=>
  obtain⟨c,u⟩:=a
  intro e he
  simp only[addE]at he
  have hu:=h (c,u) (by simp)
  split at he
  ·rcases List.mem_cons.1 he with rfl|he
   ·dsimp only at hu⊢;omega
   ·exact h e (by simp[he])
  ·rcases List.mem_cons.1 he with rfl|he
   ·exact hu
   ·exact ih (fun e he=>h e (by simp[he])) e he
theorem addE_len{E:Ent}{t:Tal}{v:Int}(h:∀e∈E,e.1.length=6)(ht:t.length=6):∀e∈addE E t v,e.1.length=6:=by
 induction E with
 |nil=>intro e he;simp[addE]at he;rw[he];exact ht
 |cons a E ih=>
  obtain⟨c,u⟩:=a
  intro e he
  simp only[addE]at he
  have hu:=h (c,u) (by simp)
  split at he
  ·rcases List.mem_cons.1 he with rfl|he
   ·exact hu
   ·exact h e (by simp[he])
  ·rcases List.mem_cons.1 he with rfl|he
   ·exact hu
   ·exact ih (fun e he=>h e (by simp[he])) e he
theorem Rep.snoc{α : Type}{E:Ent}{W:List α}{T : α -> Tal}(h:Rep E W T){x : α}(hx:(T x).length=6):Rep (addE E (T x) 1) (W++[x]) T:=by
 refine⟨addE_nd h.nd,addE_len h.len hx,fun t=>?_,addE_pos h.pos (by omega)⟩
 have h0:cnT ([]:List α) T t=0:=rfl
 rw[vE_add,h.cnt,cnt_app,cnt_cons,h0];omega
theorem Rep.nil{α : Type}(T : α -> Tal):Rep ([]:Ent) ([]:List α) T:=⟨by simp,by simp,fun t=>rfl,by simp⟩
def addL(a b:Tal):Tal:=List.zipWith (· + ·) a b
def gv(E A:Ent)(t:Tal)(j i:Nat):Int:=if t=addL (E.getD j ([],0)).1 (A.getD i ([],0)).1 then(E.getD j ([],0)).2*(A.getD i ([],0)).2 else 0
def gvs(E A:Ent)(t:Tal)(j:Nat):Int:=((List.range A.length).map (gv E A t j)).sum
theorem range_sum{α : Type}(l:List α)(z : α)(φ : α -> Int):((List.range l.length).map fun j => φ (l.getD j z)).sum=(l.map φ).sum:=by
 congr 1
 apply List.ext_getElem (by simp)
 intro n h1 h2
 have h3:n<l.length:=by simpa using h2
 simp[List.getD_eq_getElem?_getD,h3]
theorem Rep.mul{α β γ : Type}{E A:Ent}{W:List α}{X:List β}{T : α -> Tal}{S : β -> Tal}(hE:Rep E W T)(hA:Rep A X S)(g : α -> β -> γ)(U : γ -> Tal)(hU:∀f∈W,∀x∈X,U (g f x)=addL (T f) (S x))(t:Tal) :
  ((List.range E.length).map (gvs E A t)).sum=cnT (W.flatMap fun f=>X.map (g f)) U t:=by
 have e1:∀j,gvs E A t j=(A.map fun a=>(if t=addL (E.getD j ([],0)).1 a.1 then(E.getD j ([],0)).2 else 0)*a.2).sum:=fun j=>by
  unfold gvs
  rw[<- range_sum A ([],0)]
  congr 1
  refine List.map_congr_left fun i _=>?_
  unfold gv;split<;>simp
 have e2:∀j,gvs E A t j=(X.map fun x=>if t=addL (E.getD j ([],0)).1 (S x) then(1:Int) else 0).sum*(E.getD j ([],0)).2:=fun j=>by
  rw[e1,hA.sum (fun a=>if t=addL (E.getD j ([],0)).1 a then(E.getD j ([],0)).2 else 0)]
  generalize (E.getD j ([],0)).2=m
  generalize (E.getD j ([],0)).1=c
  induction X with
  |nil=>simp
  |cons x X ih=>
   have:∀(X:List β),(X.map fun x=>if t=addL c (S x) then m else 0).sum=(X.map fun x=>if t=addL c (S x) then(1:Int) else 0).sum*m:=by
    intro X;induction X with
    |nil=>simp
    |cons y X ih2=>simp only[List.map_cons,List.sum_cons,ih2,Int.add_mul];split<;>simp
   exact this _
 have e3:((List.range E.length).map (gvs E A t)).sum=(E.map fun e=>(X.map fun x=>if t=addL e.1 (S x) then(1:Int) else 0).sum*e.2).sum:=by
  rw[<- range_sum E ([],0)]
  congr 1
  exact List.map_congr_left fun j _=>e2 j
 rw[e3,hE.sum (fun c=>(X.map fun x=>if t=addL c (S x) then(1:Int) else 0).sum)]
 clear e1 e2 e3 hE
 have hrow:∀f∈W,cnT (X.map (g f)) U t=(X.map fun x=>if t=addL (T f) (S x) then(1:Int) else 0).sum:=fun f hf=>by
  have:∀(Y:List β),(∀x∈Y,x∈X)->cnT (Y.map (g f)) U t=(Y.map fun x=>if t=addL (T f) (S x) then(1:Int) else 0).sum:=by
   intro Y;induction Y with
   |nil=>intro _;simp[cnT]
   |cons y Y ih=>
    intro hy
    rw[List.map_cons,cnt_cons,ih (fun x hx=>hy x (by simp[hx])),List.map_cons,List.sum_cons,hU f hf y (hy y (by simp))];omega
  exact this X (fun x hx=>hx)
 induction W with
 |nil=>simp[cnT]
 |cons f W ih=>
  rw[List.flatMap_cons,cnt_app,List.map_cons,List.sum_cons,hrow f (by simp),ih (fun f' hf'=>hU f' (by simp[hf'])) (fun f' hf'=>hrow f' (by simp[hf']))]
theorem p70(n lo hi:Int):FnA Tryz.prog 92 [.int .i64 n, .int .i64 lo, .int .i64 hi] (· = .bool (decide (lo<=n/\n<=hi))):=by
 refine fnA 0 ok92 (by simp) ?_
 (conv=>whnf);(repeat'((first|apply bT|apply bF|apply bN|((first|apply bD|apply bEq|apply bNe)<;>intro hh<;>try(exfalso;omega))|refine wJ ?_|refine nJ ?_)<;>conv=>whnf))
 all_goals first|rfl|exact congrArg AV.bool (decide_eq_decide.2 (by omega))|exact congrArg AV.bool (decide_eq_true (by omega)).symm|exact congrArg AV.bool (decide_eq_false (by omega)).symm
theorem p43(n:Int):FnA Tryz.prog 61 [.int .i64 n] (· = .bool (decide (0<=n/\n<=99))):=by
 have e:=p70 n 0 99
 refine fnA 0 ok61 (by simp) ?_
 (conv=>whnf);(repeat'((first|apply bT|apply bF|apply bN|((first|apply bD|apply bEq|apply bNe)<;>intro hh<;>try(exfalso;omega))|refine e.cq rfl rfl ?_|refine wJ ?_|refine nJ ?_)<;>conv=>whnf))
 all_goals rfl
theorem p93(m:Met):FnA Tryz.prog 91 [.agg m.av] (· = .bool (decide (okMet m))):=by
 have e1:=p43 m.L
 have e2:=p70 m.c 0 8
 unfold okMet
 by_cases h:0<=m.L/\m.L<=99
 ·rw[decide_eq_true h]at e1
  refine fnA 1 ok91 (by simp) ?_
  (conv=>whnf);(repeat'((first|apply bT|apply bF|apply bN|((first|apply bD|apply bEq|apply bNe)<;>intro hh<;>try(exfalso;omega))|refine e1.cq rfl rfl ?_|refine e2.cq rfl rfl ?_|refine wJ ?_|refine nJ ?_)<;>conv=>whnf))
  all_goals first|rfl|exact congrArg AV.bool (decide_eq_decide.2 (by omega))|exact congrArg AV.bool (decide_eq_true (by omega)).symm|exact congrArg AV.bool (decide_eq_false (by omega)).symm
 ·rw[decide_eq_false h]at e1
  refine fnA 1 ok91 (by simp) ?_
  (conv=>whnf);(repeat'((first|apply bT|apply bF|apply bN|((first|apply bD|apply bEq|apply bNe)<;>intro hh<;>try(exfalso;omega))|refine e1.cq rfl rfl ?_|refine e2.cq rfl rfl ?_|refine wJ ?_|refine nJ ?_)<;>conv=>whnf))
  all_goals exact congrArg AV.bool (decide_eq_false (fun hh=>h hh.1)).symm
theorem p92(l:List Met)(hn:l.length<=1000):FnA Tryz.prog 90 [.isl (l.map Met.av), .fn 91 []] (· = .bool (l.all fun m=>decide (okMet m))):=by
 have hL:(l.map Met.av).length=l.length:=by simp
 refine fnA 1 ok90 (by simp) ?_
 conv=>whnf
 refine loop_i (α :=Nat) (fun k=>[(9, .int .i64 k),(8, .int .i64 (l.map Met.av).length),(7, .isl (l.map Met.av)),(1, .fn 91 [])]) (fun _=>[.fresh]) (fun k=>k<=l.length/\∀g∈l.take k,decide (okMet g)=true) (fun k=>l.length-k) 0 mI ⟨by omega,by simp⟩ ?_
 rintro k ⟨hk,hp⟩
 conv=>whnf
 refine bD (fun h3=>?_) (fun h3=>?_)
 ·have hlt:k<l.length:=by omega
  have hv:FnV Tryz.prog (.fn 91 []) [.agg l[k].av] (· = .bool (decide (okMet l[k]))):=fnV_of bd91 (p93 l[k])
  (conv=>whnf);(repeat'((first|apply bT|apply bF|apply bN|((first|apply bD|apply bEq|apply bNe)<;>intro hh<;>try(exfalso;omega))|refine iaJ (getD_map Met.av l k hlt) ?_|refine wJ ?_|refine nJ ?_)<;>conv=>whnf))
  refine hv.vcallq rfl rfl rfl rfl (fun r (hr:r=_)=>?_);subst hr
  by_cases hm:okMet l[k]
  ·rw[decide_eq_true hm]
   (conv=>whnf);(repeat'((first|apply bT|apply bF|apply bN|((first|apply bD|apply bEq|apply bNe)<;>intro hh<;>try(exfalso;omega))|refine wJ ?_|refine nJ ?_)<;>conv=>whnf))
   exact⟨k+1,mI,⟨by omega,gtake_all (p:=fun m=>decide (okMet m)) hlt hp (decide_eq_true hm)⟩,by omega⟩
  ·rw[decide_eq_false hm]
   (conv=>whnf);(repeat'((first|apply bT|apply bF|apply bN|((first|apply bD|apply bEq|apply bNe)<;>intro hh<;>try(exfalso;omega))|refine wJ ?_|refine nJ ?_)<;>conv=>whnf))
   all_goals (rw[all_false (p:=fun m=>decide (okMet m)) hlt (decide_eq_false hm)])
 ·have:k=l.length:=by omega
  subst this
  have:l.all (fun m=>decide (okMet m))=true:=List.all_eq_true.2 (fun g hg=>hp g (by rwa [List.take_length]))
  rw[this]
  (conv=>whnf);(repeat'((first|apply bT|apply bF|apply bN|((first|apply bD|apply bEq|apply bNe)<;>intro hh<;>try(exfalso;omega))|refine wJ ?_|refine nJ ?_)<;>conv=>whnf))
  all_goals rfl
theorem p91(r:Ru)(b:Blw)(h:r.d.rs.length<=1000):FnA Tryz.prog 89 [.agg r.cells, .agg b.av] (· = .bool (decide (okBlw r.d.rs.length b))):=by
 have hL:(r.d.rs.map s2).length=r.d.rs.length:=by simp
 have e1:=p70 b.a 0 (((r.d.rs.map s2).length:Int)-1)
 have e2:=p70 b.lo 0 b.hi
 have e3:=p43 b.hi
 unfold okBlw
 by_cases h1:0<=b.a/\b.a<=((r.d.rs.map s2).length:Int)-1
 ·rw[decide_eq_true h1]at e1
  by_cases h2:0<=b.lo/\b.lo<=b.hi
  ·rw[decide_eq_true h2]at e2
   by_cases h3:0<=b.hi/\b.hi<=99
   ·rw[decide_eq_true h3]at e3
    refine fnA 2 ok89 (by simp) ?_
    (conv=>whnf);(repeat'((first|apply bT|apply bF|apply bN|((first|apply bD|apply bEq|apply bNe)<;>intro hh<;>try(exfalso;omega))|refine e1.cq rfl rfl ?_|refine e2.cq rfl rfl ?_|refine e3.cq rfl rfl ?_|refine wJ ?_|refine nJ ?_)<;>conv=>whnf))
    all_goals first|rfl|exact congrArg AV.bool (decide_eq_decide.2 (by omega))|exact congrArg AV.bool (decide_eq_true (by omega)).symm|exact congrArg AV.bool (decide_eq_false (by omega)).symm
   ·rw[decide_eq_false h3]at e3
    refine fnA 2 ok89 (by simp) ?_
    (conv=>whnf);(repeat'((first|apply bT|apply bF|apply bN|((first|apply bD|apply bEq|apply bNe)<;>intro hh<;>try(exfalso;omega))|refine e1.cq rfl rfl ?_|refine e2.cq rfl rfl ?_|refine e3.cq rfl rfl ?_|refine wJ ?_|refine nJ ?_)<;>conv=>whnf))
    all_goals first|rfl|exact congrArg AV.bool (decide_eq_decide.2 (by omega))|exact congrArg AV.bool (decide_eq_true (by omega)).symm|exact congrArg AV.bool (decide_eq_false (by omega)).symm
  ·rw[decide_eq_false h2]at e2
   refine fnA 2 ok89 (by simp) ?_
   (conv=>whnf);(repeat'((first|apply bT|apply bF|apply bN|((first|apply bD|apply bEq|apply bNe)<;>intro hh<;>try(exfalso;omega))|refine e1.cq rfl rfl ?_|refine e2.cq rfl rfl ?_|refine wJ ?_|refine nJ ?_)<;>conv=>whnf))
   all_goals first|rfl|exact congrArg AV.bool (decide_eq_decide.2 (by omega))|exact congrArg AV.bool (decide_eq_true (by omega)).symm|exact congrArg AV.bool (decide_eq_false (by omega)).symm
 ·rw[decide_eq_false h1]at e1
  refine fnA 2 ok89 (by simp) ?_
  (conv=>whnf);(repeat'((first|apply bT|apply bF|apply bN|((first|apply bD|apply bEq|apply bNe)<;>intro hh<;>try(exfalso;omega))|refine e1.cq rfl rfl ?_|refine wJ ?_|refine nJ ?_)<;>conv=>whnf))
  all_goals first|rfl|exact congrArg AV.bool (decide_eq_decide.2 (by omega))|exact congrArg AV.bool (decide_eq_true (by omega)).symm|exact congrArg AV.bool (decide_eq_false (by omega)).symm
theorem p90(r:Ru)(b:Blw)(h:r.d.rs.length<=1000):FnA Tryz.prog 88 [.agg b.av, .ipt r.cells] (· = .bool (decide (okBlw r.d.rs.length b))):=by
 have e:=p91 r b h
 refine fnA 1 ok88 (by simp) ?_
 (conv=>whnf);(repeat'((first|apply bT|apply bF|apply bN|((first|apply bD|apply bEq|apply bNe)<;>intro hh<;>try(exfalso;omega))|refine e.cq rfl rfl ?_|refine wJ ?_|refine nJ ?_)<;>conv=>whnf))
 all_goals rfl
theorem p89(r:Ru)(hr:r.d.rs.length<=1000)(hn:r.bs.length<=1000):FnA Tryz.prog 87 [.isl (r.bs.map Blw.av), .fn 88 [.ipt r.cells]] (· = .bool (r.bs.all fun b=>decide (okBlw r.d.rs.length b))):=by
 have key:∀(l:List Blw),l.length<=1000->FnA Tryz.prog 87 [.isl (l.map Blw.av), .fn 88 [.ipt r.cells]] (· = .bool (l.all fun b=>decide (okBlw r.d.rs.length b))):=fun l hn=>by
  have hL:(l.map Blw.av).length=l.length:=by simp
  refine fnA 1 ok87 (by simp) ?_
  conv=>whnf
  refine loop_i (α :=Nat) (fun k=>[(9, .int .i64 k),(8, .int .i64 (l.map Blw.av).length),(7, .isl (l.map Blw.av)),(1, .fn 88 [.ipt r.cells])]) (fun _=>[.fresh]) (fun k=>k<=l.length/\∀g∈l.take k,decide (okBlw r.d.rs.length g)=true) (fun k=>l.length-k) 0 mI ⟨by omega,by simp⟩ ?_
  rintro k ⟨hk,hp⟩
  conv=>whnf
  refine bD (fun h3=>?_) (fun h3=>?_)
  ·have hlt:k<l.length:=by omega
   have hv:FnV Tryz.prog (.fn 88 [.ipt r.cells]) [.agg l[k].av] (· = .bool (decide (okBlw r.d.rs.length l[k]))):=fnV_of bd88 (p90 r l[k] hr)
   (conv=>whnf);(repeat'((first|apply bT|apply bF|apply bN|((first|apply bD|apply bEq|apply bNe)<;>intro hh<;>try(exfalso;omega))|refine iaJ (getD_map Blw.av l k hlt) ?_|refine wJ ?_|refine nJ ?_)<;>conv=>whnf))
   refine hv.vcallq rfl rfl rfl rfl (fun r (hr:r=_)=>?_);subst hr
   by_cases hm:okBlw r.d.rs.length l[k]
   ·rw[decide_eq_true hm]
    (conv=>whnf);(repeat'((first|apply bT|apply bF|apply bN|((first|apply bD|apply bEq|apply bNe)<;>intro hh<;>try(exfalso;omega))|refine wJ ?_|refine nJ ?_)<;>conv=>whnf))
    exact⟨k+1,mI,⟨by omega,gtake_all (p:=fun b=>decide (okBlw r.d.rs.length b)) hlt hp (decide_eq_true hm)⟩,by omega⟩
   ·rw[decide_eq_false hm]
    (conv=>whnf);(repeat'((first|apply bT|apply bF|apply bN|((first|apply bD|apply bEq|apply bNe)<;>intro hh<;>try(exfalso;omega))|refine wJ ?_|refine nJ ?_)<;>conv=>whnf))
    all_goals (rw[all_false (p:=fun b=>decide (okBlw r.d.rs.length b)) hlt (decide_eq_false hm)])
  ·have:k=l.length:=by omega
   subst this
   have:l.all (fun b=>decide (okBlw r.d.rs.length b))=true:=List.all_eq_true.2 (fun g hg=>hp g (by rwa [List.take_length]))
   rw[this]
   (conv=>whnf);(repeat'((first|apply bT|apply bF|apply bN|((first|apply bD|apply bEq|apply bNe)<;>intro hh<;>try(exfalso;omega))|refine wJ ?_|refine nJ ?_)<;>conv=>whnf))
   all_goals rfl
 exact key r.bs hn
theorem p66(r:Ru)(h:Sm r):FnA Tryz.prog 46 [.agg r.cells] (· = .bool r.ok):=by
 have hB:(r.bs.map Blw.av).length=r.bs.length:=by simp
 have hM:(r.ms.map Met.av).length=r.ms.length:=by simp
 have e1:=g39 r.d h.n h.s
 have e2:=p89 r h.n h.b
 have e3:=p92 r.ms h.m
 have e4:=p70 r.w 0 5
 have hbl:=h.b
 have hml:=h.m
 unfold Dm.err at e1
 unfold Ru.ok
 by_cases h1:r.d.okB=true
 ·rw[if_pos h1]at e1
  rw[h1]
  by_cases h2:r.bs.length<=8
  ·rw[decide_eq_true h2]
   cases h3:r.bs.all fun b=>decide (okBlw r.d.rs.length b)
   ·rw[h3]at e2
    refine fnA 1 ok46 (by simp) ?_
    (conv=>whnf);(repeat'((first|apply bT|apply bF|apply bN|((first|apply bD|apply bEq|apply bNe)<;>intro hh<;>try(exfalso;omega))|refine e1.cq rfl rfl ?_|refine e2.lq rfl rfl ?_|refine wJ ?_|refine nJ ?_)<;>conv=>whnf))
    all_goals simp
   ·rw[h3]at e2
    by_cases h4:r.ms.length<=5
    ·rw[decide_eq_true h4]
     cases h5:r.ms.all fun m=>decide (okMet m)
     ·rw[h5]at e3
      refine fnA 1 ok46 (by simp) ?_
      (conv=>whnf);(repeat'((first|apply bT|apply bF|apply bN|((first|apply bD|apply bEq|apply bNe)<;>intro hh<;>try(exfalso;omega))|refine e1.cq rfl rfl ?_|refine e2.lq rfl rfl ?_|refine e3.cq rfl rfl ?_|refine wJ ?_|refine nJ ?_)<;>conv=>whnf))
      all_goals simp
     ·rw[h5]at e3
      refine fnA 1 ok46 (by simp) ?_
      (conv=>whnf);(repeat'((first|apply bT|apply bF|apply bN|((first|apply bD|apply bEq|apply bNe)<;>intro hh<;>try(exfalso;omega))|refine e1.cq rfl rfl ?_|refine e2.lq rfl rfl ?_|refine e3.cq rfl rfl ?_|refine e4.cq rfl rfl ?_|refine wJ ?_|refine nJ ?_)<;>conv=>whnf))
      all_goals simp
    ·rw[decide_eq_false h4]
     refine fnA 1 ok46 (by simp) ?_
     (conv=>whnf);(repeat'((first|apply bT|apply bF|apply bN|((first|apply bD|apply bEq|apply bNe)<;>intro hh<;>try(exfalso;omega))|refine e1.cq rfl rfl ?_|refine e2.lq rfl rfl ?_|refine wJ ?_|refine nJ ?_)<;>conv=>whnf))
     all_goals simp
  ·rw[decide_eq_false h2]
   refine fnA 1 ok46 (by simp) ?_
   (conv=>whnf);(repeat'((first|apply bT|apply bF|apply bN|((first|apply bD|apply bEq|apply bNe)<;>intro hh<;>try(exfalso;omega))|refine e1.cq rfl rfl ?_|refine wJ ?_|refine nJ ?_)<;>conv=>whnf))
   all_goals simp
 ·rw[if_neg h1]at e1
  have h1':r.d.okB=false:=by simpa using h1
  rw[h1']
  refine fnA 1 ok46 (by simp) ?_
  (conv=>whnf);(repeat'((first|apply bT|apply bF|apply bN|((first|apply bD|apply bEq|apply bNe)<;>intro hh<;>try(exfalso;omega))|refine e1.cq rfl rfl ?_|refine wJ ?_|refine nJ ?_)<;>conv=>whnf))
  all_goals simp
theorem p37(r:Ru)(h:Sm r):FnA Tryz.prog 10 [.agg r.cells] (· = .int .i64 r.chk):=by
 have e1:=p66 r h
 unfold Ru.chk
 cases ho:r.ok
 ·rw[ho]at e1
  refine fnA 1 ok10 (by simp) ?_
  (conv=>whnf);(repeat'((first|apply bT|apply bF|apply bN|((first|apply bD|apply bEq|apply bNe)<;>intro hh<;>try(exfalso;omega))|refine e1.cq rfl rfl ?_|refine wJ ?_|refine nJ ?_)<;>conv=>whnf))
  all_goals rfl
 ·rw[ho]at e1
  refine fnA 1 ok10 (by simp) ?_
  (conv=>whnf);(repeat'((first|apply bT|apply bF|apply bN|((first|apply bD|apply bEq|apply bNe)<;>intro hh<;>try(exfalso;omega))|refine e1.cq rfl rfl ?_|refine wJ ?_|refine nJ ?_)<;>conv=>whnf))
  all_goals rfl
theorem p42(r:Ru)(m:Int)(h:Sm r):FnA Tryz.prog 57 [.agg r.cells, .int .i64 m] (· = .bool (decide (0<=m/\m<=(r.ms.length:Int)-1))):=by
 have hM:(r.ms.map Met.av).length=r.ms.length:=by simp
 have e1:=p70 m 0 (((r.ms.map Met.av).length:Int)-1)
 have hml:=h.m
 refine fnA 1 ok57 (by simp) ?_
 (conv=>whnf);(repeat'((first|apply bT|apply bF|apply bN|((first|apply bD|apply bEq|apply bNe)<;>intro hh<;>try(exfalso;omega))|refine e1.cq rfl rfl ?_|refine wJ ?_|refine nJ ?_)<;>conv=>whnf))
 all_goals simp
theorem p46(r:Ru)(q:Int)(h:Sm r):FnA Tryz.prog 54 [.agg r.cells, .int .i64 q] (· = .bool (decide (0<=q/\q<=(r.bs.length:Int)-1))):=by
 have hB:(r.bs.map Blw.av).length=r.bs.length:=by simp
 have e1:=p70 q 0 (((r.bs.map Blw.av).length:Int)-1)
 have hbl:=h.b
 refine fnA 1 ok54 (by simp) ?_
 (conv=>whnf);(repeat'((first|apply bT|apply bF|apply bN|((first|apply bD|apply bEq|apply bNe)<;>intro hh<;>try(exfalso;omega))|refine e1.cq rfl rfl ?_|refine wJ ?_|refine nJ ?_)<;>conv=>whnf))
 all_goals simp
theorem p95(a b:Tal)(ha:a.length=6)(hb:b.length=6)(h1:∀x∈a,0<=x/\x<=1000)(h2:∀x∈b,0<=x/\x<=1000):FnA Tryz.prog 115 [tkA a,tkA b] (· = tkA (addL a b)):=by
 obtain⟨a0,a1,a2,a3,a4,a5,rfl⟩:=six ha
 obtain⟨b0,b1,b2,b3,b4,b5,rfl⟩:=six hb
 simp only[List.mem_cons,List.not_mem_nil,or_false,forall_eq_or_imp,forall_eq]at h1 h2
 refine fnA 3 ok115 (by simp) ?_
 conv=>whnf
 refine loop_i (α :=Nat) (fun k=>[(8, .int .i64 k),(7, .agg [.int .i64 b0, .int .i64 b1, .int .i64 b2, .int .i64 b3, .int .i64 b4, .int .i64 b5]),(2, .own 0 0),(4, .own 2 0)]) (fun k=>[.box false [.int .i64 (if 0<k then a0+b0 else a0), .int .i64 (if 1<k then a1+b1 else a1), .int .i64 (if 2<k then a2+b2 else a2), .int .i64 (if 3<k then a3+b3 else a3), .int .i64 (if 4<k then a4+b4 else a4), .int .i64 (if 5<k then a5+b5 else a5)], .fresh, .box false [.int .i64 0, .int .i64 0, .int .i64 0, .int .i64 0, .int .i64 0, .int .i64 0]]) (fun k=>k<=6) (fun k=>6-k) 0 mI (by omega) ?_
 intro k hk
 conv=>whnf
 refine bD (fun h3=>?_) (fun h3=>?_)
 ·have hlt:k<6:=by omega
  by_cases h10:k=0
  ·subst h10
   (conv=>whnf);(repeat'((first|apply bT|apply bF|apply bN|((first|apply bD|apply bEq|apply bNe)<;>intro hh<;>try(exfalso;omega))|refine idI (by omega) (by omega) rfl ?_|refine wJ ?_|refine nJ ?_)<;>conv=>whnf))
   exact⟨0+1,mI,by omega,by omega⟩
  by_cases h11:k=1
  ·subst h11
   (conv=>whnf);(repeat'((first|apply bT|apply bF|apply bN|((first|apply bD|apply bEq|apply bNe)<;>intro hh<;>try(exfalso;omega))|refine idI (by omega) (by omega) rfl ?_|refine wJ ?_|refine nJ ?_)<;>conv=>whnf))
   exact⟨1+1,mI,by omega,by omega⟩
  by_cases h12:k=2
  ·subst h12
   (conv=>whnf);(repeat'((first|apply bT|apply bF|apply bN|((first|apply bD|apply bEq|apply bNe)<;>intro hh<;>try(exfalso;omega))|refine idI (by omega) (by omega) rfl ?_|refine wJ ?_|refine nJ ?_)<;>conv=>whnf))
   exact⟨2+1,mI,by omega,by omega⟩
  by_cases h13:k=3
  ·subst h13
   (conv=>whnf);(repeat'((first|apply bT|apply bF|apply bN|((first|apply bD|apply bEq|apply bNe)<;>intro hh<;>try(exfalso;omega))|refine idI (by omega) (by omega) rfl ?_|refine wJ ?_|refine nJ ?_)<;>conv=>whnf))
   exact⟨3+1,mI,by omega,by omega⟩
  by_cases h14:k=4
  ·subst h14
   (conv=>whnf);(repeat'((first|apply bT|apply bF|apply bN|((first|apply bD|apply bEq|apply bNe)<;>intro hh<;>try(exfalso;omega))|refine idI (by omega) (by omega) rfl ?_|refine wJ ?_|refine nJ ?_)<;>conv=>whnf))
   exact⟨4+1,mI,by omega,by omega⟩
  have h15:k=5:=by omega
  subst h15
  (conv=>whnf);(repeat'((first|apply bT|apply bF|apply bN|((first|apply bD|apply bEq|apply bNe)<;>intro hh<;>try(exfalso;omega))|refine idI (by omega) (by omega) rfl ?_|refine wJ ?_|refine nJ ?_)<;>conv=>whnf))
  exact⟨5+1,mI,by omega,by omega⟩
 ·have:k=6:=by omega
  subst this
  (conv=>whnf);(repeat'((first|apply bT|apply bF|apply bN|((first|apply bD|apply bEq|apply bNe)<;>intro hh<;>try(exfalso;omega))|refine wJ ?_|refine nJ ?_)<;>conv=>whnf))
  all_goals rfl
def wrT(ms:List Met)(c:Tal):Nat:=(List.range ms.length).countP fun i => !decide (c.getD i 0=(ms.getD i ⟨0,0⟩).c)
def wrK(ms:List Met)(c:Tal)(k:Nat):Nat:=(List.range k).countP fun i => !decide (c.getD i 0=(ms.getD i ⟨0,0⟩).c)
theorem wrK_suc(ms:List Met)(c:Tal)(k:Nat):wrK ms c (k+1)=wrK ms c k+if c.getD k 0=(ms.getD k ⟨0,0⟩).c then 0 else 1:=by
 unfold wrK
 rw[List.range_succ,List.countP_append,List.countP_singleton]
 by_cases h:c.getD k 0=(ms.getD k ⟨0,0⟩).c<;>simp only[h,decide_true,decide_false,Bool.not_true,Bool.not_false,if_true,if_false]<;>simp
theorem wrK_le(ms:List Met)(c:Tal)(k:Nat):wrK ms c k<=k:=by
 unfold wrK
 have:=List.countP_le_length (l:=List.range k) (p:=fun i => !decide (c.getD i 0=(ms.getD i ⟨0,0⟩).c))
 simpa using this
theorem p68(r:Ru)(c:Tal)(hc:c.length=6)(hm:r.ms.length<=5):FnA Tryz.prog 96 [.agg r.cells,tkA c] (· = .int .i64 (wrT r.ms c:Nat)):=by
 have hL:(r.ms.map Met.av).length=r.ms.length:=by simp
 obtain⟨c0,c1,c2,c3,c4,c5,rfl⟩:=six hc
 refine fnA 3 ok96 (by simp) ?_
 conv=>whnf
 refine loop_i (α :=Nat) (fun k=>[(12, .int .i64 k),(11, .int .i64 (r.ms.map Met.av).length),(10, .isl (r.ms.map Met.av)),(5, .int .i64 (wrK r.ms [c0,c1,c2,c3,c4,c5] k:Nat)),(3, .own 1 0),(2, .own 0 0)]) (fun k=>[.box false r.cells, .box false [.int .i64 c0, .int .i64 c1, .int .i64 c2, .int .i64 c3, .int .i64 c4, .int .i64 c5], .fresh]) (fun k=>k<=r.ms.length) (fun k=>r.ms.length-k) 0 mI (by omega) ?_
 intro k hk
 have hw:=wrK_le r.ms [c0,c1,c2,c3,c4,c5] k
 have hs:=wrK_suc r.ms [c0,c1,c2,c3,c4,c5] k
 conv=>whnf
 refine bD (fun h3=>?_) (fun h3=>?_)
 ·have hlt:k<r.ms.length:=by omega
  have g1:=gM r.ms k hlt
  by_cases h10:k=0
  ·have hs':wrK r.ms [c0,c1,c2,c3,c4,c5] (0+1)=wrK r.ms [c0,c1,c2,c3,c4,c5] 0+if c0=(r.ms.getD 0 ⟨0,0⟩).c then 0 else 1:=by subst h10;exact hs
   clear hs
   subst h10
   by_cases hq:c0=(r.ms.getD 0 ⟨0,0⟩).c
   ·rw[if_pos hq]at hs'
    (conv=>whnf);(repeat'((first|apply bT|apply bF|apply bN|((first|apply bD|apply bEq|apply bNe)<;>intro hh<;>try(exfalso;omega))|refine iaJ g1 ?_|refine wJ ?_|refine nJ ?_)<;>conv=>whnf))
    refine⟨0+1,?_,by omega,by omega⟩
    rw[hs',Nat.add_zero]
    exact mI
   ·rw[if_neg hq]at hs'
    (conv=>whnf);(repeat'((first|apply bT|apply bF|apply bN|((first|apply bD|apply bEq|apply bNe)<;>intro hh<;>try(exfalso;omega))|refine iaJ g1 ?_|refine wJ ?_|refine nJ ?_)<;>conv=>whnf))
    refine⟨0+1,?_,by omega,by omega⟩
    rw[hs',Int.natCast_add,Int.natCast_one]
    exact mI
  by_cases h11:k=1
  ·have hs':wrK r.ms [c0,c1,c2,c3,c4,c5] (1+1)=wrK r.ms [c0,c1,c2,c3,c4,c5] 1+if c1=(r.ms.getD 1 ⟨0,0⟩).c then 0 else 1:=by subst h11;exact hs
   clear hs
   subst h11
   by_cases hq:c1=(r.ms.getD 1 ⟨0,0⟩).c
   ·rw[if_pos hq]at hs'
    (conv=>whnf);(repeat'((first|apply bT|apply bF|apply bN|((first|apply bD|apply bEq|apply bNe)<;>intro hh<;>try(exfalso;omega))|refine iaJ g1 ?_|refine wJ ?_|refine nJ ?_)<;>conv=>whnf))
    refine⟨1+1,?_,by omega,by omega⟩
    rw[hs',Nat.add_zero]
    exact mI
   ·rw[if_neg hq]at hs'
    (conv=>whnf);(repeat'((first|apply bT|apply bF|apply bN|((first|apply bD|apply bEq|apply bNe)<;>intro hh<;>try(exfalso;omega))|refine iaJ g1 ?_|refine wJ ?_|refine nJ ?_)<;>conv=>whnf))
    refine⟨1+1,?_,by omega,by omega⟩
    rw[hs',Int.natCast_add,Int.natCast_one]
    exact mI
  by_cases h12:k=2
  ·have hs':wrK r.ms [c0,c1,c2,c3,c4,c5] (2+1)=wrK r.ms [c0,c1,c2,c3,c4,c5] 2+if c2=(r.ms.getD 2 ⟨0,0⟩).c then 0 else 1:=by subst h12;exact hs
   clear hs
   subst h12
   by_cases hq:c2=(r.ms.getD 2 ⟨0,0⟩).c
   ·rw[if_pos hq]at hs'
    (conv=>whnf);(repeat'((first|apply bT|apply bF|apply bN|((first|apply bD|apply bEq|apply bNe)<;>intro hh<;>try(exfalso;omega))|refine iaJ g1 ?_|refine wJ ?_|refine nJ ?_)<;>conv=>whnf))
    refine⟨2+1,?_,by omega,by omega⟩
    rw[hs',Nat.add_zero]
    exact mI
   ·rw[if_neg hq]at hs'
    (conv=>whnf);(repeat'((first|apply bT|apply bF|apply bN|((first|apply bD|apply bEq|apply bNe)<;>intro hh<;>try(exfalso;omega))|refine iaJ g1 ?_|refine wJ ?_|refine nJ ?_)<;>conv=>whnf))
    refine⟨2+1,?_,by omega,by omega⟩
    rw[hs',Int.natCast_add,Int.natCast_one]
    exact mI
  by_cases h13:k=3
  ·have hs':wrK r.ms [c0,c1,c2,c3,c4,c5] (3+1)=wrK r.ms [c0,c1,c2,c3,c4,c5] 3+if c3=(r.ms.getD 3 ⟨0,0⟩).c then 0 else 1:=by subst h13;exact hs
   clear hs
   subst h13
   by_cases hq:c3=(r.ms.getD 3 ⟨0,0⟩).c
   ·rw[if_pos hq]at hs'
    (conv=>whnf);(repeat'((first|apply bT|apply bF|apply bN|((first|apply bD|apply bEq|apply bNe)<;>intro hh<;>try(exfalso;omega))|refine iaJ g1 ?_|refine wJ ?_|refine nJ ?_)<;>conv=>whnf))
    refine⟨3+1,?_,by omega,by omega⟩
    rw[hs',Nat.add_zero]
    exact mI
   ·rw[if_neg hq]at hs'
    (conv=>whnf);(repeat'((first|apply bT|apply bF|apply bN|((first|apply bD|apply bEq|apply bNe)<;>intro hh<;>try(exfalso;omega))|refine iaJ g1 ?_|refine wJ ?_|refine nJ ?_)<;>conv=>whnf))
    refine⟨3+1,?_,by omega,by omega⟩
    rw[hs',Int.natCast_add,Int.natCast_one]
    exact mI
  have h14:k=4:=by omega
  ·have hs':wrK r.ms [c0,c1,c2,c3,c4,c5] (4+1)=wrK r.ms [c0,c1,c2,c3,c4,c5] 4+if c4=(r.ms.getD 4 ⟨0,0⟩).c then 0 else 1:=by subst h14;exact hs
   clear hs
   subst h14
   by_cases hq:c4=(r.ms.getD 4 ⟨0,0⟩).c
   ·rw[if_pos hq]at hs'
    (conv=>whnf);(repeat'((first|apply bT|apply bF|apply bN|((first|apply bD|apply bEq|apply bNe)<;>intro hh<;>try(exfalso;omega))|refine iaJ g1 ?_|refine wJ ?_|refine nJ ?_)<;>conv=>whnf))
    refine⟨4+1,?_,by omega,by omega⟩
    rw[hs',Nat.add_zero]
    exact mI
   ·rw[if_neg hq]at hs'
    (conv=>whnf);(repeat'((first|apply bT|apply bF|apply bN|((first|apply bD|apply bEq|apply bNe)<;>intro hh<;>try(exfalso;omega))|refine iaJ g1 ?_|refine wJ ?_|refine nJ ?_)<;>conv=>whnf))
    refine⟨4+1,?_,by omega,by omega⟩
    rw[hs',Int.natCast_add,Int.natCast_one]
    exact mI
 ·have:k=r.ms.length:=by omega
  subst this
  (conv=>whnf);(repeat'((first|apply bT|apply bF|apply bN|((first|apply bD|apply bEq|apply bNe)<;>intro hh<;>try(exfalso;omega))|refine wJ ?_|refine nJ ?_)<;>conv=>whnf))
  all_goals rfl
def m1(ms:List Met)(x:Int)(i:Nat):Int:=if i<ms.length/\(ms.getD i ⟨0,0⟩).L<=x then 1 else 0
def T1(ms:List Met)(h:Bool)(x:Int):Tal:=[m1 ms x 0,m1 ms x 1,m1 ms x 2,m1 ms x 3,m1 ms x 4,if h=true then 1 else 0]
def mk1(ms:List Met)(x:Int)(k i:Nat):Int:=if i<k then m1 ms x i else 0
theorem mk1_len(ms:List Met)(x:Int)(i:Nat):mk1 ms x ms.length i=m1 ms x i:=by
 unfold mk1 m1;split
 ·rfl
 ·rename_i h;rw[if_neg (fun hh=>h hh.1)]
def tl1(ms:List Met)(f:List Int)(i:Nat):Int:=if i<ms.length then((abv f (ms.getD i ⟨0,0⟩).L:Nat):Int) else 0
def hQ(Q:Nat->Int->Bool)(f:List Int):Int:=((List.range f.length).countP fun j=>Q j (f.getD j 0):Nat)
def TL(ms:List Met)(Q:Nat->Int->Bool)(f:List Int):Tal:=[tl1 ms f 0,tl1 ms f 1,tl1 ms f 2,tl1 ms f 3,tl1 ms f 4,hQ Q f]
theorem tl1_snoc(ms:List Met)(f:List Int)(x:Int)(i:Nat):tl1 ms (f++[x]) i=tl1 ms f i+m1 ms x i:=by
 unfold tl1 m1 abv
 by_cases h:i<ms.length
 ·rw[if_pos h,if_pos h,List.countP_append,List.countP_singleton]
  by_cases h2:(ms.getD i ⟨0,0⟩).L<=x
  ·rw[if_pos (decide_eq_true h2),if_pos ⟨h,h2⟩];omega
  ·rw[if_neg (by simpa using h2),if_neg (fun hh=>h2 hh.2)];omega
 ·rw[if_neg h,if_neg h,if_neg (fun hh=>h hh.1)];rfl
theorem hQ_snoc(Q:Nat->Int->Bool)(f:List Int)(x:Int):hQ Q (f++[x])=hQ Q f+if Q f.length x=true then 1 else 0:=by
 unfold hQ
 rw[List.length_append,List.length_singleton,List.range_succ,List.countP_append,List.countP_singleton]
 have e1:(List.range f.length).countP (fun j=>Q j ((f++[x]).getD j 0))=(List.range f.length).countP fun j=>Q j (f.getD j 0):=by
  refine List.countP_congr fun j hj=>?_
  have:=List.mem_range.1 hj
  rw[List.getD_eq_getElem?_getD,List.getElem?_append_left this,List.getD_eq_getElem?_getD]
 have e2:(f++[x]).getD f.length 0=x:=by simp[List.getD_eq_getElem?_getD]
 rw[e1,e2];split<;>omega
theorem TL_snoc(ms:List Met)(Q:Nat->Int->Bool)(f:List Int)(x:Int):TL ms Q (f++[x])=addL (TL ms Q f) (T1 ms (Q f.length x) x):=by
 simp only[TL,T1,addL,List.zipWith,tl1_snoc,hQ_snoc]
theorem T1_len(ms:List Met)(h:Bool)(x:Int):(T1 ms h x).length=6:=rfl
theorem TL_len(ms:List Met)(Q:Nat->Int->Bool)(f:List Int):(TL ms Q f).length=6:=rfl
theorem m1_bd(ms:List Met)(x:Int)(i:Nat):0<=m1 ms x i/\m1 ms x i<=1:=by unfold m1;split<;>omega
theorem T1_bd(ms:List Met)(h:Bool)(x:Int):∀y∈T1 ms h x,0<=y/\y<=1000:=by
 intro y hy
 simp only[T1,List.mem_cons,List.not_mem_nil,or_false]at hy
 rcases hy with rfl|rfl|rfl|rfl|rfl|rfl
 all_goals first|(have:=m1_bd ms x 0;have:=m1_bd ms x 1;have:=m1_bd ms x 2;have:=m1_bd ms x 3;have:=m1_bd ms x 4;omega)|(split<;>omega)
theorem tl1_bd(ms:List Met)(f:List Int)(i:Nat):0<=tl1 ms f i/\tl1 ms f i<=f.length:=by
 unfold tl1 abv
 have:=List.countP_le_length (l:=f) (p:=fun x=>decide ((ms.getD i ⟨0,0⟩).L<=x))
 split<;>omega
theorem hQ_bd(Q:Nat->Int->Bool)(f:List Int):0<=hQ Q f/\hQ Q f<=f.length:=by
 unfold hQ
 have:=List.countP_le_length (l:=List.range f.length) (p:=fun j=>Q j (f.getD j 0))
 simp only[List.length_range]at this;omega
theorem TL_bd(ms:List Met)(Q:Nat->Int->Bool)(f:List Int)(hf:f.length<=8):∀y∈TL ms Q f,0<=y/\y<=1000:=by
 intro y hy
 simp only[TL,List.mem_cons,List.not_mem_nil,or_false]at hy
 have h5:=hQ_bd Q f
 rcases hy with rfl|rfl|rfl|rfl|rfl|rfl
 ·have:=tl1_bd ms f 0;omega
 ·have:=tl1_bd ms f 1;omega
 ·have:=tl1_bd ms f 2;omega
 ·have:=tl1_bd ms f 3;omega
 ·have:=tl1_bd ms f 4;omega
 ·omega
def fsK(lo:Int)(j:Nat):List Int:=(List.range j).map fun(i:Nat)=>lo+(i:Int)
theorem fsK_suc(lo:Int)(j:Nat):fsK lo (j+1)=fsK lo j++[lo+(j:Int)]:=by
 unfold fsK;rw[List.range_succ,List.map_append];rfl
def fsB(b:Blw):List Int:=fsK b.lo (wid b)
theorem cnT_le{α : Type}(W:List α)(T : α -> Tal)(t:Tal):0<=cnT W T t/\cnT W T t<=W.length:=by
 unfold cnT
 have:=List.countP_le_length (l:=W) (p:=fun f=>decide (T f=t))
 omega
theorem csF_snoc(b:Blw):∀(bs:List Blw) (f:List Int),csF (bs++[b]) f=(csF bs f).flatMap fun g=>(fsB b).map fun x=>g++[x]
 | [],f=>by
  have:∀m,csK (csF []) f b.lo m=(fsK b.lo m).map fun x=>f++[x]:=by
   intro m;induction m with
   |zero=>rfl
   |succ m ih=>rw[csK,ih,fsK_suc,List.map_append];rfl
  show csK (csF []) f b.lo (wid b)=_
  rw[this];simp[csF,fsB]
 |c::bs,f=>by
  have:∀m,csK (csF (bs++[b])) f c.lo m=(csK (csF bs) f c.lo m).flatMap fun g=>(fsB b).map fun x=>g++[x]:=by
   intro m;induction m with
   |zero=>rfl
   |succ m ih=>rw[csK,ih,csK,List.flatMap_append,csF_snoc b bs]
  exact this _
theorem css_suc(bs:List Blw){k:Nat}(hk:k<bs.length):css (bs.take (k+1))=(css (bs.take k)).flatMap fun g=>(fsB (bs.getD k ⟨0,0,0⟩)).map fun x=>g++[x]:=by
 have e:bs.take (k+1)=bs.take k++[bs.getD k ⟨0,0,0⟩]:=by
  rw[List.take_succ_eq_append_getElem hk,List.getD_eq_getElem?_getD,List.getElem?_eq_getElem hk];rfl
 unfold css;rw[e,csF_snoc]
theorem css_tlen{bs:List Blw}{k:Nat}(hk:k<=bs.length){f:List Int}(hf:f∈css (bs.take k)):f.length=k:=by
 have:=(isC_iff.1 (mem_css.1 hf)).1
 rw[this];simp;omega
theorem p94_0(r:Ru)(k n0:Nat)(g:FuncId)(Q:Nat->Int->Bool)(hk:k<r.bs.length)(hbl:r.bs.length<=8)(hm:r.ms.length<=5)(hb:okBlw n0 (r.bs.getD k ⟨0,0,0⟩))
  (hq:∀x,0<=x->x<=99->FnV Tryz.prog (.fn g []) [.int .i64 k, .int .i64 x] (· = .bool (Q k x))) :
  FnW Tryz.prog 114 [.agg r.cells, .int .i64 k, .fn g []] [] (fun r' outs=>∃A,r' = .row 0/\outs=[.mp false (kE A) (uE A)]/\Rep A (fsB (r.bs.getD k ⟨0,0,0⟩)) (fun x=>T1 r.ms (Q k x) x)):=by
 have hB:(r.bs.map Blw.av).length=r.bs.length:=by simp
 have hM:(r.ms.map Met.av).length=r.ms.length:=by simp
 have g1:=gB r.bs k hk
 have hw:=wid_pos hb
 unfold okBlw at hb
 have hwd:wid (r.bs.getD k ⟨0,0,0⟩)=((r.bs.getD k ⟨0,0,0⟩).hi+1-(r.bs.getD k ⟨0,0,0⟩).lo).toNat:=rfl
 unfold fsB
 generalize r.bs.getD k ⟨0,0,0⟩=b at *
 refine fnW 4 [1] ok114 (by simp) rfl rfl ?_
 (conv=>whnf);(repeat'((first|apply bT|apply bF|apply bN|((first|apply bD|apply bEq|apply bNe)<;>intro hh<;>try(exfalso;omega))|refine MrgE.bn ?_|refine iaJ g1 ?_|refine wJ ?_|refine nJ ?_)<;>conv=>whnf))
 refine loop_i (α :=Nat × Int × Ent × List Nat × Nat) (fun x=>[(8, .int .i64 x.2.1),(7, .row 1),(3, .own 0 0),(2, .fn g []),(1, .int .i64 k)]) (fun x=>[.box false r.cells, .mpb (kE x.2.2.1) (uE x.2.2.1) x.2.2.2.1 x.2.2.2.2, .fresh, .fresh])
  (fun x=>x.1<=wid b/\x.2.1=b.lo+(x.1:Int)/\Rep x.2.2.1 (fsK b.lo x.1) (fun y=>T1 r.ms (Q k y) y)/\BnOk (kE x.2.2.1) (uE x.2.2.1) x.2.2.2.1 x.2.2.2.2) (fun x=>wid b-x.1) (0,b.lo,[],[],0) mI ⟨by omega,by simp,Rep.nil _,⟨rfl,rfl,by simp,by simp⟩⟩ ?_
 rintro⟨j,p,A,bn,n⟩ ⟨hj,hp,hR,hBn⟩
 dsimp only at hj hp hR hBn⊢
 conv=>whnf
 (conv=>whnf);(repeat'((first|apply bT|apply bF|apply bN|((first|apply bD|apply bEq|apply bNe)<;>intro hh<;>try(exfalso;omega))|refine iaJ g1 ?_|refine wJ ?_|refine nJ ?_)<;>conv=>whnf))
 ·-- a force
  have hg1:(0:Int)<=p/\p<=99:=by omega
  refine loop_i (α :=Nat) (fun k2=>[(37, .int .i64 k2),(36, .int .i64 (r.ms.map Met.av).length),(35, .isl (r.ms.map Met.av)),(9, .own 2 0),(8, .int .i64 p),(7, .row 1),(3, .own 0 0),(2, .fn g []),(1, .int .i64 k)]) (fun k2=>[.box false r.cells, .mpb (kE A) (uE A) bn n, .box false [.int .i64 (mk1 r.ms p k2 0), .int .i64 (mk1 r.ms p k2 1), .int .i64 (mk1 r.ms p k2 2), .int .i64 (mk1 r.ms p k2 3), .int .i64 (mk1 r.ms p k2 4), .int .i64 0], .fresh]) (fun k2=>k2<=r.ms.length) (fun k2=>r.ms.length-k2) 0 mI (by omega) ?_
  intro k2 hk2
  conv=>whnf
  refine bD (fun h4=>?_) (fun h4=>?_)
  ·have hlt:k2<r.ms.length:=by omega
   have g2:=gM r.ms k2 hlt
   by_cases h10:k2=0
   ·subst h10
    by_cases hq:(r.ms.getD 0 ⟨0,0⟩).L<=p
    ·have hv1:m1 r.ms p 0=1:=by unfold m1;rw[if_pos ⟨by omega,hq⟩]
     (conv=>whnf);(repeat'((first|apply bT|apply bF|apply bN|((first|apply bD|apply bEq|apply bNe)<;>intro hh<;>try(exfalso;omega))|refine iaJ g2 ?_|refine wJ ?_|refine nJ ?_)<;>conv=>whnf))
     refine⟨0+1,?_,by omega,by omega⟩
     have e0:mk1 r.ms p (0+1) 0=1:=by unfold mk1;rw[if_pos (by omega),hv1]
     have e2:mk1 r.ms p (0+1) 1=mk1 r.ms p 0 1:=by unfold mk1;first|rw[if_pos (by omega),if_pos (by omega)]|rw[if_neg (by omega),if_neg (by omega)]
     have e3:mk1 r.ms p (0+1) 2=mk1 r.ms p 0 2:=by unfold mk1;first|rw[if_pos (by omega),if_pos (by omega)]|rw[if_neg (by omega),if_neg (by omega)]
     have e4:mk1 r.ms p (0+1) 3=mk1 r.ms p 0 3:=by unfold mk1;first|rw[if_pos (by omega),if_pos (by omega)]|rw[if_neg (by omega),if_neg (by omega)]
     have e5:mk1 r.ms p (0+1) 4=mk1 r.ms p 0 4:=by unfold mk1;first|rw[if_pos (by omega),if_pos (by omega)]|rw[if_neg (by omega),if_neg (by omega)]
     rw[e0,e2,e3,e4,e5]
     exact mI
    ·have hv1:m1 r.ms p 0=0:=by unfold m1;rw[if_neg (fun hh=>hq hh.2)]
     (conv=>whnf);(repeat'((first|apply bT|apply bF|apply bN|((first|apply bD|apply bEq|apply bNe)<;>intro hh<;>try(exfalso;omega))|refine iaJ g2 ?_|refine wJ ?_|refine nJ ?_)<;>conv=>whnf))
     refine⟨0+1,?_,by omega,by omega⟩
     have e0:mk1 r.ms p (0+1) 0=mk1 r.ms p 0 0:=by unfold mk1;rw[if_pos (by omega),if_neg (by omega),hv1]
     have e2:mk1 r.ms p (0+1) 1=mk1 r.ms p 0 1:=by unfold mk1;first|rw[if_pos (by omega),if_pos (by omega)]|rw[if_neg (by omega),if_neg (by omega)]
     have e3:mk1 r.ms p (0+1) 2=mk1 r.ms p 0 2:=by unfold mk1;first|rw[if_pos (by omega),if_pos (by omega)]|rw[if_neg (by omega),if_neg (by omega)]
     have e4:mk1 r.ms p (0+1) 3=mk1 r.ms p 0 3:=by unfold mk1;first|rw[if_pos (by omega),if_pos (by omega)]|rw[if_neg (by omega),if_neg (by omega)]
     have e5:mk1 r.ms p (0+1) 4=mk1 r.ms p 0 4:=by unfold mk1;first|rw[if_pos (by omega),if_pos (by omega)]|rw[if_neg (by omega),if_neg (by omega)]
     rw[e0,e2,e3,e4,e5]
     exact mI
   by_cases h11:k2=1
   ·subst h11
    by_cases hq:(r.ms.getD 1 ⟨0,0⟩).L<=p
    ·have hv1:m1 r.ms p 1=1:=by unfold m1;rw[if_pos ⟨by omega,hq⟩]
     (conv=>whnf);(repeat'((first|apply bT|apply bF|apply bN|((first|apply bD|apply bEq|apply bNe)<;>intro hh<;>try(exfalso;omega))|refine iaJ g2 ?_|refine wJ ?_|refine nJ ?_)<;>conv=>whnf))
     refine⟨1+1,?_,by omega,by omega⟩
     have e0:mk1 r.ms p (1+1) 1=1:=by unfold mk1;rw[if_pos (by omega),hv1]
     have e1:mk1 r.ms p (1+1) 0=mk1 r.ms p 1 0:=by unfold mk1;first|rw[if_pos (by omega),if_pos (by omega)]|rw[if_neg (by omega),if_neg (by omega)]
     have e3:mk1 r.ms p (1+1) 2=mk1 r.ms p 1 2:=by unfold mk1;first|rw[if_pos (by omega),if_pos (by omega)]|rw[if_neg (by omega),if_neg (by omega)]
     have e4:mk1 r.ms p (1+1) 3=mk1 r.ms p 1 3:=by unfold mk1;first|rw[if_pos (by omega),if_pos (by omega)]|rw[if_neg (by omega),if_neg (by omega)]
     have e5:mk1 r.ms p (1+1) 4=mk1 r.ms p 1 4:=by unfold mk1;first|rw[if_pos (by omega),if_pos (by omega)]|rw[if_neg (by omega),if_neg (by omega)]
     rw[e0,e1,e3,e4,e5]
     exact mI
    ·have hv1:m1 r.ms p 1=0:=by unfold m1;rw[if_neg (fun hh=>hq hh.2)]
     (conv=>whnf);(repeat'((first|apply bT|apply bF|apply bN|((first|apply bD|apply bEq|apply bNe)<;>intro hh<;>try(exfalso;omega))|refine iaJ g2 ?_|refine wJ ?_|refine nJ ?_)<;>conv=>whnf))
     refine⟨1+1,?_,by omega,by omega⟩
     have e0:mk1 r.ms p (1+1) 1=mk1 r.ms p 1 1:=by unfold mk1;rw[if_pos (by omega),if_neg (by omega),hv1]
     have e1:mk1 r.ms p (1+1) 0=mk1 r.ms p 1 0:=by unfold mk1;first|rw[if_pos (by omega),if_pos (by omega)]|rw[if_neg (by omega),if_neg (by omega)]
     have e3:mk1 r.ms p (1+1) 2=mk1 r.ms p 1 2:=by unfold mk1;first|rw[if_pos (by omega),if_pos (by omega)]|rw[if_neg (by omega),if_neg (by omega)]
     have e4:mk1 r.ms p (1+1) 3=mk1 r.ms p 1 3:=by unfold mk1;first|rw[if_pos (by omega),if_pos (by omega)]|rw[if_neg (by omega),if_neg (by omega)]
     have e5:mk1 r.ms p (1+1) 4=mk1 r.ms p 1 4:=by unfold mk1;first|rw[if_pos (by omega),if_pos (by omega)]|rw[if_neg (by omega),if_neg (by omega)]
     rw[e0,e1,e3,e4,e5]
     exact mI
   by_cases h12:k2=2
   ·subst h12
    by_cases hq:(r.ms.getD 2 ⟨0,0⟩).L<=p
    ·have hv1:m1 r.ms p 2=1:=by unfold m1;rw[if_pos ⟨by omega,hq⟩]
     (conv=>whnf);(repeat'((first|apply bT|apply bF|apply bN|((first|apply bD|apply bEq|apply bNe)<;>intro hh<;>try(exfalso;omega))|refine iaJ g2 ?_|refine wJ ?_|refine nJ ?_)<;>conv=>whnf))
     refine⟨2+1,?_,by omega,by omega⟩
     have e0:mk1 r.ms p (2+1) 2=1:=by unfold mk1;rw[if_pos (by omega),hv1]
     have e1:mk1 r.ms p (2+1) 0=mk1 r.ms p 2 0:=by unfold mk1;first|rw[if_pos (by omega),if_pos (by omega)]|rw[if_neg (by omega),if_neg (by omega)]
     have e2:mk1 r.ms p (2+1) 1=mk1 r.ms p 2 1:=by unfold mk1;first|rw[if_pos (by omega),if_pos (by omega)]|rw[if_neg (by omega),if_neg (by omega)]
     have e4:mk1 r.ms p (2+1) 3=mk1 r.ms p 2 3:=by unfold mk1;first|rw[if_pos (by omega),if_pos (by omega)]|rw[if_neg (by omega),if_neg (by omega)]
     have e5:mk1 r.ms p (2+1) 4=mk1 r.ms p 2 4:=by unfold mk1;first|rw[if_pos (by omega),if_pos (by omega)]|rw[if_neg (by omega),if_neg (by omega)]
     rw[e0,e1,e2,e4,e5]
     exact mI
    ·have hv1:m1 r.ms p 2=0:=by unfold m1;rw[if_neg (fun hh=>hq hh.2)]
     (conv=>whnf);(repeat'((first|apply bT|apply bF|apply bN|((first|apply bD|apply bEq|apply bNe)<;>intro hh<;>try(exfalso;omega))|refine iaJ g2 ?_|refine wJ ?_|refine nJ ?_)<;>conv=>whnf))
     refine⟨2+1,?_,by omega,by omega⟩
     have e0:mk1 r.ms p (2+1) 2=mk1 r.ms p 2 2:=by unfold mk1;rw[if_pos (by omega),if_neg (by omega),hv1]
     have e1:mk1 r.ms p (2+1) 0=mk1 r.ms p 2 0:=by unfold mk1;first|rw[if_pos (by omega),if_pos (by omega)]|rw[if_neg (by omega),if_neg (by omega)]
     have e2:mk1 r.ms p (2+1) 1=mk1 r.ms p 2 1:=by unfold mk1;first|rw[if_pos (by omega),if_pos (by omega)]|rw[if_neg (by omega),if_neg (by omega)]
     have e4:mk1 r.ms p (2+1) 3=mk1 r.ms p 2 3:=by unfold mk1;first|rw[if_pos (by omega),if_pos (by omega)]|rw[if_neg (by omega),if_neg (by omega)]
     have e5:mk1 r.ms p (2+1) 4=mk1 r.ms p 2 4:=by unfold mk1;first|rw[if_pos (by omega),if_pos (by omega)]|rw[if_neg (by omega),if_neg (by omega)]
     rw[e0,e1,e2,e4,e5]
     exact mI
   by_cases h13:k2=3
   ·subst h13
    by_cases hq:(r.ms.getD 3 ⟨0,0⟩).L<=p
    ·have hv1:m1 r.ms p 3=1:=by unfold m1;rw[if_pos ⟨by omega,hq⟩]
     (conv=>whnf);(repeat'((first|apply bT|apply bF|apply bN|((first|apply bD|apply bEq|apply bNe)<;>intro hh<;>try(exfalso;omega))|refine iaJ g2 ?_|refine wJ ?_|refine nJ ?_)<;>conv=>whnf))
     refine⟨3+1,?_,by omega,by omega⟩
     have e0:mk1 r.ms p (3+1) 3=1:=by unfold mk1;rw[if_pos (by omega),hv1]
     have e1:mk1 r.ms p (3+1) 0=mk1 r.ms p 3 0:=by unfold mk1;first|rw[if_pos (by omega),if_pos (by omega)]|rw[if_neg (by omega),if_neg (by omega)]
     have e2:mk1 r.ms p (3+1) 1=mk1 r.ms p 3 1:=by unfold mk1;first|rw[if_pos (by omega),if_pos (by omega)]|rw[if_neg (by omega),if_neg (by omega)]
     have e3:mk1 r.ms p (3+1) 2=mk1 r.ms p 3 2:=by unfold mk1;first|rw[if_pos (by omega),if_pos (by omega)]|rw[if_neg (by omega),if_neg (by omega)]
     have e5:mk1 r.ms p (3+1) 4=mk1 r.ms p 3 4:=by unfold mk1;first|rw[if_pos (by omega),if_pos (by omega)]|rw[if_neg (by omega),if_neg (by omega)]
     rw[e0,e1,e2,e3,e5]
     exact mI
    ·have hv1:m1 r.ms p 3=0:=by unfold m1;rw[if_neg (fun hh=>hq hh.2)]
     (conv=>whnf);(repeat'((first|apply bT|apply bF|apply bN|((first|apply bD|apply bEq|apply bNe)<;>intro hh<;>try(exfalso;omega))|refine iaJ g2 ?_|refine wJ ?_|refine nJ ?_)<;>conv=>whnf))
     refine⟨3+1,?_,by omega,by omega⟩
     have e0:mk1 r.ms p (3+1) 3=mk1 r.ms p 3 3:=by unfold mk1;rw[if_pos (by omega),if_neg (by omega),hv1]
     have e1:mk1 r.ms p (3+1) 0=mk1 r.ms p 3 0:=by unfold mk1;first|rw[if_pos (by omega),if_pos (by omega)]|rw[if_neg (by omega),if_neg (by omega)]
     have e2:mk1 r.ms p (3+1) 1=mk1 r.ms p 3 1:=by unfold mk1;first|rw[if_pos (by omega),if_pos (by omega)]|rw[if_neg (by omega),if_neg (by omega)]
     have e3:mk1 r.ms p (3+1) 2=mk1 r.ms p 3 2:=by unfold mk1;first|rw[if_pos (by omega),if_pos (by omega)]|rw[if_neg (by omega),if_neg (by omega)]
     have e5:mk1 r.ms p (3+1) 4=mk1 r.ms p 3 4:=by unfold mk1;first|rw[if_pos (by omega),if_pos (by omega)]|rw[if_neg (by omega),if_neg (by omega)]
     rw[e0,e1,e2,e3,e5]
     exact mI
   have h14:k2=4:=by omega
   ·subst h14
    by_cases hq:(r.ms.getD 4 ⟨0,0⟩).L<=p
    ·have hv1:m1 r.ms p 4=1:=by unfold m1;rw[if_pos ⟨by omega,hq⟩]
     (conv=>whnf);(repeat'((first|apply bT|apply bF|apply bN|((first|apply bD|apply bEq|apply bNe)<;>intro hh<;>try(exfalso;omega))|refine iaJ g2 ?_|refine wJ ?_|refine nJ ?_)<;>conv=>whnf))
     refine⟨4+1,?_,by omega,by omega⟩
     have e0:mk1 r.ms p (4+1) 4=1:=by unfold mk1;rw[if_pos (by omega),hv1]
     have e1:mk1 r.ms p (4+1) 0=mk1 r.ms p 4 0:=by unfold mk1;first|rw[if_pos (by omega),if_pos (by omega)]|rw[if_neg (by omega),if_neg (by omega)]
     have e2:mk1 r.ms p (4+1) 1=mk1 r.ms p 4 1:=by unfold mk1;first|rw[if_pos (by omega),if_pos (by omega)]|rw[if_neg (by omega),if_neg (by omega)]
     have e3:mk1 r.ms p (4+1) 2=mk1 r.ms p 4 2:=by unfold mk1;first|rw[if_pos (by omega),if_pos (by omega)]|rw[if_neg (by omega),if_neg (by omega)]
     have e4:mk1 r.ms p (4+1) 3=mk1 r.ms p 4 3:=by unfold mk1;first|rw[if_pos (by omega),if_pos (by omega)]|rw[if_neg (by omega),if_neg (by omega)]
     rw[e0,e1,e2,e3,e4]
     exact mI
    ·have hv1:m1 r.ms p 4=0:=by unfold m1;rw[if_neg (fun hh=>hq hh.2)]
     (conv=>whnf);(repeat'((first|apply bT|apply bF|apply bN|((first|apply bD|apply bEq|apply bNe)<;>intro hh<;>try(exfalso;omega))|refine iaJ g2 ?_|refine wJ ?_|refine nJ ?_)<;>conv=>whnf))
     refine⟨4+1,?_,by omega,by omega⟩
     have e0:mk1 r.ms p (4+1) 4=mk1 r.ms p 4 4:=by unfold mk1;rw[if_pos (by omega),if_neg (by omega),hv1]
     have e1:mk1 r.ms p (4+1) 0=mk1 r.ms p 4 0:=by unfold mk1;first|rw[if_pos (by omega),if_pos (by omega)]|rw[if_neg (by omega),if_neg (by omega)]
     have e2:mk1 r.ms p (4+1) 1=mk1 r.ms p 4 1:=by unfold mk1;first|rw[if_pos (by omega),if_pos (by omega)]|rw[if_neg (by omega),if_neg (by omega)]
     have e3:mk1 r.ms p (4+1) 2=mk1 r.ms p 4 2:=by unfold mk1;first|rw[if_pos (by omega),if_pos (by omega)]|rw[if_neg (by omega),if_neg (by omega)]
     have e4:mk1 r.ms p (4+1) 3=mk1 r.ms p 4 3:=by unfold mk1;first|rw[if_pos (by omega),if_pos (by omega)]|rw[if_neg (by omega),if_neg (by omega)]
     rw[e0,e1,e2,e3,e4]
     exact mI
  ·have:k2=r.ms.length:=by omega
   subst this
   have hv:=hq p hg1.1 hg1.2
   have hpA:p=b.lo+(j:Int):=hp
   have hlen6:=hR.len
   have hRs:∀q,Q k p=q->Rep (addE A [mk1 r.ms p r.ms.length 0,mk1 r.ms p r.ms.length 1,mk1 r.ms p r.ms.length 2,mk1 r.ms p r.ms.length 3,mk1 r.ms p r.ms.length 4,if q=true then 1 else 0] 1) (fsK b.lo (j+1)) (fun y=>T1 r.ms (Q k y) y):=fun q hqq=>by
    have:=hR.snoc (x:=p) (T1_len r.ms (Q k p) p)
    rw[fsK_suc,<- hp]
    simpa only[T1,mk1_len,hqq]using this
   have hcb:∀t,0<=vE A t/\vE A t<=10:=fun t=>by
    have:=cnT_le (fsK b.lo j) (fun y=>T1 r.ms (Q k y) y) t
    rw[<- hR.cnt,show(fsK b.lo j).length=j by simp[fsK]]at this
    omega
   (conv=>whnf);(repeat'((first|apply bT|apply bF|apply bN|((first|apply bD|apply bEq|apply bNe)<;>intro hh<;>try(exfalso;omega))|refine wJ ?_|refine nJ ?_)<;>conv=>whnf))
   refine hv.vcallq rfl rfl rfl rfl (fun r' (hr:r'=_)=>?_);subst hr
   cases hQ:Q k p
   ·have hR1:=hRs false hQ
    have hm6:=mpe6 (E:=A) (t:=[mk1 r.ms p r.ms.length 0,mk1 r.ms p r.ms.length 1,mk1 r.ms p r.ms.length 2,mk1 r.ms p r.ms.length 3,mk1 r.ms p r.ms.length 4,0]) rfl hlen6 hBn 1
    have hl6:=look6 (E:=A) (t:=[mk1 r.ms p r.ms.length 0,mk1 r.ms p r.ms.length 1,mk1 r.ms p r.ms.length 2,mk1 r.ms p r.ms.length 3,mk1 r.ms p r.ms.length 4,0]) rfl hlen6
    simp only[Bool.false_eq_true,if_false]at hR1
    have hc:=hcb [mk1 r.ms p r.ms.length 0,mk1 r.ms p r.ms.length 1,mk1 r.ms p r.ms.length 2,mk1 r.ms p r.ms.length 3,mk1 r.ms p r.ms.length 4,0]
    obtain⟨v0,b0,bn',n',jj,q1,q2,q3,q4,q5,q6⟩:=hm6
    unfold vE at hc q3 q5
    cases hg:getE A [mk1 r.ms p r.ms.length 0,mk1 r.ms p r.ms.length 1,mk1 r.ms p r.ms.length 2,mk1 r.ms p r.ms.length 3,mk1 r.ms p r.ms.length 4,0]with
    |none=>
     rw[hg]at hl6 hc q3 q5
     simp only[Option.map_none,Option.getD_none]at hl6 hc q3 q5
     (conv=>whnf);(repeat'((first|apply bT|apply bF|apply bN|((first|apply bD|apply bEq|apply bNe)<;>intro hh<;>try(exfalso;omega))|refine altI ?_ ?_|refine lkI hl6 ?_|refine lkI q5 ?_|refine meI q1 ?_|refine msI _ _ q2 rfl q3.symm ?_|refine wJ ?_|refine nJ ?_)<;>conv=>whnf))
     all_goals exact⟨(j+1,p+1,_,bn',n'),mI,⟨by dsimp only;omega,by dsimp only;omega,hR1,q4⟩,by dsimp only;omega⟩
    |some v=>
     rw[hg]at hl6 hc q3 q5
     simp only[Option.map_some,Option.getD_some]at hl6 hc q3 q5
     (conv=>whnf);(repeat'((first|apply bT|apply bF|apply bN|((first|apply bD|apply bEq|apply bNe)<;>intro hh<;>try(exfalso;omega))|refine altI ?_ ?_|refine lkI hl6 ?_|refine lkI q5 ?_|refine meI q1 ?_|refine msI _ _ q2 rfl q3.symm ?_|refine wJ ?_|refine nJ ?_)<;>conv=>whnf))
     all_goals exact⟨(j+1,p+1,_,bn',n'),mI,⟨by dsimp only;omega,by dsimp only;omega,hR1,q4⟩,by dsimp only;omega⟩
   ·have hR1:=hRs true hQ
    have hm6:=mpe6 (E:=A) (t:=[mk1 r.ms p r.ms.length 0,mk1 r.ms p r.ms.length 1,mk1 r.ms p r.ms.length 2,mk1 r.ms p r.ms.length 3,mk1 r.ms p r.ms.length 4,1]) rfl hlen6 hBn 1
    have hl6:=look6 (E:=A) (t:=[mk1 r.ms p r.ms.length 0,mk1 r.ms p r.ms.length 1,mk1 r.ms p r.ms.length 2,mk1 r.ms p r.ms.length 3,mk1 r.ms p r.ms.length 4,1]) rfl hlen6
    simp only[if_true]at hR1
    have hc:=hcb [mk1 r.ms p r.ms.length 0,mk1 r.ms p r.ms.length 1,mk1 r.ms p r.ms.length 2,mk1 r.ms p r.ms.length 3,mk1 r.ms p r.ms.length 4,1]
    obtain⟨v0,b0,bn',n',jj,q1,q2,q3,q4,q5,q6⟩:=hm6
    unfold vE at hc q3 q5
    cases hg:getE A [mk1 r.ms p r.ms.length 0,mk1 r.ms p r.ms.length 1,mk1 r.ms p r.ms.length 2,mk1 r.ms p r.ms.length 3,mk1 r.ms p r.ms.length 4,1]with
    |none=>
     rw[hg]at hl6 hc q3 q5
     simp only[Option.map_none,Option.getD_none]at hl6 hc q3 q5
     (conv=>whnf);(repeat'((first|apply bT|apply bF|apply bN|((first|apply bD|apply bEq|apply bNe)<;>intro hh<;>try(exfalso;omega))|refine altI ?_ ?_|refine lkI hl6 ?_|refine lkI q5 ?_|refine meI q1 ?_|refine msI _ _ q2 rfl q3.symm ?_|refine wJ ?_|refine nJ ?_)<;>conv=>whnf))
     all_goals exact⟨(j+1,p+1,_,bn',n'),mI,⟨by dsimp only;omega,by dsimp only;omega,hR1,q4⟩,by dsimp only;omega⟩
    |some v=>
     rw[hg]at hl6 hc q3 q5
     simp only[Option.map_some,Option.getD_some]at hl6 hc q3 q5
     (conv=>whnf);(repeat'((first|apply bT|apply bF|apply bN|((first|apply bD|apply bEq|apply bNe)<;>intro hh<;>try(exfalso;omega))|refine altI ?_ ?_|refine lkI hl6 ?_|refine lkI q5 ?_|refine meI q1 ?_|refine msI _ _ q2 rfl q3.symm ?_|refine wJ ?_|refine nJ ?_)<;>conv=>whnf))
     all_goals exact⟨(j+1,p+1,_,bn',n'),mI,⟨by dsimp only;omega,by dsimp only;omega,hR1,q4⟩,by dsimp only;omega⟩
 ·have:j=wid b:=by omega
  subst this
  (conv=>whnf);(repeat'((first|apply bT|apply bF|apply bN|((first|apply bD|apply bEq|apply bNe)<;>intro hh<;>try(exfalso;omega))|refine wJ ?_|refine nJ ?_)<;>conv=>whnf))
  all_goals exact⟨A,rfl,rfl,hR⟩
theorem p94_1(r:Ru)(k n0:Nat)(g:FuncId)(c:List AV)(Q:Nat->Int->Bool)(hk:k<r.bs.length)(hbl:r.bs.length<=8)(hm:r.ms.length<=5)(hb:okBlw n0 (r.bs.getD k ⟨0,0,0⟩))
  (hq:∀x,0<=x->x<=99->FnV Tryz.prog (.fn g [.ipt c]) [.int .i64 k, .int .i64 x] (· = .bool (Q k x))) :
  FnW Tryz.prog 114 [.agg r.cells, .int .i64 k, .fn g [.ipt c]] [] (fun r' outs=>∃A,r' = .row 0/\outs=[.mp false (kE A) (uE A)]/\Rep A (fsB (r.bs.getD k ⟨0,0,0⟩)) (fun x=>T1 r.ms (Q k x) x)):=by
 have hB:(r.bs.map Blw.av).length=r.bs.length:=by simp
 have hM:(r.ms.map Met.av).length=r.ms.length:=by simp
 have g1:=gB r.bs k hk
 have hw:=wid_pos hb
 unfold okBlw at hb
 have hwd:wid (r.bs.getD k ⟨0,0,0⟩)=((r.bs.getD k ⟨0,0,0⟩).hi+1-(r.bs.getD k ⟨0,0,0⟩).lo).toNat:=rfl
 unfold fsB
 generalize r.bs.getD k ⟨0,0,0⟩=b at *
 refine fnW 4 [1] ok114 (by simp) rfl rfl ?_
 (conv=>whnf);(repeat'((first|apply bT|apply bF|apply bN|((first|apply bD|apply bEq|apply bNe)<;>intro hh<;>try(exfalso;omega))|refine MrgE.bn ?_|refine iaJ g1 ?_|refine wJ ?_|refine nJ ?_)<;>conv=>whnf))
 refine loop_i (α :=Nat × Int × Ent × List Nat × Nat) (fun x=>[(8, .int .i64 x.2.1),(7, .row 1),(3, .own 0 0),(2, .fn g [.ipt c]),(1, .int .i64 k)]) (fun x=>[.box false r.cells, .mpb (kE x.2.2.1) (uE x.2.2.1) x.2.2.2.1 x.2.2.2.2, .fresh, .fresh])
  (fun x=>x.1<=wid b/\x.2.1=b.lo+(x.1:Int)/\Rep x.2.2.1 (fsK b.lo x.1) (fun y=>T1 r.ms (Q k y) y)/\BnOk (kE x.2.2.1) (uE x.2.2.1) x.2.2.2.1 x.2.2.2.2) (fun x=>wid b-x.1) (0,b.lo,[],[],0) mI ⟨by omega,by simp,Rep.nil _,⟨rfl,rfl,by simp,by simp⟩⟩ ?_
 rintro⟨j,p,A,bn,n⟩ ⟨hj,hp,hR,hBn⟩
 dsimp only at hj hp hR hBn⊢
 conv=>whnf
 (conv=>whnf);(repeat'((first|apply bT|apply bF|apply bN|((first|apply bD|apply bEq|apply bNe)<;>intro hh<;>try(exfalso;omega))|refine iaJ g1 ?_|refine wJ ?_|refine nJ ?_)<;>conv=>whnf))
 ·-- a force
  have hg1:(0:Int)<=p/\p<=99:=by omega
  refine loop_i (α :=Nat) (fun k2=>[(37, .int .i64 k2),(36, .int .i64 (r.ms.map Met.av).length),(35, .isl (r.ms.map Met.av)),(9, .own 2 0),(8, .int .i64 p),(7, .row 1),(3, .own 0 0),(2, .fn g [.ipt c]),(1, .int .i64 k)]) (fun k2=>[.box false r.cells, .mpb (kE A) (uE A) bn n, .box false [.int .i64 (mk1 r.ms p k2 0), .int .i64 (mk1 r.ms p k2 1), .int .i64 (mk1 r.ms p k2 2), .int .i64 (mk1 r.ms p k2 3), .int .i64 (mk1 r.ms p k2 4), .int .i64 0], .fresh]) (fun k2=>k2<=r.ms.length) (fun k2=>r.ms.length-k2) 0 mI (by omega) ?_
  intro k2 hk2
  conv=>whnf
  refine bD (fun h4=>?_) (fun h4=>?_)
  ·have hlt:k2<r.ms.length:=by omega
   have g2:=gM r.ms k2 hlt
   by_cases h10:k2=0
   ·subst h10
    by_cases hq:(r.ms.getD 0 ⟨0,0⟩).L<=p
    ·have hv1:m1 r.ms p 0=1:=by unfold m1;rw[if_pos ⟨by omega,hq⟩]
     (conv=>whnf);(repeat'((first|apply bT|apply bF|apply bN|((first|apply bD|apply bEq|apply bNe)<;>intro hh<;>try(exfalso;omega))|refine iaJ g2 ?_|refine wJ ?_|refine nJ ?_)<;>conv=>whnf))
     refine⟨0+1,?_,by omega,by omega⟩
     have e0:mk1 r.ms p (0+1) 0=1:=by unfold mk1;rw[if_pos (by omega),hv1]
     have e2:mk1 r.ms p (0+1) 1=mk1 r.ms p 0 1:=by unfold mk1;first|rw[if_pos (by omega),if_pos (by omega)]|rw[if_neg (by omega),if_neg (by omega)]
     have e3:mk1 r.ms p (0+1) 2=mk1 r.ms p 0 2:=by unfold mk1;first|rw[if_pos (by omega),if_pos (by omega)]|rw[if_neg (by omega),if_neg (by omega)]
     have e4:mk1 r.ms p (0+1) 3=mk1 r.ms p 0 3:=by unfold mk1;first|rw[if_pos (by omega),if_pos (by omega)]|rw[if_neg (by omega),if_neg (by omega)]
     have e5:mk1 r.ms p (0+1) 4=mk1 r.ms p 0 4:=by unfold mk1;first|rw[if_pos (by omega),if_pos (by omega)]|rw[if_neg (by omega),if_neg (by omega)]
     rw[e0,e2,e3,e4,e5]
     exact mI
    ·have hv1:m1 r.ms p 0=0:=by unfold m1;rw[if_neg (fun hh=>hq hh.2)]
     (conv=>whnf);(repeat'((first|apply bT|apply bF|apply bN|((first|apply bD|apply bEq|apply bNe)<;>intro hh<;>try(exfalso;omega))|refine iaJ g2 ?_|refine wJ ?_|refine nJ ?_)<;>conv=>whnf))
     refine⟨0+1,?_,by omega,by omega⟩
     have e0:mk1 r.ms p (0+1) 0=mk1 r.ms p 0 0:=by unfold mk1;rw[if_pos (by omega),if_neg (by omega),hv1]
     have e2:mk1 r.ms p (0+1) 1=mk1 r.ms p 0 1:=by unfold mk1;first|rw[if_pos (by omega),if_pos (by omega)]|rw[if_neg (by omega),if_neg (by omega)]
     have e3:mk1 r.ms p (0+1) 2=mk1 r.ms p 0 2:=by unfold mk1;first|rw[if_pos (by omega),if_pos (by omega)]|rw[if_neg (by omega),if_neg (by omega)]
     have e4:mk1 r.ms p (0+1) 3=mk1 r.ms p 0 3:=by unfold mk1;first|rw[if_pos (by omega),if_pos (by omega)]|rw[if_neg (by omega),if_neg (by omega)]
     have e5:mk1 r.ms p (0+1) 4=mk1 r.ms p 0 4:=by unfold mk1;first|rw[if_pos (by omega),if_pos (by omega)]|rw[if_neg (by omega),if_neg (by omega)]
     rw[e0,e2,e3,e4,e5]
     exact mI
   by_cases h11:k2=1
   ·subst h11
    by_cases hq:(r.ms.getD 1 ⟨0,0⟩).L<=p
    ·have hv1:m1 r.ms p 1=1:=by unfold m1;rw[if_pos ⟨by omega,hq⟩]
     (conv=>whnf);(repeat'((first|apply bT|apply bF|apply bN|((first|apply bD|apply bEq|apply bNe)<;>intro hh<;>try(exfalso;omega))|refine iaJ g2 ?_|refine wJ ?_|refine nJ ?_)<;>conv=>whnf))
     refine⟨1+1,?_,by omega,by omega⟩
     have e0:mk1 r.ms p (1+1) 1=1:=by unfold mk1;rw[if_pos (by omega),hv1]
     have e1:mk1 r.ms p (1+1) 0=mk1 r.ms p 1 0:=by unfold mk1;first|rw[if_pos (by omega),if_pos (by omega)]|rw[if_neg (by omega),if_neg (by omega)]
     have e3:mk1 r.ms p (1+1) 2=mk1 r.ms p 1 2:=by unfold mk1;first|rw[if_pos (by omega),if_pos (by omega)]|rw[if_neg (by omega),if_neg (by omega)]
     have e4:mk1 r.ms p (1+1) 3=mk1 r.ms p 1 3:=by unfold mk1;first|rw[if_pos (by omega),if_pos (by omega)]|rw[if_neg (by omega),if_neg (by omega)]
     have e5:mk1 r.ms p (1+1) 4=mk1 r.ms p 1 4:=by unfold mk1;first|rw[if_pos (by omega),if_pos (by omega)]|rw[if_neg (by omega),if_neg (by omega)]
     rw[e0,e1,e3,e4,e5]
     exact mI
    ·have hv1:m1 r.ms p 1=0:=by unfold m1;rw[if_neg (fun hh=>hq hh.2)]
     (conv=>whnf);(repeat'((first|apply bT|apply bF|apply bN|((first|apply bD|apply bEq|apply bNe)<;>intro hh<;>try(exfalso;omega))|refine iaJ g2 ?_|refine wJ ?_|refine nJ ?_)<;>conv=>whnf))
     refine⟨1+1,?_,by omega,by omega⟩
     have e0:mk1 r.ms p (1+1) 1=mk1 r.ms p 1 1:=by unfold mk1;rw[if_pos (by omega),if_neg (by omega),hv1]
     have e1:mk1 r.ms p (1+1) 0=mk1 r.ms p 1 0:=by unfold mk1;first|rw[if_pos (by omega),if_pos (by omega)]|rw[if_neg (by omega),if_neg (by omega)]
     have e3:mk1 r.ms p (1+1) 2=mk1 r.ms p 1 2:=by unfold mk1;first|rw[if_pos (by omega),if_pos (by omega)]|rw[if_neg (by omega),if_neg (by omega)]
     have e4:mk1 r.ms p (1+1) 3=mk1 r.ms p 1 3:=by unfold mk1;first|rw[if_pos (by omega),if_pos (by omega)]|rw[if_neg (by omega),if_neg (by omega)]
     have e5:mk1 r.ms p (1+1) 4=mk1 r.ms p 1 4:=by unfold mk1;first|rw[if_pos (by omega),if_pos (by omega)]|rw[if_neg (by omega),if_neg (by omega)]
     rw[e0,e1,e3,e4,e5]
     exact mI
   by_cases h12:k2=2
   ·subst h12
    by_cases hq:(r.ms.getD 2 ⟨0,0⟩).L<=p
    ·have hv1:m1 r.ms p 2=1:=by unfold m1;rw[if_pos ⟨by omega,hq⟩]
     (conv=>whnf);(repeat'((first|apply bT|apply bF|apply bN|((first|apply bD|apply bEq|apply bNe)<;>intro hh<;>try(exfalso;omega))|refine iaJ g2 ?_|refine wJ ?_|refine nJ ?_)<;>conv=>whnf))
     refine⟨2+1,?_,by omega,by omega⟩
     have e0:mk1 r.ms p (2+1) 2=1:=by unfold mk1;rw[if_pos (by omega),hv1]
     have e1:mk1 r.ms p (2+1) 0=mk1 r.ms p 2 0:=by unfold mk1;first|rw[if_pos (by omega),if_pos (by omega)]|rw[if_neg (by omega),if_neg (by omega)]
     have e2:mk1 r.ms p (2+1) 1=mk1 r.ms p 2 1:=by unfold mk1;first|rw[if_pos (by omega),if_pos (by omega)]|rw[if_neg (by omega),if_neg (by omega)]
     have e4:mk1 r.ms p (2+1) 3=mk1 r.ms p 2 3:=by unfold mk1;first|rw[if_pos (by omega),if_pos (by omega)]|rw[if_neg (by omega),if_neg (by omega)]
     have e5:mk1 r.ms p (2+1) 4=mk1 r.ms p 2 4:=by unfold mk1;first|rw[if_pos (by omega),if_pos (by omega)]|rw[if_neg (by omega),if_neg (by omega)]
     rw[e0,e1,e2,e4,e5]
     exact mI
    ·have hv1:m1 r.ms p 2=0:=by unfold m1;rw[if_neg (fun hh=>hq hh.2)]
     (conv=>whnf);(repeat'((first|apply bT|apply bF|apply bN|((first|apply bD|apply bEq|apply bNe)<;>intro hh<;>try(exfalso;omega))|refine iaJ g2 ?_|refine wJ ?_|refine nJ ?_)<;>conv=>whnf))
     refine⟨2+1,?_,by omega,by omega⟩
     have e0:mk1 r.ms p (2+1) 2=mk1 r.ms p 2 2:=by unfold mk1;rw[if_pos (by omega),if_neg (by omega),hv1]
     have e1:mk1 r.ms p (2+1) 0=mk1 r.ms p 2 0:=by unfold mk1;first|rw[if_pos (by omega),if_pos (by omega)]|rw[if_neg (by omega),if_neg (by omega)]
     have e2:mk1 r.ms p (2+1) 1=mk1 r.ms p 2 1:=by unfold mk1;first|rw[if_pos (by omega),if_pos (by omega)]|rw[if_neg (by omega),if_neg (by omega)]
     have e4:mk1 r.ms p (2+1) 3=mk1 r.ms p 2 3:=by unfold mk1;first|rw[if_pos (by omega),if_pos (by omega)]|rw[if_neg (by omega),if_neg (by omega)]
     have e5:mk1 r.ms p (2+1) 4=mk1 r.ms p 2 4:=by unfold mk1;first|rw[if_pos (by omega),if_pos (by omega)]|rw[if_neg (by omega),if_neg (by omega)]
     rw[e0,e1,e2,e4,e5]
     exact mI
   by_cases h13:k2=3
   ·subst h13
    by_cases hq:(r.ms.getD 3 ⟨0,0⟩).L<=p
    ·have hv1:m1 r.ms p 3=1:=by unfold m1;rw[if_pos ⟨by omega,hq⟩]
     (conv=>whnf);(repeat'((first|apply bT|apply bF|apply bN|((first|apply bD|apply bEq|apply bNe)<;>intro hh<;>try(exfalso;omega))|refine iaJ g2 ?_|refine wJ ?_|refine nJ ?_)<;>conv=>whnf))
     refine⟨3+1,?_,by omega,by omega⟩
     have e0:mk1 r.ms p (3+1) 3=1:=by unfold mk1;rw[if_pos (by omega),hv1]
     have e1:mk1 r.ms p (3+1) 0=mk1 r.ms p 3 0:=by unfold mk1;first|rw[if_pos (by omega),if_pos (by omega)]|rw[if_neg (by omega),if_neg (by omega)]
     have e2:mk1 r.ms p (3+1) 1=mk1 r.ms p 3 1:=by unfold mk1;first|rw[if_pos (by omega),if_pos (by omega)]|rw[if_neg (by omega),if_neg (by omega)]
     have e3:mk1 r.ms p (3+1) 2=mk1 r.ms p 3 2:=by unfold mk1;first|rw[if_pos (by omega),if_pos (by omega)]|rw[if_neg (by omega),if_neg (by omega)]
     have e5:mk1 r.ms p (3+1) 4=mk1 r.ms p 3 4:=by unfold mk1;first|rw[if_pos (by omega),if_pos (by omega)]|rw[if_neg (by omega),if_neg (by omega)]
     rw[e0,e1,e2,e3,e5]
     exact mI
    ·have hv1:m1 r.ms p 3=0:=by unfold m1;rw[if_neg (fun hh=>hq hh.2)]
     (conv=>whnf);(repeat'((first|apply bT|apply bF|apply bN|((first|apply bD|apply bEq|apply bNe)<;>intro hh<;>try(exfalso;omega))|refine iaJ g2 ?_|refine wJ ?_|refine nJ ?_)<;>conv=>whnf))
     refine⟨3+1,?_,by omega,by omega⟩
     have e0:mk1 r.ms p (3+1) 3=mk1 r.ms p 3 3:=by unfold mk1;rw[if_pos (by omega),if_neg (by omega),hv1]
     have e1:mk1 r.ms p (3+1) 0=mk1 r.ms p 3 0:=by unfold mk1;first|rw[if_pos (by omega),if_pos (by omega)]|rw[if_neg (by omega),if_neg (by omega)]
     have e2:mk1 r.ms p (3+1) 1=mk1 r.ms p 3 1:=by unfold mk1;first|rw[if_pos (by omega),if_pos (by omega)]|rw[if_neg (by omega),if_neg (by omega)]
     have e3:mk1 r.ms p (3+1) 2=mk1 r.ms p 3 2:=by unfold mk1;first|rw[if_pos (by omega),if_pos (by omega)]|rw[if_neg (by omega),if_neg (by omega)]
     have e5:mk1 r.ms p (3+1) 4=mk1 r.ms p 3 4:=by unfold mk1;first|rw[if_pos (by omega),if_pos (by omega)]|rw[if_neg (by omega),if_neg (by omega)]
     rw[e0,e1,e2,e3,e5]
     exact mI
   have h14:k2=4:=by omega
   ·subst h14
    by_cases hq:(r.ms.getD 4 ⟨0,0⟩).L<=p
    ·have hv1:m1 r.ms p 4=1:=by unfold m1;rw[if_pos ⟨by omega,hq⟩]
     (conv=>whnf);(repeat'((first|apply bT|apply bF|apply bN|((first|apply bD|apply bEq|apply bNe)<;>intro hh<;>try(exfalso;omega))|refine iaJ g2 ?_|refine wJ ?_|refine nJ ?_)<;>conv=>whnf))
     refine⟨4+1,?_,by omega,by omega⟩
     have e0:mk1 r.ms p (4+1) 4=1:=by unfold mk1;rw[if_pos (by omega),hv1]
     have e1:mk1 r.ms p (4+1) 0=mk1 r.ms p 4 0:=by unfold mk1;first|rw[if_pos (by omega),if_pos (by omega)]|rw[if_neg (by omega),if_neg (by omega)]
     have e2:mk1 r.ms p (4+1) 1=mk1 r.ms p 4 1:=by unfold mk1;first|rw[if_pos (by omega),if_pos (by omega)]|rw[if_neg (by omega),if_neg (by omega)]
     have e3:mk1 r.ms p (4+1) 2=mk1 r.ms p 4 2:=by unfold mk1;first|rw[if_pos (by omega),if_pos (by omega)]|rw[if_neg (by omega),if_neg (by omega)]
     have e4:mk1 r.ms p (4+1) 3=mk1 r.ms p 4 3:=by unfold mk1;first|rw[if_pos (by omega),if_pos (by omega)]|rw[if_neg (by omega),if_neg (by omega)]
     rw[e0,e1,e2,e3,e4]
     exact mI
    ·have hv1:m1 r.ms p 4=0:=by unfold m1;rw[if_neg (fun hh=>hq hh.2)]
     (conv=>whnf);(repeat'((first|apply bT|apply bF|apply bN|((first|apply bD|apply bEq|apply bNe)<;>intro hh<;>try(exfalso;omega))|refine iaJ g2 ?_|refine wJ ?_|refine nJ ?_)<;>conv=>whnf))
     refine⟨4+1,?_,by omega,by omega⟩
     have e0:mk1 r.ms p (4+1) 4=mk1 r.ms p 4 4:=by unfold mk1;rw[if_pos (by omega),if_neg (by omega),hv1]
     have e1:mk1 r.ms p (4+1) 0=mk1 r.ms p 4 0:=by unfold mk1;first|rw[if_pos (by omega),if_pos (by omega)]|rw[if_neg (by omega),if_neg (by omega)]
     have e2:mk1 r.ms p (4+1) 1=mk1 r.ms p 4 1:=by unfold mk1;first|rw[if_pos (by omega),if_pos (by omega)]|rw[if_neg (by omega),if_neg (by omega)]
     have e3:mk1 r.ms p (4+1) 2=mk1 r.ms p 4 2:=by unfold mk1;first|rw[if_pos (by omega),if_pos (by omega)]|rw[if_neg (by omega),if_neg (by omega)]
     have e4:mk1 r.ms p (4+1) 3=mk1 r.ms p 4 3:=by unfold mk1;first|rw[if_pos (by omega),if_pos (by omega)]|rw[if_neg (by omega),if_neg (by omega)]
     rw[e0,e1,e2,e3,e4]
     exact mI
  ·have:k2=r.ms.length:=by omega
   subst this
   have hv:=hq p hg1.1 hg1.2
   have hpA:p=b.lo+(j:Int):=hp
   have hlen6:=hR.len
   have hRs:∀q,Q k p=q->Rep (addE A [mk1 r.ms p r.ms.length 0,mk1 r.ms p r.ms.length 1,mk1 r.ms p r.ms.length 2,mk1 r.ms p r.ms.length 3,mk1 r.ms p r.ms.length 4,if q=true then 1 else 0] 1) (fsK b.lo (j+1)) (fun y=>T1 r.ms (Q k y) y):=fun q hqq=>by
    have:=hR.snoc (x:=p) (T1_len r.ms (Q k p) p)
    rw[fsK_suc,<- hp]
    simpa only[T1,mk1_len,hqq]using this
   have hcb:∀t,0<=vE A t/\vE A t<=10:=fun t=>by
    have:=cnT_le (fsK b.lo j) (fun y=>T1 r.ms (Q k y) y) t
    rw[<- hR.cnt,show(fsK b.lo j).length=j by simp[fsK]]at this
    omega
   (conv=>whnf);(repeat'((first|apply bT|apply bF|apply bN|((first|apply bD|apply bEq|apply bNe)<;>intro hh<;>try(exfalso;omega))|refine wJ ?_|refine nJ ?_)<;>conv=>whnf))
   refine hv.vcallq rfl rfl rfl rfl (fun r' (hr:r'=_)=>?_);subst hr
   cases hQ:Q k p
   ·have hR1:=hRs false hQ
    have hm6:=mpe6 (E:=A) (t:=[mk1 r.ms p r.ms.length 0,mk1 r.ms p r.ms.length 1,mk1 r.ms p r.ms.length 2,mk1 r.ms p r.ms.length 3,mk1 r.ms p r.ms.length 4,0]) rfl hlen6 hBn 1
    have hl6:=look6 (E:=A) (t:=[mk1 r.ms p r.ms.length 0,mk1 r.ms p r.ms.length 1,mk1 r.ms p r.ms.length 2,mk1 r.ms p r.ms.length 3,mk1 r.ms p r.ms.length 4,0]) rfl hlen6
    simp only[Bool.false_eq_true,if_false]at hR1
    have hc:=hcb [mk1 r.ms p r.ms.length 0,mk1 r.ms p r.ms.length 1,mk1 r.ms p r.ms.length 2,mk1 r.ms p r.ms.length 3,mk1 r.ms p r.ms.length 4,0]
    obtain⟨v0,b0,bn',n',jj,q1,q2,q3,q4,q5,q6⟩:=hm6
    unfold vE at hc q3 q5
    cases hg:getE A [mk1 r.ms p r.ms.length 0,mk1 r.ms p r.ms.length 1,mk1 r.ms p r.ms.length 2,mk1 r.ms p r.ms.length 3,mk1 r.ms p r.ms.length 4,0]with
    |none=>
     rw[hg]at hl6 hc q3 q5
     simp only[Option.map_none,Option.getD_none]at hl6 hc q3 q5
     (conv=>whnf);(repeat'((first|apply bT|apply bF|apply bN|((first|apply bD|apply bEq|apply bNe)<;>intro hh<;>try(exfalso;omega))|refine altI ?_ ?_|refine lkI hl6 ?_|refine lkI q5 ?_|refine meI q1 ?_|refine msI _ _ q2 rfl q3.symm ?_|refine wJ ?_|refine nJ ?_)<;>conv=>whnf))
     all_goals exact⟨(j+1,p+1,_,bn',n'),mI,⟨by dsimp only;omega,by dsimp only;omega,hR1,q4⟩,by dsimp only;omega⟩
    |some v=>
     rw[hg]at hl6 hc q3 q5
     simp only[Option.map_some,Option.getD_some]at hl6 hc q3 q5
     (conv=>whnf);(repeat'((first|apply bT|apply bF|apply bN|((first|apply bD|apply bEq|apply bNe)<;>intro hh<;>try(exfalso;omega))|refine altI ?_ ?_|refine lkI hl6 ?_|refine lkI q5 ?_|refine meI q1 ?_|refine msI _ _ q2 rfl q3.symm ?_|refine wJ ?_|refine nJ ?_)<;>conv=>whnf))
     all_goals exact⟨(j+1,p+1,_,bn',n'),mI,⟨by dsimp only;omega,by dsimp only;omega,hR1,q4⟩,by dsimp only;omega⟩
   ·have hR1:=hRs true hQ
    have hm6:=mpe6 (E:=A) (t:=[mk1 r.ms p r.ms.length 0,mk1 r.ms p r.ms.length 1,mk1 r.ms p r.ms.length 2,mk1 r.ms p r.ms.length 3,mk1 r.ms p r.ms.length 4,1]) rfl hlen6 hBn 1
    have hl6:=look6 (E:=A) (t:=[mk1 r.ms p r.ms.length 0,mk1 r.ms p r.ms.length 1,mk1 r.ms p r.ms.length 2,mk1 r.ms p r.ms.length 3,mk1 r.ms p r.ms.length 4,1]) rfl hlen6
    simp only[if_true]at hR1
    have hc:=hcb [mk1 r.ms p r.ms.length 0,mk1 r.ms p r.ms.length 1,mk1 r.ms p r.ms.length 2,mk1 r.ms p r.ms.length 3,mk1 r.ms p r.ms.length 4,1]
    obtain⟨v0,b0,bn',n',jj,q1,q2,q3,q4,q5,q6⟩:=hm6
    unfold vE at hc q3 q5
    cases hg:getE A [mk1 r.ms p r.ms.length 0,mk1 r.ms p r.ms.length 1,mk1 r.ms p r.ms.length 2,mk1 r.ms p r.ms.length 3,mk1 r.ms p r.ms.length 4,1]with
    |none=>
     rw[hg]at hl6 hc q3 q5
     simp only[Option.map_none,Option.getD_none]at hl6 hc q3 q5
     (conv=>whnf);(repeat'((first|apply bT|apply bF|apply bN|((first|apply bD|apply bEq|apply bNe)<;>intro hh<;>try(exfalso;omega))|refine altI ?_ ?_|refine lkI hl6 ?_|refine lkI q5 ?_|refine meI q1 ?_|refine msI _ _ q2 rfl q3.symm ?_|refine wJ ?_|refine nJ ?_)<;>conv=>whnf))
     all_goals exact⟨(j+1,p+1,_,bn',n'),mI,⟨by dsimp only;omega,by dsimp only;omega,hR1,q4⟩,by dsimp only;omega⟩
    |some v=>
     rw[hg]at hl6 hc q3 q5
     simp only[Option.map_some,Option.getD_some]at hl6 hc q3 q5
     (conv=>whnf);(repeat'((first|apply bT|apply bF|apply bN|((first|apply bD|apply bEq|apply bNe)<;>intro hh<;>try(exfalso;omega))|refine altI ?_ ?_|refine lkI hl6 ?_|refine lkI q5 ?_|refine meI q1 ?_|refine msI _ _ q2 rfl q3.symm ?_|refine wJ ?_|refine nJ ?_)<;>conv=>whnf))
     all_goals exact⟨(j+1,p+1,_,bn',n'),mI,⟨by dsimp only;omega,by dsimp only;omega,hR1,q4⟩,by dsimp only;omega⟩
 ·have:j=wid b:=by omega
  subst this
  (conv=>whnf);(repeat'((first|apply bT|apply bF|apply bN|((first|apply bD|apply bEq|apply bNe)<;>intro hh<;>try(exfalso;omega))|refine wJ ?_|refine nJ ?_)<;>conv=>whnf))
  all_goals exact⟨A,rfl,rfl,hR⟩
theorem p94_2(r:Ru)(k n0:Nat)(g:FuncId)(u v:Int)(Q:Nat->Int->Bool)(hk:k<r.bs.length)(hbl:r.bs.length<=8)(hm:r.ms.length<=5)(hb:okBlw n0 (r.bs.getD k ⟨0,0,0⟩))
  (hq:∀x,0<=x->x<=99->FnV Tryz.prog (.fn g [.ipt [.int .i64 u], .ipt [.int .i64 v]]) [.int .i64 k, .int .i64 x] (· = .bool (Q k x))) :
  FnW Tryz.prog 114 [.agg r.cells, .int .i64 k, .fn g [.ipt [.int .i64 u], .ipt [.int .i64 v]]] [] (fun r' outs=>∃A,r' = .row 0/\outs=[.mp false (kE A) (uE A)]/\Rep A (fsB (r.bs.getD k ⟨0,0,0⟩)) (fun x=>T1 r.ms (Q k x) x)):=by
 have hB:(r.bs.map Blw.av).length=r.bs.length:=by simp
 have hM:(r.ms.map Met.av).length=r.ms.length:=by simp
 have g1:=gB r.bs k hk
 have hw:=wid_pos hb
 unfold okBlw at hb
 have hwd:wid (r.bs.getD k ⟨0,0,0⟩)=((r.bs.getD k ⟨0,0,0⟩).hi+1-(r.bs.getD k ⟨0,0,0⟩).lo).toNat:=rfl
 unfold fsB
 generalize r.bs.getD k ⟨0,0,0⟩=b at *
 refine fnW 4 [1] ok114 (by simp) rfl rfl ?_
 (conv=>whnf);(repeat'((first|apply bT|apply bF|apply bN|((first|apply bD|apply bEq|apply bNe)<;>intro hh<;>try(exfalso;omega))|refine MrgE.bn ?_|refine iaJ g1 ?_|refine wJ ?_|refine nJ ?_)<;>conv=>whnf))
 refine loop_i (α :=Nat × Int × Ent × List Nat × Nat) (fun x=>[(8, .int .i64 x.2.1),(7, .row 1),(3, .own 0 0),(2, .fn g [.ipt [.int .i64 u], .ipt [.int .i64 v]]),(1, .int .i64 k)]) (fun x=>[.box false r.cells, .mpb (kE x.2.2.1) (uE x.2.2.1) x.2.2.2.1 x.2.2.2.2, .fresh, .fresh])
  (fun x=>x.1<=wid b/\x.2.1=b.lo+(x.1:Int)/\Rep x.2.2.1 (fsK b.lo x.1) (fun y=>T1 r.ms (Q k y) y)/\BnOk (kE x.2.2.1) (uE x.2.2.1) x.2.2.2.1 x.2.2.2.2) (fun x=>wid b-x.1) (0,b.lo,[],[],0) mI ⟨by omega,by simp,Rep.nil _,⟨rfl,rfl,by simp,by simp⟩⟩ ?_
 rintro⟨j,p,A,bn,n⟩ ⟨hj,hp,hR,hBn⟩
 dsimp only at hj hp hR hBn⊢
 conv=>whnf
 (conv=>whnf);(repeat'((first|apply bT|apply bF|apply bN|((first|apply bD|apply bEq|apply bNe)<;>intro hh<;>try(exfalso;omega))|refine iaJ g1 ?_|refine wJ ?_|refine nJ ?_)<;>conv=>whnf))
 ·-- a force
  have hg1:(0:Int)<=p/\p<=99:=by omega
  refine loop_i (α :=Nat) (fun k2=>[(37, .int .i64 k2),(36, .int .i64 (r.ms.map Met.av).length),(35, .isl (r.ms.map Met.av)),(9, .own 2 0),(8, .int .i64 p),(7, .row 1),(3, .own 0 0),(2, .fn g [.ipt [.int .i64 u], .ipt [.int .i64 v]]),(1, .int .i64 k)]) (fun k2=>[.box false r.cells, .mpb (kE A) (uE A) bn n, .box false [.int .i64 (mk1 r.ms p k2 0), .int .i64 (mk1 r.ms p k2 1), .int .i64 (mk1 r.ms p k2 2), .int .i64 (mk1 r.ms p k2 3), .int .i64 (mk1 r.ms p k2 4), .int .i64 0], .fresh]) (fun k2=>k2<=r.ms.length) (fun k2=>r.ms.length-k2) 0 mI (by omega) ?_
  intro k2 hk2
  conv=>whnf
  refine bD (fun h4=>?_) (fun h4=>?_)
  ·have hlt:k2<r.ms.length:=by omega
   have g2:=gM r.ms k2 hlt
   by_cases h10:k2=0
   ·subst h10
    by_cases hq:(r.ms.getD 0 ⟨0,0⟩).L<=p
    ·have hv1:m1 r.ms p 0=1:=by unfold m1;rw[if_pos ⟨by omega,hq⟩]
     (conv=>whnf);(repeat'((first|apply bT|apply bF|apply bN|((first|apply bD|apply bEq|apply bNe)<;>intro hh<;>try(exfalso;omega))|refine iaJ g2 ?_|refine wJ ?_|refine nJ ?_)<;>conv=>whnf))
     refine⟨0+1,?_,by omega,by omega⟩
     have e0:mk1 r.ms p (0+1) 0=1:=by unfold mk1;rw[if_pos (by omega),hv1]
     have e2:mk1 r.ms p (0+1) 1=mk1 r.ms p 0 1:=by unfold mk1;first|rw[if_pos (by omega),if_pos (by omega)]|rw[if_neg (by omega),if_neg (by omega)]
     have e3:mk1 r.ms p (0+1) 2=mk1 r.ms p 0 2:=by unfold mk1;first|rw[if_pos (by omega),if_pos (by omega)]|rw[if_neg (by omega),if_neg (by omega)]
     have e4:mk1 r.ms p (0+1) 3=mk1 r.ms p 0 3:=by unfold mk1;first|rw[if_pos (by omega),if_pos (by omega)]|rw[if_neg (by omega),if_neg (by omega)]
     have e5:mk1 r.ms p (0+1) 4=mk1 r.ms p 0 4:=by unfold mk1;first|rw[if_pos (by omega),if_pos (by omega)]|rw[if_neg (by omega),if_neg (by omega)]
     rw[e0,e2,e3,e4,e5]
     exact mI
    ·have hv1:m1 r.ms p 0=0:=by unfold m1;rw[if_neg (fun hh=>hq hh.2)]
     (conv=>whnf);(repeat'((first|apply bT|apply bF|apply bN|((first|apply bD|apply bEq|apply bNe)<;>intro hh<;>try(exfalso;omega))|refine iaJ g2 ?_|refine wJ ?_|refine nJ ?_)<;>conv=>whnf))
     refine⟨0+1,?_,by omega,by omega⟩
     have e0:mk1 r.ms p (0+1) 0=mk1 r.ms p 0 0:=by unfold mk1;rw[if_pos (by omega),if_neg (by omega),hv1]
     have e2:mk1 r.ms p (0+1) 1=mk1 r.ms p 0 1:=by unfold mk1;first|rw[if_pos (by omega),if_pos (by omega)]|rw[if_neg (by omega),if_neg (by omega)]
     have e3:mk1 r.ms p (0+1) 2=mk1 r.ms p 0 2:=by unfold mk1;first|rw[if_pos (by omega),if_pos (by omega)]|rw[if_neg (by omega),if_neg (by omega)]
     have e4:mk1 r.ms p (0+1) 3=mk1 r.ms p 0 3:=by unfold mk1;first|rw[if_pos (by omega),if_pos (by omega)]|rw[if_neg (by omega),if_neg (by omega)]
     have e5:mk1 r.ms p (0+1) 4=mk1 r.ms p 0 4:=by unfold mk1;first|rw[if_pos (by omega),if_pos (by omega)]|rw[if_neg (by omega),if_neg (by omega)]
     rw[e0,e2,e3,e4,e5]
     exact mI
   by_cases h11:k2=1
   ·subst h11
    by_cases hq:(r.ms.getD 1 ⟨0,0⟩).L<=p
    ·have hv1:m1 r.ms p 1=1:=by unfold m1;rw[if_pos ⟨by omega,hq⟩]
     (conv=>whnf);(repeat'((first|apply bT|apply bF|apply bN|((first|apply bD|apply bEq|apply bNe)<;>intro hh<;>try(exfalso;omega))|refine iaJ g2 ?_|refine wJ ?_|refine nJ ?_)<;>conv=>whnf))
     refine⟨1+1,?_,by omega,by omega⟩
     have e0:mk1 r.ms p (1+1) 1=1:=by unfold mk1;rw[if_pos (by omega),hv1]
     have e1:mk1 r.ms p (1+1) 0=mk1 r.ms p 1 0:=by unfold mk1;first|rw[if_pos (by omega),if_pos (by omega)]|rw[if_neg (by omega),if_neg (by omega)]
     have e3:mk1 r.ms p (1+1) 2=mk1 r.ms p 1 2:=by unfold mk1;first|rw[if_pos (by omega),if_pos (by omega)]|rw[if_neg (by omega),if_neg (by omega)]
     have e4:mk1 r.ms p (1+1) 3=mk1 r.ms p 1 3:=by unfold mk1;first|rw[if_pos (by omega),if_pos (by omega)]|rw[if_neg (by omega),if_neg (by omega)]
     have e5:mk1 r.ms p (1+1) 4=mk1 r.ms p 1 4:=by unfold mk1;first|rw[if_pos (by omega),if_pos (by omega)]|rw[if_neg (by omega),if_neg (by omega)]
     rw[e0,e1,e3,e4,e5]
     exact mI
    ·have hv1:m1 r.ms p 1=0:=by unfold m1;rw[if_neg (fun hh=>hq hh.2)]
     (conv=>whnf);(repeat'((first|apply bT|apply bF|apply bN|((first|apply bD|apply bEq|apply bNe)<;>intro hh<;>try(exfalso;omega))|refine iaJ g2 ?_|refine wJ ?_|refine nJ ?_)<;>conv=>whnf))
     refine⟨1+1,?_,by omega,by omega⟩
     have e0:mk1 r.ms p (1+1) 1=mk1 r.ms p 1 1:=by unfold mk1;rw[if_pos (by omega),if_neg (by omega),hv1]
     have e1:mk1 r.ms p (1+1) 0=mk1 r.ms p 1 0:=by unfold mk1;first|rw[if_pos (by omega),if_pos (by omega)]|rw[if_neg (by omega),if_neg (by omega)]
     have e3:mk1 r.ms p (1+1) 2=mk1 r.ms p 1 2:=by unfold mk1;first|rw[if_pos (by omega),if_pos (by omega)]|rw[if_neg (by omega),if_neg (by omega)]
     have e4:mk1 r.ms p (1+1) 3=mk1 r.ms p 1 3:=by unfold mk1;first|rw[if_pos (by omega),if_pos (by omega)]|rw[if_neg (by omega),if_neg (by omega)]
     have e5:mk1 r.ms p (1+1) 4=mk1 r.ms p 1 4:=by unfold mk1;first|rw[if_pos (by omega),if_pos (by omega)]|rw[if_neg (by omega),if_neg (by omega)]
     rw[e0,e1,e3,e4,e5]
     exact mI
   by_cases h12:k2=2
   ·subst h12
    by_cases hq:(r.ms.getD 2 ⟨0,0⟩).L<=p
    ·have hv1:m1 r.ms p 2=1:=by unfold m1;rw[if_pos ⟨by omega,hq⟩]
     (conv=>whnf);(repeat'((first|apply bT|apply bF|apply bN|((first|apply bD|apply bEq|apply bNe)<;>intro hh<;>try(exfalso;omega))|refine iaJ g2 ?_|refine wJ ?_|refine nJ ?_)<;>conv=>whnf))
     refine⟨2+1,?_,by omega,by omega⟩
     have e0:mk1 r.ms p (2+1) 2=1:=by unfold mk1;rw[if_pos (by omega),hv1]
     have e1:mk1 r.ms p (2+1) 0=mk1 r.ms p 2 0:=by unfold mk1;first|rw[if_pos (by omega),if_pos (by omega)]|rw[if_neg (by omega),if_neg (by omega)]
     have e2:mk1 r.ms p (2+1) 1=mk1 r.ms p 2 1:=by unfold mk1;first|rw[if_pos (by omega),if_pos (by omega)]|rw[if_neg (by omega),if_neg (by omega)]
     have e4:mk1 r.ms p (2+1) 3=mk1 r.ms p 2 3:=by unfold mk1;first|rw[if_pos (by omega),if_pos (by omega)]|rw[if_neg (by omega),if_neg (by omega)]
     have e5:mk1 r.ms p (2+1) 4=mk1 r.ms p 2 4:=by unfold mk1;first|rw[if_pos (by omega),if_pos (by omega)]|rw[if_neg (by omega),if_neg (by omega)]
     rw[e0,e1,e2,e4,e5]
     exact mI
    ·have hv1:m1 r.ms p 2=0:=by unfold m1;rw[if_neg (fun hh=>hq hh.2)]
     (conv=>whnf);(repeat'((first|apply bT|apply bF|apply bN|((first|apply bD|apply bEq|apply bNe)<;>intro hh<;>try(exfalso;omega))|refine iaJ g2 ?_|refine wJ ?_|refine nJ ?_)<;>conv=>whnf))
     refine⟨2+1,?_,by omega,by omega⟩
     have e0:mk1 r.ms p (2+1) 2=mk1 r.ms p 2 2:=by unfold mk1;rw[if_pos (by omega),if_neg (by omega),hv1]
     have e1:mk1 r.ms p (2+1) 0=mk1 r.ms p 2 0:=by unfold mk1;first|rw[if_pos (by omega),if_pos (by omega)]|rw[if_neg (by omega),if_neg (by omega)]
     have e2:mk1 r.ms p (2+1) 1=mk1 r.ms p 2 1:=by unfold mk1;first|rw[if_pos (by omega),if_pos (by omega)]|rw[if_neg (by omega),if_neg (by omega)]
     have e4:mk1 r.ms p (2+1) 3=mk1 r.ms p 2 3:=by unfold mk1;first|rw[if_pos (by omega),if_pos (by omega)]|rw[if_neg (by omega),if_neg (by omega)]
     have e5:mk1 r.ms p (2+1) 4=mk1 r.ms p 2 4:=by unfold mk1;first|rw[if_pos (by omega),if_pos (by omega)]|rw[if_neg (by omega),if_neg (by omega)]
     rw[e0,e1,e2,e4,e5]
     exact mI
   by_cases h13:k2=3
   ·subst h13
    by_cases hq:(r.ms.getD 3 ⟨0,0⟩).L<=p
    ·have hv1:m1 r.ms p 3=1:=by unfold m1;rw[if_pos ⟨by omega,hq⟩]
     (conv=>whnf);(repeat'((first|apply bT|apply bF|apply bN|((first|apply bD|apply bEq|apply bNe)<;>intro hh<;>try(exfalso;omega))|refine iaJ g2 ?_|refine wJ ?_|refine nJ ?_)<;>conv=>whnf))
     refine⟨3+1,?_,by omega,by omega⟩
     have e0:mk1 r.ms p (3+1) 3=1:=by unfold mk1;rw[if_pos (by omega),hv1]
     have e1:mk1 r.ms p (3+1) 0=mk1 r.ms p 3 0:=by unfold mk1;first|rw[if_pos (by omega),if_pos (by omega)]|rw[if_neg (by omega),if_neg (by omega)]
     have e2:mk1 r.ms p (3+1) 1=mk1 r.ms p 3 1:=by unfold mk1;first|rw[if_pos (by omega),if_pos (by omega)]|rw[if_neg (by omega),if_neg (by omega)]
     have e3:mk1 r.ms p (3+1) 2=mk1 r.ms p 3 2:=by unfold mk1;first|rw[if_pos (by omega),if_pos (by omega)]|rw[if_neg (by omega),if_neg (by omega)]
     have e5:mk1 r.ms p (3+1) 4=mk1 r.ms p 3 4:=by unfold mk1;first|rw[if_pos (by omega),if_pos (by omega)]|rw[if_neg (by omega),if_neg (by omega)]
     rw[e0,e1,e2,e3,e5]
     exact mI
    ·have hv1:m1 r.ms p 3=0:=by unfold m1;rw[if_neg (fun hh=>hq hh.2)]
     (conv=>whnf);(repeat'((first|apply bT|apply bF|apply bN|((first|apply bD|apply bEq|apply bNe)<;>intro hh<;>try(exfalso;omega))|refine iaJ g2 ?_|refine wJ ?_|refine nJ ?_)<;>conv=>whnf))
     refine⟨3+1,?_,by omega,by omega⟩
     have e0:mk1 r.ms p (3+1) 3=mk1 r.ms p 3 3:=by unfold mk1;rw[if_pos (by omega),if_neg (by omega),hv1]
     have e1:mk1 r.ms p (3+1) 0=mk1 r.ms p 3 0:=by unfold mk1;first|rw[if_pos (by omega),if_pos (by omega)]|rw[if_neg (by omega),if_neg (by omega)]
     have e2:mk1 r.ms p (3+1) 1=mk1 r.ms p 3 1:=by unfold mk1;first|rw[if_pos (by omega),if_pos (by omega)]|rw[if_neg (by omega),if_neg (by omega)]
     have e3:mk1 r.ms p (3+1) 2=mk1 r.ms p 3 2:=by unfold mk1;first|rw[if_pos (by omega),if_pos (by omega)]|rw[if_neg (by omega),if_neg (by omega)]
     have e5:mk1 r.ms p (3+1) 4=mk1 r.ms p 3 4:=by unfold mk1;first|rw[if_pos (by omega),if_pos (by omega)]|rw[if_neg (by omega),if_neg (by omega)]
     rw[e0,e1,e2,e3,e5]
     exact mI
   have h14:k2=4:=by omega
   ·subst h14
    by_cases hq:(r.ms.getD 4 ⟨0,0⟩).L<=p
    ·have hv1:m1 r.ms p 4=1:=by unfold m1;rw[if_pos ⟨by omega,hq⟩]
     (conv=>whnf);(repeat'((first|apply bT|apply bF|apply bN|((first|apply bD|apply bEq|apply bNe)<;>intro hh<;>try(exfalso;omega))|refine iaJ g2 ?_|refine wJ ?_|refine nJ ?_)<;>conv=>whnf))
     refine⟨4+1,?_,by omega,by omega⟩
     have e0:mk1 r.ms p (4+1) 4=1:=by unfold mk1;rw[if_pos (by omega),hv1]
     have e1:mk1 r.ms p (4+1) 0=mk1 r.ms p 4 0:=by unfold mk1;first|rw[if_pos (by omega),if_pos (by omega)]|rw[if_neg (by omega),if_neg (by omega)]
     have e2:mk1 r.ms p (4+1) 1=mk1 r.ms p 4 1:=by unfold mk1;first|rw[if_pos (by omega),if_pos (by omega)]|rw[if_neg (by omega),if_neg (by omega)]
     have e3:mk1 r.ms p (4+1) 2=mk1 r.ms p 4 2:=by unfold mk1;first|rw[if_pos (by omega),if_pos (by omega)]|rw[if_neg (by omega),if_neg (by omega)]
     have e4:mk1 r.ms p (4+1) 3=mk1 r.ms p 4 3:=by unfold mk1;first|rw[if_pos (by omega),if_pos (by omega)]|rw[if_neg (by omega),if_neg (by omega)]
     rw[e0,e1,e2,e3,e4]
     exact mI
    ·have hv1:m1 r.ms p 4=0:=by unfold m1;rw[if_neg (fun hh=>hq hh.2)]
     (conv=>whnf);(repeat'((first|apply bT|apply bF|apply bN|((first|apply bD|apply bEq|apply bNe)<;>intro hh<;>try(exfalso;omega))|refine iaJ g2 ?_|refine wJ ?_|refine nJ ?_)<;>conv=>whnf))
     refine⟨4+1,?_,by omega,by omega⟩
     have e0:mk1 r.ms p (4+1) 4=mk1 r.ms p 4 4:=by unfold mk1;rw[if_pos (by omega),if_neg (by omega),hv1]
     have e1:mk1 r.ms p (4+1) 0=mk1 r.ms p 4 0:=by unfold mk1;first|rw[if_pos (by omega),if_pos (by omega)]|rw[if_neg (by omega),if_neg (by omega)]
     have e2:mk1 r.ms p (4+1) 1=mk1 r.ms p 4 1:=by unfold mk1;first|rw[if_pos (by omega),if_pos (by omega)]|rw[if_neg (by omega),if_neg (by omega)]
     have e3:mk1 r.ms p (4+1) 2=mk1 r.ms p 4 2:=by unfold mk1;first|rw[if_pos (by omega),if_pos (by omega)]|rw[if_neg (by omega),if_neg (by omega)]
     have e4:mk1 r.ms p (4+1) 3=mk1 r.ms p 4 3:=by unfold mk1;first|rw[if_pos (by omega),if_pos (by omega)]|rw[if_neg (by omega),if_neg (by omega)]
     rw[e0,e1,e2,e3,e4]
     exact mI
  ·have:k2=r.ms.length:=by omega
   subst this
   have hv:=hq p hg1.1 hg1.2
   have hpA:p=b.lo+(j:Int):=hp
   have hlen6:=hR.len
   have hRs:∀q,Q k p=q->Rep (addE A [mk1 r.ms p r.ms.length 0,mk1 r.ms p r.ms.length 1,mk1 r.ms p r.ms.length 2,mk1 r.ms p r.ms.length 3,mk1 r.ms p r.ms.length 4,if q=true then 1 else 0] 1) (fsK b.lo (j+1)) (fun y=>T1 r.ms (Q k y) y):=fun q hqq=>by
    have:=hR.snoc (x:=p) (T1_len r.ms (Q k p) p)
    rw[fsK_suc,<- hp]
    simpa only[T1,mk1_len,hqq]using this
   have hcb:∀t,0<=vE A t/\vE A t<=10:=fun t=>by
    have:=cnT_le (fsK b.lo j) (fun y=>T1 r.ms (Q k y) y) t
    rw[<- hR.cnt,show(fsK b.lo j).length=j by simp[fsK]]at this
    omega
   (conv=>whnf);(repeat'((first|apply bT|apply bF|apply bN|((first|apply bD|apply bEq|apply bNe)<;>intro hh<;>try(exfalso;omega))|refine wJ ?_|refine nJ ?_)<;>conv=>whnf))
   refine hv.vcallq rfl rfl rfl rfl (fun r' (hr:r'=_)=>?_);subst hr
   cases hQ:Q k p
   ·have hR1:=hRs false hQ
    have hm6:=mpe6 (E:=A) (t:=[mk1 r.ms p r.ms.length 0,mk1 r.ms p r.ms.length 1,mk1 r.ms p r.ms.length 2,mk1 r.ms p r.ms.length 3,mk1 r.ms p r.ms.length 4,0]) rfl hlen6 hBn 1
    have hl6:=look6 (E:=A) (t:=[mk1 r.ms p r.ms.length 0,mk1 r.ms p r.ms.length 1,mk1 r.ms p r.ms.length 2,mk1 r.ms p r.ms.length 3,mk1 r.ms p r.ms.length 4,0]) rfl hlen6
    simp only[Bool.false_eq_true,if_false]at hR1
    have hc:=hcb [mk1 r.ms p r.ms.length 0,mk1 r.ms p r.ms.length 1,mk1 r.ms p r.ms.length 2,mk1 r.ms p r.ms.length 3,mk1 r.ms p r.ms.length 4,0]
    obtain⟨v0,b0,bn',n',jj,q1,q2,q3,q4,q5,q6⟩:=hm6
    unfold vE at hc q3 q5
    cases hg:getE A [mk1 r.ms p r.ms.length 0,mk1 r.ms p r.ms.length 1,mk1 r.ms p r.ms.length 2,mk1 r.ms p r.ms.length 3,mk1 r.ms p r.ms.length 4,0]with
    |none=>
     rw[hg]at hl6 hc q3 q5
     simp only[Option.map_none,Option.getD_none]at hl6 hc q3 q5
     (conv=>whnf);(repeat'((first|apply bT|apply bF|apply bN|((first|apply bD|apply bEq|apply bNe)<;>intro hh<;>try(exfalso;omega))|refine altI ?_ ?_|refine lkI hl6 ?_|refine lkI q5 ?_|refine meI q1 ?_|refine msI _ _ q2 rfl q3.symm ?_|refine wJ ?_|refine nJ ?_)<;>conv=>whnf))
     all_goals exact⟨(j+1,p+1,_,bn',n'),mI,⟨by dsimp only;omega,by dsimp only;omega,hR1,q4⟩,by dsimp only;omega⟩
    |some v=>
     rw[hg]at hl6 hc q3 q5
     simp only[Option.map_some,Option.getD_some]at hl6 hc q3 q5
     (conv=>whnf);(repeat'((first|apply bT|apply bF|apply bN|((first|apply bD|apply bEq|apply bNe)<;>intro hh<;>try(exfalso;omega))|refine altI ?_ ?_|refine lkI hl6 ?_|refine lkI q5 ?_|refine meI q1 ?_|refine msI _ _ q2 rfl q3.symm ?_|refine wJ ?_|refine nJ ?_)<;>conv=>whnf))
     all_goals exact⟨(j+1,p+1,_,bn',n'),mI,⟨by dsimp only;omega,by dsimp only;omega,hR1,q4⟩,by dsimp only;omega⟩
   ·have hR1:=hRs true hQ
    have hm6:=mpe6 (E:=A) (t:=[mk1 r.ms p r.ms.length 0,mk1 r.ms p r.ms.length 1,mk1 r.ms p r.ms.length 2,mk1 r.ms p r.ms.length 3,mk1 r.ms p r.ms.length 4,1]) rfl hlen6 hBn 1
    have hl6:=look6 (E:=A) (t:=[mk1 r.ms p r.ms.length 0,mk1 r.ms p r.ms.length 1,mk1 r.ms p r.ms.length 2,mk1 r.ms p r.ms.length 3,mk1 r.ms p r.ms.length 4,1]) rfl hlen6
    simp only[if_true]at hR1
    have hc:=hcb [mk1 r.ms p r.ms.length 0,mk1 r.ms p r.ms.length 1,mk1 r.ms p r.ms.length 2,mk1 r.ms p r.ms.length 3,mk1 r.ms p r.ms.length 4,1]
    obtain⟨v0,b0,bn',n',jj,q1,q2,q3,q4,q5,q6⟩:=hm6
    unfold vE at hc q3 q5
    cases hg:getE A [mk1 r.ms p r.ms.length 0,mk1 r.ms p r.ms.length 1,mk1 r.ms p r.ms.length 2,mk1 r.ms p r.ms.length 3,mk1 r.ms p r.ms.length 4,1]with
    |none=>
     rw[hg]at hl6 hc q3 q5
     simp only[Option.map_none,Option.getD_none]at hl6 hc q3 q5
     (conv=>whnf);(repeat'((first|apply bT|apply bF|apply bN|((first|apply bD|apply bEq|apply bNe)<;>intro hh<;>try(exfalso;omega))|refine altI ?_ ?_|refine lkI hl6 ?_|refine lkI q5 ?_|refine meI q1 ?_|refine msI _ _ q2 rfl q3.symm ?_|refine wJ ?_|refine nJ ?_)<;>conv=>whnf))
     all_goals exact⟨(j+1,p+1,_,bn',n'),mI,⟨by dsimp only;omega,by dsimp only;omega,hR1,q4⟩,by dsimp only;omega⟩
    |some v=>
     rw[hg]at hl6 hc q3 q5
     simp only[Option.map_some,Option.getD_some]at hl6 hc q3 q5
     (conv=>whnf);(repeat'((first|apply bT|apply bF|apply bN|((first|apply bD|apply bEq|apply bNe)<;>intro hh<;>try(exfalso;omega))|refine altI ?_ ?_|refine lkI hl6 ?_|refine lkI q5 ?_|refine meI q1 ?_|refine msI _ _ q2 rfl q3.symm ?_|refine wJ ?_|refine nJ ?_)<;>conv=>whnf))
     all_goals exact⟨(j+1,p+1,_,bn',n'),mI,⟨by dsimp only;omega,by dsimp only;omega,hR1,q4⟩,by dsimp only;omega⟩
 ·have:j=wid b:=by omega
  subst this
  (conv=>whnf);(repeat'((first|apply bT|apply bF|apply bN|((first|apply bD|apply bEq|apply bNe)<;>intro hh<;>try(exfalso;omega))|refine wJ ?_|refine nJ ?_)<;>conv=>whnf))
  all_goals exact⟨A,rfl,rfl,hR⟩
theorem kE_get{E:Ent}{j:Nat}{c0 c1 c2 c3 c4 c5 v:Int}(hj:j<E.length)(h:E.getD j ([],0)=([c0,c1,c2,c3,c4,c5],v)):(kE E)[j]?=some (.agg [.int .i64 c0, .int .i64 c1, .int .i64 c2, .int .i64 c3, .int .i64 c4, .int .i64 c5])/\(uE E)[j]?=some (.int .i64 v):=by
 rw[List.getD_eq_getElem?_getD,List.getElem?_eq_getElem hj]at h
 simp only[Option.getD_some]at h
 simp[kE,uE,hj,h,tkA]
theorem ent_get{E:Ent}(hl:∀e∈E,e.1.length=6){j:Nat}(hj:j<E.length):∃c0 c1 c2 c3 c4 c5 v,E.getD j ([],0)=([c0,c1,c2,c3,c4,c5],v):=by
 rw[List.getD_eq_getElem?_getD,List.getElem?_eq_getElem hj]
 obtain⟨a0,a1,a2,a3,a4,a5,h⟩:=six (hl E[j] (List.getElem_mem hj))
 exact⟨a0,a1,a2,a3,a4,a5,E[j].2,by rw[<- h];rfl⟩
theorem nxD6{E:Ent}{bn:List Nat}{n:Nat}{mem:List Nat}{K:Nat->AV->AV->Prop}{N:Prop}(hb:BnOk (kE E) (uE E) bn n)(hl:∀e∈E,e.1.length=6)
  (h:∀j c0 c1 c2 c3 c4 c5 v,j<E.length->E.getD j ([],0)=([c0,c1,c2,c3,c4,c5],v)->bn.getD j 0∉mem->K (bn.getD j 0) (.agg [.int .i64 c0, .int .i64 c1, .int .i64 c2, .int .i64 c3, .int .i64 c4, .int .i64 c5]) (.int .i64 v))
  (h2:(∀j,j<E.length->bn.getD j 0∈mem)->N):NxD (kE E) (uE E) bn n n mem K N:=by
 have hlen:E.length=bn.length:=by have:=hb.len;simpa[kE]using this
 refine nxD rfl (fun j b kv uv k1 k2 k3 k4=>?_) (fun k=>h2 fun j hj=>?_)
 ·have hj:j<E.length:=by have:=(List.getElem?_eq_some_iff.1 k1).1;simpa[kE]using this
  obtain⟨c0,c1,c2,c3,c4,c5,v,he⟩:=ent_get hl hj
  obtain⟨e1,e2⟩:=kE_get hj he
  rw[e1]at k1;rw[e2]at k2;cases k1;cases k2
  have hb':bn.getD j 0=b:=by rw[List.getD_eq_getElem?_getD,k3];rfl
  rw[<- hb']at k4⊢
  exact h j c0 c1 c2 c3 c4 c5 v hj he k4
 ·rw[List.getD_eq_getElem?_getD,List.getElem?_eq_getElem (by omega)]
  exact k _ (List.getElem_mem _)
theorem enD6{E:Ent}{bn:List Nat}{n:Nat}{mem:List Nat}{K:AV->AV->Prop}(hb:BnOk (kE E) (uE E) bn n){j:Nat}{c0 c1 c2 c3 c4 c5 v:Int}(hj:j<E.length)(h:E.getD j ([],0)=([c0,c1,c2,c3,c4,c5],v))
  (hk:K (.agg [.int .i64 c0, .int .i64 c1, .int .i64 c2, .int .i64 c3, .int .i64 c4, .int .i64 c5]) (.int .i64 v)):EntD (kE E) (uE E) bn n n (mem++[bn.getD j 0]) K:=by
 have hlen:E.length=bn.length:=by have:=hb.len;simpa[kE]using this
 obtain⟨e1,e2⟩:=kE_get hj h
 exact enI rfl j (bn.getD j 0) _ _ (by simp) (by rw[List.getD_eq_getElem?_getD,List.getElem?_eq_getElem (by omega)];rfl) e1 e2 hk
def mm(bn:List Nat)(s:List Nat):List Nat:=s.map fun j=>bn.getD j 0
theorem mm_snoc(bn s:List Nat)(j:Nat):mm bn (s++[j])=mm bn s++[bn.getD j 0]:=by simp[mm]
theorem mm_not{bn s:List Nat}{j:Nat}(h:bn.getD j 0∉mm bn s):j∉s:=fun hj=>h (List.mem_map.2 ⟨j,hj,rfl⟩)
theorem nd_snoc{s:List Nat}{j:Nat}(h:s.Nodup)(hj:j∉s):(s++[j]).Nodup:=by
 rw[List.nodup_append]
 exact⟨h,by simp,fun a ha b hb e=>by simp only[List.mem_singleton]at hb;subst hb;subst e;exact hj ha⟩
theorem lt_snoc{s:List Nat}{j m:Nat}(h:∀i∈s,i<m)(hj:j<m):∀i∈s++[j],i<m:=fun i hi=>by
 rcases List.mem_append.1 hi with hi|hi
 ·exact h i hi
 ·simp only[List.mem_singleton]at hi;omega
theorem mm_all{E:Ent}{bn:List Nat}{n:Nat}(hb:BnOk (kE E) (uE E) bn n){s:List Nat}(hs:∀j∈s,j<E.length)(h:∀j,j<E.length->bn.getD j 0∈mm bn s):∀j,j<E.length->j∈s:=fun j hj=>by
 have hlen:E.length=bn.length:=by have:=hb.len;simpa[kE]using this
 obtain⟨i,hi,e⟩:=List.mem_map.1 (h j hj)
 have hil:=hs i hi
 rw[List.getD_eq_getElem?_getD,List.getD_eq_getElem?_getD,List.getElem?_eq_getElem (by omega),List.getElem?_eq_getElem (by omega)]at e
 simp only[Option.getD_some]at e
 have hp:=List.pairwise_iff_getElem.1 hb.asc
 rcases Nat.lt_trichotomy i j with q|q|q
 ·have:=hp i j (by omega) (by omega) q;omega
 ·subst q;exact hi
 ·have:=hp j i (by omega) (by omega) q;omega
theorem met_lt{s:List Nat}{m j:Nat}(hn:s.Nodup)(hs:∀i∈s,i<m)(hj:j∉s)(hjm:j<m):s.length<m:=by
 have:=met_len (nd_snoc hn hj) (lt_snoc hs hjm)
 simp at this;omega
theorem Rep.le{α : Type}{E:Ent}{W:List α}{T : α -> Tal}(h:Rep E W T):E.length<=W.length:=by
 have:=nd_sub_lenC (a:=E.map (·.1)) (b:=W.map T) h.nd (fun t ht=>by
  obtain⟨f,hf,e⟩:=h.mem.1 ht
  exact List.mem_map.2 ⟨f,hf,e⟩)
 simpa using this
theorem Rep.val{α : Type}{E:Ent}{W:List α}{T : α -> Tal}(h:Rep E W T){j:Nat}{c:Tal}{v:Int}(hj:j<E.length)(he:E.getD j ([],0)=(c,v)):0<v/\v<=W.length/\∃f∈W,T f=c:=by
 rw[List.getD_eq_getElem?_getD,List.getElem?_eq_getElem hj]at he
 simp only[Option.getD_some]at he
 have hm:=List.getElem_mem hj
 have h1:=h.pos _ hm
 have h2:=vE_of h.nd hm
 have h3:=cnT_le W T E[j].1
 rw[h.cnt,he]at h2
 rw[he]at h1 h3
 dsimp only at h1 h2 h3
 refine⟨h1,by omega,?_⟩
 exact cnt_pos.1 (by omega)
theorem prd_tk{n:Nat}{bs:List Blw}(h:∀b∈bs,okBlw n b):∀k,prd (bs.take k)<=prd bs:=by
 induction bs with
 |nil=>intro k;simp[prd]
 |cons b bs ih=>
  intro k
  cases k with
  |zero=>rw[List.take_zero];exact prd_pos h
  |succ k=>
   rw[List.take_succ_cons,prd_cons,prd_cons]
   exact Nat.mul_le_mul_left _ (ih (fun c hc=>h c (by simp[hc])) k)
structure Fil(L:Ent)(bn:List Nat)(n:Nat):Prop where
 nd:(L.map (·.1)).Nodup
 len:∀e∈L,e.1.length=6
 pos:∀e∈L,0<e.2
 bn:BnOk (kE L) (uE L) bn n
theorem Fil.nil:Fil [] [] 0:=⟨by simp,by simp,by simp,⟨rfl,rfl,by simp,by simp⟩⟩
theorem Fil.add{L:Ent}{bn bn':List Nat}{n n':Nat}(h:Fil L bn n){t:Tal}(ht:t.length=6){v:Int}(hv:0<v)(hb:BnOk (kE (addE L t v)) (uE (addE L t v)) bn' n'):Fil (addE L t v) bn' n':=
 ⟨addE_nd h.nd,addE_len h.len ht,addE_pos h.pos hv,hb⟩
theorem Rep.of{α : Type}{L:Ent}{bn:List Nat}{n:Nat}(h:Fil L bn n){W:List α}{T : α -> Tal}(hc:∀t,vE L t=cnT W T t):Rep L W T:=⟨h.nd,h.len,hc,h.pos⟩
theorem gv_eq{E A:Ent}{t c d:Tal}{j i:Nat}{v w:Int}(hE:E.getD j ([],0)=(c,v))(hA:A.getD i ([],0)=(d,w)):gv E A t j i=if t=addL c d then v*w else 0:=by
 unfold gv;rw[hE,hA]
end Go.Proofs
