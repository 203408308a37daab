/- What each function of this program answers, proved by walking its body: the contracts that the law rests on, part 3. -/
import Derived.Test.YtnppglfoolchdaaGreatFns2
set_option linter.unusedSimpArgs false
set_option linter.unusedVariables false
set_option linter.unusedSectionVars false
namespace Go.Proofs
open Go.Eng
attribute [local irreducible] Go.Eng.brB Go.Eng.need Go.Eng.wrE Go.Eng.iaE Go.Eng.slE Go.Eng.apE Go.Eng.CallZ Go.Eng.CallE Go.Eng.VCallE Go.Eng.YldE Go.Eng.GoC Go.Eng.MeetsE Go.Eng.FnA Go.Eng.FnV
set_option maxRecDepth 100000
theorem zero_rep(ms:List Met)(Q:Nat->Int->Bool):Rep [([0,0,0,0,0,0],1)] (css []) (TL ms Q):=by
 have e:TL ms Q []=[0,0,0,0,0,0]:=by
  have h:∀i,tl1 ms [] i=0:=fun i=>by unfold tl1 abv;split<;>rfl
  simp[TL,h,hQ]
 have:=(Rep.nil (TL ms Q)).snoc (x:=([]:List Int)) (TL_len _ _ _)
 rw[e]at this
 exact this
theorem p67_0(r:Ru)(n0:Nat)(g:FuncId)(Q:Nat->Int->Bool)(hbs:okBs n0 r.bs)(hm:r.ms.length<=5)(hfew:prd r.bs<=600)
  (hq:∀k,k<r.bs.length->∀x,0<=x->x<=99->FnV Tryz.prog (.fn g []) [.int .i64 k, .int .i64 x] (· = .bool (Q k x))) :
  FnW Tryz.prog 95 [.agg r.cells, .fn g []] [] (fun r' outs=>∃E,r' = .row 0/\outs=[.mp false (kE E) (uE E)]/\Rep E (css r.bs) (TL r.ms Q)):=by
 have hB:(r.bs.map Blw.av).length=r.bs.length:=by simp
 have hbl:=hbs.1
 have hz:=zero_rep r.ms Q
 refine fnW 10 [9] ok95 (by simp) rfl rfl ?_
 (conv=>whnf);(repeat'((first|apply bT|apply bF|apply bN|((first|apply bD|apply bEq|apply bNe)<;>intro hh<;>try(exfalso;omega))|refine MrgE.bn ?_|refine mdI (ks':=kE [([0,0,0,0,0,0],1)]) (us':=uE [([0,0,0,0,0,0],1)]) (bn':=[0]) (n':=1) rfl ?_|refine wJ ?_|refine nJ ?_)<;>conv=>whnf))
 refine loop_i (α :=Nat × Ent × List Nat × Nat) (fun x=>[(20, .int .i64 x.1),(19, .int .i64 (r.bs.map Blw.av).length),(18, .isl (r.bs.map Blw.av)),(5, .row 9),(2, .own 0 0),(1, .fn g [])]) (fun x=>[.box false r.cells, .fresh, .fresh, .fresh, .fresh, .fresh, .fresh, .fresh, .fresh, .mpb (kE x.2.1) (uE x.2.1) x.2.2.1 x.2.2.2])
  (fun x=>x.1<=r.bs.length/\Rep x.2.1 (css (r.bs.take x.1)) (TL r.ms Q)/\Fil x.2.1 x.2.2.1 x.2.2.2) (fun x=>r.bs.length-x.1) (0,[([0,0,0,0,0,0],1)],[0],1) (mA [(9,some 1)]) ⟨by omega,hz,hz.nd,hz.len,hz.pos,⟨rfl,rfl,by simp,by simp⟩⟩ ?_
 rintro⟨k,E,bn,n⟩ ⟨hk,hR,hF⟩
 dsimp only at hk hR hF⊢
 conv=>whnf
 refine bD (fun h3=>?_) (fun h3=>?_)
 ·have hlt:k<r.bs.length:=by omega
  have hmem:r.bs.getD k ⟨0,0,0⟩∈r.bs:=by simp[List.getD_eq_getElem?_getD,hlt]
  have hb:=hbs.2 _ hmem
  have hw:=wid_pos hb
  have e1:=p94_0 r k n0 g Q hlt hbl hm hb (hq k hlt)
  have hEl:E.length<=600:=by
   have h1:=hR.le
   rw[css_len]at h1
   have:=prd_tk hbs.2 k;omega
  have hWl:(css (r.bs.take k)).length<=600:=by
   rw[css_len];have:=prd_tk hbs.2 k;omega
  have hsuc:=css_suc r.bs hlt
  have hXl:(fsB (r.bs.getD k ⟨0,0,0⟩)).length<=10:=by unfold fsB fsK;rw[List.length_map,List.length_range];exact hw.2
  have hmul:∀A,Rep A (fsB (r.bs.getD k ⟨0,0,0⟩)) (fun x=>T1 r.ms (Q k x) x)->∀t,((List.range E.length).map (gvs E A t)).sum=cnT (css (r.bs.take (k+1))) (TL r.ms Q) t:=fun A hA t=>by
   rw[hsuc]
   exact hR.mul hA (fun f x=>f++[x]) (TL r.ms Q) (fun f hf x _=>by
    have hl:=css_tlen (by omega) hf
    rw[TL_snoc,hl]) t
  clear hsuc
  (conv=>whnf);(repeat'((first|apply bT|apply bF|apply bN|((first|apply bD|apply bEq|apply bNe)<;>intro hh<;>try(exfalso;omega))|refine MrgE.bn ?_|refine wJ ?_|refine nJ ?_)<;>conv=>whnf))
  refine e1.callwq [] rfl rfl trivial rfl rfl rfl rfl (fun r' outs hr=>?_)
  obtain⟨A,hr1,hr2,hA⟩:=hr
  subst hr1;subst hr2
  refine⟨⟨rfl,rfl,rfl,rfl⟩,?_⟩
  have hAl:A.length<=10:=Nat.le_trans (Rep.le hA) hXl
  (conv=>whnf);(repeat'((first|apply bT|apply bF|apply bN|((first|apply bD|apply bEq|apply bNe)<;>intro hh<;>try(exfalso;omega))|refine MrgE.bn ?_|refine wJ ?_|refine nJ ?_)<;>conv=>whnf))
  refine loop_i (α :=List Nat × Ent × List Nat × Nat) (fun x=>[(29, .row 4),(20, .int .i64 k),(19, .int .i64 (r.bs.map Blw.av).length),(18, .isl (r.bs.map Blw.av)),(8, .row 3),(7, .row 2),(5, .row 9),(2, .own 0 0),(1, .fn g [])]) (fun x=>[.box false r.cells, .fresh, .mpb (kE x.2.1) (uE x.2.1) x.2.2.1 x.2.2.2, .mp false (kE A) (uE A), .itd [.row 9] n (mm bn x.1), .fresh, .fresh, .fresh, .fresh, .mpb (kE E) (uE E) bn n])
   (fun x=>x.1.Nodup/\(∀j∈x.1,j<E.length)/\Fil x.2.1 x.2.2.1 x.2.2.2/\(∀t,vE x.2.1 t=(x.1.map (gvs E A t)).sum)/\∀t,0<=vE x.2.1 t/\vE x.2.1 t<=60000*x.1.length) (fun x=>E.length-x.1.length) ([],[],[],0) mI ⟨by simp,by simp,Fil.nil,fun t=>rfl,fun t=>⟨Int.le_refl _,Int.le_refl _⟩⟩ ?_
  rintro⟨s,L,bL,nL⟩ ⟨hs1,hs2,hL,hv,hvb⟩
  dsimp only at hs1 hs2 hL hv hvb⊢
  conv=>whnf
  refine nxD6 hF.bn hF.len (fun j c0 c1 c2 c3 c4 c5 v hj hEj hns=>?_) (fun hall=>?_)
  ·have hjs:=mm_not hns
   have hsl:=met_lt hs1 hs2 hjs hj
   obtain⟨hv1,hv2,f0,hf0,hf1⟩:=hR.val hj hEj
   have hcb:∀y∈[c0,c1,c2,c3,c4,c5],0<=y/\y<=1000:=by
    rw[<- hf1];exact TL_bd _ _ _ (by have:=css_tlen (by omega) hf0;omega)
   (conv=>whnf);(repeat'((first|apply bT|apply bF|apply bN|((first|apply bD|apply bEq|apply bNe)<;>intro hh<;>try(exfalso;omega))|refine enD6 hF.bn hj hEj ?_|refine MrgE.bn ?_|refine wJ ?_|refine nJ ?_)<;>conv=>whnf))
   intro bA nA hbA
   conv=>whnf
   refine loop_i (α :=List Nat × Ent × List Nat × Nat) (fun x=>[(36, .row 6),(29, .row 4),(20, .int .i64 k),(19, .int .i64 (r.bs.map Blw.av).length),(18, .isl (r.bs.map Blw.av)),(10, .int .i64 v),(9, .own 5 0),(8, .row 3),(7, .row 2),(5, .row 9),(2, .own 0 0),(1, .fn g [])]) (fun x=>[.box false r.cells, .fresh, .mpb (kE x.2.1) (uE x.2.1) x.2.2.1 x.2.2.2, .mpb (kE A) (uE A) bA nA, .itd [.row 9] n (mm bn s++[bn.getD j 0]), .box false [.int .i64 c0, .int .i64 c1, .int .i64 c2, .int .i64 c3, .int .i64 c4, .int .i64 c5], .itd [.row 3] nA (mm bA x.1), .fresh, .fresh, .mpb (kE E) (uE E) bn n])
    (fun x=>x.1.Nodup/\(∀j∈x.1,j<A.length)/\Fil x.2.1 x.2.2.1 x.2.2.2/\(∀t,vE x.2.1 t=(s.map (gvs E A t)).sum+(x.1.map (gv E A t j)).sum)/\∀t,0<=vE x.2.1 t/\vE x.2.1 t<=60000*s.length+6000*x.1.length) (fun x=>A.length-x.1.length) ([],L,bL,nL) mI ⟨by simp,by simp,hL,fun t=>by dsimp only;rw[hv];simp,fun t=>by have:=hvb t;dsimp only[List.length_nil];omega⟩ ?_
   rintro⟨s',L',bL',nL'⟩ ⟨hs1',hs2',hL',hv',hvb'⟩
   dsimp only at hs1' hs2' hL' hv' hvb'⊢
   conv=>whnf
   refine nxD6 hbA hA.len (fun i d0 d1 d2 d3 d4 d5 w hi hAi hns'=>?_) (fun hall'=>?_)
   ·have his:=mm_not hns'
    have hsl':=met_lt hs1' hs2' his hi
    obtain⟨hw1,hw2,x0,hx0,hx1⟩:=hA.val hi hAi
    have hdb:∀y∈[d0,d1,d2,d3,d4,d5],0<=y/\y<=1000:=by
     rw[<- hx1];exact T1_bd _ _ _
    have e2:=p95 [c0,c1,c2,c3,c4,c5] [d0,d1,d2,d3,d4,d5] rfl rfl hcb hdb
    have hmu1:0<v*w:=Int.mul_pos hv1 hw1
    have hmu2:v*w<=6000:=by
     have h1:v*w<=600*w:=Int.mul_le_mul_of_nonneg_right (by omega) (by omega)
     omega
    have ht6:(addL [c0,c1,c2,c3,c4,c5] [d0,d1,d2,d3,d4,d5]).length=6:=rfl
    have hgv:∀t,gv E A t j i=if t=addL [c0,c1,c2,c3,c4,c5] [d0,d1,d2,d3,d4,d5] then v*w else 0:=fun t=>gv_eq hEj hAi
    have hm6:=mpe6 (E:=L') ht6 hL'.len hL'.bn (v*w)
    have hl6:=look6 (E:=L') ht6 hL'.len
    have hc:=hvb' (addL [c0,c1,c2,c3,c4,c5] [d0,d1,d2,d3,d4,d5])
    generalize hmu:v*w=mu at *
    obtain⟨v0,b0,bn',n',jj,q1,q2,q3,q4,q5,q6⟩:=hm6
    have hF':=hL'.add ht6 hmu1 q4
    have hV':∀t,vE (addE L' (addL [c0,c1,c2,c3,c4,c5] [d0,d1,d2,d3,d4,d5]) mu) t=(s.map (gvs E A t)).sum+((s'++[i]).map (gv E A t j)).sum:=fun t=>by
     rw[vE_add,hv' t,List.map_append,List.sum_append,List.map_singleton,List.sum_singleton,hgv];omega
    have hB':∀t,0<=vE (addE L' (addL [c0,c1,c2,c3,c4,c5] [d0,d1,d2,d3,d4,d5]) mu) t/\vE (addE L' (addL [c0,c1,c2,c3,c4,c5] [d0,d1,d2,d3,d4,d5]) mu) t<=60000*s.length+6000*(s'++[i]).length:=fun t=>by
     have:=hvb' t
     rw[vE_add,List.length_append,List.length_singleton]
     split<;>omega
    have hnd':=nd_snoc hs1' his
    have hlt':=lt_snoc hs2' hi
    generalize addL [c0,c1,c2,c3,c4,c5] [d0,d1,d2,d3,d4,d5]=tt at *
    unfold vE at hc q3 q5
    cases hg:getE L' tt with
    |none=>
     rw[hg]at hl6 hc q3 q5
     simp only[Option.map_none,Option.getD_none]at hl6 hc q3 q5
     (conv=>whnf);(repeat'((first|apply bT|apply bF|apply bN|((first|apply bD|apply bEq|apply bNe)<;>intro hh<;>try(exfalso;omega))|refine enD6 hbA hi hAi ?_|refine altI ?_ ?_|((refine wIn (by rw[hmu];omega) ?_;rw[hmu]))|refine e2.cq rfl rfl ?_|refine lkI hl6 ?_|refine lkI q5 ?_|refine meI q1 ?_|refine msI _ _ q2 rfl q3.symm ?_|refine wJ ?_|refine nJ ?_)<;>conv=>whnf))
     all_goals exact⟨(s'++[i],_,bn',n'),by rw[mm_snoc];exact mI,⟨hnd',hlt',hF',hV',hB'⟩,by dsimp only;rw[List.length_append,List.length_singleton];omega⟩
    |some v1=>
     rw[hg]at hl6 hc q3 q5
     simp only[Option.map_some,Option.getD_some]at hl6 hc q3 q5
     (conv=>whnf);(repeat'((first|apply bT|apply bF|apply bN|((first|apply bD|apply bEq|apply bNe)<;>intro hh<;>try(exfalso;omega))|refine enD6 hbA hi hAi ?_|refine altI ?_ ?_|((refine wIn (by rw[hmu];omega) ?_;rw[hmu]))|refine e2.cq rfl rfl ?_|refine lkI hl6 ?_|refine lkI q5 ?_|refine meI q1 ?_|refine msI _ _ q2 rfl q3.symm ?_|refine wJ ?_|refine nJ ?_)<;>conv=>whnf))
     all_goals exact⟨(s'++[i],_,bn',n'),by rw[mm_snoc];exact mI,⟨hnd',hlt',hF',hV',hB'⟩,by dsimp only;rw[List.length_append,List.length_singleton];omega⟩
   ·have hall2:=mm_all hbA hs2' hall'
    have hfull:=met_len hs1' hs2'
    have hV':∀t,vE L' t=((s++[j]).map (gvs E A t)).sum:=fun t=>by
     rw[hv' t,met_sum (gv E A t j) hs1' hs2' hall2,List.map_append,List.sum_append,List.map_singleton,List.sum_singleton];rfl
    have hB':∀t,0<=vE L' t/\vE L' t<=60000*(s++[j]).length:=fun t=>by
     have:=hvb' t
     rw[List.length_append,List.length_singleton];omega
    (conv=>whnf);(repeat'((first|apply bT|apply bF|apply bN|((first|apply bD|apply bEq|apply bNe)<;>intro hh<;>try(exfalso;omega))|refine wJ ?_|refine nJ ?_)<;>conv=>whnf))
    exact⟨(s++[j],L',bL',nL'),by rw[mm_snoc];exact mI,⟨nd_snoc hs1 hjs,lt_snoc hs2 hj,hL',hV',hB'⟩,by dsimp only;rw[List.length_append,List.length_singleton];omega⟩
  ·have hall2:=mm_all hF.bn hs2 hall
   have hRL:Rep L (css (r.bs.take (k+1))) (TL r.ms Q):=Rep.of hL fun t=>by
    rw[hv t,met_sum (gvs E A t) hs1 hs2 hall2,hmul A hA t]
   (conv=>whnf);(repeat'((first|apply bT|apply bF|apply bN|((first|apply bD|apply bEq|apply bNe)<;>intro hh<;>try(exfalso;omega))|refine wJ ?_|refine nJ ?_)<;>conv=>whnf))
   exact⟨(k+1,L,bL,nL),(mA [(9,some 2)]),⟨by dsimp only;omega,hRL,hL⟩,by dsimp only;omega⟩
 ·have:k=r.bs.length:=by omega
  subst this
  rw[List.take_length]at hR
  (conv=>whnf);(repeat'((first|apply bT|apply bF|apply bN|((first|apply bD|apply bEq|apply bNe)<;>intro hh<;>try(exfalso;omega))|refine wJ ?_|refine nJ ?_)<;>conv=>whnf))
  all_goals exact⟨E,rfl,rfl,hR⟩
theorem p67_1(r:Ru)(n0:Nat)(g:FuncId)(c:List AV)(Q:Nat->Int->Bool)(hbs:okBs n0 r.bs)(hm:r.ms.length<=5)(hfew:prd r.bs<=600)
  (hq:∀k,k<r.bs.length->∀x,0<=x->x<=99->FnV Tryz.prog (.fn g [.ipt c]) [.int .i64 k, .int .i64 x] (· = .bool (Q k x))) :
  FnW Tryz.prog 95 [.agg r.cells, .fn g [.ipt c]] [] (fun r' outs=>∃E,r' = .row 0/\outs=[.mp false (kE E) (uE E)]/\Rep E (css r.bs) (TL r.ms Q)):=by
 have hB:(r.bs.map Blw.av).length=r.bs.length:=by simp
 have hbl:=hbs.1
 have hz:=zero_rep r.ms Q
 refine fnW 10 [9] ok95 (by simp) rfl rfl ?_
 (conv=>whnf);(repeat'((first|apply bT|apply bF|apply bN|((first|apply bD|apply bEq|apply bNe)<;>intro hh<;>try(exfalso;omega))|refine MrgE.bn ?_|refine mdI (ks':=kE [([0,0,0,0,0,0],1)]) (us':=uE [([0,0,0,0,0,0],1)]) (bn':=[0]) (n':=1) rfl ?_|refine wJ ?_|refine nJ ?_)<;>conv=>whnf))
 refine loop_i (α :=Nat × Ent × List Nat × Nat) (fun x=>[(20, .int .i64 x.1),(19, .int .i64 (r.bs.map Blw.av).length),(18, .isl (r.bs.map Blw.av)),(5, .row 9),(2, .own 0 0),(1, .fn g [.ipt c])]) (fun x=>[.box false r.cells, .fresh, .fresh, .fresh, .fresh, .fresh, .fresh, .fresh, .fresh, .mpb (kE x.2.1) (uE x.2.1) x.2.2.1 x.2.2.2])
  (fun x=>x.1<=r.bs.length/\Rep x.2.1 (css (r.bs.take x.1)) (TL r.ms Q)/\Fil x.2.1 x.2.2.1 x.2.2.2) (fun x=>r.bs.length-x.1) (0,[([0,0,0,0,0,0],1)],[0],1) (mA [(9,some 1)]) ⟨by omega,hz,hz.nd,hz.len,hz.pos,⟨rfl,rfl,by simp,by simp⟩⟩ ?_
 rintro⟨k,E,bn,n⟩ ⟨hk,hR,hF⟩
 dsimp only at hk hR hF⊢
 conv=>whnf
 refine bD (fun h3=>?_) (fun h3=>?_)
 ·have hlt:k<r.bs.length:=by omega
  have hmem:r.bs.getD k ⟨0,0,0⟩∈r.bs:=by simp[List.getD_eq_getElem?_getD,hlt]
  have hb:=hbs.2 _ hmem
  have hw:=wid_pos hb
  have e1:=p94_1 r k n0 g c Q hlt hbl hm hb (hq k hlt)
  have hEl:E.length<=600:=by
   have h1:=hR.le
   rw[css_len]at h1
   have:=prd_tk hbs.2 k;omega
  have hWl:(css (r.bs.take k)).length<=600:=by
   rw[css_len];have:=prd_tk hbs.2 k;omega
  have hsuc:=css_suc r.bs hlt
  have hXl:(fsB (r.bs.getD k ⟨0,0,0⟩)).length<=10:=by unfold fsB fsK;rw[List.length_map,List.length_range];exact hw.2
  have hmul:∀A,Rep A (fsB (r.bs.getD k ⟨0,0,0⟩)) (fun x=>T1 r.ms (Q k x) x)->∀t,((List.range E.length).map (gvs E A t)).sum=cnT (css (r.bs.take (k+1))) (TL r.ms Q) t:=fun A hA t=>by
   rw[hsuc]
   exact hR.mul hA (fun f x=>f++[x]) (TL r.ms Q) (fun f hf x _=>by
    have hl:=css_tlen (by omega) hf
    rw[TL_snoc,hl]) t
  clear hsuc
  (conv=>whnf);(repeat'((first|apply bT|apply bF|apply bN|((first|apply bD|apply bEq|apply bNe)<;>intro hh<;>try(exfalso;omega))|refine MrgE.bn ?_|refine wJ ?_|refine nJ ?_)<;>conv=>whnf))
  refine e1.callwq [] rfl rfl trivial rfl rfl rfl rfl (fun r' outs hr=>?_)
  obtain⟨A,hr1,hr2,hA⟩:=hr
  subst hr1;subst hr2
  refine⟨⟨rfl,rfl,rfl,rfl⟩,?_⟩
  have hAl:A.length<=10:=Nat.le_trans (Rep.le hA) hXl
  (conv=>whnf);(repeat'((first|apply bT|apply bF|apply bN|((first|apply bD|apply bEq|apply bNe)<;>intro hh<;>try(exfalso;omega))|refine MrgE.bn ?_|refine wJ ?_|refine nJ ?_)<;>conv=>whnf))
  refine loop_i (α :=List Nat × Ent × List Nat × Nat) (fun x=>[(29, .row 4),(20, .int .i64 k),(19, .int .i64 (r.bs.map Blw.av).length),(18, .isl (r.bs.map Blw.av)),(8, .row 3),(7, .row 2),(5, .row 9),(2, .own 0 0),(1, .fn g [.ipt c])]) (fun x=>[.box false r.cells, .fresh, .mpb (kE x.2.1) (uE x.2.1) x.2.2.1 x.2.2.2, .mp false (kE A) (uE A), .itd [.row 9] n (mm bn x.1), .fresh, .fresh, .fresh, .fresh, .mpb (kE E) (uE E) bn n])
   (fun x=>x.1.Nodup/\(∀j∈x.1,j<E.length)/\Fil x.2.1 x.2.2.1 x.2.2.2/\(∀t,vE x.2.1 t=(x.1.map (gvs E A t)).sum)/\∀t,0<=vE x.2.1 t/\vE x.2.1 t<=60000*x.1.length) (fun x=>E.length-x.1.length) ([],[],[],0) mI ⟨by simp,by simp,Fil.nil,fun t=>rfl,fun t=>⟨Int.le_refl _,Int.le_refl _⟩⟩ ?_
  rintro⟨s,L,bL,nL⟩ ⟨hs1,hs2,hL,hv,hvb⟩
  dsimp only at hs1 hs2 hL hv hvb⊢
  conv=>whnf
  refine nxD6 hF.bn hF.len (fun j c0 c1 c2 c3 c4 c5 v hj hEj hns=>?_) (fun hall=>?_)
  ·have hjs:=mm_not hns
   have hsl:=met_lt hs1 hs2 hjs hj
   obtain⟨hv1,hv2,f0,hf0,hf1⟩:=hR.val hj hEj
   have hcb:∀y∈[c0,c1,c2,c3,c4,c5],0<=y/\y<=1000:=by
    rw[<- hf1];exact TL_bd _ _ _ (by have:=css_tlen (by omega) hf0;omega)
   (conv=>whnf);(repeat'((first|apply bT|apply bF|apply bN|((first|apply bD|apply bEq|apply bNe)<;>intro hh<;>try(exfalso;omega))|refine enD6 hF.bn hj hEj ?_|refine MrgE.bn ?_|refine wJ ?_|refine nJ ?_)<;>conv=>whnf))
   intro bA nA hbA
   conv=>whnf
   refine loop_i (α :=List Nat × Ent × List Nat × Nat) (fun x=>[(36, .row 6),(29, .row 4),(20, .int .i64 k),(19, .int .i64 (r.bs.map Blw.av).length),(18, .isl (r.bs.map Blw.av)),(10, .int .i64 v),(9, .own 5 0),(8, .row 3),(7, .row 2),(5, .row 9),(2, .own 0 0),(1, .fn g [.ipt c])]) (fun x=>[.box false r.cells, .fresh, .mpb (kE x.2.1) (uE x.2.1) x.2.2.1 x.2.2.2, .mpb (kE A) (uE A) bA nA, .itd [.row 9] n (mm bn s++[bn.getD j 0]), .box false [.int .i64 c0, .int .i64 c1, .int .i64 c2, .int .i64 c3, .int .i64 c4, .int .i64 c5], .itd [.row 3] nA (mm bA x.1), .fresh, .fresh, .mpb (kE E) (uE E) bn n])
    (fun x=>x.1.Nodup/\(∀j∈x.1,j<A.length)/\Fil x.2.1 x.2.2.1 x.2.2.2/\(∀t,vE x.2.1 t=(s.map (gvs E A t)).sum+(x.1.map (gv E A t j)).sum)/\∀t,0<=vE x.2.1 t/\vE x.2.1 t<=60000*s.length+6000*x.1.length) (fun x=>A.length-x.1.length) ([],L,bL,nL) mI ⟨by simp,by simp,hL,fun t=>by dsimp only;rw[hv];simp,fun t=>by have:=hvb t;dsimp only[List.length_nil];omega⟩ ?_
   rintro⟨s',L',bL',nL'⟩ ⟨hs1',hs2',hL',hv',hvb'⟩
   dsimp only at hs1' hs2' hL' hv' hvb'⊢
   conv=>whnf
   refine nxD6 hbA hA.len (fun i d0 d1 d2 d3 d4 d5 w hi hAi hns'=>?_) (fun hall'=>?_)
   ·have his:=mm_not hns'
    have hsl':=met_lt hs1' hs2' his hi
    obtain⟨hw1,hw2,x0,hx0,hx1⟩:=hA.val hi hAi
    have hdb:∀y∈[d0,d1,d2,d3,d4,d5],0<=y/\y<=1000:=by
     rw[<- hx1];exact T1_bd _ _ _
    have e2:=p95 [c0,c1,c2,c3,c4,c5] [d0,d1,d2,d3,d4,d5] rfl rfl hcb hdb
    have hmu1:0<v*w:=Int.mul_pos hv1 hw1
    have hmu2:v*w<=6000:=by
     have h1:v*w<=600*w:=Int.mul_le_mul_of_nonneg_right (by omega) (by omega)
     omega
    have ht6:(addL [c0,c1,c2,c3,c4,c5] [d0,d1,d2,d3,d4,d5]).length=6:=rfl
    have hgv:∀t,gv E A t j i=if t=addL [c0,c1,c2,c3,c4,c5] [d0,d1,d2,d3,d4,d5] then v*w else 0:=fun t=>gv_eq hEj hAi
    have hm6:=mpe6 (E:=L') ht6 hL'.len hL'.bn (v*w)
    have hl6:=look6 (E:=L') ht6 hL'.len
    have hc:=hvb' (addL [c0,c1,c2,c3,c4,c5] [d0,d1,d2,d3,d4,d5])
    generalize hmu:v*w=mu at *
    obtain⟨v0,b0,bn',n',jj,q1,q2,q3,q4,q5,q6⟩:=hm6
    have hF':=hL'.add ht6 hmu1 q4
    have hV':∀t,vE (addE L' (addL [c0,c1,c2,c3,c4,c5] [d0,d1,d2,d3,d4,d5]) mu) t=(s.map (gvs E A t)).sum+((s'++[i]).map (gv E A t j)).sum:=fun t=>by
     rw[vE_add,hv' t,List.map_append,List.sum_append,List.map_singleton,List.sum_singleton,hgv];omega
    have hB':∀t,0<=vE (addE L' (addL [c0,c1,c2,c3,c4,c5] [d0,d1,d2,d3,d4,d5]) mu) t/\vE (addE L' (addL [c0,c1,c2,c3,c4,c5] [d0,d1,d2,d3,d4,d5]) mu) t<=60000*s.length+6000*(s'++[i]).length:=fun t=>by
     have:=hvb' t
     rw[vE_add,List.length_append,List.length_singleton]
     split<;>omega
    have hnd':=nd_snoc hs1' his
    have hlt':=lt_snoc hs2' hi
    generalize addL [c0,c1,c2,c3,c4,c5] [d0,d1,d2,d3,d4,d5]=tt at *
    unfold vE at hc q3 q5
    cases hg:getE L' tt with
    |none=>
     rw[hg]at hl6 hc q3 q5
     simp only[Option.map_none,Option.getD_none]at hl6 hc q3 q5
     (conv=>whnf);(repeat'((first|apply bT|apply bF|apply bN|((first|apply bD|apply bEq|apply bNe)<;>intro hh<;>try(exfalso;omega))|refine enD6 hbA hi hAi ?_|refine altI ?_ ?_|((refine wIn (by rw[hmu];omega) ?_;rw[hmu]))|refine e2.cq rfl rfl ?_|refine lkI hl6 ?_|refine lkI q5 ?_|refine meI q1 ?_|refine msI _ _ q2 rfl q3.symm ?_|refine wJ ?_|refine nJ ?_)<;>conv=>whnf))
     all_goals exact⟨(s'++[i],_,bn',n'),by rw[mm_snoc];exact mI,⟨hnd',hlt',hF',hV',hB'⟩,by dsimp only;rw[List.length_append,List.length_singleton];omega⟩
    |some v1=>
     rw[hg]at hl6 hc q3 q5
     simp only[Option.map_some,Option.getD_some]at hl6 hc q3 q5
     (conv=>whnf);(repeat'((first|apply bT|apply bF|apply bN|((first|apply bD|apply bEq|apply bNe)<;>intro hh<;>try(exfalso;omega))|refine enD6 hbA hi hAi ?_|refine altI ?_ ?_|((refine wIn (by rw[hmu];omega) ?_;rw[hmu]))|refine e2.cq rfl rfl ?_|refine lkI hl6 ?_|refine lkI q5 ?_|refine meI q1 ?_|refine msI _ _ q2 rfl q3.symm ?_|refine wJ ?_|refine nJ ?_)<;>conv=>whnf))
     all_goals exact⟨(s'++[i],_,bn',n'),by rw[mm_snoc];exact mI,⟨hnd',hlt',hF',hV',hB'⟩,by dsimp only;rw[List.length_append,List.length_singleton];omega⟩
   ·have hall2:=mm_all hbA hs2' hall'
    have hfull:=met_len hs1' hs2'
    have hV':∀t,vE L' t=((s++[j]).map (gvs E A t)).sum:=fun t=>by
     rw[hv' t,met_sum (gv E A t j) hs1' hs2' hall2,List.map_append,List.sum_append,List.map_singleton,List.sum_singleton];rfl
    have hB':∀t,0<=vE L' t/\vE L' t<=60000*(s++[j]).length:=fun t=>by
     have:=hvb' t
     rw[List.length_append,List.length_singleton];omega
    (conv=>whnf);(repeat'((first|apply bT|apply bF|apply bN|((first|apply bD|apply bEq|apply bNe)<;>intro hh<;>try(exfalso;omega))|refine wJ ?_|refine nJ ?_)<;>conv=>whnf))
    exact⟨(s++[j],L',bL',nL'),by rw[mm_snoc];exact mI,⟨nd_snoc hs1 hjs,lt_snoc hs2 hj,hL',hV',hB'⟩,by dsimp only;rw[List.length_append,List.length_singleton];omega⟩
  ·have hall2:=mm_all hF.bn hs2 hall
   have hRL:Rep L (css (r.bs.take (k+1))) (TL r.ms Q):=Rep.of hL fun t=>by
    rw[hv t,met_sum (gvs E A t) hs1 hs2 hall2,hmul A hA t]
   (conv=>whnf);(repeat'((first|apply bT|apply bF|apply bN|((first|apply bD|apply bEq|apply bNe)<;>intro hh<;>try(exfalso;omega))|refine wJ ?_|refine nJ ?_)<;>conv=>whnf))
   exact⟨(k+1,L,bL,nL),(mA [(9,some 2)]),⟨by dsimp only;omega,hRL,hL⟩,by dsimp only;omega⟩
 ·have:k=r.bs.length:=by omega
  subst this
  rw[List.take_length]at hR
  (conv=>whnf);(repeat'((first|apply bT|apply bF|apply bN|((first|apply bD|apply bEq|apply bNe)<;>intro hh<;>try(exfalso;omega))|refine wJ ?_|refine nJ ?_)<;>conv=>whnf))
  all_goals exact⟨E,rfl,rfl,hR⟩
theorem p67_2(r:Ru)(n0:Nat)(g:FuncId)(u1 u2:Int)(Q:Nat->Int->Bool)(hbs:okBs n0 r.bs)(hm:r.ms.length<=5)(hfew:prd r.bs<=600)
  (hq:∀k,k<r.bs.length->∀x,0<=x->x<=99->FnV Tryz.prog (.fn g [.ipt [.int .i64 u1], .ipt [.int .i64 u2]]) [.int .i64 k, .int .i64 x] (· = .bool (Q k x))) :
  FnW Tryz.prog 95 [.agg r.cells, .fn g [.ipt [.int .i64 u1], .ipt [.int .i64 u2]]] [] (fun r' outs=>∃E,r' = .row 0/\outs=[.mp false (kE E) (uE E)]/\Rep E (css r.bs) (TL r.ms Q)):=by
 have hB:(r.bs.map Blw.av).length=r.bs.length:=by simp
 have hbl:=hbs.1
 have hz:=zero_rep r.ms Q
 refine fnW 10 [9] ok95 (by simp) rfl rfl ?_
 (conv=>whnf);(repeat'((first|apply bT|apply bF|apply bN|((first|apply bD|apply bEq|apply bNe)<;>intro hh<;>try(exfalso;omega))|refine MrgE.bn ?_|refine mdI (ks':=kE [([0,0,0,0,0,0],1)]) (us':=uE [([0,0,0,0,0,0],1)]) (bn':=[0]) (n':=1) rfl ?_|refine wJ ?_|refine nJ ?_)<;>conv=>whnf))
 refine loop_i (α :=Nat × Ent × List Nat × Nat) (fun x=>[(20, .int .i64 x.1),(19, .int .i64 (r.bs.map Blw.av).length),(18, .isl (r.bs.map Blw.av)),(5, .row 9),(2, .own 0 0),(1, .fn g [.ipt [.int .i64 u1], .ipt [.int .i64 u2]])]) (fun x=>[.box false r.cells, .fresh, .fresh, .fresh, .fresh, .fresh, .fresh, .fresh, .fresh, .mpb (kE x.2.1) (uE x.2.1) x.2.2.1 x.2.2.2])
  (fun x=>x.1<=r.bs.length/\Rep x.2.1 (css (r.bs.take x.1)) (TL r.ms Q)/\Fil x.2.1 x.2.2.1 x.2.2.2) (fun x=>r.bs.length-x.1) (0,[([0,0,0,0,0,0],1)],[0],1) (mA [(9,some 1)]) ⟨by omega,hz,hz.nd,hz.len,hz.pos,⟨rfl,rfl,by simp,by simp⟩⟩ ?_
 rintro⟨k,E,bn,n⟩ ⟨hk,hR,hF⟩
 dsimp only at hk hR hF⊢
 conv=>whnf
 refine bD (fun h3=>?_) (fun h3=>?_)
 ·have hlt:k<r.bs.length:=by omega
  have hmem:r.bs.getD k ⟨0,0,0⟩∈r.bs:=by simp[List.getD_eq_getElem?_getD,hlt]
  have hb:=hbs.2 _ hmem
  have hw:=wid_pos hb
  have e1:=p94_2 r k n0 g u1 u2 Q hlt hbl hm hb (hq k hlt)
  have hEl:E.length<=600:=by
   have h1:=hR.le
   rw[css_len]at h1
   have:=prd_tk hbs.2 k;omega
  have hWl:(css (r.bs.take k)).length<=600:=by
   rw[css_len];have:=prd_tk hbs.2 k;omega
  have hsuc:=css_suc r.bs hlt
  have hXl:(fsB (r.bs.getD k ⟨0,0,0⟩)).length<=10:=by unfold fsB fsK;rw[List.length_map,List.length_range];exact hw.2
  have hmul:∀A,Rep A (fsB (r.bs.getD k ⟨0,0,0⟩)) (fun x=>T1 r.ms (Q k x) x)->∀t,((List.range E.length).map (gvs E A t)).sum=cnT (css (r.bs.take (k+1))) (TL r.ms Q) t:=fun A hA t=>by
   rw[hsuc]
   exact hR.mul hA (fun f x=>f++[x]) (TL r.ms Q) (fun f hf x _=>by
    have hl:=css_tlen (by omega) hf
    rw[TL_snoc,hl]) t
  clear hsuc
  (conv=>whnf);(repeat'((first|apply bT|apply bF|apply bN|((first|apply bD|apply bEq|apply bNe)<;>intro hh<;>try(exfalso;omega))|refine MrgE.bn ?_|refine wJ ?_|refine nJ ?_)<;>conv=>whnf))
  refine e1.callwq [] rfl rfl trivial rfl rfl rfl rfl (fun r' outs hr=>?_)
  obtain⟨A,hr1,hr2,hA⟩:=hr
  subst hr1;subst hr2
  refine⟨⟨rfl,rfl,rfl,rfl⟩,?_⟩
  have hAl:A.length<=10:=Nat.le_trans (Rep.le hA) hXl
  (conv=>whnf);(repeat'((first|apply bT|apply bF|apply bN|((first|apply bD|apply bEq|apply bNe)<;>intro hh<;>try(exfalso;omega))|refine MrgE.bn ?_|refine wJ ?_|refine nJ ?_)<;>conv=>whnf))
  refine loop_i (α :=List Nat × Ent × List Nat × Nat) (fun x=>[(29, .row 4),(20, .int .i64 k),(19, .int .i64 (r.bs.map Blw.av).length),(18, .isl (r.bs.map Blw.av)),(8, .row 3),(7, .row 2),(5, .row 9),(2, .own 0 0),(1, .fn g [.ipt [.int .i64 u1], .ipt [.int .i64 u2]])]) (fun x=>[.box false r.cells, .fresh, .mpb (kE x.2.1) (uE x.2.1) x.2.2.1 x.2.2.2, .mp false (kE A) (uE A), .itd [.row 9] n (mm bn x.1), .fresh, .fresh, .fresh, .fresh, .mpb (kE E) (uE E) bn n])
   (fun x=>x.1.Nodup/\(∀j∈x.1,j<E.length)/\Fil x.2.1 x.2.2.1 x.2.2.2/\(∀t,vE x.2.1 t=(x.1.map (gvs E A t)).sum)/\∀t,0<=vE x.2.1 t/\vE x.2.1 t<=60000*x.1.length) (fun x=>E.length-x.1.length) ([],[],[],0) mI ⟨by simp,by simp,Fil.nil,fun t=>rfl,fun t=>⟨Int.le_refl _,Int.le_refl _⟩⟩ ?_
  rintro⟨s,L,bL,nL⟩ ⟨hs1,hs2,hL,hv,hvb⟩
  dsimp only at hs1 hs2 hL hv hvb⊢
  conv=>whnf
  refine nxD6 hF.bn hF.len (fun j c0 c1 c2 c3 c4 c5 v hj hEj hns=>?_) (fun hall=>?_)
  ·have hjs:=mm_not hns
   have hsl:=met_lt hs1 hs2 hjs hj
   obtain⟨hv1,hv2,f0,hf0,hf1⟩:=hR.val hj hEj
   have hcb:∀y∈[c0,c1,c2,c3,c4,c5],0<=y/\y<=1000:=by
    rw[<- hf1];exact TL_bd _ _ _ (by have:=css_tlen (by omega) hf0;omega)
   (conv=>whnf);(repeat'((first|apply bT|apply bF|apply bN|((first|apply bD|apply bEq|apply bNe)<;>intro hh<;>try(exfalso;omega))|refine enD6 hF.bn hj hEj ?_|refine MrgE.bn ?_|refine wJ ?_|refine nJ ?_)<;>conv=>whnf))
   intro bA nA hbA
   conv=>whnf
   refine loop_i (α :=List Nat × Ent × List Nat × Nat) (fun x=>[(36, .row 6),(29, .row 4),(20, .int .i64 k),(19, .int .i64 (r.bs.map Blw.av).length),(18, .isl (r.bs.map Blw.av)),(10, .int .i64 v),(9, .own 5 0),(8, .row 3),(7, .row 2),(5, .row 9),(2, .own 0 0),(1, .fn g [.ipt [.int .i64 u1], .ipt [.int .i64 u2]])]) (fun x=>[.box false r.cells, .fresh, .mpb (kE x.2.1) (uE x.2.1) x.2.2.1 x.2.2.2, .mpb (kE A) (uE A) bA nA, .itd [.row 9] n (mm bn s++[bn.getD j 0]), .box false [.int .i64 c0, .int .i64 c1, .int .i64 c2, .int .i64 c3, .int .i64 c4, .int .i64 c5], .itd [.row 3] nA (mm bA x.1), .fresh, .fresh, .mpb (kE E) (uE E) bn n])
    (fun x=>x.1.Nodup/\(∀j∈x.1,j<A.length)/\Fil x.2.1 x.2.2.1 x.2.2.2/\(∀t,vE x.2.1 t=(s.map (gvs E A t)).sum+(x.1.map (gv E A t j)).sum)/\∀t,0<=vE x.2.1 t/\vE x.2.1 t<=60000*s.length+6000*x.1.length) (fun x=>A.length-x.1.length) ([],L,bL,nL) mI ⟨by simp,by simp,hL,fun t=>by dsimp only;rw[hv];simp,fun t=>by have:=hvb t;dsimp only[List.length_nil];omega⟩ ?_
   rintro⟨s',L',bL',nL'⟩ ⟨hs1',hs2',hL',hv',hvb'⟩
   dsimp only at hs1' hs2' hL' hv' hvb'⊢
   conv=>whnf
   refine nxD6 hbA hA.len (fun i d0 d1 d2 d3 d4 d5 w hi hAi hns'=>?_) (fun hall'=>?_)
   ·have his:=mm_not hns'
    have hsl':=met_lt hs1' hs2' his hi
    obtain⟨hw1,hw2,x0,hx0,hx1⟩:=hA.val hi hAi
    have hdb:∀y∈[d0,d1,d2,d3,d4,d5],0<=y/\y<=1000:=by
     rw[<- hx1];exact T1_bd _ _ _
    have e2:=p95 [c0,c1,c2,c3,c4,c5] [d0,d1,d2,d3,d4,d5] rfl rfl hcb hdb
    have hmu1:0<v*w:=Int.mul_pos hv1 hw1
    have hmu2:v*w<=6000:=by
     have h1:v*w<=600*w:=Int.mul_le_mul_of_nonneg_right (by omega) (by omega)
     omega
    have ht6:(addL [c0,c1,c2,c3,c4,c5] [d0,d1,d2,d3,d4,d5]).length=6:=rfl
    have hgv:∀t,gv E A t j i=if t=addL [c0,c1,c2,c3,c4,c5] [d0,d1,d2,d3,d4,d5] then v*w else 0:=fun t=>gv_eq hEj hAi
    have hm6:=mpe6 (E:=L') ht6 hL'.len hL'.bn (v*w)
    have hl6:=look6 (E:=L') ht6 hL'.len
    have hc:=hvb' (addL [c0,c1,c2,c3,c4,c5] [d0,d1,d2,d3,d4,d5])
    generalize hmu:v*w=mu at *
    obtain⟨v0,b0,bn',n',jj,q1,q2,q3,q4,q5,q6⟩:=hm6
    have hF':=hL'.add ht6 hmu1 q4
    have hV':∀t,vE (addE L' (addL [c0,c1,c2,c3,c4,c5] [d0,d1,d2,d3,d4,d5]) mu) t=(s.map (gvs E A t)).sum+((s'++[i]).map (gv E A t j)).sum:=fun t=>by
     rw[vE_add,hv' t,List.map_append,List.sum_append,List.map_singleton,List.sum_singleton,hgv];omega
    have hB':∀t,0<=vE (addE L' (addL [c0,c1,c2,c3,c4,c5] [d0,d1,d2,d3,d4,d5]) mu) t/\vE (addE L' (addL [c0,c1,c2,c3,c4,c5] [d0,d1,d2,d3,d4,d5]) mu) t<=60000*s.length+6000*(s'++[i]).length:=fun t=>by
     have:=hvb' t
     rw[vE_add,List.length_append,List.length_singleton]
     split<;>omega
    have hnd':=nd_snoc hs1' his
    have hlt':=lt_snoc hs2' hi
    generalize addL [c0,c1,c2,c3,c4,c5] [d0,d1,d2,d3,d4,d5]=tt at *
    unfold vE at hc q3 q5
    cases hg:getE L' tt with
    |none=>
     rw[hg]at hl6 hc q3 q5
     simp only[Option.map_none,Option.getD_none]at hl6 hc q3 q5
     (conv=>whnf);(repeat'((first|apply bT|apply bF|apply bN|((first|apply bD|apply bEq|apply bNe)<;>intro hh<;>try(exfalso;omega))|refine enD6 hbA hi hAi ?_|refine altI ?_ ?_|((refine wIn (by rw[hmu];omega) ?_;rw[hmu]))|refine e2.cq rfl rfl ?_|refine lkI hl6 ?_|refine lkI q5 ?_|refine meI q1 ?_|refine msI _ _ q2 rfl q3.symm ?_|refine wJ ?_|refine nJ ?_)<;>conv=>whnf))
     all_goals exact⟨(s'++[i],_,bn',n'),by rw[mm_snoc];exact mI,⟨hnd',hlt',hF',hV',hB'⟩,by dsimp only;rw[List.length_append,List.length_singleton];omega⟩
    |some v1=>
     rw[hg]at hl6 hc q3 q5
     simp only[Option.map_some,Option.getD_some]at hl6 hc q3 q5
     (conv=>whnf);(repeat'((first|apply bT|apply bF|apply bN|((first|apply bD|apply bEq|apply bNe)<;>intro hh<;>try(exfalso;omega))|refine enD6 hbA hi hAi ?_|refine altI ?_ ?_|((refine wIn (by rw[hmu];omega) ?_;rw[hmu]))|refine e2.cq rfl rfl ?_|refine lkI hl6 ?_|refine lkI q5 ?_|refine meI q1 ?_|refine msI _ _ q2 rfl q3.symm ?_|refine wJ ?_|refine nJ ?_)<;>conv=>whnf))
     all_goals exact⟨(s'++[i],_,bn',n'),by rw[mm_snoc];exact mI,⟨hnd',hlt',hF',hV',hB'⟩,by dsimp only;rw[List.length_append,List.length_singleton];omega⟩
   ·have hall2:=mm_all hbA hs2' hall'
    have hfull:=met_len hs1' hs2'
    have hV':∀t,vE L' t=((s++[j]).map (gvs E A t)).sum:=fun t=>by
     rw[hv' t,met_sum (gv E A t j) hs1' hs2' hall2,List.map_append,List.sum_append,List.map_singleton,List.sum_singleton];rfl
    have hB':∀t,0<=vE L' t/\vE L' t<=60000*(s++[j]).length:=fun t=>by
     have:=hvb' t
     rw[List.length_append,List.length_singleton];omega
    (conv=>whnf);(repeat'((first|apply bT|apply bF|apply bN|((first|apply bD|apply bEq|apply bNe)<;>intro hh<;>try(exfalso;omega))|refine wJ ?_|refine nJ ?_)<;>conv=>whnf))
    exact⟨(s++[j],L',bL',nL'),by rw[mm_snoc];exact mI,⟨nd_snoc hs1 hjs,lt_snoc hs2 hj,hL',hV',hB'⟩,by dsimp only;rw[List.length_append,List.length_singleton];omega⟩
  ·have hall2:=mm_all hF.bn hs2 hall
   have hRL:Rep L (css (r.bs.take (k+1))) (TL r.ms Q):=Rep.of hL fun t=>by
    rw[hv t,met_sum (gvs E A t) hs1 hs2 hall2,hmul A hA t]
   (conv=>whnf);(repeat'((first|apply bT|apply bF|apply bN|((first|apply bD|apply bEq|apply bNe)<;>intro hh<;>try(exfalso;omega))|refine wJ ?_|refine nJ ?_)<;>conv=>whnf))
   exact⟨(k+1,L,bL,nL),(mA [(9,some 2)]),⟨by dsimp only;omega,hRL,hL⟩,by dsimp only;omega⟩
 ·have:k=r.bs.length:=by omega
  subst this
  rw[List.take_length]at hR
  (conv=>whnf);(repeat'((first|apply bT|apply bF|apply bN|((first|apply bD|apply bEq|apply bNe)<;>intro hh<;>try(exfalso;omega))|refine wJ ?_|refine nJ ?_)<;>conv=>whnf))
  all_goals exact⟨E,rfl,rfl,hR⟩
theorem abv_tl{ms:List Met}{Q:Nat->Int->Bool}{f:List Int}{i:Nat}(hm:ms.length<=5)(hi:i<ms.length):(TL ms Q f).getD i 0=((abv f (ms.getD i ⟨0,0⟩).L:Nat):Int):=by
 have h:∀i,i<ms.length->tl1 ms f i=((abv f (ms.getD i ⟨0,0⟩).L:Nat):Int):=fun i hi=>by unfold tl1;rw[if_pos hi]
 rw[<- h i hi]
 have:i=0\/i=1\/i=2\/i=3\/i=4:=by omega
 rcases this with rfl|rfl|rfl|rfl|rfl<;>rfl
theorem countP_get{α : Type}(l:List α)(z : α)(p : α -> Bool):(List.range l.length).countP (fun i=>p (l.getD i z))=l.countP p:=by
 have e:(List.range l.length).map (fun i=>l.getD i z)=l:=by
  apply List.ext_getElem (by simp)
  intro n h1 h2
  simp[List.getD_eq_getElem?_getD,h2]
 conv=>rhs;rw[<- e]
 rw[List.countP_map];rfl
theorem wrT_tl{ms:List Met}{Q:Nat->Int->Bool}{f:List Int}(hm:ms.length<=5):wrT ms (TL ms Q f)=wrg ms f:=by
 unfold wrT wrg
 rw[<- countP_get ms ⟨0,0⟩]
 refine List.countP_congr fun i hi=>?_
 have:=List.mem_range.1 hi
 rw[abv_tl hm this]
 unfold rgtM
 rfl
structure Lef(E0:Ent)(b0:List Nat)(good:Tal->Bool)(M:Ent)(bM:List Nat)(n:Nat)(mem:List Nat):Prop where
 fil:Fil M bM n
 z:∀z,z∈M.zip bM<->z∈E0.zip b0/\(z.2∈mem->good z.1.1=true)
 nd:mem.Nodup
 sub:∀b∈mem,b∈b0
theorem zip_at{α β : Type}{l:List α}{m:List β}{j:Nat}(h1:j<l.length)(h2:j<m.length):(l.zip m)[j]?=some (l[j],m[j]):=by
 rw[List.getElem?_eq_getElem (by simp;omega)];simp
theorem zip_nd{E:Ent}{bn:List Nat}{n:Nat}(h:BnOk (kE E) (uE E) bn n):(E.zip bn).Nodup:=by
 have hlen:E.length=bn.length:=by have:=h.len;simpa[kE]using this
 have:((E.zip bn).map (·.2)).Nodup:=by rw[List.map_snd_zip (by omega)];exact BnOk.len6 h
 exact(List.pairwise_map.1 this).imp fun h e=>h (congrArg _ e)
theorem zip_inj{E:Ent}{bn:List Nat}{n:Nat}(h:BnOk (kE E) (uE E) bn n){x y:(Tal × Int) × Nat}(hx:x∈E.zip bn)(hy:y∈E.zip bn)(e:x.2=y.2):x=y:=by
 have hlen:E.length=bn.length:=by have:=h.len;simpa[kE]using this
 obtain⟨i,hi,rfl⟩:=List.getElem_of_mem hx
 obtain⟨j,hj,rfl⟩:=List.getElem_of_mem hy
 simp only[List.length_zip]at hi hj
 have hp:=List.pairwise_iff_getElem.1 h.asc
 simp only[List.getElem_zip]at e⊢
 rcases Nat.lt_trichotomy i j with q|q|q
 ·have:=hp i j (by omega) (by omega) q;omega
 ·subst q;rfl
 ·have:=hp j i (by omega) (by omega) q;omega
theorem Lef.start{E:Ent}{bn:List Nat}{n:Nat}(good:Tal->Bool)(h:Fil E bn n):Lef E bn good E bn n []:=⟨h,fun z=>by simp,by simp,by simp⟩
theorem Lef.cur{E0:Ent}{b0:List Nat}{good:Tal->Bool}{M:Ent}{bM:List Nat}{n:Nat}{mem:List Nat}(h:Lef E0 b0 good M bM n mem){j:Nat}(hj:j<M.length):(M.getD j ([],0),bM.getD j 0)∈M.zip bM:=by
 have hlen:M.length=bM.length:=by have:=h.fil.bn.len;simpa[kE]using this
 rw[List.getD_eq_getElem?_getD,List.getD_eq_getElem?_getD,List.getElem?_eq_getElem hj,List.getElem?_eq_getElem (by omega)]
 exact List.mem_of_getElem? (zip_at hj (by omega))
theorem Lef.keep{E0:Ent}{b0:List Nat}{n0:Nat}(h0:BnOk (kE E0) (uE E0) b0 n0){good:Tal->Bool}{M:Ent}{bM:List Nat}{n:Nat}{mem:List Nat}(h:Lef E0 b0 good M bM n mem){j:Nat}(hj:j<M.length)(hb:bM.getD j 0∉mem)(hg:good (M.getD j ([],0)).1=true) :
  Lef E0 b0 good M bM n (mem++[bM.getD j 0]):=by
 have hc:=h.cur hj
 have hc0:=((h.z _).1 hc).1
 refine⟨h.fil,fun z=>?_,nd_snoc h.nd hb,fun b hbm=>?_⟩
 ·rw[h.z]
  constructor
  ·rintro⟨h1,h2⟩
   refine⟨h1,fun hm=>?_⟩
   rcases List.mem_append.1 hm with hm|hm
   ·exact h2 hm
   ·simp only[List.mem_singleton]at hm
    rw[zip_inj h0 h1 hc0 hm];exact hg
  ·rintro⟨h1,h2⟩
   exact⟨h1,fun hm=>h2 (List.mem_append_left _ hm)⟩
 ·rcases List.mem_append.1 hbm with hbm|hbm
  ·exact h.sub b hbm
  ·simp only[List.mem_singleton]at hbm
   rw[hbm]
   exact(List.of_mem_zip hc0).2
theorem Lef.take{E0:Ent}{b0:List Nat}{n0:Nat}(h0:BnOk (kE E0) (uE E0) b0 n0){good:Tal->Bool}{M:Ent}{bM:List Nat}{n:Nat}{mem:List Nat}(h:Lef E0 b0 good M bM n mem){j:Nat}(hj:j<M.length)(hb:bM.getD j 0∉mem)(hg:good (M.getD j ([],0)).1=false) :
  Lef E0 b0 good (M.eraseIdx j) (bM.eraseIdx j) n (mem++[bM.getD j 0]):=by
 have hlen:M.length=bM.length:=by have:=h.fil.bn.len;simpa[kE]using this
 have hc:=h.cur hj
 have hc0:=((h.z _).1 hc).1
 have hzip:(M.eraseIdx j).zip (bM.eraseIdx j)=(M.zip bM).eraseIdx j:=by
  have:∀(l:Ent) (m:List Nat) (j:Nat),(l.eraseIdx j).zip (m.eraseIdx j)=(l.zip m).eraseIdx j:=by
   intro l;induction l with
   |nil=>intro m j;simp
   |cons a l ih=>
    intro m j
    cases m with
    |nil=>simp
    |cons b m=>cases j with
     |zero=>simp
     |succ j=>simp[ih]
  exact this M bM j
 have hsM:(M.eraseIdx j).Sublist M:=List.eraseIdx_sublist ..
 have hsb:(bM.eraseIdx j).Sublist bM:=List.eraseIdx_sublist ..
 have hzn:=zip_nd h.fil.bn
 refine⟨⟨h.fil.nd.sublist (hsM.map _),fun e he=>h.fil.len e (hsM.subset he),fun e he=>h.fil.pos e (hsM.subset he),?_,?_,h.fil.bn.asc.sublist hsb,fun x hx=>h.fil.bn.lt x (hsb.subset hx)⟩,fun z=>?_,nd_snoc h.nd hb,fun b hbm=>?_⟩
 ·simp[kE,List.length_eraseIdx,hlen]
 ·simp[uE,List.length_eraseIdx,hlen]
 ·rw[hzip,List.mem_eraseIdx_iff_getElem]
  have hjz:j<(M.zip bM).length:=by simp;omega
  have hcz:(M.zip bM)[j]=(M.getD j ([],0),bM.getD j 0):=by
   simp[List.getD_eq_getElem?_getD,hj,show j<bM.length by omega]
  constructor
  ·rintro⟨i,hi,hne,rfl⟩
   have hm:=List.getElem_mem hi
   obtain⟨h1,h2⟩:=(h.z _).1 hm
   refine⟨h1,fun hmm=>?_⟩
   rcases List.mem_append.1 hmm with hmm|hmm
   ·exact h2 hmm
   ·simp only[List.mem_singleton]at hmm
    have e:=zip_inj h.fil.bn hm hc hmm
    rw[<- hcz]at e
    exact absurd ((List.getElem_inj hzn).1 e) hne
  ·rintro⟨h1,h2⟩
   have hm:z∈M.zip bM:=(h.z _).2 ⟨h1,fun hm=>h2 (List.mem_append_left _ hm)⟩
   obtain⟨i,hi,rfl⟩:=List.getElem_of_mem hm
   refine⟨i,hi,fun e=>?_,rfl⟩
   subst e
   have:=h2 (List.mem_append_right _ (by rw[hcz];simp))
   rw[hcz]at this
   rw[hg]at this;cases this
 ·rcases List.mem_append.1 hbm with hbm|hbm
  ·exact h.sub b hbm
  ·simp only[List.mem_singleton]at hbm
   rw[hbm]
   exact(List.of_mem_zip hc0).2
theorem mem_zip_fst{E:Ent}{bn:List Nat}(hl:E.length=bn.length){e:Tal × Int}:e∈E<->∃b,(e,b)∈E.zip bn:=by
 constructor
 ·intro he
  obtain⟨i,hi,rfl⟩:=List.getElem_of_mem he
  exact⟨bn[i],List.mem_of_getElem? (zip_at hi (by omega))⟩
 ·rintro⟨b,h⟩;exact(List.of_mem_zip h).1
theorem Lef.done{E0:Ent}{b0:List Nat}{n0:Nat}(h0:Fil E0 b0 n0){good:Tal->Bool}{M:Ent}{bM:List Nat}{n:Nat}{mem:List Nat}(h:Lef E0 b0 good M bM n mem)(ha:∀j,j<M.length->bM.getD j 0∈mem){α : Type}{W:List α}{T : α -> Tal}(hR:Rep E0 W T) :
  Rep M (W.filter fun f=>good (T f)) T:=by
 have hlen:M.length=bM.length:=by have:=h.fil.bn.len;simpa[kE]using this
 have hlen0:E0.length=b0.length:=by have:=h0.bn.len;simpa[kE]using this
 have hM:∀e,e∈M<->e∈E0/\good e.1=true:=fun e=>by
  constructor
  ·intro he
   obtain⟨i,hi,rfl⟩:=List.getElem_of_mem he
   have hz:(M[i],bM[i])∈M.zip bM:=List.mem_of_getElem? (zip_at hi (by omega))
   obtain⟨h1,h2⟩:=(h.z _).1 hz
   refine⟨(List.of_mem_zip h1).1,h2 ?_⟩
   have:=ha i hi
   rwa [List.getD_eq_getElem?_getD,List.getElem?_eq_getElem (by omega)]at this
  ·rintro⟨he,hg⟩
   obtain⟨b,hb⟩:=(mem_zip_fst hlen0).1 he
   exact(List.of_mem_zip ((h.z _).2 ⟨hb,fun _=>hg⟩)).1
 refine⟨h.fil.nd,h.fil.len,fun t=>?_,h.fil.pos⟩
 have e1:cnT (W.filter fun f=>good (T f)) T t=if good t=true then cnT W T t else 0:=by
  unfold cnT
  rw[List.countP_filter]
  split
  ·rename_i hg
   congr 1
   refine List.countP_congr fun f _=>?_
   simp only[Bool.and_eq_true,decide_eq_true_eq]
   exact⟨fun h=>h.1,fun h=>⟨h,by rw[h];exact hg⟩⟩
  ·rename_i hg
   rw[List.countP_eq_zero.2];·rfl
   intro f _ hh
   simp only[Bool.and_eq_true,decide_eq_true_eq]at hh
   exact hg (hh.1 ▸ hh.2)
 rw[e1,<- hR.cnt]
 by_cases hm:t∈M.map (·.1)
 ·obtain⟨e,he,rfl⟩:=List.mem_map.1 hm
  obtain⟨h1,h2⟩:=(hM e).1 he
  rw[vE_of h.fil.nd he,if_pos h2,vE_of hR.nd h1]
 ·rw[vE_no hm]
  split
  ·rename_i hg
   by_cases hm0:t∈E0.map (·.1)
   ·obtain⟨e,he,rfl⟩:=List.mem_map.1 hm0
    exact absurd (List.mem_map.2 ⟨e,(hM e).2 ⟨he,hg⟩,rfl⟩) hm
   ·rw[vE_no hm0]
  ·rfl
theorem Lef.left{E0:Ent}{b0:List Nat}{n0:Nat}(h0:Fil E0 b0 n0){good:Tal->Bool}{M:Ent}{bM:List Nat}{n:Nat}{mem:List Nat}(h:Lef E0 b0 good M bM n mem){j:Nat}(hj:j<M.length)(hb:bM.getD j 0∉mem):mem.length<E0.length:=by
 have hlen0:E0.length=b0.length:=by have:=h0.bn.len;simpa[kE]using this
 have hc0:=((h.z _).1 (h.cur hj)).1
 have:=nd_sub_lenC (b:=b0) (nd_snoc h.nd hb) (fun b hbm=>by
  rcases List.mem_append.1 hbm with hbm|hbm
  ·exact h.sub b hbm
  ·simp only[List.mem_singleton]at hbm;rw[hbm];exact(List.of_mem_zip hc0).2)
 simp at this;omega
theorem del6{M:Ent}{bM:List Nat}{n:Nat}(hF:Fil M bM n){j:Nat}{c:Tal}{v:Int}(hj:j<M.length)(he:M.getD j ([],0)=(c,v))(x:AV) :
  mdel (.del K6) (kE M) (uE M) bM n (tkA c) x=some (kE (M.eraseIdx j),uE (M.eraseIdx j),bM.eraseIdx j,n):=by
 rw[List.getD_eq_getElem?_getD,List.getElem?_eq_getElem hj]at he
 simp only[Option.getD_some]at he
 have hc:c.length=6:=by have:=hF.len _ (List.getElem_mem hj);rwa [he]at this
 obtain⟨r,h1,h2⟩:=findE hc 0 M 0 hF.len
 have hk:keyV (.del K6) (tkA c)=true:=key6 hc
 have hd:(KTy.del K6).isDel=true:=rfl
 unfold mdel
 rw[hk,findK_del,h1,hd]
 rcases h2 with⟨_,_,h2⟩|⟨j',u,rfl,h2,_,_⟩
 ·exfalso
  have h3:=vE_of hF.nd (List.getElem_mem hj)
  have h4:=hF.pos _ (List.getElem_mem hj)
  rw[he]at h3 h4
  dsimp only at h3 h4
  unfold vE at h3
  rw[h2]at h3
  simp at h3;omega
 ·obtain⟨hj',hje⟩:=List.getElem?_eq_some_iff.1 h2
  have:j'=j:=by
   have hn:=hF.nd
   have e:(M.map (·.1))[j']'(by simpa using hj')=(M.map (·.1))[j]'(by simpa using hj):=by simp[hje,he]
   exact(List.getElem_inj hn).1 e
  subst this
  simp only[Nat.zero_add]
  simp[kE,uE,map_erase]
theorem p40_0(r:Ru)(n0:Nat)(g:FuncId)(Q:Nat->Int->Bool)(hbs:okBs n0 r.bs)(hm:r.ms.length<=5)(hfew:prd r.bs<=600)
  (hq:∀k,k<r.bs.length->∀x,0<=x->x<=99->FnV Tryz.prog (.fn g []) [.int .i64 k, .int .i64 x] (· = .bool (Q k x))) :
  FnW Tryz.prog 58 [.agg r.cells, .fn g []] [] (fun r' outs=>∃M,r' = .row 0/\outs=[.mp false (kE M) (uE M)]/\Rep M (trs r.bs r.ms r.w) (TL r.ms Q)):=by
 have e1:=p67_0 r n0 g Q hbs hm hfew hq
 have hwr:=fun(c:Tal) (hc:c.length=6)=>p68 r c hc hm
 refine fnW 6 [1] ok58 (by simp) rfl rfl ?_
 (conv=>whnf);(repeat'((first|apply bT|apply bF|apply bN|((first|apply bD|apply bEq|apply bNe)<;>intro hh<;>try(exfalso;omega))|refine wJ ?_|refine nJ ?_)<;>conv=>whnf))
 refine e1.callwq [] rfl rfl trivial rfl rfl rfl rfl (fun r' outs hr=>?_)
 obtain⟨E,hr1,hr2,hR⟩:=hr
 subst hr1;subst hr2
 refine⟨⟨rfl,rfl,rfl,rfl⟩,?_⟩
 (conv=>whnf);(repeat'((first|apply bT|apply bF|apply bN|((first|apply bD|apply bEq|apply bNe)<;>intro hh<;>try(exfalso;omega))|refine MrgE.bn ?_|refine wJ ?_|refine nJ ?_)<;>conv=>whnf))
 intro b0 n hb0
 conv=>whnf
 have hF0:Fil E b0 n:=⟨hR.nd,hR.len,hR.pos,hb0⟩
 refine loop_i (α :=Ent × List Nat × List Nat) (fun x=>[(11, .row 2),(5, .row 1),(2, .own 0 0),(1, .fn g [])]) (fun x=>[.box false r.cells, .mpb (kE x.1) (uE x.1) x.2.1 n, .itd [.row 1] n x.2.2, .fresh, .fresh, .fresh])
  (fun x=>Lef E b0 (fun c=>decide ((wrT r.ms c:Int)<=r.w)) x.1 x.2.1 n x.2.2) (fun x=>E.length-x.2.2.length) (E,b0,[]) mI (Lef.start _ hF0) ?_
 rintro⟨M,bM,mem⟩ hL
 dsimp only at hL⊢
 conv=>whnf
 refine nxD6 hL.fil.bn hL.fil.len (fun j c0 c1 c2 c3 c4 c5 v hj hEj hns=>?_) (fun hall=>?_)
 ·have hleft:=hL.left hF0 hj hns
  have e2:=hwr [c0,c1,c2,c3,c4,c5] rfl
  have hd:=del6 hL.fil hj hEj (.bool false)
  by_cases hg:(wrT r.ms [c0,c1,c2,c3,c4,c5]:Int)<=r.w
  ·have hk:=hL.keep hb0 hj hns (by rw[hEj];exact decide_eq_true hg)
   (conv=>whnf);(repeat'((first|apply bT|apply bF|apply bN|((first|apply bD|apply bEq|apply bNe)<;>intro hh<;>try(exfalso;omega))|refine enD6 hL.fil.bn hj hEj ?_|refine e2.cq rfl rfl ?_|refine wJ ?_|refine nJ ?_)<;>conv=>whnf))
   exact⟨(M,bM,mem++[bM.getD j 0]),mI,hk,by dsimp only;rw[List.length_append,List.length_singleton];omega⟩
  ·have hk:=hL.take hb0 hj hns (by rw[hEj];exact decide_eq_false hg)
   (conv=>whnf);(repeat'((first|apply bT|apply bF|apply bN|((first|apply bD|apply bEq|apply bNe)<;>intro hh<;>try(exfalso;omega))|refine enD6 hL.fil.bn hj hEj ?_|refine e2.cq rfl rfl ?_|refine mdI hd ?_|refine wJ ?_|refine nJ ?_)<;>conv=>whnf))
   exact⟨(M.eraseIdx j,bM.eraseIdx j,mem++[bM.getD j 0]),mI,hk,by dsimp only;rw[List.length_append,List.length_singleton];omega⟩
 ·have hM:=hL.done hF0 hall hR
  have e3:((css r.bs).filter fun f=>decide ((wrT r.ms (TL r.ms Q f):Int)<=r.w))=trs r.bs r.ms r.w:=by
   unfold trs
   exact List.filter_congr fun f _=>by rw[wrT_tl hm]
  rw[e3]at hM
  (conv=>whnf);(repeat'((first|apply bT|apply bF|apply bN|((first|apply bD|apply bEq|apply bNe)<;>intro hh<;>try(exfalso;omega))|refine wJ ?_|refine nJ ?_)<;>conv=>whnf))
  all_goals exact⟨M,rfl,rfl,hM⟩
theorem p40_1(r:Ru)(n0:Nat)(g:FuncId)(c:List AV)(Q:Nat->Int->Bool)(hbs:okBs n0 r.bs)(hm:r.ms.length<=5)(hfew:prd r.bs<=600)
  (hq:∀k,k<r.bs.length->∀x,0<=x->x<=99->FnV Tryz.prog (.fn g [.ipt c]) [.int .i64 k, .int .i64 x] (· = .bool (Q k x))) :
  FnW Tryz.prog 58 [.agg r.cells, .fn g [.ipt c]] [] (fun r' outs=>∃M,r' = .row 0/\outs=[.mp false (kE M) (uE M)]/\Rep M (trs r.bs r.ms r.w) (TL r.ms Q)):=by
 have e1:=p67_1 r n0 g c Q hbs hm hfew hq
 have hwr:=fun(c:Tal) (hc:c.length=6)=>p68 r c hc hm
 refine fnW 6 [1] ok58 (by simp) rfl rfl ?_
 (conv=>whnf);(repeat'((first|apply bT|apply bF|apply bN|((first|apply bD|apply bEq|apply bNe)<;>intro hh<;>try(exfalso;omega))|refine wJ ?_|refine nJ ?_)<;>conv=>whnf))
 refine e1.callwq [] rfl rfl trivial rfl rfl rfl rfl (fun r' outs hr=>?_)
 obtain⟨E,hr1,hr2,hR⟩:=hr
 subst hr1;subst hr2
 refine⟨⟨rfl,rfl,rfl,rfl⟩,?_⟩
 (conv=>whnf);(repeat'((first|apply bT|apply bF|apply bN|((first|apply bD|apply bEq|apply bNe)<;>intro hh<;>try(exfalso;omega))|refine MrgE.bn ?_|refine wJ ?_|refine nJ ?_)<;>conv=>whnf))
 intro b0 n hb0
 conv=>whnf
 have hF0:Fil E b0 n:=⟨hR.nd,hR.len,hR.pos,hb0⟩
 refine loop_i (α :=Ent × List Nat × List Nat) (fun x=>[(11, .row 2),(5, .row 1),(2, .own 0 0),(1, .fn g [.ipt c])]) (fun x=>[.box false r.cells, .mpb (kE x.1) (uE x.1) x.2.1 n, .itd [.row 1] n x.2.2, .fresh, .fresh, .fresh])
  (fun x=>Lef E b0 (fun c=>decide ((wrT r.ms c:Int)<=r.w)) x.1 x.2.1 n x.2.2) (fun x=>E.length-x.2.2.length) (E,b0,[]) mI (Lef.start _ hF0) ?_
 rintro⟨M,bM,mem⟩ hL
 dsimp only at hL⊢
 conv=>whnf
 refine nxD6 hL.fil.bn hL.fil.len (fun j c0 c1 c2 c3 c4 c5 v hj hEj hns=>?_) (fun hall=>?_)
 ·have hleft:=hL.left hF0 hj hns
  have e2:=hwr [c0,c1,c2,c3,c4,c5] rfl
  have hd:=del6 hL.fil hj hEj (.bool false)
  by_cases hg:(wrT r.ms [c0,c1,c2,c3,c4,c5]:Int)<=r.w
  ·have hk:=hL.keep hb0 hj hns (by rw[hEj];exact decide_eq_true hg)
   (conv=>whnf);(repeat'((first|apply bT|apply bF|apply bN|((first|apply bD|apply bEq|apply bNe)<;>intro hh<;>try(exfalso;omega))|refine enD6 hL.fil.bn hj hEj ?_|refine e2.cq rfl rfl ?_|refine wJ ?_|refine nJ ?_)<;>conv=>whnf))
   exact⟨(M,bM,mem++[bM.getD j 0]),mI,hk,by dsimp only;rw[List.length_append,List.length_singleton];omega⟩
  ·have hk:=hL.take hb0 hj hns (by rw[hEj];exact decide_eq_false hg)
   (conv=>whnf);(repeat'((first|apply bT|apply bF|apply bN|((first|apply bD|apply bEq|apply bNe)<;>intro hh<;>try(exfalso;omega))|refine enD6 hL.fil.bn hj hEj ?_|refine e2.cq rfl rfl ?_|refine mdI hd ?_|refine wJ ?_|refine nJ ?_)<;>conv=>whnf))
   exact⟨(M.eraseIdx j,bM.eraseIdx j,mem++[bM.getD j 0]),mI,hk,by dsimp only;rw[List.length_append,List.length_singleton];omega⟩
 ·have hM:=hL.done hF0 hall hR
  have e3:((css r.bs).filter fun f=>decide ((wrT r.ms (TL r.ms Q f):Int)<=r.w))=trs r.bs r.ms r.w:=by
   unfold trs
   exact List.filter_congr fun f _=>by rw[wrT_tl hm]
  rw[e3]at hM
  (conv=>whnf);(repeat'((first|apply bT|apply bF|apply bN|((first|apply bD|apply bEq|apply bNe)<;>intro hh<;>try(exfalso;omega))|refine wJ ?_|refine nJ ?_)<;>conv=>whnf))
  all_goals exact⟨M,rfl,rfl,hM⟩
theorem p40_2(r:Ru)(n0:Nat)(g:FuncId)(u1 u2:Int)(Q:Nat->Int->Bool)(hbs:okBs n0 r.bs)(hm:r.ms.length<=5)(hfew:prd r.bs<=600)
  (hq:∀k,k<r.bs.length->∀x,0<=x->x<=99->FnV Tryz.prog (.fn g [.ipt [.int .i64 u1], .ipt [.int .i64 u2]]) [.int .i64 k, .int .i64 x] (· = .bool (Q k x))) :
  FnW Tryz.prog 58 [.agg r.cells, .fn g [.ipt [.int .i64 u1], .ipt [.int .i64 u2]]] [] (fun r' outs=>∃M,r' = .row 0/\outs=[.mp false (kE M) (uE M)]/\Rep M (trs r.bs r.ms r.w) (TL r.ms Q)):=by
 have e1:=p67_2 r n0 g u1 u2 Q hbs hm hfew hq
 have hwr:=fun(c:Tal) (hc:c.length=6)=>p68 r c hc hm
 refine fnW 6 [1] ok58 (by simp) rfl rfl ?_
 (conv=>whnf);(repeat'((first|apply bT|apply bF|apply bN|((first|apply bD|apply bEq|apply bNe)<;>intro hh<;>try(exfalso;omega))|refine wJ ?_|refine nJ ?_)<;>conv=>whnf))
 refine e1.callwq [] rfl rfl trivial rfl rfl rfl rfl (fun r' outs hr=>?_)
 obtain⟨E,hr1,hr2,hR⟩:=hr
 subst hr1;subst hr2
 refine⟨⟨rfl,rfl,rfl,rfl⟩,?_⟩
 (conv=>whnf);(repeat'((first|apply bT|apply bF|apply bN|((first|apply bD|apply bEq|apply bNe)<;>intro hh<;>try(exfalso;omega))|refine MrgE.bn ?_|refine wJ ?_|refine nJ ?_)<;>conv=>whnf))
 intro b0 n hb0
 conv=>whnf
 have hF0:Fil E b0 n:=⟨hR.nd,hR.len,hR.pos,hb0⟩
 refine loop_i (α :=Ent × List Nat × List Nat) (fun x=>[(11, .row 2),(5, .row 1),(2, .own 0 0),(1, .fn g [.ipt [.int .i64 u1], .ipt [.int .i64 u2]])]) (fun x=>[.box false r.cells, .mpb (kE x.1) (uE x.1) x.2.1 n, .itd [.row 1] n x.2.2, .fresh, .fresh, .fresh])
  (fun x=>Lef E b0 (fun c=>decide ((wrT r.ms c:Int)<=r.w)) x.1 x.2.1 n x.2.2) (fun x=>E.length-x.2.2.length) (E,b0,[]) mI (Lef.start _ hF0) ?_
 rintro⟨M,bM,mem⟩ hL
 dsimp only at hL⊢
 conv=>whnf
 refine nxD6 hL.fil.bn hL.fil.len (fun j c0 c1 c2 c3 c4 c5 v hj hEj hns=>?_) (fun hall=>?_)
 ·have hleft:=hL.left hF0 hj hns
  have e2:=hwr [c0,c1,c2,c3,c4,c5] rfl
  have hd:=del6 hL.fil hj hEj (.bool false)
  by_cases hg:(wrT r.ms [c0,c1,c2,c3,c4,c5]:Int)<=r.w
  ·have hk:=hL.keep hb0 hj hns (by rw[hEj];exact decide_eq_true hg)
   (conv=>whnf);(repeat'((first|apply bT|apply bF|apply bN|((first|apply bD|apply bEq|apply bNe)<;>intro hh<;>try(exfalso;omega))|refine enD6 hL.fil.bn hj hEj ?_|refine e2.cq rfl rfl ?_|refine wJ ?_|refine nJ ?_)<;>conv=>whnf))
   exact⟨(M,bM,mem++[bM.getD j 0]),mI,hk,by dsimp only;rw[List.length_append,List.length_singleton];omega⟩
  ·have hk:=hL.take hb0 hj hns (by rw[hEj];exact decide_eq_false hg)
   (conv=>whnf);(repeat'((first|apply bT|apply bF|apply bN|((first|apply bD|apply bEq|apply bNe)<;>intro hh<;>try(exfalso;omega))|refine enD6 hL.fil.bn hj hEj ?_|refine e2.cq rfl rfl ?_|refine mdI hd ?_|refine wJ ?_|refine nJ ?_)<;>conv=>whnf))
   exact⟨(M.eraseIdx j,bM.eraseIdx j,mem++[bM.getD j 0]),mI,hk,by dsimp only;rw[List.length_append,List.length_singleton];omega⟩
 ·have hM:=hL.done hF0 hall hR
  have e3:((css r.bs).filter fun f=>decide ((wrT r.ms (TL r.ms Q f):Int)<=r.w))=trs r.bs r.ms r.w:=by
   unfold trs
   exact List.filter_congr fun f _=>by rw[wrT_tl hm]
  rw[e3]at hM
  (conv=>whnf);(repeat'((first|apply bT|apply bF|apply bN|((first|apply bD|apply bEq|apply bNe)<;>intro hh<;>try(exfalso;omega))|refine wJ ?_|refine nJ ?_)<;>conv=>whnf))
  all_goals exact⟨M,rfl,rfl,hM⟩
def en5(E:Ent)(j:Nat):Int:=(E.getD j ([],0)).1.getD 5 0
structure Spn(a:Nat->Int)(s:List Nat)(d lo hi:Int):Prop where
 lb:∀j∈s,lo<=a j
 ub:∀j∈s,a j<=hi
 lx:lo=d\/∃j∈s,a j=lo
 ux:hi=0\/∃j∈s,a j=hi
theorem Spn.nil(a:Nat->Int)(d:Int):Spn a [] d d 0:=⟨by simp,by simp, .inl rfl, .inl rfl⟩
theorem Spn.snoc{a:Nat->Int}{s:List Nat}{d lo hi:Int}(h:Spn a s d lo hi){j:Nat}{x:Int}(hx:a j=x):Spn a (s++[j]) d (min lo x) (max hi x):=by
 subst hx
 refine⟨fun i hi=>?_,fun i hi=>?_,?_,?_⟩
 ·rcases List.mem_append.1 hi with hi|hi
  ·have:=h.lb i hi;omega
  ·simp only[List.mem_singleton]at hi;subst hi;omega
 ·rcases List.mem_append.1 hi with hi|hi
  ·have:=h.ub i hi;omega
  ·simp only[List.mem_singleton]at hi;subst hi;omega
 ·by_cases c:a j<=lo
  ·exact .inr ⟨j,by simp,by omega⟩
  ·rw[show min lo (a j)=lo by omega]
   rcases h.lx with q|⟨i,q1,q2⟩
   ·exact .inl q
   ·exact .inr ⟨i,List.mem_append_left _ q1,q2⟩
 ·by_cases c:hi<=a j
  ·exact .inr ⟨j,by simp,by omega⟩
  ·rw[show max hi (a j)=hi by omega]
   rcases h.ux with q|⟨i,q1,q2⟩
   ·exact .inl q
   ·exact .inr ⟨i,List.mem_append_left _ q1,q2⟩
theorem Spn.done{a:Nat->Int}{s:List Nat}{d lo hi:Int}(h:Spn a s d lo hi){m:Nat}(ha:∀j,j<m->j∈s)(hs:∀j∈s,j<m)(hb:∀j,j<m->0<=a j/\a j<=d)(hm:0<m){x:List Int}(hx:∀y,y∈x<->∃j,j<m/\a j=y):(lo,hi)=spL x:=by
 have h0:a 0∈x:=(hx _).2 ⟨0,hm,rfl⟩
 have hne:x≠[]:=fun e=>by rw[e]at h0;cases h0
 obtain⟨e1,e2⟩:=spL_ex hne
 obtain⟨j1,q1,q2⟩:=(hx _).1 e1
 obtain⟨j2,q3,q4⟩:=(hx _).1 e2
 have b1:=h.lb j1 (ha j1 q1)
 have b2:=h.ub j2 (ha j2 q3)
 have b0:=hb 0 hm
 have c1:=h.lb 0 (ha 0 hm)
 have c2:=h.ub 0 (ha 0 hm)
 refine Prod.ext ?_ ?_
 ·dsimp only
  rcases h.lx with q|⟨j,r1,r2⟩
  ·have:=hb j1 q1;omega
  ·have:=(spL_in ((hx _).2 ⟨j,hs j r1,r2⟩)).1;omega
 ·dsimp only
  rcases h.ux with q|⟨j,r1,r2⟩
  ·have:=hb j2 q3;omega
  ·have:=(spL_in ((hx _).2 ⟨j,hs j r1,r2⟩)).2;omega
theorem Rep.keys{α : Type}{E:Ent}{W:List α}{T : α -> Tal}(h:Rep E W T)(φ : Tal->Int)(y:Int):(∃f∈W,φ (T f)=y)<->∃j,j<E.length /\ φ (E.getD j ([],0)).1=y:=by
 constructor
 ·rintro⟨f,hf,rfl⟩
  obtain⟨e,he,e1⟩:=List.mem_map.1 (h.mem.2 ⟨f,hf,rfl⟩)
  obtain⟨j,hj,rfl⟩:=List.getElem_of_mem he
  refine⟨j,hj,?_⟩
  rw[List.getD_eq_getElem?_getD,List.getElem?_eq_getElem hj]
  simp only[Option.getD_some,e1]
 ·rintro⟨j,hj,rfl⟩
  obtain⟨f,hf,e⟩:=h.mem.1 (List.mem_map.2 ⟨E[j],List.getElem_mem hj,rfl⟩)
  refine⟨f,hf,?_⟩
  rw[List.getD_eq_getElem?_getD,List.getElem?_eq_getElem hj]
  simp only[Option.getD_some,e]
theorem Rep.ne{α : Type}{E:Ent}{W:List α}{T : α -> Tal}(h:Rep E W T)(hW:W≠[]):0<E.length:=by
 obtain⟨f,hf⟩:=List.exists_mem_of_ne_nil _ hW
 have:=h.mem.2 ⟨f,hf,rfl⟩
 cases E with
 |nil=>cases this
 |cons _ _=>simp
theorem p44_1(r:Ru)(n0:Nat)(g:FuncId)(c:List AV)(Q:Nat->Int->Bool)(hbs:okBs n0 r.bs)(hm:r.ms.length<=5)(hfew:prd r.bs<=600)(hne:trs r.bs r.ms r.w≠[])
  (hq:∀k,k<r.bs.length->∀x,0<=x->x<=99->FnV Tryz.prog (.fn g [.ipt c]) [.int .i64 k, .int .i64 x] (· = .bool (Q k x))) :
  FnA Tryz.prog 62 [.agg r.cells, .fn g [.ipt c]] (· = .agg [.int .i64 (spL ((trs r.bs r.ms r.w).map (hQ Q))).1, .int .i64 (spL ((trs r.bs r.ms r.w).map (hQ Q))).2]):=by
 have hB:(r.bs.map Blw.av).length=r.bs.length:=by simp
 have e1:=p40_1 r n0 g c Q hbs hm hfew hq
 have hlen:∀f∈trs r.bs r.ms r.w,f.length=r.bs.length:=fun f hf=>isC_len (mem_trs.1 hf).1
 refine fnA 8 ok62 (by simp) ?_
 (conv=>whnf);(repeat'((first|apply bT|apply bF|apply bN|((first|apply bD|apply bEq|apply bNe)<;>intro hh<;>try(exfalso;omega))|refine wJ ?_|refine nJ ?_)<;>conv=>whnf))
 refine e1.callwq [] rfl rfl trivial rfl rfl rfl rfl (fun r' outs hr=>?_)
 obtain⟨E,hr1,hr2,hR⟩:=hr
 subst hr1;subst hr2
 refine⟨⟨rfl,rfl,rfl,rfl⟩,?_⟩
 have hk:=fun y=>hR.keys (fun t=>t.getD 5 0) y
 have hEn:=hR.ne hne
 generalize hx:(trs r.bs r.ms r.w).map (hQ Q)=x
 have hkx:∀y,y∈x<->∃j,j<E.length/\en5 E j=y:=fun y=>by
  rw[<- hx,List.mem_map];exact hk y
 have hbd:∀j,j<E.length->0<=en5 E j/\en5 E j<=((r.bs.map Blw.av).length:Int):=fun j hj=>by
  have hm:=(hkx (en5 E j)).2 ⟨j,hj,rfl⟩
  rw[<- hx]at hm
  obtain⟨f,hf,e⟩:=List.mem_map.1 hm
  rw[<- e,hB,<- hlen f hf];exact hQ_bd Q f
 (conv=>whnf);(repeat'((first|apply bT|apply bF|apply bN|((first|apply bD|apply bEq|apply bNe)<;>intro hh<;>try(exfalso;omega))|refine MrgE.bn ?_|refine wJ ?_|refine nJ ?_)<;>conv=>whnf))
 intro bn n hb
 conv=>whnf
 refine loop_i (α :=List Nat × Int × Int) (fun x=>[(15, .row 4),(5, .own 2 0),(4, .own 1 0)]) (fun x=>[.fresh, .box false [.int .i64 0, .int .i64 0], .box false [.int .i64 x.2.1, .int .i64 x.2.2], .mpb (kE E) (uE E) bn n, .itd [.row 3] n (mm bn x.1), .fresh, .fresh, .fresh])
  (fun x=>x.1.Nodup/\(∀j∈x.1,j<E.length)/\Spn (en5 E) x.1 ((r.bs.map Blw.av).length:Int) x.2.1 x.2.2) (fun x=>E.length-x.1.length) ([],((r.bs.map Blw.av).length:Int),0) mI ⟨by simp,by simp,Spn.nil _ _⟩ ?_
 rintro⟨s,lo,hi⟩ ⟨hs1,hs2,hS⟩
 dsimp only at hs1 hs2 hS⊢
 conv=>whnf
 refine nxD6 hb hR.len (fun j c0 c1 c2 c3 c4 c5 v hj hEj hns=>?_) (fun hall=>?_)
 ·have hjs:=mm_not hns
  have hsl:=met_lt hs1 hs2 hjs hj
  have h5:en5 E j=c5:=by unfold en5;rw[hEj];rfl
  (conv=>whnf);(repeat'((first|apply bT|apply bF|apply bN|((first|apply bD|apply bEq|apply bNe)<;>intro hh<;>try(exfalso;omega))|refine enD6 hb hj hEj ?_|refine wJ ?_|refine nJ ?_)<;>conv=>whnf))
  exact⟨(s++[j],min lo c5,max hi c5),by rw[mm_snoc];exact mI,⟨nd_snoc hs1 hjs,lt_snoc hs2 hj,hS.snoc h5⟩,by dsimp only;rw[List.length_append,List.length_singleton];omega⟩
 ·have hall2:=mm_all hb hs2 hall
  have hfin:=hS.done hall2 hs2 hbd hEn hkx
  rw[<- hfin]
  (conv=>whnf);(repeat'((first|apply bT|apply bF|apply bN|((first|apply bD|apply bEq|apply bNe)<;>intro hh<;>try(exfalso;omega))|refine wJ ?_|refine nJ ?_)<;>conv=>whnf))
  all_goals rfl
theorem p44_2(r:Ru)(n0:Nat)(g:FuncId)(u1 u2:Int)(Q:Nat->Int->Bool)(hbs:okBs n0 r.bs)(hm:r.ms.length<=5)(hfew:prd r.bs<=600)(hne:trs r.bs r.ms r.w≠[])
  (hq:∀k,k<r.bs.length->∀x,0<=x->x<=99->FnV Tryz.prog (.fn g [.ipt [.int .i64 u1], .ipt [.int .i64 u2]]) [.int .i64 k, .int .i64 x] (· = .bool (Q k x))) :
  FnA Tryz.prog 62 [.agg r.cells, .fn g [.ipt [.int .i64 u1], .ipt [.int .i64 u2]]] (· = .agg [.int .i64 (spL ((trs r.bs r.ms r.w).map (hQ Q))).1, .int .i64 (spL ((trs r.bs r.ms r.w).map (hQ Q))).2]):=by
 have hB:(r.bs.map Blw.av).length=r.bs.length:=by simp
 have e1:=p40_2 r n0 g u1 u2 Q hbs hm hfew hq
 have hlen:∀f∈trs r.bs r.ms r.w,f.length=r.bs.length:=fun f hf=>isC_len (mem_trs.1 hf).1
 refine fnA 8 ok62 (by simp) ?_
 (conv=>whnf);(repeat'((first|apply bT|apply bF|apply bN|((first|apply bD|apply bEq|apply bNe)<;>intro hh<;>try(exfalso;omega))|refine wJ ?_|refine nJ ?_)<;>conv=>whnf))
 refine e1.callwq [] rfl rfl trivial rfl rfl rfl rfl (fun r' outs hr=>?_)
 obtain⟨E,hr1,hr2,hR⟩:=hr
 subst hr1;subst hr2
 refine⟨⟨rfl,rfl,rfl,rfl⟩,?_⟩
 have hk:=fun y=>hR.keys (fun t=>t.getD 5 0) y
 have hEn:=hR.ne hne
 generalize hx:(trs r.bs r.ms r.w).map (hQ Q)=x
 have hkx:∀y,y∈x<->∃j,j<E.length/\en5 E j=y:=fun y=>by
  rw[<- hx,List.mem_map];exact hk y
 have hbd:∀j,j<E.length->0<=en5 E j/\en5 E j<=((r.bs.map Blw.av).length:Int):=fun j hj=>by
  have hm:=(hkx (en5 E j)).2 ⟨j,hj,rfl⟩
  rw[<- hx]at hm
  obtain⟨f,hf,e⟩:=List.mem_map.1 hm
  rw[<- e,hB,<- hlen f hf];exact hQ_bd Q f
 (conv=>whnf);(repeat'((first|apply bT|apply bF|apply bN|((first|apply bD|apply bEq|apply bNe)<;>intro hh<;>try(exfalso;omega))|refine MrgE.bn ?_|refine wJ ?_|refine nJ ?_)<;>conv=>whnf))
 intro bn n hb
 conv=>whnf
 refine loop_i (α :=List Nat × Int × Int) (fun x=>[(15, .row 4),(5, .own 2 0),(4, .own 1 0)]) (fun x=>[.fresh, .box false [.int .i64 0, .int .i64 0], .box false [.int .i64 x.2.1, .int .i64 x.2.2], .mpb (kE E) (uE E) bn n, .itd [.row 3] n (mm bn x.1), .fresh, .fresh, .fresh])
  (fun x=>x.1.Nodup/\(∀j∈x.1,j<E.length)/\Spn (en5 E) x.1 ((r.bs.map Blw.av).length:Int) x.2.1 x.2.2) (fun x=>E.length-x.1.length) ([],((r.bs.map Blw.av).length:Int),0) mI ⟨by simp,by simp,Spn.nil _ _⟩ ?_
 rintro⟨s,lo,hi⟩ ⟨hs1,hs2,hS⟩
 dsimp only at hs1 hs2 hS⊢
 conv=>whnf
 refine nxD6 hb hR.len (fun j c0 c1 c2 c3 c4 c5 v hj hEj hns=>?_) (fun hall=>?_)
 ·have hjs:=mm_not hns
  have hsl:=met_lt hs1 hs2 hjs hj
  have h5:en5 E j=c5:=by unfold en5;rw[hEj];rfl
  (conv=>whnf);(repeat'((first|apply bT|apply bF|apply bN|((first|apply bD|apply bEq|apply bNe)<;>intro hh<;>try(exfalso;omega))|refine enD6 hb hj hEj ?_|refine wJ ?_|refine nJ ?_)<;>conv=>whnf))
  exact⟨(s++[j],min lo c5,max hi c5),by rw[mm_snoc];exact mI,⟨nd_snoc hs1 hjs,lt_snoc hs2 hj,hS.snoc h5⟩,by dsimp only;rw[List.length_append,List.length_singleton];omega⟩
 ·have hall2:=mm_all hb hs2 hall
  have hfin:=hS.done hall2 hs2 hbd hEn hkx
  rw[<- hfin]
  (conv=>whnf);(repeat'((first|apply bT|apply bF|apply bN|((first|apply bD|apply bEq|apply bNe)<;>intro hh<;>try(exfalso;omega))|refine wJ ?_|refine nJ ?_)<;>conv=>whnf))
  all_goals rfl
theorem p41(a b:Int):FnA Tryz.prog 59 [.int .i64 a, .int .i64 b] (· = .bool false):=by
 refine fnA 0 ok59 (by simp) ?_
 (conv=>whnf);(repeat'((first|apply bT|apply bF|apply bN|((first|apply bD|apply bEq|apply bNe)<;>intro hh<;>try(exfalso;omega))|refine wJ ?_|refine nJ ?_)<;>conv=>whnf))
 all_goals rfl
theorem v41(k:Nat)(x:Int):FnV Tryz.prog (.fn 59 []) [.int .i64 k, .int .i64 x] (· = .bool ((fun _ _=>false:Nat->Int->Bool) k x)):=fnV_of bd59 (p41 k x)
structure Lst(a:Nat->Int)(s:List Nat)(d lo:Int):Prop where
 lb:∀j∈s,lo<=a j
 le:lo<=d
 lx:lo=d\/∃j∈s,a j=lo
theorem Lst.nil(a:Nat->Int)(d:Int):Lst a [] d d:=⟨by simp,Int.le_refl _, .inl rfl⟩
theorem Lst.snoc{a:Nat->Int}{s:List Nat}{d lo:Int}(h:Lst a s d lo){j:Nat}{x:Int}(hx:a j=x):Lst a (s++[j]) d (min lo x):=by
 subst hx
 refine⟨fun i hi=>?_,by have:=h.le;omega,?_⟩
 ·rcases List.mem_append.1 hi with hi|hi
  ·have:=h.lb i hi;omega
  ·simp only[List.mem_singleton]at hi;subst hi;omega
 ·by_cases c:a j<=lo
  ·exact .inr ⟨j,by simp,by omega⟩
  ·rw[show min lo (a j)=lo by omega]
   rcases h.lx with q|⟨i,q1,q2⟩
   ·exact .inl q
   ·exact .inr ⟨i,List.mem_append_left _ q1,q2⟩
theorem few_char{n0:Nat}{bs:List Blw}{ms:List Met}(hbs:okBs n0 bs){x:Int}(h1:x<=ms.length)(h2:∀f,isC bs f->x<=(wrg ms f:Nat))(h3:x=ms.length\/∃f,isC bs f/\x=(wrg ms f:Nat)):x=few bs ms:=by
 obtain⟨f,hf,e⟩:=few_ex (ms:=ms) (css_ne hbs)
 have:=h2 f hf
 rcases h3 with h3|⟨g,hg,e2⟩
 ·have:=(few0 bs ms).2;omega
 ·have:=few_le (ms:=ms) hg;omega
theorem p38(r:Ru)(n0:Nat)(hbs:okBs n0 r.bs)(hm:r.ms.length<=5)(hfew:prd r.bs<=600):FnA Tryz.prog 50 [.agg r.cells] (· = .int .i64 (few r.bs r.ms)):=by
 have hM:(r.ms.map Met.av).length=r.ms.length:=by simp
 have e1:=p67_0 r n0 59 (fun _ _=>false) hbs hm hfew (fun k _ x _ _=>v41 k x)
 refine fnA 6 ok50 (by simp) ?_
 (conv=>whnf);(repeat'((first|apply bT|apply bF|apply bN|((first|apply bD|apply bEq|apply bNe)<;>intro hh<;>try(exfalso;omega))|refine wJ ?_|refine nJ ?_)<;>conv=>whnf))
 refine e1.callwq [] rfl rfl trivial rfl rfl rfl rfl (fun r' outs hr=>?_)
 obtain⟨E,hr1,hr2,hR⟩:=hr
 subst hr1;subst hr2
 refine⟨⟨rfl,rfl,rfl,rfl⟩,?_⟩
 have hwr:=fun(c:Tal) (hc:c.length=6)=>p68 r c hc hm
 (conv=>whnf);(repeat'((first|apply bT|apply bF|apply bN|((first|apply bD|apply bEq|apply bNe)<;>intro hh<;>try(exfalso;omega))|refine MrgE.bn ?_|refine wJ ?_|refine nJ ?_)<;>conv=>whnf))
 intro bn n hb
 conv=>whnf
 refine loop_i (α :=List Nat × Int) (fun x=>[(11, .row 2),(3, .int .i64 x.2),(1, .own 0 0)]) (fun x=>[.box false r.cells, .mpb (kE E) (uE E) bn n, .itd [.row 1] n (mm bn x.1), .fresh, .fresh, .fresh])
  (fun x=>x.1.Nodup/\(∀j∈x.1,j<E.length)/\Lst (fun j=>(wrT r.ms (E.getD j ([],0)).1:Nat)) x.1 ((r.ms.map Met.av).length:Int) x.2) (fun x=>E.length-x.1.length) ([],((r.ms.map Met.av).length:Int)) mI ⟨by simp,by simp,Lst.nil _ _⟩ ?_
 rintro⟨s,lo⟩ ⟨hs1,hs2,hS⟩
 dsimp only at hs1 hs2 hS⊢
 conv=>whnf
 refine nxD6 hb hR.len (fun j c0 c1 c2 c3 c4 c5 v hj hEj hns=>?_) (fun hall=>?_)
 ·have hjs:=mm_not hns
  have hsl:=met_lt hs1 hs2 hjs hj
  have e2:=hwr [c0,c1,c2,c3,c4,c5] rfl
  have h5:(fun j=>((wrT r.ms (E.getD j ([],0)).1:Nat):Int)) j=(wrT r.ms [c0,c1,c2,c3,c4,c5]:Nat):=by dsimp only;rw[hEj]
  (conv=>whnf);(repeat'((first|apply bT|apply bF|apply bN|((first|apply bD|apply bEq|apply bNe)<;>intro hh<;>try(exfalso;omega))|refine enD6 hb hj hEj ?_|refine e2.cq rfl rfl ?_|refine wJ ?_|refine nJ ?_)<;>conv=>whnf))
  exact⟨(s++[j],min lo (wrT r.ms [c0,c1,c2,c3,c4,c5]:Nat)),by rw[mm_snoc];exact mI,⟨nd_snoc hs1 hjs,lt_snoc hs2 hj,hS.snoc h5⟩,by dsimp only;rw[List.length_append,List.length_singleton];omega⟩
 ·have hall2:=mm_all hb hs2 hall
  have hfin:lo=few r.bs r.ms:=few_char hbs (by have:=hS.le;omega) (fun f hf=>by
    obtain⟨j,hj,e⟩:=(hR.keys (fun t=>(wrT r.ms t:Nat)) (wrg r.ms f:Nat)).1 ⟨f,mem_css.2 hf,by rw[wrT_tl hm]⟩
    rw[<- e];exact hS.lb j (hall2 j hj)) (by
    rcases hS.lx with q|⟨j,q1,q2⟩
    ·exact .inl (by rw[q,hM])
    ·obtain⟨f,hf,e⟩:=(hR.keys (fun t=>(wrT r.ms t:Nat)) lo).2 ⟨j,hs2 j q1,q2⟩
     rw[wrT_tl hm]at e
     exact .inr ⟨f,mem_css.1 hf,e.symm⟩)
  rw[<- hfin]
  (conv=>whnf);(repeat'((first|apply bT|apply bF|apply bN|((first|apply bD|apply bEq|apply bNe)<;>intro hh<;>try(exfalso;omega))|refine wJ ?_|refine nJ ?_)<;>conv=>whnf))
  all_goals rfl
theorem p69(r:Ru)(n0:Nat)(hbs:okBs n0 r.bs)(hm:r.ms.length<=5)(hfew:prd r.bs<=600):FnA Tryz.prog 97 [.agg r.cells] (· = .bool (decide (few r.bs r.ms<=r.w))):=by
 have e1:=p38 r n0 hbs hm hfew
 refine fnA 2 ok97 (by simp) ?_
 (conv=>whnf);(repeat'((first|apply bT|apply bF|apply bN|((first|apply bD|apply bEq|apply bNe)<;>intro hh<;>try(exfalso;omega))|refine e1.cq rfl rfl ?_|refine wJ ?_|refine nJ ?_)<;>conv=>whnf))
 all_goals rfl
def zR:List AV:=[.isl [], .int .i64 0, .int .i64 0, .int .i64 0, .int .i64 0, .int .i64 0, .int .i64 0, .isl [], .isl [], .isl [], .isl [], .int .i64 0]
theorem p39(r:Ru)(b:Bool)(h:Sm r)(hf:Few r)(he:r.err b=0):FnA Tryz.prog 53 [.agg r.cells, .bool b] (· = .tup [.agg r.cells, .int .i64 0]):=by
 have e1:=p37 r h
 obtain⟨ho,hb,hne⟩:=err_zero.1 he
 obtain⟨_,hbs,hm,_,_⟩:=rok_iff.1 ho
 have e2:=p69 r _ hbs hm (hf ho)
 rw[decide_eq_true ((few_iff hbs).2 hne)]at e2
 rw[Ru.chk,if_pos ho]at e1
 subst hb
 refine fnA 10 ok53 (by simp) ?_
 (conv=>whnf);(repeat'((first|apply bT|apply bF|apply bN|((first|apply bD|apply bEq|apply bNe)<;>intro hh<;>try(exfalso;omega))|refine e1.cq rfl rfl ?_|refine e2.cq rfl rfl ?_|refine wJ ?_|refine nJ ?_)<;>conv=>whnf))
 all_goals rfl
theorem p39e(r:Ru)(b:Bool)(h:Sm r)(hf:Few r)(he:r.err b≠0):FnA Tryz.prog 53 [.agg r.cells, .bool b] (· = .tup [.agg zR, .int .i64 (r.err b)]):=by
 have e1:=p37 r h
 by_cases ho:r.ok=true
 ·rw[Ru.chk,if_pos ho]at e1
  obtain⟨_,hbs,hm,_,_⟩:=rok_iff.1 ho
  have e2:=p69 r _ hbs hm (hf ho)
  cases b
  ·have:r.err false=1:=by rw[Ru.err,if_pos ho];rfl
   rw[this]
   refine fnA 10 ok53 (by simp) ?_
   (conv=>whnf);(repeat'((first|apply bT|apply bF|apply bN|((first|apply bD|apply bEq|apply bNe)<;>intro hh<;>try(exfalso;omega))|refine e1.cq rfl rfl ?_|refine wJ ?_|refine nJ ?_)<;>conv=>whnf))
   all_goals rfl
  ·have ht:r.trs=[]:=Classical.byContradiction fun hn=>he (err_zero.2 ⟨ho,rfl,hn⟩)
   have:r.err true=3:=by rw[Ru.err,if_pos ho,if_pos rfl,if_pos ht]
   rw[this]
   have hw:¬few r.bs r.ms<=r.w:=fun hh=>(few_iff hbs).1 hh ht
   rw[decide_eq_false hw]at e2
   refine fnA 10 ok53 (by simp) ?_
   (conv=>whnf);(repeat'((first|apply bT|apply bF|apply bN|((first|apply bD|apply bEq|apply bNe)<;>intro hh<;>try(exfalso;omega))|refine e1.cq rfl rfl ?_|refine e2.cq rfl rfl ?_|refine wJ ?_|refine nJ ?_)<;>conv=>whnf))
   all_goals rfl
 ·have e3:r.chk=130:=by rw[Ru.chk,if_neg ho]
  have e4:r.err b=130:=by rw[Ru.err,if_neg ho]
  rw[e3]at e1
  rw[e4]
  refine fnA 10 ok53 (by simp) ?_
  (conv=>whnf);(repeat'((first|apply bT|apply bF|apply bN|((first|apply bD|apply bEq|apply bNe)<;>intro hh<;>try(exfalso;omega))|refine e1.cq rfl rfl ?_|refine wJ ?_|refine nJ ?_)<;>conv=>whnf))
  all_goals rfl
theorem p14(r:Ru)(h:Sm r)(hf:Few r):FnA Tryz.prog 12 [.agg r.cells] (· = .tup [.int .i64 (if r.ok=true then few r.bs r.ms else 0), .int .i64 r.chk]):=by
 have e1:=p37 r h
 unfold Ru.chk at e1⊢
 by_cases ho:r.ok=true
 ·rw[if_pos ho]at e1⊢
  rw[if_pos ho]
  obtain⟨_,hbs,hm,_,_⟩:=rok_iff.1 ho
  have e2:=p38 r _ hbs hm (hf ho)
  refine fnA 3 ok12 (by simp) ?_
  (conv=>whnf);(repeat'((first|apply bT|apply bF|apply bN|((first|apply bD|apply bEq|apply bNe)<;>intro hh<;>try(exfalso;omega))|refine e1.cq rfl rfl ?_|refine e2.cq rfl rfl ?_|refine wJ ?_|refine nJ ?_)<;>conv=>whnf))
  all_goals rfl
 ·rw[if_neg ho]at e1⊢
  rw[if_neg ho]
  refine fnA 3 ok12 (by simp) ?_
  (conv=>whnf);(repeat'((first|apply bT|apply bF|apply bN|((first|apply bD|apply bEq|apply bNe)<;>intro hh<;>try(exfalso;omega))|refine e1.cq rfl rfl ?_|refine wJ ?_|refine nJ ?_)<;>conv=>whnf))
  all_goals rfl
theorem rb{r:Ru}{b:Bool}(hf:Few r)(he:r.err b=0):r.ok=true/\okBs r.d.rs.length r.bs/\r.ms.length<=5/\prd r.bs<=600/\trs r.bs r.ms r.w≠[]:=by
 obtain⟨ho,_,hne⟩:=err_zero.1 he
 obtain⟨_,hbs,hm,_,_⟩:=rok_iff.1 ho
 exact⟨ho,hbs,hm,hf ho,hne⟩
theorem p15(r:Ru)(h:Sm r)(hf:Few r):FnA Tryz.prog 20 [.agg r.cells] (· = .tup [.int .i64 ((r.kn true).length:Nat), .int .i64 (r.err true)]):=by
 by_cases he:r.err true=0
 case neg=>
  have e1:=p39e r true h hf he
  have hk:r.kn true=[]:=by rw[Ru.kn,if_neg he]
  rw[hk]
  generalize r.err true=E at *
  refine fnA 12 ok20 (by simp) ?_
  (conv=>whnf);(repeat'((first|apply bT|apply bF|apply bN|((first|apply bD|apply bEq|apply bNe)<;>intro hh<;>try(exfalso;omega))|refine e1.zq rfl rfl ?_|refine wJ ?_|refine nJ ?_)<;>conv=>whnf))
  all_goals rfl
 have e1:=p39 r true h hf he
 obtain⟨ho,hbs,hm,hfew,hne⟩:=rb hf he
 have hk:r.kn true=r.trs:=by rw[Ru.kn,if_pos he]
 rw[hk,he]
 have e2:=p40_0 r _ 59 (fun _ _=>false) hbs hm hfew (fun k _ x _ _=>v41 k x)
 have hle:=trs_len hf ho
 have htr:r.trs=trs r.bs r.ms r.w:=rfl
 rw[htr]at hle⊢
 refine fnA 12 ok20 (by simp) ?_
 (conv=>whnf);(repeat'((first|apply bT|apply bF|apply bN|((first|apply bD|apply bEq|apply bNe)<;>intro hh<;>try(exfalso;omega))|refine e1.zq rfl rfl ?_|refine wJ ?_|refine nJ ?_)<;>conv=>whnf))
 refine e2.callwq [] rfl rfl trivial rfl rfl rfl rfl (fun r' outs hr=>?_)
 obtain⟨E,hr1,hr2,hR⟩:=hr
 subst hr1;subst hr2
 refine⟨⟨rfl,rfl,rfl,rfl⟩,?_⟩
 (conv=>whnf);(repeat'((first|apply bT|apply bF|apply bN|((first|apply bD|apply bEq|apply bNe)<;>intro hh<;>try(exfalso;omega))|refine MrgE.bn ?_|refine wJ ?_|refine nJ ?_)<;>conv=>whnf))
 intro bn n hb
 conv=>whnf
 have hsum:((List.range E.length).map fun j=>(E.getD j ([],0)).2).sum=((trs r.bs r.ms r.w).length:Nat):=by
  have h1:=hR.sum (fun _=>1)
  rw[<- range_sum E ([],0)]at h1
  simp only[Int.one_mul]at h1
  rw[h1]
  have:∀(l:List (List Int)),(l.map fun _=>(1:Int)).sum=(l.length:Nat):=by
   intro l;induction l with
   |nil=>rfl
   |cons a l ih=>simp only[List.map_cons,List.sum_cons,ih,List.length_cons];omega
  exact this _
 have hval:∀j c v,j<E.length->E.getD j ([],0)=(c,v)->0<v/\v<=600:=fun j c v hj he=>by
  have:=hR.val hj he;omega
 refine loop_i (α :=List Nat × Int) (fun x=>[(19, .row 8),(6, .int .i64 x.2)]) (fun x=>[.fresh, .fresh, .fresh, .fresh, .fresh, .fresh, .fresh, .mpb (kE E) (uE E) bn n, .itd [.row 7] n (mm bn x.1), .fresh, .fresh, .fresh])
  (fun x=>x.1.Nodup/\(∀j∈x.1,j<E.length)/\x.2=(x.1.map fun j=>(E.getD j ([],0)).2).sum/\0<=x.2/\x.2<=600*x.1.length) (fun x=>E.length-x.1.length) ([],0) mI ⟨by simp,by simp,rfl,by simp,by simp⟩ ?_
 rintro⟨s,a⟩ ⟨hs1,hs2,hS,hS2,hS3⟩
 dsimp only at hs1 hs2 hS hS2 hS3⊢
 have hEl:=hR.le
 conv=>whnf
 refine nxD6 hb hR.len (fun j c0 c1 c2 c3 c4 c5 v hj hEj hns=>?_) (fun hall=>?_)
 ·have hjs:=mm_not hns
  have hsl:=met_lt hs1 hs2 hjs hj
  have hv:=hval j _ v hj hEj
  have hS':a+v=((s++[j]).map fun j=>(E.getD j ([],0)).2).sum:=by
   rw[List.map_append,List.sum_append,<- hS,List.map_singleton,List.sum_singleton,hEj]
  (conv=>whnf);(repeat'((first|apply bT|apply bF|apply bN|((first|apply bD|apply bEq|apply bNe)<;>intro hh<;>try(exfalso;omega))|refine enD6 hb hj hEj ?_|refine wJ ?_|refine nJ ?_)<;>conv=>whnf))
  exact⟨(s++[j],a+v),by rw[mm_snoc];exact mI,⟨nd_snoc hs1 hjs,lt_snoc hs2 hj,hS',by dsimp only;omega,by dsimp only;rw[List.length_append,List.length_singleton];omega⟩,by dsimp only;rw[List.length_append,List.length_singleton];omega⟩
 ·have hall2:=mm_all hb hs2 hall
  have hfin:a=((trs r.bs r.ms r.w).length:Nat):=by rw[hS,met_sum _ hs1 hs2 hall2,hsum]
  rw[<- hfin]
  (conv=>whnf);(repeat'((first|apply bT|apply bF|apply bN|((first|apply bD|apply bEq|apply bNe)<;>intro hh<;>try(exfalso;omega))|refine wJ ?_|refine nJ ?_)<;>conv=>whnf))
  all_goals rfl
def qCan(b:Int)(x:Int):Nat->Int->Bool:=fun j y=>decide ((j:Int)=b/\y=x)
theorem p71(j:Nat)(y b x:Int):FnA Tryz.prog 98 [.int .i64 j, .int .i64 y, .ipt [.int .i64 b], .ipt [.int .i64 x]] (· = .bool (qCan b x j y)):=by
 refine fnA 0 ok98 (by simp) ?_
 unfold qCan
 (conv=>whnf);(repeat'((first|apply bT|apply bF|apply bN|((first|apply bD|apply bEq|apply bNe)<;>intro hh<;>try(exfalso;omega))|refine wJ ?_|refine nJ ?_)<;>conv=>whnf))
 all_goals first|rfl|exact congrArg AV.bool (decide_eq_decide.2 (by omega))|exact congrArg AV.bool (decide_eq_true (by omega)).symm|exact congrArg AV.bool (decide_eq_false (by omega)).symm
theorem v71(b x:Int)(j:Nat)(y:Int):FnV Tryz.prog (.fn 98 [.ipt [.int .i64 b], .ipt [.int .i64 x]]) [.int .i64 j, .int .i64 y] (· = .bool (qCan b x j y)):=fnV_of bd98 (p71 j y b x)
def qAbv(L:Int):Nat->Int->Bool:=fun _ y=>decide (L<=y)
theorem p45(j:Nat)(y L:Int):FnA Tryz.prog 63 [.int .i64 j, .int .i64 y, .ipt [.int .i64 L]] (· = .bool (qAbv L j y)):=by
 refine fnA 0 ok63 (by simp) ?_
 unfold qAbv
 (conv=>whnf);(repeat'((first|apply bT|apply bF|apply bN|((first|apply bD|apply bEq|apply bNe)<;>intro hh<;>try(exfalso;omega))|refine wJ ?_|refine nJ ?_)<;>conv=>whnf))
 all_goals first|rfl|exact congrArg AV.bool (decide_eq_decide.2 (by omega))|exact congrArg AV.bool (decide_eq_true (by omega)).symm|exact congrArg AV.bool (decide_eq_false (by omega)).symm
theorem v45(L:Int)(j:Nat)(y:Int):FnV Tryz.prog (.fn 63 [.ipt [.int .i64 L]]) [.int .i64 j, .int .i64 y] (· = .bool (qAbv L j y)):=fnV_of bd63 (p45 j y L)
theorem hQ_abv(L:Int)(f:List Int):hQ (qAbv L) f=(abv f L:Nat):=by
 unfold hQ qAbv abv
 rw[countP_get f 0 (fun y=>decide (L<=y))]
theorem hQ_can{b:Nat}{x:Int}{f:List Int}(hb:b<f.length):hQ (qCan b x) f=if f.getD b 0=x then 1 else 0:=by
 unfold hQ qCan
 have e:(List.range f.length).countP (fun j=>decide (((j:Nat):Int)=(b:Int)/\f.getD j 0=x))=(List.range f.length).countP fun j=>decide (j=b)&&decide (f.getD b 0=x):=by
  refine List.countP_congr fun j _=>?_
  simp only[decide_eq_true_eq,Bool.and_eq_true]
  constructor
  ·rintro⟨h1,h2⟩
   have:j=b:=by omega
   subst this;exact⟨rfl,h2⟩
  ·rintro⟨rfl,h2⟩;exact⟨rfl,h2⟩
 rw[e]
 have hone:(List.range f.length).countP (fun j=>decide (j=b))=1:=by
  have:∀n,(List.range n).countP (fun j=>decide (j=b))=if b<n then 1 else 0:=by
   intro n;induction n with
   |zero=>simp
   |succ n ih=>
    rw[List.range_succ,List.countP_append,ih,List.countP_singleton]
    simp only[decide_eq_true_eq]
    (repeat' split)<;>omega
  rw[this,if_pos hb]
 by_cases h:f.getD b 0=x
 ·rw[if_pos h]
  have:(fun j=>decide (j=b)&&decide (f.getD b 0=x))=fun j=>decide (j=b):=by funext j;rw[decide_eq_true h,Bool.and_true]
  rw[this,hone];rfl
 ·rw[if_neg h]
  have:(fun j=>decide (j=b)&&decide (f.getD b 0=x))=fun _=>false:=by funext j;rw[decide_eq_false h,Bool.and_false]
  rw[this];simp
theorem p17(r:Ru)(L:Int)(h:Sm r)(hf:Few r):FnA Tryz.prog 18 [.agg r.cells, .int .i64 L] (· = .tup [.agg [.int .i64 (rds (r.kn (decide (0<=L/\L<=99))) L).1, .int .i64 (rds (r.kn (decide (0<=L/\L<=99))) L).2], .int .i64 (r.err (decide (0<=L/\L<=99)))]):=by
 have e0:=p43 L
 generalize decide (0<=L/\L<=99)=b at *
 by_cases he:r.err b=0
 case neg=>
  have e1:=p39e r b h hf he
  have hk:r.kn b=[]:=by rw[Ru.kn,if_neg he]
  rw[hk]
  rw[show rds [] L=(0,0) from rfl]
  generalize r.err b=E at *
  refine fnA 12 ok18 (by simp) ?_
  (conv=>whnf);(repeat'((first|apply bT|apply bF|apply bN|((first|apply bD|apply bEq|apply bNe)<;>intro hh<;>try(exfalso;omega))|refine e0.cq rfl rfl ?_|refine e1.zq rfl rfl ?_|refine wJ ?_|refine nJ ?_)<;>conv=>whnf))
  all_goals rfl
 have e1:=p39 r b h hf he
 obtain⟨ho,hbs,hm,hfew,hne⟩:=rb hf he
 have hk:r.kn b=r.trs:=by rw[Ru.kn,if_pos he]
 rw[hk,he]
 have e2:=p44_1 r _ 63 [.int .i64 L] (qAbv L) hbs hm hfew hne (fun k _ x _ _=>v45 L k x)
 have hmap:(trs r.bs r.ms r.w).map (hQ (qAbv L))=(trs r.bs r.ms r.w).map fun f=>((abv f L:Nat):Int):=List.map_congr_left fun f _=>hQ_abv L f
 rw[hmap]at e2
 unfold rds Ru.trs
 generalize spL ((trs r.bs r.ms r.w).map fun f=>((abv f L:Nat):Int))=sp at *
 refine fnA 12 ok18 (by simp) ?_
 (conv=>whnf);(repeat'((first|apply bT|apply bF|apply bN|((first|apply bD|apply bEq|apply bNe)<;>intro hh<;>try(exfalso;omega))|refine e0.cq rfl rfl ?_|refine e1.zq rfl rfl ?_|refine e2.lq rfl rfl ?_|refine wJ ?_|refine nJ ?_)<;>conv=>whnf))
 all_goals rfl
theorem p47(r:Ru)(k:Nat)(x:Int)(hbs:okBs r.d.rs.length r.bs)(hm:r.ms.length<=5)(hfew:prd r.bs<=600)(hne:trs r.bs r.ms r.w≠[])(hk:k<r.bs.length):FnA Tryz.prog 55 [.agg r.cells, .int .i64 k, .int .i64 x] (· = .bool (decide (∃f,f∈trs r.bs r.ms r.w/\f.getD k 0=x))):=by
 have e2:=p44_2 r _ 98 k x (qCan k x) hbs hm hfew hne (fun j _ y _ _=>v71 k x j y)
 have hl:∀f∈trs r.bs r.ms r.w,f.length=r.bs.length:=fun f hf=>isC_len (mem_trs.1 hf).1
 have hiff:0<(spL ((trs r.bs r.ms r.w).map (hQ (qCan k x)))).2<->∃f,f∈trs r.bs r.ms r.w/\f.getD k 0=x:=by
  constructor
  ·intro hp
   obtain⟨_,e⟩:=spL_ex (x:=(trs r.bs r.ms r.w).map (hQ (qCan k x))) (by simpa using hne)
   obtain⟨f,hf,hv⟩:=List.mem_map.1 e
   refine⟨f,hf,?_⟩
   rw[hQ_can (by rw[hl f hf];exact hk)]at hv
   split at hv
   ·assumption
   ·omega
  ·rintro⟨f,hf,hx⟩
   have:=(spL_in (List.mem_map.2 ⟨f,hf,rfl⟩:hQ (qCan k x) f∈(trs r.bs r.ms r.w).map (hQ (qCan k x)))).2
   rw[hQ_can (by rw[hl f hf];exact hk),if_pos hx]at this
   omega
 generalize spL ((trs r.bs r.ms r.w).map (hQ (qCan k x)))=sp at *
 have hd:decide (∃f,f∈trs r.bs r.ms r.w/\f.getD k 0=x)=decide (0<sp.2):=decide_eq_decide.2 hiff.symm
 rw[hd]
 refine fnA 4 ok55 (by simp) ?_
 (conv=>whnf);(repeat'((first|apply bT|apply bF|apply bN|((first|apply bD|apply bEq|apply bNe)<;>intro hh<;>try(exfalso;omega))|refine e2.lq rfl rfl ?_|refine wJ ?_|refine nJ ?_)<;>conv=>whnf))
 all_goals rfl
def qLo(r:Ru):Nat->Int->Bool:=fun j y=>decide (r.sv j y=2)
def qHi(r:Ru):Nat->Int->Bool:=fun j y=>decide (r.sv j y≠1)
theorem p50(r:Ru)(j:Nat)(y:Int)(ho:r.ok=true)(hj:j<r.bs.length)(hy:0<=y/\y<=99):FnA Tryz.prog 66 [.agg r.cells, .int .i64 j, .int .i64 y] (· = .int .i64 (r.sv j y)):=by
 have hB:(r.bs.map Blw.av).length=r.bs.length:=by simp
 have hk:=rok_iff.1 ho
 have sm:=rok_sm ho
 have g1:=gB r.bs j hj
 have hm:r.bs.getD j ⟨0,0,0⟩∈r.bs:=by simp[List.getD_eq_getElem?_getD,hj]
 have hb:=hk.2.1.2 _ hm
 have h8:=hk.2.1.1
 unfold okBlw at hb
 have hg:Gu.ok ⟨y,(r.bs.getD j ⟨0,0,0⟩).a⟩ r.d.rs.length:=by unfold Gu.ok;dsimp only;omega
 have herr:r.d.errC [⟨y,(r.bs.getD j ⟨0,0,0⟩).a⟩]=0:=errC_zero hk.1 (okCl1 hg)
 have e1:=g17 r.d [⟨y,(r.bs.getD j ⟨0,0,0⟩).a⟩] sm.n sm.s herr
 refine fnA 3 ok66 (by simp) ?_
 (conv=>whnf);(repeat'((first|apply bT|apply bF|apply bN|((first|apply bD|apply bEq|apply bNe)<;>intro hh<;>try(exfalso;omega))|refine iaJ g1 ?_|refine e1.lq rfl rfl ?_|refine wJ ?_|refine nJ ?_)<;>conv=>whnf))
 all_goals rfl
theorem p49(r:Ru)(j:Nat)(y:Int)(ho:r.ok=true)(hj:j<r.bs.length)(hy:0<=y/\y<=99):FnA Tryz.prog 65 [.int .i64 j, .int .i64 y, .ipt r.cells] (· = .bool (qLo r j y)):=by
 have e1:=p50 r j y ho hj hy
 refine fnA 1 ok65 (by simp) ?_
 unfold qLo
 (conv=>whnf);(repeat'((first|apply bT|apply bF|apply bN|((first|apply bD|apply bEq|apply bNe)<;>intro hh<;>try(exfalso;omega))|refine e1.cq rfl rfl ?_|refine wJ ?_|refine nJ ?_)<;>conv=>whnf))
 all_goals rfl
theorem p51(r:Ru)(j:Nat)(y:Int)(ho:r.ok=true)(hj:j<r.bs.length)(hy:0<=y/\y<=99):FnA Tryz.prog 67 [.int .i64 j, .int .i64 y, .ipt r.cells] (· = .bool (qHi r j y)):=by
 have e1:=p50 r j y ho hj hy
 refine fnA 1 ok67 (by simp) ?_
 unfold qHi
 (conv=>whnf);(repeat'((first|apply bT|apply bF|apply bN|((first|apply bD|apply bEq|apply bNe)<;>intro hh<;>try(exfalso;omega))|refine e1.cq rfl rfl ?_|refine wJ ?_|refine nJ ?_)<;>conv=>whnf))
 all_goals (by_cases hh:r.sv j y=1<;>simp[hh])
theorem p22(r:Ru)(h:Sm r)(hf:Few r):FnA Tryz.prog 26 [.agg r.cells] (· = spS (r.hrm (r.kn true)) (r.err true)):=by
 by_cases he:r.err true=0
 case neg=>
  have e1:=p39e r true h hf he
  have hk:r.kn true=[]:=by rw[Ru.kn,if_neg he]
  rw[hk]
  rw[show r.hrm []=(0,0) from rfl]
  unfold spS
  generalize r.err true=E at *
  refine fnA 12 ok26 (by simp) ?_
  (conv=>whnf);(repeat'((first|apply bT|apply bF|apply bN|((first|apply bD|apply bEq|apply bNe)<;>intro hh<;>try(exfalso;omega))|refine e1.zq rfl rfl ?_|refine wJ ?_|refine nJ ?_)<;>conv=>whnf))
  all_goals rfl
 have e1:=p39 r true h hf he
 obtain⟨ho,hbs,hm,hfew,hne⟩:=rb hf he
 have hk:r.kn true=r.trs:=by rw[Ru.kn,if_pos he]
 rw[hk,he]
 have e2:=p44_1 r _ 65 r.cells (qLo r) hbs hm hfew hne (fun k hk x h0 h1=>fnV_of bd65 (p49 r k x ho hk ⟨h0,h1⟩))
 have e3:=p44_1 r _ 67 r.cells (qHi r) hbs hm hfew hne (fun k hk x h0 h1=>fnV_of bd67 (p51 r k x ho hk ⟨h0,h1⟩))
 have hl:∀f∈trs r.bs r.ms r.w,f.length=r.bs.length:=fun f hf=>isC_len (mem_trs.1 hf).1
 have m1:(trs r.bs r.ms r.w).map (hQ (qLo r))=r.loL r.trs:=List.map_congr_left fun f hf=>by
  unfold hQ qLo Ru.loN;rw[hl f hf]
 have m2:(trs r.bs r.ms r.w).map (hQ (qHi r))=r.hiL r.trs:=List.map_congr_left fun f hf=>by
  unfold hQ qHi Ru.hiN;rw[hl f hf]
 rw[m1]at e2
 rw[m2]at e3
 unfold spS Ru.hrm
 generalize spL (r.loL r.trs)=s1 at *
 generalize spL (r.hiL r.trs)=s2 at *
 refine fnA 14 ok26 (by simp) ?_
 (conv=>whnf);(repeat'((first|apply bT|apply bF|apply bN|((first|apply bD|apply bEq|apply bNe)<;>intro hh<;>try(exfalso;omega))|refine e1.zq rfl rfl ?_|refine e2.lq rfl rfl ?_|refine e3.lq rfl rfl ?_|refine wJ ?_|refine nJ ?_)<;>conv=>whnf))
 all_goals rfl
theorem p21(r:Ru)(h:Sm r)(hf:Few r):FnA Tryz.prog 24 [.agg r.cells] (· = .tup [.int .i64 (if r.err true=0 then r.std else 0), .int .i64 (r.err true)]):=by
 have e1:=p22 r h hf
 unfold spS at e1
 by_cases he:r.err true=0
 case neg=>
  rw[if_neg he]
  generalize r.hrm (r.kn true)=s at *
  generalize r.err true=E at *
  refine fnA 3 ok24 (by simp) ?_
  (conv=>whnf);(repeat'((first|apply bT|apply bF|apply bN|((first|apply bD|apply bEq|apply bNe)<;>intro hh<;>try(exfalso;omega))|refine e1.cq rfl rfl ?_|refine wJ ?_|refine nJ ?_)<;>conv=>whnf))
  all_goals rfl
 have hk:r.kn true=r.trs:=by rw[Ru.kn,if_pos he]
 rw[if_pos he]
 rw[hk,he]at e1
 rw[he]
 unfold Ru.std
 generalize r.hrm r.trs=s at *
 by_cases h1:s.2=0
 ·rw[if_pos h1]
  refine fnA 3 ok24 (by simp) ?_
  (conv=>whnf);(repeat'((first|apply bT|apply bF|apply bN|((first|apply bD|apply bEq|apply bNe)<;>intro hh<;>try(exfalso;omega))|refine e1.cq rfl rfl ?_|refine wJ ?_|refine nJ ?_)<;>conv=>whnf))
  all_goals rfl
 ·rw[if_neg h1]
  by_cases h2:0<s.1
  ·rw[if_pos h2]
   refine fnA 3 ok24 (by simp) ?_
   (conv=>whnf);(repeat'((first|apply bT|apply bF|apply bN|((first|apply bD|apply bEq|apply bNe)<;>intro hh<;>try(exfalso;omega))|refine e1.cq rfl rfl ?_|refine wJ ?_|refine nJ ?_)<;>conv=>whnf))
   all_goals rfl
  ·rw[if_neg h2]
   refine fnA 3 ok24 (by simp) ?_
   (conv=>whnf);(repeat'((first|apply bT|apply bF|apply bN|((first|apply bD|apply bEq|apply bNe)<;>intro hh<;>try(exfalso;omega))|refine e1.cq rfl rfl ?_|refine wJ ?_|refine nJ ?_)<;>conv=>whnf))
   all_goals rfl
theorem err_b{r:Ru}{b:Bool}(he:r.err b=0):b=true:=(err_zero.1 he).2.1
theorem p16(r:Ru)(q:Int)(h:Sm r)(hf:Few r):FnA Tryz.prog 16 [.agg r.cells, .int .i64 q] (· = .tup [.int .i64 (if r.err (decide (0<=q/\q<=(r.ms.length:Int)-1))=0 then rgtC r.trs (r.ms.getD q.toNat ⟨0,0⟩) else 0), .int .i64 (r.err (decide (0<=q/\q<=(r.ms.length:Int)-1)))]):=by
 have e0:=p42 r q h
 by_cases he:r.err (decide (0<=q/\q<=(r.ms.length:Int)-1))=0
 case neg=>
  rw[if_neg he]
  generalize decide (0<=q/\q<=(r.ms.length:Int)-1)=b at *
  have e1:=p39e r b h hf he
  generalize r.err b=E at *
  refine fnA 14 ok16 (by simp) ?_
  (conv=>whnf);(repeat'((first|apply bT|apply bF|apply bN|((first|apply bD|apply bEq|apply bNe)<;>intro hh<;>try(exfalso;omega))|refine e0.cq rfl rfl ?_|refine e1.zq rfl rfl ?_|refine wJ ?_|refine nJ ?_)<;>conv=>whnf))
  all_goals rfl
 rw[if_pos he]
 have hb:=err_b he
 rw[hb]at e0 he⊢
 have hq:=of_decide_eq_true hb
 rw[he]
 obtain⟨k,rfl⟩:∃k:Nat,q=(k:Int):=⟨q.toNat,by omega⟩
 have e1:=p39 r true h hf he
 obtain⟨ho,hbs,hm,hfew,hne⟩:=rb hf he
 have e2:=p40_0 r _ 59 (fun _ _=>false) hbs hm hfew (fun k _ x _ _=>v41 k x)
 have hk:k<r.ms.length:=by omega
 rw[show((k:Nat):Int).toNat=k from Int.toNat_natCast k]
 have hM:(r.ms.map Met.av).length=r.ms.length:=by simp
 have g1:=gM r.ms k hk
 have hval:∀f∈trs r.bs r.ms r.w,(decide ((TL r.ms (fun _ _=>false) f).getD k 0=(r.ms.getD k ⟨0,0⟩).c))=rgtM (r.ms.getD k ⟨0,0⟩) f:=fun f _=>by
  rw[abv_tl hm hk];rfl
 refine fnA 14 ok16 (by simp) ?_
 (conv=>whnf);(repeat'((first|apply bT|apply bF|apply bN|((first|apply bD|apply bEq|apply bNe)<;>intro hh<;>try(exfalso;omega))|refine e0.cq rfl rfl ?_|refine e1.zq rfl rfl ?_|refine wJ ?_|refine nJ ?_)<;>conv=>whnf))
 refine e2.callwq [] rfl rfl trivial rfl rfl rfl rfl (fun r' outs hr=>?_)
 obtain⟨E,hr1,hr2,hR⟩:=hr
 subst hr1;subst hr2
 refine⟨⟨rfl,rfl,rfl,rfl⟩,?_⟩
 have hkey:=fun y=>hR.keys (fun t=>if t.getD k 0=(r.ms.getD k ⟨0,0⟩).c then 1 else 0) y
 have hEn:=hR.ne hne
 have hfin:∀(R W:Bool),(R=true<->∃j,j<E.length/\(E.getD j ([],0)).1.getD k 0=(r.ms.getD k ⟨0,0⟩).c)->(W=true<->∃j,j<E.length/\¬(E.getD j ([],0)).1.getD k 0=(r.ms.getD k ⟨0,0⟩).c)->rgtC r.trs (r.ms.getD k ⟨0,0⟩)=if W=false then 1 else if R=false then 2 else 3:=fun R W hRt hWt=>by
  have h1:R=true<->∃f∈trs r.bs r.ms r.w,rgtM (r.ms.getD k ⟨0,0⟩) f=true:=by
   rw[hRt]
   have:=hkey 1
   constructor
   ·rintro⟨j,hj,hv⟩
    obtain⟨f,hf,hv2⟩:=this.2 ⟨j,hj,by rw[if_pos hv]⟩
    refine⟨f,hf,?_⟩
    rw[<- hval f hf,decide_eq_true_eq]
    split at hv2
    ·assumption
    ·omega
   ·rintro⟨f,hf,hv⟩
    rw[<- hval f hf,decide_eq_true_eq]at hv
    obtain⟨j,hj,hv2⟩:=this.1 ⟨f,hf,by rw[if_pos hv]⟩
    refine⟨j,hj,?_⟩
    split at hv2
    ·assumption
    ·omega
  have h2:W=true<->∃f∈trs r.bs r.ms r.w,¬rgtM (r.ms.getD k ⟨0,0⟩) f=true:=by
   rw[hWt]
   have:=hkey 0
   constructor
   ·rintro⟨j,hj,hv⟩
    obtain⟨f,hf,hv2⟩:=this.2 ⟨j,hj,by rw[if_neg hv]⟩
    refine⟨f,hf,?_⟩
    rw[<- hval f hf,decide_eq_true_eq]
    split at hv2
    ·omega
    ·assumption
   ·rintro⟨f,hf,hv⟩
    rw[<- hval f hf,decide_eq_true_eq]at hv
    obtain⟨j,hj,hv2⟩:=this.1 ⟨f,hf,by rw[if_neg hv]⟩
    refine⟨j,hj,?_⟩
    split at hv2
    ·omega
    ·assumption
  have htr:r.trs=trs r.bs r.ms r.w:=rfl
  have hlen:0<r.trs.length:=List.length_pos_iff.2 hne
  unfold rgtC knwC
  cases hW:W with
  |false=>
   rw[hW]at h2
   have:r.trs.countP (rgtM (r.ms.getD k ⟨0,0⟩))=r.trs.length:=by
    rw[List.countP_eq_length]
    intro f hf
    exact Classical.byContradiction fun hn=>absurd (h2.2 ⟨f,hf,hn⟩) (by simp)
   simp only[if_pos this];simp
  |true=>
   obtain⟨f,hf,hn⟩:=h2.1 hW
   have n1:¬r.trs.countP (rgtM (r.ms.getD k ⟨0,0⟩))=r.trs.length:=fun e=>hn (List.countP_eq_length.1 e f hf)
   cases hRv:R with
   |false=>
    rw[hRv]at h1
    have:r.trs.countP (rgtM (r.ms.getD k ⟨0,0⟩))=0:=by
     rw[List.countP_eq_zero]
     intro f hf hh
     exact absurd (h1.2 ⟨f,hf,hh⟩) (by simp)
    simp only[if_neg n1,if_pos this];simp
   |true=>
    obtain⟨f,hf,hh⟩:=h1.1 hRv
    have:¬r.trs.countP (rgtM (r.ms.getD k ⟨0,0⟩))=0:=fun e=>List.countP_eq_zero.1 e f hf hh
    simp only[if_neg n1,if_neg this];simp
 clear hkey hval
 generalize rgtC r.trs (r.ms.getD k ⟨0,0⟩)=res at *
 (conv=>whnf);(repeat'((first|apply bT|apply bF|apply bN|((first|apply bD|apply bEq|apply bNe)<;>intro hh<;>try(exfalso;omega))|refine MrgE.bn ?_|refine wJ ?_|refine nJ ?_)<;>conv=>whnf))
 intro bn n hbn
 conv=>whnf
 refine loop_i (α :=List Nat × Bool × Bool) (fun x=>[(25, .row 8),(9, .bool x.2.2),(8, .bool x.2.1),(6, .own 6 0),(1, .int .i64 (k:Nat))]) (fun x=>[.fresh, .fresh, .fresh, .fresh, .fresh, .fresh, .box false r.cells, .mpb (kE E) (uE E) bn n, .itd [.row 7] n (mm bn x.1), .fresh, .fresh, .fresh, .fresh, .fresh])
  (fun x=>x.1.Nodup/\(∀j∈x.1,j<E.length)/\(x.2.1=true<->∃j,j∈x.1/\(E.getD j ([],0)).1.getD k 0=(r.ms.getD k ⟨0,0⟩).c)/\(x.2.2=true<->∃j,j∈x.1/\¬(E.getD j ([],0)).1.getD k 0=(r.ms.getD k ⟨0,0⟩).c)) (fun x=>E.length-x.1.length) ([],false,false) mI ⟨by simp,by simp,by simp,by simp⟩ ?_
 rintro⟨s,R,W⟩ ⟨hs1,hs2,hS1,hS2⟩
 dsimp only at hs1 hs2 hS1 hS2⊢
 conv=>whnf
 refine nxD6 hbn hR.len (fun j c0 c1 c2 c3 c4 c5 v hj hEj hns=>?_) (fun hall=>?_)
 ·have hjs:=mm_not hns
  have hsl:=met_lt hs1 hs2 hjs hj
  have hin:∀(P:Nat->Prop),(∃i,i∈s++[j]/\P i)<->(∃i,i∈s/\P i)\/P j:=fun P=>by
   constructor
   ·rintro⟨i,hi,hp⟩
    rcases List.mem_append.1 hi with hi|hi
    ·exact .inl ⟨i,hi,hp⟩
    ·simp only[List.mem_singleton]at hi;subst hi;exact .inr hp
   ·rintro(⟨i,hi,hp⟩|hp)
    ·exact⟨i,List.mem_append_left _ hi,hp⟩
    ·exact⟨j,by simp,hp⟩
  have step:∀(u:Int),(E.getD j ([],0)).1.getD k 0=u->(((R||decide (u=(r.ms.getD k ⟨0,0⟩).c))=true<->∃i,i∈s++[j]/\(E.getD i ([],0)).1.getD k 0=(r.ms.getD k ⟨0,0⟩).c)/\((W || !decide (u=(r.ms.getD k ⟨0,0⟩).c))=true<->∃i,i∈s++[j]/\¬(E.getD i ([],0)).1.getD k 0=(r.ms.getD k ⟨0,0⟩).c)):=fun u hu=>by
   rw[hin,hin,<- hS1,<- hS2,hu]
   cases R<;>cases W<;>simp
  have hfk:k=0\/k=1\/k=2\/k=3\/k=4:=by omega
  clear hfin e0 e1 e2
  rcases hfk with hk0|hk1|hk2|hk3|hk4
  ·have hki:k=0:=hk0
   have st:=step c0 (by rw[hEj];first|rfl|(subst hki;rfl))
   clear step
   by_cases hv:c0=(r.ms.getD k ⟨0,0⟩).c
   ·rw[decide_eq_true hv]at st
    subst hki
    have hbq:(c0==(r.ms.getD 0 ⟨0,0⟩).c)=true:=by simpa using hv
    cases R with
    |false=>
     cases W with
     |false=>
      (conv=>whnf);(repeat'((first|apply bT|apply bF|apply bN|((first|apply bD|apply bEq|apply bNe)<;>intro hh<;>try(exfalso;omega))|refine enD6 hbn hj hEj ?_|refine iaJ g1 ?_|refine wJ ?_|refine nJ ?_)<;>conv=>whnf))
      exact⟨(s++[j],true,false),by rw[mm_snoc];(try simp only[hbq,Bool.not_true,Bool.not_false]);exact mI,⟨nd_snoc hs1 hjs,lt_snoc hs2 hj,st.1,st.2⟩,by dsimp only;rw[List.length_append,List.length_singleton];omega⟩
     |true=>
      (conv=>whnf);(repeat'((first|apply bT|apply bF|apply bN|((first|apply bD|apply bEq|apply bNe)<;>intro hh<;>try(exfalso;omega))|refine enD6 hbn hj hEj ?_|refine iaJ g1 ?_|refine wJ ?_|refine nJ ?_)<;>conv=>whnf))
      exact⟨(s++[j],true,true),by rw[mm_snoc];(try simp only[hbq,Bool.not_true,Bool.not_false]);exact mI,⟨nd_snoc hs1 hjs,lt_snoc hs2 hj,st.1,st.2⟩,by dsimp only;rw[List.length_append,List.length_singleton];omega⟩
    |true=>
     cases W with
     |false=>
      (conv=>whnf);(repeat'((first|apply bT|apply bF|apply bN|((first|apply bD|apply bEq|apply bNe)<;>intro hh<;>try(exfalso;omega))|refine enD6 hbn hj hEj ?_|refine iaJ g1 ?_|refine wJ ?_|refine nJ ?_)<;>conv=>whnf))
      exact⟨(s++[j],true,false),by rw[mm_snoc];(try simp only[hbq,Bool.not_true,Bool.not_false]);exact mI,⟨nd_snoc hs1 hjs,lt_snoc hs2 hj,st.1,st.2⟩,by dsimp only;rw[List.length_append,List.length_singleton];omega⟩
     |true=>
      (conv=>whnf);(repeat'((first|apply bT|apply bF|apply bN|((first|apply bD|apply bEq|apply bNe)<;>intro hh<;>try(exfalso;omega))|refine enD6 hbn hj hEj ?_|refine iaJ g1 ?_|refine wJ ?_|refine nJ ?_)<;>conv=>whnf))
      exact⟨(s++[j],true,true),by rw[mm_snoc];(try simp only[hbq,Bool.not_true,Bool.not_false]);exact mI,⟨nd_snoc hs1 hjs,lt_snoc hs2 hj,st.1,st.2⟩,by dsimp only;rw[List.length_append,List.length_singleton];omega⟩
   ·rw[decide_eq_false hv]at st
    subst hki
    have hbq:(c0==(r.ms.getD 0 ⟨0,0⟩).c)=false:=by simpa using hv
    cases R with
    |false=>
     cases W with
     |false=>
      (conv=>whnf);(repeat'((first|apply bT|apply bF|apply bN|((first|apply bD|apply bEq|apply bNe)<;>intro hh<;>try(exfalso;omega))|refine enD6 hbn hj hEj ?_|refine iaJ g1 ?_|refine wJ ?_|refine nJ ?_)<;>conv=>whnf))
      exact⟨(s++[j],false,true),by rw[mm_snoc];(try simp only[hbq,Bool.not_true,Bool.not_false]);exact mI,⟨nd_snoc hs1 hjs,lt_snoc hs2 hj,st.1,st.2⟩,by dsimp only;rw[List.length_append,List.length_singleton];omega⟩
     |true=>
      (conv=>whnf);(repeat'((first|apply bT|apply bF|apply bN|((first|apply bD|apply bEq|apply bNe)<;>intro hh<;>try(exfalso;omega))|refine enD6 hbn hj hEj ?_|refine iaJ g1 ?_|refine wJ ?_|refine nJ ?_)<;>conv=>whnf))
      exact⟨(s++[j],false,true),by rw[mm_snoc];(try simp only[hbq,Bool.not_true,Bool.not_false]);exact mI,⟨nd_snoc hs1 hjs,lt_snoc hs2 hj,st.1,st.2⟩,by dsimp only;rw[List.length_append,List.length_singleton];omega⟩
    |true=>
     cases W with
     |false=>
      (conv=>whnf);(repeat'((first|apply bT|apply bF|apply bN|((first|apply bD|apply bEq|apply bNe)<;>intro hh<;>try(exfalso;omega))|refine enD6 hbn hj hEj ?_|refine iaJ g1 ?_|refine wJ ?_|refine nJ ?_)<;>conv=>whnf))
      exact⟨(s++[j],true,true),by rw[mm_snoc];(try simp only[hbq,Bool.not_true,Bool.not_false]);exact mI,⟨nd_snoc hs1 hjs,lt_snoc hs2 hj,st.1,st.2⟩,by dsimp only;rw[List.length_append,List.length_singleton];omega⟩
     |true=>
      (conv=>whnf);(repeat'((first|apply bT|apply bF|apply bN|((first|apply bD|apply bEq|apply bNe)<;>intro hh<;>try(exfalso;omega))|refine enD6 hbn hj hEj ?_|refine iaJ g1 ?_|refine wJ ?_|refine nJ ?_)<;>conv=>whnf))
      exact⟨(s++[j],true,true),by rw[mm_snoc];(try simp only[hbq,Bool.not_true,Bool.not_false]);exact mI,⟨nd_snoc hs1 hjs,lt_snoc hs2 hj,st.1,st.2⟩,by dsimp only;rw[List.length_append,List.length_singleton];omega⟩
  ·have hki:k=1:=hk1
   have st:=step c1 (by rw[hEj];first|rfl|(subst hki;rfl))
   clear step
   by_cases hv:c1=(r.ms.getD k ⟨0,0⟩).c
   ·rw[decide_eq_true hv]at st
    subst hki
    have hbq:(c1==(r.ms.getD 1 ⟨0,0⟩).c)=true:=by simpa using hv
    cases R with
    |false=>
     cases W with
     |false=>
      (conv=>whnf);(repeat'((first|apply bT|apply bF|apply bN|((first|apply bD|apply bEq|apply bNe)<;>intro hh<;>try(exfalso;omega))|refine enD6 hbn hj hEj ?_|refine iaJ g1 ?_|refine wJ ?_|refine nJ ?_)<;>conv=>whnf))
      exact⟨(s++[j],true,false),by rw[mm_snoc];(try simp only[hbq,Bool.not_true,Bool.not_false]);exact mI,⟨nd_snoc hs1 hjs,lt_snoc hs2 hj,st.1,st.2⟩,by dsimp only;rw[List.length_append,List.length_singleton];omega⟩
     |true=>
      (conv=>whnf);(repeat'((first|apply bT|apply bF|apply bN|((first|apply bD|apply bEq|apply bNe)<;>intro hh<;>try(exfalso;omega))|refine enD6 hbn hj hEj ?_|refine iaJ g1 ?_|refine wJ ?_|refine nJ ?_)<;>conv=>whnf))
      exact⟨(s++[j],true,true),by rw[mm_snoc];(try simp only[hbq,Bool.not_true,Bool.not_false]);exact mI,⟨nd_snoc hs1 hjs,lt_snoc hs2 hj,st.1,st.2⟩,by dsimp only;rw[List.length_append,List.length_singleton];omega⟩
    |true=>
     cases W with
     |false=>
      (conv=>whnf);(repeat'((first|apply bT|apply bF|apply bN|((first|apply bD|apply bEq|apply bNe)<;>intro hh<;>try(exfalso;omega))|refine enD6 hbn hj hEj ?_|refine iaJ g1 ?_|refine wJ ?_|refine nJ ?_)<;>conv=>whnf))
      exact⟨(s++[j],true,false),by rw[mm_snoc];(try simp only[hbq,Bool.not_true,Bool.not_false]);exact mI,⟨nd_snoc hs1 hjs,lt_snoc hs2 hj,st.1,st.2⟩,by dsimp only;rw[List.length_append,List.length_singleton];omega⟩
     |true=>
      (conv=>whnf);(repeat'((first|apply bT|apply bF|apply bN|((first|apply bD|apply bEq|apply bNe)<;>intro hh<;>try(exfalso;omega))|refine enD6 hbn hj hEj ?_|refine iaJ g1 ?_|refine wJ ?_|refine nJ ?_)<;>conv=>whnf))
      exact⟨(s++[j],true,true),by rw[mm_snoc];(try simp only[hbq,Bool.not_true,Bool.not_false]);exact mI,⟨nd_snoc hs1 hjs,lt_snoc hs2 hj,st.1,st.2⟩,by dsimp only;rw[List.length_append,List.length_singleton];omega⟩
   ·rw[decide_eq_false hv]at st
    subst hki
    have hbq:(c1==(r.ms.getD 1 ⟨0,0⟩).c)=false:=by simpa using hv
    cases R with
    |false=>
     cases W with
     |false=>
      (conv=>whnf);(repeat'((first|apply bT|apply bF|apply bN|((first|apply bD|apply bEq|apply bNe)<;>intro hh<;>try(exfalso;omega))|refine enD6 hbn hj hEj ?_|refine iaJ g1 ?_|refine wJ ?_|refine nJ ?_)<;>conv=>whnf))
      exact⟨(s++[j],false,true),by rw[mm_snoc];(try simp only[hbq,Bool.not_true,Bool.not_false]);exact mI,⟨nd_snoc hs1 hjs,lt_snoc hs2 hj,st.1,st.2⟩,by dsimp only;rw[List.length_append,List.length_singleton];omega⟩
     |true=>
      (conv=>whnf);(repeat'((first|apply bT|apply bF|apply bN|((first|apply bD|apply bEq|apply bNe)<;>intro hh<;>try(exfalso;omega))|refine enD6 hbn hj hEj ?_|refine iaJ g1 ?_|refine wJ ?_|refine nJ ?_)<;>conv=>whnf))
      exact⟨(s++[j],false,true),by rw[mm_snoc];(try simp only[hbq,Bool.not_true,Bool.not_false]);exact mI,⟨nd_snoc hs1 hjs,lt_snoc hs2 hj,st.1,st.2⟩,by dsimp only;rw[List.length_append,List.length_singleton];omega⟩
    |true=>
     cases W with
     |false=>
      (conv=>whnf);(repeat'((first|apply bT|apply bF|apply bN|((first|apply bD|apply bEq|apply bNe)<;>intro hh<;>try(exfalso;omega))|refine enD6 hbn hj hEj ?_|refine iaJ g1 ?_|refine wJ ?_|refine nJ ?_)<;>conv=>whnf))
      exact⟨(s++[j],true,true),by rw[mm_snoc];(try simp only[hbq,Bool.not_true,Bool.not_false]);exact mI,⟨nd_snoc hs1 hjs,lt_snoc hs2 hj,st.1,st.2⟩,by dsimp only;rw[List.length_append,List.length_singleton];omega⟩
     |true=>
      (conv=>whnf);(repeat'((first|apply bT|apply bF|apply bN|((first|apply bD|apply bEq|apply bNe)<;>intro hh<;>try(exfalso;omega))|refine enD6 hbn hj hEj ?_|refine iaJ g1 ?_|refine wJ ?_|refine nJ ?_)<;>conv=>whnf))
      exact⟨(s++[j],true,true),by rw[mm_snoc];(try simp only[hbq,Bool.not_true,Bool.not_false]);exact mI,⟨nd_snoc hs1 hjs,lt_snoc hs2 hj,st.1,st.2⟩,by dsimp only;rw[List.length_append,List.length_singleton];omega⟩
  ·have hki:k=2:=hk2
   have st:=step c2 (by rw[hEj];first|rfl|(subst hki;rfl))
   clear step
   by_cases hv:c2=(r.ms.getD k ⟨0,0⟩).c
   ·rw[decide_eq_true hv]at st
    subst hki
    have hbq:(c2==(r.ms.getD 2 ⟨0,0⟩).c)=true:=by simpa using hv
    cases R with
    |false=>
     cases W with
     |false=>
      (conv=>whnf);(repeat'((first|apply bT|apply bF|apply bN|((first|apply bD|apply bEq|apply bNe)<;>intro hh<;>try(exfalso;omega))|refine enD6 hbn hj hEj ?_|refine iaJ g1 ?_|refine wJ ?_|refine nJ ?_)<;>conv=>whnf))
      exact⟨(s++[j],true,false),by rw[mm_snoc];(try simp only[hbq,Bool.not_true,Bool.not_false]);exact mI,⟨nd_snoc hs1 hjs,lt_snoc hs2 hj,st.1,st.2⟩,by dsimp only;rw[List.length_append,List.length_singleton];omega⟩
     |true=>
      (conv=>whnf);(repeat'((first|apply bT|apply bF|apply bN|((first|apply bD|apply bEq|apply bNe)<;>intro hh<;>try(exfalso;omega))|refine enD6 hbn hj hEj ?_|refine iaJ g1 ?_|refine wJ ?_|refine nJ ?_)<;>conv=>whnf))
      exact⟨(s++[j],true,true),by rw[mm_snoc];(try simp only[hbq,Bool.not_true,Bool.not_false]);exact mI,⟨nd_snoc hs1 hjs,lt_snoc hs2 hj,st.1,st.2⟩,by dsimp only;rw[List.length_append,List.length_singleton];omega⟩
    |true=>
     cases W with
     |false=>
      (conv=>whnf);(repeat'((first|apply bT|apply bF|apply bN|((first|apply bD|apply bEq|apply bNe)<;>intro hh<;>try(exfalso;omega))|refine enD6 hbn hj hEj ?_|refine iaJ g1 ?_|refine wJ ?_|refine nJ ?_)<;>conv=>whnf))
      exact⟨(s++[j],true,false),by rw[mm_snoc];(try simp only[hbq,Bool.not_true,Bool.not_false]);exact mI,⟨nd_snoc hs1 hjs,lt_snoc hs2 hj,st.1,st.2⟩,by dsimp only;rw[List.length_append,List.length_singleton];omega⟩
     |true=>
      (conv=>whnf);(repeat'((first|apply bT|apply bF|apply bN|((first|apply bD|apply bEq|apply bNe)<;>intro hh<;>try(exfalso;omega))|refine enD6 hbn hj hEj ?_|refine iaJ g1 ?_|refine wJ ?_|refine nJ ?_)<;>conv=>whnf))
      exact⟨(s++[j],true,true),by rw[mm_snoc];(try simp only[hbq,Bool.not_true,Bool.not_false]);exact mI,⟨nd_snoc hs1 hjs,lt_snoc hs2 hj,st.1,st.2⟩,by dsimp only;rw[List.length_append,List.length_singleton];omega⟩
   ·rw[decide_eq_false hv]at st
    subst hki
    have hbq:(c2==(r.ms.getD 2 ⟨0,0⟩).c)=false:=by simpa using hv
    cases R with
    |false=>
     cases W with
     |false=>
      (conv=>whnf);(repeat'((first|apply bT|apply bF|apply bN|((first|apply bD|apply bEq|apply bNe)<;>intro hh<;>try(exfalso;omega))|refine enD6 hbn hj hEj ?_|refine iaJ g1 ?_|refine wJ ?_|refine nJ ?_)<;>conv=>whnf))
      exact⟨(s++[j],false,true),by rw[mm_snoc];(try simp only[hbq,Bool.not_true,Bool.not_false]);exact mI,⟨nd_snoc hs1 hjs,lt_snoc hs2 hj,st.1,st.2⟩,by dsimp only;rw[List.length_append,List.length_singleton];omega⟩
     |true=>
      (conv=>whnf);(repeat'((first|apply bT|apply bF|apply bN|((first|apply bD|apply bEq|apply bNe)<;>intro hh<;>try(exfalso;omega))|refine enD6 hbn hj hEj ?_|refine iaJ g1 ?_|refine wJ ?_|refine nJ ?_)<;>conv=>whnf))
      exact⟨(s++[j],false,true),by rw[mm_snoc];(try simp only[hbq,Bool.not_true,Bool.not_false]);exact mI,⟨nd_snoc hs1 hjs,lt_snoc hs2 hj,st.1,st.2⟩,by dsimp only;rw[List.length_append,List.length_singleton];omega⟩
    |true=>
     cases W with
     |false=>
      (conv=>whnf);(repeat'((first|apply bT|apply bF|apply bN|((first|apply bD|apply bEq|apply bNe)<;>intro hh<;>try(exfalso;omega))|refine enD6 hbn hj hEj ?_|refine iaJ g1 ?_|refine wJ ?_|refine nJ ?_)<;>conv=>whnf))
      exact⟨(s++[j],true,true),by rw[mm_snoc];(try simp only[hbq,Bool.not_true,Bool.not_false]);exact mI,⟨nd_snoc hs1 hjs,lt_snoc hs2 hj,st.1,st.2⟩,by dsimp only;rw[List.length_append,List.length_singleton];omega⟩
     |true=>
      (conv=>whnf);(repeat'((first|apply bT|apply bF|apply bN|((first|apply bD|apply bEq|apply bNe)<;>intro hh<;>try(exfalso;omega))|refine enD6 hbn hj hEj ?_|refine iaJ g1 ?_|refine wJ ?_|refine nJ ?_)<;>conv=>whnf))
      exact⟨(s++[j],true,true),by rw[mm_snoc];(try simp only[hbq,Bool.not_true,Bool.not_false]);exact mI,⟨nd_snoc hs1 hjs,lt_snoc hs2 hj,st.1,st.2⟩,by dsimp only;rw[List.length_append,List.length_singleton];omega⟩
  ·have hki:k=3:=hk3
   have st:=step c3 (by rw[hEj];first|rfl|(subst hki;rfl))
   clear step
   by_cases hv:c3=(r.ms.getD k ⟨0,0⟩).c
   ·rw[decide_eq_true hv]at st
    subst hki
    have hbq:(c3==(r.ms.getD 3 ⟨0,0⟩).c)=true:=by simpa using hv
    cases R with
    |false=>
     cases W with
     |false=>
      (conv=>whnf);(repeat'((first|apply bT|apply bF|apply bN|((first|apply bD|apply bEq|apply bNe)<;>intro hh<;>try(exfalso;omega))|refine enD6 hbn hj hEj ?_|refine iaJ g1 ?_|refine wJ ?_|refine nJ ?_)<;>conv=>whnf))
      exact⟨(s++[j],true,false),by rw[mm_snoc];(try simp only[hbq,Bool.not_true,Bool.not_false]);exact mI,⟨nd_snoc hs1 hjs,lt_snoc hs2 hj,st.1,st.2⟩,by dsimp only;rw[List.length_append,List.length_singleton];omega⟩
     |true=>
      (conv=>whnf);(repeat'((first|apply bT|apply bF|apply bN|((first|apply bD|apply bEq|apply bNe)<;>intro hh<;>try(exfalso;omega))|refine enD6 hbn hj hEj ?_|refine iaJ g1 ?_|refine wJ ?_|refine nJ ?_)<;>conv=>whnf))
      exact⟨(s++[j],true,true),by rw[mm_snoc];(try simp only[hbq,Bool.not_true,Bool.not_false]);exact mI,⟨nd_snoc hs1 hjs,lt_snoc hs2 hj,st.1,st.2⟩,by dsimp only;rw[List.length_append,List.length_singleton];omega⟩
    |true=>
     cases W with
     |false=>
      (conv=>whnf);(repeat'((first|apply bT|apply bF|apply bN|((first|apply bD|apply bEq|apply bNe)<;>intro hh<;>try(exfalso;omega))|refine enD6 hbn hj hEj ?_|refine iaJ g1 ?_|refine wJ ?_|refine nJ ?_)<;>conv=>whnf))
      exact⟨(s++[j],true,false),by rw[mm_snoc];(try simp only[hbq,Bool.not_true,Bool.not_false]);exact mI,⟨nd_snoc hs1 hjs,lt_snoc hs2 hj,st.1,st.2⟩,by dsimp only;rw[List.length_append,List.length_singleton];omega⟩
     |true=>
      (conv=>whnf);(repeat'((first|apply bT|apply bF|apply bN|((first|apply bD|apply bEq|apply bNe)<;>intro hh<;>try(exfalso;omega))|refine enD6 hbn hj hEj ?_|refine iaJ g1 ?_|refine wJ ?_|refine nJ ?_)<;>conv=>whnf))
      exact⟨(s++[j],true,true),by rw[mm_snoc];(try simp only[hbq,Bool.not_true,Bool.not_false]);exact mI,⟨nd_snoc hs1 hjs,lt_snoc hs2 hj,st.1,st.2⟩,by dsimp only;rw[List.length_append,List.length_singleton];omega⟩
   ·rw[decide_eq_false hv]at st
    subst hki
    have hbq:(c3==(r.ms.getD 3 ⟨0,0⟩).c)=false:=by simpa using hv
    cases R with
    |false=>
     cases W with
     |false=>
      (conv=>whnf);(repeat'((first|apply bT|apply bF|apply bN|((first|apply bD|apply bEq|apply bNe)<;>intro hh<;>try(exfalso;omega))|refine enD6 hbn hj hEj ?_|refine iaJ g1 ?_|refine wJ ?_|refine nJ ?_)<;>conv=>whnf))
      exact⟨(s++[j],false,true),by rw[mm_snoc];(try simp only[hbq,Bool.not_true,Bool.not_false]);exact mI,⟨nd_snoc hs1 hjs,lt_snoc hs2 hj,st.1,st.2⟩,by dsimp only;rw[List.length_append,List.length_singleton];omega⟩
     |true=>
      (conv=>whnf);(repeat'((first|apply bT|apply bF|apply bN|((first|apply bD|apply bEq|apply bNe)<;>intro hh<;>try(exfalso;omega))|refine enD6 hbn hj hEj ?_|refine iaJ g1 ?_|refine wJ ?_|refine nJ ?_)<;>conv=>whnf))
      exact⟨(s++[j],false,true),by rw[mm_snoc];(try simp only[hbq,Bool.not_true,Bool.not_false]);exact mI,⟨nd_snoc hs1 hjs,lt_snoc hs2 hj,st.1,st.2⟩,by dsimp only;rw[List.length_append,List.length_singleton];omega⟩
    |true=>
     cases W with
     |false=>
      (conv=>whnf);(repeat'((first|apply bT|apply bF|apply bN|((first|apply bD|apply bEq|apply bNe)<;>intro hh<;>try(exfalso;omega))|refine enD6 hbn hj hEj ?_|refine iaJ g1 ?_|refine wJ ?_|refine nJ ?_)<;>conv=>whnf))
      exact⟨(s++[j],true,true),by rw[mm_snoc];(try simp only[hbq,Bool.not_true,Bool.not_false]);exact mI,⟨nd_snoc hs1 hjs,lt_snoc hs2 hj,st.1,st.2⟩,by dsimp only;rw[List.length_append,List.length_singleton];omega⟩
     |true=>
      (conv=>whnf);(repeat'((first|apply bT|apply bF|apply bN|((first|apply bD|apply bEq|apply bNe)<;>intro hh<;>try(exfalso;omega))|refine enD6 hbn hj hEj ?_|refine iaJ g1 ?_|refine wJ ?_|refine nJ ?_)<;>conv=>whnf))
      exact⟨(s++[j],true,true),by rw[mm_snoc];(try simp only[hbq,Bool.not_true,Bool.not_false]);exact mI,⟨nd_snoc hs1 hjs,lt_snoc hs2 hj,st.1,st.2⟩,by dsimp only;rw[List.length_append,List.length_singleton];omega⟩
  ·have hki:k=4:=hk4
   have st:=step c4 (by rw[hEj];first|rfl|(subst hki;rfl))
   clear step
   by_cases hv:c4=(r.ms.getD k ⟨0,0⟩).c
   ·rw[decide_eq_true hv]at st
    subst hki
    have hbq:(c4==(r.ms.getD 4 ⟨0,0⟩).c)=true:=by simpa using hv
    cases R with
    |false=>
     cases W with
     |false=>
      (conv=>whnf);(repeat'((first|apply bT|apply bF|apply bN|((first|apply bD|apply bEq|apply bNe)<;>intro hh<;>try(exfalso;omega))|refine enD6 hbn hj hEj ?_|refine iaJ g1 ?_|refine wJ ?_|refine nJ ?_)<;>conv=>whnf))
      exact⟨(s++[j],true,false),by rw[mm_snoc];(try simp only[hbq,Bool.not_true,Bool.not_false]);exact mI,⟨nd_snoc hs1 hjs,lt_snoc hs2 hj,st.1,st.2⟩,by dsimp only;rw[List.length_append,List.length_singleton];omega⟩
     |true=>
      (conv=>whnf);(repeat'((first|apply bT|apply bF|apply bN|((first|apply bD|apply bEq|apply bNe)<;>intro hh<;>try(exfalso;omega))|refine enD6 hbn hj hEj ?_|refine iaJ g1 ?_|refine wJ ?_|refine nJ ?_)<;>conv=>whnf))
      exact⟨(s++[j],true,true),by rw[mm_snoc];(try simp only[hbq,Bool.not_true,Bool.not_false]);exact mI,⟨nd_snoc hs1 hjs,lt_snoc hs2 hj,st.1,st.2⟩,by dsimp only;rw[List.length_append,List.length_singleton];omega⟩
    |true=>
     cases W with
     |false=>
      (conv=>whnf);(repeat'((first|apply bT|apply bF|apply bN|((first|apply bD|apply bEq|apply bNe)<;>intro hh<;>try(exfalso;omega))|refine enD6 hbn hj hEj ?_|refine iaJ g1 ?_|refine wJ ?_|refine nJ ?_)<;>conv=>whnf))
      exact⟨(s++[j],true,false),by rw[mm_snoc];(try simp only[hbq,Bool.not_true,Bool.not_false]);exact mI,⟨nd_snoc hs1 hjs,lt_snoc hs2 hj,st.1,st.2⟩,by dsimp only;rw[List.length_append,List.length_singleton];omega⟩
     |true=>
      (conv=>whnf);(repeat'((first|apply bT|apply bF|apply bN|((first|apply bD|apply bEq|apply bNe)<;>intro hh<;>try(exfalso;omega))|refine enD6 hbn hj hEj ?_|refine iaJ g1 ?_|refine wJ ?_|refine nJ ?_)<;>conv=>whnf))
      exact⟨(s++[j],true,true),by rw[mm_snoc];(try simp only[hbq,Bool.not_true,Bool.not_false]);exact mI,⟨nd_snoc hs1 hjs,lt_snoc hs2 hj,st.1,st.2⟩,by dsimp only;rw[List.length_append,List.length_singleton];omega⟩
   ·rw[decide_eq_false hv]at st
    subst hki
    have hbq:(c4==(r.ms.getD 4 ⟨0,0⟩).c)=false:=by simpa using hv
    cases R with
    |false=>
     cases W with
     |false=>
      (conv=>whnf);(repeat'((first|apply bT|apply bF|apply bN|((first|apply bD|apply bEq|apply bNe)<;>intro hh<;>try(exfalso;omega))|refine enD6 hbn hj hEj ?_|refine iaJ g1 ?_|refine wJ ?_|refine nJ ?_)<;>conv=>whnf))
      exact⟨(s++[j],false,true),by rw[mm_snoc];(try simp only[hbq,Bool.not_true,Bool.not_false]);exact mI,⟨nd_snoc hs1 hjs,lt_snoc hs2 hj,st.1,st.2⟩,by dsimp only;rw[List.length_append,List.length_singleton];omega⟩
     |true=>
      (conv=>whnf);(repeat'((first|apply bT|apply bF|apply bN|((first|apply bD|apply bEq|apply bNe)<;>intro hh<;>try(exfalso;omega))|refine enD6 hbn hj hEj ?_|refine iaJ g1 ?_|refine wJ ?_|refine nJ ?_)<;>conv=>whnf))
      exact⟨(s++[j],false,true),by rw[mm_snoc];(try simp only[hbq,Bool.not_true,Bool.not_false]);exact mI,⟨nd_snoc hs1 hjs,lt_snoc hs2 hj,st.1,st.2⟩,by dsimp only;rw[List.length_append,List.length_singleton];omega⟩
    |true=>
     cases W with
     |false=>
      (conv=>whnf);(repeat'((first|apply bT|apply bF|apply bN|((first|apply bD|apply bEq|apply bNe)<;>intro hh<;>try(exfalso;omega))|refine enD6 hbn hj hEj ?_|refine iaJ g1 ?_|refine wJ ?_|refine nJ ?_)<;>conv=>whnf))
      exact⟨(s++[j],true,true),by rw[mm_snoc];(try simp only[hbq,Bool.not_true,Bool.not_false]);exact mI,⟨nd_snoc hs1 hjs,lt_snoc hs2 hj,st.1,st.2⟩,by dsimp only;rw[List.length_append,List.length_singleton];omega⟩
     |true=>
      (conv=>whnf);(repeat'((first|apply bT|apply bF|apply bN|((first|apply bD|apply bEq|apply bNe)<;>intro hh<;>try(exfalso;omega))|refine enD6 hbn hj hEj ?_|refine iaJ g1 ?_|refine wJ ?_|refine nJ ?_)<;>conv=>whnf))
      exact⟨(s++[j],true,true),by rw[mm_snoc];(try simp only[hbq,Bool.not_true,Bool.not_false]);exact mI,⟨nd_snoc hs1 hjs,lt_snoc hs2 hj,st.1,st.2⟩,by dsimp only;rw[List.length_append,List.length_singleton];omega⟩
 ·have hall2:=mm_all hbn hs2 hall
  have hf:=hfin R W (hS1.trans ⟨fun⟨j,hj,hp⟩=>⟨j,hs2 j hj,hp⟩,fun⟨j,hj,hp⟩=>⟨j,hall2 j hj,hp⟩⟩) (hS2.trans ⟨fun⟨j,hj,hp⟩=>⟨j,hs2 j hj,hp⟩,fun⟨j,hj,hp⟩=>⟨j,hall2 j hj,hp⟩⟩)
  cases W with
  |false=>
   rw[if_pos rfl]at hf
   rw[hf]
   (conv=>whnf);(repeat'((first|apply bT|apply bF|apply bN|((first|apply bD|apply bEq|apply bNe)<;>intro hh<;>try(exfalso;omega))|refine wJ ?_|refine nJ ?_)<;>conv=>whnf))
   all_goals rfl
  |true=>
   rw[if_neg (by simp)]at hf
   cases R with
   |false=>
    rw[if_pos rfl]at hf
    rw[hf]
    (conv=>whnf);(repeat'((first|apply bT|apply bF|apply bN|((first|apply bD|apply bEq|apply bNe)<;>intro hh<;>try(exfalso;omega))|refine wJ ?_|refine nJ ?_)<;>conv=>whnf))
    all_goals rfl
   |true=>
    rw[if_neg (by simp)]at hf
    rw[hf]
    (conv=>whnf);(repeat'((first|apply bT|apply bF|apply bN|((first|apply bD|apply bEq|apply bNe)<;>intro hh<;>try(exfalso;omega))|refine wJ ?_|refine nJ ?_)<;>conv=>whnf))
    all_goals rfl
def canB(r:Ru)(k:Nat)(x:Int):Bool:=decide (∃f,f∈trs r.bs r.ms r.w/\f.getD k 0=x)
theorem fsK_asc(lo:Int)(j:Nat):(fsK lo j).Pairwise (· < ·):=by
 unfold fsK
 refine List.Pairwise.map _ (fun a b h=>?_) List.pairwise_lt_range
 omega
theorem mem_fsK{lo:Int}{j:Nat}{x:Int}:x∈fsK lo j<->lo<=x/\x<lo+(j:Int):=by
 unfold fsK
 rw[List.mem_map]
 constructor
 ·rintro⟨i,hi,rfl⟩
  have:=List.mem_range.1 hi;omega
 ·rintro⟨h1,h2⟩
  exact⟨(x-lo).toNat,List.mem_range.2 (by omega),by omega⟩
theorem frc_fs{r:Ru}{n:Nat}(hbs:okBs n r.bs){k:Nat}(hk:k<r.bs.length):(fsB (r.bs.getD k ⟨0,0,0⟩)).filter (canB r k)=frc r.trs k:=by
 refine asc_eq ((fsK_asc _ _).filter _) (frc_asc _ _) fun x=>?_
 have hb:=hbs.2 _ (show r.bs.getD k ⟨0,0,0⟩∈r.bs by simp[List.getD_eq_getElem?_getD,hk])
 unfold okBlw at hb
 rw[List.mem_filter,show r.trs=trs r.bs r.ms r.w from rfl,mem_frc hbs hk]
 unfold canB
 rw[decide_eq_true_eq]
 constructor
 ·exact fun h=>h.2
 ·intro h
  refine⟨?_,h⟩
  obtain⟨f,hf,hx⟩:=h
  have:=(isC_iff.1 (mem_trs.1 hf).1).2 k hk
  unfold fsB wid
  rw[mem_fsK];omega
theorem p18(r:Ru)(q:Int)(h:Sm r)(hf:Few r):FnA Tryz.prog 14 [.agg r.cells, .int .i64 q] (· = .tup [.isl ((frc (r.kn (decide (0<=q/\q<=(r.bs.length:Int)-1))) q.toNat).map i1), .int .i64 (r.err (decide (0<=q/\q<=(r.bs.length:Int)-1)))]):=by
 have e0:=p46 r q h
 by_cases he:r.err (decide (0<=q/\q<=(r.bs.length:Int)-1))=0
 case neg=>
  have hk:r.kn (decide (0<=q/\q<=(r.bs.length:Int)-1))=[]:=by rw[Ru.kn,if_neg he]
  rw[hk]
  have hfr:frc [] q.toNat=[]:=by
   unfold frc
   rw[List.filter_eq_nil_iff.2 (fun n _=>by simp)];rfl
  rw[hfr]
  generalize decide (0<=q/\q<=(r.bs.length:Int)-1)=b at *
  have e1:=p39e r b h hf he
  generalize r.err b=E at *
  refine fnA 14 ok14 (by simp) ?_
  (conv=>whnf);(repeat'((first|apply bT|apply bF|apply bN|((first|apply bD|apply bEq|apply bNe)<;>intro hh<;>try(exfalso;omega))|refine e0.cq rfl rfl ?_|refine e1.zq rfl rfl ?_|refine wJ ?_|refine nJ ?_)<;>conv=>whnf))
  all_goals rfl
 have hb:=err_b he
 have hkn:r.kn (decide (0<=q/\q<=(r.bs.length:Int)-1))=r.trs:=by rw[Ru.kn,if_pos he]
 rw[hkn]
 rw[hb]at e0 he⊢
 have hq:=of_decide_eq_true hb
 rw[he]
 clear hkn hb
 obtain⟨k,rfl⟩:∃k:Nat,q=(k:Int):=⟨q.toNat,by omega⟩
 have e1:=p39 r true h hf he
 obtain⟨ho,hbs,hm,hfew,hne⟩:=rb hf he
 have hk:k<r.bs.length:=by omega
 rw[show((k:Nat):Int).toNat=k from Int.toNat_natCast k]
 have hB:(r.bs.map Blw.av).length=r.bs.length:=by simp
 have g1:=gB r.bs k hk
 have hbl:=hbs.2 _ (show r.bs.getD k ⟨0,0,0⟩∈r.bs by simp[List.getD_eq_getElem?_getD,hk])
 have e3:=fun x=>p47 r k x hbs hm hfew hne hk
 have hres:=frc_fs hbs hk
 unfold fsB at hres
 have hw:=wid_pos hbl
 unfold okBlw at hbl
 have hwd:wid (r.bs.getD k ⟨0,0,0⟩)=((r.bs.getD k ⟨0,0,0⟩).hi+1-(r.bs.getD k ⟨0,0,0⟩).lo).toNat:=rfl
 generalize r.bs.getD k ⟨0,0,0⟩=b at *
 rw[<- hres]
 refine fnA 14 ok14 (by simp) ?_
 (conv=>whnf);(repeat'((first|apply bT|apply bF|apply bN|((first|apply bD|apply bEq|apply bNe)<;>intro hh<;>try(exfalso;omega))|refine e0.cq rfl rfl ?_|refine e1.zq rfl rfl ?_|refine iaJ g1 ?_|refine wJ ?_|refine nJ ?_)<;>conv=>whnf))
 refine loop_i (α :=Nat × Int) (fun x=>[(9, .int .i64 x.2),(8, .row 12),(6, .own 6 0),(1, .int .i64 (k:Nat))]) (fun x=>[.fresh, .fresh, .fresh, .fresh, .fresh, .fresh, .box false r.cells, .fresh, .fresh, .fresh, .fresh, .fresh, .row false 3 1 (((fsK b.lo x.1).filter (canB r k)).map i1), .fresh])
  (fun x=>x.1<=wid b/\x.2=b.lo+(x.1:Int)) (fun x=>wid b-x.1) (0,b.lo) (mA [(12,none)]) ⟨by omega,by simp⟩ ?_
 rintro⟨j,p⟩ ⟨hj,hp⟩
 dsimp only at hj hp⊢
 have hlen:((fsK b.lo j).filter (canB r k)).length<=j:=by
  have:=List.length_filter_le (canB r k) (fsK b.lo j)
  have h2:(fsK b.lo j).length=j:=by simp[fsK]
  omega
 have hL:(((fsK b.lo j).filter (canB r k)).map i1).length=((fsK b.lo j).filter (canB r k)).length:=by simp
 have hone:=i1_one ((fsK b.lo j).filter (canB r k))
 conv=>whnf
 refine iaJ g1 ?_
 conv=>whnf
 refine bD (fun h4=>?_) (fun h4=>?_)
 ·have hjl:j<wid b:=by omega
  have e4:=e3 p
  have hsuc:(fsK b.lo (j+1)).filter (canB r k)=(fsK b.lo j).filter (canB r k)++(if canB r k p=true then [p] else []):=by
   rw[fsK_suc,List.filter_append,<- hp,List.filter_cons,List.filter_nil]
  change FnA Tryz.prog 55 _ (· = .bool (canB r k p))at e4
  cases hc:canB r k p
  ·rw[hc]at e4
   rw[hc,if_neg (by simp),List.append_nil]at hsuc
   (conv=>whnf);(repeat'((first|apply bT|apply bF|apply bN|((first|apply bD|apply bEq|apply bNe)<;>intro hh<;>try(exfalso;omega))|refine e4.cq rfl rfl ?_|refine wJ ?_|refine nJ ?_)<;>conv=>whnf))
   exact⟨(j+1,p+1),by dsimp only;rw[hsuc];exact(mA [(12,some 12)]),⟨by dsimp only;omega,by dsimp only;omega⟩,by dsimp only;omega⟩
  ·rw[hc]at e4
   rw[hc,if_pos rfl]at hsuc
   (conv=>whnf);(repeat'((first|apply bT|apply bF|apply bN|((first|apply bD|apply bEq|apply bNe)<;>intro hh<;>try(exfalso;omega))|refine e4.cq rfl rfl ?_|refine apJ ?_|refine wJ ?_|refine nJ ?_)<;>conv=>whnf))
   exact⟨(j+1,p+1),by dsimp only;rw[hsuc,List.map_append];exact(mA [(12,some 8)]),⟨by dsimp only;omega,by dsimp only;omega⟩,by dsimp only;omega⟩
 ·have:j=wid b:=by omega
  subst this
  (conv=>whnf);(repeat'((first|apply bT|apply bF|apply bN|((first|apply bD|apply bEq|apply bNe)<;>intro hh<;>try(exfalso;omega))|refine wJ ?_|refine nJ ?_)<;>conv=>whnf))
  all_goals rfl
def fx:List Blw->List Int->List Blw
 |b::bs,x::l=>⟨b.a,x,x⟩::fx bs l
 |bs,_=>bs
theorem fx_nil(bs:List Blw):fx bs []=bs:=by cases bs<;>rfl
theorem fx_len:∀(bs:List Blw) (l:List Int),(fx bs l).length=bs.length
 | [],l=>by cases l<;>rfl
 |b::bs,[]=>rfl
 |b::bs,x::l=>by simp[fx,fx_len bs l]
theorem fx_set:∀ {bs:List Blw} {l:List Int} (x:Int),l.length<bs.length->(fx bs l).set l.length ⟨(bs.getD l.length ⟨0,0,0⟩).a,x,x⟩=fx bs (l++[x])
 | [],l,x,h=>by simp at h
 |b::bs,[],x,_=>by simp[fx,fx_nil]
 |b::bs,y::l,x,h=>by
  have:=fx_set (bs:=bs) (l:=l) x (by simpa using h)
  simp only[List.length_cons,List.cons_append,fx,List.set_cons_succ,List.getD_cons_succ,this]
theorem fx_reset:∀ {bs:List Blw} {l:List Int} (y x:Int),l.length<bs.length->(fx bs (l++[y])).set l.length ⟨(bs.getD l.length ⟨0,0,0⟩).a,x,x⟩=fx bs (l++[x])
 | [],l,y,x,h=>by simp at h
 |b::bs,[],y,x,_=>by simp[fx,fx_nil]
 |b::bs,z::l,y,x,h=>by
  have:=fx_reset (bs:=bs) (l:=l) y x (by simpa using h)
  simp only[List.length_cons,List.cons_append,fx,List.set_cons_succ,List.getD_cons_succ,this]
theorem fx_get:∀ {bs:List Blw} {l:List Int},l.length<bs.length->(fx bs l).getD l.length ⟨0,0,0⟩=bs.getD l.length ⟨0,0,0⟩
 | [],l,h=>by simp at h
 |b::bs,[],_=>rfl
 |b::bs,y::l,h=>by
  have:=fx_get (bs:=bs) (l:=l) (by simpa using h)
  simpa only[List.length_cons,fx,List.getD_cons_succ]using this
theorem fx_get1:∀ {bs:List Blw} {l:List Int} {y:Int},l.length<bs.length->(fx bs (l++[y])).getD l.length ⟨0,0,0⟩=⟨(bs.getD l.length ⟨0,0,0⟩).a,y,y⟩
 | [],l,y,h=>by simp at h
 |b::bs,[],y,_=>by simp[fx]
 |b::bs,z::l,y,h=>by
  have:=fx_get1 (bs:=bs) (l:=l) (y:=y) (by simpa using h)
  simpa only[List.length_cons,List.cons_append,fx,List.getD_cons_succ]using this
def inB:List Blw->List Int->Prop
 |_,[]=>True
 | [],_::_=>False
 |b::bs,x::l=>(b.lo<=x/\x<=b.hi)/\inB bs l
theorem inB_snoc:∀ {bs:List Blw} {l:List Int} {x:Int},l.length<bs.length->(inB bs (l++[x])<->inB bs l/\(bs.getD l.length ⟨0,0,0⟩).lo<=x/\x<=(bs.getD l.length ⟨0,0,0⟩).hi)
 | [],l,x,h=>by simp at h
 |b::bs,[],x,_=>by simp[inB]
 |b::bs,y::l,x,h=>by
  have:=inB_snoc (bs:=bs) (l:=l) (x:=x) (by simpa using h)
  simp only[List.cons_append,inB,this,List.length_cons,List.getD_cons_succ,and_assoc]
theorem isC_fx:∀ {bs:List Blw} {l f:List Int},inB bs l->(isC (fx bs l) f<->isC bs f/\f.take l.length=l)
 |bs,[],f,_=>by rw[fx_nil];simp
 | [],x::l,f,h=>h.elim
 |b::bs,x::l,[],h=>by simp[fx,isC]
 |b::bs,x::l,y::f,h=>by
  have ih:=isC_fx (bs:=bs) (l:=l) (f:=f) h.2
  have h1:=h.1
  simp only[fx,isC,ih,List.length_cons,List.take_succ_cons,List.cons.injEq]
  constructor
  ·rintro⟨⟨a1,a2⟩,a3,a4⟩
   exact⟨⟨by omega,a3⟩,by omega,a4⟩
  ·rintro⟨⟨a1,a2⟩,a3,a4⟩
   exact⟨by omega,a2,a4⟩
theorem fx_ok{n:Nat}:∀ {bs:List Blw} {l:List Int},inB bs l->(∀b∈bs,okBlw n b)->∀b∈fx bs l,okBlw n b
 |bs,[],_,hb=>by rw[fx_nil];exact hb
 | [],x::l,h,_=>h.elim
 |b::bs,x::l,h,hb=>by
  intro c hc
  simp only[fx,List.mem_cons]at hc
  rcases hc with rfl|hc
  ·have h1:=hb b (by simp)
   have h2:=h.1
   unfold okBlw at h1⊢
   dsimp only;omega
  ·exact fx_ok h.2 (fun b hb'=>hb b (by simp[hb'])) c hc
theorem fx_prd{n:Nat}:∀ {bs:List Blw} {l:List Int},inB bs l->(∀b∈bs,okBlw n b)->prd (fx bs l)<=prd bs
 |bs,[],_,hb=>by rw[fx_nil];exact Nat.le_refl _
 | [],x::l,h,_=>h.elim
 |b::bs,x::l,h,hb=>by
  have ih:=fx_prd (n:=n) h.2 (fun b hb'=>hb b (by simp[hb']))
  have h1:=(wid_pos (hb b (by simp))).1
  rw[show fx (b::bs) (x::l)=⟨b.a,x,x⟩::fx bs l from rfl,prd_cons,prd_cons]
  have:wid ⟨b.a,x,x⟩=1:=by unfold wid;dsimp only;omega
  rw[this,Nat.one_mul]
  exact Nat.le_trans ih (Nat.le_mul_of_pos_left _ (by omega))
def Beg(r:Ru)(l:List Int):Prop:=∃f,f∈r.trs/\f.take l.length=l
theorem beg_in{r:Ru}{l:List Int}(h:Beg r l)(hl:l.length<=r.bs.length):inB r.bs l:=by
 obtain⟨f,hf,e⟩:=h
 have hc:=(mem_trs.1 hf).1
 have:∀(bs:List Blw) (f l:List Int),isC bs f->f.take l.length=l->inB bs l:=by
  intro bs;induction bs with
  |nil=>intro f l hc e;cases f with
   |nil=>cases l with
    |nil=>trivial
    |cons a l=>simp at e
   |cons _ _=>exact hc.elim
  |cons b bs ih=>
   intro f l hc e
   cases l with
   |nil=>trivial
   |cons x l=>
    cases f with
    |nil=>exact hc.elim
    |cons y f=>
     simp only[List.length_cons,List.take_succ_cons,List.cons.injEq]at e
     exact⟨by have:=hc.1;rw[<- e.1];exact this,ih f l hc.2 e.2⟩
 exact this r.bs f l hc e
def Ru.fix(r:Ru)(l:List Int):Ru:=⟨r.d,fx r.bs l,r.ms,r.w⟩
theorem beg_iff{r:Ru}{l:List Int}(h:inB r.bs l):(r.fix l).trs≠[]<->Beg r l:=by
 constructor
 ·intro hn
  obtain⟨f,hf⟩:=List.exists_mem_of_ne_nil _ hn
  obtain⟨h1,h2⟩:=mem_trs.1 hf
  obtain⟨h3,h4⟩:=(isC_fx h).1 h1
  exact⟨f,mem_trs.2 ⟨h3,h2⟩,h4⟩
 ·rintro⟨f,hf,e⟩ hn
  obtain⟨h1,h2⟩:=mem_trs.1 hf
  have:f∈(r.fix l).trs:=mem_trs.2 ⟨(isC_fx h).2 ⟨h1,e⟩,h2⟩
  rw[hn]at this;cases this
theorem beg_next{r:Ru}{l:List Int}(h:Beg r l)(hl:l.length<r.bs.length):∃x,(r.bs.getD l.length ⟨0,0,0⟩).lo<=x/\x<=(r.bs.getD l.length ⟨0,0,0⟩).hi/\Beg r (l++[x]):=by
 obtain⟨f,hf,e⟩:=h
 have hc:=isC_iff.1 (mem_trs.1 hf).1
 refine⟨f.getD l.length 0,(hc.2 _ hl).1,(hc.2 _ hl).2,f,hf,?_⟩
 have hlt:l.length<f.length:=by rw[hc.1];exact hl
 rw[List.length_append,List.length_singleton,List.take_succ_eq_append_getElem hlt,e,List.getD_eq_getElem?_getD,List.getElem?_eq_getElem hlt];rfl
theorem beg_full{r:Ru}{l:List Int}(h:Beg r l)(hl:l.length=r.bs.length):l∈r.trs:=by
 obtain⟨f,hf,e⟩:=h
 have hc:=isC_len (mem_trs.1 hf).1
 have:f=l:=by rw[<- e,hl,<- hc,List.take_length]
 rw[<- this];exact hf
theorem FnA.isl0{P:Program}{f:FuncId}{R:AV->Prop}(h1:FnA P f [.nils] R)(h2:∀a c,FnA P f [.lit (.slice (some a) 0 c)] R):FnA P f [.isl []] R:=by
 unfold FnA at h1 h2⊢
 intro imm w vs himm hargs
 simp only[RV0s]at hargs
 obtain⟨v,vs',rfl,hv,rfl⟩:=hargs
 simp only[RV0]at hv
 rcases hv with⟨⟨a,hv⟩,_⟩|⟨sz,b,off,cap,hv,_⟩
 ·cases a with
  |none=>exact h1 imm w [v] himm (by simp only[RV0s,RV0];exact⟨v,[],rfl,hv,rfl⟩)
  |some a=>exact h2 a 0 imm w [v] himm (by simp only[RV0s,RV0];exact⟨v,[],rfl,hv,rfl⟩)
 ·exact h2 _ cap imm w [v] himm (by simp only[RV0s,RV0];exact⟨v,[],rfl,hv,rfl⟩)
theorem z102e:FnA Tryz.prog 102 [.isl []] (· = .isl []):=by
 refine FnA.isl0 ?_ fun a c=>?_
 ·refine fnA 2 ok102 (by simp) ?_
  (conv=>whnf);(repeat'((first|apply bT|apply bF|apply bN|((first|apply bD|apply bEq|apply bNe)<;>intro hh<;>try(exfalso;omega))|refine wJ ?_|refine nJ ?_)<;>conv=>whnf))
  all_goals rfl
 ·refine fnA 2 ok102 (by simp) ?_
  (conv=>whnf);(repeat'((first|apply bT|apply bF|apply bN|((first|apply bD|apply bEq|apply bNe)<;>intro hh<;>try(exfalso;omega))|refine apI (by simp[AV.one]) (by simp) ?_|refine wJ ?_|refine nJ ?_)<;>conv=>whnf))
  all_goals rfl
theorem z102(t:List Blw)(h0:0<t.length)(ht:t.length<=1000):FnO Tryz.prog 102 [.isl (t.map Blw.av)] (fun r rows=>r = .row 1/\rows=[(1, .row false 67 3 (t.map Blw.av))]):=by
 have hL:(t.map Blw.av).length=t.length:=by simp
 refine fnO 2 ok102 (by simp) ?_
 (conv=>whnf);(repeat'((first|apply bT|apply bF|apply bN|((first|apply bD|apply bEq|apply bNe)<;>intro hh<;>try(exfalso;omega))|(refine apI (fun e he=>blw_one t e he) (by simp only[List.length_nil,hL];omega) ?_)|refine wJ ?_|refine nJ ?_)<;>conv=>whnf))
 all_goals exact⟨rfl,rfl⟩
theorem z97(r:Ru)(l:List Int)(ho:r.ok=true)(hfew:prd r.bs<=600)(hl:inB r.bs l):FnA Tryz.prog 97 [.agg (r.fix l).cells] (· = .bool (decide ((r.fix l).trs≠[]))):=by
 obtain⟨_,hbs,hm,_,_⟩:=rok_iff.1 ho
 have h1:okBs r.d.rs.length (r.fix l).bs:=⟨by show(fx r.bs l).length<=8;rw[fx_len];exact hbs.1,fx_ok hl hbs.2⟩
 have:=p69 (r.fix l) _ h1 hm (Nat.le_trans (fx_prd hl hbs.2) hfew)
 rw[show decide (few (r.fix l).bs (r.fix l).ms<=(r.fix l).w)=decide ((r.fix l).trs≠[]) from decide_eq_decide.2 (few_iff h1)]at this
 exact this
theorem set_av(cu:List Blw)(k:Nat)(x:Int)(hk:k<cu.length):(cu.map Blw.av).set k [.int .i64 (cu.getD k ⟨0,0,0⟩).a, .int .i64 x, .int .i64 x]=(cu.set k ⟨(cu.getD k ⟨0,0,0⟩).a,x,x⟩).map Blw.av:=by
 rw[List.map_set];rfl
theorem z70(r:Ru)(ho:r.ok=true)(hfew:prd r.bs<=600)(hne:r.trs≠[]):FnA Tryz.prog 70 [.agg r.cells] (fun v=>∃l:List Int,v = .isl (l.map i1)/\l∈r.trs):=by
 obtain⟨_,hbs,hm,_,_⟩:=rok_iff.1 ho
 have hbl:=hbs.1
 by_cases h0:r.bs=[]
 ·have e0:=z102e
  have hB:r.bs.map Blw.av=[]:=by rw[h0];rfl
  have hmem:[]∈r.trs:=by
   obtain⟨f,hf⟩:=List.exists_mem_of_ne_nil _ hne
   have:=isC_len (mem_trs.1 hf).1
   rw[h0]at this
   cases f with
   |nil=>exact hf
   |cons _ _=>simp at this
  have hc:r.cells=[.isl (r.d.f.ss.map Sec.av), .int .i64 r.d.f.lo, .int .i64 r.d.f.hi, .int .i64 r.d.f.en, .int .i64 r.d.f.ed, .int .i64 r.d.f.rod, .int .i64 r.d.f.cs, .isl (r.d.rs.map s2), .isl (r.d.sh.map i1), .isl [], .isl (r.ms.map Met.av), .int .i64 r.w]:=by
   rw[<- hB];rfl
  rw[hc]
  refine fnA 8 ok70 (by simp) ?_
  (conv=>whnf);(repeat'((first|apply bT|apply bF|apply bN|((first|apply bD|apply bEq|apply bNe)<;>intro hh<;>try(exfalso;omega))|refine e0.zq rfl rfl ?_|refine wJ ?_|refine nJ ?_)<;>conv=>whnf))
  refine loop_i (α :=Unit) (fun _=>[(17, .int .i64 0),(16, .int .i64 0),(3, .nils)]) (fun _=>[.fresh, .fresh, .fresh, .fresh, .fresh, .fresh, .fresh, .fresh]) (fun _=>True) (fun _=>0) () mI trivial ?_
  rintro⟨⟩ _
  (conv=>whnf);(repeat'((first|apply bT|apply bF|apply bN|((first|apply bD|apply bEq|apply bNe)<;>intro hh<;>try(exfalso;omega))|refine wJ ?_|refine nJ ?_)<;>conv=>whnf))
  all_goals exact⟨[],rfl,hmem⟩
 have hpos:0<r.bs.length:=List.length_pos_iff.2 h0
 have e0:=z102 r.bs hpos (by omega)
 have hB:∀cu:List Blw,(cu.map Blw.av).length=cu.length:=fun cu=>by simp
 have hz:=fun l hl=>z97 r l ho hfew hl
 have hbeg0:Beg r []:=by
  obtain⟨f,hf⟩:=List.exists_mem_of_ne_nil _ hne
  exact⟨f,hf,by simp⟩
 have hst:∀l,(r.fix l).cells=[.isl (r.d.f.ss.map Sec.av), .int .i64 r.d.f.lo, .int .i64 r.d.f.hi, .int .i64 r.d.f.en, .int .i64 r.d.f.ed, .int .i64 r.d.f.rod, .int .i64 r.d.f.cs, .isl (r.d.rs.map s2), .isl (r.d.sh.map i1), .isl ((fx r.bs l).map Blw.av), .isl (r.ms.map Met.av), .int .i64 r.w]:=fun l=>rfl
 have hn:=hB r.bs
 refine fnA 12 ok70 (by simp) ?_
 (conv=>whnf);(repeat'((first|apply bT|apply bF|apply bN|((first|apply bD|apply bEq|apply bNe)<;>intro hh<;>try(exfalso;omega))|refine e0.oq rfl rfl rfl ?_|refine wJ ?_|refine nJ ?_)<;>conv=>whnf))
 refine loop_i (α :=List Int) (fun l=>[(17, .int .i64 (l.length:Nat)),(16, .int .i64 (r.bs.map Blw.av).length),(15, .row 1),(3, .row 9),(1, .own 0 0)]) (fun l=>[.box false [.isl (r.d.f.ss.map Sec.av), .int .i64 r.d.f.lo, .int .i64 r.d.f.hi, .int .i64 r.d.f.en, .int .i64 r.d.f.ed, .int .i64 r.d.f.rod, .int .i64 r.d.f.cs, .isl (r.d.rs.map s2), .isl (r.d.sh.map i1), .row 1, .isl (r.ms.map Met.av), .int .i64 r.w], .row false 67 3 ((fx r.bs l).map Blw.av), .fresh, .fresh, .fresh, .fresh, .fresh, .fresh, .fresh, .row false 3 1 (l.map i1), .fresh, .fresh])
  (fun l=>l.length<=r.bs.length/\Beg r l) (fun l=>r.bs.length-l.length) [] (by rw[fx_nil];exact(mA [(9,none)])) ⟨by simp,hbeg0⟩ ?_
 rintro l ⟨hl,hb⟩
 have hL:=hB (fx r.bs l)
 have hfl:=fx_len r.bs l
 have hLi:(l.map i1).length=l.length:=by simp
 have hone:=i1_one l
 conv=>whnf
 refine bD (fun h3=>?_) (fun h3=>?_)
 ·have hlt:l.length<r.bs.length:=by omega
  have g1:=gB (fx r.bs l) l.length (by omega)
  rw[fx_get hlt]at g1
  obtain⟨x0,hx1,hx2,hx3⟩:=beg_next hb hlt
  have hin:∀x,(r.bs.getD l.length ⟨0,0,0⟩).lo<=x->x<=(r.bs.getD l.length ⟨0,0,0⟩).hi->inB r.bs (l++[x]):=fun x h1 h2=>(inB_snoc hlt).2 ⟨beg_in hb hl,h1,h2⟩
  have hmem:r.bs.getD l.length ⟨0,0,0⟩∈r.bs:=by simp[List.getD_eq_getElem?_getD,hlt]
  have hbb:=hbs.2 _ hmem
  unfold okBlw at hbb
  have hset:=fun x=>fx_set (bs:=r.bs) (l:=l) x hlt
  have hres:=fun y x=>fx_reset (bs:=r.bs) (l:=l) y x hlt
  have hg0:=fx_get (bs:=r.bs) (l:=l) hlt
  have hgy:=fun y=>fx_get1 (bs:=r.bs) (l:=l) (y:=y) hlt
  generalize r.bs.getD l.length ⟨0,0,0⟩=b at *
  (conv=>whnf);(repeat'((first|apply bT|apply bF|apply bN|((first|apply bD|apply bEq|apply bNe)<;>intro hh<;>try(exfalso;omega))|refine iaJ g1 ?_|refine wJ ?_|refine nJ ?_)<;>conv=>whnf))
  refine loop_i (α :=Int × List Blw) (fun x=>[(17, .int .i64 (l.length:Nat)),(16, .int .i64 (r.bs.map Blw.av).length),(15, .row 1),(6, .int .i64 x.1),(5, .own 2 0),(4, .int .i64 (l.length:Nat)),(3, .row 9),(1, .own 0 0)]) (fun x=>[.box false [.isl (r.d.f.ss.map Sec.av), .int .i64 r.d.f.lo, .int .i64 r.d.f.hi, .int .i64 r.d.f.en, .int .i64 r.d.f.ed, .int .i64 r.d.f.rod, .int .i64 r.d.f.cs, .isl (r.d.rs.map s2), .isl (r.d.sh.map i1), .row 1, .isl (r.ms.map Met.av), .int .i64 r.w], .row false 67 3 (x.2.map Blw.av), .box false [.int .i64 b.a, .int .i64 b.lo, .int .i64 b.hi], .fresh, .fresh, .fresh, .fresh, .fresh, .fresh, .row false 3 1 (l.map i1), .fresh, .fresh])
   (fun x=>b.lo<=x.1/\(∀y,b.lo<=y->y<x.1->¬Beg r (l++[y]))/\x.2.length=r.bs.length/\(∀y,x.2.set l.length ⟨b.a,y,y⟩=fx r.bs (l++[y]))/\(x.2.getD l.length ⟨0,0,0⟩).a=b.a) (fun x=>(b.hi+1-x.1).toNat) (b.lo,fx r.bs l) mI ⟨by omega,fun y h1 h2=>by omega,hfl,hset,by rw[hg0]⟩ ?_
  rintro⟨x,cu⟩ ⟨hx,hno,hcl,hcs,hca⟩
  dsimp only at hx hno hcl hcs hca⊢
  have hC:=hB cu
  have g2:=gB cu l.length (by omega)
  rw[hca]at g2
  conv=>whnf
  refine bD (fun h4=>?_) (fun h4=>?_)
  ·have hi:=hin x hx h4
   have e1:=hz _ hi
   rw[hst]at e1
   have hsa:=set_av cu l.length x (by omega)
   rw[hca,hcs]at hsa
   rw[<- hsa]at e1
   have hit:=beg_iff (r:=r) hi
   by_cases hB2:(r.fix (l++[x])).trs≠[]
   ·rw[decide_eq_true hB2]at e1
    have hb2:=hit.1 hB2
    (conv=>whnf);(repeat'((first|apply bT|apply bF|apply bN|((first|apply bD|apply bEq|apply bNe)<;>intro hh<;>try(exfalso;omega))|refine iaJ g2 ?_|refine e1.lq rfl rfl ?_|refine apJ ?_|refine wJ ?_|refine nJ ?_)<;>conv=>whnf))
    refine⟨l++[x],?_,⟨by rw[List.length_append,List.length_singleton];omega,hb2⟩,by rw[List.length_append,List.length_singleton];omega⟩
    rw[<- hsa,List.length_append,List.length_singleton,Int.natCast_add,Int.natCast_one,List.map_append]
    exact(mA [(9,some 4)])
   ·rw[decide_eq_false hB2]at e1
    have hb2:¬Beg r (l++[x]):=fun h=>hB2 (hit.2 h)
    (conv=>whnf);(repeat'((first|apply bT|apply bF|apply bN|((first|apply bD|apply bEq|apply bNe)<;>intro hh<;>try(exfalso;omega))|refine iaJ g2 ?_|refine e1.lq rfl rfl ?_|refine wJ ?_|refine nJ ?_)<;>conv=>whnf))
    refine⟨(x+1,fx r.bs (l++[x])),?_,⟨by dsimp only;omega,fun y h1 h2=>?_,fx_len _ _,fun y=>hres x y,by rw[hgy]⟩,by dsimp only;omega⟩
    ·dsimp only
     rw[<- hsa]
     exact mI
    ·dsimp only at h2
     by_cases e:y=x
     ·rw[e];exact hb2
     ·exact hno y h1 (by omega)
  ·exfalso
   exact hno x0 hx1 (by omega) hx3
 ·have:l.length=r.bs.length:=by omega
  (conv=>whnf);(repeat'((first|apply bT|apply bF|apply bN|((first|apply bD|apply bEq|apply bNe)<;>intro hh<;>try(exfalso;omega))|refine wJ ?_|refine nJ ?_)<;>conv=>whnf))
  all_goals exact⟨l,rfl,beg_full hb this⟩
theorem z28(r:Ru)(h:Sm r)(hf:Few r):FnA Tryz.prog 28 [.agg r.cells] (fun v=>∃l:List Int,v = .tup [.isl (l.map i1), .int .i64 (r.err true)]/\(r.err true=0->l∈r.trs)/\(r.err true≠0->l=[])):=by
 by_cases he:r.err true=0
 case neg=>
  have e1:=p39e r true h hf he
  generalize r.err true=E at *
  refine fnA 12 ok28 (by simp) ?_
  (conv=>whnf);(repeat'((first|apply bT|apply bF|apply bN|((first|apply bD|apply bEq|apply bNe)<;>intro hh<;>try(exfalso;omega))|refine e1.zq rfl rfl ?_|refine wJ ?_|refine nJ ?_)<;>conv=>whnf))
  all_goals exact⟨[],rfl,fun hh=>absurd hh he,fun _=>rfl⟩
 have e1:=p39 r true h hf he
 obtain⟨ho,hbs,hm,hfew,hne⟩:=rb hf he
 have e2:=z70 r ho hfew hne
 rw[he]
 refine fnA 12 ok28 (by simp) ?_
 (conv=>whnf);(repeat'((first|apply bT|apply bF|apply bN|((first|apply bD|apply bEq|apply bNe)<;>intro hh<;>try(exfalso;omega))|refine e1.zq rfl rfl ?_|refine wJ ?_|refine nJ ?_)<;>conv=>whnf))
 refine e2.callzq rfl rfl (fun v hv=>?_)
 obtain⟨l,hv1,hv2⟩:=hv
 subst hv1
 (conv=>whnf);(repeat'((first|apply bT|apply bF|apply bN|((first|apply bD|apply bEq|apply bNe)<;>intro hh<;>try(exfalso;omega))|refine wJ ?_|refine nJ ?_)<;>conv=>whnf))
 all_goals exact⟨l,rfl,fun _=>hv2,fun hh=>absurd rfl hh⟩
theorem prg:Prg where
 check r h _:=p37 r h
 few r h hf:=p14 r h hf
 forces r q h hf:=p18 r q h hf
 right r m h hf:=p16 r m h hf
 reads r L h hf:=p17 r L h hf
 many r h hf:=p15 r h hf
 stood r h hf:=p21 r h hf
 harm r h hf:=p22 r h hf
 shw r h hf:=z28 r h hf
end Go.Proofs
