/- What each function of this program answers, proved by walking its body: the contracts that the law rests on, part 2. -/
import Derived.Test.YtpcmpgcjhmecbaaFns1
set_option linter.unusedSimpArgs false
set_option linter.unusedVariables false
set_option linter.unusedSectionVars false
namespace Go.Proofs
open Go.Eng
attribute [local irreducible] Go.Eng.brB Go.Eng.need Go.Eng.wrE Go.Eng.iaE Go.Eng.slE Go.Eng.apE Go.Eng.CallZ Go.Eng.CallE Go.Eng.VCallE Go.Eng.YldE Go.Eng.GoC Go.Eng.MeetsE Go.Eng.FnA Go.Eng.FnV
set_option maxRecDepth 100000
theorem sls_get(t:Tour)(r:List Int){k:Nat}{v:List AV}(hv:(sls t r)[k]?=some v):∃l,(truths t)[k]?=some l/\v=[.agg [.int .i64 (tak t r l), .int .i64 (lef t r l)]]:=by
 rw[sls,List.getElem?_map]at hv
 cases hw:(wts t)[k]? with
 |none=>rw[hw]at hv;cases hv
 |some p=>
  rw[hw]at hv
  refine⟨p.1,?_,by cases hv;rfl⟩
  rw[<- wts_truths,List.getElem?_map,hw];rfl
theorem p87(t:Tour)(h:Sml t)(ht:TOk t)(r:List Int)(hr:isRte t r=true)(m:Int):FnA Try.prog 87 [.agg (t.wcs (wts t)), .isl (r.map jAV), .int .i64 m] (· = .bool (decide (∀l∈truths t,m<tak t r l))):=by
 have e1:=p89 (t.wcs (wts t)) r ⟨t,_,rfl⟩
 have it:=i93w t h ht r hr
 have hS:(sls t r).length=(truths t).length:=by rw[sls,List.length_map,wts_len]
 refine fnA 4 ok87 (by simp) ?_
 (conv=>whnf);(repeat'((first|apply bT|apply bF|apply bN|((first|apply bD|apply bEq|apply bNe)<;>intro hh<;>try(exfalso;omega))|refine e1.zq rfl rfl ?_|refine wJ ?_|refine nJ ?_)<;>conv=>whnf))
 refine rng_i (α :=Unit) (sls t r) [0,1,2] [(6, .own 2 0),(5, .own 1 0)] (fun z=>[.box false (t.wcs (wts t)), .box false [.int .i64 m], .box false [.bool false], .fresh]) (fun k z=>∀l∈(truths t).take k,m<tak t r l) () rfl rfl rfl bd93 it rfl mI rfl (fun l hl=>by simp at hl) (fun v hv=>by
   obtain⟨k,hk⟩:=List.mem_iff_getElem?.1 hv
   obtain⟨l,_,rfl⟩:=sls_get t r hk;rfl) ?_ ?_
 ·rintro k v z hv hz
  obtain⟨l,hl,rfl⟩:=sls_get t r hv
  have e2:=p66 (tak t r l) (lef t r l)
  have hk:k<(truths t).length:=(List.getElem?_eq_some_iff.1 hl).1
  by_cases hc:m<tak t r l
  ·(conv=>whnf);(repeat'((first|apply bT|apply bF|apply bN|((first|apply bD|apply bEq|apply bNe)<;>intro hh<;>try(exfalso;omega))|refine e2.cq rfl rfl ?_|refine wJ ?_|refine nJ ?_)<;>conv=>whnf))
   exact⟨(),mI,fun x hx=>by
    rw[List.take_succ_eq_append_getElem hk]at hx
    rcases List.mem_append.1 hx with hx|hx
    ·exact hz x hx
    ·rw[List.mem_singleton]at hx
     have:(truths t)[k]=l:=by rw[List.getElem?_eq_getElem hk]at hl;exact Option.some.inj hl
     rw[hx,this];exact hc⟩
  ·have hd:decide (∀l∈truths t,m<tak t r l)=false:=decide_eq_false fun hh=>hc (hh l (List.mem_of_getElem? hl))
   rw[hd]
   (conv=>whnf);(repeat'((first|apply bT|apply bF|apply bN|((first|apply bD|apply bEq|apply bNe)<;>intro hh<;>try(exfalso;omega))|refine e2.cq rfl rfl ?_|refine wJ ?_|refine nJ ?_)<;>conv=>whnf))
   refine⟨[.box false (t.wcs (wts t)), .box false [.int .i64 m], .box false [.bool false], .fresh],mI,?_⟩
   (conv=>whnf);(repeat'((first|apply bT|apply bF|apply bN|((first|apply bD|apply bEq|apply bNe)<;>intro hh<;>try(exfalso;omega))|refine wJ ?_|refine nJ ?_)<;>conv=>whnf))
   all_goals rfl
 ·rintro z hz
  rw[hS,List.take_length]at hz
  rw[decide_eq_true hz]
  (conv=>whnf);(repeat'((first|apply bT|apply bF|apply bN|((first|apply bD|apply bEq|apply bNe)<;>intro hh<;>try(exfalso;omega))|refine wJ ?_|refine nJ ?_)<;>conv=>whnf))
  all_goals rfl
theorem p72(t:Tour)(h:Sml t)(ts:List (List Int × Nat)):FnA Try.prog 72 [.agg (t.wcs ts)] (· = .fn 80 [.ipt [.int .i64 t.ds], .ipt [.int .i64 ((t.fs.length:Int)-1)], .ipt [.int .i64 t.rc]]):=by
 have lF:(t.fs.map Fair.av).length=t.fs.length:=by simp
 have hf:=h.fs
 have e1:=p53 t.ds ((t.fs.map Fair.av).length-1) t.rc
 refine fnA 1 ok72 (by simp) ?_
 rw[<- lF]
 (conv=>whnf);(repeat'((first|apply bT|apply bF|apply bN|((first|apply bD|apply bEq|apply bNe)<;>intro hh<;>try(exfalso;omega))|refine e1.zq rfl rfl ?_|refine wJ ?_|refine nJ ?_)<;>conv=>whnf))
 all_goals rfl
theorem i80r(t:Tour)(ht:TOk t):ItL Try.prog 80 [.ipt [.int .i64 t.ds], .ipt [.int .i64 ((t.fs.length:Int)-1)], .ipt [.int .i64 t.rc]] (lsL (routes t)) (· = (routes t).length):=by
 have h1:=ht.d1;have h2:=ht.d6;have h3:=ht.c0;have h4:=ht.c4;have h5:=ht.f1;have h6:=ht.f4
 have it:=i80 ((t.fs.length:Int)-1) t.rc t.ds.toNat (by omega) (by omega) (by omega)
 rw[show((t.ds.toNat:Nat):Int)=t.ds from by omega]at it
 exact it
def bz(t:Tour):Nat->List Int × Int
 |0=>([], -1)
 |k+1=>if (bz t k).2<(takS t ((routes t).getD k [])).1 then((routes t).getD k [],(takS t ((routes t).getD k [])).1) else bz t k
theorem tak_nn{t:Tour}(ht:TOk t)(r l:List Int):0<=tak t r l:=(trd_bd ht r l _).2.1
theorem low_nn{t:Tour}(ht:TOk t)(hn:truths t≠[])(r:List Int):0<=(takS t r).1:=by
 have hne:(truths t).map (tak t r)≠[]:=by simpa using hn
 have:=(spn_spec hne).1.1
 obtain⟨l,_,e⟩:=List.mem_map.1 this
 rw[takS,<- e];exact tak_nn ht r l
theorem low_all{t:Tour}(hn:truths t≠[])(r:List Int)(m:Int):(∀l∈truths t,m<tak t r l)<->m<(takS t r).1:=by
 have hne:(truths t).map (tak t r)≠[]:=by simpa using hn
 have hs:=spn_spec hne
 constructor
 ·intro h
  obtain⟨l,hl,e⟩:=List.mem_map.1 hs.1.1
  rw[takS,<- e];exact h l hl
 ·intro h l hl
  have:=(hs.2 _ (List.mem_map_of_mem (f:=tak t r) hl)).1
  rw[takS]at h;omega
theorem bz_spec{t:Tour}(ht:TOk t)(hn:truths t≠[]):∀k,k<=(routes t).length->(k=0/\bz t k=([], -1))\/(0<k/\(bz t k).2=mxK ((routes t).map fun r=>(takS t r).1) k/\(bz t k).1∈routes t/\(takS t (bz t k).1).1=(bz t k).2):=by
 intro k;induction k with
 |zero=>intro _;exact .inl ⟨rfl,rfl⟩
 |succ k ih=>
  intro hk
  right
  have hg:(routes t).getD k []∈routes t:=by rw[List.getD_eq_getElem?_getD,List.getElem?_eq_getElem (by omega)];exact List.getElem_mem _
  have hx:((routes t).map fun r=>(takS t r).1).getD k 0=(takS t ((routes t).getD k [])).1:=by
   rw[List.getD_eq_getElem?_getD,List.getElem?_map,List.getD_eq_getElem?_getD,List.getElem?_eq_getElem (by omega)];rfl
  have hl:=low_nn ht hn ((routes t).getD k [])
  rw[bz,mxK,hx]
  refine⟨by omega,?_⟩
  rcases ih (by omega)with⟨h0,he⟩|⟨h0,h1,h2,h3⟩
  ·subst h0
   rw[he,if_pos (by dsimp only;omega),mxK]
   exact⟨by dsimp only;omega,hg,rfl⟩
  ·split
   ·rename_i hc
    exact⟨by dsimp only;omega,hg,rfl⟩
   ·rename_i hc
    exact⟨by omega,h2,h3⟩
theorem rts_ne{t:Tour}(ht:TOk t):0<(routes t).length:=by
 have:List.replicate t.ds.toNat (0:Int)∈routes t:=by
  have h1:=ht.f1;have h3:=ht.c0
  refine(mem_rws (by omega)).2 ⟨by simp,by simp,fun i _ hi=>?_⟩
  have e:∀j,(List.replicate t.ds.toNat (0:Int)).getD j 0=0:=fun j=>by
   rw[List.getD_eq_getElem?_getD,List.getElem?_replicate];split<;>rfl
  unfold posOk stepP
  rw[e,e]
  omega
 cases hr:routes t with
 |nil=>rw[hr]at this;cases this
 |cons a b=>simp
theorem bz_best{t:Tour}(ht:TOk t)(hn:truths t≠[]):(bz t (routes t).length).2=best t/\(bz t (routes t).length).1∈routes t/\(takS t (bz t (routes t).length).1).1=best t:=by
 have h0:=rts_ne ht
 rcases bz_spec ht hn _ (Nat.le_refl _)with⟨h1,_⟩|⟨_,h1,h2,h3⟩
 ·omega
 ·have:best t=mxK ((routes t).map fun r=>(takS t r).1) (routes t).length:=by rw[best,mx,List.length_map]
  rw[this]
  exact⟨h1,h2,h3.trans h1⟩
theorem p70(t:Tour)(h:Sml t)(ht:TOk t)(hn:truths t≠[]):FnA Try.prog 70 [.agg (t.wcs (wts t))] (· = .tup [.isl ((bz t (routes t).length).1.map jAV), .int .i64 (best t)]):=by
 have e1:=p72 t h (wts t)
 have it:=i80r t ht
 have h1:=ht.d1;have h2:=ht.d6
 rw[<- (bz_best ht hn).1]
 refine fnA 7 ok70 (by simp) ?_
 (conv=>whnf);(repeat'((first|apply bT|apply bF|apply bN|((first|apply bD|apply bEq|apply bNe)<;>intro hh<;>try(exfalso;omega))|refine e1.zq rfl rfl ?_|refine wJ ?_|refine nJ ?_)<;>conv=>whnf))
 refine rng_l (α :=List Int × Int) (lsL (routes t)) (· = (routes t).length) 6 [0,1,2] [(1, .own 0 0),(2, .own 1 0),(3, .own 2 0)] (fun z=>[.box false (t.wcs (wts t)), .box false [.row 5], .box false [.int .i64 z.2], .fresh, .fresh, .row false 3 1 (z.1.map jAV), .fresh]) (fun k z=>z=bz t k/\k<=(routes t).length) ([], -1) rfl rfl rfl bd80 it rfl (mA [(5,none)]) rfl ⟨rfl,by omega⟩ rfl (fun z=>⟨rfl,rfl⟩) ?_ ?_
 ·rintro k el sz es k' z ⟨rfl,rfl,⟨l,hl,rfl⟩,rfl⟩ ⟨hz,hk0⟩
  have hm:=List.mem_of_getElem? hl
  have hr:=(mem_routes ht).1 hm
  have hlen:=rteL ht hm
  have hk:k<(routes t).length:=(List.getElem?_eq_some_iff.1 hl).1
  have hgd:(routes t).getD k []=l:=by rw[List.getD_eq_getElem?_getD,hl];rfl
  have e2:=p87 t h ht l hr z.2
  have e3:=p73 t h ht hn l hr 66 (tak t l) (.inl ⟨rfl,rfl⟩)
  have e5:=p88 l (by omega) (by omega)
  rw[show spn ((truths t).map (tak t l))=takS t l from rfl]at e3
  by_cases hc:z.2<(takS t l).1
  ·rw[decide_eq_true ((low_all hn l z.2).2 hc)]at e2
   have ek:bz t (k+1)=(l,(takS t l).1):=by rw[bz,hgd,<- hz,if_pos hc]
   (conv=>whnf);(repeat'((first|apply bT|apply bF|apply bN|((first|apply bD|apply bEq|apply bNe)<;>intro hh<;>try(exfalso;omega))|refine e2.lq rfl rfl ?_|refine e3.lq rfl rfl ?_|((refine e5.calllq rfl rfl (fun r rows hr=>?_);obtain⟨rfl,rfl⟩:=hr;refine⟨rfl,by show(AV.flatL _&&true)=true;rw[jflat];rfl,rfl,?_⟩))|refine wJ ?_|refine nJ ?_)<;>conv=>whnf))
   exact⟨(l,(takS t l).1),(mA [(5,some 3)]),ek.symm,by omega⟩
  ·rw[decide_eq_false (fun hh=>hc ((low_all hn l z.2).1 hh))]at e2
   have ek:bz t (k+1)=z:=by rw[bz,hgd,<- hz,if_neg hc]
   (conv=>whnf);(repeat'((first|apply bT|apply bF|apply bN|((first|apply bD|apply bEq|apply bNe)<;>intro hh<;>try(exfalso;omega))|refine e2.lq rfl rfl ?_|refine wJ ?_|refine nJ ?_)<;>conv=>whnf))
   exact⟨z,mI,ek.symm,by omega⟩
 ·rintro k z hk ⟨hz,_⟩
  subst hk
  rw[<- hz]
  (conv=>whnf);(repeat'((first|apply bT|apply bF|apply bN|((first|apply bD|apply bEq|apply bNe)<;>intro hh<;>try(exfalso;omega))|refine wJ ?_|refine nJ ?_)<;>conv=>whnf))
  all_goals rfl
theorem ok_of_err{t:Tour}{b:Bool}(h:t.err b=0):TOk t/\truths t≠[]:=⟨(err_zero.1 h).1,(err_zero.1 h).2.2⟩
theorem p19(t:Tour)(h:Sml t):FnA Try.prog 19 [.agg t.cells] (· = .tup [.int .i64 (if t.err true=0 then(truths t).length else 0), .int .i64 (t.err true)]):=by
 have e1:=p57 t h true
 have hL:((wts t).map tAV).length=(truths t).length:=by rw[List.length_map,wts_len]
 refine fnA 5 ok19 (by simp) ?_
 by_cases h0:t.err true=0
 ·rw[if_pos h0]at e1⊢
  rw[<- hL]
  (conv=>whnf);(repeat'((first|apply bT|apply bF|apply bN|((first|apply bD|apply bEq|apply bNe)<;>intro hh<;>try(exfalso;omega))|refine e1.zq rfl rfl ?_|refine wJ ?_|refine nJ ?_)<;>conv=>whnf))
  all_goals rfl
 ·rw[if_neg h0]at e1⊢
  (conv=>whnf);(repeat'((first|apply bT|apply bF|apply bN|((first|apply bD|apply bEq|apply bNe)<;>intro hh<;>try(exfalso;omega))|refine e1.zq rfl rfl ?_|refine wJ ?_|refine nJ ?_)<;>conv=>whnf))
  all_goals rfl
theorem p31(t:Tour)(h:Sml t):FnA Try.prog 31 [.agg t.cells] (· = .tup [.int .i64 (if t.err true=0 then Go.Proofs.best t else 0), .int .i64 (t.err true)]):=by
 have e1:=p57 t h true
 refine fnA 6 ok31 (by simp) ?_
 by_cases h0:t.err true=0
 ·obtain⟨ht,hn⟩:=ok_of_err h0
  have e2:=p70 t h ht hn
  rw[if_pos h0]at e1⊢
  rw[h0]at e1⊢
  (conv=>whnf);(repeat'((first|apply bT|apply bF|apply bN|((first|apply bD|apply bEq|apply bNe)<;>intro hh<;>try(exfalso;omega))|refine e1.zq rfl rfl ?_|refine e2.zq rfl rfl ?_|refine wJ ?_|refine nJ ?_)<;>conv=>whnf))
  all_goals rfl
 ·rw[if_neg h0]at e1⊢
  (conv=>whnf);(repeat'((first|apply bT|apply bF|apply bN|((first|apply bD|apply bEq|apply bNe)<;>intro hh<;>try(exfalso;omega))|refine e1.zq rfl rfl ?_|refine wJ ?_|refine nJ ?_)<;>conv=>whnf))
  all_goals first|rfl|exact absurd (by assumption) h0
theorem p35(t:Tour)(h:Sml t):FnA Try.prog 35 [.agg t.cells] (fun v=>∃(r:List Int) (e:Int),v = .tup [.isl (r.map jAV), .int .i64 e]/\RteOk t r e):=by
 have e1:=p57 t h true
 refine fnA 6 ok35 (by simp) ?_
 by_cases h0:t.err true=0
 ·obtain⟨ht,hn⟩:=ok_of_err h0
  have e2:=p70 t h ht hn
  have hb:=bz_best ht hn
  rw[if_pos h0]at e1
  rw[h0]at e1
  (conv=>whnf);(repeat'((first|apply bT|apply bF|apply bN|((first|apply bD|apply bEq|apply bNe)<;>intro hh<;>try(exfalso;omega))|refine e1.zq rfl rfl ?_|refine e2.zq rfl rfl ?_|refine wJ ?_|refine nJ ?_)<;>conv=>whnf))
  all_goals exact⟨(bz t (routes t).length).1,0,rfl,h0.symm,by rw[if_pos h0];exact⟨(mem_routes ht).1 hb.2.1,hb.2.2⟩⟩
 ·rw[if_neg h0]at e1
  (conv=>whnf);(repeat'((first|apply bT|apply bF|apply bN|((first|apply bD|apply bEq|apply bNe)<;>intro hh<;>try(exfalso;omega))|refine e1.zq rfl rfl ?_|refine wJ ?_|refine nJ ?_)<;>conv=>whnf))
  all_goals first|exact⟨[],t.err true,rfl,rfl,by rw[if_neg h0]⟩|exact absurd (by assumption) h0
theorem p33(t:Tour)(h:Sml t):FnA Try.prog 33 [.agg t.cells] (· = .tup [.int .i64 (if t.err true=0 then Go.Proofs.hopes t else 0), .int .i64 (t.err true)]):=by
 have e1:=p57 t h true
 refine fnA 8 ok33 (by simp) ?_
 by_cases h0:t.err true=0
 ·obtain⟨ht,hn⟩:=ok_of_err h0
  have h1:=ht.d1;have h2:=ht.d6
  have e2:=p72 t h (wts t)
  have it:=i80r t ht
  rw[if_pos h0]at e1⊢
  rw[h0]at e1⊢
  have hm0:mxK ((routes t).map fun r=>(takS t r).2) 0=0:=rfl
  (conv=>whnf);(repeat'((first|apply bT|apply bF|apply bN|((first|apply bD|apply bEq|apply bNe)<;>intro hh<;>try(exfalso;omega))|refine e1.zq rfl rfl ?_|refine e2.zq rfl rfl ?_|refine wJ ?_|refine nJ ?_)<;>conv=>whnf))
  refine rng_l (α :=Nat) (lsL (routes t)) (· = (routes t).length) 7 [0,4,5] [(4, .own 4 0),(6, .own 5 0)] (fun k=>[.box false t.cells, .fresh, .fresh, .fresh, .box false (t.wcs (wts t)), .box false [.int .i64 (mxK ((routes t).map fun r=>(takS t r).2) k)], .fresh, .fresh]) (fun k z=>z=k/\k<=(routes t).length) 0 rfl rfl rfl bd80 it rfl mI rfl ⟨rfl,by omega⟩ rfl (fun z=>⟨rfl,rfl⟩) ?_ ?_
  ·rintro k el sz es k' z ⟨rfl,rfl,⟨l,hl,rfl⟩,rfl⟩ ⟨rfl,hk0⟩
   have hm:=List.mem_of_getElem? hl
   have hr:=(mem_routes ht).1 hm
   have hk:z<(routes t).length:=(List.getElem?_eq_some_iff.1 hl).1
   have e3:=p73 t h ht hn l hr 66 (tak t l) (.inl ⟨rfl,rfl⟩)
   rw[show spn ((truths t).map (tak t l))=takS t l from rfl]at e3
   have ek:mxK ((routes t).map fun r=>(takS t r).2) (z+1)=max (mxK ((routes t).map fun r=>(takS t r).2) z) (takS t l).2:=by
    rw[mxK,List.getD_eq_getElem?_getD,List.getElem?_map,hl];rfl
   (conv=>whnf);(repeat'((first|apply bT|apply bF|apply bN|((first|apply bD|apply bEq|apply bNe)<;>intro hh<;>try(exfalso;omega))|refine e3.lq rfl rfl ?_|refine wJ ?_|refine nJ ?_)<;>conv=>whnf))
   refine⟨z+1,?_,rfl,by omega⟩
   rw[ek]
   exact mI
  ·rintro k z hk ⟨rfl,hz⟩
   subst hk
   rw[show hopes t=mxK ((routes t).map fun r=>(takS t r).2) (routes t).length from by rw[hopes,mx,List.length_map]]
   (conv=>whnf);(repeat'((first|apply bT|apply bF|apply bN|((first|apply bD|apply bEq|apply bNe)<;>intro hh<;>try(exfalso;omega))|refine wJ ?_|refine nJ ?_)<;>conv=>whnf))
   all_goals rfl
 ·rw[if_neg h0]at e1⊢
  (conv=>whnf);(repeat'((first|apply bT|apply bF|apply bN|((first|apply bD|apply bEq|apply bNe)<;>intro hh<;>try(exfalso;omega))|refine e1.zq rfl rfl ?_|refine wJ ?_|refine nJ ?_)<;>conv=>whnf))
  all_goals first|rfl|exact absurd (by assumption) h0
theorem p65(t:Tour)(h:Sml t)(r:List Int)(hr:r.length<=100)(g:Nat)(F:List Int->Int)(S:Int × Int)(hS:S=spn ((truths t).map F))(hg:(g=66/\F=tak t r)\/(g=68/\F=lef t r)) :
  FnA Try.prog 65 [.agg t.cells, .isl (r.map jAV), .fn g []] (· = spS t (t.err (isRte t r)) S):=by
 have e0:=p86 t h r hr
 unfold spS
 refine fnA 7 ok65 (by simp) ?_
 (conv=>whnf);(repeat'((first|apply bT|apply bF|apply bN|((first|apply bD|apply bEq|apply bNe)<;>intro hh<;>try(exfalso;omega))|((refine e0.lendq rfl (fun v hv=>?_);obtain⟨b,rfl,hb⟩:=hv;refine⟨rfl,?_⟩))|refine wJ ?_|refine nJ ?_)<;>conv=>whnf))
 have hbe:t.err b=t.err (isRte t r):=by
  unfold Tour.err
  by_cases ho:t.ok=true
  ·rw[hb ho]
  ·rw[if_neg ho,if_neg ho]
 have e1:=p57 t h b
 rw[hbe]at e1
 by_cases h0:t.err (isRte t r)=0
 ·obtain⟨ht,hrt,hn⟩:=err_zero.1 h0
  have e2:=p73 t h ht hn r hrt g F hg
  rw[<- hS]at e2
  rw[if_pos h0]at e1⊢
  rw[h0]at e1⊢
  (conv=>whnf);(repeat'((first|apply bT|apply bF|apply bN|((first|apply bD|apply bEq|apply bNe)<;>intro hh<;>try(exfalso;omega))|refine e1.zq rfl rfl ?_|refine e2.cq rfl rfl ?_|refine wJ ?_|refine nJ ?_)<;>conv=>whnf))
  all_goals rfl
 ·rw[if_neg h0]at e1⊢
  (conv=>whnf);(repeat'((first|apply bT|apply bF|apply bN|((first|apply bD|apply bEq|apply bNe)<;>intro hh<;>try(exfalso;omega))|refine e1.zq rfl rfl ?_|refine wJ ?_|refine nJ ?_)<;>conv=>whnf))
  all_goals first|rfl|exact absurd (by assumption) h0
theorem p27(t:Tour)(r:List Int)(h:Sml t)(hr:r.length<=100):FnA Try.prog 27 [.agg t.cells, .isl (r.map jAV)] (· = spS t (t.err (isRte t r)) (takS t r)):=by
 have e1:=p65 t h r hr 66 (tak t r) _ rfl (.inl ⟨rfl,rfl⟩)
 refine fnA 2 ok27 (by simp) ?_
 unfold spS at e1⊢
 (conv=>whnf);(repeat'((first|apply bT|apply bF|apply bN|((first|apply bD|apply bEq|apply bNe)<;>intro hh<;>try(exfalso;omega))|refine e1.cq rfl rfl ?_|refine wJ ?_|refine nJ ?_)<;>conv=>whnf))
 all_goals rfl
theorem p29(t:Tour)(r:List Int)(h:Sml t)(hr:r.length<=100):FnA Try.prog 29 [.agg t.cells, .isl (r.map jAV)] (· = spS t (t.err (isRte t r)) (lefS t r)):=by
 have e1:=p65 t h r hr 68 (lef t r) _ rfl (.inr ⟨rfl,rfl⟩)
 refine fnA 2 ok29 (by simp) ?_
 unfold spS at e1⊢
 (conv=>whnf);(repeat'((first|apply bT|apply bF|apply bN|((first|apply bD|apply bEq|apply bNe)<;>intro hh<;>try(exfalso;omega))|refine e1.cq rfl rfl ?_|refine wJ ?_|refine nJ ?_)<;>conv=>whnf))
 all_goals rfl
theorem p61(l:List Int)(n:Nat)(d v:Int)(h0:0<=d)(h1:d.toNat<l.length)(hl:l.length<=1000000):FnA Try.prog 61 [.agg [.isl (l.map jAV), .int .i64 n], .ipt [.int .i64 d], .ipt [.int .i64 v]] (· = .bool (decide (l.getD d.toNat 0=v))):=by
 have hL:(l.map jAV).length=l.length:=by simp
 have g1:=getJ l d.toNat h1
 refine fnA 1 ok61 (by simp) ?_
 (conv=>whnf);(repeat'((first|apply bT|apply bF|apply bN|((first|apply bD|apply bEq|apply bNe)<;>intro hh<;>try(exfalso;omega))|refine iaJ g1 ?_|refine wJ ?_|refine nJ ?_)<;>conv=>whnf))
 all_goals first|rfl|exact congrArg AV.bool (decide_eq_decide.2 (by omega))|exact congrArg AV.bool (decide_eq_true (by omega)).symm|exact congrArg AV.bool (decide_eq_false (by omega)).symm
theorem p84(ts:List (List Int × Nat))(d v:Int)(h0:0<=d)(hl:ts.length<=1000000)(hd:∀p∈ts,d.toNat<p.1.length/\p.1.length<=1000000):FnA Try.prog 84 [.isl (ts.map tAV), .fn 61 [.ipt [.int .i64 d], .ipt [.int .i64 v]]] (fun r=>∃i:Int,r = .int .i64 i/\decide (0<=i)=ts.any (fun p=>decide (p.1.getD d.toNat 0=v))):=by
 have hL:(ts.map tAV).length=ts.length:=by simp
 refine fnA 0 ok84 (by simp) ?_
 (conv=>whnf);(repeat'((first|apply bT|apply bF|apply bN|((first|apply bD|apply bEq|apply bNe)<;>intro hh<;>try(exfalso;omega))|refine wJ ?_|refine nJ ?_)<;>conv=>whnf))
 refine loop_i (α :=Nat) (fun k=>[(8, .int .i64 k),(7, .int .i64 ↑(ts.map tAV).length),(1, .fn 61 [.ipt [.int .i64 d], .ipt [.int .i64 v]]),(0, .isl (ts.map tAV))]) (fun k=>[]) (fun k=>k<=ts.length/\∀p∈ts.take k,decide (p.1.getD d.toNat 0=v)=false) (fun k=>ts.length-k) 0 mI ⟨by omega,by simp⟩ ?_
 rintro k ⟨h1,h2⟩
 conv=>whnf
 refine bD (fun h3=>?_) (fun h3=>?_)
 ·have hk:k<ts.length:=by omega
  have hx:=hd _ (List.getElem_mem hk)
  have hv:FnV Try.prog (.fn 61 [.ipt [.int .i64 d], .ipt [.int .i64 v]]) [.agg [.isl (ts[k].1.map jAV), .int .i64 ts[k].2]] (· = .bool (decide (ts[k].1.getD d.toNat 0=v))):=fnV_of bd61 (p61 ts[k].1 ts[k].2 d v h0 hx.1 hx.2)
  have g1:(ts.map tAV).getD k []=[.isl (ts[k].1.map jAV), .int .i64 ts[k].2]:=getM tAV ts k hk
  cases hc:decide (ts[k].1.getD d.toNat 0=v)with
  |true=>
   rw[hc]at hv
   (conv=>whnf);(repeat'((first|apply bT|apply bF|apply bN|((first|apply bD|apply bEq|apply bNe)<;>intro hh<;>try(exfalso;omega))|refine iaJ g1 ?_|(refine hv.vcallq rfl rfl rfl rfl (fun r (hr:r=_)=>?_);subst hr)|refine wJ ?_|refine nJ ?_)<;>conv=>whnf))
   all_goals exact⟨(k:Int),rfl,by rw[decide_eq_true (show(0:Int)<=(k:Int) by omega),List.any_eq_true.2 ⟨_,List.getElem_mem hk,hc⟩]⟩
  |false=>
   rw[hc]at hv
   (conv=>whnf);(repeat'((first|apply bT|apply bF|apply bN|((first|apply bD|apply bEq|apply bNe)<;>intro hh<;>try(exfalso;omega))|refine iaJ g1 ?_|(refine hv.vcallq rfl rfl rfl rfl (fun r (hr:r=_)=>?_);subst hr)|refine wJ ?_|refine nJ ?_)<;>conv=>whnf))
   exact⟨k+1,mI,⟨by omega,take_none hk h2 hc⟩,by omega⟩
 ·have:k=ts.length:=by omega
  subst this
  rw[List.take_length]at h2
  (conv=>whnf);(repeat'((first|apply bT|apply bF|apply bN|((first|apply bD|apply bEq|apply bNe)<;>intro hh<;>try(exfalso;omega))|refine wJ ?_|refine nJ ?_)<;>conv=>whnf))
  all_goals exact⟨-1,rfl,by rw[decide_eq_false (show ¬(0:Int) <= -1 by omega),List.any_eq_false.2 (fun p hp=>by rw[h2 p hp];simp)]⟩
theorem p60(ts:List (List Int × Nat))(d v:Int)(h0:0<=d)(hl:ts.length<=1000000)(hd:∀p∈ts,d.toNat<p.1.length/\p.1.length<=1000000):FnA Try.prog 60 [.isl (ts.map tAV), .fn 61 [.ipt [.int .i64 d], .ipt [.int .i64 v]]] (· = .bool (ts.any (fun p=>decide (p.1.getD d.toNat 0=v)))):=by
 have e1:=p84 ts d v h0 hl hd
 refine fnA 0 ok60 (by simp) ?_
 conv=>whnf
 refine e1.callq rfl rfl (fun r hr=>?_)
 obtain⟨i,rfl,hi⟩:=hr
 rw[<- hi]
 (conv=>whnf);(repeat'((first|apply bT|apply bF|apply bN|((first|apply bD|apply bEq|apply bNe)<;>intro hh<;>try(exfalso;omega))|refine wJ ?_|refine nJ ?_)<;>conv=>whnf))
 all_goals first|rfl|exact congrArg AV.bool (decide_eq_decide.2 (by omega))|exact congrArg AV.bool (decide_eq_true (by omega)).symm|exact congrArg AV.bool (decide_eq_false (by omega)).symm
theorem fnAimp{P:Program}{f:FuncId}{a:List AV}{R R':AV->Prop}(h:FnA P f a R)(hm:∀r,R r->R' r):FnA P f a R':=by
 unfold FnA at h⊢
 exact fun imm w vs h1 h2=>(h imm w vs h1 h2).mono fun e w' hq=>by
  obtain⟨v,r,imm',q1,q2,q3⟩:=hq
  exact⟨v,r,imm',q1,hm r q2,q3⟩
theorem p21(t:Tour)(d:Int)(h:Sml t):FnA Try.prog 21 [.agg t.cells, .int .i64 d] (· = .tup [.isl ((if t.err (decide (0<=d/\d<=t.ds-1))=0 then lvl t d else []).map jAV), .int .i64 (t.err (decide (0<=d/\d<=t.ds-1)))]):=by
 have e0:FnA Try.prog 59 [.agg t.cells, .int .i64 d] (fun r=>∃c,r = .bool c/\t.err c=t.err (decide (0<=d/\d<=t.ds-1))):=by
  by_cases ho:t.ok=true
  ·have ht:=ok_iff.1 ho
   exact fnAimp (p59 t d ⟨ht.d1,ht.d6⟩) fun r hr=>⟨_,hr,rfl⟩
  ·exact fnAimp (p59u t d) fun r hr=>by
    obtain⟨c,hc⟩:=hr
    exact⟨c,hc,by unfold Tour.err;rw[if_neg ho,if_neg ho]⟩
 refine fnA 12 ok21 (by simp) ?_
 (conv=>whnf);(repeat'((first|apply bT|apply bF|apply bN|((first|apply bD|apply bEq|apply bNe)<;>intro hh<;>try(exfalso;omega))|((refine e0.lendq rfl (fun v hv=>?_);obtain⟨b,rfl,hb⟩:=hv;refine⟨rfl,?_⟩))|refine wJ ?_|refine nJ ?_)<;>conv=>whnf))
 have e1:=p57 t h b
 rw[hb]at e1
 by_cases h0:t.err (decide (0<=d/\d<=t.ds-1))=0
 ·obtain⟨ht,hdd,hn⟩:=err_zero.1 h0
  have hdd2:=of_decide_eq_true hdd
  have h1:=ht.d1
  rw[if_pos h0]at e1⊢
  rw[h0]at e1⊢
  have hal:=all_len ht
  have hwl:(wts t).length<=4096:=Nat.le_trans (wz_mem t _ (Nat.le_refl _)).2.2 hal
  have hany:∀v:Int,(wts t).any (fun p=>decide (p.1.getD d.toNat 0=v))=decide (v∈fnd t d):=fun v=>by
   rw[fnd,<- wts_truths,Bool.eq_iff_iff]
   simp only[List.any_eq_true,decide_eq_true_eq,List.map_map,List.mem_map,Function.comp]
  have e2:∀v:Int,FnA Try.prog 60 [.isl ((wts t).map tAV), .fn 61 [.ipt [.int .i64 d], .ipt [.int .i64 v]]] (· = .bool (decide (v∈fnd t d))):=fun v=>by
   rw[<- hany]
   exact p60 (wts t) d v hdd2.1 (by omega) (fun p hp=>by rw[rowL ht (wts_mem t hp)];have:=ht.d6;omega)
  (conv=>whnf);(repeat'((first|apply bT|apply bF|apply bN|((first|apply bD|apply bEq|apply bNe)<;>intro hh<;>try(exfalso;omega))|refine e1.zq rfl rfl ?_|refine wJ ?_|refine nJ ?_)<;>conv=>whnf))
  refine loop_i (α :=Nat) (fun k=>[(21, .int .i64 k),(8, .row 11),(6, .own 5 0),(3, .own 1 0)]) (fun k=>[.box false t.cells, .box false [.int .i64 d], .fresh, .fresh, .fresh, .box false (t.wcs (wts t)), .fresh, .fresh, .fresh, .fresh, .fresh, .row false 3 1 ((lvK (fnd t d) k).map jAV)]) (fun k=>k<=4) (fun k=>4-k) 0 (mA [(11,none)]) (by omega) ?_
  rintro k hk
  have hlk:=lvK_len (fnd t d) k
  have hlm:((lvK (fnd t d) k).map jAV).length=(lvK (fnd t d) k).length:=by simp
  conv=>whnf
  refine bD (fun h3=>?_) (fun h3=>?_)
  ·have e3:=e2 k
   by_cases hc:(k:Int)∈fnd t d
   ·rw[decide_eq_true hc]at e3
    have ek:(lvK (fnd t d) (k+1)).map jAV=(lvK (fnd t d) k).map jAV++[[.int .i64 k]]:=by rw[lvK,if_pos hc,List.map_append];rfl
    (conv=>whnf);(repeat'((first|apply bT|apply bF|apply bN|((first|apply bD|apply bEq|apply bNe)<;>intro hh<;>try(exfalso;omega))|refine e3.lq rfl rfl ?_|(refine apJ ?_)|refine wJ ?_|refine nJ ?_)<;>conv=>whnf))
    refine⟨k+1,?_,by omega,by omega⟩
    rw[ek]
    exact(mA [(11,some 8)])
   ·rw[decide_eq_false hc]at e3
    have ek:lvK (fnd t d) (k+1)=lvK (fnd t d) k:=by rw[lvK,if_neg hc,List.append_nil]
    (conv=>whnf);(repeat'((first|apply bT|apply bF|apply bN|((first|apply bD|apply bEq|apply bNe)<;>intro hh<;>try(exfalso;omega))|refine e3.lq rfl rfl ?_|refine wJ ?_|refine nJ ?_)<;>conv=>whnf))
    refine⟨k+1,?_,by omega,by omega⟩
    rw[ek]
    exact mI
  ·have:k=4:=by omega
   subst this
   (conv=>whnf);(repeat'((first|apply bT|apply bF|apply bN|((first|apply bD|apply bEq|apply bNe)<;>intro hh<;>try(exfalso;omega))|refine wJ ?_|refine nJ ?_)<;>conv=>whnf))
   all_goals rfl
 ·rw[if_neg h0]at e1⊢
  (conv=>whnf);(repeat'((first|apply bT|apply bF|apply bN|((first|apply bD|apply bEq|apply bNe)<;>intro hh<;>try(exfalso;omega))|refine e1.zq rfl rfl ?_|refine wJ ?_|refine nJ ?_)<;>conv=>whnf))
  all_goals first|rfl|exact absurd (by assumption) h0
theorem p23(t:Tour)(x:Int)(h:Sml t):FnA Try.prog 23 [.agg t.cells, .int .i64 x] (· = .tup [.int .i64 (if t.err (decide (0<=x/\x<=(t.rn.length:Int)-1))=0 then rgtV t (t.rn.getD x.toNat ⟨0,0,0⟩) else 0), .int .i64 (t.err (decide (0<=x/\x<=(t.rn.length:Int)-1)))]):=by
 have e0:=p63 t x h
 have e1:=p57 t h (decide (0<=x/\x<=(t.rn.length:Int)-1))
 refine fnA 6 ok23 (by simp) ?_
 by_cases h0:t.err (decide (0<=x/\x<=(t.rn.length:Int)-1))=0
 ·obtain⟨ht,hdd,hn⟩:=err_zero.1 h0
  have hdd2:=of_decide_eq_true hdd
  rw[if_pos h0]at e1⊢
  rw[h0]at e1⊢
  have h1:=ht.d1
  have hal:=all_len ht
  have hwl:(wts t).length<=4096:=Nat.le_trans (wz_mem t _ (Nat.le_refl _)).2.2 hal
  have hT:((wts t).map tAV).length=(wts t).length:=by simp
  have hR:(t.rn.map Rain.av).length=t.rn.length:=by simp
  have hx:x.toNat<t.rn.length:=by omega
  have hgx:t.rn.getD x.toNat ⟨0,0,0⟩=t.rn[x.toNat]:=by rw[List.getD_eq_getElem?_getD,List.getElem?_eq_getElem hx];rfl
  have g1:=getM Rain.av t.rn x.toNat hx
  rw[<- hgx]at g1
  have hrx:=(ht.rn _ (List.getElem_mem hx)).1
  rw[<- hgx]at hrx
  generalize t.rn.getD x.toNat ⟨0,0,0⟩=X at *
  (conv=>whnf);(repeat'((first|apply bT|apply bF|apply bN|((first|apply bD|apply bEq|apply bNe)<;>intro hh<;>try(exfalso;omega))|refine e0.cq rfl rfl ?_|refine e0.lq rfl rfl ?_|refine e1.zq rfl rfl ?_|refine wJ ?_|refine nJ ?_)<;>conv=>whnf))
  refine loop_i (α :=Nat) (fun k=>[(25, .int .i64 k),(24, .int .i64 ↑((wts t).map tAV).length),(23, .isl ((wts t).map tAV)),(8, .int .i64 (((wts t).take k).countP (fun p=>isRt X p.1))),(6, .own 4 0),(1, .int .i64 x)]) (fun k=>[.box false t.cells, .fresh, .fresh, .fresh, .box false (t.wcs (wts t)), .fresh]) (fun k=>k<=(wts t).length) (fun k=>(wts t).length-k) 0 mI (by omega) ?_
  rintro k hk
  have hct:((wts t).take k).countP (fun p=>isRt X p.1)<=4096:=Nat.le_trans List.countP_le_length (by simp;omega)
  conv=>whnf
  refine bD (fun h3=>?_) (fun h3=>?_)
  ·have hk2:k<(wts t).length:=by omega
   have g2:((wts t).map tAV).getD k []=[.isl ((wts t)[k].1.map jAV), .int .i64 (wts t)[k].2]:=getM tAV (wts t) k hk2
   have hm:=wts_mem t (List.getElem_mem hk2)
   have e3:=p64 X (wts t)[k].1 (by omega) (by rw[rowL ht hm];omega) (by rw[rowL ht hm];have:=ht.d6;omega)
   have ek:((wts t).take (k+1)).countP (fun p=>isRt X p.1)=((wts t).take k).countP (fun p=>isRt X p.1)+if isRt X (wts t)[k].1=true then 1 else 0:=by
    rw[List.take_succ_eq_append_getElem hk2,List.countP_append,List.countP_singleton]
   cases hc:isRt X (wts t)[k].1<;>rw[hc]at e3 ek
   ·rw[if_neg (by simp),Nat.add_zero]at ek
    (conv=>whnf);(repeat'((first|apply bT|apply bF|apply bN|((first|apply bD|apply bEq|apply bNe)<;>intro hh<;>try(exfalso;omega))|refine iaJ g2 ?_|refine iaJ g1 ?_|refine e3.cq rfl rfl ?_|refine wJ ?_|refine nJ ?_)<;>conv=>whnf))
    refine⟨k+1,?_,by omega,by omega⟩
    rw[ek]
    exact mI
   ·rw[if_pos rfl]at ek
    (conv=>whnf);(repeat'((first|apply bT|apply bF|apply bN|((first|apply bD|apply bEq|apply bNe)<;>intro hh<;>try(exfalso;omega))|refine iaJ g2 ?_|refine iaJ g1 ?_|refine e3.cq rfl rfl ?_|refine wJ ?_|refine nJ ?_)<;>conv=>whnf))
    refine⟨k+1,?_,by omega,by omega⟩
    rw[ek]
    exact mI
  ·have:k=(wts t).length:=by omega
   subst this
   rw[List.take_length]at hct
   have hc:(wts t).countP (fun p=>isRt X p.1)=(truths t).countP (isRt X):=by rw[<- wts_truths,List.countP_map];rfl
   have hle:(truths t).countP (isRt X)<=(truths t).length:=List.countP_le_length
   have hlen:=wts_len t
   have htl:((wts t).take (wts t).length).countP (fun p=>isRt X p.1)=(truths t).countP (isRt X):=by rw[List.take_length,hc]
   have hpos:0<(truths t).length:=List.length_pos_iff.2 hn
   unfold rgtV
   dsimp only
   by_cases c1:(truths t).countP (isRt X)=(truths t).length
   ·rw[if_pos c1]
    (conv=>whnf);(repeat'((first|apply bT|apply bF|apply bN|((first|apply bD|apply bEq|apply bNe)<;>intro hh<;>try(exfalso;omega))|refine wJ ?_|refine nJ ?_)<;>conv=>whnf))
    all_goals rfl
   ·rw[if_neg c1]
    by_cases c2:(truths t).countP (isRt X)=0
    ·rw[if_pos c2]
     (conv=>whnf);(repeat'((first|apply bT|apply bF|apply bN|((first|apply bD|apply bEq|apply bNe)<;>intro hh<;>try(exfalso;omega))|refine wJ ?_|refine nJ ?_)<;>conv=>whnf))
     all_goals rfl
    ·rw[if_neg c2]
     (conv=>whnf);(repeat'((first|apply bT|apply bF|apply bN|((first|apply bD|apply bEq|apply bNe)<;>intro hh<;>try(exfalso;omega))|refine wJ ?_|refine nJ ?_)<;>conv=>whnf))
     all_goals rfl
 ·rw[if_neg h0]at e1⊢
  (conv=>whnf);(repeat'((first|apply bT|apply bF|apply bN|((first|apply bD|apply bEq|apply bNe)<;>intro hh<;>try(exfalso;omega))|refine e0.lq rfl rfl ?_|refine e1.zq rfl rfl ?_|refine wJ ?_|refine nJ ?_)<;>conv=>whnf))
  all_goals first|rfl|exact absurd (by assumption) h0
theorem prg:Prg:=⟨p15,p17,p19,fun t d h=>p21 t d h,fun t x h=>p23 t x h,fun t r h hr=>p27 t r h hr,fun t r h hr=>p29 t r h hr,p31,p33,p35⟩
end Go.Proofs
