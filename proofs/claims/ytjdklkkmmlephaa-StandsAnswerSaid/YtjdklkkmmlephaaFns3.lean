/- What each function of this program answers, proved by walking its body: the contracts that the law rests on, part 3. -/
import Derived.Test.YtjdklkkmmlephaaFns2
set_option linter.unusedSimpArgs false
set_option linter.unusedVariables false
set_option linter.unusedSectionVars false
namespace Go.Proofs
open Go.Eng
attribute [local irreducible] Go.Eng.brB Go.Eng.need Go.Eng.wrE Go.Eng.iaE Go.Eng.slE Go.Eng.apE Go.Eng.CallZ Go.Eng.CallE Go.Eng.VCallE Go.Eng.YldE Go.Eng.GoC Go.Eng.MeetsE Go.Eng.FnA Go.Eng.FnV
set_option maxRecDepth 100000
theorem p87(K:List Int)(us:List AV)(hus:us.length=K.length)(hK:K.length<=1000):FnO Try.prog 87 [.fn 89 [.ipt [.imp (K.map iA) us]]] (fun r rows=>∃k:List Int,k.Perm K/\r = .row 0/\rows=[(0, .row false 3 1 (k.map jAV))]):=by
 refine fnO 2 ok87 (by simp) ?_
 conv=>whnf
 refine(p98 K us hus hK).callzn rfl rfl (fun r rows hr=>?_)
 obtain⟨k,hp,rfl,rfl⟩:=hr
 refine⟨rfl,?_⟩
 (conv=>whnf);(repeat'((first|apply bT|apply bF|apply bN|((first|apply bD|apply bEq|apply bNe)<;>intro hh<;>try(exfalso;omega))|refine wJ ?_|refine nJ ?_)<;>conv=>whnf))
 all_goals exact⟨k,hp,rfl,rfl⟩
theorem srt_eq{k t:List Int}(h1:k.Perm t)(h2:Srt k.length k)(h3:t.Pairwise (· < ·)):k=t:=by
 refine List.Perm.eq_of_pairwise (le:=(· <= ·)) (fun a b _ _ h h'=>Int.le_antisymm h h') ?_ (h3.imp fun h=>Int.le_of_lt h) h1
 rw[List.pairwise_iff_getElem]
 intro i j hi hj hij
 have:=h2 i j hij hj
 simpa[List.getD_eq_getElem?_getD,hi,hj]using this
theorem p58(K:List Int)(us:List AV)(hus:us.length=K.length)(hK:K.length<=12)(t:List Int)(ht:t.Pairwise (· < ·))(hp:K.Perm t):FnA Try.prog 58 [.fn 89 [.ipt [.imp (K.map iA) us]]] (· = .isl (t.map jAV)):=by
 refine fnA 2 ok58 (by simp) ?_
 conv=>whnf
 refine(p87 K us hus (by omega)).callzq rfl rfl (fun r rows hr=>?_)
 obtain⟨k,hk,rfl,rfl⟩:=hr
 refine⟨rfl,?_⟩
 have hkl:=hk.length_eq
 (conv=>whnf);(repeat'((first|apply bT|apply bF|apply bN|((first|apply bD|apply bEq|apply bNe)<;>intro hh<;>try(exfalso;omega))|refine wJ ?_|refine nJ ?_)<;>conv=>whnf))
 refine(p88 k (by omega)).callwq [0] rfl rfl ⟨rfl,trivial⟩ rfl rfl rfl rfl (fun r outs hr=>?_)
 obtain⟨hr1,l',hp',hs,ho⟩:=hr
 subst hr1;subst ho
 refine⟨⟨rfl,rfl,rfl,rfl⟩,?_⟩
 have:l'=t:=srt_eq ((hp'.trans hk).trans hp) (by rw[hp'.length_eq];exact hs) ht
 subst this
 (conv=>whnf);(repeat'((first|apply bT|apply bF|apply bN|((first|apply bD|apply bEq|apply bNe)<;>intro hh<;>try(exfalso;omega))|refine wJ ?_|refine nJ ?_)<;>conv=>whnf))
 all_goals rfl
theorem p57x(s:Stand)(n:Int):FnA Try.prog 57 [.agg s.cells, .int .i64 n] (fun r=>∃b,r = .bool b/\(0<=s.gs->s.gs<=100->b=isG s n)):=by
 by_cases h:0<=s.gs/\s.gs<=100
 ·have e1:=p86 n 0 (s.gs-1)
  refine fnA 1 ok57 (by simp) ?_
  (conv=>whnf);(repeat'((first|apply bT|apply bF|apply bN|((first|apply bD|apply bEq|apply bNe)<;>intro hh<;>try(exfalso;omega))|refine e1.cq rfl rfl ?_|refine wJ ?_|refine nJ ?_)<;>conv=>whnf))
  all_goals exact⟨_,rfl,fun _ _=>decide_eq_decide.2 (by omega)⟩
 ·have e1:=p86 n 0 (IntKind.i64.wrap (s.gs-1))
  refine fnA 1 ok57 (by simp) ?_
  (conv=>whnf);(repeat'((first|apply bT|apply bF|apply bN|((first|apply bD|apply bEq|apply bNe)<;>intro hh<;>try(exfalso;omega))|refine wAny ?_|refine e1.cq rfl rfl ?_|refine wJ ?_|refine nJ ?_)<;>conv=>whnf))
  all_goals exact⟨_,rfl,fun a b=>absurd ⟨a,b⟩ h⟩
theorem p21:CanOk:=fun s g hs hg=>by
 obtain⟨hl,hw⟩:=small_big hs
 have e0:=p57x s g
 refine fnA 4 ok21 (by simp) ?_
 conv=>whnf
 refine e0.callq rfl rfl (fun r hr=>?_)
 obtain⟨b,rfl,hb⟩:=hr
 have e1:=p52 s b hl hw
 have hbE:s.oE b=s.eG g:=by
  by_cases hc:s.chk=0
  ·have a:=(chk_ok.1 hc).1
   rw[hb a.1 (by have:=a.2;omega),Stand.oE,Stand.eG,decide_eq_false hg,Bool.false_or]
  ·simp only[Stand.oE,Stand.eG,Stand.err,if_pos hc]
 by_cases h:s.oE b=0
 ·have a:=oE_ok h
  have hc:=chk_ok.1 a.1
  have hgb:isG s g=true:=by rw[<- hb hc.1.1 (by have:=hc.1.2;omega)];exact a.2.1
  have hgr:0<=g/\g<s.gs:=by simpa[isG]using hgb
  rw[h,if_pos rfl]at e1
  rw[<- hbE,h,if_pos rfl]
  obtain⟨G,rfl⟩:∃G:Nat,g=(G:Int):=⟨g.toNat,by omega⟩
  have hP1:=pt_small hc.1.2
  have hv:=pt_vals hc.1.1 hc.1.2 hgr.2
  have hp:=ans_took hc.1.1 hc.1.2 hgr.2
  have e2:=p54 (pt s) G hP1 (fun t ht=>⟨(hv t ht).1,(hv t ht).2.1⟩) (fun t ht=>(hv t ht).2.2)
  have h7:=ansE_len7 (g:=G) (l:=pt s) (fun t ht=>(hv t ht).2.2)
  generalize ansE G (pt s)=E at e2 hp h7
  have eK:E.map keyA=(E.map (·.1)).map iA:=by rw[List.map_map];rfl
  have e4:=p58 (E.map (·.1)) (E.map valA) (by simp) (by simp;omega) (tookL (truths s) (G:Int) s.gs) tookK_rise hp
  rw[<- eK]at e4
  have e3:=p59 (E.map keyA) (E.map valA)
  (conv=>whnf);(repeat'((first|apply bT|apply bF|apply bN|((first|apply bD|apply bEq|apply bNe)<;>intro hh<;>try(exfalso;omega))|refine e1.zq rfl rfl ?_|refine e2.zq rfl rfl ?_|refine e3.zq rfl rfl ?_|refine e4.zq rfl rfl ?_|refine wJ ?_|refine nJ ?_)<;>conv=>whnf))
  all_goals rfl
 ·rw[if_neg h]at e1
  rw[<- hbE,if_neg h]
  (conv=>whnf);(repeat'((first|apply bT|apply bF|apply bN|((first|apply bD|apply bEq|apply bNe)<;>intro hh<;>try(exfalso;omega))|refine e1.zq rfl rfl ?_|refine wJ ?_|refine nJ ?_)<;>conv=>whnf))
  all_goals rfl
theorem n16u{s:Stand}(hs:s.chk=0)(t:List Int)(ht:¬t.length<=1000000):FnA Try.prog 16 [.agg s.cells, .isl (t.map jAV)] (· = .bool false):=by
 have hL:(t.map jAV).length=t.length:=by simp
 have hc:=(chk_ok.1 hs).1.2
 refine fnA 1 ok16 (by simp) ?_
 (conv=>whnf);(repeat'((first|apply bT|apply bF|apply bN|((first|apply bD|apply bEq|apply bNe)<;>intro hh<;>try(exfalso;omega))|refine wJ ?_|refine nJ ?_)<;>conv=>whnf))
 all_goals rfl
theorem l3(s:Stand)(t:List Int):FnA Try.prog 3 [.agg s.cells, .isl (t.map jAV)] (· = .bool true):=by
 have e0:=n17 prg
 by_cases hB:Big s
 ·by_cases ht:t.length<=1000000
  ·exact k3 prg p21 s hB t ht
  ·have e1:=n14 s hB.1 hB.2
   have e2:=n15 s hB.2
   refine fnA 4 ok3 (by simp) ?_
   cases h1:s.far<;>rw[h1]at e1
   ·by_cases hc:s.chk=0
    ·rw[hc]at e2
     have e3:=n16u hc t ht
     (conv=>whnf);(repeat'((first|apply bT|apply bF|apply bN|((first|apply bD|apply bEq|apply bNe)<;>intro hh<;>try(exfalso;omega))|refine e1.cq rfl rfl ?_|refine e2.cq rfl rfl ?_|refine e3.cq rfl rfl ?_|refine e0.cq rfl rfl ?_|refine wJ ?_|refine nJ ?_)<;>conv=>whnf))
     all_goals rfl
    ·(conv=>whnf);(repeat'((first|apply bT|apply bF|apply bN|((first|apply bD|apply bEq|apply bNe)<;>intro hh<;>try(exfalso;omega))|refine e1.cq rfl rfl ?_|refine e2.cq rfl rfl ?_|refine e0.cq rfl rfl ?_|refine wJ ?_|refine nJ ?_)<;>conv=>whnf))
     all_goals rfl
   ·(conv=>whnf);(repeat'((first|apply bT|apply bF|apply bN|((first|apply bD|apply bEq|apply bNe)<;>intro hh<;>try(exfalso;omega))|refine e1.cq rfl rfl ?_|refine e0.cq rfl rfl ?_|refine wJ ?_|refine nJ ?_)<;>conv=>whnf))
    all_goals rfl
 ·have e1:=n14u s
  rw[big_far hB]at e1
  refine fnA 4 ok3 (by simp) ?_
  (conv=>whnf);(repeat'((first|apply bT|apply bF|apply bN|((first|apply bD|apply bEq|apply bNe)<;>intro hh<;>try(exfalso;omega))|refine e1.cq rfl rfl ?_|refine e0.cq rfl rfl ?_|refine wJ ?_|refine nJ ?_)<;>conv=>whnf))
  all_goals rfl
theorem l4(s:Stand)(w:Word)(g:Int):FnA Try.prog 4 [.agg s.cells, .agg w.av, .int .i64 g] (· = .bool true):=by
 have e0:=n17 prg
 have hT:(w.am.map jAV).length=w.am.length:=by simp
 by_cases hB:Big s
 ·by_cases ht:w.am.length<=1000000
  ·exact k4 prg p21 s hB w ht g
  ·have e1:=n14 s hB.1 hB.2
   have e2:=n15 s hB.2
   refine fnA 8 ok4 (by simp) ?_
   cases h1:s.far<;>rw[h1]at e1
   ·by_cases hc:s.chk=0
    ·rw[hc]at e2
     (conv=>whnf);(repeat'((first|apply bT|apply bF|apply bN|((first|apply bD|apply bEq|apply bNe)<;>intro hh<;>try(exfalso;omega))|refine e1.cq rfl rfl ?_|refine e2.cq rfl rfl ?_|refine e0.cq rfl rfl ?_|refine wJ ?_|refine nJ ?_)<;>conv=>whnf))
     all_goals rfl
    ·(conv=>whnf);(repeat'((first|apply bT|apply bF|apply bN|((first|apply bD|apply bEq|apply bNe)<;>intro hh<;>try(exfalso;omega))|refine e1.cq rfl rfl ?_|refine e2.cq rfl rfl ?_|refine e0.cq rfl rfl ?_|refine wJ ?_|refine nJ ?_)<;>conv=>whnf))
     all_goals rfl
   ·(conv=>whnf);(repeat'((first|apply bT|apply bF|apply bN|((first|apply bD|apply bEq|apply bNe)<;>intro hh<;>try(exfalso;omega))|refine e1.cq rfl rfl ?_|refine e0.cq rfl rfl ?_|refine wJ ?_|refine nJ ?_)<;>conv=>whnf))
    all_goals rfl
 ·have e1:=n14u s
  rw[big_far hB]at e1
  refine fnA 8 ok4 (by simp) ?_
  (conv=>whnf);(repeat'((first|apply bT|apply bF|apply bN|((first|apply bD|apply bEq|apply bNe)<;>intro hh<;>try(exfalso;omega))|refine e1.cq rfl rfl ?_|refine e0.cq rfl rfl ?_|refine wJ ?_|refine nJ ?_)<;>conv=>whnf))
  all_goals rfl
theorem l5(s:Stand):FnA Try.prog 5 [.agg s.cells] (· = .bool true):=by
 by_cases hB:Big s
 ·exact k5 prg p21 s hB
 ·have e1:=n25u (big_far hB)
  have e0:=n17 prg
  refine fnA 7 ok5 (by simp) ?_
  (conv=>whnf);(repeat'((first|apply bT|apply bF|apply bN|((first|apply bD|apply bEq|apply bNe)<;>intro hh<;>try(exfalso;omega))|refine e1.cq rfl rfl ?_|refine e0.cq rfl rfl ?_|refine wJ ?_|refine nJ ?_)<;>conv=>whnf))
  all_goals rfl
theorem l9(s:Stand)(nu:List Int)(g:Int):FnA Try.prog 9 [.agg s.cells, .isl (nu.map jAV), .int .i64 g] (· = .bool true):=by
 have e0:=n17 prg
 have hN:(nu.map jAV).length=nu.length:=by simp
 by_cases hB:Big s
 ·by_cases hn:nu.length<=1000000
  ·exact k9 prg p21 s hB nu hn g
  ·have e1:=n25 s hB.1 hB.2
   refine fnA 10 ok9 (by simp) ?_
   cases h1:s.rdy<;>rw[h1]at e1
   ·(conv=>whnf);(repeat'((first|apply bT|apply bF|apply bN|((first|apply bD|apply bEq|apply bNe)<;>intro hh<;>try(exfalso;omega))|refine e1.cq rfl rfl ?_|refine e0.cq rfl rfl ?_|refine wJ ?_|refine nJ ?_)<;>conv=>whnf))
    all_goals rfl
   ·obtain⟨hs,hc,hg4⟩:=rdy_of h1
    have c:=(chk_ok.1 hc).1.2
    (conv=>whnf);(repeat'((first|apply bT|apply bF|apply bN|((first|apply bD|apply bEq|apply bNe)<;>intro hh<;>try(exfalso;omega))|refine e1.cq rfl rfl ?_|refine e0.cq rfl rfl ?_|refine wJ ?_|refine nJ ?_)<;>conv=>whnf))
    all_goals rfl
 ·have e1:=n25u (big_far hB)
  refine fnA 10 ok9 (by simp) ?_
  (conv=>whnf);(repeat'((first|apply bT|apply bF|apply bN|((first|apply bD|apply bEq|apply bNe)<;>intro hh<;>try(exfalso;omega))|refine e1.cq rfl rfl ?_|refine e0.cq rfl rfl ?_|refine wJ ?_|refine nJ ?_)<;>conv=>whnf))
  all_goals rfl
theorem l10(s:Stand)(g:Int):FnA Try.prog 10 [.agg s.cells, .int .i64 g] (· = .bool true):=by
 by_cases hB:Big s
 ·exact k10 prg p21 s hB g
 ·have e1:=n14u s
  have e0:=n17 prg
  rw[big_far hB]at e1
  refine fnA 7 ok10 (by simp) ?_
  (conv=>whnf);(repeat'((first|apply bT|apply bF|apply bN|((first|apply bD|apply bEq|apply bNe)<;>intro hh<;>try(exfalso;omega))|refine e1.cq rfl rfl ?_|refine e0.cq rfl rfl ?_|refine wJ ?_|refine nJ ?_)<;>conv=>whnf))
  all_goals rfl
end Go.Proofs
