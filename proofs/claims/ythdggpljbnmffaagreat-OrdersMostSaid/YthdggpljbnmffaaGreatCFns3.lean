/- What each function of this program answers, proved by walking its body: the contracts that the law rests on, part 3. -/
import Derived.Test.YthdggpljbnmffaaGreatCFns2
set_option linter.unusedSimpArgs false
set_option linter.unusedVariables false
set_option linter.unusedSectionVars false
namespace Go.Proofs
open Go.Eng
attribute [local irreducible] Go.Eng.brB Go.Eng.need Go.Eng.wrE Go.Eng.iaE Go.Eng.slE Go.Eng.apE Go.Eng.CallZ Go.Eng.CallE Go.Eng.VCallE Go.Eng.YldE Go.Eng.GoC Go.Eng.MeetsE Go.Eng.FnA Go.Eng.FnV Go.Eng.ItM
set_option maxRecDepth 100000
theorem chk_mk{s:Ord}(h:OkO s):s.chk=0:=by
 have h1:okOrd s=true:=by
  unfold okOrd mark
  simp only[Bool.and_eq_true,List.all_eq_true,decide_eq_true_eq]
  exact⟨⟨⟨⟨⟨⟨⟨⟨h.st1,h.st2⟩,h.p1⟩,h.p2⟩,h.w1⟩,h.w2⟩,h.d1⟩,h.d2⟩,h.cv⟩
 unfold Ord.chk
 rw[h.chk,h1];simp
theorem less_ok{s:Ord}(h:OkO s)(d:Int):OkO (s.less d):=
 ⟨h.w,h.chk,h.st1,h.st2,h.p1,h.p2,h.w1,h.w2,by
  have:=h.d1
  simp only[Ord.less,List.length_append,List.length_take,List.length_drop];omega,fun x hx=>h.d2 x (by
  simp only[Ord.less]at hx
  rcases List.mem_append.1 hx with hx|hx
  ·exact List.mem_of_mem_take hx
  ·exact List.mem_of_mem_drop hx),h.cv⟩
def Sm(s:Ord):Prop:=s.chk=0->s.ws.length<=3/\s.ps.length<=4
theorem far_sm{s:Ord}(h:s.far=false):Sm s:=fun hc=>by
 have hz:=far_false h
 unfold Ord.far at h
 rw[hz,hc]at h
 refine⟨Nat.le_of_not_lt fun a=>?_,Nat.le_of_not_lt fun a=>?_⟩
 ·rw[decide_eq_true a]at h;simp at h
 ·rw[decide_eq_true a]at h;simp at h
def Ord.mS(s:Ord)(b:Int)(l:List Int):Int:=if b<prc s l l.length/\s.fillB l=true then prc s l l.length else b
noncomputable def Ord.rMost(s:Ord):Int:=(s.plansF s.ws.length []).foldl s.mS 0
theorem plK_mem{s:Ord}{f:List Int->List (List Int)}{first x:List Int}:∀ {k:Nat},x∈s.plK f first k<->∃j:Nat,j<k/\s.plG first ((j:Int)-1)=true/\x∈f (first++[(j:Int)-1])
 |0=>by simp[Ord.plK]
 |k+1=>by
  simp only[Ord.plK,List.mem_append,plK_mem (k:=k)]
  constructor
  ·rintro(⟨j,h1,h2,h3⟩|h)
   ·exact⟨j,by omega,h2,h3⟩
   ·split at h
    ·rename_i hg;exact⟨k,by omega,hg,h⟩
    ·cases h
  ·rintro⟨j,h1,h2,h3⟩
   by_cases e:j=k
   ·subst e;right;rw[if_pos h2];exact h3
   ·exact .inl ⟨j,by omega,h2,h3⟩
theorem plans_P{s:Ord}:∀(n:Nat) (first l:List Int),planP s.ps.length first->l∈s.plansF n first->planP s.ps.length l/\l.length=first.length+n
 |0,first,l,hp,h=>by
  simp only[Ord.plansF,List.mem_singleton]at h
  subst h;exact⟨hp,rfl⟩
 |n+1,first,l,hp,h=>by
  obtain⟨j,h1,h2,h3⟩:=plK_mem.1 h
  have hq:planP s.ps.length (first++[(j:Int)-1]):=by
   refine planP_snoc hp ?_
   unfold Ord.plG at h2
   by_cases e:(j:Int)-1 = -1
   ·exact .inl e
   ·rw[decide_eq_false e,Bool.false_or,Bool.and_eq_true]at h2
    exact .inr ⟨by omega,by simpa using h2.2⟩
  obtain⟨a,b⟩:=plans_P n _ l hq h3
  rw[List.length_append,List.length_singleton]at b
  exact⟨a,by omega⟩
theorem plans_all{s:Ord}:∀(n:Nat) (first l:List Int),planP s.ps.length l->l.length=first.length+n->l.take first.length=first->(∀i,i<l.length->l.getD i 0 = -1\/suitV (s.wish (i:Nat)) (s.piece (l.getD i 0))≠0)->l∈s.plansF n first
 |0,first,l,_,h2,h3,_=>by
  simp only[Ord.plansF,List.mem_singleton]
  rw[<- h3,List.take_of_length_le (by omega)]
 |n+1,first,l,h1,h2,h3,h4=>by
  have hlt:first.length<l.length:=by omega
  have ht:l.take (first.length+1)=first++[l.getD first.length 0]:=by rw[take_getD hlt,h3]
  have hv:=h1.1 first.length hlt
  refine plK_mem.2 ⟨(l.getD first.length 0+1).toNat,by omega,?_,?_⟩
  ·rw[show(((l.getD first.length 0+1).toNat:Nat):Int)-1=l.getD first.length 0 by omega]
   unfold Ord.plG
   by_cases e:l.getD first.length 0 = -1
   ·rw[decide_eq_true e];rfl
   ·rw[decide_eq_false e,Bool.false_or,decide_eq_true ((h4 _ hlt).resolve_left e),Bool.true_and]
    have:l.getD first.length 0∉first:=fun q=>by
     obtain⟨i,hi,hq⟩:=List.getElem_of_mem q
     refine h1.2 i first.length hi hlt e ?_
     rw[<- hq]
     have:first.getD i 0=l.getD i 0:=by rw[<- h3];exact getD_take hi
     rw[<- this];simp[List.getD_eq_getElem?_getD,hi]
    simpa using this
  ·rw[show(((l.getD first.length 0+1).toNat:Nat):Int)-1=l.getD first.length 0 by omega]
   exact plans_all n _ l h1 (by rw[List.length_append,List.length_singleton];omega) (by rw[List.length_append,List.length_singleton];exact ht) h4
theorem em_planP(n:Nat):planP n []:=⟨fun i hi=>by simp at hi,fun i j _ hj=>by simp at hj⟩
theorem plans_isPl{s:Ord}{l:List Int}(h:l∈s.plansF s.ws.length []):s.isPl l=true:=by
 obtain⟨a,b⟩:=plans_P _ _ l (em_planP _) h
 exact isPl_iff.2 ⟨a,by rw[b];simp⟩
theorem tkOk_get{s:Ord}{l:List Int}{k:Nat}(h:s.tkOk l k=true){i:Nat}(hi:i<k):s.tkG (i:Nat) (l.getD i 0)=true:=by
 unfold Ord.tkOk at h
 exact List.all_eq_true.1 h i (List.mem_range.2 hi)
theorem isPl_plans{s:Ord}{l:List Int}(h:s.isPl l=true)(ht:s.tkOk l l.length=true):l∈s.plansF s.ws.length []:=by
 obtain⟨hp,hlen⟩:=isPl_iff.1 h
 refine plans_all _ _ l hp (by rw[hlen];simp) rfl fun i hi=>?_
 have hg:=tkOk_get ht hi
 rcases hp.1 i hi with h1|h1
 ·exact .inl h1
 ·unfold Ord.tkG at hg
  rw[decide_eq_false (by omega),Bool.false_or,Bool.and_eq_true,decide_eq_true_eq]at hg
  exact .inr hg.1
theorem isPl_PlO{s:Ord}{l:List Int}(h:s.isPl l=true):PlO s l:=plO_of h
theorem mS_take{s:Ord}{L:List (List Int)}{b c:Int}{k:Nat}(hk:k<L.length)(h:c=(L.take k).foldl s.mS b):(L.take (k+1)).foldl s.mS b=s.mS c L[k]:=by
 rw[List.take_succ_eq_append_getElem hk,List.foldl_append,<- h];rfl
noncomputable def Ord.rmostAV(s:Ord):AV:=if s.eS true=0 then .tup [.int .i64 s.rMost, .int .i64 0] else .tup [.int .i64 0, .int .i64 (s.eS true)]
theorem q38(s:Ord)(hB:BigO s)(hS:Sm s):FnA Tryz.prog 38 [.agg s.cells] (· = s.rmostAV):=by
 have e0:=q50 s hB
 unfold Ord.rmostAV
 by_cases h:s.eS true=0
 ·rw[if_pos h]
  rw[h]at e0
  obtain⟨hc,_,hT⟩:=eS_0 h
  have hk:=okO hc
  obtain⟨hw,hp⟩:=hS hc
  have e1:=q60 s hk hT
  have e2:=v83 s hk hp hw s.ws.length [] (by simp)
  have hPl:∀l∈s.plansF s.ws.length [],s.isPl l=true:=fun l=>plans_isPl
  have h125:=plans_125 hp hw []
  unfold Ord.rMost
  generalize s.plansF s.ws.length []=L at e2 hPl h125
  have l1:(L.map fAV).length=L.length:=by simp
  refine fnA 3 ok38 (by simp) ?_
  (conv=>whnf);(repeat'((first|apply bT|apply bF|apply bN|((first|apply bD|apply bEq|apply bNe)<;>intro hh<;>try(exfalso;omega))|refine e0.cq rfl rfl ?_|refine e1.zq rfl rfl ?_|refine e2.zq rfl rfl ?_|refine wJ ?_|refine nJ ?_)<;>conv=>whnf))
  refine loop_i (α :=Nat × Int) (fun q=>[(8, .int .i64 q.1),(7, .isl (L.map fAV)),(6, .isl (s.ft.map ftAV)),(5, .int .i64 q.2),(1, .own 0 0)]) (fun q=>[.box false s.cells]) (fun q=>q.1<=L.length/\q.2=(L.take q.1).foldl s.mS 0) (fun q=>L.length-q.1) (0,0) mI ⟨by simp,rfl⟩ ?_
  rintro⟨k,c⟩ ⟨hk0,hkb⟩
  dsimp only at hk0 hkb⊢
  conv=>whnf
  refine bD (fun h3=>?_) (fun h3=>?_)
  ·have hkl:k<L.length:=by omega
   have g1:=getM fAV L k hkl
   have hm:=List.getElem_mem hkl
   have hsu:=mS_take hkl hkb
   have hpl:=hPl _ hm
   generalize L[k]=l at g1 hm hsu hpl
   have hpo:=isPl_PlO hpl
   have e3:=q84 s hk l hpo.1
   have e4:=q59 s hk l hpo
   unfold Ord.mS at hsu
   generalize prc s l l.length=n at e3 hsu
   by_cases c1:c<n
   case neg=>
    rw[if_neg (fun q=>c1 q.1)]at hsu
    (conv=>whnf);(repeat'((first|apply bT|apply bF|apply bN|((first|apply bD|apply bEq|apply bNe)<;>intro hh<;>try(exfalso;omega))|refine iaJ g1 ?_|refine e3.cq rfl rfl ?_|refine wJ ?_|refine nJ ?_)<;>conv=>whnf))
    exact⟨(k+1,c),mI,⟨by dsimp only;omega,hsu.symm⟩,by dsimp only;omega⟩
   cases c2:s.fillB l with
   |true=>
    rw[c2]at e4
    rw[if_pos ⟨c1,c2⟩]at hsu
    (conv=>whnf);(repeat'((first|apply bT|apply bF|apply bN|((first|apply bD|apply bEq|apply bNe)<;>intro hh<;>try(exfalso;omega))|refine iaJ g1 ?_|refine e3.cq rfl rfl ?_|refine e4.cq rfl rfl ?_|refine wJ ?_|refine nJ ?_)<;>conv=>whnf))
    exact⟨(k+1,n),mI,⟨by dsimp only;omega,hsu.symm⟩,by dsimp only;omega⟩
   |false=>
    rw[c2]at e4
    rw[if_neg (fun q=>by rw[c2]at q;cases q.2)]at hsu
    (conv=>whnf);(repeat'((first|apply bT|apply bF|apply bN|((first|apply bD|apply bEq|apply bNe)<;>intro hh<;>try(exfalso;omega))|refine iaJ g1 ?_|refine e3.cq rfl rfl ?_|refine e4.cq rfl rfl ?_|refine wJ ?_|refine nJ ?_)<;>conv=>whnf))
    exact⟨(k+1,c),mI,⟨by dsimp only;omega,hsu.symm⟩,by dsimp only;omega⟩
  ·have:k=L.length:=by omega
   subst this
   rw[List.take_length]at hkb
   rw[<- hkb]
   (conv=>whnf);(repeat'((first|apply bT|apply bF|apply bN|((first|apply bD|apply bEq|apply bNe)<;>intro hh<;>try(exfalso;omega))|refine wJ ?_|refine nJ ?_)<;>conv=>whnf))
   all_goals rfl
 ·rw[if_neg h]
  refine fnA 3 ok38 (by simp) ?_
  generalize s.eS true=e at *
  (conv=>whnf);(repeat'((first|apply bT|apply bF|apply bN|((first|apply bD|apply bEq|apply bNe)<;>intro hh<;>try(exfalso;omega))|refine e0.cq rfl rfl ?_|refine wJ ?_|refine nJ ?_)<;>conv=>whnf))
  all_goals rfl
noncomputable def Ord.xS(s:Ord)(b:Int)(l:List Int):Int:=if (-1:Int)∈l then b else lsS b (s.buyI l)
noncomputable def Ord.rExtra(s:Ord):Int:=(s.plansF s.ws.length []).foldl s.xS (-1)
theorem xS_take{s:Ord}{L:List (List Int)}{b c:Int}{k:Nat}(hk:k<L.length)(h:c=(L.take k).foldl s.xS b):(L.take (k+1)).foldl s.xS b=s.xS c L[k]:=by
 rw[List.take_succ_eq_append_getElem hk,List.foldl_append,<- h];rfl
noncomputable def Ord.rextraAV(s:Ord):AV:=if s.eS true=0 then(if s.rExtra<0 then .tup [.int .i64 0, .int .i64 3] else .tup [.int .i64 s.rExtra, .int .i64 0]) else .tup [.int .i64 0, .int .i64 (s.eS true)]
theorem q40(s:Ord)(hB:BigO s)(hS:Sm s):FnA Tryz.prog 40 [.agg s.cells] (· = s.rextraAV):=by
 have e0:=q50 s hB
 unfold Ord.rextraAV
 by_cases h:s.eS true=0
 ·rw[if_pos h]
  rw[h]at e0
  obtain⟨hc,_,hT⟩:=eS_0 h
  have hk:=okO hc
  obtain⟨hw,hp⟩:=hS hc
  have e1:=q60 s hk hT
  have e2:=v83 s hk hp hw s.ws.length [] (by simp)
  have hPl:∀l∈s.plansF s.ws.length [],s.isPl l=true:=fun l=>plans_isPl
  have h125:=plans_125 hp hw []
  unfold Ord.rExtra
  generalize s.plansF s.ws.length []=L at e2 hPl h125
  have l1:(L.map fAV).length=L.length:=by simp
  refine fnA 3 ok40 (by simp) ?_
  (conv=>whnf);(repeat'((first|apply bT|apply bF|apply bN|((first|apply bD|apply bEq|apply bNe)<;>intro hh<;>try(exfalso;omega))|refine e0.cq rfl rfl ?_|refine e1.zq rfl rfl ?_|refine e2.zq rfl rfl ?_|refine wJ ?_|refine nJ ?_)<;>conv=>whnf))
  refine loop_i (α :=Nat × Int) (fun q=>[(8, .int .i64 q.1),(7, .isl (L.map fAV)),(6, .isl (s.ft.map ftAV)),(5, .int .i64 q.2),(1, .own 0 0)]) (fun q=>[.box false s.cells]) (fun q=>q.1<=L.length/\q.2=(L.take q.1).foldl s.xS (-1)) (fun q=>L.length-q.1) (0, -1) mI ⟨by simp,rfl⟩ ?_
  rintro⟨k,c⟩ ⟨hk0,hkb⟩
  dsimp only at hk0 hkb⊢
  conv=>whnf
  refine bD (fun h3=>?_) (fun h3=>?_)
  ·have hkl:k<L.length:=by omega
   have g1:=getM fAV L k hkl
   have hm:=List.getElem_mem hkl
   have hsu:=xS_take hkl hkb
   have hpl:=hPl _ hm
   generalize L[k]=l at g1 hm hsu hpl
   have hpo:=isPl_PlO hpl
   have e3:=p51 l (-1) (by have:=hpo.1;omega)
   have e4:=q66 s hk l hpo
   unfold Ord.xS at hsu
   generalize s.buyI l=n at e4 hsu
   by_cases c1:(-1:Int)∈l
   ·rw[if_pos c1]at hsu
    rw[decide_eq_true c1]at e3
    (conv=>whnf);(repeat'((first|apply bT|apply bF|apply bN|((first|apply bD|apply bEq|apply bNe)<;>intro hh<;>try(exfalso;omega))|refine iaJ g1 ?_|refine e3.cq rfl rfl ?_|refine wJ ?_|refine nJ ?_)<;>conv=>whnf))
    exact⟨(k+1,c),mI,⟨by dsimp only;omega,hsu.symm⟩,by dsimp only;omega⟩
   rw[if_neg c1]at hsu
   rw[decide_eq_false c1]at e3
   unfold lsS at hsu
   by_cases hj:0<=n/\(c<0\/n<c)
   ·rw[if_pos hj]at hsu
    (conv=>whnf);(repeat'((first|apply bT|apply bF|apply bN|((first|apply bD|apply bEq|apply bNe)<;>intro hh<;>try(exfalso;omega))|refine iaJ g1 ?_|refine e3.cq rfl rfl ?_|refine e4.cq rfl rfl ?_|refine wJ ?_|refine nJ ?_)<;>conv=>whnf))
    all_goals exact⟨(k+1,n),mI,⟨by dsimp only;omega,hsu.symm⟩,by dsimp only;omega⟩
   ·rw[if_neg hj]at hsu
    (conv=>whnf);(repeat'((first|apply bT|apply bF|apply bN|((first|apply bD|apply bEq|apply bNe)<;>intro hh<;>try(exfalso;omega))|refine iaJ g1 ?_|refine e3.cq rfl rfl ?_|refine e4.cq rfl rfl ?_|refine wJ ?_|refine nJ ?_)<;>conv=>whnf))
    all_goals exact⟨(k+1,c),mI,⟨by dsimp only;omega,hsu.symm⟩,by dsimp only;omega⟩
  ·have:k=L.length:=by omega
   subst this
   rw[List.take_length]at hkb
   rw[<- hkb]
   by_cases c0:c<0
   ·rw[if_pos c0]
    (conv=>whnf);(repeat'((first|apply bT|apply bF|apply bN|((first|apply bD|apply bEq|apply bNe)<;>intro hh<;>try(exfalso;omega))|refine wJ ?_|refine nJ ?_)<;>conv=>whnf))
    all_goals rfl
   ·rw[if_neg c0]
    (conv=>whnf);(repeat'((first|apply bT|apply bF|apply bN|((first|apply bD|apply bEq|apply bNe)<;>intro hh<;>try(exfalso;omega))|refine wJ ?_|refine nJ ?_)<;>conv=>whnf))
    all_goals rfl
 ·rw[if_neg h]
  refine fnA 3 ok40 (by simp) ?_
  generalize s.eS true=e at *
  (conv=>whnf);(repeat'((first|apply bT|apply bF|apply bN|((first|apply bD|apply bEq|apply bNe)<;>intro hh<;>try(exfalso;omega))|refine e0.cq rfl rfl ?_|refine wJ ?_|refine nJ ?_)<;>conv=>whnf))
  all_goals rfl
theorem q29(s:Ord)(hB:BigO s)(d:Int)(hd:s.isD d=true):FnA Tryz.prog 29 [.agg s.cells, .int .i64 d] (· = .agg (s.less d).cells):=by
 have hd:=isD_iff.1 hd
 have hds:=hB.ds
 have e1:=q24 s hB
 have lD:(s.ds.map Dlv.av).length=s.ds.length:=by simp
 have hone:∀e∈s.ds.map Dlv.av,e.length=3:=fun e he=>(dl_one s.ds e he).1
 have hla:((s.ds.take d.toNat).map Dlv.av).length<=1000000:=by rw[List.length_map,List.length_take];omega
 have hlb:((s.ds.drop (d.toNat+1)).map Dlv.av).length<=1000000:=by rw[List.length_map,List.length_drop];omega
 have hm:(s.less d).ds.map Dlv.av=(s.ds.take d.toNat).map Dlv.av++(s.ds.drop (d.toNat+1)).map Dlv.av:=by simp only[Ord.less,List.map_append]
 refine fnA 13 ok29 (by simp) ?_
 (conv=>whnf);(repeat'((first|apply bT|apply bF|apply bN|((first|apply bD|apply bEq|apply bNe)<;>intro hh<;>try(exfalso;omega))|refine e1.zq rfl rfl ?_|refine wJ ?_|refine nJ ?_)<;>conv=>whnf))
 refine slI (es':=(s.ds.take d.toNat).map Dlv.av) (by omega) (by omega) (by omega) hone (by simp[List.map_take]) ?_
 (conv=>whnf);(repeat'((first|apply bT|apply bF|apply bN|((first|apply bD|apply bEq|apply bNe)<;>intro hh<;>try(exfalso;omega))|refine wJ ?_|refine nJ ?_)<;>conv=>whnf))
 refine slI (es':=(s.ds.drop (d.toNat+1)).map Dlv.av) (by omega) (by omega) (by omega) hone (by rw[show(d+1).toNat=d.toNat+1 by omega,List.map_drop];congr 1;exact List.take_of_length_le (by omega)) ?_
 (conv=>whnf);(repeat'((first|apply bT|apply bF|apply bN|((first|apply bD|apply bEq|apply bNe)<;>intro hh<;>try(exfalso;omega))|(refine apI (dl_one (s.ds.take d.toNat)) (by simp only[List.length_nil];omega) ?_)|(refine apI (dl_one (s.ds.drop (d.toNat+1))) (by simp only[List.length_append,List.length_nil];omega) ?_)|refine wJ ?_|refine nJ ?_)<;>conv=>whnf))
 all_goals (show _=AV.agg _;unfold Ord.cells;rw[hm];rfl)
noncomputable def Ord.rwithoutAV(s:Ord)(d:Int):AV:=if s.eS (s.isD d)=0 then(s.less d).rmostAV else .tup [.int .i64 0, .int .i64 (s.eS (s.isD d))]
theorem q39(s:Ord)(hB:BigO s)(hS:Sm s)(d:Int):FnA Tryz.prog 39 [.agg s.cells, .int .i64 d] (· = s.rwithoutAV d):=by
 have hds:=hB.ds
 have lD:(s.ds.map Dlv.av).length=s.ds.length:=by simp
 have e0:=q74 d 0 (↑(s.ds.map Dlv.av).length-1)
 rw[show decide (0<=d/\d<=(↑(s.ds.map Dlv.av).length:Int)-1)=s.isD d from decide_eq_decide.2 (by rw[lD];omega)]at e0
 have e1:=q81 s hB (s.isD d)
 unfold Ord.rwithoutAV
 by_cases h:s.eS (s.isD d)=0
 ·rw[if_pos h]
  rw[h]at e1
  obtain⟨hc,hv,hT⟩:=eS_0 h
  have e2:=q29 s hB d hv
  have e3:=q38 (s.less d) (less_big hB d) (fun _=>hS hc)
  have hsh:∃a b:Int,(s.less d).rmostAV = .tup [.int .i64 a, .int .i64 b]:=by unfold Ord.rmostAV;split<;>exact⟨_,_,rfl⟩
  obtain⟨ma,mb,hma⟩:=hsh
  rw[hma]at e3⊢
  refine fnA 8 ok39 (by simp) ?_
  (conv=>whnf);(repeat'((first|apply bT|apply bF|apply bN|((first|apply bD|apply bEq|apply bNe)<;>intro hh<;>try(exfalso;omega))|refine e0.cq rfl rfl ?_|refine e1.cq rfl rfl ?_|refine e2.zq rfl rfl ?_|refine e3.cq rfl rfl ?_|refine wJ ?_|refine nJ ?_)<;>conv=>whnf))
  all_goals rfl
 ·rw[if_neg h]
  refine fnA 8 ok39 (by simp) ?_
  generalize s.eS (s.isD d)=e at *
  (conv=>whnf);(repeat'((first|apply bT|apply bF|apply bN|((first|apply bD|apply bEq|apply bNe)<;>intro hh<;>try(exfalso;omega))|refine e0.cq rfl rfl ?_|refine e1.cq rfl rfl ?_|refine wJ ?_|refine nJ ?_)<;>conv=>whnf))
  all_goals rfl
theorem sup_ach(s:Ord)(l:List Tk)(n:Nat):Ach l s.sup2 n<->Ach l s.sup n:=by
 rw[(sup_swap s).1,(sup_swap s).2];exact ach_swap l _ _ n
theorem ach_ne:∀(l:List Tk) (ds:List Dlv),Ach l ds 0->∀t∈l,t.sp≠[]
 | [],_,_,t,ht=>by cases ht
 |u::l,ds,h,t,ht=>by
  rcases h with⟨m,h1,_⟩|⟨k,_,h2,h3⟩
  ·omega
  ·rcases List.mem_cons.1 ht with rfl|ht
   ·intro e
    unfold gB at h2
    rw[e]at h2
    simp at h2
   ·exact ach_ne l _ h3 t ht
theorem opt_ne{s:Ord}{i j:Int}{o:Opt}(h:s.opt i j=some o):∀t∈s.tkP i j,t.sp≠[]:=fun t ht e=>by
 obtain⟨hb,_⟩:=opt_some h
 unfold Ord.optB at hb
 rw[Bool.and_eq_true]at hb
 unfold Ord.tkP Ord.ftP at ht
 obtain⟨l,hl,rfl⟩:=List.mem_map.1 ht
 obtain⟨k,hk,rfl⟩:=List.mem_map.1 hl
 have:=List.all_eq_true.1 hb.2 k hk
 dsimp only at e
 rw[e]at this
 cases this
theorem pl_ne{s:Ord}{l:List Int}:∀k f,plF s l k=some f->∀t∈s.tks l k,t.sp≠[]
 |0,_,_,t,ht=>by simp[Ord.tks]at ht
 |k+1,f,h,t,ht=>by
  rw[tks_succ]at ht
  simp only[plF]at h
  split at h
  ·cases h
  ·rename_i f0 h0
   rcases List.mem_append.1 ht with ht|ht
   ·exact pl_ne k f0 h0 t ht
   ·unfold Ord.tkI at ht
    split at ht
    ·cases ht
    ·rename_i hj
     rw[if_neg (by omega)]at h
     split at h
     ·cases h
     ·rename_i o ho
      exact opt_ne ho t ht
structure Fill(s:Ord)(l:List Int):Prop where
 p:s.isPl l=true
 k:s.tkOk l s.ws.length=true
 h:Ach (s.tks l s.ws.length) s.sup 0
structure Need(s:Ord)(l:List Int)(n:Nat):Prop where
 p:s.isPl l=true
 a:(-1:Int)∉l
 k:s.tkOk l s.ws.length=true
 e:∀t∈s.tks l s.ws.length,t.sp≠[]
 h:Ach (s.tks l s.ws.length) s.sup n
theorem fill_B{s:Ord}(hk:OkO s){l:List Int}(hl:s.isPl l=true):s.fillB l=true<->Fill s l:=by
 have hlen:=(isPl_iff.1 hl).2
 unfold Ord.fillB
 rw[hlen,Bool.and_eq_true,does_ach _ (sup2_ok hk),sup_ach]
 exact⟨fun h=>⟨hl,h.1,h.2⟩,fun h=>⟨h.k,h.h⟩⟩
theorem pl_ex{s:Ord}{l:List Int}(hl:s.isPl l=true)(hk:s.tkOk l s.ws.length=true)(he:∀t∈s.tks l s.ws.length,t.sp≠[]):∃g,plF s l s.ws.length=some g:=by
 have hlen:=(isPl_iff.1 hl).2
 cases h:plF s l s.ws.length with
 |some g=>exact⟨g,rfl⟩
 |none=>
  rcases pl_none hl _ (by omega) h with h1|⟨t,ht,h1⟩
  ·rw[hk]at h1;cases h1
  ·exact absurd h1 (he t ht)
theorem pl_tk{s:Ord}{l:List Int}(hl:s.isPl l=true){g:Fil}(h:plF s l s.ws.length=some g):s.tkOk l s.ws.length=true/\s.sumP s.ws.length-g.lost=prc s l s.ws.length:=by
 have hlen:=(isPl_iff.1 hl).2
 obtain⟨_,_,h3,h4⟩:=pl_some hl s.ws.length (by omega) g h
 exact⟨h3,h4⟩
theorem fill_pl{s:Ord}(hk:OkO s){l:List Int}:Fill s l<->s.isPl l=true/\∃g,plF s l s.ws.length=some g/\g.lacks=0:=by
 constructor
 ·intro h
  obtain⟨g,hg⟩:=pl_ex h.p h.k (ach_ne _ _ h.h)
  obtain⟨⟨n,e,_⟩,h2⟩:=pl_min hk h.p (Nat.le_refl _) hg
  exact⟨h.p,g,hg,by have:=h2 0 h.h;omega⟩
 ·rintro⟨hl,g,hg,h0⟩
  obtain⟨⟨n,e,hn⟩,_⟩:=pl_min hk hl (Nat.le_refl _) hg
  rw[show n=0 by omega]at hn
  exact⟨hl,(pl_tk hl hg).1,hn⟩
theorem most_fill{s:Ord}(hk:OkO s):(Fill s (bestF s).pl/\prc s (bestF s).pl s.ws.length=s.mostF)/\∀l,Fill s l->prc s l s.ws.length<=s.mostF:=by
 obtain⟨⟨h1,h2,h3⟩,h4⟩:=best_spec hk
 obtain⟨h5,h6⟩:=h1.pl h2
 have e:=(pl_tk h5 h6).2
 have hm:s.mostF=s.sumP s.ws.length-(bestF s).lost:=by unfold Ord.mostF;rw[h2]
 refine⟨⟨(fill_pl hk).2 ⟨h5,_,h6,h3⟩,by omega⟩,fun l hl=>?_⟩
 obtain⟨a,g,hg,h0⟩:=(fill_pl hk).1 hl
 have:=h4 l g a hg h0
 have e2:=(pl_tk a hg).2
 omega
theorem need_pl{s:Ord}(hk:OkO s){l:List Int}{g:Fil}(hl:s.isPl l=true)(ha:(-1:Int)∉l)(h:plF s l s.ws.length=some g):(∃n:Nat,g.lacks=n/\n<=24/\Need s l n)/\∀n:Nat,Need s l n->g.lacks<=n:=by
 obtain⟨⟨n,e,hn⟩,h2⟩:=pl_min hk hl (Nat.le_refl _) h
 have hlen:=(isPl_iff.1 hl).2
 have h24:=ach_len _ _ _ hn
 have h6:=hk.w1
 have htl:=tks_len hk (plO_of hl) s.ws.length (by omega)
 exact⟨⟨n,e,by omega,hl,ha,(pl_tk hl h).1,pl_ne _ _ h,hn⟩,fun m hm=>h2 m hm.h⟩
theorem few_need{s:Ord}(hk:OkO s):s.fewN=25/\(∀l n,¬Need s l n)\/∃n:Nat,s.fewN=n/\n<=24/\(∃l,Need s l n)/\∀l m,Need s l m->n<=m:=by
 obtain⟨h1,h2,h3⟩:=fewN_spec hk
 have h4:∀l m,Need s l m->s.fewN<=m/\s.fewN<=24:=fun l m hm=>by
  obtain⟨g,hg⟩:=pl_ex hm.p hm.k hm.e
  have a:=h3 l g hm.p hg hm.a
  obtain⟨⟨n,e,h24,_⟩,b⟩:=need_pl hk hm.p hm.a hg
  have:=b m hm
  omega
 rcases h2 with h2|⟨l,g,a,b,c,d⟩
 ·exact .inl ⟨h2,fun l n hn=>by have:=h4 l n hn;omega⟩
 ·obtain⟨⟨n,e,h24,hn⟩,_⟩:=need_pl hk a c b
  exact .inr ⟨n,by omega,h24,⟨l,hn⟩,fun l m hm=>by have:=h4 l m hm;omega⟩
theorem mS_fold{s:Ord}:∀(L:List (List Int)) (b:Int),b<=L.foldl s.mS b/\(L.foldl s.mS b=b\/∃l∈L,s.fillB l=true/\L.foldl s.mS b=prc s l l.length)/\∀l∈L,s.fillB l=true->prc s l l.length<=L.foldl s.mS b
 | [],b=>⟨Int.le_refl _, .inl rfl,fun l hl=>by cases hl⟩
 |x::L,b=>by
  obtain⟨h1,h2,h3⟩:=mS_fold (s:=s) L (s.mS b x)
  rw[List.foldl_cons]
  have hx:b<=s.mS b x/\(s.mS b x=b\/s.fillB x=true/\s.mS b x=prc s x x.length)/\(s.fillB x=true->prc s x x.length<=s.mS b x):=by
   unfold Ord.mS
   split
   ·rename_i h;exact⟨by omega, .inr ⟨h.2,rfl⟩,fun _=>Int.le_refl _⟩
   ·rename_i h;exact⟨Int.le_refl _, .inl rfl,fun hf=>by
     have:¬b<prc s x x.length:=fun q=>h ⟨q,hf⟩
     omega⟩
  refine⟨by omega,?_,fun l hl hf=>?_⟩
  ·rcases h2 with h2|⟨l,hl,h2⟩
   ·rcases hx.2.1 with h4|⟨h4,h5⟩
    ·exact .inl (h2.trans h4)
    ·exact .inr ⟨x,by simp,h4,h2.trans h5⟩
   ·exact .inr ⟨l,by simp[hl],h2⟩
  ·rcases List.mem_cons.1 hl with rfl|hl
   ·have:=hx.2.2 hf;omega
   ·exact h3 l hl hf
theorem rMost_eq{s:Ord}(hk:OkO s):s.rMost=s.mostF:=by
 obtain⟨⟨a,b⟩,c⟩:=most_fill hk
 obtain⟨h1,h2,h3⟩:=mS_fold (s:=s) (s.plansF s.ws.length []) 0
 have hlen:=(isPl_iff.1 a.p).2
 have hm:=isPl_plans a.p (by rw[hlen];exact a.k)
 have e1:=h3 _ hm ((fill_B hk a.p).2 a)
 rw[hlen]at e1
 unfold Ord.rMost
 rcases h2 with h2|⟨l,hl,hf,h2⟩
 ·have:=prc_bd hk (bestF s).pl s.ws.length (Nat.le_refl _)
  omega
 ·have hp:=plans_isPl hl
  have:=c l ((fill_B hk hp).1 hf)
  rw[(isPl_iff.1 hp).2]at h2
  omega
theorem buy_need{s:Ord}{l:List Int}(hl:s.isPl l=true)(ha:(-1:Int)∉l):(0<=s.buyI l->∃n:Nat,s.buyI l=n/\Need s l n)/\∀n:Nat,Need s l n->0<=s.buyI l/\s.buyI l<=n:=by
 have hlen:=(isPl_iff.1 hl).2
 unfold Ord.buyI
 rw[hlen]
 constructor
 ·split
  ·rename_i ht
   intro h0
   have he:∀t∈s.tks l s.ws.length,t.sp≠[]:=fun t h1 h2=>by
    rw[least_no _ _ ⟨t,h1,h2⟩]at h0;omega
   obtain⟨⟨n,e,hn⟩,_⟩:=least_ach _ s.sup2 he
   exact⟨n,e,hl,ha,ht,he,(sup_ach s _ n).1 hn⟩
  ·intro h0;omega
 ·intro n hn
  rw[if_pos hn.k]
  obtain⟨⟨m,e,_⟩,h2⟩:=least_ach _ s.sup2 hn.e
  have:=h2 n ((sup_ach s _ n).2 hn.h)
  omega
theorem xS_fold{s:Ord}:∀(L:List (List Int)) (b:Int),(L.foldl s.xS b=b\/∃l∈L,(-1:Int)∉l/\0<=s.buyI l/\L.foldl s.xS b=s.buyI l)/\(∀l∈L,(-1:Int)∉l->0<=s.buyI l->0<=L.foldl s.xS b/\L.foldl s.xS b<=s.buyI l)/\(0<=b->0<=L.foldl s.xS b/\L.foldl s.xS b<=b)
 | [],b=>⟨.inl rfl,(fun l hl=>by cases hl),fun h=>⟨h,Int.le_refl _⟩⟩
 |x::L,b=>by
  obtain⟨h1,h2,h3⟩:=xS_fold (s:=s) L (s.xS b x)
  rw[List.foldl_cons]
  have hx:(s.xS b x=b\/(-1:Int)∉x/\0<=s.buyI x/\s.xS b x=s.buyI x)/\((-1:Int)∉x->0<=s.buyI x->0<=s.xS b x/\s.xS b x<=s.buyI x)/\(0<=b->0<=s.xS b x/\s.xS b x<=b):=by
   unfold Ord.xS
   split
   ·rename_i h;exact⟨.inl rfl,fun q=>absurd h q,fun h=>⟨h,Int.le_refl _⟩⟩
   ·rename_i h
    unfold lsS
    split
    ·exact⟨.inr ⟨h,by omega,rfl⟩,fun _ _=>by omega,fun _=>by omega⟩
    ·exact⟨.inl rfl,fun _ _=>by omega,fun _=>by omega⟩
  refine⟨?_,fun l hl ha hf=>?_,fun hb=>?_⟩
  ·rcases h1 with h1|⟨l,hl,h1⟩
   ·rcases hx.1 with h4|⟨h4,h5,h6⟩
    ·exact .inl (h1.trans h4)
    ·exact .inr ⟨x,by simp,h4,h5,h1.trans h6⟩
   ·exact .inr ⟨l,by simp[hl],h1⟩
  ·rcases List.mem_cons.1 hl with rfl|hl
   ·have a:=hx.2.1 ha hf
    have b:=h3 a.1
    omega
   ·exact h2 l hl ha hf
  ·have a:=hx.2.2 hb
   have b:=h3 a.1
   omega
theorem rExtra_eq{s:Ord}(hk:OkO s):s.fewN=25/\s.rExtra<0\/s.fewN≠25/\s.rExtra=s.fewN/\0<=s.fewN:=by
 obtain⟨h1,h2,_⟩:=xS_fold (s:=s) (s.plansF s.ws.length []) (-1)
 unfold Ord.rExtra
 rcases few_need hk with⟨a,b⟩|⟨n,a,h24,⟨l,hl⟩,c⟩
 ·refine .inl ⟨a,?_⟩
  rcases h1 with h1|⟨l,hl,ha,h0,_⟩
  ·omega
  ·obtain⟨n,_,hn⟩:=(buy_need (plans_isPl hl) ha).1 h0
   exact absurd hn (b _ _)
 ·have hlen:=(isPl_iff.1 hl.p).2
  have hm:=isPl_plans hl.p (by rw[hlen];exact hl.k)
  obtain⟨e1,e2⟩:=(buy_need hl.p hl.a).2 n hl
  obtain⟨e3,e4⟩:=h2 l hm hl.a e1
  right
  rcases h1 with h1|⟨l',hl',ha,h0,h1⟩
  ·omega
  ·obtain⟨m,e5,hn⟩:=(buy_need (plans_isPl hl') ha).1 h0
   have:=c _ _ hn
   omega
theorem most_av{s:Ord}:s.rmostAV=s.mostAV:=by
 unfold Ord.rmostAV Ord.mostAV
 by_cases h:s.eS true=0
 ·rw[if_pos h,if_pos h,rMost_eq (okO (eS_0 h).1)]
 ·rw[if_neg h,if_neg h]
theorem extra_av{s:Ord}:s.rextraAV=s.extraAV:=by
 unfold Ord.rextraAV Ord.extraAV
 by_cases h:s.eS true=0
 ·rw[if_pos h,if_pos h]
  rcases rExtra_eq (okO (eS_0 h).1)with⟨a,b⟩|⟨a,b,c⟩
  ·rw[if_pos b,if_pos a]
  ·rw[if_neg (by omega),if_neg a,b]
 ·rw[if_neg h,if_neg h]
theorem without_av{s:Ord}(d:Int):s.rwithoutAV d=s.withoutAV d:=by
 unfold Ord.rwithoutAV Ord.withoutAV
 by_cases h:s.e1 (s.isD d)=0
 ·rw[if_pos h]
  by_cases h2:s.w.noT=true
  ·have e:s.eS (s.isD d)=3:=by unfold Ord.eS;rw[h,h2];simp
   rw[if_neg (by omega),e]
   have hk:=okO (e1_0 h).1
   have e2:(s.less d).eS true=3:=by
    unfold Ord.eS Ord.e1
    rw[chk_mk (less_ok hk d),show(s.less d).w.noT=true from h2];simp
   unfold Ord.mostAV
   rw[e2];simp
  ·have e:s.eS (s.isD d)=0:=by unfold Ord.eS;rw[h,if_neg (fun q=>q rfl),if_neg h2]
   rw[if_pos e,most_av]
 ·rw[if_neg h]
  have e:s.eS (s.isD d)=s.e1 (s.isD d):=by unfold Ord.eS;rw[if_pos h]
  rw[e,if_neg h]
theorem prc_le{s:Ord}(hk:OkO s)(l:List Int):∀k,k<=s.ws.length->prc s l k<=s.sumP k
 |0,_=>Int.le_refl _
 |k+1,h=>by
  have ih:=prc_le hk l k (by omega)
  have hp:=wish_pr hk (i:=(k:Nat)) (isW_iff.2 ⟨by omega,by omega⟩)
  simp only[prc,Ord.sumP]
  split<;>omega
theorem most_bd{s:Ord}(hk:OkO s):0<=s.mostF/\s.mostF<=s.sumP s.ws.length:=by
 obtain⟨⟨_,b⟩,_⟩:=most_fill hk
 have h1:=prc_bd hk (bestF s).pl s.ws.length (Nat.le_refl _)
 have h2:=prc_le hk (bestF s).pl s.ws.length (Nat.le_refl _)
 omega
theorem q20n(s:Ord)(hk:OkO s):FnA Tryz.prog 20 [.agg s.cells, .isl []] (· = .int .i64 (s.sumP s.ws.length)):=by
 have l1:(s.ws.map Wish.av).length=s.ws.length:=by simp
 have hw1:=hk.w1
 refine fnA 1 ok20 (by simp) ?_
 (conv=>whnf);(repeat'((first|apply bT|apply bF|apply bN|((first|apply bD|apply bEq|apply bNe)<;>intro hh<;>try(exfalso;omega))|refine wJ ?_|refine nJ ?_)<;>conv=>whnf))
 refine loop_i (α :=Nat) (fun k=>[(6, .int .i64 k),(5, .int .i64 (s.sumP k)),(2, .own 0 0),(1, .isl [])]) (fun k=>[.box false s.cells]) (fun k=>k<=s.ws.length) (fun k=>s.ws.length-k) 0 mI (by omega) ?_
 intro k hk0
 conv=>whnf
 refine bD (fun h3=>?_) (fun h3=>?_)
 ·have hkl:k<s.ws.length:=by omega
  have hi:s.isW (k:Nat)=true:=isW_iff.2 (by omega)
  have gw:=wget hi
  rw[show((k:Nat):Int).toNat=k by omega]at gw
  have hp:=wish_pr hk hi
  have hb:=sumP_bd hk k hk0
  have hs:s.sumP (k+1)=s.sumP k+(s.wish (k:Nat)).pr:=rfl
  (conv=>whnf);(repeat'((first|apply bT|apply bF|apply bN|((first|apply bD|apply bEq|apply bNe)<;>intro hh<;>try(exfalso;omega))|refine iaJ gw ?_|refine wJ ?_|refine nJ ?_)<;>conv=>whnf))
  refine⟨k+1,?_,by omega,by omega⟩
  rw[hs]
  exact mI
 ·have:k=s.ws.length:=by omega
  subst this
  (conv=>whnf);(repeat'((first|apply bT|apply bF|apply bN|((first|apply bD|apply bEq|apply bNe)<;>intro hh<;>try(exfalso;omega))|refine wJ ?_|refine nJ ?_)<;>conv=>whnf))
  all_goals rfl
theorem q20(s:Ord)(hk:OkO s)(l:List Int)(hl:l.length=s.ws.length)(h0:l.length≠0):FnA Tryz.prog 20 [.agg s.cells, .isl (l.map jAV)] (· = .int .i64 (prc s l s.ws.length)):=by
 have l1:(s.ws.map Wish.av).length=s.ws.length:=by simp
 have l2:(l.map jAV).length=l.length:=by simp
 have hw1:=hk.w1
 refine fnA 1 ok20 (by simp) ?_
 (conv=>whnf);(repeat'((first|apply bT|apply bF|apply bN|((first|apply bD|apply bEq|apply bNe)<;>intro hh<;>try(exfalso;omega))|refine wJ ?_|refine nJ ?_)<;>conv=>whnf))
 refine loop_i (α :=Nat) (fun k=>[(6, .int .i64 k),(5, .int .i64 (prc s l k)),(2, .own 0 0),(1, .isl (l.map jAV))]) (fun k=>[.box false s.cells]) (fun k=>k<=s.ws.length) (fun k=>s.ws.length-k) 0 mI (by omega) ?_
 intro k hk0
 conv=>whnf
 refine bD (fun h3=>?_) (fun h3=>?_)
 ·have hkl:k<l.length:=by omega
  have g1:(l.map jAV).getD k []=[.int .i64 (l.getD k 0)]:=by rw[getM jAV l k hkl];simp[List.getD_eq_getElem?_getD,hkl,jAV]
  have hi:s.isW (k:Nat)=true:=isW_iff.2 (by omega)
  have gw:=wget hi
  rw[show((k:Nat):Int).toNat=k by omega]at gw
  have hp:=wish_pr hk hi
  have hb:=prc_bd hk l k hk0
  have hs:prc s l (k+1)=prc s l k+if 0<=l.getD k 0 then(s.wish (k:Nat)).pr else 0:=rfl
  generalize l.getD k 0=j at g1 hs
  by_cases hj:0<=j
  ·rw[if_pos hj]at hs
   (conv=>whnf);(repeat'((first|apply bT|apply bF|apply bN|((first|apply bD|apply bEq|apply bNe)<;>intro hh<;>try(exfalso;omega))|refine iaJ g1 ?_|refine iaJ gw ?_|refine wJ ?_|refine nJ ?_)<;>conv=>whnf))
   refine⟨k+1,?_,by omega,by omega⟩
   rw[hs]
   exact mI
  ·rw[if_neg hj,Int.add_zero]at hs
   (conv=>whnf);(repeat'((first|apply bT|apply bF|apply bN|((first|apply bD|apply bEq|apply bNe)<;>intro hh<;>try(exfalso;omega))|refine iaJ g1 ?_|refine wJ ?_|refine nJ ?_)<;>conv=>whnf))
   refine⟨k+1,?_,by omega,by omega⟩
   rw[hs]
   exact mI
 ·have:k=s.ws.length:=by omega
  subst this
  (conv=>whnf);(repeat'((first|apply bT|apply bF|apply bN|((first|apply bD|apply bEq|apply bNe)<;>intro hh<;>try(exfalso;omega))|refine wJ ?_|refine nJ ?_)<;>conv=>whnf))
  all_goals rfl
def Ord.rdB(s:Ord):Bool := !s.far&&decide (s.eS true=0)
theorem rdB_iff{s:Ord}:s.rdB=true<->s.far=false/\s.eS true=0:=by unfold Ord.rdB;simp
theorem q15(s:Ord):FnA Tryz.prog 15 [.agg s.cells] (· = .bool s.rdB):=by
 have e0:=q30 s
 unfold Ord.rdB
 cases hf:s.far with
 |true=>
  rw[hf]at e0
  refine fnA 1 ok15 (by simp) ?_
  (conv=>whnf);(repeat'((first|apply bT|apply bF|apply bN|((first|apply bD|apply bEq|apply bNe)<;>intro hh<;>try(exfalso;omega))|refine e0.cq rfl rfl ?_|refine wJ ?_|refine nJ ?_)<;>conv=>whnf))
  all_goals rfl
 |false=>
  rw[hf]at e0
  have e1:=q50 s (osz_big (far_false hf))
  generalize s.eS true=e at e1⊢
  refine fnA 1 ok15 (by simp) ?_
  by_cases h:e=0
  ·rw[decide_eq_true h]
   (conv=>whnf);(repeat'((first|apply bT|apply bF|apply bN|((first|apply bD|apply bEq|apply bNe)<;>intro hh<;>try(exfalso;omega))|refine e0.cq rfl rfl ?_|refine e1.cq rfl rfl ?_|refine wJ ?_|refine nJ ?_)<;>conv=>whnf))
   all_goals (refine congrArg AV.bool ?_;simp[h])
  ·rw[decide_eq_false h]
   (conv=>whnf);(repeat'((first|apply bT|apply bF|apply bN|((first|apply bD|apply bEq|apply bNe)<;>intro hh<;>try(exfalso;omega))|refine e0.cq rfl rfl ?_|refine e1.cq rfl rfl ?_|refine wJ ?_|refine nJ ?_)<;>conv=>whnf))
   all_goals (refine congrArg AV.bool ?_;simp[h])
structure Rdy(s:Ord):Prop where
 f:s.far=false
 B:BigO s
 k:OkO s
 T:s.w.noT=false
 E:s.eS true=0
theorem rdy{s:Ord}(h:s.rdB=true):Rdy s:=by
 obtain⟨hf,hE⟩:=rdB_iff.1 h
 obtain⟨hc,_,hT⟩:=eS_0 hE
 exact⟨hf,osz_big (far_false hf),okO hc,hT,hE⟩
theorem most_r{s:Ord}(h:s.eS true=0):s.mostAV = .tup [.int .i64 s.mostF, .int .i64 0]:=by unfold Ord.mostAV;rw[if_pos h]
theorem extra_r{s:Ord}(h:s.eS true=0):s.extraAV=if s.fewN=25 then .tup [.int .i64 0, .int .i64 3] else .tup [.int .i64 s.fewN, .int .i64 0]:=by unfold Ord.extraAV;rw[if_pos h]
theorem few_bd{s:Ord}(hk:OkO s):0<=s.fewN/\s.fewN<=25:=by
 rcases few_need hk with⟨e,_⟩|⟨n,e,h,_⟩<;>omega
theorem k11(s:Ord)(d:Int):FnA Tryz.prog 11 [.agg s.cells, .int .i64 d] (· = .bool true):=by
 have e0:=q30 s
 have eW:=q17
 cases hf:s.far with
 |true=>
  rw[hf]at e0
  refine fnA 9 ok11 (by simp) ?_
  (conv=>whnf);(repeat'((first|apply bT|apply bF|apply bN|((first|apply bD|apply bEq|apply bNe)<;>intro hh<;>try(exfalso;omega))|refine e0.cq rfl rfl ?_|refine eW.cq rfl rfl ?_|refine wJ ?_|refine nJ ?_)<;>conv=>whnf))
  all_goals rfl
 |false=>
  rw[hf]at e0
  have hB:=osz_big (far_false hf)
  have hS:=far_sm hf
  have e1:=q24 s hB
  have e2:=v18 s hB
  have e3:=q38 s hB hS
  have e4:=v28 s hB d
  have e5:=q39 s hB hS d
  have e6:=v26 s hB
  have e7:=q40 s hB hS
  have e8:=q37 s hB
  rw[most_av]at e3
  rw[without_av]at e5
  rw[extra_av]at e7
  have h1:∃a b:Int,s.mostAV = .tup [.int .i64 a, .int .i64 b]:=by unfold Ord.mostAV;split<;>exact⟨_,_,rfl⟩
  have h2:∃a b:Int,s.withoutAV d = .tup [.int .i64 a, .int .i64 b]:=by unfold Ord.withoutAV Ord.mostAV;split<;>(try split)<;>exact⟨_,_,rfl⟩
  have h3:∃a b:Int,s.extraAV = .tup [.int .i64 a, .int .i64 b]:=by unfold Ord.extraAV;split<;>(try split)<;>exact⟨_,_,rfl⟩
  obtain⟨a1,b1,h1⟩:=h1
  obtain⟨a2,b2,h2⟩:=h2
  obtain⟨a3,b3,h3⟩:=h3
  rw[h1]at e2 e3
  rw[h2]at e4 e5
  rw[h3]at e6 e7
  refine fnA 9 ok11 (by simp) ?_
  (conv=>whnf);(repeat'((first|apply bT|apply bF|apply bN|((first|apply bD|apply bEq|apply bNe)<;>intro hh<;>try(exfalso;omega))|refine e0.cq rfl rfl ?_|refine e1.zq rfl rfl ?_|refine e2.cq rfl rfl ?_|refine e3.cq rfl rfl ?_|refine e4.cq rfl rfl ?_|refine e5.cq rfl rfl ?_|refine e6.cq rfl rfl ?_|refine e7.cq rfl rfl ?_|refine e8.cq rfl rfl ?_|refine eW.cq rfl rfl ?_|refine wJ ?_|refine nJ ?_)<;>conv=>whnf))
  all_goals rfl
theorem tkI_sub(s:Ord)(l:List Int){i:Nat}:∀ {k:Nat},i<k->(s.tkI (i:Nat) (l.getD i 0)).Sublist (s.tks l k)
 |0,h=>by omega
 |k+1,h=>by
  rw[tks_succ]
  by_cases e:i=k
  ·rw[e];exact List.sublist_append_right _ _
  ·exact(tkI_sub s l (show i<k by omega)).trans (List.sublist_append_left _ _)
theorem fill_alone{s:Ord}(hk:OkO s){l:List Int}(h:Fill s l){i:Nat}(hi:i<s.ws.length){p:Nat}(hp:l.getD i 0=(p:Int)):s.fillB (aloneL s.ws.length (i:Nat) (p:Nat))=true:=by
 have hW:s.isW (i:Nat)=true:=isW_iff.2 ⟨by omega,by omega⟩
 unfold Ord.fillB
 rw[alone_len,aTkOk hW,aTksF hW,Bool.and_eq_true,does_ach _ (sup2_ok hk),sup_ach]
 have hg:=tkOk_get h.k hi
 rw[hp]at hg
 refine⟨hg,?_⟩
 have hs:=tkI_sub s l hi
 rw[hp,show s.tkI (i:Nat) (p:Nat)=s.tkP (i:Nat) (p:Nat) by unfold Ord.tkI;rw[if_neg (by omega)]]at hs
 obtain⟨q,h1,h2⟩:=ach_cut hs s.sup 0 h.h
 rw[show q=0 by omega]at h2
 exact h2
theorem can_of{s:Ord}(hk:OkO s){l:List Int}(h:Fill s l){i:Nat}(hi:i<s.ws.length)(hp:0<=l.getD i 0):l.getD i 0∈s.canL (i:Nat):=by
 have hW:s.isW (i:Nat)=true:=isW_iff.2 ⟨by omega,by omega⟩
 obtain⟨hP,hlen⟩:=isPl_iff.1 h.p
 have h1:=(hP.1 i (by omega)).resolve_left (by omega)
 rw[can_eq hk hW]
 have:=fill_alone hk h hi (p:=(l.getD i 0).toNat) (by omega)
 unfold Ord.rcan Ord.rcanK
 exact List.mem_map.2 ⟨(l.getD i 0).toNat,List.mem_filter.2 ⟨List.mem_range.2 (by omega),this⟩,by omega⟩
theorem can_len{s:Ord}(hk:OkO s){i:Int}(hi:s.isW i=true):(s.canL i).length<=8:=by
 rw[can_eq hk hi]
 have:=rcanK_len s i s.ps.length
 have:=hk.p1
 unfold Ord.rcan
 omega
theorem k3(s:Ord)(l:List Int):FnA Tryz.prog 3 [.agg s.cells, .isl (l.map jAV)] (· = .bool true):=by
 have l1:(l.map jAV).length=l.length:=by simp
 have e0:=q15 s
 have eW:=q17
 cases hr:s.rdB with
 |false=>
  rw[hr]at e0
  refine fnA 2 ok3 (by simp) ?_
  (conv=>whnf);(repeat'((first|apply bT|apply bF|apply bN|((first|apply bD|apply bEq|apply bNe)<;>intro hh<;>try(exfalso;omega))|refine e0.cq rfl rfl ?_|refine eW.cq rfl rfl ?_|refine wJ ?_|refine nJ ?_)<;>conv=>whnf))
  all_goals rfl
 |true=>
  rw[hr]at e0
  obtain⟨hf,hB,hk,hT,hE⟩:=rdy hr
  by_cases hl:l.length<=40
  case neg=>
   refine fnA 2 ok3 (by simp) ?_
   (conv=>whnf);(repeat'((first|apply bT|apply bF|apply bN|((first|apply bD|apply bEq|apply bNe)<;>intro hh<;>try(exfalso;omega))|refine e0.cq rfl rfl ?_|refine eW.cq rfl rfl ?_|refine wJ ?_|refine nJ ?_)<;>conv=>whnf))
   all_goals rfl
  have e1:=q16 s l hB.ps hB.ws (by omega)
  cases hp:s.isPl l with
  |false=>
   rw[hp]at e1
   refine fnA 2 ok3 (by simp) ?_
   (conv=>whnf);(repeat'((first|apply bT|apply bF|apply bN|((first|apply bD|apply bEq|apply bNe)<;>intro hh<;>try(exfalso;omega))|refine e0.cq rfl rfl ?_|refine e1.cq rfl rfl ?_|refine eW.cq rfl rfl ?_|refine wJ ?_|refine nJ ?_)<;>conv=>whnf))
   all_goals rfl
  |true=>
   rw[hp]at e1
   have e2:=v18 s hB
   have e3:=v19 s hB l (by omega)
   have e4:=q20n s hk
   have e5:=q21 s hk hT l (plO_of hp)
   rw[most_r hE]at e2
   rw[takes_av]at e3
   unfold Ord.rtakesAV at e3
   rw[hp,if_pos hE]at e3
   have hb:=most_bd hk
   have hlen:=(isPl_iff.1 hp).2
   cases hF:s.fillB l with
   |false=>
    rw[hF]at e3 e5
    rw[if_neg (by simp)]at e3
    refine fnA 2 ok3 (by simp) ?_
    (conv=>whnf);(repeat'((first|apply bT|apply bF|apply bN|((first|apply bD|apply bEq|apply bNe)<;>intro hh<;>try(exfalso;omega))|refine e0.cq rfl rfl ?_|refine e1.cq rfl rfl ?_|refine e2.cq rfl rfl ?_|refine e3.lq rfl rfl ?_|refine e4.cq rfl rfl ?_|refine e5.cq rfl rfl ?_|refine eW.cq rfl rfl ?_|refine wJ ?_|refine nJ ?_)<;>conv=>whnf))
    all_goals rfl
   |true=>
    rw[hF]at e3 e5
    rw[if_pos rfl]at e3
    have hFl:=(fill_B hk hp).1 hF
    have hm:=(most_fill hk).2 l hFl
    rw[hlen]at e3
    have e7:l.length≠0->_:=q20 s hk l hlen
    have hC:∀i:Nat,i<s.ws.length->0<=l.getD i 0->l.getD i 0∈s.canL (i:Nat):=fun i hi h0=>can_of hk hFl hi h0
    generalize prc s l s.ws.length=m at *
    generalize s.mostF=n at *
    generalize s.sumP s.ws.length=q at *
    refine fnA 2 ok3 (by simp) ?_
    (conv=>whnf);(repeat'((first|apply bT|apply bF|apply bN|((first|apply bD|apply bEq|apply bNe)<;>intro hh<;>try(exfalso;omega))|refine e0.cq rfl rfl ?_|refine e1.cq rfl rfl ?_|refine e2.cq rfl rfl ?_|refine e3.lq rfl rfl ?_|refine e4.cq rfl rfl ?_|refine e5.cq rfl rfl ?_|refine wJ ?_|refine nJ ?_)<;>conv=>whnf))
    refine loop_i (α :=Nat) (fun k=>[(9, .int .i64 k),(8, .int .i64 0),(7, .int .i64 m),(5, .int .i64 n),(2, .own 0 0),(1, .isl (l.map jAV))]) (fun k=>[.box false s.cells, .fresh]) (fun k=>k<=l.length) (fun k=>l.length-k) 0 mI (by omega) ?_
    intro k hk0
    conv=>whnf
    refine bD (fun h3=>?_) (fun h3=>?_)
    ·have hkl:k<l.length:=by omega
     have g1:(l.map jAV).getD k []=[.int .i64 (l.getD k 0)]:=by rw[getM jAV l k hkl];simp[List.getD_eq_getElem?_getD,hkl,jAV]
     have hC:=hC k (by omega)
     have hi:s.isW (k:Nat)=true:=isW_iff.2 (by omega)
     have hcl:=can_len hk hi
     have e6:=v22 s hB (k:Nat)
     unfold Ord.canAV at e6
     rw[hi,if_pos hE]at e6
     generalize l.getD k 0=j at g1 hC
     by_cases hj:0<=j
     ·have e8:=q23 (s.canL (k:Nat)) j (by omega)
      rw[decide_eq_true (hC hj)]at e8
      (conv=>whnf);(repeat'((first|apply bT|apply bF|apply bN|((first|apply bD|apply bEq|apply bNe)<;>intro hh<;>try(exfalso;omega))|refine iaJ g1 ?_|refine e6.zq rfl rfl ?_|refine e8.cq rfl rfl ?_|refine wJ ?_|refine nJ ?_)<;>conv=>whnf))
      exact⟨k+1,mI,by omega,by omega⟩
     ·(conv=>whnf);(repeat'((first|apply bT|apply bF|apply bN|((first|apply bD|apply bEq|apply bNe)<;>intro hh<;>try(exfalso;omega))|refine iaJ g1 ?_|refine wJ ?_|refine nJ ?_)<;>conv=>whnf))
      exact⟨k+1,mI,by omega,by omega⟩
    ·have:k=l.length:=by omega
     subst this
     by_cases h0:l.length=0
     ·(conv=>whnf);(repeat'((first|apply bT|apply bF|apply bN|((first|apply bD|apply bEq|apply bNe)<;>intro hh<;>try(exfalso;omega))|refine eW.cq rfl rfl ?_|refine wJ ?_|refine nJ ?_)<;>conv=>whnf))
      all_goals rfl
     ·have e7:=e7 h0
      (conv=>whnf);(repeat'((first|apply bT|apply bF|apply bN|((first|apply bD|apply bEq|apply bNe)<;>intro hh<;>try(exfalso;omega))|refine e7.cq rfl rfl ?_|refine eW.cq rfl rfl ?_|refine wJ ?_|refine nJ ?_)<;>conv=>whnf))
      all_goals rfl
def Ord.priB(s:Ord):Nat->Bool
 |0=>true
 |k+1=>s.priB k&&decide (0<(s.wish (k:Nat)).pr)
theorem pri_get{s:Ord}:∀ {k:Nat},s.priB k=true->∀i,i<k->0<(s.wish (i:Nat)).pr
 |0,_,i,hi=>by omega
 |k+1,h,i,hi=>by
  simp only[Ord.priB,Bool.and_eq_true,decide_eq_true_eq]at h
  by_cases e:i=k
  ·rw[e];exact h.2
  ·exact pri_get h.1 i (by omega)
theorem prc_full{s:Ord}{l:List Int}:∀k,(∀i,i<k->0<=l.getD i 0)->prc s l k=s.sumP k
 |0,_=>rfl
 |k+1,h=>by simp only[prc,Ord.sumP];rw[prc_full k (fun i hi=>h i (by omega)),if_pos (h k (by omega))]
theorem prc_lt{s:Ord}(hk:OkO s){l:List Int}:∀k,k<=s.ws.length->s.priB k=true->prc s l k=s.sumP k->∀i,i<k->0<=l.getD i 0
 |0,_,_,_,i,hi=>by omega
 |k+1,hle,hp,he,i,hi=>by
  have h1:=prc_le hk l k (by omega)
  have h2:=pri_get hp k (by omega)
  simp only[prc,Ord.sumP]at he
  simp only[Ord.priB,Bool.and_eq_true]at hp
  have h3:0<=l.getD k 0:=by
   apply Classical.byContradiction
   intro hn
   rw[if_neg hn]at he;omega
  rw[if_pos h3]at he
  by_cases e:i=k
  ·rw[e];exact h3
  ·exact prc_lt hk k (by omega) hp.1 (by omega) i (by omega)
theorem no1_get{l:List Int}:(-1:Int)∉l<->∀i,i<l.length->l.getD i 0 ≠ -1:=by
 constructor
 ·intro h i hi e;exact h (by rw[<- e];exact getD_memI hi)
 ·intro h hm
  obtain⟨i,hi,e⟩:=List.getElem_of_mem hm
  exact h i hi (by rw[<- e];simp[List.getD_eq_getElem?_getD,hi])
theorem all_pri{s:Ord}(hk:OkO s)(hp:s.priB s.ws.length=true):s.fewN=0<->s.mostF=s.sumP s.ws.length:=by
 obtain⟨⟨a,b⟩,c⟩:=most_fill hk
 constructor
 ·intro h
  rcases few_need hk with⟨e,_⟩|⟨n,e,_,⟨l,hl⟩,_⟩
  ·omega
  ·have hlen:=(isPl_iff.1 hl.p).2
   rw[show n=0 by omega]at hl
   have h1:=c l ⟨hl.p,hl.k,hl.h⟩
   rw[prc_full _ (fun i hi=>by
    have h2:=no1_get.1 hl.a i (by omega)
    have h3:=(isPl_iff.1 hl.p).1.1 i (by omega)
    omega)]at h1
   have:=(most_bd hk).2
   omega
 ·intro h
  have hlen:=(isPl_iff.1 a.p).2
  have h0:=prc_lt hk (l:=(bestF s).pl) s.ws.length (Nat.le_refl _) hp (by rw[b,h])
  have hn:Need s (bestF s).pl 0:=⟨a.p,no1_get.2 (fun i hi=>by have:=h0 i (by omega);omega),a.k,ach_ne _ _ a.h,a.h⟩
  rcases few_need hk with⟨_,e⟩|⟨n,e,_,_,e2⟩
  ·exact absurd hn (e _ _)
  ·have:=e2 _ _ hn;omega
theorem k8(s:Ord)(l:List Int):FnA Tryz.prog 8 [.agg s.cells, .isl (l.map jAV)] (· = .bool true):=by
 have l1:(l.map jAV).length=l.length:=by simp
 have l2:(s.ws.map Wish.av).length=s.ws.length:=by simp
 have e0:=q15 s
 have eW:=q17
 cases hr:s.rdB with
 |false=>
  rw[hr]at e0
  refine fnA 1 ok8 (by simp) ?_
  (conv=>whnf);(repeat'((first|apply bT|apply bF|apply bN|((first|apply bD|apply bEq|apply bNe)<;>intro hh<;>try(exfalso;omega))|refine e0.cq rfl rfl ?_|refine eW.cq rfl rfl ?_|refine wJ ?_|refine nJ ?_)<;>conv=>whnf))
  all_goals rfl
 |true=>
  rw[hr]at e0
  obtain⟨hf,hB,hk,hT,hE⟩:=rdy hr
  by_cases hl:l.length<=40
  case neg=>
   refine fnA 1 ok8 (by simp) ?_
   (conv=>whnf);(repeat'((first|apply bT|apply bF|apply bN|((first|apply bD|apply bEq|apply bNe)<;>intro hh<;>try(exfalso;omega))|refine e0.cq rfl rfl ?_|refine eW.cq rfl rfl ?_|refine wJ ?_|refine nJ ?_)<;>conv=>whnf))
   all_goals rfl
  have e1:=v18 s hB
  have e2:=v26 s hB
  have e3:=q20n s hk
  have e4:=q16 s l hB.ps hB.ws (by omega)
  have e5:=q23 l (-1) (by omega)
  rw[most_r hE]at e1
  rw[extra_r hE]at e2
  have hb:=few_bd hk
  have hpri:=fun h=>all_pri hk (s:=s) h
  have hw1:=hk.w1
  have hbuy:s.isPl l=true->(-1:Int)∉l->FnA Tryz.prog 27 [.agg s.cells, .isl (l.map jAV)] (· = .int .i64 (s.buyI l))/\(0<=s.buyI l->s.fewN<=s.buyI l/\s.fewN<=24):=fun h1 h2=>by
   refine⟨q27 s hk hT l (plO_of h1),fun h3=>?_⟩
   obtain⟨n,e,hn⟩:=(buy_need h1 h2).1 h3
   rcases few_need hk with⟨_,q⟩|⟨m,q,q2,_,q3⟩
   ·exact absurd hn (q _ _)
   ·have:=q3 _ _ hn;omega
  generalize s.fewN=x at *
  generalize s.mostF=n at *
  generalize s.sumP s.ws.length=q at *
  generalize s.buyI l=y at *
  by_cases hx:x=25
  all_goals
   first|rw[if_pos hx]at e2|rw[if_neg hx]at e2
   refine fnA 1 ok8 (by simp) ?_
   (conv=>whnf);(repeat'((first|apply bT|apply bF|apply bN|((first|apply bD|apply bEq|apply bNe)<;>intro hh<;>try(exfalso;omega))|refine e0.cq rfl rfl ?_|refine e1.cq rfl rfl ?_|refine e2.cq rfl rfl ?_|refine wJ ?_|refine nJ ?_)<;>conv=>whnf))
   first
    |refine loop_i (α :=Nat × Bool) (fun q=>[(10, .int .i64 q.1),(9, .bool q.2),(8, .int .i64 3),(7, .int .i64 0),(5, .int .i64 n),(2, .own 0 0),(1, .isl (l.map jAV))]) (fun q=>[.box false s.cells]) (fun q=>q.1<=s.ws.length/\q.2=s.priB q.1) (fun q=>s.ws.length-q.1) (0,true) mI ⟨by simp,rfl⟩ ?_
    |refine loop_i (α :=Nat × Bool) (fun q=>[(10, .int .i64 q.1),(9, .bool q.2),(8, .int .i64 0),(7, .int .i64 x),(5, .int .i64 n),(2, .own 0 0),(1, .isl (l.map jAV))]) (fun q=>[.box false s.cells]) (fun q=>q.1<=s.ws.length/\q.2=s.priB q.1) (fun q=>s.ws.length-q.1) (0,true) mI ⟨by simp,rfl⟩ ?_
   rintro⟨k,b⟩ ⟨hk0,hbe⟩
   dsimp only at hk0 hbe⊢
   conv=>whnf
   refine bD (fun h3=>?_) (fun h3=>?_)
   ·have hkl:k<s.ws.length:=by omega
    have gw:=wget (s:=s) (i:=(k:Nat)) (isW_iff.2 ⟨by omega,by omega⟩)
    rw[show((k:Nat):Int).toNat=k by omega]at gw
    have hs:s.priB (k+1)=(b&&decide (0<(s.wish (k:Nat)).pr)):=by rw[hbe];rfl
    cases b with
    |false=>
     (conv=>whnf);(repeat'((first|apply bT|apply bF|apply bN|((first|apply bD|apply bEq|apply bNe)<;>intro hh<;>try(exfalso;omega))|refine wJ ?_|refine nJ ?_)<;>conv=>whnf))
     exact⟨(k+1,false),mI,⟨by dsimp only;omega,hs.symm⟩,by dsimp only;omega⟩
    |true=>
     by_cases hp:0<(s.wish (k:Nat)).pr
     ·rw[decide_eq_true hp]at hs
      have hd:decide (0<(s.wish (k:Nat)).pr)=true:=decide_eq_true hp
      (conv=>whnf);(repeat'((first|apply bT|apply bF|apply bN|((first|apply bD|apply bEq|apply bNe)<;>intro hh<;>try(exfalso;omega))|refine iaJ gw ?_|refine wJ ?_|refine nJ ?_)<;>conv=>whnf))
      exact⟨(k+1,decide ((s.wish (k:Nat)).pr>0)),mI,⟨by dsimp only;omega,by dsimp only;rw[hs];exact hd⟩,by dsimp only;omega⟩
     ·rw[decide_eq_false hp]at hs
      have hd:decide (0<(s.wish (k:Nat)).pr)=false:=decide_eq_false hp
      (conv=>whnf);(repeat'((first|apply bT|apply bF|apply bN|((first|apply bD|apply bEq|apply bNe)<;>intro hh<;>try(exfalso;omega))|refine iaJ gw ?_|refine wJ ?_|refine nJ ?_)<;>conv=>whnf))
      exact⟨(k+1,decide ((s.wish (k:Nat)).pr>0)),mI,⟨by dsimp only;omega,by dsimp only;rw[hs];exact hd⟩,by dsimp only;omega⟩
   ·have:k=s.ws.length:=by omega
    subst this
    have hpri:b=true->(x=0<->n=q):=fun h=>hpri (by rw[<- hbe];exact h)
    clear hbe
    have tail:(s.isPl l=false\/s.isPl l=true/\(-1:Int)∈l)\/(s.isPl l=true/\(-1:Int)∉l)/\FnA Tryz.prog 27 [.agg s.cells, .isl (l.map jAV)] (· = .int .i64 y)/\(0<=y->x<=y/\x<=24):=by
     cases h1:s.isPl l with
     |false=>exact .inl (.inl rfl)
     |true=>
      by_cases h2:(-1:Int)∈l
      ·exact .inl (.inr ⟨rfl,h2⟩)
      ·exact .inr ⟨⟨rfl,h2⟩,hbuy h1 h2⟩
    have hq1:b=true->(x==0)=(n==q):=fun h=>by rw[Bool.eq_iff_iff];simpa using hpri h
    have hq2:b=true->x=25->false=(n==q):=fun h e=>by rw[<- hq1 h,e];rfl
    clear hpri
    cases b
    all_goals
     rcases tail with(h1|⟨h1,h2⟩)|⟨⟨h1,h2⟩,e6,hy⟩
     ·rw[h1]at e4
      (conv=>whnf);(repeat'((first|apply bT|apply bF|apply bN|((first|apply bD|apply bEq|apply bNe)<;>intro hh<;>try(exfalso;omega))|refine e3.cq rfl rfl ?_|refine e4.cq rfl rfl ?_|refine eW.cq rfl rfl ?_|refine wJ ?_|refine nJ ?_)<;>conv=>whnf))
      all_goals first|rfl|exact(hh (hq1 rfl)).elim|exact(hh (hq2 rfl hx)).elim
     ·rw[h1]at e4
      rw[decide_eq_true h2]at e5
      (conv=>whnf);(repeat'((first|apply bT|apply bF|apply bN|((first|apply bD|apply bEq|apply bNe)<;>intro hh<;>try(exfalso;omega))|refine e3.cq rfl rfl ?_|refine e4.cq rfl rfl ?_|refine e5.cq rfl rfl ?_|refine eW.cq rfl rfl ?_|refine wJ ?_|refine nJ ?_)<;>conv=>whnf))
      all_goals first|rfl|exact(hh (hq1 rfl)).elim|exact(hh (hq2 rfl hx)).elim
     ·rw[h1]at e4
      rw[decide_eq_false h2]at e5
      by_cases hy0:0<=y
      ·have hy:=hy hy0
       first
        |(exfalso;omega)
        |((conv=>whnf);(repeat'((first|apply bT|apply bF|apply bN|((first|apply bD|apply bEq|apply bNe)<;>intro hh<;>try(exfalso;omega))|refine e3.cq rfl rfl ?_|refine e4.cq rfl rfl ?_|refine e5.cq rfl rfl ?_|refine e6.cq rfl rfl ?_|refine eW.cq rfl rfl ?_|refine wJ ?_|refine nJ ?_)<;>conv=>whnf));all_goals first|rfl|exact(hh (hq1 rfl)).elim|exact(hh (hq2 rfl hx)).elim)
      ·(conv=>whnf);(repeat'((first|apply bT|apply bF|apply bN|((first|apply bD|apply bEq|apply bNe)<;>intro hh<;>try(exfalso;omega))|refine e3.cq rfl rfl ?_|refine e4.cq rfl rfl ?_|refine e5.cq rfl rfl ?_|refine e6.cq rfl rfl ?_|refine eW.cq rfl rfl ?_|refine wJ ?_|refine nJ ?_)<;>conv=>whnf))
       all_goals first|rfl|exact(hh (hq1 rfl)).elim|exact(hh (hq2 rfl hx)).elim
end Go.Proofs
