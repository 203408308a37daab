/- The engine of these proofs, part 3 of 4: abstract values and states, the walk of a function's body as a program on them, and why that walk is sound for the model. It speaks of any program. -/
import Derived.Test.YtpcmpgcjhmecbaaEng2
set_option linter.unusedSimpArgs false
set_option linter.unusedVariables false
set_option linter.unusedSectionVars false
namespace Go.Eng
open Go.RowKit
theorem neOk_mono{s:St}{i:Nat}:∀ {a b:List Opd},(∀q∈b,q∈a)->neOk s i a=true->neOk s i b=true:=fun {a b}=>by
 have h1:∀a:List Opd,neOk s i a=true<->∀q∈a,(match s.ev q with|some v=>v.refsIn fun j=>j != i|none=>false)=true:=fun a=>by
  induction a with
  |nil=>simp[neOk]
  |cons p ps ih=>simp only[neOk,Bool.and_eq_true,ih,List.mem_cons,forall_eq_or_imp];try exact Iff.rfl
 rw[h1,h1];exact fun h k q hq=>k q (h q hq)
theorem neOkL_mono{s:St}{us:List AV}:∀ {a b:List Opd},(∀q∈b,q∈a)->neOkL s us a=true->neOkL s us b=true:=fun {a b}=>by
 have h1:∀a:List Opd,neOkL s us a=true<->∀q∈a,(match s.ev q with|some v=>apartVs v us|none=>false)=true:=fun a=>by
  induction a with
  |nil=>simp[neOkL]
  |cons p ps ih=>simp only[neOkL,Bool.and_eq_true,ih,List.mem_cons,forall_eq_or_imp];try exact Iff.rfl
 rw[h1,h1];exact fun h k q hq=>k q (h q hq)
theorem need_mono{p q r:Prop}(h:q->r):need p q->need p r:=fun⟨h1,h2⟩=>⟨h1,h h2⟩
theorem ite_mono{p q:Prop}[Decidable p][Decidable q]{r:Prop}(h:p->q):(if p then r else False)->if q then r else False:=fun k=>by
 by_cases hp:p
 ·rw[if_pos hp]at k;rw[if_pos (h hp)];exact k
 ·rw[if_neg hp]at k;exact k.elim
theorem cellsK_mono{ag:Bool}{v:AV}{K K':List AV->Prop}(h:∀vs,K vs->K' vs):cellsK ag v K->cellsK ag v K':=by
 unfold cellsK
 cases ag with
 |false=>exact need_mono (h _)
 |true=>cases v<;>first|exact id|exact h _
theorem evX_ne{E:Env}{a b:List Opd}(hab:∀q∈b,q∈a){z:Ixo}{s:St}{κ : Eff->Prop}(h:evX E (z.withNe a) s κ):evX E (z.withNe b) s κ :=by
 cases z with
 |store ag n p x ne=>
  simp only[Ixo.withNe,evX]at h⊢
  split at h
  ·rename_i i off v ha hx
   try simp only[ha,hx]
   split at h
   ·rename_i cs hr
    try simp only[hr]
    exact cellsK_mono (fun vs=>need_mono (ite_mono fun h=>⟨h.1,h.2.1,neOk_mono hab h.2.2⟩)) h
   ·exact h.elim
  ·rename_i i sz m j v ha hx
   try simp only[ha,hx]
   split at h
   ·rename_i el sz' es hr
    try simp only[hr]
    refine cellsK_mono (fun vs=>need_mono fun h=>?_) h
    by_cases hc:sz'=sz/\vs.length=n/\AV.puL vs=true/\neOk s i a=true
    ·rw[if_pos hc]at h
     rw[if_pos ⟨hc.1,hc.2.1,hc.2.2.1,neOk_mono hab hc.2.2.2⟩]
     exact h
    ·rw[if_neg hc]at h;exact h.elim
   ·exact h.elim
  ·exact h.elim
 |bsl nm el sz ps ne=>
  simp only[Ixo.withNe,evX]at h⊢
  split at h
  ·rename_i vs hr hv
   try simp only[hr,hv]
   split at h
   ·rename_i es z h1 h2
    try simp only[h1,neOkL_mono hab h2]
    exact h
   ·exact h.elim
  ·exact h.elim
 |apd nm el sz by' x y ne=>
  simp only[Ixo.withNe,evX]at h⊢
  split at h
  ·rename_i u v hr hu hv
   try simp only[hr,hu,hv]
   split at h
   ·rename_i es z es' h1 h2
    try simp only[h1,h2]
    by_cases hc:(apartV v u&&tslOk u es')=true/\neOkL s [u,v] a=true
    ·rw[if_pos hc]at h
     rw[if_pos ⟨hc.1,neOkL_mono hab hc.2⟩]
     exact h
    ·rw[if_neg hc]at h;exact h.elim
   ·exact h.elim
  ·exact h.elim
 |callz nm ct f xs ne=>
  simp only[Ixo.withNe,evX]at h⊢
  split at h
  ·rename_i vs hv
   try simp only[hv]
   by_cases hc:neOkL s vs a=true/\freshN s.sg nm ct=true
   ·rw[if_pos hc]at h
    rw[if_pos ⟨neOkL_mono hab hc.1,hc.2⟩]
    exact h
   ·rw[if_neg hc]at h;exact h.elim
  ·exact h.elim
 |mpu kt m x v ne=>
  simp only[Ixo.withNe,evX]at h⊢
  split at h
  ·rename_i i kv vv hm hx hv
   try simp only[hm,hx,hv]
   split at h
   ·rename_i ks us z v' h1 h2 h3
    try simp only[h1,h2,h3]
    by_cases hc:memN (fstN z) i=false/\neOkL s [.row i,vv] a=true
    ·rw[if_pos hc]at h
     rw[if_pos ⟨hc.1,neOkL_mono hab hc.2⟩]
     exact h
    ·rw[if_neg hc]at h;exact h.elim
   ·rename_i ks us h1
    try simp only[h1]
    by_cases hc:neOkL s [.row i,vv] a=true
    ·rw[if_pos hc]at h
     rw[if_pos (neOkL_mono hab hc)]
     exact h
    ·rw[if_neg hc]at h;exact h.elim
   ·exact h.elim
  ·exact h.elim
 |stz ag n p x ne=>
  simp only[Ixo.withNe,evX]at h⊢
  split at h
  ·rename_i i off v ha hx
   try simp only[ha,hx]
   split at h
   ·rename_i cs hr
    try simp only[hr]
    by_cases hc:neOkL s [.own i off,v] a=true
    ·rw[if_pos hc]at h
     rw[if_pos (neOkL_mono hab hc)]
     exact h
    ·rw[if_neg hc]at h;exact h.elim
   ·exact h.elim
  ·rename_i i sz m j v ha hx
   try simp only[ha,hx]
   split at h
   ·rename_i el sz' es z v' h1 h2 h3
    try simp only[h1,h2,h3]
    by_cases hc:neOkL s [.elt i sz m j,v] a=true/\memN (fstN z) i=false/\sz'=sz
    ·rw[if_pos hc]at h
     rw[if_pos ⟨neOkL_mono hab hc.1,hc.2⟩]
     exact h
    ·rw[if_neg hc]at h;exact h.elim
   ·exact h.elim
  ·exact h.elim
 |mrg nm m ne=>
  simp only[Ixo.withNe,evX]at h⊢
  split at h
  ·rename_i v hf hm
   try simp only[hf,hm]
   split at h
   ·rename_i z ks us h1 h2
    try simp only[h1,h2]
    by_cases hc:neOkL s [v] a=true
    ·rw[if_pos hc]at h
     rw[if_pos (neOkL_mono hab hc)]
     exact h
    ·rw[if_neg hc]at h;exact h.elim
   ·exact h.elim
  ·exact h.elim
 |_=>exact h
def Ixo.slim(ds:List Nat)(z:Ixo):Ixo:=z.withNe (z.nes.filter fun q=>q.slots.all fun i => !ds.contains i)
def IOp.slim(ds:List Nat)(y:IOp):IOp:={ y with o:=y.o.slim ds }
theorem withNe_nes(z:Ixo):z.withNe z.nes=z:=by cases z<;>rfl
theorem evX_slim{E:Env}{ds:List Nat}{z:Ixo}{s:St}{κ : Eff->Prop}(h:evX E z s κ):evX E (z.slim ds) s κ :=
 evX_ne (fun q hq=>(List.mem_filter.1 hq).1) (by rw[withNe_nes];exact h)
theorem slim_slim(a b:List Nat)(z:Ixo):(z.slim a).slim b=z.slim (b++a):=by
 have:∀l:List Opd,(l.filter fun q=>q.slots.all fun i => !a.contains i).filter (fun q=>q.slots.all fun i => !b.contains i)=l.filter fun q=>q.slots.all fun i => !(b++a).contains i:=fun l=>by
  rw[List.filter_filter]
  congr 1;funext q
  cases q<;>simp[Opd.slots]
 cases z<;>first|rfl|(simp only[Ixo.slim,Ixo.nes,Ixo.withNe,this])
theorem evGX_slim{E:Env}{ds:List Nat}{y:IOp}{s:St}{κ : Eff->Prop}(h:evGX E y s κ):evGX E (y.slim ds) s κ :=by
 unfold evGX at h⊢
 simp only[IOp.slim]at h⊢
 cases hg:y.g with
 |none=>rw[hg]at h;exact evX_slim h
 |some jw=>
  obtain⟨j,w⟩:=jw
  rw[hg]at h
  simp only at h⊢
  cases hl:look s.tm j with
  |none=>rw[hl]at h;exact h
  |some v=>
   rw[hl]at h
   cases v with
   |bool b=>
    simp only at h⊢
    split at h
    ·rename_i h3;rw[if_pos h3];exact evX_slim h
    ·rename_i h3;rw[if_neg h3];exact h
   |tup vs=>cases vs<;>exact h
   |_=>exact h
theorem evG_slim{E:Env}{ds:List Nat}{y:IOp}{s:St}{k:St->Prop}(hk:Resp k)(h:evG E y s k):evG E (y.slim ds) s k:=
 (evG_iff hk).2 (evGX_slim ((evG_iff hk).1 h))
theorem slim_cls(ds:List Nat)(z:Ixo):(z.slim ds).cls=z.cls:=by cases z<;>rfl
theorem slim_isW(ds:List Nat)(z:Ixo):(z.slim ds).isW=z.isW:=by cases z<;>rfl
theorem slim_hard(ds:List Nat)(z:Ixo):(z.slim ds).hard=z.hard:=by cases z<;>rfl
theorem slim_names(ds:List Nat)(z:Ixo):(z.slim ds).names=z.names:=by cases z<;>rfl
theorem slim_nes(ds:List Nat)(z:Ixo):(z.slim ds).nes=z.nes.filter fun q=>q.slots.all fun i => !ds.contains i:=by cases z<;>rfl
theorem slim_opds(ds:List Nat)(z:Ixo)(p:Opd):p∈(z.slim ds).opds<->p∈(z.withNe []).opds\/p∈(z.slim ds).nes:=by
 cases z<;>simp[Ixo.slim,Ixo.withNe,Ixo.opds,Ixo.nes,or_assoc]
theorem swap_less{x y:IOp}{ds ds':List Nat}(hd:∀d,x.d=some d->d∈ds')(hsub:∀d∈ds',d∈ds)(h:swapOk x (y.slim ds)=true):swapOk x (y.slim ds')=true:=by
 have hne:∀q,q∈(y.o.slim ds).nes->q∈(y.o.slim ds').nes:=fun q hq=>by
  rw[slim_nes,List.mem_filter]at hq⊢
  refine⟨hq.1,?_⟩
  have:=hq.2
  simp only[List.all_eq_true,Bool.not_eq_true',List.contains_eq_mem,decide_eq_false_iff_not]at this⊢
  exact fun i hi hc=>this i hi (hsub i hc)
 have hap:apart x.o (y.o.slim ds)=true->apart x.o (y.o.slim ds')=true:=fun h=>by
  simp only[apart,List.all_eq_true]at h⊢
  intro a ha
  have:=h a ha
  cases a with
  |c v=>rfl
  |t i=>
   simp only[List.any_eq_true]at this⊢
   obtain⟨q,h1,h2⟩:=this
   exact⟨q,hne q h1,h2⟩
 simp only[swapOk,Bool.and_eq_true]at h⊢
 obtain⟨⟨⟨⟨⟨⟨⟨h1,h2⟩,h3⟩,h4⟩,h5⟩,h6⟩,hwx⟩,hwy⟩:=h
 refine⟨⟨⟨⟨⟨⟨⟨?_,h2⟩,?_⟩,?_⟩,h5⟩,?_⟩,hwx⟩,by simpa only[IOp.slim,slim_isW]using hwy⟩
 ·cases hx:x.d with
  |none=>rfl
  |some d=>
   rw[hx]at h1
   simp only[Bool.and_eq_true,Bool.not_eq_true',List.contains_eq_mem,decide_eq_false_iff_not]at h1⊢
   refine⟨fun hm=>?_,h1.2⟩
   simp only[IOp.slots,IOp.slim,List.mem_append,List.mem_flatMap,not_or,not_exists,not_and]at h1 hm
   rcases hm with hm|⟨p,hp,hm⟩
   ·exact h1.1.1 hm
   ·rcases(slim_opds ds' y.o p).1 hp with hp|hp
    ·exact h1.1.2 p ((slim_opds ds y.o p).2 (.inl hp)) hm
    ·rw[slim_nes,List.mem_filter]at hp
     have:=hp.2
     simp only[List.all_eq_true,Bool.not_eq_true',List.contains_eq_mem,decide_eq_false_iff_not]at this
     exact this d hm (hd d hx)
 ·simp only[IOp.slim,slim_cls,slim_hard]at h3⊢
  split at h3<;>simp_all
  all_goals first|(rcases h3 with(h3|h3)|h3<;>simp_all)|(rcases h3.2 with h7|h7<;>simp_all)
 ·simpa only[IOp.slim,slim_names]using h4
 ·simp only[IOp.slim,List.all_eq_true]at h6⊢
  intro p hp
  cases p with
  |t i=>rfl
  |c v=>
   rcases(slim_opds ds' y.o _).1 hp with hp|hp
   ·exact h6 _ ((slim_opds ds y.o _).2 (.inl hp))
   ·refine h6 _ ((slim_opds ds y.o _).2 (.inr ?_))
    rw[slim_nes,List.mem_filter]at hp⊢
    exact⟨hp.1,by simp[Opd.slots]⟩
structure IOpOf(P:Program)(N:Nat)(ops:Array Oper)(o:Oper)(p:IOp):Prop where
 op:∃nm io ne,compO P nm o.op=some io/\(p.o=io.withNe ne\/p.o=io.toX)/\stOk io o.dst=true
 d:p.d=o.dst
 dst:∀i,o.dst=some i->i<N
 g:(o.guard=none/\p.g=none)\/∃j w sl,o.guard=some (j,w)/\p.g=some (sl,w)/\(ops[j]?).bind (·.dst)=some sl
theorem compO_nes{P:Program}{nm:Nat}{op:Op}{z:Ixo}(h:compO P nm op=some z):z.nes=[]:=by
 cases op<;>simp only[compO]at h<;>(repeat' (split at h))<;>first|(cases h;done)|(cases h;rfl)|(simp only[Option.map_eq_some_iff]at h;obtain⟨_,_,rfl⟩:=h;rfl)|simp at h
theorem withNe_nil{z:Ixo}(h:z.nes=[]):z.withNe []=z:=by
 cases z<;>simp only[Ixo.nes]at h<;>first|rfl|(rw[h];rfl)
theorem compOps_get{P:Program}{N:Nat}{ops:Array Oper}:∀ {os:List Oper} {nm nm':Nat} {r:List IOp},compOps P N ops nm os=some (r,nm')->r.length=os.length/\∀(i:Nat) (o:Oper),os[i]?=some o->∃p,r[i]?=some p/\IOpOf P N ops o p
 | [],nm,nm',r,h=>by
  simp only[compOps,Option.some.injEq,Prod.mk.injEq]at h
  obtain⟨rfl,_⟩:=h
  exact⟨rfl,fun i o hi=>by simp at hi⟩
 |o::os,nm,nm',r,h=>by
  simp only[compOps]at h
  split at h<;>try cases h
  rename_i io h1
  split at h
  ·rename_i r' nm2 h2
   split at h
   ·rename_i hc
    simp only[Bool.and_eq_true]at hc
    obtain⟨ih1,ih2⟩:=compOps_get h2
    have hdst:∀i,o.dst=some i->i<N:=fun i hi=>by have:=hc.1;rw[hi]at this;simpa using this
    split at h
    ·rename_i hg
     simp only[Option.some.injEq,Prod.mk.injEq]at h
     obtain⟨rfl,_⟩:=h
     refine⟨by simp[ih1],fun i q hi=>?_⟩
     cases i with
     |zero=>simp at hi;subst hi;exact⟨_,rfl,⟨_,io,[],h1, .inl (withNe_nil (compO_nes h1)).symm,hc.2⟩,rfl,hdst, .inl ⟨hg,rfl⟩⟩
     |succ i=>simp at hi;simpa using ih2 i q hi
    ·rename_i j b hg
     split at h
     ·rename_i sl hs
      simp only[Option.some.injEq,Prod.mk.injEq]at h
      obtain⟨rfl,_⟩:=h
      refine⟨by simp[ih1],fun i q hi=>?_⟩
      cases i with
      |zero=>simp at hi;subst hi;exact⟨_,rfl,⟨_,io,[],h1, .inl (withNe_nil (compO_nes h1)).symm,hc.2⟩,rfl,hdst, .inr ⟨j,b,sl,hg,rfl,hs⟩⟩
      |succ i=>simp at hi;simpa using ih2 i q hi
     ·cases h
   ·cases h
  ·cases h
def Ixo.isCv:Ixo->Bool
 |.callv _ _=>true
 |_=>false
def Ixo.isCz:Ixo->Bool
 |.callz _ _ _ _ _=>true
 |_=>false
theorem compO_cz{P:Program}{nm:Nat}{op:Op}{z:Ixo}(h:compO P nm op=some z)(hv:z.isCz=true):∃c f xs nm ct,op = .call c/\c.callee = .value (.func f)/\bodied P f=true/\opds c.args.toList=some xs/\z = .callz nm ct f xs []:=by
 cases op with
 |call c=>
  simp only[compO]at h
  split at h
  ·rename_i f hcal
   split at h<;>try cases h
   rename_i h1 h2
   split at h
   ·cases h;cases hv
   split at h<;>cases h
   ·cases hv
   ·exact⟨_,_,_,_,_,rfl,hcal,h2,h1,rfl⟩
  ·(repeat' (split at h))<;>cases h<;>cases hv
  ·(repeat' (split at h))<;>cases h<;>cases hv
  ·(repeat' (split at h))<;>cases h<;>cases hv
  ·(repeat' (split at h))<;>cases h<;>cases hv
  ·(repeat' (split at h))<;>cases h<;>cases hv
  ·cases h
 |_=>simp only[compO]at h<;>(repeat' (split at h))<;>first|(cases h;done)|(cases h;cases hv;done)|(simp only[Option.map_eq_some_iff]at h;obtain⟨_,_,rfl⟩:=h;cases hv)|contradiction|simp at h
theorem compO_cv{P:Program}{nm:Nat}{op:Op}{z:Ixo}(h:compO P nm op=some z)(hv:z.isCv=true):∃c g' g xs,op = .call c/\c.callee = .value g'/\opd g'=some g/\opds c.args.toList=some xs/\z = .callv g xs:=by
 cases op with
 |call c=>
  simp only[compO]at h
  split at h
  ·(repeat' (split at h))<;>cases h<;>cases hv
  ·(repeat' (split at h))<;>cases h<;>cases hv
  ·rename_i g' hng hcal
   split at h<;>cases h
   rename_i h1 h2
   exact⟨_,_,_,_,rfl,hcal,h1,h2,rfl⟩
  ·(repeat' (split at h))<;>cases h<;>cases hv
  ·(repeat' (split at h))<;>cases h<;>cases hv
  ·(repeat' (split at h))<;>cases h<;>cases hv
  ·cases h
 |_=>simp only[compO]at h<;>(repeat' (split at h))<;>first|(cases h;done)|(cases h;cases hv;done)|(simp only[Option.map_eq_some_iff]at h;obtain⟨_,_,rfl⟩:=h;cases hv)|contradiction|simp at h
theorem compO_okX{X:Sess}{E:Env}{o:Oper}{C:Ctx}{s:St}{a:Act}{next:Act->World->Prop}{Q:Exit->Act->World->Prop}{k:St->Prop}(hX:SessOk X E)(hk:Nx X k next)(h:Rel X C s a)(hd:∀i,o.dst=some i->i<X.N){nm:Nat}{io:Ixo}(hc:compO X.P nm o.op=some io)
  (hs:stOk io o.dst=true) {ne:List Opd} {z:Ixo} (hz:z=io.withNe ne\/z=io.toX) (hE:evO E o.dst z s k):o.wpIn X.F X.n X.P a C.w next Q:=by
 rcases hz with rfl|rfl
 ·exact compO_ok hX hk h hd hc hs hE
 cases hv:io.isCv with
 |true=>
  obtain⟨c,g',g,xs,hop,hcal,h1,h2,rfl⟩:=compO_cv hc hv
  exact callx_ok hX hk h hd hop hcal h1 h2 hE
 |false=>
  cases hz:io.isCz with
  |true=>
   obtain⟨c,f,xs,nm,ct,hop,hcal,h1,h2,rfl⟩:=compO_cz hc hz
   exact callw_ok hX hk h hd hop hcal h1 h2 hE
  |false=>
   have e:io.toX=io.withNe []:=by
    rw[withNe_nil (compO_nes hc)]
    cases io<;>first|rfl|(cases hv;done)|(cases hz;done)
   rw[e]at hE
   exact compO_ok hX hk h hd hc hs hE
section
variable {X:Sess} {E:Env} {Q:Exit->Act->World->Prop} {ops:Array Oper}
theorem step_ok(hX:SessOk X E){C:Ctx}{s:St}{a:Act}(h:Rel X C s a){i:Nat}{o:Oper}{p:IOp}(ho:ops[i]?=some o)(hp:IOpOf X.P X.N ops o p){k:St->Prop}(hE:evG E p s k){rest:List Nat}
  (hk:∀C' s' a',Rel X C' s' a'->k s'->wpOpsIn X.F X.n X.P ops Q rest a' C'.w):wpOpsIn X.F X.n X.P ops Q (i::rest) a C.w:=by
 obtain⟨⟨nm,io,ne,hc,hpo,hst⟩,hd,hdst,hg⟩:=hp
 have hNx:Nx X k (wpOpsIn X.F X.n X.P ops Q rest):=fun C' s' a'=>hk C' s' a'
 simp only[wpOpsIn,ho]
 unfold evG at hE
 rcases hg with⟨h1,h2⟩|⟨j,w,sl,h1,h2,h3⟩
 ·have hw:Region.wanted o (yielded ops a.tmps)=true:=by simp[Region.wanted,h1]
  rw[if_pos hw]
  rw[h2,hd]at hE
  exact compO_okX hX hNx h hdst hc hst hpo hE
 ·rw[h2,hd]at hE
  simp only at hE
  have hskip:∀(s':St),Rel X C s' a->k (s'.put o.dst (.tup []))->Region.wanted o (yielded ops a.tmps)=false ->
    if Region.wanted o (yielded ops a.tmps)=true then o.wpIn X.F X.n X.P a C.w (wpOpsIn X.F X.n X.P ops Q rest) Q else(∀f,o.about X.P C.w a.eval=some f->X.F.fn f)/\wpOpsIn X.F X.n X.P ops Q rest (a.put o.dst undef) C.w:=fun s' hr hks hw=>by
   rw[if_neg (by rw[hw];simp)]
   exact⟨fun f _=>hX.fn f,hk C _ _ (hr.put (v:=.tup []) (x:=undef) (by simp[RV,RVs,undef]) o.dst hdst) hks⟩
  have hyl:yielded ops a.tmps j=match a.tmps[sl]? with|some (.bool b)=>some b|_=>none:=by
   simp only[yielded,h3,Option.bind_some]
   rfl
  split at hE
  ·rename_i b hl
   have e1:=h.tm sl _ hl
   simp only[RV]at e1
   have e2:a.tmps[sl]?=some (.bool b):=by
    rw[Array.getD_eq_getD_getElem?]at e1
    cases hq:a.tmps[sl]? with
    |none=>rw[hq]at e1;simp[undef]at e1
    |some x=>rw[hq]at e1;simpa using e1
   rw[e2]at hyl
   simp only at hyl
   have hrel:Rel X C (s.lit sl b) a:=by
    refine⟨h.size,fun d v hv=>?_,h.sg,h.dis,h.imm,h.imm0,h.T,h.keep,h.marks,h.round,h.pin⟩
    rw[(Eqv.lit hl).1 d]at hv
    exact h.tm d v hv
   have hwn:Region.wanted o (yielded ops a.tmps)=(b==w):=by
    simp only[Region.wanted,h1,hyl]
    cases b<;>cases w<;>rfl
   cases b
   ·have hE':=hE.2 rfl
    cases w
    ·rw[if_pos (by rw[hwn];rfl)]
     exact compO_okX hX hNx hrel hdst hc hst hpo hE'
    ·exact hskip _ hrel hE' (by rw[hwn];rfl)
   ·have hE':=hE.1 rfl
    cases w
    ·exact hskip _ hrel hE' (by rw[hwn];rfl)
    ·rw[if_pos (by rw[hwn];rfl)]
     exact compO_okX hX hNx hrel hdst hc hst hpo hE'
  ·rename_i hl
   have e1:=h.tm sl _ hl
   simp only[RV,RVs]at e1
   obtain⟨vs,e1,rfl⟩:=e1
   have hyn:yielded ops a.tmps j=none:=by
    rw[hyl]
    rw[Array.getD_eq_getD_getElem?]at e1
    cases hq:a.tmps[sl]? with
    |none=>rfl
    |some x=>rw[hq]at e1;simp at e1;rw[e1]
   exact hskip s h hE (by simp[Region.wanted,h1,hyn])
  ·exact hE.elim
theorem wpOps_some(hX:SessOk X E):∀(l:List Nat) (a:Act) (w:World),wpOpsIn X.F X.n X.P ops (fun e a w=>e = .normal/\Q .normal a w) l a w->∃a' w',Q .normal a' w'
 | [],a,w,h=>⟨a,w,h.2⟩
 |i::l,a,w,h=>by
  simp only[wpOpsIn]at h
  split at h
  ·exact wpOps_some hX l a w h
  ·split at h
   ·obtain⟨_,h⟩:=h
    have hroom:∀n,X.F.room n:=fun n d hd=>by
     have:X.F.depth=none:=by rcases hX.wide with e|⟨l,e⟩<;>rw[e]<;>rfl
     rw[this]at hd;cases hd
    unfold Oper.uponIn at h
    split at h
    ·exact wpOps_some hX l _ _ h
    ·exact wpOps_some hX l _ _ h
    ·exact wpOps_some hX l _ _ h
    ·obtain⟨_,_,h⟩:=h
     obtain⟨e,w',fr,hr,_⟩:=h [] (hroom _)
     cases e with
     |returned v=>exact wpOps_some hX l _ _ hr
     |panicked ch=>exact absurd hr.1 (by simp)
     |outgrown=>obtain⟨_,_,h1,_⟩:=hr;cases h1
    ·obtain⟨_,h⟩:=h
     obtain⟨v,w',hr,_⟩:=h default [] (hroom _)
     exact wpOps_some hX l _ _ hr
    ·obtain⟨_,_,h⟩:=h
     obtain⟨e,w',hr,_⟩:=h default [] (hroom _)
     cases e with
     |returned v=>exact wpOps_some hX l _ _ hr
     |panicked ch=>exact absurd hr.1 (by simp)
     |outgrown=>obtain⟨_,_,h1,_⟩:=hr;cases h1
    ·exact absurd h.1 (by simp)
    ·exact h.elim
   ·exact wpOps_some hX l _ _ h.2
theorem step_some(hX:SessOk X E){C:Ctx}{s:St}{a:Act}(h:Rel X C s a){i:Nat}{o:Oper}{p:IOp}(ho:ops[i]?=some o)(hp:IOpOf X.P X.N ops o p){k:St->Prop}(hE:evG E p s k):∃C' s' a',Rel X C' s' a'/\k s':=by
 have h1:=step_ok (Q:=fun e a w=>e = .normal/\∃C' s',C'.w=w/\Rel X C' s' a/\k s') hX h ho hp hE (rest:=[]) (fun C' s' a' hr hk=>by simp only[wpOpsIn];exact⟨trivial,C',s',rfl,hr,hk⟩)
 obtain⟨a',w',C',s',rfl,hr,hk⟩:=wpOps_some (Q:=fun _ a w=>∃C' s',C'.w=w/\Rel X C' s' a/\k s') hX [i] a C.w h1
 exact⟨C',s',a',hr,hk⟩
theorem ops_ok(hX:SessOk X E){k:St->Prop}(hk:∀C s a,Rel X C s a->k s->Q .normal a C.w):∀(l:List Nat) (ps:List IOp),l.length=ps.length->(∀(j:Nat) (i:Nat),l[j]?=some i->∃o p,ops[i]?=some o/\ps[j]?=some p/\IOpOf X.P X.N ops o p) ->
  ∀C s a,Rel X C s a->evs E ps s k->wpOpsIn X.F X.n X.P ops Q l a C.w
 | [],[],_,_,C,s,a,h,hE=>by simp only[wpOpsIn];exact hk C s a h hE
 | [],_::_,hl,_,_,_,_,_,_=>by simp at hl
 |_::_,[],hl,_,_,_,_,_,_=>by simp at hl
 |i::l,p::ps,hl,hp,C,s,a,h,hE=>by
  obtain⟨o,p',ho,hp',hof⟩:=hp 0 i rfl
  simp at hp';subst hp'
  exact step_ok hX h ho hof (evs_cons.1 hE) fun C' s' a' hr hE'=>ops_ok hX hk l ps (by simpa using hl) (fun j i hj=>by simpa using hp (j+1) i (by simpa using hj)) C' s' a' hr hE'
def deps(m:Region.Mode)(o:Oper):List Nat:=(o.after.toList.filter (Region.binds m)).map (·.on)
def ancs(m:Region.Mode):List Oper->List Nat->List Nat
 | [],tbl=>tbl
 |o::os,tbl=>ancs m os (tbl++[(deps m o).foldl (fun b d=>b ||| 2 ^ d ||| tbl.getD d 0) 0])
def canon(m:Region.Mode)(late:Bool)(ops:List Oper)(io:List IOp):Nat->List Nat->List Nat
 |0,_=>[]
 |n+1,done=>
  let av:=(List.range ops.length).filter fun i => !done.contains i&&((ops[i]?).map fun o=>(deps m o).all done.contains).getD false
  match av.find? (fun i=>late&&((io[i]?).map fun p=>decide (p.o.cls<=1)).getD false)with
  |some i=>i::canon m late ops io n (i::done)
  |none=>match av with
   |i::_=>i::canon m late ops io n (i::done)
   | []=>[]
def dests(io:List IOp)(l:List Nat):List Nat:=l.flatMap fun j=>((io[j]?).bind (·.d)).toList
def pairsOk(io:List IOp)(tbl:List Nat):List Nat->Bool
 | []=>true
 |i::r=>r.all (fun j=>(tbl.getD j 0).testBit i||(match io[i]?,io[j]? with|some p,some q=>swapOk p (q.slim (dests io (i::r)))|_,_=>false))&&pairsOk io tbl r
def ordD(m:Region.Mode)(ops:List Oper):List Nat->List Nat->Bool
 |_,[]=>true
 |done,i::r=>((ops[i]?).map fun o=>(deps m o).all done.contains).getD false&&ordD m ops (i::done) r
def ordOk(m:Region.Mode)(ops:List Oper)(io:List IOp)(ord rdy:List Nat):Bool:=
 ord.all (fun i=>decide (i<ops.length))&&decide (ord.length=ops.length)&&decide ord.Nodup&&(List.range ops.length).all ord.contains&&pairsOk io (ancs m ops []) ord &&
 (List.range ops.length).all rdy.contains&&ordD m ops [] rdy
def addrOf(z:Ixo):List Opd:=z.aopds.filter fun a=>match a with
 |.t _=>true
 |.c _=>false
def nesOf(io:List IOp)(tbls:List (List Nat))(ord:List Nat)(j:Nat):List Opd:=
 (ord.takeWhile (· != j)).flatMap fun i=>if tbls.all fun t=>(t.getD j 0).testBit i then [] else match io[i]? with
  |some p=>match io[j]? with
   |some q=>if q.o.hard||decide (3<=p.o.cls) then addrOf p.o else []
   |none=>[]
  |none=>[]
def withNes(io:List IOp)(tbls:List (List Nat))(ord:List Nat):Nat->List IOp->List IOp
 |_,[]=>[]
 |j,p::ps=>{ p with o:=p.o.withNe (nesOf io tbls ord j) }::withNes io tbls ord (j+1) ps
end
section
variable {X:Sess} {E:Env} {Q:Exit->Act->World->Prop} {ops:Array Oper}
theorem ancs_ok(m:Region.Mode)(all:List Oper)(L:Nat->Prop)(hL:∀j,L j->∀o,all[j]?=some o->∀d∈deps m o,L d):∀(os:List Oper) (pre:List Oper) (tbl:List Nat),all=pre++os->tbl.length=pre.length ->
  (∀j x,(tbl.getD j 0).testBit x=true->(∀o,all[j]?=some o->∀d∈deps m o,L d)->L x) ->
  ∀j x,((ancs m os tbl).getD j 0).testBit x=true->(∀o,all[j]?=some o->∀d∈deps m o,L d)->L x
 | [],pre,tbl,_,_,h=>h
 |o::os,pre,tbl,ha,hl,h=>by
  simp only[ancs]
  refine ancs_ok m all L hL os (pre++[o]) _ (by simp[ha]) (by simp[hl]) ?_
  intro j x hx hj
  by_cases hjl:j<tbl.length
  ·refine h j x ?_ hj
   rwa [List.getD_eq_getElem?_getD,List.getElem?_append_left hjl,<- List.getD_eq_getElem?_getD]at hx
  ·by_cases hje:j=tbl.length
   ·subst hje
    have ho:all[tbl.length]?=some o:=by rw[ha,hl];simp
    have hd:=hj o ho
    rw[List.getD_eq_getElem?_getD,List.getElem?_append_right (Nat.le_refl _)]at hx
    simp only[Nat.sub_self,List.getElem?_cons_zero,Option.getD_some]at hx
    have key:∀(ds:List Nat) (m:Nat),(∀d∈ds,L d)->(m.testBit x=true->L x)->(ds.foldl (fun b d=>b ||| 2 ^ d ||| tbl.getD d 0) m).testBit x=true->L x:=by
     intro ds
     induction ds with
     |nil=>intro m _ h2 h3;exact h2 h3
     |cons d ds ih=>
      intro m h1 h2 h3
      refine ih (m ||| 2 ^ d ||| tbl.getD d 0) (fun e he=>h1 e (by simp[he])) (fun h4=>?_) h3
      simp only[Nat.testBit_or,Bool.or_eq_true]at h4
      rcases h4 with(h4|h4)|h4
      ·exact h2 h4
      ·have:d=x:=by simpa[Nat.testBit_two_pow]using h4
       exact this ▸ h1 d (by simp)
      ·exact h d x h4 (fun o' ho'=>hL d (h1 d (by simp)) o' ho')
    exact key (deps m o) 0 hd (by simp) hx
   ·rw[List.getD_eq_getElem?_getD,List.getElem?_eq_none (by simp;omega)]at hx
    simp at hx
theorem IOpOf.toX{P:Program}{N:Nat}{o:Oper}{p:IOp}(h:IOpOf P N ops o p):IOpOf P N ops o { p with o:=p.o.toX }:=by
 obtain⟨⟨nm,io',ne,k1,k2,k3⟩,k4,k5,k6⟩:=h
 rcases k2 with k2|k2
 ·exact⟨⟨nm,io',ne,k1,by show p.o.toX=_\/p.o.toX=_;rw[k2];cases io'<;>first|(left;rfl)|(right;rfl),k3⟩,k4,k5,k6⟩
 ·exact⟨⟨nm,io',ne,k1, .inr (by show p.o.toX=_;rw[k2];cases io'<;>rfl),k3⟩,k4,k5,k6⟩
theorem IOpOf.slim{P:Program}{N:Nat}{o:Oper}{p:IOp}(h:IOpOf P N ops o p)(ds:List Nat):IOpOf P N ops o (p.slim ds):=by
 obtain⟨⟨nm,io',ne,k1,k2,k3⟩,k4,k5,k6⟩:=h
 rcases k2 with k2|k2
 ·exact⟨⟨nm,io',((io'.withNe ne).nes.filter fun q=>q.slots.all fun i => !ds.contains i),k1, .inl (by show(p.o.slim ds)=_;rw[k2];unfold Ixo.slim;cases io'<;>rfl),k3⟩,k4,k5,k6⟩
 ·exact⟨⟨nm,io',(io'.nes.filter fun q=>q.slots.all fun i => !ds.contains i),k1,by show(p.o.slim ds)=_\/(p.o.slim ds)=_;rw[k2];unfold Ixo.slim;cases io'<;>first|(left;rfl)|(right;rfl),k3⟩,k4,k5,k6⟩
def destF(io:Nat->IOp)(l:List Nat):List Nat:=l.flatMap fun j=>(io j).d.toList
theorem front{E:Env}(hX:SessOk X E){io:Nat->IOp}{k:St->Prop}(hk:Resp k)(hio:∀i,i<ops.size->∃o,ops[i]?=some o/\IOpOf X.P X.N ops o (io i))(i:Nat) :
  ∀(r1 r2:List Nat),(∀j∈r1,j<ops.size)->(∀p j q,r1=p++j::q->swapOk (io j) ((io i).slim (destF io (j::q)))=true)->∀C s a,Rel X C s a->evs E ((r1++i::r2).map io) s k->evG E ((io i).slim (destF io r1)) s fun s'=>evs E ((r1++r2).map io) s' k
 | [],r2,_,_,C,s,a,_,hE=>evG_slim (evs_resp hk _) (evs_cons.1 hE)
 |j::r1,r2,hlt,hsw,C,s,a,h,hE=>by
  have hE1:=evs_cons.1 hE
  have hresp:∀l:List Nat,Resp fun s=>evs E (l.map io) s k:=fun l=>evs_resp hk _
  -- x's own outcome is one; behind it the induction goes
  have hc:(io j).o.cls≠2/\(io j).o.cls≠5:=by
   have:=hsw [] j r1 rfl
   simp only[swapOk,Bool.and_eq_true]at this
   obtain⟨⟨⟨⟨⟨⟨_,h3⟩,_⟩,_⟩,_⟩,_⟩,_⟩:=this
   constructor<;>(intro e;rw[e]at h3;simp at h3)
  obtain⟨e,g1,g2,_⟩:=evGX_det ((evG_iff (hresp (r1++i::r2))).1 hE1) hc
  obtain⟨o,ho,hof⟩:=hio j (hlt j (by simp))
  have hone:evG E (io j) s fun q=>Eqv (app (io j).d s e) q:=(evG_iff (fun a b hab hq=>hq.trans hab)).2 (g2 _ (Eqv.refl _))
  obtain⟨C1,s1,a1,hr1,hq⟩:=step_some hX h ho hof hone
  have hr1':Rel X C1 (app (io j).d s e) a1:=by
   obtain⟨q1,q2,q3⟩:=hq
   exact⟨hr1.size,fun d v hv=>hr1.tm d v ((q1 d).symm.trans hv),by rw[q2];exact hr1.sg,by rw[q2];exact hr1.dis,hr1.imm,hr1.imm0,hr1.T,by rw[q3];exact hr1.keep,hr1.marks,hr1.round,by rw[q3];exact hr1.pin⟩
  have ih:=front hX hk hio i r1 r2 (fun q hq=>hlt q (by simp[hq])) (fun p j' q hq=>hsw (j::p) j' q (by rw[hq];rfl)) C1 _ a1 hr1' g1
  have ih':evG E ((io i).slim (destF io (j::r1))) (app (io j).d s e) fun s'=>evs E ((r1++r2).map io) s' k:=by
   have:=evG_slim (ds:=(io j).d.toList) (hresp (r1++r2)) ih
   have e1:((io i).slim (destF io r1)).slim (io j).d.toList=(io i).slim (destF io (j::r1)):=by
    simp only[IOp.slim,slim_slim,destF,List.flatMap_cons]
   rw[e1]at this;exact this
  have h2:evG E (io j) s fun s1=>evG E ((io i).slim (destF io (j::r1))) s1 fun s'=>evs E ((r1++r2).map io) s' k:=
   (evG_iff (fun a b hab hq=>evG_eqv (hresp (r1++r2)) hab hq)).2 (g2 _ ih')
  have h3:=swap h (hresp (r1++r2)) (hsw [] j r1 rfl) h2
  refine(evG_iff (hresp (j::r1++r2))).2 (evGX_mono ((evG_iff ?_).1 h3) fun e he=>evs_cons.2 he)
  exact fun a b hab hq=>evG_eqv (hresp (r1++r2)) hab hq
theorem pairs_get{io:List IOp}{tbl:List Nat}:∀ {l:List Nat},pairsOk io tbl l=true->∀ {r1 r2:List Nat} {i:Nat},l=r1++i::r2->∀s j t,r1=s++j::t->(tbl.getD i 0).testBit j=true\/∃p q,io[j]?=some p/\io[i]?=some q/\swapOk p (q.slim (dests io (j::t++i::r2)))=true
 | [],_,r1,r2,i,hl,_,j,_,_=>by simp at hl
 |x::l,h,[],r2,i,hl,s,j,t,hj=>by simp at hj
 |x::l,h,y::r1,r2,i,hl,s,j,t,hj=>by
  simp only[List.cons_append,List.cons.injEq]at hl
  obtain⟨rfl,hl⟩:=hl
  simp only[pairsOk,Bool.and_eq_true,List.all_eq_true]at h
  cases s with
  |nil=>
   simp only[List.nil_append,List.cons.injEq]at hj
   obtain⟨rfl,rfl⟩:=hj
   have:=h.1 i (by rw[hl];simp)
   simp only[Bool.or_eq_true]at this
   rcases this with h1|h1
   ·exact .inl h1
   ·right
    split at h1
    ·rename_i p q h2 h3;exact⟨p,q,h2,h3,by rw[hl]at h1;exact h1⟩
    ·cases h1
  |cons z s=>
   simp only[List.cons_append,List.cons.injEq]at hj
   exact pairs_get h.2 hl s j t hj.2
theorem pairs_erase{io:List IOp}{tbl:List Nat}{l l':List Nat}(hs:l'.Sublist l):pairsOk io tbl l=true->pairsOk io tbl l'=true:=by
 induction hs with
 |slnil=>exact id
 |cons a hs ih=>intro h;simp only[pairsOk,Bool.and_eq_true]at h;exact ih h.2
 |@cons_cons l1 l2 a hs ih=>
  intro h
  simp only[pairsOk,Bool.and_eq_true,List.all_eq_true]at h⊢
  refine⟨fun j hj=>?_,ih h.2⟩
  have:=h.1 j (hs.subset hj)
  simp only[Bool.or_eq_true]at this⊢
  refine this.imp id fun h1=>?_
  split at h1
  ·rename_i p q h2 h3
   try simp only[h2,h3]
   refine swap_less (fun d hd=>?_) (fun d hd=>?_) h1
   ·simp[dests,h2,hd]
   ·simp only[dests,List.mem_flatMap]at hd⊢
    obtain⟨m,hm,hm2⟩:=hd
    exact⟨m,(hs.cons_cons a).subset hm,hm2⟩
  ·cases h1
def L(listed:Array Bool)(j:Nat):Prop:=listed.getD j false=true
structure Inv(m:Region.Mode)(ops:Array Oper)(io:List IOp)(rdy:List Nat)(listed:Array Bool)(rem:List Nat):Prop where
 size:listed.size=ops.size
 mem:∀i,i∈rem<->i<ops.size/\¬L listed i
 closed:∀j,L listed j->∀o,ops.toList[j]?=some o->∀d∈deps m o,L listed d
 pairs:pairsOk io (ancs m ops.toList []) rem=true
 nodup:rem.Nodup
 all:∀i,i<ops.size->i∈rdy
 small:∀o∈ops.toList,∀d∈deps m o,d<ops.size
 ready:∀r1 i r2,rdy=r1++i::r2->∀o,ops.toList[i]?=some o->∀d∈deps m o,d∈r1
theorem first_not{p:Nat->Prop}:∀(l:List Nat),(∃i∈l,¬p i)->∃r1 i r2,l=r1++i::r2/\¬p i/\∀x∈r1,p x
 | [],h=>by obtain⟨i,hi,_⟩:=h;cases hi
 |x::l,h=>by
  by_cases hx:p x
  ·obtain⟨r1,i,r2,h1,h2,h3⟩:=first_not l (by
    obtain⟨i,hi,hn⟩:=h
    rcases List.mem_cons.1 hi with rfl|hi
    ·exact absurd hx hn
    ·exact⟨i,hi,hn⟩)
   exact⟨x::r1,i,r2,by rw[h1];rfl,h2,fun y hy=>by rcases List.mem_cons.1 hy with rfl|hy;exact hx;exact h3 y hy⟩
  ·exact⟨[],x,l,rfl,hx,fun y hy=>by cases hy⟩
theorem go_step(m:Region.Mode)(ops:Array Oper)(fuel t:Nat)(listed:Array Bool)(acc:List Nat) :
  Region.linearise.go m ops (fuel+1) t listed acc=(match ((List.range ops.size).filter fun i => !listed.getD i true&&((ops[i]?).map (·.after.all fun e => !Region.binds m e||listed.getD e.on false)).getD false)[t%((List.range ops.size).filter fun i => !listed.getD i true&&((ops[i]?).map (·.after.all fun e => !Region.binds m e||listed.getD e.on false)).getD false).length]? with
   |some i=>Region.linearise.go m ops fuel (t / ((List.range ops.size).filter fun i => !listed.getD i true&&((ops[i]?).map (·.after.all fun e => !Region.binds m e||listed.getD e.on false)).getD false).length) (listed.setIfInBounds i true) (i::acc)
   |none=>acc.reverse):=rfl
theorem sched_ok(hX:SessOk X E){m:Region.Mode}{rdy:List Nat}{io:List IOp}{d0:IOp}{k:St->Prop}(hr:Resp k)(hio:∀i,i<ops.size->∃o,ops[i]?=some o/\IOpOf X.P X.N ops o (io.getD i d0))(hlen:io.length=ops.size)
  (hk:∀C s a,Rel X C s a->k s->Q .normal a C.w):∀(fuel t:Nat) (listed:Array Bool) (acc rem:List Nat),Inv m ops io rdy listed rem->rem.length=fuel->∃l,Region.linearise.go m ops fuel t listed acc=acc.reverse++l /\
   ∀C s a,Rel X C s a->evs E (rem.map fun i=>io.getD i d0) s k->wpOpsIn X.F X.n X.P ops Q l a C.w
 |0,t,listed,acc,rem,hI,hf=>by
  have:rem=[]:=List.eq_nil_of_length_eq_zero hf
  subst this
  exact⟨[],by simp[Region.linearise.go],fun C s a h hE=>by simp only[wpOpsIn];exact hk C s a h hE⟩
 |fuel+1,t,listed,acc,rem,hI,hf=>by
  rw[go_step]
  generalize hrs:((List.range ops.size).filter fun i => !listed.getD i true&&((ops[i]?).map (·.after.all fun e => !Region.binds m e||listed.getD e.on false)).getD false)=rs
  have hmem:∀i,i∈rs<->i∈rem/\∀o,ops.toList[i]?=some o->∀d∈deps m o,L listed d:=fun i=>by
   rw[<- hrs,List.mem_filter,List.mem_range,hI.mem]
   by_cases hlt:i<ops.size
   ·have ho:ops[i]?=some ops[i]:=by simp[hlt]
    have ho':ops.toList[i]?=some ops[i]:=by simp[hlt]
    have hl:(listed.getD i true=listed.getD i false):=by simp[Array.getD,hI.size,hlt]
    simp only[hlt,true_and,ho,Option.map_some,Option.getD_some,Bool.and_eq_true,Bool.not_eq_true',hl,ho',Option.some.injEq,forall_eq']
    constructor
    ·rintro⟨h1,h2⟩
     refine⟨by simp[L,h1],fun d hd=>?_⟩
     simp only[deps,List.mem_map,List.mem_filter]at hd
     obtain⟨e,⟨he,hb⟩,rfl⟩:=hd
     have h3:=(Array.all_eq_true'.1 h2) e (by simpa using he)
     rw[hb]at h3
     simpa[L]using h3
    ·rintro⟨h1,h2⟩
     refine⟨by simpa[L]using h1,?_⟩
     refine Array.all_eq_true'.2 fun e he=>?_
     by_cases hb:Region.binds m e=true
     ·have:=h2 e.on (by simp only[deps,List.mem_map,List.mem_filter];exact⟨e,⟨by simpa using he,hb⟩,rfl⟩)
      simpa[L,hb]using this
     ·simp[hb]
   ·simp[hlt]
  have hne:rs≠[]:=fun e=>by
   cases hrem:rem with
   |nil=>rw[hrem]at hf;cases hf
   |cons i r=>
    have him:=(hI.mem i).1 (by rw[hrem];simp)
    obtain⟨r1,i',r2,h1,h2,h3⟩:=first_not (p:=fun i=>i<ops.size->L listed i) rdy ⟨i,hI.all i him.1,fun h=>him.2 (h him.1)⟩
    have hlt:i'<ops.size:=Classical.byContradiction fun hn=>h2 fun h=>absurd h hn
    have hnl:¬L listed i':=fun h=>h2 fun _=>h
    have:i'∈rs:=(hmem i').2 ⟨(hI.mem i').2 ⟨hlt,hnl⟩,fun o ho d hd=>by
     have hdl:=h3 d (hI.ready r1 i' r2 h1 o ho d hd)
     by_cases hds:d<ops.size
     ·exact hdl hds
     ·exact absurd (hI.small o (List.mem_of_getElem? ho) d hd) hds⟩
    rw[e]at this;cases this
  have hpos:0<rs.length:=List.length_pos_iff.2 hne
  have hidx:t%rs.length<rs.length:=Nat.mod_lt _ hpos
  obtain⟨i,hi⟩:∃i,rs[t%rs.length]?=some i:=⟨_,List.getElem?_eq_getElem hidx⟩
  rw[hi]
  simp only
  have hirs:i∈rs:=List.mem_of_getElem? hi
  obtain⟨hirem,hideps⟩:=(hmem i).1 hirs
  obtain⟨hilt,hinL⟩:=(hI.mem i).1 hirem
  obtain⟨r1,r2,hsplit⟩:=List.append_of_mem hirem
  have hnd:=hI.nodup
  rw[hsplit]at hnd
  have hni:i∉r1/\i∉r2:=by
   rw[List.nodup_append]at hnd
   obtain⟨_,h2,h3⟩:=hnd
   exact⟨fun h=>h3 i h i (by simp) rfl,(List.nodup_cons.1 h2).1⟩
  have hL':∀j,L (listed.setIfInBounds i true) j<->L listed j\/j=i:=fun j=>by
   simp only[L,Array.getD_eq_getD_getElem?,Array.getElem?_setIfInBounds,hI.size]
   by_cases e:i=j
   ·subst e;simp[hilt]
   ·simp[e,Ne.symm e]
  have hI':Inv m ops io rdy (listed.setIfInBounds i true) (r1++r2):=by
   refine⟨by simp[hI.size],fun j=>?_,fun j hj o ho d hd=>?_,pairs_erase (l:=rem) (by rw[hsplit];exact List.Sublist.append (List.Sublist.refl _) (List.sublist_cons_self _ _)) hI.pairs,?_,hI.all,hI.small,hI.ready⟩
   ·have:=hI.mem j
    rw[hsplit]at this
    simp only[List.mem_append,List.mem_cons]at this⊢
    rw[hL']
    constructor
    ·intro h
     have h2:=this.1 (by rcases h with h|h<;>simp[h])
     refine⟨h2.1,fun h3=>?_⟩
     rcases h3 with h3|rfl
     ·exact h2.2 h3
     ·rcases h with h|h
      ·exact hni.1 h
      ·exact hni.2 h
    ·rintro⟨h1,h2⟩
     have h3:=this.2 ⟨h1,fun h=>h2 (.inl h)⟩
     rcases h3 with h3|h3|h3
     ·exact .inl h3
     ·exact absurd (.inr h3) h2
     ·exact .inr h3
   ·rw[hL']at hj⊢
    rcases hj with hj|rfl
    ·exact .inl (hI.closed j hj o ho d hd)
    ·exact .inl (hideps o ho d hd)
   ·rw[List.nodup_append]at hnd⊢
    exact⟨hnd.1,(List.nodup_cons.1 hnd.2.1).2,fun a ha b hb=>hnd.2.2 a ha b (by simp[hb])⟩
  obtain⟨l,h1,h2⟩:=sched_ok hX hr hio hlen hk fuel (t / rs.length) _ (i::acc) (r1++r2) hI' (by rw[hsplit]at hf;simp at hf⊢;omega)
  refine⟨i::l,by rw[h1];simp,fun C s a h hE=>?_⟩
  obtain⟨o,ho,hof⟩:=hio i hilt
  have hgd:∀j,j<ops.size->io[j]?=some (io.getD j d0):=fun j hj=>by
   rw[List.getD_eq_getElem?_getD,List.getElem?_eq_getElem (by rw[hlen];exact hj)];rfl
  have hlt1:∀j∈r1,j<ops.size:=fun j hj=>((hI.mem j).1 (by rw[hsplit];simp[hj])).1
  have hsw:∀p j q,r1=p++j::q->swapOk (io.getD j d0) ((io.getD i d0).slim (destF (fun i=>io.getD i d0) (j::q)))=true:=fun p j q hj=>by
   have hjr:j∈r1:=by rw[hj];simp
   rcases pairs_get hI.pairs hsplit p j q hj with h3|⟨x,y,h3,h4,h5⟩
   ·have:=ancs_ok m ops.toList (L listed) hI.closed ops.toList [] [] rfl rfl (fun j x hx=>by simp at hx) i j h3 hideps
    exact absurd this ((hI.mem j).1 (by rw[hsplit];simp[hjr])).2
   ·have e1:x=io.getD j d0:=by have:=hgd j (hlt1 j hjr);rw[h3]at this;exact Option.some.inj this
    have e2:y=io.getD i d0:=by have:=hgd i hilt;rw[h4]at this;exact Option.some.inj this
    subst e1;subst e2
    refine swap_less (fun d hd=>?_) (fun d hd=>?_) h5
    ·exact List.mem_flatMap.2 ⟨j,by simp,by show d∈(io.getD j d0).d.toList;rw[hd];simp⟩
    ·simp only[destF,List.mem_flatMap]at hd
     obtain⟨k',hk',hd'⟩:=hd
     simp only[dests,List.mem_flatMap]
     refine⟨k',by simp at hk'⊢;rcases hk' with rfl|hk'<;>simp_all,?_⟩
     have hkr:k'∈r1:=by rw[hj];simp at hk'⊢;rcases hk' with rfl|hk'<;>simp_all
     rw[hgd k' (hlt1 k' hkr)];exact hd'
  rw[hsplit]at hE
  have hfr:=front (ops:=ops) hX hr hio i r1 r2 hlt1 hsw C s a h hE
  exact step_ok hX h ho (hof.slim _) hfr fun C' s' a' hrel hE'=>h2 C' s' a' hrel hE'
structure MoreE(m:Region.Mode)(ops ops2:Array Oper)(i0 j0:Nat):Prop where
 size:ops2.size=ops.size
 get:∀i o,ops.toList[i]?=some o->∃o2,ops2.toList[i]?=some o2/\(∀d∈deps m o,d∈deps m o2)/\∀d∈deps m o2,d∈deps m o\/(i=j0/\d=i0)
theorem MoreE.get2{m:Region.Mode}{ops ops2:Array Oper}{i0 j0:Nat}(h:MoreE m ops ops2 i0 j0){i:Nat}{o2:Oper}(ho:ops2.toList[i]?=some o2):∃o,ops.toList[i]?=some o/\(∀d∈deps m o,d∈deps m o2)/\∀d∈deps m o2,d∈deps m o\/(i=j0/\d=i0):=by
 have hlt:i<ops2.toList.length:=(List.getElem?_eq_some_iff.1 ho).1
 have hlt':i<ops.toList.length:=by have:=h.size;simp at hlt⊢;omega
 obtain⟨o2',k1,k2,k3⟩:=h.get i ops.toList[i] (List.getElem?_eq_getElem hlt')
 rw[ho]at k1;cases k1
 exact⟨_,List.getElem?_eq_getElem hlt',k2,k3⟩
def Good(i0 j0:Nat)(l:List Nat)(listed:Array Bool):Prop:=∀r1 r2,l=r1++j0::r2->L listed i0\/i0∈r1
theorem go_app(m:Region.Mode)(ops:Array Oper):∀(fuel t:Nat) (listed:Array Bool) (acc:List Nat),∃l,Region.linearise.go m ops fuel t listed acc=acc.reverse++l
 |0,t,listed,acc=>⟨[],by simp[Region.linearise.go]⟩
 |fuel+1,t,listed,acc=>by
  rw[go_step]
  split
  ·rename_i i _
   obtain⟨l,hl⟩:=go_app m ops fuel (t / ((List.range ops.size).filter fun i => !listed.getD i true&&((ops[i]?).map (·.after.all fun e => !Region.binds m e||listed.getD e.on false)).getD false).length) (listed.setIfInBounds i true) (i::acc)
   exact⟨i::l,by rw[hl];simp⟩
  ·exact⟨[],by simp⟩
theorem sched2(hX:SessOk X E){ops2:Array Oper}{i0 j0:Nat}{m:Region.Mode}(hmo:MoreE m ops ops2 i0 j0){rdy:List Nat}{io:List IOp}{d0:IOp}{k:St->Prop}(hr:Resp k)(hio:∀i,i<ops.size->∃o,ops[i]?=some o/\IOpOf X.P X.N ops o (io.getD i d0))(hlen:io.length=ops.size)
  (hk:∀C s a,Rel X C s a->k s->Q .normal a C.w):∀(fuel t:Nat) (listed:Array Bool) (acc rem:List Nat),Inv m ops2 io rdy listed rem->rem.length=fuel->∃l,Region.linearise.go m ops fuel t listed acc=acc.reverse++l/\(Good i0 j0 l listed ->
   ∀C s a,Rel X C s a->evs E (rem.map fun i=>io.getD i d0) s k->wpOpsIn X.F X.n X.P ops Q l a C.w)
 |0,t,listed,acc,rem,hI,hf=>by
  have:rem=[]:=List.eq_nil_of_length_eq_zero hf
  subst this
  exact⟨[],by simp[Region.linearise.go],fun _ C s a h hE=>by simp only[wpOpsIn];exact hk C s a h hE⟩
 |fuel+1,t,listed,acc,rem,hI,hf=>by
  rw[go_step]
  generalize hrs:((List.range ops.size).filter fun i => !listed.getD i true&&((ops[i]?).map (·.after.all fun e => !Region.binds m e||listed.getD e.on false)).getD false)=rs
  have hsz:=hmo.size
  have hmem:∀i,i∈rs<->i∈rem/\∀o,ops.toList[i]?=some o->∀d∈deps m o,L listed d:=fun i=>by
   rw[<- hrs,List.mem_filter,List.mem_range,hI.mem,hsz]
   by_cases hlt:i<ops.size
   ·have ho:ops[i]?=some ops[i]:=by simp[hlt]
    have ho':ops.toList[i]?=some ops[i]:=by simp[hlt]
    have hl:(listed.getD i true=listed.getD i false):=by simp[Array.getD,hI.size,hsz,hlt]
    simp only[hlt,true_and,ho,Option.map_some,Option.getD_some,Bool.and_eq_true,Bool.not_eq_true',hl,ho',Option.some.injEq,forall_eq']
    constructor
    ·rintro⟨h1,h2⟩
     refine⟨by simp[L,h1],fun d hd=>?_⟩
     simp only[deps,List.mem_map,List.mem_filter]at hd
     obtain⟨e,⟨he,hb⟩,rfl⟩:=hd
     have h3:=(Array.all_eq_true'.1 h2) e (by simpa using he)
     rw[hb]at h3
     simpa[L]using h3
    ·rintro⟨h1,h2⟩
     refine⟨by simpa[L]using h1,?_⟩
     refine Array.all_eq_true'.2 fun e he=>?_
     by_cases hb:Region.binds m e=true
     ·have:=h2 e.on (by simp only[deps,List.mem_map,List.mem_filter];exact⟨e,⟨by simpa using he,hb⟩,rfl⟩)
      simpa[L,hb]using this
     ·simp[hb]
   ·simp[hlt]
  have hne:rs≠[]:=fun e=>by
   cases hrem:rem with
   |nil=>rw[hrem]at hf;cases hf
   |cons i r=>
    have him:=(hI.mem i).1 (by rw[hrem];simp)
    obtain⟨r1,i',r2,h1,h2,h3⟩:=first_not (p:=fun i=>i<ops.size->L listed i) rdy ⟨i,hI.all i him.1,fun h=>him.2 (h (hsz ▸ him.1))⟩
    have hlt:i'<ops.size:=Classical.byContradiction fun hn=>h2 fun h=>absurd h hn
    have hnl:¬L listed i':=fun h=>h2 fun _=>h
    have:i'∈rs:=(hmem i').2 ⟨(hI.mem i').2 ⟨by rw[hsz];exact hlt,hnl⟩,fun o ho d hd=>by
     obtain⟨o2,ho2,hs2,_⟩:=hmo.get i' o ho
     have hdl:=h3 d (hI.ready r1 i' r2 h1 o2 ho2 d (hs2 d hd))
     by_cases hds:d<ops.size
     ·exact hdl hds
     ·exact absurd (hI.small o2 (List.mem_of_getElem? ho2) d (hs2 d hd)) (by rw[hsz];exact hds)⟩
    rw[e]at this;cases this
  have hpos:0<rs.length:=List.length_pos_iff.2 hne
  have hidx:t%rs.length<rs.length:=Nat.mod_lt _ hpos
  obtain⟨i,hi⟩:∃i,rs[t%rs.length]?=some i:=⟨_,List.getElem?_eq_getElem hidx⟩
  rw[hi]
  simp only
  have hirs:i∈rs:=List.mem_of_getElem? hi
  obtain⟨hirem,hideps0⟩:=(hmem i).1 hirs
  by_cases hgood:i=j0->L listed i0
  case neg=>
   obtain⟨l,hl⟩:=go_app m ops fuel (t / rs.length) (listed.setIfInBounds i true) (i::acc)
   refine⟨i::l,by rw[hl];simp,fun hg=>absurd (fun e=>?_) hgood⟩
   rcases hg [] l (by rw[e];rfl)with q|q
   ·exact q
   ·cases q
  have hideps:∀o,ops2.toList[i]?=some o->∀d∈deps m o,L listed d:=fun o2 ho2 d hd=>by
   obtain⟨o,ho,_,hs2⟩:=hmo.get2 ho2
   rcases hs2 d hd with q|⟨q1,q2⟩
   ·exact hideps0 o ho d q
   ·rw[q2];exact hgood q1
  obtain⟨hilt2,hinL⟩:=(hI.mem i).1 hirem
  have hilt:i<ops.size:=hsz ▸ hilt2
  obtain⟨r1,r2,hsplit⟩:=List.append_of_mem hirem
  have hnd:=hI.nodup
  rw[hsplit]at hnd
  have hni:i∉r1/\i∉r2:=by
   rw[List.nodup_append]at hnd
   obtain⟨_,h2,h3⟩:=hnd
   exact⟨fun h=>h3 i h i (by simp) rfl,(List.nodup_cons.1 h2).1⟩
  have hL':∀j,L (listed.setIfInBounds i true) j<->L listed j\/j=i:=fun j=>by
   simp only[L,Array.getD_eq_getD_getElem?,Array.getElem?_setIfInBounds,hI.size]
   by_cases e:i=j
   ·subst e;simp[hilt2]
   ·simp[e,Ne.symm e]
  have hI':Inv m ops2 io rdy (listed.setIfInBounds i true) (r1++r2):=by
   refine⟨by simp[hI.size],fun j=>?_,fun j hj o ho d hd=>?_,pairs_erase (l:=rem) (by rw[hsplit];exact List.Sublist.append (List.Sublist.refl _) (List.sublist_cons_self _ _)) hI.pairs,?_,hI.all,hI.small,hI.ready⟩
   ·have:=hI.mem j
    rw[hsplit]at this
    simp only[List.mem_append,List.mem_cons]at this⊢
    rw[hL']
    constructor
    ·intro h
     have h2:=this.1 (by rcases h with h|h<;>simp[h])
     refine⟨h2.1,fun h3=>?_⟩
     rcases h3 with h3|rfl
     ·exact h2.2 h3
     ·rcases h with h|h
      ·exact hni.1 h
      ·exact hni.2 h
    ·rintro⟨h1,h2⟩
     have h3:=this.2 ⟨h1,fun h=>h2 (.inl h)⟩
     rcases h3 with h3|h3|h3
     ·exact .inl h3
     ·exact absurd (.inr h3) h2
     ·exact .inr h3
   ·rw[hL']at hj⊢
    rcases hj with hj|rfl
    ·exact .inl (hI.closed j hj o ho d hd)
    ·exact .inl (hideps o ho d hd)
   ·rw[List.nodup_append]at hnd⊢
    exact⟨hnd.1,(List.nodup_cons.1 hnd.2.1).2,fun a ha b hb=>hnd.2.2 a ha b (by simp[hb])⟩
  obtain⟨l,h1,h2⟩:=sched2 hX hmo hr hio hlen hk fuel (t / rs.length) _ (i::acc) (r1++r2) hI' (by rw[hsplit]at hf;simp at hf⊢;omega)
  refine⟨i::l,by rw[h1];simp,fun hg C s a h hE=>?_⟩
  have hg2:Good i0 j0 l (listed.setIfInBounds i true):=fun q1 q2 hq=>by
   rcases hg (i::q1) q2 (by rw[hq];rfl)with q|q
   ·exact .inl ((hL' i0).2 (.inl q))
   ·rcases List.mem_cons.1 q with q|q
    ·exact .inl ((hL' i0).2 (.inr q))
    ·exact .inr q
  obtain⟨o,ho,hof⟩:=hio i hilt
  have hgd:∀j,j<ops.size->io[j]?=some (io.getD j d0):=fun j hj=>by
   rw[List.getD_eq_getElem?_getD,List.getElem?_eq_getElem (by rw[hlen];exact hj)];rfl
  have hlt1:∀j∈r1,j<ops.size:=fun j hj=>hsz ▸ ((hI.mem j).1 (by rw[hsplit];simp[hj])).1
  have hsw:∀p j q,r1=p++j::q->swapOk (io.getD j d0) ((io.getD i d0).slim (destF (fun i=>io.getD i d0) (j::q)))=true:=fun p j q hj=>by
   have hjr:j∈r1:=by rw[hj];simp
   rcases pairs_get hI.pairs hsplit p j q hj with h3|⟨x,y,h3,h4,h5⟩
   ·have:=ancs_ok m ops2.toList (L listed) hI.closed ops2.toList [] [] rfl rfl (fun j x hx=>by simp at hx) i j h3 hideps
    exact absurd this ((hI.mem j).1 (by rw[hsplit];simp[hjr])).2
   ·have e1:x=io.getD j d0:=by have:=hgd j (hlt1 j hjr);rw[h3]at this;exact Option.some.inj this
    have e2:y=io.getD i d0:=by have:=hgd i hilt;rw[h4]at this;exact Option.some.inj this
    subst e1;subst e2
    refine swap_less (fun d hd=>?_) (fun d hd=>?_) h5
    ·exact List.mem_flatMap.2 ⟨j,by simp,by show d∈(io.getD j d0).d.toList;rw[hd];simp⟩
    ·simp only[destF,List.mem_flatMap]at hd
     obtain⟨k',hk',hd'⟩:=hd
     simp only[dests,List.mem_flatMap]
     refine⟨k',by simp at hk'⊢;rcases hk' with rfl|hk'<;>simp_all,?_⟩
     have hkr:k'∈r1:=by rw[hj];simp at hk'⊢;rcases hk' with rfl|hk'<;>simp_all
     rw[hgd k' (hlt1 k' hkr)];exact hd'
  rw[hsplit]at hE
  have hfr:=front (ops:=ops) hX hr hio i r1 r2 hlt1 hsw C s a h hE
  exact step_ok hX h ho (hof.slim _) hfr fun C' s' a' hrel hE'=>h2 hg2 C' s' a' hrel hE'
def ordsOk(P:Program)(ops:Array Oper)(io:List IOp)(ord:List Nat):Bool:=
 ops.toList.all (fun o=>o.after.toList.all fun e=>decide (e.on<ops.size)) &&
 (if Region.departs ops && !(P.follows .mixedOrders) then
  ordOk .text ops.toList io ord ord&&ordOk .gc ops.toList io ord (canon .gc false ops.toList io ops.size [])
 else ordOk .any ops.toList io ord ord)
def isLd(ps:List IOp)(g:Nat):Bool:=ps.any fun q=>match q.d,q.o with
 |some d, .load _ _ _=>d==g
 |_,_=>false
def lastX(io:List IOp)(ord:List Nat):List IOp:=
 match ord.getLast? with
 |some i=>match io[i]? with
  |some p=>match p.o with
   |.callv (.t g) _=>if isLd io g then io.set i { p with o:=p.o.toX } else io
   |_=>io
  |none=>io
 |none=>io
theorem lastX_get{P:Program}{N:Nat}{ops:Array Oper}(io:List IOp)(ord:List Nat):(lastX io ord).length=io.length/\∀(i:Nat) (p:IOp),io[i]?=some p->∃p',(lastX io ord)[i]?=some p'/\∀o,IOpOf P N ops o p->IOpOf P N ops o p':=by
 have same:io.length=io.length/\∀(i:Nat) (p:IOp),io[i]?=some p->∃p',io[i]?=some p'/\∀o,IOpOf P N ops o p->IOpOf P N ops o p':=⟨rfl,fun i p h=>⟨p,h,fun o ho=>ho⟩⟩
 unfold lastX
 split
 ·rename_i j hj
  split
  ·rename_i q hq
   split
   ·split
    ·refine⟨by simp,fun i p h=>?_⟩
     by_cases hij:j=i
     ·subst hij
      rw[hq]at h;cases h
      refine⟨{ q with o:=q.o.toX },?_,fun o ho=>ho.toX⟩
      have:=(List.getElem?_eq_some_iff.1 hq).1
      rw[List.getElem?_set];simp[this]
     ·exact⟨p,by rw[List.getElem?_set,if_neg hij];exact h,fun o ho=>ho⟩
    ·exact same
   ·exact same
  ·exact same
 ·exact same
def planReg(ops:Array Oper)(io:List IOp):List IOp × List Nat:=
 let ord:=canon .text true ops.toList io ops.size []
 (lastX (withNes io [ancs .any ops.toList []] ord 0 io) ord,ord)
def compReg(P:Program)(N:Nat)(ops:Array Oper)(draw:Bool)(nm:Nat):Option (List IOp × Nat):=
 match compOps P N ops nm ops.toList with
 |none=>none
 |some (io,nm')=>
  if draw then
   if ordsOk P ops (planReg ops io).1 (planReg ops io).2 then some ((planReg ops io).2.map fun i=>(planReg ops io).1.getD i ⟨none,none, .mv (.c .gone)⟩,nm') else none
  else some (io.map fun p=>{ p with o:=p.o.toX },nm')
def addE(ops:Array Oper)(j i:Nat):Array Oper:=match ops[j]? with
 |some o=>ops.setIfInBounds j { o with after:=o.after.push ⟨i, .data⟩ }
 |none=>ops
def badPs(P:Program)(ops:Array Oper)(io:List IOp)(ord:List Nat):List (Nat × Nat):=
 let tbl:=ancs .any ops.toList []
 (ord.zipIdx.flatMap fun(i,a)=>ord.zipIdx.filterMap fun(j,b)=>if a<b && !((tbl.getD j 0).testBit i) && !(match io[i]?,io[j]? with|some p,some q=>swapOk p (q.slim (dests io (ord.drop a)))|_,_=>false) then some (i,j) else none)
def altOk(ops ops2:Array Oper)(io:List IOp):Bool:=
 ops2.toList.all (fun o=>o.after.toList.all fun e=>decide (e.on<ops2.size))&&ordOk .any ops2.toList (planReg ops2 io).1 (planReg ops2 io).2 (planReg ops2 io).2
def planL(ops:Array Oper)(io:List IOp):List IOp:=(planReg ops io).2.map fun i=>(planReg ops io).1.getD i ⟨none,none, .mv (.c .gone)⟩
def compAlt(P:Program)(N:Nat)(ops:Array Oper)(draw:Bool)(nm:Nat):Option (List IOp × List IOp × Nat):=
 match compOps P N ops nm ops.toList with
 |none=>none
 |some (io,nm')=>
  if draw&&(P.follows .mixedOrders || !Region.departs ops) then
   match (badPs P ops (planReg ops io).1 (planReg ops io).2).find? fun(i,j)=>altOk ops (addE ops j i) io&&altOk ops (addE ops i j) io&&i != j with
   |some (i,j)=>some (planL (addE ops j i) io,planL (addE ops i j) io,nm')
   |none=>none
  else none
theorem withNes_get{P:Program}{N:Nat}{ops:Array Oper}{io0:List IOp}{tbls:List (List Nat)}{ord:List Nat}:∀(io:List IOp) (j:Nat),(withNes io0 tbls ord j io).length=io.length/\∀(i:Nat) (p:IOp),io[i]?=some p->∃p',(withNes io0 tbls ord j io)[i]?=some p'/\∀o,IOpOf P N ops o p->IOpOf P N ops o p'
 | [],j=>⟨rfl,fun i p h=>by simp at h⟩
 |p::io,j=>by
  obtain⟨h1,h2⟩:=withNes_get (P:=P) (N:=N) (ops:=ops) (io0:=io0) (tbls:=tbls) (ord:=ord) io (j+1)
  refine⟨by simp[withNes,h1],fun i q hq=>?_⟩
  cases i with
  |zero=>
   simp at hq;subst hq
   refine⟨_,rfl,fun o ho=>?_⟩
   obtain⟨⟨nm,io',ne,k1,k2,k3⟩,k4,k5,k6⟩:=ho
   rcases k2 with k2|k2
   ·exact⟨⟨nm,io',_,k1, .inl (by show(p.o.withNe _)=_;rw[k2];cases io'<;>rfl),k3⟩,k4,k5,k6⟩
   ·exact⟨⟨nm,io',nesOf io0 tbls ord j,k1,by show(p.o.withNe _)=_\/(p.o.withNe _)=_;rw[k2];cases io'<;>first|(left;rfl)|(right;rfl),k3⟩,k4,k5,k6⟩
  |succ i=>simp at hq;simpa[withNes]using h2 i q hq
theorem ordD_ok{m:Region.Mode}{all:List Oper}:∀ {l done:List Nat},ordD m all done l=true->∀r1 i r2,l=r1++i::r2->∀o,all[i]?=some o->∀d∈deps m o,d∈r1\/d∈done
 | [],done,_,r1,i,r2,hl,_,_,_,_=>by simp at hl
 |x::l,done,h,[],i,r2,hl,o,ho,d,hd=>by
  simp only[List.nil_append,List.cons.injEq]at hl
  obtain⟨rfl,rfl⟩:=hl
  simp only[ordD,ho,Option.map_some,Option.getD_some,Bool.and_eq_true,List.all_eq_true]at h
  exact .inr (by simpa using h.1 d hd)
 |x::l,done,h,y::r1,i,r2,hl,o,ho,d,hd=>by
  simp only[List.cons_append,List.cons.injEq]at hl
  obtain⟨rfl,hl⟩:=hl
  simp only[ordD,Bool.and_eq_true]at h
  rcases ordD_ok h.2 r1 i r2 hl o ho d hd with h1|h1
  ·exact .inl (by simp[h1])
  ·rcases List.mem_cons.1 h1 with h2|h2
   ·exact .inl (by simp[h2])
   ·exact .inr h2
theorem mode_ok(hX:SessOk X E){m:Region.Mode}{ord rdy:List Nat}{io:List IOp}{d0:IOp}{k:St->Prop}(hr:Resp k)(hio:∀i,i<ops.size->∃o,ops[i]?=some o/\IOpOf X.P X.N ops o (io.getD i d0))(hlen:io.length=ops.size)
  (hk:∀C s a,Rel X C s a->k s->Q .normal a C.w) (hsm:∀o∈ops.toList,∀e∈o.after.toList,e.on<ops.size) (hok:ordOk m ops.toList io ord rdy=true) (t:Nat) {C:Ctx} {s:St} {a:Act} (h:Rel X C s a)
  (hE:evs E (ord.map fun i=>io.getD i d0) s k):wpOpsIn X.F X.n X.P ops Q (Region.linearise m ops t) a C.w:=by
 simp only[ordOk,Bool.and_eq_true,decide_eq_true_eq,List.all_eq_true,Array.length_toList,List.mem_range]at hok
 obtain⟨⟨⟨⟨⟨⟨h0,h1⟩,h2⟩,h3⟩,h4⟩,h5⟩,h6⟩:=hok
 have hI:Inv m ops io rdy (Array.replicate ops.size false) ord:=by
  have hL:∀j,¬L (Array.replicate ops.size false) j:=fun j=>by simp[L,Array.getD_eq_getD_getElem?,Array.getElem?_replicate];split<;>simp
  refine⟨by simp,fun i=>⟨fun hi=>⟨h0 i hi,hL i⟩,fun hi=>by simpa using h3 i hi.1⟩,fun j hj=>absurd hj (hL j),h4,h2,fun i hi=>by simpa using h5 i hi,fun o ho d hd=>?_,fun r1 i r2 hl o ho d hd=>?_⟩
  ·simp only[deps,List.mem_map,List.mem_filter]at hd
   obtain⟨e,⟨he,_⟩,rfl⟩:=hd
   exact hsm o ho e he
  ·rcases ordD_ok h6 r1 i r2 hl o ho d hd with h7|h7
   ·exact h7
   ·cases h7
 obtain⟨l,h7,h8⟩:=sched_ok hX hr hio hlen hk ops.size t (Array.replicate ops.size false) [] ord hI h1
 have:Region.linearise m ops t=l:=by simpa[Region.linearise]using h7
 rw[this]
 exact h8 C s a h hE
theorem reg_ok(hX:SessOk X E){id nm nm':Nat}{draw:Bool}{ps:List IOp}(hc:compReg X.P X.N ops draw nm=some (ps,nm')){k:St->Prop}(hr:Resp k)(hk:∀C s a,Rel X C s a->k s->Q .normal a C.w){C:Ctx}{s:St}{a:Act}(h:Rel X C s a)
  (hE:evs E ps s k):(Code.region id ops draw).wpIn X.F X.n X.P Q a C.w:=by
 unfold compReg at hc
 split at hc
 ·cases hc
 ·rename_i io nm2 hco
  obtain⟨hlen,hget⟩:=compOps_get hco
  simp only[Array.length_toList]at hlen
  cases draw with
  |false=>
   simp only[Bool.false_eq_true,if_false,Option.some.injEq,Prod.mk.injEq]at hc
   obtain⟨rfl,_⟩:=hc
   refine wpIn_region (ops_ok hX hk (List.range ops.size) _ (by simp[hlen]) (fun j i hj=>?_) C s a h hE)
   obtain⟨hj1,hj2⟩:=List.getElem?_eq_some_iff.1 hj
   simp at hj1 hj2
   subst hj2
   obtain⟨p,h1,h2⟩:=hget j ops[j] (by simp[hj1])
   obtain⟨⟨nm,io',ne,k1,k2,k3⟩,k4,k5,k6⟩:=h2
   have h2:IOpOf X.P X.N ops ops[j] p:=⟨⟨nm,io',ne,k1,k2,k3⟩,k4,k5,k6⟩
   exact⟨_,{ p with o:=p.o.toX },by simp[hj1],by rw[List.getElem?_map,h1];rfl,h2.toX⟩
  |true=>
   simp only[if_true]at hc
   split at hc
   ·rename_i hok
    simp only[Option.some.injEq,Prod.mk.injEq]at hc
    obtain⟨rfl,_⟩:=hc
    have hw:=withNes_get (P:=X.P) (N:=X.N) (ops:=ops) (io0:=io) (tbls:=[ancs .any ops.toList []]) (ord:=canon .text true ops.toList io ops.size []) io 0
    have hx:=lastX_get (P:=X.P) (N:=X.N) (ops:=ops) (withNes io [ancs .any ops.toList []] (canon .text true ops.toList io ops.size []) 0 io) (canon .text true ops.toList io ops.size [])
    have hlen':(planReg ops io).1.length=ops.size:=by rw[<- hlen];exact hx.1.trans hw.1
    have hio:∀i,i<ops.size->∃o,ops[i]?=some o/\IOpOf X.P X.N ops o ((planReg ops io).1.getD i ⟨none,none, .mv (.c .gone)⟩):=fun i hi=>by
     obtain⟨p,h7,h8⟩:=hget i ops[i] (by simp[hi])
     obtain⟨p',h9,h10⟩:=hw.2 i p h7
     obtain⟨p'',h9',h10'⟩:=hx.2 i p' h9
     have h9':(planReg ops io).1[i]?=some p'':=h9'
     have h10:=fun o ho=>h10' o (h10 o ho)
     exact⟨ops[i],by simp[hi],by rw[List.getD_eq_getElem?_getD,h9'];exact h10 _ h8⟩
    generalize (planReg ops io).1=io' at hok hE hlen' hio
    generalize (planReg ops io).2=ord at hok hE
    simp only[ordsOk,Bool.and_eq_true,List.all_eq_true,decide_eq_true_eq]at hok
    obtain⟨hsm,hok⟩:=hok
    refine wpIn_region_draw fun t=>?_
    have hb:Below C.w.heap.size C.w { C.w with drawn:=C.w.drawn+1 }:=⟨rfl,rfl,rfl,Nat.le_refl _,fun _ _=>rfl⟩
    obtain⟨hrel,_⟩:=h.call _ C.imm hb (hX.kgrow _ _ _ _ _ _ h.keep hb) (fun b hb=>hb) (fun b hb=>.inl hb)
    have fin:∀(m:Region.Mode) (rdy:List Nat) (t:Nat),ordOk m ops.toList io' ord rdy=true->wpOpsIn X.F X.n X.P ops Q (Region.linearise m ops t) a { C.w with drawn:=C.w.drawn+1 }:=fun m rdy t hm=>
     mode_ok (C:=⟨C.imm,newB C.w { C.w with drawn:=C.w.drawn+1 } C.T,C.rho,{ C.w with drawn:=C.w.drawn+1 },C.l⟩) hX hr hio hlen' hk hsm hm t hrel hE
    by_cases hdep:Region.departs ops=true/\(!(X.P.follows .mixedOrders))=true
    ·rw[if_pos hdep]at hok
     simp only[Bool.and_eq_true]at hok
     simp only[Bool.not_eq_true']at hdep
     obtain⟨h2,h3⟩:=hok
     simp only[Region.schedule,hdep.1,hdep.2,Bool.not_true,Bool.or_self,Bool.false_eq_true,if_false]
     split
     ·exact fin _ _ _ h2
     ·exact fin _ _ _ h3
    ·rw[if_neg hdep]at hok
     have:(X.P.follows .mixedOrders || !Region.departs ops)=true:=by
      cases h1:X.P.follows .mixedOrders<;>cases h2:Region.departs ops<;>simp_all
     simp only[Region.schedule,this,if_true]
     exact fin _ _ _ hok
   ·cases hc
theorem addE_more{m:Region.Mode}{ops:Array Oper}{i j:Nat}:MoreE m ops (addE ops j i) i j:=by
 unfold addE
 split
 ·rename_i o ho
  have hj:j<ops.size:=(Array.getElem?_eq_some_iff.1 ho).1
  refine⟨by simp,fun q o' ho'=>?_⟩
  by_cases e:q=j
  ·subst e
   have:o'=o:=by rw[Array.getElem?_toList]at ho';rw[ho]at ho';exact(Option.some.inj ho').symm
   subst this
   refine⟨{ o' with after:=o'.after.push ⟨i, .data⟩ },by rw[Array.getElem?_toList,Array.getElem?_setIfInBounds];simp[hj],fun d hd=>?_,fun d hd=>?_⟩
   ·simp only[deps,List.mem_map,List.mem_filter,Array.toList_push,List.mem_append,List.mem_singleton]at hd⊢
    obtain⟨x,⟨h1,h2⟩,h3⟩:=hd
    exact⟨x,⟨.inl h1,h2⟩,h3⟩
   ·simp only[deps,List.mem_map,List.mem_filter,Array.toList_push,List.mem_append,List.mem_singleton]at hd⊢
    obtain⟨x,⟨h1|h1,h2⟩,h3⟩:=hd
    ·exact .inl ⟨x,⟨h1,h2⟩,h3⟩
    ·subst h1;exact .inr ⟨trivial,h3.symm⟩
  ·exact⟨o',by rw[Array.getElem?_toList]at ho'⊢;rw[Array.getElem?_setIfInBounds,if_neg (fun h=>e h.symm)];exact ho',fun d hd=>hd,fun d hd=>.inl hd⟩
 ·exact⟨rfl,fun q o ho=>⟨o,ho,fun d hd=>hd,fun d hd=>.inl hd⟩⟩
theorem mode2(hX:SessOk X E){ops2:Array Oper}{i0 j0:Nat}{m:Region.Mode}(hmo:MoreE m ops ops2 i0 j0){ord rdy:List Nat}{io:List IOp}{d0:IOp}{k:St->Prop}(hr:Resp k)(hio:∀i,i<ops.size->∃o,ops[i]?=some o/\IOpOf X.P X.N ops o (io.getD i d0))(hlen:io.length=ops.size)
  (hk:∀C s a,Rel X C s a->k s->Q .normal a C.w) (hsm:∀o∈ops2.toList,∀e∈o.after.toList,e.on<ops2.size) (hok:ordOk m ops2.toList io ord rdy=true) (t:Nat) (hg:Good i0 j0 (Region.linearise m ops t) (Array.replicate ops.size false)) {C:Ctx} {s:St} {a:Act} (h:Rel X C s a)
  (hE:evs E (ord.map fun i=>io.getD i d0) s k):wpOpsIn X.F X.n X.P ops Q (Region.linearise m ops t) a C.w:=by
 simp only[ordOk,Bool.and_eq_true,decide_eq_true_eq,List.all_eq_true,Array.length_toList,List.mem_range]at hok
 obtain⟨⟨⟨⟨⟨⟨h0,h1⟩,h2⟩,h3⟩,h4⟩,h5⟩,h6⟩:=hok
 have hI:Inv m ops2 io rdy (Array.replicate ops2.size false) ord:=by
  have hL:∀j,¬L (Array.replicate ops2.size false) j:=fun j=>by simp[L,Array.getD_eq_getD_getElem?,Array.getElem?_replicate];split<;>simp
  refine⟨by simp,fun i=>⟨fun hi=>⟨h0 i hi,hL i⟩,fun hi=>by simpa using h3 i hi.1⟩,fun j hj=>absurd hj (hL j),h4,h2,fun i hi=>by simpa using h5 i hi,fun o ho d hd=>?_,fun r1 i r2 hl o ho d hd=>?_⟩
  ·simp only[deps,List.mem_map,List.mem_filter]at hd
   obtain⟨e,⟨he,_⟩,rfl⟩:=hd
   exact hsm o ho e he
  ·rcases ordD_ok h6 r1 i r2 hl o ho d hd with h7|h7
   ·exact h7
   ·cases h7
 rw[hmo.size]at hI
 obtain⟨l,h7,h8⟩:=sched2 hX hmo hr hio hlen hk ops.size t (Array.replicate ops.size false) [] ord hI (by rw[<- hmo.size];exact h1)
 have:Region.linearise m ops t=l:=by simpa[Region.linearise]using h7
 rw[this]at hg⊢
 exact h8 hg C s a h hE
theorem good_or{i j:Nat}(hij:i≠j)(l:List Nat)(n:Nat):Good i j l (Array.replicate n false)\/Good j i l (Array.replicate n false):=by
 refine Classical.byContradiction fun hn=>?_
 rw[not_or]at hn
 obtain⟨h1,h2⟩:=hn
 simp only[Good,Classical.not_forall]at h1 h2
 obtain⟨r1,r2,e1,n1⟩:=h1
 obtain⟨q1,q2,e2,n2⟩:=h2
 simp only[not_or]at n1 n2
 have e:r1++j::r2=q1++i::q2:=e1.symm.trans e2
 rcases Nat.lt_trichotomy r1.length q1.length with hl|hl|hl
 ·have h:q1[r1.length]?=some j:=by
   have:=congrArg (·[r1.length]?) e
   simp only[List.getElem?_append_right (Nat.le_refl _),Nat.sub_self,List.getElem?_cons_zero,List.getElem?_append_left hl]at this
   exact this.symm
  exact n2.2 (List.mem_of_getElem? h)
 ·have:=congrArg (·[r1.length]?) e
  simp only[List.getElem?_append_right (Nat.le_refl _),Nat.sub_self,List.getElem?_cons_zero]at this
  rw[hl]at this
  simp only[List.getElem?_append_right (Nat.le_refl _),Nat.sub_self,List.getElem?_cons_zero,Option.some.injEq]at this
  exact hij this.symm
 ·have h:r1[q1.length]?=some i:=by
   have:=congrArg (·[q1.length]?) e
   simp only[List.getElem?_append_right (Nat.le_refl _),Nat.sub_self,List.getElem?_cons_zero,List.getElem?_append_left hl]at this
   exact this
  exact n1.2 (List.mem_of_getElem? h)
theorem alt_ok(hX:SessOk X E){id nm nm':Nat}{draw:Bool}{ps qs:List IOp}(hc:compAlt X.P X.N ops draw nm=some (ps,qs,nm')){k:St->Prop}(hr:Resp k)(hk:∀C s a,Rel X C s a->k s->Q .normal a C.w){C:Ctx}{s:St}{a:Act}(h:Rel X C s a)
  (hE:evs E ps s k) (hE2:evs E qs s k):(Code.region id ops draw).wpIn X.F X.n X.P Q a C.w:=by
 unfold compAlt at hc
 split at hc
 ·cases hc
 ·rename_i io nm2 hco
  obtain⟨hlen,hget⟩:=compOps_get hco
  simp only[Array.length_toList]at hlen
  split at hc
  ·rename_i hdr
   simp only[Bool.and_eq_true]at hdr
   obtain⟨rfl,hmode⟩:=hdr
   split at hc
   ·rename_i i j hf
    simp only[Option.some.injEq,Prod.mk.injEq]at hc
    obtain⟨rfl,rfl,_⟩:=hc
    have hff:=List.find?_some hf
    simp only[Bool.and_eq_true,bne_iff_ne,ne_eq]at hff
    obtain⟨⟨ha1,ha2⟩,hij⟩:=hff
    refine wpIn_region_draw fun t=>?_
    have hb:Below C.w.heap.size C.w { C.w with drawn:=C.w.drawn+1 }:=⟨rfl,rfl,rfl,Nat.le_refl _,fun _ _=>rfl⟩
    obtain⟨hrel,_⟩:=h.call _ C.imm hb (hX.kgrow _ _ _ _ _ _ h.keep hb) (fun b hb=>hb) (fun b hb=>.inl hb)
    have main:∀(i j t:Nat),altOk ops (addE ops j i) io=true->Good i j (Region.linearise .any ops t) (Array.replicate ops.size false)->evs E (planL (addE ops j i) io) s k->wpOpsIn X.F X.n X.P ops Q (Region.linearise .any ops t) a { C.w with drawn:=C.w.drawn+1 }:=fun i j t ha hg hE=>by
     have hmo:MoreE .any ops (addE ops j i) i j:=addE_more
     have hw:=withNes_get (P:=X.P) (N:=X.N) (ops:=ops) (io0:=io) (tbls:=[ancs .any (addE ops j i).toList []]) (ord:=canon .text true (addE ops j i).toList io (addE ops j i).size []) io 0
     have hx:=lastX_get (P:=X.P) (N:=X.N) (ops:=ops) (withNes io [ancs .any (addE ops j i).toList []] (canon .text true (addE ops j i).toList io (addE ops j i).size []) 0 io) (canon .text true (addE ops j i).toList io (addE ops j i).size [])
     have hlen':(planReg (addE ops j i) io).1.length=ops.size:=by rw[<- hlen];exact hx.1.trans hw.1
     have hio:∀q,q<ops.size->∃o,ops[q]?=some o/\IOpOf X.P X.N ops o ((planReg (addE ops j i) io).1.getD q ⟨none,none, .mv (.c .gone)⟩):=fun q hq=>by
      obtain⟨p,h7,h8⟩:=hget q ops[q] (by simp[hq])
      obtain⟨p',h9,h10⟩:=hw.2 q p h7
      obtain⟨p'',h9',h10'⟩:=hx.2 q p' h9
      have h9':(planReg (addE ops j i) io).1[q]?=some p'':=h9'
      have h10:=fun o ho=>h10' o (h10 o ho)
      exact⟨ops[q],by simp[hq],by rw[List.getD_eq_getElem?_getD,h9'];exact h10 _ h8⟩
     simp only[altOk,Bool.and_eq_true,List.all_eq_true,decide_eq_true_eq]at ha
     exact mode2 (C:=⟨C.imm,newB C.w { C.w with drawn:=C.w.drawn+1 } C.T,C.rho,{ C.w with drawn:=C.w.drawn+1 },C.l⟩) hX hmo hr hio hlen' hk ha.1 ha.2 t hg hrel hE
    simp only[Region.schedule,hmode,if_true]
    rcases good_or hij (Region.linearise .any ops t) ops.size with hg|hg
    ·exact main i j t ha1 hg hE
    ·exact main j i t ha2 hg hE2
   ·cases hc
  ·cases hc
end
inductive CI where
 |skip
 |reg (ps:List IOp)
 |seq (a b:CI)
 |cond (c:Opd) (a b:CI)
 |block (id:Nat) (b:CI)
 |loop (b:CI)
 |exit (id:Nat)
 |ret
 |rng (f:Opd) (ps:List Nat) (as b:CI)
 |alt (ps qs:List IOp)
def panics(ops:Array Oper):Bool:=ops.toList.any fun o=>match o.op with
 |.panic _=>true
 |_=>false
def compC(P:Program)(N:Nat):Nat->Code->Option (CI × Nat)
 |nm, .skip=>some (.skip,nm)
 |nm, .label _=>some (.skip,nm)
 |nm, .region _ ops draw=>match compReg P N ops draw nm with
  |some (ps,nm')=>some (.reg ps,nm')
  |none=>match compAlt P N ops draw nm with
   |some (ps,qs,nm')=>some (.alt ps qs,nm')
   |none=>if panics ops=true then some (.cond (.c .gone) .skip .skip,nm) else none
 |nm, .seq a b=>match compC P N nm a with
  |some (x,nm')=>match compC P N nm' b with
   |some (y,nm'')=>some (.seq x y,nm'')
   |none=>none
  |none=>none
 |nm, .cond c a b=>match opd c,compC P N nm a with
  |some p,some (x,nm')=>match compC P N nm' b with
   |some (y,nm'')=>some (.cond p x y,nm'')
   |none=>none
  |_,_=>none
 |nm, .block id b=>match compC P N nm b with
  |some (x,nm')=>some (.block id x,nm')
  |none=>none
 |nm, .loop b=>match compC P N nm b with
  |some (x,nm')=>some (.loop x,nm')
  |none=>none
 |nm, .exit id=>some (.exit id,nm)
 |nm, .ret=>some (.ret,nm)
 |nm, .rangeFunc f ps as b=>match opd f,compC P N nm as with
  |some p,some (x,nm')=>match compC P N nm' b with
   |some (y,nm'')=>if ps.toList.all (fun t=>decide (t<N)) then some (.rng p ps.toList x y,nm'') else none
   |none=>none
  |_,_=>none
 |nm, .scope b=>match compC P N nm b with
  |some (x,nm')=>some (.cond (.c (.bool true)) x .skip,nm')
  |none=>none
 |_,_=>none
inductive Ex where
 |normal
 |ret
 |exit (id:Nat)
def QK(X:Sess)(T:Ex->St->Prop):Exit->Act->World->Prop
 |.normal,a,w=>∃C s,C.w=w/\Rel X C s a/\T .normal s
 |.ret,a,w=>∃C s,C.w=w/\Rel X C s a/\T .ret s
 |.exit id,a,w=>∃C s,C.w=w/\Rel X C s a/\T (.exit id) s
 |_,_,_=>False
def GoC(E:Env)(c:CI)(T:Ex->St->Prop)(s:St):Prop:=
 ∀(X:Sess),SessOk X E->∀(code:Code) (nm nm':Nat),compC E.P E.N nm code=some (c,nm')->∀(C:Ctx) (a:Act),Rel X C s a->code.wpIn X.F X.n X.P (QK X T) a C.w
theorem QK.mono{X:Sess}{T T':Ex->St->Prop}(h:∀e s,T e s->T' e s):∀e a w,QK X T e a w->QK X T' e a w:=fun e a w hq=>by
 cases e<;>first|exact hq.elim|(obtain⟨C,s,h1,h2,h3⟩:=hq;exact⟨C,s,h1,h2,h _ _ h3⟩)
theorem GoC.mono{E:Env}{c:CI}{T T':Ex->St->Prop}{s:St}(hg:GoC E c T s)(h:∀e s,T e s->T' e s):GoC E c T' s:=
 fun X hX code nm nm' hc C a hr=>wpIn_mono (hg X hX code nm nm' hc C a hr) (QK.mono h)
theorem Rel.eqv{X:Sess}{C:Ctx}{s r:St}{a:Act}(h:Rel X C s a)(q:Eqv s r):Rel X C r a:=by
 obtain⟨q1,q2,q3⟩:=q
 exact⟨h.size,fun d v hv=>h.tm d v ((q1 d).trans hv),by rw[<- q2];exact h.sg,by rw[<- q2];exact h.dis,h.imm,h.imm0,h.T,by rw[<- q3];exact h.keep,h.marks,h.round,by rw[<- q3];exact h.pin⟩
theorem evs_mono{E:Env}{k k':St->Prop}(h:∀s,k s->k' s):∀(ps:List IOp) (s:St),evs E ps s k->evs E ps s k'
 | [],s,hE=>h s hE
 |p::ps,s,hE=>by
  rw[evs_cons]at hE⊢
  have ih:=evs_mono (E:=E) h ps
  unfold evG at hE⊢
  split
  ·rename_i hg;simp only[hg]at hE;exact evX_mono hE fun e he=>ih _ he
  ·rename_i j want hg;simp only[hg]at hE
   split
   ·rename_i hl;simp only[hl]at hE
    cases want
    ·exact⟨fun e=>ih _ (hE.1 e),fun e=>evX_mono (hE.2 e) fun e he=>ih _ he⟩
    ·exact⟨fun e=>evX_mono (hE.1 e) fun e he=>ih _ he,fun e=>ih _ (hE.2 e)⟩
   ·rename_i hl;simp only[hl]at hE;exact ih _ hE
   ·rename_i h1 h2;revert hE;split
    ·rename_i h3;exact absurd h3 (h1 _)
    ·rename_i h3;exact absurd h3 h2
    ·exact id
section
variable {E:Env} {T:Ex->St->Prop} {s:St}
theorem go_skip(h:T .normal s):GoC E .skip T s:=fun X hX code nm nm' hc C a hr=>by
 cases code<;>simp only[compC]at hc<;>first|exact wpIn_skip ⟨C,s,rfl,hr,h⟩|exact wpIn_label ⟨C,s,rfl,hr,h⟩|(repeat' (split at hc))<;>cases hc
theorem go_ret(h:T .ret s):GoC E .ret T s:=fun X hX code nm nm' hc C a hr=>by
 cases code<;>simp only[compC]at hc<;>first|exact wpIn_ret ⟨C,s,rfl,hr,h⟩|(repeat' (split at hc))<;>cases hc
theorem go_exit{id:Nat}(h:T (.exit id) s):GoC E (.exit id) T s:=fun X hX code nm nm' hc C a hr=>by
 cases code<;>simp only[compC]at hc<;>first|(simp only[Option.some.injEq,Prod.mk.injEq,CI.exit.injEq]at hc;obtain⟨rfl,_⟩:=hc;exact wpIn_exit ⟨C,s,rfl,hr,h⟩)|(repeat' (split at hc))<;>cases hc
theorem go_reg{ps:List IOp}(h:evs E ps s (T .normal)):GoC E (.reg ps) T s:=fun X hX code nm nm' hc C a hr=>by
 cases code<;>simp only[compC]at hc<;>try ((repeat' (split at hc))<;>cases hc)
 rename_i hreg
 rw[<- hX.P,<- hX.N]at hreg
 refine reg_ok hX hreg (k:=fun s'=>∃r,Eqv r s'/\T .normal r) (fun a b hab ⟨r,h1,h2⟩=>⟨r,h1.trans hab,h2⟩) (fun C s a hr ⟨r,h1,h2⟩=>⟨C,r,rfl,hr.eqv h1.symm,h2⟩) hr (evs_mono (fun s hs=>⟨s,Eqv.refl s,hs⟩) ps s h)
theorem go_alt{ps qs:List IOp}(h:evs E ps s (T .normal))(h2:evs E qs s (T .normal)):GoC E (.alt ps qs) T s:=fun X hX code nm nm' hc C a hr=>by
 cases code<;>simp only[compC]at hc<;>try ((repeat' (split at hc))<;>cases hc)
 rename_i hreg
 rw[<- hX.P,<- hX.N]at hreg
 refine alt_ok hX hreg (k:=fun s'=>∃r,Eqv r s'/\T .normal r) (fun a b hab ⟨r,h1,h2⟩=>⟨r,h1.trans hab,h2⟩) (fun C s a hr ⟨r,h1,h2⟩=>⟨C,r,rfl,hr.eqv h1.symm,h2⟩) hr (evs_mono (fun s hs=>⟨s,Eqv.refl s,hs⟩) ps s h) (evs_mono (fun s hs=>⟨s,Eqv.refl s,hs⟩) qs s h2)
def thenT(E:Env)(b:CI)(T:Ex->St->Prop):Ex->St->Prop
 |.normal,s=>GoC E b T s
 |e,s=>T e s
theorem go_seq{x y:CI}(h:GoC E x (thenT E y T) s):GoC E (.seq x y) T s:=fun X hX code nm nm' hc C a hr=>by
 cases code<;>simp only[compC]at hc<;>try ((repeat' (split at hc))<;>cases hc)
 rename_i h1 h2
 refine wpIn_seq (wpIn_mono (h X hX _ _ _ h1 C a hr) fun e a w hq=>?_)
 cases e with
 |normal=>
  obtain⟨C',s',rfl,hr',hg⟩:=hq
  exact hg X hX _ _ _ h2 C' a hr'
 |ret=>exact hq
 |exit id=>exact hq
 |goto l=>exact hq.elim
 |panic ch=>exact hq.elim
 |outgrown=>exact hq.elim
theorem Rel.lit{X:Sess}{C:Ctx}{a:Act}(h:Rel X C s a){j:Nat}{b:Bool}(hl:look s.tm j=some (.bool b)):Rel X C (s.lit j b) a:=h.eqv (Eqv.lit hl).symm
def condE(E:Env)(T:Ex->St->Prop)(s:St)(c:Opd)(x y:CI):Prop:=
 match c with
 |.t j=>match look s.tm j with
  |some (.bool b)=>brB b (GoC E x T (s.lit j true)) (GoC E y T (s.lit j false))
  |_=>False
 |.c (.bool b)=>brB b (GoC E x T s) (GoC E y T s)
 |_=>False
theorem wpIn_scope{F:Fence}{n:Nat}{P:Program}{Q:Exit->Act->World->Prop}{a:Act}{w:World}{c:Code}(h:c.wpIn F n P (Exit.noGoto Q) a w):(Code.scope c).wpIn F n P Q a w:=by
 intro b k cs hro hb hr
 have s0:step P (lone (b.atR a (.code (.scope c)::k)) cs w) = .next (lone (b.atR a (.code c :: .inScope c::k)) cs w):=step_lone_go (by simp[stepG,stepG.exec,Frame.atR])
 have s1:∀a w,step P (lone (b.atR a (.inScope c::k)) cs w) = .next (lone (b.atR a k) cs w):=fun a w=>step_lone_go (by simp[stepG,stepG.exec,Frame.atR])
 have h0:(lone (b.atR a (.code (.scope c)::k)) cs w).fenced P F:=fenced_calm hb hr rfl
 obtain⟨e,a₁,w₁,hq,harr⟩:=h b (.inScope c::k) cs hro hb hr
 cases e with
 |normal=>exact⟨.normal,a₁,w₁,hq, .head h0 s0 (StepsIn.trans harr (.one (fenced_calm hb hr rfl) (s1 _ _)))⟩
 |exit id'=>
  have hx:exitTo id' (.inScope c::k)=exitTo id' k:=by simp[exitTo]
  exact⟨.exit id',a₁,w₁,hq,fun k' hk=>.head h0 s0 (harr.1 k' (by rw[hx];exact hk)),
   fun hr' hk=>let ⟨k₁,h1,h2⟩:=harr.2 hr' (by rw[hx];exact hk);⟨k₁,h1, .head h0 s0 h2⟩⟩
 |goto l=>exact hq.elim
 |ret=>exact⟨_,a₁,w₁,hq, .of_steps (.one h0 s0) harr⟩
 |panic ch=>exact⟨_,a₁,w₁,hq, .of_steps (.one h0 s0) harr⟩
 |outgrown=>exact⟨_,a₁,w₁,hq, .of_steps (.one h0 s0) harr⟩
theorem go_cond{c:Opd}{x y:CI}(h:condE E T s c x y):GoC E (.cond c x y) T s:=fun X hX code nm nm' hc C a hr=>by
 by_cases hsc:∃b,code = .scope b
 ·obtain⟨b,rfl⟩:=hsc
  simp only[compC]at hc
  split at hc
  ·rename_i h1
   cases hc
   exact wpIn_scope (wpIn_mono (h.1 rfl X hX _ _ _ h1 C a hr) fun e a w hq=>by
    cases e<;>first|exact hq|exact hq.elim)
  ·cases hc
 by_cases hc0:c = .c .gone
 ·subst hc0;exact h.elim
 cases code<;>simp only[compC]at hc<;>try ((repeat' (split at hc))<;>cases hc)
 ·exact absurd rfl hc0
 rotate_left
 ·exact absurd ⟨_,rfl⟩ hsc
 rename_i hp h1 h2
 have hev:∀b,s.ev c=some (.bool b)->a.eval _ = .bool b:=fun b hb=>by
  have:=ev_ok hr hp hb
  simpa only[RV]using this
 cases c with
 |t j=>
  simp only[condE]at h
  split at h
  ·rename_i b hl
   have hrl:=hr.lit hl
   refine wpIn_cond (hev b hl) ?_
   cases b
   ·exact h.2 rfl X hX _ _ _ h2 C a hrl
   ·exact h.1 rfl X hX _ _ _ h1 C a hrl
  ·exact h.elim
 |c v=>
  cases v<;>simp only[condE]at h<;>try exact h.elim
  rename_i b
  refine wpIn_cond (hev b rfl) ?_
  cases b
  ·exact h.2 rfl X hX _ _ _ h2 C a hr
  ·exact h.1 rfl X hX _ _ _ h1 C a hr
def blkT(id:Nat)(T:Ex->St->Prop):Ex->St->Prop
 |.exit id',s=>if id'=id then T .normal s else T (.exit id') s
 |e,s=>T e s
theorem go_block{id:Nat}{b:CI}(h:GoC E b (blkT id T) s):GoC E (.block id b) T s:=fun X hX code nm nm' hc C a hr=>by
 cases code<;>simp only[compC]at hc<;>try ((repeat' (split at hc))<;>cases hc)
 rename_i h1
 refine wpIn_block (wpIn_mono (h X hX _ _ _ h1 C a hr) fun e a w hq=>?_)
 cases e with
 |exit id'=>
  obtain⟨C',s',h2,h3,h4⟩:=hq
  simp only[blkT]at h4
  simp only[Exit.inBlock]
  split
  ·rename_i e;rw[if_pos e]at h4;exact⟨C',s',h2,h3,h4⟩
  ·rename_i e;rw[if_neg e]at h4;exact⟨C',s',h2,h3,h4⟩
 |_=>exact hq
def rndT(T:Ex->St->Prop)(J:St->Prop):Ex->St->Prop
 |.normal,s=>J s
 |e,s=>T e s
theorem go_loop{b:CI}(J:Nat->St->Prop)(n:Nat)(h0:J n s)(hr:∀n s,J n s->GoC E b (rndT T fun s'=>∃m,m<n/\J m s') s):GoC E (.loop b) T s:=fun X hX code nm nm' hc C a hrel=>by
 cases code<;>simp only[compC]at hc<;>try ((repeat' (split at hc))<;>cases hc)
 rename_i body _ h1
 have more:∀m a w,Code.roundsIn X.F X.n X.P body (QK X T) m a w->∀k,Code.roundsIn X.F X.n X.P body (QK X T) (m+k) a w:=by
  intro m
  induction m with
  |zero=>intro a w h;exact h.elim
  |succ m ih=>
   intro a w h k
   rw[show m+1+k=(m+k)+1 from by omega,roundsIn_succ]
   rw[roundsIn_succ]at h
   refine wpIn_mono h fun e a w hq=>?_
   cases e with
   |normal=>exact ih a w hq k
   |_=>exact hq
 have key:∀n C s a,J n s->Rel X C s a->Code.roundsIn X.F X.n X.P body (QK X T) (n+1) a C.w:=by
  intro n
  induction n using Nat.strongRecOn with
  |_ n ih=>
   intro C s a hJ hrel
   rw[roundsIn_succ]
   refine wpIn_mono (hr n s hJ X hX _ _ _ h1 C a hrel) fun e a w hq=>?_
   cases e with
   |normal=>
    obtain⟨C',s',rfl,hrel',m,hm,hJ'⟩:=hq
    have:=more (m+1) a C'.w (ih m hm C' s' a hJ' hrel') (n-(m+1))
    rwa [show m+1+(n-(m+1))=n from by omega]at this
   |ret=>exact hq
   |exit id=>exact hq
   |goto l=>exact hq.elim
   |panic ch=>exact hq.elim
   |outgrown=>exact hq.elim
 exact wpIn_loop_rounds (n+1) (key n C s a h0 hrel)
end
def weakTm(s:St)(keep:Nat->Bool):List (Nat × AV)->Prop
 | []=>True
 |(d,v)::r=>(look s.tm d=some v/\v.refsIn keep=true)/\weakTm s keep r
def weakR(keep:Nat->Bool)(old new:Res):Prop:=
 match new with
 |.fresh=>True
 |.dead=>old = .fresh->False
 |.box ice cs=>old = .box ice cs/\AV.refsInL keep cs=true
 |.row ice el sz es=>old = .row ice el sz es
 |.mp ice ks us=>old = .mp ice ks us
 |.mpo ks us=>old = .mpo ks us/\AV.refsInL keep us=true
 |.itr ks us seen last=>old = .itr ks us seen last
inductive RIO where
 |t (i:Nat)
 |cell (a:Nat) (ag:Bool) (n:Nat)
def compRes(P:Program):List ResultVar->Option (List RIO)
 | []=>some []
 |.tmp t::r=>match compRes P r with
  |some l=>some (.t t::l)
  |none=>none
 |.cell a t::r=>match aggOf P t,szOf P t,compRes P r with
  |some ag,some n,some l=>some (.cell a ag n::l)
  |_,_,_=>none
def resV(s:St):RIO->Option AV
 |.t i=>look s.tm i
 |.cell a ag n=>match look s.tm a with
  |some (.own i off)=>match s.sg.getD i .dead with
   |.box _ cs=>evX.ldC ag n (cs.drop off)
   |_=>none
  |_=>none
def resL(s:St):List RIO->Option (List AV)
 | []=>some []
 |r::rs=>match resV s r,resL s rs with
  |some v,some vs=>some (v::vs)
  |_,_=>none
def retK(rs:List RIO)(R:AV->Prop)(s:St):Prop:=
 match resL s rs with
 |some vs=>match AV.frzL s.sg 8 vs with
  |some [v]=>R v
  |some vs=>R (.tup vs)
  |none=>False
 |none=>False
def finT(rs:List RIO)(R:AV->Prop):Ex->St->Prop
 |.exit _,_=>False
 |_,s=>retK rs R s
def argsTm:Nat->List AV->List (Nat × AV)
 |_,[]=>[]
 |i,a::as=>(i,a)::argsTm (i+1) as
def start(M:Nat)(args:List AV):St:=⟨argsTm 0 args,List.replicate M .fresh,⟨[],0,false⟩⟩
structure FnOk(P:Program)(f:FuncId)(N M:Nat)(ci:CI)(rs:List RIO):Prop where
 ok:∃fn c,P.funcs[f]?=some fn/\fn.body=some c/\fn.ntmps=N/\compC P N 0 c=some (ci,M)/\compRes P fn.results.toList=some rs
theorem argsTm_look:∀ {as:List AV} {i d:Nat} {v:AV},look (argsTm i as) d=some v->i<=d/\as[d-i]?=some v
 | [],i,d,v,h=>by simp[argsTm,look]at h
 |a::as,i,d,v,h=>by
  simp only[argsTm,look]at h
  split at h
  ·rename_i e;subst e;cases h;simp
  ·rename_i e
   obtain⟨h1,h2⟩:=argsTm_look h
   refine⟨by omega,?_⟩
   rw[show d-i=(d-(i+1))+1 from by omega]
   simpa using h2
structure Fr(T:Nat->Prop)(w w':World):Prop where
 os:w'.os=w.os
 tape:w'.tape=w.tape
 output:w'.output=w.output
 size:w'.heap.size=w.heap.size
 other:∀k,¬T k->w'.heap[k]?=w.heap[k]?
 mem:∀(k:Nat) (o:Obj),w.heap[k]?=some o->isMem o=true->w'.heap[k]?=some o
theorem leave_marks{F:Fence}{n:Nat}{P:Program}{fn:Func}{tmps:Array Value}{R:Ending->World->Prop}{B:Nat->Prop}:∀(ds:List Nat) (w:World),ds.Nodup->(∀D∈ds,B D/\w.heap[D]?=some (.deferred (some []))) ->
  (∀w',Fr B w w'->LeavesInM F n P fn tmps R [] .returning w')->LeavesInM F n P fn tmps R (ds.map fun D=>{ target:=.collected D,args := #[] }) .returning w
 | [],w,_,_,h=>h w ⟨rfl,rfl,rfl,rfl,fun _ _=>rfl,fun _ _ h _=>h⟩
 |D::ds,w,hn,hd,h=>by
  simp only[List.map_cons,LeavesInM]
  refine⟨by simp, .inl ⟨D,w.putObj D (.deferred none),rfl,run_takeDeferred (hd D (by simp)).2,?_⟩⟩
  have hn':=List.nodup_cons.1 hn
  have hD:=hd D (by simp)
  have hf:Fr B w (w.putObj D (.deferred none)):=⟨rfl,rfl,rfl,by simp,fun k hk=>World.putObj_heap_other (fun e=>hk (e ▸ hD.1)),fun k o hk ho=>by
   have hne:k≠D:=fun e=>by subst e;rw[hD.2]at hk;cases hk;cases ho
   rw[World.putObj_heap_other hne];exact hk⟩
  refine leave_marks ds _ hn'.2 (fun D' hD'=>⟨(hd D' (by simp[hD'])).1,?_⟩) (fun w' hw'=>h w' ⟨hw'.os.trans hf.os,hw'.tape.trans hf.tape,hw'.output.trans hf.output,hw'.size.trans hf.size,fun k hk=>(hw'.other k hk).trans (hf.other k hk),fun k o hk ho=>hw'.mem k o (hf.mem k o hk ho) ho⟩)
  have hne:D'≠D:=fun e=>hn'.1 (by subst e;exact hD')
  rw[World.putObj_heap_other hne]
  exact(hd D' (by simp[hD'])).2
def resF(tmps:Array Value):ResultVar->Sem Value
 |.tmp t=>pure (tmps.getD t undef)
 |.cell a t=>do loadVar t (<- asAddr (tmps.getD a undef))
theorem results_eq(fn:Func)(tmps:Array Value):results fn tmps=(do let vs <- fn.results.mapM (resF tmps);pure (if h:vs.size=1 then vs[0] else .tuple vs)):=by
 unfold results
 congr 1
theorem resL_run{X:Sess}{C:Ctx}{s:St}{a:Act}(h:Rel X C s a){w':World}(hw:Fr C.T C.w w'):∀(rv:List ResultVar) (rs:List RIO) (vs:List AV),compRes X.P rv=some rs->resL s rs=some vs ->
  ∃xs,(rv.mapM (resF a.tmps)).run X.P w' = .ok xs w'/\RVs C vs xs
 | [],rs,vs,hc,hv=>by
  simp only[compRes,Option.some.injEq]at hc;subst hc
  simp only[resL,Option.some.injEq]at hv;subst hv
  exact⟨[],by simp[Sem.run_pure],by simp[RVs]⟩
 |.tmp t::rv,rs,vs,hc,hv=>by
  simp only[compRes]at hc
  split at hc<;>cases hc
  rename_i l h1
  simp only[resL]at hv
  split at hv<;>cases hv
  rename_i v vs' h2 h3
  obtain⟨xs,h4,h5⟩:=resL_run h hw rv l vs' h1 h3
  refine⟨a.tmps.getD t undef::xs,?_,by simp only[RVs];exact⟨_,_,rfl,h.tm t v h2,h5⟩⟩
  simp only[List.mapM_cons,resF,Sem.run_bind,Sem.run_pure,Result.andThen_ok,h4]
 |.cell ad t::rv,rs,vs,hc,hv=>by
  simp only[compRes]at hc
  split at hc<;>cases hc
  rename_i ag n l h1 h1' h1''
  simp only[resL]at hv
  split at hv<;>cases hv
  rename_i v vs' h2 h3
  obtain⟨xs,h4,h5⟩:=resL_run h hw rv l vs' h1'' h3
  simp only[resV]at h2
  split at h2
  ·rename_i i off hl
   have e1:=h.tm ad _ hl
   simp only[RV]at e1
   obtain⟨ow,ho,e1⟩:=e1
   split at h2
   ·rename_i ice cs hr
    obtain⟨hf',hi⟩:=getD_dead hr (by simp)
    obtain⟨b,us,el,k1,k2,k3,_⟩:=own_blk h hf'
    rw[k1]at ho;cases ho
    obtain⟨y,k5,k6⟩:=ld_own (P:=X.P) (C:=C) h1 h1' (box_cells (off:=off) (hw.mem _ _ k2 rfl)) (k3.drop off) h2
    refine⟨y::xs,?_,by simp only[RVs];exact⟨_,_,rfl,k6,h5⟩⟩
    have k7:(resF a.tmps (.cell ad t)).run X.P w' = .ok y w':=by
     simp only[resF,Sem.run_bind,e1,asAddr,Sem.run_pure,Result.andThen_ok,k5]
    simp only[List.mapM_cons,Sem.run_bind,Sem.run_pure,Result.andThen_ok,h4,k7]
   ·cases h2
  ·cases h2
theorem fnA_of_go{P:Program}{f:FuncId}{N M:Nat}{ci:CI}{rs:List RIO}(hok:FnOk P f N M ci rs)(m:Nat){args:List AV}{R:AV->Prop}(hN:args.length<=N)(h:GoC (env3 P N []) ci (finT rs R) (start m args)):FnA P f args R:=by
 obtain⟨fn,c,h1,h2,h3,h4,h5⟩:=hok.ok
 intro imm w vs himm hargs
 let X:Sess:={ P:=P,F:=Fence.wide,n:=5,N:=N,imm0:=imm,lo:=w.heap.size,pin:=fun _=>none,l:=0,Keep:=fun T S k st w'=>(k=0/\st=false/\∀b,¬S.s b/\¬S.h b)/\Below w.heap.size w w'/\∀b,T b->w.heap.size<=b }
 have hX:SessOk X (env3 P N []):=⟨fun f=>trivial, .inl rfl,
  fun T S k st w1 w2 hk hg=>⟨hk.1,hk.2.1.trans (hg.mono hk.2.1.size),fun b hb=>hb.elim (hk.2.2 b) fun hb=>Nat.le_trans hk.2.1.size hb.1⟩,
  fun T S k st w1 w2 b hk hT _ _ hg=>⟨hk.1,⟨hg.os.trans hk.2.1.os,hg.tape.trans hk.2.1.tape,hg.output.trans hk.2.1.output,by rw[hg.size];exact hk.2.1.size,fun k hkb=>(hg.other k (fun e=>by have:=hk.2.2 b hT;omega)).trans (hk.2.1.block k hkb)⟩,hk.2.2⟩,
  fun T S k st w1 b r r' hk hT hlo _ _=>⟨hk.1,⟨hk.2.1.os,hk.2.1.tape,hk.2.1.output,by simp only[World.putObj,Array.size_setIfInBounds];exact hk.2.1.size,fun j hj=>(World.putObj_heap_other (fun e=>by have:=hk.2.2 b hT;omega)).trans (hk.2.1.block j hj)⟩,hk.2.2⟩,
  fun T S k st w1 w2 hk _ hr=>⟨hk.1,⟨hr.os.trans hk.2.1.os,hr.tape.trans hk.2.1.tape,hr.output.trans hk.2.1.output,Nat.le_trans hk.2.1.size hr.size,fun j hj=>(hr.same j (Nat.lt_of_lt_of_le hj hk.2.1.size) (.inl hj)).trans (hk.2.1.block j hj)⟩,hk.2.2⟩,
  fun T S k st w1 Q hk hQ=>⟨hk.1,hk.2.1,fun b hb=>hb.elim (hk.2.2 b) fun hb=>(hQ b hb).1⟩,fun T S k st w1 hk=>hk.2.1.size,fun T S k st w1 hk=>⟨fun b hb=>absurd hb (hk.1.2.2 b).1,fun b hb=>absurd hb (hk.1.2.2 b).2⟩,fun T S k k' w1 us xs Q _ _ _ _ hys _=>by have h:=hys.1;simp at h,fun T S k st w1 Q hk _=>⟨hk.1,hk.2.1,fun b hb=>hk.2.2 b hb.1⟩,fun T S k k' w1 el sz es v xs _ _ hlx=>hlx.elim,rfl,rfl⟩
 have hvl:vs.length=args.length:=hargs.length
 have hrel:Rel X ⟨imm,fun _=>False,fun _=>none,w,ln0⟩ (start m args) { tmps:=vs.toArray++Array.replicate (fn.ntmps-vs.toArray.size) undef,defers:=[] }:=by
  refine⟨?_,fun d v hv=>?_,fun i=>?_,fun i j b hi=>?_,fun b hb=>⟨.inl hb,himm b hb⟩,fun b hb=>hb,fun b hb=>hb.elim,⟨⟨rfl,rfl,fun _=>⟨fun hb=>hb,fun hb=>hb⟩⟩,Below.refl _ _,fun b hb=>hb.elim⟩,⟨[],rfl,List.nodup_nil,fun D hD=>by cases hD⟩,(fun l hl=>by cases hl),fun i o hi=>(by simp[start]at hi),rfl,fun b hb=>hb.elim⟩
  ·show(vs.toArray++Array.replicate (fn.ntmps-vs.toArray.size) undef).size=N
   simp only[Array.size_append,List.size_toArray,Array.size_replicate]
   omega
  ·obtain⟨_,hd⟩:=argsTm_look hv
   simp only[Nat.sub_zero]at hd
   have hrvs:RVs ⟨imm,fun _=>False,fun _=>none,w,ln0⟩ args vs:=RV0s.rv args vs hargs
   obtain⟨x,hx,hvx⟩:=hrvs.get hd
   have hlt:=(List.getElem?_eq_some_iff.1 hx).1
   have:(vs.toArray++Array.replicate (fn.ntmps-vs.toArray.size) undef).getD d undef=x:=by
    rw[Array.getD_eq_getD_getElem?,Array.getElem?_append_left (by simpa using hlt)]
    simp[hx]
   rw[this];exact hvx
  ·have:(start m args).sg.getD i .fresh = .fresh:=by
    simp only[start,List.getD_eq_getElem?_getD,List.getElem?_replicate]
    split<;>rfl
   rw[this];rfl
  ·have:(start m args).sg.getD i .fresh = .fresh:=by
    simp only[start,List.getD_eq_getElem?_getD,List.getElem?_replicate]
    split<;>rfl
   rw[this]at hi;cases hi
 refine(callsIn_wide (n:=5)).1 (callsIn_of_wp_marks h1 h2 trivial (wpIn_mono (h X hX c 0 M h4 _ _ hrel) fun e a w1 hq=>?_))
 have fin:∀(C:Ctx) (s:St),C.w=w1->Rel X C s a->retK rs R s->LeavesInM Fence.wide 5 P fn a.tmps (fun e w'=>∃v r imm',e = .returned v/\R r/\RV0 imm' w' r v/\Below w.heap.size w w'/\(∀b,imm b->imm' b) /\
   (∀b,imm' b->imm b\/(w.heap.size<=b/\Mem w' b))) a.defers .returning w1:=fun C s hCw hr hret=>by
  subst hCw
  obtain⟨ds,hd1,hd2,hd3⟩:=hr.marks
  rw[hd1]
  refine leave_marks (B:=C.T) ds C.w hd2 hd3 fun w' hw'=>?_
  simp only[LeavesInM,LeavesIn]
  unfold retK at hret
  split at hret
  ·rename_i us hus
   obtain⟨xs,k1,k2⟩:=resL_run hr hw' fn.results.toList rs us h5 hus
   have hrun:(results fn a.tmps).run P w' = .ok (if h:xs.toArray.size=1 then xs.toArray[0] else .tuple xs.toArray) w':=by
    rw[results_eq,Array.mapM_eq_mapM_toList]
    have k1':(fn.results.toList.mapM (resF a.tmps)).run P w' = .ok xs w':=k1
    simp only[Sem.run_bind,Sem.run_map,k1',Result.andThen_ok,Sem.run_pure]
   refine⟨_,hrun,?_⟩
   have hpers:Pers (immAll C s) (immAll C s) C.w w':=fun b hb=>by
    obtain⟨o',hh,ho'⟩:=immAll_cells hr b hb
    exact⟨hb,(hw'.mem b _ hh ho').trans hh.symm⟩
   have himm':(∀b,imm b->immAll C s b)/\(∀b,immAll C s b->imm b\/(w.heap.size<=b/\Mem w' b)):=by
    refine⟨fun b hb=>.inl (hr.imm0 b hb),fun b hb=>?_⟩
    obtain⟨o',hh,ho'⟩:=immAll_cells hr b hb
    have hh':Mem w' b:=⟨_,hw'.mem b _ hh ho',ho'⟩
    rcases hb with hb|⟨i,hb⟩
    ·rcases(hr.imm b hb).1 with h6|h6
     ·exact .inl h6
     ·exact .inr ⟨hr.keep.2.2 b h6,hh'⟩
    ·exact .inr ⟨hr.keep.2.2 b (Res.blk_lt (hr.sg i) hb).1,hh'⟩
   have hb:Below w.heap.size w w':=hr.keep.2.1.trans ⟨hw'.os,hw'.tape,hw'.output,by rw[hw'.size];exact Nat.le_refl _,fun k hk=>hw'.other k (fun hT=>by have:=hr.keep.2.2 k hT;omega)⟩
   split at hret
   ·rename_i v hfz
    have k3:=mapO_ok (frz_ok hr 8) us xs _ hfz k2
    simp only[RV0s]at k3
    obtain⟨x,xs',rfl,k4,rfl⟩:=k3
    exact⟨x,v,immAll C s,by simp,hret,RV0.mono hpers _ _ k4,hb,himm'.1,himm'.2⟩
   ·rename_i vs' hne hfz
    have k3:=mapO_ok (frz_ok hr 8) us xs _ hfz k2
    have hlen:=k3.length
    have hsz:¬xs.toArray.size=1:=fun e=>by
     simp at e
     rw[e]at hlen
     match vs',hlen with
     | [v],_=>exact hne v rfl
    refine⟨.tuple xs.toArray, .tup vs',immAll C s,by rw[dif_neg hsz],hret,?_,hb,himm'.1,himm'.2⟩
    simp only[RV0]
    exact⟨xs,rfl,RV0s.mono hpers _ _ k3⟩
   ·exact hret.elim
  ·exact hret.elim
 cases e with
 |normal=>obtain⟨C,s,e1,hr,hret⟩:=hq;exact fin C s e1 hr hret
 |ret=>obtain⟨C,s,e1,hr,hret⟩:=hq;exact fin C s e1 hr hret
 |exit id=>obtain⟨C,s,e1,hr,hret⟩:=hq;exact hret.elim
 |goto l=>exact hq.elim
 |panic ch=>exact hq.elim
 |outgrown=>exact hq.elim
mutual
def AV.ren(π : Nat->Nat)(nl:Nat->Bool):AV->AV
 |.own i o=>.own (π i) o
 |.elt i sz k j=>.elt (π i) sz k j
 |.row i=>match nl i with
  |true=>.nils
  |false=>.row (π i)
 |.agg cs=>.agg (AV.renL π nl cs)
 |.tup cs=>.tup (AV.renL π nl cs)
 |.fn f cs=>.fn f (AV.renL π nl cs)
 |.bool b=>.bool b
 |.int k n=>.int k n
 |.str s=>.str s
 |.lit v=>.lit v
 |.isl es=>.isl es
 |.nils=>.nils
 |.ipt cs=>.ipt cs
 |.imp ks us=>.imp ks us
 |.tsl sz es=>.tsl sz es
 |.mth f cs=>.mth f cs
 |.any=>.any
 |.yld=>.yld
 |.gone=>.gone
def AV.renL(π : Nat->Nat)(nl:Nat->Bool):List AV->List AV
 | []=>[]
 |a::as=>AV.ren π nl a::AV.renL π nl as
end
mutual
def AV.okN(nl keep:Nat->Bool):AV->Bool
 |.own i _=>keep i && !nl i
 |.elt i _ _ _=>keep i && !nl i
 |.row i=>keep i
 |.agg cs=>AV.okNL nl keep cs
 |.tup cs=>AV.okNL nl keep cs
 |.fn _ cs=>AV.okNL nl keep cs
 |_=>true
def AV.okNL(nl keep:Nat->Bool):List AV->Bool
 | []=>true
 |a::as=>AV.okN nl keep a&&AV.okNL nl keep as
end
def keepN(nl:Nat->Bool)(sg:List Res)(i:Nat):Bool:=
 match sg.getD i .fresh with
 |.fresh=>false
 |.row _ _ _ _=>true
 |_ => !nl i
def renTm(s:St)(π : Nat->Nat)(nl keep:Nat->Bool):List (Nat × AV)->Prop
 | []=>True
 |(d,v)::r=>(look s.tm d=some (v.ren π nl)/\v.okN nl keep=true)/\renTm s π nl keep r
def renR(s:St)(π : Nat->Nat)(nl keep:Nat->Bool)(i:Nat)(new:Res):Prop:=
 match new with
 |.fresh=>True
 |.dead=>nl i=false/\(s.sg.getD (π i) .fresh = .fresh->False)
 |.box ice cs=>nl i=false/\s.sg.getD (π i) .fresh = .box ice (AV.renL π nl cs)/\AV.okNL nl keep cs=true/\(ice=true->AV.puL cs=true)
 |.row ice el sz es=>match nl i with
  |true=>ice=false/\es=[]
  |false=>s.sg.getD (π i) .fresh = .row ice el sz es
 |.mp ice ks us=>nl i=false/\s.sg.getD (π i) .fresh = .mp ice ks us
 |.mpo ks us=>nl i=false/\s.sg.getD (π i) .fresh = .mpo ks (AV.renL π nl us)/\AV.okNL nl keep us=true
 |.itr ks us seen last=>nl i=false/\s.sg.getD (π i) .fresh = .itr ks us seen last
def renSg(s:St)(π : Nat->Nat)(nl keep:Nat->Bool):Nat->List Res->Prop
 |_,[]=>True
 |i,r::rs=>renR s π nl keep i r/\renSg s π nl keep (i+1) rs
def isGone:Res->Bool
 |.fresh=>true
 |.dead=>true
 |_=>false
def injB(π : Nat->Nat)(nl:Nat->Bool)(sg:List Res)(n:Nat):Bool:=
 (List.range n).all fun i=>isGone (sg.getD i .fresh)||(List.range n).all fun j=>isGone (sg.getD j .fresh)||nl i||nl j||i==j || π i != π j
def pinB(s s':St)(π : Nat->Nat)(nl:Nat->Bool):List Nat->Bool
 | []=>true
 |n::l=>match isFresh (s.sg.getD n .fresh)with
  |true=>pinB s s' π nl l
  |false=>match nl n,decide (π n=n),isFresh (s'.sg.getD n .fresh)with
   |false,true,false=>pinB s s' π nl l
   |_,_,_=>false
theorem pinB_get{s s':St}{π : Nat->Nat}{nl:Nat->Bool}:∀ {l:List Nat} {i:Nat},pinB s s' π nl l=true->i∈l->isFresh (s.sg.getD i .fresh)=true\/(nl i=false /\ π i=i/\isFresh (s'.sg.getD i .fresh)=false)
 | [],i,_,hi=>by cases hi
 |n::l,i,h,hi=>by
  simp only[pinB]at h
  split at h
  ·rename_i h1
   rcases List.mem_cons.1 hi with rfl|hi
   ·exact .inl h1
   ·exact pinB_get h hi
  ·split at h
   ·rename_i h1 h2 h3
    rcases List.mem_cons.1 hi with rfl|hi
    ·exact .inr ⟨h1,of_decide_eq_true h2,h3⟩
    ·exact pinB_get h hi
   ·cases h
def Meets(π : Nat->Nat)(nl:Nat->Bool)(s s':St):Prop:=
 renTm s π nl (keepN nl s'.sg) s'.tm/\renSg s π nl (keepN nl s'.sg) 0 s'.sg/\injB π nl s'.sg s'.sg.length=true/\s.gh=s'.gh/\pinB s s' π nl s.gh.p=true
theorem renTm_look{s:St}{π : Nat->Nat}{nl keep:Nat->Bool}:∀ {tm:List (Nat × AV)},renTm s π nl keep tm->∀ {d v},look tm d=some v->look s.tm d=some (v.ren π nl)/\v.okN nl keep=true
 | [],_,d,v,hl=>by simp[look]at hl
 |(i,u)::tm,h,d,v,hl=>by
  simp only[look]at hl
  split at hl
  ·rename_i e;subst e;cases hl;exact h.1
  ·exact renTm_look h.2 hl
theorem renSg_get{s:St}{π : Nat->Nat}{nl keep:Nat->Bool}:∀ {l:List Res} {k:Nat},renSg s π nl keep k l->∀i,renR s π nl keep (k+i) (l.getD i .fresh)
 | [],k,_,i=>by simp[renR]
 |r::l,k,h,0=>by simpa using h.1
 |r::l,k,h,i+1=>by
  have:=renSg_get h.2 i
  rw[show k+1+i=k+(i+1) from by omega]at this
  simpa using this
mutual
theorem RV.ren{C C':Ctx}{π : Nat->Nat}{nl keep:Nat->Bool}(hp:Pers C.imm C'.imm C.w C'.w)(hl:C'.l=C.l)(hr:∀i,keep i=true->C'.rho i=if nl i then some ⟨0, .slice none 0 0⟩ else C.rho (π i)) :
  ∀(a:AV) (v:Value),a.okN nl keep=true->RV C (a.ren π nl) v->RV C' a v
 |.bool _,_,_,h=>by simpa[RV,AV.ren]using h
 |.int _ _,_,_,h=>by simpa[RV,AV.ren]using h
 |.str _,_,_,h=>by simpa[RV,AV.ren]using h
 |.lit _,_,_,h=>by simpa[RV,AV.ren]using h
 |.isl es,v,_,h=>by simp only[RV,AV.ren]at h⊢;exact RV0.mono hp _ _ h
 |.nils,_,_,h=>by simpa[RV,AV.ren]using h
 |.ipt cs,v,_,h=>by simp only[RV,AV.ren]at h⊢;exact RV0.mono hp _ _ h
 |.imp _ _,v,_,h=>by simp only[RV,AV.ren]at h⊢;exact RV0.mono hp _ _ h
 |.tsl _ _,v,_,h=>by simp only[RV,AV.ren]at h⊢;exact RV0.mono hp _ _ h
 |.mth _ _,v,_,h=>by simp only[RV,AV.ren]at h⊢;exact RV0.mono hp _ _ h
 |.any,v,_,h=>by simpa only[RV,AV.ren]using h
 |.own i o,v,hk,h=>by
  simp only[RV,AV.ren,AV.okN]at h hk⊢
  obtain⟨ow,ho,e⟩:=h
  simp only[Bool.and_eq_true,Bool.not_eq_true']at hk
  exact⟨ow,by rw[hr i hk.1,hk.2];simpa using ho,e⟩
 |.elt i sz k j,v,hk,h=>by
  simp only[RV,AV.ren,AV.okN]at h hk⊢
  obtain⟨ow,ho,e⟩:=h
  simp only[Bool.and_eq_true,Bool.not_eq_true']at hk
  exact⟨ow,by rw[hr i hk.1,hk.2];simpa using ho,e⟩
 |.row i,v,hk,h=>by
  simp only[AV.ren,AV.okN]at h hk
  simp only[RV]
  cases hh:nl i with
  |false=>rw[hh]at h;simp only[RV]at h;obtain⟨ow,ho,e⟩:=h;exact⟨ow,by rw[hr i hk,hh];simpa using ho,e⟩
  |true=>rw[hh]at h;simp only[RV]at h;exact⟨⟨0, .slice none 0 0⟩,by rw[hr i hk,hh];rfl,h⟩
 |.agg cs,v,hk,h=>by
  simp only[RV,AV.ren,AV.okN]at h hk⊢;obtain⟨vs,e,h⟩:=h
  exact⟨vs,e,RVs.ren hp hl hr cs vs hk h⟩
 |.tup cs,v,hk,h=>by
  simp only[RV,AV.ren,AV.okN]at h hk⊢;obtain⟨vs,e,h⟩:=h
  exact⟨vs,e,RVs.ren hp hl hr cs vs hk h⟩
 |.fn f cs,v,hk,h=>by
  simp only[RV,AV.ren,AV.okN]at h hk⊢;obtain⟨vs,e,h⟩:=h
  exact⟨vs,e,RVs.ren hp hl hr cs vs hk h⟩
 |.yld,_,_,h=>by simp only[RV,AV.ren]at h⊢;rw[h,hl]
 |.gone,_,_,_=>by simp[RV]
theorem RVs.ren{C C':Ctx}{π : Nat->Nat}{nl keep:Nat->Bool}(hp:Pers C.imm C'.imm C.w C'.w)(hl:C'.l=C.l)(hr:∀i,keep i=true->C'.rho i=if nl i then some ⟨0, .slice none 0 0⟩ else C.rho (π i)) :
  ∀(as:List AV) (vs:List Value),AV.okNL nl keep as=true->RVs C (AV.renL π nl as) vs->RVs C' as vs
 | [],vs,_,h=>by simpa[RVs,AV.renL]using h
 |a::as,vs,hk,h=>by
  simp only[RVs,AV.renL,AV.okNL,Bool.and_eq_true]at h hk⊢
  obtain⟨v,vs',e,h1,h2⟩:=h
  exact⟨v,vs',e,RV.ren hp hl hr a v hk.1 h1,RVs.ren hp hl hr as vs' hk.2 h2⟩
end
mutual
theorem RV0.unren{imm:Nat->Prop}{w:World}{π : Nat->Nat}{nl:Nat->Bool}:∀(a:AV) (v:Value),RV0 imm w (a.ren π nl) v->a.pu=true->RV0 imm w a v
 |.bool _,_,h,_=>by simpa only[AV.ren]using h
 |.int _ _,_,h,_=>by simpa only[AV.ren]using h
 |.str _,_,h,_=>by simpa only[AV.ren]using h
 |.lit _,_,h,_=>by simpa only[AV.ren]using h
 |.isl _,_,h,_=>by simpa only[AV.ren]using h
 |.nils,_,h,_=>by simpa only[AV.ren]using h
 |.ipt _,_,h,_=>by simpa only[AV.ren]using h
 |.imp _ _,_,h,_=>by simpa only[AV.ren]using h
 |.tsl _ _,_,h,_=>by simpa only[AV.ren]using h
 |.mth _ _,_,h,_=>by simpa only[AV.ren]using h
 |.any,_,h,_=>by simpa only[AV.ren]using h
 |.agg cs,v,h,hp=>by
  simp only[RV0,AV.ren,AV.pu]at h hp⊢;obtain⟨vs,e,h⟩:=h;exact⟨vs,e,RV0s.unren cs vs h hp⟩
 |.tup cs,v,h,hp=>by
  simp only[RV0,AV.ren,AV.pu]at h hp⊢;obtain⟨vs,e,h⟩:=h;exact⟨vs,e,RV0s.unren cs vs h hp⟩
 |.fn f cs,v,h,hp=>by
  simp only[RV0,AV.ren,AV.pu]at h hp⊢;obtain⟨vs,e,h⟩:=h;exact⟨vs,e,RV0s.unren cs vs h hp⟩
 |.own _ _,_,_,hp=>by cases hp
 |.elt _ _ _ _,_,_,hp=>by cases hp
 |.row _,_,_,hp=>by cases hp
 |.yld,_,_,hp=>by cases hp
 |.gone,_,_,hp=>by cases hp
theorem RV0s.unren{imm:Nat->Prop}{w:World}{π : Nat->Nat}{nl:Nat->Bool}:∀(as:List AV) (vs:List Value),RV0s imm w (AV.renL π nl as) vs->AV.puL as=true->RV0s imm w as vs
 | [],vs,h,_=>by simpa[RV0s,AV.renL]using h
 |a::as,vs,h,hp=>by
  simp only[RV0s,AV.renL,AV.puL,Bool.and_eq_true]at h hp⊢
  obtain⟨v,vs',e,h1,h2⟩:=h
  exact⟨v,vs',e,RV0.unren a v h1 hp.1,RV0s.unren as vs' h2 hp.2⟩
end
theorem Rel.meets{X:Sess}{C:Ctx}{s s':St}{a:Act}{π : Nat->Nat}{nl:Nat->Bool}(h:Rel X C s a)(hw:Meets π nl s s'):∃rho',Rel X ⟨C.imm,C.T,rho',C.w,C.l⟩ s' a:=by
 obtain⟨h1,h2,h3,h4,h5⟩:=hw
 have hget:∀i,renR s π nl (keepN nl s'.sg) i (s'.sg.getD i .fresh):=fun i=>by simpa using renSg_get h2 i
 let rho':Nat->Option Own:=fun i=>if keepN nl s'.sg i then(if nl i then some ⟨0, .slice none 0 0⟩ else C.rho (π i)) else none
 have hp:Pers C.imm C.imm C.w C.w:=fun b hb=>⟨hb,rfl⟩
 have hr:∀i,keepN nl s'.sg i=true->rho' i=if nl i then some ⟨0, .slice none 0 0⟩ else C.rho (π i):=fun i hi=>by simp[rho',hi]
 have hblk:∀i b,(s'.sg.getD i .fresh).blk (rho' i)=some b->nl i=false/\(s.sg.getD (π i) .fresh).blk (C.rho (π i))=some b/\i<s'.sg.length/\isGone (s'.sg.getD i .fresh)=false:=fun i b hb=>by
  have hg:=hget i
  have hlt:i<s'.sg.length:=getD_lt (by intro e;rw[e]at hb;cases hb)
  cases hs:s'.sg.getD i .fresh with
  |fresh=>rw[hs]at hb;cases hb
  |dead=>rw[hs]at hb;cases hb
  |box ice cs=>
   rw[hs]at hb hg
   obtain⟨g1,g2,g3,_⟩:=hg
   have hk:keepN nl s'.sg i=true:=by simp only[keepN,hs,g1];rfl
   rw[hr i hk,g1]at hb
   exact⟨g1,by rw[g2];simpa[Res.blk]using hb,hlt,rfl⟩
  |row ice el sz es=>
   rw[hs]at hb hg
   have hk:keepN nl s'.sg i=true:=by simp only[keepN,hs]
   rw[hr i hk]at hb
   cases hn:nl i with
   |true=>rw[hn]at hb;simp[Res.blk,Value.ownBlock]at hb
   |false=>
    rw[hn]at hb
    simp only[renR,hn]at hg
    exact⟨rfl,by rw[hg];simpa using hb,hlt,rfl⟩
  |mp ice ks us=>
   rw[hs]at hb hg
   obtain⟨g1,g2⟩:=hg
   have hk:keepN nl s'.sg i=true:=by simp only[keepN,hs,g1];rfl
   rw[hr i hk,g1]at hb
   exact⟨g1,by rw[g2];simpa[Res.blk]using hb,hlt,rfl⟩
  |mpo ks us=>
   rw[hs]at hb hg
   obtain⟨g1,g2,_⟩:=hg
   have hk:keepN nl s'.sg i=true:=by simp only[keepN,hs,g1];rfl
   rw[hr i hk,g1]at hb
   exact⟨g1,by rw[g2];simpa[Res.blk]using hb,hlt,rfl⟩
  |itr ks us seen last=>
   rw[hs]at hb hg
   obtain⟨g1,g2⟩:=hg
   have hk:keepN nl s'.sg i=true:=by simp only[keepN,hs,g1];rfl
   rw[hr i hk,g1]at hb
   exact⟨g1,by rw[g2];simpa[Res.blk]using hb,hlt,rfl⟩
 refine⟨rho',h.size,fun d v hv=>?_,fun i=>?_,fun i j b hi hj=>?_,h.imm,h.imm0,h.T,h4 ▸ h.keep,h.marks,h.round,⟨fun i o hi ho=>?_,h.pin.2⟩⟩
 ·obtain⟨g1,g2⟩:=renTm_look h1 hv
  exact RV.ren (C':=⟨C.imm,C.T,rho',C.w,C.l⟩) hp rfl hr v _ g2 (h.tm d _ g1)
 ·have hg:=hget i
  show ResOk _ _ (rho' i)
  cases hs:s'.sg.getD i .fresh with
  |fresh=>
   have hk:keepN nl s'.sg i=false:=by simp only[keepN,hs]
   simp[ResOk,rho',hk]
  |dead=>
   rw[hs]at hg
   have hk:keepN nl s'.sg i=true:=by simp only[keepN,hs,hg.1];rfl
   have hso:=h.sg (π i)
   rw[hr i hk,hg.1]
   intro x hx
   simp only[Bool.false_eq_true,if_false]at hx
   cases ho:s.sg.getD (π i) .fresh with
   |fresh=>exact absurd ho hg.2
   |dead=>rw[ho]at hso;exact hso x hx
   |box ice cs=>rw[ho,hx]at hso;obtain⟨b,_,_,e,_⟩:=hso;cases e;rfl
   |row ice el sz es=>
    rw[ho,hx]at hso;obtain⟨b,v,xs,e,h4,_⟩:=hso;cases e
    rcases h4.2 with⟨e,_⟩|⟨g,cap,cur,e,_⟩<;>(show v.oneCell'=true;rw[e];rfl)
   |mp ice ks us=>rw[ho,hx]at hso;obtain⟨b,_,e,_⟩:=hso;cases e;rfl
   |mpo ks us=>rw[ho,hx]at hso;obtain⟨b,_,e,_⟩:=hso;cases e;rfl
   |itr ks us seen last=>rw[ho,hx]at hso;obtain⟨b,_,e,_⟩:=hso;cases e;rfl
  |box ice cs=>
   rw[hs]at hg
   obtain⟨g1,g2,g3,g4⟩:=hg
   have hk:keepN nl s'.sg i=true:=by simp only[keepN,hs,g1];rfl
   have hso:=h.sg (π i)
   rw[g2]at hso
   rw[hr i hk,g1]
   obtain⟨b,vs,el,k1,k2,k3,k4,k5,k6⟩:=hso
   refine⟨b,vs,el,by simpa using k1,k2,k3,RVs.ren (C':=⟨C.imm,C.T,rho',C.w,C.l⟩) hp rfl hr cs vs g3 k4,fun e=>⟨(k5 e).1,?_⟩,k6⟩
   -- cells of a box that is left alone hold no names
   have:=(k5 e).2
   exact RV0s.unren cs vs this (g4 e)
  |row ice el sz es=>
   rw[hs]at hg
   have hk:keepN nl s'.sg i=true:=by simp only[keepN,hs]
   rw[hr i hk]
   cases hn:nl i with
   |true=>
    simp only[renR,hn]at hg
    obtain⟨rfl,rfl⟩:=hg
    exact⟨0, .slice none 0 0,[],rfl,World.ownsRow_nil _ _ _ _,by simp[RV0s],by simp,fun b' e=>by cases e⟩
   |false=>
    simp only[renR,hn]at hg
    have hso:=h.sg (π i)
    rw[hg]at hso
    simp only[Bool.false_eq_true,if_false]
    exact hso
  |mp ice ks us=>
   rw[hs]at hg
   obtain⟨g1,g2⟩:=hg
   have hk:keepN nl s'.sg i=true:=by simp only[keepN,hs,g1];rfl
   have hso:=h.sg (π i)
   rw[g2]at hso
   rw[hr i hk,g1]
   simp only[Bool.false_eq_true,if_false]
   exact hso
  |mpo ks us=>
   rw[hs]at hg
   obtain⟨g1,g2,g3⟩:=hg
   have hk:keepN nl s'.sg i=true:=by simp only[keepN,hs,g1];rfl
   have hso:=h.sg (π i)
   rw[g2]at hso
   rw[hr i hk,g1]
   obtain⟨b,es,k1,k2,k3,k4,k5,k6,k7⟩:=hso
   exact⟨b,es,by simpa using k1,k2,k3,k4,k5,RVs.ren (C':=⟨C.imm,C.T,rho',C.w,C.l⟩) hp rfl hr us _ g3 k6,k7⟩
  |itr ks us seen last=>
   rw[hs]at hg
   obtain⟨g1,g2⟩:=hg
   have hk:keepN nl s'.sg i=true:=by simp only[keepN,hs,g1];rfl
   have hso:=h.sg (π i)
   rw[g2]at hso
   rw[hr i hk,g1]
   simp only[Bool.false_eq_true,if_false]
   exact hso
 ·obtain⟨n1,b1,l1,q1⟩:=hblk i b hi
  obtain⟨n2,b2,l2,q2⟩:=hblk j b hj
  have e:=h.dis _ _ b b1 b2
  simp only[injB,List.all_eq_true,List.mem_range,Bool.or_eq_true]at h3
  rcases h3 i l1 with h3|h3
  ·rw[q1]at h3;cases h3
  ·have:=h3 j l2
   rw[q2,n1,n2,e]at this;simpa using this
 ·rw[<- h4]at hi
  have hrho:=h.pin.1 i o hi ho
  have hnf:isFresh (s.sg.getD i .fresh)=false:=by
   cases hh:isFresh (s.sg.getD i .fresh)with
   |false=>rfl
   |true=>rw[h.unbound (isFresh_ok hh)]at hrho;cases hrho
  rcases pinB_get h5 hi with q|⟨q1,q2,q3⟩
  ·rw[hnf]at q;cases q
  ·show rho' i=some o
   have hk:keepN nl s'.sg i=true:=by
    unfold keepN
    cases hs:s'.sg.getD i .fresh with
    |fresh=>rw[hs]at q3;cases q3
    |_=>simp[q1]
   rw[hr i hk,q1,q2]
   simpa using hrho
theorem go_meets{E:Env}{c:CI}{T:Ex->St->Prop}{s s':St}{π : Nat->Nat}{nl:Nat->Bool}(hw:Meets π nl s s')(h:GoC E c T s'):GoC E c T s:=fun X hX code nm nm' hc C a hr=>by
 obtain⟨rho',hr'⟩:=hr.meets hw
 exact h X hX code nm nm' hc ⟨C.imm,C.T,rho',C.w,C.l⟩ a hr'
def MeetsE(s s':St):Prop:=∃ π nl,Meets π nl s s'
theorem meets_id{s s':St}(h:Meets (fun i=>i) (fun _=>false) s s'):MeetsE s s':=⟨_,_,h⟩
theorem meets_ren(i j:Nat){s s':St}(h:Meets (fun k=>match decide (k=i)with|true=>j|false=>k) (fun _=>false) s s'):MeetsE s s':=⟨_,_,h⟩
theorem meets_nil(i:Nat){s s':St}(h:Meets (fun k=>k) (fun k=>decide (k=i)) s s'):MeetsE s s':=⟨_,_,h⟩
def asN:List (Nat × Option Nat)->Nat->Nat
 | [],k=>k
 |(i,some j)::l,k=>match decide (k=i)with|true=>j|false=>asN l k
 |(_,none)::l,k=>asN l k
def asB:List (Nat × Option Nat)->Nat->Bool
 | [],_=>false
 |(_,some _)::l,k=>asB l k
 |(i,none)::l,k=>match decide (k=i)with|true=>true|false=>asB l k
theorem meets_as(l:List (Nat × Option Nat)){s s':St}(h:Meets (asN l) (asB l) s s'):MeetsE s s':=⟨_,_,h⟩
theorem go_loop_m{E:Env}{T:Ex->St->Prop}{s:St}{b:CI}{α : Type}(st : α -> St)(inv : α -> Prop)(μ : α -> Nat)(x0 : α)(h0:inv x0)(hw:MeetsE s (st x0))
  (hr:∀x,inv x->GoC E b (rndT T fun s'=>∃y,MeetsE s' (st y)/\inv y /\ μ y < μ x) (st x)):GoC E (.loop b) T s:=by
 refine go_loop (fun n s=>∃y,MeetsE s (st y)/\inv y /\ μ y=n) (μ x0) ⟨x0,hw,h0,rfl⟩ fun n s hJ=>?_
 obtain⟨y,⟨π,nl,hy1⟩,hy2,rfl⟩:=hJ
 refine go_meets hy1 ((hr y hy2).mono fun e s'=>?_)
 cases e with
 |normal=>rintro⟨z,h1,h2,h3⟩;exact⟨μ z,h3,z,h1,h2,rfl⟩
 |_=>exact id
theorem Reach.mono{lo lo':Nat}{S S':Nat->Prop}{w w':World}(h:Reach lo S w w')(h1:lo'<=lo)(h2:∀b,S' b->S b):Reach lo' S' w w':=
 ⟨h.os,h.tape,h.output,h.size,fun b hb hs=>h.same b hb (hs.imp (fun e=>Nat.lt_of_lt_of_le e h1) (h2 b))⟩
theorem Reach.mono'{lo lo':Nat}{S S':Nat->Prop}{w w':World}(h:Reach lo S w w')(h1:lo'<=lo)(h2:∀b,S' b->S b\/b<lo):Reach lo' S' w w':=
 ⟨h.os,h.tape,h.output,h.size,fun b hb hs=>h.same b hb (hs.elim (fun e=>.inl (Nat.lt_of_lt_of_le e h1)) fun e=>(h2 b e).symm)⟩
theorem Reach.of_below{lo:Nat}{S:Nat->Prop}{w w':World}(h:Below w.heap.size w w'):Reach lo S w w':=
 ⟨h.os,h.tape,h.output,h.size,fun b hb _=>h.block b hb⟩
theorem Reach.of_one{lo b:Nat}{S:Nat->Prop}{w w':World}(h:OneB b w w')(h1:lo<=b)(h2:¬S b):Reach lo S w w':=
 ⟨h.os,h.tape,h.output,by rw[h.size];exact Nat.le_refl _,fun k hk hs=>h.other k fun e=>hs.elim (fun hs=>by omega) (fun hs=>h2 (e ▸ hs))⟩
theorem size_putObj(w:World)(b:Nat)(o:Obj):(w.putObj b o).heap.size=w.heap.size:=by simp[World.putObj]
theorem Reach.of_obj{lo b:Nat}{S:Nat->Prop}{w:World}{o:Obj}(h1:lo<=b)(h2:¬S b):Reach lo S w (w.putObj b o):=
 ⟨rfl,rfl,rfl,by rw[size_putObj];exact Nat.le_refl _,fun k hk hs=>World.putObj_heap_other fun e=>hs.elim (fun hs=>by omega) (fun hs=>h2 (e ▸ hs))⟩
theorem Rel.move{X Y:Sess}{C:Ctx}{tm tm':List (Nat × AV)}{sg:List Res}{gh gh':Gh}{a a':Act}(h:Rel X C ⟨tm,sg,gh⟩ a)(w':World)
  (hsame:∀b,Mem C.w b->(C.T b\/C.imm b)->w'.heap[b]?=C.w.heap[b]?) (hsz:C.w.heap.size<=w'.heap.size)
  (hN:a'.tmps.size=Y.N) (htm:∀d v,look tm' d=some v->RV ⟨C.imm,C.T,C.rho,w',C.l⟩ v (a'.tmps.getD d undef)) (himm:∀b,C.imm b->Y.imm0 b\/C.T b) (himm0:∀b,Y.imm0 b->C.imm b)
  (hK:Y.Keep C.T C.l.S gh'.k gh'.st w') (hmarks:∃ds:List Nat,a'.defers=ds.map (fun D=>{ target:=.collected D,args := #[] })/\ds.Nodup/\∀D∈ds,C.T D/\w'.heap[D]?=some (.deferred (some [])))
  (hround:∀l,Y.F.round=some l->C.T l/\∃r,w'.heap[l]?=some (.loop r)) (hpin:(∀i o,i∈gh'.p->Y.pin i=some o->C.rho i=some o)/\C.l.l=Y.l/\∀b,C.l.S.h b->C.imm b) :
  Rel Y ⟨C.imm,C.T,C.rho,w',C.l⟩ ⟨tm',sg,gh'⟩ a':=by
 have hp:Pers C.imm C.imm C.w w':=fun b hb=>⟨hb,hsame b (h.imm b hb).2 (.inr hb)⟩
 have hl:Later (fun _=>true) C ⟨C.imm,C.T,C.rho,w',C.l⟩:=⟨hp,fun _ _=>rfl,rfl⟩
 refine⟨hN,htm,fun j=>?_,h.dis,fun b hb=>?_,himm0,fun b hb=>Nat.lt_of_lt_of_le (h.T b hb) hsz,hK,hmarks,hround,hpin⟩
 ·refine ResOk.later hl (fun _ hb'=>hb') (h.sg j) (AV.refsInL_all (fun _=>rfl) _) fun b' hb'=>?_
  obtain⟨h1,h2,h3⟩:=Res.blk_lt (h.sg j) hb'
  exact⟨hsame b' h3 (.inl h1),id⟩
 ·exact⟨himm b hb,(h.imm b hb).2.same (hsame b (h.imm b hb).2 (.inr hb))⟩
theorem Rel.later_tm{X:Sess}{C:Ctx}{s:St}{a:Act}(h:Rel X C s a){w':World}(hsame:∀b,Mem C.w b->(C.T b\/C.imm b)->w'.heap[b]?=C.w.heap[b]?) :
  ∀d v,look s.tm d=some v->RV ⟨C.imm,C.T,C.rho,w',C.l⟩ v (a.tmps.getD d undef):=fun d v hv=>
 RV.later (keep:=fun _=>true) (C:=C) (C':=⟨C.imm,C.T,C.rho,w',C.l⟩) ⟨fun b hb=>⟨hb,hsame b (h.imm b hb).2 (.inr hb)⟩,fun _ _=>rfl,rfl⟩ v _ (AV.refsIn_all (fun _=>rfl) v) (h.tm d v hv)
def ItG(P:Program)(f:FuncId)(cap:List AV)(nx:Nat->List AV->Nat->Prop)(fin:Nat->Prop):Prop:=
 ∀(imm:Nat->Prop) (w:World) (vs:List Value) (l:Nat) (J:Nat->Bool->Wt->World->Prop) (S0:Wt),
  (∀b,imm b->Mem w b)->RV0s imm w cap vs->(∀b,S0.h b->imm b) ->
  (∀k st S w1,J k st S w1->∀b,S.s b\/S.h b->b<w1.heap.size) ->
  (∀k st S w1 w2,J k st S w1->Reach w.heap.size (fun b=>S.s b\/S.h b) w1 w2->J k st S w2) ->
  (∀k k' S w1 y xs (Q:Nat->Prop),J k false S w1->(∀b,S.h b->Q b)->(∀b,Q b->(imm b\/(w.heap.size<=b/\¬S.s b))/\Mem w1 b)->nx k y k'->RV0s Q w1 y xs ->
   YieldAt Fence.wide 4 P l xs.toArray w1 fun e w2=>∃b S',e = .returned (.bool b)/\J k' (!b) S' w2/\StepR imm Q S S' w1 w2) ->
  J 0 false S0 w ->
  Calls P f (#[.func (.yield l) #[] #[]]++vs.toArray) w fun e w'=>∃v k st S',e = .returned v/\J k st S' w'/\(st=false->fin k)
def lsNx(ys:List (List AV))(k:Nat)(v:List AV)(k':Nat):Prop:=ys[k]?=some v/\k'=k+1
def ItA(P:Program)(f:FuncId)(cap:List AV)(ys:List (List AV)):Prop:=ItG P f cap (lsNx ys) (· = ys.length)
def finG(fin:Nat->Prop):Ex->St->Prop
 |.exit _,_=>False
 |_,s=>s.gh.st=true\/fin s.gh.k
def finI(ys:List (List AV)):Ex->St->Prop
 |.exit _,_=>False
 |_,s=>s.gh.st=true\/s.gh.k=ys.length
theorem itG_of_go{P:Program}{f:FuncId}{N M:Nat}{ci:CI}(hok:FnOk P f N M ci [])(m:Nat){cap:List AV}{zs:List (List AV)}{nx:Nat->List AV->Nat->Prop}{fin:Nat->Prop}(hN:cap.length+1<=N)(h:GoC { P:=P,N:=N,ys:=zs,nx:=nx } ci (finG fin) (start m (.yld::cap))):ItG P f cap nx fin:=by
 obtain⟨fn,c,h1,h2,h3,h4,h5⟩:=hok.ok
 intro imm w vs l J S0 himm hargs hS0 hJS hJR hJY hJ0
 let X:Sess:={ P:=P,F:=Fence.wide,n:=5,N:=N,imm0:=imm,lo:=w.heap.size,pin:=fun _=>none,l:=l,Keep:=fun T S k st w'=>J k st S w'/\(∀b,S.s b->¬T b)/\(∀b,T b->w.heap.size<=b)/\w.heap.size<=w'.heap.size }
 have hX:SessOk X { P:=P,N:=N,ys:=zs,nx:=nx }:=⟨fun f=>trivial, .inl rfl,
  fun T S k st w1 w2 hk hg=>⟨hJR _ _ _ _ _ hk.1 (.of_below hg),fun b hb hT=>by
   rcases hT with hT|hT
   ·exact hk.2.1 b hb hT
   ·have:=hJS _ _ _ _ hk.1 b (.inl hb);omega,fun b hb=>hb.elim (hk.2.2.1 b) fun hb=>Nat.le_trans hk.2.2.2 hb.1,Nat.le_trans hk.2.2.2 hg.size⟩,
  fun T S k st w1 w2 b hk hT _ hh hg=>⟨hJR _ _ _ _ _ hk.1 (.of_one hg (hk.2.2.1 b hT) fun hs=>hs.elim (fun hs=>hk.2.1 b hs hT) hh),hk.2.1,hk.2.2.1,by rw[hg.size];exact hk.2.2.2⟩,
  fun T S k st w1 b r r' hk hT hlo hh _=>⟨hJR _ _ _ _ _ hk.1 (.of_obj hlo fun hs=>hs.elim (fun hs=>hk.2.1 b hs hT) hh),hk.2.1,hk.2.2.1,by rw[size_putObj];exact hk.2.2.2⟩,
  fun T S k st w1 w2 hk _ hr=>⟨hJR _ _ _ _ _ hk.1 (hr.mono (Nat.le_refl _) fun b hb=>.inr hb),hk.2.1,hk.2.2.1,Nat.le_trans hk.2.2.2 hr.size⟩,
  fun T S k st w1 Q hk hQ=>⟨hk.1,fun b hb hT=>hT.elim (hk.2.1 b hb) fun hq=>(hQ b hq).2.2 hb,fun b hb=>hb.elim (hk.2.2.1 b) fun hb=>(hQ b hb).1,hk.2.2.2⟩,
  fun T S k st w1 hk=>hk.2.2.2,fun T S k st w1 hk=>⟨fun b hb=>⟨hJS _ _ _ _ hk.1 b (.inl hb),hk.2.1 b hb⟩,fun b hb=>hJS _ _ _ _ hk.1 b (.inr hb)⟩,
  fun T S k k' w1 us xs Q hk hT hSQ hQ hys hxs=>by
   obtain⟨fn,tmps,as,bd,q1,q2⟩:=hJY k k' S w1 us xs Q hk.1 hSQ (fun b hb=>⟨(hQ b hb).1.imp id fun h=>⟨hk.2.2.1 b h,fun hs=>hk.2.1 b hs h⟩,(hQ b hb).2⟩) hys hxs
   refine⟨fn,tmps,as,bd,q1,q2.mono fun e w2 hr=>?_⟩
   obtain⟨b,S',e1,e2,e3⟩:=hr
   refine⟨b,S',e1,⟨e2,fun b' hb' hTb=>?_,hk.2.2.1,Nat.le_trans hk.2.2.2 e3.size⟩,⟨e3.os,e3.tape,e3.output,e3.size,fun b' hb' hs=>e3.same b' hb' ?_,e3.sub,e3.new,e3.hsub,e3.hnew⟩⟩
   ·rcases e3.new b' hb' with q|q
    ·exact hk.2.1 b' q hTb
    ·have:=hT b' hTb;omega
   ·rcases hs with(hs|hs)|hs
    ·exact .inl hs
    ·exact .inr fun q=>hk.2.1 b' q hs
    ·exact .inr hs,fun T S k st w1 Q hk _=>⟨hk.1,fun b hb hT=>hk.2.1 b hb hT.1,fun b hb=>hk.2.2.1 b hb.1,hk.2.2.2⟩,fun T S k k' w1 el sz es v xs _ _ hlx=>hlx.elim,rfl,rfl⟩
 have hvl:vs.length=cap.length:=hargs.length
 let tm0:Array Value:=(#[.func (.yield l) #[] #[]]++vs.toArray)++Array.replicate (fn.ntmps-(#[Value.func (.yield l) #[] #[]]++vs.toArray).size) undef
 have hfr:∀i,(start m (.yld::cap)).sg.getD i .fresh = .fresh:=fun i=>by
  simp only[start,List.getD_eq_getElem?_getD,List.getElem?_replicate]
  split<;>rfl
 have hrel:Rel X ⟨imm,fun _=>False,fun _=>none,w,⟨l,S0⟩⟩ (start m (.yld::cap)) { tmps:=tm0,defers:=[] }:=by
  refine⟨?_,fun d v hv=>?_,fun i=>?_,fun i j b hi=>?_,fun b hb=>⟨.inl hb,himm b hb⟩,fun b hb=>hb,fun b hb=>hb.elim,⟨hJ0,fun b _ hb=>hb,fun b hb=>hb.elim,Nat.le_refl _⟩,⟨[],rfl,List.nodup_nil,fun D hD=>by cases hD⟩,(fun l hl=>by cases hl),fun i o hi=>(by simp[start]at hi),rfl,hS0⟩
  ·show tm0.size=N
   simp only[tm0,Array.size_append,List.size_toArray,Array.size_replicate,List.length_cons,List.length_nil]
   omega
  ·obtain⟨_,hd⟩:=argsTm_look hv
   simp only[Nat.sub_zero]at hd
   have hrvs:RVs ⟨imm,fun _=>False,fun _=>none,w,⟨l,S0⟩⟩ (.yld::cap) (.func (.yield l) #[] #[]::vs):=by
    simp only[RVs]
    exact⟨_,_,rfl,by simp only[RV],RV0s.rv cap vs hargs⟩
   obtain⟨x,hx,hvx⟩:=hrvs.get hd
   have hlt:=(List.getElem?_eq_some_iff.1 hx).1
   have e0:(#[Value.func (.yield l) #[] #[]]++vs.toArray)=(Value.func (.yield l) #[] #[]::vs).toArray:=by simp
   have:tm0.getD d undef=x:=by
    simp only[tm0,e0]
    rw[Array.getD_eq_getD_getElem?,Array.getElem?_append_left (by simpa using hlt)]
    simp only[List.getElem?_toArray,hx,Option.getD_some]
   show RV _ v (tm0.getD d undef)
   rw[this];exact hvx
  ·rw[hfr];rfl
  ·rw[hfr]at hi;cases hi
 refine(callsIn_wide (n:=5)).1 (callsIn_of_wp_marks h1 h2 trivial (wpIn_mono (h X hX c 0 M h4 _ _ hrel) fun e a w1 hq=>?_))
 have finish:∀(C:Ctx) (s:St),C.w=w1->Rel X C s a->(s.gh.st=true\/fin s.gh.k)->LeavesInM Fence.wide 5 P fn a.tmps (fun e w'=>∃v k st S',e = .returned v/\J k st S' w'/\(st=false->fin k)) a.defers .returning w1:=fun C s hCw hr hret=>by
  subst hCw
  obtain⟨ds,hd1,hd2,hd3⟩:=hr.marks
  rw[hd1]
  refine leave_marks (B:=C.T) ds C.w hd2 hd3 fun w' hw'=>?_
  simp only[LeavesInM,LeavesIn]
  have hres:fn.results.toList=[]:=by
   cases hq:fn.results.toList with
   |nil=>rfl
   |cons r rs=>
    rw[hq]at h5
    cases r<;>simp only[compRes]at h5<;>(repeat' (split at h5))<;>cases h5
  have hrun:(results fn a.tmps).run P w' = .ok (.tuple #[]) w':=by
   rw[results_eq,Array.mapM_eq_mapM_toList,hres]
   simp[Sem.run_pure]
  refine⟨_,hrun,_,s.gh.k,s.gh.st,C.l.S,rfl,hJR _ _ _ _ _ hr.keep.1 ⟨hw'.os,hw'.tape,hw'.output,by rw[hw'.size];exact Nat.le_refl _,fun b hb hs=>?_⟩,fun e=>?_⟩
  ·rcases hs with hs|hs|hs
   ·exact hw'.other b fun hT=>by have:=hr.keep.2.2.1 b hT;omega
   ·exact hw'.other b fun hT=>hr.keep.2.1 b hs hT
   ·obtain⟨o,h1,h2⟩:=(hr.imm b (hr.pin.2.2 b hs)).2
    rw[hw'.mem b o h1 h2,h1]
  ·rcases hret with hret|hret
   ·rw[e]at hret;cases hret
   ·exact hret
 cases e with
 |normal=>obtain⟨C,s,e1,hr,hret⟩:=hq;exact finish C s e1 hr hret
 |ret=>obtain⟨C,s,e1,hr,hret⟩:=hq;exact finish C s e1 hr hret
 |exit id=>obtain⟨C,s,e1,hr,hret⟩:=hq;exact hret.elim
 |goto l=>exact hq.elim
 |panic ch=>exact hq.elim
 |outgrown=>exact hq.elim
theorem itA_of_go{P:Program}{f:FuncId}{N M:Nat}{ci:CI}(hok:FnOk P f N M ci [])(m:Nat){cap:List AV}{ys:List (List AV)}(hN:cap.length+1<=N)(h:GoC (env3 P N ys) ci (finI ys) (start m (.yld::cap))):ItA P f cap ys:=by
 have e:finI ys=finG (· = ys.length):=by funext e s;cases e<;>rfl
 rw[e]at h
 exact itG_of_go hok m hN h
theorem enter_any{P:Program}{F:Fence}(hF:F=Fence.wide\/∃l,F=Fence.wide.inRound l)(w:World)(hr:∀l,F.round=some l->∃r,w.heap[l]?=some (.loop r))(fn:FuncId)(tmps:Array Value)(ps:Array Tmp)(as bd:Code) :
  ∃l mark w1 dd,(Instr.enterLoop fn tmps ps as bd F.round).run P w = .ok (l,mark) w1/\Below w.heap.size w w1/\w.heap.size<=l/\l<w1.heap.size /\
   w1.heap[l]?=some (.loop { state:=.ready,pending:=none,fn,tmps,params:=ps,assign:=as,body:=bd,defers:=dd }) /\
   (mark=[]\/∃D,mark=[{ target:=.collected D,args := #[] }]/\w.heap.size<=D/\D<w1.heap.size/\w1.heap[D]?=some (.deferred (some []))):=by
 rcases hF with rfl|⟨l0,rfl⟩
 ·refine⟨_,_,_,w.heap.size,run_enterLoop_outer fn tmps ps as bd,((Below.refl _ w).alloc (Nat.le_refl _) _).alloc (by simp) _,by omega,by simp,?_, .inr ⟨w.heap.size,rfl,Nat.le_refl _,by simp;omega,?_⟩⟩
  ·have:=World.alloc_heap_new (w.alloc (.deferred (some []))) (.loop { state:=.ready,pending:=none,fn,tmps,params:=ps,assign:=as,body:=bd,defers:=w.heap.size })
   rwa [World.size_alloc]at this
  ·exact(Below.heap_alloc _ _ _ (by simp)).trans (World.alloc_heap_new w _)
 ·obtain⟨r,hr⟩:=hr l0 rfl
  exact⟨_,_,_,_,run_enterLoop_inner hr fn tmps ps as bd,(Below.refl _ w).alloc (Nat.le_refl _) _,Nat.le_refl _,by simp,World.alloc_heap_new w _, .inl rfl⟩
def nonCells(w:World)(b:Nat):Prop:=¬Mem w b
structure Mid(C:Ctx)(l:Nat)(r:Loop)(q:LoopState)(T:Nat->Prop)(S:Wt)(w:World):Prop where
 os:w.os=C.w.os
 tape:w.tape=C.w.tape
 output:w.output=C.w.output
 size:C.w.heap.size<=w.heap.size
 same:∀b,b<C.w.heap.size->b≠l->(C.imm b\/(¬C.l.S.s b/\(¬C.T b\/nonCells C.w b)))->w.heap[b]?=C.w.heap[b]?
 rcd:w.heap[l]?=some (.loop { r with state:=q })
 sub:∀b,C.T b->T b
 new:∀b,T b->C.T b\/C.w.heap.size<=b
 subS:∀b,C.l.S.s b->S.s b
 newS:∀b,S.s b->C.l.S.s b\/C.w.heap.size<=b
def rndX(X:Sess)(C:Ctx)(l:Nat)(r:Loop)(pin:Nat->Option Own)(q:LoopState):Sess:=
 { P:=X.P,F:=Fence.wide.inRound l,n:=4,N:=X.N,imm0:=C.imm,lo:=C.w.heap.size,pin:=pin,l:=X.l,Keep:=fun T S k st w=>X.Keep T S k st w/\Mid C l r q T S w }
theorem rndX_ok{X:Sess}{E:Env}(hX:SessOk X E){C:Ctx}{l:Nat}{r:Loop}{pin:Nat->Option Own}{q:LoopState}(hl:C.T l)(hll:l<C.w.heap.size)(hlo:X.lo<=C.w.heap.size)
  (himm:∀b,C.imm b->X.imm0 b\/C.T b) (himm0:∀b,X.imm0 b->C.imm b) (hCT:∀b,C.T b->b<C.w.heap.size):SessOk (rndX X C l r pin q) E where
 fn:=fun _=>trivial
 wide:=.inr ⟨l,rfl⟩
 P:=hX.P
 N:=hX.N
 kgrow:=fun T S k st w w' hk hg=>⟨hX.kgrow _ _ _ _ _ _ hk.1 hg,⟨hg.os.trans hk.2.os,hg.tape.trans hk.2.tape,hg.output.trans hk.2.output,Nat.le_trans hk.2.size hg.size,
  fun b hb hne h=>(hg.block b (Nat.lt_of_lt_of_le hb hk.2.size)).trans (hk.2.same b hb hne h),(hg.block l (Nat.lt_of_lt_of_le hll hk.2.size)).trans hk.2.rcd,
  fun b hb=>.inl (hk.2.sub b hb),fun b hb=>hb.elim (hk.2.new b) fun h=>.inr (Nat.le_trans hk.2.size h.1),hk.2.subS,hk.2.newS⟩⟩
 kset:=fun T S k st w w' b hk hT hi hh hg=>by
  have hcells:=hg.cells
  have hne:b≠l:=fun e=>by
   obtain⟨o,hc,ho⟩:=hcells
   rw[e,hk.2.rcd]at hc;cases hc;cases ho
  refine⟨hX.kset _ _ _ _ _ _ b hk.1 hT (fun h=>hi (himm0 b h)) hh hg,⟨hg.os.trans hk.2.os,hg.tape.trans hk.2.tape,hg.output.trans hk.2.output,by rw[hg.size];exact hk.2.size,
   fun b' hb hne' h=>?_,(hg.other l (Ne.symm hne)).trans hk.2.rcd,hk.2.sub,hk.2.new,hk.2.subS,hk.2.newS⟩⟩
  by_cases e:b'=b
  ·subst e
   rcases h with h|⟨h1,h2⟩
   ·exact absurd h hi
   ·rcases h2 with h2|h2
    ·rcases hk.2.new b' hT with h3|h3
     ·exact absurd h3 h2
     ·omega
    ·exact absurd (hcells.same (hk.2.same b' hb hne' (.inr ⟨h1, .inr h2⟩)).symm) h2
  ·exact(hg.other b' e).trans (hk.2.same b' hb hne' h)
 kobj:=fun T S k st w b r1 r2 hk hT hlo' hh hr=>by
  have hlo2:C.w.heap.size<=b:=hlo'
  have hne:l≠b:=by omega
  exact⟨hX.kobj _ _ _ _ _ b r1 r2 hk.1 hT (Nat.le_trans hlo hlo2) hh hr,⟨hk.2.os,hk.2.tape,hk.2.output,by rw[size_putObj];exact hk.2.size,
   fun b' hb hne' h=>(World.putObj_heap_other (by omega)).trans (hk.2.same b' hb hne' h),(World.putObj_heap_other hne).trans hk.2.rcd,hk.2.sub,hk.2.new,hk.2.subS,hk.2.newS⟩⟩
 kreach:=fun T S k st w w' hk hT hr=>by
  have hr':Reach C.w.heap.size (fun b=>T b\/S.s b\/S.h b) w w':=hr
  exact⟨hX.kreach _ _ _ _ _ _ hk.1 hT (hr'.mono hlo fun _ h=>h),⟨hr.os.trans hk.2.os,hr.tape.trans hk.2.tape,hr.output.trans hk.2.output,Nat.le_trans hk.2.size hr.size,
   fun b hb hne h=>(hr'.same b (Nat.lt_of_lt_of_le hb hk.2.size) (.inl hb)).trans (hk.2.same b hb hne h),(hr'.same l (Nat.lt_of_lt_of_le hll hk.2.size) (.inl hll)).trans hk.2.rcd,hk.2.sub,hk.2.new,hk.2.subS,hk.2.newS⟩⟩
 kadd:=fun T S k st w Q hk hQ=>by
  have hQ':∀b,Q b->C.w.heap.size<=b/\b<w.heap.size/\¬S.s b:=hQ
  exact⟨hX.kadd _ _ _ _ _ Q hk.1 fun b hb=>⟨Nat.le_trans hlo (hQ' b hb).1,(hQ' b hb).2⟩,⟨hk.2.os,hk.2.tape,hk.2.output,hk.2.size,hk.2.same,hk.2.rcd,fun b hb=>.inl (hk.2.sub b hb),fun b hb=>hb.elim (hk.2.new b) fun h=>.inr (hQ' b h).1,hk.2.subS,hk.2.newS⟩⟩
 klo:=fun T S k st w hk=>hk.2.size
 kS:=fun T S k st w hk=>hX.kS _ _ _ _ _ hk.1
 kyield:=fun T S k k' w us xs Q hk hT hSQ hQ hys hxs=>by
  have hci:∀b',C.imm b'->X.imm0 b'\/T b':=fun b' h=>(himm b' h).imp id (hk.2.sub b')
  have hy:=hX.kyield T S k k' w us xs Q hk.1 hT hSQ (fun b hb=>⟨(hQ b hb).1.elim (hci b) .inr,(hQ b hb).2⟩) hys hxs
  obtain⟨fn,tmps,as,bd,q1,q2⟩:=YieldAt.wide (m:=3) hy
  refine⟨fn,tmps,as,bd,q1,q2.mono fun e w2 hr=>?_⟩
  obtain⟨b,S',e1,e2,e3⟩:=hr
  refine⟨b,S',e1,⟨e2,⟨e3.os.trans hk.2.os,e3.tape.trans hk.2.tape,e3.output.trans hk.2.output,Nat.le_trans hk.2.size e3.size,fun b' hb hne h=>?_,?_,hk.2.sub,hk.2.new,fun b' h=>e3.sub b' (hk.2.subS b' h),fun b' h=>?_⟩⟩,
   ⟨e3.os,e3.tape,e3.output,e3.size,fun b' hb h=>e3.same b' hb ?_,e3.sub,e3.new,e3.hsub,e3.hnew⟩⟩
  ·refine(e3.same b' (Nat.lt_of_lt_of_le hb hk.2.size) ?_).trans (hk.2.same b' hb hne h)
   rcases h with h|⟨h1,_⟩
   ·exact .inl (hci b' h)
   ·refine .inr fun hS=>?_
    rcases hk.2.newS b' hS with h3|h3
    ·exact h1 h3
    ·omega
  ·exact(e3.same l (Nat.lt_of_lt_of_le hll hk.2.size) (.inl (.inr (hk.2.sub l hl)))).trans hk.2.rcd
  ·rcases e3.new b' h with h3|h3
   ·exact hk.2.newS b' h3
   ·exact .inr (Nat.le_trans hk.2.size h3)
  ·rcases h with(h|h)|h
   ·exact .inl (hci b' h)
   ·exact .inl (.inr h)
   ·exact .inr h
 kdrop:=fun T S k st w Q hk hQ=>by
  have hQ':∀b,Q b->C.w.heap.size<=b:=hQ
  exact⟨hX.kdrop _ _ _ _ _ Q hk.1 fun b hb=>Nat.le_trans hlo (hQ' b hb),⟨hk.2.os,hk.2.tape,hk.2.output,hk.2.size,hk.2.same,hk.2.rcd,fun b hb=>⟨hk.2.sub b hb,fun q=>by have:=hQ' b q;have:=hCT b hb;omega⟩,fun b hb=>hk.2.new b hb.1,hk.2.subS,hk.2.newS⟩⟩
 klend:=fun T S k k' w el sz es v xs hk hT hlx hfl hown hv hlen hlb=>by
  have hci:∀b',C.imm b'->X.imm0 b'\/T b':=fun b' h=>(himm b' h).imp id (hk.2.sub b')
  have hy:=hX.klend T S k k' w el sz es v xs hk.1 hT hlx hfl hown hv hlen (fun b hb=>⟨(hlb b hb).1,fun q=>(hlb b hb).2.1 (himm0 b q),(hlb b hb).2.2⟩)
  have hmem:∀b,v.ownBlock=some b->Mem w b:=fun b hb=>by
   rcases hown.2 with⟨e,_⟩|⟨g,cap,cur,e,_,hg,_⟩
   ·rw[e]at hb;cases hb
   ·rw[e]at hb;simp[Value.ownBlock]at hb;subst hb;exact .of_cells hg
  obtain⟨fn,tmps,as,bd,q1,q2⟩:=YieldAt.wide (m:=3) hy
  refine⟨fn,tmps,as,bd,q1,q2.mono fun e w2 hr=>?_⟩
  obtain⟨b,S',xs',e1,e2,e3,e4,e5⟩:=hr
  refine⟨b,S',xs',e1,⟨e2,⟨e3.os.trans hk.2.os,e3.tape.trans hk.2.tape,e3.output.trans hk.2.output,Nat.le_trans hk.2.size e3.size,fun b' hb hne h=>?_,?_,hk.2.sub,hk.2.new,fun b' h=>e3.sub b' (hk.2.subS b' h),fun b' h=>?_⟩⟩,
   ⟨e3.os,e3.tape,e3.output,e3.size,fun b' hb hne h=>e3.same b' hb hne ?_,e3.sub,e3.new,e3.hsub,e3.hnew⟩,e4,e5⟩
  ·have hnl:v.ownBlock≠some b':=fun e=>by
    rcases h with h|⟨h1,h2|h2⟩
    ·exact(hlb b' e).2.1 h
    ·exact(hk.2.new b' (hlb b' e).1).elim h2 fun q=>by omega
    ·exact h2 ((hmem b' e).same (hk.2.same b' hb hne (.inr ⟨h1, .inr h2⟩)).symm)
   refine(e3.same b' (Nat.lt_of_lt_of_le hb hk.2.size) hnl ?_).trans (hk.2.same b' hb hne h)
   rcases h with h|⟨h1,_⟩
   ·exact .inl (hci b' h)
   ·refine .inr fun hS=>?_
    rcases hk.2.newS b' hS with h3|h3
    ·exact h1 h3
    ·omega
  ·refine(e3.same l (Nat.lt_of_lt_of_le hll hk.2.size) (fun e=>?_) (.inl (.inr (hk.2.sub l hl)))).trans hk.2.rcd
   obtain⟨o,q3,q4⟩:=hmem l e
   rw[hk.2.rcd]at q3;cases q3;cases q4
  ·rcases e3.new b' h with h3|h3
   ·exact hk.2.newS b' h3
   ·exact .inr (Nat.le_trans hk.2.size h3)
  ·rcases h with(h|h)|h
   ·exact .inl (hci b' h)
   ·exact .inl (.inr h)
   ·exact .inr h
def bindT(tm:(List (Nat × AV))):List Nat->List AV->(List (Nat × AV))
 |p::ps,x::xs=>bindT ((p,x)::tm) ps xs
 |_,_=>tm
def exCode:Ex->Code
 |.ret=>.ret
 |.exit id=>.exit id
 |.normal=>.skip
theorem zip_size:∀(l:List (Tmp × Value)) (t:Array Value),(l.foldl (fun(t:Array Value) (p:Tmp × Value)=>t.setIfInBounds p.1 p.2) t).size=t.size
 | [],t=>rfl
 |(p,v)::l,t=>by simp only[List.foldl_cons];rw[zip_size l];simp
theorem bind_ok{C:Ctx}{N:Nat}:∀(ps:List Nat) (ys:List AV) (xs:List Value) (tm:(List (Nat × AV))) (t:Array Value),ps.length=ys.length->ps.all (fun p=>decide (p<N))=true->t.size=N->RVs C ys xs->(∀d v,look tm d=some v->RV C v (t.getD d undef)) ->
  ∀d v,look (bindT tm ps ys) d=some v->RV C v (((ps.zip xs).foldl (fun(t:Array Value) (p:Tmp × Value)=>t.setIfInBounds p.1 p.2) t).getD d undef)
 | [],ys,xs,tm,t,hl,_,_,hv,h=>by
  cases ys with
  |nil=>simpa[bindT]using h
  |cons _ _=>cases hl
 |p::ps,[],xs,tm,t,hl,_,_,_,_=>by cases hl
 |p::ps,y::ys,xs,tm,t,hl,ha,ht,hv,h=>by
  simp only[RVs]at hv
  obtain⟨x,xs',rfl,h1,h2⟩:=hv
  simp only[List.all_cons,Bool.and_eq_true,decide_eq_true_eq]at ha
  simp only[bindT,List.zip_cons_cons,List.foldl_cons]
  refine bind_ok ps ys xs' _ _ (by simpa using hl) ha.2 (by simpa using ht) h2 fun d v hd=>?_
  simp only[look]at hd
  split at hd
  ·rename_i e;subst e;cases hd
   have:(t.setIfInBounds p x).getD p undef=x:=by
    simp only[Array.getD_eq_getD_getElem?,Array.getElem?_setIfInBounds,ht,ha.1,if_true,Option.getD_some]
   rw[this];exact h1
  ·rename_i e
   have:(t.setIfInBounds p x).getD d undef=t.getD d undef:=by
    simp only[Array.getD_eq_getD_getElem?,Array.getElem?_setIfInBounds,if_neg e]
   rw[this];exact h d v hd
def rndE(p:List Nat)(J:List Res->Nat->Bool->Prop)(Jx:Ex->List Res->Nat->Bool->Prop):Ex->St->Prop
 |.normal,s=>∃sg gk gst,MeetsE s ⟨[],sg,⟨p,gk,gst⟩⟩/\J sg gk gst
 |e,s=>∃sg gk gst,MeetsE s ⟨[],sg,⟨p,gk,gst⟩⟩/\Jx e sg gk gst
def assT(K:St->Prop):Ex->St->Prop
 |.normal,s=>K s
 |_,_=>False
def RJ(X':Sess)(C1:Ctx)(a1:Act)(tm1:(List (Nat × AV)))(p:List Nat)(l:Nat)(fn:FuncId)(pst:Array Tmp)(as bd:Code)(J:Nat->List Res->Nat->Bool->Prop)(Jx:Ex->List Res->Nat->Bool->Prop)
  (k:Nat) (st:Bool) (S:Wt) (w:World):Prop:=
 ∃(C:Ctx) (sg:List Res) (gk:Nat) (gst:Bool) (r:Loop),C.w=w/\Rel X' C ⟨tm1,sg,⟨p,gk,gst⟩⟩ a1/\((∀b,S.s b<->(¬S.h b/\(C.T b\/C.l.S.s b)))/\∀b,S.h b->C.imm b/\C.T b)/\(∀b,C1.T b->C.T b)/\Pers C1.imm C.imm C1.w w /\
  w.heap[l]?=some (.loop r)/\r.fn=fn/\r.tmps=a1.tmps/\r.params=pst/\r.assign=as/\r.body=bd /\
  ((st=false/\r.state = .ready/\r.pending=none/\J k sg gk gst)\/(st=true/\r.state = .done/\∃e,e ≠ .normal/\r.pending=some (exCode e)/\Jx e sg gk gst))
theorem rv_base{C1:Ctx}{p:List Nat}{v:AV}{x:Value}(h:RV C1 v x)(hp:v.refsIn (fun i=>memN p i)=true):v.refsIn (fun i=>memN p i&&(C1.rho i).isSome)=true:=
 AV.keep_has fun i hi=>by
  have h1:=AV.has_keep hp hi
  cases hr:C1.rho i with
  |some o=>simpa using h1
  |none=>
   have:=RV.unbound hr v x h
   simp[AV.has,this]at hi
def refsLt(p:List Nat):(List (Nat × AV))->Bool
 | []=>true
 |(_,v)::r=>(v.refsIn fun i=>memN p i)&&refsLt p r
theorem refsLt_get{p:List Nat}:∀ {tm:(List (Nat × AV))} {d:Nat} {v:AV},refsLt p tm=true->look tm d=some v->v.refsIn (fun i=>memN p i)=true
 | [],_,_,_,h=>by simp[look]at h
 |(i,u)::tm,d,v,h,hl=>by
  simp only[refsLt,Bool.and_eq_true]at h
  simp only[look]at hl
  split at hl
  ·cases hl;exact h.1
  ·exact refsLt_get h.2 hl
section
variable {X:Sess} {E:Env} {C1:Ctx} {a1:Act} {tm1:(List (Nat × AV))} {p:List Nat} {l:Nat} {fn:FuncId} {pst:Array Tmp} {as bd:Code} {J:Nat->List Res->Nat->Bool->Prop} {Jx:Ex->List Res->Nat->Bool->Prop}
def btwX(X:Sess)(C1:Ctx):Sess:={ X with imm0:=C1.imm,pin:=C1.rho }
def btwP(X:Sess)(C1:Ctx)(pin:Nat->Option Own):Sess:={ X with imm0:=C1.imm,pin:=pin }
theorem RJ.reach(hX:SessOk X E)(himm:∀b,C1.imm b->Mem C1.w b)(hlo:X.lo<=C1.w.heap.size)(hl:C1.T l){k:Nat}{st:Bool}{S:Wt}{w w2:World}
  (h:RJ (btwX X C1) C1 a1 tm1 p l fn pst as bd J Jx k st S w) (hr:Reach C1.w.heap.size (fun b=>S.s b\/S.h b) w w2):RJ (btwX X C1) C1 a1 tm1 p l fn pst as bd J Jx k st S w2:=by
 obtain⟨C,sg,gk,gst,r,rfl,h1,h2,h3,h4,h5,h6⟩:=h
 have hTS:∀b,C.T b->S.s b\/S.h b:=fun b hb=>by
  by_cases hh:S.h b
  ·exact .inr hh
  ·exact .inl ((h2.1 b).2 ⟨hh, .inl hb⟩)
 have hT:∀b,C.T b->w2.heap[b]?=C.w.heap[b]?:=fun b hb=>hr.same b (h1.T b hb) (.inr (hTS b hb))
 have hI:∀b,C.imm b->w2.heap[b]?=C.w.heap[b]?:=fun b hb=>by
  obtain⟨hq,hh⟩:=h1.imm b hb
  rcases hq with hq|hq
  ·exact hr.same b hh.lt (.inl (himm b hq).lt)
  ·exact hT b hq
 have hsame:∀b,Mem C.w b->(C.T b\/C.imm b)->w2.heap[b]?=C.w.heap[b]?:=fun b _ hb=>hb.elim (hT b) (hI b)
 refine⟨⟨C.imm,C.T,C.rho,w2,C.l⟩,sg,gk,gst,r,rfl,h1.move w2 hsame hr.size h1.size (h1.later_tm hsame) (fun b hb=>(h1.imm b hb).1) h1.imm0 ?_ ?_ (fun l' hl'=>?_) h1.pin,h2,h3,fun b hb=>⟨(h4 b hb).1,(hI b (h4 b hb).1).trans (h4 b hb).2⟩,(hT l (h3 l hl)).trans h5,h6⟩
 ·refine hX.kreach _ _ _ _ _ _ h1.keep h1.T (hr.mono' hlo fun b hb=>?_)
  rcases hb with hb|hb|hb
  ·exact .inl (hTS b hb)
  ·left
   by_cases hh:S.h b
   ·exact .inr hh
   ·exact .inl ((h2.1 b).2 ⟨hh, .inr hb⟩)
  ·rcases(h1.imm b (h1.pin.2.2 b hb)).1 with q|q
   ·exact .inr (himm b q).lt
   ·exact .inl (hTS b q)
 ·obtain⟨ds,d1,d2,d3⟩:=h1.marks
  exact⟨ds,d1,d2,fun D hD=>⟨(d3 D hD).1,(hT D (d3 D hD).1).trans (d3 D hD).2⟩⟩
 ·obtain⟨q1,r',q2⟩:=h1.round l' hl'
  exact⟨q1,r',(hT l' q1).trans q2⟩
theorem RJ.take(hX:SessOk X E)(hlo:X.lo<=C1.w.heap.size){k:Nat}{st:Bool}{S:Wt}{w:World}{Q:Nat->Prop}
  (h:RJ (btwX X C1) C1 a1 tm1 p l fn pst as bd J Jx k st S w) (hQ:∀b,Q b->(C1.imm b\/(C1.w.heap.size<=b/\¬S.s b))/\Mem w b) :
  ∃(C:Ctx) (sg:List Res) (gk:Nat) (gst:Bool) (r:Loop),C.w=w/\Rel (btwX X C1) C ⟨tm1,sg,⟨p,gk,gst⟩⟩ a1/\(∀b,S.s b<->(¬(S.h b\/(Q b/\¬C1.imm b))/\(C.T b\/C.l.S.s b)))/\(∀b,(S.h b\/(Q b/\¬C1.imm b))->C.imm b/\C.T b)/\(∀b,Q b->C.imm b)/\(∀b,C1.T b->C.T b)/\Pers C1.imm C.imm C1.w w /\
  w.heap[l]?=some (.loop r)/\r.fn=fn/\r.tmps=a1.tmps/\r.params=pst/\r.assign=as/\r.body=bd /\
  ((st=false/\r.state = .ready/\r.pending=none/\J k sg gk gst)\/(st=true/\r.state = .done/\∃e,e ≠ .normal/\r.pending=some (exCode e)/\Jx e sg gk gst)):=by
 obtain⟨C,sg,gk,gst,r,rfl,h1,h2,h3,h4,h5⟩:=h
 have hl:Later (fun _=>true) C ⟨fun b=>C.imm b\/Q b,fun b=>C.T b\/(Q b/\¬C1.imm b),C.rho,C.w,C.l⟩:=⟨fun b hb=>⟨.inl hb,rfl⟩,fun _ _=>rfl,rfl⟩
 have hq1:∀b,Q b->¬C1.imm b->C1.w.heap.size<=b/\¬S.s b:=fun b hb hn=>(hQ b hb).1.resolve_left hn
 have hnotQ:∀b,C.T b->¬C.imm b->¬Q b:=fun b hT hi hq=>by
  rcases(hQ b hq).1 with q|⟨_,q⟩
  ·exact hi (h4 b q).1
  ·exact q ((h2.1 b).2 ⟨fun hh=>hi (h2.2 b hh).1, .inl hT⟩)
 refine⟨⟨fun b=>C.imm b\/Q b,fun b=>C.T b\/(Q b/\¬C1.imm b),C.rho,C.w,C.l⟩,sg,gk,gst,r,rfl,?_,fun b=>⟨fun hs=>?_,fun⟨hn,hs⟩=>?_⟩,fun b hb=>?_,fun b hb=>.inr hb,fun b hb=>.inl (h3 b hb),fun b hb=>⟨.inl (h4 b hb).1,(h4 b hb).2⟩,h5⟩
 ·refine⟨h1.size,fun d v hd=>RV.later hl v _ (AV.refsIn_all (fun _=>rfl) v) (h1.tm d v hd),fun j=>?_,h1.dis,fun b hb=>?_,fun b hb=>.inl (h1.imm0 b hb),fun b hb=>?_,hX.kadd _ _ _ _ _ _ h1.keep fun b hb=>?_,?_,fun l' hl'=>?_,⟨h1.pin.1,h1.pin.2.1,fun b hb=>.inl (h1.pin.2.2 b hb)⟩⟩
  ·have hs:=h1.sg j
   have hown:∀b,(Res.blk (sg.getD j .fresh) (C.rho j))=some b->C.T b:=fun b hb=>(Res.blk_lt hs hb).1
   show ResOk _ (sg.getD j .fresh) (C.rho j)
   have hs':ResOk C (sg.getD j .fresh) (C.rho j):=hs
   generalize sg.getD j .fresh=rr at hs' hown⊢
   generalize C.rho j=o at hs' hown⊢
   cases rr with
   |fresh=>exact hs'
   |dead=>exact hs'
   |box ice cs=>
    obtain⟨b,vs,el,rfl,g1,g2,g3,g4,g5⟩:=hs'
    exact⟨b,vs,el,rfl, .inl g1,g2,RVs.later hl _ _ (AV.refsInL_all (fun _=>rfl) _) g3,fun e=>⟨.inl (g4 e).1,RV0s.mono hl.pers _ _ (g4 e).2⟩,fun e hh=>hh.elim (g5 e) (hnotQ b g1 (g5 e))⟩
   |row ice el sz es=>
    obtain⟨b,v,xs,rfl,g1,g2,g3,g4⟩:=hs'
    refine⟨b,v,xs,rfl,g1,RV0s.mono hl.pers _ _ g2,g3,fun b' e=>?_⟩
    obtain⟨q1,q2,q3,q4⟩:=g4 b' e
    exact⟨q1, .inl q2,fun e=>.inl (q3 e),fun e hh=>hh.elim (q4 e) (hnotQ b q2 (q4 e))⟩
   |mp ice ks us=>
    obtain⟨b,es,rfl,g1,g2,g3,g4,g5,g6,g7⟩:=hs'
    exact⟨b,es,rfl, .inl g1,g2,g3,RV0s.mono hl.pers _ _ g4,RV0s.mono hl.pers _ _ g5,fun e=>.inl (g6 e),fun e hh=>hh.elim (g7 e) (hnotQ b g1 (g7 e))⟩
   |mpo ks us=>
    obtain⟨b,es,rfl,g1,g2,g3,g4,g5,g6⟩:=hs'
    exact⟨b,es,rfl, .inl g1,g2,g3,RV0s.mono hl.pers _ _ g4,RVs.later hl _ _ (AV.refsInL_all (fun _=>rfl) _) g5,fun hh=>hh.elim g6 (hnotQ b g1 g6)⟩
   |itr ks us seen last=>
    obtain⟨b,m,rfl,g1,g2,g3,g4,g5⟩:=hs'
    exact⟨b,m,rfl, .inl g1,fun hh=>hh.elim g2 (hnotQ b g1 g2),g3,RV0.mono hl.pers _ _ g4,g5⟩
  ·rcases hb with hb|hb
   ·exact⟨(h1.imm b hb).1.imp id .inl,(h1.imm b hb).2⟩
   ·refine⟨?_,(hQ b hb).2⟩
    by_cases hc:C1.imm b
    ·exact .inl hc
    ·exact .inr (.inr ⟨hb,hc⟩)
  ·rcases hb with hb|hb
   ·exact h1.T b hb
   ·exact(hQ b hb.1).2.lt
  ·obtain⟨q1,q2⟩:=hq1 b hb.1 hb.2
   refine⟨Nat.le_trans hlo q1,(hQ b hb.1).2.lt,fun hs=>q2 ((h2.1 b).2 ⟨fun hh=>?_, .inr hs⟩)⟩
   exact((hX.kS _ _ _ _ _ h1.keep).1 b hs).2 (h2.2 b hh).2
  ·obtain⟨ds,d1,d2,d3⟩:=h1.marks
   exact⟨ds,d1,d2,fun D hD=>⟨.inl (d3 D hD).1,(d3 D hD).2⟩⟩
  ·obtain⟨q1,r',q2⟩:=h1.round l' hl'
   exact⟨.inl q1,r',q2⟩
 ·obtain⟨q1,q2⟩:=(h2.1 b).1 hs
  exact⟨fun hh=>hh.elim q1 fun hq=>(hq1 b hq.1 hq.2).2 hs,q2.imp .inl id⟩
 ·refine(h2.1 b).2 ⟨fun hh=>hn (.inl hh),?_⟩
  rcases hs with(hs|hs)|hs
  ·exact .inl hs
  ·exact absurd (.inr hs) hn
  ·exact .inr hs
 ·rcases hb with hb|hb
  ·exact⟨.inl (h2.2 b hb).1, .inl (h2.2 b hb).2⟩
  ·exact⟨.inr hb.1, .inr hb⟩
end
section
variable {X:Sess} {E:Env} {C1:Ctx} {a1:Act} {tm1:(List (Nat × AV))} {p:List Nat} {l:Nat} {fn:FuncId} {pst:Array Tmp} {as bd:Code} {J:Nat->List Res->Nat->Bool->Prop} {Jx:Ex->List Res->Nat->Bool->Prop}
theorem round_back(hX:SessOk X E)(hlo:X.lo<=l)(hl:C1.T l)(hbl:C1.l.l=X.l)(hbase:∀d v,look tm1 d=some v->RV C1 v (a1.tmps.getD d undef))(hlt:refsLt p tm1=true)
  {pin:Nat->Option Own} (hpin:∀i o,C1.rho i=some o->pin i=some o) {C:Ctx} {sg:List Res} {gk:Nat} {gst:Bool} {r:Loop} {S:Wt} {H Q:Nat->Prop} (h1:Rel (btwP X C1 pin) C ⟨tm1,sg,⟨p,gk,gst⟩⟩ a1) (h2:∀b,S.s b<->(¬H b/\(C.T b\/C.l.S.s b))) (hH:∀b,H b->C.imm b/\C.T b) (hS1:∀b,S.h b->H b) (hS2:∀b,H b->S.h b\/Q b) (h3:∀b,C1.T b->C.T b) (h4:Pers C1.imm C.imm C1.w C.w)
  (h5:C.w.heap[l]?=some (.loop r)) {C3:Ctx} {s3:St} {a3:Act} (hr3:Rel (rndX X C l r pin .busy) C3 s3 a3) {sg4:List Res} {gk4:Nat} {gst4:Bool} (hm:MeetsE s3 ⟨[],sg4,⟨p,gk4,gst4⟩⟩) (q':LoopState) (jump:Option Code) :
  ∃C5,C5.w=C3.w.putObj l (.loop { r with state:=q',pending:=jump })/\Rel (btwP X C1 pin) C5 ⟨tm1,sg4,⟨p,gk4,gst4⟩⟩ a1/\(∀b,C1.T b->C5.T b)/\Pers C1.imm C5.imm C1.w C5.w /\
   C5.w.heap[l]?=some (.loop { r with state:=q',pending:=jump })/\(∀b,H b->C5.imm b/\C5.T b)/\StepR C1.imm Q S ⟨fun b=>¬H b/\(C5.T b\/C5.l.S.s b),H⟩ C.w C5.w:=by
 obtain⟨π,nl,hm⟩:=hm
 obtain⟨rho',hr4⟩:=hr3.meets hm
 have hmid:Mid C l r .busy C3.T C3.l.S C3.w:=hr4.keep.2
 have hkeep:X.Keep C3.T C3.l.S gk4 gst4 C3.w:=hr4.keep.1
 have hlC:C.T l:=h3 l hl
 have hsz:C3.w.heap.size=(C3.w.putObj l (.loop { r with state:=q',pending:=jump })).heap.size:=by rw[size_putObj]
 have hl3:C3.T l:=hmid.sub l hlC
 have hloop:C3.w.heap[l]?=some (.loop { r with state:=.busy }):=hmid.rcd
 have hput:∀b,b≠l->(C3.w.putObj l (.loop { r with state:=q',pending:=jump })).heap[b]?=C3.w.heap[b]?:=fun b hb=>World.putObj_heap_other hb
 have hsame:∀b,Mem C3.w b->(C3.T b\/C3.imm b)->(C3.w.putObj l (.loop { r with state:=q',pending:=jump })).heap[b]?=C3.w.heap[b]?:=fun b hc _=>hput b fun e=>by
  obtain⟨o,hc,ho⟩:=hc
  rw[e,hloop]at hc;cases hc;cases ho
 have hci:∀b,C.imm b->C3.imm b:=hr4.imm0
 have hpers:Pers C1.imm C3.imm C1.w (C3.w.putObj l (.loop { r with state:=q',pending:=jump })):=fun b hb=>by
  obtain⟨k1,k2⟩:=h4 b hb
  obtain⟨o,hh,hho⟩:=(h1.imm b k1).2
  have hne:b≠l:=fun e=>by rw[e,h5]at hh;cases hh;cases hho
  exact⟨hci b k1,(hput b hne).trans ((hmid.same b (Array.getElem?_eq_some_iff.1 hh).1 hne (.inl k1)).trans k2)⟩
 have hnS:∀b,C.T b->¬C.l.S.s b:=fun b hb hS=>((hX.kS _ _ _ _ _ h1.keep).1 b hS).2 hb
 have hnl:¬C3.l.S.h l:=fun hh=>by
  obtain⟨o,q1,q2⟩:=(hr4.imm l (hr4.pin.2.2 l hh)).2
  have q1':C3.w.heap[l]?=some o:=q1
  rw[hloop]at q1';cases q1';cases q2
 have hHl:¬H l:=fun hh=>by
  obtain⟨o,q1,q2⟩:=(h1.imm l (hH l hh).1).2
  rw[h5]at q1;cases q1;cases q2
 have hold:∀b o,C.w.heap[b]?=some o->C.T b->b≠l->isMem o=false->(C3.w.putObj l (.loop { r with state:=q',pending:=jump })).heap[b]?=some o:=fun b o ho hT hne hc=>
  (hput b hne).trans ((hmid.same b (Array.getElem?_eq_some_iff.1 ho).1 hne (.inr ⟨hnS b hT, .inr fun⟨o',e,he⟩=>by rw[ho]at e;cases e;rw[hc]at he;cases he⟩)).trans ho)
 refine⟨⟨C3.imm,C3.T,rho',C3.w.putObj l (.loop { r with state:=q',pending:=jump }),C3.l⟩,rfl,?_,fun b hb=>hmid.sub b (h3 b hb),hpers,World.putObj_heap_same (Array.getElem?_eq_some_iff.1 hloop).1,fun b hb=>⟨hci b (hH b hb).1,hmid.sub b (hH b hb).2⟩,?_⟩
 ·refine hr4.move (Y:=btwP X C1 pin) (a':=a1) _ hsame (by rw[size_putObj];exact Nat.le_refl _) h1.size (fun d v hv=>?_) (fun b hb=>?_) (fun b hb=>hci b (h1.imm0 b hb)) ?_ ?_ (fun l' hl'=>?_) ⟨fun i o hi ho=>?_,?_⟩
  ·have hb:=hbase d v hv
   refine RV.later (C:=C1) (keep:=fun i=>memN p i&&(C1.rho i).isSome) ⟨hpers,fun i hi=>?_,?_⟩ v _ (rv_base hb (refsLt_get hlt hv)) hb
   ·simp only[Bool.and_eq_true,decide_eq_true_eq]at hi
    obtain⟨o,ho⟩:=Option.isSome_iff_exists.1 hi.2
    rw[ho]
    exact hr4.pin.1 i o (memN_iff.1 hi.1) (hpin i o ho)
   ·have e1:C3.l.l=X.l:=hr4.pin.2.1
    have e2:C.l.l=X.l:=h1.pin.2.1
    show C3.l.l=C1.l.l
    rw[e1]
    exact hbl.symm
  ·rcases(hr4.imm b hb).1 with k|k
   ·rcases(h1.imm b k).1 with k|k
    ·exact .inl k
    ·exact .inr (hmid.sub b k)
   ·exact .inr k
  ·exact hX.kobj _ _ _ _ _ _ _ _ hkeep hl3 hlo hnl hloop
  ·obtain⟨ds,d1,d2,d3⟩:=h1.marks
   refine⟨ds,d1,d2,fun D hD=>⟨hmid.sub D (d3 D hD).1,hold D _ (d3 D hD).2 (d3 D hD).1 (fun e=>?_) rfl⟩⟩
   have:=(d3 D hD).2
   rw[e,h5]at this;cases this
  ·obtain⟨k1,r',k2⟩:=h1.round l' hl'
   refine⟨hmid.sub l' k1,?_⟩
   by_cases e:l'=l
   ·subst e;exact⟨_,World.putObj_heap_same (Array.getElem?_eq_some_iff.1 hloop).1⟩
   ·exact⟨r',hold l' _ k2 k1 e rfl⟩
  ·exact hr4.pin.1 i o hi ho
  ·exact hr4.pin.2
 ·refine⟨hmid.os,hmid.tape,hmid.output,by rw[size_putObj];exact hmid.size,fun b hb hs=>?_,fun b hb=>?_,fun b hb=>?_,hS1,hS2⟩
  ·have hne:b≠l:=fun e=>by
    subst e
    rcases hs with hs|hs
    ·obtain⟨k1,_⟩:=h4 b hs
     obtain⟨o,hh,ho⟩:=(h1.imm b k1).2
     rw[h5]at hh;cases hh;cases ho
    ·exact hs ((h2 b).2 ⟨hHl, .inl hlC⟩)
   refine(hput b hne).trans (hmid.same b hb hne ?_)
   rcases hs with hs|hs
   ·exact .inl (h4 b hs).1
   ·by_cases hh:H b
    ·exact .inl (hH b hh).1
    ·exact .inr ⟨fun k=>hs ((h2 b).2 ⟨hh, .inr k⟩), .inl fun k=>hs ((h2 b).2 ⟨hh, .inl k⟩)⟩
  ·obtain⟨k0,k⟩:=(h2 b).1 hb
   exact⟨k0,k.imp (hmid.sub b) (hmid.subS b)⟩
  ·obtain⟨k0,k⟩:=hb
   rcases k with k|k
   ·exact(hmid.new b k).imp (fun k=>(h2 b).2 ⟨k0, .inl k⟩) id
   ·exact(hmid.newS b k).imp (fun k=>(h2 b).2 ⟨k0, .inr k⟩) id
end
section
variable {X:Sess} {E:Env} {C1:Ctx} {a1:Act} {tm1:(List (Nat × AV))} {p:List Nat} {l:Nat} {fn:FuncId} {pst:Array Tmp} {as bd:Code} {J:Nat->List Res->Nat->Bool->Prop} {Jx:Ex->List Res->Nat->Bool->Prop}
theorem RJ.yield(hX:SessOk X E)(hlo:X.lo<=l)(hlo1:X.lo<=C1.w.heap.size)(hl:C1.T l)(hbl:C1.l.l=X.l)(hi0:∀b,X.imm0 b->C1.imm b)(hi1:∀b,C1.imm b->X.imm0 b\/C1.T b)(hbase:∀d v,look tm1 d=some v->RV C1 v (a1.tmps.getD d undef))(hlt:refsLt p tm1=true)
  {nx:Nat->List AV->Nat->Prop} {x y:CI} {nm n1 n2:Nat} (hc1:compC E.P E.N nm as=some (x,n1)) (hc2:compC E.P E.N n1 bd=some (y,n2)) (hps:pst.toList.all (fun t=>decide (t<E.N))=true)
  (hr:∀k v k' sg gk gst,nx k v k'->J k sg gk gst->pst.toList.length=v.length /\
   GoC E x (assT fun s'=>GoC E y (rndE p (J k') Jx) s') ⟨bindT tm1 pst.toList v,sg,⟨p,gk,gst⟩⟩)
  {k k':Nat} {S:Wt} {w:World} {v:List AV} {xs:List Value} {Q:Nat->Prop} (h:RJ (btwX X C1) C1 a1 tm1 p l fn pst as bd J Jx k false S w) (hQ:∀b,Q b->(C1.imm b\/(C1.w.heap.size<=b/\¬S.s b))/\Mem w b) (hy:nx k v k') (hxs:RV0s Q w v xs) :
  YieldAt Fence.wide 4 X.P l xs.toArray w fun e w2=>∃b S',e = .returned (.bool b)/\RJ (btwX X C1) C1 a1 tm1 p l fn pst as bd J Jx k' (!b) S' w2/\StepR C1.imm Q S S' w w2:=by
 obtain⟨C,sg,gk,gst,r,rfl,h1,h2,hH,hQi,h3,h4,h5,e1,e2,e3,e4,e5,h6⟩:=h.take hX hlo1 hQ
 rcases h6 with⟨_,hrd,hpe,hJ⟩|⟨hh,_⟩
 rotate_left
 ·cases hh
 obtain⟨hlen,hgo⟩:=hr k v k' sg gk gst hy hJ
 have hxl:xs.length=v.length:=hxs.length
 have hll:l<C.w.heap.size:=(Array.getElem?_eq_some_iff.1 h5).1
 have hlC:C.T l:=h3 l hl
 have hlow:X.lo<=C.w.heap.size:=by omega
 refine⟨_,_,_,_,run_yield (P:=X.P) (args:=xs.toArray) h5 (by rw[e3];simp[hxl,<- hlen]),?_⟩
 rw[e1,e4,e5,e3]
 refine roundIn_of_wpIn (F:=Fence.wide) (n:=4) trivial ?_
 have hci:∀b,C.imm b->X.imm0 b\/C.T b:=fun b hb=>by
  rcases(h1.imm b hb).1 with q|q
  ·exact(hi1 b q).imp id (h3 b)
  ·exact .inr q
 have hc0:∀b,X.imm0 b->C.imm b:=fun b hb=>h1.imm0 b (hi0 b hb)
 have hok:∀q,SessOk (rndX X C l r C1.rho q) E:=fun q=>rndX_ok hX hlC hll hlow hci hc0 h1.T
 have hst:r={ r with state:=.ready }:=by cases r;simp_all
 have hmid0:Mid C l r .ready C.T C.l.S C.w:=⟨rfl,rfl,rfl,Nat.le_refl _,fun _ _ _ _=>rfl,by rw[h5,<- hst],fun _ h=>h,fun _ h=>.inl h,fun _ h=>h,fun _ h=>.inl h⟩
 have hrvs:RVs C v xs:=by
  have:RV0s C.imm C.w v xs:=RV0s.mono (imm:=Q) (imm':=C.imm) (fun b hb=>⟨hQi b hb,rfl⟩) _ _ hxs
  exact RV0s.rv _ _ this
 have harr:(pst.zip xs.toArray).foldl (fun(tmps:Array Value) (t,a)=>tmps.setIfInBounds t a) r.tmps=(pst.toList.zip xs).foldl (fun(t:Array Value) (p:Tmp × Value)=>t.setIfInBounds p.1 p.2) a1.tmps:=by
  rw[e2,<- Array.foldl_toList,Array.toList_zip]
 have hsz1:a1.tmps.size=X.N:=h1.size
 have hrel0:Rel (rndX X C l r C1.rho .ready) C ⟨bindT tm1 pst.toList v,sg,⟨p,gk,gst⟩⟩ { tmps:=(pst.zip xs.toArray).foldl (fun(tmps:Array Value) (t,a)=>tmps.setIfInBounds t a) r.tmps,defers:=[] }:=by
  refine h1.move (Y:=rndX X C l r C1.rho .ready) C.w (fun _ _ _=>rfl) (Nat.le_refl _) ?_ (fun d u hu=>?_) (fun b hb=>.inl hb) (fun b hb=>hb) ⟨h1.keep,hmid0⟩ ⟨[],rfl,List.nodup_nil,fun D hD=>by cases hD⟩ (fun l' hl'=>?_) ⟨h1.pin.1,h1.pin.2⟩
  ·show Array.size ((pst.zip xs.toArray).foldl (fun(tmps:Array Value) (t,a)=>tmps.setIfInBounds t a) r.tmps)=X.N
   rw[harr,zip_size,hsz1]
  ·show RV C u (((pst.zip xs.toArray).foldl (fun(tmps:Array Value) (t,a)=>tmps.setIfInBounds t a) r.tmps).getD d undef)
   rw[harr]
   exact bind_ok (N:=X.N) pst.toList v xs tm1 a1.tmps hlen (by rw[hX.N];exact hps) hsz1 hrvs h1.tm d u hu
  ·simp only[rndX,Fence.inRound,Option.some.injEq]at hl'
   subst hl'
   exact⟨hlC,r,h5⟩
 refine wpIn_mono (hgo _ (hok .ready) as nm n1 hc1 C _ hrel0) fun e a2 w2 hq=>?_
 cases e with
 |normal=>
  obtain⟨C2,s2,rfl,hr2,hg2⟩:=hq
  have hm2:Mid C l r .ready C2.T C2.l.S C2.w:=hr2.keep.2
  have hl2:C2.w.heap[l]?=some (.loop { r with state:=.ready }):=hm2.rcd
  refine⟨_,run_beginRound hl2 rfl,?_⟩
  obtain⟨tm2,sg2,gh2⟩:=s2
  have hlt2:l<C2.w.heap.size:=(Array.getElem?_eq_some_iff.1 hl2).1
  have hput:∀b,b≠l->(C2.w.putObj l (.loop { r with state:=.busy })).heap[b]?=C2.w.heap[b]?:=fun b hb=>World.putObj_heap_other hb
  have hsame:∀b,Mem C2.w b->(C2.T b\/C2.imm b)->(C2.w.putObj l (.loop { r with state:=.busy })).heap[b]?=C2.w.heap[b]?:=fun b hcl _=>hput b fun e=>by
   obtain⟨o,hcl,ho⟩:=hcl
   rw[e,hl2]at hcl;cases hcl;cases ho
  have hrel2:Rel (rndX X C l r C1.rho .busy) ⟨C2.imm,C2.T,C2.rho,C2.w.putObj l (.loop { r with state:=.busy }),C2.l⟩ ⟨tm2,sg2,gh2⟩ a2:=by
   refine hr2.move (Y:=rndX X C l r C1.rho .busy) _ hsame (by rw[size_putObj];exact Nat.le_refl _) hr2.size (hr2.later_tm hsame) (fun b hb=>(hr2.imm b hb).1) hr2.imm0 ⟨?_,?_⟩ ?_ (fun l' hl'=>?_) hr2.pin
   ·exact hX.kobj _ _ _ _ _ _ _ _ hr2.keep.1 (hm2.sub l hlC) hlo (fun hh=>by
     obtain⟨o,q1,q2⟩:=(hr2.imm l (hr2.pin.2.2 l hh)).2
     rw[hl2]at q1;cases q1;cases q2) hl2
   ·exact⟨hm2.os,hm2.tape,hm2.output,by rw[size_putObj];exact hm2.size,fun b hb hne hh=>(hput b hne).trans (hm2.same b hb hne hh),World.putObj_heap_same hlt2,hm2.sub,hm2.new,hm2.subS,hm2.newS⟩
   ·obtain⟨ds,d1,d2,d3⟩:=hr2.marks
    refine⟨ds,d1,d2,fun D hD=>⟨(d3 D hD).1,(hput D fun e=>?_).trans (d3 D hD).2⟩⟩
    have:=(d3 D hD).2
    rw[e,hl2]at this;cases this
   ·simp only[rndX,Fence.inRound,Option.some.injEq]at hl'
    subst hl'
    exact⟨hm2.sub _ hlC,_,World.putObj_heap_same hlt2⟩
  refine wpIn_mono (hg2 _ (hok .busy) bd n1 n2 hc2 _ _ hrel2) fun e a3 w3 hq=>?_
  have fin:∀(C3:Ctx) (s3:St),C3.w=w3->Rel (rndX X C l r C1.rho .busy) C3 s3 a3->∀(jump:Option Code) (b:Bool) (sg4:List Res) (gk4:Nat) (gst4:Bool),b=jump.isNone->MeetsE s3 ⟨[],sg4,⟨p,gk4,gst4⟩⟩ ->
    ((jump=none/\J k' sg4 gk4 gst4)\/∃e,e ≠ .normal/\jump=some (exCode e)/\Jx e sg4 gk4 gst4) ->
    ∃u w',(Instr.endRound l jump).run X.P w3 = .ok u w'/\∃b S',Ending.returned u = .returned (.bool b)/\RJ (btwX X C1) C1 a1 tm1 p l fn pst as bd J Jx k' (!b) S' w'/\StepR C1.imm Q S S' C.w w':=fun C3 s3 hw hr3 jump b sg4 gk4 gst4 hb hm hjj=>by
   subst hw
   have hl3:C3.w.heap[l]?=some (.loop { r with state:=.busy }):=hr3.keep.2.rcd
   obtain⟨C5,q1,q2,q3,q4,q5,q7,q6⟩:=round_back (Q:=Q) hX hlo hl hbl hbase hlt (pin:=C1.rho) (fun _ _ h=>h) h1 h2 hH (fun b hb=>.inl hb) (fun b hb=>hb.imp id (·.1)) h3 h4 h5 hr3 hm (if jump.isNone then .ready else .done) jump
   refine⟨_,_,run_endRound jump hl3,jump.isNone,_,rfl,⟨C5,sg4,gk4,gst4,{ r with state:=if jump.isNone then .ready else .done,pending:=jump },q1,q2,⟨fun b=>Iff.rfl,q7⟩,q3,q1 ▸ q4,q1 ▸ q5,e1,e2,e3,e4,e5,?_⟩,q1 ▸ q6⟩
   rcases hjj with⟨rfl,hj⟩|⟨e,he,rfl,hj⟩
   ·exact .inl ⟨rfl,rfl,rfl,hj⟩
   ·exact .inr ⟨rfl,rfl,e,he,rfl,hj⟩
  cases e with
  |normal=>obtain⟨C3,s3,hw,hr3,sg4,gk4,gst4,hm,hj⟩:=hq;exact fin C3 s3 hw hr3 none true sg4 gk4 gst4 rfl hm (.inl ⟨rfl,hj⟩)
  |ret=>obtain⟨C3,s3,hw,hr3,sg4,gk4,gst4,hm,hj⟩:=hq;exact fin C3 s3 hw hr3 (some .ret) false sg4 gk4 gst4 rfl hm (.inr ⟨.ret,by simp,rfl,hj⟩)
  |exit id=>obtain⟨C3,s3,hw,hr3,sg4,gk4,gst4,hm,hj⟩:=hq;exact fin C3 s3 hw hr3 (some (.exit id)) false sg4 gk4 gst4 rfl hm (.inr ⟨.exit id,by simp,rfl,hj⟩)
  |goto t=>exact hq.elim
  |panic ch=>exact hq.elim
  |outgrown=>exact hq.elim
 |ret=>obtain⟨_,_,_,_,hf⟩:=hq;exact hf.elim
 |exit id=>obtain⟨_,_,_,_,hf⟩:=hq;exact hf.elim
 |goto t=>exact hq.elim
 |panic ch=>exact hq.elim
 |outgrown=>exact hq.elim
end
def MeetsR(s s':St):Prop:=∀(X:Sess) (C:Ctx) (a:Act),Rel X C s a->∃rho',Rel X ⟨C.imm,C.T,rho',C.w,C.l⟩ s' a
theorem MeetsE.r{s s':St}(h:MeetsE s s'):MeetsR s s':=fun X C a hr=>by
 obtain⟨π,nl,h⟩:=h
 exact hr.meets h
theorem MeetsR.refl(s:St):MeetsR s s:=fun X C a hr=>⟨C.rho,hr⟩
theorem go_rngG{E:Env}{T:Ex->St->Prop}{s:St}{pf:Opd}{ps:List Nat}{x y:CI}{f:FuncId}{cap cap':List AV}(nx:Nat->List AV->Nat->Prop)(fin:Nat->Prop)(hf:s.ev pf=some (.fn f cap))(hpu:AV.puL cap=true)(hfz:AV.frzL s.sg 8 cap=some cap')(hb:bodied E.P f=true)(hit:ItG E.P f cap' nx fin)
  (p:List Nat) (hp:subN s.gh.p p=true) (tm1:List (Nat × AV)) (sg0:List Res) (hm:MeetsR s ⟨tm1,sg0,s.gh⟩) (hlt:refsLt p tm1=true) (J:Nat->List Res->Nat->Bool->Prop) (Jx:Ex->List Res->Nat->Bool->Prop)
  (h0:J 0 sg0 s.gh.k s.gh.st)
  (hr:∀k v k' sg gk gst,nx k v k'->J k sg gk gst->ps.length=v.length/\GoC E x (assT fun s'=>GoC E y (rndE p (J k') Jx) s') ⟨bindT tm1 ps v,sg,⟨p,gk,gst⟩⟩)
  (hend:∀k sg gk gst,fin k->J k sg gk gst->T .normal ⟨tm1,sg,⟨s.gh.p,gk,gst⟩⟩)
  (hx:∀e sg gk gst,e ≠ .normal->Jx e sg gk gst->T e ⟨tm1,sg,⟨s.gh.p,gk,gst⟩⟩):GoC E (.rng pf ps x y) T s:=fun X hX code nm nm' hc C a hrel=>by
 cases code<;>simp only[compC]at hc<;>try ((repeat' (split at hc))<;>cases hc)
 rename_i g pst as bd _ _ n1 _ hps hg hc1 hc2
 have e2:=ev_ok hrel hg hf
 simp only[RV]at e2
 obtain⟨lb,hlb,hcap⟩:=e2
 have hcap0:RV0s C.imm C.w cap' lb:=mapPu_ok (frz_pu 8) cap _ _ hpu hfz hcap
 obtain⟨rho',hrel0⟩:=hm X C a hrel
 refine wpIn_rangeFunc fun fn hfn=>?_
 obtain⟨l,mark,w1,dd,he,hbel,hl0,hl1,hrec,hmark⟩:=enter_any (P:=X.P) hX.wide C.w (fun l hl=>(hrel.round l hl).2) fn a.tmps pst as bd
 have hrun:∀args w,(callFunc f args).run X.P w = .ok (.enter f args) w:=fun args w=>callFunc_run (by rw[hX.P];exact hb) args w
 have hargs:lb.toArray=lb.toArray:=rfl
 refine⟨l,mark,w1,{ target:=.fn (.func f) lb.toArray,args := #[.func (.yield l) #[] #[]] },w1,f,#[.func (.yield l) #[] #[]]++lb.toArray,w1,he,?_,fun f' _=>hX.fn f',?_,fun e=>?_,?_⟩
 ·simp only[resolve,hlb]
  simp[go_sem]
 ·simp[invoke,go_sem,hrun]
 ·have hd:X.F.depth=none:=by rcases hX.wide with e|⟨l,e⟩<;>rw[e]<;>rfl
  rw[hd]at e;cases e
 -- the state at the loop's beginning
 obtain⟨hr1,hlat⟩:=hrel0.call w1 C.imm hbel (hX.kgrow _ _ _ _ _ _ hrel0.keep hbel) (fun b hb=>hb) (fun b hb=>.inl hb)
 have hlo:X.lo<=C.w.heap.size:=hX.klo _ _ _ _ _ hrel.keep
 let C1:Ctx:=⟨C.imm,newB C.w w1 C.T,rho',w1,C.l⟩
 let a1:Act:={ a with defers:=mark++a.defers }
 have hT1:C1.T l:=.inr ⟨hl0,hl1⟩
 have hrelX:Rel X C1 ⟨tm1,sg0,s.gh⟩ a1:=by
  refine⟨hr1.size,hr1.tm,hr1.sg,hr1.dis,hr1.imm,hr1.imm0,hr1.T,hr1.keep,?_,hr1.round,hr1.pin⟩
  obtain⟨ds,d1,d2,d3⟩:=hr1.marks
  have d1':a.defers=ds.map (fun D=>{ target:=.collected D,args := #[] }):=d1
  obtain⟨ds0,q1,q2,q3⟩:=hrel.marks
  rcases hmark with hmk|⟨D,hmk,k1,k2,k3⟩
  ·exact⟨ds,by show mark++a.defers=_;rw[hmk,d1'];rfl,d2,d3⟩
  ·have hds:ds0=ds:=by
    have:ds0.map (fun D=>({ target:=.collected D,args := #[] }:Deferred))=ds.map (fun D=>{ target:=.collected D,args := #[] }):=q1.symm.trans d1'
    exact List.map_inj_right (fun x y hxy=>by simpa using hxy) |>.1 this
   subst hds
   refine⟨D::ds0,by show mark++a.defers=_;rw[hmk,d1'];rfl,List.nodup_cons.2 ⟨fun hD=>?_,d2⟩,fun D' hD'=>?_⟩
   ·have:=hrel.T D (q3 D hD).1;omega
   ·rcases List.mem_cons.1 hD' with rfl|hD'
    ·exact⟨.inr ⟨k1,k2⟩,k3⟩
    ·exact d3 D' hD'
 have hrelB:Rel (btwX X C1) C1 ⟨tm1,sg0,⟨p,s.gh.k,s.gh.st⟩⟩ a1:=
  ⟨hrelX.size,hrelX.tm,hrelX.sg,hrelX.dis,fun b hb=>⟨.inl hb,(hrelX.imm b hb).2⟩,fun b hb=>hb,hrelX.T,hrelX.keep,hrelX.marks,hrelX.round,fun i o _ ho=>ho,hrelX.pin.2⟩
 have himm1:∀b,C1.imm b->Mem C1.w b:=fun b hb=>(hrelX.imm b hb).2
 have hlo1:X.lo<=C1.w.heap.size:=Nat.le_trans hlo hbel.size
 have hJ0:RJ (btwX X C1) C1 a1 tm1 p l fn pst as bd J Jx 0 false ⟨fun b=>¬False/\(C1.T b\/C1.l.S.s b),fun _=>False⟩ w1:=
  ⟨C1,sg0,s.gh.k,s.gh.st,_,rfl,hrelB,⟨fun _=>Iff.rfl,fun _ hb=>hb.elim⟩,fun _ h=>h,fun b hb=>⟨hb,rfl⟩,hrec,rfl,rfl,rfl,rfl,rfl, .inl ⟨rfl,rfl,rfl,h0⟩⟩
 have hit':=hit C.imm w1 lb l (RJ (btwX X C1) C1 a1 tm1 p l fn pst as bd J Jx) ⟨fun b=>¬False/\(C1.T b\/C1.l.S.s b),fun _=>False⟩ himm1 (RV0s.mono hlat.pers _ _ hcap0) (fun _ hb=>hb.elim)
  (fun k st S w2 hj b hb=>by
   obtain⟨C2,sg2,gk2,gst2,r2,rfl,k1,k2,_⟩:=hj
   rcases hb with hb|hb
   ·rcases((k2.1 b).1 hb).2 with q|q
    ·exact k1.T b q
    ·exact((hX.kS _ _ _ _ _ k1.keep).1 b q).1
   ·exact k1.T b (k2.2 b hb).2)
  (fun k st S w2 w3 hj hrch=>hj.reach hX himm1 hlo1 hT1 hrch)
  (fun k k' S w2 v xs Q hj _ hQ hv hxs=>by
   rw[<- hX.P]
   exact hj.yield hX (Nat.le_trans hlo hl0) hlo1 hT1 hrelX.pin.2.1 hrelX.imm0 (fun b hb=>(hrelX.imm b hb).1) hrelX.tm hlt hc1 hc2 hps hr hQ hv hxs)
  hJ0
 rw[<- hX.P]at hit'
 have hin:CallsIn X.F (X.n-1) X.P f (#[.func (.yield l) #[] #[]]++lb.toArray) w1 (fun e w'=>∃v k st S',e = .returned v/\RJ (btwX X C1) C1 a1 tm1 p l fn pst as bd J Jx k st S' w'/\(st=false->fin k)):=by
  have h3:CallsIn Fence.wide (X.n-1) X.P f (#[.func (.yield l) #[] #[]]++lb.toArray) w1 _:=callsIn_wide.2 hit'
  rcases hX.wide with e|⟨l',e⟩<;>rw[e]
  ·exact h3
  ·exact CallsIn.inRound l' h3
 refine hin.mono fun e w2 hh=>?_
 obtain⟨v,k,st,S',rfl,hj,hk⟩:=hh
 obtain⟨C2,sg2,gk2,gst2,r2,rfl,k1,k2,k3,k4,k5,k6,k7,k8,k9,k10,k11⟩:=hj
 have hback:Rel X ⟨C2.imm,C2.T,C2.rho,C2.w.putObj l (.loop { r2 with state:=.exhausted }),C2.l⟩ ⟨tm1,sg2,⟨s.gh.p,gk2,gst2⟩⟩ a1:=by
  have hput:∀b,b≠l->(C2.w.putObj l (.loop { r2 with state:=.exhausted })).heap[b]?=C2.w.heap[b]?:=fun b hb=>World.putObj_heap_other hb
  have hlt2:l<C2.w.heap.size:=(Array.getElem?_eq_some_iff.1 k5).1
  have hsame:∀b,Mem C2.w b->(C2.T b\/C2.imm b)->(C2.w.putObj l (.loop { r2 with state:=.exhausted })).heap[b]?=C2.w.heap[b]?:=fun b hcl _=>hput b fun e=>by
   obtain⟨o,hcl,ho⟩:=hcl
   rw[e,k5]at hcl;cases hcl;cases ho
  refine k1.move (Y:=X) _ hsame (by rw[size_putObj];exact Nat.le_refl _) hrelX.size (k1.later_tm hsame) (fun b hb=>?_) (fun b hb=>k1.imm0 b (hrelX.imm0 b hb)) ?_ ?_ (fun l' hl'=>?_) ⟨fun i o hi ho=>?_,k1.pin.2⟩
  ·rcases(k1.imm b hb).1 with q|q
   ·exact(hrelX.imm b q).1.imp id (k3 b)
   ·exact .inr q
  ·exact hX.kobj _ _ _ _ _ _ _ _ k1.keep (k3 l hT1) (Nat.le_trans hlo hl0) (fun hh=>by
    obtain⟨o,q1,q2⟩:=(k1.imm l (k1.pin.2.2 l hh)).2
    rw[k5]at q1;cases q1;cases q2) k5
  ·obtain⟨ds,d1,d2,d3⟩:=k1.marks
   refine⟨ds,d1,d2,fun D hD=>⟨(d3 D hD).1,(hput D fun e=>?_).trans (d3 D hD).2⟩⟩
   have:=(d3 D hD).2
   rw[e,k5]at this;cases this
  ·obtain⟨q1,r',q2⟩:=k1.round l' hl'
   refine⟨q1,?_⟩
   by_cases e:l'=l
   ·subst e;exact⟨_,World.putObj_heap_same hlt2⟩
   ·exact⟨r',(hput l' e).trans q2⟩
  ·exact k1.pin.1 i o (subN_ok hp i hi) (hrelX.pin.1 i o hi ho)
 obtain⟨C3,hC3,hback⟩:∃C3:Ctx,C2.w.putObj l (.loop { r2 with state:=.exhausted })=C3.w/\Rel X C3 ⟨tm1,sg2,⟨s.gh.p,gk2,gst2⟩⟩ a1:=⟨_,rfl,hback⟩
 have hend3:r2.state ≠ .busy->(Instr.endLoop l).run X.P C2.w = .ok r2.pending C3.w:=fun hne=>by rw[<- hC3];exact run_endLoop k5 hne
 clear hC3
 rcases k11 with⟨rfl,q1,q2,q3⟩|⟨rfl,q1,e,q2,q3,q4⟩
 ·refine⟨r2.pending,C3.w,hend3 (by rw[q1];simp),?_⟩
  rw[q2]
  refine⟨_,_,rfl,hback,hend _ _ _ _ (hk rfl) q3⟩
 ·refine⟨r2.pending,C3.w,hend3 (by rw[q1];simp),?_⟩
  rw[q3]
  have ht:=hx e sg2 gk2 gst2 q2 q4
  cases e with
  |normal=>exact absurd rfl q2
  |ret=>exact wpIn_ret ⟨_,_,rfl,hback,ht⟩
  |exit id=>exact wpIn_exit ⟨_,_,rfl,hback,ht⟩
theorem go_rng{E:Env}{T:Ex->St->Prop}{s:St}{pf:Opd}{ps:List Nat}{x y:CI}{f:FuncId}{cap cap':List AV}(ys:List (List AV))(hf:s.ev pf=some (.fn f cap))(hpu:AV.puL cap=true)(hfz:AV.frzL s.sg 8 cap=some cap')(hb:bodied E.P f=true)(hit:ItA E.P f cap' ys)
  (p:List Nat) (hp:subN s.gh.p p=true) (tm1:List (Nat × AV)) (sg0:List Res) (hm:MeetsR s ⟨tm1,sg0,s.gh⟩) (hlt:refsLt p tm1=true) (J:Nat->List Res->Nat->Bool->Prop) (Jx:Ex->List Res->Nat->Bool->Prop)
  (h0:J 0 sg0 s.gh.k s.gh.st)
  (hr:∀k v sg gk gst,ys[k]?=some v->J k sg gk gst->ps.length=v.length/\GoC E x (assT fun s'=>GoC E y (rndE p (J (k+1)) Jx) s') ⟨bindT tm1 ps v,sg,⟨p,gk,gst⟩⟩)
  (hend:∀sg gk gst,J ys.length sg gk gst->T .normal ⟨tm1,sg,⟨s.gh.p,gk,gst⟩⟩)
  (hx:∀e sg gk gst,e ≠ .normal->Jx e sg gk gst->T e ⟨tm1,sg,⟨s.gh.p,gk,gst⟩⟩):GoC E (.rng pf ps x y) T s:=
 go_rngG (lsNx ys) (· = ys.length) hf hpu hfz hb hit p hp tm1 sg0 hm hlt J Jx h0 (fun k v k' sg gk gst hn hj=>by obtain⟨hn,rfl⟩:=hn;exact hr k v sg gk gst hn hj)
  (fun k sg gk gst hk hj=>by subst hk;exact hend sg gk gst hj) hx
def setK:List Res->Nat->Res->(List Res->Prop)->Prop
 | [],_,_,k=>k []
 |_::xs,0,r,k=>k (r::xs)
 |x::xs,n+1,r,k=>setK xs n r fun l=>k (x::l)
theorem setK_iff:∀(l:List Res) (n:Nat) (r:Res) (k:List Res->Prop),setK l n r k<->k (l.set n r)
 | [],_,_,_=>Iff.rfl
 |_::_,0,_,_=>Iff.rfl
 |x::xs,n+1,r,k=>setK_iff xs n r _
def getR:List Res->Nat->Res
 | [],_=>.dead
 |r::_,0=>r
 |_::rs,n+1=>getR rs n
theorem getR_eq:∀(l:List Res) (n:Nat),getR l n=l.getD n .dead
 | [],n=>by simp[getR]
 |r::l,0=>by simp[getR]
 |r::l,n+1=>by simp[getR,getR_eq l n]
def dropA:Nat->List AV->List AV
 |0,l=>l
 |_+1,[]=>[]
 |n+1,_::l=>dropA n l
theorem dropA_eq:∀(n:Nat) (l:List AV),dropA n l=l.drop n
 |0,l=>by simp[dropA]
 |n+1,[]=>by simp[dropA]
 |n+1,a::l=>by simp[dropA,dropA_eq n l]
def takeK:Nat->List AV->(List AV->Prop)->Prop
 |0,_,k=>k []
 |_+1,[],_=>False
 |n+1,a::l,k=>takeK n l fun r=>k (a::r)
theorem takeK_ok:∀(n:Nat) (l:List AV) (k:List AV->Prop),takeK n l k->n<=l.length/\k (l.take n)
 |0,l,k,h=>by simpa[takeK]using h
 |n+1,[],k,h=>h.elim
 |n+1,a::l,k,h=>by
  obtain⟨h1,h2⟩:=takeK_ok n l _ h
  exact⟨by simp;omega,by simpa using h2⟩
def ldK(ag:Bool)(n:Nat)(cs:List AV)(k:AV->Prop):Prop:=
 match ag with
 |true=>takeK n cs fun l=>k (.agg l)
 |false=>match cs with
  |v::_=>k v
  | []=>False
theorem ldK_ok{ag:Bool}{n:Nat}{cs:List AV}{k:AV->Prop}(h:ldK ag n cs k):∃v,evX.ldC ag n cs=some v/\k v:=by
 cases ag with
 |true=>
  obtain⟨h1,h2⟩:=takeK_ok _ _ _ h
  exact⟨_,by simp only[evX.ldC,h1,if_true],h2⟩
 |false=>
  cases cs with
  |nil=>exact h.elim
  |cons v cs=>exact⟨v,rfl,h⟩
def spliceK:List AV->Nat->List AV->(List AV->Prop)->Prop
 |cs,0,vs,k=>go cs vs k
 | [],_+1,vs,k=>k vs
 |c::cs,n+1,vs,k=>spliceK cs n vs fun l=>k (c::l)
where
 go:List AV->List AV->(List AV->Prop)->Prop
  |cs,[],k=>k cs
  | [],vs,k=>k vs
  |_::cs,v::vs,k=>go cs vs fun l=>k (v::l)
theorem spliceK_go:∀(cs vs:List AV) (k:List AV->Prop),spliceK.go cs vs k<->k (vs++cs.drop vs.length)
 |cs,[],k=>by cases cs<;>simp[spliceK.go]
 | [],v::vs,k=>by simp[spliceK.go]
 |c::cs,v::vs,k=>by simp[spliceK.go,spliceK_go cs vs]
theorem spliceK_iff:∀(cs:List AV) (n:Nat) (vs:List AV) (k:List AV->Prop),spliceK cs n vs k<->k (splice cs n vs)
 |cs,0,vs,k=>by cases cs<;>simp[spliceK,splice,spliceK_go]
 | [],n+1,vs,k=>by simp[spliceK,splice]
 |c::cs,n+1,vs,k=>by simp[spliceK,splice,spliceK_iff cs n vs]
abbrev Tm:=List (Nat × AV)
structure BrB(b:Bool)(A B:Prop):Prop where
 t:b=true->A
 f:b=false->B
structure WrE(k:IntKind)(x:Int)(K:Int->Prop):Prop where
 out:K (k.wrap x)
structure Need(p A:Prop):Prop where
 c:p
 out:A
structure IaE(es:List (List AV))(i:Int)(K:List AV->Prop):Prop where
 lo:0<=i
 hi:i<es.length
 out:K (es.getD i.toNat [])
structure SlE(sz:Nat)(es:List (List AV))(lo hi:Int)(K:List (List AV)->Prop):Prop where
 a:0<=lo
 b:lo<=hi
 c:hi<=es.length
 d:∀e∈es,e.length=sz
 out:K ((es.take hi.toNat).drop lo.toNat)
structure ApE(sz bytes:Nat)(xs ys:List (List AV))(K:Prop):Prop where
 a:∀e∈ys,e.length=sz/\e.all AV.one=true
 b:(xs.length+ys.length)*bytes<=140737488355328
 out:K
structure MkE(bytes:Nat)(n m:Int)(K:Prop):Prop where
 a:0<=n
 b:n<=m
 c:(bytes:Int)*m<=281474976710656
 out:K
theorem mkI{bytes:Nat}{n m:Int}{K:Prop}(h0:0<=n)(h1:n<=m)(h2:(bytes:Int)*m<=281474976710656)(hk:K):MkE bytes n m K:=⟨h0,h1,h2,hk⟩
structure CallQ(P:Program)(sg:List Res)(f:FuncId)(args:List AV)(k:AV->Prop):Prop where
 out:CallE P sg f args k
structure VCallQ(P:Program)(fl:Bool)(sg:List Res)(g:AV)(args:List AV)(k:List (Nat × Res)->AV->Prop)(Y:Prop):Prop where
 out:VCallE P sg g args (k [])\/(fl=true/\((∃f caps lend,g = .fn f caps/\bodied P f=true/\CallWi P sg 0 0 f (args++caps) k lend)\/Y))
structure CallZQ(P:Program)(fl:Bool)(sg:List Res)(nm ct:Nat)(f:FuncId)(args:List AV)(k:List (Nat × Res)->AV->Prop):Prop where
 out:CallZ P sg nm ct f args k\/(fl=true/\CallX P sg nm ct f args k)
structure YldQ(E:Env)(fl:Bool)(sg:List Res)(gh:Gh)(args:List AV)(k:List (Nat × Res)->Gh->AV->Prop):Prop where
 out:(gh.st=false/\∃v z k',E.nx gh.k v k'/\((z=[]/\v=args/\AV.flatL args=true)\/(fl=true/\AV.reachL sg args=some z/\AV.frzL sg 8 args=some v))/\k z ⟨gh.p,k',false⟩ (.bool true)/\k z ⟨gh.p,k',true⟩ (.bool false))\/(fl=true/\YldL E sg gh args (k []))
structure AltQ(A B:Prop):Prop where
 a:A
 b:B
structure LoopQ(E:Env)(b:CI)(T:Ex->St->Prop)(s:St):Prop where
 out:GoC E (.loop b) T s
structure RngQ(E:Env)(f:Opd)(ps:List Nat)(x y:CI)(T:Ex->St->Prop)(s:St):Prop where
 out:GoC E (.rng f ps x y) T s
theorem bT{A B:Prop}(h:A):BrB true A B:=⟨fun _=>h,fun e=>absurd e (by decide)⟩
theorem bF{A B:Prop}(h:B):BrB false A B:=⟨fun e=>absurd e (by decide),fun _=>h⟩
theorem bS{b:Bool}{A B:Prop}(h:b=true->A)(k:b=false->B):BrB b A B:=⟨h,k⟩
theorem bD{p:Prop}[Decidable p]{A B:Prop}(h:p->A)(k:¬p->B):BrB (decide p) A B:=⟨fun e=>h (of_decide_eq_true e),fun e=>k (of_decide_eq_false e)⟩
theorem bN{b:Bool}{A B:Prop}(h:BrB b B A):BrB (!b) A B:=⟨fun e=>h.2 (by simpa using e),fun e=>h.1 (by simpa using e)⟩
theorem bEq{x y:Int}{A B:Prop}(h:x=y->A)(k:x≠y->B):BrB (x==y) A B:=⟨fun e=>h (by simpa using e),fun e=>k (by simpa using e)⟩
theorem bNe{x y:Int}{A B:Prop}(h:x≠y->A)(k:x=y->B):BrB (x != y) A B:=⟨fun e=>h (by simpa using e),fun e=>k (by simpa using e)⟩
theorem wAny{k:IntKind}{x:Int}{K:Int->Prop}(h:K (k.wrap x)):WrE k x K:=⟨h⟩
theorem wIn{x:Int}{K:Int->Prop}(h : -9223372036854775808<=x/\x<=9223372036854775807)(hk:K x):WrE .i64 x K:=⟨wrE_in h hk⟩
theorem nI{p A:Prop}(h:p)(k:A):Need p A:=⟨h,k⟩
theorem iaI{es:List (List AV)}{i:Int}{K:List AV->Prop}{cs:List AV}(h0:0<=i)(h1:i<es.length)(hc:es.getD i.toNat []=cs)(hk:K cs):IaE es i K:=⟨h0,h1,by rw[hc];exact hk⟩
theorem apI{sz bytes:Nat}{xs ys:List (List AV)}{K:Prop}(h1:∀e∈ys,e.length=sz/\e.all AV.one=true)(h2:(xs.length+ys.length)*bytes<=140737488355328)(hk:K):ApE sz bytes xs ys K:=⟨h1,h2,hk⟩
theorem yI{P:Program}{N:Nat}{ys:List (List AV)}{fl:Bool}{sg:List Res}{gh:Gh}{args:List AV}{k:List (Nat × Res)->Gh->AV->Prop}(h0:gh.st=false)(h1:ys[gh.k]?=some args)(h2:AV.flatL args=true)(h3:k [] ⟨gh.p,gh.k+1,false⟩ (.bool true))(h4:k [] ⟨gh.p,gh.k+1,true⟩ (.bool false)):YldQ (env3 P N ys) fl sg gh args k:=⟨.inl ⟨h0,args,[],_,⟨h1,rfl⟩, .inl ⟨rfl,rfl,h2⟩,h3,h4⟩⟩
theorem yL{E:Env}{sg:List Res}{gh:Gh}{i sz:Nat}{el:TypeId}{es:List (List AV)}{k:List (Nat × Res)->Gh->AV->Prop}(k':Nat)(h0:gh.st=false)(hr:sg.getD i .dead = .row false el sz es)(hf:AV.flatL es.flatten=true)(h1:E.lx gh.k el sz es k')(h3:k [] ⟨gh.p,k',false⟩ (.bool true))(h4:k [] ⟨gh.p,k',true⟩ (.bool false)):YldQ E true sg gh [.row i] k:=⟨.inr ⟨rfl,⟨h0,i,el,sz,es,k',rfl,hr,hf,h1,h3,h4⟩⟩⟩
theorem FnA.callq{P:Program}{sg:List Res}{f:FuncId}{args args':List AV}{R k:AV->Prop}(h:FnA P f args' R)(hr:AV.puL args=true)(hz:AV.frzL sg 8 args=some args')(hk:∀r,R r->k r):CallQ P sg f args k:=⟨h.call hr hz hk⟩
theorem FnA.lendq{P:Program}{sg:List Res}{f:FuncId}{args args':List AV}{R k:AV->Prop}(h:FnA P f args' R)(hr:AV.frzL sg 8 args=some args')(hk:∀r,R r->r.flat=true/\k r):CallQ P sg f args k:=⟨h.lend hr hk⟩
theorem FnO.callzq{P:Program}{fl:Bool}{sg:List Res}{nm ct:Nat}{f:FuncId}{args args':List AV}{z:List (Nat × Res)}{R:AV->List (Nat × Res)->Prop}{k:List (Nat × Res)->AV->Prop}(h:FnO P f args' R)(hz:AV.reachL sg args=some z)(hr:AV.frzL sg 8 args=some args')(hk:∀r rows,R r rows->rowsB ct rows=true/\k (z++nameR rows nm) (r.rnr (posN rows nm))):CallZQ P fl sg nm ct f args k:=⟨.inl (h.callz hz hr hk)⟩
theorem FnA.callzq{P:Program}{fl:Bool}{sg:List Res}{nm ct:Nat}{f:FuncId}{args args':List AV}{z:List (Nat × Res)}{R:AV->Prop}{k:List (Nat × Res)->AV->Prop}(h:FnA P f args' R)(hz:AV.reachL sg args=some z)(hr:AV.frzL sg 8 args=some args')(hk:∀r,R r->k z r):CallZQ P fl sg nm ct f args k:=⟨.inl (h.callz hz hr hk)⟩
theorem FnO.calllq{P:Program}{fl:Bool}{sg:List Res}{nm ct:Nat}{f:FuncId}{args args':List AV}{z:List (Nat × Res)}{R:AV->List (Nat × Res)->Prop}{k:List (Nat × Res)->AV->Prop}(h:FnO P f args' R)(hz:AV.reachL sg args=some z)(hr:AV.frzL sg 8 args=some args')(hk:∀r rows,R r rows->rowsB ct rows=true/\flatRB rows=true/\r.flatR=true/\k (nameR rows nm) (r.rnr (posN rows nm))):CallZQ P fl sg nm ct f args k:=⟨.inl ⟨args',z,hz, .inl hr, .inr (.inr ⟨R,h,hk⟩)⟩⟩
theorem FnV.vcallq{Y:Prop}{P:Program}{fl:Bool}{sg:List Res}{g g':AV}{args args':List AV}{R:AV->Prop}{k:List (Nat × Res)->AV->Prop}(h:FnV P g' args' R)(h0:AV.pu g=true)(h1:AV.puL args=true)(h2:AV.frz sg 8 g=some g')(h3:AV.frzL sg 8 args=some args')(hk:∀r,R r->k [] r):VCallQ P fl sg g args k Y:=⟨.inl (.inl ⟨g',args',R,h0,h1,h2,h3,h,hk⟩)⟩
def evBinQ(op:BinOp)(k:IntKind)(a b:Int)(K:AV->Prop):Prop:=
 match op with
 |.add=>WrE k (a+b) fun c=>K (.int k c)
 |.sub=>WrE k (a-b) fun c=>K (.int k c)
 |.mul=>WrE k (a*b) fun c=>K (.int k c)
 |.quo=>Need (b≠0) (WrE k (a.tdiv b) fun c=>K (.int k c))
 |.rem=>Need (b≠0) (K (.int k (a.tmod b)))
 |.eql=>K (.bool (a==b))
 |.neq=>K (.bool (a != b))
 |.lss=>K (.bool (decide (a<b)))
 |.leq=>K (.bool (decide (a<=b)))
 |.gtr=>K (.bool (decide (b<a)))
 |.geq=>K (.bool (decide (b<=a)))
 |.and=>K (.int k (bitI .and k a b))
 |.or=>K (.int k (bitI .or k a b))
 |.xor=>K (.int k (bitI .xor k a b))
 |.andNot=>K (.int k (bitI .andNot k a b))
 |.shl=>Need (0<=b) (K (.int k (k.wrap (a*2 ^ min b.toNat k.bits))))
 |.shr=>Need (0<=b) (K (.int k (a.fdiv (2 ^ min b.toNat k.bits))))
def ev(tm:Tm):Opd->Option AV
 |.t i=>look tm i
 |.c v=>some v
def evlK(tm:Tm):List Opd->(List AV->Prop)->Prop
 | [],k=>k []
 |x::xs,k=>match ev tm x with
  |some v=>evlK tm xs fun l=>k (v::l)
  |none=>False
theorem evlK_ok{tm:Tm}{sg:List Res}{gh:Gh}:∀ {ps:List Opd} {k:List AV->Prop},evlK tm ps k->∃vs,(St.mk tm sg gh).evl ps=some vs/\k vs
 | [],k,h=>⟨[],rfl,h⟩
 |p::ps,k,h=>by
  simp only[evlK]at h
  split at h
  ·rename_i v hv
   obtain⟨vs,h1,h2⟩:=evlK_ok (sg:=sg) (gh:=gh) (ps:=ps) h
   have hv':(St.mk tm sg gh).ev p=some v:=by cases p<;>exact hv
   exact⟨v::vs,by simp only[St.evl,hv',h1],h2⟩
  ·exact h.elim
def buildK(tm:Tm):List AV->List (Nat × Nat × Opd)->(List AV->Prop)->Prop
 |cs,[],k=>k cs
 |cs,(off,n,x)::r,k=>match ev tm x with
  |some (.agg vs)=>match decide (vs.length=n),decide (off+n<=cs.length)with
   |true,true=>spliceK cs off vs fun cs'=>buildK tm cs' r k
   |_,_=>False
  |some v=>match decide (n=1),decide (off+1<=cs.length),v.one with
   |true,true,true=>spliceK cs off [v] fun cs'=>buildK tm cs' r k
   |_,_,_=>False
  |none=>False
theorem buildK_ok{tm:Tm}{sg:List Res}{gh:Gh}:∀ {qs:List (Nat × Nat × Opd)} {cs:List AV} {k:List AV->Prop},buildK tm cs qs k->∃l,evX.evBuild (St.mk tm sg gh) cs qs=some l/\k l
 | [],cs,k,h=>⟨cs,rfl,h⟩
 |(off,n,x)::qs,cs,k,h=>by
  have hev:(St.mk tm sg gh).ev x=ev tm x:=by cases x<;>rfl
  simp only[buildK]at h
  split at h
  ·rename_i vs hv
   split at h
   ·rename_i h1 h2
    have h1':=of_decide_eq_true h1
    have h2':=of_decide_eq_true h2
    rw[spliceK_iff]at h
    obtain⟨l,h3,h4⟩:=buildK_ok h
    exact⟨l,by simp only[evX.evBuild,hev,hv];rw[if_pos ⟨h1',h2'⟩];exact h3,h4⟩
   ·exact h.elim
  ·rename_i v hna hv
   split at h
   ·rename_i h1 h2 h5
    have h1':=of_decide_eq_true h1
    have h2':=of_decide_eq_true h2
    rw[spliceK_iff]at h
    obtain⟨l,h3,h4⟩:=buildK_ok h
    refine⟨l,?_,h4⟩
    simp only[evX.evBuild,hev,hv]
    cases v with
    |agg vs=>exact absurd rfl (hna vs)
    |_=>rw[if_pos ⟨h1',h5,h2'⟩];exact h3
   ·exact h.elim
  ·exact h.elim
def cellsP(ag:Bool)(v:AV)(K:List AV->Prop):Prop:=
 match ag with
 |true=>match v with
  |.agg cs=>K cs
  |_=>False
 |false=>match v.one with
  |true=>K [v]
  |false=>False
theorem cellsP_ok{ag:Bool}{v:AV}{K K':List AV->Prop}(h:cellsP ag v K)(hk:∀vs,K vs->K' vs):cellsK ag v K':=by
 cases ag with
 |true=>
  simp only[cellsP]at h
  split at h
  ·exact hk _ h
  ·exact h.elim
 |false=>
  simp only[cellsP]at h
  split at h
  ·rename_i h1;exact⟨h1,hk _ h⟩
  ·exact h.elim
def oneP(vs:List AV)(A:Prop):Prop:=
 match vs.all AV.one with
 |true=>A
 |false=>False
theorem oneP_ok{vs:List AV}{A:Prop}(h:oneP vs A):need (vs.all AV.one=true) A:=by
 unfold oneP at h
 split at h
 ·rename_i h1;exact⟨h1,h⟩
 ·exact h.elim
def neP(tm:Tm)(i:Nat):List Opd->Bool
 | []=>true
 |p::ps=>match ev tm p with
  |some v=>match v.refsIn fun j=>j != i with
   |true=>neP tm i ps
   |false=>false
  |none=>false
theorem neP_ok{tm:Tm}{sg:List Res}{gh:Gh}{i:Nat}:∀ {ps:List Opd},neP tm i ps=true->neOk ⟨tm,sg,gh⟩ i ps=true
 | [],_=>rfl
 |p::ps,h=>by
  have hev:(St.mk tm sg gh).ev p=ev tm p:=by cases p<;>rfl
  simp only[neP]at h
  simp only[neOk,hev]
  split at h
  ·rename_i v hv
   split at h
   ·rename_i h1;simp only[hv,h1,Bool.true_and];exact neP_ok h
   ·cases h
  ·cases h
def neLP(tm:Tm)(us:List AV):List Opd->Bool
 | []=>true
 |p::ps=>match ev tm p with
  |some v=>match apartVs v us with
   |true=>neLP tm us ps
   |false=>false
  |none=>false
theorem neLP_ok{tm:Tm}{sg:List Res}{gh:Gh}{us:List AV}:∀ {ps:List Opd},neLP tm us ps=true->neOkL ⟨tm,sg,gh⟩ us ps=true
 | [],_=>rfl
 |p::ps,h=>by
  have hev:(St.mk tm sg gh).ev p=ev tm p:=by cases p<;>rfl
  simp only[neLP]at h
  simp only[neOkL,hev]
  split at h
  ·rename_i v hv
   split at h
   ·rename_i h1;simp only[hv,h1,Bool.true_and];exact neLP_ok h
   ·cases h
  ·cases h
def setLK:List Res->List (Nat × Res)->(List Res->Prop)->Prop
 |sg,[],k=>k sg
 |sg,(i,r)::l,k=>setK sg i r fun sg'=>setLK sg' l k
theorem setLK_iff:∀(l:List (Nat × Res)) (sg:List Res) (k:List Res->Prop),setLK sg l k<->k (setL sg l)
 | [],_,_=>Iff.rfl
 |(i,r)::l,sg,k=>by simp only[setLK,setL,setK_iff];exact setLK_iff l _ k
def rowsK(sg:List Res)(sz:Nat):List AV->(List (List AV)->List (Nat × Res)->Prop)->Prop
 | [],k=>k [] []
 |v::vs,k=>match cellsO sz v with
  |some cs=>match AV.reachL sg cs with
   |some z=>match AV.frzL sg 8 cs with
    |some cs'=>rowsK sg sz vs fun es zs=>k (cs'::es) (z++zs)
    |none=>False
   |none=>False
  |none=>False
theorem rowsK_ok{sg:List Res}{sz:Nat}:∀ {vs:List AV} {k:List (List AV)->List (Nat × Res)->Prop},rowsK sg sz vs k->∃es z,rowsO sg sz vs=some (es,z)/\k es z
 | [],k,h=>⟨[],[],rfl,h⟩
 |v::vs,k,h=>by
  simp only[rowsK]at h
  split at h
  ·rename_i cs h1
   split at h
   ·rename_i z h2
    split at h
    ·rename_i cs' h3
     obtain⟨es,zs,h4,h5⟩:=rowsK_ok h
     exact⟨_,_,by simp only[rowsO,h1,h2,h3,h4],h5⟩
    ·exact h.elim
   ·exact h.elim
  ·exact h.elim
def boP(tm:Tm):Option Opd->Option Int
 |none=>some 0
 |some p=>match ev tm p with
  |some (.int _ n)=>some n
  |_=>none
theorem boP_eq{tm:Tm}{sg:List Res}{gh:Gh}(p:Option Opd):boP tm p=boV ⟨tm,sg,gh⟩ p:=by
 cases p with
 |none=>rfl
 |some q=>cases q<;>rfl
def evP(E:Env)(d:Option Nat)(o:Ixo)(tm:Tm)(sg:List Res)(gh:Gh)(k:Tm->List Res->Gh->Prop):Prop:=
 match o with
 |.mv x=>match ev tm x with
  |some v=>put v
  |none=>False
 |.pick c a b=>match ev tm c,ev tm a,ev tm b with
  |some (.bool c),some x,some y=>BrB c (put x) (put y)
  |_,_,_=>False
 |.alloc nm zs=>match getR sg nm with
  |.fresh=>setK sg nm (.box false zs) fun sg'=>put2 sg' (.own nm 0)
  |_=>False
 |.mks nm el sz bytes zs x y=>match getR sg nm,ev tm x,ev tm y with
  |.fresh,some (.int _ n),some (.int _ m)=>MkE bytes n m (setK sg nm (.row false el sz (List.replicate n.toNat zs)) fun sg'=>put2 sg' (.row nm))
  |_,_,_=>False
 |.box nm ag x=>match ev tm x,getR sg nm with
  |some v, .fresh=>cellsP ag v fun cs=>setK sg nm (.box false cs) fun sg'=>put2 sg' (.own nm 0)
  |_,_=>False
 |.build zs ps=>buildK tm zs ps fun cs=>put (.agg cs)
 |.load ag n a=>match ev tm a with
  |some (.own i off)=>match getR sg i with
   |.box _ cs=>ldK ag n (dropA off cs) put
   |_=>False
  |some (.elt i sz m j)=>match getR sg i with
   |.row _ _ sz' es=>match decide (sz'=sz)with
    |true=>IaE es m fun cs=>ldK ag n (dropA j cs) put
    |false=>False
   |_=>False
  |some (.ipt cs)=>ldK ag n cs put
  |_=>False
 |.store ag n a x ne=>match ev tm a,ev tm x with
  |some (.own i off),some v=>match getR sg i with
   |.box false cs=>cellsP ag v fun vs=>oneP vs (match decide (vs.length=n),decide (off+n<=cs.length),neP tm i ne with
    |true,true,true=>spliceK cs off vs fun cs'=>setK sg i (.box false cs') fun sg'=>k tm sg' gh
    |_,_,_=>False)
   |_=>False
  |some (.elt i sz m j),some v=>match getR sg i with
   |.row false el sz' es=>cellsP ag v fun vs=>oneP vs (match decide (sz'=sz),decide (vs.length=n),AV.puL vs,neP tm i ne with
    |true,true,true,true=>match AV.frzL sg 8 vs with
     |some vs'=>IaE es m fun cs=>match decide (j+n<=cs.length)with
      |true=>spliceK cs j vs' fun cs'=>setK sg i (.row false el sz (es.set m cs')) fun sg'=>k tm sg' gh
      |false=>False
     |none=>False
    |_,_,_,_=>False)
   |_=>False
  |_,_=>False
 |.bin op x y=>match ev tm x,ev tm y with
  |some (.int k1 a),some (.int k2 b)=>match isSh op||decide (k1=k2)with
   |true=>evBinQ op k1 a b put
   |false=>False
  |_,_=>False
 |.eqb neg x y=>match ev tm x,ev tm y with
  |some (.bool a),some (.bool b)=>match neg with
   |true=>put (.bool (a != b))
   |false=>put (.bool (a==b))
  |_,_=>False
 |.eqs neg T x y=>match ev tm x,ev tm y with
  |some (.agg as),some (.agg bs)=>match eqV T as bs with
   |some r=>match neg with
    |true=>put (.bool (!r))
    |false=>put (.bool r)
   |none=>False
  |_,_=>False
 |.un op x=>match op,ev tm x with
  |.not,some (.bool b)=>put (.bool (!b))
  |.neg,some (.int kd n)=>WrE kd (0-n) fun c=>put (.int kd c)
  |_,_=>False
 |.conv kd x=>match ev tm x with
  |some (.int _ n)=>WrE kd n fun c=>put (.int kd c)
  |_=>False
 |.faddr off x=>match ev tm x with
  |some (.own i o)=>put (.own i (o+off))
  |some (.elt i sz m j)=>put (.elt i sz m (j+off))
  |some (.ipt cs)=>put (.ipt (dropA off cs))
  |_=>False
 |.field ag n off x=>match ev tm x with
  |some (.agg cs)=>ldK ag n (dropA off cs) put
  |_=>False
 |.iaddr sz x i=>match ev tm x,ev tm i with
  |some (.isl es),some (.int _ i)=>IaE es i fun cs=>match decide (cs.length=sz)with
   |true=>put (.ipt cs)
   |false=>False
  |some (.row j),some (.int _ i)=>match getR sg j with
   |.row _ _ sz' es=>match decide (sz'=sz)with
    |true=>Need (0<=i/\i<es.length) (put (.elt j sz i.toNat 0))
    |false=>False
   |_=>False
  |_,_=>False
 |.mkfn f caps=>evlK tm caps fun vs=>put (.fn f vs)
 |.mkmt f xs=>evlK tm xs fun vs=>match AV.puL vs,AV.frzL sg 8 vs with
  |true,some vs'=>put (.mth f vs')
  |_,_=>False
 |.extract i x=>match ev tm x with
  |some (.tup vs)=>match dropA i vs with
   |v::_=>put v
   | []=>False
  |_=>False
 |.call f xs=>evlK tm xs fun vs=>CallQ E.P sg f vs put
 |.callv g xs=>match ev tm g with
  |some g=>evlK tm xs fun vs=>match isYld g with
   |true=>YldQ E false sg gh vs fun l g r=>match l with
    | []=>put3 g r
    |_::_=>False
   |false=>VCallQ E.P false sg g vs (fun l r=>match l with
    | []=>put r
    |_::_=>False) False
  |none=>False
 |.callx g xs=>match ev tm g with
  |some g=>evlK tm xs fun vs=>match isYld g with
   |true=>YldQ E true sg gh vs fun l g r=>setLK sg l fun sg'=>put4 sg' g r
   |false=>VCallQ E.P true sg g vs (fun z r=>setLK sg z fun sg'=>put2 sg' r) (VCallY E sg gh g vs fun z g r=>setLK sg z fun sg'=>put4 sg' g r)
  |none=>False
 |.len x=>match ev tm x with
  |some (.isl es)=>put (.int .i64 es.length)
  |some .nils=>put (.int .i64 0)
  |some (.row i)=>match getR sg i with
   |.row _ _ _ es=>put (.int .i64 es.length)
   |_=>False
  |_=>False
 |.slen x=>match ev tm x with
  |some (.str b)=>put (.int .i64 b.length)
  |_=>False
 |.mm mx xs=>evlK tm xs fun vs=>match vs with
  |.int kd n::vs=>match mmV mx kd n vs with
   |some m=>put (.int kd m)
   |none=>False
  |_=>False
 |.sli sz x lo hi=>match ev tm x,boP tm lo with
  |some (.isl es),some lo=>match hi with
   |none=>SlE sz es lo es.length fun es'=>put (.isl es')
   |some hi=>match boP tm (some hi)with
    |some hi=>SlE sz es lo hi fun es'=>put (.isl es')
    |none=>False
  |_,_=>False
 |.sl3 sz x hi mx=>match ev tm x,ev tm hi,ev tm mx with
  |some (.isl es),some (.int _ u),some (.int _ m)=>Need (m=u) (SlE sz es 0 u fun es'=>put (.tsl sz es'))
  |_,_,_=>False
 |.eqn neg x=>match ev tm x with
  |some .nils=>put (.bool (!neg))
  |some (.isl es)=>Need (0<es.length) (put (.bool neg))
  |some (.lit (.slice (some _) _ _))=>put (.bool neg)
  |_=>False
 |.bsl nm el sz ps ne=>match getR sg nm with
  |.fresh=>evlK tm ps fun vs=>rowsK sg sz vs fun es z=>match neLP tm vs ne with
   |true=>setLK sg z fun sg1=>setK sg1 nm (.row false el sz es) fun sg'=>put2 sg' (.row nm)
   |false=>False
  |_=>False
 |.apd nm el sz bytes x y ne=>match getR sg nm,ev tm x,ev tm y with
  |.fresh,some u,some v=>match srcO sg el sz u,addO sg sz v with
   |some (es,z),some es'=>match (apartV v u&&tslOk u es'),neLP tm [u,v] ne with
    |true,true=>ApE sz bytes es es' (match apdN u es' with
     |true=>put2 sg u
     |false=>setLK sg z fun sg1=>setK sg1 nm (.row false el sz (es++es')) fun sg'=>put2 sg' (.row nm))
    |_,_=>False
   |_,_=>False
  |_,_,_=>False
 |.callz nm ct f xs ne=>evlK tm xs fun vs=>match neLP tm vs ne with
  |true=>match freshN sg nm ct with
   |true=>CallZQ E.P false sg nm ct f vs fun z r=>setLK sg z fun sg'=>put2 sg' r
   |false=>False
  |false=>False
 |.callw nm ct f xs=>evlK tm xs fun vs=>match freshN sg nm ct with
  |true=>CallZQ E.P true sg nm ct f vs fun z r=>setLK sg z fun sg'=>put2 sg' r
  |false=>False
 |.aidx ag n m x i=>match ev tm x,ev tm i with
  |some (.agg cs),some (.int _ i)=>IdxE ag n m cs i put
  |_,_=>False
 |.sidx x i=>match ev tm x,ev tm i with
  |some (.str b),some (.int _ i)=>SdxE b i put
  |_,_=>False
 |.nilck x=>match ev tm x with
  |some (.own i o)=>put (.own i o)
  |some (.elt i sz m j)=>put (.elt i sz m j)
  |some (.ipt cs)=>put (.ipt cs)
  |some (.fn f cs)=>put (.fn f cs)
  |_=>False
 |.mkm nm=>match getR sg nm with
  |.fresh=>setK sg nm (.mp false [] []) fun sg'=>put2 sg' (.row nm)
  |_=>False
 |.mko nm=>match getR sg nm with
  |.fresh=>setK sg nm (.mpo [] []) fun sg'=>put2 sg' (.row nm)
  |_=>False
 |.paddr sz m x i=>match ev tm x,ev tm i with
  |some (.own j off),some (.int _ i)=>Need (0<=i/\i<m) (put (.own j (off+i.toNat*sz)))
  |some (.ipt cs),some (.int _ i)=>Need (0<=i/\i<m) (put (.ipt (cs.drop (i.toNat*sz))))
  |_,_=>False
 |.mpu kt m x v ne=>match ev tm m,ev tm x,ev tm v with
  |some (.row i),some kv,some vv=>match getR sg i with
   |.mp false ks us=>match AV.reach sg vv with
    |some z=>match AV.frz sg 8 vv with
     |some v'=>match memN (fstN z) i,neLP tm [.row i,vv] ne with
      |false,true=>MpuE kt ks us kv v' fun ks' us'=>setLK sg z fun sg1=>setK sg1 i (.mp false ks' us') fun sg'=>put2 sg' .gone
      |_,_=>False
     |none=>False
    |none=>False
   |.mpo ks us=>match neLP tm [.row i,vv] ne with
    |true=>MpuE kt ks us kv vv fun ks' us'=>setK sg i (.mpo ks' us') fun sg'=>put2 sg' .gone
    |false=>False
   |_=>False
  |_,_,_=>False
 |.mrg nm m ne=>match getR sg nm,ev tm m with
  |.fresh,some v=>match AV.reach sg v with
   |some z=>match AV.frz sg 8 v with
    |some (.imp ks us)=>match neLP tm [v] ne with
     |true=>setLK sg z fun sg1=>setK sg1 nm (.itr ks us [] []) fun sg'=>put2 sg' (.row nm)
     |false=>False
    |_=>False
   |none=>False
  |_,_=>False
 |.mnx x=>match ev tm x with
  |some (.row i)=>match getR sg i with
   |.itr ks us seen _=>NxE ks us seen (fun j kv uv=>setK sg i (.itr ks us (seen++[j]) [kv,uv]) fun sg'=>put2 sg' (.tup [.bool true,kv,uv])) (put (.tup [.bool false]))
   |_=>False
  |_=>False
 |.men x=>match ev tm x with
  |some (.row i)=>match getR sg i with
   |.itr _ _ _ [kv,uv]=>put (.tup [kv,uv])
   |_=>False
  |_=>False
 |.lkp kt ok z m x=>match ev tm m,ev tm x with
  |some (.imp ks us),some kv=>LkE kt ks us kv fun r=>put (lkR ok z r)
  |some (.row i),some kv=>match getR sg i with
   |.mp _ ks us=>LkE kt ks us kv fun r=>put (lkR ok z r)
   |.mpo ks us=>LkE kt ks us kv fun r=>put (lkR ok z r)
   |_=>False
  |_,_=>False
 |.stz ag n a x ne=>match ev tm a,ev tm x with
  |some (.own i off),some v=>match getR sg i with
   |.box false cs=>match neLP tm [.own i off,v] ne with
    |true=>cellsP ag v fun vs=>oneP vs (match decide (vs.length=n),decide (off+n<=cs.length)with
     |true,true=>spliceK cs off vs fun cs'=>setK sg i (.box false cs') fun sg'=>k tm sg' gh
     |_,_=>False)
    |false=>False
   |_=>False
  |some (.elt i sz m j),some v=>match getR sg i with
   |.row false el sz' es=>match AV.reach sg v with
    |some z=>match AV.frz sg 8 v with
     |some v'=>match neLP tm [.elt i sz m j,v] ne,memN (fstN z) i,decide (sz'=sz)with
      |true,false,true=>cellsP ag v' fun vs'=>oneP vs' (match decide (vs'.length=n)with
       |true=>IaE es m fun cs=>match decide (j+n<=cs.length)with
        |true=>spliceK cs j vs' fun cs'=>setLK sg z fun sg1=>setK sg1 i (.row false el sz (es.set m cs')) fun sg'=>put2 sg' .gone
        |false=>False
       |false=>False)
      |_,_,_=>False
     |none=>False
    |none=>False
   |_=>False
  |_,_=>False
 |.mlen x=>match ev tm x with
  |some (.imp ks _)=>put (.int .i64 ks.length)
  |some (.row i)=>match getR sg i with
   |.mp _ ks _=>put (.int .i64 ks.length)
   |_=>False
  |_=>False
where
 put (v:AV):Prop:=match d with
  |some d=>k ((d,v)::tm) sg gh
  |none=>k tm sg gh
 put2 (sg':List Res) (v:AV):Prop:=match d with
  |some d=>k ((d,v)::tm) sg' gh
  |none=>k tm sg' gh
 put3 (gh':Gh) (v:AV):Prop:=match d with
  |some d=>k ((d,v)::tm) sg gh'
  |none=>k tm sg gh'
 put4 (sg':List Res) (gh':Gh) (v:AV):Prop:=match d with
  |some d=>k ((d,v)::tm) sg' gh'
  |none=>k tm sg' gh'
theorem evP_ok{E:Env}{d:Option Nat}{o:Ixo}{tm:Tm}{sg:List Res}{gh:Gh}{k:Tm->List Res->Gh->Prop}(h:evP E d o tm sg gh k):evO E d o ⟨tm,sg,gh⟩ fun s=>k s.tm s.sg s.gh:=by
 have hev:∀x,(St.mk tm sg gh).ev x=ev tm x:=fun x=>by cases x<;>rfl
 have hput:∀v,evP.put d tm sg gh k v->(fun s:St=>k s.tm s.sg s.gh) (app d ⟨tm,sg,gh⟩ (.val v)):=fun v hv=>by cases d<;>exact hv
 have hput2:∀nm r v,evP.put2 d tm gh k (sg.set nm r) v->(fun s:St=>k s.tm s.sg s.gh) (app d ⟨tm,sg,gh⟩ (.new nm r v)):=fun nm r v hv=>by cases d<;>exact hv
 have hbig:∀l v,evP.put2 d tm gh k (setL sg l) v->(fun s:St=>k s.tm s.sg s.gh) (app d ⟨tm,sg,gh⟩ (.big l v)):=fun l v hv=>by cases d<;>exact hv
 have hex:∀(o:Ixo) (κ : Eff->Prop),evX E o ⟨tm,sg,gh⟩ κ -> (∀e,κ e->(fun s:St=>k s.tm s.sg s.gh) (app d ⟨tm,sg,gh⟩ e))->evO E d o ⟨tm,sg,gh⟩ fun s=>k s.tm s.sg s.gh:=fun o κ h1 h2=>evX_mono h1 h2
 have put1:∀ {o:Ixo} {v:AV},(∀ κ : Eff->Prop,κ (.val v)->evX E o ⟨tm,sg,gh⟩ κ)->evP.put d tm sg gh k v->evO E d o ⟨tm,sg,gh⟩ fun s=>k s.tm s.sg s.gh:=fun h1 h2=>h1 _ (hput _ h2)
 cases o with
 |mv x=>
  simp only[evP]at h
  split at h
  ·rename_i v hv;exact put1 (fun κ hk=>by simp only[evX,hev,hv];exact hk) h
  ·exact h.elim
 |pick c a b=>
  simp only[evP]at h
  split at h
  ·rename_i c' x y h1 h2 h3
   unfold evO
   simp only[evX,hev,h1,h2,h3]
   exact brB_mono ⟨h.1,h.2⟩ (hput _) (hput _)
  ·exact h.elim
 |alloc nm zs=>
  simp only[evP,getR_eq]at h
  split at h
  ·rename_i h1
   rw[setK_iff]at h
   unfold evO
   simp only[evX,h1]
   exact hput2 _ _ _ h
  ·exact h.elim
 |mks nm el sz bytes zs x y=>
  simp only[evP,getR_eq]at h
  split at h
  ·rename_i kl n kc m h1 h2 h3
   obtain⟨e1,e2,e3,h⟩:=h
   rw[setK_iff]at h
   unfold evO
   simp only[evX,hev,h1,h2,h3]
   exact⟨e1,e2,e3,hput2 _ _ _ h⟩
  ·exact h.elim
 |box nm ag x=>
  simp only[evP,getR_eq]at h
  split at h
  ·rename_i v h1 h2
   unfold evO
   simp only[evX,hev,h1,h2]
   exact cellsP_ok h fun cs hc=>by rw[setK_iff]at hc;exact hput2 _ _ _ hc
  ·exact h.elim
 |build zs ps=>
  simp only[evP]at h
  obtain⟨l,h1,h2⟩:=buildK_ok (sg:=sg) (gh:=gh) h
  exact put1 (fun κ hk=>by simp only[evX,h1];exact hk) h2
 |load ag n a=>
  simp only[evP,getR_eq,dropA_eq]at h
  split at h
  ·rename_i i off h1
   split at h
   ·rename_i ice cs h2
    obtain⟨v,h3,h4⟩:=ldK_ok h
    exact put1 (fun κ hk=>by simp only[evX,hev,h1,h2,h3];exact hk) h4
   ·exact h.elim
  ·rename_i i sz m j h1
   split at h
   ·rename_i ice el sz' es h2
    split at h
    ·rename_i h5
     have h5':=of_decide_eq_true h5
     obtain⟨k1,k2,h⟩:=h
     obtain⟨v,h3,h4⟩:=ldK_ok h
     exact put1 (fun κ hk=>by simp only[evX,hev,h1,h2,if_pos h5'];exact⟨k1,k2,by simp only[h3];exact hk⟩) h4
    ·exact h.elim
   ·exact h.elim
  ·rename_i cs h1
   obtain⟨v,h3,h4⟩:=ldK_ok h
   exact put1 (fun κ hk=>by simp only[evX,hev,h1,h3];exact hk) h4
  ·exact h.elim
 |store ag n a x ne=>
  simp only[evP,getR_eq]at h
  split at h
  ·rename_i i off v h1 h2
   split at h
   ·rename_i cs h3
    unfold evO
    simp only[evX,hev,h1,h2,h3]
    have fin:∀vs:List AV,need (vs.all AV.one=true) (match decide (vs.length=n),decide (off+n<=cs.length),neP tm i ne with
      |true,true,true=>spliceK cs off vs fun cs'=>setK sg i (.box false cs') fun sg'=>k tm sg' gh
      |_,_,_=>False)->need (vs.all AV.one=true) (if vs.length=n/\off+n<=cs.length/\neOk ⟨tm,sg,gh⟩ i ne=true then k tm (sg.set i (.box false (splice cs off vs))) gh else False):=fun vs hh=>by
     obtain⟨h4,h5⟩:=hh
     refine⟨h4,?_⟩
     split at h5
     ·rename_i h6 h7 h8
      rw[if_pos ⟨of_decide_eq_true h6,of_decide_eq_true h7,neP_ok h8⟩]
      rw[spliceK_iff,setK_iff]at h5
      exact h5
     ·exact h5.elim
    exact cellsP_ok h fun vs hv=>fin vs (oneP_ok hv)
   ·exact h.elim
  ·rename_i i sz m j v h1 h2
   split at h
   ·rename_i el sz' es h3
    unfold evO
    simp only[evX,hev,h1,h2,h3]
    have fin:∀vs:List AV,need (vs.all AV.one=true) (match decide (sz'=sz),decide (vs.length=n),AV.puL vs,neP tm i ne with
      |true,true,true,true=>match AV.frzL sg 8 vs with
       |some vs'=>IaE es m fun cs=>match decide (j+n<=cs.length)with
        |true=>spliceK cs j vs' fun cs'=>setK sg i (.row false el sz (es.set m cs')) fun sg'=>k tm sg' gh
        |false=>False
       |none=>False
      |_,_,_,_=>False)->need (vs.all AV.one=true) (if sz'=sz/\vs.length=n/\AV.puL vs=true/\neOk ⟨tm,sg,gh⟩ i ne=true then
       match AV.frzL sg 8 vs with
       |some vs'=>iaE es m fun cs=>if j+n<=cs.length then k tm (sg.set i (.row false el sz (es.set m (splice cs j vs')))) gh else False
       |none=>False
      else False):=fun vs hh=>by
     obtain⟨h4,h5⟩:=hh
     refine⟨h4,?_⟩
     split at h5
     ·rename_i h6 h7 h8 h9
      rw[if_pos ⟨of_decide_eq_true h6,of_decide_eq_true h7,h8,neP_ok h9⟩]
      split at h5
      ·rename_i vs' hf
       obtain⟨k1,k2,h5⟩:=h5
       refine⟨k1,k2,?_⟩
       split at h5
       ·rename_i h10
        simp only[if_pos (of_decide_eq_true h10)]
        rw[spliceK_iff,setK_iff]at h5
        exact h5
       ·exact h5.elim
      ·exact h5.elim
     ·exact h5.elim
    exact cellsP_ok h fun vs hv=>fin vs (oneP_ok hv)
   ·exact h.elim
  ·exact h.elim
 |bin op x y=>
  simp only[evP]at h
  split at h
  ·rename_i k1 a k2 b h1 h2
   split at h
   ·rename_i h3
    unfold evO
    simp only[evX,hev,h1,h2,h3,if_true]
    cases op<;>simp only[evBin,evBinQ,wrE,need]at h⊢<;>first|exact h.elim|exact hput _ h|exact hput _ h.out|exact⟨h.1,hput _ h.2.out⟩|exact⟨h.1,hput _ h.2⟩
   ·exact h.elim
  ·exact h.elim
 |eqb neg x y=>
  simp only[evP]at h
  split at h
  ·rename_i a b h1 h2
   cases neg
   ·exact put1 (fun κ hk=>by simp only[evX,hev,h1,h2];exact hk) h
   ·exact put1 (fun κ hk=>by simp only[evX,hev,h1,h2];exact hk) h
  ·exact h.elim
 |eqs neg T x y=>
  simp only[evP]at h
  split at h
  ·rename_i a b h1 h2
   split at h
   ·rename_i r h3
    cases neg
    ·exact put1 (fun κ hk=>by simp only[evX,hev,h1,h2,h3];exact hk) h
    ·exact put1 (fun κ hk=>by simp only[evX,hev,h1,h2,h3];exact hk) h
   ·exact h.elim
  ·exact h.elim
 |un op x=>
  simp only[evP]at h
  split at h
  ·rename_i h1;exact put1 (fun κ hk=>by simp only[evX,hev,h1];exact hk) h
  ·rename_i h1;exact put1 (fun κ hk=>by simp only[evX,hev,h1,wrE];exact hk) h.out
  ·exact h.elim
 |conv kd x=>
  simp only[evP]at h
  split at h
  ·rename_i h1;exact put1 (fun κ hk=>by simp only[evX,hev,h1,wrE];exact hk) h.out
  ·exact h.elim
 |faddr off x=>
  simp only[evP,dropA_eq]at h
  split at h
  ·rename_i h1;exact put1 (fun κ hk=>by simp only[evX,hev,h1];exact hk) h
  ·rename_i h1;exact put1 (fun κ hk=>by simp only[evX,hev,h1];exact hk) h
  ·rename_i h1;exact put1 (fun κ hk=>by simp only[evX,hev,h1];exact hk) h
  ·exact h.elim
 |field ag n off x=>
  simp only[evP,dropA_eq]at h
  split at h
  ·rename_i h1
   obtain⟨v,h3,h4⟩:=ldK_ok h
   exact put1 (fun κ hk=>by simp only[evX,hev,h1,h3];exact hk) h4
  ·exact h.elim
 |iaddr sz x i=>
  simp only[evP,getR_eq]at h
  split at h
  ·rename_i h1 h2
   obtain⟨h4,h5,h⟩:=h
   split at h
   ·rename_i h3
    have h3':=of_decide_eq_true h3
    unfold evO
    simp only[evX,hev,h1,h2]
    exact⟨h4,h5,by simp only[if_pos h3'];exact hput _ h⟩
   ·exact h.elim
  ·rename_i h1 h2
   split at h
   ·rename_i h3
    split at h
    ·rename_i h4
     have h4':=of_decide_eq_true h4
     unfold evO
     simp only[evX,hev,h1,h2,h3,if_pos h4']
     exact⟨h.1,hput _ h.2⟩
    ·exact h.elim
   ·exact h.elim
  ·exact h.elim
 |bsl nm el sz ps ne=>
  simp only[evP,getR_eq]at h
  split at h
  ·rename_i h1
   obtain⟨vs,h2,h3⟩:=evlK_ok (sg:=sg) (gh:=gh) h
   obtain⟨es,z,h4,h5⟩:=rowsK_ok h3
   split at h5
   ·rename_i h6
    have h6':=neLP_ok (sg:=sg) (gh:=gh) h6
    rw[setLK_iff,setK_iff]at h5
    unfold evO
    simp only[evX,h1,h2,h4,h6']
    refine hbig _ _ ?_
    rw[setL_append]
    exact h5
   ·exact h5.elim
  ·exact h.elim
 |apd nm el sz bytes x y ne=>
  simp only[evP,getR_eq]at h
  split at h
  ·rename_i u v h1 h2 h3
   split at h
   ·rename_i es z es' h4 h5
    split at h
    ·rename_i h6 h7
     obtain⟨k1,k2,h⟩:=h
     unfold evO
     simp only[evX,hev,h1,h2,h3,h4,h5]
     rw[if_pos ⟨h6,neLP_ok h7⟩]
     cases hN:apdN u es' with
     |true=>
      simp only[hN]at h
      exact⟨k1,k2,hbig [] u h⟩
     |false=>
     simp only[hN]at h
     rw[setLK_iff,setK_iff]at h
     refine⟨k1,k2,hbig _ _ ?_⟩
     rw[setL_append]
     exact h
    ·exact h.elim
   ·exact h.elim
  ·exact h.elim
 |callz nm ct f xs ne=>
  simp only[evP]at h
  obtain⟨vs,h1,h2⟩:=evlK_ok (sg:=sg) (gh:=gh) h
  split at h2
  ·rename_i h3
   unfold evO
   simp only[evX,h1]
   split at h2
   ·rename_i h4
    rw[if_pos ⟨neLP_ok h3,h4⟩]
    obtain⟨args',z,k1,k2,k3⟩:=h2.out.resolve_right (fun h=>by cases h.1)
    refine⟨args',z,k1,k2,?_⟩
    rcases k3 with⟨R,k3,k4⟩|⟨R,k3,k4⟩|⟨R,k3,k4⟩
    ·refine .inl ⟨R,k3,fun r hr=>hbig _ _ ?_⟩
     have h5:setLK sg z (fun sg'=>evP.put2 d tm gh k sg' r):=k4 r hr
     rw[setLK_iff]at h5
     exact h5
    ·refine .inr (.inl ⟨R,k3,fun r rows hr=>⟨(k4 r rows hr).1,hbig _ _ ?_⟩⟩)
     have h5:setLK sg (z++nameR rows nm) (fun sg'=>evP.put2 d tm gh k sg' (r.rnr (posN rows nm))):=(k4 r rows hr).2
     rw[setLK_iff]at h5
     exact h5
    ·refine .inr (.inr ⟨R,k3,fun r rows hr=>⟨(k4 r rows hr).1,(k4 r rows hr).2.1,(k4 r rows hr).2.2.1,hbig _ _ ?_⟩⟩)
     have h5:setLK sg (nameR rows nm) (fun sg'=>evP.put2 d tm gh k sg' (r.rnr (posN rows nm))):=(k4 r rows hr).2.2.2
     rw[setLK_iff]at h5
     exact h5
   ·exact h2.elim
  ·exact h2.elim
 |callw nm ct f xs=>
  simp only[evP]at h
  obtain⟨vs,h1,h2⟩:=evlK_ok (sg:=sg) (gh:=gh) h
  split at h2
  ·rename_i h4
   unfold evO
   simp only[evX,h1]
   rw[if_pos h4]
   have tr:∀z r,(setLK sg z fun sg'=>evP.put2 d tm gh k sg' r)->(fun s:St=>k s.tm s.sg s.gh) (app d ⟨tm,sg,gh⟩ (.big z r)):=fun z r h5=>hbig _ _ (by rw[setLK_iff]at h5;exact h5)
   rcases h2.out with⟨args',z,k1,k2,k3⟩|⟨_,⟨args',R,q1,q2,q3⟩|⟨args',R,q2,q3,q4⟩|⟨lend,⟨ns,args',ins,R,q1,hlen,hnd,hh,hib,hlive,ha,hb,q2⟩⟩|⟨args',z,k1,k2,k3⟩⟩
   ·refine .inl ⟨args',z,k1,k2,?_⟩
    rcases k3 with⟨R,k3,k4⟩|⟨R,k3,k4⟩|⟨R,k3,k4⟩
    ·exact .inl ⟨R,k3,fun r hr=>tr _ _ (k4 r hr)⟩
    ·exact .inr (.inl ⟨R,k3,fun r rows hr=>⟨(k4 r rows hr).1,tr _ _ (k4 r rows hr).2⟩⟩)
    ·exact .inr (.inr ⟨R,k3,fun r rows hr=>⟨(k4 r rows hr).1,(k4 r rows hr).2.1,(k4 r rows hr).2.2.1,tr _ _ (k4 r rows hr).2.2.2⟩⟩)
   ·exact .inr (.inl ⟨args',R,q1,q2,fun r hr=>⟨(q3 r hr).1,tr _ _ (q3 r hr).2⟩⟩)
   ·exact .inr (.inr (.inl ⟨args',R,q2,q3,fun r rows hr=>⟨(q4 r rows hr).1,(q4 r rows hr).2.1,(q4 r rows hr).2.2.1,tr _ _ (q4 r rows hr).2.2.2⟩⟩))
   ·exact .inr (.inr (.inr (.inl ⟨lend,⟨ns,args',ins,R,q1,hlen,hnd,hh,hib,hlive,ha,hb,fun r outs hr=>by
     obtain⟨c1,c2,c3,c4,c5,c6⟩:=q2 r outs hr
     exact⟨c1,c2,c3,c4,c5,tr _ _ c6⟩⟩⟩)))
   ·refine .inr (.inr (.inr (.inr ⟨args',z,k1,k2,?_⟩)))
    rcases k3 with⟨R,k3,k4⟩|⟨R,k3,k4⟩|⟨R,k3,k4⟩
    ·exact .inl ⟨R,k3,fun r hr=>tr _ _ (k4 r hr)⟩
    ·exact .inr (.inl ⟨R,k3,fun r rows hr=>⟨(k4 r rows hr).1,tr _ _ (k4 r rows hr).2⟩⟩)
    ·exact .inr (.inr ⟨R,k3,fun r rows hr=>⟨(k4 r rows hr).1,(k4 r rows hr).2.1,(k4 r rows hr).2.2.1,tr _ _ (k4 r rows hr).2.2.2⟩⟩)
  ·exact h2.elim
 |aidx ag n m x i=>
  simp only[evP]at h
  split at h
  ·rename_i h1 h2
   obtain⟨v,k0,k1,k2,k3⟩:=h.out
   exact put1 (fun κ hk=>by simp only[evX,hev,h1,h2];exact⟨v,k0,k1,k2,hk⟩) k3
  ·exact h.elim
 |sidx x i=>
  simp only[evP]at h
  split at h
  ·rename_i h1 h2
   obtain⟨k0,k1,k3⟩:=h.out
   exact put1 (fun κ hk=>by simp only[evX,hev,h1,h2];exact⟨k0,k1,hk⟩) k3
  ·exact h.elim
 |mm mx xs=>
  simp only[evP]at h
  obtain⟨vs,h1,h2⟩:=evlK_ok (sg:=sg) (gh:=gh) h
  split at h2
  ·split at h2
   ·rename_i h3
    exact put1 (fun κ hk=>by simp only[evX,h1,h3];exact hk) h2
   ·exact h2.elim
  ·exact h2.elim
 |sl3 sz x hi mx=>
  simp only[evP]at h
  unfold evO
  simp only[evX,hev]
  split at h
  ·rename_i h1 h2 h3
   try simp only[h1,h2,h3]
   obtain⟨h0,h⟩:=h
   exact⟨h0,h.1,h.2,h.3,h.4,hput _ h.5⟩
  ·exact h.elim
 |eqn neg x=>
  simp only[evP]at h
  unfold evO
  simp only[evX,hev]
  split at h
  ·rename_i h1
   try simp only[h1]
   exact hput _ h
  ·rename_i h1
   try simp only[h1]
   exact⟨h.1,hput _ h.2⟩
  ·rename_i h1
   try simp only[h1]
   exact hput _ h
  ·exact h.elim
 |sli sz x lo hi=>
  simp only[evP,boP_eq (sg:=sg) (gh:=gh)]at h
  unfold evO
  simp only[evX,hev]
  split at h
  ·rename_i h1 h2
   try simp only[h1,h2]
   cases hi with
   |none=>exact⟨h.1,h.2,h.3,h.4,hput _ h.5⟩
   |some q=>
    simp only at h⊢
    split at h
    ·rename_i h3
     try simp only[h3]
     exact⟨h.1,h.2,h.3,h.4,hput _ h.5⟩
    ·exact h.elim
  ·exact h.elim
 |mkfn f caps=>
  simp only[evP]at h
  obtain⟨vs,h1,h2⟩:=evlK_ok (sg:=sg) (gh:=gh) h
  exact put1 (fun κ hk=>by simp only[evX,h1];exact hk) h2
 |mkmt f xs=>
  simp only[evP]at h
  obtain⟨vs,h1,h2⟩:=evlK_ok (sg:=sg) (gh:=gh) h
  split at h2
  ·rename_i vs' h3 h4
   exact put1 (fun κ hk=>by simp only[evX,h1,h3,h4];exact hk) h2
  ·exact h2.elim
 |extract i x=>
  simp only[evP,dropA_eq]at h
  split at h
  ·rename_i vs h1
   split at h
   ·rename_i v rest h2
    have h3:vs[i]?=some v:=by have:=congrArg (·[0]?) h2;simpa using this
    exact put1 (fun κ hk=>by simp only[evX,hev,h1,h3];exact hk) h
   ·exact h.elim
  ·exact h.elim
 |call f xs=>
  simp only[evP]at h
  obtain⟨vs,h1,h2⟩:=evlK_ok (sg:=sg) (gh:=gh) h
  unfold evO
  simp only[evX,h1]
  rcases h2.out with⟨args',R,a0,a1,a2,a3⟩|⟨args',R,a1,a2,a3⟩
  ·exact .inl ⟨args',R,a0,a1,a2,fun r hr=>hput _ (a3 r hr)⟩
  ·exact .inr ⟨args',R,a1,a2,fun r hr=>⟨(a3 r hr).1,hput _ (a3 r hr).2⟩⟩
 |callv g xs=>
  simp only[evP]at h
  split at h
  ·rename_i gv hg
   obtain⟨vs,h1,h2⟩:=evlK_ok (sg:=sg) (gh:=gh) h
   unfold evO
   simp only[evX,hev,hg,h1]
   split at h2
   ·rename_i hyl
    try rw[hyl]
    obtain⟨y0,v,z,k',y1,yz,y3,y4⟩:=h2.out.resolve_right (by simp)
    have h3:∀g v,evP.put3 d tm sg k g v->(fun s:St=>k s.tm s.sg s.gh) (app d ⟨tm,sg,gh⟩ (.yl g v)):=fun g v hv=>by cases d<;>exact hv
    rcases yz with⟨rfl,rfl,y2⟩|⟨yz,_⟩
    ·exact⟨y0,k',y1,y2,h3 _ _ y3,h3 _ _ y4⟩
    ·cases yz
   rename_i hyl
   try rw[hyl]
   rcases h2.out with(⟨g',args',R,b0,b1,a0,a1,a2,a3⟩|⟨g',args',R,a0,a1,a2,a3⟩)|⟨hf,_⟩
   ·exact .inl ⟨g',args',R,b0,b1,a0,a1,a2,fun r hr=>hput _ (a3 r hr)⟩
   ·exact .inr ⟨g',args',R,a0,a1,a2,fun r hr=>⟨(a3 r hr).1,hput _ (a3 r hr).2⟩⟩
   ·cases hf
  ·exact h.elim
 |callx g xs=>
  simp only[evP]at h
  split at h
  ·rename_i gv hg
   obtain⟨vs,h1,h2⟩:=evlK_ok (sg:=sg) (gh:=gh) h
   unfold evO
   simp only[evX,hev,hg,h1]
   have tr:∀z r,(setLK sg z fun sg'=>evP.put2 d tm gh k sg' r)->(fun s:St=>k s.tm s.sg s.gh) (app d ⟨tm,sg,gh⟩ (.big z r)):=fun z r h5=>hbig _ _ (by rw[setLK_iff]at h5;exact h5)
   split at h2
   ·rename_i hyl
    try rw[hyl]
    have h3:∀z g v,(setLK sg z fun sg'=>evP.put4 d tm k sg' g v)->(fun s:St=>k s.tm s.sg s.gh) (app d ⟨tm,sg,gh⟩ (.ylz z g v)):=fun z g v hv=>by rw[setLK_iff]at hv;cases d<;>exact hv
    rcases h2.out with⟨y0,v,z,k',y1,yz,y3,y4⟩|⟨_,hy⟩
    ·exact .inl ⟨y0,v,z,k',y1,yz.imp id (·.2),h3 _ _ _ y3,h3 _ _ _ y4⟩
    ·obtain⟨y0,i,el,sz,es,k',r1,r2,r3,r4,r5,r6⟩:=hy.out
     exact .inr ⟨y0,i,el,sz,es,k',r1,r2,r3,r4,h3 [] _ _ r5,h3 [] _ _ r6⟩
   rename_i hyl
   try rw[hyl]
   rcases h2.out with(⟨g',args',R,b0,b1,a0,a1,a2,a3⟩|⟨g',args',R,a0,a1,a2,a3⟩)|⟨_,⟨f,caps,lend,e,hb',⟨ns,args',ins,R,q1,hlen,hnd,hh,hib,hlive,ha,hb,q2⟩⟩|hy⟩
   ·exact .inl (.inl (.inl ⟨g',args',R,b0,b1,a0,a1,a2,fun r hr=>tr _ _ (a3 r hr)⟩))
   ·exact .inl (.inl (.inr ⟨g',args',R,a0,a1,a2,fun r hr=>⟨(a3 r hr).1,tr _ _ (a3 r hr).2⟩⟩))
   ·exact .inl (.inr ⟨f,caps,lend,e,hb',⟨ns,args',ins,R,q1,hlen,hnd,hh,hib,hlive,ha,hb,fun r outs hr=>by
     obtain⟨c1,c2,c3,c4,c5,c6⟩:=q2 r outs hr
     exact⟨c1,c2,c3,c4,c5,tr _ _ c6⟩⟩⟩)
   ·obtain⟨y0,f,caps,ns,args',ins,R,r1,r2,r3,r4,r5,r6,r7,r8,r9,r10,r11⟩:=hy.out
    exact .inr ⟨y0,f,caps,ns,args',ins,R,r1,r2,r3,r4,r5,r6,r7,r8,r9,r10,fun r outs k' st' hr=>by
     obtain⟨c1,c2,c3,c4⟩:=r11 r outs k' st' hr
     refine⟨c1,c2,c3,?_⟩
     rw[setLK_iff]at c4
     cases d<;>exact c4⟩
  ·exact h.elim
 |len x=>
  simp only[evP,getR_eq]at h
  split at h
  ·rename_i h1;exact put1 (fun κ hk=>by simp only[evX,hev,h1];exact hk) h
  ·rename_i h1;exact put1 (fun κ hk=>by simp only[evX,hev,h1];exact hk) h
  ·rename_i h1
   split at h
   ·rename_i h2;exact put1 (fun κ hk=>by simp only[evX,hev,h1,h2];exact hk) h
   ·exact h.elim
  ·exact h.elim
 |slen x=>
  simp only[evP]at h
  split at h
  ·rename_i h1;exact put1 (fun κ hk=>by simp only[evX,hev,h1];exact hk) h
  ·exact h.elim
 |nilck x=>
  simp only[evP]at h
  split at h
  ·rename_i h1;exact put1 (fun κ hk=>by simp only[evX,hev,h1];exact hk) h
  ·rename_i h1;exact put1 (fun κ hk=>by simp only[evX,hev,h1];exact hk) h
  ·rename_i h1;exact put1 (fun κ hk=>by simp only[evX,hev,h1];exact hk) h
  ·rename_i h1;exact put1 (fun κ hk=>by simp only[evX,hev,h1];exact hk) h
  ·exact h.elim
 |mkm nm=>
  simp only[evP,getR_eq]at h
  split at h
  ·rename_i h1
   rw[setK_iff]at h
   unfold evO
   simp only[evX,h1]
   exact hput2 _ _ _ h
  ·exact h.elim
 |mko nm=>
  simp only[evP,getR_eq]at h
  split at h
  ·rename_i h1
   rw[setK_iff]at h
   unfold evO
   simp only[evX,h1]
   exact hput2 _ _ _ h
  ·exact h.elim
 |paddr sz m x i=>
  simp only[evP]at h
  split at h
  ·rename_i h1 h2
   unfold evO
   simp only[evX,hev,h1,h2]
   exact⟨h.1,hput _ h.2⟩
  ·rename_i h1 h2
   unfold evO
   simp only[evX,hev,h1,h2]
   exact⟨h.1,hput _ h.2⟩
  ·exact h.elim
 |mpu kt m x v ne=>
  simp only[evP,getR_eq]at h
  split at h
  ·rename_i i kv vv h1 h2 h3
   split at h
   ·rename_i ks us h4
    split at h
    ·rename_i z h5
     split at h
     ·rename_i v' h6
      split at h
      ·rename_i h7 h8
       obtain⟨ks',us',h9,h⟩:=h.out
       rw[setLK_iff,setK_iff]at h
       unfold evO
       simp only[evX,hev,h1,h2,h3,h4,h5,h6]
       rw[if_pos ⟨h7,neLP_ok h8⟩]
       refine mpI h9 (hbig _ _ ?_)
       rw[setL_append]
       exact h
      ·exact h.elim
     ·exact h.elim
    ·exact h.elim
   ·rename_i ks us h4
    split at h
    ·rename_i h8
     obtain⟨ks',us',h9,h⟩:=h.out
     rw[setK_iff]at h
     unfold evO
     simp only[evX,hev,h1,h2,h3,h4]
     rw[if_pos (neLP_ok h8)]
     exact mpI h9 (hbig _ _ (by simpa only[setL]using h))
    ·exact h.elim
   ·exact h.elim
  ·exact h.elim
 |mrg nm m ne=>
  simp only[evP,getR_eq]at h
  split at h
  ·rename_i v h1 h2
   split at h
   ·rename_i z h5
    split at h
    ·rename_i ks us h6
     split at h
     ·rename_i h8
      rw[setLK_iff,setK_iff]at h
      unfold evO
      simp only[evX,hev,h1,h2,h5,h6]
      rw[if_pos (neLP_ok h8)]
      refine hbig _ _ ?_
      rw[setL_append]
      exact h
     ·exact h.elim
    ·exact h.elim
   ·exact h.elim
  ·exact h.elim
 |mnx x=>
  simp only[evP,getR_eq]at h
  split at h
  ·rename_i i h1
   split at h
   ·rename_i ks us seen last h2
    unfold evO
    simp only[evX,hev,h1,h2]
    refine nxI (fun j kv uv k1 k2 k3=>?_) (fun k1=>hput _ (h.none k1))
    have h3:=h.some j kv uv k1 k2 k3
    rw[setK_iff]at h3
    exact hbig [(i, .itr ks us (seen++[j]) [kv,uv])] _ h3
   ·exact h.elim
  ·exact h.elim
 |men x=>
  simp only[evP,getR_eq]at h
  split at h
  ·rename_i i h1
   split at h
   ·rename_i ks us seen kv uv h2
    exact put1 (fun κ hk=>by simp only[evX,hev,h1,h2];exact hk) h
   ·exact h.elim
  ·exact h.elim
 |lkp kt ok z m x=>
  simp only[evP,getR_eq]at h
  split at h
  ·rename_i h1 h2
   obtain⟨r,h3,h4⟩:=h.out
   exact put1 (fun κ hk=>by simp only[evX,hev,h1,h2];exact lkI h3 hk) h4
  ·rename_i h1 h2
   split at h
   ·rename_i h5
    obtain⟨r,h3,h4⟩:=h.out
    exact put1 (fun κ hk=>by simp only[evX,hev,h1,h2,h5];exact lkI h3 hk) h4
   ·rename_i h5
    obtain⟨r,h3,h4⟩:=h.out
    exact put1 (fun κ hk=>by simp only[evX,hev,h1,h2,h5];exact lkI h3 hk) h4
   ·exact h.elim
  ·exact h.elim
 |stz ag n a x ne=>
  simp only[evP,getR_eq]at h
  split at h
  ·rename_i i off v h1 h2
   split at h
   ·rename_i cs h3
    split at h
    ·rename_i h4
     unfold evO
     simp only[evX,hev,h1,h2,h3]
     rw[if_pos (neLP_ok h4)]
     refine cellsP_ok h fun vs hc=>?_
     obtain⟨q1,q2⟩:=oneP_ok hc
     refine⟨q1,?_⟩
     split at q2
     ·rename_i d1 d2
      rw[if_pos ⟨of_decide_eq_true d1,of_decide_eq_true d2⟩]
      rw[spliceK_iff,setK_iff]at q2
      cases d<;>exact q2
     ·exact q2.elim
    ·exact h.elim
   ·exact h.elim
  ·rename_i i sz m j v h1 h2
   split at h
   ·rename_i el sz' es h3
    split at h
    ·rename_i z h4
     split at h
     ·rename_i v' h5
      split at h
      ·rename_i d1 d2 d3
       unfold evO
       simp only[evX,hev,h1,h2,h3,h4,h5]
       rw[if_pos ⟨neLP_ok d1,d2,of_decide_eq_true d3⟩]
       refine cellsP_ok h fun vs hc=>?_
       obtain⟨q1,q2⟩:=oneP_ok hc
       refine⟨q1,?_⟩
       split at q2
       ·rename_i d4
        rw[if_pos (of_decide_eq_true d4)]
        obtain⟨r1,r2,r3⟩:=q2
        refine⟨r1,r2,?_⟩
        split at r3
        ·rename_i d5
         simp only[if_pos (of_decide_eq_true d5)]
         rw[spliceK_iff,setLK_iff,setK_iff]at r3
         refine hbig _ _ ?_
         rw[setL_append]
         exact r3
        ·exact r3.elim
       ·exact q2.elim
      ·exact h.elim
     ·exact h.elim
    ·exact h.elim
   ·exact h.elim
  ·exact h.elim
 |mlen x=>
  simp only[evP,getR_eq]at h
  split at h
  ·rename_i h1;exact put1 (fun κ hk=>by simp only[evX,hev,h1];exact hk) h
  ·rename_i h1
   split at h
   ·rename_i h2;exact put1 (fun κ hk=>by simp only[evX,hev,h1,h2];exact hk) h
   ·exact h.elim
  ·exact h.elim
def evsP.skip(d:Option Nat)(tm:Tm)(k:Tm->Prop):Prop:=match d with
 |some d=>k ((d, .tup [])::tm)
 |none=>k tm
abbrev KP:=Tm->List Res->Gh->Prop
def evsS(E:Env)(o:IOp)(ih:Tm->List Res->Gh->KP->Prop)(tm:Tm)(sg:List Res)(gh:Gh)(k:KP):Prop:=
 match o.g with
  |none=>evP E o.d o.o tm sg gh fun tm sg gh=>ih tm sg gh k
  |some (j,want)=>match look tm j with
   |some (.bool b)=>BrB b
    (match want with
     |true=>evP E o.d o.o ((j, .bool true)::tm) sg gh fun tm sg gh=>ih tm sg gh k
     |false=>evsP.skip o.d ((j, .bool true)::tm) fun tm=>ih tm sg gh k)
    (match want with
     |false=>evP E o.d o.o ((j, .bool false)::tm) sg gh fun tm sg gh=>ih tm sg gh k
     |true=>evsP.skip o.d ((j, .bool false)::tm) fun tm=>ih tm sg gh k)
   |some (.tup [])=>evsP.skip o.d tm fun tm=>ih tm sg gh k
   |_=>False
def evsP(E:Env)(ps:List IOp):Tm->List Res->Gh->KP->Prop:=
 @List.rec IOp (fun _=>Tm->List Res->Gh->KP->Prop) (fun tm sg gh k=>k tm sg gh) (fun o _ ih=>evsS E o ih) ps
theorem evsP_cons{E:Env}{o:IOp}{os:List IOp}{tm:Tm}{sg:List Res}{gh:Gh}{k:KP}:evsP E (o::os) tm sg gh k=evsS E o (evsP E os) tm sg gh k:=rfl
theorem evsP_ok{E:Env}:∀ {ps:List IOp} {tm:Tm} {sg:List Res} {gh:Gh} {k:Tm->List Res->Gh->Prop},evsP E ps tm sg gh k->evs E ps ⟨tm,sg,gh⟩ fun s=>k s.tm s.sg s.gh
 | [],tm,sg,gh,k,h=>h
 |o::os,tm,sg,gh,k,h=>by
  have ih:∀s:St,evsP E os s.tm s.sg s.gh k->evs E os s fun s=>k s.tm s.sg s.gh:=fun s hs=>evsP_ok hs
  have hop:∀tm',evP E o.d o.o tm' sg gh (fun tm sg gh=>evsP E os tm sg gh k)->evO E o.d o.o ⟨tm',sg,gh⟩ fun s=>evs E os s fun s=>k s.tm s.sg s.gh:=fun tm' h'=>evX_mono (evP_ok h') fun e he=>ih _ he
  have hsk:∀tm',evsP.skip o.d tm' (fun tm=>evsP E os tm sg gh k)->evs E os (St.put ⟨tm',sg,gh⟩ o.d (.tup [])) fun s=>k s.tm s.sg s.gh:=fun tm' h'=>by
   unfold evsP.skip at h'
   cases hd:o.d with
   |none=>rw[hd]at h';exact ih ⟨tm',sg,gh⟩ h'
   |some d=>rw[hd]at h';exact ih ⟨(d, .tup [])::tm',sg,gh⟩ h'
  rw[evsP_cons]at h
  simp only[evsS]at h
  rw[evs_cons]
  unfold evG
  cases hg:o.g with
  |none=>rw[hg]at h;exact hop tm h
  |some jw=>
   obtain⟨j,want⟩:=jw
   rw[hg]at h
   simp only at h⊢
   split at h
   ·rename_i b hl
    try simp only[hl]
    cases want
    ·exact⟨fun e=>hsk _ (h.1 e),fun e=>hop _ (h.2 e)⟩
    ·exact⟨fun e=>hop _ (h.1 e),fun e=>hsk _ (h.2 e)⟩
   ·rename_i hl
    try simp only[hl]
    exact hsk _ h
   ·exact h.elim
abbrev GP:=(Ex->KP)->KP
def goS(ga gb:GP):GP:=fun T tm sg gh=>ga (fun e tm sg gh=>match e with
  |.normal=>gb T tm sg gh
  |.ret=>T .ret tm sg gh
  |.exit i=>T (.exit i) tm sg gh) tm sg gh
def goC(c:Opd)(ga gb:GP):GP:=fun T tm sg gh=>match c with
  |.t j=>match look tm j with
   |some (.bool b')=>BrB b' (ga T ((j, .bool true)::tm) sg gh) (gb T ((j, .bool false)::tm) sg gh)
   |_=>False
  |.c (.bool b')=>BrB b' (ga T tm sg gh) (gb T tm sg gh)
  |_=>False
def goK(id:Nat)(gb:GP):GP:=fun T tm sg gh=>gb (fun e tm sg gh=>match e with
  |.normal=>T .normal tm sg gh
  |.ret=>T .ret tm sg gh
  |.exit i=>match decide (i=id)with
   |true=>T .normal tm sg gh
   |false=>T (.exit i) tm sg gh) tm sg gh
def goP(E:Env)(c:CI):GP:=
 @CI.rec (fun _=>GP) (fun T tm sg gh=>T .normal tm sg gh) (fun ps T tm sg gh=>evsP E ps tm sg gh (T .normal)) (fun _ _ ga gb=>goS ga gb) (fun c _ _ ga gb=>goC c ga gb) (fun id _ gb=>goK id gb)
  (fun b _ T tm sg gh=>LoopQ E b (fun e s=>T e s.tm s.sg s.gh) ⟨tm,sg,gh⟩) (fun id T tm sg gh=>T (.exit id) tm sg gh) (fun T tm sg gh=>T .ret tm sg gh) (fun f ps x y _ _ T tm sg gh=>RngQ E f ps x y (fun e s=>T e s.tm s.sg s.gh) ⟨tm,sg,gh⟩)
  (fun ps qs T tm sg gh=>AltQ (evsP E ps tm sg gh (T .normal)) (evsP E qs tm sg gh (T .normal))) c
theorem goP_ok{E:Env}:∀ {c:CI} {T:Ex->Tm->List Res->Gh->Prop} {tm:Tm} {sg:List Res} {gh:Gh},goP E c T tm sg gh->GoC E c (fun e s=>T e s.tm s.sg s.gh) ⟨tm,sg,gh⟩
 |.skip,T,tm,sg,gh,h=>go_skip h
 |.reg ps,T,tm,sg,gh,h=>go_reg (evsP_ok h)
 |.seq a b,T,tm,sg,gh,h=>go_seq ((goP_ok (c:=a) h).mono fun e s hs=>by
   cases e with
   |normal=>exact goP_ok (c:=b) hs
   |ret=>exact hs
   |exit i=>exact hs)
 |.cond c a b,T,tm,sg,gh,h=>go_cond (by
   have h:goC _ (goP E a) (goP E b) T tm sg gh:=h
   simp only[goC]at h
   split at h
   ·rename_i j
    simp only[condE]
    split at h
    ·rename_i b' hl
     try simp only[hl]
     exact⟨fun e=>goP_ok (c:=a) (h.1 e),fun e=>goP_ok (c:=b) (h.2 e)⟩
    ·exact h.elim
   ·exact⟨fun e=>goP_ok (c:=a) (h.1 e),fun e=>goP_ok (c:=b) (h.2 e)⟩
   ·exact h.elim)
 |.block id b,T,tm,sg,gh,h=>go_block ((goP_ok (c:=b) h).mono fun e s hs=>by
   cases e with
   |normal=>exact hs
   |ret=>exact hs
   |exit i=>
    simp only[blkT]
    split
    ·rename_i e;simp only[e,decide_true]at hs;exact hs
    ·rename_i e;simp only[e,decide_false]at hs;exact hs)
 |.loop b,T,tm,sg,gh,h=>LoopQ.out h
 |.exit id,T,tm,sg,gh,h=>go_exit h
 |.ret,T,tm,sg,gh,h=>go_ret h
 |.rng f ps x y,T,tm,sg,gh,h=>RngQ.out h
 |.alt ps qs,T,tm,sg,gh,h=>go_alt (evsP_ok (AltQ.a h)) (evsP_ok (AltQ.b h))
def resVK(tm:Tm)(sg:List Res)(r:RIO)(k:AV->Prop):Prop:=
 match r with
 |.t i=>match look tm i with
  |some v=>k v
  |none=>False
 |.cell a ag n=>match look tm a with
  |some (.own i off)=>match getR sg i with
   |.box _ cs=>ldK ag n (dropA off cs) k
   |_=>False
  |_=>False
def resLK(tm:Tm)(sg:List Res):List RIO->(List AV->Prop)->Prop
 | [],k=>k []
 |r::rs,k=>resVK tm sg r fun v=>resLK tm sg rs fun l=>k (v::l)
def retP(rs:List RIO)(R:AV->Prop)(tm:Tm)(sg:List Res):Prop:=
 resLK tm sg rs fun vs=>match AV.frzL sg 8 vs with
  |some l=>match l with
   | [v]=>R v
   |l=>R (.tup l)
  |none=>False
theorem resVK_ok{tm:Tm}{sg:List Res}{gh:Gh}{r:RIO}{k:AV->Prop}(h:resVK tm sg r k):∃v,resV ⟨tm,sg,gh⟩ r=some v/\k v:=by
 cases r with
 |t i=>
  simp only[resVK]at h
  split at h
  ·rename_i v hv;exact⟨v,hv,h⟩
  ·exact h.elim
 |cell a ag n=>
  simp only[resVK,getR_eq,dropA_eq]at h
  split at h
  ·rename_i h1
   split at h
   ·rename_i h2
    obtain⟨v,h3,h4⟩:=ldK_ok h
    exact⟨v,by simp only[resV,h1,h2,h3],h4⟩
   ·exact h.elim
  ·exact h.elim
theorem resLK_ok{tm:Tm}{sg:List Res}{gh:Gh}:∀ {rs:List RIO} {k:List AV->Prop},resLK tm sg rs k->∃vs,resL ⟨tm,sg,gh⟩ rs=some vs/\k vs
 | [],k,h=>⟨[],rfl,h⟩
 |r::rs,k,h=>by
  obtain⟨v,h1,h2⟩:=resVK_ok (gh:=gh) h
  obtain⟨vs,h3,h4⟩:=resLK_ok (gh:=gh) h2
  exact⟨v::vs,by simp only[resL,h1,h3],h4⟩
def finP(rs:List RIO)(R:AV->Prop)(e:Ex)(tm:Tm)(sg:List Res)(gh:Gh):Prop:=
 match e with
 |.exit _=>False
 |.normal=>retP rs R tm sg
 |.ret=>retP rs R tm sg
theorem retP_ok{rs:List RIO}{R:AV->Prop}{tm:Tm}{sg:List Res}{gh:Gh}(h:retP rs R tm sg):retK rs R ⟨tm,sg,gh⟩:=by
 obtain⟨vs,h1,h2⟩:=resLK_ok (gh:=gh) h
 unfold retK
 rw[h1]
 simp only
 split at h2
 ·rename_i l h3
  rw[h3]
  split at h2
  ·exact h2
  ·rename_i hne
   match l,hne with
   | [v],hne=>exact absurd rfl (hne v)
   | [],_=>exact h2
   |_::_::_,_=>exact h2
 ·exact h2.elim
theorem finP_ok{rs:List RIO}{R:AV->Prop}{e:Ex}{s:St}(h:finP rs R e s.tm s.sg s.gh):finT rs R e s:=by
 cases e with
 |exit i=>exact h.elim
 |normal=>exact retP_ok h
 |ret=>exact retP_ok h
def freshL:Nat->List Res
 |0=>[]
 |n+1=>.fresh::freshL n
theorem freshL_eq:∀n,freshL n=List.replicate n .fresh
 |0=>rfl
 |n+1=>by simp[freshL,freshL_eq n,List.replicate_succ]
theorem fnA{P:Program}{f:FuncId}{N M:Nat}{ci:CI}{rs:List RIO}{args:List AV}{R:AV->Prop}(m:Nat)(hok:FnOk P f N M ci rs)(hN:args.length<=N)(h:goP (env3 P N []) ci (finP rs R) (argsTm 0 args) (freshL m) ⟨[],0,false⟩):FnA P f args R:=by
 refine fnA_of_go hok m hN ?_
 rw[freshL_eq]at h
 exact(goP_ok h).mono fun e s hs=>finP_ok hs
theorem loop_i{E:Env}{T:Ex->St->Prop}{tm0:Tm}{sg0:List Res}{gh:Gh}{b:CI}{α : Type}(tm : α -> Tm)(sg : α -> List Res)(inv : α -> Prop)(μ : α -> Nat)(x0 : α)(hw:MeetsE ⟨tm0,sg0,gh⟩ ⟨tm x0,sg x0,gh⟩)(h0:inv x0)
  (hr:∀x,inv x->goP E b (fun e tm' sg' gh'=>match e with
   |.normal=>∃y,MeetsE ⟨tm',sg',gh'⟩ ⟨tm y,sg y,gh⟩/\inv y /\ μ y < μ x
   |.ret=>T .ret ⟨tm',sg',gh'⟩
   |.exit i=>T (.exit i) ⟨tm',sg',gh'⟩) (tm x) (sg x) gh):LoopQ E b T ⟨tm0,sg0,gh⟩:=by
 refine LoopQ.mk (go_loop_m (fun x=>⟨tm x,sg x,gh⟩) inv μ x0 h0 hw fun x hx=>(goP_ok (hr x hx)).mono fun e s' hs=>?_)
 cases e with
 |normal=>exact hs
 |_=>exact hs
theorem loop_y{E:Env}{T:Ex->St->Prop}{tm0:Tm}{sg0:List Res}{gh0:Gh}{b:CI}{α : Type}(tm : α -> Tm)(sg : α -> List Res)(gh : α -> Gh)(inv : α -> Prop)(μ : α -> Nat)(x0 : α)(hw:MeetsE ⟨tm0,sg0,gh0⟩ ⟨tm x0,sg x0,gh x0⟩)(h0:inv x0)
  (hr:∀x,inv x->goP E b (fun e tm' sg' gh'=>match e with
   |.normal=>∃y,MeetsE ⟨tm',sg',gh'⟩ ⟨tm y,sg y,gh y⟩/\inv y /\ μ y < μ x
   |.ret=>T .ret ⟨tm',sg',gh'⟩
   |.exit i=>T (.exit i) ⟨tm',sg',gh'⟩) (tm x) (sg x) (gh x)):LoopQ E b T ⟨tm0,sg0,gh0⟩:=by
 refine LoopQ.mk (go_loop_m (fun x=>⟨tm x,sg x,gh x⟩) inv μ x0 h0 hw fun x hx=>(goP_ok (hr x hx)).mono fun e s' hs=>?_)
 cases e with
 |normal=>exact hs
 |_=>exact hs
theorem rng_i{E:Env}{T:Ex->St->Prop}{tm0:Tm}{sg0:List Res}{gh:Gh}{pf:Opd}{ps:List Nat}{x y:CI}{f:FuncId}{cap cap':List AV}{α : Type}(ys:List (List AV))(p:List Nat)(tm1:Tm)(sg : α -> List Res)(inv:Nat -> α -> Prop)(x0 : α)
  (hf:ev tm0 pf=some (.fn f cap)) (hpu:AV.puL cap=true) (hfz:AV.frzL sg0 8 cap=some cap') (hb:bodied E.P f=true) (hit:ItA E.P f cap' ys) (hp:subN gh.p p=true)
  (hm:MeetsE ⟨tm0,sg0,gh⟩ ⟨tm1,sg x0,gh⟩) (hlt:refsLt p tm1=true) (h0:inv 0 x0) (hl:∀v∈ys,ps.length=v.length)
  (hr:∀k v z,ys[k]?=some v->inv k z->goP E x (fun e tm' sg' gh'=>match e with
   |.normal=>goP E y (fun e tm' sg' gh'=>match e with
    |.normal=>∃u,MeetsE ⟨tm',sg',gh'⟩ ⟨[],sg u,⟨p,gh.k,gh.st⟩⟩/\inv (k+1) u
    |.ret=>∃sg'',MeetsE ⟨tm',sg',gh'⟩ ⟨[],sg'',⟨p,gh.k,gh.st⟩⟩/\T .ret ⟨tm1,sg'',gh⟩
    |.exit i=>∃sg'',MeetsE ⟨tm',sg',gh'⟩ ⟨[],sg'',⟨p,gh.k,gh.st⟩⟩/\T (.exit i) ⟨tm1,sg'',gh⟩) tm' sg' gh'
   |.ret=>False
   |.exit _=>False) (bindT tm1 ps v) (sg z) ⟨p,gh.k,gh.st⟩)
  (hend:∀z,inv ys.length z->T .normal ⟨tm1,sg z,gh⟩):RngQ E pf ps x y T ⟨tm0,sg0,gh⟩:=by
 have hev:(St.mk tm0 sg0 gh).ev pf=some (.fn f cap):=by cases pf<;>exact hf
 refine RngQ.mk (go_rng (f:=f) (cap:=cap) ys hev hpu hfz hb hit p hp tm1 (sg x0) hm.r hlt (fun k s gk gst=>gk=gh.k/\gst=gh.st/\∃z,s=sg z/\inv k z) (fun e s gk gst=>gk=gh.k/\gst=gh.st/\T e ⟨tm1,s,gh⟩) ⟨rfl,rfl,x0,rfl,h0⟩ ?_ ?_ ?_)
 ·rintro k v s gk gst hv ⟨rfl,rfl,z,rfl,hz⟩
  refine⟨hl v (List.mem_of_getElem? hv),(goP_ok (hr k v z hv hz)).mono fun e s' hs=>?_⟩
  cases e with
  |normal=>
   refine(goP_ok (c:=y) hs).mono fun e s'' hs'=>?_
   cases e with
   |normal=>obtain⟨u,h1,h2⟩:=hs';exact⟨_,_,_,h1,rfl,rfl,u,rfl,h2⟩
   |ret=>obtain⟨s2,h1,h2⟩:=hs';exact⟨_,_,_,h1,rfl,rfl,h2⟩
   |exit i=>obtain⟨s2,h1,h2⟩:=hs';exact⟨_,_,_,h1,rfl,rfl,h2⟩
  |ret=>exact hs.elim
  |exit i=>exact hs.elim
 ·rintro s gk gst ⟨rfl,rfl,z,rfl,hz⟩;exact hend z hz
 ·rintro e s gk gst _ ⟨rfl,rfl,ht⟩;exact ht
def finIP(ys:List (List AV))(e:Ex)(tm:Tm)(sg:List Res)(gh:Gh):Prop:=
 match e with
 |.exit _=>False
 |.normal=>gh.st=true\/gh.k=ys.length
 |.ret=>gh.st=true\/gh.k=ys.length
theorem itA{P:Program}{f:FuncId}{N M:Nat}{ci:CI}{cap:List AV}{ys:List (List AV)}(m:Nat)(hok:FnOk P f N M ci [])(hN:cap.length+1<=N)(h:goP (env3 P N ys) ci (finIP ys) (argsTm 0 (.yld::cap)) (freshL m) ⟨[],0,false⟩):ItA P f cap ys:=by
 refine itA_of_go hok m hN ?_
 rw[freshL_eq]at h
 exact(goP_ok h).mono fun e s hs=>by cases e<;>exact hs
theorem fnV_of{P:Program}{f:FuncId}{cap args:List AV}{R:AV->Prop}(hb:bodied P f=true)(h:FnA P f (args++cap) R):FnV P (.fn f cap) args R:=by
 unfold FnV
 intro imm w gv vs himm hg hv
 simp only[RV0]at hg
 obtain⟨us,rfl,hu⟩:=hg
 refine⟨f,us.toArray,rfl,hb,?_⟩
 have:=h
 unfold FnA at this
 have h2:=this imm w (vs++us) himm (RV0s.append hv hu)
 simpa using h2
def nlF:Nat->Bool:=fun _=>false
def Res.renR(π : Nat->Nat):Res->Res
 |.box ice cs=>.box ice (AV.renL π nlF cs)
 |r=>r
def CI.names:CI->List Nat
 |.reg ps=>ps.flatMap fun p=>p.o.names
 |.seq a b=>a.names++b.names
 |.cond _ a b=>a.names++b.names
 |.block _ b=>b.names
 |.loop b=>b.names
 |.rng _ _ x y=>x.names++y.names
 |_=>[]
abbrev FTab:=FuncId->List AV->Option AV
def noS:FTab:=fun _ _=>none
mutual
def AV.rws(sg:List Res):AV->List (Nat × Res)
 |.row i=>match sg.getD i .fresh with
  |.row false el sz es=>[(i, .row false el sz es)]
  |_=>[]
 |.agg cs=>AV.rwsL sg cs
 |.tup cs=>AV.rwsL sg cs
 |_=>[]
def AV.rwsL(sg:List Res):List AV->List (Nat × Res)
 | []=>[]
 |a::as=>a.rws sg++AV.rwsL sg as
end
def nodupF:List Nat->Bool
 | []=>true
 |i::l => !memN l i&&nodupF l
def deadR:List (Nat × Res)->List (Nat × Res)
 | []=>[]
 |(i,_)::l=>(i, .dead)::deadR l
def AV.frzo(sg:List Res)(ns:List Nat):Nat->AV->Option AV
 |0,_=>none
 |n+1,v=>match v with
  |.row i=>match memN ns i with
   |true=>some (.row i)
   |false=>AV.frz sg 8 (.row i)
  |.agg cs=>match mapO (AV.frzo sg ns n) cs with
   |some ds=>some (.agg ds)
   |none=>none
  |.tup cs=>match mapO (AV.frzo sg ns n) cs with
   |some ds=>some (.tup ds)
   |none=>none
  |v=>AV.frz sg 8 v
def oneV:List AV->AV
 | [v]=>v
 |l=>.tup l
def retO1(sg:List Res)(R:AV->List (Nat × Res)->Prop)(v:AV)(rows:List (Nat × Res)):Prop:=
 match nodupF (fstN rows)with
 |true=>match AV.frzo (setL sg (deadR rows)) (fstN rows) 8 v with
  |some r=>match r.oOk (fstN rows)with
   |true=>R r rows
   |false=>False
  |none=>False
 |false=>False
def retO(rs:List RIO)(R:AV->List (Nat × Res)->Prop)(tm:Tm)(sg:List Res):Prop:=
 resLK tm sg rs fun vs=>retO1 sg R (oneV vs) ((oneV vs).rws sg)
def finO(rs:List RIO)(R:AV->List (Nat × Res)->Prop)(e:Ex)(tm:Tm)(sg:List Res)(gh:Gh):Prop:=
 match e with
 |.exit _=>False
 |.normal=>retO rs R tm sg
 |.ret=>retO rs R tm sg
mutual
theorem rws_ok{sg:List Res}:∀(v:AV),∀p∈v.rws sg,sg.getD p.1 .fresh=p.2/\∃el sz es,p.2 = .row false el sz es
 |.row i,p,hp=>by
  simp only[AV.rws]at hp
  split at hp
  ·rename_i el sz es h
   simp only[List.mem_singleton]at hp;subst hp
   exact⟨h,_,_,_,rfl⟩
  ·cases hp
 |.agg cs,p,hp=>by simp only[AV.rws]at hp;exact rwsL_ok cs p hp
 |.tup cs,p,hp=>by simp only[AV.rws]at hp;exact rwsL_ok cs p hp
 |.bool _,p,hp=>by simp[AV.rws]at hp
 |.int _ _,p,hp=>by simp[AV.rws]at hp
 |.str _,p,hp=>by simp[AV.rws]at hp
 |.lit _,p,hp=>by simp[AV.rws]at hp
 |.isl _,p,hp=>by simp[AV.rws]at hp
 |.nils,p,hp=>by simp[AV.rws]at hp
 |.ipt _,p,hp=>by simp[AV.rws]at hp
 |.fn _ _,p,hp=>by simp[AV.rws]at hp
 |.own _ _,p,hp=>by simp[AV.rws]at hp
 |.elt _ _ _ _,p,hp=>by simp[AV.rws]at hp
 |.yld,p,hp=>by simp[AV.rws]at hp
 |.gone,p,hp=>by simp[AV.rws]at hp
theorem rwsL_ok{sg:List Res}:∀(vs:List AV),∀p∈AV.rwsL sg vs,sg.getD p.1 .fresh=p.2/\∃el sz es,p.2 = .row false el sz es
 | [],p,hp=>by simp[AV.rwsL]at hp
 |a::as,p,hp=>by
  simp only[AV.rwsL,List.mem_append]at hp
  rcases hp with hp|hp
  ·exact rws_ok a p hp
  ·exact rwsL_ok as p hp
end
theorem fstN_mem{l:List (Nat × Res)}{i:Nat}:i∈fstN l<->∃p∈l,p.1=i:=by
 induction l with
 |nil=>simp[fstN]
 |cons p l ih=>
          obtain⟨j,r⟩:=p;simp only[fstN,List.mem_cons,ih];constructor
          ·rintro(rfl|⟨p,h1,h2⟩)
           ·exact⟨(i,r), .inl rfl,rfl⟩
           ·exact⟨p, .inr h1,h2⟩
          ·rintro⟨p,rfl|h1,h2⟩
           ·exact .inl h2.symm
           ·exact .inr ⟨p,h1,h2⟩
theorem Rel.kills{X:Sess}{C:Ctx}{a:Act}:∀(rows:List (Nat × Res)) {s:St},Rel X C s a->(∀p∈rows,s.sg.getD p.1 .fresh=p.2/\∃el sz es,p.2 = .row false el sz es)->nodupF (fstN rows)=true ->
  Rel X C { s with sg:=setL s.sg (deadR rows) } a/\∀j,((setL s.sg (deadR rows)).getD j .fresh).blk (C.rho j)=if j∈fstN rows then none else(s.sg.getD j .fresh).blk (C.rho j)
 | [],s,h,_,_=>⟨h,fun j=>by simp[fstN,deadR,setL]⟩
 |(i,r)::l,s,h,hr,hn=>by
  obtain⟨h1,el,sz,es,h2⟩:=hr (i,r) (by simp)
  simp only at h1 h2
  subst h2
  simp only[fstN,nodupF,Bool.and_eq_true,Bool.not_eq_true']at hn
  obtain⟨k1,k2⟩:=h.kill h1
  have hi:i<s.sg.length:=getD_lt (by rw[h1];simp)
  have hne:∀p∈l,p.1≠i:=fun p hp e=>by
   have:i∈fstN l:=fstN_mem.2 ⟨p,hp,e⟩
   rw[<- memN_iff]at this;rw[this]at hn;simp at hn
  obtain⟨m1,m2⟩:=Rel.kills l k1 (fun p hp=>by
   obtain⟨q1,q2⟩:=hr p (by simp[hp])
   refine⟨?_,q2⟩
   simp only
   rw[getD_set _ _ _ _ _ hi,if_neg (hne p hp)]
   exact q1) hn.2
  refine⟨m1,fun j=>?_⟩
  have:=m2 j
  simp only[deadR,setL]
  rw[this,k2 j]
  by_cases hj:j=i
  ·subst hj;simp[fstN]
  ·simp[fstN,hj]
theorem frzo_ok{X:Sess}{C C1:Ctx}{s:St}{a:Act}(h:Rel X C s a)(hi:C1.imm=immAll C s)(hw:C1.w=C.w)(hr:C1.rho=C.rho){ns:List Nat}:∀(n:Nat) (v:AV) (x:Value) (v':AV),AV.frzo s.sg ns n v=some v'->RV C v x->RV C1 v' x:=by
 have leaf:∀(v:AV) (x:Value) (v':AV),AV.frz s.sg 8 v=some v'->RV C v x->RV C1 v' x:=fun v x v' h1 h2=>by
  have:=frz_ok h 8 v x v' h1 h2
  rw[<- hi,<- hw]at this
  exact RV0.rv v' x this
 have lst:∀ {f:AV->Option AV},(∀v x v',f v=some v'->RV C v x->RV C1 v' x)->∀(as:List AV) (vs:List Value) (as':List AV),mapO f as=some as'->RVs C as vs->RVs C1 as' vs:=by
  intro f hf as
  induction as with
  |nil=>intro vs as' hm hv;simp only[mapO,Option.some.injEq]at hm;subst hm;simpa[RVs]using hv
  |cons a as ih=>
   intro vs as' hm hv
   simp only[mapO]at hm
   split at hm
   ·rename_i d ds h1 h2
    cases hm
    simp only[RVs]at hv⊢;obtain⟨v,vs',rfl,h3,h4⟩:=hv
    exact⟨v,vs',rfl,hf _ _ _ h1 h3,ih vs' ds h2 h4⟩
   ·cases hm
 intro n
 induction n with
 |zero=>intro v x v' hv;simp[AV.frzo]at hv
 |succ n ih=>
  intro v x v' hv hx
  cases v with
  |row i=>
   simp only[AV.frzo]at hv
   split at hv
   ·cases hv
    simp only[RV]at hx⊢
    rw[hr];exact hx
   ·exact leaf _ _ _ hv hx
  |agg cs=>
   simp only[AV.frzo]at hv
   split at hv<;>cases hv
   rename_i ds hm
   simp only[RV]at hx⊢
   obtain⟨vs,rfl,hx⟩:=hx
   exact⟨vs,rfl,lst ih cs vs ds hm hx⟩
  |tup cs=>
   simp only[AV.frzo]at hv
   split at hv<;>cases hv
   rename_i ds hm
   simp only[RV]at hx⊢
   obtain⟨vs,rfl,hx⟩:=hx
   exact⟨vs,rfl,lst ih cs vs ds hm hx⟩
  |_=>simp only[AV.frzo]at hv;exact leaf _ _ _ hv hx
theorem oneV_rv{C:Ctx}:∀ {vs:List AV} {xs:List Value},RVs C vs xs->RV C (oneV vs) (if h:xs.toArray.size=1 then xs.toArray[0] else .tuple xs.toArray)
 | [],xs,h=>by simp only[RVs]at h;subst h;simp[oneV,RV,RVs]
 | [v],xs,h=>by
  simp only[RVs]at h
  obtain⟨x,_,rfl,h1,rfl⟩:=h
  simpa[oneV]using h1
 |v::u::vs,xs,h=>by
  have h0:=h
  simp only[RVs]at h
  obtain⟨x,_,rfl,h1,y,ys,rfl,h2,h3⟩:=h
  rw[dif_neg (by simp)]
  simp only[oneV,RV]
  exact⟨_,rfl,h0⟩
theorem own_rows{X:Sess}{C:Ctx}{s s':St}{a:Act}(hr:Rel X C s a){w':World}{B:Nat}(hB:∀b,C.T b->B<=b)(hsz:w'.heap.size=C.w.heap.size)(hcells:∀(k:Nat) (o:Obj),C.w.heap[k]?=some o->isMem o=true->w'.heap[k]?=some o){ns:List Nat}
  (hblk:∀j,(s'.sg.getD j .fresh).blk (C.rho j)=if j∈ns then none else(s.sg.getD j .fresh).blk (C.rho j)):∀(rows:List (Nat × Res)),(∀p∈rows,s.sg.getD p.1 .fresh=p.2/\∃el sz es,p.2 = .row false el sz es)->(∀i∈fstN rows,i∈ns)->nodupF (fstN rows)=true->OwnRows B (immAll C s') w' C.rho rows
 | [],_,_,_=>trivial
 |(i,r)::l,h,hs,hn=>by
  obtain⟨h1,el,sz,es,h2⟩:=h (i,r) (by simp)
  simp only at h1 h2
  subst h2
  simp only[fstN,nodupF,Bool.and_eq_true,Bool.not_eq_true']at hn
  have hsi:=hr.sg i
  rw[h1]at hsi
  obtain⟨b,v,xs,k1,k2,k3,k4,k5⟩:=hsi
  have hbi:∀b',v.ownBlock=some b'->(s.sg.getD i .fresh).blk (C.rho i)=some b':=fun b' e=>by rw[h1,k1];exact e
  refine⟨⟨el,sz,es,⟨b,v⟩,xs,rfl,k1,?_,?_,k4,fun b' e=>?_,fun p hp o' ho' b' e1 e2=>?_⟩,own_rows hr hB hsz hcells hblk l (fun p hp=>h p (by simp[hp])) (fun j hj=>hs j (by simp[fstN,hj])) hn.2⟩
  ·refine⟨k2.1,?_⟩
   rcases k2.2 with k2|⟨g,cap,cur,e,k6,k7,k8⟩
   ·exact .inl k2
   ·exact .inr ⟨g,cap,cur,e,k6,hcells _ _ k7 rfl,k8⟩
  ·refine RV0s.mono (fun b' hb'=>⟨.inl hb',?_⟩) _ _ k3
   obtain⟨o,hh,ho⟩:=(hr.imm b' hb').2
   rw[hh];exact hcells _ _ hh ho
  ·obtain⟨eb,m1,_,m2⟩:=k5 b' e
   subst eb
   refine⟨hB b' m1,by rw[hsz];exact hr.T b' m1,?_⟩
   rintro(hi|⟨j,hj⟩)
   ·exact m2 rfl hi
   ·rw[hblk]at hj
    split at hj
    ·cases hj
    ·rename_i hnj
     exact hnj (hr.dis j i b' hj (hbi b' e) ▸ hs i (by simp[fstN]))
  ·obtain⟨q1,el',sz',es',q2⟩:=h p (by simp[hp])
   have:(s.sg.getD p.1 .fresh).blk (C.rho p.1)=some b':=by rw[q1,q2,ho'];exact e2
   have e3:=hr.dis i p.1 b' (hbi b' e1) this
   have:i∈fstN l:=fstN_mem.2 ⟨p,hp,e3.symm⟩
   rw[<- memN_iff]at this
   rw[this]at hn;simp at hn
theorem fnO{P:Program}{f:FuncId}{N M:Nat}{ci:CI}{rs:List RIO}{args:List AV}{R:AV->List (Nat × Res)->Prop}(m:Nat)(hok:FnOk P f N M ci rs)(hN:args.length<=N)(h0:goP (env3 P N []) ci (finO rs R) (argsTm 0 args) (freshL m) ⟨[],0,false⟩):FnO P f args R:=by
 rw[freshL_eq]at h0
 have h:=goP_ok h0
 unfold GoC at h
 obtain⟨fn,c,h1,h2,h3,h4,h5⟩:=hok.ok
 intro imm w vs himm hargs
 let X:Sess:={ P:=P,F:=Fence.wide,n:=5,N:=N,imm0:=imm,lo:=w.heap.size,pin:=fun _=>none,l:=0,Keep:=fun T S k st w'=>(k=0/\st=false/\∀b,¬S.s b/\¬S.h b)/\Below w.heap.size w w'/\∀b,T b->w.heap.size<=b }
 have hX:SessOk X (env3 P N []):=⟨fun f=>trivial, .inl rfl,
  fun T S k st w1 w2 hk hg=>⟨hk.1,hk.2.1.trans (hg.mono hk.2.1.size),fun b hb=>hb.elim (hk.2.2 b) fun hb=>Nat.le_trans hk.2.1.size hb.1⟩,
  fun T S k st w1 w2 b hk hT _ _ hg=>⟨hk.1,⟨hg.os.trans hk.2.1.os,hg.tape.trans hk.2.1.tape,hg.output.trans hk.2.1.output,by rw[hg.size];exact hk.2.1.size,fun k hkb=>(hg.other k (fun e=>by have:=hk.2.2 b hT;omega)).trans (hk.2.1.block k hkb)⟩,hk.2.2⟩,
  fun T S k st w1 b r r' hk hT hlo _ _=>⟨hk.1,⟨hk.2.1.os,hk.2.1.tape,hk.2.1.output,by simp only[World.putObj,Array.size_setIfInBounds];exact hk.2.1.size,fun j hj=>(World.putObj_heap_other (fun e=>by have:=hk.2.2 b hT;omega)).trans (hk.2.1.block j hj)⟩,hk.2.2⟩,
  fun T S k st w1 w2 hk _ hr=>⟨hk.1,⟨hr.os.trans hk.2.1.os,hr.tape.trans hk.2.1.tape,hr.output.trans hk.2.1.output,Nat.le_trans hk.2.1.size hr.size,fun j hj=>(hr.same j (Nat.lt_of_lt_of_le hj hk.2.1.size) (.inl hj)).trans (hk.2.1.block j hj)⟩,hk.2.2⟩,
  fun T S k st w1 Q hk hQ=>⟨hk.1,hk.2.1,fun b hb=>hb.elim (hk.2.2 b) fun hb=>(hQ b hb).1⟩,fun T S k st w1 hk=>hk.2.1.size,fun T S k st w1 hk=>⟨fun b hb=>absurd hb (hk.1.2.2 b).1,fun b hb=>absurd hb (hk.1.2.2 b).2⟩,fun T S k k' w1 us xs Q _ _ _ _ hys _=>by have h:=hys.1;simp at h,fun T S k st w1 Q hk _=>⟨hk.1,hk.2.1,fun b hb=>hk.2.2 b hb.1⟩,fun T S k k' w1 el sz es v xs _ _ hlx=>hlx.elim,rfl,rfl⟩
 have hvl:vs.length=args.length:=hargs.length
 have hrel:Rel X ⟨imm,fun _=>False,fun _=>none,w,ln0⟩ (start m args) { tmps:=vs.toArray++Array.replicate (fn.ntmps-vs.toArray.size) undef,defers:=[] }:=by
  refine⟨?_,fun d v hv=>?_,fun i=>?_,fun i j b hi=>?_,fun b hb=>⟨.inl hb,himm b hb⟩,fun b hb=>hb,fun b hb=>hb.elim,⟨⟨rfl,rfl,fun _=>⟨fun hb=>hb,fun hb=>hb⟩⟩,Below.refl _ _,fun b hb=>hb.elim⟩,⟨[],rfl,List.nodup_nil,fun D hD=>by cases hD⟩,(fun l hl=>by cases hl),fun i o hi=>(by simp[start]at hi),rfl,fun b hb=>hb.elim⟩
  ·show(vs.toArray++Array.replicate (fn.ntmps-vs.toArray.size) undef).size=N
   simp only[Array.size_append,List.size_toArray,Array.size_replicate]
   omega
  ·obtain⟨_,hd⟩:=argsTm_look hv
   simp only[Nat.sub_zero]at hd
   have hrvs:RVs ⟨imm,fun _=>False,fun _=>none,w,ln0⟩ args vs:=RV0s.rv args vs hargs
   obtain⟨x,hx,hvx⟩:=hrvs.get hd
   have hlt:=(List.getElem?_eq_some_iff.1 hx).1
   have:(vs.toArray++Array.replicate (fn.ntmps-vs.toArray.size) undef).getD d undef=x:=by
    rw[Array.getD_eq_getD_getElem?,Array.getElem?_append_left (by simpa using hlt)]
    simp[hx]
   rw[this];exact hvx
  ·have:(start m args).sg.getD i .fresh = .fresh:=by
    simp only[start,List.getD_eq_getElem?_getD,List.getElem?_replicate]
    split<;>rfl
   rw[this];rfl
  ·have:(start m args).sg.getD i .fresh = .fresh:=by
    simp only[start,List.getD_eq_getElem?_getD,List.getElem?_replicate]
    split<;>rfl
   rw[this]at hi;cases hi
 refine(callsIn_wide (n:=5)).1 (callsIn_of_wp_marks h1 h2 trivial (wpIn_mono (h X hX c 0 M h4 _ _ hrel) fun e a w1 hq=>?_))
 have fin:∀(C:Ctx) (s:St),C.w=w1->Rel X C s a->retO rs R s.tm s.sg->LeavesInM Fence.wide 5 P fn a.tmps (fun e w'=>∃v r rows imm' os,e = .returned v/\R r rows/\RV ⟨imm',fun _=>False,os,w',ln0⟩ r v/\r.oOk (fstN rows)=true/\OwnRows w.heap.size imm' w' os rows/\Below w.heap.size w w'/\(∀b,imm b->imm' b) /\
   (∀b,imm' b->imm b\/(w.heap.size<=b/\Mem w' b))) a.defers .returning w1:=fun C s hCw hr hret=>by
  subst hCw
  obtain⟨ds,hd1,hd2,hd3⟩:=hr.marks
  rw[hd1]
  refine leave_marks (B:=C.T) ds C.w hd2 hd3 fun w' hw'=>?_
  simp only[LeavesInM,LeavesIn]
  unfold retO at hret
  obtain⟨us,hus,hret⟩:=resLK_ok (gh:=s.gh) hret
  obtain⟨xs,k1,k2⟩:=resL_run hr hw' fn.results.toList rs us h5 hus
  have hrun:(results fn a.tmps).run P w' = .ok (if h:xs.toArray.size=1 then xs.toArray[0] else .tuple xs.toArray) w':=by
   rw[results_eq,Array.mapM_eq_mapM_toList]
   have k1':(fn.results.toList.mapM (resF a.tmps)).run P w' = .ok xs w':=k1
   simp only[Sem.run_bind,Sem.run_map,k1',Result.andThen_ok,Sem.run_pure]
  refine⟨_,hrun,?_⟩
  have k3:=oneV_rv k2
  generalize hrows:(oneV us).rws s.sg=rows at hret
  have hrw:=rws_ok (sg:=s.sg) (oneV us)
  rw[hrows]at hrw
  unfold retO1 at hret
  split at hret
  ·rename_i hnd
   split at hret
   ·rename_i r hfz
    split at hret
    ·rename_i hoo
     obtain⟨hk,hblk⟩:=hr.kills rows hrw hnd
     have k4:=frzo_ok (C1:=⟨immAll C { s with sg:=setL s.sg (deadR rows) },fun _=>False,C.rho,C.w,ln0⟩) hk rfl rfl rfl 8 _ _ _ hfz k3
     have hpers:Pers (immAll C { s with sg:=setL s.sg (deadR rows) }) (immAll C { s with sg:=setL s.sg (deadR rows) }) C.w w':=fun b hb=>by
      obtain⟨o',hh,ho'⟩:=immAll_cells hk b hb
      exact⟨hb,(hw'.mem b _ hh ho').trans hh.symm⟩
     have hl:Later (fun _=>true) ⟨immAll C { s with sg:=setL s.sg (deadR rows) },fun _=>False,C.rho,C.w,ln0⟩ ⟨immAll C { s with sg:=setL s.sg (deadR rows) },fun _=>False,C.rho,w',ln0⟩:=⟨hpers,fun _ _=>rfl,rfl⟩
     have hb:Below w.heap.size w w':=hr.keep.2.1.trans ⟨hw'.os,hw'.tape,hw'.output,by rw[hw'.size];exact Nat.le_refl _,fun k hk=>hw'.other k (fun hT=>by have:=hr.keep.2.2 k hT;omega)⟩
     refine⟨_,r,rows,immAll C { s with sg:=setL s.sg (deadR rows) },C.rho,rfl,hret,RV.later hl _ _ (AV.refsIn_all (fun _=>rfl) _) k4,hoo,own_rows hr (fun b hb=>hr.keep.2.2 b hb) hw'.size hw'.mem hblk rows hrw (fun _ h=>h) hnd,hb,fun b hb=>.inl (hr.imm0 b hb),fun b hb=>?_⟩
     obtain⟨o',hh,ho'⟩:=immAll_cells hk b hb
     have hh':Mem w' b:=⟨_,hw'.mem b _ hh ho',ho'⟩
     rcases hb with hb|⟨i,hb⟩
     ·rcases(hk.imm b hb).1 with h6|h6
      ·exact .inl h6
      ·exact .inr ⟨hr.keep.2.2 b h6,hh'⟩
     ·exact .inr ⟨hr.keep.2.2 b (Res.blk_lt (hk.sg i) hb).1,hh'⟩
    ·exact hret.elim
   ·exact hret.elim
  ·exact hret.elim
 cases e with
 |normal=>obtain⟨C,s,e1,hr,hret⟩:=hq;exact fin C s e1 hr hret
 |ret=>obtain⟨C,s,e1,hr,hret⟩:=hq;exact fin C s e1 hr hret
 |exit id=>obtain⟨C,s,e1,hr,hret⟩:=hq;exact hret.elim
 |goto l=>exact hq.elim
 |panic ch=>exact hq.elim
 |outgrown=>exact hq.elim
def AV.frzk(sg:List Res)(ns:List Nat):Nat->AV->Option AV
 |0,_=>none
 |n+1,v=>match v.pu with
  |true=>some v
  |false=>match v with
   |.row i=>match memN ns i with
    |true=>some (.row i)
    |false=>AV.frz sg 8 (.row i)
   |.own i off=>match memN ns i with
    |true=>some (.own i off)
    |false=>AV.frz sg 8 (.own i off)
   |.elt i sz k j=>match memN ns i with
    |true=>some (.elt i sz k j)
    |false=>none
   |.agg cs=>match mapO (AV.frzk sg ns n) cs with
    |some ds=>some (.agg ds)
    |none=>none
   |.tup cs=>match mapO (AV.frzk sg ns n) cs with
    |some ds=>some (.tup ds)
    |none=>none
   |.fn f cs=>match mapO (AV.frzk sg ns n) cs with
    |some ds=>some (.fn f ds)
    |none=>none
   |.yld=>some .yld
   |_=>none
mutual
def AV.inN(ns:List Nat):AV->Bool
 |.own i _=>memN ns i
 |.elt i _ _ _=>memN ns i
 |.row i=>memN ns i
 |.agg cs=>AV.inNL ns cs
 |.tup cs=>AV.inNL ns cs
 |.fn _ cs=>AV.inNL ns cs
 |.yld=>true
 |.gone=>false
 |_=>true
def AV.inNL(ns:List Nat):List AV->Bool
 | []=>true
 |a::as=>a.inN ns&&AV.inNL ns as
end
def posK:List Nat->Nat->Nat
 | [],_=>0
 |j::l,i=>match decide (i=j)with
  |true=>0
  |false=>posK l i+1
def outR(sg:List Res)(ns:List Nat):Res->Option Res
 |.fresh=>none
 |.box false cs=>match mapO (AV.frzk sg ns 8) cs with
  |some ds=>match AV.inNL ns ds with
   |true=>some (.box false (AV.mvL (posK ns) ds))
   |false=>none
  |none=>none
 |.mpo _ _=>none
 |r=>some r
def getF:List Res->Nat->Res
 | [],_=>.fresh
 |r::_,0=>r
 |_::rs,n+1=>getF rs n
theorem getF_eq:∀(l:List Res) (n:Nat),getF l n=l.getD n .fresh
 | [],n=>by simp[getF]
 |r::l,0=>by simp[getF]
 |r::l,n+1=>by simp[getF,getF_eq l n]
def outL(sg0 sg:List Res)(ns:List Nat):List Nat->Option (List Res)
 | []=>some []
 |i::l=>match outR sg ns (getF sg0 i)with
  |some r=>match outL sg0 sg ns l with
   |some rs=>some (r::rs)
   |none=>none
  |none=>none
def rangeN:Nat->Nat->List Nat
 |_,0=>[]
 |i,n+1=>i::rangeN (i+1) n
def retW1(m k:Nat)(nw:List Nat)(R:AV->List Res->Prop)(sg:List Res)(gh:Gh)(v:AV):Prop:=
 match nodupN (rangeN m k++nw),subN (rangeN m k) gh.p with
 |true,true=>match outL sg (setL sg (deadL (rangeN m k++nw))) (rangeN m k++nw) (rangeN m k++nw)with
  |some outs=>match AV.frzk (setL sg (deadL (rangeN m k++nw))) (rangeN m k++nw) 8 v with
   |some r=>match r.inN (rangeN m k++nw)with
    |true=>R (r.mv (posK (rangeN m k++nw))) outs
    |false=>False
   |none=>False
  |none=>False
 |_,_=>False
def retW(rs:List RIO)(m k:Nat)(nw:List Nat)(R:AV->List Res->Prop)(tm:Tm)(sg:List Res)(gh:Gh):Prop:=
 resLK tm sg rs fun vs=>retW1 m k nw R sg gh (oneV vs)
def insL(m:Nat):List Res->List Res
 | []=>[]
 |r::rs=>r.mv (fun j=>m+j)::insL m rs
def appR:List Res->List Res->List Res
 | [],l=>l
 |r::rs,l=>r::appR rs l
theorem appR_eq:∀(a b:List Res),appR a b=a++b
 | [],b=>rfl
 |r::rs,b=>by simp[appR,appR_eq rs b]
theorem insL_get:∀ {m:Nat} {ins:List Res} {j:Nat},(insL m ins).getD j .fresh=(ins.getD j .fresh).mv (fun j=>m+j)
 |m,[],j=>by simp[insL,Res.mv]
 |m,r::rs,0=>by simp[insL]
 |m,r::rs,j+1=>by simpa[insL]using insL_get (m:=m) (ins:=rs) (j:=j)
theorem rangeN_get:∀ {n i j:Nat},j<n->(rangeN i n)[j]?=some (i+j)
 |0,_,j,h=>by omega
 |n+1,i,0,_=>by simp[rangeN]
 |n+1,i,j+1,h=>by simp only[rangeN,List.getElem?_cons_succ];rw[rangeN_get (by omega)];congr 1;omega
theorem rangeN_len:∀ {n i:Nat},(rangeN i n).length=n
 |0,_=>rfl
 |n+1,i=>by simp[rangeN,rangeN_len]
theorem posK_mem:∀ {ns:List Nat} {i:Nat},i∈ns->posK ns i<ns.length/\ns[posK ns i]?=some i
 | [],i,h=>by cases h
 |j::l,i,h=>by
  simp only[posK]
  split
  ·rename_i e;have e:=of_decide_eq_true e;subst e;simp
  ·rename_i e;have e:=of_decide_eq_false e
   obtain⟨h1,h2⟩:=posK_mem ((List.mem_cons.1 h).resolve_left e)
   exact⟨by simp;omega,by simpa using h2⟩
theorem outL_get{sg0 sg:List Res}{ns:List Nat}:∀ {l:List Nat} {outs:List Res},outL sg0 sg ns l=some outs->outs.length=l.length/\∀j i,l[j]?=some i->outR sg ns (sg0.getD i .fresh)=some (outs.getD j .fresh)
 | [],outs,h=>by simp only[outL,Option.some.injEq]at h;subst h;simp
 |i::l,outs,h=>by
  simp only[outL,getF_eq]at h
  split at h
  ·rename_i r h1
   split at h<;>cases h
   rename_i rs h2
   obtain⟨k1,k2⟩:=outL_get h2
   refine⟨by simp[k1],fun j x hj=>?_⟩
   cases j with
   |zero=>simp at hj;subst hj;simpa using h1
   |succ j=>simpa using k2 j x (by simpa using hj)
  ·cases h
theorem frzk_ok{X:Sess}{C C1:Ctx}{s:St}{a:Act}(h:Rel X C s a)(hll:C1.l.l=C.l.l)(hi:C1.imm=immAll C s)(hw:C1.w=C.w)(hr:C1.rho=C.rho){ns:List Nat}:∀(n:Nat) (v:AV) (x:Value) (v':AV),AV.frzk s.sg ns n v=some v'->RV C v x->RV C1 v' x:=by
 have leaf:∀(v:AV) (x:Value) (v':AV),AV.frz s.sg 8 v=some v'->RV C v x->RV C1 v' x:=fun v x v' h1 h2=>by
  have:=frz_ok h 8 v x v' h1 h2
  rw[<- hi,<- hw]at this
  exact RV0.rv v' x this
 have hl:∀(v:AV) (x:Value),v.pu=true->RV C v x->RV C1 v x:=fun v x hv hx=>by
  have h1:=RV.to0 v x hv hx
  refine RV0.rv v x (RV0.mono (imm:=C.imm) (w:=C.w) (fun b hb=>⟨by rw[hi];exact .inl hb,by rw[hw]⟩) v x h1)
 have lst:∀ {f:AV->Option AV},(∀v x v',f v=some v'->RV C v x->RV C1 v' x)->∀(as:List AV) (vs:List Value) (as':List AV),mapO f as=some as'->RVs C as vs->RVs C1 as' vs:=by
  intro f hf as
  induction as with
  |nil=>intro vs as' hm hv;simp only[mapO,Option.some.injEq]at hm;subst hm;simpa[RVs]using hv
  |cons a as ih=>
   intro vs as' hm hv
   simp only[mapO]at hm
   split at hm
   ·rename_i d ds h1 h2
    cases hm
    simp only[RVs]at hv⊢;obtain⟨v,vs',rfl,h3,h4⟩:=hv
    exact⟨v,vs',rfl,hf _ _ _ h1 h3,ih vs' ds h2 h4⟩
   ·cases hm
 intro n
 induction n with
 |zero=>intro v x v' hv;simp[AV.frzk]at hv
 |succ n ih=>
  intro v x v' hv hx
  unfold AV.frzk at hv
  split at hv
  ·rename_i hp;cases hv;exact hl v x hp hx
  ·cases v with
   |row i=>
    simp only at hv
    split at hv
    ·cases hv;simp only[RV]at hx⊢;rw[hr];exact hx
    ·exact leaf _ _ _ hv hx
   |own i off=>
    simp only at hv
    split at hv
    ·cases hv;simp only[RV]at hx⊢;rw[hr];exact hx
    ·exact leaf _ _ _ hv hx
   |elt i sz k j=>
    simp only at hv
    split at hv
    ·cases hv;simp only[RV]at hx⊢;rw[hr];exact hx
    ·cases hv
   |agg cs=>
    simp only at hv
    split at hv<;>cases hv
    rename_i ds hm
    simp only[RV]at hx⊢
    obtain⟨vs,rfl,hx⟩:=hx
    exact⟨vs,rfl,lst ih cs vs ds hm hx⟩
   |tup cs=>
    simp only at hv
    split at hv<;>cases hv
    rename_i ds hm
    simp only[RV]at hx⊢
    obtain⟨vs,rfl,hx⟩:=hx
    exact⟨vs,rfl,lst ih cs vs ds hm hx⟩
   |fn f cs=>
    simp only at hv
    split at hv<;>cases hv
    rename_i ds hm
    simp only[RV]at hx⊢
    obtain⟨vs,rfl,hx⟩:=hx
    exact⟨vs,rfl,lst ih cs vs ds hm hx⟩
   |yld=>simp only[Option.some.injEq]at hv;subst hv;simp only[RV]at hx⊢;rw[hll];exact hx
   |_=>simp at hv
theorem frzkL_ok{X:Sess}{C C1:Ctx}{s:St}{a:Act}(h:Rel X C s a)(hll:C1.l.l=C.l.l)(hi:C1.imm=immAll C s)(hw:C1.w=C.w)(hr:C1.rho=C.rho){ns:List Nat}:∀(as:List AV) (vs:List Value) (as':List AV),mapO (AV.frzk s.sg ns 8) as=some as'->RVs C as vs->RVs C1 as' vs
 | [],vs,as',hm,hv=>by simp only[mapO,Option.some.injEq]at hm;subst hm;simpa[RVs]using hv
 |a::as,vs,as',hm,hv=>by
  simp only[mapO]at hm
  split at hm
  ·rename_i d ds h1 h2
   cases hm
   simp only[RVs]at hv⊢;obtain⟨v,vs',rfl,h3,h4⟩:=hv
   exact⟨v,vs',rfl,frzk_ok h hll hi hw hr 8 _ _ _ h1 h3,frzkL_ok h hll hi hw hr as vs' ds h2 h4⟩
  ·cases hm
mutual
theorem RV.inn{C C0:Ctx}{π : Nat->Nat}{ns:List Nat}(hll:C0.l.l=C.l.l)(hp:Pers C0.imm C.imm C0.w C.w)(hr:∀i,i∈ns->C.rho (π i)=C0.rho i):∀(a:AV) (x:Value),a.inN ns=true->RV C0 a x->RV C (a.mv π) x
 |.bool _,_,_,h=>by simpa only[RV,AV.mv]using h
 |.int _ _,_,_,h=>by simpa only[RV,AV.mv]using h
 |.str _,_,_,h=>by simpa only[RV,AV.mv]using h
 |.lit _,_,_,h=>by simpa only[RV,AV.mv]using h
 |.nils,_,_,h=>by simpa only[RV,AV.mv]using h
 |.agg cs,v,hb,h=>by simp only[RV,AV.mv,AV.inN]at h hb⊢;obtain⟨vs,rfl,h⟩:=h;exact⟨vs,rfl,RVs.inn hll hp hr cs vs hb h⟩
 |.tup cs,v,hb,h=>by simp only[RV,AV.mv,AV.inN]at h hb⊢;obtain⟨vs,rfl,h⟩:=h;exact⟨vs,rfl,RVs.inn hll hp hr cs vs hb h⟩
 |.fn f cs,v,hb,h=>by simp only[RV,AV.mv,AV.inN]at h hb⊢;obtain⟨vs,rfl,h⟩:=h;exact⟨vs,rfl,RVs.inn hll hp hr cs vs hb h⟩
 |.isl es,v,_,h=>by simp only[RV,AV.mv]at h⊢;exact RV0.mono hp _ _ h
 |.ipt cs,v,_,h=>by simp only[RV,AV.mv]at h⊢;exact RV0.mono hp _ _ h
 |.imp _ _,v,_,h=>by simp only[RV,AV.mv]at h⊢;exact RV0.mono hp _ _ h
 |.tsl _ _,v,_,h=>by simp only[RV,AV.mv]at h⊢;exact RV0.mono hp _ _ h
 |.mth _ _,v,_,h=>by simp only[RV,AV.mv]at h⊢;exact RV0.mono hp _ _ h
 |.any,v,_,h=>by simpa only[RV,AV.mv]using h
 |.own i _,v,hb,h=>by simp only[RV,AV.mv,AV.inN]at h hb⊢;rw[hr i (memN_iff.1 hb)];exact h
 |.elt i _ _ _,v,hb,h=>by simp only[RV,AV.mv,AV.inN]at h hb⊢;rw[hr i (memN_iff.1 hb)];exact h
 |.row i,v,hb,h=>by simp only[RV,AV.mv,AV.inN]at h hb⊢;rw[hr i (memN_iff.1 hb)];exact h
 |.yld,_,_,h=>by simp only[RV,AV.mv]at h⊢;rw[<- hll];exact h
 |.gone,_,hb,_=>by cases hb
theorem RVs.inn{C C0:Ctx}{π : Nat->Nat}{ns:List Nat}(hll:C0.l.l=C.l.l)(hp:Pers C0.imm C.imm C0.w C.w)(hr:∀i,i∈ns->C.rho (π i)=C0.rho i):∀(as:List AV) (xs:List Value),AV.inNL ns as=true->RVs C0 as xs->RVs C (AV.mvL π as) xs
 | [],_,_,h=>by simpa only[RVs,AV.mvL]using h
 |a::as,xs,hb,h=>by
  simp only[RVs,AV.mvL,AV.inNL,Bool.and_eq_true]at h hb⊢
  obtain⟨x,xs',rfl,h1,h2⟩:=h
  exact⟨x,xs',rfl,RV.inn hll hp hr a x hb.1 h1,RVs.inn hll hp hr as xs' hb.2 h2⟩
end
def rho0(m:Nat)(os:Nat->Option Own)(i:Nat):Option Own:=if i<m then none else os (i-m)
theorem ret_back{X:Sess}{C:Ctx}{s:St}{a:Act}{w':World}{T:Nat->Prop}{os:Nat->Option Own}{m k:Nat}{nw:List Nat}{R:AV->List Res->Prop}{u:AV}{x:Value}(hr:Rel X C s a)(hw':Fr C.T C.w w')(k3:RV C u x)
  (hpin:∀i o,i<k->os i=some o->X.pin (m+i)=some o) (hos:∀i o,os i=some o->i<k) (hret:retW1 m k nw R s.sg s.gh u) :
  ∃r outs imm' os',R r outs/\RV ⟨imm',fun b=>T b\/C.T b,os',w',lnl C.l.l⟩ r x/\Part imm' (fun b=>T b\/C.T b) w' os' C.l.l outs/\(∀i o,os i=some o->os' i=some o)/\(∀b,C.imm b->imm' b)/\(∀b,imm' b->(C.imm b\/C.T b)/\Mem w' b):=by
  unfold retW1 at hret
  generalize hns:rangeN m k++nw=ns at hret
  split at hret<;>try exact hret.elim
  rename_i hnd hsub
  split at hret<;>try exact hret.elim
  rename_i outs hout
  split at hret<;>try exact hret.elim
  rename_i r hfz
  split at hret<;>try exact hret.elim
  rename_i hin
  obtain⟨ol1,ol2⟩:=outL_get hout
  have hgo:∀j i,ns[j]?=some i->outR (setL s.sg (deadL ns)) ns (s.sg.getD i .fresh)=some (outs.getD j .fresh):=ol2
  have hidx:∀i∈ns,∃j:Nat,ns[j]?=some i:=fun i hi=>by
   obtain⟨j,hj,e⟩:=List.getElem_of_mem hi
   exact⟨j,by rw[List.getElem?_eq_getElem hj,e]⟩
  obtain⟨hkl,hbl⟩:=Rel.killN ns (s:=s) hr (fun i hi e=>by
   obtain⟨j,hj⟩:=hidx i hi
   have:=hgo j i hj
   rw[e]at this;cases this)
  have hBk:∀b,immAll C { s with sg:=setL s.sg (deadL ns) } b->Mem w' b:=fun b hb=>by
   obtain⟨o',hh,ho'⟩:=immAll_cells hkl b hb
   exact⟨_,hw'.mem b _ hh ho',ho'⟩
  let C1:Ctx:=⟨immAll C { s with sg:=setL s.sg (deadL ns) },C.T,C.rho,w',lnl C.l.l⟩
  let os':Nat->Option Own:=fun j=>(ns[j]?).bind C.rho
  let C2:Ctx:=⟨immAll C { s with sg:=setL s.sg (deadL ns) },fun b=>T b\/C.T b,os',w',lnl C.l.l⟩
  have hos':∀i,i∈ns->os' (posK ns i)=C.rho i:=fun i hi=>by
   simp only[os',(posK_mem hi).2,Option.bind_some]
  have hpers:Pers (immAll C { s with sg:=setL s.sg (deadL ns) }) (immAll C { s with sg:=setL s.sg (deadL ns) }) C.w w':=fun b hb=>by
   obtain⟨o',hh,ho'⟩:=immAll_cells hkl b hb
   exact⟨hb,(hw'.mem b _ hh ho').trans hh.symm⟩
  have hp0:Pers C.imm (immAll C { s with sg:=setL s.sg (deadL ns) }) C.w w':=fun b hb=>⟨.inl hb,(hpers b (.inl hb)).2⟩
  have hl1:Later (fun _=>true) ⟨immAll C { s with sg:=setL s.sg (deadL ns) },C.T,C.rho,C.w,lnl C.l.l⟩ C1:=⟨hpers,fun _ _=>rfl,rfl⟩
  have hT1:∀b,C.T b->b<w'.heap.size:=fun b hb=>by rw[hw'.size];exact hr.T b hb
  have hnot:∀i b,i∈ns->(s.sg.getD i .fresh).blk (C.rho i)=some b->immAll C { s with sg:=setL s.sg (deadL ns) } b->C.imm b:=fun i b hi hb hb2=>by
   rcases hb2 with hb2|⟨j,hj⟩
   ·exact hb2
   ·rw[hbl]at hj
    split at hj
    ·cases hj
    ·rename_i hnj
     exact absurd (hr.dis j i b hj hb ▸ hi) hnj
  have hval:RV C2 (r.mv (posK ns)) x:=by
   have q1:=frzk_ok (C1:=⟨immAll C { s with sg:=setL s.sg (deadL ns) },C.T,C.rho,C.w,lnl C.l.l⟩) hkl rfl rfl rfl rfl 8 _ _ _ hfz k3
   have q2:=RV.later hl1 _ _ (AV.refsIn_all (fun _=>rfl) _) q1
   exact RV.inn (C:=C2) (C0:=C1) (ns:=ns) rfl (fun b hb=>⟨hb,rfl⟩) (fun i hi=>hos' i hi) r _ hin q2
  have hpart:Part (immAll C { s with sg:=setL s.sg (deadL ns) }) (fun b=>T b\/C.T b) w' os' C.l.l outs:=by
   have hout':∀j,outs.length<=j->outs.getD j .fresh = .fresh/\os' j=none:=fun j hj=>by
    refine⟨by rw[List.getD_eq_getElem?_getD,List.getElem?_eq_none hj];rfl,?_⟩
    simp only[os'];rw[List.getElem?_eq_none (by omega)];rfl
   have hblk:∀j i,ns[j]?=some i->(outs.getD j .fresh).blk (os' j)=(s.sg.getD i .fresh).blk (C.rho i):=fun j i hj=>by
    have:=hgo j i hj
    have e:os' j=C.rho i:=by simp only[os',hj,Option.bind_some]
    rw[e]
    generalize outs.getD j .fresh=q at this
    generalize s.sg.getD i .fresh=p at this
    unfold outR at this
    split at this
    ·cases this
    ·split at this<;>try cases this
     split at this<;>cases this
     rfl
    ·cases this
    ·cases this;rfl
   refine⟨fun j=>?_,fun i j b hi hj=>?_⟩
   ·by_cases hj:j<outs.length
    ·obtain⟨i,hi⟩:∃i,ns[j]?=some i:=⟨_,List.getElem?_eq_getElem (by omega)⟩
     have him:i∈ns:=List.mem_of_getElem? hi
     have hg:=hgo j i hi
     have hs:=hr.sg i
     have e:os' j=C.rho i:=by simp only[os',hi,Option.bind_some]
     rw[e]
     cases hres:s.sg.getD i .fresh with
     |fresh=>rw[hres]at hg;cases hg
     |dead=>rw[hres]at hg hs;simp only[outR,Option.some.injEq]at hg;rw[<- hg];exact hs
     |box ice cs=>
      cases ice with
      |false=>
       rw[hres]at hg
       simp only[outR]at hg
       split at hg<;>try cases hg
       rename_i ds hds
       split at hg<;>try (cases hg;done)
       rename_i hind
       have e8:outs.getD j .fresh = .box false (AV.mvL (posK ns) ds):=by injection hg with hg;exact hg.symm
       rw[e8]
       have hs2:=hs
       rw[hres]at hs2
       obtain⟨b,vs',el,g1,g2,g3,g4,g5,g6⟩:=hs2
       have hb:(s.sg.getD i .fresh).blk (C.rho i)=some b:=by rw[hres,g1];rfl
       have q1:=frzkL_ok (C1:=⟨immAll C { s with sg:=setL s.sg (deadL ns) },C.T,C.rho,C.w,lnl C.l.l⟩) hkl rfl rfl rfl rfl cs vs' ds hds g4
       have q2:=RVs.later hl1 _ _ (AV.refsInL_all (fun _=>rfl) _) q1
       exact⟨b,vs',el,g1, .inr g2,hw'.mem _ _ g3 rfl,RVs.inn (C:=C2) (C0:=C1) (ns:=ns) rfl (fun b hb=>⟨hb,rfl⟩) (fun i hi=>hos' i hi) ds _ hind q2,fun e=>absurd e (by simp),fun _ hh=>g6 rfl (hnot i b him hb hh)⟩
      |true=>
       rw[hres]at hg hs
       simp only[outR,Option.some.injEq]at hg
       rw[<- hg]
       obtain⟨b,vs',el,g1,g2,g3,g4,g5,g6⟩:=hs
       have q:=RV0s.mono hp0 _ _ (g5 rfl).2
       exact⟨b,vs',el,g1, .inr g2,hw'.mem _ _ g3 rfl,RV0s.rv (C:=C2) _ _ q,fun _=>⟨.inl (g5 rfl).1,q⟩,fun e=>absurd e (by simp)⟩
     |row ice el sz es=>
      have hblk:=hnot i
      rw[hres]at hg hs hblk
      simp only[outR,Option.some.injEq]at hg
      rw[<- hg]
      obtain⟨b,v,xs',g1,g2,g3,g4,g5⟩:=hs
      rw[g1]at hblk
      refine⟨b,v,xs',g1,⟨g2.1,?_⟩,RV0s.mono hp0 _ _ g3,g4,fun b' e=>?_⟩
      ·rcases g2.2 with g2|⟨g,cap,cur,e,k6,k7,k8⟩
       ·exact .inl g2
       ·exact .inr ⟨g,cap,cur,e,k6,hw'.mem _ _ k7 rfl,k8⟩
      ·obtain⟨m1,m2,m3,m4⟩:=g5 b' e
       exact⟨m1, .inr m2,fun e'=>.inl (m3 e'),fun e' hh=>m4 e' (by rw[<- m1]at hh⊢;exact hblk b' him e hh)⟩
     |mp ice ks us=>
      have hblk:=hnot i
      rw[hres]at hg hs hblk
      simp only[outR,Option.some.injEq]at hg
      rw[<- hg]
      obtain⟨b,es,g1,g2,g3,g4,g5,g6,g7,g8⟩:=hs
      rw[g1]at hblk
      exact⟨b,es,g1, .inr g2,hw'.mem _ _ g3 rfl,g4,RV0s.mono hp0 _ _ g5,RV0s.mono hp0 _ _ g6,fun e'=>.inl (g7 e'),fun e' hh=>g8 e' (hblk b him rfl hh)⟩
     |mpo ks us=>
      rw[hres]at hg
      simp only[outR]at hg
      cases hg
     |itr ks us seen last=>
      have hblk:=hnot i
      rw[hres]at hg hs hblk
      simp only[outR,Option.some.injEq]at hg
      rw[<- hg]
      obtain⟨b,mm,g1,g2,g3,g4,g5,g6⟩:=hs
      rw[g1]at hblk
      exact⟨b,mm,g1, .inr g2,fun hh=>g3 (hblk b him rfl hh),hw'.mem _ _ g4 rfl,RV0.mono hp0 _ _ g5,g6⟩
    ·obtain⟨q1,q2⟩:=hout' j (by omega)
     rw[q1,q2];rfl
   ·have lt:∀j,(outs.getD j .fresh).blk (os' j)=some b->j<outs.length:=fun j hj=>Classical.byContradiction fun hn=>by
     rw[(hout' j (by omega)).1]at hj;cases hj
    have l1:=lt i hi
    have l2:=lt j hj
    obtain⟨i1,e1⟩:∃x,ns[i]?=some x:=⟨_,List.getElem?_eq_getElem (by omega)⟩
    obtain⟨j1,e2⟩:∃x,ns[j]?=some x:=⟨_,List.getElem?_eq_getElem (by omega)⟩
    rw[hblk i i1 e1]at hi
    rw[hblk j j1 e2]at hj
    refine nodupN_get hnd i j (by omega) (by omega) ?_
    rw[List.getD_eq_getElem?_getD,List.getD_eq_getElem?_getD,e1,e2]
    exact hr.dis i1 j1 b hi hj
  refine⟨r.mv (posK ns),outs,immAll C { s with sg:=setL s.sg (deadL ns) },os',hret,hval,hpart,fun i o ho=>?_,fun b hb=>.inl hb,fun b hb=>⟨?_,hBk b hb⟩⟩
  ·have hi:=hos i o ho
   have e1:ns[i]?=some (m+i):=by rw[<- hns,List.getElem?_append_left (by rw[rangeN_len];exact hi),rangeN_get hi]
   simp only[os',e1,Option.bind_some]
   exact hr.pin.1 (m+i) o (subN_ok hsub _ (List.mem_of_getElem? (rangeN_get hi))) (hpin i o hi ho)
  ·rcases hb with hb|⟨i,hb⟩
   ·exact .inl hb
   ·exact .inr (Res.blk_lt (hkl.sg i) hb).1
theorem RVs.app{C:Ctx}:∀ {as bs:List AV} {vs ws:List Value},RVs C as vs->RVs C bs ws->RVs C (as++bs) (vs++ws)
 | [],_,vs,_,h,k=>by simp only[RVs]at h;subst h;exact k
 |a::as,_,vs,_,h,k=>by
  simp only[RVs]at h;obtain⟨v,vs',rfl,h1,h2⟩:=h
  simp only[List.cons_append,RVs];exact⟨v,_,rfl,h1,RVs.app h2 k⟩
end Go.Eng
