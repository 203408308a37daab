/- The engine of these proofs, part 2 of 4: abstract values and states, the walk of a function's body as a program on them, and why that walk is sound for the model. It speaks of any program. -/
import Derived.Test.YtpcmpgcjhmecbaaEng1
set_option linter.unusedSimpArgs false
set_option linter.unusedVariables false
set_option linter.unusedSectionVars false
namespace Go.Eng
open Go.RowKit
theorem sb_same{w:World}{b:Nat}(h:b<w.heap.size)(o:Obj):(ChangeMaps.setBlock w b o).heap[b]?=some o:=by
 simp[ChangeMaps.setBlock,h]
theorem sb_other{w:World}{b k:Nat}(h:k≠b)(o:Obj):(ChangeMaps.setBlock w b o).heap[k]?=w.heap[k]?:=by
 simp[ChangeMaps.setBlock,Array.getElem?_setIfInBounds,Ne.symm h]
def ktD:KTy->TypeDesc->Prop
 |.int, .int _=>True
 |.bool, .bool=>True
 |.str, .string=>True
 |_,_=>False
theorem ktOf_ok{P:Program}{k:TypeId}{kt:KTy}(h:ktOf P k=some kt):(∃d,P.underlying k=some d/\ktD kt d)\/∃fs T,P.underlying k=some (.struct fs)/\eqTree P 3 k=some T/\fs.toList.all (leafF P)=true/\kt = .st T:=by
 simp only[ktOf]at h
 split at h
 all_goals first|(rename_i h1;cases h;exact .inl ⟨_,h1,trivial⟩)|skip
 ·rename_i fs h1
  split at h
  ·rename_i T h2
   split at h
   ·rename_i h3
    cases h
    exact .inr ⟨fs,T,h1,h2,h3,rfl⟩
   ·cases h
  ·cases h
 ·cases h
theorem ba_beq(a b:List UInt8):((⟨a.toArray⟩:ByteArray)==⟨b.toArray⟩)=(a==b):=by
 show(a.toArray==b.toArray)=_
 simp
theorem same_ok{imm:Nat->Prop}{w:World}{kt:KTy}{d:TypeDesc}(hd:ktD kt d){x y:AV}{vx vy:Value}{r:Bool}(hr:keq kt x y=some r)(hx:RV0 imm w x vx)(hy:RV0 imm w y vy) :
  Instr.sameNow d vx vy=some r/\(r=true->vx=vy):=by
 cases kt<;>cases d<;>simp only[ktD]at hd<;>cases x<;>simp only[keq]at hr<;>try cases hr
 all_goals
  cases y<;>simp only[keq]at hr<;>try cases hr
 ·split at hr<;>cases hr
  rename_i e
  simp only[RV0]at hx hy;subst hx;subst hy;subst e
  exact⟨by simp[Instr.sameNow],fun h=>by simp at h;rw[h]⟩
 ·simp only[RV0]at hx hy;subst hx;subst hy
  exact⟨by simp[Instr.sameNow],fun h=>by simp at h;rw[h]⟩
 ·simp only[RV0]at hx hy;subst hx;subst hy
  exact⟨by simp[Instr.sameNow,ba_beq],fun h=>by simp at h;rw[h]⟩
theorem find_ok{imm:Nat->Prop}{w:World}{kt:KTy}{d:TypeDesc}(hd:ktD kt d){x:AV}{vx:Value}(hx:RV0 imm w x vx):∀(ks:List AV) (es:List MapEntry) (i:Nat) (r:Option Nat),RV0s imm w ks (es.map (·.key))->findK kt x ks i=some r ->
  (r=none/\Instr.findNow d vx es i=some none)\/∃j e,r=some (i+j)/\es[j]?=some e/\Instr.findNow d vx es i=some (some (i+j,e.val))/\e.key=vx
 | [],es,i,r,hk,hf=>by
  cases es with
  |nil=>simp only[findK,Option.some.injEq]at hf;subst hf;exact .inl ⟨rfl,rfl⟩
  |cons e es=>simp[RV0s]at hk
 |k::ks,es,i,r,hk,hf=>by
  cases es with
  |nil=>simp[RV0s]at hk
  |cons e es=>
   simp only[List.map_cons,RV0s]at hk
   obtain⟨v,vs,h1,h2,h3⟩:=hk
   cases h1
   simp only[findK]at hf
   split at hf
   ·rename_i hq
    cases hf
    obtain⟨q1,q2⟩:=same_ok hd hq hx h2
    exact .inr ⟨0,e,by simp,rfl,by simp[Instr.findNow,q1],(q2 rfl).symm⟩
   ·rename_i hq
    obtain⟨q1,q2⟩:=same_ok hd hq hx h2
    rcases find_ok hd hx ks es (i+1) r h3 hf with⟨h4,h5⟩|⟨j,e',h4,h5,h6,h7⟩
    ·exact .inl ⟨h4,by simp[Instr.findNow,q1,h5]⟩
    ·exact .inr ⟨j+1,e',by rw[h4];congr 1;omega,by simpa using h5,by simp only[Instr.findNow,q1,h6];congr 3;omega,h7⟩
   ·cases hf
theorem check_ok{P:Program}{w:World}{kt:KTy}{d:TypeDesc}{k:TypeId}(hk:P.underlying k=some d)(hd:ktD kt d)(em:Bool)(v:Value):(Instr.checkKey em 10000 k v).run P w = .ok () w:=by
 rw[show(10000:Nat)=9999+1 from rfl,Instr.checkKey]
 cases kt<;>cases d<;>simp only[ktD]at hd<;>simp[run_underlying hk,Sem.run_pure]
theorem RV0s.len0{imm:Nat->Prop}{w:World}:∀ {as:List AV} {vs:List Value},RV0s imm w as vs->vs.length=as.length
 | [],vs,h=>by simp only[RV0s]at h;subst h;rfl
 |a::as,vs,h=>by simp only[RV0s]at h;obtain⟨v,vs',rfl,_,h⟩:=h;simp[RV0s.len0 h]
theorem scEq_val{imm:Nat->Prop}{w:World}:∀ {as bs:List AV} {vs us:List Value},scEq as bs=some true->RV0s imm w as vs->RV0s imm w bs us->vs=us
 | [],[],vs,us,_,ha,hb=>by simp only[RV0s]at ha hb;rw[ha,hb]
 |.int k a::as, .int l b::bs,vs,us,h,ha,hb=>by
  simp only[scEq]at h
  split at h
  ·rename_i hkl
   split at h
   ·rename_i r hr
    simp only[Option.some.injEq,Bool.and_eq_true,beq_iff_eq]at h
    obtain⟨h1,h2⟩:=h
    subst h2;subst h1;subst hkl
    simp only[RV0s,RV0]at ha hb
    obtain⟨_,vs',rfl,rfl,ha⟩:=ha
    obtain⟨_,us',rfl,rfl,hb⟩:=hb
    rw[scEq_val hr ha hb]
   ·cases h
  ·cases h
 |.bool a::as, .bool b::bs,vs,us,h,ha,hb=>by
  simp only[scEq]at h
  split at h
  ·rename_i r hr
   simp only[Option.some.injEq,Bool.and_eq_true,beq_iff_eq]at h
   obtain⟨h1,h2⟩:=h
   subst h2;subst h1
   simp only[RV0s,RV0]at ha hb
   obtain⟨_,vs',rfl,rfl,ha⟩:=ha
   obtain⟨_,us',rfl,rfl,hb⟩:=hb
   rw[scEq_val hr ha hb]
  ·cases h
theorem scV_bits{imm:Nat->Prop}{w:World}:∀ {as:List AV} {vs:List Value},scV as=true->RV0s imm w as vs->∀n,((vs.zip vs).all fun(x,y)=>Instr.sameBits n x y)=true
 | [],vs,_,ha,n=>by simp only[RV0s]at ha;rw[ha];rfl
 |.int k a::as,vs,h,ha,n=>by
  simp only[scV]at h
  simp only[RV0s,RV0]at ha
  obtain⟨_,vs',rfl,rfl,ha⟩:=ha
  have:=scV_bits h ha n
  simp only[List.zip_cons_cons,List.all_cons,this,Bool.and_true]
  cases n<;>simp[Instr.sameBits]
 |.bool a::as,vs,h,ha,n=>by
  simp only[scV]at h
  simp only[RV0s,RV0]at ha
  obtain⟨_,vs',rfl,rfl,ha⟩:=ha
  have:=scV_bits h ha n
  simp only[List.zip_cons_cons,List.all_cons,this,Bool.and_true]
  cases n<;>simp[Instr.sameBits]
theorem ck_leaf{P:Program}{w:World}{as:List AV}{t:TypeId}{T:EqT}{m n:Nat}{em:Bool}{vs:List Value}{imm:Nat->Prop}{off:Nat}{r:Bool}(hv:RV0s imm w as vs)(hl:leafT P t=true)(hT:eqTree P (n+1) t=some T)(hc:szOf P t=some m)
  (he:eqV T ((as.drop off).take m) ((as.drop off).take m)=some r) (d:Nat):∃x,(part t vs.toArray off).run P w = .ok x w/\(Instr.checkKey em (d+1) t x).run P w = .ok () w:=by
 have h7:∃d,P.underlying t=some d/\(d = .bool\/∃kd,d = .int kd):=by
  unfold leafT at hl
  split at hl
  ·rename_i kd hd;exact⟨_,hd, .inr ⟨kd,rfl⟩⟩
  ·rename_i hd;exact⟨_,hd, .inl rfl⟩
  ·cases hl
 obtain⟨dd,hd,hd2⟩:=h7
 have hag:aggOf P t=some false:=by
  rcases hd2 with rfl|⟨kd,rfl⟩<;>simp[aggOf,hd]
 have hT':∃i,T = .leaf i:=by
  simp only[eqTree]at hT
  rcases hd2 with rfl|⟨kd,rfl⟩<;>simp only[hd,Option.some.injEq]at hT<;>exact⟨_,hT.symm⟩
 obtain⟨i,rfl⟩:=hT'
 have hlen:((vs.drop off).take m).length=1:=by
  have h8:=((hv.drop off).take m).len0
  rw[h8]
  simp only[eqV]at he
  split at he
  ·rename_i hq _;rw[hq];rfl
  ·cases he
 obtain⟨x,h9,_⟩:=part_val (off:=off) (vs:=vs) hag hc (fun _=>hlen) w
 refine⟨x,h9,?_⟩
 rw[Instr.checkKey]
 rcases hd2 with rfl|⟨kd,rfl⟩<;>simp[run_underlying hd,Sem.run_pure]
theorem ck_array{P:Program}{w:World}{as:List AV}{t e:TypeId}{T:EqT}{m c n:Nat}{em:Bool}{vs:List Value}{imm:Nat->Prop}{r:Bool}(ht:P.underlying t=some (.array m e))(hv:RV0s imm w as vs)(hl:leafT P e=true)(hT:eqTree P (n+1) e=some T)(hc:szOf P e=some c)
  (he:eqVs ((List.range m).map fun i=>(i*c,c,T)) as as=some r) (d:Nat):(Instr.checkKey em (d+1+1) t (.agg vs.toArray)).run P w = .ok () w:=by
 obtain⟨i,hi,hci⟩:∃i,P.info? e=some i/\i.size=c:=by
  simp only[szOf,Option.map_eq_some_iff]at hc;exact hc
 have hsz:(sizeOf e).run P w = .ok c w:=sz_run hc w
 rw[Instr.checkKey]
 simp only[Sem.run_bind,run_underlying ht,Result.andThen_ok]
 simp only[Std.Legacy.Range.forIn_eq_forIn_range',Std.Legacy.Range.size,Nat.sub_zero,Nat.add_one_sub_one,Nat.div_one,<- List.range_eq_range']
 have key:∀(is:List Nat) (r:Bool),eqVs (is.map fun i=>(i*c,c,T)) as as=some r->(forIn (m:=Sem) is PUnit.unit fun i _=>do
   let s <- sizeOf e
   let x <- part e vs.toArray (i*s)
   (fun a=>ForInStep.yield PUnit.unit) <$> Instr.checkKey em (d+1) e x).run P w = .ok PUnit.unit w:=by
  intro is
  induction is with
  |nil=>intro r _;simp[Sem.run_pure]
  |cons j is ih=>
   intro r he
   simp only[List.map_cons,eqVs]at he
   split at he
   ·rename_i r1 r2 h4 h5
    obtain⟨x,h9,h10⟩:=ck_leaf (em:=em) hv hl hT hc h4 d
    rw[List.forIn_cons]
    simp only[Sem.run_bind,Sem.run_map,hsz,h9,h10,Result.andThen_ok,Sem.run_pure]
    exact ih r2 h5
   ·cases he
 have h11:=key (List.range m) r he
 simp[h11,Sem.run_pure,Result.andThen]
theorem ck_fields{P:Program}{w:World}{imm:Nat->Prop}{cs:List AV}{vs:List Value}(hv:RV0s imm w cs vs)(em:Bool)(n:Nat):∀(fl:List Field) (l:List (Nat × Nat × EqT)) (r:Bool),eqTreeL P (eqTree P 2) fl=some l->eqVs l cs cs=some r->fl.all (leafF P)=true ->
  (forIn (m:=Sem) fl PUnit.unit fun f _=>if f.name ≠ "_" then do
    let x <- part f.type vs.toArray f.offset
    Instr.checkKey em (n+1+1) f.type x
    pure (ForInStep.yield PUnit.unit)
   else pure (ForInStep.yield PUnit.unit)).run P w = .ok PUnit.unit w:=by
 intro fl
 induction fl with
 |nil=>intro l r _ _ _;simp[Sem.run_pure]
 |cons f fl ih=>
  intro l r hl he hf
  simp only[List.all_cons,Bool.and_eq_true]at hf
  simp only[eqTreeL]at hl
  split at hl
  ·cases hl
  ·rename_i hnm
   split at hl
   ·rename_i T m l' h1 h2 h3
    cases hl
    simp only[eqVs]at he
    split at he
    ·rename_i r1 r2 h4 h5
     have hnm':f.name ≠ "_" :=by simpa using hnm
     have h6:=ih l' r2 h3 h5 hf.2
     have h10:∃x,(part f.type vs.toArray f.offset).run P w = .ok x w/\(Instr.checkKey em (n+1+1) f.type x).run P w = .ok () w:=by
      by_cases hlf:leafT P f.type=true
      ·exact ck_leaf hv hlf h1 h2 h4 (n+1)
      ·obtain⟨mm,e,ht,hle⟩:∃mm e,P.underlying f.type=some (.array mm e)/\leafT P e=true:=by
        have:=hf.1
        unfold leafF at this
        unfold leafT at hlf
        split at this
        ·rename_i hd;rw[hd]at hlf;exact absurd rfl hlf
        ·rename_i hd;rw[hd]at hlf;exact absurd rfl hlf
        ·rename_i mm e hd;exact⟨mm,e,hd,this⟩
        ·cases this
       simp only[eqTree,ht]at h1
       split at h1
       ·rename_i T' c h7 h8
        cases h1
        simp only[eqV]at h4
        have hag:aggOf P f.type=some true:=by simp[aggOf,ht]
        obtain⟨x,h9,h11⟩:=part_val (off:=f.offset) (vs:=vs) hag h2 (fun e=>absurd e (by simp)) w
        simp only[isVal]at h11;subst h11
        exact⟨_,h9,ck_array (n:=0) ht ((hv.drop f.offset).take m) hle h7 h8 h4 n⟩
       ·cases h1
     obtain⟨x,h9,h10⟩:=h10
     rw[List.forIn_cons]
     simp only[hnm',ne_eq,not_false_eq_true,if_true,Sem.run_bind,h9,h10,Result.andThen_ok,Sem.run_pure]
     exact h6
    ·cases he
   ·cases hl
theorem ask_ok{P:Program}{w:World}{imm:Nat->Prop}{k:TypeId}{T:EqT}{fs:Array Field}(hd:P.underlying k=some (.struct fs))(hT:eqTree P 3 k=some T){x:AV}{vx:Value}(hx:RV0 imm w x vx):∀(ks:List AV) (es:List MapEntry) (i:Nat) (r:Option Nat),RV0s imm w ks (es.map (·.key))->findK (.st T) x ks i=some r ->
  (r=none/\(Instr.findAsking k vx es i).run P w = .ok none w)\/∃j e,r=some (i+j)/\es[j]?=some e/\(Instr.findAsking k vx es i).run P w = .ok (some (i+j,e.val)) w/\e.key=vx
 | [],es,i,r,hk,hf=>by
  cases es with
  |nil=>simp only[findK,Option.some.injEq]at hf;subst hf;exact .inl ⟨rfl,by simp[Instr.findAsking,Sem.run_pure]⟩
  |cons e es=>simp[RV0s]at hk
 |y::ks,es,i,r,hk,hf=>by
  cases es with
  |nil=>simp[RV0s]at hk
  |cons e es=>
   simp only[List.map_cons,RV0s]at hk
   obtain⟨v,vs,h1,h2,h3⟩:=hk
   cases h1
   have same:∀q,keq (.st T) x y=some q->(Op.equal k vx e.key).run P w = .ok q w/\(q=true->e.key=vx):=fun q hq=>by
    cases x<;>simp only[keq]at hq<;>try cases hq
    rename_i as
    cases y<;>simp only at hq<;>try cases hq
    rename_i bs
    split at hq
    ·rename_i r1 r2 e1 e2
     split at hq
     ·rename_i e3
      cases hq
      simp only[RV0]at hx h2
      obtain⟨va,rfl,ha⟩:=hx
      obtain⟨vb,hvb,hb⟩:=h2
      obtain⟨ag,h6,_,h8⟩:=eqT_ok (C:=⟨imm,fun _=>False,fun _=>none,w,ln0⟩) 3 k T hT Op.maxDepth (by decide) as bs va vb q (RV0s.rv as va ha) (RV0s.rv bs vb hb) e1
      have hag:aggOf P k=some true:=by simp[aggOf,hd]
      rw[hag]at h6;cases h6
      refine⟨?_,fun hqt=>?_⟩
      ·rw[hvb];exact h8 _ _ w rfl rfl
      ·subst hqt;subst e3
       rw[hvb,scEq_val e2 ha hb]
     ·cases hq
    ·cases hq
   simp only[findK]at hf
   split at hf
   ·rename_i hq
    cases hf
    obtain⟨q1,q2⟩:=same _ hq
    exact .inr ⟨0,e,by simp,rfl,by simp[Instr.findAsking,q1,Sem.run_pure,Result.andThen],q2 rfl⟩
   ·rename_i hq
    obtain⟨q1,_⟩:=same _ hq
    rcases ask_ok hd hT hx ks es (i+1) r h3 hf with⟨h4,h5⟩|⟨j,e',h4,h5,h6,h7⟩
    ·exact .inl ⟨h4,by simp[Instr.findAsking,q1,h5,Result.andThen]⟩
    ·exact .inr ⟨j+1,e',by rw[h4];congr 1;omega,by simpa using h5,by simp only[Instr.findAsking,Sem.run_bind,q1,Result.andThen_ok,Bool.false_eq_true,if_false,h6];congr 3;omega,h7⟩
   ·cases hf
theorem fk_ok{P:Program}{w:World}{imm:Nat->Prop}{k:TypeId}{kt:KTy}(hkt:ktOf P k=some kt){x:AV}{vx:Value}(hx:RV0 imm w x vx){ks:List AV}{es:List MapEntry}{r:Option Nat}(hks:RV0s imm w ks (es.map (·.key)))(hf:findK kt x ks 0=some r) :
  (r=none/\(Instr.findKey k vx es).run P w = .ok none w)\/∃j e,r=some j/\es[j]?=some e/\(Instr.findKey k vx es).run P w = .ok (some (j,e.val)) w/\e.key=vx:=by
 rcases ktOf_ok hkt with⟨d,hd1,hd2⟩|⟨fs,T,hd1,hT,_,rfl⟩
 ·have base:∀r,Instr.findNow d vx es 0=some r->(Instr.findKey k vx es).run P w = .ok r w:=fun r hr=>by
   simp[Instr.findKey,run_underlying hd1,hr,Sem.run_pure]
  rcases find_ok hd2 hx ks es 0 _ hks hf with⟨h1,h2⟩|⟨j,e,h1,h2,h3,h4⟩
  ·exact .inl ⟨h1,base _ h2⟩
  ·rw[Nat.zero_add]at h1 h3
   exact .inr ⟨j,e,h1,h2,base _ h3,h4⟩
 ·cases es with
  |nil=>
   cases ks with
   |nil=>simp only[findK,Option.some.injEq]at hf;subst hf;exact .inl ⟨rfl,by simp[Instr.findKey,Instr.findNow,run_underlying hd1,Sem.run_pure]⟩
   |cons y ks=>simp[RV0s]at hks
  |cons e es=>
   have base:(Instr.findKey k vx (e::es)).run P w=(Instr.findAsking k vx (e::es) 0).run P w:=by
    simp[Instr.findKey,run_underlying hd1,Instr.findNow,Instr.sameNow]
   rw[base]
   rcases ask_ok hd1 hT hx ks (e::es) 0 r hks hf with⟨h1,h2⟩|⟨j,e',h1,h2,h3,h4⟩
   ·exact .inl ⟨h1,h2⟩
   ·rw[Nat.zero_add]at h1 h3
    exact .inr ⟨j,e',h1,h2,h3,h4⟩
theorem ck_ok{P:Program}{w:World}{imm:Nat->Prop}{k:TypeId}{kt:KTy}(hkt:ktOf P k=some kt){x:AV}{vx:Value}(hx:RV0 imm w x vx)(hkv:keyV kt x=true)(em:Bool):(Instr.checkKey em 10000 k vx).run P w = .ok () w:=by
 rcases ktOf_ok hkt with⟨d,hd1,hd2⟩|⟨fs,T,hd1,hT,hfl,rfl⟩
 ·exact check_ok hd1 hd2 em vx
 ·cases x<;>simp only[keyV]at hkv<;>try cases hkv
  rename_i cs
  split at hkv
  ·rename_i r hr
   simp only[RV0]at hx
   obtain⟨vs,rfl,hv⟩:=hx
   simp only[eqTree,hd1]at hT
   split at hT
   ·cases hT
   ·split at hT
    ·rename_i l hl
     cases hT
     simp only[eqV]at hr
     rw[show(10000:Nat)=9999+1 from rfl,Instr.checkKey]
     have:=ck_fields hv em 9997 fs.toList l r hl hr hfl
     simp only[Sem.run_bind,run_underlying hd1,Result.andThen_ok]
     rw[<- Array.forIn_toList]
     rw[this]
     simp[Sem.run_pure,Result.andThen]
    ·cases hT
  ·cases hkv
theorem stays_ok{P:Program}{w:World}{kt:KTy}{imm:Nat->Prop}{x:AV}{v:Value}(hv:keyV kt x=true)(hx:RV0 imm w x v):(Instr.keyThatStays v v).run P w = .ok v w:=by
 cases kt<;>cases x<;>simp only[keyV]at hv<;>try cases hv
 all_goals first
  |(simp only[RV0]at hx;subst hx;simp[Instr.keyThatStays,Instr.sameBits,Sem.run_pure,ba_beq];done)
  |skip
 rename_i T cs
 split at hv
 ·simp only[RV0]at hx
  obtain⟨vs,rfl,h⟩:=hx
  have:=scV_bits hv h 9999
  have hb:Instr.sameBits 10000 (.agg vs.toArray) (.agg vs.toArray)=true:=by
   rw[show(10000:Nat)=9999+1 from rfl]
   simp only[Instr.sameBits,beq_self_eq_true,Bool.true_and]
   exact this
  simp[Instr.keyThatStays,hb,Sem.run_pure]
 ·cases hv
theorem RV0s.len{imm:Nat->Prop}{w:World}:∀ {as:List AV} {vs:List Value},RV0s imm w as vs->vs.length=as.length
 | [],vs,h=>by simp only[RV0s]at h;subst h;rfl
 |a::as,vs,h=>by simp only[RV0s]at h;obtain⟨v,vs',rfl,_,h⟩:=h;simp[RV0s.len h]
theorem RV0s.get{imm:Nat->Prop}{w:World}:∀ {as:List AV} {vs:List Value},RV0s imm w as vs->∀ {i:Nat} {a:AV} {v:Value},as[i]?=some a->vs[i]?=some v->RV0 imm w a v
 | [],vs,h,i,a,v,ha,hv=>by simp at ha
 |a::as,vs,h,i,a',v,ha,hv=>by
  simp only[RV0s]at h;obtain⟨x,vs',rfl,h1,h2⟩:=h
  cases i with
  |zero=>simp at ha hv;subst ha;subst hv;exact h1
  |succ i=>exact RV0s.get h2 (by simpa using ha) (by simpa using hv)
theorem RV0s.put{imm:Nat->Prop}{w:World}:∀ {as:List AV} {vs:List Value},RV0s imm w as vs->∀ {i:Nat} {a:AV} {v:Value},RV0 imm w a v->RV0s imm w (as.set i a) (vs.set i v)
 | [],vs,h,i,a,v,ha=>by simp only[RV0s]at h;subst h;simp[RV0s]
 |a::as,vs,h,i,a',v,ha=>by
  simp only[RV0s]at h;obtain⟨x,vs',rfl,h1,h2⟩:=h
  cases i with
  |zero=>simp only[List.set_cons_zero,RV0s];exact⟨v,vs',rfl,ha,h2⟩
  |succ i=>simp only[List.set_cons_succ,RV0s];exact⟨x,_,rfl,h1,RV0s.put h2 ha⟩
theorem RV0s.snoc{imm:Nat->Prop}{w:World}:∀ {as:List AV} {vs:List Value},RV0s imm w as vs->∀ {a:AV} {v:Value},RV0 imm w a v->RV0s imm w (as++[a]) (vs++[v])
 | [],vs,h,a,v,ha=>by simp only[RV0s]at h;subst h;simp[RV0s,ha]
 |a::as,vs,h,a',v,ha=>by
  simp only[RV0s]at h;obtain⟨x,vs',rfl,h1,h2⟩:=h
  simp only[List.cons_append,RV0s];exact⟨x,_,rfl,h1,RV0s.snoc h2 ha⟩
theorem run_mputG{P:Program}{w:World}{imm:Nat->Prop}{t k e:TypeId}{kt:KTy}{b:Nat}{es:Array MapEntry}{ks us ks' us':List AV}{x v':AV}{vx vv:Value}(ht:P.underlying t=some (.map k e))(hkt:ktOf P k=some kt)
  (hb:w.heap[b]?=some (.map es es.size)) (hB:Born es) (hks:RV0s imm w ks (es.toList.map (·.key))) {S:List AV->List Value->Prop} (hus:S us (es.toList.map (·.val))) (hx:RV0 imm w x vx) (hset:∀ {as:List AV} {vs:List Value} {i:Nat},S as vs->S (as.set i v') (vs.set i vv)) (hsn:∀ {as:List AV} {vs:List Value},S as vs->S (as++[v']) (vs++[vv])) (hm:mput kt ks us x v'=some (ks',us')) :
  ∃es',(Instr.mapUpdate t (.map (some b)) vx vv).run P w = .ok () (ChangeMaps.setBlock w b (.map es' es'.size))/\Born es'/\RV0s imm w ks' (es'.toList.map (·.key))/\S us' (es'.toList.map (·.val)):=by
 simp only[mput]at hm
 split at hm
 ·rename_i j hkv hf
  cases hm
  rcases fk_ok hkt hx hks hf with⟨h1,_⟩|⟨j',e',h1,h2,h3,h4⟩
  ·cases h1
  ·have hj:j=j':=by injection h1
   subst hj
   have hj':es[j]?=some e':=by simpa using h2
   have hjl:j<es.size:=(Array.getElem?_eq_some_iff.1 hj').1
   have hlist:(es.modify j fun e=>{ e with key:=vx,val:=vv }).toList=es.toList.set j { e' with key:=vx,val:=vv }:=by
    have he:es[j]=e':=(Array.getElem?_eq_some_iff.1 hj').2
    rw[Array.toList_modify]
    apply List.ext_getElem (by simp)
    intro n h5 h6
    rw[List.getElem_set,List.getElem_modify]
    split
    ·rename_i e;subst e;simp[he]
    ·rfl
   refine⟨es.modify j fun e=>{ e with key:=vx,val:=vv },?_,?_,?_,?_⟩
   ·simp[Instr.mapUpdate,run_underlying ht,MapKept.run_getObj_map hb,ck_ok hkt hx hkv,h3,Result.andThen,hj',h4,stays_ok hkv hx,MapKept.run_setObj_map _ hb,ChangeMaps.setBlock]
   ·unfold Born at hB⊢
    rw[hlist,List.map_set]
    simp only[Array.size_modify]
    rw[<- hB]
    apply List.ext_getElem (by simp)
    intro n h5 h6
    rw[List.getElem_set]
    split
    ·rename_i e;subst e
     have he:es[j]=e':=(Array.getElem?_eq_some_iff.1 hj').2
     simp[he]
    ·rfl
   ·rw[hlist,List.map_set]
    have:(es.toList.map (·.key)).set j vx=es.toList.map (·.key):=by
     apply List.ext_getElem (by simp)
     intro n h5 h6
     rw[List.getElem_set]
     split
     ·rename_i e;subst e
      have he:es[j]=e':=(Array.getElem?_eq_some_iff.1 hj').2
      simp[he,h4]
     ·rfl
    simp only[this];exact hks
   ·rw[hlist,List.map_set]
    exact hset hus
 ·rename_i hkv hf
  cases hm
  rcases fk_ok hkt hx hks hf with⟨_,h1⟩|⟨j',e',h1,_⟩
  ·refine⟨es.push { key:=vx,val:=vv,born:=es.size },?_,?_,?_,?_⟩
   ·simp[Instr.mapUpdate,run_underlying ht,MapKept.run_getObj_map hb,ck_ok hkt hx hkv,h1,Result.andThen,MapKept.run_setObj_map _ hb,ChangeMaps.setBlock]
   ·unfold Born at hB⊢
    simp only[Array.toList_push,List.map_append,hB,List.map_cons,List.map_nil,Array.size_push,List.range_succ]
   ·simp only[Array.toList_push,List.map_append,List.map_cons,List.map_nil];exact hks.snoc hx
   ·simp only[Array.toList_push,List.map_append,List.map_cons,List.map_nil];exact hsn hus
  ·cases h1
 ·cases hm
theorem run_mput{P:Program}{w:World}{imm:Nat->Prop}{t k e:TypeId}{kt:KTy}{b:Nat}{es:Array MapEntry}{ks us ks' us':List AV}{x v':AV}{vx vv:Value}(ht:P.underlying t=some (.map k e))(hkt:ktOf P k=some kt)
  (hb:w.heap[b]?=some (.map es es.size)) (hB:Born es) (hks:RV0s imm w ks (es.toList.map (·.key))) (hus:RV0s imm w us (es.toList.map (·.val))) (hx:RV0 imm w x vx) (hv:RV0 imm w v' vv) (hm:mput kt ks us x v'=some (ks',us')) :
  ∃es',(Instr.mapUpdate t (.map (some b)) vx vv).run P w = .ok () (ChangeMaps.setBlock w b (.map es' es'.size))/\Born es'/\RV0s imm w ks' (es'.toList.map (·.key))/\RV0s imm w us' (es'.toList.map (·.val)):=
 run_mputG (S:=RV0s imm w) ht hkt hb hB hks hus hx (fun h=>h.put hv) (fun h=>h.snoc hv) hm
theorem RVs.put{C:Ctx}:∀ {as:List AV} {vs:List Value},RVs C as vs->∀ {i:Nat} {a:AV} {v:Value},RV C a v->RVs C (as.set i a) (vs.set i v)
 | [],vs,h,i,a,v,_=>by simp only[RVs]at h;subst h;simp[RVs]
 |x::as,vs,h,i,a,v,ha=>by
  simp only[RVs]at h;obtain⟨y,ys,rfl,h1,h2⟩:=h
  cases i with
  |zero=>simp only[List.set_cons_zero,RVs];exact⟨_,_,rfl,ha,h2⟩
  |succ i=>simp only[List.set_cons_succ,RVs];exact⟨_,_,rfl,h1,RVs.put h2 ha⟩
theorem run_mputO{P:Program}{C:Ctx}{t k e:TypeId}{kt:KTy}{b:Nat}{es:Array MapEntry}{ks us ks' us':List AV}{x v':AV}{vx vv:Value}(ht:P.underlying t=some (.map k e))(hkt:ktOf P k=some kt)
  (hb:C.w.heap[b]?=some (.map es es.size)) (hB:Born es) (hks:RV0s C.imm C.w ks (es.toList.map (·.key))) (hus:RVs C us (es.toList.map (·.val))) (hx:RV0 C.imm C.w x vx) (hv:RV C v' vv) (hm:mput kt ks us x v'=some (ks',us')) :
  ∃es',(Instr.mapUpdate t (.map (some b)) vx vv).run P C.w = .ok () (ChangeMaps.setBlock C.w b (.map es' es'.size))/\Born es'/\RV0s C.imm C.w ks' (es'.toList.map (·.key))/\RVs C us' (es'.toList.map (·.val)):=
 run_mputG (S:=RVs C) ht hkt hb hB hks hus hx (fun h=>h.put hv) (fun h=>h.append (by simp only[RVs];exact⟨_,_,rfl,hv,rfl⟩)) hm
theorem cv1_rv0{imm:Nat->Prop}{w:World}(v:Value):RV0 imm w (cv1 v) v:=by
 unfold cv1
 split<;>simp[RV0]
theorem cv1_rv0s{imm:Nat->Prop}{w:World}:∀(cs:List Value),RV0s imm w (cs.map cv1) cs
 | []=>by simp[RV0s]
 |c::cs=>by simp only[List.map_cons,RV0s];exact⟨c,cs,rfl,cv1_rv0 c,cv1_rv0s cs⟩
theorem cv_rv0{imm:Nat->Prop}{w:World}(v:Value):RV0 imm w (cv v) v:=by
 unfold cv
 split
 ·split
  ·simp only[RV0];exact⟨_,by simp,cv1_rv0s _⟩
  ·simp[RV0]
 ·split
  ·rename_i vs h
   simp only[RV0]
   have:vs = #[]:=Array.eq_empty_of_size_eq_zero h
   exact⟨[],by rw[this],by simp[RV0s]⟩
  ·simp[RV0]
 ·exact cv1_rv0 v
theorem zv_ok{P:Program}{imm:Nat->Prop}{w:World}{e:TypeId}{z:AV}(hz:zvOf P e=some z):∃zv,(zeroValue e).run P w = .ok zv w/\RV0 imm w z zv:=by
 simp only[zvOf]at hz
 split at hz
 ·rename_i i h1
  split at hz
  ·rename_i v h2
   cases hz
   exact⟨v,by simp[zeroValue,typeInfo,h1,h2],cv_rv0 v⟩
  ·cases hz
 ·cases hz
theorem run_mlook{P:Program}{w:World}{imm:Nat->Prop}{t k e:TypeId}{kt:KTy}{b:Nat}{es:Array MapEntry}{ks us:List AV}{x:AV}{r:Option AV}{vx:Value}{ok:Bool}{z:AV}(ht:P.underlying t=some (.map k e))(hkt:ktOf P k=some kt)
  (hz:zvOf P e=some z) (hb:w.heap[b]?=some (.map es es.size)) (hks:RV0s imm w ks (es.toList.map (·.key))) (hus:RV0s imm w us (es.toList.map (·.val))) (hx:RV0 imm w x vx) (hm:mlook kt ks us x=some r) :
  ∃rv,(Instr.lookup t (.map (some b)) vx ok).run P w = .ok rv w/\RV0 imm w (lkR ok z r) rv:=by
 obtain⟨zv,hz1,hz2⟩:=zv_ok (imm:=imm) (w:=w) hz
 simp only[mlook]at hm
 split at hm
 ·rename_i j hkv hf
  split at hm<;>cases hm
  rename_i v hv
  rcases fk_ok hkt hx hks hf with⟨h1,_⟩|⟨j',e',h1,h2,h3,h4⟩
  ·cases h1
  ·have hj:j=j':=by injection h1
   subst hj
   have hr:RV0 imm w v e'.val:=hus.get hv (by simp[List.getElem?_map,h2])
   cases ok with
   |true=>exact⟨.tuple #[e'.val, .bool true],by simp[Instr.lookup,run_underlying ht,MapKept.run_getObj_map hb,ck_ok hkt hx hkv,h3,Result.andThen,Sem.run_pure],by simp only[lkR,RV0];exact⟨[e'.val, .bool true],rfl,by simp[RV0s,RV0,hr]⟩⟩
   |false=>exact⟨e'.val,by simp[Instr.lookup,run_underlying ht,MapKept.run_getObj_map hb,ck_ok hkt hx hkv,h3,Result.andThen,Sem.run_pure],by simpa only[lkR]using hr⟩
 ·rename_i hkv hf
  cases hm
  rcases fk_ok hkt hx hks hf with⟨_,h1⟩|⟨j',e',h1,_⟩
  ·cases ok with
   |true=>exact⟨.tuple #[zv, .bool false],by simp[Instr.lookup,run_underlying ht,MapKept.run_getObj_map hb,ck_ok hkt hx hkv,h1,Result.andThen,Sem.run_pure,hz1],by simp only[lkR,RV0];exact⟨[zv, .bool false],rfl,by simp[RV0s,RV0,hz2]⟩⟩
   |false=>exact⟨zv,by simp[Instr.lookup,run_underlying ht,MapKept.run_getObj_map hb,ck_ok hkt hx hkv,h1,Result.andThen,Sem.run_pure,hz1],by simpa only[lkR]using hz2⟩
  ·cases h1
 ·cases hm
theorem run_mlookO{P:Program}{C:Ctx}{t k e:TypeId}{kt:KTy}{b:Nat}{es:Array MapEntry}{ks us:List AV}{x:AV}{r:Option AV}{vx:Value}{ok:Bool}{z:AV}(ht:P.underlying t=some (.map k e))(hkt:ktOf P k=some kt)
  (hz:zvOf P e=some z) (hb:C.w.heap[b]?=some (.map es es.size)) (hks:RV0s C.imm C.w ks (es.toList.map (·.key))) (hus:RVs C us (es.toList.map (·.val))) (hx:RV0 C.imm C.w x vx) (hm:mlook kt ks us x=some r) :
  ∃rv,(Instr.lookup t (.map (some b)) vx ok).run P C.w = .ok rv C.w/\RV C (lkR ok z r) rv:=by
 obtain⟨zv,hz1,hz2⟩:=zv_ok (imm:=C.imm) (w:=C.w) hz
 have hz2:=hz2.rv
 simp only[mlook]at hm
 split at hm
 ·rename_i j hkv hf
  split at hm<;>cases hm
  rename_i v hv
  rcases fk_ok hkt hx hks hf with⟨h1,_⟩|⟨j',e',h1,h2,h3,h4⟩
  ·cases h1
  ·have hj:j=j':=by injection h1
   subst hj
   obtain⟨y,hy,hr⟩:=hus.get hv
   have hy':y=e'.val:=by rw[List.getElem?_map,h2]at hy;exact(Option.some.inj hy).symm
   subst hy'
   cases ok with
   |true=>exact⟨.tuple #[e'.val, .bool true],by simp[Instr.lookup,run_underlying ht,MapKept.run_getObj_map hb,ck_ok hkt hx hkv,h3,Result.andThen,Sem.run_pure],by simp only[lkR,RV];exact⟨[e'.val, .bool true],rfl,by simp[RVs,RV,hr]⟩⟩
   |false=>exact⟨e'.val,by simp[Instr.lookup,run_underlying ht,MapKept.run_getObj_map hb,ck_ok hkt hx hkv,h3,Result.andThen,Sem.run_pure],by simpa only[lkR]using hr⟩
 ·rename_i hkv hf
  cases hm
  rcases fk_ok hkt hx hks hf with⟨_,h1⟩|⟨j',e',h1,_⟩
  ·cases ok with
   |true=>exact⟨.tuple #[zv, .bool false],by simp[Instr.lookup,run_underlying ht,MapKept.run_getObj_map hb,ck_ok hkt hx hkv,h1,Result.andThen,Sem.run_pure,hz1],by simp only[lkR,RV];exact⟨[zv, .bool false],rfl,by simp[RVs,RV,hz2]⟩⟩
   |false=>exact⟨zv,by simp[Instr.lookup,run_underlying ht,MapKept.run_getObj_map hb,ck_ok hkt hx hkv,h1,Result.andThen,Sem.run_pure,hz1],by simpa only[lkR]using hz2⟩
  ·cases h1
 ·cases hm
section
variable {X:Sess} {E:Env} {o:Oper} {C:Ctx} {s:St} {a:Act} {next:Act->World->Prop} {Q:Exit->Act->World->Prop} {k:St->Prop}
theorem new_obj(hX:SessOk X E)(h:Rel X C s a){nm:Nat}(hf:s.sg.getD nm .dead = .fresh)(ob:Obj)(v:Value)(r:Res)
  (hok:∀T rho w',(∀b,Mem C.w b->w'.heap[b]?=C.w.heap[b]?)->w'.heap[C.w.heap.size]?=some ob->T C.w.heap.size->ResOk ⟨C.imm,T,rho,w',C.l⟩ r (some ⟨C.w.heap.size,v⟩))
  (hbl:∀k,r.blk (some ⟨C.w.heap.size,v⟩)=some k->k=C.w.heap.size) :
  Rel X ⟨C.imm,newB C.w (C.w.alloc ob) C.T,upd C.rho nm (some ⟨C.w.heap.size,v⟩),C.w.alloc ob,C.l⟩ { s with tm:=s.tm,sg:=s.sg.set nm r } a:=by
 obtain⟨hf',hi⟩:=getD_dead hf (by simp)
 have hun:=h.unbound hf'
 have hb:Below C.w.heap.size C.w (C.w.alloc ob):=(Below.refl _ _).alloc (Nat.le_refl _) _
 refine h.update nm hi _ _ _ _ s.tm (fun j=>j != nm) (fun b hb'=>.inl hb') (fun b hb'=>by
   rcases hb' with hb'|hb'
   ·exact Nat.lt_of_lt_of_le (h.T b hb') hb.size
   ·exact hb'.2) (hX.kgrow _ _ _ _ _ _ h.keep hb) (fun o ho=>by rw[hun]at ho;cases ho) (fun k o hk' _=>below_book hb k o hk') (fun j hj e=>by simp[e]at hj) (fun k hk' _=>hb.block k hk') ?_ ?_ (fun d v hdv=>⟨hdv,RV.unbound hun v _ (h.tm d v hdv)⟩) (fun j _=>cells_unbound h hun j)
 ·exact hok _ _ _ (fun b hb'=>hb.block b hb'.lt) (World.alloc_heap_new C.w _) (.inr ⟨Nat.le_refl _,by simp⟩)
 ·intro b hb' j hj hb2
  have e:=hbl b hb'
  have:=(Res.blk_lt (h.sg j) hb2).2.1
  omega
theorem set_obj(hX:SessOk X E)(h:Rel X C s a){i b:Nat}{v:Value}{r':Res}{w':World}(ho:C.rho i=some ⟨b,v⟩)(hi:i<s.sg.length)(hblk:(s.sg.getD i .fresh).blk (C.rho i)=some b)(hni:¬C.imm b)
  (hg:OneB b C.w w') (hok:ResOk ⟨C.imm,C.T,upd C.rho i (C.rho i),w',C.l⟩ r' (some ⟨b,v⟩)) (hb':∀k,r'.blk (some ⟨b,v⟩)=some k->k=b) :
  Rel X ⟨C.imm,C.T,upd C.rho i (C.rho i),w',C.l⟩ { s with tm:=s.tm,sg:=s.sg.set i r' } a:=by
 obtain⟨hT,hlt,hm⟩:=Res.blk_lt (h.sg i) hblk
 have hoth:=hg.other
 refine h.update i hi _ _ _ _ s.tm (fun _=>true) (fun b hb'=>hb') (fun b' hb'=>by rw[hg.size];exact h.T b' hb') (hX.kset _ _ _ _ _ _ b h.keep hT (fun hq=>hni (h.imm0 _ hq)) (fun hq=>hni (h.pin.2.2 _ hq)) hg) (fun o ho=>ho) (fun k o hk' ho'=>by
   by_cases e:k=b
   ·subst e;obtain⟨o2,h1,h2⟩:=hm;rw[hk']at h1;cases h1;cases o<;>simp[isMem,isBook]at h2 ho'
   ·exact(hoth k e).trans hk') (fun j _ _=>rfl) (fun k hk' hne=>hoth k ?_) ?_ ?_ (fun d v hdv=>⟨hdv,AV.refsIn_all (fun _=>rfl) v⟩) (fun j _=>AV.refsInL_all (fun _=>rfl) _)
 ·rintro rfl
  rcases hne with hne|⟨j,hj,hne⟩
  ·exact hni hne
  ·exact hj (h.dis j i k hne hblk)
 ·rw[ho]at hok⊢;exact hok
 ·intro k hk j hj hb2
  rw[ho]at hk
  have e:=hb' k hk
  subst e
  exact hj (h.dis j i k hb2 hblk)
theorem mkm_ok(hX:SessOk X E)(hk:Nx X k next)(h:Rel X C s a)(hd:∀i,o.dst=some i->i<X.N){t:TypeId}{nm:Nat}(hop:o.op = .makeMap t none)(hE:evO E o.dst (.mkm nm) s k):o.wpIn X.F X.n X.P a C.w next Q:=by
 simp only[evO,evX,app]at hE
 split at hE
 ·rename_i hf
  have hN:=new_obj hX h hf (.map #[] 0) (.map (some C.w.heap.size)) (.mp false [] []) (fun T rho w' hs hn hT=>⟨C.w.heap.size,#[],rfl,hT,hn,rfl,by simp[RV0s],by simp[RV0s],fun e=>absurd e (by simp),fun _ hi=>by have:=(h.imm _ hi).2.lt;omega⟩)
   (fun k hk=>by simpa[Res.blk]using hk.symm)
  refine up_value hX (v:=.map (some C.w.heap.size)) (w':=C.w.alloc (.map #[] 0)) (fun c=>by simp[hop]) ?_ ?_
  ·simp[execOp,hop,Instr.makeMap,newObj,Sem.run]
  ·have:=hN.put (v:=.row nm) (x:=.map (some C.w.heap.size)) (by simp[RV,upd]) o.dst hd
   exact hk _ _ _ this hE
 ·exact hE.elim
theorem mko_ok(hX:SessOk X E)(hk:Nx X k next)(h:Rel X C s a)(hd:∀i,o.dst=some i->i<X.N){t:TypeId}{nm:Nat}(hop:o.op = .makeMap t none)(hE:evO E o.dst (.mko nm) s k):o.wpIn X.F X.n X.P a C.w next Q:=by
 simp only[evO,evX,app]at hE
 split at hE
 ·rename_i hf
  have hN:=new_obj hX h hf (.map #[] 0) (.map (some C.w.heap.size)) (.mpo [] []) (fun T rho w' hs hn hT=>⟨C.w.heap.size,#[],rfl,hT,hn,rfl,by simp[RV0s],by simp[RVs],fun hi=>by have:=(h.imm _ hi).2.lt;omega⟩)
   (fun k hk=>by simpa[Res.blk]using hk.symm)
  refine up_value hX (v:=.map (some C.w.heap.size)) (w':=C.w.alloc (.map #[] 0)) (fun c=>by simp[hop]) ?_ ?_
  ·simp[execOp,hop,Instr.makeMap,newObj,Sem.run]
  ·have:=hN.put (v:=.row nm) (x:=.map (some C.w.heap.size)) (by simp[RV,upd]) o.dst hd
   exact hk _ _ _ this hE
 ·exact hE.elim
theorem scV_to0{imm:Nat->Prop}{w:World}:∀ {as:List AV} {vs:List Value},scV as=true->RVs C as vs->RV0s imm w as vs
 | [],vs,_,ha=>by simpa only[RVs,RV0s]using ha
 |.int k a::as,vs,h,ha=>by
  simp only[scV]at h
  simp only[RVs,RV]at ha
  obtain⟨_,vs',rfl,rfl,ha⟩:=ha
  simp only[RV0s,RV0]
  exact⟨_,vs',rfl,rfl,scV_to0 h ha⟩
 |.bool a::as,vs,h,ha=>by
  simp only[scV]at h
  simp only[RVs,RV]at ha
  obtain⟨_,vs',rfl,rfl,ha⟩:=ha
  simp only[RV0s,RV0]
  exact⟨_,vs',rfl,rfl,scV_to0 h ha⟩
theorem keyV_to0{kt:KTy}{x:AV}{v:Value}(hv:keyV kt x=true)(hx:RV C x v){imm:Nat->Prop}{w:World}:RV0 imm w x v:=by
 cases kt<;>cases x<;>simp only[keyV]at hv<;>try cases hv
 all_goals first
  |(simpa only[RV,RV0]using hx;done)
  |skip
 split at hv
 ·simp only[RV,RV0]at hx⊢
  obtain⟨vs,h1,h2⟩:=hx
  exact⟨vs,h1,scV_to0 hv h2⟩
 ·cases hv
theorem mput_key{kt:KTy}{ks us ks' us':List AV}{x v:AV}(h:mput kt ks us x v=some (ks',us')):keyV kt x=true:=by
 simp only[mput]at h
 split at h<;>first|assumption|cases h
theorem mlook_key{kt:KTy}{ks us:List AV}{x:AV}{r:Option AV}(h:mlook kt ks us x=some r):keyV kt x=true:=by
 simp only[mlook]at h
 split at h<;>first|assumption|cases h
theorem set_dead{sg:List Res}{i:Nat}{z:List (Nat × Res)}(hz:∀p∈z,Iced sg p)(hn:i∉z.map (·.1)):(setL sg z).getD i .fresh=sg.getD i .fresh:=by
 rw[setL_get z sg hz,if_neg hn]
theorem fstN_map:∀z:List (Nat × Res),fstN z=z.map (·.1)
 | []=>rfl
 |(i,_)::z=>by simp[fstN,fstN_map z]
theorem mpu_ok(hX:SessOk X E)(hk:Nx X k next)(h:Rel X C s a)(hd:o.dst=none){t kk e:TypeId}{kt:KTy}{m x v:Operand}{p q r:Opd}{ne:List Opd}(hop:o.op = .mapUpdate t m x v\/o.op = .insert t m x v)(ht:X.P.underlying t=some (.map kk e))(hkt:ktOf X.P kk=some kt)
  (hp:opd m=some p) (hq:opd x=some q) (hr:opd v=some r) (hE:evO E o.dst (.mpu kt p q r ne) s k):o.wpIn X.F X.n X.P a C.w next Q:=by
 simp only[evO,evX,app]at hE
 split at hE
 ·rename_i i kv vv hm hx hv
  split at hE
  ·rename_i ks us z v' hr1 hz hfz
   split at hE
   ·rename_i hc
    obtain⟨hc,_⟩:=hc
    obtain⟨ks',us',hput,hE⟩:=hE.out
    have e1:=ev_ok h hp hm
    have e2:=ev_ok h hq hx
    have e3:=ev_ok h hr hv
    obtain⟨hf',hi⟩:=getD_dead hr1 (by simp)
    have hni:i∉z.map (·.1):=fun hm=>by
     have:=memN_iff.2 (by rw[fstN_map];exact hm:i∈fstN z)
     rw[this]at hc;cases hc
    have hI:=h.ice (reach_iced vv z hz)
    have hv0:=frz_z h 8 vv _ _ z hfz hz e3
    simp only[RV]at e1
    obtain⟨ow,ho,e1⟩:=e1
    have hs:=hI.sg i
    have hg:(setL s.sg z).getD i .fresh = .mp false ks us:=by rw[set_dead (reach_iced vv z hz) hni,hf']
    simp only at hs
    rw[hg,ho]at hs
    obtain⟨b,es,h1,h2,h3,h4,h5,h6,_,h8⟩:=hs
    cases h1
    have hni':=h8 rfl
    obtain⟨es',hrun,hB',hks',hus'⟩:=run_mput (P:=X.P) (w:=C.w) (imm:=immZ C s z) ht hkt h3 h4 h5 h6 (keyV_to0 (mput_key hput) e2) hv0 hput
    have hlt:b<C.w.heap.size:=(Array.getElem?_eq_some_iff.1 h3).1
    have hone:OneB b C.w (ChangeMaps.setBlock C.w b (.map es' es'.size)):=⟨rfl,rfl,rfl,by simp[ChangeMaps.setBlock],fun k e=>sb_other e _,⟨_,h3,rfl⟩,⟨_,sb_same (Array.getElem?_eq_some_iff.1 h3).1 _,rfl⟩⟩
    have hpers:Pers (immZ C s z) (immZ C s z) C.w (ChangeMaps.setBlock C.w b (.map es' es'.size)):=fun b' hb'=>⟨hb',sb_other (fun(e:b'=b)=>hni' (by subst e;exact hb')) _⟩
    have hR:=set_obj (C:=⟨immZ C s z,C.T,C.rho,C.w,C.l⟩) (r':=.mp false ks' us') hX hI (i:=i) ho (by rw[setL_length];exact hi) (by show((setL s.sg z).getD i .fresh).blk (C.rho i)=_;rw[hg,ho];rfl) hni' hone
     ⟨b,es',rfl,h2,sb_same hlt _,hB',RV0s.mono hpers _ _ hks',RV0s.mono hpers _ _ hus',fun e=>absurd e (by simp),fun _=>hni'⟩ (fun k hk=>by simpa[Res.blk]using hk.symm)
    refine up_skip hX (w':=ChangeMaps.setBlock C.w b (.map es' es'.size)) (fun c=>by rcases hop with e|e<;>simp[e]) ?_ ?_
    ·rcases hop with e|e<;>simp[execOp,e,e1,hrun,Sem.run_pure,Sem.run_map]
    ·rw[hd]at hE⊢
     refine hk _ _ _ hR ?_
     rw[setL_append]at hE
     exact hE
   ·exact hE.elim
  ·rename_i ks us hr1
   split at hE
   ·rename_i hc
    obtain⟨ks',us',hput,hE⟩:=hE.out
    have e1:=ev_ok h hp hm
    have e2:=ev_ok h hq hx
    have e3:=ev_ok h hr hv
    obtain⟨hf',hi⟩:=getD_dead hr1 (by simp)
    simp only[RV]at e1
    obtain⟨ow,ho,e1⟩:=e1
    have hs:=h.sg i
    rw[hf',ho]at hs
    obtain⟨b,es,h1,h2,h3,h4,h5,h6,hni'⟩:=hs
    cases h1
    obtain⟨es',hrun,hB',hks',hus'⟩:=run_mputO (P:=X.P) (C:=C) ht hkt h3 h4 h5 h6 (keyV_to0 (mput_key hput) e2) e3 hput
    have hlt:b<C.w.heap.size:=(Array.getElem?_eq_some_iff.1 h3).1
    have hone:OneB b C.w (ChangeMaps.setBlock C.w b (.map es' es'.size)):=⟨rfl,rfl,rfl,by simp[ChangeMaps.setBlock],fun k e=>sb_other e _,⟨_,h3,rfl⟩,⟨_,sb_same (Array.getElem?_eq_some_iff.1 h3).1 _,rfl⟩⟩
    have hpers:Pers C.imm C.imm C.w (ChangeMaps.setBlock C.w b (.map es' es'.size)):=fun b' hb'=>⟨hb',sb_other (fun(e:b'=b)=>hni' (by subst e;exact hb')) _⟩
    have hlat:Later (fun _=>true) C ⟨C.imm,C.T,upd C.rho i (C.rho i),ChangeMaps.setBlock C.w b (.map es' es'.size),C.l⟩:=⟨hpers,fun j _=>by simp only[upd];split<;>simp_all,rfl⟩
    have hR:=set_obj (C:=C) (r':=.mpo ks' us') hX h (i:=i) ho hi (by rw[hf',ho];rfl) hni' hone
     ⟨b,es',rfl,h2,sb_same hlt _,hB',RV0s.mono hpers _ _ hks',RVs.later hlat _ _ (AV.refsInL_all (fun _=>rfl) _) hus',hni'⟩ (fun k hk=>by simpa[Res.blk]using hk.symm)
    refine up_skip hX (w':=ChangeMaps.setBlock C.w b (.map es' es'.size)) (fun c=>by rcases hop with e|e<;>simp[e]) ?_ ?_
    ·rcases hop with e|e<;>simp[execOp,e,e1,hrun,Sem.run_pure,Sem.run_map]
    ·rw[hd]at hE⊢
     exact hk _ _ _ hR hE
   ·exact hE.elim
  ·exact hE.elim
 ·exact hE.elim
theorem mrg_ok(hX:SessOk X E)(hk:Nx X k next)(h:Rel X C s a)(hd:∀i,o.dst=some i->i<X.N){t kk e:TypeId}{m:Operand}{p:Opd}{nm:Nat}{ne:List Opd}(hop:o.op = .range t m)(ht:X.P.underlying t=some (.map kk e))
  (hp:opd m=some p) (hE:evO E o.dst (.mrg nm p ne) s k):o.wpIn X.F X.n X.P a C.w next Q:=by
 simp only[evO,evX,app]at hE
 split at hE
 ·rename_i v hf hm
  split at hE
  ·rename_i z ks us hz hfz
   split at hE
   ·have e1:=ev_ok h hp hm
    have hI:=h.ice (reach_iced v z hz)
    have hv0:=frz_z h 8 v _ _ z hfz hz e1
    have hv0':=hv0
    simp only[RV0]at hv0
    obtain⟨b,es,h1,h2,h3,h4,h5,h6⟩:=hv0
    rw[h1]at hv0'
    obtain⟨hf1,hf2⟩:=getD_dead hf (by simp)
    have hfr:(setL s.sg z).getD nm .dead = .fresh:=by
     have hg:=setL_get z s.sg (reach_iced v z hz) nm
     have:(setL s.sg z).getD nm .fresh = .fresh:=by
      rw[hg];split
      ·rw[hf1];rfl
      ·exact hf1
     have hlt:nm<(setL s.sg z).length:=by rw[setL_length];exact hf2
     simpa[List.getD_eq_getElem?_getD,hlt]using this
    have hlen:ks.length=es.size:=by have:=h5.len;simp at this;omega
    have hN:=new_obj hX hI hfr (.mapIter (some b) es.size #[] es.size) (.pointer (some ⟨C.w.heap.size,0,none⟩)) (.itr ks us [] []) (fun T rho w' hs hn hT=>
      ⟨C.w.heap.size,b,rfl,hT,fun hi=>by have:=(hI.imm _ hi).2.lt;simp only at this;omega,by rw[hlen];exact hn,RV0.mono (fun b' hb'=>⟨hb',hs b' (hI.imm b' hb').2⟩) _ _ hv0',fun kv uv e=>by cases e⟩)
     (fun k hk=>by simpa[Res.blk]using hk.symm)
    refine up_value hX (v:=.pointer (some ⟨C.w.heap.size,0,none⟩)) (w':=C.w.alloc (.mapIter (some b) es.size #[] es.size)) (fun c=>by simp[hop]) ?_ ?_
    ·simp[execOp,hop,h1,run_range_map _ _ _ _ _ _ _ ht h3,Sem.run_pure,Sem.run_map]
    ·have:=hN.put (v:=.row nm) (x:=.pointer (some ⟨C.w.heap.size,0,none⟩)) (by simp[RV,upd]) o.dst hd
     rw[setL_append]at hE
     exact hk _ _ _ this hE
   ·exact hE.elim
  ·exact hE.elim
 ·exact hE.elim
theorem mnx_ok(hX:SessOk X E)(hk:Nx X k next)(h:Rel X C s a)(hd:∀i,o.dst=some i->i<X.N){x:Operand}{p:Opd}(hop:o.op = .next x false)(hp:opd x=some p)(hE:evO E o.dst (.mnx p) s k):o.wpIn X.F X.n X.P a C.w next Q:=by
 simp only[evO,evX,app]at hE
 split at hE
 ·rename_i i hv
  split at hE
  ·rename_i ks us seen last hr
   obtain⟨hf',hi⟩:=getD_dead hr (by simp)
   have e1:=ev_ok h hp hv
   simp only[RV]at e1
   obtain⟨ow,ho,e1⟩:=e1
   have hs:=h.sg i
   rw[hf',ho]at hs
   obtain⟨b,m,h1,h2,h3,h4,h5,h6⟩:=hs
   cases h1
   have h5':=h5
   simp only[RV0]at h5
   obtain⟨m',es,e,k1,k2,k3,k4,k5⟩:=h5
   cases e
   have hl1:ks.length=es.size:=by have:=k4.len;simp at this;omega
   have hl2:us.length=es.size:=by have:=k5.len;simp at this;omega
   have hborn:∀(j:Nat) (h:j<es.size),es[j].born=j:=fun j hj=>by
    have:(es.toList.map (·.born))[j]?=(List.range es.size)[j]?:=by rw[k3]
    simpa[hj]using this
   rcases run_next_at (P:=X.P) C.w o.type b m ks.length ks.length seen.toArray es es.size h4 k2 (fun x hx=>by
     obtain⟨j,hj,rfl⟩:=List.getElem_of_mem hx
     have:=hborn j (by simpa using hj)
     simp only[Array.getElem_toList,this];rw[hl1];simpa using hj) (Nat.le_refl _)with⟨h0,hrun⟩|⟨e,he,w1,hw1,hrun⟩
   ·have hall:∀j,j<ks.length->j∈seen:=fun j hj=>by
     have:=all_seen es seen.toArray h0 es[j] (by simp)
     rw[hborn j (by omega)]at this
     simpa using this
    refine up_value hX (v:=.tuple #[.bool false]) (w':=C.w) (fun c=>by simp[hop]) (by simp[execOp,hop,e1,hrun,Sem.run_pure,Sem.run_map]) ?_
    exact hk _ _ _ (h.put (v:=.tup [.bool false]) (x:=.tuple #[.bool false]) (by simp[RV,RVs]) o.dst hd) (hE.none hall)
   ·obtain⟨q1,q2⟩:=mem_left he
    obtain⟨j,hj,hje⟩:=List.getElem_of_mem q1
    have hj':j<es.size:=by simpa using hj
    have hb1:e.born=j:=by rw[<- hje];simpa using hborn j hj'
    have hkv:ks[j]?=some ks[j]:=by simp[show j<ks.length from by omega]
    have huv:us[j]?=some us[j]:=by simp[show j<us.length from by omega]
    have hrk:RV0 C.imm C.w ks[j] e.key:=k4.get hkv (by rw[List.getElem?_map,List.getElem?_eq_getElem hj,hje];rfl)
    have hru:RV0 C.imm C.w us[j] e.val:=k5.get huv (by rw[List.getElem?_map,List.getElem?_eq_getElem hj,hje];rfl)
    have hns:j∉seen:=fun hm=>by rw[hb1]at q2;simp[hm]at q2
    have hE2:=hE.some j _ _ hkv huv hns
    have hheap:w1.heap=C.w.heap:=by rcases hw1 with rfl|rfl<;>rfl
    have hlt:b<C.w.heap.size:=(Array.getElem?_eq_some_iff.1 h4).1
    have hsame:∀k,k≠b->(ChangeMaps.setBlock w1 b (.mapIter (some m) ks.length (seen.toArray.push e.born) es.size)).heap[k]?=C.w.heap[k]?:=fun k hk=>by rw[sb_other hk,hheap]
    have hone:OneB b C.w (ChangeMaps.setBlock w1 b (.mapIter (some m) ks.length (seen.toArray.push e.born) es.size)):=by
     refine⟨?_,?_,?_,by simp[ChangeMaps.setBlock,hheap],hsame,⟨_,h4,rfl⟩,⟨_,sb_same (by rw[hheap];exact hlt) _,rfl⟩⟩<;>rcases hw1 with rfl|rfl<;>rfl
    have hpers:Pers C.imm C.imm C.w (ChangeMaps.setBlock w1 b (.mapIter (some m) ks.length (seen.toArray.push e.born) es.size)):=fun b' hb'=>⟨hb',hsame b' (fun e=>h3 (e ▸ hb'))⟩
    have hR:=set_obj (r':=.itr ks us (seen++[j]) [ks[j],us[j]]) hX h (i:=i) ho hi (by rw[hf',ho];rfl) h3 hone
     ⟨b,m,rfl,h2,h3,by
      have:(ChangeMaps.setBlock w1 b (.mapIter (some m) ks.length (seen.toArray.push e.born) es.size)).heap[b]?=_:=sb_same (by rw[hheap];exact hlt) _
      rw[this,hb1,hl1];simp,RV0.mono hpers _ _ h5',fun kv uv e=>by
      simp only[List.cons.injEq,and_true]at e
      exact⟨j,by simp,by rw[<- e.1];exact hkv,by rw[<- e.2];exact huv⟩⟩ (fun k hk=>by simpa[Res.blk]using hk.symm)
    refine up_value hX (v:=.tuple #[.bool true,e.key,e.val]) (w':=ChangeMaps.setBlock w1 b (.mapIter (some m) ks.length (seen.toArray.push e.born) es.size)) (fun c=>by simp[hop]) (by simp[execOp,hop,e1,hrun,Sem.run_pure,Sem.run_map]) ?_
    refine hk _ _ _ (hR.put (v:=.tup [.bool true,ks[j],us[j]]) (x:=.tuple #[.bool true,e.key,e.val]) ?_ o.dst hd) hE2
    simp only[RV]
    refine⟨[.bool true,e.key,e.val],rfl,?_⟩
    simp only[RVs]
    exact⟨_,_,rfl,by simp[RV],_,_,rfl,RV0.rv (C:=⟨C.imm,C.T,upd C.rho i (C.rho i),_,C.l⟩) _ _ (RV0.mono hpers _ _ hrk),_,_,rfl,RV0.rv (C:=⟨C.imm,C.T,upd C.rho i (C.rho i),_,C.l⟩) _ _ (RV0.mono hpers _ _ hru),rfl⟩
  ·exact hE.elim
 ·exact hE.elim
theorem men_ok(hX:SessOk X E)(hk:Nx X k next)(h:Rel X C s a)(hd:∀i,o.dst=some i->i<X.N){x:Operand}{p:Opd}(hop:o.op = .entry x)(hp:opd x=some p)(hE:evO E o.dst (.men p) s k):o.wpIn X.F X.n X.P a C.w next Q:=by
 simp only[evO,evX,app]at hE
 split at hE
 ·rename_i i hv
  split at hE
  ·rename_i ks us seen kv uv hr
   obtain⟨hf',hi⟩:=getD_dead hr (by simp)
   have e1:=ev_ok h hp hv
   simp only[RV]at e1
   obtain⟨ow,ho,e1⟩:=e1
   have hs:=h.sg i
   rw[hf',ho]at hs
   obtain⟨b,m,h1,h2,h3,h4,h5,h6⟩:=hs
   cases h1
   simp only[RV0]at h5
   obtain⟨m',es,e,k1,k2,k3,k4,k5⟩:=h5
   cases e
   obtain⟨j,j1,j2,j3⟩:=h6 kv uv rfl
   have hl1:ks.length=es.size:=by have:=k4.len;simp at this;omega
   have hjl:j<es.size:=by have:=(List.getElem?_eq_some_iff.1 j2).1;omega
   have hborn:(es[j]).born=j:=by
    have:(es.toList.map (·.born))[j]?=(List.range es.size)[j]?:=by rw[k3]
    simpa[hjl]using this
   obtain⟨init,hinit⟩:∃init,seen=init++[j]:=by
    obtain⟨l,hl⟩:=List.getLast?_eq_some_iff.1 j1
    exact⟨l,hl⟩
   have hrun:=run_entry_at (P:=X.P) C.w b m ks.length init.toArray es es.size es[j] (by rw[h4,hborn,hinit,hl1];simp) k2 (by simp) (by rw[k3];exact List.nodup_range)
   have hrk:RV0 C.imm C.w kv es[j].key:=k4.get j2 (by simp[hjl])
   have hru:RV0 C.imm C.w uv es[j].val:=k5.get j3 (by simp[hjl])
   refine up_pure hX hk h hd (v:=.tup [kv,uv]) (x:=.tuple #[es[j].key,es[j].val]) (fun c=>by simp[hop]) (by simp[execOp,hop,e1,hrun,Sem.run_pure,Sem.run_map]) ?_ hE
   simp only[RV]
   exact⟨[es[j].key,es[j].val],rfl,by simp only[RVs];exact⟨_,_,rfl,hrk.rv,_,_,rfl,hru.rv,rfl⟩⟩
  ·exact hE.elim
 ·exact hE.elim
theorem map_at(h:Rel X C s a){v:AV}{x:Value}(hv:RV C v x){ks us:List AV}(hm:v = .imp ks us\/∃i b,v = .row i/\s.sg.getD i .dead = .mp b ks us):∃b es,x = .map (some b)/\C.w.heap[b]?=some (.map es es.size)/\RV0s C.imm C.w ks (es.toList.map (·.key))/\RV0s C.imm C.w us (es.toList.map (·.val)):=by
 rcases hm with rfl|⟨i,b,rfl,hr⟩
 ·simp only[RV,RV0]at hv
  obtain⟨b,es,h1,_,h3,_,h5,h6⟩:=hv
  exact⟨b,es,h1,h3,h5,h6⟩
 ·obtain⟨hf',hi⟩:=getD_dead hr (by simp)
  simp only[RV]at hv
  obtain⟨ow,ho,e1⟩:=hv
  have hs:=h.sg i
  rw[hf',ho]at hs
  obtain⟨b,es,h1,_,h3,_,h5,h6,_⟩:=hs
  cases h1
  exact⟨b,es,e1,h3,h5,h6⟩
theorem lkp_ok(hX:SessOk X E)(hk:Nx X k next)(h:Rel X C s a)(hd:∀i,o.dst=some i->i<X.N){t kk e:TypeId}{kt:KTy}{m x:Operand}{p q:Opd}{ok:Bool}{z:AV}(hop:o.op = .lookup t m x ok)(ht:X.P.underlying t=some (.map kk e))(hkt:ktOf X.P kk=some kt)(hz:zvOf X.P e=some z)
  (hp:opd m=some p) (hq:opd x=some q) (hE:evO E o.dst (.lkp kt ok z p q) s k):o.wpIn X.F X.n X.P a C.w next Q:=by
 simp only[evO,evX,app]at hE
 have fin:∀(mv kv:AV) (ks us:List AV),s.ev p=some mv->s.ev q=some kv->(mv = .imp ks us\/∃i b,mv = .row i/\s.sg.getD i .dead = .mp b ks us)->LkE kt ks us kv (fun r=>k (s.put o.dst (lkR ok z r)))->o.wpIn X.F X.n X.P a C.w next Q:=fun mv kv ks us h1 h2 h3 h4=>by
  obtain⟨r,h4,h5⟩:=h4.out
  obtain⟨b,es,k1,k2,k3,k4⟩:=map_at h (ev_ok h hp h1) h3
  obtain⟨rv,hrun,hrv⟩:=run_mlook (P:=X.P) (w:=C.w) (imm:=C.imm) (ok:=ok) ht hkt hz k2 k3 k4 (keyV_to0 (mlook_key h4) (ev_ok h hq h2)) h4
  exact up_pure hX hk h hd (fun c=>by simp[hop]) (by simp[execOp,hop,k1,hrun,Sem.run_pure,Sem.run_map]) hrv.rv h5
 split at hE
 ·rename_i ks us kv h1 h2
  exact fin _ _ ks us h1 h2 (.inl rfl) hE
 ·rename_i i kv h1 h2
  split at hE
  ·rename_i b ks us hr
   exact fin _ _ ks us h1 h2 (.inr ⟨i,b,rfl,hr⟩) hE
  ·rename_i ks us hr
   obtain⟨r,h4,h5⟩:=hE.out
   obtain⟨hf',hi⟩:=getD_dead hr (by simp)
   have e1:=ev_ok h hp h1
   simp only[RV]at e1
   obtain⟨ow,ho,e1⟩:=e1
   have hs:=h.sg i
   rw[hf',ho]at hs
   obtain⟨b,es,k1,_,k2,_,k3,k4,_⟩:=hs
   cases k1
   obtain⟨rv,hrun,hrv⟩:=run_mlookO (P:=X.P) (C:=C) (ok:=ok) ht hkt hz k2 k3 k4 (keyV_to0 (mlook_key h4) (ev_ok h hq h2)) h4
   exact up_pure hX hk h hd (fun c=>by simp[hop]) (by simp[execOp,hop,e1,hrun,Sem.run_pure,Sem.run_map]) hrv h5
  ·exact hE.elim
 ·exact hE.elim
theorem cellsK_mono'{ag:Bool}{v:AV}{K K':List AV->Prop}(h:∀vs,K vs->K' vs):cellsK ag v K->cellsK ag v K':=by
 unfold cellsK
 cases ag with
 |false=>exact fun hh=>⟨hh.1,h _ hh.2⟩
 |true=>cases v<;>first|exact id|exact h _
theorem cellsK0_ok(h:Rel X C s a){ag:Bool}{v:AV}{x:Value}(hv:RV0 C.imm C.w v x){K:List AV->Prop}(hc:cellsK ag v K):∃cs,K cs/\RV0s C.imm C.w cs x.cells.toList:=by
 cases ag with
 |true=>
  simp only[cellsK]at hc
  split at hc
  ·simp only[RV0]at hv;obtain⟨vs,rfl,h2⟩:=hv
   exact⟨_,hc,by simpa[Value.cells]using h2⟩
  ·exact hc.elim
 |false=>
  simp only[cellsK]at hc
  refine⟨[v],hc.2,?_⟩
  rw[cells_one (RV.one h hc.1 hv.rv)]
  simp[RV0s,hv]
theorem stz_ok(hX:SessOk X E)(hk:Nx X k next)(h:Rel X C s a){t:TypeId}{x y:Operand}{p q:Opd}{ag:Bool}{n:Nat}{ne:List Opd}(hop:o.op = .store t x y)(hsz:szOf X.P t=some n)(hp:opd x=some p)(hq:opd y=some q)
  (hdn:o.dst=none) (hE:evO E o.dst (.stz ag n p q ne) s k):o.wpIn X.F X.n X.P a C.w next Q:=by
 simp only[evO,evX,app]at hE
 split at hE
 ·rename_i i off v h1 h2
  split at hE
  ·rename_i cs hr
   split at hE
   ·refine store_ok (ag:=ag) (ne:=[]) hX hk h hop hsz hp hq hdn ?_
    unfold evO
    simp only[evX,h1,h2,hr]
    exact cellsK_mono' (fun vs hh=>⟨hh.1,by
     have h3:=hh.2
     split at h3
     ·rename_i hc;rw[if_pos ⟨hc.1,hc.2,rfl⟩];exact h3
     ·exact h3.elim⟩) hE
   ·exact hE.elim
  ·exact hE.elim
 ·rename_i i sz m j v h1 h2
  have e1:=ev_ok h hp h1
  simp only[RV]at e1
  obtain⟨ow,ho,e1⟩:=e1
  split at hE
  ·rename_i el sz' es z v' hr hz hfz
   split at hE
   ·rename_i hc
    obtain⟨_,hc,hszz⟩:=hc
    subst hszz
    obtain⟨hf',hi⟩:=getD_dead hr (by simp)
    have hni:i∉z.map (·.1):=fun hm=>by
     have:=memN_iff.2 (by rw[fstN_map];exact hm:i∈fstN z)
     rw[this]at hc;cases hc
    have hI:=h.ice (reach_iced v z hz)
    have hv0:=frz_z h 8 v _ _ z hfz hz (ev_ok h hq h2)
    obtain⟨vs',hK,h3⟩:=cellsK0_ok hI hv0 hE
    obtain⟨hone,hK⟩:=hK
    split at hK
    ·rename_i hn
     obtain⟨hm0,hm1,hK⟩:=hK
     simp only[Int.toNat_natCast]at hK
     split at hK
     ·rename_i hjn
      have hin:m<es.length:=by omega
      have hg:es[m]?=some (es.getD m []):=by simp[List.getD,List.getElem?_eq_getElem hin]
      have hcl:(a.eval y).cells.size=n:=by have:=h3.length;simp at this;omega
      have hg2:(setL s.sg z).getD i .dead = .row false el sz' es:=by
       have h5:(setL s.sg z).getD i .fresh = .row false el sz' es:=by rw[set_dead (reach_iced v z hz) hni,hf']
       have hlt:i<(setL s.sg z).length:=by rw[setL_length];exact hi
       simpa[List.getD_eq_getElem?_getD,hlt]using h5
      obtain⟨b,cap,cur,k1,k2,k3,hR⟩:=set_row (C:=⟨immZ C s z,C.T,C.rho,C.w,C.l⟩) hX hI hg2 (by omega) hg h3 (j:=j) (by rw[Array.length_toList];omega)
      simp only at k1 k2
      rw[k1]at ho;cases ho
      have hst:=run_storeCells_at X.P b (m*sz'+j) el (a.eval y).cells.toList 0 cur C.w k2 (by simp;omega) (RV0s.ones hI hone h3)
      simp only[Nat.add_zero]at hst
      refine up_skip hX (w':=C.w.setRow b (cur.toList.take (m*sz'+j)++(a.eval y).cells.toList++cur.toList.drop (m*sz'+j+(a.eval y).cells.toList.length)).toArray) (fun c=>by simp[hop]) ?_ ?_
      ·simp only[Array.length_toList]at hst⊢
       simp[execOp,hop,e1,Instr.storeAt,Instr.sureAddr,storeVar,sz_run hsz,hcl,hst]
      ·rw[hdn]at hK⊢
       rw[setL_append]at hK
       exact hk _ _ _ hR hK
     ·exact hK.elim
    ·exact hK.elim
   ·exact hE.elim
  ·exact hE.elim
 ·exact hE.elim
theorem mlen_ok(hX:SessOk X E)(hk:Nx X k next)(h:Rel X C s a)(hd:∀i,o.dst=some i->i<X.N){c:Call}{x:Operand}{t kk e:TypeId}{p:Opd}(hop:o.op = .call c)(hc:c.callee = .builtin .len)(ha:c.args.toList=[x])(hat:c.argTypes.toList=[t])
  (ht:X.P.underlying t=some (.map kk e)) (hp:opd x=some p) (hE:evO E o.dst (.mlen p) s k):o.wpIn X.F X.n X.P a C.w next Q:=by
 have ha':c.args = #[x]:=by apply Array.ext';simpa using ha
 have hat':c.argTypes = #[t]:=by apply Array.ext';simpa using hat
 have fin:∀(mv:AV) (ks us:List AV),s.ev p=some mv->(mv = .imp ks us\/∃i b,mv = .row i/\s.sg.getD i .dead = .mp b ks us)->k (s.put o.dst (.int .i64 ks.length))->o.wpIn X.F X.n X.P a C.w next Q:=fun mv ks us h1 h3 h4=>by
  obtain⟨b,es,k1,k2,k3,k4⟩:=map_at h (ev_ok h hp h1) h3
  have hl1:ks.length=es.size:=by have:=k3.len;simp at this;omega
  refine up_pure hX hk h hd (x:=.int .i64 es.size) (fun c=>by simp[hop]) ?_ (by simp only[RV,hl1]) h4
  simp[execOp,hop,hc,ha',hat',resolve,invoke,builtin,Builtin.len_,run_underlying ht,k1,Sem.run_pure,goInt,MapKept.run_getObj_map k2]
 simp only[evO,evX,app]at hE
 split at hE
 ·rename_i ks us h1
  exact fin _ ks us h1 (.inl rfl) hE
 ·rename_i i h1
  split at hE
  ·rename_i b ks us hr
   exact fin _ ks us h1 (.inr ⟨i,b,rfl,hr⟩) hE
  ·exact hE.elim
 ·exact hE.elim
end
def AV.has(v:AV)(i:Nat):Bool := !(v.refsIn fun j=>j != i)
mutual
theorem AV.refsIn_mono{keep keep':Nat->Bool}:∀(v:AV),(∀i,(v.refsIn fun j=>j != i)=false->keep i=true->keep' i=true)->v.refsIn keep=true->v.refsIn keep'=true
 |.own i _,h,hk=>h i (by simp[AV.refsIn]) hk
 |.elt i _ _ _,h,hk=>h i (by simp[AV.refsIn]) hk
 |.row i,h,hk=>h i (by simp[AV.refsIn]) hk
 |.agg cs,h,hk=>AV.refsInL_mono cs h hk
 |.tup cs,h,hk=>AV.refsInL_mono cs h hk
 |.fn _ cs,h,hk=>AV.refsInL_mono cs h hk
 |.bool _,_,_=>rfl
 |.int _ _,_,_=>rfl
 |.str _,_,_=>rfl
 |.lit _,_,_=>rfl
 |.isl _,_,_=>rfl
 |.nils,_,_=>rfl
 |.ipt _,_,_=>rfl
 |.imp _ _,_,_=>rfl
 |.tsl _ _,_,_=>rfl
 |.mth _ _,_,_=>rfl
 |.any,_,_=>rfl
 |.yld,_,_=>rfl
 |.gone,_,_=>rfl
theorem AV.refsInL_mono{keep keep':Nat->Bool}:∀(as:List AV),(∀i,(AV.refsInL (fun j=>j != i) as)=false->keep i=true->keep' i=true)->AV.refsInL keep as=true->AV.refsInL keep' as=true
 | [],_,_=>rfl
 |a::as,h,hk=>by
  simp only[AV.refsInL,Bool.and_eq_true,Bool.and_eq_false_iff]at h hk⊢
  exact⟨AV.refsIn_mono a (fun i hi=>h i (.inl hi)) hk.1,AV.refsInL_mono as (fun i hi=>h i (.inr hi)) hk.2⟩
end
theorem AV.keep_has{keep:Nat->Bool}{v:AV}(h:∀i,v.has i=true->keep i=true):v.refsIn keep=true:=
 AV.refsIn_mono v (keep:=fun _=>true) (fun i hi _=>h i (by simp[AV.has,hi])) (AV.refsIn_all (fun _=>rfl) v)
theorem setL_other:∀(l:List (Nat × Res)) (sg:List Res) (i:Nat),i∉l.map (·.1)->(setL sg l)[i]?=sg[i]?
 | [],sg,i,_=>rfl
 |(j,r)::l,sg,i,h=>by
  simp only[List.map_cons,List.mem_cons,not_or]at h
  simp only[setL]
  rw[setL_other l _ i h.2,List.getElem?_set_ne (Ne.symm h.1)]
theorem setL_in:∀(l:List (Nat × Res)) (sg:List Res) (i:Nat),i∈l.map (·.1)->i<sg.length->∃r,(i,r)∈l/\(setL sg l)[i]?=some r
 | [],sg,i,h,_=>by cases h
 |(j,r)::l,sg,i,h,hi=>by
  simp only[setL]
  by_cases hl:i∈l.map (·.1)
  ·obtain⟨r',h1,h2⟩:=setL_in l (sg.set j r) i hl (by simpa using hi)
   exact⟨r',by simp[h1],h2⟩
  ·simp only[List.map_cons,List.mem_cons]at h
   have:i=j:=h.resolve_right hl
   subst this
   exact⟨r,by simp,by rw[setL_other l _ _ hl];simp[hi]⟩
theorem pick_lt:∀ {ns:List Nat} {nm j:Nat},j<ns.length->pick ns nm j=ns.getD j 0
 | [],nm,j,h=>by simp at h
 |n::ns,nm,0,_=>by simp[pick]
 |n::ns,nm,j+1,h=>by simp only[List.length_cons]at h;simp only[pick];rw[pick_lt (by omega)];simp
theorem pick_ge:∀ {ns:List Nat} {nm j:Nat},ns.length<=j->pick ns nm j=nm+(j-ns.length)
 | [],nm,j,_=>by cases j<;>simp[pick]
 |n::ns,nm,0,h=>by simp at h
 |n::ns,nm,j+1,h=>by simp only[List.length_cons]at h;simp only[pick];rw[pick_ge (by omega)];simp
mutual
theorem RV.down{C C0:Ctx}{π : Nat->Nat}{k:Nat}(hll:C0.l.l=C.l.l)(hp:Pers C.imm C0.imm C.w C0.w)(hr:∀i,i<k->C0.rho i=C.rho (π i)):∀(a:AV) (x:Value),a.blw k=true->RV C (a.mv π) x->RV C0 a x
 |.bool _,_,_,h=>by simpa only[RV,AV.mv]using h
 |.int _ _,_,_,h=>by simpa only[RV,AV.mv]using h
 |.str _,_,_,h=>by simpa only[RV,AV.mv]using h
 |.lit _,_,_,h=>by simpa only[RV,AV.mv]using h
 |.nils,_,_,h=>by simpa only[RV,AV.mv]using h
 |.agg cs,v,hb,h=>by simp only[RV,AV.mv,AV.blw]at h hb⊢;obtain⟨vs,rfl,h⟩:=h;exact⟨vs,rfl,RVs.down hll hp hr cs vs hb h⟩
 |.tup cs,v,hb,h=>by simp only[RV,AV.mv,AV.blw]at h hb⊢;obtain⟨vs,rfl,h⟩:=h;exact⟨vs,rfl,RVs.down hll hp hr cs vs hb h⟩
 |.fn f cs,v,hb,h=>by simp only[RV,AV.mv,AV.blw]at h hb⊢;obtain⟨vs,rfl,h⟩:=h;exact⟨vs,rfl,RVs.down hll hp hr cs vs hb h⟩
 |.isl es,v,_,h=>by simp only[RV,AV.mv]at h⊢;exact RV0.mono hp _ _ h
 |.ipt cs,v,_,h=>by simp only[RV,AV.mv]at h⊢;exact RV0.mono hp _ _ h
 |.imp _ _,v,_,h=>by simp only[RV,AV.mv]at h⊢;exact RV0.mono hp _ _ h
 |.tsl _ _,v,_,h=>by simp only[RV,AV.mv]at h⊢;exact RV0.mono hp _ _ h
 |.mth _ _,v,_,h=>by simp only[RV,AV.mv]at h⊢;exact RV0.mono hp _ _ h
 |.any,v,_,h=>by simpa only[RV,AV.mv]using h
 |.own i _,v,hb,h=>by simp only[RV,AV.mv,AV.blw,Nat.blt_eq]at h hb⊢;rw[hr i hb];exact h
 |.elt i _ _ _,v,hb,h=>by simp only[RV,AV.mv,AV.blw,Nat.blt_eq]at h hb⊢;rw[hr i hb];exact h
 |.row i,v,hb,h=>by simp only[RV,AV.mv,AV.blw,Nat.blt_eq]at h hb⊢;rw[hr i hb];exact h
 |.yld,_,_,h=>by simp only[RV,AV.mv]at h⊢;rw[hll];exact h
 |.gone,_,hb,_=>by cases hb
theorem RVs.down{C C0:Ctx}{π : Nat->Nat}{k:Nat}(hll:C0.l.l=C.l.l)(hp:Pers C.imm C0.imm C.w C0.w)(hr:∀i,i<k->C0.rho i=C.rho (π i)):∀(as:List AV) (xs:List Value),AV.blwL k as=true->RVs C (AV.mvL π as) xs->RVs C0 as xs
 | [],_,_,h=>by simpa only[RVs,AV.mvL]using h
 |a::as,xs,hb,h=>by
  simp only[RVs,AV.mvL,AV.blwL,Bool.and_eq_true]at h hb⊢
  obtain⟨x,xs',rfl,h1,h2⟩:=h
  exact⟨x,xs',rfl,RV.down hll hp hr a x hb.1 h1,RVs.down hll hp hr as xs' hb.2 h2⟩
end
mutual
theorem RV.up{C C0:Ctx}{π : Nat->Nat}{k:Nat}(hll:C0.l.l=C.l.l)(hp:Pers C0.imm C.imm C0.w C.w)(hr:∀i,i<k->C.rho (π i)=C0.rho i):∀(a:AV) (x:Value),a.blw k=true->RV C0 a x->RV C (a.mv π) x
 |.bool _,_,_,h=>by simpa only[RV,AV.mv]using h
 |.int _ _,_,_,h=>by simpa only[RV,AV.mv]using h
 |.str _,_,_,h=>by simpa only[RV,AV.mv]using h
 |.lit _,_,_,h=>by simpa only[RV,AV.mv]using h
 |.nils,_,_,h=>by simpa only[RV,AV.mv]using h
 |.agg cs,v,hb,h=>by simp only[RV,AV.mv,AV.blw]at h hb⊢;obtain⟨vs,rfl,h⟩:=h;exact⟨vs,rfl,RVs.up hll hp hr cs vs hb h⟩
 |.tup cs,v,hb,h=>by simp only[RV,AV.mv,AV.blw]at h hb⊢;obtain⟨vs,rfl,h⟩:=h;exact⟨vs,rfl,RVs.up hll hp hr cs vs hb h⟩
 |.fn f cs,v,hb,h=>by simp only[RV,AV.mv,AV.blw]at h hb⊢;obtain⟨vs,rfl,h⟩:=h;exact⟨vs,rfl,RVs.up hll hp hr cs vs hb h⟩
 |.isl es,v,_,h=>by simp only[RV,AV.mv]at h⊢;exact RV0.mono hp _ _ h
 |.ipt cs,v,_,h=>by simp only[RV,AV.mv]at h⊢;exact RV0.mono hp _ _ h
 |.imp _ _,v,_,h=>by simp only[RV,AV.mv]at h⊢;exact RV0.mono hp _ _ h
 |.tsl _ _,v,_,h=>by simp only[RV,AV.mv]at h⊢;exact RV0.mono hp _ _ h
 |.mth _ _,v,_,h=>by simp only[RV,AV.mv]at h⊢;exact RV0.mono hp _ _ h
 |.any,v,_,h=>by simpa only[RV,AV.mv]using h
 |.own i _,v,hb,h=>by simp only[RV,AV.mv,AV.blw,Nat.blt_eq]at h hb⊢;rw[hr i hb];exact h
 |.elt i _ _ _,v,hb,h=>by simp only[RV,AV.mv,AV.blw,Nat.blt_eq]at h hb⊢;rw[hr i hb];exact h
 |.row i,v,hb,h=>by simp only[RV,AV.mv,AV.blw,Nat.blt_eq]at h hb⊢;rw[hr i hb];exact h
 |.yld,_,_,h=>by simp only[RV,AV.mv]at h⊢;rw[<- hll];exact h
 |.gone,_,hb,_=>by cases hb
theorem RVs.up{C C0:Ctx}{π : Nat->Nat}{k:Nat}(hll:C0.l.l=C.l.l)(hp:Pers C0.imm C.imm C0.w C.w)(hr:∀i,i<k->C.rho (π i)=C0.rho i):∀(as:List AV) (xs:List Value),AV.blwL k as=true->RVs C0 as xs->RVs C (AV.mvL π as) xs
 | [],_,_,h=>by simpa only[RVs,AV.mvL]using h
 |a::as,xs,hb,h=>by
  simp only[RVs,AV.mvL,AV.blwL,Bool.and_eq_true]at h hb⊢
  obtain⟨x,xs',rfl,h1,h2⟩:=h
  exact⟨x,xs',rfl,RV.up hll hp hr a x hb.1 h1,RVs.up hll hp hr as xs' hb.2 h2⟩
end
mutual
theorem RV.upf{C C0:Ctx}{π : Nat->Nat}{k:Nat}(hll:C0.l.l=C.l.l)(hr:∀i,i<k->C.rho (π i)=C0.rho i):∀(a:AV) (x:Value),a.flatB k=true->RV C0 a x->RV C (a.mv π) x
 |.bool _,_,_,h=>by simpa only[RV,AV.mv]using h
 |.int _ _,_,_,h=>by simpa only[RV,AV.mv]using h
 |.str _,_,_,h=>by simpa only[RV,AV.mv]using h
 |.nils,_,_,h=>by simpa only[RV,AV.mv]using h
 |.agg cs,v,hb,h=>by simp only[RV,AV.mv,AV.flatB]at h hb⊢;obtain⟨vs,rfl,h⟩:=h;exact⟨vs,rfl,RVs.upf hll hr cs vs hb h⟩
 |.tup cs,v,hb,h=>by simp only[RV,AV.mv,AV.flatB]at h hb⊢;obtain⟨vs,rfl,h⟩:=h;exact⟨vs,rfl,RVs.upf hll hr cs vs hb h⟩
 |.fn f cs,v,hb,h=>by simp only[RV,AV.mv,AV.flatB]at h hb⊢;obtain⟨vs,rfl,h⟩:=h;exact⟨vs,rfl,RVs.upf hll hr cs vs hb h⟩
 |.own i _,v,hb,h=>by simp only[RV,AV.mv,AV.flatB,Nat.blt_eq]at h hb⊢;rw[hr i hb];exact h
 |.elt i _ _ _,v,hb,h=>by simp only[RV,AV.mv,AV.flatB,Nat.blt_eq]at h hb⊢;rw[hr i hb];exact h
 |.row i,v,hb,h=>by simp only[RV,AV.mv,AV.flatB,Nat.blt_eq]at h hb⊢;rw[hr i hb];exact h
 |.lit _,_,hb,_=>by cases hb
 |.isl _,_,hb,_=>by cases hb
 |.ipt _,_,hb,_=>by cases hb
 |.imp _ _,_,hb,_=>by cases hb
 |.tsl _ _,_,hb,_=>by cases hb
 |.mth _ _,_,hb,_=>by cases hb
 |.any,_,hb,_=>by cases hb
 |.yld,_,_,h=>by simp only[RV,AV.mv]at h⊢;rw[<- hll];exact h
 |.gone,_,hb,_=>by cases hb
theorem RVs.upf{C C0:Ctx}{π : Nat->Nat}{k:Nat}(hll:C0.l.l=C.l.l)(hr:∀i,i<k->C.rho (π i)=C0.rho i):∀(as:List AV) (xs:List Value),AV.flatBL k as=true->RVs C0 as xs->RVs C (AV.mvL π as) xs
 | [],_,_,h=>by simpa only[RVs,AV.mvL]using h
 |a::as,xs,hb,h=>by
  simp only[RVs,AV.mvL,AV.flatBL,Bool.and_eq_true]at h hb⊢
  obtain⟨x,xs',rfl,h1,h2⟩:=h
  exact⟨x,xs',rfl,RV.upf hll hr a x hb.1 h1,RVs.upf hll hr as xs' hb.2 h2⟩
end
mutual
theorem RV0.pu{imm:Nat->Prop}{w:World}{π : Nat->Nat}:∀(a:AV) (x:Value),RV0 imm w a x->a.mv π = a
 |.bool _,_,_=>rfl
 |.int _ _,_,_=>rfl
 |.str _,_,_=>rfl
 |.lit _,_,_=>rfl
 |.nils,_,_=>rfl
 |.isl _,_,_=>rfl
 |.ipt _,_,_=>rfl
 |.imp _ _,_,_=>rfl
 |.tsl _ _,_,_=>rfl
 |.mth _ _,_,_=>rfl
 |.any,_,_=>rfl
 |.agg cs,v,h=>by simp only[RV0]at h;obtain⟨vs,rfl,h⟩:=h;simp only[AV.mv,RV0s.pu cs vs h]
 |.tup cs,v,h=>by simp only[RV0]at h;obtain⟨vs,rfl,h⟩:=h;simp only[AV.mv,RV0s.pu cs vs h]
 |.fn f cs,v,h=>by simp only[RV0]at h;obtain⟨vs,rfl,h⟩:=h;simp only[AV.mv,RV0s.pu cs vs h]
 |.own _ _,_,h=>by simp[RV0]at h
 |.elt _ _ _ _,_,h=>by simp[RV0]at h
 |.row _,_,h=>by simp[RV0]at h
 |.yld,_,h=>by simp[RV0]at h
 |.gone,_,h=>by simp[RV0]at h
theorem RV0s.pu{imm:Nat->Prop}{w:World}{π : Nat->Nat}:∀(as:List AV) (xs:List Value),RV0s imm w as xs->AV.mvL π as=as
 | [],_,_=>rfl
 |a::as,xs,h=>by simp only[RV0s]at h;obtain⟨x,xs',rfl,h1,h2⟩:=h;simp only[AV.mvL,RV0.pu a x h1,RV0s.pu as xs' h2]
end
mutual
theorem RV0.unmv{imm:Nat->Prop}{w:World}{π : Nat->Nat}:∀(a:AV) (x:Value),RV0 imm w (a.mv π) x->RV0 imm w a x
 |.bool _,_,h=>h
 |.int _ _,_,h=>h
 |.str _,_,h=>h
 |.lit _,_,h=>h
 |.nils,_,h=>h
 |.isl _,_,h=>h
 |.ipt _,_,h=>h
 |.imp _ _,_,h=>h
 |.tsl _ _,_,h=>h
 |.mth _ _,_,h=>h
 |.any,_,h=>h
 |.agg cs,v,h=>by simp only[RV0,AV.mv]at h⊢;obtain⟨vs,rfl,h⟩:=h;exact⟨vs,rfl,RV0s.unmv cs vs h⟩
 |.tup cs,v,h=>by simp only[RV0,AV.mv]at h⊢;obtain⟨vs,rfl,h⟩:=h;exact⟨vs,rfl,RV0s.unmv cs vs h⟩
 |.fn f cs,v,h=>by simp only[RV0,AV.mv]at h⊢;obtain⟨vs,rfl,h⟩:=h;exact⟨vs,rfl,RV0s.unmv cs vs h⟩
 |.own _ _,_,h=>by simp[RV0,AV.mv]at h
 |.elt _ _ _ _,_,h=>by simp[RV0,AV.mv]at h
 |.row _,_,h=>by simp[RV0,AV.mv]at h
 |.yld,_,h=>by simp[RV0,AV.mv]at h
 |.gone,_,h=>by simp[RV0,AV.mv]at h
theorem RV0s.unmv{imm:Nat->Prop}{w:World}{π : Nat->Nat}:∀(as:List AV) (xs:List Value),RV0s imm w (AV.mvL π as) xs->RV0s imm w as xs
 | [],_,h=>h
 |a::as,xs,h=>by simp only[RV0s,AV.mvL]at h⊢;obtain⟨x,xs',rfl,h1,h2⟩:=h;exact⟨x,xs',rfl,RV0.unmv a x h1,RV0s.unmv as xs' h2⟩
end
theorem Res.mv_blk{π : Nat->Nat}(r:Res)(o:Option Own):(r.mv π).blk o=r.blk o:=by cases r<;>rfl
theorem ResOk.down{C C0:Ctx}{π : Nat->Nat}{k:Nat}(hll:C0.l.l=C.l.l)(hw:C0.w=C.w)(hi:∀b,C.imm b->C0.imm b)(hr:∀i,i<k->C0.rho i=C.rho (π i)){r:Res}{o:Option Own}(hb:r.blw k=true)(hbl:∀b,r.blk o=some b->C0.T b/\(C0.imm b->C.imm b))
  (h:ResOk C (r.mv π) o):ResOk C0 r o:=by
 have hp:Pers C.imm C0.imm C.w C0.w:=fun b hb=>⟨hi b hb,by rw[hw]⟩
 cases r with
 |fresh=>exact h
 |dead=>exact h
 |box ice cs=>
  obtain⟨b,vs,el,rfl,h1,h2,h3,h4,h5⟩:=h
  obtain⟨q1,q2⟩:=hbl b rfl
  refine⟨b,vs,el,rfl,q1,by rw[hw];exact h2,RVs.down hll hp hr cs vs hb h3,fun e=>⟨hi b (h4 e).1,?_⟩,fun e hh=>h5 e (q2 hh)⟩
  exact RV0s.mono hp _ _ (RV0s.unmv _ _ (h4 e).2)
 |row ice el sz es=>
  obtain⟨b,v,xs,rfl,h1,h2,h3,h4⟩:=h
  refine⟨b,v,xs,rfl,by rw[hw];exact h1,RV0s.mono hp _ _ h2,h3,fun b' e=>?_⟩
  obtain⟨e1,e2,e3,e4⟩:=h4 b' e
  obtain⟨q1,q2⟩:=hbl b' e
  exact⟨e1,by rw[<- e1];exact q1,fun e'=>hi _ (e3 e'),fun e' hh=>e4 e' (by rw[<- e1]at hh⊢;exact q2 hh)⟩
 |mp ice ks us=>
  obtain⟨b,es,rfl,h1,h2,h3,h4,h5,h6,h7⟩:=h
  obtain⟨q1,q2⟩:=hbl b rfl
  exact⟨b,es,rfl,q1,by rw[hw];exact h2,h3,RV0s.mono hp _ _ h4,RV0s.mono hp _ _ h5,fun e=>hi b (h6 e),fun e hh=>h7 e (q2 hh)⟩
 |mpo ks us=>cases hb
 |itr ks us seen last=>
  obtain⟨b,m,rfl,h1,h2,h3,h4,h5⟩:=h
  obtain⟨q1,q2⟩:=hbl b rfl
  exact⟨b,m,rfl,q1,fun hh=>h2 (q2 hh),by rw[hw];exact h3,RV0.mono hp _ _ h4,h5⟩
theorem ResOk.up{C C0:Ctx}{π : Nat->Nat}{k:Nat}(hll:C0.l.l=C.l.l)(hw:C.w=C0.w)(hi:∀b,C0.imm b->C.imm b)(hr:∀i,i<k->C.rho (π i)=C0.rho i){r:Res}{o:Option Own}(hb:r.blw k=true)(hbl:∀b,r.blk o=some b->C.T b/\(C.imm b->C0.imm b))
  (h:ResOk C0 r o):ResOk C (r.mv π) o:=by
 have hp:Pers C0.imm C.imm C0.w C.w:=fun b hb=>⟨hi b hb,by rw[hw]⟩
 cases r with
 |fresh=>exact h
 |dead=>exact h
 |box ice cs=>
  obtain⟨b,vs,el,rfl,h1,h2,h3,h4,h5⟩:=h
  obtain⟨q1,q2⟩:=hbl b rfl
  refine⟨b,vs,el,rfl,q1,by rw[hw];exact h2,RVs.up hll hp hr cs vs hb h3,fun e=>⟨hi b (h4 e).1,?_⟩,fun e hh=>h5 e (q2 hh)⟩
  rw[RV0s.pu _ _ (h4 e).2];exact RV0s.mono hp _ _ (h4 e).2
 |row ice el sz es=>
  obtain⟨b,v,xs,rfl,h1,h2,h3,h4⟩:=h
  refine⟨b,v,xs,rfl,by rw[hw];exact h1,RV0s.mono hp _ _ h2,h3,fun b' e=>?_⟩
  obtain⟨e1,e2,e3,e4⟩:=h4 b' e
  obtain⟨q1,q2⟩:=hbl b' e
  exact⟨e1,by rw[<- e1];exact q1,fun e'=>hi _ (e3 e'),fun e' hh=>e4 e' (by rw[<- e1]at hh⊢;exact q2 hh)⟩
 |mp ice ks us=>
  obtain⟨b,es,rfl,h1,h2,h3,h4,h5,h6,h7⟩:=h
  obtain⟨q1,q2⟩:=hbl b rfl
  exact⟨b,es,rfl,q1,by rw[hw];exact h2,h3,RV0s.mono hp _ _ h4,RV0s.mono hp _ _ h5,fun e=>hi b (h6 e),fun e hh=>h7 e (q2 hh)⟩
 |mpo ks us=>cases hb
 |itr ks us seen last=>
  obtain⟨b,m,rfl,h1,h2,h3,h4,h5⟩:=h
  obtain⟨q1,q2⟩:=hbl b rfl
  exact⟨b,m,rfl,q1,fun hh=>h2 (q2 hh),by rw[hw];exact h3,RV0.mono hp _ _ h4,h5⟩
theorem RV0s.flatL{imm imm2:Nat->Prop}{w w':World}{as:List AV}{xs:List Value}(hf:AV.flatL as=true)(h:RV0s imm w as xs):RV0s imm2 w' as xs:=
 RV0s.mono (imm:=fun _=>False) (w:=w) (fun b hb=>hb.elim) _ _ (flat0s (C:=⟨imm,fun _=>False,fun _=>none,w,ln0⟩) as xs hf (RV0s.rv (C:=⟨imm,fun _=>False,fun _=>none,w,ln0⟩) _ _ h))
theorem ResOk.upf{C C0:Ctx}{π : Nat->Nat}{k:Nat}(hll:C0.l.l=C.l.l)(hw:C.w=C0.w)(hr:∀i,i<k->C.rho (π i)=C0.rho i){r:Res}{o:Option Own}(hb:r.flatB k=true)(hbl:∀b,r.blk o=some b->C.T b/\(C.imm b->C0.imm b))
  (h:ResOk C0 r o):ResOk C (r.mv π) o:=by
 cases r with
 |fresh=>exact h
 |dead=>exact h
 |box ice cs=>
  cases ice
  ·obtain⟨b,vs,el,rfl,h1,h2,h3,h4,h5⟩:=h
   obtain⟨q1,q2⟩:=hbl b rfl
   exact⟨b,vs,el,rfl,q1,by rw[hw];exact h2,RVs.upf hll hr cs vs hb h3,fun e=>absurd e (by simp),fun e hh=>h5 e (q2 hh)⟩
  ·cases hb
 |row ice el sz es=>
  cases ice
  ·obtain⟨b,v,xs,rfl,h1,h2,h3,h4⟩:=h
   refine⟨b,v,xs,rfl,by rw[hw];exact h1,RV0s.flatL hb h2,h3,fun b' e=>?_⟩
   obtain⟨e1,e2,e3,e4⟩:=h4 b' e
   obtain⟨q1,q2⟩:=hbl b' e
   exact⟨e1,by rw[<- e1];exact q1,fun e'=>absurd e' (by simp),fun e' hh=>e4 e' (by rw[<- e1]at hh⊢;exact q2 hh)⟩
  ·cases hb
 |mp ice ks us=>
  cases ice
  ·simp only[Res.flatB,Bool.and_eq_true]at hb
   obtain⟨b,es,rfl,h1,h2,h3,h4,h5,h6,h7⟩:=h
   obtain⟨q1,q2⟩:=hbl b rfl
   exact⟨b,es,rfl,q1,by rw[hw];exact h2,h3,RV0s.flatL hb.1 h4,RV0s.flatL hb.2 h5,fun e=>absurd e (by simp),fun e hh=>h7 e (q2 hh)⟩
  ·cases hb
 |mpo ks us=>cases hb
 |itr ks us seen last=>cases hb
theorem bigL_mem{π : Nat->Nat}:∀ {outs:List Res} {i:Nat} {p:Nat × Res},p∈bigL π i outs->∃j,j<outs.length/\p=(π (i+j),(outs.getD j .fresh).mv π)
 | [],i,p,h=>by cases h
 |r::rs,i,p,h=>by
  simp only[bigL,List.mem_cons]at h
  rcases h with rfl|h
  ·exact⟨0,by simp,by simp⟩
  ·obtain⟨j,h1,h2⟩:=bigL_mem h
   exact⟨j+1,by simp;omega,by rw[h2,show i+1+j=i+(j+1) from by omega];simp⟩
theorem bigL_in{π : Nat->Nat}:∀ {outs:List Res} {i j:Nat},j<outs.length -> π (i+j)∈(bigL π i outs).map (·.1)
 | [],i,j,h=>by simp at h
 |r::rs,i,0,h=>by simp[bigL]
 |r::rs,i,j+1,h=>by
  simp only[bigL,List.map_cons,List.mem_cons]
  right
  have:=bigL_in (π := π) (outs:=rs) (i:=i+1) (j:=j) (by simp at h;omega)
  rwa [show i+1+j=i+(j+1) from by omega]at this
theorem handed_get{sg:List Res}{π : Nat->Nat}:∀ {ins:List Res} {i:Nat},handed sg π i ins->∀j,j<ins.length->sg.getD (π (i+j)) .dead=(ins.getD j .fresh).mv π
 | [],i,_,j,h=>by simp at h
 |r::rs,i,h,0,_=>by simpa using h.1
 |r::rs,i,h,j+1,hj=>by
  have:=handed_get h.2 j (by simp at hj;omega)
  rw[show i+1+j=i+(j+1) from by omega]at this
  simpa using this
theorem resBelow_get{k:Nat}:∀ {rs:List Res},resBelow k rs=true->∀j,j<rs.length->(rs.getD j .fresh).blw k=true
 | [],_,j,h=>by simp at h
 |r::rs,h,0,_=>by simp only[resBelow,Bool.and_eq_true]at h;simpa using h.1
 |r::rs,h,j+1,hj=>by simp only[resBelow,Bool.and_eq_true]at h;simpa using resBelow_get h.2 j (by simp at hj;omega)
theorem resFlat_get{k:Nat}:∀ {rs:List Res},resFlat k rs=true->∀j,j<rs.length->(rs.getD j .fresh).flatB k=true
 | [],_,j,h=>by simp at h
 |r::rs,h,0,_=>by simp only[resFlat,Bool.and_eq_true]at h;simpa using h.1
 |r::rs,h,j+1,hj=>by simp only[resFlat,Bool.and_eq_true]at h;simpa using resFlat_get h.2 j (by simp at hj;omega)
theorem resLive_get:∀ {rs:List Res},resLive rs=true->∀j,j<rs.length->rs.getD j .fresh ≠ .fresh/\rs.getD j .fresh ≠ .dead
 | [],_,j,h=>by simp at h
 |r::rs,h,0,_=>by cases r<;>simp[resLive]at h⊢
 |r::rs,h,j+1,hj=>by
  have:resLive rs=true:=by cases r<;>simp[resLive]at h⊢<;>exact h
  simpa using resLive_get this j (by simp at hj;omega)
theorem nodupN_get:∀ {ns:List Nat},nodupN ns=true->∀i j,i<ns.length->j<ns.length->ns.getD i 0=ns.getD j 0->i=j
 | [],_,i,j,h,_,_=>by simp at h
 |n::ns,h,i,j,hi,hj,e=>by
  simp only[nodupN,Bool.and_eq_true,Bool.not_eq_true']at h
  have hn:∀j,j<ns.length->ns.getD j 0≠n:=fun j hj e=>by
   have:n∈ns:=by rw[<- e];simp[List.getD_eq_getElem?_getD,hj]
   rw[<- memN_iff]at this;rw[this]at h;simp at h
  cases i<;>cases j<;>simp at hi hj e⊢
  ·rename_i j;exact absurd (by simpa using e.symm) (hn j (by omega))
  ·rename_i i;exact absurd (by simpa using e) (hn i (by omega))
  ·rename_i i j;exact nodupN_get h.2 i j (by omega) (by omega) (by simpa using e)
theorem ResOk.some{C:Ctx}{r:Res}{o:Option Own}(h:ResOk C r o)(h1:r ≠ .fresh)(h2:r ≠ .dead):∃x,o=some x:=by
 cases r with
 |fresh=>exact absurd rfl h1
 |dead=>exact absurd rfl h2
 |box ice cs=>obtain⟨b,vs,el,rfl,_⟩:=h;exact⟨_,rfl⟩
 |row ice el sz es=>obtain⟨b,v,xs,rfl,_⟩:=h;exact⟨_,rfl⟩
 |mp ice ks us=>obtain⟨b,es,rfl,_⟩:=h;exact⟨_,rfl⟩
 |mpo ks us=>obtain⟨b,es,rfl,_⟩:=h;exact⟨_,rfl⟩
 |itr ks us seen last=>obtain⟨b,m,rfl,_⟩:=h;exact⟨_,rfl⟩
theorem world_heap{w w':World}(h:w={ w' with heap:=w.heap })(e:∀b:Nat,w.heap[b]?=w'.heap[b]?):w=w':=by
 have:w.heap=w'.heap:=Array.ext_getElem? e
 rw[this]at h;exact h
theorem keep_wr{X:Sess}{E:Env}(hX:SessOk X E){T:Nat->Prop}{S:Wt}{k:Nat}{st:Bool}{w w':World}{imm T1:Nat->Prop}(hK:X.Keep T S k st w)(hwr:Wr imm T1 w w')(h1:∀b,T1 b->T b/\Mem w b)(h0:∀b,X.imm0 b->imm b)(h9:∀b,S.h b->imm b)
  (bs:List Nat) (hbs:∀b,T1 b->b∈bs):X.Keep (newB w w' T) S k st w':=by
 let w1:World:={ w' with heap:=w.heap++w'.heap.extract w.heap.size w'.heap.size }
 have hs1:w1.heap.size=w'.heap.size:=by
  have:=hwr.size
  simp only[w1,Array.size_append,Array.size_extract];omega
 have hlt:∀b,b<w.heap.size->w1.heap[b]?=w.heap[b]?:=fun b hb=>by
  simp only[w1];rw[Array.getElem?_append_left hb]
 have hge:∀b,w.heap.size<=b->w1.heap[b]?=w'.heap[b]?:=fun b hb=>by
  simp only[w1];rw[Array.getElem?_append_right hb]
  rw[Array.getElem?_extract]
  split
  ·rw[show w.heap.size+(b-w.heap.size)=b from by omega]
  ·have:w'.heap.size<=b:=by omega
   rw[Array.getElem?_eq_none this]
 have hb:Below w.heap.size w w1:=⟨hwr.os,hwr.tape,hwr.output,by rw[hs1];exact hwr.size,fun k hk=>hlt k hk⟩
 have hK1:=hX.kgrow _ _ _ _ _ _ hK hb
 have hN:newB w w1 T=newB w w' T:=by funext b;simp only[newB,hs1]
 rw[hN]at hK1
 have key:∀(bs:List Nat) (wc:World),wc={ w' with heap:=wc.heap }->wc.heap.size=w'.heap.size->(∀b,wc.heap[b]?=w'.heap[b]?\/(b∈bs/\wc.heap[b]?=w.heap[b]?/\T1 b/\¬imm b))->X.Keep (newB w w' T) S k st wc->X.Keep (newB w w' T) S k st w':=by
  intro bs
  induction bs with
  |nil=>
   intro wc e1 e2 e3 hk
   have:wc=w':=world_heap e1 fun b=>(e3 b).resolve_right fun hh=>by cases hh.1
   rwa [this]at hk
  |cons b bs ih=>
   intro wc e1 e2 e3 hk
   rcases e3 b with h4|⟨_,h4,h5,h6⟩
   ·refine ih wc e1 e2 (fun b'=>?_) hk
    rcases e3 b' with h7|⟨h7,h8⟩
    ·exact .inl h7
    ·rcases List.mem_cons.1 h7 with rfl|h7
     ·exact .inl h4
     ·exact .inr ⟨h7,h8⟩
   ·obtain⟨hT,hm⟩:=h1 b h5
    have hlt':b<w'.heap.size:=Nat.lt_of_lt_of_le hm.lt hwr.size
    have hltc:b<wc.heap.size:=by omega
    have hother:∀b',b'≠b->(wc.heap.setIfInBounds b (w'.heap[b]))[b']?=wc.heap[b']?:=fun b' hne=>by
     rw[Array.getElem?_setIfInBounds_ne (Ne.symm hne)]
    have hset:(wc.heap.setIfInBounds b (w'.heap[b]))[b]?=w'.heap[b]?:=by
     rw[Array.getElem?_setIfInBounds_self];simp[hltc,hlt']
    have e1':∀h:Array Obj,({ wc with heap:=h }:World)={ w' with heap:=h }:=fun h=>by rw[e1]
    refine ih { wc with heap:=wc.heap.setIfInBounds b (w'.heap[b]) } (e1' _) (by simp[e2]) (fun b'=>?_) (hX.kset _ _ _ _ wc _ b hk (.inl hT) (fun hq=>h6 (h0 b hq)) (fun hq=>h6 (h9 b hq)) ⟨rfl,rfl,rfl,by simp,fun k hk=>hother k hk,hm.same h4,(hwr.mem b hm).same hset⟩)
    simp only
    by_cases e:b'=b
    ·subst e;exact .inl hset
    ·rw[hother b' e]
     rcases e3 b' with h7|⟨h7,h8⟩
     ·exact .inl h7
     ·rcases List.mem_cons.1 h7 with rfl|h7
      ·exact absurd rfl e
      ·exact .inr ⟨h7,h8⟩
 refine key bs w1 rfl hs1 (fun b=>?_) hK1
 by_cases hbl:b<w.heap.size
 ·by_cases hh:imm b\/¬T1 b
  ·exact .inl ((hlt b hbl).trans (hwr.same b hbl hh).symm)
  ·have h2:T1 b:=Classical.not_not.1 fun e=>hh (.inr e)
   exact .inr ⟨hbs b h2,hlt b hbl,h2,fun e=>hh (.inl e)⟩
 ·exact .inl (hge b (by omega))
def osOf(C:Ctx)(ns:List Nat)(j:Nat):Option Own:=if j<ns.length then C.rho (ns.getD j 0) else none
def blksOf(C:Ctx)(ns:List Nat)(ins:List Res)(b:Nat):Prop:=∃j,j<ns.length/\(ins.getD j .fresh).blk (osOf C ns j)=some b
def rho2(C:Ctx)(ns:List Nat)(nm n:Nat)(os':Nat->Option Own)(i:Nat):Option Own:=if nm<=i/\i<nm+(n-ns.length) then os' (i-nm+ns.length) else C.rho i
section
variable {X:Sess} {E:Env} {C:Ctx} {s:St} {a:Act}
theorem handed_sg{ns:List Nat}{nm:Nat}{ins:List Res}(hlen:ns.length=ins.length)(hh:handed s.sg (pick ns nm) 0 ins)(hlive:resLive ins=true){j:Nat}(hj:j<ns.length) :
  s.sg.getD (ns.getD j 0) .fresh=(ins.getD j .fresh).mv (pick ns nm)/\ns.getD j 0<s.sg.length:=by
 have h1:=handed_get hh j (by omega)
 rw[Nat.zero_add,pick_lt hj]at h1
 have h2:=resLive_get hlive j (by omega)
 exact getD_dead h1 (by generalize ins.getD j .fresh=r at h2;cases r<;>simp[Res.mv]at h2⊢)
theorem Rel.osOf_part(h:Rel X C s a){ns:List Nat}{nm:Nat}{ins:List Res}(hlen:ns.length=ins.length)(hnd:nodupN ns=true)(hh:handed s.sg (pick ns nm) 0 ins)(hib:resBelow ns.length ins=true)(hlive:resLive ins=true)
  {imm:Nat->Prop} (hi:∀b,C.imm b->imm b) (hni:∀b,blksOf C ns ins b->imm b->C.imm b):Part imm (blksOf C ns ins) C.w (osOf C ns) C.l.l ins:=by
 have hos:∀j,j<ns.length->osOf C ns j=C.rho (ns.getD j 0):=fun j hj=>by simp[osOf,hj]
 refine⟨fun i=>?_,fun i j b h1 h2=>?_⟩
 ·by_cases hi':i<ns.length
  ·obtain⟨e1,_⟩:=handed_sg hlen hh hlive hi'
   have hs:=h.sg (ns.getD i 0)
   rw[e1,<- hos i hi']at hs
   refine ResOk.down (k:=ns.length) (π :=pick ns nm) (C:=C) (C0:=⟨imm,blksOf C ns ins,osOf C ns,C.w,lnl C.l.l⟩) rfl rfl hi (fun j hj=>?_) (resBelow_get hib i (by omega)) (fun b hb=>⟨⟨i,hi',hb⟩,hni b ⟨i,hi',hb⟩⟩) hs
   rw[pick_lt hj];exact hos j hj
  ·have:ins.getD i .fresh = .fresh:=by rw[List.getD_eq_getElem?_getD,List.getElem?_eq_none (by omega)];rfl
   rw[this];simp[ResOk,osOf,hi']
 ·have lt:∀i,(ins.getD i .fresh).blk (osOf C ns i)=some b->i<ns.length:=fun i hi'=>Classical.byContradiction fun hn=>by
   have:ins.getD i .fresh = .fresh:=by rw[List.getD_eq_getElem?_getD,List.getElem?_eq_none (by omega)];rfl
   rw[this]at hi';cases hi'
  have l1:=lt i h1
  have l2:=lt j h2
  rw[hos i l1]at h1
  rw[hos j l2]at h2
  refine nodupN_get hnd i j l1 l2 (h.dis _ _ b ?_ ?_)
  ·rw[(handed_sg hlen hh hlive l1).1,Res.mv_blk];exact h1
  ·rw[(handed_sg hlen hh hlive l2).1,Res.mv_blk];exact h2
theorem blks_list(ns:List Nat)(ins:List Res):∃bs:List Nat,∀b,blksOf C ns ins b->b∈bs:=
 ⟨(List.range ns.length).filterMap fun j=>(ins.getD j .fresh).blk (osOf C ns j),fun b ⟨j,hj,hb⟩=>List.mem_filterMap.2 ⟨j,by simpa using hj,hb⟩⟩
theorem Rel.writeG(h:Rel X C s a){ns:List Nat}{nm ct:Nat}{ins outs:List Res}{w':World}{imm' imm2 T' T2:Nat->Prop}{os':Nat->Option Own}{l2:Ln}{k':Nat}{st':Bool}
  (hlen:ns.length=ins.length) (hnd:nodupN ns=true) (hh:handed s.sg (pick ns nm) 0 ins) (hlive:resLive ins=true) (hfr:freshN s.sg nm ct=true) (hle:ns.length<=outs.length) (hle2:outs.length<=ns.length+ct)
  (hP:Part imm' T' w' os' C.l.l outs) (hos:∀i o,osOf C ns i=some o->os' i=some o) (hsame:∀b,b<C.w.heap.size->(C.imm b\/(C.T b/\¬blksOf C ns ins b))->w'.heap[b]?=C.w.heap[b]?) (hT1:∀b,blksOf C ns ins b->T' b) (hT':∀b,T' b->blksOf C ns ins b\/(C.w.heap.size<=b/\b<w'.heap.size))
  (hi1:∀b,C.imm b->imm2 b) (hi2:∀b,imm2 b->(C.imm b\/T' b)/\Mem w' b) (hl2:l2.l=C.l.l) (hlh:∀b,l2.S.h b->imm2 b) (hT2:∀b,C.T b->T2 b) (hT2':∀b,T' b->T2 b) (hT2s:∀b,T2 b->b<w'.heap.size) (hK:X.Keep T2 l2.S k' st' w')
  (hup:∀j,j<outs.length->(∀i,i<outs.length->rho2 C ns nm outs.length os' (pick ns nm i)=os' i)->ResOk ⟨imm2,T2,rho2 C ns nm outs.length os',w',l2⟩ ((outs.getD j .fresh).mv (pick ns nm)) (os' j)) :
  Rel X ⟨imm2,T2,rho2 C ns nm outs.length os',w',l2⟩ { s with sg:=setL s.sg (bigL (pick ns nm) 0 outs),gh:=⟨s.gh.p,k',st'⟩ } a/\∀i,i<outs.length->rho2 C ns nm outs.length os' (pick ns nm i)=os' i:=by
 have hos0:∀j,j<ns.length->osOf C ns j=C.rho (ns.getD j 0):=fun j hj=>by simp[osOf,hj]
 have hfresh:∀i,nm<=i->i<nm+ct->s.sg.getD i .fresh = .fresh/\i<s.sg.length:=fun i h1 h2=>by
  have:=freshN_iff.1 hfr (i-nm) (by omega)
  rw[show nm+(i-nm)=i from by omega]at this
  exact getD_dead this (by simp)
 have hnn:∀j,j<ns.length->¬(nm<=ns.getD j 0/\ns.getD j 0<nm+ct):=fun j hj hc=>by
  obtain⟨e1,_⟩:=handed_sg hlen hh hlive hj
  obtain⟨e2,_⟩:=hfresh _ hc.1 hc.2
  rw[e2]at e1
  have:=(resLive_get hlive j (by omega)).1
  generalize ins.getD j .fresh=r at this e1
  cases r<;>simp[Res.mv]at this e1
 -- what a name of the callee's stands for, afterwards
 have hrho:∀i,i<outs.length->rho2 C ns nm outs.length os' (pick ns nm i)=os' i:=fun i hi=>by
  by_cases hk:i<ns.length
  ·rw[pick_lt hk]
   have:¬(nm<=ns.getD i 0/\ns.getD i 0<nm+(outs.length-ns.length)):=fun hc=>hnn i hk ⟨hc.1,by omega⟩
   rw[rho2,if_neg this,<- hos0 i hk]
   have hs:=h.sg (ns.getD i 0)
   rw[(handed_sg hlen hh hlive hk).1,<- hos0 i hk]at hs
   have hl:=resLive_get hlive i (by omega)
   obtain⟨o,ho⟩:=ResOk.some hs (by generalize ins.getD i .fresh=r at hl;cases r<;>simp[Res.mv]at hl⊢) (by generalize ins.getD i .fresh=r at hl;cases r<;>simp[Res.mv]at hl⊢)
   rw[ho,hos i o ho]
  ·rw[pick_ge (by omega),rho2,if_pos ⟨by omega,by omega⟩]
   congr 1;omega
 -- the names that are touched
 have hnamed:∀i,i<outs.length->pick ns nm i<s.sg.length:=fun i hi=>by
  by_cases hk:i<ns.length
  ·rw[pick_lt hk];exact(handed_sg hlen hh hlive hk).2
  ·rw[pick_ge (by omega)];exact(hfresh _ (by omega) (by omega)).2
 have hget:∀i,(∃j,j<outs.length/\pick ns nm j=i/\(setL s.sg (bigL (pick ns nm) 0 outs)).getD i .fresh=(outs.getD j .fresh).mv (pick ns nm)) \/
   ((∀j,j<outs.length->pick ns nm j≠i)/\(setL s.sg (bigL (pick ns nm) 0 outs)).getD i .fresh=s.sg.getD i .fresh):=fun i=>by
  by_cases hm:i∈(bigL (pick ns nm) 0 outs).map (·.1)
  ·obtain⟨p,hp,e⟩:=List.mem_map.1 hm
   obtain⟨j0,h1,h2⟩:=bigL_mem hp
   have hlt:i<s.sg.length:=by rw[<- e,h2];simpa using hnamed j0 h1
   obtain⟨r,h3,h4⟩:=setL_in _ s.sg i hm hlt
   obtain⟨j,h5,h6⟩:=bigL_mem h3
   simp only[Nat.zero_add,Prod.mk.injEq]at h6
   exact .inl ⟨j,h5,h6.1.symm,by rw[List.getD_eq_getElem?_getD,h4,h6.2];rfl⟩
  ·refine .inr ⟨fun j hj e=>hm ?_,?_⟩
   ·have:=bigL_in (π :=pick ns nm) (outs:=outs) (i:=0) hj
    rw[Nat.zero_add,e]at this;exact this
   ·rw[List.getD_eq_getElem?_getD,setL_other _ _ _ hm,List.getD_eq_getElem?_getD]
 -- other names stand for what they stood for
 have hold:∀i,(∀j,j<outs.length->pick ns nm j≠i)->rho2 C ns nm outs.length os' i=C.rho i:=fun i hi=>by
  rw[rho2,if_neg]
  rintro⟨c1,c2⟩
  refine hi (i-nm+ns.length) (by omega) ?_
  rw[pick_ge (by omega)];omega
 have hnt:∀i b,(∀j,j<outs.length->pick ns nm j≠i)->(s.sg.getD i .fresh).blk (C.rho i)=some b->¬blksOf C ns ins b:=fun i b hi hb ⟨j,hj,hb'⟩=>by
  refine hi j (by omega) ?_
  rw[pick_lt hj]
  refine h.dis _ _ b ?_ hb
  rw[(handed_sg hlen hh hlive hj).1,Res.mv_blk,<- hos0 j hj];exact hb'
 have hnT':∀i b,(∀j,j<outs.length->pick ns nm j≠i)->(s.sg.getD i .fresh).blk (C.rho i)=some b->¬T' b:=fun i b hi hb ht=>by
  rcases hT' b ht with h1|h1
  ·exact hnt i b hi hb h1
  ·have:=(Res.blk_lt (h.sg i) hb).2.1;omega
 have hl:Later (fun i => !(Nat.ble nm i&&Nat.blt i (nm+(outs.length-ns.length)))) C ⟨imm2,T2,rho2 C ns nm outs.length os',w',l2⟩:=by
  refine⟨fun b hb=>⟨hi1 b hb,hsame b (h.imm b hb).2.lt (.inl hb)⟩,fun i hi=>?_,hl2⟩
  simp only[Bool.not_eq_true',Bool.and_eq_false_iff]at hi
  show rho2 _ _ _ _ _ _=_
  rw[rho2,if_neg]
  rintro⟨c1,c2⟩
  rcases hi with hi|hi
  ·have:Nat.ble nm i=true:=by simpa using c1
   rw[this]at hi;cases hi
  ·have:Nat.blt i (nm+(outs.length-ns.length))=true:=by simpa using c2
   rw[this]at hi;cases hi
 have hkeep:∀(v:AV) (x:Value),RV C v x->v.refsIn (fun i => !(Nat.ble nm i&&Nat.blt i (nm+(outs.length-ns.length))))=true:=fun v x hv=>by
  refine AV.keep_has fun i hi=>?_
  simp only[Bool.not_eq_true',Bool.and_eq_false_iff]
  by_cases hc:nm<=i/\i<nm+(outs.length-ns.length)
  ·obtain⟨e1,_⟩:=hfresh i hc.1 (by omega)
   rw[AV.has,RV.unbound (h.unbound e1) v x hv]at hi;cases hi
  ·by_cases c1:nm<=i
   ·right;have:¬i<nm+(outs.length-ns.length):=fun e=>hc ⟨c1,e⟩
    exact Bool.eq_false_iff.2 fun e=>this (by simpa only[Nat.blt_eq]using e)
   ·left;exact Bool.eq_false_iff.2 fun e=>c1 (Nat.le_of_ble_eq_true e)
 have hkeepL:∀(vs:List AV) (xs:List Value),RVs C vs xs->AV.refsInL (fun i => !(Nat.ble nm i&&Nat.blt i (nm+(outs.length-ns.length)))) vs=true:=fun vs=>by
  induction vs with
  |nil=>intro _ _;rfl
  |cons v vs ih=>intro xs hv;simp only[RVs]at hv;obtain⟨x,xs',rfl,h1,h2⟩:=hv;simp only[AV.refsInL,Bool.and_eq_true];exact⟨hkeep v x h1,ih xs' h2⟩
 have hTm:∀b,blksOf C ns ins b->C.T b/\Mem C.w b:=fun b ⟨j,hj,hb⟩=>by
  have:(s.sg.getD (ns.getD j 0) .fresh).blk (C.rho (ns.getD j 0))=some b:=by
   rw[(handed_sg hlen hh hlive hj).1,Res.mv_blk,<- hos0 j hj];exact hb
  exact⟨(Res.blk_lt (h.sg _) this).1,(Res.blk_lt (h.sg _) this).2.2⟩
 have hbook:∀(b:Nat) (o:Obj),C.T b->C.w.heap[b]?=some o->isMem o=false->w'.heap[b]?=some o:=fun b o hbT hb ho=>by
  rw[hsame b (Array.getElem?_eq_some_iff.1 hb).1 (.inr ⟨hbT,fun hc=>?_⟩)];·exact hb
  obtain⟨o2,h1,h2⟩:=(hTm b hc).2
  rw[hb]at h1;cases h1;rw[ho]at h2;cases h2
 refine⟨⟨h.size,fun d v hd=>?_,fun i=>?_,fun i j b hi hj=>?_,fun b hb=>?_,fun b hb=>hi1 b (h.imm0 b hb),fun b hb=>?_,hK,?_,fun l hl'=>?_,⟨fun i o hi ho=>?_,hl2.trans h.pin.2.1,hlh⟩⟩,hrho⟩
 ·have hv:=h.tm d v hd
  exact RV.later hl v _ (hkeep v _ hv) hv
 ·rcases hget i with⟨j,h1,h2,h3⟩|⟨h1,h2⟩
  ·show ResOk _ _ (rho2 C ns nm outs.length os' i)
   rw[h3,<- h2,hrho j h1]
   exact hup j h1 hrho
  ·show ResOk _ _ (rho2 C ns nm outs.length os' i)
   rw[h2,hold i h1]
   refine ResOk.later hl hT2 (h.sg i) ?_ fun b hb=>⟨?_,fun hi=>?_⟩
   ·have hs:=h.sg i
    cases hr:s.sg.getD i .fresh with
    |box ice cs=>rw[hr]at hs;obtain⟨_,vs,_,_,_,_,h3,_⟩:=hs;exact hkeepL cs vs h3
    |mpo ks us=>rw[hr]at hs;obtain⟨_,es,_,_,_,_,_,h3,_⟩:=hs;exact hkeepL us _ h3
    |_=>rfl
   ·exact hsame b (Res.blk_lt (h.sg i) hb).2.1 (.inr ⟨(Res.blk_lt (h.sg i) hb).1,hnt i b h1 hb⟩)
   ·exact((hi2 b hi).1).resolve_right (hnT' i b h1 hb)
 ·rcases hget i with⟨i',h1,h2,h3⟩|⟨h1,h2⟩<;>rcases hget j with⟨j',k1,k2,k3⟩|⟨k1,k2⟩
  ·have e1:((setL s.sg (bigL (pick ns nm) 0 outs)).getD i .fresh).blk (rho2 C ns nm outs.length os' i)=some b:=hi
   have e2:((setL s.sg (bigL (pick ns nm) 0 outs)).getD j .fresh).blk (rho2 C ns nm outs.length os' j)=some b:=hj
   rw[h3,Res.mv_blk,<- h2,hrho i' h1]at e1
   rw[k3,Res.mv_blk,<- k2,hrho j' k1]at e2
   rw[<- h2,<- k2,hP.dis i' j' b e1 e2]
  ·have e1:((setL s.sg (bigL (pick ns nm) 0 outs)).getD i .fresh).blk (rho2 C ns nm outs.length os' i)=some b:=hi
   have e2:((setL s.sg (bigL (pick ns nm) 0 outs)).getD j .fresh).blk (rho2 C ns nm outs.length os' j)=some b:=hj
   rw[h3,Res.mv_blk,<- h2,hrho i' h1]at e1
   rw[k2,hold j k1]at e2
   exact absurd (Res.blk_lt (hP.sg i') e1).1 (hnT' j b k1 e2)
  ·have e1:((setL s.sg (bigL (pick ns nm) 0 outs)).getD i .fresh).blk (rho2 C ns nm outs.length os' i)=some b:=hi
   have e2:((setL s.sg (bigL (pick ns nm) 0 outs)).getD j .fresh).blk (rho2 C ns nm outs.length os' j)=some b:=hj
   rw[k3,Res.mv_blk,<- k2,hrho j' k1]at e2
   rw[h2,hold i h1]at e1
   exact absurd (Res.blk_lt (hP.sg j') e2).1 (hnT' i b h1 e1)
  ·have e1:((setL s.sg (bigL (pick ns nm) 0 outs)).getD i .fresh).blk (rho2 C ns nm outs.length os' i)=some b:=hi
   have e2:((setL s.sg (bigL (pick ns nm) 0 outs)).getD j .fresh).blk (rho2 C ns nm outs.length os' j)=some b:=hj
   rw[h2,hold i h1]at e1
   rw[k2,hold j k1]at e2
   exact h.dis i j b e1 e2
 ·obtain⟨q1,q2⟩:=hi2 b hb
  refine⟨?_,q2⟩
  rcases q1 with q1|q1
  ·exact((h.imm b q1).1).imp id (hT2 b)
  ·exact .inr (hT2' b q1)
 ·exact hT2s b hb
 ·obtain⟨ds,h1,h2,h3⟩:=h.marks
  exact⟨ds,h1,h2,fun D hD=>⟨hT2 D (h3 D hD).1,hbook D _ (h3 D hD).1 (h3 D hD).2 rfl⟩⟩
 ·obtain⟨hT1,r,hr⟩:=h.round l hl'
  exact⟨hT2 l hT1,r,hbook l _ hT1 hr rfl⟩
 ·have h1:=h.pin.1 i o hi ho
  show rho2 C ns nm outs.length os' i=some o
  rw[rho2,if_neg];·exact h1
  rintro⟨c1,c2⟩
  obtain⟨e1,_⟩:=hfresh i c1 (by omega)
  rw[h.unbound e1]at h1;cases h1
theorem Rel.write(hX:SessOk X E)(h:Rel X C s a){ns:List Nat}{nm ct:Nat}{ins outs:List Res}{w':World}{imm imm' imm2 T':Nat->Prop}{os':Nat->Option Own}
  (hlen:ns.length=ins.length) (hnd:nodupN ns=true) (hh:handed s.sg (pick ns nm) 0 ins) (hlive:resLive ins=true) (hfr:freshN s.sg nm ct=true) (hle:ns.length<=outs.length) (hle2:outs.length<=ns.length+ct)
  (hP:Part imm' T' w' os' C.l.l outs) (hos:∀i o,osOf C ns i=some o->os' i=some o) (hwr:Wr imm (blksOf C ns ins) C.w w') (hT1:∀b,blksOf C ns ins b->T' b) (hT':∀b,T' b->blksOf C ns ins b\/(C.w.heap.size<=b/\b<w'.heap.size))
  (himm:∀b,C.imm b->imm b) (hi1:∀b,C.imm b->imm2 b) (hi2:∀b,imm2 b->(C.imm b\/T' b)/\Mem w' b)
  (hup:∀j,j<outs.length->(∀i,i<outs.length->rho2 C ns nm outs.length os' (pick ns nm i)=os' i)->ResOk ⟨imm2,newB C.w w' C.T,rho2 C ns nm outs.length os',w',C.l⟩ ((outs.getD j .fresh).mv (pick ns nm)) (os' j)) :
  Rel X ⟨imm2,newB C.w w' C.T,rho2 C ns nm outs.length os',w',C.l⟩ { s with sg:=setL s.sg (bigL (pick ns nm) 0 outs) } a/\∀i,i<outs.length->rho2 C ns nm outs.length os' (pick ns nm i)=os' i:=by
 obtain⟨bs,hbs⟩:=blks_list (C:=C) ns ins
 have hos0:∀j,j<ns.length->osOf C ns j=C.rho (ns.getD j 0):=fun j hj=>by simp[osOf,hj]
 have hTm:∀b,blksOf C ns ins b->C.T b/\Mem C.w b:=fun b ⟨j,hj,hb⟩=>by
  have:(s.sg.getD (ns.getD j 0) .fresh).blk (C.rho (ns.getD j 0))=some b:=by
   rw[(handed_sg hlen hh hlive hj).1,Res.mv_blk,<- hos0 j hj];exact hb
  exact⟨(Res.blk_lt (h.sg _) this).1,(Res.blk_lt (h.sg _) this).2.2⟩
 exact h.writeG (k':=s.gh.k) (st':=s.gh.st) hlen hnd hh hlive hfr hle hle2 hP hos (fun b hb hc=>hwr.same b hb (hc.imp (himm b) (·.2))) hT1 hT' hi1 hi2 rfl (fun b hb=>hi1 b (h.pin.2.2 b hb)) (fun b hb=>.inl hb)
  (fun b hb=>(hT' b hb).imp (fun q=>(hTm b q).1) id) (fun b hb=>hb.elim (fun q=>Nat.lt_of_lt_of_le (h.T b q) hwr.size) (·.2)) (keep_wr hX h.keep hwr hTm (fun b hb=>himm b (h.imm0 b hb)) (fun b hb=>himm b (h.pin.2.2 b hb)) bs hbs) hup
theorem Rel.kill1(h:Rel X C s a){i:Nat}(hr:s.sg.getD i .fresh ≠ .fresh) :
  Rel X C { s with sg:=s.sg.set i .dead } a/\∀j,((s.sg.set i .dead).getD j .fresh).blk (C.rho j)=if j=i then none else(s.sg.getD j .fresh).blk (C.rho j):=by
 have hi:i<s.sg.length:=getD_lt hr
 have hupd:upd C.rho i (C.rho i)=C.rho:=by funext j;unfold upd;split<;>simp_all
 have:=h.update i hi .dead (C.rho i) C.w C.T s.tm (fun _=>true) (fun b hb=>hb) h.T h.keep (fun o ho=>ho) (fun k o hk _=>hk) (fun _ _ _=>rfl) (fun _ _ _=>rfl) (by
  have hs:=h.sg i
  intro x hx
  rw[hx]at hs
  cases hq:s.sg.getD i .fresh with
  |fresh=>exact absurd hq hr
  |dead=>rw[hq]at hs;exact hs x rfl
  |box ice cs=>rw[hq]at hs;obtain⟨b,vs,el,ho,_⟩:=hs;cases ho;rfl
  |row ice el sz es=>
   rw[hq]at hs
   obtain⟨b,v,xs,ho,hw,_⟩:=hs
   cases ho
   rcases hw.2 with⟨e,_⟩|⟨g,cap,cur,e,_⟩<;>(show v.oneCell'=true;rw[e];rfl)
  |mp ice ks us=>rw[hq]at hs;obtain⟨b,es,ho,_⟩:=hs;cases ho;rfl
  |mpo ks us=>rw[hq]at hs;obtain⟨b,es,ho,_⟩:=hs;cases ho;rfl
  |itr ks us seen last=>rw[hq]at hs;obtain⟨b,m,ho,_⟩:=hs;cases ho;rfl) (fun k hk=>by simp[Res.blk]at hk) (fun d v hd=>⟨hd,AV.refsIn_all (fun _=>rfl) v⟩) (fun j _=>AV.refsInL_all (fun _=>rfl) _)
 rw[hupd]at this
 refine⟨this,fun j=>?_⟩
 rw[getD_set _ _ _ _ _ hi]
 split<;>rfl
theorem Rel.killN{X:Sess}{C:Ctx}{a:Act}:∀(ns:List Nat) {s:St},Rel X C s a->(∀i∈ns,s.sg.getD i .fresh ≠ .fresh) ->
  Rel X C { s with sg:=setL s.sg (deadL ns) } a/\∀j,((setL s.sg (deadL ns)).getD j .fresh).blk (C.rho j)=if j∈ns then none else(s.sg.getD j .fresh).blk (C.rho j)
 | [],s,h,_=>⟨h,fun j=>by simp[deadL,setL]⟩
 |i::ns,s,h,hr=>by
  obtain⟨k1,k2⟩:=h.kill1 (hr i (by simp))
  have hi:i<s.sg.length:=getD_lt (hr i (by simp))
  obtain⟨m1,m2⟩:=Rel.killN ns k1 (fun j hj=>by
   simp only;rw[getD_set _ _ _ _ _ hi]
   split
   ·simp
   ·exact hr j (by simp[hj]))
  refine⟨m1,fun j=>?_⟩
  have:=m2 j
  simp only[deadL,setL]
  rw[this,k2 j]
  by_cases hj:j=i
  ·subst hj;simp
  ·simp[hj]
theorem lendA_ok{X:Sess}{C:Ctx}{s:St}{a:Act}(h:Rel X C s a){C0:Ctx}{π : Nat->Nat}{k:Nat}(hll:C0.l.l=C.l.l)(hp:Pers C.imm C0.imm C.w C0.w)(hi:C0.imm=immAll C s)(hw:C0.w=C.w)(hr:∀i,i<k->C0.rho i=C.rho (π i)):∀(as bs:List AV) (xs:List Value),lendA s.sg π k as bs->RVs C as xs->RVs C0 bs xs
 | [],[],xs,_,hx=>by simpa only[RVs]using hx
 |a::as,b::bs,xs,hl,hx=>by
  simp only[lendA]at hl
  simp only[RVs]at hx⊢
  obtain⟨x,xs',rfl,h1,h2⟩:=hx
  refine⟨x,xs',rfl,?_,lendA_ok h hll hp hi hw hr as bs xs' hl.2 h2⟩
  rcases hl.1 with⟨e,hb⟩|hf
  ·rw[<- e]at h1;exact RV.down hll hp hr b x hb h1
  ·have:=frz_ok h 8 a x b hf h1
   rw[<- hi,<- hw]at this
   exact RV0.rv b x this
 | [],b::bs,xs,hl,_=>hl.elim
 |a::as,[],xs,hl,_=>hl.elim
variable {o:Oper} {next:Act->World->Prop} {Q:Exit->Act->World->Prop} {k:St->Prop}
theorem callwi_at(hX:SessOk X E)(hk:Nx X k next)(h:Rel X C s a)(hd:∀i,o.dst=some i->i<X.N){f:FuncId}{nm ct:Nat}{vs:List AV}{xs:List Value}{lend:Bool}(hop:∀c,o.op ≠ .defer c)(hrun:(execOp a.eval o).run X.P C.w = .ok (.enter f xs.toArray) C.w)(e1:RVs C vs xs)(hfr:freshN s.sg nm ct=true)
  (hE:CallWi X.P s.sg nm ct f vs (fun z r=>k (app o.dst s (.big z r))) lend):o.wpIn X.F X.n X.P a C.w next Q:=by
 obtain⟨ns,args',ins,R,h1,hlen,hnd,hh,hib,hlive,ha,hb,h2⟩:=hE.out
 have hos0:∀j,j<ns.length->osOf C ns j=C.rho (ns.getD j 0):=fun j hj=>by simp[osOf,hj]
 have hosp:∀j,j<ns.length->osOf C ns j=C.rho (pick ns nm j):=fun j hj=>by rw[pick_lt hj];exact hos0 j hj
 have hTm:∀b,blksOf C ns ins b->C.T b:=fun b ⟨j,hj,hb⟩=>by
  have:(s.sg.getD (ns.getD j 0) .fresh).blk (C.rho (ns.getD j 0))=some b:=by
   rw[(handed_sg hlen hh hlive hj).1,Res.mv_blk,<- hos0 j hj];exact hb
  exact(Res.blk_lt (h.sg _) this).1
 cases lend with
 |false=>
  obtain⟨ha1,ha2⟩:=ha rfl
  have hPt:=h.osOf_part hlen hnd hh hib hlive (imm:=C.imm) (fun b hb=>hb) (fun b _ hb=>hb)
  refine up_call hX hop hrun (h1 C.imm (blksOf C ns ins) C.w (osOf C ns) _ C.l.l (fun b hb=>(h.imm b hb).2) (fun b hb=>h.T b (hTm b hb)) (RVs.down (C:=C) (C0:=⟨C.imm,blksOf C ns ins,osOf C ns,C.w,lnl C.l.l⟩) (k:=ns.length) (π :=pick ns nm) rfl (fun b hb=>⟨hb,rfl⟩) (fun j hj=>hosp j hj) args' _ ha2 (by rw[ha1];exact e1)) hPt) fun e w' hbk=>?_
  obtain⟨v,r,outs,imm',T',os',rfl,hr,hv',hP',hos,hwr,hT1,hT2,hi1,hi2⟩:=hbk
  refine⟨v,rfl,?_⟩
  obtain⟨c1,c2,c3,c4,_,c5⟩:=h2 r outs hr
  obtain⟨hrel,hrho⟩:=h.write hX (imm2:=imm') hlen hnd hh hlive hfr c1 c2 hP' hos hwr hT1 hT2 (fun b hb=>hb) hi1 hi2 (fun j hj hrho=>by
   refine ResOk.up (k:=outs.length) (π :=pick ns nm) (C:=⟨imm',newB C.w w' C.T,rho2 C ns nm outs.length os',w',C.l⟩) (C0:=⟨imm',T',os',w',lnl C.l.l⟩) rfl rfl (fun b hb=>hb) (fun i hi=>hrho i hi) (resBelow_get c3 j hj) (fun b hb=>⟨?_,fun hb=>hb⟩) (hP'.sg j)
   rcases hT2 b (Res.blk_lt (hP'.sg j) hb).1 with q|q
   ·exact .inl (hTm b q)
   ·exact .inr q)
  have hval:=RV.up (C:=⟨imm',newB C.w w' C.T,rho2 C ns nm outs.length os',w',C.l⟩) (C0:=⟨imm',T',os',w',lnl C.l.l⟩) (k:=outs.length) (π :=pick ns nm) rfl (fun b hb=>⟨hb,rfl⟩) (fun i hi=>hrho i hi) r v c4 hv'
  exact hk _ _ _ (hrel.put hval o.dst hd) c5
 |true=>
  have hb1:=hb rfl
  obtain⟨hkl,hbl⟩:=Rel.killN ns (s:=s) h (fun i hi=>by
   obtain⟨j,hj,e⟩:=List.getElem_of_mem hi
   have e':ns.getD j 0=i:=by simp[List.getD_eq_getElem?_getD,hj,e]
   rw[<- e',(handed_sg hlen hh hlive hj).1]
   have:=(resLive_get hlive j (by omega)).1
   generalize ins.getD j .fresh=r at this
   cases r<;>simp[Res.mv]at this⊢)
  have hnotT:∀b,blksOf C ns ins b->immAll C { s with sg:=setL s.sg (deadL ns) } b->C.imm b:=fun b ⟨j,hj,hb⟩ hi=>by
   rcases hi with hi|⟨i,hi⟩
   ·exact hi
   ·rw[hbl]at hi
    split at hi
    ·cases hi
    ·rename_i hni
     have e:(s.sg.getD (ns.getD j 0) .fresh).blk (C.rho (ns.getD j 0))=some b:=by
      rw[(handed_sg hlen hh hlive hj).1,Res.mv_blk,<- hos0 j hj];exact hb
     have:=h.dis _ _ b hi e
     exact absurd (by rw[this,List.getD_eq_getElem?_getD,List.getElem?_eq_getElem hj];exact List.getElem_mem hj) hni
  have hPt:=h.osOf_part hlen hnd hh hib hlive (imm:=immAll C { s with sg:=setL s.sg (deadL ns) }) (fun b hb=>.inl hb) hnotT
  refine up_call hX hop hrun (h1 (immAll C { s with sg:=setL s.sg (deadL ns) }) (blksOf C ns ins) C.w (osOf C ns) _ C.l.l (immAll_cells hkl) (fun b hb=>h.T b (hTm b hb))
   (lendA_ok hkl (C0:=⟨immAll C { s with sg:=setL s.sg (deadL ns) },blksOf C ns ins,osOf C ns,C.w,lnl C.l.l⟩) (k:=ns.length) (π :=pick ns nm) rfl (fun b hb=>⟨.inl hb,rfl⟩) rfl rfl (fun j hj=>hosp j hj) _ args' _ hb1 e1) hPt) fun e w' hbk=>?_
  obtain⟨v,r,outs,imm',T',os',rfl,hr,hv',hP',hos,hwr,hT1,hT2,hi1,hi2⟩:=hbk
  refine⟨v,rfl,?_⟩
  obtain⟨c1,c2,c3,c4,c6,c5⟩:=h2 r outs hr
  obtain⟨c7,c8⟩:=c6 rfl
  have hsm:∀b,C.imm b->Mem w' b:=fun b hb=>(h.imm b hb).2.same (hwr.same b (h.imm b hb).2.lt (.inl (.inl hb)))
  obtain⟨hrel,hrho⟩:=h.write hX (imm2:=C.imm) hlen hnd hh hlive hfr c1 c2 hP' hos hwr hT1 hT2 (fun b hb=>.inl hb) (fun b hb=>hb) (fun b hb=>⟨.inl hb,hsm b hb⟩) (fun j hj hrho=>by
   refine ResOk.upf (k:=outs.length) (π :=pick ns nm) (C:=⟨C.imm,newB C.w w' C.T,rho2 C ns nm outs.length os',w',C.l⟩) (C0:=⟨imm',T',os',w',lnl C.l.l⟩) rfl rfl (fun i hi=>hrho i hi) (resFlat_get c7 j hj) (fun b hb=>⟨?_,fun hb=>hi1 b (.inl hb)⟩) (hP'.sg j)
   rcases hT2 b (Res.blk_lt (hP'.sg j) hb).1 with q|q
   ·exact .inl (hTm b q)
   ·exact .inr q)
  have hval:=RV.upf (C:=⟨C.imm,newB C.w w' C.T,rho2 C ns nm outs.length os',w',C.l⟩) (C0:=⟨imm',T',os',w',lnl C.l.l⟩) (k:=outs.length) (π :=pick ns nm) rfl (fun i hi=>hrho i hi) r v c8 hv'
  exact hk _ _ _ (hrel.put hval o.dst hd) c5
theorem wk1_ok(h:Rel X C s a){v:AV}{x:Value}(hx:RV C v x):RV C (v.wk1 s.sg) x:=by
 unfold AV.wk1
 split
 ·rename_i i
  split
  ·rename_i ice ks us hr
   simp only[RV]at hx⊢
   obtain⟨o,ho,rfl⟩:=hx
   have:=h.sg i
   rw[hr]at this
   obtain⟨b,es,e,_⟩:=this
   rw[ho]at e;cases e;rfl
  ·exact hx
 ·exact hx
theorem wkM_ok(h:Rel X C s a):∀ {vs:List AV} {xs:List Value},RVs C vs xs->RVs C (wkM s.sg vs) xs
 | [],xs,hx=>hx
 |v::vs,xs,hx=>by
  simp only[RVs,wkM]at hx⊢
  obtain⟨y,ys,rfl,h1,h2⟩:=hx
  exact⟨y,ys,rfl,wk1_ok h h1,wkM_ok h h2⟩
theorem wkL_ok(h:Rel X C s a):∀ {vs:List AV} {xs:List Value},RVs C vs xs->RVs C (wkL s.sg vs) xs
 | [],xs,hx=>hx
 |v::vs,xs,hx=>by
  simp only[RVs,wkL]at hx⊢
  obtain⟨y,ys,rfl,h1,h2⟩:=hx
  refine⟨y,ys,rfl,?_,wkL_ok h h2⟩
  unfold AV.wk
  split
  ·simp only[RV]at h1⊢
   obtain⟨us,e,h3⟩:=h1
   exact⟨us,e,wkM_ok h h3⟩
  ·exact h1
theorem callw_ok(hX:SessOk X E)(hk:Nx X k next)(h:Rel X C s a)(hd:∀i,o.dst=some i->i<X.N){c:Call}{f:FuncId}{nm ct:Nat}{ps:List Opd}(hop:o.op = .call c)(hc:c.callee = .value (.func f))(hf:bodied X.P f=true)(hp:opds c.args.toList=some ps)
  (hE:evO E o.dst (.callw nm ct f ps) s k):o.wpIn X.F X.n X.P a C.w next Q:=by
 simp only[evO,evX]at hE
 split at hE
 ·rename_i vs hv
  split at hE
  ·rename_i hfr
   rcases hE with hE|⟨args',R,h1,h2,h3⟩|⟨args',R,h2,h3,h4⟩|⟨lend,hE⟩|hE
   ·refine callz_ok hX hk h hd hop hc hf hp (nm:=nm) (ct:=ct) (ne:=[]) ?_
    simp only[evO,evX,hv,neOkL]
    rw[if_pos ⟨trivial,hfr⟩];exact hE
   ·refine call_ok hX hk h hd hop hc hf hp ?_
    simp only[evO,evX,hv]
    refine .inr ⟨args',R,h1,h2,fun r hr=>⟨(h3 r hr).1,?_⟩⟩
    have:=(h3 r hr).2
    have e:app o.dst s (.big [] r)=app o.dst s (.val r):=by cases o.dst<;>rfl
    show k (app o.dst s (.val r))
    rw[<- e];exact this
   ·have e1:=evl_ok h hp hv
    have hargs:c.args.map a.eval=(c.args.toList.map a.eval).toArray:=by apply Array.ext';simp
    have hrun:(execOp a.eval o).run X.P C.w = .ok (.enter f (c.args.toList.map a.eval).toArray) C.w:=by
     simp[execOp,hop,resolve,hc,Act.eval,Deferred.ofValue,invoke,callFunc_run hf,Sem.run_pure]
     exact hargs
    rw[<- hX.P]at h3
    refine up_call hX (fun c=>by simp[hop]) hrun (h3 (immAll C s) C.w _ (immAll_cells h) (FrzZ.lend h h2 e1)) fun e w' hb=>?_
    obtain⟨v,r,rows,imm',os,rfl,hr,hv,hoo,hO,hB,hi1⟩:=hb
    refine⟨v,rfl,?_⟩
    obtain⟨c1,c2,c3,c4⟩:=h4 r rows hr
    obtain⟨hrel,_⟩:=h.call w' C.imm hB (hX.kgrow _ _ _ _ _ _ h.keep hB) (fun b hb=>hb) (fun b hb=>.inl hb)
    have hO':=OwnRows.other (imm2:=C.imm) c2 (fun b hb=>(h.imm b hb).2.lt) hO
    have hfr:∀j,j<rows.length->s.sg.getD (nm+j) .dead = .fresh:=fun j hj=>freshN_iff.1 hfr j (Nat.lt_of_lt_of_le hj (rowsB_ok c1).1)
    obtain⟨rho',hN,hrho,hpos⟩:=hrel.nameRows (os:=os) rows nm hfr (B:=C.w.heap.size) hO' (fun b hb1 hb2=>.inr ⟨hb1,hb2⟩) (fun p hp o ho b hb j hj=>by
     obtain⟨hlt,_⟩:=OwnRows.blk hO p hp o ho b hb
     have:=(Res.blk_lt (h.sg j) hj).2.1
     exact absurd this (by omega))
    have hv2:RV ⟨C.imm,fun _=>False,os,w',ln0⟩ r v:=RV.flatR (C:=⟨imm',fun _=>False,os,w',ln0⟩) (C':=⟨C.imm,fun _=>False,os,w',ln0⟩) rfl r v c3 hv
    have hval:RV ⟨C.imm,newB C.w w' C.T,rho',w',C.l⟩ (r.rnr (posN rows nm)) v:=RV.rnr (C0:=⟨C.imm,fun _=>False,os,w',ln0⟩) (C':=⟨C.imm,newB C.w w' C.T,rho',w',C.l⟩) (ns:=fstN rows) (π :=posN rows nm) hpos rfl rfl r v hoo hv2
    have:=hN.put hval o.dst hd
    exact hk _ _ _ this c4
   ·have e1:=evl_ok h hp hv
    have hargs:c.args.map a.eval=(c.args.toList.map a.eval).toArray:=by apply Array.ext';simp
    have hrun:(execOp a.eval o).run X.P C.w = .ok (.enter f (c.args.toList.map a.eval).toArray) C.w:=by
     simp[execOp,hop,resolve,hc,Act.eval,Deferred.ofValue,invoke,callFunc_run hf,Sem.run_pure]
     exact hargs
    rw[<- hX.P]at hE
    exact callwi_at hX hk h hd (fun c=>by simp[hop]) hrun e1 hfr hE
   ·have e1:=evl_ok h hp hv
    have hargs:c.args.map a.eval=(c.args.toList.map a.eval).toArray:=by apply Array.ext';simp
    have hrun:(execOp a.eval o).run X.P C.w = .ok (.enter f (c.args.toList.map a.eval).toArray) C.w:=by
     simp[execOp,hop,resolve,hc,Act.eval,Deferred.ofValue,invoke,callFunc_run hf,Sem.run_pure]
     exact hargs
    rw[<- hX.P]at hE
    exact callz_at hX hk h hd (fun c=>by simp[hop]) hrun (wkL_ok h e1) hfr hE
  ·exact hE.elim
 ·exact hE.elim
theorem YieldAt.wide{P:Program}{l n m:Nat}{xs:Array Value}{w:World}{R:Ending->World->Prop}(h:YieldAt Fence.wide n P l xs w R):YieldAt Fence.wide m P l xs w R:=by
 obtain⟨fn,tmps,as,bd,h1,h2,h3⟩:=h
 exact⟨fn,tmps,as,bd,h1,h2,fun c cs hr=>h3 c cs (room_wide _)⟩
theorem YieldAt.mono'{P:Program}{l n:Nat}{xs:Array Value}{w:World}{R R':Ending->World->Prop}(h:YieldAt Fence.wide n P l xs w R)(hm:∀e w',R e w'->R' e w'):YieldAt Fence.wide n P l xs w R':=by
 obtain⟨fn,tmps,as,bd,h1,h2⟩:=h
 exact⟨fn,tmps,as,bd,h1,h2.mono hm⟩
theorem yldl_at(hX:SessOk X E)(hk:Nx X k next)(h:Rel X C s a)(hd:∀i,o.dst=some i->i<X.N){c:Call}{g:Operand}{vs:List AV}(hop:o.op = .call c)(hc:c.callee = .value g)(hg:a.eval g = .func (.yield C.l.l) #[] #[])(he:RVs C vs (c.args.toList.map a.eval))
  (hE:YldL E s.sg s.gh vs fun g r=>k (app o.dst s (.ylz [] g r))):o.wpIn X.F X.n X.P a C.w next Q:=by
 obtain⟨h0,i,el,sz,es,k',rfl,hr,hf,hlx,h3,h4⟩:=hE.out
 obtain⟨hf',hi⟩:=getD_dead hr (by simp)
 have hs:=h.sg i
 rw[hf']at hs
 obtain⟨b0,v,xs,ho,hown,hrv,hlen,hblk⟩:=hs
 have hargs:c.args.map a.eval = #[v]:=by
  simp only[RVs,RV]at he
  obtain⟨x,xs1,hx,⟨ow,ho',e⟩,e1⟩:=he
  rw[ho]at ho';cases ho'
  rw[e,e1]at hx
  have:c.args.map a.eval=(c.args.toList.map a.eval).toArray:=by apply Array.ext';simp
  rw[this,hx]
 have hlb:∀b,v.ownBlock=some b->C.T b/\¬C.imm b/\Mem C.w b:=fun b hb=>by
  have hb':(s.sg.getD i .fresh).blk (C.rho i)=some b:=by rw[hf',ho];exact hb
  obtain⟨q1,q2,_,q4⟩:=hblk b hb
  subst q1
  exact⟨q2,q4 rfl,(Res.blk_lt (h.sg i) hb').2.2⟩
 have hk':=h.keep
 rw[h0]at hk'
 have hy:=hX.klend _ _ _ _ _ el sz es v xs hk' h.T hlx hf hown (RV0s.flatL hf hrv) hlen (fun b hb=>⟨(hlb b hb).1,fun hq=>(hlb b hb).2.1 (h.imm0 b hq),fun hq=>(hlb b hb).2.1 (h.pin.2.2 b hq)⟩)
 rw[<- h.pin.2.1]at hy
 obtain⟨fn,tmps,assign,body,hy1,hy2⟩:=hy
 refine⟨fun f _=>hX.fn f,?_⟩
 have hrun:(execOp a.eval o).run X.P C.w = .ok (.round C.l.l fn tmps assign body) C.w:=by
  simp[execOp,hop,resolve,hc,hg,Deferred.ofValue,invoke]
  rw[hargs];exact hy1
 rw[Oper.semAt_eq X.F.round a.eval o (fun c=>by simp[hop]),hrun]
 have hd':X.F.depth=none:=by rcases hX.wide with e|⟨l,e⟩<;>rw[e]<;>rfl
 refine⟨fun e=>absurd e (by rw[hd'];simp),?_⟩
 have hy3:∀R,RoundIn Fence.wide (X.n-1) X.P C.l.l fn tmps assign body C.w R->RoundIn X.F (X.n-1) X.P C.l.l fn tmps assign body C.w R:=fun R hq=>by
  rcases hX.wide with e|⟨l,e⟩<;>rw[e]<;>exact hq
 refine(hy3 _ hy2).mono fun e w' hr=>?_
 obtain⟨b,S',xs',rfl,hK,hS,hown',hrv'⟩:=hr
 have hne:∀b',C.imm b'->v.ownBlock≠some b':=fun b' hb' e=>(hlb b' e).2.1 hb'
 have hl:Later (fun _=>true) C ⟨C.imm,C.T,C.rho,w',⟨C.l.l,S'⟩⟩:=⟨fun b' hb'=>⟨hb',by
  obtain⟨q,hh⟩:=h.imm b' hb'
  exact hS.same b' hh.lt (hne b' hb') (.inl q)⟩,fun _ _=>rfl,rfl⟩
 have hT:∀b',C.T b'->v.ownBlock≠some b'->w'.heap[b']?=C.w.heap[b']?:=fun b' hb' hn=>hS.same b' (h.T b' hb') hn (.inl (.inr hb'))
 have hrel:Rel X ⟨C.imm,C.T,C.rho,w',⟨C.l.l,S'⟩⟩ { s with gh:=⟨s.gh.p,k',!b⟩ } a:=by
  refine⟨h.size,fun d v hdv=>RV.later hl v _ (AV.refsIn_all (fun _=>rfl) v) (h.tm d v hdv),fun j=>?_,h.dis,fun b' hb'=>?_,h.imm0,fun b' hb'=>Nat.lt_of_lt_of_le (h.T b' hb') hS.size,hK,?_,fun l hl'=>?_,⟨h.pin.1,h.pin.2.1,fun b' hb'=>?_⟩⟩
  ·by_cases hj:j=i
   ·subst hj
    show ResOk _ (s.sg.getD j .fresh) (C.rho j)
    rw[hf',ho]
    exact⟨b0,v,xs',rfl,hown',RV0s.flatL hf hrv',hlen,hblk⟩
   ·exact ResOk.later hl (fun _ hb'=>hb') (h.sg j) (AV.refsInL_all (fun _=>rfl) _) fun b' hb'=>⟨hT b' (Res.blk_lt (h.sg j) hb').1 fun e=>hj (h.dis j i b' hb' (by rw[hf',ho];exact e)),id⟩
  ·obtain⟨q1,q2⟩:=h.imm b' hb'
   exact⟨q1,q2.same (hl.pers b' hb').2⟩
  ·obtain⟨ds,h1,h2,h3⟩:=h.marks
   refine⟨ds,h1,h2,fun D hD=>⟨(h3 D hD).1,(hT D (h3 D hD).1 fun e=>?_).trans (h3 D hD).2⟩⟩
   obtain⟨o',q1,q2⟩:=(hlb D e).2.2
   rw[(h3 D hD).2]at q1;cases q1;cases q2
  ·obtain⟨hT1,r,hr⟩:=h.round l hl'
   refine⟨hT1,r,(hT l hT1 fun e=>?_).trans hr⟩
   obtain⟨o',q1,q2⟩:=(hlb l e).2.2
   rw[hr]at q1;cases q1;cases q2
  ·exact h.pin.2.2 b' (hS.hnew b' hb')
 cases b with
 |true=>exact hk _ _ _ (hrel.put (by simp only[RV]) o.dst hd) h3
 |false=>exact hk _ _ _ (hrel.put (by simp only[RV]) o.dst hd) h4
theorem keep_reachT(hX:SessOk X E){T1 T imm:Nat->Prop}{S:Wt}{k n:Nat}{st:Bool}{w w':World}(hK:X.Keep T S k st w)(hT:∀b,T b->b<w.heap.size)(hr:ReachT n T1 imm (fun b=>S.s b\/S.h b) w w')(h1:∀b,T1 b->T b/\Mem w b)
  (hn:∀b,T b->b<n) (hlo:X.lo<=n) (h0:∀b,X.imm0 b->imm b) (bs:List Nat) (hbs:∀b,T1 b->b∈bs):X.Keep T S k st w':=by
 have key:∀(bs:List Nat) (wc:World),wc={ w with heap:=wc.heap }->wc.heap.size=w.heap.size->(∀b,wc.heap[b]?=w.heap[b]?\/(T1 b/\wc.heap[b]?=w'.heap[b]?))->(∀b,T1 b->b∈bs\/wc.heap[b]?=w'.heap[b]?)->X.Keep T S k st wc->X.Keep T S k st w':=by
  intro bs
  induction bs with
  |nil=>
   intro wc e1 e2 e3 e4 hk
   refine hX.kreach _ _ _ _ _ _ hk (fun b hb=>by rw[e2];exact hT b hb) ⟨?_,?_,?_,by rw[e2];exact hr.size,fun b hb hc=>?_⟩
   ·rw[e1];exact hr.os
   ·rw[e1];exact hr.tape
   ·rw[e1];exact hr.output
   ·by_cases ht:T1 b
    ·exact((e4 b ht).resolve_left (by simp)).symm
    ·rw[(e3 b).resolve_right fun q=>ht q.1]
     rw[e2]at hb
     refine hr.same b hb ?_
     rcases hc with hc|hc|hc
     ·exact .inl ⟨by omega, .inl ht⟩
     ·exact .inl ⟨hn b hc, .inl ht⟩
     ·exact .inr hc
  |cons b bs ih=>
   intro wc e1 e2 e3 e4 hk
   by_cases hc:T1 b/\¬imm b/\¬S.h b
   ·obtain⟨c1,c2,c3⟩:=hc
    obtain⟨hTb,hm⟩:=h1 b c1
    have hlt:b<w.heap.size:=hm.lt
    have hlt':b<w'.heap.size:=Nat.lt_of_lt_of_le hlt hr.size
    have hltc:b<wc.heap.size:=by omega
    have hother:∀b',b'≠b->(wc.heap.setIfInBounds b (w'.heap[b]))[b']?=wc.heap[b']?:=fun b' hne=>by
     rw[Array.getElem?_setIfInBounds_ne (Ne.symm hne)]
    have hset:(wc.heap.setIfInBounds b (w'.heap[b]))[b]?=w'.heap[b]?:=by
     rw[Array.getElem?_setIfInBounds_self];simp[hltc,hlt']
    have hm':Mem w' b:=hr.mem b c1 hm
    have hmc:Mem wc b:=by
     rcases e3 b with q|⟨_,q⟩
     ·exact hm.same q
     ·exact hm'.same q
    refine ih { wc with heap:=wc.heap.setIfInBounds b (w'.heap[b]) } (by rw[e1]) (by simp[e2]) (fun b'=>?_) (fun b' hb'=>?_) (hX.kset _ _ _ _ wc _ b hk hTb (fun hq=>c2 (h0 b hq)) c3 ⟨rfl,rfl,rfl,by simp,fun k hk=>hother k hk,hmc,hm'.same hset⟩)
    ·simp only
     by_cases e:b'=b
     ·subst e;exact .inr ⟨c1,hset⟩
     ·rw[hother b' e];exact e3 b'
    ·simp only
     by_cases e:b'=b
     ·subst e;exact .inr hset
     ·rw[hother b' e]
      exact(e4 b' hb').imp (fun q=>(List.mem_cons.1 q).resolve_left e) id
   ·refine ih wc e1 e2 e3 (fun b' hb'=>?_) hk
    rcases e4 b' hb' with q|q
    ·rcases List.mem_cons.1 q with q|q
     ·subst q
      have hlt:b'<w.heap.size:=(h1 b' hb').2.lt
      have e5:w'.heap[b']?=w.heap[b']?:=hr.same b' hlt (by
       by_cases c2:imm b'
       ·exact .inl ⟨hn b' (h1 b' hb').1, .inr c2⟩
       ·by_cases c3:S.h b'
        ·exact .inr (.inr c3)
        ·exact absurd ⟨hb',c2,c3⟩ hc)
      right
      rcases e3 b' with q|⟨_,q⟩
      ·exact q.trans e5.symm
      ·exact q
     ·exact .inl q
    ·exact .inr q
 exact key bs w rfl rfl (fun b=>.inl rfl) (fun b hb=>.inl (hbs b hb)) hK
theorem cally_at(hX:SessOk X E)(hk:Nx X k next)(h:Rel X C s a)(hd:∀i,o.dst=some i->i<X.N){f:FuncId}{vs:List AV}{xs:List Value}(hop:∀c,o.op ≠ .defer c)(hrun:(execOp a.eval o).run X.P C.w = .ok (.enter f xs.toArray) C.w)(e1:RVs C vs xs)(h0:s.gh.st=false)
  {ns:List Nat} {args':List AV} {ins:List Res} {R:AV->List Res->Nat->Bool->Prop} (h1:FnY X.P E.nx E.lx f args' ins s.gh.k R) (hlen:ns.length=ins.length) (hnd:nodupN ns=true) (hh:handed s.sg (pick ns 0) 0 ins) (hib:resBelow ns.length ins=true) (hlive:resLive ins=true)
  (ha1:AV.mvL (pick ns 0) args'=vs) (ha2:AV.blwL ns.length args'=true)
  (h2:∀r outs k' st',R r outs k' st'->outs.length=ns.length/\resBelow outs.length outs=true/\r.blw outs.length=true/\k (app o.dst s (.ylz (bigL (pick ns 0) 0 outs) ⟨s.gh.p,k',st'⟩ (r.mv (pick ns 0))))):o.wpIn X.F X.n X.P a C.w next Q:=by
 have hos0:∀j,j<ns.length->osOf C ns j=C.rho (ns.getD j 0):=fun j hj=>by simp[osOf,hj]
 have hosp:∀j,j<ns.length->osOf C ns j=C.rho (pick ns 0 j):=fun j hj=>by rw[pick_lt hj];exact hos0 j hj
 have hTm:∀b,blksOf C ns ins b->C.T b/\Mem C.w b:=fun b ⟨j,hj,hb⟩=>by
  have:(s.sg.getD (ns.getD j 0) .fresh).blk (C.rho (ns.getD j 0))=some b:=by
   rw[(handed_sg hlen hh hlive hj).1,Res.mv_blk,<- hos0 j hj];exact hb
  exact⟨(Res.blk_lt (h.sg _) this).1,(Res.blk_lt (h.sg _) this).2.2⟩
 obtain⟨bs,hbs⟩:=blks_list (C:=C) ns ins
 have hPt:=h.osOf_part hlen hnd hh hib hlive (imm:=C.imm) (fun b hb=>hb) (fun b _ hb=>hb)
 have hlo:X.lo<=C.w.heap.size:=hX.klo _ _ _ _ _ h.keep
 have hkeep:=h.keep
 rw[h0]at hkeep
 have himm:∀b,C.imm b->X.imm0 b\/C.T b:=fun b hb=>(h.imm b hb).1
 have himmM:∀b,C.imm b->b<C.w.heap.size:=fun b hb=>(h.imm b hb).2.lt
 let J:Nat->Bool->Wt->World->Prop:=fun k st S w1=>X.Keep C.T S k st w1/\(∀b,blksOf C ns ins b->Mem w1 b)/\C.w.heap.size<=w1.heap.size
 have hdrop:∀Qn:Nat->Prop,(∀b,Qn b->C.w.heap.size<=b)->(fun b=>(C.T b\/Qn b)/\¬Qn b)=C.T:=fun Qn hq=>by
  funext b
  refine propext ⟨fun hb=>hb.1.resolve_right hb.2,fun hb=>⟨.inl hb,fun q=>?_⟩⟩
  have:=hq b q;have:=h.T b hb;omega
 have hJ:JOk X.P E.nx E.lx C.imm (blksOf C ns ins) C.w.heap.size C.l.l J:=by
  refine⟨fun k st S w1 hj b hb=>?_,fun k st S w1 w2 hj hr=>?_,fun k k' S w1 y xs Q hj hSQ hQ hn hv=>?_,fun k k' S w1 el sz es v xs hj hn hfl hown hv hlen hlb=>?_⟩
  ·obtain⟨q1,q2⟩:=hX.kS _ _ _ _ _ hj.1
   exact hb.elim (fun q=>(q1 b q).1) (q2 b)
  ·refine⟨keep_reachT hX hj.1 (fun b hb=>Nat.lt_of_lt_of_le (h.T b hb) hj.2.2) hr (fun b hb=>⟨(hTm b hb).1,hj.2.1 b hb⟩) h.T hlo (fun b hb=>h.imm0 b hb) bs hbs,fun b hb=>hr.mem b hb (hj.2.1 b hb),Nat.le_trans hj.2.2 hr.size⟩
  ·have hQn:∀b,Q b/\C.w.heap.size<=b->¬S.s b:=fun b hb=>by
    rcases(hQ b hb.1).1 with q|q|q
    ·have:=himmM b q;omega
    ·have:=(hTm b q).2.lt;omega
    ·exact q.2
   have hK:=hX.kadd _ _ _ _ _ (fun b=>Q b/\C.w.heap.size<=b) hj.1 fun b hb=>⟨Nat.le_trans hlo hb.2,(hQ b hb.1).2.lt,hQn b hb⟩
   have hy:=hX.kyield _ _ _ _ _ _ _ Q hK (fun b hb=>hb.elim (fun q=>Nat.lt_of_lt_of_le (h.T b q) hj.2.2) fun q=>(hQ b q.1).2.lt) hSQ (fun b hb=>⟨by
    rcases(hQ b hb).1 with q|q|q
    ·exact(himm b q).imp id .inl
    ·exact .inr (.inl (hTm b q).1)
    ·exact .inr (.inr ⟨hb,q.1⟩),(hQ b hb).2⟩) hn hv
   rw[<- h.pin.2.1]at hy
   refine YieldAt.mono' (YieldAt.wide (m:=4) hy) fun e w2 hr=>?_
   obtain⟨b,S',e1,e2,e3⟩:=hr
   have hK2:=hX.kdrop _ _ _ _ _ (fun b=>Q b/\C.w.heap.size<=b) e2 fun b hb=>Nat.le_trans hlo hb.2
   rw[hdrop _ fun b hb=>hb.2]at hK2
   exact⟨b,S',e1,⟨hK2,fun b' hb'=>(hj.2.1 b' hb').same (e3.same b' (hj.2.1 b' hb').lt (.inl (.inr (.inl (hTm b' hb').1)))),Nat.le_trans hj.2.2 e3.size⟩,⟨e3.os,e3.tape,e3.output,e3.size,fun b' hb' hc=>e3.same b' hb' (hc.imp (fun q=>(himm b' q).imp id .inl) id),e3.sub,e3.new,e3.hsub,e3.hnew⟩⟩
  ·have hlt:∀b,v.ownBlock=some b->b<w1.heap.size:=fun b hb=>(hown.lt b hb).2
   have hK:=hX.kadd _ _ _ _ _ (fun b=>v.ownBlock=some b/\C.w.heap.size<=b) hj.1 fun b hb=>⟨Nat.le_trans hlo hb.2,hlt b hb.1,(hlb b hb.1).2.2.1⟩
   have hy:=hX.klend _ _ _ _ _ el sz es v xs hK (fun b hb=>hb.elim (fun q=>Nat.lt_of_lt_of_le (h.T b q) hj.2.2) fun q=>hlt b q.1) hn hfl hown hv hlen (fun b hb=>⟨(hlb b hb).1.elim (fun q=>.inl (hTm b q).1) fun q=>.inr ⟨hb,q⟩,fun q=>(hlb b hb).2.1 (h.imm0 b q),(hlb b hb).2.2.2⟩)
   rw[<- h.pin.2.1]at hy
   refine YieldAt.mono' (YieldAt.wide (m:=4) hy) fun e w2 hr=>?_
   obtain⟨b,S',xs',e1,e2,e3,e4,e5⟩:=hr
   have hK2:=hX.kdrop _ _ _ _ _ (fun b=>v.ownBlock=some b/\C.w.heap.size<=b) e2 fun b hb=>Nat.le_trans hlo hb.2
   rw[hdrop _ fun b hb=>hb.2]at hK2
   refine⟨b,S',xs',e1,⟨hK2,fun b' hb'=>?_,Nat.le_trans hj.2.2 e3.size⟩,⟨e3.os,e3.tape,e3.output,e3.size,fun b' hb' hne hc=>e3.same b' hb' hne (hc.imp (fun q=>(himm b' q).imp id .inl) id),e3.sub,e3.new,e3.hsub,e3.hnew⟩,e4,e5⟩
   by_cases hv':v.ownBlock=some b'
   ·rcases e4.2 with⟨e,_⟩|⟨g,cap,cur,e,_,hg,_⟩
    ·rw[e]at hv';cases hv'
    ·rw[e]at hv';simp[Value.ownBlock]at hv';subst hv';exact .of_cells hg
   ·exact(hj.2.1 b' hb').same (e3.same b' (hj.2.1 b' hb').lt hv' (.inl (.inr (.inl (hTm b' hb').1))))
 refine up_call hX hop hrun (h1 C.imm (blksOf C ns ins) C.w (osOf C ns) xs C.l.l J C.l.S (fun b hb=>(h.imm b hb).2) (fun b hb=>(hTm b hb).2)
  (RVs.down (C:=C) (C0:=⟨C.imm,blksOf C ns ins,osOf C ns,C.w,lnl C.l.l⟩) (k:=ns.length) (π :=pick ns 0) rfl (fun b hb=>⟨hb,rfl⟩) (fun j hj=>hosp j hj) args' xs ha2 (by rw[ha1];exact e1)) hPt h.pin.2.2 (fun b hb ht=>((hX.kS _ _ _ _ _ h.keep).1 b hb).2 (hTm b ht).1) hJ ⟨hkeep,fun b hb=>(hTm b hb).2,Nat.le_refl _⟩) fun e w' hbk=>?_
 obtain⟨v,r,outs,imm',T',os',k',st',S',rfl,hr,hv',hP',hos,hj',hwr,hT1,hT2,hi1,hi2,hSh⟩:=hbk
 refine⟨v,rfl,?_⟩
 obtain⟨c1,c3,c4,c5⟩:=h2 r outs k' st' hr
 have hK2:=hX.kadd _ _ _ _ _ (fun b=>T' b/\C.w.heap.size<=b) hj'.1 fun b hb=>by
  rcases hT2 b hb.1 with q|q
  ·have:=(hTm b q).2.lt;omega
  ·exact⟨Nat.le_trans hlo hb.2,q.2⟩
 have hT2':∀b,T' b->C.T b\/(T' b/\C.w.heap.size<=b):=fun b hb=>(hT2 b hb).imp (fun q=>(hTm b q).1) fun q=>⟨hb,q.1⟩
 obtain⟨hrel,hrho⟩:=h.writeG (nm:=0) (ct:=0) (imm2:=imm') (l2:=⟨C.l.l,S'⟩) (T2:=fun b=>C.T b\/(T' b/\C.w.heap.size<=b)) (k':=k') (st':=st') hlen hnd hh hlive rfl (by omega) (by omega) hP' hos
  (fun b hb hc=>hwr.same b hb (hc.imp id fun q=>⟨q.2,fun hs=>((hX.kS _ _ _ _ _ h.keep).1 b hs).2 q.1⟩)) hT1 (fun b hb=>(hT2 b hb).imp id fun q=>⟨q.1,q.2.1⟩) hi1 hi2 rfl hSh (fun b hb=>.inl hb) hT2'
  (fun b hb=>hb.elim (fun q=>Nat.lt_of_lt_of_le (h.T b q) hwr.size) fun q=>by
   rcases hT2 b q.1 with q'|q'
   ·have:=(hTm b q').2.lt;have:=hwr.size;omega
   ·exact q'.2.1) hK2 (fun j hj hrho=>ResOk.up (k:=outs.length) (π :=pick ns 0) (C:=⟨imm',fun b=>C.T b\/(T' b/\C.w.heap.size<=b),rho2 C ns 0 outs.length os',w',⟨C.l.l,S'⟩⟩) (C0:=⟨imm',T',os',w',lnl C.l.l⟩) rfl rfl (fun b hb=>hb) (fun i hi=>hrho i hi) (resBelow_get c3 j hj) (fun b hb=>⟨hT2' b (Res.blk_lt (hP'.sg j) hb).1,fun hb=>hb⟩) (hP'.sg j))
 have hval:=RV.up (C:=⟨imm',fun b=>C.T b\/(T' b/\C.w.heap.size<=b),rho2 C ns 0 outs.length os',w',⟨C.l.l,S'⟩⟩) (C0:=⟨imm',T',os',w',lnl C.l.l⟩) (k:=outs.length) (π :=pick ns 0) rfl (fun b hb=>⟨hb,rfl⟩) (fun i hi=>hrho i hi) r v c4 hv'
 exact hk _ _ _ (hrel.put hval o.dst hd) c5
theorem callx_ok(hX:SessOk X E)(hk:Nx X k next)(h:Rel X C s a)(hd:∀i,o.dst=some i->i<X.N){c:Call}{g:Operand}{pg:Opd}{ps:List Opd}(hop:o.op = .call c)(hc:c.callee = .value g)(hg:opd g=some pg)(hp:opds c.args.toList=some ps)
  (hE:evO E o.dst (.callx pg ps) s k):o.wpIn X.F X.n X.P a C.w next Q:=by
 simp only[evO,evX]at hE
 split at hE
 ·rename_i gv vs hgv hv
  have e1:=evl_ok h hp hv
  have e2:=ev_ok h hg hgv
  split at hE
  ·rename_i hyl
   have hyl':=hyl
   cases gv<;>simp only[isYld]at hyl<;>try cases hyl
   simp only[RV]at e2
   rcases hE with hE|hE
   rotate_left
   ·exact yldl_at hX hk h hd hop hc e2 e1 hE
   obtain⟨h0,v,z,k',h1,hz,h3,h4⟩:=hE
   rcases hz with⟨rfl,rfl,hf⟩|⟨hz,hf⟩
   ·exact yld_at hX hk h hd hop hc e2 (RV0s.mono (imm:=fun _=>False) (fun b hb=>hb.elim) _ _ (RVs.flat0 hf e1)) h0 h1 h3 h4
   ·have hI:=h.ice (reachL_iced vs z hz)
    have hv0:=FrzZ.ok h (.inl hf) hz e1
    exact yld_at (C:=⟨immZ C s z,C.T,C.rho,C.w,C.l⟩) (s:={ s with sg:=setL s.sg z }) hX hk hI hd hop hc e2 hv0 h0 h1 h3 h4
  ·rename_i hyl
   rcases hE with(hE|⟨f,caps,lend,rfl,hb,hE⟩)|hE
   ·refine callv_ok hX hk h hd hop hc hg hp ?_
    simp only[evO,evX,hgv,hv]
    have e:∀r,app o.dst s (.big [] r)=app o.dst s (.val r):=fun r=>by cases o.dst<;>rfl
    rw[hyl]
    rcases hE with⟨g',args',R,q0,q1,q2,q3,q4,q5⟩|⟨g',args',R,q2,q3,q4,q5⟩
    ·exact .inl ⟨g',args',R,q0,q1,q2,q3,q4,fun r hr=>by have:=q5 r hr;show k (app o.dst s (.val r));rw[<- e];exact this⟩
    ·exact .inr ⟨g',args',R,q2,q3,q4,fun r hr=>⟨(q5 r hr).1,by have:=(q5 r hr).2;show k (app o.dst s (.val r));rw[<- e];exact this⟩⟩
   ·simp only[RV]at e2
    obtain⟨cs,h4,h5⟩:=e2
    have hargs:c.args.map a.eval=(c.args.toList.map a.eval).toArray:=by apply Array.ext';simp
    rw[<- hX.P]at hb hE
    have hrun:(execOp a.eval o).run X.P C.w = .ok (.enter f (c.args.toList.map a.eval++cs).toArray) C.w:=by
     simp[execOp,hop,resolve,hc,h4,Deferred.ofValue,invoke,callFunc_run hb,Sem.run_pure]
    exact callwi_at hX hk h hd (fun c=>by simp[hop]) hrun (e1.append h5) rfl hE
   ·obtain⟨h0,f,caps,ns,args',ins,R,rfl,hb,h1,hlen,hnd,hh,hib,hlive,ha1,ha2,h2⟩:=hE.out
    simp only[RV]at e2
    obtain⟨cs,h4,h5⟩:=e2
    have hargs:c.args.map a.eval=(c.args.toList.map a.eval).toArray:=by apply Array.ext';simp
    rw[<- hX.P]at hb h1
    have hrun:(execOp a.eval o).run X.P C.w = .ok (.enter f (c.args.toList.map a.eval++cs).toArray) C.w:=by
     simp[execOp,hop,resolve,hc,h4,Deferred.ofValue,invoke,callFunc_run hb,Sem.run_pure]
    exact cally_at hX hk h hd (fun c=>by simp[hop]) hrun (e1.append h5) h0 h1 hlen hnd hh hib hlive ha1 ha2 h2
 ·exact hE.elim
theorem ldC_eq:∀(ag:Bool) (n:Nat) (cs:List AV),ldC1 ag n cs=evX.ldC ag n cs:=fun ag n cs=>by cases ag<;>rfl
theorem aidx_ok(hX:SessOk X E)(hk:Nx X k next)(h:Rel X C s a)(hd:∀i,o.dst=some i->i<X.N){t e:TypeId}{x y:Operand}{p q:Opd}{m n:Nat}{ag:Bool}(hop:o.op = .index t x y)(ht:X.P.underlying t=some (.array m e))(hag:aggOf X.P e=some ag)(hsz:szOf X.P e=some n)(hp:opd x=some p)(hq:opd y=some q)
  (hE:evO E o.dst (.aidx ag n m p q) s k):o.wpIn X.F X.n X.P a C.w next Q:=by
 simp only[evO,evX,app]at hE
 split at hE
 ·rename_i cs kd i h1 h2
  have e1:=ev_ok h hp h1
  have e2:=ev_ok h hq h2
  simp only[RV]at e1 e2
  obtain⟨vs,e1,hvs⟩:=e1
  obtain⟨v,h0,hlt,hl,hE⟩:=hE.out
  rw[ldC_eq]at hl
  obtain⟨z,h5,h6⟩:=part_run hag hsz hvs hl C.w
  exact up_pure hX hk h hd (fun c=>by simp[hop]) (by simp[execOp,hop,e1,e2,Instr.index,asIntOf,run_underlying ht,sz_run hsz,h0,hlt,h5,Sem.run_pure]) h6 hE
 ·exact hE.elim
theorem paddr_ok(hX:SessOk X E)(hk:Nx X k next)(h:Rel X C s a)(hd:∀i,o.dst=some i->i<X.N){t e:TypeId}{x y:Operand}{p q:Opd}{m n:Nat}(hop:o.op = .indexAddr t x y)(ht:X.P.underlying t=some (.array m e))(hsz:szOf X.P e=some n)(hp:opd x=some p)(hq:opd y=some q)
  (hE:evO E o.dst (.paddr n m p q) s k):o.wpIn X.F X.n X.P a C.w next Q:=by
 simp only[evO,evX,app]at hE
 split at hE
 ·rename_i j off kd i h1 h2
  have e1:=ev_ok h hp h1
  have e2:=ev_ok h hq h2
  simp only[RV]at e1 e2
  obtain⟨ow,ho,e1⟩:=e1
  obtain⟨⟨h0,hlt⟩,hE⟩:=hE
  refine up_pure hX hk h hd (v:=.own j (off+i.toNat*n)) (x:=.pointer (some ⟨ow.blk,off+i.toNat*n,none⟩)) (fun c=>by simp[hop]) ?_ (by simp only[RV];exact⟨_,ho,rfl⟩) hE
  simp[execOp,hop,e1,e2,Instr.indexAt,Instr.sureAddr,asIntOf,run_underlying ht,sz_run hsz,h0,hlt,Sem.run_pure,add_off]
 ·rename_i cs kd i h1 h2
  have e1:=ev_ok h hp h1
  have e2:=ev_ok h hq h2
  simp only[RV,RV0]at e1 e2
  obtain⟨b,off,e1,hi,hc⟩:=e1
  obtain⟨⟨h0,hlt⟩,hE⟩:=hE
  refine up_pure hX hk h hd (v:=.ipt (cs.drop (i.toNat*n))) (x:=.pointer (some ⟨b,off+i.toNat*n,none⟩)) (fun c=>by simp[hop]) ?_ (by simp only[RV,RV0];exact⟨b,_,rfl,hi,hc.drop _⟩) hE
  simp[execOp,hop,e1,e2,Instr.indexAt,Instr.sureAddr,asIntOf,run_underlying ht,sz_run hsz,h0,hlt,Sem.run_pure,add_off]
 ·exact hE.elim
theorem sidx_ok(hX:SessOk X E)(hk:Nx X k next)(h:Rel X C s a)(hd:∀i,o.dst=some i->i<X.N){t:TypeId}{x y:Operand}{p q:Opd}(hop:o.op = .index t x y)(ht:X.P.underlying t=some .string)(hp:opd x=some p)(hq:opd y=some q)
  (hE:evO E o.dst (.sidx p q) s k):o.wpIn X.F X.n X.P a C.w next Q:=by
 simp only[evO,evX,app]at hE
 split at hE
 ·rename_i b kd i h1 h2
  have e1:=ev_ok h hp h1
  have e2:=ev_ok h hq h2
  simp only[RV]at e1 e2
  obtain⟨h0,hlt,hE⟩:=hE.out
  have hlt':i.toNat<b.length:=by omega
  have hg:(⟨b.toArray⟩:ByteArray)[i.toNat]?=some (b.getD i.toNat 0):=by
   have hs:i.toNat<(ByteArray.mk b.toArray).size:=by simpa[ByteArray.size]using hlt'
   rw[getElem?_pos (ByteArray.mk b.toArray) i.toNat hs]
   congr 1
   show b.toArray[i.toNat]=_
   simp[List.getD_eq_getElem?_getD,hlt']
  refine up_pure hX hk h hd (v:=.int .u8 (b.getD i.toNat 0).toNat) (x:=.int .u8 (b.getD i.toNat 0).toNat) (fun c=>by simp[hop]) ?_ (by simp[RV]) hE
  simp only[execOp,hop,e1,e2,Instr.index,asIntOf,Sem.run_bind,Sem.run_pure,run_underlying ht,Result.andThen_ok,h0,if_true,hg,Sem.run_map]
  try rfl
 ·exact hE.elim
theorem aparts_ok(h:Rel X C s a){n:Nat}:∀(ps:List (Nat × Operand)) (qs:List (Nat × Nat × Opd)),aparts n ps=some qs->∀(zs cs:List AV) (us:List Value),RVs C zs us->evX.evBuild s zs qs=some cs ->
   ∃vs,Instr.fill (fun i=>some (i*n,n)) us.toArray (ps.map fun p=>(p.1,a.eval p.2))=some vs.toArray/\RVs C cs vs
 | [],qs,hq,zs,cs,us,hz,he=>by
  simp only[aparts,Option.some.injEq]at hq;subst hq
  simp only[evX.evBuild,Option.some.injEq]at he;subst he
  exact⟨us,by simp[Instr.fill],hz⟩
 |(f,x)::ps,qs,hq,zs,cs,us,hz,he=>by
  simp only[aparts]at hq
  split at hq
  ·rename_i p r h2 h3
   cases hq
   have fin:∀(ws:List AV) (x':Value),RVs C ws x'.cells.toList->ws.length=n->f*n+n<=zs.length->a.eval x=x'->evX.evBuild s (splice zs (f*n) ws) r=some cs ->
     ∃vs,Instr.fill (fun i=>some (i*n,n)) us.toArray (((f,x)::ps).map fun p=>(p.1,a.eval p.2))=some vs.toArray/\RVs C cs vs:=fun ws x' hw hl hle e1 hb=>by
    have hul:=hz.length
    have hxl:=hw.length
    obtain⟨vs,h4,h5⟩:=aparts_ok h ps r h3 _ cs _ (hz.splice hw (n:=f*n) (by omega)) hb
    refine⟨vs,?_,h5⟩
    simp only[List.map_cons,Instr.fill,e1]
    have hxl':x'.cells.size=n:=by simp at hxl;omega
    rw[if_neg (by simp[hxl'];omega)]
    have h6:=foldl_set x'.cells.toList 0 (f*n) us (by simp[hxl'];omega)
    simp only[Array.toArray_toList,Nat.add_zero]at h6
    rw[h6]
    exact h4
   simp only[evX.evBuild]at he
   split at he
   ·rename_i ws hv
    have e1:=ev_ok h h2 hv
    simp only[RV]at e1
    obtain⟨xs,e1,hxs⟩:=e1
    split at he
    ·rename_i hle
     exact fin ws _ (by simpa[Value.cells]using hxs) hle.1 hle.2 e1 he
    ·cases he
   ·rename_i v hna hv
    split at he
    ·rename_i hle
     obtain⟨hn1,hone,hle⟩:=hle
     have e1:=ev_ok h h2 hv
     refine fin [v] (a.eval x) (by rw[cells_one (RV.one h hone e1)];simp[RVs,e1]) (by simp[hn1]) (by omega) rfl he
    ·cases he
   ·cases he
  ·cases hq
theorem abuild_ok(hX:SessOk X E)(hk:Nx X k next)(h:Rel X C s a)(hd:∀i,o.dst=some i->i<X.N){t e:TypeId}{m n:Nat}{ps:Array (Nat × Operand)}{zs:List AV}{qs:List (Nat × Nat × Opd)}(hop:o.op = .build t ps)(ht:X.P.underlying t=some (.array m e))
  (hsz:szOf X.P e=some n) (hz:zsOf X.P t=some zs) (hq:aparts n ps.toList=some qs) (hE:evO E o.dst (.build zs qs) s k):o.wpIn X.F X.n X.P a C.w next Q:=by
 simp only[evO,evX,app]at hE
 split at hE
 ·rename_i cs hc
  obtain⟨z,h1,h2⟩:=zs_ok' (C:=C) hz
  obtain⟨vs,h3,h4⟩:=aparts_ok h ps.toList qs hq zs cs _ h2 hc
  refine up_pure hX hk h hd (v:=.agg cs) (x:=.agg vs.toArray) (fun c=>by simp[hop]) ?_ (by simp only[RV];exact⟨vs,rfl,h4⟩) hE
  simp only[Array.toArray_toList]at h3
  simp[execOp,hop,Instr.build,h1,run_underlying ht,sz_run hsz,h3,Sem.run_pure,Sem.run_map]
 ·exact hE.elim
end
section
variable {X:Sess} {E:Env} {o:Oper} {C:Ctx} {s:St} {a:Act} {next:Act->World->Prop} {Q:Exit->Act->World->Prop} {k:St->Prop}
theorem compO_ok(hX:SessOk X E)(hk:Nx X k next)(h:Rel X C s a)(hd:∀i,o.dst=some i->i<X.N){nm:Nat}{io:Ixo}(hc:compO X.P nm o.op=some io)
  (hs:stOk io o.dst=true) {ne:List Opd} (hE:evO E o.dst (io.withNe ne) s k):o.wpIn X.F X.n X.P a C.w next Q:=by
 cases hop:o.op with
 |move x=>
  rw[hop]at hc;simp only[compO,Option.map_eq_some_iff]at hc;obtain⟨p,h1,rfl⟩:=hc
  exact mv_ok hX hk h hd (.inl hop) h1 hE
 |assign x=>
  rw[hop]at hc;simp only[compO,Option.map_eq_some_iff]at hc;obtain⟨p,h1,rfl⟩:=hc
  exact mv_ok hX hk h hd (.inr hop) h1 hE
 |pick c x y=>
  rw[hop]at hc;simp only[compO]at hc
  split at hc<;>cases hc
  rename_i h1 h2 h3
  exact pick_ok hX hk h hd hop h1 h2 h3 hE
 |alloc t=>
  rw[hop]at hc;simp only[compO]at hc
  split at hc<;>cases hc
  rename_i h1
  exact alloc_ok hX hk h hd hop h1 hE
 |makeSlice t l c=>
  rw[hop]at hc;simp only[compO]at hc
  split at hc<;>try cases hc
  rename_i h1 h2 h3
  split at hc<;>try cases hc
  rename_i h4 h5
  split at hc<;>cases hc
  rename_i h6
  exact mks_ok hX hk h hd hop h1 h4 h5 h2 h3 h6.1 h6.2.1 h6.2.2.1 h6.2.2.2 hE
 |box t x=>
  rw[hop]at hc;simp only[compO]at hc
  split at hc<;>cases hc
  rename_i h1 h2
  exact box_ok hX hk h hd hop h2 hE
 |build t ps=>
  rw[hop]at hc;simp only[compO]at hc
  split at hc<;>try cases hc
  ·rename_i h1
   split at hc<;>try cases hc
   rename_i h2 h3
   split at hc<;>cases hc
   rename_i h4
   exact build_ok hX hk h hd hop h1 h4 h2 h3 hE
  ·rename_i h1
   split at hc<;>try cases hc
   rename_i h2 h3
   split at hc<;>try cases hc
   rename_i h4
   split at hc<;>cases hc
   exact abuild_ok hX hk h hd hop h1 h3 h2 h4 hE
 |index t x y=>
  rw[hop]at hc;simp only[compO]at hc
  split at hc<;>try cases hc
  ·rename_i h1 h2 h3
   split at hc<;>try cases hc
   rename_i h4 h5
   split at hc<;>cases hc
   exact aidx_ok hX hk h hd hop h1 h4 h5 h2 h3 hE
  ·rename_i h1 h2 h3
   exact sidx_ok hX hk h hd hop h1 h2 h3 hE
 |load t x=>
  rw[hop]at hc;simp only[compO]at hc
  split at hc<;>cases hc
  rename_i h1 h2 h3
  exact load_ok hX hk h hd hop h1 h2 h3 hE
 |store t x y=>
  rw[hop]at hc;simp only[compO]at hc
  split at hc<;>cases hc
  rename_i h1 h2 h3 h4
  by_cases hfl:flatT X.P 8 t=true
  ·rw[if_pos hfl]at hE hs
   exact store_ok hX hk h hop h2 h3 h4 (by simpa[stOk]using hs) hE
  ·rw[if_neg hfl]at hE hs
   exact stz_ok hX hk h hop h2 h3 h4 (by simpa[stOk]using hs) hE
 |binOp op t x y u=>
  rw[hop]at hc;simp only[compO]at hc
  split at hc<;>try cases hc
  rename_i h1 h2 h3
  split at hc<;>try cases hc
  ·exact bin_ok hX hk h hd hop h1 h2 hE
  ·rename_i ht
   split at hc<;>cases hc
   ·exact eqb_ok hX hk h hd hop ht (.inl ⟨rfl,rfl⟩) h1 h2 hE
   ·exact eqb_ok hX hk h hd hop ht (.inr ⟨rfl,rfl⟩) h1 h2 hE
  ·rename_i el ht
   split at hc<;>cases hc
   ·exact eqn_ok hX hk h hd hop ht (.inl ⟨rfl,rfl⟩) h1 h2 hE
   ·exact eqn_ok hX hk h hd hop ht (.inr ⟨rfl,rfl⟩) h1 h2 hE
  ·rename_i fs ht
   split at hc<;>try cases hc
   rename_i hg
   have hg':X.P.eqGuardType X.P.depth t=false:=by simpa using hg
   split at hc<;>cases hc
   ·rename_i hT
    exact eqs_ok hX hk h hd hop ht hg' hT (.inl ⟨rfl,rfl⟩) h1 h2 hE
   ·rename_i hT
    exact eqs_ok hX hk h hd hop ht hg' hT (.inr ⟨rfl,rfl⟩) h1 h2 hE
 |unOp op t x=>
  rw[hop]at hc;simp only[compO,Option.map_eq_some_iff]at hc;obtain⟨p,h1,rfl⟩:=hc
  exact un_ok hX hk h hd hop h1 hE
 |convert t u x=>
  rw[hop]at hc;simp only[compO]at hc
  split at hc<;>cases hc
  rename_i h1 h2 h3
  exact conv_ok hX hk h hd hop h1 h2 h3 hE
 |fieldAddr t x f=>
  rw[hop]at hc;simp only[compO]at hc
  split at hc<;>cases hc
  rename_i h1 h2
  exact faddr_ok hX hk h hd hop h1 h2 hE
 |field t x f=>
  rw[hop]at hc;simp only[compO]at hc
  split at hc<;>try cases hc
  rename_i h1 h2
  split at hc<;>cases hc
  rename_i h3
  exact field_ok hX hk h hd hop h1 h3 h2 hE
 |indexAddr t x i=>
  rw[hop]at hc;simp only[compO]at hc
  split at hc<;>try cases hc
  ·rename_i h1 h2 h3
   split at hc<;>cases hc
   rename_i h4
   exact iaddr_ok hX hk h hd hop h1 h4 h2 h3 hE
  ·rename_i h1 h2 h3
   split at hc<;>cases hc
   rename_i h4
   exact paddr_ok hX hk h hd hop h1 h4 h2 h3 hE
 |makeFunc f first caps=>
  rw[hop]at hc
  cases f<;>simp only[compO]at hc<;>try cases hc
  split at hc
  ·cases hc
   rename_i h1 h2
   exact mkfn_ok hX hk h hd hop h1 h2 hE
  ·rename_i h2 _
   obtain⟨ps,h1,rfl⟩:=Option.map_eq_some_iff.1 hc
   exact mkmt_ok hX hk h hd hop h1 h2 hE
  ·cases hc
 |extract x i=>
  rw[hop]at hc;simp only[compO,Option.map_eq_some_iff]at hc;obtain⟨p,h1,rfl⟩:=hc
  exact extract_ok hX hk h hd hop h1 hE
 |nilCheck x=>
  rw[hop]at hc;simp only[compO,Option.map_eq_some_iff]at hc;obtain⟨p,h1,rfl⟩:=hc
  exact nilck_ok hX hk h hd hop h1 hE
 |call c=>
  rw[hop]at hc;simp only[compO]at hc
  split at hc
  ·rename_i f hcal
   split at hc<;>try cases hc
   rename_i h1 h2
   split at hc
   ·cases hc;exact callw_ok hX hk h hd hop hcal h2 h1 hE
   split at hc<;>cases hc
   ·exact call_ok hX hk h hd hop hcal h2 h1 hE
   ·exact callz_ok hX hk h hd hop hcal h2 h1 hE
  ·rename_i hcal
   split at hc<;>try cases hc
   rename_i x y t t' h1 h2
   by_cases htt:t≠t'
   ·rw[if_neg htt]at hc;cases hc
   have htt:=Classical.not_not.1 htt
   rw[if_pos htt]at hc
   subst htt
   split at hc<;>try cases hc
   rename_i e p q h3 h4 h5
   split at hc<;>try cases hc
   rename_i i h6
   split at hc<;>cases hc
   rename_i h7
   simp only[Bool.and_eq_true,decide_eq_true_eq]at h7
   exact apd_ok hX hk h hd hop hcal h1 h2 h3 h6 h4 h5 h7.1.1 h7.1.2 h7.2 hE
  ·rename_i g hng hcal
   split at hc<;>cases hc
   rename_i h1 h2
   exact callv_ok hX hk h hd hop hcal h1 h2 hE
  ·rename_i hcal
   split at hc<;>try cases hc
   rename_i x t h1 h2
   split at hc<;>cases hc
   ·rename_i h3 h4
    exact len_ok hX hk h hd hop hcal h1 h2 h3 h4 hE
   ·rename_i h3 h4
    exact slen_ok hX hk h hd hop hcal h1 h2 h3 h4 hE
   ·rename_i h3 h4
    exact mlen_ok hX hk h hd hop hcal h1 h2 h3 h4 hE
  ·rename_i hcal
   split at hc<;>cases hc
   rename_i h1 h2
   exact mm_ok hX hk h hd hop (mx:=true) hcal h2 hE
  ·rename_i hcal
   split at hc<;>cases hc
   rename_i h1 h2
   exact mm_ok hX hk h hd hop (mx:=false) hcal h2 hE
  ·cases hc
 |buildSlice t n ps=>
  rw[hop]at hc;simp only[compO]at hc
  split at hc<;>try cases hc
  rename_i e qs h1 h2 h3
  split at hc<;>try cases hc
  rename_i sz h4 h5
  split at hc<;>cases hc
  rename_i h6
  simp only[Bool.and_eq_true,decide_eq_true_eq,beq_iff_eq]at h6
  exact bsl_ok hX hk h hd hop h1 h2 h3 h4 h5 h6.1.1 h6.1.2 h6.2 hE
 |slice t x lo hi mx=>
  rw[hop]at hc
  cases mx with
  |some m=>
   cases lo with
   |some l=>simp only[compO]at hc;cases hc
   |none=>
    cases hi with
    |none=>simp only[compO]at hc;cases hc
    |some hi=>
     simp only[compO]at hc
     split at hc<;>try cases hc
     rename_i h1 h2 h3 h4
     split at hc<;>cases hc
     rename_i h5
     exact sl3_ok hX hk h hd hop h1 h5 h2 h3 h4 hE
  |none=>
   simp only[compO]at hc
   split at hc<;>try cases hc
   rename_i h1 h2 h3 h4
   split at hc<;>cases hc
   rename_i h5
   exact sli_ok hX hk h hd hop h1 h5 h2 h3 h4 hE
 |makeMap t r=>
  rw[hop]at hc
  cases r with
  |some m=>simp only[compO]at hc;cases hc
  |none=>
   simp only[compO]at hc
   split at hc<;>cases hc
   split at hE
   ·exact mko_ok hX hk h hd hop hE
   ·exact mkm_ok hX hk h hd hop hE
 |mapUpdate t m x v=>
  rw[hop]at hc;simp only[compO]at hc
  split at hc<;>try cases hc
  rename_i h1 h2 h3 h4
  split at hc<;>cases hc
  rename_i h5
  exact mpu_ok hX hk h (by simpa[stOk]using hs) (.inl hop) h1 h5 h2 h3 h4 hE
 |insert t m x v=>
  rw[hop]at hc;simp only[compO]at hc
  split at hc<;>try cases hc
  rename_i h1 h2 h3 h4
  split at hc<;>cases hc
  rename_i h5
  exact mpu_ok hX hk h (by simpa[stOk]using hs) (.inr hop) h1 h5 h2 h3 h4 hE
 |range t x=>
  rw[hop]at hc;simp only[compO]at hc
  split at hc<;>cases hc
  rename_i h1 h2
  exact mrg_ok hX hk h hd hop h1 h2 hE
 |next x b=>
  rw[hop]at hc
  cases b with
  |true=>simp only[compO]at hc;cases hc
  |false=>
   simp only[compO,Option.map_eq_some_iff]at hc;obtain⟨p,h1,rfl⟩:=hc
   exact mnx_ok hX hk h hd hop h1 hE
 |entry x=>
  rw[hop]at hc;simp only[compO,Option.map_eq_some_iff]at hc;obtain⟨p,h1,rfl⟩:=hc
  exact men_ok hX hk h hd hop h1 hE
 |lookup t m x ok=>
  rw[hop]at hc;simp only[compO]at hc
  split at hc<;>try cases hc
  rename_i h1 h2 h3
  split at hc<;>cases hc
  rename_i h4 h5
  exact lkp_ok hX hk h hd hop h1 h4 h5 h2 h3 hE
 |_=>rw[hop]at hc;simp only[compO]at hc;cases hc
end
def Ixo.opds:Ixo->List Opd
 |.mv x=>[x]
 |.pick c a b=>[c,a,b]
 |.alloc _ _=>[]
 |.mks _ _ _ _ _ x y=>[x,y]
 |.box _ _ x=>[x]
 |.build _ ps=>ps.map fun p=>p.2.2
 |.load _ _ a=>[a]
 |.store _ _ a x ne=>a::x::ne
 |.bin _ x y=>[x,y]
 |.eqb _ x y=>[x,y]
 |.eqs _ _ x y=>[x,y]
 |.un _ x=>[x]
 |.conv _ x=>[x]
 |.faddr _ x=>[x]
 |.field _ _ _ x=>[x]
 |.iaddr _ x i=>[x,i]
 |.mkfn _ xs=>xs
 |.mkmt _ xs=>xs
 |.extract _ x=>[x]
 |.call _ xs=>xs
 |.callv g xs=>g::xs
 |.len x=>[x]
 |.slen x=>[x]
 |.mm _ xs=>xs
 |.bsl _ _ _ ps ne=>ps++ne
 |.apd _ _ _ _ x y ne=>x::y::ne
 |.callz _ _ _ xs ne=>xs++ne
 |.callw _ _ _ xs=>xs
 |.callx g xs=>g::xs
 |.aidx _ _ _ x i=>[x,i]
 |.sidx x i=>[x,i]
 |.sli _ x lo hi=>x::(lo.toList++hi.toList)
 |.sl3 _ x hi mx=>[x,hi,mx]
 |.eqn _ x=>[x]
 |.nilck x=>[x]
 |.mkm _=>[]
 |.mko _=>[]
 |.paddr _ _ x i=>[x,i]
 |.mpu _ m x v ne=>m::x::v::ne
 |.mrg _ m ne=>m::ne
 |.mnx x=>[x]
 |.men x=>[x]
 |.lkp _ _ _ m x=>[m,x]
 |.mlen x=>[x]
 |.stz _ _ a x ne=>a::x::ne
def Ixo.cls:Ixo->Nat
 |.alloc _ _ | .mks _ _ _ _ _ _ _ | .box _ _ _ | .load _ _ _ | .len _ | .iaddr _ _ _=>1
 |.call _ _ | .callv _ _=>2
 |.store _ _ _ _ _=>3
 |.bsl _ _ _ _ _ | .apd _ _ _ _ _ _ _=>4
 |.callz _ _ _ _ _=>5
 |.callw _ _ _ _=>5
 |.callx _ _=>5
 |.mkm _ | .mko _ | .men _ | .lkp _ _ _ _ _ | .mlen _=>1
 |.mpu _ _ _ _ _ | .mrg _ _ _ | .stz _ _ _ _ _=>4
 |.mnx _=>5
 |_=>0
def Ixo.aopds:Ixo->List Opd
 |.load _ _ a=>[a]
 |.store _ _ a _ _=>[a]
 |.len x=>[x]
 |.iaddr _ x _=>[x]
 |.call _ xs=>xs
 |.callv g xs=>g::xs
 |.bsl _ _ _ ps _=>ps
 |.apd _ _ _ _ x y _=>[x,y]
 |.callz _ _ _ xs _=>xs
 |.callw _ _ _ xs=>xs
 |.callx g xs=>g::xs
 |.mpu _ m _ v _=>[m,v]
 |.mrg _ m _=>[m]
 |.mnx x=>[x]
 |.men x=>[x]
 |.lkp _ _ _ m _=>[m]
 |.mlen x=>[x]
 |.stz _ _ a x _=>[a,x]
 |_=>[]
def Ixo.nes:Ixo->List Opd
 |.store _ _ _ _ ne=>ne
 |.bsl _ _ _ _ ne=>ne
 |.apd _ _ _ _ _ _ ne=>ne
 |.callz _ _ _ _ ne=>ne
 |.mpu _ _ _ _ ne=>ne
 |.mrg _ _ ne=>ne
 |.stz _ _ _ _ ne=>ne
 |_=>[]
def Ixo.names:Ixo->List Nat
 |.alloc nm _=>[nm]
 |.mks nm _ _ _ _ _ _=>[nm]
 |.box nm _ _=>[nm]
 |.bsl nm _ _ _ _=>[nm]
 |.apd nm _ _ _ _ _ _=>[nm]
 |.callz nm ct _ _ _=>List.range' nm ct
 |.callw nm ct _ _=>List.range' nm ct
 |.mkm nm=>[nm]
 |.mko nm=>[nm]
 |.mrg nm _ _=>[nm]
 |_=>[]
def Ixo.hard:Ixo->Bool
 |.store _ _ _ _ _=>true
 |.apd _ _ _ _ _ _ _=>true
 |.mpu _ _ _ _ _=>true
 |.mnx _=>true
 |.stz _ _ _ _ _=>true
 |.callw _ _ _ _=>true
 |.callx _ _=>true
 |_=>false
def Ixo.isW:Ixo->Bool
 |.callw _ _ _ _=>true
 |.callx _ _=>true
 |_=>false
structure Agr(keep:Nat->Bool)(s r:St)(z:Ixo):Prop where
 ev:∀p∈z.opds,r.ev p=s.ev p
 sg:2<=z.cls->∀i,keep i=true->r.sg[i]?=s.sg[i]?
 sg1:z.cls=1->∀i,keep i=true->(r.sg[i]?).map Res.ice=(s.sg[i]?).map Res.ice
 rf:∀p∈z.aopds,∀v,s.ev p=some v->v.refsIn keep=true
 bx:z.cls=2->∀i,keep i=true->AV.refsInL keep (s.sg.getD i .fresh).cellsOf=true
 nm:∀i,i∈z.names->keep i=true
 gh:z.cls=2->r.gh=s.gh
theorem evl_agr{s r:St}:∀ {ps:List Opd},(∀p∈ps,r.ev p=s.ev p)->r.evl ps=s.evl ps
 | [],_=>rfl
 |p::ps,h=>by simp only[St.evl,h p (by simp),evl_agr (ps:=ps) (fun q hq=>h q (by simp[hq]))]
theorem evl_refs{keep:Nat->Bool}{s:St}:∀ {ps:List Opd} {vs:List AV},s.evl ps=some vs->(∀p∈ps,∀v,s.ev p=some v->v.refsIn keep=true)->AV.refsInL keep vs=true
 | [],vs,h,_=>by simp only[St.evl,Option.some.injEq]at h;subst h;rfl
 |p::ps,vs,h,hr=>by
  simp only[St.evl]at h
  split at h
  ·rename_i v vs' h1 h2
   cases h
   simp only[AV.refsInL,Bool.and_eq_true]
   exact⟨hr p (by simp) v h1,evl_refs h2 (fun q hq=>hr q (by simp[hq]))⟩
  ·cases h
theorem build_agr{s r:St}:∀(ps:List (Nat × Nat × Opd)) (zs:List AV),(∀p∈ps.map (fun p=>p.2.2),r.ev p=s.ev p)->evX.evBuild r zs ps=evX.evBuild s zs ps
 | [],zs,_=>rfl
 |(off,n,x)::ps,zs,h=>by
  have h1:=h x (by simp)
  have h2:∀zs,evX.evBuild r zs ps=evX.evBuild s zs ps:=fun zs=>build_agr ps zs (fun p hp=>h p (by simp only[List.map_cons,List.mem_cons];exact .inr hp))
  simp only[evX.evBuild,h1,h2]
theorem getD_of_get?{sg sg':List Res}{i:Nat}(h:sg'[i]?=sg[i]?)(d:Res):sg'.getD i d=sg.getD i d:=by
 simp only[List.getD_eq_getElem?_getD,h]
theorem mapO_agr{keep:Nat->Bool}{f g:AV->Option AV}(h:∀v,v.refsIn keep=true->g v=f v):∀(as:List AV),AV.refsInL keep as=true->mapO g as=mapO f as
 | [],_=>rfl
 |a::as,hr=>by
  simp only[AV.refsInL,Bool.and_eq_true]at hr
  simp only[mapO,h a hr.1,mapO_agr h as hr.2]
theorem frz_agr{keep:Nat->Bool}{sg sg':List Res}(h1:∀i,keep i=true->sg'[i]?=sg[i]?)(h2:∀i,keep i=true->AV.refsInL keep (sg.getD i .fresh).cellsOf=true) :
  ∀(n:Nat) (v:AV),v.refsIn keep=true->AV.frz sg' n v=AV.frz sg n v:=by
 intro n
 induction n with
 |zero=>intro v _;rfl
 |succ n ih=>
  intro v hv
  cases v with
  |agg cs=>simp only[AV.frz,mapO_agr ih cs (by simpa only[AV.refsIn]using hv)]
  |tup cs=>simp only[AV.frz,mapO_agr ih cs (by simpa only[AV.refsIn]using hv)]
  |fn f cs=>simp only[AV.frz,mapO_agr ih cs (by simpa only[AV.refsIn]using hv)]
  |own i off=>
   have hk:keep i=true:=hv
   have h3:=h2 i hk
   simp only[AV.frz,getD_of_get? (h1 i hk)]
   cases hr:sg.getD i .fresh with
   |box ice cs=>rw[hr]at h3;simp only[mapO_agr ih cs h3]
   |_=>rfl
  |row i=>
   have hk:keep i=true:=hv
   have h3:=h2 i hk
   simp only[AV.frz,getD_of_get? (h1 i hk)]
   cases hr:sg.getD i .fresh with
   |mpo ks us=>rw[hr]at h3;simp only[mapO_agr ih us h3]
   |_=>rfl
  |_=>rfl
theorem AV.has_keep{keep:Nat->Bool}{v:AV}(h:v.refsIn keep=true){i:Nat}(hi:v.has i=true):keep i=true:=by
 cases hk:keep i with
 |true=>rfl
 |false=>
  have:v.refsIn (fun j=>j != i)=true:=AV.refsIn_mono v (fun j _ hj=>by simp only[bne_iff_ne,ne_eq];rintro rfl;rw[hk]at hj;cases hj) h
  simp[AV.has,this]at hi
theorem apartV_ok{v u:AV}(h:apartV v u=true){i:Nat}(hv:v.has i=true):u.has i=false:=by
 have:(u.refsIn fun j=>j != i)=true:=AV.has_keep h hv
 simp[AV.has,this]
theorem apartVs_ok{v:AV}:∀ {us:List AV},apartVs v us=true->∀u∈us,∀ {i:Nat},v.has i=true->u.has i=false
 | [],_,u,hu,_,_=>by cases hu
 |u::us,h,x,hx,i,hi=>by
  simp only[apartVs,Bool.and_eq_true]at h
  rcases List.mem_cons.1 hx with rfl|hx
  ·exact apartV_ok h.1 hi
  ·exact apartVs_ok h.2 x hx hi
theorem pu_refs{keep:Nat->Bool}:∀(n:Nat),(∀v:AV,SizeOf.sizeOf v<n->v.pu=true->v.refsIn keep=true)/\(∀as:List AV,SizeOf.sizeOf as<n->AV.puL as=true->AV.refsInL keep as=true):=by
 intro n
 induction n with
 |zero=>exact⟨fun _ h=>by omega,fun _ h=>by omega⟩
 |succ n ih=>
  constructor
  ·intro v hs hp
   cases v<;>simp only[AV.refsIn,AV.pu]at hp⊢<;>first|cases hp|(apply ih.2 _ _ hp;simp at hs;omega)|skip
  ·intro as hs hp
   cases as with
   |nil=>rfl
   |cons a as=>
    simp only[AV.refsInL,AV.puL,Bool.and_eq_true]at hp⊢
    simp at hs
    exact⟨ih.1 a (by omega) hp.1,ih.2 as (by omega) hp.2⟩
theorem pu_refs'{keep:Nat->Bool}(v:AV)(h:v.pu=true):v.refsIn keep=true:=(pu_refs (SizeOf.sizeOf v+1)).1 v (by omega) h
theorem mapPu_agr{f g:AV->Option AV}(h:∀v,v.pu=true->g v=f v):∀as,AV.puL as=true->mapO g as=mapO f as:=fun as=>by
 induction as with
 |nil=>intro _;rfl
 |cons a as ih=>intro hp;simp only[AV.puL,Bool.and_eq_true]at hp;simp only[mapO,h a hp.1,ih hp.2]
theorem frz_pu_agr{sg sg':List Res}:∀(n:Nat) (v:AV),v.pu=true->AV.frz sg' n v=AV.frz sg n v:=by
 have hmap:∀(f g:AV->Option AV),(∀v,v.pu=true->g v=f v)->∀as,AV.puL as=true->mapO g as=mapO f as:=fun f g h as=>by
  induction as with
  |nil=>intro _;rfl
  |cons a as ih=>intro hp;simp only[AV.puL,Bool.and_eq_true]at hp;simp only[mapO,h a hp.1,ih hp.2]
 intro n
 induction n with
 |zero=>intro v _;rfl
 |succ n ih=>
  intro v hv
  cases v with
  |agg cs=>simp only[AV.frz,hmap _ _ ih cs (by simpa only[AV.pu]using hv)]
  |tup cs=>simp only[AV.frz,hmap _ _ ih cs (by simpa only[AV.pu]using hv)]
  |fn f cs=>simp only[AV.frz,hmap _ _ ih cs (by simpa only[AV.pu]using hv)]
  |own _ _=>cases hv
  |row _=>cases hv
  |elt _ _ _ _=>cases hv
  |yld=>cases hv
  |gone=>cases hv
  |_=>rfl
mutual
theorem reach_agr{keep:Nat->Bool}{sg sg':List Res}(h1:∀i,keep i=true->sg'[i]?=sg[i]?):∀v:AV,v.refsIn keep=true->v.reach sg'=v.reach sg
 |.own i off,hk=>by simp only[AV.reach,getD_of_get? (h1 i hk)]
 |.row i,hk=>by simp only[AV.reach,getD_of_get? (h1 i hk)]
 |.elt _ _ _ _,_=>rfl
 |.agg cs,hk=>by simp only[AV.reach];exact reachL_agr h1 cs (by simpa only[AV.refsIn]using hk)
 |.tup cs,hk=>by simp only[AV.reach];exact reachL_agr h1 cs (by simpa only[AV.refsIn]using hk)
 |.fn _ cs,hk=>by simp only[AV.reach];exact reachL_agr h1 cs (by simpa only[AV.refsIn]using hk)
 |.bool _,_=>rfl
 |.int _ _,_=>rfl
 |.str _,_=>rfl
 |.lit _,_=>rfl
 |.isl _,_=>rfl
 |.nils,_=>rfl
 |.ipt _,_=>rfl
 |.imp _ _,_=>rfl
 |.tsl _ _,_=>rfl
 |.mth _ _,_=>rfl
 |.any,_=>rfl
 |.yld,_=>rfl
 |.gone,_=>rfl
theorem reachL_agr{keep:Nat->Bool}{sg sg':List Res}(h1:∀i,keep i=true->sg'[i]?=sg[i]?):∀as:List AV,AV.refsInL keep as=true->AV.reachL sg' as=AV.reachL sg as
 | [],_=>rfl
 |a::as,hk=>by
  simp only[AV.refsInL,Bool.and_eq_true]at hk
  simp only[AV.reachL,reach_agr h1 a hk.1,reachL_agr h1 as hk.2]
end
theorem frz_reach_agr{keep:Nat->Bool}{sg sg':List Res}(h1:∀i,keep i=true->sg'[i]?=sg[i]?):∀(n:Nat) (v:AV) (z:List (Nat × Res)),v.reach sg=some z->v.refsIn keep=true->AV.frz sg' n v=AV.frz sg n v:=by
 have hmap:∀(f g:AV->Option AV),(∀v z,v.reach sg=some z->v.refsIn keep=true->g v=f v)->∀(as:List AV) z,AV.reachL sg as=some z->AV.refsInL keep as=true->mapO g as=mapO f as:=fun f g h as=>by
  induction as with
  |nil=>intro _ _ _;rfl
  |cons a as ih=>
   intro z hz hp
   simp only[AV.reachL]at hz
   split at hz<;>cases hz
   rename_i x y k1 k2
   simp only[AV.refsInL,Bool.and_eq_true]at hp;simp only[mapO,h a _ k1 hp.1,ih _ k2 hp.2]
 intro n
 induction n with
 |zero=>intro v z _ _;rfl
 |succ n ih=>
  intro v z hz hv
  cases v with
  |agg cs=>simp only[AV.frz,hmap _ _ ih cs z (by simpa only[AV.reach]using hz) (by simpa only[AV.refsIn]using hv)]
  |tup cs=>simp only[AV.frz,hmap _ _ ih cs z (by simpa only[AV.reach]using hz) (by simpa only[AV.refsIn]using hv)]
  |fn f cs=>simp only[AV.frz,hmap _ _ ih cs z (by simpa only[AV.reach]using hz) (by simpa only[AV.refsIn]using hv)]
  |own i off=>
   have hk:keep i=true:=hv
   simp only[AV.reach]at hz
   simp only[AV.frz,getD_of_get? (h1 i hk)]
   cases hr:sg.getD i .fresh with
   |box ice cs=>
    rw[hr]at hz
    simp only at hz
    split at hz<;>cases hz
    rename_i hpu
    have hm:∀as,AV.puL as=true->mapO (AV.frz sg' n) as=mapO (AV.frz sg n) as:=fun as=>by
     induction as with
     |nil=>intro _;rfl
     |cons a as ih2=>intro hp;simp only[AV.puL,Bool.and_eq_true]at hp;simp only[mapO,frz_pu_agr (sg:=sg) (sg':=sg') n a hp.1,ih2 hp.2]
    simp only[hm cs hpu]
   |_=>rfl
  |row i=>
   have hk:keep i=true:=hv
   simp only[AV.reach]at hz
   simp only[AV.frz,getD_of_get? (h1 i hk)]
   cases hr:sg.getD i .fresh with
   |mpo ks us=>rw[hr]at hz;cases hz
   |_=>rfl
  |_=>rfl
theorem frzL_reach_agr{keep:Nat->Bool}{sg sg':List Res}(h1:∀i,keep i=true->sg'[i]?=sg[i]?)(n:Nat):∀(as:List AV) (z:List (Nat × Res)),AV.reachL sg as=some z->AV.refsInL keep as=true->AV.frzL sg' n as=AV.frzL sg n as
 | [],_,_,_=>rfl
 |a::as,z,hz,hp=>by
  simp only[AV.reachL]at hz
  split at hz<;>cases hz
  rename_i x y k1 k2
  simp only[AV.refsInL,Bool.and_eq_true]at hp
  have:=frzL_reach_agr h1 n as _ k2 hp.2
  simp only[AV.frzL,mapO,frz_reach_agr h1 n a _ k1 hp.1]at this⊢
  rw[this]
theorem frzN_reach_agr{keep:Nat->Bool}{sg sg':List Res}(h1:∀i,keep i=true->sg'[i]?=sg[i]?):∀(v:AV) (z:List (Nat × Res)),v.reach sg=some z->v.refsIn keep=true->AV.frzN sg' v=AV.frzN sg v:=fun v z hz hk=>by
 cases v with
 |nils=>rfl
 |_=>exact frz_reach_agr h1 8 _ z hz hk
theorem FrzZ.agr{keep:Nat->Bool}{sg sg':List Res}(h1:∀i,keep i=true->sg'[i]?=sg[i]?){as as':List AV}{z:List (Nat × Res)}(hf:FrzZ sg as as')(hz:AV.reachL sg as=some z)(hk:AV.refsInL keep as=true):FrzZ sg' as as':=by
 rcases hf with hf|hf
 ·exact .inl ((frzL_reach_agr h1 8 as z hz hk).trans hf)
 ·right
  unfold AV.frzNL at hf⊢
  rw[<- hf]
  clear hf
  induction as generalizing z with
  |nil=>rfl
  |cons a as ih=>
   simp only[AV.reachL]at hz
   split at hz<;>cases hz
   rename_i x y k1 k2
   simp only[AV.refsInL,Bool.and_eq_true]at hk
   simp only[mapO,frzN_reach_agr h1 a _ k1 hk.1,ih k2 hk.2]
theorem cellsO_refs{keep:Nat->Bool}{sz:Nat}{v:AV}{cs:List AV}(h:cellsO sz v=some cs)(hk:v.refsIn keep=true):AV.refsInL keep cs=true:=by
 cases v<;>simp only[cellsO]at h<;>split at h<;>cases h<;>simp_all[AV.refsInL,AV.refsIn]
theorem rows_agr{keep:Nat->Bool}{sg sg':List Res}(h1:∀i,keep i=true->sg'[i]?=sg[i]?)(sz:Nat):∀(vs:List AV) (e:List (List AV) × List (Nat × Res)),rowsO sg sz vs=some e->AV.refsInL keep vs=true->rowsO sg' sz vs=some e
 | [],e,h,_=>h
 |v::vs,e,h,hk=>by
  simp only[AV.refsInL,Bool.and_eq_true]at hk
  simp only[rowsO]at h⊢
  split at h
  ·rename_i cs hc
   have hr:=cellsO_refs hc hk.1
   split at h<;>cases h
   rename_i z cs' es zs k1 k2 k3
   simp only[reachL_agr h1 cs hr,frzL_reach_agr h1 8 cs _ k1 hr,k1,k2,rows_agr h1 sz vs _ k3 hk.2]
  ·cases h
theorem src_agr{keep:Nat->Bool}{sg sg':List Res}(h1:∀i,keep i=true->sg'[i]?=sg[i]?){el:TypeId}{sz:Nat}{u:AV}(hk:u.refsIn keep=true):srcO sg' el sz u=srcO sg el sz u:=by
 cases u<;>try rfl
 rename_i i
 simp only[srcO,getD_of_get? (h1 i hk)]
theorem add_agr{keep:Nat->Bool}{sg sg':List Res}(h1:∀i,keep i=true->sg'[i]?=sg[i]?){sz:Nat}{u:AV}(hk:u.refsIn keep=true):addO sg' sz u=addO sg sz u:=by
 cases u with
 |row i=>simp only[addO,getD_of_get? (h1 i hk)]
 |lit y=>cases y with
  |slice a n c=>cases a<;>cases n<;>rfl
  |_=>rfl
 |_=>rfl
theorem neL_agr{s r:St}{us:List AV}:∀(ps:List Opd),(∀p∈ps,r.ev p=s.ev p)->neOkL r us ps=neOkL s us ps
 | [],_=>rfl
 |p::ps,h=>by simp only[neOkL,h p (by simp),neL_agr ps (fun q hq=>h q (by simp[hq]))]
theorem ne_agr{s r:St}{i:Nat}:∀(ps:List Opd),(∀p∈ps,r.ev p=s.ev p)->neOk r i ps=neOk s i ps
 | [],_=>rfl
 |p::ps,h=>by simp only[neOk,h p (by simp),ne_agr ps (fun q hq=>h q (by simp[hq]))]
theorem bo_agr{s r:St}{p:Option Opd}(h:∀q,p=some q->r.ev q=s.ev q):boV r p=boV s p:=by
 cases p with
 |none=>rfl
 |some q=>simp only[boV,h q rfl]
def isFresh:Res->Bool
 |.fresh=>true
 |_=>false
theorem isFresh_ok{r:Res}(h:isFresh r=true):r = .fresh:=by cases r<;>simp[isFresh]at h⊢
theorem getD_ice{sg sg':List Res}{i:Nat}(h:(sg'[i]?).map Res.ice=(sg[i]?).map Res.ice):(sg'.getD i .dead).ice=(sg.getD i .dead).ice:=by
 simp only[List.getD_eq_getElem?_getD]
 cases h1:sg'[i]?<;>cases h2:sg[i]?<;>rw[h1,h2]at h<;>simp at h⊢
 exact h
theorem ice_fresh{r:Res}(h:r.ice=Res.fresh.ice):r = .fresh:=by cases r<;>simp[Res.ice]at h⊢
theorem ice_box{r:Res}{b:Bool}{cs:List AV}(h:r.ice=(Res.box b cs).ice):∃b',r = .box b' cs:=by cases r<;>simp[Res.ice]at h⊢;exact h
theorem ice_mp{r:Res}{b:Bool}{ks us:List AV}(h:r.ice=(Res.mp b ks us).ice):∃b',r = .mp b' ks us:=by cases r<;>simp[Res.ice]at h⊢;exact h
theorem ice_mpo{r:Res}{ks us:List AV}(h:r.ice=(Res.mpo ks us).ice):r = .mpo ks us:=by
 cases r<;>simp only[Res.ice]at h<;>cases h<;>rfl
theorem ice_itr{r:Res}{ks us last:List AV}{seen:List Nat}(h:r.ice=(Res.itr ks us seen last).ice):r = .itr ks us seen last:=by cases r<;>simp[Res.ice]at h⊢;exact h
theorem ice_row{r:Res}{b:Bool}{el:TypeId}{sz:Nat}{es:List (List AV)}(h:r.ice=(Res.row b el sz es).ice):∃b',r = .row b' el sz es:=by cases r<;>simp[Res.ice]at h⊢;exact h
theorem evX_trans{E:Env}{keep:Nat->Bool}{s r:St}{z:Ixo}{κ : Eff->Prop}(h:Agr keep s r z)(hw:z.isW=true->r.sg=s.sg/\r.gh=s.gh)(hE:evX E z s κ):evX E z r κ :=by
 cases z with
 |mv x=>simpa only[evX,h.ev x (by simp[Ixo.opds])]using hE
 |pick c a b=>simpa only[evX,h.ev c (by simp[Ixo.opds]),h.ev a (by simp[Ixo.opds]),h.ev b (by simp[Ixo.opds])]using hE
 |mks nm el sz bytes zs x y=>
  have hi:=getD_ice (h.sg1 (by simp[Ixo.cls]) nm (h.nm nm (by simp[Ixo.names])))
  simp only[evX,h.ev x (by simp[Ixo.opds]),h.ev y (by simp[Ixo.opds])]at hE⊢
  split at hE
  ·rename_i hf h1 h2
   rw[hf]at hi
   simp only[ice_fresh hi,h1,h2]
   exact hE
  ·exact hE.elim
 |alloc nm zs=>
  have hi:=getD_ice (h.sg1 (by simp[Ixo.cls]) nm (h.nm nm (by simp[Ixo.names])))
  simp only[evX]at hE⊢
  split at hE
  ·rename_i hf
   rw[hf]at hi
   simp only[ice_fresh hi]
   exact hE
  ·exact hE.elim
 |box nm ag x=>
  have hi:=getD_ice (h.sg1 (by simp[Ixo.cls]) nm (h.nm nm (by simp[Ixo.names])))
  simp only[evX,h.ev x (by simp[Ixo.opds])]at hE⊢
  split at hE
  ·rename_i v hv hf
   rw[hf]at hi
   simp only[hv,ice_fresh hi]
   exact hE
  ·exact hE.elim
 |build zs ps=>simpa only[evX,build_agr ps zs h.ev]using hE
 |load ag n a=>
  simp only[evX,h.ev a (by simp[Ixo.opds])]at hE⊢
  split at hE
  ·rename_i i off ha
   have hk:keep i=true:=h.rf a (by simp[Ixo.aopds]) _ ha
   have hi:=getD_ice (h.sg1 (by simp[Ixo.cls]) i hk)
   split at hE
   ·rename_i hr
    rw[hr]at hi
    obtain⟨b,hb⟩:=ice_box hi
    simp only[hb]
    exact hE
   ·exact hE.elim
  ·rename_i i sz m j ha
   have hk:keep i=true:=h.rf a (by simp[Ixo.aopds]) _ ha
   have hi:=getD_ice (h.sg1 (by simp[Ixo.cls]) i hk)
   split at hE
   ·rename_i hr
    rw[hr]at hi
    obtain⟨b,hb⟩:=ice_row hi
    simp only[hb]
    exact hE
   ·exact hE.elim
  ·exact hE
  ·exact hE.elim
 |store ag n a x ne=>
  simp only[evX,h.ev a (by simp[Ixo.opds]),h.ev x (by simp[Ixo.opds]),ne_agr ne (fun p hp=>h.ev p (by simp[Ixo.opds,hp]))]at hE⊢
  split at hE
  ·rename_i i off v ha hx
   have hk:keep i=true:=h.rf a (by simp[Ixo.aopds]) _ ha
   simpa only[getD_of_get? (h.sg (by simp[Ixo.cls]) i hk)]using hE
  ·rename_i i sz m j v ha hx
   have hk:keep i=true:=h.rf a (by simp[Ixo.aopds]) _ ha
   simp only[getD_of_get? (h.sg (by simp[Ixo.cls]) i hk)]
   split at hE
   ·rename_i el sz' es hr
    have hf:∀vs,AV.puL vs=true->AV.frzL r.sg 8 vs=AV.frzL s.sg 8 vs:=fun vs=>by
     unfold AV.frzL
     induction vs with
     |nil=>intro _;rfl
     |cons a as ih=>intro hp;simp only[AV.puL,Bool.and_eq_true]at hp;simp only[mapO,frz_pu_agr (sg:=s.sg) (sg':=r.sg) 8 a hp.1,ih hp.2]
    have key:∀vs,need (vs.all AV.one=true) (if sz'=sz/\vs.length=n/\AV.puL vs=true/\neOk s i ne=true then
      match AV.frzL s.sg 8 vs with
      |some vs'=>iaE es m fun cs=>if j+n<=cs.length then κ (.set i (.row false el sz (es.set m (splice cs j vs')))) else False
      |none=>False
     else False)->need (vs.all AV.one=true) (if sz'=sz/\vs.length=n/\AV.puL vs=true/\neOk s i ne=true then
      match AV.frzL r.sg 8 vs with
      |some vs'=>iaE es m fun cs=>if j+n<=cs.length then κ (.set i (.row false el sz (es.set m (splice cs j vs')))) else False
      |none=>False
     else False):=fun vs hh=>by
     refine⟨hh.1,?_⟩
     have h2:=hh.2
     split at h2
     ·rename_i hc
      rw[if_pos hc,hf vs hc.2.2.1];exact h2
     ·exact h2.elim
    cases ag
    ·exact⟨hE.1,key _ hE.2⟩
    ·simp only[cellsK]at hE⊢
     split at hE
     ·exact key _ hE
     ·exact hE.elim
   ·exact hE.elim
  ·exact hE.elim
 |bin op x y=>simpa only[evX,h.ev x (by simp[Ixo.opds]),h.ev y (by simp[Ixo.opds])]using hE
 |eqb n x y=>simpa only[evX,h.ev x (by simp[Ixo.opds]),h.ev y (by simp[Ixo.opds])]using hE
 |eqs n T x y=>simpa only[evX,h.ev x (by simp[Ixo.opds]),h.ev y (by simp[Ixo.opds])]using hE
 |un op x=>simpa only[evX,h.ev x (by simp[Ixo.opds])]using hE
 |conv kd x=>simpa only[evX,h.ev x (by simp[Ixo.opds])]using hE
 |faddr off x=>simpa only[evX,h.ev x (by simp[Ixo.opds])]using hE
 |field ag n off x=>simpa only[evX,h.ev x (by simp[Ixo.opds])]using hE
 |iaddr sz x i=>
  simp only[evX,h.ev x (by simp[Ixo.opds]),h.ev i (by simp[Ixo.opds])]at hE⊢
  split at hE
  ·exact hE
  ·rename_i j kd n hx hi
   have hk:keep j=true:=h.rf x (by simp[Ixo.aopds]) _ hx
   have hi:=getD_ice (h.sg1 (by simp[Ixo.cls]) j hk)
   split at hE
   ·rename_i hr
    rw[hr]at hi
    obtain⟨b,hb⟩:=ice_row hi
    simp only[hb]
    exact hE
   ·exact hE.elim
  ·exact hE.elim
 |bsl nm el sz ps ne=>
  have e1:=evl_agr (s:=s) (r:=r) (ps:=ps) (fun p hp=>h.ev p (by simp[Ixo.opds,hp]))
  have e2:∀us,neOkL r us ne=neOkL s us ne:=fun us=>neL_agr ne fun p hp=>h.ev p (by simp[Ixo.opds,hp])
  simp only[evX,e1,e2,getD_of_get? (h.sg (by simp[Ixo.cls]) nm (h.nm nm (by simp[Ixo.names])))]at hE⊢
  split at hE
  ·rename_i vs hf hv
   split at hE
   ·rename_i es z hr hn
    simp only[rows_agr (h.sg (by simp[Ixo.cls])) sz vs _ hr (evl_refs hv h.rf),hn]
    exact hE
   ·exact hE.elim
  ·exact hE.elim
 |apd nm el sz b x y ne=>
  have e2:∀us,neOkL r us ne=neOkL s us ne:=fun us=>neL_agr ne fun p hp=>h.ev p (by simp[Ixo.opds,hp])
  simp only[evX,h.ev x (by simp[Ixo.opds]),h.ev y (by simp[Ixo.opds]),e2,getD_of_get? (h.sg (by simp[Ixo.cls]) nm (h.nm nm (by simp[Ixo.names])))]at hE⊢
  split at hE
  ·rename_i u v hf hu hv
   simp only[src_agr (h.sg (by simp[Ixo.cls])) (h.rf x (by simp[Ixo.aopds]) _ hu),add_agr (h.sg (by simp[Ixo.cls])) (h.rf y (by simp[Ixo.aopds]) _ hv)]
   exact hE
  ·exact hE.elim
 |callz nm ct f xs ne=>
  have e1:=evl_agr (s:=s) (r:=r) (ps:=xs) (fun p hp=>h.ev p (by simp[Ixo.opds,hp]))
  have e2:∀us,neOkL r us ne=neOkL s us ne:=fun us=>neL_agr ne fun p hp=>h.ev p (by simp[Ixo.opds,hp])
  simp only[evX,e1,e2]at hE⊢
  split at hE
  ·rename_i vs hv
   split at hE
   ·rename_i hn
    have hfr:freshN r.sg nm ct=true:=freshN_iff.2 fun j hj=>by
     rw[getD_of_get? (h.sg (by simp[Ixo.cls]) (nm+j) (h.nm _ (by simp[Ixo.names,List.mem_range'];exact hj)))]
     exact freshN_iff.1 hn.2 j hj
    rw[if_pos ⟨hn.1,hfr⟩]
    obtain⟨args',z,k1,k2,k3⟩:=hE
    have hr:=evl_refs hv h.rf
    exact⟨args',z,(reachL_agr (h.sg (by simp[Ixo.cls])) vs hr).trans k1,FrzZ.agr (h.sg (by simp[Ixo.cls])) k2 k1 hr,k3⟩
   ·exact hE.elim
  ·exact hE.elim
 |callw nm ct f xs=>
  have e1:=evl_agr (s:=s) (r:=r) (ps:=xs) (fun p hp=>h.ev p (by simp[Ixo.opds,hp]))
  simpa only[evX,e1,(hw rfl).1]using hE
 |callx g xs=>simpa only[evX,h.ev g (by simp[Ixo.opds]),evl_agr (ps:=xs) (fun p hp=>h.ev p (by simp[Ixo.opds,hp])),(hw rfl).1,(hw rfl).2]using hE
 |aidx ag n m x i=>simpa only[evX,h.ev x (by simp[Ixo.opds]),h.ev i (by simp[Ixo.opds])]using hE
 |sidx x i=>simpa only[evX,h.ev x (by simp[Ixo.opds]),h.ev i (by simp[Ixo.opds])]using hE
 |mkfn f xs=>simpa only[evX,evl_agr (ps:=xs) h.ev]using hE
 |mkmt f xs=>
  simp only[evX,evl_agr (ps:=xs) h.ev]at hE⊢
  split at hE
  ·rename_i vs hv
   split at hE
   ·rename_i h1 h2
    have h3:AV.frzL r.sg 8 vs=some _:=(mapPu_agr (frz_pu_agr (sg:=s.sg) (sg':=r.sg) 8) vs h1).trans h2
    rw[h1,h3]
    exact hE
   ·exact hE.elim
  ·exact hE.elim
 |extract i x=>simpa only[evX,h.ev x (by simp[Ixo.opds])]using hE
 |call f xs=>
  simp only[evX,evl_agr (ps:=xs) h.ev]at hE⊢
  split at hE
  ·rename_i vs hv
   rcases hE with⟨args',R,h0,h1,h2,h3⟩|⟨args',R,h1,h2,h3⟩
   ·refine .inl ⟨args',R,h0,?_,h2,h3⟩
    rw[<- h1]
    exact mapO_agr (frz_agr (h.sg (by simp[Ixo.cls])) (h.bx (by simp[Ixo.cls])) 8) vs (evl_refs hv h.rf)
   ·refine .inr ⟨args',R,?_,h2,h3⟩
    rw[<- h1]
    exact mapO_agr (frz_agr (h.sg (by simp[Ixo.cls])) (h.bx (by simp[Ixo.cls])) 8) vs (evl_refs hv h.rf)
  ·exact hE.elim
 |callv g xs=>
  simp only[evX,h.ev g (by simp[Ixo.opds]),evl_agr (ps:=xs) (fun p hp=>h.ev p (by simp[Ixo.opds,hp]))]at hE⊢
  split at hE
  ·rename_i gv vs hg hv
   split at hE
   ·rename_i hyl
    rw[h.gh rfl];exact hE
   rename_i hyl
   rcases hE with⟨g',args',R,k0,k1,h0,h1,h2,h3⟩|⟨g',args',R,h0,h1,h2,h3⟩
   ·refine .inl ⟨g',args',R,k0,k1,?_,?_,h2,h3⟩
    ·rw[<- h0]
     exact frz_agr (h.sg (by simp[Ixo.cls])) (h.bx (by simp[Ixo.cls])) 8 gv (h.rf g (by simp[Ixo.aopds]) _ hg)
    ·rw[<- h1]
     exact mapO_agr (frz_agr (h.sg (by simp[Ixo.cls])) (h.bx (by simp[Ixo.cls])) 8) vs (evl_refs hv (fun p hp=>h.rf p (by simp[Ixo.aopds,hp])))
   ·refine .inr ⟨g',args',R,?_,?_,h2,h3⟩
    ·rw[<- h0]
     exact frz_agr (h.sg (by simp[Ixo.cls])) (h.bx (by simp[Ixo.cls])) 8 gv (h.rf g (by simp[Ixo.aopds]) _ hg)
    ·rw[<- h1]
     exact mapO_agr (frz_agr (h.sg (by simp[Ixo.cls])) (h.bx (by simp[Ixo.cls])) 8) vs (evl_refs hv (fun p hp=>h.rf p (by simp[Ixo.aopds,hp])))
  ·exact hE.elim
 |len x=>
  simp only[evX,h.ev x (by simp[Ixo.opds])]at hE⊢
  split at hE
  ·exact hE
  ·exact hE
  ·rename_i i ha
   have hk:keep i=true:=h.rf x (by simp[Ixo.aopds]) _ ha
   have hi:=getD_ice (h.sg1 (by simp[Ixo.cls]) i hk)
   split at hE
   ·rename_i hr
    rw[hr]at hi
    obtain⟨b,hb⟩:=ice_row hi
    simp only[hb]
    exact hE
   ·exact hE.elim
  ·exact hE.elim
 |slen x=>simpa only[evX,h.ev x (by simp[Ixo.opds])]using hE
 |mm mx xs=>simpa only[evX,evl_agr (ps:=xs) h.ev]using hE
 |sli sz x lo hi=>
  have h1:=h.ev x (by simp[Ixo.opds])
  have h2:boV r lo=boV s lo:=bo_agr fun p hp=>h.ev p (by simp[Ixo.opds,hp])
  have h3:∀q,hi=some q->boV r (some q)=boV s (some q):=fun q e=>bo_agr fun p hp=>h.ev p (by cases hp;simp[Ixo.opds,e])
  cases hi with
  |none=>simpa only[evX,h1,h2]using hE
  |some q=>simpa only[evX,h1,h2,h3 q rfl]using hE
 |sl3 sz x hi mx=>simpa only[evX,h.ev x (by simp[Ixo.opds]),h.ev hi (by simp[Ixo.opds]),h.ev mx (by simp[Ixo.opds])]using hE
 |eqn n x=>simpa only[evX,h.ev x (by simp[Ixo.opds])]using hE
 |nilck x=>simpa only[evX,h.ev x (by simp[Ixo.opds])]using hE
 |mkm nm=>
  have hi:=getD_ice (h.sg1 (by simp[Ixo.cls]) nm (h.nm nm (by simp[Ixo.names])))
  simp only[evX]at hE⊢
  split at hE
  ·rename_i hf
   rw[hf]at hi
   simp only[ice_fresh hi]
   exact hE
  ·exact hE.elim
 |mko nm=>
  have hi:=getD_ice (h.sg1 (by simp[Ixo.cls]) nm (h.nm nm (by simp[Ixo.names])))
  simp only[evX]at hE⊢
  split at hE
  ·rename_i hf
   rw[hf]at hi
   simp only[ice_fresh hi]
   exact hE
  ·exact hE.elim
 |paddr sz m x i=>simpa only[evX,h.ev x (by simp[Ixo.opds]),h.ev i (by simp[Ixo.opds])]using hE
 |mpu kt m x v ne=>
  have e2:∀us,neOkL r us ne=neOkL s us ne:=fun us=>neL_agr ne fun p hp=>h.ev p (by simp[Ixo.opds,hp])
  simp only[evX,h.ev m (by simp[Ixo.opds]),h.ev x (by simp[Ixo.opds]),h.ev v (by simp[Ixo.opds]),e2]at hE⊢
  split at hE
  ·rename_i i kv vv hm hx hv
   have hki:keep i=true:=h.rf m (by simp[Ixo.aopds]) _ hm
   have hkv:=h.rf v (by simp[Ixo.aopds]) _ hv
   split at hE
   ·rename_i ks us z v' hr1 hz hfz
    simp only[getD_of_get? (h.sg (by simp[Ixo.cls]) i hki),hr1,reach_agr (h.sg (by simp[Ixo.cls])) vv hkv,hz,frz_reach_agr (h.sg (by simp[Ixo.cls])) 8 vv z hz hkv,hfz]
    exact hE
   ·rename_i ks us hr1
    simp only[getD_of_get? (h.sg (by simp[Ixo.cls]) i hki),hr1]
    exact hE
   ·exact hE.elim
  ·exact hE.elim
 |mrg nm m ne=>
  have e2:∀us,neOkL r us ne=neOkL s us ne:=fun us=>neL_agr ne fun p hp=>h.ev p (by simp[Ixo.opds,hp])
  simp only[evX,h.ev m (by simp[Ixo.opds]),e2,getD_of_get? (h.sg (by simp[Ixo.cls]) nm (h.nm nm (by simp[Ixo.names])))]at hE⊢
  split at hE
  ·rename_i v hf hm
   have hkv:=h.rf m (by simp[Ixo.aopds]) _ hm
   split at hE
   ·rename_i z ks us hz hfz
    simp only[reach_agr (h.sg (by simp[Ixo.cls])) v hkv,hz,frz_reach_agr (h.sg (by simp[Ixo.cls])) 8 v z hz hkv,hfz]
    exact hE
   ·exact hE.elim
  ·exact hE.elim
 |mnx x=>
  simp only[evX,h.ev x (by simp[Ixo.opds])]at hE⊢
  split at hE
  ·rename_i i hx
   have hki:keep i=true:=h.rf x (by simp[Ixo.aopds]) _ hx
   simpa only[getD_of_get? (h.sg (by simp[Ixo.cls]) i hki)]using hE
  ·exact hE.elim
 |men x=>
  simp only[evX,h.ev x (by simp[Ixo.opds])]at hE⊢
  split at hE
  ·rename_i i hx
   have hki:keep i=true:=h.rf x (by simp[Ixo.aopds]) _ hx
   have hi:=getD_ice (h.sg1 (by simp[Ixo.cls]) i hki)
   split at hE
   ·rename_i hr
    rw[hr]at hi
    simp only[ice_itr hi]
    exact hE
   ·exact hE.elim
  ·exact hE.elim
 |lkp kt ok z m x=>
  simp only[evX,h.ev m (by simp[Ixo.opds]),h.ev x (by simp[Ixo.opds])]at hE⊢
  split at hE
  ·exact hE
  ·rename_i i kv hm hx
   have hki:keep i=true:=h.rf m (by simp[Ixo.aopds]) _ hm
   have hi:=getD_ice (h.sg1 (by simp[Ixo.cls]) i hki)
   split at hE
   ·rename_i hr
    rw[hr]at hi
    obtain⟨b,hb⟩:=ice_mp hi
    simp only[hb]
    exact hE
   ·rename_i hr
    rw[hr]at hi
    simp only[ice_mpo hi]
    exact hE
   ·exact hE.elim
  ·exact hE.elim
 |stz ag n a x ne=>
  have e2:∀us,neOkL r us ne=neOkL s us ne:=fun us=>neL_agr ne fun p hp=>h.ev p (by simp[Ixo.opds,hp])
  simp only[evX,h.ev a (by simp[Ixo.opds]),h.ev x (by simp[Ixo.opds]),e2]at hE⊢
  split at hE
  ·rename_i i off v ha hx
   have hki:keep i=true:=h.rf a (by simp[Ixo.aopds]) _ ha
   simpa only[getD_of_get? (h.sg (by simp[Ixo.cls]) i hki)]using hE
  ·rename_i i sz m j v ha hx
   have hki:keep i=true:=h.rf a (by simp[Ixo.aopds]) _ ha
   have hkv:=h.rf x (by simp[Ixo.aopds]) _ hx
   split at hE
   ·rename_i el sz' es z v' hr hz hfz
    simp only[getD_of_get? (h.sg (by simp[Ixo.cls]) i hki),hr,reach_agr (h.sg (by simp[Ixo.cls])) v hkv,hz,frz_reach_agr (h.sg (by simp[Ixo.cls])) 8 v z hz hkv,hfz]
    exact hE
   ·exact hE.elim
  ·exact hE.elim
 |mlen x=>
  simp only[evX,h.ev x (by simp[Ixo.opds])]at hE⊢
  split at hE
  ·exact hE
  ·rename_i i hx
   have hki:keep i=true:=h.rf x (by simp[Ixo.aopds]) _ hx
   have hi:=getD_ice (h.sg1 (by simp[Ixo.cls]) i hki)
   split at hE
   ·rename_i hr
    rw[hr]at hi
    obtain⟨b,hb⟩:=ice_mp hi
    simp only[hb]
    exact hE
   ·exact hE.elim
  ·exact hE.elim
theorem brB_mono{b:Bool}{A B A' B':Prop}(h:brB b A B)(h1:A->A')(h2:B->B'):brB b A' B':=⟨fun e=>h1 (h.1 e),fun e=>h2 (h.2 e)⟩
theorem evX_mono{E:Env}{s:St}{z:Ixo}{κ κ':Eff->Prop}(hE:evX E z s κ)(hk:∀e,κ e -> κ' e):evX E z s κ':=by
 cases z with
 |pick c a b=>
  simp only[evX]at hE⊢
  split at hE
  ·exact brB_mono hE (hk _) (hk _)
  ·exact hE.elim
 |bin op x y=>
  simp only[evX]at hE⊢
  split at hE
  ·split at hE
   ·rename_i e;simp only[e,if_true]
    cases op<;>simp only[evBin,wrE,need]at hE⊢<;>first|exact hE.elim|exact hk _ hE|exact⟨hE.1,hk _ hE.2⟩
   ·exact hE.elim
  ·exact hE.elim
 |box nm ag x=>
  simp only[evX]at hE⊢
  split at hE
  ·cases ag
   ·exact⟨hE.1,hk _ hE.2⟩
   ·simp only[cellsK]at hE⊢
    split at hE
    ·exact hk _ hE
    ·exact hE.elim
  ·exact hE.elim
 |store ag n a x ne=>
  simp only[evX]at hE⊢
  split at hE
  ·split at hE
   ·cases ag
    ·obtain⟨h1,h2,h3⟩:=hE
     refine⟨h1,h2,?_⟩
     split at h3
     ·rename_i e;rw[if_pos e];exact hk _ h3
     ·exact h3.elim
    ·simp only[cellsK]at hE⊢
     split at hE
     ·obtain⟨h2,h3⟩:=hE
      refine⟨h2,?_⟩
      split at h3
      ·rename_i e;rw[if_pos e];exact hk _ h3
      ·exact h3.elim
     ·exact hE.elim
   ·exact hE.elim
  ·rename_i i sz m j v h1 h2
   split at hE
   ·rename_i el sz' es hr
    have key:∀vs,need (vs.all AV.one=true) (if sz'=sz/\vs.length=n/\AV.puL vs=true/\neOk s i ne=true then
      match AV.frzL s.sg 8 vs with
      |some vs'=>iaE es m fun cs=>if j+n<=cs.length then κ (.set i (.row false el sz (es.set m (splice cs j vs')))) else False
      |none=>False
     else False)->need (vs.all AV.one=true) (if sz'=sz/\vs.length=n/\AV.puL vs=true/\neOk s i ne=true then
      match AV.frzL s.sg 8 vs with
      |some vs'=>iaE es m fun cs=>if j+n<=cs.length then κ' (.set i (.row false el sz (es.set m (splice cs j vs')))) else False
      |none=>False
     else False):=fun vs hh=>by
     refine⟨hh.1,?_⟩
     have h2:=hh.2
     split at h2
     ·rename_i hc
      rw[if_pos hc]
      split at h2
      ·obtain⟨k1,k2,k3⟩:=h2
       refine⟨k1,k2,?_⟩
       split at k3
       ·rename_i k4;simp only[if_pos k4];exact hk _ k3
       ·exact k3.elim
      ·exact h2.elim
     ·exact h2.elim
    cases ag
    ·exact⟨hE.1,key _ hE.2⟩
    ·simp only[cellsK]at hE⊢
     split at hE
     ·exact key _ hE
     ·exact hE.elim
   ·exact hE.elim
  ·exact hE.elim
 |iaddr sz x i=>
  simp only[evX]at hE⊢
  split at hE
  ·obtain⟨h1,h2,hE⟩:=hE
   split at hE
   ·rename_i e;exact⟨h1,h2,by simp only[if_pos e];exact hk _ hE⟩
   ·exact hE.elim
  ·split at hE
   ·split at hE
    ·rename_i e;rw[if_pos e];exact⟨hE.1,hk _ hE.2⟩
    ·exact hE.elim
   ·exact hE.elim
  ·exact hE.elim
 |load ag n a=>
  simp only[evX]at hE⊢
  split at hE
  ·split at hE
   ·split at hE
    ·exact hk _ hE
    ·exact hE.elim
   ·exact hE.elim
  ·split at hE
   ·split at hE
    ·rename_i e
     rw[if_pos e]
     obtain⟨h1,h2,hE⟩:=hE
     refine⟨h1,h2,?_⟩
     split at hE
     ·rename_i h3;simp only[h3];exact hk _ hE
     ·exact hE.elim
    ·exact hE.elim
   ·exact hE.elim
  ·split at hE
   ·exact hk _ hE
   ·exact hE.elim
  ·exact hE.elim
 |apd nm el sz b x y ne=>
  simp only[evX]at hE⊢
  split at hE
  ·split at hE
   ·split at hE
    ·rename_i e;rw[if_pos e];exact⟨hE.1,hE.2.1,hk _ hE.2.2⟩
    ·exact hE.elim
   ·exact hE.elim
  ·exact hE.elim
 |mks nm el sz bytes zs x y=>
  simp only[evX]at hE⊢
  split at hE
  ·exact⟨hE.1,hE.2.1,hE.2.2.1,hk _ hE.2.2.2⟩
  ·exact hE.elim
 |callz nm ct f xs ne=>
  simp only[evX]at hE⊢
  split at hE
  ·split at hE
   ·rename_i e;rw[if_pos e]
    obtain⟨args',z,k1,k2,k3⟩:=hE
    refine⟨args',z,k1,k2,?_⟩
    rcases k3 with⟨R,k3,k4⟩|⟨R,k3,k4⟩|⟨R,k3,k4⟩
    ·exact .inl ⟨R,k3,fun r hr=>hk _ (k4 r hr)⟩
    ·exact .inr (.inl ⟨R,k3,fun r rows hr=>⟨(k4 r rows hr).1,hk _ (k4 r rows hr).2⟩⟩)
    ·exact .inr (.inr ⟨R,k3,fun r rows hr=>⟨(k4 r rows hr).1,(k4 r rows hr).2.1,(k4 r rows hr).2.2.1,hk _ (k4 r rows hr).2.2.2⟩⟩)
   ·exact hE.elim
  ·exact hE.elim
 |callw nm ct f xs=>
  simp only[evX]at hE⊢
  split at hE
  ·split at hE
   ·rename_i e;rw[if_pos e]
    rcases hE with⟨args',z,k1,k2,k3⟩|⟨args',R,h1,h2,h3⟩|⟨args',R,k2,k3,k4⟩|⟨lend,⟨ns,args',ins,R,h1,hlen,hnd,hh,hib,hlive,ha,hb,h2⟩⟩|⟨args',z,k1,k2,k3⟩
    ·refine .inl ⟨args',z,k1,k2,?_⟩
     rcases k3 with⟨R,k3,k4⟩|⟨R,k3,k4⟩|⟨R,k3,k4⟩
     ·exact .inl ⟨R,k3,fun r hr=>hk _ (k4 r hr)⟩
     ·exact .inr (.inl ⟨R,k3,fun r rows hr=>⟨(k4 r rows hr).1,hk _ (k4 r rows hr).2⟩⟩)
     ·exact .inr (.inr ⟨R,k3,fun r rows hr=>⟨(k4 r rows hr).1,(k4 r rows hr).2.1,(k4 r rows hr).2.2.1,hk _ (k4 r rows hr).2.2.2⟩⟩)
    ·exact .inr (.inl ⟨args',R,h1,h2,fun r hr=>⟨(h3 r hr).1,hk _ (h3 r hr).2⟩⟩)
    ·exact .inr (.inr (.inl ⟨args',R,k2,k3,fun r rows hr=>⟨(k4 r rows hr).1,(k4 r rows hr).2.1,(k4 r rows hr).2.2.1,hk _ (k4 r rows hr).2.2.2⟩⟩))
    ·exact .inr (.inr (.inr (.inl ⟨lend,⟨ns,args',ins,R,h1,hlen,hnd,hh,hib,hlive,ha,hb,fun r outs hr=>by
      obtain⟨c1,c2,c3,c4,c5,c6⟩:=h2 r outs hr
      exact⟨c1,c2,c3,c4,c5,hk _ c6⟩⟩⟩)))
    ·refine .inr (.inr (.inr (.inr ⟨args',z,k1,k2,?_⟩)))
     rcases k3 with⟨R,k3,k4⟩|⟨R,k3,k4⟩|⟨R,k3,k4⟩
     ·exact .inl ⟨R,k3,fun r hr=>hk _ (k4 r hr)⟩
     ·exact .inr (.inl ⟨R,k3,fun r rows hr=>⟨(k4 r rows hr).1,hk _ (k4 r rows hr).2⟩⟩)
     ·exact .inr (.inr ⟨R,k3,fun r rows hr=>⟨(k4 r rows hr).1,(k4 r rows hr).2.1,(k4 r rows hr).2.2.1,hk _ (k4 r rows hr).2.2.2⟩⟩)
   ·exact hE.elim
  ·exact hE.elim
 |callx g xs=>
  simp only[evX]at hE⊢
  split at hE
  ·split at hE
   ·rcases hE with⟨h0,v,z,k',h1,h2,h3,h4⟩|hE
    ·exact .inl ⟨h0,v,z,k',h1,h2,hk _ h3,hk _ h4⟩
    ·obtain⟨h0,i,el,sz,es,k',q1,q2,q3,q4,q5,q6⟩:=hE.out
     exact .inr ⟨h0,i,el,sz,es,k',q1,q2,q3,q4,hk _ q5,hk _ q6⟩
   ·rcases hE with((⟨g',args',R,h0,h1,h0',h1',h2,h3⟩|⟨g',args',R,h0,h1,h2,h3⟩)|⟨f,caps,lend,e,hb',⟨ns,args',ins,R,h1,hlen,hnd,hh,hib,hlive,ha,hb,h2⟩⟩)|hE
    ·exact .inl (.inl (.inl ⟨g',args',R,h0,h1,h0',h1',h2,fun r hr=>hk _ (h3 r hr)⟩))
    ·exact .inl (.inl (.inr ⟨g',args',R,h0,h1,h2,fun r hr=>⟨(h3 r hr).1,hk _ (h3 r hr).2⟩⟩))
    ·exact .inl (.inr ⟨f,caps,lend,e,hb',⟨ns,args',ins,R,h1,hlen,hnd,hh,hib,hlive,ha,hb,fun r outs hr=>by
      obtain⟨c1,c2,c3,c4,c5,c6⟩:=h2 r outs hr
      exact⟨c1,c2,c3,c4,c5,hk _ c6⟩⟩⟩)
    ·obtain⟨h0,f,caps,ns,args',ins,R,q1,q2,q3,q4,q5,q6,q7,q8,q9,q10,q11⟩:=hE.out
     exact .inr ⟨h0,f,caps,ns,args',ins,R,q1,q2,q3,q4,q5,q6,q7,q8,q9,q10,fun r outs k' st' hr=>by
      obtain⟨c1,c2,c3,c4⟩:=q11 r outs k' st' hr
      exact⟨c1,c2,c3,hk _ c4⟩⟩
  ·exact hE.elim
 |aidx ag n m x i=>
  simp only[evX]at hE⊢
  split at hE
  ·obtain⟨v,h0,h1,h2,h3⟩:=hE.out
   exact⟨v,h0,h1,h2,hk _ h3⟩
  ·exact hE.elim
 |sidx x i=>
  simp only[evX]at hE⊢
  split at hE
  ·obtain⟨h0,h1,h3⟩:=hE.out
   exact⟨h0,h1,hk _ h3⟩
  ·exact hE.elim
 |sl3 sz x hi mx=>
  simp only[evX]at hE⊢
  split at hE
  ·exact⟨hE.1,hE.2.1,hE.2.2.1,hE.2.2.2.1,hE.2.2.2.2.1,hk _ hE.2.2.2.2.2⟩
  ·exact hE.elim
 |eqn n x=>
  simp only[evX]at hE⊢
  split at hE
  ·exact hk _ hE
  ·exact⟨hE.1,hk _ hE.2⟩
  ·exact hk _ hE
  ·exact hE.elim
 |sli sz x lo hi=>
  simp only[evX]at hE⊢
  split at hE
  ·cases hi with
   |none=>exact⟨hE.1,hE.2.1,hE.2.2.1,hE.2.2.2.1,hk _ hE.2.2.2.2⟩
   |some q=>
    simp only at hE⊢
    split at hE
    ·exact⟨hE.1,hE.2.1,hE.2.2.1,hE.2.2.2.1,hk _ hE.2.2.2.2⟩
    ·exact hE.elim
  ·exact hE.elim
 |call f xs=>
  simp only[evX]at hE⊢
  split at hE
  ·rcases hE with⟨args',R,h1,h1',h2,h3⟩|⟨args',R,h1,h2,h3⟩
   ·exact .inl ⟨args',R,h1,h1',h2,fun r hr=>hk _ (h3 r hr)⟩
   ·exact .inr ⟨args',R,h1,h2,fun r hr=>⟨(h3 r hr).1,hk _ (h3 r hr).2⟩⟩
  ·exact hE.elim
 |callv g xs=>
  simp only[evX]at hE⊢
  split at hE
  ·split at hE
   ·obtain⟨h0,k',h1,h2,h3,h4⟩:=hE
    exact⟨h0,k',h1,h2,hk _ h3,hk _ h4⟩
   rcases hE with⟨g',args',R,h0,h1,h0',h1',h2,h3⟩|⟨g',args',R,h0,h1,h2,h3⟩
   ·exact .inl ⟨g',args',R,h0,h1,h0',h1',h2,fun r hr=>hk _ (h3 r hr)⟩
   ·exact .inr ⟨g',args',R,h0,h1,h2,fun r hr=>⟨(h3 r hr).1,hk _ (h3 r hr).2⟩⟩
  ·exact hE.elim
 |mpu kt m x v ne=>
  simp only[evX]at hE⊢
  split at hE
  ·split at hE
   ·split at hE
    ·rename_i e;rw[if_pos e]
     obtain⟨a,b,h1,h2⟩:=hE.out
     exact mpI h1 (hk _ h2)
    ·exact hE.elim
   ·split at hE
    ·rename_i e;rw[if_pos e]
     obtain⟨a,b,h1,h2⟩:=hE.out
     exact mpI h1 (hk _ h2)
    ·exact hE.elim
   ·exact hE.elim
  ·exact hE.elim
 |stz ag n a x ne=>
  simp only[evX]at hE⊢
  split at hE
  ·split at hE
   ·split at hE
    ·rename_i e;rw[if_pos e]
     exact cellsK_mono' (fun vs hh=>⟨hh.1,by
      have h3:=hh.2
      split at h3
      ·rename_i e3;rw[if_pos e3];exact hk _ h3
      ·exact h3.elim⟩) hE
    ·exact hE.elim
   ·exact hE.elim
  ·split at hE
   ·split at hE
    ·rename_i e;rw[if_pos e]
     exact cellsK_mono' (fun vs hh=>⟨hh.1,by
      have h3:=hh.2
      split at h3
      ·rename_i e3;rw[if_pos e3]
       obtain⟨k1,k2,k3⟩:=h3
       refine⟨k1,k2,?_⟩
       split at k3
       ·rename_i e4;simp only[if_pos e4];exact hk _ k3
       ·exact k3.elim
      ·exact h3.elim⟩) hE
    ·exact hE.elim
   ·exact hE.elim
  ·exact hE.elim
 |mrg nm m ne=>
  simp only[evX]at hE⊢
  split at hE
  ·split at hE
   ·split at hE
    ·rename_i e;rw[if_pos e];exact hk _ hE
    ·exact hE.elim
   ·exact hE.elim
  ·exact hE.elim
 |mnx x=>
  simp only[evX]at hE⊢
  split at hE
  ·split at hE
   ·exact nxI (fun j kv uv h1 h2 h3=>hk _ (hE.some j kv uv h1 h2 h3)) (fun h1=>hk _ (hE.none h1))
   ·exact hE.elim
  ·exact hE.elim
 |lkp kt ok z m x=>
  simp only[evX]at hE⊢
  split at hE
  ·obtain⟨r,h1,h2⟩:=hE.out
   exact lkI h1 (hk _ h2)
  ·split at hE
   ·obtain⟨r,h1,h2⟩:=hE.out
    exact lkI h1 (hk _ h2)
   ·obtain⟨r,h1,h2⟩:=hE.out
    exact lkI h1 (hk _ h2)
   ·exact hE.elim
  ·exact hE.elim
 |paddr sz m x i=>
  simp only[evX]at hE⊢
  split at hE
  ·exact⟨hE.1,hk _ hE.2⟩
  ·exact⟨hE.1,hk _ hE.2⟩
  ·exact hE.elim
 |_=>
  simp only[evX,wrE]at hE⊢
  repeat (split at hE<;>first|exact hE.elim|exact hk _ hE|skip)
def upds:Eff->List (Nat × Res)
 |.val _=>[]
 |.new nm r _=>[(nm,r)]
 |.set i r=>[(i,r)]
 |.big l _=>l
 |.yl _ _=>[]
 |.ylz l _ _=>l
def Shape(z:Ixo)(s:St)(e:Eff):Prop:=
 ∀p∈upds e,p.2 ≠ .fresh/\p.1<s.sg.length/\((p.1∈z.names/\s.sg.getD p.1 .dead = .fresh)\/(3<=z.cls/\(∃q∈z.aopds,∃v,s.ev q=some v/\v.has p.1=true)/\(z.hard=false->p.2=(s.sg.getD p.1 .fresh).ice)))
theorem Shape.val{z:Ixo}{s:St}{v:AV}:Shape z s (.val v):=fun p hp=>by cases hp
mutual
theorem reach_has{sg:List Res}:∀(v:AV) (z:List (Nat × Res)),v.reach sg=some z->∀p∈z,(v.refsIn fun j=>j != p.1)=false/\p.2 ≠ .fresh
 |.own i off,z,h,p,hp=>by
  simp only[AV.reach]at h
  split at h
  ·split at h<;>cases h
   simp only[List.mem_singleton]at hp;subst hp
   simp[AV.refsIn]
  ·cases h
 |.row i,z,h,p,hp=>by
  simp only[AV.reach]at h
  split at h<;>cases h
  all_goals
   simp only[List.mem_singleton]at hp;subst hp
   simp[AV.refsIn]
 |.agg cs,z,h,p,hp=>by simp only[AV.reach]at h;exact reachL_has cs z h p hp
 |.tup cs,z,h,p,hp=>by simp only[AV.reach]at h;exact reachL_has cs z h p hp
 |.fn _ cs,z,h,p,hp=>by simp only[AV.reach]at h;exact reachL_has cs z h p hp
 |.elt _ _ _ _,z,h,_,_=>by simp[AV.reach]at h
 |.yld,z,h,_,_=>by simp[AV.reach]at h
 |.gone,z,h,_,_=>by simp[AV.reach]at h
 |.bool _,z,h,p,hp=>by simp only[AV.reach,Option.some.injEq]at h;subst h;cases hp
 |.int _ _,z,h,p,hp=>by simp only[AV.reach,Option.some.injEq]at h;subst h;cases hp
 |.str _,z,h,p,hp=>by simp only[AV.reach,Option.some.injEq]at h;subst h;cases hp
 |.lit _,z,h,p,hp=>by simp only[AV.reach,Option.some.injEq]at h;subst h;cases hp
 |.isl _,z,h,p,hp=>by simp only[AV.reach,Option.some.injEq]at h;subst h;cases hp
 |.nils,z,h,p,hp=>by simp only[AV.reach,Option.some.injEq]at h;subst h;cases hp
 |.ipt _,z,h,p,hp=>by simp only[AV.reach,Option.some.injEq]at h;subst h;cases hp
 |.imp _ _,z,h,p,hp=>by simp only[AV.reach,Option.some.injEq]at h;subst h;cases hp
 |.tsl _ _,z,h,p,hp=>by simp only[AV.reach,Option.some.injEq]at h;subst h;cases hp
 |.mth _ _,z,h,p,hp=>by simp only[AV.reach,Option.some.injEq]at h;subst h;cases hp
 |.any,z,h,p,hp=>by simp only[AV.reach,Option.some.injEq]at h;subst h;cases hp
theorem reachL_has{sg:List Res}:∀(as:List AV) (z:List (Nat × Res)),AV.reachL sg as=some z->∀p∈z,AV.refsInL (fun j=>j != p.1) as=false/\p.2 ≠ .fresh
 | [],z,h,p,hp=>by simp only[AV.reachL,Option.some.injEq]at h;subst h;cases hp
 |a::as,z,h,p,hp=>by
  simp only[AV.reachL]at h
  split at h<;>cases h
  rename_i x y h1 h2
  simp only[AV.refsInL,Bool.and_eq_false_iff]
  rcases List.mem_append.1 hp with hp|hp
  ·have:=reach_has a x h1 p hp;exact⟨.inl this.1,this.2⟩
  ·have:=reachL_has as y h2 p hp;exact⟨.inr this.1,this.2⟩
end
theorem refsL_mem{keep:Nat->Bool}:∀ {as:List AV},AV.refsInL keep as=false->∃a∈as,a.refsIn keep=false
 | [],h=>by simp[AV.refsInL]at h
 |a::as,h=>by
  simp only[AV.refsInL,Bool.and_eq_false_iff]at h
  rcases h with h|h
  ·exact⟨a,by simp,h⟩
  ·obtain⟨b,h1,h2⟩:=refsL_mem h;exact⟨b,by simp[h1],h2⟩
theorem evl_mem{s:St}:∀ {ps:List Opd} {vs:List AV},s.evl ps=some vs->∀v∈vs,∃p∈ps,s.ev p=some v
 | [],vs,h,v,hv=>by simp only[St.evl,Option.some.injEq]at h;subst h;cases hv
 |p::ps,vs,h,v,hv=>by
  simp only[St.evl]at h
  split at h<;>cases h
  rename_i u us h1 h2
  rcases List.mem_cons.1 hv with rfl|hv
  ·exact⟨p,by simp,h1⟩
  ·obtain⟨q,h3,h4⟩:=evl_mem h2 v hv;exact⟨q,by simp[h3],h4⟩
theorem evl_get{s:St}:∀ {ps:List Opd} {vs:List AV},s.evl ps=some vs->∀p∈ps,∃v,s.ev p=some v/\v∈vs
 | [],vs,h,p,hp=>by cases hp
 |q::ps,vs,h,p,hp=>by
  simp only[St.evl]at h
  split at h<;>cases h
  rename_i u us h1 h2
  rcases List.mem_cons.1 hp with rfl|hp
  ·exact⟨u,h1,by simp⟩
  ·obtain⟨v,h3,h4⟩:=evl_get h2 p hp;exact⟨v,h3,by simp[h4]⟩
theorem rows_has{sg:List Res}{sz:Nat}:∀ {vs:List AV} {es:List (List AV)} {z:List (Nat × Res)},rowsO sg sz vs=some (es,z)->∀p∈z,p.2 ≠ .fresh/\p.1<sg.length/\p.2=(sg.getD p.1 .fresh).ice/\∃v∈vs,v.has p.1=true
 | [],es,z,h,p,hp=>by simp only[rowsO,Option.some.injEq,Prod.mk.injEq]at h;obtain⟨_,rfl⟩:=h;cases hp
 |v::vs,es,z,h,p,hp=>by
  simp only[rowsO]at h
  split at h
  ·rename_i cs hc
   split at h<;>cases h
   rename_i z1 cs' es' z2 k1 k2 k3
   rcases List.mem_append.1 hp with hp|hp
   ·have h1:=reachL_has cs z1 k1 p hp
    refine⟨h1.2,(reachL_iced cs z1 k1 p hp).1,(reachL_iced cs z1 k1 p hp).2.1,v,by simp,?_⟩
    have:(v.refsIn fun j=>j != p.1)=false:=by
     cases hr:v.refsIn fun j=>j != p.1 with
     |false=>rfl
     |true=>rw[cellsO_refs hc hr]at h1;simp at h1
    simp[AV.has,this]
   ·obtain⟨h1,h2,h5,u,h3,h4⟩:=rows_has k3 p hp
    exact⟨h1,h2,h5,u,by simp[h3],h4⟩
  ·cases h
theorem new_shape{z:Ixo}{s:St}{nm:Nat}{r:Res}{v:AV}(h:nm∈z.names)(hf:s.sg.getD nm .dead = .fresh)(hr:r ≠ .fresh):Shape z s (.new nm r v):=fun p hp=>by
 simp only[upds,List.mem_singleton]at hp;subst hp
 exact⟨hr,(getD_dead hf (by simp)).2, .inl ⟨h,hf⟩⟩
theorem set_shape{z:Ixo}{s:St}{ag:Bool}{n i:Nat}{a x:Opd}{ne:List Opd}{q r:Res}{v:AV}(hz:z = .store ag n a x ne)(ha:s.ev a=some v)(hv:v.has i=true)(hr:s.sg.getD i .dead=q)(hq:q ≠ .dead)(hf:r ≠ .fresh):Shape z s (.set i r):=fun p hp=>by
 simp only[upds,List.mem_singleton]at hp;subst hp
 subst hz
 exact⟨hf,(getD_dead hr hq).2, .inr ⟨by simp[Ixo.cls],⟨a,by simp[Ixo.aopds],v,ha,hv⟩,fun e=>by simp[Ixo.hard]at e⟩⟩
def Det(E:Env)(z:Ixo)(s:St)(κ : Eff->Prop):Prop:=
 ∃e,κ e/\(∀ κ':Eff->Prop,κ' e->evX E z s κ')/\Shape z s e/\e.isYl=false
theorem Det.val{E:Env}{z:Ixo}{s:St}{κ : Eff->Prop}{v:AV}(h : κ (.val v))(k:∀ κ':Eff->Prop,κ' (.val v)->evX E z s κ'):Det E z s κ :=⟨_,h,k,Shape.val,rfl⟩
theorem cellsK_out{ag:Bool}{v:AV}{K:List AV->Prop}(h:cellsK ag v K):∃vs,K vs/\∀K':List AV->Prop,K' vs->cellsK ag v K':=by
 cases ag with
 |true=>
  simp only[cellsK]at h
  split at h
  ·exact⟨_,h,fun K' h'=>h'⟩
  ·exact h.elim
 |false=>exact⟨[v],h.2,fun K' h'=>⟨h.1,h'⟩⟩
theorem evX_det{E:Env}{s:St}{z:Ixo}{κ : Eff->Prop}(hE:evX E z s κ)(hc:z.cls≠2/\z.cls≠5):Det E z s κ :=by
 cases z with
 |pick c a b=>
  simp only[evX]at hE
  split at hE
  ·rename_i c' x y h1 h2 h3
   cases c' with
   |true=>exact .val (hE.1 rfl) fun κ' k=>by simp only[evX,h1,h2,h3];exact brB_t k
   |false=>exact .val (hE.2 rfl) fun κ' k=>by simp only[evX,h1,h2,h3];exact brB_f k
  ·exact hE.elim
 |bin op x y=>
  simp only[evX]at hE
  split at hE
  ·rename_i h1 h2
   split at hE
   ·rename_i e
    cases op<;>simp only[evBin,wrE,need]at hE<;>first|exact hE.elim|skip
    all_goals first
     |exact .val hE.2 fun κ' k=>by simp only[evX,h1,h2,e,if_true,evBin,wrE,need];exact⟨hE.1,k⟩
     |exact .val hE fun κ' k=>by simp only[evX,h1,h2,e,if_true,evBin,wrE];exact k
   ·exact hE.elim
  ·exact hE.elim
 |mks nm el sz bytes zs x y=>
  simp only[evX]at hE
  split at hE
  ·rename_i h1 h2 h3
   obtain⟨e1,e2,e3,hE⟩:=hE
   exact⟨_,hE,fun κ' k=>by simp only[evX,h1,h2,h3];exact⟨e1,e2,e3,k⟩,new_shape (by simp[Ixo.names]) h1 (by simp),rfl⟩
  ·exact hE.elim
 |alloc nm zs=>
  simp only[evX]at hE
  split at hE
  ·rename_i h1
   exact⟨_,hE,fun κ' k=>by simp only[evX,h1];exact k,new_shape (by simp[Ixo.names]) h1 (by simp),rfl⟩
  ·exact hE.elim
 |box nm ag x=>
  simp only[evX]at hE
  split at hE
  ·rename_i v h1 h2
   cases ag
   ·exact⟨_,hE.2,fun κ' k=>by simp only[evX,h1,h2];exact⟨hE.1,k⟩,new_shape (by simp[Ixo.names]) h2 (by simp),rfl⟩
   ·simp only[cellsK]at hE
    split at hE
    ·exact⟨_,hE,fun κ' k=>by simp only[evX,h1,h2];exact k,new_shape (by simp[Ixo.names]) h2 (by simp),rfl⟩
    ·exact hE.elim
  ·exact hE.elim
 |iaddr sz x i=>
  simp only[evX]at hE
  split at hE
  ·rename_i h1 h2
   obtain⟨h3,h4,hE⟩:=hE
   split at hE
   ·rename_i e
    exact .val hE fun κ' k=>by simp only[evX,h1,h2];exact⟨h3,h4,by simp only[if_pos e];exact k⟩
   ·exact hE.elim
  ·rename_i h1 h2
   split at hE
   ·rename_i h3
    split at hE
    ·rename_i e
     exact .val hE.2 fun κ' k=>by simp only[evX,h1,h2,h3,if_pos e];exact⟨hE.1,k⟩
    ·exact hE.elim
   ·exact hE.elim
  ·exact hE.elim
 |sl3 sz x hi mx=>
  simp only[evX]at hE
  split at hE
  ·rename_i h1 h2 h3
   exact .val hE.2.2.2.2.2 fun κ' k=>by simp only[evX,h1,h2,h3];exact⟨hE.1,hE.2.1,hE.2.2.1,hE.2.2.2.1,hE.2.2.2.2.1,k⟩
  ·exact hE.elim
 |eqn n x=>
  simp only[evX]at hE
  split at hE
  ·rename_i h1
   exact .val hE fun κ' k=>by simp only[evX,h1];exact k
  ·rename_i h1
   exact .val hE.2 fun κ' k=>by simp only[evX,h1];exact⟨hE.1,k⟩
  ·rename_i h1
   exact .val hE fun κ' k=>by simp only[evX,h1];exact k
  ·exact hE.elim
 |sli sz x lo hi=>
  simp only[evX]at hE
  split at hE
  ·rename_i h1 h2
   cases hi with
   |none=>exact .val hE.2.2.2.2 fun κ' k=>by simp only[evX,h1,h2];exact⟨hE.1,hE.2.1,hE.2.2.1,hE.2.2.2.1,k⟩
   |some q=>
    simp only at hE
    split at hE
    ·rename_i h3
     exact .val hE.2.2.2.2 fun κ' k=>by simp only[evX,h1,h2,h3];exact⟨hE.1,hE.2.1,hE.2.2.1,hE.2.2.2.1,k⟩
    ·exact hE.elim
  ·exact hE.elim
 |mm mx xs=>
  simp only[evX]at hE
  split at hE
  ·rename_i h1
   split at hE
   ·rename_i h2
    exact .val hE fun κ' k=>by simp only[evX,h1,h2];exact k
   ·exact hE.elim
  ·exact hE.elim
 |load ag n a=>
  simp only[evX]at hE
  split at hE
  ·rename_i h1
   split at hE
   ·rename_i h2
    split at hE
    ·rename_i h3
     exact .val hE fun κ' k=>by simp only[evX,h1,h2,h3];exact k
    ·exact hE.elim
   ·exact hE.elim
  ·rename_i h1
   split at hE
   ·rename_i h2
    split at hE
    ·rename_i e
     obtain⟨k1,k2,hE⟩:=hE
     split at hE
     ·rename_i h3
      exact .val hE fun κ' k=>by simp only[evX,h1,h2,if_pos e];exact⟨k1,k2,by simp only[h3];exact k⟩
     ·exact hE.elim
    ·exact hE.elim
   ·exact hE.elim
  ·rename_i h1
   split at hE
   ·rename_i h3
    exact .val hE fun κ' k=>by simp only[evX,h1,h3];exact k
   ·exact hE.elim
  ·exact hE.elim
 |field ag n off x=>
  simp only[evX]at hE
  split at hE
  ·rename_i h1
   split at hE
   ·rename_i h3
    exact .val hE fun κ' k=>by simp only[evX,h1,h3];exact k
   ·exact hE.elim
  ·exact hE.elim
 |extract i x=>
  simp only[evX]at hE
  split at hE
  ·rename_i h1
   split at hE
   ·rename_i h3
    exact .val hE fun κ' k=>by simp only[evX,h1,h3];exact k
   ·exact hE.elim
  ·exact hE.elim
 |len x=>
  simp only[evX]at hE
  split at hE
  ·rename_i h1
   exact .val hE fun κ' k=>by simp only[evX,h1];exact k
  ·rename_i h1
   exact .val hE fun κ' k=>by simp only[evX,h1];exact k
  ·rename_i h1
   split at hE
   ·rename_i h3
    exact .val hE fun κ' k=>by simp only[evX,h1,h3];exact k
   ·exact hE.elim
  ·exact hE.elim
 |eqs n T x y=>
  simp only[evX]at hE
  split at hE
  ·rename_i h1 h2
   split at hE
   ·rename_i h3
    exact .val hE fun κ' k=>by simp only[evX,h1,h2,h3];exact k
   ·exact hE.elim
  ·exact hE.elim
 |eqb n x y=>
  simp only[evX]at hE
  split at hE
  ·rename_i h1 h2
   exact .val hE fun κ' k=>by simp only[evX,h1,h2];exact k
  ·exact hE.elim
 |un op x=>
  simp only[evX,wrE]at hE
  split at hE
  ·rename_i h1
   exact .val hE fun κ' k=>by simp only[evX,h1];exact k
  ·rename_i h1
   exact .val hE fun κ' k=>by simp only[evX,h1,wrE];exact k
  ·exact hE.elim
 |call _ _=>simp[Ixo.cls]at hc
 |callv _ _=>simp[Ixo.cls]at hc
 |callz _ _ _ _ _=>simp[Ixo.cls]at hc
 |callw _ _ _ _=>simp[Ixo.cls]at hc
 |callx _ _=>simp[Ixo.cls]at hc
 |aidx ag n m x i=>
  simp only[evX]at hE
  split at hE
  ·rename_i h1 h2
   obtain⟨v,k0,k1,k2,k3⟩:=hE.out
   exact .val k3 fun κ' k=>by simp only[evX,h1,h2];exact⟨v,k0,k1,k2,k⟩
  ·exact hE.elim
 |sidx x i=>
  simp only[evX]at hE
  split at hE
  ·rename_i h1 h2
   obtain⟨k0,k1,k3⟩:=hE.out
   exact .val k3 fun κ' k=>by simp only[evX,h1,h2];exact⟨k0,k1,k⟩
  ·exact hE.elim
 |mnx _=>simp[Ixo.cls]at hc
 |mko nm=>
  simp only[evX]at hE
  split at hE
  ·rename_i h1
   exact⟨_,hE,fun κ' k=>by simp only[evX,h1];exact k,new_shape (by simp[Ixo.names]) h1 (by simp),rfl⟩
  ·exact hE.elim
 |paddr sz m x i=>
  simp only[evX]at hE
  split at hE
  ·rename_i h1 h2
   obtain⟨h3,h4⟩:=hE
   exact .val h4 fun κ' k=>by simp only[evX,h1,h2];exact⟨h3,k⟩
  ·rename_i h1 h2
   obtain⟨h3,h4⟩:=hE
   exact .val h4 fun κ' k=>by simp only[evX,h1,h2];exact⟨h3,k⟩
  ·exact hE.elim
 |mkm nm=>
  simp only[evX]at hE
  split at hE
  ·rename_i h1
   exact⟨_,hE,fun κ' k=>by simp only[evX,h1];exact k,new_shape (by simp[Ixo.names]) h1 (by simp),rfl⟩
  ·exact hE.elim
 |mpu kt m x v ne=>
  simp only[evX]at hE
  split at hE
  ·rename_i i kv vv h1 h2 h3
   split at hE
   ·rename_i ks us z v' h4 h5 h6
    split at hE
    ·rename_i e
     obtain⟨ks',us',h7,h8⟩:=hE.out
     refine⟨_,h8,fun κ' k=>by simp only[evX,h1,h2,h3,h4,h5,h6,if_pos e];exact mpI h7 k,fun p hp=>?_,rfl⟩
     simp only[upds,List.mem_append,List.mem_singleton]at hp
     rcases hp with hp|rfl
     ·have h9:=reach_has vv z h5 p hp
      exact⟨h9.2,(reach_iced vv z h5 p hp).1, .inr ⟨by simp[Ixo.cls],⟨v,by simp[Ixo.aopds],_,h3,by simp[AV.has,h9.1]⟩,fun e=>by simp[Ixo.hard]at e⟩⟩
     ·exact⟨by simp,(getD_dead h4 (by simp)).2, .inr ⟨by simp[Ixo.cls],⟨m,by simp[Ixo.aopds],_,h1,by simp[AV.has,AV.refsIn]⟩,fun e=>by simp[Ixo.hard]at e⟩⟩
    ·exact hE.elim
   ·rename_i ks us h4
    split at hE
    ·rename_i e
     obtain⟨ks',us',h7,h8⟩:=hE.out
     refine⟨_,h8,fun κ' k=>by simp only[evX,h1,h2,h3,h4,if_pos e];exact mpI h7 k,fun p hp=>?_,rfl⟩
     simp only[upds,List.mem_singleton]at hp
     subst hp
     exact⟨by simp,(getD_dead h4 (by simp)).2, .inr ⟨by simp[Ixo.cls],⟨m,by simp[Ixo.aopds],_,h1,by simp[AV.has,AV.refsIn]⟩,fun e=>by simp[Ixo.hard]at e⟩⟩
    ·exact hE.elim
   ·exact hE.elim
  ·exact hE.elim
 |mrg nm m ne=>
  simp only[evX]at hE
  split at hE
  ·rename_i v h1 h2
   split at hE
   ·rename_i z ks us h5 h6
    split at hE
    ·rename_i e
     refine⟨_,hE,fun κ' k=>by simp only[evX,h1,h2,h5,h6,if_pos e];exact k,fun p hp=>?_,rfl⟩
     simp only[upds,List.mem_append,List.mem_singleton]at hp
     rcases hp with hp|rfl
     ·have h9:=reach_has v z h5 p hp
      exact⟨h9.2,(reach_iced v z h5 p hp).1, .inr ⟨by simp[Ixo.cls],⟨m,by simp[Ixo.aopds],_,h2,by simp[AV.has,h9.1]⟩,fun _=>(reach_iced v z h5 p hp).2.1⟩⟩
     ·exact⟨by simp,(getD_dead h1 (by simp)).2, .inl ⟨by simp[Ixo.names],h1⟩⟩
    ·exact hE.elim
   ·exact hE.elim
  ·exact hE.elim
 |stz ag n a x ne=>
  simp only[evX]at hE
  split at hE
  ·rename_i i off v h1 h2
   split at hE
   ·rename_i cs h3
    split at hE
    ·rename_i e
     obtain⟨vs,hc,hc2⟩:=cellsK_out hE
     obtain⟨h5,h6⟩:=hc
     split at h6
     ·rename_i h7
      refine⟨_,h6,fun κ' k=>by simp only[evX,h1,h2,h3,if_pos e];exact hc2 _ ⟨h5,by rw[if_pos h7];exact k⟩,fun p hp=>?_,rfl⟩
      simp only[upds,List.mem_singleton]at hp;subst hp
      exact⟨by simp,(getD_dead h3 (by simp)).2, .inr ⟨by simp[Ixo.cls],⟨a,by simp[Ixo.aopds],_,h1,by simp[AV.has,AV.refsIn]⟩,fun e=>by simp[Ixo.hard]at e⟩⟩
     ·exact h6.elim
    ·exact hE.elim
   ·exact hE.elim
  ·rename_i i sz m j v h1 h2
   split at hE
   ·rename_i el sz' es z v' h3 h4 h5
    split at hE
    ·rename_i e
     obtain⟨vs,hc,hc2⟩:=cellsK_out hE
     obtain⟨h6,h7⟩:=hc
     split at h7
     ·rename_i h8
      obtain⟨k1,k2,k3⟩:=h7
      split at k3
      ·rename_i k4
       refine⟨_,k3,fun κ' k=>by simp only[evX,h1,h2,h3,h4,h5,if_pos e];exact hc2 _ ⟨h6,by rw[if_pos h8];exact⟨k1,k2,by simp only[if_pos k4];exact k⟩⟩,fun p hp=>?_,rfl⟩
       simp only[upds,List.mem_append,List.mem_singleton]at hp
       rcases hp with hp|rfl
       ·have h9:=reach_has v z h4 p hp
        exact⟨h9.2,(reach_iced v z h4 p hp).1, .inr ⟨by simp[Ixo.cls],⟨x,by simp[Ixo.aopds],_,h2,by simp[AV.has,h9.1]⟩,fun e=>by simp[Ixo.hard]at e⟩⟩
       ·exact⟨by simp,(getD_dead h3 (by simp)).2, .inr ⟨by simp[Ixo.cls],⟨a,by simp[Ixo.aopds],_,h1,by simp[AV.has,AV.refsIn]⟩,fun e=>by simp[Ixo.hard]at e⟩⟩
      ·exact k3.elim
     ·exact h7.elim
    ·exact hE.elim
   ·exact hE.elim
  ·exact hE.elim
 |men x=>
  simp only[evX]at hE
  split at hE
  ·rename_i h1
   split at hE
   ·rename_i h2
    exact .val hE fun κ' k=>by simp only[evX,h1,h2];exact k
   ·exact hE.elim
  ·exact hE.elim
 |lkp kt ok z m x=>
  simp only[evX]at hE
  split at hE
  ·rename_i h1 h2
   obtain⟨r,h3,h4⟩:=hE.out
   exact .val h4 fun κ' k=>by simp only[evX,h1,h2];exact lkI h3 k
  ·rename_i h1 h2
   split at hE
   ·rename_i h5
    obtain⟨r,h3,h4⟩:=hE.out
    exact .val h4 fun κ' k=>by simp only[evX,h1,h2,h5];exact lkI h3 k
   ·rename_i h5
    obtain⟨r,h3,h4⟩:=hE.out
    exact .val h4 fun κ' k=>by simp only[evX,h1,h2,h5];exact lkI h3 k
   ·exact hE.elim
  ·exact hE.elim
 |mlen x=>
  simp only[evX]at hE
  split at hE
  ·rename_i h1
   exact .val hE fun κ' k=>by simp only[evX,h1];exact k
  ·rename_i h1
   split at hE
   ·rename_i h3
    exact .val hE fun κ' k=>by simp only[evX,h1,h3];exact k
   ·exact hE.elim
  ·exact hE.elim
 |bsl nm el sz ps ne=>
  simp only[evX]at hE
  split at hE
  ·rename_i vs h1 h2
   split at hE
   ·rename_i es z h3 h4
    refine⟨_,hE,fun κ' k=>by simp only[evX,h1,h2,h3,h4];exact k,fun p hp=>?_,rfl⟩
    simp only[upds,List.mem_append,List.mem_singleton]at hp
    rcases hp with hp|rfl
    ·obtain⟨k1,k2,k7,v,k3,k4⟩:=rows_has h3 p hp
     obtain⟨q,k5,k6⟩:=evl_mem h2 v k3
     exact⟨k1,k2, .inr ⟨by simp[Ixo.cls],⟨q,k5,v,k6,k4⟩,fun _=>k7⟩⟩
    ·exact⟨by simp,(getD_dead h1 (by simp)).2, .inl ⟨by simp[Ixo.names],h1⟩⟩
   ·exact hE.elim
  ·exact hE.elim
 |apd nm el sz b x y ne=>
  simp only[evX]at hE
  split at hE
  ·rename_i u v h1 h2 h3
   split at hE
   ·rename_i es z es' h4 h5
    split at hE
    ·rename_i e
     cases hN:apdN u es' with
     |true=>
      rw[hN]at hE
      exact⟨.big [] u,hE.2.2,fun κ' k=>by simp only[evX,h1,h2,h3,h4,h5,if_pos e,hN];exact⟨hE.1,hE.2.1,k⟩,(fun p hp=>by cases hp),rfl⟩
     |false=>
     rw[hN]at hE
     refine⟨.big (z++[(nm, .row false el sz (es++es'))]) (.row nm),hE.2.2,fun κ' k=>by simp only[evX,h1,h2,h3,h4,h5,if_pos e,hN];exact⟨hE.1,hE.2.1,k⟩,fun p hp=>?_,rfl⟩
     simp only[upds,List.mem_append,List.mem_singleton]at hp
     rcases hp with hp|rfl
     ·cases u<;>simp only[srcO]at h4
      case nils=>cases h4;cases hp
      case row i=>
       split at h4
       ·rename_i hr
        split at h4<;>cases h4
        simp only[List.mem_singleton]at hp;subst hp
        exact⟨by simp,getD_lt (by rw[hr];simp), .inr ⟨by simp[Ixo.cls],⟨x,by simp[Ixo.aopds],_,h2,by simp[AV.has,AV.refsIn]⟩,fun e=>by simp[Ixo.hard]at e⟩⟩
       ·cases h4
      case tsl sz' es=>
       split at h4<;>cases h4
       cases hp
      all_goals cases h4
     ·exact⟨by simp,(getD_dead h1 (by simp)).2, .inl ⟨by simp[Ixo.names],h1⟩⟩
    ·exact hE.elim
   ·exact hE.elim
  ·exact hE.elim
 |store ag n a x ne=>
  simp only[evX]at hE
  split at hE
  ·rename_i i off v h1 h2
   split at hE
   ·rename_i cs h3
    cases ag
    ·obtain⟨h4,h5,h6⟩:=hE
     split at h6
     ·rename_i h7
      exact⟨_,h6,fun κ' k=>by simp only[evX,h1,h2,h3];exact⟨h4,h5,by rw[if_pos h7];exact k⟩,set_shape rfl h1 (by simp[AV.has,AV.refsIn]) h3 (by simp) (by simp),rfl⟩
     ·exact h6.elim
    ·simp only[cellsK]at hE
     split at hE
     ·obtain⟨h5,h6⟩:=hE
      split at h6
      ·rename_i h7
       exact⟨_,h6,fun κ' k=>by simp only[evX,h1,h2,h3,cellsK];exact⟨h5,by rw[if_pos h7];exact k⟩,set_shape rfl h1 (by simp[AV.has,AV.refsIn]) h3 (by simp) (by simp),rfl⟩
      ·exact h6.elim
     ·exact hE.elim
   ·exact hE.elim
  ·rename_i i sz m j v h1 h2
   split at hE
   ·rename_i el sz' es h3
    have key:∀vs,need (vs.all AV.one=true) (if sz'=sz/\vs.length=n/\AV.puL vs=true/\neOk s i ne=true then
      match AV.frzL s.sg 8 vs with
      |some vs'=>iaE es m fun cs=>if j+n<=cs.length then κ (.set i (.row false el sz (es.set m (splice cs j vs')))) else False
      |none=>False
     else False)->∃e,κ e/\(∀ κ':Eff->Prop,κ' e->need (vs.all AV.one=true) (if sz'=sz/\vs.length=n/\AV.puL vs=true/\neOk s i ne=true then
      match AV.frzL s.sg 8 vs with
      |some vs'=>iaE es m fun cs=>if j+n<=cs.length then κ' (.set i (.row false el sz (es.set m (splice cs j vs')))) else False
      |none=>False
     else False))/\Shape (.store ag n a x ne) s e/\e.isYl=false:=fun vs hh=>by
     obtain⟨k1,k2⟩:=hh
     split at k2
     ·rename_i hc
      split at k2
      ·rename_i vs' hf
       obtain⟨k3,k4,k5⟩:=k2
       split at k5
       ·rename_i k6
        exact⟨_,k5,fun κ' k=>⟨k1,by rw[if_pos hc];(try simp only[hf]);exact⟨k3,k4,by simp only[if_pos k6];exact k⟩⟩,set_shape rfl h1 (by simp[AV.has,AV.refsIn]) h3 (by simp) (by simp),rfl⟩
       ·exact k5.elim
      ·exact k2.elim
     ·exact k2.elim
    cases ag
    ·obtain⟨e,k1,k2,k3⟩:=key _ hE.2
     exact⟨e,k1,fun κ' k=>by simp only[evX,h1,h2,h3,cellsK];exact⟨hE.1,k2 κ' k⟩,k3⟩
    ·simp only[cellsK]at hE
     split at hE
     ·obtain⟨e,k1,k2,k3⟩:=key _ hE
      exact⟨e,k1,fun κ' k=>by simp only[evX,h1,h2,h3,cellsK];exact k2 κ' k,k3⟩
     ·exact hE.elim
   ·exact hE.elim
  ·exact hE.elim
 |mkmt f xs=>
  simp only[evX]at hE
  split at hE
  ·rename_i h1
   split at hE
   ·rename_i h2 h3
    exact .val hE fun κ' k=>by simp only[evX,h1,h2,h3];exact k
   ·exact hE.elim
  ·exact hE.elim
 |_=>
  simp only[evX,wrE]at hE
  split at hE<;>first
   |exact hE.elim
   |(rename_i h1;exact .val hE fun κ' k=>by simp only[evX,wrE,h1];exact k)
def St.lit(s:St)(j:Nat)(b:Bool):St:={ s with tm:=(j, .bool b)::s.tm }
def evG(E:Env)(o:IOp)(s:St)(k:St->Prop):Prop:=
 match o.g with
 |none=>evO E o.d o.o s k
 |some (j,want)=>match look s.tm j with
  |some (.bool b)=>brB b
   (match want with
    |true=>evO E o.d o.o (s.lit j true) k
    |false=>k ((s.lit j true).put o.d (.tup [])))
   (match want with
    |false=>evO E o.d o.o (s.lit j false) k
    |true=>k ((s.lit j false).put o.d (.tup [])))
  |some (.tup [])=>k (s.put o.d (.tup []))
  |_=>False
theorem evs_cons{E:Env}{o:IOp}{os:List IOp}{s:St}{k:St->Prop}:evs E (o::os) s k<->evG E o s fun s'=>evs E os s' k:=by
 simp only[evs,evG,St.lit]
 all_goals
  cases o.g with
  |none=>exact Iff.rfl
  |some jw=>
   obtain⟨j,want⟩:=jw
   simp only
   cases look s.tm j with
   |none=>exact Iff.rfl
   |some v=>cases v<;>try exact Iff.rfl
def Eqv(s r:St):Prop:=(∀d,look s.tm d=look r.tm d)/\s.sg=r.sg/\s.gh=r.gh
theorem Eqv.refl(s:St):Eqv s s:=⟨fun _=>rfl,rfl,rfl⟩
theorem Eqv.symm{s r:St}(h:Eqv s r):Eqv r s:=⟨fun d=>(h.1 d).symm,h.2.1.symm,h.2.2.symm⟩
theorem Eqv.trans{s r t:St}(h:Eqv s r)(k:Eqv r t):Eqv s t:=⟨fun d=>(h.1 d).trans (k.1 d),h.2.1.trans k.2.1,h.2.2.trans k.2.2⟩
theorem Eqv.put{s r:St}(h:Eqv s r)(d:Option Nat)(v:AV):Eqv (s.put d v) (r.put d v):=by
 cases d with
 |none=>exact h
 |some d=>exact⟨fun i=>by simp only[St.put,look,h.1 i],h.2.1,h.2.2⟩
theorem Eqv.app{s r:St}(h:Eqv s r)(d:Option Nat)(e:Eff):Eqv (app d s e) (Go.Eng.app d r e):=by
 cases e with
 |val v=>exact h.put d v
 |new nm q v=>exact Eqv.put (s:={ s with sg:=s.sg.set nm q }) (r:={ r with sg:=r.sg.set nm q }) ⟨h.1,by simp only[h.2.1],h.2.2⟩ d v
 |set i q=>exact⟨h.1,by simp only[Go.Eng.app,h.2.1],h.2.2⟩
 |big l v=>exact Eqv.put (s:={ s with sg:=setL s.sg l }) (r:={ r with sg:=setL r.sg l }) ⟨h.1,by simp only[h.2.1],h.2.2⟩ d v
 |yl g v=>exact Eqv.put (s:={ s with gh:=g }) (r:={ r with gh:=g }) ⟨h.1,h.2.1,rfl⟩ d v
 |ylz l g v=>exact Eqv.put (s:={ s with sg:=setL s.sg l,gh:=g }) (r:={ r with sg:=setL r.sg l,gh:=g }) ⟨h.1,by simp only[h.2.1],rfl⟩ d v
theorem Eqv.ev{s r:St}(h:Eqv s r)(p:Opd):s.ev p=r.ev p:=by
 cases p with
 |t i=>exact h.1 i
 |c v=>rfl
theorem Eqv.lit{s:St}{j:Nat}{b:Bool}(h:look s.tm j=some (.bool b)):Eqv (s.lit j b) s:=by
 refine⟨fun d=>?_,rfl,rfl⟩
 simp only[St.lit,look]
 split
 ·rename_i e;subst e;exact h.symm
 ·rfl
def Resp(k:St->Prop):Prop:=∀s r,Eqv s r->k s->k r
theorem evX_eqv{E:Env}{z:Ixo}{s r:St}{κ : Eff->Prop}(h:Eqv s r)(hE:evX E z s κ):evX E z r κ :=
 evX_trans (keep:=fun _=>true) ⟨fun p _=>(h.ev p).symm,fun _ i _=>by rw[h.2.1],fun _ i _=>by rw[h.2.1],fun p _ v _=>AV.refsIn_all (fun _=>rfl) v,fun _ i _=>AV.refsInL_all (fun _=>rfl) _,fun _ _=>rfl,fun _=>h.2.2.symm⟩ (fun _=>⟨h.2.1.symm,h.2.2.symm⟩) hE
theorem evO_eqv{E:Env}{d:Option Nat}{z:Ixo}{s r:St}{k:St->Prop}(hk:Resp k)(h:Eqv s r)(hE:evO E d z s k):evO E d z r k:=
 evX_mono (evX_eqv h hE) fun e he=>hk _ _ (h.app d e) he
theorem evG_eqv{E:Env}{o:IOp}{s r:St}{k:St->Prop}(hk:Resp k)(h:Eqv s r)(hE:evG E o s k):evG E o r k:=by
 have hlit:∀j b,Eqv (s.lit j b) (r.lit j b):=fun j b=>⟨fun d=>by simp only[St.lit,look,h.1 d],h.2.1,h.2.2⟩
 unfold evG at hE⊢
 cases hg:o.g with
 |none=>rw[hg]at hE;exact evO_eqv hk h hE
 |some jw=>
  obtain⟨j,want⟩:=jw
  rw[hg]at hE
  simp only[<- h.1 j]at hE⊢
  split at hE
  ·cases want
   ·exact⟨fun e=>hk _ _ ((hlit j true).put _ _) (hE.1 e),fun e=>evO_eqv hk (hlit j false) (hE.2 e)⟩
   ·exact⟨fun e=>evO_eqv hk (hlit j true) (hE.1 e),fun e=>hk _ _ ((hlit j false).put _ _) (hE.2 e)⟩
  ·exact hk _ _ (h.put _ _) hE
  ·exact hE.elim
theorem evs_resp{E:Env}{k:St->Prop}(hk:Resp k):∀(os:List IOp),Resp fun s=>evs E os s k
 | []=>hk
 |_::os=>fun _ _ h hE=>evs_cons.2 (evG_eqv (evs_resp hk os) h (evs_cons.1 hE))
theorem evX_shape{E:Env}{s:St}{z:Ixo}{κ : Eff->Prop}(hw:z.isW=false)(hE:evX E z s κ):evX E z s fun e => κ e/\Shape z s e:=by
 by_cases hc:z.cls=2\/z.cls=5
 ·cases z with
  |call f xs=>
   simp only[evX]at hE⊢
   split at hE
   ·rcases hE with⟨args',R,h1,h1',h2,h3⟩|⟨args',R,h1,h2,h3⟩
    ·exact .inl ⟨args',R,h1,h1',h2,fun r hr=>⟨h3 r hr,Shape.val⟩⟩
    ·exact .inr ⟨args',R,h1,h2,fun r hr=>⟨(h3 r hr).1,(h3 r hr).2,Shape.val⟩⟩
   ·exact hE.elim
  |callv g xs=>
   simp only[evX]at hE⊢
   split at hE
   ·split at hE
    ·obtain⟨y1,k',y2,y3,y4,y5⟩:=hE
     exact⟨y1,k',y2,y3,⟨y4,fun p hp=>by cases hp⟩,⟨y5,fun p hp=>by cases hp⟩⟩
    rcases hE with⟨g',args',R,h0,h1,h0',h1',h2,h3⟩|⟨g',args',R,h0,h1,h2,h3⟩
    ·exact .inl ⟨g',args',R,h0,h1,h0',h1',h2,fun r hr=>⟨h3 r hr,Shape.val⟩⟩
    ·exact .inr ⟨g',args',R,h0,h1,h2,fun r hr=>⟨(h3 r hr).1,(h3 r hr).2,Shape.val⟩⟩
   ·exact hE.elim
  |callz nm ct f xs ne=>
   simp only[evX]at hE⊢
   split at hE
   ·rename_i vs hv
    split at hE
    ·rename_i e;rw[if_pos e]
     obtain⟨args',z,k1,k2,k3⟩:=hE
     have old:∀p∈z,p.2 ≠ .fresh/\p.1<s.sg.length/\((p.1∈(Ixo.callz nm ct f xs ne).names/\s.sg.getD p.1 .dead = .fresh)\/(3<=(Ixo.callz nm ct f xs ne).cls/\(∃q∈(Ixo.callz nm ct f xs ne).aopds,∃v,s.ev q=some v/\v.has p.1=true)/\((Ixo.callz nm ct f xs ne).hard=false->p.2=(s.sg.getD p.1 .fresh).ice))):=fun p hp=>by
      obtain⟨q1,q2⟩:=reachL_has vs z k1 p hp
      obtain⟨v,q3,q4⟩:=refsL_mem q1
      obtain⟨q,q5,q6⟩:=evl_mem hv v q3
      exact⟨q2,(reachL_iced vs z k1 p hp).1, .inr ⟨by simp[Ixo.cls],⟨q,q5,v,q6,by simp[AV.has,q4]⟩,fun _=>(reachL_iced vs z k1 p hp).2.1⟩⟩
     refine⟨args',z,k1,k2,?_⟩
     have fresh:∀rows,rowsB ct rows=true->∀p∈nameR rows nm,p.2 ≠ .fresh/\p.1<s.sg.length/\((p.1∈(Ixo.callz nm ct f xs ne).names/\s.sg.getD p.1 .dead = .fresh)\/(3<=(Ixo.callz nm ct f xs ne).cls/\(∃q∈(Ixo.callz nm ct f xs ne).aopds,∃v,s.ev q=some v/\v.has p.1=true)/\((Ixo.callz nm ct f xs ne).hard=false->p.2=(s.sg.getD p.1 .fresh).ice))):=fun rows hrb p hp=>by
      obtain⟨j,hj,hp1,i,hp2⟩:=nameR_mem hp
      obtain⟨c1,c2⟩:=rowsB_ok hrb
      have hjc:j<ct:=Nat.lt_of_lt_of_le hj c1
      have hf:=freshN_iff.1 e.2 j hjc
      exact⟨c2 (i,p.2) hp2,by rw[hp1];exact(getD_dead hf (by simp)).2, .inl ⟨by simp[Ixo.names,List.mem_range',hp1];exact hjc,by rw[hp1];exact hf⟩⟩
     rcases k3 with⟨R,k3,k4⟩|⟨R,k3,k4⟩|⟨R,k3,k4⟩
     ·exact .inl ⟨R,k3,fun r hr=>⟨k4 r hr,fun p hp=>old p hp⟩⟩
     ·refine .inr (.inl ⟨R,k3,fun r rows hr=>⟨(k4 r rows hr).1,(k4 r rows hr).2,fun p hp=>?_⟩⟩)
      rcases List.mem_append.1 hp with hp|hp
      ·exact old p hp
      ·exact fresh rows (k4 r rows hr).1 p hp
     ·exact .inr (.inr ⟨R,k3,fun r rows hr=>⟨(k4 r rows hr).1,(k4 r rows hr).2.1,(k4 r rows hr).2.2.1,(k4 r rows hr).2.2.2,fun p hp=>fresh rows (k4 r rows hr).1 p hp⟩⟩)
    ·exact hE.elim
   ·exact hE.elim
  |callw nm ct f xs=>simp[Ixo.isW]at hw
  |callx g xs=>simp[Ixo.isW]at hw
  |mnx x=>
   simp only[evX]at hE⊢
   split at hE
   ·rename_i i hx
    split at hE
    ·rename_i hr
     refine nxI (fun j kv uv h1 h2 h3=>⟨hE.some j kv uv h1 h2 h3,fun p hp=>?_⟩) (fun h1=>⟨hE.none h1,Shape.val⟩)
     simp only[upds,List.mem_singleton]at hp
     subst hp
     exact⟨by simp,(getD_dead hr (by simp)).2, .inr ⟨by simp[Ixo.cls],⟨x,by simp[Ixo.aopds],_,hx,by simp[AV.has,AV.refsIn]⟩,fun e=>by simp[Ixo.hard]at e⟩⟩
    ·exact hE.elim
   ·exact hE.elim
  |_=>simp[Ixo.cls]at hc
 ·obtain⟨e,h1,h2,h3,_⟩:=evX_det hE (by omega)
  exact h2 _ ⟨h1,h3⟩
def evGX(E:Env)(o:IOp)(s:St)(κ : Eff->Prop):Prop:=
 match o.g with
 |none=>evX E o.o s κ
 |some (j,want)=>match look s.tm j with
  |some (.bool b)=>if b=want then evX E o.o s κ else κ (.val (.tup []))
  |some (.tup []) => κ (.val (.tup []))
  |_=>False
theorem evG_iff{E:Env}{o:IOp}{s:St}{k:St->Prop}(hk:Resp k):evG E o s k<->evGX E o s fun e=>k (app o.d s e):=by
 unfold evG evGX
 cases o.g with
 |none=>exact Iff.rfl
 |some jw=>
  obtain⟨j,want⟩:=jw
  simp only
  cases hl:look s.tm j with
  |none=>exact Iff.rfl
  |some v=>
   cases v with
   |bool b=>
    have hq:=Eqv.lit hl
    have hr:Resp fun s=>k s:=hk
    cases b<;>cases want
    ·simp only[if_true]
     exact⟨fun h=>evX_mono (evX_eqv hq (h.2 rfl)) fun e he=>hk _ _ (hq.app o.d e) he,fun h=>⟨fun e=>absurd e (by simp),fun _=>evX_mono (evX_eqv hq.symm h) fun e he=>hk _ _ (hq.symm.app o.d e) he⟩⟩
    ·simp only[Bool.false_eq_true,if_false]
     exact⟨fun h=>hk _ _ (hq.put o.d _) (h.2 rfl),fun h=>⟨fun e=>absurd e (by simp),fun _=>hk _ _ (hq.symm.put o.d _) h⟩⟩
    ·simp only[Bool.true_eq_false,if_false]
     exact⟨fun h=>hk _ _ (hq.put o.d _) (h.1 rfl),fun h=>⟨fun _=>hk _ _ (hq.symm.put o.d _) h,fun e=>absurd e (by simp)⟩⟩
    ·simp only[if_true]
     exact⟨fun h=>evX_mono (evX_eqv hq (h.1 rfl)) fun e he=>hk _ _ (hq.app o.d e) he,fun h=>⟨fun _=>evX_mono (evX_eqv hq.symm h) fun e he=>hk _ _ (hq.symm.app o.d e) he,fun e=>absurd e (by simp)⟩⟩
   |tup vs=>cases vs<;>exact Iff.rfl
   |_=>exact Iff.rfl
theorem evGX_mono{E:Env}{o:IOp}{s:St}{κ κ':Eff->Prop}(hE:evGX E o s κ)(hk:∀e,κ e -> κ' e):evGX E o s κ':=by
 unfold evGX at hE⊢
 split
 ·rename_i h;simp only[h]at hE;exact evX_mono hE hk
 ·rename_i j want h;simp only[h]at hE
  split
  ·rename_i h2;simp only[h2]at hE
   split
   ·rename_i h3;rw[if_pos h3]at hE;exact evX_mono hE hk
   ·rename_i h3;rw[if_neg h3]at hE;exact hk _ hE
  ·rename_i h2;simp only[h2]at hE;exact hk _ hE
  ·rename_i h2 h3;revert hE;split
   ·rename_i h4;exact absurd h4 (h2 _)
   ·rename_i h4;exact absurd h4 h3
   ·exact id
theorem evGX_shape{E:Env}{o:IOp}{s:St}{κ : Eff->Prop}(hw:o.o.isW=false)(hE:evGX E o s κ):evGX E o s fun e => κ e/\Shape o.o s e:=by
 unfold evGX at hE⊢
 split
 ·rename_i h;simp only[h]at hE;exact evX_shape hw hE
 ·rename_i j want h;simp only[h]at hE
  split
  ·rename_i h2;simp only[h2]at hE
   split
   ·rename_i h3;rw[if_pos h3]at hE;exact evX_shape hw hE
   ·rename_i h3;rw[if_neg h3]at hE;exact⟨hE,Shape.val⟩
  ·rename_i h2;simp only[h2]at hE;exact⟨hE,Shape.val⟩
  ·rename_i h2 h3;revert hE;split
   ·rename_i h4;exact absurd h4 (h2 _)
   ·rename_i h4;exact absurd h4 h3
   ·exact id
theorem evGX_trans{E:Env}{keep:Nat->Bool}{o:IOp}{s r:St}{κ : Eff->Prop}(h:Agr keep s r o.o)(hw:o.o.isW=true->r.sg=s.sg/\r.gh=s.gh)(hg:∀j w,o.g=some (j,w)->look r.tm j=look s.tm j)(hE:evGX E o s κ):evGX E o r κ :=by
 unfold evGX at hE⊢
 cases hog:o.g with
 |none=>rw[hog]at hE;exact evX_trans h hw hE
 |some jw=>
  obtain⟨j,want⟩:=jw
  rw[hog]at hE
  simp only[hg j want hog]at hE⊢
  split
  ·rename_i h2;simp only[h2]at hE
   split
   ·rename_i h3;rw[if_pos h3]at hE;exact evX_trans h hw hE
   ·rename_i h3;rw[if_neg h3]at hE;exact hE
  ·rename_i h2;simp only[h2]at hE;exact hE
  ·rename_i h2 h3;revert hE;split
   ·rename_i h4;exact absurd h4 (h2 _)
   ·rename_i h4;exact absurd h4 h3
   ·exact id
theorem evGX_det{E:Env}{o:IOp}{s:St}{κ : Eff->Prop}(hE:evGX E o s κ)(hc:o.o.cls≠2/\o.o.cls≠5):∃e,κ e/\(∀ κ':Eff->Prop,κ' e->evGX E o s κ')/\Shape o.o s e/\e.isYl=false:=by
 unfold evGX at hE⊢
 cases hog:o.g with
 |none=>rw[hog]at hE;exact evX_det hE hc
 |some jw=>
  obtain⟨j,want⟩:=jw
  rw[hog]at hE
  simp only at hE⊢
  cases hl:look s.tm j with
  |none=>rw[hl]at hE;exact hE.elim
  |some v=>
   rw[hl]at hE
   cases v with
   |bool b=>
    simp only at hE⊢
    split at hE
    ·rename_i h3
     obtain⟨e,h1,h2,h4⟩:=evX_det hE hc
     exact⟨e,h1,fun κ' hk=>by rw[if_pos h3];exact h2 κ' hk,h4⟩
    ·rename_i h3
     exact⟨_,hE,fun κ' hk=>by rw[if_neg h3];exact hk,Shape.val,rfl⟩
   |tup vs=>
    cases vs with
    |nil=>exact⟨_,hE,fun κ' hk=>hk,Shape.val,rfl⟩
    |cons _ _=>exact hE.elim
   |_=>exact hE.elim
def Opd.slots:Opd->List Nat
 |.t i=>[i]
 |.c _=>[]
def Opd.ok:Opd->Bool
 |.t _=>true
 |.c v=>v.pu
def IOp.slots(o:IOp):List Nat:=(match o.g with|some (j,_)=>[j]|none=>[])++o.o.opds.flatMap Opd.slots
def Opd.beq:Opd->Opd->Bool
 |.t i, .t j=>i==j
 |_,_=>false
def apart(x y:Ixo):Bool:=x.aopds.all fun a=>match a with
 |.t _=>y.nes.any a.beq
 |.c _=>true
def swapOk(x y:IOp):Bool:=
 (match x.d with|some d => !(y.slots.contains d)&&(match y.d with|some e=>d != e|none=>true)|none=>true) &&
 (match y.d with|some d => !(x.slots.contains d)|none=>true) &&
 (match x.o.cls with
  |0=>true
  |1=>(!y.o.hard&&x.g.isNone)||decide (y.o.cls<3)||(apart x.o y.o&&y.g.isNone&&x.g.isNone)
  |3=>x.g.isNone&&(y.o.cls==0||(decide (3<=y.o.cls)&&y.g.isNone&&apart x.o y.o))
  |4=>x.g.isNone&&(y.o.cls==0||(decide (3<=y.o.cls)&&y.g.isNone&&apart x.o y.o))
  |_=>false) &&
 (x.o.names.all fun i => !(y.o.names.contains i)) &&
 x.o.opds.all Opd.ok&&y.o.opds.all Opd.ok && !x.o.isW&&(!y.o.isW||x.o.cls==0)
def tch(e:Eff):List Nat:=(upds e).map (·.1)
def keepOf(e:Eff)(i:Nat):Bool := !(tch e).contains i
theorem keepOf_iff{e:Eff}{i:Nat}:keepOf e i=true<->i∉tch e:=by simp[keepOf]
theorem look_app{d:Option Nat}{s:St}{e:Eff}{i:Nat}(h:∀j,d=some j->j≠i):look (app d s e).tm i=look s.tm i:=by
 cases e<;>cases d<;>simp only[app,St.put,look]<;>first|rfl|(rw[if_neg (h _ rfl)])
theorem ev_app{d:Option Nat}{s:St}{e:Eff}{p:Opd}(h:∀j,d=some j->j∉p.slots):(app d s e).ev p=s.ev p:=by
 cases p with
 |t i=>exact look_app fun j hj=>by have:=h j hj;simpa[Opd.slots]using this
 |c v=>rfl
theorem app_sg{d:Option Nat}{s:St}{e:Eff}:(app d s e).sg=setL s.sg (upds e):=by
 cases e<;>cases d<;>rfl
theorem setL_set:∀(l:List (Nat × Res)) (sg:List Res) (i:Nat) (r:Res),i∉l.map (·.1)->setL (sg.set i r) l=(setL sg l).set i r
 | [],sg,i,r,_=>rfl
 |(j,q)::l,sg,i,r,h=>by
  simp only[List.map_cons,List.mem_cons,not_or]at h
  simp only[setL]
  rw[List.set_comm _ _ h.1,setL_set l _ i r h.2]
theorem setL_comm:∀(l m:List (Nat × Res)) (sg:List Res),(∀i,i∈l.map (·.1)->i∉m.map (·.1))->setL (setL sg l) m=setL (setL sg m) l
 | [],m,sg,_=>rfl
 |(j,r)::l,m,sg,h=>by
  simp only[setL]
  rw[setL_comm l m _ (fun i hi=>h i (by simp at hi⊢;exact .inr hi)),setL_set m sg j r (h j (by simp))]
theorem sg_app{d:Option Nat}{s:St}{e:Eff}{i:Nat}(hi:keepOf e i=true):(app d s e).sg[i]?=s.sg[i]?:=by
 rw[app_sg];exact setL_other _ _ _ (keepOf_iff.1 hi)
theorem app_comm{dx dy:Option Nat}(hd:∀i j,dx=some i->dy=some j->i≠j){s:St}{ex ey:Eff}(hy:ex.isYl=false)(hn:∀i,i∈tch ex->i∉tch ey):Eqv (app dy (app dx s ex) ey) (app dx (app dy s ey) ex):=by
 refine⟨fun t=>?_,?_,?_⟩
 ·have one:∀(d:Option Nat) (s:St) (e:Eff),(∃i v,d=some i/\∀s:St,(app d s e).tm=(i,v)::s.tm)\/∀s:St,(app d s e).tm=s.tm:=fun d s e=>by
   cases d with
   |none=>right;intro s;cases e<;>rfl
   |some i=>cases e with
    |val v=>exact .inl ⟨i,v,rfl,fun s=>rfl⟩
    |new nm r v=>exact .inl ⟨i,v,rfl,fun s=>rfl⟩
    |set j q=>exact .inr fun s=>rfl
    |big l v=>exact .inl ⟨i,v,rfl,fun s=>rfl⟩
    |yl g v=>exact .inl ⟨i,v,rfl,fun s=>rfl⟩
    |ylz l g v=>exact .inl ⟨i,v,rfl,fun s=>rfl⟩
  rcases one dx s ex with⟨i,v,rfl,h1⟩|h1<;>rcases one dy s ey with⟨j,u,rfl,h2⟩|h2<;>simp only[h1,h2]
  have hne:=hd i j rfl rfl
  simp only[look]
  split
  ·rename_i e;subst e;rw[if_neg hne]
  ·rfl
 ·simp only[app_sg];exact setL_comm _ _ _ hn
 ·have g:∀(d:Option Nat) (s:St) (e:Eff),e.isYl=false->(app d s e).gh=s.gh:=fun d s e he=>by cases e<;>cases d<;>first|rfl|cases he
  rw[g dx _ ex hy]
  cases ey<;>cases dy<;>first|rfl|exact g dx s ex hy
theorem held{X:Sess}{C:Ctx}{s:St}{a:Act}(h:Rel X C s a){i:Nat}(hf:s.sg.getD i .dead = .fresh){p:Opd}(hp:Opd.ok p=true){v:AV}(hv:s.ev p=some v):v.has i=false:=by
 obtain⟨hf',_⟩:=getD_dead hf (by simp)
 have hun:=h.unbound hf'
 have:(v.refsIn fun j=>j != i)=true:=by
  cases p with
  |t d=>exact RV.unbound hun v _ (h.tm d v hv)
  |c u=>simp only[St.ev,Option.some.injEq]at hv;subst hv;exact pu_refs' u hp
 simp[AV.has,this]
theorem aopds_sub(z:Ixo):∀p∈z.aopds,p∈z.opds:=by
 cases z<;>simp[Ixo.aopds,Ixo.opds]<;>(intros;simp_all)
theorem evX_fresh{E:Env}{z:Ixo}{s:St}{κ : Eff->Prop}{j:Nat}(hj:j∈z.names)(hE:evX E z s κ):s.sg.getD j .dead = .fresh:=by
 cases z with
 |callw nm ct f xs=>
  simp only[Ixo.names,List.mem_range']at hj
  obtain⟨i,hi,rfl⟩:=hj
  simp only[evX]at hE
  split at hE
  ·split at hE
   ·rename_i h;have:=freshN_iff.1 h i hi;simpa using this
   ·exact hE.elim
  ·exact hE.elim
 |callz nm ct f xs ne=>
  simp only[Ixo.names,List.mem_range']at hj
  obtain⟨i,hi,rfl⟩:=hj
  simp only[evX]at hE
  split at hE
  ·split at hE
   ·rename_i h;have:=freshN_iff.1 h.2 i hi;simpa using this
   ·exact hE.elim
  ·exact hE.elim
 |_=>simp only[Ixo.names,List.mem_singleton,List.not_mem_nil]at hj<;>(try subst hj)<;>simp only[evX]at hE<;>split at hE<;>first|assumption|exact hE.elim
theorem evX_nes{E:Env}{z:Ixo}{s:St}{κ : Eff->Prop}(hE:evX E z s κ)(hc:3<=z.cls):∀q∈z.nes,∃v,s.ev q=some v/\∀p∈z.aopds,∀u,s.ev p=some u->∀i,v.has i=true->u.has i=false:=by
 have h1:∀(ne:List Opd) (i:Nat),neOk s i ne=true->∀q∈ne,∃v,s.ev q=some v/\(v.refsIn fun j=>j != i)=true:=fun ne i=>by
  induction ne with
  |nil=>intro _ q hq;cases hq
  |cons p ps ih=>
   intro h q hq
   simp only[neOk,Bool.and_eq_true]at h
   rcases List.mem_cons.1 hq with rfl|hq
   ·have:=h.1
    split at this
    ·rename_i v hv;exact⟨v,hv,this⟩
    ·cases this
   ·exact ih h.2 q hq
 have h2:∀(ne:List Opd) (us:List AV),neOkL s us ne=true->∀q∈ne,∃v,s.ev q=some v/\apartVs v us=true:=fun ne us=>by
  induction ne with
  |nil=>intro _ q hq;cases hq
  |cons p ps ih=>
   intro h q hq
   simp only[neOkL,Bool.and_eq_true]at h
   rcases List.mem_cons.1 hq with rfl|hq
   ·have:=h.1
    split at this
    ·rename_i v hv;exact⟨v,hv,this⟩
    ·cases this
   ·exact ih h.2 q hq
 have h3:∀(i:Nat) (a:Opd) (u:AV),s.ev a=some u->(∀j,u.has j=true->j=i)->∀ne,neOk s i ne=true->∀q∈ne,∃v,s.ev q=some v/\∀p∈[a],∀u,s.ev p=some u->∀i,v.has i=true->u.has i=false:=fun i a u ha hu ne hn q hq=>by
  obtain⟨v,k1,k2⟩:=h1 ne i hn q hq
  refine⟨v,k1,fun p hp u' hu' j hj=>?_⟩
  simp only[List.mem_singleton]at hp;subst hp
  rw[ha]at hu';cases hu'
  cases hh:u.has j with
  |false=>rfl
  |true=>
   have:=hu j hh
   subst this
   simp[AV.has,k2]at hj
 cases z with
 |store ag n a x ne=>
  simp only[evX]at hE
  split at hE
  ·rename_i i off v ha hx
   split at hE
   ·refine h3 i a _ ha (fun j hj=>by simp[AV.has,AV.refsIn]at hj;exact hj.symm) ne ?_
    cases ag
    ·obtain⟨_,_,hE⟩:=hE
     split at hE
     ·rename_i hc;exact hc.2.2
     ·exact hE.elim
    ·simp only[cellsK]at hE
     split at hE
     ·obtain⟨_,hE⟩:=hE
      split at hE
      ·rename_i hc;exact hc.2.2
      ·exact hE.elim
     ·exact hE.elim
   ·exact hE.elim
  ·rename_i i sz m j v ha hx
   split at hE
   ·refine h3 i a _ ha (fun j hj=>by simp[AV.has,AV.refsIn]at hj;exact hj.symm) ne ?_
    cases ag
    ·obtain⟨_,_,hE⟩:=hE
     split at hE
     ·rename_i hc;exact hc.2.2.2
     ·exact hE.elim
    ·simp only[cellsK]at hE
     split at hE
     ·obtain⟨_,hE⟩:=hE
      split at hE
      ·rename_i hc;exact hc.2.2.2
      ·exact hE.elim
     ·exact hE.elim
   ·exact hE.elim
  ·exact hE.elim
 |bsl nm el sz ps ne=>
  simp only[evX]at hE
  split at hE
  ·rename_i vs hf hv
   split at hE
   ·rename_i hn
    intro q hq
    obtain⟨v,k1,k2⟩:=h2 ne vs hn q hq
    exact⟨v,k1,fun p hp u hu i hi=>apartVs_ok k2 u (by
     obtain⟨w,q1,q2⟩:=evl_get hv p hp
     rw[hu]at q1;cases q1;exact q2) hi⟩
   ·exact hE.elim
  ·exact hE.elim
 |apd nm el sz b x y ne=>
  simp only[evX]at hE
  split at hE
  ·rename_i u w hf hu hw
   split at hE
   ·split at hE
    ·rename_i hn
     intro q hq
     obtain⟨v,k1,k2⟩:=h2 ne _ hn.2 q hq
     refine⟨v,k1,fun p hp u' hu' i hi=>apartVs_ok k2 u' ?_ hi⟩
     simp only[Ixo.aopds,List.mem_cons,List.not_mem_nil,or_false]at hp
     rcases hp with rfl|rfl
     ·rw[hu]at hu';cases hu';simp
     ·rw[hw]at hu';cases hu';simp
    ·exact hE.elim
   ·exact hE.elim
  ·exact hE.elim
 |callz nm ct f xs ne=>
  simp only[evX]at hE
  split at hE
  ·rename_i vs hv
   split at hE
   ·rename_i hn
    intro q hq
    obtain⟨v,k1,k2⟩:=h2 ne vs hn.1 q hq
    exact⟨v,k1,fun p hp u hu i hi=>apartVs_ok k2 u (by
     obtain⟨w,q1,q2⟩:=evl_get hv p hp
     rw[hu]at q1;cases q1;exact q2) hi⟩
   ·exact hE.elim
  ·exact hE.elim
 |mnx x=>intro q hq;cases hq
 |callw nm ct f xs=>intro q hq;cases hq
 |callx g xs=>intro q hq;cases hq
 |stz ag n a x ne=>
  have fin:∀(av xv:AV),s.ev a=some av->s.ev x=some xv->neOkL s [av,xv] ne=true->∀q∈(Ixo.stz ag n a x ne).nes,∃v,s.ev q=some v/\∀p∈(Ixo.stz ag n a x ne).aopds,∀u,s.ev p=some u->∀i,v.has i=true->u.has i=false:=fun av xv ha hx hn q hq=>by
   obtain⟨u,k1,k2⟩:=h2 ne _ hn q hq
   refine⟨u,k1,fun p hp u' hu' j hj=>apartVs_ok k2 u' ?_ hj⟩
   simp only[Ixo.aopds,List.mem_cons,List.not_mem_nil,or_false]at hp
   rcases hp with rfl|rfl
   ·rw[ha]at hu';cases hu';simp
   ·rw[hx]at hu';cases hu';simp
  simp only[evX]at hE
  split at hE
  ·rename_i i off v ha hx
   split at hE
   ·split at hE
    ·rename_i hn;exact fin _ _ ha hx hn
    ·exact hE.elim
   ·exact hE.elim
  ·rename_i i sz m j v ha hx
   split at hE
   ·split at hE
    ·rename_i hn;exact fin _ _ ha hx hn.1
    ·exact hE.elim
   ·exact hE.elim
  ·exact hE.elim
 |mpu kt m x v ne=>
  simp only[evX]at hE
  split at hE
  ·rename_i i kv vv hm hx hv
   split at hE
   ·split at hE
    ·rename_i hn
     intro q hq
     obtain⟨u,k1,k2⟩:=h2 ne _ hn.2 q hq
     refine⟨u,k1,fun p hp u' hu' j hj=>apartVs_ok k2 u' ?_ hj⟩
     simp only[Ixo.aopds,List.mem_cons,List.not_mem_nil,or_false]at hp
     rcases hp with rfl|rfl
     ·rw[hm]at hu';cases hu';simp
     ·rw[hv]at hu';cases hu';simp
    ·exact hE.elim
   ·split at hE
    ·rename_i hn
     intro q hq
     obtain⟨u,k1,k2⟩:=h2 ne _ hn q hq
     refine⟨u,k1,fun p hp u' hu' j hj=>apartVs_ok k2 u' ?_ hj⟩
     simp only[Ixo.aopds,List.mem_cons,List.not_mem_nil,or_false]at hp
     rcases hp with rfl|rfl
     ·rw[hm]at hu';cases hu';simp
     ·rw[hv]at hu';cases hu';simp
    ·exact hE.elim
   ·exact hE.elim
  ·exact hE.elim
 |mrg nm m ne=>
  simp only[evX]at hE
  split at hE
  ·rename_i v hf hm
   split at hE
   ·split at hE
    ·rename_i hn
     intro q hq
     obtain⟨u,k1,k2⟩:=h2 ne _ hn q hq
     refine⟨u,k1,fun p hp u' hu' j hj=>apartVs_ok k2 u' ?_ hj⟩
     simp only[Ixo.aopds,List.mem_cons,List.not_mem_nil,or_false]at hp
     subst hp
     rw[hm]at hu';cases hu';simp
    ·exact hE.elim
   ·exact hE.elim
  ·exact hE.elim
 |_=>simp[Ixo.cls]at hc
theorem beq_ok{a p:Opd}(h:a.beq p=true):a=p:=by
 cases a<;>cases p<;>simp[Opd.beq]at h
 rw[h]
theorem apart_ok{x y:Ixo}(hx:x.opds.all Opd.ok=true)(h:apart x y=true){s:St}(hn:∀q∈y.nes,∃v,s.ev q=some v/\∀p∈y.aopds,∀u,s.ev p=some u->∀i,v.has i=true->u.has i=false) :
  ∀a∈x.aopds,∀v,s.ev a=some v->∀p∈y.aopds,∀u,s.ev p=some u->∀i,v.has i=true->u.has i=false:=fun a ha v hv p hp u hu i hi=>by
 have h1:=List.all_eq_true.1 h a ha
 cases a with
 |t j=>
  simp only[List.any_eq_true]at h1
  obtain⟨q,h2,h3⟩:=h1
  have:=beq_ok h3
  subst this
  obtain⟨v',k1,k2⟩:=hn _ h2
  rw[hv]at k1;cases k1
  exact k2 p hp u hu i hi
 |c w=>
  have:=List.all_eq_true.1 hx _ (aopds_sub x _ ha)
  simp only[St.ev,Option.some.injEq]at hv;subst hv
  simp[AV.has,pu_refs' w this]at hi
theorem swapW{E:Env}{s:St}{x y:IOp}{k:St->Prop}(hk:Resp k)(hsw:swapOk x y=true)(h0:x.o.cls=0)(hE:evG E x s fun s1=>evG E y s1 k):evG E y s fun s1=>evG E x s1 k:=by
 have hky:Resp fun s1=>evG E y s1 k:=fun s r hq hh=>evG_eqv hk hq hh
 have hkx:Resp fun s1=>evG E x s1 k:=fun s r hq hh=>evG_eqv hk hq hh
 simp only[swapOk,Bool.and_eq_true]at hsw
 obtain⟨⟨⟨⟨⟨⟨⟨h1,h2⟩,h3⟩,h4⟩,h5⟩,h6⟩,hwx⟩,hwy⟩:=hsw
 simp only[Bool.not_eq_true']at hwx
 have hdx:∀j,x.d=some j->j∉y.slots:=fun j hj=>by rw[hj]at h1;simp at h1;simpa using h1.1
 have hdy:∀j,y.d=some j->j∉x.slots:=fun j hj=>by rw[hj]at h2;simpa using h2
 have hdd:∀i j,x.d=some i->y.d=some j->i≠j:=fun i j hi hj=>by rw[hi,hj]at h1;simp at h1;exact h1.2
 have hcx:x.o.cls≠2/\x.o.cls≠5:=⟨fun e=>by omega,fun e=>by omega⟩
 have hsl:∀(o:IOp) (j:Nat),j∉o.slots->(∀p∈o.o.opds,j∉p.slots)/\∀i w,o.g=some (i,w)->j≠i:=fun o j hj=>by
  simp only[IOp.slots,List.mem_append,not_or,List.mem_flatMap,not_exists,not_and]at hj
  exact⟨fun p hp=>hj.2 p hp,fun i w hg e=>hj.1 (by rw[hg];simp[e])⟩
 have ao0:∀z:Ixo,z.cls=0->z.aopds=[]/\z.names=[]:=fun z hz=>by cases z<;>simp[Ixo.cls,Ixo.aopds,Ixo.names]at hz⊢
 obtain⟨ex,g1,g2,g3,g4⟩:=evGX_det ((evG_iff hky).1 hE) hcx
 have hup:upds ex=[]:=by
  cases hu:upds ex with
  |nil=>rfl
  |cons p l=>
   obtain⟨_,_,q⟩:=g3 p (by rw[hu];simp)
   rcases q with⟨q,_⟩|⟨q,_⟩
   ·rw[(ao0 _ h0).2]at q;cases q
   ·omega
 have htc:tch ex=[]:=by unfold tch;rw[hup];rfl
 have hsg:(app x.d s ex).sg=s.sg:=by rw[app_sg,hup];rfl
 have ghx:(app x.d s ex).gh=s.gh:=by cases ex<;>cases x.d<;>first|rfl|cases g4
 have g5:=(evG_iff hk).1 g1
 have evy:∀p∈y.o.opds,(app x.d s ex).ev p=s.ev p:=fun p hp=>ev_app fun j hj=>(hsl y j (hdx j hj)).1 p hp
 have ay:Agr (fun _=>true) (app x.d s ex) s y.o:=
  ⟨fun p hp=>(evy p hp).symm,fun _ i _=>by rw[hsg],fun _ i _=>by rw[hsg],fun p hp v hv=>AV.refsIn_all (fun _=>rfl) v,fun hc i hi=>AV.refsInL_all (fun _=>rfl) _,fun _ _=>rfl,fun _=>ghx.symm⟩
 have g6:=evGX_trans ay (fun _=>⟨hsg.symm,ghx.symm⟩) (fun j w hg=>(look_app fun i hi=>(hsl y i (hdx i hi)).2 j w hg).symm) g5
 refine(evG_iff hkx).2 (evGX_mono g6 fun ey hey=>?_)
 refine(evG_iff hk).2 ?_
 have evx:∀p∈x.o.opds,(app y.d s ey).ev p=s.ev p:=fun p hp=>ev_app fun j hj=>(hsl x j (hdy j hj)).1 p hp
 have ax:Agr (fun _=>true) s (app y.d s ey) x.o:=
  ⟨evx,fun hc=>by omega,fun hc=>by omega,(fun p hp=>by rw[(ao0 _ h0).1]at hp;cases hp),fun hc=>by omega,fun _ _=>rfl,fun hc=>by omega⟩
 refine evGX_trans ax (fun e=>absurd e (by rw[hwx];simp)) (fun j w hg=>look_app fun i hi=>(hsl x i (hdy i hi)).2 j w hg) (g2 _ ?_)
 exact hk _ _ (app_comm hdd g4 fun i hi hj=>by rw[htc]at hi;cases hi) hey
theorem swap{X:Sess}{C:Ctx}{E:Env}{s:St}{a:Act}(h:Rel X C s a){x y:IOp}{k:St->Prop}(hk:Resp k)(hsw:swapOk x y=true)(hE:evG E x s fun s1=>evG E y s1 k):evG E y s fun s1=>evG E x s1 k:=by
 by_cases h00:x.o.cls=0
 ·exact swapW hk hsw h00 hE
 have hky:Resp fun s1=>evG E y s1 k:=fun s r hq hh=>evG_eqv hk hq hh
 have hkx:Resp fun s1=>evG E x s1 k:=fun s r hq hh=>evG_eqv hk hq hh
 simp only[swapOk,Bool.and_eq_true]at hsw
 obtain⟨⟨⟨⟨⟨⟨⟨h1,h2⟩,h3⟩,h4⟩,h5⟩,h6⟩,hwx⟩,hwy⟩:=hsw
 have hwy:(!y.o.isW)=true:=by simpa[h00]using hwy
 simp only[Bool.not_eq_true']at hwx hwy
 have hdx:∀j,x.d=some j->j∉y.slots:=fun j hj=>by rw[hj]at h1;simp at h1;simpa using h1.1
 have hdy:∀j,y.d=some j->j∉x.slots:=fun j hj=>by rw[hj]at h2;simpa using h2
 have hdd:∀i j,x.d=some i->y.d=some j->i≠j:=fun i j hi hj=>by rw[hi,hj]at h1;simp at h1;exact h1.2
 have hcx:x.o.cls≠2/\x.o.cls≠5:=⟨fun e=>by rw[e]at h3;simp at h3,fun e=>by rw[e]at h3;simp at h3⟩
 have hnm:∀i j,i∈x.o.names->j∈y.o.names->i≠j:=fun i j hi hj e=>by subst e;have:=List.all_eq_true.1 h4 i hi;simp at this;exact this hj
 have hsl:∀(o:IOp) (j:Nat),j∉o.slots->(∀p∈o.o.opds,j∉p.slots)/\∀i w,o.g=some (i,w)->j≠i:=fun o j hj=>by
  simp only[IOp.slots,List.mem_append,not_or,List.mem_flatMap,not_exists,not_and]at hj
  exact⟨fun p hp=>hj.2 p hp,fun i w hg e=>hj.1 (by rw[hg];simp[e])⟩
 have hcls:∀z:Ixo,z.cls<=5:=fun z=>by cases z<;>simp[Ixo.cls]
 -- the kinds, as they can be
 have hk0:x.o.cls=1->3<=y.o.cls->x.g=none:=fun hx hy=>by
  rw[hx]at h3
  simp only[Bool.or_eq_true,Bool.and_eq_true,decide_eq_true_eq,Option.isNone_iff_eq_none]at h3
  rcases h3 with(h3|h3)|h3
  ·exact h3.2
  ·omega
  ·exact h3.2
 have hk1:(3<=x.o.cls\/x.o.cls=1/\y.o.hard=true)->3<=y.o.cls->y.g=none/\x.g=none/\apart x.o y.o=true:=fun hx hy=>by
  have:=hcls x.o
  match hxc:x.o.cls,hx,hcx,this with
  |0,hx,_,_=>omega
  |1,hx,_,_=>
   rw[hxc]at h3;simp only[Bool.or_eq_true,Bool.and_eq_true,Bool.not_eq_true',decide_eq_true_eq,Option.isNone_iff_eq_none]at h3
   have hh:y.o.hard=true:=by
                   rcases hx with hx|hx;·omega
                   exact hx.2
   rcases h3 with(h3|h3)|h3
   ·rw[hh]at h3;cases h3.1
   ·omega
   ·exact⟨h3.1.2,h3.2,h3.1.1⟩
  |2,_,hh,_=>exact absurd hxc (by simpa[hxc]using hh.1)
  |3,_,_,_=>
          rw[hxc]at h3;simp only[Bool.or_eq_true,Bool.and_eq_true,decide_eq_true_eq,Option.isNone_iff_eq_none,beq_iff_eq]at h3;rcases h3.2 with h7|h7;·omega
          exact⟨h7.1.2,h3.1,h7.2⟩
  |4,_,_,_=>
          rw[hxc]at h3;simp only[Bool.or_eq_true,Bool.and_eq_true,decide_eq_true_eq,Option.isNone_iff_eq_none,beq_iff_eq]at h3;rcases h3.2 with h7|h7;·omega
          exact⟨h7.1.2,h3.1,h7.2⟩
  |5,_,hh,_=>exact absurd hxc (by simpa[hxc]using hh.2)
 have hk2:3<=x.o.cls->y.o.cls=0\/3<=y.o.cls:=fun hx=>by
  have:=hcls x.o
  match hxc:x.o.cls,hx,hcx,this with
  |3,_,_,_=>
          rw[hxc]at h3;simp only[Bool.or_eq_true,Bool.and_eq_true,decide_eq_true_eq,beq_iff_eq]at h3;rcases h3.2 with h7|h7;·exact .inl h7
          exact .inr h7.1.1
  |4,_,_,_=>
          rw[hxc]at h3;simp only[Bool.or_eq_true,Bool.and_eq_true,decide_eq_true_eq,beq_iff_eq]at h3;rcases h3.2 with h7|h7;·exact .inl h7
          exact .inr h7.1.1
  |5,_,hh,_=>exact absurd hxc (by simpa[hxc]using hh.2)
 have ao0:∀z:Ixo,z.cls=0->z.aopds=[]/\z.names=[]:=fun z hz=>by cases z<;>simp[Ixo.cls,Ixo.aopds,Ixo.names]at hz⊢
 have okx:∀p∈x.o.aopds,Opd.ok p=true:=fun p hp=>List.all_eq_true.1 h5 _ (aopds_sub x.o _ hp)
 have oky:∀p∈y.o.aopds,Opd.ok p=true:=fun p hp=>List.all_eq_true.1 h6 _ (aopds_sub y.o _ hp)
 obtain⟨ex,g1,g2,g3,g4⟩:=evGX_det ((evG_iff hky).1 hE) hcx
 have ghx:(app x.d s ex).gh=s.gh:=by cases ex<;>cases x.d<;>first|rfl|cases g4
 have g5:=(evG_iff hk).1 g1
 have evy:∀p∈y.o.opds,(app x.d s ex).ev p=s.ev p:=fun p hp=>ev_app fun j hj=>(hsl y j (hdx j hj)).1 p hp
 have nes_sub:∀q∈y.o.nes,q∈y.o.opds:=fun q hq=>by
  cases hy:y.o<;>rw[hy]at hq<;>simp[Ixo.nes,Ixo.opds]at hq⊢<;>simp[hq]
 -- where both touch: they are apart
 have hap:(3<=x.o.cls\/x.o.cls=1/\y.o.hard=true)->3<=y.o.cls->∀a∈x.o.aopds,∀v,s.ev a=some v->∀p∈y.o.aopds,∀u,s.ev p=some u->∀i,v.has i=true->u.has i=false:=fun hx hy=>by
  obtain⟨q1,q2,q3⟩:=hk1 hx hy
  have g6:=g5
  unfold evGX at g6
  rw[q1]at g6
  have hn:=evX_nes g6 hy
  refine apart_ok h5 q3 fun q hq=>?_
  obtain⟨v,k1,k2⟩:=hn q hq
  exact⟨v,(evy q (nes_sub q hq)).symm.trans k1,fun p hp u hu=>k2 p hp u ((evy p (aopds_sub y.o p hp)).trans hu)⟩
 -- what x touches, y does not look at
 have tx:∀i∈tch ex,(∀p∈y.o.aopds,∀v,s.ev p=some v->v.has i=false)/\(y.o.cls=2->∀j,AV.refsInL (fun m=>m != i) (s.sg.getD j .fresh).cellsOf=true)/\∀j,j∈y.o.names->j≠i:=fun i hi=>by
  obtain⟨p0,hp0,rfl⟩:=List.mem_map.1 hi
  obtain⟨q1,q2,q3⟩:=g3 p0 hp0
  refine⟨fun p hp v hv=>?_,fun hc j=>?_,fun j hj=>?_⟩
  ·rcases q3 with⟨_,q4⟩|⟨q4,⟨q,q5,w,q6,q7⟩,_⟩
   ·exact held h q4 (oky p hp) hv
   ·rcases hk2 q4 with hy|hy
    ·rw[(ao0 _ hy).1]at hp;cases hp
    ·exact hap (.inl q4) hy q q5 w q6 p hp v hv _ q7
  ·rcases q3 with⟨_,q4⟩|⟨q4,_⟩
   ·obtain⟨hf',_⟩:=getD_dead q4 (by simp)
    exact cells_unbound h (h.unbound hf') j
   ·rcases hk2 q4 with hy|hy<;>omega
  ·rcases q3 with⟨q4,_⟩|⟨q4,_⟩
   ·exact Ne.symm (hnm _ _ q4 hj)
   ·rcases hk2 q4 with hy|hy
    ·rw[(ao0 _ hy).2]at hj;cases hj
    ·obtain⟨q8,_,_⟩:=hk1 (.inl q4) hy
     have g6:=g5
     unfold evGX at g6
     rw[q8]at g6
     have hf:=evX_fresh hj g6
     rintro rfl
     obtain⟨r,r1,r2⟩:=setL_in (upds ex) s.sg p0.1 (List.mem_map.2 ⟨p0,hp0,rfl⟩) q2
     rw[app_sg]at hf
     have:r = .fresh:=by simpa[List.getD_eq_getElem?_getD,r2]using hf
     exact(g3 _ r1).1 this
 have ay:Agr (keepOf ex) (app x.d s ex) s y.o:=by
  have hnmy:∀j,j∈y.o.names->keepOf ex j=true:=fun j hj=>keepOf_iff.2 fun hm=>by
   exact(tx j hm).2.2 j hj rfl
  refine⟨fun p hp=>(evy p hp).symm,fun _ i hi=>(sg_app hi).symm,fun _ i hi=>by rw[sg_app (d:=x.d) (s:=s) hi],fun p hp v hv=>?_,fun hc i hi=>?_,hnmy,fun _=>ghx.symm⟩
  ·rw[evy p (aopds_sub y.o p hp)]at hv
   exact AV.keep_has fun i hi=>keepOf_iff.2 fun hm=>by rw[(tx i hm).1 p hp v hv]at hi;cases hi
  ·rw[getD_of_get? (sg_app (d:=x.d) (s:=s) hi)]
   refine AV.refsInL_mono (keep:=fun _=>true) _ (fun j hj _=>keepOf_iff.2 fun hm=>?_) (AV.refsInL_all (fun _=>rfl) _)
   rw[(tx j hm).2.1 hc i]at hj;cases hj
 have g6:=evGX_shape hwy (evGX_trans ay (fun e=>absurd e (by rw[hwy];simp)) (fun j w hg=>(look_app fun i hi=>(hsl y i (hdx i hi)).2 j w hg).symm) g5)
 refine(evG_iff hkx).2 (evGX_mono g6 fun ey hey=>?_)
 obtain⟨k1,k2⟩:=hey
 refine(evG_iff hk).2 ?_
 have k2':Shape y.o s ey:=k2
 have evx:∀p∈x.o.opds,(app y.d s ey).ev p=s.ev p:=fun p hp=>ev_app fun j hj=>(hsl x j (hdy j hj)).1 p hp
 -- what y touches, x does not look at
 have ty:∀i∈tch ey,((x.o.cls=1->y.o.hard=true)->∀p∈x.o.aopds,∀v,s.ev p=some v->v.has i=false)/\(∀j,j∈x.o.names->j≠i)/\i∉tch ex:=fun i hi=>by
  obtain⟨p0,hp0,rfl⟩:=List.mem_map.1 hi
  obtain⟨q1,q2,q3⟩:=k2' p0 hp0
  have first:(x.o.cls=1->y.o.hard=true)->∀p∈x.o.aopds,∀v,s.ev p=some v->v.has p0.1=false:=fun hxy p hp v hv=>by
   rcases q3 with⟨_,q4⟩|⟨q4,⟨q,q5,w,q6,q7⟩,_⟩
   ·exact held h q4 (okx p hp) hv
   ·by_cases hx1:1<=x.o.cls
    ·cases hh:v.has p0.1 with
     |false=>rfl
     |true=>rw[hap (by
       by_cases hx2:x.o.cls=1
       ·exact .inr ⟨hx2,hxy hx2⟩
       ·left;have:=hcx.1;omega) q4 p hp v hv q q5 w q6 _ hh]at q7;cases q7
    ·rw[(ao0 _ (by omega)).1]at hp;cases hp
  refine⟨first,fun j hj=>?_,fun hm=>?_⟩
  ·rcases q3 with⟨q4,_⟩|⟨q4,⟨q,q5,w,q6,q7⟩,_⟩
   ·exact hnm _ _ hj q4
   ·have hx1:1<=x.o.cls:=by cases hz:x.o.cls with
     |zero=>rw[(ao0 _ hz).2]at hj;cases hj
     |succ n=>omega
    have q8:x.g=none:=by
     by_cases hx2:x.o.cls=1
     ·exact hk0 hx2 q4
     ·exact(hk1 (.inl (by have:=hcx.1;omega)) q4).2.1
    have g9:=(evG_iff hky).1 hE
    unfold evGX at g9
    rw[q8]at g9
    have hf:=evX_fresh hj g9
    rintro rfl
    rw[held h hf (oky q q5) q6]at q7;cases q7
  ·obtain⟨p1,hp1,e1⟩:=List.mem_map.1 hm
   obtain⟨r1,r2,r3⟩:=g3 p1 hp1
   rw[e1]at r3 r2
   rcases r3 with⟨r4,r5⟩|⟨r4,⟨q',r5,w',r6,r7⟩,_⟩
   ·rcases q3 with⟨q4,_⟩|⟨q4,⟨q,q5,w,q6,q7⟩,_⟩
    ·exact hnm _ _ r4 q4 rfl
    ·rw[held h r5 (oky q q5) q6]at q7;cases q7
   ·rw[first (fun e=>by omega) q' r5 w' r6]at r7;cases r7
 have ax:∃keep,Agr keep s (app y.d s ey) x.o:=by
  by_cases hxy:x.o.cls=1->y.o.hard=true
  ·refine⟨keepOf ey,evx,fun _ i hi=>sg_app hi,fun _ i hi=>by rw[sg_app hi],fun p hp v hv=>?_,fun hc=>absurd hc hcx.1,fun j hj=>keepOf_iff.2 fun hm=>(ty j hm).2.1 j hj rfl,fun hc=>absurd hc hcx.1⟩
   exact AV.keep_has fun i hi=>keepOf_iff.2 fun hm=>by rw[(ty i hm).1 hxy p hp v hv]at hi;cases hi
  ·have hx1:x.o.cls=1:=Classical.byContradiction fun e=>hxy fun e'=>absurd e' e
   have hyh:y.o.hard=false:=by cases hh:y.o.hard with
    |false=>rfl
    |true=>exact absurd (fun _=>hh) hxy
   refine⟨fun i => !((tch ey).contains i&&isFresh (s.sg.getD i .dead)),evx,fun hc=>by omega,fun _ i hi=>?_,fun p hp v hv=>?_,fun hc=>absurd hc hcx.1,fun j hj=>?_,fun hc=>absurd hc hcx.1⟩
   ·by_cases hm:i∈tch ey
    ·obtain⟨p0,hp0,e0⟩:=List.mem_map.1 hm
     have hlt:i<s.sg.length:=e0 ▸ (k2' p0 hp0).2.1
     obtain⟨r,r1,r2⟩:=setL_in (upds ey) s.sg i hm hlt
     rw[app_sg,r2]
     obtain⟨_,_,q3⟩:=k2' _ r1
     rcases q3 with⟨_,q4⟩|⟨_,_,q4⟩
     ·simp only at q4
      rw[q4]at hi
      simp[isFresh,hm]at hi
     ·have:=q4 hyh
      simp only at this
      rw[this]
      simp[List.getD_eq_getElem?_getD,List.getElem?_eq_getElem hlt,Res.ice_ice]
    ·rw[sg_app (keepOf_iff.2 hm)]
   ·refine AV.keep_has fun i hi=>?_
    cases hf:isFresh (s.sg.getD i .dead)with
    |false=>simp
    |true=>rw[held h (isFresh_ok hf) (okx p hp) hv]at hi;cases hi
   ·cases hf:isFresh (s.sg.getD j .dead)with
    |false=>simp
    |true=>
     cases hm:(tch ey).contains j with
     |false=>simp
     |true=>exact absurd rfl ((ty j (by simpa using hm)).2.1 j hj)
 obtain⟨kp,ax⟩:=ax
 refine evGX_trans ax (fun e=>absurd e (by rw[hwx];simp)) (fun j w hg=>look_app fun i hi=>(hsl x i (hdy i hi)).2 j w hg) (g2 _ ?_)
 exact hk _ _ (app_comm hdd g4 fun i hi hj=>(ty i hj).2.2 hi) k1
end Go.Eng
