/- The engine of these proofs, part 4 of 4: abstract values and states, the walk of a function's body as a program on them, and why that walk is sound for the model. It speaks of any program. -/
import Derived.Test.YtjdklkkmmlephaaEng3
set_option linter.unusedSimpArgs false
set_option linter.unusedVariables false
set_option linter.unusedSectionVars false
namespace Go.Eng
open Go.RowKit
def AV.frzk(sg:List Res)(ns:List Nat):Nat->AV->Option AV
 |0,_=>none
 |n+1,v=>match v.pu with
  |true=>some v
  |false=>match v with
   |.row i=>match memN ns i with
    |true=>some (.row i)
    |false=>AV.frz sg 8 (.row i)
   |.own i off=>match memN ns i with
    |true=>some (.own i off)
    |false=>AV.frz sg 8 (.own i off)
   |.elt i sz k j=>match memN ns i with
    |true=>some (.elt i sz k j)
    |false=>none
   |.agg cs=>match mapO (AV.frzk sg ns n) cs with
    |some ds=>some (.agg ds)
    |none=>none
   |.tup cs=>match mapO (AV.frzk sg ns n) cs with
    |some ds=>some (.tup ds)
    |none=>none
   |.fn f cs=>match mapO (AV.frzk sg ns n) cs with
    |some ds=>some (.fn f ds)
    |none=>none
   |_=>none
mutual
def AV.inN(ns:List Nat):AV->Bool
 |.own i _=>memN ns i
 |.elt i _ _ _=>memN ns i
 |.row i=>memN ns i
 |.agg cs=>AV.inNL ns cs
 |.tup cs=>AV.inNL ns cs
 |.fn _ cs=>AV.inNL ns cs
 |.yld=>false
 |.gone=>false
 |_=>true
def AV.inNL(ns:List Nat):List AV->Bool
 | []=>true
 |a::as=>a.inN ns&&AV.inNL ns as
end
def posK:List Nat->Nat->Nat
 | [],_=>0
 |j::l,i=>match decide (i=j)with
  |true=>0
  |false=>posK l i+1
def outR(sg:List Res)(ns:List Nat):Res->Option Res
 |.fresh=>none
 |.box false cs=>match mapO (AV.frzk sg ns 8) cs with
  |some ds=>match AV.inNL ns ds with
   |true=>some (.box false (AV.mvL (posK ns) ds))
   |false=>none
  |none=>none
 |.mpo _ _=>none
 |r=>some r
def getF:List Res->Nat->Res
 | [],_=>.fresh
 |r::_,0=>r
 |_::rs,n+1=>getF rs n
theorem getF_eq:∀(l:List Res) (n:Nat),getF l n=l.getD n .fresh
 | [],n=>by simp[getF]
 |r::l,0=>by simp[getF]
 |r::l,n+1=>by simp[getF,getF_eq l n]
def outL(sg0 sg:List Res)(ns:List Nat):List Nat->Option (List Res)
 | []=>some []
 |i::l=>match outR sg ns (getF sg0 i)with
  |some r=>match outL sg0 sg ns l with
   |some rs=>some (r::rs)
   |none=>none
  |none=>none
def rangeN:Nat->Nat->List Nat
 |_,0=>[]
 |i,n+1=>i::rangeN (i+1) n
def retW1(m k:Nat)(nw:List Nat)(R:AV->List Res->Prop)(sg:List Res)(gh:Gh)(v:AV):Prop:=
 match nodupN (rangeN m k++nw),subN (rangeN m k) gh.p with
 |true,true=>match outL sg (setL sg (deadL (rangeN m k++nw))) (rangeN m k++nw) (rangeN m k++nw)with
  |some outs=>match AV.frzk (setL sg (deadL (rangeN m k++nw))) (rangeN m k++nw) 8 v with
   |some r=>match r.inN (rangeN m k++nw)with
    |true=>R (r.mv (posK (rangeN m k++nw))) outs
    |false=>False
   |none=>False
  |none=>False
 |_,_=>False
def retW(rs:List RIO)(m k:Nat)(nw:List Nat)(R:AV->List Res->Prop)(tm:Tm)(sg:List Res)(gh:Gh):Prop:=
 resLK tm sg rs fun vs=>retW1 m k nw R sg gh (oneV vs)
def finW(rs:List RIO)(m k:Nat)(nw:List Nat)(R:AV->List Res->Prop)(e:Ex)(tm:Tm)(sg:List Res)(gh:Gh):Prop:=
 match e with
 |.exit _=>False
 |.normal=>retW rs m k nw R tm sg gh
 |.ret=>retW rs m k nw R tm sg gh
def insL(m:Nat):List Res->List Res
 | []=>[]
 |r::rs=>r.mv (fun j=>m+j)::insL m rs
def appR:List Res->List Res->List Res
 | [],l=>l
 |r::rs,l=>r::appR rs l
theorem appR_eq:∀(a b:List Res),appR a b=a++b
 | [],b=>rfl
 |r::rs,b=>by simp[appR,appR_eq rs b]
theorem insL_get:∀ {m:Nat} {ins:List Res} {j:Nat},(insL m ins).getD j .fresh=(ins.getD j .fresh).mv (fun j=>m+j)
 |m,[],j=>by simp[insL,Res.mv]
 |m,r::rs,0=>by simp[insL]
 |m,r::rs,j+1=>by simpa[insL]using insL_get (m:=m) (ins:=rs) (j:=j)
theorem rangeN_get:∀ {n i j:Nat},j<n->(rangeN i n)[j]?=some (i+j)
 |0,_,j,h=>by omega
 |n+1,i,0,_=>by simp[rangeN]
 |n+1,i,j+1,h=>by simp only[rangeN,List.getElem?_cons_succ];rw[rangeN_get (by omega)];congr 1;omega
theorem rangeN_len:∀ {n i:Nat},(rangeN i n).length=n
 |0,_=>rfl
 |n+1,i=>by simp[rangeN,rangeN_len]
theorem posK_mem:∀ {ns:List Nat} {i:Nat},i∈ns->posK ns i<ns.length/\ns[posK ns i]?=some i
 | [],i,h=>by cases h
 |j::l,i,h=>by
  simp only[posK]
  split
  ·rename_i e;have e:=of_decide_eq_true e;subst e;simp
  ·rename_i e;have e:=of_decide_eq_false e
   obtain⟨h1,h2⟩:=posK_mem ((List.mem_cons.1 h).resolve_left e)
   exact⟨by simp;omega,by simpa using h2⟩
theorem outL_get{sg0 sg:List Res}{ns:List Nat}:∀ {l:List Nat} {outs:List Res},outL sg0 sg ns l=some outs->outs.length=l.length/\∀j i,l[j]?=some i->outR sg ns (sg0.getD i .fresh)=some (outs.getD j .fresh)
 | [],outs,h=>by simp only[outL,Option.some.injEq]at h;subst h;simp
 |i::l,outs,h=>by
  simp only[outL,getF_eq]at h
  split at h
  ·rename_i r h1
   split at h<;>cases h
   rename_i rs h2
   obtain⟨k1,k2⟩:=outL_get h2
   refine⟨by simp[k1],fun j x hj=>?_⟩
   cases j with
   |zero=>simp at hj;subst hj;simpa using h1
   |succ j=>simpa using k2 j x (by simpa using hj)
  ·cases h
theorem frzk_ok{X:Sess}{C C1:Ctx}{s:St}{a:Act}(h:Rel X C s a)(hi:C1.imm=immAll C s)(hw:C1.w=C.w)(hr:C1.rho=C.rho){ns:List Nat}:∀(n:Nat) (v:AV) (x:Value) (v':AV),AV.frzk s.sg ns n v=some v'->RV C v x->RV C1 v' x:=by
 have leaf:∀(v:AV) (x:Value) (v':AV),AV.frz s.sg 8 v=some v'->RV C v x->RV C1 v' x:=fun v x v' h1 h2=>by
  have:=frz_ok h 8 v x v' h1 h2
  rw[<- hi,<- hw]at this
  exact RV0.rv v' x this
 have hl:∀(v:AV) (x:Value),v.pu=true->RV C v x->RV C1 v x:=fun v x hv hx=>by
  have h1:=RV.to0 v x hv hx
  refine RV0.rv v x (RV0.mono (imm:=C.imm) (w:=C.w) (fun b hb=>⟨by rw[hi];exact .inl hb,by rw[hw]⟩) v x h1)
 have lst:∀ {f:AV->Option AV},(∀v x v',f v=some v'->RV C v x->RV C1 v' x)->∀(as:List AV) (vs:List Value) (as':List AV),mapO f as=some as'->RVs C as vs->RVs C1 as' vs:=by
  intro f hf as
  induction as with
  |nil=>intro vs as' hm hv;simp only[mapO,Option.some.injEq]at hm;subst hm;simpa[RVs]using hv
  |cons a as ih=>
   intro vs as' hm hv
   simp only[mapO]at hm
   split at hm
   ·rename_i d ds h1 h2
    cases hm
    simp only[RVs]at hv⊢;obtain⟨v,vs',rfl,h3,h4⟩:=hv
    exact⟨v,vs',rfl,hf _ _ _ h1 h3,ih vs' ds h2 h4⟩
   ·cases hm
 intro n
 induction n with
 |zero=>intro v x v' hv;simp[AV.frzk]at hv
 |succ n ih=>
  intro v x v' hv hx
  unfold AV.frzk at hv
  split at hv
  ·rename_i hp;cases hv;exact hl v x hp hx
  ·cases v with
   |row i=>
    simp only at hv
    split at hv
    ·cases hv;simp only[RV]at hx⊢;rw[hr];exact hx
    ·exact leaf _ _ _ hv hx
   |own i off=>
    simp only at hv
    split at hv
    ·cases hv;simp only[RV]at hx⊢;rw[hr];exact hx
    ·exact leaf _ _ _ hv hx
   |elt i sz k j=>
    simp only at hv
    split at hv
    ·cases hv;simp only[RV]at hx⊢;rw[hr];exact hx
    ·cases hv
   |agg cs=>
    simp only at hv
    split at hv<;>cases hv
    rename_i ds hm
    simp only[RV]at hx⊢
    obtain⟨vs,rfl,hx⟩:=hx
    exact⟨vs,rfl,lst ih cs vs ds hm hx⟩
   |tup cs=>
    simp only at hv
    split at hv<;>cases hv
    rename_i ds hm
    simp only[RV]at hx⊢
    obtain⟨vs,rfl,hx⟩:=hx
    exact⟨vs,rfl,lst ih cs vs ds hm hx⟩
   |fn f cs=>
    simp only at hv
    split at hv<;>cases hv
    rename_i ds hm
    simp only[RV]at hx⊢
    obtain⟨vs,rfl,hx⟩:=hx
    exact⟨vs,rfl,lst ih cs vs ds hm hx⟩
   |_=>simp at hv
theorem frzkL_ok{X:Sess}{C C1:Ctx}{s:St}{a:Act}(h:Rel X C s a)(hi:C1.imm=immAll C s)(hw:C1.w=C.w)(hr:C1.rho=C.rho){ns:List Nat}:∀(as:List AV) (vs:List Value) (as':List AV),mapO (AV.frzk s.sg ns 8) as=some as'->RVs C as vs->RVs C1 as' vs
 | [],vs,as',hm,hv=>by simp only[mapO,Option.some.injEq]at hm;subst hm;simpa[RVs]using hv
 |a::as,vs,as',hm,hv=>by
  simp only[mapO]at hm
  split at hm
  ·rename_i d ds h1 h2
   cases hm
   simp only[RVs]at hv⊢;obtain⟨v,vs',rfl,h3,h4⟩:=hv
   exact⟨v,vs',rfl,frzk_ok h hi hw hr 8 _ _ _ h1 h3,frzkL_ok h hi hw hr as vs' ds h2 h4⟩
  ·cases hm
mutual
theorem RV.inn{C C0:Ctx}{π : Nat->Nat}{ns:List Nat}(hp:Pers C0.imm C.imm C0.w C.w)(hr:∀i,i∈ns->C.rho (π i)=C0.rho i):∀(a:AV) (x:Value),a.inN ns=true->RV C0 a x->RV C (a.mv π) x
 |.bool _,_,_,h=>by simpa only[RV,AV.mv]using h
 |.int _ _,_,_,h=>by simpa only[RV,AV.mv]using h
 |.str _,_,_,h=>by simpa only[RV,AV.mv]using h
 |.lit _,_,_,h=>by simpa only[RV,AV.mv]using h
 |.nils,_,_,h=>by simpa only[RV,AV.mv]using h
 |.agg cs,v,hb,h=>by simp only[RV,AV.mv,AV.inN]at h hb⊢;obtain⟨vs,rfl,h⟩:=h;exact⟨vs,rfl,RVs.inn hp hr cs vs hb h⟩
 |.tup cs,v,hb,h=>by simp only[RV,AV.mv,AV.inN]at h hb⊢;obtain⟨vs,rfl,h⟩:=h;exact⟨vs,rfl,RVs.inn hp hr cs vs hb h⟩
 |.fn f cs,v,hb,h=>by simp only[RV,AV.mv,AV.inN]at h hb⊢;obtain⟨vs,rfl,h⟩:=h;exact⟨vs,rfl,RVs.inn hp hr cs vs hb h⟩
 |.isl es,v,_,h=>by simp only[RV,AV.mv]at h⊢;exact RV0.mono hp _ _ h
 |.ipt cs,v,_,h=>by simp only[RV,AV.mv]at h⊢;exact RV0.mono hp _ _ h
 |.imp _ _,v,_,h=>by simp only[RV,AV.mv]at h⊢;exact RV0.mono hp _ _ h
 |.tsl _ _,v,_,h=>by simp only[RV,AV.mv]at h⊢;exact RV0.mono hp _ _ h
 |.mth _ _,v,_,h=>by simp only[RV,AV.mv]at h⊢;exact RV0.mono hp _ _ h
 |.any,v,_,h=>by simpa only[RV,AV.mv]using h
 |.own i _,v,hb,h=>by simp only[RV,AV.mv,AV.inN]at h hb⊢;rw[hr i (memN_iff.1 hb)];exact h
 |.elt i _ _ _,v,hb,h=>by simp only[RV,AV.mv,AV.inN]at h hb⊢;rw[hr i (memN_iff.1 hb)];exact h
 |.row i,v,hb,h=>by simp only[RV,AV.mv,AV.inN]at h hb⊢;rw[hr i (memN_iff.1 hb)];exact h
 |.yld,_,hb,_=>by cases hb
 |.gone,_,hb,_=>by cases hb
theorem RVs.inn{C C0:Ctx}{π : Nat->Nat}{ns:List Nat}(hp:Pers C0.imm C.imm C0.w C.w)(hr:∀i,i∈ns->C.rho (π i)=C0.rho i):∀(as:List AV) (xs:List Value),AV.inNL ns as=true->RVs C0 as xs->RVs C (AV.mvL π as) xs
 | [],_,_,h=>by simpa only[RVs,AV.mvL]using h
 |a::as,xs,hb,h=>by
  simp only[RVs,AV.mvL,AV.inNL,Bool.and_eq_true]at h hb⊢
  obtain⟨x,xs',rfl,h1,h2⟩:=h
  exact⟨x,xs',rfl,RV.inn hp hr a x hb.1 h1,RVs.inn hp hr as xs' hb.2 h2⟩
end
def rho0(m:Nat)(os:Nat->Option Own)(i:Nat):Option Own:=if i<m then none else os (i-m)
theorem fnW{P:Program}{f:FuncId}{N M:Nat}{ci:CI}{rs:List RIO}{args:List AV}{ins:List Res}{R:AV->List Res->Prop}(m:Nat)(nw:List Nat)(hok:FnOk P f N M ci rs)(hN:args.length<=N)(hb1:AV.blwL ins.length args=true)(hb2:resBelow ins.length ins=true)
  (h0:goP (env3 P N []) ci (finW rs m ins.length nw R) (argsTm 0 (AV.mvL (fun j=>m+j) args)) (appR (freshL m) (insL m ins)) ⟨rangeN m ins.length,0,false⟩):FnW P f args ins R:=by
 have h:=goP_ok h0
 unfold GoC at h
 obtain⟨fn,c,h1,h2,h3,h4,h5⟩:=hok.ok
 intro imm T w os vs himm hT hargs hPart
 let X:Sess:={ P:=P,F:=Fence.wide,n:=5,N:=N,imm0:=imm,lo:=w.heap.size,pin:=rho0 m os,l:=0,Keep:=fun T' S k st w'=>(k=0/\st=false/\∀b,¬S.s b/\¬S.h b)/\Wr imm T w w'/\∀b,T' b->T b\/w.heap.size<=b }
 have hX:SessOk X (env3 P N []):=⟨fun f=>trivial, .inl rfl,
  fun T' S k st w1 w2 hk hg=>⟨hk.1,⟨hg.os.trans hk.2.1.os,hg.tape.trans hk.2.1.tape,hg.output.trans hk.2.1.output,Nat.le_trans hk.2.1.size hg.size,fun b hb hc=>(hg.block b (Nat.lt_of_lt_of_le hb hk.2.1.size)).trans (hk.2.1.same b hb hc)⟩,fun b hb=>hb.elim (hk.2.2 b) fun hb=>.inr (Nat.le_trans hk.2.1.size hb.1)⟩,
  fun T' S k st w1 w2 b hk hTb hni _ hg=>⟨hk.1,⟨hg.os.trans hk.2.1.os,hg.tape.trans hk.2.1.tape,hg.output.trans hk.2.1.output,by rw[hg.size];exact hk.2.1.size,fun b' hb' hc=>(hg.other b' (fun e=>by
   subst e
   rcases hc with hc|hc
   ·exact hni hc
   ·rcases hk.2.2 b' hTb with q|q
    ·exact hc q
    ·omega)).trans (hk.2.1.same b' hb' hc)⟩,hk.2.2⟩,
  fun T' S k st w1 b r r' hk hTb hlo _ _=>⟨hk.1,⟨hk.2.1.os,hk.2.1.tape,hk.2.1.output,by simp only[World.putObj,Array.size_setIfInBounds];exact hk.2.1.size,fun b' hb' hc=>(World.putObj_heap_other (fun e=>by have:w.heap.size<=b:=hlo;omega)).trans (hk.2.1.same b' hb' hc)⟩,hk.2.2⟩,
  fun T' S k st w1 w2 hk _ hr=>⟨hk.1,⟨hr.os.trans hk.2.1.os,hr.tape.trans hk.2.1.tape,hr.output.trans hk.2.1.output,Nat.le_trans hk.2.1.size hr.size,fun b' hb' hc=>(hr.same b' (Nat.lt_of_lt_of_le hb' hk.2.1.size) (.inl hb')).trans (hk.2.1.same b' hb' hc)⟩,hk.2.2⟩,
  fun T' S k st w1 Q hk hQ=>⟨hk.1,hk.2.1,fun b hb=>hb.elim (hk.2.2 b) fun hb=>.inr (hQ b hb).1⟩,fun T' S k st w1 hk=>hk.2.1.size,fun T' S k st w1 hk=>⟨fun b hb=>absurd hb (hk.1.2.2 b).1,fun b hb=>absurd hb (hk.1.2.2 b).2⟩,fun T' S k k' w1 us xs Q _ _ _ _ hys _=>by have h:=hys.1;simp at h,rfl,rfl⟩
 have hlenm:(freshL m).length=m:=by rw[freshL_eq];simp
 have hsg:∀i,(appR (freshL m) (insL m ins)).getD i .fresh=if i<m then .fresh else(ins.getD (i-m) .fresh).mv (fun j=>m+j):=fun i=>by
  rw[appR_eq,List.getD_eq_getElem?_getD]
  split
  ·rename_i hi
   rw[List.getElem?_append_left (by omega),freshL_eq,List.getElem?_replicate];simp[hi]
  ·rename_i hi
   rw[List.getElem?_append_right (by omega),hlenm,<- List.getD_eq_getElem?_getD,insL_get]
 have hrho:∀j,rho0 m os (m+j)=os j:=fun j=>by rw[rho0,if_neg (by omega),show m+j-m=j from by omega]
 have hlen:vs.length=args.length:=hargs.length
 have hos:∀i o,os i=some o->i<ins.length:=fun i o ho=>Classical.byContradiction fun hn=>by
  have:=hPart.sg i
  rw[show ins.getD i .fresh = .fresh from by rw[List.getD_eq_getElem?_getD,List.getElem?_eq_none (by omega)];rfl]at this
  rw[this]at ho;cases ho
 have hrel:Rel X ⟨imm,T,rho0 m os,w,ln0⟩ ⟨argsTm 0 (AV.mvL (fun j=>m+j) args),appR (freshL m) (insL m ins),⟨rangeN m ins.length,0,false⟩⟩ { tmps:=vs.toArray++Array.replicate (fn.ntmps-vs.toArray.size) undef,defers:=[] }:=by
  refine⟨?_,fun d v hv=>?_,fun i=>?_,fun i j b hi hj=>?_,fun b hb=>⟨.inl hb,himm b hb⟩,fun b hb=>hb,hT,⟨⟨rfl,rfl,fun _=>⟨fun hb=>hb,fun hb=>hb⟩⟩,⟨rfl,rfl,rfl,Nat.le_refl _,fun _ _ _=>rfl⟩,fun b hb=>.inl hb⟩,⟨[],rfl,List.nodup_nil,fun D hD=>by cases hD⟩,(fun l hl=>by cases hl),fun i o _ hi=>hi,rfl,fun b hb=>hb.elim⟩
  ·show(vs.toArray++Array.replicate (fn.ntmps-vs.toArray.size) undef).size=N
   simp only[Array.size_append,List.size_toArray,Array.size_replicate]
   omega
  ·obtain⟨_,hd⟩:=argsTm_look hv
   simp only[Nat.sub_zero]at hd
   have hrvs:RVs ⟨imm,T,rho0 m os,w,ln0⟩ (AV.mvL (fun j=>m+j) args) vs:=RVs.up (C:=⟨imm,T,rho0 m os,w,ln0⟩) (C0:=⟨imm,T,os,w,ln0⟩) (π :=fun j=>m+j) (k:=ins.length) (fun b hb=>⟨hb,rfl⟩) (fun i _=>(hrho i)) args vs hb1 hargs
   obtain⟨x,hx,hvx⟩:=hrvs.get hd
   have hlt:=(List.getElem?_eq_some_iff.1 hx).1
   have:(vs.toArray++Array.replicate (fn.ntmps-vs.toArray.size) undef).getD d undef=x:=by
    rw[Array.getD_eq_getD_getElem?,Array.getElem?_append_left (by simpa using hlt)]
    simp[hx]
   rw[this];exact hvx
  ·simp only[hsg]
   split
   ·rename_i hi;simp[ResOk,rho0,hi]
   ·rename_i hi
    have e:rho0 m os i=os (i-m):=by simp[rho0,hi]
    show ResOk _ _ (rho0 m os i)
    rw[e]
    by_cases hlt:i-m<ins.length
    ·exact ResOk.up (C:=⟨imm,T,rho0 m os,w,ln0⟩) (C0:=⟨imm,T,os,w,ln0⟩) (π :=fun j=>m+j) (k:=ins.length) rfl (fun b hb=>hb) (fun j _=>hrho j) (resBelow_get hb2 (i-m) hlt) (fun b hb=>⟨(Res.blk_lt (hPart.sg _) hb).1,id⟩) (hPart.sg (i-m))
    ·have e2:ins.getD (i-m) .fresh = .fresh:=by rw[List.getD_eq_getElem?_getD,List.getElem?_eq_none (by omega)];rfl
     have:=hPart.sg (i-m)
     rw[e2]at this⊢
     exact this
  ·simp only[hsg]at hi hj
   split at hi
   ·cases hi
   ·split at hj
    ·cases hj
    ·rename_i c1 c2
     rw[Res.mv_blk]at hi hj
     have e1:rho0 m os i=os (i-m):=by simp[rho0,c1]
     have e2:rho0 m os j=os (j-m):=by simp[rho0,c2]
     have:=hPart.dis (i-m) (j-m) b (by rw[<- e1];exact hi) (by rw[<- e2];exact hj)
     omega
 refine(callsIn_wide (n:=5)).1 (callsIn_of_wp_marks h1 h2 trivial (wpIn_mono (h X hX c 0 M h4 _ _ hrel) fun e a w1 hq=>?_))
 have fin:∀(C:Ctx) (s:St),C.w=w1->Rel X C s a->retW rs m ins.length nw R s.tm s.sg s.gh->LeavesInM Fence.wide 5 P fn a.tmps (fun e w'=>∃v r outs imm' T' os',e = .returned v/\R r outs/\RV ⟨imm',T',os',w',ln0⟩ r v/\Part imm' T' w' os' outs/\(∀i o,os i=some o->os' i=some o) /\
   Wr imm T w w'/\(∀b,T b->T' b)/\(∀b,T' b->T b\/(w.heap.size<=b/\b<w'.heap.size))/\(∀b,imm b->imm' b)/\(∀b,imm' b->(imm b\/T' b)/\Mem w' b)) a.defers .returning w1:=fun C s hCw hr hret=>by
  subst hCw
  obtain⟨ds,hd1,hd2,hd3⟩:=hr.marks
  rw[hd1]
  refine leave_marks (B:=C.T) ds C.w hd2 hd3 fun w' hw'=>?_
  simp only[LeavesInM,LeavesIn]
  unfold retW at hret
  obtain⟨us,hus,hret⟩:=resLK_ok (gh:=s.gh) hret
  obtain⟨xs,k1,k2⟩:=resL_run hr hw' fn.results.toList rs us h5 hus
  have hrun:(results fn a.tmps).run P w' = .ok (if h:xs.toArray.size=1 then xs.toArray[0] else .tuple xs.toArray) w':=by
   rw[results_eq,Array.mapM_eq_mapM_toList]
   have k1':(fn.results.toList.mapM (resF a.tmps)).run P w' = .ok xs w':=k1
   simp only[Sem.run_bind,Sem.run_map,k1',Result.andThen_ok,Sem.run_pure]
  refine⟨_,hrun,?_⟩
  have k3:=oneV_rv k2
  unfold retW1 at hret
  generalize hns:rangeN m ins.length++nw=ns at hret
  split at hret<;>try exact hret.elim
  rename_i hnd hsub
  split at hret<;>try exact hret.elim
  rename_i outs hout
  split at hret<;>try exact hret.elim
  rename_i r hfz
  split at hret<;>try exact hret.elim
  rename_i hin
  obtain⟨ol1,ol2⟩:=outL_get hout
  have hgo:∀j i,ns[j]?=some i->outR (setL s.sg (deadL ns)) ns (s.sg.getD i .fresh)=some (outs.getD j .fresh):=ol2
  have hidx:∀i∈ns,∃j:Nat,ns[j]?=some i:=fun i hi=>by
   obtain⟨j,hj,e⟩:=List.getElem_of_mem hi
   exact⟨j,by rw[List.getElem?_eq_getElem hj,e]⟩
  obtain⟨hkl,hbl⟩:=Rel.killN ns (s:=s) hr (fun i hi e=>by
   obtain⟨j,hj⟩:=hidx i hi
   have:=hgo j i hj
   rw[e]at this;cases this)
  have hBk:∀b,immAll C { s with sg:=setL s.sg (deadL ns) } b->Mem w' b:=fun b hb=>by
   obtain⟨o',hh,ho'⟩:=immAll_cells hkl b hb
   exact⟨_,hw'.mem b _ hh ho',ho'⟩
  let C1:Ctx:=⟨immAll C { s with sg:=setL s.sg (deadL ns) },C.T,C.rho,w',ln0⟩
  let os':Nat->Option Own:=fun j=>(ns[j]?).bind C.rho
  let C2:Ctx:=⟨immAll C { s with sg:=setL s.sg (deadL ns) },fun b=>T b\/C.T b,os',w',ln0⟩
  have hos':∀i,i∈ns->os' (posK ns i)=C.rho i:=fun i hi=>by
   simp only[os',(posK_mem hi).2,Option.bind_some]
  have hpers:Pers (immAll C { s with sg:=setL s.sg (deadL ns) }) (immAll C { s with sg:=setL s.sg (deadL ns) }) C.w w':=fun b hb=>by
   obtain⟨o',hh,ho'⟩:=immAll_cells hkl b hb
   exact⟨hb,(hw'.mem b _ hh ho').trans hh.symm⟩
  have hp0:Pers C.imm (immAll C { s with sg:=setL s.sg (deadL ns) }) C.w w':=fun b hb=>⟨.inl hb,(hpers b (.inl hb)).2⟩
  have hl1:Later (fun _=>true) ⟨immAll C { s with sg:=setL s.sg (deadL ns) },C.T,C.rho,C.w,ln0⟩ C1:=⟨hpers,fun _ _=>rfl,rfl⟩
  have hT1:∀b,C.T b->b<w'.heap.size:=fun b hb=>by rw[hw'.size];exact hr.T b hb
  have hnot:∀i b,i∈ns->(s.sg.getD i .fresh).blk (C.rho i)=some b->immAll C { s with sg:=setL s.sg (deadL ns) } b->C.imm b:=fun i b hi hb hb2=>by
   rcases hb2 with hb2|⟨j,hj⟩
   ·exact hb2
   ·rw[hbl]at hj
    split at hj
    ·cases hj
    ·rename_i hnj
     exact absurd (hr.dis j i b hj hb ▸ hi) hnj
  have hval:RV C2 (r.mv (posK ns)) (if h:xs.toArray.size=1 then xs.toArray[0] else .tuple xs.toArray):=by
   have q1:=frzk_ok (C1:=⟨immAll C { s with sg:=setL s.sg (deadL ns) },C.T,C.rho,C.w,ln0⟩) hkl rfl rfl rfl 8 _ _ _ hfz k3
   have q2:=RV.later hl1 _ _ (AV.refsIn_all (fun _=>rfl) _) q1
   exact RV.inn (C:=C2) (C0:=C1) (ns:=ns) (fun b hb=>⟨hb,rfl⟩) (fun i hi=>hos' i hi) r _ hin q2
  have hpart:Part (immAll C { s with sg:=setL s.sg (deadL ns) }) (fun b=>T b\/C.T b) w' os' outs:=by
   have hout':∀j,outs.length<=j->outs.getD j .fresh = .fresh/\os' j=none:=fun j hj=>by
    refine⟨by rw[List.getD_eq_getElem?_getD,List.getElem?_eq_none hj];rfl,?_⟩
    simp only[os'];rw[List.getElem?_eq_none (by omega)];rfl
   have hblk:∀j i,ns[j]?=some i->(outs.getD j .fresh).blk (os' j)=(s.sg.getD i .fresh).blk (C.rho i):=fun j i hj=>by
    have:=hgo j i hj
    have e:os' j=C.rho i:=by simp only[os',hj,Option.bind_some]
    rw[e]
    generalize outs.getD j .fresh=q at this
    generalize s.sg.getD i .fresh=p at this
    unfold outR at this
    split at this
    ·cases this
    ·split at this<;>try cases this
     split at this<;>cases this
     rfl
    ·cases this
    ·cases this;rfl
   refine⟨fun j=>?_,fun i j b hi hj=>?_⟩
   ·by_cases hj:j<outs.length
    ·obtain⟨i,hi⟩:∃i,ns[j]?=some i:=⟨_,List.getElem?_eq_getElem (by omega)⟩
     have him:i∈ns:=List.mem_of_getElem? hi
     have hg:=hgo j i hi
     have hs:=hr.sg i
     have e:os' j=C.rho i:=by simp only[os',hi,Option.bind_some]
     rw[e]
     cases hres:s.sg.getD i .fresh with
     |fresh=>rw[hres]at hg;cases hg
     |dead=>rw[hres]at hg hs;simp only[outR,Option.some.injEq]at hg;rw[<- hg];exact hs
     |box ice cs=>
      cases ice with
      |false=>
       rw[hres]at hg
       simp only[outR]at hg
       split at hg<;>try cases hg
       rename_i ds hds
       split at hg<;>try (cases hg;done)
       rename_i hind
       have e8:outs.getD j .fresh = .box false (AV.mvL (posK ns) ds):=by injection hg with hg;exact hg.symm
       rw[e8]
       have hs2:=hs
       rw[hres]at hs2
       obtain⟨b,vs',el,g1,g2,g3,g4,g5,g6⟩:=hs2
       have hb:(s.sg.getD i .fresh).blk (C.rho i)=some b:=by rw[hres,g1];rfl
       have q1:=frzkL_ok (C1:=⟨immAll C { s with sg:=setL s.sg (deadL ns) },C.T,C.rho,C.w,ln0⟩) hkl rfl rfl rfl cs vs' ds hds g4
       have q2:=RVs.later hl1 _ _ (AV.refsInL_all (fun _=>rfl) _) q1
       exact⟨b,vs',el,g1, .inr g2,hw'.mem _ _ g3 rfl,RVs.inn (C:=C2) (C0:=C1) (ns:=ns) (fun b hb=>⟨hb,rfl⟩) (fun i hi=>hos' i hi) ds _ hind q2,fun e=>absurd e (by simp),fun _ hh=>g6 rfl (hnot i b him hb hh)⟩
      |true=>
       rw[hres]at hg hs
       simp only[outR,Option.some.injEq]at hg
       rw[<- hg]
       obtain⟨b,vs',el,g1,g2,g3,g4,g5,g6⟩:=hs
       have q:=RV0s.mono hp0 _ _ (g5 rfl).2
       exact⟨b,vs',el,g1, .inr g2,hw'.mem _ _ g3 rfl,RV0s.rv (C:=C2) _ _ q,fun _=>⟨.inl (g5 rfl).1,q⟩,fun e=>absurd e (by simp)⟩
     |row ice el sz es=>
      have hblk:=hnot i
      rw[hres]at hg hs hblk
      simp only[outR,Option.some.injEq]at hg
      rw[<- hg]
      obtain⟨b,v,xs',g1,g2,g3,g4,g5⟩:=hs
      rw[g1]at hblk
      refine⟨b,v,xs',g1,⟨g2.1,?_⟩,RV0s.mono hp0 _ _ g3,g4,fun b' e=>?_⟩
      ·rcases g2.2 with g2|⟨g,cap,cur,e,k6,k7,k8⟩
       ·exact .inl g2
       ·exact .inr ⟨g,cap,cur,e,k6,hw'.mem _ _ k7 rfl,k8⟩
      ·obtain⟨m1,m2,m3,m4⟩:=g5 b' e
       exact⟨m1, .inr m2,fun e'=>.inl (m3 e'),fun e' hh=>m4 e' (by rw[<- m1]at hh⊢;exact hblk b' him e hh)⟩
     |mp ice ks us=>
      have hblk:=hnot i
      rw[hres]at hg hs hblk
      simp only[outR,Option.some.injEq]at hg
      rw[<- hg]
      obtain⟨b,es,g1,g2,g3,g4,g5,g6,g7,g8⟩:=hs
      rw[g1]at hblk
      exact⟨b,es,g1, .inr g2,hw'.mem _ _ g3 rfl,g4,RV0s.mono hp0 _ _ g5,RV0s.mono hp0 _ _ g6,fun e'=>.inl (g7 e'),fun e' hh=>g8 e' (hblk b him rfl hh)⟩
     |mpo ks us=>
      rw[hres]at hg
      simp only[outR]at hg
      cases hg
     |itr ks us seen last=>
      have hblk:=hnot i
      rw[hres]at hg hs hblk
      simp only[outR,Option.some.injEq]at hg
      rw[<- hg]
      obtain⟨b,mm,g1,g2,g3,g4,g5,g6⟩:=hs
      rw[g1]at hblk
      exact⟨b,mm,g1, .inr g2,fun hh=>g3 (hblk b him rfl hh),hw'.mem _ _ g4 rfl,RV0.mono hp0 _ _ g5,g6⟩
    ·obtain⟨q1,q2⟩:=hout' j (by omega)
     rw[q1,q2];rfl
   ·have lt:∀j,(outs.getD j .fresh).blk (os' j)=some b->j<outs.length:=fun j hj=>Classical.byContradiction fun hn=>by
     rw[(hout' j (by omega)).1]at hj;cases hj
    have l1:=lt i hi
    have l2:=lt j hj
    obtain⟨i1,e1⟩:∃x,ns[i]?=some x:=⟨_,List.getElem?_eq_getElem (by omega)⟩
    obtain⟨j1,e2⟩:∃x,ns[j]?=some x:=⟨_,List.getElem?_eq_getElem (by omega)⟩
    rw[hblk i i1 e1]at hi
    rw[hblk j j1 e2]at hj
    refine nodupN_get hnd i j (by omega) (by omega) ?_
    rw[List.getD_eq_getElem?_getD,List.getD_eq_getElem?_getD,e1,e2]
    exact hr.dis i1 j1 b hi hj
  refine⟨_,r.mv (posK ns),outs,immAll C { s with sg:=setL s.sg (deadL ns) },fun b=>T b\/C.T b,os',rfl,hret,hval,hpart,fun i o ho=>?_,?_,fun b hb=>.inl hb,fun b hb=>?_,fun b hb=>.inl (hr.imm0 b hb),fun b hb=>⟨?_,hBk b hb⟩⟩
  ·have hi:=hos i o ho
   have e1:ns[i]?=some (m+i):=by rw[<- hns,List.getElem?_append_left (by rw[rangeN_len];exact hi),rangeN_get hi]
   simp only[os',e1,Option.bind_some]
   refine hr.pin.1 (m+i) o (subN_ok hsub _ ?_) ((hrho i).trans ho)
   exact List.mem_of_getElem? (rangeN_get hi)
  ·have hk:=hr.keep
   refine⟨hw'.os.trans hk.2.1.os,hw'.tape.trans hk.2.1.tape,hw'.output.trans hk.2.1.output,by rw[hw'.size];exact hk.2.1.size,fun b hb hc=>?_⟩
   rw[<- hk.2.1.same b hb hc]
   by_cases hTb:C.T b
   ·rcases hk.2.2 b hTb with q|q
    ·rcases hc with hc|hc
     ·obtain⟨o',hh,ho'⟩:=(hr.imm b (hr.imm0 b hc)).2
      rw[hh];exact hw'.mem b _ hh ho'
     ·exact absurd q hc
    ·omega
   ·exact hw'.other b hTb
  ·rcases hb with hb|hb
   ·exact .inl hb
   ·rcases hr.keep.2.2 b hb with q|q
    ·exact .inl q
    ·exact .inr ⟨q,hT1 b hb⟩
  ·rcases hb with hb|⟨i,hb⟩
   ·exact(hr.imm b hb).1.imp id .inr
   ·exact .inr (.inr (Res.blk_lt (hkl.sg i) hb).1)
 cases e with
 |normal=>obtain⟨C,s,e1,hr,hret⟩:=hq;exact fin C s e1 hr hret
 |ret=>obtain⟨C,s,e1,hr,hret⟩:=hq;exact fin C s e1 hr hret
 |exit id=>obtain⟨C,s,e1,hr,hret⟩:=hq;exact hret.elim
 |goto l=>exact hq.elim
 |panic ch=>exact hq.elim
 |outgrown=>exact hq.elim
theorem FnW.callwq{P:Program}{sg:List Res}{nm ct:Nat}{f:FuncId}{args args':List AV}{ins:List Res}{R:AV->List Res->Prop}{k:List (Nat × Res)->AV->Prop}(ns:List Nat)(h:FnW P f args' ins R)(h1:ns.length=ins.length)(h2:nodupN ns=true)(h3:handed sg (pick ns nm) 0 ins)(h4:resBelow ns.length ins=true)(h5:resLive ins=true)(h6:AV.mvL (pick ns nm) args'=args)(h7:AV.blwL ns.length args'=true)
  (hk:∀r outs,R r outs->(Nat.ble ns.length outs.length=true/\Nat.ble outs.length (ns.length+ct)=true/\resBelow outs.length outs=true/\r.blw outs.length=true)/\k (bigL (pick ns nm) 0 outs) (r.mv (pick ns nm))):CallZQ P true sg nm ct f args k:=
 ⟨.inr ⟨rfl, .inr (.inr (.inl ⟨false,⟨ns,args',ins,R,h,h1,h2,h3,h4,h5,fun _=>⟨h6,h7⟩,fun e=>absurd e (by simp),fun r outs hr=>by
  obtain⟨⟨c1,c2,c3,c4⟩,c5⟩:=hk r outs hr
  exact⟨Nat.le_of_ble_eq_true c1,Nat.le_of_ble_eq_true c2,c3,c4,fun e=>absurd e (by simp),c5⟩⟩⟩))⟩⟩
theorem FnW.lendwq{P:Program}{sg:List Res}{nm ct:Nat}{f:FuncId}{args args':List AV}{ins:List Res}{R:AV->List Res->Prop}{k:List (Nat × Res)->AV->Prop}(ns:List Nat)(h:FnW P f args' ins R)(h1:ns.length=ins.length)(h2:nodupN ns=true)(h3:handed sg (pick ns nm) 0 ins)(h4:resBelow ns.length ins=true)(h5:resLive ins=true)(h6:lendA (setL sg (deadL ns)) (pick ns nm) ns.length args args')
  (hk:∀r outs,R r outs->(Nat.ble ns.length outs.length=true/\Nat.ble outs.length (ns.length+ct)=true/\resBelow outs.length outs=true/\r.blw outs.length=true/\resFlat outs.length outs=true/\r.flatB outs.length=true)/\k (bigL (pick ns nm) 0 outs) (r.mv (pick ns nm))):CallZQ P true sg nm ct f args k:=
 ⟨.inr ⟨rfl, .inr (.inr (.inl ⟨true,⟨ns,args',ins,R,h,h1,h2,h3,h4,h5,fun e=>absurd e (by simp),fun _=>h6,fun r outs hr=>by
  obtain⟨⟨c1,c2,c3,c4,c5,c6⟩,c7⟩:=hk r outs hr
  exact⟨Nat.le_of_ble_eq_true c1,Nat.le_of_ble_eq_true c2,c3,c4,fun _=>⟨c5,c6⟩,c7⟩⟩⟩))⟩⟩
theorem RVs.app{C:Ctx}:∀ {as bs:List AV} {vs ws:List Value},RVs C as vs->RVs C bs ws->RVs C (as++bs) (vs++ws)
 | [],_,vs,_,h,k=>by simp only[RVs]at h;subst h;exact k
 |a::as,_,vs,_,h,k=>by
  simp only[RVs]at h;obtain⟨v,vs',rfl,h1,h2⟩:=h
  simp only[List.cons_append,RVs];exact⟨v,_,rfl,h1,RVs.app h2 k⟩
inductive Sh where
 |int (k:IntKind)
 |bool
 |str
 |sl (es:List Sh)
 |agg (ss:List Sh)
mutual
def Sh.fits:Sh->AV->Prop
 |.int k,v=>∃n,v = .int k n/\(Lit.int k n).wf=true
 |.bool,v=>∃b,v = .bool b
 |.str,v=>∃s,v = .str s/\s.length<=maxLen
 |.sl es,v=>∃rows:List (List AV),v = .isl rows/\rows.length<=maxLen/\∀r∈rows,Sh.fitsL es r
 |.agg ss,v=>∃l,v = .agg l/\Sh.fitsL ss l
def Sh.fitsL:List Sh->List AV->Prop
 | [],l=>l=[]
 |s::ss,l=>∃v vs,l=v::vs/\Sh.fits s v/\Sh.fitsL ss vs
end
theorem Sh.fitsL_append:∀ {a b:List Sh} {x y:List AV},Sh.fitsL a x->Sh.fitsL b y->Sh.fitsL (a++b) (x++y)
 | [],_,_,_,hx,hy=>by simp only[Sh.fitsL]at hx;subst hx;simpa using hy
 |s::ss,b,x,y,hx,hy=>by
  simp only[Sh.fitsL]at hx
  obtain⟨v,vs,rfl,h1,h2⟩:=hx
  simp only[List.cons_append,Sh.fitsL]
  exact⟨v,vs++y,rfl,h1,Sh.fitsL_append h2 hy⟩
theorem Sh.fitsL_len:∀ {a:List Sh} {x:List AV},Sh.fitsL a x->x.length=a.length
 | [],_,hx=>by simp only[Sh.fitsL]at hx;subst hx;rfl
 |s::ss,x,hx=>by
  simp only[Sh.fitsL]at hx
  obtain⟨v,vs,rfl,h1,h2⟩:=hx
  simp[Sh.fitsL_len h2]
theorem RV0s_append{imm:Nat->Prop}{w:World}:∀ {a b:List AV} {x y:List Value},RV0s imm w a x->RV0s imm w b y->RV0s imm w (a++b) (x++y)
 | [],_,_,_,hx,hy=>by simp only[RV0s]at hx;subst hx;simpa using hy
 |s::ss,b,x,y,hx,hy=>by
  simp only[RV0s]at hx
  obtain⟨v,vs,rfl,h1,h2⟩:=hx
  simp only[List.cons_append,RV0s]
  exact⟨v,vs++y,rfl,h1,RV0s_append h2 hy⟩
def Has(w:World)(b:Nat):Prop:=∃c el fz,w.heap[b]?=some (.cells c el fz)
theorem Has.of_cell{w:World}{a:Addr}{v:Value}(h:w.cell? a=some v):Has w a.block/\a.spot=none:=by
 unfold World.cell? at h
 unfold Has
 split at h
 ·rename_i c x y hh
  split at h
  ·cases h
  ·rename_i hs
   exact⟨⟨_,_,_,hh⟩,by simpa using hs⟩
 ·cases h
theorem RV0r_of{imm:Nat->Prop}{w:World}{b sz:Nat}:∀ {rows:List (List AV)} {off:Nat},(∀i r,rows[i]?=some r->r.length=sz/\RV0c imm w b (off+i*sz) r)->RV0r imm w b sz off rows
 | [],_,_=>by simp[RV0r]
 |r::rows,off,h=>by
  simp only[RV0r]
  have h0:=h 0 r rfl
  refine⟨h0.1,by simpa using h0.2,RV0r_of fun i q hq=>?_⟩
  have:=h (i+1) q (by simpa using hq)
  rwa [show off+(i+1)*sz=off+sz+i*sz from by rw[Nat.add_mul];omega]at this
theorem list_of{α : Type}{Q:Nat -> α -> Prop}:∀(n:Nat),(∀i,i<n->∃r,Q i r)->∃rows:List α,rows.length=n/\∀i r,rows[i]?=some r->Q i r
 |0,_=>⟨[],rfl,fun i r h=>by simp at h⟩
 |n+1,h=>by
  obtain⟨rows,h1,h2⟩:=list_of n fun i hi=>h i (by omega)
  obtain⟨r,hr⟩:=h n (by omega)
  refine⟨rows++[r],by simp[h1],fun i q hq=>?_⟩
  by_cases hi:i<n
  ·rw[List.getElem?_append_left (by omega)]at hq;exact h2 i q hq
  ·rw[List.getElem?_append_right (by omega)]at hq
   by_cases he:i=n
   ·subst he;simp[h1]at hq;subst hq;exact hr
   ·have:i-rows.length≠0:=by omega
    cases hh:i-rows.length with
    |zero=>omega
    |succ k=>rw[hh]at hq;simp at hq
mutual
def shape(P:Program):Nat->TypeId->Option (List Sh)
 |0,_=>none
 |n+1,t=>match P.underlying t with
  |some .bool=>some [.bool]
  |some (.int k)=>some [.int k]
  |some .string=>some [.str]
  |some (.slice e)=>match shape P n e with
   |some (s::ss)=>if P.cellsOf e=(s::ss).length then some [.sl (s::ss)] else none
   |_=>none
  |some (.struct fs)=>match shapeF P n 0 fs.toList with
   |some ss=>if P.cellsOf t=ss.length then some ss else none
   |none=>none
  |_=>none
def shapeF(P:Program):Nat->Nat->List Field->Option (List Sh)
 |_,_,[]=>some []
 |0,_,_=>none
 |n+1,off,f::fs=>match shape P n f.type with
  |some ss=>if f.offset=off/\P.cellsOf f.type=ss.length then match shapeF P n (off+ss.length) fs with
    |some tt=>some (ss++tt)
    |none=>none
   else none
  |none=>none
end
section
variable {H:Type} {enc:TypeId × Value->H} {P:Program} {w:World}
theorem take_drop{cs:List Value}{off m:Nat}{n:Nat}(h:(cs.drop off).length=n+m):cs.drop off=(cs.drop off).take n++cs.drop (off+n)/\(cs.drop (off+n)).length=m:=by
 refine⟨by rw[<- List.drop_drop,List.take_append_drop],by simp at h⊢;omega⟩
theorem opened:∀(n:Nat),
  (∀(t:TypeId) (ss:List Sh) (fuel:Nat) (cs:List Value) (x:DataW H × List MemPlace),shape P n t=some ss->DataW.trod enc P w 0 (fun _=>true) true fuel t cs=some x->cs.length=ss.length/\∃avs,Sh.fitsL ss avs/\RV0s (Has w) w avs cs) /\
  (∀(fs:List Field) (off:Nat) (ss:List Sh) (fuel:Nat) (cs:List Value),shapeF P n off fs=some ss->(cs.drop off).length=ss.length->(∀(i:Nat) (f:Field),fs[i]?=some f->∃x,DataW.trod enc P w 0 (fun _=>true) true fuel f.type ((cs.drop f.offset).take (P.cellsOf f.type))=some x) ->
   ∃avs,Sh.fitsL ss avs/\RV0s (Has w) w avs (cs.drop off))
 |0=>⟨fun t ss fuel cs x h=>by simp[shape]at h,fun fs off ss fuel cs h hl _=>by
   cases fs with
   |nil=>
    simp only[shapeF,Option.some.injEq]at h;subst h
    refine⟨[],by simp[Sh.fitsL],?_⟩
    have:cs.drop off=[]:=List.eq_nil_of_length_eq_zero (by simpa using hl)
    rw[this];simp[RV0s]
   |cons f fs=>simp[shapeF]at h⟩
 |n+1=>by
  have ih:=opened n
  refine⟨fun t ss fuel cs x h hx=>?_,fun fs off ss fuel cs h hl hf=>?_⟩
  ·simp only[shape]at h
   split at h
   ·rename_i ht
    cases h
    obtain⟨b,rfl,_⟩:=DataW.trod_bool ht hx
    exact⟨rfl,[.bool b],by simp[Sh.fitsL,Sh.fits],by simp[RV0s,RV0]⟩
   ·rename_i k ht
    cases h
    obtain⟨b,rfl,_,hw⟩:=DataW.trod_int ht hx
    exact⟨rfl,[.int k b],by simp[Sh.fitsL,Sh.fits,hw],by simp[RV0s,RV0]⟩
   ·rename_i ht
    cases h
    obtain⟨s,rfl,_,hw⟩:=DataW.trod_string ht hx
    exact⟨rfl,[.str s.data.toList],by simp[Sh.fitsL,Sh.fits];exact hw,by simp[RV0s,RV0]⟩
   ·rename_i e ht
    split at h
    ·rename_i s0 s1 hs
     split at h<;>cases h
     rename_i hc
     rcases DataW.trod_slice ht hx with⟨rfl,_⟩|⟨a,len,cap,elems,rest,m,_,rfl,_,_,h1,h2,h3,h4,h5,_⟩
     ·exact⟨rfl,[.isl []],by simp[Sh.fitsL,Sh.fits],by simp[RV0s,RV0]⟩
     ·refine⟨rfl,?_⟩
      by_cases h0:cap=0
      ·subst h0
       have:len=0:=by omega
       subst this
       exact⟨[.isl []],by simp[Sh.fitsL,Sh.fits],by simp[RV0s,RV0]⟩
      ·obtain⟨h5,h6⟩:=h5 rfl
       have hcell:∀j,j<cap->∃cs',w.cells? 0 (a.add (j*P.cellsOf e)) (P.cellsOf e)=some cs'/\∃y,DataW.trod enc P w 0 (fun _=>true) true m e cs'=some y:=by
        intro j hj
        have:∃y,(w.cells? 0 (a.add (j*P.cellsOf e)) (P.cellsOf e)).bind (DataW.trod enc P w 0 (fun _=>true) true m e)=some y:=by
         by_cases hjl:j<len
         ·rw[h4 j hjl];exact⟨elems[j]'(by omega),by simp[List.getElem?_eq_getElem,h3,hjl]⟩
         ·have:=h6 (j-len) (by omega)
          rw[show len+(j-len)=j from by omega]at this
          rw[this];exact⟨rest[j-len]'(by omega),by rw[List.getElem?_eq_getElem]⟩
        obtain⟨y,hy⟩:=this
        obtain⟨cs',h7,h8⟩:=Option.bind_eq_some_iff.1 hy
        exact⟨cs',h7,y,h8⟩
       have hpos:0<P.cellsOf e:=by rw[hc];simp
       obtain⟨cs0,hc0,_⟩:=hcell 0 (by omega)
       obtain⟨_,hl0,hg0⟩:=World.cells?_some hc0
       have hg:=hg0 0 hpos
       rw[List.getElem?_eq_getElem (by omega)]at hg
       have hA:((a.add (0*P.cellsOf e)).add 0)=a:=by simp[Addr.add]
       rw[hA]at hg
       obtain⟨hb,hsp⟩:=Has.of_cell hg
       obtain⟨b,off,sp⟩:=a
       simp only at hsp hb;subst hsp
       obtain⟨rows,hr1,hr2⟩:=list_of (Q:=fun i r=>Sh.fitsL (s0::s1) r/\RV0c (Has w) w b (off+i*P.cellsOf e) r) len (fun i hi=>by
        obtain⟨cs',h7,y,h8⟩:=hcell i (by omega)
        obtain⟨_,avs,h9,h10⟩:=ih.1 _ _ _ _ _ hs h8
        obtain⟨_,hl',hg'⟩:=World.cells?_some h7
        refine⟨avs,h9,RV0c.of_list h10 fun j u hu=>?_⟩
        have hj:j<P.cellsOf e:=by
         have:=(List.getElem?_eq_some_iff.1 hu).1;omega
        have:=hg' j hj
        rw[hu]at this
        simpa[add_off]using this)
       refine⟨[.isl rows],?_,?_⟩
       ·simp only[Sh.fitsL,Sh.fits]
        exact⟨_,_,rfl,⟨rows,rfl,by omega,fun r hr=>by
         obtain⟨i,hi,rfl⟩:=List.getElem_of_mem hr
         exact(hr2 i _ (List.getElem?_eq_getElem hi)).1⟩,rfl⟩
       ·simp only[RV0s,RV0]
        refine⟨_,_,rfl, .inr ⟨P.cellsOf e,b,off,cap,by rw[hr1],by omega,hb,RV0r_of fun i r hr=>?_⟩,rfl⟩
        have:=hr2 i r hr
        exact⟨by rw[Sh.fitsL_len this.1,hc],this.2⟩
    ·cases h
   ·rename_i fs ht
    split at h
    ·rename_i ss' hs
     split at h<;>cases h
     rename_i hc
     obtain⟨xs,m,rfl,_,h1,h2,h3⟩:=DataW.trod_struct ht hx
     refine⟨by omega,?_⟩
     have:=ih.2 fs.toList 0 _ m cs hs (by simp;omega) (fun i f hf=>by
      have hf':fs[i]?=some f:=by simpa using hf
      have:=h3 i f hf'
      rw[this]
      have hi:i<fs.size:=(Array.getElem?_eq_some_iff.1 hf').1
      exact⟨xs[i]'(by omega),List.getElem?_eq_getElem _⟩)
     simpa using this
    ·cases h
   ·cases h
  ·cases fs with
   |nil=>
    simp only[shapeF,Option.some.injEq]at h;subst h
    refine⟨[],by simp[Sh.fitsL],?_⟩
    have:cs.drop off=[]:=List.eq_nil_of_length_eq_zero (by simpa using hl)
    rw[this];simp[RV0s]
   |cons f fs=>
    simp only[shapeF]at h
    split at h
    ·rename_i sa hsa
     split at h
     ·rename_i hoff
      split at h<;>cases h
      rename_i st hst
      obtain⟨x,hx⟩:=hf 0 f rfl
      rw[hoff.1]at hx
      obtain⟨h1,avs,h2,h3⟩:=ih.1 _ _ _ _ _ hsa hx
      obtain⟨e1,e2⟩:=take_drop (n:=sa.length) (m:=st.length) (by simpa using hl)
      obtain⟨bvs,h4,h5⟩:=ih.2 fs _ _ fuel cs hst e2 (fun i g hg=>hf (i+1) g (by simpa using hg))
      refine⟨avs++bvs,Sh.fitsL_append h2 h4,?_⟩
      rw[e1]
      rw[hoff.2]at h3
      exact RV0s_append h3 h5
     ·cases h
    ·cases h
end
open Go.WideShapes Go.ChangeShapes
def argSh(P:Program)(t:TypeId):Option Sh:=
 match P.underlying t with
 |some (.struct _)=>(shape P 40 t).map .agg
 |some (.array _ _)=>none
 |_=>match shape P 40 t with
  |some [s]=>some s
  |_=>none
def argsSh(P:Program):List TypeId->Option (List Sh)
 | []=>some []
 |t::ts=>match argSh P t,argsSh P ts with
  |some s,some ss=>some (s::ss)
  |_,_=>none
section
variable {H:Type} {enc:TypeId × Value->H} {P:Program} {w:World}
theorem open_arg{b0:Nat}{t:TypeId}{v:Value}{d:DataW H}{ps:List MemPlace}{s:Sh}(hs:argSh P t=some s)(hv:Value.okWide P w .any b0 t v)(h:DataW.Trod enc P w 0 (fun _=>true) true t v d ps) :
  ∃av,Sh.fits s av/\RV0 (Has w) w av v:=by
 obtain⟨fuel,hf⟩:=h
 have one:∀ss,shape P 40 t=some ss->(∀cs,v ≠ .agg cs)->ss=[s]->∃av,Sh.fits s av/\RV0 (Has w) w av v:=by
  intro ss h1 h2 h3
  subst h3
  obtain⟨_,avs,h4,h5⟩:=(opened (enc:=enc) (P:=P) (w:=w) 40).1 _ _ _ _ _ h1 hf
  have:v.cells.toList=[v]:=by cases v<;>first|rfl|exact absurd rfl (h2 _)
  rw[this]at h5
  simp only[Sh.fitsL]at h4
  obtain⟨av,_,rfl,h6,rfl⟩:=h4
  simp only[RV0s]at h5
  obtain⟨_,_,h7,h8,h9⟩:=h5
  cases h7
  exact⟨av,h6,h8⟩
 unfold argSh at hs
 split at hs
 ·rename_i fs ht
  obtain⟨cs,rfl,_⟩:=okWide_struct ht hv
  obtain⟨ss,h1,rfl⟩:=Option.map_eq_some_iff.1 hs
  obtain⟨_,avs,h2,h3⟩:=(opened (enc:=enc) (P:=P) (w:=w) 40).1 _ _ _ _ _ h1 hf
  exact⟨.agg avs,by simp only[Sh.fits];exact⟨_,rfl,h2⟩,by simp only[RV0];exact⟨_,rfl,h3⟩⟩
 ·cases hs
 ·rename_i h1 h2
  split at hs
  ·rename_i s' h3
   cases hs
   refine one _ h3 (fun cs e=>?_) rfl
   subst e
   have hv2:Cell.okWide P w .any b0 t (.agg cs):=by
    unfold Value.okWide at hv
    split at hv
    ·rename_i h4;exact absurd h4 (h1 _)
    ·rename_i h4;exact absurd h4 (h2 _ _)
    ·exact hv
   unfold Cell.okWide at hv2
   split at hv2<;>first|(rename_i h5;cases h5)|skip
   unfold Cell.ok at hv2
   split at hv2<;>first|(rename_i h5;cases h5)|exact hv2
  ·cases hs
theorem open_args{b0:Nat}:∀ {ts:List TypeId} {vs:List Value} {ds:List (DataW H)} {ps:List MemPlace} {ss:List Sh},argsSh P ts=some ss->(∀(j:Nat) t v,ts[j]?=some t->vs[j]?=some v->Value.okWide P w .any b0 t v)->DataW.TrodAll enc P w 0 (fun _=>true) true ts vs ds ps ->
  ∃avs,Sh.fitsL ss avs/\RV0s (Has w) w avs vs
 | [],vs,ds,ps,ss,hs,_,h=>by
  simp only[argsSh,Option.some.injEq]at hs;subst hs
  obtain⟨rfl,_,_⟩:=trodAll_nil h
  exact⟨[],by simp[Sh.fitsL],by simp[RV0s]⟩
 |t::ts,vs,ds,ps,ss,hs,hv,h=>by
  simp only[argsSh]at hs
  split at hs<;>cases hs
  rename_i s0 s1 h1 h2
  obtain⟨v,vs,d,ds,p,q,rfl,rfl,rfl,h3,h4⟩:=trodAll_cons h
  obtain⟨av,h5,h6⟩:=open_arg h1 (hv 0 t v rfl rfl) h3
  obtain⟨avs,h7,h8⟩:=open_args h2 (fun j t v ht hv'=>hv (j+1) t v (by simpa using ht) (by simpa using hv')) h4
  exact⟨av::avs,by simp only[Sh.fitsL];exact⟨_,_,rfl,h5,h7⟩,by simp only[RV0s];exact⟨_,_,rfl,h6,h8⟩⟩
theorem shut_args(hl:laidOutB P=true){W W':World}(hb:Below W.heap.size W W'):∀ {ts:List TypeId} {vs:List Value} {ds:List (DataW H)} {ps:List MemPlace},(∀t∈ts,P.readableRec t=true/\t<P.types.size)->DataW.TrodAll enc P W 0 (fun _=>true) true ts vs ds ps->(∀x∈ps,x.block<W.heap.size) ->
  DataW.TrodAll enc P W' 0 (fun b=>decide (b<W.heap.size)) true ts vs ds ps
 | [],vs,ds,ps,_,h,_=>by
  obtain⟨rfl,rfl,rfl⟩:=trodAll_nil h;exact rfl
 |t::ts,vs,ds,ps,hr,h,hlt=>by
  obtain⟨v,vs,d,ds,p,q,rfl,rfl,rfl,h3,h4⟩:=trodAll_cons h
  refine⟨p,q,Below.trod hl (hr t (by simp)).1 (hr t (by simp)).2 h3 hb (fun x hx=>hlt x (by simp[hx])),shut_args hl hb (fun t ht=>hr t (by simp[ht])) h4 (fun x hx=>hlt x (by simp[hx])),rfl⟩
end
theorem lift_true{H:Type}{enc:TypeId × Value->H}{C:Checked}{fn:Func}{f:FuncId}{s:ChangeSpec}{fresh handsOn:Bool}{ss:List Sh}{tb:TypeId}
  (hl:laidOutB C.prog=true) (hvars:s.vars=[]) (hrt:fn.resultTypes = #[tb]) (htb:C.prog.underlying tb=some .bool) (hps:argsSh C.prog fn.params.toList=some ss)
  (hrd:fn.params.toList.all (fun t=>C.prog.readableRec t&&decide (t<C.prog.types.size))=true)
  (hspec:∀ds:List (DataW H),ds.length=fn.params.toList.length->(s.fn H ds).results=[.lit (.bool true)]/\(s.fn H ds).args=ds/\(s.fn H ds).vars=[])
  (hmain:∀avs,Sh.fitsL ss avs->FnA C.prog f avs (· = .bool true)) :
  ∀(W:World) (base:Nat) (args:Array Value) (ds gs:List (DataW H)) (before:List MemPlace),
   (∀(j:Nat) t v,fn.params[j]?=some t->args[j]?=some v->Value.okWide C.prog W .any base t v) ->
   DataW.Whole enc C.prog fn.params.toList s.vars false W args.toList ds gs before ->
   Calls C.prog f args W fun e W'=>∃v,e = .returned v/\s.post enc C.prog fn false fresh handsOn false W args v W':=by
 intro W base args ds gs before hval hW
 have hW':=hW
 obtain⟨p,q,hA,hV,rfl,hfz,hnd⟩:=hW
 rw[hvars]at hV
 obtain⟨rfl,rfl⟩:=trodVars_none hV
 obtain⟨avs,h1,h2⟩:=open_args hps (fun j t v ht hv=>hval j t v (by simpa using ht) (by simpa using hv)) hA
 have hlen:ds.length=fn.params.toList.length:=by
  have:∀ {ts:List TypeId} {vs:List Value} {ds:List (DataW H)} {ps:List MemPlace},DataW.TrodAll enc C.prog W 0 (fun _=>true) true ts vs ds ps->ds.length=ts.length:=by
   intro ts
   induction ts with
   |nil=>intro vs ds ps h;obtain⟨_,rfl,_⟩:=trodAll_nil h;rfl
   |cons t ts ih=>intro vs ds ps h;obtain⟨v,vs,d,ds,p,q,rfl,rfl,rfl,_,h4⟩:=trodAll_cons h;simp[ih h4]
  exact this hA
 have hm:=hmain avs h1
 unfold FnA at hm
 have hm:=hm (Has W) W args.toList (fun _ ⟨_,_,_,h⟩=>.of_cells h) h2
 rw[show args.toList.toArray=args from by simp]at hm
 refine hm.mono fun e W' h=>?_
 obtain⟨v,x,imm',rfl,rfl,hv,hB,_⟩:=h
 simp only[RV0]at hv
 subst hv
 obtain⟨g1,g2,g3⟩:=hspec ds hlen
 refine⟨_,rfl,ds,[],_,[],p,[],hW',?_,?_,?_,hB.frame _,fun h=>by cases h⟩
 ·rw[List.append_nil,g1,hrt]
  exact trodAll_mk1 ⟨1,by simp[DataW.trod,Value.cells,htb]⟩
 ·rw[List.append_nil,g2]
  refine shut_args hl hB (fun t ht=>?_) hA (fun x hx=>hW'.lt x (by simpa using hx))
  have:=List.all_eq_true.1 hrd t ht
  simpa using this
 ·rw[List.append_nil,g3,hvars];exact rfl
end Go.Eng
