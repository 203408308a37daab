/- The engine of these proofs, part 4 of 4: abstract values and states, the walk of a function's body as a program on them, and why that walk is sound for the model. It speaks of any program. -/
import Derived.Test.YtpcmpgcjhmecbaaEng3
set_option linter.unusedSimpArgs false
set_option linter.unusedVariables false
set_option linter.unusedSectionVars false
namespace Go.Eng
open Go.RowKit
theorem own_mem{w:World}{el:TypeId}{sz n:Nat}{v:Value}{xs:List Value}(h:w.ownsRow 0 el sz v n xs):∀b,v.ownBlock=some b->Mem w b:=fun b hb=>by
 rcases h.2 with⟨e,_⟩|⟨g,cap,cur,e,_,hg,_⟩
 ·rw[e]at hb;cases hb
 ·rw[e]at hb;simp[Value.ownBlock]at hb;subst hb;exact .of_cells hg
def finYl(rs:List RIO)(m k:Nat)(nw:List Nat)(R:AV->List Res->Nat->Bool->Prop)(e:Ex)(tm:Tm)(sg:List Res)(gh:Gh):Prop:=
 match e with
 |.exit _=>False
 |.normal=>retW rs m k nw (fun r outs=>R r outs gh.k gh.st) tm sg gh
 |.ret=>retW rs m k nw (fun r outs=>R r outs gh.k gh.st) tm sg gh
theorem fnY{P:Program}{f:FuncId}{N M:Nat}{ci:CI}{rs:List RIO}{args:List AV}{ins:List Res}{nx:Nat->List AV->Nat->Prop}{lx:Nat->TypeId->Nat->List (List AV)->Nat->Prop}{k0:Nat}{R:AV->List Res->Nat->Bool->Prop}(m:Nat)(nw:List Nat)(hok:FnOk P f N M ci rs)(hN:args.length<=N)(hb1:AV.blwL ins.length args=true)(hb2:resBelow ins.length ins=true)
  (h0:goP { P:=P,N:=N,ys:=[],nx:=nx,lx:=lx } ci (finYl rs m ins.length nw R) (argsTm 0 (AV.mvL (fun j=>m+j) args)) (appR (freshL m) (insL m ins)) ⟨rangeN m ins.length,k0,false⟩):FnY P nx lx f args ins k0 R:=by
 have h:=goP_ok h0
 unfold GoC at h
 obtain⟨fn,c,h1,h2,h3,h4,h5⟩:=hok.ok
 intro imm T w os vs l J S0 himm hT hargs hPart hSh hSs hJ hJ0
 have hTlt:∀b,T b->b<w.heap.size:=fun b hb=>(hT b hb).lt
 let X:Sess:={ P:=P,F:=Fence.wide,n:=5,N:=N,imm0:=imm,lo:=w.heap.size,pin:=rho0 m os,l:=l,Keep:=fun T' S k st w'=>J k st S w'/\WrY imm T S0 S w w'/\(∀b,S.s b->¬T' b)/\∀b,T' b->T b\/w.heap.size<=b }
 have hX:SessOk X { P:=P,N:=N,ys:=[],nx:=nx,lx:=lx }:=by
  refine⟨fun f=>trivial, .inl rfl,fun T' S k st w1 w2 hk hg=>?_,fun T' S k st w1 w2 b hk hTb hni hh hg=>?_,fun T' S k st w1 b r r' hk hTb hlo hh hlp=>?_,fun T' S k st w1 w2 hk hTl hr=>?_,fun T' S k st w1 Q hk hQ=>⟨hk.1,hk.2.1,fun b hb hh=>hh.elim (hk.2.2.1 b hb) fun q=>(hQ b q).2.2 hb,fun b hb=>hb.elim (hk.2.2.2 b) fun q=>.inr (hQ b q).1⟩,
   fun T' S k st w1 hk=>hk.2.1.size,fun T' S k st w1 hk=>⟨fun b hb=>⟨hJ.js _ _ _ _ hk.1 b (.inl hb),hk.2.2.1 b hb⟩,fun b hb=>hJ.js _ _ _ _ hk.1 b (.inr hb)⟩,fun T' S k k' w1 us xs Q hk hTl hSQ hQ hn hxs=>?_,fun T' S k st w1 Q hk hQ=>⟨hk.1,hk.2.1,fun b hb hh=>hk.2.2.1 b hb hh.1,fun b hb=>hk.2.2.2 b hb.1⟩,fun T' S k k' w1 el sz es v xs hk hTl hlx hfl hown hv hlen hlb=>?_,rfl,rfl⟩
  ·obtain⟨k1,k2,k3,k4⟩:=hk
   refine⟨hJ.jr _ _ _ _ _ k1 ⟨hg.os,hg.tape,hg.output,hg.size,fun b hb _=>hg.block b hb,fun b hb hm=>hm.same (hg.block b hm.lt)⟩,⟨hg.os.trans k2.os,hg.tape.trans k2.tape,hg.output.trans k2.output,Nat.le_trans k2.size hg.size,fun b hb hc=>(hg.block b (Nat.lt_of_lt_of_le hb k2.size)).trans (k2.same b hb hc),fun b hb=>(k2.mem b hb).same (hg.block b (k2.mem b hb).lt),k2.sub,k2.new,k2.hsub⟩,fun b hb hc=>?_,fun b hb=>?_⟩
   ·rcases hc with hc|hc
    ·exact k3 b hb hc
    ·have:=hJ.js _ _ _ _ k1 b (.inl hb);omega
   ·rcases hb with hb|hb
    ·exact k4 b hb
    ·exact .inr (Nat.le_trans k2.size hb.1)
  ·obtain⟨k1,k2,k3,k4⟩:=hk
   have hne:∀b',((b'<w.heap.size/\(¬T b'\/imm b'))\/S.s b'\/S.h b')->b'≠b:=fun b' hc e=>by
    subst e
    rcases hc with⟨q1,q2|q2⟩|q|q
    ·rcases k4 b' hTb with q|q
     ·exact q2 q
     ·omega
    ·exact hni q2
    ·exact k3 b' q hTb
    ·exact hh q
   refine⟨hJ.jr _ _ _ _ _ k1 ⟨hg.os,hg.tape,hg.output,by rw[hg.size];exact Nat.le_refl _,fun b' hb' hc=>hg.other b' (hne b' hc),fun b' hb' hm=>?_⟩,⟨hg.os.trans k2.os,hg.tape.trans k2.tape,hg.output.trans k2.output,by rw[hg.size];exact k2.size,fun b' hb' hc=>(hg.other b' (hne b' (.inl ⟨hb',hc.elim .inr fun q=>.inl q.1⟩))).trans (k2.same b' hb' hc),fun b' hb'=>?_,k2.sub,k2.new,k2.hsub⟩,k3,k4⟩
   ·by_cases e:b'=b
    ·subst e;exact hg.mem
    ·exact hm.same (hg.other b' e)
   ·by_cases e:b'=b
    ·subst e;exact hg.mem
    ·exact(k2.mem b' hb').same (hg.other b' e)
  ·obtain⟨k1,k2,k3,k4⟩:=hk
   have hlo':w.heap.size<=b:=hlo
   have hnm:∀b',Mem w1 b'->b'≠b:=fun b' hm e=>by
    obtain⟨o,q1,q2⟩:=hm
    rw[e,hlp]at q1;cases q1;cases q2
   have hne:∀b',((b'<w.heap.size/\(¬T b'\/imm b'))\/S.s b'\/S.h b')->b'≠b:=fun b' hc e=>by
    subst e
    rcases hc with⟨q1,_⟩|q|q
    ·omega
    ·exact k3 b' q hTb
    ·exact hh q
   exact⟨hJ.jr _ _ _ _ _ k1 ⟨rfl,rfl,rfl,by rw[size_putObj];exact Nat.le_refl _,fun b' hb' hc=>World.putObj_heap_other (hne b' hc),fun b' hb' hm=>hm.same (World.putObj_heap_other (hnm b' hm))⟩,⟨k2.os,k2.tape,k2.output,by rw[size_putObj];exact k2.size,fun b' hb' hc=>(World.putObj_heap_other (by omega)).trans (k2.same b' hb' hc),fun b' hb'=>(k2.mem b' hb').same (World.putObj_heap_other (hnm b' (k2.mem b' hb'))),k2.sub,k2.new,k2.hsub⟩,k3,k4⟩
  ·obtain⟨k1,k2,k3,k4⟩:=hk
   have hr':Reach w.heap.size (fun b=>T' b\/S.s b\/S.h b) w1 w2:=hr
   exact⟨hJ.jr _ _ _ _ _ k1 ⟨hr'.os,hr'.tape,hr'.output,hr'.size,fun b hb hc=>hr'.same b hb (hc.imp (·.1) .inr),fun b hb hm=>hm.same (hr'.same b hm.lt (.inl (hTlt b hb)))⟩,⟨hr'.os.trans k2.os,hr'.tape.trans k2.tape,hr'.output.trans k2.output,Nat.le_trans k2.size hr'.size,fun b hb hc=>(hr'.same b (Nat.lt_of_lt_of_le hb k2.size) (.inl hb)).trans (k2.same b hb hc),fun b hb=>(k2.mem b hb).same (hr'.same b (k2.mem b hb).lt (.inl (hTlt b hb))),k2.sub,k2.new,k2.hsub⟩,k3,k4⟩
  ·obtain⟨k1,k2,k3,k4⟩:=hk
   have hTS:∀b,T b->¬S.s b:=fun b hb hs=>by
    rcases k2.new b hs with q|q
    ·exact hSs b q hb
    ·have:=hTlt b hb;omega
   refine YieldAt.mono' (hJ.jy k k' S w1 us xs Q k1 hSQ (fun b hb=>⟨?_,(hQ b hb).2⟩) hn hxs) fun e w2 hr=>?_
   ·rcases(hQ b hb).1 with q|q
    ·exact .inl q
    ·exact .inr ((k4 b q).imp id fun q'=>⟨q',fun hs=>k3 b hs q⟩)
   ·obtain⟨b,S',e1,e2,e3⟩:=hr
    refine⟨b,S',e1,⟨e2,⟨e3.os.trans k2.os,e3.tape.trans k2.tape,e3.output.trans k2.output,Nat.le_trans k2.size e3.size,fun b' hb' hc=>?_,fun b' hb'=>(k2.mem b' hb').same (e3.same b' (k2.mem b' hb').lt (.inr (hTS b' hb'))),fun b' hb'=>e3.sub b' (k2.sub b' hb'),fun b' hb'=>?_,fun b' hb'=>e3.hsub b' (k2.hsub b' hb')⟩,fun b' hb' hc=>?_,k4⟩,⟨e3.os,e3.tape,e3.output,e3.size,fun b' hb' hc=>e3.same b' hb' ?_,e3.sub,e3.new,e3.hsub,e3.hnew⟩⟩
    ·refine(e3.same b' (Nat.lt_of_lt_of_le hb' k2.size) (hc.imp id fun q hs=>?_)).trans (k2.same b' hb' hc)
     rcases k2.new b' hs with q'|q'
     ·exact q.2 q'
     ·omega
    ·rcases e3.new b' hb' with q|q
     ·exact k2.new b' q
     ·exact .inr (Nat.le_trans k2.size q)
    ·rcases e3.new b' hb' with q|q
     ·exact k3 b' q hc
     ·have:=hTl b' hc;omega
    ·rcases hc with(q|q)|q
     ·exact .inl q
     ·exact .inr fun hs=>k3 b' hs q
     ·exact .inr q
  ·obtain⟨k1,k2,k3,k4⟩:=hk
   have hTS:∀b,T b->¬S.s b:=fun b hb hs=>by
    rcases k2.new b hs with q|q
    ·exact hSs b q hb
    ·have:=hTlt b hb;omega
   refine YieldAt.mono' (hJ.jl k k' S w1 el sz es v xs k1 hlx hfl hown hv hlen fun b hb=>⟨k4 b (hlb b hb).1,(hlb b hb).2.1,fun hs=>k3 b hs (hlb b hb).1,(hlb b hb).2.2⟩) fun e w2 hr=>?_
   obtain⟨b,S',xs',e1,e2,e3,e4,e5⟩:=hr
   refine⟨b,S',xs',e1,⟨e2,⟨e3.os.trans k2.os,e3.tape.trans k2.tape,e3.output.trans k2.output,Nat.le_trans k2.size e3.size,fun b' hb' hc=>?_,fun b' hb'=>?_,fun b' hb'=>e3.sub b' (k2.sub b' hb'),fun b' hb'=>?_,fun b' hb'=>e3.hsub b' (k2.hsub b' hb')⟩,fun b' hb' hc=>?_,k4⟩,⟨e3.os,e3.tape,e3.output,e3.size,fun b' hb' hne hc=>e3.same b' hb' hne ?_,e3.sub,e3.new,e3.hsub,e3.hnew⟩,e4,e5⟩
   ·refine(e3.same b' (Nat.lt_of_lt_of_le hb' k2.size) (fun e=>?_) (hc.imp id fun q hs=>?_)).trans (k2.same b' hb' hc)
    ·rcases hc with q|q
     ·exact(hlb b' e).2.1 q
     ·rcases k4 b' (hlb b' e).1 with q'|q'
      ·exact q.1 q'
      ·omega
    ·rcases k2.new b' hs with q'|q'
     ·exact q.2 q'
     ·omega
   ·by_cases e:v.ownBlock=some b'
    ·exact own_mem e4 b' e
    ·exact(k2.mem b' hb').same (e3.same b' (k2.mem b' hb').lt e (.inr (hTS b' hb')))
   ·rcases e3.new b' hb' with q|q
    ·exact k2.new b' q
    ·exact .inr (Nat.le_trans k2.size q)
   ·rcases e3.new b' hb' with q|q
    ·exact k3 b' q hc
    ·have:=hTl b' hc;omega
   ·rcases hc with(q|q)|q
    ·exact .inl q
    ·exact .inr fun hs=>k3 b' hs q
    ·exact .inr q
 have hlenm:(freshL m).length=m:=by rw[freshL_eq];simp
 have hsg:∀i,(appR (freshL m) (insL m ins)).getD i .fresh=if i<m then .fresh else(ins.getD (i-m) .fresh).mv (fun j=>m+j):=fun i=>by
  rw[appR_eq,List.getD_eq_getElem?_getD]
  split
  ·rename_i hi
   rw[List.getElem?_append_left (by omega),freshL_eq,List.getElem?_replicate];simp[hi]
  ·rename_i hi
   rw[List.getElem?_append_right (by omega),hlenm,<- List.getD_eq_getElem?_getD,insL_get]
 have hrho:∀j,rho0 m os (m+j)=os j:=fun j=>by rw[rho0,if_neg (by omega),show m+j-m=j from by omega]
 have hlen:vs.length=args.length:=hargs.length
 have hos:∀i o,os i=some o->i<ins.length:=fun i o ho=>Classical.byContradiction fun hn=>by
  have:=hPart.sg i
  rw[show ins.getD i .fresh = .fresh from by rw[List.getD_eq_getElem?_getD,List.getElem?_eq_none (by omega)];rfl]at this
  rw[this]at ho;cases ho
 have hrel:Rel X ⟨imm,T,rho0 m os,w,⟨l,S0⟩⟩ ⟨argsTm 0 (AV.mvL (fun j=>m+j) args),appR (freshL m) (insL m ins),⟨rangeN m ins.length,k0,false⟩⟩ { tmps:=vs.toArray++Array.replicate (fn.ntmps-vs.toArray.size) undef,defers:=[] }:=by
  refine⟨?_,fun d v hv=>?_,fun i=>?_,fun i j b hi hj=>?_,fun b hb=>⟨.inl hb,himm b hb⟩,fun b hb=>hb,hTlt,⟨hJ0,⟨rfl,rfl,rfl,Nat.le_refl _,fun _ _ _=>rfl,hT,fun _ hb=>hb,fun _ hb=>.inl hb,fun _ hb=>hb⟩,hSs,fun b hb=>.inl hb⟩,⟨[],rfl,List.nodup_nil,fun D hD=>by cases hD⟩,(fun l hl=>by cases hl),fun i o _ hi=>hi,rfl,hSh⟩
  ·show(vs.toArray++Array.replicate (fn.ntmps-vs.toArray.size) undef).size=N
   simp only[Array.size_append,List.size_toArray,Array.size_replicate]
   omega
  ·obtain⟨_,hd⟩:=argsTm_look hv
   simp only[Nat.sub_zero]at hd
   have hrvs:RVs ⟨imm,T,rho0 m os,w,⟨l,S0⟩⟩ (AV.mvL (fun j=>m+j) args) vs:=RVs.up (C:=⟨imm,T,rho0 m os,w,⟨l,S0⟩⟩) (C0:=⟨imm,T,os,w,lnl l⟩) (π :=fun j=>m+j) (k:=ins.length) rfl (fun b hb=>⟨hb,rfl⟩) (fun i _=>(hrho i)) args vs hb1 hargs
   obtain⟨x,hx,hvx⟩:=hrvs.get hd
   have hlt:=(List.getElem?_eq_some_iff.1 hx).1
   have:(vs.toArray++Array.replicate (fn.ntmps-vs.toArray.size) undef).getD d undef=x:=by
    rw[Array.getD_eq_getD_getElem?,Array.getElem?_append_left (by simpa using hlt)]
    simp[hx]
   rw[this];exact hvx
  ·simp only[hsg]
   split
   ·rename_i hi;simp[ResOk,rho0,hi]
   ·rename_i hi
    have e:rho0 m os i=os (i-m):=by simp[rho0,hi]
    show ResOk _ _ (rho0 m os i)
    rw[e]
    by_cases hlt:i-m<ins.length
    ·exact ResOk.up (C:=⟨imm,T,rho0 m os,w,⟨l,S0⟩⟩) (C0:=⟨imm,T,os,w,lnl l⟩) (π :=fun j=>m+j) (k:=ins.length) rfl rfl (fun b hb=>hb) (fun j _=>hrho j) (resBelow_get hb2 (i-m) hlt) (fun b hb=>⟨(Res.blk_lt (hPart.sg _) hb).1,id⟩) (hPart.sg (i-m))
    ·have e2:ins.getD (i-m) .fresh = .fresh:=by rw[List.getD_eq_getElem?_getD,List.getElem?_eq_none (by omega)];rfl
     have:=hPart.sg (i-m)
     rw[e2]at this⊢
     exact this
  ·simp only[hsg]at hi hj
   split at hi
   ·cases hi
   ·split at hj
    ·cases hj
    ·rename_i c1 c2
     rw[Res.mv_blk]at hi hj
     have e1:rho0 m os i=os (i-m):=by simp[rho0,c1]
     have e2:rho0 m os j=os (j-m):=by simp[rho0,c2]
     have:=hPart.dis (i-m) (j-m) b (by rw[<- e1];exact hi) (by rw[<- e2];exact hj)
     omega
 refine(callsIn_wide (n:=5)).1 (callsIn_of_wp_marks h1 h2 trivial (wpIn_mono (h X hX c 0 M h4 _ _ hrel) fun e a w1 hq=>?_))
 have fin:∀(C:Ctx) (s:St),C.w=w1->Rel X C s a->retW rs m ins.length nw (fun r outs=>R r outs s.gh.k s.gh.st) s.tm s.sg s.gh->LeavesInM Fence.wide 5 P fn a.tmps (fun e w'=>∃v r outs imm' T' os' k' st' S',e = .returned v/\R r outs k' st'/\RV ⟨imm',T',os',w',lnl l⟩ r v/\Part imm' T' w' os' l outs/\(∀i o,os i=some o->os' i=some o) /\
   J k' st' S' w'/\WrY imm T S0 S' w w'/\(∀b,T b->T' b)/\(∀b,T' b->T b\/(w.heap.size<=b/\b<w'.heap.size/\¬S'.s b))/\(∀b,imm b->imm' b)/\(∀b,imm' b->(imm b\/T' b)/\Mem w' b)/\∀b,S'.h b->imm' b) a.defers .returning w1:=fun C s hCw hr hret=>by
  subst hCw
  obtain⟨ds,hd1,hd2,hd3⟩:=hr.marks
  rw[hd1]
  refine leave_marks (B:=C.T) ds C.w hd2 hd3 fun w' hw'=>?_
  simp only[LeavesInM,LeavesIn]
  unfold retW at hret
  obtain⟨us,hus,hret⟩:=resLK_ok (gh:=s.gh) hret
  obtain⟨xs,k1,k2⟩:=resL_run hr hw' fn.results.toList rs us h5 hus
  have hrun:(results fn a.tmps).run P w' = .ok (if h:xs.toArray.size=1 then xs.toArray[0] else .tuple xs.toArray) w':=by
   rw[results_eq,Array.mapM_eq_mapM_toList]
   have k1':(fn.results.toList.mapM (resF a.tmps)).run P w' = .ok xs w':=k1
   simp only[Sem.run_bind,Sem.run_map,k1',Result.andThen_ok,Sem.run_pure]
  refine⟨_,hrun,?_⟩
  have k3:=oneV_rv k2
  obtain⟨r,outs,imm',os',z1,z2,z3,z4,z5,z6⟩:=ret_back (T:=T) (os:=os) hr hw' k3 (fun i o _ ho=>(hrho i).trans ho) hos hret
  have hll:C.l.l=l:=hr.pin.2.1
  rw[hll]at z2 z3
  obtain⟨q1,q2,q3,q4⟩:=hr.keep
  have q3':∀b,C.l.S.s b->¬C.T b:=q3
  have hmem:∀b,Mem C.w b->Mem w' b:=fun b hb=>by
   obtain⟨o',hh,ho'⟩:=hb
   exact⟨_,hw'.mem b _ hh ho',ho'⟩
  have himm2:∀b,imm b->w'.heap[b]?=C.w.heap[b]?:=fun b hb=>by
   obtain⟨o',hh,ho'⟩:=(hr.imm b (hr.imm0 b hb)).2
   rw[hh];exact hw'.mem b _ hh ho'
  have hsm:∀b,b<w.heap.size->(¬T b\/imm b)->w'.heap[b]?=C.w.heap[b]?:=fun b hb hc=>by
   rcases hc with hc|hc
   ·refine hw'.other b fun hTb=>?_
    rcases q4 b hTb with q|q
    ·exact hc q
    ·omega
   ·exact himm2 b hc
  refine⟨_,r,outs,imm',fun b=>T b\/C.T b,os',s.gh.k,s.gh.st,C.l.S,rfl,z1,z2,z3,z4,hJ.jr _ _ _ _ _ q1 ⟨hw'.os,hw'.tape,hw'.output,by rw[hw'.size];exact Nat.le_refl _,fun b hb hc=>?_,fun b hb hm=>hmem b hm⟩,?_,fun b hb=>.inl hb,fun b hb=>?_,fun b hb=>z5 b (hr.imm0 b hb),fun b hb=>⟨?_,(z6 b hb).2⟩,fun b hb=>z5 b (hr.pin.2.2 b hb)⟩
  ·rcases hc with hc|hc|hc
   ·exact hsm b hc.1 hc.2
   ·exact hw'.other b (q3' b hc)
   ·obtain⟨o',hh,ho'⟩:=(hr.imm b (hr.pin.2.2 b hc)).2
    rw[hh];exact hw'.mem b _ hh ho'
  ·refine⟨hw'.os.trans q2.os,hw'.tape.trans q2.tape,hw'.output.trans q2.output,by rw[hw'.size];exact q2.size,fun b hb hc=>?_,fun b hb=>hmem b (q2.mem b hb),q2.sub,q2.new,q2.hsub⟩
   exact(hsm b hb (hc.elim .inr fun q=>.inl q.1)).trans (q2.same b hb hc)
  ·rcases hb with hb|hb
   ·exact .inl hb
   ·rcases q4 b hb with q|q
    ·exact .inl q
    ·exact .inr ⟨q,by rw[hw'.size];exact hr.T b hb,fun hs=>q3' b hs hb⟩
  ·rcases(z6 b hb).1 with q|q
   ·exact(hr.imm b q).1.imp id .inr
   ·exact .inr (.inr q)
 cases e with
 |normal=>obtain⟨C,s,e1,hr,hret⟩:=hq;exact fin C s e1 hr hret
 |ret=>obtain⟨C,s,e1,hr,hret⟩:=hq;exact fin C s e1 hr hret
 |exit id=>obtain⟨C,s,e1,hr,hret⟩:=hq;exact hret.elim
 |goto l=>exact hq.elim
 |panic ch=>exact hq.elim
 |outgrown=>exact hq.elim
theorem FnY.vcallyq{E:Env}{sg:List Res}{gh:Gh}{f:FuncId}{caps args args':List AV}{ins:List Res}{R:AV->List Res->Nat->Bool->Prop}{k:List (Nat × Res)->AV->Prop}{kY:List (Nat × Res)->Gh->AV->Prop}(ns:List Nat)(h:FnY E.P E.nx E.lx f args' ins gh.k R)(h0:gh.st=false)(hbd:bodied E.P f=true)(h1:ns.length=ins.length)(h2:nodupN ns=true)(h3:handed sg (pick ns 0) 0 ins)(h4:resBelow ns.length ins=true)(h5:resLive ins=true)(h6:AV.mvL (pick ns 0) args'=args++caps)(h7:AV.blwL ns.length args'=true)
  (hk:∀r outs k' st',R r outs k' st'->(outs.length=ns.length/\resBelow outs.length outs=true/\r.blw outs.length=true)/\kY (bigL (pick ns 0) 0 outs) ⟨gh.p,k',st'⟩ (r.mv (pick ns 0))):VCallQ E.P true sg (.fn f caps) args k (VCallY E sg gh (.fn f caps) args kY):=
 ⟨.inr ⟨rfl, .inr ⟨h0,f,caps,ns,args',ins,R,rfl,hbd,h,h1,h2,h3,h4,h5,h6,h7,fun r outs k' st' hr=>by
  obtain⟨⟨c1,c2,c3⟩,c4⟩:=hk r outs k' st' hr
  exact⟨c1,c2,c3,c4⟩⟩⟩⟩
def ItL(P:Program)(f:FuncId)(cap:List AV)(lx:Nat->TypeId->Nat->List (List AV)->Nat->Prop)(fin:Nat->Prop):Prop:=
 ∀(imm:Nat->Prop) (w:World) (vs:List Value) (l:Nat) (J:Nat->Bool->Wt->World->Prop) (S0:Wt),
  (∀b,imm b->Mem w b)->RV0s imm w cap vs->(∀b,S0.h b->imm b)->JOk P (fun _ _ _=>False) lx imm (fun _=>False) w.heap.size l J->J 0 false S0 w ->
  Calls P f (#[.func (.yield l) #[] #[]]++vs.toArray) w fun e w'=>∃v k st S',e = .returned v/\J k st S' w'/\(st=false->fin k)
theorem FnY.itL{P:Program}{f:FuncId}{cap:List AV}{lx:Nat->TypeId->Nat->List (List AV)->Nat->Prop}{fin:Nat->Prop}(h:FnY P (fun _ _ _=>False) lx f (.yld::cap) [] 0 (fun _ _ k st=>st=false->fin k)):ItL P f cap lx fin:=fun imm w vs l J S0 himm hv hS hJ hJ0=>by
 have e0:(#[Value.func (.yield l) #[] #[]]++vs.toArray)=(Value.func (.yield l) #[] #[]::vs).toArray:=by simp
 rw[e0]
 refine(h imm (fun _=>False) w (fun _=>none) (Value.func (.yield l) #[] #[]::vs) l J S0 himm (fun b hb=>hb.elim) ?_ ⟨fun i=>by simp[ResOk],fun i j b hi=>by simp[Res.blk]at hi⟩ hS (fun b _ hb=>hb) hJ hJ0).mono fun e w' hq=>?_
 ·simp only[RVs]
  exact⟨_,_,rfl,by simp only[RV],RV0s.rv (C:=⟨imm,fun _=>False,fun _=>none,w,lnl l⟩) cap vs hv⟩
 ·obtain⟨v,r,outs,imm',T',os',k',st',S',e1,e2,_,_,_,e3,_⟩:=hq
  exact⟨v,k',st',S',e1,e3,e2⟩
def noRef(i:Nat):List Res->Bool
 | []=>true
 |r::rs=>AV.refsInL (fun j => !Nat.beq j i) r.cellsOf&&noRef i rs
theorem noRef_get{i:Nat}:∀ {sg:List Res},noRef i sg=true->∀j,AV.refsInL (fun j=>j != i) (sg.getD j .fresh).cellsOf=true
 | [],_,j=>by simp[Res.cellsOf,AV.refsInL]
 |r::rs,h,0=>by
  simp only[noRef,Bool.and_eq_true]at h
  have e:(fun j => !Nat.beq j i)=(fun j=>j != i):=by
   funext j
   have:Nat.beq j i=(j==i):=by rw[Bool.eq_iff_iff];simp[Nat.beq_eq]
   rw[this];rfl
  rw[e]at h
  simpa using h.1
 |r::rs,h,j+1=>by
  simp only[noRef,Bool.and_eq_true]at h
  simpa using noRef_get h.2 j
theorem ResOk.shrink{keep:Nat->Bool}{C C':Ctx}(hl:Later keep C C'){r:Res}{o:Option Own}(h:ResOk C r o)
  (hr:AV.refsInL keep r.cellsOf=true) (hb:∀b,r.blk o=Option.some b->C'.T b/\C'.w.heap[b]?=C.w.heap[b]?/\(C'.imm b->C.imm b)):ResOk C' r o:=by
 cases r with
 |fresh=>exact h
 |dead=>exact h
 |box ice cells=>
  obtain⟨b,vs,el,rfl,hB,hh,hv,h1,h2⟩:=h
  obtain⟨e0,e1,e2⟩:=hb b (by simp[Res.blk])
  exact⟨b,vs,el,rfl,e0,e1.trans hh,RVs.later hl _ _ hr hv,fun e=>⟨(hl.pers b (h1 e).1).1,RV0s.mono hl.pers _ _ (h1 e).2⟩,fun e hi=>h2 e (e2 hi)⟩
 |row ice el sz es=>
  obtain⟨b,v,xs,rfl,ho,hv,h2,h3⟩:=h
  refine⟨b,v,xs,rfl,⟨ho.1,?_⟩,RV0s.mono hl.pers _ _ hv,h2,fun b' e=>?_⟩
  ·rcases ho.2 with hn|⟨g,cap,cur,rfl,hb',hg,rest⟩
   ·exact .inl hn
   ·exact .inr ⟨g,cap,cur,rfl,hb',(hb g (by simp[Res.blk,Value.ownBlock])).2.1.trans hg,rest⟩
  ·obtain⟨e1,hTb,h4,h5⟩:=h3 b' e
   subst e1
   obtain⟨q0,q1,q2⟩:=hb b' (by simpa[Res.blk]using e)
   exact⟨rfl,q0,fun e'=>(hl.pers _ (h4 e')).1,fun e' hi=>h5 e' (q2 hi)⟩
 |mp ice ks us=>
  obtain⟨b,es,rfl,hB,hh,hbn,hk,hv,h1,h2⟩:=h
  obtain⟨e0,e1,e2⟩:=hb b (by simp[Res.blk])
  exact⟨b,es,rfl,e0,e1.trans hh,hbn,RV0s.mono hl.pers _ _ hk,RV0s.mono hl.pers _ _ hv,fun e=>(hl.pers b (h1 e)).1,fun e hi=>h2 e (e2 hi)⟩
 |mpo ks us=>
  obtain⟨b,es,rfl,hB,hh,hbn,hk,hv,h2⟩:=h
  obtain⟨e0,e1,e2⟩:=hb b (by simp[Res.blk])
  exact⟨b,es,rfl,e0,e1.trans hh,hbn,RV0s.mono hl.pers _ _ hk,RVs.later hl _ _ hr hv,fun hi=>h2 (e2 hi)⟩
 |itr ks us seen last=>
  obtain⟨b,m,rfl,hB,hi,hh,hm,hl'⟩:=h
  obtain⟨e0,e1,e2⟩:=hb b (by simp[Res.blk])
  exact⟨b,m,rfl,e0,fun h=>hi (e2 h),e1.trans hh,RV0.mono hl.pers _ _ hm,hl'⟩
theorem Rel.unlend{X:Sess}{E:Env}(hX:SessOk X E){C1 C:Ctx}{tm1:Tm}{sg:List Res}{p:List Nat}{gk:Nat}{gst:Bool}{a1:Act}{pin:Nat->Option Own}{i sz:Nat}{el:TypeId}{es:List (List AV)}{o:Own}
  (h:Rel (btwP X C1 pin) C ⟨tm1,sg.set i (.row false el sz es),⟨i::p,gk,gst⟩⟩ a1) (hfr:sg.getD i .dead = .fresh) (hno:noRef i sg=true) (hi1:C1.rho i=none) (ho:pin i=some o) (hpin:∀j o,C1.rho j=some o->pin j=some o) (hbase:∀d v,look tm1 d=some v->v.refsIn (fun j=>j != i)=true)
  (hlb:∀b,o.val.ownBlock=some b->X.lo<=b) :
  Rel (btwX X C1) ⟨C.imm,fun b=>C.T b/\¬o.val.ownBlock=some b,upd C.rho i none,C.w,C.l⟩ ⟨tm1,sg,⟨p,gk,gst⟩⟩ a1/\(∀b,o.val.ownBlock=some b->C.T b/\¬C.imm b) /\
   ∃xs,C.w.ownsRow 0 el sz o.val es.length xs/\RV0s C.imm C.w es.flatten xs:=by
 obtain⟨hfr',hlt⟩:=getD_dead (s:=⟨tm1,sg,⟨p,gk,gst⟩⟩) hfr (by simp)
 have hrho:C.rho i=some o:=h.pin.1 i o (by simp) ho
 have hgi:(sg.set i (.row false el sz es)).getD i .fresh = .row false el sz es:=by rw[getD_set _ _ _ _ _ hlt];simp
 have hgj:∀j,j≠i->(sg.set i (.row false el sz es)).getD j .fresh=sg.getD j .fresh:=fun j hj=>by rw[getD_set _ _ _ _ _ hlt];simp[hj]
 have hs:=h.sg i
 simp only[hgi,hrho]at hs
 obtain⟨b0,v,xs,e,hown,hv,hlen,hblk⟩:=hs
 cases e
 have hb:∀b,v.ownBlock=some b->C.T b/\¬C.imm b:=fun b hb=>by
  obtain⟨q1,q2,_,q4⟩:=hblk b hb
  subst q1
  exact⟨q2,q4 rfl⟩
 have hne:∀j b,j≠i->(sg.getD j .fresh).blk (C.rho j)=some b->¬v.ownBlock=some b:=fun j b hj h1 h2=>by
  refine hj (h.dis j i b ?_ ?_)
  ·show((sg.set i (.row false el sz es)).getD j .fresh).blk (C.rho j)=some b
   rw[hgj j hj];exact h1
  ·show((sg.set i (.row false el sz es)).getD i .fresh).blk (C.rho i)=some b
   rw[hgi,hrho];exact h2
 have hl:Later (fun j=>j != i) C ⟨C.imm,fun b=>C.T b/\¬v.ownBlock=some b,upd C.rho i none,C.w,C.l⟩:=⟨fun b hb=>⟨hb,rfl⟩,fun j hj=>by
  have:j≠i:=by simpa using hj
  show upd C.rho i none j=_
  simp[upd,this],rfl⟩
 have hupd:∀j,j≠i->upd C.rho i none j=C.rho j:=fun j hj=>by simp[upd,hj]
 refine⟨⟨h.size,fun d u hd=>RV.later hl u _ (hbase d u hd) (h.tm d u hd),fun j=>?_,fun j k b hj hk=>?_,fun b hb'=>?_,h.imm0,fun b hb'=>h.T b hb'.1,hX.kdrop _ _ _ _ _ (fun b=>v.ownBlock=some b) h.keep hlb,?_,fun l' hl'=>?_,⟨fun j o' hj ho'=>?_,h.pin.2⟩⟩,hb,xs,hown,hv⟩
 ·by_cases hj:j=i
  ·subst hj
   show ResOk _ (sg.getD j .fresh) (upd C.rho j none j)
   rw[hfr'];simp[upd,ResOk]
  ·show ResOk _ (sg.getD j .fresh) (upd C.rho i none j)
   rw[hupd j hj]
   have hs:=h.sg j
   simp only[hgj j hj]at hs
   exact ResOk.shrink hl hs (noRef_get hno j) fun b hb'=>⟨⟨(Res.blk_lt hs hb').1,hne j b hj hb'⟩,rfl,id⟩
 ·have nf:∀j b,(sg.getD j .fresh).blk (upd C.rho i none j)=some b->j≠i:=fun j b hj e=>by
   subst e
   rw[hfr']at hj;cases hj
  have h1:=nf j b hj
  have h2:=nf k b hk
  refine h.dis j k b ?_ ?_
  ·show((sg.set i (.row false el sz es)).getD j .fresh).blk (C.rho j)=some b
   rw[hgj j h1,<- hupd j h1];exact hj
  ·show((sg.set i (.row false el sz es)).getD k .fresh).blk (C.rho k)=some b
   rw[hgj k h2,<- hupd k h2];exact hk
 ·obtain⟨q1,q2⟩:=h.imm b hb'
  exact⟨q1.imp id fun q=>⟨q,fun e=>(hb b e).2 hb'⟩,q2⟩
 ·obtain⟨ds,d1,d2,d3⟩:=h.marks
  refine⟨ds,d1,d2,fun D hD=>⟨⟨(d3 D hD).1,fun e=>?_⟩,(d3 D hD).2⟩⟩
  obtain⟨o',q1,q2⟩:=own_mem hown D e
  rw[(d3 D hD).2]at q1;cases q1;cases q2
 ·obtain⟨q1,r',q2⟩:=h.round l' hl'
  refine⟨⟨q1,fun e=>?_⟩,r',q2⟩
  obtain⟨o',q3,q4⟩:=own_mem hown l' e
  rw[q2]at q3;cases q3;cases q4
 ·have hj':j≠i:=fun e=>by
   subst e
   have:C1.rho j=some o':=ho'
   rw[hi1]at this;cases this
  show upd C.rho i none j=some o'
  rw[hupd j hj']
  exact h.pin.1 j o' (List.mem_cons_of_mem _ hj) (hpin j o' ho')
theorem refsIn_sup{p q:List Nat}(h:∀i,i∈p->i∈q){v:AV}(hv:v.refsIn (fun j=>memN p j)=true):v.refsIn (fun j=>memN q j)=true:=
 AV.keep_has fun j hj=>by
  have:=AV.has_keep hv hj
  exact memN_iff.2 (h j (memN_iff.1 this))
theorem refsLt_cons{p:List Nat}{i:Nat}:∀ {tm:Tm},refsLt p tm=true->refsLt (i::p) tm=true
 | [],_=>rfl
 |(d,v)::r,h=>by
  simp only[refsLt,Bool.and_eq_true]at h⊢
  exact⟨refsIn_sup (fun j hj=>List.mem_cons_of_mem _ hj) h.1,refsLt_cons h.2⟩
def rndL(i:Nat)(el:TypeId)(sz:Nat)(es:List (List AV))(p:List Nat)(J:List Res->Nat->Bool->Prop)(Jx:Ex->List Res->Nat->Bool->Prop):Ex->St->Prop
 |.normal,s=>∃sg gk gst,MeetsE s ⟨[],sg.set i (.row false el sz es),⟨i::p,gk,gst⟩⟩/\(sg.getD i .dead = .fresh/\noRef i sg=true)/\J sg gk gst
 |e,s=>∃sg gk gst,MeetsE s ⟨[],sg.set i (.row false el sz es),⟨i::p,gk,gst⟩⟩/\(sg.getD i .dead = .fresh/\noRef i sg=true)/\Jx e sg gk gst
section
variable {X:Sess} {E:Env} {C1:Ctx} {a1:Act} {tm1:(List (Nat × AV))} {p:List Nat} {l:Nat} {fn:FuncId} {pst:Array Tmp} {as bd:Code} {J:Nat->List Res->Nat->Bool->Prop} {Jx:Ex->List Res->Nat->Bool->Prop}
theorem RJ.yieldL(hX:SessOk X E)(hlo:X.lo<=l)(hlo1:X.lo<=C1.w.heap.size)(hl:C1.T l)(hbl:C1.l.l=X.l)(hi0:∀b,X.imm0 b->C1.imm b)(hi1:∀b,C1.imm b->X.imm0 b\/C1.T b)(hC1T:∀b,C1.T b->b<C1.w.heap.size)(hC1m:∀b,C1.imm b->b<C1.w.heap.size)(hbase:∀d v,look tm1 d=some v->RV C1 v (a1.tmps.getD d undef))(hlt:refsLt p tm1=true)
  {lx:Nat->TypeId->Nat->List (List AV)->Nat->Prop} {x y:CI} {nm n1 n2:Nat} (hc1:compC E.P E.N nm as=some (x,n1)) (hc2:compC E.P E.N n1 bd=some (y,n2)) (hps:pst.toList.all (fun t=>decide (t<E.N))=true) {i:Nat} (hri:C1.rho i=none)
  (hr:∀k el sz es k' sg gk gst,lx k el sz es k'->J k sg gk gst->pst.toList.length=1/\sg.getD i .dead = .fresh /\
   GoC E x (assT fun s'=>GoC E y (rndL i el sz es p (J k') Jx) s') ⟨bindT tm1 pst.toList [.row i],sg.set i (.row false el sz es),⟨i::p,gk,gst⟩⟩)
  {k k':Nat} {S:Wt} {w:World} {el:TypeId} {sz:Nat} {es:List (List AV)} {v:Value} {xs:List Value} (h:RJ (btwX X C1) C1 a1 tm1 p l fn pst as bd J Jx k false S w) (hy:lx k el sz es k') (hfl:AV.flatL es.flatten=true) (hown:w.ownsRow 0 el sz v es.length xs) (hxs:RV0s (fun _=>False) w es.flatten xs) (hel:∀e∈es,e.length=sz)
  (hlb:∀b,v.ownBlock=some b->C1.w.heap.size<=b/\¬S.s b/\¬S.h b) :
  YieldAt Fence.wide 4 X.P l #[v] w fun e w2=>∃b S' xs',e = .returned (.bool b)/\RJ (btwX X C1) C1 a1 tm1 p l fn pst as bd J Jx k' (!b) S' w2/\StepL C1.imm v.ownBlock S S' w w2/\w2.ownsRow 0 el sz v es.length xs'/\RV0s (fun _=>False) w2 es.flatten xs':=by
 obtain⟨C0,sg,gk,gst,r,rfl,h0,⟨h2,h2'⟩,h3',h4',h5',e1,e2,e3,e4,e5,h6⟩:=h
 rcases h6 with⟨_,hrd,hpe,hJ⟩|⟨hh,_⟩
 rotate_left
 ·cases hh
 obtain⟨hlen1,hfr,hgo⟩:=hr k el sz es k' sg gk gst hy hJ
 obtain⟨hfr',hil⟩:=getD_dead (s:=⟨tm1,sg,⟨p,gk,gst⟩⟩) hfr (by simp)
 have hrho0:C0.rho i=none:=h0.unbound (i:=i) hfr'
 have hTS:∀b,C0.T b->S.s b\/S.h b:=fun b hb=>by
  by_cases hh:S.h b
  ·exact .inr hh
  ·exact .inl ((h2 b).2 ⟨hh, .inl hb⟩)
 have hnT:∀b,v.ownBlock=some b->¬C0.T b:=fun b hb ht=>(hTS b ht).elim (hlb b hb).2.1 (hlb b hb).2.2
 have hnS:∀b,v.ownBlock=some b->¬C0.l.S.s b:=fun b hb ht=>(hlb b hb).2.1 ((h2 b).2 ⟨(hlb b hb).2.2, .inr ht⟩)
 have hnI:∀b,v.ownBlock=some b->¬C0.imm b:=fun b hb ht=>by
  rcases(h0.imm b ht).1 with q|q
  ·have hq:C1.imm b:=q
   have:=hC1m b hq;have:=(hlb b hb).1;omega
  ·exact hnT b hb q
 let o:Own:=⟨v.ownBlock.getD 0,v⟩
 let pin:Nat->Option Own:=upd C1.rho i (some o)
 have hpin:∀j o',C1.rho j=some o'->pin j=some o':=fun j o' hj=>by
  have:j≠i:=fun e=>by subst e;rw[hri]at hj;cases hj
  simp[pin,upd,this,hj]
 have hsz0:∀b,v.ownBlock=some b->b<C0.w.heap.size:=fun b hb=>(hown.lt b hb).2
 have hrefI:∀(u:AV) (z:Value),RV C0 u z->u.refsIn (fun j=>j != i)=true:=fun u z hu=>RV.unbound hrho0 u z hu
 have hrefIs:∀(us:List AV) (zs:List Value),RVs C0 us zs->AV.refsInL (fun j=>j != i) us=true:=fun us zs hu=>RVs.unbound hrho0 us zs hu
 have hup:=h0.update i hil (.row false el sz es) (some o) C0.w (fun b=>C0.T b\/v.ownBlock=some b) tm1 (fun j=>j != i) (fun b hb=>.inl hb) (fun b hb=>hb.elim (h0.T b) (hsz0 b))
  (hX.kadd _ _ _ _ _ (fun b=>v.ownBlock=some b) h0.keep fun b hb=>⟨Nat.le_trans hlo1 (hlb b hb).1,hsz0 b hb,hnS b hb⟩) (fun o' ho'=>by rw[hrho0]at ho';cases ho') (fun _ _ hh _=>hh) (fun j hj e=>by subst e;simp at hj) (fun _ _ _=>rfl)
  ⟨_,v,xs,rfl,hown,RV0s.mono (imm:=fun _=>False) (fun b hb=>hb.elim) _ _ hxs,hel,fun b' hb'=>⟨by simp[hb'], .inr (by simp[hb']),fun e=>absurd e (by simp),fun _ hi=>hnI b' hb' (by simpa[hb']using hi)⟩⟩
  (fun b hb j hj hb2=>hnT b hb (Res.blk_lt (h0.sg j) hb2).1) (fun d u hd=>⟨hd,hrefI u _ (h0.tm d u hd)⟩) (fun j hj=>by
   have hs:=h0.sg j
   cases hq:(St.mk tm1 sg ⟨p,gk,gst⟩).sg.getD j .fresh with
   |box ice cs=>rw[hq]at hs;obtain⟨_,vs,_,_,_,_,q,_⟩:=hs;exact hrefIs cs vs q
   |mpo ks us=>rw[hq]at hs;obtain⟨_,es,_,_,_,_,_,q,_⟩:=hs;exact hrefIs us _ q
   |_=>rfl)
 let C:Ctx:=⟨C0.imm,fun b=>C0.T b\/v.ownBlock=some b,upd C0.rho i (some o),C0.w,C0.l⟩
 have h1:Rel (btwP X C1 pin) C ⟨tm1,sg.set i (.row false el sz es),⟨i::p,gk,gst⟩⟩ a1:=
  ⟨hup.size,hup.tm,hup.sg,hup.dis,hup.imm,hup.imm0,hup.T,hup.keep,hup.marks,hup.round,fun j o' hj ho'=>by
   show upd C0.rho i (some o) j=some o'
   have ho2:upd C1.rho i (some o) j=some o':=ho'
   by_cases e:j=i
   ·subst e;simpa[upd]using ho2
   ·simp only[upd,if_neg e]at ho2⊢
    exact h0.pin.1 j o' ((List.mem_cons.1 hj).resolve_left e) ho2,hup.pin.2⟩
 have h3:∀b,C1.T b->C.T b:=fun b hb=>.inl (h3' b hb)
 have h4:Pers C1.imm C.imm C1.w C.w:=h4'
 have h5:C.w.heap[l]?=some (.loop r):=h5'
 have h2p:∀b,(S.s b\/v.ownBlock=some b)<->(¬S.h b/\(C.T b\/C.l.S.s b)):=fun b=>by
  constructor
  ·rintro(q|q)
   ·obtain⟨q1,q2⟩:=(h2 b).1 q
    exact⟨q1,q2.imp .inl id⟩
   ·exact⟨(hlb b q).2.2, .inl (.inr q)⟩
  ·rintro⟨q1,(q2|q2)|q2⟩
   ·exact .inl ((h2 b).2 ⟨q1, .inl q2⟩)
   ·exact .inr q2
   ·exact .inl ((h2 b).2 ⟨q1, .inr q2⟩)
 have hH:∀b,S.h b->C.imm b/\C.T b:=fun b hb=>⟨(h2' b hb).1, .inl (h2' b hb).2⟩
 have hxl:pst.toList.length=[AV.row i].length:=hlen1
 have hll:l<C.w.heap.size:=(Array.getElem?_eq_some_iff.1 h5).1
 have hlC:C.T l:=h3 l hl
 have hlow:X.lo<=C.w.heap.size:=by omega
 refine⟨_,_,_,_,run_yield (P:=X.P) (args := #[v]) h5 (by rw[e3];simpa using hlen1.symm),?_⟩
 rw[e1,e4,e5,e3]
 refine roundIn_of_wpIn (F:=Fence.wide) (n:=4) trivial ?_
 have hci:∀b,C.imm b->X.imm0 b\/C.T b:=fun b hb=>by
  rcases(h1.imm b hb).1 with q|q
  ·exact(hi1 b q).imp id (h3 b)
  ·exact .inr q
 have hc0:∀b,X.imm0 b->C.imm b:=fun b hb=>h1.imm0 b (hi0 b hb)
 have hok:∀q,SessOk (rndX X C l r pin q) E:=fun q=>rndX_ok hX hlC hll hlow hci hc0 h1.T
 have hst:r={ r with state:=.ready }:=by cases r;simp_all
 have hmid0:Mid C l r .ready C.T C.l.S C.w:=⟨rfl,rfl,rfl,Nat.le_refl _,fun _ _ _ _=>rfl,by rw[h5,<- hst],fun _ h=>h,fun _ h=>.inl h,fun _ h=>h,fun _ h=>.inl h⟩
 have hrvs:RVs C [.row i] [v]:=by
  simp only[RVs,RV]
  exact⟨_,_,rfl,⟨o,by simp[C,upd],rfl⟩,rfl⟩
 have harr:(pst.zip #[v]).foldl (fun(tmps:Array Value) (t,a)=>tmps.setIfInBounds t a) r.tmps=(pst.toList.zip [v]).foldl (fun(t:Array Value) (p:Tmp × Value)=>t.setIfInBounds p.1 p.2) a1.tmps:=by
  rw[e2,<- Array.foldl_toList,Array.toList_zip]
 have hsz1:a1.tmps.size=X.N:=h1.size
 have hrel0:Rel (rndX X C l r pin .ready) C ⟨bindT tm1 pst.toList [.row i],sg.set i (.row false el sz es),⟨i::p,gk,gst⟩⟩ { tmps:=(pst.zip #[v]).foldl (fun(tmps:Array Value) (t,a)=>tmps.setIfInBounds t a) r.tmps,defers:=[] }:=by
  refine h1.move (Y:=rndX X C l r pin .ready) C.w (fun _ _ _=>rfl) (Nat.le_refl _) ?_ (fun d u hu=>?_) (fun b hb=>.inl hb) (fun b hb=>hb) ⟨h1.keep,hmid0⟩ ⟨[],rfl,List.nodup_nil,fun D hD=>by cases hD⟩ (fun l' hl'=>?_) ⟨h1.pin.1,h1.pin.2⟩
  ·show Array.size ((pst.zip #[v]).foldl (fun(tmps:Array Value) (t,a)=>tmps.setIfInBounds t a) r.tmps)=X.N
   rw[harr,zip_size,hsz1]
  ·show RV C u (((pst.zip #[v]).foldl (fun(tmps:Array Value) (t,a)=>tmps.setIfInBounds t a) r.tmps).getD d undef)
   rw[harr]
   exact bind_ok (N:=X.N) pst.toList [.row i] [v] tm1 a1.tmps hxl (by rw[hX.N];exact hps) hsz1 hrvs h1.tm d u hu
  ·simp only[rndX,Fence.inRound,Option.some.injEq]at hl'
   subst hl'
   exact⟨hlC,r,h5⟩
 refine wpIn_mono (hgo _ (hok .ready) as nm n1 hc1 C _ hrel0) fun e a2 w2 hq=>?_
 cases e with
 |normal=>
  obtain⟨C2,s2,rfl,hr2,hg2⟩:=hq
  have hm2:Mid C l r .ready C2.T C2.l.S C2.w:=hr2.keep.2
  have hl2:C2.w.heap[l]?=some (.loop { r with state:=.ready }):=hm2.rcd
  refine⟨_,run_beginRound hl2 rfl,?_⟩
  obtain⟨tm2,sg2,gh2⟩:=s2
  have hlt2:l<C2.w.heap.size:=(Array.getElem?_eq_some_iff.1 hl2).1
  have hput:∀b,b≠l->(C2.w.putObj l (.loop { r with state:=.busy })).heap[b]?=C2.w.heap[b]?:=fun b hb=>World.putObj_heap_other hb
  have hsame:∀b,Mem C2.w b->(C2.T b\/C2.imm b)->(C2.w.putObj l (.loop { r with state:=.busy })).heap[b]?=C2.w.heap[b]?:=fun b hcl _=>hput b fun e=>by
   obtain⟨o,hcl,ho⟩:=hcl
   rw[e,hl2]at hcl;cases hcl;cases ho
  have hrel2:Rel (rndX X C l r pin .busy) ⟨C2.imm,C2.T,C2.rho,C2.w.putObj l (.loop { r with state:=.busy }),C2.l⟩ ⟨tm2,sg2,gh2⟩ a2:=by
   refine hr2.move (Y:=rndX X C l r pin .busy) _ hsame (by rw[size_putObj];exact Nat.le_refl _) hr2.size (hr2.later_tm hsame) (fun b hb=>(hr2.imm b hb).1) hr2.imm0 ⟨?_,?_⟩ ?_ (fun l' hl'=>?_) hr2.pin
   ·exact hX.kobj _ _ _ _ _ _ _ _ hr2.keep.1 (hm2.sub l hlC) hlo (fun hh=>by
     obtain⟨o,q1,q2⟩:=(hr2.imm l (hr2.pin.2.2 l hh)).2
     rw[hl2]at q1;cases q1;cases q2) hl2
   ·exact⟨hm2.os,hm2.tape,hm2.output,by rw[size_putObj];exact hm2.size,fun b hb hne hh=>(hput b hne).trans (hm2.same b hb hne hh),World.putObj_heap_same hlt2,hm2.sub,hm2.new,hm2.subS,hm2.newS⟩
   ·obtain⟨ds,d1,d2,d3⟩:=hr2.marks
    refine⟨ds,d1,d2,fun D hD=>⟨(d3 D hD).1,(hput D fun e=>?_).trans (d3 D hD).2⟩⟩
    have:=(d3 D hD).2
    rw[e,hl2]at this;cases this
   ·simp only[rndX,Fence.inRound,Option.some.injEq]at hl'
    subst hl'
    exact⟨hm2.sub _ hlC,_,World.putObj_heap_same hlt2⟩
  refine wpIn_mono (hg2 _ (hok .busy) bd n1 n2 hc2 _ _ hrel2) fun e a3 w3 hq=>?_
  have fin:∀(C3:Ctx) (s3:St),C3.w=w3->Rel (rndX X C l r pin .busy) C3 s3 a3->∀(jump:Option Code) (b:Bool) (sg4:List Res) (gk4:Nat) (gst4:Bool),b=jump.isNone->MeetsE s3 ⟨[],sg4.set i (.row false el sz es),⟨i::p,gk4,gst4⟩⟩->(sg4.getD i .dead = .fresh/\noRef i sg4=true) ->
    ((jump=none/\J k' sg4 gk4 gst4)\/∃e,e ≠ .normal/\jump=some (exCode e)/\Jx e sg4 gk4 gst4) ->
    ∃u w',(Instr.endRound l jump).run X.P w3 = .ok u w'/\∃b S' xs',Ending.returned u = .returned (.bool b)/\RJ (btwX X C1) C1 a1 tm1 p l fn pst as bd J Jx k' (!b) S' w'/\StepL C1.imm v.ownBlock S S' C.w w'/\w'.ownsRow 0 el sz v es.length xs'/\RV0s (fun _=>False) w' es.flatten xs':=fun C3 s3 hw hr3 jump b sg4 gk4 gst4 hb hm hsg4 hjj=>by
   subst hw
   have hl3:C3.w.heap[l]?=some (.loop { r with state:=.busy }):=hr3.keep.2.rcd
   obtain⟨C5,q1,q2,q3,q4,q5,q7,q6⟩:=round_back (p:=i::p) (S:=⟨fun b=>S.s b\/v.ownBlock=some b,S.h⟩) (H:=S.h) (Q:=fun _=>False) hX hlo hl hbl hbase (refsLt_cons hlt) (pin:=pin) hpin h1 h2p hH (fun b hb=>hb) (fun b hb=>.inl hb) h3 h4 h5 hr3 hm (if jump.isNone then .ready else .done) jump
   obtain⟨u1,u2,xs5,u3,u4⟩:=q2.unlend hX hsg4.1 hsg4.2 hri (o:=o) (by simp[pin,upd]) hpin (fun d u hd=>RV.unbound hri u _ (hbase d u hd)) (fun b hb=>Nat.le_trans hlo1 (hlb b hb).1)
   have hS5:∀b,v.ownBlock=some b->¬C5.l.S.s b:=fun b hb hs=>((hX.kS _ _ _ _ _ q2.keep).1 b hs).2 (u2 b hb).1
   refine⟨_,_,run_endRound jump hl3,jump.isNone,⟨fun b=>¬S.h b/\((C5.T b/\¬v.ownBlock=some b)\/C5.l.S.s b),S.h⟩,xs5,rfl,⟨⟨C5.imm,fun b=>C5.T b/\¬v.ownBlock=some b,upd C5.rho i none,C5.w,C5.l⟩,sg4,gk4,gst4,{ r with state:=if jump.isNone then .ready else .done,pending:=jump },q1,u1,⟨fun b=>Iff.rfl,fun b hb=>⟨(q7 b hb).1,(q7 b hb).2,fun e=>(hlb b e).2.2 hb⟩⟩,fun b hb=>⟨q3 b hb,fun e=>by have:=hC1T b hb;have:=(hlb b e).1;omega⟩,q1 ▸ q4,q1 ▸ q5,e1,e2,e3,e4,e5,?_⟩,?_,q1 ▸ u3,q1 ▸ (RV0s.flatL hfl u4)⟩
   rotate_left
   ·rw[<- q1]
    refine⟨q6.os,q6.tape,q6.output,q6.size,fun b hb hne hc=>q6.same b hb (hc.imp id fun q hh=>hh.elim q hne),fun b hb=>?_,fun b hb=>?_,fun b hb=>hb,fun b hb=>hb⟩
    ·obtain⟨z1,z2⟩:=q6.sub b (.inl hb)
     exact⟨z1,z2.imp (fun z=>⟨z,fun e=>(hlb b e).2.1 hb⟩) id⟩
    ·obtain⟨z1,z2⟩:=hb
     rcases q6.new b ⟨z1,z2.imp (·.1) id⟩with(z3|z3)|z3
     ·exact .inl z3
     ·rcases z2 with z2|z2
      ·exact absurd z3 z2.2
      ·exact absurd z2 (hS5 b z3)
     ·exact .inr z3
   rcases hjj with⟨rfl,hj⟩|⟨e,he,rfl,hj⟩
   ·exact .inl ⟨rfl,rfl,rfl,hj⟩
   ·exact .inr ⟨rfl,rfl,e,he,rfl,hj⟩
  cases e with
  |normal=>obtain⟨C3,s3,hw,hr3,sg4,gk4,gst4,hm,hsg4,hj⟩:=hq;exact fin C3 s3 hw hr3 none true sg4 gk4 gst4 rfl hm hsg4 (.inl ⟨rfl,hj⟩)
  |ret=>obtain⟨C3,s3,hw,hr3,sg4,gk4,gst4,hm,hsg4,hj⟩:=hq;exact fin C3 s3 hw hr3 (some .ret) false sg4 gk4 gst4 rfl hm hsg4 (.inr ⟨.ret,by simp,rfl,hj⟩)
  |exit id=>obtain⟨C3,s3,hw,hr3,sg4,gk4,gst4,hm,hsg4,hj⟩:=hq;exact fin C3 s3 hw hr3 (some (.exit id)) false sg4 gk4 gst4 rfl hm hsg4 (.inr ⟨.exit id,by simp,rfl,hj⟩)
  |goto t=>exact hq.elim
  |panic ch=>exact hq.elim
  |outgrown=>exact hq.elim
 |ret=>obtain⟨_,_,_,_,hf⟩:=hq;exact hf.elim
 |exit id=>obtain⟨_,_,_,_,hf⟩:=hq;exact hf.elim
 |goto t=>exact hq.elim
 |panic ch=>exact hq.elim
 |outgrown=>exact hq.elim
end
theorem go_rngL{E:Env}{T:Ex->St->Prop}{s:St}{pf:Opd}{ps:List Nat}{x y:CI}{f:FuncId}{cap cap':List AV}(lx:Nat->TypeId->Nat->List (List AV)->Nat->Prop)(fin:Nat->Prop)(hf:s.ev pf=some (.fn f cap))(hpu:AV.puL cap=true)(hfz:AV.frzL s.sg 8 cap=some cap')(hb:bodied E.P f=true)(hit:ItL E.P f cap' lx fin)
  (p:List Nat) (hp:subN s.gh.p p=true) (tm1:List (Nat × AV)) (sg0:List Res) (i:Nat) (hfr0:sg0.getD i .dead = .fresh) (hm:MeetsR s ⟨tm1,sg0,s.gh⟩) (hlt:refsLt p tm1=true) (J:Nat->List Res->Nat->Bool->Prop) (Jx:Ex->List Res->Nat->Bool->Prop)
  (h0:J 0 sg0 s.gh.k s.gh.st)
  (hr:∀k el sz es k' sg gk gst,lx k el sz es k'->J k sg gk gst->ps.length=1/\sg.getD i .dead = .fresh/\GoC E x (assT fun s'=>GoC E y (rndL i el sz es p (J k') Jx) s') ⟨bindT tm1 ps [.row i],sg.set i (.row false el sz es),⟨i::p,gk,gst⟩⟩)
  (hend:∀k sg gk gst,fin k->J k sg gk gst->T .normal ⟨tm1,sg,⟨s.gh.p,gk,gst⟩⟩)
  (hx:∀e sg gk gst,e ≠ .normal->Jx e sg gk gst->T e ⟨tm1,sg,⟨s.gh.p,gk,gst⟩⟩):GoC E (.rng pf ps x y) T s:=fun X hX code nm nm' hc C a hrel=>by
 cases code<;>simp only[compC]at hc<;>try ((repeat' (split at hc))<;>cases hc)
 rename_i g pst as bd _ _ n1 _ hps hg hc1 hc2
 have e2:=ev_ok hrel hg hf
 simp only[RV]at e2
 obtain⟨lb,hlb,hcap⟩:=e2
 have hcap0:RV0s C.imm C.w cap' lb:=mapPu_ok (frz_pu 8) cap _ _ hpu hfz hcap
 obtain⟨rho',hrel0⟩:=hm X C a hrel
 refine wpIn_rangeFunc fun fn hfn=>?_
 obtain⟨l,mark,w1,dd,he,hbel,hl0,hl1,hrec,hmark⟩:=enter_any (P:=X.P) hX.wide C.w (fun l hl=>(hrel.round l hl).2) fn a.tmps pst as bd
 have hrun:∀args w,(callFunc f args).run X.P w = .ok (.enter f args) w:=fun args w=>callFunc_run (by rw[hX.P];exact hb) args w
 have hargs:lb.toArray=lb.toArray:=rfl
 refine⟨l,mark,w1,{ target:=.fn (.func f) lb.toArray,args := #[.func (.yield l) #[] #[]] },w1,f,#[.func (.yield l) #[] #[]]++lb.toArray,w1,he,?_,fun f' _=>hX.fn f',?_,fun e=>?_,?_⟩
 ·simp only[resolve,hlb]
  simp[go_sem]
 ·simp[invoke,go_sem,hrun]
 ·have hd:X.F.depth=none:=by rcases hX.wide with e|⟨l,e⟩<;>rw[e]<;>rfl
  rw[hd]at e;cases e
 -- the state at the loop's beginning
 obtain⟨hr1,hlat⟩:=hrel0.call w1 C.imm hbel (hX.kgrow _ _ _ _ _ _ hrel0.keep hbel) (fun b hb=>hb) (fun b hb=>.inl hb)
 have hlo:X.lo<=C.w.heap.size:=hX.klo _ _ _ _ _ hrel.keep
 let C1:Ctx:=⟨C.imm,newB C.w w1 C.T,rho',w1,C.l⟩
 let a1:Act:={ a with defers:=mark++a.defers }
 have hT1:C1.T l:=.inr ⟨hl0,hl1⟩
 have hrelX:Rel X C1 ⟨tm1,sg0,s.gh⟩ a1:=by
  refine⟨hr1.size,hr1.tm,hr1.sg,hr1.dis,hr1.imm,hr1.imm0,hr1.T,hr1.keep,?_,hr1.round,hr1.pin⟩
  obtain⟨ds,d1,d2,d3⟩:=hr1.marks
  have d1':a.defers=ds.map (fun D=>{ target:=.collected D,args := #[] }):=d1
  obtain⟨ds0,q1,q2,q3⟩:=hrel.marks
  rcases hmark with hmk|⟨D,hmk,k1,k2,k3⟩
  ·exact⟨ds,by show mark++a.defers=_;rw[hmk,d1'];rfl,d2,d3⟩
  ·have hds:ds0=ds:=by
    have:ds0.map (fun D=>({ target:=.collected D,args := #[] }:Deferred))=ds.map (fun D=>{ target:=.collected D,args := #[] }):=q1.symm.trans d1'
    exact List.map_inj_right (fun x y hxy=>by simpa using hxy) |>.1 this
   subst hds
   refine⟨D::ds0,by show mark++a.defers=_;rw[hmk,d1'];rfl,List.nodup_cons.2 ⟨fun hD=>?_,d2⟩,fun D' hD'=>?_⟩
   ·have:=hrel.T D (q3 D hD).1;omega
   ·rcases List.mem_cons.1 hD' with rfl|hD'
    ·exact⟨.inr ⟨k1,k2⟩,k3⟩
    ·exact d3 D' hD'
 have hrelB:Rel (btwX X C1) C1 ⟨tm1,sg0,⟨p,s.gh.k,s.gh.st⟩⟩ a1:=
  ⟨hrelX.size,hrelX.tm,hrelX.sg,hrelX.dis,fun b hb=>⟨.inl hb,(hrelX.imm b hb).2⟩,fun b hb=>hb,hrelX.T,hrelX.keep,hrelX.marks,hrelX.round,fun i o _ ho=>ho,hrelX.pin.2⟩
 have himm1:∀b,C1.imm b->Mem C1.w b:=fun b hb=>(hrelX.imm b hb).2
 have hlo1:X.lo<=C1.w.heap.size:=Nat.le_trans hlo hbel.size
 have hri:C1.rho i=none:=hrelX.unbound (i:=i) (getD_dead (s:=⟨tm1,sg0,s.gh⟩) hfr0 (by simp)).1
 have hJ0:RJ (btwX X C1) C1 a1 tm1 p l fn pst as bd J Jx 0 false ⟨fun b=>¬False/\(C1.T b\/C1.l.S.s b),fun _=>False⟩ w1:=
  ⟨C1,sg0,s.gh.k,s.gh.st,_,rfl,hrelB,⟨fun _=>Iff.rfl,fun _ hb=>hb.elim⟩,fun _ h=>h,fun b hb=>⟨hb,rfl⟩,hrec,rfl,rfl,rfl,rfl,rfl, .inl ⟨rfl,rfl,rfl,h0⟩⟩
 have hit':=hit C.imm w1 lb l (RJ (btwX X C1) C1 a1 tm1 p l fn pst as bd J Jx) ⟨fun b=>¬False/\(C1.T b\/C1.l.S.s b),fun _=>False⟩ himm1 (RV0s.mono hlat.pers _ _ hcap0) (fun _ hb=>hb.elim)
  ⟨fun k st S w2 hj b hb=>by
   obtain⟨C2,sg2,gk2,gst2,r2,rfl,k1,k2,_⟩:=hj
   rcases hb with hb|hb
   ·rcases((k2.1 b).1 hb).2 with q|q
    ·exact k1.T b q
    ·exact((hX.kS _ _ _ _ _ k1.keep).1 b q).1
   ·exact k1.T b (k2.2 b hb).2,
  fun k st S w2 w3 hj hrch=>hj.reach hX himm1 hlo1 hT1 ⟨hrch.os,hrch.tape,hrch.output,hrch.size,fun b hb hc=>hrch.same b hb (hc.imp (fun q=>⟨q, .inl fun hf=>hf⟩) id)⟩,
  fun k k' S w2 v xs Q hj _ hQ hv hxs=>hv.elim,
  fun k k' S w2 el sz es v xs hj hv hfl hown hxs hel hlb=>by
   rw[<- hX.P]
   exact hj.yieldL hX (Nat.le_trans hlo hl0) hlo1 hT1 hrelX.pin.2.1 hrelX.imm0 (fun b hb=>(hrelX.imm b hb).1) hrelX.T (fun b hb=>(himm1 b hb).lt) hrelX.tm hlt hc1 hc2 hps hri hr hv hfl hown hxs hel (fun b hb=>⟨(hlb b hb).1.resolve_left (fun hf=>hf),(hlb b hb).2.2.1,(hlb b hb).2.2.2⟩)⟩
  hJ0
 rw[<- hX.P]at hit'
 have hin:CallsIn X.F (X.n-1) X.P f (#[.func (.yield l) #[] #[]]++lb.toArray) w1 (fun e w'=>∃v k st S',e = .returned v/\RJ (btwX X C1) C1 a1 tm1 p l fn pst as bd J Jx k st S' w'/\(st=false->fin k)):=by
  have h3:CallsIn Fence.wide (X.n-1) X.P f (#[.func (.yield l) #[] #[]]++lb.toArray) w1 _:=callsIn_wide.2 hit'
  rcases hX.wide with e|⟨l',e⟩<;>rw[e]
  ·exact h3
  ·exact CallsIn.inRound l' h3
 refine hin.mono fun e w2 hh=>?_
 obtain⟨v,k,st,S',rfl,hj,hk⟩:=hh
 obtain⟨C2,sg2,gk2,gst2,r2,rfl,k1,k2,k3,k4,k5,k6,k7,k8,k9,k10,k11⟩:=hj
 have hback:Rel X ⟨C2.imm,C2.T,C2.rho,C2.w.putObj l (.loop { r2 with state:=.exhausted }),C2.l⟩ ⟨tm1,sg2,⟨s.gh.p,gk2,gst2⟩⟩ a1:=by
  have hput:∀b,b≠l->(C2.w.putObj l (.loop { r2 with state:=.exhausted })).heap[b]?=C2.w.heap[b]?:=fun b hb=>World.putObj_heap_other hb
  have hlt2:l<C2.w.heap.size:=(Array.getElem?_eq_some_iff.1 k5).1
  have hsame:∀b,Mem C2.w b->(C2.T b\/C2.imm b)->(C2.w.putObj l (.loop { r2 with state:=.exhausted })).heap[b]?=C2.w.heap[b]?:=fun b hcl _=>hput b fun e=>by
   obtain⟨o,hcl,ho⟩:=hcl
   rw[e,k5]at hcl;cases hcl;cases ho
  refine k1.move (Y:=X) _ hsame (by rw[size_putObj];exact Nat.le_refl _) hrelX.size (k1.later_tm hsame) (fun b hb=>?_) (fun b hb=>k1.imm0 b (hrelX.imm0 b hb)) ?_ ?_ (fun l' hl'=>?_) ⟨fun i o hi ho=>?_,k1.pin.2⟩
  ·rcases(k1.imm b hb).1 with q|q
   ·exact(hrelX.imm b q).1.imp id (k3 b)
   ·exact .inr q
  ·exact hX.kobj _ _ _ _ _ _ _ _ k1.keep (k3 l hT1) (Nat.le_trans hlo hl0) (fun hh=>by
    obtain⟨o,q1,q2⟩:=(k1.imm l (k1.pin.2.2 l hh)).2
    rw[k5]at q1;cases q1;cases q2) k5
  ·obtain⟨ds,d1,d2,d3⟩:=k1.marks
   refine⟨ds,d1,d2,fun D hD=>⟨(d3 D hD).1,(hput D fun e=>?_).trans (d3 D hD).2⟩⟩
   have:=(d3 D hD).2
   rw[e,k5]at this;cases this
  ·obtain⟨q1,r',q2⟩:=k1.round l' hl'
   refine⟨q1,?_⟩
   by_cases e:l'=l
   ·subst e;exact⟨_,World.putObj_heap_same hlt2⟩
   ·exact⟨r',(hput l' e).trans q2⟩
  ·exact k1.pin.1 i o (subN_ok hp i hi) (hrelX.pin.1 i o hi ho)
 obtain⟨C3,hC3,hback⟩:∃C3:Ctx,C2.w.putObj l (.loop { r2 with state:=.exhausted })=C3.w/\Rel X C3 ⟨tm1,sg2,⟨s.gh.p,gk2,gst2⟩⟩ a1:=⟨_,rfl,hback⟩
 have hend3:r2.state ≠ .busy->(Instr.endLoop l).run X.P C2.w = .ok r2.pending C3.w:=fun hne=>by rw[<- hC3];exact run_endLoop k5 hne
 clear hC3
 rcases k11 with⟨rfl,q1,q2,q3⟩|⟨rfl,q1,e,q2,q3,q4⟩
 ·refine⟨r2.pending,C3.w,hend3 (by rw[q1];simp),?_⟩
  rw[q2]
  refine⟨_,_,rfl,hback,hend _ _ _ _ (hk rfl) q3⟩
 ·refine⟨r2.pending,C3.w,hend3 (by rw[q1];simp),?_⟩
  rw[q3]
  have ht:=hx e sg2 gk2 gst2 q2 q4
  cases e with
  |normal=>exact absurd rfl q2
  |ret=>exact wpIn_ret ⟨_,_,rfl,hback,ht⟩
  |exit id=>exact wpIn_exit ⟨_,_,rfl,hback,ht⟩
theorem rng_l{E:Env}{T:Ex->St->Prop}{tm0:Tm}{sg0:List Res}{gh:Gh}{pf:Opd}{ps:List Nat}{x y:CI}{f:FuncId}{cap cap':List AV}{α : Type}(lx:Nat->TypeId->Nat->List (List AV)->Nat->Prop)(fin:Nat->Prop)(i:Nat)(p:List Nat)(tm1:Tm)(sg : α -> List Res)(inv:Nat -> α -> Prop)(x0 : α)
  (hf:ev tm0 pf=some (.fn f cap)) (hpu:AV.puL cap=true) (hfz:AV.frzL sg0 8 cap=some cap') (hb:bodied E.P f=true) (hit:ItL E.P f cap' lx fin) (hp:subN gh.p p=true)
  (hm:MeetsE ⟨tm0,sg0,gh⟩ ⟨tm1,sg x0,gh⟩) (hlt:refsLt p tm1=true) (h0:inv 0 x0) (hl:ps.length=1) (hfr:∀z,(sg z).getD i .dead = .fresh/\noRef i (sg z)=true)
  (hr:∀k el sz es k' z,lx k el sz es k'->inv k z->goP E x (fun e tm' sg' gh'=>match e with
   |.normal=>goP E y (fun e tm' sg' gh'=>match e with
    |.normal=>∃u,MeetsE ⟨tm',sg',gh'⟩ ⟨[],(sg u).set i (.row false el sz es),⟨i::p,gh.k,gh.st⟩⟩/\inv k' u
    |.ret=>∃sg'',MeetsE ⟨tm',sg',gh'⟩ ⟨[],sg''.set i (.row false el sz es),⟨i::p,gh.k,gh.st⟩⟩/\(sg''.getD i .dead = .fresh/\noRef i sg''=true)/\T .ret ⟨tm1,sg'',gh⟩
    |.exit j=>∃sg'',MeetsE ⟨tm',sg',gh'⟩ ⟨[],sg''.set i (.row false el sz es),⟨i::p,gh.k,gh.st⟩⟩/\(sg''.getD i .dead = .fresh/\noRef i sg''=true)/\T (.exit j) ⟨tm1,sg'',gh⟩) tm' sg' gh'
   |.ret=>False
   |.exit _=>False) (bindT tm1 ps [.row i]) ((sg z).set i (.row false el sz es)) ⟨i::p,gh.k,gh.st⟩)
  (hend:∀k z,fin k->inv k z->T .normal ⟨tm1,sg z,gh⟩):RngQ E pf ps x y T ⟨tm0,sg0,gh⟩:=by
 have hev:(St.mk tm0 sg0 gh).ev pf=some (.fn f cap):=by cases pf<;>exact hf
 refine RngQ.mk (go_rngL (f:=f) (cap:=cap) lx fin hev hpu hfz hb hit p hp tm1 (sg x0) i (hfr x0).1 hm.r hlt (fun k s gk gst=>gk=gh.k/\gst=gh.st/\∃z,s=sg z/\inv k z) (fun e s gk gst=>gk=gh.k/\gst=gh.st/\T e ⟨tm1,s,gh⟩) ⟨rfl,rfl,x0,rfl,h0⟩ ?_ ?_ ?_)
 ·rintro k el sz es k' s gk gst hv ⟨rfl,rfl,z,rfl,hz⟩
  refine⟨hl,(hfr z).1,(goP_ok (hr k el sz es k' z hv hz)).mono fun e s' hs=>?_⟩
  cases e with
  |normal=>
   refine(goP_ok (c:=y) hs).mono fun e s'' hs'=>?_
   cases e with
   |normal=>obtain⟨u,h1,h2⟩:=hs';exact⟨_,_,_,h1,hfr u,rfl,rfl,u,rfl,h2⟩
   |ret=>obtain⟨s2,h1,h2,h3⟩:=hs';exact⟨_,_,_,h1,h2,rfl,rfl,h3⟩
   |exit i=>obtain⟨s2,h1,h2,h3⟩:=hs';exact⟨_,_,_,h1,h2,rfl,rfl,h3⟩
  |ret=>exact hs.elim
  |exit i=>exact hs.elim
 ·rintro k s gk gst hk ⟨rfl,rfl,z,rfl,hz⟩;exact hend k z hk hz
 ·rintro e s gk gst _ ⟨rfl,rfl,ht⟩;exact ht
inductive Sh where
 |int (k:IntKind)
 |bool
 |str
 |sl (es:List Sh)
 |agg (ss:List Sh)
mutual
def Sh.fits:Sh->AV->Prop
 |.int k,v=>∃n,v = .int k n/\(Lit.int k n).wf=true
 |.bool,v=>∃b,v = .bool b
 |.str,v=>∃s,v = .str s/\s.length<=maxLen
 |.sl es,v=>∃rows:List (List AV),v = .isl rows/\rows.length<=maxLen/\∀r∈rows,Sh.fitsL es r
 |.agg ss,v=>∃l,v = .agg l/\Sh.fitsL ss l
def Sh.fitsL:List Sh->List AV->Prop
 | [],l=>l=[]
 |s::ss,l=>∃v vs,l=v::vs/\Sh.fits s v/\Sh.fitsL ss vs
end
theorem Sh.fitsL_append:∀ {a b:List Sh} {x y:List AV},Sh.fitsL a x->Sh.fitsL b y->Sh.fitsL (a++b) (x++y)
 | [],_,_,_,hx,hy=>by simp only[Sh.fitsL]at hx;subst hx;simpa using hy
 |s::ss,b,x,y,hx,hy=>by
  simp only[Sh.fitsL]at hx
  obtain⟨v,vs,rfl,h1,h2⟩:=hx
  simp only[List.cons_append,Sh.fitsL]
  exact⟨v,vs++y,rfl,h1,Sh.fitsL_append h2 hy⟩
theorem Sh.fitsL_len:∀ {a:List Sh} {x:List AV},Sh.fitsL a x->x.length=a.length
 | [],_,hx=>by simp only[Sh.fitsL]at hx;subst hx;rfl
 |s::ss,x,hx=>by
  simp only[Sh.fitsL]at hx
  obtain⟨v,vs,rfl,h1,h2⟩:=hx
  simp[Sh.fitsL_len h2]
theorem RV0s_append{imm:Nat->Prop}{w:World}:∀ {a b:List AV} {x y:List Value},RV0s imm w a x->RV0s imm w b y->RV0s imm w (a++b) (x++y)
 | [],_,_,_,hx,hy=>by simp only[RV0s]at hx;subst hx;simpa using hy
 |s::ss,b,x,y,hx,hy=>by
  simp only[RV0s]at hx
  obtain⟨v,vs,rfl,h1,h2⟩:=hx
  simp only[List.cons_append,RV0s]
  exact⟨v,vs++y,rfl,h1,RV0s_append h2 hy⟩
def Has(w:World)(b:Nat):Prop:=∃c el fz,w.heap[b]?=some (.cells c el fz)
theorem Has.of_cell{w:World}{a:Addr}{v:Value}(h:w.cell? a=some v):Has w a.block/\a.spot=none:=by
 unfold World.cell? at h
 unfold Has
 split at h
 ·rename_i c x y hh
  split at h
  ·cases h
  ·rename_i hs
   exact⟨⟨_,_,_,hh⟩,by simpa using hs⟩
 ·cases h
theorem RV0r_of{imm:Nat->Prop}{w:World}{b sz:Nat}:∀ {rows:List (List AV)} {off:Nat},(∀i r,rows[i]?=some r->r.length=sz/\RV0c imm w b (off+i*sz) r)->RV0r imm w b sz off rows
 | [],_,_=>by simp[RV0r]
 |r::rows,off,h=>by
  simp only[RV0r]
  have h0:=h 0 r rfl
  refine⟨h0.1,by simpa using h0.2,RV0r_of fun i q hq=>?_⟩
  have:=h (i+1) q (by simpa using hq)
  rwa [show off+(i+1)*sz=off+sz+i*sz from by rw[Nat.add_mul];omega]at this
theorem list_of{α : Type}{Q:Nat -> α -> Prop}:∀(n:Nat),(∀i,i<n->∃r,Q i r)->∃rows:List α,rows.length=n/\∀i r,rows[i]?=some r->Q i r
 |0,_=>⟨[],rfl,fun i r h=>by simp at h⟩
 |n+1,h=>by
  obtain⟨rows,h1,h2⟩:=list_of n fun i hi=>h i (by omega)
  obtain⟨r,hr⟩:=h n (by omega)
  refine⟨rows++[r],by simp[h1],fun i q hq=>?_⟩
  by_cases hi:i<n
  ·rw[List.getElem?_append_left (by omega)]at hq;exact h2 i q hq
  ·rw[List.getElem?_append_right (by omega)]at hq
   by_cases he:i=n
   ·subst he;simp[h1]at hq;subst hq;exact hr
   ·have:i-rows.length≠0:=by omega
    cases hh:i-rows.length with
    |zero=>omega
    |succ k=>rw[hh]at hq;simp at hq
mutual
def shape(P:Program):Nat->TypeId->Option (List Sh)
 |0,_=>none
 |n+1,t=>match P.underlying t with
  |some .bool=>some [.bool]
  |some (.int k)=>some [.int k]
  |some .string=>some [.str]
  |some (.slice e)=>match shape P n e with
   |some (s::ss)=>if P.cellsOf e=(s::ss).length then some [.sl (s::ss)] else none
   |_=>none
  |some (.struct fs)=>match shapeF P n 0 fs.toList with
   |some ss=>if P.cellsOf t=ss.length then some ss else none
   |none=>none
  |_=>none
def shapeF(P:Program):Nat->Nat->List Field->Option (List Sh)
 |_,_,[]=>some []
 |0,_,_=>none
 |n+1,off,f::fs=>match shape P n f.type with
  |some ss=>if f.offset=off/\P.cellsOf f.type=ss.length then match shapeF P n (off+ss.length) fs with
    |some tt=>some (ss++tt)
    |none=>none
   else none
  |none=>none
end
section
variable {H:Type} {enc:TypeId × Value->H} {P:Program} {w:World}
theorem take_drop{cs:List Value}{off m:Nat}{n:Nat}(h:(cs.drop off).length=n+m):cs.drop off=(cs.drop off).take n++cs.drop (off+n)/\(cs.drop (off+n)).length=m:=by
 refine⟨by rw[<- List.drop_drop,List.take_append_drop],by simp at h⊢;omega⟩
theorem opened:∀(n:Nat),
  (∀(t:TypeId) (ss:List Sh) (fuel:Nat) (cs:List Value) (x:DataW H × List MemPlace),shape P n t=some ss->DataW.trod enc P w 0 (fun _=>true) true fuel t cs=some x->cs.length=ss.length/\∃avs,Sh.fitsL ss avs/\RV0s (Has w) w avs cs) /\
  (∀(fs:List Field) (off:Nat) (ss:List Sh) (fuel:Nat) (cs:List Value),shapeF P n off fs=some ss->(cs.drop off).length=ss.length->(∀(i:Nat) (f:Field),fs[i]?=some f->∃x,DataW.trod enc P w 0 (fun _=>true) true fuel f.type ((cs.drop f.offset).take (P.cellsOf f.type))=some x) ->
   ∃avs,Sh.fitsL ss avs/\RV0s (Has w) w avs (cs.drop off))
 |0=>⟨fun t ss fuel cs x h=>by simp[shape]at h,fun fs off ss fuel cs h hl _=>by
   cases fs with
   |nil=>
    simp only[shapeF,Option.some.injEq]at h;subst h
    refine⟨[],by simp[Sh.fitsL],?_⟩
    have:cs.drop off=[]:=List.eq_nil_of_length_eq_zero (by simpa using hl)
    rw[this];simp[RV0s]
   |cons f fs=>simp[shapeF]at h⟩
 |n+1=>by
  have ih:=opened n
  refine⟨fun t ss fuel cs x h hx=>?_,fun fs off ss fuel cs h hl hf=>?_⟩
  ·simp only[shape]at h
   split at h
   ·rename_i ht
    cases h
    obtain⟨b,rfl,_⟩:=DataW.trod_bool ht hx
    exact⟨rfl,[.bool b],by simp[Sh.fitsL,Sh.fits],by simp[RV0s,RV0]⟩
   ·rename_i k ht
    cases h
    obtain⟨b,rfl,_,hw⟩:=DataW.trod_int ht hx
    exact⟨rfl,[.int k b],by simp[Sh.fitsL,Sh.fits,hw],by simp[RV0s,RV0]⟩
   ·rename_i ht
    cases h
    obtain⟨s,rfl,_,hw⟩:=DataW.trod_string ht hx
    exact⟨rfl,[.str s.data.toList],by simp[Sh.fitsL,Sh.fits];exact hw,by simp[RV0s,RV0]⟩
   ·rename_i e ht
    split at h
    ·rename_i s0 s1 hs
     split at h<;>cases h
     rename_i hc
     rcases DataW.trod_slice ht hx with⟨rfl,_⟩|⟨a,len,cap,elems,rest,m,_,rfl,_,_,h1,h2,h3,h4,h5,_⟩
     ·exact⟨rfl,[.isl []],by simp[Sh.fitsL,Sh.fits],by simp[RV0s,RV0]⟩
     ·refine⟨rfl,?_⟩
      by_cases h0:cap=0
      ·subst h0
       have:len=0:=by omega
       subst this
       exact⟨[.isl []],by simp[Sh.fitsL,Sh.fits],by simp[RV0s,RV0]⟩
      ·obtain⟨h5,h6⟩:=h5 rfl
       have hcell:∀j,j<cap->∃cs',w.cells? 0 (a.add (j*P.cellsOf e)) (P.cellsOf e)=some cs'/\∃y,DataW.trod enc P w 0 (fun _=>true) true m e cs'=some y:=by
        intro j hj
        have:∃y,(w.cells? 0 (a.add (j*P.cellsOf e)) (P.cellsOf e)).bind (DataW.trod enc P w 0 (fun _=>true) true m e)=some y:=by
         by_cases hjl:j<len
         ·rw[h4 j hjl];exact⟨elems[j]'(by omega),by simp[List.getElem?_eq_getElem,h3,hjl]⟩
         ·have:=h6 (j-len) (by omega)
          rw[show len+(j-len)=j from by omega]at this
          rw[this];exact⟨rest[j-len]'(by omega),by rw[List.getElem?_eq_getElem]⟩
        obtain⟨y,hy⟩:=this
        obtain⟨cs',h7,h8⟩:=Option.bind_eq_some_iff.1 hy
        exact⟨cs',h7,y,h8⟩
       have hpos:0<P.cellsOf e:=by rw[hc];simp
       obtain⟨cs0,hc0,_⟩:=hcell 0 (by omega)
       obtain⟨_,hl0,hg0⟩:=World.cells?_some hc0
       have hg:=hg0 0 hpos
       rw[List.getElem?_eq_getElem (by omega)]at hg
       have hA:((a.add (0*P.cellsOf e)).add 0)=a:=by simp[Addr.add]
       rw[hA]at hg
       obtain⟨hb,hsp⟩:=Has.of_cell hg
       obtain⟨b,off,sp⟩:=a
       simp only at hsp hb;subst hsp
       obtain⟨rows,hr1,hr2⟩:=list_of (Q:=fun i r=>Sh.fitsL (s0::s1) r/\RV0c (Has w) w b (off+i*P.cellsOf e) r) len (fun i hi=>by
        obtain⟨cs',h7,y,h8⟩:=hcell i (by omega)
        obtain⟨_,avs,h9,h10⟩:=ih.1 _ _ _ _ _ hs h8
        obtain⟨_,hl',hg'⟩:=World.cells?_some h7
        refine⟨avs,h9,RV0c.of_list h10 fun j u hu=>?_⟩
        have hj:j<P.cellsOf e:=by
         have:=(List.getElem?_eq_some_iff.1 hu).1;omega
        have:=hg' j hj
        rw[hu]at this
        simpa[add_off]using this)
       refine⟨[.isl rows],?_,?_⟩
       ·simp only[Sh.fitsL,Sh.fits]
        exact⟨_,_,rfl,⟨rows,rfl,by omega,fun r hr=>by
         obtain⟨i,hi,rfl⟩:=List.getElem_of_mem hr
         exact(hr2 i _ (List.getElem?_eq_getElem hi)).1⟩,rfl⟩
       ·simp only[RV0s,RV0]
        refine⟨_,_,rfl, .inr ⟨P.cellsOf e,b,off,cap,by rw[hr1],by omega,hb,RV0r_of fun i r hr=>?_⟩,rfl⟩
        have:=hr2 i r hr
        exact⟨by rw[Sh.fitsL_len this.1,hc],this.2⟩
    ·cases h
   ·rename_i fs ht
    split at h
    ·rename_i ss' hs
     split at h<;>cases h
     rename_i hc
     obtain⟨xs,m,rfl,_,h1,h2,h3⟩:=DataW.trod_struct ht hx
     refine⟨by omega,?_⟩
     have:=ih.2 fs.toList 0 _ m cs hs (by simp;omega) (fun i f hf=>by
      have hf':fs[i]?=some f:=by simpa using hf
      have:=h3 i f hf'
      rw[this]
      have hi:i<fs.size:=(Array.getElem?_eq_some_iff.1 hf').1
      exact⟨xs[i]'(by omega),List.getElem?_eq_getElem _⟩)
     simpa using this
    ·cases h
   ·cases h
  ·cases fs with
   |nil=>
    simp only[shapeF,Option.some.injEq]at h;subst h
    refine⟨[],by simp[Sh.fitsL],?_⟩
    have:cs.drop off=[]:=List.eq_nil_of_length_eq_zero (by simpa using hl)
    rw[this];simp[RV0s]
   |cons f fs=>
    simp only[shapeF]at h
    split at h
    ·rename_i sa hsa
     split at h
     ·rename_i hoff
      split at h<;>cases h
      rename_i st hst
      obtain⟨x,hx⟩:=hf 0 f rfl
      rw[hoff.1]at hx
      obtain⟨h1,avs,h2,h3⟩:=ih.1 _ _ _ _ _ hsa hx
      obtain⟨e1,e2⟩:=take_drop (n:=sa.length) (m:=st.length) (by simpa using hl)
      obtain⟨bvs,h4,h5⟩:=ih.2 fs _ _ fuel cs hst e2 (fun i g hg=>hf (i+1) g (by simpa using hg))
      refine⟨avs++bvs,Sh.fitsL_append h2 h4,?_⟩
      rw[e1]
      rw[hoff.2]at h3
      exact RV0s_append h3 h5
     ·cases h
    ·cases h
end
open Go.WideShapes Go.ChangeShapes
def argSh(P:Program)(t:TypeId):Option Sh:=
 match P.underlying t with
 |some (.struct _)=>(shape P 40 t).map .agg
 |some (.array _ _)=>none
 |_=>match shape P 40 t with
  |some [s]=>some s
  |_=>none
def argsSh(P:Program):List TypeId->Option (List Sh)
 | []=>some []
 |t::ts=>match argSh P t,argsSh P ts with
  |some s,some ss=>some (s::ss)
  |_,_=>none
section
variable {H:Type} {enc:TypeId × Value->H} {P:Program} {w:World}
theorem open_arg{b0:Nat}{t:TypeId}{v:Value}{d:DataW H}{ps:List MemPlace}{s:Sh}(hs:argSh P t=some s)(hv:Value.okWide P w .any b0 t v)(h:DataW.Trod enc P w 0 (fun _=>true) true t v d ps) :
  ∃av,Sh.fits s av/\RV0 (Has w) w av v:=by
 obtain⟨fuel,hf⟩:=h
 have one:∀ss,shape P 40 t=some ss->(∀cs,v ≠ .agg cs)->ss=[s]->∃av,Sh.fits s av/\RV0 (Has w) w av v:=by
  intro ss h1 h2 h3
  subst h3
  obtain⟨_,avs,h4,h5⟩:=(opened (enc:=enc) (P:=P) (w:=w) 40).1 _ _ _ _ _ h1 hf
  have:v.cells.toList=[v]:=by cases v<;>first|rfl|exact absurd rfl (h2 _)
  rw[this]at h5
  simp only[Sh.fitsL]at h4
  obtain⟨av,_,rfl,h6,rfl⟩:=h4
  simp only[RV0s]at h5
  obtain⟨_,_,h7,h8,h9⟩:=h5
  cases h7
  exact⟨av,h6,h8⟩
 unfold argSh at hs
 split at hs
 ·rename_i fs ht
  obtain⟨cs,rfl,_⟩:=okWide_struct ht hv
  obtain⟨ss,h1,rfl⟩:=Option.map_eq_some_iff.1 hs
  obtain⟨_,avs,h2,h3⟩:=(opened (enc:=enc) (P:=P) (w:=w) 40).1 _ _ _ _ _ h1 hf
  exact⟨.agg avs,by simp only[Sh.fits];exact⟨_,rfl,h2⟩,by simp only[RV0];exact⟨_,rfl,h3⟩⟩
 ·cases hs
 ·rename_i h1 h2
  split at hs
  ·rename_i s' h3
   cases hs
   refine one _ h3 (fun cs e=>?_) rfl
   subst e
   have hv2:Cell.okWide P w .any b0 t (.agg cs):=by
    unfold Value.okWide at hv
    split at hv
    ·rename_i h4;exact absurd h4 (h1 _)
    ·rename_i h4;exact absurd h4 (h2 _ _)
    ·exact hv
   unfold Cell.okWide at hv2
   split at hv2<;>first|(rename_i h5;cases h5)|skip
   unfold Cell.ok at hv2
   split at hv2<;>first|(rename_i h5;cases h5)|exact hv2
  ·cases hs
theorem open_args{b0:Nat}:∀ {ts:List TypeId} {vs:List Value} {ds:List (DataW H)} {ps:List MemPlace} {ss:List Sh},argsSh P ts=some ss->(∀(j:Nat) t v,ts[j]?=some t->vs[j]?=some v->Value.okWide P w .any b0 t v)->DataW.TrodAll enc P w 0 (fun _=>true) true ts vs ds ps ->
  ∃avs,Sh.fitsL ss avs/\RV0s (Has w) w avs vs
 | [],vs,ds,ps,ss,hs,_,h=>by
  simp only[argsSh,Option.some.injEq]at hs;subst hs
  obtain⟨rfl,_,_⟩:=trodAll_nil h
  exact⟨[],by simp[Sh.fitsL],by simp[RV0s]⟩
 |t::ts,vs,ds,ps,ss,hs,hv,h=>by
  simp only[argsSh]at hs
  split at hs<;>cases hs
  rename_i s0 s1 h1 h2
  obtain⟨v,vs,d,ds,p,q,rfl,rfl,rfl,h3,h4⟩:=trodAll_cons h
  obtain⟨av,h5,h6⟩:=open_arg h1 (hv 0 t v rfl rfl) h3
  obtain⟨avs,h7,h8⟩:=open_args h2 (fun j t v ht hv'=>hv (j+1) t v (by simpa using ht) (by simpa using hv')) h4
  exact⟨av::avs,by simp only[Sh.fitsL];exact⟨_,_,rfl,h5,h7⟩,by simp only[RV0s];exact⟨_,_,rfl,h6,h8⟩⟩
theorem shut_args(hl:laidOutB P=true){W W':World}(hb:Below W.heap.size W W'):∀ {ts:List TypeId} {vs:List Value} {ds:List (DataW H)} {ps:List MemPlace},(∀t∈ts,P.readableRec t=true/\t<P.types.size)->DataW.TrodAll enc P W 0 (fun _=>true) true ts vs ds ps->(∀x∈ps,x.block<W.heap.size) ->
  DataW.TrodAll enc P W' 0 (fun b=>decide (b<W.heap.size)) true ts vs ds ps
 | [],vs,ds,ps,_,h,_=>by
  obtain⟨rfl,rfl,rfl⟩:=trodAll_nil h;exact rfl
 |t::ts,vs,ds,ps,hr,h,hlt=>by
  obtain⟨v,vs,d,ds,p,q,rfl,rfl,rfl,h3,h4⟩:=trodAll_cons h
  refine⟨p,q,Below.trod hl (hr t (by simp)).1 (hr t (by simp)).2 h3 hb (fun x hx=>hlt x (by simp[hx])),shut_args hl hb (fun t ht=>hr t (by simp[ht])) h4 (fun x hx=>hlt x (by simp[hx])),rfl⟩
end
theorem lift_true{H:Type}{enc:TypeId × Value->H}{C:Checked}{fn:Func}{f:FuncId}{s:ChangeSpec}{fresh handsOn:Bool}{ss:List Sh}{tb:TypeId}
  (hl:laidOutB C.prog=true) (hvars:s.vars=[]) (hrt:fn.resultTypes = #[tb]) (htb:C.prog.underlying tb=some .bool) (hps:argsSh C.prog fn.params.toList=some ss)
  (hrd:fn.params.toList.all (fun t=>C.prog.readableRec t&&decide (t<C.prog.types.size))=true)
  (hspec:∀ds:List (DataW H),ds.length=fn.params.toList.length->(s.fn H ds).results=[.lit (.bool true)]/\(s.fn H ds).args=ds/\(s.fn H ds).vars=[])
  (hmain:∀avs,Sh.fitsL ss avs->FnA C.prog f avs (· = .bool true)) :
  ∀(W:World) (base:Nat) (args:Array Value) (ds gs:List (DataW H)) (before:List MemPlace),
   (∀(j:Nat) t v,fn.params[j]?=some t->args[j]?=some v->Value.okWide C.prog W .any base t v) ->
   DataW.Whole enc C.prog fn.params.toList s.vars false W args.toList ds gs before ->
   Calls C.prog f args W fun e W'=>∃v,e = .returned v/\s.post enc C.prog fn false fresh handsOn false W args v W':=by
 intro W base args ds gs before hval hW
 have hW':=hW
 obtain⟨p,q,hA,hV,rfl,hfz,hnd⟩:=hW
 rw[hvars]at hV
 obtain⟨rfl,rfl⟩:=trodVars_none hV
 obtain⟨avs,h1,h2⟩:=open_args hps (fun j t v ht hv=>hval j t v (by simpa using ht) (by simpa using hv)) hA
 have hlen:ds.length=fn.params.toList.length:=by
  have:∀ {ts:List TypeId} {vs:List Value} {ds:List (DataW H)} {ps:List MemPlace},DataW.TrodAll enc C.prog W 0 (fun _=>true) true ts vs ds ps->ds.length=ts.length:=by
   intro ts
   induction ts with
   |nil=>intro vs ds ps h;obtain⟨_,rfl,_⟩:=trodAll_nil h;rfl
   |cons t ts ih=>intro vs ds ps h;obtain⟨v,vs,d,ds,p,q,rfl,rfl,rfl,_,h4⟩:=trodAll_cons h;simp[ih h4]
  exact this hA
 have hm:=hmain avs h1
 unfold FnA at hm
 have hm:=hm (Has W) W args.toList (fun _ ⟨_,_,_,h⟩=>.of_cells h) h2
 rw[show args.toList.toArray=args from by simp]at hm
 refine hm.mono fun e W' h=>?_
 obtain⟨v,x,imm',rfl,rfl,hv,hB,_⟩:=h
 simp only[RV0]at hv
 subst hv
 obtain⟨g1,g2,g3⟩:=hspec ds hlen
 refine⟨_,rfl,ds,[],_,[],p,[],hW',?_,?_,?_,hB.frame _,fun h=>by cases h⟩
 ·rw[List.append_nil,g1,hrt]
  exact trodAll_mk1 ⟨1,by simp[DataW.trod,Value.cells,htb]⟩
 ·rw[List.append_nil,g2]
  refine shut_args hl hB (fun t ht=>?_) hA (fun x hx=>hW'.lt x (by simpa using hx))
  have:=List.all_eq_true.1 hrd t ht
  simpa using this
 ·rw[List.append_nil,g3,hvars];exact rfl
end Go.Eng
