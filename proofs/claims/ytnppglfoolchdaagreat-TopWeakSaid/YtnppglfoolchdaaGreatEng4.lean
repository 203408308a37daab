/- The engine of these proofs, part 4 of 4: abstract values and states, the walk of a function's body as a program on them, and why that walk is sound for the model. It speaks of any program. -/
import Derived.Test.YtnppglfoolchdaaGreatEng3
set_option linter.unusedSimpArgs false
set_option linter.unusedVariables false
set_option linter.unusedSectionVars false
namespace Go.Eng
open Go.RowKit
def bindT(tm:(List (Nat × AV))):List Nat->List AV->(List (Nat × AV))
 |p::ps,x::xs=>bindT ((p,x)::tm) ps xs
 |_,_=>tm
def exCode:Ex->Code
 |.ret=>.ret
 |.exit id=>.exit id
 |.normal=>.skip
theorem zip_size:∀(l:List (Tmp × Value)) (t:Array Value),(l.foldl (fun(t:Array Value) (p:Tmp × Value)=>t.setIfInBounds p.1 p.2) t).size=t.size
 | [],t=>rfl
 |(p,v)::l,t=>by simp only[List.foldl_cons];rw[zip_size l];simp
theorem bind_ok{C:Ctx}{N:Nat}:∀(ps:List Nat) (ys:List AV) (xs:List Value) (tm:(List (Nat × AV))) (t:Array Value),ps.length=ys.length->ps.all (fun p=>decide (p<N))=true->t.size=N->RVs C ys xs->(∀d v,look tm d=some v->RV C v (t.getD d undef)) ->
  ∀d v,look (bindT tm ps ys) d=some v->RV C v (((ps.zip xs).foldl (fun(t:Array Value) (p:Tmp × Value)=>t.setIfInBounds p.1 p.2) t).getD d undef)
 | [],ys,xs,tm,t,hl,_,_,hv,h=>by
  cases ys with
  |nil=>simpa[bindT]using h
  |cons _ _=>cases hl
 |p::ps,[],xs,tm,t,hl,_,_,_,_=>by cases hl
 |p::ps,y::ys,xs,tm,t,hl,ha,ht,hv,h=>by
  simp only[RVs]at hv
  obtain⟨x,xs',rfl,h1,h2⟩:=hv
  simp only[List.all_cons,Bool.and_eq_true,decide_eq_true_eq]at ha
  simp only[bindT,List.zip_cons_cons,List.foldl_cons]
  refine bind_ok ps ys xs' _ _ (by simpa using hl) ha.2 (by simpa using ht) h2 fun d v hd=>?_
  simp only[look]at hd
  split at hd
  ·rename_i e;subst e;cases hd
   have:(t.setIfInBounds p x).getD p undef=x:=by
    simp only[Array.getD_eq_getD_getElem?,Array.getElem?_setIfInBounds,ht,ha.1,if_true,Option.getD_some]
   rw[this];exact h1
  ·rename_i e
   have:(t.setIfInBounds p x).getD d undef=t.getD d undef:=by
    simp only[Array.getD_eq_getD_getElem?,Array.getElem?_setIfInBounds,if_neg e]
   rw[this];exact h d v hd
def rndE(p:List Nat)(J:List Res->Nat->Bool->Prop)(Jx:Ex->List Res->Nat->Bool->Prop):Ex->St->Prop
 |.normal,s=>∃sg gk gst,MeetsE s ⟨[],sg,⟨p,gk,gst⟩⟩/\J sg gk gst
 |e,s=>∃sg gk gst,MeetsE s ⟨[],sg,⟨p,gk,gst⟩⟩/\Jx e sg gk gst
def assT(K:St->Prop):Ex->St->Prop
 |.normal,s=>K s
 |_,_=>False
def RJ(X':Sess)(C1:Ctx)(a1:Act)(tm1:(List (Nat × AV)))(p:List Nat)(l:Nat)(fn:FuncId)(pst:Array Tmp)(as bd:Code)(J:Nat->List Res->Nat->Bool->Prop)(Jx:Ex->List Res->Nat->Bool->Prop)
  (k:Nat) (st:Bool) (S:Wt) (w:World):Prop:=
 ∃(C:Ctx) (sg:List Res) (gk:Nat) (gst:Bool) (r:Loop),C.w=w/\Rel X' C ⟨tm1,sg,⟨p,gk,gst⟩⟩ a1/\((∀b,S.s b<->(¬S.h b/\(C.T b\/C.l.S.s b)))/\∀b,S.h b->C.imm b/\C.T b)/\(∀b,C1.T b->C.T b)/\Pers C1.imm C.imm C1.w w /\
  w.heap[l]?=some (.loop r)/\r.fn=fn/\r.tmps=a1.tmps/\r.params=pst/\r.assign=as/\r.body=bd /\
  ((st=false/\r.state = .ready/\r.pending=none/\J k sg gk gst)\/(st=true/\r.state = .done/\∃e,e ≠ .normal/\r.pending=some (exCode e)/\Jx e sg gk gst))
theorem rv_base{C1:Ctx}{p:List Nat}{v:AV}{x:Value}(h:RV C1 v x)(hp:v.refsIn (fun i=>memN p i)=true):v.refsIn (fun i=>memN p i&&(C1.rho i).isSome)=true:=
 AV.keep_has fun i hi=>by
  have h1:=AV.has_keep hp hi
  cases hr:C1.rho i with
  |some o=>simpa using h1
  |none=>
   have:=RV.unbound hr v x h
   simp[AV.has,this]at hi
def refsLt(p:List Nat):(List (Nat × AV))->Bool
 | []=>true
 |(_,v)::r=>(v.refsIn fun i=>memN p i)&&refsLt p r
theorem refsLt_get{p:List Nat}:∀ {tm:(List (Nat × AV))} {d:Nat} {v:AV},refsLt p tm=true->look tm d=some v->v.refsIn (fun i=>memN p i)=true
 | [],_,_,_,h=>by simp[look]at h
 |(i,u)::tm,d,v,h,hl=>by
  simp only[refsLt,Bool.and_eq_true]at h
  simp only[look]at hl
  split at hl
  ·cases hl;exact h.1
  ·exact refsLt_get h.2 hl
section
variable {X:Sess} {E:Env} {C1:Ctx} {a1:Act} {tm1:(List (Nat × AV))} {p:List Nat} {l:Nat} {fn:FuncId} {pst:Array Tmp} {as bd:Code} {J:Nat->List Res->Nat->Bool->Prop} {Jx:Ex->List Res->Nat->Bool->Prop}
def btwX(X:Sess)(C1:Ctx):Sess:={ X with imm0:=C1.imm,pin:=C1.rho }
def btwP(X:Sess)(C1:Ctx)(pin:Nat->Option Own):Sess:={ X with imm0:=C1.imm,pin:=pin }
theorem RJ.reach(hX:SessOk X E)(himm:∀b,C1.imm b->Mem C1.w b)(hlo:X.lo<=C1.w.heap.size)(hl:C1.T l){k:Nat}{st:Bool}{S:Wt}{w w2:World}
  (h:RJ (btwX X C1) C1 a1 tm1 p l fn pst as bd J Jx k st S w) (hr:Reach C1.w.heap.size (fun b=>S.s b\/S.h b) w w2):RJ (btwX X C1) C1 a1 tm1 p l fn pst as bd J Jx k st S w2:=by
 obtain⟨C,sg,gk,gst,r,rfl,h1,h2,h3,h4,h5,h6⟩:=h
 have hTS:∀b,C.T b->S.s b\/S.h b:=fun b hb=>by
  by_cases hh:S.h b
  ·exact .inr hh
  ·exact .inl ((h2.1 b).2 ⟨hh, .inl hb⟩)
 have hT:∀b,C.T b->w2.heap[b]?=C.w.heap[b]?:=fun b hb=>hr.same b (h1.T b hb) (.inr (hTS b hb))
 have hI:∀b,C.imm b->w2.heap[b]?=C.w.heap[b]?:=fun b hb=>by
  obtain⟨hq,hh⟩:=h1.imm b hb
  rcases hq with hq|hq
  ·exact hr.same b hh.lt (.inl (himm b hq).lt)
  ·exact hT b hq
 have hsame:∀b,Mem C.w b->(C.T b\/C.imm b)->w2.heap[b]?=C.w.heap[b]?:=fun b _ hb=>hb.elim (hT b) (hI b)
 refine⟨⟨C.imm,C.T,C.rho,w2,C.l⟩,sg,gk,gst,r,rfl,h1.move w2 hsame hr.size h1.size (h1.later_tm hsame) (fun b hb=>(h1.imm b hb).1) h1.imm0 ?_ ?_ (fun l' hl'=>?_) h1.pin,h2,h3,fun b hb=>⟨(h4 b hb).1,(hI b (h4 b hb).1).trans (h4 b hb).2⟩,(hT l (h3 l hl)).trans h5,h6⟩
 ·refine hX.kreach _ _ _ _ _ _ h1.keep h1.T (hr.mono' hlo fun b hb=>?_)
  rcases hb with hb|hb|hb
  ·exact .inl (hTS b hb)
  ·left
   by_cases hh:S.h b
   ·exact .inr hh
   ·exact .inl ((h2.1 b).2 ⟨hh, .inr hb⟩)
  ·rcases(h1.imm b (h1.pin.2.2 b hb)).1 with q|q
   ·exact .inr (himm b q).lt
   ·exact .inl (hTS b q)
 ·obtain⟨ds,d1,d2,d3⟩:=h1.marks
  exact⟨ds,d1,d2,fun D hD=>⟨(d3 D hD).1,(hT D (d3 D hD).1).trans (d3 D hD).2⟩⟩
 ·obtain⟨q1,r',q2⟩:=h1.round l' hl'
  exact⟨q1,r',(hT l' q1).trans q2⟩
theorem RJ.take(hX:SessOk X E)(hlo:X.lo<=C1.w.heap.size){k:Nat}{st:Bool}{S:Wt}{w:World}{Q:Nat->Prop}
  (h:RJ (btwX X C1) C1 a1 tm1 p l fn pst as bd J Jx k st S w) (hQ:∀b,Q b->(C1.imm b\/(C1.w.heap.size<=b/\¬S.s b))/\Mem w b) :
  ∃(C:Ctx) (sg:List Res) (gk:Nat) (gst:Bool) (r:Loop),C.w=w/\Rel (btwX X C1) C ⟨tm1,sg,⟨p,gk,gst⟩⟩ a1/\(∀b,S.s b<->(¬(S.h b\/(Q b/\¬C1.imm b))/\(C.T b\/C.l.S.s b)))/\(∀b,(S.h b\/(Q b/\¬C1.imm b))->C.imm b/\C.T b)/\(∀b,Q b->C.imm b)/\(∀b,C1.T b->C.T b)/\Pers C1.imm C.imm C1.w w /\
  w.heap[l]?=some (.loop r)/\r.fn=fn/\r.tmps=a1.tmps/\r.params=pst/\r.assign=as/\r.body=bd /\
  ((st=false/\r.state = .ready/\r.pending=none/\J k sg gk gst)\/(st=true/\r.state = .done/\∃e,e ≠ .normal/\r.pending=some (exCode e)/\Jx e sg gk gst)):=by
 obtain⟨C,sg,gk,gst,r,rfl,h1,h2,h3,h4,h5⟩:=h
 have hl:Later (fun _=>true) C ⟨fun b=>C.imm b\/Q b,fun b=>C.T b\/(Q b/\¬C1.imm b),C.rho,C.w,C.l⟩:=⟨fun b hb=>⟨.inl hb,rfl⟩,fun _ _=>rfl,rfl⟩
 have hq1:∀b,Q b->¬C1.imm b->C1.w.heap.size<=b/\¬S.s b:=fun b hb hn=>(hQ b hb).1.resolve_left hn
 have hnotQ:∀b,C.T b->¬C.imm b->¬Q b:=fun b hT hi hq=>by
  rcases(hQ b hq).1 with q|⟨_,q⟩
  ·exact hi (h4 b q).1
  ·exact q ((h2.1 b).2 ⟨fun hh=>hi (h2.2 b hh).1, .inl hT⟩)
 refine⟨⟨fun b=>C.imm b\/Q b,fun b=>C.T b\/(Q b/\¬C1.imm b),C.rho,C.w,C.l⟩,sg,gk,gst,r,rfl,?_,fun b=>⟨fun hs=>?_,fun⟨hn,hs⟩=>?_⟩,fun b hb=>?_,fun b hb=>.inr hb,fun b hb=>.inl (h3 b hb),fun b hb=>⟨.inl (h4 b hb).1,(h4 b hb).2⟩,h5⟩
 ·refine⟨h1.size,fun d v hd=>RV.later hl v _ (AV.refsIn_all (fun _=>rfl) v) (h1.tm d v hd),fun j=>?_,h1.dis,fun b hb=>?_,fun b hb=>.inl (h1.imm0 b hb),fun b hb=>?_,hX.kadd _ _ _ _ _ _ h1.keep fun b hb=>?_,?_,fun l' hl'=>?_,⟨h1.pin.1,h1.pin.2.1,fun b hb=>.inl (h1.pin.2.2 b hb)⟩⟩
  ·have hs:=h1.sg j
   have hown:∀b,(Res.blk (sg.getD j .fresh) (C.rho j))=some b->C.T b:=fun b hb=>(Res.blk_lt hs hb).1
   show ResOk _ (sg.getD j .fresh) (C.rho j)
   have hs':ResOk C (sg.getD j .fresh) (C.rho j):=hs
   generalize sg.getD j .fresh=rr at hs' hown⊢
   generalize C.rho j=o at hs' hown⊢
   cases rr with
   |fresh=>exact hs'
   |dead=>exact hs'
   |box ice cs=>
    obtain⟨b,vs,el,rfl,g1,g2,g3,g4,g5⟩:=hs'
    exact⟨b,vs,el,rfl, .inl g1,g2,RVs.later hl _ _ (AV.refsInL_all (fun _=>rfl) _) g3,fun e=>⟨.inl (g4 e).1,RV0s.mono hl.pers _ _ (g4 e).2⟩,fun e hh=>hh.elim (g5 e) (hnotQ b g1 (g5 e))⟩
   |row ice el sz es=>
    obtain⟨b,v,xs,rfl,g1,g2,g3,g4⟩:=hs'
    refine⟨b,v,xs,rfl,g1,RV0s.mono hl.pers _ _ g2,g3,fun b' e=>?_⟩
    obtain⟨q1,q2,q3,q4⟩:=g4 b' e
    exact⟨q1, .inl q2,fun e=>.inl (q3 e),fun e hh=>hh.elim (q4 e) (hnotQ b q2 (q4 e))⟩
   |mp ice ks us=>
    obtain⟨b,es,nB,rfl,g1,g2,g3,g4,g5,g6,g7⟩:=hs'
    exact⟨b,es,nB,rfl, .inl g1,g2,g3,RV0s.mono hl.pers _ _ g4,RV0s.mono hl.pers _ _ g5,fun e=>.inl (g6 e),fun e hh=>hh.elim (g7 e) (hnotQ b g1 (g7 e))⟩
   |mpo ks us=>
    obtain⟨b,es,nB,rfl,g1,g2,g3,g4,g5,g6⟩:=hs'
    exact⟨b,es,nB,rfl, .inl g1,g2,g3,RV0s.mono hl.pers _ _ g4,RVs.later hl _ _ (AV.refsInL_all (fun _=>rfl) _) g5,fun hh=>hh.elim g6 (hnotQ b g1 g6)⟩
   |itr ks us seen last=>
    obtain⟨b,m,nI,mI,rfl,g1,g2,g3,g4,g5⟩:=hs'
    exact⟨b,m,nI,mI,rfl, .inl g1,fun hh=>hh.elim g2 (hnotQ b g1 g2),g3,g4.mono hl.pers,g5⟩
   |sit f pos=>
    obtain⟨b,rfl,g1,g2,g3⟩:=hs'
    exact⟨b,rfl, .inl g1,fun hh=>hh.elim g2 (hnotQ b g1 g2),g3⟩
   |mpb ks us bn n=>
    obtain⟨b,es,rfl,g1,g2,g3,gb,g4,g5,g6⟩:=hs'
    exact⟨b,es,rfl, .inl g1,g2,g3,gb,RV0s.mono hl.pers _ _ g4,RV0s.mono hl.pers _ _ g5,fun hh=>hh.elim g6 (hnotQ b g1 g6)⟩
   |itd c n mem=>
    obtain⟨b,m,rfl,g1,g2,g3,g4⟩:=hs'
    exact⟨b,m,rfl, .inl g1,fun hh=>hh.elim g2 (hnotQ b g1 g2),g3,RVs.later hl _ _ (AV.refsInL_all (fun _=>rfl) _) g4⟩
  ·rcases hb with hb|hb
   ·exact⟨(h1.imm b hb).1.imp id .inl,(h1.imm b hb).2⟩
   ·refine⟨?_,(hQ b hb).2⟩
    by_cases hc:C1.imm b
    ·exact .inl hc
    ·exact .inr (.inr ⟨hb,hc⟩)
  ·rcases hb with hb|hb
   ·exact h1.T b hb
   ·exact(hQ b hb.1).2.lt
  ·obtain⟨q1,q2⟩:=hq1 b hb.1 hb.2
   refine⟨Nat.le_trans hlo q1,(hQ b hb.1).2.lt,fun hs=>q2 ((h2.1 b).2 ⟨fun hh=>?_, .inr hs⟩)⟩
   exact((hX.kS _ _ _ _ _ h1.keep).1 b hs).2 (h2.2 b hh).2
  ·obtain⟨ds,d1,d2,d3⟩:=h1.marks
   exact⟨ds,d1,d2,fun D hD=>⟨.inl (d3 D hD).1,(d3 D hD).2⟩⟩
  ·obtain⟨q1,r',q2⟩:=h1.round l' hl'
   exact⟨.inl q1,r',q2⟩
 ·obtain⟨q1,q2⟩:=(h2.1 b).1 hs
  exact⟨fun hh=>hh.elim q1 fun hq=>(hq1 b hq.1 hq.2).2 hs,q2.imp .inl id⟩
 ·refine(h2.1 b).2 ⟨fun hh=>hn (.inl hh),?_⟩
  rcases hs with(hs|hs)|hs
  ·exact .inl hs
  ·exact absurd (.inr hs) hn
  ·exact .inr hs
 ·rcases hb with hb|hb
  ·exact⟨.inl (h2.2 b hb).1, .inl (h2.2 b hb).2⟩
  ·exact⟨.inr hb.1, .inr hb⟩
end
section
variable {X:Sess} {E:Env} {C1:Ctx} {a1:Act} {tm1:(List (Nat × AV))} {p:List Nat} {l:Nat} {fn:FuncId} {pst:Array Tmp} {as bd:Code} {J:Nat->List Res->Nat->Bool->Prop} {Jx:Ex->List Res->Nat->Bool->Prop}
theorem round_back(hX:SessOk X E)(hlo:X.lo<=l)(hl:C1.T l)(hbl:C1.l.l=X.l)(hbase:∀d v,look tm1 d=some v->RV C1 v (a1.tmps.getD d undef))(hlt:refsLt p tm1=true)
  {pin:Nat->Option Own} (hpin:∀i o,C1.rho i=some o->pin i=some o) {C:Ctx} {sg:List Res} {gk:Nat} {gst:Bool} {r:Loop} {S:Wt} {H Q:Nat->Prop} (h1:Rel (btwP X C1 pin) C ⟨tm1,sg,⟨p,gk,gst⟩⟩ a1) (h2:∀b,S.s b<->(¬H b/\(C.T b\/C.l.S.s b))) (hH:∀b,H b->C.imm b/\C.T b) (hS1:∀b,S.h b->H b) (hS2:∀b,H b->S.h b\/Q b) (h3:∀b,C1.T b->C.T b) (h4:Pers C1.imm C.imm C1.w C.w)
  (h5:C.w.heap[l]?=some (.loop r)) {C3:Ctx} {s3:St} {a3:Act} (hr3:Rel (rndX X C l r pin .busy) C3 s3 a3) {sg4:List Res} {gk4:Nat} {gst4:Bool} (hm:MeetsE s3 ⟨[],sg4,⟨p,gk4,gst4⟩⟩) (q':LoopState) (jump:Option Code) :
  ∃C5,C5.w=C3.w.putObj l (.loop { r with state:=q',pending:=jump })/\Rel (btwP X C1 pin) C5 ⟨tm1,sg4,⟨p,gk4,gst4⟩⟩ a1/\(∀b,C1.T b->C5.T b)/\Pers C1.imm C5.imm C1.w C5.w /\
   C5.w.heap[l]?=some (.loop { r with state:=q',pending:=jump })/\(∀b,H b->C5.imm b/\C5.T b)/\StepR C1.imm Q S ⟨fun b=>¬H b/\(C5.T b\/C5.l.S.s b),H⟩ C.w C5.w:=by
 obtain⟨π,nl,hm⟩:=hm
 obtain⟨rho',hr4⟩:=hr3.meets hm
 have hmid:Mid C l r .busy C3.T C3.l.S C3.w:=hr4.keep.2
 have hkeep:X.Keep C3.T C3.l.S gk4 gst4 C3.w:=hr4.keep.1
 have hlC:C.T l:=h3 l hl
 have hsz:C3.w.heap.size=(C3.w.putObj l (.loop { r with state:=q',pending:=jump })).heap.size:=by rw[size_putObj]
 have hl3:C3.T l:=hmid.sub l hlC
 have hloop:C3.w.heap[l]?=some (.loop { r with state:=.busy }):=hmid.rcd
 have hput:∀b,b≠l->(C3.w.putObj l (.loop { r with state:=q',pending:=jump })).heap[b]?=C3.w.heap[b]?:=fun b hb=>World.putObj_heap_other hb
 have hsame:∀b,Mem C3.w b->(C3.T b\/C3.imm b)->(C3.w.putObj l (.loop { r with state:=q',pending:=jump })).heap[b]?=C3.w.heap[b]?:=fun b hc _=>hput b fun e=>by
  obtain⟨o,hc,ho⟩:=hc
  rw[e,hloop]at hc;cases hc;cases ho
 have hci:∀b,C.imm b->C3.imm b:=hr4.imm0
 have hpers:Pers C1.imm C3.imm C1.w (C3.w.putObj l (.loop { r with state:=q',pending:=jump })):=fun b hb=>by
  obtain⟨k1,k2⟩:=h4 b hb
  obtain⟨o,hh,hho⟩:=(h1.imm b k1).2
  have hne:b≠l:=fun e=>by rw[e,h5]at hh;cases hh;cases hho
  exact⟨hci b k1,(hput b hne).trans ((hmid.same b (Array.getElem?_eq_some_iff.1 hh).1 hne (.inl k1)).trans k2)⟩
 have hnS:∀b,C.T b->¬C.l.S.s b:=fun b hb hS=>((hX.kS _ _ _ _ _ h1.keep).1 b hS).2 hb
 have hnl:¬C3.l.S.h l:=fun hh=>by
  obtain⟨o,q1,q2⟩:=(hr4.imm l (hr4.pin.2.2 l hh)).2
  have q1':C3.w.heap[l]?=some o:=q1
  rw[hloop]at q1';cases q1';cases q2
 have hHl:¬H l:=fun hh=>by
  obtain⟨o,q1,q2⟩:=(h1.imm l (hH l hh).1).2
  rw[h5]at q1;cases q1;cases q2
 have hold:∀b o,C.w.heap[b]?=some o->C.T b->b≠l->isMem o=false->(C3.w.putObj l (.loop { r with state:=q',pending:=jump })).heap[b]?=some o:=fun b o ho hT hne hc=>
  (hput b hne).trans ((hmid.same b (Array.getElem?_eq_some_iff.1 ho).1 hne (.inr ⟨hnS b hT, .inr fun⟨o',e,he⟩=>by rw[ho]at e;cases e;rw[hc]at he;cases he⟩)).trans ho)
 refine⟨⟨C3.imm,C3.T,rho',C3.w.putObj l (.loop { r with state:=q',pending:=jump }),C3.l⟩,rfl,?_,fun b hb=>hmid.sub b (h3 b hb),hpers,World.putObj_heap_same (Array.getElem?_eq_some_iff.1 hloop).1,fun b hb=>⟨hci b (hH b hb).1,hmid.sub b (hH b hb).2⟩,?_⟩
 ·refine hr4.move (Y:=btwP X C1 pin) (a':=a1) _ hsame (by rw[size_putObj];exact Nat.le_refl _) h1.size (fun d v hv=>?_) (fun b hb=>?_) (fun b hb=>hci b (h1.imm0 b hb)) ?_ ?_ (fun l' hl'=>?_) ⟨fun i o hi ho=>?_,?_⟩
  ·have hb:=hbase d v hv
   refine RV.later (C:=C1) (keep:=fun i=>memN p i&&(C1.rho i).isSome) ⟨hpers,fun i hi=>?_,?_⟩ v _ (rv_base hb (refsLt_get hlt hv)) hb
   ·simp only[Bool.and_eq_true,decide_eq_true_eq]at hi
    obtain⟨o,ho⟩:=Option.isSome_iff_exists.1 hi.2
    rw[ho]
    exact hr4.pin.1 i o (memN_iff.1 hi.1) (hpin i o ho)
   ·have e1:C3.l.l=X.l:=hr4.pin.2.1
    have e2:C.l.l=X.l:=h1.pin.2.1
    show C3.l.l=C1.l.l
    rw[e1]
    exact hbl.symm
  ·rcases(hr4.imm b hb).1 with k|k
   ·rcases(h1.imm b k).1 with k|k
    ·exact .inl k
    ·exact .inr (hmid.sub b k)
   ·exact .inr k
  ·exact hX.kobj _ _ _ _ _ _ _ _ hkeep hl3 hlo hnl hloop
  ·obtain⟨ds,d1,d2,d3⟩:=h1.marks
   refine⟨ds,d1,d2,fun D hD=>⟨hmid.sub D (d3 D hD).1,hold D _ (d3 D hD).2 (d3 D hD).1 (fun e=>?_) rfl⟩⟩
   have:=(d3 D hD).2
   rw[e,h5]at this;cases this
  ·obtain⟨k1,r',k2⟩:=h1.round l' hl'
   refine⟨hmid.sub l' k1,?_⟩
   by_cases e:l'=l
   ·subst e;exact⟨_,World.putObj_heap_same (Array.getElem?_eq_some_iff.1 hloop).1⟩
   ·exact⟨r',hold l' _ k2 k1 e rfl⟩
  ·exact hr4.pin.1 i o hi ho
  ·exact hr4.pin.2
 ·refine⟨hmid.os,hmid.tape,hmid.output,by rw[size_putObj];exact hmid.size,fun b hb hs=>?_,fun b hb=>?_,fun b hb=>?_,hS1,hS2⟩
  ·have hne:b≠l:=fun e=>by
    subst e
    rcases hs with hs|hs
    ·obtain⟨k1,_⟩:=h4 b hs
     obtain⟨o,hh,ho⟩:=(h1.imm b k1).2
     rw[h5]at hh;cases hh;cases ho
    ·exact hs ((h2 b).2 ⟨hHl, .inl hlC⟩)
   refine(hput b hne).trans (hmid.same b hb hne ?_)
   rcases hs with hs|hs
   ·exact .inl (h4 b hs).1
   ·by_cases hh:H b
    ·exact .inl (hH b hh).1
    ·exact .inr ⟨fun k=>hs ((h2 b).2 ⟨hh, .inr k⟩), .inl fun k=>hs ((h2 b).2 ⟨hh, .inl k⟩)⟩
  ·obtain⟨k0,k⟩:=(h2 b).1 hb
   exact⟨k0,k.imp (hmid.sub b) (hmid.subS b)⟩
  ·obtain⟨k0,k⟩:=hb
   rcases k with k|k
   ·exact(hmid.new b k).imp (fun k=>(h2 b).2 ⟨k0, .inl k⟩) id
   ·exact(hmid.newS b k).imp (fun k=>(h2 b).2 ⟨k0, .inr k⟩) id
end
section
variable {X:Sess} {E:Env} {C1:Ctx} {a1:Act} {tm1:(List (Nat × AV))} {p:List Nat} {l:Nat} {fn:FuncId} {pst:Array Tmp} {as bd:Code} {J:Nat->List Res->Nat->Bool->Prop} {Jx:Ex->List Res->Nat->Bool->Prop}
theorem RJ.yield(hX:SessOk X E)(hlo:X.lo<=l)(hlo1:X.lo<=C1.w.heap.size)(hl:C1.T l)(hbl:C1.l.l=X.l)(hi0:∀b,X.imm0 b->C1.imm b)(hi1:∀b,C1.imm b->X.imm0 b\/C1.T b)(hbase:∀d v,look tm1 d=some v->RV C1 v (a1.tmps.getD d undef))(hlt:refsLt p tm1=true)
  {nx:Nat->List AV->Nat->Prop} {x y:CI} {nm n1 n2:Nat} (hc1:compC E.P E.N nm as=some (x,n1)) (hc2:compC E.P E.N n1 bd=some (y,n2)) (hps:pst.toList.all (fun t=>decide (t<E.N))=true)
  (hr:∀k v k' sg gk gst,nx k v k'->J k sg gk gst->pst.toList.length=v.length /\
   GoC E x (assT fun s'=>GoC E y (rndE p (J k') Jx) s') ⟨bindT tm1 pst.toList v,sg,⟨p,gk,gst⟩⟩)
  {k k':Nat} {S:Wt} {w:World} {v:List AV} {xs:List Value} {Q:Nat->Prop} (h:RJ (btwX X C1) C1 a1 tm1 p l fn pst as bd J Jx k false S w) (hQ:∀b,Q b->(C1.imm b\/(C1.w.heap.size<=b/\¬S.s b))/\Mem w b) (hy:nx k v k') (hxs:RV0s Q w v xs) :
  YieldAt Fence.wide 4 X.P l xs.toArray w fun e w2=>∃b S',e = .returned (.bool b)/\RJ (btwX X C1) C1 a1 tm1 p l fn pst as bd J Jx k' (!b) S' w2/\StepR C1.imm Q S S' w w2:=by
 obtain⟨C,sg,gk,gst,r,rfl,h1,h2,hH,hQi,h3,h4,h5,e1,e2,e3,e4,e5,h6⟩:=h.take hX hlo1 hQ
 rcases h6 with⟨_,hrd,hpe,hJ⟩|⟨hh,_⟩
 rotate_left
 ·cases hh
 obtain⟨hlen,hgo⟩:=hr k v k' sg gk gst hy hJ
 have hxl:xs.length=v.length:=hxs.length
 have hll:l<C.w.heap.size:=(Array.getElem?_eq_some_iff.1 h5).1
 have hlC:C.T l:=h3 l hl
 have hlow:X.lo<=C.w.heap.size:=by omega
 refine⟨_,_,_,_,run_yield (P:=X.P) (args:=xs.toArray) h5 (by rw[e3];simp[hxl,<- hlen]),?_⟩
 rw[e1,e4,e5,e3]
 refine roundIn_of_wpIn (F:=Fence.wide) (n:=4) trivial ?_
 have hci:∀b,C.imm b->X.imm0 b\/C.T b:=fun b hb=>by
  rcases(h1.imm b hb).1 with q|q
  ·exact(hi1 b q).imp id (h3 b)
  ·exact .inr q
 have hc0:∀b,X.imm0 b->C.imm b:=fun b hb=>h1.imm0 b (hi0 b hb)
 have hok:∀q,SessOk (rndX X C l r C1.rho q) E:=fun q=>rndX_ok hX hlC hll hlow hci hc0 h1.T
 have hst:r={ r with state:=.ready }:=by cases r;simp_all
 have hmid0:Mid C l r .ready C.T C.l.S C.w:=⟨rfl,rfl,rfl,Nat.le_refl _,fun _ _ _ _=>rfl,by rw[h5,<- hst],fun _ h=>h,fun _ h=>.inl h,fun _ h=>h,fun _ h=>.inl h⟩
 have hrvs:RVs C v xs:=by
  have:RV0s C.imm C.w v xs:=RV0s.mono (imm:=Q) (imm':=C.imm) (fun b hb=>⟨hQi b hb,rfl⟩) _ _ hxs
  exact RV0s.rv _ _ this
 have harr:(pst.zip xs.toArray).foldl (fun(tmps:Array Value) (t,a)=>tmps.setIfInBounds t a) r.tmps=(pst.toList.zip xs).foldl (fun(t:Array Value) (p:Tmp × Value)=>t.setIfInBounds p.1 p.2) a1.tmps:=by
  rw[e2,<- Array.foldl_toList,Array.toList_zip]
 have hsz1:a1.tmps.size=X.N:=h1.size
 have hrel0:Rel (rndX X C l r C1.rho .ready) C ⟨bindT tm1 pst.toList v,sg,⟨p,gk,gst⟩⟩ { tmps:=(pst.zip xs.toArray).foldl (fun(tmps:Array Value) (t,a)=>tmps.setIfInBounds t a) r.tmps,defers:=[] }:=by
  refine h1.move (Y:=rndX X C l r C1.rho .ready) C.w (fun _ _ _=>rfl) (Nat.le_refl _) ?_ (fun d u hu=>?_) (fun b hb=>.inl hb) (fun b hb=>hb) ⟨h1.keep,hmid0⟩ ⟨[],rfl,List.nodup_nil,fun D hD=>by cases hD⟩ (fun l' hl'=>?_) ⟨h1.pin.1,h1.pin.2⟩
  ·show Array.size ((pst.zip xs.toArray).foldl (fun(tmps:Array Value) (t,a)=>tmps.setIfInBounds t a) r.tmps)=X.N
   rw[harr,zip_size,hsz1]
  ·show RV C u (((pst.zip xs.toArray).foldl (fun(tmps:Array Value) (t,a)=>tmps.setIfInBounds t a) r.tmps).getD d undef)
   rw[harr]
   exact bind_ok (N:=X.N) pst.toList v xs tm1 a1.tmps hlen (by rw[hX.N];exact hps) hsz1 hrvs h1.tm d u hu
  ·simp only[rndX,Fence.inRound,Option.some.injEq]at hl'
   subst hl'
   exact⟨hlC,r,h5⟩
 refine wpIn_mono (hgo _ (hok .ready) as nm n1 hc1 C _ hrel0) fun e a2 w2 hq=>?_
 cases e with
 |normal=>
  obtain⟨C2,s2,rfl,hr2,hg2⟩:=hq
  have hm2:Mid C l r .ready C2.T C2.l.S C2.w:=hr2.keep.2
  have hl2:C2.w.heap[l]?=some (.loop { r with state:=.ready }):=hm2.rcd
  refine⟨_,run_beginRound hl2 rfl,?_⟩
  obtain⟨tm2,sg2,gh2⟩:=s2
  have hlt2:l<C2.w.heap.size:=(Array.getElem?_eq_some_iff.1 hl2).1
  have hput:∀b,b≠l->(C2.w.putObj l (.loop { r with state:=.busy })).heap[b]?=C2.w.heap[b]?:=fun b hb=>World.putObj_heap_other hb
  have hsame:∀b,Mem C2.w b->(C2.T b\/C2.imm b)->(C2.w.putObj l (.loop { r with state:=.busy })).heap[b]?=C2.w.heap[b]?:=fun b hcl _=>hput b fun e=>by
   obtain⟨o,hcl,ho⟩:=hcl
   rw[e,hl2]at hcl;cases hcl;cases ho
  have hrel2:Rel (rndX X C l r C1.rho .busy) ⟨C2.imm,C2.T,C2.rho,C2.w.putObj l (.loop { r with state:=.busy }),C2.l⟩ ⟨tm2,sg2,gh2⟩ a2:=by
   refine hr2.move (Y:=rndX X C l r C1.rho .busy) _ hsame (by rw[size_putObj];exact Nat.le_refl _) hr2.size (hr2.later_tm hsame) (fun b hb=>(hr2.imm b hb).1) hr2.imm0 ⟨?_,?_⟩ ?_ (fun l' hl'=>?_) hr2.pin
   ·exact hX.kobj _ _ _ _ _ _ _ _ hr2.keep.1 (hm2.sub l hlC) hlo (fun hh=>by
     obtain⟨o,q1,q2⟩:=(hr2.imm l (hr2.pin.2.2 l hh)).2
     rw[hl2]at q1;cases q1;cases q2) hl2
   ·exact⟨hm2.os,hm2.tape,hm2.output,by rw[size_putObj];exact hm2.size,fun b hb hne hh=>(hput b hne).trans (hm2.same b hb hne hh),World.putObj_heap_same hlt2,hm2.sub,hm2.new,hm2.subS,hm2.newS⟩
   ·obtain⟨ds,d1,d2,d3⟩:=hr2.marks
    refine⟨ds,d1,d2,fun D hD=>⟨(d3 D hD).1,(hput D fun e=>?_).trans (d3 D hD).2⟩⟩
    have:=(d3 D hD).2
    rw[e,hl2]at this;cases this
   ·simp only[rndX,Fence.inRound,Option.some.injEq]at hl'
    subst hl'
    exact⟨hm2.sub _ hlC,_,World.putObj_heap_same hlt2⟩
  refine wpIn_mono (hg2 _ (hok .busy) bd n1 n2 hc2 _ _ hrel2) fun e a3 w3 hq=>?_
  have fin:∀(C3:Ctx) (s3:St),C3.w=w3->Rel (rndX X C l r C1.rho .busy) C3 s3 a3->∀(jump:Option Code) (b:Bool) (sg4:List Res) (gk4:Nat) (gst4:Bool),b=jump.isNone->MeetsE s3 ⟨[],sg4,⟨p,gk4,gst4⟩⟩ ->
    ((jump=none/\J k' sg4 gk4 gst4)\/∃e,e ≠ .normal/\jump=some (exCode e)/\Jx e sg4 gk4 gst4) ->
    ∃u w',(Instr.endRound l jump).run X.P w3 = .ok u w'/\∃b S',Ending.returned u = .returned (.bool b)/\RJ (btwX X C1) C1 a1 tm1 p l fn pst as bd J Jx k' (!b) S' w'/\StepR C1.imm Q S S' C.w w':=fun C3 s3 hw hr3 jump b sg4 gk4 gst4 hb hm hjj=>by
   subst hw
   have hl3:C3.w.heap[l]?=some (.loop { r with state:=.busy }):=hr3.keep.2.rcd
   obtain⟨C5,q1,q2,q3,q4,q5,q7,q6⟩:=round_back (Q:=Q) hX hlo hl hbl hbase hlt (pin:=C1.rho) (fun _ _ h=>h) h1 h2 hH (fun b hb=>.inl hb) (fun b hb=>hb.imp id (·.1)) h3 h4 h5 hr3 hm (if jump.isNone then .ready else .done) jump
   refine⟨_,_,run_endRound jump hl3,jump.isNone,_,rfl,⟨C5,sg4,gk4,gst4,{ r with state:=if jump.isNone then .ready else .done,pending:=jump },q1,q2,⟨fun b=>Iff.rfl,q7⟩,q3,q1 ▸ q4,q1 ▸ q5,e1,e2,e3,e4,e5,?_⟩,q1 ▸ q6⟩
   rcases hjj with⟨rfl,hj⟩|⟨e,he,rfl,hj⟩
   ·exact .inl ⟨rfl,rfl,rfl,hj⟩
   ·exact .inr ⟨rfl,rfl,e,he,rfl,hj⟩
  cases e with
  |normal=>obtain⟨C3,s3,hw,hr3,sg4,gk4,gst4,hm,hj⟩:=hq;exact fin C3 s3 hw hr3 none true sg4 gk4 gst4 rfl hm (.inl ⟨rfl,hj⟩)
  |ret=>obtain⟨C3,s3,hw,hr3,sg4,gk4,gst4,hm,hj⟩:=hq;exact fin C3 s3 hw hr3 (some .ret) false sg4 gk4 gst4 rfl hm (.inr ⟨.ret,by simp,rfl,hj⟩)
  |exit id=>obtain⟨C3,s3,hw,hr3,sg4,gk4,gst4,hm,hj⟩:=hq;exact fin C3 s3 hw hr3 (some (.exit id)) false sg4 gk4 gst4 rfl hm (.inr ⟨.exit id,by simp,rfl,hj⟩)
  |goto t=>exact hq.elim
  |panic ch=>exact hq.elim
  |outgrown=>exact hq.elim
 |ret=>obtain⟨_,_,_,_,hf⟩:=hq;exact hf.elim
 |exit id=>obtain⟨_,_,_,_,hf⟩:=hq;exact hf.elim
 |goto t=>exact hq.elim
 |panic ch=>exact hq.elim
 |outgrown=>exact hq.elim
end
def MeetsR(s s':St):Prop:=∀(X:Sess) (C:Ctx) (a:Act),Rel X C s a->∃rho',Rel X ⟨C.imm,C.T,rho',C.w,C.l⟩ s' a
theorem MeetsE.r{s s':St}(h:MeetsE s s'):MeetsR s s':=fun X C a hr=>by
 obtain⟨π,nl,h⟩:=h
 exact hr.meets h
theorem MeetsR.refl(s:St):MeetsR s s:=fun X C a hr=>⟨C.rho,hr⟩
theorem go_rngG{E:Env}{T:Ex->St->Prop}{s:St}{pf:Opd}{ps:List Nat}{x y:CI}{f:FuncId}{cap cap':List AV}(nx:Nat->List AV->Nat->Prop)(fin:Nat->Prop)(hf:s.ev pf=some (.fn f cap))(hpu:AV.puL cap=true)(hfz:AV.frzL s.sg 8 cap=some cap')(hb:bodied E.P f=true)(hit:ItG E.P f cap' nx fin)
  (p:List Nat) (hp:subN s.gh.p p=true) (tm1:List (Nat × AV)) (sg0:List Res) (hm:MeetsR s ⟨tm1,sg0,s.gh⟩) (hlt:refsLt p tm1=true) (J:Nat->List Res->Nat->Bool->Prop) (Jx:Ex->List Res->Nat->Bool->Prop)
  (h0:J 0 sg0 s.gh.k s.gh.st)
  (hr:∀k v k' sg gk gst,nx k v k'->J k sg gk gst->ps.length=v.length/\GoC E x (assT fun s'=>GoC E y (rndE p (J k') Jx) s') ⟨bindT tm1 ps v,sg,⟨p,gk,gst⟩⟩)
  (hend:∀k sg gk gst,fin k->J k sg gk gst->T .normal ⟨tm1,sg,⟨s.gh.p,gk,gst⟩⟩)
  (hx:∀e sg gk gst,e ≠ .normal->Jx e sg gk gst->T e ⟨tm1,sg,⟨s.gh.p,gk,gst⟩⟩):GoC E (.rng pf ps x y) T s:=fun X hX code nm nm' hc C a hrel=>by
 cases code<;>simp only[compC]at hc<;>try ((repeat' (split at hc))<;>cases hc)
 rename_i g pst as bd _ _ n1 _ hps hg hc1 hc2
 have e2:=ev_ok hrel hg hf
 simp only[RV]at e2
 obtain⟨lb,hlb,hcap⟩:=e2
 have hcap0:RV0s C.imm C.w cap' lb:=mapPu_ok (frz_pu 8) cap _ _ hpu hfz hcap
 obtain⟨rho',hrel0⟩:=hm X C a hrel
 refine wpIn_rangeFunc fun fn hfn=>?_
 obtain⟨l,mark,w1,dd,he,hbel,hl0,hl1,hrec,hmark⟩:=enter_any (P:=X.P) hX.wide C.w (fun l hl=>(hrel.round l hl).2) fn a.tmps pst as bd
 have hrun:∀args w,(callFunc f args).run X.P w = .ok (.enter f args) w:=fun args w=>callFunc_run (by rw[hX.P];exact hb) args w
 have hargs:lb.toArray=lb.toArray:=rfl
 refine⟨l,mark,w1,{ target:=.fn (.func f) lb.toArray,args := #[.func (.yield l) #[] #[]] },w1,f,#[.func (.yield l) #[] #[]]++lb.toArray,w1,he,?_,fun f' _=>hX.fn f',?_,fun e=>?_,?_⟩
 ·simp only[resolve,hlb]
  simp[go_sem]
 ·simp[invoke,go_sem,hrun]
 ·have hd:X.F.depth=none:=by rcases hX.wide with e|⟨l,e⟩<;>rw[e]<;>rfl
  rw[hd]at e;cases e
 -- the state at the loop's beginning
 obtain⟨hr1,hlat⟩:=hrel0.call w1 C.imm hbel (hX.kgrow _ _ _ _ _ _ hrel0.keep hbel) (fun b hb=>hb) (fun b hb=>.inl hb)
 have hlo:X.lo<=C.w.heap.size:=hX.klo _ _ _ _ _ hrel.keep
 let C1:Ctx:=⟨C.imm,newB C.w w1 C.T,rho',w1,C.l⟩
 let a1:Act:={ a with defers:=mark++a.defers }
 have hT1:C1.T l:=.inr ⟨hl0,hl1⟩
 have hrelX:Rel X C1 ⟨tm1,sg0,s.gh⟩ a1:=by
  refine⟨hr1.size,hr1.tm,hr1.sg,hr1.dis,hr1.imm,hr1.imm0,hr1.T,hr1.keep,?_,hr1.round,hr1.pin⟩
  obtain⟨ds,d1,d2,d3⟩:=hr1.marks
  have d1':a.defers=ds.map (fun D=>{ target:=.collected D,args := #[] }):=d1
  obtain⟨ds0,q1,q2,q3⟩:=hrel.marks
  rcases hmark with hmk|⟨D,hmk,k1,k2,k3⟩
  ·exact⟨ds,by show mark++a.defers=_;rw[hmk,d1'];rfl,d2,d3⟩
  ·have hds:ds0=ds:=by
    have:ds0.map (fun D=>({ target:=.collected D,args := #[] }:Deferred))=ds.map (fun D=>{ target:=.collected D,args := #[] }):=q1.symm.trans d1'
    exact List.map_inj_right (fun x y hxy=>by simpa using hxy) |>.1 this
   subst hds
   refine⟨D::ds0,by show mark++a.defers=_;rw[hmk,d1'];rfl,List.nodup_cons.2 ⟨fun hD=>?_,d2⟩,fun D' hD'=>?_⟩
   ·have:=hrel.T D (q3 D hD).1;omega
   ·rcases List.mem_cons.1 hD' with rfl|hD'
    ·exact⟨.inr ⟨k1,k2⟩,k3⟩
    ·exact d3 D' hD'
 have hrelB:Rel (btwX X C1) C1 ⟨tm1,sg0,⟨p,s.gh.k,s.gh.st⟩⟩ a1:=
  ⟨hrelX.size,hrelX.tm,hrelX.sg,hrelX.dis,fun b hb=>⟨.inl hb,(hrelX.imm b hb).2⟩,fun b hb=>hb,hrelX.T,hrelX.keep,hrelX.marks,hrelX.round,fun i o _ ho=>ho,hrelX.pin.2⟩
 have himm1:∀b,C1.imm b->Mem C1.w b:=fun b hb=>(hrelX.imm b hb).2
 have hlo1:X.lo<=C1.w.heap.size:=Nat.le_trans hlo hbel.size
 have hJ0:RJ (btwX X C1) C1 a1 tm1 p l fn pst as bd J Jx 0 false ⟨fun b=>¬False/\(C1.T b\/C1.l.S.s b),fun _=>False⟩ w1:=
  ⟨C1,sg0,s.gh.k,s.gh.st,_,rfl,hrelB,⟨fun _=>Iff.rfl,fun _ hb=>hb.elim⟩,fun _ h=>h,fun b hb=>⟨hb,rfl⟩,hrec,rfl,rfl,rfl,rfl,rfl, .inl ⟨rfl,rfl,rfl,h0⟩⟩
 have hit':=hit C.imm w1 lb l (RJ (btwX X C1) C1 a1 tm1 p l fn pst as bd J Jx) ⟨fun b=>¬False/\(C1.T b\/C1.l.S.s b),fun _=>False⟩ himm1 (RV0s.mono hlat.pers _ _ hcap0) (fun _ hb=>hb.elim)
  (fun k st S w2 hj b hb=>by
   obtain⟨C2,sg2,gk2,gst2,r2,rfl,k1,k2,_⟩:=hj
   rcases hb with hb|hb
   ·rcases((k2.1 b).1 hb).2 with q|q
    ·exact k1.T b q
    ·exact((hX.kS _ _ _ _ _ k1.keep).1 b q).1
   ·exact k1.T b (k2.2 b hb).2)
  (fun k st S w2 w3 hj hrch=>hj.reach hX himm1 hlo1 hT1 hrch)
  (fun k k' S w2 v xs Q hj _ hQ hv hxs=>by
   rw[<- hX.P]
   exact hj.yield hX (Nat.le_trans hlo hl0) hlo1 hT1 hrelX.pin.2.1 hrelX.imm0 (fun b hb=>(hrelX.imm b hb).1) hrelX.tm hlt hc1 hc2 hps hr hQ hv hxs)
  hJ0
 rw[<- hX.P]at hit'
 have hin:CallsIn X.F (X.n-1) X.P f (#[.func (.yield l) #[] #[]]++lb.toArray) w1 (fun e w'=>∃v k st S',e = .returned v/\RJ (btwX X C1) C1 a1 tm1 p l fn pst as bd J Jx k st S' w'/\(st=false->fin k)):=by
  have h3:CallsIn Fence.wide (X.n-1) X.P f (#[.func (.yield l) #[] #[]]++lb.toArray) w1 _:=callsIn_wide.2 hit'
  rcases hX.wide with e|⟨l',e⟩<;>rw[e]
  ·exact h3
  ·exact CallsIn.inRound l' h3
 refine hin.mono fun e w2 hh=>?_
 obtain⟨v,k,st,S',rfl,hj,hk⟩:=hh
 obtain⟨C2,sg2,gk2,gst2,r2,rfl,k1,k2,k3,k4,k5,k6,k7,k8,k9,k10,k11⟩:=hj
 have hback:Rel X ⟨C2.imm,C2.T,C2.rho,C2.w.putObj l (.loop { r2 with state:=.exhausted }),C2.l⟩ ⟨tm1,sg2,⟨s.gh.p,gk2,gst2⟩⟩ a1:=by
  have hput:∀b,b≠l->(C2.w.putObj l (.loop { r2 with state:=.exhausted })).heap[b]?=C2.w.heap[b]?:=fun b hb=>World.putObj_heap_other hb
  have hlt2:l<C2.w.heap.size:=(Array.getElem?_eq_some_iff.1 k5).1
  have hsame:∀b,Mem C2.w b->(C2.T b\/C2.imm b)->(C2.w.putObj l (.loop { r2 with state:=.exhausted })).heap[b]?=C2.w.heap[b]?:=fun b hcl _=>hput b fun e=>by
   obtain⟨o,hcl,ho⟩:=hcl
   rw[e,k5]at hcl;cases hcl;cases ho
  refine k1.move (Y:=X) _ hsame (by rw[size_putObj];exact Nat.le_refl _) hrelX.size (k1.later_tm hsame) (fun b hb=>?_) (fun b hb=>k1.imm0 b (hrelX.imm0 b hb)) ?_ ?_ (fun l' hl'=>?_) ⟨fun i o hi ho=>?_,k1.pin.2⟩
  ·rcases(k1.imm b hb).1 with q|q
   ·exact(hrelX.imm b q).1.imp id (k3 b)
   ·exact .inr q
  ·exact hX.kobj _ _ _ _ _ _ _ _ k1.keep (k3 l hT1) (Nat.le_trans hlo hl0) (fun hh=>by
    obtain⟨o,q1,q2⟩:=(k1.imm l (k1.pin.2.2 l hh)).2
    rw[k5]at q1;cases q1;cases q2) k5
  ·obtain⟨ds,d1,d2,d3⟩:=k1.marks
   refine⟨ds,d1,d2,fun D hD=>⟨(d3 D hD).1,(hput D fun e=>?_).trans (d3 D hD).2⟩⟩
   have:=(d3 D hD).2
   rw[e,k5]at this;cases this
  ·obtain⟨q1,r',q2⟩:=k1.round l' hl'
   refine⟨q1,?_⟩
   by_cases e:l'=l
   ·subst e;exact⟨_,World.putObj_heap_same hlt2⟩
   ·exact⟨r',(hput l' e).trans q2⟩
  ·exact k1.pin.1 i o (subN_ok hp i hi) (hrelX.pin.1 i o hi ho)
 obtain⟨C3,hC3,hback⟩:∃C3:Ctx,C2.w.putObj l (.loop { r2 with state:=.exhausted })=C3.w/\Rel X C3 ⟨tm1,sg2,⟨s.gh.p,gk2,gst2⟩⟩ a1:=⟨_,rfl,hback⟩
 have hend3:r2.state ≠ .busy->(Instr.endLoop l).run X.P C2.w = .ok r2.pending C3.w:=fun hne=>by rw[<- hC3];exact run_endLoop k5 hne
 clear hC3
 rcases k11 with⟨rfl,q1,q2,q3⟩|⟨rfl,q1,e,q2,q3,q4⟩
 ·refine⟨r2.pending,C3.w,hend3 (by rw[q1];simp),?_⟩
  rw[q2]
  refine⟨_,_,rfl,hback,hend _ _ _ _ (hk rfl) q3⟩
 ·refine⟨r2.pending,C3.w,hend3 (by rw[q1];simp),?_⟩
  rw[q3]
  have ht:=hx e sg2 gk2 gst2 q2 q4
  cases e with
  |normal=>exact absurd rfl q2
  |ret=>exact wpIn_ret ⟨_,_,rfl,hback,ht⟩
  |exit id=>exact wpIn_exit ⟨_,_,rfl,hback,ht⟩
theorem go_rng{E:Env}{T:Ex->St->Prop}{s:St}{pf:Opd}{ps:List Nat}{x y:CI}{f:FuncId}{cap cap':List AV}(ys:List (List AV))(hf:s.ev pf=some (.fn f cap))(hpu:AV.puL cap=true)(hfz:AV.frzL s.sg 8 cap=some cap')(hb:bodied E.P f=true)(hit:ItA E.P f cap' ys)
  (p:List Nat) (hp:subN s.gh.p p=true) (tm1:List (Nat × AV)) (sg0:List Res) (hm:MeetsR s ⟨tm1,sg0,s.gh⟩) (hlt:refsLt p tm1=true) (J:Nat->List Res->Nat->Bool->Prop) (Jx:Ex->List Res->Nat->Bool->Prop)
  (h0:J 0 sg0 s.gh.k s.gh.st)
  (hr:∀k v sg gk gst,ys[k]?=some v->J k sg gk gst->ps.length=v.length/\GoC E x (assT fun s'=>GoC E y (rndE p (J (k+1)) Jx) s') ⟨bindT tm1 ps v,sg,⟨p,gk,gst⟩⟩)
  (hend:∀sg gk gst,J ys.length sg gk gst->T .normal ⟨tm1,sg,⟨s.gh.p,gk,gst⟩⟩)
  (hx:∀e sg gk gst,e ≠ .normal->Jx e sg gk gst->T e ⟨tm1,sg,⟨s.gh.p,gk,gst⟩⟩):GoC E (.rng pf ps x y) T s:=
 go_rngG (lsNx ys) (· = ys.length) hf hpu hfz hb hit p hp tm1 sg0 hm hlt J Jx h0 (fun k v k' sg gk gst hn hj=>by obtain⟨hn,rfl⟩:=hn;exact hr k v sg gk gst hn hj)
  (fun k sg gk gst hk hj=>by subst hk;exact hend sg gk gst hj) hx
def setK:List Res->Nat->Res->(List Res->Prop)->Prop
 | [],_,_,k=>k []
 |_::xs,0,r,k=>k (r::xs)
 |x::xs,n+1,r,k=>setK xs n r fun l=>k (x::l)
theorem setK_iff:∀(l:List Res) (n:Nat) (r:Res) (k:List Res->Prop),setK l n r k<->k (l.set n r)
 | [],_,_,_=>Iff.rfl
 |_::_,0,_,_=>Iff.rfl
 |x::xs,n+1,r,k=>setK_iff xs n r _
def getR:List Res->Nat->Res
 | [],_=>.dead
 |r::_,0=>r
 |_::rs,n+1=>getR rs n
theorem getR_eq:∀(l:List Res) (n:Nat),getR l n=l.getD n .dead
 | [],n=>by simp[getR]
 |r::l,0=>by simp[getR]
 |r::l,n+1=>by simp[getR,getR_eq l n]
def dropA:Nat->List AV->List AV
 |0,l=>l
 |_+1,[]=>[]
 |n+1,_::l=>dropA n l
theorem dropA_eq:∀(n:Nat) (l:List AV),dropA n l=l.drop n
 |0,l=>by simp[dropA]
 |n+1,[]=>by simp[dropA]
 |n+1,a::l=>by simp[dropA,dropA_eq n l]
def takeK:Nat->List AV->(List AV->Prop)->Prop
 |0,_,k=>k []
 |_+1,[],_=>False
 |n+1,a::l,k=>takeK n l fun r=>k (a::r)
theorem takeK_ok:∀(n:Nat) (l:List AV) (k:List AV->Prop),takeK n l k->n<=l.length/\k (l.take n)
 |0,l,k,h=>by simpa[takeK]using h
 |n+1,[],k,h=>h.elim
 |n+1,a::l,k,h=>by
  obtain⟨h1,h2⟩:=takeK_ok n l _ h
  exact⟨by simp;omega,by simpa using h2⟩
def ldK(ag:Bool)(n:Nat)(cs:List AV)(k:AV->Prop):Prop:=
 match ag with
 |true=>takeK n cs fun l=>k (.agg l)
 |false=>match cs with
  |v::_=>k v
  | []=>False
theorem ldK_ok{ag:Bool}{n:Nat}{cs:List AV}{k:AV->Prop}(h:ldK ag n cs k):∃v,evX.ldC ag n cs=some v/\k v:=by
 cases ag with
 |true=>
  obtain⟨h1,h2⟩:=takeK_ok _ _ _ h
  exact⟨_,by simp only[evX.ldC,h1,if_true],h2⟩
 |false=>
  cases cs with
  |nil=>exact h.elim
  |cons v cs=>exact⟨v,rfl,h⟩
def spliceK:List AV->Nat->List AV->(List AV->Prop)->Prop
 |cs,0,vs,k=>go cs vs k
 | [],_+1,vs,k=>k vs
 |c::cs,n+1,vs,k=>spliceK cs n vs fun l=>k (c::l)
where
 go:List AV->List AV->(List AV->Prop)->Prop
  |cs,[],k=>k cs
  | [],vs,k=>k vs
  |_::cs,v::vs,k=>go cs vs fun l=>k (v::l)
theorem spliceK_go:∀(cs vs:List AV) (k:List AV->Prop),spliceK.go cs vs k<->k (vs++cs.drop vs.length)
 |cs,[],k=>by cases cs<;>simp[spliceK.go]
 | [],v::vs,k=>by simp[spliceK.go]
 |c::cs,v::vs,k=>by simp[spliceK.go,spliceK_go cs vs]
theorem spliceK_iff:∀(cs:List AV) (n:Nat) (vs:List AV) (k:List AV->Prop),spliceK cs n vs k<->k (splice cs n vs)
 |cs,0,vs,k=>by cases cs<;>simp[spliceK,splice,spliceK_go]
 | [],n+1,vs,k=>by simp[spliceK,splice]
 |c::cs,n+1,vs,k=>by simp[spliceK,splice,spliceK_iff cs n vs]
abbrev Tm:=List (Nat × AV)
structure BrB(b:Bool)(A B:Prop):Prop where
 t:b=true->A
 f:b=false->B
structure WrE(k:IntKind)(x:Int)(K:Int->Prop):Prop where
 out:K (k.wrap x)
structure Need(p A:Prop):Prop where
 c:p
 out:A
structure IaE(es:List (List AV))(i:Int)(K:List AV->Prop):Prop where
 lo:0<=i
 hi:i<es.length
 out:K (es.getD i.toNat [])
structure SlE(sz:Nat)(es:List (List AV))(lo hi:Int)(K:List (List AV)->Prop):Prop where
 a:0<=lo
 b:lo<=hi
 c:hi<=es.length
 d:∀e∈es,e.length=sz
 out:K ((es.take hi.toNat).drop lo.toNat)
structure ApE(sz bytes:Nat)(xs ys:List (List AV))(K:Prop):Prop where
 a:∀e∈ys,e.length=sz/\e.all AV.one=true
 b:(xs.length+ys.length)*bytes<=140737488355328
 out:K
structure MkE(bytes:Nat)(n m:Int)(K:Prop):Prop where
 a:0<=n
 b:n<=m
 c:(bytes:Int)*m<=281474976710656
 out:K
structure CallQ(P:Program)(sg:List Res)(f:FuncId)(args:List AV)(k:AV->Prop):Prop where
 out:CallE P sg f args k
structure VCallQ(P:Program)(fl:Bool)(sg:List Res)(g:AV)(args:List AV)(k:List (Nat × Res)->AV->Prop)(Y:Prop):Prop where
 out:VCallE P sg g args (k [])\/(fl=true/\((∃f caps lend,g = .fn f caps/\bodied P f=true/\CallWi P sg 0 0 f (args++caps) k lend)\/Y))
structure CallZQ(P:Program)(fl:Bool)(sg:List Res)(nm ct:Nat)(f:FuncId)(args:List AV)(k:List (Nat × Res)->AV->Prop):Prop where
 out:CallZ P sg nm ct f args k\/(fl=true/\CallX P sg nm ct f args k)
structure YldQ(E:Env)(fl:Bool)(sg:List Res)(gh:Gh)(args:List AV)(k:List (Nat × Res)->Gh->AV->Prop):Prop where
 out:(gh.st=false/\∃v z k',E.nx gh.k v k'/\((z=[]/\v=args/\AV.flatL args=true)\/(fl=true/\AV.reachL sg args=some z/\AV.frzL sg 8 args=some v))/\k z ⟨gh.p,k',false⟩ (.bool true)/\k z ⟨gh.p,k',true⟩ (.bool false))\/(fl=true/\YldL E sg gh args (k []))
structure AltQ(A B:Prop):Prop where
 a:A
 b:B
theorem altI{A B:Prop}(a:A)(b:B):AltQ A B:=⟨a,b⟩
structure LoopQ(E:Env)(b:CI)(T:Ex->St->Prop)(s:St):Prop where
 out:GoC E (.loop b) T s
structure RngQ(E:Env)(f:Opd)(ps:List Nat)(x y:CI)(T:Ex->St->Prop)(s:St):Prop where
 out:GoC E (.rng f ps x y) T s
theorem bT{A B:Prop}(h:A):BrB true A B:=⟨fun _=>h,fun e=>absurd e (by decide)⟩
theorem bF{A B:Prop}(h:B):BrB false A B:=⟨fun e=>absurd e (by decide),fun _=>h⟩
theorem bS{b:Bool}{A B:Prop}(h:b=true->A)(k:b=false->B):BrB b A B:=⟨h,k⟩
theorem bD{p:Prop}[Decidable p]{A B:Prop}(h:p->A)(k:¬p->B):BrB (decide p) A B:=⟨fun e=>h (of_decide_eq_true e),fun e=>k (of_decide_eq_false e)⟩
theorem bN{b:Bool}{A B:Prop}(h:BrB b B A):BrB (!b) A B:=⟨fun e=>h.2 (by simpa using e),fun e=>h.1 (by simpa using e)⟩
theorem bEq{x y:Int}{A B:Prop}(h:x=y->A)(k:x≠y->B):BrB (x==y) A B:=⟨fun e=>h (by simpa using e),fun e=>k (by simpa using e)⟩
theorem bNe{x y:Int}{A B:Prop}(h:x≠y->A)(k:x=y->B):BrB (x != y) A B:=⟨fun e=>h (by simpa using e),fun e=>k (by simpa using e)⟩
theorem wIn{x:Int}{K:Int->Prop}(h : -9223372036854775808<=x/\x<=9223372036854775807)(hk:K x):WrE .i64 x K:=⟨wrE_in h hk⟩
theorem nI{p A:Prop}(h:p)(k:A):Need p A:=⟨h,k⟩
theorem iaI{es:List (List AV)}{i:Int}{K:List AV->Prop}{cs:List AV}(h0:0<=i)(h1:i<es.length)(hc:es.getD i.toNat []=cs)(hk:K cs):IaE es i K:=⟨h0,h1,by rw[hc];exact hk⟩
theorem apI{sz bytes:Nat}{xs ys:List (List AV)}{K:Prop}(h1:∀e∈ys,e.length=sz/\e.all AV.one=true)(h2:(xs.length+ys.length)*bytes<=140737488355328)(hk:K):ApE sz bytes xs ys K:=⟨h1,h2,hk⟩
theorem slI{sz:Nat}{es es':List (List AV)}{lo hi:Int}{K:List (List AV)->Prop}(h0:0<=lo)(h1:lo<=hi)(h2:hi<=es.length)(h3:∀e∈es,e.length=sz)(he:(es.take hi.toNat).drop lo.toNat=es')(hk:K es'):SlE sz es lo hi K:=⟨h0,h1,h2,h3,by rw[he];exact hk⟩
theorem yI{P:Program}{N:Nat}{ys:List (List AV)}{fl:Bool}{sg:List Res}{gh:Gh}{args:List AV}{k:List (Nat × Res)->Gh->AV->Prop}(h0:gh.st=false)(h1:ys[gh.k]?=some args)(h2:AV.flatL args=true)(h3:k [] ⟨gh.p,gh.k+1,false⟩ (.bool true))(h4:k [] ⟨gh.p,gh.k+1,true⟩ (.bool false)):YldQ (env3 P N ys) fl sg gh args k:=⟨.inl ⟨h0,args,[],_,⟨h1,rfl⟩, .inl ⟨rfl,rfl,h2⟩,h3,h4⟩⟩
theorem FnA.callq{P:Program}{sg:List Res}{f:FuncId}{args args':List AV}{R k:AV->Prop}(h:FnA P f args' R)(hr:AV.puL args=true)(hz:AV.frzL sg 8 args=some args')(hk:∀r,R r->k r):CallQ P sg f args k:=⟨h.call hr hz hk⟩
theorem FnA.lendq{P:Program}{sg:List Res}{f:FuncId}{args args':List AV}{R k:AV->Prop}(h:FnA P f args' R)(hr:AV.frzL sg 8 args=some args')(hk:∀r,R r->r.flat=true/\k r):CallQ P sg f args k:=⟨h.lend hr hk⟩
theorem FnO.callzq{P:Program}{fl:Bool}{sg:List Res}{nm ct:Nat}{f:FuncId}{args args':List AV}{z:List (Nat × Res)}{R:AV->List (Nat × Res)->Prop}{k:List (Nat × Res)->AV->Prop}(h:FnO P f args' R)(hz:AV.reachL sg args=some z)(hr:AV.frzL sg 8 args=some args')(hk:∀r rows,R r rows->rowsB ct rows=true/\k (z++nameR rows nm) (r.rnr (posN rows nm))):CallZQ P fl sg nm ct f args k:=⟨.inl (h.callz hz hr hk)⟩
theorem FnA.callzq{P:Program}{fl:Bool}{sg:List Res}{nm ct:Nat}{f:FuncId}{args args':List AV}{z:List (Nat × Res)}{R:AV->Prop}{k:List (Nat × Res)->AV->Prop}(h:FnA P f args' R)(hz:AV.reachL sg args=some z)(hr:AV.frzL sg 8 args=some args')(hk:∀r,R r->k z r):CallZQ P fl sg nm ct f args k:=⟨.inl (h.callz hz hr hk)⟩
theorem FnO.callmq{P:Program}{sg:List Res}{nm ct:Nat}{f:FuncId}{args args':List AV}{R:AV->List (Nat × Res)->Prop}{k:List (Nat × Res)->AV->Prop}(h:FnO P f args' R)(hr:AV.frzL sg 8 args=some args')(hk:∀r rows,R r rows->rowsB ct rows=true/\flatRB rows=true/\r.flatR=true/\k (nameR rows nm) (r.rnr (posN rows nm))):CallZQ P true sg nm ct f args k:=⟨.inr ⟨rfl, .inr (.inl ⟨args',R, .inl hr,h,hk⟩)⟩⟩
theorem FnV.vcallq{Y:Prop}{P:Program}{fl:Bool}{sg:List Res}{g g':AV}{args args':List AV}{R:AV->Prop}{k:List (Nat × Res)->AV->Prop}(h:FnV P g' args' R)(h0:AV.pu g=true)(h1:AV.puL args=true)(h2:AV.frz sg 8 g=some g')(h3:AV.frzL sg 8 args=some args')(hk:∀r,R r->k [] r):VCallQ P fl sg g args k Y:=⟨.inl (.inl ⟨g',args',R,h0,h1,h2,h3,h,hk⟩)⟩
structure SlsP(b:List UInt8)(lo hi:Int)(K:AV->Prop):Prop where
 h:0<=lo/\lo<=hi/\hi<=b.length
 k:K (.str ((b.take hi.toNat).drop lo.toNat))
structure CatP(a b:List UInt8)(K:AV->Prop):Prop where
 h:a.length+b.length<=9223372036854775807
 k:K (.str (a++b))
def PurP(p:PuOp)(vs:List AV)(K:AV->Prop):Prop:=
 match p with
 |.cat=>match vs with
  | [.str a, .str b]=>CatP a b K
  |_=>False
 |.cmp op=>match vs with
  | [.str a, .str b]=>K (.bool (strC op a b))
  |_=>False
 |.sls false false=>match vs with
  | [.str b]=>SlsP b 0 b.length K
  |_=>False
 |.sls true false=>match vs with
  | [.str b, .int _ lo]=>SlsP b lo b.length K
  |_=>False
 |.sls false true=>match vs with
  | [.str b, .int _ hi]=>SlsP b 0 hi K
  |_=>False
 |.sls true true=>match vs with
  | [.str b, .int _ lo, .int _ hi]=>SlsP b lo hi K
  |_=>False
theorem PurP_ok{p:PuOp}{vs:List AV}{K:AV->Prop}(h:PurP p vs K):purE p vs K:=by
 unfold PurP at h
 unfold purE
 split at h
 ·split at h
  ·exact⟨h.1,h.2⟩
  ·exact h.elim
 ·split at h
  ·exact h
  ·exact h.elim
 all_goals
  split at h
  ·exact⟨h.1,h.2⟩
  ·exact h.elim
def evBinQ(op:BinOp)(k:IntKind)(a b:Int)(K:AV->Prop):Prop:=
 match op with
 |.add=>WrE k (a+b) fun c=>K (.int k c)
 |.sub=>WrE k (a-b) fun c=>K (.int k c)
 |.mul=>WrE k (a*b) fun c=>K (.int k c)
 |.quo=>Need (b≠0) (WrE k (a.tdiv b) fun c=>K (.int k c))
 |.rem=>Need (b≠0) (K (.int k (a.tmod b)))
 |.eql=>K (.bool (a==b))
 |.neq=>K (.bool (a != b))
 |.lss=>K (.bool (decide (a<b)))
 |.leq=>K (.bool (decide (a<=b)))
 |.gtr=>K (.bool (decide (b<a)))
 |.geq=>K (.bool (decide (b<=a)))
 |.and=>K (.int k (bitI .and k a b))
 |.or=>K (.int k (bitI .or k a b))
 |.xor=>K (.int k (bitI .xor k a b))
 |.andNot=>K (.int k (bitI .andNot k a b))
 |.shl=>Need (0<=b) (K (.int k (k.wrap (a*2 ^ min b.toNat k.bits))))
 |.shr=>Need (0<=b) (K (.int k (a.fdiv (2 ^ min b.toNat k.bits))))
def ev(tm:Tm):Opd->Option AV
 |.t i=>look tm i
 |.c v=>some v
def evlK(tm:Tm):List Opd->(List AV->Prop)->Prop
 | [],k=>k []
 |x::xs,k=>match ev tm x with
  |some v=>evlK tm xs fun l=>k (v::l)
  |none=>False
theorem evlK_ok{tm:Tm}{sg:List Res}{gh:Gh}:∀ {ps:List Opd} {k:List AV->Prop},evlK tm ps k->∃vs,(St.mk tm sg gh).evl ps=some vs/\k vs
 | [],k,h=>⟨[],rfl,h⟩
 |p::ps,k,h=>by
  simp only[evlK]at h
  split at h
  ·rename_i v hv
   obtain⟨vs,h1,h2⟩:=evlK_ok (sg:=sg) (gh:=gh) (ps:=ps) h
   have hv':(St.mk tm sg gh).ev p=some v:=by cases p<;>exact hv
   exact⟨v::vs,by simp only[St.evl,hv',h1],h2⟩
  ·exact h.elim
def buildK(tm:Tm):List AV->List (Nat × Nat × Opd)->(List AV->Prop)->Prop
 |cs,[],k=>k cs
 |cs,(off,n,x)::r,k=>match ev tm x with
  |some (.agg vs)=>match decide (vs.length=n),decide (off+n<=cs.length)with
   |true,true=>spliceK cs off vs fun cs'=>buildK tm cs' r k
   |_,_=>False
  |some v=>match decide (n=1),decide (off+1<=cs.length),v.one with
   |true,true,true=>spliceK cs off [v] fun cs'=>buildK tm cs' r k
   |_,_,_=>False
  |none=>False
theorem buildK_ok{tm:Tm}{sg:List Res}{gh:Gh}:∀ {qs:List (Nat × Nat × Opd)} {cs:List AV} {k:List AV->Prop},buildK tm cs qs k->∃l,evX.evBuild (St.mk tm sg gh) cs qs=some l/\k l
 | [],cs,k,h=>⟨cs,rfl,h⟩
 |(off,n,x)::qs,cs,k,h=>by
  have hev:(St.mk tm sg gh).ev x=ev tm x:=by cases x<;>rfl
  simp only[buildK]at h
  split at h
  ·rename_i vs hv
   split at h
   ·rename_i h1 h2
    have h1':=of_decide_eq_true h1
    have h2':=of_decide_eq_true h2
    rw[spliceK_iff]at h
    obtain⟨l,h3,h4⟩:=buildK_ok h
    exact⟨l,by simp only[evX.evBuild,hev,hv];rw[if_pos ⟨h1',h2'⟩];exact h3,h4⟩
   ·exact h.elim
  ·rename_i v hna hv
   split at h
   ·rename_i h1 h2 h5
    have h1':=of_decide_eq_true h1
    have h2':=of_decide_eq_true h2
    rw[spliceK_iff]at h
    obtain⟨l,h3,h4⟩:=buildK_ok h
    refine⟨l,?_,h4⟩
    simp only[evX.evBuild,hev,hv]
    cases v with
    |agg vs=>exact absurd rfl (hna vs)
    |_=>rw[if_pos ⟨h1',h5,h2'⟩];exact h3
   ·exact h.elim
  ·exact h.elim
def cellsP(ag:Bool)(v:AV)(K:List AV->Prop):Prop:=
 match ag with
 |true=>match v with
  |.agg cs=>K cs
  |_=>False
 |false=>match v.one with
  |true=>K [v]
  |false=>False
theorem cellsP_ok{ag:Bool}{v:AV}{K K':List AV->Prop}(h:cellsP ag v K)(hk:∀vs,K vs->K' vs):cellsK ag v K':=by
 cases ag with
 |true=>
  simp only[cellsP]at h
  split at h
  ·exact hk _ h
  ·exact h.elim
 |false=>
  simp only[cellsP]at h
  split at h
  ·rename_i h1;exact⟨h1,hk _ h⟩
  ·exact h.elim
def oneP(vs:List AV)(A:Prop):Prop:=
 match vs.all AV.one with
 |true=>A
 |false=>False
theorem oneP_ok{vs:List AV}{A:Prop}(h:oneP vs A):need (vs.all AV.one=true) A:=by
 unfold oneP at h
 split at h
 ·rename_i h1;exact⟨h1,h⟩
 ·exact h.elim
def neP(tm:Tm)(i:Nat):List Opd->Bool
 | []=>true
 |p::ps=>match ev tm p with
  |some v=>match v.refsIn fun j=>j != i with
   |true=>neP tm i ps
   |false=>false
  |none=>false
theorem neP_ok{tm:Tm}{sg:List Res}{gh:Gh}{i:Nat}:∀ {ps:List Opd},neP tm i ps=true->neOk ⟨tm,sg,gh⟩ i ps=true
 | [],_=>rfl
 |p::ps,h=>by
  have hev:(St.mk tm sg gh).ev p=ev tm p:=by cases p<;>rfl
  simp only[neP]at h
  simp only[neOk,hev]
  split at h
  ·rename_i v hv
   split at h
   ·rename_i h1;simp only[hv,h1,Bool.true_and];exact neP_ok h
   ·cases h
  ·cases h
def neLP(tm:Tm)(us:List AV):List Opd->Bool
 | []=>true
 |p::ps=>match ev tm p with
  |some v=>match apartVs v us with
   |true=>neLP tm us ps
   |false=>false
  |none=>false
theorem neLP_ok{tm:Tm}{sg:List Res}{gh:Gh}{us:List AV}:∀ {ps:List Opd},neLP tm us ps=true->neOkL ⟨tm,sg,gh⟩ us ps=true
 | [],_=>rfl
 |p::ps,h=>by
  have hev:(St.mk tm sg gh).ev p=ev tm p:=by cases p<;>rfl
  simp only[neLP]at h
  simp only[neOkL,hev]
  split at h
  ·rename_i v hv
   split at h
   ·rename_i h1;simp only[hv,h1,Bool.true_and];exact neLP_ok h
   ·cases h
  ·cases h
def setLK:List Res->List (Nat × Res)->(List Res->Prop)->Prop
 |sg,[],k=>k sg
 |sg,(i,r)::l,k=>setK sg i r fun sg'=>setLK sg' l k
theorem setLK_iff:∀(l:List (Nat × Res)) (sg:List Res) (k:List Res->Prop),setLK sg l k<->k (setL sg l)
 | [],_,_=>Iff.rfl
 |(i,r)::l,sg,k=>by simp only[setLK,setL,setK_iff];exact setLK_iff l _ k
def rowsK(sg:List Res)(sz:Nat):List AV->(List (List AV)->List (Nat × Res)->Prop)->Prop
 | [],k=>k [] []
 |v::vs,k=>match cellsO sz v with
  |some cs=>match AV.reachL sg cs with
   |some z=>match AV.frzL sg 8 cs with
    |some cs'=>rowsK sg sz vs fun es zs=>k (cs'::es) (z++zs)
    |none=>False
   |none=>False
  |none=>False
theorem rowsK_ok{sg:List Res}{sz:Nat}:∀ {vs:List AV} {k:List (List AV)->List (Nat × Res)->Prop},rowsK sg sz vs k->∃es z,rowsO sg sz vs=some (es,z)/\k es z
 | [],k,h=>⟨[],[],rfl,h⟩
 |v::vs,k,h=>by
  simp only[rowsK]at h
  split at h
  ·rename_i cs h1
   split at h
   ·rename_i z h2
    split at h
    ·rename_i cs' h3
     obtain⟨es,zs,h4,h5⟩:=rowsK_ok h
     exact⟨_,_,by simp only[rowsO,h1,h2,h3,h4],h5⟩
    ·exact h.elim
   ·exact h.elim
  ·exact h.elim
def boP(tm:Tm):Option Opd->Option Int
 |none=>some 0
 |some p=>match ev tm p with
  |some (.int _ n)=>some n
  |_=>none
theorem boP_eq{tm:Tm}{sg:List Res}{gh:Gh}(p:Option Opd):boP tm p=boV ⟨tm,sg,gh⟩ p:=by
 cases p with
 |none=>rfl
 |some q=>cases q<;>rfl
def evP(E:Env)(d:Option Nat)(o:Ixo)(tm:Tm)(sg:List Res)(gh:Gh)(k:Tm->List Res->Gh->Prop):Prop:=
 match o with
 |.mv x=>match ev tm x with
  |some v=>put v
  |none=>False
 |.pick c a b=>match ev tm c,ev tm a,ev tm b with
  |some (.bool c),some x,some y=>BrB c (put x) (put y)
  |_,_,_=>False
 |.alloc nm zs=>match getR sg nm with
  |.fresh=>setK sg nm (.box false zs) fun sg'=>put2 sg' (.own nm 0)
  |_=>False
 |.mks nm el sz bytes zs x y=>match getR sg nm,ev tm x,ev tm y with
  |.fresh,some (.int _ n),some (.int _ m)=>MkE bytes n m (setK sg nm (.row false el sz (List.replicate n.toNat zs)) fun sg'=>put2 sg' (.row nm))
  |_,_,_=>False
 |.box nm ag x=>match ev tm x,getR sg nm with
  |some v, .fresh=>cellsP ag v fun cs=>setK sg nm (.box false cs) fun sg'=>put2 sg' (.own nm 0)
  |_,_=>False
 |.build zs ps=>buildK tm zs ps fun cs=>put (.agg cs)
 |.load ag n a=>match ev tm a with
  |some (.own i off)=>match getR sg i with
   |.box _ cs=>ldK ag n (dropA off cs) put
   |_=>False
  |some (.elt i sz m j)=>match getR sg i with
   |.row _ _ sz' es=>match decide (sz'=sz)with
    |true=>IaE es m fun cs=>ldK ag n (dropA j cs) put
    |false=>False
   |_=>False
  |some (.ipt cs)=>ldK ag n cs put
  |_=>False
 |.store ag n a x ne=>match ev tm a,ev tm x with
  |some (.own i off),some v=>match getR sg i with
   |.box false cs=>cellsP ag v fun vs=>oneP vs (match decide (vs.length=n),decide (off+n<=cs.length),neP tm i ne with
    |true,true,true=>spliceK cs off vs fun cs'=>setK sg i (.box false cs') fun sg'=>k tm sg' gh
    |_,_,_=>False)
   |_=>False
  |some (.elt i sz m j),some v=>match getR sg i with
   |.row false el sz' es=>cellsP ag v fun vs=>oneP vs (match decide (sz'=sz),decide (vs.length=n),AV.puL vs,neP tm i ne with
    |true,true,true,true=>match AV.frzL sg 8 vs with
     |some vs'=>IaE es m fun cs=>match decide (j+n<=cs.length)with
      |true=>spliceK cs j vs' fun cs'=>setK sg i (.row false el sz (es.set m cs')) fun sg'=>k tm sg' gh
      |false=>False
     |none=>False
    |_,_,_,_=>False)
   |_=>False
  |_,_=>False
 |.bin op x y=>match ev tm x,ev tm y with
  |some (.int k1 a),some (.int k2 b)=>match isSh op||decide (k1=k2)with
   |true=>evBinQ op k1 a b put
   |false=>False
  |_,_=>False
 |.eqb neg x y=>match ev tm x,ev tm y with
  |some (.bool a),some (.bool b)=>match neg with
   |true=>put (.bool (a != b))
   |false=>put (.bool (a==b))
  |_,_=>False
 |.eqs neg T x y=>match ev tm x,ev tm y with
  |some (.agg as),some (.agg bs)=>match eqV T as bs with
   |some r=>match neg with
    |true=>put (.bool (!r))
    |false=>put (.bool r)
   |none=>False
  |_,_=>False
 |.un op x=>match op,ev tm x with
  |.not,some (.bool b)=>put (.bool (!b))
  |.neg,some (.int kd n)=>WrE kd (0-n) fun c=>put (.int kd c)
  |_,_=>False
 |.conv kd x=>match ev tm x with
  |some (.int _ n)=>WrE kd n fun c=>put (.int kd c)
  |_=>False
 |.faddr off x=>match ev tm x with
  |some (.own i o)=>put (.own i (o+off))
  |some (.elt i sz m j)=>put (.elt i sz m (j+off))
  |some (.ipt cs)=>put (.ipt (dropA off cs))
  |_=>False
 |.field ag n off x=>match ev tm x with
  |some (.agg cs)=>ldK ag n (dropA off cs) put
  |_=>False
 |.iaddr sz x i=>match ev tm x,ev tm i with
  |some (.isl es),some (.int _ i)=>IaE es i fun cs=>match decide (cs.length=sz)with
   |true=>put (.ipt cs)
   |false=>False
  |some (.row j),some (.int _ i)=>match getR sg j with
   |.row _ _ sz' es=>match decide (sz'=sz)with
    |true=>Need (0<=i/\i<es.length) (put (.elt j sz i.toNat 0))
    |false=>False
   |_=>False
  |some (.cut j szc lo n),some (.int _ i)=>match getR sg j with
   |.row _ _ sz' _=>match decide (sz'=sz/\szc=sz)with
    |true=>Need (0<=i/\i<n) (put (.elt j sz (lo+i.toNat) 0))
    |false=>False
   |_=>False
  |_,_=>False
 |.mkfn f caps=>evlK tm caps fun vs=>put (.fn f vs)
 |.mkmt f xs=>evlK tm xs fun vs=>match AV.puL vs,AV.frzL sg 8 vs with
  |true,some vs'=>put (.mth f vs')
  |_,_=>False
 |.extract i x=>match ev tm x with
  |some (.tup vs)=>match dropA i vs with
   |v::_=>put v
   | []=>False
  |_=>False
 |.call f xs=>evlK tm xs fun vs=>CallQ E.P sg f vs put
 |.callv g xs=>match ev tm g with
  |some g=>evlK tm xs fun vs=>match isYld g with
   |true=>YldQ E false sg gh vs fun l g r=>match l with
    | []=>put3 g r
    |_::_=>False
   |false=>VCallQ E.P false sg g vs (fun l r=>match l with
    | []=>put r
    |_::_=>False) False
  |none=>False
 |.callx g xs=>match ev tm g with
  |some g=>evlK tm xs fun vs=>match isYld g with
   |true=>YldQ E true sg gh vs fun l g r=>setLK sg l fun sg'=>put4 sg' g r
   |false=>VCallQ E.P true sg g vs (fun z r=>setLK sg z fun sg'=>put2 sg' r) (VCallY E sg gh g vs fun z g r=>setLK sg z fun sg'=>put4 sg' g r)
  |none=>False
 |.len x=>match ev tm x with
  |some (.isl es)=>put (.int .i64 es.length)
  |some .nils=>put (.int .i64 0)
  |some (.row i)=>match getR sg i with
   |.row _ _ _ es=>put (.int .i64 es.length)
   |_=>False
  |some (.cut _ _ _ n)=>put (.int .i64 n)
  |_=>False
 |.slen x=>match ev tm x with
  |some (.str b)=>put (.int .i64 b.length)
  |_=>False
 |.mm mx xs=>evlK tm xs fun vs=>match vs with
  |.int kd n::vs=>match mmV mx kd n vs with
   |some m=>put (.int kd m)
   |none=>False
  |_=>False
 |.sli sz x lo hi=>match ev tm x,boP tm lo with
  |some (.isl es),some lo=>match hi with
   |none=>SlE sz es lo es.length fun es'=>put (.isl es')
   |some hi=>match boP tm (some hi)with
    |some hi=>SlE sz es lo hi fun es'=>put (.isl es')
    |none=>False
  |some (.row i),some lo=>match getR sg i with
   |.row _ _ sz' es=>match decide (sz'=sz)with
    |true=>match hi with
     |none=>Need (0<=lo/\lo<=es.length) (put (.cut i sz lo.toNat (es.length-lo.toNat)))
     |some hi=>match boP tm (some hi)with
      |some hi=>Need (0<=lo/\lo<=hi/\hi<=es.length) (put (.cut i sz lo.toNat (hi.toNat-lo.toNat)))
      |none=>False
    |false=>False
   |_=>False
  |_,_=>False
 |.sl3 sz x hi mx=>match ev tm x,ev tm hi,ev tm mx with
  |some (.isl es),some (.int _ u),some (.int _ m)=>Need (m=u) (SlE sz es 0 u fun es'=>put (.tsl sz es'))
  |_,_,_=>False
 |.eqn neg x=>match ev tm x with
  |some .nils=>put (.bool (!neg))
  |some (.isl es)=>Need (0<es.length) (put (.bool neg))
  |some (.lit (.slice (some _) _ _))=>put (.bool neg)
  |_=>False
 |.bsl nm el sz ps ne=>match getR sg nm with
  |.fresh=>evlK tm ps fun vs=>rowsK sg sz vs fun es z=>match neLP tm vs ne with
   |true=>setLK sg z fun sg1=>setK sg1 nm (.row false el sz es) fun sg'=>put2 sg' (.row nm)
   |false=>False
  |_=>False
 |.apd nm el sz bytes x y ne=>match getR sg nm,ev tm x,ev tm y with
  |.fresh,some u,some v=>match srcO sg el sz u,addO sg sz v with
   |some (es,z),some es'=>match (apartV v u&&tslOk u es'),neLP tm [u,v] ne with
    |true,true=>ApE sz bytes es es' (match apdN u es' with
     |true=>put2 sg u
     |false=>setLK sg z fun sg1=>setK sg1 nm (.row false el sz (es++es')) fun sg'=>put2 sg' (.row nm))
    |_,_=>False
   |_,_=>False
  |_,_,_=>False
 |.callz nm ct f xs ne=>evlK tm xs fun vs=>match neLP tm vs ne with
  |true=>match freshN sg nm ct with
   |true=>CallZQ E.P false sg nm ct f vs fun z r=>setLK sg z fun sg'=>put2 sg' r
   |false=>False
  |false=>False
 |.callw nm ct f xs=>evlK tm xs fun vs=>match freshN sg nm ct with
  |true=>CallZQ E.P true sg nm ct f vs fun z r=>setLK sg z fun sg'=>put2 sg' r
  |false=>False
 |.aidx ag n m x i=>match ev tm x,ev tm i with
  |some (.agg cs),some (.int _ i)=>IdxE ag n m cs i put
  |_,_=>False
 |.sidx x i=>match ev tm x,ev tm i with
  |some (.str b),some (.int _ i)=>SdxE b i put
  |_,_=>False
 |.pur p xs=>evlK tm xs fun vs=>PurP p vs put
 |.b2s x=>match ev tm x with
  |some (.isl es)=>B2sE es put
  |some .nils=>put (.str [])
  |some (.row i)=>match getR sg i with
   |.row _ _ _ es=>B2sE es put
   |_=>False
  |_=>False
 |.nilck x=>match ev tm x with
  |some (.own i o)=>put (.own i o)
  |some (.elt i sz m j)=>put (.elt i sz m j)
  |some (.ipt cs)=>put (.ipt cs)
  |some (.fn f cs)=>put (.fn f cs)
  |_=>False
 |.mkm nm=>match getR sg nm with
  |.fresh=>setK sg nm (.mp false [] []) fun sg'=>put2 sg' (.row nm)
  |_=>False
 |.mko nm=>match getR sg nm with
  |.fresh=>setK sg nm (.mpo [] []) fun sg'=>put2 sg' (.row nm)
  |_=>False
 |.paddr sz m x i=>match ev tm x,ev tm i with
  |some (.own j off),some (.int _ i)=>Need (0<=i/\i<m) (put (.own j (off+i.toNat*sz)))
  |some (.ipt cs),some (.int _ i)=>Need (0<=i/\i<m) (put (.ipt (cs.drop (i.toNat*sz))))
  |_,_=>False
 |.mpu kt m x v ne=>match ev tm m,ev tm x,ev tm v with
  |some (.row i),some kv,some vv=>match getR sg i with
   |.mp false ks us=>match AV.reach sg vv with
    |some z=>match AV.frz sg 8 vv with
     |some v'=>match memN (fstN z) i,neLP tm [.row i,vv] ne with
      |false,true=>MpuE kt ks us kv v' fun ks' us'=>setLK sg z fun sg1=>setK sg1 i (.mp false ks' us') fun sg'=>put2 sg' .gone
      |_,_=>False
     |none=>False
    |none=>False
   |.mpo ks us=>match neLP tm [.row i,vv] ne with
    |true=>MpuE kt ks us kv vv fun ks' us'=>setK sg i (.mpo ks' us') fun sg'=>put2 sg' .gone
    |false=>False
   |.mpb ks us bn n=>match vv.flat,neLP tm [.row i,vv] ne with
    |true,true=>MdlE kt ks us bn n kv vv fun ks' us' bn' n'=>setK sg i (.mpb ks' us' bn' n') fun sg'=>put2 sg' .gone
    |_,_=>False
   |_=>False
  |_,_,_=>False
 |.mrg nm m ne=>match getR sg nm,ev tm m with
  |.fresh,some v=>match AV.reach sg v with
   |some z=>match AV.frz sg 8 v with
    |some (.imp ks us)=>match neLP tm [v] ne with
     |true=>setLK sg z fun sg1=>setK sg1 nm (.itr ks us [] []) fun sg'=>put2 sg' (.row nm)
     |false=>False
    |_=>False
   |none=>False
  |_,_=>False
 |.mnx x=>match ev tm x with
  |some (.row i)=>match getR sg i with
   |.itr ks us seen _=>NxE ks us seen (fun j kv uv=>setK sg i (.itr ks us (seen++[j]) [kv,uv]) fun sg'=>put2 sg' (.tup [.bool true,kv,uv])) (put (.tup [.bool false]))
   |_=>False
  |_=>False
 |.mrx nm m=>match getR sg nm,ev tm m with
  |.fresh,some v=>MrgE (match AV.reach sg v with
   |some z=>match AV.frz sg 8 v with
    |some (.imp ks us)=>setLK sg z fun sg1=>setK sg1 nm (.itr ks us [] []) fun sg'=>put2 sg' (.row nm)
    |_=>False
   |none=>False) (match v with
   |.row i=>match getR sg i with
    |.mp false ks us=>∀bn n,BnOk ks us bn n->setK sg i (.mpb ks us bn n) fun sg1=>setK sg1 nm (.itd [.row i] n []) fun sg'=>put2 sg' (.row nm)
    |.mpb ks us bn n=>setK sg nm (.itd [.row i] n []) fun sg'=>put2 sg' (.row nm)
    |_=>False
   |_=>False)
  |_,_=>False
 |.mkx nm=>match getR sg nm with
  |.fresh=>MrgE (setK sg nm (.mp false [] []) fun sg'=>put2 sg' (.row nm)) (setK sg nm (.mpb [] [] [] 0) fun sg'=>put2 sg' (.row nm))
  |_=>False
 |.mpe kt z m x ne=>match ev tm m,ev tm x with
  |some (.row i),some kv=>match getR sg i with
   |.mpb ks us bn n=>match neLP tm [.row i] ne with
    |true=>MpeE kt ks us bn n kv z fun v b ks' us' bn' n'=>setK sg i (.mpb ks' us' bn' n') fun sg'=>put2 sg' (.tup [v, .int .i64 b])
    |false=>False
   |_=>False
  |_,_=>False
 |.mes m st v ne=>match ev tm m,ev tm st,ev tm v with
  |some (.row i),some (.int _ b),some vv=>match getR sg i with
   |.mpb ks us bn n=>match vv.flat,neLP tm [.row i] ne with
    |true,true=>MesE us bn b vv fun us'=>setK sg i (.mpb ks us' bn n) fun sg'=>put2 sg' .gone
    |_,_=>False
   |_=>False
  |_,_,_=>False
 |.mez x=>match ev tm x with
  |some (.row i)=>match getR sg i with
   |.itr _ _ _ [kv,uv]=>put (.tup [kv,uv])
   |.itd [.row m] n mem=>match getR sg m with
    |.mpb ks us bn n'=>EntD ks us bn n n' mem fun kv uv=>put (.tup [kv,uv])
    |_=>False
   |_=>False
  |_=>False
 |.mnz x=>match ev tm x with
  |some (.row i)=>match getR sg i with
   |.itr ks us seen _=>NxE ks us seen (fun j kv uv=>setK sg i (.itr ks us (seen++[j]) [kv,uv]) fun sg'=>put2 sg' (.tup [.bool true,kv,uv])) (put (.tup [.bool false]))
   |.itd [.row m] n mem=>match getR sg m with
    |.mpb ks us bn n'=>NxD ks us bn n n' mem (fun b kv uv=>setK sg i (.itd [.row m] n (mem++[b])) fun sg'=>put2 sg' (.tup [.bool true,kv,uv])) (setK sg m (.mp false ks us) fun sg'=>put2 sg' (.tup [.bool false]))
    |_=>False
   |_=>False
  |_=>False
 |.srg nm x=>match getR sg nm,ev tm x with
  |.fresh,some (.str f)=>setK sg nm (.sit f 0) fun sg'=>put2 sg' (.row nm)
  |_,_=>False
 |.snx x=>match ev tm x with
  |some (.row i)=>match getR sg i with
   |.sit f pos=>SnE f pos (fun c w=>setK sg i (.sit f (pos+w)) fun sg'=>put2 sg' (.tup [.bool true, .int .i64 pos, .int .i32 c])) (put (.tup [.bool false]))
   |_=>False
  |_=>False
 |.men x=>match ev tm x with
  |some (.row i)=>match getR sg i with
   |.itr _ _ _ [kv,uv]=>put (.tup [kv,uv])
   |_=>False
  |_=>False
 |.lkp kt ok z m x=>match ev tm m,ev tm x with
  |some (.imp ks us),some kv=>LkE kt ks us kv fun r=>put (lkR ok z r)
  |some (.row i),some kv=>match getR sg i with
   |.mp _ ks us=>LkE kt ks us kv fun r=>put (lkR ok z r)
   |.mpo ks us=>LkE kt ks us kv fun r=>put (lkR ok z r)
   |.mpb ks us _ _=>LkE kt ks us kv fun r=>put (lkR ok z r)
   |_=>False
  |_,_=>False
 |.stz ag n a x ne=>match ev tm a,ev tm x with
  |some (.own i off),some v=>match getR sg i with
   |.box false cs=>match neLP tm [.own i off,v] ne with
    |true=>cellsP ag v fun vs=>oneP vs (match decide (vs.length=n),decide (off+n<=cs.length)with
     |true,true=>spliceK cs off vs fun cs'=>setK sg i (.box false cs') fun sg'=>k tm sg' gh
     |_,_=>False)
    |false=>False
   |_=>False
  |some (.elt i sz m j),some v=>match getR sg i with
   |.row false el sz' es=>match AV.reach sg v with
    |some z=>match AV.frz sg 8 v with
     |some v'=>match neLP tm [.elt i sz m j,v] ne,memN (fstN z) i,decide (sz'=sz)with
      |true,false,true=>cellsP ag v' fun vs'=>oneP vs' (match decide (vs'.length=n)with
       |true=>IaE es m fun cs=>match decide (j+n<=cs.length)with
        |true=>spliceK cs j vs' fun cs'=>setLK sg z fun sg1=>setK sg1 i (.row false el sz (es.set m cs')) fun sg'=>put2 sg' .gone
        |false=>False
       |false=>False)
      |_,_,_=>False
     |none=>False
    |none=>False
   |_=>False
  |_,_=>False
 |.mlen x=>match ev tm x with
  |some (.imp ks _)=>put (.int .i64 ks.length)
  |some (.row i)=>match getR sg i with
   |.mp _ ks _=>put (.int .i64 ks.length)
   |_=>False
  |_=>False
where
 put (v:AV):Prop:=match d with
  |some d=>k ((d,v)::tm) sg gh
  |none=>k tm sg gh
 put2 (sg':List Res) (v:AV):Prop:=match d with
  |some d=>k ((d,v)::tm) sg' gh
  |none=>k tm sg' gh
 put3 (gh':Gh) (v:AV):Prop:=match d with
  |some d=>k ((d,v)::tm) sg gh'
  |none=>k tm sg gh'
 put4 (sg':List Res) (gh':Gh) (v:AV):Prop:=match d with
  |some d=>k ((d,v)::tm) sg' gh'
  |none=>k tm sg' gh'
theorem evP_ok{E:Env}{d:Option Nat}{o:Ixo}{tm:Tm}{sg:List Res}{gh:Gh}{k:Tm->List Res->Gh->Prop}(h:evP E d o tm sg gh k):evO E d o ⟨tm,sg,gh⟩ fun s=>k s.tm s.sg s.gh:=by
 have hev:∀x,(St.mk tm sg gh).ev x=ev tm x:=fun x=>by cases x<;>rfl
 have hput:∀v,evP.put d tm sg gh k v->(fun s:St=>k s.tm s.sg s.gh) (app d ⟨tm,sg,gh⟩ (.val v)):=fun v hv=>by cases d<;>exact hv
 have hput2:∀nm r v,evP.put2 d tm gh k (sg.set nm r) v->(fun s:St=>k s.tm s.sg s.gh) (app d ⟨tm,sg,gh⟩ (.new nm r v)):=fun nm r v hv=>by cases d<;>exact hv
 have hbig:∀l v,evP.put2 d tm gh k (setL sg l) v->(fun s:St=>k s.tm s.sg s.gh) (app d ⟨tm,sg,gh⟩ (.big l v)):=fun l v hv=>by cases d<;>exact hv
 have hex:∀(o:Ixo) (κ : Eff->Prop),evX E o ⟨tm,sg,gh⟩ κ -> (∀e,κ e->(fun s:St=>k s.tm s.sg s.gh) (app d ⟨tm,sg,gh⟩ e))->evO E d o ⟨tm,sg,gh⟩ fun s=>k s.tm s.sg s.gh:=fun o κ h1 h2=>evX_mono h1 h2
 have put1:∀ {o:Ixo} {v:AV},(∀ κ : Eff->Prop,κ (.val v)->evX E o ⟨tm,sg,gh⟩ κ)->evP.put d tm sg gh k v->evO E d o ⟨tm,sg,gh⟩ fun s=>k s.tm s.sg s.gh:=fun h1 h2=>h1 _ (hput _ h2)
 cases o with
 |mv x=>
  simp only[evP]at h
  split at h
  ·rename_i v hv;exact put1 (fun κ hk=>by simp only[evX,hev,hv];exact hk) h
  ·exact h.elim
 |pick c a b=>
  simp only[evP]at h
  split at h
  ·rename_i c' x y h1 h2 h3
   unfold evO
   simp only[evX,hev,h1,h2,h3]
   exact brB_mono ⟨h.1,h.2⟩ (hput _) (hput _)
  ·exact h.elim
 |alloc nm zs=>
  simp only[evP,getR_eq]at h
  split at h
  ·rename_i h1
   rw[setK_iff]at h
   unfold evO
   simp only[evX,h1]
   exact hput2 _ _ _ h
  ·exact h.elim
 |mks nm el sz bytes zs x y=>
  simp only[evP,getR_eq]at h
  split at h
  ·rename_i kl n kc m h1 h2 h3
   obtain⟨e1,e2,e3,h⟩:=h
   rw[setK_iff]at h
   unfold evO
   simp only[evX,hev,h1,h2,h3]
   exact⟨e1,e2,e3,hput2 _ _ _ h⟩
  ·exact h.elim
 |box nm ag x=>
  simp only[evP,getR_eq]at h
  split at h
  ·rename_i v h1 h2
   unfold evO
   simp only[evX,hev,h1,h2]
   exact cellsP_ok h fun cs hc=>by rw[setK_iff]at hc;exact hput2 _ _ _ hc
  ·exact h.elim
 |build zs ps=>
  simp only[evP]at h
  obtain⟨l,h1,h2⟩:=buildK_ok (sg:=sg) (gh:=gh) h
  exact put1 (fun κ hk=>by simp only[evX,h1];exact hk) h2
 |load ag n a=>
  simp only[evP,getR_eq,dropA_eq]at h
  split at h
  ·rename_i i off h1
   split at h
   ·rename_i ice cs h2
    obtain⟨v,h3,h4⟩:=ldK_ok h
    exact put1 (fun κ hk=>by simp only[evX,hev,h1,h2,h3];exact hk) h4
   ·exact h.elim
  ·rename_i i sz m j h1
   split at h
   ·rename_i ice el sz' es h2
    split at h
    ·rename_i h5
     have h5':=of_decide_eq_true h5
     obtain⟨k1,k2,h⟩:=h
     obtain⟨v,h3,h4⟩:=ldK_ok h
     exact put1 (fun κ hk=>by simp only[evX,hev,h1,h2,if_pos h5'];exact⟨k1,k2,by simp only[h3];exact hk⟩) h4
    ·exact h.elim
   ·exact h.elim
  ·rename_i cs h1
   obtain⟨v,h3,h4⟩:=ldK_ok h
   exact put1 (fun κ hk=>by simp only[evX,hev,h1,h3];exact hk) h4
  ·exact h.elim
 |store ag n a x ne=>
  simp only[evP,getR_eq]at h
  split at h
  ·rename_i i off v h1 h2
   split at h
   ·rename_i cs h3
    unfold evO
    simp only[evX,hev,h1,h2,h3]
    have fin:∀vs:List AV,need (vs.all AV.one=true) (match decide (vs.length=n),decide (off+n<=cs.length),neP tm i ne with
      |true,true,true=>spliceK cs off vs fun cs'=>setK sg i (.box false cs') fun sg'=>k tm sg' gh
      |_,_,_=>False)->need (vs.all AV.one=true) (if vs.length=n/\off+n<=cs.length/\neOk ⟨tm,sg,gh⟩ i ne=true then k tm (sg.set i (.box false (splice cs off vs))) gh else False):=fun vs hh=>by
     obtain⟨h4,h5⟩:=hh
     refine⟨h4,?_⟩
     split at h5
     ·rename_i h6 h7 h8
      rw[if_pos ⟨of_decide_eq_true h6,of_decide_eq_true h7,neP_ok h8⟩]
      rw[spliceK_iff,setK_iff]at h5
      exact h5
     ·exact h5.elim
    exact cellsP_ok h fun vs hv=>fin vs (oneP_ok hv)
   ·exact h.elim
  ·rename_i i sz m j v h1 h2
   split at h
   ·rename_i el sz' es h3
    unfold evO
    simp only[evX,hev,h1,h2,h3]
    have fin:∀vs:List AV,need (vs.all AV.one=true) (match decide (sz'=sz),decide (vs.length=n),AV.puL vs,neP tm i ne with
      |true,true,true,true=>match AV.frzL sg 8 vs with
       |some vs'=>IaE es m fun cs=>match decide (j+n<=cs.length)with
        |true=>spliceK cs j vs' fun cs'=>setK sg i (.row false el sz (es.set m cs')) fun sg'=>k tm sg' gh
        |false=>False
       |none=>False
      |_,_,_,_=>False)->need (vs.all AV.one=true) (if sz'=sz/\vs.length=n/\AV.puL vs=true/\neOk ⟨tm,sg,gh⟩ i ne=true then
       match AV.frzL sg 8 vs with
       |some vs'=>iaE es m fun cs=>if j+n<=cs.length then k tm (sg.set i (.row false el sz (es.set m (splice cs j vs')))) gh else False
       |none=>False
      else False):=fun vs hh=>by
     obtain⟨h4,h5⟩:=hh
     refine⟨h4,?_⟩
     split at h5
     ·rename_i h6 h7 h8 h9
      rw[if_pos ⟨of_decide_eq_true h6,of_decide_eq_true h7,h8,neP_ok h9⟩]
      split at h5
      ·rename_i vs' hf
       obtain⟨k1,k2,h5⟩:=h5
       refine⟨k1,k2,?_⟩
       split at h5
       ·rename_i h10
        simp only[if_pos (of_decide_eq_true h10)]
        rw[spliceK_iff,setK_iff]at h5
        exact h5
       ·exact h5.elim
      ·exact h5.elim
     ·exact h5.elim
    exact cellsP_ok h fun vs hv=>fin vs (oneP_ok hv)
   ·exact h.elim
  ·exact h.elim
 |bin op x y=>
  simp only[evP]at h
  split at h
  ·rename_i k1 a k2 b h1 h2
   split at h
   ·rename_i h3
    unfold evO
    simp only[evX,hev,h1,h2,h3,if_true]
    cases op<;>simp only[evBin,evBinQ,wrE,need]at h⊢<;>first|exact h.elim|exact hput _ h|exact hput _ h.out|exact⟨h.1,hput _ h.2.out⟩|exact⟨h.1,hput _ h.2⟩
   ·exact h.elim
  ·exact h.elim
 |eqb neg x y=>
  simp only[evP]at h
  split at h
  ·rename_i a b h1 h2
   cases neg
   ·exact put1 (fun κ hk=>by simp only[evX,hev,h1,h2];exact hk) h
   ·exact put1 (fun κ hk=>by simp only[evX,hev,h1,h2];exact hk) h
  ·exact h.elim
 |eqs neg T x y=>
  simp only[evP]at h
  split at h
  ·rename_i a b h1 h2
   split at h
   ·rename_i r h3
    cases neg
    ·exact put1 (fun κ hk=>by simp only[evX,hev,h1,h2,h3];exact hk) h
    ·exact put1 (fun κ hk=>by simp only[evX,hev,h1,h2,h3];exact hk) h
   ·exact h.elim
  ·exact h.elim
 |un op x=>
  simp only[evP]at h
  split at h
  ·rename_i h1;exact put1 (fun κ hk=>by simp only[evX,hev,h1];exact hk) h
  ·rename_i h1;exact put1 (fun κ hk=>by simp only[evX,hev,h1,wrE];exact hk) h.out
  ·exact h.elim
 |conv kd x=>
  simp only[evP]at h
  split at h
  ·rename_i h1;exact put1 (fun κ hk=>by simp only[evX,hev,h1,wrE];exact hk) h.out
  ·exact h.elim
 |faddr off x=>
  simp only[evP,dropA_eq]at h
  split at h
  ·rename_i h1;exact put1 (fun κ hk=>by simp only[evX,hev,h1];exact hk) h
  ·rename_i h1;exact put1 (fun κ hk=>by simp only[evX,hev,h1];exact hk) h
  ·rename_i h1;exact put1 (fun κ hk=>by simp only[evX,hev,h1];exact hk) h
  ·exact h.elim
 |field ag n off x=>
  simp only[evP,dropA_eq]at h
  split at h
  ·rename_i h1
   obtain⟨v,h3,h4⟩:=ldK_ok h
   exact put1 (fun κ hk=>by simp only[evX,hev,h1,h3];exact hk) h4
  ·exact h.elim
 |iaddr sz x i=>
  simp only[evP,getR_eq]at h
  split at h
  ·rename_i h1 h2
   obtain⟨h4,h5,h⟩:=h
   split at h
   ·rename_i h3
    have h3':=of_decide_eq_true h3
    unfold evO
    simp only[evX,hev,h1,h2]
    exact⟨h4,h5,by simp only[if_pos h3'];exact hput _ h⟩
   ·exact h.elim
  ·rename_i h1 h2
   split at h
   ·rename_i h3
    split at h
    ·rename_i h4
     have h4':=of_decide_eq_true h4
     unfold evO
     simp only[evX,hev,h1,h2,h3,if_pos h4']
     exact⟨h.1,hput _ h.2⟩
    ·exact h.elim
   ·exact h.elim
  ·rename_i h1 h2
   split at h
   ·rename_i h3
    split at h
    ·rename_i h4
     have h4':=of_decide_eq_true h4
     unfold evO
     simp only[evX,hev,h1,h2,h3,if_pos h4']
     exact⟨h.1,hput _ h.2⟩
    ·exact h.elim
   ·exact h.elim
  ·exact h.elim
 |bsl nm el sz ps ne=>
  simp only[evP,getR_eq]at h
  split at h
  ·rename_i h1
   obtain⟨vs,h2,h3⟩:=evlK_ok (sg:=sg) (gh:=gh) h
   obtain⟨es,z,h4,h5⟩:=rowsK_ok h3
   split at h5
   ·rename_i h6
    have h6':=neLP_ok (sg:=sg) (gh:=gh) h6
    rw[setLK_iff,setK_iff]at h5
    unfold evO
    simp only[evX,h1,h2,h4,h6']
    refine hbig _ _ ?_
    rw[setL_append]
    exact h5
   ·exact h5.elim
  ·exact h.elim
 |apd nm el sz bytes x y ne=>
  simp only[evP,getR_eq]at h
  split at h
  ·rename_i u v h1 h2 h3
   split at h
   ·rename_i es z es' h4 h5
    split at h
    ·rename_i h6 h7
     obtain⟨k1,k2,h⟩:=h
     unfold evO
     simp only[evX,hev,h1,h2,h3,h4,h5]
     rw[if_pos ⟨h6,neLP_ok h7⟩]
     cases hN:apdN u es' with
     |true=>
      simp only[hN]at h
      exact⟨k1,k2,hbig [] u h⟩
     |false=>
     simp only[hN]at h
     rw[setLK_iff,setK_iff]at h
     refine⟨k1,k2,hbig _ _ ?_⟩
     rw[setL_append]
     exact h
    ·exact h.elim
   ·exact h.elim
  ·exact h.elim
 |callz nm ct f xs ne=>
  simp only[evP]at h
  obtain⟨vs,h1,h2⟩:=evlK_ok (sg:=sg) (gh:=gh) h
  split at h2
  ·rename_i h3
   unfold evO
   simp only[evX,h1]
   split at h2
   ·rename_i h4
    rw[if_pos ⟨neLP_ok h3,h4⟩]
    obtain⟨args',z,k1,k2,k3⟩:=h2.out.resolve_right (fun h=>by cases h.1)
    refine⟨args',z,k1,k2,?_⟩
    rcases k3 with⟨R,k3,k4⟩|⟨R,k3,k4⟩|⟨R,k3,k4⟩
    ·refine .inl ⟨R,k3,fun r hr=>hbig _ _ ?_⟩
     have h5:setLK sg z (fun sg'=>evP.put2 d tm gh k sg' r):=k4 r hr
     rw[setLK_iff]at h5
     exact h5
    ·refine .inr (.inl ⟨R,k3,fun r rows hr=>⟨(k4 r rows hr).1,hbig _ _ ?_⟩⟩)
     have h5:setLK sg (z++nameR rows nm) (fun sg'=>evP.put2 d tm gh k sg' (r.rnr (posN rows nm))):=(k4 r rows hr).2
     rw[setLK_iff]at h5
     exact h5
    ·refine .inr (.inr ⟨R,k3,fun r rows hr=>⟨(k4 r rows hr).1,(k4 r rows hr).2.1,(k4 r rows hr).2.2.1,hbig _ _ ?_⟩⟩)
     have h5:setLK sg (nameR rows nm) (fun sg'=>evP.put2 d tm gh k sg' (r.rnr (posN rows nm))):=(k4 r rows hr).2.2.2
     rw[setLK_iff]at h5
     exact h5
   ·exact h2.elim
  ·exact h2.elim
 |callw nm ct f xs=>
  simp only[evP]at h
  obtain⟨vs,h1,h2⟩:=evlK_ok (sg:=sg) (gh:=gh) h
  split at h2
  ·rename_i h4
   unfold evO
   simp only[evX,h1]
   rw[if_pos h4]
   have tr:∀z r,(setLK sg z fun sg'=>evP.put2 d tm gh k sg' r)->(fun s:St=>k s.tm s.sg s.gh) (app d ⟨tm,sg,gh⟩ (.big z r)):=fun z r h5=>hbig _ _ (by rw[setLK_iff]at h5;exact h5)
   rcases h2.out with⟨args',z,k1,k2,k3⟩|⟨_,⟨args',R,q1,q2,q3⟩|⟨args',R,q2,q3,q4⟩|⟨lend,⟨ns,args',ins,R,q1,hlen,hnd,hh,hib,hlive,ha,hb,q2⟩⟩|⟨args',z,k1,k2,k3⟩⟩
   ·refine .inl ⟨args',z,k1,k2,?_⟩
    rcases k3 with⟨R,k3,k4⟩|⟨R,k3,k4⟩|⟨R,k3,k4⟩
    ·exact .inl ⟨R,k3,fun r hr=>tr _ _ (k4 r hr)⟩
    ·exact .inr (.inl ⟨R,k3,fun r rows hr=>⟨(k4 r rows hr).1,tr _ _ (k4 r rows hr).2⟩⟩)
    ·exact .inr (.inr ⟨R,k3,fun r rows hr=>⟨(k4 r rows hr).1,(k4 r rows hr).2.1,(k4 r rows hr).2.2.1,tr _ _ (k4 r rows hr).2.2.2⟩⟩)
   ·exact .inr (.inl ⟨args',R,q1,q2,fun r hr=>⟨(q3 r hr).1,tr _ _ (q3 r hr).2⟩⟩)
   ·exact .inr (.inr (.inl ⟨args',R,q2,q3,fun r rows hr=>⟨(q4 r rows hr).1,(q4 r rows hr).2.1,(q4 r rows hr).2.2.1,tr _ _ (q4 r rows hr).2.2.2⟩⟩))
   ·exact .inr (.inr (.inr (.inl ⟨lend,⟨ns,args',ins,R,q1,hlen,hnd,hh,hib,hlive,ha,hb,fun r outs hr=>by
     obtain⟨c1,c2,c3,c4,c5,c6⟩:=q2 r outs hr
     exact⟨c1,c2,c3,c4,c5,tr _ _ c6⟩⟩⟩)))
   ·refine .inr (.inr (.inr (.inr ⟨args',z,k1,k2,?_⟩)))
    rcases k3 with⟨R,k3,k4⟩|⟨R,k3,k4⟩|⟨R,k3,k4⟩
    ·exact .inl ⟨R,k3,fun r hr=>tr _ _ (k4 r hr)⟩
    ·exact .inr (.inl ⟨R,k3,fun r rows hr=>⟨(k4 r rows hr).1,tr _ _ (k4 r rows hr).2⟩⟩)
    ·exact .inr (.inr ⟨R,k3,fun r rows hr=>⟨(k4 r rows hr).1,(k4 r rows hr).2.1,(k4 r rows hr).2.2.1,tr _ _ (k4 r rows hr).2.2.2⟩⟩)
  ·exact h2.elim
 |aidx ag n m x i=>
  simp only[evP]at h
  split at h
  ·rename_i h1 h2
   obtain⟨v,k0,k1,k2,k3⟩:=h.out
   exact put1 (fun κ hk=>by simp only[evX,hev,h1,h2];exact⟨v,k0,k1,k2,hk⟩) k3
  ·exact h.elim
 |sidx x i=>
  simp only[evP]at h
  split at h
  ·rename_i h1 h2
   obtain⟨k0,k1,k3⟩:=h.out
   exact put1 (fun κ hk=>by simp only[evX,hev,h1,h2];exact⟨k0,k1,hk⟩) k3
  ·exact h.elim
 |pur p xs=>
  simp only[evP]at h
  obtain⟨vs,h1,h2⟩:=evlK_ok (sg:=sg) (gh:=gh) h
  obtain⟨v,k1,k2⟩:=purE_out (PurP_ok h2)
  exact put1 (fun κ hk=>by simp only[evX,h1];exact k2 _ hk) k1
 |b2s x=>
  simp only[evP,getR_eq]at h
  split at h
  ·rename_i h1
   obtain⟨l,k0,k1⟩:=h.out
   exact put1 (fun κ hk=>by simp only[evX,hev,h1];exact⟨l,k0,hk⟩) k1
  ·rename_i h1;exact put1 (fun κ hk=>by simp only[evX,hev,h1];exact hk) h
  ·rename_i h1
   split at h
   ·rename_i h2
    obtain⟨l,k0,k1⟩:=h.out
    exact put1 (fun κ hk=>by simp only[evX,hev,h1,h2];exact⟨l,k0,hk⟩) k1
   ·exact h.elim
  ·exact h.elim
 |mm mx xs=>
  simp only[evP]at h
  obtain⟨vs,h1,h2⟩:=evlK_ok (sg:=sg) (gh:=gh) h
  split at h2
  ·split at h2
   ·rename_i h3
    exact put1 (fun κ hk=>by simp only[evX,h1,h3];exact hk) h2
   ·exact h2.elim
  ·exact h2.elim
 |sl3 sz x hi mx=>
  simp only[evP]at h
  unfold evO
  simp only[evX,hev]
  split at h
  ·rename_i h1 h2 h3
   try simp only[h1,h2,h3]
   obtain⟨h0,h⟩:=h
   exact⟨h0,h.1,h.2,h.3,h.4,hput _ h.5⟩
  ·exact h.elim
 |eqn neg x=>
  simp only[evP]at h
  unfold evO
  simp only[evX,hev]
  split at h
  ·rename_i h1
   try simp only[h1]
   exact hput _ h
  ·rename_i h1
   try simp only[h1]
   exact⟨h.1,hput _ h.2⟩
  ·rename_i h1
   try simp only[h1]
   exact hput _ h
  ·exact h.elim
 |sli sz x lo hi=>
  simp only[evP,boP_eq (sg:=sg) (gh:=gh)]at h
  unfold evO
  simp only[evX,hev]
  split at h
  ·rename_i h1 h2
   try simp only[h1,h2]
   cases hi with
   |none=>exact⟨h.1,h.2,h.3,h.4,hput _ h.5⟩
   |some q=>
    simp only at h⊢
    split at h
    ·rename_i h3
     try simp only[h3]
     exact⟨h.1,h.2,h.3,h.4,hput _ h.5⟩
    ·exact h.elim
  ·rename_i i lo h1 h2
   try simp only[h1,h2]
   rw[getR_eq]at h
   split at h
   ·rename_i h4
    try simp only[h4]
    split at h
    ·rename_i hsz
     rw[if_pos (of_decide_eq_true hsz)]
     cases hi with
     |none=>exact⟨h.1,hput _ h.2⟩
     |some q=>
      simp only at h⊢
      split at h
      ·rename_i h3
       try simp only[h3]
       exact⟨h.1,hput _ h.2⟩
      ·exact h.elim
    ·exact h.elim
   ·exact h.elim
  ·exact h.elim
 |mkfn f caps=>
  simp only[evP]at h
  obtain⟨vs,h1,h2⟩:=evlK_ok (sg:=sg) (gh:=gh) h
  exact put1 (fun κ hk=>by simp only[evX,h1];exact hk) h2
 |mkmt f xs=>
  simp only[evP]at h
  obtain⟨vs,h1,h2⟩:=evlK_ok (sg:=sg) (gh:=gh) h
  split at h2
  ·rename_i vs' h3 h4
   exact put1 (fun κ hk=>by simp only[evX,h1,h3,h4];exact hk) h2
  ·exact h2.elim
 |extract i x=>
  simp only[evP,dropA_eq]at h
  split at h
  ·rename_i vs h1
   split at h
   ·rename_i v rest h2
    have h3:vs[i]?=some v:=by have:=congrArg (·[0]?) h2;simpa using this
    exact put1 (fun κ hk=>by simp only[evX,hev,h1,h3];exact hk) h
   ·exact h.elim
  ·exact h.elim
 |call f xs=>
  simp only[evP]at h
  obtain⟨vs,h1,h2⟩:=evlK_ok (sg:=sg) (gh:=gh) h
  unfold evO
  simp only[evX,h1]
  rcases h2.out with⟨args',R,a0,a1,a2,a3⟩|⟨args',R,a1,a2,a3⟩
  ·exact .inl ⟨args',R,a0,a1,a2,fun r hr=>hput _ (a3 r hr)⟩
  ·exact .inr ⟨args',R,a1,a2,fun r hr=>⟨(a3 r hr).1,hput _ (a3 r hr).2⟩⟩
 |callv g xs=>
  simp only[evP]at h
  split at h
  ·rename_i gv hg
   obtain⟨vs,h1,h2⟩:=evlK_ok (sg:=sg) (gh:=gh) h
   unfold evO
   simp only[evX,hev,hg,h1]
   split at h2
   ·rename_i hyl
    try rw[hyl]
    obtain⟨y0,v,z,k',y1,yz,y3,y4⟩:=h2.out.resolve_right (by simp)
    have h3:∀g v,evP.put3 d tm sg k g v->(fun s:St=>k s.tm s.sg s.gh) (app d ⟨tm,sg,gh⟩ (.yl g v)):=fun g v hv=>by cases d<;>exact hv
    rcases yz with⟨rfl,rfl,y2⟩|⟨yz,_⟩
    ·exact⟨y0,k',y1,y2,h3 _ _ y3,h3 _ _ y4⟩
    ·cases yz
   rename_i hyl
   try rw[hyl]
   rcases h2.out with(⟨g',args',R,b0,b1,a0,a1,a2,a3⟩|⟨g',args',R,a0,a1,a2,a3⟩)|⟨hf,_⟩
   ·exact .inl ⟨g',args',R,b0,b1,a0,a1,a2,fun r hr=>hput _ (a3 r hr)⟩
   ·exact .inr ⟨g',args',R,a0,a1,a2,fun r hr=>⟨(a3 r hr).1,hput _ (a3 r hr).2⟩⟩
   ·cases hf
  ·exact h.elim
 |callx g xs=>
  simp only[evP]at h
  split at h
  ·rename_i gv hg
   obtain⟨vs,h1,h2⟩:=evlK_ok (sg:=sg) (gh:=gh) h
   unfold evO
   simp only[evX,hev,hg,h1]
   have tr:∀z r,(setLK sg z fun sg'=>evP.put2 d tm gh k sg' r)->(fun s:St=>k s.tm s.sg s.gh) (app d ⟨tm,sg,gh⟩ (.big z r)):=fun z r h5=>hbig _ _ (by rw[setLK_iff]at h5;exact h5)
   split at h2
   ·rename_i hyl
    try rw[hyl]
    have h3:∀z g v,(setLK sg z fun sg'=>evP.put4 d tm k sg' g v)->(fun s:St=>k s.tm s.sg s.gh) (app d ⟨tm,sg,gh⟩ (.ylz z g v)):=fun z g v hv=>by rw[setLK_iff]at hv;cases d<;>exact hv
    rcases h2.out with⟨y0,v,z,k',y1,yz,y3,y4⟩|⟨_,hy⟩
    ·exact .inl ⟨y0,v,z,k',y1,yz.imp id (·.2),h3 _ _ _ y3,h3 _ _ _ y4⟩
    ·obtain⟨y0,i,el,sz,es,k',r1,r2,r3,r4,r5,r6⟩:=hy.out
     exact .inr ⟨y0,i,el,sz,es,k',r1,r2,r3,r4,h3 [] _ _ r5,h3 [] _ _ r6⟩
   rename_i hyl
   try rw[hyl]
   rcases h2.out with(⟨g',args',R,b0,b1,a0,a1,a2,a3⟩|⟨g',args',R,a0,a1,a2,a3⟩)|⟨_,⟨f,caps,lend,e,hb',⟨ns,args',ins,R,q1,hlen,hnd,hh,hib,hlive,ha,hb,q2⟩⟩|hy⟩
   ·exact .inl (.inl (.inl ⟨g',args',R,b0,b1,a0,a1,a2,fun r hr=>tr _ _ (a3 r hr)⟩))
   ·exact .inl (.inl (.inr ⟨g',args',R,a0,a1,a2,fun r hr=>⟨(a3 r hr).1,tr _ _ (a3 r hr).2⟩⟩))
   ·exact .inl (.inr ⟨f,caps,lend,e,hb',⟨ns,args',ins,R,q1,hlen,hnd,hh,hib,hlive,ha,hb,fun r outs hr=>by
     obtain⟨c1,c2,c3,c4,c5,c6⟩:=q2 r outs hr
     exact⟨c1,c2,c3,c4,c5,tr _ _ c6⟩⟩⟩)
   ·obtain⟨y0,f,caps,ns,args',ins,R,r1,r2,r3,r4,r5,r6,r7,r8,r9,r10,r11⟩:=hy.out
    exact .inr ⟨y0,f,caps,ns,args',ins,R,r1,r2,r3,r4,r5,r6,r7,r8,r9,r10,fun r outs k' st' hr=>by
     obtain⟨c1,c2,c3,c4⟩:=r11 r outs k' st' hr
     refine⟨c1,c2,c3,?_⟩
     rw[setLK_iff]at c4
     cases d<;>exact c4⟩
  ·exact h.elim
 |len x=>
  simp only[evP,getR_eq]at h
  split at h
  ·rename_i h1;exact put1 (fun κ hk=>by simp only[evX,hev,h1];exact hk) h
  ·rename_i h1;exact put1 (fun κ hk=>by simp only[evX,hev,h1];exact hk) h
  ·rename_i h1
   split at h
   ·rename_i h2;exact put1 (fun κ hk=>by simp only[evX,hev,h1,h2];exact hk) h
   ·exact h.elim
  ·rename_i h1;exact put1 (fun κ hk=>by simp only[evX,hev,h1];exact hk) h
  ·exact h.elim
 |slen x=>
  simp only[evP]at h
  split at h
  ·rename_i h1;exact put1 (fun κ hk=>by simp only[evX,hev,h1];exact hk) h
  ·exact h.elim
 |nilck x=>
  simp only[evP]at h
  split at h
  ·rename_i h1;exact put1 (fun κ hk=>by simp only[evX,hev,h1];exact hk) h
  ·rename_i h1;exact put1 (fun κ hk=>by simp only[evX,hev,h1];exact hk) h
  ·rename_i h1;exact put1 (fun κ hk=>by simp only[evX,hev,h1];exact hk) h
  ·rename_i h1;exact put1 (fun κ hk=>by simp only[evX,hev,h1];exact hk) h
  ·exact h.elim
 |mkm nm=>
  simp only[evP,getR_eq]at h
  split at h
  ·rename_i h1
   rw[setK_iff]at h
   unfold evO
   simp only[evX,h1]
   exact hput2 _ _ _ h
  ·exact h.elim
 |mko nm=>
  simp only[evP,getR_eq]at h
  split at h
  ·rename_i h1
   rw[setK_iff]at h
   unfold evO
   simp only[evX,h1]
   exact hput2 _ _ _ h
  ·exact h.elim
 |paddr sz m x i=>
  simp only[evP]at h
  split at h
  ·rename_i h1 h2
   unfold evO
   simp only[evX,hev,h1,h2]
   exact⟨h.1,hput _ h.2⟩
  ·rename_i h1 h2
   unfold evO
   simp only[evX,hev,h1,h2]
   exact⟨h.1,hput _ h.2⟩
  ·exact h.elim
 |mpu kt m x v ne=>
  simp only[evP,getR_eq]at h
  split at h
  ·rename_i i kv vv h1 h2 h3
   split at h
   ·rename_i ks us h4
    split at h
    ·rename_i z h5
     split at h
     ·rename_i v' h6
      split at h
      ·rename_i h7 h8
       obtain⟨ks',us',h9,h⟩:=h.out
       rw[setLK_iff,setK_iff]at h
       unfold evO
       simp only[evX,hev,h1,h2,h3,h4,h5,h6]
       rw[if_pos ⟨h7,neLP_ok h8⟩]
       refine mpI h9 (hbig _ _ ?_)
       rw[setL_append]
       exact h
      ·exact h.elim
     ·exact h.elim
    ·exact h.elim
   ·rename_i ks us h4
    split at h
    ·rename_i h8
     obtain⟨ks',us',h9,h⟩:=h.out
     rw[setK_iff]at h
     unfold evO
     simp only[evX,hev,h1,h2,h3,h4]
     rw[if_pos (neLP_ok h8)]
     exact mpI h9 (hbig _ _ (by simpa only[setL]using h))
    ·exact h.elim
   ·rename_i ks us bn n h4
    split at h
    ·rename_i h7 h8
     obtain⟨ks',us',bn',n',h9,h⟩:=h.out
     rw[setK_iff]at h
     unfold evO
     simp only[evX,hev,h1,h2,h3,h4]
     rw[if_pos ⟨h7,neLP_ok h8⟩]
     exact mdI h9 (hbig _ _ (by simpa only[setL]using h))
    ·exact h.elim
   ·exact h.elim
  ·exact h.elim
 |mrx nm m=>
  simp only[evP,getR_eq]at h
  split at h
  ·rename_i v h1 h2
   unfold evO
   simp only[evX,hev,h1,h2]
   have h0:=h.out
   clear h
   rcases h0 with h|h
   ·refine .fz ?_
    unfold evX.mrgK
    split at h
    ·rename_i z h5
     split at h
     ·rename_i ks us h6
      rw[setLK_iff,setK_iff]at h
      simp only[h5,h6]
      refine hbig _ _ ?_
      rw[setL_append]
      exact h
     ·exact h.elim
    ·exact h.elim
   ·refine .bn ?_
    split at h
    ·rename_i i
     split at h
     ·rename_i ks us h5
      try simp only[h5]
      intro bn n hb
      have h3:=h bn n hb
      rw[setK_iff,setK_iff]at h3
      exact hbig [(i, .mpb ks us bn n),(nm, .itd [.row i] n [])] _ h3
     ·rename_i ks us bn n h5
      try simp only[h5]
      rw[setK_iff]at h
      exact hbig [(nm, .itd [.row i] n [])] _ h
     ·exact h.elim
    ·exact h.elim
  ·exact h.elim
 |mkx nm=>
  simp only[evP,getR_eq]at h
  split at h
  ·rename_i h1
   unfold evO
   simp only[evX,h1]
   rcases h.out with h|h
   ·rw[setK_iff]at h
    exact .fz (hput2 _ _ _ h)
   ·rw[setK_iff]at h
    exact .bn (hput2 _ _ _ h)
  ·exact h.elim
 |mpe kt z m x ne=>
  simp only[evP,getR_eq]at h
  split at h
  ·rename_i i kv h1 h2
   split at h
   ·rename_i ks us bn n h4
    split at h
    ·rename_i h8
     obtain⟨v,b,ks',us',bn',n',h9,h⟩:=h.out
     rw[setK_iff]at h
     unfold evO
     simp only[evX,hev,h1,h2,h4]
     rw[if_pos (neLP_ok h8)]
     exact meI h9 (hbig _ _ (by simpa only[setL]using h))
    ·exact h.elim
   ·exact h.elim
  ·exact h.elim
 |mes m st v ne=>
  simp only[evP,getR_eq]at h
  split at h
  ·rename_i i kd b vv h1 h2 h3
   split at h
   ·rename_i ks us bn n h4
    split at h
    ·rename_i h7 h8
     obtain⟨j,c,us',h9,h10,h11,h⟩:=h.out
     rw[setK_iff]at h
     unfold evO
     simp only[evX,hev,h1,h2,h3,h4]
     rw[if_pos ⟨h7,neLP_ok h8⟩]
     exact msI j c h9 h10 h11 (hbig _ _ (by simpa only[setL]using h))
    ·exact h.elim
   ·exact h.elim
  ·exact h.elim
 |mez x=>
  simp only[evP,getR_eq]at h
  split at h
  ·rename_i i h1
   split at h
   ·rename_i ks us seen kv uv h2
    exact put1 (fun κ hk=>by simp only[evX,hev,h1,h2];exact hk) h
   ·rename_i m n mem h2
    split at h
    ·rename_i ks us bn n' h4
     obtain⟨h0,j,b,kv,uv,k1,k2,k3,k4,k5⟩:=h
     exact put1 (fun κ hk=>by simp only[evX,hev,h1,h2,h4];exact enI h0 j b kv uv k1 k2 k3 k4 hk) k5
    ·exact h.elim
   ·exact h.elim
  ·exact h.elim
 |mnz x=>
  simp only[evP,getR_eq]at h
  split at h
  ·rename_i i h1
   split at h
   ·rename_i ks us seen last h2
    unfold evO
    simp only[evX,hev,h1,h2]
    refine nxI (fun j kv uv k1 k2 k3=>?_) (fun k1=>hput _ (h.none k1))
    have h3:=h.some j kv uv k1 k2 k3
    rw[setK_iff]at h3
    exact hbig [(i, .itr ks us (seen++[j]) [kv,uv])] _ h3
   ·rename_i m n mem h2
    split at h
    ·rename_i ks us bn n' h4
     unfold evO
     simp only[evX,hev,h1,h2,h4]
     refine nxD h.eq (fun j b kv uv k1 k2 k3 k4=>?_) (fun k1=>?_)
     ·have h3:=h.some j b kv uv k1 k2 k3 k4
      rw[setK_iff]at h3
      exact hbig [(i, .itd [.row m] n (mem++[b]))] _ h3
     ·have h3:=h.none k1
      rw[setK_iff]at h3
      exact hbig [(m, .mp false ks us)] _ h3
    ·exact h.elim
   ·exact h.elim
  ·exact h.elim
 |mrg nm m ne=>
  simp only[evP,getR_eq]at h
  split at h
  ·rename_i v h1 h2
   split at h
   ·rename_i z h5
    split at h
    ·rename_i ks us h6
     split at h
     ·rename_i h8
      rw[setLK_iff,setK_iff]at h
      unfold evO
      simp only[evX,hev,h1,h2,h5,h6]
      rw[if_pos (neLP_ok h8)]
      refine hbig _ _ ?_
      rw[setL_append]
      exact h
     ·exact h.elim
    ·exact h.elim
   ·exact h.elim
  ·exact h.elim
 |mnx x=>
  simp only[evP,getR_eq]at h
  split at h
  ·rename_i i h1
   split at h
   ·rename_i ks us seen last h2
    unfold evO
    simp only[evX,hev,h1,h2]
    refine nxI (fun j kv uv k1 k2 k3=>?_) (fun k1=>hput _ (h.none k1))
    have h3:=h.some j kv uv k1 k2 k3
    rw[setK_iff]at h3
    exact hbig [(i, .itr ks us (seen++[j]) [kv,uv])] _ h3
   ·exact h.elim
  ·exact h.elim
 |srg nm x=>
  simp only[evP,getR_eq]at h
  split at h
  ·rename_i f h1 h2
   rw[setK_iff]at h
   unfold evO
   simp only[evX,hev,h1,h2]
   exact hput2 _ _ _ h
  ·exact h.elim
 |snx x=>
  simp only[evP,getR_eq]at h
  split at h
  ·rename_i i h1
   split at h
   ·rename_i f pos h2
    unfold evO
    simp only[evX,hev,h1,h2]
    refine snI (fun k1=>?_) (fun k1=>hput _ (h.none k1))
    have h3:=h.some k1
    rw[setK_iff]at h3
    exact hbig [(i, .sit f (pos+(dec f pos).2))] _ h3
   ·exact h.elim
  ·exact h.elim
 |men x=>
  simp only[evP,getR_eq]at h
  split at h
  ·rename_i i h1
   split at h
   ·rename_i ks us seen kv uv h2
    exact put1 (fun κ hk=>by simp only[evX,hev,h1,h2];exact hk) h
   ·exact h.elim
  ·exact h.elim
 |lkp kt ok z m x=>
  simp only[evP,getR_eq]at h
  split at h
  ·rename_i h1 h2
   obtain⟨r,h3,h4⟩:=h.out
   exact put1 (fun κ hk=>by simp only[evX,hev,h1,h2];exact lkI h3 hk) h4
  ·rename_i h1 h2
   split at h
   ·rename_i h5
    obtain⟨r,h3,h4⟩:=h.out
    exact put1 (fun κ hk=>by simp only[evX,hev,h1,h2,h5];exact lkI h3 hk) h4
   ·rename_i h5
    obtain⟨r,h3,h4⟩:=h.out
    exact put1 (fun κ hk=>by simp only[evX,hev,h1,h2,h5];exact lkI h3 hk) h4
   ·rename_i h5
    obtain⟨r,h3,h4⟩:=h.out
    exact put1 (fun κ hk=>by simp only[evX,hev,h1,h2,h5];exact lkI h3 hk) h4
   ·exact h.elim
  ·exact h.elim
 |stz ag n a x ne=>
  simp only[evP,getR_eq]at h
  split at h
  ·rename_i i off v h1 h2
   split at h
   ·rename_i cs h3
    split at h
    ·rename_i h4
     unfold evO
     simp only[evX,hev,h1,h2,h3]
     rw[if_pos (neLP_ok h4)]
     refine cellsP_ok h fun vs hc=>?_
     obtain⟨q1,q2⟩:=oneP_ok hc
     refine⟨q1,?_⟩
     split at q2
     ·rename_i d1 d2
      rw[if_pos ⟨of_decide_eq_true d1,of_decide_eq_true d2⟩]
      rw[spliceK_iff,setK_iff]at q2
      cases d<;>exact q2
     ·exact q2.elim
    ·exact h.elim
   ·exact h.elim
  ·rename_i i sz m j v h1 h2
   split at h
   ·rename_i el sz' es h3
    split at h
    ·rename_i z h4
     split at h
     ·rename_i v' h5
      split at h
      ·rename_i d1 d2 d3
       unfold evO
       simp only[evX,hev,h1,h2,h3,h4,h5]
       rw[if_pos ⟨neLP_ok d1,d2,of_decide_eq_true d3⟩]
       refine cellsP_ok h fun vs hc=>?_
       obtain⟨q1,q2⟩:=oneP_ok hc
       refine⟨q1,?_⟩
       split at q2
       ·rename_i d4
        rw[if_pos (of_decide_eq_true d4)]
        obtain⟨r1,r2,r3⟩:=q2
        refine⟨r1,r2,?_⟩
        split at r3
        ·rename_i d5
         simp only[if_pos (of_decide_eq_true d5)]
         rw[spliceK_iff,setLK_iff,setK_iff]at r3
         refine hbig _ _ ?_
         rw[setL_append]
         exact r3
        ·exact r3.elim
       ·exact q2.elim
      ·exact h.elim
     ·exact h.elim
    ·exact h.elim
   ·exact h.elim
  ·exact h.elim
 |mlen x=>
  simp only[evP,getR_eq]at h
  split at h
  ·rename_i h1;exact put1 (fun κ hk=>by simp only[evX,hev,h1];exact hk) h
  ·rename_i h1
   split at h
   ·rename_i h2;exact put1 (fun κ hk=>by simp only[evX,hev,h1,h2];exact hk) h
   ·exact h.elim
  ·exact h.elim
def evsP.skip(d:Option Nat)(tm:Tm)(k:Tm->Prop):Prop:=match d with
 |some d=>k ((d, .tup [])::tm)
 |none=>k tm
abbrev KP:=Tm->List Res->Gh->Prop
def evsS(E:Env)(o:IOp)(ih:Tm->List Res->Gh->KP->Prop)(tm:Tm)(sg:List Res)(gh:Gh)(k:KP):Prop:=
 match o.g with
  |none=>evP E o.d o.o tm sg gh fun tm sg gh=>ih tm sg gh k
  |some (j,want)=>match look tm j with
   |some (.bool b)=>BrB b
    (match want with
     |true=>evP E o.d o.o ((j, .bool true)::tm) sg gh fun tm sg gh=>ih tm sg gh k
     |false=>evsP.skip o.d ((j, .bool true)::tm) fun tm=>ih tm sg gh k)
    (match want with
     |false=>evP E o.d o.o ((j, .bool false)::tm) sg gh fun tm sg gh=>ih tm sg gh k
     |true=>evsP.skip o.d ((j, .bool false)::tm) fun tm=>ih tm sg gh k)
   |some (.tup [])=>evsP.skip o.d tm fun tm=>ih tm sg gh k
   |_=>False
def evsP(E:Env)(ps:List IOp):Tm->List Res->Gh->KP->Prop:=
 @List.rec IOp (fun _=>Tm->List Res->Gh->KP->Prop) (fun tm sg gh k=>k tm sg gh) (fun o _ ih=>evsS E o ih) ps
theorem evsP_cons{E:Env}{o:IOp}{os:List IOp}{tm:Tm}{sg:List Res}{gh:Gh}{k:KP}:evsP E (o::os) tm sg gh k=evsS E o (evsP E os) tm sg gh k:=rfl
theorem evsP_ok{E:Env}:∀ {ps:List IOp} {tm:Tm} {sg:List Res} {gh:Gh} {k:Tm->List Res->Gh->Prop},evsP E ps tm sg gh k->evs E ps ⟨tm,sg,gh⟩ fun s=>k s.tm s.sg s.gh
 | [],tm,sg,gh,k,h=>h
 |o::os,tm,sg,gh,k,h=>by
  have ih:∀s:St,evsP E os s.tm s.sg s.gh k->evs E os s fun s=>k s.tm s.sg s.gh:=fun s hs=>evsP_ok hs
  have hop:∀tm',evP E o.d o.o tm' sg gh (fun tm sg gh=>evsP E os tm sg gh k)->evO E o.d o.o ⟨tm',sg,gh⟩ fun s=>evs E os s fun s=>k s.tm s.sg s.gh:=fun tm' h'=>evX_mono (evP_ok h') fun e he=>ih _ he
  have hsk:∀tm',evsP.skip o.d tm' (fun tm=>evsP E os tm sg gh k)->evs E os (St.put ⟨tm',sg,gh⟩ o.d (.tup [])) fun s=>k s.tm s.sg s.gh:=fun tm' h'=>by
   unfold evsP.skip at h'
   cases hd:o.d with
   |none=>rw[hd]at h';exact ih ⟨tm',sg,gh⟩ h'
   |some d=>rw[hd]at h';exact ih ⟨(d, .tup [])::tm',sg,gh⟩ h'
  rw[evsP_cons]at h
  simp only[evsS]at h
  rw[evs_cons]
  unfold evG
  cases hg:o.g with
  |none=>rw[hg]at h;exact hop tm h
  |some jw=>
   obtain⟨j,want⟩:=jw
   rw[hg]at h
   simp only at h⊢
   split at h
   ·rename_i b hl
    try simp only[hl]
    cases want
    ·exact⟨fun e=>hsk _ (h.1 e),fun e=>hop _ (h.2 e)⟩
    ·exact⟨fun e=>hop _ (h.1 e),fun e=>hsk _ (h.2 e)⟩
   ·rename_i hl
    try simp only[hl]
    exact hsk _ h
   ·exact h.elim
abbrev GP:=(Ex->KP)->KP
def goS(ga gb:GP):GP:=fun T tm sg gh=>ga (fun e tm sg gh=>match e with
  |.normal=>gb T tm sg gh
  |.ret=>T .ret tm sg gh
  |.exit i=>T (.exit i) tm sg gh) tm sg gh
def goC(c:Opd)(ga gb:GP):GP:=fun T tm sg gh=>match c with
  |.t j=>match look tm j with
   |some (.bool b')=>BrB b' (ga T ((j, .bool true)::tm) sg gh) (gb T ((j, .bool false)::tm) sg gh)
   |_=>False
  |.c (.bool b')=>BrB b' (ga T tm sg gh) (gb T tm sg gh)
  |_=>False
def goK(id:Nat)(gb:GP):GP:=fun T tm sg gh=>gb (fun e tm sg gh=>match e with
  |.normal=>T .normal tm sg gh
  |.ret=>T .ret tm sg gh
  |.exit i=>match decide (i=id)with
   |true=>T .normal tm sg gh
   |false=>T (.exit i) tm sg gh) tm sg gh
def goP(E:Env)(c:CI):GP:=
 @CI.rec (fun _=>GP) (fun T tm sg gh=>T .normal tm sg gh) (fun ps T tm sg gh=>evsP E ps tm sg gh (T .normal)) (fun _ _ ga gb=>goS ga gb) (fun c _ _ ga gb=>goC c ga gb) (fun id _ gb=>goK id gb)
  (fun b _ T tm sg gh=>LoopQ E b (fun e s=>T e s.tm s.sg s.gh) ⟨tm,sg,gh⟩) (fun id T tm sg gh=>T (.exit id) tm sg gh) (fun T tm sg gh=>T .ret tm sg gh) (fun f ps x y _ _ T tm sg gh=>RngQ E f ps x y (fun e s=>T e s.tm s.sg s.gh) ⟨tm,sg,gh⟩)
  (fun ps qs T tm sg gh=>AltQ (evsP E ps tm sg gh (T .normal)) (evsP E qs tm sg gh (T .normal))) c
theorem goP_ok{E:Env}:∀ {c:CI} {T:Ex->Tm->List Res->Gh->Prop} {tm:Tm} {sg:List Res} {gh:Gh},goP E c T tm sg gh->GoC E c (fun e s=>T e s.tm s.sg s.gh) ⟨tm,sg,gh⟩
 |.skip,T,tm,sg,gh,h=>go_skip h
 |.reg ps,T,tm,sg,gh,h=>go_reg (evsP_ok h)
 |.seq a b,T,tm,sg,gh,h=>go_seq ((goP_ok (c:=a) h).mono fun e s hs=>by
   cases e with
   |normal=>exact goP_ok (c:=b) hs
   |ret=>exact hs
   |exit i=>exact hs)
 |.cond c a b,T,tm,sg,gh,h=>go_cond (by
   have h:goC _ (goP E a) (goP E b) T tm sg gh:=h
   simp only[goC]at h
   split at h
   ·rename_i j
    simp only[condE]
    split at h
    ·rename_i b' hl
     try simp only[hl]
     exact⟨fun e=>goP_ok (c:=a) (h.1 e),fun e=>goP_ok (c:=b) (h.2 e)⟩
    ·exact h.elim
   ·exact⟨fun e=>goP_ok (c:=a) (h.1 e),fun e=>goP_ok (c:=b) (h.2 e)⟩
   ·exact h.elim)
 |.block id b,T,tm,sg,gh,h=>go_block ((goP_ok (c:=b) h).mono fun e s hs=>by
   cases e with
   |normal=>exact hs
   |ret=>exact hs
   |exit i=>
    simp only[blkT]
    split
    ·rename_i e;simp only[e,decide_true]at hs;exact hs
    ·rename_i e;simp only[e,decide_false]at hs;exact hs)
 |.loop b,T,tm,sg,gh,h=>LoopQ.out h
 |.exit id,T,tm,sg,gh,h=>go_exit h
 |.ret,T,tm,sg,gh,h=>go_ret h
 |.rng f ps x y,T,tm,sg,gh,h=>RngQ.out h
 |.alt ps qs,T,tm,sg,gh,h=>go_alt (evsP_ok (AltQ.a h)) (evsP_ok (AltQ.b h))
def resVK(tm:Tm)(sg:List Res)(r:RIO)(k:AV->Prop):Prop:=
 match r with
 |.t i=>match look tm i with
  |some v=>k v
  |none=>False
 |.cell a ag n=>match look tm a with
  |some (.own i off)=>match getR sg i with
   |.box _ cs=>ldK ag n (dropA off cs) k
   |_=>False
  |_=>False
def resLK(tm:Tm)(sg:List Res):List RIO->(List AV->Prop)->Prop
 | [],k=>k []
 |r::rs,k=>resVK tm sg r fun v=>resLK tm sg rs fun l=>k (v::l)
def retP(rs:List RIO)(R:AV->Prop)(tm:Tm)(sg:List Res):Prop:=
 resLK tm sg rs fun vs=>match AV.frzL sg 8 vs with
  |some l=>match l with
   | [v]=>R v
   |l=>R (.tup l)
  |none=>False
theorem resVK_ok{tm:Tm}{sg:List Res}{gh:Gh}{r:RIO}{k:AV->Prop}(h:resVK tm sg r k):∃v,resV ⟨tm,sg,gh⟩ r=some v/\k v:=by
 cases r with
 |t i=>
  simp only[resVK]at h
  split at h
  ·rename_i v hv;exact⟨v,hv,h⟩
  ·exact h.elim
 |cell a ag n=>
  simp only[resVK,getR_eq,dropA_eq]at h
  split at h
  ·rename_i h1
   split at h
   ·rename_i h2
    obtain⟨v,h3,h4⟩:=ldK_ok h
    exact⟨v,by simp only[resV,h1,h2,h3],h4⟩
   ·exact h.elim
  ·exact h.elim
theorem resLK_ok{tm:Tm}{sg:List Res}{gh:Gh}:∀ {rs:List RIO} {k:List AV->Prop},resLK tm sg rs k->∃vs,resL ⟨tm,sg,gh⟩ rs=some vs/\k vs
 | [],k,h=>⟨[],rfl,h⟩
 |r::rs,k,h=>by
  obtain⟨v,h1,h2⟩:=resVK_ok (gh:=gh) h
  obtain⟨vs,h3,h4⟩:=resLK_ok (gh:=gh) h2
  exact⟨v::vs,by simp only[resL,h1,h3],h4⟩
def finP(rs:List RIO)(R:AV->Prop)(e:Ex)(tm:Tm)(sg:List Res)(gh:Gh):Prop:=
 match e with
 |.exit _=>False
 |.normal=>retP rs R tm sg
 |.ret=>retP rs R tm sg
theorem retP_ok{rs:List RIO}{R:AV->Prop}{tm:Tm}{sg:List Res}{gh:Gh}(h:retP rs R tm sg):retK rs R ⟨tm,sg,gh⟩:=by
 obtain⟨vs,h1,h2⟩:=resLK_ok (gh:=gh) h
 unfold retK
 rw[h1]
 simp only
 split at h2
 ·rename_i l h3
  rw[h3]
  split at h2
  ·exact h2
  ·rename_i hne
   match l,hne with
   | [v],hne=>exact absurd rfl (hne v)
   | [],_=>exact h2
   |_::_::_,_=>exact h2
 ·exact h2.elim
theorem finP_ok{rs:List RIO}{R:AV->Prop}{e:Ex}{s:St}(h:finP rs R e s.tm s.sg s.gh):finT rs R e s:=by
 cases e with
 |exit i=>exact h.elim
 |normal=>exact retP_ok h
 |ret=>exact retP_ok h
def freshL:Nat->List Res
 |0=>[]
 |n+1=>.fresh::freshL n
theorem freshL_eq:∀n,freshL n=List.replicate n .fresh
 |0=>rfl
 |n+1=>by simp[freshL,freshL_eq n,List.replicate_succ]
theorem fnA{P:Program}{f:FuncId}{N M:Nat}{ci:CI}{rs:List RIO}{args:List AV}{R:AV->Prop}(m:Nat)(hok:FnOk P f N M ci rs)(hN:args.length<=N)(h:goP (env3 P N []) ci (finP rs R) (argsTm 0 args) (freshL m) ⟨[],0,false⟩):FnA P f args R:=by
 refine fnA_of_go hok m hN ?_
 rw[freshL_eq]at h
 exact(goP_ok h).mono fun e s hs=>finP_ok hs
theorem loop_i{E:Env}{T:Ex->St->Prop}{tm0:Tm}{sg0:List Res}{gh:Gh}{b:CI}{α : Type}(tm : α -> Tm)(sg : α -> List Res)(inv : α -> Prop)(μ : α -> Nat)(x0 : α)(hw:MeetsE ⟨tm0,sg0,gh⟩ ⟨tm x0,sg x0,gh⟩)(h0:inv x0)
  (hr:∀x,inv x->goP E b (fun e tm' sg' gh'=>match e with
   |.normal=>∃y,MeetsE ⟨tm',sg',gh'⟩ ⟨tm y,sg y,gh⟩/\inv y /\ μ y < μ x
   |.ret=>T .ret ⟨tm',sg',gh'⟩
   |.exit i=>T (.exit i) ⟨tm',sg',gh'⟩) (tm x) (sg x) gh):LoopQ E b T ⟨tm0,sg0,gh⟩:=by
 refine LoopQ.mk (go_loop_m (fun x=>⟨tm x,sg x,gh⟩) inv μ x0 h0 hw fun x hx=>(goP_ok (hr x hx)).mono fun e s' hs=>?_)
 cases e with
 |normal=>exact hs
 |_=>exact hs
theorem loop_y{E:Env}{T:Ex->St->Prop}{tm0:Tm}{sg0:List Res}{gh0:Gh}{b:CI}{α : Type}(tm : α -> Tm)(sg : α -> List Res)(gh : α -> Gh)(inv : α -> Prop)(μ : α -> Nat)(x0 : α)(hw:MeetsE ⟨tm0,sg0,gh0⟩ ⟨tm x0,sg x0,gh x0⟩)(h0:inv x0)
  (hr:∀x,inv x->goP E b (fun e tm' sg' gh'=>match e with
   |.normal=>∃y,MeetsE ⟨tm',sg',gh'⟩ ⟨tm y,sg y,gh y⟩/\inv y /\ μ y < μ x
   |.ret=>T .ret ⟨tm',sg',gh'⟩
   |.exit i=>T (.exit i) ⟨tm',sg',gh'⟩) (tm x) (sg x) (gh x)):LoopQ E b T ⟨tm0,sg0,gh0⟩:=by
 refine LoopQ.mk (go_loop_m (fun x=>⟨tm x,sg x,gh x⟩) inv μ x0 h0 hw fun x hx=>(goP_ok (hr x hx)).mono fun e s' hs=>?_)
 cases e with
 |normal=>exact hs
 |_=>exact hs
theorem rng_i{E:Env}{T:Ex->St->Prop}{tm0:Tm}{sg0:List Res}{gh:Gh}{pf:Opd}{ps:List Nat}{x y:CI}{f:FuncId}{cap cap':List AV}{α : Type}(ys:List (List AV))(p:List Nat)(tm1:Tm)(sg : α -> List Res)(inv:Nat -> α -> Prop)(x0 : α)
  (hf:ev tm0 pf=some (.fn f cap)) (hpu:AV.puL cap=true) (hfz:AV.frzL sg0 8 cap=some cap') (hb:bodied E.P f=true) (hit:ItA E.P f cap' ys) (hp:subN gh.p p=true)
  (hm:MeetsE ⟨tm0,sg0,gh⟩ ⟨tm1,sg x0,gh⟩) (hlt:refsLt p tm1=true) (h0:inv 0 x0) (hl:∀v∈ys,ps.length=v.length)
  (hr:∀k v z,ys[k]?=some v->inv k z->goP E x (fun e tm' sg' gh'=>match e with
   |.normal=>goP E y (fun e tm' sg' gh'=>match e with
    |.normal=>∃u,MeetsE ⟨tm',sg',gh'⟩ ⟨[],sg u,⟨p,gh.k,gh.st⟩⟩/\inv (k+1) u
    |.ret=>∃sg'',MeetsE ⟨tm',sg',gh'⟩ ⟨[],sg'',⟨p,gh.k,gh.st⟩⟩/\T .ret ⟨tm1,sg'',gh⟩
    |.exit i=>∃sg'',MeetsE ⟨tm',sg',gh'⟩ ⟨[],sg'',⟨p,gh.k,gh.st⟩⟩/\T (.exit i) ⟨tm1,sg'',gh⟩) tm' sg' gh'
   |.ret=>False
   |.exit _=>False) (bindT tm1 ps v) (sg z) ⟨p,gh.k,gh.st⟩)
  (hend:∀z,inv ys.length z->T .normal ⟨tm1,sg z,gh⟩):RngQ E pf ps x y T ⟨tm0,sg0,gh⟩:=by
 have hev:(St.mk tm0 sg0 gh).ev pf=some (.fn f cap):=by cases pf<;>exact hf
 refine RngQ.mk (go_rng (f:=f) (cap:=cap) ys hev hpu hfz hb hit p hp tm1 (sg x0) hm.r hlt (fun k s gk gst=>gk=gh.k/\gst=gh.st/\∃z,s=sg z/\inv k z) (fun e s gk gst=>gk=gh.k/\gst=gh.st/\T e ⟨tm1,s,gh⟩) ⟨rfl,rfl,x0,rfl,h0⟩ ?_ ?_ ?_)
 ·rintro k v s gk gst hv ⟨rfl,rfl,z,rfl,hz⟩
  refine⟨hl v (List.mem_of_getElem? hv),(goP_ok (hr k v z hv hz)).mono fun e s' hs=>?_⟩
  cases e with
  |normal=>
   refine(goP_ok (c:=y) hs).mono fun e s'' hs'=>?_
   cases e with
   |normal=>obtain⟨u,h1,h2⟩:=hs';exact⟨_,_,_,h1,rfl,rfl,u,rfl,h2⟩
   |ret=>obtain⟨s2,h1,h2⟩:=hs';exact⟨_,_,_,h1,rfl,rfl,h2⟩
   |exit i=>obtain⟨s2,h1,h2⟩:=hs';exact⟨_,_,_,h1,rfl,rfl,h2⟩
  |ret=>exact hs.elim
  |exit i=>exact hs.elim
 ·rintro s gk gst ⟨rfl,rfl,z,rfl,hz⟩;exact hend z hz
 ·rintro e s gk gst _ ⟨rfl,rfl,ht⟩;exact ht
def finIP(ys:List (List AV))(e:Ex)(tm:Tm)(sg:List Res)(gh:Gh):Prop:=
 match e with
 |.exit _=>False
 |.normal=>gh.st=true\/gh.k=ys.length
 |.ret=>gh.st=true\/gh.k=ys.length
theorem itA{P:Program}{f:FuncId}{N M:Nat}{ci:CI}{cap:List AV}{ys:List (List AV)}(m:Nat)(hok:FnOk P f N M ci [])(hN:cap.length+1<=N)(h:goP (env3 P N ys) ci (finIP ys) (argsTm 0 (.yld::cap)) (freshL m) ⟨[],0,false⟩):ItA P f cap ys:=by
 refine itA_of_go hok m hN ?_
 rw[freshL_eq]at h
 exact(goP_ok h).mono fun e s hs=>by cases e<;>exact hs
theorem fnV_of{P:Program}{f:FuncId}{cap args:List AV}{R:AV->Prop}(hb:bodied P f=true)(h:FnA P f (args++cap) R):FnV P (.fn f cap) args R:=by
 unfold FnV
 intro imm w gv vs himm hg hv
 simp only[RV0]at hg
 obtain⟨us,rfl,hu⟩:=hg
 refine⟨f,us.toArray,rfl,hb,?_⟩
 have:=h
 unfold FnA at this
 have h2:=this imm w (vs++us) himm (RV0s.append hv hu)
 simpa using h2
def nlF:Nat->Bool:=fun _=>false
def Res.renR(π : Nat->Nat):Res->Res
 |.box ice cs=>.box ice (AV.renL π nlF cs)
 |r=>r
def CI.names:CI->List Nat
 |.reg ps=>ps.flatMap fun p=>p.o.names
 |.seq a b=>a.names++b.names
 |.cond _ a b=>a.names++b.names
 |.block _ b=>b.names
 |.loop b=>b.names
 |.rng _ _ x y=>x.names++y.names
 |_=>[]
mutual
def AV.rws(sg:List Res):AV->List (Nat × Res)
 |.row i=>match sg.getD i .fresh with
  |.row false el sz es=>[(i, .row false el sz es)]
  |_=>[]
 |.agg cs=>AV.rwsL sg cs
 |.tup cs=>AV.rwsL sg cs
 |_=>[]
def AV.rwsL(sg:List Res):List AV->List (Nat × Res)
 | []=>[]
 |a::as=>a.rws sg++AV.rwsL sg as
end
def nodupF:List Nat->Bool
 | []=>true
 |i::l => !memN l i&&nodupF l
def deadR:List (Nat × Res)->List (Nat × Res)
 | []=>[]
 |(i,_)::l=>(i, .dead)::deadR l
def AV.frzo(sg:List Res)(ns:List Nat):Nat->AV->Option AV
 |0,_=>none
 |n+1,v=>match v with
  |.row i=>match memN ns i with
   |true=>some (.row i)
   |false=>AV.frz sg 8 (.row i)
  |.agg cs=>match mapO (AV.frzo sg ns n) cs with
   |some ds=>some (.agg ds)
   |none=>none
  |.tup cs=>match mapO (AV.frzo sg ns n) cs with
   |some ds=>some (.tup ds)
   |none=>none
  |v=>AV.frz sg 8 v
def oneV:List AV->AV
 | [v]=>v
 |l=>.tup l
def retO1(sg:List Res)(R:AV->List (Nat × Res)->Prop)(v:AV)(rows:List (Nat × Res)):Prop:=
 match nodupF (fstN rows)with
 |true=>match AV.frzo (setL sg (deadR rows)) (fstN rows) 8 v with
  |some r=>match r.oOk (fstN rows)with
   |true=>R r rows
   |false=>False
  |none=>False
 |false=>False
def retO(rs:List RIO)(R:AV->List (Nat × Res)->Prop)(tm:Tm)(sg:List Res):Prop:=
 resLK tm sg rs fun vs=>retO1 sg R (oneV vs) ((oneV vs).rws sg)
def finO(rs:List RIO)(R:AV->List (Nat × Res)->Prop)(e:Ex)(tm:Tm)(sg:List Res)(gh:Gh):Prop:=
 match e with
 |.exit _=>False
 |.normal=>retO rs R tm sg
 |.ret=>retO rs R tm sg
mutual
theorem rws_ok{sg:List Res}:∀(v:AV),∀p∈v.rws sg,sg.getD p.1 .fresh=p.2/\∃el sz es,p.2 = .row false el sz es
 |.row i,p,hp=>by
  simp only[AV.rws]at hp
  split at hp
  ·rename_i el sz es h
   simp only[List.mem_singleton]at hp;subst hp
   exact⟨h,_,_,_,rfl⟩
  ·cases hp
 |.agg cs,p,hp=>by simp only[AV.rws]at hp;exact rwsL_ok cs p hp
 |.tup cs,p,hp=>by simp only[AV.rws]at hp;exact rwsL_ok cs p hp
 |.bool _,p,hp=>by simp[AV.rws]at hp
 |.int _ _,p,hp=>by simp[AV.rws]at hp
 |.str _,p,hp=>by simp[AV.rws]at hp
 |.lit _,p,hp=>by simp[AV.rws]at hp
 |.isl _,p,hp=>by simp[AV.rws]at hp
 |.nils,p,hp=>by simp[AV.rws]at hp
 |.ipt _,p,hp=>by simp[AV.rws]at hp
 |.fn _ _,p,hp=>by simp[AV.rws]at hp
 |.own _ _,p,hp=>by simp[AV.rws]at hp
 |.elt _ _ _ _,p,hp=>by simp[AV.rws]at hp
 |.cut _ _ _ _,p,hp=>by simp[AV.rws]at hp
 |.yld,p,hp=>by simp[AV.rws]at hp
 |.gone,p,hp=>by simp[AV.rws]at hp
theorem rwsL_ok{sg:List Res}:∀(vs:List AV),∀p∈AV.rwsL sg vs,sg.getD p.1 .fresh=p.2/\∃el sz es,p.2 = .row false el sz es
 | [],p,hp=>by simp[AV.rwsL]at hp
 |a::as,p,hp=>by
  simp only[AV.rwsL,List.mem_append]at hp
  rcases hp with hp|hp
  ·exact rws_ok a p hp
  ·exact rwsL_ok as p hp
end
theorem fstN_mem{l:List (Nat × Res)}{i:Nat}:i∈fstN l<->∃p∈l,p.1=i:=by
 induction l with
 |nil=>simp[fstN]
 |cons p l ih=>
          obtain⟨j,r⟩:=p;simp only[fstN,List.mem_cons,ih];constructor
          ·rintro(rfl|⟨p,h1,h2⟩)
           ·exact⟨(i,r), .inl rfl,rfl⟩
           ·exact⟨p, .inr h1,h2⟩
          ·rintro⟨p,rfl|h1,h2⟩
           ·exact .inl h2.symm
           ·exact .inr ⟨p,h1,h2⟩
theorem Rel.kills{X:Sess}{C:Ctx}{a:Act}:∀(rows:List (Nat × Res)) {s:St},Rel X C s a->(∀p∈rows,s.sg.getD p.1 .fresh=p.2/\∃el sz es,p.2 = .row false el sz es)->nodupF (fstN rows)=true ->
  Rel X C { s with sg:=setL s.sg (deadR rows) } a/\∀j,((setL s.sg (deadR rows)).getD j .fresh).blk (C.rho j)=if j∈fstN rows then none else(s.sg.getD j .fresh).blk (C.rho j)
 | [],s,h,_,_=>⟨h,fun j=>by simp[fstN,deadR,setL]⟩
 |(i,r)::l,s,h,hr,hn=>by
  obtain⟨h1,el,sz,es,h2⟩:=hr (i,r) (by simp)
  simp only at h1 h2
  subst h2
  simp only[fstN,nodupF,Bool.and_eq_true,Bool.not_eq_true']at hn
  obtain⟨k1,k2⟩:=h.kill h1
  have hi:i<s.sg.length:=getD_lt (by rw[h1];simp)
  have hne:∀p∈l,p.1≠i:=fun p hp e=>by
   have:i∈fstN l:=fstN_mem.2 ⟨p,hp,e⟩
   rw[<- memN_iff]at this;rw[this]at hn;simp at hn
  obtain⟨m1,m2⟩:=Rel.kills l k1 (fun p hp=>by
   obtain⟨q1,q2⟩:=hr p (by simp[hp])
   refine⟨?_,q2⟩
   simp only
   rw[getD_set _ _ _ _ _ hi,if_neg (hne p hp)]
   exact q1) hn.2
  refine⟨m1,fun j=>?_⟩
  have:=m2 j
  simp only[deadR,setL]
  rw[this,k2 j]
  by_cases hj:j=i
  ·subst hj;simp[fstN]
  ·simp[fstN,hj]
theorem frzo_ok{X:Sess}{C C1:Ctx}{s:St}{a:Act}(h:Rel X C s a)(hi:C1.imm=immAll C s)(hw:C1.w=C.w)(hr:C1.rho=C.rho){ns:List Nat}:∀(n:Nat) (v:AV) (x:Value) (v':AV),AV.frzo s.sg ns n v=some v'->RV C v x->RV C1 v' x:=by
 have leaf:∀(v:AV) (x:Value) (v':AV),AV.frz s.sg 8 v=some v'->RV C v x->RV C1 v' x:=fun v x v' h1 h2=>by
  have:=frz_ok h 8 v x v' h1 h2
  rw[<- hi,<- hw]at this
  exact RV0.rv v' x this
 have lst:∀ {f:AV->Option AV},(∀v x v',f v=some v'->RV C v x->RV C1 v' x)->∀(as:List AV) (vs:List Value) (as':List AV),mapO f as=some as'->RVs C as vs->RVs C1 as' vs:=by
  intro f hf as
  induction as with
  |nil=>intro vs as' hm hv;simp only[mapO,Option.some.injEq]at hm;subst hm;simpa[RVs]using hv
  |cons a as ih=>
   intro vs as' hm hv
   simp only[mapO]at hm
   split at hm
   ·rename_i d ds h1 h2
    cases hm
    simp only[RVs]at hv⊢;obtain⟨v,vs',rfl,h3,h4⟩:=hv
    exact⟨v,vs',rfl,hf _ _ _ h1 h3,ih vs' ds h2 h4⟩
   ·cases hm
 intro n
 induction n with
 |zero=>intro v x v' hv;simp[AV.frzo]at hv
 |succ n ih=>
  intro v x v' hv hx
  cases v with
  |row i=>
   simp only[AV.frzo]at hv
   split at hv
   ·cases hv
    simp only[RV]at hx⊢
    rw[hr];exact hx
   ·exact leaf _ _ _ hv hx
  |agg cs=>
   simp only[AV.frzo]at hv
   split at hv<;>cases hv
   rename_i ds hm
   simp only[RV]at hx⊢
   obtain⟨vs,rfl,hx⟩:=hx
   exact⟨vs,rfl,lst ih cs vs ds hm hx⟩
  |tup cs=>
   simp only[AV.frzo]at hv
   split at hv<;>cases hv
   rename_i ds hm
   simp only[RV]at hx⊢
   obtain⟨vs,rfl,hx⟩:=hx
   exact⟨vs,rfl,lst ih cs vs ds hm hx⟩
  |_=>simp only[AV.frzo]at hv;exact leaf _ _ _ hv hx
theorem oneV_rv{C:Ctx}:∀ {vs:List AV} {xs:List Value},RVs C vs xs->RV C (oneV vs) (if h:xs.toArray.size=1 then xs.toArray[0] else .tuple xs.toArray)
 | [],xs,h=>by simp only[RVs]at h;subst h;simp[oneV,RV,RVs]
 | [v],xs,h=>by
  simp only[RVs]at h
  obtain⟨x,_,rfl,h1,rfl⟩:=h
  simpa[oneV]using h1
 |v::u::vs,xs,h=>by
  have h0:=h
  simp only[RVs]at h
  obtain⟨x,_,rfl,h1,y,ys,rfl,h2,h3⟩:=h
  rw[dif_neg (by simp)]
  simp only[oneV,RV]
  exact⟨_,rfl,h0⟩
theorem own_rows{X:Sess}{C:Ctx}{s s':St}{a:Act}(hr:Rel X C s a){w':World}{B:Nat}(hB:∀b,C.T b->B<=b)(hsz:w'.heap.size=C.w.heap.size)(hcells:∀(k:Nat) (o:Obj),C.w.heap[k]?=some o->isMem o=true->w'.heap[k]?=some o){ns:List Nat}
  (hblk:∀j,(s'.sg.getD j .fresh).blk (C.rho j)=if j∈ns then none else(s.sg.getD j .fresh).blk (C.rho j)):∀(rows:List (Nat × Res)),(∀p∈rows,s.sg.getD p.1 .fresh=p.2/\∃el sz es,p.2 = .row false el sz es)->(∀i∈fstN rows,i∈ns)->nodupF (fstN rows)=true->OwnRows B (immAll C s') w' C.rho rows
 | [],_,_,_=>trivial
 |(i,r)::l,h,hs,hn=>by
  obtain⟨h1,el,sz,es,h2⟩:=h (i,r) (by simp)
  simp only at h1 h2
  subst h2
  simp only[fstN,nodupF,Bool.and_eq_true,Bool.not_eq_true']at hn
  have hsi:=hr.sg i
  rw[h1]at hsi
  obtain⟨b,v,xs,k1,k2,k3,k4,k5⟩:=hsi
  have hbi:∀b',v.ownBlock=some b'->(s.sg.getD i .fresh).blk (C.rho i)=some b':=fun b' e=>by rw[h1,k1];exact e
  refine⟨⟨el,sz,es,⟨b,v⟩,xs,rfl,k1,?_,?_,k4,fun b' e=>?_,fun p hp o' ho' b' e1 e2=>?_⟩,own_rows hr hB hsz hcells hblk l (fun p hp=>h p (by simp[hp])) (fun j hj=>hs j (by simp[fstN,hj])) hn.2⟩
  ·refine⟨k2.1,?_⟩
   rcases k2.2 with k2|⟨g,cap,cur,e,k6,k7,k8⟩
   ·exact .inl k2
   ·exact .inr ⟨g,cap,cur,e,k6,hcells _ _ k7 rfl,k8⟩
  ·refine RV0s.mono (fun b' hb'=>⟨.inl hb',?_⟩) _ _ k3
   obtain⟨o,hh,ho⟩:=(hr.imm b' hb').2
   rw[hh];exact hcells _ _ hh ho
  ·obtain⟨eb,m1,_,m2⟩:=k5 b' e
   subst eb
   refine⟨hB b' m1,by rw[hsz];exact hr.T b' m1,?_⟩
   rintro(hi|⟨j,hj⟩)
   ·exact m2 rfl hi
   ·rw[hblk]at hj
    split at hj
    ·cases hj
    ·rename_i hnj
     exact hnj (hr.dis j i b' hj (hbi b' e) ▸ hs i (by simp[fstN]))
  ·obtain⟨q1,el',sz',es',q2⟩:=h p (by simp[hp])
   have:(s.sg.getD p.1 .fresh).blk (C.rho p.1)=some b':=by rw[q1,q2,ho'];exact e2
   have e3:=hr.dis i p.1 b' (hbi b' e1) this
   have:i∈fstN l:=fstN_mem.2 ⟨p,hp,e3.symm⟩
   rw[<- memN_iff]at this
   rw[this]at hn;simp at hn
theorem fnO{P:Program}{f:FuncId}{N M:Nat}{ci:CI}{rs:List RIO}{args:List AV}{R:AV->List (Nat × Res)->Prop}(m:Nat)(hok:FnOk P f N M ci rs)(hN:args.length<=N)(h0:goP (env3 P N []) ci (finO rs R) (argsTm 0 args) (freshL m) ⟨[],0,false⟩):FnO P f args R:=by
 rw[freshL_eq]at h0
 have h:=goP_ok h0
 unfold GoC at h
 obtain⟨fn,c,h1,h2,h3,h4,h5⟩:=hok.ok
 intro imm w vs himm hargs
 let X:Sess:={ P:=P,F:=Fence.wide,n:=5,N:=N,imm0:=imm,lo:=w.heap.size,pin:=fun _=>none,l:=0,Keep:=fun T S k st w'=>(k=0/\st=false/\∀b,¬S.s b/\¬S.h b)/\Below w.heap.size w w'/\∀b,T b->w.heap.size<=b }
 have hX:SessOk X (env3 P N []):=⟨fun f=>trivial, .inl rfl,
  fun T S k st w1 w2 hk hg=>⟨hk.1,hk.2.1.trans (hg.mono hk.2.1.size),fun b hb=>hb.elim (hk.2.2 b) fun hb=>Nat.le_trans hk.2.1.size hb.1⟩,
  fun T S k st w1 w2 b hk hT _ _ hg=>⟨hk.1,⟨hg.os.trans hk.2.1.os,hg.tape.trans hk.2.1.tape,hg.output.trans hk.2.1.output,by rw[hg.size];exact hk.2.1.size,fun k hkb=>(hg.other k (fun e=>by have:=hk.2.2 b hT;omega)).trans (hk.2.1.block k hkb)⟩,hk.2.2⟩,
  fun T S k st w1 b r r' hk hT hlo _ _=>⟨hk.1,⟨hk.2.1.os,hk.2.1.tape,hk.2.1.output,by simp only[World.putObj,Array.size_setIfInBounds];exact hk.2.1.size,fun j hj=>(World.putObj_heap_other (fun e=>by have:=hk.2.2 b hT;omega)).trans (hk.2.1.block j hj)⟩,hk.2.2⟩,
  fun T S k st w1 w2 hk _ hr=>⟨hk.1,⟨hr.os.trans hk.2.1.os,hr.tape.trans hk.2.1.tape,hr.output.trans hk.2.1.output,Nat.le_trans hk.2.1.size hr.size,fun j hj=>(hr.same j (Nat.lt_of_lt_of_le hj hk.2.1.size) (.inl hj)).trans (hk.2.1.block j hj)⟩,hk.2.2⟩,
  fun T S k st w1 Q hk hQ=>⟨hk.1,hk.2.1,fun b hb=>hb.elim (hk.2.2 b) fun hb=>(hQ b hb).1⟩,fun T S k st w1 hk=>hk.2.1.size,fun T S k st w1 hk=>⟨fun b hb=>absurd hb (hk.1.2.2 b).1,fun b hb=>absurd hb (hk.1.2.2 b).2⟩,fun T S k k' w1 us xs Q _ _ _ _ hys _=>by have h:=hys.1;simp at h,fun T S k st w1 Q hk _=>⟨hk.1,hk.2.1,fun b hb=>hk.2.2 b hb.1⟩,fun T S k k' w1 el sz es v xs _ _ hlx=>hlx.elim,rfl,rfl⟩
 have hvl:vs.length=args.length:=hargs.length
 have hrel:Rel X ⟨imm,fun _=>False,fun _=>none,w,ln0⟩ (start m args) { tmps:=vs.toArray++Array.replicate (fn.ntmps-vs.toArray.size) undef,defers:=[] }:=by
  refine⟨?_,fun d v hv=>?_,fun i=>?_,fun i j b hi=>?_,fun b hb=>⟨.inl hb,himm b hb⟩,fun b hb=>hb,fun b hb=>hb.elim,⟨⟨rfl,rfl,fun _=>⟨fun hb=>hb,fun hb=>hb⟩⟩,Below.refl _ _,fun b hb=>hb.elim⟩,⟨[],rfl,List.nodup_nil,fun D hD=>by cases hD⟩,(fun l hl=>by cases hl),fun i o hi=>(by simp[start]at hi),rfl,fun b hb=>hb.elim⟩
  ·show(vs.toArray++Array.replicate (fn.ntmps-vs.toArray.size) undef).size=N
   simp only[Array.size_append,List.size_toArray,Array.size_replicate]
   omega
  ·obtain⟨_,hd⟩:=argsTm_look hv
   simp only[Nat.sub_zero]at hd
   have hrvs:RVs ⟨imm,fun _=>False,fun _=>none,w,ln0⟩ args vs:=RV0s.rv args vs hargs
   obtain⟨x,hx,hvx⟩:=hrvs.get hd
   have hlt:=(List.getElem?_eq_some_iff.1 hx).1
   have:(vs.toArray++Array.replicate (fn.ntmps-vs.toArray.size) undef).getD d undef=x:=by
    rw[Array.getD_eq_getD_getElem?,Array.getElem?_append_left (by simpa using hlt)]
    simp[hx]
   rw[this];exact hvx
  ·have:(start m args).sg.getD i .fresh = .fresh:=by
    simp only[start,List.getD_eq_getElem?_getD,List.getElem?_replicate]
    split<;>rfl
   rw[this];rfl
  ·have:(start m args).sg.getD i .fresh = .fresh:=by
    simp only[start,List.getD_eq_getElem?_getD,List.getElem?_replicate]
    split<;>rfl
   rw[this]at hi;cases hi
 refine(callsIn_wide (n:=5)).1 (callsIn_of_wp_marks h1 h2 trivial (wpIn_mono (h X hX c 0 M h4 _ _ hrel) fun e a w1 hq=>?_))
 have fin:∀(C:Ctx) (s:St),C.w=w1->Rel X C s a->retO rs R s.tm s.sg->LeavesInM Fence.wide 5 P fn a.tmps (fun e w'=>∃v r rows imm' os,e = .returned v/\R r rows/\RV ⟨imm',fun _=>False,os,w',ln0⟩ r v/\r.oOk (fstN rows)=true/\OwnRows w.heap.size imm' w' os rows/\Below w.heap.size w w'/\(∀b,imm b->imm' b) /\
   (∀b,imm' b->imm b\/(w.heap.size<=b/\Mem w' b))) a.defers .returning w1:=fun C s hCw hr hret=>by
  subst hCw
  obtain⟨ds,hd1,hd2,hd3⟩:=hr.marks
  rw[hd1]
  refine leave_marks (B:=C.T) ds C.w hd2 hd3 fun w' hw'=>?_
  simp only[LeavesInM,LeavesIn]
  unfold retO at hret
  obtain⟨us,hus,hret⟩:=resLK_ok (gh:=s.gh) hret
  obtain⟨xs,k1,k2⟩:=resL_run hr hw' fn.results.toList rs us h5 hus
  have hrun:(results fn a.tmps).run P w' = .ok (if h:xs.toArray.size=1 then xs.toArray[0] else .tuple xs.toArray) w':=by
   rw[results_eq,Array.mapM_eq_mapM_toList]
   have k1':(fn.results.toList.mapM (resF a.tmps)).run P w' = .ok xs w':=k1
   simp only[Sem.run_bind,Sem.run_map,k1',Result.andThen_ok,Sem.run_pure]
  refine⟨_,hrun,?_⟩
  have k3:=oneV_rv k2
  generalize hrows:(oneV us).rws s.sg=rows at hret
  have hrw:=rws_ok (sg:=s.sg) (oneV us)
  rw[hrows]at hrw
  unfold retO1 at hret
  split at hret
  ·rename_i hnd
   split at hret
   ·rename_i r hfz
    split at hret
    ·rename_i hoo
     obtain⟨hk,hblk⟩:=hr.kills rows hrw hnd
     have k4:=frzo_ok (C1:=⟨immAll C { s with sg:=setL s.sg (deadR rows) },fun _=>False,C.rho,C.w,ln0⟩) hk rfl rfl rfl 8 _ _ _ hfz k3
     have hpers:Pers (immAll C { s with sg:=setL s.sg (deadR rows) }) (immAll C { s with sg:=setL s.sg (deadR rows) }) C.w w':=fun b hb=>by
      obtain⟨o',hh,ho'⟩:=immAll_cells hk b hb
      exact⟨hb,(hw'.mem b _ hh ho').trans hh.symm⟩
     have hl:Later (fun _=>true) ⟨immAll C { s with sg:=setL s.sg (deadR rows) },fun _=>False,C.rho,C.w,ln0⟩ ⟨immAll C { s with sg:=setL s.sg (deadR rows) },fun _=>False,C.rho,w',ln0⟩:=⟨hpers,fun _ _=>rfl,rfl⟩
     have hb:Below w.heap.size w w':=hr.keep.2.1.trans ⟨hw'.os,hw'.tape,hw'.output,by rw[hw'.size];exact Nat.le_refl _,fun k hk=>hw'.other k (fun hT=>by have:=hr.keep.2.2 k hT;omega)⟩
     refine⟨_,r,rows,immAll C { s with sg:=setL s.sg (deadR rows) },C.rho,rfl,hret,RV.later hl _ _ (AV.refsIn_all (fun _=>rfl) _) k4,hoo,own_rows hr (fun b hb=>hr.keep.2.2 b hb) hw'.size hw'.mem hblk rows hrw (fun _ h=>h) hnd,hb,fun b hb=>.inl (hr.imm0 b hb),fun b hb=>?_⟩
     obtain⟨o',hh,ho'⟩:=immAll_cells hk b hb
     have hh':Mem w' b:=⟨_,hw'.mem b _ hh ho',ho'⟩
     rcases hb with hb|⟨i,hb⟩
     ·rcases(hk.imm b hb).1 with h6|h6
      ·exact .inl h6
      ·exact .inr ⟨hr.keep.2.2 b h6,hh'⟩
     ·exact .inr ⟨hr.keep.2.2 b (Res.blk_lt (hk.sg i) hb).1,hh'⟩
    ·exact hret.elim
   ·exact hret.elim
  ·exact hret.elim
 cases e with
 |normal=>obtain⟨C,s,e1,hr,hret⟩:=hq;exact fin C s e1 hr hret
 |ret=>obtain⟨C,s,e1,hr,hret⟩:=hq;exact fin C s e1 hr hret
 |exit id=>obtain⟨C,s,e1,hr,hret⟩:=hq;exact hret.elim
 |goto l=>exact hq.elim
 |panic ch=>exact hq.elim
 |outgrown=>exact hq.elim
def AV.frzk(sg:List Res)(ns:List Nat):Nat->AV->Option AV
 |0,_=>none
 |n+1,v=>match v.pu with
  |true=>some v
  |false=>match v with
   |.row i=>match memN ns i with
    |true=>some (.row i)
    |false=>AV.frz sg 8 (.row i)
   |.own i off=>match memN ns i with
    |true=>some (.own i off)
    |false=>AV.frz sg 8 (.own i off)
   |.elt i sz k j=>match memN ns i with
    |true=>some (.elt i sz k j)
    |false=>none
   |.agg cs=>match mapO (AV.frzk sg ns n) cs with
    |some ds=>some (.agg ds)
    |none=>none
   |.tup cs=>match mapO (AV.frzk sg ns n) cs with
    |some ds=>some (.tup ds)
    |none=>none
   |.fn f cs=>match mapO (AV.frzk sg ns n) cs with
    |some ds=>some (.fn f ds)
    |none=>none
   |.yld=>some .yld
   |_=>none
mutual
def AV.inN(ns:List Nat):AV->Bool
 |.own i _=>memN ns i
 |.elt i _ _ _=>memN ns i
 |.cut i _ _ _=>memN ns i
 |.row i=>memN ns i
 |.agg cs=>AV.inNL ns cs
 |.tup cs=>AV.inNL ns cs
 |.fn _ cs=>AV.inNL ns cs
 |.yld=>true
 |.gone=>false
 |_=>true
def AV.inNL(ns:List Nat):List AV->Bool
 | []=>true
 |a::as=>a.inN ns&&AV.inNL ns as
end
def posK:List Nat->Nat->Nat
 | [],_=>0
 |j::l,i=>match decide (i=j)with
  |true=>0
  |false=>posK l i+1
def outR(sg:List Res)(ns:List Nat):Res->Option Res
 |.fresh=>none
 |.box false cs=>match mapO (AV.frzk sg ns 8) cs with
  |some ds=>match AV.inNL ns ds with
   |true=>some (.box false (AV.mvL (posK ns) ds))
   |false=>none
  |none=>none
 |.mpo _ _=>none
 |.itd _ _ _=>none
 |.mpb ks us _ _=>some (.mp false ks us)
 |r=>some r
def getF:List Res->Nat->Res
 | [],_=>.fresh
 |r::_,0=>r
 |_::rs,n+1=>getF rs n
theorem getF_eq:∀(l:List Res) (n:Nat),getF l n=l.getD n .fresh
 | [],n=>by simp[getF]
 |r::l,0=>by simp[getF]
 |r::l,n+1=>by simp[getF,getF_eq l n]
def outL(sg0 sg:List Res)(ns:List Nat):List Nat->Option (List Res)
 | []=>some []
 |i::l=>match outR sg ns (getF sg0 i)with
  |some r=>match outL sg0 sg ns l with
   |some rs=>some (r::rs)
   |none=>none
  |none=>none
def rangeN:Nat->Nat->List Nat
 |_,0=>[]
 |i,n+1=>i::rangeN (i+1) n
def retW1(m k:Nat)(nw:List Nat)(R:AV->List Res->Prop)(sg:List Res)(gh:Gh)(v:AV):Prop:=
 match nodupN (rangeN m k++nw),subN (rangeN m k) gh.p with
 |true,true=>match outL sg (setL sg (deadL (rangeN m k++nw))) (rangeN m k++nw) (rangeN m k++nw)with
  |some outs=>match AV.frzk (setL sg (deadL (rangeN m k++nw))) (rangeN m k++nw) 8 v with
   |some r=>match r.inN (rangeN m k++nw)with
    |true=>R (r.mv (posK (rangeN m k++nw))) outs
    |false=>False
   |none=>False
  |none=>False
 |_,_=>False
def retW(rs:List RIO)(m k:Nat)(nw:List Nat)(R:AV->List Res->Prop)(tm:Tm)(sg:List Res)(gh:Gh):Prop:=
 resLK tm sg rs fun vs=>retW1 m k nw R sg gh (oneV vs)
def finW(rs:List RIO)(m k:Nat)(nw:List Nat)(R:AV->List Res->Prop)(e:Ex)(tm:Tm)(sg:List Res)(gh:Gh):Prop:=
 match e with
 |.exit _=>False
 |.normal=>retW rs m k nw R tm sg gh
 |.ret=>retW rs m k nw R tm sg gh
def insL(m:Nat):List Res->List Res
 | []=>[]
 |r::rs=>r.mv (fun j=>m+j)::insL m rs
def appR:List Res->List Res->List Res
 | [],l=>l
 |r::rs,l=>r::appR rs l
theorem appR_eq:∀(a b:List Res),appR a b=a++b
 | [],b=>rfl
 |r::rs,b=>by simp[appR,appR_eq rs b]
theorem insL_get:∀ {m:Nat} {ins:List Res} {j:Nat},(insL m ins).getD j .fresh=(ins.getD j .fresh).mv (fun j=>m+j)
 |m,[],j=>by simp[insL,Res.mv]
 |m,r::rs,0=>by simp[insL]
 |m,r::rs,j+1=>by simpa[insL]using insL_get (m:=m) (ins:=rs) (j:=j)
theorem rangeN_get:∀ {n i j:Nat},j<n->(rangeN i n)[j]?=some (i+j)
 |0,_,j,h=>by omega
 |n+1,i,0,_=>by simp[rangeN]
 |n+1,i,j+1,h=>by simp only[rangeN,List.getElem?_cons_succ];rw[rangeN_get (by omega)];congr 1;omega
theorem rangeN_len:∀ {n i:Nat},(rangeN i n).length=n
 |0,_=>rfl
 |n+1,i=>by simp[rangeN,rangeN_len]
theorem posK_mem:∀ {ns:List Nat} {i:Nat},i∈ns->posK ns i<ns.length/\ns[posK ns i]?=some i
 | [],i,h=>by cases h
 |j::l,i,h=>by
  simp only[posK]
  split
  ·rename_i e;have e:=of_decide_eq_true e;subst e;simp
  ·rename_i e;have e:=of_decide_eq_false e
   obtain⟨h1,h2⟩:=posK_mem ((List.mem_cons.1 h).resolve_left e)
   exact⟨by simp;omega,by simpa using h2⟩
theorem outL_get{sg0 sg:List Res}{ns:List Nat}:∀ {l:List Nat} {outs:List Res},outL sg0 sg ns l=some outs->outs.length=l.length/\∀j i,l[j]?=some i->outR sg ns (sg0.getD i .fresh)=some (outs.getD j .fresh)
 | [],outs,h=>by simp only[outL,Option.some.injEq]at h;subst h;simp
 |i::l,outs,h=>by
  simp only[outL,getF_eq]at h
  split at h
  ·rename_i r h1
   split at h<;>cases h
   rename_i rs h2
   obtain⟨k1,k2⟩:=outL_get h2
   refine⟨by simp[k1],fun j x hj=>?_⟩
   cases j with
   |zero=>simp at hj;subst hj;simpa using h1
   |succ j=>simpa using k2 j x (by simpa using hj)
  ·cases h
theorem frzk_ok{X:Sess}{C C1:Ctx}{s:St}{a:Act}(h:Rel X C s a)(hll:C1.l.l=C.l.l)(hi:C1.imm=immAll C s)(hw:C1.w=C.w)(hr:C1.rho=C.rho){ns:List Nat}:∀(n:Nat) (v:AV) (x:Value) (v':AV),AV.frzk s.sg ns n v=some v'->RV C v x->RV C1 v' x:=by
 have leaf:∀(v:AV) (x:Value) (v':AV),AV.frz s.sg 8 v=some v'->RV C v x->RV C1 v' x:=fun v x v' h1 h2=>by
  have:=frz_ok h 8 v x v' h1 h2
  rw[<- hi,<- hw]at this
  exact RV0.rv v' x this
 have hl:∀(v:AV) (x:Value),v.pu=true->RV C v x->RV C1 v x:=fun v x hv hx=>by
  have h1:=RV.to0 v x hv hx
  refine RV0.rv v x (RV0.mono (imm:=C.imm) (w:=C.w) (fun b hb=>⟨by rw[hi];exact .inl hb,by rw[hw]⟩) v x h1)
 have lst:∀ {f:AV->Option AV},(∀v x v',f v=some v'->RV C v x->RV C1 v' x)->∀(as:List AV) (vs:List Value) (as':List AV),mapO f as=some as'->RVs C as vs->RVs C1 as' vs:=by
  intro f hf as
  induction as with
  |nil=>intro vs as' hm hv;simp only[mapO,Option.some.injEq]at hm;subst hm;simpa[RVs]using hv
  |cons a as ih=>
   intro vs as' hm hv
   simp only[mapO]at hm
   split at hm
   ·rename_i d ds h1 h2
    cases hm
    simp only[RVs]at hv⊢;obtain⟨v,vs',rfl,h3,h4⟩:=hv
    exact⟨v,vs',rfl,hf _ _ _ h1 h3,ih vs' ds h2 h4⟩
   ·cases hm
 intro n
 induction n with
 |zero=>intro v x v' hv;simp[AV.frzk]at hv
 |succ n ih=>
  intro v x v' hv hx
  unfold AV.frzk at hv
  split at hv
  ·rename_i hp;cases hv;exact hl v x hp hx
  ·cases v with
   |row i=>
    simp only at hv
    split at hv
    ·cases hv;simp only[RV]at hx⊢;rw[hr];exact hx
    ·exact leaf _ _ _ hv hx
   |own i off=>
    simp only at hv
    split at hv
    ·cases hv;simp only[RV]at hx⊢;rw[hr];exact hx
    ·exact leaf _ _ _ hv hx
   |elt i sz k j=>
    simp only at hv
    split at hv
    ·cases hv;simp only[RV]at hx⊢;rw[hr];exact hx
    ·cases hv
   |agg cs=>
    simp only at hv
    split at hv<;>cases hv
    rename_i ds hm
    simp only[RV]at hx⊢
    obtain⟨vs,rfl,hx⟩:=hx
    exact⟨vs,rfl,lst ih cs vs ds hm hx⟩
   |tup cs=>
    simp only at hv
    split at hv<;>cases hv
    rename_i ds hm
    simp only[RV]at hx⊢
    obtain⟨vs,rfl,hx⟩:=hx
    exact⟨vs,rfl,lst ih cs vs ds hm hx⟩
   |fn f cs=>
    simp only at hv
    split at hv<;>cases hv
    rename_i ds hm
    simp only[RV]at hx⊢
    obtain⟨vs,rfl,hx⟩:=hx
    exact⟨vs,rfl,lst ih cs vs ds hm hx⟩
   |yld=>simp only[Option.some.injEq]at hv;subst hv;simp only[RV]at hx⊢;rw[hll];exact hx
   |_=>simp at hv
theorem frzkL_ok{X:Sess}{C C1:Ctx}{s:St}{a:Act}(h:Rel X C s a)(hll:C1.l.l=C.l.l)(hi:C1.imm=immAll C s)(hw:C1.w=C.w)(hr:C1.rho=C.rho){ns:List Nat}:∀(as:List AV) (vs:List Value) (as':List AV),mapO (AV.frzk s.sg ns 8) as=some as'->RVs C as vs->RVs C1 as' vs
 | [],vs,as',hm,hv=>by simp only[mapO,Option.some.injEq]at hm;subst hm;simpa[RVs]using hv
 |a::as,vs,as',hm,hv=>by
  simp only[mapO]at hm
  split at hm
  ·rename_i d ds h1 h2
   cases hm
   simp only[RVs]at hv⊢;obtain⟨v,vs',rfl,h3,h4⟩:=hv
   exact⟨v,vs',rfl,frzk_ok h hll hi hw hr 8 _ _ _ h1 h3,frzkL_ok h hll hi hw hr as vs' ds h2 h4⟩
  ·cases hm
mutual
theorem RV.inn{C C0:Ctx}{π : Nat->Nat}{ns:List Nat}(hll:C0.l.l=C.l.l)(hp:Pers C0.imm C.imm C0.w C.w)(hr:∀i,i∈ns->C.rho (π i)=C0.rho i):∀(a:AV) (x:Value),a.inN ns=true->RV C0 a x->RV C (a.mv π) x
 |.bool _,_,_,h=>by simpa only[RV,AV.mv]using h
 |.int _ _,_,_,h=>by simpa only[RV,AV.mv]using h
 |.str _,_,_,h=>by simpa only[RV,AV.mv]using h
 |.lit _,_,_,h=>by simpa only[RV,AV.mv]using h
 |.nils,_,_,h=>by simpa only[RV,AV.mv]using h
 |.agg cs,v,hb,h=>by simp only[RV,AV.mv,AV.inN]at h hb⊢;obtain⟨vs,rfl,h⟩:=h;exact⟨vs,rfl,RVs.inn hll hp hr cs vs hb h⟩
 |.tup cs,v,hb,h=>by simp only[RV,AV.mv,AV.inN]at h hb⊢;obtain⟨vs,rfl,h⟩:=h;exact⟨vs,rfl,RVs.inn hll hp hr cs vs hb h⟩
 |.fn f cs,v,hb,h=>by simp only[RV,AV.mv,AV.inN]at h hb⊢;obtain⟨vs,rfl,h⟩:=h;exact⟨vs,rfl,RVs.inn hll hp hr cs vs hb h⟩
 |.isl es,v,_,h=>by simp only[RV,AV.mv]at h⊢;exact RV0.mono hp _ _ h
 |.ipt cs,v,_,h=>by simp only[RV,AV.mv]at h⊢;exact RV0.mono hp _ _ h
 |.imp _ _,v,_,h=>by simp only[RV,AV.mv]at h⊢;exact RV0.mono hp _ _ h
 |.tsl _ _,v,_,h=>by simp only[RV,AV.mv]at h⊢;exact RV0.mono hp _ _ h
 |.mth _ _,v,_,h=>by simp only[RV,AV.mv]at h⊢;exact RV0.mono hp _ _ h
 |.any,v,_,h=>by simpa only[RV,AV.mv]using h
 |.own i _,v,hb,h=>by simp only[RV,AV.mv,AV.inN]at h hb⊢;rw[hr i (memN_iff.1 hb)];exact h
 |.elt i _ _ _,v,hb,h=>by simp only[RV,AV.mv,AV.inN]at h hb⊢;rw[hr i (memN_iff.1 hb)];exact h
 |.row i,v,hb,h=>by simp only[RV,AV.mv,AV.inN]at h hb⊢;rw[hr i (memN_iff.1 hb)];exact h
 |.cut i _ _ _,v,hb,h=>by simp only[RV,AV.mv,AV.inN]at h hb⊢;rw[hr i (memN_iff.1 hb)];exact h
 |.yld,_,_,h=>by simp only[RV,AV.mv]at h⊢;rw[<- hll];exact h
 |.gone,_,hb,_=>by cases hb
theorem RVs.inn{C C0:Ctx}{π : Nat->Nat}{ns:List Nat}(hll:C0.l.l=C.l.l)(hp:Pers C0.imm C.imm C0.w C.w)(hr:∀i,i∈ns->C.rho (π i)=C0.rho i):∀(as:List AV) (xs:List Value),AV.inNL ns as=true->RVs C0 as xs->RVs C (AV.mvL π as) xs
 | [],_,_,h=>by simpa only[RVs,AV.mvL]using h
 |a::as,xs,hb,h=>by
  simp only[RVs,AV.mvL,AV.inNL,Bool.and_eq_true]at h hb⊢
  obtain⟨x,xs',rfl,h1,h2⟩:=h
  exact⟨x,xs',rfl,RV.inn hll hp hr a x hb.1 h1,RVs.inn hll hp hr as xs' hb.2 h2⟩
end
def rho0(m:Nat)(os:Nat->Option Own)(i:Nat):Option Own:=if i<m then none else os (i-m)
theorem ret_back{X:Sess}{C:Ctx}{s:St}{a:Act}{w':World}{T:Nat->Prop}{os:Nat->Option Own}{m k:Nat}{nw:List Nat}{R:AV->List Res->Prop}{u:AV}{x:Value}(hr:Rel X C s a)(hw':Fr C.T C.w w')(k3:RV C u x)
  (hpin:∀i o,i<k->os i=some o->X.pin (m+i)=some o) (hos:∀i o,os i=some o->i<k) (hret:retW1 m k nw R s.sg s.gh u) :
  ∃r outs imm' os',R r outs/\RV ⟨imm',fun b=>T b\/C.T b,os',w',lnl C.l.l⟩ r x/\Part imm' (fun b=>T b\/C.T b) w' os' C.l.l outs/\(∀i o,os i=some o->os' i=some o)/\(∀b,C.imm b->imm' b)/\(∀b,imm' b->(C.imm b\/C.T b)/\Mem w' b):=by
  unfold retW1 at hret
  generalize hns:rangeN m k++nw=ns at hret
  split at hret<;>try exact hret.elim
  rename_i hnd hsub
  split at hret<;>try exact hret.elim
  rename_i outs hout
  split at hret<;>try exact hret.elim
  rename_i r hfz
  split at hret<;>try exact hret.elim
  rename_i hin
  obtain⟨ol1,ol2⟩:=outL_get hout
  have hgo:∀j i,ns[j]?=some i->outR (setL s.sg (deadL ns)) ns (s.sg.getD i .fresh)=some (outs.getD j .fresh):=ol2
  have hidx:∀i∈ns,∃j:Nat,ns[j]?=some i:=fun i hi=>by
   obtain⟨j,hj,e⟩:=List.getElem_of_mem hi
   exact⟨j,by rw[List.getElem?_eq_getElem hj,e]⟩
  obtain⟨hkl,hbl⟩:=Rel.killN ns (s:=s) hr (fun i hi e=>by
   obtain⟨j,hj⟩:=hidx i hi
   have:=hgo j i hj
   rw[e]at this;cases this)
  have hBk:∀b,immAll C { s with sg:=setL s.sg (deadL ns) } b->Mem w' b:=fun b hb=>by
   obtain⟨o',hh,ho'⟩:=immAll_cells hkl b hb
   exact⟨_,hw'.mem b _ hh ho',ho'⟩
  let C1:Ctx:=⟨immAll C { s with sg:=setL s.sg (deadL ns) },C.T,C.rho,w',lnl C.l.l⟩
  let os':Nat->Option Own:=fun j=>(ns[j]?).bind C.rho
  let C2:Ctx:=⟨immAll C { s with sg:=setL s.sg (deadL ns) },fun b=>T b\/C.T b,os',w',lnl C.l.l⟩
  have hos':∀i,i∈ns->os' (posK ns i)=C.rho i:=fun i hi=>by
   simp only[os',(posK_mem hi).2,Option.bind_some]
  have hpers:Pers (immAll C { s with sg:=setL s.sg (deadL ns) }) (immAll C { s with sg:=setL s.sg (deadL ns) }) C.w w':=fun b hb=>by
   obtain⟨o',hh,ho'⟩:=immAll_cells hkl b hb
   exact⟨hb,(hw'.mem b _ hh ho').trans hh.symm⟩
  have hp0:Pers C.imm (immAll C { s with sg:=setL s.sg (deadL ns) }) C.w w':=fun b hb=>⟨.inl hb,(hpers b (.inl hb)).2⟩
  have hl1:Later (fun _=>true) ⟨immAll C { s with sg:=setL s.sg (deadL ns) },C.T,C.rho,C.w,lnl C.l.l⟩ C1:=⟨hpers,fun _ _=>rfl,rfl⟩
  have hT1:∀b,C.T b->b<w'.heap.size:=fun b hb=>by rw[hw'.size];exact hr.T b hb
  have hnot:∀i b,i∈ns->(s.sg.getD i .fresh).blk (C.rho i)=some b->immAll C { s with sg:=setL s.sg (deadL ns) } b->C.imm b:=fun i b hi hb hb2=>by
   rcases hb2 with hb2|⟨j,hj⟩
   ·exact hb2
   ·rw[hbl]at hj
    split at hj
    ·cases hj
    ·rename_i hnj
     exact absurd (hr.dis j i b hj hb ▸ hi) hnj
  have hval:RV C2 (r.mv (posK ns)) x:=by
   have q1:=frzk_ok (C1:=⟨immAll C { s with sg:=setL s.sg (deadL ns) },C.T,C.rho,C.w,lnl C.l.l⟩) hkl rfl rfl rfl rfl 8 _ _ _ hfz k3
   have q2:=RV.later hl1 _ _ (AV.refsIn_all (fun _=>rfl) _) q1
   exact RV.inn (C:=C2) (C0:=C1) (ns:=ns) rfl (fun b hb=>⟨hb,rfl⟩) (fun i hi=>hos' i hi) r _ hin q2
  have hpart:Part (immAll C { s with sg:=setL s.sg (deadL ns) }) (fun b=>T b\/C.T b) w' os' C.l.l outs:=by
   have hout':∀j,outs.length<=j->outs.getD j .fresh = .fresh/\os' j=none:=fun j hj=>by
    refine⟨by rw[List.getD_eq_getElem?_getD,List.getElem?_eq_none hj];rfl,?_⟩
    simp only[os'];rw[List.getElem?_eq_none (by omega)];rfl
   have hblk:∀j i,ns[j]?=some i->(outs.getD j .fresh).blk (os' j)=(s.sg.getD i .fresh).blk (C.rho i):=fun j i hj=>by
    have:=hgo j i hj
    have e:os' j=C.rho i:=by simp only[os',hj,Option.bind_some]
    rw[e]
    generalize outs.getD j .fresh=q at this
    generalize s.sg.getD i .fresh=p at this
    unfold outR at this
    split at this
    ·cases this
    ·split at this<;>try cases this
     split at this<;>cases this
     rfl
    ·cases this
    ·cases this
    ·cases this;rfl
    ·cases this;rfl
   refine⟨fun j=>?_,fun i j b hi hj=>?_⟩
   ·by_cases hj:j<outs.length
    ·obtain⟨i,hi⟩:∃i,ns[j]?=some i:=⟨_,List.getElem?_eq_getElem (by omega)⟩
     have him:i∈ns:=List.mem_of_getElem? hi
     have hg:=hgo j i hi
     have hs:=hr.sg i
     have e:os' j=C.rho i:=by simp only[os',hi,Option.bind_some]
     rw[e]
     cases hres:s.sg.getD i .fresh with
     |fresh=>rw[hres]at hg;cases hg
     |dead=>rw[hres]at hg hs;simp only[outR,Option.some.injEq]at hg;rw[<- hg];exact hs
     |box ice cs=>
      cases ice with
      |false=>
       rw[hres]at hg
       simp only[outR]at hg
       split at hg<;>try cases hg
       rename_i ds hds
       split at hg<;>try (cases hg;done)
       rename_i hind
       have e8:outs.getD j .fresh = .box false (AV.mvL (posK ns) ds):=by injection hg with hg;exact hg.symm
       rw[e8]
       have hs2:=hs
       rw[hres]at hs2
       obtain⟨b,vs',el,g1,g2,g3,g4,g5,g6⟩:=hs2
       have hb:(s.sg.getD i .fresh).blk (C.rho i)=some b:=by rw[hres,g1];rfl
       have q1:=frzkL_ok (C1:=⟨immAll C { s with sg:=setL s.sg (deadL ns) },C.T,C.rho,C.w,lnl C.l.l⟩) hkl rfl rfl rfl rfl cs vs' ds hds g4
       have q2:=RVs.later hl1 _ _ (AV.refsInL_all (fun _=>rfl) _) q1
       exact⟨b,vs',el,g1, .inr g2,hw'.mem _ _ g3 rfl,RVs.inn (C:=C2) (C0:=C1) (ns:=ns) rfl (fun b hb=>⟨hb,rfl⟩) (fun i hi=>hos' i hi) ds _ hind q2,fun e=>absurd e (by simp),fun _ hh=>g6 rfl (hnot i b him hb hh)⟩
      |true=>
       rw[hres]at hg hs
       simp only[outR,Option.some.injEq]at hg
       rw[<- hg]
       obtain⟨b,vs',el,g1,g2,g3,g4,g5,g6⟩:=hs
       have q:=RV0s.mono hp0 _ _ (g5 rfl).2
       exact⟨b,vs',el,g1, .inr g2,hw'.mem _ _ g3 rfl,RV0s.rv (C:=C2) _ _ q,fun _=>⟨.inl (g5 rfl).1,q⟩,fun e=>absurd e (by simp)⟩
     |row ice el sz es=>
      have hblk:=hnot i
      rw[hres]at hg hs hblk
      simp only[outR,Option.some.injEq]at hg
      rw[<- hg]
      obtain⟨b,v,xs',g1,g2,g3,g4,g5⟩:=hs
      rw[g1]at hblk
      refine⟨b,v,xs',g1,⟨g2.1,?_⟩,RV0s.mono hp0 _ _ g3,g4,fun b' e=>?_⟩
      ·rcases g2.2 with g2|⟨g,cap,cur,e,k6,k7,k8⟩
       ·exact .inl g2
       ·exact .inr ⟨g,cap,cur,e,k6,hw'.mem _ _ k7 rfl,k8⟩
      ·obtain⟨m1,m2,m3,m4⟩:=g5 b' e
       exact⟨m1, .inr m2,fun e'=>.inl (m3 e'),fun e' hh=>m4 e' (by rw[<- m1]at hh⊢;exact hblk b' him e hh)⟩
     |mp ice ks us=>
      have hblk:=hnot i
      rw[hres]at hg hs hblk
      simp only[outR,Option.some.injEq]at hg
      rw[<- hg]
      obtain⟨b,es,nB,g1,g2,g3,g4,g5,g6,g7,g8⟩:=hs
      rw[g1]at hblk
      exact⟨b,es,nB,g1, .inr g2,hw'.mem _ _ g3 rfl,g4,RV0s.mono hp0 _ _ g5,RV0s.mono hp0 _ _ g6,fun e'=>.inl (g7 e'),fun e' hh=>g8 e' (hblk b him rfl hh)⟩
     |mpo ks us=>
      rw[hres]at hg
      simp only[outR]at hg
      cases hg
     |itr ks us seen last=>
      have hblk:=hnot i
      rw[hres]at hg hs hblk
      simp only[outR,Option.some.injEq]at hg
      rw[<- hg]
      obtain⟨b,mm,nI,mI,g1,g2,g3,g4,g5,g6⟩:=hs
      rw[g1]at hblk
      exact⟨b,mm,nI,mI,g1, .inr g2,fun hh=>g3 (hblk b him rfl hh),hw'.mem _ _ g4 rfl,g5.mono hp0,g6⟩
     |sit f pos=>
      have hblk:=hnot i
      rw[hres]at hg hs hblk
      simp only[outR,Option.some.injEq]at hg
      rw[<- hg]
      obtain⟨b,g1,g2,g3,g4⟩:=hs
      rw[g1]at hblk
      exact⟨b,g1, .inr g2,fun hh=>g3 (hblk b him rfl hh),hw'.mem _ _ g4 rfl⟩
     |mpb ks us bn n=>
      have hblk:=hnot i
      rw[hres]at hg hs hblk
      simp only[outR,Option.some.injEq]at hg
      rw[<- hg]
      obtain⟨b,es,g1,g2,g3,g4,gb,g5,g6,g7⟩:=hs
      rw[g1]at hblk
      exact⟨b,es,n,g1, .inr g2,hw'.mem _ _ g3 rfl,g4,RV0s.mono hp0 _ _ g5,RV0s.mono hp0 _ _ g6,fun e'=>absurd e' (by simp),fun _ hh=>g7 (hblk b him rfl hh)⟩
     |itd c n mem=>
      rw[hres]at hg
      simp only[outR]at hg
      cases hg
    ·obtain⟨q1,q2⟩:=hout' j (by omega)
     rw[q1,q2];rfl
   ·have lt:∀j,(outs.getD j .fresh).blk (os' j)=some b->j<outs.length:=fun j hj=>Classical.byContradiction fun hn=>by
     rw[(hout' j (by omega)).1]at hj;cases hj
    have l1:=lt i hi
    have l2:=lt j hj
    obtain⟨i1,e1⟩:∃x,ns[i]?=some x:=⟨_,List.getElem?_eq_getElem (by omega)⟩
    obtain⟨j1,e2⟩:∃x,ns[j]?=some x:=⟨_,List.getElem?_eq_getElem (by omega)⟩
    rw[hblk i i1 e1]at hi
    rw[hblk j j1 e2]at hj
    refine nodupN_get hnd i j (by omega) (by omega) ?_
    rw[List.getD_eq_getElem?_getD,List.getD_eq_getElem?_getD,e1,e2]
    exact hr.dis i1 j1 b hi hj
  refine⟨r.mv (posK ns),outs,immAll C { s with sg:=setL s.sg (deadL ns) },os',hret,hval,hpart,fun i o ho=>?_,fun b hb=>.inl hb,fun b hb=>⟨?_,hBk b hb⟩⟩
  ·have hi:=hos i o ho
   have e1:ns[i]?=some (m+i):=by rw[<- hns,List.getElem?_append_left (by rw[rangeN_len];exact hi),rangeN_get hi]
   simp only[os',e1,Option.bind_some]
   exact hr.pin.1 (m+i) o (subN_ok hsub _ (List.mem_of_getElem? (rangeN_get hi))) (hpin i o hi ho)
  ·rcases hb with hb|⟨i,hb⟩
   ·exact .inl hb
   ·exact .inr (Res.blk_lt (hkl.sg i) hb).1
theorem fnW{P:Program}{f:FuncId}{N M:Nat}{ci:CI}{rs:List RIO}{args:List AV}{ins:List Res}{R:AV->List Res->Prop}(m:Nat)(nw:List Nat)(hok:FnOk P f N M ci rs)(hN:args.length<=N)(hb1:AV.blwL ins.length args=true)(hb2:resBelow ins.length ins=true)
  (h0:goP (env3 P N []) ci (finW rs m ins.length nw R) (argsTm 0 (AV.mvL (fun j=>m+j) args)) (appR (freshL m) (insL m ins)) ⟨rangeN m ins.length,0,false⟩):FnW P f args ins R:=by
 have h:=goP_ok h0
 unfold GoC at h
 obtain⟨fn,c,h1,h2,h3,h4,h5⟩:=hok.ok
 intro imm T w os vs l himm hT hargs hPart
 let X:Sess:={ P:=P,F:=Fence.wide,n:=5,N:=N,imm0:=imm,lo:=w.heap.size,pin:=rho0 m os,l:=l,Keep:=fun T' S k st w'=>(k=0/\st=false/\∀b,¬S.s b/\¬S.h b)/\Wr imm T w w'/\∀b,T' b->T b\/w.heap.size<=b }
 have hX:SessOk X (env3 P N []):=⟨fun f=>trivial, .inl rfl,
  fun T' S k st w1 w2 hk hg=>⟨hk.1,⟨hg.os.trans hk.2.1.os,hg.tape.trans hk.2.1.tape,hg.output.trans hk.2.1.output,Nat.le_trans hk.2.1.size hg.size,fun b hb hc=>(hg.block b (Nat.lt_of_lt_of_le hb hk.2.1.size)).trans (hk.2.1.same b hb hc),fun b hb=>(hk.2.1.mem b hb).same (hg.block b (hk.2.1.mem b hb).lt)⟩,fun b hb=>hb.elim (hk.2.2 b) fun hb=>.inr (Nat.le_trans hk.2.1.size hb.1)⟩,
  fun T' S k st w1 w2 b hk hTb hni _ hg=>⟨hk.1,⟨hg.os.trans hk.2.1.os,hg.tape.trans hk.2.1.tape,hg.output.trans hk.2.1.output,by rw[hg.size];exact hk.2.1.size,fun b' hb' hc=>(hg.other b' (fun e=>by
   subst e
   rcases hc with hc|hc
   ·exact hni hc
   ·rcases hk.2.2 b' hTb with q|q
    ·exact hc q
    ·omega)).trans (hk.2.1.same b' hb' hc),fun b' hb'=>by
   by_cases e:b'=b
   ·subst e;exact hg.mem
   ·exact(hk.2.1.mem b' hb').same (hg.other b' e)⟩,hk.2.2⟩,
  fun T' S k st w1 b r r' hk hTb hlo _ hlp=>⟨hk.1,⟨hk.2.1.os,hk.2.1.tape,hk.2.1.output,by simp only[World.putObj,Array.size_setIfInBounds];exact hk.2.1.size,fun b' hb' hc=>(World.putObj_heap_other (fun e=>by have:w.heap.size<=b:=hlo;omega)).trans (hk.2.1.same b' hb' hc),fun b' hb'=>(hk.2.1.mem b' hb').same (World.putObj_heap_other fun e=>by
   obtain⟨o',q1,q2⟩:=hk.2.1.mem b' hb'
   rw[e,hlp]at q1;cases q1;cases q2)⟩,hk.2.2⟩,
  fun T' S k st w1 w2 hk _ hr=>⟨hk.1,⟨hr.os.trans hk.2.1.os,hr.tape.trans hk.2.1.tape,hr.output.trans hk.2.1.output,Nat.le_trans hk.2.1.size hr.size,fun b' hb' hc=>(hr.same b' (Nat.lt_of_lt_of_le hb' hk.2.1.size) (.inl hb')).trans (hk.2.1.same b' hb' hc),fun b' hb'=>(hk.2.1.mem b' hb').same (hr.same b' (hk.2.1.mem b' hb').lt (.inl hb'.lt))⟩,hk.2.2⟩,
  fun T' S k st w1 Q hk hQ=>⟨hk.1,hk.2.1,fun b hb=>hb.elim (hk.2.2 b) fun hb=>.inr (hQ b hb).1⟩,fun T' S k st w1 hk=>hk.2.1.size,fun T' S k st w1 hk=>⟨fun b hb=>absurd hb (hk.1.2.2 b).1,fun b hb=>absurd hb (hk.1.2.2 b).2⟩,fun T' S k k' w1 us xs Q _ _ _ _ hys _=>by have h:=hys.1;simp at h,fun T S k st w1 Q hk _=>⟨hk.1,hk.2.1,fun b hb=>hk.2.2 b hb.1⟩,fun T S k k' w1 el sz es v xs _ _ hlx=>hlx.elim,rfl,rfl⟩
 have hlenm:(freshL m).length=m:=by rw[freshL_eq];simp
 have hsg:∀i,(appR (freshL m) (insL m ins)).getD i .fresh=if i<m then .fresh else(ins.getD (i-m) .fresh).mv (fun j=>m+j):=fun i=>by
  rw[appR_eq,List.getD_eq_getElem?_getD]
  split
  ·rename_i hi
   rw[List.getElem?_append_left (by omega),freshL_eq,List.getElem?_replicate];simp[hi]
  ·rename_i hi
   rw[List.getElem?_append_right (by omega),hlenm,<- List.getD_eq_getElem?_getD,insL_get]
 have hrho:∀j,rho0 m os (m+j)=os j:=fun j=>by rw[rho0,if_neg (by omega),show m+j-m=j from by omega]
 have hlen:vs.length=args.length:=hargs.length
 have hos:∀i o,os i=some o->i<ins.length:=fun i o ho=>Classical.byContradiction fun hn=>by
  have:=hPart.sg i
  rw[show ins.getD i .fresh = .fresh from by rw[List.getD_eq_getElem?_getD,List.getElem?_eq_none (by omega)];rfl]at this
  rw[this]at ho;cases ho
 have hrel:Rel X ⟨imm,T,rho0 m os,w,lnl l⟩ ⟨argsTm 0 (AV.mvL (fun j=>m+j) args),appR (freshL m) (insL m ins),⟨rangeN m ins.length,0,false⟩⟩ { tmps:=vs.toArray++Array.replicate (fn.ntmps-vs.toArray.size) undef,defers:=[] }:=by
  refine⟨?_,fun d v hv=>?_,fun i=>?_,fun i j b hi hj=>?_,fun b hb=>⟨.inl hb,himm b hb⟩,fun b hb=>hb,hT,⟨⟨rfl,rfl,fun _=>⟨fun hb=>hb,fun hb=>hb⟩⟩,⟨rfl,rfl,rfl,Nat.le_refl _,fun _ _ _=>rfl,fun _ hb=>hb⟩,fun b hb=>.inl hb⟩,⟨[],rfl,List.nodup_nil,fun D hD=>by cases hD⟩,(fun l hl=>by cases hl),fun i o _ hi=>hi,rfl,fun b hb=>hb.elim⟩
  ·show(vs.toArray++Array.replicate (fn.ntmps-vs.toArray.size) undef).size=N
   simp only[Array.size_append,List.size_toArray,Array.size_replicate]
   omega
  ·obtain⟨_,hd⟩:=argsTm_look hv
   simp only[Nat.sub_zero]at hd
   have hrvs:RVs ⟨imm,T,rho0 m os,w,lnl l⟩ (AV.mvL (fun j=>m+j) args) vs:=RVs.up (C:=⟨imm,T,rho0 m os,w,lnl l⟩) (C0:=⟨imm,T,os,w,lnl l⟩) (π :=fun j=>m+j) (k:=ins.length) rfl (fun b hb=>⟨hb,rfl⟩) (fun i _=>(hrho i)) args vs hb1 hargs
   obtain⟨x,hx,hvx⟩:=hrvs.get hd
   have hlt:=(List.getElem?_eq_some_iff.1 hx).1
   have:(vs.toArray++Array.replicate (fn.ntmps-vs.toArray.size) undef).getD d undef=x:=by
    rw[Array.getD_eq_getD_getElem?,Array.getElem?_append_left (by simpa using hlt)]
    simp[hx]
   rw[this];exact hvx
  ·simp only[hsg]
   split
   ·rename_i hi;simp[ResOk,rho0,hi]
   ·rename_i hi
    have e:rho0 m os i=os (i-m):=by simp[rho0,hi]
    show ResOk _ _ (rho0 m os i)
    rw[e]
    by_cases hlt:i-m<ins.length
    ·exact ResOk.up (C:=⟨imm,T,rho0 m os,w,lnl l⟩) (C0:=⟨imm,T,os,w,lnl l⟩) (π :=fun j=>m+j) (k:=ins.length) rfl rfl (fun b hb=>hb) (fun j _=>hrho j) (resBelow_get hb2 (i-m) hlt) (fun b hb=>⟨(Res.blk_lt (hPart.sg _) hb).1,id⟩) (hPart.sg (i-m))
    ·have e2:ins.getD (i-m) .fresh = .fresh:=by rw[List.getD_eq_getElem?_getD,List.getElem?_eq_none (by omega)];rfl
     have:=hPart.sg (i-m)
     rw[e2]at this⊢
     exact this
  ·simp only[hsg]at hi hj
   split at hi
   ·cases hi
   ·split at hj
    ·cases hj
    ·rename_i c1 c2
     rw[Res.mv_blk]at hi hj
     have e1:rho0 m os i=os (i-m):=by simp[rho0,c1]
     have e2:rho0 m os j=os (j-m):=by simp[rho0,c2]
     have:=hPart.dis (i-m) (j-m) b (by rw[<- e1];exact hi) (by rw[<- e2];exact hj)
     omega
 refine(callsIn_wide (n:=5)).1 (callsIn_of_wp_marks h1 h2 trivial (wpIn_mono (h X hX c 0 M h4 _ _ hrel) fun e a w1 hq=>?_))
 have fin:∀(C:Ctx) (s:St),C.w=w1->Rel X C s a->retW rs m ins.length nw R s.tm s.sg s.gh->LeavesInM Fence.wide 5 P fn a.tmps (fun e w'=>∃v r outs imm' T' os',e = .returned v/\R r outs/\RV ⟨imm',T',os',w',lnl l⟩ r v/\Part imm' T' w' os' l outs/\(∀i o,os i=some o->os' i=some o) /\
   Wr imm T w w'/\(∀b,T b->T' b)/\(∀b,T' b->T b\/(w.heap.size<=b/\b<w'.heap.size))/\(∀b,imm b->imm' b)/\(∀b,imm' b->(imm b\/T' b)/\Mem w' b)) a.defers .returning w1:=fun C s hCw hr hret=>by
  subst hCw
  obtain⟨ds,hd1,hd2,hd3⟩:=hr.marks
  rw[hd1]
  refine leave_marks (B:=C.T) ds C.w hd2 hd3 fun w' hw'=>?_
  simp only[LeavesInM,LeavesIn]
  unfold retW at hret
  obtain⟨us,hus,hret⟩:=resLK_ok (gh:=s.gh) hret
  obtain⟨xs,k1,k2⟩:=resL_run hr hw' fn.results.toList rs us h5 hus
  have hrun:(results fn a.tmps).run P w' = .ok (if h:xs.toArray.size=1 then xs.toArray[0] else .tuple xs.toArray) w':=by
   rw[results_eq,Array.mapM_eq_mapM_toList]
   have k1':(fn.results.toList.mapM (resF a.tmps)).run P w' = .ok xs w':=k1
   simp only[Sem.run_bind,Sem.run_map,k1',Result.andThen_ok,Sem.run_pure]
  refine⟨_,hrun,?_⟩
  have k3:=oneV_rv k2
  obtain⟨r,outs,imm',os',z1,z2,z3,z4,z5,z6⟩:=ret_back (T:=T) (os:=os) hr hw' k3 (fun i o _ ho=>(hrho i).trans ho) hos hret
  have hll:C.l.l=l:=hr.pin.2.1
  rw[hll]at z2 z3
  refine⟨_,r,outs,imm',fun b=>T b\/C.T b,os',rfl,z1,z2,z3,z4,?_,fun b hb=>.inl hb,fun b hb=>?_,fun b hb=>z5 b (hr.imm0 b hb),fun b hb=>⟨?_,(z6 b hb).2⟩⟩
  ·have hk:=hr.keep
   refine⟨hw'.os.trans hk.2.1.os,hw'.tape.trans hk.2.1.tape,hw'.output.trans hk.2.1.output,by rw[hw'.size];exact hk.2.1.size,fun b hb hc=>?_,fun b hb=>?_⟩
   ·rw[<- hk.2.1.same b hb hc]
    by_cases hTb:C.T b
    ·rcases hk.2.2 b hTb with q|q
     ·rcases hc with hc|hc
      ·obtain⟨o',hh,ho'⟩:=(hr.imm b (hr.imm0 b hc)).2
       rw[hh];exact hw'.mem b _ hh ho'
      ·exact absurd q hc
     ·omega
    ·exact hw'.other b hTb
   ·obtain⟨o',hh,ho'⟩:=hk.2.1.mem b hb
    exact⟨_,hw'.mem b _ hh ho',ho'⟩
  ·rcases hb with hb|hb
   ·exact .inl hb
   ·rcases hr.keep.2.2 b hb with q|q
    ·exact .inl q
    ·exact .inr ⟨q,by rw[hw'.size];exact hr.T b hb⟩
  ·rcases(z6 b hb).1 with q|q
   ·exact(hr.imm b q).1.imp id .inr
   ·exact .inr (.inr q)
 cases e with
 |normal=>obtain⟨C,s,e1,hr,hret⟩:=hq;exact fin C s e1 hr hret
 |ret=>obtain⟨C,s,e1,hr,hret⟩:=hq;exact fin C s e1 hr hret
 |exit id=>obtain⟨C,s,e1,hr,hret⟩:=hq;exact hret.elim
 |goto l=>exact hq.elim
 |panic ch=>exact hq.elim
 |outgrown=>exact hq.elim
theorem FnW.callwq{P:Program}{sg:List Res}{nm ct:Nat}{f:FuncId}{args args':List AV}{ins:List Res}{R:AV->List Res->Prop}{k:List (Nat × Res)->AV->Prop}(ns:List Nat)(h:FnW P f args' ins R)(h1:ns.length=ins.length)(h2:nodupN ns=true)(h3:handed sg (pick ns nm) 0 ins)(h4:resBelow ns.length ins=true)(h5:resLive ins=true)(h6:AV.mvL (pick ns nm) args'=args)(h7:AV.blwL ns.length args'=true)
  (hk:∀r outs,R r outs->(Nat.ble ns.length outs.length=true/\Nat.ble outs.length (ns.length+ct)=true/\resBelow outs.length outs=true/\r.blw outs.length=true)/\k (bigL (pick ns nm) 0 outs) (r.mv (pick ns nm))):CallZQ P true sg nm ct f args k:=
 ⟨.inr ⟨rfl, .inr (.inr (.inl ⟨false,⟨ns,args',ins,R,h,h1,h2,h3,h4,h5,fun _=>⟨h6,h7⟩,fun e=>absurd e (by simp),fun r outs hr=>by
  obtain⟨⟨c1,c2,c3,c4⟩,c5⟩:=hk r outs hr
  exact⟨Nat.le_of_ble_eq_true c1,Nat.le_of_ble_eq_true c2,c3,c4,fun e=>absurd e (by simp),c5⟩⟩⟩))⟩⟩
theorem RVs.app{C:Ctx}:∀ {as bs:List AV} {vs ws:List Value},RVs C as vs->RVs C bs ws->RVs C (as++bs) (vs++ws)
 | [],_,vs,_,h,k=>by simp only[RVs]at h;subst h;exact k
 |a::as,_,vs,_,h,k=>by
  simp only[RVs]at h;obtain⟨v,vs',rfl,h1,h2⟩:=h
  simp only[List.cons_append,RVs];exact⟨v,_,rfl,h1,RVs.app h2 k⟩
section
variable {X:Sess} {E:Env} {C1:Ctx} {a1:Act} {tm1:(List (Nat × AV))} {p:List Nat} {l:Nat} {fn:FuncId} {pst:Array Tmp} {as bd:Code} {J:Nat->List Res->Nat->Bool->Prop} {Jx:Ex->List Res->Nat->Bool->Prop}
end
inductive Sh where
 |int (k:IntKind)
 |bool
 |str
 |sl (es:List Sh)
 |agg (ss:List Sh)
mutual
def Sh.fits:Sh->AV->Prop
 |.int k,v=>∃n,v = .int k n/\(Lit.int k n).wf=true
 |.bool,v=>∃b,v = .bool b
 |.str,v=>∃s,v = .str s/\s.length<=maxLen
 |.sl es,v=>∃rows:List (List AV),v = .isl rows/\rows.length<=maxLen/\∀r∈rows,Sh.fitsL es r
 |.agg ss,v=>∃l,v = .agg l/\Sh.fitsL ss l
def Sh.fitsL:List Sh->List AV->Prop
 | [],l=>l=[]
 |s::ss,l=>∃v vs,l=v::vs/\Sh.fits s v/\Sh.fitsL ss vs
end
theorem Sh.fitsL_append:∀ {a b:List Sh} {x y:List AV},Sh.fitsL a x->Sh.fitsL b y->Sh.fitsL (a++b) (x++y)
 | [],_,_,_,hx,hy=>by simp only[Sh.fitsL]at hx;subst hx;simpa using hy
 |s::ss,b,x,y,hx,hy=>by
  simp only[Sh.fitsL]at hx
  obtain⟨v,vs,rfl,h1,h2⟩:=hx
  simp only[List.cons_append,Sh.fitsL]
  exact⟨v,vs++y,rfl,h1,Sh.fitsL_append h2 hy⟩
theorem Sh.fitsL_len:∀ {a:List Sh} {x:List AV},Sh.fitsL a x->x.length=a.length
 | [],_,hx=>by simp only[Sh.fitsL]at hx;subst hx;rfl
 |s::ss,x,hx=>by
  simp only[Sh.fitsL]at hx
  obtain⟨v,vs,rfl,h1,h2⟩:=hx
  simp[Sh.fitsL_len h2]
theorem RV0s_append{imm:Nat->Prop}{w:World}:∀ {a b:List AV} {x y:List Value},RV0s imm w a x->RV0s imm w b y->RV0s imm w (a++b) (x++y)
 | [],_,_,_,hx,hy=>by simp only[RV0s]at hx;subst hx;simpa using hy
 |s::ss,b,x,y,hx,hy=>by
  simp only[RV0s]at hx
  obtain⟨v,vs,rfl,h1,h2⟩:=hx
  simp only[List.cons_append,RV0s]
  exact⟨v,vs++y,rfl,h1,RV0s_append h2 hy⟩
def Has(w:World)(b:Nat):Prop:=∃c el fz,w.heap[b]?=some (.cells c el fz)
theorem Has.of_cell{w:World}{a:Addr}{v:Value}(h:w.cell? a=some v):Has w a.block/\a.spot=none:=by
 unfold World.cell? at h
 unfold Has
 split at h
 ·rename_i c x y hh
  split at h
  ·cases h
  ·rename_i hs
   exact⟨⟨_,_,_,hh⟩,by simpa using hs⟩
 ·cases h
theorem RV0r_of{imm:Nat->Prop}{w:World}{b sz:Nat}:∀ {rows:List (List AV)} {off:Nat},(∀i r,rows[i]?=some r->r.length=sz/\RV0c imm w b (off+i*sz) r)->RV0r imm w b sz off rows
 | [],_,_=>by simp[RV0r]
 |r::rows,off,h=>by
  simp only[RV0r]
  have h0:=h 0 r rfl
  refine⟨h0.1,by simpa using h0.2,RV0r_of fun i q hq=>?_⟩
  have:=h (i+1) q (by simpa using hq)
  rwa [show off+(i+1)*sz=off+sz+i*sz from by rw[Nat.add_mul];omega]at this
theorem list_of{α : Type}{Q:Nat -> α -> Prop}:∀(n:Nat),(∀i,i<n->∃r,Q i r)->∃rows:List α,rows.length=n/\∀i r,rows[i]?=some r->Q i r
 |0,_=>⟨[],rfl,fun i r h=>by simp at h⟩
 |n+1,h=>by
  obtain⟨rows,h1,h2⟩:=list_of n fun i hi=>h i (by omega)
  obtain⟨r,hr⟩:=h n (by omega)
  refine⟨rows++[r],by simp[h1],fun i q hq=>?_⟩
  by_cases hi:i<n
  ·rw[List.getElem?_append_left (by omega)]at hq;exact h2 i q hq
  ·rw[List.getElem?_append_right (by omega)]at hq
   by_cases he:i=n
   ·subst he;simp[h1]at hq;subst hq;exact hr
   ·have:i-rows.length≠0:=by omega
    cases hh:i-rows.length with
    |zero=>omega
    |succ k=>rw[hh]at hq;simp at hq
mutual
def shape(P:Program):Nat->TypeId->Option (List Sh)
 |0,_=>none
 |n+1,t=>match P.underlying t with
  |some .bool=>some [.bool]
  |some (.int k)=>some [.int k]
  |some .string=>some [.str]
  |some (.slice e)=>match shape P n e with
   |some (s::ss)=>if P.cellsOf e=(s::ss).length then some [.sl (s::ss)] else none
   |_=>none
  |some (.struct fs)=>match shapeF P n 0 fs.toList with
   |some ss=>if P.cellsOf t=ss.length then some ss else none
   |none=>none
  |some (.array k e)=>match shape P n e with
   |some ss=>if P.cellsOf e=ss.length/\P.cellsOf t=k*ss.length then some (List.replicate k ss).flatten else none
   |none=>none
  |_=>none
def shapeF(P:Program):Nat->Nat->List Field->Option (List Sh)
 |_,_,[]=>some []
 |0,_,_=>none
 |n+1,off,f::fs=>match shape P n f.type with
  |some ss=>if f.offset=off/\P.cellsOf f.type=ss.length then match shapeF P n (off+ss.length) fs with
    |some tt=>some (ss++tt)
    |none=>none
   else none
  |none=>none
end
section
variable {H:Type} {enc:TypeId × Value->H} {P:Program} {w:World}
theorem take_drop{cs:List Value}{off m:Nat}{n:Nat}(h:(cs.drop off).length=n+m):cs.drop off=(cs.drop off).take n++cs.drop (off+n)/\(cs.drop (off+n)).length=m:=by
 refine⟨by rw[<- List.drop_drop,List.take_append_drop],by simp at h⊢;omega⟩
theorem arr_of{ss:List Sh}{imm:Nat->Prop}{sz:Nat}{cs:List Value}:∀(k off:Nat),cs.length=off+k*sz->(∀i,i<k->∃avs,Sh.fitsL ss avs/\RV0s imm w avs ((cs.drop (off+i*sz)).take sz)) ->
  ∃avs,Sh.fitsL (List.replicate k ss).flatten avs/\RV0s imm w avs (cs.drop off)
 |0,off,h,_=>⟨[],by simp[Sh.fitsL],by
   have:cs.drop off=[]:=List.eq_nil_of_length_eq_zero (by simp;omega)
   rw[this];simp[RV0s]⟩
 |k+1,off,h,hk=>by
  rw[Nat.add_mul]at h
  obtain⟨avs,h2,h3⟩:=hk 0 (by omega)
  obtain⟨e1,e2⟩:=take_drop (cs:=cs) (off:=off) (n:=sz) (m:=k*sz) (by simp;omega)
  obtain⟨bvs,h4,h5⟩:=arr_of (ss:=ss) (imm:=imm) (sz:=sz) (cs:=cs) k (off+sz) (by omega) fun i hi=>by
   have:=hk (i+1) (by omega)
   rwa [show off+(i+1)*sz=off+sz+i*sz from by rw[Nat.add_mul];omega]at this
  refine⟨avs++bvs,by simpa[List.replicate_succ]using Sh.fitsL_append h2 h4,?_⟩
  rw[e1]
  exact RV0s_append (by simpa using h3) h5
theorem opened:∀(n:Nat),
  (∀(t:TypeId) (ss:List Sh) (fuel:Nat) (cs:List Value) (x:DataW H × List MemPlace),shape P n t=some ss->DataW.trod enc P w 0 (fun _=>true) true fuel t cs=some x->cs.length=ss.length/\∃avs,Sh.fitsL ss avs/\RV0s (Has w) w avs cs) /\
  (∀(fs:List Field) (off:Nat) (ss:List Sh) (fuel:Nat) (cs:List Value),shapeF P n off fs=some ss->(cs.drop off).length=ss.length->(∀(i:Nat) (f:Field),fs[i]?=some f->∃x,DataW.trod enc P w 0 (fun _=>true) true fuel f.type ((cs.drop f.offset).take (P.cellsOf f.type))=some x) ->
   ∃avs,Sh.fitsL ss avs/\RV0s (Has w) w avs (cs.drop off))
 |0=>⟨fun t ss fuel cs x h=>by simp[shape]at h,fun fs off ss fuel cs h hl _=>by
   cases fs with
   |nil=>
    simp only[shapeF,Option.some.injEq]at h;subst h
    refine⟨[],by simp[Sh.fitsL],?_⟩
    have:cs.drop off=[]:=List.eq_nil_of_length_eq_zero (by simpa using hl)
    rw[this];simp[RV0s]
   |cons f fs=>simp[shapeF]at h⟩
 |n+1=>by
  have ih:=opened n
  refine⟨fun t ss fuel cs x h hx=>?_,fun fs off ss fuel cs h hl hf=>?_⟩
  ·simp only[shape]at h
   split at h
   ·rename_i ht
    cases h
    obtain⟨b,rfl,_⟩:=DataW.trod_bool ht hx
    exact⟨rfl,[.bool b],by simp[Sh.fitsL,Sh.fits],by simp[RV0s,RV0]⟩
   ·rename_i k ht
    cases h
    obtain⟨b,rfl,_,hw⟩:=DataW.trod_int ht hx
    exact⟨rfl,[.int k b],by simp[Sh.fitsL,Sh.fits,hw],by simp[RV0s,RV0]⟩
   ·rename_i ht
    cases h
    obtain⟨s,rfl,_,hw⟩:=DataW.trod_string ht hx
    exact⟨rfl,[.str s.data.toList],by simp[Sh.fitsL,Sh.fits];exact hw,by simp[RV0s,RV0]⟩
   ·rename_i e ht
    split at h
    ·rename_i s0 s1 hs
     split at h<;>cases h
     rename_i hc
     rcases DataW.trod_slice ht hx with⟨rfl,_⟩|⟨a,len,cap,elems,rest,m,_,rfl,_,_,h1,h2,h3,h4,h5,_⟩
     ·exact⟨rfl,[.isl []],by simp[Sh.fitsL,Sh.fits],by simp[RV0s,RV0]⟩
     ·refine⟨rfl,?_⟩
      by_cases h0:cap=0
      ·subst h0
       have:len=0:=by omega
       subst this
       exact⟨[.isl []],by simp[Sh.fitsL,Sh.fits],by simp[RV0s,RV0]⟩
      ·obtain⟨h5,h6⟩:=h5 rfl
       have hcell:∀j,j<cap->∃cs',w.cells? 0 (a.add (j*P.cellsOf e)) (P.cellsOf e)=some cs'/\∃y,DataW.trod enc P w 0 (fun _=>true) true m e cs'=some y:=by
        intro j hj
        have:∃y,(w.cells? 0 (a.add (j*P.cellsOf e)) (P.cellsOf e)).bind (DataW.trod enc P w 0 (fun _=>true) true m e)=some y:=by
         by_cases hjl:j<len
         ·rw[h4 j hjl];exact⟨elems[j]'(by omega),by simp[List.getElem?_eq_getElem,h3,hjl]⟩
         ·have:=h6 (j-len) (by omega)
          rw[show len+(j-len)=j from by omega]at this
          rw[this];exact⟨rest[j-len]'(by omega),by rw[List.getElem?_eq_getElem]⟩
        obtain⟨y,hy⟩:=this
        obtain⟨cs',h7,h8⟩:=Option.bind_eq_some_iff.1 hy
        exact⟨cs',h7,y,h8⟩
       have hpos:0<P.cellsOf e:=by rw[hc];simp
       obtain⟨cs0,hc0,_⟩:=hcell 0 (by omega)
       obtain⟨_,hl0,hg0⟩:=World.cells?_some hc0
       have hg:=hg0 0 hpos
       rw[List.getElem?_eq_getElem (by omega)]at hg
       have hA:((a.add (0*P.cellsOf e)).add 0)=a:=by simp[Addr.add]
       rw[hA]at hg
       obtain⟨hb,hsp⟩:=Has.of_cell hg
       obtain⟨b,off,sp⟩:=a
       simp only at hsp hb;subst hsp
       obtain⟨rows,hr1,hr2⟩:=list_of (Q:=fun i r=>Sh.fitsL (s0::s1) r/\RV0c (Has w) w b (off+i*P.cellsOf e) r) len (fun i hi=>by
        obtain⟨cs',h7,y,h8⟩:=hcell i (by omega)
        obtain⟨_,avs,h9,h10⟩:=ih.1 _ _ _ _ _ hs h8
        obtain⟨_,hl',hg'⟩:=World.cells?_some h7
        refine⟨avs,h9,RV0c.of_list h10 fun j u hu=>?_⟩
        have hj:j<P.cellsOf e:=by
         have:=(List.getElem?_eq_some_iff.1 hu).1;omega
        have:=hg' j hj
        rw[hu]at this
        simpa[add_off]using this)
       refine⟨[.isl rows],?_,?_⟩
       ·simp only[Sh.fitsL,Sh.fits]
        exact⟨_,_,rfl,⟨rows,rfl,by omega,fun r hr=>by
         obtain⟨i,hi,rfl⟩:=List.getElem_of_mem hr
         exact(hr2 i _ (List.getElem?_eq_getElem hi)).1⟩,rfl⟩
       ·simp only[RV0s,RV0]
        refine⟨_,_,rfl, .inr ⟨P.cellsOf e,b,off,cap,by rw[hr1],by omega,hb,RV0r_of fun i r hr=>?_⟩,rfl⟩
        have:=hr2 i r hr
        exact⟨by rw[Sh.fitsL_len this.1,hc],this.2⟩
    ·cases h
   ·rename_i fs ht
    split at h
    ·rename_i ss' hs
     split at h<;>cases h
     rename_i hc
     obtain⟨xs,m,rfl,_,h1,h2,h3⟩:=DataW.trod_struct ht hx
     refine⟨by omega,?_⟩
     have:=ih.2 fs.toList 0 _ m cs hs (by simp;omega) (fun i f hf=>by
      have hf':fs[i]?=some f:=by simpa using hf
      have:=h3 i f hf'
      rw[this]
      have hi:i<fs.size:=(Array.getElem?_eq_some_iff.1 hf').1
      exact⟨xs[i]'(by omega),List.getElem?_eq_getElem _⟩)
     simpa using this
    ·cases h
   ·rename_i k e ht
    split at h
    ·rename_i ss' hs
     split at h<;>cases h
     rename_i hc
     obtain⟨xs,m,rfl,_,h1,h2,h3⟩:=DataW.trod_array ht hx
     refine⟨by simp;omega,?_⟩
     have:=arr_of (ss:=ss') (imm:=Has w) (w:=w) (sz:=P.cellsOf e) (cs:=cs) k 0 (by rw[hc.1];omega) fun i hi=>by
      have:=h3 i hi
      rw[List.getElem?_eq_getElem (by omega)]at this
      rw[Nat.zero_add]
      exact(ih.1 _ _ _ _ _ hs this).2
     simpa using this
    ·cases h
   ·cases h
  ·cases fs with
   |nil=>
    simp only[shapeF,Option.some.injEq]at h;subst h
    refine⟨[],by simp[Sh.fitsL],?_⟩
    have:cs.drop off=[]:=List.eq_nil_of_length_eq_zero (by simpa using hl)
    rw[this];simp[RV0s]
   |cons f fs=>
    simp only[shapeF]at h
    split at h
    ·rename_i sa hsa
     split at h
     ·rename_i hoff
      split at h<;>cases h
      rename_i st hst
      obtain⟨x,hx⟩:=hf 0 f rfl
      rw[hoff.1]at hx
      obtain⟨h1,avs,h2,h3⟩:=ih.1 _ _ _ _ _ hsa hx
      obtain⟨e1,e2⟩:=take_drop (n:=sa.length) (m:=st.length) (by simpa using hl)
      obtain⟨bvs,h4,h5⟩:=ih.2 fs _ _ fuel cs hst e2 (fun i g hg=>hf (i+1) g (by simpa using hg))
      refine⟨avs++bvs,Sh.fitsL_append h2 h4,?_⟩
      rw[e1]
      rw[hoff.2]at h3
      exact RV0s_append h3 h5
     ·cases h
    ·cases h
end
open Go.WideShapes Go.ChangeShapes
def argSh(P:Program)(t:TypeId):Option Sh:=
 match P.underlying t with
 |some (.struct _)=>(shape P 40 t).map .agg
 |some (.array _ _)=>(shape P 40 t).map .agg
 |_=>match shape P 40 t with
  |some [s]=>some s
  |_=>none
def argsSh(P:Program):List TypeId->Option (List Sh)
 | []=>some []
 |t::ts=>match argSh P t,argsSh P ts with
  |some s,some ss=>some (s::ss)
  |_,_=>none
section
variable {H:Type} {enc:TypeId × Value->H} {P:Program} {w:World}
theorem open_arg{b0:Nat}{t:TypeId}{v:Value}{d:DataW H}{ps:List MemPlace}{s:Sh}(hs:argSh P t=some s)(hv:Value.okWide P w .any b0 t v)(h:DataW.Trod enc P w 0 (fun _=>true) true t v d ps) :
  ∃av,Sh.fits s av/\RV0 (Has w) w av v:=by
 obtain⟨fuel,hf⟩:=h
 have one:∀ss,shape P 40 t=some ss->(∀cs,v ≠ .agg cs)->ss=[s]->∃av,Sh.fits s av/\RV0 (Has w) w av v:=by
  intro ss h1 h2 h3
  subst h3
  obtain⟨_,avs,h4,h5⟩:=(opened (enc:=enc) (P:=P) (w:=w) 40).1 _ _ _ _ _ h1 hf
  have:v.cells.toList=[v]:=by cases v<;>first|rfl|exact absurd rfl (h2 _)
  rw[this]at h5
  simp only[Sh.fitsL]at h4
  obtain⟨av,_,rfl,h6,rfl⟩:=h4
  simp only[RV0s]at h5
  obtain⟨_,_,h7,h8,h9⟩:=h5
  cases h7
  exact⟨av,h6,h8⟩
 unfold argSh at hs
 split at hs
 ·rename_i fs ht
  obtain⟨cs,rfl,_⟩:=okWide_struct ht hv
  obtain⟨ss,h1,rfl⟩:=Option.map_eq_some_iff.1 hs
  obtain⟨_,avs,h2,h3⟩:=(opened (enc:=enc) (P:=P) (w:=w) 40).1 _ _ _ _ _ h1 hf
  exact⟨.agg avs,by simp only[Sh.fits];exact⟨_,rfl,h2⟩,by simp only[RV0];exact⟨_,rfl,h3⟩⟩
 ·rename_i m e ht
  unfold Value.okWide at hv
  rw[ht]at hv
  obtain⟨cs,rfl,_⟩:=hv
  obtain⟨ss,h1,rfl⟩:=Option.map_eq_some_iff.1 hs
  obtain⟨_,avs,h2,h3⟩:=(opened (enc:=enc) (P:=P) (w:=w) 40).1 _ _ _ _ _ h1 hf
  exact⟨.agg avs,by simp only[Sh.fits];exact⟨_,rfl,h2⟩,by simp only[RV0];exact⟨_,rfl,h3⟩⟩
 ·rename_i h1 h2
  split at hs
  ·rename_i s' h3
   cases hs
   refine one _ h3 (fun cs e=>?_) rfl
   subst e
   have hv2:Cell.okWide P w .any b0 t (.agg cs):=by
    unfold Value.okWide at hv
    split at hv
    ·rename_i h4;exact absurd h4 (h1 _)
    ·rename_i h4;exact absurd h4 (h2 _ _)
    ·exact hv
   unfold Cell.okWide at hv2
   split at hv2<;>first|(rename_i h5;cases h5)|skip
   unfold Cell.ok at hv2
   split at hv2<;>first|(rename_i h5;cases h5)|exact hv2
  ·cases hs
theorem open_args{b0:Nat}:∀ {ts:List TypeId} {vs:List Value} {ds:List (DataW H)} {ps:List MemPlace} {ss:List Sh},argsSh P ts=some ss->(∀(j:Nat) t v,ts[j]?=some t->vs[j]?=some v->Value.okWide P w .any b0 t v)->DataW.TrodAll enc P w 0 (fun _=>true) true ts vs ds ps ->
  ∃avs,Sh.fitsL ss avs/\RV0s (Has w) w avs vs
 | [],vs,ds,ps,ss,hs,_,h=>by
  simp only[argsSh,Option.some.injEq]at hs;subst hs
  obtain⟨rfl,_,_⟩:=trodAll_nil h
  exact⟨[],by simp[Sh.fitsL],by simp[RV0s]⟩
 |t::ts,vs,ds,ps,ss,hs,hv,h=>by
  simp only[argsSh]at hs
  split at hs<;>cases hs
  rename_i s0 s1 h1 h2
  obtain⟨v,vs,d,ds,p,q,rfl,rfl,rfl,h3,h4⟩:=trodAll_cons h
  obtain⟨av,h5,h6⟩:=open_arg h1 (hv 0 t v rfl rfl) h3
  obtain⟨avs,h7,h8⟩:=open_args h2 (fun j t v ht hv'=>hv (j+1) t v (by simpa using ht) (by simpa using hv')) h4
  exact⟨av::avs,by simp only[Sh.fitsL];exact⟨_,_,rfl,h5,h7⟩,by simp only[RV0s];exact⟨_,_,rfl,h6,h8⟩⟩
theorem shut_args(hl:laidOutB P=true){W W':World}(hb:Below W.heap.size W W'):∀ {ts:List TypeId} {vs:List Value} {ds:List (DataW H)} {ps:List MemPlace},(∀t∈ts,P.readableRec t=true/\t<P.types.size)->DataW.TrodAll enc P W 0 (fun _=>true) true ts vs ds ps->(∀x∈ps,x.block<W.heap.size) ->
  DataW.TrodAll enc P W' 0 (fun b=>decide (b<W.heap.size)) true ts vs ds ps
 | [],vs,ds,ps,_,h,_=>by
  obtain⟨rfl,rfl,rfl⟩:=trodAll_nil h;exact rfl
 |t::ts,vs,ds,ps,hr,h,hlt=>by
  obtain⟨v,vs,d,ds,p,q,rfl,rfl,rfl,h3,h4⟩:=trodAll_cons h
  refine⟨p,q,Below.trod hl (hr t (by simp)).1 (hr t (by simp)).2 h3 hb (fun x hx=>hlt x (by simp[hx])),shut_args hl hb (fun t ht=>hr t (by simp[ht])) h4 (fun x hx=>hlt x (by simp[hx])),rfl⟩
end
theorem lift_true{H:Type}{enc:TypeId × Value->H}{C:Checked}{fn:Func}{f:FuncId}{s:ChangeSpec}{fresh handsOn:Bool}{ss:List Sh}{tb:TypeId}
  (hl:laidOutB C.prog=true) (hvars:s.vars=[]) (hrt:fn.resultTypes = #[tb]) (htb:C.prog.underlying tb=some .bool) (hps:argsSh C.prog fn.params.toList=some ss)
  (hrd:fn.params.toList.all (fun t=>C.prog.readableRec t&&decide (t<C.prog.types.size))=true)
  (hspec:∀ds:List (DataW H),ds.length=fn.params.toList.length->(s.fn H ds).results=[.lit (.bool true)]/\(s.fn H ds).args=ds/\(s.fn H ds).vars=[])
  (hmain:∀avs,Sh.fitsL ss avs->FnA C.prog f avs (· = .bool true)) :
  ∀(W:World) (base:Nat) (args:Array Value) (ds gs:List (DataW H)) (before:List MemPlace),
   (∀(j:Nat) t v,fn.params[j]?=some t->args[j]?=some v->Value.okWide C.prog W .any base t v) ->
   DataW.Whole enc C.prog fn.params.toList s.vars false W args.toList ds gs before ->
   Calls C.prog f args W fun e W'=>∃v,e = .returned v/\s.post enc C.prog fn false fresh handsOn false W args v W':=by
 intro W base args ds gs before hval hW
 have hW':=hW
 obtain⟨p,q,hA,hV,rfl,hfz,hnd⟩:=hW
 rw[hvars]at hV
 obtain⟨rfl,rfl⟩:=trodVars_none hV
 obtain⟨avs,h1,h2⟩:=open_args hps (fun j t v ht hv=>hval j t v (by simpa using ht) (by simpa using hv)) hA
 have hlen:ds.length=fn.params.toList.length:=by
  have:∀ {ts:List TypeId} {vs:List Value} {ds:List (DataW H)} {ps:List MemPlace},DataW.TrodAll enc C.prog W 0 (fun _=>true) true ts vs ds ps->ds.length=ts.length:=by
   intro ts
   induction ts with
   |nil=>intro vs ds ps h;obtain⟨_,rfl,_⟩:=trodAll_nil h;rfl
   |cons t ts ih=>intro vs ds ps h;obtain⟨v,vs,d,ds,p,q,rfl,rfl,rfl,_,h4⟩:=trodAll_cons h;simp[ih h4]
  exact this hA
 have hm:=hmain avs h1
 unfold FnA at hm
 have hm:=hm (Has W) W args.toList (fun _ ⟨_,_,_,h⟩=>.of_cells h) h2
 rw[show args.toList.toArray=args from by simp]at hm
 refine hm.mono fun e W' h=>?_
 obtain⟨v,x,imm',rfl,rfl,hv,hB,_⟩:=h
 simp only[RV0]at hv
 subst hv
 obtain⟨g1,g2,g3⟩:=hspec ds hlen
 refine⟨_,rfl,ds,[],_,[],p,[],hW',?_,?_,?_,hB.frame _,fun h=>by cases h⟩
 ·rw[List.append_nil,g1,hrt]
  exact trodAll_mk1 ⟨1,by simp[DataW.trod,Value.cells,htb]⟩
 ·rw[List.append_nil,g2]
  refine shut_args hl hB (fun t ht=>?_) hA (fun x hx=>hW'.lt x (by simpa using hx))
  have:=List.all_eq_true.1 hrd t ht
  simpa using this
 ·rw[List.append_nil,g3,hvars];exact rfl
end Go.Eng
