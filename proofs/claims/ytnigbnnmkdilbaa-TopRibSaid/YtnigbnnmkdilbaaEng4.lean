/- The engine of these proofs, part 4 of 4: abstract values and states, the walk of a function's body as a program on them, and why that walk is sound for the model. It speaks of any program. -/
import Derived.Test.YtnigbnnmkdilbaaEng3
set_option linter.unusedSimpArgs false
set_option linter.unusedVariables false
set_option linter.unusedSectionVars false
namespace Go.Eng
open Go.RowKit
inductive Sh where
 |int (k:IntKind)
 |bool
 |str
 |sl (es:List Sh)
 |agg (ss:List Sh)
mutual
def Sh.fits:Sh->AV->Prop
 |.int k,v=>∃n,v = .int k n/\(Lit.int k n).wf=true
 |.bool,v=>∃b,v = .bool b
 |.str,v=>∃s,v = .str s/\s.length<=maxLen
 |.sl es,v=>∃rows:List (List AV),v = .isl rows/\rows.length<=maxLen/\∀r∈rows,Sh.fitsL es r
 |.agg ss,v=>∃l,v = .agg l/\Sh.fitsL ss l
def Sh.fitsL:List Sh->List AV->Prop
 | [],l=>l=[]
 |s::ss,l=>∃v vs,l=v::vs/\Sh.fits s v/\Sh.fitsL ss vs
end
theorem Sh.fitsL_append:∀ {a b:List Sh} {x y:List AV},Sh.fitsL a x->Sh.fitsL b y->Sh.fitsL (a++b) (x++y)
 | [],_,_,_,hx,hy=>by simp only[Sh.fitsL]at hx;subst hx;simpa using hy
 |s::ss,b,x,y,hx,hy=>by
  simp only[Sh.fitsL]at hx
  obtain⟨v,vs,rfl,h1,h2⟩:=hx
  simp only[List.cons_append,Sh.fitsL]
  exact⟨v,vs++y,rfl,h1,Sh.fitsL_append h2 hy⟩
theorem Sh.fitsL_len:∀ {a:List Sh} {x:List AV},Sh.fitsL a x->x.length=a.length
 | [],_,hx=>by simp only[Sh.fitsL]at hx;subst hx;rfl
 |s::ss,x,hx=>by
  simp only[Sh.fitsL]at hx
  obtain⟨v,vs,rfl,h1,h2⟩:=hx
  simp[Sh.fitsL_len h2]
theorem RV0s_append{imm:Nat->Prop}{w:World}:∀ {a b:List AV} {x y:List Value},RV0s imm w a x->RV0s imm w b y->RV0s imm w (a++b) (x++y)
 | [],_,_,_,hx,hy=>by simp only[RV0s]at hx;subst hx;simpa using hy
 |s::ss,b,x,y,hx,hy=>by
  simp only[RV0s]at hx
  obtain⟨v,vs,rfl,h1,h2⟩:=hx
  simp only[List.cons_append,RV0s]
  exact⟨v,vs++y,rfl,h1,RV0s_append h2 hy⟩
def Has(w:World)(b:Nat):Prop:=∃c el fz,w.heap[b]?=some (.cells c el fz)
theorem Has.of_cell{w:World}{a:Addr}{v:Value}(h:w.cell? a=some v):Has w a.block/\a.spot=none:=by
 unfold World.cell? at h
 unfold Has
 split at h
 ·rename_i c x y hh
  split at h
  ·cases h
  ·rename_i hs
   exact⟨⟨_,_,_,hh⟩,by simpa using hs⟩
 ·cases h
theorem RV0r_of{imm:Nat->Prop}{w:World}{b sz:Nat}:∀ {rows:List (List AV)} {off:Nat},(∀i r,rows[i]?=some r->r.length=sz/\RV0c imm w b (off+i*sz) r)->RV0r imm w b sz off rows
 | [],_,_=>by simp[RV0r]
 |r::rows,off,h=>by
  simp only[RV0r]
  have h0:=h 0 r rfl
  refine⟨h0.1,by simpa using h0.2,RV0r_of fun i q hq=>?_⟩
  have:=h (i+1) q (by simpa using hq)
  rwa [show off+(i+1)*sz=off+sz+i*sz from by rw[Nat.add_mul];omega]at this
theorem list_of{α : Type}{Q:Nat -> α -> Prop}:∀(n:Nat),(∀i,i<n->∃r,Q i r)->∃rows:List α,rows.length=n/\∀i r,rows[i]?=some r->Q i r
 |0,_=>⟨[],rfl,fun i r h=>by simp at h⟩
 |n+1,h=>by
  obtain⟨rows,h1,h2⟩:=list_of n fun i hi=>h i (by omega)
  obtain⟨r,hr⟩:=h n (by omega)
  refine⟨rows++[r],by simp[h1],fun i q hq=>?_⟩
  by_cases hi:i<n
  ·rw[List.getElem?_append_left (by omega)]at hq;exact h2 i q hq
  ·rw[List.getElem?_append_right (by omega)]at hq
   by_cases he:i=n
   ·subst he;simp[h1]at hq;subst hq;exact hr
   ·have:i-rows.length≠0:=by omega
    cases hh:i-rows.length with
    |zero=>omega
    |succ k=>rw[hh]at hq;simp at hq
mutual
def shape(P:Program):Nat->TypeId->Option (List Sh)
 |0,_=>none
 |n+1,t=>match P.underlying t with
  |some .bool=>some [.bool]
  |some (.int k)=>some [.int k]
  |some .string=>some [.str]
  |some (.slice e)=>match shape P n e with
   |some (s::ss)=>if P.cellsOf e=(s::ss).length then some [.sl (s::ss)] else none
   |_=>none
  |some (.struct fs)=>match shapeF P n 0 fs.toList with
   |some ss=>if P.cellsOf t=ss.length then some ss else none
   |none=>none
  |_=>none
def shapeF(P:Program):Nat->Nat->List Field->Option (List Sh)
 |_,_,[]=>some []
 |0,_,_=>none
 |n+1,off,f::fs=>match shape P n f.type with
  |some ss=>if f.offset=off/\P.cellsOf f.type=ss.length then match shapeF P n (off+ss.length) fs with
    |some tt=>some (ss++tt)
    |none=>none
   else none
  |none=>none
end
section
variable {H:Type} {enc:TypeId × Value->H} {P:Program} {w:World}
theorem take_drop{cs:List Value}{off m:Nat}{n:Nat}(h:(cs.drop off).length=n+m):cs.drop off=(cs.drop off).take n++cs.drop (off+n)/\(cs.drop (off+n)).length=m:=by
 refine⟨by rw[<- List.drop_drop,List.take_append_drop],by simp at h⊢;omega⟩
theorem opened:∀(n:Nat),
  (∀(t:TypeId) (ss:List Sh) (fuel:Nat) (cs:List Value) (x:DataW H × List MemPlace),shape P n t=some ss->DataW.trod enc P w 0 (fun _=>true) true fuel t cs=some x->cs.length=ss.length/\∃avs,Sh.fitsL ss avs/\RV0s (Has w) w avs cs) /\
  (∀(fs:List Field) (off:Nat) (ss:List Sh) (fuel:Nat) (cs:List Value),shapeF P n off fs=some ss->(cs.drop off).length=ss.length->(∀(i:Nat) (f:Field),fs[i]?=some f->∃x,DataW.trod enc P w 0 (fun _=>true) true fuel f.type ((cs.drop f.offset).take (P.cellsOf f.type))=some x) ->
   ∃avs,Sh.fitsL ss avs/\RV0s (Has w) w avs (cs.drop off))
 |0=>⟨fun t ss fuel cs x h=>by simp[shape]at h,fun fs off ss fuel cs h hl _=>by
   cases fs with
   |nil=>
    simp only[shapeF,Option.some.injEq]at h;subst h
    refine⟨[],by simp[Sh.fitsL],?_⟩
    have:cs.drop off=[]:=List.eq_nil_of_length_eq_zero (by simpa using hl)
    rw[this];simp[RV0s]
   |cons f fs=>simp[shapeF]at h⟩
 |n+1=>by
  have ih:=opened n
  refine⟨fun t ss fuel cs x h hx=>?_,fun fs off ss fuel cs h hl hf=>?_⟩
  ·simp only[shape]at h
   split at h
   ·rename_i ht
    cases h
    obtain⟨b,rfl,_⟩:=DataW.trod_bool ht hx
    exact⟨rfl,[.bool b],by simp[Sh.fitsL,Sh.fits],by simp[RV0s,RV0]⟩
   ·rename_i k ht
    cases h
    obtain⟨b,rfl,_,hw⟩:=DataW.trod_int ht hx
    exact⟨rfl,[.int k b],by simp[Sh.fitsL,Sh.fits,hw],by simp[RV0s,RV0]⟩
   ·rename_i ht
    cases h
    obtain⟨s,rfl,_,hw⟩:=DataW.trod_string ht hx
    exact⟨rfl,[.str s.data.toList],by simp[Sh.fitsL,Sh.fits];exact hw,by simp[RV0s,RV0]⟩
   ·rename_i e ht
    split at h
    ·rename_i s0 s1 hs
     split at h<;>cases h
     rename_i hc
     rcases DataW.trod_slice ht hx with⟨rfl,_⟩|⟨a,len,cap,elems,rest,m,_,rfl,_,_,h1,h2,h3,h4,h5,_⟩
     ·exact⟨rfl,[.isl []],by simp[Sh.fitsL,Sh.fits],by simp[RV0s,RV0]⟩
     ·refine⟨rfl,?_⟩
      by_cases h0:cap=0
      ·subst h0
       have:len=0:=by omega
       subst this
       exact⟨[.isl []],by simp[Sh.fitsL,Sh.fits],by simp[RV0s,RV0]⟩
      ·obtain⟨h5,h6⟩:=h5 rfl
       have hcell:∀j,j<cap->∃cs',w.cells? 0 (a.add (j*P.cellsOf e)) (P.cellsOf e)=some cs'/\∃y,DataW.trod enc P w 0 (fun _=>true) true m e cs'=some y:=by
        intro j hj
        have:∃y,(w.cells? 0 (a.add (j*P.cellsOf e)) (P.cellsOf e)).bind (DataW.trod enc P w 0 (fun _=>true) true m e)=some y:=by
         by_cases hjl:j<len
         ·rw[h4 j hjl];exact⟨elems[j]'(by omega),by simp[List.getElem?_eq_getElem,h3,hjl]⟩
         ·have:=h6 (j-len) (by omega)
          rw[show len+(j-len)=j from by omega]at this
          rw[this];exact⟨rest[j-len]'(by omega),by rw[List.getElem?_eq_getElem]⟩
        obtain⟨y,hy⟩:=this
        obtain⟨cs',h7,h8⟩:=Option.bind_eq_some_iff.1 hy
        exact⟨cs',h7,y,h8⟩
       have hpos:0<P.cellsOf e:=by rw[hc];simp
       obtain⟨cs0,hc0,_⟩:=hcell 0 (by omega)
       obtain⟨_,hl0,hg0⟩:=World.cells?_some hc0
       have hg:=hg0 0 hpos
       rw[List.getElem?_eq_getElem (by omega)]at hg
       have hA:((a.add (0*P.cellsOf e)).add 0)=a:=by simp[Addr.add]
       rw[hA]at hg
       obtain⟨hb,hsp⟩:=Has.of_cell hg
       obtain⟨b,off,sp⟩:=a
       simp only at hsp hb;subst hsp
       obtain⟨rows,hr1,hr2⟩:=list_of (Q:=fun i r=>Sh.fitsL (s0::s1) r/\RV0c (Has w) w b (off+i*P.cellsOf e) r) len (fun i hi=>by
        obtain⟨cs',h7,y,h8⟩:=hcell i (by omega)
        obtain⟨_,avs,h9,h10⟩:=ih.1 _ _ _ _ _ hs h8
        obtain⟨_,hl',hg'⟩:=World.cells?_some h7
        refine⟨avs,h9,RV0c.of_list h10 fun j u hu=>?_⟩
        have hj:j<P.cellsOf e:=by
         have:=(List.getElem?_eq_some_iff.1 hu).1;omega
        have:=hg' j hj
        rw[hu]at this
        simpa[add_off]using this)
       refine⟨[.isl rows],?_,?_⟩
       ·simp only[Sh.fitsL,Sh.fits]
        exact⟨_,_,rfl,⟨rows,rfl,by omega,fun r hr=>by
         obtain⟨i,hi,rfl⟩:=List.getElem_of_mem hr
         exact(hr2 i _ (List.getElem?_eq_getElem hi)).1⟩,rfl⟩
       ·simp only[RV0s,RV0]
        refine⟨_,_,rfl, .inr ⟨P.cellsOf e,b,off,cap,by rw[hr1],by omega,hb,RV0r_of fun i r hr=>?_⟩,rfl⟩
        have:=hr2 i r hr
        exact⟨by rw[Sh.fitsL_len this.1,hc],this.2⟩
    ·cases h
   ·rename_i fs ht
    split at h
    ·rename_i ss' hs
     split at h<;>cases h
     rename_i hc
     obtain⟨xs,m,rfl,_,h1,h2,h3⟩:=DataW.trod_struct ht hx
     refine⟨by omega,?_⟩
     have:=ih.2 fs.toList 0 _ m cs hs (by simp;omega) (fun i f hf=>by
      have hf':fs[i]?=some f:=by simpa using hf
      have:=h3 i f hf'
      rw[this]
      have hi:i<fs.size:=(Array.getElem?_eq_some_iff.1 hf').1
      exact⟨xs[i]'(by omega),List.getElem?_eq_getElem _⟩)
     simpa using this
    ·cases h
   ·cases h
  ·cases fs with
   |nil=>
    simp only[shapeF,Option.some.injEq]at h;subst h
    refine⟨[],by simp[Sh.fitsL],?_⟩
    have:cs.drop off=[]:=List.eq_nil_of_length_eq_zero (by simpa using hl)
    rw[this];simp[RV0s]
   |cons f fs=>
    simp only[shapeF]at h
    split at h
    ·rename_i sa hsa
     split at h
     ·rename_i hoff
      split at h<;>cases h
      rename_i st hst
      obtain⟨x,hx⟩:=hf 0 f rfl
      rw[hoff.1]at hx
      obtain⟨h1,avs,h2,h3⟩:=ih.1 _ _ _ _ _ hsa hx
      obtain⟨e1,e2⟩:=take_drop (n:=sa.length) (m:=st.length) (by simpa using hl)
      obtain⟨bvs,h4,h5⟩:=ih.2 fs _ _ fuel cs hst e2 (fun i g hg=>hf (i+1) g (by simpa using hg))
      refine⟨avs++bvs,Sh.fitsL_append h2 h4,?_⟩
      rw[e1]
      rw[hoff.2]at h3
      exact RV0s_append h3 h5
     ·cases h
    ·cases h
end
open Go.WideShapes Go.ChangeShapes
def argSh(P:Program)(t:TypeId):Option Sh:=
 match P.underlying t with
 |some (.struct _)=>(shape P 40 t).map .agg
 |some (.array _ _)=>none
 |_=>match shape P 40 t with
  |some [s]=>some s
  |_=>none
def argsSh(P:Program):List TypeId->Option (List Sh)
 | []=>some []
 |t::ts=>match argSh P t,argsSh P ts with
  |some s,some ss=>some (s::ss)
  |_,_=>none
section
variable {H:Type} {enc:TypeId × Value->H} {P:Program} {w:World}
theorem open_arg{b0:Nat}{t:TypeId}{v:Value}{d:DataW H}{ps:List MemPlace}{s:Sh}(hs:argSh P t=some s)(hv:Value.okWide P w .any b0 t v)(h:DataW.Trod enc P w 0 (fun _=>true) true t v d ps) :
  ∃av,Sh.fits s av/\RV0 (Has w) w av v:=by
 obtain⟨fuel,hf⟩:=h
 have one:∀ss,shape P 40 t=some ss->(∀cs,v ≠ .agg cs)->ss=[s]->∃av,Sh.fits s av/\RV0 (Has w) w av v:=by
  intro ss h1 h2 h3
  subst h3
  obtain⟨_,avs,h4,h5⟩:=(opened (enc:=enc) (P:=P) (w:=w) 40).1 _ _ _ _ _ h1 hf
  have:v.cells.toList=[v]:=by cases v<;>first|rfl|exact absurd rfl (h2 _)
  rw[this]at h5
  simp only[Sh.fitsL]at h4
  obtain⟨av,_,rfl,h6,rfl⟩:=h4
  simp only[RV0s]at h5
  obtain⟨_,_,h7,h8,h9⟩:=h5
  cases h7
  exact⟨av,h6,h8⟩
 unfold argSh at hs
 split at hs
 ·rename_i fs ht
  obtain⟨cs,rfl,_⟩:=okWide_struct ht hv
  obtain⟨ss,h1,rfl⟩:=Option.map_eq_some_iff.1 hs
  obtain⟨_,avs,h2,h3⟩:=(opened (enc:=enc) (P:=P) (w:=w) 40).1 _ _ _ _ _ h1 hf
  exact⟨.agg avs,by simp only[Sh.fits];exact⟨_,rfl,h2⟩,by simp only[RV0];exact⟨_,rfl,h3⟩⟩
 ·cases hs
 ·rename_i h1 h2
  split at hs
  ·rename_i s' h3
   cases hs
   refine one _ h3 (fun cs e=>?_) rfl
   subst e
   have hv2:Cell.okWide P w .any b0 t (.agg cs):=by
    unfold Value.okWide at hv
    split at hv
    ·rename_i h4;exact absurd h4 (h1 _)
    ·rename_i h4;exact absurd h4 (h2 _ _)
    ·exact hv
   unfold Cell.okWide at hv2
   split at hv2<;>first|(rename_i h5;cases h5)|skip
   unfold Cell.ok at hv2
   split at hv2<;>first|(rename_i h5;cases h5)|exact hv2
  ·cases hs
theorem open_args{b0:Nat}:∀ {ts:List TypeId} {vs:List Value} {ds:List (DataW H)} {ps:List MemPlace} {ss:List Sh},argsSh P ts=some ss->(∀(j:Nat) t v,ts[j]?=some t->vs[j]?=some v->Value.okWide P w .any b0 t v)->DataW.TrodAll enc P w 0 (fun _=>true) true ts vs ds ps ->
  ∃avs,Sh.fitsL ss avs/\RV0s (Has w) w avs vs
 | [],vs,ds,ps,ss,hs,_,h=>by
  simp only[argsSh,Option.some.injEq]at hs;subst hs
  obtain⟨rfl,_,_⟩:=trodAll_nil h
  exact⟨[],by simp[Sh.fitsL],by simp[RV0s]⟩
 |t::ts,vs,ds,ps,ss,hs,hv,h=>by
  simp only[argsSh]at hs
  split at hs<;>cases hs
  rename_i s0 s1 h1 h2
  obtain⟨v,vs,d,ds,p,q,rfl,rfl,rfl,h3,h4⟩:=trodAll_cons h
  obtain⟨av,h5,h6⟩:=open_arg h1 (hv 0 t v rfl rfl) h3
  obtain⟨avs,h7,h8⟩:=open_args h2 (fun j t v ht hv'=>hv (j+1) t v (by simpa using ht) (by simpa using hv')) h4
  exact⟨av::avs,by simp only[Sh.fitsL];exact⟨_,_,rfl,h5,h7⟩,by simp only[RV0s];exact⟨_,_,rfl,h6,h8⟩⟩
theorem shut_args(hl:laidOutB P=true){W W':World}(hb:Below W.heap.size W W'):∀ {ts:List TypeId} {vs:List Value} {ds:List (DataW H)} {ps:List MemPlace},(∀t∈ts,P.readableRec t=true/\t<P.types.size)->DataW.TrodAll enc P W 0 (fun _=>true) true ts vs ds ps->(∀x∈ps,x.block<W.heap.size) ->
  DataW.TrodAll enc P W' 0 (fun b=>decide (b<W.heap.size)) true ts vs ds ps
 | [],vs,ds,ps,_,h,_=>by
  obtain⟨rfl,rfl,rfl⟩:=trodAll_nil h;exact rfl
 |t::ts,vs,ds,ps,hr,h,hlt=>by
  obtain⟨v,vs,d,ds,p,q,rfl,rfl,rfl,h3,h4⟩:=trodAll_cons h
  refine⟨p,q,Below.trod hl (hr t (by simp)).1 (hr t (by simp)).2 h3 hb (fun x hx=>hlt x (by simp[hx])),shut_args hl hb (fun t ht=>hr t (by simp[ht])) h4 (fun x hx=>hlt x (by simp[hx])),rfl⟩
end
theorem lift_true{H:Type}{enc:TypeId × Value->H}{C:Checked}{fn:Func}{f:FuncId}{s:ChangeSpec}{fresh handsOn:Bool}{ss:List Sh}{tb:TypeId}
  (hl:laidOutB C.prog=true) (hvars:s.vars=[]) (hrt:fn.resultTypes = #[tb]) (htb:C.prog.underlying tb=some .bool) (hps:argsSh C.prog fn.params.toList=some ss)
  (hrd:fn.params.toList.all (fun t=>C.prog.readableRec t&&decide (t<C.prog.types.size))=true)
  (hspec:∀ds:List (DataW H),ds.length=fn.params.toList.length->(s.fn H ds).results=[.lit (.bool true)]/\(s.fn H ds).args=ds/\(s.fn H ds).vars=[])
  (hmain:∀avs,Sh.fitsL ss avs->FnA C.prog f avs (· = .bool true)) :
  ∀(W:World) (base:Nat) (args:Array Value) (ds gs:List (DataW H)) (before:List MemPlace),
   (∀(j:Nat) t v,fn.params[j]?=some t->args[j]?=some v->Value.okWide C.prog W .any base t v) ->
   DataW.Whole enc C.prog fn.params.toList s.vars false W args.toList ds gs before ->
   Calls C.prog f args W fun e W'=>∃v,e = .returned v/\s.post enc C.prog fn false fresh handsOn false W args v W':=by
 intro W base args ds gs before hval hW
 have hW':=hW
 obtain⟨p,q,hA,hV,rfl,hfz,hnd⟩:=hW
 rw[hvars]at hV
 obtain⟨rfl,rfl⟩:=trodVars_none hV
 obtain⟨avs,h1,h2⟩:=open_args hps (fun j t v ht hv=>hval j t v (by simpa using ht) (by simpa using hv)) hA
 have hlen:ds.length=fn.params.toList.length:=by
  have:∀ {ts:List TypeId} {vs:List Value} {ds:List (DataW H)} {ps:List MemPlace},DataW.TrodAll enc C.prog W 0 (fun _=>true) true ts vs ds ps->ds.length=ts.length:=by
   intro ts
   induction ts with
   |nil=>intro vs ds ps h;obtain⟨_,rfl,_⟩:=trodAll_nil h;rfl
   |cons t ts ih=>intro vs ds ps h;obtain⟨v,vs,d,ds,p,q,rfl,rfl,rfl,_,h4⟩:=trodAll_cons h;simp[ih h4]
  exact this hA
 have hm:=hmain avs h1
 unfold FnA at hm
 have hm:=hm (Has W) W args.toList (fun _ ⟨_,_,_,h⟩=>.of_cells h) h2
 rw[show args.toList.toArray=args from by simp]at hm
 refine hm.mono fun e W' h=>?_
 obtain⟨v,x,imm',rfl,rfl,hv,hB,_⟩:=h
 simp only[RV0]at hv
 subst hv
 obtain⟨g1,g2,g3⟩:=hspec ds hlen
 refine⟨_,rfl,ds,[],_,[],p,[],hW',?_,?_,?_,hB.frame _,fun h=>by cases h⟩
 ·rw[List.append_nil,g1,hrt]
  exact trodAll_mk1 ⟨1,by simp[DataW.trod,Value.cells,htb]⟩
 ·rw[List.append_nil,g2]
  refine shut_args hl hB (fun t ht=>?_) hA (fun x hx=>hW'.lt x (by simpa using hx))
  have:=List.all_eq_true.1 hrd t ht
  simpa using this
 ·rw[List.append_nil,g3,hvars];exact rfl
end Go.Eng
