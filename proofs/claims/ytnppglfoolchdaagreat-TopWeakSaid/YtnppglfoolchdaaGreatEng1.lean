/- The engine of these proofs, part 1 of 4: abstract values and states, the walk of a function's body as a program on them, and why that walk is sound for the model. It speaks of any program. -/
import Derived.WalkKit
import Derived.RangeFuncNested
import Derived.RangeFuncLeaves
import Derived.ChangeKeysEq
import Derived.Great.BuildSlice
import Derived.Maps.RangeRun
import Derived.LoopNIn
import Derived.ProofKit
import Derived.OpenShut
import Derived.Lib.SmallJoins
set_option linter.unusedSimpArgs false
set_option linter.unusedVariables false
set_option linter.unusedSectionVars false
namespace Go.Eng
open Go.RowKit
inductive AV where
 |bool (b:Bool)
 |int (k:IntKind) (n:Int)
 |str (s:List UInt8)
 |lit (v:Value)
 |agg (cs:List AV)
 |tup (vs:List AV)
 |fn (f:FuncId) (cap:List AV)
 |isl (es:List (List AV))
 |nils
 |ipt (cs:List AV)
 |imp (ks vs:List AV)
 |tsl (sz:Nat) (es:List (List AV))
 |mth (f:FuncId) (first:List AV)
 |any
 |own (i off:Nat)
 |elt (i sz k j:Nat)
 |row (i:Nat)
 |cut (i sz lo n:Nat)
 |yld
 |gone
def Born(es:Array MapEntry)(n:Nat):Prop:=(es.toList.map (·.born)).Pairwise (· < ·)/\∀e∈es.toList,e.born<n
def isMem:Obj->Bool
 |.cells _ _ _=>true
 |.map _ _=>true
 |.mapIter _ _ _ _=>true
 |.stringIter _ _=>true
 |_=>false
def Mem(w:World)(b:Nat):Prop:=∃o,w.heap[b]?=some o/\isMem o=true
theorem Mem.of_cells{w:World}{b:Nat}{c:Array Value}{el:TypeId}{fz:Nat × Nat}(h:w.heap[b]?=some (.cells c el fz)):Mem w b:=⟨_,h,rfl⟩
theorem Mem.lt{w:World}{b:Nat}(h:Mem w b):b<w.heap.size:=by obtain⟨o,h,_⟩:=h;exact(Array.getElem?_eq_some_iff.1 h).1
theorem Mem.same{w w':World}{b:Nat}(h:Mem w b)(e:w'.heap[b]?=w.heap[b]?):Mem w' b:=by obtain⟨o,h,k⟩:=h;exact⟨o,e.trans h,k⟩
mutual
def RV0(imm:Nat->Prop)(w:World):AV->Value->Prop
 |.bool b,v=>v = .bool b
 |.int k n,v=>v = .int k n
 |.str s,v=>v = .string ⟨s.toArray⟩
 |.lit x,v=>v=x
 |.agg cs,v=>∃vs:List Value,v = .agg vs.toArray/\RV0s imm w cs vs
 |.tup cs,v=>∃vs:List Value,v = .tuple vs.toArray/\RV0s imm w cs vs
 |.fn f cap,v=>∃vs:List Value,v = .func (.func f) #[] vs.toArray/\RV0s imm w cap vs
 |.isl es,v=>((∃a,v = .slice a 0 0)/\es=[])\/∃sz b off cap,v = .slice (some ⟨b,off,none⟩) es.length cap/\es.length<=cap/\imm b/\RV0r imm w b sz off es
 |.nils,v=>v = .slice none 0 0
 |.ipt cs,v=>∃b off,v = .pointer (some ⟨b,off,none⟩)/\imm b/\RV0c imm w b off cs
 |.imp ks us,v=>∃b es n,v = .map (some b)/\imm b/\w.heap[b]?=some (.map es n)/\Born es n/\RV0s imm w ks (es.toList.map (·.key))/\RV0s imm w us (es.toList.map (·.val))
 |.tsl sz es,v=>((∃a,v = .slice a 0 0)/\es=[])\/∃b off,v = .slice (some ⟨b,off,none⟩) es.length es.length/\imm b/\RV0r imm w b sz off es
 |.any,v=>v.oneCell'=true
 |.mth f cs,v=>∃vs:List Value,v = .func (.func f) vs.toArray #[]/\RV0s imm w cs vs
 |_,_=>False
def RV0s(imm:Nat->Prop)(w:World):List AV->List Value->Prop
 | [],vs=>vs=[]
 |a::as,vs=>∃v vs',vs=v::vs'/\RV0 imm w a v/\RV0s imm w as vs'
def RV0c(imm:Nat->Prop)(w:World)(b:Nat):Nat->List AV->Prop
 |_,[]=>True
 |off,a::as=>(∃u,w.cell? ⟨b,off,none⟩=some u/\RV0 imm w a u)/\RV0c imm w b (off+1) as
def RV0r(imm:Nat->Prop)(w:World)(b sz:Nat):Nat->List (List AV)->Prop
 |_,[]=>True
 |off,e::es=>e.length=sz/\RV0c imm w b off e/\RV0r imm w b sz (off+sz) es
end
def Pers(imm imm':Nat->Prop)(w w':World):Prop:=∀b,imm b->imm' b/\w'.heap[b]?=w.heap[b]?
mutual
theorem RV0.mono{imm imm':Nat->Prop}{w w':World}(hp:Pers imm imm' w w'):∀(a:AV) (v:Value),RV0 imm w a v->RV0 imm' w' a v
 |.bool _,_,h=>by simpa[RV0]using h
 |.int _ _,_,h=>by simpa[RV0]using h
 |.str _,_,h=>by simpa[RV0]using h
 |.lit _,_,h=>by simpa[RV0]using h
 |.agg cs,v,h=>by
  simp only[RV0]at h⊢;obtain⟨vs,rfl,h⟩:=h;exact⟨vs,rfl,RV0s.mono hp cs vs h⟩
 |.tup cs,v,h=>by
  simp only[RV0]at h⊢;obtain⟨vs,rfl,h⟩:=h;exact⟨vs,rfl,RV0s.mono hp cs vs h⟩
 |.fn f cs,v,h=>by
  simp only[RV0]at h⊢;obtain⟨vs,rfl,h⟩:=h;exact⟨vs,rfl,RV0s.mono hp cs vs h⟩
 |.isl es,v,h=>by
  simp only[RV0]at h⊢
  rcases h with h|⟨sz,b,off,cap,rfl,hc,hi,h⟩
  ·exact .inl h
  ·exact .inr ⟨sz,b,off,cap,rfl,hc,(hp b hi).1,RV0r.mono hp b sz hi off es h⟩
 |.nils,_,h=>by simpa[RV0]using h
 |.ipt cs,v,h=>by
  simp only[RV0]at h⊢;obtain⟨b,off,rfl,hi,h⟩:=h;exact⟨b,off,rfl,(hp b hi).1,RV0c.mono hp b hi off cs h⟩
 |.imp ks us,v,h=>by
  simp only[RV0]at h⊢;obtain⟨b,es,nB,rfl,hi,hh,hB,h1,h2⟩:=h;exact⟨b,es,nB,rfl,(hp b hi).1,(hp b hi).2.trans hh,hB,RV0s.mono hp ks _ h1,RV0s.mono hp us _ h2⟩
 |.any,v,h=>by simpa only[RV0]using h
 |.mth f cs,v,h=>by
  simp only[RV0]at h⊢;obtain⟨vs,rfl,h⟩:=h;exact⟨vs,rfl,RV0s.mono hp cs vs h⟩
 |.tsl sz es,v,h=>by
  simp only[RV0]at h⊢
  rcases h with h|⟨b,off,rfl,hi,h⟩
  ·exact .inl h
  ·exact .inr ⟨b,off,rfl,(hp b hi).1,RV0r.mono hp b sz hi off es h⟩
 |.own _ _,_,h=>by simp[RV0]at h
 |.elt _ _ _ _,_,h=>by simp[RV0]at h
 |.row _,_,h=>by simp[RV0]at h
 |.cut _ _ _ _,_,h=>by simp[RV0]at h
 |.yld,_,h=>by simp[RV0]at h
 |.gone,_,h=>by simp[RV0]at h
theorem RV0s.mono{imm imm':Nat->Prop}{w w':World}(hp:Pers imm imm' w w'):∀(as:List AV) (vs:List Value),RV0s imm w as vs->RV0s imm' w' as vs
 | [],vs,h=>by simpa[RV0s]using h
 |a::as,vs,h=>by
  simp only[RV0s]at h⊢;obtain⟨v,vs',rfl,h1,h2⟩:=h
  exact⟨v,vs',rfl,RV0.mono hp a v h1,RV0s.mono hp as vs' h2⟩
theorem RV0c.mono{imm imm':Nat->Prop}{w w':World}(hp:Pers imm imm' w w')(b:Nat)(hb:imm b):∀(off:Nat) (as:List AV),RV0c imm w b off as->RV0c imm' w' b off as
 |_,[],_=>by simp[RV0c]
 |off,a::as,h=>by
  simp only[RV0c]at h⊢;obtain⟨⟨u,hu,h1⟩,h2⟩:=h
  exact⟨⟨u,(World.cell?_of_block (a:=⟨b,off,none⟩) (hp b hb).2).trans hu,RV0.mono hp a u h1⟩,RV0c.mono hp b hb (off+1) as h2⟩
theorem RV0r.mono{imm imm':Nat->Prop}{w w':World}(hp:Pers imm imm' w w')(b sz:Nat)(hb:imm b):∀(off:Nat) (es:List (List AV)),RV0r imm w b sz off es->RV0r imm' w' b sz off es
 |_,[],_=>by simp[RV0r]
 |off,e::es,h=>by
  simp only[RV0r]at h⊢;obtain⟨h0,h1,h2⟩:=h
  exact⟨h0,RV0c.mono hp b hb off e h1,RV0r.mono hp b sz hb (off+sz) es h2⟩
end
theorem RV0.tsl_isl{imm:Nat->Prop}{w:World}{sz:Nat}{es:List (List AV)}{v:Value}(h:RV0 imm w (.tsl sz es) v):RV0 imm w (.isl es) v:=by
 simp only[RV0]at h⊢
 rcases h with h|⟨b,off,h1,h2,h3⟩
 ·exact .inl h
 ·exact .inr ⟨sz,b,off,_,h1,Nat.le_refl _,h2,h3⟩
structure Own where
 blk:Nat
 val:Value
structure Wt where
 s:Nat->Prop
 h:Nat->Prop
structure Ln where
 l:Nat
 S:Wt
abbrev lnl(l:Nat):Ln:=⟨l,⟨fun _=>False,fun _=>False⟩⟩
abbrev ln0:Ln:=⟨0,⟨fun _=>False,fun _=>False⟩⟩
structure Ctx where
 imm:Nat->Prop
 T:Nat->Prop
 rho:Nat->Option Own
 w:World
 l:Ln
def CutV(sz lo n:Nat)(x v:Value):Prop:=∃a len cap,x = .slice a len cap/\lo+n<=len/\len<=cap/\v = .slice (if cap=lo then a else a.map (·.add (lo*sz))) n (cap-lo)
mutual
def RV(C:Ctx):AV->Value->Prop
 |.bool b,v=>v = .bool b
 |.int k n,v=>v = .int k n
 |.str s,v=>v = .string ⟨s.toArray⟩
 |.lit x,v=>v=x
 |.agg cs,v=>∃vs:List Value,v = .agg vs.toArray/\RVs C cs vs
 |.tup cs,v=>∃vs:List Value,v = .tuple vs.toArray/\RVs C cs vs
 |.fn f cap,v=>∃vs:List Value,v = .func (.func f) #[] vs.toArray/\RVs C cap vs
 |.isl es,v=>RV0 C.imm C.w (.isl es) v
 |.nils,v=>v = .slice none 0 0
 |.ipt cs,v=>RV0 C.imm C.w (.ipt cs) v
 |.imp ks us,v=>RV0 C.imm C.w (.imp ks us) v
 |.tsl sz es,v=>RV0 C.imm C.w (.tsl sz es) v
 |.any,v=>v.oneCell'=true
 |.mth f cs,v=>RV0 C.imm C.w (.mth f cs) v
 |.own i off,v=>∃o,C.rho i=some o/\v = .pointer (some ⟨o.blk,off,none⟩)
 |.elt i sz k j,v=>∃o,C.rho i=some o/\v = .pointer (some ⟨o.blk,k*sz+j,none⟩)
 |.row i,v=>∃o,C.rho i=some o/\v=o.val
 |.cut i sz lo n,v=>∃o,C.rho i=some o/\CutV sz lo n o.val v
 |.yld,v=>v = .func (.yield C.l.l) #[] #[]
 |.gone,_=>True
def RVs(C:Ctx):List AV->List Value->Prop
 | [],vs=>vs=[]
 |a::as,vs=>∃v vs',vs=v::vs'/\RV C a v/\RVs C as vs'
end
mutual
theorem RV0.rv{C:Ctx}:∀(a:AV) (v:Value),RV0 C.imm C.w a v->RV C a v
 |.bool _,_,h=>by simpa[RV0,RV]using h
 |.int _ _,_,h=>by simpa[RV0,RV]using h
 |.str _,_,h=>by simpa[RV0,RV]using h
 |.lit _,_,h=>by simpa[RV0,RV]using h
 |.agg cs,v,h=>by
  simp only[RV0,RV]at h⊢;obtain⟨vs,rfl,h⟩:=h;exact⟨vs,rfl,RV0s.rv cs vs h⟩
 |.tup cs,v,h=>by
  simp only[RV0,RV]at h⊢;obtain⟨vs,rfl,h⟩:=h;exact⟨vs,rfl,RV0s.rv cs vs h⟩
 |.fn f cs,v,h=>by
  simp only[RV0,RV]at h⊢;obtain⟨vs,rfl,h⟩:=h;exact⟨vs,rfl,RV0s.rv cs vs h⟩
 |.isl es,v,h=>by simpa only[RV]using h
 |.nils,_,h=>by simpa[RV0,RV]using h
 |.ipt cs,v,h=>by simpa only[RV]using h
 |.imp _ _,v,h=>by simpa only[RV]using h
 |.tsl _ _,v,h=>by simpa only[RV]using h
 |.mth _ _,v,h=>by simpa only[RV]using h
 |.any,v,h=>by simpa only[RV0,RV]using h
 |.own _ _,_,h=>by simp[RV0]at h
 |.elt _ _ _ _,_,h=>by simp[RV0]at h
 |.row _,_,h=>by simp[RV0]at h
 |.cut _ _ _ _,_,h=>by simp[RV0]at h
 |.yld,_,h=>by simp[RV0]at h
 |.gone,_,h=>by simp[RV0]at h
theorem RV0s.rv{C:Ctx}:∀(as:List AV) (vs:List Value),RV0s C.imm C.w as vs->RVs C as vs
 | [],vs,h=>by simpa[RV0s,RVs]using h
 |a::as,vs,h=>by
  simp only[RV0s,RVs]at h⊢;obtain⟨v,vs',rfl,h1,h2⟩:=h
  exact⟨v,vs',rfl,RV0.rv a v h1,RV0s.rv as vs' h2⟩
end
structure Later(keep:Nat->Bool)(C C':Ctx):Prop where
 pers:Pers C.imm C'.imm C.w C'.w
 rho:∀i,keep i=true->C'.rho i=C.rho i
 l:C'.l.l=C.l.l
mutual
def AV.refsIn(keep:Nat->Bool):AV->Bool
 |.own i _=>keep i
 |.elt i _ _ _=>keep i
 |.row i=>keep i
 |.cut i _ _ _=>keep i
 |.agg cs=>AV.refsInL keep cs
 |.tup cs=>AV.refsInL keep cs
 |.fn _ cs=>AV.refsInL keep cs
 |_=>true
def AV.refsInL(keep:Nat->Bool):List AV->Bool
 | []=>true
 |a::as=>AV.refsIn keep a&&AV.refsInL keep as
end
mutual
theorem RV.later{keep:Nat->Bool}{C C':Ctx}(hl:Later keep C C'):∀(a:AV) (v:Value),a.refsIn keep=true->RV C a v->RV C' a v
 |.bool _,_,_,h=>by simpa[RV]using h
 |.int _ _,_,_,h=>by simpa[RV]using h
 |.str _,_,_,h=>by simpa[RV]using h
 |.lit _,_,_,h=>by simpa[RV]using h
 |.agg cs,v,hr,h=>by
  simp only[RV,AV.refsIn]at h hr⊢;obtain⟨vs,rfl,h⟩:=h;exact⟨vs,rfl,RVs.later hl cs vs hr h⟩
 |.tup cs,v,hr,h=>by
  simp only[RV,AV.refsIn]at h hr⊢;obtain⟨vs,rfl,h⟩:=h;exact⟨vs,rfl,RVs.later hl cs vs hr h⟩
 |.fn f cs,v,hr,h=>by
  simp only[RV,AV.refsIn]at h hr⊢;obtain⟨vs,rfl,h⟩:=h;exact⟨vs,rfl,RVs.later hl cs vs hr h⟩
 |.isl es,v,_,h=>by simp only[RV]at h⊢;exact RV0.mono hl.pers _ _ h
 |.nils,_,_,h=>by simpa[RV]using h
 |.ipt cs,v,_,h=>by simp only[RV]at h⊢;exact RV0.mono hl.pers _ _ h
 |.imp _ _,v,_,h=>by simp only[RV]at h⊢;exact RV0.mono hl.pers _ _ h
 |.tsl _ _,v,_,h=>by simp only[RV]at h⊢;exact RV0.mono hl.pers _ _ h
 |.mth _ _,v,_,h=>by simp only[RV]at h⊢;exact RV0.mono hl.pers _ _ h
 |.any,v,_,h=>by simpa only[RV]using h
 |.own i _,_,hr,h=>by
  simp only[RV,AV.refsIn]at h hr⊢;obtain⟨o,ho,rfl⟩:=h;exact⟨o,(hl.rho i hr).trans ho,rfl⟩
 |.elt i _ _ _,_,hr,h=>by
  simp only[RV,AV.refsIn]at h hr⊢;obtain⟨o,ho,rfl⟩:=h;exact⟨o,(hl.rho i hr).trans ho,rfl⟩
 |.row i,_,hr,h=>by
  simp only[RV,AV.refsIn]at h hr⊢;obtain⟨o,ho,rfl⟩:=h;exact⟨o,(hl.rho i hr).trans ho,rfl⟩
 |.cut i _ _ _,_,hr,h=>by
  simp only[RV,AV.refsIn]at h hr⊢;obtain⟨o,ho,h⟩:=h;exact⟨o,(hl.rho i hr).trans ho,h⟩
 |.yld,_,_,h=>by simp only[RV]at h⊢;rw[h,hl.l]
 |.gone,_,_,_=>by simp[RV]
theorem RVs.later{keep:Nat->Bool}{C C':Ctx}(hl:Later keep C C'):∀(as:List AV) (vs:List Value),AV.refsInL keep as=true->RVs C as vs->RVs C' as vs
 | [],vs,_,h=>by simpa[RVs]using h
 |a::as,vs,hr,h=>by
  simp only[RVs,AV.refsInL,Bool.and_eq_true]at h hr⊢;obtain⟨v,vs',rfl,h1,h2⟩:=h
  exact⟨v,vs',rfl,RV.later hl a v hr.1 h1,RVs.later hl as vs' hr.2 h2⟩
end
mutual
theorem AV.refsIn_all{keep:Nat->Bool}(h:∀i,keep i=true):∀a:AV,a.refsIn keep=true
 |.bool _=>rfl
 |.int _ _=>rfl
 |.str _=>rfl
 |.lit _=>rfl
 |.agg cs=>by simp only[AV.refsIn];exact AV.refsInL_all h cs
 |.tup cs=>by simp only[AV.refsIn];exact AV.refsInL_all h cs
 |.fn _ cs=>by simp only[AV.refsIn];exact AV.refsInL_all h cs
 |.isl _=>rfl
 |.nils=>rfl
 |.ipt _=>rfl
 |.imp _ _=>rfl
 |.tsl _ _=>rfl
 |.mth _ _=>rfl
 |.any=>rfl
 |.own i _=>h i
 |.elt i _ _ _=>h i
 |.row i=>h i
 |.cut i _ _ _=>h i
 |.yld=>rfl
 |.gone=>rfl
theorem AV.refsInL_all{keep:Nat->Bool}(h:∀i,keep i=true):∀as:List AV,AV.refsInL keep as=true
 | []=>rfl
 |a::as=>by simp only[AV.refsInL,Bool.and_eq_true];exact⟨AV.refsIn_all h a,AV.refsInL_all h as⟩
end
mutual
theorem RV.unbound{C:Ctx}{m:Nat}(hm:C.rho m=none):∀(a:AV) (v:Value),RV C a v->a.refsIn (fun i=>i != m)=true
 |.bool _,_,_=>rfl
 |.int _ _,_,_=>rfl
 |.str _,_,_=>rfl
 |.lit _,_,_=>rfl
 |.agg cs,v,h=>by simp only[RV,AV.refsIn]at h⊢;obtain⟨vs,rfl,h⟩:=h;exact RVs.unbound hm cs vs h
 |.tup cs,v,h=>by simp only[RV,AV.refsIn]at h⊢;obtain⟨vs,rfl,h⟩:=h;exact RVs.unbound hm cs vs h
 |.fn _ cs,v,h=>by simp only[RV,AV.refsIn]at h⊢;obtain⟨vs,rfl,h⟩:=h;exact RVs.unbound hm cs vs h
 |.isl _,_,_=>rfl
 |.nils,_,_=>rfl
 |.ipt _,_,_=>rfl
 |.imp _ _,_,_=>rfl
 |.tsl _ _,_,_=>rfl
 |.mth _ _,_,_=>rfl
 |.any,_,_=>rfl
 |.own i _,_,h=>by
  simp only[RV,AV.refsIn]at h⊢;obtain⟨o,ho,_⟩:=h
  simp only[bne_iff_ne,ne_eq];rintro rfl;rw[hm]at ho;cases ho
 |.elt i _ _ _,_,h=>by
  simp only[RV,AV.refsIn]at h⊢;obtain⟨o,ho,_⟩:=h
  simp only[bne_iff_ne,ne_eq];rintro rfl;rw[hm]at ho;cases ho
 |.row i,_,h=>by
  simp only[RV,AV.refsIn]at h⊢;obtain⟨o,ho,_⟩:=h
  simp only[bne_iff_ne,ne_eq];rintro rfl;rw[hm]at ho;cases ho
 |.cut i _ _ _,_,h=>by
  simp only[RV,AV.refsIn]at h⊢;obtain⟨o,ho,_⟩:=h
  simp only[bne_iff_ne,ne_eq];rintro rfl;rw[hm]at ho;cases ho
 |.yld,_,_=>rfl
 |.gone,_,_=>rfl
theorem RVs.unbound{C:Ctx}{m:Nat}(hm:C.rho m=none):∀(as:List AV) (vs:List Value),RVs C as vs->AV.refsInL (fun i=>i != m) as=true
 | [],_,_=>rfl
 |a::as,vs,h=>by
  simp only[RVs,AV.refsInL,Bool.and_eq_true]at h⊢;obtain⟨v,vs',rfl,h1,h2⟩:=h
  exact⟨RV.unbound hm a v h1,RVs.unbound hm as vs' h2⟩
end
inductive Res where
 |fresh
 |dead
 |box (ice:Bool) (cells:List AV)
 |row (ice:Bool) (el:TypeId) (sz:Nat) (es:List (List AV))
 |mp (ice:Bool) (ks vs:List AV)
 |mpo (ks vs:List AV)
 |itr (ks vs:List AV) (seen:List Nat) (last:List AV)
 |sit (f:List UInt8) (pos:Nat)
 |mpb (ks vs:List AV) (bn:List Nat) (n:Nat)
 |itd (c:List AV) (n:Nat) (mem:List Nat)
structure Gh where
 p:List Nat
 k:Nat
 st:Bool
structure St where
 tm:List (Nat × AV)
 sg:List Res
 gh:Gh
def look:List (Nat × AV)->Nat->Option AV
 | [],_=>none
 |(i,v)::r,d=>if i=d then some v else look r d
def isBook:Obj->Bool
 |.loop _=>true
 |.deferred _=>true
 |_=>false
def memN:List Nat->Nat->Bool
 | [],_=>false
 |j::l,i=>match decide (i=j)with
  |true=>true
  |false=>memN l i
theorem memN_iff:∀ {l:List Nat} {i:Nat},memN l i=true<->i∈l
 | [],i=>by simp[memN]
 |j::l,i=>by
  simp only[memN,List.mem_cons]
  by_cases h:i=j
  ·simp[h]
  ·simp[h,memN_iff (l:=l)]
def subN:List Nat->List Nat->Bool
 | [],_=>true
 |i::l,m=>match memN m i with
  |true=>subN l m
  |false=>false
theorem subN_ok:∀ {l m:List Nat},subN l m=true->∀i∈l,i∈m
 | [],m,_,i,hi=>by cases hi
 |j::l,m,h,i,hi=>by
  simp only[subN]at h
  split at h
  ·rename_i h1
   rcases List.mem_cons.1 hi with rfl|hi
   ·exact memN_iff.1 h1
   ·exact subN_ok h i hi
  ·cases h
structure Sess where
 P:Program
 F:Fence
 n:Nat
 N:Nat
 imm0:Nat->Prop
 lo:Nat
 pin:Nat->Option Own
 l:Nat
 Keep:(Nat->Prop)->Wt->Nat->Bool->World->Prop
def newB(w w':World)(T:Nat->Prop)(b:Nat):Prop:=T b\/(w.heap.size<=b/\b<w'.heap.size)
structure OneB(b:Nat)(w w':World):Prop where
 os:w'.os=w.os
 tape:w'.tape=w.tape
 output:w'.output=w.output
 size:w'.heap.size=w.heap.size
 other:∀k,k≠b->w'.heap[k]?=w.heap[k]?
 cells:Mem w b
 mem:Mem w' b
def IterAt(imm:Nat->Prop)(w:World)(ks us:List AV)(m n:Nat)(mem:List Nat)(seen:List Nat):Prop:=
 imm m/\∃es,w.heap[m]?=some (.map es n)/\Born es n/\RV0s imm w ks (es.toList.map (·.key))/\RV0s imm w us (es.toList.map (·.val))/\mem=seen.map (fun j=>((es[j]?).map (·.born)).getD 0)/\∀j∈seen,j<es.size
theorem IterAt.mono{imm imm':Nat->Prop}{w w':World}{ks us:List AV}{m n:Nat}{mem seen:List Nat}(hp:Pers imm imm' w w')(h:IterAt imm w ks us m n mem seen):IterAt imm' w' ks us m n mem seen:=by
 obtain⟨h1,es,h2,h3,h4,h5,h6⟩:=h
 exact⟨(hp m h1).1,es,(hp m h1).2.trans h2,h3,RV0s.mono hp _ _ h4,RV0s.mono hp _ _ h5,h6⟩
def ResOk(C:Ctx):Res->Option Own->Prop
 |.fresh,o=>o=none
 |.dead,o=>∀x,o=some x->x.val.oneCell'=true
 |.box ice cells,o=>∃b vs el,o=some ⟨b, .pointer (some ⟨b,0,none⟩)⟩/\C.T b/\C.w.heap[b]?=some (.cells vs.toArray el (0,0))/\RVs C cells vs /\
   (ice=true->C.imm b/\RV0s C.imm C.w cells vs)/\(ice=false->¬C.imm b)
 |.row ice el sz es,o=>∃b v xs,o=some ⟨b,v⟩/\C.w.ownsRow 0 el sz v es.length xs/\RV0s C.imm C.w es.flatten xs/\(∀e∈es,e.length=sz) /\
   (∀b',v.ownBlock=some b'->b'=b/\C.T b/\(ice=true->C.imm b)/\(ice=false->¬C.imm b))
 |.mp ice ks us,o=>∃b es n,o=some ⟨b, .map (some b)⟩/\C.T b/\C.w.heap[b]?=some (.map es n)/\Born es n/\RV0s C.imm C.w ks (es.toList.map (·.key))/\RV0s C.imm C.w us (es.toList.map (·.val)) /\
   (ice=true->C.imm b)/\(ice=false->¬C.imm b)
 |.mpo ks us,o=>∃b es n,o=some ⟨b, .map (some b)⟩/\C.T b/\C.w.heap[b]?=some (.map es n)/\Born es n/\RV0s C.imm C.w ks (es.toList.map (·.key))/\RVs C us (es.toList.map (·.val))/\¬C.imm b
 |.itr ks us seen last,o=>∃b m n mem,o=some ⟨b, .pointer (some ⟨b,0,none⟩)⟩/\C.T b/\¬C.imm b/\C.w.heap[b]?=some (.mapIter (some m) n mem.toArray n)/\IterAt C.imm C.w ks us m n mem seen /\
   ∀kv uv,last=[kv,uv]->∃j,seen.getLast?=some j/\ks[j]?=some kv/\us[j]?=some uv
 |.sit f pos,o=>∃b,o=some ⟨b, .pointer (some ⟨b,0,none⟩)⟩/\C.T b/\¬C.imm b/\C.w.heap[b]?=some (.stringIter ⟨f.toArray⟩ pos)
 |.mpb ks us bn n,o=>∃b es,o=some ⟨b, .map (some b)⟩/\C.T b/\C.w.heap[b]?=some (.map es n)/\Born es n/\es.toList.map (·.born)=bn/\RV0s C.imm C.w ks (es.toList.map (·.key))/\RV0s C.imm C.w us (es.toList.map (·.val))/\¬C.imm b
 |.itd c n mem,o=>∃b m,o=some ⟨b, .pointer (some ⟨b,0,none⟩)⟩/\C.T b/\¬C.imm b/\C.w.heap[b]?=some (.mapIter (some m) n mem.toArray n)/\RVs C c [.map (some m)]
def Res.blk:Res->Option Own->Option Nat
 |.box _ _,o=>o.map (·.blk)
 |.row _ _ _ _,o=>o.bind (·.val.ownBlock)
 |.mp _ _ _,o=>o.map (·.blk)
 |.mpo _ _,o=>o.map (·.blk)
 |.itr _ _ _ _,o=>o.map (·.blk)
 |.sit _ _,o=>o.map (·.blk)
 |.mpb _ _ _ _,o=>o.map (·.blk)
 |.itd _ _ _,o=>o.map (·.blk)
 |_,_=>none
structure Rel(X:Sess)(C:Ctx)(s:St)(a:Act):Prop where
 size:a.tmps.size=X.N
 tm:∀d v,look s.tm d=some v->RV C v (a.tmps.getD d undef)
 sg:∀i,ResOk C (s.sg.getD i .fresh) (C.rho i)
 dis:∀i j b,(s.sg.getD i .fresh).blk (C.rho i)=some b->(s.sg.getD j .fresh).blk (C.rho j)=some b->i=j
 imm:∀b,C.imm b->(X.imm0 b\/C.T b)/\Mem C.w b
 imm0:∀b,X.imm0 b->C.imm b
 T:∀b,C.T b->b<C.w.heap.size
 keep:X.Keep C.T C.l.S s.gh.k s.gh.st C.w
 marks:∃ds:List Nat,a.defers=ds.map (fun D=>{ target:=.collected D,args := #[] })/\ds.Nodup/\∀D∈ds,C.T D/\C.w.heap[D]?=some (.deferred (some []))
 round:∀l,X.F.round=some l->C.T l/\∃r,C.w.heap[l]?=some (.loop r)
 pin:(∀i o,i∈s.gh.p->X.pin i=some o->C.rho i=some o)/\C.l.l=X.l/\∀b,C.l.S.h b->C.imm b
def St.put(s:St)(d:Option Nat)(v:AV):St:=
 match d with
 |some d=>{ s with tm:=(d,v)::s.tm }
 |none=>s
theorem Rel.put{X:Sess}{C:Ctx}{s:St}{a:Act}(h:Rel X C s a){v:AV}{x:Value}(hv:RV C v x)(d:Option Nat)(hd:∀i,d=some i->i<X.N):Rel X C (s.put d v) (a.put d x):=by
 cases d with
 |none=>exact h
 |some d=>
  have hlt:=hd d rfl
  refine⟨by simp[Act.put,h.size],?_,h.sg,h.dis,h.imm,h.imm0,h.T,h.keep,h.marks,h.round,h.pin⟩
  intro i u hu
  simp only[St.put,look]at hu
  split at hu
  ·rename_i e;subst e;cases hu
   have:(a.put (some d) x).tmps.getD d undef=x:=by
    simp only[Act.put,Array.getD_eq_getD_getElem?,Array.getElem?_setIfInBounds,h.size,hlt,if_true,Option.getD_some]
   rw[this];exact hv
  ·rename_i e
   have:(a.put (some d) x).tmps.getD i undef=a.tmps.getD i undef:=by
    simp only[Act.put,Array.getD_eq_getD_getElem?,Array.getElem?_setIfInBounds,if_neg e]
   rw[this];exact h.tm i u hu
theorem Rel.unbound{X:Sess}{C:Ctx}{s:St}{a:Act}(h:Rel X C s a){i:Nat}(hi:s.sg.getD i .fresh = .fresh):C.rho i=none:=by
 have:=h.sg i;rw[hi]at this;exact this
theorem getD_set{α : Type}(l:List α)(i j:Nat)(x d : α)(hi:i<l.length):(l.set i x).getD j d=if j=i then x else l.getD j d:=by
 simp only[List.getD_eq_getElem?_getD,List.getElem?_set]
 by_cases h:i=j
 ·subst h;simp[hi]
 ·simp[h,Ne.symm h]
def Res.cellsOf:Res->List AV
 |.box _ cs=>cs
 |.mpo _ us=>us
 |.itd c _ _=>c
 |_=>[]
theorem Res.blk_lt{C:Ctx}{r:Res}{o:Option Own}(h:ResOk C r o){b:Nat}(hb:r.blk o=some b):C.T b/\b<C.w.heap.size/\Mem C.w b:=by
 cases r with
 |fresh=>cases hb
 |dead=>cases hb
 |box ice cells=>
  obtain⟨b',vs,el,rfl,hB,hh,_⟩:=h
  simp[Res.blk]at hb;subst hb
  exact⟨hB,(Array.getElem?_eq_some_iff.1 hh).1, .of_cells hh⟩
 |row ice el sz es=>
  obtain⟨b',v,xs,rfl,ho,_,_,h5⟩:=h
  simp[Res.blk]at hb
  obtain⟨_,h2⟩:=ho.lt b hb
  obtain⟨rfl,h1,_⟩:=h5 b hb
  refine⟨h1,h2,?_⟩
  rcases ho.2 with⟨rfl,_⟩|⟨g,cap,cur,rfl,_,hg,_⟩
  ·cases hb
  ·simp[Value.ownBlock]at hb;subst hb;exact .of_cells hg
 |mp ice ks us=>
  obtain⟨b',es,nB,rfl,hB,hh,_⟩:=h
  simp[Res.blk]at hb;subst hb
  exact⟨hB,(Array.getElem?_eq_some_iff.1 hh).1,_,hh,rfl⟩
 |mpo ks us=>
  obtain⟨b',es,nB,rfl,hB,hh,_⟩:=h
  simp[Res.blk]at hb;subst hb
  exact⟨hB,(Array.getElem?_eq_some_iff.1 hh).1,_,hh,rfl⟩
 |itr ks us seen last=>
  obtain⟨b',m,nI,mI,rfl,hB,_,hh,_⟩:=h
  simp[Res.blk]at hb;subst hb
  exact⟨hB,(Array.getElem?_eq_some_iff.1 hh).1,_,hh,rfl⟩
 |sit f pos=>
  obtain⟨b',rfl,hB,_,hh⟩:=h
  simp[Res.blk]at hb;subst hb
  exact⟨hB,(Array.getElem?_eq_some_iff.1 hh).1,_,hh,rfl⟩
 |mpb ks us bn n=>
  obtain⟨b',es,rfl,hB,hh,_⟩:=h
  simp[Res.blk]at hb;subst hb
  exact⟨hB,(Array.getElem?_eq_some_iff.1 hh).1,_,hh,rfl⟩
 |itd c n mem=>
  obtain⟨b',m,rfl,hB,_,hh,_⟩:=h
  simp[Res.blk]at hb;subst hb
  exact⟨hB,(Array.getElem?_eq_some_iff.1 hh).1,_,hh,rfl⟩
theorem ResOk.later{keep:Nat->Bool}{C C':Ctx}(hl:Later keep C C')(hT:∀b,C.T b->C'.T b){r:Res}{o:Option Own}(h:ResOk C r o)
  (hr:AV.refsInL keep r.cellsOf=true) (hb:∀b,r.blk o=some b->C'.w.heap[b]?=C.w.heap[b]?/\(C'.imm b->C.imm b)):ResOk C' r o:=by
 cases r with
 |fresh=>exact h
 |dead=>exact h
 |box ice cells=>
  obtain⟨b,vs,el,rfl,hB,hh,hv,h1,h2⟩:=h
  obtain⟨e1,e2⟩:=hb b (by simp[Res.blk])
  exact⟨b,vs,el,rfl,hT b hB,e1.trans hh,RVs.later hl _ _ hr hv,fun e=>⟨(hl.pers b (h1 e).1).1,RV0s.mono hl.pers _ _ (h1 e).2⟩,fun e hi=>h2 e (e2 hi)⟩
 |row ice el sz es=>
  obtain⟨b,v,xs,rfl,ho,hv,h2,h3⟩:=h
  refine⟨b,v,xs,rfl,⟨ho.1,?_⟩,RV0s.mono hl.pers _ _ hv,h2,fun b' e=>?_⟩
  ·rcases ho.2 with hn|⟨g,cap,cur,rfl,hb',hg,rest⟩
   ·exact .inl hn
   ·exact .inr ⟨g,cap,cur,rfl,hb',(hb g (by simp[Res.blk,Value.ownBlock])).1.trans hg,rest⟩
  ·obtain⟨e1,hTb,h4,h5⟩:=h3 b' e
   subst e1
   exact⟨rfl,hT _ hTb,fun e'=>(hl.pers _ (h4 e')).1,fun e' hi=>h5 e' ((hb b' (by simpa[Res.blk]using e)).2 hi)⟩
 |mp ice ks us=>
  obtain⟨b,es,nB,rfl,hB,hh,hbn,hk,hv,h1,h2⟩:=h
  obtain⟨e1,e2⟩:=hb b (by simp[Res.blk])
  exact⟨b,es,nB,rfl,hT b hB,e1.trans hh,hbn,RV0s.mono hl.pers _ _ hk,RV0s.mono hl.pers _ _ hv,fun e=>(hl.pers b (h1 e)).1,fun e hi=>h2 e (e2 hi)⟩
 |mpo ks us=>
  obtain⟨b,es,nB,rfl,hB,hh,hbn,hk,hv,h2⟩:=h
  obtain⟨e1,e2⟩:=hb b (by simp[Res.blk])
  exact⟨b,es,nB,rfl,hT b hB,e1.trans hh,hbn,RV0s.mono hl.pers _ _ hk,RVs.later hl _ _ hr hv,fun hi=>h2 (e2 hi)⟩
 |itr ks us seen last=>
  obtain⟨b,m,nI,mI,rfl,hB,hi,hh,hm,hl'⟩:=h
  obtain⟨e1,e2⟩:=hb b (by simp[Res.blk])
  exact⟨b,m,nI,mI,rfl,hT b hB,fun h=>hi (e2 h),e1.trans hh,hm.mono hl.pers,hl'⟩
 |sit f pos=>
  obtain⟨b,rfl,hB,hi,hh⟩:=h
  obtain⟨e1,e2⟩:=hb b (by simp[Res.blk])
  exact⟨b,rfl,hT b hB,fun h=>hi (e2 h),e1.trans hh⟩
 |mpb ks us bn n=>
  obtain⟨b,es,rfl,hB,hh,hbn,hbs,hk,hv,h2⟩:=h
  obtain⟨e1,e2⟩:=hb b (by simp[Res.blk])
  exact⟨b,es,rfl,hT b hB,e1.trans hh,hbn,hbs,RV0s.mono hl.pers _ _ hk,RV0s.mono hl.pers _ _ hv,fun hi=>h2 (e2 hi)⟩
 |itd c n mem=>
  obtain⟨b,m,rfl,hB,hi,hh,hm⟩:=h
  obtain⟨e1,e2⟩:=hb b (by simp[Res.blk])
  exact⟨b,m,rfl,hT b hB,fun h=>hi (e2 h),e1.trans hh,RVs.later hl _ _ hr hm⟩
def upd(r:Nat->Option Own)(i:Nat)(o:Option Own):Nat->Option Own:=fun j=>if j=i then o else r j
theorem Rel.update{X:Sess}{C:Ctx}{s:St}{a:Act}(h:Rel X C s a)(i:Nat)(hi:i<s.sg.length)(r':Res)(o':Option Own)(w':World)(T':Nat->Prop)(tm':List (Nat × AV))(keep:Nat->Bool)
  (hT:∀b,C.T b->T' b) (hT':∀b,T' b->b<w'.heap.size) (hK:X.Keep T' C.l.S s.gh.k s.gh.st w') (hpin:∀o,C.rho i=some o->o'=some o)
  (hbook:∀(k:Nat) (o:Obj),C.w.heap[k]?=some o->isBook o=true->w'.heap[k]?=some o)
  (hkeep:∀j,keep j=true->j=i->o'=C.rho i)
  (hsame:∀k,k<C.w.heap.size->(C.imm k\/∃j,j≠i/\(s.sg.getD j .fresh).blk (C.rho j)=some k)->w'.heap[k]?=C.w.heap[k]?)
  (hok:ResOk ⟨C.imm,T',upd C.rho i o',w',C.l⟩ r' o')
  (hblk:∀k,r'.blk o'=some k->∀j,j≠i->(s.sg.getD j .fresh).blk (C.rho j)≠some k)
  (htm:∀d v,look tm' d=some v->look s.tm d=some v/\v.refsIn keep=true)
  (hsg:∀j,j≠i->AV.refsInL keep (s.sg.getD j .fresh).cellsOf=true) :
  Rel X ⟨C.imm,T',upd C.rho i o',w',C.l⟩ { s with tm:=tm',sg:=s.sg.set i r' } a:=by
 have himm:∀b,C.imm b->w'.heap[b]?=C.w.heap[b]?:=fun b hb=>by
  have hh:=(h.imm b hb).2
  exact hsame b hh.lt (.inl hb)
 have hl:Later keep C ⟨C.imm,T',upd C.rho i o',w',C.l⟩:=by
  refine⟨fun b hb=>⟨hb,himm b hb⟩,fun j hj=>?_,rfl⟩
  show upd C.rho i o' j=C.rho j
  unfold upd
  split
  ·rename_i e;subst e;exact hkeep j hj rfl
  ·rfl
 have hother:∀j,j≠i->∀b,(s.sg.getD j .fresh).blk (C.rho j)=some b->w'.heap[b]?=C.w.heap[b]?:=fun j hj b hb=>by
  exact hsame b (Res.blk_lt (h.sg j) hb).2.1 (.inr ⟨j,hj,hb⟩)
 refine⟨h.size,fun d v hd=>?_,fun j=>?_,fun j k b hj hk=>?_,fun b hb=>?_,h.imm0,hT',hK,?_,fun l hl'=>?_,⟨fun j o hj ho=>?_,h.pin.2⟩⟩
 ·obtain⟨h1,h2⟩:=htm d v hd
  exact RV.later hl v _ h2 (h.tm d v h1)
 ·simp only[getD_set _ _ _ _ _ hi]
  by_cases e:j=i
  ·subst e;simpa[upd]using hok
  ·simp only[if_neg e]
   have:upd C.rho i o' j=C.rho j:=by simp[upd,e]
   show ResOk _ _ (upd C.rho i o' j)
   rw[this]
   exact ResOk.later hl hT (h.sg j) (hsg j e) (fun b hb=>⟨hother j e b hb,fun x=>x⟩)
 ·simp only[getD_set _ _ _ _ _ hi]at hj hk
  have cross:∀j b,j≠i->(s.sg.getD j .fresh).blk (C.rho j)=some b->r'.blk o'=some b->False:=fun j b hj h1 h2=>hblk b h2 j hj h1
  by_cases ej:j=i<;>by_cases ek:k=i
  ·rw[ej,ek]
  ·subst ej
   simp only[if_true,if_neg ek]at hj hk
   have e1:upd C.rho j o' j=o':=by simp[upd]
   have e2:upd C.rho j o' k=C.rho k:=by simp[upd,ek]
   exact(cross k b ek (by rw[<- e2];exact hk) (by rw[<- e1];exact hj)).elim
  ·subst ek
   simp only[if_true,if_neg ej]at hj hk
   have e1:upd C.rho k o' k=o':=by simp[upd]
   have e2:upd C.rho k o' j=C.rho j:=by simp[upd,ej]
   exact(cross j b ej (by rw[<- e2];exact hj) (by rw[<- e1];exact hk)).elim
  ·simp only[if_neg ej,if_neg ek]at hj hk
   have e1:upd C.rho i o' j=C.rho j:=by simp[upd,ej]
   have e2:upd C.rho i o' k=C.rho k:=by simp[upd,ek]
   exact h.dis j k b (by rw[<- e1];exact hj) (by rw[<- e2];exact hk)
 ·obtain⟨h1,hh⟩:=h.imm b hb
  exact⟨h1.imp id (hT b),hh.same (himm b hb)⟩
 ·obtain⟨ds,h1,h2,h3⟩:=h.marks
  exact⟨ds,h1,h2,fun D hD=>⟨hT D (h3 D hD).1,hbook D _ (h3 D hD).2 rfl⟩⟩
 ·obtain⟨hT1,r,hr⟩:=h.round l hl'
  exact⟨hT l hT1,r,hbook l _ hr rfl⟩
 ·have h1:=h.pin.1 j o hj ho
  show upd C.rho i o' j=some o
  unfold upd
  split
  ·rename_i e;subst e;exact hpin o h1
  ·exact h1
theorem below_book{w w':World}(hb:Below w.heap.size w w')(k:Nat)(o:Obj)(h:w.heap[k]?=some o):w'.heap[k]?=some o:=(hb.block k (Array.getElem?_eq_some_iff.1 h).1).trans h
theorem Rel.call{X:Sess}{C:Ctx}{s:St}{a:Act}(h:Rel X C s a)(w':World)(imm':Nat->Prop)(hb:Below C.w.heap.size C.w w')(hK:X.Keep (newB C.w w' C.T) C.l.S s.gh.k s.gh.st w')
  (h1:∀b,C.imm b->imm' b) (h2:∀b,imm' b->C.imm b\/(C.w.heap.size<=b/\Mem w' b)) :
  Rel X ⟨imm',newB C.w w' C.T,C.rho,w',C.l⟩ s a/\Later (fun _=>true) C ⟨imm',newB C.w w' C.T,C.rho,w',C.l⟩:=by
 have himm:∀b,C.imm b->w'.heap[b]?=C.w.heap[b]?:=fun b hb'=>by
  have hh:=(h.imm b hb').2
  exact hb.block b hh.lt
 have hl:Later (fun _=>true) C ⟨imm',newB C.w w' C.T,C.rho,w',C.l⟩:=⟨fun b hb'=>⟨h1 b hb',himm b hb'⟩,fun _ _=>rfl,rfl⟩
 refine⟨⟨h.size,fun d v hd=>RV.later hl v _ (AV.refsIn_all (fun _=>rfl) v) (h.tm d v hd),fun j=>?_,h.dis,fun b hb'=>?_,fun b hb'=>h1 b (h.imm0 b hb'),fun b hb'=>?_,hK,?_,fun l hl'=>?_,⟨h.pin.1,h.pin.2.1,fun b hb=>h1 b (h.pin.2.2 b hb)⟩⟩,hl⟩
 ·refine ResOk.later hl (fun b hb'=>.inl hb') (h.sg j) (AV.refsInL_all (fun _=>rfl) _) (fun b hb'=>?_)
  have hlt:=(Res.blk_lt (h.sg j) hb').2.1
  refine⟨hb.block b hlt,fun hi=>(h2 b hi).resolve_right fun hh=>by omega⟩
 ·rcases h2 b hb' with h3|⟨h3,h4⟩
  ·obtain⟨h5,hh⟩:=h.imm b h3
   exact⟨h5.imp id .inl,hh.same (himm b h3)⟩
  ·exact⟨.inr (.inr ⟨h3,h4.lt⟩),h4⟩
 ·rcases hb' with hb'|hb'
  ·exact Nat.lt_of_lt_of_le (h.T b hb') hb.size
  ·exact hb'.2
 ·obtain⟨ds,h1,h2,h3⟩:=h.marks
  exact⟨ds,h1,h2,fun D hD=>⟨.inl (h3 D hD).1,below_book hb D _ (h3 D hD).2⟩⟩
 ·obtain⟨hT1,r,hr⟩:=h.round l hl'
  exact⟨.inl hT1,r,below_book hb l _ hr⟩
inductive Opd where
 |t (i:Nat)
 |c (v:AV)
inductive EqT where
 |leaf (i:Bool)
 |node (fs:List (Nat × Nat × EqT))
inductive KTy where
 |int
 |bool
 |str
 |st (T:EqT)
 |del (kt:KTy)
inductive PuOp where
 |cat
 |cmp (op:BinOp)
 |sls (lo hi:Bool)
inductive Ixo where
 |mv (x:Opd)
 |pick (c a b:Opd)
 |alloc (nm:Nat) (zs:List AV)
 |mks (nm:Nat) (el:TypeId) (sz bytes:Nat) (zs:List AV) (x y:Opd)
 |box (nm:Nat) (ag:Bool) (x:Opd)
 |build (zs:List AV) (ps:List (Nat × Nat × Opd))
 |load (ag:Bool) (n:Nat) (a:Opd)
 |store (ag:Bool) (n:Nat) (a x:Opd) (ne:List Opd)
 |bin (op:BinOp) (x y:Opd)
 |eqb (neg:Bool) (x y:Opd)
 |eqs (neg:Bool) (T:EqT) (x y:Opd)
 |un (op:UnOp) (x:Opd)
 |conv (k:IntKind) (x:Opd)
 |faddr (off:Nat) (x:Opd)
 |field (ag:Bool) (n off:Nat) (x:Opd)
 |iaddr (sz:Nat) (x i:Opd)
 |mkfn (f:FuncId) (caps:List Opd)
 |mkmt (f:FuncId) (first:List Opd)
 |extract (i:Nat) (x:Opd)
 |call (f:FuncId) (xs:List Opd)
 |callv (g:Opd) (xs:List Opd)
 |len (x:Opd)
 |slen (x:Opd)
 |mm (mx:Bool) (xs:List Opd)
 |sli (sz:Nat) (x:Opd) (lo hi:Option Opd)
 |sl3 (sz:Nat) (x hi mx:Opd)
 |eqn (neg:Bool) (x:Opd)
 |bsl (nm:Nat) (el:TypeId) (sz:Nat) (ps ne:List Opd)
 |apd (nm:Nat) (el:TypeId) (sz bytes:Nat) (x y:Opd) (ne:List Opd)
 |callz (nm ct:Nat) (f:FuncId) (xs ne:List Opd)
 |nilck (x:Opd)
 |mkm (nm:Nat)
 |mko (nm:Nat)
 |mpu (kt:KTy) (m x v:Opd) (ne:List Opd)
 |mrg (nm:Nat) (m:Opd) (ne:List Opd)
 |mnx (x:Opd)
 |mrx (nm:Nat) (m:Opd)
 |mkx (nm:Nat)
 |mez (x:Opd)
 |mpe (kt:KTy) (z:AV) (m x:Opd) (ne:List Opd)
 |mes (m s v:Opd) (ne:List Opd)
 |mnz (x:Opd)
 |srg (nm:Nat) (x:Opd)
 |snx (x:Opd)
 |men (x:Opd)
 |lkp (kt:KTy) (ok:Bool) (z:AV) (m x:Opd)
 |mlen (x:Opd)
 |stz (ag:Bool) (n:Nat) (a x:Opd) (ne:List Opd)
 |callw (nm ct:Nat) (f:FuncId) (xs:List Opd)
 |callx (g:Opd) (xs:List Opd)
 |aidx (ag:Bool) (n len:Nat) (x i:Opd)
 |paddr (sz len:Nat) (x i:Opd)
 |sidx (x i:Opd)
 |pur (p:PuOp) (xs:List Opd)
 |b2s (x:Opd)
def Ixo.withNe:Ixo->List Opd->Ixo
 |.store ag n a x _,ne=>.store ag n a x ne
 |.bsl nm el sz ps _,ne=>.bsl nm el sz ps ne
 |.apd nm el sz b x y _,ne=>.apd nm el sz b x y ne
 |.callz nm ct f xs _,ne=>.callz nm ct f xs ne
 |.mpu kt m x v _,ne=>.mpu kt m x v ne
 |.mrg nm m _,ne=>.mrg nm m ne
 |.mpe kt z m x _,ne=>.mpe kt z m x ne
 |.mes m s v _,ne=>.mes m s v ne
 |.stz ag n a x _,ne=>.stz ag n a x ne
 |z,_=>z
def Ixo.toX:Ixo->Ixo
 |.callv g xs=>.callx g xs
 |.callz nm ct f xs _=>.callw nm ct f xs
 |.mrg nm m _=>.mrx nm m
 |.mnx x=>.mnz x
 |.mkm nm=>.mkx nm
 |.men x=>.mez x
 |z=>z
structure IOp where
 g:Option (Nat × Bool)
 d:Option Nat
 o:Ixo
def cv1:Value->AV
 |.bool b=>.bool b
 |.int k n=>.int k n
 |.string s=>.str s.data.toList
 |.slice none 0 0=>.nils
 |v=>.lit v
def cv:Value->AV
 |.agg cs=>if cs.toList.all Value.oneCell' then .agg (cs.toList.map cv1) else .lit (.agg cs)
 |.tuple vs=>if vs.size=0 then .tup [] else .lit (.tuple vs)
 |v=>cv1 v
def opd:Operand->Option Opd
 |.tmp t=>some (.t t)
 |.const v=>some (.c (cv v))
 |.func f=>some (.c (.fn f []))
 |.global _=>none
def opds:List Operand->Option (List Opd)
 | []=>some []
 |x::xs=>match opd x,opds xs with
  |some p,some ps=>some (p::ps)
  |_,_=>none
def szOf(P:Program)(t:TypeId):Option Nat:=(P.info? t).map (·.size)
def aggOf(P:Program)(t:TypeId):Option Bool:=
 match P.underlying t with
 |some (.struct _)=>some true
 |some (.array _ _)=>some true
 |some _=>some false
 |none=>none
def zsOf(P:Program)(t:TypeId):Option (List AV):=
 match P.info? t with
 |some i=>match i.zero with
  |some z=>some (z.cells.toList.map cv1)
  |none=>none
 |none=>none
def fldOf(P:Program)(t:TypeId)(f:Nat):Option (Nat × Nat × TypeId):=
 match P.underlying t with
 |some (.struct fs)=>match fs[f]? with
  |some fd=>match P.info? fd.type with
   |some i=>if i.size=0 then none else some (fd.offset,i.size,fd.type)
   |none=>none
  |none=>none
 |_=>none
def bparts(P:Program)(t:TypeId):List (Nat × Operand)->Option (List (Nat × Nat × Opd))
 | []=>some []
 |(f,x)::r=>match fldOf P t f,opd x,bparts P t r with
  |some (off,sz,_),some p,some ps=>some ((off,sz,p)::ps)
  |_,_,_=>none
def aparts(n:Nat):List (Nat × Operand)->Option (List (Nat × Nat × Opd))
 | []=>some []
 |(f,x)::r=>match opd x,aparts n r with
  |some p,some ps=>some ((f*n,n,p)::ps)
  |_,_=>none
def binOk:BinOp->Bool
 |.add | .sub | .mul | .quo | .rem | .eql | .neq | .lss | .leq | .gtr | .geq=>true
 |.and | .or | .xor | .andNot | .shl | .shr=>true
def isSh:BinOp->Bool
 |.shl | .shr=>true
 |_=>false
def eqTreeL(P:Program)(g:TypeId->Option EqT):List Field->Option (List (Nat × Nat × EqT))
 | []=>some []
 |f::fs=>if f.name == "_" then none else match g f.type,szOf P f.type,eqTreeL P g fs with
  |some a,some m,some b=>some ((f.offset,m,a)::b)
  |_,_,_=>none
def eqTree(P:Program):Nat->TypeId->Option EqT
 |0,_=>none
 |n+1,t=>match P.underlying t with
  |some (.int _)=>some (.leaf true)
  |some .bool=>some (.leaf false)
  |some (.struct fs)=>if P.stoodInHeld t then none else match eqTreeL P (eqTree P n) fs.toList with
   |some l=>some (.node l)
   |none=>none
  |some (.array m e)=>match eqTree P n e,szOf P e with
   |some T,some c=>some (.node ((List.range m).map fun i=>(i*c,c,T)))
   |_,_=>none
  |_=>none
def bodied(P:Program)(f:FuncId):Bool:=
 match P.funcs[f]? with
 |some fn=>fn.body.isSome && !(fn.name == "runtime.NumGoroutine")
 |none=>false
def flatT(P:Program):Nat->TypeId->Bool
 |0,_=>false
 |n+1,t=>match P.underlying t with
  |some (.int _)=>true
  |some .bool=>true
  |some .string=>true
  |some (.struct fs)=>fs.toList.all fun f=>flatT P n f.type
  |some (.array _ e)=>flatT P n e
  |_=>false
def flatRes(P:Program)(f:FuncId):Bool:=
 match P.funcs[f]? with
 |some fn=>fn.resultTypes.toList.all (flatT P 8)
 |none=>false
def mapT(P:Program):Nat->TypeId->Bool
 |0,_=>false
 |n+1,t=>match P.underlying t with
  |some (.map _ _)=>true
  |some (.struct fs)=>fs.toList.any fun f=>mapT P n f.type
  |some (.pointer e)=>mapT P n e
  |_=>false
def anyC(p:Op->Bool):Code->Bool
 |.region _ ops _=>ops.toList.any fun o=>p o.op
 |.seq a b=>anyC p a||anyC p b
 |.cond _ a b=>anyC p a||anyC p b
 |.rangeFunc _ _ a b=>anyC p a||anyC p b
 |.block _ b=>anyC p b
 |.loop b=>anyC p b
 |.scope b=>anyC p b
 |_=>false
def wrM(P:Program):Nat->FuncId->Bool
 |0,_=>false
 |n+1,f=>match P.funcs[f]? with
  |some fn=>fn.params.toList.any (mapT P 4)&&match fn.body with
   |some b=>anyC (fun op=>match op with
    |.mapUpdate _ _ _ _=>true
    |.call c=>match c.callee with
     |.value (.func g)=>wrM P n g
     |_=>false
    |_=>false) b
   |none=>false
  |none=>false
def wrS(P:Program)(f:FuncId):Bool:=
 match P.funcs[f]? with
 |some fn=>(match fn.params.toList with
  |t::_=>match P.underlying t with
   |some (.pointer _)=>true
   |_=>false
  | []=>false)&&match fn.body with
   |some b=>anyC (fun op=>match op with
    |.store _ _ _=>true
    |_=>false) b
   |none=>false
 |none=>false
def wrF(P:Program)(f:FuncId):Bool:=
 match P.funcs[f]? with
 |some fn=>fn.resultTypes.size==0||(flatRes P f&&(wrM P 4 f||wrS P f))||(match fn.params.toList with
  |t::_=>match P.underlying t with
   |some (.pointer _) => !flatRes P f
   |_=>false
  | []=>false)
 |none=>false
def isMapT(P:Program)(t:TypeId):Bool:=match P.underlying t with
 |some (.map _ _)=>true
 |_=>false
def slotsT(P:Program):Nat->TypeId->Nat
 |0,_=>0
 |n+1,t=>match P.underlying t with
  |some (.slice _)=>1
  |some (.struct fs)=>fs.toList.foldl (fun m f=>m+slotsT P n f.type) 0
  |some (.pointer e)=>match P.underlying e with
   |some (.struct fs)=>if fs.toList.all (fun f=>flatT P 8 f.type||isMapT P f.type)&&fs.toList.any (fun f=>isMapT P f.type) then fs.toList.foldl (fun m f=>m+if isMapT P f.type then 1 else 0) 1 else 0
   |_=>0
  |_=>0
def slotsOf(P:Program)(f:FuncId):Nat:=
 match P.funcs[f]? with
 |some fn=>fn.resultTypes.toList.foldl (fun m t=>m+if isMapT P t then 1 else slotsT P 8 t) 0
 |none=>0
def inOrder:List (Nat × Operand)->Nat->Bool
 | [],_=>true
 |(i,_)::r,j=>i==j&&inOrder r (j+1)
def isInt(P:Program)(t:TypeId):Bool:=
 match P.underlying t with
 |some (.int _)=>true
 |_=>false
def opdo:Option Operand->Option (Option Opd)
 |none=>some none
 |some x=>(opd x).map some
def leafT(P:Program)(t:TypeId):Bool:=match P.underlying t with
 |some (.int _)=>true
 |some .bool=>true
 |_=>false
def leafF(P:Program)(f:Field):Bool:=match P.underlying f.type with
 |some (.int _)=>true
 |some .bool=>true
 |some (.array _ e)=>leafT P e
 |_=>false
def ktOf(P:Program)(k:TypeId):Option KTy:=
 match P.underlying k with
 |some (.int _)=>some .int
 |some .bool=>some .bool
 |some .string=>some .str
 |some (.struct fs)=>match eqTree P 3 k with
  |some T=>if fs.toList.all (leafF P)=true then some (.st T) else none
  |none=>none
 |some (.array _ e)=>match eqTree P 3 k with
  |some T=>if leafT P e=true then some (.st T) else none
  |none=>none
 |_=>none
def zvOf(P:Program)(t:TypeId):Option AV:=
 match P.info? t with
 |some i=>match i.zero with
  |some z=>some (cv z)
  |none=>none
 |none=>none
def rowsT(P:Program)(t:TypeId):Bool:=match P.underlying t with
 |some (.slice e)=>match P.underlying e with
  |some (.slice _)=>true
  |_=>false
 |_=>false
def zokL:List AV->Bool
 | []=>true
 |.bool _::l=>zokL l
 |.int _ _::l=>zokL l
 |.str _::l=>zokL l
 |.nils::l=>zokL l
 |.lit _::l=>zokL l
 |_=>false
def isStrT(P:Program)(t:TypeId):Bool:=match P.underlying t with
 |some .string=>true
 |_=>false
theorem isStrT_ok{P:Program}{t:TypeId}(h:isStrT P t=true):P.underlying t=some .string:=by
 unfold isStrT at h
 split at h
 ·assumption
 ·cases h
theorem isMapT_ok{P:Program}{t:TypeId}(h:isMapT P t=true):∃k e,P.underlying t=some (.map k e):=by
 unfold isMapT at h
 split at h
 ·exact⟨_,_,‹_›⟩
 ·cases h
def isStr:TypeDesc->Bool
 |.string=>true
 |_=>false
theorem isStr_ok{u:TypeDesc}(h:isStr u=true):u = .string:=by
 cases u<;>first|rfl|cases h
def compO(P:Program)(nm:Nat):Op->Option Ixo
 |.move x | .assign x=>(opd x).map .mv
 |.pick c a b=>match opd c,opd a,opd b with
  |some c,some a,some b=>some (.pick c a b)
  |_,_,_=>none
 |.alloc t=>match zsOf P t with
  |some zs=>some (.alloc nm zs)
  |none=>none
 |.makeSlice t l c=>match P.underlying t,opd l,opd c with
  |some (.slice e),some p,some q=>match P.info? e,zsOf P e with
   |some i,some zs=>if zs.length=i.size/\0<i.size/\0<i.bytes/\zokL zs=true then some (.mks nm e i.size i.bytes zs p q) else none
   |_,_=>none
  |_,_,_=>none
 |.box t x=>match aggOf P t,opd x with
  |some ag,some p=>some (.box nm ag p)
  |_,_=>none
 |.build t ps=>match P.underlying t with
  |some (.struct fs)=>match zsOf P t,bparts P t ps.toList with
   |some zs,some qs=>if fs.toList.all (fun f=>(szOf P f.type).isSome) then some (.build zs qs) else none
   |_,_=>none
  |some (.array _ e)=>match zsOf P t,szOf P e with
   |some zs,some n=>match aparts n ps.toList with
    |some qs=>if 0<n then some (.build zs qs) else none
    |none=>none
   |_,_=>none
  |_=>none
 |.load t a=>match aggOf P t,szOf P t,opd a with
  |some ag,some n,some p=>some (.load ag n p)
  |_,_,_=>none
 |.store t a x=>match aggOf P t,szOf P t,opd a,opd x with
  |some ag,some n,some p,some q=>some (if flatT P 8 t then .store ag n p q [] else .stz ag n p q [])
  |_,_,_,_=>none
 |.binOp op t x y _=>match opd x,opd y,binOk op with
  |some p,some q,true=>match P.underlying t with
   |some (.int _)=>some (.bin op p q)
   |some .bool=>match op with
    |.eql=>some (.eqb false p q)
    |.neq=>some (.eqb true p q)
    |_=>none
   |some .string=>match op with
    |.add=>some (.pur .cat [p,q])
    |.eql | .neq | .lss | .leq | .gtr | .geq=>some (.pur (.cmp op) [p,q])
    |_=>none
   |some (.slice _)=>match q,op with
    |.c .nils, .eql=>some (.eqn false p)
    |.c .nils, .neq=>some (.eqn true p)
    |_,_=>none
   |some (.struct _)=>if P.eqGuardType P.depth t then none else match eqTree P 4 t,op with
    |some T, .eql=>some (.eqs false T p q)
    |some T, .neq=>some (.eqs true T p q)
    |_,_=>none
   |_=>none
  |_,_,_=>none
 |.unOp op _ x=>(opd x).map (.un op)
 |.convert s t x=>match P.underlying s,P.underlying t,opd x with
  |some (.int _),some (.int k),some p=>some (.conv k p)
  |some (.slice e),some .string,some p=>match P.underlying e with
   |some (.int .u8)=>some (.b2s p)
   |_=>none
  |_,_,_=>none
 |.fieldAddr t x f=>match fldOf P t f,opd x with
  |some (off,_,_),some p=>some (.faddr off p)
  |_,_=>none
 |.field t x f=>match fldOf P t f,opd x with
  |some (off,sz,u),some p=>match aggOf P u with
   |some ag=>some (.field ag sz off p)
   |none=>none
  |_,_=>none
 |.indexAddr t x i=>match P.underlying t,opd x,opd i with
  |some (.slice e),some p,some q=>match szOf P e with
   |some n=>some (.iaddr n p q)
   |none=>none
  |some (.array m e),some p,some q=>match szOf P e with
   |some n=>some (.paddr n m p q)
   |none=>none
  |_,_,_=>none
 |.index t x i=>match P.underlying t,opd x,opd i with
  |some (.array m e),some p,some q=>match aggOf P e,szOf P e with
   |some ag,some n=>if n=0 then none else some (.aidx ag n m p q)
   |_,_=>none
  |some .string,some p,some q=>some (.sidx p q)
  |_,_,_=>none
 |.makeFunc (.func f) first caps=>match first.toList,opds caps.toList with
  | [],some ps=>some (.mkfn f ps)
  |xs,some []=>(opds xs).map (.mkmt f)
  |_,_=>none
 |.extract x i=>(opd x).map (.extract i)
 |.buildSlice t n ps=>match P.underlying t,inOrder ps.toList 0,opds (ps.toList.map (·.2))with
  |some (.slice e),true,some qs=>match szOf P e,(zsOf P e).isSome with
   |some sz,true=>if 0<sz&&n*sz<=16777216&&n==ps.toList.length then some (.bsl nm e sz qs []) else none
   |_,_=>none
  |_,_,_=>none
 |.call c=>match c.callee with
  |.value (.func f)=>match opds c.args.toList,bodied P f with
   |some ps,true=>if wrF P f then some (.callw nm (slotsOf P f) f ps) else if flatRes P f then some (.call f ps) else some (.callz nm (slotsOf P f) f ps [])
   |_,_=>none
  |.builtin .append=>match c.args.toList,c.argTypes.toList with
   | [x,y],[t,t']=>if t=t' then(match P.underlying t,opd x,opd y with
    |some (.slice e),some p,some q=>match P.info? e with
     |some i=>if 0<i.size&&0<i.bytes&&(zsOf P e).any (fun zs=>zs.length==i.size) then some (.apd nm e i.size i.bytes p q []) else none
     |none=>none
    |_,_,_=>none) else none
   |_,_=>none
  |.value g=>match opd g,opds c.args.toList with
   |some p,some ps=>some (.callv p ps)
   |_,_=>none
  |.builtin .len=>match c.args.toList,c.argTypes.toList with
   | [x],[t]=>match P.underlying t,opd x with
    |some (.slice _),some p=>some (.len p)
    |some .string,some p=>some (.slen p)
    |some (.map _ _),some p=>some (.mlen p)
    |_,_=>none
   |_,_=>none
  |.builtin .delete=>match c.args.toList,c.argTypes.toList with
   | [x,y],[t,t2]=>match P.underlying t,opd x,opd y with
    |some (.map k _),some p,some q=>match ktOf P k with
     |some kt=>some (.mpu (.del kt) p q (.c (.bool false)) [])
     |none=>none
    |_,_,_=>none
   |_,_=>none
  |.builtin .max=>match c.argTypes.toList.all (isInt P),opds c.args.toList with
   |true,some ps=>some (.mm true ps)
   |_,_=>none
  |.builtin .min=>match c.argTypes.toList.all (isInt P),opds c.args.toList with
   |true,some ps=>some (.mm false ps)
   |_,_=>none
  |_=>none
 |.slice t x lo hi none=>match P.underlying t,opd x,opdo lo,opdo hi with
  |some (.slice e),some p,some l,some h=>match szOf P e with
   |some n=>some (.sli n p l h)
   |none=>none
  |some u,some p,some l,some h=>if isStr u=true then some (.pur (.sls l.isSome h.isSome) (p::(l.toList++h.toList))) else none
  |_,_,_,_=>none
 |.slice t x none (some hi) (some mx)=>match P.underlying t,opd x,opd hi,opd mx with
  |some (.slice e),some p,some q,some r=>match szOf P e with
   |some n=>some (.sl3 n p q r)
   |none=>none
  |_,_,_,_=>none
 |.nilCheck x=>(opd x).map .nilck
 |.makeMap t none=>match P.underlying t with
  |some (.map _ e)=>some (match rowsT P e with
   |true=>.mko nm
   |false=>.mkm nm)
  |_=>none
 |.mapUpdate t m x v=>match P.underlying t,opd m,opd x,opd v with
  |some (.map k _),some p,some q,some r=>match ktOf P k with
   |some kt=>some (.mpu kt p q r [])
   |none=>none
  |_,_,_,_=>none
 |.insert t m x v=>match P.underlying t,opd m,opd x,opd v with
  |some (.map k _),some p,some q,some r=>match ktOf P k with
   |some kt=>some (.mpu kt p q r [])
   |none=>none
  |_,_,_,_=>none
 |.range t x=>match opd x with
  |some p=>if isStrT P t=true then some (.srg nm p) else if isMapT P t=true then some (.mrg nm p []) else none
  |none=>none
 |.next x false=>(opd x).map .mnx
 |.next x true=>(opd x).map .snx
 |.entry x=>(opd x).map .men
 |.mapEntry t m x=>match P.underlying t,opd m,opd x with
  |some (.map k e),some p,some q=>match ktOf P k,zvOf P e with
   |some kt,some z=>some (.mpe kt z p q [])
   |_,_=>none
  |_,_,_=>none
 |.entryStore _ m s v=>match opd m,opd s,opd v with
  |some p,some q,some r=>some (.mes p q r [])
  |_,_,_=>none
 |.lookup t m x ok=>match P.underlying t,opd m,opd x with
  |some (.map k e),some p,some q=>match ktOf P k,zvOf P e with
   |some kt,some z=>some (.lkp kt ok z p q)
   |_,_=>none
  |_,_,_=>none
 |_=>none
def Ixo.nms:Ixo->Nat
 |.alloc _ _=>1
 |.mks _ _ _ _ _ _ _=>1
 |.box _ _ _=>1
 |.bsl _ _ _ _ _=>1
 |.apd _ _ _ _ _ _ _=>1
 |.callz _ ct _ _ _=>ct
 |.callw _ ct _ _=>ct
 |.mkm _=>1
 |.mko _=>1
 |.srg _ _=>1
 |.mrg _ _ _=>1
 |.mrx _ _=>1
 |.mkx _=>1
 |_=>0
def stOk(io:Ixo)(d:Option Nat):Bool:=
 match io with
 |.store _ _ _ _ _=>d.isNone
 |.mpu _ _ _ _ _=>d.isNone
 |.mes _ _ _ _=>d.isNone
 |.stz _ _ _ _ _=>d.isNone
 |_=>true
def compOps(P:Program)(N:Nat)(ops:Array Oper):Nat->List Oper->Option (List IOp × Nat)
 |nm,[]=>some ([],nm)
 |nm,o::os=>
  match compO P nm o.op with
  |some io=>match compOps P N ops (nm+io.nms) os with
   |some (r,nm')=>
    if o.dst.all (· < N)&&stOk io o.dst then
     match o.guard with
     |none=>some (⟨none,o.dst,io⟩::r,nm')
     |some (j,b)=>match (ops[j]?).bind (·.dst)with
      |some s=>some (⟨some (s,b),o.dst,io⟩::r,nm')
      |none=>none
    else none
   |none=>none
  |none=>none
def St.ev(s:St):Opd->Option AV
 |.t i=>look s.tm i
 |.c v=>some v
def St.evl(s:St):List Opd->Option (List AV)
 | []=>some []
 |x::xs=>match s.ev x,s.evl xs with
  |some v,some vs=>some (v::vs)
  |_,_=>none
def AV.one:AV->Bool
 |.agg _=>false
 |.tup _=>false
 |.lit (.agg _)=>false
 |.lit (.tuple _)=>false
 |.gone=>false
 |_=>true
def brB(b:Bool)(A B:Prop):Prop:=(b=true->A)/\(b=false->B)
theorem brB_t{A B:Prop}(h:A):brB true A B:=⟨fun _=>h,fun e=>absurd e (by decide)⟩
theorem brB_f{A B:Prop}(h:B):brB false A B:=⟨fun e=>absurd e (by decide),fun _=>h⟩
def wrE(k:IntKind)(x:Int)(K:Int->Prop):Prop:=K (k.wrap x)
theorem wrE_in{x:Int}{K:Int->Prop}(h : -9223372036854775808<=x/\x<=9223372036854775807)(hk:K x):wrE .i64 x K:=by
 have:IntKind.i64.wrap x=x:=by
  simp only[IntKind.wrap,IntKind.bits,IntKind.signed]
  simp only[Bool.true_and,decide_eq_true_eq,ge_iff_le]
  split<;>omega
 unfold wrE;rw[this];exact hk
def need(p:Prop)(A:Prop):Prop:=p/\A
def FnA(P:Program)(f:FuncId)(args:List AV)(R:AV->Prop):Prop:=
 ∀(imm:Nat->Prop) (w:World) (vs:List Value),(∀b,imm b->Mem w b)->RV0s imm w args vs ->
  Calls P f vs.toArray w fun e w'=>∃v r imm',e = .returned v/\R r/\RV0 imm' w' r v/\Below w.heap.size w w'/\(∀b,imm b->imm' b) /\
   (∀b,imm' b->imm b\/(w.heap.size<=b/\Mem w' b))
mutual
def AV.rnr(π : Nat->Nat):AV->AV
 |.row i=>.row (π i)
 |.cut i sz lo n=>.cut (π i) sz lo n
 |.agg cs=>.agg (AV.rnrL π cs)
 |.tup cs=>.tup (AV.rnrL π cs)
 |v=>v
def AV.rnrL(π : Nat->Nat):List AV->List AV
 | []=>[]
 |a::as=>a.rnr π :: AV.rnrL π as
end
mutual
def AV.oOk(ns:List Nat):AV->Bool
 |.row i=>memN ns i
 |.agg cs=>AV.oOkL ns cs
 |.tup cs=>AV.oOkL ns cs
 |.bool _=>true
 |.int _ _=>true
 |.str _=>true
 |.lit _=>true
 |.isl _=>true
 |.nils=>true
 |.ipt _=>true
 |.imp _ _=>true
 |.tsl _ _=>true
 |.mth _ _=>true
 |.any=>true
 |_=>false
def AV.oOkL(ns:List Nat):List AV->Bool
 | []=>true
 |a::as=>a.oOk ns&&AV.oOkL ns as
end
def posN:List (Nat × Res)->Nat->Nat->Nat
 | [],_,i=>i
 |(j,_)::l,nm,i=>match decide (i=j)with
  |true=>nm
  |false=>posN l (nm+1) i
def nameR:List (Nat × Res)->Nat->List (Nat × Res)
 | [],_=>[]
 |(_,r)::l,nm=>(nm,r)::nameR l (nm+1)
def rowsB:Nat->List (Nat × Res)->Bool
 |_,[]=>true
 |n+1,(_, .row false _ _ _)::l=>rowsB n l
 |_,_=>false
theorem rowsB_ok:∀ {ct:Nat} {rows:List (Nat × Res)},rowsB ct rows=true->rows.length<=ct/\∀p∈rows,p.2 ≠ .fresh
 |ct,[],_=>by simp
 |0,(i,r)::l,h=>by simp[rowsB]at h
 |ct+1,(i,r)::l,h=>by
  unfold rowsB at h
  split at h
  ·rename_i heq;cases heq
  ·rename_i n i' el sz es l' hn heq
   simp only[List.cons.injEq,Prod.mk.injEq]at heq
   obtain⟨⟨rfl,rfl⟩,rfl⟩:=heq
   have hn':n=ct:=by omega
   subst hn'
   obtain⟨h1,h2⟩:=rowsB_ok h
   exact⟨by simp;omega,fun p hp=>by
    rcases List.mem_cons.1 hp with rfl|hp
    ·simp
    ·exact h2 p hp⟩
  ·cases h
theorem nameR_mem:∀ {rows:List (Nat × Res)} {nm:Nat} {p:Nat × Res},p∈nameR rows nm->∃j,j<rows.length/\p.1=nm+j/\∃i,(i,p.2)∈rows
 | [],nm,p,h=>by simp[nameR]at h
 |(i,r)::l,nm,p,h=>by
  simp only[nameR,List.mem_cons]at h
  rcases h with rfl|h
  ·exact⟨0,by simp,rfl,i,by simp⟩
  ·obtain⟨j,h1,h2,i',h3⟩:=nameR_mem h
   exact⟨j+1,by simp;omega,by rw[h2];omega,i',by simp[h3]⟩
def fstN:List (Nat × Res)->List Nat
 | []=>[]
 |(i,_)::l=>i::fstN l
def OwnRows(B:Nat)(imm:Nat->Prop)(w:World)(os:Nat->Option Own):List (Nat × Res)->Prop
 | []=>True
 |(i,r)::l=>(∃el sz es o xs,r = .row false el sz es/\os i=some o/\w.ownsRow 0 el sz o.val es.length xs/\RV0s imm w es.flatten xs/\(∀e∈es,e.length=sz) /\
   (∀b,o.val.ownBlock=some b->B<=b/\b<w.heap.size/\¬imm b)/\∀p∈l,∀o',os p.1=some o'->∀b,o.val.ownBlock=some b->o'.val.ownBlock≠some b)/\OwnRows B imm w os l
def FnO(P:Program)(f:FuncId)(args:List AV)(R:AV->List (Nat × Res)->Prop):Prop:=
 ∀(imm:Nat->Prop) (w:World) (vs:List Value),(∀b,imm b->Mem w b)->RV0s imm w args vs ->
  Calls P f vs.toArray w fun e w'=>∃v r rows imm' os,e = .returned v/\R r rows/\RV ⟨imm',fun _=>False,os,w',ln0⟩ r v/\r.oOk (fstN rows)=true/\OwnRows w.heap.size imm' w' os rows/\Below w.heap.size w w'/\(∀b,imm b->imm' b) /\
   (∀b,imm' b->imm b\/(w.heap.size<=b/\Mem w' b))
mutual
def AV.mv(π : Nat->Nat):AV->AV
 |.own i off=>.own (π i) off
 |.elt i sz k j=>.elt (π i) sz k j
 |.row i=>.row (π i)
 |.cut i sz lo n=>.cut (π i) sz lo n
 |.agg cs=>.agg (AV.mvL π cs)
 |.tup cs=>.tup (AV.mvL π cs)
 |.fn f cs=>.fn f (AV.mvL π cs)
 |v=>v
def AV.mvL(π : Nat->Nat):List AV->List AV
 | []=>[]
 |a::as=>a.mv π :: AV.mvL π as
end
mutual
def AV.blw(k:Nat):AV->Bool
 |.own i _=>Nat.blt i k
 |.elt i _ _ _=>Nat.blt i k
 |.row i=>Nat.blt i k
 |.cut i _ _ _=>Nat.blt i k
 |.agg cs=>AV.blwL k cs
 |.tup cs=>AV.blwL k cs
 |.fn _ cs=>AV.blwL k cs
 |.yld=>true
 |.gone=>false
 |_=>true
def AV.blwL(k:Nat):List AV->Bool
 | []=>true
 |a::as=>a.blw k&&AV.blwL k as
end
def Res.mv(π : Nat->Nat):Res->Res
 |.box ice cs=>.box ice (AV.mvL π cs)
 |r=>r
def Res.blw(k:Nat):Res->Bool
 |.fresh=>false
 |.box _ cs=>AV.blwL k cs
 |.mpo _ _=>false
 |.mpb _ _ _ _=>false
 |.itd _ _ _=>false
 |_=>true
def resBelow(k:Nat):List Res->Bool
 | []=>true
 |r::rs=>r.blw k&&resBelow k rs
def resLive:List Res->Bool
 | []=>true
 |.fresh::_=>false
 |.dead::_=>false
 |_::rs=>resLive rs
structure Part(imm T:Nat->Prop)(w:World)(os:Nat->Option Own)(l:Nat)(ins:List Res):Prop where
 sg:∀i,ResOk ⟨imm,T,os,w,lnl l⟩ (ins.getD i .fresh) (os i)
 dis:∀i j b,(ins.getD i .fresh).blk (os i)=some b->(ins.getD j .fresh).blk (os j)=some b->i=j
structure Wr(imm T:Nat->Prop)(w w':World):Prop where
 os:w'.os=w.os
 tape:w'.tape=w.tape
 output:w'.output=w.output
 size:w.heap.size<=w'.heap.size
 same:∀b,b<w.heap.size->(imm b\/¬T b)->w'.heap[b]?=w.heap[b]?
 mem:∀b,Mem w b->Mem w' b
def FnW(P:Program)(f:FuncId)(args:List AV)(ins:List Res)(R:AV->List Res->Prop):Prop:=
 ∀(imm T:Nat->Prop) (w:World) (os:Nat->Option Own) (vs:List Value) (l:Nat),(∀b,imm b->Mem w b)->(∀b,T b->b<w.heap.size)->RVs ⟨imm,T,os,w,lnl l⟩ args vs->Part imm T w os l ins ->
  Calls P f vs.toArray w fun e w'=>∃v r outs imm' T' os',e = .returned v/\R r outs/\RV ⟨imm',T',os',w',lnl l⟩ r v/\Part imm' T' w' os' l outs/\(∀i o,os i=some o->os' i=some o) /\
   Wr imm T w w'/\(∀b,T b->T' b)/\(∀b,T' b->T b\/(w.heap.size<=b/\b<w'.heap.size))/\(∀b,imm b->imm' b)/\(∀b,imm' b->(imm b\/T' b)/\Mem w' b)
def FnV(P:Program)(g:AV)(args:List AV)(R:AV->Prop):Prop:=
 ∀(imm:Nat->Prop) (w:World) (gv:Value) (vs:List Value),(∀b,imm b->Mem w b)->RV0 imm w g gv->RV0s imm w args vs ->
  ∃f cap,gv = .func (.func f) #[] cap/\bodied P f=true/\Calls P f (vs.toArray++cap) w fun e w'=>∃v r imm',e = .returned v/\R r/\RV0 imm' w' r v/\Below w.heap.size w w'/\(∀b,imm b->imm' b) /\
   (∀b,imm' b->imm b\/(w.heap.size<=b/\Mem w' b))
mutual
def AV.flat:AV->Bool
 |.bool _=>true
 |.int _ _=>true
 |.str _=>true
 |.nils=>true
 |.agg cs=>AV.flatL cs
 |.tup cs=>AV.flatL cs
 |_=>false
def AV.flatL:List AV->Bool
 | []=>true
 |a::as=>a.flat&&AV.flatL as
end
structure StepR(imm Q:Nat->Prop)(S S':Wt)(w w':World):Prop where
 os:w'.os=w.os
 tape:w'.tape=w.tape
 output:w'.output=w.output
 size:w.heap.size<=w'.heap.size
 same:∀b,b<w.heap.size->(imm b\/¬S.s b)->w'.heap[b]?=w.heap[b]?
 sub:∀b,S.s b->S'.s b
 new:∀b,S'.s b->S.s b\/w.heap.size<=b
 hsub:∀b,S.h b->S'.h b
 hnew:∀b,S'.h b->S.h b\/Q b
structure StepL(imm:Nat->Prop)(lb:Option Nat)(S S':Wt)(w w':World):Prop where
 os:w'.os=w.os
 tape:w'.tape=w.tape
 output:w'.output=w.output
 size:w.heap.size<=w'.heap.size
 same:∀b,b<w.heap.size->lb≠some b->(imm b\/¬S.s b)->w'.heap[b]?=w.heap[b]?
 sub:∀b,S.s b->S'.s b
 new:∀b,S'.s b->S.s b\/w.heap.size<=b
 hsub:∀b,S.h b->S'.h b
 hnew:∀b,S'.h b->S.h b
structure ReachT(n:Nat)(T imm S:Nat->Prop)(w w':World):Prop where
 os:w'.os=w.os
 tape:w'.tape=w.tape
 output:w'.output=w.output
 size:w.heap.size<=w'.heap.size
 same:∀b,b<w.heap.size->((b<n/\(¬T b\/imm b))\/S b)->w'.heap[b]?=w.heap[b]?
 mem:∀b,T b->Mem w b->Mem w' b
structure JOk(P:Program)(nx:Nat->List AV->Nat->Prop)(lx:Nat->TypeId->Nat->List (List AV)->Nat->Prop)(imm T:Nat->Prop)(n l:Nat)(J:Nat->Bool->Wt->World->Prop):Prop where
 js:∀k st S w,J k st S w->∀b,S.s b\/S.h b->b<w.heap.size
 jr:∀k st S w w',J k st S w->ReachT n T imm (fun b=>S.s b\/S.h b) w w'->J k st S w'
 jy:∀k k' S w y xs (Q:Nat->Prop),J k false S w->(∀b,S.h b->Q b)->(∀b,Q b->(imm b\/T b\/(n<=b/\¬S.s b))/\Mem w b)->nx k y k'->RV0s Q w y xs ->
  YieldAt Fence.wide 4 P l xs.toArray w fun e w2=>∃b S',e = .returned (.bool b)/\J k' (!b) S' w2/\StepR imm Q S S' w w2
 jl:∀k k' S w el sz es v xs,J k false S w->lx k el sz es k'->AV.flatL es.flatten=true->w.ownsRow 0 el sz v es.length xs->RV0s (fun _=>False) w es.flatten xs->(∀e∈es,e.length=sz) ->
  (∀b,v.ownBlock=some b->(T b\/n<=b)/\¬imm b/\¬S.s b/\¬S.h b) ->
  YieldAt Fence.wide 4 P l #[v] w fun e w2=>∃b S' xs',e = .returned (.bool b)/\J k' (!b) S' w2/\StepL imm v.ownBlock S S' w w2/\w2.ownsRow 0 el sz v es.length xs'/\RV0s (fun _=>False) w2 es.flatten xs'
structure WrY(imm T:Nat->Prop)(S S':Wt)(w w':World):Prop where
 os:w'.os=w.os
 tape:w'.tape=w.tape
 output:w'.output=w.output
 size:w.heap.size<=w'.heap.size
 same:∀b,b<w.heap.size->(imm b\/(¬T b/\¬S.s b))->w'.heap[b]?=w.heap[b]?
 mem:∀b,T b->Mem w' b
 sub:∀b,S.s b->S'.s b
 new:∀b,S'.s b->S.s b\/w.heap.size<=b
 hsub:∀b,S.h b->S'.h b
def FnY(P:Program)(nx:Nat->List AV->Nat->Prop)(lx:Nat->TypeId->Nat->List (List AV)->Nat->Prop)(f:FuncId)(args:List AV)(ins:List Res)(k0:Nat)(R:AV->List Res->Nat->Bool->Prop):Prop:=
 ∀(imm T:Nat->Prop) (w:World) (os:Nat->Option Own) (vs:List Value) (l:Nat) (J:Nat->Bool->Wt->World->Prop) (S0:Wt),(∀b,imm b->Mem w b)->(∀b,T b->Mem w b)->RVs ⟨imm,T,os,w,lnl l⟩ args vs->Part imm T w os l ins ->
  (∀b,S0.h b->imm b)->(∀b,S0.s b->¬T b)->JOk P nx lx imm T w.heap.size l J->J k0 false S0 w ->
  Calls P f vs.toArray w fun e w'=>∃v r outs imm' T' os' k' st' S',e = .returned v/\R r outs k' st'/\RV ⟨imm',T',os',w',lnl l⟩ r v/\Part imm' T' w' os' l outs/\(∀i o,os i=some o->os' i=some o) /\
   J k' st' S' w'/\WrY imm T S0 S' w w'/\(∀b,T b->T' b)/\(∀b,T' b->T b\/(w.heap.size<=b/\b<w'.heap.size/\¬S'.s b))/\(∀b,imm b->imm' b)/\(∀b,imm' b->(imm b\/T' b)/\Mem w' b)/\∀b,S'.h b->imm' b
mutual
def AV.pu:AV->Bool
 |.own _ _=>false
 |.elt _ _ _ _=>false
 |.row _=>false
 |.cut _ _ _ _=>false
 |.yld=>false
 |.gone=>false
 |.agg cs=>AV.puL cs
 |.tup cs=>AV.puL cs
 |.fn _ cs=>AV.puL cs
 |_=>true
def AV.puL:List AV->Bool
 | []=>true
 |a::as=>a.pu&&AV.puL as
end
def mapO(f:AV->Option AV):List AV->Option (List AV)
 | []=>some []
 |a::as=>match f a,mapO f as with
  |some d,some ds=>some (d::ds)
  |_,_=>none
def AV.frz(sg:List Res):Nat->AV->Option AV
 |0,_=>none
 |n+1,v=>match v with
  |.bool b=>some (.bool b)
  |.int k m=>some (.int k m)
  |.str s=>some (.str s)
  |.lit v=>some (.lit v)
  |.isl es=>some (.isl es)
  |.nils=>some (.isl [])
  |.ipt cs=>some (.ipt cs)
  |.imp ks us=>some (.imp ks us)
  |.any=>some .any
  |.tsl _ es=>some (.isl es)
  |.agg cs=>match mapO (AV.frz sg n) cs with
   |some ds=>some (.agg ds)
   |none=>none
  |.tup cs=>match mapO (AV.frz sg n) cs with
   |some ds=>some (.tup ds)
   |none=>none
  |.fn f cs=>match mapO (AV.frz sg n) cs with
   |some ds=>some (.fn f ds)
   |none=>none
  |.own i off=>match sg.getD i .fresh with
   |.box _ cs=>match mapO (AV.frz sg n) cs with
    |some ds=>some (.ipt (ds.drop off))
    |none=>none
   |_=>none
  |.row i=>match sg.getD i .fresh with
   |.row _ _ _ es=>some (.isl es)
   |.mp _ ks us=>some (.imp ks us)
   |.mpo ks us=>match mapO (AV.frz sg n) us with
    |some us'=>some (.imp ks us')
    |none=>none
   |_=>none
  |.cut i sz lo m=>match sg.getD i .fresh with
   |.row _ _ sz' es=>if sz'=sz then some (.isl ((es.drop lo).take m)) else none
   |_=>none
  |_=>none
def AV.frzL(sg:List Res)(n:Nat)(as:List AV):Option (List AV):=mapO (AV.frz sg n) as
mutual
def AV.reach(sg:List Res):AV->Option (List (Nat × Res))
 |.own i _=>match sg.getD i .fresh with
  |.box _ cs=>if AV.puL cs=true then some [(i, .box true cs)] else none
  |_=>none
 |.row i=>match sg.getD i .fresh with
  |.row _ el sz es=>some [(i, .row true el sz es)]
  |.mp _ ks us=>some [(i, .mp true ks us)]
  |_=>none
 |.cut i _ _ _=>match sg.getD i .fresh with
  |.row _ el sz es=>some [(i, .row true el sz es)]
  |_=>none
 |.elt _ _ _ _=>none
 |.yld=>none
 |.gone=>none
 |.agg cs=>AV.reachL sg cs
 |.tup cs=>AV.reachL sg cs
 |.fn _ cs=>AV.reachL sg cs
 |_=>some []
def AV.reachL(sg:List Res):List AV->Option (List (Nat × Res))
 | []=>some []
 |a::as=>match AV.reach sg a,AV.reachL sg as with
  |some x,some y=>some (x++y)
  |_,_=>none
end
def AV.frzN(sg:List Res)(v:AV):Option AV:=
 match v with
 |.nils=>some .nils
 |v=>AV.frz sg 8 v
def AV.frzNL(sg:List Res)(as:List AV):Option (List AV):=mapO (AV.frzN sg) as
def FrzZ(sg:List Res)(args args':List AV):Prop:=AV.frzL sg 8 args=some args'\/AV.frzNL sg args=some args'
mutual
def AV.flatR:AV->Bool
 |.bool _=>true
 |.int _ _=>true
 |.str _=>true
 |.nils=>true
 |.row _=>true
 |.agg cs=>AV.flatRL cs
 |.tup cs=>AV.flatRL cs
 |_=>false
def AV.flatRL:List AV->Bool
 | []=>true
 |a::as=>a.flatR&&AV.flatRL as
end
def flatRB:List (Nat × Res)->Bool
 | []=>true
 |(_, .row _ _ _ es)::l=>AV.flatL es.flatten&&flatRB l
 |_=>false
def CallZ(P:Program)(sg:List Res)(nm ct:Nat)(f:FuncId)(args:List AV)(k:List (Nat × Res)->AV->Prop):Prop:=
 ∃args' z,AV.reachL sg args=some z/\FrzZ sg args args'/\((∃R,FnA P f args' R/\∀r,R r->k z r) \/
  (∃R,FnO P f args' R/\∀r rows,R r rows->rowsB ct rows=true/\k (z++nameR rows nm) (r.rnr (posN rows nm))) \/
  ∃R,FnO P f args' R/\∀r rows,R r rows->rowsB ct rows=true/\flatRB rows=true/\r.flatR=true/\k (nameR rows nm) (r.rnr (posN rows nm)))
theorem FnA.callz{P:Program}{sg:List Res}{nm ct:Nat}{f:FuncId}{args args':List AV}{z:List (Nat × Res)}{R:AV->Prop}{k:List (Nat × Res)->AV->Prop}(h:FnA P f args' R)(hz:AV.reachL sg args=some z)(hr:AV.frzL sg 8 args=some args')(hk:∀r,R r->k z r):CallZ P sg nm ct f args k:=⟨args',z,hz, .inl hr, .inl ⟨R,h,hk⟩⟩
theorem FnO.callz{P:Program}{sg:List Res}{nm ct:Nat}{f:FuncId}{args args':List AV}{z:List (Nat × Res)}{R:AV->List (Nat × Res)->Prop}{k:List (Nat × Res)->AV->Prop}(h:FnO P f args' R)(hz:AV.reachL sg args=some z)(hr:AV.frzL sg 8 args=some args')(hk:∀r rows,R r rows->rowsB ct rows=true/\k (z++nameR rows nm) (r.rnr (posN rows nm))):CallZ P sg nm ct f args k:=⟨args',z,hz, .inl hr, .inr (.inl ⟨R,h,hk⟩)⟩
def setL:List Res->List (Nat × Res)->List Res
 |sg,[]=>sg
 |sg,(i,r)::l=>setL (sg.set i r) l
def pick:List Nat->Nat->Nat->Nat
 | [],nm,i=>nm+i
 |j::_,_,0=>j
 |_::l,nm,i+1=>pick l nm i
def bigL(π : Nat->Nat):Nat->List Res->List (Nat × Res)
 |_,[]=>[]
 |i,r::rs=>(π i,r.mv π)::bigL π (i+1) rs
mutual
def AV.flatB(k:Nat):AV->Bool
 |.bool _=>true
 |.int _ _=>true
 |.str _=>true
 |.nils=>true
 |.own i _=>Nat.blt i k
 |.elt i _ _ _=>Nat.blt i k
 |.row i=>Nat.blt i k
 |.cut i _ _ _=>Nat.blt i k
 |.agg cs=>AV.flatBL k cs
 |.tup cs=>AV.flatBL k cs
 |.fn _ cs=>AV.flatBL k cs
 |.yld=>true
 |_=>false
def AV.flatBL(k:Nat):List AV->Bool
 | []=>true
 |a::as=>a.flatB k&&AV.flatBL k as
end
def Res.flatB(k:Nat):Res->Bool
 |.dead=>true
 |.box false cs=>AV.flatBL k cs
 |.row false _ _ es=>AV.flatL es.flatten
 |.mp false ks us=>AV.flatL ks&&AV.flatL us
 |_=>false
def resFlat(k:Nat):List Res->Bool
 | []=>true
 |r::rs=>r.flatB k&&resFlat k rs
def Res.own:Res->Bool
 |.box ice _ => !ice
 |.row ice _ _ _ => !ice
 |.mp ice _ _ => !ice
 |.itr _ _ _ _=>true
 |.sit _ _=>true
 |.mpo _ _=>true
 |.mpb _ _ _ _=>true
 |.itd _ _ _=>true
 |_=>false
def handed(sg:List Res)(π : Nat->Nat):Nat->List Res->Prop
 |_,[]=>True
 |i,r::rs=>sg.getD (π i) .dead=r.mv π /\ handed sg π (i+1) rs
def deadL:List Nat->List (Nat × Res)
 | []=>[]
 |i::l=>(i, .dead)::deadL l
def nodupN:List Nat->Bool
 | []=>true
 |i::l => !memN l i&&nodupN l
def lendA(sg:List Res)(π : Nat->Nat)(k:Nat):List AV->List AV->Prop
 | [],[]=>True
 |a::as,b::bs=>((b.mv π = a/\b.blw k=true)\/AV.frz sg 8 a=some b)/\lendA sg π k as bs
 |_,_=>False
structure CallWi(P:Program)(sg:List Res)(nm ct:Nat)(f:FuncId)(args:List AV)(k:List (Nat × Res)->AV->Prop)(lend:Bool):Prop where
 out:∃ns args' ins R,FnW P f args' ins R/\ns.length=ins.length/\nodupN ns=true/\handed sg (pick ns nm) 0 ins/\resBelow ns.length ins=true/\resLive ins=true /\
  (lend=false->AV.mvL (pick ns nm) args'=args/\AV.blwL ns.length args'=true) /\
  (lend=true->lendA (setL sg (deadL ns)) (pick ns nm) ns.length args args') /\
  ∀r outs,R r outs->ns.length<=outs.length/\outs.length<=ns.length+ct/\resBelow outs.length outs=true/\r.blw outs.length=true /\
   (lend=true->resFlat outs.length outs=true/\r.flatB outs.length=true)/\k (bigL (pick ns nm) 0 outs) (r.mv (pick ns nm))
def AV.wk1(sg:List Res):AV->AV
 |.row i=>match sg.getD i .fresh with
  |.mp _ _ _=>.any
  |_=>.row i
 |v=>v
def wkM(sg:List Res):List AV->List AV
 | []=>[]
 |a::as=>AV.wk1 sg a::wkM sg as
def AV.wk(sg:List Res):AV->AV
 |.agg cs=>.agg (wkM sg cs)
 |v=>v
def wkL(sg:List Res):List AV->List AV
 | []=>[]
 |a::as=>AV.wk sg a::wkL sg as
def CallX(P:Program)(sg:List Res)(nm ct:Nat)(f:FuncId)(args:List AV)(k:List (Nat × Res)->AV->Prop):Prop:=
 (∃args' R,AV.frzL sg 8 args=some args'/\FnA P f args' R/\∀r,R r->r.flat=true/\k [] r) \/
 (∃args' R,FrzZ sg args args'/\FnO P f args' R/\∀r rows,R r rows->rowsB ct rows=true/\flatRB rows=true/\r.flatR=true/\k (nameR rows nm) (r.rnr (posN rows nm))) \/
 (∃lend,CallWi P sg nm ct f args k lend) \/
 CallZ P sg nm ct f (wkL sg args) k
def CallW(P:Program)(sg:List Res)(nm ct:Nat)(f:FuncId)(args:List AV)(k:List (Nat × Res)->AV->Prop):Prop:=
 CallZ P sg nm ct f args k\/CallX P sg nm ct f args k
def freshN(sg:List Res):Nat->Nat->Bool
 |_,0=>true
 |nm,ct+1=>match sg.getD nm .dead with
  |.fresh=>freshN sg (nm+1) ct
  |_=>false
theorem freshN_iff{sg:List Res}:∀ {ct nm:Nat},freshN sg nm ct=true<->∀j,j<ct->sg.getD (nm+j) .dead = .fresh
 |0,nm=>by simp[freshN]
 |ct+1,nm=>by
  simp only[freshN]
  constructor
  ·intro h j hj
   split at h
   ·rename_i h0
    cases j with
    |zero=>exact h0
    |succ j=>have:=freshN_iff.1 h j (by omega);rwa [show nm+1+j=nm+(j+1) from by omega]at this
   ·cases h
  ·intro h
   have h0:=h 0 (by omega)
   simp only[Nat.add_zero]at h0
   rw[h0]
   refine freshN_iff.2 fun j hj=>?_
   have:=h (j+1) (by omega)
   rwa [show nm+(j+1)=nm+1+j from by omega]at this
def CallE(P:Program)(sg:List Res)(f:FuncId)(args:List AV)(k:AV->Prop):Prop:=
 (∃args' R,AV.puL args=true/\AV.frzL sg 8 args=some args'/\FnA P f args' R/\∀r,R r->k r) \/
 (∃args' R,AV.frzL sg 8 args=some args'/\FnA P f args' R/\∀r,R r->r.flat=true/\k r)
theorem FnA.call{P:Program}{sg:List Res}{f:FuncId}{args args':List AV}{R k:AV->Prop}(h:FnA P f args' R)(hr:AV.puL args=true)(hz:AV.frzL sg 8 args=some args')(hk:∀r,R r->k r):CallE P sg f args k:=.inl ⟨args',R,hr,hz,h,hk⟩
theorem FnA.lend{P:Program}{sg:List Res}{f:FuncId}{args args':List AV}{R k:AV->Prop}(h:FnA P f args' R)(hr:AV.frzL sg 8 args=some args')(hk:∀r,R r->r.flat=true/\k r):CallE P sg f args k:=.inr ⟨args',R,hr,h,hk⟩
structure Env where
 P:Program
 N:Nat
 ys:List (List AV):=[]
 nx:Nat->List AV->Nat->Prop:=fun k v k'=>ys[k]?=some v/\k'=k+1
 lx:Nat->TypeId->Nat->List (List AV)->Nat->Prop:=fun _ _ _ _ _=>False
abbrev env3(P:Program)(N:Nat)(ys:List (List AV)):Env:={ P:=P,N:=N,ys:=ys }
inductive Eff where
 |val (v:AV)
 |new (nm:Nat) (r:Res) (v:AV)
 |set (i:Nat) (r:Res)
 |big (l:List (Nat × Res)) (v:AV)
 |yl (g:Gh) (v:AV)
 |ylz (l:List (Nat × Res)) (g:Gh) (v:AV)
def Eff.isYl:Eff->Bool
 |.yl _ _=>true
 |.ylz _ _ _=>true
 |_=>false
def app(d:Option Nat)(s:St):Eff->St
 |.val v=>s.put d v
 |.new nm r v=>St.put { s with sg:=s.sg.set nm r } d v
 |.set i r=>{ s with sg:=s.sg.set i r }
 |.big l v=>St.put { s with sg:=setL s.sg l } d v
 |.yl g v=>St.put { s with gh:=g } d v
 |.ylz l g v=>St.put { s with sg:=setL s.sg l,gh:=g } d v
def VCallE(P:Program)(sg:List Res)(g:AV)(args:List AV)(k:AV->Prop):Prop:=
 (∃g' args' R,AV.pu g=true/\AV.puL args=true/\AV.frz sg 8 g=some g'/\AV.frzL sg 8 args=some args'/\FnV P g' args' R/\∀r,R r->k r) \/
 (∃g' args' R,AV.frz sg 8 g=some g'/\AV.frzL sg 8 args=some args'/\FnV P g' args' R/\∀r,R r->r.flat=true/\k r)
def YldE(E:Env)(gh:Gh)(args:List AV)(k:Gh->AV->Prop):Prop:=
 gh.st=false/\∃k',E.nx gh.k args k'/\AV.flatL args=true/\k ⟨gh.p,k',false⟩ (.bool true)/\k ⟨gh.p,k',true⟩ (.bool false)
def YldZ(E:Env)(sg:List Res)(gh:Gh)(args:List AV)(k:List (Nat × Res)->Gh->AV->Prop):Prop:=
 gh.st=false/\∃v z k',E.nx gh.k v k'/\((z=[]/\v=args/\AV.flatL args=true)\/(AV.reachL sg args=some z/\AV.frzL sg 8 args=some v))/\k z ⟨gh.p,k',false⟩ (.bool true)/\k z ⟨gh.p,k',true⟩ (.bool false)
structure YldL(E:Env)(sg:List Res)(gh:Gh)(args:List AV)(k:Gh->AV->Prop):Prop where
 out:gh.st=false/\∃i el sz es k',args=[.row i]/\sg.getD i .dead = .row false el sz es/\AV.flatL es.flatten=true/\E.lx gh.k el sz es k'/\k ⟨gh.p,k',false⟩ (.bool true)/\k ⟨gh.p,k',true⟩ (.bool false)
structure VCallY(E:Env)(sg:List Res)(gh:Gh)(g:AV)(args:List AV)(k:List (Nat × Res)->Gh->AV->Prop):Prop where
 out:gh.st=false/\∃f caps ns args' ins R,g = .fn f caps/\bodied E.P f=true/\FnY E.P E.nx E.lx f args' ins gh.k R/\ns.length=ins.length/\nodupN ns=true/\handed sg (pick ns 0) 0 ins/\resBelow ns.length ins=true/\resLive ins=true /\
  AV.mvL (pick ns 0) args'=args++caps/\AV.blwL ns.length args'=true /\
  ∀r outs k' st',R r outs k' st'->outs.length=ns.length/\resBelow outs.length outs=true/\r.blw outs.length=true/\k (bigL (pick ns 0) 0 outs) ⟨gh.p,k',st'⟩ (r.mv (pick ns 0))
def VCallX(P:Program)(sg:List Res)(g:AV)(args:List AV)(k:List (Nat × Res)->AV->Prop):Prop:=
 VCallE P sg g args (fun r=>k [] r)\/∃f caps lend,g = .fn f caps/\bodied P f=true/\CallWi P sg 0 0 f (args++caps) k lend
def isYld:AV->Bool
 |.yld=>true
 |_=>false
def mkE(bytes:Nat)(n m:Int)(K:Prop):Prop:=0<=n/\n<=m/\(bytes:Int)*m<=281474976710656/\K
def iaE(es:List (List AV))(i:Int)(K:List AV->Prop):Prop:=0<=i/\i<es.length/\K (es.getD i.toNat [])
def bitI(op:BinOp)(k:IntKind)(a b:Int):Int:=
 match op with
 |.and=>k.wrap (BitVec.ofInt k.bits a &&& BitVec.ofInt k.bits b).toNat
 |.or=>k.wrap (BitVec.ofInt k.bits a ||| BitVec.ofInt k.bits b).toNat
 |.xor=>k.wrap (BitVec.ofInt k.bits a ^^^ BitVec.ofInt k.bits b).toNat
 |.andNot=>k.wrap (BitVec.ofInt k.bits a &&& ~~~BitVec.ofInt k.bits b).toNat
 |_=>a
def evBin(op:BinOp)(k:IntKind)(a b:Int)(K:AV->Prop):Prop:=
 match op with
 |.add=>wrE k (a+b) fun c=>K (.int k c)
 |.sub=>wrE k (a-b) fun c=>K (.int k c)
 |.mul=>wrE k (a*b) fun c=>K (.int k c)
 |.quo=>need (b≠0) (wrE k (a.tdiv b) fun c=>K (.int k c))
 |.rem=>need (b≠0) (K (.int k (a.tmod b)))
 |.eql=>K (.bool (a==b))
 |.neq=>K (.bool (a != b))
 |.lss=>K (.bool (decide (a<b)))
 |.leq=>K (.bool (decide (a<=b)))
 |.gtr=>K (.bool (decide (b<a)))
 |.geq=>K (.bool (decide (b<=a)))
 |.and=>K (.int k (bitI .and k a b))
 |.or=>K (.int k (bitI .or k a b))
 |.xor=>K (.int k (bitI .xor k a b))
 |.andNot=>K (.int k (bitI .andNot k a b))
 |.shl=>need (0<=b) (K (.int k (k.wrap (a*2 ^ min b.toNat k.bits))))
 |.shr=>need (0<=b) (K (.int k (a.fdiv (2 ^ min b.toNat k.bits))))
def cellsK(ag:Bool)(v:AV)(K:List AV->Prop):Prop:=
 match ag with
 |true=>match v with
  |.agg cs=>K cs
  |_=>False
 |false=>need (v.one=true) (K [v])
def splice:List AV->Nat->List AV->List AV
 |cs,0,vs=>vs++cs.drop vs.length
 | [],_+1,vs=>vs
 |c::cs,n+1,vs=>c::splice cs n vs
def neOk(s:St)(i:Nat):List Opd->Bool
 | []=>true
 |p::ps=>(match s.ev p with
  |some v=>v.refsIn fun j=>j != i
  |none=>false)&&neOk s i ps
def apartV(v u:AV):Bool:=v.refsIn fun j=>u.refsIn fun i=>i != j
def apartVs(v:AV):List AV->Bool
 | []=>true
 |u::us=>apartV v u&&apartVs v us
def neOkL(s:St)(us:List AV):List Opd->Bool
 | []=>true
 |p::ps=>(match s.ev p with
  |some v=>apartVs v us
  |none=>false)&&neOkL s us ps
def cellsO(sz:Nat):AV->Option (List AV)
 |.agg cs=>if cs.length=sz then some cs else none
 |v=>if v.one=true/\sz=1 then some [v] else none
def rowsO(sg:List Res)(sz:Nat):List AV->Option (List (List AV) × List (Nat × Res))
 | []=>some ([],[])
 |v::vs=>match cellsO sz v with
  |some cs=>match AV.reachL sg cs,AV.frzL sg 8 cs,rowsO sg sz vs with
   |some z,some cs',some (es,zs)=>some (cs'::es,z++zs)
   |_,_,_=>none
  |none=>none
def tslOk:AV->List (List AV)->Bool
 |_,_=>true
def apdN:AV->List (List AV)->Bool
 |.tsl _ _,[]=>true
 |_,_=>false
def srcO(sg:List Res)(el:TypeId)(sz:Nat):AV->Option (List (List AV) × List (Nat × Res))
 |.nils=>some ([],[])
 |.row i=>match sg.getD i .fresh with
  |.row false el' sz' es=>if el'=el/\sz'=sz then some (es,[(i, .dead)]) else none
  |_=>none
 |.tsl sz' es=>if sz'=sz then some (es,[]) else none
 |.cut i sz' lo n=>match sg.getD i .fresh with
  |.row false el' sz1 es=>if (el'=el/\sz1=sz)/\sz'=sz/\lo=0 then some (es.take n,[(i, .dead)]) else none
  |_=>none
 |_=>none
def addO(sg:List Res)(sz:Nat):AV->Option (List (List AV))
 |.nils=>some []
 |.isl es=>some es
 |.row i=>match sg.getD i .fresh with
  |.row _ _ sz' es=>if sz'=sz then some es else none
  |_=>none
 |.lit (.slice (some _) 0 _)=>some []
 |_=>none
def apE(sz bytes:Nat)(xs ys:List (List AV))(K:Prop):Prop:=(∀e∈ys,e.length=sz/\e.all AV.one=true)/\(xs.length+ys.length)*bytes<=140737488355328/\K
def eq1:Bool->AV->AV->Option Bool
 |true, .int k a, .int l b=>if k=l then some (a==b) else none
 |false, .bool a, .bool b=>some (a==b)
 |_,_,_=>none
mutual
def eqV:EqT->List AV->List AV->Option Bool
 |.leaf i,as,bs=>match as,bs with
  | [a],[b]=>eq1 i a b
  |_,_=>none
 |.node fs,as,bs=>eqVs fs as bs
def eqVs:List (Nat × Nat × EqT)->List AV->List AV->Option Bool
 | [],_,_=>some true
 |(off,n,T)::r,as,bs=>match eqV T ((as.drop off).take n) ((bs.drop off).take n),eqVs r as bs with
  |some x,some y=>some (x&&y)
  |_,_=>none
end
def mmV(mx:Bool)(kd:IntKind):Int->List AV->Option Int
 |n,[]=>some n
 |n, .int kd' m::vs=>if kd'=kd then mmV mx kd (if mx then max n m else min n m) vs else none
 |_,_=>none
def boV(s:St):Option Opd->Option Int
 |none=>some 0
 |some p=>match s.ev p with
  |some (.int _ n)=>some n
  |_=>none
def slE(sz:Nat)(es:List (List AV))(lo hi:Int)(K:List (List AV)->Prop):Prop:=
 0<=lo/\lo<=hi/\hi<=es.length/\(∀e∈es,e.length=sz)/\K ((es.take hi.toNat).drop lo.toNat)
def scV:List AV->Bool
 | []=>true
 |.int _ _::as=>scV as
 |.bool _::as=>scV as
 |_=>false
def scEq:List AV->List AV->Option Bool
 | [],[]=>some true
 |.int k a::as, .int l b::bs=>if k=l then match scEq as bs with
  |some r=>some (a==b&&r)
  |none=>none
  else none
 |.bool a::as, .bool b::bs=>match scEq as bs with
  |some r=>some (a==b&&r)
  |none=>none
 |_,_=>none
def KTy.base:KTy->KTy
 |.del k=>k.base
 |k=>k
def keyVB:KTy->AV->Bool
 |.int, .int _ _=>true
 |.bool, .bool _=>true
 |.str, .str _=>true
 |.st T, .agg cs=>match eqV T cs cs with
  |some _=>scV cs
  |none=>false
 |_,_=>false
def keyV(kt:KTy)(v:AV):Bool:=keyVB kt.base v
def keqB:KTy->AV->AV->Option Bool
 |.int, .int k a, .int l b=>if k=l then some (a==b) else none
 |.bool, .bool a, .bool b=>some (a==b)
 |.str, .str a, .str b=>some (a==b)
 |.st T, .agg as, .agg bs=>match eqV T as bs,scEq as bs with
  |some r,some q=>if r=q then some r else none
  |_,_=>none
 |_,_,_=>none
def keq(kt:KTy)(a b:AV):Option Bool:=keqB kt.base a b
def KTy.isDel:KTy->Bool
 |.del _=>true
 |_=>false
def findK(kt:KTy)(x:AV):List AV->Nat->Option (Option Nat)
 | [],_=>some none
 |k::ks,i=>match keq kt x k with
  |some true=>some (some i)
  |some false=>findK kt x ks (i+1)
  |none=>none
def mput(kt:KTy)(ks us:List AV)(x v:AV):Option (List AV × List AV):=
 match keyV kt x,findK kt x ks 0,kt.isDel with
 |true,some (some j),false=>some (ks,us.set j v)
 |true,some none,false=>some (ks++[x],us++[v])
 |true,some (some j),true=>some (ks.eraseIdx j,us.eraseIdx j)
 |true,some none,true=>some (ks,us)
 |_,_,_=>none
def mlook(kt:KTy)(ks us:List AV)(x:AV):Option (Option AV):=
 match keyV kt x,findK kt x ks 0 with
 |true,some (some j)=>match us[j]? with
  |some v=>some (some v)
  |none=>none
 |true,some none=>some none
 |_,_=>none
structure MpuE(kt:KTy)(ks us:List AV)(x v:AV)(K:List AV->List AV->Prop):Prop where
 out:∃ks' us',mput kt ks us x v=some (ks',us')/\K ks' us'
theorem mpI{kt:KTy}{ks us ks' us':List AV}{x v:AV}{K:List AV->List AV->Prop}(h:mput kt ks us x v=some (ks',us'))(hk:K ks' us'):MpuE kt ks us x v K:=⟨ks',us',h,hk⟩
structure LkE(kt:KTy)(ks us:List AV)(x:AV)(K:Option AV->Prop):Prop where
 out:∃r,mlook kt ks us x=some r/\K r
theorem lkI{kt:KTy}{ks us:List AV}{x:AV}{r:Option AV}{K:Option AV->Prop}(h:mlook kt ks us x=some r)(hk:K r):LkE kt ks us x K:=⟨r,h,hk⟩
def lkR(ok:Bool)(z:AV):Option AV->AV
 |some v=>match ok with
  |true=>.tup [v, .bool true]
  |false=>v
 |none=>match ok with
  |true=>.tup [z, .bool false]
  |false=>z
structure NxE(ks us:List AV)(seen:List Nat)(K:Nat->AV->AV->Prop)(N:Prop):Prop where
 some:∀j kv uv,ks[j]?=some kv->us[j]?=some uv->j∉seen->K j kv uv
 none:(∀j,j<ks.length->j∈seen)->N
theorem nxI{ks us:List AV}{seen:List Nat}{K:Nat->AV->AV->Prop}{N:Prop}(h:∀j kv uv,ks[j]?=some kv->us[j]?=some uv->j∉seen->K j kv uv)(h2:(∀j,j<ks.length->j∈seen)->N):NxE ks us seen K N:=⟨h,h2⟩
structure MrgE(A B:Prop):Prop where
 out:A\/B
theorem MrgE.fz{A B:Prop}(h:A):MrgE A B:=⟨.inl h⟩
theorem MrgE.bn{A B:Prop}(h:B):MrgE A B:=⟨.inr h⟩
structure BnOk(ks us:List AV)(bn:List Nat)(n:Nat):Prop where
 len:ks.length=bn.length
 lenu:us.length=bn.length
 asc:bn.Pairwise (· < ·)
 lt:∀x∈bn,x<n
structure NxD(ks us:List AV)(bn:List Nat)(n n':Nat)(mem:List Nat)(K:Nat->AV->AV->Prop)(N:Prop):Prop where
 eq:n=n'
 some:∀(j b:Nat) (kv uv:AV),ks[j]?=some kv->us[j]?=some uv->bn[j]?=some b->b∉mem->K b kv uv
 none:(∀b∈bn,b∈mem)->N
theorem nxD{ks us:List AV}{bn:List Nat}{n n':Nat}{mem:List Nat}{K:Nat->AV->AV->Prop}{N:Prop}(he:n=n')(h:∀(j b:Nat) (kv uv:AV),ks[j]?=some kv->us[j]?=some uv->bn[j]?=some b->b∉mem->K b kv uv)(h2:(∀b∈bn,b∈mem)->N):NxD ks us bn n n' mem K N:=⟨he,h,h2⟩
def mdel(kt:KTy)(ks us:List AV)(bn:List Nat)(n:Nat)(x v:AV):Option (List AV × List AV × List Nat × Nat):=
 match keyV kt x,findK kt x ks 0,kt.isDel with
 |true,some (some j),false=>some (ks,us.set j v,bn,n)
 |true,some none,false=>some (ks++[x],us++[v],bn++[n],n+1)
 |true,some (some j),true=>some (ks.eraseIdx j,us.eraseIdx j,bn.eraseIdx j,n)
 |true,some none,true=>some (ks,us,bn,n)
 |_,_,_=>none
structure MdlE(kt:KTy)(ks us:List AV)(bn:List Nat)(n:Nat)(x v:AV)(K:List AV->List AV->List Nat->Nat->Prop):Prop where
 out:∃ks' us' bn' n',mdel kt ks us bn n x v=some (ks',us',bn',n')/\K ks' us' bn' n'
theorem mdI{kt:KTy}{ks us ks' us':List AV}{bn bn':List Nat}{n n':Nat}{x v:AV}{K:List AV->List AV->List Nat->Nat->Prop}(h:mdel kt ks us bn n x v=some (ks',us',bn',n'))(hk:K ks' us' bn' n'):MdlE kt ks us bn n x v K:=⟨ks',us',bn',n',h,hk⟩
def mpeF(kt:KTy)(ks us:List AV)(bn:List Nat)(n:Nat)(x z:AV):Option (AV × Nat × List AV × List AV × List Nat × Nat):=
 match keyV kt x,findK kt x ks 0,kt.isDel with
 |true,some (some j),false=>match us[j]?,bn[j]? with
  |some v,some b=>some (v,b,ks,us,bn,n)
  |_,_=>none
 |true,some none,false=>some (z,n,ks++[x],us++[z],bn++[n],n+1)
 |_,_,_=>none
structure MpeE(kt:KTy)(ks us:List AV)(bn:List Nat)(n:Nat)(x z:AV)(K:AV->Nat->List AV->List AV->List Nat->Nat->Prop):Prop where
 out:∃v b ks' us' bn' n',mpeF kt ks us bn n x z=some (v,b,ks',us',bn',n')/\K v b ks' us' bn' n'
theorem meI{kt:KTy}{ks us ks' us':List AV}{bn bn':List Nat}{n n' b:Nat}{x z v:AV}{K:AV->Nat->List AV->List AV->List Nat->Nat->Prop}(h:mpeF kt ks us bn n x z=some (v,b,ks',us',bn',n'))(hk:K v b ks' us' bn' n'):MpeE kt ks us bn n x z K:=⟨v,b,ks',us',bn',n',h,hk⟩
structure MesE(us:List AV)(bn:List Nat)(b:Int)(v:AV)(K:List AV->Prop):Prop where
 out:∃(j:Nat) (c:Nat) (us':List AV),bn[j]?=some c/\(c:Int)=b/\us'=us.set j v/\K us'
theorem msI{us us':List AV}{bn:List Nat}{b:Int}{v:AV}{K:List AV->Prop}(j c:Nat)(h:bn[j]?=some c)(hb:(c:Int)=b)(hu:us'=us.set j v)(hk:K us'):MesE us bn b v K:=⟨j,c,us',h,hb,hu,hk⟩
structure EntD(ks us:List AV)(bn:List Nat)(n n':Nat)(mem:List Nat)(K:AV->AV->Prop):Prop where
 eq:n=n'
 out:∃(j b:Nat) (kv uv:AV),mem.getLast?=some b/\bn[j]?=some b/\ks[j]?=some kv/\us[j]?=some uv/\K kv uv
theorem enI{ks us:List AV}{bn:List Nat}{n n':Nat}{mem:List Nat}{K:AV->AV->Prop}(he:n=n')(j b:Nat)(kv uv:AV)(h1:mem.getLast?=some b)(h2:bn[j]?=some b)(h3:ks[j]?=some kv)(h4:us[j]?=some uv)(hk:K kv uv):EntD ks us bn n n' mem K:=⟨he,j,b,kv,uv,h1,h2,h3,h4,hk⟩
def dec(f:List UInt8)(pos:Nat):Nat × Nat:=Utf8.decode ⟨f.toArray⟩ pos
structure SnE(f:List UInt8)(pos:Nat)(K:Nat->Nat->Prop)(N:Prop):Prop where
 some:pos<f.length->K (dec f pos).1 (dec f pos).2
 none:f.length<=pos->N
theorem snI{f:List UInt8}{pos:Nat}{K:Nat->Nat->Prop}{N:Prop}(h:pos<f.length->K (dec f pos).1 (dec f pos).2)(h2:f.length<=pos->N):SnE f pos K N:=⟨h,h2⟩
def strC(op:BinOp)(a b:List UInt8):Bool:=
 match op with
 |.eql=>decide (a=b)
 |.neq => !decide (a=b)
 |.lss=>Op.bytesLess a b
 |.leq=>Op.bytesLess a b||decide (a=b)
 |.gtr => !(Op.bytesLess a b||decide (a=b))
 |_ => !Op.bytesLess a b
def slsE(b:List UInt8)(lo hi:Int)(K:AV->Prop):Prop:=need (0<=lo/\lo<=hi/\hi<=b.length) (K (.str ((b.take hi.toNat).drop lo.toNat)))
def purE(p:PuOp)(vs:List AV)(K:AV->Prop):Prop:=
 match p with
 |.cat=>match vs with
  | [.str a, .str b]=>need (a.length+b.length<=9223372036854775807) (K (.str (a++b)))
  |_=>False
 |.cmp op=>match vs with
  | [.str a, .str b]=>K (.bool (strC op a b))
  |_=>False
 |.sls false false=>match vs with
  | [.str b]=>slsE b 0 b.length K
  |_=>False
 |.sls true false=>match vs with
  | [.str b, .int _ lo]=>slsE b lo b.length K
  |_=>False
 |.sls false true=>match vs with
  | [.str b, .int _ hi]=>slsE b 0 hi K
  |_=>False
 |.sls true true=>match vs with
  | [.str b, .int _ lo, .int _ hi]=>slsE b lo hi K
  |_=>False
def bytO:List (List AV)->Option (List UInt8)
 | []=>some []
 | [.int .u8 n]::es=>match bytO es with
  |some l=>some (UInt8.ofNat n.toNat::l)
  |none=>none
 |_::_=>none
structure B2sE(es:List (List AV))(K:AV->Prop):Prop where
 out:∃l,bytO es=some l/\K (.str l)
theorem purE_out{p:PuOp}{vs:List AV}{K:AV->Prop}(h:purE p vs K):∃v,K v/\∀K':AV->Prop,K' v->purE p vs K':=by
 unfold purE at h
 split at h
 ·split at h
  ·exact⟨_,h.2,fun K' hk=>⟨h.1,hk⟩⟩
  ·exact h.elim
 ·split at h
  ·exact⟨_,h,fun K' hk=>hk⟩
  ·exact h.elim
 all_goals
  split at h
  ·exact⟨_,h.2,fun K' hk=>⟨h.1,hk⟩⟩
  ·exact h.elim
theorem purE_mono{p:PuOp}{vs:List AV}{K K':AV->Prop}(h:purE p vs K)(hk:∀v,K v->K' v):purE p vs K':=by
 obtain⟨v,h1,h2⟩:=purE_out h
 exact h2 _ (hk v h1)
def ldC1(ag:Bool)(n:Nat)(cs:List AV):Option AV:=
 match ag with
 |true=>if n<=cs.length then some (.agg (cs.take n)) else none
 |false=>match cs with
  |v::_=>some v
  | []=>none
structure IdxE(ag:Bool)(n len:Nat)(cs:List AV)(i:Int)(K:AV->Prop):Prop where
 out:∃v,0<=i/\i<len/\ldC1 ag n (cs.drop (i.toNat*n))=some v/\K v
theorem idI{ag:Bool}{n len:Nat}{cs:List AV}{i:Int}{K:AV->Prop}{v:AV}(h0:0<=i)(h1:i<len)(h:ldC1 ag n (cs.drop (i.toNat*n))=some v)(hk:K v):IdxE ag n len cs i K:=⟨v,h0,h1,h,hk⟩
structure SdxE(b:List UInt8)(i:Int)(K:AV->Prop):Prop where
 out:0<=i/\i<b.length/\K (.int .u8 (b.getD i.toNat 0).toNat)
def evX(E:Env)(o:Ixo)(s:St)(k:Eff->Prop):Prop:=
 match o with
 |.mv x=>match s.ev x with
  |some v=>k (.val v)
  |none=>False
 |.pick c a b=>match s.ev c,s.ev a,s.ev b with
  |some (.bool c),some x,some y=>brB c (k (.val x)) (k (.val y))
  |_,_,_=>False
 |.alloc nm zs=>match s.sg.getD nm .dead with
  |.fresh=>k (.new nm (.box false zs) (.own nm 0))
  |_=>False
 |.mks nm el sz bytes zs x y=>match s.sg.getD nm .dead,s.ev x,s.ev y with
  |.fresh,some (.int _ n),some (.int _ m)=>mkE bytes n m (k (.new nm (.row false el sz (List.replicate n.toNat zs)) (.row nm)))
  |_,_,_=>False
 |.box nm ag x=>match s.ev x,s.sg.getD nm .dead with
  |some v, .fresh=>cellsK ag v fun cs=>k (.new nm (.box false cs) (.own nm 0))
  |_,_=>False
 |.build zs ps=>match evBuild s zs ps with
  |some cs=>k (.val (.agg cs))
  |none=>False
 |.load ag n a=>match s.ev a with
  |some (.own i off)=>match s.sg.getD i .dead with
   |.box _ cs=>match ldC ag n (cs.drop off)with
    |some v=>k (.val v)
    |none=>False
   |_=>False
  |some (.elt i sz m j)=>match s.sg.getD i .dead with
   |.row _ _ sz' es=>if sz'=sz then iaE es m fun cs=>match ldC ag n (cs.drop j)with
    |some v=>k (.val v)
    |none=>False
    else False
   |_=>False
  |some (.ipt cs)=>match ldC ag n cs with
   |some v=>k (.val v)
   |none=>False
  |_=>False
 |.store ag n a x ne=>match s.ev a,s.ev x with
  |some (.own i off),some v=>match s.sg.getD i .dead with
   |.box false cs=>cellsK ag v fun vs=>need (vs.all AV.one=true) (if vs.length=n/\off+n<=cs.length/\neOk s i ne=true then k (.set i (.box false (splice cs off vs))) else False)
   |_=>False
  |some (.elt i sz m j),some v=>match s.sg.getD i .dead with
   |.row false el sz' es=>cellsK ag v fun vs=>need (vs.all AV.one=true) (if sz'=sz/\vs.length=n/\AV.puL vs=true/\neOk s i ne=true then
     match AV.frzL s.sg 8 vs with
     |some vs'=>iaE es m fun cs=>if j+n<=cs.length then k (.set i (.row false el sz (es.set m (splice cs j vs')))) else False
     |none=>False
    else False)
   |_=>False
  |_,_=>False
 |.bin op x y=>match s.ev x,s.ev y with
  |some (.int k1 a),some (.int k2 b)=>if (isSh op||decide (k1=k2))=true then evBin op k1 a b (fun v=>k (.val v)) else False
  |_,_=>False
 |.eqb neg x y=>match s.ev x,s.ev y with
  |some (.bool a),some (.bool b)=>k (.val (.bool (if neg then a != b else a==b)))
  |_,_=>False
 |.eqs neg T x y=>match s.ev x,s.ev y with
  |some (.agg as),some (.agg bs)=>match eqV T as bs with
   |some r=>k (.val (.bool (if neg then !r else r)))
   |none=>False
  |_,_=>False
 |.un op x=>match op,s.ev x with
  |.not,some (.bool b)=>k (.val (.bool (!b)))
  |.neg,some (.int kd n)=>wrE kd (0-n) fun c=>k (.val (.int kd c))
  |_,_=>False
 |.conv kd x=>match s.ev x with
  |some (.int _ n)=>wrE kd n fun c=>k (.val (.int kd c))
  |_=>False
 |.faddr off x=>match s.ev x with
  |some (.own i o)=>k (.val (.own i (o+off)))
  |some (.elt i sz m j)=>k (.val (.elt i sz m (j+off)))
  |some (.ipt cs)=>k (.val (.ipt (cs.drop off)))
  |_=>False
 |.field ag n off x=>match s.ev x with
  |some (.agg cs)=>match ldC ag n (cs.drop off)with
   |some v=>k (.val v)
   |none=>False
  |_=>False
 |.iaddr sz x i=>match s.ev x,s.ev i with
  |some (.isl es),some (.int _ i)=>iaE es i fun cs=>if cs.length=sz then k (.val (.ipt cs)) else False
  |some (.row j),some (.int _ i)=>match s.sg.getD j .dead with
   |.row _ _ sz' es=>if sz'=sz then need (0<=i/\i<es.length) (k (.val (.elt j sz i.toNat 0))) else False
   |_=>False
  |some (.cut j szc lo n),some (.int _ i)=>match s.sg.getD j .dead with
   |.row _ _ sz' _=>if sz'=sz/\szc=sz then need (0<=i/\i<n) (k (.val (.elt j sz (lo+i.toNat) 0))) else False
   |_=>False
  |_,_=>False
 |.mkfn f caps=>match s.evl caps with
  |some vs=>k (.val (.fn f vs))
  |none=>False
 |.mkmt f xs=>match s.evl xs with
  |some vs=>match AV.puL vs,AV.frzL s.sg 8 vs with
   |true,some vs'=>k (.val (.mth f vs'))
   |_,_=>False
  |none=>False
 |.extract i x=>match s.ev x with
  |some (.tup vs)=>match vs[i]? with
   |some v=>k (.val v)
   |none=>False
  |_=>False
 |.call f xs=>match s.evl xs with
  |some vs=>CallE E.P s.sg f vs fun r=>k (.val r)
  |none=>False
 |.callv g xs=>match s.ev g,s.evl xs with
  |some g,some vs=>match isYld g with
   |true=>YldE E s.gh vs fun g r=>k (.yl g r)
   |false=>VCallE E.P s.sg g vs fun r=>k (.val r)
  |_,_=>False
 |.len x=>match s.ev x with
  |some (.isl es)=>k (.val (.int .i64 es.length))
  |some .nils=>k (.val (.int .i64 0))
  |some (.row i)=>match s.sg.getD i .dead with
   |.row _ _ _ es=>k (.val (.int .i64 es.length))
   |_=>False
  |some (.cut _ _ _ n)=>k (.val (.int .i64 n))
  |_=>False
 |.slen x=>match s.ev x with
  |some (.str b)=>k (.val (.int .i64 b.length))
  |_=>False
 |.mm mx xs=>match s.evl xs with
  |some (.int kd n::vs)=>match mmV mx kd n vs with
   |some m=>k (.val (.int kd m))
   |none=>False
  |_=>False
 |.sli sz x lo hi=>match s.ev x,boV s lo with
  |some (.isl es),some lo=>match hi with
   |none=>slE sz es lo es.length fun es'=>k (.val (.isl es'))
   |some hi=>match boV s (some hi)with
    |some hi=>slE sz es lo hi fun es'=>k (.val (.isl es'))
    |none=>False
  |some (.row i),some lo=>match s.sg.getD i .dead with
   |.row _ _ sz' es=>if sz'=sz then(match hi with
    |none=>need (0<=lo/\lo<=es.length) (k (.val (.cut i sz lo.toNat (es.length-lo.toNat))))
    |some hi=>match boV s (some hi)with
     |some hi=>need (0<=lo/\lo<=hi/\hi<=es.length) (k (.val (.cut i sz lo.toNat (hi.toNat-lo.toNat))))
     |none=>False) else False
   |_=>False
  |_,_=>False
 |.sl3 sz x hi mx=>match s.ev x,s.ev hi,s.ev mx with
  |some (.isl es),some (.int _ u),some (.int _ m)=>need (m=u) (slE sz es 0 u fun es'=>k (.val (.tsl sz es')))
  |_,_,_=>False
 |.eqn neg x=>match s.ev x with
  |some .nils=>k (.val (.bool (!neg)))
  |some (.isl es)=>need (0<es.length) (k (.val (.bool neg)))
  |some (.lit (.slice (some _) _ _))=>k (.val (.bool neg))
  |_=>False
 |.bsl nm el sz ps ne=>match s.sg.getD nm .dead,s.evl ps with
  |.fresh,some vs=>match rowsO s.sg sz vs,neOkL s vs ne with
   |some (es,z),true=>k (.big (z++[(nm, .row false el sz es)]) (.row nm))
   |_,_=>False
  |_,_=>False
 |.apd nm el sz bytes x y ne=>match s.sg.getD nm .dead,s.ev x,s.ev y with
  |.fresh,some u,some v=>match srcO s.sg el sz u,addO s.sg sz v with
   |some (es,z),some es'=>if (apartV v u&&tslOk u es')=true/\neOkL s [u,v] ne=true then apE sz bytes es es' (k (match apdN u es' with
    |true=>.big [] u
    |false=>.big (z++[(nm, .row false el sz (es++es'))]) (.row nm))) else False
   |_,_=>False
  |_,_,_=>False
 |.callz nm ct f xs ne=>match s.evl xs with
  |some vs=>if neOkL s vs ne=true/\freshN s.sg nm ct=true then CallZ E.P s.sg nm ct f vs fun z r=>k (.big z r) else False
  |none=>False
 |.callx g xs=>match s.ev g,s.evl xs with
  |some g,some vs=>match isYld g with
   |true=>YldZ E s.sg s.gh vs (fun l g r=>k (.ylz l g r))\/YldL E s.sg s.gh vs fun g r=>k (.ylz [] g r)
   |false=>VCallX E.P s.sg g vs (fun z r=>k (.big z r))\/VCallY E s.sg s.gh g vs fun z g r=>k (.ylz z g r)
  |_,_=>False
 |.callw nm ct f xs=>match s.evl xs with
  |some vs=>if freshN s.sg nm ct=true then CallW E.P s.sg nm ct f vs fun z r=>k (.big z r) else False
  |none=>False
 |.aidx ag n len x i=>match s.ev x,s.ev i with
  |some (.agg cs),some (.int _ i)=>IdxE ag n len cs i fun v=>k (.val v)
  |_,_=>False
 |.pur p xs=>match s.evl xs with
  |some vs=>purE p vs fun v=>k (.val v)
  |none=>False
 |.b2s x=>match s.ev x with
  |some (.isl es)=>B2sE es fun v=>k (.val v)
  |some .nils=>k (.val (.str []))
  |some (.row i)=>match s.sg.getD i .dead with
   |.row _ _ _ es=>B2sE es fun v=>k (.val v)
   |_=>False
  |_=>False
 |.sidx x i=>match s.ev x,s.ev i with
  |some (.str b),some (.int _ i)=>SdxE b i fun v=>k (.val v)
  |_,_=>False
 |.nilck x=>match s.ev x with
  |some (.own i o)=>k (.val (.own i o))
  |some (.elt i sz m j)=>k (.val (.elt i sz m j))
  |some (.ipt cs)=>k (.val (.ipt cs))
  |some (.fn f cs)=>k (.val (.fn f cs))
  |_=>False
 |.mkm nm=>match s.sg.getD nm .dead with
  |.fresh=>k (.new nm (.mp false [] []) (.row nm))
  |_=>False
 |.mko nm=>match s.sg.getD nm .dead with
  |.fresh=>k (.new nm (.mpo [] []) (.row nm))
  |_=>False
 |.paddr sz len x i=>match s.ev x,s.ev i with
  |some (.own j off),some (.int _ i)=>need (0<=i/\i<len) (k (.val (.own j (off+i.toNat*sz))))
  |some (.ipt cs),some (.int _ i)=>need (0<=i/\i<len) (k (.val (.ipt (cs.drop (i.toNat*sz)))))
  |_,_=>False
 |.mpu kt m x v ne=>match s.ev m,s.ev x,s.ev v with
  |some (.row i),some kv,some vv=>match s.sg.getD i .dead,AV.reach s.sg vv,AV.frz s.sg 8 vv with
   |.mp false ks us,some z,some v'=>if memN (fstN z) i=false/\neOkL s [.row i,vv] ne=true then MpuE kt ks us kv v' fun ks' us'=>k (.big (z++[(i, .mp false ks' us')]) .gone) else False
   |.mpo ks us,_,_=>if neOkL s [.row i,vv] ne=true then MpuE kt ks us kv vv fun ks' us'=>k (.big [(i, .mpo ks' us')] .gone) else False
   |.mpb ks us bn n,_,_=>if vv.flat=true/\neOkL s [.row i,vv] ne=true then MdlE kt ks us bn n kv vv fun ks' us' bn' n'=>k (.big [(i, .mpb ks' us' bn' n')] .gone) else False
   |_,_,_=>False
  |_,_,_=>False
 |.mrg nm m ne=>match s.sg.getD nm .dead,s.ev m with
  |.fresh,some v=>match AV.reach s.sg v,AV.frz s.sg 8 v with
   |some z,some (.imp ks us)=>if neOkL s [v] ne=true then k (.big (z++[(nm, .itr ks us [] [])]) (.row nm)) else False
   |_,_=>False
  |_,_=>False
 |.mnx x=>match s.ev x with
  |some (.row i)=>match s.sg.getD i .dead with
   |.itr ks us seen _=>NxE ks us seen (fun j kv uv=>k (.big [(i, .itr ks us (seen++[j]) [kv,uv])] (.tup [.bool true,kv,uv]))) (k (.val (.tup [.bool false])))
   |_=>False
  |_=>False
 |.mrx nm m=>match s.sg.getD nm .dead,s.ev m with
  |.fresh,some v=>MrgE (mrgK s nm v k) (match v with
   |.row i=>match s.sg.getD i .dead with
    |.mp false ks us=>∀bn n,BnOk ks us bn n->k (.big [(i, .mpb ks us bn n),(nm, .itd [.row i] n [])] (.row nm))
    |.mpb ks us bn n=>k (.big [(nm, .itd [.row i] n [])] (.row nm))
    |_=>False
   |_=>False)
  |_,_=>False
 |.mkx nm=>match s.sg.getD nm .dead with
  |.fresh=>MrgE (k (.new nm (.mp false [] []) (.row nm))) (k (.new nm (.mpb [] [] [] 0) (.row nm)))
  |_=>False
 |.mpe kt z m x ne=>match s.ev m,s.ev x with
  |some (.row i),some kv=>match s.sg.getD i .dead with
   |.mpb ks us bn n=>if neOkL s [.row i] ne=true then MpeE kt ks us bn n kv z fun v b ks' us' bn' n'=>k (.big [(i, .mpb ks' us' bn' n')] (.tup [v, .int .i64 b])) else False
   |_=>False
  |_,_=>False
 |.mes m st v ne=>match s.ev m,s.ev st,s.ev v with
  |some (.row i),some (.int _ b),some vv=>match s.sg.getD i .dead with
   |.mpb ks us bn n=>if vv.flat=true/\neOkL s [.row i] ne=true then MesE us bn b vv fun us'=>k (.big [(i, .mpb ks us' bn n)] .gone) else False
   |_=>False
  |_,_,_=>False
 |.mez x=>match s.ev x with
  |some (.row i)=>match s.sg.getD i .dead with
   |.itr _ _ _ [kv,uv]=>k (.val (.tup [kv,uv]))
   |.itd [.row m] n mem=>match s.sg.getD m .dead with
    |.mpb ks us bn n'=>EntD ks us bn n n' mem fun kv uv=>k (.val (.tup [kv,uv]))
    |_=>False
   |_=>False
  |_=>False
 |.mnz x=>match s.ev x with
  |some (.row i)=>match s.sg.getD i .dead with
   |.itr ks us seen _=>NxE ks us seen (fun j kv uv=>k (.big [(i, .itr ks us (seen++[j]) [kv,uv])] (.tup [.bool true,kv,uv]))) (k (.val (.tup [.bool false])))
   |.itd [.row m] n mem=>match s.sg.getD m .dead with
    |.mpb ks us bn n'=>NxD ks us bn n n' mem (fun b kv uv=>k (.big [(i, .itd [.row m] n (mem++[b]))] (.tup [.bool true,kv,uv]))) (k (.big [(m, .mp false ks us)] (.tup [.bool false])))
    |_=>False
   |_=>False
  |_=>False
 |.srg nm x=>match s.sg.getD nm .dead,s.ev x with
  |.fresh,some (.str f)=>k (.new nm (.sit f 0) (.row nm))
  |_,_=>False
 |.snx x=>match s.ev x with
  |some (.row i)=>match s.sg.getD i .dead with
   |.sit f pos=>SnE f pos (fun c w=>k (.big [(i, .sit f (pos+w))] (.tup [.bool true, .int .i64 pos, .int .i32 c]))) (k (.val (.tup [.bool false])))
   |_=>False
  |_=>False
 |.men x=>match s.ev x with
  |some (.row i)=>match s.sg.getD i .dead with
   |.itr _ _ _ [kv,uv]=>k (.val (.tup [kv,uv]))
   |_=>False
  |_=>False
 |.lkp kt ok z m x=>match s.ev m,s.ev x with
  |some (.imp ks us),some kv=>LkE kt ks us kv fun r=>k (.val (lkR ok z r))
  |some (.row i),some kv=>match s.sg.getD i .dead with
   |.mp _ ks us=>LkE kt ks us kv fun r=>k (.val (lkR ok z r))
   |.mpo ks us=>LkE kt ks us kv fun r=>k (.val (lkR ok z r))
   |.mpb ks us _ _=>LkE kt ks us kv fun r=>k (.val (lkR ok z r))
   |_=>False
  |_,_=>False
 |.stz ag n a x ne=>match s.ev a,s.ev x with
  |some (.own i off),some v=>match s.sg.getD i .dead with
   |.box false cs=>if neOkL s [.own i off,v] ne=true then cellsK ag v fun vs=>need (vs.all AV.one=true) (if vs.length=n/\off+n<=cs.length then k (.set i (.box false (splice cs off vs))) else False) else False
   |_=>False
  |some (.elt i sz m j),some v=>match s.sg.getD i .dead,AV.reach s.sg v,AV.frz s.sg 8 v with
   |.row false el sz' es,some z,some v'=>if neOkL s [.elt i sz m j,v] ne=true/\memN (fstN z) i=false/\sz'=sz then cellsK ag v' fun vs'=>need (vs'.all AV.one=true) (if vs'.length=n then
     iaE es m fun cs=>if j+n<=cs.length then k (.big (z++[(i, .row false el sz (es.set m (splice cs j vs')))]) .gone) else False
    else False) else False
   |_,_,_=>False
  |_,_=>False
 |.mlen x=>match s.ev x with
  |some (.imp ks _)=>k (.val (.int .i64 ks.length))
  |some (.row i)=>match s.sg.getD i .dead with
   |.mp _ ks _=>k (.val (.int .i64 ks.length))
   |_=>False
  |_=>False
where
 mrgK (s:St) (nm:Nat) (v:AV) (k:Eff->Prop):Prop:=
  match AV.reach s.sg v,AV.frz s.sg 8 v with
  |some z,some (.imp ks us)=>k (.big (z++[(nm, .itr ks us [] [])]) (.row nm))
  |_,_=>False
 ldC (ag:Bool) (n:Nat) (cs:List AV):Option AV:=
  match ag with
  |true=>if n<=cs.length then some (.agg (cs.take n)) else none
  |false=>match cs with
   |v::_=>some v
   | []=>none
 evBuild (s:St):List AV->List (Nat × Nat × Opd)->Option (List AV)
  |cs,[]=>some cs
  |cs,(off,n,x)::r=>match s.ev x with
   |some (.agg vs)=>if vs.length=n/\off+n<=cs.length then evBuild s (splice cs off vs) r else none
   |some v=>if n=1/\v.one=true/\off+1<=cs.length then evBuild s (splice cs off [v]) r else none
   |none=>none
def evO(E:Env)(d:Option Nat)(o:Ixo)(s:St)(k:St->Prop):Prop:=evX E o s fun e=>k (app d s e)
def evs(E:Env):List IOp->St->(St->Prop)->Prop
 | [],s,k=>k s
 |o::os,s,k=>match o.g with
  |none=>evO E o.d o.o s fun s'=>evs E os s' k
  |some (j,want)=>match look s.tm j with
   |some (.bool b)=>brB b
    (match want with
     |true=>evO E o.d o.o { s with tm:=(j, .bool true)::s.tm } fun s'=>evs E os s' k
     |false=>evs E os (St.put { s with tm:=(j, .bool true)::s.tm } o.d (.tup [])) k)
    (match want with
     |false=>evO E o.d o.o { s with tm:=(j, .bool false)::s.tm } fun s'=>evs E os s' k
     |true=>evs E os (St.put { s with tm:=(j, .bool false)::s.tm } o.d (.tup [])) k)
   |some (.tup [])=>evs E os (s.put o.d (.tup [])) k
   |_=>False
theorem RVs.length{C:Ctx}:∀ {as:List AV} {vs:List Value},RVs C as vs->vs.length=as.length
 | [],vs,h=>by simp only[RVs]at h;simp[h]
 |a::as,vs,h=>by simp only[RVs]at h;obtain⟨v,vs',rfl,_,h⟩:=h;simp[RVs.length h]
theorem RV0s.length{imm:Nat->Prop}{w:World}:∀ {as:List AV} {vs:List Value},RV0s imm w as vs->vs.length=as.length
 | [],vs,h=>by simp only[RV0s]at h;simp[h]
 |a::as,vs,h=>by simp only[RV0s]at h;obtain⟨v,vs',rfl,_,h⟩:=h;simp[RV0s.length h]
theorem RVs.get{C:Ctx}:∀ {as:List AV} {vs:List Value},RVs C as vs->∀ {i:Nat} {x:AV},as[i]?=some x->∃v,vs[i]?=some v/\RV C x v
 | [],vs,_,i,x,hx=>by simp at hx
 |a::as,vs,h,i,x,hx=>by
  simp only[RVs]at h;obtain⟨v,vs',rfl,h1,h2⟩:=h
  cases i with
  |zero=>simp at hx;subst hx;exact⟨v,by simp,h1⟩
  |succ i=>simp at hx;simpa using RVs.get h2 hx
theorem RVs.drop{C:Ctx}:∀(n:Nat) {as:List AV} {vs:List Value},RVs C as vs->RVs C (as.drop n) (vs.drop n)
 |0,_,_,h=>by simpa using h
 |n+1,[],vs,h=>by simp only[RVs]at h;subst h;simp[RVs]
 |n+1,a::as,vs,h=>by simp only[RVs]at h;obtain⟨v,vs',rfl,_,h2⟩:=h;simpa using RVs.drop n h2
theorem RVs.take{C:Ctx}:∀(n:Nat) {as:List AV} {vs:List Value},RVs C as vs->RVs C (as.take n) (vs.take n)
 |0,_,_,_=>by simp[RVs]
 |n+1,[],vs,h=>by simp only[RVs]at h;subst h;simp[RVs]
 |n+1,a::as,vs,h=>by
  simp only[RVs]at h;obtain⟨v,vs',rfl,h1,h2⟩:=h
  simp only[List.take_succ_cons,RVs];exact⟨v,_,rfl,h1,RVs.take n h2⟩
theorem RVs.append{C:Ctx}:∀ {as bs:List AV} {vs us:List Value},RVs C as vs->RVs C bs us->RVs C (as++bs) (vs++us)
 | [],bs,vs,us,h,k=>by simp only[RVs]at h;subst h;simpa using k
 |a::as,bs,vs,us,h,k=>by
  simp only[RVs]at h;obtain⟨v,vs',rfl,h1,h2⟩:=h
  simp only[List.cons_append,RVs];exact⟨v,_,rfl,h1,RVs.append h2 k⟩
theorem RV0s.append{imm:Nat->Prop}{w:World}:∀ {as bs:List AV} {vs us:List Value},RV0s imm w as vs->RV0s imm w bs us->RV0s imm w (as++bs) (vs++us)
 | [],bs,vs,us,h,k=>by simp only[RV0s]at h;subst h;simpa using k
 |a::as,bs,vs,us,h,k=>by
  simp only[RV0s]at h;obtain⟨v,vs',rfl,h1,h2⟩:=h
  simp only[List.cons_append,RV0s];exact⟨v,_,rfl,h1,RV0s.append h2 k⟩
theorem splice_eq:∀(cs:List AV) (n:Nat) (vs:List AV),n<=cs.length->splice cs n vs=cs.take n++vs++cs.drop (n+vs.length)
 |cs,0,vs,_=>by simp[splice]
 | [],n+1,vs,h=>by simp at h
 |c::cs,n+1,vs,h=>by
  simp only[List.length_cons]at h
  simp only[splice,splice_eq cs n vs (by omega),List.take_succ_cons,List.cons_append]
  congr 2
  rw[show n+1+vs.length=(n+vs.length)+1 from by omega,List.drop_succ_cons]
theorem RVs.splice{C:Ctx}{cs vs:List AV}{xs us:List Value}(h:RVs C cs xs)(k:RVs C vs us){n:Nat}(hn:n<=cs.length):RVs C (splice cs n vs) (xs.take n++us++xs.drop (n+us.length)):=by
 rw[splice_eq cs n vs hn,k.length]
 exact((h.take n).append k).append (h.drop _)
theorem RV0s.drop{imm:Nat->Prop}{w:World}:∀(n:Nat) {as:List AV} {vs:List Value},RV0s imm w as vs->RV0s imm w (as.drop n) (vs.drop n)
 |0,_,_,h=>by simpa using h
 |n+1,[],vs,h=>by simp only[RV0s]at h;subst h;simp[RV0s]
 |n+1,a::as,vs,h=>by simp only[RV0s]at h;obtain⟨v,vs',rfl,_,h2⟩:=h;simpa using RV0s.drop n h2
theorem RV0s.take{imm:Nat->Prop}{w:World}:∀(n:Nat) {as:List AV} {vs:List Value},RV0s imm w as vs->RV0s imm w (as.take n) (vs.take n)
 |0,_,_,_=>by simp[RV0s]
 |n+1,[],vs,h=>by simp only[RV0s]at h;subst h;simp[RV0s]
 |n+1,a::as,vs,h=>by
  simp only[RV0s]at h;obtain⟨v,vs',rfl,h1,h2⟩:=h
  simp only[List.take_succ_cons,RV0s];exact⟨v,_,rfl,h1,RV0s.take n h2⟩
theorem RV0s.splice{imm:Nat->Prop}{w:World}{cs vs:List AV}{xs us:List Value}(h:RV0s imm w cs xs)(k:RV0s imm w vs us){n:Nat}(hn:n<=cs.length):RV0s imm w (Go.Eng.splice cs n vs) (xs.take n++us++xs.drop (n+us.length)):=by
 rw[splice_eq cs n vs hn,k.length]
 exact((h.take n).append k).append (h.drop _)
theorem flatten_set:∀ {es:List (List AV)} {sz m j:Nat} {e vs:List AV},(∀e∈es,e.length=sz)->es[m]?=some e->j+vs.length<=sz->(es.set m (splice e j vs)).flatten=splice es.flatten (m*sz+j) vs
 | [],sz,m,j,e,vs,_,he,_=>by simp at he
 |x::es,sz,0,j,e,vs,hl,he,hj=>by
  simp at he;subst he
  have hx:=hl x (by simp)
  simp only[List.set_cons_zero,List.flatten_cons,Nat.zero_mul,Nat.zero_add]
  rw[splice_eq _ _ _ (by omega),splice_eq _ _ _ (by simp;omega)]
  rw[List.take_append_of_le_length (by omega),List.drop_append_of_le_length (by omega)]
  simp[List.append_assoc]
 |x::es,sz,m+1,j,e,vs,hl,he,hj=>by
  simp at he
  have hx:=hl x (by simp)
  have ih:=flatten_set (fun y hy=>hl y (by simp[hy])) he hj
  have hlen:m*sz+j<=es.flatten.length:=by
   have h1:es.flatten.length=es.length*sz:=by
    have:∀(l:List (List AV)),(∀e∈l,e.length=sz)->l.flatten.length=l.length*sz:=by
     intro l;induction l with
     |nil=>intro _;simp
     |cons y l ih=>intro hy;simp only[List.flatten_cons,List.length_append,List.length_cons,hy y (by simp),ih (fun z hz=>hy z (by simp[hz])),Nat.add_mul];omega
    exact this es fun y hy=>hl y (by simp[hy])
   have h2:=(List.getElem?_eq_some_iff.1 he).1
   have h3:(m+1)*sz<=es.length*sz:=Nat.mul_le_mul_right _ h2
   rw[Nat.add_mul]at h3;omega
  simp only[List.set_cons_succ,List.flatten_cons,ih]
  have h4:(m+1)*sz+j=x.length+(m*sz+j):=by rw[hx,Nat.add_mul];omega
  rw[splice_eq _ _ _ hlen,splice_eq _ _ _ (by rw[List.length_append];omega),h4]
  rw[List.take_length_add_append,Nat.add_assoc x.length,List.drop_length_add_append]
  simp[List.append_assoc]
theorem RV.one{X:Sess}{C:Ctx}{s:St}{a:Act}(h:Rel X C s a):∀ {v:AV} {x:Value},v.one=true->RV C v x->x.oneCell'=true
 |.bool _,_,_,hv=>by simp only[RV]at hv;subst hv;rfl
 |.int _ _,_,_,hv=>by simp only[RV]at hv;subst hv;rfl
 |.str _,_,_,hv=>by simp only[RV]at hv;subst hv;rfl
 |.lit x,y,h1,hv=>by
  simp only[RV]at hv;rw[hv];cases x<;>first|rfl|cases h1
 |.fn _ _,_,_,hv=>by simp only[RV]at hv;obtain⟨_,rfl,_⟩:=hv;rfl
 |.isl _,_,_,hv=>by
  simp only[RV,RV0]at hv
  rcases hv with⟨⟨_,rfl⟩,_⟩|⟨_,_,_,_,rfl,_⟩<;>rfl
 |.nils,_,_,hv=>by simp only[RV]at hv;subst hv;rfl
 |.ipt _,_,_,hv=>by simp only[RV,RV0]at hv;obtain⟨_,_,rfl,_⟩:=hv;rfl
 |.imp _ _,_,_,hv=>by simp only[RV,RV0]at hv;obtain⟨_,_,_,rfl,_⟩:=hv;rfl
 |.any,_,_,hv=>by simpa only[RV]using hv
 |.mth _ _,_,_,hv=>by simp only[RV,RV0]at hv;obtain⟨_,rfl,_⟩:=hv;rfl
 |.tsl _ _,_,_,hv=>by
  simp only[RV,RV0]at hv
  rcases hv with⟨⟨_,rfl⟩,_⟩|⟨_,_,rfl,_⟩<;>rfl
 |.own _ _,_,_,hv=>by simp only[RV]at hv;obtain⟨_,_,rfl⟩:=hv;rfl
 |.elt _ _ _ _,_,_,hv=>by simp only[RV]at hv;obtain⟨_,_,rfl⟩:=hv;rfl
 |.cut _ _ _ _,_,_,hv=>by simp only[RV]at hv;obtain⟨_,_,_,_,_,_,_,_,rfl⟩:=hv;rfl
 |.row i,_,_,hv=>by
  simp only[RV]at hv;obtain⟨o,ho,rfl⟩:=hv
  have:=h.sg i
  rw[ho]at this
  cases hr:s.sg.getD i .fresh with
  |fresh=>rw[hr]at this;cases this
  |dead=>rw[hr]at this;exact this o rfl
  |box ice cs=>rw[hr]at this;obtain⟨b,_,_,h1,_⟩:=this;cases h1;rfl
  |row ice el sz es=>
   rw[hr]at this;obtain⟨b,v,xs,h1,h2,_⟩:=this;cases h1
   rcases h2.2 with⟨h3,_⟩|⟨g,cap,cur,h3,_⟩<;>(show v.oneCell'=true;rw[h3];rfl)
  |mp ice ks us=>rw[hr]at this;obtain⟨b,_,_,h1,_⟩:=this;cases h1;rfl
  |mpo ks us=>rw[hr]at this;obtain⟨b,_,_,h1,_⟩:=this;cases h1;rfl
  |itr ks us seen last=>rw[hr]at this;obtain⟨b,_,_,_,h1,_⟩:=this;cases h1;rfl
  |sit f pos=>rw[hr]at this;obtain⟨b,h1,_⟩:=this;cases h1;rfl
  |mpb ks us bn n=>rw[hr]at this;obtain⟨b,_,h1,_⟩:=this;cases h1;rfl
  |itd c n mem=>rw[hr]at this;obtain⟨b,_,h1,_⟩:=this;cases h1;rfl
 |.yld,_,_,hv=>by simp only[RV]at hv;subst hv;rfl
 |.agg _,_,h1,_=>by cases h1
 |.tup _,_,h1,_=>by cases h1
 |.gone,_,h1,_=>by cases h1
theorem RVs.ones{X:Sess}{C:Ctx}{s:St}{a:Act}(h:Rel X C s a):∀ {vs:List AV} {xs:List Value},vs.all AV.one=true->RVs C vs xs->∀x∈xs,x.oneCell'=true
 | [],xs,_,hv,x,hx=>by simp only[RVs]at hv;subst hv;cases hx
 |v::vs,xs,h1,hv,x,hx=>by
  simp only[RVs]at hv;obtain⟨y,ys,rfl,k1,k2⟩:=hv
  simp only[List.all_cons,Bool.and_eq_true]at h1
  cases hx with
  |head=>exact RV.one h h1.1 k1
  |tail _ hx=>exact RVs.ones h h1.2 k2 x hx
theorem cells_one{x:Value}(h:x.oneCell'=true):x.cells = #[x]:=by cases x<;>first|rfl|cases h
theorem cv1_ok{C:Ctx}(v:Value)(h:v.oneCell'=true):RV C (cv1 v) v:=by
 unfold cv1
 split<;>simp[RV,RV0]
theorem cv_map{C:Ctx}:∀(cs:List Value),(∀c∈cs,c.oneCell'=true)->RVs C (cs.map cv1) cs
 | [],_=>by simp[RVs]
 |c::cs,h=>by
  simp only[List.map_cons,RVs]
  exact⟨c,cs,rfl,cv1_ok c (h c (by simp)),cv_map cs (fun x hx=>h x (by simp[hx]))⟩
theorem cv_ok{C:Ctx}(v:Value):RV C (cv v) v:=by
 cases v with
 |agg cs=>
  simp only[cv]
  split
  ·rename_i h
   simp only[RV]
   exact⟨cs.toList,by simp,cv_map _ (List.all_eq_true.1 h)⟩
  ·simp[RV]
 |tuple vs=>
  simp only[cv]
  split
  ·rename_i h
   have:vs = #[]:=by simpa using h
   subst this
   simp[RV,RVs]
  ·simp[RV]
 |slice a n c=>cases a<;>cases n<;>cases c<;>simp[cv,cv1,RV,RV0]
 |_=>simp[cv,cv1,RV]
theorem ev_ok{X:Sess}{C:Ctx}{s:St}{a:Act}(h:Rel X C s a){o:Operand}{p:Opd}(hp:opd o=some p){v:AV}(hv:s.ev p=some v):RV C v (a.eval o):=by
 cases o with
 |tmp t=>
  simp only[opd,Option.some.injEq]at hp;subst hp
  exact h.tm t v hv
 |const x=>
  simp only[opd,Option.some.injEq]at hp;subst hp
  simp only[St.ev,Option.some.injEq]at hv;subst hv
  exact cv_ok x
 |global g=>simp[opd]at hp
 |func f=>
  simp only[opd,Option.some.injEq]at hp;subst hp
  simp only[St.ev,Option.some.injEq]at hv;subst hv
  simp[RV,RVs,Act.eval]
theorem evl_ok{X:Sess}{C:Ctx}{s:St}{a:Act}(h:Rel X C s a):∀ {os:List Operand} {ps:List Opd},opds os=some ps->∀ {vs:List AV},s.evl ps=some vs->RVs C vs (os.map a.eval)
 | [],ps,hp,vs,hv=>by
  simp only[opds,Option.some.injEq]at hp;subst hp
  simp only[St.evl,Option.some.injEq]at hv;subst hv
  simp[RVs]
 |o::os,ps,hp,vs,hv=>by
  simp only[opds]at hp
  split at hp
  ·rename_i p ps' h1 h2
   simp only[Option.some.injEq]at hp;subst hp
   simp only[St.evl]at hv
   split at hv
   ·rename_i v vs' h3 h4
    simp only[Option.some.injEq]at hv;subst hv
    simp only[List.map_cons,RVs]
    exact⟨_,_,rfl,ev_ok h h1 h3,evl_ok h h2 h4⟩
   ·cases hv
  ·cases hp
structure Reach(lo:Nat)(S:Nat->Prop)(w w':World):Prop where
 os:w'.os=w.os
 tape:w'.tape=w.tape
 output:w'.output=w.output
 size:w.heap.size<=w'.heap.size
 same:∀b,b<w.heap.size->(b<lo\/S b)->w'.heap[b]?=w.heap[b]?
structure SessOk(X:Sess)(E:Env):Prop where
 fn:∀f,X.F.fn f
 wide:X.F=Fence.wide\/∃l,X.F=Fence.wide.inRound l
 kgrow:∀T S k st w w',X.Keep T S k st w->Below w.heap.size w w'->X.Keep (newB w w' T) S k st w'
 kset:∀T S k st w w' b,X.Keep T S k st w->T b->¬X.imm0 b->¬S.h b->OneB b w w'->X.Keep T S k st w'
 kobj:∀T S k st w b r r',X.Keep T S k st w->T b->X.lo<=b->¬S.h b->w.heap[b]?=some (.loop r)->X.Keep T S k st (w.putObj b (.loop r'))
 kreach:∀T S k st w w',X.Keep T S k st w->(∀b,T b->b<w.heap.size)->Reach X.lo (fun b=>T b\/S.s b\/S.h b) w w'->X.Keep T S k st w'
 kadd:∀T S k st w (Q:Nat->Prop),X.Keep T S k st w->(∀b,Q b->X.lo<=b/\b<w.heap.size/\¬S.s b)->X.Keep (fun b=>T b\/Q b) S k st w
 klo:∀T S k st w,X.Keep T S k st w->X.lo<=w.heap.size
 kS:∀T S k st w,X.Keep T S k st w->(∀b,S.s b->b<w.heap.size/\¬T b)/\∀b,S.h b->b<w.heap.size
 kyield:∀T S k k' w vs xs (Q:Nat->Prop),X.Keep T S k false w->(∀b,T b->b<w.heap.size)->(∀b,S.h b->Q b)->(∀b,Q b->(X.imm0 b\/T b)/\Mem w b)->E.nx k vs k'->RV0s Q w vs xs ->
  YieldAt Fence.wide (X.n-1) X.P X.l xs.toArray w fun e w'=>∃b S',e = .returned (.bool b)/\X.Keep T S' k' (!b) w'/\StepR (fun b=>X.imm0 b\/T b) Q S S' w w'
 kdrop:∀T S k st w (Q:Nat->Prop),X.Keep T S k st w->(∀b,Q b->X.lo<=b)->X.Keep (fun b=>T b/\¬Q b) S k st w
 klend:∀T S k k' w el sz es v xs,X.Keep T S k false w->(∀b,T b->b<w.heap.size)->E.lx k el sz es k'->AV.flatL es.flatten=true->w.ownsRow 0 el sz v es.length xs->RV0s (fun _=>False) w es.flatten xs->(∀e∈es,e.length=sz) ->
  (∀b,v.ownBlock=some b->T b/\¬X.imm0 b/\¬S.h b) ->
  YieldAt Fence.wide (X.n-1) X.P X.l #[v] w fun e w'=>∃b S' xs',e = .returned (.bool b)/\X.Keep T S' k' (!b) w'/\StepL (fun b=>X.imm0 b\/T b) v.ownBlock S S' w w'/\w'.ownsRow 0 el sz v es.length xs'/\RV0s (fun _=>False) w' es.flatten xs'
 P:X.P=E.P
 N:X.N=E.N
def Nx(X:Sess)(k:St->Prop)(next:Act->World->Prop):Prop:=∀C s a,Rel X C s a->k s->next a C.w
section
variable {X:Sess} {E:Env} (hX:SessOk X E) {o:Oper} {C:Ctx} {s:St} {a:Act} {next:Act->World->Prop} {Q:Exit->Act->World->Prop}
theorem up_value(hX:SessOk X E){v:Value}{w':World}(hop:∀c,o.op ≠ .defer c)(hr:(execOp a.eval o).run X.P C.w = .ok (.value v) w')(hn:next (a.put o.dst v) w') :
  o.wpIn X.F X.n X.P a C.w next Q:=by
 refine⟨fun f _=>hX.fn f,?_⟩
 rw[Oper.semAt_eq X.F.round a.eval o hop,hr]
 exact hn
theorem up_skip(hX:SessOk X E){w':World}(hop:∀c,o.op ≠ .defer c)(hr:(execOp a.eval o).run X.P C.w = .ok .skip w')(hn:next (a.put o.dst undef) w') :
  o.wpIn X.F X.n X.P a C.w next Q:=by
 refine⟨fun f _=>hX.fn f,?_⟩
 rw[Oper.semAt_eq X.F.round a.eval o hop,hr]
 exact hn
theorem up_pure(hX:SessOk X E){k:St->Prop}(hk:Nx X k next)(h:Rel X C s a)(hd:∀i,o.dst=some i->i<X.N){v:AV}{x:Value}(hop:∀c,o.op ≠ .defer c)
  (hr:(execOp a.eval o).run X.P C.w = .ok (.value x) C.w) (hv:RV C v x) (h1:k (s.put o.dst v)):o.wpIn X.F X.n X.P a C.w next Q:=
 up_value hX hop hr (hk C _ _ (h.put hv o.dst hd) h1)
theorem ld_own{ag:Bool}{n b off:Nat}{vs:List Value}{cs:List AV}{v:AV}{t:TypeId}{P:Program}{w:World}
  (hag:aggOf P t=some ag) (hsz:szOf P t=some n)
  (hh:∀j u,(vs.drop off)[j]?=some u->w.cell? ⟨b,off+j,none⟩=some u) (hv:RVs C (cs.drop off) (vs.drop off)) (hl:evX.ldC ag n (cs.drop off)=some v) :
  ∃x,(loadVar t ⟨b,off,none⟩).run P w = .ok x w/\RV C v x:=by
 have hadd:∀j,(⟨b,off,none⟩:Addr).add j=⟨b,off+j,none⟩:=fun j=>by unfold Addr.add;split<;>simp_all
 have hi:(isAgg t).run P w = .ok ag w:=by
  simp only[aggOf]at hag
  split at hag<;>first|(cases hag;done)|skip
  all_goals
   rename_i h1
   cases hag
   simp[isAgg,run_underlying h1]
 have hs:(sizeOf t).run P w = .ok n w:=by
  simp only[szOf,Option.map_eq_some_iff]at hsz
  obtain⟨i,h1,rfl⟩:=hsz
  simp[sizeOf,typeInfo,h1]
 cases ag with
 |true=>
  simp only[evX.ldC]at hl
  split at hl
  ·rename_i hn
   cases hl
   have hlen:((vs.drop off).take n).length=n:=by rw[List.length_take,hv.length];omega
   refine⟨.agg ((vs.drop off).take n).toArray,?_,?_⟩
   ·have:=run_loadCells_list (P:=P) w ⟨b,off,none⟩ ((vs.drop off).take n) (fun j u hu=>by
     rw[hadd];refine hh j u ?_
     rw[List.getElem?_take]at hu
     split at hu
     ·exact hu
     ·cases hu)
    rw[hlen]at this
    simp[loadVar,hi,hs,this]
   ·simp only[RV]
    exact⟨_,rfl,hv.take n⟩
  ·cases hl
 |false=>
  simp only[evX.ldC]at hl
  split at hl
  ·rename_i u us hc
   cases hl
   rw[hc]at hv
   simp only[RVs]at hv
   obtain⟨x,xs,h1,h2,_⟩:=hv
   refine⟨x,?_,h2⟩
   have:=hh 0 x (by rw[h1];rfl)
   simp only[Nat.add_zero]at this
   simp[loadVar,hi,load,Sem.run,this]
  ·cases hl
theorem RV0c.list{imm:Nat->Prop}{w:World}{b:Nat}:∀ {off:Nat} {cs:List AV},RV0c imm w b off cs->∃vs,RV0s imm w cs vs/\∀j u,vs[j]?=some u->w.cell? ⟨b,off+j,none⟩=some u
 |off,[],_=>⟨[],by simp[RV0s],by simp⟩
 |off,c::cs,h=>by
  simp only[RV0c]at h
  obtain⟨⟨u,hu,h1⟩,h2⟩:=h
  obtain⟨vs,h3,h4⟩:=RV0c.list h2
  refine⟨u::vs,by simp only[RV0s];exact⟨u,vs,rfl,h1,h3⟩,fun j x hx=>?_⟩
  cases j with
  |zero=>simp at hx;subst hx;simpa using hu
  |succ j=>simp at hx;have:=h4 j x hx;rwa [show off+1+j=off+(j+1) from by omega]at this
theorem RV0c.drop{imm:Nat->Prop}{w:World}{b:Nat}:∀(n:Nat) {off:Nat} {cs:List AV},RV0c imm w b off cs->RV0c imm w b (off+n) (cs.drop n)
 |0,_,_,h=>by simpa using h
 |n+1,off,[],_=>by simp[RV0c]
 |n+1,off,c::cs,h=>by
  simp only[RV0c]at h
  have:=RV0c.drop n h.2
  rwa [show off+1+n=off+(n+1) from by omega]at this
theorem RV0r.get{imm:Nat->Prop}{w:World}{b sz:Nat}:∀ {off:Nat} {es:List (List AV)},RV0r imm w b sz off es->∀ {i:Nat} {e:List AV},es[i]?=some e->RV0c imm w b (off+i*sz) e
 |off,[],_,i,e,hi=>by simp at hi
 |off,x::es,h,i,e,hi=>by
  simp only[RV0r]at h
  cases i with
  |zero=>simp at hi;subst hi;simpa using h.2.1
  |succ i=>
   simp at hi
   have:=RV0r.get h.2.2 hi
   rwa [show off+sz+i*sz=off+(i+1)*sz from by rw[Nat.succ_mul];omega]at this
theorem RV0r.len{imm:Nat->Prop}{w:World}{b sz:Nat}:∀ {off:Nat} {es:List (List AV)},RV0r imm w b sz off es->∀ {i:Nat} {e:List AV},es[i]?=some e->e.length=sz
 |off,[],_,i,e,hi=>by simp at hi
 |off,x::es,h,i,e,hi=>by
  simp only[RV0r]at h
  cases i with
  |zero=>simp at hi;subst hi;exact h.1
  |succ i=>simp at hi;exact RV0r.len h.2.2 hi
theorem RV0c.of_list{imm:Nat->Prop}{w:World}{b:Nat}:∀ {off:Nat} {cs:List AV} {vs:List Value},RV0s imm w cs vs->(∀j u,vs[j]?=some u->w.cell? ⟨b,off+j,none⟩=some u)->RV0c imm w b off cs
 |off,[],vs,_,_=>by simp[RV0c]
 |off,c::cs,vs,hv,hc=>by
  simp only[RV0s]at hv;obtain⟨v,vs',rfl,h1,h2⟩:=hv
  simp only[RV0c]
  exact⟨⟨v,by simpa using hc 0 v rfl,h1⟩,RV0c.of_list h2 fun j u hu=>by have:=hc (j+1) u (by simpa using hu);rwa [show off+(j+1)=off+1+j from by omega]at this⟩
theorem RV0c.append{imm:Nat->Prop}{w:World}{b:Nat}:∀ {off:Nat} {cs ds:List AV},RV0c imm w b off (cs++ds)->RV0c imm w b off cs/\RV0c imm w b (off+cs.length) ds
 |off,[],ds,hc=>by simpa[RV0c]using hc
 |off,c::cs,ds,hc=>by
  simp only[List.cons_append,RV0c]at hc
  obtain⟨h1,h2⟩:=RV0c.append hc.2
  simp only[RV0c,List.length_cons]
  exact⟨⟨hc.1,h1⟩,by rwa [show off+(cs.length+1)=off+1+cs.length from by omega]⟩
theorem RV0c.join{imm:Nat->Prop}{w:World}{b:Nat}:∀ {off:Nat} {cs ds:List AV},RV0c imm w b off cs->RV0c imm w b (off+cs.length) ds->RV0c imm w b off (cs++ds)
 |off,[],ds,_,h=>by simpa using h
 |off,c::cs,ds,h,k=>by
  simp only[RV0c,List.cons_append]at h⊢
  exact⟨h.1,RV0c.join h.2 (by rwa [show off+1+cs.length=off+(c::cs).length from by simp;omega])⟩
theorem RV0r.of_flat{imm:Nat->Prop}{w:World}{b sz:Nat}:∀ {off:Nat} {es:List (List AV)},(∀e∈es,e.length=sz)->RV0c imm w b off es.flatten->RV0r imm w b sz off es
 |off,[],_,_=>by simp[RV0r]
 |off,e::es,hl,hc=>by
  simp only[List.flatten_cons]at hc
  obtain⟨h1,h2⟩:=RV0c.append hc
  have he:=hl e (by simp)
  rw[he]at h2
  simp only[RV0r]
  exact⟨he,h1,RV0r.of_flat (fun x hx=>hl x (by simp[hx])) h2⟩
theorem row_elt{imm:Nat->Prop}{w:World}{el:TypeId}{sz:Nat}{v:Value}{es:List (List AV)}{xs:List Value}(ho:w.ownsRow 0 el sz v es.length xs)(hx:RV0s imm w es.flatten xs)(hl:∀e∈es,e.length=sz)
  {m:Nat} {e:List AV} (hm:es[m]?=some e):∃g,v.ownBlock=some g/\RV0c imm w g (m*sz) e:=by
 rcases ho.2 with⟨rfl,h0⟩|⟨g,cap,cur,rfl,_,hg,hc,_,_,htake⟩
 ·rw[List.eq_nil_of_length_eq_zero h0]at hm;simp at hm
 ·refine⟨g,rfl,?_⟩
  have:=(RV0r.of_flat (b:=g) (off:=0) hl (RV0c.of_list hx fun j u hu=>?_)).get hm
  ·simpa using this
  ·have h3:=ho.cells (g:=g) rfl j u hu
   have hadd:(⟨g,0,none⟩:Addr).add j=⟨g,0+j,none⟩:=by unfold Addr.add;split<;>simp_all
   rwa [hadd]at h3
theorem getD_dead{s:St}{i:Nat}{r:Res}(hr:s.sg.getD i .dead=r)(hn:r ≠ .dead):s.sg.getD i .fresh=r/\i<s.sg.length:=by
 simp only[List.getD_eq_getElem?_getD]at hr⊢
 cases hq:s.sg[i]? with
 |none=>rw[hq]at hr;exact absurd hr.symm hn
 |some z=>rw[hq]at hr;exact⟨by simpa using hr,(List.getElem?_eq_some_iff.1 hq).1⟩
theorem box_cells{w:World}{b off:Nat}{vs:List Value}{el:TypeId}(hh:w.heap[b]?=some (.cells vs.toArray el (0,0))):∀j u,(vs.drop off)[j]?=some u->w.cell? ⟨b,off+j,none⟩=some u:=fun j u hu=>by
 rw[List.getElem?_drop]at hu
 simp[World.cell?,hh,hu]
section ops
variable {k:St->Prop} (hX:SessOk X E) (hk:Nx X k next) (h:Rel X C s a) (hd:∀i,o.dst=some i->i<X.N)
include hX hk h hd
theorem mv_ok{x:Operand}{p:Opd}(hop:o.op = .move x\/o.op = .assign x)(hp:opd x=some p)(hE:evO E o.dst (.mv p) s k):o.wpIn X.F X.n X.P a C.w next Q:=by
 simp only[evO,evX,app]at hE
 split at hE
 ·rename_i v hv
  refine up_pure hX hk h hd (x:=a.eval x) (fun c=>by rcases hop with e|e<;>simp[e]) ?_ (ev_ok h hp hv) hE
  rcases hop with e|e<;>simp[execOp,e,Sem.run_pure]
 ·exact hE.elim
theorem pick_ok{c x y:Operand}{p q r:Opd}(hop:o.op = .pick c x y)(hp:opd c=some p)(hq:opd x=some q)(hr:opd y=some r)(hE:evO E o.dst (.pick p q r) s k):o.wpIn X.F X.n X.P a C.w next Q:=by
 simp only[evO,evX,app]at hE
 split at hE
 ·rename_i b u v h1 h2 h3
  have e1:=ev_ok h hp h1
  simp only[RV]at e1
  cases b with
  |true=>exact up_pure hX hk h hd (x:=a.eval x) (fun c=>by simp[hop]) (by simp[execOp,hop,e1,asBool,Sem.run_pure]) (ev_ok h hq h2) (hE.1 rfl)
  |false=>exact up_pure hX hk h hd (x:=a.eval y) (fun c=>by simp[hop]) (by simp[execOp,hop,e1,asBool,Sem.run_pure]) (ev_ok h hr h3) (hE.2 rfl)
 ·exact hE.elim
theorem load_ok{t:TypeId}{x:Operand}{p:Opd}{ag:Bool}{n:Nat}(hop:o.op = .load t x)(hag:aggOf X.P t=some ag)(hsz:szOf X.P t=some n)(hp:opd x=some p)
  (hE:evO E o.dst (.load ag n p) s k):o.wpIn X.F X.n X.P a C.w next Q:=by
 simp only[evO,evX,app]at hE
 split at hE
 ·rename_i i off hv
  have e1:=ev_ok h hp hv
  simp only[RV]at e1
  obtain⟨ow,ho,e1⟩:=e1
  split at hE
  ·rename_i ice cs hr
   have hs:=h.sg i
   have hr':s.sg.getD i .fresh = .box ice cs:=by
    simp only[List.getD_eq_getElem?_getD]at hr⊢
    cases hq:s.sg[i]? with
    |none=>rw[hq]at hr;cases hr
    |some z=>rw[hq]at hr;simpa using hr
   rw[hr',ho]at hs
   obtain⟨b,vs,el,h1,h2,h3,h4,_⟩:=hs
   cases h1
   split at hE
   ·rename_i v hl
    obtain⟨y,h5,h6⟩:=ld_own (P:=X.P) hag hsz (box_cells (off:=off) h3) (h4.drop off) hl
    exact up_pure hX hk h hd (x:=y) (fun c=>by simp[hop]) (by simp[execOp,hop,e1,Instr.loadAt,Instr.sureAddr,h5]) h6 hE
   ·exact hE.elim
  ·exact hE.elim
 ·rename_i i sz m j hv
  have e1:=ev_ok h hp hv
  simp only[RV]at e1
  obtain⟨ow,ho,e1⟩:=e1
  split at hE
  ·rename_i ice el sz' es hr
   split at hE
   ·rename_i hsz'
    subst hsz'
    obtain⟨hm0,hm1,hE⟩:=hE
    obtain⟨hr',_⟩:=getD_dead hr (by simp)
    have hs:=h.sg i
    rw[hr',ho]at hs
    obtain⟨b,v,xs,h1,h2,h3,h4,h5⟩:=hs
    cases h1
    have hin:m<es.length:=by omega
    have hg:es[m]?=some (es.getD m []):=by simp[List.getD,List.getElem?_eq_getElem hin]
    obtain⟨g,h6,h7⟩:=row_elt h2 h3 h4 hg
    have hgb:=(h5 g h6).1
    subst hgb
    split at hE
    ·rename_i u hl
     obtain⟨vs,h8,h9⟩:=(h7.drop j).list
     simp only[Int.toNat_natCast]at hl
     obtain⟨y,h10,h11⟩:=ld_own (off:=m*sz'+j) (vs:=List.replicate (m*sz'+j) undef++vs) (cs:=List.replicate (m*sz'+j) AV.gone++(es.getD m []).drop j) (C:=C) (w:=C.w) (b:=g) (P:=X.P) hag hsz
      (fun j u hu=>h9 j u (by simpa using hu)) (by simpa using RV0s.rv _ _ h8) (by simpa using hl)
     exact up_pure hX hk h hd (x:=y) (fun c=>by simp[hop]) (by simp[execOp,hop,e1,Instr.loadAt,Instr.sureAddr,h10]) h11 hE
    ·exact hE.elim
   ·exact hE.elim
  ·exact hE.elim
 ·rename_i cs hv
  have e1:=ev_ok h hp hv
  simp only[RV,RV0]at e1
  obtain⟨b,off,e1,_,h2⟩:=e1
  split at hE
  ·rename_i v hl
   obtain⟨vs,h3,h4⟩:=h2.list
   obtain⟨y,h5,h6⟩:=ld_own (off:=off) (vs:=List.replicate off undef++vs) (cs:=List.replicate off AV.gone++cs) (C:=C) (w:=C.w) (b:=b) (P:=X.P) hag hsz
    (fun j u hu=>h4 j u (by simpa using hu)) (by simpa using RV0s.rv _ _ h3) (by simpa using hl)
   exact up_pure hX hk h hd (x:=y) (fun c=>by simp[hop]) (by simp[execOp,hop,e1,Instr.loadAt,Instr.sureAddr,h5]) h6 hE
  ·exact hE.elim
 ·exact hE.elim
omit hk hd in
theorem new_box{nm:Nat}(hf:s.sg.getD nm .dead = .fresh){cs:List AV}{vs:List Value}(hv:RVs C cs vs)(el:TypeId) :
  Rel X ⟨C.imm,newB C.w (C.w.alloc (.cells vs.toArray el)) C.T,upd C.rho nm (some ⟨C.w.heap.size, .pointer (some ⟨C.w.heap.size,0,none⟩)⟩),C.w.alloc (.cells vs.toArray el),C.l⟩ { s with tm:=s.tm,sg:=s.sg.set nm (.box false cs) } a:=by
 obtain⟨hf',hi⟩:=getD_dead hf (by simp)
 have hun:=h.unbound hf'
 have hb:Below C.w.heap.size C.w (C.w.alloc (.cells vs.toArray el)):=(Below.refl _ _).alloc (Nat.le_refl _) _
 have himm:∀b,C.imm b->b<C.w.heap.size:=fun b hb'=>(h.imm b hb').2.lt
 refine h.update nm hi _ _ _ _ s.tm (fun j=>j != nm) (fun b hb'=>.inl hb') (fun b hb'=>by
   rcases hb' with hb'|hb'
   ·exact Nat.lt_of_lt_of_le (h.T b hb') hb.size
   ·exact hb'.2) (hX.kgrow _ _ _ _ _ _ h.keep hb) (fun o ho=>by rw[hun]at ho;cases ho) (fun k o hk' _=>below_book hb k o hk') (fun j hj e=>by simp[e]at hj) (fun k hk' _=>hb.block k hk') ?_ ?_ (fun d v hdv=>⟨hdv,RV.unbound hun v _ (h.tm d v hdv)⟩) (fun j hj=>?_)
 ·refine⟨C.w.heap.size,vs,el,rfl, .inr ⟨Nat.le_refl _,by simp⟩,?_,?_,fun e=>absurd e (by simp),fun _ hi'=>?_⟩
  ·exact World.alloc_heap_new C.w _
  ·refine RVs.later (keep:=fun j=>j != nm) (C:=C) (C':=⟨C.imm,newB C.w (C.w.alloc (.cells vs.toArray el)) C.T,upd C.rho nm (some ⟨C.w.heap.size, .pointer (some ⟨C.w.heap.size,0,none⟩)⟩),C.w.alloc (.cells vs.toArray el),C.l⟩) ⟨fun b hb'=>⟨hb',hb.block b (himm b hb')⟩,fun j hj=>?_,rfl⟩ _ _ (RVs.unbound hun _ _ hv) hv
   show upd C.rho nm _ j=C.rho j
   have:j≠nm:=by simpa using hj
   simp[upd,this]
  ·have:=himm _ hi';omega
 ·intro b hb' j hj hb2
  simp[Res.blk]at hb'
  have:=(Res.blk_lt (h.sg j) hb2).2.1
  omega
 ·have hs:=h.sg j
  cases hr:s.sg.getD j .fresh with
  |box ice cs'=>
   rw[hr]at hs
   obtain⟨b,vs',el',h1,h2,h3,h4,_⟩:=hs
   exact RVs.unbound hun _ _ h4
  |mpo ks us=>
   rw[hr]at hs
   obtain⟨b,es,nB,h1,h2,h3,_,_,h4,_⟩:=hs
   exact RVs.unbound hun _ _ h4
  |itd c n mem=>
   rw[hr]at hs
   obtain⟨b,m,h1,h2,h3,_,h4⟩:=hs
   exact RVs.unbound hun _ _ h4
  |_=>rfl
omit hX hk h hd in
theorem cv1_any(v:Value):RV C (cv1 v) v:=by
 unfold cv1
 split<;>simp[RV,RV0]
omit hX hk h hd in
theorem cv1_map:∀(cs:List Value),RVs C (cs.map cv1) cs
 | []=>by simp[RVs]
 |c::cs=>by
  simp only[List.map_cons,RVs]
  exact⟨c,cs,rfl,cv1_any c,cv1_map cs⟩
omit hX hk h hd in
theorem zs_ok'{P:Program}{t:TypeId}{zs:List AV}(hz:zsOf P t=some zs):∃z:Value,(zeroValue t).run P C.w = .ok z C.w/\RVs C zs (z.cells.toList):=by
 simp only[zsOf]at hz
 split at hz
 ·rename_i i h1
  split at hz
  ·rename_i z h2
   cases hz
   exact⟨z,by simp[zeroValue,typeInfo,h1,h2],cv1_map _⟩
  ·cases hz
 ·cases hz
theorem alloc_ok{t:TypeId}{nm:Nat}{zs:List AV}(hop:o.op = .alloc t)(hz:zsOf X.P t=some zs)(hE:evO E o.dst (.alloc nm zs) s k):o.wpIn X.F X.n X.P a C.w next Q:=by
 simp only[evO,evX,app]at hE
 split at hE
 ·rename_i hf
  obtain⟨z,h1,h2⟩:=zs_ok' (C:=C) hz
  have hn:=new_box hX h hf h2 t
  refine up_value hX (v:=.pointer (some ⟨C.w.heap.size,0,none⟩)) (w':=C.w.alloc (.cells z.cells t)) (fun c=>by simp[hop]) ?_ ?_
  ·simp[execOp,hop,Instr.alloc,h1,newVar,newRow,newObj,Sem.run]
  ·have:=hn.put (v:=.own nm 0) (x:=.pointer (some ⟨C.w.heap.size,0,none⟩)) (by simp[RV,upd]) o.dst hd
   simp only[Array.toArray_toList]at this
   exact hk _ _ _ this hE
 ·exact hE.elim
omit hX hk hd in
theorem cellsK_ok{ag:Bool}{v:AV}{x:Value}(hv:RV C v x){K:List AV->Prop}(hc:cellsK ag v K):∃cs,K cs/\RVs C cs x.cells.toList:=by
 cases ag with
 |true=>
  simp only[cellsK]at hc
  split at hc
  ·simp only[RV]at hv;obtain⟨vs,rfl,h2⟩:=hv
   exact⟨_,hc,by simpa[Value.cells]using h2⟩
  ·exact hc.elim
 |false=>
  simp only[cellsK]at hc
  refine⟨[v],hc.2,?_⟩
  rw[cells_one (RV.one h hc.1 hv)]
  simp[RVs,hv]
theorem box_ok{t:TypeId}{x:Operand}{p:Opd}{nm:Nat}{ag:Bool}(hop:o.op = .box t x)(hp:opd x=some p)(hE:evO E o.dst (.box nm ag p) s k):o.wpIn X.F X.n X.P a C.w next Q:=by
 simp only[evO,evX,app]at hE
 split at hE
 ·rename_i v hv hf
  obtain⟨cs,hc,h2⟩:=cellsK_ok h (ev_ok h hp hv) hE
  have hn:=new_box hX h hf h2 t
  refine up_value hX (v:=.pointer (some ⟨C.w.heap.size,0,none⟩)) (w':=C.w.alloc (.cells (a.eval x).cells t)) (fun c=>by simp[hop]) ?_ ?_
  ·simp[execOp,hop,Instr.box,newVar,newRow,newObj,Sem.run]
  ·have:=hn.put (v:=.own nm 0) (x:=.pointer (some ⟨C.w.heap.size,0,none⟩)) (by simp[RV,upd]) o.dst hd
   simp only[Array.toArray_toList]at this
   exact hk _ _ _ this hc
 ·exact hE.elim
end ops
end
section
variable {X:Sess} {E:Env} {o:Oper} {C:Ctx} {s:St} {a:Act} {next:Act->World->Prop} {Q:Exit->Act->World->Prop}
section ops
variable {k:St->Prop} (hX:SessOk X E) (hk:Nx X k next) (h:Rel X C s a) (hd:∀i,o.dst=some i->i<X.N)
include hX hk h hd
omit hX hk h hd in
theorem sz_run{P:Program}{t:TypeId}{n:Nat}(hsz:szOf P t=some n)(w:World):(sizeOf t).run P w = .ok n w:=by
 simp only[szOf,Option.map_eq_some_iff]at hsz
 obtain⟨i,h1,rfl⟩:=hsz
 simp[sizeOf,typeInfo,h1]
omit hX hk h hd in
theorem mapPu_ok{C:Ctx}{f:AV->Option AV}(hf:∀v x v',v.pu=true->f v=some v'->RV C v x->RV0 C.imm C.w v' x) :
  ∀(as:List AV) (vs:List Value) (as':List AV),AV.puL as=true->mapO f as=some as'->RVs C as vs->RV0s C.imm C.w as' vs
 | [],vs,as',_,hm,hv=>by
  simp only[mapO,Option.some.injEq]at hm;subst hm
  simpa[RVs,RV0s]using hv
 |a::as,vs,as',hp,hm,hv=>by
  simp only[AV.puL,Bool.and_eq_true]at hp
  simp only[mapO]at hm
  split at hm
  ·rename_i d ds h1 h2
   cases hm
   simp only[RVs]at hv;obtain⟨v,vs',rfl,h3,h4⟩:=hv
   simp only[RV0s]
   exact⟨v,vs',rfl,hf _ _ _ hp.1 h1 h3,mapPu_ok hf as vs' ds hp.2 h2 h4⟩
  ·cases hm
omit hX hk h hd in
theorem frz_pu{C:Ctx}{sg:List Res}:∀(n:Nat) (v:AV) (x:Value) (v':AV),v.pu=true->AV.frz sg n v=some v'->RV C v x->RV0 C.imm C.w v' x:=by
 intro n
 induction n with
 |zero=>intro v x v' _ hv;simp[AV.frz]at hv
 |succ n ih=>
  intro v x v' hpu hv hx
  cases v with
  |agg cs=>
   simp only[AV.frz]at hv
   split at hv
   ·rename_i ds hm
    cases hv
    simp only[RV,RV0,AV.pu]at hx hpu⊢;obtain⟨vs,rfl,hx⟩:=hx
    exact⟨vs,rfl,mapPu_ok ih cs vs ds hpu hm hx⟩
   ·cases hv
  |tup cs=>
   simp only[AV.frz]at hv
   split at hv
   ·rename_i ds hm
    cases hv
    simp only[RV,RV0,AV.pu]at hx hpu⊢;obtain⟨vs,rfl,hx⟩:=hx
    exact⟨vs,rfl,mapPu_ok ih cs vs ds hpu hm hx⟩
   ·cases hv
  |fn f cs=>
   simp only[AV.frz]at hv
   split at hv
   ·rename_i ds hm
    cases hv
    simp only[RV,RV0,AV.pu]at hx hpu⊢;obtain⟨vs,rfl,hx⟩:=hx
    exact⟨vs,rfl,mapPu_ok ih cs vs ds hpu hm hx⟩
   ·cases hv
  |nils=>simp only[AV.frz,Option.some.injEq]at hv;subst hv;exact .inl ⟨⟨none,by simpa only[RV]using hx⟩,rfl⟩
  |tsl _ es=>simp only[AV.frz,Option.some.injEq]at hv;subst hv;exact RV0.tsl_isl (by simpa only[RV]using hx)
  |mth _ _=>cases hv
  |any=>simp only[AV.frz,Option.some.injEq]at hv;subst hv;simpa only[RV,RV0]using hx
  |own _ _=>cases hpu
  |elt _ _ _ _=>cases hpu
  |row _=>cases hpu
  |cut _ _ _ _=>cases hpu
  |yld=>cases hpu
  |gone=>cases hpu
  |_=>simp only[AV.frz,Option.some.injEq]at hv;subst hv;simpa only[RV,RV0]using hx
omit hk hd in
theorem set_box{i b:Nat}{cs cs':List AV}{vs vs':List Value}{el:TypeId}(hr:s.sg.getD i .dead = .box false cs)(ho:C.rho i=some ⟨b, .pointer (some ⟨b,0,none⟩)⟩)
  (hh:C.w.heap[b]?=some (.cells vs.toArray el (0,0))) (hv:RVs C cs' vs') :
  Rel X ⟨C.imm,C.T,upd C.rho i (C.rho i),C.w.setRow b vs'.toArray,C.l⟩ { s with tm:=s.tm,sg:=s.sg.set i (.box false cs') } a:=by
 obtain⟨hf',hi⟩:=getD_dead hr (by simp)
 have hs:=h.sg i
 rw[hf',ho]at hs
 obtain⟨b',vs0,el0,h1,h2,h3,h4,_,h6⟩:=hs
 cases h1
 have hni:=h6 rfl
 have hg:OneB b C.w (C.w.setRow b vs'.toArray):=⟨rfl,rfl,rfl,by simp[World.setRow],fun k e=>setRow_other C.w b k _ e, .of_cells hh, .of_cells (setRow_heap C.w b _ _ _ _ hh)⟩
 have hoth:∀k,k≠b->(C.w.setRow b vs'.toArray).heap[k]?=C.w.heap[k]?:=fun k e=>setRow_other C.w b k _ e
 have hl:Later (fun _=>true) C ⟨C.imm,C.T,upd C.rho i (C.rho i),C.w.setRow b vs'.toArray,C.l⟩:=
  ⟨fun b' hb'=>⟨hb',hoth b' (fun e=>hni (e ▸ hb'))⟩,fun j _=>by show upd C.rho i (C.rho i) j=_;unfold upd;split<;>simp_all,rfl⟩
 refine h.update i hi _ _ _ _ s.tm (fun _=>true) (fun b hb'=>hb') (fun b' hb'=>by rw[hg.size];exact h.T b' hb') (hX.kset _ _ _ _ _ _ b h.keep h2 (fun hq=>hni (h.imm0 _ hq)) (fun hq=>hni (h.pin.2.2 _ hq)) hg) (fun o ho=>ho) (fun k o hk' ho'=>by
   by_cases e:k=b
   ·subst e;rw[hh]at hk';cases hk';cases ho'
   ·exact(hoth k e).trans hk') (fun j _ _=>rfl) (fun k hk' hne=>hoth k ?_) ?_ ?_ (fun d v hdv=>⟨hdv,AV.refsIn_all (fun _=>rfl) v⟩) (fun j _=>AV.refsInL_all (fun _=>rfl) _)
 ·rintro rfl
  rcases hne with hne|⟨j,hj,hne⟩
  ·exact hni hne
  ·exact hj (h.dis j i k hne (by rw[hf',ho];simp[Res.blk]))
 ·rw[ho]
  exact⟨b,vs',el,rfl,h2,setRow_heap C.w b _ _ el (0,0) hh,by rw[<- ho];exact RVs.later hl _ _ (AV.refsInL_all (fun _=>rfl) _) hv,fun e=>absurd e (by simp),fun _=>hni⟩
 ·intro b' hb' j hj hb2
  rw[ho]at hb'
  exact hj (h.dis j i b' hb2 (by rw[hf',ho];simpa[Res.blk]using hb'))
omit hk hd in
theorem set_row{i m j sz:Nat}{el:TypeId}{es:List (List AV)}{e vs':List AV}{us:List Value}(hr:s.sg.getD i .dead = .row false el sz es)(hm:m<es.length)(he:es[m]?=some e)
  (hv:RV0s C.imm C.w vs' us) (hj:j+us.length<=e.length) :
  ∃b cap cur,C.rho i=some ⟨b, .slice (some ⟨b,0,none⟩) es.length cap⟩/\C.w.heap[b]?=some (.cells cur el (0,0))/\m*sz+j+us.length<=cur.size /\
  Rel X ⟨C.imm,C.T,upd C.rho i (C.rho i),C.w.setRow b (cur.toList.take (m*sz+j)++us++cur.toList.drop (m*sz+j+us.length)).toArray,C.l⟩ { s with tm:=s.tm,sg:=s.sg.set i (.row false el sz (es.set m (splice e j vs'))) } a:=by
 obtain⟨hf',hi⟩:=getD_dead hr (by simp)
 have hs:=h.sg i
 rw[hf']at hs
 obtain⟨b,v,xs,ho,h2,h3,h4,h5⟩:=hs
 rcases h2.2 with⟨_,h6⟩|⟨g,cap,cur,rfl,_,hg,hc,hcm,hcs,htake⟩
 ·omega
 obtain⟨hgb,hT,_,hni⟩:=h5 g rfl
 subst hgb
 have hni:=hni rfl
 have hel:e.length=sz:=h4 e (List.mem_of_getElem? he)
 rw[hel]at hj
 have hul:us.length=vs'.length:=hv.length
 have hbound:m*sz+j+us.length<=es.length*sz:=by
  have:(m+1)*sz<=es.length*sz:=Nat.mul_le_mul_right _ hm
  rw[Nat.add_mul]at this;omega
 have hcs':es.length*sz<=cur.size:=by rw[hcs];exact Nat.mul_le_mul_right _ hc
 refine⟨g,cap,cur,ho,hg,by omega,?_⟩
 generalize hcur':(cur.toList.take (m*sz+j)++us++cur.toList.drop (m*sz+j+us.length))=cur'
 have hg1:OneB g C.w (C.w.setRow g cur'.toArray):=⟨rfl,rfl,rfl,by simp[World.setRow],fun k e=>setRow_other C.w g k _ e, .of_cells hg, .of_cells (setRow_heap C.w g _ _ _ _ hg)⟩
 have hoth:∀k,k≠g->(C.w.setRow g cur'.toArray).heap[k]?=C.w.heap[k]?:=fun k e=>setRow_other C.w g k _ e
 have hpers:Pers C.imm C.imm C.w (C.w.setRow g cur'.toArray):=fun b' hb'=>⟨hb',hoth b' (fun e=>hni (e ▸ hb'))⟩
 have hxl:xs.length=es.length*sz:=h2.1
 have hlen':(splice e j vs').length=sz:=by
  rw[splice_eq e j vs' (by omega)];simp;omega
 refine h.update i hi _ _ _ _ s.tm (fun _=>true) (fun b hb'=>hb') (fun b' hb'=>by rw[hg1.size];exact h.T b' hb') (hX.kset _ _ _ _ _ _ g h.keep hT (fun hq=>hni (h.imm0 _ hq)) (fun hq=>hni (h.pin.2.2 _ hq)) hg1) (fun o ho=>ho) (fun k o hk' ho'=>by
   by_cases e:k=g
   ·subst e;rw[hg]at hk';cases hk';cases ho'
   ·exact(hoth k e).trans hk') (fun j _ _=>rfl) (fun k hk' hne=>hoth k ?_) ?_ ?_ (fun d v hdv=>⟨hdv,AV.refsIn_all (fun _=>rfl) v⟩) (fun j _=>AV.refsInL_all (fun _=>rfl) _)
 ·rintro rfl
  rcases hne with hne|⟨j,hj,hne⟩
  ·exact hni hne
  ·exact hj (h.dis j i k hne (by rw[hf',ho];rfl))
 ·refine⟨g, .slice (some ⟨g,0,none⟩) es.length cap,xs.take (m*sz+j)++us++xs.drop (m*sz+j+us.length),ho,⟨?_, .inr ⟨g,cap,cur'.toArray,by simp,Nat.zero_le _,setRow_heap C.w g _ _ el (0,0) hg,by simpa using hc,hcm,?_,?_⟩⟩,?_,fun e' he'=>?_,fun b' e=>?_⟩
  ·simp;omega
  ·subst hcur';simp;omega
  ·subst hcur' htake
   have hlt:(cur.toList.take (m*sz+j)++us).length=m*sz+j+us.length:=by simp;omega
   simp only[List.length_set]
   rw[List.take_append,List.take_of_length_le (by rw[hlt];exact hbound),hlt,List.take_take,Nat.min_eq_left (by omega),List.drop_take]
  ·refine RV0s.mono hpers _ _ ?_
   rw[flatten_set h4 he (by omega)]
   exact h3.splice hv (by
    have:es.flatten.length=es.length*sz:=by rw[<- h3.length,hxl]
    omega)
  ·rcases List.mem_or_eq_of_mem_set he' with h7|h7
   ·exact h4 e' h7
   ·rw[h7];exact hlen'
  ·obtain⟨k1,k2,k3,k4⟩:=h5 b' (by simpa[Value.ownBlock]using e)
   exact⟨k1,k2,fun e=>absurd e (by simp),k4⟩
 ·intro b' hb' j hj hb2
  rw[ho]at hb'
  exact hj (h.dis j i b' hb2 (by rw[hf',ho];simpa[Res.blk,Value.ownBlock]using hb'))
omit hd in
theorem store_ok{t:TypeId}{x y:Operand}{p q:Opd}{ag:Bool}{n:Nat}{ne:List Opd}(hop:o.op = .store t x y)(hsz:szOf X.P t=some n)(hp:opd x=some p)(hq:opd y=some q)
  (hdn:o.dst=none) (hE:evO E o.dst (.store ag n p q ne) s k):o.wpIn X.F X.n X.P a C.w next Q:=by
 simp only[evO,evX,app]at hE
 split at hE
 ·rename_i i off v h1 h2
  have e1:=ev_ok h hp h1
  simp only[RV]at e1
  obtain⟨ow,ho,e1⟩:=e1
  split at hE
  ·rename_i cs hr
   obtain⟨vs,hc,h3⟩:=cellsK_ok h (ev_ok h hq h2) hE
   obtain⟨hone,hc⟩:=hc
   split at hc
   ·rename_i hlen
    obtain⟨hn,hoff,_⟩:=hlen
    obtain⟨hf',hi⟩:=getD_dead hr (by simp)
    have hs:=h.sg i
    rw[hf',ho]at hs
    obtain⟨b,us,el,h4,h5,h6,h7,_⟩:=hs
    cases h4
    have hsp:=h7.splice h3 (n:=off) (by omega)
    have hR:=set_box hX h hr ho h6 hsp
    have hul:us.length=cs.length:=h7.length
    have hcl:(a.eval y).cells.size=n:=by have:=h3.length;simp at this;omega
    have hst:=run_storeCells_at X.P b off el (a.eval y).cells.toList 0 us.toArray C.w h6 (by simp;omega) (RVs.ones h hone h3)
    simp only[Nat.add_zero]at hst
    refine up_skip hX (w':=C.w.setRow b (us.take off++(a.eval y).cells.toList++us.drop (off+(a.eval y).cells.toList.length)).toArray) (fun c=>by simp[hop]) ?_ ?_
    ·simp only[Array.length_toList]at hst⊢
     simp[execOp,hop,e1,Instr.storeAt,Instr.sureAddr,storeVar,sz_run hsz,hcl,hst]
    ·rw[hdn]
     exact hk _ _ _ hR hc
   ·exact hc.elim
  ·exact hE.elim
 ·rename_i i sz m j v h1 h2
  have e1:=ev_ok h hp h1
  simp only[RV]at e1
  obtain⟨ow,ho,e1⟩:=e1
  split at hE
  ·rename_i el sz' es hr
   obtain⟨vs,hc,h3⟩:=cellsK_ok h (ev_ok h hq h2) hE
   obtain⟨hone,hc⟩:=hc
   split at hc
   ·rename_i hlen
    obtain⟨hszz,hn,hpu,_⟩:=hlen
    subst hszz
    split at hc
    ·rename_i vs' hfz
     obtain⟨hm0,hm1,hc⟩:=hc
     simp only[Int.toNat_natCast]at hc
     split at hc
     ·rename_i hjn
      have hin:m<es.length:=by omega
      have hg:es[m]?=some (es.getD m []):=by simp[List.getD,List.getElem?_eq_getElem hin]
      have h0:=mapPu_ok (frz_pu 8) vs _ _ hpu hfz h3
      have hcl:(a.eval y).cells.size=n:=by have:=h3.length;simp at this;omega
      obtain⟨b,cap,cur,k1,k2,k3,hR⟩:=set_row hX h hr (by omega) hg h0 (j:=j) (by rw[Array.length_toList];omega)
      rw[k1]at ho;cases ho
      have hst:=run_storeCells_at X.P b (m*sz'+j) el (a.eval y).cells.toList 0 cur C.w k2 (by simp;omega) (RVs.ones h hone h3)
      simp only[Nat.add_zero]at hst
      refine up_skip hX (w':=C.w.setRow b (cur.toList.take (m*sz'+j)++(a.eval y).cells.toList++cur.toList.drop (m*sz'+j+(a.eval y).cells.toList.length)).toArray) (fun c=>by simp[hop]) ?_ ?_
      ·simp only[Array.length_toList]at hst⊢
       simp[execOp,hop,e1,Instr.storeAt,Instr.sureAddr,storeVar,sz_run hsz,hcl,hst]
      ·rw[hdn]
       exact hk _ _ _ hR hc
     ·exact hc.elim
    ·exact hc.elim
   ·exact hc.elim
  ·exact hE.elim
 ·exact hE.elim
omit hX hk h hd in
theorem shl_run{P:Program}{w:World}{t:TypeId}{k1 k2:IntKind}{m n:Int}(hn:0<=n):(binOp .shl t (.int k1 m) (.int k2 n)).run P w = .ok (.int k1 (k1.wrap (m*2 ^ min n.toNat k1.bits))) w:=by
 simp only[binOp]
 unfold Op.shift
 rw[if_neg (Int.not_lt.2 hn)]
 simp only[Sem.run_pure]
omit hX hk h hd in
theorem shr_run{P:Program}{w:World}{t:TypeId}{k1 k2:IntKind}{m n:Int}(hn:0<=n):(binOp .shr t (.int k1 m) (.int k2 n)).run P w = .ok (.int k1 (m.fdiv (2 ^ min n.toNat k1.bits))) w:=by
 simp only[binOp]
 unfold Op.shift
 rw[if_neg (Int.not_lt.2 hn)]
 simp only[Sem.run_pure]
theorem bin_ok{op:BinOp}{t u:TypeId}{x y:Operand}{p q:Opd}(hop:o.op = .binOp op t x y u)(hp:opd x=some p)(hq:opd y=some q)(hE:evO E o.dst (.bin op p q) s k):o.wpIn X.F X.n X.P a C.w next Q:=by
 simp only[evO,evX,app]at hE
 split at hE
 ·rename_i k1 m k2 n h1 h2
  have e1:=ev_ok h hp h1
  have e2:=ev_ok h hq h2
  simp only[RV]at e1 e2
  split at hE
  ·rename_i hkk
   have go:∀v:Value,(binOp op t (.int k1 m) (.int k2 n)).run X.P C.w = .ok v C.w->(execOp a.eval o).run X.P C.w = .ok (.value v) C.w:=fun v hv=>by
    have hgd:(eqGuard op t x y (.int k1 m) (.int k2 n)).run X.P C.w = .ok () C.w:=by cases op<;>simp[eqGuard,Sem.run_pure]
    simp[execOp,hop,e1,e2,hv,hgd]
   have hk2:isSh op=false->k1=k2:=fun hs=>by rw[hs]at hkk;simpa using hkk
   cases op<;>simp only[evBin]at hE<;>first|(have:=hk2 rfl;subst this)|skip
   all_goals first
    |exact up_pure hX hk h hd (fun c=>by simp[hop]) (go _ (shl_run hE.1)) (by simp only[RV]) hE.2
    |exact up_pure hX hk h hd (fun c=>by simp[hop]) (go _ (shr_run hE.1)) (by simp only[RV]) hE.2
    |exact up_pure hX hk h hd (fun c=>by simp[hop]) (go _ (by simp only[binOp,Op.intBits,ne_eq,not_true_eq_false,if_false,Sem.run_pure];rfl)) (by simp only[RV];rfl) hE
    |(obtain⟨hne,hE⟩:=hE;exact up_pure hX hk h hd (fun c=>by simp[hop]) (go _ (by simp[binOp,Op.intDiv,hne,Sem.run_pure];rfl)) (by simp only[RV]) hE)
    |exact up_pure hX hk h hd (fun c=>by simp[hop]) (go _ (by simp[binOp,Op.intArith,Op.intCmp,Sem.run_pure];rfl)) (by simp only[RV]) hE
    |exact up_pure hX hk h hd (fun c=>by simp[hop]) (go _ (by simp[binOp,Op.intArith,Op.intCmp,Sem.run_pure])) (by simp only[RV]) hE
  ·exact hE.elim
 ·exact hE.elim
omit hX hk h hd in
theorem add_off(b m n:Nat):(⟨b,m,none⟩:Addr).add n=⟨b,m+n,none⟩:=by unfold Addr.add;split<;>simp_all
theorem un_ok{op:UnOp}{t:TypeId}{x:Operand}{p:Opd}(hop:o.op = .unOp op t x)(hp:opd x=some p)(hE:evO E o.dst (.un op p) s k):o.wpIn X.F X.n X.P a C.w next Q:=by
 simp only[evO,evX,app]at hE
 split at hE
 ·rename_i b h1
  have e1:=ev_ok h hp h1
  simp only[RV]at e1
  exact up_pure hX hk h hd (fun c=>by simp[hop]) (by simp[execOp,hop,e1,Op.unary,Sem.run_pure];rfl) (by simp only[RV]) hE
 ·rename_i kd n h1
  have e1:=ev_ok h hp h1
  simp only[RV]at e1
  exact up_pure hX hk h hd (fun c=>by simp[hop]) (by simp[execOp,hop,e1,Op.unary,Op.intArith,Sem.run_pure];rfl) (by simp only[RV,Int.zero_sub]) hE
 ·exact hE.elim
theorem conv_ok{t u:TypeId}{x:Operand}{p:Opd}{j kd:IntKind}(hop:o.op = .convert t u x)(ht:X.P.underlying t=some (.int j))(hu:X.P.underlying u=some (.int kd))(hp:opd x=some p)(hE:evO E o.dst (.conv kd p) s k):o.wpIn X.F X.n X.P a C.w next Q:=by
 simp only[evO,evX,app]at hE
 split at hE
 ·rename_i k0 n h1
  have e1:=ev_ok h hp h1
  simp only[RV]at e1
  exact up_pure hX hk h hd (fun c=>by simp[hop]) (by simp[execOp,hop,e1,convert,run_underlying ht,run_underlying hu,Conv.intToInt,Sem.run_pure];rfl) (by simp only[RV]) hE
 ·exact hE.elim
omit hX hk h hd in
theorem fld_run{P:Program}{t:TypeId}{f off sz:Nat}{u:TypeId}(hf:fldOf P t f=some (off,sz,u)) :
  ∃fs fd,P.underlying t=some (.struct fs)/\fs[f]?=some fd/\fd.offset=off/\fd.type=u/\szOf P u=some sz/\sz≠0:=by
 simp only[fldOf]at hf
 split at hf
 ·rename_i fs h1
  split at hf
  ·rename_i fd h2
   split at hf
   ·rename_i i h3
    split at hf
    ·cases hf
    ·rename_i h4
     cases hf
     exact⟨fs,fd,h1,h2,rfl,rfl,by simp[szOf,h3],h4⟩
   ·cases hf
  ·cases hf
 ·cases hf
theorem faddr_ok{t:TypeId}{x:Operand}{p:Opd}{f off sz:Nat}{u:TypeId}(hop:o.op = .fieldAddr t x f)(hf:fldOf X.P t f=some (off,sz,u))(hp:opd x=some p)(hE:evO E o.dst (.faddr off p) s k) :
  o.wpIn X.F X.n X.P a C.w next Q:=by
 obtain⟨fs,fd,h1,h2,rfl,rfl,h3,h4⟩:=fld_run hf
 have hrun:∀b m,a.eval x = .pointer (some ⟨b,m,none⟩)->(execOp a.eval o).run X.P C.w = .ok (.value (.pointer (some ⟨b,m+fd.offset,none⟩))) C.w:=fun b m e=>by
  simp[execOp,hop,e,Instr.fieldAt,run_underlying h1,h2,Instr.sureAddr,fieldPlace,sz_run h3,h4,Sem.run_pure,add_off]
 simp only[evO,evX,app]at hE
 split at hE
 ·rename_i i m hv
  have e1:=ev_ok h hp hv
  simp only[RV]at e1
  obtain⟨ow,ho,e1⟩:=e1
  exact up_pure hX hk h hd (fun c=>by simp[hop]) (hrun _ _ e1) (by simp only[RV];exact⟨ow,ho,rfl⟩) hE
 ·rename_i i sz m j hv
  have e1:=ev_ok h hp hv
  simp only[RV]at e1
  obtain⟨ow,ho,e1⟩:=e1
  exact up_pure hX hk h hd (fun c=>by simp[hop]) (hrun _ _ e1) (by simp only[RV];exact⟨ow,ho,by rw[Nat.add_assoc]⟩) hE
 ·rename_i cs hv
  have e1:=ev_ok h hp hv
  simp only[RV,RV0]at e1
  obtain⟨b,m,e1,hi,hc⟩:=e1
  exact up_pure hX hk h hd (fun c=>by simp[hop]) (hrun _ _ e1) (by simp only[RV,RV0];exact⟨b,_,rfl,hi,hc.drop _⟩) hE
 ·exact hE.elim
omit hX hk h hd in
theorem part_run{P:Program}{ag:Bool}{n off:Nat}{cs:List AV}{vs:List Value}{v:AV}{t:TypeId}(hag:aggOf P t=some ag)(hsz:szOf P t=some n)(hv:RVs C cs vs)
  (hl:evX.ldC ag n (cs.drop off)=some v) (w:World):∃x,(part t vs.toArray off).run P w = .ok x w/\RV C v x:=by
 have hi:(isAgg t).run P w = .ok ag w:=by
  simp only[aggOf]at hag
  split at hag<;>first|(cases hag;done)|skip
  all_goals
   rename_i h1
   cases hag
   simp[isAgg,run_underlying h1]
 cases ag with
 |true=>
  simp only[evX.ldC]at hl
  split at hl
  ·cases hl
   refine⟨.agg ((vs.drop off).take n).toArray,?_,by simp only[RV];exact⟨_,rfl,(hv.drop off).take n⟩⟩
   have:vs.toArray.extract off (off+n)=((vs.drop off).take n).toArray:=by
    apply Array.ext'
    simp[Array.toList_extract,List.extract_eq_take_drop]
   simp[part,hi,sz_run hsz,this,Sem.run_pure]
  ·cases hl
 |false=>
  simp only[evX.ldC]at hl
  split at hl
  ·rename_i u us hc
   cases hl
   have h2:=hv.drop off
   rw[hc]at h2
   simp only[RVs]at h2
   obtain⟨x,xs,h3,h4,_⟩:=h2
   refine⟨x,?_,h4⟩
   have:vs[off]?=some x:=by
    have:=congrArg (·[0]?) h3
    simpa using this
   simp[part,hi,this,Sem.run_pure]
  ·cases hl
theorem field_ok{t:TypeId}{x:Operand}{p:Opd}{f off sz:Nat}{u:TypeId}{ag:Bool}(hop:o.op = .field t x f)(hf:fldOf X.P t f=some (off,sz,u))(hag:aggOf X.P u=some ag)(hp:opd x=some p)
  (hE:evO E o.dst (.field ag sz off p) s k):o.wpIn X.F X.n X.P a C.w next Q:=by
 obtain⟨fs,fd,h1,h2,rfl,rfl,h3,h4⟩:=fld_run hf
 simp only[evO,evX,app]at hE
 split at hE
 ·rename_i cs hv
  have e1:=ev_ok h hp hv
  simp only[RV]at e1
  obtain⟨vs,e1,hvs⟩:=e1
  split at hE
  ·rename_i v hl
   obtain⟨y,h5,h6⟩:=part_run hag h3 hvs hl C.w
   exact up_pure hX hk h hd (fun c=>by simp[hop]) (by simp[execOp,hop,e1,Instr.field,run_underlying h1,h2,asAgg,h5,Sem.run_pure]) h6 hE
  ·exact hE.elim
 ·exact hE.elim
theorem iaddr_ok{t e:TypeId}{x y:Operand}{p q:Opd}{n:Nat}(hop:o.op = .indexAddr t x y)(ht:X.P.underlying t=some (.slice e))(hsz:szOf X.P e=some n)(hp:opd x=some p)(hq:opd y=some q)
  (hE:evO E o.dst (.iaddr n p q) s k):o.wpIn X.F X.n X.P a C.w next Q:=by
 simp only[evO,evX,app]at hE
 split at hE
 ·rename_i es kd i h1 h2
  have e1:=ev_ok h hp h1
  have e2:=ev_ok h hq h2
  simp only[RV]at e1 e2
  obtain⟨h0,hlt,hE⟩:=hE
  split at hE
  ·rename_i hs
   simp only[RV0]at e1
   rcases e1 with⟨_,rfl⟩|⟨sz,b,off,cap,e1,hc,hi,hr⟩
   ·simp at hlt;omega
   ·have hin:i.toNat<es.length:=by omega
    have hg:es[i.toNat]?=some (es.getD i.toNat []):=by simp[List.getD,List.getElem?_eq_getElem hin]
    have hsz':sz=n:=(hr.len hg).symm.trans hs
    subst hsz'
    refine up_pure hX hk h hd (v:=.ipt (es.getD i.toNat [])) (x:=.pointer (some ⟨b,off+i.toNat*sz,none⟩)) (fun c=>by simp[hop]) ?_ (by simp only[RV,RV0];exact⟨b,_,rfl,hi,hr.get hg⟩) hE
    simp[execOp,hop,e1,e2,Instr.indexAt,asIntOf,run_underlying ht,sz_run hsz,h0,hlt,Sem.run_pure,add_off]
  ·exact hE.elim
 ·rename_i j kd i h1 h2
  have e1:=ev_ok h hp h1
  have e2:=ev_ok h hq h2
  simp only[RV]at e1 e2
  obtain⟨ow,ho,e1⟩:=e1
  split at hE
  ·rename_i ice el sz' es hr
   split at hE
   ·rename_i hs'
    subst hs'
    obtain⟨⟨h0,hlt⟩,hE⟩:=hE
    obtain⟨hr',_⟩:=getD_dead hr (by simp)
    have hs:=h.sg j
    rw[hr',ho]at hs
    obtain⟨b,v,xs,h3,h4,_,_,h5⟩:=hs
    cases h3
    rcases h4.2 with⟨rfl,h6⟩|⟨g,cap,cur,rfl,_⟩
    ·omega
    ·obtain⟨hgb,_⟩:=h5 g rfl
     subst hgb
     refine up_pure hX hk h hd (v:=.elt j sz' i.toNat 0) (x:=.pointer (some ⟨g,i.toNat*sz',none⟩)) (fun c=>by simp[hop]) ?_ (by simp only[RV];exact⟨_,ho,rfl⟩) hE
     simp[execOp,hop,e1,e2,Instr.indexAt,asIntOf,run_underlying ht,sz_run hsz,h0,hlt,Sem.run_pure,add_off]
   ·exact hE.elim
  ·exact hE.elim
 ·rename_i j szc lo m kd i h1 h2
  have e1:=ev_ok h hp h1
  have e2:=ev_ok h hq h2
  simp only[RV]at e1 e2
  obtain⟨ow,ho,a0,len,cap,hv0,hc1,hc2,e1⟩:=e1
  split at hE
  ·rename_i ice el sz' es hr
   split at hE
   ·rename_i hs'
    obtain⟨hs1,hs2⟩:=hs'
    subst hs1 hs2
    obtain⟨⟨h0,hlt⟩,hE⟩:=hE
    obtain⟨hr',_⟩:=getD_dead hr (by simp)
    have hs:=h.sg j
    rw[hr',ho]at hs
    obtain⟨b,v,xs,h3,h4,_,_,h5⟩:=hs
    cases h3
    simp only at hv0
    subst hv0
    rcases h4.2 with⟨h6,h7⟩|⟨g,cap',cur,h6,_⟩
    ·cases h6;omega
    ·cases h6
     obtain⟨hgb,_⟩:=h5 g rfl
     subst hgb
     rw[if_neg (by omega)]at e1
     have hadd:((Addr.mk g 0 none).add (lo*szc)).add (i.toNat*szc)=⟨g,(lo+i.toNat)*szc,none⟩:=by rw[add_off,add_off,Nat.zero_add,Nat.add_mul]
     refine up_pure hX hk h hd (v:=.elt j szc (lo+i.toNat) 0) (x:=.pointer (some ⟨g,(lo+i.toNat)*szc,none⟩)) (fun c=>by simp[hop]) ?_ (by simp only[RV];exact⟨_,ho,rfl⟩) hE
     simp[execOp,hop,e1,e2,Instr.indexAt,asIntOf,run_underlying ht,sz_run hsz,h0,hlt,Sem.run_pure,hadd]
   ·exact hE.elim
  ·exact hE.elim
 ·exact hE.elim
omit hX hk h hd in
theorem bo_ok(h:Rel X C s a){x:Option Operand}{p:Option Opd}(hp:opdo x=some p){n:Int}(hn:boV s p=some n):(x=none/\n=0)\/∃y k,x=some y/\a.eval y = .int k n:=by
 cases x with
 |none=>
  simp only[opdo,Option.some.injEq]at hp;subst hp
  simp only[boV,Option.some.injEq]at hn
  exact .inl ⟨rfl,hn.symm⟩
 |some y=>
  simp only[opdo,Option.map_eq_some_iff]at hp
  obtain⟨q,h1,rfl⟩:=hp
  simp only[boV]at hn
  split at hn
  ·rename_i k m hv
   cases hn
   have:=ev_ok h h1 hv
   simp only[RV]at this
   exact .inr ⟨y,k,rfl,this⟩
  ·cases hn
omit hX hk h hd in
theorem RV0r.part{imm:Nat->Prop}{w:World}{b sz:Nat}:∀ {es:List (List AV)} {off:Nat} (hi lo:Nat),RV0r imm w b sz off es->RV0r imm w b sz (off+lo*sz) ((es.take hi).drop lo)
 | [],off,hi,lo,_=>by simp[RV0r]
 |e::es,off,0,lo,_=>by simp[RV0r]
 |e::es,off,hi+1,0,h=>by
  simp only[List.take_succ_cons,List.drop_zero,RV0r,Nat.zero_mul,Nat.add_zero]at h⊢
  have:=RV0r.part hi 0 h.2.2
  simp only[List.drop_zero,Nat.zero_mul,Nat.add_zero]at this
  exact⟨h.1,h.2.1,this⟩
 |e::es,off,hi+1,lo+1,h=>by
  simp only[List.take_succ_cons,List.drop_succ_cons,RV0r]at h⊢
  have:=RV0r.part hi lo h.2.2
  rwa [show off+sz+lo*sz=off+(lo+1)*sz from by rw[Nat.add_mul];omega]at this
theorem sl3_ok{t e:TypeId}{x hi mx:Operand}{p q r:Opd}{n:Nat}(hop:o.op = .slice t x none (some hi) (some mx))(ht:X.P.underlying t=some (.slice e))(hsz:szOf X.P e=some n)(hp:opd x=some p)
  (hh:opd hi=some q) (hm:opd mx=some r) (hE:evO E o.dst (.sl3 n p q r) s k):o.wpIn X.F X.n X.P a C.w next Q:=by
 simp only[evO,evX,app]at hE
 split at hE
 ·rename_i es k1 u k2 m h1 h2 h3
  have e1:=ev_ok h hp h1
  have e2:=ev_ok h hh h2
  have e3:=ev_ok h hm h3
  simp only[RV]at e1 e2 e3
  obtain⟨rfl,_,h4,h5,h6,hE⟩:=hE
  have hlen:((es.take m.toNat).drop (0:Int).toNat).length=m.toNat:=by
   simp only[Int.toNat_zero,List.drop_zero,List.length_take];omega
  have hel:X.P.elem t=e:=by simp[Program.elem,ht]
  have ht':X.P.underlying t=some (.slice (X.P.elem t)):=by rw[hel];exact ht
  have hrun:∀b cap,es.length<=cap->a.eval x = .slice b es.length cap->(execOp a.eval o).run X.P C.w = .ok (.value (sliced b 0 m.toNat m.toNat n)) C.w:=fun b cap hc ex=>by
   simp[execOp,hop,ex,e2,e3,run_sliceAt_slice C.w t _ _ _ _ ht',run_slice_hm C.w t b es.length cap ht' k1 k2 m m (by omega) (by omega) (by omega),hel,sz_run hsz]
  simp only[RV0]at e1
  rcases e1 with⟨⟨ad0,e1⟩,h0⟩|⟨sz,b,off,cap,e1,hc,hi',hr⟩
  ·subst h0
   simp only[List.length_nil]at h5 hrun
   have hl0:m=0:=by simp at h5;omega
   subst hl0
   refine up_pure hX hk h hd (fun c=>by simp[hop]) (hrun _ _ (Nat.le_refl _) e1) ?_ hE
   simp only[RV,RV0]
   refine .inl ⟨?_,by simp⟩
   cases ad0<;>exact⟨_,by simp[sliced];rfl⟩
  ·refine up_pure hX hk h hd (fun c=>by simp[hop]) (hrun _ _ hc e1) ?_ hE
   simp only[RV,RV0]
   by_cases hm:m.toNat=0
   ·have hz:(es.take m.toNat).drop (0:Int).toNat=[]:=List.eq_nil_of_length_eq_zero (by omega)
    rw[hz,hm]
    exact .inl ⟨⟨_,by simp[sliced];rfl⟩,rfl⟩
   ·refine .inr ⟨b,off,?_,hi',?_⟩
    ·rw[hlen]
     simp[sliced,hm,add_off]
    ·by_cases hes:es=[]
     ·subst hes;simp[RV0r]
     ·obtain⟨x0,hx0⟩:=List.exists_mem_of_ne_nil es hes
      obtain⟨i,hi1,hi2⟩:=List.getElem_of_mem hx0
      have:sz=n:=(hr.len (i:=i) (e:=x0) (by rw[List.getElem?_eq_getElem hi1,hi2])).symm.trans (h6 x0 hx0)
      subst this
      have:=RV0r.part m.toNat (0:Int).toNat hr
      simpa using this
 ·exact hE.elim
omit hX hk h hd in
theorem cut_isl{imm:Nat->Prop}{w:World}{es:List (List AV)}{x v:Value}{sz lo n:Nat}(h:RV0 imm w (.isl es) x)(hc:CutV sz lo n x v)(hl:∀e∈es,e.length=sz):RV0 imm w (.isl ((es.drop lo).take n)) v:=by
 obtain⟨a,len,cap,rfl,h1,h2,rfl⟩:=hc
 have hlen:lo+n<=es.length:=by
  simp only[RV0]at h
  rcases h with⟨⟨ad,h⟩,rfl⟩|⟨sz',b,off,cap',h,_⟩<;>cases h<;>simpa using h1
 have e:(es.drop lo).take n=(es.take (lo+n)).drop lo:=by rw[List.drop_take,Nat.add_sub_cancel_left]
 have hln:((es.drop lo).take n).length=n:=by simp;omega
 simp only[RV0]at h⊢
 rcases h with⟨⟨ad,h⟩,rfl⟩|⟨sz',b,off,cap',h,hc,hi,hr⟩
 ·cases h
  have h3:lo=0:=by omega
  have h4:n=0:=by omega
  subst h3 h4
  exact .inl ⟨⟨_,by simp;rfl⟩,by simp⟩
 ·cases h
  by_cases hm:cap=lo
  ·have h4:n=0:=by omega
   subst h4
   refine .inr ⟨0,b,off,0,?_,by simp,hi,by simp[RV0r]⟩
   simp[hm]
  ·refine .inr ⟨sz,b,off+lo*sz,cap-lo,?_,by omega,hi,?_⟩
   ·rw[hln,if_neg hm];simp[add_off]
   ·rw[e]
    by_cases hes:es=[]
    ·subst hes;simp[RV0r]
    ·obtain⟨x0,hx0⟩:=List.exists_mem_of_ne_nil es hes
     obtain⟨i,hi1,hi2⟩:=List.getElem_of_mem hx0
     have:sz'=sz:=(hr.len (i:=i) (e:=x0) (by rw[List.getElem?_eq_getElem hi1,hi2])).symm.trans (hl x0 hx0)
     subst this
     exact RV0r.part (lo+n) lo hr
theorem sli_ok{t e:TypeId}{x:Operand}{p:Opd}{n:Nat}{lo hi:Option Operand}{pl ph:Option Opd}(hop:o.op = .slice t x lo hi none)(ht:X.P.underlying t=some (.slice e))(hsz:szOf X.P e=some n)(hp:opd x=some p)
  (hl:opdo lo=some pl) (hh:opdo hi=some ph) (hE:evO E o.dst (.sli n p pl ph) s k):o.wpIn X.F X.n X.P a C.w next Q:=by
 simp only[evO,evX,app]at hE
 split at hE
 ·rename_i es l h1 h2
  have e1:=ev_ok h hp h1
  have e2:=bo_ok h hl h2
  simp only[RV]at e1
  have fin:∀(u:Int),(hi=none/\u=es.length\/∃y kd,hi=some y/\a.eval y = .int kd u)->(slE n es l u fun es'=>k (s.put o.dst (.isl es')))->o.wpIn X.F X.n X.P a C.w next Q:=fun u e3 hE=>by
   obtain⟨h3,h4,h5,h6,hE⟩:=hE
   have hlen:((es.take u.toNat).drop l.toNat).length=u.toNat-l.toNat:=by
    rw[List.length_drop,List.length_take];omega
   have hel:X.P.elem t=e:=by simp[Program.elem,ht]
   have ht':X.P.underlying t=some (.slice (X.P.elem t)):=by rw[hel];exact ht
   have hrun:∀b cap,es.length<=cap->a.eval x = .slice b es.length cap->(execOp a.eval o).run X.P C.w = .ok (.value (sliced b l.toNat u.toNat cap n)) C.w:=fun b cap hc ex=>by
    rcases e2 with⟨rfl,rfl⟩|⟨y,kd,rfl,e2⟩<;>rcases e3 with⟨rfl,rfl⟩|⟨z,kz,rfl,e3⟩
    ·simp[execOp,hop,ex,run_sliceAt_slice C.w t _ _ _ _ ht',run_slice_all C.w t b es.length cap ht',hel,sz_run hsz]
    ·simp[execOp,hop,ex,e3,run_sliceAt_slice C.w t _ _ _ _ ht',run_slice_h C.w t b es.length cap ht' kz u (by omega) (by omega),hel,sz_run hsz]
    ·simp[execOp,hop,ex,e2,run_sliceAt_slice C.w t _ _ _ _ ht',run_slice_l C.w t b es.length cap ht' kd l (by omega) (by omega),hel,sz_run hsz]
    ·simp[execOp,hop,ex,e2,e3,run_sliceAt_slice C.w t _ _ _ _ ht',run_slice_lh C.w t b es.length cap ht' kd kz l u (by omega) (by omega) (by omega),hel,sz_run hsz]
   simp only[RV0]at e1
   rcases e1 with⟨⟨ad0,e1⟩,h0⟩|⟨sz,b,off,cap,e1,hc,hi',hr⟩
   ·subst h0
    simp only[List.length_nil]at h5 hrun
    have hl0:l=0:=by simp at h5;omega
    have hu0:u=0:=by simp at h5;omega
    subst hl0 hu0
    refine up_pure hX hk h hd (fun c=>by simp[hop]) (hrun _ _ (Nat.le_refl _) e1) ?_ hE
    simp only[RV,RV0]
    refine .inl ⟨?_,by simp⟩
    cases ad0<;>exact⟨_,by simp[sliced];rfl⟩
   ·refine up_pure hX hk h hd (fun c=>by simp[hop]) (hrun _ _ hc e1) ?_ hE
    simp only[RV,RV0]
    by_cases hm:cap=l.toNat
    ·have hz:(es.take u.toNat).drop l.toNat=[]:=List.eq_nil_of_length_eq_zero (by omega)
     rw[hz]
     refine .inr ⟨0,b,off,0,?_,by simp,hi',by simp[RV0r]⟩
     simp[sliced,hm];omega
    ·refine .inr ⟨n,b,off+l.toNat*n,cap-l.toNat,?_,by omega,hi',?_⟩
     ·simp[sliced,hm,add_off];omega
     ·by_cases hes:es=[]
      ·subst hes;simp[RV0r]
      ·obtain⟨x0,hx0⟩:=List.exists_mem_of_ne_nil es hes
       obtain⟨i,hi1,hi2⟩:=List.getElem_of_mem hx0
       have:sz=n:=(hr.len (i:=i) (e:=x0) (by rw[List.getElem?_eq_getElem hi1,hi2])).symm.trans (h6 x0 hx0)
       subst this
       exact RV0r.part u.toNat l.toNat hr
  split at hE
  ·refine fin _ (.inl ⟨?_,rfl⟩) hE
   cases hi with
   |none=>rfl
   |some z=>simp[opdo]at hh
  ·rename_i q
   split at hE
   ·rename_i u hu
    have e3:=bo_ok h hh hu
    refine fin u ?_ hE
    rcases e3 with⟨rfl,_⟩|e3
    ·simp[opdo]at hh
    ·exact .inr e3
   ·exact hE.elim
 ·rename_i i l h1 h2
  have e1:=ev_ok h hp h1
  have e2:=bo_ok h hl h2
  simp only[RV]at e1
  obtain⟨ow,ho,e1⟩:=e1
  split at hE
  ·rename_i ice el sz' es hr
   split at hE
   ·rename_i hszn
    subst hszn
    obtain⟨hf',hi'⟩:=getD_dead hr (by simp)
    have hs:=h.sg i
    rw[hf',ho]at hs
    obtain⟨b,v,xs,q1,q2,_⟩:=hs
    cases q1
    obtain⟨ad,cap,hv,hcap⟩:∃ad cap,v = .slice ad es.length cap/\es.length<=cap:=by
     rcases q2.2 with⟨h3,h4⟩|⟨g,cap,cur,h3,_,_,h4,_⟩
     ·exact⟨none,0,by rw[h3,h4],by omega⟩
     ·exact⟨_,cap,h3,h4⟩
    have fin:∀(u:Int),(hi=none/\u=es.length\/∃y kd,hi=some y/\a.eval y = .int kd u)->0<=l->l<=u->u<=es.length->k (s.put o.dst (.cut i sz' l.toNat (u.toNat-l.toNat)))->o.wpIn X.F X.n X.P a C.w next Q:=fun u e3 h3 h4 h5 hE=>by
     have hel:X.P.elem t=e:=by simp[Program.elem,ht]
     have ht':X.P.underlying t=some (.slice (X.P.elem t)):=by rw[hel];exact ht
     have ex:a.eval x = .slice ad es.length cap:=e1.trans hv
     have hrun:(execOp a.eval o).run X.P C.w = .ok (.value (sliced ad l.toNat u.toNat cap sz')) C.w:=by
      rcases e2 with⟨rfl,rfl⟩|⟨y,kd,rfl,e2⟩<;>rcases e3 with⟨rfl,rfl⟩|⟨z,kz,rfl,e3⟩
      ·simp[execOp,hop,ex,run_sliceAt_slice C.w t _ _ _ _ ht',run_slice_all C.w t ad es.length cap ht',hel,sz_run hsz]
      ·simp[execOp,hop,ex,e3,run_sliceAt_slice C.w t _ _ _ _ ht',run_slice_h C.w t ad es.length cap ht' kz u (by omega) (by omega),hel,sz_run hsz]
      ·simp[execOp,hop,ex,e2,run_sliceAt_slice C.w t _ _ _ _ ht',run_slice_l C.w t ad es.length cap ht' kd l (by omega) (by omega),hel,sz_run hsz]
      ·simp[execOp,hop,ex,e2,e3,run_sliceAt_slice C.w t _ _ _ _ ht',run_slice_lh C.w t ad es.length cap ht' kd kz l u (by omega) (by omega) (by omega),hel,sz_run hsz]
     refine up_pure hX hk h hd (fun c=>by simp[hop]) hrun ?_ hE
     simp only[RV]
     exact⟨_,ho,ad,es.length,cap,hv,by omega,hcap,rfl⟩
    split at hE
    ·refine fin _ (.inl ⟨?_,rfl⟩) hE.1.1 hE.1.2 (by omega) (by simpa using hE.2)
     cases hi with
     |none=>rfl
     |some z=>simp[opdo]at hh
    ·split at hE
     ·rename_i u hu
      have e3:=bo_ok h hh hu
      refine fin u ?_ hE.1.1 hE.1.2.1 hE.1.2.2 hE.2
      rcases e3 with⟨rfl,_⟩|e3
      ·simp[opdo]at hh
      ·exact .inr e3
     ·exact hE.elim
   ·exact hE.elim
  ·exact hE.elim
 ·exact hE.elim
theorem mkfn_ok{f:FuncId}{first caps:Array Operand}{ps:List Opd}(hop:o.op = .makeFunc (.func f) first caps)(hf:first.toList=[])(hp:opds caps.toList=some ps)(hE:evO E o.dst (.mkfn f ps) s k) :
  o.wpIn X.F X.n X.P a C.w next Q:=by
 simp only[evO,evX,app]at hE
 split at hE
 ·rename_i vs hv
  have e1:=evl_ok h hp hv
  have hf':first = #[]:=by simpa using hf
  subst hf'
  refine up_pure hX hk h hd (v:=.fn f vs) (x:=.func (.func f) #[] (caps.toList.map a.eval).toArray) (fun c=>by simp[hop]) ?_ (by simp only[RV];exact⟨_,rfl,e1⟩) hE
  have:caps.map a.eval=(caps.toList.map a.eval).toArray:=by apply Array.ext';simp
  simp[execOp,hop,Instr.makeFunc,Sem.run_pure]
  exact this
 ·exact hE.elim
theorem mkmt_ok{f:FuncId}{first caps:Array Operand}{ps:List Opd}(hop:o.op = .makeFunc (.func f) first caps)(hf:opds first.toList=some ps)(hp:opds caps.toList=some [])(hE:evO E o.dst (.mkmt f ps) s k) :
  o.wpIn X.F X.n X.P a C.w next Q:=by
 simp only[evO,evX,app]at hE
 split at hE
 ·rename_i vs hv
  split at hE
  ·rename_i vs' h1 h2
   have e1:=evl_ok h hf hv
   have e2:=mapPu_ok (frz_pu 8) vs _ vs' h1 h2 e1
   have hc':caps = #[]:=by
    have:caps.toList=[]:=by
     cases hc:caps.toList with
     |nil=>rfl
     |cons a as=>rw[hc]at hp;simp only[opds]at hp;split at hp<;>cases hp
    simpa using this
   subst hc'
   refine up_pure hX hk h hd (v:=.mth f vs') (x:=.func (.func f) (first.toList.map a.eval).toArray #[]) (fun c=>by simp[hop]) ?_ (by simp only[RV,RV0];exact⟨_,rfl,e2⟩) hE
   have:first.map a.eval=(first.toList.map a.eval).toArray:=by apply Array.ext';simp
   simp[execOp,hop,Instr.makeFunc,Sem.run_pure]
   exact this
  ·exact hE.elim
 ·exact hE.elim
theorem extract_ok{x:Operand}{p:Opd}{i:Nat}(hop:o.op = .extract x i)(hp:opd x=some p)(hE:evO E o.dst (.extract i p) s k):o.wpIn X.F X.n X.P a C.w next Q:=by
 simp only[evO,evX,app]at hE
 split at hE
 ·rename_i vs hv
  have e1:=ev_ok h hp hv
  simp only[RV]at e1
  obtain⟨us,e1,h1⟩:=e1
  split at hE
  ·rename_i v hi
   obtain⟨y,h2,h3⟩:=h1.get hi
   exact up_pure hX hk h hd (x:=y) (fun c=>by simp[hop]) (by simp[execOp,hop,e1,Instr.extract,h2,Sem.run_pure]) h3 hE
  ·exact hE.elim
 ·exact hE.elim
theorem nilck_ok{x:Operand}{p:Opd}(hop:o.op = .nilCheck x)(hp:opd x=some p)(hE:evO E o.dst (.nilck p) s k):o.wpIn X.F X.n X.P a C.w next Q:=by
 simp only[evO,evX,app]at hE
 split at hE
 ·rename_i i m hv
  have e1:=ev_ok h hp hv
  have e2:=e1
  simp only[RV]at e2
  obtain⟨ow,ho,e2⟩:=e2
  exact up_pure hX hk h hd (fun c=>by simp[hop]) (by simp[execOp,hop,e2,Sem.run_pure];rfl) (by rw[<- e2];exact e1) hE
 ·rename_i i sz m j hv
  have e1:=ev_ok h hp hv
  have e2:=e1
  simp only[RV]at e2
  obtain⟨ow,ho,e2⟩:=e2
  exact up_pure hX hk h hd (fun c=>by simp[hop]) (by simp[execOp,hop,e2,Sem.run_pure];rfl) (by rw[<- e2];exact e1) hE
 ·rename_i cs hv
  have e1:=ev_ok h hp hv
  have e2:=e1
  simp only[RV,RV0]at e2
  obtain⟨b,m,e2,_⟩:=e2
  exact up_pure hX hk h hd (fun c=>by simp[hop]) (by simp[execOp,hop,e2,Sem.run_pure];rfl) (by rw[<- e2];exact e1) hE
 ·rename_i f cs hv
  have e1:=ev_ok h hp hv
  have e2:=e1
  simp only[RV]at e2
  obtain⟨vs,e2,_⟩:=e2
  exact up_pure hX hk h hd (fun c=>by simp[hop]) (by simp[execOp,hop,e2,Sem.run_pure];rfl) (by rw[<- e2];exact e1) hE
 ·exact hE.elim
theorem len_ok{c:Call}{x:Operand}{t e:TypeId}{p:Opd}(hop:o.op = .call c)(hc:c.callee = .builtin .len)(ha:c.args.toList=[x])(hat:c.argTypes.toList=[t])
  (ht:X.P.underlying t=some (.slice e)) (hp:opd x=some p) (hE:evO E o.dst (.len p) s k):o.wpIn X.F X.n X.P a C.w next Q:=by
 have ha':c.args = #[x]:=by apply Array.ext';simpa using ha
 have hat':c.argTypes = #[t]:=by apply Array.ext';simpa using hat
 have hrun:∀b n m,a.eval x = .slice b n m->(execOp a.eval o).run X.P C.w = .ok (.value (.int .i64 n)) C.w:=fun b n m e1=>by
  simp[execOp,hop,hc,ha',hat',resolve,invoke,builtin,Builtin.len_,run_underlying ht,e1,Sem.run_pure,goInt]
 simp only[evO,evX,app]at hE
 split at hE
 ·rename_i es hv
  have e1:=ev_ok h hp hv
  simp only[RV,RV0]at e1
  rcases e1 with⟨⟨_,e1⟩,rfl⟩|⟨_,b,off,cap,e1,_⟩
  ·exact up_pure hX hk h hd (fun c=>by simp[hop]) (hrun _ _ _ e1) (by simp only[RV,List.length_nil]) hE
  ·exact up_pure hX hk h hd (fun c=>by simp[hop]) (hrun _ _ _ e1) (by simp only[RV]) hE
 ·rename_i hv
  have e1:=ev_ok h hp hv
  simp only[RV]at e1
  exact up_pure hX hk h hd (fun c=>by simp[hop]) (hrun _ _ _ e1) (by simp only[RV];rfl) hE
 ·rename_i i hv
  have e1:=ev_ok h hp hv
  simp only[RV]at e1
  obtain⟨ow,ho,e1⟩:=e1
  split at hE
  ·rename_i ice el sz es hr
   obtain⟨hf',hi⟩:=getD_dead hr (by simp)
   have hs:=h.sg i
   rw[hf',ho]at hs
   obtain⟨b,v,xs,h1,h2,_⟩:=hs
   cases h1
   rcases h2.2 with⟨h3,h4⟩|⟨g,cap,cur,h3,_⟩
   ·exact up_pure hX hk h hd (fun c=>by simp[hop]) (hrun _ _ _ (e1.trans h3)) (by simp only[RV];rw[h4]) hE
   ·exact up_pure hX hk h hd (fun c=>by simp[hop]) (hrun _ _ _ (e1.trans h3)) (by simp only[RV]) hE
  ·exact hE.elim
 ·rename_i i sz lo n hv
  have e1:=ev_ok h hp hv
  simp only[RV]at e1
  obtain⟨ow,ho,ad,len,cap,e2,_,_,e1⟩:=e1
  exact up_pure hX hk h hd (fun c=>by simp[hop]) (hrun _ _ _ e1) (by simp only[RV]) hE
 ·exact hE.elim
omit hX hk h hd in
theorem mm_run{P:Program}{w:World}{kd:IntKind}:∀ {vs:List AV} {n m:Int} {mx:Bool} {xs:List Value},RVs C vs xs->mmV mx kd n vs=some m->(List.foldlM (if mx then Builtin.max2 else Builtin.min2) (.int kd n) xs).run P w = .ok (.int kd m) w
 | [],n,m,mx,xs,hv,hm=>by
  simp only[RVs]at hv;subst hv
  simp only[mmV,Option.some.injEq]at hm;subst hm
  simp[Sem.run_pure]
 |v::vs,n,m,mx,xs,hv,hm=>by
  simp only[RVs]at hv
  obtain⟨x,xs',rfl,h1,h2⟩:=hv
  cases v<;>simp only[mmV]at hm<;>try cases hm
  rename_i kd' m'
  split at hm
  ·rename_i e;subst e
   simp only[RV]at h1;subst h1
   have ih:=mm_run (P:=P) (w:=w) h2 hm
   simp only[List.foldlM_cons,Sem.run_bind]
   cases mx with
   |true=>
    have:(Builtin.max2 (.int kd' n) (.int kd' m')).run P w = .ok (.int kd' (max n m')) w:=by
     simp[Builtin.max2,Sem.run_pure];split<;>omega
    simpa[this]using ih
   |false=>
    have:(Builtin.min2 (.int kd' n) (.int kd' m')).run P w = .ok (.int kd' (min n m')) w:=by
     simp[Builtin.min2,Sem.run_pure];split<;>omega
    simpa[this]using ih
  ·cases hm
theorem mm_ok{c:Call}{mx:Bool}{ps:List Opd}(hop:o.op = .call c)(hc:c.callee = .builtin (if mx then .max else .min))(hp:opds c.args.toList=some ps)(hE:evO E o.dst (.mm mx ps) s k):o.wpIn X.F X.n X.P a C.w next Q:=by
 simp only[evO,evX,app]at hE
 split at hE
 ·rename_i kd n vs hv
  have e1:=evl_ok h hp hv
  simp only[RVs]at e1
  obtain⟨x,xs,e2,e3,e4⟩:=e1
  simp only[RV]at e3;subst e3
  have e2':(c.args.map a.eval).toList = .int kd n::xs:=by simpa using e2
  split at hE
  ·rename_i m hm
   have hrun:=mm_run (P:=X.P) (w:=C.w) e4 hm
   refine up_pure hX hk h hd (x:=.int kd m) (fun c=>by simp[hop]) ?_ (by simp only[RV]) hE
   cases mx with
   |true=>
    have h5:(Builtin.max_ c.argTypes o.type (c.args.map a.eval)).run X.P C.w = .ok (.int kd m) C.w:=by
     simp only[Builtin.max_,e2'];simpa using hrun
    simp[execOp,hop,hc,resolve,invoke,builtin,h5]
   |false=>
    have h5:(Builtin.min_ c.argTypes o.type (c.args.map a.eval)).run X.P C.w = .ok (.int kd m) C.w:=by
     simp only[Builtin.min_,e2'];simpa using hrun
    simp[execOp,hop,hc,resolve,invoke,builtin,h5]
  ·exact hE.elim
 ·exact hE.elim
theorem slen_ok{c:Call}{x:Operand}{t:TypeId}{p:Opd}(hop:o.op = .call c)(hc:c.callee = .builtin .len)(ha:c.args.toList=[x])(hat:c.argTypes.toList=[t])
  (ht:X.P.underlying t=some .string) (hp:opd x=some p) (hE:evO E o.dst (.slen p) s k):o.wpIn X.F X.n X.P a C.w next Q:=by
 have ha':c.args = #[x]:=by apply Array.ext';simpa using ha
 have hat':c.argTypes = #[t]:=by apply Array.ext';simpa using hat
 simp only[evO,evX,app]at hE
 split at hE
 ·rename_i b hv
  have e1:=ev_ok h hp hv
  simp only[RV]at e1
  refine up_pure hX hk h hd (v:=.int .i64 b.length) (x:=.int .i64 b.length) (fun c=>by simp[hop]) ?_ (by simp only[RV]) hE
  have hsz:(⟨b.toArray⟩:ByteArray).size=b.length:=by simp[ByteArray.size]
  simp[execOp,hop,hc,ha',hat',resolve,invoke,builtin,Builtin.len_,run_underlying ht,e1,Sem.run_pure,goInt,hsz]
 ·exact hE.elim
omit hX hk h hd in
theorem eqIn_bool{P:Program}{t:TypeId}(ht:P.underlying t=some .bool)(d:Nat)(m n:Bool)(w:World):(Op.equalIn (d+1) t (.bool m) (.bool n)).run P w = .ok (m==n) w:=by
 simp[Op.equalIn,run_underlying ht,Sem.run_pure]
omit hX hk h hd in
theorem eqIn_int{P:Program}{t:TypeId}{j:IntKind}(ht:P.underlying t=some (.int j))(d:Nat)(kd:IntKind)(m n:Int)(w:World):(Op.equalIn (d+1) t (.int kd m) (.int kd n)).run P w = .ok (m==n) w:=by
 simp[Op.equalIn,run_underlying ht,Sem.run_pure]
omit hX hk h hd in
theorem equal_succ(t:TypeId)(x y:Value):Op.equal t x y=Op.equalIn (9999+1) t x y:=rfl
omit hX hk h hd in
theorem eqIn_nil{P:Program}{t e:TypeId}(ht:P.underlying t=some (.slice e))(d:Nat)(b:Option Addr)(n m:Nat)(w:World):(Op.equalIn (d+1) t (.slice b n m) (.slice none 0 0)).run P w = .ok b.isNone w:=by
 cases b<;>simp[Op.equalIn,run_underlying ht,Sem.run_pure]
theorem eqb_ok{op:BinOp}{t u:TypeId}{x y:Operand}{p q:Opd}{neg:Bool}(hop:o.op = .binOp op t x y u)(ht:X.P.underlying t=some .bool)(hn:op = .eql/\neg=false\/op = .neq/\neg=true)
  (hp:opd x=some p) (hq:opd y=some q) (hE:evO E o.dst (.eqb neg p q) s k):o.wpIn X.F X.n X.P a C.w next Q:=by
 simp only[evO,evX,app]at hE
 split at hE
 ·rename_i m n h1 h2
  have e1:=ev_ok h hp h1
  have e2:=ev_ok h hq h2
  simp only[RV]at e1 e2
  rcases hn with⟨rfl,rfl⟩|⟨rfl,rfl⟩
  ·refine up_pure hX hk h hd (x:=.bool (m==n)) (fun c=>by simp[hop]) ?_ (by simp[RV]) hE
   simp[execOp,hop,e1,e2,eqGuard,binOp,equal_succ,eqIn_bool ht,Sem.run_pure]
  ·refine up_pure hX hk h hd (x:=.bool (m != n)) (fun c=>by simp[hop]) ?_ (by simp[RV]) hE
   simp[execOp,hop,e1,e2,eqGuard,binOp,equal_succ,eqIn_bool ht,Sem.run_pure]
   cases m<;>cases n<;>rfl
 ·exact hE.elim
theorem eqn_ok{op:BinOp}{t u el:TypeId}{x y:Operand}{p:Opd}{neg:Bool}(hop:o.op = .binOp op t x y u)(ht:X.P.underlying t=some (.slice el))(hn:op = .eql/\neg=false\/op = .neq/\neg=true)
  (hp:opd x=some p) (hq:opd y=some (.c .nils)) (hE:evO E o.dst (.eqn neg p) s k):o.wpIn X.F X.n X.P a C.w next Q:=by
 have e2:a.eval y = .slice none 0 0:=by
  have:=ev_ok h hq (v:=.nils) rfl
  simpa only[RV]using this
 simp only[evO,evX,app]at hE
 split at hE
 ·rename_i h1
  have e1:=ev_ok h hp h1
  simp only[RV]at e1
  rcases hn with⟨rfl,rfl⟩|⟨rfl,rfl⟩
  ·refine up_pure hX hk h hd (x:=.bool true) (fun c=>by simp[hop]) ?_ (by simp[RV]) hE
   simp[execOp,hop,e1,e2,eqGuard,binOp,equal_succ,eqIn_nil ht,Sem.run_pure]
  ·refine up_pure hX hk h hd (x:=.bool false) (fun c=>by simp[hop]) ?_ (by simp[RV]) hE
   simp[execOp,hop,e1,e2,eqGuard,binOp,equal_succ,eqIn_nil ht,Sem.run_pure]
 ·rename_i es h1
  have e1:=ev_ok h hp h1
  simp only[RV,RV0]at e1
  obtain⟨h0,hE⟩:=hE
  rcases e1 with⟨_,e⟩|⟨sz,b,off,cap,e1,_⟩
  ·subst e;simp at h0
  rcases hn with⟨rfl,rfl⟩|⟨rfl,rfl⟩
  ·refine up_pure hX hk h hd (x:=.bool false) (fun c=>by simp[hop]) ?_ (by simp[RV]) hE
   simp[execOp,hop,e1,e2,eqGuard,binOp,equal_succ,eqIn_nil ht,Sem.run_pure]
  ·refine up_pure hX hk h hd (x:=.bool true) (fun c=>by simp[hop]) ?_ (by simp[RV]) hE
   simp[execOp,hop,e1,e2,eqGuard,binOp,equal_succ,eqIn_nil ht,Sem.run_pure]
 ·rename_i h1
  have e1:=ev_ok h hp h1
  simp only[RV]at e1
  rcases hn with⟨rfl,rfl⟩|⟨rfl,rfl⟩
  ·refine up_pure hX hk h hd (x:=.bool false) (fun c=>by simp[hop]) ?_ (by simp[RV]) hE
   simp[execOp,hop,e1,e2,eqGuard,binOp,equal_succ,eqIn_nil ht,Sem.run_pure]
  ·refine up_pure hX hk h hd (x:=.bool true) (fun c=>by simp[hop]) ?_ (by simp[RV]) hE
   simp[execOp,hop,e1,e2,eqGuard,binOp,equal_succ,eqIn_nil ht,Sem.run_pure]
 ·exact hE.elim
def isVal(ag:Bool)(vs:List Value)(x:Value):Prop:=match ag with
 |true=>x = .agg vs.toArray
 |false=>vs=[x]
omit hX hk h hd in
theorem part_val{P:Program}{ag:Bool}{n off:Nat}{vs:List Value}{t:TypeId}(hag:aggOf P t=some ag)(hsz:szOf P t=some n)(hn:ag=false->((vs.drop off).take n).length=1)(w:World) :
  ∃x,(part t vs.toArray off).run P w = .ok x w/\isVal ag ((vs.drop off).take n) x:=by
 have hi:(isAgg t).run P w = .ok ag w:=by
  simp only[aggOf]at hag
  split at hag<;>first|(cases hag;done)|skip
  all_goals
   rename_i h1
   cases hag
   simp[isAgg,run_underlying h1]
 cases ag with
 |true=>
  refine⟨.agg ((vs.drop off).take n).toArray,?_,rfl⟩
  have:vs.toArray.extract off (off+n)=((vs.drop off).take n).toArray:=by
   apply Array.ext'
   simp[List.extract_eq_take_drop]
  simp[part,hi,sz_run hsz,this,Sem.run_pure]
 |false=>
  have h1:=hn rfl
  match hv:(vs.drop off).take n,h1 with
  | [x],_=>
   refine⟨x,?_,rfl⟩
   have h2:((vs.drop off).take n)[0]?=some x:=by rw[hv];rfl
   have h3:vs[off]?=some x:=by
    rw[List.getElem?_take]at h2
    split at h2
    ·simpa using h2
    ·cases h2
   simp[part,hi,h3,Sem.run_pure]
omit hX hk h hd in
theorem eqT_ok{P:Program}:∀(n:Nat) (t:TypeId) (T:EqT),eqTree P n t=some T->∀(d:Nat),n<=d->∀(as bs:List AV) (vs us:List Value) (r:Bool),RVs C as vs->RVs C bs us->eqV T as bs=some r ->
  ∃ag,aggOf P t=some ag/\(ag=false->vs.length=1/\us.length=1)/\∀(x y:Value) (w:World),isVal ag vs x->isVal ag us y->(Op.equalIn d t x y).run P w = .ok r w
 |0,t,T,hT,_,_,_,_,_,_,_,_,_,_=>by simp[eqTree]at hT
 |n+1,t,T,hT,0,hd,_,_,_,_,_,_,_,_=>by omega
 |n+1,t,T,hT,d+1,hd,as,bs,vs,us,r,hv,hu,he=>by
  simp only[eqTree]at hT
  split at hT
  ·rename_i kd ht
   cases hT
   simp only[eqV]at he
   split at he
   ·rename_i a b
    simp only[RVs]at hv hu
    obtain⟨x',_,rfl,h1,rfl⟩:=hv
    obtain⟨y',_,rfl,h2,rfl⟩:=hu
    refine⟨false,by simp[aggOf,ht],fun _=>⟨rfl,rfl⟩,fun x y w hx hy=>?_⟩
    simp only[isVal]at hx hy;cases hx;cases hy
    simp only[eq1]at he
    split at he
    ·simp only[RV]at h1 h2;subst h1 h2
     split at he
     ·rename_i hkk;subst hkk;cases he;exact eqIn_int ht d _ _ _ w
     ·cases he
    ·rename_i e;cases e
    ·cases he
   ·cases he
  ·rename_i ht
   cases hT
   simp only[eqV]at he
   split at he
   ·rename_i a b
    simp only[RVs]at hv hu
    obtain⟨x',_,rfl,h1,rfl⟩:=hv
    obtain⟨y',_,rfl,h2,rfl⟩:=hu
    refine⟨false,by simp[aggOf,ht],fun _=>⟨rfl,rfl⟩,fun x y w hx hy=>?_⟩
    simp only[isVal]at hx hy;cases hx;cases hy
    simp only[eq1]at he
    split at he
    ·rename_i e;cases e
    ·simp only[RV]at h1 h2;subst h1 h2;cases he;exact eqIn_bool ht d _ _ w
    ·cases he
   ·cases he
  ·rename_i fs ht
   split at hT
   ·cases hT
   ·rename_i hst
    split at hT
    ·rename_i l hl
     cases hT
     refine⟨true,by simp[aggOf,ht],fun e=>absurd e (by simp),fun x y w hx hy=>?_⟩
     simp only[isVal]at hx hy;subst hx hy
     have hfo:P.fieldsOf t=fs:=by simp[Program.fieldsOf,ht]
     rw[run_equalIn_struct w d t vs.toArray us.toArray (by rw[hfo];exact ht) (by simpa using hst),hfo]
     simp only[eqV]at he
     have key:∀(fl:List Field) (l:List (Nat × Nat × EqT)) (r:Bool),eqTreeL P (eqTree P n) fl=some l->eqVs l as bs=some r->∀w,(Op.eqFields d vs.toArray us.toArray fl).run P w = .ok r w:=by
      intro fl
      induction fl with
      |nil=>
       intro l r hl he w
       simp only[eqTreeL,Option.some.injEq]at hl;subst hl
       simp only[eqVs,Option.some.injEq]at he;subst he
       simp[Op.eqFields,Sem.run_pure]
      |cons f fl ih=>
       intro l r hl he w
       simp only[eqTreeL]at hl
       split at hl
       ·cases hl
       ·rename_i hnm
        split at hl
        ·rename_i T m l' h1 h2 h3
         cases hl
         simp only[eqVs]at he
         split at he
         ·rename_i r1 r2 h4 h5
          cases he
          obtain⟨ag,h6,h7,h8⟩:=eqT_ok n f.type T h1 d (by omega) _ _ _ _ r1 ((hv.drop f.offset).take m) ((hu.drop f.offset).take m) h4
          obtain⟨x,h9,h10⟩:=part_val (off:=f.offset) (vs:=vs) h6 h2 (fun e=>(h7 e).1) w
          obtain⟨y,h11,h12⟩:=part_val (off:=f.offset) (vs:=us) h6 h2 (fun e=>(h7 e).2) w
          have h13:=h8 x y w h10 h12
          have hnm':f.name ≠ "_" :=by simpa using hnm
          simp only[Op.eqFields,hnm',ne_eq,not_false_eq_true,if_true,Sem.run_bind,h9,h11,h13,Result.andThen_ok]
          cases r1 with
          |true=>simpa using ih l' r2 h3 h5 w
          |false=>simp[Sem.run_pure]
         ·cases he
        ·cases hl
     exact key fs.toList l r hl he w
    ·cases hT
  ·rename_i m e ht
   split at hT
   ·rename_i T' c h1 h2
    cases hT
    refine⟨true,by simp[aggOf,ht],fun e=>absurd e (by simp),fun x y w hx hy=>?_⟩
    simp only[isVal]at hx hy;subst hx hy
    obtain⟨i,hi,hc⟩:∃i,P.info? e=some i/\i.size=c:=by
     simp only[szOf,Option.map_eq_some_iff]at h2;exact h2
    rw[run_equalIn_array w d vs.toArray us.toArray ht hi]
    have hce:P.cellsOf e=c:=by simp[Program.cellsOf,hi,hc]
    rw[hce]
    simp only[eqV]at he
    have key:∀(is:List Nat) (r:Bool),eqVs (is.map fun i=>(i*c,c,T')) as bs=some r->(Op.eqItems d e c vs.toArray us.toArray is).run P w = .ok r w:=by
     intro is
     induction is with
     |nil=>
      intro r he
      simp only[List.map_nil,eqVs,Option.some.injEq]at he;subst he
      simp[Op.eqItems,Sem.run_pure]
     |cons j is ih=>
      intro r he
      simp only[List.map_cons,eqVs]at he
      split at he
      ·rename_i r1 r2 h4 h5
       cases he
       obtain⟨ag,h6,h7,h8⟩:=eqT_ok n e T' h1 d (by omega) _ _ _ _ r1 ((hv.drop (j*c)).take c) ((hu.drop (j*c)).take c) h4
       obtain⟨x,h9,h10⟩:=part_val (off:=j*c) (vs:=vs) h6 h2 (fun e=>(h7 e).1) w
       obtain⟨y,h11,h12⟩:=part_val (off:=j*c) (vs:=us) h6 h2 (fun e=>(h7 e).2) w
       have h13:=h8 x y w h10 h12
       simp only[Op.eqItems,Sem.run_bind,h9,h11,h13,Result.andThen_ok]
       cases r1 with
       |true=>simpa using ih r2 h5
       |false=>simp[Sem.run_pure]
      ·cases he
    exact key (List.range m) r he
   ·cases hT
  ·cases hT
theorem eqs_ok{op:BinOp}{t u:TypeId}{x y:Operand}{p q:Opd}{neg:Bool}{T:EqT}{fs:Array Field}(hop:o.op = .binOp op t x y u)(ht:X.P.underlying t=some (.struct fs))(hgd:X.P.eqGuardType X.P.depth t=false)
  (hT:eqTree X.P 4 t=some T) (hn:op = .eql/\neg=false\/op = .neq/\neg=true) (hp:opd x=some p) (hq:opd y=some q) (hE:evO E o.dst (.eqs neg T p q) s k):o.wpIn X.F X.n X.P a C.w next Q:=by
 simp only[evO,evX,app]at hE
 split at hE
 ·rename_i as bs h1 h2
  have e1:=ev_ok h hp h1
  have e2:=ev_ok h hq h2
  simp only[RV]at e1 e2
  obtain⟨vs,e1,hv⟩:=e1
  obtain⟨us,e2,hu⟩:=e2
  split at hE
  ·rename_i r hr
   obtain⟨ag,h6,h7,h8⟩:=eqT_ok 4 t T hT (9999+1) (by omega) as bs vs us r hv hu hr
   have hag:ag=true:=by simp[aggOf,ht]at h6;exact h6
   subst hag
   have h9:=h8 _ _ C.w rfl rfl
   rcases hn with⟨rfl,rfl⟩|⟨rfl,rfl⟩
   ·refine up_pure hX hk h hd (x:=.bool r) (fun c=>by simp[hop]) ?_ (by simp[RV]) hE
    simp[execOp,hop,e1,e2,eqGuard,binOp,equal_succ,h9,hgd,Sem.run_pure]
   ·refine up_pure hX hk h hd (x:=.bool (!r)) (fun c=>by simp[hop]) ?_ (by simp[RV]) hE
    simp[execOp,hop,e1,e2,eqGuard,binOp,equal_succ,h9,hgd,Sem.run_pure]
  ·exact hE.elim
 ·exact hE.elim
omit hX hk h hd in
theorem foldl_setL:∀(xs:List Value) (i off:Nat) (cs:List Value),off+i+xs.length<=cs.length ->
  (xs.zipIdx i).foldl (fun(cs:Array Value) (p:Value × Nat)=>cs.setIfInBounds (off+p.2) p.1) cs.toArray=(cs.take (off+i)++xs++cs.drop (off+i+xs.length)).toArray
 | [],i,off,cs,_=>by simp
 |x::xs,i,off,cs,hl=>by
  simp only[List.length_cons]at hl
  have h1:=foldl_setL xs (i+1) off (cs.set (off+i) x) (by simp;omega)
  simp only[List.zipIdx_cons,List.foldl_cons,List.setIfInBounds_toArray]
  rw[h1]
  congr 1
  rw[show off+(i+1)=off+i+1 from by omega]
  have h2:(cs.set (off+i) x).take (off+i+1)=cs.take (off+i)++[x]:=by
   rw[List.take_succ_eq_append_getElem (by simp;omega)]
   simp[List.take_set_of_le]
  rw[h2,List.drop_set_of_lt (by omega)]
  have h3:off+i+1+xs.length=off+i+(xs.length+1):=by omega
  rw[h3]
  simp
omit hX hk h hd in
theorem foldl_set(xs:List Value)(i off:Nat)(cs:List Value)(hl:off+i+xs.length<=cs.length) :
  (xs.toArray.zipIdx i).foldl (fun(cs:Array Value) (p:Value × Nat)=>cs.setIfInBounds (off+p.2) p.1) cs.toArray=(cs.take (off+i)++xs++cs.drop (off+i+xs.length)).toArray:=by
 rw[<- Array.foldl_toList,<- foldl_setL xs i off cs hl]
 simp
omit hX hk h hd in
theorem bparts_ok(h:Rel X C s a){fs:Array Field}{t:TypeId}(ht:X.P.underlying t=some (.struct fs))(places:Array (Nat × Nat))
  (hpl:∀(f off sz:Nat) (u:TypeId),fldOf X.P t f=some (off,sz,u)->places[f]?=some (off,sz)) :
  ∀(ps:List (Nat × Operand)) (qs:List (Nat × Nat × Opd)),bparts X.P t ps=some qs->∀(zs cs:List AV) (us:List Value),RVs C zs us->evX.evBuild s zs qs=some cs ->
   ∃vs,Instr.fill (fun i=>places[i]?) us.toArray (ps.map fun p=>(p.1,a.eval p.2))=some vs.toArray/\RVs C cs vs
 | [],qs,hq,zs,cs,us,hz,he=>by
  simp only[bparts,Option.some.injEq]at hq;subst hq
  simp only[evX.evBuild,Option.some.injEq]at he;subst he
  exact⟨us,by simp[Instr.fill],hz⟩
 |(f,x)::ps,qs,hq,zs,cs,us,hz,he=>by
  simp only[bparts]at hq
  split at hq
  ·rename_i off sz u p r h1 h2 h3
   cases hq
   have hp:=hpl f off sz u h1
   have fin:∀(ws:List AV) (x':Value),RVs C ws x'.cells.toList->ws.length=sz->off+sz<=zs.length->a.eval x=x'->evX.evBuild s (splice zs off ws) r=some cs ->
     ∃vs,Instr.fill (fun i=>places[i]?) us.toArray (((f,x)::ps).map fun p=>(p.1,a.eval p.2))=some vs.toArray/\RVs C cs vs:=fun ws x' hw hl hle e1 hb=>by
    have hul:=hz.length
    have hxl:=hw.length
    obtain⟨vs,h4,h5⟩:=bparts_ok h ht places hpl ps r h3 _ cs _ (hz.splice hw (n:=off) (by omega)) hb
    refine⟨vs,?_,h5⟩
    simp only[List.map_cons,Instr.fill,hp,e1]
    have hxl':x'.cells.size=sz:=by simp at hxl;omega
    rw[if_neg (by simp[hxl'];omega)]
    have h6:=foldl_set x'.cells.toList 0 off us (by simp[hxl'];omega)
    simp only[Array.toArray_toList,Nat.add_zero]at h6
    rw[h6]
    exact h4
   simp only[evX.evBuild]at he
   split at he
   ·rename_i ws hv
    have e1:=ev_ok h h2 hv
    simp only[RV]at e1
    obtain⟨xs,e1,hxs⟩:=e1
    split at he
    ·rename_i hle
     exact fin ws _ (by simpa[Value.cells]using hxs) hle.1 hle.2 e1 he
    ·cases he
   ·rename_i v hna hv
    split at he
    ·rename_i hle
     obtain⟨rfl,hone,hle⟩:=hle
     have e1:=ev_ok h h2 hv
     exact fin [v] (a.eval x) (by rw[cells_one (RV.one h hone e1)];simp[RVs,e1]) rfl hle rfl he
    ·cases he
   ·cases he
  ·cases hq
omit hX hk h hd in
theorem places_run{P:Program}(fs:List Field)(w:World)(hsz:∀f∈fs,∃n,szOf P f.type=some n) :
  (fs.mapM fun f=>(Functor.map (Prod.mk f.offset) (sizeOf f.type):Sem (Nat × Nat))).run P w = .ok (fs.map fun f=>(f.offset,(szOf P f.type).getD 0)) w:=by
 induction fs with
 |nil=>simp[Sem.run_pure]
 |cons f fs ih=>
  obtain⟨n,hn⟩:=hsz f (by simp)
  have ih':=ih (fun g hg=>hsz g (by simp[hg]))
  simp only[List.mapM_cons,Sem.run_bind,Sem.run_map,sz_run hn,Result.andThen_ok,Sem.run_pure,ih',List.map_cons,hn,Option.getD_some]
theorem build_ok{t:TypeId}{ps:Array (Nat × Operand)}{zs:List AV}{qs:List (Nat × Nat × Opd)}{fs:Array Field}(hop:o.op = .build t ps)(ht:X.P.underlying t=some (.struct fs))
  (hall:fs.toList.all (fun f=>(szOf X.P f.type).isSome)=true) (hz:zsOf X.P t=some zs) (hq:bparts X.P t ps.toList=some qs) (hE:evO E o.dst (.build zs qs) s k):o.wpIn X.F X.n X.P a C.w next Q:=by
 simp only[evO,evX,app]at hE
 split at hE
 ·rename_i cs hc
  obtain⟨z,h1,h2⟩:=zs_ok' (C:=C) hz
  have hpr:=places_run (P:=X.P) fs.toList C.w (fun f hf=>by
   have:=List.all_eq_true.1 hall f hf
   exact Option.isSome_iff_exists.1 this)
  obtain⟨vs,h3,h4⟩:=bparts_ok h ht (fs.toList.map fun f=>(f.offset,(szOf X.P f.type).getD 0)).toArray (fun f off sz u hf=>by
   obtain⟨fs',fd,h5,h6,h7,h8,h9,_⟩:=fld_run hf
   rw[ht]at h5;cases h5
   have:fs.toList[f]?=some fd:=by simpa using h6
   simp[this,h7,h8,h9]) ps.toList qs hq zs cs _ h2 hc
  refine up_pure hX hk h hd (v:=.agg cs) (x:=.agg vs.toArray) (fun c=>by simp[hop]) ?_ (by simp only[RV];exact⟨vs,rfl,h4⟩) hE
  simp only[Array.toArray_toList]at h3
  simp[execOp,hop,Instr.build,h1,run_underlying ht,Array.mapM_eq_mapM_toList,hpr,Sem.run_pure,Sem.run_map]
  have h3':Instr.fill (fun x=>Option.map (fun f=>(f.offset,(szOf X.P f.type).getD 0)) fs[x]?) z.cells (List.map (fun p=>(p.fst,a.eval p.snd)) ps.toList)=some vs.toArray:=by
   rw[<- h3];congr 1;funext i;simp
  rw[h3']
  simp[Sem.run_pure]
 ·exact hE.elim
omit hX hk h hd in
mutual
theorem RV.to0:∀(v:AV) (x:Value),v.pu=true->RV C v x->RV0 C.imm C.w v x
 |.bool _,_,_,h=>by simpa[RV,RV0]using h
 |.int _ _,_,_,h=>by simpa[RV,RV0]using h
 |.str _,_,_,h=>by simpa[RV,RV0]using h
 |.lit _,_,_,h=>by simpa[RV,RV0]using h
 |.agg cs,v,hp,h=>by
  simp only[RV,RV0,AV.pu]at h hp⊢;obtain⟨vs,rfl,h⟩:=h;exact⟨vs,rfl,RVs.to0 cs vs hp h⟩
 |.tup cs,v,hp,h=>by
  simp only[RV,RV0,AV.pu]at h hp⊢;obtain⟨vs,rfl,h⟩:=h;exact⟨vs,rfl,RVs.to0 cs vs hp h⟩
 |.fn f cs,v,hp,h=>by
  simp only[RV,RV0,AV.pu]at h hp⊢;obtain⟨vs,rfl,h⟩:=h;exact⟨vs,rfl,RVs.to0 cs vs hp h⟩
 |.isl es,v,_,h=>by simpa only[RV]using h
 |.nils,v,_,h=>by simpa[RV,RV0]using h
 |.ipt cs,v,_,h=>by simpa only[RV]using h
 |.imp _ _,v,_,h=>by simpa only[RV]using h
 |.tsl _ _,v,_,h=>by simpa only[RV]using h
 |.mth _ _,v,_,h=>by simpa only[RV]using h
 |.any,v,_,h=>by simpa only[RV,RV0]using h
 |.own _ _,_,hp,_=>by cases hp
 |.elt _ _ _ _,_,hp,_=>by cases hp
 |.row _,_,hp,_=>by cases hp
 |.cut _ _ _ _,_,hp,_=>by cases hp
 |.yld,_,hp,_=>by cases hp
 |.gone,_,hp,_=>by cases hp
theorem RVs.to0:∀(as:List AV) (vs:List Value),AV.puL as=true->RVs C as vs->RV0s C.imm C.w as vs
 | [],vs,_,h=>by simpa[RV0s,RVs]using h
 |a::as,vs,hp,h=>by
  simp only[RV0s,RVs,AV.puL,Bool.and_eq_true]at h hp⊢;obtain⟨v,vs',rfl,h1,h2⟩:=h
  exact⟨v,vs',rfl,RV.to0 a v hp.1 h1,RVs.to0 as vs' hp.2 h2⟩
end
omit hX hk h hd in
mutual
theorem flat0{C:Ctx}:∀(v:AV) (x:Value),v.flat=true->RV C v x->RV0 (fun _=>False) C.w v x
 |.bool _,_,_,h=>by simpa[RV,RV0]using h
 |.int _ _,_,_,h=>by simpa[RV,RV0]using h
 |.str _,_,_,h=>by simpa[RV,RV0]using h
 |.nils,_,_,h=>by simpa[RV,RV0]using h
 |.agg cs,v,hf,h=>by simp only[RV,RV0,AV.flat]at h hf⊢;obtain⟨vs,rfl,h⟩:=h;exact⟨vs,rfl,flat0s cs vs hf h⟩
 |.tup cs,v,hf,h=>by simp only[RV,RV0,AV.flat]at h hf⊢;obtain⟨vs,rfl,h⟩:=h;exact⟨vs,rfl,flat0s cs vs hf h⟩
 |.lit _,_,hf,_=>by simp[AV.flat]at hf
 |.fn _ _,_,hf,_=>by simp[AV.flat]at hf
 |.isl _,_,hf,_=>by simp[AV.flat]at hf
 |.ipt _,_,hf,_=>by simp[AV.flat]at hf
 |.own _ _,_,hf,_=>by simp[AV.flat]at hf
 |.elt _ _ _ _,_,hf,_=>by simp[AV.flat]at hf
 |.row _,_,hf,_=>by simp[AV.flat]at hf
 |.cut _ _ _ _,_,hf,_=>by simp[AV.flat]at hf
 |.yld,_,hf,_=>by simp[AV.flat]at hf
 |.gone,_,hf,_=>by simp[AV.flat]at hf
theorem flat0s{C:Ctx}:∀(as:List AV) (vs:List Value),AV.flatL as=true->RVs C as vs->RV0s (fun _=>False) C.w as vs
 | [],vs,_,h=>by simpa[RVs,RV0s]using h
 |a::as,vs,hf,h=>by
  simp only[RVs,RV0s,AV.flatL,Bool.and_eq_true]at h hf⊢;obtain⟨v,vs',rfl,h1,h2⟩:=h
  exact⟨v,vs',rfl,flat0 a v hf.1 h1,flat0s as vs' hf.2 h2⟩
end
omit hX hk h hd in
mutual
theorem RV0.flat{imm:Nat->Prop}{w:World}:∀(v:AV) (x:Value),v.flat=true->RV0 imm w v x->RV C v x
 |.bool _,_,_,h=>by simpa[RV,RV0]using h
 |.int _ _,_,_,h=>by simpa[RV,RV0]using h
 |.str _,_,_,h=>by simpa[RV,RV0]using h
 |.lit _,_,hp,_=>by cases hp
 |.agg cs,v,hp,h=>by
  simp only[RV,RV0,AV.flat]at h hp⊢;obtain⟨vs,rfl,h⟩:=h;exact⟨vs,rfl,RV0s.flat cs vs hp h⟩
 |.tup cs,v,hp,h=>by
  simp only[RV,RV0,AV.flat]at h hp⊢;obtain⟨vs,rfl,h⟩:=h;exact⟨vs,rfl,RV0s.flat cs vs hp h⟩
 |.fn _ _,_,hp,_=>by cases hp
 |.isl _,_,hp,_=>by cases hp
 |.nils,_,_,h=>by simpa[RV,RV0]using h
 |.ipt _,_,hp,_=>by cases hp
 |.own _ _,_,hp,_=>by cases hp
 |.elt _ _ _ _,_,hp,_=>by cases hp
 |.row _,_,hp,_=>by cases hp
 |.cut _ _ _ _,_,hp,_=>by cases hp
 |.yld,_,hp,_=>by cases hp
 |.gone,_,hp,_=>by cases hp
theorem RV0s.flat{imm:Nat->Prop}{w:World}:∀(as:List AV) (vs:List Value),AV.flatL as=true->RV0s imm w as vs->RVs C as vs
 | [],vs,_,h=>by simpa[RV0s,RVs]using h
 |a::as,vs,hp,h=>by
  simp only[RV0s,RVs,AV.flatL,Bool.and_eq_true]at h hp⊢;obtain⟨v,vs',rfl,h1,h2⟩:=h
  exact⟨v,vs',rfl,RV0.flat a v hp.1 h1,RV0s.flat as vs' hp.2 h2⟩
end
def immAll(C:Ctx)(s:St)(b:Nat):Prop:=C.imm b\/∃i,(s.sg.getD i .fresh).blk (C.rho i)=some b
omit hX hk h hd in
theorem RV0c.of_box{imm:Nat->Prop}{w:World}{b:Nat}{cs:List AV}{vs:List Value}{el:TypeId}(hh:w.heap[b]?=some (.cells vs.toArray el (0,0)))(hv:RV0s imm w cs vs):RV0c imm w b 0 cs:=
 RV0c.of_list hv fun j u hu=>by simp[World.cell?,hh,hu]
omit hX hk h hd in
theorem isl_of_row{imm:Nat->Prop}{w:World}{B:Nat}{el:TypeId}{sz:Nat}{v:Value}{es:List (List AV)}{xs:List Value}(ho:w.ownsRow B el sz v es.length xs)(hx:RV0s imm w es.flatten xs)(hl:∀e∈es,e.length=sz)
  (hi:∀b,v.ownBlock=some b->imm b):RV0 imm w (.isl es) v:=by
 simp only[RV0]
 rcases ho.2 with⟨rfl,h0⟩|⟨g,cap,cur,rfl,_,hg,hc,_,_,htake⟩
 ·exact .inl ⟨⟨_,rfl⟩,List.eq_nil_of_length_eq_zero h0⟩
 ·refine .inr ⟨sz,g,0,cap,rfl,hc,hi g rfl,RV0r.of_flat hl (RV0c.of_list hx fun j u hu=>?_)⟩
  have:=ho.cells (g:=g) rfl j u hu
  rwa [add_off]at this
omit hX hk hd in
theorem own_blk{i:Nat}{ice:Bool}{cs:List AV}(hr:s.sg.getD i .fresh = .box ice cs):∃b vs el,C.rho i=some ⟨b, .pointer (some ⟨b,0,none⟩)⟩/\C.w.heap[b]?=some (.cells vs.toArray el (0,0))/\RVs C cs vs/\(s.sg.getD i .fresh).blk (C.rho i)=some b:=by
 have hs:=h.sg i
 rw[hr]at hs
 obtain⟨b,vs,el,h1,_,h3,h4,_⟩:=hs
 exact⟨b,vs,el,h1,h3,h4,by rw[hr,h1];rfl⟩
omit hX hk h hd in
theorem mapO_ok{C:Ctx}{imm:Nat->Prop}{f:AV->Option AV}(hf:∀v x v',f v=some v'->RV C v x->RV0 imm C.w v' x) :
  ∀(as:List AV) (vs:List Value) (as':List AV),mapO f as=some as'->RVs C as vs->RV0s imm C.w as' vs
 | [],vs,as',hm,hv=>by
  simp only[mapO,Option.some.injEq]at hm;subst hm
  simpa[RVs,RV0s]using hv
 |a::as,vs,as',hm,hv=>by
  simp only[mapO]at hm
  split at hm
  ·rename_i d ds h1 h2
   cases hm
   simp only[RVs]at hv;obtain⟨v,vs',rfl,h3,h4⟩:=hv
   simp only[RV0s]
   exact⟨v,vs',rfl,hf _ _ _ h1 h3,mapO_ok hf as vs' ds h2 h4⟩
  ·cases hm
omit hX hk hd in
theorem frz_ok:∀(n:Nat) (v:AV) (x:Value) (v':AV),AV.frz s.sg n v=some v'->RV C v x->RV0 (immAll C s) C.w v' x:=by
 have hp:Pers C.imm (immAll C s) C.w C.w:=fun b hb=>⟨.inl hb,rfl⟩
 intro n
 induction n with
 |zero=>intro v x v' hv;simp[AV.frz]at hv
 |succ n ih=>
  intro v x v' hv hx
  cases v with
  |bool b=>simp only[AV.frz,Option.some.injEq]at hv;subst hv;simpa[RV,RV0]using hx
  |int k m=>simp only[AV.frz,Option.some.injEq]at hv;subst hv;simpa[RV,RV0]using hx
  |str b=>simp only[AV.frz,Option.some.injEq]at hv;subst hv;simpa[RV,RV0]using hx
  |lit b=>simp only[AV.frz,Option.some.injEq]at hv;subst hv;simpa[RV,RV0]using hx
  |isl es=>simp only[AV.frz,Option.some.injEq]at hv;subst hv;exact RV0.mono hp _ _ (by simpa only[RV]using hx)
  |nils=>simp only[AV.frz,Option.some.injEq]at hv;subst hv;exact .inl ⟨⟨none,by simpa only[RV]using hx⟩,rfl⟩
  |ipt cs=>simp only[AV.frz,Option.some.injEq]at hv;subst hv;exact RV0.mono hp _ _ (by simpa only[RV]using hx)
  |imp ks us=>simp only[AV.frz,Option.some.injEq]at hv;subst hv;exact RV0.mono hp _ _ (by simpa only[RV]using hx)
  |tsl _ es=>simp only[AV.frz,Option.some.injEq]at hv;subst hv;exact RV0.tsl_isl (RV0.mono hp _ _ (by simpa only[RV]using hx))
  |mth _ _=>cases hv
  |any=>simp only[AV.frz,Option.some.injEq]at hv;subst hv;simpa only[RV,RV0]using hx
  |agg cs=>
   simp only[AV.frz]at hv
   split at hv
   ·rename_i ds hm
    cases hv
    simp only[RV,RV0]at hx⊢;obtain⟨vs,rfl,hx⟩:=hx
    exact⟨vs,rfl,mapO_ok ih cs vs ds hm hx⟩
   ·cases hv
  |tup cs=>
   simp only[AV.frz]at hv
   split at hv
   ·rename_i ds hm
    cases hv
    simp only[RV,RV0]at hx⊢;obtain⟨vs,rfl,hx⟩:=hx
    exact⟨vs,rfl,mapO_ok ih cs vs ds hm hx⟩
   ·cases hv
  |fn f cs=>
   simp only[AV.frz]at hv
   split at hv
   ·rename_i ds hm
    cases hv
    simp only[RV,RV0]at hx⊢;obtain⟨vs,rfl,hx⟩:=hx
    exact⟨vs,rfl,mapO_ok ih cs vs ds hm hx⟩
   ·cases hv
  |own i off=>
   simp only[AV.frz]at hv
   split at hv
   ·rename_i ice cs hr
    split at hv
    ·rename_i ds hm
     cases hv
     simp only[RV]at hx
     obtain⟨ow,ho,rfl⟩:=hx
     obtain⟨b,vs,el,h1,h2,h3,h4⟩:=own_blk h hr
     rw[h1]at ho;cases ho
     simp only[RV0]
     refine⟨b,off,rfl, .inr ⟨i,h4⟩,?_⟩
     have:=RV0c.of_box h2 (mapO_ok ih cs vs ds hm h3)
     simpa using this.drop off
    ·cases hv
   ·cases hv
  |row i=>
   simp only[AV.frz]at hv
   split at hv
   ·rename_i ice el sz es hr
    cases hv
    simp only[RV]at hx
    obtain⟨ow,ho,rfl⟩:=hx
    have hs:=h.sg i
    rw[hr,ho]at hs
    obtain⟨b,v,xs,h1,h2,h3,h4,h5⟩:=hs
    cases h1
    refine isl_of_row h2 (RV0s.mono hp _ _ h3) h4 fun b' hb'=>.inr ⟨i,?_⟩
    rw[hr,ho];exact hb'
   ·rename_i ice ks us hr
    cases hv
    simp only[RV]at hx
    obtain⟨ow,ho,rfl⟩:=hx
    have hs:=h.sg i
    rw[hr,ho]at hs
    obtain⟨b,es,nB,h1,h2,h3,h4,h5,h6,_⟩:=hs
    cases h1
    simp only[RV0]
    exact⟨b,es,nB,rfl, .inr ⟨i,by rw[hr,ho];rfl⟩,h3,h4,RV0s.mono hp _ _ h5,RV0s.mono hp _ _ h6⟩
   ·rename_i ks us hr
    split at hv
    ·rename_i ds hm
     cases hv
     simp only[RV]at hx
     obtain⟨ow,ho,rfl⟩:=hx
     have hs:=h.sg i
     rw[hr,ho]at hs
     obtain⟨b,es,nB,h1,h2,h3,h4,h5,h6,_⟩:=hs
     cases h1
     simp only[RV0]
     exact⟨b,es,nB,rfl, .inr ⟨i,by rw[hr,ho];rfl⟩,h3,h4,RV0s.mono hp _ _ h5,mapO_ok ih us _ ds hm h6⟩
    ·cases hv
   ·cases hv
  |cut i sz lo m=>
   simp only[AV.frz]at hv
   split at hv
   ·rename_i ice el sz' es hr
    split at hv
    ·rename_i hcnd
     cases hv
     subst hcnd
     simp only[RV]at hx
     obtain⟨ow,ho,hx⟩:=hx
     have hs:=h.sg i
     rw[hr,ho]at hs
     obtain⟨b,v,xs,h1,h2,h3,h4,h5⟩:=hs
     cases h1
     refine cut_isl (isl_of_row h2 (RV0s.mono hp _ _ h3) h4 fun b' hb'=>.inr ⟨i,?_⟩) hx h4
     rw[hr,ho];exact hb'
    ·cases hv
   ·cases hv
  |elt i sz k j=>simp[AV.frz]at hv
  |yld=>simp[AV.frz]at hv
  |gone=>simp[AV.frz]at hv
omit hX hk hd in
theorem immAll_cells:∀b,immAll C s b->Mem C.w b:=fun b hb=>by
 rcases hb with hb|⟨i,hb⟩
 ·exact(h.imm b hb).2
 ·exact(Res.blk_lt (h.sg i) hb).2.2
def Back(imm:Nat->Prop)(w:World)(R:AV->Prop)(e:Ending)(w':World):Prop:=
 ∃v r imm',e = .returned v/\R r/\RV0 imm' w' r v/\Below w.heap.size w w'/\(∀b,imm b->imm' b)/\(∀b,imm' b->imm b\/(w.heap.size<=b/\Mem w' b))
omit hd in
theorem back_plain{R:AV->Prop}{d:Option Nat}(hd:∀i,d=some i->i<X.N)(hR:∀r,R r->k (s.put d r)){v:Value}{w':World}(hb:Back C.imm C.w R (.returned v) w'):next (a.put d v) w':=by
 obtain⟨v',r,imm',e,hr,hv,hbl,h1,h2⟩:=hb
 cases e
 obtain⟨hrel,hl⟩:=h.call w' imm' hbl (hX.kgrow _ _ _ _ _ _ h.keep hbl) h1 h2
 exact hk _ _ _ (hrel.put (RV0.rv (C:=⟨imm',newB C.w w' C.T,C.rho,w',C.l⟩) r v hv) d hd) (hR r hr)
omit hd in
theorem back_flat{R:AV->Prop}{d:Option Nat}{imm:Nat->Prop}(hd:∀i,d=some i->i<X.N)(hR:∀r,R r->r.flat=true/\k (s.put d r)){v:Value}{w':World}(hb:Back imm C.w R (.returned v) w'):next (a.put d v) w':=by
 obtain⟨v',r,imm',e,hr,hv,hbl,_⟩:=hb
 cases e
 obtain⟨hrel,hl⟩:=h.call w' C.imm hbl (hX.kgrow _ _ _ _ _ _ h.keep hbl) (fun b hb=>hb) (fun b hb=>.inl hb)
 exact hk _ _ _ (hrel.put (RV0.flat r v (hR r hr).1 hv) d hd) (hR r hr).2
omit hX hk h hd in
theorem callFunc_run{P:Program}{f:FuncId}(hf:bodied P f=true)(args:Array Value)(w:World):(callFunc f args).run P w = .ok (.enter f args) w:=by
 simp only[bodied]at hf
 split at hf
 ·rename_i fn hfn
  simp only[Bool.and_eq_true,Bool.not_eq_true',beq_eq_false_iff_ne,ne_eq]at hf
  obtain⟨h1,h2⟩:=hf
  have h3:fn.body.isNone=false:=by cases hb:fn.body<;>simp_all
  have h4:fn.body≠none:=by intro e;rw[e]at h3;cases h3
  have h5:¬fn.name = "runtime.NumGoroutine" :=h2
  simp[callFunc,hfn,h4,h5,Sem.run_pure]
 ·cases hf
omit hk h hd in
theorem up_call{f:FuncId}{args:Array Value}{R:Ending->World->Prop}(hop:∀c,o.op ≠ .defer c)(hr:(execOp a.eval o).run X.P C.w = .ok (.enter f args) C.w)(hc:Calls X.P f args C.w R)
  (hn:∀e w',R e w'->∃v,e = .returned v/\next (a.put o.dst v) w'):o.wpIn X.F X.n X.P a C.w next Q:=by
 refine⟨fun f _=>hX.fn f,?_⟩
 rw[Oper.semAt_eq X.F.round a.eval o hop,hr]
 have hd:X.F.depth=none:=by rcases hX.wide with e|⟨l,e⟩<;>rw[e]<;>rfl
 refine⟨fun e=>absurd e (by rw[hd];simp),?_⟩
 have hc':CallsIn Fence.wide (X.n-1) X.P f args C.w R:=callsIn_wide.2 hc
 have hc2:CallsIn X.F (X.n-1) X.P f args C.w R:=by
  rcases hX.wide with e|⟨l,e⟩<;>rw[e]
  ·exact hc'
  ·exact CallsIn.inRound l hc'
 refine hc2.mono fun e w' hr'=>?_
 obtain⟨v,rfl,hnx⟩:=hn e w' hr'
 exact hnx
theorem call_ok{c:Call}{f:FuncId}{ps:List Opd}(hop:o.op = .call c)(hc:c.callee = .value (.func f))(hf:bodied X.P f=true)(hp:opds c.args.toList=some ps)(hE:evO E o.dst (.call f ps) s k) :
  o.wpIn X.F X.n X.P a C.w next Q:=by
 simp only[evO,evX,app]at hE
 split at hE
 ·rename_i vs hv
  have e1:=evl_ok h hp hv
  have hargs:c.args.map a.eval=(c.args.toList.map a.eval).toArray:=by apply Array.ext';simp
  have hrun:(execOp a.eval o).run X.P C.w = .ok (.enter f (c.args.toList.map a.eval).toArray) C.w:=by
   simp[execOp,hop,resolve,hc,Act.eval,Deferred.ofValue,invoke,callFunc_run hf,Sem.run_pure]
   exact hargs
  rw[<- hX.P]at hE
  rcases hE with⟨args',R,h1,h1',h2,h3⟩|⟨args',R,h1,h2,h3⟩
  ·refine up_call hX (fun c=>by simp[hop]) hrun (h2 C.imm C.w _ (fun b hb=>(h.imm b hb).2) (mapPu_ok (frz_pu 8) vs _ _ h1 h1' e1)) fun e w' hb=>?_
   obtain⟨v,r,imm',rfl,rest⟩:=hb
   exact⟨v,rfl,back_plain hX hk h hd h3 ⟨v,r,imm',rfl,rest⟩⟩
  ·refine up_call hX (fun c=>by simp[hop]) hrun (h2 (immAll C s) C.w _ (immAll_cells h) (mapO_ok (frz_ok h 8) vs _ _ h1 e1)) fun e w' hb=>?_
   obtain⟨v,r,imm',rfl,rest⟩:=hb
   exact⟨v,rfl,back_flat hX hk h hd h3 ⟨v,r,imm',rfl,rest⟩⟩
 ·exact hE.elim
omit hX hk h hd in
theorem RVs.flat0{C:Ctx}:∀ {vs:List AV} {xs:List Value},AV.flatL vs=true->RVs C vs xs->RV0s (fun _=>False) C.w vs xs:=fun {vs xs} hf h=>flat0s vs xs hf h
omit hX hk h hd in
theorem yld_at{X:Sess}{E:Env}{o:Oper}{C:Ctx}{s:St}{a:Act}{next:Act->World->Prop}{Q:Exit->Act->World->Prop}{k:St->Prop}(hX:SessOk X E)(hk:Nx X k next)(h:Rel X C s a)(hd:∀i,o.dst=some i->i<X.N){c:Call}{g:Operand}{v:List AV}(hop:o.op = .call c)(hc:c.callee = .value g)(hg:a.eval g = .func (.yield C.l.l) #[] #[])(he:RV0s C.imm C.w v (c.args.toList.map a.eval))(h0:s.gh.st=false){k':Nat}(h1:E.nx s.gh.k v k')
  (h3:k (St.put { s with gh:=⟨s.gh.p,k',false⟩ } o.dst (.bool true))) (h4:k (St.put { s with gh:=⟨s.gh.p,k',true⟩ } o.dst (.bool false))):o.wpIn X.F X.n X.P a C.w next Q:=by
 have hargs:c.args.map a.eval=(c.args.toList.map a.eval).toArray:=by apply Array.ext';simp
 have hk':=h.keep
 rw[h0]at hk'
 have hy:=hX.kyield _ _ _ _ _ _ _ C.imm hk' h.T h.pin.2.2 h.imm h1 he
 rw[<- h.pin.2.1]at hy
 obtain⟨fn,tmps,assign,body,hy1,hy2⟩:=hy
 refine⟨fun f _=>hX.fn f,?_⟩
 have hrun:(execOp a.eval o).run X.P C.w = .ok (.round C.l.l fn tmps assign body) C.w:=by
  simp[execOp,hop,resolve,hc,hg,Deferred.ofValue,invoke]
  rw[hargs];exact hy1
 rw[Oper.semAt_eq X.F.round a.eval o (fun c=>by simp[hop]),hrun]
 have hd':X.F.depth=none:=by rcases hX.wide with e|⟨l,e⟩<;>rw[e]<;>rfl
 refine⟨fun e=>absurd e (by rw[hd'];simp),?_⟩
 have hy3:∀R,RoundIn Fence.wide (X.n-1) X.P C.l.l fn tmps assign body C.w R->RoundIn X.F (X.n-1) X.P C.l.l fn tmps assign body C.w R:=fun R hq=>by
  rcases hX.wide with e|⟨l,e⟩<;>rw[e]<;>exact hq
 refine(hy3 _ hy2).mono fun e w' hr=>?_
 obtain⟨b,S',rfl,hK,hS⟩:=hr
 have hl:Later (fun _=>true) C ⟨C.imm,C.T,C.rho,w',⟨C.l.l,S'⟩⟩:=⟨fun b' hb'=>⟨hb',by
  obtain⟨q,hh⟩:=h.imm b' hb'
  exact hS.same b' hh.lt (.inl q)⟩,fun _ _=>rfl,rfl⟩
 have hT:∀b',C.T b'->w'.heap[b']?=C.w.heap[b']?:=fun b' hb'=>hS.same b' (h.T b' hb') (.inl (.inr hb'))
 have hrel:Rel X ⟨C.imm,C.T,C.rho,w',⟨C.l.l,S'⟩⟩ { s with gh:=⟨s.gh.p,k',!b⟩ } a:=by
  refine⟨h.size,fun d v hdv=>RV.later hl v _ (AV.refsIn_all (fun _=>rfl) v) (h.tm d v hdv),fun j=>?_,h.dis,fun b' hb'=>?_,h.imm0,fun b' hb'=>Nat.lt_of_lt_of_le (h.T b' hb') hS.size,hK,?_,fun l hl'=>?_,⟨h.pin.1,h.pin.2.1,fun b' hb'=>?_⟩⟩
  ·exact ResOk.later hl (fun _ hb'=>hb') (h.sg j) (AV.refsInL_all (fun _=>rfl) _) fun b' hb'=>⟨hT b' (Res.blk_lt (h.sg j) hb').1,id⟩
  ·obtain⟨q1,q2⟩:=h.imm b' hb'
   exact⟨q1,q2.same (hl.pers b' hb').2⟩
  ·obtain⟨ds,h1,h2,h3⟩:=h.marks
   exact⟨ds,h1,h2,fun D hD=>⟨(h3 D hD).1,(hT D (h3 D hD).1).trans (h3 D hD).2⟩⟩
  ·obtain⟨hT1,r,hr⟩:=h.round l hl'
   exact⟨hT1,r,(hT l hT1).trans hr⟩
  ·exact(hS.hnew b' hb').elim (h.pin.2.2 b') id
 cases b with
 |true=>exact hk _ _ _ (hrel.put (by simp only[RV]) o.dst hd) h3
 |false=>exact hk _ _ _ (hrel.put (by simp only[RV]) o.dst hd) h4
theorem yld_ok{c:Call}{g:Operand}{vs:List AV}(hop:o.op = .call c)(hc:c.callee = .value g)(hg:a.eval g = .func (.yield C.l.l) #[] #[])(he:RVs C vs (c.args.toList.map a.eval))
  (hE:YldE E s.gh vs fun g r=>k (St.put { s with gh:=g } o.dst r)):o.wpIn X.F X.n X.P a C.w next Q:=by
 obtain⟨h0,k',h1,h2,h3,h4⟩:=hE
 exact yld_at hX hk h hd hop hc hg (RV0s.mono (imm:=fun _=>False) (fun b hb=>hb.elim) _ _ (RVs.flat0 h2 he)) h0 h1 h3 h4
theorem callv_ok{c:Call}{g:Operand}{pg:Opd}{ps:List Opd}(hop:o.op = .call c)(hc:c.callee = .value g)(hg:opd g=some pg)(hp:opds c.args.toList=some ps)(hE:evO E o.dst (.callv pg ps) s k) :
  o.wpIn X.F X.n X.P a C.w next Q:=by
 simp only[evO,evX,app]at hE
 split at hE
 ·rename_i gv vs hgv hv
  have e1:=evl_ok h hp hv
  have e2:=ev_ok h hg hgv
  split at hE
  ·rename_i hyl
   cases gv<;>simp only[isYld]at hyl<;>try cases hyl
   simp only[RV]at e2
   exact yld_ok hX hk h hd hop hc e2 e1 hE
  have hargs:c.args.map a.eval=(c.args.toList.map a.eval).toArray:=by apply Array.ext';simp
  have hrun:∀f cap,a.eval g = .func (.func f) #[] cap->bodied X.P f=true->(execOp a.eval o).run X.P C.w = .ok (.enter f ((c.args.toList.map a.eval).toArray++cap)) C.w:=fun f cap e hf=>by
   simp[execOp,hop,resolve,hc,e,Deferred.ofValue,invoke,callFunc_run hf,Sem.run_pure]
   rw[hargs]
  unfold VCallE at hE
  rw[<- hX.P]at hE
  rcases hE with⟨g',args',R,h0,h1,h0',h1',h2,h3⟩|⟨g',args',R,h0,h1,h2,h3⟩
  ·obtain⟨f,cap,h4,h5,h6⟩:=h2 C.imm C.w _ _ (fun b hb=>(h.imm b hb).2) (frz_pu 8 _ _ _ h0 h0' e2) (mapPu_ok (frz_pu 8) vs _ _ h1 h1' e1)
   refine up_call hX (fun c=>by simp[hop]) (hrun f cap h4 h5) h6 fun e w' hb=>?_
   obtain⟨v,r,imm',rfl,rest⟩:=hb
   exact⟨v,rfl,back_plain hX hk h hd h3 ⟨v,r,imm',rfl,rest⟩⟩
  ·obtain⟨f,cap,h4,h5,h6⟩:=h2 (immAll C s) C.w _ _ (immAll_cells h) (frz_ok h 8 _ _ _ h0 e2) (mapO_ok (frz_ok h 8) vs _ _ h1 e1)
   refine up_call hX (fun c=>by simp[hop]) (hrun f cap h4 h5) h6 fun e w' hb=>?_
   obtain⟨v,r,imm',rfl,rest⟩:=hb
   exact⟨v,rfl,back_flat hX hk h hd h3 ⟨v,r,imm',rfl,rest⟩⟩
 ·exact hE.elim
end ops
end
def Res.ice:Res->Res
 |.box _ cs=>.box true cs
 |.row _ el sz es=>.row true el sz es
 |.mp _ ks us=>.mp true ks us
 |r=>r
theorem Res.ice_ice(r:Res):r.ice.ice=r.ice:=by cases r<;>rfl
def Iced(sg:List Res)(p:Nat × Res):Prop:=
 p.1<sg.length/\p.2=(sg.getD p.1 .fresh).ice/\((∃b cs,sg.getD p.1 .fresh = .box b cs/\AV.puL cs=true)\/(∃b el sz es,sg.getD p.1 .fresh = .row b el sz es)\/∃b ks us,sg.getD p.1 .fresh = .mp b ks us)
theorem getD_lt{sg:List Res}{i:Nat}(h:sg.getD i .fresh ≠ .fresh):i<sg.length:=by
 by_cases hi:i<sg.length
 ·exact hi
 ·exact absurd (by simp[List.getD_eq_getElem?_getD,List.getElem?_eq_none (by omega:sg.length<=i)]) h
mutual
theorem reach_iced{sg:List Res}:∀(v:AV) (z:List (Nat × Res)),v.reach sg=some z->∀p∈z,Iced sg p
 |.own i off,z,h,p,hp=>by
  simp only[AV.reach]at h
  split at h
  ·rename_i b cs hr
   split at h<;>cases h
   rename_i hpu
   simp only[List.mem_singleton]at hp;subst hp
   exact⟨getD_lt (by rw[hr];simp),by simp only[hr,Res.ice], .inl ⟨_,_,hr,hpu⟩⟩
  ·cases h
 |.row i,z,h,p,hp=>by
  simp only[AV.reach]at h
  split at h<;>cases h
  ·rename_i b el sz es hr
   simp only[List.mem_singleton]at hp;subst hp
   exact⟨getD_lt (by rw[hr];simp),by simp only[hr,Res.ice], .inr (.inl ⟨_,_,_,_,hr⟩)⟩
  ·rename_i b ks us hr
   simp only[List.mem_singleton]at hp;subst hp
   exact⟨getD_lt (by rw[hr];simp),by simp only[hr,Res.ice], .inr (.inr ⟨_,_,_,hr⟩)⟩
 |.cut i _ _ _,z,h,p,hp=>by
  simp only[AV.reach]at h
  split at h<;>cases h
  ·rename_i b el sz es hr
   simp only[List.mem_singleton]at hp;subst hp
   exact⟨getD_lt (by rw[hr];simp),by simp only[hr,Res.ice], .inr (.inl ⟨_,_,_,_,hr⟩)⟩
 |.agg cs,z,h,p,hp=>by simp only[AV.reach]at h;exact reachL_iced cs z h p hp
 |.tup cs,z,h,p,hp=>by simp only[AV.reach]at h;exact reachL_iced cs z h p hp
 |.fn _ cs,z,h,p,hp=>by simp only[AV.reach]at h;exact reachL_iced cs z h p hp
 |.elt _ _ _ _,z,h,_,_=>by simp[AV.reach]at h
 |.yld,z,h,_,_=>by simp[AV.reach]at h
 |.gone,z,h,_,_=>by simp[AV.reach]at h
 |.bool _,z,h,p,hp=>by simp only[AV.reach,Option.some.injEq]at h;subst h;cases hp
 |.int _ _,z,h,p,hp=>by simp only[AV.reach,Option.some.injEq]at h;subst h;cases hp
 |.str _,z,h,p,hp=>by simp only[AV.reach,Option.some.injEq]at h;subst h;cases hp
 |.lit _,z,h,p,hp=>by simp only[AV.reach,Option.some.injEq]at h;subst h;cases hp
 |.isl _,z,h,p,hp=>by simp only[AV.reach,Option.some.injEq]at h;subst h;cases hp
 |.nils,z,h,p,hp=>by simp only[AV.reach,Option.some.injEq]at h;subst h;cases hp
 |.ipt _,z,h,p,hp=>by simp only[AV.reach,Option.some.injEq]at h;subst h;cases hp
 |.imp _ _,z,h,p,hp=>by simp only[AV.reach,Option.some.injEq]at h;subst h;cases hp
 |.tsl _ _,z,h,p,hp=>by simp only[AV.reach,Option.some.injEq]at h;subst h;cases hp
 |.mth _ _,z,h,p,hp=>by simp only[AV.reach,Option.some.injEq]at h;subst h;cases hp
 |.any,z,h,p,hp=>by simp only[AV.reach,Option.some.injEq]at h;subst h;cases hp
theorem reachL_iced{sg:List Res}:∀(as:List AV) (z:List (Nat × Res)),AV.reachL sg as=some z->∀p∈z,Iced sg p
 | [],z,h,p,hp=>by simp only[AV.reachL,Option.some.injEq]at h;subst h;cases hp
 |a::as,z,h,p,hp=>by
  simp only[AV.reachL]at h
  split at h<;>cases h
  rename_i x y h1 h2
  rcases List.mem_append.1 hp with hp|hp
  ·exact reach_iced a x h1 p hp
  ·exact reachL_iced as y h2 p hp
end
theorem setL_length:∀(z:List (Nat × Res)) (sg:List Res),(setL sg z).length=sg.length
 | [],sg=>rfl
 |(i,r)::z,sg=>by simp only[setL];rw[setL_length z];simp
theorem setL_append:∀(z y:List (Nat × Res)) (sg:List Res),setL sg (z++y)=setL (setL sg z) y
 | [],y,sg=>rfl
 |(i,r)::z,y,sg=>by simp only[List.cons_append,setL];exact setL_append z y _
theorem setL_get:∀(z:List (Nat × Res)) (sg:List Res),(∀p∈z,Iced sg p)->∀i,(setL sg z).getD i .fresh=if i∈z.map (·.1) then(sg.getD i .fresh).ice else sg.getD i .fresh
 | [],sg,_,i=>by simp[setL]
 |(j,r)::z,sg,h,i=>by
  obtain⟨hj,hr,hc⟩:=h (j,r) (by simp)
  simp only at hj hr hc
  have hg:∀i,(sg.set j r).getD i .fresh=if i=j then(sg.getD j .fresh).ice else sg.getD i .fresh:=fun i=>by rw[getD_set _ _ _ _ _ hj,hr]
  simp only[setL]
  rw[setL_get z (sg.set j r) (fun p hp=>by
   obtain⟨k1,k2,k3⟩:=h p (by simp[hp])
   refine⟨by simpa using k1,?_,?_⟩
   ·rw[hg];split
    ·rename_i e;rw[Res.ice_ice,<- e];exact k2
    ·exact k2
   ·rw[hg];split
    ·rename_i e
     rcases hc with⟨b,cs,h1,h2⟩|⟨b,el,sz,es,h1⟩|⟨b,ks,us,h1⟩
     ·exact .inl ⟨true,cs,by rw[h1];rfl,h2⟩
     ·exact .inr (.inl ⟨true,el,sz,es,by rw[h1];rfl⟩)
     ·exact .inr (.inr ⟨true,ks,us,by rw[h1];rfl⟩)
    ·exact k3) i,hg]
  by_cases e:i=j
  ·subst e;simp[Res.ice_ice]
  ·simp only[List.map_cons,List.mem_cons,e,false_or,if_false]
def immZ(C:Ctx)(s:St)(z:List (Nat × Res))(b:Nat):Prop:=C.imm b\/∃p∈z,(s.sg.getD p.1 .fresh).blk (C.rho p.1)=some b
theorem Res.ice_blk(r:Res)(o:Option Own):r.ice.blk o=r.blk o:=by cases r<;>rfl
theorem Rel.ice{X:Sess}{C:Ctx}{s:St}{a:Act}(h:Rel X C s a){z:List (Nat × Res)}(hz:∀p∈z,Iced s.sg p) :
  Rel X ⟨immZ C s z,C.T,C.rho,C.w,C.l⟩ { s with sg:=setL s.sg z } a:=by
 have hl:Later (fun _=>true) C ⟨immZ C s z,C.T,C.rho,C.w,C.l⟩:=⟨fun b hb=>⟨.inl hb,rfl⟩,fun _ _=>rfl,rfl⟩
 have hget:=setL_get z s.sg hz
 have hblk:∀i,((setL s.sg z).getD i .fresh).blk (C.rho i)=(s.sg.getD i .fresh).blk (C.rho i):=fun i=>by
  rw[hget];split
  ·exact Res.ice_blk _ _
  ·rfl
 refine⟨h.size,fun d v hd=>RV.later hl v _ (AV.refsIn_all (fun _=>rfl) v) (h.tm d v hd),fun i=>?_,fun i j b hi hj=>h.dis i j b ((hblk i).symm.trans hi) ((hblk j).symm.trans hj),fun b hb=>?_,fun b hb=>.inl (h.imm0 b hb),h.T,h.keep,h.marks,h.round,⟨h.pin.1,h.pin.2.1,fun b hb=>.inl (h.pin.2.2 b hb)⟩⟩
 ·have hs:=h.sg i
  show ResOk _ ((setL s.sg z).getD i .fresh) (C.rho i)
  rw[hget]
  split
  ·rename_i hi
   obtain⟨p,hp,rfl⟩:=List.mem_map.1 hi
   obtain⟨_,_,hc⟩:=hz p hp
   rcases hc with⟨b,cs,h1,h2⟩|⟨b,el,sz,es,h1⟩|⟨b,ks,us,h1⟩
   ·rw[h1]at hs⊢
    obtain⟨b',vs,el,ho,hT,hh,hv,_⟩:=hs
    exact⟨b',vs,el,ho,hT,hh,RVs.later hl _ _ (AV.refsInL_all (fun _=>rfl) _) hv,fun _=>⟨.inr ⟨p,hp,by rw[h1,ho];rfl⟩,RV0s.mono hl.pers _ _ (RVs.to0 _ _ h2 hv)⟩,fun e=>absurd e (by simp)⟩
   ·rw[h1]at hs⊢
    obtain⟨b',v,xs,ho,hw,hv,hlen,h5⟩:=hs
    exact⟨b',v,xs,ho,hw,RV0s.mono hl.pers _ _ hv,hlen,fun b'' e=>⟨(h5 b'' e).1,(h5 b'' e).2.1,fun _=>.inr ⟨p,hp,by rw[h1,ho];have:=(h5 b'' e).1;subst this;exact e⟩,fun e=>absurd e (by simp)⟩⟩
   ·rw[h1]at hs⊢
    obtain⟨b',es,nB,ho,hT,hh,hbn,hk,hv,_⟩:=hs
    exact⟨b',es,nB,ho,hT,hh,hbn,RV0s.mono hl.pers _ _ hk,RV0s.mono hl.pers _ _ hv,fun _=>.inr ⟨p,hp,by rw[h1,ho];rfl⟩,fun e=>absurd e (by simp)⟩
  ·rename_i hi
   refine ResOk.later hl (fun b hb=>hb) hs (AV.refsInL_all (fun _=>rfl) _) fun b hb=>⟨rfl,fun hb'=>?_⟩
   rcases hb' with hb'|⟨p,hp,hb'⟩
   ·exact hb'
   ·exact absurd (List.mem_map.2 ⟨p,hp,h.dis p.1 i b hb' hb⟩) hi
 ·rcases hb with hb|⟨p,hp,hb⟩
  ·exact h.imm b hb
  ·obtain⟨h1,_,h2⟩:=Res.blk_lt (h.sg p.1) hb
   exact⟨.inr h1,h2⟩
theorem mapZ_ok{C:Ctx}{s:St}{f:AV->Option AV}(hf:∀v x v' z,f v=some v'->v.reach s.sg=some z->RV C v x->RV0 (immZ C s z) C.w v' x) :
  ∀(as:List AV) (vs:List Value) (as':List AV) (z:List (Nat × Res)),mapO f as=some as'->AV.reachL s.sg as=some z->RVs C as vs->RV0s (immZ C s z) C.w as' vs
 | [],vs,as',z,hm,_,hv=>by
  simp only[mapO,Option.some.injEq]at hm;subst hm
  simpa[RVs,RV0s]using hv
 |a::as,vs,as',z,hm,hz,hv=>by
  simp only[mapO]at hm
  simp only[AV.reachL]at hz
  split at hz<;>cases hz
  rename_i x y k1 k2
  split at hm
  ·rename_i d ds h1 h2
   cases hm
   simp only[RVs]at hv;obtain⟨v,vs',rfl,h3,h4⟩:=hv
   simp only[RV0s]
   have m1:Pers (immZ C s x) (immZ C s (x++y)) C.w C.w:=fun b hb=>⟨hb.imp id fun⟨p,hp,e⟩=>⟨p,List.mem_append.2 (.inl hp),e⟩,rfl⟩
   have m2:Pers (immZ C s y) (immZ C s (x++y)) C.w C.w:=fun b hb=>⟨hb.imp id fun⟨p,hp,e⟩=>⟨p,List.mem_append.2 (.inr hp),e⟩,rfl⟩
   exact⟨v,vs',rfl,RV0.mono m1 _ _ (hf _ _ _ _ h1 k1 h3),RV0s.mono m2 _ _ (mapZ_ok hf as vs' ds y h2 k2 h4)⟩
  ·cases hm
theorem frz_z{X:Sess}{C:Ctx}{s:St}{a:Act}(h:Rel X C s a):∀(n:Nat) (v:AV) (x:Value) (v':AV) (z:List (Nat × Res)),AV.frz s.sg n v=some v'->v.reach s.sg=some z->RV C v x->RV0 (immZ C s z) C.w v' x:=by
 have hp:∀z,Pers C.imm (immZ C s z) C.w C.w:=fun z b hb=>⟨.inl hb,rfl⟩
 intro n
 induction n with
 |zero=>intro v x v' z hv;simp[AV.frz]at hv
 |succ n ih=>
  intro v x v' z hv hz hx
  cases v with
  |isl es=>simp only[AV.frz,Option.some.injEq]at hv;subst hv;exact RV0.mono (hp _) _ _ (by simpa only[RV]using hx)
  |nils=>simp only[AV.frz,Option.some.injEq]at hv;subst hv;exact .inl ⟨⟨none,by simpa only[RV]using hx⟩,rfl⟩
  |ipt cs=>simp only[AV.frz,Option.some.injEq]at hv;subst hv;exact RV0.mono (hp _) _ _ (by simpa only[RV]using hx)
  |imp ks us=>simp only[AV.frz,Option.some.injEq]at hv;subst hv;exact RV0.mono (hp _) _ _ (by simpa only[RV]using hx)
  |tsl _ es=>simp only[AV.frz,Option.some.injEq]at hv;subst hv;exact RV0.tsl_isl (RV0.mono (hp _) _ _ (by simpa only[RV]using hx))
  |mth _ _=>cases hv
  |any=>simp only[AV.frz,Option.some.injEq]at hv;subst hv;simpa only[RV,RV0]using hx
  |agg cs=>
   simp only[AV.reach]at hz
   simp only[AV.frz]at hv
   split at hv
   ·rename_i ds hm
    cases hv
    simp only[RV,RV0]at hx⊢;obtain⟨vs,rfl,hx⟩:=hx
    exact⟨vs,rfl,mapZ_ok ih cs vs ds z hm hz hx⟩
   ·cases hv
  |tup cs=>
   simp only[AV.reach]at hz
   simp only[AV.frz]at hv
   split at hv
   ·rename_i ds hm
    cases hv
    simp only[RV,RV0]at hx⊢;obtain⟨vs,rfl,hx⟩:=hx
    exact⟨vs,rfl,mapZ_ok ih cs vs ds z hm hz hx⟩
   ·cases hv
  |fn f cs=>
   simp only[AV.reach]at hz
   simp only[AV.frz]at hv
   split at hv
   ·rename_i ds hm
    cases hv
    simp only[RV,RV0]at hx⊢;obtain⟨vs,rfl,hx⟩:=hx
    exact⟨vs,rfl,mapZ_ok ih cs vs ds z hm hz hx⟩
   ·cases hv
  |own i off=>
   simp only[AV.frz]at hv
   simp only[AV.reach]at hz
   split at hv
   ·rename_i ice cs hr
    rw[hr]at hz
    simp only at hz
    split at hz<;>cases hz
    rename_i hpu
    split at hv
    ·rename_i ds hm
     cases hv
     simp only[RV]at hx
     obtain⟨ow,ho,rfl⟩:=hx
     obtain⟨b,vs,el,h1,h2,h3,h4⟩:=own_blk h hr
     rw[h1]at ho;cases ho
     simp only[RV0]
     refine⟨b,off,rfl, .inr ⟨(i, .box true cs),by simp,h4⟩,?_⟩
     have:=RV0c.of_box h2 (RV0s.mono (hp [(i, .box true cs)]) _ _ (mapPu_ok (frz_pu n) cs vs ds hpu hm h3))
     simpa using this.drop off
    ·cases hv
   ·cases hv
  |cut i sz lo m=>
   simp only[AV.frz]at hv
   simp only[AV.reach]at hz
   split at hv
   ·rename_i ice el sz' es hr
    split at hv
    ·rename_i hcnd
     rw[hr]at hz
     cases hz
     cases hv
     subst hcnd
     simp only[RV]at hx
     obtain⟨ow,ho,hx⟩:=hx
     have hs:=h.sg i
     rw[hr,ho]at hs
     obtain⟨b,v,xs,h1,h2,h3,h4,h5⟩:=hs
     cases h1
     refine cut_isl (isl_of_row h2 (RV0s.mono (hp _) _ _ h3) h4 fun b' hb'=>.inr ⟨(i, .row true el sz' es),by simp,?_⟩) hx h4
     rw[hr,ho];exact hb'
    ·cases hv
   ·cases hv
  |row i=>
   simp only[AV.frz]at hv
   simp only[AV.reach]at hz
   split at hv
   ·rename_i ice el sz es hr
    rw[hr]at hz
    cases hz
    cases hv
    simp only[RV]at hx
    obtain⟨ow,ho,rfl⟩:=hx
    have hs:=h.sg i
    rw[hr,ho]at hs
    obtain⟨b,v,xs,h1,h2,h3,h4,h5⟩:=hs
    cases h1
    refine isl_of_row h2 (RV0s.mono (hp _) _ _ h3) h4 fun b' hb'=>.inr ⟨(i, .row true el sz es),by simp,?_⟩
    rw[hr,ho];exact hb'
   ·rename_i ice ks us hr
    rw[hr]at hz
    cases hz
    cases hv
    simp only[RV]at hx
    obtain⟨ow,ho,rfl⟩:=hx
    have hs:=h.sg i
    rw[hr,ho]at hs
    obtain⟨b,es,nB,h1,h2,h3,h4,h5,h6,_⟩:=hs
    cases h1
    simp only[RV0]
    exact⟨b,es,nB,rfl, .inr ⟨(i, .mp true ks us),by simp,by rw[hr,ho];rfl⟩,h3,h4,RV0s.mono (hp _) _ _ h5,RV0s.mono (hp _) _ _ h6⟩
   ·rename_i ks us hr
    rw[hr]at hz;cases hz
   ·cases hv
  |elt i sz k j=>simp[AV.frz]at hv
  |yld=>simp[AV.frz]at hv
  |gone=>simp[AV.frz]at hv
  |bool b=>simp only[AV.frz,Option.some.injEq]at hv;subst hv;simpa[RV,RV0]using hx
  |int k m=>simp only[AV.frz,Option.some.injEq]at hv;subst hv;simpa[RV,RV0]using hx
  |str b=>simp only[AV.frz,Option.some.injEq]at hv;subst hv;simpa[RV,RV0]using hx
  |lit b=>simp only[AV.frz,Option.some.injEq]at hv;subst hv;simpa[RV,RV0]using hx
theorem frzN_z{X:Sess}{C:Ctx}{s:St}{a:Act}(h:Rel X C s a)(v:AV)(x:Value)(v':AV)(z:List (Nat × Res))(hv:AV.frzN s.sg v=some v')(hz:v.reach s.sg=some z)(hx:RV C v x):RV0 (immZ C s z) C.w v' x:=by
 cases v with
 |nils=>simp only[AV.frzN,Option.some.injEq]at hv;subst hv;simpa only[RV,RV0]using hx
 |_=>exact frz_z h 8 _ x v' z (by simpa only[AV.frzN]using hv) hz hx
theorem FrzZ.ok{X:Sess}{C:Ctx}{s:St}{a:Act}(h:Rel X C s a){as as':List AV}{vs:List Value}{z:List (Nat × Res)}(hf:FrzZ s.sg as as')(hz:AV.reachL s.sg as=some z)(hv:RVs C as vs):RV0s (immZ C s z) C.w as' vs:=by
 rcases hf with hf|hf
 ·exact mapZ_ok (frz_z h 8) as vs _ z hf hz hv
 ·exact mapZ_ok (frzN_z h) as vs _ z hf hz hv
section
variable {X:Sess} {E:Env} {o:Oper} {C:Ctx} {s:St} {a:Act} {next:Act->World->Prop} {Q:Exit->Act->World->Prop}
theorem cells_unbound(h:Rel X C s a){nm:Nat}(hun:C.rho nm=none)(j:Nat):AV.refsInL (fun j=>j != nm) (s.sg.getD j .fresh).cellsOf=true:=by
 have hs:=h.sg j
 cases hr:s.sg.getD j .fresh with
 |box ice cs'=>
  rw[hr]at hs
  obtain⟨b,vs',el',h1,h2,h3,h4,_⟩:=hs
  exact RVs.unbound hun _ _ h4
 |mpo ks us=>
  rw[hr]at hs
  obtain⟨b,es,nB,h1,h2,h3,_,_,h4,_⟩:=hs
  exact RVs.unbound hun _ _ h4
 |itd c n mem=>
  rw[hr]at hs
  obtain⟨b,m,h1,h2,h3,_,h4⟩:=hs
  exact RVs.unbound hun _ _ h4
 |_=>rfl
theorem Rel.name(h:Rel X C s a){nm:Nat}(hf:s.sg.getD nm .dead = .fresh){w':World}{T':Nat->Prop}(hT:∀b,C.T b->T' b)(hT':∀b,T' b->b<w'.heap.size)(hK:X.Keep T' C.l.S s.gh.k s.gh.st w')
  (hsame:∀k,k<C.w.heap.size->(C.imm k\/(∃j,(s.sg.getD j .fresh).blk (C.rho j)=some k)\/∃o,C.w.heap[k]?=some o/\isBook o=true)->w'.heap[k]?=C.w.heap[k]?)
  {v:Value} {el:TypeId} {sz:Nat} {es:List (List AV)} {xs:List Value} (hw:w'.ownsRow 0 el sz v es.length xs) (hv:RV0s C.imm C.w es.flatten xs) (hl:∀e∈es,e.length=sz)
  (hb:∀b,v.ownBlock=some b->T' b/\¬C.imm b/\∀j,(s.sg.getD j .fresh).blk (C.rho j)≠some b) :
  Rel X ⟨C.imm,T',upd C.rho nm (some ⟨v.ownBlock.getD 0,v⟩),w',C.l⟩ { s with tm:=s.tm,sg:=s.sg.set nm (.row false el sz es) } a:=by
 obtain⟨hf',hi⟩:=getD_dead hf (by simp)
 have hun:=h.unbound hf'
 have hpers:Pers C.imm C.imm C.w w':=fun b hb'=>by
  exact⟨hb',hsame b (h.imm b hb').2.lt (.inl hb')⟩
 refine h.update nm hi _ _ _ _ s.tm (fun j=>j != nm) hT hT' hK (fun o ho=>by rw[hun]at ho;cases ho) (fun k o hk' ho=>?_) (fun j hj e=>by simp[e]at hj) (fun k hk' hh=>?_) ?_ ?_ (fun d u hdv=>⟨hdv,RV.unbound hun u _ (h.tm d u hdv)⟩) (fun j _=>cells_unbound h hun j)
 ·rw[hsame k (Array.getElem?_eq_some_iff.1 hk').1 (.inr (.inr ⟨o,hk',ho⟩))];exact hk'
 ·refine hsame k hk' (hh.imp id fun⟨j,_,e⟩=>.inl ⟨j,e⟩)
 ·refine⟨v.ownBlock.getD 0,v,xs,rfl,hw,RV0s.mono hpers _ _ hv,hl,fun b' e=>?_⟩
  obtain⟨h1,h2,_⟩:=hb b' e
  have e':v.ownBlock.getD 0=b':=by rw[e];rfl
  rw[e']
  exact⟨rfl,h1,fun e=>absurd e (by simp),fun _=>h2⟩
 ·intro k hk j _
  exact(hb k (by simpa[Res.blk]using hk)).2.2 j
theorem new_row(hX:SessOk X E)(h:Rel X C s a){nm:Nat}(hf:s.sg.getD nm .dead = .fresh){el:TypeId}{sz:Nat}{es:List (List AV)}{xs:List Value}(hv:RV0s C.imm C.w es.flatten xs)(hl:∀e∈es,e.length=sz)
  (hx:xs.length=es.length*sz) (hm:es.length<=maxLen) :
  Rel X ⟨C.imm,newB C.w (C.w.alloc (.cells xs.toArray el)) C.T,upd C.rho nm (some ⟨C.w.heap.size, .slice (some ⟨C.w.heap.size,0,none⟩) es.length es.length⟩),C.w.alloc (.cells xs.toArray el),C.l⟩ { s with tm:=s.tm,sg:=s.sg.set nm (.row false el sz es) } a:=by
 have hb:Below C.w.heap.size C.w (C.w.alloc (.cells xs.toArray el)):=(Below.refl _ _).alloc (Nat.le_refl _) _
 refine h.name hf (v:=.slice (some ⟨C.w.heap.size,0,none⟩) es.length es.length) (xs:=xs) (fun b hb'=>.inl hb') (fun b hb'=>?_) (hX.kgrow _ _ _ _ _ _ h.keep hb) (fun k hk _=>hb.block k hk) ⟨hx, .inr ⟨_,_,_,rfl,Nat.zero_le _,World.alloc_heap_new C.w _,Nat.le_refl _,hm,by simpa using hx,by rw[<- hx];simp⟩⟩ hv hl fun b e=>?_
 ·rcases hb' with hb'|hb'
  ·exact Nat.lt_of_lt_of_le (h.T b hb') hb.size
  ·exact hb'.2
 ·simp only[Value.ownBlock,Option.some.injEq]at e
  subst e
  refine⟨.inr ⟨Nat.le_refl _,by simp⟩,fun hi=>?_,fun j hj=>?_⟩
  ·have:=(h.imm _ hi).2.lt;omega
  ·have:=(Res.blk_lt (h.sg j) hj).2.1;omega
end
end Go.Eng
