/- What each function of this program answers, proved by walking its body: the contracts that the law rests on, part 1. -/
import Derived.Test.YtpcmpgcjhmecbaaCode
set_option linter.unusedSimpArgs false
set_option linter.unusedVariables false
set_option linter.unusedSectionVars false
namespace Go.Proofs
open Go.Eng
attribute [local irreducible] Go.Eng.brB Go.Eng.need Go.Eng.wrE Go.Eng.iaE Go.Eng.slE Go.Eng.apE Go.Eng.CallZ Go.Eng.CallE Go.Eng.VCallE Go.Eng.YldE Go.Eng.GoC Go.Eng.MeetsE Go.Eng.FnA Go.Eng.FnV
set_option maxRecDepth 100000
def jAV(r:Int):List AV:=[.int .i64 r]
def fAV(l:List Int):List AV:=[.isl (l.map jAV)]
structure Rain where
 d:Int
 lo:Int
 hi:Int
deriving DecidableEq
structure Fair where
 p:Int
 se:List Int
deriving DecidableEq
structure Tour where
 ds:Int
 st:Int
 rn:List Rain
 wr:Int
 fs:List Fair
 rc:Int
 sk:Int
def stepP(step x:Int):Prop := -step<=x/\x<=step
instance (step x:Int):Decidable (stepP step x):=by unfold stepP;infer_instance
def posOk(most step:Int)(l:List Int)(i:Nat):Prop:=(0<=l.getD i 0/\l.getD i 0<=most)/\(0<i->stepP step (l.getD i 0-l.getD (i-1) 0))
instance (most step:Int) (l:List Int) (i:Nat):Decidable (posOk most step l i):=by unfold posOk;infer_instance
def rowP(most step:Int)(l:List Int)(k:Nat):Prop:=∀i,i<k->posOk most step l i
noncomputable instance (most step:Int) (l:List Int) (k:Nat):Decidable (rowP most step l k):=Classical.propDecidable _
noncomputable def isRow(l:List Int)(many most step:Int):Bool:=decide (rowP most step l l.length)&&decide ((l.length:Int)=many)
def rwK(F:List Int->List (List Int))(step:Int)(f:List Int):Nat->List (List Int)
 |0=>[]
 |n+1=>rwK F step f n++if 0<f.length/\¬stepP step ((n:Int)-f.getD (f.length-1) 0) then [] else F (f++[(n:Int)])
def rws(most step:Int):Nat->List Int->List (List Int)
 |0,f=>[f]
 |k+1,f=>rwK (rws most step k) step f (most.toNat+1)
theorem mem_rwK{F:List Int->List (List Int)}{step:Int}{f l:List Int}:∀ {m:Nat},l∈rwK F step f m<->∃n,n<m/\¬(0<f.length/\¬stepP step ((n:Int)-f.getD (f.length-1) 0))/\l∈F (f++[(n:Int)]):=by
 intro m;induction m with
 |zero=>simp[rwK]
 |succ m ih=>
  rw[rwK,List.mem_append,ih]
  constructor
  ·rintro(⟨n,h1,h2,h3⟩|h)
   ·exact⟨n,by omega,h2,h3⟩
   ·split at h
    ·cases h
    ·rename_i h2;exact⟨m,by omega,h2,h⟩
  ·rintro⟨n,h1,h2,h3⟩
   by_cases e:n=m
   ·subst e;right;rw[if_neg h2];exact h3
   ·left;exact⟨n,by omega,h2,h3⟩
theorem take_suc{l f:List Int}{n:Nat}{x:Int}(h:l.take (n+1)=f++[x])(hf:f.length=n):l.take n=f/\n<l.length/\l.getD n 0=x:=by
 have hl:(l.take (n+1)).length=n+1:=by rw[h];simp[hf]
 have hn:n<l.length:=by rw[List.length_take]at hl;omega
 rw[List.take_succ_eq_append_getElem hn]at h
 have:=List.append_inj' h rfl
 exact⟨this.1,hn,by simpa[List.getD_eq_getElem?_getD,hn]using this.2⟩
theorem getD_pre{l f:List Int}{n i:Nat}(h:l.take n=f)(hi:i<n):l.getD i 0=f.getD i 0:=by
 subst h;simp[List.getD_eq_getElem?_getD,List.getElem?_take,hi]
theorem mem_rws{most step:Int}(hm:0<=most):∀ {k:Nat} {f l:List Int},l∈rws most step k f<->l.length=f.length+k/\l.take f.length=f/\∀i,f.length<=i->i<l.length->posOk most step l i:=by
 intro k;induction k with
 |zero=>
  intro f l
  simp only[rws,List.mem_singleton,Nat.add_zero]
  constructor
  ·rintro rfl;exact⟨rfl,List.take_length,fun i h1 h2=>by omega⟩
  ·rintro⟨h1,h2,_⟩;rw[<- h2,<- h1,List.take_length]
 |succ k ih=>
  intro f l
  rw[rws,mem_rwK]
  constructor
  ·rintro⟨n,h1,h2,h3⟩
   obtain⟨h4,h5,h6⟩:=ih.1 h3
   rw[List.length_append,List.length_singleton]at h4 h5 h6
   obtain⟨a,b,c⟩:=take_suc h5 rfl
   refine⟨by omega,a,fun i hi hl=>?_⟩
   by_cases e:i=f.length
   ·subst e
    refine⟨by rw[c];omega,fun h0=>?_⟩
    rw[c,getD_pre a (by omega)]
    exact Classical.byContradiction fun hh=>h2 ⟨h0,hh⟩
   ·exact h6 i (by omega) hl
  ·rintro⟨h1,h2,h3⟩
   have hn:f.length<l.length:=by omega
   have hp:=h3 f.length (Nat.le_refl _) hn
   have e:((l.getD f.length 0).toNat:Int)=l.getD f.length 0:=by have:=hp.1;omega
   refine⟨(l.getD f.length 0).toNat,by have:=hp.1;omega,?_,ih.2 ⟨?_,?_,?_⟩⟩
   ·rintro⟨h0,hh⟩
    rw[e]at hh
    have:=hp.2 h0
    rw[getD_pre (i:=f.length-1) h2 (by omega)]at this
    exact hh this
   ·rw[List.length_append,List.length_singleton];omega
   ·rw[List.length_append,List.length_singleton,List.take_succ_eq_append_getElem hn,h2,e]
    simp[List.getD_eq_getElem?_getD,hn]
   ·rw[List.length_append,List.length_singleton]
    exact fun i hi hl=>h3 i (by omega) hl
theorem rwK_len{F:List Int->List (List Int)}{step:Int}{f:List Int}{B:Nat}(h:∀g,(F g).length<=B):∀m,(rwK F step f m).length<=m*B:=by
 intro m;induction m with
 |zero=>simp[rwK]
 |succ m ih=>
  rw[rwK,List.length_append,Nat.succ_mul]
  have:=h (f++[(m:Int)])
  split
  ·simp;omega
  ·omega
theorem rws_len{most step:Int}:∀k f,(rws most step k f).length<=(most.toNat+1) ^ k:=by
 intro k;induction k with
 |zero=>intro f;simp[rws]
 |succ k ih=>intro f;rw[rws,Nat.pow_succ,Nat.mul_comm];exact rwK_len ih _
def isRt(x:Rain)(l:List Int):Bool:=decide (x.lo<=l.getD x.d.toNat 0/\l.getD x.d.toNat 0<=x.hi)
def wrK(rn:List Rain)(l:List Int):Nat->Int
 |0=>0
 |k+1=>wrK rn l k+if isRt (rn.getD k ⟨0,0,0⟩) l=true then 0 else 1
def Tour.wrongs(t:Tour)(l:List Int):Int:=wrK t.rn l t.rn.length
theorem wrK_cnt{rn:List Rain}{l:List Int}:∀k,k<=rn.length->wrK rn l k=((rn.take k).countP (fun x => !isRt x l):Int):=by
 intro k;induction k with
 |zero=>intro _;simp[wrK]
 |succ k ih=>
  intro hk
  rw[wrK,ih (by omega),List.take_succ_eq_append_getElem (by omega),List.countP_append,List.countP_singleton]
  have e:rn.getD k ⟨0,0,0⟩=rn[k]:=by simp[List.getD_eq_getElem?_getD,show k<rn.length by omega]
  rw[e]
  cases isRt rn[k] l<;>simp
theorem wrongs_cnt(t:Tour)(l:List Int):t.wrongs l=(t.rn.countP (fun x => !isRt x l):Int):=by
 rw[Tour.wrongs,wrK_cnt _ (Nat.le_refl _),List.take_length]
theorem wrongs_nn(t:Tour)(l:List Int):0<=t.wrongs l/\t.wrongs l<=t.rn.length:=by
 rw[wrongs_cnt]
 have:=List.countP_le_length (p:=fun x => !isRt x l) (l:=t.rn)
 omega
def okR(t:Tour)(x:Rain):Bool:=decide ((0<=x.d/\x.d<=t.ds-1)/\(0<=x.lo/\x.lo<=x.hi)/\x.hi<=3)
def okF(f:Fair):Bool:=decide (0<=f.p/\f.p<=999)&&(decide (f.se.length=4)&&f.se.all fun v=>decide (0<=v/\v<=99))
def Tour.hd(t:Tour):Bool:=decide ((1<=t.ds/\t.ds<=6)/\(0<=t.st/\t.st<=3)/\(0<=t.wr/\t.wr<=10)/\(0<=t.rc/\t.rc<=4)/\(0<=t.sk/\t.sk<=999)/\t.rn.length<=10/\1<=t.fs.length/\t.fs.length<=4)
def Tour.ok(t:Tour):Bool:=t.hd&&(t.rn.all (okR t)&&t.fs.all okF)
structure TOk(t:Tour):Prop where
 d1:1<=t.ds
 d6:t.ds<=6
 s0:0<=t.st
 s3:t.st<=3
 w0:0<=t.wr
 w10:t.wr<=10
 c0:0<=t.rc
 c4:t.rc<=4
 k0:0<=t.sk
 k9:t.sk<=999
 rl:t.rn.length<=10
 f1:1<=t.fs.length
 f4:t.fs.length<=4
 rn:∀x∈t.rn,(0<=x.d/\x.d<=t.ds-1)/\(0<=x.lo/\x.lo<=x.hi)/\x.hi<=3
 fs:∀f∈t.fs,(0<=f.p/\f.p<=999)/\f.se.length=4/\∀v∈f.se,0<=v/\v<=99
theorem ok_iff{t:Tour}:t.ok=true<->TOk t:=by
 simp only[Tour.ok,Tour.hd,Bool.and_eq_true,decide_eq_true_eq,List.all_eq_true,okR,okF]
 constructor
 ·rintro⟨⟨⟨a,b⟩,⟨c,d⟩,⟨e,f⟩,⟨g,h⟩,⟨i,j⟩,k,l,m⟩,n,o⟩
  exact⟨a,b,c,d,e,f,g,h,i,j,k,l,m,n,o⟩
 ·rintro⟨a,b,c,d,e,f,g,h,i,j,k,l,m,n,o⟩
  exact⟨⟨⟨a,b⟩,⟨c,d⟩,⟨e,f⟩,⟨g,h⟩,⟨i,j⟩,k,l,m⟩,n,o⟩
noncomputable def isTr(t:Tour)(l:List Int):Bool:=isRow l t.ds 3 t.st&&decide (t.wrongs l<=t.wr)
noncomputable def isRte(t:Tour)(r:List Int):Bool:=isRow r t.ds ((t.fs.length:Int)-1) t.rc
def allRows(t:Tour):List (List Int):=rws 3 t.st t.ds.toNat []
def truths(t:Tour):List (List Int):=(allRows t).filter fun l=>decide (t.wrongs l<=t.wr)
def routes(t:Tour):List (List Int):=rws ((t.fs.length:Int)-1) t.rc t.ds.toNat []
theorem mem_row{most step ds:Int}(hm:0<=most)(hd:0<=ds){l:List Int}:l∈rws most step ds.toNat []<->isRow l ds most step=true:=by
 rw[mem_rws hm,isRow,Bool.and_eq_true,decide_eq_true_eq,decide_eq_true_eq]
 simp only[List.length_nil,List.take_zero,Nat.zero_le,true_implies,Nat.zero_add,true_and]
 constructor
 ·rintro⟨h1,h2⟩;exact⟨h2,by omega⟩
 ·rintro⟨h1,h2⟩;exact⟨by omega,h1⟩
theorem mem_truths{t:Tour}(h:TOk t){l:List Int}:l∈truths t<->isTr t l=true:=by
 have:=h.d1
 rw[truths,List.mem_filter,allRows,mem_row (by omega) (by omega),isTr,Bool.and_eq_true]
theorem mem_routes{t:Tour}(h:TOk t){r:List Int}:r∈routes t<->isRte t r=true:=by
 have:=h.d1;have:=h.f1
 rw[routes,mem_row (by omega) (by omega),isRte]
def trd(t:Tour)(r l:List Int):Nat->Int × Int
 |0=>(0,t.sk)
 |k+1=>
  let q:=trd t r l k
  let f:=t.fs.getD (r.getD k 0).toNat ⟨0,[]⟩
  let n:=min q.2 (f.se.getD (l.getD k 0).toNat 0)
  (q.1+n*f.p,q.2-n)
def tak(t:Tour)(r l:List Int):Int:=(trd t r l t.ds.toNat).1
def lef(t:Tour)(r l:List Int):Int:=(trd t r l t.ds.toNat).2
def spK(x:List Int):Nat->Int × Int
 |0=>(0,0)
 |k+1=>if k=0 then(x.getD 0 0,x.getD 0 0) else(min (spK x k).1 (x.getD k 0),max (spK x k).2 (x.getD k 0))
def spn(x:List Int):Int × Int:=spK x x.length
theorem spK_spec{x:List Int}:∀ {k:Nat},0<k->k<=x.length->((spK x k).1∈x.take k/\(spK x k).2∈x.take k)/\∀v∈x.take k,(spK x k).1<=v/\v<=(spK x k).2:=by
 intro k;induction k with
 |zero=>intro h;omega
 |succ k ih=>
  intro _ hk
  have e:x.take (k+1)=x.take k++[x.getD k 0]:=by rw[List.take_succ_eq_append_getElem (by omega)];simp[List.getD_eq_getElem?_getD,show k<x.length by omega]
  by_cases h0:k=0
  ·subst h0
   rw[e];simp[spK]
  ·obtain⟨⟨h1,h2⟩,h3⟩:=ih (by omega) (by omega)
   rw[e,spK,if_neg h0]
   generalize x.getD k 0=y
   refine⟨⟨?_,?_⟩,fun v hv=>?_⟩
   ·dsimp only
    rcases Int.le_total (spK x k).1 y with h|h
    ·rw[Int.min_eq_left h];exact List.mem_append_left _ h1
    ·rw[Int.min_eq_right h];simp
   ·dsimp only
    rcases Int.le_total (spK x k).2 y with h|h
    ·rw[Int.max_eq_right h];simp
    ·rw[Int.max_eq_left h];exact List.mem_append_left _ h2
   ·dsimp only
    rcases List.mem_append.1 hv with hv|hv
    ·have:=h3 v hv;omega
    ·rw[List.mem_singleton]at hv;omega
theorem spn_spec{x:List Int}(h:x≠[]):((spn x).1∈x/\(spn x).2∈x)/\∀v∈x,(spn x).1<=v/\v<=(spn x).2:=by
 have:=spK_spec (x:=x) (List.length_pos_iff.2 h) (Nat.le_refl _)
 rwa [List.take_length]at this
theorem spn_mono{α β : Type}{a:List α}{b:List β}{f : α -> Int}{g : β -> Int}(ha:a≠[])(h:∀x∈a,∃y∈b,f x=g y):(spn (b.map g)).1<=(spn (a.map f)).1/\(spn (a.map f)).2<=(spn (b.map g)).2:=by
 have hA:=spn_spec (x:=a.map f) (by simpa using ha)
 have hb:b≠[]:=by
  obtain⟨x,hx⟩:=List.exists_mem_of_ne_nil _ ha
  obtain⟨y,hy,_⟩:=h x hx
  exact List.ne_nil_of_mem hy
 have hB:=spn_spec (x:=b.map g) (by simpa using hb)
 obtain⟨⟨h1,h2⟩,_⟩:=hA
 obtain⟨x,hx,e1⟩:=List.mem_map.1 h1
 obtain⟨x',hx',e2⟩:=List.mem_map.1 h2
 obtain⟨y,hy,e3⟩:=h x hx
 obtain⟨y',hy',e4⟩:=h x' hx'
 have a1:=hB.2 _ (List.mem_map_of_mem (f:=g) hy)
 have a2:=hB.2 _ (List.mem_map_of_mem (f:=g) hy')
 omega
theorem spn_le{α : Type}{a:List α}{f g : α -> Int}(ha:a≠[])(h:∀x∈a,f x<=g x):(spn (a.map f)).1<=(spn (a.map g)).1/\(spn (a.map f)).2<=(spn (a.map g)).2:=by
 have hA:=spn_spec (x:=a.map f) (by simpa using ha)
 have hB:=spn_spec (x:=a.map g) (by simpa using ha)
 obtain⟨x,hx,e1⟩:=List.mem_map.1 hB.1.1
 obtain⟨x',hx',e2⟩:=List.mem_map.1 hA.1.2
 have a1:=hA.2 _ (List.mem_map_of_mem (f:=f) hx)
 have a2:=hB.2 _ (List.mem_map_of_mem (f:=g) hx')
 have:=h x hx;have:=h x' hx'
 omega
def takS(t:Tour)(r:List Int):Int × Int:=spn ((truths t).map (tak t r))
def lefS(t:Tour)(r:List Int):Int × Int:=spn ((truths t).map (lef t r))
def mxK(x:List Int):Nat->Int
 |0=>0
 |k+1=>max (mxK x k) (x.getD k 0)
theorem mxK_spec{x:List Int}:∀ {k:Nat},k<=x.length->0<=mxK x k/\(mxK x k=0\/mxK x k∈x.take k)/\∀v∈x.take k,v<=mxK x k:=by
 intro k;induction k with
 |zero=>intro _;simp[mxK]
 |succ k ih=>
  intro hk
  have e:x.take (k+1)=x.take k++[x.getD k 0]:=by rw[List.take_succ_eq_append_getElem (by omega)];simp[List.getD_eq_getElem?_getD,show k<x.length by omega]
  obtain⟨h0,h1,h2⟩:=ih (by omega)
  rw[e,mxK]
  generalize x.getD k 0=y
  refine⟨by omega,?_,fun v hv=>?_⟩
  ·rcases Int.le_total (mxK x k) y with h|h
   ·rw[Int.max_eq_right h];right;simp
   ·rw[Int.max_eq_left h]
    exact h1.imp id fun h=>List.mem_append_left _ h
  ·rcases List.mem_append.1 hv with hv|hv
   ·have:=h2 v hv;omega
   ·rw[List.mem_singleton]at hv;omega
def mx(x:List Int):Int:=mxK x x.length
theorem mx_spec(x:List Int):0<=mx x/\(mx x=0\/mx x∈x)/\∀v∈x,v<=mx x:=by
 have:=mxK_spec (x:=x) (Nat.le_refl _)
 rwa [List.take_length]at this
theorem mx_mono{α β : Type}{a:List α}{b:List β}{f : α -> Int}{g : β -> Int}(h:∀x∈a,∃y∈b,f x<=g y):mx (a.map f)<=mx (b.map g):=by
 obtain⟨h0,h1,_⟩:=mx_spec (a.map f)
 obtain⟨g0,_,g2⟩:=mx_spec (b.map g)
 rcases h1 with h1|h1
 ·omega
 ·obtain⟨x,hx,e⟩:=List.mem_map.1 h1
  obtain⟨y,hy,e2⟩:=h x hx
  have:=g2 _ (List.mem_map_of_mem (f:=g) hy)
  omega
def best(t:Tour):Int:=mx ((routes t).map fun r=>(takS t r).1)
def hopes(t:Tour):Int:=mx ((routes t).map fun r=>(takS t r).2)
def mnK(n:Int)(x:List Int):Nat->Int
 |0=>n
 |k+1=>min (mnK n x k) (x.getD k 0)
def fewest(t:Tour):Int:=mnK t.rn.length ((allRows t).map t.wrongs) (allRows t).length
theorem mnK_spec{n:Int}{x:List Int}:∀ {k:Nat},k<=x.length->mnK n x k<=n/\(mnK n x k=n\/mnK n x k∈x.take k)/\∀v∈x.take k,mnK n x k<=v:=by
 intro k;induction k with
 |zero=>intro _;simp[mnK]
 |succ k ih=>
  intro hk
  have e:x.take (k+1)=x.take k++[x.getD k 0]:=by rw[List.take_succ_eq_append_getElem (by omega)];simp[List.getD_eq_getElem?_getD,show k<x.length by omega]
  obtain⟨h0,h1,h2⟩:=ih (by omega)
  rw[e,mnK]
  generalize x.getD k 0=y
  refine⟨by omega,?_,fun v hv=>?_⟩
  ·rcases Int.le_total (mnK n x k) y with h|h
   ·rw[Int.min_eq_left h]
    exact h1.imp id fun h=>List.mem_append_left _ h
   ·rw[Int.min_eq_right h];right;simp
  ·rcases List.mem_append.1 hv with hv|hv
   ·have:=h2 v hv;omega
   ·rw[List.mem_singleton]at hv;omega
def Tour.err(t:Tour)(b:Bool):Int:=if t.ok=true then if b=true then if (truths t).length=0 then 3 else 0 else 1 else 110
def fnd(t:Tour)(day:Int):List Int:=(truths t).map fun l=>l.getD day.toNat 0
def lvK(f:List Int):Nat->List Int
 |0=>[]
 |n+1=>lvK f n++if (n:Int)∈f then [(n:Int)] else []
def lvl(t:Tour)(day:Int):List Int:=lvK (fnd t day) 4
theorem mem_lvK{f:List Int}{x:Int}:∀ {k:Nat},x∈lvK f k<->∃n,n<k/\x=(n:Int)/\x∈f:=by
 intro k;induction k with
 |zero=>simp[lvK]
 |succ k ih=>
  rw[lvK,List.mem_append,ih]
  constructor
  ·rintro(⟨n,a,b,c⟩|h)
   ·exact⟨n,by omega,b,c⟩
   ·split at h
    ·rename_i hk;rw[List.mem_singleton]at h;subst h;exact⟨k,by omega,rfl,hk⟩
    ·cases h
  ·rintro⟨n,a,b,c⟩
   by_cases e:n=k
   ·subst e;subst b;right;rw[if_pos c];simp
   ·left;exact⟨n,by omega,b,c⟩
theorem lvK_sub{f g:List Int}(h:∀x∈f,x∈g):∀k,(lvK f k).Sublist (lvK g k):=by
 intro k;induction k with
 |zero=>exact List.Sublist.refl _
 |succ k ih=>
  rw[lvK,lvK]
  refine ih.append ?_
  by_cases h1:(k:Int)∈f
  ·rw[if_pos h1,if_pos (h _ h1)];exact List.Sublist.refl _
  ·rw[if_neg h1];exact List.nil_sublist _
theorem lvK_len(f:List Int):∀k,(lvK f k).length<=k:=by
 intro k;induction k with
 |zero=>simp[lvK]
 |succ k ih=>rw[lvK,List.length_append];split<;>simp<;>omega
def rgtV(t:Tour)(x:Rain):Int:=let n:=(truths t).countP (isRt x);if n=(truths t).length then 1 else if n=0 then 2 else 3
theorem allRows_ne{t:Tour}(h:TOk t):allRows t≠[]:=by
 refine List.ne_nil_of_mem (a:=List.replicate t.ds.toNat 0) ?_
 have:=h.d1;have:=h.s0
 rw[allRows,mem_row (by omega) (by omega),isRow,Bool.and_eq_true,decide_eq_true_eq,decide_eq_true_eq]
 have e:∀i,(List.replicate t.ds.toNat (0:Int)).getD i 0=0:=fun i=>by
  rw[List.getD_eq_getElem?_getD,List.getElem?_replicate];split<;>rfl
 refine⟨fun i _=>⟨by rw[e];omega,fun _=>by rw[e,e];exact⟨by omega,by omega⟩⟩,by rw[List.length_replicate];omega⟩
theorem few_spec{t:Tour}(h:TOk t):(0<=fewest t/\fewest t<=t.rn.length)/\(fewest t<=t.wr<->truths t≠[]):=by
 have hs:=mnK_spec (n:=t.rn.length) (x:=(allRows t).map t.wrongs) (k:=(allRows t).length) (by simp)
 rw[show((allRows t).map t.wrongs).take (allRows t).length=(allRows t).map t.wrongs from by rw[List.take_of_length_le (by simp)]]at hs
 change fewest t<=_/\(fewest t=_\/fewest t∈_)/\(∀v∈_,fewest t<=v)at hs
 obtain⟨h1,h2,h3⟩:=hs
 have h2':∃l∈allRows t,t.wrongs l=fewest t:=by
  rcases h2 with h2|h2
  ·obtain⟨l,hl⟩:=List.exists_mem_of_ne_nil _ (allRows_ne h)
   have a:=h3 _ (List.mem_map_of_mem (f:=t.wrongs) hl)
   have b:=(wrongs_nn t l).2
   exact⟨l,hl,by omega⟩
  ·obtain⟨l,hl,e⟩:=List.mem_map.1 h2;exact⟨l,hl,e⟩
 obtain⟨l,hl,e⟩:=h2'
 refine⟨⟨by rw[<- e];exact(wrongs_nn t l).1,h1⟩,fun hw=>List.ne_nil_of_mem (List.mem_filter.2 ⟨hl,decide_eq_true (by omega)⟩),fun hne=>?_⟩
 obtain⟨m,hm⟩:=List.exists_mem_of_ne_nil _ hne
 obtain⟨a,b⟩:=List.mem_filter.1 hm
 have c:=h3 _ (List.mem_map_of_mem (f:=t.wrongs) a)
 have:=of_decide_eq_true b
 omega
theorem rwK_sub{F G:List Int->List (List Int)}{s s':Int}(hs:s<=s')(h:∀f,(F f).Sublist (G f)){f:List Int}:∀m,(rwK F s f m).Sublist (rwK G s' f m):=by
 intro m;induction m with
 |zero=>exact List.Sublist.refl _
 |succ m ih=>
  rw[rwK,rwK]
  refine ih.append ?_
  by_cases h1:0<f.length/\¬stepP s ((m:Int)-f.getD (f.length-1) 0)
  ·rw[if_pos h1];exact List.nil_sublist _
  ·rw[if_neg h1,if_neg (fun h2=>h1 ⟨h2.1,fun h3=>h2.2 ⟨by have:=h3.1;omega,by have:=h3.2;omega⟩⟩)]
   exact h _
theorem rws_sub{most s s':Int}(hs:s<=s'):∀k f,(rws most s k f).Sublist (rws most s' k f):=by
 intro k;induction k with
 |zero=>intro f;exact List.Sublist.refl _
 |succ k ih=>intro f;rw[rws,rws];exact rwK_sub hs ih _
theorem sub_imp{α : Type}{p q : α -> Bool}{a b:List α}(h:a.Sublist b)(hpq:∀x,p x=true->q x=true):(a.filter p).Sublist (b.filter q):=by
 have e:a.filter p=(a.filter q).filter p:=by
  rw[List.filter_filter];congr 1;funext x
  cases hp:p x with
  |false=>simp
  |true=>simp[hpq x hp]
 rw[e]
 exact List.filter_sublist.trans (h.filter q)
structure InS(a b:Tour):Prop where
 ds:a.ds=b.ds
 fs:a.fs=b.fs
 sk:a.sk=b.sk
 rc:a.rc=b.rc
 tr:(truths a).Sublist (truths b)
theorem trd_congr{a b:Tour}(h1:a.fs=b.fs)(h2:a.sk=b.sk)(r l:List Int):∀k,trd a r l k=trd b r l k:=by
 intro k;induction k with
 |zero=>rw[trd,trd,h2]
 |succ k ih=>rw[trd,trd,ih,h1]
theorem InS.tak{a b:Tour}(h:InS a b)(r l:List Int):tak a r l=tak b r l:=by rw[Go.Proofs.tak,Go.Proofs.tak,trd_congr h.fs h.sk,h.ds]
theorem InS.lef{a b:Tour}(h:InS a b)(r l:List Int):lef a r l=lef b r l:=by rw[Go.Proofs.lef,Go.Proofs.lef,trd_congr h.fs h.sk,h.ds]
theorem InS.takS{a b:Tour}(h:InS a b)(hn:truths a≠[])(r:List Int):(takS b r).1<=(takS a r).1/\(takS a r).2<=(takS b r).2:=
 spn_mono hn fun x hx=>⟨x,h.tr.subset hx,h.tak r x⟩
theorem InS.lefS{a b:Tour}(h:InS a b)(hn:truths a≠[])(r:List Int):(lefS b r).1<=(lefS a r).1/\(lefS a r).2<=(lefS b r).2:=
 spn_mono hn fun x hx=>⟨x,h.tr.subset hx,h.lef r x⟩
theorem InS.best{a b:Tour}(h:InS a b)(hn:truths a≠[]):best b<=best a:=by
 have e:routes a=routes b:=by rw[routes,routes,h.fs,h.rc,h.ds]
 rw[Go.Proofs.best,Go.Proofs.best,e]
 exact mx_mono fun r hr=>⟨r,hr,(h.takS hn r).1⟩
theorem InS.lvl{a b:Tour}(h:InS a b)(day:Int):(lvl a day).Sublist (lvl b day):=lvK_sub (fun x hx=>by
 obtain⟨l,hl,e⟩:=List.mem_map.1 hx
 exact List.mem_map.2 ⟨l,h.tr.subset hl,e⟩) 4
def Tour.more(t:Tour)(x:Rain):Tour:={ t with rn:=t.rn++[x] }
def Tour.wrong(t:Tour):Tour:={ t with wr:=min 10 (t.wr+1) }
def Tour.steps(t:Tour):Tour:={ t with st:=min 3 (t.st+1) }
theorem more_in(t:Tour)(x:Rain):InS (t.more x) t:=⟨rfl,rfl,rfl,rfl,by
 refine sub_imp (List.Sublist.refl _) fun l hl=>?_
 have:=of_decide_eq_true hl
 refine decide_eq_true ?_
 rw[wrongs_cnt]at this⊢
 simp only[Tour.more,List.countP_append]at this
 omega⟩
theorem wrong_in{t:Tour}(h:TOk t):InS t t.wrong:=⟨rfl,rfl,rfl,rfl,by
 have:=h.w10
 refine sub_imp (List.Sublist.refl _) fun l hl=>?_
 have:=of_decide_eq_true hl
 refine decide_eq_true ?_
 show t.wrongs l<=min 10 (t.wr+1)
 omega⟩
theorem steps_in{t:Tour}(h:TOk t):InS t t.steps:=⟨rfl,rfl,rfl,rfl,by
 have:=h.s3
 exact sub_imp (rws_sub (show t.st<=min 3 (t.st+1) by omega) _ _) fun l hl=>hl⟩
def Tour.rich(t:Tour)(b:Int):Tour:={ t with sk:=min 999 (t.sk+b) }
def Tour.far'(t:Tour):Tour:={ t with rc:=min 4 (t.rc+1) }
theorem trd_rich{t:Tour}(h:TOk t){b:Int}(hb:0<=b)(r l:List Int):∀k,(0<=(trd t r l k).2/\(trd t r l k).2<=(trd (t.rich b) r l k).2)/\(trd t r l k).1<=(trd (t.rich b) r l k).1:=by
 have hz:∀i,0<=(t.fs.getD i ⟨0,[]⟩).p/\∀j,0<=(t.fs.getD i ⟨0,[]⟩).se.getD j 0:=fun i=>by
  by_cases hi:i<t.fs.length
  ·have e:t.fs.getD i ⟨0,[]⟩=t.fs[i]:=by simp[List.getD_eq_getElem?_getD,hi]
   have a:=h.fs _ (List.getElem_mem hi)
   rw[e]
   refine⟨a.1.1,fun j=>?_⟩
   by_cases hj:j<t.fs[i].se.length
   ·have:t.fs[i].se.getD j 0=t.fs[i].se[j]:=by simp[List.getD_eq_getElem?_getD,hj]
    rw[this];exact(a.2.2 _ (List.getElem_mem hj)).1
   ·rw[List.getD_eq_getElem?_getD,List.getElem?_eq_none (by omega)];exact Int.le_refl _
  ·rw[show t.fs.getD i ⟨0,[]⟩=⟨0,[]⟩ from by rw[List.getD_eq_getElem?_getD,List.getElem?_eq_none (by omega)];rfl]
   exact⟨Int.le_refl _,fun j=>by simp⟩
 intro k;induction k with
 |zero=>
  have:=h.k0;have:=h.k9
  refine⟨⟨h.k0,?_⟩,Int.le_refl _⟩
  show t.sk<=min 999 (t.sk+b)
  omega
 |succ k ih=>
  obtain⟨⟨h1,h2⟩,h3⟩:=ih
  rw[trd,trd]
  dsimp only
  rw[show(t.rich b).fs=t.fs from rfl]
  have hp:=(hz (r.getD k 0).toNat).1
  have hx:=(hz (r.getD k 0).toNat).2 (l.getD k 0).toNat
  generalize (t.fs.getD (r.getD k 0).toNat ⟨0,[]⟩).p=p at hp⊢
  generalize (t.fs.getD (r.getD k 0).toNat ⟨0,[]⟩).se.getD (l.getD k 0).toNat 0=x at hx⊢
  generalize trd t r l k=q at *
  generalize trd (t.rich b) r l k=q' at *
  refine⟨⟨by omega,by omega⟩,?_⟩
  have hm:min q.2 x<=min q'.2 x:=by omega
  have:=Int.mul_le_mul_of_nonneg_right hm hp
  omega
theorem rich_takS{t:Tour}(h:TOk t){b:Int}(hb:0<=b)(hn:truths t≠[])(r:List Int):((takS t r).1<=(takS (t.rich b) r).1/\(takS t r).2<=(takS (t.rich b) r).2)/\(lefS t r).1<=(lefS (t.rich b) r).1/\(lefS t r).2<=(lefS (t.rich b) r).2:=by
 have e:truths (t.rich b)=truths t:=rfl
 rw[takS,takS,lefS,lefS,e]
 exact⟨spn_le hn fun l _=>(trd_rich h hb r l _).2,spn_le hn fun l _=>(trd_rich h hb r l _).1.2⟩
theorem rich_best{t:Tour}(h:TOk t){b:Int}(hb:0<=b)(hn:truths t≠[]):best t<=best (t.rich b)/\hopes t<=hopes (t.rich b):=by
 have e:routes (t.rich b)=routes t:=rfl
 rw[best,best,hopes,hopes,e]
 exact⟨mx_mono fun r hr=>⟨r,hr,(rich_takS h hb hn r).1.1⟩,mx_mono fun r hr=>⟨r,hr,(rich_takS h hb hn r).1.2⟩⟩
theorem far_best{t:Tour}(h:TOk t):best t<=best t.far'/\hopes t<=hopes t.far':=by
 have:=h.c4
 have e:∀r∈routes t,r∈routes t.far':=fun r hr=>(rws_sub (show t.rc<=min 4 (t.rc+1) by omega) _ _).subset hr
 have e2:∀r,takS t.far' r=takS t r:=fun r=>by
  rw[takS,takS,show truths t.far'=truths t from rfl,show tak t.far' r=tak t r from funext fun l=>by rw[tak,tak,show t.far'.ds=t.ds from rfl,trd_congr (a:=t.far') (b:=t) rfl rfl]]
 exact⟨mx_mono fun r hr=>⟨r,e r hr,by rw[e2];exact Int.le_refl _⟩,mx_mono fun r hr=>⟨r,e r hr,by rw[e2];exact Int.le_refl _⟩⟩
def Tour.one(t:Tour):Tour:={ t with fs:=t.fs.map fun f=>{ f with p:=1 } }
theorem one_get{t:Tour}{i:Nat}(hi:i<t.fs.length):t.one.fs.getD i ⟨0,[]⟩={ t.fs.getD i ⟨0,[]⟩with p:=1 }:=by
 simp[Tour.one,List.getD_eq_getElem?_getD,hi]
theorem trd_one{t:Tour}(r l:List Int)(hr:∀k,k<t.ds.toNat->(r.getD k 0).toNat<t.fs.length):∀k,k<=t.ds.toNat->(trd t.one r l k).2=(trd t r l k).2/\(trd t.one r l k).1+(trd t.one r l k).2=t.sk:=by
 intro k;induction k with
 |zero=>intro _;simp[trd,Tour.one]
 |succ k ih=>
  intro hk
  obtain⟨h1,h2⟩:=ih (by omega)
  have hi:=hr k (by omega)
  rw[trd,trd]
  dsimp only
  rw[one_get hi,h1]
  dsimp only
  generalize (t.fs.getD (r.getD k 0).toNat ⟨0,[]⟩).se.getD (l.getD k 0).toNat 0=x
  omega
theorem spn_flip{α : Type}{a:List α}{f g : α -> Int}{c:Int}(ha:a≠[])(h:∀x∈a,f x+g x=c):(spn (a.map f)).1+(spn (a.map g)).2=c/\(spn (a.map f)).2+(spn (a.map g)).1=c:=by
 obtain⟨⟨f1,f2⟩,f3⟩:=spn_spec (x:=a.map f) (by simpa using ha)
 obtain⟨⟨g1,g2⟩,g3⟩:=spn_spec (x:=a.map g) (by simpa using ha)
 obtain⟨x1,hx1,e1⟩:=List.mem_map.1 f1
 obtain⟨x2,hx2,e2⟩:=List.mem_map.1 f2
 obtain⟨y1,hy1,e3⟩:=List.mem_map.1 g1
 obtain⟨y2,hy2,e4⟩:=List.mem_map.1 g2
 have a1:=f3 _ (List.mem_map_of_mem (f:=f) hy1)
 have a2:=f3 _ (List.mem_map_of_mem (f:=f) hy2)
 have b1:=g3 _ (List.mem_map_of_mem (f:=g) hx1)
 have b2:=g3 _ (List.mem_map_of_mem (f:=g) hx2)
 have c1:=h _ hx1;have c2:=h _ hx2;have c3:=h _ hy1;have c4:=h _ hy2
 omega
theorem rte_lt{t:Tour}(h:TOk t){r:List Int}(hr:isRte t r=true):∀k,k<t.ds.toNat->(0<=r.getD k 0/\(r.getD k 0).toNat<t.fs.length):=fun k hk=>by
 rw[isRte,isRow,Bool.and_eq_true,decide_eq_true_eq,decide_eq_true_eq]at hr
 have:=h.f1
 have a:=(hr.1 k (by omega)).1
 omega
theorem one_truths(t:Tour):truths t.one=truths t:=rfl
theorem lost_ok{t:Tour}(h:TOk t)(hn:truths t≠[]){r:List Int}(hr:isRte t r=true):((takS t.one r).1+(lefS t.one r).2=t.sk/\(takS t.one r).2+(lefS t.one r).1=t.sk)/\lefS t.one r=lefS t r/\0<=(lefS t.one r).1:=by
 have hq:=fun l=>trd_one (t:=t) r l (fun k hk=>(rte_lt h hr k hk).2) t.ds.toNat (Nat.le_refl _)
 have e:lef t.one r=lef t r:=funext fun l=>(hq l).1
 refine⟨spn_flip hn fun l _=>(hq l).2,?_,?_⟩
 ·rw[lefS,lefS,e,one_truths]
 ·rw[lefS,e,one_truths]
  obtain⟨⟨h1,_⟩,_⟩:=spn_spec (x:=(truths t).map (lef t r)) (by simpa using hn)
  obtain⟨l,_,e2⟩:=List.mem_map.1 h1
  rw[<- e2]
  exact(trd_rich h (Int.le_refl 0) r l _).1.1
theorem one_ok{t:Tour}(h:TOk t):TOk t.one:=⟨h.d1,h.d6,h.s0,h.s3,h.w0,h.w10,h.c0,h.c4,h.k0,h.k9,h.rl,by simpa[Tour.one]using h.f1,by simpa[Tour.one]using h.f4,h.rn,fun f hf=>by
 simp only[Tour.one,List.mem_map]at hf
 obtain⟨g,hg,rfl⟩:=hf
 exact⟨⟨by dsimp only;omega,by dsimp only;omega⟩,(h.fs g hg).2⟩⟩
theorem rich_ok{t:Tour}(h:TOk t){b:Int}(hb:0<=b):TOk (t.rich b):=⟨h.d1,h.d6,h.s0,h.s3,h.w0,h.w10,h.c0,h.c4,by have:=h.k0;show 0<=min 999 (t.sk+b);omega,by show min 999 (t.sk+b)<=999;omega,h.rl,h.f1,h.f4,h.rn,h.fs⟩
theorem far_ok{t:Tour}(h:TOk t):TOk t.far':=⟨h.d1,h.d6,h.s0,h.s3,h.w0,h.w10,by have:=h.c0;show 0<=min 4 (t.rc+1);omega,by show min 4 (t.rc+1)<=4;omega,h.k0,h.k9,h.rl,h.f1,h.f4,h.rn,h.fs⟩
theorem wrong_ok{t:Tour}(h:TOk t):TOk t.wrong:=⟨h.d1,h.d6,h.s0,h.s3,by have:=h.w0;show 0<=min 10 (t.wr+1);omega,by show min 10 (t.wr+1)<=10;omega,h.c0,h.c4,h.k0,h.k9,h.rl,h.f1,h.f4,h.rn,h.fs⟩
theorem steps_ok{t:Tour}(h:TOk t):TOk t.steps:=⟨h.d1,h.d6,by have:=h.s0;show 0<=min 3 (t.st+1);omega,by show min 3 (t.st+1)<=3;omega,h.w0,h.w10,h.c0,h.c4,h.k0,h.k9,h.rl,h.f1,h.f4,h.rn,h.fs⟩
def rot{α : Type}(k:Nat)(l:List α):List α :=l.drop k++l.take k
theorem rot_perm{α : Type}(k:Nat)(l:List α):(rot k l).Perm l:=by
 have h:=List.perm_append_comm (l₁ :=l.drop k) (l₂ :=l.take k)
 rwa [List.take_append_drop]at h
def Tour.turn(t:Tour)(k:Nat):Tour:={ t with rn:=rot k t.rn }
theorem turn_wrongs(t:Tour)(k:Nat):(t.turn k).wrongs=t.wrongs:=funext fun l=>by
 rw[wrongs_cnt,wrongs_cnt]
 exact congrArg _ ((rot_perm k t.rn).countP_eq _)
theorem turn_truths(t:Tour)(k:Nat):truths (t.turn k)=truths t:=by
 rw[truths,truths,turn_wrongs];rfl
theorem turn_few(t:Tour)(k:Nat):fewest (t.turn k)=fewest t:=by
 rw[fewest,fewest,turn_wrongs,show(t.turn k).rn.length=t.rn.length from (rot_perm k t.rn).length_eq];rfl
theorem turn_best(t:Tour)(k:Nat):best (t.turn k)=best t:=by
 have e2:∀r,takS (t.turn k) r=takS t r:=fun r=>by
  rw[takS,takS,turn_truths,show tak (t.turn k) r=tak t r from funext fun l=>by rw[tak,tak,show(t.turn k).ds=t.ds from rfl,trd_congr (a:=t.turn k) (b:=t) rfl rfl]]
 rw[best,best,show routes (t.turn k)=routes t from rfl,show(fun r=>(takS (t.turn k) r).1)=fun r=>(takS t r).1 from funext fun r=>by rw[e2]]
theorem turn_ok{t:Tour}(h:TOk t)(k:Nat):TOk (t.turn k):=⟨h.d1,h.d6,h.s0,h.s3,h.w0,h.w10,h.c0,h.c4,h.k0,h.k9,by rw[show(t.turn k).rn.length=t.rn.length from (rot_perm k t.rn).length_eq];exact h.rl,h.f1,h.f4,fun x hx=>h.rn x ((rot_perm k t.rn).mem_iff.1 hx),h.fs⟩
theorem err_zero{t:Tour}{b:Bool}:t.err b=0<->TOk t/\b=true/\truths t≠[]:=by
 rw[Tour.err]
 by_cases h1:t.ok=true
 ·rw[if_pos h1]
  by_cases h2:b=true
  ·rw[if_pos h2]
   by_cases h3:(truths t).length=0
   ·rw[if_pos h3];exact⟨fun h=>by omega,fun h=>absurd (List.length_eq_zero_iff.1 h3) h.2.2⟩
   ·rw[if_neg h3];exact⟨fun _=>⟨ok_iff.1 h1,h2,fun e=>h3 (by rw[e];rfl)⟩,fun _=>rfl⟩
  ·rw[if_neg h2];exact⟨fun h=>by omega,fun h=>absurd h.2.1 h2⟩
 ·rw[if_neg h1];exact⟨fun h=>by omega,fun h=>absurd (ok_iff.2 h.1) h1⟩
theorem proof_ok{t:Tour}(hn:truths t≠[]){r:List Int}(hr:r∈routes t):(takS t r).1<=best t/\(takS t r).2<=hopes t/\best t<=hopes t:=by
 refine⟨(mx_spec _).2.2 _ (List.mem_map_of_mem (f:=fun r=>(takS t r).1) hr),(mx_spec _).2.2 _ (List.mem_map_of_mem (f:=fun r=>(takS t r).2) hr),mx_mono fun x hx=>⟨x,hx,?_⟩⟩
 have:=spn_spec (x:=(truths t).map (tak t x)) (by simpa using hn)
 exact(this.2 _ this.1.1).2
def exT:Tour:=⟨3,2,[⟨0,2,3⟩,⟨1,0,1⟩,⟨2,0,0⟩,⟨2,3,3⟩],1,[⟨10,[0,2,4,6]⟩,⟨20,[0,1,2,3]⟩,⟨5,[6,6,6,6]⟩],1,7⟩
theorem exT_ok:exT.ok=true:=by decide +kernel
theorem exT_truths:(truths exT).length=5:=by decide +kernel
theorem exT_tak:takS exT [1,1,2]=(65,95):=by decide +kernel
theorem exT_best:best exT=65:=by decide +kernel
theorem exT_lvl:lvl exT 2=[0,3]:=by decide +kernel
theorem exT_rte:isRte exT [1,1,2]=true:=by
 rw[<- mem_routes (ok_iff.1 exT_ok)];decide +kernel
theorem ex_none{t:Tour}(h:TOk t):t.err true=if (truths t).length=0 then 3 else 0:=by
 rw[Tour.err,if_pos (ok_iff.2 h),if_pos rfl]
theorem truths_len{t:Tour}(h:TOk t):(truths t).length<=4096:=by
 have a:(truths t).length<=(allRows t).length:=List.length_filter_le _ _
 have b:=rws_len (most:=3) (step:=t.st) t.ds.toNat []
 have c:4 ^ t.ds.toNat<=4 ^ 6:=Nat.pow_le_pow_right (by decide) (by have:=h.d6;omega)
 have d:(allRows t).length<=4 ^ t.ds.toNat:=b
 omega
theorem routes_len{t:Tour}(h:TOk t):(routes t).length<=4096:=by
 have b:=rws_len (most:=(t.fs.length:Int)-1) (step:=t.rc) t.ds.toNat []
 have e:((t.fs.length:Int)-1).toNat+1<=4:=by have:=h.f4;have:=h.f1;omega
 have c:(((t.fs.length:Int)-1).toNat+1) ^ t.ds.toNat<=4 ^ t.ds.toNat:=Nat.pow_le_pow_left e _
 have d:4 ^ t.ds.toNat<=4 ^ 6:=Nat.pow_le_pow_right (by decide) (by have:=h.d6;omega)
 have f:(routes t).length<=(((t.fs.length:Int)-1).toNat+1) ^ t.ds.toNat:=b
 omega
theorem trd_bd{t:Tour}(h:TOk t)(r l:List Int):∀k,(0<=(trd t r l k).2/\(trd t r l k).2<=999)/\0<=(trd t r l k).1/\(trd t r l k).1<=98901*k:=by
 intro k;induction k with
 |zero=>exact⟨⟨h.k0,h.k9⟩,Int.le_refl _,by simp[trd]⟩
 |succ k ih=>
  obtain⟨⟨h1,h2⟩,h3,h4⟩:=ih
  rw[trd]
  dsimp only
  have hf:(0<=(t.fs.getD (r.getD k 0).toNat ⟨0,[]⟩).p/\(t.fs.getD (r.getD k 0).toNat ⟨0,[]⟩).p<=999)/\∀j,0<=(t.fs.getD (r.getD k 0).toNat ⟨0,[]⟩).se.getD j 0/\(t.fs.getD (r.getD k 0).toNat ⟨0,[]⟩).se.getD j 0<=99:=by
   by_cases hi:(r.getD k 0).toNat<t.fs.length
   ·have e:t.fs.getD (r.getD k 0).toNat ⟨0,[]⟩=t.fs[(r.getD k 0).toNat]:=by rw[List.getD_eq_getElem?_getD,List.getElem?_eq_getElem hi];rfl
    have a:=h.fs _ (List.getElem_mem hi)
    rw[e]
    refine⟨a.1,fun j=>?_⟩
    by_cases hj:j<t.fs[(r.getD k 0).toNat].se.length
    ·have:t.fs[(r.getD k 0).toNat].se.getD j 0=t.fs[(r.getD k 0).toNat].se[j]:=by rw[List.getD_eq_getElem?_getD,List.getElem?_eq_getElem hj];rfl
     rw[this];exact a.2.2 _ (List.getElem_mem hj)
    ·rw[List.getD_eq_getElem?_getD,List.getElem?_eq_none (by omega)];exact⟨by decide,by decide⟩
   ·rw[show t.fs.getD (r.getD k 0).toNat ⟨0,[]⟩=⟨0,[]⟩ from by rw[List.getD_eq_getElem?_getD,List.getElem?_eq_none (by omega)];rfl]
    exact⟨⟨by decide,by decide⟩,fun j=>by simp⟩
  have hp:=hf.1
  have hx:=hf.2 (l.getD k 0).toNat
  generalize (t.fs.getD (r.getD k 0).toNat ⟨0,[]⟩).p=p at hp⊢
  generalize (t.fs.getD (r.getD k 0).toNat ⟨0,[]⟩).se.getD (l.getD k 0).toNat 0=x at hx⊢
  generalize trd t r l k=q at *
  have m0:0<=min q.2 x/\min q.2 x<=99:=by omega
  have a:=Int.mul_le_mul m0.2 hp.2 hp.1 (by decide)
  have b:=Int.mul_nonneg m0.1 hp.1
  refine⟨⟨by omega,by omega⟩,by omega,?_⟩
  have:((k+1:Nat):Int)=k+1:=by omega
  rw[this]
  omega
def Rain.av(x:Rain):List AV:=[.int .i64 x.d, .int .i64 x.lo, .int .i64 x.hi]
def Fair.av(f:Fair):List AV:=[.int .i64 f.p, .isl (f.se.map jAV)]
def Tour.cells(t:Tour):List AV:=[.int .i64 t.ds, .int .i64 t.st, .isl (t.rn.map Rain.av), .int .i64 t.wr, .isl (t.fs.map Fair.av), .int .i64 t.rc, .int .i64 t.sk]
theorem getM{α : Type}(f : α -> List AV)(l:List α)(i:Nat)(h:i<l.length):(l.map f).getD i []=f l[i]:=by
 simp[List.getD_eq_getElem?_getD,h]
theorem getJ(l:List Int)(i:Nat)(h:i<l.length):(l.map jAV).getD i []=[.int .i64 (l.getD i 0)]:=by
 rw[getM jAV l i h];simp[List.getD_eq_getElem?_getD,h,jAV]
theorem getFl(l:List (List Int))(i:Nat)(h:i<l.length):(l.map fAV).getD i []=[.isl ((l.getD i []).map jAV)]:=by
 rw[getM fAV l i h];simp[List.getD_eq_getElem?_getD,h,fAV]
theorem j_one(l:List Int):∀e∈l.map jAV,e.length=1/\e.all AV.one=true:=fun e he=>by
 obtain⟨x,_,rfl⟩:=List.mem_map.1 he;exact⟨rfl,rfl⟩
theorem f_one(l:List (List Int)):∀e∈l.map fAV,e.length=1/\e.all AV.one=true:=fun e he=>by
 obtain⟨x,_,rfl⟩:=List.mem_map.1 he;exact⟨rfl,rfl⟩
theorem r_one(l:List Rain):∀e∈l.map Rain.av,e.length=3/\e.all AV.one=true:=fun e he=>by
 obtain⟨x,_,rfl⟩:=List.mem_map.1 he;exact⟨rfl,rfl⟩
theorem take_none{α : Type}{l:List α}{p : α -> Bool}{k:Nat}(hk:k<l.length)(h:∀x∈l.take k,p x=false)(hx:p l[k]=false):∀x∈l.take (k+1),p x=false:=by
 intro x hm
 rw[List.take_succ_eq_append_getElem hk]at hm
 rcases List.mem_append.1 hm with hm|hm
 ·exact h x hm
 ·rw[List.mem_singleton.1 hm];exact hx
theorem take_all{α : Type}{l:List α}{p : α -> Bool}{k:Nat}(hk:k<l.length)(h:∀x∈l.take k,p x=true)(hx:p l[k]=true):∀x∈l.take (k+1),p x=true:=by
 intro x hm
 rw[List.take_succ_eq_append_getElem hk]at hm
 rcases List.mem_append.1 hm with hm|hm
 ·exact h x hm
 ·rw[List.mem_singleton.1 hm];exact hx
theorem q53(n lo hi:Int):FnA Try.prog 79 [.int .i64 n, .int .i64 lo, .int .i64 hi] (· = .bool (decide (lo<=n/\n<=hi))):=by
 refine fnA 0 ok79 (by simp) ?_
 (conv=>whnf);(repeat'((first|apply bT|apply bF|apply bN|((first|apply bD|apply bEq|apply bNe)<;>intro hh<;>try(exfalso;omega))|refine wJ ?_|refine nJ ?_)<;>conv=>whnf))
 all_goals first|rfl|exact congrArg AV.bool (decide_eq_decide.2 (by omega))|exact congrArg AV.bool (decide_eq_true (by omega)).symm|exact congrArg AV.bool (decide_eq_false (by omega)).symm
theorem q43(n lo hi:Int):FnA Try.prog 52 [.int .i64 n, .int .i64 lo, .int .i64 hi] (· = .bool (decide (lo<=n/\n<=hi))):=by
 have e1:=q53 n lo hi
 refine fnA 0 ok52 (by simp) ?_
 (conv=>whnf);(repeat'((first|apply bT|apply bF|apply bN|((first|apply bD|apply bEq|apply bNe)<;>intro hh<;>try(exfalso;omega))|refine e1.cq rfl rfl ?_|refine wJ ?_|refine nJ ?_)<;>conv=>whnf))
 all_goals rfl
theorem q54(l:List Int)(x:Int)(hl:l.length<=1000000):FnA Try.prog 85 [.isl (l.map jAV), .int .i64 x] (· = .bool (decide (x∈l))):=by
 have hL:(l.map jAV).length=l.length:=by simp
 refine fnA 0 ok85 (by simp) ?_
 (conv=>whnf);(repeat'((first|apply bT|apply bF|apply bN|((first|apply bD|apply bEq|apply bNe)<;>intro hh<;>try(exfalso;omega))|refine wJ ?_|refine nJ ?_)<;>conv=>whnf))
 refine loop_i (α :=Nat) (fun k=>[(5, .int .i64 k),(1, .int .i64 x),(0, .isl (l.map jAV))]) (fun k=>[]) (fun k=>k<=l.length/\∀b∈l.take k,decide (b=x)=false) (fun k=>l.length-k) 0 mI ⟨by simp,by simp⟩ ?_
 rintro k ⟨h1,h2⟩
 conv=>whnf
 refine bD (fun h3=>?_) (fun h3=>?_)
 ·have hk:k<l.length:=by omega
  by_cases hx:l[k]=x
  ·rw[decide_eq_true (by rw[<- hx];exact List.getElem_mem hk)]
   (conv=>whnf);(repeat'((first|apply bT|apply bF|apply bN|((first|apply bD|apply bEq|apply bNe)<;>intro hh<;>try(exfalso;omega))|refine iaJ (getM jAV l k hk) ?_|refine wJ ?_|refine nJ ?_)<;>conv=>whnf))
   all_goals rfl
  ·(conv=>whnf);(repeat'((first|apply bT|apply bF|apply bN|((first|apply bD|apply bEq|apply bNe)<;>intro hh<;>try(exfalso;omega))|refine iaJ (getM jAV l k hk) ?_|refine wJ ?_|refine nJ ?_)<;>conv=>whnf))
   exact⟨k+1,mI,⟨by omega,take_none hk h2 (decide_eq_false hx)⟩,by omega⟩
 ·have:k=l.length:=by omega
  subst this
  rw[List.take_length]at h2
  rw[decide_eq_false (fun h=>by have:=h2 x h;simp at this)]
  (conv=>whnf);(repeat'((first|apply bT|apply bF|apply bN|((first|apply bD|apply bEq|apply bNe)<;>intro hh<;>try(exfalso;omega))|refine wJ ?_|refine nJ ?_)<;>conv=>whnf))
  all_goals rfl
theorem q47(l:List Int)(x:Int)(hl:l.length<=1000000):FnA Try.prog 62 [.isl (l.map jAV), .int .i64 x] (· = .bool (decide (x∈l))):=by
 have e1:=q54 l x hl
 refine fnA 0 ok62 (by simp) ?_
 (conv=>whnf);(repeat'((first|apply bT|apply bF|apply bN|((first|apply bD|apply bEq|apply bNe)<;>intro hh<;>try(exfalso;omega))|refine e1.cq rfl rfl ?_|refine wJ ?_|refine nJ ?_)<;>conv=>whnf))
 all_goals rfl
theorem q52(l:List Int)(many most step:Int)(hl:l.length<=9223372036854775807)(hm:most<=1000000)(hs:0<=step/\step<=1000000):FnA Try.prog 75 [.isl (l.map jAV), .int .i64 many, .int .i64 most, .int .i64 step] (· = .bool (isRow l many most step)):=by
 have hL:(l.map jAV).length=l.length:=by simp
 refine fnA 0 ok75 (by simp) ?_
 (conv=>whnf);(repeat'((first|apply bT|apply bF|apply bN|((first|apply bD|apply bEq|apply bNe)<;>intro hh<;>try(exfalso;omega))|refine wJ ?_|refine nJ ?_)<;>conv=>whnf))
 refine loop_i (α :=Nat) (fun k=>[(9, .int .i64 k),(3, .int .i64 step),(2, .int .i64 most),(1, .int .i64 many),(0, .isl (l.map jAV))]) (fun k=>[]) (fun k=>k<=l.length/\rowP most step l k) (fun k=>l.length-k) 0 mI ⟨by simp,fun i h=>by omega⟩ ?_
 rintro k ⟨h1,h2⟩
 conv=>whnf
 refine bD (fun h3=>?_) (fun h3=>?_)
 ·have hk:k<l.length:=by omega
  have g1:=getJ l k hk
  have e1:=q43 (l.getD k 0) 0 most
  have bad:¬posOk most step l k->isRow l many most step=false:=fun h=>by
   rw[isRow,decide_eq_false (fun hr=>h (hr k hk)),Bool.false_and]
  have good:posOk most step l k->rowP most step l (k+1):=fun h i hi=>by
   by_cases e:i=k
   ·subst e;exact h
   ·exact h2 i (by omega)
  by_cases hA:0<=l.getD k 0/\l.getD k 0<=most
  ·rw[decide_eq_true hA]at e1
   by_cases h0:k=0
   ·subst h0
    (conv=>whnf);(repeat'((first|apply bT|apply bF|apply bN|((first|apply bD|apply bEq|apply bNe)<;>intro hh<;>try(exfalso;omega))|refine iaJ g1 ?_|refine e1.cq rfl rfl ?_|refine wJ ?_|refine nJ ?_)<;>conv=>whnf))
    exact⟨0+1,mI,⟨by omega,good ⟨hA,fun h=>by omega⟩⟩,by omega⟩
   ·have hB:=(h2 (k-1) (by omega)).1
    have g2:(l.map jAV).getD (((k:Int)-1).toNat:Nat) []=[.int .i64 (l.getD (k-1) 0)]:=by
     rw[show((k:Int)-1).toNat=k-1 by omega];exact getJ l (k-1) (by omega)
    have e2:=q43 (l.getD k 0-l.getD (k-1) 0) (0-step) step
    by_cases hC:stepP step (l.getD k 0-l.getD (k-1) 0)
    ·rw[decide_eq_true (show 0-step<=l.getD k 0-l.getD (k-1) 0/\l.getD k 0-l.getD (k-1) 0<=step by have:=hC.1;have:=hC.2;omega)]at e2
     (conv=>whnf);(repeat'((first|apply bT|apply bF|apply bN|((first|apply bD|apply bEq|apply bNe)<;>intro hh<;>try(exfalso;omega))|refine iaJ g1 ?_|refine iaJ g2 ?_|refine e1.cq rfl rfl ?_|refine e2.cq rfl rfl ?_|refine wJ ?_|refine nJ ?_)<;>conv=>whnf))
     exact⟨k+1,mI,⟨by omega,good ⟨hA,fun _=>hC⟩⟩,by omega⟩
    ·rw[decide_eq_false (show ¬(0-step<=l.getD k 0-l.getD (k-1) 0/\l.getD k 0-l.getD (k-1) 0<=step) from fun h=>hC ⟨by omega,h.2⟩)]at e2
     rw[bad fun h=>hC (h.2 (by omega))]
     (conv=>whnf);(repeat'((first|apply bT|apply bF|apply bN|((first|apply bD|apply bEq|apply bNe)<;>intro hh<;>try(exfalso;omega))|refine iaJ g1 ?_|refine iaJ g2 ?_|refine e1.cq rfl rfl ?_|refine e2.cq rfl rfl ?_|refine wJ ?_|refine nJ ?_)<;>conv=>whnf))
     all_goals rfl
  ·rw[decide_eq_false hA]at e1
   rw[bad fun h=>hA h.1]
   (conv=>whnf);(repeat'((first|apply bT|apply bF|apply bN|((first|apply bD|apply bEq|apply bNe)<;>intro hh<;>try(exfalso;omega))|refine iaJ g1 ?_|refine e1.cq rfl rfl ?_|refine wJ ?_|refine nJ ?_)<;>conv=>whnf))
   all_goals rfl
 ·have:k=l.length:=by omega
  subst this
  rw[isRow,decide_eq_true h2,Bool.true_and]
  (conv=>whnf);(repeat'((first|apply bT|apply bF|apply bN|((first|apply bD|apply bEq|apply bNe)<;>intro hh<;>try(exfalso;omega))|refine wJ ?_|refine nJ ?_)<;>conv=>whnf))
  all_goals first|rfl|exact congrArg AV.bool (decide_eq_decide.2 (by omega))|exact congrArg AV.bool (decide_eq_true (by omega)).symm|exact congrArg AV.bool (decide_eq_false (by omega)).symm
theorem q38(x:Rain)(l:List Int)(h0:0<=x.d)(h1:x.d.toNat<l.length)(hl:l.length<=1000000):FnA Try.prog 41 [.agg x.av, .isl (l.map jAV)] (· = .bool (isRt x l)):=by
 have hL:(l.map jAV).length=l.length:=by simp
 have g1:=getJ l x.d.toNat h1
 have e1:=q43 (l.getD x.d.toNat 0) x.lo x.hi
 refine fnA 1 ok41 (by simp) ?_
 (conv=>whnf);(repeat'((first|apply bT|apply bF|apply bN|((first|apply bD|apply bEq|apply bNe)<;>intro hh<;>try(exfalso;omega))|refine iaJ g1 ?_|refine e1.cq rfl rfl ?_|refine wJ ?_|refine nJ ?_)<;>conv=>whnf))
 all_goals rfl
theorem q45(t:Tour)(l:List Int)(hr:t.rn.length<=1000000)(hl:l.length<=1000000)(hd:∀x∈t.rn,0<=x.d/\x.d.toNat<l.length):FnA Try.prog 56 [.agg t.cells, .isl (l.map jAV)] (· = .int .i64 (t.wrongs l)):=by
 have hR:(t.rn.map Rain.av).length=t.rn.length:=by simp
 have hw:∀k,0<=wrK t.rn l k/\wrK t.rn l k<=k:=fun k=>by
  induction k with
  |zero=>simp[wrK]
  |succ k ih=>rw[wrK];split<;>omega
 refine fnA 1 ok56 (by simp) ?_
 (conv=>whnf);(repeat'((first|apply bT|apply bF|apply bN|((first|apply bD|apply bEq|apply bNe)<;>intro hh<;>try(exfalso;omega))|refine wJ ?_|refine nJ ?_)<;>conv=>whnf))
 refine loop_i (α :=Nat) (fun k=>[(6, .int .i64 k),(5, .int .i64 (wrK t.rn l k)),(2, .own 0 0),(1, .isl (l.map jAV))]) (fun k=>[.box false t.cells]) (fun k=>k<=t.rn.length) (fun k=>t.rn.length-k) 0 mI (by simp) ?_
 rintro k h1
 have hk1:=hw k
 conv=>whnf
 refine bD (fun h3=>?_) (fun h3=>?_)
 ·have hk:k<t.rn.length:=by omega
  have g1:=getM Rain.av t.rn k hk
  have hx:=hd _ (List.getElem_mem hk)
  have e1:=q38 t.rn[k] l hx.1 hx.2 hl
  have ek:wrK t.rn l (k+1)=wrK t.rn l k+if isRt t.rn[k] l=true then 0 else 1:=by
   rw[wrK,show t.rn.getD k ⟨0,0,0⟩=t.rn[k] from by simp[List.getD_eq_getElem?_getD,hk]]
  cases hb:isRt t.rn[k] l<;>rw[hb]at e1 ek
  ·(conv=>whnf);(repeat'((first|apply bT|apply bF|apply bN|((first|apply bD|apply bEq|apply bNe)<;>intro hh<;>try(exfalso;omega))|refine iaJ g1 ?_|refine e1.cq rfl rfl ?_|refine wJ ?_|refine nJ ?_)<;>conv=>whnf))
   exact⟨k+1,by rw[ek,if_neg (by simp)];exact mI,by omega,by omega⟩
  ·(conv=>whnf);(repeat'((first|apply bT|apply bF|apply bN|((first|apply bD|apply bEq|apply bNe)<;>intro hh<;>try(exfalso;omega))|refine iaJ g1 ?_|refine e1.cq rfl rfl ?_|refine wJ ?_|refine nJ ?_)<;>conv=>whnf))
   exact⟨k+1,by rw[ek,if_pos rfl,Int.add_zero];exact mI,by omega,by omega⟩
 ·have:k=t.rn.length:=by omega
  subst this
  (conv=>whnf);(repeat'((first|apply bT|apply bF|apply bN|((first|apply bD|apply bEq|apply bNe)<;>intro hh<;>try(exfalso;omega))|refine wJ ?_|refine nJ ?_)<;>conv=>whnf))
  all_goals rfl
theorem q44(most step:Int)(hm:0<=most/\most<=3)(hs:0<=step/\step<=1000000):∀(n:Nat) (f:List Int),f.length+n<=6->(∀i,i<f.length->0<=f.getD i 0/\f.getD i 0<=3)->FnA Try.prog 55 [.isl (f.map jAV), .int .i64 ((f.length+n:Nat):Int), .int .i64 most, .int .i64 step] (· = .isl ((rws most step n f).map fAV)):=by
 intro n;induction n with
 |zero=>
  intro f hf hfv
  have hL:(f.map jAV).length=f.length:=by simp
  rw[rws]
  refine fnA 10 ok55 (by simp) ?_
  (conv=>whnf);(repeat'((first|apply bT|apply bF|apply bN|((first|apply bD|apply bEq|apply bNe)<;>intro hh<;>try(exfalso;omega))|refine wJ ?_|refine nJ ?_)<;>conv=>whnf))
  all_goals rfl
 |succ n ih=>
  intro f hf hfv
  have hL:(f.map jAV).length=f.length:=by simp
  have hJ:=j_one f
  rw[rws]
  refine fnA 10 ok55 (by simp) ?_
  (conv=>whnf);(repeat'((first|apply bT|apply bF|apply bN|((first|apply bD|apply bEq|apply bNe)<;>intro hh<;>try(exfalso;omega))|refine wJ ?_|refine nJ ?_)<;>conv=>whnf))
  refine loop_i (α :=Nat) (fun k=>[(10, .int .i64 k),(9, .row 8),(3, .int .i64 step),(2, .int .i64 most),(1, .int .i64 ((f.length+(n+1):Nat):Int)),(0, .isl (f.map jAV))]) (fun k=>[.fresh, .fresh, .fresh, .fresh, .fresh, .fresh, .fresh, .fresh, .row false 35 1 ((rwK (rws most step n) step f k).map fAV)]) (fun k=>k<=most.toNat+1) (fun k=>most.toNat+1-k) 0 (mA [(8,none)]) (by omega) ?_
  rintro k h1
  conv=>whnf
  refine bD (fun h3=>?_) (fun h3=>?_)
  ·have e2:=ih (f++[(k:Int)]) (by simp;omega) (fun i hi=>by
    rw[List.length_append,List.length_singleton]at hi
    by_cases e:i<f.length
    ·rw[List.getD_eq_getElem?_getD,List.getElem?_append_left e,<- List.getD_eq_getElem?_getD];exact hfv i e
    ·have:i=f.length:=by omega
     subst this
     simp[List.getD_eq_getElem?_getD];omega)
   rw[List.map_append,List.length_append,List.length_singleton,show f.length+1+n=f.length+(n+1) by omega]at e2
   have b1:=rwK_len (F:=rws most step n) (step:=step) (f:=f) (B:=4 ^ n) (fun g=>by
    have:=rws_len (most:=most) (step:=step) n g
    exact Nat.le_trans this (Nat.pow_le_pow_left (by omega) _)) k
   have b2:(rws most step n (f++[(k:Int)])).length<=4 ^ n:=Nat.le_trans (rws_len n _) (Nat.pow_le_pow_left (by omega) _)
   have b3:4 ^ n<=4 ^ 6:=Nat.pow_le_pow_right (by decide) (by omega)
   have b4:k*4 ^ n<=4*4096:=Nat.mul_le_mul (by omega) b3
   have l1:((rwK (rws most step n) step f k).map fAV).length=(rwK (rws most step n) step f k).length:=by simp
   have l2:((rws most step n (f++[(k:Int)])).map fAV).length=(rws most step n (f++[(k:Int)])).length:=by simp
   have hF:=f_one (rws most step n (f++[(k:Int)]))
   have l3:(rwK (rws most step n) step f k).length<=16384:=Nat.le_trans b1 b4
   have l4:(rws most step n (f++[(k:Int)])).length<=4096:=Nat.le_trans b2 b3
   have hN:∀e∈([]:List (List AV)),e.length=1/\e.all AV.one=true:=by simp
   have hK:∀e∈[[AV.int .i64 (k:Int)]],e.length=1/\e.all AV.one=true:=by simp[AV.one]
   by_cases h0:f.length=0
   ·have:f=[]:=List.length_eq_zero_iff.1 h0
    subst this
    have ek:rwK (rws most step n) step [] (k+1)=rwK (rws most step n) step [] k++rws most step n ([]++[(k:Int)]):=by rw[rwK,if_neg (by simp)]
    (conv=>whnf);(repeat'((first|apply bT|apply bF|apply bN|((first|apply bD|apply bEq|apply bNe)<;>intro hh<;>try(exfalso;omega))|refine apI hN (by simp) ?_|(refine apI hF (by simp only[l1,l2];omega) ?_)|refine apI hK (by simp) ?_|refine e2.zq rfl rfl ?_|refine wJ ?_|refine nJ ?_)<;>conv=>whnf))
    refine⟨k+1,?_,by omega,by omega⟩
    rw[ek,List.map_append]
    exact(mA [(8,some 6)])
   ·have g1:(f.map jAV).getD (((f.map jAV).length:Int)-1).toNat []=[.int .i64 (f.getD (f.length-1) 0)]:=by
     rw[show(((f.map jAV).length:Int)-1).toNat=f.length-1 by omega];exact getJ f (f.length-1) (by omega)
    have hv:=hfv (f.length-1) (by omega)
    have e1:=q43 ((k:Int)-f.getD (f.length-1) 0) (0-step) step
    by_cases hC:stepP step ((k:Int)-f.getD (f.length-1) 0)
    ·rw[decide_eq_true (show 0-step<=(k:Int)-f.getD (f.length-1) 0/\(k:Int)-f.getD (f.length-1) 0<=step by have:=hC.1;have:=hC.2;omega)]at e1
     have ek:rwK (rws most step n) step f (k+1)=rwK (rws most step n) step f k++rws most step n (f++[(k:Int)]):=by rw[rwK,if_neg (fun h=>h.2 hC)]
     (conv=>whnf);(repeat'((first|apply bT|apply bF|apply bN|((first|apply bD|apply bEq|apply bNe)<;>intro hh<;>try(exfalso;omega))|refine iaJ g1 ?_|refine e1.cq rfl rfl ?_|(refine apI hJ (by simp only[List.length_nil,hL];omega) ?_)|(refine apI hF (by simp only[l1,l2];omega) ?_)|(refine apI hK (by simp only[List.nil_append,List.length_cons,List.length_nil,hL];omega) ?_)|refine e2.zq rfl rfl ?_|refine wJ ?_|refine nJ ?_)<;>conv=>whnf))
     refine⟨k+1,?_,by omega,by omega⟩
     rw[ek,List.map_append]
     exact(mA [(8,some 6)])
    ·rw[decide_eq_false (show ¬(0-step<=(k:Int)-f.getD (f.length-1) 0/\(k:Int)-f.getD (f.length-1) 0<=step) from fun h=>hC ⟨by omega,h.2⟩)]at e1
     have ek:rwK (rws most step n) step f (k+1)=rwK (rws most step n) step f k:=by rw[rwK,if_pos ⟨by omega,hC⟩,List.append_nil]
     (conv=>whnf);(repeat'((first|apply bT|apply bF|apply bN|((first|apply bD|apply bEq|apply bNe)<;>intro hh<;>try(exfalso;omega))|refine iaJ g1 ?_|refine e1.cq rfl rfl ?_|refine wJ ?_|refine nJ ?_)<;>conv=>whnf))
     refine⟨k+1,?_,by omega,by omega⟩
     rw[ek]
     exact mI
  ·have:k=most.toNat+1:=by omega
   subst this
   (conv=>whnf);(repeat'((first|apply bT|apply bF|apply bN|((first|apply bD|apply bEq|apply bNe)<;>intro hh<;>try(exfalso;omega))|refine wJ ?_|refine nJ ?_)<;>conv=>whnf))
   all_goals rfl
theorem fair_get{t:Tour}(h:TOk t){i:Nat}(hi:i<t.fs.length):(0<=(t.fs.getD i ⟨0,[]⟩).p/\(t.fs.getD i ⟨0,[]⟩).p<=999)/\(t.fs.getD i ⟨0,[]⟩).se.length=4/\∀j,0<=(t.fs.getD i ⟨0,[]⟩).se.getD j 0/\(t.fs.getD i ⟨0,[]⟩).se.getD j 0<=99:=by
 have e:t.fs.getD i ⟨0,[]⟩=t.fs[i]:=by rw[List.getD_eq_getElem?_getD,List.getElem?_eq_getElem hi];rfl
 have a:=h.fs _ (List.getElem_mem hi)
 rw[e]
 refine⟨a.1,a.2.1,fun j=>?_⟩
 by_cases hj:j<t.fs[i].se.length
 ·have:t.fs[i].se.getD j 0=t.fs[i].se[j]:=by rw[List.getD_eq_getElem?_getD,List.getElem?_eq_getElem hj];rfl
  rw[this];exact a.2.2 _ (List.getElem_mem hj)
 ·rw[List.getD_eq_getElem?_getD,List.getElem?_eq_none (by omega)];exact⟨by decide,by decide⟩
theorem q35(t:Tour)(h:TOk t)(r l:List Int)(hr:isRte t r=true)(hl:isTr t l=true):FnA Try.prog 38 [.agg t.cells, .isl (r.map jAV), .isl (l.map jAV)] (· = .tup [.int .i64 (tak t r l), .int .i64 (lef t r l)]):=by
 have hF:(t.fs.map Fair.av).length=t.fs.length:=by simp
 rw[isRte,isRow,Bool.and_eq_true,decide_eq_true_eq,decide_eq_true_eq]at hr
 rw[isTr,isRow,Bool.and_eq_true,Bool.and_eq_true,decide_eq_true_eq,decide_eq_true_eq]at hl
 obtain⟨hr1,hr2⟩:=hr
 obtain⟨⟨hl1,hl2⟩,_⟩:=hl
 have hR:(r.map jAV).length=r.length:=by simp
 have hL:(l.map jAV).length=l.length:=by simp
 have hd:=h.d1;have hd6:=h.d6
 refine fnA 2 ok38 (by simp) ?_
 (conv=>whnf);(repeat'((first|apply bT|apply bF|apply bN|((first|apply bD|apply bEq|apply bNe)<;>intro hh<;>try(exfalso;omega))|refine wJ ?_|refine nJ ?_)<;>conv=>whnf))
 refine loop_i (α :=Nat) (fun k=>[(8, .int .i64 k),(7, .int .i64 (trd t r l k).2),(6, .int .i64 (trd t r l k).1),(3, .own 0 0),(2, .isl (l.map jAV)),(1, .isl (r.map jAV))]) (fun k=>[.box false t.cells, .fresh]) (fun k=>k<=t.ds.toNat) (fun k=>t.ds.toNat-k) 0 mI (by simp) ?_
 rintro k h1
 have hb:=trd_bd h r l k
 conv=>whnf
 refine bD (fun h3=>?_) (fun h3=>?_)
 ·have hk:k<t.ds.toNat:=by omega
  have g1:=getJ r k (by omega)
  have p1:=(hr1 k (by omega)).1
  have g2:=getJ l k (by omega)
  have p2:=(hl1 k (by omega)).1
  have hi:(r.getD k 0).toNat<t.fs.length:=by omega
  have g3:(t.fs.map Fair.av).getD (r.getD k 0).toNat []=(t.fs.getD (r.getD k 0).toNat ⟨0,[]⟩).av:=by
   rw[getM Fair.av t.fs _ hi,show t.fs.getD (r.getD k 0).toNat ⟨0,[]⟩=t.fs[(r.getD k 0).toNat] from by rw[List.getD_eq_getElem?_getD,List.getElem?_eq_getElem hi];rfl]
  obtain⟨f1,f2,f3⟩:=fair_get h hi
  have ek:trd t r l (k+1)=((trd t r l k).1+min (trd t r l k).2 ((t.fs.getD (r.getD k 0).toNat ⟨0,[]⟩).se.getD (l.getD k 0).toNat 0)*(t.fs.getD (r.getD k 0).toNat ⟨0,[]⟩).p,(trd t r l k).2-min (trd t r l k).2 ((t.fs.getD (r.getD k 0).toNat ⟨0,[]⟩).se.getD (l.getD k 0).toNat 0)):=rfl
  have f3':=f3 (l.getD k 0).toNat
  generalize hf:t.fs.getD (r.getD k 0).toNat ⟨0,[]⟩=f at *
  have g4:=getJ f.se (l.getD k 0).toNat (by omega)
  have hS:(f.se.map jAV).length=f.se.length:=by simp
  generalize trd t r l k=q at *
  generalize hx:f.se.getD (l.getD k 0).toNat 0=x at *
  have m0:0<=min q.2 x/\min q.2 x<=99:=by omega
  have a:=Int.mul_le_mul m0.2 f1.2 f1.1 (by decide)
  have b:=Int.mul_nonneg m0.1 f1.1
  have w1 : -9223372036854775808<=min q.2 x*f.p/\min q.2 x*f.p<=9223372036854775807:=by omega
  have w2 : -9223372036854775808<=q.1+min q.2 x*f.p/\q.1+min q.2 x*f.p<=9223372036854775807:=by omega
  have w3 : -9223372036854775808<=q.2-min q.2 x/\q.2-min q.2 x<=9223372036854775807:=by omega
  (conv=>whnf);(repeat'((first|apply bT|apply bF|apply bN|((first|apply bD|apply bEq|apply bNe)<;>intro hh<;>try(exfalso;omega))|refine iaJ g1 ?_|refine iaJ g2 ?_|refine iaJ g3 ?_|refine iaJ g4 ?_|refine wIn w1 ?_|refine wIn w2 ?_|refine wIn w3 ?_|refine wJ ?_|refine nJ ?_)<;>conv=>whnf))
  exact⟨k+1,by rw[ek];exact mI,by omega,by omega⟩
 ·have:k=t.ds.toNat:=by omega
  subst this
  (conv=>whnf);(repeat'((first|apply bT|apply bF|apply bN|((first|apply bD|apply bEq|apply bNe)<;>intro hh<;>try(exfalso;omega))|refine wJ ?_|refine nJ ?_)<;>conv=>whnf))
  all_goals rfl
theorem q49(a b n:Int)(e:Bool):FnA Try.prog 69 [.agg [.int .i64 a, .int .i64 b], .int .i64 n, .bool e] (· = .agg (if e=true then [.int .i64 n, .int .i64 n] else [.int .i64 (min a n), .int .i64 (max b n)])):=by
 refine fnA 3 ok69 (by simp) ?_
 cases e
 ·(conv=>whnf);(repeat'((first|apply bT|apply bF|apply bN|((first|apply bD|apply bEq|apply bNe)<;>intro hh<;>try(exfalso;omega))|refine wJ ?_|refine nJ ?_)<;>conv=>whnf))
  all_goals rfl
 ·(conv=>whnf);(repeat'((first|apply bT|apply bF|apply bN|((first|apply bD|apply bEq|apply bNe)<;>intro hh<;>try(exfalso;omega))|refine wJ ?_|refine nJ ?_)<;>conv=>whnf))
  all_goals rfl
theorem spK_suc(x:List Int)(k:Nat):spK x (k+1)=if k=0 then(x.getD 0 0,x.getD 0 0) else(min (spK x k).1 (x.getD k 0),max (spK x k).2 (x.getD k 0)):=rfl
theorem q48(t:Tour)(h:TOk t)(L:List (List Int))(hL:L.length<=1000000)(ht:∀l∈L,isTr t l=true)(r:List Int)(hr:isRte t r=true):FnA Try.prog 67 [.agg t.cells, .isl (L.map fAV), .isl (r.map jAV)] (· = .agg [.int .i64 (spn (L.map (tak t r))).1, .int .i64 (spn (L.map (tak t r))).2]):=by
 have l1:(L.map fAV).length=L.length:=by simp
 have hx:(L.map (tak t r)).length=L.length:=by simp
 rw[spn,hx]
 generalize hX:L.map (tak t r)=X at *
 refine fnA 3 ok67 (by simp) ?_
 (conv=>whnf);(repeat'((first|apply bT|apply bF|apply bN|((first|apply bD|apply bEq|apply bNe)<;>intro hh<;>try(exfalso;omega))|refine wJ ?_|refine nJ ?_)<;>conv=>whnf))
 refine loop_i (α :=Nat) (fun k=>[(8, .int .i64 k),(7, .own 2 0),(6, .own 1 0),(3, .own 0 0),(2, .isl (r.map jAV)),(1, .isl (L.map fAV))]) (fun k=>[.box false t.cells, .box false [.int .i64 0, .int .i64 0], .box false [.int .i64 (spK X k).1, .int .i64 (spK X k).2]]) (fun k=>k<=L.length) (fun k=>L.length-k) 0 mI (by simp) ?_
 rintro k h1
 conv=>whnf
 refine bD (fun h3=>?_) (fun h3=>?_)
 ·have hk:k<L.length:=by omega
  have g1:=getFl L k hk
  have hm:L.getD k []∈L:=by simp[List.getD_eq_getElem?_getD,hk]
  have e1:=q35 t h r (L.getD k []) hr (ht _ hm)
  have gx:X.getD k 0=tak t r (L.getD k []):=by subst hX;simp[List.getD_eq_getElem?_getD,hk]
  have ek:=spK_suc X k
  rw[gx]at ek
  by_cases h0:k=0
  ·subst h0
   rw[if_pos rfl,gx]at ek
   have e2:=q49 (spK X 0).1 (spK X 0).2 (tak t r (L.getD 0 [])) true
   rw[if_pos rfl]at e2
   (conv=>whnf);(repeat'((first|apply bT|apply bF|apply bN|((first|apply bD|apply bEq|apply bNe)<;>intro hh<;>try(exfalso;omega))|refine iaJ g1 ?_|refine e1.cq rfl rfl ?_|refine e2.cq rfl rfl ?_|refine wJ ?_|refine nJ ?_)<;>conv=>whnf))
   exact⟨0+1,by rw[ek];exact mI,by omega,by omega⟩
  ·rw[if_neg h0]at ek
   have e2:=q49 (spK X k).1 (spK X k).2 (tak t r (L.getD k [])) (decide ((k:Int)=0))
   rw[if_neg (by rw[decide_eq_true_eq];omega)]at e2
   (conv=>whnf);(repeat'((first|apply bT|apply bF|apply bN|((first|apply bD|apply bEq|apply bNe)<;>intro hh<;>try(exfalso;omega))|refine iaJ g1 ?_|refine e1.cq rfl rfl ?_|refine e2.cq rfl rfl ?_|refine wJ ?_|refine nJ ?_)<;>conv=>whnf))
   exact⟨k+1,by rw[ek];exact mI,by omega,by omega⟩
 ·have:k=L.length:=by omega
  subst this
  (conv=>whnf);(repeat'((first|apply bT|apply bF|apply bN|((first|apply bD|apply bEq|apply bNe)<;>intro hh<;>try(exfalso;omega))|refine wJ ?_|refine nJ ?_)<;>conv=>whnf))
  all_goals rfl
theorem row_len{l:List Int}{many most step:Int}(h:isRow l many most step=true):(l.length:Int)=many:=by
 rw[isRow,Bool.and_eq_true,decide_eq_true_eq,decide_eq_true_eq]at h;exact h.2
theorem q51(t:Tour)(h:TOk t)(l:List Int)(hl:l.length<=9223372036854775807):FnA Try.prog 74 [.agg t.cells, .isl (l.map jAV)] (· = .bool (isTr t l)):=by
 have e1:=q52 l t.ds 3 t.st hl (by omega) ⟨h.s0,by have:=h.s3;omega⟩
 have:=h.rl
 refine fnA 1 ok74 (by simp) ?_
 unfold isTr
 cases hb:isRow l t.ds 3 t.st<;>rw[hb]at e1
 ·(conv=>whnf);(repeat'((first|apply bT|apply bF|apply bN|((first|apply bD|apply bEq|apply bNe)<;>intro hh<;>try(exfalso;omega))|refine e1.cq rfl rfl ?_|refine wJ ?_|refine nJ ?_)<;>conv=>whnf))
  all_goals rfl
 ·have hlen:=row_len hb
  have e2:=q45 t l (by omega) (by have:=h.d6;omega) (fun x hx=>by have:=(h.rn x hx).1;omega)
  (conv=>whnf);(repeat'((first|apply bT|apply bF|apply bN|((first|apply bD|apply bEq|apply bNe)<;>intro hh<;>try(exfalso;omega))|refine e1.cq rfl rfl ?_|refine e2.cq rfl rfl ?_|refine wJ ?_|refine nJ ?_)<;>conv=>whnf))
  all_goals rfl
theorem q39(t:Tour)(h:TOk t)(r:List Int)(hr:r.length<=9223372036854775807):FnA Try.prog 42 [.agg t.cells, .isl (r.map jAV)] (· = .bool (isRte t r)):=by
 have hF:(t.fs.map Fair.av).length=t.fs.length:=by simp
 have e1:=q52 r t.ds ((t.fs.length:Int)-1) t.rc hr (by have:=h.f4;omega) ⟨h.c0,by have:=h.c4;omega⟩
 rw[<- hF]at e1
 have hf:=h.f4
 refine fnA 1 ok42 (by simp) ?_
 (conv=>whnf);(repeat'((first|apply bT|apply bF|apply bN|((first|apply bD|apply bEq|apply bNe)<;>intro hh<;>try(exfalso;omega))|refine e1.cq rfl rfl ?_|refine wJ ?_|refine nJ ?_)<;>conv=>whnf))
 all_goals rw[isRte,hF]
theorem q50(t:Tour)(h:TOk t):FnA Try.prog 71 [.agg t.cells] (· = .isl ((routes t).map fAV)):=by
 have hF:(t.fs.map Fair.av).length=t.fs.length:=by simp
 have h1:=h.f1;have h4:=h.f4;have h0:=h.c0;have hc:=h.c4;have d1:=h.d1;have d6:=h.d6
 have e1:=q44 ((t.fs.length:Int)-1) t.rc (by omega) (by omega) t.ds.toNat [] (by simp;omega) (by simp)
 rw[show(([]:List Int).length+t.ds.toNat:Nat)=(t.ds.toNat:Nat) from by simp,show((t.ds.toNat:Nat):Int)=t.ds by omega,<- hF]at e1
 rw[show routes t=rws (((t.fs.map Fair.av).length:Int)-1) t.rc t.ds.toNat [] from by rw[hF];rfl]
 refine fnA 3 ok71 (by simp) ?_
 (conv=>whnf);(repeat'((first|apply bT|apply bF|apply bN|((first|apply bD|apply bEq|apply bNe)<;>intro hh<;>try(exfalso;omega))|refine e1.zq rfl rfl ?_|refine wJ ?_|refine nJ ?_)<;>conv=>whnf))
 all_goals rfl
theorem q13(t:Tour):FnA Try.prog 16 [.agg t.cells] (· = .int .i64 (if t.ok=true then 0 else 110)):=by
 have hR:(t.rn.map Rain.av).length=t.rn.length:=by simp
 have hF:(t.fs.map Fair.av).length=t.fs.length:=by simp
 have e1:=q43 t.ds 1 6
 have e2:=q43 t.st 0 3
 have e3:=q43 t.wr 0 10
 have e4:=q43 t.rc 0 4
 have e5:=q43 t.sk 0 999
 have e6:=q43 (((t.fs.map Fair.av).length:Nat):Int) 1 4
 have bad:¬((1<=t.ds/\t.ds<=6)/\(0<=t.st/\t.st<=3)/\(0<=t.wr/\t.wr<=10)/\(0<=t.rc/\t.rc<=4)/\(0<=t.sk/\t.sk<=999)/\t.rn.length<=10/\1<=t.fs.length/\t.fs.length<=4)->t.ok≠true:=fun hn ho=>by
  have h:=ok_iff.1 ho
  exact hn ⟨⟨h.d1,h.d6⟩,⟨h.s0,h.s3⟩,⟨h.w0,h.w10⟩,⟨h.c0,h.c4⟩,⟨h.k0,h.k9⟩,h.rl,h.f1,h.f4⟩
 refine fnA 3 ok16 (by simp) ?_
 by_cases h1:1<=t.ds/\t.ds<=6
 case neg=>
  rw[decide_eq_false h1]at e1;rw[if_neg (bad fun h=>h1 h.1)]
  (conv=>whnf);(repeat'((first|apply bT|apply bF|apply bN|((first|apply bD|apply bEq|apply bNe)<;>intro hh<;>try(exfalso;omega))|refine e1.cq rfl rfl ?_|refine wJ ?_|refine nJ ?_)<;>conv=>whnf))
  all_goals rfl
 rw[decide_eq_true h1]at e1
 by_cases h2:0<=t.st/\t.st<=3
 case neg=>
  rw[decide_eq_false h2]at e2;rw[if_neg (bad fun h=>h2 h.2.1)]
  (conv=>whnf);(repeat'((first|apply bT|apply bF|apply bN|((first|apply bD|apply bEq|apply bNe)<;>intro hh<;>try(exfalso;omega))|refine e1.cq rfl rfl ?_|refine e2.cq rfl rfl ?_|refine wJ ?_|refine nJ ?_)<;>conv=>whnf))
  all_goals rfl
 rw[decide_eq_true h2]at e2
 by_cases h3:0<=t.wr/\t.wr<=10
 case neg=>
  rw[decide_eq_false h3]at e3;rw[if_neg (bad fun h=>h3 h.2.2.1)]
  (conv=>whnf);(repeat'((first|apply bT|apply bF|apply bN|((first|apply bD|apply bEq|apply bNe)<;>intro hh<;>try(exfalso;omega))|refine e1.cq rfl rfl ?_|refine e2.cq rfl rfl ?_|refine e3.cq rfl rfl ?_|refine wJ ?_|refine nJ ?_)<;>conv=>whnf))
  all_goals rfl
 rw[decide_eq_true h3]at e3
 by_cases h4:0<=t.rc/\t.rc<=4
 case neg=>
  rw[decide_eq_false h4]at e4;rw[if_neg (bad fun h=>h4 h.2.2.2.1)]
  (conv=>whnf);(repeat'((first|apply bT|apply bF|apply bN|((first|apply bD|apply bEq|apply bNe)<;>intro hh<;>try(exfalso;omega))|refine e1.cq rfl rfl ?_|refine e2.cq rfl rfl ?_|refine e3.cq rfl rfl ?_|refine e4.cq rfl rfl ?_|refine wJ ?_|refine nJ ?_)<;>conv=>whnf))
  all_goals rfl
 rw[decide_eq_true h4]at e4
 by_cases h5:0<=t.sk/\t.sk<=999
 case neg=>
  rw[decide_eq_false h5]at e5;rw[if_neg (bad fun h=>h5 h.2.2.2.2.1)]
  (conv=>whnf);(repeat'((first|apply bT|apply bF|apply bN|((first|apply bD|apply bEq|apply bNe)<;>intro hh<;>try(exfalso;omega))|refine e1.cq rfl rfl ?_|refine e2.cq rfl rfl ?_|refine e3.cq rfl rfl ?_|refine e4.cq rfl rfl ?_|refine e5.cq rfl rfl ?_|refine wJ ?_|refine nJ ?_)<;>conv=>whnf))
  all_goals rfl
 rw[decide_eq_true h5]at e5
 by_cases h6:t.rn.length<=10
 case neg=>
  rw[if_neg (bad fun h=>h6 h.2.2.2.2.2.1)]
  (conv=>whnf);(repeat'((first|apply bT|apply bF|apply bN|((first|apply bD|apply bEq|apply bNe)<;>intro hh<;>try(exfalso;omega))|refine e1.cq rfl rfl ?_|refine e2.cq rfl rfl ?_|refine e3.cq rfl rfl ?_|refine e4.cq rfl rfl ?_|refine e5.cq rfl rfl ?_|refine wJ ?_|refine nJ ?_)<;>conv=>whnf))
  all_goals rfl
 by_cases h7:1<=(((t.fs.map Fair.av).length:Nat):Int)/\(((t.fs.map Fair.av).length:Nat):Int)<=4
 case neg=>
  rw[decide_eq_false h7]at e6;rw[if_neg (bad fun h=>h7 (by have:=h.2.2.2.2.2.2;omega))]
  (conv=>whnf);(repeat'((first|apply bT|apply bF|apply bN|((first|apply bD|apply bEq|apply bNe)<;>intro hh<;>try(exfalso;omega))|refine e1.cq rfl rfl ?_|refine e2.cq rfl rfl ?_|refine e3.cq rfl rfl ?_|refine e4.cq rfl rfl ?_|refine e5.cq rfl rfl ?_|refine e6.cq rfl rfl ?_|refine wJ ?_|refine nJ ?_)<;>conv=>whnf))
  all_goals rfl
 rw[decide_eq_true h7]at e6
 have hd:t.hd=true:=decide_eq_true ⟨h1,h2,h3,h4,h5,h6,by omega,by omega⟩
 (conv=>whnf);(repeat'((first|apply bT|apply bF|apply bN|((first|apply bD|apply bEq|apply bNe)<;>intro hh<;>try(exfalso;omega))|refine e1.cq rfl rfl ?_|refine e2.cq rfl rfl ?_|refine e3.cq rfl rfl ?_|refine e4.cq rfl rfl ?_|refine e5.cq rfl rfl ?_|refine e6.cq rfl rfl ?_|refine wJ ?_|refine nJ ?_)<;>conv=>whnf))
 refine loop_i (α :=Nat) (fun k=>[(3, .int .i64 k),(1, .own 0 0)]) (fun k=>[.box false t.cells, .fresh, .fresh]) (fun k=>k<=t.rn.length/\∀x∈t.rn.take k,okR t x=true) (fun k=>t.rn.length-k) 0 mI ⟨by simp,by simp⟩ ?_
 rintro k ⟨hk1,hk2⟩
 conv=>whnf
 refine bD (fun h8=>?_) (fun h8=>?_)
 ·have hk:k<t.rn.length:=by omega
  have g1:=getM Rain.av t.rn k hk
  have hm:=List.getElem_mem hk
  have badx:okR t t.rn[k]=false->t.ok≠true:=fun hf ho=>by
   have:=(ok_iff.1 ho).rn _ hm
   rw[okR,decide_eq_false_iff_not]at hf;exact hf this
  have a1:=q43 t.rn[k].d 0 (t.ds-1)
  have a2:=q43 t.rn[k].lo 0 t.rn[k].hi
  by_cases b1:0<=t.rn[k].d/\t.rn[k].d<=t.ds-1
  case neg=>
   rw[decide_eq_false b1]at a1
   rw[if_neg (badx (decide_eq_false fun h=>b1 h.1))]
   (conv=>whnf);(repeat'((first|apply bT|apply bF|apply bN|((first|apply bD|apply bEq|apply bNe)<;>intro hh<;>try(exfalso;omega))|refine iaJ g1 ?_|refine a1.cq rfl rfl ?_|refine wJ ?_|refine nJ ?_)<;>conv=>whnf))
   all_goals rfl
  rw[decide_eq_true b1]at a1
  by_cases b2:0<=t.rn[k].lo/\t.rn[k].lo<=t.rn[k].hi
  case neg=>
   rw[decide_eq_false b2]at a2
   rw[if_neg (badx (decide_eq_false fun h=>b2 h.2.1))]
   (conv=>whnf);(repeat'((first|apply bT|apply bF|apply bN|((first|apply bD|apply bEq|apply bNe)<;>intro hh<;>try(exfalso;omega))|refine iaJ g1 ?_|refine a1.cq rfl rfl ?_|refine a2.cq rfl rfl ?_|refine wJ ?_|refine nJ ?_)<;>conv=>whnf))
   all_goals rfl
  rw[decide_eq_true b2]at a2
  by_cases b3:t.rn[k].hi<=3
  case neg=>
   rw[if_neg (badx (decide_eq_false fun h=>b3 h.2.2))]
   (conv=>whnf);(repeat'((first|apply bT|apply bF|apply bN|((first|apply bD|apply bEq|apply bNe)<;>intro hh<;>try(exfalso;omega))|refine iaJ g1 ?_|refine a1.cq rfl rfl ?_|refine a2.cq rfl rfl ?_|refine wJ ?_|refine nJ ?_)<;>conv=>whnf))
   all_goals rfl
  (conv=>whnf);(repeat'((first|apply bT|apply bF|apply bN|((first|apply bD|apply bEq|apply bNe)<;>intro hh<;>try(exfalso;omega))|refine iaJ g1 ?_|refine a1.cq rfl rfl ?_|refine a2.cq rfl rfl ?_|refine wJ ?_|refine nJ ?_)<;>conv=>whnf))
  exact⟨k+1,mI,⟨by omega,take_all hk hk2 (decide_eq_true ⟨b1,b2,b3⟩)⟩,by omega⟩
 have:k=t.rn.length:=by omega
 subst this
 rw[List.take_length]at hk2
 (conv=>whnf);(repeat'((first|apply bT|apply bF|apply bN|((first|apply bD|apply bEq|apply bNe)<;>intro hh<;>try(exfalso;omega))|refine wJ ?_|refine nJ ?_)<;>conv=>whnf))
 refine loop_i (α :=Nat) (fun k=>[(5, .int .i64 k),(1, .own 0 0)]) (fun k=>[.box false t.cells, .fresh, .fresh]) (fun k=>k<=t.fs.length/\∀x∈t.fs.take k,okF x=true) (fun k=>t.fs.length-k) 0 mI ⟨by simp,by simp⟩ ?_
 rintro k ⟨hk3,hk4⟩
 conv=>whnf
 refine bD (fun h9=>?_) (fun h9=>?_)
 ·have hk:k<t.fs.length:=by omega
  have g1:=getM Fair.av t.fs k hk
  have hm:=List.getElem_mem hk
  have badx:okF t.fs[k]=false->t.ok≠true:=fun hf ho=>by
   have:=(ok_iff.1 ho).fs _ hm
   have:okF t.fs[k]=true:=by
    rw[okF,Bool.and_eq_true,Bool.and_eq_true]
    exact⟨decide_eq_true this.1,decide_eq_true this.2.1,List.all_eq_true.2 fun v hv=>decide_eq_true (this.2.2 v hv)⟩
   rw[hf]at this;cases this
  have a1:=q43 t.fs[k].p 0 999
  have hS:(t.fs[k].se.map jAV).length=t.fs[k].se.length:=by simp
  by_cases b1:0<=t.fs[k].p/\t.fs[k].p<=999
  case neg=>
   rw[decide_eq_false b1]at a1
   rw[if_neg (badx (by rw[okF,decide_eq_false b1,Bool.false_and]))]
   (conv=>whnf);(repeat'((first|apply bT|apply bF|apply bN|((first|apply bD|apply bEq|apply bNe)<;>intro hh<;>try(exfalso;omega))|refine iaJ g1 ?_|refine a1.cq rfl rfl ?_|refine wJ ?_|refine nJ ?_)<;>conv=>whnf))
   all_goals rfl
  rw[decide_eq_true b1]at a1
  by_cases b2:t.fs[k].se.length=4
  case neg=>
   rw[if_neg (badx (by rw[okF,decide_eq_false b2,Bool.false_and,Bool.and_false]))]
   (conv=>whnf);(repeat'((first|apply bT|apply bF|apply bN|((first|apply bD|apply bEq|apply bNe)<;>intro hh<;>try(exfalso;omega))|refine iaJ g1 ?_|refine a1.cq rfl rfl ?_|refine wJ ?_|refine nJ ?_)<;>conv=>whnf))
   all_goals rfl
  (conv=>whnf);(repeat'((first|apply bT|apply bF|apply bN|((first|apply bD|apply bEq|apply bNe)<;>intro hh<;>try(exfalso;omega))|refine iaJ g1 ?_|refine a1.cq rfl rfl ?_|refine wJ ?_|refine nJ ?_)<;>conv=>whnf))
  refine loop_i (α :=Nat) (fun j=>[(7, .int .i64 j),(6, .own 2 0),(5, .int .i64 k),(1, .own 0 0)]) (fun j=>[.box false t.cells, .fresh, .box false t.fs[k].av]) (fun j=>j<=t.fs[k].se.length/\∀v∈t.fs[k].se.take j,decide (0<=v/\v<=99)=true) (fun j=>t.fs[k].se.length-j) 0 mI ⟨by simp,by simp⟩ ?_
  rintro j ⟨hj1,hj2⟩
  conv=>whnf
  refine bD (fun h10=>?_) (fun h10=>?_)
  ·have hj:j<t.fs[k].se.length:=by omega
   have g2:=getM jAV t.fs[k].se j hj
   have a2:=q43 t.fs[k].se[j] 0 99
   by_cases b3:0<=t.fs[k].se[j]/\t.fs[k].se[j]<=99
   ·rw[decide_eq_true b3]at a2
    (conv=>whnf);(repeat'((first|apply bT|apply bF|apply bN|((first|apply bD|apply bEq|apply bNe)<;>intro hh<;>try(exfalso;omega))|refine iaJ g2 ?_|refine a2.cq rfl rfl ?_|refine wJ ?_|refine nJ ?_)<;>conv=>whnf))
    exact⟨j+1,mI,⟨by omega,take_all hj hj2 (decide_eq_true b3)⟩,by omega⟩
   ·rw[decide_eq_false b3]at a2
    rw[if_neg (badx (by
     rw[okF,show(t.fs[k].se.all fun v=>decide (0<=v/\v<=99))=false from List.all_eq_false.2 ⟨_,List.getElem_mem hj,by rw[decide_eq_false b3];simp⟩,Bool.and_false,Bool.and_false]))]
    (conv=>whnf);(repeat'((first|apply bT|apply bF|apply bN|((first|apply bD|apply bEq|apply bNe)<;>intro hh<;>try(exfalso;omega))|refine iaJ g2 ?_|refine a2.cq rfl rfl ?_|refine wJ ?_|refine nJ ?_)<;>conv=>whnf))
    all_goals rfl
  ·have:j=t.fs[k].se.length:=by omega
   subst this
   rw[List.take_length]at hj2
   (conv=>whnf);(repeat'((first|apply bT|apply bF|apply bN|((first|apply bD|apply bEq|apply bNe)<;>intro hh<;>try(exfalso;omega))|refine wJ ?_|refine nJ ?_)<;>conv=>whnf))
   exact⟨k+1,mI,⟨by omega,take_all hk hk4 (by
    rw[okF,decide_eq_true b1,decide_eq_true b2,Bool.true_and,Bool.true_and];exact List.all_eq_true.2 hj2)⟩,by omega⟩
 have:k=t.fs.length:=by omega
 subst this
 rw[List.take_length]at hk4
 rw[if_pos (show t.ok=true by rw[Tour.ok,hd,Bool.true_and,List.all_eq_true.2 hk2,List.all_eq_true.2 hk4];rfl)]
 (conv=>whnf);(repeat'((first|apply bT|apply bF|apply bN|((first|apply bD|apply bEq|apply bNe)<;>intro hh<;>try(exfalso;omega))|refine wJ ?_|refine nJ ?_)<;>conv=>whnf))
 all_goals rfl
theorem allRows_len{t:Tour}(h:TOk t):(allRows t).length<=4096:=by
 have b:=rws_len (most:=3) (step:=t.st) t.ds.toNat []
 have c:4 ^ t.ds.toNat<=4 ^ 6:=Nat.pow_le_pow_right (by decide) (by have:=h.d6;omega)
 have d:(allRows t).length<=4 ^ t.ds.toNat:=b
 omega
theorem rows_ok{t:Tour}(h:TOk t):∀l∈allRows t,(l.length:Int)=t.ds:=fun l hl=>by
 have:=h.d1
 exact row_len ((mem_row (by omega) (by omega)).1 hl)
theorem q44t(t:Tour)(h:TOk t):FnA Try.prog 55 [.isl [], .int .i64 t.ds, .int .i64 3, .int .i64 t.st] (· = .isl ((allRows t).map fAV)):=by
 have d1:=h.d1;have d6:=h.d6
 have e1:=q44 3 t.st (by omega) ⟨h.s0,by have:=h.s3;omega⟩ t.ds.toNat [] (by simp;omega) (by simp)
 rw[show(([]:List Int).length+t.ds.toNat:Nat)=(t.ds.toNat:Nat) from by simp,show((t.ds.toNat:Nat):Int)=t.ds by omega]at e1
 exact e1
theorem filter_suc{α : Type}{p : α -> Bool}{l:List α}{k:Nat}(hk:k<l.length):(l.take (k+1)).filter p=(l.take k).filter p++if p l[k]=true then [l[k]] else []:=by
 rw[List.take_succ_eq_append_getElem hk,List.filter_append]
 congr 1
 by_cases hp:p l[k]=true
 ·rw[if_pos hp,List.filter_cons_of_pos hp];rfl
 ·rw[if_neg hp,List.filter_cons_of_neg hp];rfl
theorem q46(t:Tour)(b:Bool):FnA Try.prog 58 [.agg t.cells, .bool b] (· = .tup [.isl ((if t.err b=0 then truths t else []).map fAV), .int .i64 (t.err b)]):=by
 have e1:=q13 t
 refine fnA 6 ok58 (by simp) ?_
 by_cases ho:t.ok=true
 case neg=>
  rw[if_neg ho]at e1
  rw[Tour.err,if_neg ho]
  (conv=>whnf);(repeat'((first|apply bT|apply bF|apply bN|((first|apply bD|apply bEq|apply bNe)<;>intro hh<;>try(exfalso;omega))|refine e1.cq rfl rfl ?_|refine wJ ?_|refine nJ ?_)<;>conv=>whnf))
  all_goals rfl
 have h:=ok_iff.1 ho
 rw[if_pos ho]at e1
 rw[Tour.err,if_pos ho]
 cases b
 ·(conv=>whnf);(repeat'((first|apply bT|apply bF|apply bN|((first|apply bD|apply bEq|apply bNe)<;>intro hh<;>try(exfalso;omega))|refine e1.cq rfl rfl ?_|refine wJ ?_|refine nJ ?_)<;>conv=>whnf))
  all_goals rfl
 rw[if_pos rfl]
 have e2:=q44t t h
 have hlen:=allRows_len h
 have hrow:=rows_ok h
 have hT:truths t=((allRows t).take (allRows t).length).filter (fun l=>decide (t.wrongs l<=t.wr)):=by rw[List.take_length];rfl
 rw[hT]
 generalize allRows t=A at *
 have l1:(A.map fAV).length=A.length:=by simp
 (conv=>whnf);(repeat'((first|apply bT|apply bF|apply bN|((first|apply bD|apply bEq|apply bNe)<;>intro hh<;>try(exfalso;omega))|refine e1.cq rfl rfl ?_|refine e2.zq rfl rfl ?_|refine wJ ?_|refine nJ ?_)<;>conv=>whnf))
 refine loop_i (α :=Nat) (fun k=>[(9, .int .i64 k),(8, .isl (A.map fAV)),(7, .row 4),(2, .own 0 0)]) (fun k=>[.box false t.cells, .fresh, .fresh, .fresh, .row false 35 1 (((A.take k).filter (fun l=>decide (t.wrongs l<=t.wr))).map fAV)]) (fun k=>k<=A.length) (fun k=>A.length-k) 0 (mA [(4,none)]) (by simp) ?_
 rintro k h1
 conv=>whnf
 refine bD (fun h3=>?_) (fun h3=>?_)
 ·have hk:k<A.length:=by omega
  have g1:=getM fAV A k hk
  have hm:=List.getElem_mem hk
  have hll:=hrow _ hm
  have hrl:=h.rl
  have hd6:=h.d6
  have e3:=q45 t A[k] (by omega) (by omega) (fun x hx=>by have:=(h.rn x hx).1;omega)
  have ek:=filter_suc (p:=fun l=>decide (t.wrongs l<=t.wr)) hk
  have lk:(((A.take k).filter (fun l=>decide (t.wrongs l<=t.wr))).map fAV).length<=k:=by
   rw[List.length_map]
   exact Nat.le_trans (List.length_filter_le _ _) (by rw[List.length_take];omega)
  by_cases hw:t.wrongs A[k]<=t.wr
  ·rw[if_pos (decide_eq_true hw)]at ek
   (conv=>whnf);(repeat'((first|apply bT|apply bF|apply bN|((first|apply bD|apply bEq|apply bNe)<;>intro hh<;>try(exfalso;omega))|refine iaJ g1 ?_|refine e3.cq rfl rfl ?_|(refine apJ ?_)|refine wJ ?_|refine nJ ?_)<;>conv=>whnf))
   refine⟨k+1,?_,by omega,by omega⟩
   rw[ek,List.map_append]
   exact(mA [(4,some 3)])
  ·rw[if_neg (by simpa using hw),List.append_nil]at ek
   (conv=>whnf);(repeat'((first|apply bT|apply bF|apply bN|((first|apply bD|apply bEq|apply bNe)<;>intro hh<;>try(exfalso;omega))|refine iaJ g1 ?_|refine e3.cq rfl rfl ?_|refine wJ ?_|refine nJ ?_)<;>conv=>whnf))
   refine⟨k+1,?_,by omega,by omega⟩
   rw[ek]
   exact mI
 ·have:k=A.length:=by omega
  subst this
  generalize (A.take A.length).filter (fun l=>decide (t.wrongs l<=t.wr))=T at *
  have lT:(T.map fAV).length=T.length:=by simp
  by_cases h0:T.length=0
  ·have:T=[]:=List.length_eq_zero_iff.1 h0
   subst this
   (conv=>whnf);(repeat'((first|apply bT|apply bF|apply bN|((first|apply bD|apply bEq|apply bNe)<;>intro hh<;>try(exfalso;omega))|refine wJ ?_|refine nJ ?_)<;>conv=>whnf))
   all_goals rfl
  ·rw[if_neg h0]
   (conv=>whnf);(repeat'((first|apply bT|apply bF|apply bN|((first|apply bD|apply bEq|apply bNe)<;>intro hh<;>try(exfalso;omega))|refine wJ ?_|refine nJ ?_)<;>conv=>whnf))
   all_goals rfl
theorem err_ok{t:Tour}{b:Bool}(h:t.err b=0):TOk t/\b=true/\truths t≠[]:=err_zero.1 h
theorem tr_len{t:Tour}(h:TOk t):∀l∈truths t,(l.length:Int)=t.ds:=fun l hl=>rows_ok h l (List.mem_filter.1 hl).1
theorem mnK_suc(n:Int)(x:List Int)(k:Nat):mnK n x (k+1)=min (mnK n x k) (x.getD k 0):=rfl
theorem q15(t:Tour):FnA Try.prog 18 [.agg t.cells] (· = .tup [.int .i64 (if t.ok=true then fewest t else 0), .int .i64 (if t.ok=true then 0 else 110)]):=by
 have e1:=q13 t
 refine fnA 4 ok18 (by simp) ?_
 by_cases ho:t.ok=true
 case neg=>
  rw[if_neg ho]at e1
  rw[if_neg ho,if_neg ho]
  (conv=>whnf);(repeat'((first|apply bT|apply bF|apply bN|((first|apply bD|apply bEq|apply bNe)<;>intro hh<;>try(exfalso;omega))|refine e1.cq rfl rfl ?_|refine wJ ?_|refine nJ ?_)<;>conv=>whnf))
  all_goals rfl
 have h:=ok_iff.1 ho
 rw[if_pos ho]at e1
 rw[if_pos ho,if_pos ho]
 have e2:=q44t t h
 have hlen:=allRows_len h
 have hrow:=rows_ok h
 have hR:(t.rn.map Rain.av).length=t.rn.length:=by simp
 rw[fewest,<- hR]
 generalize allRows t=A at *
 have l1:(A.map fAV).length=A.length:=by simp
 (conv=>whnf);(repeat'((first|apply bT|apply bF|apply bN|((first|apply bD|apply bEq|apply bNe)<;>intro hh<;>try(exfalso;omega))|refine e1.cq rfl rfl ?_|refine e2.zq rfl rfl ?_|refine wJ ?_|refine nJ ?_)<;>conv=>whnf))
 refine loop_i (α :=Nat) (fun k=>[(7, .int .i64 k),(6, .isl (A.map fAV)),(5, .int .i64 (mnK ((t.rn.map Rain.av).length:Nat) (A.map t.wrongs) k)),(1, .own 0 0)]) (fun k=>[.box false t.cells]) (fun k=>k<=A.length) (fun k=>A.length-k) 0 mI (by simp) ?_
 rintro k h1
 conv=>whnf
 refine bD (fun h3=>?_) (fun h3=>?_)
 ·have hk:k<A.length:=by omega
  have g1:=getM fAV A k hk
  have hll:=hrow _ (List.getElem_mem hk)
  have hrl:=h.rl
  have hd6:=h.d6
  have e3:=q45 t A[k] (by omega) (by omega) (fun x hx=>by have:=(h.rn x hx).1;omega)
  have ek:=mnK_suc ((t.rn.map Rain.av).length:Nat) (A.map t.wrongs) k
  rw[show(A.map t.wrongs).getD k 0=t.wrongs A[k] from by simp[List.getD_eq_getElem?_getD,hk]]at ek
  (conv=>whnf);(repeat'((first|apply bT|apply bF|apply bN|((first|apply bD|apply bEq|apply bNe)<;>intro hh<;>try(exfalso;omega))|refine iaJ g1 ?_|refine e3.cq rfl rfl ?_|refine wJ ?_|refine nJ ?_)<;>conv=>whnf))
  exact⟨k+1,by rw[ek];exact mI,by omega,by omega⟩
 ·have:k=A.length:=by omega
  subst this
  (conv=>whnf);(repeat'((first|apply bT|apply bF|apply bN|((first|apply bD|apply bEq|apply bNe)<;>intro hh<;>try(exfalso;omega))|refine wJ ?_|refine nJ ?_)<;>conv=>whnf))
  all_goals rfl
theorem q17(t:Tour):FnA Try.prog 20 [.agg t.cells] (· = .tup [.int .i64 (if t.err true=0 then(truths t).length else 0), .int .i64 (t.err true)]):=by
 have e1:=q46 t true
 refine fnA 3 ok20 (by simp) ?_
 by_cases h0:t.err true=0
 ·rw[if_pos h0]at e1⊢
  have l1:((truths t).map fAV).length=(truths t).length:=by simp
  rw[<- l1]
  (conv=>whnf);(repeat'((first|apply bT|apply bF|apply bN|((first|apply bD|apply bEq|apply bNe)<;>intro hh<;>try(exfalso;omega))|refine e1.zq rfl rfl ?_|refine wJ ?_|refine nJ ?_)<;>conv=>whnf))
  all_goals rfl
 ·rw[if_neg h0]at e1⊢
  (conv=>whnf);(repeat'((first|apply bT|apply bF|apply bN|((first|apply bD|apply bEq|apply bNe)<;>intro hh<;>try(exfalso;omega))|refine e1.zq rfl rfl ?_|refine wJ ?_|refine nJ ?_)<;>conv=>whnf))
  all_goals rfl
theorem wrap_in{x:Int}(h : -9223372036854775808<=x/\x<=9223372036854775807):IntKind.i64.wrap x=x:=by
 simp only[IntKind.wrap,IntKind.bits,IntKind.signed]
 simp only[Bool.true_and,decide_eq_true_eq,ge_iff_le]
 split<;>omega
theorem errW{t:Tour}{x:Int}:t.err (decide (0<=x/\x<=IntKind.i64.wrap (t.ds-1)))=t.err (decide (0<=x/\x<=t.ds-1)):=by
 by_cases ho:t.ok=true
 ·have h:=ok_iff.1 ho
  have d1:=h.d1;have d6:=h.d6
  rw[wrap_in (x:=t.ds-1) (by omega)]
 ·rw[Tour.err,Tour.err,if_neg ho,if_neg ho]
theorem lvK_nil:∀k,lvK [] k=[]:=by
 intro k;induction k with
 |zero=>rfl
 |succ k ih=>rw[lvK,ih,if_neg (by simp)];rfl
theorem lvl_len(t:Tour)(d:Int):(lvl t d).length<=4:=lvK_len _ _
theorem lvK_suc(F:List Int)(k:Nat):lvK F (k+1)=lvK F k++if (k:Int)∈F then [(k:Int)] else []:=rfl
theorem q19(t:Tour)(day:Int):FnA Try.prog 22 [.agg t.cells, .int .i64 day] (· = .tup [.isl ((if t.err (decide (0<=day/\day<=t.ds-1))=0 then lvl t day else []).map jAV), .int .i64 (t.err (decide (0<=day/\day<=t.ds-1)))]):=by
 have e0:=q43 day 0 (IntKind.i64.wrap (t.ds-1))
 have e1:=q46 t (decide (0<=day/\day<=IntKind.i64.wrap (t.ds-1)))
 rw[errW]at e1
 obtain⟨L,hL,hLl,hLd⟩:∃L,L=(if t.err (decide (0<=day/\day<=t.ds-1))=0 then truths t else [])/\L.length<=4096/\∀l∈L,0<=day/\day.toNat<l.length/\l.length<=6:=by
  refine⟨_,rfl,?_,?_⟩
  ·split
   ·rename_i h0;exact truths_len (err_ok h0).1
   ·simp
  ·split
   ·rename_i h0
    obtain⟨a,b,_⟩:=err_ok h0
    have b:=of_decide_eq_true b
    exact fun l hl=>by have:=tr_len a l hl;have:=a.d6;omega
   ·simp
 have hres:(if t.err (decide (0<=day/\day<=t.ds-1))=0 then lvl t day else [])=lvK (L.map fun l=>l.getD day.toNat 0) 4:=by
  rw[hL];split
  ·rfl
  ·exact(lvK_nil 4).symm
 rw[hres]
 rw[<- hL]at e1
 generalize t.err (decide (0<=day/\day<=t.ds-1))=e at *
 have l1:(L.map fAV).length=L.length:=by simp
 refine fnA 8 ok22 (by simp) ?_
 (conv=>whnf);(repeat'((first|apply bT|apply bF|apply bN|((first|apply bD|apply bEq|apply bNe)<;>intro hh<;>try(exfalso;omega))|refine wAny ?_|refine e0.cq rfl rfl ?_|refine e1.zq rfl rfl ?_|refine wJ ?_|refine nJ ?_)<;>conv=>whnf))
 refine loop_i (α :=Nat) (fun k=>[(10, .int .i64 k),(9, .nils),(8, .row 6),(7, .int .i64 e),(6, .isl (L.map fAV)),(1, .int .i64 day)]) (fun k=>[.fresh, .fresh, .fresh, .fresh, .fresh, .fresh, .row false 3 1 (((L.take k).map fun l=>l.getD day.toNat 0).map jAV)]) (fun k=>k<=L.length) (fun k=>L.length-k) 0 (mA [(6,none)]) (by simp) ?_
 rintro k h1
 conv=>whnf
 refine bD (fun h3=>?_) (fun h3=>?_)
 ·have hk:k<L.length:=by omega
  have g1:=getM fAV L k hk
  have hm:=hLd _ (List.getElem_mem hk)
  have hl2:(L[k].map jAV).length=L[k].length:=by simp
  have g2:=getJ L[k] day.toNat hm.2.1
  have lk:(((L.take k).map fun l=>l.getD day.toNat 0).map jAV).length<=k:=by simp;omega
  have ek:(L.take (k+1)).map (fun l=>l.getD day.toNat 0)=(L.take k).map (fun l=>l.getD day.toNat 0)++[L[k].getD day.toNat 0]:=by
   rw[List.take_succ_eq_append_getElem hk,List.map_append];rfl
  (conv=>whnf);(repeat'((first|apply bT|apply bF|apply bN|((first|apply bD|apply bEq|apply bNe)<;>intro hh<;>try(exfalso;omega))|refine iaJ g1 ?_|refine iaJ g2 ?_|(refine apJ ?_)|refine wJ ?_|refine nJ ?_)<;>conv=>whnf))
  refine⟨k+1,?_,by omega,by omega⟩
  rw[ek,List.map_append]
  exact(mA [(6,some 3)])
 have:k=L.length:=by omega
 subst this
 rw[List.take_length]
 have hFl:(L.map fun l=>l.getD day.toNat 0).length<=4096:=by simp;omega
 generalize (L.map fun l=>l.getD day.toNat 0)=F at *
 (conv=>whnf);(repeat'((first|apply bT|apply bF|apply bN|((first|apply bD|apply bEq|apply bNe)<;>intro hh<;>try(exfalso;omega))|refine wJ ?_|refine nJ ?_)<;>conv=>whnf))
 refine loop_i (α :=Nat) (fun k=>[(11, .int .i64 k),(9, .row 7),(8, .row 6),(7, .int .i64 e)]) (fun k=>[.fresh, .fresh, .fresh, .fresh, .fresh, .fresh, .row false 3 1 (F.map jAV), .row false 3 1 ((lvK F k).map jAV)]) (fun k=>k<=4) (fun k=>4-k) 0 (mA [(7,none)]) (by simp) ?_
 rintro k h4
 conv=>whnf
 refine bD (fun h5=>?_) (fun h5=>?_)
 ·have e3:=q47 F (k:Int) (by omega)
  have ek:=lvK_suc F k
  have lk:((lvK F k).map jAV).length<=4:=by rw[List.length_map];exact Nat.le_trans (lvK_len F k) (by omega)
  by_cases hx:(k:Int)∈F
  ·rw[decide_eq_true hx]at e3
   rw[if_pos hx]at ek
   (conv=>whnf);(repeat'((first|apply bT|apply bF|apply bN|((first|apply bD|apply bEq|apply bNe)<;>intro hh<;>try(exfalso;omega))|refine e3.lq rfl rfl ?_|(refine apJ ?_)|refine wJ ?_|refine nJ ?_)<;>conv=>whnf))
   refine⟨k+1,?_,by omega,by omega⟩
   rw[ek,List.map_append]
   exact(mA [(7,some 5)])
  ·rw[decide_eq_false hx]at e3
   rw[if_neg hx,List.append_nil]at ek
   (conv=>whnf);(repeat'((first|apply bT|apply bF|apply bN|((first|apply bD|apply bEq|apply bNe)<;>intro hh<;>try(exfalso;omega))|refine e3.lq rfl rfl ?_|refine wJ ?_|refine nJ ?_)<;>conv=>whnf))
   refine⟨k+1,?_,by omega,by omega⟩
   rw[ek]
   exact mI
 ·have:k=4:=by omega
  subst this
  (conv=>whnf);(repeat'((first|apply bT|apply bF|apply bN|((first|apply bD|apply bEq|apply bNe)<;>intro hh<;>try(exfalso;omega))|refine wJ ?_|refine nJ ?_)<;>conv=>whnf))
  all_goals rfl
theorem q52x(l:List Int)(many most step:Int)(hl:l.length<=1000000)(hm:most<=1000000):FnA Try.prog 75 [.isl (l.map jAV), .int .i64 many, .int .i64 most, .int .i64 step] (fun r=>∃b,r = .bool b):=by
 have hL:(l.map jAV).length=l.length:=by simp
 refine fnA 0 ok75 (by simp) ?_
 (conv=>whnf);(repeat'((first|apply bT|apply bF|apply bN|((first|apply bD|apply bEq|apply bNe)<;>intro hh<;>try(exfalso;omega))|refine wJ ?_|refine nJ ?_)<;>conv=>whnf))
 refine loop_i (α :=Nat) (fun k=>[(9, .int .i64 k),(3, .int .i64 step),(2, .int .i64 most),(1, .int .i64 many),(0, .isl (l.map jAV))]) (fun k=>[]) (fun k=>k<=l.length/\∀i,i<k->0<=l.getD i 0/\l.getD i 0<=most) (fun k=>l.length-k) 0 mI ⟨by simp,fun i h=>by omega⟩ ?_
 rintro k ⟨h1,h2⟩
 conv=>whnf
 refine bD (fun h3=>?_) (fun h3=>?_)
 ·have hk:k<l.length:=by omega
  have g1:=getJ l k hk
  have e1:=q43 (l.getD k 0) 0 most
  by_cases hA:0<=l.getD k 0/\l.getD k 0<=most
  ·rw[decide_eq_true hA]at e1
   have good:∀i,i<k+1->0<=l.getD i 0/\l.getD i 0<=most:=fun i hi=>by
    by_cases e:i=k
    ·subst e;exact hA
    ·exact h2 i (by omega)
   by_cases h0:k=0
   ·subst h0
    (conv=>whnf);(repeat'((first|apply bT|apply bF|apply bN|((first|apply bD|apply bEq|apply bNe)<;>intro hh<;>try(exfalso;omega))|refine iaJ g1 ?_|refine e1.cq rfl rfl ?_|refine wJ ?_|refine nJ ?_)<;>conv=>whnf))
    exact⟨0+1,mI,⟨by omega,good⟩,by omega⟩
   ·have hB:=h2 (k-1) (by omega)
    have g2:(l.map jAV).getD (((k:Int)-1).toNat:Nat) []=[.int .i64 (l.getD (k-1) 0)]:=by
     rw[show((k:Int)-1).toNat=k-1 by omega];exact getJ l (k-1) (by omega)
    have w2 : -9223372036854775808<=(k:Int)-1/\(k:Int)-1<=9223372036854775807:=by omega
    have w3 : -9223372036854775808<=l.getD k 0-l.getD (k-1) 0/\l.getD k 0-l.getD (k-1) 0<=9223372036854775807:=by omega
    have e2:=q43 (l.getD k 0-l.getD (k-1) 0) (IntKind.i64.wrap (0-step)) step
    generalize decide (IntKind.i64.wrap (0-step)<=l.getD k 0-l.getD (k-1) 0/\l.getD k 0-l.getD (k-1) 0<=step)=b at e2
    cases b
    ·(conv=>whnf);(repeat'((first|apply bT|apply bF|apply bN|((first|apply bD|apply bEq|apply bNe)<;>intro hh<;>try(exfalso;omega))|refine iaJ g1 ?_|refine iaJ g2 ?_|refine e1.cq rfl rfl ?_|refine e2.cq rfl rfl ?_|refine wIn w2 ?_|refine wIn w3 ?_|refine wAny ?_|refine wJ ?_|refine nJ ?_)<;>conv=>whnf))
     all_goals exact⟨_,rfl⟩
    ·have w4 : -9223372036854775808<=(k:Int)+1/\(k:Int)+1<=9223372036854775807:=by omega
     (conv=>whnf);(repeat'((first|apply bT|apply bF|apply bN|((first|apply bD|apply bEq|apply bNe)<;>intro hh<;>try(exfalso;omega))|refine iaJ g1 ?_|refine iaJ g2 ?_|refine e1.cq rfl rfl ?_|refine e2.cq rfl rfl ?_|refine wIn w2 ?_|refine wIn w3 ?_|refine wIn w4 ?_|refine wAny ?_|refine wJ ?_|refine nJ ?_)<;>conv=>whnf))
     exact⟨k+1,mI,⟨by omega,good⟩,by omega⟩
  ·rw[decide_eq_false hA]at e1
   (conv=>whnf);(repeat'((first|apply bT|apply bF|apply bN|((first|apply bD|apply bEq|apply bNe)<;>intro hh<;>try(exfalso;omega))|refine iaJ g1 ?_|refine e1.cq rfl rfl ?_|refine wJ ?_|refine nJ ?_)<;>conv=>whnf))
   all_goals exact⟨_,rfl⟩
 ·have:k=l.length:=by omega
  subst this
  (conv=>whnf);(repeat'((first|apply bT|apply bF|apply bN|((first|apply bD|apply bEq|apply bNe)<;>intro hh<;>try(exfalso;omega))|refine wJ ?_|refine nJ ?_)<;>conv=>whnf))
  all_goals exact⟨_,rfl⟩
theorem q39x(t:Tour)(hf:t.fs.length<=1000000)(r:List Int)(hr:r.length<=1000000):FnA Try.prog 42 [.agg t.cells, .isl (r.map jAV)] (fun v=>∃b,v = .bool b/\t.err b=t.err (isRte t r)):=by
 by_cases ho:t.ok=true
 ·have h:=ok_iff.1 ho
  have hF:(t.fs.map Fair.av).length=t.fs.length:=by simp
  have e1:=q52 r t.ds ((t.fs.length:Int)-1) t.rc (by omega) (by have:=h.f4;omega) ⟨h.c0,by have:=h.c4;omega⟩
  rw[<- hF]at e1
  refine fnA 1 ok42 (by simp) ?_
  (conv=>whnf);(repeat'((first|apply bT|apply bF|apply bN|((first|apply bD|apply bEq|apply bNe)<;>intro hh<;>try(exfalso;omega))|refine e1.cq rfl rfl ?_|refine wJ ?_|refine nJ ?_)<;>conv=>whnf))
  all_goals exact⟨_,rfl,by rw[isRte,hF]⟩
 ·have hF:(t.fs.map Fair.av).length=t.fs.length:=by simp
  have e1:=q52x r t.ds (((t.fs.map Fair.av).length:Int)-1) t.rc hr (by omega)
  refine fnA 1 ok42 (by simp) ?_
  (conv=>whnf);(repeat'((first|apply bT|apply bF|apply bN|((first|apply bD|apply bEq|apply bNe)<;>intro hh<;>try(exfalso;omega))|refine wJ ?_|refine nJ ?_)<;>conv=>whnf))
  refine e1.callq rfl rfl (fun v hv=>?_)
  obtain⟨b,rfl⟩:=hv
  (conv=>whnf);(repeat'((first|apply bT|apply bF|apply bN|((first|apply bD|apply bEq|apply bNe)<;>intro hh<;>try(exfalso;omega))|refine wJ ?_|refine nJ ?_)<;>conv=>whnf))
  all_goals exact⟨b,rfl,by rw[Tour.err,Tour.err,if_neg ho,if_neg ho]⟩
def noS:Int × Int:=(0,0)
def spS(t:Tour)(e:Int)(s:Int × Int):AV:=.tup [.agg [.int .i64 (if e=0 then s else noS).1, .int .i64 (if e=0 then s else noS).2], .int .i64 e]
theorem q25(t:Tour)(hf:t.fs.length<=1000000)(r:List Int)(hr:r.length<=1000000):FnA Try.prog 28 [.agg t.cells, .isl (r.map jAV)] (· = spS t (t.err (isRte t r)) (takS t r)):=by
 refine fnA 4 ok28 (by simp) ?_
 conv=>whnf
 refine(q39x t hf r hr).callq rfl rfl (fun v hv=>?_)
 obtain⟨b,rfl,hb⟩:=hv
 have e1:=q46 t b
 rw[hb]at e1
 by_cases h0:t.err (isRte t r)=0
 ·obtain⟨h,hrt,hne⟩:=err_ok h0
  rw[if_pos h0,h0]at e1
  have e2:=q48 t h (truths t) (by have:=truths_len h;omega) (fun l hl=>(mem_truths h).1 hl) r hrt
  rw[spS,h0,if_pos rfl,takS]
  (conv=>whnf);(repeat'((first|apply bT|apply bF|apply bN|((first|apply bD|apply bEq|apply bNe)<;>intro hh<;>try(exfalso;omega))|refine e1.zq rfl rfl ?_|refine e2.cq rfl rfl ?_|refine wJ ?_|refine nJ ?_)<;>conv=>whnf))
  all_goals rfl
 ·rw[if_neg h0]at e1
  rw[spS,if_neg h0]
  (conv=>whnf);(repeat'((first|apply bT|apply bF|apply bN|((first|apply bD|apply bEq|apply bNe)<;>intro hh<;>try(exfalso;omega))|refine e1.zq rfl rfl ?_|refine wJ ?_|refine nJ ?_)<;>conv=>whnf))
  all_goals rfl
theorem q27(t:Tour)(hf:t.fs.length<=1000000)(r:List Int)(hr:r.length<=1000000):FnA Try.prog 30 [.agg t.cells, .isl (r.map jAV)] (· = spS t (t.err (isRte t r)) (lefS t r)):=by
 refine fnA 6 ok30 (by simp) ?_
 conv=>whnf
 refine(q39x t hf r hr).callq rfl rfl (fun v hv=>?_)
 obtain⟨b,rfl,hb⟩:=hv
 have e1:=q46 t b
 rw[hb]at e1
 by_cases h0:t.err (isRte t r)=0
 ·obtain⟨h,hrt,hne⟩:=err_ok h0
  rw[if_pos h0,h0]at e1
  rw[spS,h0,if_pos rfl,lefS,spn]
  have hTl:=truths_len h
  have hT:=fun l hl=>(mem_truths (l:=l) h).1 hl
  rw[show((truths t).map (lef t r)).length=(truths t).length from by simp]
  generalize truths t=L at *
  have l1:(L.map fAV).length=L.length:=by simp
  generalize hX:L.map (lef t r)=X at *
  (conv=>whnf);(repeat'((first|apply bT|apply bF|apply bN|((first|apply bD|apply bEq|apply bNe)<;>intro hh<;>try(exfalso;omega))|refine e1.zq rfl rfl ?_|refine wJ ?_|refine nJ ?_)<;>conv=>whnf))
  refine loop_i (α :=Nat) (fun k=>[(9, .int .i64 k),(8, .own 3 0),(7, .int .i64 0),(6, .isl (L.map fAV)),(4, .own 1 0),(2, .own 0 0),(1, .isl (r.map jAV))]) (fun k=>[.box false t.cells, .box false [.int .i64 0, .int .i64 0], .fresh, .box false [.int .i64 (spK X k).1, .int .i64 (spK X k).2]]) (fun k=>k<=L.length) (fun k=>L.length-k) 0 mI (by simp) ?_
  rintro k h1
  conv=>whnf
  refine bD (fun h3=>?_) (fun h3=>?_)
  ·have hk:k<L.length:=by omega
   have g1:=getFl L k hk
   have hm:L.getD k []∈L:=by simp[List.getD_eq_getElem?_getD,hk]
   have e3:=q35 t h r (L.getD k []) hrt (hT _ hm)
   have gx:X.getD k 0=lef t r (L.getD k []):=by subst hX;simp[List.getD_eq_getElem?_getD,hk]
   have ek:=spK_suc X k
   rw[gx]at ek
   by_cases h0:k=0
   ·subst h0
    rw[if_pos rfl,gx]at ek
    have e4:=q49 (spK X 0).1 (spK X 0).2 (lef t r (L.getD 0 [])) true
    rw[if_pos rfl]at e4
    (conv=>whnf);(repeat'((first|apply bT|apply bF|apply bN|((first|apply bD|apply bEq|apply bNe)<;>intro hh<;>try(exfalso;omega))|refine iaJ g1 ?_|refine e3.cq rfl rfl ?_|refine e4.cq rfl rfl ?_|refine wJ ?_|refine nJ ?_)<;>conv=>whnf))
    exact⟨0+1,by rw[ek];exact mI,by omega,by omega⟩
   ·rw[if_neg h0]at ek
    have e4:=q49 (spK X k).1 (spK X k).2 (lef t r (L.getD k [])) (decide ((k:Int)=0))
    rw[if_neg (by rw[decide_eq_true_eq];omega)]at e4
    (conv=>whnf);(repeat'((first|apply bT|apply bF|apply bN|((first|apply bD|apply bEq|apply bNe)<;>intro hh<;>try(exfalso;omega))|refine iaJ g1 ?_|refine e3.cq rfl rfl ?_|refine e4.cq rfl rfl ?_|refine wJ ?_|refine nJ ?_)<;>conv=>whnf))
    exact⟨k+1,by rw[ek];exact mI,by omega,by omega⟩
  ·have:k=L.length:=by omega
   subst this
   (conv=>whnf);(repeat'((first|apply bT|apply bF|apply bN|((first|apply bD|apply bEq|apply bNe)<;>intro hh<;>try(exfalso;omega))|refine wJ ?_|refine nJ ?_)<;>conv=>whnf))
   all_goals rfl
 ·rw[if_neg h0]at e1
  rw[spS,if_neg h0]
  (conv=>whnf);(repeat'((first|apply bT|apply bF|apply bN|((first|apply bD|apply bEq|apply bNe)<;>intro hh<;>try(exfalso;omega))|refine e1.zq rfl rfl ?_|refine wJ ?_|refine nJ ?_)<;>conv=>whnf))
  refine loop_i (α :=Unit) (fun _=>[(9, .int .i64 0),(8, .own 3 0),(7, .int .i64 (t.err (isRte t r))),(6, .isl []),(4, .own 1 0),(2, .own 0 0)]) (fun _=>[.box false t.cells, .box false [.int .i64 0, .int .i64 0], .fresh, .box false [.int .i64 0, .int .i64 0]]) (fun _=>True) (fun _=>0) () mI trivial ?_
  rintro _ _
  (conv=>whnf);(repeat'((first|apply bT|apply bF|apply bN|((first|apply bD|apply bEq|apply bNe)<;>intro hh<;>try(exfalso;omega))|refine wJ ?_|refine nJ ?_)<;>conv=>whnf))
  all_goals rfl
theorem mxK_suc(x:List Int)(k:Nat):mxK x (k+1)=max (mxK x k) (x.getD k 0):=rfl
theorem q29(t:Tour):FnA Try.prog 32 [.agg t.cells] (· = .tup [.int .i64 (if t.err true=0 then best t else 0), .int .i64 (t.err true)]):=by
 have e1:=q46 t true
 refine fnA 4 ok32 (by simp) ?_
 by_cases h0:t.err true=0
 ·obtain⟨h,_,hne⟩:=err_ok h0
  rw[if_pos h0,h0]at e1
  rw[if_pos h0,h0]
  have e2:=q50 t h
  have hTl:=truths_len h
  have hT:=fun l hl=>(mem_truths (l:=l) h).1 hl
  have hRl:=routes_len h
  have hR:=fun r hr=>(mem_routes (r:=r) h).1 hr
  rw[best,mx,show((routes t).map fun r=>(takS t r).1).length=(routes t).length from by simp]
  have e3:=fun r hr=>q48 t h (truths t) (by omega) hT r hr
  generalize routes t=A at *
  have l1:(A.map fAV).length=A.length:=by simp
  generalize hX:(A.map fun r=>(takS t r).1)=X at *
  (conv=>whnf);(repeat'((first|apply bT|apply bF|apply bN|((first|apply bD|apply bEq|apply bNe)<;>intro hh<;>try(exfalso;omega))|refine e1.zq rfl rfl ?_|refine e2.zq rfl rfl ?_|refine wJ ?_|refine nJ ?_)<;>conv=>whnf))
  refine loop_i (α :=Nat) (fun k=>[(8, .int .i64 k),(7, .isl (A.map fAV)),(6, .int .i64 (mxK X k)),(4, .isl ((truths t).map fAV)),(1, .own 0 0)]) (fun k=>[.box false t.cells]) (fun k=>k<=A.length) (fun k=>A.length-k) 0 mI (by simp) ?_
  rintro k h1
  conv=>whnf
  refine bD (fun h3=>?_) (fun h3=>?_)
  ·have hk:k<A.length:=by omega
   have g1:=getFl A k hk
   have hm:A.getD k []∈A:=by simp[List.getD_eq_getElem?_getD,hk]
   have e4:=e3 _ (hR _ hm)
   have gx:X.getD k 0=(takS t (A.getD k [])).1:=by subst hX;simp[List.getD_eq_getElem?_getD,hk]
   have ek:=mxK_suc X k
   rw[gx,takS]at ek
   (conv=>whnf);(repeat'((first|apply bT|apply bF|apply bN|((first|apply bD|apply bEq|apply bNe)<;>intro hh<;>try(exfalso;omega))|refine iaJ g1 ?_|refine e4.cq rfl rfl ?_|refine wJ ?_|refine nJ ?_)<;>conv=>whnf))
   exact⟨k+1,by rw[ek];exact mI,by omega,by omega⟩
  ·have:k=A.length:=by omega
   subst this
   (conv=>whnf);(repeat'((first|apply bT|apply bF|apply bN|((first|apply bD|apply bEq|apply bNe)<;>intro hh<;>try(exfalso;omega))|refine wJ ?_|refine nJ ?_)<;>conv=>whnf))
   all_goals rfl
 ·rw[if_neg h0]at e1⊢
  (conv=>whnf);(repeat'((first|apply bT|apply bF|apply bN|((first|apply bD|apply bEq|apply bNe)<;>intro hh<;>try(exfalso;omega))|refine e1.zq rfl rfl ?_|refine wJ ?_|refine nJ ?_)<;>conv=>whnf))
  all_goals rfl
theorem q31(t:Tour):FnA Try.prog 34 [.agg t.cells] (· = .tup [.int .i64 (if t.err true=0 then hopes t else 0), .int .i64 (t.err true)]):=by
 have e1:=q46 t true
 refine fnA 4 ok34 (by simp) ?_
 by_cases h0:t.err true=0
 ·obtain⟨h,_,hne⟩:=err_ok h0
  rw[if_pos h0,h0]at e1
  rw[if_pos h0,h0]
  have e2:=q50 t h
  have hTl:=truths_len h
  have hT:=fun l hl=>(mem_truths (l:=l) h).1 hl
  have hRl:=routes_len h
  have hR:=fun r hr=>(mem_routes (r:=r) h).1 hr
  rw[hopes,mx,show((routes t).map fun r=>(takS t r).2).length=(routes t).length from by simp]
  have e3:=fun r hr=>q48 t h (truths t) (by omega) hT r hr
  generalize routes t=A at *
  have l1:(A.map fAV).length=A.length:=by simp
  generalize hX:(A.map fun r=>(takS t r).2)=X at *
  (conv=>whnf);(repeat'((first|apply bT|apply bF|apply bN|((first|apply bD|apply bEq|apply bNe)<;>intro hh<;>try(exfalso;omega))|refine e1.zq rfl rfl ?_|refine e2.zq rfl rfl ?_|refine wJ ?_|refine nJ ?_)<;>conv=>whnf))
  refine loop_i (α :=Nat) (fun k=>[(8, .int .i64 k),(7, .isl (A.map fAV)),(6, .int .i64 (mxK X k)),(4, .isl ((truths t).map fAV)),(1, .own 0 0)]) (fun k=>[.box false t.cells]) (fun k=>k<=A.length) (fun k=>A.length-k) 0 mI (by simp) ?_
  rintro k h1
  conv=>whnf
  refine bD (fun h3=>?_) (fun h3=>?_)
  ·have hk:k<A.length:=by omega
   have g1:=getFl A k hk
   have hm:A.getD k []∈A:=by simp[List.getD_eq_getElem?_getD,hk]
   have e4:=e3 _ (hR _ hm)
   have gx:X.getD k 0=(takS t (A.getD k [])).2:=by subst hX;simp[List.getD_eq_getElem?_getD,hk]
   have ek:=mxK_suc X k
   rw[gx,takS]at ek
   (conv=>whnf);(repeat'((first|apply bT|apply bF|apply bN|((first|apply bD|apply bEq|apply bNe)<;>intro hh<;>try(exfalso;omega))|refine iaJ g1 ?_|refine e4.cq rfl rfl ?_|refine wJ ?_|refine nJ ?_)<;>conv=>whnf))
   exact⟨k+1,by rw[ek];exact mI,by omega,by omega⟩
  ·have:k=A.length:=by omega
   subst this
   (conv=>whnf);(repeat'((first|apply bT|apply bF|apply bN|((first|apply bD|apply bEq|apply bNe)<;>intro hh<;>try(exfalso;omega))|refine wJ ?_|refine nJ ?_)<;>conv=>whnf))
   all_goals rfl
 ·rw[if_neg h0]at e1⊢
  (conv=>whnf);(repeat'((first|apply bT|apply bF|apply bN|((first|apply bD|apply bEq|apply bNe)<;>intro hh<;>try(exfalso;omega))|refine e1.zq rfl rfl ?_|refine wJ ?_|refine nJ ?_)<;>conv=>whnf))
  all_goals rfl
theorem q22(a b:List Int)(ha:a.length<=1000000)(hb:b.length<=1000000):FnA Try.prog 25 [.isl (a.map jAV), .isl (b.map jAV)] (· = .bool (decide (a=b))):=by
 have l1:(a.map jAV).length=a.length:=by simp
 have l2:(b.map jAV).length=b.length:=by simp
 refine fnA 0 ok25 (by simp) ?_
 by_cases h:a.length=b.length
 ·(conv=>whnf);(repeat'((first|apply bT|apply bF|apply bN|((first|apply bD|apply bEq|apply bNe)<;>intro hh<;>try(exfalso;omega))|refine wJ ?_|refine nJ ?_)<;>conv=>whnf))
  refine loop_i (α :=Nat) (fun k=>[(5, .int .i64 k),(1, .isl (b.map jAV)),(0, .isl (a.map jAV))]) (fun k=>[]) (fun k=>k<=a.length/\∀i,i<k->a.getD i 0=b.getD i 0) (fun k=>a.length-k) 0 mI ⟨by simp,fun i h=>by omega⟩ ?_
  rintro k ⟨h1,h2⟩
  conv=>whnf
  refine bD (fun h3=>?_) (fun h3=>?_)
  ·have hk:k<a.length:=by omega
   have g1:=getJ a k hk
   have g2:=getJ b k (by omega)
   by_cases hx:a.getD k 0=b.getD k 0
   ·(conv=>whnf);(repeat'((first|apply bT|apply bF|apply bN|((first|apply bD|apply bEq|apply bNe)<;>intro hh<;>try(exfalso;omega))|refine iaJ g1 ?_|refine iaJ g2 ?_|refine wJ ?_|refine nJ ?_)<;>conv=>whnf))
    exact⟨k+1,mI,⟨by omega,fun i hi=>by
     by_cases e:i=k
     ·subst e;exact hx
     ·exact h2 i (by omega)⟩,by omega⟩
   ·rw[decide_eq_false (fun e=>hx (by rw[e]))]
    (conv=>whnf);(repeat'((first|apply bT|apply bF|apply bN|((first|apply bD|apply bEq|apply bNe)<;>intro hh<;>try(exfalso;omega))|refine iaJ g1 ?_|refine iaJ g2 ?_|refine wJ ?_|refine nJ ?_)<;>conv=>whnf))
    all_goals rfl
  ·rw[decide_eq_true (List.ext_getElem h fun i h4 h5=>by
    have:=h2 i (by omega)
    simpa[List.getD_eq_getElem?_getD,h4,h5]using this)]
   (conv=>whnf);(repeat'((first|apply bT|apply bF|apply bN|((first|apply bD|apply bEq|apply bNe)<;>intro hh<;>try(exfalso;omega))|refine wJ ?_|refine nJ ?_)<;>conv=>whnf))
   all_goals rfl
 ·rw[decide_eq_false (fun e=>h (by rw[e]))]
  (conv=>whnf);(repeat'((first|apply bT|apply bF|apply bN|((first|apply bD|apply bEq|apply bNe)<;>intro hh<;>try(exfalso;omega))|refine wJ ?_|refine nJ ?_)<;>conv=>whnf))
  all_goals rfl
theorem q36(l:List Int)(x:Int)(hl:l.length<=1000000):FnA Try.prog 39 [.isl (l.map jAV), .int .i64 x] (· = .bool (decide (x∈l))):=by
 have hL:(l.map jAV).length=l.length:=by simp
 refine fnA 0 ok39 (by simp) ?_
 (conv=>whnf);(repeat'((first|apply bT|apply bF|apply bN|((first|apply bD|apply bEq|apply bNe)<;>intro hh<;>try(exfalso;omega))|refine wJ ?_|refine nJ ?_)<;>conv=>whnf))
 refine loop_i (α :=Nat) (fun k=>[(5, .int .i64 k),(1, .int .i64 x),(0, .isl (l.map jAV))]) (fun k=>[]) (fun k=>k<=l.length/\∀b∈l.take k,decide (b=x)=false) (fun k=>l.length-k) 0 mI ⟨by simp,by simp⟩ ?_
 rintro k ⟨h1,h2⟩
 conv=>whnf
 refine bD (fun h3=>?_) (fun h3=>?_)
 ·have hk:k<l.length:=by omega
  by_cases hx:l[k]=x
  ·rw[decide_eq_true (by rw[<- hx];exact List.getElem_mem hk)]
   (conv=>whnf);(repeat'((first|apply bT|apply bF|apply bN|((first|apply bD|apply bEq|apply bNe)<;>intro hh<;>try(exfalso;omega))|refine iaJ (getM jAV l k hk) ?_|refine wJ ?_|refine nJ ?_)<;>conv=>whnf))
   all_goals rfl
  ·(conv=>whnf);(repeat'((first|apply bT|apply bF|apply bN|((first|apply bD|apply bEq|apply bNe)<;>intro hh<;>try(exfalso;omega))|refine iaJ (getM jAV l k hk) ?_|refine wJ ?_|refine nJ ?_)<;>conv=>whnf))
   exact⟨k+1,mI,⟨by omega,take_none hk h2 (decide_eq_false hx)⟩,by omega⟩
 ·have:k=l.length:=by omega
  subst this
  rw[List.take_length]at h2
  rw[decide_eq_false (fun h=>by have:=h2 x h;simp at this)]
  (conv=>whnf);(repeat'((first|apply bT|apply bF|apply bN|((first|apply bD|apply bEq|apply bNe)<;>intro hh<;>try(exfalso;omega))|refine wJ ?_|refine nJ ?_)<;>conv=>whnf))
  all_goals rfl
theorem q37(n lo hi:Int):FnA Try.prog 40 [.int .i64 n, .agg [.int .i64 lo, .int .i64 hi]] (· = .bool (decide (lo<=n/\n<=hi))):=by
 refine fnA 1 ok40 (by simp) ?_
 (conv=>whnf);(repeat'((first|apply bT|apply bF|apply bN|((first|apply bD|apply bEq|apply bNe)<;>intro hh<;>try(exfalso;omega))|refine wJ ?_|refine nJ ?_)<;>conv=>whnf))
 all_goals first|rfl|exact congrArg AV.bool (decide_eq_decide.2 (by omega))|exact congrArg AV.bool (decide_eq_true (by omega)).symm|exact congrArg AV.bool (decide_eq_false (by omega)).symm
theorem q40(e:Int):FnA Try.prog 43 [.int .i64 e] (· = .bool (decide (e=0\/e=3))):=by
 refine fnA 0 ok43 (by simp) ?_
 (conv=>whnf);(repeat'((first|apply bT|apply bF|apply bN|((first|apply bD|apply bEq|apply bNe)<;>intro hh<;>try(exfalso;omega))|refine wJ ?_|refine nJ ?_)<;>conv=>whnf))
 all_goals first|rfl|exact congrArg AV.bool (decide_eq_decide.2 (by omega))|exact congrArg AV.bool (decide_eq_true (by omega)).symm|exact congrArg AV.bool (decide_eq_false (by omega)).symm
theorem q42:FnA Try.prog 45 [] (· = .agg exT.cells):=by
 refine fnA 8 ok45 (by simp) ?_
 (conv=>whnf);(repeat'((first|apply bT|apply bF|apply bN|((first|apply bD|apply bEq|apply bNe)<;>intro hh<;>try(exfalso;omega))|refine wJ ?_|refine nJ ?_)<;>conv=>whnf))
 all_goals rfl
theorem rgt_suc{x:Rain}{L:List (List Int)}{k:Nat}(hk:k<L.length):((L.take (k+1)).countP (isRt x):Int)=(L.take k).countP (isRt x)+if isRt x L[k]=true then 1 else 0:=by
 rw[List.take_succ_eq_append_getElem hk,List.countP_append,List.countP_singleton]
 split<;>simp
theorem q21(t:Tour)(rain:Int)(hr:t.rn.length<=1000000):FnA Try.prog 24 [.agg t.cells, .int .i64 rain] (· = .tup [.int .i64 (if t.err (decide (0<=rain/\rain<=(t.rn.length:Int)-1))=0 then rgtV t (t.rn.getD rain.toNat ⟨0,0,0⟩) else 0), .int .i64 (t.err (decide (0<=rain/\rain<=(t.rn.length:Int)-1)))]):=by
 have hR:(t.rn.map Rain.av).length=t.rn.length:=by simp
 have e0:=q43 rain 0 (((t.rn.map Rain.av).length:Int)-1)
 rw[<- hR]
 have e1:=q46 t (decide (0<=rain/\rain<=((t.rn.map Rain.av).length:Int)-1))
 refine fnA 4 ok24 (by simp) ?_
 by_cases h0:t.err (decide (0<=rain/\rain<=((t.rn.map Rain.av).length:Int)-1))=0
 ·obtain⟨h,hb,hne⟩:=err_ok h0
  have hb:=of_decide_eq_true hb
  rw[if_pos h0,h0]at e1
  rw[if_pos h0,h0,rgtV]
  have hTl:=truths_len h
  have hTr:=tr_len h
  have hx:rain.toNat<t.rn.length:=by omega
  have gx:t.rn.getD rain.toNat ⟨0,0,0⟩=t.rn[rain.toNat]:=by rw[List.getD_eq_getElem?_getD,List.getElem?_eq_getElem hx];rfl
  have g0:=getM Rain.av t.rn rain.toNat hx
  have hok:=h.rn _ (List.getElem_mem hx)
  have hd6:=h.d6
  have hp:0<(truths t).length:=List.length_pos_iff.2 hne
  rw[gx]
  generalize t.rn[rain.toNat]=x at *
  generalize truths t=L at *
  have l1:(L.map fAV).length=L.length:=by simp
  (conv=>whnf);(repeat'((first|apply bT|apply bF|apply bN|((first|apply bD|apply bEq|apply bNe)<;>intro hh<;>try(exfalso;omega))|refine wJ ?_|refine e0.cq rfl rfl ?_|refine e1.zq rfl rfl ?_|refine wJ ?_|refine nJ ?_)<;>conv=>whnf))
  refine loop_i (α :=Nat) (fun k=>[(9, .int .i64 k),(8, .int .i64 ((L.take k).countP (isRt x))),(6, .isl (L.map fAV)),(2, .own 0 0),(1, .int .i64 rain)]) (fun k=>[.box false t.cells]) (fun k=>k<=L.length) (fun k=>L.length-k) 0 mI (by simp) ?_
  rintro k h1
  have hcn:=List.countP_le_length (p:=isRt x) (l:=L.take k)
  rw[List.length_take]at hcn
  conv=>whnf
  refine bD (fun h3=>?_) (fun h3=>?_)
  ·have hk:k<L.length:=by omega
   have g1:=getM fAV L k hk
   have hll:=hTr _ (List.getElem_mem hk)
   have e3:=q38 x L[k] hok.1.1 (by omega) (by omega)
   have ek:=rgt_suc (x:=x) hk
   cases hq:isRt x L[k]<;>rw[hq]at e3 ek
   ·rw[if_neg (by simp),Int.add_zero]at ek
    (conv=>whnf);(repeat'((first|apply bT|apply bF|apply bN|((first|apply bD|apply bEq|apply bNe)<;>intro hh<;>try(exfalso;omega))|refine iaJ g0 ?_|refine iaJ g1 ?_|refine e3.cq rfl rfl ?_|refine wJ ?_|refine nJ ?_)<;>conv=>whnf))
    exact⟨k+1,by rw[ek];exact mI,by omega,by omega⟩
   ·rw[if_pos rfl]at ek
    (conv=>whnf);(repeat'((first|apply bT|apply bF|apply bN|((first|apply bD|apply bEq|apply bNe)<;>intro hh<;>try(exfalso;omega))|refine iaJ g0 ?_|refine iaJ g1 ?_|refine e3.cq rfl rfl ?_|refine wJ ?_|refine nJ ?_)<;>conv=>whnf))
    exact⟨k+1,by rw[ek];exact mI,by omega,by omega⟩
  ·have:k=L.length:=by omega
   subst this
   rw[List.take_length]
   generalize L.countP (isRt x)=n at *
   by_cases c1:n=L.length
   ·rw[if_pos c1]
    (conv=>whnf);(repeat'((first|apply bT|apply bF|apply bN|((first|apply bD|apply bEq|apply bNe)<;>intro hh<;>try(exfalso;omega))|refine wJ ?_|refine nJ ?_)<;>conv=>whnf))
    all_goals rfl
   ·rw[if_neg c1]
    by_cases c2:n=0
    ·rw[if_pos c2]
     (conv=>whnf);(repeat'((first|apply bT|apply bF|apply bN|((first|apply bD|apply bEq|apply bNe)<;>intro hh<;>try(exfalso;omega))|refine wJ ?_|refine nJ ?_)<;>conv=>whnf))
     all_goals rfl
    ·rw[if_neg c2]
     (conv=>whnf);(repeat'((first|apply bT|apply bF|apply bN|((first|apply bD|apply bEq|apply bNe)<;>intro hh<;>try(exfalso;omega))|refine wJ ?_|refine nJ ?_)<;>conv=>whnf))
     all_goals rfl
 ·rw[if_neg h0]at e1⊢
  (conv=>whnf);(repeat'((first|apply bT|apply bF|apply bN|((first|apply bD|apply bEq|apply bNe)<;>intro hh<;>try(exfalso;omega))|refine e0.cq rfl rfl ?_|refine e1.zq rfl rfl ?_|refine wJ ?_|refine nJ ?_)<;>conv=>whnf))
  all_goals rfl
structure Sml(t:Tour):Prop where
 rn:t.rn.length<=100
 fs:t.fs.length<=100
 se:∀f∈t.fs,f.se.length<=100
theorem q11o(t:Tour)(h:Sml t):FnO Try.prog 14 [.agg t.cells] (fun r rows=>r = .agg [.int .i64 t.ds, .int .i64 t.st, .row 4, .int .i64 t.wr, .row 9, .int .i64 t.rc, .int .i64 t.sk]/\rows=[(4, .row false 57 3 (t.rn.map Rain.av)),(9, .row false 64 2 (t.fs.map Fair.av))]):=by
 have lr:(t.rn.map Rain.av).length=t.rn.length:=by simp
 have lf:(t.fs.map Fair.av).length=t.fs.length:=by simp
 have hr:=h.rn;have hf:=h.fs
 refine fnO 12 ok14 (by simp) ?_
 (conv=>whnf);(repeat'((first|apply bT|apply bF|apply bN|((first|apply bD|apply bEq|apply bNe)<;>intro hh<;>try(exfalso;omega))|(refine apI (r_one t.rn) (by simp only[lr,List.length_nil];omega) ?_)|refine wJ ?_|refine nJ ?_)<;>conv=>whnf))
 refine loop_i (α :=Nat) (fun k=>[(4, .int .i64 k),(3, .own 2 0),(2, .own 1 0),(1, .own 0 0)]) (fun k=>[.box false t.cells, .box false [.int .i64 0, .int .i64 0, .nils, .int .i64 0, .nils, .int .i64 0, .int .i64 0], .box false [.int .i64 t.ds, .int .i64 t.st, .row 4, .int .i64 t.wr, .row 9, .int .i64 t.rc, .int .i64 t.sk], .fresh, .row false 57 3 (t.rn.map Rain.av), .fresh, .fresh, .fresh, .fresh, .row false 64 2 ((t.fs.take k).map Fair.av)]) (fun k=>k<=t.fs.length) (fun k=>t.fs.length-k) 0 (mA [(9,none)]) (by simp) ?_
 rintro k hk0
 conv=>whnf
 refine bD (fun h5=>?_) (fun h5=>?_)
 ·have hkl:k<t.fs.length:=by omega
  have g1:=getM Fair.av t.fs k hkl
  have la:(t.fs[k].se.map jAV).length=t.fs[k].se.length:=by simp
  have hb:=h.se _ (List.getElem_mem hkl)
  have ek:(t.fs.take (k+1)).map Fair.av=(t.fs.take k).map Fair.av++[t.fs[k].av]:=by rw[List.take_succ_eq_append_getElem hkl,List.map_append];rfl
  have lk:((t.fs.take k).map Fair.av).length<=k:=by simp;omega
  have hK:∀e∈[t.fs[k].av],e.length=2/\e.all AV.one=true:=by simp[Fair.av,AV.one]
  (conv=>whnf);(repeat'((first|apply bT|apply bF|apply bN|((first|apply bD|apply bEq|apply bNe)<;>intro hh<;>try(exfalso;omega))|refine iaJ g1 ?_|(refine apI (j_one t.fs[k].se) (by simp only[la,List.length_nil];omega) ?_)|(refine apI hK (by simp only[List.length_cons,List.length_nil];omega) ?_)|refine wJ ?_|refine nJ ?_)<;>conv=>whnf))
  refine⟨k+1,?_,by omega,by omega⟩
  rw[ek]
  exact(mA [(9,some 8)])
 ·have:k=t.fs.length:=by omega
  subst this
  rw[List.take_length]
  (conv=>whnf);(repeat'((first|apply bT|apply bF|apply bN|((first|apply bD|apply bEq|apply bNe)<;>intro hh<;>try(exfalso;omega))|refine wJ ?_|refine nJ ?_)<;>conv=>whnf))
  all_goals exact⟨rfl,rfl⟩
theorem q11(t:Tour)(h:Sml t):FnA Try.prog 14 [.agg t.cells] (· = .agg t.cells):=by
 have lr:(t.rn.map Rain.av).length=t.rn.length:=by simp
 have lf:(t.fs.map Fair.av).length=t.fs.length:=by simp
 have hr:=h.rn;have hf:=h.fs
 refine fnA 12 ok14 (by simp) ?_
 (conv=>whnf);(repeat'((first|apply bT|apply bF|apply bN|((first|apply bD|apply bEq|apply bNe)<;>intro hh<;>try(exfalso;omega))|(refine apI (r_one t.rn) (by simp only[lr,List.length_nil];omega) ?_)|refine wJ ?_|refine nJ ?_)<;>conv=>whnf))
 refine loop_i (α :=Nat) (fun k=>[(4, .int .i64 k),(3, .own 2 0),(2, .own 1 0),(1, .own 0 0)]) (fun k=>[.box false t.cells, .box false [.int .i64 0, .int .i64 0, .nils, .int .i64 0, .nils, .int .i64 0, .int .i64 0], .box false [.int .i64 t.ds, .int .i64 t.st, .row 4, .int .i64 t.wr, .row 9, .int .i64 t.rc, .int .i64 t.sk], .fresh, .row false 57 3 (t.rn.map Rain.av), .fresh, .fresh, .fresh, .fresh, .row false 64 2 ((t.fs.take k).map Fair.av)]) (fun k=>k<=t.fs.length) (fun k=>t.fs.length-k) 0 (mA [(9,none)]) (by simp) ?_
 rintro k hk0
 conv=>whnf
 refine bD (fun h5=>?_) (fun h5=>?_)
 ·have hkl:k<t.fs.length:=by omega
  have g1:=getM Fair.av t.fs k hkl
  have la:(t.fs[k].se.map jAV).length=t.fs[k].se.length:=by simp
  have hb:=h.se _ (List.getElem_mem hkl)
  have ek:(t.fs.take (k+1)).map Fair.av=(t.fs.take k).map Fair.av++[t.fs[k].av]:=by rw[List.take_succ_eq_append_getElem hkl,List.map_append];rfl
  have lk:((t.fs.take k).map Fair.av).length<=k:=by simp;omega
  have hK:∀e∈[t.fs[k].av],e.length=2/\e.all AV.one=true:=by simp[Fair.av,AV.one]
  (conv=>whnf);(repeat'((first|apply bT|apply bF|apply bN|((first|apply bD|apply bEq|apply bNe)<;>intro hh<;>try(exfalso;omega))|refine iaJ g1 ?_|(refine apI (j_one t.fs[k].se) (by simp only[la,List.length_nil];omega) ?_)|(refine apI hK (by simp only[List.length_cons,List.length_nil];omega) ?_)|refine wJ ?_|refine nJ ?_)<;>conv=>whnf))
  refine⟨k+1,?_,by omega,by omega⟩
  rw[ek]
  exact(mA [(9,some 8)])
 ·have:k=t.fs.length:=by omega
  subst this
  rw[List.take_length]
  (conv=>whnf);(repeat'((first|apply bT|apply bF|apply bN|((first|apply bD|apply bEq|apply bNe)<;>intro hh<;>try(exfalso;omega))|refine wJ ?_|refine nJ ?_)<;>conv=>whnf))
  all_goals rfl
def RteOk(t:Tour)(r:List Int)(e:Int):Prop:=e=t.err true/\if t.err true=0 then isRte t r=true/\(takS t r).1=best t else r=[]
structure Prg:Prop where
 check:∀t,Sml t->FnA Try.prog 15 [.agg t.cells] (· = .int .i64 (if t.ok=true then 0 else 110))
 few:∀t,Sml t->FnA Try.prog 17 [.agg t.cells] (· = .tup [.int .i64 (if t.ok=true then fewest t else 0), .int .i64 (if t.ok=true then 0 else 110)])
 many:∀t,Sml t->FnA Try.prog 19 [.agg t.cells] (· = .tup [.int .i64 (if t.err true=0 then(truths t).length else 0), .int .i64 (t.err true)])
 levels:∀t day,Sml t->FnA Try.prog 21 [.agg t.cells, .int .i64 day] (· = .tup [.isl ((if t.err (decide (0<=day/\day<=t.ds-1))=0 then lvl t day else []).map jAV), .int .i64 (t.err (decide (0<=day/\day<=t.ds-1)))])
 right:∀t rain,Sml t->FnA Try.prog 23 [.agg t.cells, .int .i64 rain] (· = .tup [.int .i64 (if t.err (decide (0<=rain/\rain<=(t.rn.length:Int)-1))=0 then rgtV t (t.rn.getD rain.toNat ⟨0,0,0⟩) else 0), .int .i64 (t.err (decide (0<=rain/\rain<=(t.rn.length:Int)-1)))])
 takes:∀t r,Sml t->r.length<=100->FnA Try.prog 27 [.agg t.cells, .isl (r.map jAV)] (· = spS t (t.err (isRte t r)) (takS t r))
 left:∀t r,Sml t->r.length<=100->FnA Try.prog 29 [.agg t.cells, .isl (r.map jAV)] (· = spS t (t.err (isRte t r)) (lefS t r))
 best:∀t,Sml t->FnA Try.prog 31 [.agg t.cells] (· = .tup [.int .i64 (if t.err true=0 then Go.Proofs.best t else 0), .int .i64 (t.err true)])
 hopes:∀t,Sml t->FnA Try.prog 33 [.agg t.cells] (· = .tup [.int .i64 (if t.err true=0 then Go.Proofs.hopes t else 0), .int .i64 (t.err true)])
 route:∀t,Sml t->FnA Try.prog 35 [.agg t.cells] (fun v=>∃(r:List Int) (e:Int),v = .tup [.isl (r.map jAV), .int .i64 e]/\RteOk t r e)
theorem exT_sml:Sml exT:=⟨by decide,by decide,by decide⟩
theorem exT_err{b:Bool}(h:b=true):exT.err b=0:=err_zero.2 ⟨ok_iff.1 exT_ok,h,fun e=>by have:=exT_truths;rw[e]at this;simp at this⟩
theorem q10(P:Prg):FnA Try.prog 13 [] (· = .bool true):=by
 have e0:=q42
 have e1:=P.many exT exT_sml
 have e2:=P.takes exT [1,1,2] exT_sml (by decide)
 have e3:=P.best exT exT_sml
 have e4:=P.levels exT 2 exT_sml
 rw[exT_err rfl,if_pos rfl,exT_truths]at e1
 rw[exT_err exT_rte,exT_tak,spS,if_pos rfl]at e2
 rw[exT_err rfl,if_pos rfl,exT_best]at e3
 rw[exT_err (by decide),if_pos rfl,exT_lvl]at e4
 have e5:=q22 [0,3] [0,3] (by decide) (by decide)
 rw[decide_eq_true rfl]at e5
 refine fnA 8 ok13 (by simp) ?_
 (conv=>whnf);(repeat'((first|apply bT|apply bF|apply bN|((first|apply bD|apply bEq|apply bNe)<;>intro hh<;>try(exfalso;omega))|refine e0.zq rfl rfl ?_|refine e1.cq rfl rfl ?_|refine e2.cq rfl rfl ?_|refine e2.lq rfl rfl ?_|refine e3.cq rfl rfl ?_|refine e4.zq rfl rfl ?_|refine e5.cq rfl rfl ?_|refine e5.lq rfl rfl ?_|refine wJ ?_|refine nJ ?_)<;>conv=>whnf))
 all_goals rfl
def Tour.far(t:Tour):Bool:=decide (t.rn.length>40\/t.fs.length>20)||(t.fs.any (fun f=>decide (f.se.length>20))||(t.ok&&decide (t.ds>4\/t.fs.length>3)))
theorem far_no{t:Tour}(h:t.far=false):Sml t/\(t.ok=true->t.ds<=4/\t.fs.length<=3):=by
 simp only[Tour.far,Bool.or_eq_false_iff,decide_eq_false_iff_not,List.any_eq_false,decide_eq_true_eq]at h
 obtain⟨h1,h2,h3⟩:=h
 refine⟨⟨by omega,by omega,fun f hf=>by have:=h2 f hf;omega⟩,fun ho=>?_⟩
 rw[ho,Bool.true_and,decide_eq_false_iff_not]at h3
 omega
theorem q9(t:Tour):FnA Try.prog 12 [.agg t.cells] (· = .bool t.far):=by
 have lr:(t.rn.map Rain.av).length=t.rn.length:=by simp
 have lf:(t.fs.map Fair.av).length=t.fs.length:=by simp
 unfold Tour.far
 refine fnA 1 ok12 (by simp) ?_
 by_cases h1:t.rn.length>40\/t.fs.length>20
 ·rw[decide_eq_true h1]
  (conv=>whnf);(repeat'((first|apply bT|apply bF|apply bN|((first|apply bD|apply bEq|apply bNe)<;>intro hh<;>try(exfalso;omega))|refine wJ ?_|refine nJ ?_)<;>conv=>whnf))
  all_goals rfl
 rw[decide_eq_false h1,Bool.false_or]
 (conv=>whnf);(repeat'((first|apply bT|apply bF|apply bN|((first|apply bD|apply bEq|apply bNe)<;>intro hh<;>try(exfalso;omega))|refine wJ ?_|refine nJ ?_)<;>conv=>whnf))
 refine loop_i (α :=Nat) (fun k=>[(3, .int .i64 k),(1, .own 0 0)]) (fun k=>[.box false t.cells]) (fun k=>k<=t.fs.length/\∀f∈t.fs.take k,decide (f.se.length>20)=false) (fun k=>t.fs.length-k) 0 mI ⟨by simp,by simp⟩ ?_
 rintro k ⟨h2,h3⟩
 conv=>whnf
 refine bD (fun h4=>?_) (fun h4=>?_)
 ·have hk:k<t.fs.length:=by omega
  have g1:=getM Fair.av t.fs k hk
  have lS:(t.fs[k].se.map jAV).length=t.fs[k].se.length:=by simp
  by_cases h5:t.fs[k].se.length>20
  ·rw[show t.fs.any (fun f=>decide (f.se.length>20))=true from List.any_eq_true.2 ⟨_,List.getElem_mem hk,decide_eq_true h5⟩,Bool.true_or]
   (conv=>whnf);(repeat'((first|apply bT|apply bF|apply bN|((first|apply bD|apply bEq|apply bNe)<;>intro hh<;>try(exfalso;omega))|refine iaJ g1 ?_|refine wJ ?_|refine nJ ?_)<;>conv=>whnf))
   all_goals rfl
  ·(conv=>whnf);(repeat'((first|apply bT|apply bF|apply bN|((first|apply bD|apply bEq|apply bNe)<;>intro hh<;>try(exfalso;omega))|refine iaJ g1 ?_|refine wJ ?_|refine nJ ?_)<;>conv=>whnf))
   exact⟨k+1,mI,⟨by omega,take_none hk h3 (decide_eq_false h5)⟩,by omega⟩
 have:k=t.fs.length:=by omega
 subst this
 rw[List.take_length]at h3
 rw[show t.fs.any (fun f=>decide (f.se.length>20))=false from List.any_eq_false.2 fun f hf=>by rw[h3 f hf];simp,Bool.false_or]
 have e1:=q13 t
 cases ho:t.ok
 ·rw[if_neg (by rw[ho];simp)]at e1
  (conv=>whnf);(repeat'((first|apply bT|apply bF|apply bN|((first|apply bD|apply bEq|apply bNe)<;>intro hh<;>try(exfalso;omega))|refine e1.cq rfl rfl ?_|refine wJ ?_|refine nJ ?_)<;>conv=>whnf))
  all_goals rfl
 ·rw[if_pos ho]at e1
  (conv=>whnf);(repeat'((first|apply bT|apply bF|apply bN|((first|apply bD|apply bEq|apply bNe)<;>intro hh<;>try(exfalso;omega))|refine e1.cq rfl rfl ?_|refine wJ ?_|refine nJ ?_)<;>conv=>whnf))
  all_goals first|rfl|exact congrArg AV.bool (decide_eq_decide.2 (by omega))|exact congrArg AV.bool (decide_eq_true (by omega)).symm|exact congrArg AV.bool (decide_eq_false (by omega)).symm
def Tour.rdy(t:Tour):Bool := !t.far&&t.ok
theorem rdy_of{t:Tour}(h:t.rdy=true):Sml t/\TOk t/\t.ds<=4/\t.fs.length<=3/\t.far=false:=by
 rw[Tour.rdy,Bool.and_eq_true,Bool.not_eq_true']at h
 obtain⟨a,b⟩:=far_no h.1
 exact⟨a,ok_iff.1 h.2,(b h.2).1,(b h.2).2,h.1⟩
theorem q33(t:Tour):FnA Try.prog 36 [.agg t.cells] (· = .bool t.rdy):=by
 have e1:=q9 t
 have e2:=q13 t
 unfold Tour.rdy
 refine fnA 1 ok36 (by simp) ?_
 cases hf:t.far<;>rw[hf]at e1
 ·cases ho:t.ok
  ·rw[if_neg (by rw[ho];simp)]at e2
   (conv=>whnf);(repeat'((first|apply bT|apply bF|apply bN|((first|apply bD|apply bEq|apply bNe)<;>intro hh<;>try(exfalso;omega))|refine e1.cq rfl rfl ?_|refine e2.cq rfl rfl ?_|refine wJ ?_|refine nJ ?_)<;>conv=>whnf))
   all_goals rfl
  ·rw[if_pos ho]at e2
   (conv=>whnf);(repeat'((first|apply bT|apply bF|apply bN|((first|apply bD|apply bEq|apply bNe)<;>intro hh<;>try(exfalso;omega))|refine e1.cq rfl rfl ?_|refine e2.cq rfl rfl ?_|refine wJ ?_|refine nJ ?_)<;>conv=>whnf))
   all_goals rfl
 ·(conv=>whnf);(repeat'((first|apply bT|apply bF|apply bN|((first|apply bD|apply bEq|apply bNe)<;>intro hh<;>try(exfalso;omega))|refine e1.cq rfl rfl ?_|refine wJ ?_|refine nJ ?_)<;>conv=>whnf))
  all_goals rfl
theorem q34(t:Tour)(h:TOk t)(r l:List Int)(hr:r.length<=9223372036854775807)(hl:l.length<=9223372036854775807):FnA Try.prog 37 [.agg t.cells, .agg [.isl (r.map jAV), .isl (l.map jAV)]] (· = .bool (isRte t r&&isTr t l)):=by
 have e1:=q39 t h r hr
 have e2:=q51 t h l hl
 refine fnA 2 ok37 (by simp) ?_
 cases hb:isRte t r<;>rw[hb]at e1
 ·(conv=>whnf);(repeat'((first|apply bT|apply bF|apply bN|((first|apply bD|apply bEq|apply bNe)<;>intro hh<;>try(exfalso;omega))|refine e1.cq rfl rfl ?_|refine wJ ?_|refine nJ ?_)<;>conv=>whnf))
  all_goals rfl
 ·(conv=>whnf);(repeat'((first|apply bT|apply bF|apply bN|((first|apply bD|apply bEq|apply bNe)<;>intro hh<;>try(exfalso;omega))|refine e1.cq rfl rfl ?_|refine e2.cq rfl rfl ?_|refine wJ ?_|refine nJ ?_)<;>conv=>whnf))
  all_goals rfl
theorem bKT{A B:Prop}{b:Bool}(hb:b=true)(hA:A):BrB b A B:=bS (fun _=>hA) (fun h=>absurd h (by simp[hb]))
theorem bKF{A B:Prop}{b:Bool}(hb:b=false)(hB:B):BrB b A B:=bS (fun h=>absurd h (by simp[hb])) (fun _=>hB)
theorem q23(t:Tour)(h:Sml t):FnA Try.prog 26 [.agg t.cells, .agg t.cells] (· = .bool true):=by
 have lr:(t.rn.map Rain.av).length=t.rn.length:=by simp
 have lf:(t.fs.map Fair.av).length=t.fs.length:=by simp
 have hr:=h.rn;have hf:=h.fs
 refine fnA 2 ok26 (by simp) ?_
 (conv=>whnf);(repeat'((first|apply bT|apply bF|apply bN|((first|apply bD|apply bEq|apply bNe)<;>intro hh<;>try(exfalso;omega))|refine wJ ?_|refine nJ ?_)<;>conv=>whnf))
 refine loop_i (α :=Nat) (fun k=>[(5, .int .i64 k),(3, .own 1 0),(2, .own 0 0)]) (fun k=>[.box false t.cells, .box false t.cells]) (fun k=>k<=t.rn.length) (fun k=>t.rn.length-k) 0 mI (by simp) ?_
 rintro k h1
 conv=>whnf
 refine bD (fun h3=>?_) (fun h3=>?_)
 ·have hk:k<t.rn.length:=by omega
  have g1:=getM Rain.av t.rn k hk
  (conv=>whnf);(repeat'((first|apply bT|apply bF|apply bN|((first|apply bD|apply bEq|apply bNe)<;>intro hh<;>try(exfalso;omega))|refine iaJ g1 ?_|(refine bKT ?_ ?_;(focus (simp;done)))|(refine bKF ?_ ?_;(focus (simp;done)))|refine wJ ?_|refine nJ ?_)<;>conv=>whnf))
  exact⟨k+1,mI,by omega,by omega⟩
 (conv=>whnf);(repeat'((first|apply bT|apply bF|apply bN|((first|apply bD|apply bEq|apply bNe)<;>intro hh<;>try(exfalso;omega))|refine wJ ?_|refine nJ ?_)<;>conv=>whnf))
 refine loop_i (α :=Nat) (fun k=>[(6, .int .i64 k),(3, .own 1 0),(2, .own 0 0)]) (fun k=>[.box false t.cells, .box false t.cells]) (fun k=>k<=t.fs.length) (fun k=>t.fs.length-k) 0 mI (by simp) ?_
 rintro k h1
 conv=>whnf
 refine bD (fun h3=>?_) (fun h3=>?_)
 ·have hk:k<t.fs.length:=by omega
  have g1:=getM Fair.av t.fs k hk
  have hse:=h.se _ (List.getElem_mem hk)
  have e1:=q22 t.fs[k].se t.fs[k].se (by omega) (by omega)
  rw[decide_eq_true rfl]at e1
  (conv=>whnf);(repeat'((first|apply bT|apply bF|apply bN|((first|apply bD|apply bEq|apply bNe)<;>intro hh<;>try(exfalso;omega))|refine iaJ g1 ?_|refine e1.cq rfl rfl ?_|refine wJ ?_|refine nJ ?_)<;>conv=>whnf))
  exact⟨k+1,mI,by omega,by omega⟩
 (conv=>whnf);(repeat'((first|apply bT|apply bF|apply bN|((first|apply bD|apply bEq|apply bNe)<;>intro hh<;>try(exfalso;omega))|refine wJ ?_|refine nJ ?_)<;>conv=>whnf))
 all_goals rfl
theorem k3(P:Prg)(t:Tour)(day rain:Int):FnA Try.prog 3 [.agg t.cells, .agg [.int .i64 day, .int .i64 rain]] (· = .bool true):=by
 have e0:=q10 P
 have e1:=q9 t
 refine fnA 8 ok3 (by simp) ?_
 cases hf:t.far<;>rw[hf]at e1
 ·obtain⟨hs,_⟩:=far_no hf
  have e2:=q11 t hs
  have a1:=P.check t hs
  have a2:=q13 t
  have b1:=P.few t hs
  have b2:=q15 t
  have c1:=P.many t hs
  have c2:=q17 t
  have d1:=P.levels t day hs
  have d2:=q19 t day
  have f1:=P.right t rain hs
  have f2:=q21 t rain (by have:=hs.rn;omega)
  have g1:=q23 t hs
  have hl:(if t.err (decide (0<=day/\day<=t.ds-1))=0 then lvl t day else []).length<=4:=by
   split
   ·exact lvl_len t day
   ·simp
  generalize (if t.err (decide (0<=day/\day<=t.ds-1))=0 then lvl t day else [])=L at *
  generalize t.err (decide (0<=day/\day<=t.ds-1))=e at *
  generalize t.err (decide (0<=rain/\rain<=(t.rn.length:Int)-1))=e' at *
  generalize (if e'=0 then rgtV t (t.rn.getD rain.toNat ⟨0,0,0⟩) else 0)=v at *
  generalize (if t.ok=true then fewest t else 0)=fw at *
  generalize (if t.ok=true then(0:Int) else 110)=oe at *
  generalize (if t.err true=0 then((truths t).length:Int) else 0)=mn at *
  have h1:=q22 L L (by omega) (by omega)
  rw[decide_eq_true rfl]at h1
  (conv=>whnf);(repeat'((first|apply bT|apply bF|apply bN|((first|apply bD|apply bEq|apply bNe)<;>intro hh<;>try(exfalso;omega))|refine e1.cq rfl rfl ?_|refine e2.zq rfl rfl ?_|refine a1.cq rfl rfl ?_|refine a2.cq rfl rfl ?_|refine b1.cq rfl rfl ?_|refine b2.cq rfl rfl ?_|refine c1.cq rfl rfl ?_|refine c2.cq rfl rfl ?_|refine d1.zq rfl rfl ?_|refine d2.zq rfl rfl ?_|refine f1.cq rfl rfl ?_|refine f2.cq rfl rfl ?_|refine h1.cq rfl rfl ?_|refine g1.cq rfl rfl ?_|refine g1.lq rfl rfl ?_|refine e0.cq rfl rfl ?_|refine wJ ?_|refine nJ ?_)<;>conv=>whnf))
  all_goals rfl
 ·(conv=>whnf);(repeat'((first|apply bT|apply bF|apply bN|((first|apply bD|apply bEq|apply bNe)<;>intro hh<;>try(exfalso;omega))|refine e1.cq rfl rfl ?_|refine e0.cq rfl rfl ?_|refine wJ ?_|refine nJ ?_)<;>conv=>whnf))
  all_goals rfl
theorem k4(P:Prg)(t:Tour)(r:List Int):FnA Try.prog 4 [.agg t.cells, .isl (r.map jAV)] (· = .bool true):=by
 have e0:=q10 P
 have e1:=q9 t
 have lR:(r.map jAV).length=r.length:=by simp
 refine fnA 14 ok4 (by simp) ?_
 cases hf:t.far<;>rw[hf]at e1
 ·by_cases hr:r.length>20
  ·(conv=>whnf);(repeat'((first|apply bT|apply bF|apply bN|((first|apply bD|apply bEq|apply bNe)<;>intro hh<;>try(exfalso;omega))|refine e1.cq rfl rfl ?_|refine e0.cq rfl rfl ?_|refine wJ ?_|refine nJ ?_)<;>conv=>whnf))
   all_goals rfl
  obtain⟨hs,_⟩:=far_no hf
  have hfs:=hs.fs
  have e2:=q11 t hs
  have a1:=P.takes t r hs (by omega)
  have a2:=q25 t (by omega) r (by omega)
  have b1:=P.left t r hs (by omega)
  have b2:=q27 t (by omega) r (by omega)
  generalize t.err (isRte t r)=e at *
  unfold spS at a1 a2 b1 b2
  generalize (if e=0 then takS t r else noS)=s at *
  generalize (if e=0 then lefS t r else noS)=s' at *
  (conv=>whnf);(repeat'((first|apply bT|apply bF|apply bN|((first|apply bD|apply bEq|apply bNe)<;>intro hh<;>try(exfalso;omega))|refine e1.cq rfl rfl ?_|refine e2.zq rfl rfl ?_|(refine apI (j_one r) (by simp only[lR,List.length_nil];omega) ?_)|refine a1.lq rfl rfl ?_|refine a1.cq rfl rfl ?_|refine a2.cq rfl rfl ?_|refine b1.lq rfl rfl ?_|refine b1.cq rfl rfl ?_|refine b2.cq rfl rfl ?_|refine e0.cq rfl rfl ?_|(refine bKT ?_ ?_;(focus (simp;done)))|refine wJ ?_|refine nJ ?_)<;>conv=>whnf))
  all_goals rfl
 ·(conv=>whnf);(repeat'((first|apply bT|apply bF|apply bN|((first|apply bD|apply bEq|apply bNe)<;>intro hh<;>try(exfalso;omega))|refine e1.cq rfl rfl ?_|refine e0.cq rfl rfl ?_|refine wJ ?_|refine nJ ?_)<;>conv=>whnf))
  all_goals rfl
theorem k5(P:Prg)(t:Tour):FnA Try.prog 5 [.agg t.cells] (· = .bool true):=by
 have e0:=q10 P
 have e1:=q9 t
 refine fnA 8 ok5 (by simp) ?_
 cases hf:t.far<;>rw[hf]at e1
 ·obtain⟨hs,hk⟩:=far_no hf
  have hfs:=hs.fs
  have e2:=q11 t hs
  have a1:=P.best t hs
  have a2:=q29 t
  have b1:=P.hopes t hs
  have b2:=q31 t
  have c1:=P.route t hs
  by_cases h0:t.err true=0
  ·obtain⟨h,_,_⟩:=err_ok h0
   have hds:=(hk (ok_iff.2 h)).1
   rw[h0,if_pos rfl]at a1 a2 b1 b2
   (conv=>whnf);(repeat'((first|apply bT|apply bF|apply bN|((first|apply bD|apply bEq|apply bNe)<;>intro hh<;>try(exfalso;omega))|refine e1.cq rfl rfl ?_|refine e2.zq rfl rfl ?_|refine a1.cq rfl rfl ?_|refine a2.cq rfl rfl ?_|refine b1.cq rfl rfl ?_|refine b2.cq rfl rfl ?_|refine wJ ?_|refine nJ ?_)<;>conv=>whnf))
   refine c1.callzq rfl rfl (fun v hv=>?_)
   obtain⟨r,e,rfl,he,hr⟩:=hv
   rw[if_pos h0]at hr
   rw[h0]at he
   subst he
   have lR:(r.map jAV).length=r.length:=by simp
   have hrl:=row_len hr.1
   have d1:=q25 t (by omega) r (by omega)
   rw[hr.1,h0,spS,if_pos rfl,hr.2]at d1
   (conv=>whnf);(repeat'((first|apply bT|apply bF|apply bN|((first|apply bD|apply bEq|apply bNe)<;>intro hh<;>try(exfalso;omega))|refine d1.cq rfl rfl ?_|refine e0.cq rfl rfl ?_|refine wJ ?_|refine nJ ?_)<;>conv=>whnf))
   all_goals rfl
  ·rw[if_neg h0]at a1 a2 b1 b2
   generalize hE:t.err true=e at *
   (conv=>whnf);(repeat'((first|apply bT|apply bF|apply bN|((first|apply bD|apply bEq|apply bNe)<;>intro hh<;>try(exfalso;omega))|refine e1.cq rfl rfl ?_|refine e2.zq rfl rfl ?_|refine a1.cq rfl rfl ?_|refine a2.cq rfl rfl ?_|refine b1.cq rfl rfl ?_|refine b2.cq rfl rfl ?_|refine wJ ?_|refine nJ ?_)<;>conv=>whnf))
   refine c1.callzq rfl rfl (fun v hv=>?_)
   obtain⟨r,e',rfl,he,hr⟩:=hv
   rw[hE,if_neg h0]at hr
   rw[hE]at he
   subst he;subst hr
   (conv=>whnf);(repeat'((first|apply bT|apply bF|apply bN|((first|apply bD|apply bEq|apply bNe)<;>intro hh<;>try(exfalso;omega))|refine e0.cq rfl rfl ?_|refine wJ ?_|refine nJ ?_)<;>conv=>whnf))
   all_goals rfl
 ·(conv=>whnf);(repeat'((first|apply bT|apply bF|apply bN|((first|apply bD|apply bEq|apply bNe)<;>intro hh<;>try(exfalso;omega))|refine e1.cq rfl rfl ?_|refine e0.cq rfl rfl ?_|refine wJ ?_|refine nJ ?_)<;>conv=>whnf))
  all_goals rfl
theorem lvl_has{t:Tour}(h:TOk t){l:List Int}(hl:l∈truths t){day:Int}(h0:0<=day)(h1:day<t.ds):l.getD day.toNat 0∈lvl t day:=by
 have hq:=(mem_truths h).1 hl
 rw[isTr,isRow,Bool.and_eq_true,Bool.and_eq_true,decide_eq_true_eq,decide_eq_true_eq]at hq
 have hp:=(hq.1.1 day.toNat (by have:=hq.1.2;omega)).1
 rw[lvl,mem_lvK]
 exact⟨(l.getD day.toNat 0).toNat,by omega,by omega,List.mem_map.2 ⟨l,hl,rfl⟩⟩
theorem rgt_ok{t:Tour}{x:Rain}{l:List Int}(hl:l∈truths t):(rgtV t x=1/\isRt x l=true)\/(rgtV t x=2/\isRt x l=false)\/rgtV t x=3:=by
 rw[rgtV]
 by_cases h1:(truths t).countP (isRt x)=(truths t).length
 ·rw[if_pos h1];exact .inl ⟨rfl,List.countP_eq_length.1 h1 l hl⟩
 ·rw[if_neg h1]
  by_cases h2:(truths t).countP (isRt x)=0
  ·rw[if_pos h2];exact .inr (.inl ⟨rfl,by simpa using List.countP_eq_zero.1 h2 l hl⟩)
  ·rw[if_neg h2];exact .inr (.inr rfl)
theorem tak_in{t:Tour}{l:List Int}(hl:l∈truths t)(r:List Int):((takS t r).1<=tak t r l/\tak t r l<=(takS t r).2)/\(lefS t r).1<=lef t r l/\lef t r l<=(lefS t r).2:=by
 have hne:=List.ne_nil_of_mem hl
 have a:=spn_spec (x:=(truths t).map (tak t r)) (by simpa using hne)
 have b:=spn_spec (x:=(truths t).map (lef t r)) (by simpa using hne)
 exact⟨a.2 _ (List.mem_map_of_mem (f:=tak t r) hl),b.2 _ (List.mem_map_of_mem (f:=lef t r) hl)⟩
theorem k6(P:Prg)(t:Tour)(r l:List Int)(day rain:Int)(hr:r.length<=9223372036854775807)(hl:l.length<=9223372036854775807):FnA Try.prog 6 [.agg t.cells, .agg [.isl (r.map jAV), .isl (l.map jAV)], .agg [.int .i64 day, .int .i64 rain]] (· = .bool true):=by
 have e0:=q10 P
 have e1:=q33 t
 have lR:(t.rn.map Rain.av).length=t.rn.length:=by simp
 refine fnA 10 ok6 (by simp) ?_
 cases hy:t.rdy<;>rw[hy]at e1
 ·(conv=>whnf);(repeat'((first|apply bT|apply bF|apply bN|((first|apply bD|apply bEq|apply bNe)<;>intro hh<;>try(exfalso;omega))|refine e1.cq rfl rfl ?_|refine e0.cq rfl rfl ?_|refine wJ ?_|refine nJ ?_)<;>conv=>whnf))
  all_goals rfl
 obtain⟨hs,h,hds,hfs,_⟩:=rdy_of hy
 have e2:=q34 t h r l hr hl
 cases hx:(isRte t r&&isTr t l)<;>rw[hx]at e2
 ·(conv=>whnf);(repeat'((first|apply bT|apply bF|apply bN|((first|apply bD|apply bEq|apply bNe)<;>intro hh<;>try(exfalso;omega))|refine e1.cq rfl rfl ?_|refine e2.cq rfl rfl ?_|refine e0.cq rfl rfl ?_|refine wJ ?_|refine nJ ?_)<;>conv=>whnf))
  all_goals rfl
 rw[Bool.and_eq_true]at hx
 obtain⟨hrt,htr⟩:=hx
 by_cases hd:0<=day/\day<t.ds
 case neg=>
  (conv=>whnf);(repeat'((first|apply bT|apply bF|apply bN|((first|apply bD|apply bEq|apply bNe)<;>intro hh<;>try(exfalso;omega))|refine e1.cq rfl rfl ?_|refine e2.cq rfl rfl ?_|refine e0.cq rfl rfl ?_|refine wJ ?_|refine nJ ?_)<;>conv=>whnf))
  all_goals rfl
 have hm:=(mem_truths h).2 htr
 have hne:=List.ne_nil_of_mem hm
 have hrl:=row_len hrt
 have hll:=tr_len h l hm
 have a1:=P.levels t day hs
 have a2:=P.takes t r hs (by omega)
 have a3:=P.left t r hs (by omega)
 rw[err_zero.2 ⟨h,decide_eq_true (by omega),hne⟩,if_pos rfl]at a1
 rw[err_zero.2 ⟨h,hrt,hne⟩,spS,if_pos rfl]at a2 a3
 have a4:=q35 t h r l hrt htr
 have hlv:=lvl_len t day
 have lV:((lvl t day).map jAV).length=(lvl t day).length:=by simp
 have a5:=q36 (lvl t day) (l.getD day.toNat 0) (by omega)
 rw[decide_eq_true (lvl_has h hm hd.1 hd.2)]at a5
 have g1:=getJ l day.toNat (by omega)
 have lL:(l.map jAV).length=l.length:=by simp
 obtain⟨b1,b2⟩:=tak_in hm r
 have a6:=q37 (tak t r l) (takS t r).1 (takS t r).2
 rw[decide_eq_true b1]at a6
 have a7:=q37 (lef t r l) (lefS t r).1 (lefS t r).2
 rw[decide_eq_true b2]at a7
 by_cases hrn:0<=rain/\rain<t.rn.length
 case neg=>
  (conv=>whnf);(repeat'((first|apply bT|apply bF|apply bN|((first|apply bD|apply bEq|apply bNe)<;>intro hh<;>try(exfalso;omega))|refine e1.cq rfl rfl ?_|refine e2.cq rfl rfl ?_|refine a1.zq rfl rfl ?_|refine a2.cq rfl rfl ?_|refine a3.cq rfl rfl ?_|refine a4.cq rfl rfl ?_|refine a5.cq rfl rfl ?_|refine iaJ g1 ?_|refine a6.cq rfl rfl ?_|refine a7.cq rfl rfl ?_|refine e0.cq rfl rfl ?_|refine wJ ?_|refine nJ ?_)<;>conv=>whnf))
  all_goals rfl
 have c1:=P.right t rain hs
 rw[err_zero.2 ⟨h,decide_eq_true (by omega),hne⟩,if_pos rfl]at c1
 have hxl:rain.toNat<t.rn.length:=by omega
 have gx:t.rn.getD rain.toNat ⟨0,0,0⟩=t.rn[rain.toNat]:=by rw[List.getD_eq_getElem?_getD,List.getElem?_eq_getElem hxl];rfl
 rw[gx]at c1
 have g2:=getM Rain.av t.rn rain.toNat hxl
 have hok:=h.rn _ (List.getElem_mem hxl)
 have c2:=q38 t.rn[rain.toNat] l hok.1.1 (by omega) (by omega)
 rcases rgt_ok (x:=t.rn[rain.toNat]) hm with⟨v1,v2⟩|⟨v1,v2⟩|v1
 ·rw[v1]at c1;rw[v2]at c2
  (conv=>whnf);(repeat'((first|apply bT|apply bF|apply bN|((first|apply bD|apply bEq|apply bNe)<;>intro hh<;>try(exfalso;omega))|refine e1.cq rfl rfl ?_|refine e2.cq rfl rfl ?_|refine a1.zq rfl rfl ?_|refine a2.cq rfl rfl ?_|refine a3.cq rfl rfl ?_|refine a4.cq rfl rfl ?_|refine a5.cq rfl rfl ?_|refine iaJ g1 ?_|refine iaJ g2 ?_|refine a6.cq rfl rfl ?_|refine a7.cq rfl rfl ?_|refine c1.cq rfl rfl ?_|refine c2.cq rfl rfl ?_|refine e0.cq rfl rfl ?_|refine wJ ?_|refine nJ ?_)<;>conv=>whnf))
  all_goals rfl
 ·rw[v1]at c1;rw[v2]at c2
  (conv=>whnf);(repeat'((first|apply bT|apply bF|apply bN|((first|apply bD|apply bEq|apply bNe)<;>intro hh<;>try(exfalso;omega))|refine e1.cq rfl rfl ?_|refine e2.cq rfl rfl ?_|refine a1.zq rfl rfl ?_|refine a2.cq rfl rfl ?_|refine a3.cq rfl rfl ?_|refine a4.cq rfl rfl ?_|refine a5.cq rfl rfl ?_|refine iaJ g1 ?_|refine iaJ g2 ?_|refine a6.cq rfl rfl ?_|refine a7.cq rfl rfl ?_|refine c1.cq rfl rfl ?_|refine c2.cq rfl rfl ?_|refine e0.cq rfl rfl ?_|refine wJ ?_|refine nJ ?_)<;>conv=>whnf))
  all_goals rfl
 ·rw[v1]at c1
  (conv=>whnf);(repeat'((first|apply bT|apply bF|apply bN|((first|apply bD|apply bEq|apply bNe)<;>intro hh<;>try(exfalso;omega))|refine e1.cq rfl rfl ?_|refine e2.cq rfl rfl ?_|refine a1.zq rfl rfl ?_|refine a2.cq rfl rfl ?_|refine a3.cq rfl rfl ?_|refine a4.cq rfl rfl ?_|refine a5.cq rfl rfl ?_|refine iaJ g1 ?_|refine iaJ g2 ?_|refine a6.cq rfl rfl ?_|refine a7.cq rfl rfl ?_|refine c1.cq rfl rfl ?_|refine c2.cq rfl rfl ?_|refine e0.cq rfl rfl ?_|refine wJ ?_|refine nJ ?_)<;>conv=>whnf))
  all_goals rfl
theorem k7(P:Prg)(t:Tour)(r:List Int):FnA Try.prog 7 [.agg t.cells, .isl (r.map jAV)] (· = .bool true):=by
 have e0:=q10 P
 have e1:=q33 t
 have lR:(r.map jAV).length=r.length:=by simp
 refine fnA 8 ok7 (by simp) ?_
 cases hy:t.rdy<;>rw[hy]at e1
 ·(conv=>whnf);(repeat'((first|apply bT|apply bF|apply bN|((first|apply bD|apply bEq|apply bNe)<;>intro hh<;>try(exfalso;omega))|refine e1.cq rfl rfl ?_|refine e0.cq rfl rfl ?_|refine wJ ?_|refine nJ ?_)<;>conv=>whnf))
  all_goals rfl
 obtain⟨hs,h,hds,hfs,_⟩:=rdy_of hy
 by_cases hr:r.length>20
 ·(conv=>whnf);(repeat'((first|apply bT|apply bF|apply bN|((first|apply bD|apply bEq|apply bNe)<;>intro hh<;>try(exfalso;omega))|refine e1.cq rfl rfl ?_|refine e0.cq rfl rfl ?_|refine wJ ?_|refine nJ ?_)<;>conv=>whnf))
  all_goals rfl
 have e2:=q39 t h r (by omega)
 cases hx:isRte t r<;>rw[hx]at e2
 ·(conv=>whnf);(repeat'((first|apply bT|apply bF|apply bN|((first|apply bD|apply bEq|apply bNe)<;>intro hh<;>try(exfalso;omega))|refine e1.cq rfl rfl ?_|refine e2.cq rfl rfl ?_|refine e0.cq rfl rfl ?_|refine wJ ?_|refine nJ ?_)<;>conv=>whnf))
  all_goals rfl
 have a1:=P.best t hs
 have a2:=P.hopes t hs
 have a3:=P.route t hs
 have a4:=P.takes t r hs (by omega)
 rw[hx]at a4
 by_cases h0:t.err true=0
 ·obtain⟨_,_,hne⟩:=err_ok h0
  rw[h0,if_pos rfl]at a1 a2
  rw[h0,spS,if_pos rfl]at a4
  obtain⟨p1,p2,p3⟩:=proof_ok hne ((mem_routes h).2 hx)
  have k1:=q40 0
  rw[decide_eq_true (.inl rfl)]at k1
  (conv=>whnf);(repeat'((first|apply bT|apply bF|apply bN|((first|apply bD|apply bEq|apply bNe)<;>intro hh<;>try(exfalso;omega))|refine e1.cq rfl rfl ?_|refine e2.cq rfl rfl ?_|refine a1.cq rfl rfl ?_|refine a2.cq rfl rfl ?_|refine wJ ?_|refine nJ ?_)<;>conv=>whnf))
  refine a3.callzq rfl rfl (fun v hv=>?_)
  obtain⟨q,e,rfl,he,hq⟩:=hv
  rw[if_pos h0]at hq
  rw[h0]at he
  subst he
  have lQ:(q.map jAV).length=q.length:=by simp
  have hql:=row_len hq.1
  have b1:=q39 t h q (by omega)
  rw[hq.1]at b1
  have b2:=P.takes t q hs (by omega)
  rw[hq.1,h0,spS,if_pos rfl,hq.2]at b2
  (conv=>whnf);(repeat'((first|apply bT|apply bF|apply bN|((first|apply bD|apply bEq|apply bNe)<;>intro hh<;>try(exfalso;omega))|refine a4.cq rfl rfl ?_|refine k1.cq rfl rfl ?_|refine b1.cq rfl rfl ?_|refine b2.cq rfl rfl ?_|refine e0.cq rfl rfl ?_|refine wJ ?_|refine nJ ?_)<;>conv=>whnf))
  all_goals rfl
 ·rw[if_neg h0]at a1 a2
  rw[spS,if_neg h0]at a4
  have h3:t.err true=3:=by
   rw[ex_none h]at h0⊢
   split
   ·rfl
   ·rename_i c;rw[if_neg c]at h0;exact absurd rfl h0
  have k1:=q40 3
  rw[decide_eq_true (.inr rfl)]at k1
  rw[h3]at a1 a2 a4
  (conv=>whnf);(repeat'((first|apply bT|apply bF|apply bN|((first|apply bD|apply bEq|apply bNe)<;>intro hh<;>try(exfalso;omega))|refine e1.cq rfl rfl ?_|refine e2.cq rfl rfl ?_|refine a1.cq rfl rfl ?_|refine a2.cq rfl rfl ?_|refine wJ ?_|refine nJ ?_)<;>conv=>whnf))
  refine a3.callzq rfl rfl (fun v hv=>?_)
  obtain⟨q,e,rfl,he,hq⟩:=hv
  rw[h3]at he
  subst he
  (conv=>whnf);(repeat'((first|apply bT|apply bF|apply bN|((first|apply bD|apply bEq|apply bNe)<;>intro hh<;>try(exfalso;omega))|refine a4.cq rfl rfl ?_|refine k1.cq rfl rfl ?_|refine e0.cq rfl rfl ?_|refine wJ ?_|refine nJ ?_)<;>conv=>whnf))
  all_goals rfl
theorem q41(P:Prg)(a b:Tour)(r:List Int)(hI:InS a b)(ha:Sml a)(hb:Sml b)(oa:TOk a)(ob:TOk b)(hr:isRte a r=true):FnA Try.prog 44 [.agg a.cells, .agg b.cells, .isl (r.map jAV)] (· = .bool true):=by
 have hrb:isRte b r=true:=by rw[isRte]at hr⊢;rw[<- hI.ds,<- hI.fs,<- hI.rc];exact hr
 have hrl:=row_len hr
 have hd6:=oa.d6;have hd1:=oa.d1
 have hsub:=hI.tr.length_le
 have m1:=P.many a ha
 have m2:=P.many b hb
 have k0:=q40 0
 rw[decide_eq_true (.inl rfl)]at k0
 have k3:=q40 3
 rw[decide_eq_true (.inr rfl)]at k3
 have la:=truths_len oa;have lb:=truths_len ob
 refine fnA 10 ok44 (by simp) ?_
 by_cases h0:(truths a).length=0
 ·rw[ex_none oa,if_pos h0,if_neg (by decide)]at m1
  by_cases h1:(truths b).length=0
  ·rw[ex_none ob,if_pos h1,if_neg (by decide)]at m2
   (conv=>whnf);(repeat'((first|apply bT|apply bF|apply bN|((first|apply bD|apply bEq|apply bNe)<;>intro hh<;>try(exfalso;omega))|refine m1.cq rfl rfl ?_|refine m2.cq rfl rfl ?_|refine k3.cq rfl rfl ?_|refine wJ ?_|refine nJ ?_)<;>conv=>whnf))
   all_goals rfl
  ·rw[ex_none ob,if_neg h1,if_pos rfl]at m2
   (conv=>whnf);(repeat'((first|apply bT|apply bF|apply bN|((first|apply bD|apply bEq|apply bNe)<;>intro hh<;>try(exfalso;omega))|refine m1.cq rfl rfl ?_|refine m2.cq rfl rfl ?_|refine k3.cq rfl rfl ?_|refine k0.cq rfl rfl ?_|refine wJ ?_|refine nJ ?_)<;>conv=>whnf))
   all_goals rfl
 have h1:(truths b).length≠0:=by omega
 have na:truths a≠[]:=fun e=>h0 (by rw[e];rfl)
 have nb:truths b≠[]:=fun e=>h1 (by rw[e];rfl)
 rw[ex_none oa,if_neg h0,if_pos rfl]at m1
 rw[ex_none ob,if_neg h1,if_pos rfl]at m2
 have hda:∀ {d:Int},0<=d/\d<=a.ds-1->a.err (decide (0<=d/\d<=a.ds-1))=0:=fun h=>err_zero.2 ⟨oa,decide_eq_true h,na⟩
 have hdb:∀ {d:Int},0<=d/\d<=b.ds-1->b.err (decide (0<=d/\d<=b.ds-1))=0:=fun h=>err_zero.2 ⟨ob,decide_eq_true h,nb⟩
 have hds:=hI.ds
 have t1:=P.takes a r ha (by omega)
 have t2:=P.takes b r hb (by omega)
 have s1:=P.left a r ha (by omega)
 have s2:=P.left b r hb (by omega)
 have b1:=P.best a ha
 have b2:=P.best b hb
 rw[err_zero.2 ⟨oa,hr,na⟩,spS,if_pos rfl]at t1 s1
 rw[err_zero.2 ⟨ob,hrb,nb⟩,spS,if_pos rfl]at t2 s2
 rw[err_zero.2 ⟨oa,rfl,na⟩,if_pos rfl]at b1
 rw[err_zero.2 ⟨ob,rfl,nb⟩,if_pos rfl]at b2
 have w1:=hI.takS na r
 have w2:=hI.lefS na r
 have w3:=hI.best na
 (conv=>whnf);(repeat'((first|apply bT|apply bF|apply bN|((first|apply bD|apply bEq|apply bNe)<;>intro hh<;>try(exfalso;omega))|refine m1.cq rfl rfl ?_|refine m2.cq rfl rfl ?_|refine k0.cq rfl rfl ?_|refine wJ ?_|refine nJ ?_)<;>conv=>whnf))
 refine loop_i (α :=Nat) (fun k=>[(11, .int .i64 k),(4, .own 1 0),(3, .own 0 0),(2, .isl (r.map jAV))]) (fun k=>[.box false a.cells, .box false b.cells, .fresh, .fresh, .fresh, .fresh, .fresh, .fresh, .fresh, .fresh]) (fun k=>k<=a.ds.toNat) (fun k=>a.ds.toNat-k) 0 mI (by simp) ?_
 rintro k h2
 conv=>whnf
 refine bD (fun h3=>?_) (fun h3=>?_)
 ·have l1:=P.levels a (k:Int) ha
  have l2:=P.levels b (k:Int) hb
  rw[hda (by omega),if_pos rfl]at l1
  rw[hdb (by omega),if_pos rfl]at l2
  have hs:=hI.lvl (k:Int)
  have hsl:=hs.length_le
  have hss:=fun x hx=>hs.subset (a:=x) hx
  have q1:=lvl_len a (k:Int);have q2:=lvl_len b (k:Int)
  generalize lvl a (k:Int)=A at *
  generalize lvl b (k:Int)=B at *
  have lA:(A.map jAV).length=A.length:=by simp
  have lB:(B.map jAV).length=B.length:=by simp
  (conv=>whnf);(repeat'((first|apply bT|apply bF|apply bN|((first|apply bD|apply bEq|apply bNe)<;>intro hh<;>try(exfalso;omega))|refine l1.zq rfl rfl ?_|refine l2.zq rfl rfl ?_|refine wJ ?_|refine nJ ?_)<;>conv=>whnf))
  refine loop_i (α :=Nat) (fun j=>[(16, .int .i64 j),(14, .isl (B.map jAV)),(12, .isl (A.map jAV)),(11, .int .i64 k),(4, .own 1 0),(3, .own 0 0),(2, .isl (r.map jAV))]) (fun j=>[.box false a.cells, .box false b.cells, .fresh, .fresh, .fresh, .fresh, .fresh, .fresh, .fresh, .fresh]) (fun j=>j<=A.length) (fun j=>A.length-j) 0 mI (by simp) ?_
  rintro j h4
  conv=>whnf
  refine bD (fun h5=>?_) (fun h5=>?_)
  ·have hj:j<A.length:=by omega
   have g1:=getM jAV A j hj
   have c1:=q36 B A[j] (by omega)
   rw[decide_eq_true (hss _ (List.getElem_mem hj))]at c1
   (conv=>whnf);(repeat'((first|apply bT|apply bF|apply bN|((first|apply bD|apply bEq|apply bNe)<;>intro hh<;>try(exfalso;omega))|refine iaJ g1 ?_|refine c1.cq rfl rfl ?_|refine wJ ?_|refine nJ ?_)<;>conv=>whnf))
   exact⟨j+1,mI,by omega,by omega⟩
  ·(conv=>whnf);(repeat'((first|apply bT|apply bF|apply bN|((first|apply bD|apply bEq|apply bNe)<;>intro hh<;>try(exfalso;omega))|refine wJ ?_|refine nJ ?_)<;>conv=>whnf))
   exact⟨k+1,mI,by omega,by omega⟩
 ·(conv=>whnf);(repeat'((first|apply bT|apply bF|apply bN|((first|apply bD|apply bEq|apply bNe)<;>intro hh<;>try(exfalso;omega))|refine t1.cq rfl rfl ?_|refine t2.cq rfl rfl ?_|refine s1.cq rfl rfl ?_|refine s2.cq rfl rfl ?_|refine b1.cq rfl rfl ?_|refine b2.cq rfl rfl ?_|refine wJ ?_|refine nJ ?_)<;>conv=>whnf))
  all_goals exact congrArg AV.bool (decide_eq_true w3)
theorem k8(P:Prg)(t:Tour)(x:Rain)(r:List Int):FnA Try.prog 8 [.agg t.cells, .agg x.av, .isl (r.map jAV)] (· = .bool true):=by
 have e0:=q10 P
 have e1:=q33 t
 have lR:(r.map jAV).length=r.length:=by simp
 have lr:(t.rn.map Rain.av).length=t.rn.length:=by simp
 refine fnA 20 ok8 (by simp) ?_
 cases hy:t.rdy<;>rw[hy]at e1
 ·(conv=>whnf);(repeat'((first|apply bT|apply bF|apply bN|((first|apply bD|apply bEq|apply bNe)<;>intro hh<;>try(exfalso;omega))|refine e1.cq rfl rfl ?_|refine e0.cq rfl rfl ?_|refine wJ ?_|refine nJ ?_)<;>conv=>whnf))
  all_goals rfl
 obtain⟨hs,h,hds,hfs,hfar⟩:=rdy_of hy
 by_cases h10:t.rn.length>=10
 ·(conv=>whnf);(repeat'((first|apply bT|apply bF|apply bN|((first|apply bD|apply bEq|apply bNe)<;>intro hh<;>try(exfalso;omega))|refine e1.cq rfl rfl ?_|refine e0.cq rfl rfl ?_|refine wJ ?_|refine nJ ?_)<;>conv=>whnf))
  all_goals rfl
 by_cases hr:r.length>20
 ·(conv=>whnf);(repeat'((first|apply bT|apply bF|apply bN|((first|apply bD|apply bEq|apply bNe)<;>intro hh<;>try(exfalso;omega))|refine e1.cq rfl rfl ?_|refine e0.cq rfl rfl ?_|refine wJ ?_|refine nJ ?_)<;>conv=>whnf))
  all_goals rfl
 have e2:=q39 t h r (by omega)
 cases hx:isRte t r<;>rw[hx]at e2
 ·(conv=>whnf);(repeat'((first|apply bT|apply bF|apply bN|((first|apply bD|apply bEq|apply bNe)<;>intro hh<;>try(exfalso;omega))|refine e1.cq rfl rfl ?_|refine e2.cq rfl rfl ?_|refine e0.cq rfl rfl ?_|refine wJ ?_|refine nJ ?_)<;>conv=>whnf))
  all_goals rfl
 have c1:=q11o t hs
 have w10:=h.w10;have s3:=h.s3;have w0:=h.w0;have s0:=h.s0
 have hK:∀e∈[x.av],e.length=3/\e.all AV.one=true:=by simp[Rain.av,AV.one]
 have em:(t.more x).cells=[.int .i64 t.ds, .int .i64 t.st, .isl (t.rn.map Rain.av++[x.av]), .int .i64 t.wr, .isl (t.fs.map Fair.av), .int .i64 t.rc, .int .i64 t.sk]:=by simp[Tour.cells,Tour.more]
 have e3:=q33 (t.more x)
 rw[em]at e3
 cases hm:(t.more x).rdy<;>rw[hm]at e3
 ·(conv=>whnf);(repeat'((first|apply bT|apply bF|apply bN|((first|apply bD|apply bEq|apply bNe)<;>intro hh<;>try(exfalso;omega))|refine e1.cq rfl rfl ?_|refine e2.cq rfl rfl ?_|refine c1.oq rfl rfl rfl ?_|(refine apI hK (by simp only[List.length_cons,List.length_nil];omega) ?_)|refine e3.lq rfl rfl ?_|refine e0.cq rfl rfl ?_|refine wJ ?_|refine nJ ?_)<;>conv=>whnf))
  all_goals rfl
 obtain⟨ms,mo,_,_,_⟩:=rdy_of hm
 have d1:=q41 P (t.more x) t r (more_in t x) ms hs mo h hx
 have ws:Sml t.wrong:=⟨hs.rn,hs.fs,hs.se⟩
 have ss:Sml t.steps:=⟨hs.rn,hs.fs,hs.se⟩
 have d2:=q41 P t t.wrong r (wrong_in h) hs ws h (wrong_ok h) hx
 have d3:=q41 P t t.steps r (steps_in h) hs ss h (steps_ok h) hx
 rw[em]at d1
 (conv=>whnf);(repeat'((first|apply bT|apply bF|apply bN|((first|apply bD|apply bEq|apply bNe)<;>intro hh<;>try(exfalso;omega))|refine e1.cq rfl rfl ?_|refine e2.cq rfl rfl ?_|refine c1.oq rfl rfl rfl ?_|(refine apI hK (by simp only[List.length_cons,List.length_nil];omega) ?_)|refine e3.lq rfl rfl ?_|refine d1.lq rfl rfl ?_|refine d2.lq rfl rfl ?_|refine d3.lq rfl rfl ?_|refine e0.cq rfl rfl ?_|refine wJ ?_|refine nJ ?_)<;>conv=>whnf))
 all_goals rfl
theorem err3{t:Tour}(h:TOk t)(h0:t.err true≠0):t.err true=3:=by
 rw[ex_none h]at h0⊢
 split
 ·rfl
 ·rename_i c;rw[if_neg c]at h0;exact absurd rfl h0
theorem kStock(P:Prg)(t:Tour)(b:Int)(r:List Int):FnA Try.prog 9 [.agg t.cells, .int .i64 b, .isl (r.map jAV)] (· = .bool true):=by
 have e0:=(q10 P)
 have e1:=q33 t
 have lR:(r.map jAV).length=r.length:=by simp
 refine fnA 20 ok9 (by simp) ?_
 cases hy:t.rdy<;>rw[hy]at e1
 ·(conv=>whnf);(repeat'((first|apply bT|apply bF|apply bN|((first|apply bD|apply bEq|apply bNe)<;>intro hh<;>try(exfalso;omega))|refine e1.cq rfl rfl ?_|refine e0.cq rfl rfl ?_|refine wJ ?_|refine nJ ?_)<;>conv=>whnf))
  all_goals rfl
 obtain⟨hs,h,hds,hfs,_⟩:=rdy_of hy
 by_cases hb:0<=b/\b<=999
 case neg=>
  (conv=>whnf);(repeat'((first|apply bT|apply bF|apply bN|((first|apply bD|apply bEq|apply bNe)<;>intro hh<;>try(exfalso;omega))|refine e1.cq rfl rfl ?_|refine e0.cq rfl rfl ?_|refine wJ ?_|refine nJ ?_)<;>conv=>whnf))
  all_goals rfl
 by_cases hr:r.length>20
 ·(conv=>whnf);(repeat'((first|apply bT|apply bF|apply bN|((first|apply bD|apply bEq|apply bNe)<;>intro hh<;>try(exfalso;omega))|refine e1.cq rfl rfl ?_|refine e0.cq rfl rfl ?_|refine wJ ?_|refine nJ ?_)<;>conv=>whnf))
  all_goals rfl
 have e2:=q39 t h r (by omega)
 cases hx:isRte t r<;>rw[hx]at e2
 ·(conv=>whnf);(repeat'((first|apply bT|apply bF|apply bN|((first|apply bD|apply bEq|apply bNe)<;>intro hh<;>try(exfalso;omega))|refine e1.cq rfl rfl ?_|refine e2.cq rfl rfl ?_|refine e0.cq rfl rfl ?_|refine wJ ?_|refine nJ ?_)<;>conv=>whnf))
  all_goals rfl
 have c1:=q11o t hs
 have k0:=h.k0;have k9:=h.k9;have c0:=h.c0;have c4:=h.c4
 have a1:=P.best t hs
 have a2:=P.hopes t hs
 by_cases h0:t.err true=0
 ·obtain⟨_,_,hne⟩:=err_ok h0
  rw[h0,if_pos rfl]at a1 a2
  have ic:=q40 0
  rw[decide_eq_true (.inl rfl)]at ic
  have rs:Sml (t.rich b):=⟨hs.rn,hs.fs,hs.se⟩
  have fs:Sml t.far':=⟨hs.rn,hs.fs,hs.se⟩
  have ro:=rich_ok h hb.1
  have fo:=far_ok h
  have hne1:truths (t.rich b)≠[]:=hne
  have hne2:truths t.far'≠[]:=hne
  have hxr:isRte (t.rich b) r=true:=hx
  have b1:=P.best (t.rich b) rs
  have b2:=P.hopes (t.rich b) rs
  have b3:=P.best t.far' fs
  have b4:=P.hopes t.far' fs
  rw[err_zero.2 ⟨ro,rfl,hne1⟩,if_pos rfl]at b1 b2
  rw[err_zero.2 ⟨fo,rfl,hne2⟩,if_pos rfl]at b3 b4
  have t1:=P.takes t r hs (by omega)
  have t2:=P.takes (t.rich b) r rs (by omega)
  have s1:=P.left t r hs (by omega)
  have s2:=P.left (t.rich b) r rs (by omega)
  rw[hx,h0,spS,if_pos rfl]at t1 s1
  rw[err_zero.2 ⟨ro,hxr,hne1⟩,spS,if_pos rfl]at t2 s2
  have w1:=rich_best h hb.1 hne
  have w2:=far_best h
  have w3:=rich_takS h hb.1 hne r
  (conv=>whnf);(repeat'((first|apply bT|apply bF|apply bN|((first|apply bD|apply bEq|apply bNe)<;>intro hh<;>try(exfalso;omega))|refine e1.cq rfl rfl ?_|refine e2.cq rfl rfl ?_|refine c1.oq rfl rfl rfl ?_|refine a1.cq rfl rfl ?_|refine a2.cq rfl rfl ?_|refine ic.cq rfl rfl ?_|refine b1.lq rfl rfl ?_|refine b2.lq rfl rfl ?_|refine b3.lq rfl rfl ?_|refine b4.lq rfl rfl ?_|refine t1.cq rfl rfl ?_|refine t2.lq rfl rfl ?_|refine s1.cq rfl rfl ?_|refine s2.lq rfl rfl ?_|refine e0.cq rfl rfl ?_|refine wJ ?_|refine nJ ?_)<;>conv=>whnf))
  all_goals rfl
 ·have h3:=err3 h h0
  rw[if_neg h0,h3]at a1 a2
  have ic:=q40 3
  rw[decide_eq_true (.inr rfl)]at ic
  (conv=>whnf);(repeat'((first|apply bT|apply bF|apply bN|((first|apply bD|apply bEq|apply bNe)<;>intro hh<;>try(exfalso;omega))|refine e1.cq rfl rfl ?_|refine e2.cq rfl rfl ?_|refine c1.oq rfl rfl rfl ?_|refine a1.cq rfl rfl ?_|refine a2.cq rfl rfl ?_|refine ic.cq rfl rfl ?_|refine e0.cq rfl rfl ?_|refine wJ ?_|refine nJ ?_)<;>conv=>whnf))
  all_goals rfl
theorem mix_get{α : Type}{av : α -> List AV}{a b:List α}{k:Nat}(ha:a.length=b.length)(hk:k<b.length):((a.take k++b.drop k).map av).getD k []=av b[k]:=by
 have e:((a.take k).map av).length=k:=by rw[List.length_map,List.length_take];omega
 rw[List.drop_eq_getElem_cons hk,List.map_append,List.map_cons,List.getD_eq_getElem?_getD,List.getElem?_append_right (by omega),e];simp
theorem mix_set{α : Type}{av : α -> List AV}{a b:List α}{k:Nat}(ha:a.length=b.length)(hk:k<b.length):((a.take k++b.drop k).map av).set k (av (a[k]'(by omega)))=(a.take (k+1)++b.drop (k+1)).map av:=by
 have e:((a.take k).map av).length=k:=by rw[List.length_map,List.length_take];omega
 rw[List.drop_eq_getElem_cons hk,List.map_append,List.map_cons,List.set_append_right _ _ (by omega),e,Nat.sub_self,List.set_cons_zero,List.take_succ_eq_append_getElem (show k<a.length by omega),List.map_append,List.map_append]
 simp only[List.map_cons,List.map_nil,List.append_assoc,List.cons_append,List.nil_append]
theorem mix_len{α : Type}{a b:List α}{k:Nat}(ha:a.length=b.length):(a.take k++b.drop k).length=b.length:=by
 rw[List.length_append,List.length_take,List.length_drop];omega
def oneF(f:Fair):Fair:={ f with p:=1 }
theorem kLost(P:Prg)(t:Tour)(r:List Int):FnA Try.prog 10 [.agg t.cells, .isl (r.map jAV)] (· = .bool true):=by
 have e0:=(q10 P)
 have e1:=q33 t
 have lR:(r.map jAV).length=r.length:=by simp
 refine fnA 12 ok10 (by simp) ?_
 cases hy:t.rdy<;>rw[hy]at e1
 ·(conv=>whnf);(repeat'((first|apply bT|apply bF|apply bN|((first|apply bD|apply bEq|apply bNe)<;>intro hh<;>try(exfalso;omega))|refine e1.cq rfl rfl ?_|refine e0.cq rfl rfl ?_|refine wJ ?_|refine nJ ?_)<;>conv=>whnf))
  all_goals rfl
 obtain⟨hs,h,hds,hfs,_⟩:=rdy_of hy
 by_cases hr:r.length>20
 ·(conv=>whnf);(repeat'((first|apply bT|apply bF|apply bN|((first|apply bD|apply bEq|apply bNe)<;>intro hh<;>try(exfalso;omega))|refine e1.cq rfl rfl ?_|refine e0.cq rfl rfl ?_|refine wJ ?_|refine nJ ?_)<;>conv=>whnf))
  all_goals rfl
 have e2:=q39 t h r (by omega)
 cases hx:isRte t r<;>rw[hx]at e2
 ·(conv=>whnf);(repeat'((first|apply bT|apply bF|apply bN|((first|apply bD|apply bEq|apply bNe)<;>intro hh<;>try(exfalso;omega))|refine e1.cq rfl rfl ?_|refine e2.cq rfl rfl ?_|refine e0.cq rfl rfl ?_|refine wJ ?_|refine nJ ?_)<;>conv=>whnf))
  all_goals rfl
 have c1:=q11o t hs
 have hf100:=hs.fs
 have ha:(t.fs.map oneF).length=t.fs.length:=by simp
 (conv=>whnf);(repeat'((first|apply bT|apply bF|apply bN|((first|apply bD|apply bEq|apply bNe)<;>intro hh<;>try(exfalso;omega))|refine e1.cq rfl rfl ?_|refine e2.cq rfl rfl ?_|refine c1.oq rfl rfl rfl ?_|refine wJ ?_|refine nJ ?_)<;>conv=>whnf))
 refine loop_i (α :=Nat × List (List AV)) (fun q=>[(6, .int .i64 q.1),(5, .own 3 0),(2, .own 0 0),(1, .isl (r.map jAV))]) (fun q=>[.box false t.cells, .row false 57 3 (t.rn.map Rain.av), .row false 64 2 q.2, .box false [.int .i64 t.ds, .int .i64 t.st, .row 1, .int .i64 t.wr, .row 2, .int .i64 t.rc, .int .i64 t.sk], .fresh, .fresh, .fresh, .fresh, .fresh, .fresh]) (fun q=>q.1<=t.fs.length/\q.2=((t.fs.map oneF).take q.1++t.fs.drop q.1).map Fair.av) (fun q=>t.fs.length-q.1) (0,t.fs.map Fair.av) mI ⟨by simp,by simp⟩ ?_
 rintro⟨k,L⟩ ⟨hk0,hL⟩
 dsimp only at hk0 hL⊢
 have hLl:L.length=t.fs.length:=by rw[hL,List.length_map,mix_len ha]
 conv=>whnf
 refine bD (fun h3=>?_) (fun h3=>?_)
 ·have hk:k<t.fs.length:=by omega
  have g1:L.getD k []=(t.fs[k]).av:=by rw[hL];exact mix_get ha hk
  have hset:=mix_set (av:=Fair.av) ha hk
  rw[<- hL,show(t.fs.map oneF)[k]'(by omega)=oneF t.fs[k] from by simp]at hset
  (conv=>whnf);(repeat'((first|apply bT|apply bF|apply bN|((first|apply bD|apply bEq|apply bNe)<;>intro hh<;>try(exfalso;omega))|refine iaJ g1 ?_|refine wJ ?_|refine nJ ?_)<;>conv=>whnf))
  exact⟨(k+1,L.set k (oneF t.fs[k]).av),mI,⟨by dsimp only;omega,hset⟩,by dsimp only;omega⟩
 have:k=t.fs.length:=by omega
 subst this
 rw[<- ha,List.take_length,show List.drop (t.fs.map oneF).length t.fs=[] from by rw[ha];exact List.drop_length,List.append_nil]at hL
 subst hL
 have os:Sml t.one:=⟨hs.rn,by simpa[Tour.one]using hs.fs,fun f hf=>by
  simp only[Tour.one,List.mem_map]at hf
  obtain⟨g,hg,rfl⟩:=hf
  exact hs.se g hg⟩
 have oo:=one_ok h
 have ef:t.one.fs.length=t.fs.length:=by simp[Tour.one]
 have hxo:isRte t.one r=true:=by rw[isRte,ef];exact hx
 have eh:t.one.err true=t.err true:=by rw[ex_none oo,ex_none h,one_truths]
 have t1:=P.takes t.one r os (by omega)
 have s1:=P.left t.one r os (by omega)
 have s2:=P.left t r hs (by omega)
 rw[hxo,eh]at t1 s1
 rw[hx]at s2
 by_cases h0:t.err true=0
 ·obtain⟨_,_,hne⟩:=err_ok h0
  rw[h0,spS,if_pos rfl]at t1 s1 s2
  have ic:=q40 0
  rw[decide_eq_true (.inl rfl)]at ic
  obtain⟨⟨w1,w2⟩,w3,w4⟩:=lost_ok h hne hx
  have k0:=h.k0;have k9:=h.k9
  have u1:=(spn_spec (x:=(truths t.one).map (tak t.one r)) (by rw[one_truths];simpa using hne))
  rw[w3]at s1 w1 w2 w4
  have w5:0<=(takS t.one r).1/\(takS t.one r).1<=98901*6:=by
   obtain⟨l,_,e⟩:=List.mem_map.1 u1.1.1
   have:=(trd_bd oo r l t.one.ds.toNat).2
   have hd:=h.d6
   have:t.one.ds=t.ds:=rfl
   have e:(trd t.one r l t.one.ds.toNat).1=(takS t.one r).1:=e
   omega
  have w6:0<=(takS t.one r).2/\(takS t.one r).2<=98901*6:=by
   obtain⟨l,_,e⟩:=List.mem_map.1 u1.1.2
   have:=(trd_bd oo r l t.one.ds.toNat).2
   have hd:=h.d6
   have:t.one.ds=t.ds:=rfl
   have e:(trd t.one r l t.one.ds.toNat).1=(takS t.one r).2:=e
   omega
  (conv=>whnf);(repeat'((first|apply bT|apply bF|apply bN|((first|apply bD|apply bEq|apply bNe)<;>intro hh<;>try(exfalso;omega))|refine t1.lq rfl rfl ?_|refine s1.lq rfl rfl ?_|refine s2.cq rfl rfl ?_|refine ic.cq rfl rfl ?_|refine e0.cq rfl rfl ?_|(refine bKT ?_ ?_;(focus (simp;done)))|refine wJ ?_|refine nJ ?_)<;>conv=>whnf))
  all_goals rfl
 ·have h3:=err3 h h0
  rw[h3,spS,if_neg (by decide)]at t1 s1 s2
  have ic:=q40 3
  rw[decide_eq_true (.inr rfl)]at ic
  (conv=>whnf);(repeat'((first|apply bT|apply bF|apply bN|((first|apply bD|apply bEq|apply bNe)<;>intro hh<;>try(exfalso;omega))|refine t1.lq rfl rfl ?_|refine s1.lq rfl rfl ?_|refine s2.cq rfl rfl ?_|refine ic.cq rfl rfl ?_|refine e0.cq rfl rfl ?_|refine wJ ?_|refine nJ ?_)<;>conv=>whnf))
  all_goals rfl
theorem rot_get{α : Type}[Inhabited α]{l:List α}{b i:Nat}(hi:i<l.length):(rot (b%l.length) l)[i]?=some (l[(i+b)%l.length]'(Nat.mod_lt _ (by omega))):=by
 have hb:b%l.length<l.length:=Nat.mod_lt _ (by omega)
 have e:(i+b)%l.length=(i+b%l.length)%l.length:=by rw[Nat.add_mod,Nat.add_mod i (b%l.length)];simp
 unfold rot
 by_cases h:i+b%l.length<l.length
 ·rw[List.getElem?_append_left (by rw[List.length_drop];omega),List.getElem?_drop,show b%l.length+i=i+b%l.length by omega,List.getElem?_eq_getElem h]
  congr 2
  rw[e,Nat.mod_eq_of_lt h]
 ·have e2:(i+b%l.length)%l.length=i+b%l.length-l.length:=by
   rw[Nat.mod_eq_sub_mod (by omega),Nat.mod_eq_of_lt (by omega)]
  rw[List.getElem?_append_right (by rw[List.length_drop];omega),List.length_drop,List.getElem?_take,if_pos (by omega),List.getElem?_eq_getElem (by omega)]
  congr 2
  omega
theorem kLiars(P:Prg)(t:Tour)(b:Int):FnA Try.prog 11 [.agg t.cells, .int .i64 b] (· = .bool true):=by
 have e0:=(q10 P)
 have e1:=q33 t
 have lr:(t.rn.map Rain.av).length=t.rn.length:=by simp
 refine fnA 12 ok11 (by simp) ?_
 cases hy:t.rdy<;>rw[hy]at e1
 ·(conv=>whnf);(repeat'((first|apply bT|apply bF|apply bN|((first|apply bD|apply bEq|apply bNe)<;>intro hh<;>try(exfalso;omega))|refine e1.cq rfl rfl ?_|refine e0.cq rfl rfl ?_|refine wJ ?_|refine nJ ?_)<;>conv=>whnf))
  all_goals rfl
 obtain⟨hs,h,hds,hfs,_⟩:=rdy_of hy
 by_cases hb:0<=b/\b<=100
 case neg=>
  (conv=>whnf);(repeat'((first|apply bT|apply bF|apply bN|((first|apply bD|apply bEq|apply bNe)<;>intro hh<;>try(exfalso;omega))|refine e1.cq rfl rfl ?_|refine e0.cq rfl rfl ?_|refine wJ ?_|refine nJ ?_)<;>conv=>whnf))
  all_goals rfl
 obtain⟨B,rfl⟩:∃B:Nat,b=(B:Int):=⟨b.toNat,by omega⟩
 have c1:=q11o t hs
 have hrl:=h.rl
 have m1:=P.few t hs
 have m2:=P.many t hs
 have m3:=P.best t hs
 rw[if_pos (ok_iff.2 h),if_pos (ok_iff.2 h)]at m1
 obtain⟨w1,w2⟩:=few_spec h
 have hrp:=rot_perm (B%t.rn.length) t.rn
 have hrl2:=hrp.length_eq
 have us:Sml (t.turn (B%t.rn.length)):=⟨by rw[show(t.turn (B%t.rn.length)).rn.length=t.rn.length from hrl2];exact hs.rn,hs.fs,hs.se⟩
 have uo:=turn_ok h (B%t.rn.length)
 have eh:(t.turn (B%t.rn.length)).err true=t.err true:=by rw[ex_none uo,ex_none h,turn_truths]
 have n1:=P.few _ us
 have n2:=P.many _ us
 have n3:=P.best _ us
 rw[if_pos (ok_iff.2 uo),if_pos (ok_iff.2 uo),turn_few]at n1
 rw[eh,turn_truths]at n2
 rw[eh,turn_best]at n3
 have step:∀k,(hk:k<t.rn.length)->∃y,t.rn[(k+B)%t.rn.length]'(Nat.mod_lt _ (by omega))=y/\(rot (B%t.rn.length) t.rn)[k]'(by rw[hrl2];exact hk)=y:=fun k hk=>by
  haveI:Inhabited Rain:=⟨⟨0,0,0⟩⟩
  refine⟨_,rfl,?_⟩
  have:=rot_get (l:=t.rn) (b:=B) hk
  rw[List.getElem?_eq_getElem (by rw[hrl2];exact hk)]at this
  exact Option.some.inj this
 by_cases h0:t.err true=0
 ·obtain⟨_,_,hne⟩:=err_ok h0
  have hp:=List.length_pos_iff.2 hne
  have hT:=truths_len h
  rw[h0,if_pos rfl]at m2 m3 n2 n3
  have ic:=q40 0
  rw[decide_eq_true (.inl rfl)]at ic
  have wd:decide (fewest t<=t.wr)=true:=decide_eq_true (w2.2 hne)
  (conv=>whnf);(repeat'((first|apply bT|apply bF|apply bN|((first|apply bD|apply bEq|apply bNe)<;>intro hh<;>try(exfalso;omega))|refine e1.cq rfl rfl ?_|refine m1.cq rfl rfl ?_|refine m2.cq rfl rfl ?_|refine ic.cq rfl rfl ?_|((refine bKF ?_ ?_;(focus (simp[wd];done))))|refine c1.oq rfl rfl rfl ?_|refine wJ ?_|refine nJ ?_)<;>conv=>whnf))
  refine loop_i (α :=Nat × List (List AV)) (fun q=>[(10, .int .i64 q.1),(9, .own 3 0),(8, .int .i64 0),(7, .int .i64 ((truths t).length:Nat)),(5, .int .i64 (fewest t)),(2, .own 0 0),(1, .int .i64 (B:Int))]) (fun q=>[.box false t.cells, .row false 57 3 q.2, .row false 64 2 (t.fs.map Fair.av), .box false [.int .i64 t.ds, .int .i64 t.st, .row 1, .int .i64 t.wr, .row 2, .int .i64 t.rc, .int .i64 t.sk], .fresh, .fresh, .fresh, .fresh, .fresh, .fresh]) (fun q=>q.1<=t.rn.length/\q.2=((rot (B%t.rn.length) t.rn).take q.1++t.rn.drop q.1).map Rain.av) (fun q=>t.rn.length-q.1) (0,t.rn.map Rain.av) mI ⟨by simp,by simp⟩ ?_
  rintro⟨k,L⟩ ⟨hk0,hL⟩
  dsimp only at hk0 hL⊢
  have hLl:L.length=t.rn.length:=by rw[hL,List.length_map,mix_len hrl2]
  conv=>whnf
  refine bD (fun h3=>?_) (fun h3=>?_)
  ·have hk:k<t.rn.length:=by omega
   obtain⟨y,hy1,hy2⟩:=step k hk
   have hmod:((k:Int)+(B:Int)).tmod (((t.rn.map Rain.av).length:Nat):Int)=(((k+B)%t.rn.length:Nat):Int):=by
    rw[lr,Int.tmod_eq_emod_of_nonneg (by omega),<- Int.natCast_add,<- Int.natCast_emod]
   have hlt:=Nat.mod_lt (k+B) (show 0<t.rn.length by omega)
   have i0:0<=((k:Int)+(B:Int)).tmod (((t.rn.map Rain.av).length:Nat):Int):=by rw[hmod];omega
   have i1:((k:Int)+(B:Int)).tmod (((t.rn.map Rain.av).length:Nat):Int)<(((t.rn.map Rain.av).length:Nat):Int):=by rw[hmod];omega
   have g2:(t.rn.map Rain.av).getD (((k:Int)+(B:Int)).tmod (((t.rn.map Rain.av).length:Nat):Int)).toNat []=y.av:=by
    rw[hmod,Int.toNat_natCast,getM Rain.av t.rn _ hlt,hy1]
   have g1:L.getD k []=(t.rn[k]).av:=by rw[hL];exact mix_get hrl2 hk
   have hset:=mix_set (av:=Rain.av) hrl2 hk
   rw[<- hL,hy2]at hset
   (conv=>whnf);(repeat'((first|apply bT|apply bF|apply bN|((first|apply bD|apply bEq|apply bNe)<;>intro hh<;>try(exfalso;omega))|refine iaI i0 i1 g2 ?_|refine iaJ g1 ?_|refine wJ ?_|refine nJ ?_)<;>conv=>whnf))
   exact⟨(k+1,L.set k y.av),mI,⟨by dsimp only;omega,hset⟩,by dsimp only;omega⟩
  have:k=t.rn.length:=by omega
  subst this
  have hfin:(rot (B%t.rn.length) t.rn).take t.rn.length++t.rn.drop t.rn.length=rot (B%t.rn.length) t.rn:=by
   rw[List.drop_length,List.append_nil];exact List.take_of_length_le (by omega)
  rw[hfin]at hL
  subst hL
  (conv=>whnf);(repeat'((first|apply bT|apply bF|apply bN|((first|apply bD|apply bEq|apply bNe)<;>intro hh<;>try(exfalso;omega))|refine n1.lq rfl rfl ?_|refine n2.lq rfl rfl ?_|refine m3.cq rfl rfl ?_|refine n3.lq rfl rfl ?_|refine e0.cq rfl rfl ?_|refine wJ ?_|refine nJ ?_)<;>conv=>whnf))
  all_goals first|rfl|(exfalso;rw[wd]at hh;revert hh;decide)
 ·have h3:=err3 h h0
  have hem:truths t=[]:=by
   rw[ex_none h]at h3
   split at h3
   ·rename_i c;exact List.length_eq_zero_iff.1 c
   ·cases h3
  rw[h3,if_neg (by decide)]at m2 m3 n2 n3
  have ic:=q40 3
  rw[decide_eq_true (.inr rfl)]at ic
  have wd:decide (fewest t<=t.wr)=false:=decide_eq_false (fun hh=>(w2.1 hh) hem)
  (conv=>whnf);(repeat'((first|apply bT|apply bF|apply bN|((first|apply bD|apply bEq|apply bNe)<;>intro hh<;>try(exfalso;omega))|refine e1.cq rfl rfl ?_|refine m1.cq rfl rfl ?_|refine m2.cq rfl rfl ?_|refine ic.cq rfl rfl ?_|((refine bKF ?_ ?_;(focus (simp[wd];done))))|refine c1.oq rfl rfl rfl ?_|refine wJ ?_|refine nJ ?_)<;>conv=>whnf))
  refine loop_i (α :=Nat × List (List AV)) (fun q=>[(10, .int .i64 q.1),(9, .own 3 0),(8, .int .i64 3),(7, .int .i64 0),(5, .int .i64 (fewest t)),(2, .own 0 0),(1, .int .i64 (B:Int))]) (fun q=>[.box false t.cells, .row false 57 3 q.2, .row false 64 2 (t.fs.map Fair.av), .box false [.int .i64 t.ds, .int .i64 t.st, .row 1, .int .i64 t.wr, .row 2, .int .i64 t.rc, .int .i64 t.sk], .fresh, .fresh, .fresh, .fresh, .fresh, .fresh]) (fun q=>q.1<=t.rn.length/\q.2=((rot (B%t.rn.length) t.rn).take q.1++t.rn.drop q.1).map Rain.av) (fun q=>t.rn.length-q.1) (0,t.rn.map Rain.av) mI ⟨by simp,by simp⟩ ?_
  rintro⟨k,L⟩ ⟨hk0,hL⟩
  dsimp only at hk0 hL⊢
  have hLl:L.length=t.rn.length:=by rw[hL,List.length_map,mix_len hrl2]
  conv=>whnf
  refine bD (fun h3=>?_) (fun h3=>?_)
  ·have hk:k<t.rn.length:=by omega
   obtain⟨y,hy1,hy2⟩:=step k hk
   have hmod:((k:Int)+(B:Int)).tmod (((t.rn.map Rain.av).length:Nat):Int)=(((k+B)%t.rn.length:Nat):Int):=by
    rw[lr,Int.tmod_eq_emod_of_nonneg (by omega),<- Int.natCast_add,<- Int.natCast_emod]
   have hlt:=Nat.mod_lt (k+B) (show 0<t.rn.length by omega)
   have i0:0<=((k:Int)+(B:Int)).tmod (((t.rn.map Rain.av).length:Nat):Int):=by rw[hmod];omega
   have i1:((k:Int)+(B:Int)).tmod (((t.rn.map Rain.av).length:Nat):Int)<(((t.rn.map Rain.av).length:Nat):Int):=by rw[hmod];omega
   have g2:(t.rn.map Rain.av).getD (((k:Int)+(B:Int)).tmod (((t.rn.map Rain.av).length:Nat):Int)).toNat []=y.av:=by
    rw[hmod,Int.toNat_natCast,getM Rain.av t.rn _ hlt,hy1]
   have g1:L.getD k []=(t.rn[k]).av:=by rw[hL];exact mix_get hrl2 hk
   have hset:=mix_set (av:=Rain.av) hrl2 hk
   rw[<- hL,hy2]at hset
   (conv=>whnf);(repeat'((first|apply bT|apply bF|apply bN|((first|apply bD|apply bEq|apply bNe)<;>intro hh<;>try(exfalso;omega))|refine iaI i0 i1 g2 ?_|refine iaJ g1 ?_|refine wJ ?_|refine nJ ?_)<;>conv=>whnf))
   exact⟨(k+1,L.set k y.av),mI,⟨by dsimp only;omega,hset⟩,by dsimp only;omega⟩
  have:k=t.rn.length:=by omega
  subst this
  have hfin:(rot (B%t.rn.length) t.rn).take t.rn.length++t.rn.drop t.rn.length=rot (B%t.rn.length) t.rn:=by
   rw[List.drop_length,List.append_nil];exact List.take_of_length_le (by omega)
  rw[hfin]at hL
  subst hL
  (conv=>whnf);(repeat'((first|apply bT|apply bF|apply bN|((first|apply bD|apply bEq|apply bNe)<;>intro hh<;>try(exfalso;omega))|refine n1.lq rfl rfl ?_|refine n2.lq rfl rfl ?_|refine m3.cq rfl rfl ?_|refine n3.lq rfl rfl ?_|refine e0.cq rfl rfl ?_|refine wJ ?_|refine nJ ?_)<;>conv=>whnf))
  all_goals first|rfl|(exfalso;rw[wd]at hh;revert hh;decide)
theorem all_no{α : Type}{l:List α}{p : α -> Bool}{k:Nat}(hk:k<l.length)(hx:p l[k]=false):l.all p=false:=by
 rw[List.all_eq_false];exact⟨_,List.getElem_mem hk,by simp[hx]⟩
theorem all_ok{α : Type}{l:List α}{p : α -> Bool}(h:∀x∈l,p x=true):l.all p=true:=List.all_eq_true.2 h
theorem p76(n a b:Int):FnA Try.prog 76 [.int .i64 n, .int .i64 a, .int .i64 b] (· = .bool (decide (a<=n/\n<=b))):=by
 refine fnA 0 ok76 (by simp) ?_
 (conv=>whnf);(repeat'((first|apply bT|apply bF|apply bN|((first|apply bD|apply bEq|apply bNe)<;>intro hh<;>try(exfalso;omega))|refine wJ ?_|refine nJ ?_)<;>conv=>whnf))
 all_goals first|rfl|exact congrArg AV.bool (decide_eq_decide.2 (by omega))|exact congrArg AV.bool (decide_eq_true (by omega)).symm|exact congrArg AV.bool (decide_eq_false (by omega)).symm
theorem p82(a b m:Int)(ha : -1000000<=a/\a<=1000000)(hb : -1000000<=b/\b<=1000000)(hm : -1000000<=m/\m<=1000000):FnA Try.prog 82 [.int .i64 a, .int .i64 b, .int .i64 m] (· = .bool (decide (stepP m (a-b)))):=by
 have e1:=p76 (a-b) (0-m) m
 refine fnA 0 ok82 (by simp) ?_
 unfold stepP
 (conv=>whnf);(repeat'((first|apply bT|apply bF|apply bN|((first|apply bD|apply bEq|apply bNe)<;>intro hh<;>try(exfalso;omega))|refine e1.cq rfl rfl ?_|refine wJ ?_|refine nJ ?_)<;>conv=>whnf))
 all_goals first|rfl|exact congrArg AV.bool (decide_eq_decide.2 (by omega))|exact congrArg AV.bool (decide_eq_true (by omega)).symm|exact congrArg AV.bool (decide_eq_false (by omega)).symm
theorem p82u(a b m:Int):FnA Try.prog 82 [.int .i64 a, .int .i64 b, .int .i64 m] (fun r=>∃c,r = .bool c):=by
 have e1:=p76 (IntKind.i64.wrap (a-b)) (IntKind.i64.wrap (0-m)) m
 refine fnA 0 ok82 (by simp) ?_
 (conv=>whnf);(repeat'((first|apply bT|apply bF|apply bN|((first|apply bD|apply bEq|apply bNe)<;>intro hh<;>try(exfalso;omega))|refine wAny ?_|refine e1.cq rfl rfl ?_|refine wJ ?_|refine nJ ?_)<;>conv=>whnf))
 all_goals exact⟨_,rfl⟩
theorem p66(a b:Int):FnA Try.prog 66 [.agg [.int .i64 a, .int .i64 b]] (· = .int .i64 a):=by
 refine fnA 1 ok66 (by simp) ?_
 (conv=>whnf);(repeat'((first|apply bT|apply bF|apply bN|((first|apply bD|apply bEq|apply bNe)<;>intro hh<;>try(exfalso;omega))|refine wJ ?_|refine nJ ?_)<;>conv=>whnf))
 all_goals rfl
theorem p68(a b:Int):FnA Try.prog 68 [.agg [.int .i64 a, .int .i64 b]] (· = .int .i64 b):=by
 refine fnA 1 ok68 (by simp) ?_
 (conv=>whnf);(repeat'((first|apply bT|apply bF|apply bN|((first|apply bD|apply bEq|apply bNe)<;>intro hh<;>try(exfalso;omega))|refine wJ ?_|refine nJ ?_)<;>conv=>whnf))
 all_goals rfl
theorem p59(t:Tour)(d:Int)(hd:1<=t.ds/\t.ds<=6):FnA Try.prog 59 [.agg t.cells, .int .i64 d] (· = .bool (decide (0<=d/\d<=t.ds-1))):=by
 have e1:=p76 d 0 (t.ds-1)
 refine fnA 1 ok59 (by simp) ?_
 (conv=>whnf);(repeat'((first|apply bT|apply bF|apply bN|((first|apply bD|apply bEq|apply bNe)<;>intro hh<;>try(exfalso;omega))|refine e1.cq rfl rfl ?_|refine wJ ?_|refine nJ ?_)<;>conv=>whnf))
 all_goals rfl
theorem p59u(t:Tour)(d:Int):FnA Try.prog 59 [.agg t.cells, .int .i64 d] (fun r=>∃c,r = .bool c):=by
 have e1:=p76 d 0 (IntKind.i64.wrap (t.ds-1))
 refine fnA 1 ok59 (by simp) ?_
 (conv=>whnf);(repeat'((first|apply bT|apply bF|apply bN|((first|apply bD|apply bEq|apply bNe)<;>intro hh<;>try(exfalso;omega))|refine wAny ?_|refine e1.cq rfl rfl ?_|refine wJ ?_|refine nJ ?_)<;>conv=>whnf))
 all_goals exact⟨_,rfl⟩
theorem p63(t:Tour)(d:Int)(h:Sml t):FnA Try.prog 63 [.agg t.cells, .int .i64 d] (· = .bool (decide (0<=d/\d<=(t.rn.length:Int)-1))):=by
 have hr:=h.rn
 have lr:(t.rn.map Rain.av).length=t.rn.length:=by simp
 have e1:=p76 d 0 ((t.rn.map Rain.av).length-1)
 refine fnA 1 ok63 (by simp) ?_
 rw[<- lr]
 (conv=>whnf);(repeat'((first|apply bT|apply bF|apply bN|((first|apply bD|apply bEq|apply bNe)<;>intro hh<;>try(exfalso;omega))|refine e1.cq rfl rfl ?_|refine wJ ?_|refine nJ ?_)<;>conv=>whnf))
 all_goals rfl
theorem p92(t:Tour)(d:Int)(h:Sml t):FnA Try.prog 92 [.agg t.cells, .int .i64 d] (· = .bool (decide (0<=d/\d<=(t.fs.length:Int)-1))):=by
 have hr:=h.fs
 have lr:(t.fs.map Fair.av).length=t.fs.length:=by simp
 have e1:=p76 d 0 ((t.fs.map Fair.av).length-1)
 refine fnA 1 ok92 (by simp) ?_
 rw[<- lr]
 (conv=>whnf);(repeat'((first|apply bT|apply bF|apply bN|((first|apply bD|apply bEq|apply bNe)<;>intro hh<;>try(exfalso;omega))|refine e1.cq rfl rfl ?_|refine wJ ?_|refine nJ ?_)<;>conv=>whnf))
 all_goals rfl
theorem p91(t:Tour)(d:Int)(h:Sml t):FnA Try.prog 91 [.int .i64 d, .ipt t.cells] (· = .bool (decide (0<=d/\d<=(t.fs.length:Int)-1))):=by
 have e1:=p92 t d h
 refine fnA 0 ok91 (by simp) ?_
 (conv=>whnf);(repeat'((first|apply bT|apply bF|apply bN|((first|apply bD|apply bEq|apply bNe)<;>intro hh<;>try(exfalso;omega))|refine e1.cq rfl rfl ?_|refine wJ ?_|refine nJ ?_)<;>conv=>whnf))
 all_goals rfl
theorem p78(d:Int):FnA Try.prog 78 [.int .i64 d] (· = .bool (decide (0<=d/\d<=99))):=by
 have e1:=p76 d 0 99
 refine fnA 0 ok78 (by simp) ?_
 (conv=>whnf);(repeat'((first|apply bT|apply bF|apply bN|((first|apply bD|apply bEq|apply bNe)<;>intro hh<;>try(exfalso;omega))|refine e1.cq rfl rfl ?_|refine wJ ?_|refine nJ ?_)<;>conv=>whnf))
 all_goals rfl
theorem p64(x:Rain)(l:List Int)(h0:0<=x.d)(h1:x.d.toNat<l.length)(hl:l.length<=1000000):FnA Try.prog 64 [.agg x.av, .isl (l.map jAV)] (· = .bool (isRt x l)):=by
 have hL:(l.map jAV).length=l.length:=by simp
 have g1:=getJ l x.d.toNat h1
 have e1:=p76 (l.getD x.d.toNat 0) x.lo x.hi
 unfold isRt
 refine fnA 1 ok64 (by simp) ?_
 (conv=>whnf);(repeat'((first|apply bT|apply bF|apply bN|((first|apply bD|apply bEq|apply bNe)<;>intro hh<;>try(exfalso;omega))|refine iaJ g1 ?_|refine e1.cq rfl rfl ?_|refine wJ ?_|refine nJ ?_)<;>conv=>whnf))
 all_goals rfl
theorem p49(t:Tour)(x:Rain)(hd:1<=t.ds/\t.ds<=6):FnA Try.prog 49 [.agg t.cells, .agg x.av] (· = .bool (okR t x)):=by
 have e1:=p59 t x.d hd
 have e2:=p76 x.lo 0 x.hi
 unfold okR
 refine fnA 2 ok49 (by simp) ?_
 by_cases h1:0<=x.d/\x.d<=t.ds-1
 ·rw[decide_eq_true h1]at e1
  by_cases h2:0<=x.lo/\x.lo<=x.hi
  ·rw[decide_eq_true h2]at e2
   (conv=>whnf);(repeat'((first|apply bT|apply bF|apply bN|((first|apply bD|apply bEq|apply bNe)<;>intro hh<;>try(exfalso;omega))|refine e1.cq rfl rfl ?_|refine e2.cq rfl rfl ?_|refine wJ ?_|refine nJ ?_)<;>conv=>whnf))
   all_goals first|rfl|exact congrArg AV.bool (decide_eq_decide.2 (by omega))|exact congrArg AV.bool (decide_eq_true (by omega)).symm|exact congrArg AV.bool (decide_eq_false (by omega)).symm
  ·rw[decide_eq_false h2]at e2
   (conv=>whnf);(repeat'((first|apply bT|apply bF|apply bN|((first|apply bD|apply bEq|apply bNe)<;>intro hh<;>try(exfalso;omega))|refine e1.cq rfl rfl ?_|refine e2.cq rfl rfl ?_|refine wJ ?_|refine nJ ?_)<;>conv=>whnf))
   all_goals exact congrArg AV.bool (decide_eq_false fun h=>h2 h.2.1).symm
 ·rw[decide_eq_false h1]at e1
  (conv=>whnf);(repeat'((first|apply bT|apply bF|apply bN|((first|apply bD|apply bEq|apply bNe)<;>intro hh<;>try(exfalso;omega))|refine e1.cq rfl rfl ?_|refine e2.cq rfl rfl ?_|refine wJ ?_|refine nJ ?_)<;>conv=>whnf))
  all_goals exact congrArg AV.bool (decide_eq_false fun h=>h1 h.1).symm
theorem p48(t:Tour)(x:Rain)(hd:1<=t.ds/\t.ds<=6):FnA Try.prog 48 [.agg x.av, .ipt t.cells] (· = .bool (okR t x)):=by
 have e1:=p49 t x hd
 refine fnA 1 ok48 (by simp) ?_
 (conv=>whnf);(repeat'((first|apply bT|apply bF|apply bN|((first|apply bD|apply bEq|apply bNe)<;>intro hh<;>try(exfalso;omega))|refine e1.cq rfl rfl ?_|refine wJ ?_|refine nJ ?_)<;>conv=>whnf))
 all_goals rfl
theorem p47(t:Tour)(h:Sml t)(hd:1<=t.ds/\t.ds<=6):FnA Try.prog 47 [.isl (t.rn.map Rain.av), .fn 48 [.ipt t.cells]] (· = .bool (t.rn.all (okR t))):=by
 have hR:=h.rn
 have hL:(t.rn.map Rain.av).length=t.rn.length:=by simp
 refine fnA 1 ok47 (by simp) ?_
 (conv=>whnf);(repeat'((first|apply bT|apply bF|apply bN|((first|apply bD|apply bEq|apply bNe)<;>intro hh<;>try(exfalso;omega))|refine wJ ?_|refine nJ ?_)<;>conv=>whnf))
 refine loop_i (α :=Nat) (fun k=>[(9, .int .i64 k),(8, .int .i64 ↑(t.rn.map Rain.av).length),(7, .isl (t.rn.map Rain.av)),(1, .fn 48 [.ipt t.cells])]) (fun k=>[.fresh]) (fun k=>k<=t.rn.length/\∀b∈t.rn.take k,(okR t) b=true) (fun k=>t.rn.length-k) 0 mI ⟨by omega,by simp⟩ ?_
 rintro k ⟨h1,h2⟩
 conv=>whnf
 refine bD (fun h3=>?_) (fun h3=>?_)
 ·have hk:k<t.rn.length:=by omega
  have hv:FnV Try.prog (.fn 48 [.ipt t.cells]) [.agg t.rn[k].av] (· = .bool ((okR t) t.rn[k])):=fnV_of bd48 (p48 t t.rn[k] hd)
  cases hx:(okR t) t.rn[k]with
  |true=>
   rw[hx]at hv
   (conv=>whnf);(repeat'((first|apply bT|apply bF|apply bN|((first|apply bD|apply bEq|apply bNe)<;>intro hh<;>try(exfalso;omega))|refine iaJ (getM Rain.av t.rn k hk) ?_|(refine hv.vcallq rfl rfl rfl rfl (fun r (hr:r=_)=>?_);subst hr)|refine wJ ?_|refine nJ ?_)<;>conv=>whnf))
   exact⟨k+1,mI,⟨by omega,take_all hk h2 hx⟩,by omega⟩
  |false=>
   rw[hx]at hv
   rw[all_no hk hx]
   (conv=>whnf);(repeat'((first|apply bT|apply bF|apply bN|((first|apply bD|apply bEq|apply bNe)<;>intro hh<;>try(exfalso;omega))|refine iaJ (getM Rain.av t.rn k hk) ?_|(refine hv.vcallq rfl rfl rfl rfl (fun r (hr:r=_)=>?_);subst hr)|refine wJ ?_|refine nJ ?_)<;>conv=>whnf))
   all_goals rfl
 ·have:k=t.rn.length:=by omega
  subst this
  rw[List.take_length]at h2
  rw[all_ok h2]
  (conv=>whnf);(repeat'((first|apply bT|apply bF|apply bN|((first|apply bD|apply bEq|apply bNe)<;>intro hh<;>try(exfalso;omega))|refine wJ ?_|refine nJ ?_)<;>conv=>whnf))
  all_goals rfl
theorem p77(l:List Int)(hl:l.length<=1000000):FnA Try.prog 77 [.isl (l.map jAV), .fn 78 []] (· = .bool (l.all (fun v=>decide (0<=v/\v<=99)))):=by
 have hL:(l.map jAV).length=l.length:=by simp
 refine fnA 0 ok77 (by simp) ?_
 (conv=>whnf);(repeat'((first|apply bT|apply bF|apply bN|((first|apply bD|apply bEq|apply bNe)<;>intro hh<;>try(exfalso;omega))|refine wJ ?_|refine nJ ?_)<;>conv=>whnf))
 refine loop_i (α :=Nat) (fun k=>[(9, .int .i64 k),(8, .int .i64 ↑(l.map jAV).length),(7, .isl (l.map jAV)),(1, .fn 78 [])]) (fun k=>[]) (fun k=>k<=l.length/\∀b∈l.take k,(fun v=>decide (0<=v/\v<=99)) b=true) (fun k=>l.length-k) 0 mI ⟨by omega,by simp⟩ ?_
 rintro k ⟨h1,h2⟩
 conv=>whnf
 refine bD (fun h3=>?_) (fun h3=>?_)
 ·have hk:k<l.length:=by omega
  have hv:FnV Try.prog (.fn 78 []) [.int .i64 l[k]] (· = .bool ((fun v=>decide (0<=v/\v<=99)) l[k])):=fnV_of bd78 (p78 l[k])
  cases hx:(fun v=>decide (0<=v/\v<=99)) l[k]with
  |true=>
   rw[hx]at hv
   (conv=>whnf);(repeat'((first|apply bT|apply bF|apply bN|((first|apply bD|apply bEq|apply bNe)<;>intro hh<;>try(exfalso;omega))|refine iaJ (getM jAV l k hk) ?_|(refine hv.vcallq rfl rfl rfl rfl (fun r (hr:r=_)=>?_);subst hr)|refine wJ ?_|refine nJ ?_)<;>conv=>whnf))
   exact⟨k+1,mI,⟨by omega,take_all hk h2 hx⟩,by omega⟩
  |false=>
   rw[hx]at hv
   rw[all_no hk hx]
   (conv=>whnf);(repeat'((first|apply bT|apply bF|apply bN|((first|apply bD|apply bEq|apply bNe)<;>intro hh<;>try(exfalso;omega))|refine iaJ (getM jAV l k hk) ?_|(refine hv.vcallq rfl rfl rfl rfl (fun r (hr:r=_)=>?_);subst hr)|refine wJ ?_|refine nJ ?_)<;>conv=>whnf))
   all_goals rfl
 ·have:k=l.length:=by omega
  subst this
  rw[List.take_length]at h2
  rw[all_ok h2]
  (conv=>whnf);(repeat'((first|apply bT|apply bF|apply bN|((first|apply bD|apply bEq|apply bNe)<;>intro hh<;>try(exfalso;omega))|refine wJ ?_|refine nJ ?_)<;>conv=>whnf))
  all_goals rfl
theorem p77r(t:Tour)(h:Sml t)(l:List Int)(hl:l.length<=1000000):FnA Try.prog 77 [.isl (l.map jAV), .fn 91 [.ipt t.cells]] (· = .bool (l.all (fun v=>decide (0<=v/\v<=(t.fs.length:Int)-1)))):=by
 have hL:(l.map jAV).length=l.length:=by simp
 refine fnA 0 ok77 (by simp) ?_
 (conv=>whnf);(repeat'((first|apply bT|apply bF|apply bN|((first|apply bD|apply bEq|apply bNe)<;>intro hh<;>try(exfalso;omega))|refine wJ ?_|refine nJ ?_)<;>conv=>whnf))
 refine loop_i (α :=Nat) (fun k=>[(9, .int .i64 k),(8, .int .i64 ↑(l.map jAV).length),(7, .isl (l.map jAV)),(1, .fn 91 [.ipt t.cells])]) (fun k=>[]) (fun k=>k<=l.length/\∀b∈l.take k,(fun v=>decide (0<=v/\v<=(t.fs.length:Int)-1)) b=true) (fun k=>l.length-k) 0 mI ⟨by omega,by simp⟩ ?_
 rintro k ⟨h1,h2⟩
 conv=>whnf
 refine bD (fun h3=>?_) (fun h3=>?_)
 ·have hk:k<l.length:=by omega
  have hv:FnV Try.prog (.fn 91 [.ipt t.cells]) [.int .i64 l[k]] (· = .bool ((fun v=>decide (0<=v/\v<=(t.fs.length:Int)-1)) l[k])):=fnV_of bd91 (p91 t l[k] h)
  cases hx:(fun v=>decide (0<=v/\v<=(t.fs.length:Int)-1)) l[k]with
  |true=>
   rw[hx]at hv
   (conv=>whnf);(repeat'((first|apply bT|apply bF|apply bN|((first|apply bD|apply bEq|apply bNe)<;>intro hh<;>try(exfalso;omega))|refine iaJ (getM jAV l k hk) ?_|(refine hv.vcallq rfl rfl rfl rfl (fun r (hr:r=_)=>?_);subst hr)|refine wJ ?_|refine nJ ?_)<;>conv=>whnf))
   exact⟨k+1,mI,⟨by omega,take_all hk h2 hx⟩,by omega⟩
  |false=>
   rw[hx]at hv
   rw[all_no hk hx]
   (conv=>whnf);(repeat'((first|apply bT|apply bF|apply bN|((first|apply bD|apply bEq|apply bNe)<;>intro hh<;>try(exfalso;omega))|refine iaJ (getM jAV l k hk) ?_|(refine hv.vcallq rfl rfl rfl rfl (fun r (hr:r=_)=>?_);subst hr)|refine wJ ?_|refine nJ ?_)<;>conv=>whnf))
   all_goals rfl
 ·have:k=l.length:=by omega
  subst this
  rw[List.take_length]at h2
  rw[all_ok h2]
  (conv=>whnf);(repeat'((first|apply bT|apply bF|apply bN|((first|apply bD|apply bEq|apply bNe)<;>intro hh<;>try(exfalso;omega))|refine wJ ?_|refine nJ ?_)<;>conv=>whnf))
  all_goals rfl
theorem p51(f:Fair)(hl:f.se.length<=1000000):FnA Try.prog 51 [.agg f.av] (· = .bool (okF f)):=by
 have hL:(f.se.map jAV).length=f.se.length:=by simp
 have e1:=p76 f.p 0 999
 have e2:=p77 f.se hl
 unfold okF
 refine fnA 1 ok51 (by simp) ?_
 by_cases h1:0<=f.p/\f.p<=999
 ·rw[decide_eq_true h1]at e1⊢
  by_cases h2:f.se.length=4
  ·rw[decide_eq_true h2,Bool.true_and,Bool.true_and]
   (conv=>whnf);(repeat'((first|apply bT|apply bF|apply bN|((first|apply bD|apply bEq|apply bNe)<;>intro hh<;>try(exfalso;omega))|refine e1.cq rfl rfl ?_|refine e2.cq rfl rfl ?_|refine wJ ?_|refine nJ ?_)<;>conv=>whnf))
   all_goals rfl
  ·rw[decide_eq_false h2]
   (conv=>whnf);(repeat'((first|apply bT|apply bF|apply bN|((first|apply bD|apply bEq|apply bNe)<;>intro hh<;>try(exfalso;omega))|refine e1.cq rfl rfl ?_|refine e2.cq rfl rfl ?_|refine wJ ?_|refine nJ ?_)<;>conv=>whnf))
   all_goals rfl
 ·rw[decide_eq_false h1]at e1⊢
  (conv=>whnf);(repeat'((first|apply bT|apply bF|apply bN|((first|apply bD|apply bEq|apply bNe)<;>intro hh<;>try(exfalso;omega))|refine e1.cq rfl rfl ?_|refine e2.cq rfl rfl ?_|refine wJ ?_|refine nJ ?_)<;>conv=>whnf))
  all_goals rfl
theorem p50(t:Tour)(h:Sml t):FnA Try.prog 50 [.isl (t.fs.map Fair.av), .fn 51 []] (· = .bool (t.fs.all (okF))):=by
 have hR:=h.fs
 have hL:(t.fs.map Fair.av).length=t.fs.length:=by simp
 refine fnA 1 ok50 (by simp) ?_
 (conv=>whnf);(repeat'((first|apply bT|apply bF|apply bN|((first|apply bD|apply bEq|apply bNe)<;>intro hh<;>try(exfalso;omega))|refine wJ ?_|refine nJ ?_)<;>conv=>whnf))
 refine loop_i (α :=Nat) (fun k=>[(9, .int .i64 k),(8, .int .i64 ↑(t.fs.map Fair.av).length),(7, .isl (t.fs.map Fair.av)),(1, .fn 51 [])]) (fun k=>[.fresh]) (fun k=>k<=t.fs.length/\∀b∈t.fs.take k,(okF) b=true) (fun k=>t.fs.length-k) 0 mI ⟨by omega,by simp⟩ ?_
 rintro k ⟨h1,h2⟩
 conv=>whnf
 refine bD (fun h3=>?_) (fun h3=>?_)
 ·have hk:k<t.fs.length:=by omega
  have hv:FnV Try.prog (.fn 51 []) [.agg t.fs[k].av] (· = .bool ((okF) t.fs[k])):=fnV_of bd51 (p51 t.fs[k] (by have:=h.se _ (List.getElem_mem hk);omega))
  cases hx:(okF) t.fs[k]with
  |true=>
   rw[hx]at hv
   (conv=>whnf);(repeat'((first|apply bT|apply bF|apply bN|((first|apply bD|apply bEq|apply bNe)<;>intro hh<;>try(exfalso;omega))|refine iaJ (getM Fair.av t.fs k hk) ?_|(refine hv.vcallq rfl rfl rfl rfl (fun r (hr:r=_)=>?_);subst hr)|refine wJ ?_|refine nJ ?_)<;>conv=>whnf))
   exact⟨k+1,mI,⟨by omega,take_all hk h2 hx⟩,by omega⟩
  |false=>
   rw[hx]at hv
   rw[all_no hk hx]
   (conv=>whnf);(repeat'((first|apply bT|apply bF|apply bN|((first|apply bD|apply bEq|apply bNe)<;>intro hh<;>try(exfalso;omega))|refine iaJ (getM Fair.av t.fs k hk) ?_|(refine hv.vcallq rfl rfl rfl rfl (fun r (hr:r=_)=>?_);subst hr)|refine wJ ?_|refine nJ ?_)<;>conv=>whnf))
   all_goals rfl
 ·have:k=t.fs.length:=by omega
  subst this
  rw[List.take_length]at h2
  rw[all_ok h2]
  (conv=>whnf);(repeat'((first|apply bT|apply bF|apply bN|((first|apply bD|apply bEq|apply bNe)<;>intro hh<;>try(exfalso;omega))|refine wJ ?_|refine nJ ?_)<;>conv=>whnf))
  all_goals rfl
theorem p46(t:Tour)(h:Sml t):FnA Try.prog 46 [.agg t.cells] (· = .bool t.hd):=by
 have lr:(t.rn.map Rain.av).length=t.rn.length:=by simp
 have lf:(t.fs.map Fair.av).length=t.fs.length:=by simp
 have hr:=h.rn
 have hf:=h.fs
 have e1:=p76 t.ds 1 6
 have e2:=p76 t.st 0 3
 have e3:=p76 t.wr 0 10
 have e4:=p76 t.rc 0 4
 have e5:=p76 t.sk 0 999
 have e7:=p76 (t.fs.map Fair.av).length 1 4
 unfold Tour.hd
 refine fnA 1 ok46 (by simp) ?_
 by_cases h1:1<=t.ds/\t.ds<=6
 case neg=>rw[decide_eq_false h1]at e1;(conv=>whnf);(repeat'((first|apply bT|apply bF|apply bN|((first|apply bD|apply bEq|apply bNe)<;>intro hh<;>try(exfalso;omega))|refine e1.cq rfl rfl ?_|refine e2.cq rfl rfl ?_|refine e3.cq rfl rfl ?_|refine e4.cq rfl rfl ?_|refine e5.cq rfl rfl ?_|refine e7.cq rfl rfl ?_|refine wJ ?_|refine nJ ?_)<;>conv=>whnf));all_goals exact congrArg AV.bool (decide_eq_false (by omega)).symm
 rw[decide_eq_true h1]at e1
 by_cases h2:0<=t.st/\t.st<=3
 case neg=>rw[decide_eq_false h2]at e2;(conv=>whnf);(repeat'((first|apply bT|apply bF|apply bN|((first|apply bD|apply bEq|apply bNe)<;>intro hh<;>try(exfalso;omega))|refine e1.cq rfl rfl ?_|refine e2.cq rfl rfl ?_|refine e3.cq rfl rfl ?_|refine e4.cq rfl rfl ?_|refine e5.cq rfl rfl ?_|refine e7.cq rfl rfl ?_|refine wJ ?_|refine nJ ?_)<;>conv=>whnf));all_goals exact congrArg AV.bool (decide_eq_false (by omega)).symm
 rw[decide_eq_true h2]at e2
 by_cases h3:0<=t.wr/\t.wr<=10
 case neg=>rw[decide_eq_false h3]at e3;(conv=>whnf);(repeat'((first|apply bT|apply bF|apply bN|((first|apply bD|apply bEq|apply bNe)<;>intro hh<;>try(exfalso;omega))|refine e1.cq rfl rfl ?_|refine e2.cq rfl rfl ?_|refine e3.cq rfl rfl ?_|refine e4.cq rfl rfl ?_|refine e5.cq rfl rfl ?_|refine e7.cq rfl rfl ?_|refine wJ ?_|refine nJ ?_)<;>conv=>whnf));all_goals exact congrArg AV.bool (decide_eq_false (by omega)).symm
 rw[decide_eq_true h3]at e3
 by_cases h4:0<=t.rc/\t.rc<=4
 case neg=>rw[decide_eq_false h4]at e4;(conv=>whnf);(repeat'((first|apply bT|apply bF|apply bN|((first|apply bD|apply bEq|apply bNe)<;>intro hh<;>try(exfalso;omega))|refine e1.cq rfl rfl ?_|refine e2.cq rfl rfl ?_|refine e3.cq rfl rfl ?_|refine e4.cq rfl rfl ?_|refine e5.cq rfl rfl ?_|refine e7.cq rfl rfl ?_|refine wJ ?_|refine nJ ?_)<;>conv=>whnf));all_goals exact congrArg AV.bool (decide_eq_false (by omega)).symm
 rw[decide_eq_true h4]at e4
 by_cases h5:0<=t.sk/\t.sk<=999
 case neg=>rw[decide_eq_false h5]at e5;(conv=>whnf);(repeat'((first|apply bT|apply bF|apply bN|((first|apply bD|apply bEq|apply bNe)<;>intro hh<;>try(exfalso;omega))|refine e1.cq rfl rfl ?_|refine e2.cq rfl rfl ?_|refine e3.cq rfl rfl ?_|refine e4.cq rfl rfl ?_|refine e5.cq rfl rfl ?_|refine e7.cq rfl rfl ?_|refine wJ ?_|refine nJ ?_)<;>conv=>whnf));all_goals exact congrArg AV.bool (decide_eq_false (by omega)).symm
 rw[decide_eq_true h5]at e5
 (conv=>whnf);(repeat'((first|apply bT|apply bF|apply bN|((first|apply bD|apply bEq|apply bNe)<;>intro hh<;>try(exfalso;omega))|refine e1.cq rfl rfl ?_|refine e2.cq rfl rfl ?_|refine e3.cq rfl rfl ?_|refine e4.cq rfl rfl ?_|refine e5.cq rfl rfl ?_|refine e7.cq rfl rfl ?_|refine wJ ?_|refine nJ ?_)<;>conv=>whnf))
 all_goals first|rfl|exact congrArg AV.bool (decide_eq_decide.2 (by omega))|exact congrArg AV.bool (decide_eq_true (by omega)).symm|exact congrArg AV.bool (decide_eq_false (by omega)).symm
theorem p15(t:Tour)(h:Sml t):FnA Try.prog 15 [.agg t.cells] (· = .int .i64 (if t.ok=true then 0 else 110)):=by
 have e1:=p46 t h
 have e3:=p50 t h
 unfold Tour.ok
 refine fnA 1 ok15 (by simp) ?_
 cases hh:t.hd<;>rw[hh]at e1
 ·(conv=>whnf);(repeat'((first|apply bT|apply bF|apply bN|((first|apply bD|apply bEq|apply bNe)<;>intro hh<;>try(exfalso;omega))|refine e1.cq rfl rfl ?_|refine wJ ?_|refine nJ ?_)<;>conv=>whnf))
  all_goals rfl
 have hd:1<=t.ds/\t.ds<=6:=by
  rw[Tour.hd,decide_eq_true_eq]at hh;exact hh.1
 have e2:=p47 t h hd
 cases h2:t.rn.all (okR t)<;>rw[h2]at e2
 ·(conv=>whnf);(repeat'((first|apply bT|apply bF|apply bN|((first|apply bD|apply bEq|apply bNe)<;>intro hh<;>try(exfalso;omega))|refine e1.cq rfl rfl ?_|refine e2.lq rfl rfl ?_|refine wJ ?_|refine nJ ?_)<;>conv=>whnf))
  all_goals rfl
 cases h3:t.fs.all okF<;>rw[h3]at e3
 ·(conv=>whnf);(repeat'((first|apply bT|apply bF|apply bN|((first|apply bD|apply bEq|apply bNe)<;>intro hh<;>try(exfalso;omega))|refine e1.cq rfl rfl ?_|refine e2.lq rfl rfl ?_|refine e3.cq rfl rfl ?_|refine wJ ?_|refine nJ ?_)<;>conv=>whnf))
  all_goals rfl
 ·(conv=>whnf);(repeat'((first|apply bT|apply bF|apply bN|((first|apply bD|apply bEq|apply bNe)<;>intro hh<;>try(exfalso;omega))|refine e1.cq rfl rfl ?_|refine e2.lq rfl rfl ?_|refine e3.cq rfl rfl ?_|refine wJ ?_|refine nJ ?_)<;>conv=>whnf))
  all_goals rfl
theorem p54(rn:List Rain)(l:List Int)(hr:rn.length<=1000000)(hl:l.length<=1000000)(hd:∀x∈rn,0<=x.d/\x.d.toNat<l.length):FnA Try.prog 54 [.isl (rn.map Rain.av), .isl (l.map jAV)] (· = .int .i64 (wrK rn l rn.length)):=by
 have hR:(rn.map Rain.av).length=rn.length:=by simp
 have hw:∀k,0<=wrK rn l k/\wrK rn l k<=k:=fun k=>by
  induction k with
  |zero=>simp[wrK]
  |succ k ih=>rw[wrK];split<;>omega
 refine fnA 1 ok54 (by simp) ?_
 (conv=>whnf);(repeat'((first|apply bT|apply bF|apply bN|((first|apply bD|apply bEq|apply bNe)<;>intro hh<;>try(exfalso;omega))|refine wJ ?_|refine nJ ?_)<;>conv=>whnf))
 refine loop_i (α :=Nat) (fun k=>[(10, .int .i64 k),(9, .int .i64 ↑(rn.map Rain.av).length),(8, .isl (rn.map Rain.av)),(5, .int .i64 (wrK rn l k)),(1, .isl (l.map jAV))]) (fun k=>[.fresh]) (fun k=>k<=rn.length) (fun k=>rn.length-k) 0 mI (by simp) ?_
 rintro k h1
 have hk1:=hw k
 conv=>whnf
 refine bD (fun h3=>?_) (fun h3=>?_)
 ·have hk:k<rn.length:=by omega
  have g1:=getM Rain.av rn k hk
  have hx:=hd _ (List.getElem_mem hk)
  have e1:=p64 rn[k] l hx.1 hx.2 hl
  have ek:wrK rn l (k+1)=wrK rn l k+if isRt rn[k] l=true then 0 else 1:=by
   rw[wrK,show rn.getD k ⟨0,0,0⟩=rn[k] from by simp[List.getD_eq_getElem?_getD,hk]]
  cases hb:isRt rn[k] l<;>rw[hb]at e1 ek
  ·(conv=>whnf);(repeat'((first|apply bT|apply bF|apply bN|((first|apply bD|apply bEq|apply bNe)<;>intro hh<;>try(exfalso;omega))|refine iaJ g1 ?_|refine e1.cq rfl rfl ?_|refine wJ ?_|refine nJ ?_)<;>conv=>whnf))
   exact⟨k+1,by rw[ek,if_neg (by simp)];exact mI,by omega,by omega⟩
  ·(conv=>whnf);(repeat'((first|apply bT|apply bF|apply bN|((first|apply bD|apply bEq|apply bNe)<;>intro hh<;>try(exfalso;omega))|refine iaJ g1 ?_|refine e1.cq rfl rfl ?_|refine wJ ?_|refine nJ ?_)<;>conv=>whnf))
   exact⟨k+1,by rw[ek,if_pos rfl,Int.add_zero];exact mI,by omega,by omega⟩
 ·have:k=rn.length:=by omega
  subst this
  (conv=>whnf);(repeat'((first|apply bT|apply bF|apply bN|((first|apply bD|apply bEq|apply bNe)<;>intro hh<;>try(exfalso;omega))|refine wJ ?_|refine nJ ?_)<;>conv=>whnf))
  all_goals rfl
def cmn:List Int->List Int->Nat
 |x::a,y::b=>if x=y then cmn a b+1 else 0
 |_,_=>0
theorem cmn_eq:∀ {a b:List Int} {n:Nat},n<=a.length->n<=b.length->(∀i,i<n->a.getD i 0=b.getD i 0)->(n=a.length\/n=b.length\/a.getD n 0≠b.getD n 0)->cmn a b=n
 | [],b,n,h1,_,_,_=>by
                have:n=0:=by simpa using h1
                subst this;simp[cmn]
 |x::a,[],n,_,h2,_,_=>by
                   have:n=0:=by simpa using h2
                   subst this;simp[cmn]
 |x::a,y::b,0,_,_,_,h=>by
  have:x≠y:=by
   rcases h with h|h|h
   ·simp at h
   ·simp at h
   ·simpa using h
  simp[cmn,this]
 |x::a,y::b,n+1,h1,h2,h3,h4=>by
  have:x=y:=by simpa using h3 0 (by omega)
  subst this
  have ih:=cmn_eq (a:=a) (b:=b) (n:=n) (by simpa using h1) (by simpa using h2) (fun i hi=>by simpa using h3 (i+1) (by omega)) (by simpa using h4)
  simp[cmn,ih]
theorem cmn_spec:∀(a b:List Int),cmn a b<=a.length/\cmn a b<=b.length/\∀i,i<cmn a b->a.getD i 0=b.getD i 0
 | [],b=>by simp[cmn]
 |x::a,[]=>by simp[cmn]
 |x::a,y::b=>by
  rw[cmn]
  split
  ·rename_i e
   obtain⟨h1,h2,h3⟩:=cmn_spec a b
   refine⟨by simpa using h1,by simpa using h2,fun i hi=>?_⟩
   cases i with
   |zero=>simpa using e
   |succ i=>simpa using h3 i (by omega)
  ·exact⟨by omega,by omega,fun i hi=>by omega⟩
theorem p90(a b:List Int)(ha:a.length<=1000000)(hb:b.length<=1000000):FnA Try.prog 90 [.isl (a.map jAV), .isl (b.map jAV)] (· = .int .i64 (cmn a b)):=by
 have hA:(a.map jAV).length=a.length:=by simp
 have hB:(b.map jAV).length=b.length:=by simp
 have hm:(if false=true then max ((a.map jAV).length:Int) (b.map jAV).length else min ((a.map jAV).length:Int) (b.map jAV).length)=min ((a.map jAV).length:Int) (b.map jAV).length:=rfl
 refine fnA 0 ok90 (by simp) ?_
 (conv=>whnf);(repeat'((first|apply bT|apply bF|apply bN|((first|apply bD|apply bEq|apply bNe)<;>intro hh<;>try(exfalso;omega))|refine wJ ?_|refine nJ ?_)<;>conv=>whnf))
 refine loop_i (α :=Nat) (fun k=>[(5, .int .i64 k),(1, .isl (b.map jAV)),(0, .isl (a.map jAV))]) (fun k=>[]) (fun k=>k<=a.length/\k<=b.length/\∀i,i<k->a.getD i 0=b.getD i 0) (fun k=>a.length-k) 0 mI ⟨by omega,by omega,fun i hi=>by omega⟩ ?_
 rintro k ⟨h1,h2,h3⟩
 by_cases hk:k<a.length/\k<b.length
 ·have g1:=getJ a k hk.1
  have g2:=getJ b k hk.2
  by_cases hx:a.getD k 0=b.getD k 0
  ·(conv=>whnf);(repeat'((first|apply bT|apply bF|apply bN|((first|apply bD|apply bEq|apply bNe)<;>intro hh<;>try(exfalso;omega))|refine iaJ g1 ?_|refine iaJ g2 ?_|refine wJ ?_|refine nJ ?_)<;>conv=>whnf))
   all_goals exact⟨k+1,mI,⟨by omega,by omega,fun i hi=>by
    by_cases e:i=k
    ·subst e;exact hx
    ·exact h3 i (by omega)⟩,by omega⟩
  ·have e:=cmn_eq (n:=k) h1 h2 h3 (.inr (.inr hx))
   rw[e]
   (conv=>whnf);(repeat'((first|apply bT|apply bF|apply bN|((first|apply bD|apply bEq|apply bNe)<;>intro hh<;>try(exfalso;omega))|refine iaJ g1 ?_|refine iaJ g2 ?_|refine wJ ?_|refine nJ ?_)<;>conv=>whnf))
   all_goals rfl
 ·have e:=cmn_eq (n:=k) h1 h2 h3 (by omega)
  rw[e]
  (conv=>whnf);(repeat'((first|apply bT|apply bF|apply bN|((first|apply bD|apply bEq|apply bNe)<;>intro hh<;>try(exfalso;omega))|refine wJ ?_|refine nJ ?_)<;>conv=>whnf))
  all_goals rfl
theorem p88(t:List Int)(h0:0<t.length)(ht:t.length<=1000000):FnO Try.prog 88 [.isl (t.map jAV)] (fun r rows=>r = .row 1/\rows=[(1, .row false 3 1 (t.map jAV))]):=by
 have hL:(t.map jAV).length=t.length:=by simp
 refine fnO 2 ok88 (by simp) ?_
 (conv=>whnf);(repeat'((first|apply bT|apply bF|apply bN|((first|apply bD|apply bEq|apply bNe)<;>intro hh<;>try(exfalso;omega))|(refine apI (fun e he=>j_one t e he) (by simp only[List.length_nil,hL];omega) ?_)|refine wJ ?_|refine nJ ?_)<;>conv=>whnf))
 all_goals exact⟨rfl,rfl⟩
def aft(f:Fair)(v:Int)(q:Int × Int):Int × Int:=(q.1+min q.2 (f.se.getD v.toNat 0)*f.p,q.2-min q.2 (f.se.getD v.toNat 0))
theorem p94(f:Fair)(v a b:Int)(h0:0<=v)(h1:v.toNat<f.se.length)(hl:f.se.length<=1000000)(ha:0<=a/\a<=1000000000)(hb:0<=b/\b<=999)(hp:0<=f.p/\f.p<=999)(hv:0<=f.se.getD v.toNat 0/\f.se.getD v.toNat 0<=99) :
  FnA Try.prog 94 [.agg [.int .i64 a, .int .i64 b], .agg f.av, .int .i64 v] (· = .agg [.int .i64 (aft f v (a,b)).1, .int .i64 (aft f v (a,b)).2]):=by
 have hL:(f.se.map jAV).length=f.se.length:=by simp
 have g1:=getJ f.se v.toNat h1
 unfold aft
 generalize f.se.getD v.toNat 0=x at g1 hv⊢
 have hn:(if false=true then max x b else min x b)=min b x:=by rw[if_neg (by simp)];omega
 have hq:0<=(if false=true then max x b else min x b)*f.p/\(if false=true then max x b else min x b)*f.p<=98901:=by
  rw[hn]
  have h2:0<=min b x/\min b x<=99:=by omega
  refine⟨Int.mul_nonneg h2.1 hp.1,?_⟩
  exact Int.le_trans (Int.mul_le_mul h2.2 hp.2 hp.1 (by omega)) (by omega)
 refine fnA 3 ok94 (by simp) ?_
 (conv=>whnf);(repeat'((first|apply bT|apply bF|apply bN|((first|apply bD|apply bEq|apply bNe)<;>intro hh<;>try(exfalso;omega))|refine iaJ g1 ?_|refine wJ ?_|refine nJ ?_)<;>conv=>whnf))
 all_goals
  show AV.agg [.int .i64 (a+(if false=true then max x b else min x b)*f.p), .int .i64 (b-(if false=true then max x b else min x b))]=_
  rw[hn]
theorem p86(t:Tour)(h:Sml t)(r:List Int)(hr:r.length<=100):FnA Try.prog 86 [.agg t.cells, .isl (r.map jAV)] (fun v=>∃b,v = .bool b/\(t.ok=true->b=isRte t r)):=by
 have hL:(r.map jAV).length=r.length:=by simp
 have e1:=p77r t h r (by omega)
 have hfs:=h.fs
 refine fnA 1 ok86 (by simp) ?_
 by_cases hl:(r.length:Int)=t.ds
 case neg=>
  (conv=>whnf);(repeat'((first|apply bT|apply bF|apply bN|((first|apply bD|apply bEq|apply bNe)<;>intro hh<;>try(exfalso;omega))|refine e1.lq rfl rfl ?_|refine wJ ?_|refine nJ ?_)<;>conv=>whnf))
  all_goals exact⟨_,rfl,fun _=>by rw[isRte,isRow,decide_eq_false hl,Bool.and_false]⟩
 cases ha:r.all (fun v=>decide (0<=v/\v<=(t.fs.length:Int)-1))<;>rw[ha]at e1
 ·(conv=>whnf);(repeat'((first|apply bT|apply bF|apply bN|((first|apply bD|apply bEq|apply bNe)<;>intro hh<;>try(exfalso;omega))|refine e1.lq rfl rfl ?_|refine wJ ?_|refine nJ ?_)<;>conv=>whnf))
  all_goals exact⟨_,rfl,fun _=>by
   rw[isRte,isRow,decide_eq_false (fun hp=>?_),Bool.false_and]
   rw[List.all_eq_false]at ha
   obtain⟨x,hx,hb⟩:=ha
   obtain⟨i,hi,rfl⟩:=List.getElem_of_mem hx
   have:=(hp i hi).1
   simp only[List.getD_eq_getElem?_getD,List.getElem?_eq_getElem hi,Option.getD_some]at this
   exact hb (by simpa using this)⟩
 have hv:∀i,i<r.length->0<=r.getD i 0/\r.getD i 0<=(t.fs.length:Int)-1:=fun i hi=>by
  have:=List.all_eq_true.1 ha _ (List.getElem_mem hi)
  simpa[List.getD_eq_getElem?_getD,List.getElem?_eq_getElem hi]using this
 (conv=>whnf);(repeat'((first|apply bT|apply bF|apply bN|((first|apply bD|apply bEq|apply bNe)<;>intro hh<;>try(exfalso;omega))|refine e1.lq rfl rfl ?_|refine wJ ?_|refine nJ ?_)<;>conv=>whnf))
 refine loop_i (α :=Nat) (fun k=>[(5, .int .i64 (k+1)),(1, .isl (r.map jAV)),(2, .own 0 0)]) (fun k=>[.box false t.cells]) (fun k=>k<=r.length/\(k=0\/k<r.length)/\(t.ok=true->∀i,0<i->i<k+1->stepP t.rc (r.getD i 0-r.getD (i-1) 0))) (fun k=>r.length-k) 0 mI ⟨by omega,by omega,fun _ i hi=>by omega⟩ ?_
 rintro k ⟨h1,h2,h3⟩
 conv=>whnf
 refine bD (fun h4=>?_) (fun h4=>?_)
 ·have n1:((k:Int)+1-1).toNat=k:=by omega
  have n2:((k:Int)+1).toNat=k+1:=by omega
  have g1:=getJ r ((k:Int)+1-1).toNat (by omega)
  have g2:=getJ r ((k:Int)+1).toNat (by omega)
  have b1:=hv k (by omega)
  have b2:=hv (k+1) (by omega)
  by_cases ho:t.ok=true
  ·have ht:=ok_iff.1 ho
   have c1:=ht.c0;have c2:=ht.c4
   have e2:=p82 (r.getD ((k:Int)+1-1).toNat 0) (r.getD ((k:Int)+1).toNat 0) t.rc (by rw[n1];omega) (by rw[n2];omega) (by omega)
   by_cases hs:stepP t.rc (r.getD ((k:Int)+1-1).toNat 0-r.getD ((k:Int)+1).toNat 0)
   ·rw[decide_eq_true hs]at e2
    (conv=>whnf);(repeat'((first|apply bT|apply bF|apply bN|((first|apply bD|apply bEq|apply bNe)<;>intro hh<;>try(exfalso;omega))|refine iaJ g1 ?_|refine iaJ g2 ?_|refine e2.cq rfl rfl ?_|refine wJ ?_|refine nJ ?_)<;>conv=>whnf))
    refine⟨k+1,mI,⟨by omega,by omega,fun _ i hi hi2=>?_⟩,by omega⟩
    by_cases e:i=k+1
    ·subst e
     show stepP t.rc (r.getD (k+1) 0-r.getD k 0)
     rw[n1,n2]at hs;unfold stepP at hs⊢;omega
    ·exact h3 ho i hi (by omega)
   ·rw[decide_eq_false hs]at e2
    (conv=>whnf);(repeat'((first|apply bT|apply bF|apply bN|((first|apply bD|apply bEq|apply bNe)<;>intro hh<;>try(exfalso;omega))|refine iaJ g1 ?_|refine iaJ g2 ?_|refine e2.cq rfl rfl ?_|refine wJ ?_|refine nJ ?_)<;>conv=>whnf))
    all_goals exact⟨_,rfl,fun _=>by
     rw[isRte,isRow,decide_eq_false (fun hp=>?_),Bool.false_and]
     have:=(hp (k+1) (by omega)).2 (by omega)
     rw[show k+1-1=k from rfl]at this
     rw[n1,n2]at hs;unfold stepP at hs this;omega⟩
  ·(conv=>whnf);(repeat'((first|apply bT|apply bF|apply bN|((first|apply bD|apply bEq|apply bNe)<;>intro hh<;>try(exfalso;omega))|refine iaJ g1 ?_|refine iaJ g2 ?_|((refine(p82u _ _ _).callq rfl rfl (fun r hr=>?_);obtain⟨c,rfl⟩:=hr;cases c))|refine wJ ?_|refine nJ ?_)<;>conv=>whnf))
   ·exact⟨_,rfl,fun h=>absurd h ho⟩
   ·exact⟨k+1,mI,⟨by omega,by omega,fun h=>absurd h ho⟩,by omega⟩
 ·(conv=>whnf);(repeat'((first|apply bT|apply bF|apply bN|((first|apply bD|apply bEq|apply bNe)<;>intro hh<;>try(exfalso;omega))|refine wJ ?_|refine nJ ?_)<;>conv=>whnf))
  all_goals exact⟨_,rfl,fun ho=>by
   rw[isRte,isRow,decide_eq_true hl,decide_eq_true (show rowP ((t.fs.length:Int)-1) t.rc r r.length from fun i hi=>⟨hv i hi,fun h0=>h3 ho i h0 (by omega)⟩)];rfl⟩
def lsL(ys:List (List Int))(k:Nat)(el:TypeId)(sz:Nat)(es:List (List AV))(k':Nat):Prop:=el=3/\sz=1/\(∃l,ys[k]?=some l/\es=l.map jAV)/\k'=k+1
theorem jflat(l:List Int):AV.flatL (l.map jAV).flatten=true:=by
 induction l with
 |nil=>rfl
 |cons a l ih=>simp only[List.map_cons,List.flatten_cons,jAV,List.cons_append,List.nil_append,AV.flatL,AV.flat,Bool.true_and];exact ih
theorem rwK_cut{F:List Int->List (List Int)}{step:Int}{f:List Int}:∀ {m i:Nat},i<m->∃rest,rwK F step f m=rwK F step f i++((if 0<f.length/\¬stepP step ((i:Int)-f.getD (f.length-1) 0) then [] else F (f++[(i:Int)]))++rest)
 |m+1,i,h=>by
  by_cases e:i=m
  ·subst e;exact⟨[],by rw[rwK,List.append_nil]⟩
  ·obtain⟨r,hr⟩:=rwK_cut (F:=F) (step:=step) (f:=f) (m:=m) (i:=i) (by omega)
   exact⟨r++(if 0<f.length/\¬stepP step ((m:Int)-f.getD (f.length-1) 0) then [] else F (f++[(m:Int)])),by rw[rwK,hr];simp only[List.append_assoc]⟩
theorem y81(ys:List (List Int))(most step:Int)(L:Nat)(hm:0<=most/\most<=1000)(hs:0<=step/\step<=1000000)(hL:L<=100):∀(n:Nat) (row:List Int) (pre post:List (List Int)) (a:Nat),a+n=L->row.length=L->(∀i,i<a->0<=row.getD i 0/\row.getD i 0<=1000)->ys=pre++(rws most step n (row.take a)++post) ->
  FnY Try.prog (fun _ _ _=>False) (lsL ys) 81 [.int .i64 a, .ipt [.int .i64 L], .own 0 0, .own 1 0, .ipt [.int .i64 most], .ipt [.int .i64 step], .own 2 0] [.box false [.yld], .box false [.row 3], .box false [.fn 81 [.ipt [.int .i64 L], .own 0 0, .own 1 0, .ipt [.int .i64 most], .ipt [.int .i64 step], .own 2 0]], .row false 3 1 (row.map jAV)] pre.length
   (fun r outs k' st'=>∃row':List Int,row'.length=L/\row'.take a=row.take a/\r = .bool (!st')/\(st'=false->k'=pre.length+(rws most step n (row.take a)).length)/\outs=[.box false [.yld], .box false [.row 3], .box false [.fn 81 [.ipt [.int .i64 L], .own 0 0, .own 1 0, .ipt [.int .i64 most], .ipt [.int .i64 step], .own 2 0]], .row false 3 1 (row'.map jAV)]):=by
 intro n;induction n with
 |zero=>
  intro row pre post a ha hr hv hy
  have hak:row.take a=row:=by rw[List.take_of_length_le (by omega)]
  rw[hak,rws]at hy
  rw[hak,rws]
  have hg:ys[pre.length]?=some row:=by rw[hy];simp
  refine fnY 0 [] ok81 (by simp) rfl rfl ?_
  (conv=>whnf);(repeat'((first|apply bT|apply bF|apply bN|((first|apply bD|apply bEq|apply bNe)<;>intro hh<;>try(exfalso;omega))|refine wJ ?_|refine nJ ?_)<;>conv=>whnf))
  refine yL (pre.length+1) rfl rfl (jflat row) ⟨rfl,rfl,⟨row,hg,rfl⟩,rfl⟩ ?_ ?_
  ·(conv=>whnf);(repeat'((first|apply bT|apply bF|apply bN|((first|apply bD|apply bEq|apply bNe)<;>intro hh<;>try(exfalso;omega))|refine wJ ?_|refine nJ ?_)<;>conv=>whnf))
   exact⟨row,hr,hak,rfl,fun _=>rfl,rfl⟩
  ·(conv=>whnf);(repeat'((first|apply bT|apply bF|apply bN|((first|apply bD|apply bEq|apply bNe)<;>intro hh<;>try(exfalso;omega))|refine wJ ?_|refine nJ ?_)<;>conv=>whnf))
   exact⟨row,hr,hak,rfl,fun h=>absurd h (by simp),rfl⟩
 |succ n ih=>
  intro row pre post a ha hr hv hy
  rw[rws]at hy
  rw[rws]
  have hfl:(row.take a).length=a:=by rw[List.length_take];omega
  refine fnY 0 [] ok81 (by simp) rfl rfl ?_
  (conv=>whnf);(repeat'((first|apply bT|apply bF|apply bN|((first|apply bD|apply bEq|apply bNe)<;>intro hh<;>try(exfalso;omega))|refine wJ ?_|refine nJ ?_)<;>conv=>whnf))
  refine loop_y (α :=Nat × List Int) (fun z=>[(18, .int .i64 z.1),(17, .int .i64 (most+1)),(0, .int .i64 a),(2, .own 0 0),(3, .own 1 0),(5, .ipt [.int .i64 step]),(6, .own 2 0)]) (fun z=>[.box false [.yld], .box false [.row 3], .box false [.fn 81 [.ipt [.int .i64 L], .own 0 0, .own 1 0, .ipt [.int .i64 most], .ipt [.int .i64 step], .own 2 0]], .row false 3 1 (z.2.map jAV)])
   (fun z=>⟨[0,1,2,3],pre.length+(rwK (rws most step n) step (row.take a) z.1).length,false⟩) (fun z=>z.1<=most.toNat+1/\z.2.length=L/\z.2.take a=row.take a) (fun z=>most.toNat+1-z.1) (0,row) mI ⟨by simp,hr,rfl⟩ ?_
  rintro⟨i,row2⟩ ⟨h1,h2,h3⟩
  dsimp only at h1 h2 h3⊢
  conv=>whnf
  refine bD (fun h4=>?_) (fun h4=>?_)
  ·have hk1:i<most.toNat+1:=by omega
   obtain⟨rest,hcut⟩:=rwK_cut (F:=rws most step n) (step:=step) (f:=row.take a) hk1
   have q0:∀j,j<a->row2.getD j 0=row.getD j 0:=fun j hj=>by
    have e1:(row2.take a).getD j 0=row2.getD j 0:=by simp[List.getD_eq_getElem?_getD,List.getElem?_take,hj]
    have e2:(row.take a).getD j 0=row.getD j 0:=by simp[List.getD_eq_getElem?_getD,List.getElem?_take,hj]
    rw[<- e1,h3,e2]
   have q2:∀j,j<a->(row.take a).getD j 0=row.getD j 0:=fun j hj=>by simp[List.getD_eq_getElem?_getD,List.getElem?_take,hj]
   rw[hfl]at hcut
   have hL2:(row2.map jAV).length=row2.length:=by simp
   by_cases ha0:0<a
   ·have n1:((a:Int)-1).toNat=a-1:=by omega
    have g1:=getJ row2 ((a:Int)-1).toNat (by omega)
    have b1:=hv (a-1) (by omega)
    rw[<- q0 (a-1) (by omega)]at b1
    have e2:=p82 (row2.getD ((a:Int)-1).toNat 0) i step (by rw[n1];omega) (by omega) (by omega)
    by_cases hs1:stepP step (row2.getD ((a:Int)-1).toNat 0-i)
    ·rw[decide_eq_true hs1]at e2
     have hseg:(if 0<a/\¬stepP step ((i:Int)-(row.take a).getD (a-1) 0) then [] else rws most step n (row.take a++[(i:Int)]))=rws most step n (row.take a++[(i:Int)]):=if_neg (by
      rintro⟨z1,z2⟩
      rw[q2 _ (by omega),<- q0 _ (by omega),<- n1]at z2;unfold stepP at hs1 z2;omega)
     have ht1:(row2.set a (i:Int)).take (a+1)=row.take a++[(i:Int)]:=by
      rw[List.take_succ_eq_append_getElem (by simp;omega),List.getElem_set_self,<- h3]
      simp[List.take_set_of_le]
     have ek:(rwK (rws most step n) step (row.take a) (i+1)).length=(rwK (rws most step n) step (row.take a) i).length+(rws most step n ((row2.set a (i:Int)).take (a+1))).length:=by
      rw[rwK,hfl,hseg,List.length_append,ht1]
     have hset:(row2.set a (i:Int)).map jAV=(row2.map jAV).set ((a:Int)).toNat [.int .i64 i]:=by rw[List.map_set];rfl
     have hih:=ih (row2.set a (i:Int)) (pre++rwK (rws most step n) step (row.take a) i) (rest++post) (a+1) (by omega) (by simp[h2]) (fun j hj=>by
      by_cases e:j=a
      ·subst e;simp[List.getD_eq_getElem?_getD,show j<row2.length by omega];omega
      ·have:=hv j (by omega)
       rw[<- q0 j (by omega)]at this
       simpa[List.getD_eq_getElem?_getD,List.getElem?_set,Ne.symm e]using this) (by rw[hy,hcut,hseg,ht1];simp only[List.append_assoc])
     rw[hset,List.length_append,show(((a+1:Nat)):Int)=(a:Int)+1 from by omega]at hih
     (conv=>whnf);(repeat'((first|apply bT|apply bF|apply bN|((first|apply bD|apply bEq|apply bNe)<;>intro hh<;>try(exfalso;omega))|refine iaJ g1 ?_|refine e2.cq rfl rfl ?_|refine iaI (by omega) (by omega) (getJ row2 a (by omega)) ?_|refine wJ ?_|refine nJ ?_)<;>conv=>whnf))
     refine hih.vcallyq [0,1,2,3] rfl bd81 rfl rfl ⟨rfl,rfl,rfl,rfl,trivial⟩ rfl rfl rfl rfl (fun r outs k' st' hr=>?_)
     obtain⟨row4,c1,c2,rfl,c4,rfl⟩:=hr
     have c5:row4.take a=row.take a:=by
      have:=congrArg (List.take a) c2
      rw[List.take_take,List.take_take,Nat.min_eq_left (by omega)]at this
      rw[this,<- h3]
      simp[List.take_set_of_le]
     refine⟨⟨rfl,rfl,rfl⟩,?_⟩
     cases st'
     ·have c6:=c4 rfl
      subst c6
      (conv=>whnf);(repeat'((first|apply bT|apply bF|apply bN|((first|apply bD|apply bEq|apply bNe)<;>intro hh<;>try(exfalso;omega))|refine wJ ?_|refine nJ ?_)<;>conv=>whnf))
      exact⟨(i+1,row4),by dsimp only;rw[ek,<- Nat.add_assoc];exact mI,⟨by dsimp only;omega,c1,c5⟩,by dsimp only;omega⟩
     ·(conv=>whnf);(repeat'((first|apply bT|apply bF|apply bN|((first|apply bD|apply bEq|apply bNe)<;>intro hh<;>try(exfalso;omega))|refine wJ ?_|refine nJ ?_)<;>conv=>whnf))
      exact⟨row4,c1,c5,rfl,fun h=>absurd h (by simp),rfl⟩
    ·rw[decide_eq_false hs1]at e2
     have ek:rwK (rws most step n) step (row.take a) (i+1)=rwK (rws most step n) step (row.take a) i:=by
      rw[rwK,hfl,if_pos ⟨ha0,by rw[q2 _ (by omega),<- q0 _ (by omega),<- n1];unfold stepP at hs1⊢;omega⟩,List.append_nil]
     (conv=>whnf);(repeat'((first|apply bT|apply bF|apply bN|((first|apply bD|apply bEq|apply bNe)<;>intro hh<;>try(exfalso;omega))|refine iaJ g1 ?_|refine e2.cq rfl rfl ?_|refine wJ ?_|refine nJ ?_)<;>conv=>whnf))
     exact⟨(i+1,row2),by dsimp only;rw[ek];exact mI,⟨by dsimp only;omega,h2,h3⟩,by dsimp only;omega⟩
   ·first
    |have hseg:(if 0<a/\¬stepP step ((i:Int)-(row.take a).getD (a-1) 0) then [] else rws most step n (row.take a++[(i:Int)]))=rws most step n (row.take a++[(i:Int)]):=if_neg (by
      rintro⟨z1,z2⟩
      omega)
     have ht1:(row2.set a (i:Int)).take (a+1)=row.take a++[(i:Int)]:=by
      rw[List.take_succ_eq_append_getElem (by simp;omega),List.getElem_set_self,<- h3]
      simp[List.take_set_of_le]
     have ek:(rwK (rws most step n) step (row.take a) (i+1)).length=(rwK (rws most step n) step (row.take a) i).length+(rws most step n ((row2.set a (i:Int)).take (a+1))).length:=by
      rw[rwK,hfl,hseg,List.length_append,ht1]
     have hset:(row2.set a (i:Int)).map jAV=(row2.map jAV).set ((a:Int)).toNat [.int .i64 i]:=by rw[List.map_set];rfl
     have hih:=ih (row2.set a (i:Int)) (pre++rwK (rws most step n) step (row.take a) i) (rest++post) (a+1) (by omega) (by simp[h2]) (fun j hj=>by
      by_cases e:j=a
      ·subst e;simp[List.getD_eq_getElem?_getD,show j<row2.length by omega];omega
      ·have:=hv j (by omega)
       rw[<- q0 j (by omega)]at this
       simpa[List.getD_eq_getElem?_getD,List.getElem?_set,Ne.symm e]using this) (by rw[hy,hcut,hseg,ht1];simp only[List.append_assoc])
     rw[hset,List.length_append,show(((a+1:Nat)):Int)=(a:Int)+1 from by omega]at hih
     (conv=>whnf);(repeat'((first|apply bT|apply bF|apply bN|((first|apply bD|apply bEq|apply bNe)<;>intro hh<;>try(exfalso;omega))|refine iaI (by omega) (by omega) (getJ row2 a (by omega)) ?_|refine wJ ?_|refine nJ ?_)<;>conv=>whnf))
     refine hih.vcallyq [0,1,2,3] rfl bd81 rfl rfl ⟨rfl,rfl,rfl,rfl,trivial⟩ rfl rfl rfl rfl (fun r outs k' st' hr=>?_)
     obtain⟨row4,c1,c2,rfl,c4,rfl⟩:=hr
     have c5:row4.take a=row.take a:=by
      have:=congrArg (List.take a) c2
      rw[List.take_take,List.take_take,Nat.min_eq_left (by omega)]at this
      rw[this,<- h3]
      simp[List.take_set_of_le]
     refine⟨⟨rfl,rfl,rfl⟩,?_⟩
     cases st'
     ·have c6:=c4 rfl
      subst c6
      (conv=>whnf);(repeat'((first|apply bT|apply bF|apply bN|((first|apply bD|apply bEq|apply bNe)<;>intro hh<;>try(exfalso;omega))|refine wJ ?_|refine nJ ?_)<;>conv=>whnf))
      exact⟨(i+1,row4),by dsimp only;rw[ek,<- Nat.add_assoc];exact mI,⟨by dsimp only;omega,c1,c5⟩,by dsimp only;omega⟩
     ·(conv=>whnf);(repeat'((first|apply bT|apply bF|apply bN|((first|apply bD|apply bEq|apply bNe)<;>intro hh<;>try(exfalso;omega))|refine wJ ?_|refine nJ ?_)<;>conv=>whnf))
      exact⟨row4,c1,c5,rfl,fun h=>absurd h (by simp),rfl⟩
  ·have:i=most.toNat+1:=by omega
   subst this
   (conv=>whnf);(repeat'((first|apply bT|apply bF|apply bN|((first|apply bD|apply bEq|apply bNe)<;>intro hh<;>try(exfalso;omega))|refine wJ ?_|refine nJ ?_)<;>conv=>whnf))
   exact⟨row2,h2,h3,rfl,fun _=>rfl,rfl⟩
theorem p53(L most step:Int):FnA Try.prog 53 [.int .i64 L, .int .i64 most, .int .i64 step] (· = .fn 80 [.ipt [.int .i64 L], .ipt [.int .i64 most], .ipt [.int .i64 step]]):=by
 refine fnA 3 ok53 (by simp) ?_
 (conv=>whnf);(repeat'((first|apply bT|apply bF|apply bN|((first|apply bD|apply bEq|apply bNe)<;>intro hh<;>try(exfalso;omega))|refine wJ ?_|refine nJ ?_)<;>conv=>whnf))
 all_goals rfl
theorem i80(most step:Int)(L:Nat)(hm:0<=most/\most<=1000)(hs:0<=step/\step<=1000000)(hL:L<=100):ItL Try.prog 80 [.ipt [.int .i64 L], .ipt [.int .i64 most], .ipt [.int .i64 step]] (lsL (rws most step L [])) (· = (rws most step L []).length):=by
 have h:=y81 (rws most step L []) most step L hm hs hL L (List.replicate L 0) [] [] 0 (by omega) (by simp) (fun i hi=>by omega) (by simp)
 refine FnY.itL (fnY 4 [] ok80 (by simp) rfl rfl ?_)
 (conv=>whnf);(repeat'((first|apply bT|apply bF|apply bN|((first|apply bD|apply bEq|apply bNe)<;>intro hh<;>try(exfalso;omega))|refine mkI (by omega) (by omega) (by omega) ?_|refine wJ ?_|refine nJ ?_)<;>conv=>whnf))
 have hset:(List.replicate L (0:Int)).map jAV=List.replicate ((L:Int)).toNat [.int .i64 0]:=by rw[List.map_replicate];rfl
 rw[hset]at h
 refine h.vcallyq [0,2,3,1] rfl bd81 rfl rfl ⟨rfl,rfl,rfl,rfl,trivial⟩ rfl rfl rfl rfl (fun r outs k' st' hr=>?_)
 obtain⟨row4,c1,c2,rfl,c4,rfl⟩:=hr
 refine⟨⟨rfl,rfl,rfl⟩,?_⟩
 (conv=>whnf);(repeat'((first|apply bT|apply bF|apply bN|((first|apply bD|apply bEq|apply bNe)<;>intro hh<;>try(exfalso;omega))|refine wJ ?_|refine nJ ?_)<;>conv=>whnf))
 exact fun e=>by rw[c4 e];simp
theorem rowL{t:Tour}(h:TOk t){l:List Int}(hl:l∈allRows t):l.length=t.ds.toNat:=by
 have:=(mem_rws (by omega)).1 hl
 simpa using this.1
theorem rteL{t:Tour}(h:TOk t){l:List Int}(hl:l∈routes t):l.length=t.ds.toNat:=by
 have:=(mem_rws (by have:=h.f1;omega)).1 hl
 simpa using this.1
theorem p17(t:Tour)(h:Sml t):FnA Try.prog 17 [.agg t.cells] (· = .tup [.int .i64 (if t.ok=true then fewest t else 0), .int .i64 (if t.ok=true then 0 else 110)]):=by
 have e1:=p15 t h
 have lr:(t.rn.map Rain.av).length=t.rn.length:=by simp
 refine fnA 3 ok17 (by simp) ?_
 by_cases ho:t.ok=true
 case neg=>
  rw[if_neg ho]at e1
  rw[if_neg ho,if_neg ho]
  (conv=>whnf);(repeat'((first|apply bT|apply bF|apply bN|((first|apply bD|apply bEq|apply bNe)<;>intro hh<;>try(exfalso;omega))|refine e1.cq rfl rfl ?_|refine wJ ?_|refine nJ ?_)<;>conv=>whnf))
  all_goals rfl
 rw[if_pos ho]at e1
 rw[if_pos ho,if_pos ho]
 have ht:=ok_iff.1 ho
 have h1:=ht.d1;have h2:=ht.d6;have h3:=ht.s0;have h4:=ht.s3;have hr10:=ht.rl
 have hds:((t.ds.toNat:Nat):Int)=t.ds:=by omega
 have e2:=p53 t.ds 3 t.st
 have it:=i80 3 t.st t.ds.toNat (by omega) (by omega) (by omega)
 rw[hds]at it
 have hmk:∀k,0<=mnK t.rn.length ((allRows t).map t.wrongs) k/\mnK t.rn.length ((allRows t).map t.wrongs) k<=10:=fun k=>by
  induction k with
  |zero=>rw[mnK];omega
  |succ k ih=>
   rw[mnK]
   have:0<=((allRows t).map t.wrongs).getD k 0:=by
    by_cases hk:k<(allRows t).length
    ·rw[List.getD_eq_getElem?_getD,List.getElem?_map,List.getElem?_eq_getElem hk]
     exact(wrongs_nn t _).1
    ·rw[List.getD_eq_getElem?_getD,List.getElem?_eq_none (by simpa using hk)];simp
   omega
 have e0:mnK t.rn.length ((allRows t).map t.wrongs) 0=((t.rn.map Rain.av).length:Int):=by rw[mnK,lr]
 (conv=>whnf);(repeat'((first|apply bT|apply bF|apply bN|((first|apply bD|apply bEq|apply bNe)<;>intro hh<;>try(exfalso;omega))|refine e1.cq rfl rfl ?_|refine e2.zq rfl rfl ?_|refine wJ ?_|refine nJ ?_)<;>conv=>whnf))
 refine rng_l (α :=Nat) (lsL (allRows t)) (· = (allRows t).length) 2 [0,1] [(1, .own 0 0),(5, .own 1 0)] (fun k=>[.box false t.cells, .box false [.int .i64 (mnK t.rn.length ((allRows t).map t.wrongs) k)], .fresh]) (fun k z=>z=k/\k<=(allRows t).length) 0 rfl rfl rfl bd80 it rfl (by rw[e0];exact mI) rfl ⟨rfl,by omega⟩ rfl (fun z=>⟨rfl,rfl⟩) ?_ ?_
 ·rintro k el sz es k' z ⟨rfl,rfl,⟨l,hl,rfl⟩,rfl⟩ ⟨rfl,hz⟩
  have hm:=List.mem_of_getElem? hl
  have hlen:=rowL ht hm
  have e3:=p54 t.rn l (by omega) (by omega) (fun x hx=>by have:=(ht.rn x hx).1;omega)
  have hk:z<(allRows t).length:=(List.getElem?_eq_some_iff.1 hl).1
  have ek:mnK t.rn.length ((allRows t).map t.wrongs) (z+1)=min (mnK t.rn.length ((allRows t).map t.wrongs) z) (wrK t.rn l t.rn.length):=by
   rw[mnK,List.getD_eq_getElem?_getD,List.getElem?_map,hl];rfl
  (conv=>whnf);(repeat'((first|apply bT|apply bF|apply bN|((first|apply bD|apply bEq|apply bNe)<;>intro hh<;>try(exfalso;omega))|refine e3.lq rfl rfl ?_|refine wJ ?_|refine nJ ?_)<;>conv=>whnf))
  refine⟨z+1,?_,rfl,by omega⟩
  rw[ek]
  exact mI
 ·rintro k z hk ⟨rfl,hz⟩
  subst hk
  (conv=>whnf);(repeat'((first|apply bT|apply bF|apply bN|((first|apply bD|apply bEq|apply bNe)<;>intro hh<;>try(exfalso;omega))|refine wJ ?_|refine nJ ?_)<;>conv=>whnf))
  all_goals rfl
def wz(t:Tour):Nat->List (List Int × Nat) × Option (List Int)
 |0=>([],none)
 |k+1=>if t.wrongs ((allRows t).getD k [])<=t.wr then((wz t k).1++[((allRows t).getD k [],cmn ((wz t k).2.getD []) ((allRows t).getD k []))],some ((allRows t).getD k [])) else wz t k
def tAV(p:List Int × Nat):List AV:=[.isl (p.1.map jAV), .int .i64 p.2]
def wts(t:Tour):List (List Int × Nat):=(wz t (allRows t).length).1
def Tour.wcs(t:Tour)(ts:List (List Int × Nat)):List AV:=[.int .i64 t.ds, .int .i64 t.st, .isl (t.rn.map Rain.av), .int .i64 t.wr, .isl (t.fs.map Fair.av), .int .i64 t.rc, .int .i64 t.sk, .isl (ts.map tAV)]
def sgW(t:Tour)(z:List (List Int × Nat) × Option (List Int)):List Res:=
 match z.2 with
 |none=>[.box false t.cells, .box false [.int .i64 0, .int .i64 0, .nils, .int .i64 0, .nils, .int .i64 0, .int .i64 0, .nils], .box false [.int .i64 t.ds, .int .i64 t.st, .isl (t.rn.map Rain.av), .int .i64 t.wr, .isl (t.fs.map Fair.av), .int .i64 t.rc, .int .i64 t.sk, .row 9], .box false [.nils], .fresh, .fresh, .fresh, .fresh, .fresh, .row false 89 2 (z.1.map tAV), .fresh]
 |some b=>[.box false t.cells, .box false [.int .i64 0, .int .i64 0, .nils, .int .i64 0, .nils, .int .i64 0, .int .i64 0, .nils], .box false [.int .i64 t.ds, .int .i64 t.st, .isl (t.rn.map Rain.av), .int .i64 t.wr, .isl (t.fs.map Fair.av), .int .i64 t.rc, .int .i64 t.sk, .row 9], .box false [.row 8], .fresh, .fresh, .fresh, .fresh, .row true 3 1 (b.map jAV), .row false 89 2 (z.1.map tAV), .fresh]
theorem wz_mem(t:Tour):∀k,k<=(allRows t).length->(∀p∈(wz t k).1,p.1∈allRows t)/\(∀b,(wz t k).2=some b->b∈allRows t)/\(wz t k).1.length<=k:=by
 intro k;induction k with
 |zero=>intro _;simp[wz]
 |succ k ih=>
  intro hk
  obtain⟨h1,h2,h3⟩:=ih (by omega)
  have hm:(allRows t).getD k []∈allRows t:=by
   rw[List.getD_eq_getElem?_getD,List.getElem?_eq_getElem (by omega)];exact List.getElem_mem _
  rw[wz]
  split
  ·refine⟨fun p hp=>?_,fun b hb=>?_,by simp;omega⟩
   ·rcases List.mem_append.1 hp with hp|hp
    ·exact h1 p hp
    ·rw[List.mem_singleton]at hp;subst hp;exact hm
   ·cases hb;exact hm
  ·exact⟨h1,h2,by omega⟩
theorem all_len{t:Tour}(h:TOk t):(allRows t).length<=4096:=by
 have h1:=rws_len (most:=3) (step:=t.st) t.ds.toNat []
 have h2:(3:Int).toNat+1=4:=rfl
 rw[h2]at h1
 have h3:4 ^ t.ds.toNat<=4 ^ 6:=Nat.pow_le_pow_right (by omega) (by have:=h.d6;omega)
 exact Nat.le_trans h1 h3
theorem p83(t:Tour)(h:Sml t)(ht:TOk t):FnA Try.prog 83 [.agg t.cells] (· = .agg (t.wcs (wts t))):=by
 have h1:=ht.d1;have h2:=ht.d6;have h3:=ht.s0;have h4:=ht.s3;have hr10:=ht.rl
 have hds:((t.ds.toNat:Nat):Int)=t.ds:=by omega
 have hal:=all_len ht
 have e2:=p53 t.ds 3 t.st
 have it:=i80 3 t.st t.ds.toNat (by omega) (by omega) (by omega)
 rw[hds]at it
 refine fnA 11 ok83 (by simp) ?_
 (conv=>whnf);(repeat'((first|apply bT|apply bF|apply bN|((first|apply bD|apply bEq|apply bNe)<;>intro hh<;>try(exfalso;omega))|refine e2.zq rfl rfl ?_|refine wJ ?_|refine nJ ?_)<;>conv=>whnf))
 refine rng_l (lsL (allRows t)) (· = (allRows t).length) 10 [1,2,3] [(2, .own 1 0),(3, .own 2 0),(4, .own 3 0)] (sgW t) (fun k z=>z=wz t k/\k<=(allRows t).length) ([],none) rfl rfl rfl bd80 it rfl (mA [(9,none)]) rfl ⟨rfl,by omega⟩ rfl (fun z=>by rcases z with⟨ts,_|b⟩<;>exact⟨rfl,rfl⟩) ?_ ?_
 ·rintro k el sz es k' ⟨ts,ob⟩ ⟨rfl,rfl,⟨l,hl,rfl⟩,rfl⟩ ⟨hz,hk0⟩
  have hm:=List.mem_of_getElem? hl
  have hlen:=rowL ht hm
  have hk:k<(allRows t).length:=(List.getElem?_eq_some_iff.1 hl).1
  have hgd:(allRows t).getD k []=l:=by rw[List.getD_eq_getElem?_getD,hl];rfl
  have e3:=p54 t.rn l (by omega) (by omega) (fun x hx=>by have:=(ht.rn x hx).1;omega)
  rw[show wrK t.rn l t.rn.length=t.wrongs l from rfl]at e3
  have hwz:=wz_mem t k (by omega)
  have hlt:(ts.map tAV).length=ts.length:=by simp
  have htl:ts.length<=k:=by have:=hwz.2.2;rw[<- hz]at this;exact this
  have e5:=p88 l (by omega) (by omega)
  by_cases hw:t.wrongs l<=t.wr
  ·have ek:wz t (k+1)=(ts++[(l,cmn (ob.getD []) l)],some l):=by rw[wz,hgd,if_pos hw,<- hz]
   have em:(ts++[(l,cmn (ob.getD []) l)]).map tAV=ts.map tAV++[[.isl (l.map jAV), .int .i64 (cmn (ob.getD []) l)]]:=by rw[List.map_append];rfl
   cases ob with
   |none=>
    have e4:=p90 [] l (by simp) (by omega)
    (conv=>whnf);(repeat'((first|apply bT|apply bF|apply bN|((first|apply bD|apply bEq|apply bNe)<;>intro hh<;>try(exfalso;omega))|refine e3.lq rfl rfl ?_|refine e4.lq rfl rfl ?_|((refine e5.calllq rfl rfl (fun r rows hr=>?_);obtain⟨rfl,rfl⟩:=hr;refine⟨rfl,by show(AV.flatL _&&true)=true;rw[jflat];rfl,rfl,?_⟩))|(refine apJ ?_)|refine wJ ?_|refine nJ ?_)<;>conv=>whnf))
    refine⟨(ts++[(l,cmn [] l)],some l),?_,ek.symm,by omega⟩
    unfold sgW
    simp only[Option.getD_none]at em
    rw[em]
    exact(mA [(8,some 4),(9,some 7)])
   |some b=>
    have hb:=hwz.2.1 b (by rw[<- hz])
    have e4:=p90 b l (by rw[rowL ht hb];omega) (by omega)
    (conv=>whnf);(repeat'((first|apply bT|apply bF|apply bN|((first|apply bD|apply bEq|apply bNe)<;>intro hh<;>try(exfalso;omega))|refine e3.lq rfl rfl ?_|refine e4.lq rfl rfl ?_|((refine e5.calllq rfl rfl (fun r rows hr=>?_);obtain⟨rfl,rfl⟩:=hr;refine⟨rfl,by show(AV.flatL _&&true)=true;rw[jflat];rfl,rfl,?_⟩))|(refine apJ ?_)|refine wJ ?_|refine nJ ?_)<;>conv=>whnf))
    refine⟨(ts++[(l,cmn b l)],some l),?_,ek.symm,by omega⟩
    unfold sgW
    simp only[Option.getD_some]at em
    rw[em]
    exact(mA [(8,some 4),(9,some 7)])
  ·have ek:wz t (k+1)=(ts,ob):=by rw[wz,hgd,if_neg hw,<- hz]
   cases ob with
   |none=>
    (conv=>whnf);(repeat'((first|apply bT|apply bF|apply bN|((first|apply bD|apply bEq|apply bNe)<;>intro hh<;>try(exfalso;omega))|refine e3.lq rfl rfl ?_|refine wJ ?_|refine nJ ?_)<;>conv=>whnf))
    exact⟨(ts,none),mI,ek.symm,by omega⟩
   |some b=>
    (conv=>whnf);(repeat'((first|apply bT|apply bF|apply bN|((first|apply bD|apply bEq|apply bNe)<;>intro hh<;>try(exfalso;omega))|refine e3.lq rfl rfl ?_|refine wJ ?_|refine nJ ?_)<;>conv=>whnf))
    exact⟨(ts,some b),mI,ek.symm,by omega⟩
 ·rintro k ⟨ts,ob⟩ hk ⟨hz,_⟩
  subst hk
  have e0:wts t=ts:=by rw[wts,<- hz]
  rw[e0]
  cases ob with
  |none=>
   (conv=>whnf);(repeat'((first|apply bT|apply bF|apply bN|((first|apply bD|apply bEq|apply bNe)<;>intro hh<;>try(exfalso;omega))|refine wJ ?_|refine nJ ?_)<;>conv=>whnf))
   all_goals rfl
  |some b=>
   (conv=>whnf);(repeat'((first|apply bT|apply bF|apply bN|((first|apply bD|apply bEq|apply bNe)<;>intro hh<;>try(exfalso;omega))|refine wJ ?_|refine nJ ?_)<;>conv=>whnf))
   all_goals rfl
theorem wz_truths(t:Tour):∀k,k<=(allRows t).length->(wz t k).1.map (·.1)=((allRows t).take k).filter (fun l=>decide (t.wrongs l<=t.wr)):=by
 intro k;induction k with
 |zero=>intro _;simp[wz]
 |succ k ih=>
  intro hk
  have e:(allRows t).getD k []=(allRows t)[k]:=by rw[List.getD_eq_getElem?_getD,List.getElem?_eq_getElem (by omega)];rfl
  rw[wz,List.take_succ_eq_append_getElem (by omega),List.filter_append,e,<- ih (by omega)]
  split
  ·rename_i hw
   rw[List.map_append,List.filter_cons,if_pos (by simpa using hw)];rfl
  ·rename_i hw
   rw[List.filter_cons,if_neg (by simpa using hw)];simp
theorem wts_truths(t:Tour):(wts t).map (·.1)=truths t:=by
 rw[wts,wz_truths t _ (Nat.le_refl _),List.take_length];rfl
theorem wts_len(t:Tour):(wts t).length=(truths t).length:=by rw[<- wts_truths,List.length_map]
def Sin:Option (List Int)->List (List Int × Nat)->Prop
 |_,[]=>True
 |o,p::ps=>p.2=cmn (o.getD []) p.1/\Sin (some p.1) ps
theorem sin_app:∀ {o:Option (List Int)} {ps:List (List Int × Nat)} {p:List Int × Nat} {b:Option (List Int)},Sin o ps->(match ps.getLast? with|some q=>b=some q.1|none=>b=o)->p.2=cmn (b.getD []) p.1->Sin o (ps++[p])
 |o,[],p,b,_,hb,hp=>by simp at hb;subst hb;exact⟨hp,trivial⟩
 |o,q::ps,p,b,h,hb,hp=>by
  refine⟨h.1,sin_app (b:=b) h.2 ?_ hp⟩
  cases ps with
  |nil=>simpa using hb
  |cons a l2=>
   rw[List.getLast?_cons_cons]at hb
   revert hb
   cases hq:(a::l2).getLast? with
   |none=>simp at hq
   |some x=>exact fun h=>h
theorem wz_sin(t:Tour):∀k,Sin none (wz t k).1/\(match (wz t k).1.getLast? with|some q=>(wz t k).2=some q.1|none=>(wz t k).2=none):=by
 intro k;induction k with
 |zero=>exact⟨trivial,rfl⟩
 |succ k ih=>
  rw[wz]
  split
  ·exact⟨sin_app ih.1 ih.2 rfl,by simp⟩
  ·exact ih
theorem sin_get:∀ {o:Option (List Int)} {ps:List (List Int × Nat)},Sin o ps->∀j (h:j<ps.length),ps[j].2=cmn (if j=0 then o.getD [] else(ps.getD (j-1) ([],0)).1) ps[j].1
 |o,p::ps,h,0,_=>h.1
 |o,p::ps,h,j+1,hj=>by
  have:=sin_get h.2 j (by simpa using hj)
  simp only[List.getElem_cons_succ,Nat.add_eq_zero_iff,Nat.one_ne_zero,and_false,if_false,Nat.add_sub_cancel]
  rw[this]
  cases j with
  |zero=>simp
  |succ j=>simp
def zw:List AV:=[.int .i64 0, .int .i64 0, .isl [], .int .i64 0, .isl [], .int .i64 0, .int .i64 0, .isl []]
theorem p57(t:Tour)(h:Sml t)(b:Bool):FnA Try.prog 57 [.agg t.cells, .bool b] (· = .tup [.agg (if t.err b=0 then t.wcs (wts t) else zw), .int .i64 (t.err b)]):=by
 have e1:=p15 t h
 unfold Tour.err
 refine fnA 8 ok57 (by simp) ?_
 by_cases ho:t.ok=true
 case neg=>
  rw[if_neg ho]at e1⊢
  (conv=>whnf);(repeat'((first|apply bT|apply bF|apply bN|((first|apply bD|apply bEq|apply bNe)<;>intro hh<;>try(exfalso;omega))|refine e1.cq rfl rfl ?_|refine wJ ?_|refine nJ ?_)<;>conv=>whnf))
  all_goals rfl
 rw[if_pos ho]at e1⊢
 have ht:=ok_iff.1 ho
 cases b
 ·(conv=>whnf);(repeat'((first|apply bT|apply bF|apply bN|((first|apply bD|apply bEq|apply bNe)<;>intro hh<;>try(exfalso;omega))|refine e1.cq rfl rfl ?_|refine wJ ?_|refine nJ ?_)<;>conv=>whnf))
  all_goals rfl
 have e2:=p83 t h ht
 have hL:((wts t).map tAV).length=(truths t).length:=by rw[List.length_map,wts_len]
 by_cases h0:(truths t).length=0
 ·rw[if_pos rfl,if_pos h0]
  (conv=>whnf);(repeat'((first|apply bT|apply bF|apply bN|((first|apply bD|apply bEq|apply bNe)<;>intro hh<;>try(exfalso;omega))|refine e1.cq rfl rfl ?_|refine e2.zq rfl rfl ?_|refine wJ ?_|refine nJ ?_)<;>conv=>whnf))
  all_goals rfl
 ·rw[if_pos rfl,if_neg h0,if_pos rfl]
  (conv=>whnf);(repeat'((first|apply bT|apply bF|apply bN|((first|apply bD|apply bEq|apply bNe)<;>intro hh<;>try(exfalso;omega))|refine e1.cq rfl rfl ?_|refine e2.zq rfl rfl ?_|refine wJ ?_|refine nJ ?_)<;>conv=>whnf))
  all_goals rfl
theorem p89(c:List AV)(r:List Int)(hc:∃t ts,c=Tour.wcs t ts):FnA Try.prog 89 [.agg c, .isl (r.map jAV)] (· = .fn 93 [.ipt c, .ipt [.isl (r.map jAV)]]):=by
 obtain⟨t,ts,rfl⟩:=hc
 refine fnA 2 ok89 (by simp) ?_
 (conv=>whnf);(repeat'((first|apply bT|apply bF|apply bN|((first|apply bD|apply bEq|apply bNe)<;>intro hh<;>try(exfalso;omega))|refine wJ ?_|refine nJ ?_)<;>conv=>whnf))
 all_goals rfl
def dcs(D:Nat->Int × Int):List AV:=[.int .i64 (D 0).1, .int .i64 (D 0).2, .int .i64 (D 1).1, .int .i64 (D 1).2, .int .i64 (D 2).1, .int .i64 (D 2).2, .int .i64 (D 3).1, .int .i64 (D 3).2, .int .i64 (D 4).1, .int .i64 (D 4).2, .int .i64 (D 5).1, .int .i64 (D 5).2, .int .i64 (D 6).1, .int .i64 (D 6).2]
def upD(D:Nat->Int × Int)(k:Nat)(v:Int × Int):Nat->Int × Int:=fun i=>if i=k then v else D i
theorem trd_aft(t:Tour)(r l:List Int)(k:Nat):trd t r l (k+1)=aft (t.fs.getD (r.getD k 0).toNat ⟨0,[]⟩) (l.getD k 0) (trd t r l k):=rfl
theorem trd_pre(t:Tour)(r:List Int){l m:List Int}{n:Nat}(h:∀i,i<n->l.getD i 0=m.getD i 0):∀i,i<=n->trd t r l i=trd t r m i:=by
 intro i;induction i with
 |zero=>intro _;rfl
 |succ i ih=>intro hi;rw[trd_aft,trd_aft,ih (by omega),h i (by omega)]
def Tour.wcd(t:Tour)(d:Nat)(ts:List (List Int × Nat)):List AV:=[.int .i64 d, .int .i64 t.st, .isl (t.rn.map Rain.av), .int .i64 t.wr, .isl (t.fs.map Fair.av), .int .i64 t.rc, .int .i64 t.sk, .isl (ts.map tAV)]
def sls(t:Tour)(r:List Int):List (List AV):=(wts t).map fun p=>[.agg [.int .i64 (tak t r p.1), .int .i64 (lef t r p.1)]]
theorem wts_mem(t:Tour){p:List Int × Nat}(h:p∈wts t):p.1∈allRows t:=(wz_mem t _ (Nat.le_refl _)).1 p h
set_option maxHeartbeats 4000000 in
theorem i93(t:Tour)(h:Sml t)(ht:TOk t)(r:List Int)(hr:isRte t r=true)(d:Nat)(hd:t.ds=d):ItA Try.prog 93 [.ipt (t.wcd d (wts t)), .ipt [.isl (r.map jAV)]] (sls t r):=by
 have h1:=ht.d1;have h2:=ht.d6
 have hal:=all_len ht
 have hwl:(wts t).length<=4096:=Nat.le_trans (wz_mem t _ (Nat.le_refl _)).2.2 hal
 have hwm:=(wz_mem t _ (Nat.le_refl _)).1
 have hsin:Sin none (wts t):=(wz_sin t (allRows t).length).1
 have hrm:=(mem_routes ht).2 hr
 have hrl:=rteL ht hrm
 have hr2:=(mem_rws (k:=t.ds.toNat) (f:=[]) (by have:=ht.f1;omega)).1 hrm
 have hrv:∀i,i<r.length->0<=r.getD i 0/\(r.getD i 0).toNat<t.fs.length:=fun i hi=>by
  have:=(hr2.2.2 i (by simp) hi).1
  omega
 have hT:((wts t).map tAV).length=(wts t).length:=by simp
 have hS:(sls t r).length=(wts t).length:=by simp[sls]
 have hdd:d=1\/d=2\/d=3\/d=4\/d=5\/d=6:=by omega
 have hsk:∀l,trd t r l 0=(0,t.sk):=fun l=>rfl
 rcases hdd with rfl|rfl|rfl|rfl|rfl|rfl
 all_goals
  refine itA 2 ok93 (by simp) ?_
  (conv=>whnf);(repeat'((first|apply bT|apply bF|apply bN|((first|apply bD|apply bEq|apply bNe)<;>intro hh<;>try(exfalso;omega))|refine wJ ?_|refine nJ ?_)<;>conv=>whnf))
  refine loop_y (α :=Nat × (Nat->Int × Int)) (fun z=>[(16, .int .i64 z.1),(15, .int .i64 ((wts t).map tAV).length),(14, .isl ((wts t).map tAV)),(4, .own 0 0),(0, .yld),(1, .ipt (t.wcd _ (wts t))),(2, .ipt [.isl (r.map jAV)])]) (fun z=>[.box false (dcs z.2), .fresh]) (fun z=>⟨[],z.1,false⟩)
   (fun z=>z.1<=(wts t).length/\z.2 0=(0,t.sk)/\(0<z.1->∀i:Nat,(i:Int)<=t.ds->z.2 i=trd t r ((wts t).getD (z.1-1) ([],0)).1 i)) (fun z=>(wts t).length-z.1) (0,fun i=>if i=0 then(0,t.sk) else(0,0)) mI ⟨by simp,rfl,fun h=>by simp at h⟩ ?_
  rintro⟨j,D⟩ ⟨h3,h4,h5⟩
  dsimp only at h3 h4 h5⊢
  conv=>whnf
  refine bD (fun h6=>?_) (fun h6=>?_)
  ·have hj:j<(wts t).length:=by omega
   have g0:=getM tAV (wts t) j hj
   have hpm:=wts_mem t (List.getElem_mem hj)
   have hlen:(wts t)[j].1.length=t.ds.toNat:=rowL ht hpm
   have hlr:=(mem_rws (k:=t.ds.toNat) (f:=[]) (by omega)).1 hpm
   have hlv:∀i,i<(wts t)[j].1.length->0<=(wts t)[j].1.getD i 0/\(wts t)[j].1.getD i 0<=3:=fun i hi=>(hlr.2.2 i (by simp) hi).1
   have hsn:=sin_get hsin j hj
   have hpre:∀i:Nat,i<=(wts t)[j].2->(i:Int)<=t.ds->D i=trd t r (wts t)[j].1 i:=fun i hi hi2=>by
    rw[hsn]at hi
    by_cases hj0:j=0
    ·subst hj0
     rw[if_pos rfl]at hi
     have:i=0:=by simpa[cmn]using hi
     subst this
     rw[h4];rfl
    ·rw[if_neg hj0]at hi
     rw[h5 (by omega) i hi2]
     exact trd_pre t r (fun k hk=>(cmn_spec _ _).2.2 k (by omega)) i (Nat.le_refl _)
   have hsd:(wts t)[j].2<=t.ds.toNat:=by
    rw[hsn,<- hlen];exact(cmn_spec _ _).2.1
   have hy:∀v:Int × Int,v=trd t r (wts t)[j].1 t.ds.toNat->(sls t r)[j]?=some [.agg [.int .i64 v.1, .int .i64 v.2]]:=fun v hv=>by
    rw[sls,List.getElem?_map,List.getElem?_eq_getElem hj,hv];rfl
   have hgl:(wts t).getD j ([],0)=(wts t)[j]:=by rw[List.getD_eq_getElem?_getD,List.getElem?_eq_getElem hj];rfl
   generalize (wts t)[j]=p at *
   obtain⟨l,n⟩:=p
   dsimp only at hlen hlv hpre hsd hy
   have lL:(l.map jAV).length=l.length:=by simp
   have lR:(r.map jAV).length=r.length:=by simp
   have lF:(t.fs.map Fair.av).length=t.fs.length:=by simp
   (conv=>whnf);(repeat'((first|apply bT|apply bF|apply bN|((first|apply bD|apply bEq|apply bNe)<;>intro hh<;>try(exfalso;omega))|refine iaJ g0 ?_|refine wJ ?_|refine nJ ?_)<;>conv=>whnf))
   refine loop_i (α :=Nat × (Nat->Int × Int)) (fun z=>[(7, .int .i64 z.1),(6, .own 1 0),(16, .int .i64 j),(15, .int .i64 ((wts t).map tAV).length),(14, .isl ((wts t).map tAV)),(4, .own 0 0),(0, .yld),(1, .ipt (t.wcd _ (wts t))),(2, .ipt [.isl (r.map jAV)])]) (fun z=>[.box false (dcs z.2), .box false [.isl (l.map jAV), .int .i64 n]])
    (fun z=>(z.1:Int)<=t.ds/\∀i,i<=z.1->z.2 i=trd t r l i) (fun z=>t.ds.toNat-z.1) (n,D) mI ⟨by dsimp only;omega,fun i hi=>hpre i hi (by dsimp only at hi;omega)⟩ ?_
   rintro⟨k,D2⟩ ⟨h7,h8⟩
   dsimp only at h7 h8⊢
   have hb:=trd_bd ht r l k
   have e0:=h8 k (Nat.le_refl _)
   conv=>whnf
   refine bD (fun h9=>?_) (fun h9=>?_)
   ·have p1:=hrv k (by omega)
    have p2:=hlv k (by omega)
    have g1:=getJ r k (by omega)
    have g2:=getJ l k (by omega)
    obtain⟨f1,f2,f3⟩:=fair_get ht p1.2
    have f3':=f3 (l.getD k 0).toNat
    have g3:(t.fs.map Fair.av).getD (r.getD k 0).toNat []=(t.fs.getD (r.getD k 0).toNat ⟨0,[]⟩).av:=by
     rw[getM Fair.av t.fs _ p1.2,show t.fs.getD (r.getD k 0).toNat ⟨0,[]⟩=t.fs[(r.getD k 0).toNat] from by rw[List.getD_eq_getElem?_getD,List.getElem?_eq_getElem p1.2];rfl]
    have e9:=p94 (t.fs.getD (r.getD k 0).toNat ⟨0,[]⟩) (l.getD k 0) (D2 k).1 (D2 k).2 (by omega) (by omega) (by omega) (by rw[e0];omega) (by rw[e0];omega) f1 f3'
    have hD':∀i,i<=k+1->upD D2 (k+1) (aft (t.fs.getD (r.getD k 0).toNat ⟨0,[]⟩) (l.getD k 0) (D2 k)) i=trd t r l i:=fun i hi=>by
     unfold upD
     by_cases e:i=k+1
     ·rw[if_pos e,e,trd_aft,<- e0]
     ·rw[if_neg e];exact h8 i (by omega)
    have hk6:k=0\/k=1\/k=2\/k=3\/k=4\/k=5:=by omega
    generalize t.fs.getD (r.getD k 0).toNat ⟨0,[]⟩=f at *
    rcases hk6 with rfl|rfl|rfl|rfl|rfl|rfl
    all_goals first
     |(exfalso;omega)
     |((conv=>whnf);(repeat'((first|apply bT|apply bF|apply bN|((first|apply bD|apply bEq|apply bNe)<;>intro hh<;>try(exfalso;omega))|refine iaJ g1 ?_|refine iaJ g2 ?_|refine iaJ g3 ?_|refine e9.cq rfl rfl ?_|refine wJ ?_|refine nJ ?_)<;>conv=>whnf))
       exact⟨(_,upD D2 _ _),mI,⟨by dsimp only;omega,hD'⟩,by dsimp only;omega⟩)
   ·have hk:k=t.ds.toNat:=by omega
    have hyk:=hy (D2 k) (by rw[e0,hk])
    have hk6:k=1\/k=2\/k=3\/k=4\/k=5\/k=6:=by omega
    rcases hk6 with rfl|rfl|rfl|rfl|rfl|rfl
    all_goals first
     |(exfalso;omega)
     |((conv=>whnf);(repeat'((first|apply bT|apply bF|apply bN|((first|apply bD|apply bEq|apply bNe)<;>intro hh<;>try(exfalso;omega))|refine wJ ?_|refine nJ ?_)<;>conv=>whnf))
       refine yI rfl hyk rfl ?_ ?_
       ·(conv=>whnf);(repeat'((first|apply bT|apply bF|apply bN|((first|apply bD|apply bEq|apply bNe)<;>intro hh<;>try(exfalso;omega))|refine wJ ?_|refine nJ ?_)<;>conv=>whnf))
        exact⟨(j+1,D2),mI,⟨by dsimp only;omega,by show D2 0=_;rw[h8 0 (by omega)];rfl,fun _ i hi=>by
         dsimp only
         rw[h8 i (by omega),Nat.add_sub_cancel,hgl]⟩,by dsimp only;omega⟩
       ·(conv=>whnf);(repeat'((first|apply bT|apply bF|apply bN|((first|apply bD|apply bEq|apply bNe)<;>intro hh<;>try(exfalso;omega))|refine wJ ?_|refine nJ ?_)<;>conv=>whnf))
        exact .inl rfl)
  ·have:j=(wts t).length:=by omega
   subst this
   (conv=>whnf);(repeat'((first|apply bT|apply bF|apply bN|((first|apply bD|apply bEq|apply bNe)<;>intro hh<;>try(exfalso;omega))|refine wJ ?_|refine nJ ?_)<;>conv=>whnf))
   all_goals exact .inr hS.symm
theorem i93w(t:Tour)(h:Sml t)(ht:TOk t)(r:List Int)(hr:isRte t r=true):ItA Try.prog 93 [.ipt (t.wcs (wts t)), .ipt [.isl (r.map jAV)]] (sls t r):=by
 have h1:=ht.d1
 have hds:t.ds=(t.ds.toNat:Nat):=by omega
 have hw:t.wcs (wts t)=t.wcd t.ds.toNat (wts t):=by rw[Tour.wcs,Tour.wcd,<- hds]
 rw[hw];exact i93 t h ht r hr _ hds
def spM(x:List Int):Nat->Int × Int
 |0=>(9223372036854775807, -9223372036854775808)
 |k+1=>(min (spM x k).1 (x.getD k 0),max (spM x k).2 (x.getD k 0))
theorem spM_spK(x:List Int)(hx:∀v∈x, -1000000000<=v/\v<=1000000000):∀k,0<k->k<=x.length->spM x k=spK x k:=by
 intro k;induction k with
 |zero=>intro h;omega
 |succ k ih=>
  intro _ hk
  have hm:x.getD k 0∈x:=by rw[List.getD_eq_getElem?_getD,List.getElem?_eq_getElem (by omega)];exact List.getElem_mem _
  have hv:=hx _ hm
  rw[spM,spK_suc]
  by_cases h0:k=0
  ·subst h0
   rw[if_pos rfl,spM]
   exact Prod.ext (by dsimp only;omega) (by dsimp only;omega)
  ·rw[if_neg h0,ih (by omega) (by omega)]
theorem p73(t:Tour)(h:Sml t)(ht:TOk t)(hn:truths t≠[])(r:List Int)(hr:isRte t r=true)(g:Nat)(F:List Int->Int)(hg:(g=66/\F=tak t r)\/(g=68/\F=lef t r)) :
  FnA Try.prog 73 [.agg (t.wcs (wts t)), .isl (r.map jAV), .fn g []] (· = .agg [.int .i64 (spn ((truths t).map F)).1, .int .i64 (spn ((truths t).map F)).2]):=by
 have e1:=p89 (t.wcs (wts t)) r ⟨t,_,rfl⟩
 have it:=i93w t h ht r hr
 have hS:(sls t r).length=(truths t).length:=by rw[sls,List.length_map,wts_len]
 have hX:((truths t).map F).length=(truths t).length:=by simp
 have hb:∀v∈(truths t).map F, -1000000000<=v/\v<=1000000000:=fun v hv=>by
  obtain⟨l,_,rfl⟩:=List.mem_map.1 hv
  have:=trd_bd ht r l t.ds.toNat
  have h6:=ht.d6;have h1:=ht.d1
  rcases hg with⟨_,rfl⟩|⟨_,rfl⟩
  ·rw[tak];omega
  ·rw[lef];omega
 have hlen:0<(truths t).length:=by cases ht2:truths t with
  |nil=>exact absurd ht2 hn
  |cons a b=>simp
 have hsp:spn ((truths t).map F)=spM ((truths t).map F) (truths t).length:=by rw[spn,hX,spM_spK _ hb _ hlen (by omega)]
 have hsl:∀(k:Nat) (v:List AV),(sls t r)[k]?=some v->∃l,(truths t)[k]?=some l/\v=[.agg [.int .i64 (tak t r l), .int .i64 (lef t r l)]]:=fun k v hv=>by
  rw[sls,List.getElem?_map]at hv
  cases hw:(wts t)[k]? with
  |none=>rw[hw]at hv;cases hv
  |some p=>
   rw[hw]at hv
   refine⟨p.1,?_,by cases hv;rfl⟩
   rw[<- wts_truths,List.getElem?_map,hw];rfl
 rw[hsp]
 rcases hg with⟨rfl,rfl⟩|⟨rfl,rfl⟩
 ·refine fnA 5 ok73 (by simp) ?_
  (conv=>whnf);(repeat'((first|apply bT|apply bF|apply bN|((first|apply bD|apply bEq|apply bNe)<;>intro hh<;>try(exfalso;omega))|refine e1.zq rfl rfl ?_|refine wJ ?_|refine nJ ?_)<;>conv=>whnf))
  refine rng_i (α :=Int × Int) (sls t r) [0,1,2,3] [(7, .own 3 0),(5, .own 1 0),(6, .own 2 0)] (fun z=>[.box false (t.wcs (wts t)), .box false [.fn 66 []], .box false [.int .i64 0, .int .i64 0], .box false [.int .i64 z.1, .int .i64 z.2], .fresh]) (fun k z=>z=spM ((truths t).map (tak t r)) k) (9223372036854775807, -9223372036854775808) rfl rfl rfl bd93 it rfl mI rfl rfl (fun v hv=>by
   obtain⟨k,hk⟩:=List.mem_iff_getElem?.1 hv
   obtain⟨l,_,rfl⟩:=hsl k v hk;rfl) ?_ ?_
  ·rintro k v z hv rfl
   obtain⟨l,hl,rfl⟩:=hsl k v hv
   have hk:k<(truths t).length:=(List.getElem?_eq_some_iff.1 hl).1
   have hxk:∀F:List Int->Int,((truths t).map F).getD k 0=F l:=fun F=>by rw[List.getD_eq_getElem?_getD,List.getElem?_map,hl];rfl
   have hv1:FnV Try.prog (.fn 66 []) [.agg [.int .i64 (tak t r l), .int .i64 (lef t r l)]] (· = .int .i64 (tak t r l)):=fnV_of bd66 (p66 (tak t r l) (lef t r l))
   have hv2:FnV Try.prog (.fn 68 []) [.agg [.int .i64 (tak t r l), .int .i64 (lef t r l)]] (· = .int .i64 (lef t r l)):=fnV_of bd68 (p68 (tak t r l) (lef t r l))
   have ek:∀F:List Int->Int,spM ((truths t).map F) (k+1)=(min (spM ((truths t).map F) k).1 (F l),max (spM ((truths t).map F) k).2 (F l)):=fun F=>by rw[spM,hxk]
   (conv=>whnf);(repeat'((first|apply bT|apply bF|apply bN|((first|apply bD|apply bEq|apply bNe)<;>intro hh<;>try(exfalso;omega))|(refine hv1.vcallq rfl rfl rfl rfl (fun r (hr:r=_)=>?_);subst hr)|(refine hv2.vcallq rfl rfl rfl rfl (fun r (hr:r=_)=>?_);subst hr)|refine wJ ?_|refine nJ ?_)<;>conv=>whnf))
   exact⟨spM ((truths t).map (tak t r)) (k+1),by rw[ek];exact mI,rfl⟩
  ·rintro z rfl
   rw[hS]
   (conv=>whnf);(repeat'((first|apply bT|apply bF|apply bN|((first|apply bD|apply bEq|apply bNe)<;>intro hh<;>try(exfalso;omega))|refine wJ ?_|refine nJ ?_)<;>conv=>whnf))
   all_goals rfl
 ·refine fnA 5 ok73 (by simp) ?_
  (conv=>whnf);(repeat'((first|apply bT|apply bF|apply bN|((first|apply bD|apply bEq|apply bNe)<;>intro hh<;>try(exfalso;omega))|refine e1.zq rfl rfl ?_|refine wJ ?_|refine nJ ?_)<;>conv=>whnf))
  refine rng_i (α :=Int × Int) (sls t r) [0,1,2,3] [(7, .own 3 0),(5, .own 1 0),(6, .own 2 0)] (fun z=>[.box false (t.wcs (wts t)), .box false [.fn 68 []], .box false [.int .i64 0, .int .i64 0], .box false [.int .i64 z.1, .int .i64 z.2], .fresh]) (fun k z=>z=spM ((truths t).map (lef t r)) k) (9223372036854775807, -9223372036854775808) rfl rfl rfl bd93 it rfl mI rfl rfl (fun v hv=>by
   obtain⟨k,hk⟩:=List.mem_iff_getElem?.1 hv
   obtain⟨l,_,rfl⟩:=hsl k v hk;rfl) ?_ ?_
  ·rintro k v z hv rfl
   obtain⟨l,hl,rfl⟩:=hsl k v hv
   have hk:k<(truths t).length:=(List.getElem?_eq_some_iff.1 hl).1
   have hxk:∀F:List Int->Int,((truths t).map F).getD k 0=F l:=fun F=>by rw[List.getD_eq_getElem?_getD,List.getElem?_map,hl];rfl
   have hv1:FnV Try.prog (.fn 66 []) [.agg [.int .i64 (tak t r l), .int .i64 (lef t r l)]] (· = .int .i64 (tak t r l)):=fnV_of bd66 (p66 (tak t r l) (lef t r l))
   have hv2:FnV Try.prog (.fn 68 []) [.agg [.int .i64 (tak t r l), .int .i64 (lef t r l)]] (· = .int .i64 (lef t r l)):=fnV_of bd68 (p68 (tak t r l) (lef t r l))
   have ek:∀F:List Int->Int,spM ((truths t).map F) (k+1)=(min (spM ((truths t).map F) k).1 (F l),max (spM ((truths t).map F) k).2 (F l)):=fun F=>by rw[spM,hxk]
   (conv=>whnf);(repeat'((first|apply bT|apply bF|apply bN|((first|apply bD|apply bEq|apply bNe)<;>intro hh<;>try(exfalso;omega))|(refine hv1.vcallq rfl rfl rfl rfl (fun r (hr:r=_)=>?_);subst hr)|(refine hv2.vcallq rfl rfl rfl rfl (fun r (hr:r=_)=>?_);subst hr)|refine wJ ?_|refine nJ ?_)<;>conv=>whnf))
   exact⟨spM ((truths t).map (lef t r)) (k+1),by rw[ek];exact mI,rfl⟩
  ·rintro z rfl
   rw[hS]
   (conv=>whnf);(repeat'((first|apply bT|apply bF|apply bN|((first|apply bD|apply bEq|apply bNe)<;>intro hh<;>try(exfalso;omega))|refine wJ ?_|refine nJ ?_)<;>conv=>whnf))
   all_goals rfl
end Go.Proofs
