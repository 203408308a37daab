/- What each function of this program answers, proved by walking its body: the contracts that the law rests on, part 1. -/
import Derived.Test.YtjdklkkmmlephaaCode
set_option linter.unusedSimpArgs false
set_option linter.unusedVariables false
set_option linter.unusedSectionVars false
namespace Go.Proofs
open Go.Eng
attribute [local irreducible] Go.Eng.brB Go.Eng.need Go.Eng.wrE Go.Eng.iaE Go.Eng.slE Go.Eng.apE Go.Eng.CallZ Go.Eng.CallE Go.Eng.VCallE Go.Eng.YldE Go.Eng.GoC Go.Eng.MeetsE Go.Eng.FnA Go.Eng.FnV
set_option maxRecDepth 100000
def jAV(r:Int):List AV:=[.int .i64 r]
def fAV(l:List Int):List AV:=[.isl (l.map jAV)]
structure Word where
 k:Int
 g:Int
 o:Int
 am:List Int
deriving DecidableEq
structure Stand where
 gs:Int
 ws:List Word
 wr:Int
def Word.av(w:Word):List AV:=[.int .i64 w.k, .int .i64 w.g, .int .i64 w.o, .isl (w.am.map jAV)]
def Stand.cells(s:Stand):List AV:=[.int .i64 s.gs, .isl (s.ws.map Word.av), .int .i64 s.wr]
theorem getM{α : Type}(f : α -> List AV)(l:List α)(i:Nat)(h:i<l.length):(l.map f).getD i []=f l[i]:=by
 simp[List.getD_eq_getElem?_getD,h]
theorem getJ(l:List Int)(i:Nat)(h:i<l.length):(l.map jAV).getD i []=[.int .i64 (l.getD i 0)]:=by
 rw[getM jAV l i h];simp[List.getD_eq_getElem?_getD,h,jAV]
theorem j_one(l:List Int):∀e∈l.map jAV,e.length=1/\e.all AV.one=true:=fun e he=>by
 obtain⟨x,_,rfl⟩:=List.mem_map.1 he;exact⟨rfl,rfl⟩
theorem f_one(l:List (List Int)):∀e∈l.map fAV,e.length=1/\e.all AV.one=true:=fun e he=>by
 obtain⟨x,_,rfl⟩:=List.mem_map.1 he;exact⟨rfl,rfl⟩
theorem w_one(l:List Word):∀e∈l.map Word.av,e.length=4/\e.all AV.one=true:=fun e he=>by
 obtain⟨x,_,rfl⟩:=List.mem_map.1 he;exact⟨rfl,rfl⟩
theorem take_all{α : Type}{l:List α}{p : α -> Bool}{k:Nat}(hk:k<l.length)(h:∀x∈l.take k,p x=true)(hx:p l[k]=true):∀x∈l.take (k+1),p x=true:=by
 intro x hm
 rw[List.take_succ_eq_append_getElem hk]at hm
 rcases List.mem_append.1 hm with hm|hm
 ·exact h x hm
 ·rw[List.mem_singleton.1 hm];exact hx
theorem take_none{α : Type}{l:List α}{p : α -> Bool}{k:Nat}(hk:k<l.length)(h:∀x∈l.take k,p x=false)(hx:p l[k]=false):∀x∈l.take (k+1),p x=false:=by
 intro x hm
 rw[List.take_succ_eq_append_getElem hk]at hm
 rcases List.mem_append.1 hm with hm|hm
 ·exact h x hm
 ·rw[List.mem_singleton.1 hm];exact hx
def isG(s:Stand)(n:Int):Bool:=decide (0<=n/\n<s.gs)
def riseP(s:Stand)(l:List Int)(k:Nat):Prop:=∀i,i<k->(0<=l.getD i 0/\l.getD i 0<s.gs)/\(0<i->l.getD (i-1) 0<l.getD i 0)
noncomputable instance (s:Stand) (l:List Int) (k:Nat):Decidable (riseP s l k):=Classical.propDecidable _
noncomputable def isWo(s:Stand)(w:Word):Bool:=isG s w.g&&(isG s w.o&&(if w.k=3\/w.k=4 then decide (w.am.length=0/\w.g≠w.o) else decide ((w.k=1\/w.k=2)/\w.am.length≠0/\w.o=0)&&decide (riseP s w.am w.am.length)))
noncomputable def Stand.chk(s:Stand):Int:=if s.gs<0\/s.gs>7\/s.wr<0\/s.wr>7 then 100 else if s.ws.length>20 then 101 else if s.ws.all (isWo s)=true then 0 else 101
def isSo(w:Word)(t:List Int):Bool:=if w.k=1 then decide (t.getD w.g.toNat 0∈w.am) else if w.k=2 then !decide (t.getD w.g.toNat 0∈w.am) else if w.k=3 then decide (t.getD w.g.toNat 0=w.o/\t.getD w.o.toNat 0=w.g) else decide (t.getD w.g.toNat 0=w.g\/t.getD w.o.toNat 0=w.o)
def tkP(l:List Int)(k:Nat):Prop:=∀i,i<k->(0<=l.getD i 0/\l.getD i 0<l.length)/\l.getD i 0∉l.take i
noncomputable instance (l:List Int) (k:Nat):Decidable (tkP l k):=Classical.propDecidable _
noncomputable def isTk(l:List Int):Bool:=decide (tkP l l.length)&&decide (l.length<=7)
def wrongs(s:Stand)(t:List Int):Nat->Int
 |0=>0
 |k+1=>wrongs s t k+if isSo (s.ws.getD k ⟨0,0,0,[]⟩) t=true then 0 else 1
noncomputable def isTr(s:Stand)(t:List Int):Bool:=decide ((t.length:Int)=s.gs)&&(isTk t&&decide (wrongs s t s.ws.length<=s.wr))
def trK(f:List Int->List (List Int))(first:List Int):Nat->List (List Int)
 |0=>[]
 |u+1=>trK f first u++if (u:Int)∈first then [] else f (first++[(u:Int)])
noncomputable def trF(s:Stand):Nat->List Int->List (List Int)
 |0,first=>if isTr s first=true then [first] else []
 |n+1,first=>trK (trF s n) first s.gs.toNat
noncomputable def truths(s:Stand):List (List Int):=trF s s.gs.toNat []
def whereL(l:List (List Int))(g u:Int):List (List Int):=l.filter fun t=>decide (t.getD g.toNat 0=u)
def tookK(l:List (List Int))(g:Int):Nat->List Int
 |0=>[]
 |u+1=>tookK l g u++if (whereL l g (u:Int)).length>0 then [(u:Int)] else []
def tookL(l:List (List Int))(g gs:Int):List Int:=tookK l g gs.toNat
def Pm(n:Nat)(f:Nat->Nat):Prop:=(∀i,i<n->f i<n)/\∀i,i<n->∀j,j<n->f i=f j->i=j
def del(n:Nat)(f:Nat->Nat)(i:Nat):Nat:=if f i=n then f n else f i
def cyc:Nat->(Nat->Nat)->Nat
 |0,_=>0
 |n+1,f=>cyc n (del n f)+if f n=n then 1 else 0
def sw(f:Nat->Nat)(g h i:Nat):Nat:=if i=g then f h else if i=h then f g else f i
theorem cyc_congr:∀(n:Nat) (f f':Nat->Nat),(∀i,i<n->f i=f' i)->cyc n f=cyc n f':=by
 intro n;induction n with
 |zero=>intros;rfl
 |succ n ih=>
  intro f f' h
  simp only[cyc,h n (by omega)]
  rw[ih (del n f) (del n f') (fun i hi=>by simp only[del,h i (by omega),h n (by omega)])]
theorem del_pm{n:Nat}{f:Nat->Nat}(h:Pm (n+1) f):Pm n (del n f):=by
 obtain⟨h1,h2⟩:=h
 constructor
 ·intro i hi
  have a:=h1 i (by omega);have b:=h1 n (by omega);have c:=h2 i (by omega) n (by omega)
  simp only[del];split<;>omega
 ·intro i hi j hj e
  have a:=h2 i (by omega) n (by omega);have b:=h2 j (by omega) n (by omega);have c:=h2 i (by omega) j (by omega)
  simp only[del]at e;split at e<;>split at e<;>omega
theorem no_inj:∀(n:Nat) (f:Nat->Nat),(∀i,i<n+1->f i<n)->(∀i,i<n+1->∀j,j<n+1->f i=f j->i=j)->False:=by
 intro n;induction n with
 |zero=>intro f h _;exact absurd (h 0 (by omega)) (by omega)
 |succ n ih=>
  intro f h1 h2
  apply ih (fun i=>if f i=n then f (n+1) else f i)
  ·intro i hi
   have a:=h1 i (by omega);have b:=h1 (n+1) (by omega);have c:=h2 i (by omega) (n+1) (by omega)
   split<;>omega
  ·intro i hi j hj e
   have a:=h2 i (by omega) (n+1) (by omega);have b:=h2 j (by omega) (n+1) (by omega);have c:=h2 i (by omega) j (by omega)
   split at e<;>split at e<;>omega
theorem pm_pre{n:Nat}{f:Nat->Nat}(h:Pm (n+1) f):∃p,p<n+1/\f p=n:=by
 apply Classical.byContradiction;intro hn
 refine no_inj n f (fun i hi=>?_) h.2
 have a:=h.1 i hi
 have b:f i≠n:=fun e=>hn ⟨i,hi,e⟩
 omega
theorem sw_pm{n:Nat}{f:Nat->Nat}{g h:Nat}(hf:Pm n f)(hg:g<n)(hh:h<n):Pm n (sw f g h):=by
 obtain⟨h1,h2⟩:=hf
 have a:=h1 g hg;have b:=h1 h hh
 constructor
 ·intro i hi
  have c:=h1 i hi
  simp only[sw];split<;>(try split)<;>omega
 ·intro i hi j hj e
  have c1:=h2 i hi j hj;have c2:=h2 i hi g hg;have c3:=h2 i hi h hh;have c4:=h2 j hj g hg;have c5:=h2 j hj h hh;have c6:=h2 g hg h hh
  simp only[sw]at e;repeat' split at e
  all_goals omega
theorem sw_comm(f:Nat->Nat)(g h:Nat):∀i,sw f g h i=sw f h g i:=by
 intro i;simp only[sw];repeat' split
 all_goals (try subst_vars)
 all_goals (try rfl)
theorem sw_last{n:Nat}{f:Nat->Nat}{g:Nat}(hf:Pm (n+1) f)(hg:g<n) :
  (f n=n/\cyc (n+1) (sw f g n)+1=cyc (n+1) f) \/
  (f g=n/\cyc (n+1) (sw f g n)=cyc (n+1) f+1) \/
  (f n≠n/\∃p,p<n/\p≠g/\f p=n/\f g≠n/\cyc (n+1) (sw f g n)=cyc n (sw (del n f) p g)/\cyc (n+1) f=cyc n (del n f)):=by
 have h1:=hf.1;have h2:=hf.2
 have en:sw f g n n=f g:=by
                  simp only[sw];split;·(have:n=g:=by assumption);omega
                  simp
 have eg:sw f g n g=f n:=by simp[sw]
 by_cases c1:f n=n
 ·left
  refine⟨c1,?_⟩
  have c2:f g≠n:=fun e=>by have:=h2 g (by omega) n (by omega) (by omega);omega
  rw[cyc,cyc,en,if_neg c2,if_pos c1,cyc_congr n (del n (sw f g n)) (del n f)]
  intro i hi
  have:=h2 i (by omega) n (by omega)
  simp only[del,en]
  by_cases e:i=g
  ·subst e;rw[eg,if_pos c1,if_neg c2]
  ·have:sw f g n i=f i:=by simp only[sw,if_neg e];rw[if_neg (by omega)]
   rw[this];split<;>omega
 ·right
  by_cases c2:f g=n
  ·left
   refine⟨c2,?_⟩
   rw[cyc,cyc,en,if_pos c2,if_neg c1,cyc_congr n (del n (sw f g n)) (del n f)]
   intro i hi
   have:=h2 i (by omega) g (by omega)
   simp only[del,en]
   by_cases e:i=g
   ·subst e;rw[eg,if_neg c1,if_pos c2]
   ·have:sw f g n i=f i:=by simp only[sw,if_neg e];rw[if_neg (by omega)]
    rw[this];split<;>omega
  ·right
   obtain⟨p,hp,ep⟩:=pm_pre hf
   have p1:p≠n:=fun e=>c1 (e ▸ ep)
   have p2:p≠g:=fun e=>c2 (e ▸ ep)
   refine⟨c1,p,by omega,p2,ep,c2,?_,?_⟩
   ·rw[cyc,en,if_neg c2,Nat.add_zero]
    apply cyc_congr
    intro i hi
    have:=h2 i (by omega) p (by omega)
    simp only[del,en]
    by_cases e:i=g
    ·subst e;rw[eg,if_neg c1];simp[sw,del,ep,Ne.symm p2]
    ·have e2:sw f g n i=f i:=by simp only[sw,if_neg e];rw[if_neg (by omega)]
     rw[e2];simp only[sw];by_cases e3:i=p
     ·rw[if_pos e3,if_pos (by rw[e3];exact ep)];simp only[del];rw[if_neg c2]
     ·rw[if_neg (fun x=>e3 (this (by omega))),if_neg e3,if_neg e];simp only[del];rw[if_neg (fun x=>e3 (this (by omega)))]
   ·rw[cyc,if_neg c1];omega
theorem sw_low{n:Nat}{f:Nat->Nat}{g h:Nat}(hg:g<n)(hh:h<n):cyc (n+1) (sw f g h)=cyc n (sw (del n f) g h)+if f n=n then 1 else 0:=by
 have en:sw f g h n=f n:=by simp only[sw];rw[if_neg (by omega),if_neg (by omega)]
 rw[cyc,en,cyc_congr n (del n (sw f g h)) (sw (del n f) g h)]
 intro i hi
 simp only[del,en]
 by_cases e1:i=g
 ·subst e1;simp[sw,del]
 ·by_cases e2:i=h
  ·subst e2;simp[sw,del,e1]
  ·simp[sw,del,e1,e2]
theorem sw_cyc:∀(n:Nat) (f:Nat->Nat) (g h:Nat),Pm n f->g<n->h<n->g≠h->cyc n (sw f g h)=cyc n f+1\/cyc n (sw f g h)+1=cyc n f:=by
 intro n;induction n with
 |zero=>intro f g h _ hg;omega
 |succ n ih=>
  intro f g h hf hg hh hne
  have last:∀g,g<n->cyc (n+1) (sw f g n)=cyc (n+1) f+1\/cyc (n+1) (sw f g n)+1=cyc (n+1) f:=by
   intro g hg
   rcases sw_last hf hg with⟨_,e⟩|⟨_,e⟩|⟨_,p,hp,hpg,_,_,e1,e2⟩
   ·right;exact e
   ·left;exact e
   ·rw[e1,e2];exact ih _ p g (del_pm hf) hp hg hpg
  by_cases a:g=n
  ·subst a
   rw[cyc_congr _ _ _ (fun i _=>sw_comm f g h i)]
   exact last h (by omega)
  ·by_cases b:h=n
   ·subst b;exact last g (by omega)
   ·rw[sw_low (by omega) (by omega),cyc]
    rcases ih (del n f) g h (del_pm hf) (by omega) (by omega) hne with e|e<;>split<;>omega
theorem sw_up:∀(n:Nat) (f:Nat->Nat) (g h:Nat),Pm n f->g<n->h<n->g≠h->f g=h->cyc n (sw f g h)=cyc n f+1:=by
 intro n;induction n with
 |zero=>intro f g h _ hg;omega
 |succ n ih=>
  intro f g h hf hg hh hne hfg
  by_cases a:g=n
  ·subst a
   rw[cyc_congr _ _ _ (fun i _=>sw_comm f g h i)]
   rcases sw_last (g:=h) hf (by omega)with⟨e,_⟩|⟨_,e⟩|⟨_,p,hp,hpg,ep,eh,e1,e2⟩
   ·omega
   ·exact e
   ·rw[e1,e2];exact ih _ p h (del_pm hf) hp (by omega) hpg (by simp only[del,ep,if_true];exact hfg)
  ·by_cases b:h=n
   ·subst b
    rcases sw_last (g:=g) hf (by omega)with⟨e,_⟩|⟨_,e⟩|⟨_,p,hp,hpg,ep,eh,e1,e2⟩
    ·have:=hf.2 g hg h (by omega) (by omega);omega
    ·exact e
    ·omega
   ·rw[sw_low (by omega) (by omega),cyc,ih (del n f) g h (del_pm hf) (by omega) (by omega) hne (by simp only[del,hfg];rw[if_neg b])];split<;>omega
theorem cyc_le:∀(n:Nat) (f:Nat->Nat),cyc n f<=n:=by
 intro n;induction n with
 |zero=>intro f;simp[cyc]
 |succ n ih=>intro f;rw[cyc];have:=ih (del n f);split<;>omega
theorem cyc_id:∀(n:Nat) (f:Nat->Nat),(cyc n f=n<->∀i,i<n->f i=i):=by
 intro n;induction n with
 |zero=>intro f;simp[cyc]
 |succ n ih=>
  intro f
  rw[cyc]
  have a:=cyc_le n (del n f)
  by_cases c:f n=n
  ·rw[if_pos c]
   have b:=ih (del n f)
   constructor
   ·intro e i hi
    by_cases d:i=n
    ·rw[d];exact c
    ·have:=b.1 (by omega) i (by omega)
     simp only[del]at this;split at this<;>omega
   ·intro e
    have:=b.2 (fun i hi=>by simp only[del,e i (by omega)];rw[if_neg (by omega)])
    omega
  ·rw[if_neg c]
   constructor
   ·intro e;omega
   ·intro e;exact absurd (e n (by omega)) c
theorem cyc_pos{n:Nat}{f:Nat->Nat}(hf:Pm n f)(h:0<n):0<cyc n f:=by
 revert f;induction n with
 |zero=>omega
 |succ n ih=>
  intro f hf
  rw[cyc]
  by_cases c:f n=n
  ·rw[if_pos c];omega
  ·have:=hf.1 n (by omega)
   have:=ih (by omega) (del_pm hf);omega
theorem cyc_inv:∀(n:Nat) (f f':Nat->Nat),Pm n f->(∀i,i<n->f' (f i)=i)->cyc n f'=cyc n f:=by
 intro n;induction n with
 |zero=>intros;rfl
 |succ n ih=>
  intro f f' hf h
  obtain⟨p,hp,ep⟩:=pm_pre hf
  have e1:f' n=p:=by have:=h p hp;rw[ep]at this;exact this
  have e2:f' (f n)=n:=h n (by omega)
  rw[cyc,cyc,ih (del n f) (del n f') (del_pm hf)]
  ·congr 1
   by_cases c:f n=n
   ·rw[if_pos c,if_pos (by rw[c]at e2;exact e2)]
   ·rw[if_neg c,if_neg];intro d;rw[e1]at d;rw[d]at ep;exact c ep
  ·intro i hi
   have a:=h i (by omega)
   have b:=hf.2 i (by omega) n (by omega)
   by_cases c:f i=n
   ·have x:del n f i=f n:=by simp only[del];rw[if_pos c]
    rw[x];simp only[del];rw[if_pos e2,e1];exact hf.2 p hp i (by omega) (by omega)
   ·have x:del n f i=f i:=by simp only[del];rw[if_neg c]
    rw[x];simp only[del];rw[if_neg (by omega)];exact a
def fnL(t:List Int)(i:Nat):Nat:=(t.getD i 0).toNat
theorem getS(t:List Int)(i j:Nat)(x:Int)(hi:i<t.length):(t.set i x).getD j 0=if j=i then x else t.getD j 0:=by
 simp only[List.getD_eq_getElem?_getD,List.getElem?_set]
 by_cases e:i=j
 ·subst e;simp[hi]
 ·rw[if_neg e,if_neg (Ne.symm e)]
theorem tk_mem{t:List Int}{k:Nat}(h:tkP t k)(i j:Nat)(hi:i<k)(hj:j<k)(hk:k<=t.length)(e:t.getD i 0=t.getD j 0):i=j:=by
 have key:∀a b,a<b->b<k->t.getD a 0≠t.getD b 0:=by
  intro a b hab hb e
  apply (h b hb).2
  rw[<- e,List.mem_take_iff_getElem]
  refine⟨a,by omega,?_⟩
  simp[List.getD_eq_getElem?_getD,show a<t.length by omega]
 rcases Nat.lt_trichotomy i j with c|c|c
 ·exact absurd e (key i j c hj)
 ·exact c
 ·exact absurd e.symm (key j i c hi)
theorem tk_pm{t:List Int}(h:tkP t t.length):Pm t.length (fnL t):=by
 constructor
 ·intro i hi;have:=(h i hi).1;simp only[fnL];omega
 ·intro i hi j hj e
  have a:=(h i hi).1;have b:=(h j hj).1
  simp only[fnL]at e
  exact tk_mem h i j hi hj (Nat.le_refl _) (by omega)
def tk(t:List Int):Prop:=(∀i,i<t.length->0<=t.getD i 0)/\Pm t.length (fnL t)
theorem tk_of{t:List Int}(h:tkP t t.length):tk t:=⟨fun i hi=>(h i hi).1.1,tk_pm h⟩
theorem tk_to{t:List Int}(h:tk t):tkP t t.length:=by
 intro i hi
 have a:=h.1 i hi;have b:=h.2.1 i hi
 simp only[fnL]at b
 refine⟨by omega,fun hm=>?_⟩
 obtain⟨j,hj,e⟩:=List.mem_take_iff_getElem.1 hm
 have hj':j<i/\j<t.length:=by omega
 have e':t.getD j 0=t.getD i 0:=by rw[<- e];simp[List.getD_eq_getElem?_getD,hj'.2]
 have:=h.2.2 j hj'.2 i hi (by simp only[fnL,e'])
 omega
theorem tk_lt{t:List Int}(h:tk t)(i:Nat)(hi:i<t.length):0<=t.getD i 0/\t.getD i 0<t.length:=by
 have a:=h.1 i hi;have b:=h.2.1 i hi;simp only[fnL]at b;omega
def swL(t:List Int)(g h:Nat):List Int:=(t.set g (t.getD h 0)).set h (t.getD g 0)
theorem swL_len(t:List Int)(g h:Nat):(swL t g h).length=t.length:=by simp[swL]
theorem swL_get(t:List Int)(g h i:Nat)(hg:g<t.length)(hh:h<t.length):(swL t g h).getD i 0=if i=g then t.getD h 0 else if i=h then t.getD g 0 else t.getD i 0:=by
 rw[swL,getS _ _ _ _ (by simpa using hh),getS _ _ _ _ hg]
 by_cases a:i=g
 ·by_cases b:i=h
  ·rw[if_pos b,if_pos a,<- a,<- b]
  ·rw[if_neg b,if_pos a,if_pos a]
 ·rw[if_neg a,if_neg a]
theorem swL_fn(t:List Int)(g h:Nat)(hg:g<t.length)(hh:h<t.length)(i:Nat):fnL (swL t g h) i=sw (fnL t) g h i:=by
 simp only[fnL,swL_get t g h i hg hh,sw];repeat' split
 all_goals rfl
theorem Pm_congr{n:Nat}{f f':Nat->Nat}(h:∀i,i<n->f i=f' i)(hf:Pm n f):Pm n f':=
 ⟨fun i hi=>h i hi ▸ hf.1 i hi,fun i hi j hj e=>hf.2 i hi j hj (by rw[h i hi,h j hj];exact e)⟩
theorem swL_tk{t:List Int}{g h:Nat}(ht:tk t)(hg:g<t.length)(hh:h<t.length):tk (swL t g h):=by
 constructor
 ·intro i hi
  rw[swL_len]at hi
  rw[swL_get t g h i hg hh]
  have a:=ht.1 i hi;have b:=ht.1 g hg;have c:=ht.1 h hh
  repeat' split
  all_goals assumption
 ·rw[swL_len]
  exact Pm_congr (fun i _=>(swL_fn t g h hg hh i).symm) (sw_pm ht.2 hg hh)
def need(t:List Int):Nat:=t.length-cyc t.length (fnL t)
theorem need_le(t:List Int):need t<=t.length:=by simp[need]
theorem need_lt{t:List Int}(ht:tk t)(h:0<t.length):need t<t.length:=by
 have:=cyc_pos ht.2 h;have:=cyc_le t.length (fnL t);simp only[need];omega
theorem need_sw{t:List Int}{g h:Nat}(ht:tk t)(hg:g<t.length)(hh:h<t.length)(hne:g≠h):need (swL t g h)+1=need t\/need (swL t g h)=need t+1:=by
 have a:=sw_cyc t.length (fnL t) g h ht.2 hg hh hne
 have b:=cyc_le t.length (fnL t);have c:=cyc_le t.length (sw (fnL t) g h)
 simp only[need,swL_len]
 rw[cyc_congr t.length (fnL (swL t g h)) (sw (fnL t) g h) (fun i _=>swL_fn t g h hg hh i)]
 omega
theorem need_up{t:List Int}{g h:Nat}(ht:tk t)(hg:g<t.length)(hh:h<t.length)(hne:g≠h)(e:t.getD g 0=(h:Int)):need (swL t g h)+1=need t:=by
 have a:=sw_up t.length (fnL t) g h ht.2 hg hh hne (by simp only[fnL,e];omega)
 have b:=cyc_le t.length (fnL t);have c:=cyc_le t.length (sw (fnL t) g h)
 simp only[need,swL_len]
 rw[cyc_congr t.length (fnL (swL t g h)) (sw (fnL t) g h) (fun i _=>swL_fn t g h hg hh i)]
 omega
def rightP(t:List Int)(k:Nat):Prop:=∀i,i<k->t.getD i 0=(i:Int)
noncomputable instance (t:List Int) (k:Nat):Decidable (rightP t k):=Classical.propDecidable _
theorem need_zero{t:List Int}(ht:tk t):need t=0<->rightP t t.length:=by
 have a:=cyc_le t.length (fnL t)
 have b:=cyc_id t.length (fnL t)
 simp only[need]
 constructor
 ·intro h i hi
  have:=b.1 (by omega) i hi
  have:=tk_lt ht i hi
  simp only[fnL]at *;omega
 ·intro h
  have:=b.2 (fun i hi=>by simp only[fnL,h i hi];omega)
  omega
theorem need_step{t:List Int}{g n:Nat}(ht:tk t)(hg:g<t.length)(hne:t.getD g 0≠(g:Int)):(∃h,h<t.length/\h≠g/\need (swL t g h)<=n)<->need t<=n+1:=by
 constructor
 ·rintro⟨h,hh,hn,hl⟩
  have:=need_sw ht hg hh (Ne.symm hn);omega
 ·intro hl
  have a:=tk_lt ht g hg
  refine⟨(t.getD g 0).toNat,by omega,by omega,?_⟩
  have:=need_up ht hg (h:=(t.getD g 0).toNat) (by omega) (by omega) (by omega)
  omega
def isPr(l:List Int)(n:Nat):Bool:=decide (l.length=2/\0<=l.getD 0 0/\l.getD 0 0<l.getD 1 0/\l.getD 1 0<n)
def aft(t:List Int)(l:List (List Int)):Nat->List Int
 |0=>t
 |k+1=>swL (aft t l k) ((l.getD k []).getD 0 0).toNat ((l.getD k []).getD 1 0).toNat
theorem aft_len(t:List Int)(l:List (List Int))(k:Nat):(aft t l k).length=t.length:=by
 induction k with
 |zero=>rfl
 |succ k ih=>rw[aft,swL_len,ih]
def prsP(l:List (List Int))(n k:Nat):Prop:=∀i,i<k->isPr (l.getD i []) n=true
noncomputable instance (l:List (List Int)) (n k:Nat):Decidable (prsP l n k):=Classical.propDecidable _
theorem isPr_of{l:List Int}{n:Nat}(h:isPr l n=true):(l.getD 0 0).toNat<n/\(l.getD 1 0).toNat<n/\(l.getD 0 0).toNat<(l.getD 1 0).toNat/\0<=l.getD 0 0/\0<=l.getD 1 0/\l.length=2:=by
 have:=of_decide_eq_true h;omega
theorem aft_tk{t:List Int}{l:List (List Int)}{k:Nat}(ht:tk t)(h:prsP l t.length k):tk (aft t l k):=by
 induction k with
 |zero=>exact ht
 |succ k ih=>
  have a:=isPr_of (h k (by omega))
  rw[aft];exact swL_tk (ih fun i hi=>h i (by omega)) (by rw[aft_len];omega) (by rw[aft_len];omega)
theorem aft_need{t:List Int}{l:List (List Int)}{k:Nat}(ht:tk t)(h:prsP l t.length k):need t<=need (aft t l k)+k:=by
 induction k with
 |zero=>exact Nat.le_refl _
 |succ k ih=>
  have a:=isPr_of (h k (by omega))
  have b:=ih fun i hi=>h i (by omega)
  have c:=need_sw (aft_tk (k:=k) ht fun i hi=>h i (by omega)) (g:=((l.getD k []).getD 0 0).toNat) (h:=((l.getD k []).getD 1 0).toNat) (by rw[aft_len];omega) (by rw[aft_len];omega) (by omega)
  rw[aft];omega
theorem aft_right{t:List Int}{l:List (List Int)}{k:Nat}(ht:tk t)(h:prsP l t.length k)(hr:rightP (aft t l k) t.length):need t<=k:=by
 have a:=(need_zero (aft_tk ht h)).2 (by rw[aft_len];exact hr)
 have:=aft_need ht h;omega
def tau(g h i:Nat):Nat:=if i=g then h else if i=h then g else i
theorem sw_tau(f:Nat->Nat)(g h i:Nat):sw f g h i=f (tau g h i):=by
 simp only[sw,tau];repeat' split
 all_goals rfl
def pi(l:List (List Int)):Nat->Nat->Nat
 |0,i=>i
 |k+1,i=>pi l k (tau ((l.getD k []).getD 0 0).toNat ((l.getD k []).getD 1 0).toNat i)
theorem aft_pi{t:List Int}{l:List (List Int)}{k:Nat}(h:prsP l t.length k):∀i,fnL (aft t l k) i=fnL t (pi l k i):=by
 induction k with
 |zero=>intro i;rfl
 |succ k ih=>
  intro i
  have a:=isPr_of (h k (by omega))
  rw[aft,swL_fn _ _ _ (by rw[aft_len];omega) (by rw[aft_len];omega),sw_tau,ih fun i hi=>h i (by omega),pi]
theorem pi_lt{l:List (List Int)}{n k:Nat}(h:prsP l n k):∀i,i<n->pi l k i<n:=by
 induction k with
 |zero=>intro i hi;exact hi
 |succ k ih=>
  intro i hi
  have a:=isPr_of (h k (by omega))
  rw[pi];apply ih fun i hi=>h i (by omega)
  simp only[tau];repeat' split
  all_goals omega
def sn(l:List (List Int)):Nat->List Int
 |0=>[]
 |k+1=>sn l k++l.getD k []
def rndP(l:List (List Int))(n k:Nat):Prop:=∀i,i<k->isPr (l.getD i []) n=true/\(l.getD i []).getD 0 0∉sn l i/\(l.getD i []).getD 1 0∉sn l i
noncomputable instance (l:List (List Int)) (n k:Nat):Decidable (rndP l n k):=Classical.propDecidable _
theorem rnd_prs{l:List (List Int)}{n k:Nat}(h:rndP l n k):prsP l n k:=fun i hi=>(h i hi).1
theorem two{l:List Int}(h:l.length=2):l=[l.getD 0 0,l.getD 1 0]:=by
 match l,h with
 | [a,b],_=>rfl
theorem pi_off{l:List (List Int)}{n k:Nat}(h:rndP l n k):∀i:Nat,(i:Int)∉sn l k->pi l k i=i:=by
 induction k with
 |zero=>intro i _;rfl
 |succ k ih=>
  intro i hi
  have a:=isPr_of (h k (by omega)).1
  have e:=two a.2.2.2.2.2
  rw[sn,e]at hi
  simp only[List.mem_append,List.mem_cons,List.not_mem_nil,or_false,not_or]at hi
  rw[pi]
  have:tau ((l.getD k []).getD 0 0).toNat ((l.getD k []).getD 1 0).toNat i=i:=by
   simp only[tau];rw[if_neg (by omega),if_neg (by omega)]
  rw[this];exact ih (fun i hi=>h i (by omega)) i hi.1
theorem pi_pi{l:List (List Int)}{n k:Nat}(h:rndP l n k):∀i,pi l k (pi l k i)=i:=by
 induction k with
 |zero=>intro i;rfl
 |succ k ih=>
  intro i
  have a:=isPr_of (h k (by omega)).1
  have hk:rndP l n k:=fun i hi=>h i (by omega)
  have ih:=ih hk
  have b0:=pi_off hk ((l.getD k []).getD 0 0).toNat (by rw[Int.toNat_of_nonneg a.2.2.2.1];exact(h k (by omega)).2.1)
  have b1:=pi_off hk ((l.getD k []).getD 1 0).toNat (by rw[Int.toNat_of_nonneg a.2.2.2.2.1];exact(h k (by omega)).2.2)
  simp only[pi]
  generalize ((l.getD k []).getD 0 0).toNat=g at *
  generalize ((l.getD k []).getD 1 0).toNat=h' at *
  by_cases c:i=g
  ·have:tau g h' i=h':=by simp[tau,c]
   rw[this,b1]
   have:tau g h' h'=g:=by simp only[tau];rw[if_neg (by omega)];simp
   rw[this,b0,c]
  ·by_cases d:i=h'
   ·have:tau g h' i=g:=by simp only[tau];rw[if_neg c,if_pos d]
    rw[this,b0]
    have:tau g h' g=h':=by simp[tau]
    rw[this,b1,d]
   ·have:tau g h' i=i:=by simp only[tau];rw[if_neg c,if_neg d]
    rw[this]
    have x:pi l k i≠g:=fun e=>c (by rw[<- ih i,e,b0])
    have y:pi l k i≠h':=fun e=>d (by rw[<- ih i,e,b1])
    have:tau g h' (pi l k i)=pi l k i:=by simp only[tau];rw[if_neg x,if_neg y]
    rw[this,ih]
theorem right_fn{t:List Int}(h0:∀i,i<t.length->0<=t.getD i 0):rightP t t.length<->∀i,i<t.length->fnL t i=i:=by
 constructor
 ·intro h i hi;simp only[fnL,h i hi];omega
 ·intro h i hi;have:=h i hi;have:=h0 i hi;simp only[fnL]at *;omega
theorem back_right{t bk:List Int}{a b:List (List Int)}{ka kb:Nat}(ht:tk t)(hb:tk bk)(hl:bk.length=t.length)(hbk:∀i,i<t.length->fnL bk (fnL t i)=i)
  (ha:rndP a t.length ka) (hbr:rndP b t.length kb) (hr:rightP (aft (aft t a ka) b kb) t.length):rightP (aft (aft bk b kb) a ka) t.length:=by
 have pa:=rnd_prs ha;have pb:=rnd_prs hbr
 have l1:(aft (aft t a ka) b kb).length=t.length:=by rw[aft_len,aft_len]
 have l2:(aft (aft bk b kb) a ka).length=t.length:=by rw[aft_len,aft_len,hl]
 have k1:tk (aft (aft t a ka) b kb):=aft_tk (aft_tk ht pa) (by rw[aft_len];exact pb)
 have k2:tk (aft (aft bk b kb) a ka):=aft_tk (aft_tk hb (by rw[hl];exact pb)) (by rw[aft_len,hl];exact pa)
 have e1:∀i,i<t.length->fnL t (pi a ka (pi b kb i))=i:=by
  intro i hi
  have:=(right_fn k1.1).1 (by rw[l1];exact hr) i (by rw[l1];exact hi)
  rw[aft_pi (by rw[aft_len];exact pb),aft_pi pa]at this;exact this
 rw[<- l2,right_fn k2.1]
 intro i hi
 rw[l2]at hi
 rw[aft_pi (by rw[aft_len,hl];exact pa),aft_pi (by rw[hl];exact pb)]
 have x:=hbk (pi a ka (pi b kb (pi b kb (pi a ka i)))) (pi_lt pa _ (pi_lt pb _ (pi_lt pb _ (pi_lt pa _ hi))))
 rw[e1 _ (pi_lt pb _ (pi_lt pa _ hi)),pi_pi hbr,pi_pi ha]at x
 exact x
theorem need_back{t bk:List Int}(ht:tk t)(hl:bk.length=t.length)(hbk:∀i,i<t.length->fnL bk (fnL t i)=i):need bk=need t:=by
 simp only[need,hl];rw[cyc_inv t.length (fnL t) (fnL bk) ht.2 hbk]
theorem tk_has{t:List Int}(ht:tk t)(j:Nat)(hj:j<t.length):∃i,i<t.length/\fnL t i=j:=by
 apply Classical.byContradiction;intro hn
 -- one number fewer: j's place is taken by the last one
 refine no_inj (t.length-1) (fun i=>if fnL t i=t.length-1 then j else fnL t i) (fun i hi=>?_) (fun i hi k hk e=>?_)
 ·have:=ht.2.1 i (by omega)
  have:fnL t i≠j:=fun e=>hn ⟨i,by omega,e⟩
  split
  ·omega
  ·omega
 ·have:=ht.2.2 i (by omega) k (by omega)
  have:fnL t i≠j:=fun e=>hn ⟨i,by omega,e⟩
  have:fnL t k≠j:=fun e=>hn ⟨k,by omega,e⟩
  split at e<;>split at e<;>omega
theorem isTr_of{s:Stand}{t:List Int}(h:isTr s t=true):(t.length:Int)=s.gs/\tk t/\t.length<=7/\wrongs s t s.ws.length<=s.wr:=by
 simp only[isTr,isTk,Bool.and_eq_true,decide_eq_true_eq]at h
 exact⟨h.1,tk_of h.2.1.1,h.2.1.2,h.2.2⟩
theorem isTr_to{s:Stand}{t:List Int}(h1:(t.length:Int)=s.gs)(h2:tk t)(h3:t.length<=7)(h4:wrongs s t s.ws.length<=s.wr):isTr s t=true:=by
 simp only[isTr,isTk,Bool.and_eq_true,decide_eq_true_eq]
 exact⟨h1,⟨tk_to h2,h3⟩,h4⟩
theorem isTr_iff{s:Stand}{t:List Int}:isTr s t=true<->(t.length:Int)=s.gs/\tk t/\t.length<=7/\wrongs s t s.ws.length<=s.wr:=
 ⟨isTr_of,fun h=>isTr_to h.1 h.2.1 h.2.2.1 h.2.2.2⟩
theorem mem_trK{f:List Int->List (List Int)}{first t:List Int}:∀ {k:Nat},t∈trK f first k<->∃u,u<k/\(u:Int)∉first/\t∈f (first++[(u:Int)]):=by
 intro k;induction k with
 |zero=>simp[trK]
 |succ k ih=>
  rw[trK,List.mem_append,ih]
  constructor
  ·rintro(⟨u,hu,h⟩|h)
   ·exact⟨u,by omega,h⟩
   ·split at h
    ·exact absurd h List.not_mem_nil
    ·exact⟨k,by omega,by assumption,h⟩
  ·rintro⟨u,hu,h1,h2⟩
   by_cases e:u=k
   ·right;subst e;rw[if_neg h1];exact h2
   ·left;exact⟨u,by omega,h1,h2⟩
theorem take_suc(t:List Int)(n:Nat)(h:n<t.length):t.take (n+1)=t.take n++[t.getD n 0]:=by
 rw[List.take_succ_eq_append_getElem h];simp[List.getD_eq_getElem?_getD,h]
theorem mem_trF{s:Stand}{t:List Int}:∀ {n:Nat} {first:List Int},first.length+n=s.gs.toNat->0<=s.gs->(t∈trF s n first<->isTr s t=true/\t.take first.length=first):=by
 intro n;induction n with
 |zero=>
  intro first hl hg
  rw[trF]
  constructor
  ·intro h
   split at h
   ·rename_i c
    rw[List.mem_singleton.1 h];exact⟨c,by simp⟩
   ·exact absurd h List.not_mem_nil
  ·rintro⟨h1,h2⟩
   have:=(isTr_of h1).1
   rw[List.take_of_length_le (by omega)]at h2
   subst h2;rw[if_pos h1];exact List.mem_singleton.2 rfl
 |succ n ih=>
  intro first hl hg
  rw[trF,mem_trK]
  constructor
  ·rintro⟨u,hu,h1,h2⟩
   rw[ih (by simp;omega) hg]at h2
   refine⟨h2.1,?_⟩
   have e:=congrArg (List.take first.length) h2.2
   rw[List.take_take,List.length_append]at e
   simp at e;exact e
  ·rintro⟨h1,h2⟩
   have a:=isTr_of h1
   have hlt:first.length<t.length:=by omega
   have b:=tk_to a.2.1 first.length hlt
   refine⟨(t.getD first.length 0).toNat,by omega,?_,?_⟩
   ·rw[Int.toNat_of_nonneg b.1.1,<- h2]
    have c:=b.2
    have e:(List.take first.length t).length=first.length:=by simp;omega
    rw[e];exact c
   ·rw[ih (by simp;omega) hg,Int.toNat_of_nonneg b.1.1]
    refine⟨h1,?_⟩
    rw[List.length_append,List.length_singleton,take_suc _ _ hlt,h2]
theorem nd_trF{s:Stand}:∀ {n:Nat} {first:List Int},first.length+n=s.gs.toNat->0<=s.gs->(trF s n first).Nodup:=by
 intro n;induction n with
 |zero=>intro first _ _;rw[trF];split<;>simp
 |succ n ih=>
  intro first hl hg
  rw[trF]
  have key:∀k,(trK (trF s n) first k).Nodup:=by
   intro k;induction k with
   |zero=>simp[trK]
   |succ k ihk=>
    rw[trK,List.nodup_append]
    refine⟨ihk,?_,?_⟩
    ·split
     ·simp
     ·exact ih (by simp;omega) hg
    ·intro a ha b hb e
     subst e
     split at hb
     ·exact absurd hb List.not_mem_nil
     ·obtain⟨u,hu,_,h2⟩:=mem_trK.1 ha
      rw[mem_trF (by simp;omega) hg]at hb h2
      have e:=hb.2.symm.trans (by simpa using h2.2)
      have e:=List.append_cancel_left e
      simp at e;omega
  exact key _
theorem mem_truths{s:Stand}{t:List Int}(hg:0<=s.gs):t∈truths s<->isTr s t=true:=by
 rw[truths,mem_trF (by simp) hg];simp
theorem nd_truths{s:Stand}(hg:0<=s.gs):(truths s).Nodup:=nd_trF (by simp) hg
theorem mem_where{l:List (List Int)}{g u:Int}{t:List Int}:t∈whereL l g u<->t∈l/\t.getD g.toNat 0=u:=by
 rw[whereL,List.mem_filter];simp
theorem mem_tookK{l:List (List Int)}{g:Int}{x:Int}:∀ {k:Nat},x∈tookK l g k<->∃u:Nat,u<k/\x=(u:Int)/\∃t∈l,t.getD g.toNat 0=x:=by
 intro k;induction k with
 |zero=>simp[tookK]
 |succ k ih=>
  rw[tookK,List.mem_append,ih]
  have key:(whereL l g (k:Int)).length>0<->∃t∈l,t.getD g.toNat 0=(k:Int):=by
   rw[gt_iff_lt,List.length_pos_iff_exists_mem]
   exact⟨fun⟨t,h⟩=>⟨t,(mem_where.1 h).1,(mem_where.1 h).2⟩,fun⟨t,h1,h2⟩=>⟨t,mem_where.2 ⟨h1,h2⟩⟩⟩
  constructor
  ·rintro(⟨u,hu,e,h⟩|h)
   ·exact⟨u,by omega,e,h⟩
   ·split at h
    ·rename_i c
     have e:=List.mem_singleton.1 h
     refine⟨k,by omega,e,?_⟩
     rw[e];exact key.1 c
    ·exact absurd h List.not_mem_nil
  ·rintro⟨u,hu,e,h⟩
   by_cases c:u=k
   ·right
    subst c;rw[e]at h
    rw[if_pos (key.2 h)];exact List.mem_singleton.2 e
   ·left;exact⟨u,by omega,e,h⟩
theorem tookK_rise{l:List (List Int)}{g:Int}:∀ {k:Nat},(tookK l g k).Pairwise (· < ·):=by
 intro k;induction k with
 |zero=>simp[tookK]
 |succ k ih=>
  rw[tookK,List.pairwise_append]
  refine⟨ih,by split<;>simp,?_⟩
  intro a ha b hb
  obtain⟨u,hu,e,_⟩:=mem_tookK.1 ha
  split at hb
  ·have:=List.mem_singleton.1 hb;omega
  ·exact absurd hb List.not_mem_nil
theorem mem_tookL{s:Stand}{l:List (List Int)}{g:Int}{x:Int}(hl:∀t∈l,(t.length:Int)=s.gs/\tk t)(h0:0<=g)(h1:g<s.gs):x∈tookL l g s.gs<->∃t∈l,t.getD g.toNat 0=x:=by
 rw[tookL,mem_tookK]
 constructor
 ·rintro⟨_,_,_,h⟩;exact h
 ·rintro⟨t,ht,e⟩
  have a:=hl t ht
  have b:=tk_lt a.2 g.toNat (by omega)
  refine⟨x.toNat,by omega,by omega,t,ht,e⟩
def knA(f:List (List Int)->Bool)(l:List (List Int))(gs g:Nat):Bool:=(List.range gs).all fun u=>f (whereL l (g:Int) (u:Int))
def kn(gs:Nat):Nat->List (List Int)->Bool
 |0,l=>decide (l.length<=1)
 |n+1,l=>decide (l.length<=1)||(List.range gs).any fun g=>knA (kn gs n) l gs g
theorem knA_iff{f:List (List Int)->Bool}{l:List (List Int)}{gs g:Nat}:knA f l gs g=true<->∀u,u<gs->f (whereL l (g:Int) (u:Int))=true:=by
 simp[knA]
theorem kn_suc{gs n:Nat}{l:List (List Int)}:kn gs (n+1) l=true<->l.length<=1\/∃g,g<gs/\knA (kn gs n) l gs g=true:=by
 simp[kn]
theorem kn_one{gs n:Nat}{l:List (List Int)}(h:l.length<=1):kn gs n l=true:=by
 cases n with
 |zero=>simpa[kn]using h
 |succ n=>exact kn_suc.2 (Or.inl h)
theorem kn_zero{gs:Nat}{l:List (List Int)}:kn gs 0 l=true<->l.length<=1:=by simp[kn]
theorem kn_up{gs:Nat}:∀ {n:Nat} {l:List (List Int)},kn gs n l=true->kn gs (n+1) l=true:=by
 intro n;induction n with
 |zero=>intro l h;exact kn_one (kn_zero.1 h)
 |succ n ih=>
  intro l h
  rw[kn_suc]at *
  rcases h with c|⟨g,hg,hk⟩
  ·left;exact c
  ·right;exact⟨g,hg,knA_iff.2 fun u hu=>ih (knA_iff.1 hk u hu)⟩
theorem nd_where{l:List (List Int)}(h:l.Nodup)(g u:Int):(whereL l g u).Nodup:=List.Pairwise.filter _ h
theorem len_one{α : Type}{l:List α}(hn:l.Nodup)(h:∀a∈l,∀b∈l,a=b):l.length<=1:=by
 match l,hn,h with
 | [],_,_=>simp
 | [_],_,_=>simp
 |a::b::l,hn,h=>
  have:=h a (by simp) b (by simp)
  rw[List.nodup_cons]at hn
  exact absurd (by rw[this];exact List.mem_cons_self ..) hn.1
theorem ext_getD{a b:List Int}(hl:a.length=b.length)(h:∀i,i<a.length->a.getD i 0=b.getD i 0):a=b:=by
 apply List.ext_getElem hl
 intro i h1 h2
 have:=h i h1
 simpa[List.getD_eq_getElem?_getD,h1,h2]using this
theorem tk_last{a b:List Int}{n:Nat}(ha:tk a)(hb:tk b)(la:a.length=n)(lb:b.length=n)(h:∀i,i+1<n->a.getD i 0=b.getD i 0):a=b:=by
 apply ext_getD (by omega)
 intro i hi
 by_cases c:i+1<n
 ·exact h i c
 ·-- the last guest has the one that nobody else has
  have x:=tk_lt ha i hi
  have y:=tk_lt hb i (by omega)
  obtain⟨j,hj,ej⟩:=tk_has ha (b.getD i 0).toNat (by omega)
  have z:=tk_lt ha j hj
  simp only[fnL]at ej
  by_cases d:j=i
  ·subst d;omega
  ·have e:=h j (by omega)
   have:=hb.2.2 j (by omega) i (by omega) (by simp only[fnL];omega)
   omega
theorem kn_agree{gs:Nat}:∀(n:Nat) {j:Nat} {l:List (List Int)},l.Nodup->(∀t∈l,t.length=gs/\tk t)->j+n+1=gs->(∀a∈l,∀b∈l,∀i,i<j->a.getD i 0=b.getD i 0)->kn gs n l=true:=by
 intro n;induction n with
 |zero=>
  intro j l hn ht hj h
  apply kn_one;apply len_one hn
  intro a ha b hb
  exact tk_last (ht a ha).2 (ht b hb).2 (ht a ha).1 (ht b hb).1 (fun i hi=>h a ha b hb i (by omega))
 |succ n ih=>
  intro j l hn ht hj h
  rw[kn_suc];right
  refine⟨j,by omega,knA_iff.2 fun u hu=>?_⟩
  refine ih (j:=j+1) (nd_where hn _ _) (fun t h=>ht t (mem_where.1 h).1) (by omega) ?_
  intro a ha b hb i hi
  rw[mem_where]at ha hb
  by_cases c:i<j
  ·exact h a ha.1 b hb.1 i c
  ·have:i=j:=by omega
   subst this
   have x:=ha.2;have y:=hb.2
   rw[Int.toNat_natCast]at x y
   rw[x,y]
theorem kn_gs{gs:Nat}{l:List (List Int)}(hn:l.Nodup)(ht:∀t∈l,t.length=gs/\tk t):kn gs (gs-1) l=true:=by
 cases gs with
 |zero=>
  apply kn_one;apply len_one hn
  intro a ha b hb
  have x:=(ht a ha).1;have y:=(ht b hb).1
  rw[List.length_eq_zero_iff.1 x,List.length_eq_zero_iff.1 y]
 |succ gs=>exact kn_agree gs (j:=0) hn ht (by omega) (fun _ _ _ _ i hi=>absurd hi (by omega))
theorem differ{gs:Nat}{l:List (List Int)}(hn:l.Nodup)(ht:∀t∈l,t.length=gs/\tk t)(h:1<l.length):∃g,g<gs/\∃a∈l,∃b∈l,a.getD g 0≠b.getD g 0:=by
 apply Classical.byContradiction;intro hc
 have:=len_one hn fun a ha b hb=>by
  apply ext_getD (by rw[(ht a ha).1,(ht b hb).1])
  intro i hi
  apply Classical.byContradiction;intro hne
  exact hc ⟨i,by rw[(ht a ha).1]at hi;exact hi,a,ha,b,hb,hne⟩
 omega
theorem kn_len{gs:Nat}:∀(n:Nat) {l:List (List Int)},l.length<=n+1->l.Nodup->(∀t∈l,t.length=gs/\tk t)->kn gs n l=true:=by
 intro n;induction n with
 |zero=>intro l hl _ _;exact kn_one (by omega)
 |succ n ih=>
  intro l hl hn ht
  by_cases c:l.length<=1
  ·exact kn_one c
  ·obtain⟨g,hg,a,ha,b,hb,hne⟩:=differ hn ht (by omega)
   rw[kn_suc];right
   refine⟨g,hg,knA_iff.2 fun u hu=>ih ?_ (nd_where hn _ _) fun t h=>ht t (mem_where.1 h).1⟩
   have:(whereL l (g:Int) (u:Int)).length<l.length:=by
    rw[whereL,List.length_filter_lt_length_iff_exists]
    by_cases d:a.getD g 0=(u:Int)
    ·exact⟨b,hb,by rw[decide_eq_true_eq,Int.toNat_natCast];omega⟩
    ·exact⟨a,ha,by rw[decide_eq_true_eq,Int.toNat_natCast];exact d⟩
   omega
theorem least(p:Nat->Bool):∀n,p n=true->∃m,m<=n/\p m=true/\∀k,k<m->p k=false:=by
 intro n
 induction n using Nat.strongRecOn with
 |ind n ih=>
  intro h
  by_cases c:∃k,k<n/\p k=true
  ·obtain⟨k,hk,hp⟩:=c
   obtain⟨m,h1,h2⟩:=ih k hk hp
   exact⟨m,by omega,h2⟩
  ·exact⟨n,Nat.le_refl _,h,fun k hk=>by
    cases e:p k with
    |false=>rfl
    |true=>exact absurd ⟨k,hk,e⟩ c⟩
open Classical in
noncomputable def qn(gs:Nat)(l:List (List Int)):Nat:=if h:∃m,kn gs m l=true/\∀k,k<m->kn gs k l=false then Classical.choose h else 0
theorem qn_spec{gs n:Nat}{l:List (List Int)}(h:kn gs n l=true):qn gs l<=n/\kn gs (qn gs l) l=true/\∀k,k<qn gs l->kn gs k l=false:=by
 obtain⟨m,h1,h2⟩:=least (fun n=>kn gs n l) n h
 have hx:∃m,kn gs m l=true/\∀k,k<m->kn gs k l=false:=⟨m,h2⟩
 have a:=Classical.choose_spec hx
 have e:qn gs l=Classical.choose hx:=by rw[qn,dif_pos hx]
 rw[e]
 refine⟨?_,a⟩
 apply Classical.byContradiction;intro c
 have:=a.2 n (by omega)
 rw[this]at h;exact Bool.noConfusion h
theorem qn_eq{gs n:Nat}{l:List (List Int)}(h:kn gs n l=true)(hm:∀k,k<n->kn gs k l=false):qn gs l=n:=by
 have a:=qn_spec h
 apply Classical.byContradiction;intro c
 have:=hm (qn gs l) (by omega)
 rw[a.2.1]at this;exact Bool.noConfusion this
theorem qn_congr{gs:Nat}{l l':List (List Int)}(h:∀n,kn gs n l=kn gs n l'):qn gs l=qn gs l':=by
 have:(fun m=>kn gs m l)=fun m=>kn gs m l':=funext h
 by_cases hx:∃n,kn gs n l=true
 ·obtain⟨n,hn⟩:=hx
  have a:=qn_spec hn
  exact(qn_eq (by rw[<- h];exact a.2.1) fun k hk=>by rw[<- h];exact a.2.2 k hk).symm
 ·have e1:qn gs l=0:=by rw[qn,dif_neg];rintro⟨m,hm,_⟩;exact hx ⟨m,hm⟩
  have e2:qn gs l'=0:=by rw[qn,dif_neg];rintro⟨m,hm,_⟩;exact hx ⟨m,by rw[h];exact hm⟩
  rw[e1,e2]
theorem qn_zero{gs n:Nat}{l:List (List Int)}(h:kn gs n l=true):qn gs l=0<->l.length<=1:=by
 have a:=qn_spec h
 constructor
 ·intro e;rw[e]at a;exact kn_zero.1 a.2.1
 ·intro e;exact qn_eq (kn_one e) fun k hk=>absurd hk (by omega)
theorem kn_ren{gs:Nat}(r:List Int->List Int)(hr:∀g,g<gs->∃g',g'<gs/\∀u',u'<gs->∃u,u<gs/\∀t,t.length=gs/\tk t->((r t).getD g' 0=((u':Nat):Int)<->t.getD g 0=(u:Int))) :
  ∀ {n:Nat} {l l':List (List Int)},(∀t∈l,t.length=gs/\tk t)->l'.Perm (l.map r)->kn gs n l=true->kn gs n l'=true:=by
 intro n;induction n with
 |zero=>intro l l' _ hp h;rw[kn_zero]at *;rw[hp.length_eq,List.length_map];exact h
 |succ n ih=>
  intro l l' hl hp h
  rw[kn_suc]at *
  rcases h with c|⟨g,hg,hk⟩
  ·left;rw[hp.length_eq,List.length_map];exact c
  ·right
   obtain⟨g',hg',hu⟩:=hr g hg
   refine⟨g',hg',knA_iff.2 fun u' hu'=>?_⟩
   obtain⟨u,hu1,hu2⟩:=hu u' hu'
   refine ih (l:=whereL l (g:Int) (u:Int)) (fun t h=>hl t (mem_where.1 h).1) ?_ (knA_iff.1 hk u hu1)
   have e:(whereL l (g:Int) (u:Int)).map r=(l.map r).filter fun t=>decide (t.getD g' 0=(u':Int)):=by
    rw[List.filter_map,whereL]
    congr 1
    apply List.filter_congr
    intro t ht
    have:=hu2 t (hl t ht)
    simp only[Function.comp,Int.toNat_natCast,decide_eq_decide]
    exact this.symm
   rw[e,whereL]
   simp only[Int.toNat_natCast]
   exact hp.filter _
theorem nd_sub_len{α : Type}[DecidableEq α]{a b:List α}(ha:a.Nodup)(hb:b.Nodup)(h:∀x∈a,x∈b):a.length<=b.length:=by
 have hp:a.Perm (b.filter fun x=>decide (x∈a)):=by
  rw[List.perm_ext_iff_of_nodup ha (List.Pairwise.filter _ hb)]
  intro x
  rw[List.mem_filter,decide_eq_true_eq]
  exact⟨fun hx=>⟨h x hx,hx⟩,fun hx=>hx.2⟩
 rw[hp.length_eq];exact List.length_filter_le ..
theorem rise_nd{a:List Int}(h:a.Pairwise (· < ·)):a.Nodup:=h.imp fun {x y} hxy=>by omega
theorem truths_ok{s:Stand}(hg:0<=s.gs):∀t∈truths s,t.length=s.gs.toNat/\tk t:=fun t ht=>by
 have:=isTr_of ((mem_truths hg).1 ht);exact⟨by omega,this.2.1⟩
theorem truths_okI{s:Stand}(hg:0<=s.gs):∀t∈truths s,(t.length:Int)=s.gs/\tk t:=fun t ht=>by
 have:=isTr_of ((mem_truths hg).1 ht);exact⟨this.1,this.2.1⟩
theorem kn_perm{gs n:Nat}{l l':List (List Int)}(h:l.Perm l')(hl:∀t∈l,t.length=gs/\tk t):kn gs n l=kn gs n l':=by
 have hr:∀g,g<gs->∃g',g'<gs/\∀u',u'<gs->∃u,u<gs/\∀t:List Int,t.length=gs/\tk t->((id t).getD g' 0=((u':Nat):Int)<->t.getD g 0=(u:Int)):=
  fun g hg=>⟨g,hg,fun u hu=>⟨u,hu,fun t _=>Iff.rfl⟩⟩
 rw[Bool.eq_iff_iff]
 constructor
 ·exact kn_ren id hr hl (by rw[List.map_id];exact h.symm)
 ·exact kn_ren id hr (fun t ht=>hl t (h.mem_iff.2 ht)) (by rw[List.map_id];exact h)
def Stand.add(s:Stand)(w:Word):Stand:=⟨s.gs,s.ws++[w],s.wr⟩
noncomputable def lieW(s:Stand)(w:Word):Bool := !(truths s).any fun t=>isSo w t
theorem tk_mk{l:List Int}(h1:∀i,i<l.length->0<=l.getD i 0/\l.getD i 0<l.length)(h2:∀i,i<l.length->∀j,j<l.length->l.getD i 0=l.getD j 0->i=j):tk l:=by
 refine⟨fun i hi=>(h1 i hi).1,fun i hi=>?_,fun i hi j hj e=>?_⟩
 ·have:=h1 i hi;simp only[fnL];omega
 ·have:=h1 i hi;have:=h1 j hj;simp only[fnL]at e;exact h2 i hi j hj (by omega)
theorem isWo_of{s:Stand}{w:Word}(h:isWo s w=true):(0<=w.g/\w.g<s.gs)/\(0<=w.o/\w.o<s.gs)/\((w.k=3\/w.k=4)/\w.am.length=0/\w.g≠w.o\/¬(w.k=3\/w.k=4)/\(w.k=1\/w.k=2)/\w.am.length≠0/\w.o=0/\riseP s w.am w.am.length):=by
 simp only[isWo,isG,Bool.and_eq_true,decide_eq_true_eq]at h
 refine⟨h.1,h.2.1,?_⟩
 have h:=h.2.2
 split at h
 ·rename_i c;left;exact⟨c,of_decide_eq_true h⟩
 ·rename_i c
  simp only[Bool.and_eq_true,decide_eq_true_eq]at h
  right;exact⟨c,h.1.1,h.1.2.1,h.1.2.2,h.2⟩
theorem am_ok{s:Stand}{w:Word}(h:isWo s w=true):∀y∈w.am,0<=y/\y<s.gs:=by
 intro y hy
 rcases(isWo_of h).2.2 with c|c
 ·rw[List.length_eq_zero_iff.1 c.2.1]at hy;exact absurd hy List.not_mem_nil
 ·obtain⟨i,hi,e⟩:=List.getElem_of_mem hy
  have:=(c.2.2.2.2 i hi).1
  simp[List.getD_eq_getElem?_getD,hi,e]at this;exact this
theorem riseP_pw{s:Stand}{l:List Int}(h:riseP s l l.length):l.Pairwise (· < ·):=by
 rw[List.pairwise_iff_getElem]
 have key:∀d i,i+d+1<l.length->l.getD i 0<l.getD (i+d+1) 0:=by
  intro d;induction d with
  |zero=>intro i hi;exact(h (i+1) hi).2 (by omega)
  |succ d ih=>
   intro i hi
   have a:=ih i (by omega)
   have b:=(h (i+(d+1)+1) hi).2 (by omega)
   have:i+(d+1)+1-1=i+d+1:=by omega
   rw[this]at b;omega
 intro i j hi hj hij
 have:=key (j-i-1) i (by omega)
 rw[show i+(j-i-1)+1=j by omega]at this
 simpa[List.getD_eq_getElem?_getD,hi,hj]using this
theorem am_rise{s:Stand}{w:Word}(h:isWo s w=true):w.am.Pairwise (· < ·):=by
 rcases(isWo_of h).2.2 with c|c
 ·rw[List.length_eq_zero_iff.1 c.2.1];exact List.Pairwise.nil
 ·exact riseP_pw c.2.2.2.2
theorem chk_ok{s:Stand}:s.chk=0<->(0<=s.gs/\s.gs<=7)/\(0<=s.wr/\s.wr<=7)/\s.ws.length<=20/\∀w∈s.ws,isWo s w=true:=by
 rw[Stand.chk]
 constructor
 ·intro h
  split at h
  ·omega
  ·split at h
   ·omega
   ·split at h
    ·rename_i c;exact⟨by omega,by omega,by omega,List.all_eq_true.1 c⟩
    ·omega
 ·rintro⟨a,b,c,d⟩
  rw[if_neg (by omega),if_neg (by omega),if_pos (List.all_eq_true.2 d)]
theorem pw_riseP{s:Stand}{l:List Int}(hb:∀y∈l,0<=y/\y<s.gs)(h:l.Pairwise (· < ·)):riseP s l l.length:=by
 intro i hi
 have e:∀j,(hj:j<l.length)->l.getD j 0=l[j]:=fun j hj=>by simp[List.getD_eq_getElem?_getD,hj]
 refine⟨by rw[e i hi];exact hb _ (List.getElem_mem hi),fun h0=>?_⟩
 rw[e i hi,e (i-1) (by omega)]
 exact List.pairwise_iff_getElem.1 h (i-1) i (by omega) hi (by omega)
theorem isWo_to{s:Stand}{w:Word}(h1:0<=w.g/\w.g<s.gs)(h2:0<=w.o/\w.o<s.gs)(h3:(w.k=3\/w.k=4)/\w.am.length=0/\w.g≠w.o\/¬(w.k=3\/w.k=4)/\(w.k=1\/w.k=2)/\w.am.length≠0/\w.o=0/\riseP s w.am w.am.length):isWo s w=true:=by
 simp only[isWo,isG,Bool.and_eq_true,decide_eq_true_eq]
 refine⟨h1,h2,?_⟩
 rcases h3 with⟨c,h⟩|⟨c,a,b,d,e⟩
 ·rw[if_pos c];exact decide_eq_true h
 ·rw[if_neg c];simp only[Bool.and_eq_true,decide_eq_true_eq];exact⟨⟨a,b,d⟩,e⟩
theorem enough{s:Stand}(hg:0<=s.gs)(hn:truths s≠[]):qn s.gs.toNat (truths s)<=s.gs.toNat-1/\qn s.gs.toNat (truths s)<(truths s).length/\(qn s.gs.toNat (truths s)=0<->(truths s).length=1):=by
 have hl:0<(truths s).length:=List.length_pos_iff.2 hn
 have a:=kn_gs (nd_truths hg) (truths_ok hg)
 have b:=kn_len ((truths s).length-1) (by omega) (nd_truths hg) (truths_ok hg)
 have c:=qn_zero a
 have x:=(qn_spec a).1;have y:=(qn_spec b).1
 exact⟨x,by omega,by omega⟩
def oneL(l:List Int):Int:=if l.length=1 then l.getD 0 0 else -1
def knownK(s:Stand)(l:List (List Int)):Nat->List Int
 |0=>[]
 |k+1=>knownK s l k++[oneL (tookL l (k:Int) s.gs)]
theorem knownK_len(s:Stand)(l:List (List Int))(k:Nat):(knownK s l k).length=k:=by
 induction k with
 |zero=>rfl
 |succ k ih=>rw[knownK,List.length_append,ih];rfl
theorem knownK_get(s:Stand)(l:List (List Int)):∀ {k i:Nat},i<k->(knownK s l k).getD i 0=oneL (tookL l (i:Int) s.gs):=by
 intro k;induction k with
 |zero=>intro i h;omega
 |succ k ih=>
  intro i hi
  rw[knownK,List.getD_eq_getElem?_getD,List.getElem?_append]
  by_cases c:i<k
  ·rw[if_pos (by rw[knownK_len];exact c),<- List.getD_eq_getElem?_getD,ih c]
  ·have:i=k:=by omega
   subst this
   rw[if_neg (by rw[knownK_len];omega),knownK_len];simp
noncomputable def liarsK(s:Stand):Nat->List Int
 |0=>[]
 |k+1=>liarsK s k++if lieW s (s.ws.getD k ⟨0,0,0,[]⟩)=true then [(k:Int)] else []
theorem liarsK_len{s:Stand}:∀ {k:Nat},k<=s.ws.length->(liarsK s k).length=(s.ws.take k).countP (lieW s):=by
 intro k;induction k with
 |zero=>intro _;simp[liarsK]
 |succ k ih=>
  intro hk
  have e:s.ws.getD k ⟨0,0,0,[]⟩=s.ws[k]:=by simp[List.getD_eq_getElem?_getD,show k<s.ws.length by omega]
  rw[liarsK,List.length_append,ih (by omega),List.take_succ_eq_append_getElem (by omega),List.countP_append,List.countP_singleton,e]
  cases lieW s s.ws[k]<;>simp
theorem n51(l:List Int)(x:Int)(hl:l.length<=1000000):FnA Try.prog 60 [.isl (l.map jAV), .int .i64 x] (· = .bool (decide (x∈l))):=by
 have hL:(l.map jAV).length=l.length:=by simp
 refine fnA 0 ok60 (by simp) ?_
 (conv=>whnf);(repeat'((first|apply bT|apply bF|apply bN|((first|apply bD|apply bEq|apply bNe)<;>intro hh<;>try(exfalso;omega))|refine wJ ?_|refine nJ ?_)<;>conv=>whnf))
 refine loop_i (α :=Nat) (fun k=>[(5, .int .i64 k),(1, .int .i64 x),(0, .isl (l.map jAV))]) (fun k=>[]) (fun k=>k<=l.length/\∀b∈l.take k,decide (b=x)=false) (fun k=>l.length-k) 0 mI ⟨by omega,by simp⟩ ?_
 rintro k ⟨h1,h2⟩
 conv=>whnf
 refine bD (fun h3=>?_) (fun h3=>?_)
 ·have hk:k<l.length:=by omega
  by_cases hx:l[k]=x
  ·rw[decide_eq_true (by rw[<- hx];exact List.getElem_mem hk)]
   (conv=>whnf);(repeat'((first|apply bT|apply bF|apply bN|((first|apply bD|apply bEq|apply bNe)<;>intro hh<;>try(exfalso;omega))|refine iaJ (getM jAV l k hk) ?_|refine wJ ?_|refine nJ ?_)<;>conv=>whnf))
   all_goals rfl
  ·(conv=>whnf);(repeat'((first|apply bT|apply bF|apply bN|((first|apply bD|apply bEq|apply bNe)<;>intro hh<;>try(exfalso;omega))|refine iaJ (getM jAV l k hk) ?_|refine wJ ?_|refine nJ ?_)<;>conv=>whnf))
   exact⟨k+1,mI,⟨by omega,take_none hk h2 (decide_eq_false hx)⟩,by omega⟩
 ·have:k=l.length:=by omega
  subst this
  rw[List.take_length]at h2
  rw[decide_eq_false (fun h=>by have:=h2 x h;simp at this)]
  (conv=>whnf);(repeat'((first|apply bT|apply bF|apply bN|((first|apply bD|apply bEq|apply bNe)<;>intro hh<;>try(exfalso;omega))|refine wJ ?_|refine nJ ?_)<;>conv=>whnf))
  all_goals rfl
theorem n57(s:Stand)(n:Int):FnA Try.prog 74 [.agg s.cells, .int .i64 n] (· = .bool (isG s n)):=by
 unfold isG
 refine fnA 1 ok74 (by simp) ?_
 (conv=>whnf);(repeat'((first|apply bT|apply bF|apply bN|((first|apply bD|apply bEq|apply bNe)<;>intro hh<;>try(exfalso;omega))|refine wJ ?_|refine nJ ?_)<;>conv=>whnf))
 all_goals first|rfl|exact congrArg AV.bool (decide_eq_decide.2 (by omega))|exact congrArg AV.bool (decide_eq_true (by omega)).symm|exact congrArg AV.bool (decide_eq_false (by omega)).symm
theorem isG_iff{s:Stand}{n:Int}:isG s n=true<->0<=n/\n<s.gs:=by simp[isG]
theorem isG_no{s:Stand}{n:Int}:isG s n=false<->¬(0<=n/\n<s.gs):=by simp only[isG,decide_eq_false_iff_not]
theorem n49(s:Stand)(w:Word)(hl:w.am.length<=1000000):FnA Try.prog 49 [.agg s.cells, .agg w.av] (· = .bool (isWo s w)):=by
 have hL:(w.am.map jAV).length=w.am.length:=by simp
 have e1:=n57 s w.g
 have e2:=n57 s w.o
 unfold isWo
 refine fnA 2 ok49 (by simp) ?_
 cases h1:isG s w.g<;>rw[h1]at e1
 ·(conv=>whnf);(repeat'((first|apply bT|apply bF|apply bN|((first|apply bD|apply bEq|apply bNe)<;>intro hh<;>try(exfalso;omega))|refine e1.cq rfl rfl ?_|refine wJ ?_|refine nJ ?_)<;>conv=>whnf))
  all_goals rfl
 ·cases h2:isG s w.o<;>rw[h2]at e2
  ·(conv=>whnf);(repeat'((first|apply bT|apply bF|apply bN|((first|apply bD|apply bEq|apply bNe)<;>intro hh<;>try(exfalso;omega))|refine e1.cq rfl rfl ?_|refine e2.cq rfl rfl ?_|refine wJ ?_|refine nJ ?_)<;>conv=>whnf))
   all_goals rfl
  ·by_cases h3:w.k=3\/w.k=4
   ·rw[if_pos h3]
    simp only[Bool.true_and]
    (conv=>whnf);(repeat'((first|apply bT|apply bF|apply bN|((first|apply bD|apply bEq|apply bNe)<;>intro hh<;>try(exfalso;omega))|refine e1.cq rfl rfl ?_|refine e2.cq rfl rfl ?_|refine wJ ?_|refine nJ ?_)<;>conv=>whnf))
    all_goals first
     |exact congrArg AV.bool (by rw[Bool.eq_iff_iff,bne_iff_ne,decide_eq_true_eq];exact⟨fun h=>⟨by omega,h⟩,fun h=>h.2⟩)
     |first|rfl|exact congrArg AV.bool (decide_eq_decide.2 (by omega))|exact congrArg AV.bool (decide_eq_true (by omega)).symm|exact congrArg AV.bool (decide_eq_false (by omega)).symm
   ·rw[if_neg h3]
    by_cases h4:(w.k=1\/w.k=2)/\w.am.length≠0/\w.o=0
    ·rw[decide_eq_true h4]
     simp only[Bool.true_and]
     (conv=>whnf);(repeat'((first|apply bT|apply bF|apply bN|((first|apply bD|apply bEq|apply bNe)<;>intro hh<;>try(exfalso;omega))|refine e1.cq rfl rfl ?_|refine e2.cq rfl rfl ?_|refine wJ ?_|refine nJ ?_)<;>conv=>whnf))
     all_goals
      refine loop_i (α :=Nat) (fun k=>[(5, .int .i64 k),(3, .own 1 0),(2, .own 0 0)]) (fun k=>[.box false s.cells, .box false w.av]) (fun k=>k<=w.am.length/\riseP s w.am k) (fun k=>w.am.length-k) 0 mI ⟨by omega,fun i hi=>by omega⟩ ?_
      rintro k ⟨h5,h6⟩
      conv=>whnf
      refine bD (fun h7=>?_) (fun h7=>?_)
      ·have hk:k<w.am.length:=by omega
       have g1:=getJ w.am k hk
       have e3:=n57 s (w.am.getD k 0)
       cases h8:isG s (w.am.getD k 0)<;>rw[h8]at e3
       ·rw[decide_eq_false fun h=>isG_no.1 h8 (h k hk).1]
        (conv=>whnf);(repeat'((first|apply bT|apply bF|apply bN|((first|apply bD|apply bEq|apply bNe)<;>intro hh<;>try(exfalso;omega))|refine iaJ g1 ?_|refine e3.cq rfl rfl ?_|refine wJ ?_|refine nJ ?_)<;>conv=>whnf))
        all_goals rfl
       ·have h9:=isG_iff.1 h8
        by_cases h10:k=0
        ·subst h10
         (conv=>whnf);(repeat'((first|apply bT|apply bF|apply bN|((first|apply bD|apply bEq|apply bNe)<;>intro hh<;>try(exfalso;omega))|refine iaJ g1 ?_|refine e3.cq rfl rfl ?_|refine wJ ?_|refine nJ ?_)<;>conv=>whnf))
         exact⟨0+1,mI,⟨by omega,fun i hi=>by
                               have:i=0:=by omega
                               subst this;exact⟨h9,fun h=>by omega⟩⟩,by omega⟩
        ·have g2:=getJ w.am (k-1) (by omega)
         have g3:(w.am.map jAV).getD ((k:Int)-1).toNat []=[.int .i64 (w.am.getD (k-1) 0)]:=by rw[show((k:Int)-1).toNat=k-1 by omega];exact g2
         by_cases h11:w.am.getD (k-1) 0<w.am.getD k 0
         ·(conv=>whnf);(repeat'((first|apply bT|apply bF|apply bN|((first|apply bD|apply bEq|apply bNe)<;>intro hh<;>try(exfalso;omega))|refine iaJ g1 ?_|refine iaJ g3 ?_|refine e3.cq rfl rfl ?_|refine wJ ?_|refine nJ ?_)<;>conv=>whnf))
          refine⟨k+1,mI,⟨by omega,fun i hi=>?_⟩,by omega⟩
          by_cases h12:i=k
          ·subst h12;exact⟨h9,fun _=>h11⟩
          ·exact h6 i (by omega)
         ·rw[decide_eq_false fun h=>h11 ((h k hk).2 (by omega))]
          (conv=>whnf);(repeat'((first|apply bT|apply bF|apply bN|((first|apply bD|apply bEq|apply bNe)<;>intro hh<;>try(exfalso;omega))|refine iaJ g1 ?_|refine iaJ g3 ?_|refine e3.cq rfl rfl ?_|refine wJ ?_|refine nJ ?_)<;>conv=>whnf))
          all_goals rfl
      ·have:k=w.am.length:=by omega
       subst this
       rw[decide_eq_true h6]
       (conv=>whnf);(repeat'((first|apply bT|apply bF|apply bN|((first|apply bD|apply bEq|apply bNe)<;>intro hh<;>try(exfalso;omega))|refine wJ ?_|refine nJ ?_)<;>conv=>whnf))
       all_goals rfl
    ·rw[decide_eq_false h4]
     simp only[Bool.true_and,Bool.false_and]
     (conv=>whnf);(repeat'((first|apply bT|apply bF|apply bN|((first|apply bD|apply bEq|apply bNe)<;>intro hh<;>try(exfalso;omega))|refine e1.cq rfl rfl ?_|refine e2.cq rfl rfl ?_|refine wJ ?_|refine nJ ?_)<;>conv=>whnf))
     all_goals rfl
theorem n15(s:Stand)(hl:∀w∈s.ws,w.am.length<=1000000):FnA Try.prog 15 [.agg s.cells] (· = .int .i64 s.chk):=by
 have hL:(s.ws.map Word.av).length=s.ws.length:=by simp
 unfold Stand.chk
 refine fnA 1 ok15 (by simp) ?_
 by_cases h1:s.gs<0\/s.gs>7\/s.wr<0\/s.wr>7
 ·rw[if_pos h1]
  (conv=>whnf);(repeat'((first|apply bT|apply bF|apply bN|((first|apply bD|apply bEq|apply bNe)<;>intro hh<;>try(exfalso;omega))|refine wJ ?_|refine nJ ?_)<;>conv=>whnf))
  all_goals rfl
 ·rw[if_neg h1]
  by_cases h2:s.ws.length>20
  ·rw[if_pos h2]
   (conv=>whnf);(repeat'((first|apply bT|apply bF|apply bN|((first|apply bD|apply bEq|apply bNe)<;>intro hh<;>try(exfalso;omega))|refine wJ ?_|refine nJ ?_)<;>conv=>whnf))
   all_goals rfl
  ·rw[if_neg h2]
   (conv=>whnf);(repeat'((first|apply bT|apply bF|apply bN|((first|apply bD|apply bEq|apply bNe)<;>intro hh<;>try(exfalso;omega))|refine wJ ?_|refine nJ ?_)<;>conv=>whnf))
   refine loop_i (α :=Nat) (fun k=>[(3, .int .i64 k),(1, .own 0 0)]) (fun k=>[.box false s.cells]) (fun k=>k<=s.ws.length/\∀w∈s.ws.take k,isWo s w=true) (fun k=>s.ws.length-k) 0 mI ⟨by omega,by simp⟩ ?_
   rintro k ⟨h5,h6⟩
   conv=>whnf
   refine bD (fun h7=>?_) (fun h7=>?_)
   ·have hk:k<s.ws.length:=by omega
    have g1:=getM Word.av s.ws k hk
    have e3:=n49 s s.ws[k] (hl _ (List.getElem_mem hk))
    cases h8:isWo s s.ws[k]<;>rw[h8]at e3
    ·rw[if_neg fun h=>by rw[List.all_eq_true.1 h _ (List.getElem_mem hk)]at h8;cases h8]
     (conv=>whnf);(repeat'((first|apply bT|apply bF|apply bN|((first|apply bD|apply bEq|apply bNe)<;>intro hh<;>try(exfalso;omega))|refine iaJ g1 ?_|refine e3.cq rfl rfl ?_|refine wJ ?_|refine nJ ?_)<;>conv=>whnf))
     all_goals rfl
    ·(conv=>whnf);(repeat'((first|apply bT|apply bF|apply bN|((first|apply bD|apply bEq|apply bNe)<;>intro hh<;>try(exfalso;omega))|refine iaJ g1 ?_|refine e3.cq rfl rfl ?_|refine wJ ?_|refine nJ ?_)<;>conv=>whnf))
     exact⟨k+1,mI,⟨by omega,take_all hk h6 h8⟩,by omega⟩
   ·have:k=s.ws.length:=by omega
    subst this
    rw[List.take_length]at h6
    rw[if_pos (List.all_eq_true.2 h6)]
    (conv=>whnf);(repeat'((first|apply bT|apply bF|apply bN|((first|apply bD|apply bEq|apply bNe)<;>intro hh<;>try(exfalso;omega))|refine wJ ?_|refine nJ ?_)<;>conv=>whnf))
    all_goals rfl
theorem n23(w:Word)(t:List Int)(hl:w.am.length<=1000000)(ht:t.length<=1000000)(hg:0<=w.g/\w.g<t.length)(ho:0<=w.o/\w.o<t.length):FnA Try.prog 23 [.agg w.av, .isl (t.map jAV)] (· = .bool (isSo w t)):=by
 have hL:(t.map jAV).length=t.length:=by simp
 have g1:=getJ t w.g.toNat (by omega)
 have g2:=getJ t w.o.toNat (by omega)
 have e1:=n51 w.am (t.getD w.g.toNat 0) hl
 unfold isSo
 refine fnA 1 ok23 (by simp) ?_
 by_cases h1:w.k=1
 ·rw[if_pos h1]
  (conv=>whnf);(repeat'((first|apply bT|apply bF|apply bN|((first|apply bD|apply bEq|apply bNe)<;>intro hh<;>try(exfalso;omega))|refine iaJ g1 ?_|refine e1.cq rfl rfl ?_|refine wJ ?_|refine nJ ?_)<;>conv=>whnf))
  all_goals rfl
 ·rw[if_neg h1]
  by_cases h2:w.k=2
  ·rw[if_pos h2]
   (conv=>whnf);(repeat'((first|apply bT|apply bF|apply bN|((first|apply bD|apply bEq|apply bNe)<;>intro hh<;>try(exfalso;omega))|refine iaJ g1 ?_|refine e1.cq rfl rfl ?_|refine wJ ?_|refine nJ ?_)<;>conv=>whnf))
   all_goals rfl
  ·rw[if_neg h2]
   by_cases h3:w.k=3
   ·rw[if_pos h3]
    (conv=>whnf);(repeat'((first|apply bT|apply bF|apply bN|((first|apply bD|apply bEq|apply bNe)<;>intro hh<;>try(exfalso;omega))|refine iaJ g1 ?_|refine iaJ g2 ?_|refine wJ ?_|refine nJ ?_)<;>conv=>whnf))
    all_goals first
     |exact congrArg AV.bool (decide_eq_false (fun h=>by omega)).symm
     |exact congrArg AV.bool (by rw[decide_eq_decide];exact⟨fun h=>⟨by omega,h⟩,fun h=>h.2⟩)
     |exact congrArg AV.bool (by rw[Bool.eq_iff_iff,beq_iff_eq,decide_eq_true_eq];exact⟨fun h=>⟨by omega,h⟩,fun h=>h.2⟩)
   ·rw[if_neg h3]
    (conv=>whnf);(repeat'((first|apply bT|apply bF|apply bN|((first|apply bD|apply bEq|apply bNe)<;>intro hh<;>try(exfalso;omega))|refine iaJ g1 ?_|refine iaJ g2 ?_|refine wJ ?_|refine nJ ?_)<;>conv=>whnf))
    all_goals first
     |exact congrArg AV.bool (decide_eq_true (Or.inl (by omega))).symm
     |exact congrArg AV.bool (by rw[decide_eq_decide];exact⟨fun h=>Or.inr h,fun h=>h.resolve_left (by omega)⟩)
     |exact congrArg AV.bool (by rw[Bool.eq_iff_iff,beq_iff_eq,decide_eq_true_eq];exact⟨fun h=>Or.inr h,fun h=>h.resolve_left (by omega)⟩)
theorem n28(t:List Int)(ht:t.length<=1000000):FnA Try.prog 28 [.isl (t.map jAV)] (· = .bool (isTk t)):=by
 have hL:(t.map jAV).length=t.length:=by simp
 unfold isTk
 refine fnA 0 ok28 (by simp) ?_
 (conv=>whnf);(repeat'((first|apply bT|apply bF|apply bN|((first|apply bD|apply bEq|apply bNe)<;>intro hh<;>try(exfalso;omega))|refine wJ ?_|refine nJ ?_)<;>conv=>whnf))
 refine loop_i (α :=Nat) (fun k=>[(3, .int .i64 k),(0, .isl (t.map jAV))]) (fun k=>[]) (fun k=>k<=t.length/\tkP t k) (fun k=>t.length-k) 0 mI ⟨by omega,fun i hi=>by omega⟩ ?_
 rintro k ⟨h5,h6⟩
 conv=>whnf
 refine bD (fun h7=>?_) (fun h7=>?_)
 ·have hk:k<t.length:=by omega
  have g1:=getJ t k hk
  by_cases h8:0<=t.getD k 0/\t.getD k 0<t.length
  ·have e3:=n51 (t.take k) (t.getD k 0) (by simp;omega)
   have hone:∀e∈t.map jAV,e.length=1:=fun e he=>(j_one t e he).1
   have hsl:((t.map jAV).take ((k:Int)).toNat).drop (0:Int).toNat=(t.take k).map jAV:=by simp[List.map_take]
   by_cases h9:t.getD k 0∈t.take k
   ·rw[decide_eq_false fun h:tkP t t.length=>(h k hk).2 h9]
    rw[decide_eq_true h9]at e3
    (conv=>whnf);(repeat'((first|apply bT|apply bF|apply bN|((first|apply bD|apply bEq|apply bNe)<;>intro hh<;>try(exfalso;omega))|refine iaJ g1 ?_|refine slI (by omega) (by omega) (by omega) hone hsl ?_|refine e3.cq rfl rfl ?_|refine wJ ?_|refine nJ ?_)<;>conv=>whnf))
    all_goals rfl
   ·rw[decide_eq_false h9]at e3
    (conv=>whnf);(repeat'((first|apply bT|apply bF|apply bN|((first|apply bD|apply bEq|apply bNe)<;>intro hh<;>try(exfalso;omega))|refine iaJ g1 ?_|refine slI (by omega) (by omega) (by omega) hone hsl ?_|refine e3.cq rfl rfl ?_|refine wJ ?_|refine nJ ?_)<;>conv=>whnf))
    refine⟨k+1,mI,⟨by omega,fun i hi=>?_⟩,by omega⟩
    by_cases h12:i=k
    ·subst h12;exact⟨h8,h9⟩
    ·exact h6 i (by omega)
  ·rw[decide_eq_false fun h:tkP t t.length=>h8 (h k hk).1]
   (conv=>whnf);(repeat'((first|apply bT|apply bF|apply bN|((first|apply bD|apply bEq|apply bNe)<;>intro hh<;>try(exfalso;omega))|refine iaJ g1 ?_|refine wJ ?_|refine nJ ?_)<;>conv=>whnf))
   all_goals rfl
 ·have:k=t.length:=by omega
  subst this
  rw[decide_eq_true h6]
  (conv=>whnf);(repeat'((first|apply bT|apply bF|apply bN|((first|apply bD|apply bEq|apply bNe)<;>intro hh<;>try(exfalso;omega))|refine wJ ?_|refine nJ ?_)<;>conv=>whnf))
  all_goals first|rfl|exact congrArg AV.bool (decide_eq_decide.2 (by omega))|exact congrArg AV.bool (decide_eq_true (by omega)).symm|exact congrArg AV.bool (decide_eq_false (by omega)).symm
theorem wrongs_bd(s:Stand)(t:List Int)(k:Nat):0<=wrongs s t k/\wrongs s t k<=k:=by
 induction k with
 |zero=>simp[wrongs]
 |succ k ih=>rw[wrongs];split<;>omega
theorem am_len{s:Stand}{w:Word}(h:isWo s w=true)(hg:s.gs<=7):w.am.length<=7:=by
 have a:=am_rise h
 have b:=am_ok h
 have c:=nd_sub_len (b:=[0,1,2,3,4,5,6]) (rise_nd a) (by decide) (fun x hx=>by
  have:=b x hx
  simp only[List.mem_cons,List.not_mem_nil,or_false];omega)
 simpa using c
theorem n16(s:Stand)(hs:s.chk=0)(t:List Int)(ht:t.length<=1000000):FnA Try.prog 16 [.agg s.cells, .isl (t.map jAV)] (· = .bool (isTr s t)):=by
 have hL:(t.map jAV).length=t.length:=by simp
 have hW:(s.ws.map Word.av).length=s.ws.length:=by simp
 have hc:=chk_ok.1 hs
 have e1:=n28 t ht
 unfold isTr
 refine fnA 1 ok16 (by simp) ?_
 by_cases h1:(t.length:Int)=s.gs
 ·rw[decide_eq_true h1]
  simp only[Bool.true_and]
  cases h2:isTk t<;>rw[h2]at e1
  ·(conv=>whnf);(repeat'((first|apply bT|apply bF|apply bN|((first|apply bD|apply bEq|apply bNe)<;>intro hh<;>try(exfalso;omega))|refine e1.cq rfl rfl ?_|refine wJ ?_|refine nJ ?_)<;>conv=>whnf))
   all_goals rfl
  ·simp only[Bool.true_and]
   (conv=>whnf);(repeat'((first|apply bT|apply bF|apply bN|((first|apply bD|apply bEq|apply bNe)<;>intro hh<;>try(exfalso;omega))|refine e1.cq rfl rfl ?_|refine wJ ?_|refine nJ ?_)<;>conv=>whnf))
   refine loop_i (α :=Nat) (fun k=>[(6, .int .i64 k),(5, .int .i64 (wrongs s t k)),(2, .own 0 0),(1, .isl (t.map jAV))]) (fun k=>[.box false s.cells]) (fun k=>k<=s.ws.length) (fun k=>s.ws.length-k) 0 mI (by omega) ?_
   rintro k h5
   conv=>whnf
   refine bD (fun h7=>?_) (fun h7=>?_)
   ·have hk:k<s.ws.length:=by omega
    have g1:=getM Word.av s.ws k hk
    have hw:=hc.2.2.2 _ (List.getElem_mem hk)
    have hwo:=isWo_of hw
    have hal:=am_len hw hc.1.2
    have e3:=n23 s.ws[k] t (by omega) ht (by omega) (by omega)
    have hb:=wrongs_bd s t k
    have ek:s.ws.getD k ⟨0,0,0,[]⟩=s.ws[k]:=by simp[List.getD_eq_getElem?_getD,hk]
    cases h8:isSo s.ws[k] t<;>rw[h8]at e3
    ·have ew:wrongs s t (k+1)=wrongs s t k+1:=by rw[wrongs,ek,h8];simp
     (conv=>whnf);(repeat'((first|apply bT|apply bF|apply bN|((first|apply bD|apply bEq|apply bNe)<;>intro hh<;>try(exfalso;omega))|refine iaJ g1 ?_|refine e3.cq rfl rfl ?_|refine wJ ?_|refine nJ ?_)<;>conv=>whnf))
     exact⟨k+1,by rw[ew];exact mI,by omega,by omega⟩
    ·have ew:wrongs s t (k+1)=wrongs s t k:=by rw[wrongs,ek,h8];simp
     (conv=>whnf);(repeat'((first|apply bT|apply bF|apply bN|((first|apply bD|apply bEq|apply bNe)<;>intro hh<;>try(exfalso;omega))|refine iaJ g1 ?_|refine e3.cq rfl rfl ?_|refine wJ ?_|refine nJ ?_)<;>conv=>whnf))
     exact⟨k+1,by rw[ew];exact mI,by omega,by omega⟩
   ·have:k=s.ws.length:=by omega
    subst this
    (conv=>whnf);(repeat'((first|apply bT|apply bF|apply bN|((first|apply bD|apply bEq|apply bNe)<;>intro hh<;>try(exfalso;omega))|refine wJ ?_|refine nJ ?_)<;>conv=>whnf))
    all_goals rfl
 ·rw[decide_eq_false h1]
  (conv=>whnf);(repeat'((first|apply bT|apply bF|apply bN|((first|apply bD|apply bEq|apply bNe)<;>intro hh<;>try(exfalso;omega))|refine e1.cq rfl rfl ?_|refine wJ ?_|refine nJ ?_)<;>conv=>whnf))
  all_goals rfl
theorem n60(l:List (List Int))(g u:Int)(hl:l.length<=1000000)(hg:∀t∈l,0<=g/\g<t.length/\t.length<=1000000):FnA Try.prog 96 [.isl (l.map fAV), .int .i64 g, .int .i64 u] (· = .isl ((whereL l g u).map fAV)):=by
 have hL:(l.map fAV).length=l.length:=by simp
 refine fnA 2 ok96 (by simp) ?_
 (conv=>whnf);(repeat'((first|apply bT|apply bF|apply bN|((first|apply bD|apply bEq|apply bNe)<;>intro hh<;>try(exfalso;omega))|refine wJ ?_|refine nJ ?_)<;>conv=>whnf))
 refine loop_i (α :=Nat) (fun k=>[(8, .int .i64 k),(7, .row 2),(2, .int .i64 u),(1, .int .i64 g),(0, .isl (l.map fAV))]) (fun k=>[.fresh, .fresh, .row false 25 1 ((whereL (l.take k) g u).map fAV)]) (fun k=>k<=l.length) (fun k=>l.length-k) 0 (mA [(2,none)]) (by omega) ?_
 rintro k h1
 conv=>whnf
 refine bD (fun h3=>?_) (fun h3=>?_)
 ·have hk:k<l.length:=by omega
  have g1:=getM fAV l k hk
  have h4:=hg _ (List.getElem_mem hk)
  have g2:=getJ l[k] g.toNat (by omega)
  have h6:(whereL (l.take k) g u).length<=l.length:=by
   have:=List.length_filter_le (fun t:List Int=>decide (t.getD g.toNat 0=u)) (l.take k)
   rw[whereL];simp only[List.length_take]at this;omega
  have h7:((whereL (l.take k) g u).map fAV).length=(whereL (l.take k) g u).length:=by simp
  have hJ:(l[k].map jAV).length=l[k].length:=by simp
  by_cases hx:l[k].getD g.toNat 0=u
  ·have ew:whereL (l.take (k+1)) g u=whereL (l.take k) g u++[l[k]]:=by
    simp only[whereL];rw[List.take_succ_eq_append_getElem hk,List.filter_append];congr 1
    rw[List.filter_cons,if_pos (decide_eq_true hx)];rfl
   (conv=>whnf);(repeat'((first|apply bT|apply bF|apply bN|((first|apply bD|apply bEq|apply bNe)<;>intro hh<;>try(exfalso;omega))|refine iaJ g1 ?_|refine iaJ g2 ?_|(refine apI (by simp[fAV,AV.one]) (by simp only[List.length_cons,List.length_nil,h7];omega) ?_)|refine wJ ?_|refine nJ ?_)<;>conv=>whnf))
   refine⟨k+1,?_,by omega,by omega⟩
   rw[ew,List.map_append]
   exact(mA [(2,some 1)])
  ·have ew:whereL (l.take (k+1)) g u=whereL (l.take k) g u:=by
    simp only[whereL];rw[List.take_succ_eq_append_getElem hk,List.filter_append,List.filter_cons,if_neg (by simpa using hx)];simp
   (conv=>whnf);(repeat'((first|apply bT|apply bF|apply bN|((first|apply bD|apply bEq|apply bNe)<;>intro hh<;>try(exfalso;omega))|refine iaJ g1 ?_|refine iaJ g2 ?_|refine wJ ?_|refine nJ ?_)<;>conv=>whnf))
   refine⟨k+1,?_,by omega,by omega⟩
   rw[ew]
   exact mI
 ·have:k=l.length:=by omega
  subst this
  rw[List.take_length]
  (conv=>whnf);(repeat'((first|apply bT|apply bF|apply bN|((first|apply bD|apply bEq|apply bNe)<;>intro hh<;>try(exfalso;omega))|refine wJ ?_|refine nJ ?_)<;>conv=>whnf))
  all_goals rfl
theorem trK_len{f:List Int->List (List Int)}{first:List Int}{B:Nat}(h:∀l,(f l).length<=B):∀k,(trK f first k).length<=k*B:=by
 intro k;induction k with
 |zero=>simp[trK]
 |succ k ih=>
  have:=h (first++[(k:Int)])
  rw[trK,List.length_append,Nat.succ_mul]
  split
  ·simp;omega
  ·omega
theorem trF_len{s:Stand}(hg:s.gs<=7):∀n first,(trF s n first).length<=7 ^ n:=by
 intro n;induction n with
 |zero=>intro first;rw[trF];split<;>simp
 |succ n ih=>
  intro first
  rw[trF,Nat.pow_succ]
  have a:=trK_len (first:=first) ih s.gs.toNat
  have:s.gs.toNat*7 ^ n<=7*7 ^ n:=Nat.mul_le_mul_right _ (by omega)
  omega
theorem pow7{n:Nat}(h:n<=7):7 ^ n<=823543:=Nat.pow_le_pow_right (n:=7) (by omega) h
theorem n53(s:Stand)(hs:s.chk=0):∀(n:Nat) (first:List Int),first.length+n=s.gs.toNat->FnA Try.prog 70 [.agg s.cells, .isl (first.map jAV)] (· = .isl ((trF s n first).map fAV)):=by
 have hc:=chk_ok.1 hs
 intro n;induction n with
 |zero=>
  intro first hf
  have hL:(first.map jAV).length=first.length:=by simp
  have e1:=n16 s hs first (by omega)
  rw[trF]
  refine fnA 8 ok70 (by simp) ?_
  cases h1:isTr s first<;>rw[h1]at e1
  ·rw[if_neg (by simp)]
   (conv=>whnf);(repeat'((first|apply bT|apply bF|apply bN|((first|apply bD|apply bEq|apply bNe)<;>intro hh<;>try(exfalso;omega))|refine e1.cq rfl rfl ?_|refine wJ ?_|refine nJ ?_)<;>conv=>whnf))
   all_goals rfl
  ·rw[if_pos rfl]
   (conv=>whnf);(repeat'((first|apply bT|apply bF|apply bN|((first|apply bD|apply bEq|apply bNe)<;>intro hh<;>try(exfalso;omega))|refine e1.cq rfl rfl ?_|refine wJ ?_|refine nJ ?_)<;>conv=>whnf))
   all_goals rfl
 |succ n ih=>
  intro first hf
  have hL:(first.map jAV).length=first.length:=by simp
  have hJ:=j_one first
  rw[trF]
  refine fnA 8 ok70 (by simp) ?_
  (conv=>whnf);(repeat'((first|apply bT|apply bF|apply bN|((first|apply bD|apply bEq|apply bNe)<;>intro hh<;>try(exfalso;omega))|refine wJ ?_|refine nJ ?_)<;>conv=>whnf))
  refine loop_i (α :=Nat) (fun k=>[(6, .int .i64 k),(5, .row 8),(2, .own 0 0),(1, .isl (first.map jAV))]) (fun k=>[.box false s.cells, .fresh, .fresh, .fresh, .fresh, .fresh, .fresh, .fresh, .row false 25 1 ((trK (trF s n) first k).map fAV)]) (fun k=>k<=s.gs.toNat) (fun k=>s.gs.toNat-k) 0 (mA [(8,none)]) (by omega) ?_
  rintro k h1
  conv=>whnf
  refine bD (fun h3=>?_) (fun h3=>?_)
  ·have e1:=n51 first (k:Int) (by omega)
   have e2:=ih (first++[(k:Int)]) (by simp;omega)
   rw[List.map_append]at e2
   have b1:=trK_len (first:=first) (trF_len (s:=s) hc.1.2 n) k
   have b2:=trF_len (s:=s) hc.1.2 n (first++[(k:Int)])
   have b3:=pow7 (n:=n) (by omega)
   have b4:k*7 ^ n<=7*823543:=Nat.mul_le_mul (by omega) b3
   have l1:((trK (trF s n) first k).map fAV).length=(trK (trF s n) first k).length:=by simp
   have l2:((trF s n (first++[(k:Int)])).map fAV).length=(trF s n (first++[(k:Int)])).length:=by simp
   have hF:=f_one (trF s n (first++[(k:Int)]))
   by_cases hx:(k:Int)∈first
   ·rw[decide_eq_true hx]at e1
    have ek:trK (trF s n) first (k+1)=trK (trF s n) first k:=by rw[trK,if_pos hx,List.append_nil]
    (conv=>whnf);(repeat'((first|apply bT|apply bF|apply bN|((first|apply bD|apply bEq|apply bNe)<;>intro hh<;>try(exfalso;omega))|refine e1.cq rfl rfl ?_|refine wJ ?_|refine nJ ?_)<;>conv=>whnf))
    refine⟨k+1,?_,by omega,by omega⟩
    rw[ek]
    exact mI
   ·rw[decide_eq_false hx]at e1
    have ek:trK (trF s n) first (k+1)=trK (trF s n) first k++trF s n (first++[(k:Int)]):=by rw[trK,if_neg hx]
    (conv=>whnf);(repeat'((first|apply bT|apply bF|apply bN|((first|apply bD|apply bEq|apply bNe)<;>intro hh<;>try(exfalso;omega))|refine e1.cq rfl rfl ?_|(refine apI hJ (by simp only[List.length_nil,hL];omega) ?_)|(refine apI hF (by simp only[l1,l2];omega) ?_)|(refine apI (by simp[AV.one]) (by simp only[List.nil_append,List.length_cons,List.length_nil,hL];omega) ?_)|refine e2.zq rfl rfl ?_|refine wJ ?_|refine nJ ?_)<;>conv=>whnf))
    refine⟨k+1,?_,by omega,by omega⟩
    rw[ek,List.map_append]
    exact(mA [(8,some 7)])
  ·have:k=s.gs.toNat:=by omega
   subst this
   (conv=>whnf);(repeat'((first|apply bT|apply bF|apply bN|((first|apply bD|apply bEq|apply bNe)<;>intro hh<;>try(exfalso;omega))|refine wJ ?_|refine nJ ?_)<;>conv=>whnf))
   all_goals rfl
theorem truths_len{s:Stand}(hc:s.chk=0):(truths s).length<=823543:=by
 have h:=chk_ok.1 hc
 have a:=trF_len (s:=s) h.1.2 s.gs.toNat []
 have b:=pow7 (n:=s.gs.toNat) (by omega)
 rw[truths];omega
theorem n53t(s:Stand)(hs:s.chk=0):FnA Try.prog 70 [.agg s.cells, .isl []] (· = .isl ((truths s).map fAV)):=n53 s hs s.gs.toNat [] (by simp)
def Stand.err(s:Stand)(v:Bool)(c t:Int):Int:=if c≠0 then c else if v=false then 1 else if t=0 then 3 else 0
noncomputable def Stand.eG(s:Stand)(g:Int):Int:=s.err (decide (g = -1000000)||isG s g) s.chk (truths s).length
theorem eG_none{s:Stand}:s.eG (-1000000)=s.err true s.chk (truths s).length:=by simp[Stand.eG]
theorem err_zero{s:Stand}{v:Bool}{c t:Int}:s.err v c t=0<->c=0/\v=true/\t≠0:=by
 rw[Stand.err]
 by_cases h1:c=0
 ·rw[if_neg (by omega)]
  cases v
  ·rw[if_pos rfl];simp
  ·rw[if_neg (by simp)]
   by_cases h2:t=0
   ·rw[if_pos h2];simp[h2]
   ·rw[if_neg h2];simp[h1,h2]
 ·rw[if_pos h1];simp[h1]
theorem n54(s:Stand)(hl:∀w∈s.ws,w.am.length<=1000000)(g:Int):FnA Try.prog 71 [.agg s.cells, .int .i64 g] (· = .tup [.isl ((if s.eG g=0 then truths s else []).map fAV), .int .i64 (s.eG g)]):=by
 have e1:=n15 s hl
 have e3:=n57 s g
 refine fnA 2 ok71 (by simp) ?_
 by_cases hs:s.chk=0
 ·have e2:=n53t s hs
  have l1:((truths s).map fAV).length=(truths s).length:=by simp
  rw[hs]at e1
  by_cases h1:g = -1000000
  ·have e:s.eG g=if ((truths s).length:Int)=0 then 3 else 0:=by rw[Stand.eG,Stand.err,hs,decide_eq_true h1];simp
   by_cases h2:((truths s).length:Int)=0
   ·rw[if_pos h2]at e
    rw[e,if_neg (by omega)]
    (conv=>whnf);(repeat'((first|apply bT|apply bF|apply bN|((first|apply bD|apply bEq|apply bNe)<;>intro hh<;>try(exfalso;omega))|refine e1.cq rfl rfl ?_|refine e2.zq rfl rfl ?_|refine e3.cq rfl rfl ?_|refine wJ ?_|refine nJ ?_)<;>conv=>whnf))
    all_goals rfl
   ·rw[if_neg h2]at e
    rw[e,if_pos rfl]
    (conv=>whnf);(repeat'((first|apply bT|apply bF|apply bN|((first|apply bD|apply bEq|apply bNe)<;>intro hh<;>try(exfalso;omega))|refine e1.cq rfl rfl ?_|refine e2.zq rfl rfl ?_|refine e3.cq rfl rfl ?_|refine wJ ?_|refine nJ ?_)<;>conv=>whnf))
    all_goals rfl
  ·cases h2:isG s g<;>rw[h2]at e3
   ·have e:s.eG g=1:=by rw[Stand.eG,Stand.err,hs,decide_eq_false h1,h2];simp
    rw[e,if_neg (by omega)]
    (conv=>whnf);(repeat'((first|apply bT|apply bF|apply bN|((first|apply bD|apply bEq|apply bNe)<;>intro hh<;>try(exfalso;omega))|refine e1.cq rfl rfl ?_|refine e2.zq rfl rfl ?_|refine e3.cq rfl rfl ?_|refine wJ ?_|refine nJ ?_)<;>conv=>whnf))
    all_goals rfl
   ·have e:s.eG g=if ((truths s).length:Int)=0 then 3 else 0:=by rw[Stand.eG,Stand.err,hs,decide_eq_false h1,h2];simp
    by_cases h2:((truths s).length:Int)=0
    ·rw[if_pos h2]at e
     rw[e,if_neg (by omega)]
     (conv=>whnf);(repeat'((first|apply bT|apply bF|apply bN|((first|apply bD|apply bEq|apply bNe)<;>intro hh<;>try(exfalso;omega))|refine e1.cq rfl rfl ?_|refine e2.zq rfl rfl ?_|refine e3.cq rfl rfl ?_|refine wJ ?_|refine nJ ?_)<;>conv=>whnf))
     all_goals rfl
    ·rw[if_neg h2]at e
     rw[e,if_pos rfl]
     (conv=>whnf);(repeat'((first|apply bT|apply bF|apply bN|((first|apply bD|apply bEq|apply bNe)<;>intro hh<;>try(exfalso;omega))|refine e1.cq rfl rfl ?_|refine e2.zq rfl rfl ?_|refine e3.cq rfl rfl ?_|refine wJ ?_|refine nJ ?_)<;>conv=>whnf))
     all_goals rfl
 ·have e:s.eG g=s.chk:=by rw[Stand.eG,Stand.err,if_pos hs]
  rw[e,if_neg hs]
  (conv=>whnf);(repeat'((first|apply bT|apply bF|apply bN|((first|apply bD|apply bEq|apply bNe)<;>intro hh<;>try(exfalso;omega))|refine e1.cq rfl rfl ?_|refine wJ ?_|refine nJ ?_)<;>conv=>whnf))
  all_goals rfl
theorem eG_ok{s:Stand}{g:Int}(h:s.eG g=0):s.chk=0/\(g = -1000000\/0<=g/\g<s.gs)/\(truths s).length≠0:=by
 have a:=err_zero.1 h
 refine⟨a.1,?_,by omega⟩
 have b:=a.2.1
 rw[Bool.or_eq_true,decide_eq_true_eq,isG_iff]at b
 exact b
theorem n58s(gs n:Nat)(hn:n<=1000000)(hg7:gs<=7)(ih:∀l:List (List Int),l.length<=1000000->(∀t∈l,t.length=gs)->FnA Try.prog 73 [.isl (l.map fAV), .int .i64 gs, .int .i64 n] (· = .bool (kn gs n l)))
  (l:List (List Int)) (hl:l.length<=1000000) (ht:∀t∈l,t.length=gs) (g:Nat) (hg:g<gs):FnA Try.prog 75 [.isl (l.map fAV), .int .i64 gs, .int .i64 ((n:Int)+1), .int .i64 g] (· = .bool (knA (kn gs n) l gs g)):=by
 refine fnA 1 ok75 (by simp) ?_
 (conv=>whnf);(repeat'((first|apply bT|apply bF|apply bN|((first|apply bD|apply bEq|apply bNe)<;>intro hh<;>try(exfalso;omega))|refine wJ ?_|refine nJ ?_)<;>conv=>whnf))
 refine loop_i (α :=Nat) (fun k=>[(9, .int .i64 k),(3, .int .i64 g),(2, .int .i64 ((n:Int)+1)),(1, .int .i64 gs),(0, .isl (l.map fAV))]) (fun k=>[.fresh]) (fun k=>k<=gs/\∀u,u<k->kn gs n (whereL l g (u:Int))=true) (fun k=>gs-k) 0 mI ⟨by omega,fun u hu=>by omega⟩ ?_
 rintro k ⟨h1,h2⟩
 conv=>whnf
 refine bD (fun h3=>?_) (fun h3=>?_)
 ·have e1:=n60 l g (k:Int) hl (fun t h=>by have:=ht t h;omega)
  have hlw:(whereL l g (k:Int)).length<=l.length:=List.length_filter_le ..
  have e2:=ih (whereL l g (k:Int)) (by omega) (fun t h=>ht t (mem_where.1 h).1)
  have e3:FnA Try.prog 73 [.isl ((whereL l g (k:Int)).map fAV), .int .i64 gs, .int .i64 ((n:Int)+1-1)] (· = .bool (kn gs n (whereL l g (k:Int)))):=by
   rw[show(n:Int)+1-1=n by omega];exact e2
  cases hx:kn gs n (whereL l g (k:Int))<;>rw[hx]at e3
  ·have:knA (kn gs n) l gs g=false:=by
    cases e:knA (kn gs n) l gs g with
    |false=>rfl
    |true=>rw[knA_iff]at e;rw[e k (by omega)]at hx;cases hx
   rw[this]
   (conv=>whnf);(repeat'((first|apply bT|apply bF|apply bN|((first|apply bD|apply bEq|apply bNe)<;>intro hh<;>try(exfalso;omega))|refine e1.zq rfl rfl ?_|refine e3.cq rfl rfl ?_|refine wJ ?_|refine nJ ?_)<;>conv=>whnf))
   all_goals rfl
  ·(conv=>whnf);(repeat'((first|apply bT|apply bF|apply bN|((first|apply bD|apply bEq|apply bNe)<;>intro hh<;>try(exfalso;omega))|refine e1.zq rfl rfl ?_|refine e3.cq rfl rfl ?_|refine wJ ?_|refine nJ ?_)<;>conv=>whnf))
   refine⟨k+1,mI,⟨by omega,fun u hu=>?_⟩,by omega⟩
   by_cases c:u=k
   ·rw[c];exact hx
   ·exact h2 u (by omega)
 ·have:k=gs:=by omega
  subst this
  rw[knA_iff.2 h2]
  (conv=>whnf);(repeat'((first|apply bT|apply bF|apply bN|((first|apply bD|apply bEq|apply bNe)<;>intro hh<;>try(exfalso;omega))|refine wJ ?_|refine nJ ?_)<;>conv=>whnf))
  all_goals rfl
theorem n56(gs:Nat)(hg7:gs<=7):∀n:Nat,n<=1000000->∀l:List (List Int),l.length<=1000000->(∀t∈l,t.length=gs)->FnA Try.prog 73 [.isl (l.map fAV), .int .i64 gs, .int .i64 n] (· = .bool (kn gs n l)):=by
 intro n;induction n with
 |zero=>
  intro _ l hl ht
  have lt:(l.map fAV).length=l.length:=by simp
  refine fnA 0 ok73 (by simp) ?_
  by_cases h:l.length<=1
  ·rw[kn_one h]
   (conv=>whnf);(repeat'((first|apply bT|apply bF|apply bN|((first|apply bD|apply bEq|apply bNe)<;>intro hh<;>try(exfalso;omega))|refine wJ ?_|refine nJ ?_)<;>conv=>whnf))
   all_goals rfl
  ·have e:kn gs 0 l=false:=by rw[kn];exact decide_eq_false h
   rw[e]
   (conv=>whnf);(repeat'((first|apply bT|apply bF|apply bN|((first|apply bD|apply bEq|apply bNe)<;>intro hh<;>try(exfalso;omega))|refine wJ ?_|refine nJ ?_)<;>conv=>whnf))
   refine loop_i (α :=Nat) (fun k=>[(7, .int .i64 k),(2, .int .i64 0),(1, .int .i64 gs),(0, .isl (l.map fAV))]) (fun k=>[]) (fun k=>k<=gs) (fun k=>gs-k) 0 mI (by omega) ?_
   rintro k h1
   (conv=>whnf);(repeat'((first|apply bT|apply bF|apply bN|((first|apply bD|apply bEq|apply bNe)<;>intro hh<;>try(exfalso;omega))|refine wJ ?_|refine nJ ?_)<;>conv=>whnf))
   all_goals rfl
 |succ n ihn=>
  intro hn l hl ht
  have lt:(l.map fAV).length=l.length:=by simp
  have e1:∀g:Nat,g<gs->FnA Try.prog 75 [.isl (l.map fAV), .int .i64 gs, .int .i64 ((n:Int)+1), .int .i64 g] (· = .bool (knA (kn gs n) l gs g)):=fun g hg=>n58s gs n (by omega) hg7 (ihn (by omega)) l hl ht g hg
  rw[show((n+1:Nat):Int)=(n:Int)+1 by omega]
  refine fnA 0 ok73 (by simp) ?_
  by_cases h:l.length<=1
  ·rw[kn_one h]
   (conv=>whnf);(repeat'((first|apply bT|apply bF|apply bN|((first|apply bD|apply bEq|apply bNe)<;>intro hh<;>try(exfalso;omega))|refine wJ ?_|refine nJ ?_)<;>conv=>whnf))
   all_goals rfl
  ·(conv=>whnf);(repeat'((first|apply bT|apply bF|apply bN|((first|apply bD|apply bEq|apply bNe)<;>intro hh<;>try(exfalso;omega))|refine wJ ?_|refine nJ ?_)<;>conv=>whnf))
   refine loop_i (α :=Nat) (fun k=>[(7, .int .i64 k),(2, .int .i64 ((n:Int)+1)),(1, .int .i64 gs),(0, .isl (l.map fAV))]) (fun k=>[]) (fun k=>k<=gs/\∀g,g<k->knA (kn gs n) l gs g=false) (fun k=>gs-k) 0 mI ⟨by omega,fun g hg=>by omega⟩ ?_
   rintro k ⟨h1,h2⟩
   by_cases hk:k<gs
   ·have e2:=e1 k hk
    cases hx:knA (kn gs n) l gs k<;>rw[hx]at e2
    ·(conv=>whnf);(repeat'((first|apply bT|apply bF|apply bN|((first|apply bD|apply bEq|apply bNe)<;>intro hh<;>try(exfalso;omega))|refine e2.cq rfl rfl ?_|refine wJ ?_|refine nJ ?_)<;>conv=>whnf))
     refine⟨k+1,mI,⟨by omega,fun g hg=>?_⟩,by omega⟩
     by_cases c:g=k
     ·rw[c];exact hx
     ·exact h2 g (by omega)
    ·rw[kn_suc.2 (Or.inr ⟨k,hk,hx⟩)]
     (conv=>whnf);(repeat'((first|apply bT|apply bF|apply bN|((first|apply bD|apply bEq|apply bNe)<;>intro hh<;>try(exfalso;omega))|refine e2.cq rfl rfl ?_|refine wJ ?_|refine nJ ?_)<;>conv=>whnf))
     all_goals rfl
   ·have e:kn gs (n+1) l=false:=by
     cases e:kn gs (n+1) l with
     |false=>rfl
     |true=>
      rcases kn_suc.1 e with c|⟨g,hg,c⟩
      ·exact absurd c h
      ·rw[h2 g (by omega)]at c;cases c
    rw[e]
    (conv=>whnf);(repeat'((first|apply bT|apply bF|apply bN|((first|apply bD|apply bEq|apply bNe)<;>intro hh<;>try(exfalso;omega))|refine wJ ?_|refine nJ ?_)<;>conv=>whnf))
    all_goals rfl
theorem n58(gs n:Nat)(hn:n<=1000000)(hg7:gs<=7)(l:List (List Int))(hl:l.length<=1000000)(ht:∀t∈l,t.length=gs)(g:Nat)(hg:g<gs):FnA Try.prog 75 [.isl (l.map fAV), .int .i64 gs, .int .i64 ((n:Int)+1), .int .i64 g] (· = .bool (knA (kn gs n) l gs g)):=
 n58s gs n hn hg7 (n56 gs hg7 n hn) l hl ht g hg
theorem n45(s:Stand)(hl:∀w∈s.ws,w.am.length<=1000000):FnA Try.prog 45 [.agg s.cells] (· = .tup [.int .i64 (if s.eG (-1000000)=0 then qn s.gs.toNat (truths s) else 0), .int .i64 (s.eG (-1000000))]):=by
 have e1:=n54 s hl (-1000000)
 refine fnA 2 ok45 (by simp) ?_
 by_cases h:s.eG (-1000000)=0
 ·have a:=eG_ok h
  have c:=chk_ok.1 a.1
  have hl2:=truths_len a.1
  have hq:=qn_spec (kn_gs (nd_truths c.1.1) (truths_ok c.1.1))
  have e2:∀k:Nat,k<=1000000->FnA Try.prog 73 [.isl ((truths s).map fAV), .int .i64 s.gs, .int .i64 k] (· = .bool (kn s.gs.toNat k (truths s))):=fun k hk=>by
   have:=n56 s.gs.toNat (by omega) k hk (truths s) (by omega) (fun t ht=>(truths_ok c.1.1 t ht).1)
   rwa [Int.toNat_of_nonneg c.1.1]at this
  rw[if_pos h,h]at e1
  rw[if_pos h,h]
  (conv=>whnf);(repeat'((first|apply bT|apply bF|apply bN|((first|apply bD|apply bEq|apply bNe)<;>intro hh<;>try(exfalso;omega))|refine e1.zq rfl rfl ?_|refine wJ ?_|refine nJ ?_)<;>conv=>whnf))
  refine loop_i (α :=Nat) (fun k=>[(6, .int .i64 k),(4, .isl ((truths s).map fAV)),(1, .own 0 0)]) (fun k=>[.box false s.cells, .fresh]) (fun k=>k<=qn s.gs.toNat (truths s)) (fun k=>qn s.gs.toNat (truths s)-k) 0 mI (by omega) ?_
  rintro k h1
  have e3:=e2 k (by omega)
  by_cases hk:k<qn s.gs.toNat (truths s)
  ·rw[hq.2.2 k hk]at e3
   (conv=>whnf);(repeat'((first|apply bT|apply bF|apply bN|((first|apply bD|apply bEq|apply bNe)<;>intro hh<;>try(exfalso;omega))|refine e3.cq rfl rfl ?_|refine wJ ?_|refine nJ ?_)<;>conv=>whnf))
   exact⟨k+1,mI,by omega,by omega⟩
  ·have:k=qn s.gs.toNat (truths s):=by omega
   rw[this,hq.2.1]at e3
   rw[this]
   (conv=>whnf);(repeat'((first|apply bT|apply bF|apply bN|((first|apply bD|apply bEq|apply bNe)<;>intro hh<;>try(exfalso;omega))|refine e3.cq rfl rfl ?_|refine wJ ?_|refine nJ ?_)<;>conv=>whnf))
   all_goals rfl
 ·rw[if_neg h]at e1
  rw[if_neg h]
  (conv=>whnf);(repeat'((first|apply bT|apply bF|apply bN|((first|apply bD|apply bEq|apply bNe)<;>intro hh<;>try(exfalso;omega))|refine e1.zq rfl rfl ?_|refine wJ ?_|refine nJ ?_)<;>conv=>whnf))
  all_goals rfl
theorem n46(s:Stand)(hs:s.chk=0)(g n:Int)(hn:n<=1000000):FnA Try.prog 46 [.agg s.cells, .int .i64 g, .int .i64 n] (· = .bool (isG s g&&(decide (0<n)&&knA (kn s.gs.toNat (n-1).toNat) (truths s) s.gs.toNat g.toNat))):=by
 have c:=chk_ok.1 hs
 have hl2:=truths_len hs
 have e1:=n57 s g
 have e2:=n53t s hs
 refine fnA 2 ok46 (by simp) ?_
 cases h1:isG s g<;>rw[h1]at e1
 ·(conv=>whnf);(repeat'((first|apply bT|apply bF|apply bN|((first|apply bD|apply bEq|apply bNe)<;>intro hh<;>try(exfalso;omega))|refine e1.cq rfl rfl ?_|refine altI ?_ ?_|refine wJ ?_|refine nJ ?_)<;>conv=>whnf))
  all_goals rfl
 ·have hg:=isG_iff.1 h1
  by_cases h2:0<n
  ·have e3:=n58 s.gs.toNat (n-1).toNat (by omega) (by omega) (truths s) (by omega) (fun t ht=>(truths_ok c.1.1 t ht).1) g.toNat (by omega)
   rw[Int.toNat_of_nonneg c.1.1,Int.toNat_of_nonneg (by omega),Int.toNat_of_nonneg hg.1,show n-1+1=n by omega]at e3
   rw[decide_eq_true h2]
   (conv=>whnf);(repeat'((first|apply bT|apply bF|apply bN|((first|apply bD|apply bEq|apply bNe)<;>intro hh<;>try(exfalso;omega))|refine e1.cq rfl rfl ?_|refine altI ?_ ?_|refine e2.zq rfl rfl ?_|refine e3.cq rfl rfl ?_|refine wJ ?_|refine nJ ?_)<;>conv=>whnf))
   all_goals rfl
  ·rw[decide_eq_false h2]
   (conv=>whnf);(repeat'((first|apply bT|apply bF|apply bN|((first|apply bD|apply bEq|apply bNe)<;>intro hh<;>try(exfalso;omega))|refine e1.cq rfl rfl ?_|refine altI ?_ ?_|refine wJ ?_|refine nJ ?_)<;>conv=>whnf))
   all_goals rfl
theorem n30(t:List Int)(ht:t.length<=1000000):FnA Try.prog 30 [.isl (t.map jAV)] (· = .bool (decide (rightP t t.length))):=by
 have hL:(t.map jAV).length=t.length:=by simp
 refine fnA 0 ok30 (by simp) ?_
 (conv=>whnf);(repeat'((first|apply bT|apply bF|apply bN|((first|apply bD|apply bEq|apply bNe)<;>intro hh<;>try(exfalso;omega))|refine wJ ?_|refine nJ ?_)<;>conv=>whnf))
 refine loop_i (α :=Nat) (fun k=>[(3, .int .i64 k),(0, .isl (t.map jAV))]) (fun k=>[]) (fun k=>k<=t.length/\rightP t k) (fun k=>t.length-k) 0 mI ⟨by omega,fun i hi=>by omega⟩ ?_
 rintro k ⟨h1,h2⟩
 conv=>whnf
 refine bD (fun h3=>?_) (fun h3=>?_)
 ·have hk:k<t.length:=by omega
  have g1:=getJ t k hk
  by_cases hx:t.getD k 0=(k:Int)
  ·(conv=>whnf);(repeat'((first|apply bT|apply bF|apply bN|((first|apply bD|apply bEq|apply bNe)<;>intro hh<;>try(exfalso;omega))|refine iaJ g1 ?_|refine wJ ?_|refine nJ ?_)<;>conv=>whnf))
   refine⟨k+1,mI,⟨by omega,fun i hi=>?_⟩,by omega⟩
   by_cases c:i=k
   ·subst c;exact hx
   ·exact h2 i (by omega)
  ·rw[decide_eq_false fun h:rightP t t.length=>hx (h k hk)]
   (conv=>whnf);(repeat'((first|apply bT|apply bF|apply bN|((first|apply bD|apply bEq|apply bNe)<;>intro hh<;>try(exfalso;omega))|refine iaJ g1 ?_|refine wJ ?_|refine nJ ?_)<;>conv=>whnf))
   all_goals rfl
 ·have:k=t.length:=by omega
  subst this
  rw[decide_eq_true h2]
  (conv=>whnf);(repeat'((first|apply bT|apply bF|apply bN|((first|apply bD|apply bEq|apply bNe)<;>intro hh<;>try(exfalso;omega))|refine wJ ?_|refine nJ ?_)<;>conv=>whnf))
  all_goals rfl
theorem n31(t:List Int)(ht:t.length<=1000000)(g h:Nat)(hg:g<t.length)(hh:h<t.length):FnA Try.prog 31 [.isl (t.map jAV), .int .i64 g, .int .i64 h] (· = .isl ((swL t g h).map jAV)):=by
 have hL:(t.map jAV).length=t.length:=by simp
 have hL2:([]++t.map jAV).length=t.length:=by simp
 have g1:([]++t.map jAV).getD g []=[.int .i64 (t.getD g 0)]:=getJ t g hg
 have g2:([]++t.map jAV).getD h []=[.int .i64 (t.getD h 0)]:=getJ t h hh
 have e:((t.map jAV).set g [.int .i64 (t.getD h 0)]).set h [.int .i64 (t.getD g 0)]=(swL t g h).map jAV:=by
  rw[swL,List.map_set,List.map_set];rfl
 have hL3:(([]++t.map jAV).set ((g:Int)).toNat [.int .i64 (t.getD h 0)]).length=t.length:=by simp
 have e3:([]++t.map jAV).set ((g:Int)).toNat [.int .i64 (t.getD h 0)]=(t.set g (t.getD h 0)).map jAV:=by rw[List.map_set];rfl
 have g3:(([]++t.map jAV).set ((g:Int)).toNat [.int .i64 (t.getD h 0)]).getD h []=[.int .i64 (t.getD h 0)]:=by
  rw[e3,getJ _ h (by simpa using hh),getS _ _ _ _ hg];split
  ·rfl
  ·rfl
 refine fnA 2 ok31 (by simp) ?_
 (conv=>whnf);(repeat'((first|apply bT|apply bF|apply bN|((first|apply bD|apply bEq|apply bNe)<;>intro hh<;>try(exfalso;omega))|(refine apI (j_one t) (by simp only[List.length_nil,hL];omega) ?_)|refine iaJ g2 ?_|refine iaJ g1 ?_|refine iaJ g3 ?_|refine wJ ?_|refine nJ ?_)<;>conv=>whnf))
 all_goals exact congrArg AV.isl e
theorem n52(l:List Int)(n:Nat):FnA Try.prog 64 [.isl (l.map jAV), .int .i64 n] (· = .bool (isPr l n)):=by
 have hL:(l.map jAV).length=l.length:=by simp
 unfold isPr
 refine fnA 0 ok64 (by simp) ?_
 by_cases h:l.length=2
 ·have g1:=getJ l 0 (by omega)
  have g2:=getJ l 1 (by omega)
  (conv=>whnf);(repeat'((first|apply bT|apply bF|apply bN|((first|apply bD|apply bEq|apply bNe)<;>intro hh<;>try(exfalso;omega))|refine iaJ g1 ?_|refine iaJ g2 ?_|refine wJ ?_|refine nJ ?_)<;>conv=>whnf))
  all_goals first|rfl|exact congrArg AV.bool (decide_eq_decide.2 (by omega))|exact congrArg AV.bool (decide_eq_true (by omega)).symm|exact congrArg AV.bool (decide_eq_false (by omega)).symm
 ·rw[decide_eq_false (fun x=>h x.1)]
  (conv=>whnf);(repeat'((first|apply bT|apply bF|apply bN|((first|apply bD|apply bEq|apply bNe)<;>intro hh<;>try(exfalso;omega))|refine wJ ?_|refine nJ ?_)<;>conv=>whnf))
  all_goals rfl
theorem n59:∀n:Nat,n<=1000000->∀t:List Int,t.length<=1000000->tk t->FnA Try.prog 76 [.isl (t.map jAV), .int .i64 n] (· = .bool (decide (need t<=n))):=by
 intro n;induction n with
 |zero=>
  intro _ t ht hk
  have hL:(t.map jAV).length=t.length:=by simp
  have e1:=n30 t ht
  refine fnA 1 ok76 (by simp) ?_
  by_cases h:rightP t t.length
  ·rw[decide_eq_true h]at e1
   rw[decide_eq_true (by have:=(need_zero hk).2 h;omega)]
   (conv=>whnf);(repeat'((first|apply bT|apply bF|apply bN|((first|apply bD|apply bEq|apply bNe)<;>intro hh<;>try(exfalso;omega))|refine e1.cq rfl rfl ?_|refine wJ ?_|refine nJ ?_)<;>conv=>whnf))
   all_goals rfl
  ·rw[decide_eq_false h]at e1
   rw[decide_eq_false (fun x=>h ((need_zero hk).1 (by omega)))]
   (conv=>whnf);(repeat'((first|apply bT|apply bF|apply bN|((first|apply bD|apply bEq|apply bNe)<;>intro hh<;>try(exfalso;omega))|refine e1.cq rfl rfl ?_|refine wJ ?_|refine nJ ?_)<;>conv=>whnf))
   refine loop_i (α :=Nat) (fun k=>[(5, .int .i64 k),(1, .int .i64 0),(0, .isl (t.map jAV))]) (fun k=>[.fresh]) (fun k=>k<=t.length) (fun k=>t.length-k) 0 mI (by omega) ?_
   rintro k h1
   (conv=>whnf);(repeat'((first|apply bT|apply bF|apply bN|((first|apply bD|apply bEq|apply bNe)<;>intro hh<;>try(exfalso;omega))|refine wJ ?_|refine nJ ?_)<;>conv=>whnf))
   all_goals rfl
 |succ n ihn=>
  intro hn t ht hk
  have ihn:=ihn (by omega)
  have hL:(t.map jAV).length=t.length:=by simp
  have e1:=n30 t ht
  rw[show((n+1:Nat):Int)=(n:Int)+1 by omega]
  refine fnA 1 ok76 (by simp) ?_
  by_cases h:rightP t t.length
  ·rw[decide_eq_true h]at e1
   rw[decide_eq_true (by have:=(need_zero hk).2 h;omega)]
   (conv=>whnf);(repeat'((first|apply bT|apply bF|apply bN|((first|apply bD|apply bEq|apply bNe)<;>intro hh<;>try(exfalso;omega))|refine e1.cq rfl rfl ?_|refine wJ ?_|refine nJ ?_)<;>conv=>whnf))
   all_goals rfl
  ·rw[decide_eq_false h]at e1
   (conv=>whnf);(repeat'((first|apply bT|apply bF|apply bN|((first|apply bD|apply bEq|apply bNe)<;>intro hh<;>try(exfalso;omega))|refine e1.cq rfl rfl ?_|refine wJ ?_|refine nJ ?_)<;>conv=>whnf))
   refine loop_i (α :=Nat) (fun k=>[(5, .int .i64 k),(1, .int .i64 ((n:Int)+1)),(0, .isl (t.map jAV))]) (fun k=>[.fresh]) (fun k=>k<=t.length/\rightP t k) (fun k=>t.length-k) 0 mI ⟨by omega,fun i hi=>by omega⟩ ?_
   rintro g ⟨h1,h2⟩
   by_cases hg:g<t.length
   ·have g1:=getJ t g hg
    by_cases hx:t.getD g 0=(g:Int)
    ·(conv=>whnf);(repeat'((first|apply bT|apply bF|apply bN|((first|apply bD|apply bEq|apply bNe)<;>intro hh<;>try(exfalso;omega))|refine iaJ g1 ?_|refine wJ ?_|refine nJ ?_)<;>conv=>whnf))
     refine⟨g+1,mI,⟨by omega,fun i hi=>?_⟩,by omega⟩
     by_cases c:i=g
     ·subst c;exact hx
     ·exact h2 i (by omega)
    ·have hst:=need_step (n:=n) hk hg hx
     (conv=>whnf);(repeat'((first|apply bT|apply bF|apply bN|((first|apply bD|apply bEq|apply bNe)<;>intro hh<;>try(exfalso;omega))|refine iaJ g1 ?_|refine wJ ?_|refine nJ ?_)<;>conv=>whnf))
     refine loop_i (α :=Nat) (fun k=>[(6, .int .i64 k),(5, .int .i64 g),(1, .int .i64 ((n:Int)+1)),(0, .isl (t.map jAV))]) (fun k=>[.fresh]) (fun k=>k<=t.length/\∀j,j<k->j≠g->¬need (swL t g j)<=n) (fun k=>t.length-k) 0 mI ⟨by omega,fun i hi=>by omega⟩ ?_
     rintro k ⟨h3,h4⟩
     by_cases hkk:k<t.length
     ·by_cases hkg:k=g
      ·subst hkg
       (conv=>whnf);(repeat'((first|apply bT|apply bF|apply bN|((first|apply bD|apply bEq|apply bNe)<;>intro hh<;>try(exfalso;omega))|refine wJ ?_|refine nJ ?_)<;>conv=>whnf))
       refine⟨k+1,mI,⟨by omega,fun j hj hne=>h4 j (by omega) hne⟩,by omega⟩
      ·have e2:=n31 t ht g k hg hkk
       have e3:=ihn (swL t g k) (by rw[swL_len];exact ht) (swL_tk hk hg hkk)
       have e4:FnA Try.prog 76 [.isl ((swL t g k).map jAV), .int .i64 ((n:Int)+1-1)] (· = .bool (decide (need (swL t g k)<=n))):=by
        rw[show(n:Int)+1-1=n by omega];exact e3
       by_cases hy:need (swL t g k)<=n
       ·rw[decide_eq_true hy]at e4
        rw[decide_eq_true (hst.1 ⟨k,hkk,hkg,hy⟩)]
        (conv=>whnf);(repeat'((first|apply bT|apply bF|apply bN|((first|apply bD|apply bEq|apply bNe)<;>intro hh<;>try(exfalso;omega))|refine e2.zq rfl rfl ?_|refine e4.cq rfl rfl ?_|refine wJ ?_|refine nJ ?_)<;>conv=>whnf))
        all_goals rfl
       ·rw[decide_eq_false hy]at e4
        (conv=>whnf);(repeat'((first|apply bT|apply bF|apply bN|((first|apply bD|apply bEq|apply bNe)<;>intro hh<;>try(exfalso;omega))|refine e2.zq rfl rfl ?_|refine e4.cq rfl rfl ?_|refine wJ ?_|refine nJ ?_)<;>conv=>whnf))
        refine⟨k+1,mI,⟨by omega,fun j hj hne=>?_⟩,by omega⟩
        by_cases c:j=k
        ·rw[c];exact hy
        ·exact h4 j (by omega) hne
     ·have:k=t.length:=by omega
      subst this
      rw[decide_eq_false (fun x=>by
       obtain⟨j,hj,hne,hle⟩:=hst.2 x
       exact h4 j hj hne hle)]
      (conv=>whnf);(repeat'((first|apply bT|apply bF|apply bN|((first|apply bD|apply bEq|apply bNe)<;>intro hh<;>try(exfalso;omega))|refine wJ ?_|refine nJ ?_)<;>conv=>whnf))
      all_goals rfl
   ·have:g=t.length:=by omega
    subst this
    exact absurd h2 h
theorem n47(t:List Int)(ht:t.length<=1000000):FnA Try.prog 47 [.isl (t.map jAV)] (· = .tup [.int .i64 (if isTk t=true then need t else 0), .int .i64 (if isTk t=true then 0 else 1)]):=by
 have e1:=n28 t ht
 refine fnA 0 ok47 (by simp) ?_
 cases h:isTk t<;>rw[h]at e1
 ·rw[if_neg (by simp),if_neg (by simp)]
  (conv=>whnf);(repeat'((first|apply bT|apply bF|apply bN|((first|apply bD|apply bEq|apply bNe)<;>intro hh<;>try(exfalso;omega))|refine e1.cq rfl rfl ?_|refine wJ ?_|refine nJ ?_)<;>conv=>whnf))
  all_goals rfl
 ·rw[if_pos rfl,if_pos rfl]
  have hk:tk t:=by
   simp only[isTk,Bool.and_eq_true,decide_eq_true_eq]at h;exact tk_of h.1
  have hb:=need_le t
  have e2:∀k:Nat,k<=need t->FnA Try.prog 76 [.isl (t.map jAV), .int .i64 k] (· = .bool (decide (need t<=k))):=fun k hkn=>n59 k (by omega) t ht hk
  (conv=>whnf);(repeat'((first|apply bT|apply bF|apply bN|((first|apply bD|apply bEq|apply bNe)<;>intro hh<;>try(exfalso;omega))|refine e1.cq rfl rfl ?_|refine wJ ?_|refine nJ ?_)<;>conv=>whnf))
  refine loop_i (α :=Nat) (fun k=>[(4, .int .i64 k),(0, .isl (t.map jAV))]) (fun k=>[]) (fun k=>k<=need t) (fun k=>need t-k) 0 mI (by omega) ?_
  rintro k h1
  have e3:=e2 k h1
  by_cases hx:need t<=k
  ·rw[decide_eq_true hx]at e3
   have:k=need t:=by omega
   subst this
   (conv=>whnf);(repeat'((first|apply bT|apply bF|apply bN|((first|apply bD|apply bEq|apply bNe)<;>intro hh<;>try(exfalso;omega))|refine e3.cq rfl rfl ?_|refine wJ ?_|refine nJ ?_)<;>conv=>whnf))
   all_goals rfl
  ·rw[decide_eq_false hx]at e3
   (conv=>whnf);(repeat'((first|apply bT|apply bF|apply bN|((first|apply bD|apply bEq|apply bNe)<;>intro hh<;>try(exfalso;omega))|refine e3.cq rfl rfl ?_|refine wJ ?_|refine nJ ?_)<;>conv=>whnf))
   exact⟨k+1,mI,by omega,by omega⟩
theorem n31o(t:List Int)(ht:t.length<=1000000)(g h:Nat)(hg:g<t.length)(hh:h<t.length):FnO Try.prog 31 [.isl (t.map jAV), .int .i64 g, .int .i64 h] (fun r rows=>r = .row 1/\rows=[(1, .row false 3 1 ((swL t g h).map jAV))]):=by
 have hL:(t.map jAV).length=t.length:=by simp
 have hL2:([]++t.map jAV).length=t.length:=by simp
 have g1:([]++t.map jAV).getD g []=[.int .i64 (t.getD g 0)]:=getJ t g hg
 have g2:([]++t.map jAV).getD h []=[.int .i64 (t.getD h 0)]:=getJ t h hh
 have e:((t.map jAV).set g [.int .i64 (t.getD h 0)]).set h [.int .i64 (t.getD g 0)]=(swL t g h).map jAV:=by
  rw[swL,List.map_set,List.map_set];rfl
 have hL3:(([]++t.map jAV).set ((g:Int)).toNat [.int .i64 (t.getD h 0)]).length=t.length:=by simp
 have e3:([]++t.map jAV).set ((g:Int)).toNat [.int .i64 (t.getD h 0)]=(t.set g (t.getD h 0)).map jAV:=by rw[List.map_set];rfl
 have g3:(([]++t.map jAV).set ((g:Int)).toNat [.int .i64 (t.getD h 0)]).getD h []=[.int .i64 (t.getD h 0)]:=by
  rw[e3,getJ _ h (by simpa using hh),getS _ _ _ _ hg];split
  ·rfl
  ·rfl
 refine fnO 2 ok31 (by simp) ?_
 (conv=>whnf);(repeat'((first|apply bT|apply bF|apply bN|((first|apply bD|apply bEq|apply bNe)<;>intro hh<;>try(exfalso;omega))|(refine apI (j_one t) (by simp only[List.length_nil,hL];omega) ?_)|refine iaJ g2 ?_|refine iaJ g1 ?_|refine iaJ g3 ?_|refine wJ ?_|refine nJ ?_)<;>conv=>whnf))
 all_goals exact⟨rfl,by rw[<- e];rfl⟩
theorem n32(t:List Int)(l:List (List Int))(ht:t.length<=1000000)(hl:l.length<=1000000):FnA Try.prog 32 [.isl (t.map jAV), .isl (l.map fAV)] (· = .tup [.isl ((if prsP l t.length l.length then aft t l l.length else []).map jAV), .bool (decide (prsP l t.length l.length))]):=by
 have hL:(t.map jAV).length=t.length:=by simp
 have hl1:(l.map fAV).length=l.length:=by simp
 refine fnA 4 ok32 (by simp) ?_
 (conv=>whnf);(repeat'((first|apply bT|apply bF|apply bN|((first|apply bD|apply bEq|apply bNe)<;>intro hh<;>try(exfalso;omega))|(refine apI (j_one t) (by simp only[List.length_nil,hL];omega) ?_)|refine wJ ?_|refine nJ ?_)<;>conv=>whnf))
 refine loop_i (α :=Nat) (fun k=>[(7, .int .i64 k),(6, .row 3),(1, .isl (l.map fAV)),(0, .isl (t.map jAV))]) (fun k=>[.fresh, .fresh, .fresh, .row false 3 1 ((aft t l k).map jAV)]) (fun k=>k<=l.length/\prsP l t.length k) (fun k=>l.length-k) 0 (mA [(3,some 1)]) ⟨by omega,fun i hi=>by omega⟩ ?_
 rintro k ⟨h1,h2⟩
 conv=>whnf
 refine bD (fun h3=>?_) (fun h3=>?_)
 ·have hk:k<l.length:=by omega
  have g1:=getM fAV l k hk
  have e1:FnA Try.prog 64 [.isl (l[k].map jAV), .int .i64 ((t.map jAV).length:Nat)] (· = .bool (isPr l[k] t.length)):=by rw[hL];exact n52 l[k] t.length
  have ek:l.getD k []=l[k]:=by simp[List.getD_eq_getElem?_getD,hk]
  have hJ:(l[k].map jAV).length=l[k].length:=by simp
  cases hx:isPr l[k] t.length<;>rw[hx]at e1
  ·have hno:¬prsP l t.length l.length:=fun h=>by have:=h k hk;rw[ek,hx]at this;cases this
   rw[if_neg hno,decide_eq_false hno]
   (conv=>whnf);(repeat'((first|apply bT|apply bF|apply bN|((first|apply bD|apply bEq|apply bNe)<;>intro hh<;>try(exfalso;omega))|refine iaJ g1 ?_|refine e1.cq rfl rfl ?_|refine wJ ?_|refine nJ ?_)<;>conv=>whnf))
   all_goals rfl
  ·have hp:=isPr_of hx
   have g2:=getJ l[k] 0 (by omega)
   have g3:=getJ l[k] 1 (by omega)
   have e2:=n31o (aft t l k) (by rw[aft_len];exact ht) (l[k].getD 0 0).toNat (l[k].getD 1 0).toNat (by rw[aft_len];exact hp.1) (by rw[aft_len];exact hp.2.1)
   rw[Int.toNat_of_nonneg hp.2.2.2.1,Int.toNat_of_nonneg hp.2.2.2.2.1]at e2
   have ea:aft t l (k+1)=swL (aft t l k) (l[k].getD 0 0).toNat (l[k].getD 1 0).toNat:=by rw[aft,ek]
   (conv=>whnf);(repeat'((first|apply bT|apply bF|apply bN|((first|apply bD|apply bEq|apply bNe)<;>intro hh<;>try(exfalso;omega))|refine iaJ g1 ?_|refine iaJ g2 ?_|refine iaJ g3 ?_|refine e1.cq rfl rfl ?_|refine e2.oq rfl rfl rfl ?_|refine wJ ?_|refine nJ ?_)<;>conv=>whnf))
   refine⟨k+1,?_,⟨by omega,fun i hi=>?_⟩,by omega⟩
   ·rw[ea];exact(mA [(3,some 2)])
   ·by_cases c:i=k
    ·rw[c,ek];exact hx
    ·exact h2 i (by omega)
 ·have:k=l.length:=by omega
  subst this
  rw[if_pos h2,decide_eq_true h2]
  (conv=>whnf);(repeat'((first|apply bT|apply bF|apply bN|((first|apply bD|apply bEq|apply bNe)<;>intro hh<;>try(exfalso;omega))|refine wJ ?_|refine nJ ?_)<;>conv=>whnf))
  all_goals rfl
theorem sn_len{l:List (List Int)}{n:Nat}:∀ {k:Nat},rndP l n k->(sn l k).length=2*k:=by
 intro k;induction k with
 |zero=>intro _;rfl
 |succ k ih=>
  intro h
  have:=(isPr_of (h k (by omega)).1).2.2.2.2.2
  rw[sn,List.length_append,ih (fun i hi=>h i (by omega)),this];omega
theorem n35(l:List (List Int))(n:Nat)(hl:l.length<=500000):FnA Try.prog 35 [.isl (l.map fAV), .int .i64 n] (· = .bool (decide (rndP l n l.length))):=by
 have hl1:(l.map fAV).length=l.length:=by simp
 refine fnA 1 ok35 (by simp) ?_
 (conv=>whnf);(repeat'((first|apply bT|apply bF|apply bN|((first|apply bD|apply bEq|apply bNe)<;>intro hh<;>try(exfalso;omega))|refine wJ ?_|refine nJ ?_)<;>conv=>whnf))
 refine loop_i (α :=Nat) (fun k=>[(6, .int .i64 k),(5, .row 1),(1, .int .i64 n),(0, .isl (l.map fAV))]) (fun k=>[.fresh, .row false 3 1 ((sn l k).map jAV)]) (fun k=>k<=l.length/\rndP l n k) (fun k=>l.length-k) 0 (mA [(1,none)]) ⟨by omega,fun i hi=>by omega⟩ ?_
 rintro k ⟨h1,h2⟩
 conv=>whnf
 refine bD (fun h3=>?_) (fun h3=>?_)
 ·have hk:k<l.length:=by omega
  have g1:=getM fAV l k hk
  have e1:=n52 l[k] n
  have ek:l.getD k []=l[k]:=by simp[List.getD_eq_getElem?_getD,hk]
  have hJ:(l[k].map jAV).length=l[k].length:=by simp
  have hs:=sn_len h2
  have hsJ:((sn l k).map jAV).length=(sn l k).length:=by simp
  cases hx:isPr l[k] n<;>rw[hx]at e1
  ·rw[decide_eq_false fun h:rndP l n l.length=>by have:=(h k hk).1;rw[ek,hx]at this;cases this]
   (conv=>whnf);(repeat'((first|apply bT|apply bF|apply bN|((first|apply bD|apply bEq|apply bNe)<;>intro hh<;>try(exfalso;omega))|refine iaJ g1 ?_|refine e1.cq rfl rfl ?_|refine wJ ?_|refine nJ ?_)<;>conv=>whnf))
   all_goals rfl
  ·have hp:=isPr_of hx
   have g2:=getJ l[k] 0 (by omega)
   have g3:=getJ l[k] 1 (by omega)
   have e2:=n51 (sn l k) (l[k].getD 0 0) (by omega)
   have e3:=n51 (sn l k) (l[k].getD 1 0) (by omega)
   by_cases hy:l[k].getD 0 0∈sn l k
   ·rw[decide_eq_false fun h:rndP l n l.length=>by have:=(h k hk).2.1;rw[ek]at this;exact this hy]
    rw[decide_eq_true hy]at e2
    (conv=>whnf);(repeat'((first|apply bT|apply bF|apply bN|((first|apply bD|apply bEq|apply bNe)<;>intro hh<;>try(exfalso;omega))|refine iaJ g1 ?_|refine iaJ g2 ?_|refine iaJ g3 ?_|refine e1.cq rfl rfl ?_|refine e2.lq rfl rfl ?_|refine wJ ?_|refine nJ ?_)<;>conv=>whnf))
    all_goals rfl
   ·rw[decide_eq_false hy]at e2
    by_cases hz:l[k].getD 1 0∈sn l k
    ·rw[decide_eq_false fun h:rndP l n l.length=>by have:=(h k hk).2.2;rw[ek]at this;exact this hz]
     rw[decide_eq_true hz]at e3
     (conv=>whnf);(repeat'((first|apply bT|apply bF|apply bN|((first|apply bD|apply bEq|apply bNe)<;>intro hh<;>try(exfalso;omega))|refine iaJ g1 ?_|refine iaJ g2 ?_|refine iaJ g3 ?_|refine e1.cq rfl rfl ?_|refine e2.lq rfl rfl ?_|refine e3.lq rfl rfl ?_|refine wJ ?_|refine nJ ?_)<;>conv=>whnf))
     all_goals rfl
    ·rw[decide_eq_false hz]at e3
     have hJo:=j_one l[k]
     (conv=>whnf);(repeat'((first|apply bT|apply bF|apply bN|((first|apply bD|apply bEq|apply bNe)<;>intro hh<;>try(exfalso;omega))|refine iaJ g1 ?_|refine iaJ g2 ?_|refine iaJ g3 ?_|refine e1.cq rfl rfl ?_|refine e2.lq rfl rfl ?_|refine e3.lq rfl rfl ?_|(refine apI hJo (by simp only[hsJ,hJ];omega) ?_)|refine wJ ?_|refine nJ ?_)<;>conv=>whnf))
     refine⟨k+1,?_,⟨by omega,fun i hi=>?_⟩,by omega⟩
     ·rw[sn,ek,List.map_append];exact(mA [(1,some 0)])
     ·by_cases c:i=k
      ·rw[c,ek];exact⟨hx,hy,hz⟩
      ·exact h2 i (by omega)
 ·have:k=l.length:=by omega
  subst this
  rw[decide_eq_true h2]
  (conv=>whnf);(repeat'((first|apply bT|apply bF|apply bN|((first|apply bD|apply bEq|apply bNe)<;>intro hh<;>try(exfalso;omega))|refine wJ ?_|refine nJ ?_)<;>conv=>whnf))
  all_goals rfl
theorem n37(a b:List Int)(ha:a.length<=1000000)(hb:b.length<=1000000):FnA Try.prog 37 [.isl (a.map jAV), .isl (b.map jAV)] (· = .bool (decide (a=b))):=by
 have la:(a.map jAV).length=a.length:=by simp
 have lb:(b.map jAV).length=b.length:=by simp
 refine fnA 0 ok37 (by simp) ?_
 by_cases h:a.length=b.length
 ·(conv=>whnf);(repeat'((first|apply bT|apply bF|apply bN|((first|apply bD|apply bEq|apply bNe)<;>intro hh<;>try(exfalso;omega))|refine wJ ?_|refine nJ ?_)<;>conv=>whnf))
  refine loop_i (α :=Nat) (fun k=>[(5, .int .i64 k),(1, .isl (b.map jAV)),(0, .isl (a.map jAV))]) (fun k=>[]) (fun k=>k<=a.length/\∀i,i<k->a.getD i 0=b.getD i 0) (fun k=>a.length-k) 0 mI ⟨by omega,fun i hi=>by omega⟩ ?_
  rintro k ⟨h1,h2⟩
  conv=>whnf
  refine bD (fun h3=>?_) (fun h3=>?_)
  ·have hk:k<a.length:=by omega
   have g1:=getJ a k hk
   have g2:=getJ b k (by omega)
   by_cases hx:a.getD k 0=b.getD k 0
   ·(conv=>whnf);(repeat'((first|apply bT|apply bF|apply bN|((first|apply bD|apply bEq|apply bNe)<;>intro hh<;>try(exfalso;omega))|refine iaJ g1 ?_|refine iaJ g2 ?_|refine wJ ?_|refine nJ ?_)<;>conv=>whnf))
    refine⟨k+1,mI,⟨by omega,fun i hi=>?_⟩,by omega⟩
    by_cases c:i=k
    ·rw[c];exact hx
    ·exact h2 i (by omega)
   ·rw[decide_eq_false fun e:a=b=>hx (by rw[e])]
    (conv=>whnf);(repeat'((first|apply bT|apply bF|apply bN|((first|apply bD|apply bEq|apply bNe)<;>intro hh<;>try(exfalso;omega))|refine iaJ g1 ?_|refine iaJ g2 ?_|refine wJ ?_|refine nJ ?_)<;>conv=>whnf))
    all_goals rfl
  ·rw[decide_eq_true (ext_getD h fun i hi=>h2 i (by omega))]
   (conv=>whnf);(repeat'((first|apply bT|apply bF|apply bN|((first|apply bD|apply bEq|apply bNe)<;>intro hh<;>try(exfalso;omega))|refine wJ ?_|refine nJ ?_)<;>conv=>whnf))
   all_goals rfl
 ·rw[decide_eq_false fun e:a=b=>h (by rw[e])]
  (conv=>whnf);(repeat'((first|apply bT|apply bF|apply bN|((first|apply bD|apply bEq|apply bNe)<;>intro hh<;>try(exfalso;omega))|refine wJ ?_|refine nJ ?_)<;>conv=>whnf))
  all_goals rfl
noncomputable def Stand.far(s:Stand):Bool:=decide (s.ws.length>60)||(s.ws.any (fun w=>decide (w.am.length>60))||(decide (s.chk=0)&&decide (s.gs>6)))
theorem n14(s:Stand)(hw:s.ws.length<=1000000)(hl:∀w∈s.ws,w.am.length<=1000000):FnA Try.prog 14 [.agg s.cells] (· = .bool s.far):=by
 have hL:(s.ws.map Word.av).length=s.ws.length:=by simp
 have e1:=n15 s hl
 unfold Stand.far
 refine fnA 1 ok14 (by simp) ?_
 by_cases h1:s.ws.length>60
 ·rw[decide_eq_true h1]
  (conv=>whnf);(repeat'((first|apply bT|apply bF|apply bN|((first|apply bD|apply bEq|apply bNe)<;>intro hh<;>try(exfalso;omega))|refine wJ ?_|refine nJ ?_)<;>conv=>whnf))
  all_goals rfl
 ·rw[decide_eq_false h1,Bool.false_or]
  (conv=>whnf);(repeat'((first|apply bT|apply bF|apply bN|((first|apply bD|apply bEq|apply bNe)<;>intro hh<;>try(exfalso;omega))|refine wJ ?_|refine nJ ?_)<;>conv=>whnf))
  refine loop_i (α :=Nat) (fun k=>[(3, .int .i64 k),(1, .own 0 0)]) (fun k=>[.box false s.cells]) (fun k=>k<=s.ws.length/\∀w∈s.ws.take k,decide (w.am.length>60)=false) (fun k=>s.ws.length-k) 0 mI ⟨by omega,by simp⟩ ?_
  rintro k ⟨h5,h6⟩
  conv=>whnf
  refine bD (fun h7=>?_) (fun h7=>?_)
  ·have hk:k<s.ws.length:=by omega
   have g1:=getM Word.av s.ws k hk
   have la:(s.ws[k].am.map jAV).length=s.ws[k].am.length:=by simp
   by_cases h8:s.ws[k].am.length>60
   ·have e:s.ws.any (fun w=>decide (w.am.length>60))=true:=List.any_eq_true.2 ⟨_,List.getElem_mem hk,decide_eq_true h8⟩
    rw[e]
    (conv=>whnf);(repeat'((first|apply bT|apply bF|apply bN|((first|apply bD|apply bEq|apply bNe)<;>intro hh<;>try(exfalso;omega))|refine iaJ g1 ?_|refine wJ ?_|refine nJ ?_)<;>conv=>whnf))
    all_goals rfl
   ·(conv=>whnf);(repeat'((first|apply bT|apply bF|apply bN|((first|apply bD|apply bEq|apply bNe)<;>intro hh<;>try(exfalso;omega))|refine iaJ g1 ?_|refine wJ ?_|refine nJ ?_)<;>conv=>whnf))
    exact⟨k+1,mI,⟨by omega,take_none hk h6 (decide_eq_false h8)⟩,by omega⟩
  ·have:k=s.ws.length:=by omega
   subst this
   rw[List.take_length]at h6
   have e:s.ws.any (fun w=>decide (w.am.length>60))=false:=by
    rw[Bool.eq_false_iff];intro h2
    obtain⟨x,hx,hp⟩:=List.any_eq_true.1 h2
    rw[h6 x hx]at hp;cases hp
   rw[e,Bool.false_or]
   by_cases h8:s.chk=0
   ·rw[h8]at e1
    rw[decide_eq_true h8]
    (conv=>whnf);(repeat'((first|apply bT|apply bF|apply bN|((first|apply bD|apply bEq|apply bNe)<;>intro hh<;>try(exfalso;omega))|refine e1.cq rfl rfl ?_|refine wJ ?_|refine nJ ?_)<;>conv=>whnf))
    all_goals rfl
   ·rw[decide_eq_false h8]
    (conv=>whnf);(repeat'((first|apply bT|apply bF|apply bN|((first|apply bD|apply bEq|apply bNe)<;>intro hh<;>try(exfalso;omega))|refine e1.cq rfl rfl ?_|refine wJ ?_|refine nJ ?_)<;>conv=>whnf))
    all_goals rfl
noncomputable def Stand.farA(s:Stand):Bool:=s.far||(decide (s.chk=0)&&decide (s.gs>4))
theorem n44(s:Stand)(hw:s.ws.length<=1000000)(hl:∀w∈s.ws,w.am.length<=1000000):FnA Try.prog 44 [.agg s.cells] (· = .bool s.farA):=by
 have e1:=n15 s hl
 have e2:=n14 s hw hl
 unfold Stand.farA
 refine fnA 1 ok44 (by simp) ?_
 cases h1:s.far<;>rw[h1]at e2
 ·by_cases h8:s.chk=0
  ·rw[h8]at e1
   rw[decide_eq_true h8]
   (conv=>whnf);(repeat'((first|apply bT|apply bF|apply bN|((first|apply bD|apply bEq|apply bNe)<;>intro hh<;>try(exfalso;omega))|refine e1.cq rfl rfl ?_|refine e2.cq rfl rfl ?_|refine wJ ?_|refine nJ ?_)<;>conv=>whnf))
   all_goals rfl
  ·rw[decide_eq_false h8]
   (conv=>whnf);(repeat'((first|apply bT|apply bF|apply bN|((first|apply bD|apply bEq|apply bNe)<;>intro hh<;>try(exfalso;omega))|refine e1.cq rfl rfl ?_|refine e2.cq rfl rfl ?_|refine wJ ?_|refine nJ ?_)<;>conv=>whnf))
   all_goals rfl
 ·(conv=>whnf);(repeat'((first|apply bT|apply bF|apply bN|((first|apply bD|apply bEq|apply bNe)<;>intro hh<;>try(exfalso;omega))|refine e2.cq rfl rfl ?_|refine wJ ?_|refine nJ ?_)<;>conv=>whnf))
  all_goals rfl
noncomputable def Stand.rdy(s:Stand):Bool := !s.farA&&decide (s.chk=0)
theorem n25(s:Stand)(hw:s.ws.length<=1000000)(hl:∀w∈s.ws,w.am.length<=1000000):FnA Try.prog 25 [.agg s.cells] (· = .bool s.rdy):=by
 have e1:=n15 s hl
 have e2:=n44 s hw hl
 unfold Stand.rdy
 refine fnA 1 ok25 (by simp) ?_
 cases h1:s.farA<;>rw[h1]at e2
 ·by_cases h8:s.chk=0
  ·rw[h8]at e1
   rw[decide_eq_true h8]
   (conv=>whnf);(repeat'((first|apply bT|apply bF|apply bN|((first|apply bD|apply bEq|apply bNe)<;>intro hh<;>try(exfalso;omega))|refine e1.cq rfl rfl ?_|refine e2.cq rfl rfl ?_|refine wJ ?_|refine nJ ?_)<;>conv=>whnf))
   all_goals rfl
  ·rw[decide_eq_false h8]
   (conv=>whnf);(repeat'((first|apply bT|apply bF|apply bN|((first|apply bD|apply bEq|apply bNe)<;>intro hh<;>try(exfalso;omega))|refine e1.cq rfl rfl ?_|refine e2.cq rfl rfl ?_|refine wJ ?_|refine nJ ?_)<;>conv=>whnf))
   all_goals exact congrArg AV.bool (by simp[h8])
 ·(conv=>whnf);(repeat'((first|apply bT|apply bF|apply bN|((first|apply bD|apply bEq|apply bNe)<;>intro hh<;>try(exfalso;omega))|refine e2.cq rfl rfl ?_|refine wJ ?_|refine nJ ?_)<;>conv=>whnf))
  all_goals rfl
def tkB(l:List Int):Bool:=(List.range l.length).all fun i=>decide (0<=l.getD i 0/\l.getD i 0<l.length) && !decide (l.getD i 0∈l.take i)
def trB0(s:Stand)(t:List Int):Bool:=decide ((t.length:Int)=s.gs)&&((tkB t&&decide (t.length<=7))&&decide (wrongs s t s.ws.length<=s.wr))
theorem tkB_iff(l:List Int):tkB l=true<->tkP l l.length:=by
 simp only[tkB,List.all_eq_true,List.mem_range,Bool.and_eq_true,decide_eq_true_eq,Bool.not_eq_true',decide_eq_false_iff_not,tkP]
theorem trB0_eq(s:Stand)(t:List Int):isTr s t=trB0 s t:=by
 have e:decide (tkP t t.length)=tkB t:=by
  rw[Bool.eq_iff_iff,decide_eq_true_eq];exact(tkB_iff t).symm
 rw[isTr,isTk,trB0,e]
def trFB(s:Stand):Nat->List Int->List (List Int)
 |0,first=>if trB0 s first=true then [first] else []
 |n+1,first=>trK (trFB s n) first s.gs.toNat
theorem trFB_eq(s:Stand):∀n,trF s n=trFB s n:=by
 intro n;induction n with
 |zero=>funext first;rw[trF,trFB,trB0_eq]
 |succ n ih=>funext first;rw[trF,trFB,ih]
def exT:Stand:=⟨4,[⟨1,0,0,[1,2]⟩,⟨2,3,0,[3]⟩,⟨4,1,2,[]⟩],0⟩
theorem exT_truths:truths exT=[[1,3,2,0],[2,1,3,0]]:=by
 rw[truths,trFB_eq];decide +kernel
theorem exT_known:knownK exT (truths exT) 4=[-1, -1, -1,0]:=by rw[exT_truths];decide +kernel
theorem exT_kn0:kn 4 0 (truths exT)=false:=by rw[exT_truths];decide +kernel
theorem exT_kn1:kn 4 1 (truths exT)=true:=by rw[exT_truths];decide +kernel
theorem exT_qn:qn 4 (truths exT)=1:=qn_eq exT_kn1 fun k hk=>by
 have:k=0:=by omega
 subst this;exact exT_kn0
theorem exT_need:need [1,2,0,3]=2:=by decide +kernel
theorem exT_chk:exT.chk=0:=by
 rw[chk_ok]
 refine⟨by decide,by decide,by decide,?_⟩
 intro w hw
 simp only[exT,List.mem_cons,List.not_mem_nil,or_false]at hw
 rcases hw with rfl|rfl|rfl
 ·exact isWo_to (by decide) (by decide) (Or.inr ⟨by decide,by decide,by decide,rfl,pw_riseP (by decide) (by decide)⟩)
 ·exact isWo_to (by decide) (by decide) (Or.inr ⟨by decide,by decide,by decide,rfl,pw_riseP (by decide) (by decide)⟩)
 ·exact isWo_to (by decide) (by decide) (Or.inl ⟨by decide,rfl,by decide⟩)
def bkL(t:List Int):Nat->List Int
 |0=>List.replicate t.length 0
 |k+1=>(bkL t k).set (t.getD k 0).toNat (k:Int)
theorem bkL_len(t:List Int)(k:Nat):(bkL t k).length=t.length:=by
 induction k with
 |zero=>simp[bkL]
 |succ k ih=>rw[bkL,List.length_set,ih]
theorem bkL_get{t:List Int}(ht:tk t):∀ {k i:Nat},k<=t.length->i<k->(bkL t k).getD (t.getD i 0).toNat 0=(i:Int):=by
 intro k;induction k with
 |zero=>intro i _ hi;omega
 |succ k ih=>
  intro i hk hi
  have a:=tk_lt ht k (by omega)
  have b:=tk_lt ht i (by omega)
  rw[bkL,getS _ _ _ _ (by rw[bkL_len];omega)]
  by_cases c:i=k
  ·rw[c,if_pos rfl]
  ·rw[if_neg (fun e=>c (ht.2.2 i (by omega) k (by omega) (by simp only[fnL];exact e)))]
   exact ih (by omega) (by omega)
theorem bkL_fn{t:List Int}(ht:tk t):∀i,i<t.length->fnL (bkL t t.length) (fnL t i)=i:=by
 intro i hi
 have:=bkL_get ht (Nat.le_refl _) hi
 simp only[fnL];rw[this];omega
theorem bkL_tk{t:List Int}(ht:tk t):tk (bkL t t.length):=by
 have key:∀j,j<t.length->∃i,i<t.length/\(t.getD i 0).toNat=j/\(bkL t t.length).getD j 0=(i:Int):=by
  intro j hj
  obtain⟨i,hi,e⟩:=tk_has ht j hj
  simp only[fnL]at e
  refine⟨i,hi,e,?_⟩
  rw[<- e];exact bkL_get ht (Nat.le_refl _) hi
 apply tk_mk
 ·intro j hj
  rw[bkL_len]at *
  obtain⟨i,hi,_,e⟩:=key j hj
  rw[e];omega
 ·intro j hj k hk e
  rw[bkL_len]at *
  obtain⟨i,hi,e1,e2⟩:=key j hj
  obtain⟨i',hi',e3,e4⟩:=key k hk
  rw[e2,e4]at e
  have:i=i':=by omega
  subst this;omega
theorem n33(t:List Int)(ht:t.length<=1000000)(hk:tk t):FnA Try.prog 33 [.isl (t.map jAV)] (· = .isl ((bkL t t.length).map jAV)):=by
 have hL:(t.map jAV).length=t.length:=by simp
 have hrep:List.replicate (↑(t.map jAV).length:Int).toNat [AV.int .i64 0]=(bkL t 0).map jAV:=by simp[bkL,jAV]
 refine fnA 1 ok33 (by simp) ?_
 (conv=>whnf);(repeat'((first|apply bT|apply bF|apply bN|((first|apply bD|apply bEq|apply bNe)<;>intro hh<;>try(exfalso;omega))|refine mkI (by omega) (by omega) (by omega) ?_|refine wJ ?_|refine nJ ?_)<;>conv=>whnf))
 rw[hrep]
 refine loop_i (α :=Nat) (fun k=>[(4, .int .i64 k),(3, .row 0),(0, .isl (t.map jAV))]) (fun k=>[.row false 3 1 ((bkL t k).map jAV)]) (fun k=>k<=t.length) (fun k=>t.length-k) 0 mI (by omega) ?_
 rintro k h1
 conv=>whnf
 refine bD (fun h3=>?_) (fun h3=>?_)
 ·have hk1:k<t.length:=by omega
  have g1:=getJ t k hk1
  have a:=tk_lt hk k hk1
  have lb:=bkL_len t k
  have lb2:((bkL t k).map jAV).length=(bkL t k).length:=by simp
  have g2:=getJ (bkL t k) (t.getD k 0).toNat (by omega)
  have e:((bkL t k).map jAV).set (t.getD k 0).toNat [.int .i64 (k:Int)]=(bkL t (k+1)).map jAV:=by rw[bkL,List.map_set];rfl
  (conv=>whnf);(repeat'((first|apply bT|apply bF|apply bN|((first|apply bD|apply bEq|apply bNe)<;>intro hh<;>try(exfalso;omega))|refine iaJ g1 ?_|refine iaJ g2 ?_|refine wJ ?_|refine nJ ?_)<;>conv=>whnf))
  refine⟨k+1,?_,by omega,by omega⟩
  rw[<- e];exact mI
 ·have:k=t.length:=by omega
  subst this
  (conv=>whnf);(repeat'((first|apply bT|apply bF|apply bN|((first|apply bD|apply bEq|apply bNe)<;>intro hh<;>try(exfalso;omega))|refine wJ ?_|refine nJ ?_)<;>conv=>whnf))
  all_goals rfl
theorem n50:FnA Try.prog 50 [] (· = .agg exT.cells):=by
 refine fnA 4 ok50 (by simp) ?_
 (conv=>whnf);(repeat'((first|apply bT|apply bF|apply bN|((first|apply bD|apply bEq|apply bNe)<;>intro hh<;>try(exfalso;omega))|refine wJ ?_|refine nJ ?_)<;>conv=>whnf))
 all_goals rfl
theorem n24(s:Stand)(hw:s.ws.length<=1000000)(hl:∀w∈s.ws,w.am.length<=1000000):FnA Try.prog 24 [.agg s.cells] (· = .agg s.cells):=by
 have lw:(s.ws.map Word.av).length=s.ws.length:=by simp
 have map_same:∀(k:Nat) (hk:k<s.ws.length),(s.ws.map Word.av).set k (s.ws[k]).av=s.ws.map Word.av:=fun k hk=>by
  apply List.ext_getElem (by simp)
  intro i h1 h2
  rw[List.getElem_set];split
  ·rename_i c;subst c;simp
  ·rfl
 refine fnA 7 ok24 (by simp) ?_
 (conv=>whnf);(repeat'((first|apply bT|apply bF|apply bN|((first|apply bD|apply bEq|apply bNe)<;>intro hh<;>try(exfalso;omega))|(refine apI (w_one s.ws) (by simp only[lw,List.length_nil];omega) ?_)|refine wJ ?_|refine nJ ?_)<;>conv=>whnf))
 refine loop_i (α :=Nat × List (List AV)) (fun q=>[(4, .int .i64 q.1),(3, .own 2 0),(2, .own 1 0),(1, .own 0 0)]) (fun q=>[.box false s.cells, .box false [.int .i64 0, .nils, .int .i64 0], .box false [.int .i64 s.gs, .row 4, .int .i64 s.wr], .fresh, .row false 39 4 q.2, .fresh, .fresh]) (fun q=>q.1<=s.ws.length/\q.2=s.ws.map Word.av) (fun q=>s.ws.length-q.1) (0,[]++s.ws.map Word.av) mI ⟨by simp,rfl⟩ ?_
 rintro⟨k,L⟩ ⟨hk0,hL⟩
 dsimp only at hk0 hL⊢
 subst hL
 conv=>whnf
 refine bD (fun h5=>?_) (fun h5=>?_)
 ·have hkl:k<s.ws.length:=by omega
  have g1:=getM Word.av s.ws k hkl
  have la:(s.ws[k].am.map jAV).length=s.ws[k].am.length:=by simp
  have hb:=hl _ (List.getElem_mem hkl)
  have hset:=map_same k hkl
  (conv=>whnf);(repeat'((first|apply bT|apply bF|apply bN|((first|apply bD|apply bEq|apply bNe)<;>intro hh<;>try(exfalso;omega))|refine iaJ g1 ?_|(refine apI (j_one s.ws[k].am) (by simp only[la,List.length_nil];omega) ?_)|refine wJ ?_|refine nJ ?_)<;>conv=>whnf))
  exact⟨(k+1,(s.ws.map Word.av).set k (s.ws[k]).av),mI,⟨by dsimp only;omega,hset⟩,by dsimp only;omega⟩
 ·have:k=s.ws.length:=by omega
  subst this
  (conv=>whnf);(repeat'((first|apply bT|apply bF|apply bN|((first|apply bD|apply bEq|apply bNe)<;>intro hh<;>try(exfalso;omega))|refine wJ ?_|refine nJ ?_)<;>conv=>whnf))
  all_goals rfl
theorem n43(s o:Stand)(hw:s.ws.length<=1000000)(hl:∀w∈s.ws,w.am.length<=1000000)(hw2:o.ws.length<=1000000)(hl2:∀w∈o.ws,w.am.length<=1000000):FnA Try.prog 43 [.agg s.cells, .agg o.cells] (· = .bool (decide (s.gs=o.gs/\s.wr=o.wr/\s.ws=o.ws))):=by
 have l1:(s.ws.map Word.av).length=s.ws.length:=by simp
 have l2:(o.ws.map Word.av).length=o.ws.length:=by simp
 refine fnA 4 ok43 (by simp) ?_
 by_cases h:s.gs=o.gs/\s.wr=o.wr/\s.ws.length=o.ws.length
 ·obtain⟨ha,hb,hc⟩:=h
  (conv=>whnf);(repeat'((first|apply bT|apply bF|apply bN|((first|apply bD|apply bEq|apply bNe)<;>intro hh<;>try(exfalso;omega))|refine wJ ?_|refine nJ ?_)<;>conv=>whnf))
  refine loop_i (α :=Nat × AV × AV) (fun q=>[(5, .int .i64 q.1),(3, .own 1 0),(2, .own 0 0)]) (fun q=>[.box false s.cells, .box false o.cells, .fresh, .fresh]) (fun q=>q.1<=s.ws.length/\∀i,(h1:i<s.ws.length)->(h2:i<o.ws.length)->i<q.1->s.ws[i]=o.ws[i]) (fun q=>s.ws.length-q.1) (0, .nils, .nils) mI ⟨by simp,fun i _ _ hi=>absurd hi (by simp)⟩ ?_
  rintro⟨k,x,y⟩ ⟨h1,h2⟩
  dsimp only at h1 h2⊢
  conv=>whnf
  refine bD (fun h3=>?_) (fun h3=>?_)
  ·have hk:k<s.ws.length:=by omega
   have hk2:k<o.ws.length:=by omega
   have g1:=getM Word.av s.ws k hk
   have g2:=getM Word.av o.ws k hk2
   have e1:=n37 s.ws[k].am o.ws[k].am (hl _ (List.getElem_mem hk)) (hl2 _ (List.getElem_mem hk2))
   by_cases hx:s.ws[k]=o.ws[k]
   ·rw[decide_eq_true (by rw[hx])]at e1
    have x1:s.ws[k].k=o.ws[k].k:=by rw[hx]
    have x2:s.ws[k].g=o.ws[k].g:=by rw[hx]
    have x3:s.ws[k].o=o.ws[k].o:=by rw[hx]
    (conv=>whnf);(repeat'((first|apply bT|apply bF|apply bN|((first|apply bD|apply bEq|apply bNe)<;>intro hh<;>try(exfalso;omega))|refine iaJ g1 ?_|refine iaJ g2 ?_|refine e1.cq rfl rfl ?_|refine wJ ?_|refine nJ ?_)<;>conv=>whnf))
    refine⟨(k+1, .nils, .nils),mI,⟨by dsimp only;omega,fun i a b hi=>?_⟩,by dsimp only;omega⟩
    by_cases c:i=k
    ·subst c;exact hx
    ·exact h2 i a b (by dsimp only at hi;omega)
   ·have hno:¬(s.gs=o.gs/\s.wr=o.wr/\s.ws=o.ws):=fun e=>hx (by simp only[e.2.2])
    rw[decide_eq_false hno]
    by_cases hy:s.ws[k].k=o.ws[k].k/\s.ws[k].g=o.ws[k].g/\s.ws[k].o=o.ws[k].o
    ·have hz:s.ws[k].am≠o.ws[k].am:=fun e=>hx (by
      cases h4:s.ws[k];cases h5:o.ws[k]
      simp only[h4,h5]at hy e
      rw[hy.1,hy.2.1,hy.2.2,e])
     rw[decide_eq_false hz]at e1
     (conv=>whnf);(repeat'((first|apply bT|apply bF|apply bN|((first|apply bD|apply bEq|apply bNe)<;>intro hh<;>try(exfalso;omega))|refine iaJ g1 ?_|refine iaJ g2 ?_|refine e1.cq rfl rfl ?_|refine wJ ?_|refine nJ ?_)<;>conv=>whnf))
     all_goals rfl
    ·(conv=>whnf);(repeat'((first|apply bT|apply bF|apply bN|((first|apply bD|apply bEq|apply bNe)<;>intro hh<;>try(exfalso;omega))|refine iaJ g1 ?_|refine iaJ g2 ?_|refine e1.cq rfl rfl ?_|refine wJ ?_|refine nJ ?_)<;>conv=>whnf))
     all_goals rfl
  ·have hk:k=s.ws.length:=by omega
   subst hk
   have hws:s.ws=o.ws:=List.ext_getElem hc fun i a b=>h2 i a b a
   rw[decide_eq_true ⟨ha,hb,hws⟩]
   (conv=>whnf);(repeat'((first|apply bT|apply bF|apply bN|((first|apply bD|apply bEq|apply bNe)<;>intro hh<;>try(exfalso;omega))|refine wJ ?_|refine nJ ?_)<;>conv=>whnf))
   all_goals rfl
 ·rw[decide_eq_false fun e=>h ⟨e.1,e.2.1,by rw[e.2.2]⟩]
  (conv=>whnf);(repeat'((first|apply bT|apply bF|apply bN|((first|apply bD|apply bEq|apply bNe)<;>intro hh<;>try(exfalso;omega))|refine wJ ?_|refine nJ ?_)<;>conv=>whnf))
  all_goals rfl
def Small(s:Stand):Prop:=s.ws.length<=100/\∀w∈s.ws,w.am.length<=100
def RndOk(t:List Int)(a b:List (List Int))(e:Int):Prop:=if isTk t=true then e=0/\a.length<=100/\b.length<=100/\rndP a t.length a.length/\rndP b t.length b.length/\rightP (aft (aft t a a.length) b b.length) t.length else e=1/\a=[]/\b=[]
def ExOk(t:List Int)(a:List (List Int))(e:Int):Prop:=if isTk t=true then e=0/\a.length=need t/\prsP a t.length a.length/\rightP (aft t a a.length) t.length else e=1/\a=[]
def AskOk(s:Stand)(g e:Int):Prop:=e=s.eG (-1000000)/\(e≠0->g=0)/\(e=0->qn s.gs.toNat (truths s)=0->g = -1)/\(e=0->0<qn s.gs.toNat (truths s)->isG s g=true/\knA (kn s.gs.toNat (qn s.gs.toNat (truths s)-1)) (truths s) s.gs.toNat g.toNat=true)
structure Prg:Prop where
 check:∀s,Small s->FnA Try.prog 38 [.agg s.cells] (· = .int .i64 s.chk)
 many:∀s,Small s->FnA Try.prog 18 [.agg s.cells] (· = .tup [.int .i64 (if s.chk=0 then(truths s).length else 0), .int .i64 s.chk])
 known:∀s,Small s->FnA Try.prog 19 [.agg s.cells] (· = .tup [.isl ((if s.eG (-1000000)=0 then knownK s (truths s) s.gs.toNat else []).map jAV), .int .i64 (s.eG (-1000000))])
 liars:∀s,Small s->FnA Try.prog 20 [.agg s.cells] (· = .tup [.isl ((if s.eG (-1000000)=0 then liarsK s s.ws.length else []).map jAV), .int .i64 (s.eG (-1000000))])
 quest:∀s,Small s->FnA Try.prog 26 [.agg s.cells] (· = .tup [.int .i64 (if s.eG (-1000000)=0 then qn s.gs.toNat (truths s) else 0), .int .i64 (s.eG (-1000000))])
 ask:∀s,Small s->FnA Try.prog 27 [.agg s.cells] (fun r=>∃g e:Int,r = .tup [.int .i64 g, .int .i64 e]/\AskOk s g e)
 swaps:∀t:List Int,t.length<=100->FnA Try.prog 29 [.isl (t.map jAV)] (· = .tup [.int .i64 (if isTk t=true then need t else 0), .int .i64 (if isTk t=true then 0 else 1)])
 exch:∀t:List Int,t.length<=100->FnA Try.prog 48 [.isl (t.map jAV)] (fun r=>∃(a:List (List Int)) (e:Int),r = .tup [.isl (a.map fAV), .int .i64 e]/\ExOk t a e)
 rounds:∀t:List Int,t.length<=100->FnA Try.prog 34 [.isl (t.map jAV)] (fun r=>∃(a b:List (List Int)) (e:Int),r = .tup [.isl (a.map fAV), .isl (b.map fAV), .int .i64 e]/\RndOk t a b e)
theorem exT_small:Small exT:=⟨by decide,by decide⟩
theorem exT_eG:exT.eG (-1000000)=0:=err_zero.2 ⟨exT_chk,by simp,by rw[exT_truths];decide⟩
theorem tk_ex:isTk [1,2,0,3]=true:=by
 have:tkP [1,2,0,3] ([1,2,0,3]:List Int).length:=(tkB_iff _).1 (by decide +kernel)
 rw[isTk,decide_eq_true this];rfl
theorem n17(P:Prg):FnA Try.prog 17 [] (· = .bool true):=by
 have e1:FnA Try.prog 18 [.agg exT.cells] (· = .tup [.int .i64 2, .int .i64 0]):=by
  have:=P.many exT exT_small
  rw[exT_chk,if_pos rfl,exT_truths]at this;exact this
 have e2:FnA Try.prog 19 [.agg exT.cells] (· = .tup [.isl (([-1, -1, -1,0]:List Int).map jAV), .int .i64 0]):=by
  have:=P.known exT exT_small
  rw[exT_eG,if_pos rfl,show exT.gs.toNat=4 from rfl,exT_known]at this;exact this
 have e3:FnA Try.prog 26 [.agg exT.cells] (· = .tup [.int .i64 1, .int .i64 0]):=by
  have:=P.quest exT exT_small
  rw[exT_eG,if_pos rfl,show exT.gs.toNat=4 from rfl,exT_qn]at this;exact this
 have e4:FnA Try.prog 29 [.isl (([1,2,0,3]:List Int).map jAV)] (· = .tup [.int .i64 2, .int .i64 0]):=by
  have:=P.swaps [1,2,0,3] (by decide)
  rw[tk_ex,if_pos rfl,if_pos rfl,exT_need]at this;exact this
 have e5:=P.rounds [1,2,0,3] (by decide)
 have e6:FnA Try.prog 37 [.isl (([-1, -1, -1,0]:List Int).map jAV), .isl (([-1, -1, -1,0]:List Int).map jAV)] (· = .bool true):=by
  have:=n37 [-1, -1, -1,0] [-1, -1, -1,0] (by decide) (by decide)
  rw[decide_eq_true rfl]at this;exact this
 refine fnA 8 ok17 (by simp) ?_
 (conv=>whnf);(repeat'((first|apply bT|apply bF|apply bN|((first|apply bD|apply bEq|apply bNe)<;>intro hh<;>try(exfalso;omega))|refine n50.zq rfl rfl ?_|refine e1.cq rfl rfl ?_|refine e2.zq rfl rfl ?_|refine e3.cq rfl rfl ?_|refine e4.lq rfl rfl ?_|refine wJ ?_|refine nJ ?_)<;>conv=>whnf))
 refine e5.callzq rfl rfl (fun r hr=>?_)
 obtain⟨a,b,e,rfl,hab⟩:=hr
 rw[RndOk,if_pos tk_ex]at hab
 obtain⟨rfl,ha,hb,_,_,hr⟩:=hab
 have hpos:0<a.length+b.length:=by
  apply Nat.pos_of_ne_zero;intro h0
  have x:a=[]:=List.length_eq_zero_iff.1 (by omega)
  have y:b=[]:=List.length_eq_zero_iff.1 (by omega)
  subst x;subst y
  exact absurd (hr 0 (by decide)) (by decide)
 have l1:(a.map fAV).length=a.length:=by simp
 have l2:(b.map fAV).length=b.length:=by simp
 (conv=>whnf);(repeat'((first|apply bT|apply bF|apply bN|((first|apply bD|apply bEq|apply bNe)<;>intro hh<;>try(exfalso;omega))|refine e6.lq rfl rfl ?_|refine wJ ?_|refine nJ ?_)<;>conv=>whnf))
 all_goals exact congrArg AV.bool (decide_eq_true (by omega))
theorem far_no{s:Stand}(h:s.far=false):Small s/\(s.chk=0->s.gs<=6):=by
 simp only[Stand.far,Bool.or_eq_false_iff,Bool.and_eq_false_iff,decide_eq_false_iff_not]at h
 refine⟨⟨by omega,fun w hw=>?_⟩,fun hc=>?_⟩
 ·have:=List.any_eq_false.1 h.2.1 w hw
  simp only[decide_eq_true_eq]at this;omega
 ·rcases h.2.2 with c|c
  ·exact absurd hc c
  ·omega
theorem rdy_of{s:Stand}(h:s.rdy=true):Small s/\s.chk=0/\s.gs<=4:=by
 simp only[Stand.rdy,Stand.farA,Bool.and_eq_true,Bool.not_eq_true',Bool.or_eq_false_iff,Bool.and_eq_false_iff,decide_eq_true_eq,decide_eq_false_iff_not]at h
 refine⟨(far_no h.1.1).1,h.2,?_⟩
 rcases h.1.2 with c|c
 ·exact absurd h.2 c
 ·omega
def Big(s:Stand):Prop:=s.ws.length<=1000000/\∀w∈s.ws,w.am.length<=1000000
theorem eG_val{s:Stand}(h:s.chk=0):s.eG (-1000000)=if ((truths s).length:Int)=0 then 3 else 0:=by
 rw[Stand.eG,Stand.err,h];simp
theorem beqc(a b c d:Int):((a==b)=(c==d))<->(a=b<->c=d):=by
 rw[Bool.eq_iff_iff,beq_iff_eq,beq_iff_eq]
theorem k6(P:Prg)(s:Stand)(hB:Big s):FnA Try.prog 6 [.agg s.cells] (· = .bool true):=by
 have e0:=n17 P
 have e1:=n25 s hB.1 hB.2
 refine fnA 1 ok6 (by simp) ?_
 cases h:s.rdy<;>rw[h]at e1
 ·(conv=>whnf);(repeat'((first|apply bT|apply bF|apply bN|((first|apply bD|apply bEq|apply bNe)<;>intro hh<;>try(exfalso;omega))|refine e1.cq rfl rfl ?_|refine e0.cq rfl rfl ?_|refine wJ ?_|refine nJ ?_)<;>conv=>whnf))
  all_goals rfl
 ·obtain⟨hs,hc,hg⟩:=rdy_of h
  have c:=chk_ok.1 hc
  have e2:=P.many s hs
  have e3:=P.quest s hs
  rw[hc,if_pos rfl]at e2
  rw[eG_val hc]at e3
  by_cases hz:((truths s).length:Int)=0
  ·rw[if_pos hz,if_neg (by omega)]at e3
   (conv=>whnf);(repeat'((first|apply bT|apply bF|apply bN|((first|apply bD|apply bEq|apply bNe)<;>intro hh<;>try(exfalso;omega))|refine e1.cq rfl rfl ?_|refine e0.cq rfl rfl ?_|refine e2.cq rfl rfl ?_|refine e3.cq rfl rfl ?_|refine wJ ?_|refine nJ ?_)<;>conv=>whnf))
   all_goals first|rfl|(exfalso;exact hh (by rw[beqc];omega))|(exfalso;simp only[beqc,if_true]at *;omega)
  ·rw[if_neg hz,if_pos rfl]at e3
   have en:=enough c.1.1 (fun e=>hz (by rw[e];rfl))
   generalize qn s.gs.toNat (truths s)=q at *
   generalize (truths s).length=n at *
   (conv=>whnf);(repeat'((first|apply bT|apply bF|apply bN|((first|apply bD|apply bEq|apply bNe)<;>intro hh<;>try(exfalso;omega))|refine e1.cq rfl rfl ?_|refine e0.cq rfl rfl ?_|refine e2.cq rfl rfl ?_|refine e3.cq rfl rfl ?_|refine wJ ?_|refine nJ ?_)<;>conv=>whnf))
   all_goals first|rfl|(exfalso;exact hh (by rw[beqc];omega))|(exfalso;simp only[beqc,if_true]at *;omega)
theorem farA_no{s:Stand}(h:s.farA=false):s.far=false/\(s.chk=0->s.gs<=4):=by
 simp only[Stand.farA,Bool.or_eq_false_iff,Bool.and_eq_false_iff,decide_eq_false_iff_not]at h
 refine⟨h.1,fun hc=>?_⟩
 rcases h.2 with c|c
 ·exact absurd hc c
 ·omega
theorem k12(P:Prg)(s:Stand)(hB:Big s):FnA Try.prog 12 [.agg s.cells] (· = .bool true):=by
 have e0:=n17 P
 have e1:=n44 s hB.1 hB.2
 have e2:=n24 s hB.1 hB.2
 refine fnA 3 ok12 (by simp) ?_
 cases h1:s.farA<;>rw[h1]at e1
 ·have hf:=farA_no h1
  obtain⟨hs,_⟩:=far_no hf.1
  have e3:=P.quest s hs
  have e4:=n45 s hB.2
  have e5:=P.ask s hs
  have e6:=n43 s s hB.1 hB.2 hB.1 hB.2
  rw[decide_eq_true ⟨rfl,rfl,rfl⟩]at e6
  by_cases hE:s.eG (-1000000)=0
  ·have hc:=(eG_ok hE).1
   have c:=chk_ok.1 hc
   rw[if_pos hE,hE]at e3 e4
   have hq:=qn_spec (kn_gs (nd_truths c.1.1) (truths_ok c.1.1))
   (conv=>whnf);(repeat'((first|apply bT|apply bF|apply bN|((first|apply bD|apply bEq|apply bNe)<;>intro hh<;>try(exfalso;omega))|refine e1.cq rfl rfl ?_|refine e2.zq rfl rfl ?_|refine e3.cq rfl rfl ?_|refine e4.cq rfl rfl ?_|refine wJ ?_|refine nJ ?_)<;>conv=>whnf))
   refine e5.callq rfl rfl (fun r hr=>?_)
   obtain⟨g,e,rfl,he1,he2,he3,he4⟩:=hr
   rw[hE]at he1
   subst he1
   by_cases hz:qn s.gs.toNat (truths s)=0
   ·have:=he3 rfl hz
    subst this
    (conv=>whnf);(repeat'((first|apply bT|apply bF|apply bN|((first|apply bD|apply bEq|apply bNe)<;>intro hh<;>try(exfalso;omega))|refine e6.cq rfl rfl ?_|refine e0.cq rfl rfl ?_|refine wJ ?_|refine nJ ?_)<;>conv=>whnf))
    all_goals rfl
   ·obtain⟨hg1,hg2⟩:=he4 rfl (by omega)
    have e7:=n46 s hc g (qn s.gs.toNat (truths s)) (by omega)
    rw[hg1,decide_eq_true (by omega),show((qn s.gs.toNat (truths s):Int)-1).toNat=qn s.gs.toNat (truths s)-1 by omega,hg2]at e7
    (conv=>whnf);(repeat'((first|apply bT|apply bF|apply bN|((first|apply bD|apply bEq|apply bNe)<;>intro hh<;>try(exfalso;omega))|refine e6.cq rfl rfl ?_|refine e7.cq rfl rfl ?_|refine e0.cq rfl rfl ?_|refine wJ ?_|refine nJ ?_)<;>conv=>whnf))
    all_goals rfl
  ·rw[if_neg hE]at e3 e4
   (conv=>whnf);(repeat'((first|apply bT|apply bF|apply bN|((first|apply bD|apply bEq|apply bNe)<;>intro hh<;>try(exfalso;omega))|refine e1.cq rfl rfl ?_|refine e2.zq rfl rfl ?_|refine e3.cq rfl rfl ?_|refine e4.cq rfl rfl ?_|refine wJ ?_|refine nJ ?_)<;>conv=>whnf))
   refine e5.callq rfl rfl (fun r hr=>?_)
   obtain⟨g,e,rfl,he1,he2,he3,he4⟩:=hr
   subst he1
   have:=he2 hE
   subst this
   (conv=>whnf);(repeat'((first|apply bT|apply bF|apply bN|((first|apply bD|apply bEq|apply bNe)<;>intro hh<;>try(exfalso;omega))|refine e6.cq rfl rfl ?_|refine e0.cq rfl rfl ?_|refine wJ ?_|refine nJ ?_)<;>conv=>whnf))
   all_goals rfl
 ·(conv=>whnf);(repeat'((first|apply bT|apply bF|apply bN|((first|apply bD|apply bEq|apply bNe)<;>intro hh<;>try(exfalso;omega))|refine e1.cq rfl rfl ?_|refine e0.cq rfl rfl ?_|refine wJ ?_|refine nJ ?_)<;>conv=>whnf))
  all_goals rfl
theorem n32y(t:List Int)(l:List (List Int))(ht:t.length<=1000000)(hl:l.length<=1000000)(h:prsP l t.length l.length):FnA Try.prog 32 [.isl (t.map jAV), .isl (l.map fAV)] (· = .tup [.isl ((aft t l l.length).map jAV), .bool true]):=by
 have:=n32 t l ht hl
 rw[if_pos h,decide_eq_true h]at this;exact this
theorem n35y(t:List Int)(l:List (List Int))(hl:l.length<=1000)(h:rndP l t.length l.length):FnA Try.prog 35 [.isl (l.map fAV), .int .i64 ((t.map jAV).length:Nat)] (· = .bool true):=by
 have:=n35 l t.length (by omega)
 rw[decide_eq_true h]at this
 rw[List.length_map];exact this
theorem isTk_iff{t:List Int}:isTk t=true<->tk t/\t.length<=7:=by
 simp only[isTk,Bool.and_eq_true,decide_eq_true_eq]
 exact⟨fun h=>⟨tk_of h.1,h.2⟩,fun h=>⟨tk_to h.1,h.2⟩⟩
theorem k13(P:Prg)(t:List Int)(ht:t.length<=1000000):FnA Try.prog 13 [.isl (t.map jAV)] (· = .bool true):=by
 have e0:=n17 P
 have lT:(t.map jAV).length=t.length:=by simp
 refine fnA 8 ok13 (by simp) ?_
 by_cases h40:t.length>40
 ·(conv=>whnf);(repeat'((first|apply bT|apply bF|apply bN|((first|apply bD|apply bEq|apply bNe)<;>intro hh<;>try(exfalso;omega))|refine e0.cq rfl rfl ?_|refine wJ ?_|refine nJ ?_)<;>conv=>whnf))
  all_goals rfl
 ·have e1:=P.swaps t (by omega)
  have e2:=n47 t ht
  have e3:=P.exch t (by omega)
  have e4:=P.rounds t (by omega)
  have e5:=n37 t t ht ht
  rw[decide_eq_true rfl]at e5
  cases hk:isTk t<;>rw[hk]at e1 e2
  ·rw[if_neg (by simp),if_neg (by simp)]at e1 e2
   (conv=>whnf);(repeat'((first|apply bT|apply bF|apply bN|((first|apply bD|apply bEq|apply bNe)<;>intro hh<;>try(exfalso;omega))|(refine apI (j_one t) (by simp only[List.length_nil,lT];omega) ?_)|refine e1.lq rfl rfl ?_|refine e2.cq rfl rfl ?_|refine wJ ?_|refine nJ ?_)<;>conv=>whnf))
   refine e3.callzq rfl rfl (fun r hr=>?_)
   obtain⟨a,e,rfl,hex⟩:=hr
   rw[ExOk,hk,if_neg (by simp)]at hex
   obtain⟨rfl,rfl⟩:=hex
   (conv=>whnf);(repeat'((first|apply bT|apply bF|apply bN|((first|apply bD|apply bEq|apply bNe)<;>intro hh<;>try(exfalso;omega))|refine wJ ?_|refine nJ ?_)<;>conv=>whnf))
   refine e4.callzq rfl rfl (fun r hr=>?_)
   obtain⟨b,d,e,rfl,hrn⟩:=hr
   rw[RndOk,hk,if_neg (by simp)]at hrn
   obtain⟨rfl,rfl,rfl⟩:=hrn
   have l0:(([]:List (List Int)).map fAV).length=0:=rfl
   (conv=>whnf);(repeat'((first|apply bT|apply bF|apply bN|((first|apply bD|apply bEq|apply bNe)<;>intro hh<;>try(exfalso;omega))|refine e5.lq rfl rfl ?_|refine e0.cq rfl rfl ?_|refine wJ ?_|refine nJ ?_)<;>conv=>whnf))
   all_goals rfl
  ·obtain⟨htk,h7⟩:=isTk_iff.1 hk
   rw[if_pos rfl,if_pos rfl]at e1 e2
   (conv=>whnf);(repeat'((first|apply bT|apply bF|apply bN|((first|apply bD|apply bEq|apply bNe)<;>intro hh<;>try(exfalso;omega))|(refine apI (j_one t) (by simp only[List.length_nil,lT];omega) ?_)|refine e1.lq rfl rfl ?_|refine e2.cq rfl rfl ?_|refine wJ ?_|refine nJ ?_)<;>conv=>whnf))
   refine e3.callzq rfl rfl (fun r hr=>?_)
   obtain⟨a,e,rfl,hex⟩:=hr
   rw[ExOk,hk,if_pos rfl]at hex
   obtain⟨rfl,hal,hap,har⟩:=hex
   (conv=>whnf);(repeat'((first|apply bT|apply bF|apply bN|((first|apply bD|apply bEq|apply bNe)<;>intro hh<;>try(exfalso;omega))|refine wJ ?_|refine nJ ?_)<;>conv=>whnf))
   refine e4.callzq rfl rfl (fun r hr=>?_)
   obtain⟨b,d,e,rfl,hrn⟩:=hr
   rw[RndOk,hk,if_pos rfl]at hrn
   obtain⟨rfl,hb,hd,hbr,hdr,hright⟩:=hrn
   have hnl:=need_le t
   have f1:=n32y t a ht (by omega) hap
   have f2:=n30 (aft t a a.length) (by rw[aft_len];exact ht)
   rw[aft_len,decide_eq_true har]at f2
   have f3:=n35y t b (by omega) hbr
   have f4:=n35y t d (by omega) hdr
   have f5:=n32y t b ht (by omega) (rnd_prs hbr)
   have f6:=n32y (aft t b b.length) d (by rw[aft_len];exact ht) (by omega) (by rw[aft_len];exact rnd_prs hdr)
   have f7:=n30 (aft (aft t b b.length) d d.length) (by rw[aft_len,aft_len];exact ht)
   rw[aft_len,aft_len,decide_eq_true hright]at f7
   have lA:(a.map fAV).length=a.length:=by simp
   have lb:(b.map fAV).length=b.length:=by simp
   have ld:(d.map fAV).length=d.length:=by simp
   (conv=>whnf);(repeat'((first|apply bT|apply bF|apply bN|((first|apply bD|apply bEq|apply bNe)<;>intro hh<;>try(exfalso;omega))|refine e5.lq rfl rfl ?_|refine f1.zq rfl rfl ?_|refine f2.cq rfl rfl ?_|refine f3.cq rfl rfl ?_|refine f4.cq rfl rfl ?_|refine f5.zq rfl rfl ?_|refine f6.zq rfl rfl ?_|refine f7.cq rfl rfl ?_|refine e0.cq rfl rfl ?_|refine wJ ?_|refine nJ ?_)<;>conv=>whnf))
   all_goals rfl
theorem swaps_y(P:Prg){t:List Int}(h:tk t)(h7:t.length<=7):FnA Try.prog 29 [.isl (t.map jAV)] (· = .tup [.int .i64 (need t), .int .i64 0]):=by
 have:=P.swaps t (by omega)
 rw[if_pos (isTk_iff.2 ⟨h,h7⟩),if_pos (isTk_iff.2 ⟨h,h7⟩)]at this;exact this
theorem k8(P:Prg)(t:List Int)(ht:t.length<=1000000):FnA Try.prog 8 [.isl (t.map jAV)] (· = .bool true):=by
 have e0:=n17 P
 have lT:(t.map jAV).length=t.length:=by simp
 have e1:=n28 t ht
 refine fnA 5 ok8 (by simp) ?_
 by_cases h20:t.length>20
 ·(conv=>whnf);(repeat'((first|apply bT|apply bF|apply bN|((first|apply bD|apply bEq|apply bNe)<;>intro hh<;>try(exfalso;omega))|refine e0.cq rfl rfl ?_|refine wJ ?_|refine nJ ?_)<;>conv=>whnf))
  all_goals rfl
 ·cases hk:isTk t<;>rw[hk]at e1
  ·(conv=>whnf);(repeat'((first|apply bT|apply bF|apply bN|((first|apply bD|apply bEq|apply bNe)<;>intro hh<;>try(exfalso;omega))|refine e1.cq rfl rfl ?_|refine e0.cq rfl rfl ?_|refine wJ ?_|refine nJ ?_)<;>conv=>whnf))
   all_goals rfl
  ·obtain⟨htk,h7⟩:=isTk_iff.1 hk
   have e4:=P.rounds t (by omega)
   (conv=>whnf);(repeat'((first|apply bT|apply bF|apply bN|((first|apply bD|apply bEq|apply bNe)<;>intro hh<;>try(exfalso;omega))|refine e1.cq rfl rfl ?_|refine wJ ?_|refine nJ ?_)<;>conv=>whnf))
   refine e4.callzq rfl rfl (fun r hr=>?_)
   obtain⟨b,d,e,rfl,hrn⟩:=hr
   rw[RndOk,hk,if_pos rfl]at hrn
   obtain⟨rfl,hb,hd,hbr,hdr,hright⟩:=hrn
   have lb:=bkL_len t t.length
   have htb:=bkL_tk htk
   have f3:=n35y t b (by omega) hbr
   have f4:=n35y t d (by omega) hdr
   have f5:=n33 t ht htk
   have f6:=n32y (bkL t t.length) d (by omega) (by omega) (by rw[lb];exact rnd_prs hdr)
   have f7:=n32y (aft (bkL t t.length) d d.length) b (by rw[aft_len];omega) (by omega) (by rw[aft_len,lb];exact rnd_prs hbr)
   have f8:=n30 (aft (aft (bkL t t.length) d d.length) b b.length) (by rw[aft_len,aft_len];omega)
   rw[aft_len,aft_len,lb,decide_eq_true (back_right htk htb lb (bkL_fn htk) hbr hdr hright)]at f8
   (conv=>whnf);(repeat'((first|apply bT|apply bF|apply bN|((first|apply bD|apply bEq|apply bNe)<;>intro hh<;>try(exfalso;omega))|refine f3.cq rfl rfl ?_|refine f4.cq rfl rfl ?_|refine f5.zq rfl rfl ?_|refine f6.zq rfl rfl ?_|refine f7.zq rfl rfl ?_|refine f8.cq rfl rfl ?_|refine e0.cq rfl rfl ?_|refine wJ ?_|refine nJ ?_)<;>conv=>whnf))
   all_goals rfl
theorem mm7{x tl n:Nat}(h:(if true=true then max 0 ((x:Int)-1) else min 0 ((x:Int)-1))<(n:Int))(h1:x=tl)(h2:n=0\/n<tl)(h3:n≠0):False:=by
 rw[if_pos rfl]at h
 omega
theorem mm_no{a n:Int}(h:(if true=true then max 0 (a-1) else min 0 (a-1))<n)(h1:n=0\/n<a)(h2:0<=a)(h3:0<=n):False:=by
 rw[if_pos rfl]at h
 omega
set_option maxHeartbeats 1000000 in
theorem k7(P:Prg)(t:List Int)(ht:t.length<=1000000)(A B:Int)(l:List (List Int))(hl:l.length<=1000000):FnA Try.prog 7 [.isl (t.map jAV), .agg [.int .i64 A, .int .i64 B], .isl (l.map fAV)] (· = .bool true):=by
 have e0:=n17 P
 have lT:(t.map jAV).length=t.length:=by simp
 have lL:(l.map fAV).length=l.length:=by simp
 have e1:=n28 t ht
 refine fnA 4 ok7 (by simp) ?_
 by_cases h20:t.length>20\/l.length>20
 ·(conv=>whnf);(repeat'((first|apply bT|apply bF|apply bN|((first|apply bD|apply bEq|apply bNe)<;>intro hh<;>try(exfalso;omega))|refine e0.cq rfl rfl ?_|refine wJ ?_|refine nJ ?_)<;>conv=>whnf))
  all_goals rfl
 ·cases hk:isTk t<;>rw[hk]at e1
  ·(conv=>whnf);(repeat'((first|apply bT|apply bF|apply bN|((first|apply bD|apply bEq|apply bNe)<;>intro hh<;>try(exfalso;omega))|refine e1.cq rfl rfl ?_|refine e0.cq rfl rfl ?_|refine wJ ?_|refine nJ ?_)<;>conv=>whnf))
   all_goals rfl
  ·obtain⟨htk,h7⟩:=isTk_iff.1 hk
   have e2:=swaps_y P htk h7
   have e3:=n30 t ht
   have hnl:=need_le t
   have hn0:=need_zero htk
   have hnlt:need t=0\/need t<t.length:=by
    by_cases h:0<t.length
    ·exact Or.inr (need_lt htk h)
    ·left;omega
   have lb:=bkL_len t t.length
   have f1:=n33 t ht htk
   have f2:=swaps_y P (bkL_tk htk) (by omega)
   rw[need_back htk lb (bkL_fn htk)]at f2
   have f3:=n32 t l ht hl
   have hex:∃(X:List Int) (pr rt:Bool),FnA Try.prog 32 [.isl (t.map jAV), .isl (l.map fAV)] (· = .tup [.isl (X.map jAV), .bool pr])/\FnA Try.prog 30 [.isl (X.map jAV)] (· = .bool rt)/\(pr=true->rt=true->need t<=l.length):=by
    by_cases hp:prsP l t.length l.length
    ·rw[if_pos hp,decide_eq_true hp]at f3
     have f4:=n30 (aft t l l.length) (by rw[aft_len];exact ht)
     refine⟨aft t l l.length,true,decide (rightP (aft t l l.length) (aft t l l.length).length),f3,f4,fun _ hr=>?_⟩
     have:=of_decide_eq_true hr
     rw[aft_len]at this
     exact aft_right htk hp this
    ·rw[if_neg hp,decide_eq_false hp]at f3
     exact⟨[],false,decide (rightP [] 0),f3,n30 [] (by simp),fun h=>by cases h⟩
   obtain⟨X,pr,rt,g1,g2,g3⟩:=hex
   have hpair:(0<=A/\A<t.length/\0<=B/\B<t.length/\A≠B)->∃(Y:List Int) (m:Nat),FnA Try.prog 31 [.isl (t.map jAV), .int .i64 A, .int .i64 B] (· = .isl (Y.map jAV))/\FnA Try.prog 29 [.isl (Y.map jAV)] (· = .tup [.int .i64 m, .int .i64 0])/\(m+1=need t\/m=need t+1):=fun hp=>by
    have x1:=n31 t ht A.toNat B.toNat (by omega) (by omega)
    rw[Int.toNat_of_nonneg hp.1,Int.toNat_of_nonneg hp.2.2.1]at x1
    refine⟨_,_,x1,swaps_y P (swL_tk htk (by omega) (by omega)) (by rw[swL_len];exact h7),need_sw htk (by omega) (by omega) (by omega)⟩
   by_cases hr:rightP t t.length
   ·rw[decide_eq_true hr]at e3
    have hz:=hn0.2 hr
    rw[hz]at e2 f2 g3 hpair
    by_cases hp:0<=A/\A<t.length/\0<=B/\B<t.length/\A≠B
    ·obtain⟨Y,m,y1,y2,y3⟩:=hpair hp
     cases pr<;>cases rt<;>((conv=>whnf);(repeat'((first|apply bT|apply bF|apply bN|((first|apply bD|apply bEq|apply bNe)<;>intro hh<;>try(exfalso;omega))|refine e1.cq rfl rfl ?_|refine e2.cq rfl rfl ?_|refine e3.cq rfl rfl ?_|refine y1.zq rfl rfl ?_|refine y2.cq rfl rfl ?_|refine g1.zq rfl rfl ?_|refine g2.cq rfl rfl ?_|refine f1.zq rfl rfl ?_|refine f2.cq rfl rfl ?_|refine e0.cq rfl rfl ?_|refine wJ ?_|refine nJ ?_)<;>conv=>whnf)))<;>first|rfl|(exfalso;exact mm_no hh (by omega) (by omega) (by omega))
    ·cases pr<;>cases rt<;>((conv=>whnf);(repeat'((first|apply bT|apply bF|apply bN|((first|apply bD|apply bEq|apply bNe)<;>intro hh<;>try(exfalso;omega))|refine e1.cq rfl rfl ?_|refine e2.cq rfl rfl ?_|refine e3.cq rfl rfl ?_|refine g1.zq rfl rfl ?_|refine g2.cq rfl rfl ?_|refine f1.zq rfl rfl ?_|refine f2.cq rfl rfl ?_|refine e0.cq rfl rfl ?_|refine wJ ?_|refine nJ ?_)<;>conv=>whnf)))<;>first|rfl|(exfalso;exact mm_no hh (by omega) (by omega) (by omega))
   ·rw[decide_eq_false hr]at e3
    have hz:need t≠0:=fun h=>hr (hn0.1 h)
    generalize need t=n at *
    by_cases hp:0<=A/\A<t.length/\0<=B/\B<t.length/\A≠B
    ·obtain⟨Y,m,y1,y2,y3⟩:=hpair hp
     cases pr<;>cases rt<;>(try have g4:=g3 rfl rfl)<;>((conv=>whnf);(repeat'((first|apply bT|apply bF|apply bN|((first|apply bD|apply bEq|apply bNe)<;>intro hh<;>try(exfalso;omega))|refine e1.cq rfl rfl ?_|refine e2.cq rfl rfl ?_|refine e3.cq rfl rfl ?_|refine y1.zq rfl rfl ?_|refine y2.cq rfl rfl ?_|refine g1.zq rfl rfl ?_|refine g2.cq rfl rfl ?_|refine f1.zq rfl rfl ?_|refine f2.cq rfl rfl ?_|refine e0.cq rfl rfl ?_|refine wJ ?_|refine nJ ?_)<;>conv=>whnf)))<;>first|rfl|(exfalso;exact hh (by rw[beq_eq_false_iff_ne];omega))|(exfalso;exact mm7 hh lT hnlt hz)
    ·cases pr<;>cases rt<;>(try have g4:=g3 rfl rfl)<;>((conv=>whnf);(repeat'((first|apply bT|apply bF|apply bN|((first|apply bD|apply bEq|apply bNe)<;>intro hh<;>try(exfalso;omega))|refine e1.cq rfl rfl ?_|refine e2.cq rfl rfl ?_|refine e3.cq rfl rfl ?_|refine g1.zq rfl rfl ?_|refine g2.cq rfl rfl ?_|refine f1.zq rfl rfl ?_|refine f2.cq rfl rfl ?_|refine e0.cq rfl rfl ?_|refine wJ ?_|refine nJ ?_)<;>conv=>whnf)))<;>first|rfl|(exfalso;exact hh (by rw[beq_eq_false_iff_ne];omega))|(exfalso;exact mm7 hh lT hnlt hz)
theorem p86(n a b:Int):FnA Try.prog 86 [.int .i64 n, .int .i64 a, .int .i64 b] (· = .bool (decide (a<=n/\n<=b))):=by
 refine fnA 0 ok86 (by simp) ?_
 (conv=>whnf);(repeat'((first|apply bT|apply bF|apply bN|((first|apply bD|apply bEq|apply bNe)<;>intro hh<;>try(exfalso;omega))|refine wJ ?_|refine nJ ?_)<;>conv=>whnf))
 all_goals first|rfl|exact congrArg AV.bool (decide_eq_decide.2 (by omega))|exact congrArg AV.bool (decide_eq_true (by omega)).symm|exact congrArg AV.bool (decide_eq_false (by omega)).symm
theorem p97(l:List Int)(x:Int)(hl:l.length<=1000000):FnA Try.prog 97 [.isl (l.map jAV), .int .i64 x] (fun r=>∃i:Int,r = .int .i64 i/\decide (0<=i)=decide (x∈l)):=by
 have hL:(l.map jAV).length=l.length:=by simp
 refine fnA 0 ok97 (by simp) ?_
 (conv=>whnf);(repeat'((first|apply bT|apply bF|apply bN|((first|apply bD|apply bEq|apply bNe)<;>intro hh<;>try(exfalso;omega))|refine wJ ?_|refine nJ ?_)<;>conv=>whnf))
 refine loop_i (α :=Nat) (fun k=>[(8, .int .i64 k),(1, .int .i64 x),(0, .isl (l.map jAV)),(7, .int .i64 l.length)]) (fun k=>[]) (fun k=>k<=l.length/\∀b∈l.take k,decide (b=x)=false) (fun k=>l.length-k) 0 (by rw[<- hL];exact mI) ⟨by omega,by simp⟩ ?_
 rintro k ⟨h1,h2⟩
 conv=>whnf
 refine bD (fun h3=>?_) (fun h3=>?_)
 ·have hk:k<l.length:=by omega
  by_cases hx:l[k]=x
  ·(conv=>whnf);(repeat'((first|apply bT|apply bF|apply bN|((first|apply bD|apply bEq|apply bNe)<;>intro hh<;>try(exfalso;omega))|refine iaJ (getM jAV l k hk) ?_|refine wJ ?_|refine nJ ?_)<;>conv=>whnf))
   all_goals exact⟨(k:Int),rfl,by rw[decide_eq_true (show(0:Int)<=(k:Int) by omega),decide_eq_true (by rw[<- hx];exact List.getElem_mem hk)]⟩
  ·(conv=>whnf);(repeat'((first|apply bT|apply bF|apply bN|((first|apply bD|apply bEq|apply bNe)<;>intro hh<;>try(exfalso;omega))|refine iaJ (getM jAV l k hk) ?_|refine wJ ?_|refine nJ ?_)<;>conv=>whnf))
   exact⟨k+1,mI,⟨by omega,take_none hk h2 (decide_eq_false hx)⟩,by omega⟩
 ·have:k=l.length:=by omega
  subst this
  rw[List.take_length]at h2
  (conv=>whnf);(repeat'((first|apply bT|apply bF|apply bN|((first|apply bD|apply bEq|apply bNe)<;>intro hh<;>try(exfalso;omega))|refine wJ ?_|refine nJ ?_)<;>conv=>whnf))
  all_goals exact⟨-1,rfl,by rw[decide_eq_false (show ¬(0:Int) <= -1 by omega),decide_eq_false (fun h=>by have:=h2 x h;simp at this)]⟩
theorem p82(l:List Int)(x:Int)(hl:l.length<=1000000):FnA Try.prog 82 [.isl (l.map jAV), .int .i64 x] (· = .bool (decide (x∈l))):=by
 have e1:=p97 l x hl
 refine fnA 0 ok82 (by simp) ?_
 conv=>whnf
 refine e1.callq rfl rfl (fun r hr=>?_)
 obtain⟨i,rfl,hi⟩:=hr
 rw[<- hi]
 (conv=>whnf);(repeat'((first|apply bT|apply bF|apply bN|((first|apply bD|apply bEq|apply bNe)<;>intro hh<;>try(exfalso;omega))|refine wJ ?_|refine nJ ?_)<;>conv=>whnf))
 all_goals first|rfl|exact congrArg AV.bool (decide_eq_decide.2 (by omega))|exact congrArg AV.bool (decide_eq_true (by omega)).symm|exact congrArg AV.bool (decide_eq_false (by omega)).symm
theorem p57(s:Stand)(n:Int)(hs:0<=s.gs/\s.gs<=100):FnA Try.prog 57 [.agg s.cells, .int .i64 n] (· = .bool (isG s n)):=by
 have e1:=p86 n 0 (s.gs-1)
 rw[show decide (0<=n/\n<=s.gs-1)=isG s n from decide_eq_decide.2 (by omega)]at e1
 refine fnA 1 ok57 (by simp) ?_
 (conv=>whnf);(repeat'((first|apply bT|apply bF|apply bN|((first|apply bD|apply bEq|apply bNe)<;>intro hh<;>try(exfalso;omega))|refine e1.cq rfl rfl ?_|refine wJ ?_|refine nJ ?_)<;>conv=>whnf))
 all_goals rfl
theorem p68(s:Stand):FnA Try.prog 68 [.agg s.cells] (· = .bool (decide (0<=s.gs/\s.gs<=7/\0<=s.wr/\s.wr<=7))):=by
 have e1:=p86 s.gs 0 7
 have e2:=p86 s.wr 0 7
 refine fnA 1 ok68 (by simp) ?_
 by_cases h1:0<=s.gs/\s.gs<=7
 ·rw[decide_eq_true h1]at e1
  (conv=>whnf);(repeat'((first|apply bT|apply bF|apply bN|((first|apply bD|apply bEq|apply bNe)<;>intro hh<;>try(exfalso;omega))|refine e1.cq rfl rfl ?_|refine e2.cq rfl rfl ?_|refine wJ ?_|refine nJ ?_)<;>conv=>whnf))
  all_goals first|rfl|exact congrArg AV.bool (decide_eq_decide.2 (by omega))|exact congrArg AV.bool (decide_eq_true (by omega)).symm|exact congrArg AV.bool (decide_eq_false (by omega)).symm
 ·rw[decide_eq_false h1]at e1
  (conv=>whnf);(repeat'((first|apply bT|apply bF|apply bN|((first|apply bD|apply bEq|apply bNe)<;>intro hh<;>try(exfalso;omega))|refine e1.cq rfl rfl ?_|refine e2.cq rfl rfl ?_|refine wJ ?_|refine nJ ?_)<;>conv=>whnf))
  all_goals exact congrArg AV.bool (decide_eq_false fun h=>h1 ⟨h.1,h.2.1⟩).symm
def riB(gs:Int)(l:List Int)(k:Nat):Int:=if k=0 then -1 else l.getD (k-1) 0
theorem p102(s:Stand)(l:List Int)(hs:0<=s.gs/\s.gs<=100)(hl:l.length<=1000000):FnA Try.prog 102 [.agg s.cells, .isl (l.map jAV)] (· = .bool (decide (riseP s l l.length))):=by
 have hL:(l.map jAV).length=l.length:=by simp
 refine fnA 1 ok102 (by simp) ?_
 (conv=>whnf);(repeat'((first|apply bT|apply bF|apply bN|((first|apply bD|apply bEq|apply bNe)<;>intro hh<;>try(exfalso;omega))|refine wJ ?_|refine nJ ?_)<;>conv=>whnf))
 refine loop_i (α :=Nat) (fun k=>[(10, .int .i64 k),(5, .int .i64 (riB s.gs l k)),(8, .isl (l.map jAV)),(2, .own 0 0),(9, .int .i64 (l.map jAV).length)]) (fun k=>[.box false s.cells]) (fun k=>k<=l.length/\riseP s l k) (fun k=>l.length-k) 0 mI ⟨by omega,fun i hi=>by omega⟩ ?_
 rintro k ⟨h5,h6⟩
 conv=>whnf
 refine bD (fun h7=>?_) (fun h7=>?_)
 ·have hk:k<l.length:=by omega
  have g1:=getJ l k hk
  have hb : -1<=riB s.gs l k/\riB s.gs l k<100:=by
   unfold riB;split
   ·omega
   ·have:=(h6 (k-1) (by omega)).1;omega
  have hn:riB s.gs l (k+1)=l.getD k 0:=by simp[riB]
  have e3:=p86 (l.getD k 0) (riB s.gs l k+1) (s.gs-1)
  by_cases h8:riB s.gs l k+1<=l.getD k 0/\l.getD k 0<=s.gs-1
  ·rw[decide_eq_true h8]at e3
   (conv=>whnf);(repeat'((first|apply bT|apply bF|apply bN|((first|apply bD|apply bEq|apply bNe)<;>intro hh<;>try(exfalso;omega))|refine iaJ g1 ?_|refine e3.cq rfl rfl ?_|refine wJ ?_|refine nJ ?_)<;>conv=>whnf))
   refine⟨k+1,by rw[hn];exact mI,⟨by omega,fun i hi=>?_⟩,by omega⟩
   by_cases h12:i=k
   ·subst h12
    refine⟨by omega,fun h=>?_⟩
    have:riB s.gs l i=l.getD (i-1) 0:=by rw[riB,if_neg (by omega)]
    omega
   ·exact h6 i (by omega)
  ·rw[decide_eq_false h8]at e3
   rw[decide_eq_false fun h:riseP s l l.length=>h8 (by
    have:=h k hk
    unfold riB;split
    ·omega
    ·have:=this.2 (by omega);omega)]
   (conv=>whnf);(repeat'((first|apply bT|apply bF|apply bN|((first|apply bD|apply bEq|apply bNe)<;>intro hh<;>try(exfalso;omega))|refine iaJ g1 ?_|refine e3.cq rfl rfl ?_|refine wJ ?_|refine nJ ?_)<;>conv=>whnf))
   all_goals rfl
 ·have:k=l.length:=by omega
  subst this
  rw[decide_eq_true h6]
  (conv=>whnf);(repeat'((first|apply bT|apply bF|apply bN|((first|apply bD|apply bEq|apply bNe)<;>intro hh<;>try(exfalso;omega))|refine wJ ?_|refine nJ ?_)<;>conv=>whnf))
  all_goals rfl
theorem p95(s:Stand)(w:Word)(hs:0<=s.gs/\s.gs<=100)(hl:w.am.length<=1000000):FnA Try.prog 95 [.agg s.cells, .agg w.av] (· = .bool (isWo s w)):=by
 have hL:(w.am.map jAV).length=w.am.length:=by simp
 have e1:=p57 s w.g hs
 have e2:=p57 s w.o hs
 have e3:=p102 s w.am hs hl
 unfold isWo
 refine fnA 2 ok95 (by simp) ?_
 cases h1:isG s w.g<;>rw[h1]at e1
 ·(conv=>whnf);(repeat'((first|apply bT|apply bF|apply bN|((first|apply bD|apply bEq|apply bNe)<;>intro hh<;>try(exfalso;omega))|refine e1.cq rfl rfl ?_|refine wJ ?_|refine nJ ?_)<;>conv=>whnf))
  all_goals rfl
 ·cases h2:isG s w.o<;>rw[h2]at e2
  ·(conv=>whnf);(repeat'((first|apply bT|apply bF|apply bN|((first|apply bD|apply bEq|apply bNe)<;>intro hh<;>try(exfalso;omega))|refine e1.cq rfl rfl ?_|refine e2.cq rfl rfl ?_|refine wJ ?_|refine nJ ?_)<;>conv=>whnf))
   all_goals rfl
  ·by_cases h3:w.k=3\/w.k=4
   ·rw[if_pos h3]
    simp only[Bool.true_and]
    (conv=>whnf);(repeat'((first|apply bT|apply bF|apply bN|((first|apply bD|apply bEq|apply bNe)<;>intro hh<;>try(exfalso;omega))|refine e1.cq rfl rfl ?_|refine e2.cq rfl rfl ?_|refine wJ ?_|refine nJ ?_)<;>conv=>whnf))
    all_goals first
     |exact congrArg AV.bool (decide_eq_false fun h=>by omega).symm
     |exact congrArg AV.bool (decide_eq_decide.2 (by omega))
     |exact congrArg AV.bool (by rw[Bool.eq_iff_iff,beq_iff_eq,decide_eq_true_eq];omega)
   ·rw[if_neg h3]
    by_cases h4:(w.k=1\/w.k=2)/\w.am.length≠0/\w.o=0
    ·rw[decide_eq_true h4]
     simp only[Bool.true_and]
     (conv=>whnf);(repeat'((first|apply bT|apply bF|apply bN|((first|apply bD|apply bEq|apply bNe)<;>intro hh<;>try(exfalso;omega))|refine e1.cq rfl rfl ?_|refine e2.cq rfl rfl ?_|refine e3.cq rfl rfl ?_|refine wJ ?_|refine nJ ?_)<;>conv=>whnf))
     all_goals rfl
    ·rw[decide_eq_false h4]
     simp only[Bool.true_and,Bool.false_and]
     (conv=>whnf);(repeat'((first|apply bT|apply bF|apply bN|((first|apply bD|apply bEq|apply bNe)<;>intro hh<;>try(exfalso;omega))|refine e1.cq rfl rfl ?_|refine e2.cq rfl rfl ?_|refine e3.cq rfl rfl ?_|refine wJ ?_|refine nJ ?_)<;>conv=>whnf))
     all_goals first
      |rfl
      |exact congrArg AV.bool (decide_eq_false (by omega))
theorem all_no{α : Type}{l:List α}{p : α -> Bool}{k:Nat}(hk:k<l.length)(hx:p l[k]=false):l.all p=false:=by
 rw[List.all_eq_false];exact⟨_,List.getElem_mem hk,by simp[hx]⟩
theorem all_ok{α : Type}{l:List α}{p : α -> Bool}(h:∀x∈l,p x=true):l.all p=true:=List.all_eq_true.2 h
theorem p94(s:Stand)(w:Word)(hs:0<=s.gs/\s.gs<=100)(hl:w.am.length<=1000000):FnA Try.prog 94 [.agg w.av, .ipt s.cells] (· = .bool (isWo s w)):=by
 have e1:=p95 s w hs hl
 refine fnA 1 ok94 (by simp) ?_
 (conv=>whnf);(repeat'((first|apply bT|apply bF|apply bN|((first|apply bD|apply bEq|apply bNe)<;>intro hh<;>try(exfalso;omega))|refine e1.cq rfl rfl ?_|refine wJ ?_|refine nJ ?_)<;>conv=>whnf))
 all_goals rfl
theorem p93(s:Stand)(hs:0<=s.gs/\s.gs<=100)(hl:s.ws.length<=1000000)(hw:∀w∈s.ws,w.am.length<=1000000):FnA Try.prog 93 [.isl (s.ws.map Word.av), .fn 94 [.ipt s.cells]] (· = .bool (s.ws.all (isWo s))):=by
 have hL:(s.ws.map Word.av).length=s.ws.length:=by simp
 refine fnA 1 ok93 (by simp) ?_
 (conv=>whnf);(repeat'((first|apply bT|apply bF|apply bN|((first|apply bD|apply bEq|apply bNe)<;>intro hh<;>try(exfalso;omega))|refine wJ ?_|refine nJ ?_)<;>conv=>whnf))
 refine loop_i (α :=Nat) (fun k=>[(9, .int .i64 k),(8, .int .i64 ↑(s.ws.map Word.av).length),(7, .isl (s.ws.map Word.av)),(1, .fn 94 [.ipt s.cells])]) (fun k=>[.fresh]) (fun k=>k<=s.ws.length/\∀b∈s.ws.take k,isWo s b=true) (fun k=>s.ws.length-k) 0 mI ⟨by omega,by simp⟩ ?_
 rintro k ⟨h1,h2⟩
 conv=>whnf
 refine bD (fun h3=>?_) (fun h3=>?_)
 ·have hk:k<s.ws.length:=by omega
  have hv:FnV Try.prog (.fn 94 [.ipt s.cells]) [.agg s.ws[k].av] (· = .bool (isWo s s.ws[k])):=fnV_of bd94 (p94 s s.ws[k] hs (hw _ (List.getElem_mem hk)))
  cases hx:isWo s s.ws[k]with
  |true=>
   rw[hx]at hv
   (conv=>whnf);(repeat'((first|apply bT|apply bF|apply bN|((first|apply bD|apply bEq|apply bNe)<;>intro hh<;>try(exfalso;omega))|refine iaJ (getM Word.av s.ws k hk) ?_|(refine hv.vcallq rfl rfl rfl rfl (fun r (hr:r=_)=>?_);subst hr)|refine wJ ?_|refine nJ ?_)<;>conv=>whnf))
   exact⟨k+1,mI,⟨by omega,take_all hk h2 hx⟩,by omega⟩
  |false=>
   rw[hx]at hv
   rw[all_no hk hx]
   (conv=>whnf);(repeat'((first|apply bT|apply bF|apply bN|((first|apply bD|apply bEq|apply bNe)<;>intro hh<;>try(exfalso;omega))|refine iaJ (getM Word.av s.ws k hk) ?_|(refine hv.vcallq rfl rfl rfl rfl (fun r (hr:r=_)=>?_);subst hr)|refine wJ ?_|refine nJ ?_)<;>conv=>whnf))
   all_goals rfl
 ·have:k=s.ws.length:=by omega
  subst this
  rw[List.take_length]at h2
  rw[all_ok h2]
  (conv=>whnf);(repeat'((first|apply bT|apply bF|apply bN|((first|apply bD|apply bEq|apply bNe)<;>intro hh<;>try(exfalso;omega))|refine wJ ?_|refine nJ ?_)<;>conv=>whnf))
  all_goals rfl
theorem p69(s:Stand)(hs:0<=s.gs/\s.gs<=100)(hl:s.ws.length<=1000000)(hw:∀w∈s.ws,w.am.length<=1000000):FnA Try.prog 69 [.agg s.cells] (· = .bool (decide (s.ws.length<=20)&&s.ws.all (isWo s))):=by
 have hL:(s.ws.map Word.av).length=s.ws.length:=by simp
 have e1:=p93 s hs hl hw
 refine fnA 1 ok69 (by simp) ?_
 by_cases h1:s.ws.length<=20
 ·rw[decide_eq_true h1,Bool.true_and]
  (conv=>whnf);(repeat'((first|apply bT|apply bF|apply bN|((first|apply bD|apply bEq|apply bNe)<;>intro hh<;>try(exfalso;omega))|refine e1.lq rfl rfl ?_|refine wJ ?_|refine nJ ?_)<;>conv=>whnf))
  all_goals rfl
 ·rw[decide_eq_false h1,Bool.false_and]
  (conv=>whnf);(repeat'((first|apply bT|apply bF|apply bN|((first|apply bD|apply bEq|apply bNe)<;>intro hh<;>try(exfalso;omega))|refine e1.lq rfl rfl ?_|refine wJ ?_|refine nJ ?_)<;>conv=>whnf))
  all_goals rfl
theorem chk_val(s:Stand):s.chk=if (0<=s.gs/\s.gs<=7/\0<=s.wr/\s.wr<=7) then(if (decide (s.ws.length<=20)&&s.ws.all (isWo s))=true then 0 else 101) else 100:=by
 unfold Stand.chk
 by_cases h:0<=s.gs/\s.gs<=7/\0<=s.wr/\s.wr<=7
 ·rw[if_neg (by omega),if_pos h]
  by_cases h2:s.ws.length<=20
  ·rw[if_neg (by omega),decide_eq_true h2,Bool.true_and]
  ·rw[if_pos (by omega),decide_eq_false h2,Bool.false_and,if_neg (by simp)]
 ·rw[if_pos (by omega),if_neg h]
theorem p38(s:Stand)(hl:s.ws.length<=1000000)(hw:∀w∈s.ws,w.am.length<=1000000):FnA Try.prog 38 [.agg s.cells] (· = .int .i64 s.chk):=by
 have e1:=p68 s
 rw[chk_val]
 refine fnA 1 ok38 (by simp) ?_
 by_cases h1:0<=s.gs/\s.gs<=7/\0<=s.wr/\s.wr<=7
 ·rw[decide_eq_true h1]at e1
  rw[if_pos h1]
  have e2:=p69 s (by omega) hl hw
  cases h2:(decide (s.ws.length<=20)&&s.ws.all (isWo s))<;>rw[h2]at e2
  ·(conv=>whnf);(repeat'((first|apply bT|apply bF|apply bN|((first|apply bD|apply bEq|apply bNe)<;>intro hh<;>try(exfalso;omega))|refine e1.cq rfl rfl ?_|refine e2.cq rfl rfl ?_|refine wJ ?_|refine nJ ?_)<;>conv=>whnf))
   all_goals rfl
  ·(conv=>whnf);(repeat'((first|apply bT|apply bF|apply bN|((first|apply bD|apply bEq|apply bNe)<;>intro hh<;>try(exfalso;omega))|refine e1.cq rfl rfl ?_|refine e2.cq rfl rfl ?_|refine wJ ?_|refine nJ ?_)<;>conv=>whnf))
   all_goals rfl
 ·rw[decide_eq_false h1]at e1
  rw[if_neg h1]
  (conv=>whnf);(repeat'((first|apply bT|apply bF|apply bN|((first|apply bD|apply bEq|apply bNe)<;>intro hh<;>try(exfalso;omega))|refine e1.cq rfl rfl ?_|refine wJ ?_|refine nJ ?_)<;>conv=>whnf))
  all_goals rfl
def soN(w:Word):FuncId:=if w.k=1 then 81 else if w.k=2 then 83 else if w.k=3 then 84 else 85
def soAV(w:Word):AV:=.fn (soN w) [.ipt w.av]
def sAV(w:Word):List AV:=[soAV w]
theorem p56(w:Word):FnA Try.prog 56 [.agg w.av] (· = soAV w):=by
 refine fnA 1 ok56 (by simp) ?_
 by_cases h1:w.k=1
 ·have:soN w=81:=by simp[soN,h1]
  unfold soAV;rw[this]
  (conv=>whnf);(repeat'((first|apply bT|apply bF|apply bN|((first|apply bD|apply bEq|apply bNe)<;>intro hh<;>try(exfalso;omega))|refine wJ ?_|refine nJ ?_)<;>conv=>whnf))
  all_goals rfl
 ·by_cases h2:w.k=2
  ·have:soN w=83:=by simp[soN,h2]
   unfold soAV;rw[this]
   (conv=>whnf);(repeat'((first|apply bT|apply bF|apply bN|((first|apply bD|apply bEq|apply bNe)<;>intro hh<;>try(exfalso;omega))|refine wJ ?_|refine nJ ?_)<;>conv=>whnf))
   all_goals rfl
  ·by_cases h3:w.k=3
   ·have:soN w=84:=by simp[soN,h3]
    unfold soAV;rw[this]
    (conv=>whnf);(repeat'((first|apply bT|apply bF|apply bN|((first|apply bD|apply bEq|apply bNe)<;>intro hh<;>try(exfalso;omega))|refine wJ ?_|refine nJ ?_)<;>conv=>whnf))
    all_goals rfl
   ·have:soN w=85:=by simp[soN,h1,h2,h3]
    unfold soAV;rw[this]
    (conv=>whnf);(repeat'((first|apply bT|apply bF|apply bN|((first|apply bD|apply bEq|apply bNe)<;>intro hh<;>try(exfalso;omega))|refine wJ ?_|refine nJ ?_)<;>conv=>whnf))
    all_goals rfl
def spk(w:Word)(t:List Int):Prop:=w.am.length<=1000000/\t.length<=1000000/\(0<=w.g/\w.g<t.length)/\(0<=w.o/\w.o<t.length)
theorem so_V(w:Word)(t:List Int)(h:spk w t):FnV Try.prog (soAV w) [.isl (t.map jAV)] (· = .bool (isSo w t)):=by
 obtain⟨hl,ht,hg,ho⟩:=h
 have hL:(t.map jAV).length=t.length:=by simp
 have g1:=getJ t w.g.toNat (by omega)
 have g2:=getJ t w.o.toNat (by omega)
 have e1:=p82 w.am (t.getD w.g.toNat 0) hl
 unfold isSo
 by_cases h1:w.k=1
 ·have:soAV w = .fn 81 [.ipt w.av]:=by simp[soAV,soN,h1]
  rw[this,if_pos h1]
  refine fnV_of bd81 ?_
  show FnA Try.prog 81 [.isl (t.map jAV), .ipt w.av] _
  refine fnA 0 ok81 (by simp) ?_
  (conv=>whnf);(repeat'((first|apply bT|apply bF|apply bN|((first|apply bD|apply bEq|apply bNe)<;>intro hh<;>try(exfalso;omega))|refine iaJ g1 ?_|refine e1.cq rfl rfl ?_|refine wJ ?_|refine nJ ?_)<;>conv=>whnf))
  all_goals rfl
 ·rw[if_neg h1]
  by_cases h2:w.k=2
  ·have:soAV w = .fn 83 [.ipt w.av]:=by simp[soAV,soN,h2]
   rw[this,if_pos h2]
   refine fnV_of bd83 ?_
   show FnA Try.prog 83 [.isl (t.map jAV), .ipt w.av] _
   refine fnA 0 ok83 (by simp) ?_
   (conv=>whnf);(repeat'((first|apply bT|apply bF|apply bN|((first|apply bD|apply bEq|apply bNe)<;>intro hh<;>try(exfalso;omega))|refine iaJ g1 ?_|refine e1.cq rfl rfl ?_|refine wJ ?_|refine nJ ?_)<;>conv=>whnf))
   all_goals rfl
  ·rw[if_neg h2]
   by_cases h3:w.k=3
   ·have:soAV w = .fn 84 [.ipt w.av]:=by simp[soAV,soN,h3]
    rw[this,if_pos h3]
    refine fnV_of bd84 ?_
    show FnA Try.prog 84 [.isl (t.map jAV), .ipt w.av] _
    refine fnA 0 ok84 (by simp) ?_
    (conv=>whnf);(repeat'((first|apply bT|apply bF|apply bN|((first|apply bD|apply bEq|apply bNe)<;>intro hh<;>try(exfalso;omega))|refine iaJ g1 ?_|refine iaJ g2 ?_|refine wJ ?_|refine nJ ?_)<;>conv=>whnf))
    all_goals first
     |exact congrArg AV.bool (decide_eq_false (fun h=>by omega)).symm
     |exact congrArg AV.bool (by rw[decide_eq_decide];exact⟨fun h=>⟨by omega,h⟩,fun h=>h.2⟩)
     |exact congrArg AV.bool (by rw[Bool.eq_iff_iff,beq_iff_eq,decide_eq_true_eq];exact⟨fun h=>⟨by omega,h⟩,fun h=>h.2⟩)
   ·have:soAV w = .fn 85 [.ipt w.av]:=by simp[soAV,soN,h1,h2,h3]
    rw[this,if_neg h3]
    refine fnV_of bd85 ?_
    show FnA Try.prog 85 [.isl (t.map jAV), .ipt w.av] _
    refine fnA 0 ok85 (by simp) ?_
    (conv=>whnf);(repeat'((first|apply bT|apply bF|apply bN|((first|apply bD|apply bEq|apply bNe)<;>intro hh<;>try(exfalso;omega))|refine iaJ g1 ?_|refine iaJ g2 ?_|refine wJ ?_|refine nJ ?_)<;>conv=>whnf))
    all_goals first
     |exact congrArg AV.bool (decide_eq_true (Or.inl (by omega))).symm
     |exact congrArg AV.bool (by rw[decide_eq_decide];exact⟨fun h=>Or.inr h,fun h=>h.resolve_left (by omega)⟩)
     |exact congrArg AV.bool (by rw[Bool.eq_iff_iff,beq_iff_eq,decide_eq_true_eq];exact⟨fun h=>Or.inr h,fun h=>h.resolve_left (by omega)⟩)
theorem p79(s:Stand)(t:List Int)(hl:s.ws.length<=1000000)(hs:∀w∈s.ws,spk w t):FnA Try.prog 79 [.isl (s.ws.map sAV), .isl (t.map jAV)] (· = .int .i64 (wrongs s t s.ws.length)):=by
 have hL:(s.ws.map sAV).length=s.ws.length:=by simp
 refine fnA 0 ok79 (by simp) ?_
 (conv=>whnf);(repeat'((first|apply bT|apply bF|apply bN|((first|apply bD|apply bEq|apply bNe)<;>intro hh<;>try(exfalso;omega))|refine wJ ?_|refine nJ ?_)<;>conv=>whnf))
 refine loop_i (α :=Nat) (fun k=>[(10, .int .i64 k),(9, .int .i64 ↑(s.ws.map sAV).length),(8, .isl (s.ws.map sAV)),(5, .int .i64 (wrongs s t k)),(1, .isl (t.map jAV))]) (fun k=>[]) (fun k=>k<=s.ws.length) (fun k=>s.ws.length-k) 0 mI (by omega) ?_
 rintro k h5
 conv=>whnf
 refine bD (fun h7=>?_) (fun h7=>?_)
 ·have hk:k<s.ws.length:=by omega
  have hv:=so_V s.ws[k] t (hs _ (List.getElem_mem hk))
  have hb:=wrongs_bd s t k
  have ek:s.ws.getD k ⟨0,0,0,[]⟩=s.ws[k]:=by simp[List.getD_eq_getElem?_getD,hk]
  cases h8:isSo s.ws[k] t<;>rw[h8]at hv
  ·have ew:wrongs s t (k+1)=wrongs s t k+1:=by rw[wrongs,ek,h8];simp
   (conv=>whnf);(repeat'((first|apply bT|apply bF|apply bN|((first|apply bD|apply bEq|apply bNe)<;>intro hh<;>try(exfalso;omega))|refine iaJ (getM sAV s.ws k hk) ?_|(refine hv.vcallq rfl rfl rfl rfl (fun r (hr:r=_)=>?_);subst hr)|refine wJ ?_|refine nJ ?_)<;>conv=>whnf))
   exact⟨k+1,by rw[ew];exact mI,by omega,by omega⟩
  ·have ew:wrongs s t (k+1)=wrongs s t k:=by rw[wrongs,ek,h8];simp
   (conv=>whnf);(repeat'((first|apply bT|apply bF|apply bN|((first|apply bD|apply bEq|apply bNe)<;>intro hh<;>try(exfalso;omega))|refine iaJ (getM sAV s.ws k hk) ?_|(refine hv.vcallq rfl rfl rfl rfl (fun r (hr:r=_)=>?_);subst hr)|refine wJ ?_|refine nJ ?_)<;>conv=>whnf))
   exact⟨k+1,by rw[ew];exact mI,by omega,by omega⟩
 ·have:k=s.ws.length:=by omega
  subst this
  (conv=>whnf);(repeat'((first|apply bT|apply bF|apply bN|((first|apply bD|apply bEq|apply bNe)<;>intro hh<;>try(exfalso;omega))|refine wJ ?_|refine nJ ?_)<;>conv=>whnf))
  all_goals rfl
def exK(t:List Int):Nat->List (List Int)
 |0=>[]
 |u+1=>exK t u++if (u:Int)∈t then [] else [t++[(u:Int)]]
def tkG(G:Nat):Nat->List (List Int)
 |0=>[[]]
 |k+1=>(tkG G k).flatMap fun t=>exK t G
noncomputable def pt(s:Stand):List (List Int):=(tkG s.gs.toNat s.gs.toNat).filter fun t=>decide (wrongs s t s.ws.length<=s.wr)
theorem exK_len(t:List Int)(u:Nat):(exK t u).length<=u:=by
 induction u with
 |zero=>simp[exK]
 |succ u ih=>simp only[exK,List.length_append];split<;>simp<;>omega
theorem flat_len(l:List (List Int))(G:Nat):(l.flatMap fun t=>exK t G).length<=l.length*G:=by
 induction l with
 |nil=>simp
 |cons t l ih=>
  simp only[List.flatMap_cons,List.length_append,List.length_cons,Nat.add_mul,Nat.one_mul]
  have:=exK_len t G;omega
theorem tkG_len(G k:Nat)(h:G<=7):(tkG G k).length<=7 ^ k:=by
 induction k with
 |zero=>simp[tkG]
 |succ k ih=>
  simp only[tkG,Nat.pow_succ]
  exact Nat.le_trans (flat_len _ _) (Nat.mul_le_mul ih h)
theorem tkG_len7(G k:Nat)(h:G<=7)(hk:k<=7):(tkG G k).length<=1000000:=
 Nat.le_trans (tkG_len G k h) (Nat.le_trans (Nat.pow_le_pow_right (by omega) hk) (by decide))
theorem mem_exK{t y:List Int}{u:Nat}:y∈exK t u<->∃v,v<u/\(v:Int)∉t/\y=t++[(v:Int)]:=by
 induction u with
 |zero=>simp[exK]
 |succ u ih=>
  simp only[exK,List.mem_append,ih]
  constructor
  ·rintro(⟨v,h1,h2,h3⟩|h)
   ·exact⟨v,by omega,h2,h3⟩
   ·split at h
    ·cases h
    ·rename_i hn;exact⟨u,by omega,hn,by simpa using h⟩
  ·rintro⟨v,h1,h2,h3⟩
   by_cases h4:v=u
   ·subst h4;right;rw[if_neg h2];simp[h3]
   ·left;exact⟨v,by omega,h2,h3⟩
theorem nd_exK(t:List Int)(u:Nat):(exK t u).Nodup:=by
 induction u with
 |zero=>simp[exK]
 |succ u ih=>
  simp only[exK]
  refine List.nodup_append.2 ⟨ih,by split<;>simp,fun a ha b hb=>?_⟩
  obtain⟨v,h1,h2,h3⟩:=mem_exK.1 ha
  split at hb
  ·cases hb
  ·simp only[List.mem_singleton]at hb
   subst h3;subst hb
   intro e
   have:=List.append_cancel_left e
   simp at this;omega
theorem mem_tkG{G k:Nat}{t:List Int}:t∈tkG G k<->t.length=k/\(∀x∈t,0<=x/\x<(G:Int))/\t.Nodup:=by
 induction k generalizing t with
 |zero=>
  simp only[tkG,List.mem_singleton,List.length_eq_zero_iff]
  exact⟨fun h=>by subst h;simp,fun h=>h.1⟩
 |succ k ih=>
  simp only[tkG,List.mem_flatMap]
  constructor
  ·rintro⟨a,ha,hy⟩
   obtain⟨h1,h2,h3⟩:=ih.1 ha
   obtain⟨v,h4,h5,rfl⟩:=mem_exK.1 hy
   refine⟨by simp[h1],fun x hx=>?_,List.nodup_append.2 ⟨h3,by simp,fun p hp q hq=>?_⟩⟩
   ·rcases List.mem_append.1 hx with hx|hx
    ·exact h2 x hx
    ·simp only[List.mem_singleton]at hx;subst hx;omega
   ·simp only[List.mem_singleton]at hq;subst hq;intro e;subst e;exact h5 hp
  ·rintro⟨h1,h2,h3⟩
   have hne:t≠[]:=by intro e;subst e;simp at h1
   have hd:t=t.dropLast++[t.getLast hne]:=(List.dropLast_concat_getLast hne).symm
   have hl:=h2 _ (List.getLast_mem hne)
   rw[hd]at h3
   have h4:=List.nodup_append.1 h3
   refine⟨t.dropLast,ih.2 ⟨by simp[h1],fun x hx=>h2 x ((List.dropLast_sublist t).subset hx),h4.1⟩,mem_exK.2 ⟨(t.getLast hne).toNat,by omega,fun hm=>?_,?_⟩⟩
   ·rw[Int.toNat_of_nonneg hl.1]at hm
    exact h4.2.2 _ hm _ (List.mem_singleton.2 rfl) rfl
   ·rw[Int.toNat_of_nonneg hl.1];exact hd
theorem nd_tkG(G k:Nat):(tkG G k).Nodup:=by
 induction k with
 |zero=>simp[tkG]
 |succ k ih=>
  simp only[tkG]
  refine List.pairwise_flatMap.2 ⟨fun a _=>nd_exK a G,ih.imp fun {a b} hab x hx y hy e=>?_⟩
  obtain⟨v,_,_,rfl⟩:=mem_exK.1 hx
  obtain⟨w,_,_,rfl⟩:=mem_exK.1 hy
  exact hab (List.append_inj' e rfl).1
theorem nodup_tkP{t:List Int}:tkP t t.length<->(∀x∈t,0<=x/\x<(t.length:Int))/\t.Nodup:=by
 have hg:∀i (h:i<t.length),t.getD i 0=t[i]:=fun i h=>by simp[List.getD_eq_getElem?_getD,h]
 constructor
 ·intro h
  refine⟨fun x hx=>?_,List.pairwise_iff_getElem.2 fun i j hi hj hij e=>?_⟩
  ·obtain⟨i,hi,rfl⟩:=List.getElem_of_mem hx
   have:=(h i hi).1;rw[hg i hi]at this;exact this
  ·refine(h j hj).2 ?_
   rw[hg j hj,<- e]
   exact List.mem_iff_getElem.2 ⟨i,by simp;omega,by simp⟩
 ·rintro⟨h1,h2⟩ i hi
  refine⟨by rw[hg i hi];exact h1 _ (List.getElem_mem hi),fun hm=>?_⟩
  rw[hg i hi]at hm
  obtain⟨j,hj,e⟩:=List.mem_iff_getElem.1 hm
  simp only[List.length_take]at hj
  simp only[List.getElem_take]at e
  exact List.pairwise_iff_getElem.1 h2 j i (by omega) hi (by omega) e
theorem mem_pt{s:Stand}(h0:0<=s.gs)(h7:s.gs<=7){t:List Int}:t∈pt s<->isTr s t=true:=by
 rw[pt,List.mem_filter,mem_tkG,isTr_iff,decide_eq_true_eq]
 constructor
 ·rintro⟨⟨h1,h2,h3⟩,h4⟩
  have hl:(t.length:Int)=s.gs:=by omega
  refine⟨hl,tk_of (nodup_tkP.2 ⟨fun x hx=>by have:=h2 x hx;omega,h3⟩),by omega,h4⟩
 ·rintro⟨h1,h2,h3,h4⟩
  obtain⟨h5,h6⟩:=nodup_tkP.1 (tk_to h2)
  exact⟨⟨by omega,fun x hx=>by have:=h5 x hx;omega,h6⟩,h4⟩
theorem nd_pt(s:Stand):(pt s).Nodup:=(nd_tkG _ _).filter _
theorem pt_perm{s:Stand}(h0:0<=s.gs)(h7:s.gs<=7):(pt s).Perm (truths s):=by
 refine(List.perm_ext_iff_of_nodup (nd_pt s) (nd_truths h0)).2 fun t=>?_
 rw[mem_pt h0 h7,mem_truths h0]
theorem pt_len{s:Stand}(h0:0<=s.gs)(h7:s.gs<=7):(pt s).length=(truths s).length:=(pt_perm h0 h7).length_eq
theorem pt_small{s:Stand}(h7:s.gs<=7):(pt s).length<=1000000:=
 Nat.le_trans (List.length_filter_le _ _) (tkG_len7 _ _ (by omega) (by omega))
theorem pt_ok{s:Stand}(h0:0<=s.gs)(h7:s.gs<=7):∀t∈pt s,t.length=s.gs.toNat/\tk t:=fun t ht=>truths_ok h0 t ((mem_truths h0).2 ((mem_pt h0 h7).1 ht))
theorem tkG_lenG{G k:Nat}{t:List Int}(h:t∈tkG G k):t.length=k:=(mem_tkG.1 h).1
theorem take_id{l:List (List AV)}{n:Nat}(h:l.length=n):(l.take ((n:Int)).toNat).drop (0:Int).toNat=l:=by
 subst h;simp
theorem p91(t:List Int)(u:Int)(ht:t.length<=1000000):FnA Try.prog 91 [.isl (t.map jAV), .int .i64 u] (· = .isl ((t++[u]).map jAV)):=by
 have hL:(t.map jAV).length=t.length:=by simp
 refine fnA 2 ok91 (by simp) ?_
 (conv=>whnf);(repeat'((first|apply bT|apply bF|apply bN|((first|apply bD|apply bEq|apply bNe)<;>intro hh<;>try(exfalso;omega))|refine slI (by omega) (by omega) (by omega) (fun e he=>(j_one t e he).1) (take_id rfl) ?_|(refine apJ ?_)|refine wJ ?_|refine nJ ?_)<;>conv=>whnf))
 all_goals (rw[List.map_append];rfl)
theorem p78(G:Nat)(hG:G<=7):FnA Try.prog 78 [.int .i64 (G:Int)] (· = .isl ((tkG G G).map fAV)):=by
 refine fnA 4 ok78 (by simp) ?_
 (conv=>whnf);(repeat'((first|apply bT|apply bF|apply bN|((first|apply bD|apply bEq|apply bNe)<;>intro hh<;>try(exfalso;omega))|refine wJ ?_|refine nJ ?_)<;>conv=>whnf))
 refine loop_i (α :=Nat) (fun k=>[(10, .int .i64 k),(9, .int .i64 G),(3, .row 4),(0, .int .i64 G)]) (fun k=>[.fresh, .fresh, .fresh, .fresh, .row false 25 1 ((tkG G k).map fAV)]) (fun k=>k<=G) (fun k=>G-k) 0 (mA [(4,some 0)]) (by omega) ?_
 rintro k h1
 conv=>whnf
 refine bD (fun h3=>?_) (fun h3=>?_)
 ·have hk:k<G:=by omega
  have hN:=tkG_len7 G k hG (by omega)
  have hT:∀t∈tkG G k,t.length<=7:=fun t ht=>by have:=tkG_lenG ht;omega
  have hT1:tkG G (k+1)=(tkG G k).flatMap fun t=>exK t G:=rfl
  generalize tkG G k=L at hN hT hT1
  have hL:(L.map fAV).length=L.length:=by simp
  (conv=>whnf);(repeat'((first|apply bT|apply bF|apply bN|((first|apply bD|apply bEq|apply bNe)<;>intro hh<;>try(exfalso;omega))|refine wJ ?_|refine nJ ?_)<;>conv=>whnf))
  refine loop_i (α :=Nat) (fun j=>[(14, .int .i64 j),(13, .int .i64 ↑(L.map fAV).length),(12, .row 4),(10, .int .i64 k),(9, .int .i64 G),(4, .row 5),(0, .int .i64 G)]) (fun j=>[.fresh, .fresh, .fresh, .fresh, .row false 25 1 (L.map fAV), .row false 25 1 (((L.take j).flatMap fun t=>exK t G).map fAV)]) (fun j=>j<=L.length) (fun j=>L.length-j) 0 (mA [(5,none)]) (by omega) ?_
  rintro j h4
  conv=>whnf
  refine bD (fun h5=>?_) (fun h5=>?_)
  ·have hj:j<L.length:=by omega
   have g1:=getM fAV L j hj
   have ht:=hT _ (List.getElem_mem hj)
   have hA:((L.take j).flatMap fun t=>exK t G).length<=7000000:=by
    have a:=flat_len (L.take j) G
    have b:(L.take j).length*G<=1000000*7:=Nat.mul_le_mul (by simp only[List.length_take];omega) hG
    omega
   have hA1:((L.take (j+1)).flatMap fun t=>exK t G)=((L.take j).flatMap fun t=>exK t G)++exK L[j] G:=by
    rw[List.take_succ_eq_append_getElem hj,List.flatMap_append,List.flatMap_singleton]
   generalize ((L.take j).flatMap fun t=>exK t G)=A at hA hA1
   generalize L[j]=t at g1 ht hA1
   (conv=>whnf);(repeat'((first|apply bT|apply bF|apply bN|((first|apply bD|apply bEq|apply bNe)<;>intro hh<;>try(exfalso;omega))|refine iaJ g1 ?_|refine wJ ?_|refine nJ ?_)<;>conv=>whnf))
   refine loop_i (α :=Nat) (fun u=>[(19, .int .i64 u),(18, .int .i64 G),(14, .int .i64 j),(13, .int .i64 ↑(L.map fAV).length),(12, .row 4),(10, .int .i64 k),(9, .int .i64 G),(6, .isl (t.map jAV)),(4, .row 5),(0, .int .i64 G)]) (fun u=>[.fresh, .fresh, .fresh, .fresh, .row false 25 1 (L.map fAV), .row false 25 1 ((A++exK t u).map fAV)]) (fun u=>u<=G) (fun u=>G-u) 0 (by simp only[exK,List.append_nil];exact mI) (by omega) ?_
   rintro u h6
   conv=>whnf
   refine bD (fun h7=>?_) (fun h7=>?_)
   ·have e1:=p82 t (u:Int) (by omega)
    have e2:=p91 t (u:Int) (by omega)
    have hB:(A++exK t u).length<=7000007:=by
     have:=exK_len t u
     simp only[List.length_append];omega
    have hB1:((A++exK t u).map fAV).length=(A++exK t u).length:=by simp
    by_cases hm:(u:Int)∈t
    ·have e3:exK t (u+1)=exK t u:=by rw[exK,if_pos hm,List.append_nil]
     rw[decide_eq_true hm]at e1
     (conv=>whnf);(repeat'((first|apply bT|apply bF|apply bN|((first|apply bD|apply bEq|apply bNe)<;>intro hh<;>try(exfalso;omega))|refine e1.cq rfl rfl ?_|refine wJ ?_|refine nJ ?_)<;>conv=>whnf))
     exact⟨u+1,by rw[e3];exact mI,by omega,by omega⟩
    ·have e3:A++exK t (u+1)=(A++exK t u)++[t++[(u:Int)]]:=by rw[exK,if_neg hm,List.append_assoc]
     rw[decide_eq_false hm]at e1
     (conv=>whnf);(repeat'((first|apply bT|apply bF|apply bN|((first|apply bD|apply bEq|apply bNe)<;>intro hh<;>try(exfalso;omega))|refine e1.cq rfl rfl ?_|refine e2.zq rfl rfl ?_|(refine apI (by simp[AV.one]) (by simp only[List.length_cons,List.length_nil,hB1];omega) ?_)|refine wJ ?_|refine nJ ?_)<;>conv=>whnf))
     refine⟨u+1,?_,by omega,by omega⟩
     have e4:(A++exK t (u+1)).map fAV=(A++exK t u).map fAV++[[.isl ((t++[(u:Int)]).map jAV)]]:=by rw[e3,List.map_append];rfl
     rw[e4]
     exact(mA [(5,some 3)])
   ·have:u=G:=by omega
    subst this
    (conv=>whnf);(repeat'((first|apply bT|apply bF|apply bN|((first|apply bD|apply bEq|apply bNe)<;>intro hh<;>try(exfalso;omega))|refine wJ ?_|refine nJ ?_)<;>conv=>whnf))
    exact⟨j+1,by rw[hA1];exact mI,by omega,by omega⟩
  ·have:j=L.length:=by omega
   subst this
   rw[List.take_length]at *
   (conv=>whnf);(repeat'((first|apply bT|apply bF|apply bN|((first|apply bD|apply bEq|apply bNe)<;>intro hh<;>try(exfalso;omega))|refine wJ ?_|refine nJ ?_)<;>conv=>whnf))
   exact⟨k+1,by rw[hT1];exact(mA [(4,some 5)]),by omega,by omega⟩
 ·have:k=G:=by omega
  subst this
  (conv=>whnf);(repeat'((first|apply bT|apply bF|apply bN|((first|apply bD|apply bEq|apply bNe)<;>intro hh<;>try(exfalso;omega))|refine wJ ?_|refine nJ ?_)<;>conv=>whnf))
  all_goals rfl
theorem spk_ok{s:Stand}(hs:s.chk=0){t:List Int}(ht:t.length=s.gs.toNat):∀w∈s.ws,spk w t:=fun w hw=>by
 have hc:=chk_ok.1 hs
 have h:=hc.2.2.2 w hw
 have h1:=isWo_of h
 have h2:=am_len h hc.1.2
 exact⟨by omega,by omega,by omega,by omega⟩
theorem p51(s:Stand)(hs:s.chk=0):FnA Try.prog 51 [.agg s.cells] (· = .isl ((pt s).map fAV)):=by
 have hc:=chk_ok.1 hs
 have hW:(s.ws.map Word.av).length=s.ws.length:=by simp
 refine fnA 7 ok51 (by simp) ?_
 (conv=>whnf);(repeat'((first|apply bT|apply bF|apply bN|((first|apply bD|apply bEq|apply bNe)<;>intro hh<;>try(exfalso;omega))|refine wJ ?_|refine nJ ?_)<;>conv=>whnf))
 refine loop_i (α :=Nat) (fun k=>[(12, .int .i64 k),(11, .int .i64 ↑(s.ws.map Word.av).length),(10, .isl (s.ws.map Word.av)),(3, .row 7),(1, .own 0 0)]) (fun k=>[.box false s.cells, .fresh, .fresh, .fresh, .fresh, .fresh, .fresh, .row false 45 1 ((s.ws.take k).map sAV)]) (fun k=>k<=s.ws.length) (fun k=>s.ws.length-k) 0 (mA [(7,none)]) (by omega) ?_
 rintro k h1
 conv=>whnf
 refine bD (fun h3=>?_) (fun h3=>?_)
 ·have hk:k<s.ws.length:=by omega
  have g1:=getM Word.av s.ws k hk
  have e1:=p56 s.ws[k]
  have e2:(s.ws.take (k+1)).map sAV=(s.ws.take k).map sAV++[[soAV s.ws[k]]]:=by rw[List.take_succ_eq_append_getElem hk,List.map_append];rfl
  have hB:((s.ws.take k).map sAV).length<=20:=by simp;omega
  (conv=>whnf);(repeat'((first|apply bT|apply bF|apply bN|((first|apply bD|apply bEq|apply bNe)<;>intro hh<;>try(exfalso;omega))|refine iaJ g1 ?_|refine e1.zq rfl rfl ?_|(refine apJ ?_)|refine wJ ?_|refine nJ ?_)<;>conv=>whnf))
  refine⟨k+1,?_,by omega,by omega⟩
  rw[e2]
  exact(mA [(7,some 3)])
 ·have:k=s.ws.length:=by omega
  subst this
  rw[List.take_length]
  have hG:s.gs.toNat<=7:=by omega
  have e1:=p78 s.gs.toNat hG
  rw[Int.toNat_of_nonneg hc.1.1]at e1
  have hT:∀t∈tkG s.gs.toNat s.gs.toNat,t.length=s.gs.toNat:=fun t ht=>tkG_lenG ht
  have hN:=tkG_len7 s.gs.toNat s.gs.toNat hG hG
  have hP:pt s=(tkG s.gs.toNat s.gs.toNat).filter fun t=>decide (wrongs s t s.ws.length<=s.wr):=rfl
  generalize tkG s.gs.toNat s.gs.toNat=L at hT hN hP e1
  have hL:(L.map fAV).length=L.length:=by simp
  (conv=>whnf);(repeat'((first|apply bT|apply bF|apply bN|((first|apply bD|apply bEq|apply bNe)<;>intro hh<;>try(exfalso;omega))|refine e1.zq rfl rfl ?_|refine wJ ?_|refine nJ ?_)<;>conv=>whnf))
  refine loop_i (α :=Nat) (fun j=>[(26, .int .i64 j),(25, .int .i64 ↑(L.map fAV).length),(24, .isl (L.map fAV)),(6, .row 8),(3, .row 7),(1, .own 0 0)]) (fun j=>[.box false s.cells, .fresh, .fresh, .fresh, .fresh, .fresh, .fresh, .row false 45 1 (s.ws.map sAV), .row false 25 1 (((L.take j).filter fun t=>decide (wrongs s t s.ws.length<=s.wr)).map fAV)]) (fun j=>j<=L.length) (fun j=>L.length-j) 0 (mA [(8,none)]) (by omega) ?_
  rintro j h4
  conv=>whnf
  refine bD (fun h5=>?_) (fun h5=>?_)
  ·have hj:j<L.length:=by omega
   have g1:=getM fAV L j hj
   have ht:=hT _ (List.getElem_mem hj)
   have e3:=p79 s L[j] (by omega) (spk_ok hs ht)
   have hB:(((L.take j).filter fun t=>decide (wrongs s t s.ws.length<=s.wr)).map fAV).length<=1000000:=by
    rw[List.length_map]
    exact Nat.le_trans (List.length_filter_le _ _) (by simp only[List.length_take];omega)
   by_cases hx:wrongs s L[j] s.ws.length<=s.wr
   ·have e4:((L.take (j+1)).filter fun t=>decide (wrongs s t s.ws.length<=s.wr)).map fAV=((L.take j).filter fun t=>decide (wrongs s t s.ws.length<=s.wr)).map fAV++[[.isl (L[j].map jAV)]]:=by
     rw[List.take_succ_eq_append_getElem hj,List.filter_append,List.map_append,List.filter_cons,if_pos (decide_eq_true hx)];rfl
    (conv=>whnf);(repeat'((first|apply bT|apply bF|apply bN|((first|apply bD|apply bEq|apply bNe)<;>intro hh<;>try(exfalso;omega))|refine iaJ g1 ?_|refine e3.lq rfl rfl ?_|(refine apJ ?_)|refine wJ ?_|refine nJ ?_)<;>conv=>whnf))
    refine⟨j+1,?_,by omega,by omega⟩
    rw[e4]
    exact(mA [(8,some 6)])
   ·have e4:((L.take (j+1)).filter fun t=>decide (wrongs s t s.ws.length<=s.wr)).map fAV=((L.take j).filter fun t=>decide (wrongs s t s.ws.length<=s.wr)).map fAV:=by
     rw[List.take_succ_eq_append_getElem hj,List.filter_append,List.filter_cons,if_neg (by simpa using hx)];simp
    (conv=>whnf);(repeat'((first|apply bT|apply bF|apply bN|((first|apply bD|apply bEq|apply bNe)<;>intro hh<;>try(exfalso;omega))|refine iaJ g1 ?_|refine e3.lq rfl rfl ?_|refine wJ ?_|refine nJ ?_)<;>conv=>whnf))
    exact⟨j+1,by rw[e4];exact mI,by omega,by omega⟩
  ·have:j=L.length:=by omega
   subst this
   rw[hP,List.take_length]
   (conv=>whnf);(repeat'((first|apply bT|apply bF|apply bN|((first|apply bD|apply bEq|apply bNe)<;>intro hh<;>try(exfalso;omega))|refine wJ ?_|refine nJ ?_)<;>conv=>whnf))
   all_goals rfl
noncomputable def Stand.oE(s:Stand)(b:Bool):Int:=s.err b s.chk (truths s).length
theorem p52(s:Stand)(b:Bool)(hl:s.ws.length<=1000000)(hw:∀w∈s.ws,w.am.length<=1000000):FnA Try.prog 52 [.agg s.cells, .bool b] (· = .tup [.isl ((if s.oE b=0 then pt s else []).map fAV), .int .i64 (s.oE b)]):=by
 have e1:=p38 s hl hw
 by_cases h1:s.chk=0
 ·rw[h1]at e1
  have hc:=chk_ok.1 h1
  have e2:=p51 s h1
  have hP:=pt_len hc.1.1 hc.1.2
  have hL:((pt s).map fAV).length=(pt s).length:=by simp
  cases b with
  |false=>
   have e:s.oE false=1:=by rw[Stand.oE,Stand.err,h1];simp
   rw[e]
   refine fnA 2 ok52 (by simp) ?_
   (conv=>whnf);(repeat'((first|apply bT|apply bF|apply bN|((first|apply bD|apply bEq|apply bNe)<;>intro hh<;>try(exfalso;omega))|refine e1.cq rfl rfl ?_|refine wJ ?_|refine nJ ?_)<;>conv=>whnf))
   all_goals rfl
  |true=>
   by_cases h2:(truths s).length=0
   ·have e:s.oE true=3:=by rw[Stand.oE,Stand.err,h1,h2];simp
    rw[e]
    refine fnA 2 ok52 (by simp) ?_
    (conv=>whnf);(repeat'((first|apply bT|apply bF|apply bN|((first|apply bD|apply bEq|apply bNe)<;>intro hh<;>try(exfalso;omega))|refine e1.cq rfl rfl ?_|refine e2.zq rfl rfl ?_|refine wJ ?_|refine nJ ?_)<;>conv=>whnf))
    all_goals rfl
   ·have e:s.oE true=0:=by rw[Stand.oE,Stand.err,h1,if_neg (by simp),if_neg (by simp),if_neg (by omega)]
    rw[e,if_pos rfl]
    refine fnA 2 ok52 (by simp) ?_
    (conv=>whnf);(repeat'((first|apply bT|apply bF|apply bN|((first|apply bD|apply bEq|apply bNe)<;>intro hh<;>try(exfalso;omega))|refine e1.cq rfl rfl ?_|refine e2.zq rfl rfl ?_|refine wJ ?_|refine nJ ?_)<;>conv=>whnf))
    all_goals rfl
 ·have e:s.oE b=s.chk:=by rw[Stand.oE,Stand.err,if_pos h1]
  rw[e,if_neg h1]
  refine fnA 2 ok52 (by simp) ?_
  (conv=>whnf);(repeat'((first|apply bT|apply bF|apply bN|((first|apply bD|apply bEq|apply bNe)<;>intro hh<;>try(exfalso;omega))|refine e1.cq rfl rfl ?_|refine wJ ?_|refine nJ ?_)<;>conv=>whnf))
  all_goals rfl
theorem p18(s:Stand)(hl:s.ws.length<=1000000)(hw:∀w∈s.ws,w.am.length<=1000000):FnA Try.prog 18 [.agg s.cells] (· = .tup [.int .i64 (if s.chk=0 then(truths s).length else 0), .int .i64 s.chk]):=by
 have e1:=p38 s hl hw
 by_cases h1:s.chk=0
 ·rw[h1]at e1
  have hc:=chk_ok.1 h1
  have e2:=p51 s h1
  have hP:=pt_len hc.1.1 hc.1.2
  have hL:((pt s).map fAV).length=(pt s).length:=by simp
  rw[h1,if_pos rfl,<- hP,<- hL]
  refine fnA 2 ok18 (by simp) ?_
  (conv=>whnf);(repeat'((first|apply bT|apply bF|apply bN|((first|apply bD|apply bEq|apply bNe)<;>intro hh<;>try(exfalso;omega))|refine e1.cq rfl rfl ?_|refine e2.zq rfl rfl ?_|refine wJ ?_|refine nJ ?_)<;>conv=>whnf))
  all_goals rfl
 ·rw[if_neg h1]
  refine fnA 2 ok18 (by simp) ?_
  (conv=>whnf);(repeat'((first|apply bT|apply bF|apply bN|((first|apply bD|apply bEq|apply bNe)<;>intro hh<;>try(exfalso;omega))|refine e1.cq rfl rfl ?_|refine wJ ?_|refine nJ ?_)<;>conv=>whnf))
  all_goals rfl
abbrev Ents:=List (Int × List (List Int))
def insE:Ents->Int->List Int->Ents
 | [],x,t=>[(x,[t])]
 |e::E,x,t=>if x=e.1 then(e.1,e.2++[t])::E else e::insE E x t
def ansE(g:Nat)(l:List (List Int)):Ents:=l.foldl (fun E t=>insE E (t.getD g 0) t) []
def keyA(e:Int × List (List Int)):AV:=.int .i64 e.1
def valA(e:Int × List (List Int)):AV:=.isl (e.2.map fAV)
def entU:Ents->Nat->List AV
 | [],_=>[]
 |_::E,i=>.row i::entU E (i+1)
def entS:Ents->Nat->List Res
 |_,0=>[]
 | [],n+1=>.fresh::entS [] n
 |e::E,n+1=>.row false 25 1 (e.2.map fAV)::entS E n
theorem ansE_suc{g:Nat}{l:List (List Int)}{j:Nat}(hj:j<l.length):ansE g (l.take (j+1))=insE (ansE g (l.take j)) (l[j].getD g 0) l[j]:=by
 rw[List.take_succ_eq_append_getElem hj,ansE,List.foldl_append];rfl
theorem insE_keys(E:Ents)(x:Int)(t:List Int):(insE E x t).map (·.1)=if x∈E.map (·.1) then E.map (·.1) else E.map (·.1)++[x]:=by
 induction E with
 |nil=>simp[insE]
 |cons e E ih=>
  simp only[insE]
  by_cases h:x=e.1
  ·rw[if_pos h,if_pos (by simp[h])];simp
  ·rw[if_neg h]
   simp only[List.map_cons,ih,List.mem_cons,h,false_or]
   split<;>simp
theorem insE_nd{E:Ents}{x:Int}{t:List Int}(h:(E.map (·.1)).Nodup):((insE E x t).map (·.1)).Nodup:=by
 rw[insE_keys]
 split
 ·exact h
 ·rename_i hn
  exact List.nodup_append.2 ⟨h,by simp,fun a ha b hb e=>by simp only[List.mem_singleton]at hb;subst hb;subst e;exact hn ha⟩
theorem ansE_nd(g:Nat)(l:List (List Int)):((ansE g l).map (·.1)).Nodup:=by
 have:∀(l:List (List Int)) (E:Ents),(E.map (·.1)).Nodup->((l.foldl (fun E t=>insE E (t.getD g 0) t) E).map (·.1)).Nodup:=by
  intro l
  induction l with
  |nil=>intro E h;exact h
  |cons t l ih=>intro E h;exact ih _ (insE_nd h)
 exact this l [] (by simp)
theorem insE_mem{E:Ents}{x:Int}{t:List Int}(hn:(E.map (·.1)).Nodup){k:Int}{ts:List (List Int)}:(k,ts)∈insE E x t<->(k≠x/\(k,ts)∈E)\/(k=x/\((∃us,(x,us)∈E/\ts=us++[t])\/(x∉E.map (·.1)/\ts=[t]))):=by
 induction E with
 |nil=>simp[insE]
 |cons e E ih=>
  simp only[List.map_cons,List.nodup_cons]at hn
  simp only[insE]
  by_cases h:x=e.1
  ·rw[if_pos h]
   subst h
   simp only[List.mem_cons,List.map_cons,true_or,not_true,false_and,or_false]
   constructor
   ·rintro(h1|h1)
    ·cases h1;exact .inr ⟨rfl,e.2, .inl rfl,rfl⟩
    ·exact .inl ⟨fun e'=>hn.1 (by rw[<- e'];exact List.mem_map.2 ⟨_,h1,rfl⟩), .inr h1⟩
   ·rintro(⟨h1,h2⟩|⟨rfl,us,h1|h1,rfl⟩)
    ·rcases h2 with h2|h2
     ·exact absurd (by rw[<- h2]) h1
     ·exact .inr h2
    ·left;rw[<- h1]
    ·exact absurd (List.mem_map.2 ⟨_,h1,rfl⟩) hn.1
  ·rw[if_neg h]
   simp only[List.mem_cons,ih hn.2,List.map_cons,not_or]
   constructor
   ·rintro(h1|⟨h1,h2⟩|⟨h1,⟨us,h2,h3⟩|⟨h2,h3⟩⟩)
    ·exact .inl ⟨fun e'=>h (by rw[<- e',<- h1]), .inl h1⟩
    ·exact .inl ⟨h1, .inr h2⟩
    ·exact .inr ⟨h1, .inl ⟨us, .inr h2,h3⟩⟩
    ·exact .inr ⟨h1, .inr ⟨⟨h,h2⟩,h3⟩⟩
   ·rintro(⟨h1,h2|h2⟩|⟨h1,⟨us,h2|h2,h3⟩|⟨⟨_,h2⟩,h3⟩⟩)
    ·exact .inl h2
    ·exact .inr (.inl ⟨h1,h2⟩)
    ·exact absurd (by rw[<- h2]) h
    ·exact .inr (.inr ⟨h1, .inl ⟨us,h2,h3⟩⟩)
    ·exact .inr (.inr ⟨h1, .inr ⟨h2,h3⟩⟩)
theorem mem_ansE{g:Nat}{l:List (List Int)}{k:Int}{ts:List (List Int)}:(k,ts)∈ansE g l<->ts=whereL l (g:Int) k/\ts≠[]:=by
 have key:∀j,j<=l.length->∀(k:Int) (ts:List (List Int)),(k,ts)∈ansE g (l.take j)<->ts=whereL (l.take j) (g:Int) k/\ts≠[]:=by
  intro j
  induction j with
  |zero=>intro _ k ts;simp[ansE,whereL]
  |succ j ih=>
   intro hj k ts
   have hj':j<l.length:=by omega
   have ih:=ih (by omega)
   have hnd:=ansE_nd g (l.take j)
   rw[ansE_suc hj',insE_mem hnd]
   have hw:∀k,whereL (l.take (j+1)) (g:Int) k=whereL (l.take j) (g:Int) k++if l[j].getD g 0=k then [l[j]] else []:=fun k=>by
    simp only[whereL]
    rw[List.take_succ_eq_append_getElem hj',List.filter_append,List.filter_cons]
    simp only[Int.toNat_natCast,decide_eq_true_eq,List.filter_nil]
   rw[hw]
   constructor
   ·rintro(⟨h1,h2⟩|⟨rfl,⟨us,h2,rfl⟩|⟨h2,rfl⟩⟩)
    ·have:=(ih k ts).1 h2
     rw[if_neg (Ne.symm h1),List.append_nil];exact this
    ·have:=(ih _ us).1 h2
     rw[if_pos rfl,<- this.1];simp
    ·rw[if_pos rfl]
     have:whereL (l.take j) (g:Int) (l[j].getD g 0)=[]:=Classical.byContradiction fun hne=>h2 (List.mem_map.2 ⟨_,(ih _ _).2 ⟨rfl,hne⟩,rfl⟩)
     rw[this];simp
   ·rintro⟨h1,h2⟩
    by_cases hk:k=l[j].getD g 0
    ·subst hk
     rw[if_pos rfl]at h1
     refine .inr ⟨rfl,?_⟩
     by_cases he:whereL (l.take j) (g:Int) (l[j].getD g 0)=[]
     ·right
      refine⟨fun hm=>?_,by rw[h1,he];rfl⟩
      obtain⟨⟨k',us⟩,h3,h4⟩:=List.mem_map.1 hm
      simp only at h4;subst h4
      have:=(ih _ us).1 h3
      rw[he]at this;exact this.2 this.1
     ·left;exact⟨_,(ih _ _).2 ⟨rfl,he⟩,h1⟩
    ·left
     rw[if_neg (Ne.symm hk),List.append_nil]at h1
     exact⟨hk,(ih k ts).2 ⟨h1,h2⟩⟩
 have:=key l.length (by omega) k ts
 rwa [List.take_length]at this
theorem key_ansE{g:Nat}{l:List (List Int)}{k:Int}:k∈(ansE g l).map (·.1)<->∃t∈l,t.getD g 0=k:=by
 constructor
 ·intro h
  obtain⟨⟨k',ts⟩,h1,rfl⟩:=List.mem_map.1 h
  obtain⟨h2,h3⟩:=mem_ansE.1 h1
  obtain⟨t,ht⟩:=List.exists_mem_of_ne_nil _ h3
  rw[h2]at ht
  have:=mem_where.1 ht
  simp only[Int.toNat_natCast]at this
  exact⟨t,this.1,this.2⟩
 ·rintro⟨t,h1,h2⟩
  refine List.mem_map.2 ⟨(k,whereL l (g:Int) k),mem_ansE.2 ⟨rfl,fun e=>?_⟩,rfl⟩
  have:t∈whereL l (g:Int) k:=mem_where.2 ⟨h1,by simpa using h2⟩
  rw[e]at this;cases this
theorem ansE_len7{g:Nat}{l:List (List Int)}(h:∀t∈l,0<=t.getD g 0/\t.getD g 0<7):(ansE g l).length<=7:=by
 have:=nd_sub_len (a:=(ansE g l).map (·.1)) (b:=[0,1,2,3,4,5,6]) (ansE_nd g l) (by decide) fun x hx=>by
  obtain⟨t,h1,rfl⟩:=key_ansE.1 hx
  have:=h t h1
  simp only[List.mem_cons,List.not_mem_nil,or_false];omega
 simpa using this
end Go.Proofs
