/- What each function of this program answers, proved by walking its body: the contracts that the law rests on, part 1. -/
import Derived.Test.YtjdklkkmmlephaaCode
set_option linter.unusedSimpArgs false
set_option linter.unusedVariables false
set_option linter.unusedSectionVars false
namespace Go.Proofs
open Go.Eng
attribute [local irreducible] Go.Eng.brB Go.Eng.need Go.Eng.wrE Go.Eng.iaE Go.Eng.slE Go.Eng.apE Go.Eng.CallZ Go.Eng.CallE Go.Eng.VCallE Go.Eng.YldE Go.Eng.GoC Go.Eng.MeetsE Go.Eng.FnA Go.Eng.FnV
set_option maxRecDepth 100000
def jAV(r:Int):List AV:=[.int .i64 r]
def fAV(l:List Int):List AV:=[.isl (l.map jAV)]
structure Word where
 k:Int
 g:Int
 o:Int
 am:List Int
deriving DecidableEq
structure Stand where
 gs:Int
 ws:List Word
 wr:Int
def Word.av(w:Word):List AV:=[.int .i64 w.k, .int .i64 w.g, .int .i64 w.o, .isl (w.am.map jAV)]
def Stand.cells(s:Stand):List AV:=[.int .i64 s.gs, .isl (s.ws.map Word.av), .int .i64 s.wr]
theorem getM{α : Type}(f : α -> List AV)(l:List α)(i:Nat)(h:i<l.length):(l.map f).getD i []=f l[i]:=by
 simp[List.getD_eq_getElem?_getD,h]
theorem getJ(l:List Int)(i:Nat)(h:i<l.length):(l.map jAV).getD i []=[.int .i64 (l.getD i 0)]:=by
 rw[getM jAV l i h];simp[List.getD_eq_getElem?_getD,h,jAV]
theorem j_one(l:List Int):∀e∈l.map jAV,e.length=1/\e.all AV.one=true:=fun e he=>by
 obtain⟨x,_,rfl⟩:=List.mem_map.1 he;exact⟨rfl,rfl⟩
theorem f_one(l:List (List Int)):∀e∈l.map fAV,e.length=1/\e.all AV.one=true:=fun e he=>by
 obtain⟨x,_,rfl⟩:=List.mem_map.1 he;exact⟨rfl,rfl⟩
theorem w_one(l:List Word):∀e∈l.map Word.av,e.length=4/\e.all AV.one=true:=fun e he=>by
 obtain⟨x,_,rfl⟩:=List.mem_map.1 he;exact⟨rfl,rfl⟩
theorem take_all{α : Type}{l:List α}{p : α -> Bool}{k:Nat}(hk:k<l.length)(h:∀x∈l.take k,p x=true)(hx:p l[k]=true):∀x∈l.take (k+1),p x=true:=by
 intro x hm
 rw[List.take_succ_eq_append_getElem hk]at hm
 rcases List.mem_append.1 hm with hm|hm
 ·exact h x hm
 ·rw[List.mem_singleton.1 hm];exact hx
theorem take_none{α : Type}{l:List α}{p : α -> Bool}{k:Nat}(hk:k<l.length)(h:∀x∈l.take k,p x=false)(hx:p l[k]=false):∀x∈l.take (k+1),p x=false:=by
 intro x hm
 rw[List.take_succ_eq_append_getElem hk]at hm
 rcases List.mem_append.1 hm with hm|hm
 ·exact h x hm
 ·rw[List.mem_singleton.1 hm];exact hx
def isG(s:Stand)(n:Int):Bool:=decide (0<=n/\n<s.gs)
def riseP(s:Stand)(l:List Int)(k:Nat):Prop:=∀i,i<k->(0<=l.getD i 0/\l.getD i 0<s.gs)/\(0<i->l.getD (i-1) 0<l.getD i 0)
noncomputable instance (s:Stand) (l:List Int) (k:Nat):Decidable (riseP s l k):=Classical.propDecidable _
noncomputable def isWo(s:Stand)(w:Word):Bool:=isG s w.g&&(isG s w.o&&(if w.k=3\/w.k=4 then decide (w.am.length=0/\w.g≠w.o) else decide ((w.k=1\/w.k=2)/\w.am.length≠0/\w.o=0)&&decide (riseP s w.am w.am.length)))
noncomputable def Stand.chk(s:Stand):Int:=if s.gs<0\/s.gs>7\/s.wr<0\/s.wr>7 then 100 else if s.ws.length>20 then 101 else if s.ws.all (isWo s)=true then 0 else 101
def isSo(w:Word)(t:List Int):Bool:=if w.k=1 then decide (t.getD w.g.toNat 0∈w.am) else if w.k=2 then !decide (t.getD w.g.toNat 0∈w.am) else if w.k=3 then decide (t.getD w.g.toNat 0=w.o/\t.getD w.o.toNat 0=w.g) else decide (t.getD w.g.toNat 0=w.g\/t.getD w.o.toNat 0=w.o)
def tkP(l:List Int)(k:Nat):Prop:=∀i,i<k->(0<=l.getD i 0/\l.getD i 0<l.length)/\l.getD i 0∉l.take i
noncomputable instance (l:List Int) (k:Nat):Decidable (tkP l k):=Classical.propDecidable _
noncomputable def isTk(l:List Int):Bool:=decide (tkP l l.length)&&decide (l.length<=7)
def wrongs(s:Stand)(t:List Int):Nat->Int
 |0=>0
 |k+1=>wrongs s t k+if isSo (s.ws.getD k ⟨0,0,0,[]⟩) t=true then 0 else 1
noncomputable def isTr(s:Stand)(t:List Int):Bool:=decide ((t.length:Int)=s.gs)&&(isTk t&&decide (wrongs s t s.ws.length<=s.wr))
def trK(f:List Int->List (List Int))(first:List Int):Nat->List (List Int)
 |0=>[]
 |u+1=>trK f first u++if (u:Int)∈first then [] else f (first++[(u:Int)])
noncomputable def trF(s:Stand):Nat->List Int->List (List Int)
 |0,first=>if isTr s first=true then [first] else []
 |n+1,first=>trK (trF s n) first s.gs.toNat
noncomputable def truths(s:Stand):List (List Int):=trF s s.gs.toNat []
def whereL(l:List (List Int))(g u:Int):List (List Int):=l.filter fun t=>decide (t.getD g.toNat 0=u)
def tookK(l:List (List Int))(g:Int):Nat->List Int
 |0=>[]
 |u+1=>tookK l g u++if (whereL l g (u:Int)).length>0 then [(u:Int)] else []
def tookL(l:List (List Int))(g gs:Int):List Int:=tookK l g gs.toNat
def Pm(n:Nat)(f:Nat->Nat):Prop:=(∀i,i<n->f i<n)/\∀i,i<n->∀j,j<n->f i=f j->i=j
def del(n:Nat)(f:Nat->Nat)(i:Nat):Nat:=if f i=n then f n else f i
def cyc:Nat->(Nat->Nat)->Nat
 |0,_=>0
 |n+1,f=>cyc n (del n f)+if f n=n then 1 else 0
def sw(f:Nat->Nat)(g h i:Nat):Nat:=if i=g then f h else if i=h then f g else f i
theorem cyc_congr:∀(n:Nat) (f f':Nat->Nat),(∀i,i<n->f i=f' i)->cyc n f=cyc n f':=by
 intro n;induction n with
 |zero=>intros;rfl
 |succ n ih=>
  intro f f' h
  simp only[cyc,h n (by omega)]
  rw[ih (del n f) (del n f') (fun i hi=>by simp only[del,h i (by omega),h n (by omega)])]
theorem del_pm{n:Nat}{f:Nat->Nat}(h:Pm (n+1) f):Pm n (del n f):=by
 obtain⟨h1,h2⟩:=h
 constructor
 ·intro i hi
  have a:=h1 i (by omega);have b:=h1 n (by omega);have c:=h2 i (by omega) n (by omega)
  simp only[del];split<;>omega
 ·intro i hi j hj e
  have a:=h2 i (by omega) n (by omega);have b:=h2 j (by omega) n (by omega);have c:=h2 i (by omega) j (by omega)
  simp only[del]at e;split at e<;>split at e<;>omega
theorem no_inj:∀(n:Nat) (f:Nat->Nat),(∀i,i<n+1->f i<n)->(∀i,i<n+1->∀j,j<n+1->f i=f j->i=j)->False:=by
 intro n;induction n with
 |zero=>intro f h _;exact absurd (h 0 (by omega)) (by omega)
 |succ n ih=>
  intro f h1 h2
  apply ih (fun i=>if f i=n then f (n+1) else f i)
  ·intro i hi
   have a:=h1 i (by omega);have b:=h1 (n+1) (by omega);have c:=h2 i (by omega) (n+1) (by omega)
   split<;>omega
  ·intro i hi j hj e
   have a:=h2 i (by omega) (n+1) (by omega);have b:=h2 j (by omega) (n+1) (by omega);have c:=h2 i (by omega) j (by omega)
   split at e<;>split at e<;>omega
theorem pm_pre{n:Nat}{f:Nat->Nat}(h:Pm (n+1) f):∃p,p<n+1/\f p=n:=by
 apply Classical.byContradiction;intro hn
 refine no_inj n f (fun i hi=>?_) h.2
 have a:=h.1 i hi
 have b:f i≠n:=fun e=>hn ⟨i,hi,e⟩
 omega
theorem sw_pm{n:Nat}{f:Nat->Nat}{g h:Nat}(hf:Pm n f)(hg:g<n)(hh:h<n):Pm n (sw f g h):=by
 obtain⟨h1,h2⟩:=hf
 have a:=h1 g hg;have b:=h1 h hh
 constructor
 ·intro i hi
  have c:=h1 i hi
  simp only[sw];split<;>(try split)<;>omega
 ·intro i hi j hj e
  have c1:=h2 i hi j hj;have c2:=h2 i hi g hg;have c3:=h2 i hi h hh;have c4:=h2 j hj g hg;have c5:=h2 j hj h hh;have c6:=h2 g hg h hh
  simp only[sw]at e;repeat' split at e
  all_goals omega
theorem sw_comm(f:Nat->Nat)(g h:Nat):∀i,sw f g h i=sw f h g i:=by
 intro i;simp only[sw];repeat' split
 all_goals (try subst_vars)
 all_goals (try rfl)
theorem sw_last{n:Nat}{f:Nat->Nat}{g:Nat}(hf:Pm (n+1) f)(hg:g<n) :
  (f n=n/\cyc (n+1) (sw f g n)+1=cyc (n+1) f) \/
  (f g=n/\cyc (n+1) (sw f g n)=cyc (n+1) f+1) \/
  (f n≠n/\∃p,p<n/\p≠g/\f p=n/\f g≠n/\cyc (n+1) (sw f g n)=cyc n (sw (del n f) p g)/\cyc (n+1) f=cyc n (del n f)):=by
 have h1:=hf.1;have h2:=hf.2
 have en:sw f g n n=f g:=by
                  simp only[sw];split;·(have:n=g:=by assumption);omega
                  simp
 have eg:sw f g n g=f n:=by simp[sw]
 by_cases c1:f n=n
 ·left
  refine⟨c1,?_⟩
  have c2:f g≠n:=fun e=>by have:=h2 g (by omega) n (by omega) (by omega);omega
  rw[cyc,cyc,en,if_neg c2,if_pos c1,cyc_congr n (del n (sw f g n)) (del n f)]
  intro i hi
  have:=h2 i (by omega) n (by omega)
  simp only[del,en]
  by_cases e:i=g
  ·subst e;rw[eg,if_pos c1,if_neg c2]
  ·have:sw f g n i=f i:=by simp only[sw,if_neg e];rw[if_neg (by omega)]
   rw[this];split<;>omega
 ·right
  by_cases c2:f g=n
  ·left
   refine⟨c2,?_⟩
   rw[cyc,cyc,en,if_pos c2,if_neg c1,cyc_congr n (del n (sw f g n)) (del n f)]
   intro i hi
   have:=h2 i (by omega) g (by omega)
   simp only[del,en]
   by_cases e:i=g
   ·subst e;rw[eg,if_neg c1,if_pos c2]
   ·have:sw f g n i=f i:=by simp only[sw,if_neg e];rw[if_neg (by omega)]
    rw[this];split<;>omega
  ·right
   obtain⟨p,hp,ep⟩:=pm_pre hf
   have p1:p≠n:=fun e=>c1 (e ▸ ep)
   have p2:p≠g:=fun e=>c2 (e ▸ ep)
   refine⟨c1,p,by omega,p2,ep,c2,?_,?_⟩
   ·rw[cyc,en,if_neg c2,Nat.add_zero]
    apply cyc_congr
    intro i hi
    have:=h2 i (by omega) p (by omega)
    simp only[del,en]
    by_cases e:i=g
    ·subst e;rw[eg,if_neg c1];simp[sw,del,ep,Ne.symm p2]
    ·have e2:sw f g n i=f i:=by simp only[sw,if_neg e];rw[if_neg (by omega)]
     rw[e2];simp only[sw];by_cases e3:i=p
     ·rw[if_pos e3,if_pos (by rw[e3];exact ep)];simp only[del];rw[if_neg c2]
     ·rw[if_neg (fun x=>e3 (this (by omega))),if_neg e3,if_neg e];simp only[del];rw[if_neg (fun x=>e3 (this (by omega)))]
   ·rw[cyc,if_neg c1];omega
theorem sw_low{n:Nat}{f:Nat->Nat}{g h:Nat}(hg:g<n)(hh:h<n):cyc (n+1) (sw f g h)=cyc n (sw (del n f) g h)+if f n=n then 1 else 0:=by
 have en:sw f g h n=f n:=by simp only[sw];rw[if_neg (by omega),if_neg (by omega)]
 rw[cyc,en,cyc_congr n (del n (sw f g h)) (sw (del n f) g h)]
 intro i hi
 simp only[del,en]
 by_cases e1:i=g
 ·subst e1;simp[sw,del]
 ·by_cases e2:i=h
  ·subst e2;simp[sw,del,e1]
  ·simp[sw,del,e1,e2]
theorem sw_up:∀(n:Nat) (f:Nat->Nat) (g h:Nat),Pm n f->g<n->h<n->g≠h->f g=h->cyc n (sw f g h)=cyc n f+1:=by
 intro n;induction n with
 |zero=>intro f g h _ hg;omega
 |succ n ih=>
  intro f g h hf hg hh hne hfg
  by_cases a:g=n
  ·subst a
   rw[cyc_congr _ _ _ (fun i _=>sw_comm f g h i)]
   rcases sw_last (g:=h) hf (by omega)with⟨e,_⟩|⟨_,e⟩|⟨_,p,hp,hpg,ep,eh,e1,e2⟩
   ·omega
   ·exact e
   ·rw[e1,e2];exact ih _ p h (del_pm hf) hp (by omega) hpg (by simp only[del,ep,if_true];exact hfg)
  ·by_cases b:h=n
   ·subst b
    rcases sw_last (g:=g) hf (by omega)with⟨e,_⟩|⟨_,e⟩|⟨_,p,hp,hpg,ep,eh,e1,e2⟩
    ·have:=hf.2 g hg h (by omega) (by omega);omega
    ·exact e
    ·omega
   ·rw[sw_low (by omega) (by omega),cyc,ih (del n f) g h (del_pm hf) (by omega) (by omega) hne (by simp only[del,hfg];rw[if_neg b])];split<;>omega
theorem cyc_le:∀(n:Nat) (f:Nat->Nat),cyc n f<=n:=by
 intro n;induction n with
 |zero=>intro f;simp[cyc]
 |succ n ih=>intro f;rw[cyc];have:=ih (del n f);split<;>omega
theorem cyc_id:∀(n:Nat) (f:Nat->Nat),(cyc n f=n<->∀i,i<n->f i=i):=by
 intro n;induction n with
 |zero=>intro f;simp[cyc]
 |succ n ih=>
  intro f
  rw[cyc]
  have a:=cyc_le n (del n f)
  by_cases c:f n=n
  ·rw[if_pos c]
   have b:=ih (del n f)
   constructor
   ·intro e i hi
    by_cases d:i=n
    ·rw[d];exact c
    ·have:=b.1 (by omega) i (by omega)
     simp only[del]at this;split at this<;>omega
   ·intro e
    have:=b.2 (fun i hi=>by simp only[del,e i (by omega)];rw[if_neg (by omega)])
    omega
  ·rw[if_neg c]
   constructor
   ·intro e;omega
   ·intro e;exact absurd (e n (by omega)) c
def fnL(t:List Int)(i:Nat):Nat:=(t.getD i 0).toNat
theorem getS(t:List Int)(i j:Nat)(x:Int)(hi:i<t.length):(t.set i x).getD j 0=if j=i then x else t.getD j 0:=by
 simp only[List.getD_eq_getElem?_getD,List.getElem?_set]
 by_cases e:i=j
 ·subst e;simp[hi]
 ·rw[if_neg e,if_neg (Ne.symm e)]
theorem tk_mem{t:List Int}{k:Nat}(h:tkP t k)(i j:Nat)(hi:i<k)(hj:j<k)(hk:k<=t.length)(e:t.getD i 0=t.getD j 0):i=j:=by
 have key:∀a b,a<b->b<k->t.getD a 0≠t.getD b 0:=by
  intro a b hab hb e
  apply (h b hb).2
  rw[<- e,List.mem_take_iff_getElem]
  refine⟨a,by omega,?_⟩
  simp[List.getD_eq_getElem?_getD,show a<t.length by omega]
 rcases Nat.lt_trichotomy i j with c|c|c
 ·exact absurd e (key i j c hj)
 ·exact c
 ·exact absurd e.symm (key j i c hi)
theorem tk_pm{t:List Int}(h:tkP t t.length):Pm t.length (fnL t):=by
 constructor
 ·intro i hi;have:=(h i hi).1;simp only[fnL];omega
 ·intro i hi j hj e
  have a:=(h i hi).1;have b:=(h j hj).1
  simp only[fnL]at e
  exact tk_mem h i j hi hj (Nat.le_refl _) (by omega)
def tk(t:List Int):Prop:=(∀i,i<t.length->0<=t.getD i 0)/\Pm t.length (fnL t)
theorem tk_of{t:List Int}(h:tkP t t.length):tk t:=⟨fun i hi=>(h i hi).1.1,tk_pm h⟩
theorem tk_to{t:List Int}(h:tk t):tkP t t.length:=by
 intro i hi
 have a:=h.1 i hi;have b:=h.2.1 i hi
 simp only[fnL]at b
 refine⟨by omega,fun hm=>?_⟩
 obtain⟨j,hj,e⟩:=List.mem_take_iff_getElem.1 hm
 have hj':j<i/\j<t.length:=by omega
 have e':t.getD j 0=t.getD i 0:=by rw[<- e];simp[List.getD_eq_getElem?_getD,hj'.2]
 have:=h.2.2 j hj'.2 i hi (by simp only[fnL,e'])
 omega
theorem tk_lt{t:List Int}(h:tk t)(i:Nat)(hi:i<t.length):0<=t.getD i 0/\t.getD i 0<t.length:=by
 have a:=h.1 i hi;have b:=h.2.1 i hi;simp only[fnL]at b;omega
def swL(t:List Int)(g h:Nat):List Int:=(t.set g (t.getD h 0)).set h (t.getD g 0)
theorem swL_len(t:List Int)(g h:Nat):(swL t g h).length=t.length:=by simp[swL]
theorem swL_get(t:List Int)(g h i:Nat)(hg:g<t.length)(hh:h<t.length):(swL t g h).getD i 0=if i=g then t.getD h 0 else if i=h then t.getD g 0 else t.getD i 0:=by
 rw[swL,getS _ _ _ _ (by simpa using hh),getS _ _ _ _ hg]
 by_cases a:i=g
 ·by_cases b:i=h
  ·rw[if_pos b,if_pos a,<- a,<- b]
  ·rw[if_neg b,if_pos a,if_pos a]
 ·rw[if_neg a,if_neg a]
theorem swL_fn(t:List Int)(g h:Nat)(hg:g<t.length)(hh:h<t.length)(i:Nat):fnL (swL t g h) i=sw (fnL t) g h i:=by
 simp only[fnL,swL_get t g h i hg hh,sw];repeat' split
 all_goals rfl
theorem Pm_congr{n:Nat}{f f':Nat->Nat}(h:∀i,i<n->f i=f' i)(hf:Pm n f):Pm n f':=
 ⟨fun i hi=>h i hi ▸ hf.1 i hi,fun i hi j hj e=>hf.2 i hi j hj (by rw[h i hi,h j hj];exact e)⟩
theorem swL_tk{t:List Int}{g h:Nat}(ht:tk t)(hg:g<t.length)(hh:h<t.length):tk (swL t g h):=by
 constructor
 ·intro i hi
  rw[swL_len]at hi
  rw[swL_get t g h i hg hh]
  have a:=ht.1 i hi;have b:=ht.1 g hg;have c:=ht.1 h hh
  repeat' split
  all_goals assumption
 ·rw[swL_len]
  exact Pm_congr (fun i _=>(swL_fn t g h hg hh i).symm) (sw_pm ht.2 hg hh)
def need(t:List Int):Nat:=t.length-cyc t.length (fnL t)
theorem need_up{t:List Int}{g h:Nat}(ht:tk t)(hg:g<t.length)(hh:h<t.length)(hne:g≠h)(e:t.getD g 0=(h:Int)):need (swL t g h)+1=need t:=by
 have a:=sw_up t.length (fnL t) g h ht.2 hg hh hne (by simp only[fnL,e];omega)
 have b:=cyc_le t.length (fnL t);have c:=cyc_le t.length (sw (fnL t) g h)
 simp only[need,swL_len]
 rw[cyc_congr t.length (fnL (swL t g h)) (sw (fnL t) g h) (fun i _=>swL_fn t g h hg hh i)]
 omega
def rightP(t:List Int)(k:Nat):Prop:=∀i,i<k->t.getD i 0=(i:Int)
noncomputable instance (t:List Int) (k:Nat):Decidable (rightP t k):=Classical.propDecidable _
theorem need_zero{t:List Int}(ht:tk t):need t=0<->rightP t t.length:=by
 have a:=cyc_le t.length (fnL t)
 have b:=cyc_id t.length (fnL t)
 simp only[need]
 constructor
 ·intro h i hi
  have:=b.1 (by omega) i hi
  have:=tk_lt ht i hi
  simp only[fnL]at *;omega
 ·intro h
  have:=b.2 (fun i hi=>by simp only[fnL,h i hi];omega)
  omega
def isPr(l:List Int)(n:Nat):Bool:=decide (l.length=2/\0<=l.getD 0 0/\l.getD 0 0<l.getD 1 0/\l.getD 1 0<n)
def aft(t:List Int)(l:List (List Int)):Nat->List Int
 |0=>t
 |k+1=>swL (aft t l k) ((l.getD k []).getD 0 0).toNat ((l.getD k []).getD 1 0).toNat
def prsP(l:List (List Int))(n k:Nat):Prop:=∀i,i<k->isPr (l.getD i []) n=true
noncomputable instance (l:List (List Int)) (n k:Nat):Decidable (prsP l n k):=Classical.propDecidable _
def sn(l:List (List Int)):Nat->List Int
 |0=>[]
 |k+1=>sn l k++l.getD k []
def rndP(l:List (List Int))(n k:Nat):Prop:=∀i,i<k->isPr (l.getD i []) n=true/\(l.getD i []).getD 0 0∉sn l i/\(l.getD i []).getD 1 0∉sn l i
noncomputable instance (l:List (List Int)) (n k:Nat):Decidable (rndP l n k):=Classical.propDecidable _
theorem tk_has{t:List Int}(ht:tk t)(j:Nat)(hj:j<t.length):∃i,i<t.length/\fnL t i=j:=by
 apply Classical.byContradiction;intro hn
 -- one number fewer: j's place is taken by the last one
 refine no_inj (t.length-1) (fun i=>if fnL t i=t.length-1 then j else fnL t i) (fun i hi=>?_) (fun i hi k hk e=>?_)
 ·have:=ht.2.1 i (by omega)
  have:fnL t i≠j:=fun e=>hn ⟨i,by omega,e⟩
  split
  ·omega
  ·omega
 ·have:=ht.2.2 i (by omega) k (by omega)
  have:fnL t i≠j:=fun e=>hn ⟨i,by omega,e⟩
  have:fnL t k≠j:=fun e=>hn ⟨k,by omega,e⟩
  split at e<;>split at e<;>omega
theorem isTr_of{s:Stand}{t:List Int}(h:isTr s t=true):(t.length:Int)=s.gs/\tk t/\t.length<=7/\wrongs s t s.ws.length<=s.wr:=by
 simp only[isTr,isTk,Bool.and_eq_true,decide_eq_true_eq]at h
 exact⟨h.1,tk_of h.2.1.1,h.2.1.2,h.2.2⟩
theorem isTr_to{s:Stand}{t:List Int}(h1:(t.length:Int)=s.gs)(h2:tk t)(h3:t.length<=7)(h4:wrongs s t s.ws.length<=s.wr):isTr s t=true:=by
 simp only[isTr,isTk,Bool.and_eq_true,decide_eq_true_eq]
 exact⟨h1,⟨tk_to h2,h3⟩,h4⟩
theorem isTr_iff{s:Stand}{t:List Int}:isTr s t=true<->(t.length:Int)=s.gs/\tk t/\t.length<=7/\wrongs s t s.ws.length<=s.wr:=
 ⟨isTr_of,fun h=>isTr_to h.1 h.2.1 h.2.2.1 h.2.2.2⟩
theorem mem_trK{f:List Int->List (List Int)}{first t:List Int}:∀ {k:Nat},t∈trK f first k<->∃u,u<k/\(u:Int)∉first/\t∈f (first++[(u:Int)]):=by
 intro k;induction k with
 |zero=>simp[trK]
 |succ k ih=>
  rw[trK,List.mem_append,ih]
  constructor
  ·rintro(⟨u,hu,h⟩|h)
   ·exact⟨u,by omega,h⟩
   ·split at h
    ·exact absurd h List.not_mem_nil
    ·exact⟨k,by omega,by assumption,h⟩
  ·rintro⟨u,hu,h1,h2⟩
   by_cases e:u=k
   ·right;subst e;rw[if_neg h1];exact h2
   ·left;exact⟨u,by omega,h1,h2⟩
theorem take_suc(t:List Int)(n:Nat)(h:n<t.length):t.take (n+1)=t.take n++[t.getD n 0]:=by
 rw[List.take_succ_eq_append_getElem h];simp[List.getD_eq_getElem?_getD,h]
theorem mem_trF{s:Stand}{t:List Int}:∀ {n:Nat} {first:List Int},first.length+n=s.gs.toNat->0<=s.gs->(t∈trF s n first<->isTr s t=true/\t.take first.length=first):=by
 intro n;induction n with
 |zero=>
  intro first hl hg
  rw[trF]
  constructor
  ·intro h
   split at h
   ·rename_i c
    rw[List.mem_singleton.1 h];exact⟨c,by simp⟩
   ·exact absurd h List.not_mem_nil
  ·rintro⟨h1,h2⟩
   have:=(isTr_of h1).1
   rw[List.take_of_length_le (by omega)]at h2
   subst h2;rw[if_pos h1];exact List.mem_singleton.2 rfl
 |succ n ih=>
  intro first hl hg
  rw[trF,mem_trK]
  constructor
  ·rintro⟨u,hu,h1,h2⟩
   rw[ih (by simp;omega) hg]at h2
   refine⟨h2.1,?_⟩
   have e:=congrArg (List.take first.length) h2.2
   rw[List.take_take,List.length_append]at e
   simp at e;exact e
  ·rintro⟨h1,h2⟩
   have a:=isTr_of h1
   have hlt:first.length<t.length:=by omega
   have b:=tk_to a.2.1 first.length hlt
   refine⟨(t.getD first.length 0).toNat,by omega,?_,?_⟩
   ·rw[Int.toNat_of_nonneg b.1.1,<- h2]
    have c:=b.2
    have e:(List.take first.length t).length=first.length:=by simp;omega
    rw[e];exact c
   ·rw[ih (by simp;omega) hg,Int.toNat_of_nonneg b.1.1]
    refine⟨h1,?_⟩
    rw[List.length_append,List.length_singleton,take_suc _ _ hlt,h2]
theorem nd_trF{s:Stand}:∀ {n:Nat} {first:List Int},first.length+n=s.gs.toNat->0<=s.gs->(trF s n first).Nodup:=by
 intro n;induction n with
 |zero=>intro first _ _;rw[trF];split<;>simp
 |succ n ih=>
  intro first hl hg
  rw[trF]
  have key:∀k,(trK (trF s n) first k).Nodup:=by
   intro k;induction k with
   |zero=>simp[trK]
   |succ k ihk=>
    rw[trK,List.nodup_append]
    refine⟨ihk,?_,?_⟩
    ·split
     ·simp
     ·exact ih (by simp;omega) hg
    ·intro a ha b hb e
     subst e
     split at hb
     ·exact absurd hb List.not_mem_nil
     ·obtain⟨u,hu,_,h2⟩:=mem_trK.1 ha
      rw[mem_trF (by simp;omega) hg]at hb h2
      have e:=hb.2.symm.trans (by simpa using h2.2)
      have e:=List.append_cancel_left e
      simp at e;omega
  exact key _
theorem mem_truths{s:Stand}{t:List Int}(hg:0<=s.gs):t∈truths s<->isTr s t=true:=by
 rw[truths,mem_trF (by simp) hg];simp
theorem nd_truths{s:Stand}(hg:0<=s.gs):(truths s).Nodup:=nd_trF (by simp) hg
theorem mem_where{l:List (List Int)}{g u:Int}{t:List Int}:t∈whereL l g u<->t∈l/\t.getD g.toNat 0=u:=by
 rw[whereL,List.mem_filter];simp
theorem mem_tookK{l:List (List Int)}{g:Int}{x:Int}:∀ {k:Nat},x∈tookK l g k<->∃u:Nat,u<k/\x=(u:Int)/\∃t∈l,t.getD g.toNat 0=x:=by
 intro k;induction k with
 |zero=>simp[tookK]
 |succ k ih=>
  rw[tookK,List.mem_append,ih]
  have key:(whereL l g (k:Int)).length>0<->∃t∈l,t.getD g.toNat 0=(k:Int):=by
   rw[gt_iff_lt,List.length_pos_iff_exists_mem]
   exact⟨fun⟨t,h⟩=>⟨t,(mem_where.1 h).1,(mem_where.1 h).2⟩,fun⟨t,h1,h2⟩=>⟨t,mem_where.2 ⟨h1,h2⟩⟩⟩
  constructor
  ·rintro(⟨u,hu,e,h⟩|h)
   ·exact⟨u,by omega,e,h⟩
   ·split at h
    ·rename_i c
     have e:=List.mem_singleton.1 h
     refine⟨k,by omega,e,?_⟩
     rw[e];exact key.1 c
    ·exact absurd h List.not_mem_nil
  ·rintro⟨u,hu,e,h⟩
   by_cases c:u=k
   ·right
    subst c;rw[e]at h
    rw[if_pos (key.2 h)];exact List.mem_singleton.2 e
   ·left;exact⟨u,by omega,e,h⟩
theorem tookK_rise{l:List (List Int)}{g:Int}:∀ {k:Nat},(tookK l g k).Pairwise (· < ·):=by
 intro k;induction k with
 |zero=>simp[tookK]
 |succ k ih=>
  rw[tookK,List.pairwise_append]
  refine⟨ih,by split<;>simp,?_⟩
  intro a ha b hb
  obtain⟨u,hu,e,_⟩:=mem_tookK.1 ha
  split at hb
  ·have:=List.mem_singleton.1 hb;omega
  ·exact absurd hb List.not_mem_nil
theorem mem_tookL{s:Stand}{l:List (List Int)}{g:Int}{x:Int}(hl:∀t∈l,(t.length:Int)=s.gs/\tk t)(h0:0<=g)(h1:g<s.gs):x∈tookL l g s.gs<->∃t∈l,t.getD g.toNat 0=x:=by
 rw[tookL,mem_tookK]
 constructor
 ·rintro⟨_,_,_,h⟩;exact h
 ·rintro⟨t,ht,e⟩
  have a:=hl t ht
  have b:=tk_lt a.2 g.toNat (by omega)
  refine⟨x.toNat,by omega,by omega,t,ht,e⟩
theorem rise_eq:∀ {a b:List Int},a.Pairwise (· < ·)->b.Pairwise (· < ·)->(∀x,x∈a<->x∈b)->a=b:=by
 intro a;induction a with
 |nil=>
  intro b _ _ h
  cases b with
  |nil=>rfl
  |cons y b=>exact absurd ((h y).2 (List.mem_cons_self ..)) List.not_mem_nil
 |cons x a ih=>
  intro b ha hb h
  cases b with
  |nil=>exact absurd ((h x).1 (List.mem_cons_self ..)) List.not_mem_nil
  |cons y b=>
   rw[List.pairwise_cons]at ha hb
   have e:x=y:=by
    rcases List.mem_cons.1 ((h x).1 (List.mem_cons_self ..))with c|c
    ·exact c
    ·rcases List.mem_cons.1 ((h y).2 (List.mem_cons_self ..))with d|d
     ·exact d.symm
     ·have:=hb.1 x c;have:=ha.1 y d;omega
   subst e
   rw[ih ha.2 hb.2]
   intro z
   have:=h z
   simp only[List.mem_cons]at this
   constructor
   ·intro hz
    rcases this.1 (Or.inr hz)with c|c
    ·have:=ha.1 z hz;omega
    ·exact c
   ·intro hz
    rcases this.2 (Or.inr hz)with c|c
    ·have:=hb.1 z hz;omega
    ·exact c
def knA(f:List (List Int)->Bool)(l:List (List Int))(gs g:Nat):Bool:=(List.range gs).all fun u=>f (whereL l (g:Int) (u:Int))
def kn(gs:Nat):Nat->List (List Int)->Bool
 |0,l=>decide (l.length<=1)
 |n+1,l=>decide (l.length<=1)||(List.range gs).any fun g=>knA (kn gs n) l gs g
theorem knA_iff{f:List (List Int)->Bool}{l:List (List Int)}{gs g:Nat}:knA f l gs g=true<->∀u,u<gs->f (whereL l (g:Int) (u:Int))=true:=by
 simp[knA]
theorem kn_suc{gs n:Nat}{l:List (List Int)}:kn gs (n+1) l=true<->l.length<=1\/∃g,g<gs/\knA (kn gs n) l gs g=true:=by
 simp[kn]
theorem kn_one{gs n:Nat}{l:List (List Int)}(h:l.length<=1):kn gs n l=true:=by
 cases n with
 |zero=>simpa[kn]using h
 |succ n=>exact kn_suc.2 (Or.inl h)
theorem kn_zero{gs:Nat}{l:List (List Int)}:kn gs 0 l=true<->l.length<=1:=by simp[kn]
theorem kn_up{gs:Nat}:∀ {n:Nat} {l:List (List Int)},kn gs n l=true->kn gs (n+1) l=true:=by
 intro n;induction n with
 |zero=>intro l h;exact kn_one (kn_zero.1 h)
 |succ n ih=>
  intro l h
  rw[kn_suc]at *
  rcases h with c|⟨g,hg,hk⟩
  ·left;exact c
  ·right;exact⟨g,hg,knA_iff.2 fun u hu=>ih (knA_iff.1 hk u hu)⟩
theorem nd_where{l:List (List Int)}(h:l.Nodup)(g u:Int):(whereL l g u).Nodup:=List.Pairwise.filter _ h
theorem len_one{α : Type}{l:List α}(hn:l.Nodup)(h:∀a∈l,∀b∈l,a=b):l.length<=1:=by
 match l,hn,h with
 | [],_,_=>simp
 | [_],_,_=>simp
 |a::b::l,hn,h=>
  have:=h a (by simp) b (by simp)
  rw[List.nodup_cons]at hn
  exact absurd (by rw[this];exact List.mem_cons_self ..) hn.1
theorem ext_getD{a b:List Int}(hl:a.length=b.length)(h:∀i,i<a.length->a.getD i 0=b.getD i 0):a=b:=by
 apply List.ext_getElem hl
 intro i h1 h2
 have:=h i h1
 simpa[List.getD_eq_getElem?_getD,h1,h2]using this
theorem tk_last{a b:List Int}{n:Nat}(ha:tk a)(hb:tk b)(la:a.length=n)(lb:b.length=n)(h:∀i,i+1<n->a.getD i 0=b.getD i 0):a=b:=by
 apply ext_getD (by omega)
 intro i hi
 by_cases c:i+1<n
 ·exact h i c
 ·-- the last guest has the one that nobody else has
  have x:=tk_lt ha i hi
  have y:=tk_lt hb i (by omega)
  obtain⟨j,hj,ej⟩:=tk_has ha (b.getD i 0).toNat (by omega)
  have z:=tk_lt ha j hj
  simp only[fnL]at ej
  by_cases d:j=i
  ·subst d;omega
  ·have e:=h j (by omega)
   have:=hb.2.2 j (by omega) i (by omega) (by simp only[fnL];omega)
   omega
theorem kn_agree{gs:Nat}:∀(n:Nat) {j:Nat} {l:List (List Int)},l.Nodup->(∀t∈l,t.length=gs/\tk t)->j+n+1=gs->(∀a∈l,∀b∈l,∀i,i<j->a.getD i 0=b.getD i 0)->kn gs n l=true:=by
 intro n;induction n with
 |zero=>
  intro j l hn ht hj h
  apply kn_one;apply len_one hn
  intro a ha b hb
  exact tk_last (ht a ha).2 (ht b hb).2 (ht a ha).1 (ht b hb).1 (fun i hi=>h a ha b hb i (by omega))
 |succ n ih=>
  intro j l hn ht hj h
  rw[kn_suc];right
  refine⟨j,by omega,knA_iff.2 fun u hu=>?_⟩
  refine ih (j:=j+1) (nd_where hn _ _) (fun t h=>ht t (mem_where.1 h).1) (by omega) ?_
  intro a ha b hb i hi
  rw[mem_where]at ha hb
  by_cases c:i<j
  ·exact h a ha.1 b hb.1 i c
  ·have:i=j:=by omega
   subst this
   have x:=ha.2;have y:=hb.2
   rw[Int.toNat_natCast]at x y
   rw[x,y]
theorem kn_gs{gs:Nat}{l:List (List Int)}(hn:l.Nodup)(ht:∀t∈l,t.length=gs/\tk t):kn gs (gs-1) l=true:=by
 cases gs with
 |zero=>
  apply kn_one;apply len_one hn
  intro a ha b hb
  have x:=(ht a ha).1;have y:=(ht b hb).1
  rw[List.length_eq_zero_iff.1 x,List.length_eq_zero_iff.1 y]
 |succ gs=>exact kn_agree gs (j:=0) hn ht (by omega) (fun _ _ _ _ i hi=>absurd hi (by omega))
theorem differ{gs:Nat}{l:List (List Int)}(hn:l.Nodup)(ht:∀t∈l,t.length=gs/\tk t)(h:1<l.length):∃g,g<gs/\∃a∈l,∃b∈l,a.getD g 0≠b.getD g 0:=by
 apply Classical.byContradiction;intro hc
 have:=len_one hn fun a ha b hb=>by
  apply ext_getD (by rw[(ht a ha).1,(ht b hb).1])
  intro i hi
  apply Classical.byContradiction;intro hne
  exact hc ⟨i,by rw[(ht a ha).1]at hi;exact hi,a,ha,b,hb,hne⟩
 omega
theorem kn_len{gs:Nat}:∀(n:Nat) {l:List (List Int)},l.length<=n+1->l.Nodup->(∀t∈l,t.length=gs/\tk t)->kn gs n l=true:=by
 intro n;induction n with
 |zero=>intro l hl _ _;exact kn_one (by omega)
 |succ n ih=>
  intro l hl hn ht
  by_cases c:l.length<=1
  ·exact kn_one c
  ·obtain⟨g,hg,a,ha,b,hb,hne⟩:=differ hn ht (by omega)
   rw[kn_suc];right
   refine⟨g,hg,knA_iff.2 fun u hu=>ih ?_ (nd_where hn _ _) fun t h=>ht t (mem_where.1 h).1⟩
   have:(whereL l (g:Int) (u:Int)).length<l.length:=by
    rw[whereL,List.length_filter_lt_length_iff_exists]
    by_cases d:a.getD g 0=(u:Int)
    ·exact⟨b,hb,by rw[decide_eq_true_eq,Int.toNat_natCast];omega⟩
    ·exact⟨a,ha,by rw[decide_eq_true_eq,Int.toNat_natCast];exact d⟩
   omega
theorem least(p:Nat->Bool):∀n,p n=true->∃m,m<=n/\p m=true/\∀k,k<m->p k=false:=by
 intro n
 induction n using Nat.strongRecOn with
 |ind n ih=>
  intro h
  by_cases c:∃k,k<n/\p k=true
  ·obtain⟨k,hk,hp⟩:=c
   obtain⟨m,h1,h2⟩:=ih k hk hp
   exact⟨m,by omega,h2⟩
  ·exact⟨n,Nat.le_refl _,h,fun k hk=>by
    cases e:p k with
    |false=>rfl
    |true=>exact absurd ⟨k,hk,e⟩ c⟩
open Classical in
noncomputable def qn(gs:Nat)(l:List (List Int)):Nat:=if h:∃m,kn gs m l=true/\∀k,k<m->kn gs k l=false then Classical.choose h else 0
theorem qn_spec{gs n:Nat}{l:List (List Int)}(h:kn gs n l=true):qn gs l<=n/\kn gs (qn gs l) l=true/\∀k,k<qn gs l->kn gs k l=false:=by
 obtain⟨m,h1,h2⟩:=least (fun n=>kn gs n l) n h
 have hx:∃m,kn gs m l=true/\∀k,k<m->kn gs k l=false:=⟨m,h2⟩
 have a:=Classical.choose_spec hx
 have e:qn gs l=Classical.choose hx:=by rw[qn,dif_pos hx]
 rw[e]
 refine⟨?_,a⟩
 apply Classical.byContradiction;intro c
 have:=a.2 n (by omega)
 rw[this]at h;exact Bool.noConfusion h
theorem qn_eq{gs n:Nat}{l:List (List Int)}(h:kn gs n l=true)(hm:∀k,k<n->kn gs k l=false):qn gs l=n:=by
 have a:=qn_spec h
 apply Classical.byContradiction;intro c
 have:=hm (qn gs l) (by omega)
 rw[a.2.1]at this;exact Bool.noConfusion this
theorem qn_congr{gs:Nat}{l l':List (List Int)}(h:∀n,kn gs n l=kn gs n l'):qn gs l=qn gs l':=by
 have:(fun m=>kn gs m l)=fun m=>kn gs m l':=funext h
 by_cases hx:∃n,kn gs n l=true
 ·obtain⟨n,hn⟩:=hx
  have a:=qn_spec hn
  exact(qn_eq (by rw[<- h];exact a.2.1) fun k hk=>by rw[<- h];exact a.2.2 k hk).symm
 ·have e1:qn gs l=0:=by rw[qn,dif_neg];rintro⟨m,hm,_⟩;exact hx ⟨m,hm⟩
  have e2:qn gs l'=0:=by rw[qn,dif_neg];rintro⟨m,hm,_⟩;exact hx ⟨m,by rw[h];exact hm⟩
  rw[e1,e2]
theorem qn_zero{gs n:Nat}{l:List (List Int)}(h:kn gs n l=true):qn gs l=0<->l.length<=1:=by
 have a:=qn_spec h
 constructor
 ·intro e;rw[e]at a;exact kn_zero.1 a.2.1
 ·intro e;exact qn_eq (kn_one e) fun k hk=>absurd hk (by omega)
theorem ask_two{gs n m:Nat}{l:List (List Int)}(ht:∀t∈l,t.length=gs/\tk t)(h:kn gs n l=true)(hq:qn gs l=m+1){g:Nat}(hg:g<gs)(hk:knA (kn gs m) l gs g=true):∃a∈l,∃b∈l,a.getD g 0≠b.getD g 0:=by
 apply Classical.byContradiction;intro hc
 have a:=qn_spec h
 have hl:0<l.length:=by
  apply Nat.pos_of_ne_zero;intro e
  exact absurd ((qn_zero h).2 (by omega)) (by omega)
 obtain⟨t,hm⟩:=List.length_pos_iff_exists_mem.1 hl
 have x:=tk_lt (ht t hm).2 g (by rw[(ht t hm).1];exact hg)
 have y:=knA_iff.1 hk (t.getD g 0).toNat (by rw[(ht t hm).1]at x;omega)
 have e:whereL l (g:Int) ((t.getD g 0).toNat:Int)=l:=by
  rw[whereL,List.filter_eq_self]
  intro b hb
  rw[decide_eq_true_eq,Int.toNat_natCast]
  have:b.getD g 0=t.getD g 0:=Classical.byContradiction fun hne=>hc ⟨b,hb,t,hm,hne⟩
  omega
 rw[e]at y
 have:=a.2.2 m (by omega)
 rw[y]at this;exact Bool.noConfusion this
theorem kn_ren{gs:Nat}(r:List Int->List Int)(hr:∀g,g<gs->∃g',g'<gs/\∀u',u'<gs->∃u,u<gs/\∀t,t.length=gs/\tk t->((r t).getD g' 0=((u':Nat):Int)<->t.getD g 0=(u:Int))) :
  ∀ {n:Nat} {l l':List (List Int)},(∀t∈l,t.length=gs/\tk t)->l'.Perm (l.map r)->kn gs n l=true->kn gs n l'=true:=by
 intro n;induction n with
 |zero=>intro l l' _ hp h;rw[kn_zero]at *;rw[hp.length_eq,List.length_map];exact h
 |succ n ih=>
  intro l l' hl hp h
  rw[kn_suc]at *
  rcases h with c|⟨g,hg,hk⟩
  ·left;rw[hp.length_eq,List.length_map];exact c
  ·right
   obtain⟨g',hg',hu⟩:=hr g hg
   refine⟨g',hg',knA_iff.2 fun u' hu'=>?_⟩
   obtain⟨u,hu1,hu2⟩:=hu u' hu'
   refine ih (l:=whereL l (g:Int) (u:Int)) (fun t h=>hl t (mem_where.1 h).1) ?_ (knA_iff.1 hk u hu1)
   have e:(whereL l (g:Int) (u:Int)).map r=(l.map r).filter fun t=>decide (t.getD g' 0=(u':Int)):=by
    rw[List.filter_map,whereL]
    congr 1
    apply List.filter_congr
    intro t ht
    have:=hu2 t (hl t ht)
    simp only[Function.comp,Int.toNat_natCast,decide_eq_decide]
    exact this.symm
   rw[e,whereL]
   simp only[Int.toNat_natCast]
   exact hp.filter _
theorem nd_sub_len{α : Type}[DecidableEq α]{a b:List α}(ha:a.Nodup)(hb:b.Nodup)(h:∀x∈a,x∈b):a.length<=b.length:=by
 have hp:a.Perm (b.filter fun x=>decide (x∈a)):=by
  rw[List.perm_ext_iff_of_nodup ha (List.Pairwise.filter _ hb)]
  intro x
  rw[List.mem_filter,decide_eq_true_eq]
  exact⟨fun hx=>⟨h x hx,hx⟩,fun hx=>hx.2⟩
 rw[hp.length_eq];exact List.length_filter_le ..
theorem rise_nd{a:List Int}(h:a.Pairwise (· < ·)):a.Nodup:=h.imp fun {x y} hxy=>by omega
theorem wrongs_cnt{s:Stand}{t:List Int}:∀k,k<=s.ws.length->wrongs s t k=((s.ws.take k).countP (fun w => !isSo w t):Int):=by
 intro k;induction k with
 |zero=>intro _;simp[wrongs]
 |succ k ih=>
  intro hk
  rw[wrongs,ih (by omega),List.take_succ_eq_append_getElem (by omega),List.countP_append,List.countP_singleton]
  have e:s.ws.getD k ⟨0,0,0,[]⟩=s.ws[k]:=by simp[List.getD_eq_getElem?_getD,show k<s.ws.length by omega]
  rw[e]
  cases isSo s.ws[k] t<;>simp
theorem wrongs_all(s:Stand)(t:List Int):wrongs s t s.ws.length=(s.ws.countP (fun w => !isSo w t):Int):=by
 rw[wrongs_cnt _ (Nat.le_refl _),List.take_length]
theorem isTr_cnt{s:Stand}{t:List Int}:isTr s t=true<->((t.length:Int)=s.gs/\tk t/\t.length<=7)/\(s.ws.countP (fun w => !isSo w t):Int)<=s.wr:=by
 rw[isTr_iff,wrongs_all];constructor
 ·rintro⟨a,b,c,d⟩;exact⟨⟨a,b,c⟩,d⟩
 ·rintro⟨⟨a,b,c⟩,d⟩;exact⟨a,b,c,d⟩
theorem truths_ok{s:Stand}(hg:0<=s.gs):∀t∈truths s,t.length=s.gs.toNat/\tk t:=fun t ht=>by
 have:=isTr_of ((mem_truths hg).1 ht);exact⟨by omega,this.2.1⟩
theorem truths_okI{s:Stand}(hg:0<=s.gs):∀t∈truths s,(t.length:Int)=s.gs/\tk t:=fun t ht=>by
 have:=isTr_of ((mem_truths hg).1 ht);exact⟨this.1,this.2.1⟩
theorem truths_perm{s o:Stand}(hs:0<=s.gs)(ho:0<=o.gs)(h:∀t,isTr s t=true<->isTr o t=true):(truths s).Perm (truths o):=by
 rw[List.perm_ext_iff_of_nodup (nd_truths hs) (nd_truths ho)]
 intro t;rw[mem_truths hs,mem_truths ho];exact h t
theorem kn_perm{gs n:Nat}{l l':List (List Int)}(h:l.Perm l')(hl:∀t∈l,t.length=gs/\tk t):kn gs n l=kn gs n l':=by
 have hr:∀g,g<gs->∃g',g'<gs/\∀u',u'<gs->∃u,u<gs/\∀t:List Int,t.length=gs/\tk t->((id t).getD g' 0=((u':Nat):Int)<->t.getD g 0=(u:Int)):=
  fun g hg=>⟨g,hg,fun u hu=>⟨u,hu,fun t _=>Iff.rfl⟩⟩
 rw[Bool.eq_iff_iff]
 constructor
 ·exact kn_ren id hr hl (by rw[List.map_id];exact h.symm)
 ·exact kn_ren id hr (fun t ht=>hl t (h.mem_iff.2 ht)) (by rw[List.map_id];exact h)
theorem tookL_perm{s:Stand}{l l':List (List Int)}(h:l.Perm l')(g:Int):tookL l g s.gs=tookL l' g s.gs:=by
 apply rise_eq tookK_rise tookK_rise
 intro x
 rw[mem_tookK,mem_tookK]
 constructor
 ·rintro⟨u,a,b,t,c,d⟩;exact⟨u,a,b,t,h.mem_iff.1 c,d⟩
 ·rintro⟨u,a,b,t,c,d⟩;exact⟨u,a,b,t,h.mem_iff.2 c,d⟩
theorem tookL_sub{s:Stand}{l l':List (List Int)}(h:∀t∈l',t∈l)(g:Int):∀x∈tookL l' g s.gs,x∈tookL l g s.gs:=by
 intro x
 rw[tookL,tookL,mem_tookK,mem_tookK]
 rintro⟨u,a,b,t,c,d⟩;exact⟨u,a,b,t,h t c,d⟩
theorem tookL_len{s:Stand}{l l':List (List Int)}(h:∀t∈l',t∈l)(g:Int):(tookL l' g s.gs).length<=(tookL l g s.gs).length:=
 nd_sub_len (rise_nd tookK_rise) (rise_nd tookK_rise) (tookL_sub h g)
theorem tookL_le{s:Stand}{l:List (List Int)}(g:Int)(hg:0<=s.gs):((tookL l g s.gs).length:Int)<=s.gs:=by
 have:∀k,(tookK l g k).length<=k:=by
  intro k;induction k with
  |zero=>simp[tookK]
  |succ k ih=>rw[tookK,List.length_append];split<;>simp<;>omega
 have:=this s.gs.toNat;rw[tookL];omega
def Stand.add(s:Stand)(w:Word):Stand:=⟨s.gs,s.ws++[w],s.wr⟩
theorem add_tr{s:Stand}{w:Word}{t:List Int}(h:isTr (s.add w) t=true):isTr s t=true:=by
 rw[isTr_cnt]at *
 simp only[Stand.add,List.countP_append]at h
 exact⟨h.1,by omega⟩
theorem add_len{s:Stand}{w:Word}(hg:0<=s.gs):(truths (s.add w)).length<=(truths s).length:=
 nd_sub_len (nd_truths (s:=s.add w) hg) (nd_truths hg) fun _ ht=>(mem_truths hg).2 (add_tr ((mem_truths (s:=s.add w) hg).1 ht))
theorem add_took{s:Stand}{w:Word}(hg:0<=s.gs)(g:Int):∀x∈tookL (truths (s.add w)) g s.gs,x∈tookL (truths s) g s.gs:=
 tookL_sub (s:=s) (fun _ ht=>(mem_truths hg).2 (add_tr ((mem_truths (s:=s.add w) hg).1 ht))) g
theorem add_tlen{s:Stand}{w:Word}(hg:0<=s.gs)(g:Int):(tookL (truths (s.add w)) g s.gs).length<=(tookL (truths s) g s.gs).length:=
 tookL_len (s:=s) (fun _ ht=>(mem_truths hg).2 (add_tr ((mem_truths (s:=s.add w) hg).1 ht))) g
theorem add_answer{s:Stand}{g u:Int}(hg:0<=s.gs)(hw:s.wr=0):(truths (s.add ⟨1,g,0,[u]⟩)).Perm (whereL (truths s) g u):=by
 rw[List.perm_ext_iff_of_nodup (nd_truths (s:=s.add _) hg) (nd_where (nd_truths hg) _ _)]
 intro t
 rw[mem_truths (s:=s.add _) hg,mem_where,mem_truths hg,isTr_cnt,isTr_cnt]
 have e:isSo ⟨1,g,0,[u]⟩ t=decide (t.getD g.toNat 0=u):=by simp only[isSo,if_true,List.mem_singleton]
 simp only[Stand.add,List.countP_append,List.countP_singleton,hw]
 rw[e]
 by_cases c:t.getD g.toNat 0=u
 ·rw[decide_eq_true c]
  constructor
  ·rintro⟨x,h⟩;refine⟨⟨x,?_⟩,c⟩
   rw[Bool.not_true]at h;rw[if_neg Bool.false_ne_true]at h;omega
  ·rintro⟨⟨x,h⟩,_⟩;refine⟨x,?_⟩
   rw[Bool.not_true,if_neg Bool.false_ne_true];omega
 ·rw[decide_eq_false c]
  constructor
  ·rintro⟨_,h⟩;rw[Bool.not_false,if_pos rfl]at h;omega
  ·rintro⟨_,h⟩;exact absurd h c
noncomputable def lieW(s:Stand)(w:Word):Bool := !(truths s).any fun t=>isSo w t
noncomputable def Stand.honest(s:Stand):Stand:=⟨s.gs,s.ws.filter fun w => !lieW s w,s.wr-s.ws.countP (lieW s)⟩
theorem cnt_split{α : Type}(p q : α -> Bool)(l:List α):l.countP p=(l.filter fun x => !q x).countP p+(l.filter q).countP p:=by
 induction l with
 |nil=>rfl
 |cons a l ih=>
  rw[List.countP_cons,ih,List.filter_cons,List.filter_cons]
  cases e:q a<;>simp[List.countP_cons]<;>omega
theorem lie_so{s:Stand}(hg:0<=s.gs){w:Word}{t:List Int}(ht:isTr s t=true)(hw:lieW s w=true):isSo w t=false:=by
 rw[lieW,Bool.not_eq_true',List.any_eq_false]at hw
 have:=hw t ((mem_truths hg).2 ht)
 simpa using this
theorem honest_tr{s:Stand}(hg:0<=s.gs)(t:List Int):isTr s t=true<->isTr s.honest t=true:=by
 have a:=cnt_split (fun w => !isSo w t) (lieW s) s.ws
 have b:(s.ws.filter (lieW s)).countP (fun w => !isSo w t)<=(s.ws.filter (lieW s)).length:=List.countP_le_length
 have c:=(List.countP_eq_length_filter (p:=lieW s) (l:=s.ws))
 constructor
 ·intro h
  have d:(s.ws.filter (lieW s)).countP (fun w => !isSo w t)=(s.ws.filter (lieW s)).length:=by
   rw[List.countP_eq_length]
   intro w hw
   rw[lie_so hg h (List.mem_filter.1 hw).2];rfl
  rw[isTr_cnt]at *
  simp only[Stand.honest]
  exact⟨h.1,by have:=h.2;omega⟩
 ·intro h
  rw[isTr_cnt]at *
  simp only[Stand.honest]at h
  exact⟨h.1,by have:=h.2;omega⟩
theorem honest_perm{s:Stand}(hg:0<=s.gs):(truths s).Perm (truths s.honest):=truths_perm hg hg (honest_tr hg)
theorem honest_wr{s:Stand}(hg:0<=s.gs){t:List Int}(ht:t∈truths s):(s.ws.countP (lieW s):Int)<=s.wr:=by
 have h:=(mem_truths hg).1 ht
 have a:=cnt_split (fun w => !isSo w t) (lieW s) s.ws
 have c:=(List.countP_eq_length_filter (p:=lieW s) (l:=s.ws))
 have d:(s.ws.filter (lieW s)).countP (fun w => !isSo w t)=(s.ws.filter (lieW s)).length:=by
  rw[List.countP_eq_length]
  intro w hw
  rw[lie_so hg h (List.mem_filter.1 hw).2];rfl
 rw[isTr_cnt]at h;omega
def iv(nu:List Int)(j:Nat):Nat:=nu.idxOf (j:Int)
theorem iv_ok{nu:List Int}(h:tk nu){j:Nat}(hj:j<nu.length):iv nu j<nu.length/\nu.getD (iv nu j) 0=(j:Int):=by
 obtain⟨i,hi,e⟩:=tk_has h j hj
 have x:=tk_lt h i hi
 simp only[fnL]at e
 have hm:(j:Int)∈nu:=by
  have:nu.getD i 0=nu[i]:=by simp[List.getD_eq_getElem?_getD,hi]
  rw[show(j:Int)=nu[i] by omega];exact List.getElem_mem hi
 have hl:nu.idxOf (j:Int)<nu.length:=List.idxOf_lt_length_of_mem hm
 refine⟨hl,?_⟩
 have:nu.getD (iv nu j) 0=nu[nu.idxOf (j:Int)]:=by simp[iv,List.getD_eq_getElem?_getD,hl]
 rw[this];exact List.getElem_idxOf hl
theorem nu_inj{nu:List Int}(h:tk nu){i j:Nat}(hi:i<nu.length)(hj:j<nu.length)(e:nu.getD i 0=nu.getD j 0):i=j:=
 h.2.2 i hi j hj (by simp only[fnL,e])
theorem iv_nu{nu:List Int}(h:tk nu){i:Nat}(hi:i<nu.length):iv nu (nu.getD i 0).toNat=i:=by
 have x:=tk_lt h i hi
 have y:=iv_ok h (j:=(nu.getD i 0).toNat) (by omega)
 exact nu_inj h y.1 hi (by omega)
def ren(nu t:List Int):List Int:=(List.range nu.length).map fun j=>nu.getD (t.getD (iv nu j) 0).toNat 0
def unr(nu t:List Int):List Int:=(List.range nu.length).map fun i=>(iv nu (t.getD (nu.getD i 0).toNat 0).toNat:Int)
theorem ren_len(nu t:List Int):(ren nu t).length=nu.length:=by simp[ren]
theorem unr_len(nu t:List Int):(unr nu t).length=nu.length:=by simp[unr]
theorem getR(f:Nat->Int)(n j:Nat)(h:j<n):((List.range n).map f).getD j 0=f j:=by
 simp[List.getD_eq_getElem?_getD,h]
theorem ren_get{nu t:List Int}{j:Nat}(hj:j<nu.length):(ren nu t).getD j 0=nu.getD (t.getD (iv nu j) 0).toNat 0:=getR _ _ _ hj
theorem unr_get{nu t:List Int}{j:Nat}(hj:j<nu.length):(unr nu t).getD j 0=(iv nu (t.getD (nu.getD j 0).toNat 0).toNat:Int):=getR _ _ _ hj
theorem ren_nu{nu t:List Int}(h:tk nu){g:Nat}(hg:g<nu.length):(ren nu t).getD (nu.getD g 0).toNat 0=nu.getD (t.getD g 0).toNat 0:=by
 have x:=tk_lt h g hg
 rw[ren_get (by omega),iv_nu h hg]
theorem tk_mk{l:List Int}(h1:∀i,i<l.length->0<=l.getD i 0/\l.getD i 0<l.length)(h2:∀i,i<l.length->∀j,j<l.length->l.getD i 0=l.getD j 0->i=j):tk l:=by
 refine⟨fun i hi=>(h1 i hi).1,fun i hi=>?_,fun i hi j hj e=>?_⟩
 ·have:=h1 i hi;simp only[fnL];omega
 ·have:=h1 i hi;have:=h1 j hj;simp only[fnL]at e;exact h2 i hi j hj (by omega)
theorem ren_tk{nu t:List Int}(h:tk nu)(ht:tk t)(hl:t.length=nu.length):tk (ren nu t):=by
 apply tk_mk
 ·intro i hi
  rw[ren_len]at *
  rw[ren_get hi]
  have a:=iv_ok h hi
  have b:=tk_lt ht (iv nu i) (by omega)
  have c:=tk_lt h (t.getD (iv nu i) 0).toNat (by omega)
  exact c
 ·intro i hi j hj e
  rw[ren_len]at *
  rw[ren_get hi,ren_get hj]at e
  have a:=iv_ok h hi
  have a':=iv_ok h hj
  have b:=tk_lt ht (iv nu i) (by omega)
  have b':=tk_lt ht (iv nu j) (by omega)
  have c:=nu_inj h (by omega) (by omega) e
  have d:=nu_inj ht (i:=iv nu i) (j:=iv nu j) (by omega) (by omega) (by omega)
  rw[d]at a;omega
theorem unr_tk{nu t:List Int}(h:tk nu)(ht:tk t)(hl:t.length=nu.length):tk (unr nu t):=by
 apply tk_mk
 ·intro i hi
  rw[unr_len]at *
  rw[unr_get hi]
  have a:=tk_lt h i hi
  have b:=tk_lt ht (nu.getD i 0).toNat (by omega)
  have c:=iv_ok h (j:=(t.getD (nu.getD i 0).toNat 0).toNat) (by omega)
  omega
 ·intro i hi j hj e
  rw[unr_len]at *
  rw[unr_get hi,unr_get hj]at e
  have a:=tk_lt h i hi
  have a':=tk_lt h j hj
  have b:=tk_lt ht (nu.getD i 0).toNat (by omega)
  have b':=tk_lt ht (nu.getD j 0).toNat (by omega)
  have c:=iv_ok h (j:=(t.getD (nu.getD i 0).toNat 0).toNat) (by omega)
  have c':=iv_ok h (j:=(t.getD (nu.getD j 0).toNat 0).toNat) (by omega)
  have d:(t.getD (nu.getD i 0).toNat 0).toNat=(t.getD (nu.getD j 0).toNat 0).toNat:=by
   have:=Int.ofNat.inj e;rw[this]at c;omega
  have d:=nu_inj ht (i:=(nu.getD i 0).toNat) (j:=(nu.getD j 0).toNat) (by omega) (by omega) (by omega)
  exact nu_inj h hi hj (by omega)
theorem ren_unr{nu t:List Int}(h:tk nu)(ht:tk t)(hl:t.length=nu.length):ren nu (unr nu t)=t:=by
 apply ext_getD (by rw[ren_len,hl])
 intro j hj
 rw[ren_len]at hj
 have a:=iv_ok h hj
 have b:=tk_lt ht j (by omega)
 rw[ren_get hj,unr_get a.1,a.2,Int.toNat_natCast,Int.toNat_natCast]
 have c:=iv_ok h (j:=(t.getD j 0).toNat) (by omega)
 rw[c.2];omega
theorem unr_ren{nu t:List Int}(h:tk nu)(ht:tk t)(hl:t.length=nu.length):unr nu (ren nu t)=t:=by
 apply ext_getD (by rw[unr_len,hl])
 intro j hj
 rw[unr_len]at hj
 have b:=tk_lt ht j (by omega)
 rw[unr_get hj,ren_nu h hj,iv_nu h (by omega)];omega
def rnK(nu l:List Int):Nat->List Int
 |0=>[]
 |k+1=>rnK nu l k++(l.filter fun x=>decide (nu.getD x.toNat 0=(k:Int))).map fun _=>(k:Int)
theorem mem_rnK{nu l:List Int}{x:Int}:∀ {k:Nat},x∈rnK nu l k<->∃u:Nat,u<k/\x=(u:Int)/\∃y∈l,nu.getD y.toNat 0=x:=by
 intro k;induction k with
 |zero=>simp[rnK]
 |succ k ih=>
  rw[rnK,List.mem_append,ih,List.mem_map]
  constructor
  ·rintro(⟨u,hu,h⟩|⟨y,hy,e⟩)
   ·exact⟨u,by omega,h⟩
   ·rw[List.mem_filter,decide_eq_true_eq]at hy
    exact⟨k,by omega,e.symm,y,hy.1,by rw[hy.2,e]⟩
  ·rintro⟨u,hu,e,y,hy,h⟩
   by_cases c:u=k
   ·right;subst c;exact⟨y,by rw[List.mem_filter,decide_eq_true_eq];exact⟨hy,by rw[h,e]⟩,e.symm⟩
   ·left;exact⟨u,by omega,e,y,hy,h⟩
theorem rnK_rise{nu l:List Int}(h:tk nu)(hl:∀y∈l,0<=y/\y<nu.length)(hn:l.Nodup):∀ {k:Nat},(rnK nu l k).Pairwise (· < ·):=by
 intro k;induction k with
 |zero=>simp[rnK]
 |succ k ih=>
  rw[rnK,List.pairwise_append]
  refine⟨ih,?_,?_⟩
  ·have:(l.filter fun x=>decide (nu.getD x.toNat 0=(k:Int))).length<=1:=by
    apply len_one (List.Pairwise.filter _ hn)
    intro a ha b hb
    rw[List.mem_filter,decide_eq_true_eq]at ha hb
    have x:=hl a ha.1;have y:=hl b hb.1
    have:=nu_inj h (i:=a.toNat) (j:=b.toNat) (by omega) (by omega) (by omega)
    omega
   generalize (l.filter fun x=>decide (nu.getD x.toNat 0=(k:Int)))=m at this⊢
   match m,this with
   | [],_=>simp
   | [_],_=>simp
   |_::_::_,t=>simp at t
  ·intro a ha b hb
   obtain⟨u,hu,e,_⟩:=mem_rnK.1 ha
   obtain⟨y,_,e2⟩:=List.mem_map.1 hb
   omega
theorem mem_rn{nu l:List Int}(h:tk nu)(hl:∀y∈l,0<=y/\y<nu.length){x:Int}:x∈rnK nu l nu.length<->∃y∈l,nu.getD y.toNat 0=x:=by
 rw[mem_rnK]
 constructor
 ·rintro⟨_,_,_,h⟩;exact h
 ·rintro⟨y,hy,e⟩
  have a:=hl y hy
  have b:=tk_lt h y.toNat (by omega)
  exact⟨x.toNat,by omega,by omega,y,hy,e⟩
def renW(nu:List Int)(w:Word):Word:=⟨w.k,nu.getD w.g.toNat 0,if w.k=3\/w.k=4 then nu.getD w.o.toNat 0 else 0,rnK nu w.am nu.length⟩
def Stand.ren(s:Stand)(nu:List Int):Stand:=⟨s.gs,s.ws.map (renW nu),s.wr⟩
theorem isWo_of{s:Stand}{w:Word}(h:isWo s w=true):(0<=w.g/\w.g<s.gs)/\(0<=w.o/\w.o<s.gs)/\((w.k=3\/w.k=4)/\w.am.length=0/\w.g≠w.o\/¬(w.k=3\/w.k=4)/\(w.k=1\/w.k=2)/\w.am.length≠0/\w.o=0/\riseP s w.am w.am.length):=by
 simp only[isWo,isG,Bool.and_eq_true,decide_eq_true_eq]at h
 refine⟨h.1,h.2.1,?_⟩
 have h:=h.2.2
 split at h
 ·rename_i c;left;exact⟨c,of_decide_eq_true h⟩
 ·rename_i c
  simp only[Bool.and_eq_true,decide_eq_true_eq]at h
  right;exact⟨c,h.1.1,h.1.2.1,h.1.2.2,h.2⟩
theorem am_ok{s:Stand}{w:Word}(h:isWo s w=true):∀y∈w.am,0<=y/\y<s.gs:=by
 intro y hy
 rcases(isWo_of h).2.2 with c|c
 ·rw[List.length_eq_zero_iff.1 c.2.1]at hy;exact absurd hy List.not_mem_nil
 ·obtain⟨i,hi,e⟩:=List.getElem_of_mem hy
  have:=(c.2.2.2.2 i hi).1
  simp[List.getD_eq_getElem?_getD,hi,e]at this;exact this
theorem riseP_pw{s:Stand}{l:List Int}(h:riseP s l l.length):l.Pairwise (· < ·):=by
 rw[List.pairwise_iff_getElem]
 have key:∀d i,i+d+1<l.length->l.getD i 0<l.getD (i+d+1) 0:=by
  intro d;induction d with
  |zero=>intro i hi;exact(h (i+1) hi).2 (by omega)
  |succ d ih=>
   intro i hi
   have a:=ih i (by omega)
   have b:=(h (i+(d+1)+1) hi).2 (by omega)
   have:i+(d+1)+1-1=i+d+1:=by omega
   rw[this]at b;omega
 intro i j hi hj hij
 have:=key (j-i-1) i (by omega)
 rw[show i+(j-i-1)+1=j by omega]at this
 simpa[List.getD_eq_getElem?_getD,hi,hj]using this
theorem am_rise{s:Stand}{w:Word}(h:isWo s w=true):w.am.Pairwise (· < ·):=by
 rcases(isWo_of h).2.2 with c|c
 ·rw[List.length_eq_zero_iff.1 c.2.1];exact List.Pairwise.nil
 ·exact riseP_pw c.2.2.2.2
theorem isSo_ren{s:Stand}{nu t:List Int}{w:Word}(h:tk nu)(hg:(nu.length:Int)=s.gs)(ht:tk t)(hl:t.length=nu.length)(hw:isWo s w=true):isSo (renW nu w) (ren nu t)=isSo w t:=by
 have a:=isWo_of hw
 have ew:(renW nu w).k=w.k:=rfl
 have eg:(renW nu w).g=nu.getD w.g.toNat 0:=rfl
 have xg:=tk_lt ht w.g.toNat (by omega)
 have xo:=tk_lt ht w.o.toNat (by omega)
 have ng:=tk_lt h w.g.toNat (by omega)
 have no:=tk_lt h w.o.toNat (by omega)
 have e1:(ren nu t).getD (nu.getD w.g.toNat 0).toNat 0=nu.getD (t.getD w.g.toNat 0).toNat 0:=ren_nu h (by omega)
 have e2:(ren nu t).getD (nu.getD w.o.toNat 0).toNat 0=nu.getD (t.getD w.o.toNat 0).toNat 0:=ren_nu h (by omega)
 have inj:∀x y:Int,0<=x->x<nu.length->0<=y->y<nu.length->(nu.getD x.toNat 0=nu.getD y.toNat 0<->x=y):=by
  intro x y x0 x1 y0 y1
  constructor
  ·intro e;have:=nu_inj h (i:=x.toNat) (j:=y.toNat) (by omega) (by omega) e;omega
  ·intro e;rw[e]
 have mm:nu.getD (t.getD w.g.toNat 0).toNat 0∈rnK nu w.am nu.length<->t.getD w.g.toNat 0∈w.am:=by
  rw[mem_rn h (by intro y hy;have:=am_ok hw y hy;omega)]
  constructor
  ·rintro⟨y,hy,e⟩
   have z:=am_ok hw y hy
   have:=(inj y (t.getD w.g.toNat 0) (by omega) (by omega) (by omega) (by omega)).1 e
   rw[<- this];exact hy
  ·intro hy;exact⟨_,hy,rfl⟩
 rcases a.2.2 with⟨c,_,hne⟩|⟨c,d,_⟩
 ·have eo:(renW nu w).o=nu.getD w.o.toNat 0:=by simp only[renW];rw[if_pos c]
  simp only[isSo,ew,eg,eo]
  have n1:¬w.k=1:=by omega
  have n2:¬w.k=2:=by omega
  rw[e1,e2]
  simp only[if_neg n1,if_neg n2]
  have i1:=inj (t.getD w.g.toNat 0) w.o (by omega) (by omega) (by omega) (by omega)
  have i2:=inj (t.getD w.o.toNat 0) w.g (by omega) (by omega) (by omega) (by omega)
  have i3:=inj (t.getD w.g.toNat 0) w.g (by omega) (by omega) (by omega) (by omega)
  have i4:=inj (t.getD w.o.toNat 0) w.o (by omega) (by omega) (by omega) (by omega)
  by_cases k3:w.k=3
  ·simp only[if_pos k3];rw[decide_eq_decide];exact and_congr i1 i2
  ·simp only[if_neg k3];rw[decide_eq_decide];exact or_congr i3 i4
 ·have ea:(renW nu w).am=rnK nu w.am nu.length:=rfl
  simp only[isSo,ew,eg,ea]
  rw[e1]
  by_cases k1:w.k=1
  ·rw[if_pos k1,if_pos k1,decide_eq_decide];exact mm
  ·have k2:w.k=2:=by omega
   simp only[if_neg k1,if_pos k2]
   congr 1;rw[decide_eq_decide];exact mm
theorem ren_tr{s:Stand}{nu t:List Int}(h:tk nu)(hg:(nu.length:Int)=s.gs)(hw:∀w∈s.ws,isWo s w=true)(ht:tk t)(hl:t.length=nu.length):isTr (s.ren nu) (ren nu t)=true<->isTr s t=true:=by
 rw[isTr_cnt,isTr_cnt]
 have e:(s.ren nu).ws.countP (fun w => !isSo w (ren nu t))=s.ws.countP (fun w => !isSo w t):=by
  simp only[Stand.ren,List.countP_map]
  apply List.countP_congr
  intro w hm
  simp only[Function.comp,isSo_ren h hg ht hl (hw w hm)]
 rw[e]
 simp only[Stand.ren,ren_len,hl]
 have:=ren_tk h ht hl
 constructor
 ·rintro⟨⟨x,_,z⟩,y⟩;exact⟨⟨x,ht,z⟩,y⟩
 ·rintro⟨⟨x,_,z⟩,y⟩;exact⟨⟨x,this,z⟩,y⟩
theorem ren_perm{s:Stand}{nu:List Int}(h:tk nu)(hg:(nu.length:Int)=s.gs)(hw:∀w∈s.ws,isWo s w=true):(truths (s.ren nu)).Perm ((truths s).map (ren nu)):=by
 have h0:0<=s.gs:=by omega
 have hnd:((truths s).map (ren nu)).Nodup:=by
  rw[List.Nodup,List.pairwise_map]
  refine List.Pairwise.imp_of_mem ?_ (nd_truths h0)
  intro a b ha hb hne e
  have x:=truths_ok h0 a ha;have y:=truths_ok h0 b hb
  have:=congrArg (unr nu) e
  rw[unr_ren h x.2 (by omega),unr_ren h y.2 (by omega)]at this
  exact hne this
 rw[List.perm_ext_iff_of_nodup (nd_truths (s:=s.ren nu) h0) hnd]
 intro t
 rw[mem_truths (s:=s.ren nu) h0,List.mem_map]
 constructor
 ·intro ht
  have a:=isTr_of ht
  have hl:t.length=nu.length:=by have:=a.1;simp only[Stand.ren]at this;omega
  refine⟨unr nu t,?_,ren_unr h a.2.1 hl⟩
  rw[mem_truths h0,<- ren_tr h hg hw (unr_tk h a.2.1 hl) (unr_len _ _),ren_unr h a.2.1 hl];exact ht
 ·rintro⟨a,ha,rfl⟩
  have x:=truths_ok h0 a ha
  rw[ren_tr h hg hw x.2 (by omega)];exact(mem_truths h0).1 ha
theorem ren_many{s:Stand}{nu:List Int}(h:tk nu)(hg:(nu.length:Int)=s.gs)(hw:∀w∈s.ws,isWo s w=true):(truths (s.ren nu)).length=(truths s).length:=by
 rw[(ren_perm h hg hw).length_eq,List.length_map]
theorem ren_took{s:Stand}{nu:List Int}(h:tk nu)(hg:(nu.length:Int)=s.gs)(hw:∀w∈s.ws,isWo s w=true){g:Int}(g0:0<=g)(g1:g<s.gs) :
  tookL (truths (s.ren nu)) (nu.getD g.toNat 0) s.gs=rnK nu (tookL (truths s) g s.gs) nu.length:=by
 have h0:0<=s.gs:=by omega
 have hb:∀y∈tookL (truths s) g s.gs,0<=y/\y<nu.length:=by
  intro y hy
  obtain⟨u,hu,e,_⟩:=mem_tookK.1 hy
  omega
 have ng:=tk_lt h g.toNat (by omega)
 apply rise_eq tookK_rise (rnK_rise h hb (rise_nd tookK_rise))
 intro x
 show x∈tookL _ _ _<->_
 rw[mem_tookL (s:=s) (l:=truths (s.ren nu)) (fun t ht=>truths_okI (s:=s.ren nu) h0 t ht) (by omega) (by omega),mem_rn h hb]
 constructor
 ·rintro⟨t,ht,e⟩
  obtain⟨a,ha,rfl⟩:=List.mem_map.1 ((ren_perm h hg hw).mem_iff.1 ht)
  rw[ren_nu h (by omega)]at e
  exact⟨a.getD g.toNat 0,(mem_tookL (s:=s) (truths_okI h0) g0 g1).2 ⟨a,ha,rfl⟩,e⟩
 ·rintro⟨y,hy,e⟩
  obtain⟨a,ha,ea⟩:=(mem_tookL (s:=s) (truths_okI h0) g0 g1).1 hy
  refine⟨ren nu a,(ren_perm h hg hw).mem_iff.2 (List.mem_map.2 ⟨a,ha,rfl⟩),?_⟩
  rw[ren_nu h (by omega),ea];exact e
theorem chk_ok{s:Stand}:s.chk=0<->(0<=s.gs/\s.gs<=7)/\(0<=s.wr/\s.wr<=7)/\s.ws.length<=20/\∀w∈s.ws,isWo s w=true:=by
 rw[Stand.chk]
 constructor
 ·intro h
  split at h
  ·omega
  ·split at h
   ·omega
   ·split at h
    ·rename_i c;exact⟨by omega,by omega,by omega,List.all_eq_true.1 c⟩
    ·omega
 ·rintro⟨a,b,c,d⟩
  rw[if_neg (by omega),if_neg (by omega),if_pos (List.all_eq_true.2 d)]
theorem pw_riseP{s:Stand}{l:List Int}(hb:∀y∈l,0<=y/\y<s.gs)(h:l.Pairwise (· < ·)):riseP s l l.length:=by
 intro i hi
 have e:∀j,(hj:j<l.length)->l.getD j 0=l[j]:=fun j hj=>by simp[List.getD_eq_getElem?_getD,hj]
 refine⟨by rw[e i hi];exact hb _ (List.getElem_mem hi),fun h0=>?_⟩
 rw[e i hi,e (i-1) (by omega)]
 exact List.pairwise_iff_getElem.1 h (i-1) i (by omega) hi (by omega)
theorem isWo_to{s:Stand}{w:Word}(h1:0<=w.g/\w.g<s.gs)(h2:0<=w.o/\w.o<s.gs)(h3:(w.k=3\/w.k=4)/\w.am.length=0/\w.g≠w.o\/¬(w.k=3\/w.k=4)/\(w.k=1\/w.k=2)/\w.am.length≠0/\w.o=0/\riseP s w.am w.am.length):isWo s w=true:=by
 simp only[isWo,isG,Bool.and_eq_true,decide_eq_true_eq]
 refine⟨h1,h2,?_⟩
 rcases h3 with⟨c,h⟩|⟨c,a,b,d,e⟩
 ·rw[if_pos c];exact decide_eq_true h
 ·rw[if_neg c];simp only[Bool.and_eq_true,decide_eq_true_eq];exact⟨⟨a,b,d⟩,e⟩
theorem isWo_gs{s o:Stand}(h:s.gs=o.gs)(w:Word):isWo s w=isWo o w:=by
 have e:riseP s w.am w.am.length<->riseP o w.am w.am.length:=by simp only[riseP,h]
 rw[Bool.eq_iff_iff]
 constructor
 ·intro x;have x:=isWo_of x;rw[h,e]at x;exact isWo_to x.1 x.2.1 x.2.2
 ·intro x;have x:=isWo_of x;rw[<- h,<- e]at x;exact isWo_to x.1 x.2.1 x.2.2
theorem isWo_ren{s:Stand}{nu:List Int}{w:Word}(h:tk nu)(hg:(nu.length:Int)=s.gs)(hw:isWo s w=true):isWo (s.ren nu) (renW nu w)=true:=by
 have a:=isWo_of hw
 have hb:∀y∈w.am,0<=y/\y<nu.length:=by intro y hy;have:=am_ok hw y hy;omega
 have ng:=tk_lt h w.g.toNat (by omega)
 have no:=tk_lt h w.o.toNat (by omega)
 have eg:(s.ren nu).gs=s.gs:=rfl
 apply isWo_to
 ·rw[eg];show 0<=nu.getD w.g.toNat 0/\nu.getD w.g.toNat 0<s.gs;omega
 ·rw[eg];show 0<=(if w.k=3\/w.k=4 then nu.getD w.o.toNat 0 else 0)/\(if w.k=3\/w.k=4 then nu.getD w.o.toNat 0 else 0)<s.gs
  split<;>omega
 ·rcases a.2.2 with⟨c,d,e⟩|⟨c,d,e,f,g⟩
  ·left
   refine⟨c,?_,?_⟩
   ·show(rnK nu w.am nu.length).length=0
    rw[List.length_eq_zero_iff.1 d,List.length_eq_zero_iff,List.eq_nil_iff_forall_not_mem]
    intro x hx
    obtain⟨_,_,_,y,hy,_⟩:=mem_rnK.1 hx
    exact absurd hy List.not_mem_nil
   ·show nu.getD w.g.toNat 0≠if w.k=3\/w.k=4 then nu.getD w.o.toNat 0 else 0
    rw[if_pos c]
    intro x
    have:=nu_inj h (i:=w.g.toNat) (j:=w.o.toNat) (by omega) (by omega) x;omega
  ·right
   refine⟨c,d,?_,?_,?_⟩
   ·show(rnK nu w.am nu.length).length≠0
    obtain⟨y,hy⟩:=List.length_pos_iff_exists_mem.1 (Nat.pos_of_ne_zero e)
    have:=List.length_pos_of_mem ((mem_rn h hb).2 ⟨y,hy,rfl⟩);omega
   ·show(if w.k=3\/w.k=4 then nu.getD w.o.toNat 0 else 0)=0
    rw[if_neg c]
   ·apply pw_riseP
    ·intro x hx
     obtain⟨u,hu,e,_⟩:=mem_rnK.1 hx
     rw[eg];omega
    ·exact rnK_rise h hb (rise_nd (am_rise hw))
theorem chk_ren{s:Stand}{nu:List Int}(h:tk nu)(hg:(nu.length:Int)=s.gs)(hs:s.chk=0):(s.ren nu).chk=0:=by
 rw[chk_ok]at *
 refine⟨hs.1,hs.2.1,by simp only[Stand.ren,List.length_map];exact hs.2.2.1,?_⟩
 intro w hw
 obtain⟨v,hv,rfl⟩:=List.mem_map.1 hw
 exact isWo_ren h hg (hs.2.2.2 v hv)
theorem kn_num{s:Stand}{nu:List Int}(h:tk nu)(hg:(nu.length:Int)=s.gs)(hw:∀w∈s.ws,isWo s w=true)(n:Nat):kn s.gs.toNat n (truths (s.ren nu))=kn s.gs.toNat n (truths s):=by
 have h0:0<=s.gs:=by omega
 have hp:=ren_perm h hg hw
 rw[Bool.eq_iff_iff]
 constructor
 ·refine kn_ren (unr nu) ?_ (truths_ok (s:=s.ren nu) h0) ?_
  ·intro g hg1
   have a:=iv_ok h (j:=g) (by omega)
   refine⟨iv nu g,by omega,fun u' hu'=>?_⟩
   have b:=tk_lt h u' (by omega)
   refine⟨(nu.getD u' 0).toNat,by omega,fun t ht=>?_⟩
   have x:=tk_lt ht.2 g (by omega)
   have c:=iv_ok h (j:=(t.getD g 0).toNat) (by omega)
   rw[unr_get (by omega),a.2,Int.toNat_natCast,Int.toNat_of_nonneg b.1]
   constructor
   ·intro e
    have e:=Int.ofNat.inj e
    rw[<- e,c.2];omega
   ·intro e;rw[e,iv_nu h (by omega)]
  ·have e:(truths s)=((truths s).map (ren nu)).map (unr nu):=by
    rw[List.map_map]
    conv=>lhs;rw[<- List.map_id (truths s)]
    apply List.map_congr_left
    intro t ht
    have x:=truths_ok h0 t ht
    exact(unr_ren h x.2 (by omega)).symm
   rw[e];exact(hp.map _).symm
 ·refine kn_ren (ren nu) ?_ (truths_ok h0) hp
  intro g hg1
  have a:=tk_lt h g (by omega)
  refine⟨(nu.getD g 0).toNat,by omega,fun u' hu'=>?_⟩
  have b:=iv_ok h (j:=u') (by omega)
  refine⟨iv nu u',by omega,fun t ht=>?_⟩
  rw[ren_nu h (by omega)]
  have x:=tk_lt ht.2 g (by omega)
  constructor
  ·intro e
   have:=nu_inj h (i:=(t.getD g 0).toNat) (j:=iv nu u') (by omega) (by omega) (by omega);omega
  ·intro e;rw[e,Int.toNat_natCast,b.2]
theorem qn_num{s:Stand}{nu:List Int}(h:tk nu)(hg:(nu.length:Int)=s.gs)(hw:∀w∈s.ws,isWo s w=true):qn s.gs.toNat (truths (s.ren nu))=qn s.gs.toNat (truths s):=
 qn_congr (kn_num h hg hw)
theorem chk_honest{s:Stand}(hs:s.chk=0){t:List Int}(ht:t∈truths s):s.honest.chk=0:=by
 rw[chk_ok]at *
 have a:=honest_wr hs.1.1 ht
 refine⟨hs.1,⟨?_,?_⟩,?_,?_⟩
 ·show 0<=s.wr-(s.ws.countP (lieW s):Int);omega
 ·show s.wr-(s.ws.countP (lieW s):Int)<=7;omega
 ·have:=List.length_filter_le (fun w => !lieW s w) s.ws
  show(s.ws.filter fun w => !lieW s w).length<=20;omega
 ·intro w hw
  rw[isWo_gs (s:=s.honest) (o:=s) rfl]
  exact hs.2.2.2 w (List.mem_filter.1 hw).1
theorem chk_answer{s:Stand}(hs:s.chk=0)(hl:s.ws.length<20){g u:Int}(hg:0<=g/\g<s.gs)(hu:0<=u/\u<s.gs):(s.add ⟨1,g,0,[u]⟩).chk=0:=by
 rw[chk_ok]at *
 refine⟨hs.1,hs.2.1,by simp only[Stand.add,List.length_append,List.length_singleton];omega,?_⟩
 intro w hw
 rw[isWo_gs (s:=s.add _) (o:=s) rfl]
 rcases List.mem_append.1 hw with c|c
 ·exact hs.2.2.2 w c
 ·rw[List.mem_singleton.1 c]
  apply isWo_to hg (by dsimp only;omega)
  right
  refine⟨by dsimp only;omega,by dsimp only;omega,by simp,rfl,?_⟩
  apply pw_riseP
  ·intro y hy;rw[List.mem_singleton.1 hy];exact hu
  ·simp
theorem answer_qn{s:Stand}{g u:Int}{m:Nat}(hg:0<=s.gs)(hw:s.wr=0)(g0:0<=g)(hk:knA (kn s.gs.toNat m) (truths s) s.gs.toNat g.toNat=true)(hu:0<=u/\u<s.gs):qn s.gs.toNat (truths (s.add ⟨1,g,0,[u]⟩))<=m:=by
 have a:=knA_iff.1 hk u.toNat (by omega)
 have b:=add_answer (s:=s) (g:=g) (u:=u) hg hw
 rw[Int.toNat_of_nonneg g0,Int.toNat_of_nonneg hu.1]at a
 rw[<- kn_perm (gs:=s.gs.toNat) b (truths_ok (s:=s.add _) hg)]at a
 exact(qn_spec a).1
def oneL(l:List Int):Int:=if l.length=1 then l.getD 0 0 else -1
def knownK(s:Stand)(l:List (List Int)):Nat->List Int
 |0=>[]
 |k+1=>knownK s l k++[oneL (tookL l (k:Int) s.gs)]
theorem knownK_len(s:Stand)(l:List (List Int))(k:Nat):(knownK s l k).length=k:=by
 induction k with
 |zero=>rfl
 |succ k ih=>rw[knownK,List.length_append,ih];rfl
theorem knownK_get(s:Stand)(l:List (List Int)):∀ {k i:Nat},i<k->(knownK s l k).getD i 0=oneL (tookL l (i:Int) s.gs):=by
 intro k;induction k with
 |zero=>intro i h;omega
 |succ k ih=>
  intro i hi
  rw[knownK,List.getD_eq_getElem?_getD,List.getElem?_append]
  by_cases c:i<k
  ·rw[if_pos (by rw[knownK_len];exact c),<- List.getD_eq_getElem?_getD,ih c]
  ·have:i=k:=by omega
   subst this
   rw[if_neg (by rw[knownK_len];omega),knownK_len];simp
theorem one_ok{s:Stand}{t:List Int}{l:List (List Int)}(hl:∀t∈l,(t.length:Int)=s.gs/\tk t)(ht:t∈l){g:Int}(h0:0<=g)(h1:g<s.gs) :
  t.getD g.toNat 0∈tookL l g s.gs/\(oneL (tookL l g s.gs) = -1<->(tookL l g s.gs).length>1)/\(oneL (tookL l g s.gs) ≠ -1->oneL (tookL l g s.gs)=t.getD g.toNat 0):=by
 have a:t.getD g.toNat 0∈tookL l g s.gs:=(mem_tookL hl h0 h1).2 ⟨t,ht,rfl⟩
 have b:=List.length_pos_of_mem a
 have x:=tk_lt (hl t ht).2 g.toNat (by have:=(hl t ht).1;omega)
 refine⟨a,?_⟩
 rw[oneL]
 by_cases c:(tookL l g s.gs).length=1
 ·rw[if_pos c]
  match hm:tookL l g s.gs,c with
  | [y],_=>
   rw[hm]at a
   have e:=List.mem_singleton.1 a
   simp only[List.getD_cons_zero]
   exact⟨⟨fun h=>by omega,fun h=>by simp at h⟩,fun _=>e.symm⟩
 ·rw[if_neg c]
  exact⟨⟨fun _=>by omega,fun _=>rfl⟩,fun h=>absurd rfl h⟩
noncomputable def liarsK(s:Stand):Nat->List Int
 |0=>[]
 |k+1=>liarsK s k++if lieW s (s.ws.getD k ⟨0,0,0,[]⟩)=true then [(k:Int)] else []
theorem mem_liarsK{s:Stand}{x:Int}:∀ {k:Nat},x∈liarsK s k<->∃u:Nat,u<k/\x=(u:Int)/\lieW s (s.ws.getD u ⟨0,0,0,[]⟩)=true:=by
 intro k;induction k with
 |zero=>simp[liarsK]
 |succ k ih=>
  rw[liarsK,List.mem_append,ih]
  constructor
  ·rintro(⟨u,hu,h⟩|h)
   ·exact⟨u,by omega,h⟩
   ·split at h
    ·rename_i c;exact⟨k,by omega,List.mem_singleton.1 h,c⟩
    ·exact absurd h List.not_mem_nil
  ·rintro⟨u,hu,e,h⟩
   by_cases c:u=k
   ·right;subst c;rw[if_pos h];exact List.mem_singleton.2 e
   ·left;exact⟨u,by omega,e,h⟩
theorem liarsK_len{s:Stand}:∀ {k:Nat},k<=s.ws.length->(liarsK s k).length=(s.ws.take k).countP (lieW s):=by
 intro k;induction k with
 |zero=>intro _;simp[liarsK]
 |succ k ih=>
  intro hk
  have e:s.ws.getD k ⟨0,0,0,[]⟩=s.ws[k]:=by simp[List.getD_eq_getElem?_getD,show k<s.ws.length by omega]
  rw[liarsK,List.length_append,ih (by omega),List.take_succ_eq_append_getElem (by omega),List.countP_append,List.countP_singleton,e]
  cases lieW s s.ws[k]<;>simp
theorem liars_len{s:Stand}:(liarsK s s.ws.length).length=s.ws.countP (lieW s):=by
 rw[liarsK_len (Nat.le_refl _),List.take_length]
theorem n51(l:List Int)(x:Int)(hl:l.length<=1000000):FnA Try.prog 60 [.isl (l.map jAV), .int .i64 x] (· = .bool (decide (x∈l))):=by
 have hL:(l.map jAV).length=l.length:=by simp
 refine fnA 0 ok60 (by simp) ?_
 (conv=>whnf);(repeat'((first|apply bT|apply bF|apply bN|((first|apply bD|apply bEq|apply bNe)<;>intro hh<;>try(exfalso;omega))|refine wJ ?_|refine nJ ?_)<;>conv=>whnf))
 refine loop_i (α :=Nat) (fun k=>[(5, .int .i64 k),(1, .int .i64 x),(0, .isl (l.map jAV))]) (fun k=>[]) (fun k=>k<=l.length/\∀b∈l.take k,decide (b=x)=false) (fun k=>l.length-k) 0 mI ⟨by omega,by simp⟩ ?_
 rintro k ⟨h1,h2⟩
 conv=>whnf
 refine bD (fun h3=>?_) (fun h3=>?_)
 ·have hk:k<l.length:=by omega
  by_cases hx:l[k]=x
  ·rw[decide_eq_true (by rw[<- hx];exact List.getElem_mem hk)]
   (conv=>whnf);(repeat'((first|apply bT|apply bF|apply bN|((first|apply bD|apply bEq|apply bNe)<;>intro hh<;>try(exfalso;omega))|refine iaJ (getM jAV l k hk) ?_|refine wJ ?_|refine nJ ?_)<;>conv=>whnf))
   all_goals rfl
  ·(conv=>whnf);(repeat'((first|apply bT|apply bF|apply bN|((first|apply bD|apply bEq|apply bNe)<;>intro hh<;>try(exfalso;omega))|refine iaJ (getM jAV l k hk) ?_|refine wJ ?_|refine nJ ?_)<;>conv=>whnf))
   exact⟨k+1,mI,⟨by omega,take_none hk h2 (decide_eq_false hx)⟩,by omega⟩
 ·have:k=l.length:=by omega
  subst this
  rw[List.take_length]at h2
  rw[decide_eq_false (fun h=>by have:=h2 x h;simp at this)]
  (conv=>whnf);(repeat'((first|apply bT|apply bF|apply bN|((first|apply bD|apply bEq|apply bNe)<;>intro hh<;>try(exfalso;omega))|refine wJ ?_|refine nJ ?_)<;>conv=>whnf))
  all_goals rfl
theorem n22(l:List Int)(x:Int)(hl:l.length<=1000000):FnA Try.prog 22 [.isl (l.map jAV), .int .i64 x] (· = .bool (decide (x∈l))):=by
 have hL:(l.map jAV).length=l.length:=by simp
 refine fnA 0 ok22 (by simp) ?_
 (conv=>whnf);(repeat'((first|apply bT|apply bF|apply bN|((first|apply bD|apply bEq|apply bNe)<;>intro hh<;>try(exfalso;omega))|refine wJ ?_|refine nJ ?_)<;>conv=>whnf))
 refine loop_i (α :=Nat) (fun k=>[(5, .int .i64 k),(1, .int .i64 x),(0, .isl (l.map jAV))]) (fun k=>[]) (fun k=>k<=l.length/\∀b∈l.take k,decide (b=x)=false) (fun k=>l.length-k) 0 mI ⟨by omega,by simp⟩ ?_
 rintro k ⟨h1,h2⟩
 conv=>whnf
 refine bD (fun h3=>?_) (fun h3=>?_)
 ·have hk:k<l.length:=by omega
  by_cases hx:l[k]=x
  ·rw[decide_eq_true (by rw[<- hx];exact List.getElem_mem hk)]
   (conv=>whnf);(repeat'((first|apply bT|apply bF|apply bN|((first|apply bD|apply bEq|apply bNe)<;>intro hh<;>try(exfalso;omega))|refine iaJ (getM jAV l k hk) ?_|refine wJ ?_|refine nJ ?_)<;>conv=>whnf))
   all_goals rfl
  ·(conv=>whnf);(repeat'((first|apply bT|apply bF|apply bN|((first|apply bD|apply bEq|apply bNe)<;>intro hh<;>try(exfalso;omega))|refine iaJ (getM jAV l k hk) ?_|refine wJ ?_|refine nJ ?_)<;>conv=>whnf))
   exact⟨k+1,mI,⟨by omega,take_none hk h2 (decide_eq_false hx)⟩,by omega⟩
 ·have:k=l.length:=by omega
  subst this
  rw[List.take_length]at h2
  rw[decide_eq_false (fun h=>by have:=h2 x h;simp at this)]
  (conv=>whnf);(repeat'((first|apply bT|apply bF|apply bN|((first|apply bD|apply bEq|apply bNe)<;>intro hh<;>try(exfalso;omega))|refine wJ ?_|refine nJ ?_)<;>conv=>whnf))
  all_goals rfl
theorem n57(s:Stand)(n:Int):FnA Try.prog 74 [.agg s.cells, .int .i64 n] (· = .bool (isG s n)):=by
 unfold isG
 refine fnA 1 ok74 (by simp) ?_
 (conv=>whnf);(repeat'((first|apply bT|apply bF|apply bN|((first|apply bD|apply bEq|apply bNe)<;>intro hh<;>try(exfalso;omega))|refine wJ ?_|refine nJ ?_)<;>conv=>whnf))
 all_goals first|rfl|exact congrArg AV.bool (decide_eq_decide.2 (by omega))|exact congrArg AV.bool (decide_eq_true (by omega)).symm|exact congrArg AV.bool (decide_eq_false (by omega)).symm
theorem isG_iff{s:Stand}{n:Int}:isG s n=true<->0<=n/\n<s.gs:=by simp[isG]
theorem isG_no{s:Stand}{n:Int}:isG s n=false<->¬(0<=n/\n<s.gs):=by simp only[isG,decide_eq_false_iff_not]
theorem n49(s:Stand)(w:Word)(hl:w.am.length<=1000000):FnA Try.prog 49 [.agg s.cells, .agg w.av] (· = .bool (isWo s w)):=by
 have hL:(w.am.map jAV).length=w.am.length:=by simp
 have e1:=n57 s w.g
 have e2:=n57 s w.o
 unfold isWo
 refine fnA 2 ok49 (by simp) ?_
 cases h1:isG s w.g<;>rw[h1]at e1
 ·(conv=>whnf);(repeat'((first|apply bT|apply bF|apply bN|((first|apply bD|apply bEq|apply bNe)<;>intro hh<;>try(exfalso;omega))|refine e1.cq rfl rfl ?_|refine wJ ?_|refine nJ ?_)<;>conv=>whnf))
  all_goals rfl
 ·cases h2:isG s w.o<;>rw[h2]at e2
  ·(conv=>whnf);(repeat'((first|apply bT|apply bF|apply bN|((first|apply bD|apply bEq|apply bNe)<;>intro hh<;>try(exfalso;omega))|refine e1.cq rfl rfl ?_|refine e2.cq rfl rfl ?_|refine wJ ?_|refine nJ ?_)<;>conv=>whnf))
   all_goals rfl
  ·by_cases h3:w.k=3\/w.k=4
   ·rw[if_pos h3]
    simp only[Bool.true_and]
    (conv=>whnf);(repeat'((first|apply bT|apply bF|apply bN|((first|apply bD|apply bEq|apply bNe)<;>intro hh<;>try(exfalso;omega))|refine e1.cq rfl rfl ?_|refine e2.cq rfl rfl ?_|refine wJ ?_|refine nJ ?_)<;>conv=>whnf))
    all_goals first
     |exact congrArg AV.bool (by rw[Bool.eq_iff_iff,bne_iff_ne,decide_eq_true_eq];exact⟨fun h=>⟨by omega,h⟩,fun h=>h.2⟩)
     |first|rfl|exact congrArg AV.bool (decide_eq_decide.2 (by omega))|exact congrArg AV.bool (decide_eq_true (by omega)).symm|exact congrArg AV.bool (decide_eq_false (by omega)).symm
   ·rw[if_neg h3]
    by_cases h4:(w.k=1\/w.k=2)/\w.am.length≠0/\w.o=0
    ·rw[decide_eq_true h4]
     simp only[Bool.true_and]
     (conv=>whnf);(repeat'((first|apply bT|apply bF|apply bN|((first|apply bD|apply bEq|apply bNe)<;>intro hh<;>try(exfalso;omega))|refine e1.cq rfl rfl ?_|refine e2.cq rfl rfl ?_|refine wJ ?_|refine nJ ?_)<;>conv=>whnf))
     all_goals
      refine loop_i (α :=Nat) (fun k=>[(5, .int .i64 k),(3, .own 1 0),(2, .own 0 0)]) (fun k=>[.box false s.cells, .box false w.av]) (fun k=>k<=w.am.length/\riseP s w.am k) (fun k=>w.am.length-k) 0 mI ⟨by omega,fun i hi=>by omega⟩ ?_
      rintro k ⟨h5,h6⟩
      conv=>whnf
      refine bD (fun h7=>?_) (fun h7=>?_)
      ·have hk:k<w.am.length:=by omega
       have g1:=getJ w.am k hk
       have e3:=n57 s (w.am.getD k 0)
       cases h8:isG s (w.am.getD k 0)<;>rw[h8]at e3
       ·rw[decide_eq_false fun h=>isG_no.1 h8 (h k hk).1]
        (conv=>whnf);(repeat'((first|apply bT|apply bF|apply bN|((first|apply bD|apply bEq|apply bNe)<;>intro hh<;>try(exfalso;omega))|refine iaJ g1 ?_|refine e3.cq rfl rfl ?_|refine wJ ?_|refine nJ ?_)<;>conv=>whnf))
        all_goals rfl
       ·have h9:=isG_iff.1 h8
        by_cases h10:k=0
        ·subst h10
         (conv=>whnf);(repeat'((first|apply bT|apply bF|apply bN|((first|apply bD|apply bEq|apply bNe)<;>intro hh<;>try(exfalso;omega))|refine iaJ g1 ?_|refine e3.cq rfl rfl ?_|refine wJ ?_|refine nJ ?_)<;>conv=>whnf))
         exact⟨0+1,mI,⟨by omega,fun i hi=>by
                               have:i=0:=by omega
                               subst this;exact⟨h9,fun h=>by omega⟩⟩,by omega⟩
        ·have g2:=getJ w.am (k-1) (by omega)
         have g3:(w.am.map jAV).getD ((k:Int)-1).toNat []=[.int .i64 (w.am.getD (k-1) 0)]:=by rw[show((k:Int)-1).toNat=k-1 by omega];exact g2
         by_cases h11:w.am.getD (k-1) 0<w.am.getD k 0
         ·(conv=>whnf);(repeat'((first|apply bT|apply bF|apply bN|((first|apply bD|apply bEq|apply bNe)<;>intro hh<;>try(exfalso;omega))|refine iaJ g1 ?_|refine iaJ g3 ?_|refine e3.cq rfl rfl ?_|refine wJ ?_|refine nJ ?_)<;>conv=>whnf))
          refine⟨k+1,mI,⟨by omega,fun i hi=>?_⟩,by omega⟩
          by_cases h12:i=k
          ·subst h12;exact⟨h9,fun _=>h11⟩
          ·exact h6 i (by omega)
         ·rw[decide_eq_false fun h=>h11 ((h k hk).2 (by omega))]
          (conv=>whnf);(repeat'((first|apply bT|apply bF|apply bN|((first|apply bD|apply bEq|apply bNe)<;>intro hh<;>try(exfalso;omega))|refine iaJ g1 ?_|refine iaJ g3 ?_|refine e3.cq rfl rfl ?_|refine wJ ?_|refine nJ ?_)<;>conv=>whnf))
          all_goals rfl
      ·have:k=w.am.length:=by omega
       subst this
       rw[decide_eq_true h6]
       (conv=>whnf);(repeat'((first|apply bT|apply bF|apply bN|((first|apply bD|apply bEq|apply bNe)<;>intro hh<;>try(exfalso;omega))|refine wJ ?_|refine nJ ?_)<;>conv=>whnf))
       all_goals rfl
    ·rw[decide_eq_false h4]
     simp only[Bool.true_and,Bool.false_and]
     (conv=>whnf);(repeat'((first|apply bT|apply bF|apply bN|((first|apply bD|apply bEq|apply bNe)<;>intro hh<;>try(exfalso;omega))|refine e1.cq rfl rfl ?_|refine e2.cq rfl rfl ?_|refine wJ ?_|refine nJ ?_)<;>conv=>whnf))
     all_goals rfl
theorem n15(s:Stand)(hl:∀w∈s.ws,w.am.length<=1000000):FnA Try.prog 15 [.agg s.cells] (· = .int .i64 s.chk):=by
 have hL:(s.ws.map Word.av).length=s.ws.length:=by simp
 unfold Stand.chk
 refine fnA 1 ok15 (by simp) ?_
 by_cases h1:s.gs<0\/s.gs>7\/s.wr<0\/s.wr>7
 ·rw[if_pos h1]
  (conv=>whnf);(repeat'((first|apply bT|apply bF|apply bN|((first|apply bD|apply bEq|apply bNe)<;>intro hh<;>try(exfalso;omega))|refine wJ ?_|refine nJ ?_)<;>conv=>whnf))
  all_goals rfl
 ·rw[if_neg h1]
  by_cases h2:s.ws.length>20
  ·rw[if_pos h2]
   (conv=>whnf);(repeat'((first|apply bT|apply bF|apply bN|((first|apply bD|apply bEq|apply bNe)<;>intro hh<;>try(exfalso;omega))|refine wJ ?_|refine nJ ?_)<;>conv=>whnf))
   all_goals rfl
  ·rw[if_neg h2]
   (conv=>whnf);(repeat'((first|apply bT|apply bF|apply bN|((first|apply bD|apply bEq|apply bNe)<;>intro hh<;>try(exfalso;omega))|refine wJ ?_|refine nJ ?_)<;>conv=>whnf))
   refine loop_i (α :=Nat) (fun k=>[(3, .int .i64 k),(1, .own 0 0)]) (fun k=>[.box false s.cells]) (fun k=>k<=s.ws.length/\∀w∈s.ws.take k,isWo s w=true) (fun k=>s.ws.length-k) 0 mI ⟨by omega,by simp⟩ ?_
   rintro k ⟨h5,h6⟩
   conv=>whnf
   refine bD (fun h7=>?_) (fun h7=>?_)
   ·have hk:k<s.ws.length:=by omega
    have g1:=getM Word.av s.ws k hk
    have e3:=n49 s s.ws[k] (hl _ (List.getElem_mem hk))
    cases h8:isWo s s.ws[k]<;>rw[h8]at e3
    ·rw[if_neg fun h=>by rw[List.all_eq_true.1 h _ (List.getElem_mem hk)]at h8;cases h8]
     (conv=>whnf);(repeat'((first|apply bT|apply bF|apply bN|((first|apply bD|apply bEq|apply bNe)<;>intro hh<;>try(exfalso;omega))|refine iaJ g1 ?_|refine e3.cq rfl rfl ?_|refine wJ ?_|refine nJ ?_)<;>conv=>whnf))
     all_goals rfl
    ·(conv=>whnf);(repeat'((first|apply bT|apply bF|apply bN|((first|apply bD|apply bEq|apply bNe)<;>intro hh<;>try(exfalso;omega))|refine iaJ g1 ?_|refine e3.cq rfl rfl ?_|refine wJ ?_|refine nJ ?_)<;>conv=>whnf))
     exact⟨k+1,mI,⟨by omega,take_all hk h6 h8⟩,by omega⟩
   ·have:k=s.ws.length:=by omega
    subst this
    rw[List.take_length]at h6
    rw[if_pos (List.all_eq_true.2 h6)]
    (conv=>whnf);(repeat'((first|apply bT|apply bF|apply bN|((first|apply bD|apply bEq|apply bNe)<;>intro hh<;>try(exfalso;omega))|refine wJ ?_|refine nJ ?_)<;>conv=>whnf))
    all_goals rfl
theorem n23(w:Word)(t:List Int)(hl:w.am.length<=1000000)(ht:t.length<=1000000)(hg:0<=w.g/\w.g<t.length)(ho:0<=w.o/\w.o<t.length):FnA Try.prog 23 [.agg w.av, .isl (t.map jAV)] (· = .bool (isSo w t)):=by
 have hL:(t.map jAV).length=t.length:=by simp
 have g1:=getJ t w.g.toNat (by omega)
 have g2:=getJ t w.o.toNat (by omega)
 have e1:=n51 w.am (t.getD w.g.toNat 0) hl
 unfold isSo
 refine fnA 1 ok23 (by simp) ?_
 by_cases h1:w.k=1
 ·rw[if_pos h1]
  (conv=>whnf);(repeat'((first|apply bT|apply bF|apply bN|((first|apply bD|apply bEq|apply bNe)<;>intro hh<;>try(exfalso;omega))|refine iaJ g1 ?_|refine e1.cq rfl rfl ?_|refine wJ ?_|refine nJ ?_)<;>conv=>whnf))
  all_goals rfl
 ·rw[if_neg h1]
  by_cases h2:w.k=2
  ·rw[if_pos h2]
   (conv=>whnf);(repeat'((first|apply bT|apply bF|apply bN|((first|apply bD|apply bEq|apply bNe)<;>intro hh<;>try(exfalso;omega))|refine iaJ g1 ?_|refine e1.cq rfl rfl ?_|refine wJ ?_|refine nJ ?_)<;>conv=>whnf))
   all_goals rfl
  ·rw[if_neg h2]
   by_cases h3:w.k=3
   ·rw[if_pos h3]
    (conv=>whnf);(repeat'((first|apply bT|apply bF|apply bN|((first|apply bD|apply bEq|apply bNe)<;>intro hh<;>try(exfalso;omega))|refine iaJ g1 ?_|refine iaJ g2 ?_|refine wJ ?_|refine nJ ?_)<;>conv=>whnf))
    all_goals first
     |exact congrArg AV.bool (decide_eq_false (fun h=>by omega)).symm
     |exact congrArg AV.bool (by rw[decide_eq_decide];exact⟨fun h=>⟨by omega,h⟩,fun h=>h.2⟩)
     |exact congrArg AV.bool (by rw[Bool.eq_iff_iff,beq_iff_eq,decide_eq_true_eq];exact⟨fun h=>⟨by omega,h⟩,fun h=>h.2⟩)
   ·rw[if_neg h3]
    (conv=>whnf);(repeat'((first|apply bT|apply bF|apply bN|((first|apply bD|apply bEq|apply bNe)<;>intro hh<;>try(exfalso;omega))|refine iaJ g1 ?_|refine iaJ g2 ?_|refine wJ ?_|refine nJ ?_)<;>conv=>whnf))
    all_goals first
     |exact congrArg AV.bool (decide_eq_true (Or.inl (by omega))).symm
     |exact congrArg AV.bool (by rw[decide_eq_decide];exact⟨fun h=>Or.inr h,fun h=>h.resolve_left (by omega)⟩)
     |exact congrArg AV.bool (by rw[Bool.eq_iff_iff,beq_iff_eq,decide_eq_true_eq];exact⟨fun h=>Or.inr h,fun h=>h.resolve_left (by omega)⟩)
theorem n28(t:List Int)(ht:t.length<=1000000):FnA Try.prog 28 [.isl (t.map jAV)] (· = .bool (isTk t)):=by
 have hL:(t.map jAV).length=t.length:=by simp
 unfold isTk
 refine fnA 0 ok28 (by simp) ?_
 (conv=>whnf);(repeat'((first|apply bT|apply bF|apply bN|((first|apply bD|apply bEq|apply bNe)<;>intro hh<;>try(exfalso;omega))|refine wJ ?_|refine nJ ?_)<;>conv=>whnf))
 refine loop_i (α :=Nat) (fun k=>[(3, .int .i64 k),(0, .isl (t.map jAV))]) (fun k=>[]) (fun k=>k<=t.length/\tkP t k) (fun k=>t.length-k) 0 mI ⟨by omega,fun i hi=>by omega⟩ ?_
 rintro k ⟨h5,h6⟩
 conv=>whnf
 refine bD (fun h7=>?_) (fun h7=>?_)
 ·have hk:k<t.length:=by omega
  have g1:=getJ t k hk
  by_cases h8:0<=t.getD k 0/\t.getD k 0<t.length
  ·have e3:=n51 (t.take k) (t.getD k 0) (by simp;omega)
   have hone:∀e∈t.map jAV,e.length=1:=fun e he=>(j_one t e he).1
   have hsl:((t.map jAV).take ((k:Int)).toNat).drop (0:Int).toNat=(t.take k).map jAV:=by simp[List.map_take]
   by_cases h9:t.getD k 0∈t.take k
   ·rw[decide_eq_false fun h:tkP t t.length=>(h k hk).2 h9]
    rw[decide_eq_true h9]at e3
    (conv=>whnf);(repeat'((first|apply bT|apply bF|apply bN|((first|apply bD|apply bEq|apply bNe)<;>intro hh<;>try(exfalso;omega))|refine iaJ g1 ?_|refine slI (by omega) (by omega) (by omega) hone hsl ?_|refine e3.cq rfl rfl ?_|refine wJ ?_|refine nJ ?_)<;>conv=>whnf))
    all_goals rfl
   ·rw[decide_eq_false h9]at e3
    (conv=>whnf);(repeat'((first|apply bT|apply bF|apply bN|((first|apply bD|apply bEq|apply bNe)<;>intro hh<;>try(exfalso;omega))|refine iaJ g1 ?_|refine slI (by omega) (by omega) (by omega) hone hsl ?_|refine e3.cq rfl rfl ?_|refine wJ ?_|refine nJ ?_)<;>conv=>whnf))
    refine⟨k+1,mI,⟨by omega,fun i hi=>?_⟩,by omega⟩
    by_cases h12:i=k
    ·subst h12;exact⟨h8,h9⟩
    ·exact h6 i (by omega)
  ·rw[decide_eq_false fun h:tkP t t.length=>h8 (h k hk).1]
   (conv=>whnf);(repeat'((first|apply bT|apply bF|apply bN|((first|apply bD|apply bEq|apply bNe)<;>intro hh<;>try(exfalso;omega))|refine iaJ g1 ?_|refine wJ ?_|refine nJ ?_)<;>conv=>whnf))
   all_goals rfl
 ·have:k=t.length:=by omega
  subst this
  rw[decide_eq_true h6]
  (conv=>whnf);(repeat'((first|apply bT|apply bF|apply bN|((first|apply bD|apply bEq|apply bNe)<;>intro hh<;>try(exfalso;omega))|refine wJ ?_|refine nJ ?_)<;>conv=>whnf))
  all_goals first|rfl|exact congrArg AV.bool (decide_eq_decide.2 (by omega))|exact congrArg AV.bool (decide_eq_true (by omega)).symm|exact congrArg AV.bool (decide_eq_false (by omega)).symm
theorem wrongs_bd(s:Stand)(t:List Int)(k:Nat):0<=wrongs s t k/\wrongs s t k<=k:=by
 induction k with
 |zero=>simp[wrongs]
 |succ k ih=>rw[wrongs];split<;>omega
theorem am_len{s:Stand}{w:Word}(h:isWo s w=true)(hg:s.gs<=7):w.am.length<=7:=by
 have a:=am_rise h
 have b:=am_ok h
 have c:=nd_sub_len (b:=[0,1,2,3,4,5,6]) (rise_nd a) (by decide) (fun x hx=>by
  have:=b x hx
  simp only[List.mem_cons,List.not_mem_nil,or_false];omega)
 simpa using c
theorem n16(s:Stand)(hs:s.chk=0)(t:List Int)(ht:t.length<=1000000):FnA Try.prog 16 [.agg s.cells, .isl (t.map jAV)] (· = .bool (isTr s t)):=by
 have hL:(t.map jAV).length=t.length:=by simp
 have hW:(s.ws.map Word.av).length=s.ws.length:=by simp
 have hc:=chk_ok.1 hs
 have e1:=n28 t ht
 unfold isTr
 refine fnA 1 ok16 (by simp) ?_
 by_cases h1:(t.length:Int)=s.gs
 ·rw[decide_eq_true h1]
  simp only[Bool.true_and]
  cases h2:isTk t<;>rw[h2]at e1
  ·(conv=>whnf);(repeat'((first|apply bT|apply bF|apply bN|((first|apply bD|apply bEq|apply bNe)<;>intro hh<;>try(exfalso;omega))|refine e1.cq rfl rfl ?_|refine wJ ?_|refine nJ ?_)<;>conv=>whnf))
   all_goals rfl
  ·simp only[Bool.true_and]
   (conv=>whnf);(repeat'((first|apply bT|apply bF|apply bN|((first|apply bD|apply bEq|apply bNe)<;>intro hh<;>try(exfalso;omega))|refine e1.cq rfl rfl ?_|refine wJ ?_|refine nJ ?_)<;>conv=>whnf))
   refine loop_i (α :=Nat) (fun k=>[(6, .int .i64 k),(5, .int .i64 (wrongs s t k)),(2, .own 0 0),(1, .isl (t.map jAV))]) (fun k=>[.box false s.cells]) (fun k=>k<=s.ws.length) (fun k=>s.ws.length-k) 0 mI (by omega) ?_
   rintro k h5
   conv=>whnf
   refine bD (fun h7=>?_) (fun h7=>?_)
   ·have hk:k<s.ws.length:=by omega
    have g1:=getM Word.av s.ws k hk
    have hw:=hc.2.2.2 _ (List.getElem_mem hk)
    have hwo:=isWo_of hw
    have hal:=am_len hw hc.1.2
    have e3:=n23 s.ws[k] t (by omega) ht (by omega) (by omega)
    have hb:=wrongs_bd s t k
    have ek:s.ws.getD k ⟨0,0,0,[]⟩=s.ws[k]:=by simp[List.getD_eq_getElem?_getD,hk]
    cases h8:isSo s.ws[k] t<;>rw[h8]at e3
    ·have ew:wrongs s t (k+1)=wrongs s t k+1:=by rw[wrongs,ek,h8];simp
     (conv=>whnf);(repeat'((first|apply bT|apply bF|apply bN|((first|apply bD|apply bEq|apply bNe)<;>intro hh<;>try(exfalso;omega))|refine iaJ g1 ?_|refine e3.cq rfl rfl ?_|refine wJ ?_|refine nJ ?_)<;>conv=>whnf))
     exact⟨k+1,by rw[ew];exact mI,by omega,by omega⟩
    ·have ew:wrongs s t (k+1)=wrongs s t k:=by rw[wrongs,ek,h8];simp
     (conv=>whnf);(repeat'((first|apply bT|apply bF|apply bN|((first|apply bD|apply bEq|apply bNe)<;>intro hh<;>try(exfalso;omega))|refine iaJ g1 ?_|refine e3.cq rfl rfl ?_|refine wJ ?_|refine nJ ?_)<;>conv=>whnf))
     exact⟨k+1,by rw[ew];exact mI,by omega,by omega⟩
   ·have:k=s.ws.length:=by omega
    subst this
    (conv=>whnf);(repeat'((first|apply bT|apply bF|apply bN|((first|apply bD|apply bEq|apply bNe)<;>intro hh<;>try(exfalso;omega))|refine wJ ?_|refine nJ ?_)<;>conv=>whnf))
    all_goals rfl
 ·rw[decide_eq_false h1]
  (conv=>whnf);(repeat'((first|apply bT|apply bF|apply bN|((first|apply bD|apply bEq|apply bNe)<;>intro hh<;>try(exfalso;omega))|refine e1.cq rfl rfl ?_|refine wJ ?_|refine nJ ?_)<;>conv=>whnf))
  all_goals rfl
def Stand.err(s:Stand)(v:Bool)(c t:Int):Int:=if c≠0 then c else if v=false then 1 else if t=0 then 3 else 0
noncomputable def Stand.eG(s:Stand)(g:Int):Int:=s.err (decide (g = -1000000)||isG s g) s.chk (truths s).length
theorem eG_none{s:Stand}:s.eG (-1000000)=s.err true s.chk (truths s).length:=by simp[Stand.eG]
theorem err_zero{s:Stand}{v:Bool}{c t:Int}:s.err v c t=0<->c=0/\v=true/\t≠0:=by
 rw[Stand.err]
 by_cases h1:c=0
 ·rw[if_neg (by omega)]
  cases v
  ·rw[if_pos rfl];simp
  ·rw[if_neg (by simp)]
   by_cases h2:t=0
   ·rw[if_pos h2];simp[h2]
   ·rw[if_neg h2];simp[h1,h2]
 ·rw[if_pos h1];simp[h1]
theorem n37(a b:List Int)(ha:a.length<=1000000)(hb:b.length<=1000000):FnA Try.prog 37 [.isl (a.map jAV), .isl (b.map jAV)] (· = .bool (decide (a=b))):=by
 have la:(a.map jAV).length=a.length:=by simp
 have lb:(b.map jAV).length=b.length:=by simp
 refine fnA 0 ok37 (by simp) ?_
 by_cases h:a.length=b.length
 ·(conv=>whnf);(repeat'((first|apply bT|apply bF|apply bN|((first|apply bD|apply bEq|apply bNe)<;>intro hh<;>try(exfalso;omega))|refine wJ ?_|refine nJ ?_)<;>conv=>whnf))
  refine loop_i (α :=Nat) (fun k=>[(5, .int .i64 k),(1, .isl (b.map jAV)),(0, .isl (a.map jAV))]) (fun k=>[]) (fun k=>k<=a.length/\∀i,i<k->a.getD i 0=b.getD i 0) (fun k=>a.length-k) 0 mI ⟨by omega,fun i hi=>by omega⟩ ?_
  rintro k ⟨h1,h2⟩
  conv=>whnf
  refine bD (fun h3=>?_) (fun h3=>?_)
  ·have hk:k<a.length:=by omega
   have g1:=getJ a k hk
   have g2:=getJ b k (by omega)
   by_cases hx:a.getD k 0=b.getD k 0
   ·(conv=>whnf);(repeat'((first|apply bT|apply bF|apply bN|((first|apply bD|apply bEq|apply bNe)<;>intro hh<;>try(exfalso;omega))|refine iaJ g1 ?_|refine iaJ g2 ?_|refine wJ ?_|refine nJ ?_)<;>conv=>whnf))
    refine⟨k+1,mI,⟨by omega,fun i hi=>?_⟩,by omega⟩
    by_cases c:i=k
    ·rw[c];exact hx
    ·exact h2 i (by omega)
   ·rw[decide_eq_false fun e:a=b=>hx (by rw[e])]
    (conv=>whnf);(repeat'((first|apply bT|apply bF|apply bN|((first|apply bD|apply bEq|apply bNe)<;>intro hh<;>try(exfalso;omega))|refine iaJ g1 ?_|refine iaJ g2 ?_|refine wJ ?_|refine nJ ?_)<;>conv=>whnf))
    all_goals rfl
  ·rw[decide_eq_true (ext_getD h fun i hi=>h2 i (by omega))]
   (conv=>whnf);(repeat'((first|apply bT|apply bF|apply bN|((first|apply bD|apply bEq|apply bNe)<;>intro hh<;>try(exfalso;omega))|refine wJ ?_|refine nJ ?_)<;>conv=>whnf))
   all_goals rfl
 ·rw[decide_eq_false fun e:a=b=>h (by rw[e])]
  (conv=>whnf);(repeat'((first|apply bT|apply bF|apply bN|((first|apply bD|apply bEq|apply bNe)<;>intro hh<;>try(exfalso;omega))|refine wJ ?_|refine nJ ?_)<;>conv=>whnf))
  all_goals rfl
noncomputable def Stand.far(s:Stand):Bool:=decide (s.ws.length>60)||(s.ws.any (fun w=>decide (w.am.length>60))||(decide (s.chk=0)&&decide (s.gs>6)))
theorem n14(s:Stand)(hw:s.ws.length<=1000000)(hl:∀w∈s.ws,w.am.length<=1000000):FnA Try.prog 14 [.agg s.cells] (· = .bool s.far):=by
 have hL:(s.ws.map Word.av).length=s.ws.length:=by simp
 have e1:=n15 s hl
 unfold Stand.far
 refine fnA 1 ok14 (by simp) ?_
 by_cases h1:s.ws.length>60
 ·rw[decide_eq_true h1]
  (conv=>whnf);(repeat'((first|apply bT|apply bF|apply bN|((first|apply bD|apply bEq|apply bNe)<;>intro hh<;>try(exfalso;omega))|refine wJ ?_|refine nJ ?_)<;>conv=>whnf))
  all_goals rfl
 ·rw[decide_eq_false h1,Bool.false_or]
  (conv=>whnf);(repeat'((first|apply bT|apply bF|apply bN|((first|apply bD|apply bEq|apply bNe)<;>intro hh<;>try(exfalso;omega))|refine wJ ?_|refine nJ ?_)<;>conv=>whnf))
  refine loop_i (α :=Nat) (fun k=>[(3, .int .i64 k),(1, .own 0 0)]) (fun k=>[.box false s.cells]) (fun k=>k<=s.ws.length/\∀w∈s.ws.take k,decide (w.am.length>60)=false) (fun k=>s.ws.length-k) 0 mI ⟨by omega,by simp⟩ ?_
  rintro k ⟨h5,h6⟩
  conv=>whnf
  refine bD (fun h7=>?_) (fun h7=>?_)
  ·have hk:k<s.ws.length:=by omega
   have g1:=getM Word.av s.ws k hk
   have la:(s.ws[k].am.map jAV).length=s.ws[k].am.length:=by simp
   by_cases h8:s.ws[k].am.length>60
   ·have e:s.ws.any (fun w=>decide (w.am.length>60))=true:=List.any_eq_true.2 ⟨_,List.getElem_mem hk,decide_eq_true h8⟩
    rw[e]
    (conv=>whnf);(repeat'((first|apply bT|apply bF|apply bN|((first|apply bD|apply bEq|apply bNe)<;>intro hh<;>try(exfalso;omega))|refine iaJ g1 ?_|refine wJ ?_|refine nJ ?_)<;>conv=>whnf))
    all_goals rfl
   ·(conv=>whnf);(repeat'((first|apply bT|apply bF|apply bN|((first|apply bD|apply bEq|apply bNe)<;>intro hh<;>try(exfalso;omega))|refine iaJ g1 ?_|refine wJ ?_|refine nJ ?_)<;>conv=>whnf))
    exact⟨k+1,mI,⟨by omega,take_none hk h6 (decide_eq_false h8)⟩,by omega⟩
  ·have:k=s.ws.length:=by omega
   subst this
   rw[List.take_length]at h6
   have e:s.ws.any (fun w=>decide (w.am.length>60))=false:=by
    rw[Bool.eq_false_iff];intro h2
    obtain⟨x,hx,hp⟩:=List.any_eq_true.1 h2
    rw[h6 x hx]at hp;cases hp
   rw[e,Bool.false_or]
   by_cases h8:s.chk=0
   ·rw[h8]at e1
    rw[decide_eq_true h8]
    (conv=>whnf);(repeat'((first|apply bT|apply bF|apply bN|((first|apply bD|apply bEq|apply bNe)<;>intro hh<;>try(exfalso;omega))|refine e1.cq rfl rfl ?_|refine wJ ?_|refine nJ ?_)<;>conv=>whnf))
    all_goals rfl
   ·rw[decide_eq_false h8]
    (conv=>whnf);(repeat'((first|apply bT|apply bF|apply bN|((first|apply bD|apply bEq|apply bNe)<;>intro hh<;>try(exfalso;omega))|refine e1.cq rfl rfl ?_|refine wJ ?_|refine nJ ?_)<;>conv=>whnf))
    all_goals rfl
noncomputable def Stand.farA(s:Stand):Bool:=s.far||(decide (s.chk=0)&&decide (s.gs>4))
theorem n44(s:Stand)(hw:s.ws.length<=1000000)(hl:∀w∈s.ws,w.am.length<=1000000):FnA Try.prog 44 [.agg s.cells] (· = .bool s.farA):=by
 have e1:=n15 s hl
 have e2:=n14 s hw hl
 unfold Stand.farA
 refine fnA 1 ok44 (by simp) ?_
 cases h1:s.far<;>rw[h1]at e2
 ·by_cases h8:s.chk=0
  ·rw[h8]at e1
   rw[decide_eq_true h8]
   (conv=>whnf);(repeat'((first|apply bT|apply bF|apply bN|((first|apply bD|apply bEq|apply bNe)<;>intro hh<;>try(exfalso;omega))|refine e1.cq rfl rfl ?_|refine e2.cq rfl rfl ?_|refine wJ ?_|refine nJ ?_)<;>conv=>whnf))
   all_goals rfl
  ·rw[decide_eq_false h8]
   (conv=>whnf);(repeat'((first|apply bT|apply bF|apply bN|((first|apply bD|apply bEq|apply bNe)<;>intro hh<;>try(exfalso;omega))|refine e1.cq rfl rfl ?_|refine e2.cq rfl rfl ?_|refine wJ ?_|refine nJ ?_)<;>conv=>whnf))
   all_goals rfl
 ·(conv=>whnf);(repeat'((first|apply bT|apply bF|apply bN|((first|apply bD|apply bEq|apply bNe)<;>intro hh<;>try(exfalso;omega))|refine e2.cq rfl rfl ?_|refine wJ ?_|refine nJ ?_)<;>conv=>whnf))
  all_goals rfl
noncomputable def Stand.rdy(s:Stand):Bool := !s.farA&&decide (s.chk=0)
theorem n25(s:Stand)(hw:s.ws.length<=1000000)(hl:∀w∈s.ws,w.am.length<=1000000):FnA Try.prog 25 [.agg s.cells] (· = .bool s.rdy):=by
 have e1:=n15 s hl
 have e2:=n44 s hw hl
 unfold Stand.rdy
 refine fnA 1 ok25 (by simp) ?_
 cases h1:s.farA<;>rw[h1]at e2
 ·by_cases h8:s.chk=0
  ·rw[h8]at e1
   rw[decide_eq_true h8]
   (conv=>whnf);(repeat'((first|apply bT|apply bF|apply bN|((first|apply bD|apply bEq|apply bNe)<;>intro hh<;>try(exfalso;omega))|refine e1.cq rfl rfl ?_|refine e2.cq rfl rfl ?_|refine wJ ?_|refine nJ ?_)<;>conv=>whnf))
   all_goals rfl
  ·rw[decide_eq_false h8]
   (conv=>whnf);(repeat'((first|apply bT|apply bF|apply bN|((first|apply bD|apply bEq|apply bNe)<;>intro hh<;>try(exfalso;omega))|refine e1.cq rfl rfl ?_|refine e2.cq rfl rfl ?_|refine wJ ?_|refine nJ ?_)<;>conv=>whnf))
   all_goals exact congrArg AV.bool (by simp[h8])
 ·(conv=>whnf);(repeat'((first|apply bT|apply bF|apply bN|((first|apply bD|apply bEq|apply bNe)<;>intro hh<;>try(exfalso;omega))|refine e2.cq rfl rfl ?_|refine wJ ?_|refine nJ ?_)<;>conv=>whnf))
  all_goals rfl
def tkB(l:List Int):Bool:=(List.range l.length).all fun i=>decide (0<=l.getD i 0/\l.getD i 0<l.length) && !decide (l.getD i 0∈l.take i)
def trB0(s:Stand)(t:List Int):Bool:=decide ((t.length:Int)=s.gs)&&((tkB t&&decide (t.length<=7))&&decide (wrongs s t s.ws.length<=s.wr))
theorem tkB_iff(l:List Int):tkB l=true<->tkP l l.length:=by
 simp only[tkB,List.all_eq_true,List.mem_range,Bool.and_eq_true,decide_eq_true_eq,Bool.not_eq_true',decide_eq_false_iff_not,tkP]
theorem trB0_eq(s:Stand)(t:List Int):isTr s t=trB0 s t:=by
 have e:decide (tkP t t.length)=tkB t:=by
  rw[Bool.eq_iff_iff,decide_eq_true_eq];exact(tkB_iff t).symm
 rw[isTr,isTk,trB0,e]
def trFB(s:Stand):Nat->List Int->List (List Int)
 |0,first=>if trB0 s first=true then [first] else []
 |n+1,first=>trK (trFB s n) first s.gs.toNat
theorem trFB_eq(s:Stand):∀n,trF s n=trFB s n:=by
 intro n;induction n with
 |zero=>funext first;rw[trF,trFB,trB0_eq]
 |succ n ih=>funext first;rw[trF,trFB,ih]
def exT:Stand:=⟨4,[⟨1,0,0,[1,2]⟩,⟨2,3,0,[3]⟩,⟨4,1,2,[]⟩],0⟩
theorem exT_truths:truths exT=[[1,3,2,0],[2,1,3,0]]:=by
 rw[truths,trFB_eq];decide +kernel
theorem exT_known:knownK exT (truths exT) 4=[-1, -1, -1,0]:=by rw[exT_truths];decide +kernel
theorem exT_kn0:kn 4 0 (truths exT)=false:=by rw[exT_truths];decide +kernel
theorem exT_kn1:kn 4 1 (truths exT)=true:=by rw[exT_truths];decide +kernel
theorem exT_qn:qn 4 (truths exT)=1:=qn_eq exT_kn1 fun k hk=>by
 have:k=0:=by omega
 subst this;exact exT_kn0
theorem exT_need:need [1,2,0,3]=2:=by decide +kernel
theorem exT_chk:exT.chk=0:=by
 rw[chk_ok]
 refine⟨by decide,by decide,by decide,?_⟩
 intro w hw
 simp only[exT,List.mem_cons,List.not_mem_nil,or_false]at hw
 rcases hw with rfl|rfl|rfl
 ·exact isWo_to (by decide) (by decide) (Or.inr ⟨by decide,by decide,by decide,rfl,pw_riseP (by decide) (by decide)⟩)
 ·exact isWo_to (by decide) (by decide) (Or.inr ⟨by decide,by decide,by decide,rfl,pw_riseP (by decide) (by decide)⟩)
 ·exact isWo_to (by decide) (by decide) (Or.inl ⟨by decide,rfl,by decide⟩)
def rnI(nu l:List Int)(k i:Nat):List Int:=rnK nu l k++((l.take i).filter fun x=>decide (nu.getD x.toNat 0=(k:Int))).map fun _=>(k:Int)
theorem rnI_zero(nu l:List Int)(k:Nat):rnI nu l k 0=rnK nu l k:=by simp[rnI]
theorem rnI_end(nu l:List Int)(k:Nat):rnI nu l k l.length=rnK nu l (k+1):=by rw[rnI,List.take_length,rnK]
theorem rnI_len(nu l:List Int)(k i:Nat):(rnI nu l k i).length<=(k+1)*l.length:=by
 have key:∀(j m:Nat),(((l.take m).filter fun x=>decide (nu.getD x.toNat 0=(j:Int))).map fun _=>(j:Int)).length<=l.length:=fun j m=>by
  rw[List.length_map]
  have:=List.length_filter_le (fun x:Int=>decide (nu.getD x.toNat 0=(j:Int))) (l.take m)
  simp only[List.length_take]at this;omega
 have key2:∀j:Nat,(rnK nu l j).length<=j*l.length:=by
  intro j;induction j with
  |zero=>simp[rnK]
  |succ j ih=>
   have:=key j l.length
   rw[List.take_length]at this
   rw[rnK,List.length_append,Nat.succ_mul];omega
 have a:=key k i;have b:=key2 k
 rw[rnI,List.length_append,Nat.succ_mul];omega
theorem n36(l nu:List Int)(hll:l.length<=1000)(hn:nu.length<=1000)(hl:∀y∈l,0<=y/\y<nu.length):FnA Try.prog 36 [.isl (l.map jAV), .isl (nu.map jAV)] (· = .isl ((rnK nu l nu.length).map jAV)):=by
 have lL:(l.map jAV).length=l.length:=by simp
 have lN:(nu.map jAV).length=nu.length:=by simp
 refine fnA 2 ok36 (by simp) ?_
 (conv=>whnf);(repeat'((first|apply bT|apply bF|apply bN|((first|apply bD|apply bEq|apply bNe)<;>intro hh<;>try(exfalso;omega))|refine wJ ?_|refine nJ ?_)<;>conv=>whnf))
 refine loop_i (α :=Nat) (fun k=>[(6, .int .i64 k),(5, .row 2),(1, .isl (nu.map jAV)),(0, .isl (l.map jAV))]) (fun k=>[.fresh, .fresh, .row false 3 1 ((rnK nu l k).map jAV)]) (fun k=>k<=nu.length) (fun k=>nu.length-k) 0 (mA [(2,none)]) (by omega) ?_
 rintro k h1
 conv=>whnf
 refine bD (fun h3=>?_) (fun h3=>?_)
 ·have hk:k<nu.length:=by omega
  (conv=>whnf);(repeat'((first|apply bT|apply bF|apply bN|((first|apply bD|apply bEq|apply bNe)<;>intro hh<;>try(exfalso;omega))|refine wJ ?_|refine nJ ?_)<;>conv=>whnf))
  refine loop_i (α :=Nat) (fun i=>[(7, .int .i64 i),(6, .int .i64 k),(5, .row 2),(1, .isl (nu.map jAV)),(0, .isl (l.map jAV))]) (fun i=>[.fresh, .fresh, .row false 3 1 ((rnI nu l k i).map jAV)]) (fun i=>i<=l.length) (fun i=>l.length-i) 0 (by rw[rnI_zero];exact mI) (by omega) ?_
  rintro i h4
  conv=>whnf
  refine bD (fun h5=>?_) (fun h5=>?_)
  ·have hi:i<l.length:=by omega
   have g1:=getJ l i hi
   have ei:l.getD i 0=l[i]:=by simp[List.getD_eq_getElem?_getD,hi]
   have hb:=hl _ (List.getElem_mem hi)
   have g2:=getJ nu (l.getD i 0).toNat (by omega)
   have hlen:=rnI_len nu l k i
   have hm:(k+1)*l.length<=1000*1000:=Nat.mul_le_mul (by omega) hll
   have lR:((rnI nu l k i).map jAV).length=(rnI nu l k i).length:=by simp
   have et:l.take (i+1)=l.take i++[l[i]]:=List.take_succ_eq_append_getElem hi
   by_cases hx:nu.getD (l.getD i 0).toNat 0=(k:Int)
   ·have er:rnI nu l k (i+1)=rnI nu l k i++[(k:Int)]:=by
     rw[ei]at hx
     rw[rnI,rnI,et,List.filter_append,List.map_append,List.append_assoc,List.filter_cons,if_pos (decide_eq_true hx)];rfl
    (conv=>whnf);(repeat'((first|apply bT|apply bF|apply bN|((first|apply bD|apply bEq|apply bNe)<;>intro hh<;>try(exfalso;omega))|refine iaJ g1 ?_|refine iaJ g2 ?_|(refine apI (by simp[AV.one]) (by simp only[List.length_cons,List.length_nil,lR];omega) ?_)|refine wJ ?_|refine nJ ?_)<;>conv=>whnf))
    refine⟨i+1,?_,by omega,by omega⟩
    rw[er,List.map_append]
    exact(mA [(2,some 1)])
   ·have er:rnI nu l k (i+1)=rnI nu l k i:=by
     rw[ei]at hx
     rw[rnI,rnI,et,List.filter_append,List.filter_cons,if_neg (by simpa using hx)];simp
    (conv=>whnf);(repeat'((first|apply bT|apply bF|apply bN|((first|apply bD|apply bEq|apply bNe)<;>intro hh<;>try(exfalso;omega))|refine iaJ g1 ?_|refine iaJ g2 ?_|refine wJ ?_|refine nJ ?_)<;>conv=>whnf))
    refine⟨i+1,?_,by omega,by omega⟩
    rw[er]
    exact mI
  ·have hi:i=l.length:=by omega
   subst hi
   (conv=>whnf);(repeat'((first|apply bT|apply bF|apply bN|((first|apply bD|apply bEq|apply bNe)<;>intro hh<;>try(exfalso;omega))|refine wJ ?_|refine nJ ?_)<;>conv=>whnf))
   refine⟨k+1,?_,by omega,by omega⟩
   rw[<- rnI_end]
   exact mI
 ·have:k=nu.length:=by omega
  subst this
  (conv=>whnf);(repeat'((first|apply bT|apply bF|apply bN|((first|apply bD|apply bEq|apply bNe)<;>intro hh<;>try(exfalso;omega))|refine wJ ?_|refine nJ ?_)<;>conv=>whnf))
  all_goals rfl
theorem n50:FnA Try.prog 50 [] (· = .agg exT.cells):=by
 refine fnA 4 ok50 (by simp) ?_
 (conv=>whnf);(repeat'((first|apply bT|apply bF|apply bN|((first|apply bD|apply bEq|apply bNe)<;>intro hh<;>try(exfalso;omega))|refine wJ ?_|refine nJ ?_)<;>conv=>whnf))
 all_goals rfl
theorem n24o(s:Stand)(hw:s.ws.length<=1000000)(hl:∀w∈s.ws,w.am.length<=1000000):FnO Try.prog 24 [.agg s.cells] (fun r rows=>r = .agg [.int .i64 s.gs, .row 4, .int .i64 s.wr]/\rows=[(4, .row false 39 4 (s.ws.map Word.av))]):=by
 have lw:(s.ws.map Word.av).length=s.ws.length:=by simp
 have map_same:∀(k:Nat) (hk:k<s.ws.length),(s.ws.map Word.av).set k (s.ws[k]).av=s.ws.map Word.av:=fun k hk=>by
  apply List.ext_getElem (by simp)
  intro i h1 h2
  rw[List.getElem_set];split
  ·rename_i c;subst c;simp
  ·rfl
 refine fnO 7 ok24 (by simp) ?_
 (conv=>whnf);(repeat'((first|apply bT|apply bF|apply bN|((first|apply bD|apply bEq|apply bNe)<;>intro hh<;>try(exfalso;omega))|(refine apI (w_one s.ws) (by simp only[lw,List.length_nil];omega) ?_)|refine wJ ?_|refine nJ ?_)<;>conv=>whnf))
 refine loop_i (α :=Nat × List (List AV)) (fun q=>[(4, .int .i64 q.1),(3, .own 2 0),(2, .own 1 0),(1, .own 0 0)]) (fun q=>[.box false s.cells, .box false [.int .i64 0, .nils, .int .i64 0], .box false [.int .i64 s.gs, .row 4, .int .i64 s.wr], .fresh, .row false 39 4 q.2, .fresh, .fresh]) (fun q=>q.1<=s.ws.length/\q.2=s.ws.map Word.av) (fun q=>s.ws.length-q.1) (0,[]++s.ws.map Word.av) mI ⟨by simp,rfl⟩ ?_
 rintro⟨k,L⟩ ⟨hk0,hL⟩
 dsimp only at hk0 hL⊢
 subst hL
 conv=>whnf
 refine bD (fun h5=>?_) (fun h5=>?_)
 ·have hkl:k<s.ws.length:=by omega
  have g1:=getM Word.av s.ws k hkl
  have la:(s.ws[k].am.map jAV).length=s.ws[k].am.length:=by simp
  have hb:=hl _ (List.getElem_mem hkl)
  have hset:=map_same k hkl
  (conv=>whnf);(repeat'((first|apply bT|apply bF|apply bN|((first|apply bD|apply bEq|apply bNe)<;>intro hh<;>try(exfalso;omega))|refine iaJ g1 ?_|(refine apI (j_one s.ws[k].am) (by simp only[la,List.length_nil];omega) ?_)|refine wJ ?_|refine nJ ?_)<;>conv=>whnf))
  exact⟨(k+1,(s.ws.map Word.av).set k (s.ws[k]).av),mI,⟨by dsimp only;omega,hset⟩,by dsimp only;omega⟩
 ·have:k=s.ws.length:=by omega
  subst this
  (conv=>whnf);(repeat'((first|apply bT|apply bF|apply bN|((first|apply bD|apply bEq|apply bNe)<;>intro hh<;>try(exfalso;omega))|refine wJ ?_|refine nJ ?_)<;>conv=>whnf))
  all_goals exact⟨rfl,rfl⟩
def Small(s:Stand):Prop:=s.ws.length<=100/\∀w∈s.ws,w.am.length<=100
def RndOk(t:List Int)(a b:List (List Int))(e:Int):Prop:=if isTk t=true then e=0/\a.length<=100/\b.length<=100/\rndP a t.length a.length/\rndP b t.length b.length/\rightP (aft (aft t a a.length) b b.length) t.length else e=1/\a=[]/\b=[]
def ExOk(t:List Int)(a:List (List Int))(e:Int):Prop:=if isTk t=true then e=0/\a.length=need t/\prsP a t.length a.length/\rightP (aft t a a.length) t.length else e=1/\a=[]
def AskOk(s:Stand)(g e:Int):Prop:=e=s.eG (-1000000)/\(e≠0->g=0)/\(e=0->qn s.gs.toNat (truths s)=0->g = -1)/\(e=0->0<qn s.gs.toNat (truths s)->isG s g=true/\knA (kn s.gs.toNat (qn s.gs.toNat (truths s)-1)) (truths s) s.gs.toNat g.toNat=true)
structure Prg:Prop where
 check:∀s,Small s->FnA Try.prog 38 [.agg s.cells] (· = .int .i64 s.chk)
 many:∀s,Small s->FnA Try.prog 18 [.agg s.cells] (· = .tup [.int .i64 (if s.chk=0 then(truths s).length else 0), .int .i64 s.chk])
 known:∀s,Small s->FnA Try.prog 19 [.agg s.cells] (· = .tup [.isl ((if s.eG (-1000000)=0 then knownK s (truths s) s.gs.toNat else []).map jAV), .int .i64 (s.eG (-1000000))])
 liars:∀s,Small s->FnA Try.prog 20 [.agg s.cells] (· = .tup [.isl ((if s.eG (-1000000)=0 then liarsK s s.ws.length else []).map jAV), .int .i64 (s.eG (-1000000))])
 quest:∀s,Small s->FnA Try.prog 26 [.agg s.cells] (· = .tup [.int .i64 (if s.eG (-1000000)=0 then qn s.gs.toNat (truths s) else 0), .int .i64 (s.eG (-1000000))])
 ask:∀s,Small s->FnA Try.prog 27 [.agg s.cells] (fun r=>∃g e:Int,r = .tup [.int .i64 g, .int .i64 e]/\AskOk s g e)
 swaps:∀t:List Int,t.length<=100->FnA Try.prog 29 [.isl (t.map jAV)] (· = .tup [.int .i64 (if isTk t=true then need t else 0), .int .i64 (if isTk t=true then 0 else 1)])
 exch:∀t:List Int,t.length<=100->FnA Try.prog 48 [.isl (t.map jAV)] (fun r=>∃(a:List (List Int)) (e:Int),r = .tup [.isl (a.map fAV), .int .i64 e]/\ExOk t a e)
 rounds:∀t:List Int,t.length<=100->FnA Try.prog 34 [.isl (t.map jAV)] (fun r=>∃(a b:List (List Int)) (e:Int),r = .tup [.isl (a.map fAV), .isl (b.map fAV), .int .i64 e]/\RndOk t a b e)
def CanOk:Prop:=∀s g,Small s->g ≠ -1000000->FnA Try.prog 21 [.agg s.cells, .int .i64 g] (· = .tup [.isl ((if s.eG g=0 then tookL (truths s) g s.gs else []).map jAV), .int .i64 (s.eG g)])
theorem small_big{s:Stand}(h:Small s):s.ws.length<=1000000/\∀w∈s.ws,w.am.length<=1000000:=⟨by have:=h.1;omega,fun w hw=>by have:=h.2 w hw;omega⟩
theorem exT_small:Small exT:=⟨by decide,by decide⟩
theorem exT_eG:exT.eG (-1000000)=0:=err_zero.2 ⟨exT_chk,by simp,by rw[exT_truths];decide⟩
theorem tk_ex:isTk [1,2,0,3]=true:=by
 have:tkP [1,2,0,3] ([1,2,0,3]:List Int).length:=(tkB_iff _).1 (by decide +kernel)
 rw[isTk,decide_eq_true this];rfl
theorem n17(P:Prg):FnA Try.prog 17 [] (· = .bool true):=by
 have e1:FnA Try.prog 18 [.agg exT.cells] (· = .tup [.int .i64 2, .int .i64 0]):=by
  have:=P.many exT exT_small
  rw[exT_chk,if_pos rfl,exT_truths]at this;exact this
 have e2:FnA Try.prog 19 [.agg exT.cells] (· = .tup [.isl (([-1, -1, -1,0]:List Int).map jAV), .int .i64 0]):=by
  have:=P.known exT exT_small
  rw[exT_eG,if_pos rfl,show exT.gs.toNat=4 from rfl,exT_known]at this;exact this
 have e3:FnA Try.prog 26 [.agg exT.cells] (· = .tup [.int .i64 1, .int .i64 0]):=by
  have:=P.quest exT exT_small
  rw[exT_eG,if_pos rfl,show exT.gs.toNat=4 from rfl,exT_qn]at this;exact this
 have e4:FnA Try.prog 29 [.isl (([1,2,0,3]:List Int).map jAV)] (· = .tup [.int .i64 2, .int .i64 0]):=by
  have:=P.swaps [1,2,0,3] (by decide)
  rw[tk_ex,if_pos rfl,if_pos rfl,exT_need]at this;exact this
 have e5:=P.rounds [1,2,0,3] (by decide)
 have e6:FnA Try.prog 37 [.isl (([-1, -1, -1,0]:List Int).map jAV), .isl (([-1, -1, -1,0]:List Int).map jAV)] (· = .bool true):=by
  have:=n37 [-1, -1, -1,0] [-1, -1, -1,0] (by decide) (by decide)
  rw[decide_eq_true rfl]at this;exact this
 refine fnA 8 ok17 (by simp) ?_
 (conv=>whnf);(repeat'((first|apply bT|apply bF|apply bN|((first|apply bD|apply bEq|apply bNe)<;>intro hh<;>try(exfalso;omega))|refine n50.zq rfl rfl ?_|refine e1.cq rfl rfl ?_|refine e2.zq rfl rfl ?_|refine e3.cq rfl rfl ?_|refine e4.lq rfl rfl ?_|refine wJ ?_|refine nJ ?_)<;>conv=>whnf))
 refine e5.callzq rfl rfl (fun r hr=>?_)
 obtain⟨a,b,e,rfl,hab⟩:=hr
 rw[RndOk,if_pos tk_ex]at hab
 obtain⟨rfl,ha,hb,_,_,hr⟩:=hab
 have hpos:0<a.length+b.length:=by
  apply Nat.pos_of_ne_zero;intro h0
  have x:a=[]:=List.length_eq_zero_iff.1 (by omega)
  have y:b=[]:=List.length_eq_zero_iff.1 (by omega)
  subst x;subst y
  exact absurd (hr 0 (by decide)) (by decide)
 have l1:(a.map fAV).length=a.length:=by simp
 have l2:(b.map fAV).length=b.length:=by simp
 (conv=>whnf);(repeat'((first|apply bT|apply bF|apply bN|((first|apply bD|apply bEq|apply bNe)<;>intro hh<;>try(exfalso;omega))|refine e6.lq rfl rfl ?_|refine wJ ?_|refine nJ ?_)<;>conv=>whnf))
 all_goals exact congrArg AV.bool (decide_eq_true (by omega))
theorem far_no{s:Stand}(h:s.far=false):Small s/\(s.chk=0->s.gs<=6):=by
 simp only[Stand.far,Bool.or_eq_false_iff,Bool.and_eq_false_iff,decide_eq_false_iff_not]at h
 refine⟨⟨by omega,fun w hw=>?_⟩,fun hc=>?_⟩
 ·have:=List.any_eq_false.1 h.2.1 w hw
  simp only[decide_eq_true_eq]at this;omega
 ·rcases h.2.2 with c|c
  ·exact absurd hc c
  ·omega
theorem rdy_of{s:Stand}(h:s.rdy=true):Small s/\s.chk=0/\s.gs<=4:=by
 simp only[Stand.rdy,Stand.farA,Bool.and_eq_true,Bool.not_eq_true',Bool.or_eq_false_iff,Bool.and_eq_false_iff,decide_eq_true_eq,decide_eq_false_iff_not]at h
 refine⟨(far_no h.1.1).1,h.2,?_⟩
 rcases h.1.2 with c|c
 ·exact absurd h.2 c
 ·omega
def Big(s:Stand):Prop:=s.ws.length<=1000000/\∀w∈s.ws,w.am.length<=1000000
theorem eG_val{s:Stand}(h:s.chk=0):s.eG (-1000000)=if ((truths s).length:Int)=0 then 3 else 0:=by
 rw[Stand.eG,Stand.err,h];simp
theorem eG_g{s:Stand}(h:s.chk=0){g:Int}(h0:0<=g/\g<s.gs):s.eG g=if ((truths s).length:Int)=0 then 3 else 0:=by
 rw[Stand.eG,Stand.err,h,isG_iff.2 h0];simp
theorem beqd(a b c d:Int):((a==b)=decide (c<d))<->(a=b<->c<d):=by
 rw[Bool.eq_iff_iff,beq_iff_eq,decide_eq_true_eq]
theorem k3(P:Prg)(hcan:CanOk)(s:Stand)(hB:Big s)(t:List Int)(ht:t.length<=1000000):FnA Try.prog 3 [.agg s.cells, .isl (t.map jAV)] (· = .bool true):=by
 have e0:=n17 P
 have e1:=n14 s hB.1 hB.2
 have e2:=n15 s hB.2
 have hW:(s.ws.map Word.av).length=s.ws.length:=by simp
 have hT:(t.map jAV).length=t.length:=by simp
 refine fnA 4 ok3 (by simp) ?_
 cases h1:s.far<;>rw[h1]at e1
 ·obtain⟨hs,_⟩:=far_no h1
  by_cases hc:s.chk=0
  ·rw[hc]at e2
   have c:=chk_ok.1 hc
   have e3:=n16 s hc t ht
   cases h3:isTr s t<;>rw[h3]at e3
   ·(conv=>whnf);(repeat'((first|apply bT|apply bF|apply bN|((first|apply bD|apply bEq|apply bNe)<;>intro hh<;>try(exfalso;omega))|refine e1.cq rfl rfl ?_|refine e2.cq rfl rfl ?_|refine e3.cq rfl rfl ?_|refine e0.cq rfl rfl ?_|refine wJ ?_|refine nJ ?_)<;>conv=>whnf))
    all_goals rfl
   ·have hm:t∈truths s:=(mem_truths c.1.1).2 h3
    have htr:=isTr_of h3
    have hpos:=List.length_pos_of_mem hm
    have hE:s.eG (-1000000)=0:=by rw[eG_val hc,if_neg (by omega)]
    have e4:=P.many s hs
    have e5:=P.known s hs
    have e6:=P.liars s hs
    rw[hc,if_pos rfl]at e4
    rw[hE,if_pos rfl]at e5 e6
    have lK:((knownK s (truths s) s.gs.toNat).map jAV).length=s.gs.toNat:=by simp[knownK_len]
    have lL:((liarsK s s.ws.length).map jAV).length=(liarsK s s.ws.length).length:=by simp
    have lL2:(liarsK s s.ws.length).length<=s.ws.length:=by rw[liars_len];exact List.countP_le_length
    (conv=>whnf);(repeat'((first|apply bT|apply bF|apply bN|((first|apply bD|apply bEq|apply bNe)<;>intro hh<;>try(exfalso;omega))|refine e1.cq rfl rfl ?_|refine e2.cq rfl rfl ?_|refine e3.cq rfl rfl ?_|refine e0.cq rfl rfl ?_|refine e4.cq rfl rfl ?_|refine e5.zq rfl rfl ?_|refine e6.zq rfl rfl ?_|refine wJ ?_|refine nJ ?_)<;>conv=>whnf))
    refine loop_i (α :=Nat) (fun k=>[(11, .int .i64 k),(9, .isl ((liarsK s s.ws.length).map jAV)),(7, .isl ((knownK s (truths s) s.gs.toNat).map jAV)),(2, .own 0 0),(1, .isl (t.map jAV))]) (fun k=>[.box false s.cells, .fresh, .fresh, .fresh]) (fun k=>k<=s.gs.toNat) (fun k=>s.gs.toNat-k) 0 mI (by omega) ?_
    rintro k hk
    conv=>whnf
    refine bD (fun h5=>?_) (fun h5=>?_)
    ·have hg:(0:Int)<=(k:Int)/\(k:Int)<s.gs:=by omega
     have e7:=hcan s (k:Int) hs (by omega)
     have hEk:s.eG (k:Int)=0:=by rw[eG_g hc hg,if_neg (by omega)]
     rw[hEk,if_pos rfl]at e7
     have g1:=getJ t k (by omega)
     have g2:=getJ (knownK s (truths s) s.gs.toNat) k (by rw[knownK_len];omega)
     rw[knownK_get s (truths s) (by omega)]at g2
     have lC:((tookL (truths s) (k:Int) s.gs).map jAV).length=(tookL (truths s) (k:Int) s.gs).length:=by simp
     have hle:=tookL_le (l:=truths s) (k:Int) c.1.1
     have hone:=one_ok (truths_okI c.1.1) hm (g:=(k:Int)) hg.1 hg.2
     rw[Int.toNat_natCast]at hone
     have e8:=n22 (tookL (truths s) (k:Int) s.gs) (t.getD k 0) (by omega)
     rw[decide_eq_true hone.1]at e8
     have ho2:=hone.2.1;have ho3:=hone.2.2
     generalize oneL (tookL (truths s) (k:Int) s.gs)=O at *
     generalize t.getD k 0=T at *
     by_cases hO:O = -1
     ·have:=ho2.1 hO
      subst hO
      (conv=>whnf);(repeat'((first|apply bT|apply bF|apply bN|((first|apply bD|apply bEq|apply bNe)<;>intro hh<;>try(exfalso;omega))|refine e7.zq rfl rfl ?_|refine iaJ g1 ?_|refine iaJ g2 ?_|refine e8.cq rfl rfl ?_|refine wJ ?_|refine nJ ?_)<;>conv=>whnf))
      all_goals first|exact⟨k+1,mI,by omega,by omega⟩|(exfalso;exact hh (by rw[beqd];omega))
     ·have h6:=ho3 hO
      have h7:¬(tookL (truths s) (k:Int) s.gs).length>1:=fun h=>hO (ho2.2 h)
      subst h6
      (conv=>whnf);(repeat'((first|apply bT|apply bF|apply bN|((first|apply bD|apply bEq|apply bNe)<;>intro hh<;>try(exfalso;omega))|refine e7.zq rfl rfl ?_|refine iaJ g1 ?_|refine iaJ g2 ?_|refine e8.cq rfl rfl ?_|refine wJ ?_|refine nJ ?_)<;>conv=>whnf))
      all_goals first|exact⟨k+1,mI,by omega,by omega⟩|(exfalso;exact hh (by rw[beqd];omega))
    ·(conv=>whnf);(repeat'((first|apply bT|apply bF|apply bN|((first|apply bD|apply bEq|apply bNe)<;>intro hh<;>try(exfalso;omega))|refine wJ ?_|refine nJ ?_)<;>conv=>whnf))
     refine loop_i (α :=Nat) (fun k=>[(14, .int .i64 k),(9, .isl ((liarsK s s.ws.length).map jAV)),(2, .own 0 0),(1, .isl (t.map jAV))]) (fun k=>[.box false s.cells, .fresh, .fresh, .fresh]) (fun k=>k<=(liarsK s s.ws.length).length) (fun k=>(liarsK s s.ws.length).length-k) 0 mI (by omega) ?_
     rintro i hi
     conv=>whnf
     refine bD (fun h6=>?_) (fun h6=>?_)
     ·have hil:i<(liarsK s s.ws.length).length:=by omega
      have g1:=getJ (liarsK s s.ws.length) i hil
      have hmi:(liarsK s s.ws.length)[i]∈liarsK s s.ws.length:=List.getElem_mem hil
      have ei:(liarsK s s.ws.length).getD i 0=(liarsK s s.ws.length)[i]:=by simp[List.getD_eq_getElem?_getD,hil]
      obtain⟨u,hu,eu,hlie⟩:=mem_liarsK.1 hmi
      rw[ei,eu]at g1
      have g2:=getM Word.av s.ws u hu
      have ew:s.ws.getD u ⟨0,0,0,[]⟩=s.ws[u]:=by simp[List.getD_eq_getElem?_getD,hu]
      rw[ew]at hlie
      have hw:=c.2.2.2 _ (List.getElem_mem hu)
      have hwo:=isWo_of hw
      have hal:=am_len hw c.1.2
      have e9:=n23 s.ws[u] t (by omega) ht (by omega) (by omega)
      rw[lie_so c.1.1 h3 hlie]at e9
      (conv=>whnf);(repeat'((first|apply bT|apply bF|apply bN|((first|apply bD|apply bEq|apply bNe)<;>intro hh<;>try(exfalso;omega))|refine iaJ g1 ?_|refine iaJ g2 ?_|refine e9.cq rfl rfl ?_|refine wJ ?_|refine nJ ?_)<;>conv=>whnf))
      exact⟨i+1,mI,by omega,by omega⟩
     ·(conv=>whnf);(repeat'((first|apply bT|apply bF|apply bN|((first|apply bD|apply bEq|apply bNe)<;>intro hh<;>try(exfalso;omega))|refine e0.cq rfl rfl ?_|refine wJ ?_|refine nJ ?_)<;>conv=>whnf))
      all_goals rfl
  ·(conv=>whnf);(repeat'((first|apply bT|apply bF|apply bN|((first|apply bD|apply bEq|apply bNe)<;>intro hh<;>try(exfalso;omega))|refine e1.cq rfl rfl ?_|refine e2.cq rfl rfl ?_|refine e0.cq rfl rfl ?_|refine wJ ?_|refine nJ ?_)<;>conv=>whnf))
   all_goals rfl
 ·(conv=>whnf);(repeat'((first|apply bT|apply bF|apply bN|((first|apply bD|apply bEq|apply bNe)<;>intro hh<;>try(exfalso;omega))|refine e1.cq rfl rfl ?_|refine e0.cq rfl rfl ?_|refine wJ ?_|refine nJ ?_)<;>conv=>whnf))
  all_goals rfl
theorem add_small{s:Stand}{w:Word}(h1:s.ws.length<20)(h2:∀v∈s.ws,v.am.length<=100)(h3:w.am.length<=20):Small (s.add w):=by
 refine⟨by simp only[Stand.add,List.length_append,List.length_singleton];omega,?_⟩
 intro v hv
 rcases List.mem_append.1 hv with c|c
 ·exact h2 v c
 ·rw[List.mem_singleton.1 c];omega
theorem k4(P:Prg)(hcan:CanOk)(s:Stand)(hB:Big s)(w:Word)(hw:w.am.length<=1000000)(g:Int):FnA Try.prog 4 [.agg s.cells, .agg w.av, .int .i64 g] (· = .bool true):=by
 have e0:=n17 P
 have e1:=n14 s hB.1 hB.2
 have e2:=n15 s hB.2
 have hW:(s.ws.map Word.av).length=s.ws.length:=by simp
 have hT:(w.am.map jAV).length=w.am.length:=by simp
 refine fnA 8 ok4 (by simp) ?_
 cases h1:s.far<;>rw[h1]at e1
 ·obtain⟨hs,_⟩:=far_no h1
  by_cases hc:s.chk=0
  ·rw[hc]at e2
   have c:=chk_ok.1 hc
   by_cases hq:s.ws.length>=20\/w.am.length>20\/g<0\/g>=s.gs
   ·(conv=>whnf);(repeat'((first|apply bT|apply bF|apply bN|((first|apply bD|apply bEq|apply bNe)<;>intro hh<;>try(exfalso;omega))|refine e1.cq rfl rfl ?_|refine e2.cq rfl rfl ?_|refine e0.cq rfl rfl ?_|refine wJ ?_|refine nJ ?_)<;>conv=>whnf))
    all_goals rfl
   ·have ha:=add_small (s:=s) (w:=w) (by omega) hs.2 (by omega)
    have e3:=n24o s hB.1 hB.2
    have ec:(s.add w).cells=[.int .i64 s.gs, .isl (s.ws.map Word.av++[w.av]), .int .i64 s.wr]:=by simp[Stand.cells,Stand.add]
    have e4:=n15 (s.add w) (fun v hv=>by have:=ha.2 v hv;omega)
    have e5:=P.many s hs
    have e6:=P.many (s.add w) ha
    have e7:=hcan s g hs (by omega)
    have e8:=hcan (s.add w) g ha (by omega)
    rw[ec]at e4 e6 e8
    by_cases hd:(s.add w).chk=0
    ·rw[hd]at e4 e6
     rw[hc,if_pos rfl]at e5
     rw[if_pos rfl]at e6
     have hE1:=eG_g hc (g:=g) ⟨by omega,by omega⟩
     have hE2:=eG_g (s:=s.add w) hd (g:=g) ⟨by omega,by show g<s.gs;omega⟩
     have hlen:=add_len (s:=s) (w:=w) c.1.1
     have hsub:=add_took (s:=s) (w:=w) c.1.1 g
     have htl:=add_tlen (s:=s) (w:=w) c.1.1 g
     have hle:=tookL_le (l:=truths s) g c.1.1
     have eg:(s.add w).gs=s.gs:=rfl
     rw[eg]at e8
     have hA:∃A B:List Int,(if s.eG g=0 then tookL (truths s) g s.gs else [])=A/\(if (s.add w).eG g=0 then tookL (truths (s.add w)) g s.gs else [])=B/\(∀x∈B,x∈A)/\B.length<=A.length/\(A.length:Int)<=s.gs:=by
      refine⟨_,_,rfl,rfl,?_⟩
      by_cases x:s.eG g=0
      ·rw[if_pos x]
       by_cases y:(s.add w).eG g=0
       ·rw[if_pos y];exact⟨hsub,htl,hle⟩
       ·rw[if_neg y];exact⟨fun _ h=>absurd h List.not_mem_nil,by simp,hle⟩
      ·have y:¬(s.add w).eG g=0:=by
        intro y;rw[hE1]at x;rw[hE2]at y;split at x<;>split at y<;>omega
       rw[if_neg x,if_neg y];exact⟨fun _ h=>h,by simp,by simp;exact c.1.1⟩
     obtain⟨A,B,hA1,hB1,hAB,hl1,hl2⟩:=hA
     rw[hA1]at e7
     rw[hB1]at e8
     have x1:s.eG g=0<->0<((truths s).length:Int):=by rw[hE1];split<;>omega
     have x2:(s.add w).eG g=0<->0<((truths (s.add w)).length:Int):=by rw[hE2];split<;>omega
     clear hA1 hB1 hE1 hE2 hsub htl hle
     generalize s.eG g=E1 at *
     generalize (s.add w).eG g=E2 at *
     generalize (truths s).length=M at *
     generalize (truths (s.add w)).length=N at *
     have lA:(A.map jAV).length=A.length:=by simp
     have lB:(B.map jAV).length=B.length:=by simp
     have c7:=c.1.2
     (conv=>whnf);(repeat'((first|apply bT|apply bF|apply bN|((first|apply bD|apply bEq|apply bNe)<;>intro hh<;>try(exfalso;omega))|refine e1.cq rfl rfl ?_|refine e2.cq rfl rfl ?_|refine e0.cq rfl rfl ?_|refine e3.oq rfl rfl rfl ?_|(refine apI (by simp[Word.av,AV.one]) (by simp only[List.length_cons,List.length_nil,hW];omega) ?_)|refine e4.lq rfl rfl ?_|refine e5.cq rfl rfl ?_|refine e6.lq rfl rfl ?_|refine e7.zq rfl rfl ?_|refine e8.zq rfl rfl ?_|refine wJ ?_|refine nJ ?_)<;>conv=>whnf))
     all_goals first
      |(exfalso;exact hh (by rw[beqd];omega))
      |refine loop_i (α :=Nat) (fun k=>[(16, .int .i64 k),(14, .isl (B.map jAV)),(12, .isl (A.map jAV))]) (fun k=>[.fresh, .fresh, .fresh, .fresh, .fresh, .fresh, .fresh, .fresh]) (fun k=>k<=B.length) (fun k=>B.length-k) 0 mI (by omega) ?_
     rintro k hk
     conv=>whnf
     refine bD (fun h5=>?_) (fun h5=>?_)
     ·have hkB:k<B.length:=by omega
      have g1:=getJ B k hkB
      have eB:B.getD k 0=B[k]:=by simp[List.getD_eq_getElem?_getD,hkB]
      have e9:=n22 A (B.getD k 0) (by omega)
      rw[decide_eq_true (hAB _ (by rw[eB];exact List.getElem_mem hkB))]at e9
      (conv=>whnf);(repeat'((first|apply bT|apply bF|apply bN|((first|apply bD|apply bEq|apply bNe)<;>intro hh<;>try(exfalso;omega))|refine iaJ g1 ?_|refine e9.cq rfl rfl ?_|refine wJ ?_|refine nJ ?_)<;>conv=>whnf))
      exact⟨k+1,mI,by omega,by omega⟩
     ·(conv=>whnf);(repeat'((first|apply bT|apply bF|apply bN|((first|apply bD|apply bEq|apply bNe)<;>intro hh<;>try(exfalso;omega))|refine e0.cq rfl rfl ?_|refine wJ ?_|refine nJ ?_)<;>conv=>whnf))
      all_goals rfl
    ·(conv=>whnf);(repeat'((first|apply bT|apply bF|apply bN|((first|apply bD|apply bEq|apply bNe)<;>intro hh<;>try(exfalso;omega))|refine e1.cq rfl rfl ?_|refine e2.cq rfl rfl ?_|refine e0.cq rfl rfl ?_|refine e3.oq rfl rfl rfl ?_|(refine apI (by simp[Word.av,AV.one]) (by simp only[List.length_cons,List.length_nil,hW];omega) ?_)|refine e4.lq rfl rfl ?_|refine wJ ?_|refine nJ ?_)<;>conv=>whnf))
     all_goals rfl
  ·(conv=>whnf);(repeat'((first|apply bT|apply bF|apply bN|((first|apply bD|apply bEq|apply bNe)<;>intro hh<;>try(exfalso;omega))|refine e1.cq rfl rfl ?_|refine e2.cq rfl rfl ?_|refine e0.cq rfl rfl ?_|refine wJ ?_|refine nJ ?_)<;>conv=>whnf))
   all_goals rfl
 ·(conv=>whnf);(repeat'((first|apply bT|apply bF|apply bN|((first|apply bD|apply bEq|apply bNe)<;>intro hh<;>try(exfalso;omega))|refine e1.cq rfl rfl ?_|refine e0.cq rfl rfl ?_|refine wJ ?_|refine nJ ?_)<;>conv=>whnf))
  all_goals rfl
theorem mem_liars{s:Stand}{k:Nat}(hk:k<s.ws.length):((k:Int)∈liarsK s s.ws.length)<->lieW s s.ws[k]=true:=by
 rw[mem_liarsK]
 have e:∀u,(hu:u<s.ws.length)->s.ws.getD u ⟨0,0,0,[]⟩=s.ws[u]:=fun u hu=>by simp[List.getD_eq_getElem?_getD,hu]
 constructor
 ·rintro⟨u,hu,eu,h⟩
  have:k=u:=by omega
  subst this;rw[e k hk]at h;exact h
 ·intro h;exact⟨k,hk,rfl,by rw[e k hk];exact h⟩
theorem k10(P:Prg)(hcan:CanOk)(s:Stand)(hB:Big s)(g:Int):FnA Try.prog 10 [.agg s.cells, .int .i64 g] (· = .bool true):=by
 have e0:=n17 P
 have e1:=n14 s hB.1 hB.2
 have e2:=n15 s hB.2
 have hW:(s.ws.map Word.av).length=s.ws.length:=by simp
 refine fnA 7 ok10 (by simp) ?_
 cases h1:s.far<;>rw[h1]at e1
 ·obtain⟨hs,_⟩:=far_no h1
  by_cases hc:s.chk=0
  ·rw[hc]at e2
   have c:=chk_ok.1 hc
   by_cases hq:g<0\/g>=s.gs
   ·(conv=>whnf);(repeat'((first|apply bT|apply bF|apply bN|((first|apply bD|apply bEq|apply bNe)<;>intro hh<;>try(exfalso;omega))|refine e1.cq rfl rfl ?_|refine e2.cq rfl rfl ?_|refine e0.cq rfl rfl ?_|refine wJ ?_|refine nJ ?_)<;>conv=>whnf))
    all_goals rfl
   ·have e3:=P.liars s hs
    rw[eG_val hc]at e3
    by_cases hz:((truths s).length:Int)=0
    ·rw[if_pos hz,if_neg (by omega)]at e3
     (conv=>whnf);(repeat'((first|apply bT|apply bF|apply bN|((first|apply bD|apply bEq|apply bNe)<;>intro hh<;>try(exfalso;omega))|refine e1.cq rfl rfl ?_|refine e2.cq rfl rfl ?_|refine e0.cq rfl rfl ?_|refine e3.zq rfl rfl ?_|refine wJ ?_|refine nJ ?_)<;>conv=>whnf))
     all_goals rfl
    ·rw[if_neg hz,if_pos rfl]at e3
     obtain⟨t,ht⟩:=List.length_pos_iff_exists_mem.1 (show 0<(truths s).length by omega)
     have hh0:=chk_honest hc ht
     have lL:((liarsK s s.ws.length).map jAV).length=(liarsK s s.ws.length).length:=by simp
     have lL2:(liarsK s s.ws.length).length=s.ws.countP (lieW s):=liars_len
     have lL3:(liarsK s s.ws.length).length<=s.ws.length:=by rw[lL2];exact List.countP_le_length
     have hfl:∀k,((s.ws.take k).filter fun w => !lieW s w).length<=s.ws.length:=fun k=>by
      have:=List.length_filter_le (fun w => !lieW s w) (s.ws.take k)
      simp only[List.length_take]at this;omega
     have hsm:Small s.honest:=⟨by have:=hfl s.ws.length;rw[List.take_length]at this;have h:=hs.1;show(s.ws.filter fun w => !lieW s w).length<=100;omega,fun v hv=>hs.2 v (List.mem_filter.1 hv).1⟩
     have ec:s.honest.cells=[.int .i64 s.gs, .isl ((s.ws.filter fun w => !lieW s w).map Word.av), .int .i64 (s.wr-((liarsK s s.ws.length).map jAV).length)]:=by
      rw[lL,lL2];rfl
     have e4:=n15 s.honest (fun v hv=>by have:=hsm.2 v hv;omega)
     have e5:=P.many s hs
     have e6:=P.many s.honest hsm
     have e7:=hcan s g hs (by omega)
     have e8:=hcan s.honest g hsm (by omega)
     rw[ec]at e4 e6 e8
     have hp:=honest_perm (s:=s) c.1.1
     rw[hh0]at e4 e6
     rw[hc,if_pos rfl]at e5
     rw[if_pos rfl,<- hp.length_eq]at e6
     have hE1:s.eG g=0:=by rw[eG_g hc ⟨by omega,by omega⟩,if_neg hz]
     have hE2:s.honest.eG g=0:=by rw[eG_g hh0 ⟨by omega,by show g<s.gs;omega⟩,<- hp.length_eq,if_neg hz]
     have eg:s.honest.gs=s.gs:=rfl
     rw[hE1,if_pos rfl]at e7
     rw[hE2,if_pos rfl,eg,<- tookL_perm (s:=s) hp]at e8
     have hle:=tookL_le (l:=truths s) g c.1.1
     have e9:=n37 (tookL (truths s) g s.gs) (tookL (truths s) g s.gs) (by omega) (by omega)
     rw[decide_eq_true rfl]at e9
     (conv=>whnf);(repeat'((first|apply bT|apply bF|apply bN|((first|apply bD|apply bEq|apply bNe)<;>intro hh<;>try(exfalso;omega))|refine e1.cq rfl rfl ?_|refine e2.cq rfl rfl ?_|refine e0.cq rfl rfl ?_|refine e3.zq rfl rfl ?_|refine wJ ?_|refine nJ ?_)<;>conv=>whnf))
     refine loop_i (α :=Nat) (fun k=>[(8, .int .i64 k),(7, .own 2 0),(5, .isl ((liarsK s s.ws.length).map jAV)),(2, .own 0 0),(1, .int .i64 g)]) (fun k=>[.box false s.cells, .fresh, .box false [.int .i64 s.gs, .row 7, .int .i64 (s.wr-((liarsK s s.ws.length).map jAV).length)], .fresh, .fresh, .fresh, .fresh, .row false 39 4 (((s.ws.take k).filter fun w => !lieW s w).map Word.av)]) (fun k=>k<=s.ws.length) (fun k=>s.ws.length-k) 0 (mA [(7,none)]) (by omega) ?_
     rintro k hk
     conv=>whnf
     refine bD (fun h5=>?_) (fun h5=>?_)
     ·have hkl:k<s.ws.length:=by omega
      have g1:=getM Word.av s.ws k hkl
      have ea:=n22 (liarsK s s.ws.length) (k:Int) (by omega)
      have hm:=mem_liars (s:=s) hkl
      have hfk:=hfl k
      have lF:(((s.ws.take k).filter fun w => !lieW s w).map Word.av).length=((s.ws.take k).filter fun w => !lieW s w).length:=by simp
      cases hx:lieW s s.ws[k]
      ·rw[decide_eq_false (fun h=>by rw[hm.1 h]at hx;cases hx)]at ea
       have et:(s.ws.take (k+1)).filter (fun w => !lieW s w)=(s.ws.take k).filter (fun w => !lieW s w)++[s.ws[k]]:=by
        rw[List.take_succ_eq_append_getElem hkl,List.filter_append,List.filter_cons,hx];rfl
       (conv=>whnf);(repeat'((first|apply bT|apply bF|apply bN|((first|apply bD|apply bEq|apply bNe)<;>intro hh<;>try(exfalso;omega))|refine ea.cq rfl rfl ?_|refine iaJ g1 ?_|(refine apI (by simp[Word.av,AV.one]) (by simp only[List.length_cons,List.length_nil,lF];omega) ?_)|refine wJ ?_|refine nJ ?_)<;>conv=>whnf))
       refine⟨k+1,?_,by omega,by omega⟩
       rw[et,List.map_append]
       exact(mA [(7,some 4)])
      ·rw[decide_eq_true (hm.2 hx)]at ea
       have et:(s.ws.take (k+1)).filter (fun w => !lieW s w)=(s.ws.take k).filter (fun w => !lieW s w):=by
        rw[List.take_succ_eq_append_getElem hkl,List.filter_append,List.filter_cons,hx];simp
       (conv=>whnf);(repeat'((first|apply bT|apply bF|apply bN|((first|apply bD|apply bEq|apply bNe)<;>intro hh<;>try(exfalso;omega))|refine ea.cq rfl rfl ?_|refine wJ ?_|refine nJ ?_)<;>conv=>whnf))
       refine⟨k+1,?_,by omega,by omega⟩
       rw[et]
       exact mI
     ·have:k=s.ws.length:=by omega
      subst this
      rw[List.take_length]
      (conv=>whnf);(repeat'((first|apply bT|apply bF|apply bN|((first|apply bD|apply bEq|apply bNe)<;>intro hh<;>try(exfalso;omega))|refine e4.lq rfl rfl ?_|refine e5.cq rfl rfl ?_|refine e6.lq rfl rfl ?_|refine e7.zq rfl rfl ?_|refine e8.zq rfl rfl ?_|refine e9.cq rfl rfl ?_|refine e0.cq rfl rfl ?_|refine wJ ?_|refine nJ ?_)<;>conv=>whnf))
      all_goals rfl
  ·(conv=>whnf);(repeat'((first|apply bT|apply bF|apply bN|((first|apply bD|apply bEq|apply bNe)<;>intro hh<;>try(exfalso;omega))|refine e1.cq rfl rfl ?_|refine e2.cq rfl rfl ?_|refine e0.cq rfl rfl ?_|refine wJ ?_|refine nJ ?_)<;>conv=>whnf))
   all_goals rfl
 ·(conv=>whnf);(repeat'((first|apply bT|apply bF|apply bN|((first|apply bD|apply bEq|apply bNe)<;>intro hh<;>try(exfalso;omega))|refine e1.cq rfl rfl ?_|refine e0.cq rfl rfl ?_|refine wJ ?_|refine nJ ?_)<;>conv=>whnf))
  all_goals rfl
theorem two_len{l:List Int}{a b:Int}(ha:a∈l)(hb:b∈l)(h:a≠b):2<=l.length:=by
 match l,ha,hb with
 | [],ha,_=>exact absurd ha List.not_mem_nil
 | [x],ha,hb=>rw[List.mem_singleton]at ha hb;exact absurd (ha.trans hb.symm) h
 |_::_::_,_,_=>simp
theorem k5(P:Prg)(hcan:CanOk)(s:Stand)(hB:Big s):FnA Try.prog 5 [.agg s.cells] (· = .bool true):=by
 have e0:=n17 P
 have e1:=n25 s hB.1 hB.2
 have hW:(s.ws.map Word.av).length=s.ws.length:=by simp
 refine fnA 7 ok5 (by simp) ?_
 cases h1:s.rdy<;>rw[h1]at e1
 ·(conv=>whnf);(repeat'((first|apply bT|apply bF|apply bN|((first|apply bD|apply bEq|apply bNe)<;>intro hh<;>try(exfalso;omega))|refine e1.cq rfl rfl ?_|refine e0.cq rfl rfl ?_|refine wJ ?_|refine nJ ?_)<;>conv=>whnf))
  all_goals rfl
 ·obtain⟨hs,hc,hg4⟩:=rdy_of h1
  have c:=chk_ok.1 hc
  by_cases hq:s.wr>0\/s.ws.length>=20
  ·(conv=>whnf);(repeat'((first|apply bT|apply bF|apply bN|((first|apply bD|apply bEq|apply bNe)<;>intro hh<;>try(exfalso;omega))|refine e1.cq rfl rfl ?_|refine e0.cq rfl rfl ?_|refine wJ ?_|refine nJ ?_)<;>conv=>whnf))
   all_goals rfl
  ·have e3:=P.quest s hs
   have e5:=P.ask s hs
   rw[eG_val hc]at e3
   by_cases hz:((truths s).length:Int)=0
   ·rw[if_pos hz,if_neg (by omega)]at e3
    (conv=>whnf);(repeat'((first|apply bT|apply bF|apply bN|((first|apply bD|apply bEq|apply bNe)<;>intro hh<;>try(exfalso;omega))|refine e1.cq rfl rfl ?_|refine e3.cq rfl rfl ?_|refine wJ ?_|refine nJ ?_)<;>conv=>whnf))
    refine e5.callq rfl rfl (fun r hr=>?_)
    obtain⟨g,e,rfl,he1,he2,he3,he4⟩:=hr
    rw[eG_val hc,if_pos hz]at he1
    subst he1
    (conv=>whnf);(repeat'((first|apply bT|apply bF|apply bN|((first|apply bD|apply bEq|apply bNe)<;>intro hh<;>try(exfalso;omega))|refine e0.cq rfl rfl ?_|refine wJ ?_|refine nJ ?_)<;>conv=>whnf))
    all_goals rfl
   ·rw[if_neg hz,if_pos rfl]at e3
    (conv=>whnf);(repeat'((first|apply bT|apply bF|apply bN|((first|apply bD|apply bEq|apply bNe)<;>intro hh<;>try(exfalso;omega))|refine e1.cq rfl rfl ?_|refine e3.cq rfl rfl ?_|refine wJ ?_|refine nJ ?_)<;>conv=>whnf))
    refine e5.callq rfl rfl (fun r hr=>?_)
    obtain⟨g,e,rfl,he1,he2,he3,he4⟩:=hr
    rw[eG_val hc,if_neg hz]at he1
    subst he1
    by_cases hq0:qn s.gs.toNat (truths s)=0
    ·have:=he3 rfl hq0
     subst this
     (conv=>whnf);(repeat'((first|apply bT|apply bF|apply bN|((first|apply bD|apply bEq|apply bNe)<;>intro hh<;>try(exfalso;omega))|refine e0.cq rfl rfl ?_|refine wJ ?_|refine nJ ?_)<;>conv=>whnf))
     all_goals rfl
    ·obtain⟨hg1,hg2⟩:=he4 rfl (by omega)
     have hgg:=isG_iff.1 hg1
     have kgs:=kn_gs (nd_truths c.1.1) (truths_ok c.1.1)
     have e7:=hcan s g hs (by omega)
     rw[eG_g hc hgg,if_neg hz,if_pos rfl]at e7
     obtain⟨a,ha,b,hb,hne⟩:=ask_two (m:=qn s.gs.toNat (truths s)-1) (truths_ok c.1.1) kgs (by omega) (g:=g.toNat) (by omega) hg2
     have hle:=tookL_le (l:=truths s) g c.1.1
     have htwo:=two_len ((mem_tookL (truths_okI c.1.1) hgg.1 hgg.2).2 ⟨a,ha,rfl⟩) ((mem_tookL (truths_okI c.1.1) hgg.1 hgg.2).2 ⟨b,hb,rfl⟩) hne
     have lT:((tookL (truths s) g s.gs).map jAV).length=(tookL (truths s) g s.gs).length:=by simp
     have hqb:=(qn_spec kgs).1
     (conv=>whnf);(repeat'((first|apply bT|apply bF|apply bN|((first|apply bD|apply bEq|apply bNe)<;>intro hh<;>try(exfalso;omega))|refine e7.zq rfl rfl ?_|refine wJ ?_|refine nJ ?_)<;>conv=>whnf))
     refine loop_i (α :=Nat) (fun k=>[(9, .int .i64 k),(7, .isl ((tookL (truths s) g s.gs).map jAV)),(5, .int .i64 g),(3, .int .i64 (qn s.gs.toNat (truths s))),(1, .own 0 0)]) (fun k=>[.box false s.cells, .fresh, .fresh, .fresh, .fresh, .fresh, .fresh]) (fun k=>k<=(tookL (truths s) g s.gs).length) (fun k=>(tookL (truths s) g s.gs).length-k) 0 mI (by omega) ?_
     rintro k hk
     conv=>whnf
     refine bD (fun h5=>?_) (fun h5=>?_)
     ·have hkl:k<(tookL (truths s) g s.gs).length:=by omega
      have g1:=getJ (tookL (truths s) g s.gs) k hkl
      have ek:(tookL (truths s) g s.gs).getD k 0=(tookL (truths s) g s.gs)[k]:=by simp[List.getD_eq_getElem?_getD,hkl]
      have hm:(tookL (truths s) g s.gs).getD k 0∈tookL (truths s) g s.gs:=by rw[ek];exact List.getElem_mem hkl
      generalize (tookL (truths s) g s.gs).getD k 0=x at *
      obtain⟨t,ht,htx⟩:=(mem_tookL (truths_okI c.1.1) hgg.1 hgg.2).1 hm
      have hto:=truths_okI c.1.1 t ht
      have hx:=tk_lt hto.2 g.toNat (by omega)
      rw[htx]at hx
      have hchk:=chk_answer hc (by omega) hgg (u:=x) (by omega)
      have hsm:=add_small (s:=s) (w:=⟨1,g,0,[x]⟩) (by omega) hs.2 (by simp)
      have ec:(s.add ⟨1,g,0,[x]⟩).cells=[.int .i64 s.gs, .isl (s.ws.map Word.av++[[.int .i64 1, .int .i64 g, .int .i64 0, .isl [[.int .i64 x]]]]), .int .i64 s.wr]:=by
       simp[Stand.cells,Stand.add,Word.av,jAV]
      have hpm:=add_answer (s:=s) (g:=g) (u:=x) c.1.1 (by omega)
      have hlen:((truths (s.add ⟨1,g,0,[x]⟩)).length:Int)≠0:=by
       rw[hpm.length_eq]
       have:=List.length_pos_of_mem (mem_where.2 ⟨ht,htx⟩)
       omega
      have hqn:=answer_qn (s:=s) (g:=g) (u:=x) (m:=qn s.gs.toNat (truths s)-1) c.1.1 (by omega) hgg.1 hg2 (by omega)
      have e8:=P.quest (s.add ⟨1,g,0,[x]⟩) hsm
      rw[eG_val hchk,if_neg hlen,if_pos rfl,ec,show(s.add ⟨1,g,0,[x]⟩).gs=s.gs from rfl]at e8
      have e9:=n24o s hB.1 hB.2
      generalize qn s.gs.toNat (truths (s.add ⟨1,g,0,[x]⟩))=Q2 at *
      (conv=>whnf);(repeat'((first|apply bT|apply bF|apply bN|((first|apply bD|apply bEq|apply bNe)<;>intro hh<;>try(exfalso;omega))|refine e9.oq rfl rfl rfl ?_|refine iaJ g1 ?_|(refine apI (by simp[AV.one]) (by simp only[List.length_cons,List.length_nil,hW];omega) ?_)|refine e8.lq rfl rfl ?_|refine wJ ?_|refine nJ ?_)<;>conv=>whnf))
      exact⟨k+1,mI,by omega,by omega⟩
     ·(conv=>whnf);(repeat'((first|apply bT|apply bF|apply bN|((first|apply bD|apply bEq|apply bNe)<;>intro hh<;>try(exfalso;omega))|refine e0.cq rfl rfl ?_|refine wJ ?_|refine nJ ?_)<;>conv=>whnf))
      all_goals rfl
theorem isTk_iff{t:List Int}:isTk t=true<->tk t/\t.length<=7:=by
 simp only[isTk,Bool.and_eq_true,decide_eq_true_eq]
 exact⟨fun h=>⟨tk_of h.1,h.2⟩,fun h=>⟨tk_to h.1,h.2⟩⟩
theorem rnK_nil(nu:List Int)(k:Nat):rnK nu [] k=[]:=by
 induction k with
 |zero=>rfl
 |succ k ih=>rw[rnK,ih];rfl
theorem k9(P:Prg)(hcan:CanOk)(s:Stand)(hB:Big s)(nu:List Int)(hn:nu.length<=1000000)(g:Int):FnA Try.prog 9 [.agg s.cells, .isl (nu.map jAV), .int .i64 g] (· = .bool true):=by
 have e0:=n17 P
 have e1:=n25 s hB.1 hB.2
 have e2:=n28 nu hn
 have hW:(s.ws.map Word.av).length=s.ws.length:=by simp
 have hN:(nu.map jAV).length=nu.length:=by simp
 refine fnA 10 ok9 (by simp) ?_
 cases h1:s.rdy<;>rw[h1]at e1
 ·(conv=>whnf);(repeat'((first|apply bT|apply bF|apply bN|((first|apply bD|apply bEq|apply bNe)<;>intro hh<;>try(exfalso;omega))|refine e1.cq rfl rfl ?_|refine e0.cq rfl rfl ?_|refine wJ ?_|refine nJ ?_)<;>conv=>whnf))
  all_goals rfl
 ·obtain⟨hs,hc,hg4⟩:=rdy_of h1
  have c:=chk_ok.1 hc
  by_cases hg:(nu.length:Int)=s.gs
  ·cases hk:isTk nu<;>rw[hk]at e2
   ·(conv=>whnf);(repeat'((first|apply bT|apply bF|apply bN|((first|apply bD|apply bEq|apply bNe)<;>intro hh<;>try(exfalso;omega))|refine e1.cq rfl rfl ?_|refine e2.cq rfl rfl ?_|refine e0.cq rfl rfl ?_|refine wJ ?_|refine nJ ?_)<;>conv=>whnf))
    all_goals rfl
   ·obtain⟨htk,h7⟩:=isTk_iff.1 hk
    by_cases hq:g<0\/g>=s.gs
    ·(conv=>whnf);(repeat'((first|apply bT|apply bF|apply bN|((first|apply bD|apply bEq|apply bNe)<;>intro hh<;>try(exfalso;omega))|refine e1.cq rfl rfl ?_|refine e2.cq rfl rfl ?_|refine e0.cq rfl rfl ?_|refine wJ ?_|refine nJ ?_)<;>conv=>whnf))
     all_goals rfl
    ·have hcr:=chk_ren htk hg hc
     have hsr:Small (s.ren nu):=by
      have cr:=chk_ok.1 hcr
      exact⟨by omega,fun w hw=>by have:=am_len (s:=s.ren nu) (cr.2.2.2 w hw) cr.1.2;omega⟩
     have ec:(s.ren nu).cells=[.int .i64 s.gs, .isl ((s.ws.map (renW nu)).map Word.av), .int .i64 s.wr]:=rfl
     have eg:(s.ren nu).gs=s.gs:=rfl
     have ng:=tk_lt htk g.toNat (by omega)
     have e3:=P.many s hs
     have e4:=P.many (s.ren nu) hsr
     have e5:=P.quest s hs
     have e6:=P.quest (s.ren nu) hsr
     have e7:=hcan s g hs (by omega)
     have e8:=hcan (s.ren nu) (nu.getD g.toNat 0) hsr (by omega)
     have hml:=ren_many htk hg c.2.2.2
     have hqn:=qn_num htk hg c.2.2.2
     have hto:=ren_took htk hg c.2.2.2 (g:=g) (by omega) (by omega)
     rw[hc,if_pos rfl]at e3
     rw[hcr,if_pos rfl,ec,hml]at e4
     rw[eG_val hc]at e5
     rw[eG_val hcr,ec,hml,eg,hqn]at e6
     rw[eG_g hc ⟨by omega,by omega⟩]at e7
     rw[eG_g hcr ⟨by omega,by rw[eg];omega⟩,ec,hml,eg,hto]at e8
     have hA:∃A:List Int,(if (if ((truths s).length:Int)=0 then(3:Int) else 0)=0 then tookL (truths s) g s.gs else [])=A/\(if (if ((truths s).length:Int)=0 then(3:Int) else 0)=0 then rnK nu (tookL (truths s) g s.gs) nu.length else [])=rnK nu A nu.length/\(∀y∈A,0<=y/\y<nu.length)/\(A.length:Int)<=s.gs:=by
      by_cases x:(if ((truths s).length:Int)=0 then(3:Int) else 0)=0
      ·rw[if_pos x,if_pos x]
       refine⟨_,rfl,rfl,fun y hy=>?_,tookL_le g c.1.1⟩
       obtain⟨u,hu,e,_⟩:=mem_tookK.1 hy
       omega
      ·rw[if_neg x,if_neg x]
       exact⟨[],rfl,(rnK_nil nu _).symm,fun y hy=>absurd hy List.not_mem_nil,by simp;exact c.1.1⟩
     obtain⟨A,hA1,hA2,hA3,hA4⟩:=hA
     rw[hA1]at e7
     rw[hA2]at e8
     have lA:(A.map jAV).length=A.length:=by simp
     have lR:(rnK nu A nu.length).length<=1000000:=by
      have:=rnI_len nu A nu.length 0
      rw[rnI_zero]at this
      have h:(nu.length+1)*A.length<=8*7:=Nat.mul_le_mul (by omega) (by omega)
      omega
     have e9:=n36 A nu (by omega) (by omega) hA3
     have e10:=n37 (rnK nu A nu.length) (rnK nu A nu.length) lR lR
     rw[decide_eq_true rfl]at e10
     have g0:=getJ nu g.toNat (by omega)
     clear hA1 hA2
     (conv=>whnf);(repeat'((first|apply bT|apply bF|apply bN|((first|apply bD|apply bEq|apply bNe)<;>intro hh<;>try(exfalso;omega))|refine e1.cq rfl rfl ?_|refine e2.cq rfl rfl ?_|refine e0.cq rfl rfl ?_|refine wJ ?_|refine nJ ?_)<;>conv=>whnf))
     refine loop_i (α :=Nat) (fun k=>[(8, .int .i64 k),(7, .own 1 0),(3, .own 0 0),(2, .int .i64 g),(1, .isl (nu.map jAV))]) (fun k=>[.box false s.cells, .box false [.int .i64 s.gs, .row 10, .int .i64 s.wr], .fresh, .fresh, .fresh, .fresh, .fresh, .fresh, .fresh, .fresh, .row false 39 4 (((s.ws.take k).map (renW nu)).map Word.av)]) (fun k=>k<=s.ws.length) (fun k=>s.ws.length-k) 0 (mA [(10,none)]) (by omega) ?_
     rintro k hk
     conv=>whnf
     refine bD (fun h5=>?_) (fun h5=>?_)
     ·have hkl:k<s.ws.length:=by omega
      have g1:=getM Word.av s.ws k hkl
      have hw:=c.2.2.2 _ (List.getElem_mem hkl)
      have hwo:=isWo_of hw
      have hal:=am_len hw c.1.2
      have g2:=getJ nu s.ws[k].g.toNat (by omega)
      have g3:=getJ nu s.ws[k].o.toNat (by omega)
      have f1:=n36 s.ws[k].am nu (by omega) (by omega) (fun y hy=>by have:=am_ok hw y hy;omega)
      have lF:(((s.ws.take k).map (renW nu)).map Word.av).length=k:=by simp;omega
      have et:((s.ws.take (k+1)).map (renW nu)).map Word.av=((s.ws.take k).map (renW nu)).map Word.av++[(renW nu s.ws[k]).av]:=by
       rw[List.take_succ_eq_append_getElem hkl,List.map_append,List.map_append];rfl
      by_cases h34:s.ws[k].k=3\/s.ws[k].k=4
      ·have er:(renW nu s.ws[k]).av=[.int .i64 s.ws[k].k, .int .i64 (nu.getD s.ws[k].g.toNat 0), .int .i64 (nu.getD s.ws[k].o.toNat 0), .isl ((rnK nu s.ws[k].am nu.length).map jAV)]:=by
        rw[Word.av,renW];simp only[if_pos h34]
       (conv=>whnf);(repeat'((first|apply bT|apply bF|apply bN|((first|apply bD|apply bEq|apply bNe)<;>intro hh<;>try(exfalso;omega))|refine iaJ g1 ?_|refine iaJ g2 ?_|refine f1.zq rfl rfl ?_|refine iaJ g3 ?_|(refine apI (by simp[AV.one]) (by simp only[List.length_cons,List.length_nil,lF];omega) ?_)|refine wJ ?_|refine nJ ?_)<;>conv=>whnf))
       all_goals
        refine⟨k+1,?_,by omega,by omega⟩
        rw[et,er]
        exact(mA [(10,some 6)])
      ·have er:(renW nu s.ws[k]).av=[.int .i64 s.ws[k].k, .int .i64 (nu.getD s.ws[k].g.toNat 0), .int .i64 0, .isl ((rnK nu s.ws[k].am nu.length).map jAV)]:=by
        rw[Word.av,renW];simp only[if_neg h34]
       (conv=>whnf);(repeat'((first|apply bT|apply bF|apply bN|((first|apply bD|apply bEq|apply bNe)<;>intro hh<;>try(exfalso;omega))|refine iaJ g1 ?_|refine iaJ g2 ?_|refine f1.zq rfl rfl ?_|(refine apI (by simp[AV.one]) (by simp only[List.length_cons,List.length_nil,lF];omega) ?_)|refine wJ ?_|refine nJ ?_)<;>conv=>whnf))
       all_goals
        refine⟨k+1,?_,by omega,by omega⟩
        rw[et,er]
        exact(mA [(10,some 6)])
     ·have:k=s.ws.length:=by omega
      subst this
      rw[List.take_length]
      (conv=>whnf);(repeat'((first|apply bT|apply bF|apply bN|((first|apply bD|apply bEq|apply bNe)<;>intro hh<;>try(exfalso;omega))|refine e3.cq rfl rfl ?_|refine e4.lq rfl rfl ?_|refine e5.cq rfl rfl ?_|refine e6.lq rfl rfl ?_|refine e7.zq rfl rfl ?_|refine iaJ g0 ?_|refine e8.zq rfl rfl ?_|refine wJ ?_|refine nJ ?_)<;>conv=>whnf))
      refine loop_i (α :=Nat) (fun k=>[(23, .int .i64 k),(21, .isl ((rnK nu A nu.length).map jAV)),(19, .isl (A.map jAV)),(3, .own 0 0),(1, .isl (nu.map jAV))]) (fun k=>[.box false s.cells, .fresh, .fresh, .fresh, .fresh, .fresh, .fresh, .fresh, .fresh, .fresh]) (fun k=>k<=A.length) (fun k=>A.length-k) 0 mI (by omega) ?_
      rintro i hi
      conv=>whnf
      refine bD (fun h6=>?_) (fun h6=>?_)
      ·have hil:i<A.length:=by omega
       have g1:=getJ A i hil
       have eA:A.getD i 0=A[i]:=by simp[List.getD_eq_getElem?_getD,hil]
       have hy:=hA3 _ (List.getElem_mem hil)
       rw[<- eA]at hy
       (conv=>whnf);(repeat'((first|apply bT|apply bF|apply bN|((first|apply bD|apply bEq|apply bNe)<;>intro hh<;>try(exfalso;omega))|refine iaJ g1 ?_|refine wJ ?_|refine nJ ?_)<;>conv=>whnf))
       exact⟨i+1,mI,by omega,by omega⟩
      ·(conv=>whnf);(repeat'((first|apply bT|apply bF|apply bN|((first|apply bD|apply bEq|apply bNe)<;>intro hh<;>try(exfalso;omega))|refine e9.zq rfl rfl ?_|refine e10.cq rfl rfl ?_|refine e0.cq rfl rfl ?_|refine wJ ?_|refine nJ ?_)<;>conv=>whnf))
       all_goals rfl
  ·(conv=>whnf);(repeat'((first|apply bT|apply bF|apply bN|((first|apply bD|apply bEq|apply bNe)<;>intro hh<;>try(exfalso;omega))|refine e1.cq rfl rfl ?_|refine e2.cq rfl rfl ?_|refine e0.cq rfl rfl ?_|refine wJ ?_|refine nJ ?_)<;>conv=>whnf))
   all_goals rfl
theorem p86(n a b:Int):FnA Try.prog 86 [.int .i64 n, .int .i64 a, .int .i64 b] (· = .bool (decide (a<=n/\n<=b))):=by
 refine fnA 0 ok86 (by simp) ?_
 (conv=>whnf);(repeat'((first|apply bT|apply bF|apply bN|((first|apply bD|apply bEq|apply bNe)<;>intro hh<;>try(exfalso;omega))|refine wJ ?_|refine nJ ?_)<;>conv=>whnf))
 all_goals first|rfl|exact congrArg AV.bool (decide_eq_decide.2 (by omega))|exact congrArg AV.bool (decide_eq_true (by omega)).symm|exact congrArg AV.bool (decide_eq_false (by omega)).symm
theorem p97(l:List Int)(x:Int)(hl:l.length<=1000000):FnA Try.prog 97 [.isl (l.map jAV), .int .i64 x] (fun r=>∃i:Int,r = .int .i64 i/\decide (0<=i)=decide (x∈l)):=by
 have hL:(l.map jAV).length=l.length:=by simp
 refine fnA 0 ok97 (by simp) ?_
 (conv=>whnf);(repeat'((first|apply bT|apply bF|apply bN|((first|apply bD|apply bEq|apply bNe)<;>intro hh<;>try(exfalso;omega))|refine wJ ?_|refine nJ ?_)<;>conv=>whnf))
 refine loop_i (α :=Nat) (fun k=>[(8, .int .i64 k),(1, .int .i64 x),(0, .isl (l.map jAV)),(7, .int .i64 l.length)]) (fun k=>[]) (fun k=>k<=l.length/\∀b∈l.take k,decide (b=x)=false) (fun k=>l.length-k) 0 (by rw[<- hL];exact mI) ⟨by omega,by simp⟩ ?_
 rintro k ⟨h1,h2⟩
 conv=>whnf
 refine bD (fun h3=>?_) (fun h3=>?_)
 ·have hk:k<l.length:=by omega
  by_cases hx:l[k]=x
  ·(conv=>whnf);(repeat'((first|apply bT|apply bF|apply bN|((first|apply bD|apply bEq|apply bNe)<;>intro hh<;>try(exfalso;omega))|refine iaJ (getM jAV l k hk) ?_|refine wJ ?_|refine nJ ?_)<;>conv=>whnf))
   all_goals exact⟨(k:Int),rfl,by rw[decide_eq_true (show(0:Int)<=(k:Int) by omega),decide_eq_true (by rw[<- hx];exact List.getElem_mem hk)]⟩
  ·(conv=>whnf);(repeat'((first|apply bT|apply bF|apply bN|((first|apply bD|apply bEq|apply bNe)<;>intro hh<;>try(exfalso;omega))|refine iaJ (getM jAV l k hk) ?_|refine wJ ?_|refine nJ ?_)<;>conv=>whnf))
   exact⟨k+1,mI,⟨by omega,take_none hk h2 (decide_eq_false hx)⟩,by omega⟩
 ·have:k=l.length:=by omega
  subst this
  rw[List.take_length]at h2
  (conv=>whnf);(repeat'((first|apply bT|apply bF|apply bN|((first|apply bD|apply bEq|apply bNe)<;>intro hh<;>try(exfalso;omega))|refine wJ ?_|refine nJ ?_)<;>conv=>whnf))
  all_goals exact⟨-1,rfl,by rw[decide_eq_false (show ¬(0:Int) <= -1 by omega),decide_eq_false (fun h=>by have:=h2 x h;simp at this)]⟩
theorem p82(l:List Int)(x:Int)(hl:l.length<=1000000):FnA Try.prog 82 [.isl (l.map jAV), .int .i64 x] (· = .bool (decide (x∈l))):=by
 have e1:=p97 l x hl
 refine fnA 0 ok82 (by simp) ?_
 conv=>whnf
 refine e1.callq rfl rfl (fun r hr=>?_)
 obtain⟨i,rfl,hi⟩:=hr
 rw[<- hi]
 (conv=>whnf);(repeat'((first|apply bT|apply bF|apply bN|((first|apply bD|apply bEq|apply bNe)<;>intro hh<;>try(exfalso;omega))|refine wJ ?_|refine nJ ?_)<;>conv=>whnf))
 all_goals first|rfl|exact congrArg AV.bool (decide_eq_decide.2 (by omega))|exact congrArg AV.bool (decide_eq_true (by omega)).symm|exact congrArg AV.bool (decide_eq_false (by omega)).symm
theorem p57(s:Stand)(n:Int)(hs:0<=s.gs/\s.gs<=100):FnA Try.prog 57 [.agg s.cells, .int .i64 n] (· = .bool (isG s n)):=by
 have e1:=p86 n 0 (s.gs-1)
 rw[show decide (0<=n/\n<=s.gs-1)=isG s n from decide_eq_decide.2 (by omega)]at e1
 refine fnA 1 ok57 (by simp) ?_
 (conv=>whnf);(repeat'((first|apply bT|apply bF|apply bN|((first|apply bD|apply bEq|apply bNe)<;>intro hh<;>try(exfalso;omega))|refine e1.cq rfl rfl ?_|refine wJ ?_|refine nJ ?_)<;>conv=>whnf))
 all_goals rfl
theorem p68(s:Stand):FnA Try.prog 68 [.agg s.cells] (· = .bool (decide (0<=s.gs/\s.gs<=7/\0<=s.wr/\s.wr<=7))):=by
 have e1:=p86 s.gs 0 7
 have e2:=p86 s.wr 0 7
 refine fnA 1 ok68 (by simp) ?_
 by_cases h1:0<=s.gs/\s.gs<=7
 ·rw[decide_eq_true h1]at e1
  (conv=>whnf);(repeat'((first|apply bT|apply bF|apply bN|((first|apply bD|apply bEq|apply bNe)<;>intro hh<;>try(exfalso;omega))|refine e1.cq rfl rfl ?_|refine e2.cq rfl rfl ?_|refine wJ ?_|refine nJ ?_)<;>conv=>whnf))
  all_goals first|rfl|exact congrArg AV.bool (decide_eq_decide.2 (by omega))|exact congrArg AV.bool (decide_eq_true (by omega)).symm|exact congrArg AV.bool (decide_eq_false (by omega)).symm
 ·rw[decide_eq_false h1]at e1
  (conv=>whnf);(repeat'((first|apply bT|apply bF|apply bN|((first|apply bD|apply bEq|apply bNe)<;>intro hh<;>try(exfalso;omega))|refine e1.cq rfl rfl ?_|refine e2.cq rfl rfl ?_|refine wJ ?_|refine nJ ?_)<;>conv=>whnf))
  all_goals exact congrArg AV.bool (decide_eq_false fun h=>h1 ⟨h.1,h.2.1⟩).symm
def riB(gs:Int)(l:List Int)(k:Nat):Int:=if k=0 then -1 else l.getD (k-1) 0
theorem p102(s:Stand)(l:List Int)(hs:0<=s.gs/\s.gs<=100)(hl:l.length<=1000000):FnA Try.prog 102 [.agg s.cells, .isl (l.map jAV)] (· = .bool (decide (riseP s l l.length))):=by
 have hL:(l.map jAV).length=l.length:=by simp
 refine fnA 1 ok102 (by simp) ?_
 (conv=>whnf);(repeat'((first|apply bT|apply bF|apply bN|((first|apply bD|apply bEq|apply bNe)<;>intro hh<;>try(exfalso;omega))|refine wJ ?_|refine nJ ?_)<;>conv=>whnf))
 refine loop_i (α :=Nat) (fun k=>[(10, .int .i64 k),(5, .int .i64 (riB s.gs l k)),(8, .isl (l.map jAV)),(2, .own 0 0),(9, .int .i64 (l.map jAV).length)]) (fun k=>[.box false s.cells]) (fun k=>k<=l.length/\riseP s l k) (fun k=>l.length-k) 0 mI ⟨by omega,fun i hi=>by omega⟩ ?_
 rintro k ⟨h5,h6⟩
 conv=>whnf
 refine bD (fun h7=>?_) (fun h7=>?_)
 ·have hk:k<l.length:=by omega
  have g1:=getJ l k hk
  have hb : -1<=riB s.gs l k/\riB s.gs l k<100:=by
   unfold riB;split
   ·omega
   ·have:=(h6 (k-1) (by omega)).1;omega
  have hn:riB s.gs l (k+1)=l.getD k 0:=by simp[riB]
  have e3:=p86 (l.getD k 0) (riB s.gs l k+1) (s.gs-1)
  by_cases h8:riB s.gs l k+1<=l.getD k 0/\l.getD k 0<=s.gs-1
  ·rw[decide_eq_true h8]at e3
   (conv=>whnf);(repeat'((first|apply bT|apply bF|apply bN|((first|apply bD|apply bEq|apply bNe)<;>intro hh<;>try(exfalso;omega))|refine iaJ g1 ?_|refine e3.cq rfl rfl ?_|refine wJ ?_|refine nJ ?_)<;>conv=>whnf))
   refine⟨k+1,by rw[hn];exact mI,⟨by omega,fun i hi=>?_⟩,by omega⟩
   by_cases h12:i=k
   ·subst h12
    refine⟨by omega,fun h=>?_⟩
    have:riB s.gs l i=l.getD (i-1) 0:=by rw[riB,if_neg (by omega)]
    omega
   ·exact h6 i (by omega)
  ·rw[decide_eq_false h8]at e3
   rw[decide_eq_false fun h:riseP s l l.length=>h8 (by
    have:=h k hk
    unfold riB;split
    ·omega
    ·have:=this.2 (by omega);omega)]
   (conv=>whnf);(repeat'((first|apply bT|apply bF|apply bN|((first|apply bD|apply bEq|apply bNe)<;>intro hh<;>try(exfalso;omega))|refine iaJ g1 ?_|refine e3.cq rfl rfl ?_|refine wJ ?_|refine nJ ?_)<;>conv=>whnf))
   all_goals rfl
 ·have:k=l.length:=by omega
  subst this
  rw[decide_eq_true h6]
  (conv=>whnf);(repeat'((first|apply bT|apply bF|apply bN|((first|apply bD|apply bEq|apply bNe)<;>intro hh<;>try(exfalso;omega))|refine wJ ?_|refine nJ ?_)<;>conv=>whnf))
  all_goals rfl
theorem p95(s:Stand)(w:Word)(hs:0<=s.gs/\s.gs<=100)(hl:w.am.length<=1000000):FnA Try.prog 95 [.agg s.cells, .agg w.av] (· = .bool (isWo s w)):=by
 have hL:(w.am.map jAV).length=w.am.length:=by simp
 have e1:=p57 s w.g hs
 have e2:=p57 s w.o hs
 have e3:=p102 s w.am hs hl
 unfold isWo
 refine fnA 2 ok95 (by simp) ?_
 cases h1:isG s w.g<;>rw[h1]at e1
 ·(conv=>whnf);(repeat'((first|apply bT|apply bF|apply bN|((first|apply bD|apply bEq|apply bNe)<;>intro hh<;>try(exfalso;omega))|refine e1.cq rfl rfl ?_|refine wJ ?_|refine nJ ?_)<;>conv=>whnf))
  all_goals rfl
 ·cases h2:isG s w.o<;>rw[h2]at e2
  ·(conv=>whnf);(repeat'((first|apply bT|apply bF|apply bN|((first|apply bD|apply bEq|apply bNe)<;>intro hh<;>try(exfalso;omega))|refine e1.cq rfl rfl ?_|refine e2.cq rfl rfl ?_|refine wJ ?_|refine nJ ?_)<;>conv=>whnf))
   all_goals rfl
  ·by_cases h3:w.k=3\/w.k=4
   ·rw[if_pos h3]
    simp only[Bool.true_and]
    (conv=>whnf);(repeat'((first|apply bT|apply bF|apply bN|((first|apply bD|apply bEq|apply bNe)<;>intro hh<;>try(exfalso;omega))|refine e1.cq rfl rfl ?_|refine e2.cq rfl rfl ?_|refine wJ ?_|refine nJ ?_)<;>conv=>whnf))
    all_goals first
     |exact congrArg AV.bool (decide_eq_false fun h=>by omega).symm
     |exact congrArg AV.bool (decide_eq_decide.2 (by omega))
     |exact congrArg AV.bool (by rw[Bool.eq_iff_iff,beq_iff_eq,decide_eq_true_eq];omega)
   ·rw[if_neg h3]
    by_cases h4:(w.k=1\/w.k=2)/\w.am.length≠0/\w.o=0
    ·rw[decide_eq_true h4]
     simp only[Bool.true_and]
     (conv=>whnf);(repeat'((first|apply bT|apply bF|apply bN|((first|apply bD|apply bEq|apply bNe)<;>intro hh<;>try(exfalso;omega))|refine e1.cq rfl rfl ?_|refine e2.cq rfl rfl ?_|refine e3.cq rfl rfl ?_|refine wJ ?_|refine nJ ?_)<;>conv=>whnf))
     all_goals rfl
    ·rw[decide_eq_false h4]
     simp only[Bool.true_and,Bool.false_and]
     (conv=>whnf);(repeat'((first|apply bT|apply bF|apply bN|((first|apply bD|apply bEq|apply bNe)<;>intro hh<;>try(exfalso;omega))|refine e1.cq rfl rfl ?_|refine e2.cq rfl rfl ?_|refine e3.cq rfl rfl ?_|refine wJ ?_|refine nJ ?_)<;>conv=>whnf))
     all_goals first
      |rfl
      |exact congrArg AV.bool (decide_eq_false (by omega))
theorem all_no{α : Type}{l:List α}{p : α -> Bool}{k:Nat}(hk:k<l.length)(hx:p l[k]=false):l.all p=false:=by
 rw[List.all_eq_false];exact⟨_,List.getElem_mem hk,by simp[hx]⟩
theorem all_ok{α : Type}{l:List α}{p : α -> Bool}(h:∀x∈l,p x=true):l.all p=true:=List.all_eq_true.2 h
theorem p94(s:Stand)(w:Word)(hs:0<=s.gs/\s.gs<=100)(hl:w.am.length<=1000000):FnA Try.prog 94 [.agg w.av, .ipt s.cells] (· = .bool (isWo s w)):=by
 have e1:=p95 s w hs hl
 refine fnA 1 ok94 (by simp) ?_
 (conv=>whnf);(repeat'((first|apply bT|apply bF|apply bN|((first|apply bD|apply bEq|apply bNe)<;>intro hh<;>try(exfalso;omega))|refine e1.cq rfl rfl ?_|refine wJ ?_|refine nJ ?_)<;>conv=>whnf))
 all_goals rfl
theorem p93(s:Stand)(hs:0<=s.gs/\s.gs<=100)(hl:s.ws.length<=1000000)(hw:∀w∈s.ws,w.am.length<=1000000):FnA Try.prog 93 [.isl (s.ws.map Word.av), .fn 94 [.ipt s.cells]] (· = .bool (s.ws.all (isWo s))):=by
 have hL:(s.ws.map Word.av).length=s.ws.length:=by simp
 refine fnA 1 ok93 (by simp) ?_
 (conv=>whnf);(repeat'((first|apply bT|apply bF|apply bN|((first|apply bD|apply bEq|apply bNe)<;>intro hh<;>try(exfalso;omega))|refine wJ ?_|refine nJ ?_)<;>conv=>whnf))
 refine loop_i (α :=Nat) (fun k=>[(9, .int .i64 k),(8, .int .i64 ↑(s.ws.map Word.av).length),(7, .isl (s.ws.map Word.av)),(1, .fn 94 [.ipt s.cells])]) (fun k=>[.fresh]) (fun k=>k<=s.ws.length/\∀b∈s.ws.take k,isWo s b=true) (fun k=>s.ws.length-k) 0 mI ⟨by omega,by simp⟩ ?_
 rintro k ⟨h1,h2⟩
 conv=>whnf
 refine bD (fun h3=>?_) (fun h3=>?_)
 ·have hk:k<s.ws.length:=by omega
  have hv:FnV Try.prog (.fn 94 [.ipt s.cells]) [.agg s.ws[k].av] (· = .bool (isWo s s.ws[k])):=fnV_of bd94 (p94 s s.ws[k] hs (hw _ (List.getElem_mem hk)))
  cases hx:isWo s s.ws[k]with
  |true=>
   rw[hx]at hv
   (conv=>whnf);(repeat'((first|apply bT|apply bF|apply bN|((first|apply bD|apply bEq|apply bNe)<;>intro hh<;>try(exfalso;omega))|refine iaJ (getM Word.av s.ws k hk) ?_|(refine hv.vcallq rfl rfl rfl rfl (fun r (hr:r=_)=>?_);subst hr)|refine wJ ?_|refine nJ ?_)<;>conv=>whnf))
   exact⟨k+1,mI,⟨by omega,take_all hk h2 hx⟩,by omega⟩
  |false=>
   rw[hx]at hv
   rw[all_no hk hx]
   (conv=>whnf);(repeat'((first|apply bT|apply bF|apply bN|((first|apply bD|apply bEq|apply bNe)<;>intro hh<;>try(exfalso;omega))|refine iaJ (getM Word.av s.ws k hk) ?_|(refine hv.vcallq rfl rfl rfl rfl (fun r (hr:r=_)=>?_);subst hr)|refine wJ ?_|refine nJ ?_)<;>conv=>whnf))
   all_goals rfl
 ·have:k=s.ws.length:=by omega
  subst this
  rw[List.take_length]at h2
  rw[all_ok h2]
  (conv=>whnf);(repeat'((first|apply bT|apply bF|apply bN|((first|apply bD|apply bEq|apply bNe)<;>intro hh<;>try(exfalso;omega))|refine wJ ?_|refine nJ ?_)<;>conv=>whnf))
  all_goals rfl
theorem p69(s:Stand)(hs:0<=s.gs/\s.gs<=100)(hl:s.ws.length<=1000000)(hw:∀w∈s.ws,w.am.length<=1000000):FnA Try.prog 69 [.agg s.cells] (· = .bool (decide (s.ws.length<=20)&&s.ws.all (isWo s))):=by
 have hL:(s.ws.map Word.av).length=s.ws.length:=by simp
 have e1:=p93 s hs hl hw
 refine fnA 1 ok69 (by simp) ?_
 by_cases h1:s.ws.length<=20
 ·rw[decide_eq_true h1,Bool.true_and]
  (conv=>whnf);(repeat'((first|apply bT|apply bF|apply bN|((first|apply bD|apply bEq|apply bNe)<;>intro hh<;>try(exfalso;omega))|refine e1.lq rfl rfl ?_|refine wJ ?_|refine nJ ?_)<;>conv=>whnf))
  all_goals rfl
 ·rw[decide_eq_false h1,Bool.false_and]
  (conv=>whnf);(repeat'((first|apply bT|apply bF|apply bN|((first|apply bD|apply bEq|apply bNe)<;>intro hh<;>try(exfalso;omega))|refine e1.lq rfl rfl ?_|refine wJ ?_|refine nJ ?_)<;>conv=>whnf))
  all_goals rfl
theorem chk_val(s:Stand):s.chk=if (0<=s.gs/\s.gs<=7/\0<=s.wr/\s.wr<=7) then(if (decide (s.ws.length<=20)&&s.ws.all (isWo s))=true then 0 else 101) else 100:=by
 unfold Stand.chk
 by_cases h:0<=s.gs/\s.gs<=7/\0<=s.wr/\s.wr<=7
 ·rw[if_neg (by omega),if_pos h]
  by_cases h2:s.ws.length<=20
  ·rw[if_neg (by omega),decide_eq_true h2,Bool.true_and]
  ·rw[if_pos (by omega),decide_eq_false h2,Bool.false_and,if_neg (by simp)]
 ·rw[if_pos (by omega),if_neg h]
theorem p38(s:Stand)(hl:s.ws.length<=1000000)(hw:∀w∈s.ws,w.am.length<=1000000):FnA Try.prog 38 [.agg s.cells] (· = .int .i64 s.chk):=by
 have e1:=p68 s
 rw[chk_val]
 refine fnA 1 ok38 (by simp) ?_
 by_cases h1:0<=s.gs/\s.gs<=7/\0<=s.wr/\s.wr<=7
 ·rw[decide_eq_true h1]at e1
  rw[if_pos h1]
  have e2:=p69 s (by omega) hl hw
  cases h2:(decide (s.ws.length<=20)&&s.ws.all (isWo s))<;>rw[h2]at e2
  ·(conv=>whnf);(repeat'((first|apply bT|apply bF|apply bN|((first|apply bD|apply bEq|apply bNe)<;>intro hh<;>try(exfalso;omega))|refine e1.cq rfl rfl ?_|refine e2.cq rfl rfl ?_|refine wJ ?_|refine nJ ?_)<;>conv=>whnf))
   all_goals rfl
  ·(conv=>whnf);(repeat'((first|apply bT|apply bF|apply bN|((first|apply bD|apply bEq|apply bNe)<;>intro hh<;>try(exfalso;omega))|refine e1.cq rfl rfl ?_|refine e2.cq rfl rfl ?_|refine wJ ?_|refine nJ ?_)<;>conv=>whnf))
   all_goals rfl
 ·rw[decide_eq_false h1]at e1
  rw[if_neg h1]
  (conv=>whnf);(repeat'((first|apply bT|apply bF|apply bN|((first|apply bD|apply bEq|apply bNe)<;>intro hh<;>try(exfalso;omega))|refine e1.cq rfl rfl ?_|refine wJ ?_|refine nJ ?_)<;>conv=>whnf))
  all_goals rfl
def soN(w:Word):FuncId:=if w.k=1 then 81 else if w.k=2 then 83 else if w.k=3 then 84 else 85
def soAV(w:Word):AV:=.fn (soN w) [.ipt w.av]
def sAV(w:Word):List AV:=[soAV w]
theorem p56(w:Word):FnA Try.prog 56 [.agg w.av] (· = soAV w):=by
 refine fnA 1 ok56 (by simp) ?_
 by_cases h1:w.k=1
 ·have:soN w=81:=by simp[soN,h1]
  unfold soAV;rw[this]
  (conv=>whnf);(repeat'((first|apply bT|apply bF|apply bN|((first|apply bD|apply bEq|apply bNe)<;>intro hh<;>try(exfalso;omega))|refine wJ ?_|refine nJ ?_)<;>conv=>whnf))
  all_goals rfl
 ·by_cases h2:w.k=2
  ·have:soN w=83:=by simp[soN,h2]
   unfold soAV;rw[this]
   (conv=>whnf);(repeat'((first|apply bT|apply bF|apply bN|((first|apply bD|apply bEq|apply bNe)<;>intro hh<;>try(exfalso;omega))|refine wJ ?_|refine nJ ?_)<;>conv=>whnf))
   all_goals rfl
  ·by_cases h3:w.k=3
   ·have:soN w=84:=by simp[soN,h3]
    unfold soAV;rw[this]
    (conv=>whnf);(repeat'((first|apply bT|apply bF|apply bN|((first|apply bD|apply bEq|apply bNe)<;>intro hh<;>try(exfalso;omega))|refine wJ ?_|refine nJ ?_)<;>conv=>whnf))
    all_goals rfl
   ·have:soN w=85:=by simp[soN,h1,h2,h3]
    unfold soAV;rw[this]
    (conv=>whnf);(repeat'((first|apply bT|apply bF|apply bN|((first|apply bD|apply bEq|apply bNe)<;>intro hh<;>try(exfalso;omega))|refine wJ ?_|refine nJ ?_)<;>conv=>whnf))
    all_goals rfl
def spk(w:Word)(t:List Int):Prop:=w.am.length<=1000000/\t.length<=1000000/\(0<=w.g/\w.g<t.length)/\(0<=w.o/\w.o<t.length)
theorem so_V(w:Word)(t:List Int)(h:spk w t):FnV Try.prog (soAV w) [.isl (t.map jAV)] (· = .bool (isSo w t)):=by
 obtain⟨hl,ht,hg,ho⟩:=h
 have hL:(t.map jAV).length=t.length:=by simp
 have g1:=getJ t w.g.toNat (by omega)
 have g2:=getJ t w.o.toNat (by omega)
 have e1:=p82 w.am (t.getD w.g.toNat 0) hl
 unfold isSo
 by_cases h1:w.k=1
 ·have:soAV w = .fn 81 [.ipt w.av]:=by simp[soAV,soN,h1]
  rw[this,if_pos h1]
  refine fnV_of bd81 ?_
  show FnA Try.prog 81 [.isl (t.map jAV), .ipt w.av] _
  refine fnA 0 ok81 (by simp) ?_
  (conv=>whnf);(repeat'((first|apply bT|apply bF|apply bN|((first|apply bD|apply bEq|apply bNe)<;>intro hh<;>try(exfalso;omega))|refine iaJ g1 ?_|refine e1.cq rfl rfl ?_|refine wJ ?_|refine nJ ?_)<;>conv=>whnf))
  all_goals rfl
 ·rw[if_neg h1]
  by_cases h2:w.k=2
  ·have:soAV w = .fn 83 [.ipt w.av]:=by simp[soAV,soN,h2]
   rw[this,if_pos h2]
   refine fnV_of bd83 ?_
   show FnA Try.prog 83 [.isl (t.map jAV), .ipt w.av] _
   refine fnA 0 ok83 (by simp) ?_
   (conv=>whnf);(repeat'((first|apply bT|apply bF|apply bN|((first|apply bD|apply bEq|apply bNe)<;>intro hh<;>try(exfalso;omega))|refine iaJ g1 ?_|refine e1.cq rfl rfl ?_|refine wJ ?_|refine nJ ?_)<;>conv=>whnf))
   all_goals rfl
  ·rw[if_neg h2]
   by_cases h3:w.k=3
   ·have:soAV w = .fn 84 [.ipt w.av]:=by simp[soAV,soN,h3]
    rw[this,if_pos h3]
    refine fnV_of bd84 ?_
    show FnA Try.prog 84 [.isl (t.map jAV), .ipt w.av] _
    refine fnA 0 ok84 (by simp) ?_
    (conv=>whnf);(repeat'((first|apply bT|apply bF|apply bN|((first|apply bD|apply bEq|apply bNe)<;>intro hh<;>try(exfalso;omega))|refine iaJ g1 ?_|refine iaJ g2 ?_|refine wJ ?_|refine nJ ?_)<;>conv=>whnf))
    all_goals first
     |exact congrArg AV.bool (decide_eq_false (fun h=>by omega)).symm
     |exact congrArg AV.bool (by rw[decide_eq_decide];exact⟨fun h=>⟨by omega,h⟩,fun h=>h.2⟩)
     |exact congrArg AV.bool (by rw[Bool.eq_iff_iff,beq_iff_eq,decide_eq_true_eq];exact⟨fun h=>⟨by omega,h⟩,fun h=>h.2⟩)
   ·have:soAV w = .fn 85 [.ipt w.av]:=by simp[soAV,soN,h1,h2,h3]
    rw[this,if_neg h3]
    refine fnV_of bd85 ?_
    show FnA Try.prog 85 [.isl (t.map jAV), .ipt w.av] _
    refine fnA 0 ok85 (by simp) ?_
    (conv=>whnf);(repeat'((first|apply bT|apply bF|apply bN|((first|apply bD|apply bEq|apply bNe)<;>intro hh<;>try(exfalso;omega))|refine iaJ g1 ?_|refine iaJ g2 ?_|refine wJ ?_|refine nJ ?_)<;>conv=>whnf))
    all_goals first
     |exact congrArg AV.bool (decide_eq_true (Or.inl (by omega))).symm
     |exact congrArg AV.bool (by rw[decide_eq_decide];exact⟨fun h=>Or.inr h,fun h=>h.resolve_left (by omega)⟩)
     |exact congrArg AV.bool (by rw[Bool.eq_iff_iff,beq_iff_eq,decide_eq_true_eq];exact⟨fun h=>Or.inr h,fun h=>h.resolve_left (by omega)⟩)
theorem p79(s:Stand)(t:List Int)(hl:s.ws.length<=1000000)(hs:∀w∈s.ws,spk w t):FnA Try.prog 79 [.isl (s.ws.map sAV), .isl (t.map jAV)] (· = .int .i64 (wrongs s t s.ws.length)):=by
 have hL:(s.ws.map sAV).length=s.ws.length:=by simp
 refine fnA 0 ok79 (by simp) ?_
 (conv=>whnf);(repeat'((first|apply bT|apply bF|apply bN|((first|apply bD|apply bEq|apply bNe)<;>intro hh<;>try(exfalso;omega))|refine wJ ?_|refine nJ ?_)<;>conv=>whnf))
 refine loop_i (α :=Nat) (fun k=>[(10, .int .i64 k),(9, .int .i64 ↑(s.ws.map sAV).length),(8, .isl (s.ws.map sAV)),(5, .int .i64 (wrongs s t k)),(1, .isl (t.map jAV))]) (fun k=>[]) (fun k=>k<=s.ws.length) (fun k=>s.ws.length-k) 0 mI (by omega) ?_
 rintro k h5
 conv=>whnf
 refine bD (fun h7=>?_) (fun h7=>?_)
 ·have hk:k<s.ws.length:=by omega
  have hv:=so_V s.ws[k] t (hs _ (List.getElem_mem hk))
  have hb:=wrongs_bd s t k
  have ek:s.ws.getD k ⟨0,0,0,[]⟩=s.ws[k]:=by simp[List.getD_eq_getElem?_getD,hk]
  cases h8:isSo s.ws[k] t<;>rw[h8]at hv
  ·have ew:wrongs s t (k+1)=wrongs s t k+1:=by rw[wrongs,ek,h8];simp
   (conv=>whnf);(repeat'((first|apply bT|apply bF|apply bN|((first|apply bD|apply bEq|apply bNe)<;>intro hh<;>try(exfalso;omega))|refine iaJ (getM sAV s.ws k hk) ?_|(refine hv.vcallq rfl rfl rfl rfl (fun r (hr:r=_)=>?_);subst hr)|refine wJ ?_|refine nJ ?_)<;>conv=>whnf))
   exact⟨k+1,by rw[ew];exact mI,by omega,by omega⟩
  ·have ew:wrongs s t (k+1)=wrongs s t k:=by rw[wrongs,ek,h8];simp
   (conv=>whnf);(repeat'((first|apply bT|apply bF|apply bN|((first|apply bD|apply bEq|apply bNe)<;>intro hh<;>try(exfalso;omega))|refine iaJ (getM sAV s.ws k hk) ?_|(refine hv.vcallq rfl rfl rfl rfl (fun r (hr:r=_)=>?_);subst hr)|refine wJ ?_|refine nJ ?_)<;>conv=>whnf))
   exact⟨k+1,by rw[ew];exact mI,by omega,by omega⟩
 ·have:k=s.ws.length:=by omega
  subst this
  (conv=>whnf);(repeat'((first|apply bT|apply bF|apply bN|((first|apply bD|apply bEq|apply bNe)<;>intro hh<;>try(exfalso;omega))|refine wJ ?_|refine nJ ?_)<;>conv=>whnf))
  all_goals rfl
def exK(t:List Int):Nat->List (List Int)
 |0=>[]
 |u+1=>exK t u++if (u:Int)∈t then [] else [t++[(u:Int)]]
def tkG(G:Nat):Nat->List (List Int)
 |0=>[[]]
 |k+1=>(tkG G k).flatMap fun t=>exK t G
noncomputable def pt(s:Stand):List (List Int):=(tkG s.gs.toNat s.gs.toNat).filter fun t=>decide (wrongs s t s.ws.length<=s.wr)
theorem exK_len(t:List Int)(u:Nat):(exK t u).length<=u:=by
 induction u with
 |zero=>simp[exK]
 |succ u ih=>simp only[exK,List.length_append];split<;>simp<;>omega
theorem flat_len(l:List (List Int))(G:Nat):(l.flatMap fun t=>exK t G).length<=l.length*G:=by
 induction l with
 |nil=>simp
 |cons t l ih=>
  simp only[List.flatMap_cons,List.length_append,List.length_cons,Nat.add_mul,Nat.one_mul]
  have:=exK_len t G;omega
theorem tkG_len(G k:Nat)(h:G<=7):(tkG G k).length<=7 ^ k:=by
 induction k with
 |zero=>simp[tkG]
 |succ k ih=>
  simp only[tkG,Nat.pow_succ]
  exact Nat.le_trans (flat_len _ _) (Nat.mul_le_mul ih h)
theorem tkG_len7(G k:Nat)(h:G<=7)(hk:k<=7):(tkG G k).length<=1000000:=
 Nat.le_trans (tkG_len G k h) (Nat.le_trans (Nat.pow_le_pow_right (by omega) hk) (by decide))
theorem mem_exK{t y:List Int}{u:Nat}:y∈exK t u<->∃v,v<u/\(v:Int)∉t/\y=t++[(v:Int)]:=by
 induction u with
 |zero=>simp[exK]
 |succ u ih=>
  simp only[exK,List.mem_append,ih]
  constructor
  ·rintro(⟨v,h1,h2,h3⟩|h)
   ·exact⟨v,by omega,h2,h3⟩
   ·split at h
    ·cases h
    ·rename_i hn;exact⟨u,by omega,hn,by simpa using h⟩
  ·rintro⟨v,h1,h2,h3⟩
   by_cases h4:v=u
   ·subst h4;right;rw[if_neg h2];simp[h3]
   ·left;exact⟨v,by omega,h2,h3⟩
theorem nd_exK(t:List Int)(u:Nat):(exK t u).Nodup:=by
 induction u with
 |zero=>simp[exK]
 |succ u ih=>
  simp only[exK]
  refine List.nodup_append.2 ⟨ih,by split<;>simp,fun a ha b hb=>?_⟩
  obtain⟨v,h1,h2,h3⟩:=mem_exK.1 ha
  split at hb
  ·cases hb
  ·simp only[List.mem_singleton]at hb
   subst h3;subst hb
   intro e
   have:=List.append_cancel_left e
   simp at this;omega
theorem mem_tkG{G k:Nat}{t:List Int}:t∈tkG G k<->t.length=k/\(∀x∈t,0<=x/\x<(G:Int))/\t.Nodup:=by
 induction k generalizing t with
 |zero=>
  simp only[tkG,List.mem_singleton,List.length_eq_zero_iff]
  exact⟨fun h=>by subst h;simp,fun h=>h.1⟩
 |succ k ih=>
  simp only[tkG,List.mem_flatMap]
  constructor
  ·rintro⟨a,ha,hy⟩
   obtain⟨h1,h2,h3⟩:=ih.1 ha
   obtain⟨v,h4,h5,rfl⟩:=mem_exK.1 hy
   refine⟨by simp[h1],fun x hx=>?_,List.nodup_append.2 ⟨h3,by simp,fun p hp q hq=>?_⟩⟩
   ·rcases List.mem_append.1 hx with hx|hx
    ·exact h2 x hx
    ·simp only[List.mem_singleton]at hx;subst hx;omega
   ·simp only[List.mem_singleton]at hq;subst hq;intro e;subst e;exact h5 hp
  ·rintro⟨h1,h2,h3⟩
   have hne:t≠[]:=by intro e;subst e;simp at h1
   have hd:t=t.dropLast++[t.getLast hne]:=(List.dropLast_concat_getLast hne).symm
   have hl:=h2 _ (List.getLast_mem hne)
   rw[hd]at h3
   have h4:=List.nodup_append.1 h3
   refine⟨t.dropLast,ih.2 ⟨by simp[h1],fun x hx=>h2 x ((List.dropLast_sublist t).subset hx),h4.1⟩,mem_exK.2 ⟨(t.getLast hne).toNat,by omega,fun hm=>?_,?_⟩⟩
   ·rw[Int.toNat_of_nonneg hl.1]at hm
    exact h4.2.2 _ hm _ (List.mem_singleton.2 rfl) rfl
   ·rw[Int.toNat_of_nonneg hl.1];exact hd
theorem nd_tkG(G k:Nat):(tkG G k).Nodup:=by
 induction k with
 |zero=>simp[tkG]
 |succ k ih=>
  simp only[tkG]
  refine List.pairwise_flatMap.2 ⟨fun a _=>nd_exK a G,ih.imp fun {a b} hab x hx y hy e=>?_⟩
  obtain⟨v,_,_,rfl⟩:=mem_exK.1 hx
  obtain⟨w,_,_,rfl⟩:=mem_exK.1 hy
  exact hab (List.append_inj' e rfl).1
theorem nodup_tkP{t:List Int}:tkP t t.length<->(∀x∈t,0<=x/\x<(t.length:Int))/\t.Nodup:=by
 have hg:∀i (h:i<t.length),t.getD i 0=t[i]:=fun i h=>by simp[List.getD_eq_getElem?_getD,h]
 constructor
 ·intro h
  refine⟨fun x hx=>?_,List.pairwise_iff_getElem.2 fun i j hi hj hij e=>?_⟩
  ·obtain⟨i,hi,rfl⟩:=List.getElem_of_mem hx
   have:=(h i hi).1;rw[hg i hi]at this;exact this
  ·refine(h j hj).2 ?_
   rw[hg j hj,<- e]
   exact List.mem_iff_getElem.2 ⟨i,by simp;omega,by simp⟩
 ·rintro⟨h1,h2⟩ i hi
  refine⟨by rw[hg i hi];exact h1 _ (List.getElem_mem hi),fun hm=>?_⟩
  rw[hg i hi]at hm
  obtain⟨j,hj,e⟩:=List.mem_iff_getElem.1 hm
  simp only[List.length_take]at hj
  simp only[List.getElem_take]at e
  exact List.pairwise_iff_getElem.1 h2 j i (by omega) hi (by omega) e
theorem mem_pt{s:Stand}(h0:0<=s.gs)(h7:s.gs<=7){t:List Int}:t∈pt s<->isTr s t=true:=by
 rw[pt,List.mem_filter,mem_tkG,isTr_iff,decide_eq_true_eq]
 constructor
 ·rintro⟨⟨h1,h2,h3⟩,h4⟩
  have hl:(t.length:Int)=s.gs:=by omega
  refine⟨hl,tk_of (nodup_tkP.2 ⟨fun x hx=>by have:=h2 x hx;omega,h3⟩),by omega,h4⟩
 ·rintro⟨h1,h2,h3,h4⟩
  obtain⟨h5,h6⟩:=nodup_tkP.1 (tk_to h2)
  exact⟨⟨by omega,fun x hx=>by have:=h5 x hx;omega,h6⟩,h4⟩
theorem nd_pt(s:Stand):(pt s).Nodup:=(nd_tkG _ _).filter _
theorem pt_perm{s:Stand}(h0:0<=s.gs)(h7:s.gs<=7):(pt s).Perm (truths s):=by
 refine(List.perm_ext_iff_of_nodup (nd_pt s) (nd_truths h0)).2 fun t=>?_
 rw[mem_pt h0 h7,mem_truths h0]
theorem pt_len{s:Stand}(h0:0<=s.gs)(h7:s.gs<=7):(pt s).length=(truths s).length:=(pt_perm h0 h7).length_eq
theorem pt_small{s:Stand}(h7:s.gs<=7):(pt s).length<=1000000:=
 Nat.le_trans (List.length_filter_le _ _) (tkG_len7 _ _ (by omega) (by omega))
theorem pt_ok{s:Stand}(h0:0<=s.gs)(h7:s.gs<=7):∀t∈pt s,t.length=s.gs.toNat/\tk t:=fun t ht=>truths_ok h0 t ((mem_truths h0).2 ((mem_pt h0 h7).1 ht))
theorem tkG_lenG{G k:Nat}{t:List Int}(h:t∈tkG G k):t.length=k:=(mem_tkG.1 h).1
theorem take_id{l:List (List AV)}{n:Nat}(h:l.length=n):(l.take ((n:Int)).toNat).drop (0:Int).toNat=l:=by
 subst h;simp
theorem p91(t:List Int)(u:Int)(ht:t.length<=1000000):FnA Try.prog 91 [.isl (t.map jAV), .int .i64 u] (· = .isl ((t++[u]).map jAV)):=by
 have hL:(t.map jAV).length=t.length:=by simp
 refine fnA 2 ok91 (by simp) ?_
 (conv=>whnf);(repeat'((first|apply bT|apply bF|apply bN|((first|apply bD|apply bEq|apply bNe)<;>intro hh<;>try(exfalso;omega))|refine slI (by omega) (by omega) (by omega) (fun e he=>(j_one t e he).1) (take_id rfl) ?_|(refine apJ ?_)|refine wJ ?_|refine nJ ?_)<;>conv=>whnf))
 all_goals (rw[List.map_append];rfl)
theorem p78(G:Nat)(hG:G<=7):FnA Try.prog 78 [.int .i64 (G:Int)] (· = .isl ((tkG G G).map fAV)):=by
 refine fnA 4 ok78 (by simp) ?_
 (conv=>whnf);(repeat'((first|apply bT|apply bF|apply bN|((first|apply bD|apply bEq|apply bNe)<;>intro hh<;>try(exfalso;omega))|refine wJ ?_|refine nJ ?_)<;>conv=>whnf))
 refine loop_i (α :=Nat) (fun k=>[(10, .int .i64 k),(9, .int .i64 G),(3, .row 4),(0, .int .i64 G)]) (fun k=>[.fresh, .fresh, .fresh, .fresh, .row false 25 1 ((tkG G k).map fAV)]) (fun k=>k<=G) (fun k=>G-k) 0 (mA [(4,some 0)]) (by omega) ?_
 rintro k h1
 conv=>whnf
 refine bD (fun h3=>?_) (fun h3=>?_)
 ·have hk:k<G:=by omega
  have hN:=tkG_len7 G k hG (by omega)
  have hT:∀t∈tkG G k,t.length<=7:=fun t ht=>by have:=tkG_lenG ht;omega
  have hT1:tkG G (k+1)=(tkG G k).flatMap fun t=>exK t G:=rfl
  generalize tkG G k=L at hN hT hT1
  have hL:(L.map fAV).length=L.length:=by simp
  (conv=>whnf);(repeat'((first|apply bT|apply bF|apply bN|((first|apply bD|apply bEq|apply bNe)<;>intro hh<;>try(exfalso;omega))|refine wJ ?_|refine nJ ?_)<;>conv=>whnf))
  refine loop_i (α :=Nat) (fun j=>[(14, .int .i64 j),(13, .int .i64 ↑(L.map fAV).length),(12, .row 4),(10, .int .i64 k),(9, .int .i64 G),(4, .row 5),(0, .int .i64 G)]) (fun j=>[.fresh, .fresh, .fresh, .fresh, .row false 25 1 (L.map fAV), .row false 25 1 (((L.take j).flatMap fun t=>exK t G).map fAV)]) (fun j=>j<=L.length) (fun j=>L.length-j) 0 (mA [(5,none)]) (by omega) ?_
  rintro j h4
  conv=>whnf
  refine bD (fun h5=>?_) (fun h5=>?_)
  ·have hj:j<L.length:=by omega
   have g1:=getM fAV L j hj
   have ht:=hT _ (List.getElem_mem hj)
   have hA:((L.take j).flatMap fun t=>exK t G).length<=7000000:=by
    have a:=flat_len (L.take j) G
    have b:(L.take j).length*G<=1000000*7:=Nat.mul_le_mul (by simp only[List.length_take];omega) hG
    omega
   have hA1:((L.take (j+1)).flatMap fun t=>exK t G)=((L.take j).flatMap fun t=>exK t G)++exK L[j] G:=by
    rw[List.take_succ_eq_append_getElem hj,List.flatMap_append,List.flatMap_singleton]
   generalize ((L.take j).flatMap fun t=>exK t G)=A at hA hA1
   generalize L[j]=t at g1 ht hA1
   (conv=>whnf);(repeat'((first|apply bT|apply bF|apply bN|((first|apply bD|apply bEq|apply bNe)<;>intro hh<;>try(exfalso;omega))|refine iaJ g1 ?_|refine wJ ?_|refine nJ ?_)<;>conv=>whnf))
   refine loop_i (α :=Nat) (fun u=>[(19, .int .i64 u),(18, .int .i64 G),(14, .int .i64 j),(13, .int .i64 ↑(L.map fAV).length),(12, .row 4),(10, .int .i64 k),(9, .int .i64 G),(6, .isl (t.map jAV)),(4, .row 5),(0, .int .i64 G)]) (fun u=>[.fresh, .fresh, .fresh, .fresh, .row false 25 1 (L.map fAV), .row false 25 1 ((A++exK t u).map fAV)]) (fun u=>u<=G) (fun u=>G-u) 0 (by simp only[exK,List.append_nil];exact mI) (by omega) ?_
   rintro u h6
   conv=>whnf
   refine bD (fun h7=>?_) (fun h7=>?_)
   ·have e1:=p82 t (u:Int) (by omega)
    have e2:=p91 t (u:Int) (by omega)
    have hB:(A++exK t u).length<=7000007:=by
     have:=exK_len t u
     simp only[List.length_append];omega
    have hB1:((A++exK t u).map fAV).length=(A++exK t u).length:=by simp
    by_cases hm:(u:Int)∈t
    ·have e3:exK t (u+1)=exK t u:=by rw[exK,if_pos hm,List.append_nil]
     rw[decide_eq_true hm]at e1
     (conv=>whnf);(repeat'((first|apply bT|apply bF|apply bN|((first|apply bD|apply bEq|apply bNe)<;>intro hh<;>try(exfalso;omega))|refine e1.cq rfl rfl ?_|refine wJ ?_|refine nJ ?_)<;>conv=>whnf))
     exact⟨u+1,by rw[e3];exact mI,by omega,by omega⟩
    ·have e3:A++exK t (u+1)=(A++exK t u)++[t++[(u:Int)]]:=by rw[exK,if_neg hm,List.append_assoc]
     rw[decide_eq_false hm]at e1
     (conv=>whnf);(repeat'((first|apply bT|apply bF|apply bN|((first|apply bD|apply bEq|apply bNe)<;>intro hh<;>try(exfalso;omega))|refine e1.cq rfl rfl ?_|refine e2.zq rfl rfl ?_|(refine apI (by simp[AV.one]) (by simp only[List.length_cons,List.length_nil,hB1];omega) ?_)|refine wJ ?_|refine nJ ?_)<;>conv=>whnf))
     refine⟨u+1,?_,by omega,by omega⟩
     have e4:(A++exK t (u+1)).map fAV=(A++exK t u).map fAV++[[.isl ((t++[(u:Int)]).map jAV)]]:=by rw[e3,List.map_append];rfl
     rw[e4]
     exact(mA [(5,some 3)])
   ·have:u=G:=by omega
    subst this
    (conv=>whnf);(repeat'((first|apply bT|apply bF|apply bN|((first|apply bD|apply bEq|apply bNe)<;>intro hh<;>try(exfalso;omega))|refine wJ ?_|refine nJ ?_)<;>conv=>whnf))
    exact⟨j+1,by rw[hA1];exact mI,by omega,by omega⟩
  ·have:j=L.length:=by omega
   subst this
   rw[List.take_length]at *
   (conv=>whnf);(repeat'((first|apply bT|apply bF|apply bN|((first|apply bD|apply bEq|apply bNe)<;>intro hh<;>try(exfalso;omega))|refine wJ ?_|refine nJ ?_)<;>conv=>whnf))
   exact⟨k+1,by rw[hT1];exact(mA [(4,some 5)]),by omega,by omega⟩
 ·have:k=G:=by omega
  subst this
  (conv=>whnf);(repeat'((first|apply bT|apply bF|apply bN|((first|apply bD|apply bEq|apply bNe)<;>intro hh<;>try(exfalso;omega))|refine wJ ?_|refine nJ ?_)<;>conv=>whnf))
  all_goals rfl
theorem spk_ok{s:Stand}(hs:s.chk=0){t:List Int}(ht:t.length=s.gs.toNat):∀w∈s.ws,spk w t:=fun w hw=>by
 have hc:=chk_ok.1 hs
 have h:=hc.2.2.2 w hw
 have h1:=isWo_of h
 have h2:=am_len h hc.1.2
 exact⟨by omega,by omega,by omega,by omega⟩
theorem p51(s:Stand)(hs:s.chk=0):FnA Try.prog 51 [.agg s.cells] (· = .isl ((pt s).map fAV)):=by
 have hc:=chk_ok.1 hs
 have hW:(s.ws.map Word.av).length=s.ws.length:=by simp
 refine fnA 7 ok51 (by simp) ?_
 (conv=>whnf);(repeat'((first|apply bT|apply bF|apply bN|((first|apply bD|apply bEq|apply bNe)<;>intro hh<;>try(exfalso;omega))|refine wJ ?_|refine nJ ?_)<;>conv=>whnf))
 refine loop_i (α :=Nat) (fun k=>[(12, .int .i64 k),(11, .int .i64 ↑(s.ws.map Word.av).length),(10, .isl (s.ws.map Word.av)),(3, .row 7),(1, .own 0 0)]) (fun k=>[.box false s.cells, .fresh, .fresh, .fresh, .fresh, .fresh, .fresh, .row false 45 1 ((s.ws.take k).map sAV)]) (fun k=>k<=s.ws.length) (fun k=>s.ws.length-k) 0 (mA [(7,none)]) (by omega) ?_
 rintro k h1
 conv=>whnf
 refine bD (fun h3=>?_) (fun h3=>?_)
 ·have hk:k<s.ws.length:=by omega
  have g1:=getM Word.av s.ws k hk
  have e1:=p56 s.ws[k]
  have e2:(s.ws.take (k+1)).map sAV=(s.ws.take k).map sAV++[[soAV s.ws[k]]]:=by rw[List.take_succ_eq_append_getElem hk,List.map_append];rfl
  have hB:((s.ws.take k).map sAV).length<=20:=by simp;omega
  (conv=>whnf);(repeat'((first|apply bT|apply bF|apply bN|((first|apply bD|apply bEq|apply bNe)<;>intro hh<;>try(exfalso;omega))|refine iaJ g1 ?_|refine e1.zq rfl rfl ?_|(refine apJ ?_)|refine wJ ?_|refine nJ ?_)<;>conv=>whnf))
  refine⟨k+1,?_,by omega,by omega⟩
  rw[e2]
  exact(mA [(7,some 3)])
 ·have:k=s.ws.length:=by omega
  subst this
  rw[List.take_length]
  have hG:s.gs.toNat<=7:=by omega
  have e1:=p78 s.gs.toNat hG
  rw[Int.toNat_of_nonneg hc.1.1]at e1
  have hT:∀t∈tkG s.gs.toNat s.gs.toNat,t.length=s.gs.toNat:=fun t ht=>tkG_lenG ht
  have hN:=tkG_len7 s.gs.toNat s.gs.toNat hG hG
  have hP:pt s=(tkG s.gs.toNat s.gs.toNat).filter fun t=>decide (wrongs s t s.ws.length<=s.wr):=rfl
  generalize tkG s.gs.toNat s.gs.toNat=L at hT hN hP e1
  have hL:(L.map fAV).length=L.length:=by simp
  (conv=>whnf);(repeat'((first|apply bT|apply bF|apply bN|((first|apply bD|apply bEq|apply bNe)<;>intro hh<;>try(exfalso;omega))|refine e1.zq rfl rfl ?_|refine wJ ?_|refine nJ ?_)<;>conv=>whnf))
  refine loop_i (α :=Nat) (fun j=>[(26, .int .i64 j),(25, .int .i64 ↑(L.map fAV).length),(24, .isl (L.map fAV)),(6, .row 8),(3, .row 7),(1, .own 0 0)]) (fun j=>[.box false s.cells, .fresh, .fresh, .fresh, .fresh, .fresh, .fresh, .row false 45 1 (s.ws.map sAV), .row false 25 1 (((L.take j).filter fun t=>decide (wrongs s t s.ws.length<=s.wr)).map fAV)]) (fun j=>j<=L.length) (fun j=>L.length-j) 0 (mA [(8,none)]) (by omega) ?_
  rintro j h4
  conv=>whnf
  refine bD (fun h5=>?_) (fun h5=>?_)
  ·have hj:j<L.length:=by omega
   have g1:=getM fAV L j hj
   have ht:=hT _ (List.getElem_mem hj)
   have e3:=p79 s L[j] (by omega) (spk_ok hs ht)
   have hB:(((L.take j).filter fun t=>decide (wrongs s t s.ws.length<=s.wr)).map fAV).length<=1000000:=by
    rw[List.length_map]
    exact Nat.le_trans (List.length_filter_le _ _) (by simp only[List.length_take];omega)
   by_cases hx:wrongs s L[j] s.ws.length<=s.wr
   ·have e4:((L.take (j+1)).filter fun t=>decide (wrongs s t s.ws.length<=s.wr)).map fAV=((L.take j).filter fun t=>decide (wrongs s t s.ws.length<=s.wr)).map fAV++[[.isl (L[j].map jAV)]]:=by
     rw[List.take_succ_eq_append_getElem hj,List.filter_append,List.map_append,List.filter_cons,if_pos (decide_eq_true hx)];rfl
    (conv=>whnf);(repeat'((first|apply bT|apply bF|apply bN|((first|apply bD|apply bEq|apply bNe)<;>intro hh<;>try(exfalso;omega))|refine iaJ g1 ?_|refine e3.lq rfl rfl ?_|(refine apJ ?_)|refine wJ ?_|refine nJ ?_)<;>conv=>whnf))
    refine⟨j+1,?_,by omega,by omega⟩
    rw[e4]
    exact(mA [(8,some 6)])
   ·have e4:((L.take (j+1)).filter fun t=>decide (wrongs s t s.ws.length<=s.wr)).map fAV=((L.take j).filter fun t=>decide (wrongs s t s.ws.length<=s.wr)).map fAV:=by
     rw[List.take_succ_eq_append_getElem hj,List.filter_append,List.filter_cons,if_neg (by simpa using hx)];simp
    (conv=>whnf);(repeat'((first|apply bT|apply bF|apply bN|((first|apply bD|apply bEq|apply bNe)<;>intro hh<;>try(exfalso;omega))|refine iaJ g1 ?_|refine e3.lq rfl rfl ?_|refine wJ ?_|refine nJ ?_)<;>conv=>whnf))
    exact⟨j+1,by rw[e4];exact mI,by omega,by omega⟩
  ·have:j=L.length:=by omega
   subst this
   rw[hP,List.take_length]
   (conv=>whnf);(repeat'((first|apply bT|apply bF|apply bN|((first|apply bD|apply bEq|apply bNe)<;>intro hh<;>try(exfalso;omega))|refine wJ ?_|refine nJ ?_)<;>conv=>whnf))
   all_goals rfl
noncomputable def Stand.oE(s:Stand)(b:Bool):Int:=s.err b s.chk (truths s).length
theorem p52(s:Stand)(b:Bool)(hl:s.ws.length<=1000000)(hw:∀w∈s.ws,w.am.length<=1000000):FnA Try.prog 52 [.agg s.cells, .bool b] (· = .tup [.isl ((if s.oE b=0 then pt s else []).map fAV), .int .i64 (s.oE b)]):=by
 have e1:=p38 s hl hw
 by_cases h1:s.chk=0
 ·rw[h1]at e1
  have hc:=chk_ok.1 h1
  have e2:=p51 s h1
  have hP:=pt_len hc.1.1 hc.1.2
  have hL:((pt s).map fAV).length=(pt s).length:=by simp
  cases b with
  |false=>
   have e:s.oE false=1:=by rw[Stand.oE,Stand.err,h1];simp
   rw[e]
   refine fnA 2 ok52 (by simp) ?_
   (conv=>whnf);(repeat'((first|apply bT|apply bF|apply bN|((first|apply bD|apply bEq|apply bNe)<;>intro hh<;>try(exfalso;omega))|refine e1.cq rfl rfl ?_|refine wJ ?_|refine nJ ?_)<;>conv=>whnf))
   all_goals rfl
  |true=>
   by_cases h2:(truths s).length=0
   ·have e:s.oE true=3:=by rw[Stand.oE,Stand.err,h1,h2];simp
    rw[e]
    refine fnA 2 ok52 (by simp) ?_
    (conv=>whnf);(repeat'((first|apply bT|apply bF|apply bN|((first|apply bD|apply bEq|apply bNe)<;>intro hh<;>try(exfalso;omega))|refine e1.cq rfl rfl ?_|refine e2.zq rfl rfl ?_|refine wJ ?_|refine nJ ?_)<;>conv=>whnf))
    all_goals rfl
   ·have e:s.oE true=0:=by rw[Stand.oE,Stand.err,h1,if_neg (by simp),if_neg (by simp),if_neg (by omega)]
    rw[e,if_pos rfl]
    refine fnA 2 ok52 (by simp) ?_
    (conv=>whnf);(repeat'((first|apply bT|apply bF|apply bN|((first|apply bD|apply bEq|apply bNe)<;>intro hh<;>try(exfalso;omega))|refine e1.cq rfl rfl ?_|refine e2.zq rfl rfl ?_|refine wJ ?_|refine nJ ?_)<;>conv=>whnf))
    all_goals rfl
 ·have e:s.oE b=s.chk:=by rw[Stand.oE,Stand.err,if_pos h1]
  rw[e,if_neg h1]
  refine fnA 2 ok52 (by simp) ?_
  (conv=>whnf);(repeat'((first|apply bT|apply bF|apply bN|((first|apply bD|apply bEq|apply bNe)<;>intro hh<;>try(exfalso;omega))|refine e1.cq rfl rfl ?_|refine wJ ?_|refine nJ ?_)<;>conv=>whnf))
  all_goals rfl
theorem p18(s:Stand)(hl:s.ws.length<=1000000)(hw:∀w∈s.ws,w.am.length<=1000000):FnA Try.prog 18 [.agg s.cells] (· = .tup [.int .i64 (if s.chk=0 then(truths s).length else 0), .int .i64 s.chk]):=by
 have e1:=p38 s hl hw
 by_cases h1:s.chk=0
 ·rw[h1]at e1
  have hc:=chk_ok.1 h1
  have e2:=p51 s h1
  have hP:=pt_len hc.1.1 hc.1.2
  have hL:((pt s).map fAV).length=(pt s).length:=by simp
  rw[h1,if_pos rfl,<- hP,<- hL]
  refine fnA 2 ok18 (by simp) ?_
  (conv=>whnf);(repeat'((first|apply bT|apply bF|apply bN|((first|apply bD|apply bEq|apply bNe)<;>intro hh<;>try(exfalso;omega))|refine e1.cq rfl rfl ?_|refine e2.zq rfl rfl ?_|refine wJ ?_|refine nJ ?_)<;>conv=>whnf))
  all_goals rfl
 ·rw[if_neg h1]
  refine fnA 2 ok18 (by simp) ?_
  (conv=>whnf);(repeat'((first|apply bT|apply bF|apply bN|((first|apply bD|apply bEq|apply bNe)<;>intro hh<;>try(exfalso;omega))|refine e1.cq rfl rfl ?_|refine wJ ?_|refine nJ ?_)<;>conv=>whnf))
  all_goals rfl
abbrev Ents:=List (Int × List (List Int))
def insE:Ents->Int->List Int->Ents
 | [],x,t=>[(x,[t])]
 |e::E,x,t=>if x=e.1 then(e.1,e.2++[t])::E else e::insE E x t
def ansE(g:Nat)(l:List (List Int)):Ents:=l.foldl (fun E t=>insE E (t.getD g 0) t) []
def keyA(e:Int × List (List Int)):AV:=.int .i64 e.1
def valA(e:Int × List (List Int)):AV:=.isl (e.2.map fAV)
def entU:Ents->Nat->List AV
 | [],_=>[]
 |_::E,i=>.row i::entU E (i+1)
def entS:Ents->Nat->List Res
 |_,0=>[]
 | [],n+1=>.fresh::entS [] n
 |e::E,n+1=>.row false 25 1 (e.2.map fAV)::entS E n
theorem ansE_suc{g:Nat}{l:List (List Int)}{j:Nat}(hj:j<l.length):ansE g (l.take (j+1))=insE (ansE g (l.take j)) (l[j].getD g 0) l[j]:=by
 rw[List.take_succ_eq_append_getElem hj,ansE,List.foldl_append];rfl
theorem insE_keys(E:Ents)(x:Int)(t:List Int):(insE E x t).map (·.1)=if x∈E.map (·.1) then E.map (·.1) else E.map (·.1)++[x]:=by
 induction E with
 |nil=>simp[insE]
 |cons e E ih=>
  simp only[insE]
  by_cases h:x=e.1
  ·rw[if_pos h,if_pos (by simp[h])];simp
  ·rw[if_neg h]
   simp only[List.map_cons,ih,List.mem_cons,h,false_or]
   split<;>simp
theorem insE_nd{E:Ents}{x:Int}{t:List Int}(h:(E.map (·.1)).Nodup):((insE E x t).map (·.1)).Nodup:=by
 rw[insE_keys]
 split
 ·exact h
 ·rename_i hn
  exact List.nodup_append.2 ⟨h,by simp,fun a ha b hb e=>by simp only[List.mem_singleton]at hb;subst hb;subst e;exact hn ha⟩
theorem ansE_nd(g:Nat)(l:List (List Int)):((ansE g l).map (·.1)).Nodup:=by
 have:∀(l:List (List Int)) (E:Ents),(E.map (·.1)).Nodup->((l.foldl (fun E t=>insE E (t.getD g 0) t) E).map (·.1)).Nodup:=by
  intro l
  induction l with
  |nil=>intro E h;exact h
  |cons t l ih=>intro E h;exact ih _ (insE_nd h)
 exact this l [] (by simp)
theorem insE_mem{E:Ents}{x:Int}{t:List Int}(hn:(E.map (·.1)).Nodup){k:Int}{ts:List (List Int)}:(k,ts)∈insE E x t<->(k≠x/\(k,ts)∈E)\/(k=x/\((∃us,(x,us)∈E/\ts=us++[t])\/(x∉E.map (·.1)/\ts=[t]))):=by
 induction E with
 |nil=>simp[insE]
 |cons e E ih=>
  simp only[List.map_cons,List.nodup_cons]at hn
  simp only[insE]
  by_cases h:x=e.1
  ·rw[if_pos h]
   subst h
   simp only[List.mem_cons,List.map_cons,true_or,not_true,false_and,or_false]
   constructor
   ·rintro(h1|h1)
    ·cases h1;exact .inr ⟨rfl,e.2, .inl rfl,rfl⟩
    ·exact .inl ⟨fun e'=>hn.1 (by rw[<- e'];exact List.mem_map.2 ⟨_,h1,rfl⟩), .inr h1⟩
   ·rintro(⟨h1,h2⟩|⟨rfl,us,h1|h1,rfl⟩)
    ·rcases h2 with h2|h2
     ·exact absurd (by rw[<- h2]) h1
     ·exact .inr h2
    ·left;rw[<- h1]
    ·exact absurd (List.mem_map.2 ⟨_,h1,rfl⟩) hn.1
  ·rw[if_neg h]
   simp only[List.mem_cons,ih hn.2,List.map_cons,not_or]
   constructor
   ·rintro(h1|⟨h1,h2⟩|⟨h1,⟨us,h2,h3⟩|⟨h2,h3⟩⟩)
    ·exact .inl ⟨fun e'=>h (by rw[<- e',<- h1]), .inl h1⟩
    ·exact .inl ⟨h1, .inr h2⟩
    ·exact .inr ⟨h1, .inl ⟨us, .inr h2,h3⟩⟩
    ·exact .inr ⟨h1, .inr ⟨⟨h,h2⟩,h3⟩⟩
   ·rintro(⟨h1,h2|h2⟩|⟨h1,⟨us,h2|h2,h3⟩|⟨⟨_,h2⟩,h3⟩⟩)
    ·exact .inl h2
    ·exact .inr (.inl ⟨h1,h2⟩)
    ·exact absurd (by rw[<- h2]) h
    ·exact .inr (.inr ⟨h1, .inl ⟨us,h2,h3⟩⟩)
    ·exact .inr (.inr ⟨h1, .inr ⟨h2,h3⟩⟩)
theorem mem_ansE{g:Nat}{l:List (List Int)}{k:Int}{ts:List (List Int)}:(k,ts)∈ansE g l<->ts=whereL l (g:Int) k/\ts≠[]:=by
 have key:∀j,j<=l.length->∀(k:Int) (ts:List (List Int)),(k,ts)∈ansE g (l.take j)<->ts=whereL (l.take j) (g:Int) k/\ts≠[]:=by
  intro j
  induction j with
  |zero=>intro _ k ts;simp[ansE,whereL]
  |succ j ih=>
   intro hj k ts
   have hj':j<l.length:=by omega
   have ih:=ih (by omega)
   have hnd:=ansE_nd g (l.take j)
   rw[ansE_suc hj',insE_mem hnd]
   have hw:∀k,whereL (l.take (j+1)) (g:Int) k=whereL (l.take j) (g:Int) k++if l[j].getD g 0=k then [l[j]] else []:=fun k=>by
    simp only[whereL]
    rw[List.take_succ_eq_append_getElem hj',List.filter_append,List.filter_cons]
    simp only[Int.toNat_natCast,decide_eq_true_eq,List.filter_nil]
   rw[hw]
   constructor
   ·rintro(⟨h1,h2⟩|⟨rfl,⟨us,h2,rfl⟩|⟨h2,rfl⟩⟩)
    ·have:=(ih k ts).1 h2
     rw[if_neg (Ne.symm h1),List.append_nil];exact this
    ·have:=(ih _ us).1 h2
     rw[if_pos rfl,<- this.1];simp
    ·rw[if_pos rfl]
     have:whereL (l.take j) (g:Int) (l[j].getD g 0)=[]:=Classical.byContradiction fun hne=>h2 (List.mem_map.2 ⟨_,(ih _ _).2 ⟨rfl,hne⟩,rfl⟩)
     rw[this];simp
   ·rintro⟨h1,h2⟩
    by_cases hk:k=l[j].getD g 0
    ·subst hk
     rw[if_pos rfl]at h1
     refine .inr ⟨rfl,?_⟩
     by_cases he:whereL (l.take j) (g:Int) (l[j].getD g 0)=[]
     ·right
      refine⟨fun hm=>?_,by rw[h1,he];rfl⟩
      obtain⟨⟨k',us⟩,h3,h4⟩:=List.mem_map.1 hm
      simp only at h4;subst h4
      have:=(ih _ us).1 h3
      rw[he]at this;exact this.2 this.1
     ·left;exact⟨_,(ih _ _).2 ⟨rfl,he⟩,h1⟩
    ·left
     rw[if_neg (Ne.symm hk),List.append_nil]at h1
     exact⟨hk,(ih k ts).2 ⟨h1,h2⟩⟩
 have:=key l.length (by omega) k ts
 rwa [List.take_length]at this
theorem key_ansE{g:Nat}{l:List (List Int)}{k:Int}:k∈(ansE g l).map (·.1)<->∃t∈l,t.getD g 0=k:=by
 constructor
 ·intro h
  obtain⟨⟨k',ts⟩,h1,rfl⟩:=List.mem_map.1 h
  obtain⟨h2,h3⟩:=mem_ansE.1 h1
  obtain⟨t,ht⟩:=List.exists_mem_of_ne_nil _ h3
  rw[h2]at ht
  have:=mem_where.1 ht
  simp only[Int.toNat_natCast]at this
  exact⟨t,this.1,this.2⟩
 ·rintro⟨t,h1,h2⟩
  refine List.mem_map.2 ⟨(k,whereL l (g:Int) k),mem_ansE.2 ⟨rfl,fun e=>?_⟩,rfl⟩
  have:t∈whereL l (g:Int) k:=mem_where.2 ⟨h1,by simpa using h2⟩
  rw[e]at this;cases this
theorem ansE_len7{g:Nat}{l:List (List Int)}(h:∀t∈l,0<=t.getD g 0/\t.getD g 0<7):(ansE g l).length<=7:=by
 have:=nd_sub_len (a:=(ansE g l).map (·.1)) (b:=[0,1,2,3,4,5,6]) (ansE_nd g l) (by decide) fun x hx=>by
  obtain⟨t,h1,rfl⟩:=key_ansE.1 hx
  have:=h t h1
  simp only[List.mem_cons,List.not_mem_nil,or_false];omega
 simpa using this
end Go.Proofs
