/- What each function of this program answers, proved by walking its body: the contracts that the law rests on, part 1. -/
import Derived.Test.YthdggpljbnmffaaGreatCCode
set_option linter.unusedSimpArgs false
set_option linter.unusedVariables false
set_option linter.unusedSectionVars false
namespace Go.Proofs
open Go.Eng
attribute [local irreducible] Go.Eng.brB Go.Eng.need Go.Eng.wrE Go.Eng.iaE Go.Eng.slE Go.Eng.apE Go.Eng.CallZ Go.Eng.CallE Go.Eng.VCallE Go.Eng.YldE Go.Eng.GoC Go.Eng.MeetsE Go.Eng.FnA Go.Eng.FnV Go.Eng.ItM
set_option maxRecDepth 100000
def fsG(fs:List (List Int))(j:Nat):List Int:=fs.getD j []
structure Valid(st:List Int)(fs:List (List Int))(g:List Int):Prop where
 len:g.length=fs.length
 fit:∀j,j<g.length->g.getD j 0 = -1\/g.getD j 0∈fsG fs j
 cnt:∀s:Nat,s<st.length->(g.count (s:Int):Int)<=st.getD s 0
def lackN(g:List Int):Nat:=g.count (-1)
def hasN(g:List Int):Nat:=g.length-g.count (-1)
theorem hasN_add(g:List Int):hasN g+lackN g=g.length:=by
 unfold hasN lackN
 have:=List.count_le_length (a:=(-1:Int)) (l:=g)
 omega
def Spr(st:List Int)(fs:List (List Int)):Prop:=∀f∈fs,∀s∈f,0<=s/\s<st.length
structure IsMost(st:List Int)(fs:List (List Int))(n:Nat):Prop where
 has:∃g,Valid st fs g/\hasN g=n
 max:∀g,Valid st fs g->hasN g<=n
theorem IsMost.uniq{st:List Int}{fs:List (List Int)}{n m:Nat}(h:IsMost st fs n)(k:IsMost st fs m):n=m:=by
 obtain⟨g,h1,h2⟩:=h.has
 obtain⟨g',k1,k2⟩:=k.has
 have:=h.max g' k1
 have:=k.max g h1
 omega
theorem getD_set(l:List Int)(i:Nat)(x:Int)(j:Nat)(hi:i<l.length):(l.set i x).getD j 0=if j=i then x else l.getD j 0:=by
 simp only[List.getD_eq_getElem?_getD,List.getElem?_set]
 by_cases h:i=j
 ·subst h;simp[hi]
 ·rw[if_neg h,if_neg (fun e=>h e.symm)]
theorem count_set'(l:List Int)(i:Nat)(x s:Int)(hi:i<l.length):((l.set i x).count s:Int)+(if l.getD i 0=s then 1 else 0)=l.count s+(if x=s then 1 else 0):=by
 have hg:l.getD i 0=l[i]:=by simp[List.getD_eq_getElem?_getD,hi]
 rw[hg,List.count_set (h:=hi)]
 have:l[i]=s->1<=l.count s:=fun e=>List.count_pos_iff.2 (e ▸ List.getElem_mem hi)
 by_cases h1:l[i]=s<;>by_cases h2:x=s<;>simp[h1,h2]<;>(try (have:=this h1))<;>omega
def bestM:List Int->List (List Int)->Nat
 |_,[]=>0
 |st,f::fs=>(f.filter fun s=>decide (0<st.getD s.toNat 0)).foldl (fun n s=>max n (1+bestM (st.set s.toNat (st.getD s.toNat 0-1)) fs)) (bestM st fs)
theorem foldl_max{α : Type}(F : α -> Nat):∀(l:List α) (n:Nat),n<=l.foldl (fun n s=>max n (F s)) n/\(∀s∈l,F s<=l.foldl (fun n s=>max n (F s)) n)/\(l.foldl (fun n s=>max n (F s)) n=n\/∃s∈l,l.foldl (fun n s=>max n (F s)) n=F s)
 | [],n=>by simp
 |a::l,n=>by
  obtain⟨h1,h2,h3⟩:=foldl_max F l (max n (F a))
  refine⟨by simp only[List.foldl_cons];omega,fun s hs=>?_,?_⟩
  ·simp only[List.foldl_cons]
   rcases List.mem_cons.1 hs with rfl|hs
   ·omega
   ·exact h2 s hs
  ·simp only[List.foldl_cons]
   rcases h3 with h3|⟨s,hs,h3⟩
   ·rw[h3]
    by_cases h:F a<=n
    ·left;omega
    ·right;exact⟨a,by simp,by omega⟩
   ·exact .inr ⟨s,by simp[hs],h3⟩
theorem valid_cons{st:List Int}{f:List Int}{fs:List (List Int)}{x:Int}{g:List Int}(hs:Spr st (f::fs)):Valid st (f::fs) (x::g)<->(x = -1/\Valid st fs g)\/(x∈f/\0<st.getD x.toNat 0/\Valid (st.set x.toNat (st.getD x.toNat 0-1)) fs g):=by
 constructor
 ·rintro⟨h1,h2,h3⟩
  have hf:∀j,j<g.length->g.getD j 0 = -1\/g.getD j 0∈fsG fs j:=fun j hj=>by simpa[fsG]using h2 (j+1) (by simp;omega)
  have hl:g.length=fs.length:=by simpa using h1
  rcases h2 0 (by simp)with h0|h0
  ·have h0:x = -1:=by simpa using h0
   refine .inl ⟨h0,hl,hf,fun s hs=>?_⟩
   have:=h3 s hs
   rw[List.count_cons]at this
   split at this<;>omega
  ·have h0:x∈f:=by simpa[fsG]using h0
   obtain⟨a,b⟩:=hs f (by simp) x h0
   have ht:(x.toNat:Int)=x:=by omega
   have hc:=h3 x.toNat (by omega)
   rw[ht,List.count_cons]at hc
   simp only[beq_self_eq_true,if_true]at hc
   refine .inr ⟨h0,by omega,hl,hf,fun s hs=>?_⟩
   rw[List.length_set]at hs
   rw[getD_set _ _ _ _ (by omega)]
   have:=h3 s hs
   rw[List.count_cons]at this
   split
   ·rename_i e;subst e;rw[ht];omega
   ·split at this<;>omega
 ·rintro(⟨rfl,h1,h2,h3⟩|⟨h0,hp,h1,h2,h3⟩)
  ·refine⟨by simp[h1],fun j hj=>?_,fun s hs=>?_⟩
   ·cases j with
    |zero=>exact .inl (by simp)
    |succ j=>simpa[fsG]using h2 j (by simp at hj;omega)
   ·rw[List.count_cons]
    have:=h3 s hs
    have:¬((-1:Int)==(s:Int))=true:=by simp
    rw[if_neg this];omega
  ·obtain⟨a,b⟩:=hs f (by simp) x h0
   refine⟨by simp[h1],fun j hj=>?_,fun s hs=>?_⟩
   ·cases j with
    |zero=>exact .inr (by simpa[fsG]using h0)
    |succ j=>simpa[fsG]using h2 j (by simp at hj;omega)
   ·rw[List.count_cons]
    have:=h3 s (by rw[List.length_set];exact hs)
    rw[getD_set _ _ _ _ (by omega)]at this
    split at this
    ·rename_i e
     have hst:st.getD s 0=st.getD x.toNat 0:=by rw[e]
     split<;>omega
    ·rename_i e
     have:¬(x==(s:Int))=true:=by simp;omega
     rw[if_neg this];omega
theorem spr_set{st:List Int}{fs:List (List Int)}(h:Spr st fs)(i:Nat)(x:Int):Spr (st.set i x) fs:=fun f hf s hs=>by rw[List.length_set];exact h f hf s hs
theorem hasN_cons(x:Int)(g:List Int):hasN (x::g)=hasN g+if x = -1 then 0 else 1:=by
 unfold hasN
 have:=List.count_le_length (a:=(-1:Int)) (l:=g)
 rw[List.count_cons]
 by_cases h:x = -1
 ·simp[h]
 ·have h':¬(x == -1)=true:=by simpa using h
  rw[if_neg h',if_neg h];simp;omega
def Nn(st:List Int):Prop:=∀s,s<st.length->0<=st.getD s 0
theorem nn_set{st:List Int}(h:Nn st)(i:Nat)(hp:0<st.getD i 0):Nn (st.set i (st.getD i 0-1)):=fun s hs=>by
 rw[List.length_set]at hs
 by_cases hi:i<st.length
 ·rw[getD_set _ _ _ _ hi]
  have:=h s hs
  split<;>omega
 ·rw[List.set_eq_of_length_le (by omega)];exact h s hs
theorem best_most:∀(fs:List (List Int)) (st:List Int),Spr st fs->Nn st->IsMost st fs (bestM st fs)
 | [],st,_,hn=>⟨⟨[],⟨rfl,by simp,fun s hs=>by have:=hn s hs;simpa using this⟩,rfl⟩,fun g h=>by
   have:g=[]:=List.eq_nil_of_length_eq_zero (by simpa using h.len)
   subst this;simp[hasN]⟩
 |f::fs,st,hs,hn=>by
  have hs':Spr st fs:=fun x hx=>hs x (by simp[hx])
  have hm:=foldl_max (fun s:Int=>1+bestM (st.set s.toNat (st.getD s.toNat 0-1)) fs) (f.filter fun s=>decide (0<st.getD s.toNat 0)) (bestM st fs)
  obtain⟨h1,h2,h3⟩:=hm
  refine⟨?_,fun g hg=>?_⟩
  ·unfold bestM
   rcases h3 with h3|⟨s,hsm,h3⟩
   ·rw[h3]
    obtain⟨g,k1,k2⟩:=(best_most fs st hs' hn).has
    exact⟨-1::g,(valid_cons hs).2 (.inl ⟨rfl,k1⟩),by rw[hasN_cons];simp[k2]⟩
   ·rw[h3]
    rw[List.mem_filter]at hsm
    replace hsm:s∈f/\0<st.getD s.toNat 0:=⟨hsm.1,of_decide_eq_true hsm.2⟩
    obtain⟨g,k1,k2⟩:=(best_most fs (st.set s.toNat (st.getD s.toNat 0-1)) (spr_set hs' _ _) (nn_set hn _ hsm.2)).has
    have:=hs f (by simp) s hsm.1
    exact⟨s::g,(valid_cons hs).2 (.inr ⟨hsm.1,hsm.2,k1⟩),by rw[hasN_cons,if_neg (by omega),k2];omega⟩
  ·cases g with
   |nil=>have:=hg.len;simp at this
   |cons x g=>
    unfold bestM
    rw[hasN_cons]
    rcases(valid_cons hs).1 hg with⟨rfl,k⟩|⟨k1,k2,k3⟩
    ·have:=(best_most fs st hs' hn).max g k
     simp only[if_true];omega
    ·have:=(best_most fs (st.set x.toNat (st.getD x.toNat 0-1)) (spr_set hs' _ _) (nn_set hn _ k2)).max g k3
     have h4:=h2 x (List.mem_filter.2 ⟨k1,decide_eq_true k2⟩)
     have:=hs f (by simp) x k1
     rw[if_neg (by omega)]
     omega
theorem asc_sub{g:List Int}{d:Int}:∀(l:List Nat) (b:Nat),l.Pairwise (· < ·)->(∀x∈l,b<=x/\x<g.length)->(l.map fun j=>g.getD j d).Sublist (g.drop b)
 | [],b,_,_=>List.nil_sublist _
 |x::l,b,hp,h=>by
  have hx:=h x (by simp)
  have ih:=asc_sub (g:=g) (d:=d) l (x+1) (List.pairwise_cons.1 hp).2 (fun y hy=>⟨(List.pairwise_cons.1 hp).1 y hy,(h y (by simp[hy])).2⟩)
  have e:g.drop x=g.getD x d::g.drop (x+1):=by
   rw[List.drop_eq_getElem_cons hx.2];simp[List.getD_eq_getElem?_getD,hx.2]
  have h2:(g.drop x).Sublist (g.drop b):=by
   rw[show x=b+(x-b) by omega,<- List.drop_drop];exact List.drop_sublist _ _
  simp only[List.map_cons]
  refine List.Sublist.trans ?_ h2
  rw[e]
  exact ih.cons_cons _
def sumU(u:Nat->Bool)(F:Nat->Int):Nat->Int
 |0=>0
 |n+1=>sumU u F n+if u n=true then F n else 0
def cntF(g:List Int)(s:Nat):Int:=g.count (s:Int)
def stF(st:List Int)(s:Nat):Int:=st.getD s 0
theorem sumU_add(u:Nat->Bool)(F G H:Nat->Int):∀n:Nat,(∀s,s<n->F s=G s+H s)->sumU u F n=sumU u G n+sumU u H n
 |0,_=>rfl
 |n+1,h=>by
  have:=sumU_add u F G H n fun s hs=>h s (by omega)
  have:=h n (by omega)
  simp only[sumU]
  split<;>omega
theorem sumU_one(u:Nat->Bool)(x:Int):∀n:Nat,sumU u (fun s=>if x=(s:Int) then 1 else 0) n=if (decide (0<=x/\x<n)&&u x.toNat)=true then 1 else 0
 |0=>by
  have:¬(0<=x/\x<((0:Nat):Int)):=by omega
  simp[sumU];omega
 |n+1=>by
  have ih:=sumU_one u x n
  simp only[sumU,ih]
  by_cases h:x=(n:Int)
  ·subst h
   have h1:¬(0<=(n:Int)/\(n:Int)<n):=by omega
   have h2:0<=(n:Int)/\(n:Int)<((n+1:Nat):Int):=by omega
   rw[decide_eq_false h1,decide_eq_true h2]
   simp
  ·have h3:decide (0<=x/\x<((n+1:Nat):Int))=decide (0<=x/\x<(n:Int)):=decide_eq_decide.2 ⟨fun h=>⟨h.1,by omega⟩,fun h=>⟨h.1,by omega⟩⟩
   rw[h3,if_neg h];simp
theorem sumU_zero(u:Nat->Bool):∀n:Nat,sumU u (fun _=>0) n=0
 |0=>rfl
 |n+1=>by simp[sumU,sumU_zero u n]
theorem sumU_count(u:Nat->Bool)(n:Nat):∀g:List Int,((g.countP fun x:Int=>decide (0<=x/\x<n)&&u x.toNat:Nat):Int)=sumU u (cntF g) n
 | []=>by
  have:cntF []=fun _=>0:=by funext s;simp[cntF]
  rw[this,sumU_zero];rfl
 |x::g=>by
  have ih:=sumU_count u n g
  have e:=sumU_add u (cntF (x::g)) (cntF g) (fun s=>if x=(s:Int) then 1 else 0) n fun s _=>by
   simp only[cntF,List.count_cons]
   by_cases h:x=(s:Int)<;>simp[h]
  rw[e,<- ih,sumU_one,List.countP_cons]
  split<;>simp
theorem sumU_le{u v:Nat->Bool}{a b:Nat->Int}:∀(n:Nat),(∀s,s<n->u s=true->v s=true)->(∀s,s<n->u s=true->a s<=b s)->(∀s,s<n->0<=b s)->sumU u a n<=sumU v b n
 |0,_,_,_=>by simp[sumU]
 |n+1,h1,h2,h3=>by
  have ih:=sumU_le n (fun s hs=>h1 s (by omega)) (fun s hs=>h2 s (by omega)) (fun s hs=>h3 s (by omega))
  have a1:=h1 n (by omega)
  have a2:=h2 n (by omega)
  have a3:=h3 n (by omega)
  simp only[sumU]
  cases hu:u n with
  |true=>
   have b1:=a1 hu
   have b2:=a2 hu
   rw[b1];simp only[if_true];omega
  |false=>
   simp only[Bool.false_eq_true,if_false]
   split<;>omega
def useB(fs:List (List Int))(some:List Nat)(s:Nat):Bool:=some.any fun k=>decide ((s:Int)∈fsG fs k)
def lackS(st:List Int)(fs:List (List Int))(some:List Nat):Int:=some.length-sumU (useB fs some) (stF st) st.length
theorem count_split(l:List Int)(p q:Int->Bool)(h:∀x∈l,p x=true\/q x=true):l.length<=l.countP p+l.countP q:=by
 induction l with
 |nil=>simp
 |cons x l ih=>
  have:=ih fun y hy=>h y (by simp[hy])
  rw[List.countP_cons,List.countP_cons,List.length_cons]
  rcases h x (by simp)with h1|h1<;>simp[h1]<;>omega
theorem weak_dual{st:List Int}{fs:List (List Int)}{g:List Int}(hv:Valid st fs g)(hs:Spr st fs)(h0:∀s,s<st.length->0<=st.getD s 0){some:List Nat}(ha:some.Pairwise (· < ·))(hb:∀x∈some,x<fs.length):lackS st fs some<=lackN g:=by
 have hsub:=asc_sub (g:=g) (d:=0) some 0 ha (fun x hx=>⟨by omega,by rw[hv.len];exact hb x hx⟩)
 rw[List.drop_zero]at hsub
 have hsp:=count_split (some.map fun j=>g.getD j 0) (fun x=>x == -1) (fun x:Int=>decide (0<=x/\x<st.length)&&useB fs some x.toNat) (by
  intro x hx
  obtain⟨j,hj,rfl⟩:=List.mem_map.1 hx
  have hjl:=hb j hj
  rcases hv.fit j (by rw[hv.len];exact hjl)with h|h
  ·left;exact beq_iff_eq.2 h
  ·right
   have hm:fsG fs j∈fs:=by
    unfold fsG;rw[List.getD_eq_getElem?_getD,List.getElem?_eq_getElem hjl];exact List.getElem_mem hjl
   have:=hs _ hm _ h
   rw[Bool.and_eq_true]
   refine⟨decide_eq_true this,List.any_eq_true.2 ⟨j,hj,decide_eq_true ?_⟩⟩
   rw[show((g.getD j 0).toNat:Int)=g.getD j 0 by omega];exact h)
 have c1:=hsub.countP_le (p:=fun x=>x == -1)
 have c2:=hsub.countP_le (p:=fun x:Int=>decide (0<=x/\x<st.length)&&useB fs some x.toNat)
 have c3:=sumU_count (useB fs some) st.length g
 have c4:=sumU_le (u:=useB fs some) (v:=useB fs some) (a:=cntF g) (b:=stF st) st.length (fun _ _ h=>h) (fun s hs _=>hv.cnt s hs) h0
 rw[List.length_map]at hsp
 unfold lackS lackN
 have c5:g.countP (fun x=>x == -1)=g.count (-1):=rfl
 omega
def Shut(fs:List (List Int))(left g:List Int)(C:Int->Prop):Prop:=∀s,C s->left.getD s.toNat 0=0/\∀j,j<g.length->g.getD j 0=s->∀x∈fsG fs j,C x
def shortL(g:List Int)(t:Int->Bool):List Nat:=(List.range g.length).filter fun j=>g.getD j 0 == -1||t (g.getD j 0)
theorem filter_range_count(g:List Int)(p:Int->Bool):((List.range g.length).filter fun j=>p (g.getD j 0)).length=g.countP p:=by
 have:∀n,n<=g.length->((List.range n).filter fun j=>p (g.getD j 0)).length=(g.take n).countP p:=by
  intro n
  induction n with
  |zero=>simp
  |succ n ih=>
   intro h
   have h':n<g.length:=h
   rw[List.range_succ,List.filter_append,List.length_append,ih (by omega),List.take_succ_eq_append_getElem h',List.countP_append]
   congr 1
   have e:g.getD n 0=g[n]:=by simp[List.getD_eq_getElem?_getD,h']
   simp only[List.filter_cons,List.filter_nil,List.countP_cons,List.countP_nil,e]
   split<;>simp
 have:=this g.length (Nat.le_refl _)
 rwa [List.take_length]at this
theorem short_lack{st left:List Int}{fs:List (List Int)}{g:List Int}(hv:Valid st fs g)(hs:Spr st fs)(h0:∀s,s<st.length->0<=st.getD s 0){t:Int->Bool}(ht:∀x,t x=true->0<=x/\x<st.length)
  (hT:Shut fs left g fun s=>t s=true) (hl:∀s:Nat,s<st.length->left.getD s 0+(g.count (s:Int):Int)=st.getD s 0) (hu:∀j,j<g.length->g.getD j 0 = -1->∀x∈fsG fs j,t x=true):lackS st fs (shortL g t)=lackN g:=by
 have hasc:(shortL g t).Pairwise (· < ·):=List.Pairwise.sublist List.filter_sublist List.pairwise_lt_range
 have hmem:∀x∈shortL g t,x<g.length/\(g.getD x 0 = -1\/t (g.getD x 0)=true):=fun x hx=>by
  simpa[shortL]using hx
 have h1:=weak_dual hv hs h0 hasc (fun x hx=>by rw[<- hv.len];exact(hmem x hx).1)
 have hlen:(shortL g t).length=g.countP fun x:Int=>x == -1||t x:=filter_range_count g fun x:Int=>x == -1||t x
 have hsum:(g.countP fun x:Int=>x == -1||t x)=g.countP (fun x:Int=>x == -1)+g.countP fun x:Int=>decide (0<=x/\x<st.length)&&t x:=by
  clear h1 hlen hmem hasc hu hl hT hv
  induction g with
  |nil=>simp
  |cons x g ih=>
   rw[List.countP_cons,List.countP_cons,List.countP_cons,ih]
   cases hx:t x with
   |true=>
    have:=ht x hx
    have e1:¬x = -1:=by omega
    simp[this,e1];omega
   |false=>simp;omega
 have c3:=sumU_count (fun n=>t n) st.length g
 have c5:g.countP (fun x:Int=>decide (0<=x/\x<st.length)&&t ((x.toNat:Nat):Int))=g.countP fun x:Int=>decide (0<=x/\x<st.length)&&t x:=by
  apply List.countP_congr
  intro x _
  by_cases hx:0<=x/\x<st.length
  ·simp[hx,show((x.toNat:Nat):Int)=x by omega]
  ·simp[hx]
 have hut:∀s,s<st.length->useB fs (shortL g t) s=true->t s=true:=fun s hs hu2=>by
  obtain⟨k,hk,hk2⟩:=List.any_eq_true.1 hu2
  have hk2:=of_decide_eq_true hk2
  obtain⟨a,b⟩:=hmem k hk
  rcases b with b|b
  ·exact hu k a b _ hk2
  ·exact(hT _ b).2 k a rfl _ hk2
 have c4:=sumU_le (u:=useB fs (shortL g t)) (v:=fun n=>t n) (a:=stF st) (b:=cntF g) st.length hut (fun s hs hu2=>by
  have a:=(hT _ (hut s hs hu2)).1
  have b:=hl s hs
  rw[show((s:Int)).toNat=s by omega]at a
  unfold stF cntF;omega) (fun s hs=>by unfold cntF;omega)
 unfold lackS lackN at h1⊢
 have c6:g.countP (fun x=>x == -1)=g.count (-1):=rfl
 omega
def jAV(r:Int):List AV:=[.int .i64 r]
structure Spare where
 k:Int
 s:Int
 lo:Int
 hi:Int
deriving DecidableEq
structure Slot where
 k:Int
 ss:List Int
 lo:Int
 hi:Int
structure Trial where
 sp:Int
 mkr:Int
 sl:Int
 ft:Int
deriving DecidableEq
structure Shop where
 sps:List Spare
 mks:List (List Slot)
 cut:Int
 tb:List Trial
def Spare.av(x:Spare):List AV:=[.int .i64 x.k, .int .i64 x.s, .int .i64 x.lo, .int .i64 x.hi]
def Slot.av(x:Slot):List AV:=[.int .i64 x.k, .isl (x.ss.map jAV), .int .i64 x.lo, .int .i64 x.hi]
def mkAV(m:List Slot):List AV:=[.isl (m.map Slot.av)]
def Trial.av(x:Trial):List AV:=[.int .i64 x.sp, .int .i64 x.mkr, .int .i64 x.sl, .int .i64 x.ft]
def Shop.cells(w:Shop):List AV:=[.isl (w.sps.map Spare.av), .isl (w.mks.map mkAV), .int .i64 w.cut, .isl (w.tb.map Trial.av)]
theorem getM{α : Type}(f : α -> List AV)(l:List α)(i:Nat)(h:i<l.length):(l.map f).getD i []=f l[i]:=by
 simp[List.getD_eq_getElem?_getD,h]
theorem all_not{α : Type}{l:List α}{p : α -> Bool}{k:Nat}(hk:k<l.length)(h:p l[k]=false):l.all p=false:=by
 rw[Bool.eq_false_iff];intro h2
 rw[List.all_eq_true.1 h2 _ (List.getElem_mem hk)]at h;cases h
theorem take_all{α : Type}{l:List α}{p : α -> Bool}{k:Nat}(hk:k<l.length)(h:∀x∈l.take k,p x=true)(hx:p l[k]=true):∀x∈l.take (k+1),p x=true:=by
 intro x hm
 rw[List.take_succ_eq_append_getElem hk]at hm
 rcases List.mem_append.1 hm with hm|hm
 ·exact h x hm
 ·simp only[List.mem_singleton]at hm;subst hm;exact hx
theorem take_none{α : Type}{l:List α}{p : α -> Bool}{k:Nat}(hk:k<l.length)(h:∀x∈l.take k,p x=false)(hx:p l[k]=false):∀x∈l.take (k+1),p x=false:=by
 intro x hm
 rw[List.take_succ_eq_append_getElem hk]at hm
 rcases List.mem_append.1 hm with hm|hm
 ·exact h x hm
 ·simp only[List.mem_singleton]at hm;subst hm;exact hx
theorem all_yes{α : Type}{l:List α}{p : α -> Bool}(h:∀x∈l,p x=true):l.all p=true:=List.all_eq_true.2 h
theorem any_no{α : Type}{l:List α}{p : α -> Bool}(h:∀x∈l,p x=false):l.any p=false:=by
 rw[Bool.eq_false_iff];intro h2
 obtain⟨x,hx,hp⟩:=List.any_eq_true.1 h2
 rw[h x hx]at hp;cases hp
theorem any_yes{α : Type}{l:List α}{p : α -> Bool}{k:Nat}(hk:k<l.length)(h:p l[k]=true):l.any p=true:=List.any_eq_true.2 ⟨_,List.getElem_mem hk,h⟩
theorem p114(n lo hi:Int):FnA Tryz.prog 140 [.int .i64 n, .int .i64 lo, .int .i64 hi] (· = .bool (decide (lo<=n/\n<=hi))):=by
 refine fnA 0 ok140 (by simp) ?_
 (conv=>whnf);(repeat'((first|apply bT|apply bF|apply bN|((first|apply bD|apply bEq|apply bNe)<;>intro hh<;>try(exfalso;omega))|refine wJ ?_|refine nJ ?_)<;>conv=>whnf))
 all_goals first|rfl|exact congrArg AV.bool (decide_eq_decide.2 (by omega))|exact congrArg AV.bool (decide_eq_true (by omega)).symm|exact congrArg AV.bool (decide_eq_false (by omega)).symm
theorem p90(n lo hi:Int):FnA Tryz.prog 151 [.int .i64 n, .int .i64 lo, .int .i64 hi] (· = .bool (decide (lo<=n/\n<=hi))):=by
 refine fnA 0 ok151 (by simp) ?_
 (conv=>whnf);(repeat'((first|apply bT|apply bF|apply bN|((first|apply bD|apply bEq|apply bNe)<;>intro hh<;>try(exfalso;omega))|refine wJ ?_|refine nJ ?_)<;>conv=>whnf))
 all_goals first|rfl|exact congrArg AV.bool (decide_eq_decide.2 (by omega))|exact congrArg AV.bool (decide_eq_true (by omega)).symm|exact congrArg AV.bool (decide_eq_false (by omega)).symm
theorem p148(n:Int):FnA Tryz.prog 165 [.int .i64 n] (· = .bool (decide (0<=n/\n<=9))):=by
 have e1:=p114 n 0 9
 refine fnA 1 ok165 (by simp) ?_
 (conv=>whnf);(repeat'((first|apply bT|apply bF|apply bN|((first|apply bD|apply bEq|apply bNe)<;>intro hh<;>try(exfalso;omega))|refine e1.cq rfl rfl ?_|refine wJ ?_|refine nJ ?_)<;>conv=>whnf))
 all_goals rfl
def okLen(lo hi:Int):Bool:=decide (0<=lo/\lo<=hi/\hi<=999)
theorem okLen_iff{lo hi:Int}:okLen lo hi=true<->0<=lo/\lo<=hi/\hi<=999:=by unfold okLen;exact decide_eq_true_iff
theorem p149(lo hi:Int):FnA Tryz.prog 166 [.agg [.int .i64 lo, .int .i64 hi]] (· = .bool (okLen lo hi)):=by
 have e1:=p114 lo 0 hi
 unfold okLen
 refine fnA 1 ok166 (by simp) ?_
 (conv=>whnf);(repeat'((first|apply bT|apply bF|apply bN|((first|apply bD|apply bEq|apply bNe)<;>intro hh<;>try(exfalso;omega))|refine e1.cq rfl rfl ?_|refine wJ ?_|refine nJ ?_)<;>conv=>whnf))
 all_goals first|rfl|exact congrArg AV.bool (decide_eq_decide.2 (by omega))|exact congrArg AV.bool (decide_eq_true (by omega)).symm|exact congrArg AV.bool (decide_eq_false (by omega)).symm
theorem p120(lo hi:Int):FnA Tryz.prog 152 [.agg [.int .i64 lo, .int .i64 hi]] (· = .bool (okLen lo hi)):=by
 have e1:=p90 lo 0 hi
 unfold okLen
 refine fnA 1 ok152 (by simp) ?_
 (conv=>whnf);(repeat'((first|apply bT|apply bF|apply bN|((first|apply bD|apply bEq|apply bNe)<;>intro hh<;>try(exfalso;omega))|refine e1.cq rfl rfl ?_|refine wJ ?_|refine nJ ?_)<;>conv=>whnf))
 all_goals first|rfl|exact congrArg AV.bool (decide_eq_decide.2 (by omega))|exact congrArg AV.bool (decide_eq_true (by omega)).symm|exact congrArg AV.bool (decide_eq_false (by omega)).symm
def okSp(x:Spare):Bool:=decide (0<=x.k/\x.k<=9)&&decide (0<=x.s/\x.s<=9)&&okLen x.lo x.hi
theorem p111(x:Spare):FnA Tryz.prog 137 [.agg x.av] (· = .bool (okSp x)):=by
 have e1:=p148 x.k
 have e2:=p148 x.s
 have e3:=p149 x.lo x.hi
 unfold okSp
 refine fnA 1 ok137 (by simp) ?_
 cases h1:decide (0<=x.k/\x.k<=9)<;>cases h2:decide (0<=x.s/\x.s<=9)<;>rw[h1]at e1<;>rw[h2]at e2
 all_goals
  (conv=>whnf);(repeat'((first|apply bT|apply bF|apply bN|((first|apply bD|apply bEq|apply bNe)<;>intro hh<;>try(exfalso;omega))|refine e1.cq rfl rfl ?_|refine e2.cq rfl rfl ?_|refine e3.cq rfl rfl ?_|refine wJ ?_|refine nJ ?_)<;>conv=>whnf))
  all_goals rfl
def ascB:List Int->Bool
 | []=>true
 | [_]=>true
 |a::b::l=>decide (a<b)&&ascB (b::l)
theorem ascB_iff:∀ {l:List Int},ascB l=true<->∀i,i+1<l.length->l.getD i 0<l.getD (i+1) 0
 | []=>by simp[ascB]
 | [_]=>by simp[ascB]
 |a::b::l=>by
  simp only[ascB,Bool.and_eq_true,decide_eq_true_eq,ascB_iff (l:=b::l)]
  constructor
  ·rintro⟨h1,h2⟩ i hi
   cases i with
   |zero=>simpa using h1
   |succ i=>simpa using h2 i (by simpa using hi)
  ·intro h
   exact⟨by simpa using h 0 (by simp),fun i hi=>by simpa using h (i+1) (by simpa using hi)⟩
theorem jget{l:List Int}{i:Nat}(h:i<l.length):(l.map jAV).getD i []=[.int .i64 (l.getD i 0)]:=by
 simp[List.getD_eq_getElem?_getD,h,jAV]
theorem ascB_no{l:List Int}{k:Nat}(hk:k+1<l.length)(h:¬l.getD k 0<l.getD (k+1) 0):ascB l=false:=by
 rw[Bool.eq_false_iff];intro h2;exact h (ascB_iff.1 h2 k hk)
theorem p126(l:List Int)(hl:l.length<=1000000):FnA Tryz.prog 188 [.isl (l.map jAV)] (· = .bool (ascB l)):=by
 have hL:(l.map jAV).length=l.length:=by simp
 refine fnA 0 ok188 (by simp) ?_
 (conv=>whnf);(repeat'((first|apply bT|apply bF|apply bN|((first|apply bD|apply bEq|apply bNe)<;>intro hh<;>try(exfalso;omega))|refine wJ ?_|refine nJ ?_)<;>conv=>whnf))
 refine loop_i (α :=Nat) (fun k=>[(7, .int .i64 k),(6, .int .i64 (↑(l.map jAV).length-1)),(0, .isl (l.map jAV))]) (fun k=>[]) (fun k=>(k:Int)<=l.length/\∀i,i<k->i+1<l.length->l.getD i 0<l.getD (i+1) 0) (fun k=>l.length-k) 0 mI ⟨by omega,by omega⟩ ?_
 rintro k ⟨h1,h2⟩
 conv=>whnf
 refine bD (fun h3=>?_) (fun h3=>?_)
 ·have hk:k+1<l.length:=by omega
  have g1:=jget (l:=l) (i:=k) (by omega)
  have g2:=jget (l:=l) (i:=k+1) (by omega)
  by_cases hx:l.getD k 0<l.getD (k+1) 0
  ·(conv=>whnf);(repeat'((first|apply bT|apply bF|apply bN|((first|apply bD|apply bEq|apply bNe)<;>intro hh<;>try(exfalso;omega))|refine iaJ g1 ?_|refine iaJ g2 ?_|refine wJ ?_|refine nJ ?_)<;>conv=>whnf))
   refine⟨k+1,mI,⟨by omega,fun i hi hi2=>?_⟩,by omega⟩
   by_cases e:i=k
   ·rw[e];exact hx
   ·exact h2 i (by omega) hi2
  ·rw[ascB_no hk hx]
   (conv=>whnf);(repeat'((first|apply bT|apply bF|apply bN|((first|apply bD|apply bEq|apply bNe)<;>intro hh<;>try(exfalso;omega))|refine iaJ g1 ?_|refine iaJ g2 ?_|refine wJ ?_|refine nJ ?_)<;>conv=>whnf))
   all_goals rfl
 ·rw[ascB_iff.2 fun i hi=>h2 i (by omega) hi]
  (conv=>whnf);(repeat'((first|apply bT|apply bF|apply bN|((first|apply bD|apply bEq|apply bNe)<;>intro hh<;>try(exfalso;omega))|refine wJ ?_|refine nJ ?_)<;>conv=>whnf))
  all_goals rfl
theorem p50(l:List Int)(hl:l.length<=1000000):FnA Tryz.prog 172 [.isl (l.map jAV)] (· = .bool (ascB l)):=by
 have hL:(l.map jAV).length=l.length:=by simp
 refine fnA 0 ok172 (by simp) ?_
 (conv=>whnf);(repeat'((first|apply bT|apply bF|apply bN|((first|apply bD|apply bEq|apply bNe)<;>intro hh<;>try(exfalso;omega))|refine wJ ?_|refine nJ ?_)<;>conv=>whnf))
 refine loop_i (α :=Nat) (fun k=>[(3, .int .i64 (k+1)),(0, .isl (l.map jAV))]) (fun k=>[]) (fun k=>(k:Int)<=l.length/\∀i,i<k->i+1<l.length->l.getD i 0<l.getD (i+1) 0) (fun k=>l.length-k) 0 mI ⟨by omega,by omega⟩ ?_
 rintro k ⟨h1,h2⟩
 conv=>whnf
 refine bD (fun h3=>?_) (fun h3=>?_)
 ·have hk:k+1<l.length:=by omega
  have g1:=jget (l:=l) (i:=k) (by omega)
  have g2:=jget (l:=l) (i:=k+1) (by omega)
  have h4:((k:Int)+1-1)=k:=by omega
  by_cases hx:l.getD k 0<l.getD (k+1) 0
  ·(conv=>whnf);(repeat'((first|apply bT|apply bF|apply bN|((first|apply bD|apply bEq|apply bNe)<;>intro hh<;>try(exfalso;omega))|refine iaJ g2 ?_|(refine iaI (by omega) (by omega) (show(l.map jAV).getD ((k:Int)+1-1).toNat []=[.int .i64 (l.getD k 0)] by rw[h4];exact g1) ?_)|refine wJ ?_|refine nJ ?_)<;>conv=>whnf))
   refine⟨k+1,mI,⟨by omega,fun i hi hi2=>?_⟩,by omega⟩
   by_cases e:i=k
   ·rw[e];exact hx
   ·exact h2 i (by omega) hi2
  ·rw[ascB_no hk hx]
   (conv=>whnf);(repeat'((first|apply bT|apply bF|apply bN|((first|apply bD|apply bEq|apply bNe)<;>intro hh<;>try(exfalso;omega))|refine iaJ g2 ?_|(refine iaI (by omega) (by omega) (show(l.map jAV).getD ((k:Int)+1-1).toNat []=[.int .i64 (l.getD k 0)] by rw[h4];exact g1) ?_)|refine wJ ?_|refine nJ ?_)<;>conv=>whnf))
   all_goals rfl
 ·rw[ascB_iff.2 fun i hi=>h2 i (by omega) hi]
  (conv=>whnf);(repeat'((first|apply bT|apply bF|apply bN|((first|apply bD|apply bEq|apply bNe)<;>intro hh<;>try(exfalso;omega))|refine wJ ?_|refine nJ ?_)<;>conv=>whnf))
  all_goals rfl
structure Job where
 mkr:Int
 sl:Int
def Job.av(j:Job):List AV:=[.int .i64 j.mkr, .int .i64 j.sl]
theorem p110{C:List AV}(p:Spare->Bool)(l:List (Spare))(hl:l.length<=1000000)(hg:∀x∈l,FnV Tryz.prog (.fn 137 []) [.agg (Spare.av x)] (· = .bool (p x))):FnA Tryz.prog 136 [.isl (l.map Spare.av),(.fn 137 [])] (· = .bool (l.all p)):=by
 have hL:(l.map Spare.av).length=l.length:=by simp
 refine fnA 1 ok136 (by simp) ?_
 (conv=>whnf);(repeat'((first|apply bT|apply bF|apply bN|((first|apply bD|apply bEq|apply bNe)<;>intro hh<;>try(exfalso;omega))|refine wJ ?_|refine nJ ?_)<;>conv=>whnf))
 refine loop_i (α :=Nat) (fun k=>[(9, .int .i64 k),(8, .int .i64 ↑(l.map Spare.av).length),(7, .isl (l.map Spare.av)),(1,(.fn 137 []))]) (fun k=>[.fresh]) (fun k=>k<=l.length/\∀b∈l.take k,p b=true) (fun k=>l.length-k) 0 mI ⟨by omega,by simp⟩ ?_
 rintro k ⟨h1,h2⟩
 conv=>whnf
 refine bD (fun h3=>?_) (fun h3=>?_)
 ·have hk:k<l.length:=by omega
  have hv:=hg l[k] (List.getElem_mem hk)
  cases hx:p l[k]with
  |true=>
   rw[hx]at hv
   conv=>whnf
   refine iaJ (getM Spare.av l k hk) ?_
   (conv=>whnf);(repeat'((first|apply bT|apply bF|apply bN|((first|apply bD|apply bEq|apply bNe)<;>intro hh<;>try(exfalso;omega))|(refine hv.vcallq rfl rfl rfl rfl (fun r (hr:r=_)=>?_);subst hr)|refine wJ ?_|refine nJ ?_)<;>conv=>whnf))
   exact⟨k+1,mI,⟨by omega,take_all hk h2 hx⟩,by omega⟩
  |false=>
   rw[hx]at hv
   rw[all_not hk hx]
   conv=>whnf
   refine iaJ (getM Spare.av l k hk) ?_
   (conv=>whnf);(repeat'((first|apply bT|apply bF|apply bN|((first|apply bD|apply bEq|apply bNe)<;>intro hh<;>try(exfalso;omega))|(refine hv.vcallq rfl rfl rfl rfl (fun r (hr:r=_)=>?_);subst hr)|refine wJ ?_|refine nJ ?_)<;>conv=>whnf))
   all_goals rfl
 ·have:k=l.length:=by omega
  subst this
  rw[List.take_length]at h2
  rw[all_yes h2]
  (conv=>whnf);(repeat'((first|apply bT|apply bF|apply bN|((first|apply bD|apply bEq|apply bNe)<;>intro hh<;>try(exfalso;omega))|refine wJ ?_|refine nJ ?_)<;>conv=>whnf))
  all_goals rfl
theorem p112{C:List AV}(p:List Slot->Bool)(l:List (List Slot))(hl:l.length<=1000000)(hg:∀x∈l,FnV Tryz.prog (.fn 139 []) [.agg (mkAV x)] (· = .bool (p x))):FnA Tryz.prog 138 [.isl (l.map mkAV),(.fn 139 [])] (· = .bool (l.all p)):=by
 have hL:(l.map mkAV).length=l.length:=by simp
 refine fnA 1 ok138 (by simp) ?_
 (conv=>whnf);(repeat'((first|apply bT|apply bF|apply bN|((first|apply bD|apply bEq|apply bNe)<;>intro hh<;>try(exfalso;omega))|refine wJ ?_|refine nJ ?_)<;>conv=>whnf))
 refine loop_i (α :=Nat) (fun k=>[(9, .int .i64 k),(8, .int .i64 ↑(l.map mkAV).length),(7, .isl (l.map mkAV)),(1,(.fn 139 []))]) (fun k=>[.fresh]) (fun k=>k<=l.length/\∀b∈l.take k,p b=true) (fun k=>l.length-k) 0 mI ⟨by omega,by simp⟩ ?_
 rintro k ⟨h1,h2⟩
 conv=>whnf
 refine bD (fun h3=>?_) (fun h3=>?_)
 ·have hk:k<l.length:=by omega
  have hv:=hg l[k] (List.getElem_mem hk)
  cases hx:p l[k]with
  |true=>
   rw[hx]at hv
   conv=>whnf
   refine iaJ (getM mkAV l k hk) ?_
   (conv=>whnf);(repeat'((first|apply bT|apply bF|apply bN|((first|apply bD|apply bEq|apply bNe)<;>intro hh<;>try(exfalso;omega))|(refine hv.vcallq rfl rfl rfl rfl (fun r (hr:r=_)=>?_);subst hr)|refine wJ ?_|refine nJ ?_)<;>conv=>whnf))
   exact⟨k+1,mI,⟨by omega,take_all hk h2 hx⟩,by omega⟩
  |false=>
   rw[hx]at hv
   rw[all_not hk hx]
   conv=>whnf
   refine iaJ (getM mkAV l k hk) ?_
   (conv=>whnf);(repeat'((first|apply bT|apply bF|apply bN|((first|apply bD|apply bEq|apply bNe)<;>intro hh<;>try(exfalso;omega))|(refine hv.vcallq rfl rfl rfl rfl (fun r (hr:r=_)=>?_);subst hr)|refine wJ ?_|refine nJ ?_)<;>conv=>whnf))
   all_goals rfl
 ·have:k=l.length:=by omega
  subst this
  rw[List.take_length]at h2
  rw[all_yes h2]
  (conv=>whnf);(repeat'((first|apply bT|apply bF|apply bN|((first|apply bD|apply bEq|apply bNe)<;>intro hh<;>try(exfalso;omega))|refine wJ ?_|refine nJ ?_)<;>conv=>whnf))
  all_goals rfl
theorem p115{C:List AV}(p:Trial->Bool)(l:List (Trial))(hl:l.length<=1000000)(hg:∀x∈l,FnV Tryz.prog (.fn 142 [.ipt C]) [.agg (Trial.av x)] (· = .bool (p x))):FnA Tryz.prog 141 [.isl (l.map Trial.av),(.fn 142 [.ipt C])] (· = .bool (l.all p)):=by
 have hL:(l.map Trial.av).length=l.length:=by simp
 refine fnA 1 ok141 (by simp) ?_
 (conv=>whnf);(repeat'((first|apply bT|apply bF|apply bN|((first|apply bD|apply bEq|apply bNe)<;>intro hh<;>try(exfalso;omega))|refine wJ ?_|refine nJ ?_)<;>conv=>whnf))
 refine loop_i (α :=Nat) (fun k=>[(9, .int .i64 k),(8, .int .i64 ↑(l.map Trial.av).length),(7, .isl (l.map Trial.av)),(1,(.fn 142 [.ipt C]))]) (fun k=>[.fresh]) (fun k=>k<=l.length/\∀b∈l.take k,p b=true) (fun k=>l.length-k) 0 mI ⟨by omega,by simp⟩ ?_
 rintro k ⟨h1,h2⟩
 conv=>whnf
 refine bD (fun h3=>?_) (fun h3=>?_)
 ·have hk:k<l.length:=by omega
  have hv:=hg l[k] (List.getElem_mem hk)
  cases hx:p l[k]with
  |true=>
   rw[hx]at hv
   conv=>whnf
   refine iaJ (getM Trial.av l k hk) ?_
   (conv=>whnf);(repeat'((first|apply bT|apply bF|apply bN|((first|apply bD|apply bEq|apply bNe)<;>intro hh<;>try(exfalso;omega))|(refine hv.vcallq rfl rfl rfl rfl (fun r (hr:r=_)=>?_);subst hr)|refine wJ ?_|refine nJ ?_)<;>conv=>whnf))
   exact⟨k+1,mI,⟨by omega,take_all hk h2 hx⟩,by omega⟩
  |false=>
   rw[hx]at hv
   rw[all_not hk hx]
   conv=>whnf
   refine iaJ (getM Trial.av l k hk) ?_
   (conv=>whnf);(repeat'((first|apply bT|apply bF|apply bN|((first|apply bD|apply bEq|apply bNe)<;>intro hh<;>try(exfalso;omega))|(refine hv.vcallq rfl rfl rfl rfl (fun r (hr:r=_)=>?_);subst hr)|refine wJ ?_|refine nJ ?_)<;>conv=>whnf))
   all_goals rfl
 ·have:k=l.length:=by omega
  subst this
  rw[List.take_length]at h2
  rw[all_yes h2]
  (conv=>whnf);(repeat'((first|apply bT|apply bF|apply bN|((first|apply bD|apply bEq|apply bNe)<;>intro hh<;>try(exfalso;omega))|refine wJ ?_|refine nJ ?_)<;>conv=>whnf))
  all_goals rfl
theorem p150{C:List AV}(p:Slot->Bool)(l:List (Slot))(hl:l.length<=1000000)(hg:∀x∈l,FnV Tryz.prog (.fn 168 []) [.agg (Slot.av x)] (· = .bool (p x))):FnA Tryz.prog 167 [.isl (l.map Slot.av),(.fn 168 [])] (· = .bool (l.all p)):=by
 have hL:(l.map Slot.av).length=l.length:=by simp
 refine fnA 1 ok167 (by simp) ?_
 (conv=>whnf);(repeat'((first|apply bT|apply bF|apply bN|((first|apply bD|apply bEq|apply bNe)<;>intro hh<;>try(exfalso;omega))|refine wJ ?_|refine nJ ?_)<;>conv=>whnf))
 refine loop_i (α :=Nat) (fun k=>[(9, .int .i64 k),(8, .int .i64 ↑(l.map Slot.av).length),(7, .isl (l.map Slot.av)),(1,(.fn 168 []))]) (fun k=>[.fresh]) (fun k=>k<=l.length/\∀b∈l.take k,p b=true) (fun k=>l.length-k) 0 mI ⟨by omega,by simp⟩ ?_
 rintro k ⟨h1,h2⟩
 conv=>whnf
 refine bD (fun h3=>?_) (fun h3=>?_)
 ·have hk:k<l.length:=by omega
  have hv:=hg l[k] (List.getElem_mem hk)
  cases hx:p l[k]with
  |true=>
   rw[hx]at hv
   conv=>whnf
   refine iaJ (getM Slot.av l k hk) ?_
   (conv=>whnf);(repeat'((first|apply bT|apply bF|apply bN|((first|apply bD|apply bEq|apply bNe)<;>intro hh<;>try(exfalso;omega))|(refine hv.vcallq rfl rfl rfl rfl (fun r (hr:r=_)=>?_);subst hr)|refine wJ ?_|refine nJ ?_)<;>conv=>whnf))
   exact⟨k+1,mI,⟨by omega,take_all hk h2 hx⟩,by omega⟩
  |false=>
   rw[hx]at hv
   rw[all_not hk hx]
   conv=>whnf
   refine iaJ (getM Slot.av l k hk) ?_
   (conv=>whnf);(repeat'((first|apply bT|apply bF|apply bN|((first|apply bD|apply bEq|apply bNe)<;>intro hh<;>try(exfalso;omega))|(refine hv.vcallq rfl rfl rfl rfl (fun r (hr:r=_)=>?_);subst hr)|refine wJ ?_|refine nJ ?_)<;>conv=>whnf))
   all_goals rfl
 ·have:k=l.length:=by omega
  subst this
  rw[List.take_length]at h2
  rw[all_yes h2]
  (conv=>whnf);(repeat'((first|apply bT|apply bF|apply bN|((first|apply bD|apply bEq|apply bNe)<;>intro hh<;>try(exfalso;omega))|refine wJ ?_|refine nJ ?_)<;>conv=>whnf))
  all_goals rfl
theorem p158{C:List AV}(p:Job->Bool)(l:List (Job))(hl:l.length<=1000000)(hg:∀x∈l,FnV Tryz.prog (.fn 181 [.ipt C]) [.agg (Job.av x)] (· = .bool (p x))):FnA Tryz.prog 180 [.isl (l.map Job.av),(.fn 181 [.ipt C])] (· = .bool (l.all p)):=by
 have hL:(l.map Job.av).length=l.length:=by simp
 refine fnA 1 ok180 (by simp) ?_
 (conv=>whnf);(repeat'((first|apply bT|apply bF|apply bN|((first|apply bD|apply bEq|apply bNe)<;>intro hh<;>try(exfalso;omega))|refine wJ ?_|refine nJ ?_)<;>conv=>whnf))
 refine loop_i (α :=Nat) (fun k=>[(9, .int .i64 k),(8, .int .i64 ↑(l.map Job.av).length),(7, .isl (l.map Job.av)),(1,(.fn 181 [.ipt C]))]) (fun k=>[.fresh]) (fun k=>k<=l.length/\∀b∈l.take k,p b=true) (fun k=>l.length-k) 0 mI ⟨by omega,by simp⟩ ?_
 rintro k ⟨h1,h2⟩
 conv=>whnf
 refine bD (fun h3=>?_) (fun h3=>?_)
 ·have hk:k<l.length:=by omega
  have hv:=hg l[k] (List.getElem_mem hk)
  cases hx:p l[k]with
  |true=>
   rw[hx]at hv
   conv=>whnf
   refine iaJ (getM Job.av l k hk) ?_
   (conv=>whnf);(repeat'((first|apply bT|apply bF|apply bN|((first|apply bD|apply bEq|apply bNe)<;>intro hh<;>try(exfalso;omega))|(refine hv.vcallq rfl rfl rfl rfl (fun r (hr:r=_)=>?_);subst hr)|refine wJ ?_|refine nJ ?_)<;>conv=>whnf))
   exact⟨k+1,mI,⟨by omega,take_all hk h2 hx⟩,by omega⟩
  |false=>
   rw[hx]at hv
   rw[all_not hk hx]
   conv=>whnf
   refine iaJ (getM Job.av l k hk) ?_
   (conv=>whnf);(repeat'((first|apply bT|apply bF|apply bN|((first|apply bD|apply bEq|apply bNe)<;>intro hh<;>try(exfalso;omega))|(refine hv.vcallq rfl rfl rfl rfl (fun r (hr:r=_)=>?_);subst hr)|refine wJ ?_|refine nJ ?_)<;>conv=>whnf))
   all_goals rfl
 ·have:k=l.length:=by omega
  subst this
  rw[List.take_length]at h2
  rw[all_yes h2]
  (conv=>whnf);(repeat'((first|apply bT|apply bF|apply bN|((first|apply bD|apply bEq|apply bNe)<;>intro hh<;>try(exfalso;omega))|refine wJ ?_|refine nJ ?_)<;>conv=>whnf))
  all_goals rfl
theorem p127{C:List AV}(p:Int->Bool)(l:List (Int))(hl:l.length<=1000000)(hg:∀x∈l,FnV Tryz.prog (.fn 165 []) [AV.int .i64 x] (· = .bool (p x))):FnA Tryz.prog 178 [.isl (l.map jAV),(.fn 165 [])] (· = .bool (l.all p)):=by
 have hL:(l.map jAV).length=l.length:=by simp
 refine fnA 0 ok178 (by simp) ?_
 (conv=>whnf);(repeat'((first|apply bT|apply bF|apply bN|((first|apply bD|apply bEq|apply bNe)<;>intro hh<;>try(exfalso;omega))|refine wJ ?_|refine nJ ?_)<;>conv=>whnf))
 refine loop_i (α :=Nat) (fun k=>[(9, .int .i64 k),(8, .int .i64 ↑(l.map jAV).length),(7, .isl (l.map jAV)),(1,(.fn 165 []))]) (fun k=>[]) (fun k=>k<=l.length/\∀b∈l.take k,p b=true) (fun k=>l.length-k) 0 mI ⟨by omega,by simp⟩ ?_
 rintro k ⟨h1,h2⟩
 conv=>whnf
 refine bD (fun h3=>?_) (fun h3=>?_)
 ·have hk:k<l.length:=by omega
  have hv:=hg l[k] (List.getElem_mem hk)
  cases hx:p l[k]with
  |true=>
   rw[hx]at hv
   conv=>whnf
   refine iaJ (getM jAV l k hk) ?_
   (conv=>whnf);(repeat'((first|apply bT|apply bF|apply bN|((first|apply bD|apply bEq|apply bNe)<;>intro hh<;>try(exfalso;omega))|(refine hv.vcallq rfl rfl rfl rfl (fun r (hr:r=_)=>?_);subst hr)|refine wJ ?_|refine nJ ?_)<;>conv=>whnf))
   exact⟨k+1,mI,⟨by omega,take_all hk h2 hx⟩,by omega⟩
  |false=>
   rw[hx]at hv
   rw[all_not hk hx]
   conv=>whnf
   refine iaJ (getM jAV l k hk) ?_
   (conv=>whnf);(repeat'((first|apply bT|apply bF|apply bN|((first|apply bD|apply bEq|apply bNe)<;>intro hh<;>try(exfalso;omega))|(refine hv.vcallq rfl rfl rfl rfl (fun r (hr:r=_)=>?_);subst hr)|refine wJ ?_|refine nJ ?_)<;>conv=>whnf))
   all_goals rfl
 ·have:k=l.length:=by omega
  subst this
  rw[List.take_length]at h2
  rw[all_yes h2]
  (conv=>whnf);(repeat'((first|apply bT|apply bF|apply bN|((first|apply bD|apply bEq|apply bNe)<;>intro hh<;>try(exfalso;omega))|refine wJ ?_|refine nJ ?_)<;>conv=>whnf))
  all_goals rfl
theorem p127s{C:List AV}(p:Int->Bool)(l:List (Int))(hl:l.length<=1000000)(hg:∀x∈l,FnV Tryz.prog (.fn 179 []) [AV.int .i64 x] (· = .bool (p x))):FnA Tryz.prog 178 [.isl (l.map jAV),(.fn 179 [])] (· = .bool (l.all p)):=by
 have hL:(l.map jAV).length=l.length:=by simp
 refine fnA 0 ok178 (by simp) ?_
 (conv=>whnf);(repeat'((first|apply bT|apply bF|apply bN|((first|apply bD|apply bEq|apply bNe)<;>intro hh<;>try(exfalso;omega))|refine wJ ?_|refine nJ ?_)<;>conv=>whnf))
 refine loop_i (α :=Nat) (fun k=>[(9, .int .i64 k),(8, .int .i64 ↑(l.map jAV).length),(7, .isl (l.map jAV)),(1,(.fn 179 []))]) (fun k=>[]) (fun k=>k<=l.length/\∀b∈l.take k,p b=true) (fun k=>l.length-k) 0 mI ⟨by omega,by simp⟩ ?_
 rintro k ⟨h1,h2⟩
 conv=>whnf
 refine bD (fun h3=>?_) (fun h3=>?_)
 ·have hk:k<l.length:=by omega
  have hv:=hg l[k] (List.getElem_mem hk)
  cases hx:p l[k]with
  |true=>
   rw[hx]at hv
   conv=>whnf
   refine iaJ (getM jAV l k hk) ?_
   (conv=>whnf);(repeat'((first|apply bT|apply bF|apply bN|((first|apply bD|apply bEq|apply bNe)<;>intro hh<;>try(exfalso;omega))|(refine hv.vcallq rfl rfl rfl rfl (fun r (hr:r=_)=>?_);subst hr)|refine wJ ?_|refine nJ ?_)<;>conv=>whnf))
   exact⟨k+1,mI,⟨by omega,take_all hk h2 hx⟩,by omega⟩
  |false=>
   rw[hx]at hv
   rw[all_not hk hx]
   conv=>whnf
   refine iaJ (getM jAV l k hk) ?_
   (conv=>whnf);(repeat'((first|apply bT|apply bF|apply bN|((first|apply bD|apply bEq|apply bNe)<;>intro hh<;>try(exfalso;omega))|(refine hv.vcallq rfl rfl rfl rfl (fun r (hr:r=_)=>?_);subst hr)|refine wJ ?_|refine nJ ?_)<;>conv=>whnf))
   all_goals rfl
 ·have:k=l.length:=by omega
  subst this
  rw[List.take_length]at h2
  rw[all_yes h2]
  (conv=>whnf);(repeat'((first|apply bT|apply bF|apply bN|((first|apply bD|apply bEq|apply bNe)<;>intro hh<;>try(exfalso;omega))|refine wJ ?_|refine nJ ?_)<;>conv=>whnf))
  all_goals rfl
def okSl(x:Slot):Bool:=decide (0<=x.k/\x.k<=9)&&decide (x.ss.length<=4)&&x.ss.all (fun n=>decide (0<=n/\n<=9))&&ascB x.ss&&okLen x.lo x.hi
theorem p151(x:Slot):FnA Tryz.prog 168 [.agg x.av] (· = .bool (okSl x)):=by
 have hL:(x.ss.map jAV).length=x.ss.length:=by simp
 by_cases hl:x.ss.length<=4
 case neg=>
  have h0:okSl x=false:=by unfold okSl;rw[decide_eq_false hl];simp
  rw[h0]
  have e1:=p148 x.k
  refine fnA 1 ok168 (by simp) ?_
  (conv=>whnf);(repeat'((first|apply bT|apply bF|apply bN|((first|apply bD|apply bEq|apply bNe)<;>intro hh<;>try(exfalso;omega))|refine e1.cq rfl rfl ?_|refine wJ ?_|refine nJ ?_|(refine bS ?_ ?_<;>intro hh))<;>conv=>whnf))
  all_goals first|rfl|(refine congrArg AV.bool ?_;simp[*])
 have e1:=p148 x.k
 have e2:=p127 (C:=[]) (fun n=>decide (0<=n/\n<=9)) x.ss (by omega) (fun n _=>fnV_of bd165 (p148 n))
 have e3:=p126 x.ss (by omega)
 have e4:=p149 x.lo x.hi
 have h0:okSl x=(decide (0<=x.k/\x.k<=9)&&x.ss.all (fun n=>decide (0<=n/\n<=9))&&ascB x.ss&&okLen x.lo x.hi):=by unfold okSl;rw[decide_eq_true hl];simp
 rw[h0]
 generalize decide (0<=x.k/\x.k<=9)=b1 at *
 generalize x.ss.all (fun n=>decide (0<=n/\n<=9))=b2 at *
 generalize ascB x.ss=b3 at *
 refine fnA 1 ok168 (by simp) ?_
 cases b1<;>cases b2<;>cases b3
 all_goals
  (conv=>whnf);(repeat'((first|apply bT|apply bF|apply bN|((first|apply bD|apply bEq|apply bNe)<;>intro hh<;>try(exfalso;omega))|refine e1.cq rfl rfl ?_|refine e2.cq rfl rfl ?_|refine e3.cq rfl rfl ?_|refine e4.cq rfl rfl ?_|refine wJ ?_|refine nJ ?_)<;>conv=>whnf))
  all_goals rfl
def okMk(m:List Slot):Bool:=decide (m.length<=4)&&m.all okSl
theorem p113(m:List Slot):FnA Tryz.prog 139 [.agg (mkAV m)] (· = .bool (okMk m)):=by
 have hL:(m.map Slot.av).length=m.length:=by simp
 by_cases hl:m.length<=4
 case neg=>
  have h0:okMk m=false:=by unfold okMk;rw[decide_eq_false hl];simp
  rw[h0]
  refine fnA 1 ok139 (by simp) ?_
  (conv=>whnf);(repeat'((first|apply bT|apply bF|apply bN|((first|apply bD|apply bEq|apply bNe)<;>intro hh<;>try(exfalso;omega))|refine wJ ?_|refine nJ ?_)<;>conv=>whnf))
  all_goals rfl
 have e1:=p150 (C:=[]) okSl m (by omega) (fun x _=>fnV_of bd168 (p151 x))
 have h0:okMk m=m.all okSl:=by unfold okMk;rw[decide_eq_true hl];simp
 rw[h0]
 refine fnA 1 ok139 (by simp) ?_
 (conv=>whnf);(repeat'((first|apply bT|apply bF|apply bN|((first|apply bD|apply bEq|apply bNe)<;>intro hh<;>try(exfalso;omega))|refine e1.cq rfl rfl ?_|refine wJ ?_|refine nJ ?_)<;>conv=>whnf))
 all_goals rfl
def Shop.isSp(w:Shop)(i:Int):Bool:=decide (0<=i/\i<w.sps.length)
def Shop.isMk(w:Shop)(m:Int):Bool:=decide (0<=m/\m<w.mks.length)
def Shop.slots(w:Shop)(m:Int):List Slot:=w.mks.getD m.toNat []
def Shop.isSl(w:Shop)(m k:Int):Bool:=w.isMk m&&decide (0<=k/\k<(w.slots m).length)
theorem p70(w:Shop)(i:Int)(hw:w.sps.length<=1000000):FnA Tryz.prog 143 [.agg w.cells, .int .i64 i] (· = .bool (w.isSp i)):=by
 have hL:(w.sps.map Spare.av).length=w.sps.length:=by simp
 have e1:=p114 i 0 (↑(w.sps.map Spare.av).length-1)
 unfold Shop.isSp
 refine fnA 1 ok143 (by simp) ?_
 (conv=>whnf);(repeat'((first|apply bT|apply bF|apply bN|((first|apply bD|apply bEq|apply bNe)<;>intro hh<;>try(exfalso;omega))|refine e1.cq rfl rfl ?_|refine wJ ?_|refine nJ ?_)<;>conv=>whnf))
 all_goals first|rfl|exact congrArg AV.bool (decide_eq_decide.2 (by omega))|exact congrArg AV.bool (decide_eq_true (by omega)).symm|exact congrArg AV.bool (decide_eq_false (by omega)).symm
theorem p77(w:Shop)(i:Int)(hw:w.mks.length<=1000000):FnA Tryz.prog 169 [.agg w.cells, .int .i64 i] (· = .bool (w.isMk i)):=by
 have hL:(w.mks.map mkAV).length=w.mks.length:=by simp
 have e1:=p114 i 0 (↑(w.mks.map mkAV).length-1)
 unfold Shop.isMk
 refine fnA 1 ok169 (by simp) ?_
 (conv=>whnf);(repeat'((first|apply bT|apply bF|apply bN|((first|apply bD|apply bEq|apply bNe)<;>intro hh<;>try(exfalso;omega))|refine e1.cq rfl rfl ?_|refine wJ ?_|refine nJ ?_)<;>conv=>whnf))
 all_goals first|rfl|exact congrArg AV.bool (decide_eq_decide.2 (by omega))|exact congrArg AV.bool (decide_eq_true (by omega)).symm|exact congrArg AV.bool (decide_eq_false (by omega)).symm
theorem isMk_iff{w:Shop}{m:Int}:w.isMk m=true<->0<=m/\m<w.mks.length:=by unfold Shop.isMk;exact decide_eq_true_iff
theorem mkget{w:Shop}{m:Int}(h:w.isMk m=true):(w.mks.map mkAV).getD m.toNat []=[.isl ((w.slots m).map Slot.av)]:=by
 have h:=isMk_iff.1 h
 have:m.toNat<w.mks.length:=by omega
 rw[getM mkAV w.mks _ this]
 unfold Shop.slots;simp[List.getD_eq_getElem?_getD,this,mkAV]
theorem p73(w:Shop)(m k:Int)(hw:w.mks.length<=1000000)(hm:∀x∈w.mks,x.length<=1000000):FnA Tryz.prog 144 [.agg w.cells, .int .i64 m, .int .i64 k] (· = .bool (w.isSl m k)):=by
 have hL:(w.mks.map mkAV).length=w.mks.length:=by simp
 have e1:=p77 w m hw
 unfold Shop.isSl
 refine fnA 1 ok144 (by simp) ?_
 cases h1:w.isMk m with
 |false=>
  rw[h1]at e1
  (conv=>whnf);(repeat'((first|apply bT|apply bF|apply bN|((first|apply bD|apply bEq|apply bNe)<;>intro hh<;>try(exfalso;omega))|refine e1.cq rfl rfl ?_|refine wJ ?_|refine nJ ?_)<;>conv=>whnf))
  all_goals rfl
 |true=>
  rw[h1]at e1
  have h2:=isMk_iff.1 h1
  have hL2:((w.slots m).map Slot.av).length=(w.slots m).length:=by simp
  have hS:(w.slots m).length<=1000000:=by
   have:m.toNat<w.mks.length:=by omega
   have e:w.slots m=w.mks[m.toNat]:=by unfold Shop.slots;simp[List.getD_eq_getElem?_getD,this]
   rw[e];exact hm _ (List.getElem_mem this)
  have e2:=p114 k 0 (↑((w.slots m).map Slot.av).length-1)
  (conv=>whnf);(repeat'((first|apply bT|apply bF|apply bN|((first|apply bD|apply bEq|apply bNe)<;>intro hh<;>try(exfalso;omega))|refine e1.cq rfl rfl ?_|refine e2.cq rfl rfl ?_|refine iaJ (mkget h1) ?_|refine wJ ?_|refine nJ ?_)<;>conv=>whnf))
  all_goals (refine congrArg AV.bool ?_;rw[Bool.true_and];exact decide_eq_decide.2 (by omega))
def okTr(w:Shop)(t:Trial):Bool:=w.isSp t.sp&&w.isSl t.mkr t.sl&&decide (0<=t.ft/\t.ft<=1)
theorem p116(w:Shop)(t:Trial)(hs:w.sps.length<=1000000)(hw:w.mks.length<=1000000)(hm:∀x∈w.mks,x.length<=1000000):FnA Tryz.prog 142 [.agg t.av, .ipt w.cells] (· = .bool (okTr w t)):=by
 have e1:=p70 w t.sp hs
 have e2:=p73 w t.mkr t.sl hw hm
 have e3:=p114 t.ft 0 1
 unfold okTr
 generalize w.isSp t.sp=b1 at *
 generalize w.isSl t.mkr t.sl=b2 at *
 refine fnA 1 ok142 (by simp) ?_
 cases b1<;>cases b2
 all_goals
  (conv=>whnf);(repeat'((first|apply bT|apply bF|apply bN|((first|apply bD|apply bEq|apply bNe)<;>intro hh<;>try(exfalso;omega))|refine e1.cq rfl rfl ?_|refine e2.cq rfl rfl ?_|refine e3.cq rfl rfl ?_|refine wJ ?_|refine nJ ?_)<;>conv=>whnf))
  all_goals rfl
def okW(w:Shop):Bool:=decide (w.sps.length<=10)&&w.sps.all okSp&&decide (w.mks.length<=6)&&w.mks.all okMk&&decide (0<=w.cut/\w.cut<=99)&&decide (w.tb.length<=30)&&w.tb.all (okTr w)
theorem okMk_len{m:List Slot}(h:okMk m=true):m.length<=4:=by
 unfold okMk at h;rw[Bool.and_eq_true]at h;exact of_decide_eq_true h.1
theorem p66(w:Shop):FnA Tryz.prog 110 [.agg w.cells] (· = .bool (okW w)):=by
 have l1:(w.sps.map Spare.av).length=w.sps.length:=by simp
 have l2:(w.mks.map mkAV).length=w.mks.length:=by simp
 have l3:(w.tb.map Trial.av).length=w.tb.length:=by simp
 by_cases h1:w.sps.length<=10
 case neg=>
  have h0:okW w=false:=by unfold okW;rw[decide_eq_false h1];simp
  rw[h0]
  refine fnA 1 ok110 (by simp) ?_
  (conv=>whnf);(repeat'((first|apply bT|apply bF|apply bN|((first|apply bD|apply bEq|apply bNe)<;>intro hh<;>try(exfalso;omega))|refine wJ ?_|refine nJ ?_)<;>conv=>whnf))
  all_goals rfl
 have e1:=p110 (C:=[]) okSp w.sps (by omega) (fun x _=>fnV_of bd137 (p111 x))
 cases h2:w.sps.all okSp with
 |false=>
  have h0:okW w=false:=by unfold okW;rw[h2];simp
  rw[h0]
  rw[h2]at e1
  refine fnA 1 ok110 (by simp) ?_
  (conv=>whnf);(repeat'((first|apply bT|apply bF|apply bN|((first|apply bD|apply bEq|apply bNe)<;>intro hh<;>try(exfalso;omega))|refine e1.cq rfl rfl ?_|refine wJ ?_|refine nJ ?_)<;>conv=>whnf))
  all_goals rfl
 |true=>
 rw[h2]at e1
 by_cases h3:w.mks.length<=6
 case neg=>
  have h0:okW w=false:=by unfold okW;rw[decide_eq_false h3];simp
  rw[h0]
  refine fnA 1 ok110 (by simp) ?_
  (conv=>whnf);(repeat'((first|apply bT|apply bF|apply bN|((first|apply bD|apply bEq|apply bNe)<;>intro hh<;>try(exfalso;omega))|refine e1.cq rfl rfl ?_|refine wJ ?_|refine nJ ?_)<;>conv=>whnf))
  all_goals rfl
 have e2:=p112 (C:=[]) okMk w.mks (by omega) (fun x _=>fnV_of bd139 (p113 x))
 cases h4:w.mks.all okMk with
 |false=>
  have h0:okW w=false:=by unfold okW;rw[h4];simp
  rw[h0]
  rw[h4]at e2
  refine fnA 1 ok110 (by simp) ?_
  (conv=>whnf);(repeat'((first|apply bT|apply bF|apply bN|((first|apply bD|apply bEq|apply bNe)<;>intro hh<;>try(exfalso;omega))|refine e1.cq rfl rfl ?_|refine e2.cq rfl rfl ?_|refine wJ ?_|refine nJ ?_)<;>conv=>whnf))
  all_goals rfl
 |true=>
 rw[h4]at e2
 have hm:∀x∈w.mks,x.length<=1000000:=fun x hx=>by have:=okMk_len (List.all_eq_true.1 h4 x hx);omega
 have e3:=p114 w.cut 0 99
 have e5:w.tb.length<=30->FnA Tryz.prog 141 [.isl (w.tb.map Trial.av), .fn 142 [.ipt w.cells]] (· = .bool (w.tb.all (okTr w))):=fun h=>p115 (C:=w.cells) (okTr w) w.tb (by omega) (fun x _=>fnV_of bd142 (p116 w x (by omega) (by omega) hm))
 have h0:okW w=(decide (0<=w.cut/\w.cut<=99)&&decide (w.tb.length<=30)&&w.tb.all (okTr w)):=by unfold okW;rw[decide_eq_true h1,h2,decide_eq_true h3,h4];simp
 rw[h0]
 cases h5:decide (0<=w.cut/\w.cut<=99)with
 |false=>
  rw[h5]at e3
  refine fnA 1 ok110 (by simp) ?_
  (conv=>whnf);(repeat'((first|apply bT|apply bF|apply bN|((first|apply bD|apply bEq|apply bNe)<;>intro hh<;>try(exfalso;omega))|refine e1.cq rfl rfl ?_|refine e2.cq rfl rfl ?_|refine e3.cq rfl rfl ?_|refine wJ ?_|refine nJ ?_)<;>conv=>whnf))
  all_goals rfl
 |true=>
 rw[h5]at e3
 by_cases h6:w.tb.length<=30
 case neg=>
  rw[decide_eq_false h6]
  refine fnA 1 ok110 (by simp) ?_
  (conv=>whnf);(repeat'((first|apply bT|apply bF|apply bN|((first|apply bD|apply bEq|apply bNe)<;>intro hh<;>try(exfalso;omega))|refine e1.cq rfl rfl ?_|refine e2.cq rfl rfl ?_|refine e3.cq rfl rfl ?_|refine wJ ?_|refine nJ ?_)<;>conv=>whnf))
  all_goals rfl
 have e6:=e5 h6
 rw[decide_eq_true h6]
 refine fnA 1 ok110 (by simp) ?_
 (conv=>whnf);(repeat'((first|apply bT|apply bF|apply bN|((first|apply bD|apply bEq|apply bNe)<;>intro hh<;>try(exfalso;omega))|refine e1.cq rfl rfl ?_|refine e2.cq rfl rfl ?_|refine e3.cq rfl rfl ?_|refine e6.lq rfl rfl ?_|refine wJ ?_|refine nJ ?_)<;>conv=>whnf))
 all_goals rfl
theorem p132(l:List Int)(x:Int)(hl:l.length<=1000000):FnA Tryz.prog 156 [.isl (l.map jAV), .int .i64 x] (fun r=>∃n:Int,r = .int .i64 n/\(0<=n<->x∈l)):=by
 have hL:(l.map jAV).length=l.length:=by simp
 refine fnA 0 ok156 (by simp) ?_
 (conv=>whnf);(repeat'((first|apply bT|apply bF|apply bN|((first|apply bD|apply bEq|apply bNe)<;>intro hh<;>try(exfalso;omega))|refine wJ ?_|refine nJ ?_)<;>conv=>whnf))
 refine loop_i (α :=Nat) (fun k=>[(8, .int .i64 k),(7, .int .i64 ↑(l.map jAV).length),(1, .int .i64 x),(0, .isl (l.map jAV))]) (fun k=>[]) (fun k=>k<=l.length/\∀b∈l.take k,decide (x=b)=false) (fun k=>l.length-k) 0 mI ⟨by omega,by simp⟩ ?_
 rintro k ⟨h1,h2⟩
 conv=>whnf
 refine bD (fun h3=>?_) (fun h3=>?_)
 ·have hk:k<l.length:=by omega
  by_cases hx:x=l[k]
  ·conv=>whnf
   refine iaJ (getM jAV l k hk) ?_
   (conv=>whnf);(repeat'((first|apply bT|apply bF|apply bN|((first|apply bD|apply bEq|apply bNe)<;>intro hh<;>try(exfalso;omega))|refine wJ ?_|refine nJ ?_)<;>conv=>whnf))
   all_goals exact⟨k,rfl,fun _=>by rw[hx];exact List.getElem_mem hk,fun _=>by omega⟩
  ·conv=>whnf
   refine iaJ (getM jAV l k hk) ?_
   (conv=>whnf);(repeat'((first|apply bT|apply bF|apply bN|((first|apply bD|apply bEq|apply bNe)<;>intro hh<;>try(exfalso;omega))|refine wJ ?_|refine nJ ?_)<;>conv=>whnf))
   exact⟨k+1,mI,⟨by omega,take_none hk h2 (decide_eq_false hx)⟩,by omega⟩
 ·have:k=l.length:=by omega
  subst this
  rw[List.take_length]at h2
  (conv=>whnf);(repeat'((first|apply bT|apply bF|apply bN|((first|apply bD|apply bEq|apply bNe)<;>intro hh<;>try(exfalso;omega))|refine wJ ?_|refine nJ ?_)<;>conv=>whnf))
  all_goals exact⟨-1,rfl,fun h=>by omega,fun h=>by have:=h2 x h;simp at this⟩
theorem p89(l:List Int)(x:Int)(hl:l.length<=1000000):FnA Tryz.prog 124 [.isl (l.map jAV), .int .i64 x] (· = .bool (decide (x∈l))):=by
 refine fnA 0 ok124 (by simp) ?_
 (conv=>whnf);(repeat'((first|apply bT|apply bF|apply bN|((first|apply bD|apply bEq|apply bNe)<;>intro hh<;>try(exfalso;omega))|refine wJ ?_|refine nJ ?_)<;>conv=>whnf))
 refine(p132 l x hl).callq rfl rfl (fun r hr=>?_);obtain⟨n,rfl,hn⟩:=hr
 (conv=>whnf);(repeat'((first|apply bT|apply bF|apply bN|((first|apply bD|apply bEq|apply bNe)<;>intro hh<;>try(exfalso;omega))|refine wJ ?_|refine nJ ?_)<;>conv=>whnf))
 all_goals exact congrArg AV.bool (decide_eq_decide.2 hn)
def trEq(x y:Trial):Bool:=x.sp==y.sp&&(x.mkr==y.mkr&&(x.sl==y.sl&&(x.ft==y.ft&&true)))
theorem trEq_iff{x y:Trial}:trEq x y=true<->x=y:=by
 cases x;cases y;simp[trEq]
theorem p153(l:List Trial)(x:Trial)(hl:l.length<=1000000):FnA Tryz.prog 171 [.isl (l.map Trial.av), .agg x.av] (fun r=>∃n:Int,r = .int .i64 n/\(0<=n<->x∈l)):=by
 have hL:(l.map Trial.av).length=l.length:=by simp
 refine fnA 1 ok171 (by simp) ?_
 (conv=>whnf);(repeat'((first|apply bT|apply bF|apply bN|((first|apply bD|apply bEq|apply bNe)<;>intro hh<;>try(exfalso;omega))|refine wJ ?_|refine nJ ?_)<;>conv=>whnf))
 refine loop_i (α :=Nat) (fun k=>[(8, .int .i64 k),(7, .int .i64 ↑(l.map Trial.av).length),(3, .own 0 0),(0, .isl (l.map Trial.av))]) (fun k=>[.box false x.av]) (fun k=>k<=l.length/\∀b∈l.take k,trEq x b=false) (fun k=>l.length-k) 0 mI ⟨by omega,by simp⟩ ?_
 rintro k ⟨h1,h2⟩
 conv=>whnf
 refine bD (fun h3=>?_) (fun h3=>?_)
 ·have hk:k<l.length:=by omega
  conv=>whnf
  refine iaJ (getM Trial.av l k hk) ?_
  conv=>whnf
  refine bS (fun hx=>?_) (fun hx=>?_)
  ·have hx:trEq x l[k]=true:=hx
   (conv=>whnf);(repeat'((first|apply bT|apply bF|apply bN|((first|apply bD|apply bEq|apply bNe)<;>intro hh<;>try(exfalso;omega))|refine wJ ?_|refine nJ ?_)<;>conv=>whnf))
   all_goals exact⟨k,rfl,fun _=>by rw[trEq_iff.1 hx];exact List.getElem_mem hk,fun _=>by omega⟩
  ·have hx:trEq x l[k]=false:=hx
   (conv=>whnf);(repeat'((first|apply bT|apply bF|apply bN|((first|apply bD|apply bEq|apply bNe)<;>intro hh<;>try(exfalso;omega))|refine wJ ?_|refine nJ ?_)<;>conv=>whnf))
   exact⟨k+1,mI,⟨by omega,take_none hk h2 hx⟩,by omega⟩
 ·have:k=l.length:=by omega
  subst this
  rw[List.take_length]at h2
  (conv=>whnf);(repeat'((first|apply bT|apply bF|apply bN|((first|apply bD|apply bEq|apply bNe)<;>intro hh<;>try(exfalso;omega))|refine wJ ?_|refine nJ ?_)<;>conv=>whnf))
  all_goals exact⟨-1,rfl,fun h=>by omega,fun h=>by have:=h2 x h;rw[trEq_iff.2 rfl]at this;cases this⟩
theorem p119(l:List Trial)(x:Trial)(hl:l.length<=1000000):FnA Tryz.prog 147 [.isl (l.map Trial.av), .agg x.av] (· = .bool (decide (x∈l))):=by
 refine fnA 1 ok147 (by simp) ?_
 (conv=>whnf);(repeat'((first|apply bT|apply bF|apply bN|((first|apply bD|apply bEq|apply bNe)<;>intro hh<;>try(exfalso;omega))|refine wJ ?_|refine nJ ?_)<;>conv=>whnf))
 refine(p153 l x hl).callq rfl rfl (fun r hr=>?_);obtain⟨n,rfl,hn⟩:=hr
 (conv=>whnf);(repeat'((first|apply bT|apply bF|apply bN|((first|apply bD|apply bEq|apply bNe)<;>intro hh<;>try(exfalso;omega))|refine wJ ?_|refine nJ ?_)<;>conv=>whnf))
 all_goals exact congrArg AV.bool (decide_eq_decide.2 hn)
def Trial.neg(t:Trial):Trial:=⟨t.sp,t.mkr,t.sl,1-t.ft⟩
theorem p118(l:List Trial)(x:Trial)(hl:l.length<=1000000)(hf:0<=x.ft/\x.ft<=1):FnA Tryz.prog 146 [.agg x.av, .ipt [.isl (l.map Trial.av)]] (· = .bool (decide (x.neg∈l))):=by
 have e1:=p119 l x.neg hl
 refine fnA 1 ok146 (by simp) ?_
 (conv=>whnf);(repeat'((first|apply bT|apply bF|apply bN|((first|apply bD|apply bEq|apply bNe)<;>intro hh<;>try(exfalso;omega))|refine e1.cq rfl rfl ?_|refine wJ ?_|refine nJ ?_)<;>conv=>whnf))
 all_goals rfl
theorem p152(C:List AV)(p:Trial->Bool)(l:List Trial)(hl:l.length<=1000000)(hg:∀x∈l,FnV Tryz.prog (.fn 146 [.ipt C]) [.agg x.av] (· = .bool (p x))):FnA Tryz.prog 170 [.isl (l.map Trial.av), .fn 146 [.ipt C]] (fun r=>∃n:Int,r = .int .i64 n/\(0<=n<->l.any p=true)):=by
 have hL:(l.map Trial.av).length=l.length:=by simp
 refine fnA 0 ok170 (by simp) ?_
 (conv=>whnf);(repeat'((first|apply bT|apply bF|apply bN|((first|apply bD|apply bEq|apply bNe)<;>intro hh<;>try(exfalso;omega))|refine wJ ?_|refine nJ ?_)<;>conv=>whnf))
 refine loop_i (α :=Nat) (fun k=>[(8, .int .i64 k),(7, .int .i64 ↑(l.map Trial.av).length),(1, .fn 146 [.ipt C]),(0, .isl (l.map Trial.av))]) (fun k=>[]) (fun k=>k<=l.length/\∀b∈l.take k,p b=false) (fun k=>l.length-k) 0 mI ⟨by omega,by simp⟩ ?_
 rintro k ⟨h1,h2⟩
 conv=>whnf
 refine bD (fun h3=>?_) (fun h3=>?_)
 ·have hk:k<l.length:=by omega
  have hv:=hg l[k] (List.getElem_mem hk)
  cases hx:p l[k]with
  |true=>
   rw[hx]at hv
   conv=>whnf
   refine iaJ (getM Trial.av l k hk) ?_
   (conv=>whnf);(repeat'((first|apply bT|apply bF|apply bN|((first|apply bD|apply bEq|apply bNe)<;>intro hh<;>try(exfalso;omega))|(refine hv.vcallq rfl rfl rfl rfl (fun r (hr:r=_)=>?_);subst hr)|refine wJ ?_|refine nJ ?_)<;>conv=>whnf))
   all_goals exact⟨k,rfl,fun _=>any_yes hk hx,fun _=>by omega⟩
  |false=>
   rw[hx]at hv
   conv=>whnf
   refine iaJ (getM Trial.av l k hk) ?_
   (conv=>whnf);(repeat'((first|apply bT|apply bF|apply bN|((first|apply bD|apply bEq|apply bNe)<;>intro hh<;>try(exfalso;omega))|(refine hv.vcallq rfl rfl rfl rfl (fun r (hr:r=_)=>?_);subst hr)|refine wJ ?_|refine nJ ?_)<;>conv=>whnf))
   exact⟨k+1,mI,⟨by omega,take_none hk h2 hx⟩,by omega⟩
 ·have:k=l.length:=by omega
  subst this
  rw[List.take_length]at h2
  (conv=>whnf);(repeat'((first|apply bT|apply bF|apply bN|((first|apply bD|apply bEq|apply bNe)<;>intro hh<;>try(exfalso;omega))|refine wJ ?_|refine nJ ?_)<;>conv=>whnf))
  all_goals exact⟨-1,rfl,fun h=>by omega,fun h=>by rw[any_no h2]at h;cases h⟩
def clash(l:List Trial):Bool:=l.any fun t=>decide (t.neg∈l)
theorem p117(l:List Trial)(hl:l.length<=1000000)(hf:∀x∈l,0<=x.ft/\x.ft<=1):FnA Tryz.prog 145 [.isl (l.map Trial.av), .fn 146 [.ipt [.isl (l.map Trial.av)]]] (· = .bool (clash l)):=by
 unfold clash
 refine fnA 0 ok145 (by simp) ?_
 (conv=>whnf);(repeat'((first|apply bT|apply bF|apply bN|((first|apply bD|apply bEq|apply bNe)<;>intro hh<;>try(exfalso;omega))|refine wJ ?_|refine nJ ?_)<;>conv=>whnf))
 refine(p152 [.isl (l.map Trial.av)] (fun t=>decide (t.neg∈l)) l hl (fun x hx=>fnV_of bd146 (p118 l x hl (hf x hx)))).callq rfl rfl (fun r hr=>?_);obtain⟨n,rfl,hn⟩:=hr
 (conv=>whnf);(repeat'((first|apply bT|apply bF|apply bN|((first|apply bD|apply bEq|apply bNe)<;>intro hh<;>try(exfalso;omega))|refine wJ ?_|refine nJ ?_)<;>conv=>whnf))
 all_goals (refine congrArg AV.bool ?_;cases hp:l.any (fun t=>decide (t.neg∈l))<;>simp[hp]at hn⊢<;>omega)
theorem p67(l:List Trial)(hl:l.length<=1000000)(hf:∀x∈l,0<=x.ft/\x.ft<=1):FnA Tryz.prog 111 [.isl (l.map Trial.av)] (· = .bool (clash l)):=by
 have e1:=p117 l hl hf
 refine fnA 1 ok111 (by simp) ?_
 (conv=>whnf);(repeat'((first|apply bT|apply bF|apply bN|((first|apply bD|apply bEq|apply bNe)<;>intro hh<;>try(exfalso;omega))|refine e1.lq rfl rfl ?_|refine wJ ?_|refine nJ ?_)<;>conv=>whnf))
 all_goals rfl
structure Ok(w:Shop):Prop where
 s1:w.sps.length<=10
 s2:∀x∈w.sps,(0<=x.k/\x.k<=9)/\(0<=x.s/\x.s<=9)/\0<=x.lo/\x.lo<=x.hi/\x.hi<=999
 m1:w.mks.length<=6
 m2:∀m∈w.mks,m.length<=4/\∀x∈m,(0<=x.k/\x.k<=9)/\x.ss.length<=4/\(∀n∈x.ss,0<=n/\n<=9)/\0<=x.lo/\x.lo<=x.hi/\x.hi<=999
 c:0<=w.cut/\w.cut<=99
 t1:w.tb.length<=30
 t2:∀t∈w.tb,w.isSp t.sp=true/\w.isSl t.mkr t.sl=true/\0<=t.ft/\t.ft<=1
theorem okW_ok{w:Shop}(h:okW w=true):Ok w:=by
 unfold okW at h
 simp only[Bool.and_eq_true,List.all_eq_true,decide_eq_true_eq]at h
 obtain⟨⟨⟨⟨⟨⟨h1,h2⟩,h3⟩,h4⟩,h5⟩,h6⟩,h7⟩:=h
 refine⟨h1,fun x hx=>?_,h3,fun m hm=>?_,h5,h6,fun t ht=>?_⟩
 ·have:=h2 x hx
  simp only[okSp,Bool.and_eq_true,decide_eq_true_eq]at this
  exact⟨this.1.1,this.1.2,okLen_iff.1 this.2⟩
 ·have:=h4 m hm
  simp only[okMk,Bool.and_eq_true,decide_eq_true_eq,List.all_eq_true]at this
  refine⟨this.1,fun x hx=>?_⟩
  have:=this.2 x hx
  simp only[okSl,Bool.and_eq_true,decide_eq_true_eq,List.all_eq_true]at this
  obtain⟨⟨⟨⟨a,b⟩,c⟩,d⟩,e⟩:=this
  exact⟨a,b,c,okLen_iff.1 e⟩
 ·have:=h7 t ht
  simp only[okTr,Bool.and_eq_true,decide_eq_true_eq]at this
  exact⟨this.1.1,this.1.2,this.2⟩
def Shop.chk(w:Shop):Int:=if okW w=true then(if clash w.tb=true then 71 else 0) else 70
theorem p17(w:Shop):FnA Tryz.prog 71 [.agg w.cells] (· = .int .i64 w.chk):=by
 have e1:=p66 w
 unfold Shop.chk
 cases h:okW w with
 |false=>
  rw[h]at e1
  refine fnA 1 ok71 (by simp) ?_
  (conv=>whnf);(repeat'((first|apply bT|apply bF|apply bN|((first|apply bD|apply bEq|apply bNe)<;>intro hh<;>try(exfalso;omega))|refine e1.cq rfl rfl ?_|refine wJ ?_|refine nJ ?_)<;>conv=>whnf))
  all_goals rfl
 |true=>
  rw[h]at e1
  have hk:=okW_ok h
  have e2:=p67 w.tb (by have:=hk.t1;omega) (fun x hx=>(hk.t2 x hx).2.2)
  cases h2:clash w.tb with
  |false=>
   rw[h2]at e2
   refine fnA 1 ok71 (by simp) ?_
   (conv=>whnf);(repeat'((first|apply bT|apply bF|apply bN|((first|apply bD|apply bEq|apply bNe)<;>intro hh<;>try(exfalso;omega))|refine e1.cq rfl rfl ?_|refine e2.cq rfl rfl ?_|refine wJ ?_|refine nJ ?_)<;>conv=>whnf))
   all_goals rfl
  |true=>
   rw[h2]at e2
   refine fnA 1 ok71 (by simp) ?_
   (conv=>whnf);(repeat'((first|apply bT|apply bF|apply bN|((first|apply bD|apply bEq|apply bNe)<;>intro hh<;>try(exfalso;omega))|refine e1.cq rfl rfl ?_|refine e2.cq rfl rfl ?_|refine wJ ?_|refine nJ ?_)<;>conv=>whnf))
   all_goals rfl
theorem FnW.second{P:Program}{f:FuncId}{args:List AV}{i0:Res}{el:TypeId}{sz:Nat}{es:List (List AV)}(h:FnW P f args [i0] (fun r outs=>r = .row 0/\outs=[.row false el sz es])):FnW P f args [i0] (fun r outs=>r = .row 1/\outs=[.dead, .row false el sz es]):=by
 unfold FnW at h⊢
 intro imm T w os vs h1 h2 h3 h4
 refine(h imm T w os vs h1 h2 h3 h4).mono fun e w' hh=>?_
 obtain⟨v,r,outs,imm',T',os',q1,⟨rfl,rfl⟩,q3,q4,q5,q6,q7,q8,q9,q10⟩:=hh
 have hn:∀j,os' (j+1)=none:=fun j=>by
  have:=q4.sg (j+1)
  simpa[ResOk]using this
 have h0:=q4.sg 0
 refine⟨v, .row 1,_,imm',T',fun i=>if i=0 then os' 0 else if i=1 then os' 0 else none,q1,⟨rfl,rfl⟩,?_,⟨fun i=>?_,fun i j b hi hj=>?_⟩,fun i o ho=>?_,q6,q7,q8,q9,q10⟩
 ·simp only[RV]at q3⊢
  obtain⟨o,k1,k2⟩:=q3
  exact⟨o,by simpa using k1,k2⟩
 ·match i with
  |0=>
   simp only[List.getD_cons_zero,ResOk,if_true]at h0⊢
   intro x hx
   obtain⟨b,v',xs,k1,k2,_⟩:=h0
   rw[k1]at hx;cases hx
   rcases k2.2 with⟨rfl,_⟩|⟨_,_,_,rfl,_⟩<;>rfl
  |1=>
   simp only[List.getD_cons_zero,ResOk]at h0
   simp only[List.getD_cons_succ,List.getD_cons_zero,ResOk]
   simpa using h0
  |j+2=>simp[ResOk]
 ·match i,j with
  |0,_=>simp[Res.blk]at hi
  |_,0=>simp[Res.blk]at hj
  |1,1=>rfl
  |i+2,_=>simp[Res.blk]at hi
  |_,j+2=>simp[Res.blk]at hj
 ·match i with
  |0=>simpa using q5 0 o ho
  |j+1=>
   have:=q5 (j+1) o ho
   rw[hn j]at this;cases this
def spAV(p:Int × Int):List AV:=[.int .i64 p.1, .int .i64 p.2]
def addSp(L:List (Int × Int))(p:Int × Int):List (Int × Int):=if p.2<p.1 then L else L++[p]
theorem addSp_len(L:List (Int × Int))(p:Int × Int):(addSp L p).length<=L.length+1:=by
 unfold addSp;split<;>simp
theorem w154(lo hi:Int)(L:List (Int × Int))(hl:L.length<=1000000):FnW Tryz.prog 192 [.row 0, .agg [.int .i64 lo, .int .i64 hi]] [.row false 52 2 (L.map spAV)] (fun r outs=>r = .row 1/\outs=[.dead, .row false 52 2 ((addSp L (lo,hi)).map spAV)]):=by
 have hL:(L.map spAV).length=L.length:=by simp
 by_cases h:hi<lo
 ·refine FnW.second ?_
  have e:addSp L (lo,hi)=L:=by unfold addSp;exact if_pos h
  rw[e]
  refine fnW 3 [] ok192 (by simp) rfl rfl ?_
  (conv=>whnf);(repeat'((first|apply bT|apply bF|apply bN|((first|apply bD|apply bEq|apply bNe)<;>intro hh<;>try(exfalso;omega))|refine wJ ?_|refine nJ ?_)<;>conv=>whnf))
  all_goals exact⟨rfl,rfl⟩
 ·have e:(addSp L (lo,hi)).map spAV=L.map spAV++[[.int .i64 lo, .int .i64 hi]]:=by unfold addSp;rw[if_neg h];simp[spAV]
  rw[e]
  refine fnW 3 [2] ok192 (by simp) rfl rfl ?_
  (conv=>whnf);(repeat'((first|apply bT|apply bF|apply bN|((first|apply bD|apply bEq|apply bNe)<;>intro hh<;>try(exfalso;omega))|(refine apI (by simp[AV.one]) (by simp;omega) ?_)|refine wJ ?_|refine nJ ?_)<;>conv=>whnf))
  all_goals exact⟨rfl,rfl⟩
def inS(by_:Int × Int)(L:List (Int × Int))(p:Int × Int):List (Int × Int):=addSp L (max p.1 by_.1,min p.2 by_.2)
def outS(by_:Int × Int)(L:List (Int × Int))(p:Int × Int):List (Int × Int):=addSp (addSp L (p.1,min p.2 (by_.1-1))) (max p.1 (by_.2+1),p.2)
def splI(by_:Int × Int)(L:List (Int × Int)):List (Int × Int):=L.foldl (inS by_) []
def splO(by_:Int × Int)(L:List (Int × Int)):List (Int × Int):=L.foldl (outS by_) []
theorem splI_succ{by_:Int × Int}{L:List (Int × Int)}{k:Nat}(hk:k<L.length):splI by_ (L.take (k+1))=inS by_ (splI by_ (L.take k)) L[k]:=by
 unfold splI;rw[List.take_succ_eq_append_getElem hk,List.foldl_append];rfl
theorem splO_succ{by_:Int × Int}{L:List (Int × Int)}{k:Nat}(hk:k<L.length):splO by_ (L.take (k+1))=outS by_ (splO by_ (L.take k)) L[k]:=by
 unfold splO;rw[List.take_succ_eq_append_getElem hk,List.foldl_append];rfl
theorem splI_len{by_:Int × Int}:∀ {L:List (Int × Int)} {k:Nat},k<=L.length->(splI by_ (L.take k)).length<=k
 |L,0,_=>by simp[splI]
 |L,k+1,h=>by
  rw[splI_succ h]
  have:=splI_len (by_:=by_) (L:=L) (k:=k) (by omega)
  have:=addSp_len (splI by_ (L.take k)) (max (L[k]).1 by_.1,min (L[k]).2 by_.2)
  unfold inS;omega
theorem splO_len{by_:Int × Int}:∀ {L:List (Int × Int)} {k:Nat},k<=L.length->(splO by_ (L.take k)).length<=2*k
 |L,0,_=>by simp[splO]
 |L,k+1,h=>by
  rw[splO_succ h]
  have:=splO_len (by_:=by_) (L:=L) (k:=k) (by omega)
  have h1:=addSp_len (splO by_ (L.take k)) ((L[k]).1,min (L[k]).2 (by_.1-1))
  have h2:=addSp_len (addSp (splO by_ (L.take k)) ((L[k]).1,min (L[k]).2 (by_.1-1))) (max (L[k]).1 (by_.2+1),(L[k]).2)
  unfold outS;omega
theorem p123(L:List (Int × Int))(b:Int × Int)(hl:L.length<=100000)(hb : -1000000<=b.1/\b.1<=1000000 /\ -1000000<=b.2/\b.2<=1000000):FnA Tryz.prog 184 [.isl (L.map spAV), .agg [.int .i64 b.1, .int .i64 b.2]] (· = .tup [.isl ((splI b L).map spAV), .isl ((splO b L).map spAV)]):=by
 have hL:(L.map spAV).length=L.length:=by simp
 refine fnA 7 ok184 (by simp) ?_
 (conv=>whnf);(repeat'((first|apply bT|apply bF|apply bN|((first|apply bD|apply bEq|apply bNe)<;>intro hh<;>try(exfalso;omega))|refine wJ ?_|refine nJ ?_)<;>conv=>whnf))
 refine loop_i (α :=Nat) (fun k=>[(10, .int .i64 k),(9, .int .i64 ↑(L.map spAV).length),(8, .isl (L.map spAV)),(5, .row 6),(4, .row 5),(3, .own 0 0)]) (fun k=>[.box false [.int .i64 b.1, .int .i64 b.2], .fresh, .fresh, .fresh, .fresh, .row false 52 2 ((splI b (L.take k)).map spAV), .row false 52 2 ((splO b (L.take k)).map spAV)]) (fun k=>k<=L.length) (fun k=>L.length-k) 0 (mA [(5,none),(6,none)]) (by omega) ?_
 intro k hk0
 conv=>whnf
 refine bD (fun h3=>?_) (fun h3=>?_)
 ·have hk:k<L.length:=by omega
  have l1:=splI_len (by_:=b) (L:=L) (k:=k) (by omega)
  have l2:=splO_len (by_:=b) (L:=L) (k:=k) (by omega)
  have l3:=addSp_len (splO b (L.take k)) ((L[k]).1,min (L[k]).2 (b.1-1))
  have e1:=w154 (max (L[k]).1 b.1) (min (L[k]).2 b.2) (splI b (L.take k)) (by omega)
  have e2:=w154 (L[k]).1 (min (L[k]).2 (b.1-1)) (splO b (L.take k)) (by omega)
  have e3:=w154 (max (L[k]).1 (b.2+1)) (L[k]).2 (addSp (splO b (L.take k)) ((L[k]).1,min (L[k]).2 (b.1-1))) (by omega)
  conv=>whnf
  refine iaJ (getM spAV L k hk) ?_
  (conv=>whnf);(repeat'((first|apply bT|apply bF|apply bN|((first|apply bD|apply bEq|apply bNe)<;>intro hh<;>try(exfalso;omega))|refine wJ ?_|refine nJ ?_)<;>conv=>whnf))
  refine e1.callwq [5] rfl rfl ⟨rfl,trivial⟩ rfl rfl rfl rfl (fun r outs hr=>?_)
  obtain⟨hr1,ho⟩:=hr;subst hr1;subst ho;refine⟨⟨rfl,rfl,rfl,rfl⟩,?_⟩
  (conv=>whnf);(repeat'((first|apply bT|apply bF|apply bN|((first|apply bD|apply bEq|apply bNe)<;>intro hh<;>try(exfalso;omega))|refine wJ ?_|refine nJ ?_)<;>conv=>whnf))
  refine e2.callwq [6] rfl rfl ⟨rfl,trivial⟩ rfl rfl rfl rfl (fun r outs hr=>?_)
  obtain⟨hr1,ho⟩:=hr;subst hr1;subst ho;refine⟨⟨rfl,rfl,rfl,rfl⟩,?_⟩
  (conv=>whnf);(repeat'((first|apply bT|apply bF|apply bN|((first|apply bD|apply bEq|apply bNe)<;>intro hh<;>try(exfalso;omega))|refine wJ ?_|refine nJ ?_)<;>conv=>whnf))
  refine e3.callwq [3] rfl rfl ⟨rfl,trivial⟩ rfl rfl rfl rfl (fun r outs hr=>?_)
  obtain⟨hr1,ho⟩:=hr;subst hr1;subst ho;refine⟨⟨rfl,rfl,rfl,rfl⟩,?_⟩
  (conv=>whnf);(repeat'((first|apply bT|apply bF|apply bN|((first|apply bD|apply bEq|apply bNe)<;>intro hh<;>try(exfalso;omega))|refine wJ ?_|refine nJ ?_)<;>conv=>whnf))
  refine⟨k+1,?_,by omega,by omega⟩
  rw[splI_succ hk,splO_succ hk]
  exact(mA [(5,some 2),(6,some 4)])
 ·have:k=L.length:=by omega
  subst this
  rw[List.take_length]
  (conv=>whnf);(repeat'((first|apply bT|apply bF|apply bN|((first|apply bD|apply bEq|apply bNe)<;>intro hh<;>try(exfalso;omega))|refine wJ ?_|refine nJ ?_)<;>conv=>whnf))
  all_goals rfl
theorem p123o(L:List (Int × Int))(b:Int × Int)(hl:L.length<=100000)(hb : -1000000<=b.1/\b.1<=1000000 /\ -1000000<=b.2/\b.2<=1000000):FnO Tryz.prog 184 [.isl (L.map spAV), .agg [.int .i64 b.1, .int .i64 b.2]] (fun r rows=>r = .tup [.row 5, .row 6]/\rows=[(5, .row false 52 2 ((splI b L).map spAV)),(6, .row false 52 2 ((splO b L).map spAV))]):=by
 have hL:(L.map spAV).length=L.length:=by simp
 refine fnO 7 ok184 (by simp) ?_
 (conv=>whnf);(repeat'((first|apply bT|apply bF|apply bN|((first|apply bD|apply bEq|apply bNe)<;>intro hh<;>try(exfalso;omega))|refine wJ ?_|refine nJ ?_)<;>conv=>whnf))
 refine loop_i (α :=Nat) (fun k=>[(10, .int .i64 k),(9, .int .i64 ↑(L.map spAV).length),(8, .isl (L.map spAV)),(5, .row 6),(4, .row 5),(3, .own 0 0)]) (fun k=>[.box false [.int .i64 b.1, .int .i64 b.2], .fresh, .fresh, .fresh, .fresh, .row false 52 2 ((splI b (L.take k)).map spAV), .row false 52 2 ((splO b (L.take k)).map spAV)]) (fun k=>k<=L.length) (fun k=>L.length-k) 0 (mA [(5,none),(6,none)]) (by omega) ?_
 intro k hk0
 conv=>whnf
 refine bD (fun h3=>?_) (fun h3=>?_)
 ·have hk:k<L.length:=by omega
  have l1:=splI_len (by_:=b) (L:=L) (k:=k) (by omega)
  have l2:=splO_len (by_:=b) (L:=L) (k:=k) (by omega)
  have l3:=addSp_len (splO b (L.take k)) ((L[k]).1,min (L[k]).2 (b.1-1))
  have e1:=w154 (max (L[k]).1 b.1) (min (L[k]).2 b.2) (splI b (L.take k)) (by omega)
  have e2:=w154 (L[k]).1 (min (L[k]).2 (b.1-1)) (splO b (L.take k)) (by omega)
  have e3:=w154 (max (L[k]).1 (b.2+1)) (L[k]).2 (addSp (splO b (L.take k)) ((L[k]).1,min (L[k]).2 (b.1-1))) (by omega)
  conv=>whnf
  refine iaJ (getM spAV L k hk) ?_
  (conv=>whnf);(repeat'((first|apply bT|apply bF|apply bN|((first|apply bD|apply bEq|apply bNe)<;>intro hh<;>try(exfalso;omega))|refine wJ ?_|refine nJ ?_)<;>conv=>whnf))
  refine e1.callwq [5] rfl rfl ⟨rfl,trivial⟩ rfl rfl rfl rfl (fun r outs hr=>?_)
  obtain⟨hr1,ho⟩:=hr;subst hr1;subst ho;refine⟨⟨rfl,rfl,rfl,rfl⟩,?_⟩
  (conv=>whnf);(repeat'((first|apply bT|apply bF|apply bN|((first|apply bD|apply bEq|apply bNe)<;>intro hh<;>try(exfalso;omega))|refine wJ ?_|refine nJ ?_)<;>conv=>whnf))
  refine e2.callwq [6] rfl rfl ⟨rfl,trivial⟩ rfl rfl rfl rfl (fun r outs hr=>?_)
  obtain⟨hr1,ho⟩:=hr;subst hr1;subst ho;refine⟨⟨rfl,rfl,rfl,rfl⟩,?_⟩
  (conv=>whnf);(repeat'((first|apply bT|apply bF|apply bN|((first|apply bD|apply bEq|apply bNe)<;>intro hh<;>try(exfalso;omega))|refine wJ ?_|refine nJ ?_)<;>conv=>whnf))
  refine e3.callwq [3] rfl rfl ⟨rfl,trivial⟩ rfl rfl rfl rfl (fun r outs hr=>?_)
  obtain⟨hr1,ho⟩:=hr;subst hr1;subst ho;refine⟨⟨rfl,rfl,rfl,rfl⟩,?_⟩
  (conv=>whnf);(repeat'((first|apply bT|apply bF|apply bN|((first|apply bD|apply bEq|apply bNe)<;>intro hh<;>try(exfalso;omega))|refine wJ ?_|refine nJ ?_)<;>conv=>whnf))
  refine⟨k+1,?_,by omega,by omega⟩
  rw[splI_succ hk,splO_succ hk]
  exact(mA [(5,some 2),(6,some 4)])
 ·have:k=L.length:=by omega
  subst this
  rw[List.take_length]
  (conv=>whnf);(repeat'((first|apply bT|apply bF|apply bN|((first|apply bD|apply bEq|apply bNe)<;>intro hh<;>try(exfalso;omega))|refine wJ ?_|refine nJ ?_)<;>conv=>whnf))
  all_goals exact⟨rfl,rfl⟩
def Shop.sc(w:Shop)(x:AV):List AV:=[.isl (w.sps.map Spare.av), .isl (w.mks.map mkAV), .int .i64 w.cut, .isl (w.tb.map Trial.av),x]
def Shop.sp(w:Shop)(i:Int):Spare:=w.sps.getD i.toNat ⟨0,0,0,0⟩
def Shop.slot(w:Shop)(m k:Int):Slot:=(w.slots m).getD k.toNat ⟨0,[],0,0⟩
theorem isSp_iff{w:Shop}{i:Int}:w.isSp i=true<->0<=i/\i<w.sps.length:=by unfold Shop.isSp;exact decide_eq_true_iff
theorem isSl_iff{w:Shop}{m k:Int}:w.isSl m k=true<->w.isMk m=true/\0<=k/\k<(w.slots m).length:=by
 unfold Shop.isSl;rw[Bool.and_eq_true,decide_eq_true_iff]
theorem spget{w:Shop}{i:Int}(h:w.isSp i=true):(w.sps.map Spare.av).getD i.toNat []=(w.sp i).av:=by
 have h:=isSp_iff.1 h
 have:i.toNat<w.sps.length:=by omega
 rw[getM Spare.av w.sps _ this]
 unfold Shop.sp;simp[List.getD_eq_getElem?_getD,this]
theorem slget{w:Shop}{m k:Int}(h:w.isSl m k=true):((w.slots m).map Slot.av).getD k.toNat []=(w.slot m k).av:=by
 have h:=isSl_iff.1 h
 have:k.toNat<(w.slots m).length:=by omega
 rw[getM Slot.av _ _ this]
 unfold Shop.slot;simp[List.getD_eq_getElem?_getD,this]
theorem Ok.sp{w:Shop}(h:Ok w){i:Int}(hi:w.isSp i=true):(0<=(w.sp i).k/\(w.sp i).k<=9)/\(0<=(w.sp i).s/\(w.sp i).s<=9)/\0<=(w.sp i).lo/\(w.sp i).lo<=(w.sp i).hi/\(w.sp i).hi<=999:=by
 have hi:=isSp_iff.1 hi
 have hl:i.toNat<w.sps.length:=by omega
 have e:w.sp i=w.sps[i.toNat]:=by unfold Shop.sp;simp[List.getD_eq_getElem?_getD,hl]
 rw[e];exact h.s2 _ (List.getElem_mem hl)
theorem slots_mem{w:Shop}{m:Int}(hm:w.isMk m=true):w.slots m∈w.mks:=by
 have hm:=isMk_iff.1 hm
 have hl:m.toNat<w.mks.length:=by omega
 have e:w.slots m=w.mks[m.toNat]:=by unfold Shop.slots;simp[List.getD_eq_getElem?_getD,hl]
 rw[e];exact List.getElem_mem hl
theorem Ok.slots{w:Shop}(h:Ok w){m:Int}(hm:w.isMk m=true):(w.slots m).length<=4:=(h.m2 _ (slots_mem hm)).1
theorem Ok.slot{w:Shop}(h:Ok w){m k:Int}(hm:w.isSl m k=true):(0<=(w.slot m k).k/\(w.slot m k).k<=9)/\(w.slot m k).ss.length<=4/\(∀n∈(w.slot m k).ss,0<=n/\n<=9)/\0<=(w.slot m k).lo/\(w.slot m k).lo<=(w.slot m k).hi/\(w.slot m k).hi<=999:=by
 obtain⟨h1,h2⟩:=isSl_iff.1 hm
 have hl:k.toNat<(w.slots m).length:=by omega
 have e:w.slot m k=(w.slots m)[k.toNat]:=by unfold Shop.slot;simp[List.getD_eq_getElem?_getD,hl]
 rw[e];exact(h.m2 _ (slots_mem h1)).2 _ (List.getElem_mem hl)
def Shop.kin(w:Shop)(i m k:Int):Bool:=decide ((w.sp i).k=(w.slot m k).k)&&decide ((w.sp i).s∈(w.slot m k).ss)
def Shop.room(w:Shop)(i m k:Int):Int × Int:=if w.kin i m k=true then((w.slot m k).lo,(w.slot m k).hi+w.cut) else(0, -1)
theorem p124(w:Shop)(hk:Ok w)(x:AV)(hx:x.one=true)(hx2:∃es,x = .isl es)(i m k:Int)(hi:w.isSp i=true)(hm:w.isSl m k=true):FnA Tryz.prog 185 [.agg (w.sc x), .int .i64 i, .int .i64 m, .int .i64 k] (· = .agg [.int .i64 (w.room i m k).1, .int .i64 (w.room i m k).2]):=by
 obtain⟨es,rfl⟩:=hx2
 have l1:(w.sps.map Spare.av).length=w.sps.length:=by simp
 have l2:(w.mks.map mkAV).length=w.mks.length:=by simp
 have l3:((w.slots m).map Slot.av).length=(w.slots m).length:=by simp
 have h1:=isSp_iff.1 hi
 obtain⟨h2,h3⟩:=isSl_iff.1 hm
 have h2':=isMk_iff.1 h2
 have hs:=hk.slot hm
 have hc:=hk.c
 have g1:=spget hi
 have g2:=mkget h2
 have g3:=slget hm
 have e1:=p89 (w.slot m k).ss (w.sp i).s (by omega)
 unfold Shop.room Shop.kin
 refine fnA 4 ok185 (by simp) ?_
 by_cases ha:(w.sp i).k=(w.slot m k).k
 ·by_cases hb:(w.sp i).s∈(w.slot m k).ss
  ·rw[decide_eq_true hb]at e1
   rw[decide_eq_true ha,decide_eq_true hb]
   (conv=>whnf);(repeat'((first|apply bT|apply bF|apply bN|((first|apply bD|apply bEq|apply bNe)<;>intro hh<;>try(exfalso;omega))|refine iaJ g1 ?_|refine iaJ g2 ?_|refine iaJ g3 ?_|refine e1.cq rfl rfl ?_|refine wJ ?_|refine nJ ?_)<;>conv=>whnf))
   all_goals rfl
  ·rw[decide_eq_false hb]at e1
   rw[decide_eq_true ha,decide_eq_false hb]
   (conv=>whnf);(repeat'((first|apply bT|apply bF|apply bN|((first|apply bD|apply bEq|apply bNe)<;>intro hh<;>try(exfalso;omega))|refine iaJ g1 ?_|refine iaJ g2 ?_|refine iaJ g3 ?_|refine e1.cq rfl rfl ?_|refine wJ ?_|refine nJ ?_)<;>conv=>whnf))
   all_goals rfl
 ·rw[decide_eq_false ha]
  (conv=>whnf);(repeat'((first|apply bT|apply bF|apply bN|((first|apply bD|apply bEq|apply bNe)<;>intro hh<;>try(exfalso;omega))|refine iaJ g1 ?_|refine iaJ g2 ?_|refine iaJ g3 ?_|refine wJ ?_|refine nJ ?_)<;>conv=>whnf))
  all_goals rfl
theorem room_bd{w:Shop}(hk:Ok w){i m k:Int}(hm:w.isSl m k=true) : -1000000<=(w.room i m k).1/\(w.room i m k).1<=1000000 /\ -1000000<=(w.room i m k).2/\(w.room i m k).2<=1000000:=by
 have:=hk.slot hm
 have:=hk.c
 unfold Shop.room
 split
 ·dsimp only;omega
 ·dsimp only;omega
def Shop.stepT(w:Shop)(i:Int)(L:List (Int × Int))(t:Trial):List (Int × Int):=if t.sp=i then(if t.ft=1 then splI (w.room i t.mkr t.sl) L else splO (w.room i t.mkr t.sl) L) else L
def Shop.spans(w:Shop)(i:Int):List (Int × Int):=w.tb.foldl (w.stepT i) [((w.sp i).lo,(w.sp i).hi)]
def Shop.spansK(w:Shop)(i:Int)(k:Nat):List (Int × Int):=(w.tb.take k).foldl (w.stepT i) [((w.sp i).lo,(w.sp i).hi)]
theorem spansK_succ{w:Shop}{i:Int}{k:Nat}(hk:k<w.tb.length):w.spansK i (k+1)=w.stepT i (w.spansK i k) w.tb[k]:=by
 unfold Shop.spansK;rw[List.take_succ_eq_append_getElem hk,List.foldl_append];rfl
def inL(L:List (Int × Int))(n:Int):Prop:=∃p∈L,p.1<=n/\n<=p.2
structure Asc(L:List (Int × Int)):Prop where
 ne:∀p∈L,p.1<=p.2
 pw:L.Pairwise fun p q=>p.2<q.1
def one(p:Int × Int):List (Int × Int):=if p.2<p.1 then [] else [p]
theorem addSp_one(L:List (Int × Int))(p:Int × Int):addSp L p=L++one p:=by
 unfold addSp one;split<;>simp
theorem foldl_app{α β : Type}(g : α -> List β):∀(l:List α) (acc:List β),l.foldl (fun a p=>a++g p) acc=acc++l.flatMap g
 | [],acc=>by simp
 |a::l,acc=>by rw[List.foldl_cons,foldl_app g l];simp
def inP(b:Int × Int)(p:Int × Int):List (Int × Int):=one (max p.1 b.1,min p.2 b.2)
def outP(b:Int × Int)(p:Int × Int):List (Int × Int):=one (p.1,min p.2 (b.1-1))++one (max p.1 (b.2+1),p.2)
theorem splI_flat(b:Int × Int)(L:List (Int × Int)):splI b L=L.flatMap (inP b):=by
 have:inS b=fun a p=>a++inP b p:=by funext a p;exact addSp_one _ _
 unfold splI;rw[this,foldl_app];simp
theorem splO_flat(b:Int × Int)(L:List (Int × Int)):splO b L=L.flatMap (outP b):=by
 have:outS b=fun a p=>a++outP b p:=by
  funext a p
  show addSp (addSp a _) _=_
  rw[addSp_one,addSp_one,List.append_assoc];rfl
 unfold splO;rw[this,foldl_app];simp
theorem mem_one{p q:Int × Int}:q∈one p<->q=p/\p.1<=p.2:=by
 unfold one;split<;>simp<;>omega
theorem in_splI{b:Int × Int}{L:List (Int × Int)}{n:Int}:inL (splI b L) n<->inL L n/\b.1<=n/\n<=b.2:=by
 rw[splI_flat]
 unfold inL
 simp only[List.mem_flatMap,inP,mem_one]
 constructor
 ·rintro⟨q,⟨p,hp,rfl,h1⟩,h2⟩
  exact⟨⟨p,hp,by omega⟩,by omega⟩
 ·rintro⟨⟨p,hp,h1⟩,h2⟩
  exact⟨_,⟨p,hp,rfl,by omega⟩,by dsimp only;omega⟩
theorem in_splO{b:Int × Int}{L:List (Int × Int)}{n:Int}:inL (splO b L) n<->inL L n/\¬(b.1<=n/\n<=b.2):=by
 rw[splO_flat]
 unfold inL
 simp only[List.mem_flatMap,outP,List.mem_append,mem_one]
 constructor
 ·rintro⟨q,⟨p,hp,⟨rfl,h1⟩|⟨rfl,h1⟩⟩,h2⟩
  ·exact⟨⟨p,hp,by omega⟩,by omega⟩
  ·exact⟨⟨p,hp,by omega⟩,by omega⟩
 ·rintro⟨⟨p,hp,h1⟩,h2⟩
  by_cases h:n<b.1
  ·exact⟨_,⟨p,hp, .inl ⟨rfl,by omega⟩⟩,by dsimp only;omega⟩
  ·exact⟨_,⟨p,hp, .inr ⟨rfl,by omega⟩⟩,by dsimp only;omega⟩
theorem asc_flat{L:List (Int × Int)}(h:Asc L)(g:Int × Int->List (Int × Int))(h1:∀p,Asc (g p))(h2:∀p,∀q∈g p,p.1<=q.1/\q.2<=p.2):Asc (L.flatMap g):=by
 refine⟨fun q hq=>?_,?_⟩
 ·obtain⟨p,_,hp⟩:=List.mem_flatMap.1 hq
  exact(h1 p).ne q hp
 ·rw[List.pairwise_flatMap]
  refine⟨fun p _=>(h1 p).pw,h.pw.imp fun {p q} hpq x hx y hy=>?_⟩
  have:=h2 p x hx
  have:=h2 q y hy
  omega
theorem asc_one(p:Int × Int):Asc (one p):=by
 unfold one;split
 ·exact⟨by simp,List.Pairwise.nil⟩
 ·exact⟨by simp;omega,by simp⟩
theorem asc_splI{b:Int × Int}{L:List (Int × Int)}(h:Asc L):Asc (splI b L):=by
 rw[splI_flat]
 refine asc_flat h _ (fun p=>asc_one _) fun p q hq=>?_
 obtain⟨rfl,_⟩:=mem_one.1 hq
 dsimp only;omega
theorem asc_splO{b:Int × Int}{L:List (Int × Int)}(hb:b.1<=b.2+1)(h:Asc L):Asc (splO b L):=by
 rw[splO_flat]
 refine asc_flat h _ (fun p=>⟨fun q hq=>?_,?_⟩) fun p q hq=>?_
 ·rcases List.mem_append.1 hq with hq|hq
  ·exact(asc_one _).ne q hq
  ·exact(asc_one _).ne q hq
 ·unfold outP
  rw[List.pairwise_append]
  refine⟨(asc_one _).pw,(asc_one _).pw,fun x hx y hy=>?_⟩
  obtain⟨rfl,_⟩:=mem_one.1 hx
  obtain⟨rfl,_⟩:=mem_one.1 hy
  dsimp only;omega
 ·rcases List.mem_append.1 hq with hq|hq<;>obtain⟨rfl,_⟩:=mem_one.1 hq<;>dsimp only<;>omega
theorem asc_len:∀ {L:List (Int × Int)} {a b:Int},Asc L->(∀p∈L,a<=p.1/\p.2<=b)->a<=b+1->(L.length:Int)<=b+1-a
 | [],a,b,_,_,h=>by simp;omega
 |p::L,a,b,h,h2,h3=>by
  obtain⟨k1,k2⟩:=List.pairwise_cons.1 h.pw
  have q1:=h.ne p (by simp)
  have q2:=h2 p (by simp)
  have:=asc_len (L:=L) (a:=p.2+1) (b:=b) ⟨fun q hq=>h.ne q (by simp[hq]),k2⟩ (fun q hq=>⟨by have:=k1 q hq;omega,(h2 q (by simp[hq])).2⟩) (by omega)
  rw[List.length_cons];omega
theorem asc_head{L:List (Int × Int)}(h:Asc L)(h0:L≠[]):inL L (L.getD 0 (0,0)).1/\∀n,inL L n->(L.getD 0 (0,0)).1<=n:=by
 cases L with
 |nil=>exact absurd rfl h0
 |cons p L=>
  refine⟨⟨p,by simp,by simp;exact h.ne p (by simp)⟩,fun n hn=>?_⟩
  obtain⟨q,hq,h1⟩:=hn
  rcases List.mem_cons.1 hq with rfl|hq
  ·simpa using h1.1
  ·have:=(List.pairwise_cons.1 h.pw).1 q hq
   have:=h.ne p (by simp)
   simp;omega
theorem inL_nil{n:Int}:¬inL [] n:=by rintro⟨p,hp,_⟩;cases hp
theorem asc_nil{L:List (Int × Int)}(h:Asc L):L=[]<->∀n,¬inL L n:=by
 constructor
 ·rintro rfl n;exact inL_nil
 ·intro h2
  cases L with
  |nil=>rfl
  |cons p L=>exact absurd ⟨p,by simp,by omega,h.ne p (by simp)⟩ (h2 p.1)
def Shop.fit(w:Shop)(i n m k:Int):Bool:=w.kin i m k&&decide ((w.slot m k).lo<=n/\n<=(w.slot m k).hi+w.cut)
theorem fit_room{w:Shop}{i n m k:Int}:w.fit i n m k=true<->(w.room i m k).1<=n/\n<=(w.room i m k).2:=by
 unfold Shop.fit Shop.room
 cases w.kin i m k with
 |true=>simp
 |false=>simp;omega
theorem room_ok{w:Shop}(hk:Ok w){i m k:Int}(hm:w.isSl m k=true):(w.room i m k).1<=(w.room i m k).2+1:=by
 have:=hk.slot hm
 have:=hk.c
 unfold Shop.room
 split
 ·dsimp only;omega
 ·dsimp only;omega
def okT(w:Shop)(i n:Int)(t:Trial):Bool:=decide (t.sp=i->w.fit i n t.mkr t.sl=decide (t.ft=1))
def Shop.can(w:Shop)(i n:Int):Bool:=decide ((w.sp i).lo<=n/\n<=(w.sp i).hi)&&w.tb.all (okT w i n)
theorem spansK_ok{w:Shop}(hk:Ok w){i:Int}(hi:w.isSp i=true):∀k,k<=w.tb.length->Asc (w.spansK i k)/\∀n,inL (w.spansK i k) n<->((w.sp i).lo<=n/\n<=(w.sp i).hi)/\∀t∈w.tb.take k,okT w i n t=true
 |0,_=>by
  have:=hk.sp hi
  refine⟨⟨by simp[Shop.spansK];omega,by simp[Shop.spansK]⟩,fun n=>by simp[Shop.spansK,inL]⟩
 |k+1,h=>by
  obtain⟨h1,h2⟩:=spansK_ok hk hi k (by omega)
  have ht:=hk.t2 w.tb[k] (List.getElem_mem (by omega))
  rw[spansK_succ (by omega)]
  have hall:∀n,(∀t∈w.tb.take (k+1),okT w i n t=true)<->(∀t∈w.tb.take k,okT w i n t=true)/\okT w i n w.tb[k]=true:=fun n=>by
   rw[List.take_succ_eq_append_getElem (by omega)]
   simp only[List.mem_append,List.mem_singleton]
   exact⟨fun h=>⟨fun t ht=>h t (.inl ht),h _ (.inr rfl)⟩,fun h t ht=>ht.elim (h.1 t) fun e=>e ▸ h.2⟩
  unfold Shop.stepT
  split
  ·rename_i e1
   split
   ·rename_i e2
    refine⟨asc_splI h1,fun n=>?_⟩
    rw[in_splI,h2,hall,<- fit_room]
    have:okT w i n w.tb[k]=true<->w.fit i n w.tb[k].mkr w.tb[k].sl=true:=by
     unfold okT;simp[e1,e2]
    rw[this,and_assoc]
   ·rename_i e2
    refine⟨asc_splO (room_ok hk ht.2.1) h1,fun n=>?_⟩
    rw[in_splO,h2,hall,<- fit_room]
    have:okT w i n w.tb[k]=true<->¬w.fit i n w.tb[k].mkr w.tb[k].sl=true:=by
     unfold okT;simp[e1,e2]
    rw[this,and_assoc]
  ·rename_i e1
   refine⟨h1,fun n=>?_⟩
   have:okT w i n w.tb[k]=true:=by unfold okT;simp[e1]
   rw[h2,hall];simp[this]
theorem spans_ok{w:Shop}(hk:Ok w){i:Int}(hi:w.isSp i=true):Asc (w.spans i)/\∀n,inL (w.spans i) n<->w.can i n=true:=by
 have:=spansK_ok hk hi w.tb.length (Nat.le_refl _)
 unfold Shop.spansK at this
 rw[List.take_length]at this
 refine⟨this.1,fun n=>?_⟩
 have h2:=this.2 n
 unfold Shop.can
 rw[Bool.and_eq_true,decide_eq_true_iff,List.all_eq_true]
 exact h2
theorem spansK_len{w:Shop}(hk:Ok w){i:Int}(hi:w.isSp i=true){k:Nat}(h:k<=w.tb.length):(w.spansK i k).length<=1000:=by
 obtain⟨h1,h2⟩:=spansK_ok hk hi k h
 have hs:=hk.sp hi
 have:=asc_len h1 (a:=0) (b:=999) (fun p hp=>by
  have a:=(h2 p.1).1 ⟨p,hp,by omega,h1.ne p hp⟩
  have b:=(h2 p.2).1 ⟨p,hp,h1.ne p hp,by omega⟩
  omega) (by omega)
 omega
theorem can_bd{w:Shop}{i n:Int}(h:w.can i n=true):(w.sp i).lo<=n/\n<=(w.sp i).hi:=by
 unfold Shop.can at h;rw[Bool.and_eq_true]at h;exact of_decide_eq_true h.1
theorem sp_flat:∀l:List (Int × Int),AV.flatL ((l.map spAV).flatten)=true
 | []=>rfl
 |p::l=>by simp only[List.map_cons,List.flatten_cons,spAV,List.cons_append,List.nil_append,AV.flatL,AV.flat,Bool.true_and];exact sp_flat l
theorem p122(w:Shop)(hk:Ok w)(es:List (List AV))(i:Int)(hi:w.isSp i=true):FnO Tryz.prog 177 [.agg (w.sc (.isl es)), .int .i64 i] (fun r rows=>r = .row 6/\rows=[(6, .row false 52 2 ((w.spans i).map spAV))]):=by
 have l1:(w.sps.map Spare.av).length=w.sps.length:=by simp
 have l4:(w.tb.map Trial.av).length=w.tb.length:=by simp
 have h1:=isSp_iff.1 hi
 have ht1:=hk.t1
 have g1:=spget hi
 refine fnO 7 ok177 (by simp) ?_
 (conv=>whnf);(repeat'((first|apply bT|apply bF|apply bN|((first|apply bD|apply bEq|apply bNe)<;>intro hh<;>try(exfalso;omega))|refine iaJ g1 ?_|refine wJ ?_|refine nJ ?_)<;>conv=>whnf))
 refine loop_i (α :=Nat) (fun k=>[(22, .int .i64 k),(21, .int .i64 ↑(w.tb.map Trial.av).length),(20, .isl (w.tb.map Trial.av)),(5, .row 6),(2, .own 0 0),(1, .int .i64 i)]) (fun k=>[.box false (w.sc (.isl es)), .fresh, .fresh, .fresh, .fresh, .fresh, .row false 52 2 ((w.spansK i k).map spAV)]) (fun k=>k<=w.tb.length) (fun k=>w.tb.length-k) 0 (mA [(6,some 1)]) (by omega) ?_
 intro k hk0
 conv=>whnf
 refine bD (fun h3=>?_) (fun h3=>?_)
 ·have hkl:k<w.tb.length:=by omega
  have ht:=hk.t2 w.tb[k] (List.getElem_mem hkl)
  have g2:=getM Trial.av w.tb k hkl
  have hlen:=spansK_len hk hi (k:=k) (by omega)
  have hbd:=room_bd hk (i:=i) ht.2.1
  by_cases hs:w.tb[k].sp=i
  ·have e1:=p124 w hk (.isl es) rfl ⟨_,rfl⟩ i w.tb[k].mkr w.tb[k].sl hi ht.2.1
   have e2:=p123o (w.spansK i k) (w.room i w.tb[k].mkr w.tb[k].sl) (by omega) hbd
   (conv=>whnf);(repeat'((first|apply bT|apply bF|apply bN|((first|apply bD|apply bEq|apply bNe)<;>intro hh<;>try(exfalso;omega))|refine iaJ g2 ?_|refine e1.cq rfl rfl ?_|refine wJ ?_|refine nJ ?_)<;>conv=>whnf))
   refine e2.calllq rfl rfl (fun r rows hr=>?_)
   obtain⟨hr1,hr2⟩:=hr;subst hr1;subst hr2;refine⟨rfl,?_,rfl,?_⟩
   ·simp[flatRB,sp_flat]
   by_cases hf:w.tb[k].ft=1
   ·(conv=>whnf);(repeat'((first|apply bT|apply bF|apply bN|((first|apply bD|apply bEq|apply bNe)<;>intro hh<;>try(exfalso;omega))|refine wJ ?_|refine nJ ?_)<;>conv=>whnf))
    refine⟨k+1,?_,by omega,by omega⟩
    rw[spansK_succ hkl]
    unfold Shop.stepT
    rw[if_pos hs,if_pos hf]
    exact(mA [(6,some 3)])
   ·(conv=>whnf);(repeat'((first|apply bT|apply bF|apply bN|((first|apply bD|apply bEq|apply bNe)<;>intro hh<;>try(exfalso;omega))|refine wJ ?_|refine nJ ?_)<;>conv=>whnf))
    refine⟨k+1,?_,by omega,by omega⟩
    rw[spansK_succ hkl]
    unfold Shop.stepT
    rw[if_pos hs,if_neg hf]
    exact(mA [(6,some 4)])
  ·(conv=>whnf);(repeat'((first|apply bT|apply bF|apply bN|((first|apply bD|apply bEq|apply bNe)<;>intro hh<;>try(exfalso;omega))|refine iaJ g2 ?_|refine wJ ?_|refine nJ ?_)<;>conv=>whnf))
   refine⟨k+1,?_,by omega,by omega⟩
   rw[spansK_succ hkl]
   unfold Shop.stepT
   rw[if_neg hs]
   exact mI
 ·have:k=w.tb.length:=by omega
  subst this
  have e:w.spansK i w.tb.length=w.spans i:=by unfold Shop.spansK Shop.spans;rw[List.take_length]
  rw[e]
  (conv=>whnf);(repeat'((first|apply bT|apply bF|apply bN|((first|apply bD|apply bEq|apply bNe)<;>intro hh<;>try(exfalso;omega))|refine wJ ?_|refine nJ ?_)<;>conv=>whnf))
  all_goals exact⟨rfl,rfl⟩
theorem chk_ok{w:Shop}(h:w.chk=0):Ok w:=by
 unfold Shop.chk at h
 split at h
 ·rename_i h1;exact okW_ok h1
 ·cases h
def lenAV(L:List (Int × Int)):List AV:=[.isl (L.map spAV)]
def Shop.lensK(w:Shop)(k:Nat):List (List (Int × Int)):=(List.range k).map fun j=>w.spans (j:Nat)
def Shop.lens(w:Shop):List (List (Int × Int)):=w.lensK w.sps.length
def Shop.noT(w:Shop):Bool:=w.lens.any (·.isEmpty)
def Shop.eO(w:Shop)(v:Bool):Int:=if w.chk≠0 then w.chk else if v=true then(if w.noT=true then 3 else 0) else 1
def zSc:List AV:=[.isl [], .isl [], .int .i64 0, .isl [], .isl []]
def Shop.scL(w:Shop):List AV:=w.sc (.isl (w.lens.map lenAV))
theorem eO_0{w:Shop}{v:Bool}(h:w.eO v=0):w.chk=0/\v=true/\w.noT=false:=by
 unfold Shop.eO at h
 split at h
 ·rename_i h1;exact absurd h h1
 ·rename_i h1
  split at h
  ·rename_i h2
   split at h
   ·cases h
   ·rename_i h3;exact⟨by omega,h2,by simpa using h3⟩
  ·cases h
theorem p69(w:Shop)(v:Bool)(h:w.eO v=0):FnA Tryz.prog 159 [.agg w.cells, .bool v] (· = .tup [.agg w.scL, .int .i64 0]):=by
 obtain⟨hc,rfl,hn⟩:=eO_0 h
 have hk:=chk_ok hc
 have hs1:=hk.s1
 have l1:(w.sps.map Spare.av).length=w.sps.length:=by simp
 have e1:=p17 w
 rw[hc]at e1
 refine fnA 8 ok159 (by simp) ?_
 (conv=>whnf);(repeat'((first|apply bT|apply bF|apply bN|((first|apply bD|apply bEq|apply bNe)<;>intro hh<;>try(exfalso;omega))|refine e1.cq rfl rfl ?_|refine wJ ?_|refine nJ ?_)<;>conv=>whnf))
 refine loop_i (α :=Nat) (fun k=>[(24, .int .i64 k),(23, .int .i64 ↑(w.sps.map Spare.av).length),(7, .own 2 0),(4, .own 1 0),(2, .own 0 0)]) (fun k=>[.box false w.cells, .box false [.nils, .nils, .int .i64 0, .nils, .nils], .box false (w.sc (.row 6)), .fresh, .fresh, .fresh, .row false 210 1 ((w.lensK k).map lenAV), .fresh]) (fun k=>k<=w.sps.length) (fun k=>w.sps.length-k) 0 (mA [(6,none)]) (by omega) ?_
 intro k hk0
 conv=>whnf
 refine bD (fun h3=>?_) (fun h3=>?_)
 ·have hkl:k<w.sps.length:=by omega
  have hi:w.isSp (k:Nat)=true:=isSp_iff.2 (by omega)
  have e2:=p122 w hk ((w.lensK k).map lenAV) k hi
  have hL:(w.lensK k).length=k:=by simp[Shop.lensK]
  have hL2:((w.lensK k).map lenAV).length=k:=by simp[hL]
  have hsuc:w.lensK (k+1)=w.lensK k++[w.spans (k:Nat)]:=by unfold Shop.lensK;rw[List.range_succ,List.map_append];rfl
  have hne:(w.spans (k:Nat)).isEmpty=false:=by
   have:(w.spans (k:Nat))∈w.lens:=by
    unfold Shop.lens Shop.lensK;exact List.mem_map.2 ⟨k,List.mem_range.2 hkl,rfl⟩
   rw[Bool.eq_false_iff];intro h4
   unfold Shop.noT at hn
   rw[List.any_eq_true.2 ⟨_,this,h4⟩]at hn;cases hn
  have hne2:¬((w.spans (k:Nat)).map spAV).length=0:=by
   cases hh:w.spans (k:Nat)with
   |nil=>rw[hh]at hne;cases hne
   |cons a l=>simp
  (conv=>whnf);(repeat'((first|apply bT|apply bF|apply bN|((first|apply bD|apply bEq|apply bNe)<;>intro hh<;>try(exfalso;omega))|refine wJ ?_|refine nJ ?_)<;>conv=>whnf))
  refine e2.calllq rfl rfl (fun r rows hr=>?_)
  obtain⟨hr1,hr2⟩:=hr;subst hr1;subst hr2;refine⟨rfl,?_,rfl,?_⟩
  ·simp[flatRB,sp_flat]
  (conv=>whnf);(repeat'((first|apply bT|apply bF|apply bN|((first|apply bD|apply bEq|apply bNe)<;>intro hh<;>try(exfalso;omega))|(refine apI (by simp[AV.one]) (by simp;omega) ?_)|refine wJ ?_|refine nJ ?_)<;>conv=>whnf))
  refine⟨k+1,?_,by omega,by omega⟩
  rw[hsuc,List.map_append]
  exact(mA [(6,some 5)])
 ·have:k=w.sps.length:=by omega
  subst this
  have e:w.lensK w.sps.length=w.lens:=rfl
  rw[e]
  (conv=>whnf);(repeat'((first|apply bT|apply bF|apply bN|((first|apply bD|apply bEq|apply bNe)<;>intro hh<;>try(exfalso;omega))|refine wJ ?_|refine nJ ?_)<;>conv=>whnf))
  all_goals rfl
theorem p69e(w:Shop)(v:Bool)(h:w.eO v≠0):FnA Tryz.prog 159 [.agg w.cells, .bool v] (· = .tup [.agg zSc, .int .i64 (w.eO v)]):=by
 have e1:=p17 w
 by_cases hc:w.chk=0
 case neg=>
  have e:w.eO v=w.chk:=by unfold Shop.eO;rw[if_pos hc]
  rw[e]
  refine fnA 8 ok159 (by simp) ?_
  (conv=>whnf);(repeat'((first|apply bT|apply bF|apply bN|((first|apply bD|apply bEq|apply bNe)<;>intro hh<;>try(exfalso;omega))|refine e1.cq rfl rfl ?_|refine wJ ?_|refine nJ ?_)<;>conv=>whnf))
  all_goals rfl
 rw[hc]at e1
 cases v with
 |false=>
  have e:w.eO false=1:=by unfold Shop.eO;rw[if_neg (by simpa using hc)];rfl
  rw[e]
  refine fnA 8 ok159 (by simp) ?_
  (conv=>whnf);(repeat'((first|apply bT|apply bF|apply bN|((first|apply bD|apply bEq|apply bNe)<;>intro hh<;>try(exfalso;omega))|refine e1.cq rfl rfl ?_|refine wJ ?_|refine nJ ?_)<;>conv=>whnf))
  all_goals rfl
 |true=>
 have hn:w.noT=true:=by
  cases hn:w.noT with
  |true=>rfl
  |false=>exact absurd (by unfold Shop.eO;rw[if_neg (by simpa using hc),hn];rfl) h
 have he:w.eO true=3:=by unfold Shop.eO;rw[if_neg (by simpa using hc),hn];rfl
 rw[he]
 have hk:=chk_ok hc
 have hs1:=hk.s1
 have l1:(w.sps.map Spare.av).length=w.sps.length:=by simp
 refine fnA 8 ok159 (by simp) ?_
 (conv=>whnf);(repeat'((first|apply bT|apply bF|apply bN|((first|apply bD|apply bEq|apply bNe)<;>intro hh<;>try(exfalso;omega))|refine e1.cq rfl rfl ?_|refine wJ ?_|refine nJ ?_)<;>conv=>whnf))
 refine loop_i (α :=Nat) (fun k=>[(24, .int .i64 k),(23, .int .i64 ↑(w.sps.map Spare.av).length),(7, .own 2 0),(4, .own 1 0),(2, .own 0 0)]) (fun k=>[.box false w.cells, .box false [.nils, .nils, .int .i64 0, .nils, .nils], .box false (w.sc (.row 6)), .fresh, .fresh, .fresh, .row false 210 1 ((w.lensK k).map lenAV), .fresh]) (fun k=>k<=w.sps.length/\∀j,j<k->(w.spans (j:Nat)).isEmpty=false) (fun k=>w.sps.length-k) 0 (mA [(6,none)]) ⟨by omega,fun j hj=>by omega⟩ ?_
 rintro k ⟨hk0,hall⟩
 conv=>whnf
 refine bD (fun h3=>?_) (fun h3=>?_)
 ·have hkl:k<w.sps.length:=by omega
  have hi:w.isSp (k:Nat)=true:=isSp_iff.2 (by omega)
  have e2:=p122 w hk ((w.lensK k).map lenAV) k hi
  have hL:(w.lensK k).length=k:=by simp[Shop.lensK]
  have hL2:((w.lensK k).map lenAV).length=k:=by simp[hL]
  have hsuc:w.lensK (k+1)=w.lensK k++[w.spans (k:Nat)]:=by unfold Shop.lensK;rw[List.range_succ,List.map_append];rfl
  cases hne:(w.spans (k:Nat)).isEmpty with
  |true=>
   have hne2:((w.spans (k:Nat)).map spAV).length=0:=by
    rw[List.isEmpty_iff.1 hne];rfl
   (conv=>whnf);(repeat'((first|apply bT|apply bF|apply bN|((first|apply bD|apply bEq|apply bNe)<;>intro hh<;>try(exfalso;omega))|refine wJ ?_|refine nJ ?_)<;>conv=>whnf))
   refine e2.calllq rfl rfl (fun r rows hr=>?_)
   obtain⟨hr1,hr2⟩:=hr;subst hr1;subst hr2;refine⟨rfl,?_,rfl,?_⟩
   ·simp[flatRB,sp_flat]
   (conv=>whnf);(repeat'((first|apply bT|apply bF|apply bN|((first|apply bD|apply bEq|apply bNe)<;>intro hh<;>try(exfalso;omega))|refine wJ ?_|refine nJ ?_)<;>conv=>whnf))
   all_goals rfl
  |false=>
   have hne2:¬((w.spans (k:Nat)).map spAV).length=0:=by
    cases hh:w.spans (k:Nat)with
    |nil=>rw[hh]at hne;cases hne
    |cons a l=>simp
   (conv=>whnf);(repeat'((first|apply bT|apply bF|apply bN|((first|apply bD|apply bEq|apply bNe)<;>intro hh<;>try(exfalso;omega))|refine wJ ?_|refine nJ ?_)<;>conv=>whnf))
   refine e2.calllq rfl rfl (fun r rows hr=>?_)
   obtain⟨hr1,hr2⟩:=hr;subst hr1;subst hr2;refine⟨rfl,?_,rfl,?_⟩
   ·simp[flatRB,sp_flat]
   (conv=>whnf);(repeat'((first|apply bT|apply bF|apply bN|((first|apply bD|apply bEq|apply bNe)<;>intro hh<;>try(exfalso;omega))|(refine apI (by simp[AV.one]) (by simp;omega) ?_)|refine wJ ?_|refine nJ ?_)<;>conv=>whnf))
   refine⟨k+1,?_,⟨by omega,fun j hj=>?_⟩,by omega⟩
   ·rw[hsuc,List.map_append]
    exact(mA [(6,some 5)])
   ·by_cases e:j=k
    ·rw[e];exact hne
    ·exact hall j (by omega)
 ·exfalso
  unfold Shop.noT Shop.lens Shop.lensK at hn
  obtain⟨x,hx,h5⟩:=List.any_eq_true.1 hn
  obtain⟨j,hj,rfl⟩:=List.mem_map.1 hx
  have:=hall j (by have:=List.mem_range.1 hj;omega)
  rw[this]at h5;cases h5
def Shop.fitsV(w:Shop)(i m k:Int):Int:=if (splI (w.room i m k) (w.spans i)).isEmpty=true then 2 else if (splO (w.room i m k) (w.spans i)).isEmpty=true then 1 else 3
theorem lensget{w:Shop}{i:Int}(hi:w.isSp i=true):(w.lens.map lenAV).getD i.toNat []=lenAV (w.spans i):=by
 have h:=isSp_iff.1 hi
 have hl:i.toNat<w.lens.length:=by simp[Shop.lens,Shop.lensK];omega
 rw[getM lenAV w.lens _ hl]
 congr 1
 simp only[Shop.lens,Shop.lensK,List.getElem_map,List.getElem_range]
 congr 1;omega
theorem spans_len{w:Shop}(hk:Ok w){i:Int}(hi:w.isSp i=true):(w.spans i).length<=1000:=by
 have:=spansK_len hk hi (k:=w.tb.length) (Nat.le_refl _)
 unfold Shop.spansK at this
 rwa [List.take_length]at this
theorem isEmpty_len{l:List (Int × Int)}:((l.map spAV).length:Int)=0<->l.isEmpty=true:=by
 cases l<;>simp;omega
theorem p74(w:Shop)(hk:Ok w)(i m k:Int)(hi:w.isSp i=true)(hm:w.isSl m k=true):FnA Tryz.prog 163 [.agg w.scL, .int .i64 i, .int .i64 m, .int .i64 k] (· = .int .i64 (w.fitsV i m k)):=by
 have h1:=isSp_iff.1 hi
 have hs1:=hk.s1
 have l1:(w.lens.map lenAV).length=w.sps.length:=by simp[Shop.lens,Shop.lensK]
 have hlen:=spans_len hk hi
 have e1:=p124 w hk (.isl (w.lens.map lenAV)) rfl ⟨_,rfl⟩ i m k hi hm
 have e2:=p123 (w.spans i) (w.room i m k) (by omega) (room_bd hk hm)
 have g1:=lensget hi
 unfold Shop.fitsV
 refine fnA 3 ok163 (by simp) ?_
 cases ha:(splI (w.room i m k) (w.spans i)).isEmpty with
 |true=>
  have ha':=isEmpty_len.2 ha
  (conv=>whnf);(repeat'((first|apply bT|apply bF|apply bN|((first|apply bD|apply bEq|apply bNe)<;>intro hh<;>try(exfalso;omega))|refine iaJ g1 ?_|refine e1.lq rfl rfl ?_|refine e2.zq rfl rfl ?_|refine wJ ?_|refine nJ ?_)<;>conv=>whnf))
  all_goals rfl
 |false=>
  have ha':¬((splI (w.room i m k) (w.spans i)).map spAV).length=(0:Int):=fun e=>by rw[isEmpty_len.1 e]at ha;cases ha
  cases hb:(splO (w.room i m k) (w.spans i)).isEmpty with
  |true=>
   have hb':=isEmpty_len.2 hb
   (conv=>whnf);(repeat'((first|apply bT|apply bF|apply bN|((first|apply bD|apply bEq|apply bNe)<;>intro hh<;>try(exfalso;omega))|refine iaJ g1 ?_|refine e1.lq rfl rfl ?_|refine e2.zq rfl rfl ?_|refine wJ ?_|refine nJ ?_)<;>conv=>whnf))
   all_goals rfl
  |false=>
   have hb':¬((splO (w.room i m k) (w.spans i)).map spAV).length=(0:Int):=fun e=>by rw[isEmpty_len.1 e]at hb;cases hb
   (conv=>whnf);(repeat'((first|apply bT|apply bF|apply bN|((first|apply bD|apply bEq|apply bNe)<;>intro hh<;>try(exfalso;omega))|refine iaJ g1 ?_|refine e1.lq rfl rfl ?_|refine e2.zq rfl rfl ?_|refine wJ ?_|refine nJ ?_)<;>conv=>whnf))
   all_goals rfl
theorem fits_1{w:Shop}(hk:Ok w){i m k:Int}(hi:w.isSp i=true)(hm:w.isSl m k=true)(h0:∃n,w.can i n=true):w.fitsV i m k=1<->∀n,w.can i n=true->w.fit i n m k=true:=by
 obtain⟨ha,hin⟩:=spans_ok hk hi
 have hI:=asc_nil (asc_splI (b:=w.room i m k) ha)
 have hO:=asc_nil (asc_splO (b:=w.room i m k) (room_ok hk hm) ha)
 simp only[in_splI,in_splO,hin,<- fit_room]at hI hO
 unfold Shop.fitsV
 simp only[List.isEmpty_iff]
 constructor
 ·intro h n hn
  split at h
  ·cases h
  ·split at h
   ·rename_i h2
    exact Classical.byContradiction fun h3=>(hO.1 h2) n ⟨hn,h3⟩
   ·cases h
 ·intro h
  obtain⟨n,hn⟩:=h0
  rw[if_neg fun e=>hI.1 e n ⟨hn,h n hn⟩,if_pos (hO.2 fun n hh=>hh.2 (h n hh.1))]
theorem fits_2{w:Shop}(hk:Ok w){i m k:Int}(hi:w.isSp i=true):w.fitsV i m k=2<->∀n,w.can i n=true->w.fit i n m k=false:=by
 obtain⟨ha,hin⟩:=spans_ok hk hi
 have hI:=asc_nil (asc_splI (b:=w.room i m k) ha)
 simp only[in_splI,hin,<- fit_room]at hI
 unfold Shop.fitsV
 simp only[List.isEmpty_iff]
 constructor
 ·intro h n hn
  split at h
  ·rename_i h2
   exact Bool.eq_false_iff.2 fun h3=>hI.1 h2 n ⟨hn,h3⟩
  ·split at h<;>cases h
 ·intro h
  rw[if_pos (hI.2 fun n hh=>by rw[h n hh.1]at hh;cases hh.2)]
theorem fits_3(w:Shop)(i m k:Int):w.fitsV i m k=1\/w.fitsV i m k=2\/w.fitsV i m k=3:=by
 unfold Shop.fitsV;split
 ·simp
 ·split<;>simp
theorem can_ex{w:Shop}{v:Bool}(h:w.eO v=0){i:Int}(hi:w.isSp i=true):∃n,w.can i n=true:=by
 obtain⟨hc,_,hn⟩:=eO_0 h
 have hk:=chk_ok hc
 obtain⟨ha,hin⟩:=spans_ok hk hi
 have hi':=isSp_iff.1 hi
 have hm:w.spans i∈w.lens:=by
  unfold Shop.lens Shop.lensK
  exact List.mem_map.2 ⟨i.toNat,List.mem_range.2 (by omega),by congr 1;omega⟩
 have hne:(w.spans i).isEmpty=false:=by
  rw[Bool.eq_false_iff];intro h4
  unfold Shop.noT at hn
  rw[List.any_eq_true.2 ⟨_,hm,h4⟩]at hn;cases hn
 have:w.spans i≠[]:=fun e=>by rw[e]at hne;cases hne
 exact⟨_,(hin _).1 (asc_head ha this).1⟩
theorem chk_0{w:Shop}{v:Bool}(h:w.eO v=0):w.chk=0:=(eO_0 h).1
theorem eO_v{w:Shop}{v:Bool}(h:w.eO v=0):v=true:=(eO_0 h).2.1
theorem p21(w:Shop)(i m k:Int)(hs:w.sps.length<=1000000)(hm1:w.mks.length<=1000000)(hm2:∀x∈w.mks,x.length<=1000000)(h:w.eO (w.isSp i&&w.isSl m k)=0):FnA Tryz.prog 132 [.agg w.cells, .int .i64 i, .int .i64 m, .int .i64 k] (· = .tup [.int .i64 (w.fitsV i m k), .int .i64 0]):=by
 have hv:=eO_v h
 rw[Bool.and_eq_true]at hv
 obtain⟨hi,hm⟩:=hv
 rw[hi,hm]at h
 have hk:=chk_ok (chk_0 h)
 have e1:=p70 w i hs
 have e2:=p73 w m k hm1 hm2
 rw[hi]at e1;rw[hm]at e2
 have e3:=p69 w true h
 have e4:=p74 w hk i m k hi hm
 refine fnA 6 ok132 (by simp) ?_
 (conv=>whnf);(repeat'((first|apply bT|apply bF|apply bN|((first|apply bD|apply bEq|apply bNe)<;>intro hh<;>try(exfalso;omega))|refine e1.cq rfl rfl ?_|refine e2.cq rfl rfl ?_|refine e3.zq rfl rfl ?_|refine e4.cq rfl rfl ?_|refine wJ ?_|refine nJ ?_)<;>conv=>whnf))
 all_goals rfl
def numF(n:Nat)(p:Int->Bool):List Int:=((List.range n).map fun j:Nat=>(j:Int)).filter p
theorem numF_yes{n:Nat}{p:Int->Bool}(h:p (n:Nat)=true):numF (n+1) p=numF n p++[(n:Int)]:=by
 unfold numF;rw[List.range_succ,List.map_append,List.filter_append];simp[h]
theorem numF_no{n:Nat}{p:Int->Bool}(h:p (n:Nat)=false):numF (n+1) p=numF n p:=by
 unfold numF;rw[List.range_succ,List.map_append,List.filter_append];simp[h]
theorem numF_len(n:Nat)(p:Int->Bool):(numF n p).length<=n:=by
 unfold numF
 have:=List.length_filter_le p ((List.range n).map fun j:Nat=>(j:Int))
 simpa using this
theorem mem_numF{n:Nat}{p:Int->Bool}{x:Int}:x∈numF n p<->(0<=x/\x<n)/\p x=true:=by
 unfold numF
 simp only[List.mem_filter,List.mem_map,List.mem_range]
 constructor
 ·rintro⟨⟨j,hj,rfl⟩,hp⟩;exact⟨by omega,hp⟩
 ·rintro⟨h,hp⟩;exact⟨⟨x.toNat,by omega,by omega⟩,hp⟩
theorem p85f{C C1 C2:List AV}(n:Nat)(hn:n<=1000000)(p:Int->Bool)(hg:∀j:Nat,j<n->FnV Tryz.prog (.fn 191 [.ipt C, .ipt C1, .ipt C2]) [.int .i64 (j:Nat)] (· = .bool (p (j:Nat)))):FnA Tryz.prog 190 [.int .i64 (n:Nat),(.fn 191 [.ipt C, .ipt C1, .ipt C2])] (· = .isl ((numF n p).map jAV)):=by
 refine fnA 3 ok190 (by simp) ?_
 (conv=>whnf);(repeat'((first|apply bT|apply bF|apply bN|((first|apply bD|apply bEq|apply bNe)<;>intro hh<;>try(exfalso;omega))|refine wJ ?_|refine nJ ?_)<;>conv=>whnf))
 refine loop_i (α :=Nat) (fun k=>[(8, .int .i64 k),(7, .int .i64 n),(5, .row 2),(1,(.fn 191 [.ipt C, .ipt C1, .ipt C2]))]) (fun k=>[.fresh, .fresh, .row false 3 1 ((numF k p).map jAV)]) (fun k=>k<=n) (fun k=>n-k) 0 (mA [(2,none)]) (by omega) ?_
 intro k hk0
 conv=>whnf
 refine bD (fun h3=>?_) (fun h3=>?_)
 ·have hk:k<n:=by omega
  have hv:=hg k hk
  have hlen:=numF_len k p
  cases hx:p (k:Nat)with
  |true=>
   rw[hx]at hv
   (conv=>whnf);(repeat'((first|apply bT|apply bF|apply bN|((first|apply bD|apply bEq|apply bNe)<;>intro hh<;>try(exfalso;omega))|(refine hv.vcallq rfl rfl rfl rfl (fun r (hr:r=_)=>?_);subst hr)|(refine apI (by simp[AV.one]) (by simp;omega) ?_)|refine wJ ?_|refine nJ ?_)<;>conv=>whnf))
   refine⟨k+1,?_,by omega,by omega⟩
   rw[numF_yes hx,List.map_append]
   exact(mA [(2,some 1)])
  |false=>
   rw[hx]at hv
   (conv=>whnf);(repeat'((first|apply bT|apply bF|apply bN|((first|apply bD|apply bEq|apply bNe)<;>intro hh<;>try(exfalso;omega))|(refine hv.vcallq rfl rfl rfl rfl (fun r (hr:r=_)=>?_);subst hr)|refine wJ ?_|refine nJ ?_)<;>conv=>whnf))
   refine⟨k+1,?_,by omega,by omega⟩
   rw[numF_no hx]
   exact mI
 ·have:k=n:=by omega
  subst this
  (conv=>whnf);(repeat'((first|apply bT|apply bF|apply bN|((first|apply bD|apply bEq|apply bNe)<;>intro hh<;>try(exfalso;omega))|refine wJ ?_|refine nJ ?_)<;>conv=>whnf))
  all_goals rfl
def Shop.sure(w:Shop)(i m k:Int):Bool:=w.fitsV i m k==1
def Shop.sures(w:Shop)(m k:Int):List Int:=numF w.sps.length fun i=>w.sure i m k
theorem p170(w:Shop)(hk:Ok w)(i m k:Int)(hi:w.isSp i=true)(hm:w.isSl m k=true):FnA Tryz.prog 191 [.int .i64 i, .ipt w.scL, .ipt [.int .i64 m], .ipt [.int .i64 k]] (· = .bool (w.sure i m k)):=by
 have e1:=p74 w hk i m k hi hm
 unfold Shop.sure
 refine fnA 0 ok191 (by simp) ?_
 (conv=>whnf);(repeat'((first|apply bT|apply bF|apply bN|((first|apply bD|apply bEq|apply bNe)<;>intro hh<;>try(exfalso;omega))|refine e1.cq rfl rfl ?_|refine wJ ?_|refine nJ ?_)<;>conv=>whnf))
 all_goals rfl
theorem p161(w:Shop)(hk:Ok w)(m k:Int)(hm:w.isSl m k=true):FnA Tryz.prog 182 [.agg w.scL, .int .i64 m, .int .i64 k] (· = .isl ((w.sures m k).map jAV)):=by
 have hs1:=hk.s1
 have l1:(w.sps.map Spare.av).length=w.sps.length:=by simp
 have e1:=p85f (C:=w.scL) (C1:=[.int .i64 m]) (C2:=[.int .i64 k]) w.sps.length (by omega) (fun i=>w.sure i m k) (fun j hj=>fnV_of bd191 (p170 w hk j m k (isSp_iff.2 (by omega)) hm))
 rw[<- l1]at e1
 unfold Shop.sures
 rw[<- l1]
 refine fnA 4 ok182 (by simp) ?_
 (conv=>whnf);(repeat'((first|apply bT|apply bF|apply bN|((first|apply bD|apply bEq|apply bNe)<;>intro hh<;>try(exfalso;omega))|refine e1.zq rfl rfl ?_|refine wJ ?_|refine nJ ?_)<;>conv=>whnf))
 all_goals rfl
def fAV(f:List Int):List AV:=[.isl (f.map jAV)]
theorem sures_len(w:Shop)(m k:Int):(w.sures m k).length<=w.sps.length:=numF_len _ _
theorem fget{L:List (List Int)}{j:Nat}(h:j<L.length):(L.map fAV).getD j []=fAV (L.getD j []):=by
 rw[getM fAV L j h];simp[List.getD_eq_getElem?_getD,h]
theorem FnA.empties{P:Program}{f:FuncId}{bs:List AV}{R:AV->Prop}(h1:FnA P f (.nils::bs) R)(h2:∀a c,FnA P f (.lit (.slice (some a) 0 c)::bs) R):FnA P f (.isl []::bs) R:=by
 unfold FnA at h1 h2⊢
 intro imm w vs himm hargs
 simp only[RV0s]at hargs
 obtain⟨v,vs',rfl,hv,hr⟩:=hargs
 have key:(∃a c,v = .slice (some a) 0 c)\/v = .slice none 0 0:=by
  simp only[RV0]at hv
  rcases hv with⟨⟨a,rfl⟩,_⟩|⟨_,b,off,cap,rfl,_⟩
  ·cases a with
   |none=>exact .inr rfl
   |some a=>exact .inl ⟨a,0,rfl⟩
  ·exact .inl ⟨_,cap,rfl⟩
 rcases key with⟨a,c,rfl⟩|rfl
 ·exact h2 a c imm w _ himm (by simp only[RV0s];exact⟨_,_,rfl,by simp only[RV0],hr⟩)
 ·exact h1 imm w _ himm (by simp only[RV0s];exact⟨_,_,rfl,by simp only[RV0],hr⟩)
theorem p160e:FnA Tryz.prog 105 [.isl []] (· = .isl []):=by
 refine FnA.empties ?_ fun a c=>?_
 ·refine fnA 2 ok105 (by simp) ?_
  (conv=>whnf);(repeat'((first|apply bT|apply bF|apply bN|((first|apply bD|apply bEq|apply bNe)<;>intro hh<;>try(exfalso;omega))|refine wJ ?_|refine nJ ?_)<;>conv=>whnf))
  all_goals rfl
 ·refine fnA 2 ok105 (by simp) ?_
  (conv=>whnf);(repeat'((first|apply bT|apply bF|apply bN|((first|apply bD|apply bEq|apply bNe)<;>intro hh<;>try(exfalso;omega))|refine apI (by simp) (by simp) ?_|refine wJ ?_|refine nJ ?_)<;>conv=>whnf))
  all_goals rfl
theorem p160(l:List Int)(h0:0<l.length)(hl:l.length<=1000000):FnO Tryz.prog 105 [.isl (l.map jAV)] (fun r rows=>r = .row 1/\rows=[(1, .row false 3 1 (l.map jAV))]):=by
 have hL:(l.map jAV).length=l.length:=by simp
 refine fnO 2 ok105 (by simp) ?_
 (conv=>whnf);(repeat'((first|apply bT|apply bF|apply bN|((first|apply bD|apply bEq|apply bNe)<;>intro hh<;>try(exfalso;omega))|(refine apI (fun e he=>by obtain⟨x,_,rfl⟩:=List.mem_map.1 he;simp[jAV,AV.one]) (by simp;omega) ?_)|refine wJ ?_|refine nJ ?_)<;>conv=>whnf))
 all_goals exact⟨rfl,rfl⟩
def bAV(b:Bool):List AV:=[.bool b]
def trB(tr:List Bool)(x:Int):Bool:=tr.getD x.toNat false
structure Fail(fs:List (List Int))(left g:List Int)(tr tr':List Bool)(J:Nat):Prop where
 sup:∀x,trB tr x=true->trB tr' x=true
 all:∀x∈fsG fs J,trB tr' x=true
 shut:∀x,0<=x->trB tr' x=true->trB tr x=false->left.getD x.toNat 0=0/\∀j,j<g.length->g.getD j 0=x->∀y∈fsG fs j,trB tr' y=true
structure Win(fs:List (List Int))(left g:List Int)(tr:List Bool)(left' g':List Int)(J:Nat):Prop where
 ll:left'.length=left.length
 gl:g'.length=g.length
 nn:Nn left'
 got:g'.getD J 0∈fsG fs J
 oth:∀j,j<g.length->j≠J->g'.getD j 0=g.getD j 0\/(g'.getD j 0∈fsG fs j/\0<=g.getD j 0/\trB tr (g.getD j 0)=false)
 tot:∀s:Nat,s<left.length->left'.getD s 0+g'.count (s:Int)+(if g.getD J 0=s then 1 else 0)=left.getD s 0+g.count (s:Int)
 shut:∀C,Shut fs left g C->Shut fs left' g' C/\¬C (g'.getD J 0)
structure Pre(fs:List (List Int))(left g:List Int)(tr:List Bool)(J:Nat):Prop where
 sp:∀j,∀s∈fsG fs j,0<=s/\s<left.length
 lt:tr.length=left.length
 lg:g.length=fs.length
 jlt:J<fs.length
 nn:Nn left
 gok:∀j,j<g.length->g.getD j 0 = -1\/g.getD j 0∈fsG fs j
 own:g.getD J 0 = -1\/trB tr (g.getD J 0)=true
 s1:left.length<=100
 s2:fs.length<=100
 s3:∀j,(fsG fs j).length<=100
 s4:∀s,left.getD s 0<=1000
def untr(tr:List Bool):Nat:=tr.count false
theorem bget{l:List Bool}{i:Nat}(h:i<l.length):(l.map bAV).getD i []=[.bool (l.getD i false)]:=by
 simp[List.getD_eq_getElem?_getD,h,bAV]
theorem getD_setB(l:List Bool)(i:Nat)(x:Bool)(j:Nat)(hi:i<l.length):(l.set i x).getD j false=if j=i then x else l.getD j false:=by
 simp only[List.getD_eq_getElem?_getD,List.getElem?_set]
 by_cases h:i=j
 ·subst h;simp[hi]
 ·rw[if_neg h,if_neg (fun e=>h e.symm)]
theorem untr_set{tr:List Bool}{i:Nat}(hi:i<tr.length)(h:tr.getD i false=false):untr (tr.set i true)+1=untr tr:=by
 unfold untr
 have hg:tr[i]=false:=by rw[<- h];simp[List.getD_eq_getElem?_getD,hi]
 rw[List.count_set (h:=hi),hg]
 have:1<=tr.count false:=List.count_pos_iff.2 (hg ▸ List.getElem_mem hi)
 simp;omega
theorem untr_le{tr tr':List Bool}(hl:tr'.length=tr.length)(h:∀i,tr.getD i false=true->tr'.getD i false=true):untr tr'<=untr tr:=by
 unfold untr
 induction tr generalizing tr' with
 |nil=>simp at hl;subst hl;simp
 |cons a tr ih=>
  cases tr' with
  |nil=>simp at hl
  |cons b tr'=>
   have h0:=h 0
   have ih:=ih (tr':=tr') (by simpa using hl) (fun i hi=>by simpa using h (i+1) (by simpa using hi))
   simp only[List.getD_cons_zero]at h0
   rw[List.count_cons,List.count_cons]
   cases a<;>cases b<;>simp at h0⊢<;>omega
theorem win_take{fs:List (List Int)}{left g:List Int}{tr:List Bool}{J:Nat}(h:Pre fs left g tr J){x:Int}(hx:x∈fsG fs J)(hp:0<left.getD x.toNat 0):Win fs left g tr (left.set x.toNat (left.getD x.toNat 0-1)) (g.set J x) J:=by
 obtain⟨h1,h2⟩:=h.sp J x hx
 have hJ:J<g.length:=by rw[h.lg];exact h.jlt
 have hxl:x.toNat<left.length:=by omega
 have hgot:(g.set J x).getD J 0=x:=by rw[getD_set _ _ _ _ hJ,if_pos rfl]
 refine⟨by simp,by simp,nn_set h.nn _ hp,by rw[hgot];exact hx,fun j hj hne=>.inl (by rw[getD_set _ _ _ _ hJ,if_neg hne]),fun s hs=>?_,fun C hC=>⟨fun s hs=>?_,?_⟩⟩
 ·have hc:=count_set' g J x (s:Nat) hJ
  rw[getD_set _ _ _ _ hxl]
  by_cases e:s=x.toNat
  ·subst e
   rw[if_pos rfl]
   have:x=((x.toNat:Nat):Int):=by omega
   rw[if_pos this]at hc
   omega
  ·rw[if_neg e]
   have:¬x=(s:Int):=by omega
   rw[if_neg this]at hc
   omega
 ·obtain⟨k1,k2⟩:=hC s hs
  have hne:s≠x:=fun e=>by rw[e]at k1;omega
  refine⟨?_,fun j hj hgj=>?_⟩
  ·rw[getD_set _ _ _ _ hxl]
   split
   ·rename_i e;rw[e]at k1;omega
   ·exact k1
  ·rw[getD_set _ _ _ _ hJ]at hgj
   split at hgj
   ·exact absurd hgj.symm hne
   ·exact k2 j (by simpa using hj) hgj
 ·rw[hgot]
  intro hC'
  have:=(hC x hC').1
  omega
theorem win_from{fs:List (List Int)}{left g:List Int}{tr tr1:List Bool}{J O:Nat}(h:Pre fs left g tr J){x:Int}(hx:x∈fsG fs J)(hO:O<g.length)(hgO:g.getD O 0=x)(hxt:trB tr x=false)(hsup:∀y,trB tr y=true->trB tr1 y=true){left1 g1:List Int}(hw:Win fs left g tr1 left1 g1 O):Win fs left g tr left1 (g1.set J x) J:=by
 obtain⟨h1,h2⟩:=h.sp J x hx
 have hJ:J<g.length:=by rw[h.lg];exact h.jlt
 have hJ1:J<g1.length:=by rw[hw.gl];exact hJ
 have hne:J≠O:=fun e=>by
  subst e
  rcases h.own with k|k
  ·rw[hgO]at k;omega
  ·rw[hgO,hxt]at k;cases k
 have hgot:(g1.set J x).getD J 0=x:=by rw[getD_set _ _ _ _ hJ1,if_pos rfl]
 have hgJ:g1.getD J 0=g.getD J 0:=by
  rcases hw.oth J hJ hne with k|⟨_,k2,k3⟩
  ·exact k
  ·rcases h.own with q|q
   ·omega
   ·rw[hsup _ q]at k3;cases k3
 refine⟨hw.ll,by simp[hw.gl],hw.nn,by rw[hgot];exact hx,fun j hj hne2=>?_,fun s hs=>?_,fun C hC=>?_⟩
 ·rw[getD_set _ _ _ _ hJ1,if_neg hne2]
  by_cases e:j=O
  ·subst e
   exact .inr ⟨hw.got,by omega,by rw[hgO];exact hxt⟩
  ·rcases hw.oth j hj e with k|⟨k1,k2,k3⟩
   ·exact .inl k
   ·refine .inr ⟨k1,k2,?_⟩
    cases hq:trB tr (g.getD j 0)with
    |false=>rfl
    |true=>rw[hsup _ hq]at k3;cases k3
 ·have hc:=count_set' g1 J x (s:Nat) hJ1
  have ht:=hw.tot s hs
  rw[hgJ]at hc
  rw[hgO]at ht
  omega
 ·obtain⟨k1,k2⟩:=hw.shut C hC
  have hxC:¬C x:=fun hc=>k2 ((hC x hc).2 O hO hgO _ hw.got)
  refine⟨fun s hs=>?_,by rw[hgot];exact hxC⟩
  obtain⟨q1,q2⟩:=k1 s hs
  refine⟨q1,fun j hj hgj=>?_⟩
  rw[getD_set _ _ _ _ hJ1]at hgj
  split at hgj
  ·subst hgj;exact absurd hs hxC
  ·exact q2 j (by simpa using hj) hgj
def wkIns(fs:List (List Int))(left g:List Int)(tr:List Bool):List Res:=[.box false [.row 1, .row 2, .row 3], .row false 27 1 (fs.map fAV), .row false 3 1 (left.map jAV), .row false 3 1 (g.map jAV), .row false 4 1 (tr.map bAV)]
def giveR(fs:List (List Int))(left g:List Int)(tr:List Bool)(J:Nat)(r:AV)(outs:List Res):Prop:=
 ∃b left' g' tr',r = .bool b/\outs=wkIns fs left' g' tr'/\tr'.length=tr.length/\(b=false->left'=left/\g'=g/\Fail fs left g tr tr' J)/\(b=true->Win fs left g tr left' g' J)
theorem fget'{L:List (List Int)}{j:Nat}(h:j<L.length):(L.map fAV).getD j []=[.isl ((fsG L j).map jAV)]:=fget h
theorem sup_set{tr:List Bool}{x y:Int}(hx:0<=x/\x.toNat<tr.length)(hy:trB tr y=true):trB (tr.set x.toNat true) y=true:=by
 unfold trB at hy⊢
 rw[getD_setB _ _ _ _ hx.2];split
 ·rfl
 ·exact hy
theorem w136(fs:List (List Int)):∀(n:Nat) (left g:List Int) (tr:List Bool) (J:Nat),untr tr<=n->Pre fs left g tr J->FnW Tryz.prog 183 [.own 0 0, .int .i64 (J:Nat), .row 4] (wkIns fs left g tr) (giveR fs left g tr J):=by
 intro n
 induction n using Nat.strongRecOn with
 |_ n ih=>
  intro left g tr J hn h
  have hJ:J<g.length:=by rw[h.lg];exact h.jlt
  have hJf:=h.jlt
  have hs1:=h.s1
  have hs2:=h.s2
  have hs3:=h.s3 J
  have hlg:=h.lg
  have hlt:=h.lt
  have lf:(fs.map fAV).length=fs.length:=by simp
  have lg:(g.map jAV).length=g.length:=by simp
  have ll:(left.map jAV).length=left.length:=by simp
  have lJ:((fsG fs J).map jAV).length=(fsG fs J).length:=by simp
  refine fnW 0 [] ok183 (by simp) rfl rfl ?_
  (conv=>whnf);(repeat'((first|apply bT|apply bF|apply bN|((first|apply bD|apply bEq|apply bNe)<;>intro hh<;>try(exfalso;omega))|refine iaJ (fget' hJf) ?_|refine wJ ?_|refine nJ ?_)<;>conv=>whnf))
  refine loop_i (α :=Nat × List Bool) (fun q=>[(19, .int .i64 q.1),(18, .int .i64 ↑((fsG fs J).map jAV).length),(17, .isl ((fsG fs J).map jAV)),(2, .row 4),(1, .int .i64 J),(0, .own 0 0)]) (fun q=>wkIns fs left g q.2) (fun q=>q.1<=(fsG fs J).length/\q.2.length=tr.length/\(∀x,trB tr x=true->trB q.2 x=true)/\(∀x∈(fsG fs J).take q.1,trB q.2 x=true)/\∀x,0<=x->trB q.2 x=true->trB tr x=false->left.getD x.toNat 0=0/\∀j,j<g.length->g.getD j 0=x->∀y∈fsG fs j,trB q.2 y=true) (fun q=>(fsG fs J).length-q.1) (0,tr) mI ⟨by simp,rfl,fun x hx=>hx,by simp,fun x _ h1 h2=>by rw[h1]at h2;cases h2⟩ ?_
  rintro⟨k,t1⟩ ⟨hk0,hl1,hsup,hall,hshut⟩
  dsimp only at hk0 hl1 hsup hall hshut⊢
  have lt1:(t1.map bAV).length=t1.length:=by simp
  conv=>whnf
  refine bD (fun h3=>?_) (fun h3=>?_)
  ·have hk:k<(fsG fs J).length:=by omega
   have hgx:=getM jAV (fsG fs J) k hk
   have hxm:(fsG fs J)[k]∈fsG fs J:=List.getElem_mem hk
   have htk:∀t2:List Bool,(∀y∈(fsG fs J).take k,trB t2 y=true)->trB t2 (fsG fs J)[k]=true->∀y∈(fsG fs J).take (k+1),trB t2 y=true:=fun t2 a b=>take_all hk a b
   generalize (fsG fs J)[k]=x at hgx hxm htk
   obtain⟨hx0,hx1⟩:=h.sp J x hxm
   have hxt:x.toNat<t1.length:=by omega
   have hxl:x.toNat<left.length:=by omega
   have g1:=bget hxt
   have gl:=jget hxl
   have gJ:=jget hJ
   cases hb:t1.getD x.toNat false with
   |true=>
    rw[hb]at g1
    (conv=>whnf);(repeat'((first|apply bT|apply bF|apply bN|((first|apply bD|apply bEq|apply bNe)<;>intro hh<;>try(exfalso;omega))|refine iaJ hgx ?_|refine iaJ g1 ?_|refine wJ ?_|refine nJ ?_)<;>conv=>whnf))
    exact⟨(k+1,t1),mI,⟨by dsimp only;omega,hl1,hsup,htk t1 hall hb,hshut⟩,by dsimp only;omega⟩
   |false=>
    rw[hb]at g1
    have hb':trB t1 x=false:=hb
    have hxr:trB tr x=false:=by
     cases hq:trB tr x with
     |false=>rfl
     |true=>rw[hsup x hq]at hb';cases hb'
    have hu1:=untr_set hxt hb
    have hu2:=untr_le (tr:=tr) (tr':=t1) hl1 (fun i hi=>by
     have:=hsup (i:Nat) (by unfold trB;simpa using hi)
     unfold trB at this;simpa using this)
    have hput:(t1.map bAV).set x.toNat [.bool true]=(t1.set x.toNat true).map bAV:=by rw[List.map_set];rfl
    have hsx:trB (t1.set x.toNat true) x=true:=by unfold trB;rw[getD_setB _ _ _ _ hxt,if_pos rfl]
    have hsup2:∀y,trB t1 y=true->trB (t1.set x.toNat true) y=true:=fun y hy=>sup_set ⟨hx0,hxt⟩ hy
    have hnew:∀y,0<=y->trB (t1.set x.toNat true) y=true->y≠x->trB t1 y=true:=fun y hy0 hy hne=>by
     unfold trB at hy⊢
     rw[getD_setB _ _ _ _ hxt]at hy
     split at hy
     ·omega
     ·exact hy
    by_cases hp:0<left.getD x.toNat 0
    ·-- some are left
     have hput2:(left.map jAV).set x.toNat [.int .i64 (left.getD x.toNat 0-1)]=(left.set x.toNat (left.getD x.toNat 0-1)).map jAV:=by rw[List.map_set];rfl
     have hput3:(g.map jAV).set J [.int .i64 x]=(g.set J x).map jAV:=by rw[List.map_set];rfl
     have hs4:=h.s4 x.toNat
     have hwin:=win_take h hxm hp
     (conv=>whnf);(repeat'((first|apply bT|apply bF|apply bN|((first|apply bD|apply bEq|apply bNe)<;>intro hh<;>try(exfalso;omega))|refine iaJ hgx ?_|refine iaJ g1 ?_|refine iaJ gl ?_|refine iaJ gJ ?_|refine wJ ?_|refine nJ ?_)<;>conv=>whnf))
     all_goals
      refine⟨true,left.set x.toNat (left.getD x.toNat 0-1),g.set J x,t1.set x.toNat true,rfl,?_,by simp[hl1],fun e=>Bool.noConfusion e,fun _=>hwin⟩
      unfold wkIns
      rw[<- hput,<- hput2,<- hput3]
      rfl
    ·-- those that have it
     have hl0:left.getD x.toNat 0=0:=by
      have:=h.nn x.toNat hxl
      omega
     have lt2:(t1.set x.toNat true).length=tr.length:=by simp[hl1]
     (conv=>whnf);(repeat'((first|apply bT|apply bF|apply bN|((first|apply bD|apply bEq|apply bNe)<;>intro hh<;>try(exfalso;omega))|refine iaJ hgx ?_|refine iaJ g1 ?_|refine iaJ gl ?_|refine wJ ?_|refine nJ ?_)<;>conv=>whnf))
     refine loop_i (α :=Nat × List Bool) (fun q=>[(59, .int .i64 q.1),(58, .int .i64 ↑(g.map jAV).length),(57, .row 3),(19, .int .i64 k),(18, .int .i64 ↑((fsG fs J).map jAV).length),(17, .isl ((fsG fs J).map jAV)),(8, .int .i64 x),(2, .row 4),(1, .int .i64 J),(0, .own 0 0)]) (fun q=>wkIns fs left g q.2) (fun q=>q.1<=g.length/\q.2.length=tr.length/\(∀y,trB (t1.set x.toNat true) y=true->trB q.2 y=true)/\(∀j,j<q.1->g.getD j 0=x->∀y∈fsG fs j,trB q.2 y=true)/\∀y,0<=y->trB q.2 y=true->trB tr y=false->y≠x->left.getD y.toNat 0=0/\∀j,j<g.length->g.getD j 0=y->∀z∈fsG fs j,trB q.2 z=true) (fun q=>g.length-q.1) (0,t1.set x.toNat true) ?_ ⟨by simp,lt2,fun y hy=>hy,fun j hj=>by dsimp only at hj;omega,fun y hy0 hy hyr hne=>?_⟩ ?_
     ·dsimp only
      unfold wkIns
      rw[<- hput]
      exact mI
     ·obtain⟨a,b⟩:=hshut y hy0 (hnew y hy0 hy hne) hyr
      exact⟨a,fun j hj hgj z hz=>hsup2 z (b j hj hgj z hz)⟩
     rintro⟨j,t2⟩ ⟨hj0,hl2,hs2',hpart,hsh2⟩
     dsimp only at hj0 hl2 hs2' hpart hsh2⊢
     conv=>whnf
     refine bD (fun h5=>?_) (fun h5=>?_)
     ·have hj:j<g.length:=by omega
      have gj:=jget hj
      by_cases he:g.getD j 0=x
      ·have hx2:trB t2 x=true:=hs2' x hsx
       have hu3:=untr_le (tr:=t1.set x.toNat true) (tr':=t2) (by rw[hl2,lt2]) (fun i hi=>by
        have:=hs2' (i:Nat) (by unfold trB;simpa using hi)
        unfold trB at this;simpa using this)
       have hpre:Pre fs left g t2 j:=⟨h.sp,by rw[hl2];exact hlt,hlg,by omega,h.nn,h.gok, .inr (by rw[he];exact hx2),h.s1,h.s2,h.s3,h.s4⟩
       have hrec:=ih (untr t2) (by omega) left g t2 j (Nat.le_refl _) hpre
       (conv=>whnf);(repeat'((first|apply bT|apply bF|apply bN|((first|apply bD|apply bEq|apply bNe)<;>intro hh<;>try(exfalso;omega))|refine iaJ gj ?_|refine wJ ?_|refine nJ ?_)<;>conv=>whnf))
       refine hrec.callwq [0,1,2,3,4] rfl rfl ⟨rfl,rfl,rfl,rfl,rfl,trivial⟩ rfl rfl rfl rfl (fun r outs hr=>?_)
       obtain⟨b,left',g',t3,hr1,ho,hl3,hf,hw⟩:=hr
       subst hr1;subst ho
       refine⟨⟨rfl,rfl,rfl,rfl⟩,?_⟩
       cases b with
       |false=>
        obtain⟨e1,e2,hF⟩:=hf rfl
        subst e1;subst e2
        (conv=>whnf);(repeat'((first|apply bT|apply bF|apply bN|((first|apply bD|apply bEq|apply bNe)<;>intro hh<;>try(exfalso;omega))|refine wJ ?_|refine nJ ?_)<;>conv=>whnf))
        refine⟨(j+1,t3),mI,⟨by dsimp only;omega,by rw[hl3,hl2],fun y hy=>hF.sup y (hs2' y hy),fun i hi hgi y hy=>?_,fun y hy0 hy hyr hne=>?_⟩,by dsimp only;omega⟩
        ·dsimp only at hi
         by_cases e:i=j
         ·subst e;exact hF.all y hy
         ·exact hF.sup y (hpart i (by omega) hgi y hy)
        ·cases hq:trB t2 y with
         |true=>
          obtain⟨a,b⟩:=hsh2 y hy0 hq hyr hne
          exact⟨a,fun i hi hgi z hz=>hF.sup z (b i hi hgi z hz)⟩
         |false=>exact hF.shut y hy0 hy hq
       |true=>
        have hW:=hw rfl
        have hwin:=win_from h hxm hj he hxr (fun y hy=>hs2' y (hsup2 y (hsup y hy))) hW
        have hJ1:J<g'.length:=by rw[hW.gl];exact hJ
        have lg1:(g'.map jAV).length=g'.length:=by simp
        have gJ1:=jget hJ1
        have hput3:(g'.map jAV).set J [.int .i64 x]=(g'.set J x).map jAV:=by rw[List.map_set];rfl
        have hgl:=hW.gl
        (conv=>whnf);(repeat'((first|apply bT|apply bF|apply bN|((first|apply bD|apply bEq|apply bNe)<;>intro hh<;>try(exfalso;omega))|refine iaJ gJ1 ?_|refine wJ ?_|refine nJ ?_)<;>conv=>whnf))
        all_goals
         refine⟨true,left',g'.set J x,t3,rfl,?_,by rw[hl3,hl2],fun e=>Bool.noConfusion e,fun _=>hwin⟩
         unfold wkIns
         rw[<- hput3]
         rfl
      ·(conv=>whnf);(repeat'((first|apply bT|apply bF|apply bN|((first|apply bD|apply bEq|apply bNe)<;>intro hh<;>try(exfalso;omega))|refine iaJ gj ?_|refine wJ ?_|refine nJ ?_)<;>conv=>whnf))
       refine⟨(j+1,t2),mI,⟨by dsimp only;omega,hl2,hs2',fun i hi hgi y hy=>?_,hsh2⟩,by dsimp only;omega⟩
       dsimp only at hi
       by_cases e:i=j
       ·subst e;exact absurd hgi he
       ·exact hpart i (by omega) hgi y hy
     ·have:j=g.length:=by omega
      subst this
      (conv=>whnf);(repeat'((first|apply bT|apply bF|apply bN|((first|apply bD|apply bEq|apply bNe)<;>intro hh<;>try(exfalso;omega))|refine wJ ?_|refine nJ ?_)<;>conv=>whnf))
      refine⟨(k+1,t2),mI,⟨by dsimp only;omega,hl2,fun y hy=>hs2' y (hsup2 y (hsup y hy)),htk t2 (fun y hy=>hs2' y (hsup2 y (hall y hy))) (hs2' x hsx),fun y hy0 hy hyr=>?_⟩,by dsimp only;omega⟩
      by_cases e:y=x
      ·subst e
       exact⟨hl0,hpart⟩
      ·exact hsh2 y hy0 hy hyr e
  ·have:k=(fsG fs J).length:=by omega
   subst this
   rw[List.take_length]at hall
   (conv=>whnf);(repeat'((first|apply bT|apply bF|apply bN|((first|apply bD|apply bEq|apply bNe)<;>intro hh<;>try(exfalso;omega))|refine wJ ?_|refine nJ ?_)<;>conv=>whnf))
   all_goals exact⟨false,left,g,t1,rfl,rfl,hl1,fun _=>⟨rfl,rfl,⟨hsup,hall,hshut⟩⟩,fun e=>Bool.noConfusion e⟩
theorem p136e(fs:List (List Int))(g:List Int)(J:Nat)(hJ:J<fs.length)(h2:fs.length<=100)(h0:fsG fs J=[]):FnA Tryz.prog 183 [.ipt [.isl (fs.map fAV), .isl [], .isl (g.map jAV)], .int .i64 (J:Nat), .isl []] (· = .bool false):=by
 have lf:(fs.map fAV).length=fs.length:=by simp
 have gf:=fget' hJ
 rw[h0]at gf
 refine fnA 0 ok183 (by simp) ?_
 (conv=>whnf);(repeat'((first|apply bT|apply bF|apply bN|((first|apply bD|apply bEq|apply bNe)<;>intro hh<;>try(exfalso;omega))|refine iaJ gf ?_|refine wJ ?_|refine nJ ?_)<;>conv=>whnf))
 refine loop_i (α :=Unit) (fun q=>[(19, .int .i64 0),(18, .int .i64 0)]) (fun q=>[]) (fun q=>True) (fun q=>0) () mI trivial ?_
 intro _ _
 (conv=>whnf);(repeat'((first|apply bT|apply bF|apply bN|((first|apply bD|apply bEq|apply bNe)<;>intro hh<;>try(exfalso;omega))|refine wJ ?_|refine nJ ?_)<;>conv=>whnf))
 all_goals rfl
def Shop.isSt(w:Shop)(st:List Int):Bool:=decide (st.length=w.sps.length)&&st.all fun n=>decide (0<=n/\n<=10)
def Shop.areJ(w:Shop)(js:List Job):Bool:=decide (js.length<=10)&&js.all fun j=>w.isSl j.mkr j.sl
theorem p157(n:Int):FnA Tryz.prog 179 [.int .i64 n] (· = .bool (decide (0<=n/\n<=10))):=by
 have e1:=p114 n 0 10
 refine fnA 0 ok179 (by simp) ?_
 (conv=>whnf);(repeat'((first|apply bT|apply bF|apply bN|((first|apply bD|apply bEq|apply bNe)<;>intro hh<;>try(exfalso;omega))|refine e1.cq rfl rfl ?_|refine wJ ?_|refine nJ ?_)<;>conv=>whnf))
 all_goals rfl
theorem p133(w:Shop)(st:List Int)(hs:w.sps.length<=1000000)(hst:st.length<=1000000):FnA Tryz.prog 160 [.agg w.cells, .isl (st.map jAV)] (· = .bool (w.isSt st)):=by
 have l1:(w.sps.map Spare.av).length=w.sps.length:=by simp
 have l2:(st.map jAV).length=st.length:=by simp
 have e1:=p127s (C:=[]) (fun n=>decide (0<=n/\n<=10)) st hst (fun n _=>fnV_of bd179 (p157 n))
 unfold Shop.isSt
 refine fnA 1 ok160 (by simp) ?_
 by_cases h:st.length=w.sps.length
 ·rw[decide_eq_true h]
  (conv=>whnf);(repeat'((first|apply bT|apply bF|apply bN|((first|apply bD|apply bEq|apply bNe)<;>intro hh<;>try(exfalso;omega))|refine e1.cq rfl rfl ?_|refine wJ ?_|refine nJ ?_)<;>conv=>whnf))
  all_goals rfl
 ·rw[decide_eq_false h]
  (conv=>whnf);(repeat'((first|apply bT|apply bF|apply bN|((first|apply bD|apply bEq|apply bNe)<;>intro hh<;>try(exfalso;omega))|refine wJ ?_|refine nJ ?_)<;>conv=>whnf))
  all_goals rfl
theorem p159(w:Shop)(j:Job)(hw:w.mks.length<=1000000)(hm:∀x∈w.mks,x.length<=1000000):FnA Tryz.prog 181 [.agg j.av, .ipt w.cells] (· = .bool (w.isSl j.mkr j.sl)):=by
 have e1:=p73 w j.mkr j.sl hw hm
 refine fnA 1 ok181 (by simp) ?_
 (conv=>whnf);(repeat'((first|apply bT|apply bF|apply bN|((first|apply bD|apply bEq|apply bNe)<;>intro hh<;>try(exfalso;omega))|refine e1.cq rfl rfl ?_|refine wJ ?_|refine nJ ?_)<;>conv=>whnf))
 all_goals rfl
theorem p134(w:Shop)(js:List Job)(hw:w.mks.length<=1000000)(hm:∀x∈w.mks,x.length<=1000000)(hj:js.length<=1000000):FnA Tryz.prog 161 [.agg w.cells, .isl (js.map Job.av)] (· = .bool (w.areJ js)):=by
 have l2:(js.map Job.av).length=js.length:=by simp
 have e1:=p158 (C:=w.cells) (fun j=>w.isSl j.mkr j.sl) js hj (fun j _=>fnV_of bd181 (p159 w j hw hm))
 unfold Shop.areJ
 refine fnA 1 ok161 (by simp) ?_
 by_cases h:js.length<=10
 ·rw[decide_eq_true h]
  (conv=>whnf);(repeat'((first|apply bT|apply bF|apply bN|((first|apply bD|apply bEq|apply bNe)<;>intro hh<;>try(exfalso;omega))|refine e1.lq rfl rfl ?_|refine wJ ?_|refine nJ ?_)<;>conv=>whnf))
  all_goals rfl
 ·rw[decide_eq_false h]
  (conv=>whnf);(repeat'((first|apply bT|apply bF|apply bN|((first|apply bD|apply bEq|apply bNe)<;>intro hh<;>try(exfalso;omega))|refine wJ ?_|refine nJ ?_)<;>conv=>whnf))
  all_goals rfl
structure Best(fs:List (List Int))(st left g:List Int):Prop where
 ll:left.length=st.length
 lg:g.length=fs.length
 nn:Nn left
 gok:∀j,j<g.length->g.getD j 0 = -1\/g.getD j 0∈fsG fs j
 tot:∀s:Nat,s<st.length->left.getD s 0+(g.count (s:Int):Int)=st.getD s 0
 shut:∀j,j<g.length->g.getD j 0 = -1->∃C,Shut fs left g C/\∀x∈fsG fs j,C x
def Shop.fsJ(w:Shop)(js:List Job):List (List Int):=js.map fun j=>w.sures j.mkr j.sl
theorem fsJ_len(w:Shop)(js:List Job):(w.fsJ js).length=js.length:=by simp[Shop.fsJ]
theorem fsJ_sp{w:Shop}{js:List Job}{j:Nat}{s:Int}(h:s∈fsG (w.fsJ js) j):0<=s/\s<w.sps.length:=by
 unfold fsG Shop.fsJ at h
 by_cases hj:j<js.length
 ·have:(js.map fun j=>w.sures j.mkr j.sl).getD j []=w.sures js[j].mkr js[j].sl:=by simp[List.getD_eq_getElem?_getD,hj]
  rw[this]at h
  exact(mem_numF.1 h).1
 ·have:(js.map fun j=>w.sures j.mkr j.sl).getD j []=[]:=by simp[List.getD_eq_getElem?_getD,show js[j]?=none from List.getElem?_eq_none (by omega)]
  rw[this]at h;cases h
theorem fsJ_len3(w:Shop)(js:List Job)(j:Nat):(fsG (w.fsJ js) j).length<=w.sps.length:=by
 unfold fsG Shop.fsJ
 by_cases hj:j<js.length
 ·have:(js.map fun j=>w.sures j.mkr j.sl).getD j []=w.sures js[j].mkr js[j].sl:=by simp[List.getD_eq_getElem?_getD,hj]
  rw[this];exact sures_len _ _ _
 ·have:(js.map fun j=>w.sures j.mkr j.sl).getD j []=[]:=by simp[List.getD_eq_getElem?_getD,show js[j]?=none from List.getElem?_eq_none (by omega)]
  rw[this];simp
structure Part1(fs:List (List Int))(st:List Int)(k:Nat)(left g:List Int):Prop where
 ll:left.length=st.length
 lg:g.length=fs.length
 nn:Nn left
 gok:∀j,j<g.length->g.getD j 0 = -1\/g.getD j 0∈fsG fs j
 tot:∀s:Nat,s<st.length->left.getD s 0+(g.count (s:Int):Int)=st.getD s 0
 shut:∀j,j<k->j<g.length->g.getD j 0 = -1->∃C,Shut fs left g C/\∀x∈fsG fs j,C x
 rest:∀j,k<=j->j<g.length->g.getD j 0 = -1
theorem part_pre{fs:List (List Int)}{st left g:List Int}{k:Nat}(h:Part1 fs st k left g)(hk:k<fs.length)(hsp:∀j,∀s∈fsG fs j,0<=s/\s<st.length)(h1:st.length<=100)(h2:fs.length<=100)(h3:∀j,(fsG fs j).length<=100)(h4:∀s,st.getD s 0<=1000):Pre fs left g (List.replicate st.length false) k:=by
 refine⟨fun j s hs=>by rw[h.ll];exact hsp j s hs,by simp[h.ll],h.lg,hk,h.nn,h.gok, .inl (h.rest k (Nat.le_refl _) (by rw[h.lg];exact hk)),by rw[h.ll];exact h1,h2,h3,fun s=>?_⟩
 by_cases hs:s<st.length
 ·have:=h.tot s hs
  have:=h4 s
  omega
 ·have:left.getD s 0=0:=by simp[List.getD_eq_getElem?_getD,show left[s]?=none from List.getElem?_eq_none (by rw[h.ll];omega)]
  omega
theorem part_win{fs:List (List Int)}{st left g left' g':List Int}{tr:List Bool}{k:Nat}(h:Part1 fs st k left g)(hk:k<fs.length)(hsp:∀j,∀s∈fsG fs j,0<=s/\s<st.length)(hw:Win fs left g tr left' g' k):Part1 fs st (k+1) left' g':=by
 have hkg:k<g.length:=by rw[h.lg];exact hk
 have hr:=h.rest k (Nat.le_refl _) hkg
 have hpos:∀j,g'.getD j 0∈fsG fs j->g'.getD j 0 ≠ -1:=fun j hj e=>by have:=hsp j _ hj;omega
 refine⟨by rw[hw.ll,h.ll],by rw[hw.gl,h.lg],hw.nn,fun j hj=>?_,fun s hs=>?_,fun j hj hjl hgj=>?_,fun j hj hjl=>?_⟩
 ·rw[hw.gl]at hj
  by_cases e:j=k
  ·subst e;exact .inr hw.got
  ·rcases hw.oth j hj e with q|q
   ·rw[q];exact h.gok j hj
   ·exact .inr q.1
 ·have:=hw.tot s (by rw[h.ll];exact hs)
  rw[hr]at this
  have:=h.tot s hs
  rw[if_neg (by omega)]at *
  omega
 ·rw[hw.gl]at hjl
  by_cases e:j=k
  ·subst e;exact absurd hgj (hpos j hw.got)
  ·rcases hw.oth j hjl e with q|q
   ·rw[q]at hgj
    obtain⟨C,c1,c2⟩:=h.shut j (by omega) hjl hgj
    exact⟨C,(hw.shut C c1).1,c2⟩
   ·exact absurd hgj (hpos j q.1)
 ·rw[hw.gl]at hjl
  have hrj:=h.rest j (by omega) hjl
  rcases hw.oth j hjl (by omega)with q|q
  ·rw[q];exact hrj
  ·omega
theorem part_fail{fs:List (List Int)}{st left g:List Int}{tr:List Bool}{k:Nat}(h:Part1 fs st k left g)(hsp:∀j,∀s∈fsG fs j,0<=s/\s<st.length)(hf:Fail fs left g (List.replicate st.length false) tr k):Part1 fs st (k+1) left g:=by
 refine⟨h.ll,h.lg,h.nn,h.gok,h.tot,fun j hj hjl hgj=>?_,fun j hj hjl=>h.rest j (by omega) hjl⟩
 by_cases e:j=k
 ·subst e
  refine⟨fun x=>0<=x/\trB tr x=true,fun s hs=>?_,fun x hx=>⟨(hsp j x hx).1,hf.all x hx⟩⟩
  obtain⟨a,b⟩:=hf.shut s hs.1 hs.2 (by unfold trB;simp[List.getD_eq_getElem?_getD,List.getElem?_replicate];split<;>rfl)
  exact⟨a,fun i hi hgi x hx=>⟨(hsp i x hx).1,b i hi hgi x hx⟩⟩
 ·exact h.shut j (by omega) hjl hgj
theorem part_best{fs:List (List Int)}{st left g:List Int}(h:Part1 fs st fs.length left g):Best fs st left g:=
 ⟨h.ll,h.lg,h.nn,h.gok,h.tot,fun j hj hgj=>h.shut j (by rw[<- h.lg];exact hj) hj hgj⟩
theorem part_0{fs:List (List Int)}{st:List Int}(hn:Nn st):Part1 fs st 0 st (List.replicate fs.length (-1)):=by
 refine⟨rfl,by simp,hn,fun j hj=>.inl ?_,fun s hs=>?_,fun j hj=>by omega,fun j _ hj=>?_⟩
 ·have hj:j<fs.length:=by simpa using hj
  simp[List.getD_eq_getElem?_getD,List.getElem?_replicate,hj]
 ·rw[List.count_replicate]
  have:¬((-1:Int)==(s:Int))=true:=by simp
  rw[if_neg this];omega
 ·have hj:j<fs.length:=by simpa using hj
  simp[List.getD_eq_getElem?_getD,List.getElem?_replicate,hj]
theorem isSt_iff{w:Shop}{st:List Int}:w.isSt st=true<->st.length=w.sps.length/\∀s,s<st.length->0<=st.getD s 0/\st.getD s 0<=10:=by
 unfold Shop.isSt
 rw[Bool.and_eq_true,decide_eq_true_iff,List.all_eq_true]
 refine and_congr_right fun _=>⟨fun h s hs=>?_,fun h x hx=>?_⟩
 ·have:=h _ (List.getElem_mem hs)
  have e:st.getD s 0=st[s]:=by simp[List.getD_eq_getElem?_getD,hs]
  rw[e];exact of_decide_eq_true this
 ·obtain⟨s,hs,rfl⟩:=List.getElem_of_mem hx
  have:=h s hs
  have e:st.getD s 0=st[s]:=by simp[List.getD_eq_getElem?_getD,hs]
  rw[e]at this;exact decide_eq_true this
theorem areJ_iff{w:Shop}{js:List Job}:w.areJ js=true<->js.length<=10/\∀j∈js,w.isSl j.mkr j.sl=true:=by
 unfold Shop.areJ
 rw[Bool.and_eq_true,decide_eq_true_iff,List.all_eq_true]
theorem p135(w:Shop)(hk:Ok w)(st:List Int)(js:List Job)(hst:w.isSt st=true)(hjs:w.areJ js=true)(h0:0<st.length):FnO Tryz.prog 162 [.agg w.scL, .isl (st.map jAV), .isl (js.map Job.av)] (fun r rows=>∃left g,Best (w.fsJ js) st left g/\r = .agg [.row 11, .row 2, .row 12]/\rows=[(11, .row false 27 1 ((w.fsJ js).map fAV)),(2, .row false 3 1 (left.map jAV)),(12, .row false 3 1 (g.map jAV))]):=by
 obtain⟨hs1,hs2⟩:=isSt_iff.1 hst
 obtain⟨hj1,hj2⟩:=areJ_iff.1 hjs
 have hk1:=hk.s1
 have l1:(st.map jAV).length=st.length:=by simp
 have l2:(js.map Job.av).length=js.length:=by simp
 have hnn:Nn st:=fun s hs=>(hs2 s hs).1
 have hsp:∀j,∀s∈fsG (w.fsJ js) j,0<=s/\s<st.length:=fun j s hs=>by have:=fsJ_sp hs;omega
 have hfl:=fsJ_len w js
 have e1:=p160 st h0 (by omega)
 refine fnO 13 ok162 (by simp) ?_
 (conv=>whnf);(repeat'((first|apply bT|apply bF|apply bN|((first|apply bD|apply bEq|apply bNe)<;>intro hh<;>try(exfalso;omega))|refine e1.oq rfl rfl rfl ?_|refine wJ ?_|refine nJ ?_)<;>conv=>whnf))
 refine loop_i (α :=Nat) (fun k=>[(16, .int .i64 k),(15, .int .i64 ↑(js.map Job.av).length),(14, .isl (js.map Job.av)),(7, .own 3 0),(6, .own 1 0),(3, .own 0 0),(2, .isl (js.map Job.av)),(1, .isl (st.map jAV))]) (fun k=>[.box false w.scL, .box false [.nils, .nils, .nils], .row false 3 1 (st.map jAV), .box false [.row 11, .row 2, .row 12], .fresh, .fresh, .fresh, .fresh, .fresh, .fresh, .fresh, .row false 27 1 ((w.fsJ (js.take k)).map fAV), .row false 3 1 ((List.replicate k (-1:Int)).map jAV)]) (fun k=>k<=js.length) (fun k=>js.length-k) 0 (mA [(11,none),(12,none)]) (by omega) ?_
 ·intro k hk0
  conv=>whnf
  refine bD (fun h3=>?_) (fun h3=>?_)
  ·have hkl:k<js.length:=by omega
   have gj:=getM Job.av js k hkl
   have hsl:=hj2 _ (List.getElem_mem hkl)
   have e2:=p161 w hk js[k].mkr js[k].sl hsl
   have hm1:(w.fsJ (js.take (k+1))).map fAV=(w.fsJ (js.take k)).map fAV++[fAV (w.sures js[k].mkr js[k].sl)]:=by
    unfold Shop.fsJ;rw[List.take_succ_eq_append_getElem hkl,List.map_append,List.map_append];rfl
   have hm2:(List.replicate (k+1) (-1:Int)).map jAV=(List.replicate k (-1:Int)).map jAV++[[.int .i64 (-1)]]:=by
    rw[List.replicate_succ',List.map_append];rfl
   have l3:((w.fsJ (js.take k)).map fAV).length=k:=by rw[List.length_map,fsJ_len,List.length_take];omega
   have l4:((List.replicate k (-1:Int)).map jAV).length=k:=by simp
   (conv=>whnf);(repeat'((first|apply bT|apply bF|apply bN|((first|apply bD|apply bEq|apply bNe)<;>intro hh<;>try(exfalso;omega))|refine iaJ gj ?_|refine e2.zq rfl rfl ?_|(refine apI (by simp[AV.one]) (by simp only[l3];simp;omega) ?_)|(refine apI (by simp[AV.one]) (by simp only[l4];simp;omega) ?_)|refine wJ ?_|refine nJ ?_)<;>conv=>whnf))
   refine⟨k+1,?_,by omega,by omega⟩
   rw[hm1,hm2]
   exact(mA [(11,some 7),(12,some 9)])
  ·have:k=js.length:=by omega
   subst this
   rw[List.take_length]
   (conv=>whnf);(repeat'((first|apply bT|apply bF|apply bN|((first|apply bD|apply bEq|apply bNe)<;>intro hh<;>try(exfalso;omega))|refine wJ ?_|refine nJ ?_)<;>conv=>whnf))
   refine loop_i (α :=Nat × List Int × List Int) (fun q=>[(39, .int .i64 q.1),(38, .int .i64 ↑(js.map Job.av).length),(7, .own 3 0),(6, .own 1 0),(3, .own 0 0),(2, .isl (js.map Job.av)),(1, .isl (st.map jAV))]) (fun q=>[.box false w.scL, .box false [.nils, .nils, .nils], .row false 3 1 (q.2.1.map jAV), .box false [.row 11, .row 2, .row 12], .fresh, .fresh, .fresh, .fresh, .fresh, .fresh, .fresh, .row false 27 1 ((w.fsJ js).map fAV), .row false 3 1 (q.2.2.map jAV)]) (fun q=>q.1<=js.length/\Part1 (w.fsJ js) st q.1 q.2.1 q.2.2) (fun q=>js.length-q.1) (0,st,List.replicate (w.fsJ js).length (-1)) ?_ ⟨by simp,part_0 hnn⟩ ?_
   ·dsimp only
    rw[hfl]
    exact mI
   rintro⟨k,left,g⟩ ⟨hk0,hP⟩
   dsimp only at hk0 hP⊢
   conv=>whnf
   refine bD (fun h3=>?_) (fun h3=>?_)
   ·have hkl:k<js.length:=by omega
    have hkf:k<(w.fsJ js).length:=by rw[hfl];exact hkl
    have hpre:=part_pre hP hkf hsp (by omega) (by omega) (fun j=>by have:=fsJ_len3 w js j;omega) (fun s=>by
     by_cases hs:s<st.length
     ·have:=hs2 s hs;omega
     ·have:st.getD s 0=0:=by simp[List.getD_eq_getElem?_getD,show st[s]?=none from List.getElem?_eq_none (by omega)]
      omega)
    have hg:=w136 (w.fsJ js) _ left g (List.replicate st.length false) k (Nat.le_refl _) hpre
    have hrep:List.replicate (↑(st.map jAV).length:Int).toNat [AV.bool false]=(List.replicate st.length false).map bAV:=by simp[bAV]
    have hg':=hg
    unfold wkIns at hg'
    rw[<- hrep]at hg'
    (conv=>whnf);(repeat'((first|apply bT|apply bF|apply bN|((first|apply bD|apply bEq|apply bNe)<;>intro hh<;>try(exfalso;omega))|refine mkI (by omega) (by omega) (by omega) ?_|refine wJ ?_|refine nJ ?_)<;>conv=>whnf))
    refine hg'.callwq [3,11,2,12,10] rfl rfl ⟨rfl,rfl,rfl,rfl,rfl,trivial⟩ rfl rfl rfl rfl (fun r outs hr=>?_)
    obtain⟨b,left',g',t3,hr1,ho,hl3,hf,hw⟩:=hr
    subst hr1;subst ho
    refine⟨⟨rfl,rfl,rfl,rfl⟩,?_⟩
    cases b with
    |false=>
     obtain⟨q1,q2,hF⟩:=hf rfl
     subst q1;subst q2
     have hN:=part_fail hP hsp hF
     (conv=>whnf);(repeat'((first|apply bT|apply bF|apply bN|((first|apply bD|apply bEq|apply bNe)<;>intro hh<;>try(exfalso;omega))|refine wJ ?_|refine nJ ?_)<;>conv=>whnf))
     exact⟨(k+1,left',g'),mI,⟨by dsimp only;omega,hN⟩,by dsimp only;omega⟩
    |true=>
     have hN:=part_win hP hkf hsp (hw rfl)
     (conv=>whnf);(repeat'((first|apply bT|apply bF|apply bN|((first|apply bD|apply bEq|apply bNe)<;>intro hh<;>try(exfalso;omega))|refine wJ ?_|refine nJ ?_)<;>conv=>whnf))
     exact⟨(k+1,left',g'),mI,⟨by dsimp only;omega,hN⟩,by dsimp only;omega⟩
   ·have:k=js.length:=by omega
    subst this
    rw[<- hfl]at hP
    (conv=>whnf);(repeat'((first|apply bT|apply bF|apply bN|((first|apply bD|apply bEq|apply bNe)<;>intro hh<;>try(exfalso;omega))|refine wJ ?_|refine nJ ?_)<;>conv=>whnf))
    all_goals exact⟨left,g,part_best hP,rfl,rfl⟩
theorem p135e(w:Shop)(hk:Ok w)(st:List Int)(js:List Job)(hst:w.isSt st=true)(hjs:w.areJ js=true)(h0:st.length=0):FnO Tryz.prog 162 [.agg w.scL, .isl (st.map jAV), .isl (js.map Job.av)] (fun r rows=>∃left g,Best (w.fsJ js) st left g/\r = .agg [.row 11, .isl [], .row 12]/\rows=[(11, .row false 27 1 ((w.fsJ js).map fAV)),(12, .row false 3 1 (g.map jAV))]):=by
 obtain⟨hs1,hs2⟩:=isSt_iff.1 hst
 obtain⟨hj1,hj2⟩:=areJ_iff.1 hjs
 have hk1:=hk.s1
 have l1:(st.map jAV).length=st.length:=by simp
 have l2:(js.map Job.av).length=js.length:=by simp
 have hnn:Nn st:=fun s hs=>(hs2 s hs).1
 have hsp:∀j,∀s∈fsG (w.fsJ js) j,0<=s/\s<st.length:=fun j s hs=>by have:=fsJ_sp hs;omega
 have hfl:=fsJ_len w js
 have hst0:st=[]:=List.eq_nil_of_length_eq_zero h0
 subst hst0
 have e1:=p160e
 refine fnO 13 ok162 (by simp) ?_
 (conv=>whnf);(repeat'((first|apply bT|apply bF|apply bN|((first|apply bD|apply bEq|apply bNe)<;>intro hh<;>try(exfalso;omega))|refine e1.zq rfl rfl ?_|refine wJ ?_|refine nJ ?_)<;>conv=>whnf))
 refine loop_i (α :=Nat) (fun k=>[(16, .int .i64 k),(15, .int .i64 ↑(js.map Job.av).length),(14, .isl (js.map Job.av)),(7, .own 3 0),(6, .own 1 0),(3, .own 0 0),(2, .isl (js.map Job.av)),(1, .isl (([]:List Int).map jAV))]) (fun k=>[.box false w.scL, .box false [.nils, .nils, .nils], .fresh, .box false [.row 11, .isl [], .row 12], .fresh, .fresh, .fresh, .fresh, .fresh, .fresh, .fresh, .row false 27 1 ((w.fsJ (js.take k)).map fAV), .row false 3 1 ((List.replicate k (-1:Int)).map jAV)]) (fun k=>k<=js.length) (fun k=>js.length-k) 0 (mA [(11,none),(12,none)]) (by omega) ?_
 ·intro k hk0
  conv=>whnf
  refine bD (fun h3=>?_) (fun h3=>?_)
  ·have hkl:k<js.length:=by omega
   have gj:=getM Job.av js k hkl
   have hsl:=hj2 _ (List.getElem_mem hkl)
   have e2:=p161 w hk js[k].mkr js[k].sl hsl
   have hm1:(w.fsJ (js.take (k+1))).map fAV=(w.fsJ (js.take k)).map fAV++[fAV (w.sures js[k].mkr js[k].sl)]:=by
    unfold Shop.fsJ;rw[List.take_succ_eq_append_getElem hkl,List.map_append,List.map_append];rfl
   have hm2:(List.replicate (k+1) (-1:Int)).map jAV=(List.replicate k (-1:Int)).map jAV++[[.int .i64 (-1)]]:=by
    rw[List.replicate_succ',List.map_append];rfl
   have l3:((w.fsJ (js.take k)).map fAV).length=k:=by rw[List.length_map,fsJ_len,List.length_take];omega
   have l4:((List.replicate k (-1:Int)).map jAV).length=k:=by simp
   (conv=>whnf);(repeat'((first|apply bT|apply bF|apply bN|((first|apply bD|apply bEq|apply bNe)<;>intro hh<;>try(exfalso;omega))|refine iaJ gj ?_|refine e2.zq rfl rfl ?_|(refine apI (by simp[AV.one]) (by simp only[l3];simp;omega) ?_)|(refine apI (by simp[AV.one]) (by simp only[l4];simp;omega) ?_)|refine wJ ?_|refine nJ ?_)<;>conv=>whnf))
   refine⟨k+1,?_,by omega,by omega⟩
   rw[hm1,hm2]
   exact(mA [(11,some 7),(12,some 9)])
  ·have:k=js.length:=by omega
   subst this
   rw[List.take_length]
   (conv=>whnf);(repeat'((first|apply bT|apply bF|apply bN|((first|apply bD|apply bEq|apply bNe)<;>intro hh<;>try(exfalso;omega))|refine wJ ?_|refine nJ ?_)<;>conv=>whnf))
   refine loop_i (α :=Nat × List Int × List Int) (fun q=>[(39, .int .i64 q.1),(38, .int .i64 ↑(js.map Job.av).length),(7, .own 3 0),(6, .own 1 0),(3, .own 0 0),(2, .isl (js.map Job.av)),(1, .isl (([]:List Int).map jAV))]) (fun q=>[.box false w.scL, .box false [.nils, .nils, .nils], .fresh, .box false [.row 11, .isl [], .row 12], .fresh, .fresh, .fresh, .fresh, .fresh, .fresh, .fresh, .row false 27 1 ((w.fsJ js).map fAV), .row false 3 1 (q.2.2.map jAV)]) (fun q=>q.1<=js.length/\Part1 (w.fsJ js) [] q.1 q.2.1 q.2.2) (fun q=>js.length-q.1) (0,[],List.replicate (w.fsJ js).length (-1)) ?_ ⟨by simp,part_0 hnn⟩ ?_
   ·dsimp only
    rw[hfl]
    exact mI
   rintro⟨k,left,g⟩ ⟨hk0,hP⟩
   dsimp only at hk0 hP⊢
   conv=>whnf
   refine bD (fun h3=>?_) (fun h3=>?_)
   ·have hkl:k<js.length:=by omega
    have hkf:k<(w.fsJ js).length:=by rw[hfl];exact hkl
    have h00:fsG (w.fsJ js) k=[]:=by
     cases hq:fsG (w.fsJ js) k with
     |nil=>rfl
     |cons a l=>
      have:=hsp k a (by rw[hq];simp)
      simp at this;omega
    have e3:=p136e (w.fsJ js) g k hkf (by omega) h00
    have hF:Fail (w.fsJ js) left g (List.replicate ([]:List Int).length false) [] k:=⟨fun x hx=>by simp[trB]at hx,fun x hx=>by rw[h00]at hx;exact absurd hx (by simp),fun x _ hx=>by simp[trB]at hx⟩
    have hN:=part_fail hP hsp hF
    (conv=>whnf);(repeat'((first|apply bT|apply bF|apply bN|((first|apply bD|apply bEq|apply bNe)<;>intro hh<;>try(exfalso;omega))|refine mkI (by simp) (by simp) (by simp) ?_|refine wJ ?_|refine nJ ?_)<;>conv=>whnf))
    refine e3.lookwq rfl (fun r (hr:r=_)=>?_);subst hr
    refine⟨rfl,?_⟩
    (conv=>whnf);(repeat'((first|apply bT|apply bF|apply bN|((first|apply bD|apply bEq|apply bNe)<;>intro hh<;>try(exfalso;omega))|refine wJ ?_|refine nJ ?_)<;>conv=>whnf))
    exact⟨(k+1,left,g),mI,⟨by dsimp only;omega,hN⟩,by dsimp only;omega⟩
   ·have:k=js.length:=by omega
    subst this
    rw[<- hfl]at hP
    (conv=>whnf);(repeat'((first|apply bT|apply bF|apply bN|((first|apply bD|apply bEq|apply bNe)<;>intro hh<;>try(exfalso;omega))|refine wJ ?_|refine nJ ?_)<;>conv=>whnf))
    all_goals exact⟨left,g,part_best hP,rfl,rfl⟩
structure Bd(w:Shop)(st:List Int)(js:List Job):Prop where
 s:w.sps.length<=1000000
 m1:w.mks.length<=1000000
 m2:∀x∈w.mks,x.length<=1000000
 st:st.length<=1000000
 j:js.length<=1000000
theorem js_10{w:Shop}{st:List Int}{js:List Job}(h:w.eO (w.isSt st&&w.areJ js)=0):js.length<=10:=by
 have hv:=eO_v h
 rw[Bool.and_eq_true]at hv
 exact(areJ_iff.1 hv.2).1
theorem p91x(w:Shop)(st:List Int)(js:List Job)(hb:Bd w st js)(h:w.eO (w.isSt st&&w.areJ js)≠0):FnA Tryz.prog 130 [.agg w.cells, .isl (st.map jAV), .isl (js.map Job.av)] (· = .tup [.agg [.isl [], .isl [], .isl []], .int .i64 (w.eO (w.isSt st&&w.areJ js))]):=by
 have e1:=p133 w st hb.s hb.st
 have e2:=p134 w js hb.m1 hb.m2 hb.j
 refine fnA 10 ok130 (by simp) ?_
 cases hi:w.isSt st with
 |false=>
  rw[hi]at e1 h
  have h':w.eO false≠0:=h
  have e3:=p69e w false h'
  (conv=>whnf);(repeat'((first|apply bT|apply bF|apply bN|((first|apply bD|apply bEq|apply bNe)<;>intro hh<;>try(exfalso;omega))|refine e1.cq rfl rfl ?_|refine e3.zq rfl rfl ?_|refine wJ ?_|refine nJ ?_)<;>conv=>whnf))
  all_goals rfl
 |true=>
  rw[hi]at e1 h
  rw[Bool.true_and]at h
  have e3:=p69e w (w.areJ js) h
  (conv=>whnf);(repeat'((first|apply bT|apply bF|apply bN|((first|apply bD|apply bEq|apply bNe)<;>intro hh<;>try(exfalso;omega))|refine e1.cq rfl rfl ?_|refine e2.cq rfl rfl ?_|refine e3.zq rfl rfl ?_|refine wJ ?_|refine nJ ?_)<;>conv=>whnf))
  all_goals rfl
theorem hasN_take{g:List Int}{k:Nat}(hk:k<g.length):hasN (g.take (k+1))=hasN (g.take k)+if g.getD k 0 = -1 then 0 else 1:=by
 have e:g.getD k 0=g[k]:=by simp[List.getD_eq_getElem?_getD,hk]
 rw[e]
 have h1:=hasN_add (g.take (k+1))
 have h2:=hasN_add (g.take k)
 unfold lackN at h1 h2
 rw[List.take_succ_eq_append_getElem hk,List.count_append]at h1
 rw[List.take_succ_eq_append_getElem hk]
 simp only[List.length_append,List.length_take,List.length_cons,List.length_nil]at h1 h2
 by_cases h:g[k] = -1
 ·rw[if_pos h]
  rw[h]at h1⊢
  have:([(-1:Int)].count (-1))=1:=rfl
  omega
 ·rw[if_neg h]
  have:([g[k]].count (-1))=0:=by rw[List.count_eq_zero];simpa using fun e=>h e.symm
  omega
theorem p92(x y:AV)(hx:∃es,x = .isl es)(hy:∃es,y = .isl es)(g:List Int)(hl:g.length<=1000000):FnA Tryz.prog 131 [.ipt [x,y, .isl (g.map jAV)]] (· = .int .i64 (hasN g)):=by
 obtain⟨xs,rfl⟩:=hx
 obtain⟨ys,rfl⟩:=hy
 have l1:(g.map jAV).length=g.length:=by simp
 refine fnA 0 ok131 (by simp) ?_
 (conv=>whnf);(repeat'((first|apply bT|apply bF|apply bN|((first|apply bD|apply bEq|apply bNe)<;>intro hh<;>try(exfalso;omega))|refine wJ ?_|refine nJ ?_)<;>conv=>whnf))
 refine loop_i (α :=Nat) (fun k=>[(11, .int .i64 k),(10, .int .i64 ↑(g.map jAV).length),(9, .isl (g.map jAV)),(3, .int .i64 (hasN (g.take k)))]) (fun k=>[]) (fun k=>k<=g.length) (fun k=>g.length-k) 0 mI (by omega) ?_
 intro k hk0
 conv=>whnf
 refine bD (fun h3=>?_) (fun h3=>?_)
 ·have hk:k<g.length:=by omega
  have gk:=jget hk
  have hn:=hasN_take hk
  have hle:hasN (g.take k)<=k:=by have:=hasN_add (g.take k);rw[List.length_take]at this;omega
  by_cases h:g.getD k 0 = -1
  ·rw[if_pos h]at hn
   (conv=>whnf);(repeat'((first|apply bT|apply bF|apply bN|((first|apply bD|apply bEq|apply bNe)<;>intro hh<;>try(exfalso;omega))|refine iaJ gk ?_|refine wJ ?_|refine nJ ?_)<;>conv=>whnf))
   refine⟨k+1,?_,by omega,by omega⟩
   rw[hn];exact mI
  ·rw[if_neg h]at hn
   (conv=>whnf);(repeat'((first|apply bT|apply bF|apply bN|((first|apply bD|apply bEq|apply bNe)<;>intro hh<;>try(exfalso;omega))|refine iaJ gk ?_|refine wJ ?_|refine nJ ?_)<;>conv=>whnf))
   refine⟨k+1,?_,by omega,by omega⟩
   rw[hn];exact mI
 ·have:k=g.length:=by omega
  subst this
  rw[List.take_length]
  (conv=>whnf);(repeat'((first|apply bT|apply bF|apply bN|((first|apply bD|apply bEq|apply bNe)<;>intro hh<;>try(exfalso;omega))|refine wJ ?_|refine nJ ?_)<;>conv=>whnf))
  all_goals rfl
theorem p91(w:Shop)(st:List Int)(js:List Job)(hb:Bd w st js)(h:w.eO (w.isSt st&&w.areJ js)=0)(h0:0<st.length):FnO Tryz.prog 130 [.agg w.cells, .isl (st.map jAV), .isl (js.map Job.av)] (fun r rows=>∃left g,Best (w.fsJ js) st left g/\r = .tup [.agg [.row 7, .row 8, .row 9], .int .i64 0]/\rows=[(7, .row false 27 1 ((w.fsJ js).map fAV)),(8, .row false 3 1 (left.map jAV)),(9, .row false 3 1 (g.map jAV))]):=by
 have hv:=eO_v h
 rw[Bool.and_eq_true]at hv
 obtain⟨hst,hjs⟩:=hv
 rw[hst,hjs]at h
 have hk:=chk_ok (chk_0 h)
 have e1:=p133 w st hb.s hb.st
 have e2:=p134 w js hb.m1 hb.m2 hb.j
 rw[hst]at e1;rw[hjs]at e2
 have e3:=p69 w true h
 have e4:=p135 w hk st js hst hjs h0
 refine fnO 10 ok130 (by simp) ?_
 (conv=>whnf);(repeat'((first|apply bT|apply bF|apply bN|((first|apply bD|apply bEq|apply bNe)<;>intro hh<;>try(exfalso;omega))|refine e1.cq rfl rfl ?_|refine e2.cq rfl rfl ?_|refine e3.zq rfl rfl ?_|refine wJ ?_|refine nJ ?_)<;>conv=>whnf))
 refine e4.callzq rfl rfl (fun r rows hr=>?_)
 obtain⟨left,g,hB,hr1,hr2⟩:=hr;subst hr1;subst hr2
 refine⟨rfl,?_⟩
 (conv=>whnf);(repeat'((first|apply bT|apply bF|apply bN|((first|apply bD|apply bEq|apply bNe)<;>intro hh<;>try(exfalso;omega))|refine wJ ?_|refine nJ ?_)<;>conv=>whnf))
 all_goals exact⟨left,g,hB,rfl,rfl⟩
theorem p91e(w:Shop)(st:List Int)(js:List Job)(hb:Bd w st js)(h:w.eO (w.isSt st&&w.areJ js)=0)(h0:st.length=0):FnO Tryz.prog 130 [.agg w.cells, .isl (st.map jAV), .isl (js.map Job.av)] (fun r rows=>∃left g,Best (w.fsJ js) st left g/\r = .tup [.agg [.row 7, .isl [], .row 8], .int .i64 0]/\rows=[(7, .row false 27 1 ((w.fsJ js).map fAV)),(8, .row false 3 1 (g.map jAV))]):=by
 have hv:=eO_v h
 rw[Bool.and_eq_true]at hv
 obtain⟨hst,hjs⟩:=hv
 rw[hst,hjs]at h
 have hk:=chk_ok (chk_0 h)
 have e1:=p133 w st hb.s hb.st
 have e2:=p134 w js hb.m1 hb.m2 hb.j
 rw[hst]at e1;rw[hjs]at e2
 have e3:=p69 w true h
 have e4:=p135e w hk st js hst hjs h0
 refine fnO 10 ok130 (by simp) ?_
 (conv=>whnf);(repeat'((first|apply bT|apply bF|apply bN|((first|apply bD|apply bEq|apply bNe)<;>intro hh<;>try(exfalso;omega))|refine e1.cq rfl rfl ?_|refine e2.cq rfl rfl ?_|refine e3.zq rfl rfl ?_|refine wJ ?_|refine nJ ?_)<;>conv=>whnf))
 refine e4.callzq rfl rfl (fun r rows hr=>?_)
 obtain⟨left,g,hB,hr1,hr2⟩:=hr;subst hr1;subst hr2
 refine⟨rfl,?_⟩
 (conv=>whnf);(repeat'((first|apply bT|apply bF|apply bN|((first|apply bD|apply bEq|apply bNe)<;>intro hh<;>try(exfalso;omega))|refine wJ ?_|refine nJ ?_)<;>conv=>whnf))
 all_goals exact⟨left,g,hB,rfl,rfl⟩
theorem p34(w:Shop)(st:List Int)(js:List Job)(hb:Bd w st js)(h:w.eO (w.isSt st&&w.areJ js)=0)(h0:0<st.length):FnA Tryz.prog 94 [.agg w.cells, .isl (st.map jAV), .isl (js.map Job.av)] (fun r=>∃left g,Best (w.fsJ js) st left g/\r = .tup [.int .i64 (hasN g), .int .i64 0]):=by
 have e1:=p91 w st js hb h h0
 have hj:=js_10 h
 refine fnA 5 ok94 (by simp) ?_
 (conv=>whnf);(repeat'((first|apply bT|apply bF|apply bN|((first|apply bD|apply bEq|apply bNe)<;>intro hh<;>try(exfalso;omega))|refine wJ ?_|refine nJ ?_)<;>conv=>whnf))
 refine e1.callzq rfl rfl (fun r rows hr=>?_)
 obtain⟨left,g,hB,hr1,hr2⟩:=hr;subst hr1;subst hr2
 refine⟨rfl,?_⟩
 have hl:=hB.lg
 rw[fsJ_len]at hl
 have e2:=p92 (.isl ((w.fsJ js).map fAV)) (.isl (left.map jAV)) ⟨_,rfl⟩ ⟨_,rfl⟩ g (by omega)
 (conv=>whnf);(repeat'((first|apply bT|apply bF|apply bN|((first|apply bD|apply bEq|apply bNe)<;>intro hh<;>try(exfalso;omega))|refine e2.lq rfl rfl ?_|refine wJ ?_|refine nJ ?_)<;>conv=>whnf))
 all_goals exact⟨left,g,hB,rfl⟩
theorem p34e(w:Shop)(st:List Int)(js:List Job)(hb:Bd w st js)(h:w.eO (w.isSt st&&w.areJ js)=0)(h0:st.length=0):FnA Tryz.prog 94 [.agg w.cells, .isl (st.map jAV), .isl (js.map Job.av)] (fun r=>∃left g,Best (w.fsJ js) st left g/\r = .tup [.int .i64 (hasN g), .int .i64 0]):=by
 have e1:=p91e w st js hb h h0
 have hj:=js_10 h
 refine fnA 5 ok94 (by simp) ?_
 (conv=>whnf);(repeat'((first|apply bT|apply bF|apply bN|((first|apply bD|apply bEq|apply bNe)<;>intro hh<;>try(exfalso;omega))|refine wJ ?_|refine nJ ?_)<;>conv=>whnf))
 refine e1.callzq rfl rfl (fun r rows hr=>?_)
 obtain⟨left,g,hB,hr1,hr2⟩:=hr;subst hr1;subst hr2
 refine⟨rfl,?_⟩
 have hl:=hB.lg
 rw[fsJ_len]at hl
 have e2:=p92 (.isl ((w.fsJ js).map fAV)) (.isl []) ⟨_,rfl⟩ ⟨_,rfl⟩ g (by omega)
 (conv=>whnf);(repeat'((first|apply bT|apply bF|apply bN|((first|apply bD|apply bEq|apply bNe)<;>intro hh<;>try(exfalso;omega))|refine e2.lq rfl rfl ?_|refine wJ ?_|refine nJ ?_)<;>conv=>whnf))
 all_goals exact⟨left,g,hB,rfl⟩
theorem p34x(w:Shop)(st:List Int)(js:List Job)(hb:Bd w st js)(h:w.eO (w.isSt st&&w.areJ js)≠0):FnA Tryz.prog 94 [.agg w.cells, .isl (st.map jAV), .isl (js.map Job.av)] (· = .tup [.int .i64 0, .int .i64 (w.eO (w.isSt st&&w.areJ js))]):=by
 have e1:=p91x w st js hb h
 refine fnA 5 ok94 (by simp) ?_
 (conv=>whnf);(repeat'((first|apply bT|apply bF|apply bN|((first|apply bD|apply bEq|apply bNe)<;>intro hh<;>try(exfalso;omega))|refine e1.zq rfl rfl ?_|refine wJ ?_|refine nJ ?_)<;>conv=>whnf))
 all_goals rfl
structure Big(w:Shop):Prop where
 s:w.sps.length<=1000000
 m:w.mks.length<=1000000
 t:w.tb.length<=1000000
 sl:∀x∈w.mks,x.length<=1000000/\∀y∈x,y.ss.length<=1000000
theorem p47(w:Shop)(i:Int)(hw:w.sps.length<=1000000):FnA Tryz.prog 154 [.agg w.cells, .int .i64 i] (· = .bool (w.isSp i)):=by
 have hL:(w.sps.map Spare.av).length=w.sps.length:=by simp
 have e1:=p90 i 0 (↑(w.sps.map Spare.av).length-1)
 unfold Shop.isSp
 refine fnA 1 ok154 (by simp) ?_
 (conv=>whnf);(repeat'((first|apply bT|apply bF|apply bN|((first|apply bD|apply bEq|apply bNe)<;>intro hh<;>try(exfalso;omega))|refine e1.cq rfl rfl ?_|refine wJ ?_|refine nJ ?_)<;>conv=>whnf))
 all_goals first|rfl|exact congrArg AV.bool (decide_eq_decide.2 (by omega))|exact congrArg AV.bool (decide_eq_true (by omega)).symm|exact congrArg AV.bool (decide_eq_false (by omega)).symm
theorem p80(w:Shop)(i:Int)(hw:w.mks.length<=1000000):FnA Tryz.prog 173 [.agg w.cells, .int .i64 i] (· = .bool (w.isMk i)):=by
 have hL:(w.mks.map mkAV).length=w.mks.length:=by simp
 have e1:=p90 i 0 (↑(w.mks.map mkAV).length-1)
 unfold Shop.isMk
 refine fnA 1 ok173 (by simp) ?_
 (conv=>whnf);(repeat'((first|apply bT|apply bF|apply bN|((first|apply bD|apply bEq|apply bNe)<;>intro hh<;>try(exfalso;omega))|refine e1.cq rfl rfl ?_|refine wJ ?_|refine nJ ?_)<;>conv=>whnf))
 all_goals first|rfl|exact congrArg AV.bool (decide_eq_decide.2 (by omega))|exact congrArg AV.bool (decide_eq_true (by omega)).symm|exact congrArg AV.bool (decide_eq_false (by omega)).symm
theorem p53(w:Shop)(m k:Int)(hw:w.mks.length<=1000000)(hm:∀x∈w.mks,x.length<=1000000):FnA Tryz.prog 155 [.agg w.cells, .int .i64 m, .int .i64 k] (· = .bool (w.isSl m k)):=by
 have hL:(w.mks.map mkAV).length=w.mks.length:=by simp
 have e1:=p80 w m hw
 unfold Shop.isSl
 refine fnA 1 ok155 (by simp) ?_
 cases h1:w.isMk m with
 |false=>
  rw[h1]at e1
  (conv=>whnf);(repeat'((first|apply bT|apply bF|apply bN|((first|apply bD|apply bEq|apply bNe)<;>intro hh<;>try(exfalso;omega))|refine e1.cq rfl rfl ?_|refine wJ ?_|refine nJ ?_)<;>conv=>whnf))
  all_goals rfl
 |true=>
  rw[h1]at e1
  have h2:=isMk_iff.1 h1
  have hL2:((w.slots m).map Slot.av).length=(w.slots m).length:=by simp
  have hS:(w.slots m).length<=1000000:=hm _ (slots_mem h1)
  have e2:=p90 k 0 (↑((w.slots m).map Slot.av).length-1)
  (conv=>whnf);(repeat'((first|apply bT|apply bF|apply bN|((first|apply bD|apply bEq|apply bNe)<;>intro hh<;>try(exfalso;omega))|refine e1.cq rfl rfl ?_|refine e2.cq rfl rfl ?_|refine iaJ (mkget h1) ?_|refine wJ ?_|refine nJ ?_)<;>conv=>whnf))
  all_goals (refine congrArg AV.bool ?_;rw[Bool.true_and];exact decide_eq_decide.2 (by omega))
theorem p51(l:List Int)(x:Int)(hl:l.length<=1000000):FnA Tryz.prog 85 [.isl (l.map jAV), .int .i64 x] (· = .bool (decide (x∈l))):=by
 have hL:(l.map jAV).length=l.length:=by simp
 refine fnA 0 ok85 (by simp) ?_
 (conv=>whnf);(repeat'((first|apply bT|apply bF|apply bN|((first|apply bD|apply bEq|apply bNe)<;>intro hh<;>try(exfalso;omega))|refine wJ ?_|refine nJ ?_)<;>conv=>whnf))
 refine loop_i (α :=Nat) (fun k=>[(5, .int .i64 k),(1, .int .i64 x),(0, .isl (l.map jAV))]) (fun k=>[]) (fun k=>k<=l.length/\∀b∈l.take k,decide (b=x)=false) (fun k=>l.length-k) 0 mI ⟨by omega,by simp⟩ ?_
 rintro k ⟨h1,h2⟩
 conv=>whnf
 refine bD (fun h3=>?_) (fun h3=>?_)
 ·have hk:k<l.length:=by omega
  by_cases hx:l[k]=x
  ·rw[decide_eq_true (show x∈l by rw[<- hx];exact List.getElem_mem hk)]
   conv=>whnf
   refine iaJ (getM jAV l k hk) ?_
   (conv=>whnf);(repeat'((first|apply bT|apply bF|apply bN|((first|apply bD|apply bEq|apply bNe)<;>intro hh<;>try(exfalso;omega))|refine wJ ?_|refine nJ ?_)<;>conv=>whnf))
   all_goals rfl
  ·conv=>whnf
   refine iaJ (getM jAV l k hk) ?_
   (conv=>whnf);(repeat'((first|apply bT|apply bF|apply bN|((first|apply bD|apply bEq|apply bNe)<;>intro hh<;>try(exfalso;omega))|refine wJ ?_|refine nJ ?_)<;>conv=>whnf))
   exact⟨k+1,mI,⟨by omega,take_none hk h2 (decide_eq_false hx)⟩,by omega⟩
 ·have:k=l.length:=by omega
  subst this
  rw[List.take_length]at h2
  rw[decide_eq_false (fun h=>by have:=h2 x h;simp at this)]
  (conv=>whnf);(repeat'((first|apply bT|apply bF|apply bN|((first|apply bD|apply bEq|apply bNe)<;>intro hh<;>try(exfalso;omega))|refine wJ ?_|refine nJ ?_)<;>conv=>whnf))
  all_goals rfl
theorem p121(x:Slot)(hl:x.ss.length<=1000000):FnA Tryz.prog 153 [.agg x.av] (· = .bool (okSl x)):=by
 have hL:(x.ss.map jAV).length=x.ss.length:=by simp
 refine fnA 1 ok153 (by simp) ?_
 (conv=>whnf);(repeat'((first|apply bT|apply bF|apply bN|((first|apply bD|apply bEq|apply bNe)<;>intro hh<;>try(exfalso;omega))|refine wJ ?_|refine nJ ?_)<;>conv=>whnf))
 refine loop_i (α :=Nat) (fun k=>[(3, .int .i64 k),(1, .own 0 0)]) (fun k=>[.box false x.av]) (fun k=>k<=x.ss.length/\∀n∈x.ss.take k,decide (0<=n/\n<=9)=true) (fun k=>x.ss.length-k) 0 mI ⟨by omega,by simp⟩ ?_
 rintro k ⟨h1,h2⟩
 conv=>whnf
 refine bD (fun h3=>?_) (fun h3=>?_)
 ·have hk:k<x.ss.length:=by omega
  have g1:=getM jAV x.ss k hk
  have e1:=p90 x.ss[k] 0 9
  cases hx:decide (0<=x.ss[k]/\x.ss[k]<=9)with
  |true=>
   rw[hx]at e1
   (conv=>whnf);(repeat'((first|apply bT|apply bF|apply bN|((first|apply bD|apply bEq|apply bNe)<;>intro hh<;>try(exfalso;omega))|refine iaJ g1 ?_|refine e1.cq rfl rfl ?_|refine wJ ?_|refine nJ ?_)<;>conv=>whnf))
   exact⟨k+1,mI,⟨by omega,take_all (p:=fun n=>decide (0<=n/\n<=9)) hk h2 hx⟩,by omega⟩
  |false=>
   rw[hx]at e1
   have h0:okSl x=false:=by unfold okSl;rw[all_not (p:=fun n=>decide (0<=n/\n<=9)) hk hx];simp
   rw[h0]
   (conv=>whnf);(repeat'((first|apply bT|apply bF|apply bN|((first|apply bD|apply bEq|apply bNe)<;>intro hh<;>try(exfalso;omega))|refine iaJ g1 ?_|refine e1.cq rfl rfl ?_|refine wJ ?_|refine nJ ?_)<;>conv=>whnf))
   all_goals rfl
 ·have:k=x.ss.length:=by omega
  subst this
  rw[List.take_length]at h2
  have ha:=all_yes (p:=fun n=>decide (0<=n/\n<=9)) h2
  have e1:=p90 x.k 0 9
  have e2:=p50 x.ss hl
  have e3:=p120 x.lo x.hi
  have h0:okSl x=(decide (0<=x.k/\x.k<=9)&&decide (x.ss.length<=4)&&ascB x.ss&&okLen x.lo x.hi):=by unfold okSl;rw[ha];simp
  rw[h0]
  generalize ascB x.ss=b3 at *
  cases h5:decide (0<=x.k/\x.k<=9)with
  |false=>
   rw[h5]at e1
   (conv=>whnf);(repeat'((first|apply bT|apply bF|apply bN|((first|apply bD|apply bEq|apply bNe)<;>intro hh<;>try(exfalso;omega))|refine e1.cq rfl rfl ?_|refine wJ ?_|refine nJ ?_)<;>conv=>whnf))
   all_goals rfl
  |true=>
   rw[h5]at e1
   by_cases h6:x.ss.length<=4
   ·rw[decide_eq_true h6]
    cases b3
    all_goals
     (conv=>whnf);(repeat'((first|apply bT|apply bF|apply bN|((first|apply bD|apply bEq|apply bNe)<;>intro hh<;>try(exfalso;omega))|refine e1.cq rfl rfl ?_|refine e2.cq rfl rfl ?_|refine e3.cq rfl rfl ?_|refine wJ ?_|refine nJ ?_)<;>conv=>whnf))
     all_goals rfl
   ·rw[decide_eq_false h6]
    (conv=>whnf);(repeat'((first|apply bT|apply bF|apply bN|((first|apply bD|apply bEq|apply bNe)<;>intro hh<;>try(exfalso;omega))|refine e1.cq rfl rfl ?_|refine wJ ?_|refine nJ ?_)<;>conv=>whnf))
    all_goals rfl
theorem p68(w:Shop)(hB:Big w):FnA Tryz.prog 122 [.agg w.cells] (· = .bool (okW w)):=by
 have l1:(w.sps.map Spare.av).length=w.sps.length:=by simp
 have l2:(w.mks.map mkAV).length=w.mks.length:=by simp
 have l3:(w.tb.map Trial.av).length=w.tb.length:=by simp
 have hBs:=hB.s
 have hBm:=hB.m
 have hBt:=hB.t
 have e3:=p90 w.cut 0 99
 by_cases h1:w.sps.length<=10
 case neg=>
  have h0:okW w=false:=by unfold okW;rw[decide_eq_false h1];simp
  rw[h0]
  refine fnA 3 ok122 (by simp) ?_
  (conv=>whnf);(repeat'((first|apply bT|apply bF|apply bN|((first|apply bD|apply bEq|apply bNe)<;>intro hh<;>try(exfalso;omega))|refine wJ ?_|refine nJ ?_)<;>conv=>whnf))
  all_goals rfl
 by_cases h3:w.mks.length<=6
 case neg=>
  have h0:okW w=false:=by unfold okW;rw[decide_eq_false h3];simp
  rw[h0]
  refine fnA 3 ok122 (by simp) ?_
  (conv=>whnf);(repeat'((first|apply bT|apply bF|apply bN|((first|apply bD|apply bEq|apply bNe)<;>intro hh<;>try(exfalso;omega))|refine wJ ?_|refine nJ ?_)<;>conv=>whnf))
  all_goals rfl
 by_cases h5:0<=w.cut/\w.cut<=99
 case neg=>
  have h0:okW w=false:=by unfold okW;rw[decide_eq_false h5];simp
  rw[h0]
  rw[decide_eq_false h5]at e3
  refine fnA 3 ok122 (by simp) ?_
  (conv=>whnf);(repeat'((first|apply bT|apply bF|apply bN|((first|apply bD|apply bEq|apply bNe)<;>intro hh<;>try(exfalso;omega))|refine e3.cq rfl rfl ?_|refine wJ ?_|refine nJ ?_)<;>conv=>whnf))
  all_goals rfl
 rw[decide_eq_true h5]at e3
 by_cases h6:w.tb.length<=30
 case neg=>
  have h0:okW w=false:=by unfold okW;rw[decide_eq_false h6];simp
  rw[h0]
  refine fnA 3 ok122 (by simp) ?_
  (conv=>whnf);(repeat'((first|apply bT|apply bF|apply bN|((first|apply bD|apply bEq|apply bNe)<;>intro hh<;>try(exfalso;omega))|refine e3.cq rfl rfl ?_|refine wJ ?_|refine nJ ?_)<;>conv=>whnf))
  all_goals rfl
 have h0:okW w=(w.sps.all okSp&&w.mks.all okMk&&w.tb.all (okTr w)):=by unfold okW;rw[decide_eq_true h1,decide_eq_true h3,decide_eq_true h5,decide_eq_true h6];simp
 rw[h0]
 refine fnA 3 ok122 (by simp) ?_
 (conv=>whnf);(repeat'((first|apply bT|apply bF|apply bN|((first|apply bD|apply bEq|apply bNe)<;>intro hh<;>try(exfalso;omega))|refine e3.cq rfl rfl ?_|refine wJ ?_|refine nJ ?_)<;>conv=>whnf))
 refine loop_i (α :=Nat) (fun k=>[(3, .int .i64 k),(1, .own 0 0)]) (fun k=>[.box false w.cells, .fresh, .fresh]) (fun k=>k<=w.sps.length/\∀n∈w.sps.take k,okSp n=true) (fun k=>w.sps.length-k) 0 mI ⟨by omega,by simp⟩ ?_
 rintro k ⟨k1,k2⟩
 conv=>whnf
 refine bD (fun h7=>?_) (fun h7=>?_)
 ·have hk:k<w.sps.length:=by omega
  have g1:=getM Spare.av w.sps k hk
  have f1:=p90 w.sps[k].k 0 9
  have f2:=p90 w.sps[k].s 0 9
  have f3:=p120 w.sps[k].lo w.sps[k].hi
  have ho:okSp w.sps[k]=(decide (0<=w.sps[k].k/\w.sps[k].k<=9)&&decide (0<=w.sps[k].s/\w.sps[k].s<=9)&&okLen w.sps[k].lo w.sps[k].hi):=rfl
  have hno:okSp w.sps[k]=false->(w.sps.all okSp&&w.mks.all okMk&&w.tb.all (okTr w))=false:=fun h=>by rw[all_not hk h];simp
  have hyes:okSp w.sps[k]=true->∀n∈w.sps.take (k+1),okSp n=true:=fun h=>take_all hk k2 h
  generalize decide (0<=w.sps[k].k/\w.sps[k].k<=9)=b1 at *
  generalize decide (0<=w.sps[k].s/\w.sps[k].s<=9)=b2 at *
  generalize okLen w.sps[k].lo w.sps[k].hi=b3 at *
  cases b1<;>cases b2<;>cases b3
  case true.true.true=>
   (conv=>whnf);(repeat'((first|apply bT|apply bF|apply bN|((first|apply bD|apply bEq|apply bNe)<;>intro hh<;>try(exfalso;omega))|refine iaJ g1 ?_|refine f1.cq rfl rfl ?_|refine f2.cq rfl rfl ?_|refine f3.cq rfl rfl ?_|refine wJ ?_|refine nJ ?_)<;>conv=>whnf))
   exact⟨k+1,mI,⟨by omega,hyes ho⟩,by omega⟩
  all_goals
   rw[hno ho]
   (conv=>whnf);(repeat'((first|apply bT|apply bF|apply bN|((first|apply bD|apply bEq|apply bNe)<;>intro hh<;>try(exfalso;omega))|refine iaJ g1 ?_|refine f1.cq rfl rfl ?_|refine f2.cq rfl rfl ?_|refine f3.cq rfl rfl ?_|refine wJ ?_|refine nJ ?_)<;>conv=>whnf))
   all_goals rfl
 ·have:k=w.sps.length:=by omega
  subst this
  rw[List.take_length]at k2
  rw[all_yes k2,Bool.true_and]
  (conv=>whnf);(repeat'((first|apply bT|apply bF|apply bN|((first|apply bD|apply bEq|apply bNe)<;>intro hh<;>try(exfalso;omega))|refine wJ ?_|refine nJ ?_)<;>conv=>whnf))
  refine loop_i (α :=Nat) (fun k=>[(5, .int .i64 k),(1, .own 0 0)]) (fun k=>[.box false w.cells, .fresh, .fresh]) (fun k=>k<=w.mks.length/\∀n∈w.mks.take k,okMk n=true) (fun k=>w.mks.length-k) 0 mI ⟨by omega,by simp⟩ ?_
  rintro m ⟨m1,m2⟩
  conv=>whnf
  refine bD (fun h8=>?_) (fun h8=>?_)
  ·have hm:m<w.mks.length:=by omega
   have g1:=getM mkAV w.mks m hm
   have hbs:=hB.sl _ (List.getElem_mem hm)
   have l4:(w.mks[m].map Slot.av).length=w.mks[m].length:=by simp
   have hno:okMk w.mks[m]=false->(w.mks.all okMk&&w.tb.all (okTr w))=false:=fun h=>by rw[all_not hm h];simp
   have hyes:okMk w.mks[m]=true->∀n∈w.mks.take (m+1),okMk n=true:=fun h=>take_all hm m2 h
   by_cases h9:w.mks[m].length<=4
   ·(conv=>whnf);(repeat'((first|apply bT|apply bF|apply bN|((first|apply bD|apply bEq|apply bNe)<;>intro hh<;>try(exfalso;omega))|refine iaJ g1 ?_|refine wJ ?_|refine nJ ?_)<;>conv=>whnf))
    refine loop_i (α :=Nat) (fun k=>[(6, .int .i64 k),(5, .int .i64 m),(1, .own 0 0)]) (fun k=>[.box false w.cells, .fresh, .fresh]) (fun k=>k<=w.mks[m].length/\∀n∈w.mks[m].take k,okSl n=true) (fun k=>w.mks[m].length-k) 0 mI ⟨by omega,by simp⟩ ?_
    rintro s ⟨s1,s2⟩
    conv=>whnf
    refine iaJ g1 ?_
    conv=>whnf
    refine bD (fun h10=>?_) (fun h10=>?_)
    ·have hs:s<w.mks[m].length:=by omega
     have g2:=getM Slot.av w.mks[m] s hs
     have f1:=p121 w.mks[m][s] (hbs.2 _ (List.getElem_mem hs))
     cases hx:okSl w.mks[m][s]with
     |true=>
      rw[hx]at f1
      (conv=>whnf);(repeat'((first|apply bT|apply bF|apply bN|((first|apply bD|apply bEq|apply bNe)<;>intro hh<;>try(exfalso;omega))|refine iaJ g1 ?_|refine iaJ g2 ?_|refine f1.cq rfl rfl ?_|refine wJ ?_|refine nJ ?_)<;>conv=>whnf))
      exact⟨s+1,mI,⟨by omega,take_all hs s2 hx⟩,by omega⟩
     |false=>
      rw[hx]at f1
      rw[hno (by unfold okMk;rw[all_not hs hx];simp)]
      (conv=>whnf);(repeat'((first|apply bT|apply bF|apply bN|((first|apply bD|apply bEq|apply bNe)<;>intro hh<;>try(exfalso;omega))|refine iaJ g1 ?_|refine iaJ g2 ?_|refine f1.cq rfl rfl ?_|refine wJ ?_|refine nJ ?_)<;>conv=>whnf))
      all_goals rfl
    ·have:s=w.mks[m].length:=by omega
     subst this
     rw[List.take_length]at s2
     (conv=>whnf);(repeat'((first|apply bT|apply bF|apply bN|((first|apply bD|apply bEq|apply bNe)<;>intro hh<;>try(exfalso;omega))|refine wJ ?_|refine nJ ?_)<;>conv=>whnf))
     exact⟨m+1,mI,⟨by omega,hyes (by unfold okMk;rw[all_yes s2,decide_eq_true h9];rfl)⟩,by omega⟩
   ·rw[hno (by unfold okMk;rw[decide_eq_false h9];rfl)]
    (conv=>whnf);(repeat'((first|apply bT|apply bF|apply bN|((first|apply bD|apply bEq|apply bNe)<;>intro hh<;>try(exfalso;omega))|refine iaJ g1 ?_|refine wJ ?_|refine nJ ?_)<;>conv=>whnf))
    all_goals rfl
  ·have:m=w.mks.length:=by omega
   subst this
   rw[List.take_length]at m2
   rw[all_yes m2,Bool.true_and]
   (conv=>whnf);(repeat'((first|apply bT|apply bF|apply bN|((first|apply bD|apply bEq|apply bNe)<;>intro hh<;>try(exfalso;omega))|refine wJ ?_|refine nJ ?_)<;>conv=>whnf))
   refine loop_i (α :=Nat) (fun k=>[(7, .int .i64 k),(1, .own 0 0)]) (fun k=>[.box false w.cells, .fresh, .fresh]) (fun k=>k<=w.tb.length/\∀n∈w.tb.take k,okTr w n=true) (fun k=>w.tb.length-k) 0 mI ⟨by omega,by simp⟩ ?_
   rintro t ⟨t1,t2⟩
   conv=>whnf
   refine bD (fun h9=>?_) (fun h9=>?_)
   ·have ht:t<w.tb.length:=by omega
    have g1:=getM Trial.av w.tb t ht
    have f1:=p47 w w.tb[t].sp hBs
    have f2:=p53 w w.tb[t].mkr w.tb[t].sl hBm (fun x hx=>(hB.sl x hx).1)
    have f3:=p90 w.tb[t].ft 0 1
    have ho:okTr w w.tb[t]=(w.isSp w.tb[t].sp&&w.isSl w.tb[t].mkr w.tb[t].sl&&decide (0<=w.tb[t].ft/\w.tb[t].ft<=1)):=rfl
    have hno:okTr w w.tb[t]=false->w.tb.all (okTr w)=false:=fun h=>all_not ht h
    have hyes:okTr w w.tb[t]=true->∀n∈w.tb.take (t+1),okTr w n=true:=fun h=>take_all ht t2 h
    generalize w.isSp w.tb[t].sp=b1 at *
    generalize w.isSl w.tb[t].mkr w.tb[t].sl=b2 at *
    generalize decide (0<=w.tb[t].ft/\w.tb[t].ft<=1)=b3 at *
    cases b1<;>cases b2<;>cases b3
    case true.true.true=>
     (conv=>whnf);(repeat'((first|apply bT|apply bF|apply bN|((first|apply bD|apply bEq|apply bNe)<;>intro hh<;>try(exfalso;omega))|refine iaJ g1 ?_|refine f1.cq rfl rfl ?_|refine f2.cq rfl rfl ?_|refine f3.cq rfl rfl ?_|refine wJ ?_|refine nJ ?_)<;>conv=>whnf))
     exact⟨t+1,mI,⟨by omega,hyes ho⟩,by omega⟩
    all_goals
     rw[hno ho]
     (conv=>whnf);(repeat'((first|apply bT|apply bF|apply bN|((first|apply bD|apply bEq|apply bNe)<;>intro hh<;>try(exfalso;omega))|refine iaJ g1 ?_|refine f1.cq rfl rfl ?_|refine f2.cq rfl rfl ?_|refine f3.cq rfl rfl ?_|refine wJ ?_|refine nJ ?_)<;>conv=>whnf))
     all_goals rfl
   ·have:t=w.tb.length:=by omega
    subst this
    rw[List.take_length]at t2
    rw[all_yes t2]
    (conv=>whnf);(repeat'((first|apply bT|apply bF|apply bN|((first|apply bD|apply bEq|apply bNe)<;>intro hh<;>try(exfalso;omega))|refine wJ ?_|refine nJ ?_)<;>conv=>whnf))
    all_goals rfl
theorem Ok.big{w:Shop}(h:Ok w):Big w:=⟨by have:=h.s1;omega,by have:=h.m1;omega,by have:=h.t1;omega,fun x hx=>⟨by have:=(h.m2 x hx).1;omega,fun y hy=>by have:=((h.m2 x hx).2 y hy).2.1;omega⟩⟩
theorem clash_pair{l:List Trial}(hf:∀x∈l,0<=x.ft/\x.ft<=1):clash l=true<->∃k i:Nat,k<i/\∃a b:Trial,l[k]?=some a/\l[i]?=some b/\a.sp=b.sp/\a.mkr=b.mkr/\a.sl=b.sl/\a.ft≠b.ft:=by
 unfold clash
 rw[List.any_eq_true]
 constructor
 ·rintro⟨t,ht,hd⟩
  have hd:=of_decide_eq_true hd
  obtain⟨x,hx,rfl⟩:=List.getElem_of_mem ht
  obtain⟨y,hy,he⟩:=List.getElem_of_mem hd
  have hfx:=hf _ (List.getElem_mem hx)
  have hfy:=hf _ (List.getElem_mem hy)
  have e1:l[y].sp=l[x].sp:=by rw[he];rfl
  have e2:l[y].mkr=l[x].mkr:=by rw[he];rfl
  have e3:l[y].sl=l[x].sl:=by rw[he];rfl
  have e4:l[y].ft=1-l[x].ft:=by rw[he];rfl
  rcases Nat.lt_trichotomy x y with h|h|h
  ·exact⟨x,y,h,_,_,List.getElem?_eq_getElem hx,List.getElem?_eq_getElem hy,e1.symm,e2.symm,e3.symm,by omega⟩
  ·subst h;omega
  ·exact⟨y,x,h,_,_,List.getElem?_eq_getElem hy,List.getElem?_eq_getElem hx,e1,e2,e3,by omega⟩
 ·rintro⟨k,i,_,a,b,h1,h2,e1,e2,e3,e4⟩
  have ha:=List.mem_of_getElem? h1
  have hb:=List.mem_of_getElem? h2
  have:=hf a ha
  have:=hf b hb
  refine⟨a,ha,decide_eq_true ?_⟩
  have:a.neg=b:=by
   cases a;cases b
   simp only[Trial.neg,Trial.mk.injEq]at *
   omega
  rw[this];exact hb
theorem p18(w:Shop)(hB:Big w):FnA Tryz.prog 73 [.agg w.cells] (· = .int .i64 w.chk):=by
 have e1:=p68 w hB
 have l3:(w.tb.map Trial.av).length=w.tb.length:=by simp
 have hBt:=hB.t
 unfold Shop.chk
 cases h:okW w with
 |false=>
  rw[h]at e1
  refine fnA 3 ok73 (by simp) ?_
  (conv=>whnf);(repeat'((first|apply bT|apply bF|apply bN|((first|apply bD|apply bEq|apply bNe)<;>intro hh<;>try(exfalso;omega))|refine e1.cq rfl rfl ?_|refine wJ ?_|refine nJ ?_)<;>conv=>whnf))
  all_goals rfl
 |true=>
 rw[h]at e1
 have hk:=okW_ok h
 have hcp:=clash_pair (l:=w.tb) (fun x hx=>(hk.t2 x hx).2.2)
 rw[if_pos rfl]
 refine fnA 3 ok73 (by simp) ?_
 (conv=>whnf);(repeat'((first|apply bT|apply bF|apply bN|((first|apply bD|apply bEq|apply bNe)<;>intro hh<;>try(exfalso;omega))|refine e1.cq rfl rfl ?_|refine wJ ?_|refine nJ ?_)<;>conv=>whnf))
 refine loop_i (α :=Nat) (fun k=>[(3, .int .i64 k),(1, .own 0 0)]) (fun k=>[.box false w.cells, .fresh, .fresh]) (fun i=>i<=w.tb.length/\∀i' k,i'<i->k<i'->¬ ∃a b:Trial,w.tb[k]?=some a/\w.tb[i']?=some b/\a.sp=b.sp/\a.mkr=b.mkr/\a.sl=b.sl/\a.ft≠b.ft) (fun k=>w.tb.length-k) 0 mI ⟨by omega,fun i' k hi=>by omega⟩ ?_
 rintro i ⟨i1,i2⟩
 conv=>whnf
 refine bD (fun h3=>?_) (fun h3=>?_)
 ·have hi:i<w.tb.length:=by omega
  have gi:=getM Trial.av w.tb i hi
  (conv=>whnf);(repeat'((first|apply bT|apply bF|apply bN|((first|apply bD|apply bEq|apply bNe)<;>intro hh<;>try(exfalso;omega))|refine wJ ?_|refine nJ ?_)<;>conv=>whnf))
  refine loop_i (α :=Nat) (fun k=>[(4, .int .i64 k),(3, .int .i64 i),(1, .own 0 0)]) (fun k=>[.box false w.cells, .fresh, .fresh]) (fun k=>k<=i/\∀k',k'<k->¬ ∃a b:Trial,w.tb[k']?=some a/\w.tb[i]?=some b/\a.sp=b.sp/\a.mkr=b.mkr/\a.sl=b.sl/\a.ft≠b.ft) (fun k=>i-k) 0 mI ⟨by omega,fun k' hk=>by omega⟩ ?_
  rintro k ⟨k1,k2⟩
  conv=>whnf
  refine bD (fun h4=>?_) (fun h4=>?_)
  ·have hkl:k<w.tb.length:=by omega
   have gk:=getM Trial.av w.tb k hkl
   by_cases hc:w.tb[k].sp=w.tb[i].sp/\w.tb[k].mkr=w.tb[i].mkr/\w.tb[k].sl=w.tb[i].sl/\w.tb[k].ft≠w.tb[i].ft
   ·have hcl:clash w.tb=true:=hcp.2 ⟨k,i,by omega,_,_,List.getElem?_eq_getElem hkl,List.getElem?_eq_getElem hi,hc⟩
    rw[if_pos hcl]
    (conv=>whnf);(repeat'((first|apply bT|apply bF|apply bN|((first|apply bD|apply bEq|apply bNe)<;>intro hh<;>try(exfalso;omega))|refine iaJ gk ?_|refine iaJ gi ?_|refine wJ ?_|refine nJ ?_)<;>conv=>whnf))
    all_goals rfl
   ·(conv=>whnf);(repeat'((first|apply bT|apply bF|apply bN|((first|apply bD|apply bEq|apply bNe)<;>intro hh<;>try(exfalso;omega))|refine iaJ gk ?_|refine iaJ gi ?_|refine wJ ?_|refine nJ ?_)<;>conv=>whnf))
    all_goals
     refine⟨k+1,mI,⟨by omega,fun k' hk'=>?_⟩,by omega⟩
     by_cases e:k'=k
     ·subst e
      rintro⟨a,b,q1,q2,q3⟩
      rw[List.getElem?_eq_getElem hkl]at q1;cases q1
      rw[List.getElem?_eq_getElem hi]at q2;cases q2
      exact hc q3
     ·exact k2 k' (by omega)
  ·have:k=i:=by omega
   subst this
   (conv=>whnf);(repeat'((first|apply bT|apply bF|apply bN|((first|apply bD|apply bEq|apply bNe)<;>intro hh<;>try(exfalso;omega))|refine wJ ?_|refine nJ ?_)<;>conv=>whnf))
   refine⟨k+1,mI,⟨by omega,fun i' k' hi' hk'=>?_⟩,by omega⟩
   by_cases e:i'=k
   ·subst e;exact k2 k' hk'
   ·exact i2 i' k' (by omega) hk'
 ·have hcl:clash w.tb=false:=by
   rw[Bool.eq_false_iff];intro hc
   obtain⟨k,j,hkj,a,b,q1,q2,q3⟩:=hcp.1 hc
   have hj:=(List.getElem?_eq_some_iff.1 q2).1
   exact i2 j k (by omega) hkj ⟨a,b,q1,q2,q3⟩
  rw[hcl]
  (conv=>whnf);(repeat'((first|apply bT|apply bF|apply bN|((first|apply bD|apply bEq|apply bNe)<;>intro hh<;>try(exfalso;omega))|refine wJ ?_|refine nJ ?_)<;>conv=>whnf))
  all_goals rfl
theorem p46(w:Shop)(hk:Ok w)(i n m k:Int)(hi:w.isSp i=true)(hm:w.isSl m k=true):FnA Tryz.prog 186 [.agg w.cells, .int .i64 i, .int .i64 n, .int .i64 m, .int .i64 k] (· = .bool (w.fit i n m k)):=by
 have l1:(w.sps.map Spare.av).length=w.sps.length:=by simp
 have l2:(w.mks.map mkAV).length=w.mks.length:=by simp
 have l3:((w.slots m).map Slot.av).length=(w.slots m).length:=by simp
 have h1:=isSp_iff.1 hi
 obtain⟨h2,h3⟩:=isSl_iff.1 hm
 have h2':=isMk_iff.1 h2
 have hs:=hk.slot hm
 have hc:=hk.c
 have g1:=spget hi
 have g2:=mkget h2
 have g3:=slget hm
 have e1:=p51 (w.slot m k).ss (w.sp i).s (by omega)
 have e2:=p90 n (w.slot m k).lo ((w.slot m k).hi+w.cut)
 unfold Shop.fit Shop.kin
 refine fnA 3 ok186 (by simp) ?_
 by_cases ha:(w.sp i).k=(w.slot m k).k
 ·by_cases hb:(w.sp i).s∈(w.slot m k).ss
  ·rw[decide_eq_true hb]at e1
   rw[decide_eq_true ha,decide_eq_true hb]
   (conv=>whnf);(repeat'((first|apply bT|apply bF|apply bN|((first|apply bD|apply bEq|apply bNe)<;>intro hh<;>try(exfalso;omega))|refine iaJ g1 ?_|refine iaJ g2 ?_|refine iaJ g3 ?_|refine e1.cq rfl rfl ?_|refine e2.cq rfl rfl ?_|refine wJ ?_|refine nJ ?_)<;>conv=>whnf))
   all_goals rfl
  ·rw[decide_eq_false hb]at e1
   rw[decide_eq_true ha,decide_eq_false hb]
   (conv=>whnf);(repeat'((first|apply bT|apply bF|apply bN|((first|apply bD|apply bEq|apply bNe)<;>intro hh<;>try(exfalso;omega))|refine iaJ g1 ?_|refine iaJ g2 ?_|refine iaJ g3 ?_|refine e1.cq rfl rfl ?_|refine wJ ?_|refine nJ ?_)<;>conv=>whnf))
   all_goals rfl
 ·rw[decide_eq_false ha]
  (conv=>whnf);(repeat'((first|apply bT|apply bF|apply bN|((first|apply bD|apply bEq|apply bNe)<;>intro hh<;>try(exfalso;omega))|refine iaJ g1 ?_|refine iaJ g2 ?_|refine iaJ g3 ?_|refine wJ ?_|refine nJ ?_)<;>conv=>whnf))
  all_goals rfl
theorem p44(w:Shop)(hk:Ok w)(i n:Int)(hi:w.isSp i=true):FnA Tryz.prog 189 [.agg w.cells, .int .i64 i, .int .i64 n] (· = .bool (w.can i n)):=by
 have l1:(w.sps.map Spare.av).length=w.sps.length:=by simp
 have l3:(w.tb.map Trial.av).length=w.tb.length:=by simp
 have h1:=isSp_iff.1 hi
 have ht1:=hk.t1
 have hs1:=hk.s1
 have g1:=spget hi
 have e2:=p90 n (w.sp i).lo (w.sp i).hi
 unfold Shop.can
 refine fnA 2 ok189 (by simp) ?_
 (conv=>whnf);(repeat'((first|apply bT|apply bF|apply bN|((first|apply bD|apply bEq|apply bNe)<;>intro hh<;>try(exfalso;omega))|refine wJ ?_|refine nJ ?_)<;>conv=>whnf))
 refine loop_i (α :=Nat) (fun k=>[(7, .int .i64 k),(3, .own 0 0),(2, .int .i64 n),(1, .int .i64 i)]) (fun k=>[.box false w.cells, .fresh]) (fun k=>k<=w.tb.length/\∀t∈w.tb.take k,okT w i n t=true) (fun k=>w.tb.length-k) 0 mI ⟨by omega,by simp⟩ ?_
 rintro k ⟨k1,k2⟩
 conv=>whnf
 refine bD (fun h3=>?_) (fun h3=>?_)
 ·have hkl:k<w.tb.length:=by omega
  have ht:=hk.t2 _ (List.getElem_mem hkl)
  have gk:=getM Trial.av w.tb k hkl
  have hyes:okT w i n w.tb[k]=true->∀t∈w.tb.take (k+1),okT w i n t=true:=fun h=>take_all hkl k2 h
  have hno:okT w i n w.tb[k]=false->(decide ((w.sp i).lo<=n/\n<=(w.sp i).hi)&&w.tb.all (okT w i n))=false:=fun h=>by rw[all_not hkl h];simp
  have hdef:okT w i n w.tb[k]=decide (w.tb[k].sp=i->w.fit i n w.tb[k].mkr w.tb[k].sl=decide (w.tb[k].ft=1)):=rfl
  by_cases hs:w.tb[k].sp=i
  ·have e1:=p46 w hk i n w.tb[k].mkr w.tb[k].sl hi ht.2.1
   unfold Trial.av at gk
   by_cases hf:w.tb[k].ft=1
   ·rw[hf]at gk
    cases hx:w.fit i n w.tb[k].mkr w.tb[k].sl with
    |true=>
     rw[hx]at e1
     (conv=>whnf);(repeat'((first|apply bT|apply bF|apply bN|((first|apply bD|apply bEq|apply bNe)<;>intro hh<;>try(exfalso;omega))|refine iaJ gk ?_|refine e1.cq rfl rfl ?_|refine wJ ?_|refine nJ ?_)<;>conv=>whnf))
     exact⟨k+1,mI,⟨by omega,hyes (by rw[hdef,hx,hf];simp)⟩,by omega⟩
    |false=>
     rw[hx]at e1
     rw[hno (by rw[hdef,hx,hf];simp[hs])]
     (conv=>whnf);(repeat'((first|apply bT|apply bF|apply bN|((first|apply bD|apply bEq|apply bNe)<;>intro hh<;>try(exfalso;omega))|refine iaJ gk ?_|refine e1.cq rfl rfl ?_|refine wJ ?_|refine nJ ?_)<;>conv=>whnf))
     all_goals rfl
   ·have hf0:w.tb[k].ft=0:=by omega
    rw[hf0]at gk
    cases hx:w.fit i n w.tb[k].mkr w.tb[k].sl with
    |true=>
     rw[hx]at e1
     rw[hno (by rw[hdef,hx,hf0];simp[hs])]
     (conv=>whnf);(repeat'((first|apply bT|apply bF|apply bN|((first|apply bD|apply bEq|apply bNe)<;>intro hh<;>try(exfalso;omega))|refine iaJ gk ?_|refine e1.cq rfl rfl ?_|refine wJ ?_|refine nJ ?_)<;>conv=>whnf))
     all_goals rfl
    |false=>
     rw[hx]at e1
     (conv=>whnf);(repeat'((first|apply bT|apply bF|apply bN|((first|apply bD|apply bEq|apply bNe)<;>intro hh<;>try(exfalso;omega))|refine iaJ gk ?_|refine e1.cq rfl rfl ?_|refine wJ ?_|refine nJ ?_)<;>conv=>whnf))
     exact⟨k+1,mI,⟨by omega,hyes (by rw[hdef,hx,hf0];simp)⟩,by omega⟩
  ·(conv=>whnf);(repeat'((first|apply bT|apply bF|apply bN|((first|apply bD|apply bEq|apply bNe)<;>intro hh<;>try(exfalso;omega))|refine iaJ gk ?_|refine wJ ?_|refine nJ ?_)<;>conv=>whnf))
   exact⟨k+1,mI,⟨by omega,hyes (by rw[hdef];simp[hs])⟩,by omega⟩
 ·have:k=w.tb.length:=by omega
  subst this
  rw[List.take_length]at k2
  rw[all_yes k2,Bool.and_true]
  (conv=>whnf);(repeat'((first|apply bT|apply bF|apply bN|((first|apply bD|apply bEq|apply bNe)<;>intro hh<;>try(exfalso;omega))|refine iaJ g1 ?_|refine e2.cq rfl rfl ?_|refine wJ ?_|refine nJ ?_)<;>conv=>whnf))
  all_goals rfl
def Shop.allK(w:Shop)(i:Int)(k:Nat):List Int:=((List.range k).map fun j:Nat=>(w.sp i).lo+(j:Nat)).filter (w.can i)
def Shop.allN(w:Shop)(i:Int):Nat:=((w.sp i).hi+1-(w.sp i).lo).toNat
def Shop.allL(w:Shop)(i:Int):List Int:=w.allK i (w.allN i)
theorem allK_yes{w:Shop}{i:Int}{k:Nat}(h:w.can i ((w.sp i).lo+k)=true):w.allK i (k+1)=w.allK i k++[(w.sp i).lo+(k:Nat)]:=by
 unfold Shop.allK;rw[List.range_succ,List.map_append,List.filter_append];simp[h]
theorem allK_no{w:Shop}{i:Int}{k:Nat}(h:w.can i ((w.sp i).lo+k)=false):w.allK i (k+1)=w.allK i k:=by
 unfold Shop.allK;rw[List.range_succ,List.map_append,List.filter_append];simp[h]
theorem allK_len(w:Shop)(i:Int)(k:Nat):(w.allK i k).length<=k:=by
 unfold Shop.allK
 have:=List.length_filter_le (w.can i) ((List.range k).map fun j:Nat=>(w.sp i).lo+(j:Nat))
 simpa using this
theorem mem_allL{w:Shop}{i n:Int}:n∈w.allL i<->w.can i n=true:=by
 unfold Shop.allL Shop.allK Shop.allN
 simp only[List.mem_filter,List.mem_map,List.mem_range]
 constructor
 ·rintro⟨_,h⟩;exact h
 ·intro h
  have:=can_bd h
  exact⟨⟨(n-(w.sp i).lo).toNat,by omega,by omega⟩,h⟩
theorem allL_len{w:Shop}(hk:Ok w){i:Int}(hi:w.isSp i=true):(w.allL i).length<=1000:=by
 have:=allK_len w i (w.allN i)
 have hs:=hk.sp hi
 unfold Shop.allL Shop.allN at *
 omega
theorem p72(w:Shop)(hk:Ok w)(i:Int)(hi:w.isSp i=true):FnA Tryz.prog 174 [.agg w.cells, .int .i64 i] (· = .isl ((w.allL i).map jAV)):=by
 have l1:(w.sps.map Spare.av).length=w.sps.length:=by simp
 have h1:=isSp_iff.1 hi
 have hs:=hk.sp hi
 have g1:=spget hi
 have hn:(w.allN i:Int)=(w.sp i).hi+1-(w.sp i).lo:=by unfold Shop.allN;omega
 refine fnA 4 ok174 (by simp) ?_
 (conv=>whnf);(repeat'((first|apply bT|apply bF|apply bN|((first|apply bD|apply bEq|apply bNe)<;>intro hh<;>try(exfalso;omega))|refine iaJ g1 ?_|refine wJ ?_|refine nJ ?_)<;>conv=>whnf))
 refine loop_i (α :=Nat) (fun k=>[(6, .int .i64 ((w.sp i).lo+k)),(5, .row 3),(2, .own 0 0),(1, .int .i64 i)]) (fun k=>[.box false w.cells, .fresh, .fresh, .row false 3 1 ((w.allK i k).map jAV)]) (fun k=>k<=w.allN i) (fun k=>w.allN i-k) 0 ?_ (by omega) ?_
 ·simp only[Int.natCast_zero,Int.add_zero]
  exact(mA [(3,none)])
 intro k hk0
 conv=>whnf
 refine iaJ g1 ?_
 conv=>whnf
 refine bD (fun h3=>?_) (fun h3=>?_)
 ·have e1:=p44 w hk i ((w.sp i).lo+k) hi
  have hl:=allK_len w i k
  cases hx:w.can i ((w.sp i).lo+k)with
  |true=>
   rw[hx]at e1
   have hm:(w.allK i (k+1)).map jAV=(w.allK i k).map jAV++[[.int .i64 ((w.sp i).lo+(k:Nat))]]:=by rw[allK_yes hx,List.map_append];rfl
   (conv=>whnf);(repeat'((first|apply bT|apply bF|apply bN|((first|apply bD|apply bEq|apply bNe)<;>intro hh<;>try(exfalso;omega))|refine e1.cq rfl rfl ?_|(refine apI (by simp[AV.one]) (by simp;omega) ?_)|refine wJ ?_|refine nJ ?_)<;>conv=>whnf))
   refine⟨k+1,?_,by omega,by omega⟩
   rw[hm]
   simp only[Int.natCast_add,Int.natCast_one,<- Int.add_assoc]
   exact(mA [(3,some 2)])
  |false=>
   rw[hx]at e1
   (conv=>whnf);(repeat'((first|apply bT|apply bF|apply bN|((first|apply bD|apply bEq|apply bNe)<;>intro hh<;>try(exfalso;omega))|refine e1.cq rfl rfl ?_|refine wJ ?_|refine nJ ?_)<;>conv=>whnf))
   refine⟨k+1,?_,by omega,by omega⟩
   rw[allK_no hx]
   simp only[Int.natCast_add,Int.natCast_one,<- Int.add_assoc]
   exact mI
 ·have:k=w.allN i:=by omega
  subst this
  have e:w.allK i (w.allN i)=w.allL i:=rfl
  rw[e]
  (conv=>whnf);(repeat'((first|apply bT|apply bF|apply bN|((first|apply bD|apply bEq|apply bNe)<;>intro hh<;>try(exfalso;omega))|refine wJ ?_|refine nJ ?_)<;>conv=>whnf))
  all_goals rfl
theorem allL_nil{w:Shop}(hk:Ok w){i:Int}(hi:w.isSp i=true):w.allL i=[]<->(w.spans i).isEmpty=true:=by
 obtain⟨ha,hin⟩:=spans_ok hk hi
 rw[List.isEmpty_iff,asc_nil ha]
 constructor
 ·intro h n hn
  have:=mem_allL.2 ((hin n).1 hn)
  rw[h]at this;cases this
 ·intro h
  apply List.eq_nil_iff_forall_not_mem.2
  intro n hn
  exact h n ((hin n).2 (mem_allL.1 hn))
theorem p71(w:Shop)(hB:Big w)(v:Bool):FnA Tryz.prog 157 [.agg w.cells, .bool v] (· = .int .i64 (w.eO v)):=by
 have e1:=p18 w hB
 by_cases hc:w.chk=0
 case neg=>
  have e:w.eO v=w.chk:=by unfold Shop.eO;rw[if_pos hc]
  rw[e]
  refine fnA 2 ok157 (by simp) ?_
  (conv=>whnf);(repeat'((first|apply bT|apply bF|apply bN|((first|apply bD|apply bEq|apply bNe)<;>intro hh<;>try(exfalso;omega))|refine e1.cq rfl rfl ?_|refine wJ ?_|refine nJ ?_)<;>conv=>whnf))
  all_goals rfl
 rw[hc]at e1
 cases v with
 |false=>
  have e:w.eO false=1:=by unfold Shop.eO;rw[if_neg (by simpa using hc)];rfl
  rw[e]
  refine fnA 2 ok157 (by simp) ?_
  (conv=>whnf);(repeat'((first|apply bT|apply bF|apply bN|((first|apply bD|apply bEq|apply bNe)<;>intro hh<;>try(exfalso;omega))|refine e1.cq rfl rfl ?_|refine wJ ?_|refine nJ ?_)<;>conv=>whnf))
  all_goals rfl
 |true=>
 have hk:=chk_ok hc
 have hs1:=hk.s1
 have l1:(w.sps.map Spare.av).length=w.sps.length:=by simp
 have he:w.eO true=if w.noT=true then 3 else 0:=by unfold Shop.eO;rw[if_neg (by simpa using hc)];rfl
 refine fnA 2 ok157 (by simp) ?_
 (conv=>whnf);(repeat'((first|apply bT|apply bF|apply bN|((first|apply bD|apply bEq|apply bNe)<;>intro hh<;>try(exfalso;omega))|refine e1.cq rfl rfl ?_|refine wJ ?_|refine nJ ?_)<;>conv=>whnf))
 refine loop_i (α :=Nat) (fun k=>[(6, .int .i64 k),(2, .own 0 0)]) (fun k=>[.box false w.cells, .fresh]) (fun k=>k<=w.sps.length/\∀j,j<k->(w.spans (j:Nat)).isEmpty=false) (fun k=>w.sps.length-k) 0 mI ⟨by omega,fun j hj=>by omega⟩ ?_
 rintro k ⟨k1,k2⟩
 conv=>whnf
 refine bD (fun h3=>?_) (fun h3=>?_)
 ·have hkl:k<w.sps.length:=by omega
  have hi:w.isSp (k:Nat)=true:=isSp_iff.2 (by omega)
  have e2:=p72 w hk k hi
  have hnil:=allL_nil hk hi
  cases hne:(w.spans (k:Nat)).isEmpty with
  |true=>
   have hl0:((w.allL (k:Nat)).map jAV).length=0:=by rw[hnil.2 hne];rfl
   have hn:w.noT=true:=by
    unfold Shop.noT
    refine List.any_eq_true.2 ⟨_,?_,hne⟩
    unfold Shop.lens Shop.lensK;exact List.mem_map.2 ⟨k,List.mem_range.2 hkl,rfl⟩
   rw[he,hn]
   (conv=>whnf);(repeat'((first|apply bT|apply bF|apply bN|((first|apply bD|apply bEq|apply bNe)<;>intro hh<;>try(exfalso;omega))|refine e2.zq rfl rfl ?_|refine wJ ?_|refine nJ ?_)<;>conv=>whnf))
   all_goals rfl
  |false=>
   have hl0:¬((w.allL (k:Nat)).map jAV).length=0:=by
    rw[List.length_map];intro h
    rw[hnil.1 (List.eq_nil_of_length_eq_zero h)]at hne;cases hne
   (conv=>whnf);(repeat'((first|apply bT|apply bF|apply bN|((first|apply bD|apply bEq|apply bNe)<;>intro hh<;>try(exfalso;omega))|refine e2.zq rfl rfl ?_|refine wJ ?_|refine nJ ?_)<;>conv=>whnf))
   refine⟨k+1,mI,⟨by omega,fun j hj=>?_⟩,by omega⟩
   by_cases e:j=k
   ·rw[e];exact hne
   ·exact k2 j (by omega)
 ·have hn:w.noT=false:=by
   rw[Bool.eq_false_iff];intro hn
   unfold Shop.noT Shop.lens Shop.lensK at hn
   obtain⟨x,hx,h5⟩:=List.any_eq_true.1 hn
   obtain⟨j,hj,rfl⟩:=List.mem_map.1 hx
   have:=k2 j (by have:=List.mem_range.1 hj;omega)
   rw[this]at h5;cases h5
  rw[he,hn]
  (conv=>whnf);(repeat'((first|apply bT|apply bF|apply bN|((first|apply bD|apply bEq|apply bNe)<;>intro hh<;>try(exfalso;omega))|refine wJ ?_|refine nJ ?_)<;>conv=>whnf))
  all_goals rfl
theorem p54(w:Shop)(hB:Big w):FnA Tryz.prog 125 [.agg w.cells] (· = .int .i64 (w.eO true)):=by
 have e1:=p71 w hB true
 refine fnA 1 ok125 (by simp) ?_
 (conv=>whnf);(repeat'((first|apply bT|apply bF|apply bN|((first|apply bD|apply bEq|apply bNe)<;>intro hh<;>try(exfalso;omega))|refine e1.cq rfl rfl ?_|refine wJ ?_|refine nJ ?_)<;>conv=>whnf))
 all_goals rfl
def szM(m:List Slot):Bool:=decide (m.length<=20)&&m.all fun s=>decide (s.ss.length<=20)
def Shop.sz(w:Shop):Bool:=decide (w.sps.length<=40)&&decide (w.mks.length<=40)&&decide (w.tb.length<=60)&&w.mks.all szM
theorem sz_big{w:Shop}(h:w.sz=true):Big w:=by
 unfold Shop.sz at h
 simp only[Bool.and_eq_true,decide_eq_true_eq,List.all_eq_true]at h
 obtain⟨⟨⟨h1,h2⟩,h3⟩,h4⟩:=h
 refine⟨by omega,by omega,by omega,fun x hx=>?_⟩
 have:=h4 x hx
 unfold szM at this
 simp only[Bool.and_eq_true,decide_eq_true_eq,List.all_eq_true]at this
 exact⟨by omega,fun y hy=>by have:=this.2 y hy;omega⟩
def wide(s:Spare):Bool:=decide (50<=s.hi-s.lo)
def Shop.far(w:Shop):Bool := !w.sz||(decide (w.chk=0)&&(w.sps.any wide||decide (6<w.sps.length)||decide (4<w.mks.length)||decide (10<w.tb.length)))
theorem p14(w:Shop):FnA Tryz.prog 70 [.agg w.cells] (· = .bool w.far):=by
 have l1:(w.sps.map Spare.av).length=w.sps.length:=by simp
 have l2:(w.mks.map mkAV).length=w.mks.length:=by simp
 have l3:(w.tb.map Trial.av).length=w.tb.length:=by simp
 have far1:w.sz=false->w.far=true:=fun h=>by unfold Shop.far;rw[h];rfl
 by_cases h1:w.sps.length<=40
 case neg=>
  rw[far1 (by unfold Shop.sz;rw[decide_eq_false h1];simp)]
  refine fnA 1 ok70 (by simp) ?_
  (conv=>whnf);(repeat'((first|apply bT|apply bF|apply bN|((first|apply bD|apply bEq|apply bNe)<;>intro hh<;>try(exfalso;omega))|refine wJ ?_|refine nJ ?_)<;>conv=>whnf))
  all_goals rfl
 by_cases h2:w.mks.length<=40
 case neg=>
  rw[far1 (by unfold Shop.sz;rw[decide_eq_false h2];simp)]
  refine fnA 1 ok70 (by simp) ?_
  (conv=>whnf);(repeat'((first|apply bT|apply bF|apply bN|((first|apply bD|apply bEq|apply bNe)<;>intro hh<;>try(exfalso;omega))|refine wJ ?_|refine nJ ?_)<;>conv=>whnf))
  all_goals rfl
 by_cases h3:w.tb.length<=60
 case neg=>
  rw[far1 (by unfold Shop.sz;rw[decide_eq_false h3];simp)]
  refine fnA 1 ok70 (by simp) ?_
  (conv=>whnf);(repeat'((first|apply bT|apply bF|apply bN|((first|apply bD|apply bEq|apply bNe)<;>intro hh<;>try(exfalso;omega))|refine wJ ?_|refine nJ ?_)<;>conv=>whnf))
  all_goals rfl
 have hsz:w.sz=w.mks.all szM:=by unfold Shop.sz;rw[decide_eq_true h1,decide_eq_true h2,decide_eq_true h3];simp
 refine fnA 1 ok70 (by simp) ?_
 (conv=>whnf);(repeat'((first|apply bT|apply bF|apply bN|((first|apply bD|apply bEq|apply bNe)<;>intro hh<;>try(exfalso;omega))|refine wJ ?_|refine nJ ?_)<;>conv=>whnf))
 refine loop_i (α :=Nat) (fun k=>[(3, .int .i64 k),(1, .own 0 0)]) (fun k=>[.box false w.cells]) (fun k=>k<=w.mks.length/\∀n∈w.mks.take k,szM n=true) (fun k=>w.mks.length-k) 0 mI ⟨by omega,by simp⟩ ?_
 rintro m ⟨m1,m2⟩
 conv=>whnf
 refine bD (fun h8=>?_) (fun h8=>?_)
 ·have hm:m<w.mks.length:=by omega
  have g1:=getM mkAV w.mks m hm
  have l4:(w.mks[m].map Slot.av).length=w.mks[m].length:=by simp
  have hno:szM w.mks[m]=false->w.far=true:=fun h=>far1 (by rw[hsz,all_not hm h])
  have hyes:szM w.mks[m]=true->∀n∈w.mks.take (m+1),szM n=true:=fun h=>take_all hm m2 h
  by_cases h9:w.mks[m].length<=20
  ·(conv=>whnf);(repeat'((first|apply bT|apply bF|apply bN|((first|apply bD|apply bEq|apply bNe)<;>intro hh<;>try(exfalso;omega))|refine iaJ g1 ?_|refine wJ ?_|refine nJ ?_)<;>conv=>whnf))
   refine loop_i (α :=Nat) (fun k=>[(4, .int .i64 k),(3, .int .i64 m),(1, .own 0 0)]) (fun k=>[.box false w.cells]) (fun k=>k<=w.mks[m].length/\∀n∈w.mks[m].take k,decide (n.ss.length<=20)=true) (fun k=>w.mks[m].length-k) 0 mI ⟨by omega,by simp⟩ ?_
   rintro s ⟨s1,s2⟩
   conv=>whnf
   refine iaJ g1 ?_
   conv=>whnf
   refine bD (fun h10=>?_) (fun h10=>?_)
   ·have hs:s<w.mks[m].length:=by omega
    have g2:=getM Slot.av w.mks[m] s hs
    have l5:(w.mks[m][s].ss.map jAV).length=w.mks[m][s].ss.length:=by simp
    by_cases hx:w.mks[m][s].ss.length<=20
    ·(conv=>whnf);(repeat'((first|apply bT|apply bF|apply bN|((first|apply bD|apply bEq|apply bNe)<;>intro hh<;>try(exfalso;omega))|refine iaJ g1 ?_|refine iaJ g2 ?_|refine wJ ?_|refine nJ ?_)<;>conv=>whnf))
     exact⟨s+1,mI,⟨by omega,take_all (p:=fun n:Slot=>decide (n.ss.length<=20)) hs s2 (decide_eq_true hx)⟩,by omega⟩
    ·rw[hno (by unfold szM;rw[all_not (p:=fun n:Slot=>decide (n.ss.length<=20)) hs (decide_eq_false hx)];simp)]
     (conv=>whnf);(repeat'((first|apply bT|apply bF|apply bN|((first|apply bD|apply bEq|apply bNe)<;>intro hh<;>try(exfalso;omega))|refine iaJ g1 ?_|refine iaJ g2 ?_|refine wJ ?_|refine nJ ?_)<;>conv=>whnf))
     all_goals rfl
   ·have:s=w.mks[m].length:=by omega
    subst this
    rw[List.take_length]at s2
    (conv=>whnf);(repeat'((first|apply bT|apply bF|apply bN|((first|apply bD|apply bEq|apply bNe)<;>intro hh<;>try(exfalso;omega))|refine wJ ?_|refine nJ ?_)<;>conv=>whnf))
    exact⟨m+1,mI,⟨by omega,hyes (by unfold szM;rw[all_yes (p:=fun n:Slot=>decide (n.ss.length<=20)) s2,decide_eq_true h9];rfl)⟩,by omega⟩
  ·rw[hno (by unfold szM;rw[decide_eq_false h9];rfl)]
   (conv=>whnf);(repeat'((first|apply bT|apply bF|apply bN|((first|apply bD|apply bEq|apply bNe)<;>intro hh<;>try(exfalso;omega))|refine iaJ g1 ?_|refine wJ ?_|refine nJ ?_)<;>conv=>whnf))
   all_goals rfl
 ·have:m=w.mks.length:=by omega
  subst this
  rw[List.take_length]at m2
  have hszt:w.sz=true:=by rw[hsz,all_yes m2]
  have hB:=sz_big hszt
  have e1:=p18 w hB
  by_cases hc:w.chk=0
  case neg=>
   have:w.far=false:=by unfold Shop.far;rw[hszt,decide_eq_false hc];rfl
   rw[this]
   (conv=>whnf);(repeat'((first|apply bT|apply bF|apply bN|((first|apply bD|apply bEq|apply bNe)<;>intro hh<;>try(exfalso;omega))|refine e1.cq rfl rfl ?_|refine wJ ?_|refine nJ ?_)<;>conv=>whnf))
   all_goals rfl
  have hk:=chk_ok hc
  have hf:w.far=(w.sps.any wide||decide (6<w.sps.length)||decide (4<w.mks.length)||decide (10<w.tb.length)):=by unfold Shop.far;rw[hszt,decide_eq_true hc];rfl
  rw[hc]at e1
  rw[hf]
  (conv=>whnf);(repeat'((first|apply bT|apply bF|apply bN|((first|apply bD|apply bEq|apply bNe)<;>intro hh<;>try(exfalso;omega))|refine e1.cq rfl rfl ?_|refine wJ ?_|refine nJ ?_)<;>conv=>whnf))
  refine loop_i (α :=Nat) (fun k=>[(5, .int .i64 k),(1, .own 0 0)]) (fun k=>[.box false w.cells]) (fun k=>k<=w.sps.length/\∀n∈w.sps.take k,wide n=false) (fun k=>w.sps.length-k) 0 mI ⟨by omega,by simp⟩ ?_
  rintro i ⟨i1,i2⟩
  conv=>whnf
  refine bD (fun h8=>?_) (fun h8=>?_)
  ·have hi:i<w.sps.length:=by omega
   have g1:=getM Spare.av w.sps i hi
   have hs:=hk.s2 _ (List.getElem_mem hi)
   by_cases hx:50<=w.sps[i].hi-w.sps[i].lo
   ·rw[any_yes (p:=wide) hi (decide_eq_true hx)]
    (conv=>whnf);(repeat'((first|apply bT|apply bF|apply bN|((first|apply bD|apply bEq|apply bNe)<;>intro hh<;>try(exfalso;omega))|refine iaJ g1 ?_|refine wJ ?_|refine nJ ?_)<;>conv=>whnf))
    all_goals rfl
   ·(conv=>whnf);(repeat'((first|apply bT|apply bF|apply bN|((first|apply bD|apply bEq|apply bNe)<;>intro hh<;>try(exfalso;omega))|refine iaJ g1 ?_|refine wJ ?_|refine nJ ?_)<;>conv=>whnf))
    exact⟨i+1,mI,⟨by omega,take_none (p:=wide) hi i2 (decide_eq_false hx)⟩,by omega⟩
  ·have:i=w.sps.length:=by omega
   subst this
   rw[List.take_length]at i2
   rw[any_no i2,Bool.false_or]
   by_cases q1:6<w.sps.length
   ·rw[decide_eq_true q1]
    (conv=>whnf);(repeat'((first|apply bT|apply bF|apply bN|((first|apply bD|apply bEq|apply bNe)<;>intro hh<;>try(exfalso;omega))|refine wJ ?_|refine nJ ?_)<;>conv=>whnf))
    all_goals rfl
   ·rw[decide_eq_false q1]
    by_cases q2:4<w.mks.length
    ·rw[decide_eq_true q2]
     (conv=>whnf);(repeat'((first|apply bT|apply bF|apply bN|((first|apply bD|apply bEq|apply bNe)<;>intro hh<;>try(exfalso;omega))|refine wJ ?_|refine nJ ?_)<;>conv=>whnf))
     all_goals rfl
    ·rw[decide_eq_false q2]
     (conv=>whnf);(repeat'((first|apply bT|apply bF|apply bN|((first|apply bD|apply bEq|apply bNe)<;>intro hh<;>try(exfalso;omega))|refine wJ ?_|refine nJ ?_)<;>conv=>whnf))
     all_goals (refine congrArg AV.bool ?_;rw[Bool.false_or,Bool.false_or];exact decide_eq_decide.2 (by omega))
theorem far_sz{w:Shop}(h:w.far=false):w.sz=true:=by
 cases hs:w.sz with
 |true=>rfl
 |false=>unfold Shop.far at h;rw[hs]at h;cases h
theorem best_valid{fs:List (List Int)}{st left g:List Int}(h:Best fs st left g):Valid st fs g:=by
 refine⟨h.lg,h.gok,fun s hs=>?_⟩
 have:=h.tot s hs
 have:=h.nn s (by rw[h.ll];exact hs)
 omega
open Classical in
theorem best_IsMost{fs:List (List Int)}{st left g:List Int}(h:Best fs st left g)(hs:Spr st fs)(hn:Nn st):IsMost st fs (hasN g):=by
 refine⟨⟨g,best_valid h,rfl⟩,fun g' hg'=>?_⟩
 let t:Int->Bool:=fun x=>decide (∃C,Shut fs left g C/\C x/\0<=x/\x<st.length)
 have htt:∀x,t x=true<->∃C,Shut fs left g C/\C x/\0<=x/\x<st.length:=fun x=>decide_eq_true_iff
 have hfs:∀j,∀x∈fsG fs j,0<=x/\x<st.length:=fun j x hx=>by
  by_cases hj:j<fs.length
  ·have hm:fsG fs j∈fs:=by
    unfold fsG;rw[List.getD_eq_getElem?_getD,List.getElem?_eq_getElem hj];exact List.getElem_mem hj
   exact hs _ hm x hx
  ·have:fsG fs j=[]:=by unfold fsG;simp[List.getD_eq_getElem?_getD,show fs[j]?=none from List.getElem?_eq_none (by omega)]
   rw[this]at hx;cases hx
 have hsl:=short_lack (left:=left) (best_valid h) hs hn (t:=t) (fun x hx=>((htt x).1 hx).choose_spec.2.2) (fun s hsx=>by
   obtain⟨C,c1,c2,c3,c4⟩:=(htt s).1 hsx
   obtain⟨a,b⟩:=c1 s c2
   exact⟨a,fun j hj hgj x hx=>(htt x).2 ⟨C,c1,b j hj hgj x hx,hfs j x hx⟩⟩) h.tot (fun j hj hgj x hx=>by
   obtain⟨C,c1,c2⟩:=h.shut j hj hgj
   exact(htt x).2 ⟨C,c1,c2 x hx,hfs j x hx⟩)
 have hwd:=weak_dual hg' hs hn (some:=shortL g t) (List.Pairwise.sublist List.filter_sublist List.pairwise_lt_range) (fun x hx=>by
  have:x<g.length:=by unfold shortL at hx;exact List.mem_range.1 (List.mem_filter.1 hx).1
  rw[<- h.lg];exact this)
 have a:=hasN_add g
 have b:=hasN_add g'
 have:=hg'.len
 have:=h.lg
 omega
theorem fsJ_spr{w:Shop}{st:List Int}{js:List Job}(h:st.length=w.sps.length):Spr st (w.fsJ js):=fun f hf s hs=>by
 unfold Shop.fsJ at hf
 obtain⟨j,_,rfl⟩:=List.mem_map.1 hf
 have:=(mem_numF.1 hs).1
 omega
def Shop.mostN(w:Shop)(st:List Int)(js:List Job):Nat:=bestM st (w.fsJ js)
theorem isSt_nn{w:Shop}{st:List Int}(h:w.isSt st=true):Nn st:=fun s hs=>((isSt_iff.1 h).2 s hs).1
theorem best_mostN{w:Shop}{st:List Int}{js:List Job}{left g:List Int}(hst:w.isSt st=true)(h:Best (w.fsJ js) st left g):hasN g=w.mostN st js:=
 (best_IsMost h (fsJ_spr (isSt_iff.1 hst).1) (isSt_nn hst)).uniq (best_most _ _ (fsJ_spr (isSt_iff.1 hst).1) (isSt_nn hst))
theorem fnA_imp{P:Program}{f:FuncId}{args:List AV}{R R':AV->Prop}(h:FnA P f args R)(k:∀r,R r->R' r):FnA P f args R':=by
 unfold FnA at h⊢
 intro imm w vs h1 h2
 refine(h imm w vs h1 h2).mono fun e w' hh=>?_
 obtain⟨v,r,imm',q1,q2,q3⟩:=hh
 exact⟨v,r,imm',q1,k r q2,q3⟩
theorem p34f(w:Shop)(st:List Int)(js:List Job)(hb:Bd w st js)(h:w.eO (w.isSt st&&w.areJ js)=0):FnA Tryz.prog 94 [.agg w.cells, .isl (st.map jAV), .isl (js.map Job.av)] (· = .tup [.int .i64 (w.mostN st js), .int .i64 0]):=by
 have hv:=eO_v h
 rw[Bool.and_eq_true]at hv
 by_cases h0:st.length=0
 ·refine fnA_imp (p34e w st js hb h h0) fun r hr=>?_
  obtain⟨left,g,hB,rfl⟩:=hr
  rw[best_mostN hv.1 hB]
 ·refine fnA_imp (p34 w st js hb h (by omega)) fun r hr=>?_
  obtain⟨left,g,hB,rfl⟩:=hr
  rw[best_mostN hv.1 hB]
def exW:Shop:=⟨[⟨1,2,300,310⟩,⟨1,3,305,305⟩,⟨2,1,50,60⟩,⟨1,2,320,330⟩],[[⟨1,[2,3],300,306⟩,⟨2,[1],40,58⟩],[⟨1,[2],310,326⟩]],5,[⟨0,1,0,0⟩]⟩
theorem p64:FnA Tryz.prog 93 [] (· = .agg exW.cells):=by
 refine fnA 9 ok93 (by simp) ?_
 (conv=>whnf);(repeat'((first|apply bT|apply bF|apply bN|((first|apply bD|apply bEq|apply bNe)<;>intro hh<;>try(exfalso;omega))|refine wJ ?_|refine nJ ?_)<;>conv=>whnf))
 all_goals rfl
theorem sp_one(l:List Spare):∀e∈l.map Spare.av,e.length=4/\e.all AV.one=true:=fun e he=>by
 obtain⟨x,_,rfl⟩:=List.mem_map.1 he;simp[Spare.av,AV.one]
theorem tr_one(l:List Trial):∀e∈l.map Trial.av,e.length=4/\e.all AV.one=true:=fun e he=>by
 obtain⟨x,_,rfl⟩:=List.mem_map.1 he;simp[Trial.av,AV.one]
theorem sl_one(l:List Slot):∀e∈l.map Slot.av,e.length=4/\e.all AV.one=true:=fun e he=>by
 obtain⟨x,_,rfl⟩:=List.mem_map.1 he;simp[Slot.av,AV.one]
theorem j_one(l:List Int):∀e∈l.map jAV,e.length=1/\e.all AV.one=true:=fun e he=>by
 obtain⟨x,_,rfl⟩:=List.mem_map.1 he;simp[jAV,AV.one]
theorem p16(w:Shop)(hB:Big w):FnA Tryz.prog 64 [.agg w.cells] (· = .agg w.cells):=by
 have l1:(w.sps.map Spare.av).length=w.sps.length:=by simp
 have l2:(w.mks.map mkAV).length=w.mks.length:=by simp
 have l3:(w.tb.map Trial.av).length=w.tb.length:=by simp
 have hBs:=hB.s
 have hBm:=hB.m
 have hBt:=hB.t
 refine fnA 15 ok64 (by simp) ?_
 (conv=>whnf);(repeat'((first|apply bT|apply bF|apply bN|((first|apply bD|apply bEq|apply bNe)<;>intro hh<;>try(exfalso;omega))|(refine apI (sp_one w.sps) (by simp only[l1,List.length_nil];omega) ?_)|(refine apI (tr_one w.tb) (by simp only[l3,List.length_nil];omega) ?_)|refine wJ ?_|refine nJ ?_)<;>conv=>whnf))
 refine loop_i (α :=Nat) (fun i=>[(4, .int .i64 i),(3, .own 2 0),(2, .own 1 0),(1, .own 0 0)]) (fun i=>[.box false w.cells, .box false [.nils, .nils, .int .i64 0, .nils], .box false [.row 4, .row 14, .int .i64 w.cut, .row 6], .fresh, .row false 150 4 (w.sps.map Spare.av), .fresh, .row false 161 4 (w.tb.map Trial.av), .fresh, .fresh, .fresh, .fresh, .fresh, .fresh, .fresh, .row false 142 1 ((w.mks.take i).map mkAV)]) (fun i=>i<=w.mks.length) (fun i=>w.mks.length-i) 0 (mA [(14,none)]) (by omega) ?_
 intro i hi0
 conv=>whnf
 refine bD (fun h3=>?_) (fun h3=>?_)
 ·have hi:i<w.mks.length:=by omega
  have g1:=getM mkAV w.mks i hi
  have hbs:=hB.sl _ (List.getElem_mem hi)
  have l4:(w.mks[i].map Slot.av).length=w.mks[i].length:=by simp
  have hsuc:(w.mks.take (i+1)).map mkAV=(w.mks.take i).map mkAV++[mkAV w.mks[i]]:=by
   rw[List.take_succ_eq_append_getElem hi,List.map_append];rfl
  have l5:((w.mks.take i).map mkAV).length=i:=by rw[List.length_map,List.length_take];omega
  (conv=>whnf);(repeat'((first|apply bT|apply bF|apply bN|((first|apply bD|apply bEq|apply bNe)<;>intro hh<;>try(exfalso;omega))|refine iaJ g1 ?_|(refine apI (sl_one w.mks[i]) (by simp only[l4,List.length_nil];omega) ?_)|refine wJ ?_|refine nJ ?_)<;>conv=>whnf))
  refine loop_i (α :=Nat × List (List AV)) (fun q=>[(6, .int .i64 q.1),(5, .own 9 0),(4, .int .i64 i),(3, .own 2 0),(2, .own 1 0),(1, .own 0 0)]) (fun q=>[.box false w.cells, .box false [.nils, .nils, .int .i64 0, .nils], .box false [.row 4, .row 14, .int .i64 w.cut, .row 6], .fresh, .row false 150 4 (w.sps.map Spare.av), .fresh, .row false 161 4 (w.tb.map Trial.av), .fresh, .row false 144 4 q.2, .box false [.row 8], .fresh, .fresh, .fresh, .fresh, .row false 142 1 ((w.mks.take i).map mkAV)]) (fun q=>q.1<=w.mks[i].length/\q.2=w.mks[i].map Slot.av) (fun q=>w.mks[i].length-q.1) (0,w.mks[i].map Slot.av) mI ⟨by simp,rfl⟩ ?_
  rintro⟨k,L⟩ ⟨hk0,hLe⟩
  dsimp only at hk0 hLe⊢
  subst hLe
  conv=>whnf
  refine bD (fun h4=>?_) (fun h4=>?_)
  ·have hk:k<w.mks[i].length:=by omega
   have g2:=getM Slot.av w.mks[i] k hk
   have hb2:=hbs.2 _ (List.getElem_mem hk)
   have l6:(w.mks[i][k].ss.map jAV).length=w.mks[i][k].ss.length:=by simp
   have hset:(w.mks[i].map Slot.av).set k (w.mks[i][k]).av=w.mks[i].map Slot.av:=by
    apply List.ext_getElem (by simp)
    intro n h5 h6
    rw[List.getElem_set]
    split
    ·rename_i e;subst e;simp
    ·rfl
   (conv=>whnf);(repeat'((first|apply bT|apply bF|apply bN|((first|apply bD|apply bEq|apply bNe)<;>intro hh<;>try(exfalso;omega))|refine iaJ g2 ?_|(refine apI (j_one w.mks[i][k].ss) (by simp only[l6,List.length_nil];omega) ?_)|refine wJ ?_|refine nJ ?_)<;>conv=>whnf))
   exact⟨(k+1,(w.mks[i].map Slot.av).set k (w.mks[i][k]).av),mI,⟨by dsimp only;omega,hset⟩,by dsimp only;omega⟩
  ·have:k=w.mks[i].length:=by omega
   subst this
   (conv=>whnf);(repeat'((first|apply bT|apply bF|apply bN|((first|apply bD|apply bEq|apply bNe)<;>intro hh<;>try(exfalso;omega))|(refine apI (by simp[AV.one]) (by simp only[l5];simp;omega) ?_)|refine wJ ?_|refine nJ ?_)<;>conv=>whnf))
   refine⟨i+1,?_,by omega,by omega⟩
   rw[hsuc]
   exact(mA [(14,some 13)])
 ·have:i=w.mks.length:=by omega
  subst this
  rw[List.take_length]
  (conv=>whnf);(repeat'((first|apply bT|apply bF|apply bN|((first|apply bD|apply bEq|apply bNe)<;>intro hh<;>try(exfalso;omega))|refine wJ ?_|refine nJ ?_)<;>conv=>whnf))
  all_goals rfl
theorem bKT{A B:Prop}{b:Bool}(hb:b=true)(hA:A):BrB b A B:=bS (fun _=>hA) (fun h=>absurd h (by simp[hb]))
theorem bKF{A B:Prop}{b:Bool}(hb:b=false)(hB:B):BrB b A B:=bS (fun h=>absurd h (by simp[hb])) (fun _=>hB)
theorem p125(s n:Int):FnA Tryz.prog 187 [.int .i64 s, .int .i64 n] (· = .int .i64 (if s=n then 1 else if s=0 then 2 else 3)):=by
 refine fnA 0 ok187 (by simp) ?_
 by_cases h:s=n
 ·rw[if_pos h]
  (conv=>whnf);(repeat'((first|apply bT|apply bF|apply bN|((first|apply bD|apply bEq|apply bNe)<;>intro hh<;>try(exfalso;omega))|refine wJ ?_|refine nJ ?_)<;>conv=>whnf))
  all_goals rfl
 ·rw[if_neg h]
  by_cases h2:s=0
  ·rw[if_pos h2]
   (conv=>whnf);(repeat'((first|apply bT|apply bF|apply bN|((first|apply bD|apply bEq|apply bNe)<;>intro hh<;>try(exfalso;omega))|refine wJ ?_|refine nJ ?_)<;>conv=>whnf))
   all_goals rfl
  ·rw[if_neg h2]
   (conv=>whnf);(repeat'((first|apply bT|apply bF|apply bN|((first|apply bD|apply bEq|apply bNe)<;>intro hh<;>try(exfalso;omega))|refine wJ ?_|refine nJ ?_)<;>conv=>whnf))
   all_goals rfl
def fitN(w:Shop)(i m k:Int)(l:List Int):Nat:=(l.filter fun n=>w.fit i n m k).length
theorem fitN_take{w:Shop}{i m k:Int}{l:List Int}{j:Nat}(hj:j<l.length):fitN w i m k (l.take (j+1))=fitN w i m k (l.take j)+if w.fit i (l.getD j 0) m k=true then 1 else 0:=by
 unfold fitN
 have e:l.getD j 0=l[j]:=by simp[List.getD_eq_getElem?_getD,hj]
 rw[e,List.take_succ_eq_append_getElem hj,List.filter_append,List.length_append]
 congr 1
 simp only[List.filter_cons,List.filter_nil]
 split<;>rfl
theorem fitN_le{w:Shop}{i m k:Int}{l:List Int}:fitN w i m k l<=l.length:=List.length_filter_le _ _
theorem fitsV_eq{w:Shop}(hk:Ok w){i m k:Int}(hi:w.isSp i=true)(hm:w.isSl m k=true)(h0:∃n,w.can i n=true):w.fitsV i m k=if (fitN w i m k (w.allL i):Int)=(w.allL i).length then 1 else if (fitN w i m k (w.allL i):Int)=0 then 2 else 3:=by
 have h1:=fits_1 hk hi hm h0
 have h2:=fits_2 hk (m:=m) (k:=k) hi
 have h3:=fits_3 w i m k
 have a1:fitN w i m k (w.allL i)=(w.allL i).length<->∀n,w.can i n=true->w.fit i n m k=true:=by
  unfold fitN
  rw[List.length_filter_eq_length_iff]
  exact⟨fun h n hn=>h n (mem_allL.2 hn),fun h n hn=>h n (mem_allL.1 hn)⟩
 have a2:fitN w i m k (w.allL i)=0<->∀n,w.can i n=true->w.fit i n m k=false:=by
  unfold fitN
  rw[List.length_eq_zero_iff,List.filter_eq_nil_iff]
  exact⟨fun h n hn=>by simpa using h n (mem_allL.2 hn),fun h n hn=>by simpa using h n (mem_allL.1 hn)⟩
 split
 ·rename_i h
  exact h1.2 (a1.1 (by omega))
 ·rename_i h
  split
  ·rename_i h4
   exact h2.2 (a2.1 (by omega))
  ·rename_i h4
   rcases h3 with q|q|q
   ·exact absurd (a1.2 (h1.1 q)) (by omega)
   ·exact absurd (a2.2 (h2.1 q)) (by omega)
   ·exact q
theorem p75(w:Shop)(hk:Ok w)(i m k:Int)(hi:w.isSp i=true)(hm:w.isSl m k=true)(h0:∃n,w.can i n=true):FnA Tryz.prog 164 [.agg w.cells, .int .i64 i, .int .i64 m, .int .i64 k] (· = .int .i64 (w.fitsV i m k)):=by
 rw[fitsV_eq hk hi hm h0]
 have e1:=p72 w hk i hi
 have hl:=allL_len hk hi
 have l1:((w.allL i).map jAV).length=(w.allL i).length:=by simp
 refine fnA 2 ok164 (by simp) ?_
 (conv=>whnf);(repeat'((first|apply bT|apply bF|apply bN|((first|apply bD|apply bEq|apply bNe)<;>intro hh<;>try(exfalso;omega))|refine e1.zq rfl rfl ?_|refine wJ ?_|refine nJ ?_)<;>conv=>whnf))
 refine loop_i (α :=Nat) (fun j=>[(11, .int .i64 j),(10, .int .i64 (fitN w i m k ((w.allL i).take j))),(9, .isl ((w.allL i).map jAV)),(4, .own 0 0),(3, .int .i64 k),(2, .int .i64 m),(1, .int .i64 i)]) (fun j=>[.box false w.cells, .fresh]) (fun j=>j<=(w.allL i).length) (fun j=>(w.allL i).length-j) 0 mI (by omega) ?_
 intro j hj0
 conv=>whnf
 refine bD (fun h3=>?_) (fun h3=>?_)
 ·have hj:j<(w.allL i).length:=by omega
  have gj:=jget hj
  have e2:=p46 w hk i ((w.allL i).getD j 0) m k hi hm
  have hn:=fitN_take (w:=w) (i:=i) (m:=m) (k:=k) hj
  have hle:=fitN_le (w:=w) (i:=i) (m:=m) (k:=k) (l:=(w.allL i).take j)
  rw[List.length_take]at hle
  cases hx:w.fit i ((w.allL i).getD j 0) m k with
  |true=>
   rw[hx]at e2 hn
   simp only[if_true]at hn
   (conv=>whnf);(repeat'((first|apply bT|apply bF|apply bN|((first|apply bD|apply bEq|apply bNe)<;>intro hh<;>try(exfalso;omega))|refine iaJ gj ?_|refine e2.cq rfl rfl ?_|refine wJ ?_|refine nJ ?_)<;>conv=>whnf))
   refine⟨j+1,?_,by omega,by omega⟩
   rw[hn];exact mI
  |false=>
   rw[hx]at e2 hn
   simp only[Bool.false_eq_true,if_false,Nat.add_zero]at hn
   (conv=>whnf);(repeat'((first|apply bT|apply bF|apply bN|((first|apply bD|apply bEq|apply bNe)<;>intro hh<;>try(exfalso;omega))|refine iaJ gj ?_|refine e2.cq rfl rfl ?_|refine wJ ?_|refine nJ ?_)<;>conv=>whnf))
   refine⟨j+1,?_,by omega,by omega⟩
   rw[hn];exact mI
 ·have:j=(w.allL i).length:=by omega
  subst this
  rw[List.take_length]
  have e3:=p125 (fitN w i m k (w.allL i)) ↑((w.allL i).map jAV).length
  (conv=>whnf);(repeat'((first|apply bT|apply bF|apply bN|((first|apply bD|apply bEq|apply bNe)<;>intro hh<;>try(exfalso;omega))|refine e3.cq rfl rfl ?_|refine wJ ?_|refine nJ ?_)<;>conv=>whnf))
  all_goals rw[l1]
theorem getD_memI{l:List Int}{j:Nat}(h:j<l.length):l.getD j 0∈l:=by
 rw[List.getD_eq_getElem?_getD,List.getElem?_eq_getElem h];exact List.getElem_mem h
theorem p22(w:Shop)(hB:Big w)(i m k:Int)(h:w.eO (w.isSp i&&w.isSl m k)=0):FnA Tryz.prog 135 [.agg w.cells, .int .i64 i, .int .i64 m, .int .i64 k] (· = .tup [.int .i64 (w.fitsV i m k), .int .i64 0]):=by
 have hv:=eO_v h
 rw[Bool.and_eq_true]at hv
 obtain⟨hi,hm⟩:=hv
 rw[hi,hm]at h
 have hk:=chk_ok (chk_0 h)
 have e1:=p47 w i hB.s
 have e2:=p53 w m k hB.m (fun x hx=>(hB.sl x hx).1)
 rw[hi]at e1;rw[hm]at e2
 have e3:=p71 w hB true
 have h':w.eO true=0:=h
 rw[h']at e3
 have e4:=p75 w hk i m k hi hm (can_ex h' hi)
 refine fnA 1 ok135 (by simp) ?_
 (conv=>whnf);(repeat'((first|apply bT|apply bF|apply bN|((first|apply bD|apply bEq|apply bNe)<;>intro hh<;>try(exfalso;omega))|refine e1.cq rfl rfl ?_|refine e2.cq rfl rfl ?_|refine e3.cq rfl rfl ?_|refine e4.cq rfl rfl ?_|refine wJ ?_|refine nJ ?_)<;>conv=>whnf))
 all_goals rfl
structure Piece where
 col:Int
 sz:Int
 let_:Int
 mkr:Int
 br:List Int
 deriving DecidableEq
structure Wish where
 cs:List Int
 lo:Int
 hi:Int
 let_:Int
 due:Int
 pr:Int
 deriving DecidableEq
structure Dlv where
 day:Int
 sp:Int
 many:Int
 deriving DecidableEq
structure Ord where
 w:Shop
 st:List Int
 ps:List Piece
 ws:List Wish
 ds:List Dlv
 cv:Int
def Piece.av(p:Piece):List AV:=[.int .i64 p.col, .int .i64 p.sz, .int .i64 p.let_, .int .i64 p.mkr, .isl (p.br.map jAV)]
def Wish.av(w:Wish):List AV:=[.isl (w.cs.map jAV), .int .i64 w.lo, .int .i64 w.hi, .int .i64 w.let_, .int .i64 w.due, .int .i64 w.pr]
def Dlv.av(d:Dlv):List AV:=[.int .i64 d.day, .int .i64 d.sp, .int .i64 d.many]
def Ord.cells(s:Ord):List AV:=[.isl (s.w.sps.map Spare.av), .isl (s.w.mks.map mkAV), .int .i64 s.w.cut, .isl (s.w.tb.map Trial.av), .isl (s.st.map jAV), .isl (s.ps.map Piece.av), .isl (s.ws.map Wish.av), .isl (s.ds.map Dlv.av), .int .i64 s.cv]
theorem q104(n lo hi:Int):FnA Tryz.prog 104 [.int .i64 n, .int .i64 lo, .int .i64 hi] (· = .bool (decide (lo<=n/\n<=hi))):=by
 refine fnA 0 ok104 (by simp) ?_
 (conv=>whnf);(repeat'((first|apply bT|apply bF|apply bN|((first|apply bD|apply bEq|apply bNe)<;>intro hh<;>try(exfalso;omega))|refine wJ ?_|refine nJ ?_)<;>conv=>whnf))
 all_goals first|rfl|exact congrArg AV.bool (decide_eq_decide.2 (by omega))|exact congrArg AV.bool (decide_eq_true (by omega)).symm|exact congrArg AV.bool (decide_eq_false (by omega)).symm
theorem q74(n lo hi:Int):FnA Tryz.prog 74 [.int .i64 n, .int .i64 lo, .int .i64 hi] (· = .bool (decide (lo<=n/\n<=hi))):=by
 refine fnA 0 ok74 (by simp) ?_
 (conv=>whnf);(repeat'((first|apply bT|apply bF|apply bN|((first|apply bD|apply bEq|apply bNe)<;>intro hh<;>try(exfalso;omega))|refine wJ ?_|refine nJ ?_)<;>conv=>whnf))
 all_goals first|rfl|exact congrArg AV.bool (decide_eq_decide.2 (by omega))|exact congrArg AV.bool (decide_eq_true (by omega)).symm|exact congrArg AV.bool (decide_eq_false (by omega)).symm
def mark(n:Int):Bool:=decide (0<=n/\n<=99)
theorem q148(n:Int):FnA Tryz.prog 148 [.int .i64 n] (· = .bool (mark n)):=by
 have e:=q104 n 0 99
 refine fnA 0 ok148 (by simp) ?_
 (conv=>whnf);(repeat'((first|apply bT|apply bF|apply bN|((first|apply bD|apply bEq|apply bNe)<;>intro hh<;>try(exfalso;omega))|refine e.cq rfl rfl ?_|refine wJ ?_|refine nJ ?_)<;>conv=>whnf))
 all_goals rfl
theorem q121(n:Int):FnA Tryz.prog 121 [.int .i64 n] (· = .bool (mark n)):=by
 have e:=q104 n 0 99
 refine fnA 0 ok121 (by simp) ?_
 (conv=>whnf);(repeat'((first|apply bT|apply bF|apply bN|((first|apply bD|apply bEq|apply bNe)<;>intro hh<;>try(exfalso;omega))|refine e.cq rfl rfl ?_|refine wJ ?_|refine nJ ?_)<;>conv=>whnf))
 all_goals rfl
theorem q113(n:Int):FnA Tryz.prog 113 [.int .i64 n] (· = .bool (decide (0<=n/\n<=10))):=by
 have e:=q104 n 0 10
 refine fnA 0 ok113 (by simp) ?_
 (conv=>whnf);(repeat'((first|apply bT|apply bF|apply bN|((first|apply bD|apply bEq|apply bNe)<;>intro hh<;>try(exfalso;omega))|refine e.cq rfl rfl ?_|refine wJ ?_|refine nJ ?_)<;>conv=>whnf))
 all_goals rfl
theorem q150(n k:Int)(hk : -1000000<=k/\k<=1000000):FnA Tryz.prog 150 [.int .i64 n, .ipt [.int .i64 k]] (· = .bool (decide (0<=n/\n<k))):=by
 have e:=q104 n 0 (k-1)
 refine fnA 0 ok150 (by simp) ?_
 (conv=>whnf);(repeat'((first|apply bT|apply bF|apply bN|((first|apply bD|apply bEq|apply bNe)<;>intro hh<;>try(exfalso;omega))|refine e.cq rfl rfl ?_|refine wJ ?_|refine nJ ?_)<;>conv=>whnf))
 all_goals first|rfl|exact congrArg AV.bool (decide_eq_decide.2 (by omega))|exact congrArg AV.bool (decide_eq_true (by omega)).symm|exact congrArg AV.bool (decide_eq_false (by omega)).symm
theorem q112{C:List AV}(p:Int->Bool)(l:List (Int))(hl:l.length<=1000000)(hg:∀x∈l,FnV Tryz.prog (.fn 113 []) [AV.int .i64 x] (· = .bool (p x))):FnA Tryz.prog 112 [.isl (l.map jAV),(.fn 113 [])] (· = .bool (l.all p)):=by
 have hL:(l.map jAV).length=l.length:=by simp
 refine fnA 0 ok112 (by simp) ?_
 (conv=>whnf);(repeat'((first|apply bT|apply bF|apply bN|((first|apply bD|apply bEq|apply bNe)<;>intro hh<;>try(exfalso;omega))|refine wJ ?_|refine nJ ?_)<;>conv=>whnf))
 refine loop_i (α :=Nat) (fun k=>[(9, .int .i64 k),(8, .int .i64 ↑(l.map jAV).length),(7, .isl (l.map jAV)),(1,(.fn 113 []))]) (fun k=>[]) (fun k=>k<=l.length/\∀b∈l.take k,p b=true) (fun k=>l.length-k) 0 mI ⟨by omega,by simp⟩ ?_
 rintro k ⟨h1,h2⟩
 conv=>whnf
 refine bD (fun h3=>?_) (fun h3=>?_)
 ·have hk:k<l.length:=by omega
  have hv:=hg l[k] (List.getElem_mem hk)
  cases hx:p l[k]with
  |true=>
   rw[hx]at hv
   conv=>whnf
   refine iaJ (getM jAV l k hk) ?_
   (conv=>whnf);(repeat'((first|apply bT|apply bF|apply bN|((first|apply bD|apply bEq|apply bNe)<;>intro hh<;>try(exfalso;omega))|(refine hv.vcallq rfl rfl rfl rfl (fun r (hr:r=_)=>?_);subst hr)|refine wJ ?_|refine nJ ?_)<;>conv=>whnf))
   exact⟨k+1,mI,⟨by omega,take_all hk h2 hx⟩,by omega⟩
  |false=>
   rw[hx]at hv
   rw[all_not hk hx]
   conv=>whnf
   refine iaJ (getM jAV l k hk) ?_
   (conv=>whnf);(repeat'((first|apply bT|apply bF|apply bN|((first|apply bD|apply bEq|apply bNe)<;>intro hh<;>try(exfalso;omega))|(refine hv.vcallq rfl rfl rfl rfl (fun r (hr:r=_)=>?_);subst hr)|refine wJ ?_|refine nJ ?_)<;>conv=>whnf))
   all_goals rfl
 ·have:k=l.length:=by omega
  subst this
  rw[List.take_length]at h2
  rw[all_yes h2]
  (conv=>whnf);(repeat'((first|apply bT|apply bF|apply bN|((first|apply bD|apply bEq|apply bNe)<;>intro hh<;>try(exfalso;omega))|refine wJ ?_|refine nJ ?_)<;>conv=>whnf))
  all_goals rfl
theorem q112m{C:List AV}(p:Int->Bool)(l:List (Int))(hl:l.length<=1000000)(hg:∀x∈l,FnV Tryz.prog (.fn 148 []) [AV.int .i64 x] (· = .bool (p x))):FnA Tryz.prog 112 [.isl (l.map jAV),(.fn 148 [])] (· = .bool (l.all p)):=by
 have hL:(l.map jAV).length=l.length:=by simp
 refine fnA 0 ok112 (by simp) ?_
 (conv=>whnf);(repeat'((first|apply bT|apply bF|apply bN|((first|apply bD|apply bEq|apply bNe)<;>intro hh<;>try(exfalso;omega))|refine wJ ?_|refine nJ ?_)<;>conv=>whnf))
 refine loop_i (α :=Nat) (fun k=>[(9, .int .i64 k),(8, .int .i64 ↑(l.map jAV).length),(7, .isl (l.map jAV)),(1,(.fn 148 []))]) (fun k=>[]) (fun k=>k<=l.length/\∀b∈l.take k,p b=true) (fun k=>l.length-k) 0 mI ⟨by omega,by simp⟩ ?_
 rintro k ⟨h1,h2⟩
 conv=>whnf
 refine bD (fun h3=>?_) (fun h3=>?_)
 ·have hk:k<l.length:=by omega
  have hv:=hg l[k] (List.getElem_mem hk)
  cases hx:p l[k]with
  |true=>
   rw[hx]at hv
   conv=>whnf
   refine iaJ (getM jAV l k hk) ?_
   (conv=>whnf);(repeat'((first|apply bT|apply bF|apply bN|((first|apply bD|apply bEq|apply bNe)<;>intro hh<;>try(exfalso;omega))|(refine hv.vcallq rfl rfl rfl rfl (fun r (hr:r=_)=>?_);subst hr)|refine wJ ?_|refine nJ ?_)<;>conv=>whnf))
   exact⟨k+1,mI,⟨by omega,take_all hk h2 hx⟩,by omega⟩
  |false=>
   rw[hx]at hv
   rw[all_not hk hx]
   conv=>whnf
   refine iaJ (getM jAV l k hk) ?_
   (conv=>whnf);(repeat'((first|apply bT|apply bF|apply bN|((first|apply bD|apply bEq|apply bNe)<;>intro hh<;>try(exfalso;omega))|(refine hv.vcallq rfl rfl rfl rfl (fun r (hr:r=_)=>?_);subst hr)|refine wJ ?_|refine nJ ?_)<;>conv=>whnf))
   all_goals rfl
 ·have:k=l.length:=by omega
  subst this
  rw[List.take_length]at h2
  rw[all_yes h2]
  (conv=>whnf);(repeat'((first|apply bT|apply bF|apply bN|((first|apply bD|apply bEq|apply bNe)<;>intro hh<;>try(exfalso;omega))|refine wJ ?_|refine nJ ?_)<;>conv=>whnf))
  all_goals rfl
theorem q112s{C:List AV}(p:Int->Bool)(l:List (Int))(hl:l.length<=1000000)(hg:∀x∈l,FnV Tryz.prog (.fn 150 [.ipt C]) [AV.int .i64 x] (· = .bool (p x))):FnA Tryz.prog 112 [.isl (l.map jAV),(.fn 150 [.ipt C])] (· = .bool (l.all p)):=by
 have hL:(l.map jAV).length=l.length:=by simp
 refine fnA 0 ok112 (by simp) ?_
 (conv=>whnf);(repeat'((first|apply bT|apply bF|apply bN|((first|apply bD|apply bEq|apply bNe)<;>intro hh<;>try(exfalso;omega))|refine wJ ?_|refine nJ ?_)<;>conv=>whnf))
 refine loop_i (α :=Nat) (fun k=>[(9, .int .i64 k),(8, .int .i64 ↑(l.map jAV).length),(7, .isl (l.map jAV)),(1,(.fn 150 [.ipt C]))]) (fun k=>[]) (fun k=>k<=l.length/\∀b∈l.take k,p b=true) (fun k=>l.length-k) 0 mI ⟨by omega,by simp⟩ ?_
 rintro k ⟨h1,h2⟩
 conv=>whnf
 refine bD (fun h3=>?_) (fun h3=>?_)
 ·have hk:k<l.length:=by omega
  have hv:=hg l[k] (List.getElem_mem hk)
  cases hx:p l[k]with
  |true=>
   rw[hx]at hv
   conv=>whnf
   refine iaJ (getM jAV l k hk) ?_
   (conv=>whnf);(repeat'((first|apply bT|apply bF|apply bN|((first|apply bD|apply bEq|apply bNe)<;>intro hh<;>try(exfalso;omega))|(refine hv.vcallq rfl rfl rfl rfl (fun r (hr:r=_)=>?_);subst hr)|refine wJ ?_|refine nJ ?_)<;>conv=>whnf))
   exact⟨k+1,mI,⟨by omega,take_all hk h2 hx⟩,by omega⟩
  |false=>
   rw[hx]at hv
   rw[all_not hk hx]
   conv=>whnf
   refine iaJ (getM jAV l k hk) ?_
   (conv=>whnf);(repeat'((first|apply bT|apply bF|apply bN|((first|apply bD|apply bEq|apply bNe)<;>intro hh<;>try(exfalso;omega))|(refine hv.vcallq rfl rfl rfl rfl (fun r (hr:r=_)=>?_);subst hr)|refine wJ ?_|refine nJ ?_)<;>conv=>whnf))
   all_goals rfl
 ·have:k=l.length:=by omega
  subst this
  rw[List.take_length]at h2
  rw[all_yes h2]
  (conv=>whnf);(repeat'((first|apply bT|apply bF|apply bN|((first|apply bD|apply bEq|apply bNe)<;>intro hh<;>try(exfalso;omega))|refine wJ ?_|refine nJ ?_)<;>conv=>whnf))
  all_goals rfl
theorem q114{C:List AV}(p:Piece->Bool)(l:List (Piece))(hl:l.length<=1000000)(hg:∀x∈l,FnV Tryz.prog (.fn 115 [.ipt C]) [.agg (Piece.av x)] (· = .bool (p x))):FnA Tryz.prog 114 [.isl (l.map Piece.av),(.fn 115 [.ipt C])] (· = .bool (l.all p)):=by
 have hL:(l.map Piece.av).length=l.length:=by simp
 refine fnA 1 ok114 (by simp) ?_
 (conv=>whnf);(repeat'((first|apply bT|apply bF|apply bN|((first|apply bD|apply bEq|apply bNe)<;>intro hh<;>try(exfalso;omega))|refine wJ ?_|refine nJ ?_)<;>conv=>whnf))
 refine loop_i (α :=Nat) (fun k=>[(9, .int .i64 k),(8, .int .i64 ↑(l.map Piece.av).length),(7, .isl (l.map Piece.av)),(1,(.fn 115 [.ipt C]))]) (fun k=>[.fresh]) (fun k=>k<=l.length/\∀b∈l.take k,p b=true) (fun k=>l.length-k) 0 mI ⟨by omega,by simp⟩ ?_
 rintro k ⟨h1,h2⟩
 conv=>whnf
 refine bD (fun h3=>?_) (fun h3=>?_)
 ·have hk:k<l.length:=by omega
  have hv:=hg l[k] (List.getElem_mem hk)
  cases hx:p l[k]with
  |true=>
   rw[hx]at hv
   conv=>whnf
   refine iaJ (getM Piece.av l k hk) ?_
   (conv=>whnf);(repeat'((first|apply bT|apply bF|apply bN|((first|apply bD|apply bEq|apply bNe)<;>intro hh<;>try(exfalso;omega))|(refine hv.vcallq rfl rfl rfl rfl (fun r (hr:r=_)=>?_);subst hr)|refine wJ ?_|refine nJ ?_)<;>conv=>whnf))
   exact⟨k+1,mI,⟨by omega,take_all hk h2 hx⟩,by omega⟩
  |false=>
   rw[hx]at hv
   rw[all_not hk hx]
   conv=>whnf
   refine iaJ (getM Piece.av l k hk) ?_
   (conv=>whnf);(repeat'((first|apply bT|apply bF|apply bN|((first|apply bD|apply bEq|apply bNe)<;>intro hh<;>try(exfalso;omega))|(refine hv.vcallq rfl rfl rfl rfl (fun r (hr:r=_)=>?_);subst hr)|refine wJ ?_|refine nJ ?_)<;>conv=>whnf))
   all_goals rfl
 ·have:k=l.length:=by omega
  subst this
  rw[List.take_length]at h2
  rw[all_yes h2]
  (conv=>whnf);(repeat'((first|apply bT|apply bF|apply bN|((first|apply bD|apply bEq|apply bNe)<;>intro hh<;>try(exfalso;omega))|refine wJ ?_|refine nJ ?_)<;>conv=>whnf))
  all_goals rfl
theorem q117{C:List AV}(p:Wish->Bool)(l:List (Wish))(hl:l.length<=1000000)(hg:∀x∈l,FnV Tryz.prog (.fn 118 []) [.agg (Wish.av x)] (· = .bool (p x))):FnA Tryz.prog 117 [.isl (l.map Wish.av),(.fn 118 [])] (· = .bool (l.all p)):=by
 have hL:(l.map Wish.av).length=l.length:=by simp
 refine fnA 1 ok117 (by simp) ?_
 (conv=>whnf);(repeat'((first|apply bT|apply bF|apply bN|((first|apply bD|apply bEq|apply bNe)<;>intro hh<;>try(exfalso;omega))|refine wJ ?_|refine nJ ?_)<;>conv=>whnf))
 refine loop_i (α :=Nat) (fun k=>[(9, .int .i64 k),(8, .int .i64 ↑(l.map Wish.av).length),(7, .isl (l.map Wish.av)),(1,(.fn 118 []))]) (fun k=>[.fresh]) (fun k=>k<=l.length/\∀b∈l.take k,p b=true) (fun k=>l.length-k) 0 mI ⟨by omega,by simp⟩ ?_
 rintro k ⟨h1,h2⟩
 conv=>whnf
 refine bD (fun h3=>?_) (fun h3=>?_)
 ·have hk:k<l.length:=by omega
  have hv:=hg l[k] (List.getElem_mem hk)
  cases hx:p l[k]with
  |true=>
   rw[hx]at hv
   conv=>whnf
   refine iaJ (getM Wish.av l k hk) ?_
   (conv=>whnf);(repeat'((first|apply bT|apply bF|apply bN|((first|apply bD|apply bEq|apply bNe)<;>intro hh<;>try(exfalso;omega))|(refine hv.vcallq rfl rfl rfl rfl (fun r (hr:r=_)=>?_);subst hr)|refine wJ ?_|refine nJ ?_)<;>conv=>whnf))
   exact⟨k+1,mI,⟨by omega,take_all hk h2 hx⟩,by omega⟩
  |false=>
   rw[hx]at hv
   rw[all_not hk hx]
   conv=>whnf
   refine iaJ (getM Wish.av l k hk) ?_
   (conv=>whnf);(repeat'((first|apply bT|apply bF|apply bN|((first|apply bD|apply bEq|apply bNe)<;>intro hh<;>try(exfalso;omega))|(refine hv.vcallq rfl rfl rfl rfl (fun r (hr:r=_)=>?_);subst hr)|refine wJ ?_|refine nJ ?_)<;>conv=>whnf))
   all_goals rfl
 ·have:k=l.length:=by omega
  subst this
  rw[List.take_length]at h2
  rw[all_yes h2]
  (conv=>whnf);(repeat'((first|apply bT|apply bF|apply bN|((first|apply bD|apply bEq|apply bNe)<;>intro hh<;>try(exfalso;omega))|refine wJ ?_|refine nJ ?_)<;>conv=>whnf))
  all_goals rfl
theorem q119{C:List AV}(p:Dlv->Bool)(l:List (Dlv))(hl:l.length<=1000000)(hg:∀x∈l,FnV Tryz.prog (.fn 120 [.ipt C]) [.agg (Dlv.av x)] (· = .bool (p x))):FnA Tryz.prog 119 [.isl (l.map Dlv.av),(.fn 120 [.ipt C])] (· = .bool (l.all p)):=by
 have hL:(l.map Dlv.av).length=l.length:=by simp
 refine fnA 1 ok119 (by simp) ?_
 (conv=>whnf);(repeat'((first|apply bT|apply bF|apply bN|((first|apply bD|apply bEq|apply bNe)<;>intro hh<;>try(exfalso;omega))|refine wJ ?_|refine nJ ?_)<;>conv=>whnf))
 refine loop_i (α :=Nat) (fun k=>[(9, .int .i64 k),(8, .int .i64 ↑(l.map Dlv.av).length),(7, .isl (l.map Dlv.av)),(1,(.fn 120 [.ipt C]))]) (fun k=>[.fresh]) (fun k=>k<=l.length/\∀b∈l.take k,p b=true) (fun k=>l.length-k) 0 mI ⟨by omega,by simp⟩ ?_
 rintro k ⟨h1,h2⟩
 conv=>whnf
 refine bD (fun h3=>?_) (fun h3=>?_)
 ·have hk:k<l.length:=by omega
  have hv:=hg l[k] (List.getElem_mem hk)
  cases hx:p l[k]with
  |true=>
   rw[hx]at hv
   conv=>whnf
   refine iaJ (getM Dlv.av l k hk) ?_
   (conv=>whnf);(repeat'((first|apply bT|apply bF|apply bN|((first|apply bD|apply bEq|apply bNe)<;>intro hh<;>try(exfalso;omega))|(refine hv.vcallq rfl rfl rfl rfl (fun r (hr:r=_)=>?_);subst hr)|refine wJ ?_|refine nJ ?_)<;>conv=>whnf))
   exact⟨k+1,mI,⟨by omega,take_all hk h2 hx⟩,by omega⟩
  |false=>
   rw[hx]at hv
   rw[all_not hk hx]
   conv=>whnf
   refine iaJ (getM Dlv.av l k hk) ?_
   (conv=>whnf);(repeat'((first|apply bT|apply bF|apply bN|((first|apply bD|apply bEq|apply bNe)<;>intro hh<;>try(exfalso;omega))|(refine hv.vcallq rfl rfl rfl rfl (fun r (hr:r=_)=>?_);subst hr)|refine wJ ?_|refine nJ ?_)<;>conv=>whnf))
   all_goals rfl
 ·have:k=l.length:=by omega
  subst this
  rw[List.take_length]at h2
  rw[all_yes h2]
  (conv=>whnf);(repeat'((first|apply bT|apply bF|apply bN|((first|apply bD|apply bEq|apply bNe)<;>intro hh<;>try(exfalso;omega))|refine wJ ?_|refine nJ ?_)<;>conv=>whnf))
  all_goals rfl
theorem q149(l:List Int)(hl:l.length<=1000000):FnA Tryz.prog 149 [.isl (l.map jAV)] (· = .bool (ascB l)):=by
 have hL:(l.map jAV).length=l.length:=by simp
 refine fnA 0 ok149 (by simp) ?_
 (conv=>whnf);(repeat'((first|apply bT|apply bF|apply bN|((first|apply bD|apply bEq|apply bNe)<;>intro hh<;>try(exfalso;omega))|refine wJ ?_|refine nJ ?_)<;>conv=>whnf))
 refine loop_i (α :=Nat) (fun k=>[(7, .int .i64 k),(6, .int .i64 (↑(l.map jAV).length-1)),(0, .isl (l.map jAV))]) (fun k=>[]) (fun k=>(k:Int)<=l.length/\∀i,i<k->i+1<l.length->l.getD i 0<l.getD (i+1) 0) (fun k=>l.length-k) 0 mI ⟨by omega,by omega⟩ ?_
 rintro k ⟨h1,h2⟩
 conv=>whnf
 refine bD (fun h3=>?_) (fun h3=>?_)
 ·have hk:k+1<l.length:=by omega
  have g1:=jget (l:=l) (i:=k) (by omega)
  have g2:=jget (l:=l) (i:=k+1) (by omega)
  by_cases hx:l.getD k 0<l.getD (k+1) 0
  ·(conv=>whnf);(repeat'((first|apply bT|apply bF|apply bN|((first|apply bD|apply bEq|apply bNe)<;>intro hh<;>try(exfalso;omega))|refine iaJ g1 ?_|refine iaJ g2 ?_|refine wJ ?_|refine nJ ?_)<;>conv=>whnf))
   refine⟨k+1,mI,⟨by omega,fun i hi hi2=>?_⟩,by omega⟩
   by_cases e:i=k
   ·rw[e];exact hx
   ·exact h2 i (by omega) hi2
  ·rw[ascB_no hk hx]
   (conv=>whnf);(repeat'((first|apply bT|apply bF|apply bN|((first|apply bD|apply bEq|apply bNe)<;>intro hh<;>try(exfalso;omega))|refine iaJ g1 ?_|refine iaJ g2 ?_|refine wJ ?_|refine nJ ?_)<;>conv=>whnf))
   all_goals rfl
 ·rw[ascB_iff.2 fun i hi=>h2 i (by omega) hi]
  (conv=>whnf);(repeat'((first|apply bT|apply bF|apply bN|((first|apply bD|apply bEq|apply bNe)<;>intro hh<;>try(exfalso;omega))|refine wJ ?_|refine nJ ?_)<;>conv=>whnf))
  all_goals rfl
def okPi(w:Shop)(p:Piece):Bool:=mark p.col&&mark p.sz&&mark p.let_&&w.isMk p.mkr&&ascB p.br&&p.br.all (fun k=>decide (0<=k/\k<(w.slots p.mkr).length))
theorem q116(w:Shop)(p:Piece)(hp:p.br.length<=1000000)(hw:w.mks.length<=1000000)(hm:∀x∈w.mks,x.length<=1000000):FnA Tryz.prog 116 [.agg w.cells, .agg p.av] (· = .bool (okPi w p)):=by
 have hL:(w.mks.map mkAV).length=w.mks.length:=by simp
 have hL2:((w.slots p.mkr).map Slot.av).length=(w.slots p.mkr).length:=by simp
 have e1:=q148 p.col
 have e2:=q148 p.sz
 have e3:=q148 p.let_
 have e4:=q104 p.mkr 0 (↑(w.mks.map mkAV).length-1)
 have h4:decide (0<=p.mkr/\p.mkr <= ↑(w.mks.map mkAV).length-1)=w.isMk p.mkr:=by unfold Shop.isMk;exact decide_eq_decide.2 (by omega)
 rw[h4]at e4
 clear h4
 cases b4:w.isMk p.mkr with
 |false=>
  have h0:okPi w p=false:=by unfold okPi;rw[b4];simp
  rw[h0]
  rw[b4]at e4
  refine fnA 3 ok116 (by simp) ?_
  cases b1:mark p.col<;>cases b2:mark p.sz<;>cases b3:mark p.let_<;>(try rw[b1]at e1)<;>(try rw[b2]at e2)<;>(try rw[b3]at e3)
  all_goals
   (conv=>whnf);(repeat'((first|apply bT|apply bF|apply bN|((first|apply bD|apply bEq|apply bNe)<;>intro hh<;>try(exfalso;omega))|refine e1.cq rfl rfl ?_|refine e2.cq rfl rfl ?_|refine e3.cq rfl rfl ?_|refine e4.cq rfl rfl ?_|refine wJ ?_|refine nJ ?_)<;>conv=>whnf))
   all_goals rfl
 |true=>
  rw[b4]at e4
  have h2:=isMk_iff.1 b4
  have hS:(w.slots p.mkr).length<=1000000:=by
   have:p.mkr.toNat<w.mks.length:=by omega
   have e:w.slots p.mkr=w.mks[p.mkr.toNat]:=by unfold Shop.slots;simp[List.getD_eq_getElem?_getD,this]
   rw[e];exact hm _ (List.getElem_mem this)
  have g1:=mkget b4
  have e5:=q149 p.br hp
  have e6:=q112s (C:=[.int .i64 ↑((w.slots p.mkr).map Slot.av).length]) (fun k=>decide (0<=k/\k < ↑((w.slots p.mkr).map Slot.av).length)) p.br hp (fun n _=>fnV_of bd150 (q150 n _ (by omega)))
  have h0:okPi w p=(mark p.col&&mark p.sz&&mark p.let_&&(ascB p.br&&p.br.all (fun k=>decide (0<=k/\k<((↑((w.slots p.mkr).map Slot.av).length:Nat):Int))))):=by unfold okPi;rw[b4,hL2];simp[Bool.and_assoc]
  rw[h0]
  generalize p.br.all (fun k=>decide (0<=k/\k<((↑((w.slots p.mkr).map Slot.av).length:Nat):Int)))=b6 at *
  generalize ascB p.br=b5 at *
  refine fnA 3 ok116 (by simp) ?_
  cases b1:mark p.col<;>cases b2:mark p.sz<;>cases b3:mark p.let_<;>cases b5<;>(try rw[b1]at e1)<;>(try rw[b2]at e2)<;>(try rw[b3]at e3)
  all_goals
   (conv=>whnf);(repeat'((first|apply bT|apply bF|apply bN|((first|apply bD|apply bEq|apply bNe)<;>intro hh<;>try(exfalso;omega))|refine e1.cq rfl rfl ?_|refine e2.cq rfl rfl ?_|refine e3.cq rfl rfl ?_|refine e4.cq rfl rfl ?_|refine e5.cq rfl rfl ?_|refine e6.lq rfl rfl ?_|refine iaJ g1 ?_|refine wJ ?_|refine nJ ?_)<;>conv=>whnf))
   all_goals rfl
theorem q115(s:Ord)(p:Piece)(hp:p.br.length<=1000000)(hw:s.w.mks.length<=1000000)(hm:∀x∈s.w.mks,x.length<=1000000):FnA Tryz.prog 115 [.agg p.av, .ipt s.cells] (· = .bool (okPi s.w p)):=by
 have e:=q116 s.w p hp hw hm
 refine fnA 1 ok115 (by simp) ?_
 (conv=>whnf);(repeat'((first|apply bT|apply bF|apply bN|((first|apply bD|apply bEq|apply bNe)<;>intro hh<;>try(exfalso;omega))|refine e.cq rfl rfl ?_|refine wJ ?_|refine nJ ?_)<;>conv=>whnf))
 all_goals rfl
def okDl(n:Nat)(d:Dlv):Bool:=mark d.day&&decide (0<=d.sp/\d.sp<n)&&decide (1<=d.many/\d.many<=10)
theorem q120(s:Ord)(d:Dlv)(hs:s.st.length<=1000000):FnA Tryz.prog 120 [.agg d.av, .ipt s.cells] (· = .bool (okDl s.st.length d)):=by
 have hL:(s.st.map jAV).length=s.st.length:=by simp
 have e1:=q121 d.day
 have e2:=q104 d.sp 0 (↑(s.st.map jAV).length-1)
 have e3:=q104 d.many 1 10
 have h2:decide (0<=d.sp/\d.sp <= ↑(s.st.map jAV).length-1)=decide (0<=d.sp/\d.sp<s.st.length):=decide_eq_decide.2 (by omega)
 rw[h2]at e2
 unfold okDl
 generalize mark d.day=b1 at *
 generalize decide (0<=d.sp/\d.sp<s.st.length)=b2 at *
 refine fnA 1 ok120 (by simp) ?_
 cases b1<;>cases b2
 all_goals
  (conv=>whnf);(repeat'((first|apply bT|apply bF|apply bN|((first|apply bD|apply bEq|apply bNe)<;>intro hh<;>try(exfalso;omega))|refine e1.cq rfl rfl ?_|refine e2.cq rfl rfl ?_|refine e3.cq rfl rfl ?_|refine wJ ?_|refine nJ ?_)<;>conv=>whnf))
  all_goals rfl
def okWi(w:Wish):Bool:=decide (1<=w.cs.length/\w.cs.length<=8)&&w.cs.all mark&&ascB w.cs&&decide (0<=w.lo/\w.lo<=w.hi)&&mark w.hi&&mark w.let_&&mark w.due&&decide (0<=w.pr/\w.pr<=100000)
theorem q118(w:Wish)(hw:w.cs.length<=1000000):FnA Tryz.prog 118 [.agg w.av] (· = .bool (okWi w)):=by
 have hL:(w.cs.map jAV).length=w.cs.length:=by simp
 have e1:=q104 ↑(w.cs.map jAV).length 1 8
 have h1:decide ((1:Int) <= ↑(w.cs.map jAV).length/\(↑(w.cs.map jAV).length:Int)<=8)=decide (1<=w.cs.length/\w.cs.length<=8):=decide_eq_decide.2 (by omega)
 rw[h1]at e1
 clear h1
 have e2:=q112m (C:=[]) mark w.cs hw (fun n _=>fnV_of bd148 (q148 n))
 have e3:=q149 w.cs hw
 have e4:=q104 w.lo 0 w.hi
 have e5:=q148 w.hi
 have e6:=q148 w.let_
 have e7:=q121 w.due
 have e8:=q104 w.pr 0 100000
 unfold okWi
 generalize decide (1<=w.cs.length/\w.cs.length<=8)=b1 at *
 generalize w.cs.all mark=b2 at *
 generalize ascB w.cs=b3 at *
 generalize decide (0<=w.lo/\w.lo<=w.hi)=b4 at *
 generalize mark w.hi=b5 at *
 generalize mark w.let_=b6 at *
 generalize mark w.due=b7 at *
 generalize decide (0<=w.pr/\w.pr<=100000)=b8 at *
 refine fnA 1 ok118 (by simp) ?_
 cases b1
 ·(conv=>whnf);(repeat'((first|apply bT|apply bF|apply bN|((first|apply bD|apply bEq|apply bNe)<;>intro hh<;>try(exfalso;omega))|refine e1.cq rfl rfl ?_|refine wJ ?_|refine nJ ?_)<;>conv=>whnf))
  all_goals rfl
 cases b2
 ·(conv=>whnf);(repeat'((first|apply bT|apply bF|apply bN|((first|apply bD|apply bEq|apply bNe)<;>intro hh<;>try(exfalso;omega))|refine e1.cq rfl rfl ?_|refine e2.cq rfl rfl ?_|refine wJ ?_|refine nJ ?_)<;>conv=>whnf))
  all_goals rfl
 cases b3
 ·(conv=>whnf);(repeat'((first|apply bT|apply bF|apply bN|((first|apply bD|apply bEq|apply bNe)<;>intro hh<;>try(exfalso;omega))|refine e1.cq rfl rfl ?_|refine e2.cq rfl rfl ?_|refine e3.cq rfl rfl ?_|refine wJ ?_|refine nJ ?_)<;>conv=>whnf))
  all_goals rfl
 cases b4
 ·(conv=>whnf);(repeat'((first|apply bT|apply bF|apply bN|((first|apply bD|apply bEq|apply bNe)<;>intro hh<;>try(exfalso;omega))|refine e1.cq rfl rfl ?_|refine e2.cq rfl rfl ?_|refine e3.cq rfl rfl ?_|refine e4.cq rfl rfl ?_|refine wJ ?_|refine nJ ?_)<;>conv=>whnf))
  all_goals rfl
 cases b5
 ·(conv=>whnf);(repeat'((first|apply bT|apply bF|apply bN|((first|apply bD|apply bEq|apply bNe)<;>intro hh<;>try(exfalso;omega))|refine e1.cq rfl rfl ?_|refine e2.cq rfl rfl ?_|refine e3.cq rfl rfl ?_|refine e4.cq rfl rfl ?_|refine e5.cq rfl rfl ?_|refine wJ ?_|refine nJ ?_)<;>conv=>whnf))
  all_goals rfl
 cases b6
 ·(conv=>whnf);(repeat'((first|apply bT|apply bF|apply bN|((first|apply bD|apply bEq|apply bNe)<;>intro hh<;>try(exfalso;omega))|refine e1.cq rfl rfl ?_|refine e2.cq rfl rfl ?_|refine e3.cq rfl rfl ?_|refine e4.cq rfl rfl ?_|refine e5.cq rfl rfl ?_|refine e6.cq rfl rfl ?_|refine wJ ?_|refine nJ ?_)<;>conv=>whnf))
  all_goals rfl
 cases b7
 ·(conv=>whnf);(repeat'((first|apply bT|apply bF|apply bN|((first|apply bD|apply bEq|apply bNe)<;>intro hh<;>try(exfalso;omega))|refine e1.cq rfl rfl ?_|refine e2.cq rfl rfl ?_|refine e3.cq rfl rfl ?_|refine e4.cq rfl rfl ?_|refine e5.cq rfl rfl ?_|refine e6.cq rfl rfl ?_|refine e7.cq rfl rfl ?_|refine wJ ?_|refine nJ ?_)<;>conv=>whnf))
  all_goals rfl
 (conv=>whnf);(repeat'((first|apply bT|apply bF|apply bN|((first|apply bD|apply bEq|apply bNe)<;>intro hh<;>try(exfalso;omega))|refine e1.cq rfl rfl ?_|refine e2.cq rfl rfl ?_|refine e3.cq rfl rfl ?_|refine e4.cq rfl rfl ?_|refine e5.cq rfl rfl ?_|refine e6.cq rfl rfl ?_|refine e7.cq rfl rfl ?_|refine e8.cq rfl rfl ?_|refine wJ ?_|refine nJ ?_)<;>conv=>whnf))
 all_goals rfl
def okOrd(s:Ord):Bool:=decide (s.st.length=s.w.sps.length)&&s.st.all (fun n=>decide (0<=n/\n<=10))&&decide (s.ps.length<=8)&&s.ps.all (okPi s.w)&&decide (s.ws.length<=6)&&s.ws.all okWi&&decide (s.ds.length<=8)&&s.ds.all (okDl s.st.length)&&mark s.cv
structure BigO(s:Ord):Prop where
 w:Big s.w
 st:s.st.length<=1000000
 ps:s.ps.length<=1000000
 ws:s.ws.length<=1000000
 ds:s.ds.length<=1000000
 br:∀p∈s.ps,p.br.length<=1000000
 cs:∀w∈s.ws,w.cs.length<=1000000
theorem q72(s:Ord)(hB:BigO s):FnA Tryz.prog 72 [.agg s.cells] (· = .bool (okOrd s)):=by
 obtain⟨⟨hw1,hw2,hw3,hw4⟩,h1,h2,h3,h4,h5,h6⟩:=hB
 have hm:∀x∈s.w.mks,x.length<=1000000:=fun x hx=>(hw4 x hx).1
 have l1:(s.st.map jAV).length=s.st.length:=by simp
 have l2:(s.w.sps.map Spare.av).length=s.w.sps.length:=by simp
 have l3:(s.ps.map Piece.av).length=s.ps.length:=by simp
 have l4:(s.ws.map Wish.av).length=s.ws.length:=by simp
 have l5:(s.ds.map Dlv.av).length=s.ds.length:=by simp
 have e1:=q112 (C:=[]) (fun n=>decide (0<=n/\n<=10)) s.st h1 (fun n _=>fnV_of bd113 (q113 n))
 have e2:=q114 (C:=s.cells) (okPi s.w) s.ps h2 (fun p hp=>fnV_of bd115 (q115 s p (h5 p hp) hw2 hm))
 have e3:=q117 (C:=[]) okWi s.ws h3 (fun w hw=>fnV_of bd118 (q118 w (h6 w hw)))
 have e4:=q119 (C:=s.cells) (okDl s.st.length) s.ds h4 (fun d _=>fnV_of bd120 (q120 s d h1))
 have e5:=q121 s.cv
 unfold okOrd
 generalize s.st.all (fun n=>decide (0<=n/\n<=10))=b1 at *
 generalize s.ps.all (okPi s.w)=b2 at *
 generalize s.ws.all okWi=b3 at *
 generalize s.ds.all (okDl s.st.length)=b4 at *
 refine fnA 1 ok72 (by simp) ?_
 by_cases c1:s.st.length=s.w.sps.length
 case neg=>
  rw[decide_eq_false c1]
  (conv=>whnf);(repeat'((first|apply bT|apply bF|apply bN|((first|apply bD|apply bEq|apply bNe)<;>intro hh<;>try(exfalso;omega))|refine wJ ?_|refine nJ ?_)<;>conv=>whnf))
  all_goals rfl
 rw[decide_eq_true c1]
 cases b1
 ·(conv=>whnf);(repeat'((first|apply bT|apply bF|apply bN|((first|apply bD|apply bEq|apply bNe)<;>intro hh<;>try(exfalso;omega))|refine e1.cq rfl rfl ?_|refine wJ ?_|refine nJ ?_)<;>conv=>whnf))
  all_goals rfl
 by_cases c2:s.ps.length<=8
 case neg=>
  rw[decide_eq_false c2]
  (conv=>whnf);(repeat'((first|apply bT|apply bF|apply bN|((first|apply bD|apply bEq|apply bNe)<;>intro hh<;>try(exfalso;omega))|refine e1.cq rfl rfl ?_|refine wJ ?_|refine nJ ?_)<;>conv=>whnf))
  all_goals rfl
 rw[decide_eq_true c2]
 cases b2
 ·(conv=>whnf);(repeat'((first|apply bT|apply bF|apply bN|((first|apply bD|apply bEq|apply bNe)<;>intro hh<;>try(exfalso;omega))|refine e1.cq rfl rfl ?_|refine e2.lq rfl rfl ?_|refine wJ ?_|refine nJ ?_)<;>conv=>whnf))
  all_goals rfl
 by_cases c3:s.ws.length<=6
 case neg=>
  rw[decide_eq_false c3]
  (conv=>whnf);(repeat'((first|apply bT|apply bF|apply bN|((first|apply bD|apply bEq|apply bNe)<;>intro hh<;>try(exfalso;omega))|refine e1.cq rfl rfl ?_|refine e2.lq rfl rfl ?_|refine wJ ?_|refine nJ ?_)<;>conv=>whnf))
  all_goals rfl
 rw[decide_eq_true c3]
 cases b3
 ·(conv=>whnf);(repeat'((first|apply bT|apply bF|apply bN|((first|apply bD|apply bEq|apply bNe)<;>intro hh<;>try(exfalso;omega))|refine e1.cq rfl rfl ?_|refine e2.lq rfl rfl ?_|refine e3.cq rfl rfl ?_|refine wJ ?_|refine nJ ?_)<;>conv=>whnf))
  all_goals rfl
 by_cases c4:s.ds.length<=8
 case neg=>
  rw[decide_eq_false c4]
  (conv=>whnf);(repeat'((first|apply bT|apply bF|apply bN|((first|apply bD|apply bEq|apply bNe)<;>intro hh<;>try(exfalso;omega))|refine e1.cq rfl rfl ?_|refine e2.lq rfl rfl ?_|refine e3.cq rfl rfl ?_|refine wJ ?_|refine nJ ?_)<;>conv=>whnf))
  all_goals rfl
 rw[decide_eq_true c4]
 cases b4
 ·(conv=>whnf);(repeat'((first|apply bT|apply bF|apply bN|((first|apply bD|apply bEq|apply bNe)<;>intro hh<;>try(exfalso;omega))|refine e1.cq rfl rfl ?_|refine e2.lq rfl rfl ?_|refine e3.cq rfl rfl ?_|refine e4.lq rfl rfl ?_|refine wJ ?_|refine nJ ?_)<;>conv=>whnf))
  all_goals rfl
 (conv=>whnf);(repeat'((first|apply bT|apply bF|apply bN|((first|apply bD|apply bEq|apply bNe)<;>intro hh<;>try(exfalso;omega))|refine e1.cq rfl rfl ?_|refine e2.lq rfl rfl ?_|refine e3.cq rfl rfl ?_|refine e4.lq rfl rfl ?_|refine e5.cq rfl rfl ?_|refine wJ ?_|refine nJ ?_)<;>conv=>whnf))
 all_goals rfl
def Ord.chk(s:Ord):Int:=if s.w.chk≠0 then s.w.chk else if okOrd s=true then 0 else 80
theorem wcells(s:Ord):s.w.cells=[.isl (s.w.sps.map Spare.av), .isl (s.w.mks.map mkAV), .int .i64 s.w.cut, .isl (s.w.tb.map Trial.av)]:=rfl
theorem chk_val(w:Shop):w.chk=0\/w.chk=70\/w.chk=71:=by
 unfold Shop.chk
 split
 ·split<;>simp
 ·simp
theorem q31(s:Ord)(hB:BigO s):FnA Tryz.prog 31 [.agg s.cells] (· = .int .i64 s.chk):=by
 have e1:=p17 s.w
 have e2:=q72 s hB
 unfold Ord.chk
 refine fnA 1 ok31 (by simp) ?_
 rcases chk_val s.w with h|h|h<;>rw[h]at e1⊢
 ·cases hb:okOrd s with
  |true=>
   rw[hb]at e2
   (conv=>whnf);(repeat'((first|apply bT|apply bF|apply bN|((first|apply bD|apply bEq|apply bNe)<;>intro hh<;>try(exfalso;omega))|refine e1.cq rfl rfl ?_|refine e2.cq rfl rfl ?_|refine wJ ?_|refine nJ ?_)<;>conv=>whnf))
   all_goals rfl
  |false=>
   rw[hb]at e2
   (conv=>whnf);(repeat'((first|apply bT|apply bF|apply bN|((first|apply bD|apply bEq|apply bNe)<;>intro hh<;>try(exfalso;omega))|refine e1.cq rfl rfl ?_|refine e2.cq rfl rfl ?_|refine wJ ?_|refine nJ ?_)<;>conv=>whnf))
   all_goals rfl
 ·(conv=>whnf);(repeat'((first|apply bT|apply bF|apply bN|((first|apply bD|apply bEq|apply bNe)<;>intro hh<;>try(exfalso;omega))|refine e1.cq rfl rfl ?_|refine wJ ?_|refine nJ ?_)<;>conv=>whnf))
  all_goals rfl
 ·(conv=>whnf);(repeat'((first|apply bT|apply bF|apply bN|((first|apply bD|apply bEq|apply bNe)<;>intro hh<;>try(exfalso;omega))|refine e1.cq rfl rfl ?_|refine wJ ?_|refine nJ ?_)<;>conv=>whnf))
  all_goals rfl
theorem ochk_val(s:Ord):s.chk=0\/s.chk=70\/s.chk=71\/s.chk=80:=by
 unfold Ord.chk
 rcases chk_val s.w with h|h|h<;>rw[h]<;>simp
 cases okOrd s<;>simp
def Ord.e1(s:Ord)(v:Bool):Int:=if s.chk≠0 then s.chk else if v=true then 0 else 1
theorem q67(s:Ord)(hB:BigO s)(v:Bool):FnA Tryz.prog 67 [.agg s.cells, .bool v] (· = .int .i64 (s.e1 v)):=by
 have e1:=q31 s hB
 unfold Ord.e1
 refine fnA 1 ok67 (by simp) ?_
 rcases ochk_val s with h|h|h|h<;>rw[h]at e1⊢<;>cases v
 all_goals
  (conv=>whnf);(repeat'((first|apply bT|apply bF|apply bN|((first|apply bD|apply bEq|apply bNe)<;>intro hh<;>try(exfalso;omega))|refine e1.cq rfl rfl ?_|refine wJ ?_|refine nJ ?_)<;>conv=>whnf))
  all_goals rfl
section
variable {κ V:Type} [DecidableEq κ]
def putQ:List (κ × V) -> κ -> V->List (κ × V)
 | [],x,w=>[(x,w)]
 |(y,v)::W,x,w=>if x=y then(x,w)::W else(y,v)::putQ W x w
def getQ:List (κ × V) -> κ -> Option V
 | [],_=>none
 |(y,v)::W,x=>if x=y then some v else getQ W x
theorem getQ_put(W:List (κ × V))(x : κ)(w:V)(y : κ):getQ (putQ W x w) y=if y=x then some w else getQ W y:=by
 induction W with
 |nil=>simp[putQ,getQ]
 |cons e W ih=>
  obtain⟨z,v⟩:=e
  simp only[putQ]
  by_cases h:x=z
  ·subst h
   rw[if_pos rfl]
   simp only[getQ]
   by_cases h2:y=x
   ·rw[if_pos h2,if_pos h2]
   ·rw[if_neg h2,if_neg h2,if_neg h2]
  ·rw[if_neg h]
   simp only[getQ]
   by_cases h2:y=z
   ·subst h2;rw[if_pos rfl,if_neg (fun e=>h e.symm),if_pos rfl]
   ·rw[if_neg h2,ih,if_neg h2]
def kQ(kf : κ -> AV)(W:List (κ × V)):List AV:=W.map fun e=>kf e.1
def uQ(f:V->AV)(W:List (κ × V)):List AV:=W.map fun e=>f e.2
structure KeyOk(kt:KTy)(kf : κ -> AV):Prop where
 v:∀x,keyV kt (kf x)=true
 e:∀x y,keq kt (kf x) (kf y)=some (decide (x=y))
theorem findQ{kt:KTy}{kf : κ -> AV}(hk:KeyOk kt kf)(x : κ)(w:V):∀(W:List (κ × V)) (i:Nat),∃r,findK kt (kf x) (kQ kf W) i=some r/\((r=none/\putQ W x w=W++[(x,w)]/\getQ W x=none)\/∃j v,r=some (i+j)/\W[j]?=some (x,v)/\putQ W x w=W.set j (x,w)/\getQ W x=some v)
 | [],i=>⟨none,rfl, .inl ⟨rfl,rfl,rfl⟩⟩
 |(y,v)::W,i=>by
  have hq:=hk.e x y
  by_cases h:x=y
  ·subst h
   exact⟨some i,by simp[kQ,findK,hq], .inr ⟨0,v,rfl,rfl,by simp[putQ],by simp[getQ]⟩⟩
  ·obtain⟨r,h1,h2⟩:=findQ hk x w W (i+1)
   have hq':keq kt (kf x) (kf y)=some false:=by rw[hq];simp[h]
   refine⟨r,by simpa[kQ,findK,hq']using h1,?_⟩
   rcases h2 with⟨h2,h3,h4⟩|⟨j,u,h2,h3,h4,h5⟩
   ·exact .inl ⟨h2,by simp[putQ,h,h3],by simp[getQ,h,h4]⟩
   ·exact .inr ⟨j+1,u,by rw[h2];congr 1;omega,by simpa using h3,by simp[putQ,h,h4],by simp[getQ,h,h5]⟩
theorem mput_Q{kt:KTy}{kf : κ -> AV}(hk:KeyOk kt kf)(f:V->AV)(W:List (κ × V))(x : κ)(w:V):mput kt (kQ kf W) (uQ f W) (kf x) (f w)=some (kQ kf (putQ W x w),uQ f (putQ W x w)):=by
 obtain⟨r,h1,h2⟩:=findQ hk x w W 0
 have hk':=hk.v x
 unfold mput
 rcases h2 with⟨rfl,h2,_⟩|⟨j,v,rfl,h2,h3,_⟩
 ·rw[hk',h1,h2];simp[kQ,uQ]
 ·rw[hk',h1,h3]
  simp only[Nat.zero_add,Option.some.injEq,Prod.mk.injEq]
  refine⟨?_,by simp[uQ,List.map_set]⟩
  apply List.ext_getElem (by simp[kQ])
  intro n h4 h5
  simp only[kQ,List.getElem_map,List.getElem_set]
  split
  ·rename_i e
   subst e
   obtain⟨h6,h7⟩:=List.getElem?_eq_some_iff.1 h2
   rw[h7]
  ·rfl
theorem mlook_Q{kt:KTy}{kf : κ -> AV}(hk:KeyOk kt kf)(f:V->AV)(W:List (κ × V))(x : κ):mlook kt (kQ kf W) (uQ f W) (kf x)=some ((getQ W x).map f):=by
 by_cases hn:Nonempty V
 ·obtain⟨v0⟩:=hn
  obtain⟨r,h1,h2⟩:=findQ hk x v0 W 0
  have hk':=hk.v x
  unfold mlook
  rcases h2 with⟨rfl,_,h2⟩|⟨j,v,rfl,h2,_,h3⟩
  ·rw[hk',h1,h2];rfl
  ·rw[hk',h1,h3]
   have:(uQ f W)[j]?=some (f v):=by simp[uQ,h2]
   simp only[Nat.zero_add,this,Option.map_some]
 ·have hW:W=[]:=by
   cases W with
   |nil=>rfl
   |cons e W=>exact absurd ⟨e.2⟩ hn
  subst hW
  have hk':=hk.v x
  unfold mlook
  simp[kQ,uQ,findK,hk',getQ]
end
def iK(x:Int):AV:=.int .i64 x
theorem iK_ok:KeyOk .int iK:=⟨fun _=>rfl,fun x y=>by
 show(if IntKind.i64=IntKind.i64 then some (x==y) else none)=_
 rw[if_pos rfl];rfl⟩
theorem q123(l:List Int)(m:Int)(hl:l.length<=1000000):FnA Tryz.prog 123 [.isl (l.map jAV), .int .i64 m] (· = .bool (ascB l&&l.all fun x=>decide (0<=x/\x<=m))):=by
 have hL:(l.map jAV).length=l.length:=by simp
 refine fnA 0 ok123 (by simp) ?_
 (conv=>whnf);(repeat'((first|apply bT|apply bF|apply bN|((first|apply bD|apply bEq|apply bNe)<;>intro hh<;>try(exfalso;omega))|refine wJ ?_|refine nJ ?_)<;>conv=>whnf))
 refine loop_i (α :=Nat) (fun k=>[(5, .int .i64 k),(1, .int .i64 m),(0, .isl (l.map jAV))]) (fun k=>[]) (fun k=>k<=l.length/\(∀x∈l.take k,(fun x=>decide (0<=x/\x<=m)) x=true)/\∀i,i+1<k->l.getD i 0<l.getD (i+1) 0) (fun k=>l.length-k) 0 mI ⟨by omega,by simp,fun i hi=>by omega⟩ ?_
 rintro k ⟨h1,h2,h3⟩
 conv=>whnf
 refine bD (fun h4=>?_) (fun h4=>?_)
 ·have hk:k<l.length:=by omega
  have g1:=jget (l:=l) (i:=k) hk
  have hgk:l.getD k 0=l[k]:=by simp[List.getD_eq_getElem?_getD,hk]
  have hno:∀b:Bool,(ascB l&&l.all fun x=>decide (0<=x/\x<=m))=b->b=false->(ascB l&&l.all fun x=>decide (0<=x/\x<=m))=false:=fun b h1 h2=>h1.trans h2
  by_cases hx:0<=l.getD k 0/\l.getD k 0<=m
  ·by_cases h0:k=0
   ·subst h0
    (conv=>whnf);(repeat'((first|apply bT|apply bF|apply bN|((first|apply bD|apply bEq|apply bNe)<;>intro hh<;>try(exfalso;omega))|refine iaJ g1 ?_|refine wJ ?_|refine nJ ?_)<;>conv=>whnf))
    exact⟨1,mI,⟨by omega,take_all hk h2 (by rw[<- hgk];exact decide_eq_true hx),fun i hi=>by omega⟩,by omega⟩
   ·obtain⟨j,rfl⟩:∃j,k=j+1:=⟨k-1,by omega⟩
    have g2:(l.map jAV).getD (((j+1:Nat):Int)-1).toNat []=[.int .i64 (l.getD j 0)]:=by rw[show(((j+1:Nat):Int)-1).toNat=j by omega];exact jget (by omega)
    by_cases hy:l.getD j 0<l.getD (j+1) 0
    ·(conv=>whnf);(repeat'((first|apply bT|apply bF|apply bN|((first|apply bD|apply bEq|apply bNe)<;>intro hh<;>try(exfalso;omega))|refine iaJ g1 ?_|refine iaJ g2 ?_|refine wJ ?_|refine nJ ?_)<;>conv=>whnf))
     refine⟨j+1+1,mI,⟨by omega,take_all hk h2 (by rw[<- hgk];exact decide_eq_true hx),fun i hi=>?_⟩,by omega⟩
     by_cases e:i=j
     ·rw[e];exact hy
     ·exact h3 i (by omega)
    ·have h0:(ascB l&&l.all fun x=>decide (0<=x/\x<=m))=false:=by rw[ascB_no (k:=j) (by omega) hy];rfl
     rw[h0]
     (conv=>whnf);(repeat'((first|apply bT|apply bF|apply bN|((first|apply bD|apply bEq|apply bNe)<;>intro hh<;>try(exfalso;omega))|refine iaJ g1 ?_|refine iaJ g2 ?_|refine wJ ?_|refine nJ ?_)<;>conv=>whnf))
     all_goals rfl
  ·have h0:(ascB l&&l.all fun x=>decide (0<=x/\x<=m))=false:=by
    rw[all_not hk (by rw[<- hgk];exact decide_eq_false hx)];simp
   rw[h0]
   (conv=>whnf);(repeat'((first|apply bT|apply bF|apply bN|((first|apply bD|apply bEq|apply bNe)<;>intro hh<;>try(exfalso;omega))|refine iaJ g1 ?_|refine wJ ?_|refine nJ ?_)<;>conv=>whnf))
   all_goals rfl
 ·have:k=l.length:=by omega
  subst this
  rw[List.take_length]at h2
  rw[ascB_iff.2 fun i hi=>h3 i (by omega),all_yes h2]
  (conv=>whnf);(repeat'((first|apply bT|apply bF|apply bN|((first|apply bD|apply bEq|apply bNe)<;>intro hh<;>try(exfalso;omega))|refine wJ ?_|refine nJ ?_)<;>conv=>whnf))
  all_goals rfl
theorem q75(w:Shop)(p:Piece)(hp:p.br.length<=1000000)(hw:w.mks.length<=1000000)(hm:∀x∈w.mks,x.length<=1000000)(s:Ord)(hs:s.w=w):FnA Tryz.prog 75 [.agg s.cells, .agg p.av] (· = .bool (okPi w p)):=by
 subst hs
 have hL:(s.w.mks.map mkAV).length=s.w.mks.length:=by simp
 have hL2:((s.w.slots p.mkr).map Slot.av).length=(s.w.slots p.mkr).length:=by simp
 have e1:=q74 p.col 0 99
 have e2:=q74 p.sz 0 99
 have e3:=q74 p.let_ 0 99
 have e4:=q74 p.mkr 0 (↑(s.w.mks.map mkAV).length-1)
 have h4:decide (0<=p.mkr/\p.mkr <= ↑(s.w.mks.map mkAV).length-1)=s.w.isMk p.mkr:=by unfold Shop.isMk;exact decide_eq_decide.2 (by omega)
 rw[h4]at e4
 clear h4
 change FnA _ _ _ (· = .bool (mark p.col))at e1
 change FnA _ _ _ (· = .bool (mark p.sz))at e2
 change FnA _ _ _ (· = .bool (mark p.let_))at e3
 cases b4:s.w.isMk p.mkr with
 |false=>
  have h0:okPi s.w p=false:=by unfold okPi;rw[b4];simp
  rw[h0]
  rw[b4]at e4
  refine fnA 2 ok75 (by simp) ?_
  cases b1:mark p.col<;>cases b2:mark p.sz<;>cases b3:mark p.let_<;>(try rw[b1]at e1)<;>(try rw[b2]at e2)<;>(try rw[b3]at e3)
  all_goals
   (conv=>whnf);(repeat'((first|apply bT|apply bF|apply bN|((first|apply bD|apply bEq|apply bNe)<;>intro hh<;>try(exfalso;omega))|refine e1.cq rfl rfl ?_|refine e2.cq rfl rfl ?_|refine e3.cq rfl rfl ?_|refine e4.cq rfl rfl ?_|refine wJ ?_|refine nJ ?_)<;>conv=>whnf))
   all_goals rfl
 |true=>
  rw[b4]at e4
  have h2:=isMk_iff.1 b4
  have hS:(s.w.slots p.mkr).length<=1000000:=by
   have:p.mkr.toNat<s.w.mks.length:=by omega
   have e:s.w.slots p.mkr=s.w.mks[p.mkr.toNat]:=by unfold Shop.slots;simp[List.getD_eq_getElem?_getD,this]
   rw[e];exact hm _ (List.getElem_mem this)
  have g1:=mkget b4
  have e5:=q123 p.br (↑((s.w.slots p.mkr).map Slot.av).length-1) hp
  have h0:okPi s.w p=(mark p.col&&mark p.sz&&mark p.let_&&(ascB p.br&&p.br.all (fun k=>decide (0<=k/\k<=((↑((s.w.slots p.mkr).map Slot.av).length:Nat):Int)-1)))):=by
   unfold okPi
   rw[b4,hL2]
   have:(fun k:Int=>decide (0<=k/\k<((s.w.slots p.mkr).length:Int)))=fun k=>decide (0<=k/\k<=((s.w.slots p.mkr).length:Int)-1):=funext fun k=>decide_eq_decide.2 (by omega)
   rw[this]
   simp[Bool.and_assoc]
  rw[h0]
  generalize (ascB p.br&&p.br.all (fun k=>decide (0<=k/\k<=((↑((s.w.slots p.mkr).map Slot.av).length:Nat):Int)-1)))=b5 at *
  refine fnA 2 ok75 (by simp) ?_
  cases b1:mark p.col<;>cases b2:mark p.sz<;>cases b3:mark p.let_<;>(try rw[b1]at e1)<;>(try rw[b2]at e2)<;>(try rw[b3]at e3)
  all_goals
   (conv=>whnf);(repeat'((first|apply bT|apply bF|apply bN|((first|apply bD|apply bEq|apply bNe)<;>intro hh<;>try(exfalso;omega))|refine e1.cq rfl rfl ?_|refine e2.cq rfl rfl ?_|refine e3.cq rfl rfl ?_|refine e4.cq rfl rfl ?_|refine e5.cq rfl rfl ?_|refine iaJ g1 ?_|refine wJ ?_|refine nJ ?_)<;>conv=>whnf))
   all_goals rfl
theorem okWi_eq(w:Wish):okWi w=(decide (1<=w.cs.length/\w.cs.length<=8)&&((ascB w.cs&&w.cs.all fun x=>decide (0<=x/\x<=99))&&(decide (0<=w.lo)&&(decide (w.lo<=w.hi)&&(decide (w.hi<=99)&&(mark w.let_&&(mark w.due&&decide (0<=w.pr/\w.pr<=100000)))))))):=by
 unfold okWi
 have h1:(w.cs.all mark)=w.cs.all fun x=>decide (0<=x/\x<=99):=rfl
 rw[h1]
 have h2:(decide (0<=w.lo/\w.lo<=w.hi)&&mark w.hi)=(decide (0<=w.lo)&&(decide (w.lo<=w.hi)&&decide (w.hi<=99))):=by
  unfold mark
  rw[<- Bool.decide_and,<- Bool.decide_and,<- Bool.decide_and]
  exact decide_eq_decide.2 (by omega)
 generalize decide (1<=w.cs.length/\w.cs.length<=8)=b1
 generalize (w.cs.all fun x=>decide (0<=x/\x<=99))=b2
 generalize ascB w.cs=b3
 generalize mark w.let_=b4
 generalize mark w.due=b5
 generalize decide (0<=w.pr/\w.pr<=100000)=b6
 rw[Bool.and_assoc (b1&&b2&&b3),h2]
 cases b1<;>cases b2<;>cases b3<;>simp[Bool.and_assoc]
theorem q76(w:Wish)(hw:w.cs.length<=1000000):FnA Tryz.prog 76 [.agg w.av] (· = .bool (okWi w)):=by
 have hL:(w.cs.map jAV).length=w.cs.length:=by simp
 have e1:=q74 ↑(w.cs.map jAV).length 1 8
 have h1:decide ((1:Int) <= ↑(w.cs.map jAV).length/\(↑(w.cs.map jAV).length:Int)<=8)=decide (1<=w.cs.length/\w.cs.length<=8):=decide_eq_decide.2 (by omega)
 rw[h1]at e1
 clear h1
 have e2:=q123 w.cs 99 hw
 have e6:=q74 w.let_ 0 99
 have e7:=q74 w.due 0 99
 have e8:=q74 w.pr 0 100000
 change FnA _ _ _ (· = .bool (mark w.let_))at e6
 change FnA _ _ _ (· = .bool (mark w.due))at e7
 rw[okWi_eq]
 generalize decide (1<=w.cs.length/\w.cs.length<=8)=b1 at *
 generalize (ascB w.cs&&w.cs.all fun x=>decide (0<=x/\x<=99))=b2 at *
 generalize mark w.let_=b6 at *
 generalize mark w.due=b7 at *
 generalize decide (0<=w.pr/\w.pr<=100000)=b8 at *
 refine fnA 1 ok76 (by simp) ?_
 cases b1
 ·(conv=>whnf);(repeat'((first|apply bT|apply bF|apply bN|((first|apply bD|apply bEq|apply bNe)<;>intro hh<;>try(exfalso;omega))|refine e1.cq rfl rfl ?_|refine wJ ?_|refine nJ ?_)<;>conv=>whnf))
  all_goals rfl
 cases b2
 ·(conv=>whnf);(repeat'((first|apply bT|apply bF|apply bN|((first|apply bD|apply bEq|apply bNe)<;>intro hh<;>try(exfalso;omega))|refine e1.cq rfl rfl ?_|refine e2.cq rfl rfl ?_|refine wJ ?_|refine nJ ?_)<;>conv=>whnf))
  all_goals rfl
 by_cases c1:0<=w.lo
 case neg=>
  rw[decide_eq_false c1]
  (conv=>whnf);(repeat'((first|apply bT|apply bF|apply bN|((first|apply bD|apply bEq|apply bNe)<;>intro hh<;>try(exfalso;omega))|refine e1.cq rfl rfl ?_|refine e2.cq rfl rfl ?_|refine wJ ?_|refine nJ ?_)<;>conv=>whnf))
  all_goals rfl
 rw[decide_eq_true c1]
 by_cases c2:w.lo<=w.hi
 case neg=>
  rw[decide_eq_false c2]
  (conv=>whnf);(repeat'((first|apply bT|apply bF|apply bN|((first|apply bD|apply bEq|apply bNe)<;>intro hh<;>try(exfalso;omega))|refine e1.cq rfl rfl ?_|refine e2.cq rfl rfl ?_|refine wJ ?_|refine nJ ?_)<;>conv=>whnf))
  all_goals rfl
 rw[decide_eq_true c2]
 by_cases c3:w.hi<=99
 case neg=>
  rw[decide_eq_false c3]
  (conv=>whnf);(repeat'((first|apply bT|apply bF|apply bN|((first|apply bD|apply bEq|apply bNe)<;>intro hh<;>try(exfalso;omega))|refine e1.cq rfl rfl ?_|refine e2.cq rfl rfl ?_|refine wJ ?_|refine nJ ?_)<;>conv=>whnf))
  all_goals rfl
 rw[decide_eq_true c3]
 cases b6
 ·(conv=>whnf);(repeat'((first|apply bT|apply bF|apply bN|((first|apply bD|apply bEq|apply bNe)<;>intro hh<;>try(exfalso;omega))|refine e1.cq rfl rfl ?_|refine e2.cq rfl rfl ?_|refine e6.cq rfl rfl ?_|refine wJ ?_|refine nJ ?_)<;>conv=>whnf))
  all_goals rfl
 cases b7
 ·(conv=>whnf);(repeat'((first|apply bT|apply bF|apply bN|((first|apply bD|apply bEq|apply bNe)<;>intro hh<;>try(exfalso;omega))|refine e1.cq rfl rfl ?_|refine e2.cq rfl rfl ?_|refine e6.cq rfl rfl ?_|refine e7.cq rfl rfl ?_|refine wJ ?_|refine nJ ?_)<;>conv=>whnf))
  all_goals rfl
 (conv=>whnf);(repeat'((first|apply bT|apply bF|apply bN|((first|apply bD|apply bEq|apply bNe)<;>intro hh<;>try(exfalso;omega))|refine e1.cq rfl rfl ?_|refine e2.cq rfl rfl ?_|refine e6.cq rfl rfl ?_|refine e7.cq rfl rfl ?_|refine e8.cq rfl rfl ?_|refine wJ ?_|refine nJ ?_)<;>conv=>whnf))
 all_goals rfl
theorem oget{α : Type}(f : α -> List AV)(l:List α){k:Nat}(h:k<l.length):(l.map f).getD k []=f l[k]:=getM f l k h
theorem q32(s:Ord)(hB:BigO s):FnA Tryz.prog 32 [.agg s.cells] (· = .int .i64 s.chk):=by
 have e0:=p18 s.w hB.w
 obtain⟨⟨hw1,hw2,hw3,hw4⟩,h1,h2,h3,h4,h5,h6⟩:=hB
 have hm:∀x∈s.w.mks,x.length<=1000000:=fun x hx=>(hw4 x hx).1
 have l1:(s.st.map jAV).length=s.st.length:=by simp
 have l2:(s.w.sps.map Spare.av).length=s.w.sps.length:=by simp
 have l3:(s.ps.map Piece.av).length=s.ps.length:=by simp
 have l4:(s.ws.map Wish.av).length=s.ws.length:=by simp
 have l5:(s.ds.map Dlv.av).length=s.ds.length:=by simp
 have e5:=q74 s.cv 0 99
 change FnA _ _ _ (· = .bool (mark s.cv))at e5
 refine fnA 2 ok32 (by simp) ?_
 rcases chk_val s.w with h|h|h<;>rw[h]at e0
 case inr.inl=>
  have:s.chk=70:=by unfold Ord.chk;rw[h];rfl
  rw[this]
  (conv=>whnf);(repeat'((first|apply bT|apply bF|apply bN|((first|apply bD|apply bEq|apply bNe)<;>intro hh<;>try(exfalso;omega))|refine e0.cq rfl rfl ?_|refine wJ ?_|refine nJ ?_)<;>conv=>whnf))
  all_goals rfl
 case inr.inr=>
  have:s.chk=71:=by unfold Ord.chk;rw[h];rfl
  rw[this]
  (conv=>whnf);(repeat'((first|apply bT|apply bF|apply bN|((first|apply bD|apply bEq|apply bNe)<;>intro hh<;>try(exfalso;omega))|refine e0.cq rfl rfl ?_|refine wJ ?_|refine nJ ?_)<;>conv=>whnf))
  all_goals rfl
 have hno:okOrd s=false->s.chk=80:=fun hf=>by unfold Ord.chk;rw[h,hf];rfl
 have hyes:okOrd s=true->s.chk=0:=fun hf=>by unfold Ord.chk;rw[h,hf];rfl
 by_cases c1:s.st.length=s.w.sps.length/\s.ps.length<=8/\s.ws.length<=6/\s.ds.length<=8
 case neg=>
  rw[hno (by
   by_cases d1:s.st.length=s.w.sps.length
   ·by_cases d2:s.ps.length<=8
    ·by_cases d3:s.ws.length<=6
     ·have d4:¬s.ds.length<=8:=fun d4=>c1 ⟨d1,d2,d3,d4⟩
      unfold okOrd;rw[decide_eq_false d4];simp
     ·unfold okOrd;rw[decide_eq_false d3];simp
    ·unfold okOrd;rw[decide_eq_false d2];simp
   ·unfold okOrd;rw[decide_eq_false d1];simp)]
  by_cases d1:s.st.length=s.w.sps.length
  ·by_cases d2:s.ps.length<=8
   ·by_cases d3:s.ws.length<=6
    ·(conv=>whnf);(repeat'((first|apply bT|apply bF|apply bN|((first|apply bD|apply bEq|apply bNe)<;>intro hh<;>try(exfalso;omega))|refine e0.cq rfl rfl ?_|refine wJ ?_|refine nJ ?_)<;>conv=>whnf))
     all_goals rfl
    ·(conv=>whnf);(repeat'((first|apply bT|apply bF|apply bN|((first|apply bD|apply bEq|apply bNe)<;>intro hh<;>try(exfalso;omega))|refine e0.cq rfl rfl ?_|refine wJ ?_|refine nJ ?_)<;>conv=>whnf))
     all_goals rfl
   ·(conv=>whnf);(repeat'((first|apply bT|apply bF|apply bN|((first|apply bD|apply bEq|apply bNe)<;>intro hh<;>try(exfalso;omega))|refine e0.cq rfl rfl ?_|refine wJ ?_|refine nJ ?_)<;>conv=>whnf))
    all_goals rfl
  ·(conv=>whnf);(repeat'((first|apply bT|apply bF|apply bN|((first|apply bD|apply bEq|apply bNe)<;>intro hh<;>try(exfalso;omega))|refine e0.cq rfl rfl ?_|refine wJ ?_|refine nJ ?_)<;>conv=>whnf))
   all_goals rfl
 obtain⟨d1,d2,d3,d4⟩:=c1
 cases c5:mark s.cv with
 |false=>
  rw[c5]at e5
  rw[hno (by unfold okOrd;rw[c5];simp)]
  (conv=>whnf);(repeat'((first|apply bT|apply bF|apply bN|((first|apply bD|apply bEq|apply bNe)<;>intro hh<;>try(exfalso;omega))|refine e0.cq rfl rfl ?_|refine e5.cq rfl rfl ?_|refine wJ ?_|refine nJ ?_)<;>conv=>whnf))
  all_goals rfl
 |true=>
 rw[c5]at e5
 (conv=>whnf);(repeat'((first|apply bT|apply bF|apply bN|((first|apply bD|apply bEq|apply bNe)<;>intro hh<;>try(exfalso;omega))|refine e0.cq rfl rfl ?_|refine e5.cq rfl rfl ?_|refine wJ ?_|refine nJ ?_)<;>conv=>whnf))
 refine loop_i (α :=Nat) (fun k=>[(4, .int .i64 k),(1, .own 0 0)]) (fun k=>[.box false s.cells, .fresh]) (fun k=>k<=s.st.length/\∀n∈s.st.take k,(fun n=>decide (0<=n/\n<=10)) n=true) (fun k=>s.st.length-k) 0 mI ⟨by omega,by simp⟩ ?_
 rintro k ⟨k1,k2⟩
 conv=>whnf
 refine bD (fun h3'=>?_) (fun h3'=>?_)
 ·have hk:k<s.st.length:=by omega
  have g1:=getM jAV s.st k hk
  have e6:=q74 s.st[k] 0 10
  by_cases hx:0<=s.st[k]/\s.st[k]<=10
  ·rw[decide_eq_true hx]at e6
   (conv=>whnf);(repeat'((first|apply bT|apply bF|apply bN|((first|apply bD|apply bEq|apply bNe)<;>intro hh<;>try(exfalso;omega))|refine iaJ g1 ?_|refine e6.cq rfl rfl ?_|refine wJ ?_|refine nJ ?_)<;>conv=>whnf))
   exact⟨k+1,mI,⟨by omega,take_all hk k2 (decide_eq_true hx)⟩,by omega⟩
  ·rw[decide_eq_false hx]at e6
   rw[hno (by
    have:=all_not (p:=fun n=>decide (0<=n/\n<=10)) hk (decide_eq_false hx)
    unfold okOrd;rw[this];simp)]
   (conv=>whnf);(repeat'((first|apply bT|apply bF|apply bN|((first|apply bD|apply bEq|apply bNe)<;>intro hh<;>try(exfalso;omega))|refine iaJ g1 ?_|refine e6.cq rfl rfl ?_|refine wJ ?_|refine nJ ?_)<;>conv=>whnf))
   all_goals rfl
 have:k=s.st.length:=by omega
 subst this
 rw[List.take_length]at k2
 have a1:=all_yes k2
 clear k1 k2 h3'
 (conv=>whnf);(repeat'((first|apply bT|apply bF|apply bN|((first|apply bD|apply bEq|apply bNe)<;>intro hh<;>try(exfalso;omega))|refine wJ ?_|refine nJ ?_)<;>conv=>whnf))
 refine loop_i (α :=Nat) (fun k=>[(5, .int .i64 k),(1, .own 0 0)]) (fun k=>[.box false s.cells, .fresh]) (fun k=>k<=s.ps.length/\∀n∈s.ps.take k,okPi s.w n=true) (fun k=>s.ps.length-k) 0 mI ⟨by omega,by simp⟩ ?_
 rintro k ⟨k1,k2⟩
 conv=>whnf
 refine bD (fun h3'=>?_) (fun h3'=>?_)
 ·have hk:k<s.ps.length:=by omega
  have g1:=getM Piece.av s.ps k hk
  have e6:=q75 s.w s.ps[k] (h5 _ (List.getElem_mem hk)) hw2 hm s rfl
  cases hx:okPi s.w s.ps[k]with
  |true=>
   rw[hx]at e6
   (conv=>whnf);(repeat'((first|apply bT|apply bF|apply bN|((first|apply bD|apply bEq|apply bNe)<;>intro hh<;>try(exfalso;omega))|refine iaJ g1 ?_|refine e6.cq rfl rfl ?_|refine wJ ?_|refine nJ ?_)<;>conv=>whnf))
   exact⟨k+1,mI,⟨by omega,take_all hk k2 hx⟩,by omega⟩
  |false=>
   rw[hx]at e6
   rw[hno (by
    have:=all_not (p:=okPi s.w) hk hx
    unfold okOrd;rw[this];simp)]
   (conv=>whnf);(repeat'((first|apply bT|apply bF|apply bN|((first|apply bD|apply bEq|apply bNe)<;>intro hh<;>try(exfalso;omega))|refine iaJ g1 ?_|refine e6.cq rfl rfl ?_|refine wJ ?_|refine nJ ?_)<;>conv=>whnf))
   all_goals rfl
 have:k=s.ps.length:=by omega
 subst this
 rw[List.take_length]at k2
 have a2:=all_yes k2
 clear k1 k2 h3'
 (conv=>whnf);(repeat'((first|apply bT|apply bF|apply bN|((first|apply bD|apply bEq|apply bNe)<;>intro hh<;>try(exfalso;omega))|refine wJ ?_|refine nJ ?_)<;>conv=>whnf))
 refine loop_i (α :=Nat) (fun k=>[(6, .int .i64 k),(1, .own 0 0)]) (fun k=>[.box false s.cells, .fresh]) (fun k=>k<=s.ws.length/\∀n∈s.ws.take k,okWi n=true) (fun k=>s.ws.length-k) 0 mI ⟨by omega,by simp⟩ ?_
 rintro k ⟨k1,k2⟩
 conv=>whnf
 refine bD (fun h3'=>?_) (fun h3'=>?_)
 ·have hk:k<s.ws.length:=by omega
  have g1:=getM Wish.av s.ws k hk
  have e6:=q76 s.ws[k] (h6 _ (List.getElem_mem hk))
  cases hx:okWi s.ws[k]with
  |true=>
   rw[hx]at e6
   (conv=>whnf);(repeat'((first|apply bT|apply bF|apply bN|((first|apply bD|apply bEq|apply bNe)<;>intro hh<;>try(exfalso;omega))|refine iaJ g1 ?_|refine e6.cq rfl rfl ?_|refine wJ ?_|refine nJ ?_)<;>conv=>whnf))
   exact⟨k+1,mI,⟨by omega,take_all hk k2 hx⟩,by omega⟩
  |false=>
   rw[hx]at e6
   rw[hno (by
    have:=all_not (p:=okWi) hk hx
    unfold okOrd;rw[this];simp)]
   (conv=>whnf);(repeat'((first|apply bT|apply bF|apply bN|((first|apply bD|apply bEq|apply bNe)<;>intro hh<;>try(exfalso;omega))|refine iaJ g1 ?_|refine e6.cq rfl rfl ?_|refine wJ ?_|refine nJ ?_)<;>conv=>whnf))
   all_goals rfl
 have:k=s.ws.length:=by omega
 subst this
 rw[List.take_length]at k2
 have a3:=all_yes k2
 clear k1 k2 h3'
 (conv=>whnf);(repeat'((first|apply bT|apply bF|apply bN|((first|apply bD|apply bEq|apply bNe)<;>intro hh<;>try(exfalso;omega))|refine wJ ?_|refine nJ ?_)<;>conv=>whnf))
 refine loop_i (α :=Nat) (fun k=>[(7, .int .i64 k),(1, .own 0 0)]) (fun k=>[.box false s.cells, .fresh]) (fun k=>k<=s.ds.length/\∀n∈s.ds.take k,okDl s.st.length n=true) (fun k=>s.ds.length-k) 0 mI ⟨by omega,by simp⟩ ?_
 rintro k ⟨k1,k2⟩
 conv=>whnf
 refine bD (fun h3'=>?_) (fun h3'=>?_)
 ·have hk:k<s.ds.length:=by omega
  have g1:=getM Dlv.av s.ds k hk
  have b1:=q74 s.ds[k].day 0 99
  have b2:=q74 s.ds[k].sp 0 (↑(s.w.sps.map Spare.av).length-1)
  have b3:=q74 s.ds[k].many 1 10
  have hb2:decide (0<=s.ds[k].sp/\s.ds[k].sp <= ↑(s.w.sps.map Spare.av).length-1)=decide (0<=s.ds[k].sp/\s.ds[k].sp<s.st.length):=decide_eq_decide.2 (by omega)
  rw[hb2]at b2
  change FnA _ _ _ (· = .bool (mark s.ds[k].day))at b1
  have hx:okDl s.st.length s.ds[k]=(mark s.ds[k].day&&decide (0<=s.ds[k].sp/\s.ds[k].sp<s.st.length)&&decide (1<=s.ds[k].many/\s.ds[k].many<=10)):=rfl
  have hno':okDl s.st.length s.ds[k]=false->s.chk=80:=fun hf=>hno (by
    have:=all_not (p:=okDl s.st.length) hk hf
    unfold okOrd;rw[this];simp)
  have htk:okDl s.st.length s.ds[k]=true->∀n∈s.ds.take (k+1),okDl s.st.length n=true:=take_all hk k2
  rw[hx]at hno' htk
  generalize mark s.ds[k].day=m1 at *
  generalize decide (0<=s.ds[k].sp/\s.ds[k].sp<s.st.length)=m2 at *
  generalize decide (1<=s.ds[k].many/\s.ds[k].many<=10)=m3 at *
  cases m1
  ·rw[hno' rfl]
   (conv=>whnf);(repeat'((first|apply bT|apply bF|apply bN|((first|apply bD|apply bEq|apply bNe)<;>intro hh<;>try(exfalso;omega))|refine iaJ g1 ?_|refine b1.cq rfl rfl ?_|refine wJ ?_|refine nJ ?_)<;>conv=>whnf))
   all_goals rfl
  cases m2
  ·rw[hno' rfl]
   (conv=>whnf);(repeat'((first|apply bT|apply bF|apply bN|((first|apply bD|apply bEq|apply bNe)<;>intro hh<;>try(exfalso;omega))|refine iaJ g1 ?_|refine b1.cq rfl rfl ?_|refine b2.cq rfl rfl ?_|refine wJ ?_|refine nJ ?_)<;>conv=>whnf))
   all_goals rfl
  cases m3
  ·rw[hno' rfl]
   (conv=>whnf);(repeat'((first|apply bT|apply bF|apply bN|((first|apply bD|apply bEq|apply bNe)<;>intro hh<;>try(exfalso;omega))|refine iaJ g1 ?_|refine b1.cq rfl rfl ?_|refine b2.cq rfl rfl ?_|refine b3.cq rfl rfl ?_|refine wJ ?_|refine nJ ?_)<;>conv=>whnf))
   all_goals rfl
  (conv=>whnf);(repeat'((first|apply bT|apply bF|apply bN|((first|apply bD|apply bEq|apply bNe)<;>intro hh<;>try(exfalso;omega))|refine iaJ g1 ?_|refine b1.cq rfl rfl ?_|refine b2.cq rfl rfl ?_|refine b3.cq rfl rfl ?_|refine wJ ?_|refine nJ ?_)<;>conv=>whnf))
  exact⟨k+1,mI,⟨by omega,htk rfl⟩,by omega⟩
 have:k=s.ds.length:=by omega
 subst this
 rw[List.take_length]at k2
 have a4:=all_yes k2
 rw[hyes (by unfold okOrd;rw[decide_eq_true d1,a1,decide_eq_true d2,a2,decide_eq_true d3,a3,decide_eq_true d4,a4,c5];rfl)]
 (conv=>whnf);(repeat'((first|apply bT|apply bF|apply bN|((first|apply bD|apply bEq|apply bNe)<;>intro hh<;>try(exfalso;omega))|refine wJ ?_|refine nJ ?_)<;>conv=>whnf))
 all_goals rfl
def suitV(w:Wish)(p:Piece):Int:=if p.col∈w.cs/\w.lo<=p.sz/\p.sz<=w.hi then(if p.let_=w.let_ then 1 else if p.let_=0 then 2 else 0) else 0
theorem q78(w:Wish)(p:Piece)(hw:w.cs.length<=1000000):FnA Tryz.prog 78 [.agg w.av, .agg p.av] (· = .int .i64 (suitV w p)):=by
 have e1:=p89 w.cs p.col hw
 have e2:=q104 p.sz w.lo w.hi
 refine fnA 2 ok78 (by simp) ?_
 by_cases h1:p.col∈w.cs
 case neg=>
  rw[decide_eq_false h1]at e1
  rw[show suitV w p=0 from if_neg fun h=>h1 h.1]
  (conv=>whnf);(repeat'((first|apply bT|apply bF|apply bN|((first|apply bD|apply bEq|apply bNe)<;>intro hh<;>try(exfalso;omega))|refine e1.cq rfl rfl ?_|refine wJ ?_|refine nJ ?_)<;>conv=>whnf))
  all_goals rfl
 rw[decide_eq_true h1]at e1
 by_cases h2:w.lo<=p.sz/\p.sz<=w.hi
 case neg=>
  rw[decide_eq_false h2]at e2
  rw[show suitV w p=0 from if_neg fun h=>h2 h.2]
  (conv=>whnf);(repeat'((first|apply bT|apply bF|apply bN|((first|apply bD|apply bEq|apply bNe)<;>intro hh<;>try(exfalso;omega))|refine e1.cq rfl rfl ?_|refine e2.cq rfl rfl ?_|refine wJ ?_|refine nJ ?_)<;>conv=>whnf))
  all_goals rfl
 rw[decide_eq_true h2]at e2
 rw[show suitV w p=(if p.let_=w.let_ then 1 else if p.let_=0 then 2 else 0) from if_pos ⟨h1,h2⟩]
 by_cases h3:p.let_=w.let_
 ·rw[if_pos h3]
  (conv=>whnf);(repeat'((first|apply bT|apply bF|apply bN|((first|apply bD|apply bEq|apply bNe)<;>intro hh<;>try(exfalso;omega))|refine e1.cq rfl rfl ?_|refine e2.cq rfl rfl ?_|refine wJ ?_|refine nJ ?_)<;>conv=>whnf))
  all_goals rfl
 rw[if_neg h3]
 by_cases h4:p.let_=0
 ·rw[if_pos h4]
  (conv=>whnf);(repeat'((first|apply bT|apply bF|apply bN|((first|apply bD|apply bEq|apply bNe)<;>intro hh<;>try(exfalso;omega))|refine e1.cq rfl rfl ?_|refine e2.cq rfl rfl ?_|refine wJ ?_|refine nJ ?_)<;>conv=>whnf))
  all_goals rfl
 rw[if_neg h4]
 (conv=>whnf);(repeat'((first|apply bT|apply bF|apply bN|((first|apply bD|apply bEq|apply bNe)<;>intro hh<;>try(exfalso;omega))|refine e1.cq rfl rfl ?_|refine e2.cq rfl rfl ?_|refine wJ ?_|refine nJ ?_)<;>conv=>whnf))
 all_goals rfl
theorem q80(w:Wish)(p:Piece)(hw:w.cs.length<=1000000):FnA Tryz.prog 80 [.agg w.av, .agg p.av] (· = .int .i64 (suitV w p)):=by
 have hL:(w.cs.map jAV).length=w.cs.length:=by simp
 have e2:=q74 p.sz w.lo w.hi
 refine fnA 2 ok80 (by simp) ?_
 (conv=>whnf);(repeat'((first|apply bT|apply bF|apply bN|((first|apply bD|apply bEq|apply bNe)<;>intro hh<;>try(exfalso;omega))|refine wJ ?_|refine nJ ?_)<;>conv=>whnf))
 refine loop_i (α :=Nat × Bool) (fun q=>[(6, .int .i64 q.1),(5, .bool q.2),(3, .own 1 0),(2, .own 0 0)]) (fun q=>[.box false w.av, .box false p.av]) (fun q=>q.1<=w.cs.length/\(q.2=true<->p.col∈w.cs.take q.1)) (fun q=>w.cs.length-q.1) (0,false) mI ⟨by simp,by simp⟩ ?_
 rintro⟨k,b⟩ ⟨k1,k2⟩
 dsimp only at k1 k2⊢
 conv=>whnf
 refine bD (fun h3'=>?_) (fun h3'=>?_)
 ·have hk:k<w.cs.length:=by omega
  have g1:=jget (l:=w.cs) (i:=k) hk
  have hgk:w.cs.getD k 0=w.cs[k]:=by simp[List.getD_eq_getElem?_getD,hk]
  have hmem:∀b':Bool,(b'=true<->p.col∈w.cs.take k\/w.cs.getD k 0=p.col)->(b'=true<->p.col∈w.cs.take (k+1)):=fun b' hb=>by
   rw[hb,List.take_succ_eq_append_getElem hk,List.mem_append,List.mem_singleton,hgk]
   constructor
   ·rintro(h|h)
    ·exact .inl h
    ·exact .inr h.symm
   ·rintro(h|h)
    ·exact .inl h
    ·exact .inr h.symm
  cases b with
  |true=>
   (conv=>whnf);(repeat'((first|apply bT|apply bF|apply bN|((first|apply bD|apply bEq|apply bNe)<;>intro hh<;>try(exfalso;omega))|refine wJ ?_|refine nJ ?_)<;>conv=>whnf))
   exact⟨(k+1,true),mI,⟨by dsimp only;omega,hmem true (by simp[k2.1 rfl])⟩,by dsimp only;omega⟩
  |false=>
   have k3:p.col∉w.cs.take k:=fun h=>by cases k2.2 h
   (conv=>whnf);(repeat'((first|apply bT|apply bF|apply bN|((first|apply bD|apply bEq|apply bNe)<;>intro hh<;>try(exfalso;omega))|refine iaJ g1 ?_|refine wJ ?_|refine nJ ?_)<;>conv=>whnf))
   exact⟨(k+1,decide (w.cs.getD k 0=p.col)),mI,⟨by dsimp only;omega,hmem _ (by simp[k3])⟩,by dsimp only;omega⟩
 have:k=w.cs.length:=by omega
 subst this
 rw[List.take_length]at k2
 cases b with
 |false=>
  have h1:p.col∉w.cs:=fun h=>by cases k2.2 h
  rw[show suitV w p=0 from if_neg fun h=>h1 h.1]
  (conv=>whnf);(repeat'((first|apply bT|apply bF|apply bN|((first|apply bD|apply bEq|apply bNe)<;>intro hh<;>try(exfalso;omega))|refine wJ ?_|refine nJ ?_)<;>conv=>whnf))
  all_goals rfl
 |true=>
 have h1:=k2.1 rfl
 by_cases h2:w.lo<=p.sz/\p.sz<=w.hi
 case neg=>
  rw[decide_eq_false h2]at e2
  rw[show suitV w p=0 from if_neg fun h=>h2 h.2]
  (conv=>whnf);(repeat'((first|apply bT|apply bF|apply bN|((first|apply bD|apply bEq|apply bNe)<;>intro hh<;>try(exfalso;omega))|refine e2.cq rfl rfl ?_|refine wJ ?_|refine nJ ?_)<;>conv=>whnf))
  all_goals rfl
 rw[decide_eq_true h2]at e2
 rw[show suitV w p=(if p.let_=w.let_ then 1 else if p.let_=0 then 2 else 0) from if_pos ⟨h1,h2⟩]
 by_cases h3:p.let_=w.let_
 ·rw[if_pos h3]
  (conv=>whnf);(repeat'((first|apply bT|apply bF|apply bN|((first|apply bD|apply bEq|apply bNe)<;>intro hh<;>try(exfalso;omega))|refine e2.cq rfl rfl ?_|refine wJ ?_|refine nJ ?_)<;>conv=>whnf))
  all_goals rfl
 rw[if_neg h3]
 by_cases h4:p.let_=0
 ·rw[if_pos h4]
  (conv=>whnf);(repeat'((first|apply bT|apply bF|apply bN|((first|apply bD|apply bEq|apply bNe)<;>intro hh<;>try(exfalso;omega))|refine e2.cq rfl rfl ?_|refine wJ ?_|refine nJ ?_)<;>conv=>whnf))
  all_goals rfl
 rw[if_neg h4]
 (conv=>whnf);(repeat'((first|apply bT|apply bF|apply bN|((first|apply bD|apply bEq|apply bNe)<;>intro hh<;>try(exfalso;omega))|refine e2.cq rfl rfl ?_|refine wJ ?_|refine nJ ?_)<;>conv=>whnf))
 all_goals rfl
end Go.Proofs
