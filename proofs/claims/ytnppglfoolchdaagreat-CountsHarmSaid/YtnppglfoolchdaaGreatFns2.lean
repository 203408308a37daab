/- What each function of this program answers, proved by walking its body: the contracts that the law rests on, part 2. -/
import Derived.Test.YtnppglfoolchdaaGreatFns1
set_option linter.unusedSimpArgs false
set_option linter.unusedVariables false
set_option linter.unusedSectionVars false
namespace Go.Proofs
open Go.Eng
attribute [local irreducible] Go.Eng.brB Go.Eng.need Go.Eng.wrE Go.Eng.iaE Go.Eng.slE Go.Eng.apE Go.Eng.CallZ Go.Eng.CallE Go.Eng.VCallE Go.Eng.YldE Go.Eng.GoC Go.Eng.MeetsE Go.Eng.FnA Go.Eng.FnV
set_option maxRecDepth 100000
structure Blw where
 a:Int
 lo:Int
 hi:Int
deriving DecidableEq
structure Met where
 L:Int
 c:Int
deriving DecidableEq
def okBlw(n:Nat)(b:Blw):Prop:=(0<=b.a/\b.a<n)/\(0<=b.lo/\b.lo<=b.hi)/\b.hi<=99/\b.hi-b.lo<=9
instance (n:Nat) (b:Blw):Decidable (okBlw n b):=by unfold okBlw;infer_instance
def okMet(m:Met):Prop:=(0<=m.L/\m.L<=99)/\0<=m.c/\m.c<=8
instance (m:Met):Decidable (okMet m):=by unfold okMet;infer_instance
def csK(F:List Int->List (List Int))(f:List Int)(lo:Int):Nat->List (List Int)
 |0=>[]
 |n+1=>csK F f lo n++F (f++[lo+n])
def wid(b:Blw):Nat:=(b.hi+1-b.lo).toNat
def csF:List Blw->List Int->List (List Int)
 | [],f=>[f]
 |b::bs,f=>csK (csF bs) f b.lo (wid b)
def prd(bs:List Blw):Nat:=bs.foldl (fun n b=>n*wid b) 1
theorem csK_len{F:List Int->List (List Int)}{f:List Int}{lo:Int}{B:Nat}(h:∀g,(F g).length=B):∀m,(csK F f lo m).length=m*B:=by
 intro m;induction m with
 |zero=>simp[csK]
 |succ m ih=>rw[csK,List.length_append,ih,h,Nat.succ_mul]
theorem prd_mul:∀(bs:List Blw) (n:Nat),bs.foldl (fun n b=>n*wid b) n=n*prd bs:=by
 intro bs;induction bs with
 |nil=>intro n;simp[prd]
 |cons b bs ih=>intro n;simp only[prd,List.foldl_cons,Nat.one_mul];rw[ih (n*wid b),ih (wid b),Nat.mul_assoc]
theorem prd_cons(b:Blw)(bs:List Blw):prd (b::bs)=wid b*prd bs:=by
 simp only[prd,List.foldl_cons,Nat.one_mul];exact prd_mul bs _
theorem csF_len:∀(bs:List Blw) (f:List Int),(csF bs f).length=prd bs:=by
 intro bs;induction bs with
 |nil=>intro f;simp[csF,prd]
 |cons b bs ih=>intro f;rw[csF,csK_len ih,prd_cons]
theorem mem_csK{F:List Int->List (List Int)}{f l:List Int}{lo:Int}:∀ {m:Nat},l∈csK F f lo m<->∃n,n<m/\l∈F (f++[lo+(n:Nat)]):=by
 intro m;induction m with
 |zero=>simp[csK]
 |succ m ih=>
  rw[csK,List.mem_append,ih]
  constructor
  ·rintro(⟨n,h1,h2⟩|h)
   ·exact⟨n,by omega,h2⟩
   ·exact⟨m,by omega,h⟩
  ·rintro⟨n,h1,h2⟩
   by_cases e:n=m
   ·subst e;exact .inr h2
   ·exact .inl ⟨n,by omega,h2⟩
def isC:List Blw->List Int->Prop
 | [],[]=>True
 |b::bs,x::l=>(b.lo<=x/\x<=b.hi)/\isC bs l
 |_,_=>False
theorem mem_csF:∀ {bs:List Blw} {f l:List Int},l∈csF bs f<->∃g,l=f++g/\isC bs g:=by
 intro bs;induction bs with
 |nil=>
  intro f l
  rw[csF,List.mem_singleton]
  constructor
  ·rintro rfl;exact⟨[],by simp,trivial⟩
  ·rintro⟨g,rfl,h⟩
   cases g with
   |nil=>simp
   |cons _ _=>exact h.elim
 |cons b bs ih=>
  intro f l
  rw[csF,mem_csK]
  constructor
  ·rintro⟨n,h1,h2⟩
   obtain⟨g,rfl,h3⟩:=ih.1 h2
   exact⟨(b.lo+n)::g,by simp,⟨by unfold wid at h1;omega,h3⟩⟩
  ·rintro⟨g,rfl,h⟩
   cases g with
   |nil=>exact h.elim
   |cons x g=>
    obtain⟨h1,h2⟩:=h
    refine⟨(x-b.lo).toNat,by unfold wid;omega,ih.2 ⟨g,?_,h2⟩⟩
    rw[show b.lo+((x-b.lo).toNat:Nat)=x by omega];simp
def css(bs:List Blw):List (List Int):=csF bs []
theorem mem_css{bs:List Blw}{l:List Int}:l∈css bs<->isC bs l:=by
 rw[css,mem_csF];simp
theorem isC_iff:∀ {bs:List Blw} {l:List Int},isC bs l<->l.length=bs.length/\∀i,i<bs.length->(bs.getD i ⟨0,0,0⟩).lo<=l.getD i 0/\l.getD i 0<=(bs.getD i ⟨0,0,0⟩).hi:=by
 intro bs;induction bs with
 |nil=>intro l;cases l<;>simp[isC]
 |cons b bs ih=>
  intro l
  cases l with
  |nil=>simp[isC]
  |cons x l=>
   rw[isC,ih]
   constructor
   ·rintro⟨h1,h2,h3⟩
    refine⟨by simp[h2],fun i hi=>?_⟩
    cases i with
    |zero=>simpa using h1
    |succ i=>simpa using h3 i (by simpa using hi)
   ·rintro⟨h1,h2⟩
    refine⟨by simpa using h2 0 (by simp),by simpa using h1,fun i hi=>by simpa using h2 (i+1) (by simpa using hi)⟩
theorem css_len(bs:List Blw):(css bs).length=prd bs:=csF_len bs []
def abv(f:List Int)(L:Int):Nat:=f.countP fun x=>decide (L<=x)
def rgtM(m:Met)(f:List Int):Bool:=decide ((abv f m.L:Int)=m.c)
def wrg(ms:List Met)(f:List Int):Nat:=ms.countP fun m => !rgtM m f
def trs(bs:List Blw)(ms:List Met)(w:Int):List (List Int):=(css bs).filter fun f=>decide ((wrg ms f:Int)<=w)
theorem mem_trs{bs:List Blw}{ms:List Met}{w:Int}{f:List Int}:f∈trs bs ms w<->isC bs f/\(wrg ms f:Int)<=w:=by
 rw[trs,List.mem_filter,mem_css,decide_eq_true_eq]
theorem trs_le(bs:List Blw)(ms:List Met)(w:Int):(trs bs ms w).length<=prd bs:=by
 rw[<- css_len];exact List.length_filter_le _ _
def fewK(ms:List Met)(l:List (List Int)):Nat->Int
 |0=>(ms.length:Nat)
 |k+1=>min (fewK ms l k) (wrg ms (l.getD k []):Nat)
def few(bs:List Blw)(ms:List Met):Int:=fewK ms (css bs) (css bs).length
theorem fewK_spec(ms:List Met)(l:List (List Int)):∀k,k<=l.length->(fewK ms l k<=ms.length/\(∀i,i<k->fewK ms l k<=(wrg ms (l.getD i []):Nat))/\(fewK ms l k=ms.length\/∃i,i<k/\fewK ms l k=(wrg ms (l.getD i []):Nat))):=by
 intro k;induction k with
 |zero=>intro _;exact⟨Int.le_refl _,fun i h=>by omega, .inl rfl⟩
 |succ k ih=>
  intro hk
  obtain⟨a,b,c⟩:=ih (by omega)
  rw[fewK]
  refine⟨by omega,fun i hi=>?_,?_⟩
  ·by_cases e:i=k
   ·subst e;omega
   ·have:=b i (by omega);omega
  ·by_cases h:fewK ms l k<=(wrg ms (l.getD k []):Nat)
   ·rw[Int.min_eq_left h]
    rcases c with c|⟨i,h1,h2⟩
    ·exact .inl c
    ·exact .inr ⟨i,by omega,h2⟩
   ·rw[Int.min_eq_right (by omega)];exact .inr ⟨k,by omega,rfl⟩
theorem wrg_le(ms:List Met)(f:List Int):wrg ms f<=ms.length:=List.countP_le_length
theorem few_le{bs:List Blw}{ms:List Met}{f:List Int}(h:isC bs f):few bs ms<=(wrg ms f:Nat):=by
 obtain⟨i,hi,e⟩:=List.getElem_of_mem (mem_css.2 h)
 have:=(fewK_spec ms (css bs) _ (Nat.le_refl _)).2.1 i hi
 rwa [show(css bs).getD i []=f from by rw[List.getD_eq_getElem?_getD,List.getElem?_eq_getElem hi];exact e]at this
theorem few_ex{bs:List Blw}{ms:List Met}(h:css bs≠[]):∃f,isC bs f/\few bs ms=(wrg ms f:Nat):=by
 rcases(fewK_spec ms (css bs) _ (Nat.le_refl _)).2.2 with c|⟨i,h1,h2⟩
 ·obtain⟨f,hf⟩:=List.exists_mem_of_ne_nil _ h
  refine⟨f,mem_css.1 hf,?_⟩
  have a:=few_le (ms:=ms) (mem_css.1 hf)
  have b:=wrg_le ms f
  unfold few at a⊢;omega
 ·refine⟨_,?_,h2⟩
  rw[List.getD_eq_getElem?_getD,List.getElem?_eq_getElem h1]
  exact mem_css.1 (List.getElem_mem h1)
def okBs(n:Nat)(bs:List Blw):Prop:=bs.length<=8/\∀b∈bs,okBlw n b
theorem isC_lo:∀ {bs:List Blw},(∀b∈bs,b.lo<=b.hi)->isC bs (bs.map (·.lo)):=by
 intro bs;induction bs with
 |nil=>intro _;trivial
 |cons b bs ih=>intro h;exact⟨⟨Int.le_refl _,h b (by simp)⟩,ih fun c hc=>h c (by simp[hc])⟩
theorem css_ne{n:Nat}{bs:List Blw}(h:okBs n bs):css bs≠[]:=by
 intro e
 have:=mem_css.2 (isC_lo (bs:=bs) fun b hb=>(h.2 b hb).2.1.2)
 rw[e]at this;cases this
theorem few_iff{n:Nat}{bs:List Blw}{ms:List Met}{w:Int}(h:okBs n bs):few bs ms<=w<->trs bs ms w≠[]:=by
 constructor
 ·intro hw e
  obtain⟨f,h1,h2⟩:=few_ex (ms:=ms) (css_ne h)
  have:f∈trs bs ms w:=mem_trs.2 ⟨h1,by omega⟩
  rw[e]at this;cases this
 ·intro hn
  obtain⟨f,hf⟩:=List.exists_mem_of_ne_nil _ hn
  obtain⟨h1,h2⟩:=mem_trs.1 hf
  have:=few_le (ms:=ms) h1;omega
theorem few0(bs:List Blw)(ms:List Met):0<=few bs ms/\few bs ms<=ms.length:=by
 refine⟨?_,(fewK_spec ms _ _ (Nat.le_refl _)).1⟩
 rcases(fewK_spec ms (css bs) _ (Nat.le_refl _)).2.2 with c|⟨i,_,c⟩<;>unfold few<;>omega
def frc(l:List (List Int))(k:Nat):List Int:=((List.range 100).filter fun n=>l.any fun f=>decide (f.getD k 0=((n:Nat):Int))).map fun(n:Nat)=>(n:Int)
theorem mem_frc{n:Nat}{bs:List Blw}{ms:List Met}{w:Int}(h:okBs n bs){k:Nat}(hk:k<bs.length){x:Int}:x∈frc (trs bs ms w) k<->∃f,f∈trs bs ms w/\f.getD k 0=x:=by
 unfold frc
 rw[List.mem_map]
 constructor
 ·rintro⟨i,hi,rfl⟩
  rw[List.mem_filter,List.any_eq_true]at hi
  obtain⟨_,f,h1,h2⟩:=hi
  exact⟨f,h1,by simpa using h2⟩
 ·rintro⟨f,h1,h2⟩
  have h3:=(isC_iff.1 (mem_trs.1 h1).1).2 k hk
  have hm:bs.getD k ⟨0,0,0⟩∈bs:=by simp[List.getD_eq_getElem?_getD,hk]
  have hb:=h.2 _ hm
  unfold okBlw at hb
  refine⟨x.toNat,?_,by omega⟩
  rw[List.mem_filter,List.mem_range,List.any_eq_true]
  exact⟨by omega,f,h1,by rw[decide_eq_true_eq];omega⟩
theorem frc_asc(l:List (List Int))(k:Nat):(frc l k).Pairwise (· < ·):=by
 unfold frc
 refine List.Pairwise.map _ (fun a b h=>?_) (List.Pairwise.filter _ List.pairwise_lt_range)
 omega
theorem nd_sub_lenC{α : Type}[DecidableEq α]{a b:List α}(ha:a.Nodup)(h:∀x∈a,x∈b):a.length<=b.length:=by
 induction a generalizing b with
 |nil=>simp
 |cons x a ih=>
  have hx:=h x (by simp)
  have hn:=List.nodup_cons.1 ha
  have:=ih (b:=b.erase x) hn.2 fun y hy=>(List.mem_erase_of_ne (fun e=>by subst e;exact hn.1 hy)).2 (h y (by simp[hy]))
  rw[List.length_erase_of_mem hx]at this
  have:=List.length_pos_of_mem hx
  simp only[List.length_cons];omega
theorem asc_eq{a b:List Int}(ha:a.Pairwise (· < ·))(hb:b.Pairwise (· < ·))(h:∀x,x∈a<->x∈b):a=b:=by
 induction a generalizing b with
 |nil=>
  cases b with
  |nil=>rfl
  |cons y b=>exact absurd ((h y).2 (by simp)) (by simp)
 |cons x a ih=>
  cases b with
  |nil=>exact absurd ((h x).1 (by simp)) (by simp)
  |cons y b=>
   rw[List.pairwise_cons]at ha hb
   have e:x=y:=by
    rcases List.mem_cons.1 ((h x).1 (by simp))with e|e
    ·exact e
    ·rcases List.mem_cons.1 ((h y).2 (by simp))with e2|e2
     ·exact e2.symm
     ·have:=hb.1 x e;have:=ha.1 y e2;omega
   subst e
   rw[ih ha.2 hb.2]
   intro z
   constructor
   ·intro hz
    rcases List.mem_cons.1 ((h z).1 (by simp[hz]))with e|e
    ·subst e;exact absurd (ha.1 z hz) (by omega)
    ·exact e
   ·intro hz
    rcases List.mem_cons.1 ((h z).2 (by simp[hz]))with e|e
    ·subst e;exact absurd (hb.1 z hz) (by omega)
    ·exact e
def knwC(some many:Nat):Int:=if some=many then 1 else if some=0 then 2 else 3
def rgtC(l:List (List Int))(m:Met):Int:=knwC (l.countP (rgtM m)) l.length
def spI(x:List Int):Nat->Int × Int
 |0=>(0,0)
 |k+1=>if k=0 then(x.getD 0 0,x.getD 0 0) else(min (spI x k).1 (x.getD k 0),max (spI x k).2 (x.getD k 0))
def spL(x:List Int):Int × Int:=spI x x.length
theorem spI_spec(x:List Int):∀k,0<k->k<=x.length->(∀i,i<k->(spI x k).1<=x.getD i 0/\x.getD i 0<=(spI x k).2)/\(∃i,i<k/\(spI x k).1=x.getD i 0)/\∃i,i<k/\(spI x k).2=x.getD i 0:=by
 intro k;induction k with
 |zero=>intro h;omega
 |succ k ih=>
  intro _ hk
  rw[spI]
  by_cases h0:k=0
  ·subst h0
   rw[if_pos rfl]
   exact⟨fun i hi=>by rw[show i=0 by omega];exact⟨Int.le_refl _,Int.le_refl _⟩,⟨0,by omega,rfl⟩,⟨0,by omega,rfl⟩⟩
  ·rw[if_neg h0]
   obtain⟨a,⟨i,b1,b2⟩,⟨j,c1,c2⟩⟩:=ih (by omega) (by omega)
   refine⟨fun i hi=>?_,?_,?_⟩
   ·by_cases e:i=k
    ·subst e;dsimp only;omega
    ·have:=a i (by omega);dsimp only;omega
   ·by_cases h:(spI x k).1<=x.getD k 0
    ·exact⟨i,by omega,by dsimp only;omega⟩
    ·exact⟨k,by omega,by dsimp only;omega⟩
   ·by_cases h:x.getD k 0<=(spI x k).2
    ·exact⟨j,by omega,by dsimp only;omega⟩
    ·exact⟨k,by omega,by dsimp only;omega⟩
theorem spL_in{x:List Int}{y:Int}(h:y∈x):(spL x).1<=y/\y<=(spL x).2:=by
 obtain⟨i,hi,e⟩:=List.getElem_of_mem h
 have:=(spI_spec x x.length (by omega) (Nat.le_refl _)).1 i hi
 rwa [show x.getD i 0=y from by rw[List.getD_eq_getElem?_getD,List.getElem?_eq_getElem hi];exact e]at this
theorem spL_ex{x:List Int}(h:x≠[]):(spL x).1∈x/\(spL x).2∈x:=by
 have h0:0<x.length:=List.length_pos_iff.2 h
 obtain⟨_,⟨i,b1,b2⟩,⟨j,c1,c2⟩⟩:=spI_spec x x.length h0 (Nat.le_refl _)
 unfold spL
 rw[b2,c2]
 constructor
 ·rw[List.getD_eq_getElem?_getD,List.getElem?_eq_getElem b1];exact List.getElem_mem b1
 ·rw[List.getD_eq_getElem?_getD,List.getElem?_eq_getElem c1];exact List.getElem_mem c1
theorem isC_len{bs:List Blw}{f:List Int}(h:isC bs f):f.length=bs.length:=(isC_iff.1 h).1
def rds(l:List (List Int))(L:Int):Int × Int:=spL (l.map fun f=>((abv f L:Nat):Int))
def Blw.av(b:Blw):List AV:=[.int .i64 b.a, .int .i64 b.lo, .int .i64 b.hi]
def Met.av(m:Met):List AV:=[.int .i64 m.L, .int .i64 m.c]
def c1(l:List Int):List AV:=[.isl (l.map i1)]
structure Ru where
 d:Dm
 bs:List Blw
 ms:List Met
 w:Int
def Ru.cells(r:Ru):List AV:=[.isl (r.d.f.ss.map Sec.av), .int .i64 r.d.f.lo, .int .i64 r.d.f.hi, .int .i64 r.d.f.en, .int .i64 r.d.f.ed, .int .i64 r.d.f.rod, .int .i64 r.d.f.cs, .isl (r.d.rs.map s2), .isl (r.d.sh.map i1), .isl (r.bs.map Blw.av), .isl (r.ms.map Met.av), .int .i64 r.w]
theorem i1_one(l:List Int):∀e∈l.map i1,e.length=1/\e.all AV.one=true:=fun e he=>by
 obtain⟨x,_,rfl⟩:=List.mem_map.1 he;exact⟨rfl,rfl⟩
theorem c1_one(l:List (List Int)):∀e∈l.map c1,e.length=1/\e.all AV.one=true:=fun e he=>by
 obtain⟨x,_,rfl⟩:=List.mem_map.1 he;exact⟨rfl,rfl⟩
theorem blw_one(l:List Blw):∀e∈l.map Blw.av,e.length=3/\e.all AV.one=true:=fun e he=>by
 obtain⟨x,_,rfl⟩:=List.mem_map.1 he;exact⟨rfl,rfl⟩
theorem met_one(l:List Met):∀e∈l.map Met.av,e.length=2/\e.all AV.one=true:=fun e he=>by
 obtain⟨x,_,rfl⟩:=List.mem_map.1 he;exact⟨rfl,rfl⟩
theorem gC(l:List (List Int))(i:Nat)(h:i<l.length):(l.map c1).getD i []=[.isl ((l.getD i []).map i1)]:=by
 rw[getD_mapD c1 l i [] h];rfl
theorem gI(l:List Int)(i:Nat)(h:i<l.length):(l.map i1).getD i []=[.int .i64 (l.getD i 0)]:=by
 rw[getD_mapD i1 l i 0 h];rfl
theorem gB(l:List Blw)(i:Nat)(h:i<l.length):(l.map Blw.av).getD i []=[.int .i64 (l.getD i ⟨0,0,0⟩).a, .int .i64 (l.getD i ⟨0,0,0⟩).lo, .int .i64 (l.getD i ⟨0,0,0⟩).hi]:=by
 rw[getD_mapD Blw.av l i ⟨0,0,0⟩ h];rfl
theorem gM(l:List Met)(i:Nat)(h:i<l.length):(l.map Met.av).getD i []=[.int .i64 (l.getD i ⟨0,0⟩).L, .int .i64 (l.getD i ⟨0,0⟩).c]:=by
 rw[getD_mapD Met.av l i ⟨0,0⟩ h];rfl
theorem n61(n lo hi:Int):FnA Tryz.prog 48 [.int .i64 n, .int .i64 lo, .int .i64 hi] (· = .bool (decide (lo<=n/\n<=hi))):=by
 refine fnA 0 ok48 (by simp) ?_
 (conv=>whnf);(repeat'((first|apply bT|apply bF|apply bN|((first|apply bD|apply bEq|apply bNe)<;>intro hh<;>try(exfalso;omega))|refine(k50 n lo hi).cq rfl rfl ?_|refine wJ ?_|refine nJ ?_)<;>conv=>whnf))
 all_goals rfl
theorem cnt_suc{α : Type}(p : α -> Bool)(l:List α)(k:Nat)(hk:k<l.length)(z : α):(l.take (k+1)).countP p=(l.take k).countP p+if p (l.getD k z)=true then 1 else 0:=by
 rw[List.take_succ_eq_append_getElem hk,List.countP_append,List.countP_singleton,List.getD_eq_getElem?_getD,List.getElem?_eq_getElem hk];rfl
theorem n42(f:List Int)(L:Int)(hf:f.length<=9223372036854775807):FnA Tryz.prog 35 [.isl (f.map i1), .int .i64 L] (· = .int .i64 (abv f L:Nat)):=by
 have hL:(f.map i1).length=f.length:=by simp
 refine fnA 0 ok35 (by simp) ?_
 (conv=>whnf);(repeat'((first|apply bT|apply bF|apply bN|((first|apply bD|apply bEq|apply bNe)<;>intro hh<;>try(exfalso;omega))|refine wJ ?_|refine nJ ?_)<;>conv=>whnf))
 refine loop_i (α :=Nat) (fun k=>[(6, .int .i64 k),(5, .int .i64 (((f.take k).countP fun x=>decide (L<=x):Nat):Int)),(1, .int .i64 L),(0, .isl (f.map i1))]) (fun k=>[]) (fun k=>k<=f.length) (fun k=>f.length-k) 0 mI (by omega) ?_
 intro k hk
 have hc:(f.take k).countP (fun x=>decide (L<=x))<=k:=Nat.le_trans List.countP_le_length (by simp;omega)
 conv=>whnf
 refine bD (fun h3=>?_) (fun h3=>?_)
 ·have hlt:k<f.length:=by omega
  have g1:=gI f k hlt
  have e:=cnt_suc (fun x=>decide (L<=x)) f k hlt 0
  by_cases h:L<=f.getD k 0
  ·rw[if_pos (decide_eq_true h)]at e
   (conv=>whnf);(repeat'((first|apply bT|apply bF|apply bN|((first|apply bD|apply bEq|apply bNe)<;>intro hh<;>try(exfalso;omega))|refine iaJ g1 ?_|refine wJ ?_|refine nJ ?_)<;>conv=>whnf))
   refine⟨k+1,?_,by omega,by omega⟩
   rw[e]
   simp only[Int.natCast_add,Int.natCast_one]
   exact mI
  ·rw[if_neg (by rw[decide_eq_false h];simp)]at e
   (conv=>whnf);(repeat'((first|apply bT|apply bF|apply bN|((first|apply bD|apply bEq|apply bNe)<;>intro hh<;>try(exfalso;omega))|refine iaJ g1 ?_|refine wJ ?_|refine nJ ?_)<;>conv=>whnf))
   refine⟨k+1,?_,by omega,by omega⟩
   rw[e]
   simp only[Int.natCast_add,Int.natCast_one]
   exact mI
 ·have:k=f.length:=by omega
  subst this
  rw[List.take_length]
  (conv=>whnf);(repeat'((first|apply bT|apply bF|apply bN|((first|apply bD|apply bEq|apply bNe)<;>intro hh<;>try(exfalso;omega))|refine wJ ?_|refine nJ ?_)<;>conv=>whnf))
  all_goals rfl
theorem n45(m:Met)(f:List Int)(hf:f.length<=9223372036854775807):FnA Tryz.prog 38 [.agg m.av, .isl (f.map i1)] (· = .bool (rgtM m f)):=by
 have e1:=n42 f m.L hf
 refine fnA 1 ok38 (by simp) ?_
 (conv=>whnf);(repeat'((first|apply bT|apply bF|apply bN|((first|apply bD|apply bEq|apply bNe)<;>intro hh<;>try(exfalso;omega))|refine e1.cq rfl rfl ?_|refine wJ ?_|refine nJ ?_)<;>conv=>whnf))
 all_goals rfl
theorem n63(r:Ru)(f:List Int)(hf:f.length<=9223372036854775807)(hm:r.ms.length<=1000):FnA Tryz.prog 52 [.agg r.cells, .isl (f.map i1)] (· = .int .i64 (wrg r.ms f:Nat)):=by
 have hL:(r.ms.map Met.av).length=r.ms.length:=by simp
 refine fnA 1 ok52 (by simp) ?_
 (conv=>whnf);(repeat'((first|apply bT|apply bF|apply bN|((first|apply bD|apply bEq|apply bNe)<;>intro hh<;>try(exfalso;omega))|refine wJ ?_|refine nJ ?_)<;>conv=>whnf))
 refine loop_i (α :=Nat) (fun k=>[(6, .int .i64 k),(5, .int .i64 (((r.ms.take k).countP fun m => !rgtM m f:Nat):Int)),(2, .own 0 0),(1, .isl (f.map i1))]) (fun k=>[.box false r.cells]) (fun k=>k<=r.ms.length) (fun k=>r.ms.length-k) 0 mI (by omega) ?_
 intro k hk
 have hc:(r.ms.take k).countP (fun m => !rgtM m f)<=k:=Nat.le_trans List.countP_le_length (by simp;omega)
 conv=>whnf
 refine bD (fun h3=>?_) (fun h3=>?_)
 ·have hlt:k<r.ms.length:=by omega
  have g1:=gM r.ms k hlt
  have e:=cnt_suc (fun m => !rgtM m f) r.ms k hlt ⟨0,0⟩
  have e1:=n45 (r.ms.getD k ⟨0,0⟩) f hf
  cases h:rgtM (r.ms.getD k ⟨0,0⟩) f
  ·rw[if_pos (show(!rgtM (r.ms.getD k ⟨0,0⟩) f)=true by rw[h];rfl)]at e
   rw[h]at e1
   (conv=>whnf);(repeat'((first|apply bT|apply bF|apply bN|((first|apply bD|apply bEq|apply bNe)<;>intro hh<;>try(exfalso;omega))|refine iaJ g1 ?_|refine e1.cq rfl rfl ?_|refine wJ ?_|refine nJ ?_)<;>conv=>whnf))
   refine⟨k+1,?_,by omega,by omega⟩
   rw[e]
   simp only[Int.natCast_add,Int.natCast_one]
   exact mI
  ·rw[if_neg (show ¬(!rgtM (r.ms.getD k ⟨0,0⟩) f)=true by rw[h];simp)]at e
   rw[h]at e1
   (conv=>whnf);(repeat'((first|apply bT|apply bF|apply bN|((first|apply bD|apply bEq|apply bNe)<;>intro hh<;>try(exfalso;omega))|refine iaJ g1 ?_|refine e1.cq rfl rfl ?_|refine wJ ?_|refine nJ ?_)<;>conv=>whnf))
   refine⟨k+1,?_,by omega,by omega⟩
   rw[e]
   simp only[Int.natCast_add,Int.natCast_one]
   exact mI
 ·have:k=r.ms.length:=by omega
  subst this
  rw[List.take_length]
  (conv=>whnf);(repeat'((first|apply bT|apply bF|apply bN|((first|apply bD|apply bEq|apply bNe)<;>intro hh<;>try(exfalso;omega))|refine wJ ?_|refine nJ ?_)<;>conv=>whnf))
  all_goals rfl
def Ru.ok(r:Ru):Bool:=r.d.okB&&(decide (r.bs.length<=8)&&decide (r.ms.length<=5))&&decide (0<=r.w/\r.w<=5)&&(r.bs.all fun b=>decide (okBlw r.d.rs.length b))&&r.ms.all fun m=>decide (okMet m)
theorem rok_iff{r:Ru}:r.ok=true<->r.d.okB=true/\okBs r.d.rs.length r.bs/\r.ms.length<=5/\(0<=r.w/\r.w<=5)/\∀m∈r.ms,okMet m:=by
 unfold Ru.ok okBs
 simp only[Bool.and_eq_true,decide_eq_true_eq,List.all_eq_true]
 constructor
 ·rintro⟨⟨⟨⟨a,b,c⟩,d⟩,e⟩,f⟩;exact⟨a,⟨b,e⟩,c,d,f⟩
 ·rintro⟨a,⟨b,e⟩,c,d,f⟩;exact⟨⟨⟨⟨a,b,c⟩,d⟩,e⟩,f⟩
structure Sm(r:Ru):Prop where
 f:r.d.f.ss.length<=1000
 n:r.d.rs.length<=1000
 s:r.d.sh.length<=1000
 b:r.bs.length<=1000
 m:r.ms.length<=1000
theorem okB_lens{d:Dm}(h:d.okB=true):d.f.ss.length<=1000/\d.rs.length<=1000/\d.sh.length<=1000:=by
 have h':=okB_iff.1 h
 have:=h'.2.1;have:=h'.2.2.2.1
 have hf:=h'.1
 refine⟨?_,by omega,by omega⟩
 unfold Frm.ok at hf;omega
theorem rok_sm{r:Ru}(h:r.ok=true):Sm r:=by
 obtain⟨a,b,c,_,_⟩:=rok_iff.1 h
 have:=okB_lens a
 exact⟨this.1,this.2.1,this.2.2,by have:=b.1;omega,by omega⟩
theorem wid_pos{n:Nat}{b:Blw}(h:okBlw n b):1<=wid b/\wid b<=10:=by unfold okBlw at h;unfold wid;omega
theorem prd_pos{n:Nat}:∀ {bs:List Blw},(∀b∈bs,okBlw n b)->1<=prd bs:=by
 intro bs;induction bs with
 |nil=>intro _;simp[prd]
 |cons b bs ih=>
  intro h
  rw[prd_cons]
  exact Nat.mul_pos (wid_pos (h b (by simp))).1 (ih fun c hc=>h c (by simp[hc]))
theorem n62(r:Ru)(h:okBs r.d.rs.length r.bs):∀(n:Nat) (f:List Int),f.length+n=r.bs.length->prd (r.bs.drop f.length)<=1000->FnA Tryz.prog 51 [.agg r.cells, .isl (f.map i1)] (· = .isl ((csF (r.bs.drop f.length) f).map c1)):=by
 have hB:(r.bs.map Blw.av).length=r.bs.length:=by simp
 have h8:=h.1
 intro n;induction n with
 |zero=>
  intro f hf hp
  have hL:(f.map i1).length=f.length:=by simp
  rw[List.drop_eq_nil_of_le (by omega),csF]
  refine fnA 9 ok51 (by simp) ?_
  (conv=>whnf);(repeat'((first|apply bT|apply bF|apply bN|((first|apply bD|apply bEq|apply bNe)<;>intro hh<;>try(exfalso;omega))|refine wJ ?_|refine nJ ?_)<;>conv=>whnf))
  all_goals rfl
 |succ n ih=>
  intro f hf hp
  have hL:(f.map i1).length=f.length:=by simp
  have hlt:f.length<r.bs.length:=by omega
  have hd:r.bs.drop f.length=r.bs.getD f.length ⟨0,0,0⟩::r.bs.drop (f.length+1):=by
   rw[List.drop_eq_getElem_cons hlt,List.getD_eq_getElem?_getD,List.getElem?_eq_getElem hlt];rfl
  have hm:r.bs.getD f.length ⟨0,0,0⟩∈r.bs:=by simp[List.getD_eq_getElem?_getD,hlt]
  have hb:=h.2 _ hm
  have g1:(r.bs.map Blw.av).getD (f.map i1).length []=_:=(congrArg (fun i=>(r.bs.map Blw.av).getD i []) hL).trans (gB r.bs f.length hlt)
  rw[hd]at hp⊢
  rw[prd_cons]at hp
  have hw:=wid_pos hb
  have hq:prd (r.bs.drop (f.length+1))<=1000:=Nat.le_trans (Nat.le_mul_of_pos_left _ (by omega)) hp
  have hlen:=fun k=>csK_len (F:=csF (r.bs.drop (f.length+1))) (f:=f) (lo:=(r.bs.getD f.length ⟨0,0,0⟩).lo) (csF_len (r.bs.drop (f.length+1))) k
  rw[csF]
  generalize r.bs.getD f.length ⟨0,0,0⟩=b at *
  have e0:b.hi+1-b.lo=(wid b:Nat):=by unfold okBlw at hb;unfold wid;omega
  unfold okBlw at hb
  generalize wid b=W at *
  refine fnA 10 ok51 (by simp) ?_
  (conv=>whnf);(repeat'((first|apply bT|apply bF|apply bN|((first|apply bD|apply bEq|apply bNe)<;>intro hh<;>try(exfalso;omega))|refine iaJ g1 ?_|refine wJ ?_|refine nJ ?_)<;>conv=>whnf))
  refine loop_i (α :=Nat × Int) (fun z=>[(7, .int .i64 z.2),(6, .own 2 0),(5, .row 9),(2, .own 0 0),(1, .isl (f.map i1))]) (fun z=>[.box false r.cells, .fresh, .box false [.int .i64 b.lo, .int .i64 b.hi], .fresh, .fresh, .fresh, .fresh, .fresh, .fresh, .row false 28 1 ((csK (csF (r.bs.drop (f.length+1))) f b.lo z.1).map c1)]) (fun z=>z.1<=W/\z.2=b.lo+(z.1:Int)) (fun z=>W-z.1) (0,b.lo) (mA [(9,none)]) (by dsimp only;omega) ?_
  rintro⟨k,p⟩ ⟨hk,hp9⟩
  dsimp only at hk hp9⊢
  conv=>whnf
  refine bD (fun h3=>?_) (fun h3=>?_)
  ·have hkW:k<W:=by omega
   have hpp:p=b.lo+(k:Int):=hp9
   have e2:=ih (f++[b.lo+(k:Int)]) (by simp;omega) (by rw[List.length_append,List.length_singleton];exact hq)
   rw[List.map_append,List.length_append,List.length_singleton]at e2
   have l0:=hlen k
   have l0':k*prd (r.bs.drop (f.length+1))<=W*prd (r.bs.drop (f.length+1)):=Nat.mul_le_mul_right _ hk
   have l1:((csK (csF (r.bs.drop (f.length+1))) f b.lo k).map c1).length<=1000:=by rw[List.length_map,l0];omega
   have l2:((csF (r.bs.drop (f.length+1)) (f++[b.lo+(k:Int)])).map c1).length<=1000:=by rw[List.length_map,csF_len];omega
   have hF:=c1_one (csF (r.bs.drop (f.length+1)) (f++[b.lo+(k:Int)]))
   have hJ:=i1_one f
   have hK:∀e∈[[AV.int .i64 (b.lo+(k:Int))]],e.length=1/\e.all AV.one=true:=by simp[AV.one]
   have ek:csK (csF (r.bs.drop (f.length+1))) f b.lo (k+1)=csK (csF (r.bs.drop (f.length+1))) f b.lo k++csF (r.bs.drop (f.length+1)) (f++[b.lo+(k:Int)]):=rfl
   rw[<- hpp]at e2 l2 hF hK ek
   (conv=>whnf);(repeat'((first|apply bT|apply bF|apply bN|((first|apply bD|apply bEq|apply bNe)<;>intro hh<;>try(exfalso;omega))|(refine apI hJ (by simp only[List.length_nil,hL];omega) ?_)|refine apI hF (by omega) ?_|(refine apI hK (by simp only[List.nil_append,List.length_cons,List.length_nil,hL];omega) ?_)|refine e2.zq rfl rfl ?_|refine wJ ?_|refine nJ ?_)<;>conv=>whnf))
   refine⟨(k+1,p+1),?_,⟨by dsimp only;omega,by dsimp only;omega⟩,by dsimp only;omega⟩
   dsimp only
   rw[ek,List.map_append]
   exact(mA [(9,some 8)])
  ·have:k=W:=by omega
   subst this
   (conv=>whnf);(repeat'((first|apply bT|apply bF|apply bN|((first|apply bD|apply bEq|apply bNe)<;>intro hh<;>try(exfalso;omega))|refine wJ ?_|refine nJ ?_)<;>conv=>whnf))
   all_goals rfl
noncomputable instance (bs:List Blw) (f:List Int):Decidable (isC bs f):=Classical.propDecidable _
theorem n70(r:Ru)(f:List Int)(hf:f.length<=9223372036854775807)(hb:r.bs.length<=1000):FnA Tryz.prog 71 [.agg r.cells, .isl (f.map i1)] (· = .bool (decide (isC r.bs f))):=by
 have hB:(r.bs.map Blw.av).length=r.bs.length:=by simp
 have hL:(f.map i1).length=f.length:=by simp
 refine fnA 1 ok71 (by simp) ?_
 (conv=>whnf);(repeat'((first|apply bT|apply bF|apply bN|((first|apply bD|apply bEq|apply bNe)<;>intro hh<;>try(exfalso;omega))|refine wJ ?_|refine nJ ?_)<;>conv=>whnf))
 refine loop_i (α :=Nat) (fun k=>[(5, .int .i64 k),(2, .own 0 0),(1, .isl (f.map i1))]) (fun k=>[.box false r.cells]) (fun k=>k<=f.length/\k<=r.bs.length/\∀i,i<k->(r.bs.getD i ⟨0,0,0⟩).lo<=f.getD i 0/\f.getD i 0<=(r.bs.getD i ⟨0,0,0⟩).hi) (fun k=>f.length-k) 0 mI ⟨by omega,by omega,fun i hi=>by omega⟩ ?_
 rintro k ⟨h1,h2,h3⟩
 conv=>whnf
 by_cases hk:k<f.length/\k<r.bs.length
 ·have g1:=gI f k hk.1
  have g2:=gB r.bs k hk.2
  have e1:=n61 (f.getD k 0) (r.bs.getD k ⟨0,0,0⟩).lo (r.bs.getD k ⟨0,0,0⟩).hi
  by_cases hin:(r.bs.getD k ⟨0,0,0⟩).lo<=f.getD k 0/\f.getD k 0<=(r.bs.getD k ⟨0,0,0⟩).hi
  ·rw[decide_eq_true hin]at e1
   (conv=>whnf);(repeat'((first|apply bT|apply bF|apply bN|((first|apply bD|apply bEq|apply bNe)<;>intro hh<;>try(exfalso;omega))|refine iaJ g1 ?_|refine iaJ g2 ?_|refine e1.cq rfl rfl ?_|refine wJ ?_|refine nJ ?_)<;>conv=>whnf))
   refine⟨k+1,mI,⟨by omega,by omega,fun i hi=>?_⟩,by omega⟩
   by_cases e:i=k
   ·subst e;exact hin
   ·exact h3 i (by omega)
  ·rw[decide_eq_false hin]at e1
   (conv=>whnf);(repeat'((first|apply bT|apply bF|apply bN|((first|apply bD|apply bEq|apply bNe)<;>intro hh<;>try(exfalso;omega))|refine iaJ g1 ?_|refine iaJ g2 ?_|refine e1.cq rfl rfl ?_|refine wJ ?_|refine nJ ?_)<;>conv=>whnf))
   exact congrArg AV.bool (decide_eq_false fun hc=>hin ((isC_iff.1 hc).2 k hk.2)).symm
 ·have fin:(decide (((f.map i1).length:Int)=((r.bs.map Blw.av).length:Int)))=decide (isC r.bs f):=by
   refine decide_eq_decide.2 ?_
   rw[isC_iff]
   constructor
   ·intro h;exact⟨by omega,fun i hi=>h3 i (by omega)⟩
   ·rintro⟨h,_⟩;omega
  (conv=>whnf);(repeat'((first|apply bT|apply bF|apply bN|((first|apply bD|apply bEq|apply bNe)<;>intro hh<;>try(exfalso;omega))|refine wJ ?_|refine nJ ?_)<;>conv=>whnf))
  all_goals exact congrArg AV.bool fin
def Ru.trs(r:Ru):List (List Int):=Go.Proofs.trs r.bs r.ms r.w
theorem n37(r:Ru)(f:List Int)(hf:f.length<=9223372036854775807)(hb:r.bs.length<=1000)(hm:r.ms.length<=1000):FnA Tryz.prog 30 [.agg r.cells, .isl (f.map i1)] (· = .bool (decide (f∈r.trs))):=by
 have e1:=n70 r f hf hb
 have e2:=n63 r f hf hm
 have hM:f∈r.trs<->isC r.bs f/\(wrg r.ms f:Int)<=r.w:=mem_trs
 refine fnA 1 ok30 (by simp) ?_
 by_cases h:isC r.bs f
 ·rw[decide_eq_true h]at e1
  (conv=>whnf);(repeat'((first|apply bT|apply bF|apply bN|((first|apply bD|apply bEq|apply bNe)<;>intro hh<;>try(exfalso;omega))|refine e1.cq rfl rfl ?_|refine e2.cq rfl rfl ?_|refine wJ ?_|refine nJ ?_)<;>conv=>whnf))
  exact congrArg AV.bool (decide_eq_decide.2 ⟨fun h2=>hM.2 ⟨h,h2⟩,fun h2=>(hM.1 h2).2⟩)
 ·rw[decide_eq_false h]at e1
  (conv=>whnf);(repeat'((first|apply bT|apply bF|apply bN|((first|apply bD|apply bEq|apply bNe)<;>intro hh<;>try(exfalso;omega))|refine e1.cq rfl rfl ?_|refine e2.cq rfl rfl ?_|refine wJ ?_|refine nJ ?_)<;>conv=>whnf))
  exact congrArg AV.bool (decide_eq_false fun h2=>h (hM.1 h2).1).symm
theorem n62n(r:Ru)(h:okBs r.d.rs.length r.bs)(hp:prd r.bs<=1000):FnA Tryz.prog 51 [.agg r.cells, .isl []] (· = .isl ((css r.bs).map c1)):=n62 r h r.bs.length [] (by simp) hp
theorem filter_sucC{α : Type}(p : α -> Bool)(l:List α)(k:Nat)(hk:k<l.length)(z : α):(l.take (k+1)).filter p=(l.take k).filter p++if p (l.getD k z)=true then [l.getD k z] else []:=by
 have e:l.getD k z=l[k]:=by rw[List.getD_eq_getElem?_getD,List.getElem?_eq_getElem hk];rfl
 rw[List.take_succ_eq_append_getElem hk,List.filter_append,e]
 congr 1
 by_cases hp:p l[k]=true
 ·rw[if_pos hp,List.filter_cons_of_pos hp];rfl
 ·rw[if_neg hp,List.filter_cons_of_neg hp];rfl
theorem css_f{bs:List Blw}{k:Nat}(hk:k<(css bs).length):isC bs ((css bs).getD k []):=by
 rw[List.getD_eq_getElem?_getD,List.getElem?_eq_getElem hk];exact mem_css.1 (List.getElem_mem hk)
theorem n93(r:Ru)(h:okBs r.d.rs.length r.bs)(hp:prd r.bs<=1000)(hm:r.ms.length<=1000):FnA Tryz.prog 99 [.agg r.cells] (· = .isl (r.trs.map c1)):=by
 have h8:=h.1
 have e1:=n62n r h hp
 have hl:((css r.bs).map c1).length=(css r.bs).length:=by simp
 have hc:=css_len r.bs
 refine fnA 5 ok99 (by simp) ?_
 (conv=>whnf);(repeat'((first|apply bT|apply bF|apply bN|((first|apply bD|apply bEq|apply bNe)<;>intro hh<;>try(exfalso;omega))|refine e1.zq rfl rfl ?_|refine wJ ?_|refine nJ ?_)<;>conv=>whnf))
 refine loop_i (α :=Nat) (fun k=>[(5, .int .i64 k),(4, .isl ((css r.bs).map c1)),(3, .row 4),(1, .own 0 0)]) (fun k=>[.box false r.cells, .fresh, .fresh, .fresh, .row false 28 1 ((((css r.bs).take k).filter fun f=>decide ((wrg r.ms f:Int)<=r.w)).map c1)]) (fun k=>k<=(css r.bs).length) (fun k=>(css r.bs).length-k) 0 (mA [(4,none)]) (by omega) ?_
 intro k hk
 conv=>whnf
 refine bD (fun h3=>?_) (fun h3=>?_)
 ·have hlt:k<(css r.bs).length:=by omega
  have g1:=gC (css r.bs) k hlt
  have hcl:=isC_len (css_f hlt)
  have e2:=n63 r ((css r.bs).getD k []) (by omega) hm
  have ef:=filter_sucC (fun f=>decide ((wrg r.ms f:Int)<=r.w)) (css r.bs) k hlt []
  have lk:((((css r.bs).take k).filter fun f=>decide ((wrg r.ms f:Int)<=r.w)).map c1).length<=1000:=by
   rw[List.length_map];refine Nat.le_trans (List.length_filter_le _ _) ?_;rw[List.length_take];omega
  by_cases hw:(wrg r.ms ((css r.bs).getD k []):Int)<=r.w
  ·rw[if_pos (decide_eq_true hw)]at ef
   have hK:∀e∈[[AV.isl (((css r.bs).getD k []).map i1)]],e.length=1/\e.all AV.one=true:=by simp[AV.one]
   (conv=>whnf);(repeat'((first|apply bT|apply bF|apply bN|((first|apply bD|apply bEq|apply bNe)<;>intro hh<;>try(exfalso;omega))|refine iaJ g1 ?_|refine e2.cq rfl rfl ?_|(refine apI hK (by simp only[List.length_cons,List.length_nil];omega) ?_)|refine wJ ?_|refine nJ ?_)<;>conv=>whnf))
   refine⟨k+1,?_,by omega,by omega⟩
   rw[ef,List.map_append]
   exact(mA [(4,some 3)])
  ·rw[if_neg (by rw[decide_eq_false hw];simp),List.append_nil]at ef
   (conv=>whnf);(repeat'((first|apply bT|apply bF|apply bN|((first|apply bD|apply bEq|apply bNe)<;>intro hh<;>try(exfalso;omega))|refine iaJ g1 ?_|refine e2.cq rfl rfl ?_|refine wJ ?_|refine nJ ?_)<;>conv=>whnf))
   refine⟨k+1,?_,by omega,by omega⟩
   rw[ef]
   exact(mA [(4,some 4)])
 ·have:k=(css r.bs).length:=by omega
  subst this
  rw[List.take_length]
  (conv=>whnf);(repeat'((first|apply bT|apply bF|apply bN|((first|apply bD|apply bEq|apply bNe)<;>intro hh<;>try(exfalso;omega))|refine wJ ?_|refine nJ ?_)<;>conv=>whnf))
  all_goals rfl
theorem rok_false{r:Ru}(h:¬(r.d.okB=true/\r.bs.length<=8/\r.ms.length<=5/\0<=r.w/\r.w<=5)):r.ok=false:=by
 rw[Bool.eq_false_iff];intro h2
 obtain⟨a,b,c,d,_⟩:=rok_iff.1 h2
 exact h ⟨a,b.1,c,d.1,d.2⟩
theorem rok_blw{r:Ru}{k:Nat}(hk:k<r.bs.length)(h:¬okBlw r.d.rs.length (r.bs.getD k ⟨0,0,0⟩)):r.ok=false:=by
 rw[Bool.eq_false_iff];intro h2
 refine h ((rok_iff.1 h2).2.1.2 _ ?_)
 simp[List.getD_eq_getElem?_getD,hk]
theorem rok_met{r:Ru}{k:Nat}(hk:k<r.ms.length)(h:¬okMet (r.ms.getD k ⟨0,0⟩)):r.ok=false:=by
 rw[Bool.eq_false_iff];intro h2
 refine h ((rok_iff.1 h2).2.2.2.2 _ ?_)
 simp[List.getD_eq_getElem?_getD,hk]
def Ru.chk(r:Ru):Int:=if r.ok=true then 0 else 130
theorem chk_bad{r:Ru}(h:r.ok=false):(130:Int)=r.chk:=by rw[Ru.chk,h];rfl
theorem n18(r:Ru)(h:Sm r):FnA Tryz.prog 11 [.agg r.cells] (· = .int .i64 r.chk):=by
 have hB:(r.bs.map Blw.av).length=r.bs.length:=by simp
 have hM:(r.ms.map Met.av).length=r.ms.length:=by simp
 have hb:=h.b;have hm:=h.m
 have e0:=g29 r.d h.f h.n h.s
 have ew:=n61 r.w 0 5
 by_cases hg:r.d.okB=true/\r.bs.length<=8/\r.ms.length<=5/\0<=r.w/\r.w<=5
 case neg=>
  have hz:=chk_bad (rok_false hg)
  rw[<- hz]
  by_cases hd:r.d.okB=true
  ·have:r.d.err=0:=by unfold Dm.err;rw[if_pos hd]
   rw[this]at e0
   refine fnA 2 ok11 (by simp) ?_
   by_cases h1:r.bs.length<=8/\r.ms.length<=5
   ·rw[decide_eq_false (show ¬(0<=r.w/\r.w<=5) from fun h2=>hg ⟨hd,h1.1,h1.2,h2⟩)]at ew
    (conv=>whnf);(repeat'((first|apply bT|apply bF|apply bN|((first|apply bD|apply bEq|apply bNe)<;>intro hh<;>try(exfalso;omega))|refine e0.cq rfl rfl ?_|refine ew.cq rfl rfl ?_|refine wJ ?_|refine nJ ?_)<;>conv=>whnf))
    all_goals rfl
   ·by_cases h2:r.bs.length<=8
    ·have h3:¬r.ms.length<=5:=fun h3=>h1 ⟨h2,h3⟩
     (conv=>whnf);(repeat'((first|apply bT|apply bF|apply bN|((first|apply bD|apply bEq|apply bNe)<;>intro hh<;>try(exfalso;omega))|refine e0.cq rfl rfl ?_|refine ew.cq rfl rfl ?_|refine wJ ?_|refine nJ ?_)<;>conv=>whnf))
     all_goals rfl
    ·(conv=>whnf);(repeat'((first|apply bT|apply bF|apply bN|((first|apply bD|apply bEq|apply bNe)<;>intro hh<;>try(exfalso;omega))|refine e0.cq rfl rfl ?_|refine ew.cq rfl rfl ?_|refine wJ ?_|refine nJ ?_)<;>conv=>whnf))
     all_goals rfl
  ·have:r.d.err=50:=by unfold Dm.err;rw[if_neg hd]
   rw[this]at e0
   refine fnA 2 ok11 (by simp) ?_
   (conv=>whnf);(repeat'((first|apply bT|apply bF|apply bN|((first|apply bD|apply bEq|apply bNe)<;>intro hh<;>try(exfalso;omega))|refine e0.cq rfl rfl ?_|refine wJ ?_|refine nJ ?_)<;>conv=>whnf))
   all_goals rfl
 obtain⟨hd,h1,h2,h3⟩:=hg
 have:r.d.err=0:=by unfold Dm.err;rw[if_pos hd]
 rw[this]at e0
 rw[decide_eq_true h3]at ew
 refine fnA 2 ok11 (by simp) ?_
 (conv=>whnf);(repeat'((first|apply bT|apply bF|apply bN|((first|apply bD|apply bEq|apply bNe)<;>intro hh<;>try(exfalso;omega))|refine e0.cq rfl rfl ?_|refine ew.cq rfl rfl ?_|refine wJ ?_|refine nJ ?_)<;>conv=>whnf))
 refine loop_i (α :=Nat) (fun k=>[(3, .int .i64 k),(1, .own 0 0)]) (fun k=>[.box false r.cells, .fresh]) (fun k=>k<=r.bs.length/\∀b∈r.bs.take k,okBlw r.d.rs.length b) (fun k=>r.bs.length-k) 0 mI ⟨by omega,by simp⟩ ?_
 rintro k ⟨hk,ha⟩
 conv=>whnf
 refine bD (fun h4=>?_) (fun h4=>?_)
 ·have hlt:k<r.bs.length:=by omega
  have g1:=gB r.bs k hlt
  have c1:=g23 r.d (r.bs.getD k ⟨0,0,0⟩).a h.n
  have c2:=n61 (r.bs.getD k ⟨0,0,0⟩).lo 0 (r.bs.getD k ⟨0,0,0⟩).hi
  by_cases hok:okBlw r.d.rs.length (r.bs.getD k ⟨0,0,0⟩)
  ·have hok':=hok
   unfold okBlw at hok'
   rw[decide_eq_true hok'.1]at c1
   rw[decide_eq_true hok'.2.1]at c2
   (conv=>whnf);(repeat'((first|apply bT|apply bF|apply bN|((first|apply bD|apply bEq|apply bNe)<;>intro hh<;>try(exfalso;omega))|refine iaJ g1 ?_|refine c1.cq rfl rfl ?_|refine c2.cq rfl rfl ?_|refine wJ ?_|refine nJ ?_)<;>conv=>whnf))
   refine⟨k+1,mI,⟨by omega,?_⟩,by omega⟩
   intro b hb'
   rw[List.take_succ_eq_append_getElem hlt]at hb'
   rcases List.mem_append.1 hb' with hb'|hb'
   ·exact ha b hb'
   ·rw[List.mem_singleton.1 hb']
    rwa [List.getD_eq_getElem?_getD,List.getElem?_eq_getElem hlt]at hok
  ·have hz:=chk_bad (rok_blw hlt hok)
   rw[<- hz]
   unfold okBlw at hok
   by_cases q1:0<=(r.bs.getD k ⟨0,0,0⟩).a/\(r.bs.getD k ⟨0,0,0⟩).a<r.d.rs.length
   ·rw[decide_eq_true q1]at c1
    by_cases q2:0<=(r.bs.getD k ⟨0,0,0⟩).lo/\(r.bs.getD k ⟨0,0,0⟩).lo<=(r.bs.getD k ⟨0,0,0⟩).hi
    ·rw[decide_eq_true q2]at c2
     by_cases q3:(r.bs.getD k ⟨0,0,0⟩).hi<=99
     ·(conv=>whnf);(repeat'((first|apply bT|apply bF|apply bN|((first|apply bD|apply bEq|apply bNe)<;>intro hh<;>try(exfalso;omega))|refine iaJ g1 ?_|refine c1.cq rfl rfl ?_|refine c2.cq rfl rfl ?_|refine wJ ?_|refine nJ ?_)<;>conv=>whnf))
      all_goals rfl
     ·(conv=>whnf);(repeat'((first|apply bT|apply bF|apply bN|((first|apply bD|apply bEq|apply bNe)<;>intro hh<;>try(exfalso;omega))|refine iaJ g1 ?_|refine c1.cq rfl rfl ?_|refine c2.cq rfl rfl ?_|refine wJ ?_|refine nJ ?_)<;>conv=>whnf))
      all_goals rfl
    ·rw[decide_eq_false q2]at c2
     (conv=>whnf);(repeat'((first|apply bT|apply bF|apply bN|((first|apply bD|apply bEq|apply bNe)<;>intro hh<;>try(exfalso;omega))|refine iaJ g1 ?_|refine c1.cq rfl rfl ?_|refine c2.cq rfl rfl ?_|refine wJ ?_|refine nJ ?_)<;>conv=>whnf))
     all_goals rfl
   ·rw[decide_eq_false q1]at c1
    (conv=>whnf);(repeat'((first|apply bT|apply bF|apply bN|((first|apply bD|apply bEq|apply bNe)<;>intro hh<;>try(exfalso;omega))|refine iaJ g1 ?_|refine c1.cq rfl rfl ?_|refine c2.cq rfl rfl ?_|refine wJ ?_|refine nJ ?_)<;>conv=>whnf))
    all_goals rfl
 ·have:k=r.bs.length:=by omega
  subst this
  rw[List.take_length]at ha
  conv=>whnf
  refine loop_i (α :=Nat) (fun k=>[(5, .int .i64 k),(1, .own 0 0)]) (fun k=>[.box false r.cells, .fresh]) (fun k=>k<=r.ms.length/\∀m∈r.ms.take k,okMet m) (fun k=>r.ms.length-k) 0 mI ⟨by omega,by simp⟩ ?_
  rintro k ⟨hk,hb2⟩
  conv=>whnf
  refine bD (fun h5=>?_) (fun h5=>?_)
  ·have hlt:k<r.ms.length:=by omega
   have g1:=gM r.ms k hlt
   have c1:=n61 (r.ms.getD k ⟨0,0⟩).L 0 99
   have c2:=n61 (r.ms.getD k ⟨0,0⟩).c 0 8
   by_cases hok:okMet (r.ms.getD k ⟨0,0⟩)
   ·have hok':=hok
    unfold okMet at hok'
    rw[decide_eq_true hok'.1]at c1
    rw[decide_eq_true hok'.2]at c2
    (conv=>whnf);(repeat'((first|apply bT|apply bF|apply bN|((first|apply bD|apply bEq|apply bNe)<;>intro hh<;>try(exfalso;omega))|refine iaJ g1 ?_|refine c1.cq rfl rfl ?_|refine c2.cq rfl rfl ?_|refine wJ ?_|refine nJ ?_)<;>conv=>whnf))
    refine⟨k+1,mI,⟨by omega,?_⟩,by omega⟩
    intro b hb'
    rw[List.take_succ_eq_append_getElem hlt]at hb'
    rcases List.mem_append.1 hb' with hb'|hb'
    ·exact hb2 b hb'
    ·rw[List.mem_singleton.1 hb']
     rwa [List.getD_eq_getElem?_getD,List.getElem?_eq_getElem hlt]at hok
   ·have hz:=chk_bad (rok_met hlt hok)
    rw[<- hz]
    unfold okMet at hok
    by_cases q1:0<=(r.ms.getD k ⟨0,0⟩).L/\(r.ms.getD k ⟨0,0⟩).L<=99
    ·rw[decide_eq_true q1]at c1
     rw[decide_eq_false (show ¬(0<=(r.ms.getD k ⟨0,0⟩).c/\(r.ms.getD k ⟨0,0⟩).c<=8) from fun q=>hok ⟨q1,q⟩)]at c2
     (conv=>whnf);(repeat'((first|apply bT|apply bF|apply bN|((first|apply bD|apply bEq|apply bNe)<;>intro hh<;>try(exfalso;omega))|refine iaJ g1 ?_|refine c1.cq rfl rfl ?_|refine c2.cq rfl rfl ?_|refine wJ ?_|refine nJ ?_)<;>conv=>whnf))
     all_goals rfl
    ·rw[decide_eq_false q1]at c1
     (conv=>whnf);(repeat'((first|apply bT|apply bF|apply bN|((first|apply bD|apply bEq|apply bNe)<;>intro hh<;>try(exfalso;omega))|refine iaJ g1 ?_|refine c1.cq rfl rfl ?_|refine c2.cq rfl rfl ?_|refine wJ ?_|refine nJ ?_)<;>conv=>whnf))
     all_goals rfl
  ·have:k=r.ms.length:=by omega
   subst this
   rw[List.take_length]at hb2
   have hok:r.ok=true:=rok_iff.2 ⟨hd,⟨h1,ha⟩,h2,h3,hb2⟩
   have hz:(0:Int)=r.chk:=by rw[Ru.chk,if_pos hok]
   rw[<- hz]
   (conv=>whnf);(repeat'((first|apply bT|apply bF|apply bN|((first|apply bD|apply bEq|apply bNe)<;>intro hh<;>try(exfalso;omega))|refine wJ ?_|refine nJ ?_)<;>conv=>whnf))
   all_goals rfl
def Ru.err(r:Ru)(b:Bool):Int:=if r.ok=true then(if b=true then(if r.trs=[] then 3 else 0) else 1) else 130
def Ru.kn(r:Ru)(b:Bool):List (List Int):=if r.err b=0 then r.trs else []
def Few(r:Ru):Prop:=r.ok=true->prd r.bs<=600
theorem err_zero{r:Ru}{b:Bool}:r.err b=0<->r.ok=true/\b=true/\r.trs≠[]:=by
 unfold Ru.err
 by_cases h:r.ok=true
 ·rw[if_pos h]
  by_cases hb:b=true
  ·rw[if_pos hb]
   by_cases ht:r.trs=[]
   ·rw[if_pos ht];simp[ht]
   ·rw[if_neg ht];simp[h,hb,ht]
  ·rw[if_neg hb];simp[hb]
 ·rw[if_neg h];simp[h]
theorem trs_len{r:Ru}(h:Few r)(hok:r.ok=true):r.trs.length<=600:=Nat.le_trans (trs_le _ _ _) (h hok)
theorem kn_len{r:Ru}(h:Few r)(b:Bool):(r.kn b).length<=600:=by
 unfold Ru.kn
 by_cases e:r.err b=0
 ·rw[if_pos e];exact trs_len h (err_zero.1 e).1
 ·rw[if_neg e];simp
theorem n64(r:Ru)(b:Bool)(h:Sm r)(hf:Few r):FnA Tryz.prog 56 [.agg r.cells, .bool b] (· = .tup [.isl ((r.kn b).map c1), .int .i64 (r.err b)]):=by
 have e1:=n18 r h
 by_cases ho:r.ok=true
 case neg=>
  have:r.chk=130:=by rw[Ru.chk,if_neg ho]
  rw[this]at e1
  have he:r.err b=130:=by rw[Ru.err,if_neg ho]
  rw[Ru.kn,he]
  refine fnA 3 ok56 (by simp) ?_
  (conv=>whnf);(repeat'((first|apply bT|apply bF|apply bN|((first|apply bD|apply bEq|apply bNe)<;>intro hh<;>try(exfalso;omega))|refine e1.cq rfl rfl ?_|refine wJ ?_|refine nJ ?_)<;>conv=>whnf))
  all_goals rfl
 have:r.chk=0:=by rw[Ru.chk,if_pos ho]
 rw[this]at e1
 cases b
 ·have he:r.err false=1:=by rw[Ru.err,if_pos ho,if_neg (by simp)]
  rw[Ru.kn,he]
  refine fnA 3 ok56 (by simp) ?_
  (conv=>whnf);(repeat'((first|apply bT|apply bF|apply bN|((first|apply bD|apply bEq|apply bNe)<;>intro hh<;>try(exfalso;omega))|refine e1.cq rfl rfl ?_|refine wJ ?_|refine nJ ?_)<;>conv=>whnf))
  all_goals rfl
 ·have e2:=n93 r (rok_iff.1 ho).2.1 (by have:=hf ho;omega) h.m
  have hl:(r.trs.map c1).length=r.trs.length:=by simp
  by_cases ht:r.trs=[]
  ·have he:r.err true=3:=by rw[Ru.err,if_pos ho,if_pos rfl,if_pos ht]
   rw[Ru.kn,he]
   rw[ht]at e2
   refine fnA 3 ok56 (by simp) ?_
   (conv=>whnf);(repeat'((first|apply bT|apply bF|apply bN|((first|apply bD|apply bEq|apply bNe)<;>intro hh<;>try(exfalso;omega))|refine e1.cq rfl rfl ?_|refine e2.zq rfl rfl ?_|refine wJ ?_|refine nJ ?_)<;>conv=>whnf))
   all_goals rfl
  ·have he:r.err true=0:=by rw[Ru.err,if_pos ho,if_pos rfl,if_neg ht]
   rw[Ru.kn,he,if_pos rfl]
   have:0<r.trs.length:=List.length_pos_iff.2 ht
   refine fnA 3 ok56 (by simp) ?_
   (conv=>whnf);(repeat'((first|apply bT|apply bF|apply bN|((first|apply bD|apply bEq|apply bNe)<;>intro hh<;>try(exfalso;omega))|refine e1.cq rfl rfl ?_|refine e2.zq rfl rfl ?_|refine wJ ?_|refine nJ ?_)<;>conv=>whnf))
   all_goals rfl
theorem n36(r:Ru)(h:Sm r)(hf:Few r):FnA Tryz.prog 29 [.agg r.cells] (· = .int .i64 (r.err true)):=by
 have e1:=n64 r true h hf
 refine fnA 3 ok29 (by simp) ?_
 first
 |((conv=>whnf);(repeat'((first|apply bT|apply bF|apply bN|((first|apply bD|apply bEq|apply bNe)<;>intro hh<;>try(exfalso;omega))|refine e1.lq rfl rfl ?_|refine wJ ?_|refine nJ ?_)<;>conv=>whnf))
   all_goals rfl)
 |((conv=>whnf);(repeat'((first|apply bT|apply bF|apply bN|((first|apply bD|apply bEq|apply bNe)<;>intro hh<;>try(exfalso;omega))|refine e1.zq rfl rfl ?_|refine wJ ?_|refine nJ ?_)<;>conv=>whnf))
   all_goals rfl)
theorem n28(r:Ru)(h:Sm r)(hf:Few r):FnA Tryz.prog 21 [.agg r.cells] (· = .tup [.int .i64 ((r.kn true).length:Nat), .int .i64 (r.err true)]):=by
 have e1:=n64 r true h hf
 have hl:((r.kn true).map c1).length=(r.kn true).length:=by simp
 have:=kn_len hf true
 rw[<- hl]
 refine fnA 3 ok21 (by simp) ?_
 (conv=>whnf);(repeat'((first|apply bT|apply bF|apply bN|((first|apply bD|apply bEq|apply bNe)<;>intro hh<;>try(exfalso;omega))|refine e1.zq rfl rfl ?_|refine wJ ?_|refine nJ ?_)<;>conv=>whnf))
 all_goals rfl
theorem n65(a b:Nat):FnA Tryz.prog 60 [.int .i64 (a:Nat), .int .i64 (b:Nat)] (· = .int .i64 (knwC a b)):=by
 unfold knwC
 by_cases h:a=b
 ·rw[if_pos h]
  refine fnA 0 ok60 (by simp) ?_
  (conv=>whnf);(repeat'((first|apply bT|apply bF|apply bN|((first|apply bD|apply bEq|apply bNe)<;>intro hh<;>try(exfalso;omega))|refine wJ ?_|refine nJ ?_)<;>conv=>whnf))
  all_goals rfl
 ·rw[if_neg h]
  by_cases h2:a=0
  ·rw[if_pos h2]
   refine fnA 0 ok60 (by simp) ?_
   (conv=>whnf);(repeat'((first|apply bT|apply bF|apply bN|((first|apply bD|apply bEq|apply bNe)<;>intro hh<;>try(exfalso;omega))|refine wJ ?_|refine nJ ?_)<;>conv=>whnf))
   all_goals rfl
  ·rw[if_neg h2]
   refine fnA 0 ok60 (by simp) ?_
   (conv=>whnf);(repeat'((first|apply bT|apply bF|apply bN|((first|apply bD|apply bEq|apply bNe)<;>intro hh<;>try(exfalso;omega))|refine wJ ?_|refine nJ ?_)<;>conv=>whnf))
   all_goals rfl
theorem n66(a b n:Int)(e:Bool):FnA Tryz.prog 64 [.agg [.int .i64 a, .int .i64 b], .int .i64 n, .bool e] (· = .agg (if e=true then [.int .i64 n, .int .i64 n] else [.int .i64 (min a n), .int .i64 (max b n)])):=by
 refine fnA 3 ok64 (by simp) ?_
 cases e
 ·(conv=>whnf);(repeat'((first|apply bT|apply bF|apply bN|((first|apply bD|apply bEq|apply bNe)<;>intro hh<;>try(exfalso;omega))|refine wJ ?_|refine nJ ?_)<;>conv=>whnf))
  all_goals rfl
 ·(conv=>whnf);(repeat'((first|apply bT|apply bF|apply bN|((first|apply bD|apply bEq|apply bNe)<;>intro hh<;>try(exfalso;omega))|refine wJ ?_|refine nJ ?_)<;>conv=>whnf))
  all_goals rfl
theorem n20(r:Ru)(h:Sm r)(hf:Few r):FnA Tryz.prog 13 [.agg r.cells] (· = .tup [.int .i64 (if r.ok=true then few r.bs r.ms else 0), .int .i64 r.chk]):=by
 have e1:=n18 r h
 have hM:(r.ms.map Met.av).length=r.ms.length:=by simp
 have hm:=h.m
 by_cases ho:r.ok=true
 case neg=>
  have:r.chk=130:=by rw[Ru.chk,if_neg ho]
  rw[this]at e1⊢
  rw[if_neg ho]
  refine fnA 3 ok13 (by simp) ?_
  (conv=>whnf);(repeat'((first|apply bT|apply bF|apply bN|((first|apply bD|apply bEq|apply bNe)<;>intro hh<;>try(exfalso;omega))|refine e1.cq rfl rfl ?_|refine wJ ?_|refine nJ ?_)<;>conv=>whnf))
  all_goals rfl
 have:r.chk=0:=by rw[Ru.chk,if_pos ho]
 rw[this]at e1⊢
 rw[if_pos ho]
 have hk:=rok_iff.1 ho
 have h8:=hk.2.1.1
 have e2:=n62n r hk.2.1 (by have:=hf ho;omega)
 have hl:((css r.bs).map c1).length=(css r.bs).length:=by simp
 have hc:=css_len r.bs
 have hp:=hf ho
 refine fnA 3 ok13 (by simp) ?_
 (conv=>whnf);(repeat'((first|apply bT|apply bF|apply bN|((first|apply bD|apply bEq|apply bNe)<;>intro hh<;>try(exfalso;omega))|refine e1.cq rfl rfl ?_|refine e2.zq rfl rfl ?_|refine wJ ?_|refine nJ ?_)<;>conv=>whnf))
 refine loop_i (α :=Nat) (fun k=>[(7, .int .i64 k),(6, .isl ((css r.bs).map c1)),(5, .int .i64 (fewK r.ms (css r.bs) k)),(1, .own 0 0)]) (fun k=>[.box false r.cells, .fresh]) (fun k=>k<=(css r.bs).length) (fun k=>(css r.bs).length-k) 0 (by rw[fewK,<- hM];exact mI) (by omega) ?_
 intro k hk'
 conv=>whnf
 refine bD (fun h3=>?_) (fun h3=>?_)
 ·have hlt:k<(css r.bs).length:=by omega
  have g1:=gC (css r.bs) k hlt
  have hcl:=isC_len (css_f hlt)
  have e3:=n63 r ((css r.bs).getD k []) (by omega) hm
  (conv=>whnf);(repeat'((first|apply bT|apply bF|apply bN|((first|apply bD|apply bEq|apply bNe)<;>intro hh<;>try(exfalso;omega))|refine iaJ g1 ?_|refine e3.cq rfl rfl ?_|refine wJ ?_|refine nJ ?_)<;>conv=>whnf))
  exact⟨k+1,by rw[fewK];exact mI,by omega,by omega⟩
 ·have:k=(css r.bs).length:=by omega
  subst this
  (conv=>whnf);(repeat'((first|apply bT|apply bF|apply bN|((first|apply bD|apply bEq|apply bNe)<;>intro hh<;>try(exfalso;omega))|refine wJ ?_|refine nJ ?_)<;>conv=>whnf))
  all_goals rfl
theorem n24(r:Ru)(m:Int)(h:Sm r)(hf:Few r):FnA Tryz.prog 17 [.agg r.cells, .int .i64 m] (· = .tup [.int .i64 (if r.err (decide (0<=m/\m<=(r.ms.length:Int)-1))=0 then rgtC r.trs (r.ms.getD m.toNat ⟨0,0⟩) else 0), .int .i64 (r.err (decide (0<=m/\m<=(r.ms.length:Int)-1)))]):=by
 have hM:(r.ms.map Met.av).length=r.ms.length:=by simp
 have hm:=h.m
 have e1:=n61 m 0 ((r.ms.length:Int)-1)
 have e2:=n64 r (decide (0<=m/\m<=(r.ms.length:Int)-1)) h hf
 rw[<- hM]at e1 e2⊢
 by_cases he:r.err (decide (0<=m/\m<=((r.ms.map Met.av).length:Int)-1))=0
 case neg=>
  rw[if_neg he]
  rw[Ru.kn,if_neg he]at e2
  generalize r.err (decide (0<=m/\m<=((r.ms.map Met.av).length:Int)-1))=E at *
  refine fnA 3 ok17 (by simp) ?_
  (conv=>whnf);(repeat'((first|apply bT|apply bF|apply bN|((first|apply bD|apply bEq|apply bNe)<;>intro hh<;>try(exfalso;omega))|refine e1.cq rfl rfl ?_|refine e2.zq rfl rfl ?_|refine wJ ?_|refine nJ ?_)<;>conv=>whnf))
  all_goals rfl
 obtain⟨ho,hb,ht⟩:=err_zero.1 he
 rw[decide_eq_true_eq]at hb
 rw[Ru.kn,he,if_pos rfl]at e2
 rw[he,if_pos rfl]
 obtain⟨q,rfl⟩:∃q:Nat,m=q:=⟨m.toNat,by omega⟩
 rw[show((q:Nat):Int).toNat=q by omega]
 have hq:q<r.ms.length:=by omega
 have gm:=gM r.ms q hq
 have hl:(r.trs.map c1).length=r.trs.length:=by simp
 have hlen:=trs_len hf ho
 have hu:rgtC r.trs (r.ms.getD q ⟨0,0⟩)=knwC (r.trs.countP (rgtM (r.ms.getD q ⟨0,0⟩))) ((r.trs.map c1).length):=by rw[hl];rfl
 rw[hu]
 refine fnA 3 ok17 (by simp) ?_
 (conv=>whnf);(repeat'((first|apply bT|apply bF|apply bN|((first|apply bD|apply bEq|apply bNe)<;>intro hh<;>try(exfalso;omega))|refine e1.cq rfl rfl ?_|refine e2.zq rfl rfl ?_|refine wJ ?_|refine nJ ?_)<;>conv=>whnf))
 refine loop_i (α :=Nat) (fun k=>[(9, .int .i64 k),(8, .int .i64 ((r.trs.take k).countP (rgtM (r.ms.getD q ⟨0,0⟩)):Nat)),(6, .isl (r.trs.map c1)),(2, .own 0 0),(1, .int .i64 (q:Nat))]) (fun k=>[.box false r.cells, .fresh]) (fun k=>k<=r.trs.length) (fun k=>r.trs.length-k) 0 mI (by omega) ?_
 intro k hk'
 have hc:(r.trs.take k).countP (rgtM (r.ms.getD q ⟨0,0⟩))<=k:=Nat.le_trans List.countP_le_length (by simp;omega)
 conv=>whnf
 refine bD (fun h3=>?_) (fun h3=>?_)
 ·have hlt:k<r.trs.length:=by omega
  have g1:=gC r.trs k hlt
  have hmem:r.trs.getD k []∈r.trs:=by simp[List.getD_eq_getElem?_getD,hlt]
  have hcl:=isC_len (mem_trs.1 hmem).1
  have hb8:=(rok_iff.1 ho).2.1.1
  have e3:=n45 (r.ms.getD q ⟨0,0⟩) (r.trs.getD k []) (by omega)
  have e:=cnt_suc (rgtM (r.ms.getD q ⟨0,0⟩)) r.trs k hlt []
  cases hr:rgtM (r.ms.getD q ⟨0,0⟩) (r.trs.getD k [])
  ·rw[hr]at e e3
   rw[if_neg (by simp)]at e
   (conv=>whnf);(repeat'((first|apply bT|apply bF|apply bN|((first|apply bD|apply bEq|apply bNe)<;>intro hh<;>try(exfalso;omega))|refine iaJ gm ?_|refine iaJ g1 ?_|refine e3.cq rfl rfl ?_|refine wJ ?_|refine nJ ?_)<;>conv=>whnf))
   refine⟨k+1,?_,by omega,by omega⟩
   rw[e]
   simp only[Int.natCast_add,Int.natCast_one]
   exact mI
  ·rw[hr]at e e3
   rw[if_pos rfl]at e
   (conv=>whnf);(repeat'((first|apply bT|apply bF|apply bN|((first|apply bD|apply bEq|apply bNe)<;>intro hh<;>try(exfalso;omega))|refine iaJ gm ?_|refine iaJ g1 ?_|refine e3.cq rfl rfl ?_|refine wJ ?_|refine nJ ?_)<;>conv=>whnf))
   refine⟨k+1,?_,by omega,by omega⟩
   rw[e]
   simp only[Int.natCast_add,Int.natCast_one]
   exact mI
 ·have:k=r.trs.length:=by omega
  subst this
  rw[List.take_length]
  have e4:=n65 (r.trs.countP (rgtM (r.ms.getD q ⟨0,0⟩))) ((r.trs.map c1).length)
  (conv=>whnf);(repeat'((first|apply bT|apply bF|apply bN|((first|apply bD|apply bEq|apply bNe)<;>intro hh<;>try(exfalso;omega))|refine e4.cq rfl rfl ?_|refine wJ ?_|refine nJ ?_)<;>conv=>whnf))
  all_goals rfl
theorem kn_f{r:Ru}{b:Bool}{k:Nat}(hk:k<(r.kn b).length):isC r.bs ((r.kn b).getD k [])/\r.ok=true:=by
 have hm:(r.kn b).getD k []∈r.kn b:=by simp[List.getD_eq_getElem?_getD,hk]
 unfold Ru.kn at hm⊢
 by_cases e:r.err b=0
 ·rw[if_pos e]at hm⊢;exact⟨(mem_trs.1 hm).1,(err_zero.1 e).1⟩
 ·rw[if_neg e]at hm;cases hm
theorem n26(r:Ru)(L:Int)(h:Sm r)(hf:Few r):FnA Tryz.prog 19 [.agg r.cells, .int .i64 L] (· = .tup [.agg [.int .i64 (rds (r.kn (decide (0<=L/\L<=99))) L).1, .int .i64 (rds (r.kn (decide (0<=L/\L<=99))) L).2], .int .i64 (r.err (decide (0<=L/\L<=99)))]):=by
 have e1:=n61 L 0 99
 have e2:=n64 r (decide (0<=L/\L<=99)) h hf
 have hl:=kn_len hf (decide (0<=L/\L<=99))
 have hkf:=@kn_f r (decide (0<=L/\L<=99))
 have hX:((r.kn (decide (0<=L/\L<=99))).map fun f=>((abv f L:Nat):Int)).length=(r.kn (decide (0<=L/\L<=99))).length:=by simp
 unfold rds spL
 rw[hX]
 generalize r.kn (decide (0<=L/\L<=99))=K at *
 generalize r.err (decide (0<=L/\L<=99))=E at *
 have hK:(K.map c1).length=K.length:=by simp
 generalize hXe:K.map (fun f=>((abv f L:Nat):Int))=X at *
 refine fnA 4 ok19 (by simp) ?_
 (conv=>whnf);(repeat'((first|apply bT|apply bF|apply bN|((first|apply bD|apply bEq|apply bNe)<;>intro hh<;>try(exfalso;omega))|refine e1.cq rfl rfl ?_|refine e2.zq rfl rfl ?_|refine wJ ?_|refine nJ ?_)<;>conv=>whnf))
 refine loop_i (α :=Nat) (fun k=>[(9, .int .i64 k),(8, .own 3 0),(7, .int .i64 E),(6, .isl (K.map c1)),(4, .own 1 0),(1, .int .i64 L)]) (fun k=>[.box false r.cells, .box false [.int .i64 0, .int .i64 0], .fresh, .box false [.int .i64 (spI X k).1, .int .i64 (spI X k).2]]) (fun k=>k<=K.length) (fun k=>K.length-k) 0 mI (by omega) ?_
 intro k hk'
 conv=>whnf
 refine bD (fun h3=>?_) (fun h3=>?_)
 ·have hlt:k<K.length:=by omega
  have g1:=gC K k hlt
  obtain⟨hc,ho⟩:=hkf hlt
  have hcl:=isC_len hc
  have hb:=h.b
  have e3:=n42 (K.getD k []) L (by omega)
  have gx:X.getD k 0=((abv (K.getD k []) L:Nat):Int):=by subst hXe;simp[List.getD_eq_getElem?_getD,hlt]
  have ek:spI X (k+1)=if k=0 then(X.getD 0 0,X.getD 0 0) else(min (spI X k).1 (X.getD k 0),max (spI X k).2 (X.getD k 0)):=rfl
  rw[gx]at ek
  by_cases h0:k=0
  ·subst h0
   rw[if_pos rfl,gx]at ek
   have e4:=n66 (spI X 0).1 (spI X 0).2 ((abv (K.getD 0 []) L:Nat):Int) true
   rw[if_pos rfl]at e4
   (conv=>whnf);(repeat'((first|apply bT|apply bF|apply bN|((first|apply bD|apply bEq|apply bNe)<;>intro hh<;>try(exfalso;omega))|refine iaJ g1 ?_|refine e3.cq rfl rfl ?_|refine e4.cq rfl rfl ?_|refine wJ ?_|refine nJ ?_)<;>conv=>whnf))
   exact⟨0+1,by rw[ek];exact mI,by omega,by omega⟩
  ·rw[if_neg h0]at ek
   have e4:=n66 (spI X k).1 (spI X k).2 ((abv (K.getD k []) L:Nat):Int) (decide ((k:Int)=0))
   rw[if_neg (by rw[decide_eq_true_eq];omega)]at e4
   (conv=>whnf);(repeat'((first|apply bT|apply bF|apply bN|((first|apply bD|apply bEq|apply bNe)<;>intro hh<;>try(exfalso;omega))|refine iaJ g1 ?_|refine e3.cq rfl rfl ?_|refine e4.cq rfl rfl ?_|refine wJ ?_|refine nJ ?_)<;>conv=>whnf))
   exact⟨k+1,by rw[ek];exact mI,by omega,by omega⟩
 ·have:k=K.length:=by omega
  subst this
  (conv=>whnf);(repeat'((first|apply bT|apply bF|apply bN|((first|apply bD|apply bEq|apply bNe)<;>intro hh<;>try(exfalso;omega))|refine wJ ?_|refine nJ ?_)<;>conv=>whnf))
  all_goals rfl
def Ru.sv(r:Ru)(i:Nat)(x:Int):Int:=r.d.st [⟨x,(r.bs.getD i ⟨0,0,0⟩).a⟩]
def Ru.row(r:Ru)(i k:Nat):List Int:=(List.range k).map fun(j:Nat)=>r.sv i ((r.bs.getD i ⟨0,0,0⟩).lo+(j:Int))
def Ru.ech(r:Ru)(n:Nat):List (List Int):=(List.range n).map fun i=>r.row i (wid (r.bs.getD i ⟨0,0,0⟩))
theorem row_len(r:Ru)(i k:Nat):(r.row i k).length=k:=by simp[Ru.row]
theorem ech_len(r:Ru)(n:Nat):(r.ech n).length=n:=by simp[Ru.ech]
theorem row_suc(r:Ru)(i k:Nat):r.row i (k+1)=r.row i k++[r.sv i ((r.bs.getD i ⟨0,0,0⟩).lo+(k:Int))]:=by
 unfold Ru.row;rw[List.range_succ,List.map_append];rfl
theorem ech_suc(r:Ru)(n:Nat):r.ech (n+1)=r.ech n++[r.row n (wid (r.bs.getD n ⟨0,0,0⟩))]:=by
 unfold Ru.ech;rw[List.range_succ,List.map_append];rfl
theorem n67(r:Ru)(ho:r.ok=true):FnA Tryz.prog 68 [.agg r.cells] (· = .isl ((r.ech r.bs.length).map c1)):=by
 have hk:=rok_iff.1 ho
 have sm:=rok_sm ho
 have h8:=hk.2.1.1
 have hB:(r.bs.map Blw.av).length=r.bs.length:=by simp
 refine fnA 8 ok68 (by simp) ?_
 (conv=>whnf);(repeat'((first|apply bT|apply bF|apply bN|((first|apply bD|apply bEq|apply bNe)<;>intro hh<;>try(exfalso;omega))|refine wJ ?_|refine nJ ?_)<;>conv=>whnf))
 refine loop_i (α :=Nat) (fun k=>[(4, .int .i64 k),(3, .row 7),(1, .own 0 0)]) (fun k=>[.box false r.cells, .fresh, .fresh, .fresh, .fresh, .fresh, .fresh, .row false 28 1 ((r.ech k).map c1)]) (fun k=>k<=r.bs.length) (fun k=>r.bs.length-k) 0 (mA [(7,none)]) (by omega) ?_
 intro k hk'
 conv=>whnf
 refine bD (fun h3=>?_) (fun h3=>?_)
 ·have hlt:k<r.bs.length:=by omega
  have g1:=gB r.bs k hlt
  have hm:r.bs.getD k ⟨0,0,0⟩∈r.bs:=by simp[List.getD_eq_getElem?_getD,hlt]
  have hb:=hk.2.1.2 _ hm
  have he:=ech_suc r k
  have hrs:=row_suc r k
  have hsv:∀x,r.sv k x=r.d.st [⟨x,(r.bs.getD k ⟨0,0,0⟩).a⟩]:=fun x=>rfl
  have e0:(r.bs.getD k ⟨0,0,0⟩).hi+1-(r.bs.getD k ⟨0,0,0⟩).lo=(wid (r.bs.getD k ⟨0,0,0⟩):Nat):=by unfold okBlw at hb;unfold wid;omega
  have hw:=(wid_pos hb).2
  have hec:=ech_len r k
  generalize r.bs.getD k ⟨0,0,0⟩=b at *
  generalize wid b=W at *
  unfold okBlw at hb
  (conv=>whnf);(repeat'((first|apply bT|apply bF|apply bN|((first|apply bD|apply bEq|apply bNe)<;>intro hh<;>try(exfalso;omega))|refine iaJ g1 ?_|refine wJ ?_|refine nJ ?_)<;>conv=>whnf))
  refine loop_i (α :=Nat × Int) (fun z=>[(6, .int .i64 z.2),(5, .row 6),(4, .int .i64 k),(3, .row 7),(1, .own 0 0)]) (fun z=>[.box false r.cells, .fresh, .fresh, .fresh, .fresh, .fresh, .row false 3 1 ((r.row k z.1).map i1), .row false 28 1 ((r.ech k).map c1)]) (fun z=>z.1<=W/\z.2=b.lo+(z.1:Int)) (fun z=>W-z.1) (0,b.lo) (mA [(6,none)]) (by dsimp only;omega) ?_
  rintro⟨j,p⟩ ⟨hj,hp⟩
  dsimp only at hj hp⊢
  conv=>whnf
  refine iaJ g1 ?_
  conv=>whnf
  refine bD (fun h4=>?_) (fun h4=>?_)
  ·have hg:Gu.ok ⟨p,b.a⟩ r.d.rs.length:=⟨by dsimp only;omega,by dsimp only;omega⟩
   have e1:=g19z r.d [⟨p,b.a⟩] sm.f sm.n sm.s (by simp) (errC_zero hk.1 (okCl1 hg))
   have hrow:=row_len r k j
   have hrj:=hrs j
   rw[<- hp,hsv p]at hrj
   have lr:((r.row k j).map i1).length<=10:=by rw[List.length_map,hrow];omega
   (conv=>whnf);(repeat'((first|apply bT|apply bF|apply bN|((first|apply bD|apply bEq|apply bNe)<;>intro hh<;>try(exfalso;omega))|refine iaJ g1 ?_|refine e1.lq rfl rfl ?_|(refine apJ ?_)|refine wJ ?_|refine nJ ?_)<;>conv=>whnf))
   refine⟨(j+1,p+1),?_,⟨by dsimp only;omega,by dsimp only;omega⟩,by dsimp only;omega⟩
   dsimp only
   rw[hrj,List.map_append]
   exact(mA [(6,some 3)])
  ·have:j=W:=by omega
   subst this
   have lr:((r.ech k).map c1).length<=8:=by rw[List.length_map,hec];omega
   (conv=>whnf);(repeat'((first|apply bT|apply bF|apply bN|((first|apply bD|apply bEq|apply bNe)<;>intro hh<;>try(exfalso;omega))|(refine apJ ?_)|refine wJ ?_|refine nJ ?_)<;>conv=>whnf))
   refine⟨k+1,?_,by omega,by omega⟩
   rw[he,List.map_append]
   exact(mA [(7,some 5)])
 ·have:k=r.bs.length:=by omega
  subst this
  (conv=>whnf);(repeat'((first|apply bT|apply bF|apply bN|((first|apply bD|apply bEq|apply bNe)<;>intro hh<;>try(exfalso;omega))|refine wJ ?_|refine nJ ?_)<;>conv=>whnf))
  all_goals rfl
def Ru.loN(r:Ru)(f:List Int)(n:Nat):Nat:=(List.range n).countP fun i=>decide (r.sv i (f.getD i 0)=2)
def Ru.hiN(r:Ru)(f:List Int)(n:Nat):Nat:=(List.range n).countP fun i=>decide (r.sv i (f.getD i 0)≠1)
theorem st_val(d:Dm)(l:List Gu):d.st l=1\/d.st l=2\/d.st l=3:=by
 unfold Dm.st
 by_cases h:d.worst.stands l=true
 ·rw[if_pos h];exact .inl rfl
 ·rw[if_neg h]
  by_cases h2:d.best.stands l=true
  ·rw[if_pos h2];exact .inr (.inr rfl)
  ·rw[if_neg h2];exact .inr (.inl rfl)
theorem cntr_suc(p:Nat->Bool)(n:Nat):(List.range (n+1)).countP p=(List.range n).countP p+if p n=true then 1 else 0:=by
 rw[List.range_succ,List.countP_append,List.countP_singleton]
theorem loN_suc(r:Ru)(f:List Int)(n:Nat):r.loN f (n+1)=r.loN f n+if r.sv n (f.getD n 0)=2 then 1 else 0:=by
 unfold Ru.loN;rw[cntr_suc];simp only[decide_eq_true_eq]
theorem hiN_suc(r:Ru)(f:List Int)(n:Nat):r.hiN f (n+1)=r.hiN f n+if r.sv n (f.getD n 0)≠1 then 1 else 0:=by
 unfold Ru.hiN;rw[cntr_suc];simp only[decide_eq_true_eq]
theorem lo_le_hi(r:Ru)(f:List Int):∀n,r.loN f n<=r.hiN f n/\r.hiN f n<=n:=by
 intro n;induction n with
 |zero=>exact⟨Nat.le_refl _,Nat.le_refl _⟩
 |succ n ih=>
  rw[loN_suc,hiN_suc]
  split<;>split<;>omega
theorem row_get(r:Ru)(i:Nat){j W:Nat}(hj:j<W):(r.row i W).getD j 0=r.sv i ((r.bs.getD i ⟨0,0,0⟩).lo+(j:Int)):=by
 unfold Ru.row;simp[List.getD_eq_getElem?_getD,hj]
theorem n68(r:Ru)(f:List Int)(ho:r.ok=true)(hf:isC r.bs f):FnA Tryz.prog 69 [.agg r.cells, .isl ((r.ech r.bs.length).map c1), .isl (f.map i1)] (· = .tup [.int .i64 (r.loN f r.bs.length:Nat), .int .i64 (r.hiN f r.bs.length:Nat)]):=by
 have hk:=rok_iff.1 ho
 have h8:=hk.2.1.1
 have hB:(r.bs.map Blw.av).length=r.bs.length:=by simp
 have hL:(f.map i1).length=f.length:=by simp
 have hE:((r.ech r.bs.length).map c1).length=r.bs.length:=by rw[List.length_map,ech_len]
 have hlen:=isC_len hf
 refine fnA 1 ok69 (by simp) ?_
 (conv=>whnf);(repeat'((first|apply bT|apply bF|apply bN|((first|apply bD|apply bEq|apply bNe)<;>intro hh<;>try(exfalso;omega))|refine wJ ?_|refine nJ ?_)<;>conv=>whnf))
 refine loop_i (α :=Nat) (fun k=>[(8, .int .i64 k),(7, .int .i64 (r.hiN f k:Nat)),(6, .int .i64 (r.loN f k:Nat)),(3, .own 0 0),(2, .isl (f.map i1)),(1, .isl ((r.ech r.bs.length).map c1))]) (fun k=>[.box false r.cells]) (fun k=>k<=r.bs.length) (fun k=>r.bs.length-k) 0 mI (by omega) ?_
 intro k hk'
 have hb:=lo_le_hi r f k
 conv=>whnf
 refine bD (fun h3=>?_) (fun h3=>?_)
 ·have hlt:k<r.bs.length:=by omega
  have g1:=gB r.bs k hlt
  have g2:=gC (r.ech r.bs.length) k (by rw[ech_len];exact hlt)
  have g3:=gI f k (by omega)
  have hc:=(isC_iff.1 hf).2 k hlt
  have hm:r.bs.getD k ⟨0,0,0⟩∈r.bs:=by simp[List.getD_eq_getElem?_getD,hlt]
  have hbk:=hk.2.1.2 _ hm
  have er:(r.ech r.bs.length).getD k []=r.row k (wid (r.bs.getD k ⟨0,0,0⟩)):=by
   unfold Ru.ech;simp[List.getD_eq_getElem?_getD,hlt]
  rw[er]at g2
  have hW:(f.getD k 0-(r.bs.getD k ⟨0,0,0⟩).lo).toNat<wid (r.bs.getD k ⟨0,0,0⟩):=by unfold wid;omega
  have g4:=gI (r.row k (wid (r.bs.getD k ⟨0,0,0⟩))) (f.getD k 0-(r.bs.getD k ⟨0,0,0⟩).lo).toNat (by rw[row_len];exact hW)
  have ev:(r.row k (wid (r.bs.getD k ⟨0,0,0⟩))).getD (f.getD k 0-(r.bs.getD k ⟨0,0,0⟩).lo).toNat 0=r.sv k (f.getD k 0):=by
   rw[row_get r k hW]
   exact congrArg (r.sv k) (by omega)
  rw[ev]at g4
  have hL4:((r.row k (wid (r.bs.getD k ⟨0,0,0⟩))).map i1).length=wid (r.bs.getD k ⟨0,0,0⟩):=by rw[List.length_map,row_len]
  have el:=loN_suc r f k
  have eh:=hiN_suc r f k
  have hv:r.sv k (f.getD k 0)=1\/r.sv k (f.getD k 0)=2\/r.sv k (f.getD k 0)=3:=st_val _ _
  have hbk2:=hbk
  unfold okBlw at hbk2
  generalize r.sv k (f.getD k 0)=v at *
  rcases hv with rfl|rfl|rfl
  ·rw[if_neg (by decide)]at el
   rw[if_neg (by decide)]at eh
   (conv=>whnf);(repeat'((first|apply bT|apply bF|apply bN|((first|apply bD|apply bEq|apply bNe)<;>intro hh<;>try(exfalso;omega))|refine iaJ g1 ?_|refine iaJ g2 ?_|refine iaJ g3 ?_|refine iaJ g4 ?_|refine wJ ?_|refine nJ ?_)<;>conv=>whnf))
   refine⟨k+1,?_,by omega,by omega⟩
   rw[el,eh]
   simp only[Int.natCast_add,Int.natCast_one]
   exact mI
  ·rw[if_pos rfl]at el
   rw[if_pos (by decide)]at eh
   (conv=>whnf);(repeat'((first|apply bT|apply bF|apply bN|((first|apply bD|apply bEq|apply bNe)<;>intro hh<;>try(exfalso;omega))|refine iaJ g1 ?_|refine iaJ g2 ?_|refine iaJ g3 ?_|refine iaJ g4 ?_|refine wJ ?_|refine nJ ?_)<;>conv=>whnf))
   refine⟨k+1,?_,by omega,by omega⟩
   rw[el,eh]
   simp only[Int.natCast_add,Int.natCast_one]
   exact mI
  ·rw[if_neg (by decide)]at el
   rw[if_pos (by decide)]at eh
   (conv=>whnf);(repeat'((first|apply bT|apply bF|apply bN|((first|apply bD|apply bEq|apply bNe)<;>intro hh<;>try(exfalso;omega))|refine iaJ g1 ?_|refine iaJ g2 ?_|refine iaJ g3 ?_|refine iaJ g4 ?_|refine wJ ?_|refine nJ ?_)<;>conv=>whnf))
   refine⟨k+1,?_,by omega,by omega⟩
   rw[el,eh]
   simp only[Int.natCast_add,Int.natCast_one]
   exact mI
 ·have:k=r.bs.length:=by omega
  subst this
  (conv=>whnf);(repeat'((first|apply bT|apply bF|apply bN|((first|apply bD|apply bEq|apply bNe)<;>intro hh<;>try(exfalso;omega))|refine wJ ?_|refine nJ ?_)<;>conv=>whnf))
  all_goals rfl
def Ru.loL(r:Ru)(l:List (List Int)):List Int:=l.map fun f=>(r.loN f r.bs.length:Nat)
def Ru.hiL(r:Ru)(l:List (List Int)):List Int:=l.map fun f=>(r.hiN f r.bs.length:Nat)
def Ru.hrm(r:Ru)(l:List (List Int)):Int × Int:=((spL (r.loL l)).1,(spL (r.hiL l)).2)
def spS(s:Int × Int)(e:Int):AV:=.tup [.agg [.int .i64 s.1, .int .i64 s.2], .int .i64 e]
theorem n34(r:Ru)(h:Sm r)(hf:Few r):FnA Tryz.prog 27 [.agg r.cells] (· = spS (r.hrm (r.kn true)) (r.err true)):=by
 have e1:=n64 r true h hf
 by_cases he:r.err true=0
 case neg=>
  have hk0:r.kn true=[]:=by rw[Ru.kn,if_neg he]
  rw[hk0]at e1⊢
  rw[show r.hrm []=(0,0) from rfl]
  unfold spS
  generalize r.err true=E at *
  refine fnA 5 ok27 (by simp) ?_
  (conv=>whnf);(repeat'((first|apply bT|apply bF|apply bN|((first|apply bD|apply bEq|apply bNe)<;>intro hh<;>try(exfalso;omega))|refine e1.zq rfl rfl ?_|refine wJ ?_|refine nJ ?_)<;>conv=>whnf))
  all_goals rfl
 obtain⟨ho,_,hne⟩:=err_zero.1 he
 have hk0:r.kn true=r.trs:=by rw[Ru.kn,if_pos he]
 rw[hk0,he]at e1⊢
 unfold spS Ru.hrm
 have hl:=trs_len hf ho
 have hK:(r.trs.map c1).length=r.trs.length:=by simp
 have hX:(r.loL r.trs).length=r.trs.length:=by simp[Ru.loL]
 have hY:(r.hiL r.trs).length=r.trs.length:=by simp[Ru.hiL]
 unfold spL
 rw[hX,hY]
 have e2:=n67 r ho
 refine fnA 5 ok27 (by simp) ?_
 (conv=>whnf);(repeat'((first|apply bT|apply bF|apply bN|((first|apply bD|apply bEq|apply bNe)<;>intro hh<;>try(exfalso;omega))|refine e1.zq rfl rfl ?_|refine e2.zq rfl rfl ?_|refine wJ ?_|refine nJ ?_)<;>conv=>whnf))
 refine loop_i (α :=Nat) (fun k=>[(8, .int .i64 k),(7, .isl ((r.ech r.bs.length).map c1)),(6, .own 3 0),(4, .isl (r.trs.map c1)),(2, .own 1 0),(1, .own 0 0)]) (fun k=>[.box false r.cells, .box false [.int .i64 0, .int .i64 0], .fresh, .box false [.int .i64 (spI (r.loL r.trs) k).1, .int .i64 (spI (r.hiL r.trs) k).2]]) (fun k=>k<=r.trs.length) (fun k=>r.trs.length-k) 0 mI (by omega) ?_
 intro k hk'
 conv=>whnf
 refine bD (fun h3=>?_) (fun h3=>?_)
 ·have hlt:k<r.trs.length:=by omega
  have g1:=gC r.trs k hlt
  have hmem:r.trs.getD k []∈r.trs:=by simp[List.getD_eq_getElem?_getD,hlt]
  have e3:=n68 r (r.trs.getD k []) ho (mem_trs.1 hmem).1
  have hlh:=(lo_le_hi r (r.trs.getD k []) r.bs.length).1
  have gx:(r.loL r.trs).getD k 0=(r.loN (r.trs.getD k []) r.bs.length:Nat):=by simp[Ru.loL,List.getD_eq_getElem?_getD,hlt]
  have gy:(r.hiL r.trs).getD k 0=(r.hiN (r.trs.getD k []) r.bs.length:Nat):=by simp[Ru.hiL,List.getD_eq_getElem?_getD,hlt]
  have ek:∀X:List Int,spI X (k+1)=if k=0 then(X.getD 0 0,X.getD 0 0) else(min (spI X k).1 (X.getD k 0),max (spI X k).2 (X.getD k 0)):=fun X=>rfl
  have ex:=ek (r.loL r.trs)
  have ey:=ek (r.hiL r.trs)
  rw[gx]at ex
  rw[gy]at ey
  generalize r.loN (r.trs.getD k []) r.bs.length=A at *
  generalize r.hiN (r.trs.getD k []) r.bs.length=B at *
  generalize r.loL r.trs=X at *
  generalize r.hiL r.trs=Y at *
  by_cases h0:k=0
  ·subst h0
   rw[if_pos rfl,gx]at ex
   rw[if_pos rfl,gy]at ey
   have e4:=n66 (spI X 0).1 (spI Y 0).2 (A:Nat) true
   rw[if_pos rfl]at e4
   have e5:=n66 (A:Nat) (A:Nat) (B:Nat) false
   rw[if_neg (by simp),show min (A:Int) (B:Int)=(A:Int) by omega,show max (A:Int) (B:Int)=(B:Int) by omega]at e5
   (conv=>whnf);(repeat'((first|apply bT|apply bF|apply bN|((first|apply bD|apply bEq|apply bNe)<;>intro hh<;>try(exfalso;omega))|refine iaJ g1 ?_|refine e3.cq rfl rfl ?_|refine e4.cq rfl rfl ?_|refine e5.cq rfl rfl ?_|refine wJ ?_|refine nJ ?_)<;>conv=>whnf))
   exact⟨0+1,by rw[ex,ey];exact mI,by omega,by omega⟩
  ·rw[if_neg h0]at ex ey
   have e4:=n66 (spI X k).1 (spI Y k).2 (A:Nat) (decide ((k:Int)=0))
   rw[if_neg (by rw[decide_eq_true_eq];omega)]at e4
   have e5:=n66 (min (spI X k).1 (A:Nat)) (max (spI Y k).2 (A:Nat)) (B:Nat) false
   rw[if_neg (by simp),show min (min (spI X k).1 (A:Int)) (B:Int)=min (spI X k).1 (A:Int) by omega,show max (max (spI Y k).2 (A:Int)) (B:Int)=max (spI Y k).2 (B:Int) by omega]at e5
   (conv=>whnf);(repeat'((first|apply bT|apply bF|apply bN|((first|apply bD|apply bEq|apply bNe)<;>intro hh<;>try(exfalso;omega))|refine iaJ g1 ?_|refine e3.cq rfl rfl ?_|refine e4.cq rfl rfl ?_|refine e5.cq rfl rfl ?_|refine wJ ?_|refine nJ ?_)<;>conv=>whnf))
   exact⟨k+1,by rw[ex,ey];exact mI,by omega,by omega⟩
 ·have:k=r.trs.length:=by omega
  subst this
  (conv=>whnf);(repeat'((first|apply bT|apply bF|apply bN|((first|apply bD|apply bEq|apply bNe)<;>intro hh<;>try(exfalso;omega))|refine wJ ?_|refine nJ ?_)<;>conv=>whnf))
  all_goals rfl
def Ru.std(r:Ru):Int:=if (r.hrm r.trs).2=0 then 1 else if 0<(r.hrm r.trs).1 then 2 else 3
theorem n32(r:Ru)(h:Sm r)(hf:Few r):FnA Tryz.prog 25 [.agg r.cells] (· = .tup [.int .i64 (if r.err true=0 then r.std else 0), .int .i64 (r.err true)]):=by
 have e1:=n34 r h hf
 unfold spS at e1
 by_cases he:r.err true=0
 case neg=>
  rw[if_neg he]
  generalize r.hrm (r.kn true)=s at *
  generalize r.err true=E at *
  refine fnA 2 ok25 (by simp) ?_
  (conv=>whnf);(repeat'((first|apply bT|apply bF|apply bN|((first|apply bD|apply bEq|apply bNe)<;>intro hh<;>try(exfalso;omega))|refine e1.cq rfl rfl ?_|refine wJ ?_|refine nJ ?_)<;>conv=>whnf))
  all_goals rfl
 rw[Ru.kn,if_pos he,he]at e1
 rw[if_pos he,he,Ru.std]
 generalize r.hrm r.trs=s at *
 by_cases h1:s.2=0
 ·rw[if_pos h1]
  refine fnA 2 ok25 (by simp) ?_
  (conv=>whnf);(repeat'((first|apply bT|apply bF|apply bN|((first|apply bD|apply bEq|apply bNe)<;>intro hh<;>try(exfalso;omega))|refine e1.cq rfl rfl ?_|refine wJ ?_|refine nJ ?_)<;>conv=>whnf))
  all_goals rfl
 ·rw[if_neg h1]
  by_cases h2:0<s.1
  ·rw[if_pos h2]
   refine fnA 2 ok25 (by simp) ?_
   (conv=>whnf);(repeat'((first|apply bT|apply bF|apply bN|((first|apply bD|apply bEq|apply bNe)<;>intro hh<;>try(exfalso;omega))|refine e1.cq rfl rfl ?_|refine wJ ?_|refine nJ ?_)<;>conv=>whnf))
   all_goals rfl
  ·rw[if_neg h2]
   refine fnA 2 ok25 (by simp) ?_
   (conv=>whnf);(repeat'((first|apply bT|apply bF|apply bN|((first|apply bD|apply bEq|apply bNe)<;>intro hh<;>try(exfalso;omega))|refine e1.cq rfl rfl ?_|refine wJ ?_|refine nJ ?_)<;>conv=>whnf))
   all_goals rfl
theorem gE{α : Type}(l:List α)(z : α)(i:Nat)(h:i<l.length):l.getD i z=l[i]:=by rw[List.getD_eq_getElem?_getD,List.getElem?_eq_getElem h];rfl
theorem n29(a b:List Int)(ha:a.length<=1000000)(hb:b.length<=1000000):FnA Tryz.prog 22 [.isl (a.map i1), .isl (b.map i1)] (· = .bool (decide (a=b))):=by
 have l1:(a.map i1).length=a.length:=by simp
 have l2:(b.map i1).length=b.length:=by simp
 refine fnA 0 ok22 (by simp) ?_
 by_cases h:a.length=b.length
 ·(conv=>whnf);(repeat'((first|apply bT|apply bF|apply bN|((first|apply bD|apply bEq|apply bNe)<;>intro hh<;>try(exfalso;omega))|refine wJ ?_|refine nJ ?_)<;>conv=>whnf))
  refine loop_i (α :=Nat) (fun k=>[(5, .int .i64 k),(1, .isl (b.map i1)),(0, .isl (a.map i1))]) (fun k=>[]) (fun k=>k<=a.length/\∀i,i<k->a.getD i 0=b.getD i 0) (fun k=>a.length-k) 0 mI ⟨by simp,fun i h=>by omega⟩ ?_
  rintro k ⟨h1,h2⟩
  conv=>whnf
  refine bD (fun h3=>?_) (fun h3=>?_)
  ·have hk:k<a.length:=by omega
   have g1:=gI a k hk
   have g2:=gI b k (by omega)
   by_cases hx:a.getD k 0=b.getD k 0
   ·(conv=>whnf);(repeat'((first|apply bT|apply bF|apply bN|((first|apply bD|apply bEq|apply bNe)<;>intro hh<;>try(exfalso;omega))|refine iaJ g1 ?_|refine iaJ g2 ?_|refine wJ ?_|refine nJ ?_)<;>conv=>whnf))
    exact⟨k+1,mI,⟨by omega,fun i hi=>by
     by_cases e:i=k
     ·subst e;exact hx
     ·exact h2 i (by omega)⟩,by omega⟩
   ·rw[decide_eq_false (fun e=>hx (by rw[e]))]
    (conv=>whnf);(repeat'((first|apply bT|apply bF|apply bN|((first|apply bD|apply bEq|apply bNe)<;>intro hh<;>try(exfalso;omega))|refine iaJ g1 ?_|refine iaJ g2 ?_|refine wJ ?_|refine nJ ?_)<;>conv=>whnf))
    all_goals rfl
  ·rw[decide_eq_true (List.ext_getElem h fun i h4 h5=>by
    have:=h2 i (by omega)
    simpa[List.getD_eq_getElem?_getD,h4,h5]using this)]
   (conv=>whnf);(repeat'((first|apply bT|apply bF|apply bN|((first|apply bD|apply bEq|apply bNe)<;>intro hh<;>try(exfalso;omega))|refine wJ ?_|refine nJ ?_)<;>conv=>whnf))
   all_goals rfl
 ·rw[decide_eq_false (fun e=>h (by rw[e]))]
  (conv=>whnf);(repeat'((first|apply bT|apply bF|apply bN|((first|apply bD|apply bEq|apply bNe)<;>intro hh<;>try(exfalso;omega))|refine wJ ?_|refine nJ ?_)<;>conv=>whnf))
  all_goals rfl
theorem n22(r:Ru)(q:Int)(h:Sm r)(hf:Few r):FnA Tryz.prog 15 [.agg r.cells, .int .i64 q] (· = .tup [.isl ((frc (r.kn (decide (0<=q/\q<=(r.bs.length:Int)-1))) q.toNat).map i1), .int .i64 (r.err (decide (0<=q/\q<=(r.bs.length:Int)-1)))]):=by
 have hB:(r.bs.map Blw.av).length=r.bs.length:=by simp
 have e1:=n61 q 0 ((r.bs.length:Int)-1)
 have e2:=n64 r (decide (0<=q/\q<=(r.bs.length:Int)-1)) h hf
 have hl:=kn_len hf (decide (0<=q/\q<=(r.bs.length:Int)-1))
 have hkf:=@kn_f r (decide (0<=q/\q<=(r.bs.length:Int)-1))
 have hq:r.kn (decide (0<=q/\q<=(r.bs.length:Int)-1))≠[]->0<=q/\q<r.bs.length:=fun hne=>by
  unfold Ru.kn at hne
  by_cases e:r.err (decide (0<=q/\q<=(r.bs.length:Int)-1))=0
  ·have:=(err_zero.1 e).2.1
   rw[decide_eq_true_eq]at this;omega
  ·rw[if_neg e]at hne;exact absurd rfl hne
 rw[<- hB]at e1 e2
 have hb:=h.b
 rw[<- hB]
 rw[<- hB]at hkf hl hq
 generalize r.kn (decide (0<=q/\q<=((r.bs.map Blw.av).length:Int)-1))=K at *
 generalize r.err (decide (0<=q/\q<=((r.bs.map Blw.av).length:Int)-1))=E at *
 have hK:(K.map c1).length=K.length:=by simp
 have hsuc:∀n,((List.range (n+1)).filter fun n=>K.any fun f=>decide (f.getD q.toNat 0=((n:Nat):Int)))=((List.range n).filter fun n=>K.any fun f=>decide (f.getD q.toNat 0=((n:Nat):Int)))++if (K.any fun f=>decide (f.getD q.toNat 0=((n:Nat):Int)))=true then [n] else []:=by
  intro n
  rw[List.range_succ,List.filter_append]
  congr 1
  by_cases hp:(K.any fun f=>decide (f.getD q.toNat 0=((n:Nat):Int)))=true
  ·rw[if_pos hp];exact List.filter_cons_of_pos (p:=fun(n:Nat)=>K.any fun f=>decide (f.getD q.toNat 0=((n:Nat):Int))) hp
  ·rw[if_neg hp];exact List.filter_cons_of_neg (p:=fun(n:Nat)=>K.any fun f=>decide (f.getD q.toNat 0=((n:Nat):Int))) hp
 unfold frc
 refine fnA 5 ok15 (by simp) ?_
 (conv=>whnf);(repeat'((first|apply bT|apply bF|apply bN|((first|apply bD|apply bEq|apply bNe)<;>intro hh<;>try(exfalso;omega))|refine e1.cq rfl rfl ?_|refine e2.zq rfl rfl ?_|refine wJ ?_|refine nJ ?_)<;>conv=>whnf))
 refine loop_i (α :=Nat) (fun n=>[(9, .int .i64 n),(8, .row 4),(7, .int .i64 E),(6, .isl (K.map c1)),(2, .own 0 0),(1, .int .i64 q)]) (fun n=>[.box false r.cells, .fresh, .fresh, .fresh, .row false 3 1 ((((List.range n).filter fun n=>K.any fun f=>decide (f.getD q.toNat 0=((n:Nat):Int))).map fun(n:Nat)=>(n:Int)).map i1)]) (fun n=>n<=100) (fun n=>100-n) 0 (mA [(4,none)]) (by omega) ?_
 intro n hn
 have ln:((((List.range n).filter fun n=>K.any fun f=>decide (f.getD q.toNat 0=((n:Nat):Int))).map fun(n:Nat)=>(n:Int)).map i1).length<=100:=by
  simp only[List.length_map]
  have:=List.length_filter_le (fun n=>K.any fun f=>decide (f.getD q.toNat 0=((n:Nat):Int))) (List.range n)
  rw[List.length_range]at this;omega
 conv=>whnf
 refine bD (fun h3=>?_) (fun h3=>?_)
 ·conv=>whnf
  have hs:=hsuc n
  refine loop_i (α :=Nat) (fun k=>[(10, .int .i64 k),(9, .int .i64 n),(8, .row 4),(7, .int .i64 E),(6, .isl (K.map c1)),(2, .own 0 0),(1, .int .i64 q)]) (fun k=>[.box false r.cells, .fresh, .fresh, .fresh, .row false 3 1 ((((List.range n).filter fun n=>K.any fun f=>decide (f.getD q.toNat 0=((n:Nat):Int))).map fun(n:Nat)=>(n:Int)).map i1)]) (fun k=>k<=K.length/\∀i,i<k->(K.getD i []).getD q.toNat 0≠n) (fun k=>K.length-k) 0 (mA [(4,some 4)]) ⟨by omega,fun i hi=>by omega⟩ ?_
  rintro k ⟨hk,hno⟩
  conv=>whnf
  refine bD (fun h4=>?_) (fun h4=>?_)
  ·have hlt:k<K.length:=by omega
   have g1:=gC K k hlt
   have hq':=hq (fun e=>by rw[e]at hlt;simp at hlt)
   obtain⟨hc,ho⟩:=hkf hlt
   have hcl:=isC_len hc
   have hL2:((K.getD k []).map i1).length=(K.getD k []).length:=by simp
   have g2:=gI (K.getD k []) q.toNat (by omega)
   by_cases hx:(K.getD k []).getD q.toNat 0=n
   ·have hany:(K.any fun f=>decide (f.getD q.toNat 0=((n:Nat):Int)))=true:=List.any_eq_true.2 ⟨K.getD k [],by rw[gE K [] k hlt];exact List.getElem_mem hlt,by rw[decide_eq_true_eq];exact hx⟩
    rw[if_pos hany]at hs
    (conv=>whnf);(repeat'((first|apply bT|apply bF|apply bN|((first|apply bD|apply bEq|apply bNe)<;>intro hh<;>try(exfalso;omega))|refine iaJ g1 ?_|refine iaJ g2 ?_|(refine apJ ?_)|refine wJ ?_|refine nJ ?_)<;>conv=>whnf))
    refine⟨n+1,?_,by omega,by omega⟩
    rw[hs,List.map_append,List.map_append]
    exact(mA [(4,some 3)])
   ·(conv=>whnf);(repeat'((first|apply bT|apply bF|apply bN|((first|apply bD|apply bEq|apply bNe)<;>intro hh<;>try(exfalso;omega))|refine iaJ g1 ?_|refine iaJ g2 ?_|refine wJ ?_|refine nJ ?_)<;>conv=>whnf))
    refine⟨k+1,(mA [(4,some 4)]),⟨by omega,fun i hi=>?_⟩,by omega⟩
    by_cases e:i=k
    ·subst e;exact hx
    ·exact hno i (by omega)
  ·have:k=K.length:=by omega
   subst this
   have hany:¬(K.any fun f=>decide (f.getD q.toNat 0=((n:Nat):Int)))=true:=fun ha=>by
    obtain⟨f,h1,h2⟩:=List.any_eq_true.1 ha
    obtain⟨i,hi,rfl⟩:=List.getElem_of_mem h1
    have:=hno i hi
    rw[gE K [] i hi]at this
    rw[decide_eq_true_eq]at h2
    exact this h2
   rw[if_neg hany,List.append_nil]at hs
   (conv=>whnf);(repeat'((first|apply bT|apply bF|apply bN|((first|apply bD|apply bEq|apply bNe)<;>intro hh<;>try(exfalso;omega))|refine wJ ?_|refine nJ ?_)<;>conv=>whnf))
   refine⟨n+1,?_,by omega,by omega⟩
   rw[hs]
   exact(mA [(4,some 4)])
 ·have:n=100:=by omega
  subst this
  (conv=>whnf);(repeat'((first|apply bT|apply bF|apply bN|((first|apply bD|apply bEq|apply bNe)<;>intro hh<;>try(exfalso;omega))|refine wJ ?_|refine nJ ?_)<;>conv=>whnf))
  all_goals rfl
theorem n16(r:Ru)(h:Sm r):FnA Tryz.prog 9 [.agg r.cells] (· = .agg r.cells):=by
 have hB:(r.bs.map Blw.av).length=r.bs.length:=by simp
 have hM:(r.ms.map Met.av).length=r.ms.length:=by simp
 have hb:=h.b;have hm:=h.m
 have e1:=g24 r.d h.f h.n h.s
 refine fnA 12 ok9 (by simp) ?_
 (conv=>whnf);(repeat'((first|apply bT|apply bF|apply bN|((first|apply bD|apply bEq|apply bNe)<;>intro hh<;>try(exfalso;omega))|refine e1.oq rfl rfl rfl ?_|refine wJ ?_|refine nJ ?_)<;>conv=>whnf))
 refine apI (blw_one r.bs) (by simp only[hB,List.length_nil];omega) ?_
 (conv=>whnf);(repeat'((first|apply bT|apply bF|apply bN|((first|apply bD|apply bEq|apply bNe)<;>intro hh<;>try(exfalso;omega))|refine wJ ?_|refine nJ ?_)<;>conv=>whnf))
 refine apI (met_one r.ms) (by simp only[hM,List.length_nil];omega) ?_
 (conv=>whnf);(repeat'((first|apply bT|apply bF|apply bN|((first|apply bD|apply bEq|apply bNe)<;>intro hh<;>try(exfalso;omega))|refine wJ ?_|refine nJ ?_)<;>conv=>whnf))
 all_goals rfl
def Ru.farB(r:Ru):Bool:=decide r.d.far||decide (40<r.bs.length\/40<r.ms.length)||(r.ok&&decide (600<prd r.bs))
theorem prd_take{bs:List Blw}{k:Nat}(hk:k<bs.length):prd (bs.take (k+1))=prd (bs.take k)*wid (bs.getD k ⟨0,0,0⟩):=by
 rw[List.take_succ_eq_append_getElem hk,gE bs _ k hk]
 unfold prd;rw[List.foldl_append];rfl
theorem prd_take_le{n:Nat}{bs:List Blw}(h:∀b∈bs,okBlw n b)(k:Nat):prd (bs.take k)<=prd bs:=by
 have e:prd bs=prd (bs.take k)*prd (bs.drop k):=by
  conv=>lhs;rw[<- List.take_append_drop k bs]
  unfold prd;rw[List.foldl_append];exact prd_mul _ _
 rw[e]
 exact Nat.le_mul_of_pos_right _ (prd_pos fun b hb=>h b (List.mem_of_mem_drop hb))
theorem far_sm{r:Ru}(h:r.farB=false):Sm r/\Few r/\r.bs.length<=40/\r.ms.length<=40:=by
 unfold Ru.farB at h
 simp only[Bool.or_eq_false_iff,decide_eq_false_iff_not]at h
 obtain⟨⟨h1,h2⟩,h3⟩:=h
 unfold Dm.far at h1
 refine⟨⟨by omega,by omega,by omega,by omega,by omega⟩,fun ho=>?_,by omega,by omega⟩
 rw[ho,Bool.true_and,decide_eq_false_iff_not]at h3;omega
theorem n14(r:Ru):FnA Tryz.prog 7 [.agg r.cells] (· = .bool r.farB):=by
 have hB:(r.bs.map Blw.av).length=r.bs.length:=by simp
 have hM:(r.ms.map Met.av).length=r.ms.length:=by simp
 have e1:=g28 r.d
 unfold Ru.farB
 by_cases hd:r.d.far
 ·rw[decide_eq_true hd]at e1⊢
  refine fnA 1 ok7 (by simp) ?_
  (conv=>whnf);(repeat'((first|apply bT|apply bF|apply bN|((first|apply bD|apply bEq|apply bNe)<;>intro hh<;>try(exfalso;omega))|refine e1.cq rfl rfl ?_|refine wJ ?_|refine nJ ?_)<;>conv=>whnf))
  all_goals rfl
 rw[decide_eq_false hd]at e1⊢
 by_cases h2:40<r.bs.length\/40<r.ms.length
 ·rw[decide_eq_true h2]
  refine fnA 1 ok7 (by simp) ?_
  by_cases h3:40<r.bs.length
  ·(conv=>whnf);(repeat'((first|apply bT|apply bF|apply bN|((first|apply bD|apply bEq|apply bNe)<;>intro hh<;>try(exfalso;omega))|refine e1.cq rfl rfl ?_|refine wJ ?_|refine nJ ?_)<;>conv=>whnf))
   all_goals rfl
  ·have:40<r.ms.length:=h2.resolve_left h3
   (conv=>whnf);(repeat'((first|apply bT|apply bF|apply bN|((first|apply bD|apply bEq|apply bNe)<;>intro hh<;>try(exfalso;omega))|refine e1.cq rfl rfl ?_|refine wJ ?_|refine nJ ?_)<;>conv=>whnf))
   all_goals rfl
 rw[decide_eq_false h2]
 unfold Dm.far at hd
 have sm:Sm r:=⟨by omega,by omega,by omega,by omega,by omega⟩
 have e2:=n18 r sm
 by_cases ho:r.ok=true
 case neg=>
  have:r.chk=130:=by rw[Ru.chk,if_neg ho]
  rw[this]at e2
  have:r.ok=false:=by simpa using ho
  rw[this]
  refine fnA 1 ok7 (by simp) ?_
  (conv=>whnf);(repeat'((first|apply bT|apply bF|apply bN|((first|apply bD|apply bEq|apply bNe)<;>intro hh<;>try(exfalso;omega))|refine e1.cq rfl rfl ?_|refine e2.cq rfl rfl ?_|refine wJ ?_|refine nJ ?_)<;>conv=>whnf))
  all_goals rfl
 have:r.chk=0:=by rw[Ru.chk,if_pos ho]
 rw[this]at e2
 rw[ho]
 have hk:=(rok_iff.1 ho).2.1
 refine fnA 1 ok7 (by simp) ?_
 (conv=>whnf);(repeat'((first|apply bT|apply bF|apply bN|((first|apply bD|apply bEq|apply bNe)<;>intro hh<;>try(exfalso;omega))|refine e1.cq rfl rfl ?_|refine e2.cq rfl rfl ?_|refine wJ ?_|refine nJ ?_)<;>conv=>whnf))
 refine loop_i (α :=Nat) (fun k=>[(4, .int .i64 k),(3, .int .i64 (prd (r.bs.take k):Nat)),(1, .own 0 0)]) (fun k=>[.box false r.cells]) (fun k=>k<=r.bs.length/\prd (r.bs.take k)<=600) (fun k=>r.bs.length-k) 0 mI ⟨by omega,by simp[prd]⟩ ?_
 rintro k ⟨hk',hp⟩
 conv=>whnf
 refine bD (fun h3=>?_) (fun h3=>?_)
 ·have hlt:k<r.bs.length:=by omega
  have g1:=gB r.bs k hlt
  have hm:r.bs.getD k ⟨0,0,0⟩∈r.bs:=by simp[List.getD_eq_getElem?_getD,hlt]
  have hb:=hk.2 _ hm
  have hw:=wid_pos hb
  have ek:=prd_take hlt
  have hle:=prd_take_le hk.2 (k+1)
  have e0:(r.bs.getD k ⟨0,0,0⟩).hi-(r.bs.getD k ⟨0,0,0⟩).lo+1=(wid (r.bs.getD k ⟨0,0,0⟩):Nat):=by unfold okBlw at hb;unfold wid;omega
  generalize r.bs.getD k ⟨0,0,0⟩=b at *
  unfold okBlw at hb
  generalize wid b=W at *
  generalize prd (r.bs.take k)=p at *
  have ec:((p:Int)*(b.hi-b.lo+1))=((p*W:Nat):Int):=by rw[e0];omega
  have hpw:p*W<=600*10:=Nat.mul_le_mul hp hw.2
  have w1 : -9223372036854775808<=(p:Int)*(b.hi-b.lo+1)/\(p:Int)*(b.hi-b.lo+1)<=9223372036854775807:=by rw[ec];omega
  have w2:(600<(p:Int)*(b.hi-b.lo+1))<->600<p*W:=by rw[ec];omega
  by_cases hbig:600<p*W
  ·rw[decide_eq_true (show 600<prd r.bs by omega)]
   have hgt:=w2.2 hbig
   (conv=>whnf);(repeat'((first|apply bT|apply bF|apply bN|((first|apply bD|apply bEq|apply bNe)<;>intro hh<;>try(exfalso;omega))|refine iaJ g1 ?_|refine wIn w1 ?_|refine wJ ?_|refine nJ ?_)<;>conv=>whnf))
   all_goals rfl
  ·have hgt:¬(600<(p:Int)*(b.hi-b.lo+1)):=fun h=>hbig (w2.1 h)
   (conv=>whnf);(repeat'((first|apply bT|apply bF|apply bN|((first|apply bD|apply bEq|apply bNe)<;>intro hh<;>try(exfalso;omega))|refine iaJ g1 ?_|refine wIn w1 ?_|refine wJ ?_|refine nJ ?_)<;>conv=>whnf))
   refine⟨k+1,?_,⟨by omega,by omega⟩,by omega⟩
   rw[ek,<- ec]
   exact mI
 ·have:k=r.bs.length:=by omega
  subst this
  rw[List.take_length]at hp
  rw[decide_eq_false (show ¬ 600<prd r.bs by omega)]
  (conv=>whnf);(repeat'((first|apply bT|apply bF|apply bN|((first|apply bD|apply bEq|apply bNe)<;>intro hh<;>try(exfalso;omega))|refine wJ ?_|refine nJ ?_)<;>conv=>whnf))
  all_goals rfl
structure Prg:Prop where
 check:∀r,Sm r->Few r->FnA Tryz.prog 10 [.agg r.cells] (· = .int .i64 r.chk)
 few:∀r,Sm r->Few r->FnA Tryz.prog 12 [.agg r.cells] (· = .tup [.int .i64 (if r.ok=true then Go.Proofs.few r.bs r.ms else 0), .int .i64 r.chk])
 forces:∀(r:Ru) (q:Int),Sm r->Few r->FnA Tryz.prog 14 [.agg r.cells, .int .i64 q] (· = .tup [.isl ((frc (r.kn (decide (0<=q/\q<=(r.bs.length:Int)-1))) q.toNat).map i1), .int .i64 (r.err (decide (0<=q/\q<=(r.bs.length:Int)-1)))])
 right:∀(r:Ru) (m:Int),Sm r->Few r->FnA Tryz.prog 16 [.agg r.cells, .int .i64 m] (· = .tup [.int .i64 (if r.err (decide (0<=m/\m<=(r.ms.length:Int)-1))=0 then rgtC r.trs (r.ms.getD m.toNat ⟨0,0⟩) else 0), .int .i64 (r.err (decide (0<=m/\m<=(r.ms.length:Int)-1)))])
 reads:∀(r:Ru) (L:Int),Sm r->Few r->FnA Tryz.prog 18 [.agg r.cells, .int .i64 L] (· = .tup [.agg [.int .i64 (rds (r.kn (decide (0<=L/\L<=99))) L).1, .int .i64 (rds (r.kn (decide (0<=L/\L<=99))) L).2], .int .i64 (r.err (decide (0<=L/\L<=99)))])
 many:∀r,Sm r->Few r->FnA Tryz.prog 20 [.agg r.cells] (· = .tup [.int .i64 ((r.kn true).length:Nat), .int .i64 (r.err true)])
 stood:∀r,Sm r->Few r->FnA Tryz.prog 24 [.agg r.cells] (· = .tup [.int .i64 (if r.err true=0 then r.std else 0), .int .i64 (r.err true)])
 harm:∀r,Sm r->Few r->FnA Tryz.prog 26 [.agg r.cells] (· = spS (r.hrm (r.kn true)) (r.err true))
 shw:∀r,Sm r->Few r->FnA Tryz.prog 28 [.agg r.cells] (fun v=>∃l:List Int,v = .tup [.isl (l.map i1), .int .i64 (r.err true)]/\(r.err true=0->l∈r.trs)/\(r.err true≠0->l=[]))
def exR:Ru:=⟨exD,[⟨0,10,14⟩,⟨0,12,15⟩,⟨3,4,6⟩],[⟨13,1⟩,⟨5,3⟩],0⟩
theorem n58:FnA Tryz.prog 44 [] (· = .agg exR.cells):=by
 have e1:=g36
 refine fnA 8 ok44 (by simp) ?_
 (conv=>whnf);(repeat'((first|apply bT|apply bF|apply bN|((first|apply bD|apply bEq|apply bNe)<;>intro hh<;>try(exfalso;omega))|refine e1.zq rfl rfl ?_|refine wJ ?_|refine nJ ?_)<;>conv=>whnf))
 all_goals rfl
theorem exR_ok:exR.ok=true:=by decide +kernel
theorem exR_sm:Sm exR:=rok_sm exR_ok
theorem exR_few:Few exR:=fun _=>by decide +kernel
theorem exR_len:exR.trs.length=22:=by decide +kernel
theorem exR_frc:frc exR.trs 2=[5,6]:=by decide +kernel
theorem exR_err{b:Bool}(h:b=true):exR.err b=0:=err_zero.2 ⟨exR_ok,h,fun e=>by have:=exR_len;rw[e]at this;cases this⟩
theorem exR_kn{b:Bool}(h:b=true):exR.kn b=exR.trs:=by rw[Ru.kn,if_pos (exR_err h)]
theorem exR_hrm:exR.hrm exR.trs=(0,2):=by decide +kernel
theorem exR_std:exR.std=3:=by rw[Ru.std,exR_hrm];rfl
theorem n15(P:Prg):FnA Tryz.prog 8 [] (· = .bool true):=by
 have e0:=n58
 have e1:=P.forces exR 2 exR_sm exR_few
 have hd:decide ((0:Int)<=2/\(2:Int)<=(exR.bs.length:Int)-1)=true:=by decide
 rw[hd,exR_err rfl,exR_kn rfl,show(2:Int).toNat=2 from rfl,exR_frc]at e1
 have e2:=P.many exR exR_sm exR_few
 rw[exR_err rfl,exR_kn rfl,exR_len]at e2
 have e3:=P.harm exR exR_sm exR_few
 rw[exR_err rfl,exR_kn rfl,exR_hrm,spS]at e3
 have e4:=P.stood exR exR_sm exR_few
 rw[exR_err rfl,if_pos rfl,exR_std]at e4
 have e5:=n29 [5,6] [5,6] (by decide) (by decide)
 rw[decide_eq_true rfl]at e5
 refine fnA 9 ok8 (by simp) ?_
 (conv=>whnf);(repeat'((first|apply bT|apply bF|apply bN|((first|apply bD|apply bEq|apply bNe)<;>intro hh<;>try(exfalso;omega))|refine e0.zq rfl rfl ?_|refine e1.zq rfl rfl ?_|refine e2.cq rfl rfl ?_|refine e3.cq rfl rfl ?_|refine e4.cq rfl rfl ?_|refine e5.lq rfl rfl ?_|refine wJ ?_|refine nJ ?_)<;>conv=>whnf))
 all_goals rfl
theorem n30(r:Ru)(h:Sm r):FnA Tryz.prog 23 [.agg r.cells, .agg r.cells] (· = .bool true):=by
 have hB:(r.bs.map Blw.av).length=r.bs.length:=by simp
 have hM:(r.ms.map Met.av).length=r.ms.length:=by simp
 have hb:=h.b;have hm:=h.m;have hs:=h.s
 have e1:=n29 r.d.sh r.d.sh (by omega) (by omega)
 rw[decide_eq_true rfl]at e1
 refine fnA 2 ok23 (by simp) ?_
 (conv=>whnf);(repeat'((first|apply bT|apply bF|apply bN|((first|apply bD|apply bEq|apply bNe)<;>intro hh<;>try(exfalso;omega))|refine e1.cq rfl rfl ?_|(refine bKT ?_ ?_;(focus (simp;done)))|refine wJ ?_|refine nJ ?_)<;>conv=>whnf))
 refine loop_i (α :=Nat) (fun k=>[(5, .int .i64 k),(3, .own 1 0),(2, .own 0 0)]) (fun k=>[.box false r.cells, .box false r.cells]) (fun k=>k<=r.bs.length) (fun k=>r.bs.length-k) 0 mI (by simp) ?_
 rintro k h1
 conv=>whnf
 refine bD (fun h3=>?_) (fun h3=>?_)
 ·have hk:k<r.bs.length:=by omega
  have g1:=gB r.bs k hk
  (conv=>whnf);(repeat'((first|apply bT|apply bF|apply bN|((first|apply bD|apply bEq|apply bNe)<;>intro hh<;>try(exfalso;omega))|refine iaJ g1 ?_|(refine bKT ?_ ?_;(focus (simp;done)))|(refine bKF ?_ ?_;(focus (simp;done)))|refine wJ ?_|refine nJ ?_)<;>conv=>whnf))
  exact⟨k+1,mI,by omega,by omega⟩
 (conv=>whnf);(repeat'((first|apply bT|apply bF|apply bN|((first|apply bD|apply bEq|apply bNe)<;>intro hh<;>try(exfalso;omega))|refine wJ ?_|refine nJ ?_)<;>conv=>whnf))
 refine loop_i (α :=Nat) (fun k=>[(6, .int .i64 k),(3, .own 1 0),(2, .own 0 0)]) (fun k=>[.box false r.cells, .box false r.cells]) (fun k=>k<=r.ms.length) (fun k=>r.ms.length-k) 0 mI (by simp) ?_
 rintro k h1
 conv=>whnf
 refine bD (fun h3=>?_) (fun h3=>?_)
 ·have hk:k<r.ms.length:=by omega
  have g1:=gM r.ms k hk
  (conv=>whnf);(repeat'((first|apply bT|apply bF|apply bN|((first|apply bD|apply bEq|apply bNe)<;>intro hh<;>try(exfalso;omega))|refine iaJ g1 ?_|(refine bKT ?_ ?_;(focus (simp;done)))|(refine bKF ?_ ?_;(focus (simp;done)))|refine wJ ?_|refine nJ ?_)<;>conv=>whnf))
  exact⟨k+1,mI,by omega,by omega⟩
 (conv=>whnf);(repeat'((first|apply bT|apply bF|apply bN|((first|apply bD|apply bEq|apply bNe)<;>intro hh<;>try(exfalso;omega))|refine wJ ?_|refine nJ ?_)<;>conv=>whnf))
 all_goals rfl
theorem frc_len100(l:List (List Int))(q:Nat):(frc l q).length<=100:=by
 unfold frc
 rw[List.length_map]
 have:=List.length_filter_le (fun n=>l.any fun f=>decide (f.getD q 0=((n:Nat):Int))) (List.range 100)
 rw[List.length_range]at this;exact this
theorem k3(P:Prg)(r:Ru)(q m L:Int):FnA Tryz.prog 3 [.agg r.cells, .agg [.int .i64 q, .int .i64 m, .int .i64 L]] (· = .bool true):=by
 have e0:=n15 P
 have e1:=n14 r
 refine fnA 12 ok3 (by simp) ?_
 cases hf:r.farB<;>rw[hf]at e1
 ·obtain⟨hs,hw,_⟩:=far_sm hf
  have e2:=n16 r hs
  have a1:=P.check r hs hw
  have a2:=n18 r hs
  have b1:=P.few r hs hw
  have b2:=n20 r hs hw
  have c1:=P.forces r q hs hw
  have c2:=n22 r q hs hw
  have d1:=P.right r m hs hw
  have d2:=n24 r m hs hw
  have f1:=P.reads r L hs hw
  have f2:=n26 r L hs hw
  have g1:=P.many r hs hw
  have g2:=n28 r hs hw
  have j1:=n30 r hs
  have hl:=frc_len100 (r.kn (decide (0<=q/\q<=(r.bs.length:Int)-1))) q.toNat
  have h1:=n29 (frc (r.kn (decide (0<=q/\q<=(r.bs.length:Int)-1))) q.toNat) (frc (r.kn (decide (0<=q/\q<=(r.bs.length:Int)-1))) q.toNat) (by omega) (by omega)
  rw[decide_eq_true rfl]at h1
  generalize frc (r.kn (decide (0<=q/\q<=(r.bs.length:Int)-1))) q.toNat=fl at *
  generalize (if r.err (decide (0<=m/\m<=(r.ms.length:Int)-1))=0 then rgtC r.trs (r.ms.getD m.toNat ⟨0,0⟩) else 0)=v at *
  generalize r.err (decide (0<=q/\q<=(r.bs.length:Int)-1))=x1 at *
  generalize r.err (decide (0<=m/\m<=(r.ms.length:Int)-1))=x2 at *
  generalize r.err (decide (0<=L/\L<=99))=x3 at *
  generalize rds (r.kn (decide (0<=L/\L<=99))) L=sp at *
  generalize (if r.ok=true then few r.bs r.ms else 0)=fw at *
  generalize ((r.kn true).length:Int)=mn at *
  generalize r.err true=x4 at *
  generalize r.chk=x5 at *
  (conv=>whnf);(repeat'((first|apply bT|apply bF|apply bN|((first|apply bD|apply bEq|apply bNe)<;>intro hh<;>try(exfalso;omega))|refine e1.cq rfl rfl ?_|refine e2.zq rfl rfl ?_|refine a1.cq rfl rfl ?_|refine a2.cq rfl rfl ?_|refine b1.cq rfl rfl ?_|refine b2.cq rfl rfl ?_|refine c1.zq rfl rfl ?_|refine c2.zq rfl rfl ?_|refine d1.cq rfl rfl ?_|refine d2.cq rfl rfl ?_|refine f1.cq rfl rfl ?_|refine f2.cq rfl rfl ?_|refine g1.cq rfl rfl ?_|refine g2.cq rfl rfl ?_|refine h1.cq rfl rfl ?_|refine j1.cq rfl rfl ?_|refine j1.lq rfl rfl ?_|refine e0.cq rfl rfl ?_|(refine bKT ?_ ?_;(focus (simp;done)))|refine wJ ?_|refine nJ ?_)<;>conv=>whnf))
  all_goals rfl
 ·(conv=>whnf);(repeat'((first|apply bT|apply bF|apply bN|((first|apply bD|apply bEq|apply bNe)<;>intro hh<;>try(exfalso;omega))|refine e1.cq rfl rfl ?_|refine e0.cq rfl rfl ?_|refine wJ ?_|refine nJ ?_)<;>conv=>whnf))
  all_goals rfl
theorem k4(P:Prg)(r:Ru):FnA Tryz.prog 4 [.agg r.cells] (· = .bool true):=by
 have e0:=n15 P
 have e1:=n14 r
 refine fnA 12 ok4 (by simp) ?_
 cases hf:r.farB<;>rw[hf]at e1
 ·obtain⟨hs,hw,_⟩:=far_sm hf
  have e2:=n16 r hs
  have a1:=P.stood r hs hw
  have a2:=n32 r hs hw
  have b1:=P.harm r hs hw
  have b2:=n34 r hs hw
  have c1:=P.shw r hs hw
  have c2:=n36 r hs hw
  unfold spS at b1 b2
  by_cases h0:r.err true=0
  ·have ho:=(err_zero.1 h0).1
   generalize (if r.err true=0 then r.std else 0)=v at *
   generalize r.hrm (r.kn true)=s at *
   rw[h0]at a1 a2 b1 b2 c2
   (conv=>whnf);(repeat'((first|apply bT|apply bF|apply bN|((first|apply bD|apply bEq|apply bNe)<;>intro hh<;>try(exfalso;omega))|refine e1.cq rfl rfl ?_|refine e2.zq rfl rfl ?_|refine a1.cq rfl rfl ?_|refine a2.cq rfl rfl ?_|refine b1.cq rfl rfl ?_|refine b2.cq rfl rfl ?_|refine c2.cq rfl rfl ?_|refine e0.cq rfl rfl ?_|(refine bKT ?_ ?_;(focus (simp;done)))|refine wJ ?_|refine nJ ?_)<;>conv=>whnf))
   refine c1.callzq rfl rfl (fun v hv=>?_)
   obtain⟨l,rfl,hl,hn⟩:=hv
   rw[h0]
   have hm:=hl h0
   have hll:=isC_len (mem_trs.1 hm).1
   have hL:(l.map i1).length=l.length:=by simp
   have hb:=hs.b
   have d1:=n37 r l (by omega) hs.b hs.m
   rw[decide_eq_true hm]at d1
   (conv=>whnf);(repeat'((first|apply bT|apply bF|apply bN|((first|apply bD|apply bEq|apply bNe)<;>intro hh<;>try(exfalso;omega))|refine c2.cq rfl rfl ?_|refine d1.cq rfl rfl ?_|refine e0.cq rfl rfl ?_|(refine bKT ?_ ?_;(focus (simp;done)))|refine wJ ?_|refine nJ ?_)<;>conv=>whnf))
   all_goals rfl
  ·generalize (if r.err true=0 then r.std else 0)=v at *
   generalize r.hrm (r.kn true)=s at *
   (conv=>whnf);(repeat'((first|apply bT|apply bF|apply bN|((first|apply bD|apply bEq|apply bNe)<;>intro hh<;>try(exfalso;omega))|refine e1.cq rfl rfl ?_|refine e2.zq rfl rfl ?_|refine a1.cq rfl rfl ?_|refine a2.cq rfl rfl ?_|refine b1.cq rfl rfl ?_|refine b2.cq rfl rfl ?_|refine c2.cq rfl rfl ?_|refine e0.cq rfl rfl ?_|(refine bKT ?_ ?_;(focus (simp;done)))|refine wJ ?_|refine nJ ?_)<;>conv=>whnf))
   refine c1.callzq rfl rfl (fun v hv=>?_)
   obtain⟨l,rfl,hl,hn⟩:=hv
   obtain rfl:=hn h0
   generalize r.err true=e at *
   (conv=>whnf);(repeat'((first|apply bT|apply bF|apply bN|((first|apply bD|apply bEq|apply bNe)<;>intro hh<;>try(exfalso;omega))|refine c2.cq rfl rfl ?_|refine e0.cq rfl rfl ?_|(refine bKT ?_ ?_;(focus (simp;done)))|refine wJ ?_|refine nJ ?_)<;>conv=>whnf))
   all_goals rfl
 ·(conv=>whnf);(repeat'((first|apply bT|apply bF|apply bN|((first|apply bD|apply bEq|apply bNe)<;>intro hh<;>try(exfalso;omega))|refine e1.cq rfl rfl ?_|refine e0.cq rfl rfl ?_|refine wJ ?_|refine nJ ?_)<;>conv=>whnf))
  all_goals rfl
abbrev Tal:=List Int
def tkA(c:Tal):AV:=.agg (c.map fun x=>AV.int .i64 x)
abbrev Ent:=List (Tal × Int)
def kE(E:Ent):List AV:=E.map fun e=>tkA e.1
def uE(E:Ent):List AV:=E.map fun e=>AV.int .i64 e.2
def getE:Ent->Tal->Option Int
 | [],_=>none
 |(c,v)::E,t=>if t=c then some v else getE E t
def vE(E:Ent)(t:Tal):Int:=(getE E t).getD 0
def addE:Ent->Tal->Int->Ent
 | [],t,v=>[(t,v)]
 |(c,u)::E,t,v=>if t=c then(c,u+v)::E else(c,u)::addE E t v
theorem vE_add(E:Ent)(t:Tal)(v:Int)(s:Tal):vE (addE E t v) s=vE E s+if s=t then v else 0:=by
 unfold vE
 induction E with
 |nil=>
  simp only[addE,getE]
  split<;>simp
 |cons e E ih=>
  obtain⟨c,u⟩:=e
  simp only[addE]
  by_cases h:t=c
  ·subst h
   rw[if_pos rfl]
   simp only[getE]
   by_cases h2:s=t
   ·rw[if_pos h2,if_pos h2,if_pos h2];simp
   ·rw[if_neg h2,if_neg h2,if_neg h2];simp
  ·rw[if_neg h]
   simp only[getE]
   by_cases h2:s=c
   ·have:¬s=t:=fun e=>h (e ▸ h2)
    rw[if_pos h2,if_pos h2,if_neg this];simp
   ·rw[if_neg h2,if_neg h2];exact ih
def K6:KTy:=.st (.node [(0,1, .leaf true),(1,1, .leaf true),(2,1, .leaf true),(3,1, .leaf true),(4,1, .leaf true),(5,1, .leaf true)])
theorem six{a:Tal}(h:a.length=6):∃a0 a1 a2 a3 a4 a5,a=[a0,a1,a2,a3,a4,a5]:=by
 match a,h with
 | [a0,a1,a2,a3,a4,a5],_=>exact⟨a0,a1,a2,a3,a4,a5,rfl⟩
theorem keq6{a b:Tal}(ha:a.length=6)(hb:b.length=6):keq K6 (tkA a) (tkA b)=some (decide (a=b)):=by
 obtain⟨a0,a1,a2,a3,a4,a5,rfl⟩:=six ha
 obtain⟨b0,b1,b2,b3,b4,b5,rfl⟩:=six hb
 have h1:eqV (.node [(0,1, .leaf true),(1,1, .leaf true),(2,1, .leaf true),(3,1, .leaf true),(4,1, .leaf true),(5,1, .leaf true)]) [.int .i64 a0, .int .i64 a1, .int .i64 a2, .int .i64 a3, .int .i64 a4, .int .i64 a5] [.int .i64 b0, .int .i64 b1, .int .i64 b2, .int .i64 b3, .int .i64 b4, .int .i64 b5]=some (decide ([a0,a1,a2,a3,a4,a5]=[b0,b1,b2,b3,b4,b5])):=by
  simp only[eqV,eqVs,List.drop,List.take,eq1,if_true]
  simp
  try grind
 have h2:scEq [.int .i64 a0, .int .i64 a1, .int .i64 a2, .int .i64 a3, .int .i64 a4, .int .i64 a5] [.int .i64 b0, .int .i64 b1, .int .i64 b2, .int .i64 b3, .int .i64 b4, .int .i64 b5]=some (decide ([a0,a1,a2,a3,a4,a5]=[b0,b1,b2,b3,b4,b5])):=by
  simp only[scEq,if_true]
  simp
  try grind
 show keqB K6 _ _=_
 simp only[K6,keqB,tkA,List.map,h1,h2,if_true]
theorem key6{a:Tal}(ha:a.length=6):keyV K6 (tkA a)=true:=by
 obtain⟨a0,a1,a2,a3,a4,a5,rfl⟩:=six ha
 simp[keyV,K6,KTy.base,keyVB,tkA,eqV,eqVs,scV,eq1]
theorem findE{t:Tal}(ht:t.length=6)(v:Int):∀(E:Ent) (i:Nat),(∀e∈E,e.1.length=6)->∃r,findK K6 (tkA t) (kE E) i=some r/\((r=none/\addE E t v=E++[(t,v)]/\getE E t=none)\/∃j u,r=some (i+j)/\E[j]?=some (t,u)/\addE E t v=E.set j (t,u+v)/\getE E t=some u)
 | [],i,_=>⟨none,rfl, .inl ⟨rfl,rfl,rfl⟩⟩
 |(y,u)::E,i,hE=>by
  have hq:=keq6 ht (hE (y,u) (by simp))
  by_cases h:t=y
  ·subst h
   rw[decide_eq_true rfl]at hq
   exact⟨some i,by simp[kE,findK,hq], .inr ⟨0,u,rfl,rfl,by simp[addE],by simp[getE]⟩⟩
  ·obtain⟨r,h1,h2⟩:=findE ht v E (i+1) (fun e he=>hE e (by simp[he]))
   rw[decide_eq_false h]at hq
   refine⟨r,by simpa[kE,findK,hq]using h1,?_⟩
   rcases h2 with⟨h2,h3,h4⟩|⟨j,w,h2,h3,h4,h5⟩
   ·exact .inl ⟨h2,by simp[addE,h,h3],by simp[getE,h,h4]⟩
   ·exact .inr ⟨j+1,w,by rw[h2];congr 1;omega,by simpa using h3,by simp[addE,h,h4],by simp[getE,h,h5]⟩
theorem kE_set{E:Ent}{j:Nat}{t:Tal}{u v:Int}(h:E[j]?=some (t,u)):kE (E.set j (t,v))=kE E:=by
 apply List.ext_getElem (by simp[kE])
 intro n h4 h5
 simp only[kE,List.getElem_map,List.getElem_set]
 split
 ·rename_i e
  subst e
  obtain⟨h6,h7⟩:=List.getElem?_eq_some_iff.1 h
  rw[h7]
 ·rfl
theorem look6{E:Ent}{t:Tal}(ht:t.length=6)(hE:∀e∈E,e.1.length=6):mlook K6 (kE E) (uE E) (tkA t)=some ((getE E t).map fun v=>AV.int .i64 v):=by
 obtain⟨r,h1,h2⟩:=findE ht 0 E 0 hE
 unfold mlook
 rw[key6 ht,h1]
 rcases h2 with⟨rfl,_,h2⟩|⟨j,v,rfl,h2,_,h3⟩
 ·rw[h2];rfl
 ·rw[h3]
  have:(uE E)[j]?=some (.int .i64 v):=by simp[uE,h2]
  simp only[Nat.zero_add,this,Option.map_some]
theorem BnOk.len6{ks us:List AV}{bn:List Nat}{n:Nat}(h:BnOk ks us bn n):bn.Nodup:=h.asc.imp fun h=>Nat.ne_of_lt h
theorem mpe6{E:Ent}{t:Tal}{bn:List Nat}{n:Nat}(ht:t.length=6)(hE:∀e∈E,e.1.length=6)(hb:BnOk (kE E) (uE E) bn n)(v:Int) :
  ∃v0 b bn' n' j,mpeF K6 (kE E) (uE E) bn n (tkA t) (.int .i64 0)=some (.int .i64 v0,b,kE (addE E t v),uE (addE E t 0),bn',n')/\bn'[j]?=some b/\(uE (addE E t 0)).set j (.int .i64 (vE E t+v))=uE (addE E t v)/\BnOk (kE (addE E t v)) (uE (addE E t v)) bn' n' /\
   mlook K6 (kE (addE E t v)) (uE (addE E t 0)) (tkA t)=some (some (.int .i64 (vE E t)))/\∀e∈addE E t v,e.1.length=6:=by
 obtain⟨r,h1,h2⟩:=findE ht v E 0 hE
 obtain⟨r',h1',h2'⟩:=findE ht 0 E 0 hE
 rw[h1]at h1';cases h1'
 unfold mpeF
 rw[key6 ht,h1]
 have hlen:=hb.len
 have hlenu:=hb.lenu
 simp only[kE,uE,List.length_map]at hlen hlenu
 have hkd:K6.isDel=false:=rfl
 rcases h2 with⟨rfl,h2,h3⟩|⟨j,u,rfl,h2,h3,h4⟩
 ·rcases h2' with⟨_,h2',_⟩|⟨j',u',e,_⟩
  ·have hv:vE E t=0:=by unfold vE;rw[h3];rfl
   have hl6:∀e∈addE E t v,e.1.length=6:=by
    rw[h2];intro e he
    rcases List.mem_append.1 he with he|he
    ·exact hE e he
    ·simp only[List.mem_singleton]at he;rw[he];exact ht
   refine⟨0,n,bn++[n],n+1,E.length,?_,by simp[hlen],?_,?_,?_,hl6⟩
   ·rw[hkd];simp[h2,h2',kE,uE]
   ·rw[h2,h2',hv];simp[uE]
   ·rw[h2]
    refine⟨by simp[kE,hlen],by simp[uE,hlen],?_,fun x hx=>?_⟩
    ·refine List.pairwise_append.2 ⟨hb.asc,by simp,fun a ha b hb'=>?_⟩
     simp only[List.mem_singleton]at hb';subst hb';exact hb.lt a ha
    ·rcases List.mem_append.1 hx with hx|hx
     ·exact Nat.lt_succ_of_lt (hb.lt x hx)
     ·simp only[List.mem_singleton]at hx;omega
   ·have e1:kE (addE E t v)=kE (addE E t 0):=by rw[h2,h2'];simp[kE]
    have e2:vE (addE E t 0) t=vE E t:=by rw[vE_add];simp
    have hl6':∀e∈addE E t 0,e.1.length=6:=by
     rw[h2'];intro e he
     rcases List.mem_append.1 he with he|he
     ·exact hE e he
     ·simp only[List.mem_singleton]at he;rw[he];exact ht
    rw[e1,look6 ht hl6']
    have:getE (addE E t 0) t=some 0:=by
     obtain⟨r2,q1,q2⟩:=findE ht 0 (addE E t 0) 0 hl6'
     rcases q2 with⟨_,q3,_⟩|⟨j2,u2,_,_,_,q4⟩
     ·have hlq:=congrArg List.length q3
      exfalso
      have hg:∀(E:Ent),getE (E++[(t,0)]) t≠none:=by
       intro E;induction E with
       |nil=>simp[getE]
       |cons e E ih=>obtain⟨c,u⟩:=e;simp only[List.cons_append,getE];split<;>first|(simp;done)|exact ih
      rename_i q5
      rw[h2']at q5
      exact hg _ q5
     ·have:vE (addE E t 0) t=u2:=by unfold vE;rw[q4];rfl
      rw[q4,<- this,e2,hv]
    rw[this,hv];rfl
  ·cases e
 ·rcases h2' with⟨e,_⟩|⟨j',u',e,h2',h3',h4'⟩
  ·cases e
  ·have ej:j=j':=by simpa using e
   subst ej
   have eu:u'=u:=by rw[h2]at h2';simpa using h2'.symm
   subst eu
   have hv:vE E t=u':=by unfold vE;rw[h4];rfl
   have hjl:=(List.getElem?_eq_some_iff.1 h2).1
   have e0:addE E t 0=E:=by
    rw[h3',Int.add_zero]
    apply List.ext_getElem (by simp)
    intro n h5 h6
    rw[List.getElem_set]
    split
    ·rename_i e;subst e;exact(List.getElem?_eq_some_iff.1 h2).2.symm
    ·rfl
   have hb2:bn[j]?=some bn[j]:=List.getElem?_eq_getElem (by omega)
   have hu2:(uE E)[j]?=some (.int .i64 u'):=by simp[uE,h2]
   refine⟨u',bn[j],bn,n,j,?_,hb2,?_,?_,?_,?_⟩
   ·simp only[Nat.zero_add,hkd,hu2,hb2,e0,h3,kE_set h2]
   ·rw[e0,h3,hv]
    simp only[uE,List.map_set]
   ·rw[h3,kE_set h2]
    exact⟨hb.len,by simp[uE];omega,hb.asc,hb.lt⟩
   ·rw[e0,h3,kE_set h2,look6 ht hE,h4,hv];rfl
   ·rw[h3];intro e he
    rcases List.mem_or_eq_of_mem_set he with he|he
    ·exact hE e he
    ·rw[he];exact ht
theorem perm_sum{l m:List Int}(h:l.Perm m):l.sum=m.sum:=by
 induction h with
 |nil=>rfl
 |cons x _ ih=>simp[ih]
 |swap x y l=>simp;omega
 |trans _ _ a b=>exact a.trans b
theorem met_sum{s:List Nat}{m:Nat}(g:Nat->Int)(hn:s.Nodup)(hs:∀j∈s,j<m)(ha:∀j,j<m->j∈s):(s.map g).sum=((List.range m).map g).sum:=by
 refine perm_sum (List.Perm.map g ?_)
 rw[List.perm_ext_iff_of_nodup hn List.nodup_range]
 intro a
 rw[List.mem_range]
 exact⟨hs a,ha a⟩
theorem met_len{s:List Nat}{m:Nat}(hn:s.Nodup)(hs:∀j∈s,j<m):s.length<=m:=by
 have:=nd_sub_lenC (b:=List.range m) hn (fun x hx=>List.mem_range.2 (hs x hx))
 simpa using this
theorem sum_map_add{α : Type}(l:List α)(f g : α -> Int):(l.map fun a=>f a+g a).sum=(l.map f).sum+(l.map g).sum:=by
 induction l with
 |nil=>rfl
 |cons a l ih=>simp only[List.map_cons,List.sum_cons,ih];omega
def cnT{α : Type}(W:List α)(T : α -> Tal)(t:Tal):Int:=((W.countP fun f=>decide (T f=t):Nat):Int)
theorem cnt_cons{α : Type}(f : α)(W:List α)(T : α -> Tal)(t:Tal):cnT (f::W) T t=cnT W T t+if t=T f then 1 else 0:=by
 unfold cnT
 rw[List.countP_cons]
 by_cases h:T f=t
 ·have h2:t=T f:=h.symm
  simp[h2]
 ·have h2:¬t=T f:=fun e=>h e.symm
  simp[h,h2]
theorem cnt_app{α : Type}(W V:List α)(T : α -> Tal)(t:Tal):cnT (W++V) T t=cnT W T t+cnT V T t:=by
 unfold cnT;rw[List.countP_append];omega
structure Rep{α : Type}(E:Ent)(W:List α)(T : α -> Tal):Prop where
 nd:(E.map (·.1)).Nodup
 len:∀e∈E,e.1.length=6
 cnt:∀t,vE E t=cnT W T t
 pos:∀e∈E,0<e.2
theorem vE_of{E:Ent}(hn:(E.map (·.1)).Nodup){e:Tal × Int}(he:e∈E):vE E e.1=e.2:=by
 unfold vE
 induction E with
 |nil=>cases he
 |cons a E ih=>
  obtain⟨c,u⟩:=a
  simp only[getE]
  rw[List.map_cons,List.nodup_cons]at hn
  rcases List.mem_cons.1 he with rfl|he
  ·rw[if_pos rfl];rfl
  ·have:¬e.1=c:=fun h=>hn.1 (h ▸ List.mem_map.2 ⟨e,he,rfl⟩)
   rw[if_neg this];exact ih hn.2 he
theorem vE_no{E:Ent}{t:Tal}(h:t∉E.map (·.1)):vE E t=0:=by
 unfold vE
 induction E with
 |nil=>rfl
 |cons a E ih=>
  obtain⟨c,u⟩:=a
  simp only[List.map_cons,List.mem_cons,not_or]at h
  simp only[getE]
  rw[if_neg h.1];exact ih h.2
theorem cnt_pos{α : Type}{W:List α}{T : α -> Tal}{t:Tal}:0<cnT W T t<->∃f∈W,T f=t:=by
 unfold cnT
 rw[show(0<((W.countP fun f=>decide (T f=t):Nat):Int))<->0<W.countP fun f=>decide (T f=t) by omega,List.countP_pos_iff]
 simp
theorem Rep.mem{α : Type}{E:Ent}{W:List α}{T : α -> Tal}(h:Rep E W T){t:Tal}:t∈E.map (·.1)<->∃f∈W,T f=t:=by
 rw[<- cnt_pos,<- h.cnt]
 constructor
 ·intro hm
  obtain⟨e,he,rfl⟩:=List.mem_map.1 hm
  rw[vE_of h.nd he];exact h.pos e he
 ·intro hp
  refine Classical.byContradiction fun hn=>?_
  rw[vE_no hn]at hp;omega
theorem keys_sum{α : Type}{T : α -> Tal}(φ : Tal->Int){K:List Tal}(hn:K.Nodup):∀(W:List α),(∀f∈W,T f∈K)->(K.map fun t => φ t*cnT W T t).sum=(W.map fun f => φ (T f)).sum
 | [],_=>by
  have:∀(K:List Tal),(K.map fun t => φ t*cnT ([]:List α) T t).sum=0:=by
   intro K;induction K with
   |nil=>rfl
   |cons t K ih=>
    have h0:cnT ([]:List α) T t=0:=rfl
    simp only[List.map_cons,List.sum_cons,ih,h0];simp
  rw[this];rfl
 |f::W,h=>by
  have ih:=keys_sum φ hn W (fun g hg=>h g (by simp[hg]))
  rw[List.map_cons,List.sum_cons,<- ih]
  have e1:(K.map fun t => φ t*cnT (f::W) T t)=K.map fun t => φ t*cnT W T t+(if t=T f then φ t else 0):=by
   refine List.map_congr_left fun t _=>?_
   rw[cnt_cons];split<;>rw[Int.mul_add]<;>simp
  rw[e1,sum_map_add]
  have e2:∀(K:List Tal),K.Nodup->T f∈K->(K.map fun t=>if t=T f then φ t else 0).sum = φ (T f):=by
   intro K;induction K with
   |nil=>intro _ h;cases h
   |cons t K ih=>
    intro hn hm
    rw[List.nodup_cons]at hn
    rw[List.map_cons,List.sum_cons]
    rcases List.mem_cons.1 hm with e|hm
    ·rw[if_pos e.symm]
     have:(K.map fun t=>if t=T f then φ t else 0).sum=0:=by
      have hz:∀(L:List Tal),T f∉L->(L.map fun t=>if t=T f then φ t else 0).sum=0:=by
       intro L;induction L with
       |nil=>intro _;rfl
       |cons a L ih2=>
        intro hL
        simp only[List.mem_cons,not_or]at hL
        rw[List.map_cons,List.sum_cons,if_neg (fun e=>hL.1 e.symm),ih2 hL.2];rfl
      exact hz K (e ▸ hn.1)
     rw[this,e];omega
    ·have:¬t=T f:=fun e=>hn.1 (e ▸ hm)
     rw[if_neg this,ih hn.2 hm];omega
  rw[e2 K hn (h f (by simp))];omega
theorem Rep.sum{α : Type}{E:Ent}{W:List α}{T : α -> Tal}(h:Rep E W T)(φ : Tal->Int):(E.map fun e => φ e.1*e.2).sum=(W.map fun f => φ (T f)).sum:=by
 rw[<- keys_sum φ h.nd W (fun f hf=>h.mem.2 ⟨f,hf,rfl⟩),List.map_map]
 congr 1
 refine List.map_congr_left fun e he=>?_
 show _ = φ e.1*cnT W T e.1
 rw[<- h.cnt,vE_of h.nd he]
theorem addE_keys{E:Ent}{t:Tal}{v:Int}:∀y,y∈(addE E t v).map (·.1)->y∈E.map (·.1)\/y=t:=by
 induction E with
 |nil=>intro y hy;simp[addE]at hy;exact .inr hy
 |cons a E ih=>
  obtain⟨c,u⟩:=a
  intro y hy
  simp only[addE]at hy
  split at hy
  ·left;simpa using hy
  ·simp only[List.map_cons,List.mem_cons]at hy⊢
   rcases hy with hy|hy
   ·exact .inl (.inl hy)
   ·rcases ih y hy with h|h
    ·exact .inl (.inr h)
    ·exact .inr h
theorem addE_nd{E:Ent}{t:Tal}{v:Int}(h:(E.map (·.1)).Nodup):((addE E t v).map (·.1)).Nodup:=by
 induction E with
 |nil=>simp[addE]
 |cons a E ih=>
  obtain⟨c,u⟩:=a
  rw[List.map_cons,List.nodup_cons]at h
  simp only[addE]
  split
  ·rw[List.map_cons,List.nodup_cons];exact h
  ·rename_i hne
   rw[List.map_cons,List.nodup_cons]
   refine⟨fun hm=>?_,ih h.2⟩
   rcases addE_keys _ hm with q|q
   ·exact h.1 q
   ·exact hne q.symm
theorem addE_pos{E:Ent}{t:Tal}{v:Int}(h:∀e∈E,0<e.2)(hv:0<v):∀e∈addE E t v,0<e.2:=by
 induction E with
 |nil=>intro e he;simp[addE]at he;rw[he];exact hv
 |cons a E ih=>
  obtain⟨c,u⟩:=a
  intro e he
  simp only[addE]at he
  have hu:=h (c,u) (by simp)
  split at he
  ·rcases List.mem_cons.1 he with rfl|he
   ·dsimp only at hu⊢;omega
   ·exact h e (by simp[he])
  ·rcases List.mem_cons.1 he with rfl|he
   ·exact hu
   ·exact ih (fun e he=>h e (by simp[he])) e he
theorem addE_len{E:Ent}{t:Tal}{v:Int}(h:∀e∈E,e.1.length=6)(ht:t.length=6):∀e∈addE E t v,e.1.length=6:=by
 induction E with
 |nil=>intro e he;simp[addE]at he;rw[he];exact ht
 |cons a E ih=>
  obtain⟨c,u⟩:=a
  intro e he
  simp only[addE]at he
  have hu:=h (c,u) (by simp)
  split at he
  ·rcases List.mem_cons.1 he with rfl|he
   ·exact hu
   ·exact h e (by simp[he])
  ·rcases List.mem_cons.1 he with rfl|he
   ·exact hu
   ·exact ih (fun e he=>h e (by simp[he])) e he
theorem Rep.snoc{α : Type}{E:Ent}{W:List α}{T : α -> Tal}(h:Rep E W T){x : α}(hx:(T x).length=6):Rep (addE E (T x) 1) (W++[x]) T:=by
 refine⟨addE_nd h.nd,addE_len h.len hx,fun t=>?_,addE_pos h.pos (by omega)⟩
 have h0:cnT ([]:List α) T t=0:=rfl
 rw[vE_add,h.cnt,cnt_app,cnt_cons,h0];omega
theorem Rep.nil{α : Type}(T : α -> Tal):Rep ([]:Ent) ([]:List α) T:=⟨by simp,by simp,fun t=>rfl,by simp⟩
def addL(a b:Tal):Tal:=List.zipWith (· + ·) a b
def gv(E A:Ent)(t:Tal)(j i:Nat):Int:=if t=addL (E.getD j ([],0)).1 (A.getD i ([],0)).1 then(E.getD j ([],0)).2*(A.getD i ([],0)).2 else 0
def gvs(E A:Ent)(t:Tal)(j:Nat):Int:=((List.range A.length).map (gv E A t j)).sum
theorem range_sum{α : Type}(l:List α)(z : α)(φ : α -> Int):((List.range l.length).map fun j => φ (l.getD j z)).sum=(l.map φ).sum:=by
 congr 1
 apply List.ext_getElem (by simp)
 intro n h1 h2
 have h3:n<l.length:=by simpa using h2
 simp[List.getD_eq_getElem?_getD,h3]
theorem Rep.mul{α β γ : Type}{E A:Ent}{W:List α}{X:List β}{T : α -> Tal}{S : β -> Tal}(hE:Rep E W T)(hA:Rep A X S)(g : α -> β -> γ)(U : γ -> Tal)(hU:∀f∈W,∀x∈X,U (g f x)=addL (T f) (S x))(t:Tal) :
  ((List.range E.length).map (gvs E A t)).sum=cnT (W.flatMap fun f=>X.map (g f)) U t:=by
 have e1:∀j,gvs E A t j=(A.map fun a=>(if t=addL (E.getD j ([],0)).1 a.1 then(E.getD j ([],0)).2 else 0)*a.2).sum:=fun j=>by
  unfold gvs
  rw[<- range_sum A ([],0)]
  congr 1
  refine List.map_congr_left fun i _=>?_
  unfold gv;split<;>simp
 have e2:∀j,gvs E A t j=(X.map fun x=>if t=addL (E.getD j ([],0)).1 (S x) then(1:Int) else 0).sum*(E.getD j ([],0)).2:=fun j=>by
  rw[e1,hA.sum (fun a=>if t=addL (E.getD j ([],0)).1 a then(E.getD j ([],0)).2 else 0)]
  generalize (E.getD j ([],0)).2=m
  generalize (E.getD j ([],0)).1=c
  induction X with
  |nil=>simp
  |cons x X ih=>
   have:∀(X:List β),(X.map fun x=>if t=addL c (S x) then m else 0).sum=(X.map fun x=>if t=addL c (S x) then(1:Int) else 0).sum*m:=by
    intro X;induction X with
    |nil=>simp
    |cons y X ih2=>simp only[List.map_cons,List.sum_cons,ih2,Int.add_mul];split<;>simp
   exact this _
 have e3:((List.range E.length).map (gvs E A t)).sum=(E.map fun e=>(X.map fun x=>if t=addL e.1 (S x) then(1:Int) else 0).sum*e.2).sum:=by
  rw[<- range_sum E ([],0)]
  congr 1
  exact List.map_congr_left fun j _=>e2 j
 rw[e3,hE.sum (fun c=>(X.map fun x=>if t=addL c (S x) then(1:Int) else 0).sum)]
 clear e1 e2 e3 hE
 have hrow:∀f∈W,cnT (X.map (g f)) U t=(X.map fun x=>if t=addL (T f) (S x) then(1:Int) else 0).sum:=fun f hf=>by
  have:∀(Y:List β),(∀x∈Y,x∈X)->cnT (Y.map (g f)) U t=(Y.map fun x=>if t=addL (T f) (S x) then(1:Int) else 0).sum:=by
   intro Y;induction Y with
   |nil=>intro _;simp[cnT]
   |cons y Y ih=>
    intro hy
    rw[List.map_cons,cnt_cons,ih (fun x hx=>hy x (by simp[hx])),List.map_cons,List.sum_cons,hU f hf y (hy y (by simp))];omega
  exact this X (fun x hx=>hx)
 induction W with
 |nil=>simp[cnT]
 |cons f W ih=>
  rw[List.flatMap_cons,cnt_app,List.map_cons,List.sum_cons,hrow f (by simp),ih (fun f' hf'=>hU f' (by simp[hf'])) (fun f' hf'=>hrow f' (by simp[hf']))]
theorem p70(n lo hi:Int):FnA Tryz.prog 92 [.int .i64 n, .int .i64 lo, .int .i64 hi] (· = .bool (decide (lo<=n/\n<=hi))):=by
 refine fnA 0 ok92 (by simp) ?_
 (conv=>whnf);(repeat'((first|apply bT|apply bF|apply bN|((first|apply bD|apply bEq|apply bNe)<;>intro hh<;>try(exfalso;omega))|refine wJ ?_|refine nJ ?_)<;>conv=>whnf))
 all_goals first|rfl|exact congrArg AV.bool (decide_eq_decide.2 (by omega))|exact congrArg AV.bool (decide_eq_true (by omega)).symm|exact congrArg AV.bool (decide_eq_false (by omega)).symm
theorem p43(n:Int):FnA Tryz.prog 61 [.int .i64 n] (· = .bool (decide (0<=n/\n<=99))):=by
 have e:=p70 n 0 99
 refine fnA 0 ok61 (by simp) ?_
 (conv=>whnf);(repeat'((first|apply bT|apply bF|apply bN|((first|apply bD|apply bEq|apply bNe)<;>intro hh<;>try(exfalso;omega))|refine e.cq rfl rfl ?_|refine wJ ?_|refine nJ ?_)<;>conv=>whnf))
 all_goals rfl
theorem p93(m:Met):FnA Tryz.prog 91 [.agg m.av] (· = .bool (decide (okMet m))):=by
 have e1:=p43 m.L
 have e2:=p70 m.c 0 8
 unfold okMet
 by_cases h:0<=m.L/\m.L<=99
 ·rw[decide_eq_true h]at e1
  refine fnA 1 ok91 (by simp) ?_
  (conv=>whnf);(repeat'((first|apply bT|apply bF|apply bN|((first|apply bD|apply bEq|apply bNe)<;>intro hh<;>try(exfalso;omega))|refine e1.cq rfl rfl ?_|refine e2.cq rfl rfl ?_|refine wJ ?_|refine nJ ?_)<;>conv=>whnf))
  all_goals first|rfl|exact congrArg AV.bool (decide_eq_decide.2 (by omega))|exact congrArg AV.bool (decide_eq_true (by omega)).symm|exact congrArg AV.bool (decide_eq_false (by omega)).symm
 ·rw[decide_eq_false h]at e1
  refine fnA 1 ok91 (by simp) ?_
  (conv=>whnf);(repeat'((first|apply bT|apply bF|apply bN|((first|apply bD|apply bEq|apply bNe)<;>intro hh<;>try(exfalso;omega))|refine e1.cq rfl rfl ?_|refine e2.cq rfl rfl ?_|refine wJ ?_|refine nJ ?_)<;>conv=>whnf))
  all_goals exact congrArg AV.bool (decide_eq_false (fun hh=>h hh.1)).symm
theorem p92(l:List Met)(hn:l.length<=1000):FnA Tryz.prog 90 [.isl (l.map Met.av), .fn 91 []] (· = .bool (l.all fun m=>decide (okMet m))):=by
 have hL:(l.map Met.av).length=l.length:=by simp
 refine fnA 1 ok90 (by simp) ?_
 conv=>whnf
 refine loop_i (α :=Nat) (fun k=>[(9, .int .i64 k),(8, .int .i64 (l.map Met.av).length),(7, .isl (l.map Met.av)),(1, .fn 91 [])]) (fun _=>[.fresh]) (fun k=>k<=l.length/\∀g∈l.take k,decide (okMet g)=true) (fun k=>l.length-k) 0 mI ⟨by omega,by simp⟩ ?_
 rintro k ⟨hk,hp⟩
 conv=>whnf
 refine bD (fun h3=>?_) (fun h3=>?_)
 ·have hlt:k<l.length:=by omega
  have hv:FnV Tryz.prog (.fn 91 []) [.agg l[k].av] (· = .bool (decide (okMet l[k]))):=fnV_of bd91 (p93 l[k])
  (conv=>whnf);(repeat'((first|apply bT|apply bF|apply bN|((first|apply bD|apply bEq|apply bNe)<;>intro hh<;>try(exfalso;omega))|refine iaJ (getD_map Met.av l k hlt) ?_|refine wJ ?_|refine nJ ?_)<;>conv=>whnf))
  refine hv.vcallq rfl rfl rfl rfl (fun r (hr:r=_)=>?_);subst hr
  by_cases hm:okMet l[k]
  ·rw[decide_eq_true hm]
   (conv=>whnf);(repeat'((first|apply bT|apply bF|apply bN|((first|apply bD|apply bEq|apply bNe)<;>intro hh<;>try(exfalso;omega))|refine wJ ?_|refine nJ ?_)<;>conv=>whnf))
   exact⟨k+1,mI,⟨by omega,gtake_all (p:=fun m=>decide (okMet m)) hlt hp (decide_eq_true hm)⟩,by omega⟩
  ·rw[decide_eq_false hm]
   (conv=>whnf);(repeat'((first|apply bT|apply bF|apply bN|((first|apply bD|apply bEq|apply bNe)<;>intro hh<;>try(exfalso;omega))|refine wJ ?_|refine nJ ?_)<;>conv=>whnf))
   all_goals (rw[all_false (p:=fun m=>decide (okMet m)) hlt (decide_eq_false hm)])
 ·have:k=l.length:=by omega
  subst this
  have:l.all (fun m=>decide (okMet m))=true:=List.all_eq_true.2 (fun g hg=>hp g (by rwa [List.take_length]))
  rw[this]
  (conv=>whnf);(repeat'((first|apply bT|apply bF|apply bN|((first|apply bD|apply bEq|apply bNe)<;>intro hh<;>try(exfalso;omega))|refine wJ ?_|refine nJ ?_)<;>conv=>whnf))
  all_goals rfl
theorem p91(r:Ru)(b:Blw)(h:r.d.rs.length<=1000):FnA Tryz.prog 89 [.agg r.cells, .agg b.av] (· = .bool (decide (okBlw r.d.rs.length b))):=by
 have hL:(r.d.rs.map s2).length=r.d.rs.length:=by simp
 have e1:=p70 b.a 0 (((r.d.rs.map s2).length:Int)-1)
 have e2:=p70 b.lo 0 b.hi
 have e3:=p43 b.hi
 unfold okBlw
 by_cases h1:0<=b.a/\b.a<=((r.d.rs.map s2).length:Int)-1
 ·rw[decide_eq_true h1]at e1
  by_cases h2:0<=b.lo/\b.lo<=b.hi
  ·rw[decide_eq_true h2]at e2
   by_cases h3:0<=b.hi/\b.hi<=99
   ·rw[decide_eq_true h3]at e3
    refine fnA 2 ok89 (by simp) ?_
    (conv=>whnf);(repeat'((first|apply bT|apply bF|apply bN|((first|apply bD|apply bEq|apply bNe)<;>intro hh<;>try(exfalso;omega))|refine e1.cq rfl rfl ?_|refine e2.cq rfl rfl ?_|refine e3.cq rfl rfl ?_|refine wJ ?_|refine nJ ?_)<;>conv=>whnf))
    all_goals first|rfl|exact congrArg AV.bool (decide_eq_decide.2 (by omega))|exact congrArg AV.bool (decide_eq_true (by omega)).symm|exact congrArg AV.bool (decide_eq_false (by omega)).symm
   ·rw[decide_eq_false h3]at e3
    refine fnA 2 ok89 (by simp) ?_
    (conv=>whnf);(repeat'((first|apply bT|apply bF|apply bN|((first|apply bD|apply bEq|apply bNe)<;>intro hh<;>try(exfalso;omega))|refine e1.cq rfl rfl ?_|refine e2.cq rfl rfl ?_|refine e3.cq rfl rfl ?_|refine wJ ?_|refine nJ ?_)<;>conv=>whnf))
    all_goals first|rfl|exact congrArg AV.bool (decide_eq_decide.2 (by omega))|exact congrArg AV.bool (decide_eq_true (by omega)).symm|exact congrArg AV.bool (decide_eq_false (by omega)).symm
  ·rw[decide_eq_false h2]at e2
   refine fnA 2 ok89 (by simp) ?_
   (conv=>whnf);(repeat'((first|apply bT|apply bF|apply bN|((first|apply bD|apply bEq|apply bNe)<;>intro hh<;>try(exfalso;omega))|refine e1.cq rfl rfl ?_|refine e2.cq rfl rfl ?_|refine wJ ?_|refine nJ ?_)<;>conv=>whnf))
   all_goals first|rfl|exact congrArg AV.bool (decide_eq_decide.2 (by omega))|exact congrArg AV.bool (decide_eq_true (by omega)).symm|exact congrArg AV.bool (decide_eq_false (by omega)).symm
 ·rw[decide_eq_false h1]at e1
  refine fnA 2 ok89 (by simp) ?_
  (conv=>whnf);(repeat'((first|apply bT|apply bF|apply bN|((first|apply bD|apply bEq|apply bNe)<;>intro hh<;>try(exfalso;omega))|refine e1.cq rfl rfl ?_|refine wJ ?_|refine nJ ?_)<;>conv=>whnf))
  all_goals first|rfl|exact congrArg AV.bool (decide_eq_decide.2 (by omega))|exact congrArg AV.bool (decide_eq_true (by omega)).symm|exact congrArg AV.bool (decide_eq_false (by omega)).symm
theorem p90(r:Ru)(b:Blw)(h:r.d.rs.length<=1000):FnA Tryz.prog 88 [.agg b.av, .ipt r.cells] (· = .bool (decide (okBlw r.d.rs.length b))):=by
 have e:=p91 r b h
 refine fnA 1 ok88 (by simp) ?_
 (conv=>whnf);(repeat'((first|apply bT|apply bF|apply bN|((first|apply bD|apply bEq|apply bNe)<;>intro hh<;>try(exfalso;omega))|refine e.cq rfl rfl ?_|refine wJ ?_|refine nJ ?_)<;>conv=>whnf))
 all_goals rfl
theorem p89(r:Ru)(hr:r.d.rs.length<=1000)(hn:r.bs.length<=1000):FnA Tryz.prog 87 [.isl (r.bs.map Blw.av), .fn 88 [.ipt r.cells]] (· = .bool (r.bs.all fun b=>decide (okBlw r.d.rs.length b))):=by
 have key:∀(l:List Blw),l.length<=1000->FnA Tryz.prog 87 [.isl (l.map Blw.av), .fn 88 [.ipt r.cells]] (· = .bool (l.all fun b=>decide (okBlw r.d.rs.length b))):=fun l hn=>by
  have hL:(l.map Blw.av).length=l.length:=by simp
  refine fnA 1 ok87 (by simp) ?_
  conv=>whnf
  refine loop_i (α :=Nat) (fun k=>[(9, .int .i64 k),(8, .int .i64 (l.map Blw.av).length),(7, .isl (l.map Blw.av)),(1, .fn 88 [.ipt r.cells])]) (fun _=>[.fresh]) (fun k=>k<=l.length/\∀g∈l.take k,decide (okBlw r.d.rs.length g)=true) (fun k=>l.length-k) 0 mI ⟨by omega,by simp⟩ ?_
  rintro k ⟨hk,hp⟩
  conv=>whnf
  refine bD (fun h3=>?_) (fun h3=>?_)
  ·have hlt:k<l.length:=by omega
   have hv:FnV Tryz.prog (.fn 88 [.ipt r.cells]) [.agg l[k].av] (· = .bool (decide (okBlw r.d.rs.length l[k]))):=fnV_of bd88 (p90 r l[k] hr)
   (conv=>whnf);(repeat'((first|apply bT|apply bF|apply bN|((first|apply bD|apply bEq|apply bNe)<;>intro hh<;>try(exfalso;omega))|refine iaJ (getD_map Blw.av l k hlt) ?_|refine wJ ?_|refine nJ ?_)<;>conv=>whnf))
   refine hv.vcallq rfl rfl rfl rfl (fun r (hr:r=_)=>?_);subst hr
   by_cases hm:okBlw r.d.rs.length l[k]
   ·rw[decide_eq_true hm]
    (conv=>whnf);(repeat'((first|apply bT|apply bF|apply bN|((first|apply bD|apply bEq|apply bNe)<;>intro hh<;>try(exfalso;omega))|refine wJ ?_|refine nJ ?_)<;>conv=>whnf))
    exact⟨k+1,mI,⟨by omega,gtake_all (p:=fun b=>decide (okBlw r.d.rs.length b)) hlt hp (decide_eq_true hm)⟩,by omega⟩
   ·rw[decide_eq_false hm]
    (conv=>whnf);(repeat'((first|apply bT|apply bF|apply bN|((first|apply bD|apply bEq|apply bNe)<;>intro hh<;>try(exfalso;omega))|refine wJ ?_|refine nJ ?_)<;>conv=>whnf))
    all_goals (rw[all_false (p:=fun b=>decide (okBlw r.d.rs.length b)) hlt (decide_eq_false hm)])
  ·have:k=l.length:=by omega
   subst this
   have:l.all (fun b=>decide (okBlw r.d.rs.length b))=true:=List.all_eq_true.2 (fun g hg=>hp g (by rwa [List.take_length]))
   rw[this]
   (conv=>whnf);(repeat'((first|apply bT|apply bF|apply bN|((first|apply bD|apply bEq|apply bNe)<;>intro hh<;>try(exfalso;omega))|refine wJ ?_|refine nJ ?_)<;>conv=>whnf))
   all_goals rfl
 exact key r.bs hn
theorem p66(r:Ru)(h:Sm r):FnA Tryz.prog 46 [.agg r.cells] (· = .bool r.ok):=by
 have hB:(r.bs.map Blw.av).length=r.bs.length:=by simp
 have hM:(r.ms.map Met.av).length=r.ms.length:=by simp
 have e1:=g39 r.d h.n h.s
 have e2:=p89 r h.n h.b
 have e3:=p92 r.ms h.m
 have e4:=p70 r.w 0 5
 have hbl:=h.b
 have hml:=h.m
 unfold Dm.err at e1
 unfold Ru.ok
 by_cases h1:r.d.okB=true
 ·rw[if_pos h1]at e1
  rw[h1]
  by_cases h2:r.bs.length<=8
  ·rw[decide_eq_true h2]
   cases h3:r.bs.all fun b=>decide (okBlw r.d.rs.length b)
   ·rw[h3]at e2
    refine fnA 1 ok46 (by simp) ?_
    (conv=>whnf);(repeat'((first|apply bT|apply bF|apply bN|((first|apply bD|apply bEq|apply bNe)<;>intro hh<;>try(exfalso;omega))|refine e1.cq rfl rfl ?_|refine e2.lq rfl rfl ?_|refine wJ ?_|refine nJ ?_)<;>conv=>whnf))
    all_goals simp
   ·rw[h3]at e2
    by_cases h4:r.ms.length<=5
    ·rw[decide_eq_true h4]
     cases h5:r.ms.all fun m=>decide (okMet m)
     ·rw[h5]at e3
      refine fnA 1 ok46 (by simp) ?_
      (conv=>whnf);(repeat'((first|apply bT|apply bF|apply bN|((first|apply bD|apply bEq|apply bNe)<;>intro hh<;>try(exfalso;omega))|refine e1.cq rfl rfl ?_|refine e2.lq rfl rfl ?_|refine e3.cq rfl rfl ?_|refine wJ ?_|refine nJ ?_)<;>conv=>whnf))
      all_goals simp
     ·rw[h5]at e3
      refine fnA 1 ok46 (by simp) ?_
      (conv=>whnf);(repeat'((first|apply bT|apply bF|apply bN|((first|apply bD|apply bEq|apply bNe)<;>intro hh<;>try(exfalso;omega))|refine e1.cq rfl rfl ?_|refine e2.lq rfl rfl ?_|refine e3.cq rfl rfl ?_|refine e4.cq rfl rfl ?_|refine wJ ?_|refine nJ ?_)<;>conv=>whnf))
      all_goals simp
    ·rw[decide_eq_false h4]
     refine fnA 1 ok46 (by simp) ?_
     (conv=>whnf);(repeat'((first|apply bT|apply bF|apply bN|((first|apply bD|apply bEq|apply bNe)<;>intro hh<;>try(exfalso;omega))|refine e1.cq rfl rfl ?_|refine e2.lq rfl rfl ?_|refine wJ ?_|refine nJ ?_)<;>conv=>whnf))
     all_goals simp
  ·rw[decide_eq_false h2]
   refine fnA 1 ok46 (by simp) ?_
   (conv=>whnf);(repeat'((first|apply bT|apply bF|apply bN|((first|apply bD|apply bEq|apply bNe)<;>intro hh<;>try(exfalso;omega))|refine e1.cq rfl rfl ?_|refine wJ ?_|refine nJ ?_)<;>conv=>whnf))
   all_goals simp
 ·rw[if_neg h1]at e1
  have h1':r.d.okB=false:=by simpa using h1
  rw[h1']
  refine fnA 1 ok46 (by simp) ?_
  (conv=>whnf);(repeat'((first|apply bT|apply bF|apply bN|((first|apply bD|apply bEq|apply bNe)<;>intro hh<;>try(exfalso;omega))|refine e1.cq rfl rfl ?_|refine wJ ?_|refine nJ ?_)<;>conv=>whnf))
  all_goals simp
theorem p37(r:Ru)(h:Sm r):FnA Tryz.prog 10 [.agg r.cells] (· = .int .i64 r.chk):=by
 have e1:=p66 r h
 unfold Ru.chk
 cases ho:r.ok
 ·rw[ho]at e1
  refine fnA 1 ok10 (by simp) ?_
  (conv=>whnf);(repeat'((first|apply bT|apply bF|apply bN|((first|apply bD|apply bEq|apply bNe)<;>intro hh<;>try(exfalso;omega))|refine e1.cq rfl rfl ?_|refine wJ ?_|refine nJ ?_)<;>conv=>whnf))
  all_goals rfl
 ·rw[ho]at e1
  refine fnA 1 ok10 (by simp) ?_
  (conv=>whnf);(repeat'((first|apply bT|apply bF|apply bN|((first|apply bD|apply bEq|apply bNe)<;>intro hh<;>try(exfalso;omega))|refine e1.cq rfl rfl ?_|refine wJ ?_|refine nJ ?_)<;>conv=>whnf))
  all_goals rfl
theorem p42(r:Ru)(m:Int)(h:Sm r):FnA Tryz.prog 57 [.agg r.cells, .int .i64 m] (· = .bool (decide (0<=m/\m<=(r.ms.length:Int)-1))):=by
 have hM:(r.ms.map Met.av).length=r.ms.length:=by simp
 have e1:=p70 m 0 (((r.ms.map Met.av).length:Int)-1)
 have hml:=h.m
 refine fnA 1 ok57 (by simp) ?_
 (conv=>whnf);(repeat'((first|apply bT|apply bF|apply bN|((first|apply bD|apply bEq|apply bNe)<;>intro hh<;>try(exfalso;omega))|refine e1.cq rfl rfl ?_|refine wJ ?_|refine nJ ?_)<;>conv=>whnf))
 all_goals simp
theorem p46(r:Ru)(q:Int)(h:Sm r):FnA Tryz.prog 54 [.agg r.cells, .int .i64 q] (· = .bool (decide (0<=q/\q<=(r.bs.length:Int)-1))):=by
 have hB:(r.bs.map Blw.av).length=r.bs.length:=by simp
 have e1:=p70 q 0 (((r.bs.map Blw.av).length:Int)-1)
 have hbl:=h.b
 refine fnA 1 ok54 (by simp) ?_
 (conv=>whnf);(repeat'((first|apply bT|apply bF|apply bN|((first|apply bD|apply bEq|apply bNe)<;>intro hh<;>try(exfalso;omega))|refine e1.cq rfl rfl ?_|refine wJ ?_|refine nJ ?_)<;>conv=>whnf))
 all_goals simp
theorem p95(a b:Tal)(ha:a.length=6)(hb:b.length=6)(h1:∀x∈a,0<=x/\x<=1000)(h2:∀x∈b,0<=x/\x<=1000):FnA Tryz.prog 115 [tkA a,tkA b] (· = tkA (addL a b)):=by
 obtain⟨a0,a1,a2,a3,a4,a5,rfl⟩:=six ha
 obtain⟨b0,b1,b2,b3,b4,b5,rfl⟩:=six hb
 simp only[List.mem_cons,List.not_mem_nil,or_false,forall_eq_or_imp,forall_eq]at h1 h2
 refine fnA 3 ok115 (by simp) ?_
 conv=>whnf
 refine loop_i (α :=Nat) (fun k=>[(8, .int .i64 k),(7, .agg [.int .i64 b0, .int .i64 b1, .int .i64 b2, .int .i64 b3, .int .i64 b4, .int .i64 b5]),(2, .own 0 0),(4, .own 2 0)]) (fun k=>[.box false [.int .i64 (if 0<k then a0+b0 else a0), .int .i64 (if 1<k then a1+b1 else a1), .int .i64 (if 2<k then a2+b2 else a2), .int .i64 (if 3<k then a3+b3 else a3), .int .i64 (if 4<k then a4+b4 else a4), .int .i64 (if 5<k then a5+b5 else a5)], .fresh, .box false [.int .i64 0, .int .i64 0, .int .i64 0, .int .i64 0, .int .i64 0, .int .i64 0]]) (fun k=>k<=6) (fun k=>6-k) 0 mI (by omega) ?_
 intro k hk
 conv=>whnf
 refine bD (fun h3=>?_) (fun h3=>?_)
 ·have hlt:k<6:=by omega
  by_cases h10:k=0
  ·subst h10
   (conv=>whnf);(repeat'((first|apply bT|apply bF|apply bN|((first|apply bD|apply bEq|apply bNe)<;>intro hh<;>try(exfalso;omega))|refine idI (by omega) (by omega) rfl ?_|refine wJ ?_|refine nJ ?_)<;>conv=>whnf))
   exact⟨0+1,mI,by omega,by omega⟩
  by_cases h11:k=1
  ·subst h11
   (conv=>whnf);(repeat'((first|apply bT|apply bF|apply bN|((first|apply bD|apply bEq|apply bNe)<;>intro hh<;>try(exfalso;omega))|refine idI (by omega) (by omega) rfl ?_|refine wJ ?_|refine nJ ?_)<;>conv=>whnf))
   exact⟨1+1,mI,by omega,by omega⟩
  by_cases h12:k=2
  ·subst h12
   (conv=>whnf);(repeat'((first|apply bT|apply bF|apply bN|((first|apply bD|apply bEq|apply bNe)<;>intro hh<;>try(exfalso;omega))|refine idI (by omega) (by omega) rfl ?_|refine wJ ?_|refine nJ ?_)<;>conv=>whnf))
   exact⟨2+1,mI,by omega,by omega⟩
  by_cases h13:k=3
  ·subst h13
   (conv=>whnf);(repeat'((first|apply bT|apply bF|apply bN|((first|apply bD|apply bEq|apply bNe)<;>intro hh<;>try(exfalso;omega))|refine idI (by omega) (by omega) rfl ?_|refine wJ ?_|refine nJ ?_)<;>conv=>whnf))
   exact⟨3+1,mI,by omega,by omega⟩
  by_cases h14:k=4
  ·subst h14
   (conv=>whnf);(repeat'((first|apply bT|apply bF|apply bN|((first|apply bD|apply bEq|apply bNe)<;>intro hh<;>try(exfalso;omega))|refine idI (by omega) (by omega) rfl ?_|refine wJ ?_|refine nJ ?_)<;>conv=>whnf))
   exact⟨4+1,mI,by omega,by omega⟩
  have h15:k=5:=by omega
  subst h15
  (conv=>whnf);(repeat'((first|apply bT|apply bF|apply bN|((first|apply bD|apply bEq|apply bNe)<;>intro hh<;>try(exfalso;omega))|refine idI (by omega) (by omega) rfl ?_|refine wJ ?_|refine nJ ?_)<;>conv=>whnf))
  exact⟨5+1,mI,by omega,by omega⟩
 ·have:k=6:=by omega
  subst this
  (conv=>whnf);(repeat'((first|apply bT|apply bF|apply bN|((first|apply bD|apply bEq|apply bNe)<;>intro hh<;>try(exfalso;omega))|refine wJ ?_|refine nJ ?_)<;>conv=>whnf))
  all_goals rfl
def wrT(ms:List Met)(c:Tal):Nat:=(List.range ms.length).countP fun i => !decide (c.getD i 0=(ms.getD i ⟨0,0⟩).c)
def wrK(ms:List Met)(c:Tal)(k:Nat):Nat:=(List.range k).countP fun i => !decide (c.getD i 0=(ms.getD i ⟨0,0⟩).c)
theorem wrK_suc(ms:List Met)(c:Tal)(k:Nat):wrK ms c (k+1)=wrK ms c k+if c.getD k 0=(ms.getD k ⟨0,0⟩).c then 0 else 1:=by
 unfold wrK
 rw[List.range_succ,List.countP_append,List.countP_singleton]
 by_cases h:c.getD k 0=(ms.getD k ⟨0,0⟩).c<;>simp only[h,decide_true,decide_false,Bool.not_true,Bool.not_false,if_true,if_false]<;>simp
theorem wrK_le(ms:List Met)(c:Tal)(k:Nat):wrK ms c k<=k:=by
 unfold wrK
 have:=List.countP_le_length (l:=List.range k) (p:=fun i => !decide (c.getD i 0=(ms.getD i ⟨0,0⟩).c))
 simpa using this
theorem p68(r:Ru)(c:Tal)(hc:c.length=6)(hm:r.ms.length<=5):FnA Tryz.prog 96 [.agg r.cells,tkA c] (· = .int .i64 (wrT r.ms c:Nat)):=by
 have hL:(r.ms.map Met.av).length=r.ms.length:=by simp
 obtain⟨c0,c1,c2,c3,c4,c5,rfl⟩:=six hc
 refine fnA 3 ok96 (by simp) ?_
 conv=>whnf
 refine loop_i (α :=Nat) (fun k=>[(12, .int .i64 k),(11, .int .i64 (r.ms.map Met.av).length),(10, .isl (r.ms.map Met.av)),(5, .int .i64 (wrK r.ms [c0,c1,c2,c3,c4,c5] k:Nat)),(3, .own 1 0),(2, .own 0 0)]) (fun k=>[.box false r.cells, .box false [.int .i64 c0, .int .i64 c1, .int .i64 c2, .int .i64 c3, .int .i64 c4, .int .i64 c5], .fresh]) (fun k=>k<=r.ms.length) (fun k=>r.ms.length-k) 0 mI (by omega) ?_
 intro k hk
 have hw:=wrK_le r.ms [c0,c1,c2,c3,c4,c5] k
 have hs:=wrK_suc r.ms [c0,c1,c2,c3,c4,c5] k
 conv=>whnf
 refine bD (fun h3=>?_) (fun h3=>?_)
 ·have hlt:k<r.ms.length:=by omega
  have g1:=gM r.ms k hlt
  by_cases h10:k=0
  ·have hs':wrK r.ms [c0,c1,c2,c3,c4,c5] (0+1)=wrK r.ms [c0,c1,c2,c3,c4,c5] 0+if c0=(r.ms.getD 0 ⟨0,0⟩).c then 0 else 1:=by subst h10;exact hs
   clear hs
   subst h10
   by_cases hq:c0=(r.ms.getD 0 ⟨0,0⟩).c
   ·rw[if_pos hq]at hs'
    (conv=>whnf);(repeat'((first|apply bT|apply bF|apply bN|((first|apply bD|apply bEq|apply bNe)<;>intro hh<;>try(exfalso;omega))|refine iaJ g1 ?_|refine wJ ?_|refine nJ ?_)<;>conv=>whnf))
    refine⟨0+1,?_,by omega,by omega⟩
    rw[hs',Nat.add_zero]
    exact mI
   ·rw[if_neg hq]at hs'
    (conv=>whnf);(repeat'((first|apply bT|apply bF|apply bN|((first|apply bD|apply bEq|apply bNe)<;>intro hh<;>try(exfalso;omega))|refine iaJ g1 ?_|refine wJ ?_|refine nJ ?_)<;>conv=>whnf))
    refine⟨0+1,?_,by omega,by omega⟩
    rw[hs',Int.natCast_add,Int.natCast_one]
    exact mI
  by_cases h11:k=1
  ·have hs':wrK r.ms [c0,c1,c2,c3,c4,c5] (1+1)=wrK r.ms [c0,c1,c2,c3,c4,c5] 1+if c1=(r.ms.getD 1 ⟨0,0⟩).c then 0 else 1:=by subst h11;exact hs
   clear hs
   subst h11
   by_cases hq:c1=(r.ms.getD 1 ⟨0,0⟩).c
   ·rw[if_pos hq]at hs'
    (conv=>whnf);(repeat'((first|apply bT|apply bF|apply bN|((first|apply bD|apply bEq|apply bNe)<;>intro hh<;>try(exfalso;omega))|refine iaJ g1 ?_|refine wJ ?_|refine nJ ?_)<;>conv=>whnf))
    refine⟨1+1,?_,by omega,by omega⟩
    rw[hs',Nat.add_zero]
    exact mI
   ·rw[if_neg hq]at hs'
    (conv=>whnf);(repeat'((first|apply bT|apply bF|apply bN|((first|apply bD|apply bEq|apply bNe)<;>intro hh<;>try(exfalso;omega))|refine iaJ g1 ?_|refine wJ ?_|refine nJ ?_)<;>conv=>whnf))
    refine⟨1+1,?_,by omega,by omega⟩
    rw[hs',Int.natCast_add,Int.natCast_one]
    exact mI
  by_cases h12:k=2
  ·have hs':wrK r.ms [c0,c1,c2,c3,c4,c5] (2+1)=wrK r.ms [c0,c1,c2,c3,c4,c5] 2+if c2=(r.ms.getD 2 ⟨0,0⟩).c then 0 else 1:=by subst h12;exact hs
   clear hs
   subst h12
   by_cases hq:c2=(r.ms.getD 2 ⟨0,0⟩).c
   ·rw[if_pos hq]at hs'
    (conv=>whnf);(repeat'((first|apply bT|apply bF|apply bN|((first|apply bD|apply bEq|apply bNe)<;>intro hh<;>try(exfalso;omega))|refine iaJ g1 ?_|refine wJ ?_|refine nJ ?_)<;>conv=>whnf))
    refine⟨2+1,?_,by omega,by omega⟩
    rw[hs',Nat.add_zero]
    exact mI
   ·rw[if_neg hq]at hs'
    (conv=>whnf);(repeat'((first|apply bT|apply bF|apply bN|((first|apply bD|apply bEq|apply bNe)<;>intro hh<;>try(exfalso;omega))|refine iaJ g1 ?_|refine wJ ?_|refine nJ ?_)<;>conv=>whnf))
    refine⟨2+1,?_,by omega,by omega⟩
    rw[hs',Int.natCast_add,Int.natCast_one]
    exact mI
  by_cases h13:k=3
  ·have hs':wrK r.ms [c0,c1,c2,c3,c4,c5] (3+1)=wrK r.ms [c0,c1,c2,c3,c4,c5] 3+if c3=(r.ms.getD 3 ⟨0,0⟩).c then 0 else 1:=by subst h13;exact hs
   clear hs
   subst h13
   by_cases hq:c3=(r.ms.getD 3 ⟨0,0⟩).c
   ·rw[if_pos hq]at hs'
    (conv=>whnf);(repeat'((first|apply bT|apply bF|apply bN|((first|apply bD|apply bEq|apply bNe)<;>intro hh<;>try(exfalso;omega))|refine iaJ g1 ?_|refine wJ ?_|refine nJ ?_)<;>conv=>whnf))
    refine⟨3+1,?_,by omega,by omega⟩
    rw[hs',Nat.add_zero]
    exact mI
   ·rw[if_neg hq]at hs'
    (conv=>whnf);(repeat'((first|apply bT|apply bF|apply bN|((first|apply bD|apply bEq|apply bNe)<;>intro hh<;>try(exfalso;omega))|refine iaJ g1 ?_|refine wJ ?_|refine nJ ?_)<;>conv=>whnf))
    refine⟨3+1,?_,by omega,by omega⟩
    rw[hs',Int.natCast_add,Int.natCast_one]
    exact mI
  have h14:k=4:=by omega
  ·have hs':wrK r.ms [c0,c1,c2,c3,c4,c5] (4+1)=wrK r.ms [c0,c1,c2,c3,c4,c5] 4+if c4=(r.ms.getD 4 ⟨0,0⟩).c then 0 else 1:=by subst h14;exact hs
   clear hs
   subst h14
   by_cases hq:c4=(r.ms.getD 4 ⟨0,0⟩).c
   ·rw[if_pos hq]at hs'
    (conv=>whnf);(repeat'((first|apply bT|apply bF|apply bN|((first|apply bD|apply bEq|apply bNe)<;>intro hh<;>try(exfalso;omega))|refine iaJ g1 ?_|refine wJ ?_|refine nJ ?_)<;>conv=>whnf))
    refine⟨4+1,?_,by omega,by omega⟩
    rw[hs',Nat.add_zero]
    exact mI
   ·rw[if_neg hq]at hs'
    (conv=>whnf);(repeat'((first|apply bT|apply bF|apply bN|((first|apply bD|apply bEq|apply bNe)<;>intro hh<;>try(exfalso;omega))|refine iaJ g1 ?_|refine wJ ?_|refine nJ ?_)<;>conv=>whnf))
    refine⟨4+1,?_,by omega,by omega⟩
    rw[hs',Int.natCast_add,Int.natCast_one]
    exact mI
 ·have:k=r.ms.length:=by omega
  subst this
  (conv=>whnf);(repeat'((first|apply bT|apply bF|apply bN|((first|apply bD|apply bEq|apply bNe)<;>intro hh<;>try(exfalso;omega))|refine wJ ?_|refine nJ ?_)<;>conv=>whnf))
  all_goals rfl
def m1(ms:List Met)(x:Int)(i:Nat):Int:=if i<ms.length/\(ms.getD i ⟨0,0⟩).L<=x then 1 else 0
def T1(ms:List Met)(h:Bool)(x:Int):Tal:=[m1 ms x 0,m1 ms x 1,m1 ms x 2,m1 ms x 3,m1 ms x 4,if h=true then 1 else 0]
def mk1(ms:List Met)(x:Int)(k i:Nat):Int:=if i<k then m1 ms x i else 0
theorem mk1_len(ms:List Met)(x:Int)(i:Nat):mk1 ms x ms.length i=m1 ms x i:=by
 unfold mk1 m1;split
 ·rfl
 ·rename_i h;rw[if_neg (fun hh=>h hh.1)]
def tl1(ms:List Met)(f:List Int)(i:Nat):Int:=if i<ms.length then((abv f (ms.getD i ⟨0,0⟩).L:Nat):Int) else 0
def hQ(Q:Nat->Int->Bool)(f:List Int):Int:=((List.range f.length).countP fun j=>Q j (f.getD j 0):Nat)
def TL(ms:List Met)(Q:Nat->Int->Bool)(f:List Int):Tal:=[tl1 ms f 0,tl1 ms f 1,tl1 ms f 2,tl1 ms f 3,tl1 ms f 4,hQ Q f]
theorem tl1_snoc(ms:List Met)(f:List Int)(x:Int)(i:Nat):tl1 ms (f++[x]) i=tl1 ms f i+m1 ms x i:=by
 unfold tl1 m1 abv
 by_cases h:i<ms.length
 ·rw[if_pos h,if_pos h,List.countP_append,List.countP_singleton]
  by_cases h2:(ms.getD i ⟨0,0⟩).L<=x
  ·rw[if_pos (decide_eq_true h2),if_pos ⟨h,h2⟩];omega
  ·rw[if_neg (by simpa using h2),if_neg (fun hh=>h2 hh.2)];omega
 ·rw[if_neg h,if_neg h,if_neg (fun hh=>h hh.1)];rfl
theorem hQ_snoc(Q:Nat->Int->Bool)(f:List Int)(x:Int):hQ Q (f++[x])=hQ Q f+if Q f.length x=true then 1 else 0:=by
 unfold hQ
 rw[List.length_append,List.length_singleton,List.range_succ,List.countP_append,List.countP_singleton]
 have e1:(List.range f.length).countP (fun j=>Q j ((f++[x]).getD j 0))=(List.range f.length).countP fun j=>Q j (f.getD j 0):=by
  refine List.countP_congr fun j hj=>?_
  have:=List.mem_range.1 hj
  rw[List.getD_eq_getElem?_getD,List.getElem?_append_left this,List.getD_eq_getElem?_getD]
 have e2:(f++[x]).getD f.length 0=x:=by simp[List.getD_eq_getElem?_getD]
 rw[e1,e2];split<;>omega
theorem TL_snoc(ms:List Met)(Q:Nat->Int->Bool)(f:List Int)(x:Int):TL ms Q (f++[x])=addL (TL ms Q f) (T1 ms (Q f.length x) x):=by
 simp only[TL,T1,addL,List.zipWith,tl1_snoc,hQ_snoc]
theorem T1_len(ms:List Met)(h:Bool)(x:Int):(T1 ms h x).length=6:=rfl
theorem TL_len(ms:List Met)(Q:Nat->Int->Bool)(f:List Int):(TL ms Q f).length=6:=rfl
theorem m1_bd(ms:List Met)(x:Int)(i:Nat):0<=m1 ms x i/\m1 ms x i<=1:=by unfold m1;split<;>omega
theorem T1_bd(ms:List Met)(h:Bool)(x:Int):∀y∈T1 ms h x,0<=y/\y<=1000:=by
 intro y hy
 simp only[T1,List.mem_cons,List.not_mem_nil,or_false]at hy
 rcases hy with rfl|rfl|rfl|rfl|rfl|rfl
 all_goals first|(have:=m1_bd ms x 0;have:=m1_bd ms x 1;have:=m1_bd ms x 2;have:=m1_bd ms x 3;have:=m1_bd ms x 4;omega)|(split<;>omega)
theorem tl1_bd(ms:List Met)(f:List Int)(i:Nat):0<=tl1 ms f i/\tl1 ms f i<=f.length:=by
 unfold tl1 abv
 have:=List.countP_le_length (l:=f) (p:=fun x=>decide ((ms.getD i ⟨0,0⟩).L<=x))
 split<;>omega
theorem hQ_bd(Q:Nat->Int->Bool)(f:List Int):0<=hQ Q f/\hQ Q f<=f.length:=by
 unfold hQ
 have:=List.countP_le_length (l:=List.range f.length) (p:=fun j=>Q j (f.getD j 0))
 simp only[List.length_range]at this;omega
theorem TL_bd(ms:List Met)(Q:Nat->Int->Bool)(f:List Int)(hf:f.length<=8):∀y∈TL ms Q f,0<=y/\y<=1000:=by
 intro y hy
 simp only[TL,List.mem_cons,List.not_mem_nil,or_false]at hy
 have h5:=hQ_bd Q f
 rcases hy with rfl|rfl|rfl|rfl|rfl|rfl
 ·have:=tl1_bd ms f 0;omega
 ·have:=tl1_bd ms f 1;omega
 ·have:=tl1_bd ms f 2;omega
 ·have:=tl1_bd ms f 3;omega
 ·have:=tl1_bd ms f 4;omega
 ·omega
def fsK(lo:Int)(j:Nat):List Int:=(List.range j).map fun(i:Nat)=>lo+(i:Int)
theorem fsK_suc(lo:Int)(j:Nat):fsK lo (j+1)=fsK lo j++[lo+(j:Int)]:=by
 unfold fsK;rw[List.range_succ,List.map_append];rfl
def fsB(b:Blw):List Int:=fsK b.lo (wid b)
theorem cnT_le{α : Type}(W:List α)(T : α -> Tal)(t:Tal):0<=cnT W T t/\cnT W T t<=W.length:=by
 unfold cnT
 have:=List.countP_le_length (l:=W) (p:=fun f=>decide (T f=t))
 omega
theorem csF_snoc(b:Blw):∀(bs:List Blw) (f:List Int),csF (bs++[b]) f=(csF bs f).flatMap fun g=>(fsB b).map fun x=>g++[x]
 | [],f=>by
  have:∀m,csK (csF []) f b.lo m=(fsK b.lo m).map fun x=>f++[x]:=by
   intro m;induction m with
   |zero=>rfl
   |succ m ih=>rw[csK,ih,fsK_suc,List.map_append];rfl
  show csK (csF []) f b.lo (wid b)=_
  rw[this];simp[csF,fsB]
 |c::bs,f=>by
  have:∀m,csK (csF (bs++[b])) f c.lo m=(csK (csF bs) f c.lo m).flatMap fun g=>(fsB b).map fun x=>g++[x]:=by
   intro m;induction m with
   |zero=>rfl
   |succ m ih=>rw[csK,ih,csK,List.flatMap_append,csF_snoc b bs]
  exact this _
theorem css_suc(bs:List Blw){k:Nat}(hk:k<bs.length):css (bs.take (k+1))=(css (bs.take k)).flatMap fun g=>(fsB (bs.getD k ⟨0,0,0⟩)).map fun x=>g++[x]:=by
 have e:bs.take (k+1)=bs.take k++[bs.getD k ⟨0,0,0⟩]:=by
  rw[List.take_succ_eq_append_getElem hk,List.getD_eq_getElem?_getD,List.getElem?_eq_getElem hk];rfl
 unfold css;rw[e,csF_snoc]
theorem css_tlen{bs:List Blw}{k:Nat}(hk:k<=bs.length){f:List Int}(hf:f∈css (bs.take k)):f.length=k:=by
 have:=(isC_iff.1 (mem_css.1 hf)).1
 rw[this];simp;omega
end Go.Proofs
