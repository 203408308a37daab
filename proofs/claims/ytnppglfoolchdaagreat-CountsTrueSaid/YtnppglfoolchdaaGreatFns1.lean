/- What each function of this program answers, proved by walking its body: the contracts that the law rests on, part 1. -/
import Derived.Test.YtnppglfoolchdaaGreatCode
set_option linter.unusedSimpArgs false
set_option linter.unusedVariables false
set_option linter.unusedSectionVars false
namespace Go.Proofs
open Go.Eng
attribute [local irreducible] Go.Eng.brB Go.Eng.need Go.Eng.wrE Go.Eng.iaE Go.Eng.slE Go.Eng.apE Go.Eng.CallZ Go.Eng.CallE Go.Eng.VCallE Go.Eng.YldE Go.Eng.GoC Go.Eng.MeetsE Go.Eng.FnA Go.Eng.FnV
set_option maxRecDepth 100000
structure Sec where
 (al ah sl sh base num den:Int)
def Sec.av(s:Sec):List AV:=[.int .i64 s.al, .int .i64 s.ah, .int .i64 s.sl, .int .i64 s.sh, .int .i64 s.base, .int .i64 s.num, .int .i64 s.den]
structure Frm where
 ss:List Sec
 (lo hi en ed rod cs:Int)
def Frm.cells(f:Frm):List AV:=[.isl (f.ss.map Sec.av), .int .i64 f.lo, .int .i64 f.hi, .int .i64 f.en, .int .i64 f.ed, .int .i64 f.rod, .int .i64 f.cs]
def okSpan(a b p:Int):Prop:=1<=a/\a<=b/\b<=2000/\b-a<=p
def okPart(n d:Int):Prop:=1<=d/\d<=20/\0<=n/\n<=d
instance (a b p:Int):Decidable (okSpan a b p):=by unfold okSpan;infer_instance
instance (n d:Int):Decidable (okPart n d):=by unfold okPart;infer_instance
def Sec.ok(s:Sec):Prop:=okSpan s.al s.ah 6/\okSpan s.sl s.sh 6/\(0<=s.base/\s.base<=2000)/\okPart s.num s.den
instance (s:Sec):Decidable s.ok:=by unfold Sec.ok;infer_instance
def Frm.ok(f:Frm):Prop:=1<=f.ss.length/\f.ss.length<=3/\(∀s∈f.ss,s.ok)/\okSpan f.lo f.hi 200/\okPart f.en f.ed/\(0<=f.rod/\f.rod<=4000)/\(0<=f.cs/\f.cs<=4000)
instance (f:Frm):Decidable f.ok:=by unfold Frm.ok;infer_instance
theorem k73(n lo hi:Int):FnA Tryz.prog 142 [.int .i64 n, .int .i64 lo, .int .i64 hi] (· = .bool (decide (lo<=n/\n<=hi))):=by
 refine fnA 2 ok142 (by simp) ?_
 (conv=>whnf);(repeat'((first|apply bT|apply bF|apply bN|((first|apply bD|apply bEq|apply bNe)<;>intro hh<;>try(exfalso;omega))|refine wJ ?_|refine nJ ?_)<;>conv=>whnf))
 all_goals first|rfl|exact congrArg AV.bool (decide_eq_decide.2 (by omega))|exact congrArg AV.bool (decide_eq_true (by omega)).symm|exact congrArg AV.bool (decide_eq_false (by omega)).symm
theorem k71(a b p:Int):FnA Tryz.prog 148 [.agg [.int .i64 a, .int .i64 b], .int .i64 p] (· = .bool (decide (okSpan a b p))):=by
 refine fnA 2 ok148 (by simp) ?_
 unfold okSpan
 (conv=>whnf);(repeat'((first|apply bT|apply bF|apply bN|((first|apply bD|apply bEq|apply bNe)<;>intro hh<;>try(exfalso;omega))|refine(k73 _ _ _).cq rfl rfl ?_|refine wJ ?_|refine nJ ?_)<;>conv=>whnf))
 all_goals first|rfl|exact congrArg AV.bool (decide_eq_decide.2 (by omega))|exact congrArg AV.bool (decide_eq_true (by omega)).symm|exact congrArg AV.bool (decide_eq_false (by omega)).symm
theorem k72(a b:Int):FnA Tryz.prog 149 [.agg [.int .i64 a, .int .i64 b]] (· = .bool (decide (okPart a b))):=by
 refine fnA 2 ok149 (by simp) ?_
 unfold okPart
 (conv=>whnf);(repeat'((first|apply bT|apply bF|apply bN|((first|apply bD|apply bEq|apply bNe)<;>intro hh<;>try(exfalso;omega))|refine(k73 _ _ _).cq rfl rfl ?_|refine wJ ?_|refine nJ ?_)<;>conv=>whnf))
 all_goals first|rfl|exact congrArg AV.bool (decide_eq_decide.2 (by omega))|exact congrArg AV.bool (decide_eq_true (by omega)).symm|exact congrArg AV.bool (decide_eq_false (by omega)).symm
theorem k70(s:Sec):FnA Tryz.prog 147 [.agg s.av] (· = .bool (decide s.ok)):=by
 refine fnA 2 ok147 (by simp) ?_
 unfold Sec.ok
 (conv=>whnf);(repeat'((first|apply bT|apply bF|apply bN|((first|apply bD|apply bEq|apply bNe)<;>intro hh)|refine(k71 _ _ _).cq rfl rfl ?_|refine(k72 _ _).cq rfl rfl ?_|refine(k73 _ _ _).cq rfl rfl ?_|refine wJ ?_|refine nJ ?_)<;>conv=>whnf))
 all_goals (simp[*])
theorem k76(a b c d:Int)(h1 : -9000000000000000000<=a*d/\a*d<=9000000000000000000)(h2 : -9000000000000000000<=c*b/\c*b<=9000000000000000000):FnA Tryz.prog 145 [.agg [.int .i64 a, .int .i64 b], .agg [.int .i64 c, .int .i64 d]] (· = .bool (decide (a*d<c*b))):=by
 refine fnA 2 ok145 (by simp) ?_
 (conv=>whnf);(repeat'((first|apply bT|apply bF|apply bN|((first|apply bD|apply bEq|apply bNe)<;>intro hh<;>try(exfalso;omega))|refine wJ ?_|refine nJ ?_)<;>conv=>whnf))
 all_goals rfl
theorem getD_map{α : Type}(f : α -> List AV)(l:List α)(i:Nat)(h:i<l.length):(l.map f).getD i []=f l[i]:=by
 simp[List.getD_eq_getElem?_getD,h]
theorem all_take{α : Type}{p : α -> Prop}{l:List α}{i:Nat}(h:i<l.length)(h1:∀s∈l.take i,p s)(h2:p l[i]):∀s∈l.take (i+1),p s:=by
 intro s hs
 rw[List.take_succ_eq_append_getElem h]at hs
 rcases List.mem_append.1 hs with hs|hs
 ·exact h1 s hs
 ·simp at hs;subst hs;exact h2
theorem k48(f:Frm):FnA Tryz.prog 138 [.agg f.cells] (· = .bool (decide f.ok)):=by
 have hL:(f.ss.map Sec.av).length=f.ss.length:=by simp
 refine fnA 2 ok138 (by simp) ?_
 (conv=>whnf);(repeat'((first|apply bT|apply bF|apply bN|((first|apply bD|apply bEq|apply bNe)<;>intro hh<;>try(exfalso;omega))|refine wJ ?_|refine nJ ?_)<;>conv=>whnf))
 all_goals try (refine congrArg AV.bool (decide_eq_false fun h=>?_).symm;unfold Frm.ok at h;omega)
 refine loop_i (α :=Nat) (fun k=>[(18, .int .i64 k),(17, .int .i64 ↑(f.ss.map Sec.av).length),(16, .isl (f.ss.map Sec.av)),(1, .own 0 0)]) (fun k=>[.box false f.cells, .fresh]) (fun k=>k<=f.ss.length/\∀s∈f.ss.take k,s.ok) (fun k=>f.ss.length-k) 0 mI ⟨by omega,by simp⟩ ?_
 rintro k ⟨h1,h2⟩
 conv=>whnf
 refine bD (fun h3=>?_) (fun h3=>?_)
 ·conv=>whnf
  refine iaI (by omega) (by omega) (getD_map Sec.av f.ss k (by omega)) ?_
  conv=>whnf
  have hk:k<f.ss.length:=by omega
  refine(k70 f.ss[k]).callq rfl rfl (fun r (hr:r=_)=>?_)
  subst hr
  conv=>whnf
  refine bN (bD (fun h4=>?_) (fun h4=>?_))
  ·conv=>whnf
   refine wJ ?_
   exact⟨k+1,mI,⟨by omega,all_take hk h2 h4⟩,by omega⟩
  ·conv=>whnf
   refine congrArg AV.bool (decide_eq_false fun h=>h4 ?_).symm
   exact h.2.2.1 _ (List.getElem_mem hk)
 ·have e:k=f.ss.length:=by omega
  subst e
  rw[List.take_length]at h2
  have hiff:f.ok<->(okSpan f.lo f.hi 200/\okPart f.en f.ed/\(0<=f.rod/\f.rod<=4000)/\(0<=f.cs/\f.cs<=4000)):=⟨fun h=>h.2.2.2,fun h=>⟨by omega,by omega,h2,h⟩⟩
  clear h3 h1 h2
  (conv=>whnf);(repeat'((first|apply bT|apply bF|apply bN|((first|apply bD|apply bEq|apply bNe)<;>intro hh<;>try(exfalso;omega))|refine(k71 _ _ _).cq rfl rfl ?_|refine(k72 _ _).cq rfl rfl ?_|refine(k73 _ _ _).cq rfl rfl ?_|refine wJ ?_|refine nJ ?_)<;>conv=>whnf))
  all_goals (simp[*])
theorem k14(f:Frm):FnA Tryz.prog 125 [.agg f.cells] (· = .int .i64 (if f.ok then 0 else 10)):=by
 refine fnA 2 ok125 (by simp) ?_
 (conv=>whnf);(repeat'((first|apply bT|apply bF|apply bN|((first|apply bD|apply bEq|apply bNe)<;>intro hh)|refine(k48 f).cq rfl rfl ?_|refine wJ ?_|refine nJ ?_)<;>conv=>whnf))
 all_goals simp[*]
theorem k67(f:Frm)(i:Int):FnA Tryz.prog 141 [.agg f.cells, .int .i64 i] (· = .int .i64 (if f.ok then(if 0<=i/\i<f.ss.length then 0 else 1) else 10)):=by
 have hL:(f.ss.map Sec.av).length=f.ss.length:=by simp
 refine fnA 2 ok141 (by simp) ?_
 by_cases hok:f.ok
 ·have h3:=hok.2.1
  (conv=>whnf);(repeat'((first|apply bT|apply bF|apply bN|((first|apply bD|apply bEq|apply bNe)<;>intro hh)|refine(k48 f).cq rfl rfl ?_|refine(k73 _ _ _).cq rfl rfl ?_|refine wJ ?_|refine nJ ?_)<;>conv=>whnf))
  all_goals (simp only[hL]at *)
  all_goals (first|exact absurd hok (by assumption)|skip)
  all_goals (rw[if_pos hok])
  ·rw[if_pos (by omega)]
  ·rw[if_neg (by omega)]
 ·(conv=>whnf);(repeat'((first|apply bT|apply bF|apply bN|((first|apply bD|apply bEq|apply bNe)<;>intro hh)|refine(k48 f).cq rfl rfl ?_|refine(k73 _ _ _).cq rfl rfl ?_|refine wJ ?_|refine nJ ?_)<;>conv=>whnf))
  all_goals (first|exact absurd (by assumption) hok|rw[if_neg hok])
def Frm.pos(f:Frm)(i r:Int):Int:=if f.ok then(if (0<=i/\i<f.ss.length)/\f.lo<=r/\r<=f.hi then 0 else 1) else 10
theorem k52(f:Frm)(i r:Int):FnA Tryz.prog 134 [.agg f.cells, .int .i64 i, .int .i64 r] (· = .int .i64 (f.pos i r)):=by
 refine fnA 2 ok134 (by simp) ?_
 by_cases hok:f.ok
 ·by_cases hi:0<=i/\i<f.ss.length
  ·(conv=>whnf);(repeat'((first|apply bT|apply bF|apply bN|((first|apply bD|apply bEq|apply bNe)<;>intro hh)|refine(k67 f _).cq rfl rfl ?_|refine(k73 _ _ _).cq rfl rfl ?_|refine wJ ?_|refine nJ ?_)<;>conv=>whnf))
   all_goals simp_all[Frm.pos]
   all_goals omega
  ·(conv=>whnf);(repeat'((first|apply bT|apply bF|apply bN|((first|apply bD|apply bEq|apply bNe)<;>intro hh)|refine(k67 f _).cq rfl rfl ?_|refine(k73 _ _ _).cq rfl rfl ?_|refine wJ ?_|refine nJ ?_)<;>conv=>whnf))
   all_goals simp_all[Frm.pos]
   all_goals (rw[if_neg (by omega),if_neg (by omega)])
 ·(conv=>whnf);(repeat'((first|apply bT|apply bF|apply bN|((first|apply bD|apply bEq|apply bNe)<;>intro hh)|refine(k67 f _).cq rfl rfl ?_|refine(k73 _ _ _).cq rfl rfl ?_|refine wJ ?_|refine nJ ?_)<;>conv=>whnf))
  all_goals simp_all[Frm.pos]
theorem tdiv_bd{a n m:Int}(ha:0<=a)(h0:0<=n)(h1:n<=m)(h2:1<=m):0<=(a*n).tdiv m/\(a*n).tdiv m<=a:=by
 have h3:0<=a*n:=Int.mul_nonneg ha h0
 rw[Int.tdiv_eq_ediv_of_nonneg h3]
 refine⟨Int.ediv_nonneg h3 (by omega),?_⟩
 have h4:a*n<=a*m:=Int.mul_le_mul_of_nonneg_left h1 ha
 calc a*n / m<=a*m / m:=Int.ediv_le_ediv (by omega) h4
  _=a:=Int.mul_ediv_cancel _ (by omega)
theorem mul_bd{a b:Int}(A B:Int)(h1:0<=a)(h2:a<=A)(h3:0<=b)(h4:b<=B):0<=a*b/\a*b<=A*B:=
 ⟨Int.mul_nonneg h1 h3,Int.mul_le_mul h2 h4 h3 (by omega)⟩
def dstep(d:Int)(s:Sec):Int:=s.base+(d*s.num).tdiv s.den
def Frm.dist(f:Frm)(i:Nat)(r:Int):Int:=((f.ss.take (i+1)).drop 1).foldl dstep r
theorem dstep_bd{d D:Int}{s:Sec}(h:s.ok)(h0:0<=d)(h1:d<=D):0<=dstep d s/\dstep d s<=D+2000:=by
 obtain⟨_,_,h2,h3⟩:=h
 have:=tdiv_bd h0 h3.2.2.1 h3.2.2.2 h3.1
 unfold dstep;omega
theorem fold_bd{l:List Sec}(h:∀s∈l,s.ok):∀ {d D:Int},0<=d->d<=D->0<=l.foldl dstep d/\l.foldl dstep d<=D+2000*l.length:=by
 induction l with
 |nil=>intro d D h0 h1;simp;omega
 |cons s l ih=>
  intro d D h0 h1
  have h2:=dstep_bd (h s (by simp)) h0 h1
  have:=ih (fun s hs=>h s (by simp[hs])) h2.1 h2.2
  simp only[List.foldl_cons,List.length_cons]
  omega
theorem Frm.dist_bd{f:Frm}(h:f.ok)(i:Nat){r:Int}(h0:0<=r)(h1:r<=2000):0<=f.dist i r/\f.dist i r<=6000:=by
 have h2:=h.2.1
 have h3:∀s∈(f.ss.take (i+1)).drop 1,s.ok:=fun s hs=>h.2.2.1 s (List.mem_of_mem_take (List.mem_of_mem_drop hs))
 have h4:=fold_bd h3 h0 h1
 have h5:((f.ss.take (i+1)).drop 1).length<=2:=by simp;omega
 unfold Frm.dist;omega
theorem k53(f:Frm)(i:Nat)(r:Int)(hok:f.ok)(hi:i<f.ss.length)(h0:0<=r)(h1:r<=2000):FnA Tryz.prog 135 [.agg f.cells, .int .i64 i, .int .i64 r] (· = .int .i64 (f.dist i r)):=by
 have h2:=hok.2.1
 have hL:(f.ss.map Sec.av).length=f.ss.length:=by simp
 generalize hl:(f.ss.take (i+1)).drop 1=l
 have hlo:∀s∈l,s.ok:=fun s hs=>hok.2.2.1 s (List.mem_of_mem_take (List.mem_of_mem_drop (hl ▸ hs)))
 have hll:(l.map Sec.av).length=l.length:=by simp
 have hl2:l.length<=2:=by rw[<- hl];simp;omega
 refine fnA 2 ok135 (by simp) ?_
 (conv=>whnf);(repeat'((first|apply bT|apply bF|apply bN|((first|apply bD|apply bEq|apply bNe)<;>intro hh)|refine wJ ?_|refine nJ ?_)<;>conv=>whnf))
 refine slI (es':=l.map Sec.av) (by omega) (by omega) (by omega) (fun e he=>?_) ?_ ?_
 ·obtain⟨s,_,rfl⟩:=List.mem_map.1 he;rfl
 ·rw[<- hl];simp only[List.map_drop,List.map_take];congr 1
 conv=>whnf
 refine loop_i (α :=Nat) (fun k=>[(17, .int .i64 k),(16, .int .i64 ↑(l.map Sec.av).length),(15, .isl (l.map Sec.av)),(7, .int .i64 ((l.take k).foldl dstep r))]) (fun k=>[.box false f.cells, .fresh]) (fun k=>k<=l.length) (fun k=>l.length-k) 0 mI (by omega) ?_
 intro k hk
 conv=>whnf
 refine bD (fun h3=>?_) (fun h3=>?_)
 ·conv=>whnf
  have hk:k<l.length:=by omega
  refine iaJ (getD_map Sec.av l k hk) ?_
  conv=>whnf
  have hs:=hlo l[k] (List.getElem_mem hk)
  have hf:=fold_bd (l:=l.take k) (fun s hs=>hlo s (List.mem_of_mem_take hs)) h0 h1
  have hkl:(l.take k).length<=2:=by simp;omega
  have hm:=mul_bd 6000 20 hf.1 (by omega) hs.2.2.2.2.2.1 (by have:=hs.2.2.2;unfold okPart at this;omega)
  have ht:=tdiv_bd hf.1 hs.2.2.2.2.2.1 hs.2.2.2.2.2.2 hs.2.2.2.1
  have hd:=hs.2.2.2.1
  have hb:=hs.2.2.1
  have hst:(l.take (k+1)).foldl dstep r=l[k].base+((l.take k).foldl dstep r*l[k].num).tdiv l[k].den:=by
   rw[List.take_succ_eq_append_getElem hk,List.foldl_append];rfl
  (conv=>whnf);(repeat'((first|apply bT|apply bF|apply bN|((first|apply bD|apply bEq|apply bNe)<;>intro hh<;>try(exfalso;omega))|refine wJ ?_|refine nJ ?_)<;>conv=>whnf))
  refine⟨k+1,?_,by omega,by omega⟩
  rw[hst]
  exact mI
 ·conv=>whnf
  have:k=l.length:=by omega
  subst this
  rw[List.take_length,Frm.dist,hl]
def Sec.na(s:Sec):Nat:=(s.ah+1-s.al).toNat
def Sec.nb(s:Sec):Nat:=(s.sh+1-s.sl).toNat
def Sec.side(s:Sec)(k:Nat):Int × Int:=(s.al+((k / s.nb:Nat):Int),s.sl+((k%s.nb:Nat):Int))
def Sec.sides(s:Sec):List (Int × Int):=(List.range (s.na*s.nb)).map s.side
def pairAV(p:Int × Int):List AV:=[.int .i64 p.1, .int .i64 p.2]
theorem side_ij(s:Sec)(i j:Nat)(hj:j<s.nb):s.side (i*s.nb+j)=(s.al+i,s.sl+j):=by
 unfold Sec.side
 have h1:(i*s.nb+j) / s.nb=i:=by
  rw[Nat.mul_comm,Nat.mul_add_div (by omega),Nat.div_eq_of_lt hj];rfl
 have h2:(i*s.nb+j)%s.nb=j:=by
  rw[Nat.mul_comm,Nat.mul_add_mod];exact Nat.mod_eq_of_lt hj
 rw[h1,h2]
theorem sides_get(s:Sec)(i j:Nat)(hi:i<s.na)(hj:j<s.nb):(s.sides.map pairAV)[i*s.nb+j]?=some [.int .i64 (s.al+i), .int .i64 (s.sl+j)]:=by
 have hlt:i*s.nb+j<s.na*s.nb:=by
  have:(i+1)*s.nb<=s.na*s.nb:=Nat.mul_le_mul_right _ hi
  rw[Nat.add_mul]at this;omega
 simp only[Sec.sides,List.map_map,List.getElem?_map,List.getElem?_range hlt,Option.map_some]
 simp only[Function.comp,side_ij s i j hj,pairAV]
theorem sides_len(s:Sec):(s.sides.map pairAV).length=s.na*s.nb:=by simp[Sec.sides]
theorem mem_sides{s:Sec}{p:Int × Int}:p∈s.sides<->(s.al<=p.1/\p.1<=s.ah)/\s.sl<=p.2/\p.2<=s.sh:=by
 simp only[Sec.sides,List.mem_map,List.mem_range]
 constructor
 ·rintro⟨k,hk,rfl⟩
  have hnb:0<s.nb:=by
   cases h:s.nb with
   |zero=>rw[h]at hk;simp at hk
   |succ n=>omega
  have h1:k / s.nb<s.na:=(Nat.div_lt_iff_lt_mul hnb).2 hk
  have h2:=Nat.mod_lt k hnb
  generalize hq:k / s.nb=q at *
  generalize hr:k%s.nb=r at *
  unfold Sec.side
  rw[hq,hr]
  simp only[Sec.na,Sec.nb]at h1 h2
  omega
 ·rintro⟨⟨h1,h2⟩,h3,h4⟩
  have hj:(p.2-s.sl).toNat<s.nb:=by unfold Sec.nb;omega
  have hi:(p.1-s.al).toNat<s.na:=by unfold Sec.na;omega
  refine⟨(p.1-s.al).toNat*s.nb+(p.2-s.sl).toNat,?_,?_⟩
  ·have:((p.1-s.al).toNat+1)*s.nb<=s.na*s.nb:=Nat.mul_le_mul_right _ hi
   rw[Nat.add_mul]at this;omega
  ·rw[side_ij s _ _ hj]
   ext<;>simp<;>omega
theorem i83(s:Sec)(hok:s.ok):ItA Tryz.prog 150 [.ipt s.av] (s.sides.map pairAV):=by
 have h1:=hok.1
 have h2:=hok.2.1
 unfold okSpan at h1 h2
 refine itA 2 ok150 (by simp) ?_
 conv=>whnf
 refine loop_y (α :=Nat) (fun i=>[(3, .int .i64 (s.al+i)),(1, .ipt s.av),(0, .yld)]) (fun i=>[.fresh, .fresh]) (fun i=>⟨[],i*s.nb,false⟩) (fun i=>i<=s.na) (fun i=>s.na-i) 0 ?_ (by omega) ?_
 ·simp only[Int.natCast_zero,Int.add_zero,Nat.zero_mul];exact mI
 intro i hi
 conv=>whnf
 have ena:(s.na:Int)=s.ah+1-s.al:=by unfold Sec.na;omega
 have enb:(s.nb:Int)=s.sh+1-s.sl:=by unfold Sec.nb;omega
 refine bD (fun h3=>?_) (fun h3=>?_)
 ·conv=>whnf
  refine loop_y (α :=Nat) (fun j=>[(4, .int .i64 (s.sl+j)),(3, .int .i64 (s.al+i)),(1, .ipt s.av),(0, .yld)]) (fun j=>[.fresh, .fresh]) (fun j=>⟨[],i*s.nb+j,false⟩) (fun j=>j<=s.nb) (fun j=>s.nb-j) 0 ?_ (by omega) ?_
  ·simp only[Int.natCast_zero,Int.add_zero,Nat.add_zero];exact mI
  intro j hj
  conv=>whnf
  refine bD (fun h4=>?_) (fun h4=>?_)
  ·conv=>whnf
   refine yI rfl (sides_get s i j (by omega) (by omega)) rfl ?_ ?_
   ·conv=>whnf
    refine bN (bT ?_)
    conv=>whnf
    refine wJ ?_
    refine⟨j+1,?_,by omega,by omega⟩
    simp only[Int.natCast_add,Int.natCast_one,<- Int.add_assoc,<- Nat.add_assoc]
    exact mI
   ·conv=>whnf
    refine bN (bF ?_)
    conv=>whnf
    exact .inl rfl
  ·conv=>whnf
   refine wJ ?_
   have:j=s.nb:=by omega
   subst this
   refine⟨i+1,?_,by omega,by omega⟩
   simp only[Int.natCast_add,Int.natCast_one,<- Int.add_assoc,Nat.add_mul,Nat.one_mul]
   exact mI
 ·conv=>whnf
  right
  have:i=s.na:=by omega
  subst this
  rw[sides_len]
theorem k75(s:Sec):FnA Tryz.prog 144 [.agg s.av] (· = .fn 150 [.ipt s.av]):=by
 refine fnA 2 ok144 (by simp) ?_
 (conv=>whnf);(repeat'((first|apply bT|apply bF|apply bN|((first|apply bD|apply bEq|apply bNe)<;>intro hh)|refine wJ ?_|refine nJ ?_)<;>conv=>whnf))
 all_goals rfl
def cosN(d a t:Int):Int:=d*d+a*a-t*t
def cosD(d a:Int):Int:=2*d*a
theorem k74(d a t:Int)(hd:0<=d/\d<=6000)(ha:0<=a/\a<=2000)(ht:0<=t/\t<=2000):FnA Tryz.prog 143 [.int .i64 d, .int .i64 a, .int .i64 t] (· = .agg [.int .i64 (cosN d a t), .int .i64 (cosD d a)]):=by
 have h1:=mul_bd 6000 6000 hd.1 hd.2 hd.1 hd.2
 have h2:=mul_bd 2000 2000 ha.1 ha.2 ha.1 ha.2
 have h3:=mul_bd 2000 2000 ht.1 ht.2 ht.1 ht.2
 have h4:=mul_bd (a:=2*d) 12000 2000 (by omega) (by omega) ha.1 ha.2
 refine fnA 2 ok143 (by simp) ?_
 (conv=>whnf);(repeat'((first|apply bT|apply bF|apply bN|((first|apply bD|apply bEq|apply bNe)<;>intro hh)|refine wJ ?_|refine nJ ?_)<;>conv=>whnf))
 all_goals rfl
theorem cosN_bd{d a t:Int}(hd:0<=d/\d<=6000)(ha:0<=a/\a<=2000)(ht:0<=t/\t<=2000) : -4000000<=cosN d a t/\cosN d a t<=40000000:=by
 have h1:=mul_bd 6000 6000 hd.1 hd.2 hd.1 hd.2
 have h2:=mul_bd 2000 2000 ha.1 ha.2 ha.1 ha.2
 have h3:=mul_bd 2000 2000 ht.1 ht.2 ht.1 ht.2
 unfold cosN;omega
theorem cosD_bd{d a:Int}(hd:0<=d/\d<=6000)(ha:0<=a/\a<=2000):0<=cosD d a/\cosD d a<=24000000:=by
 have h4:=mul_bd (a:=2*d) 12000 2000 (by omega) (by omega) ha.1 ha.2
 unfold cosD;omega
theorem gcd_step{x y:Int}(h1:0<=x)(h2:0<=y):Int.gcd (y%x) x=Int.gcd x y:=by
 obtain⟨n,rfl⟩:=Int.eq_ofNat_of_zero_le h1
 obtain⟨m,rfl⟩:=Int.eq_ofNat_of_zero_le h2
 rw[<- Int.natCast_emod]
 simp only[Int.gcd_natCast_natCast]
 exact(Nat.gcd_rec n m).symm
theorem k77(a b:Int)(ha:0<=a/\a<=1000000000000)(hb:0<=b/\b<=1000000000000):FnA Tryz.prog 146 [.int .i64 a, .int .i64 b] (· = .int .i64 (Int.gcd a b)):=by
 refine fnA 2 ok146 (by simp) ?_
 (conv=>whnf);(repeat'((first|apply bT|apply bF|apply bN|((first|apply bD|apply bEq|apply bNe)<;>intro hh)|refine wJ ?_|refine nJ ?_)<;>conv=>whnf))
 refine loop_i (α :=Int × Int) (fun x=>[(0, .int .i64 x.1),(1, .int .i64 x.2)]) (fun x=>[.fresh, .fresh]) (fun x=>0<=x.1/\0<=x.2/\Int.gcd x.1 x.2=Int.gcd a b) (fun x=>x.1.toNat) (a,b) mI ⟨ha.1,hb.1,rfl⟩ ?_
 rintro⟨x,y⟩ ⟨h1,h2,h3⟩
 simp only at h1 h2 h3
 conv=>whnf
 refine bNe (fun h4=>?_) (fun h4=>?_)
 ·conv=>whnf
  refine nI h4 ?_
  conv=>whnf
  have e:y.tmod x=y%x:=Int.tmod_eq_emod_of_nonneg h2
  have h5:=Int.emod_nonneg y h4
  have h6:=Int.emod_lt_of_pos y (show 0<x by omega)
  refine⟨(y.tmod x,x),mI,⟨by simp only[e];exact h5,h1,?_⟩,?_⟩
  ·simp only[e]
   rw[<- h3];exact gcd_step h1 h2
  ·simp only[e];omega
 ·conv=>whnf
  subst h4
  rw[<- h3]
  simp;omega
def redN(n d:Int):Int:=n.tdiv (Int.gcd n d)
def redD(n d:Int):Int:=d.tdiv (Int.gcd n d)
theorem gcd_max(n d:Int):Int.gcd (max n (0-n)) d=Int.gcd n d:=by
 by_cases h:0<=n
 ·rw[Int.max_eq_left (by omega)]
 ·rw[Int.max_eq_right (by omega),Int.zero_sub,Int.neg_gcd]
theorem gcd_bd{n d:Int}(hd:1<=d):1<=(Int.gcd n d:Int)/\(Int.gcd n d:Int)<=d:=by
 have h1:0<Int.gcd n d:=Int.gcd_pos_of_ne_zero_right n (by omega)
 have h2:=Int.le_of_dvd (by omega) (Int.gcd_dvd_right n d)
 omega
theorem tdiv_abs{a b:Int}(hb:1<=b)(B:Int)(h1 : -B<=a)(h2:a<=B) : -B<=a.tdiv b/\a.tdiv b<=B:=by
 by_cases h:0<=a
 ·rw[Int.tdiv_eq_ediv_of_nonneg h]
  have h3:=Int.ediv_nonneg h (show 0<=b by omega)
  have h4:=Int.ediv_le_self b h
  omega
 ·have e:a.tdiv b = - ((-a) / b):=by
   have:=Int.neg_tdiv (a := -a) (b:=b)
   rw[Int.neg_neg]at this
   rw[this,Int.tdiv_eq_ediv_of_nonneg (by omega)]
  have h3:=Int.ediv_nonneg (show 0 <= -a by omega) (show 0<=b by omega)
  have h4:=Int.ediv_le_self b (show 0 <= -a by omega)
  omega
theorem k58(n d:Int)(hn : -100000000<=n/\n<=100000000)(hd:1<=d/\d<=100000000):FnA Tryz.prog 137 [.agg [.int .i64 n, .int .i64 d]] (· = .agg [.int .i64 (redN n d), .int .i64 (redD n d)]):=by
 have hg:=gcd_bd (n:=n) hd.1
 have h1:=tdiv_abs (a:=n) hg.1 100000000 (by omega) (by omega)
 have h2:=tdiv_abs (a:=d) hg.1 100000000 (by omega) (by omega)
 have hm:max n (0-n)<=100000000/\0<=max n (0-n):=by omega
 refine fnA 2 ok137 (by simp) ?_
 (conv=>whnf);(repeat'((first|apply bT|apply bF|apply bN|((first|apply bD|apply bEq|apply bNe)<;>intro hh)|refine wJ ?_|refine nJ ?_)<;>conv=>whnf))
 refine(k77 (max n (0-n)) d ⟨hm.2,by omega⟩ (by omega)).callq rfl rfl (fun r (hr:r=_)=>?_)
 rw[gcd_max]at hr
 subst hr
 (conv=>whnf);(repeat'((first|apply bT|apply bF|apply bN|((first|apply bD|apply bEq|apply bNe)<;>intro hh)|refine wJ ?_|refine nJ ?_)<;>conv=>whnf))
 all_goals rfl
theorem mul_ab{a b:Int}(A B:Int)(h1 : -A<=a)(h2:a<=A)(h3:0<=b)(h4:b<=B) : -(A*B)<=a*b/\a*b<=A*B:=by
 by_cases h:0<=a
 ·have:=mul_bd A B h h2 h3 h4
  omega
 ·have:=mul_bd (a := -a) A B (by omega) (by omega) h3 h4
  rw[Int.neg_mul]at this
  omega
def knw(s:Sec)(p:Int->Int->Bool):Int:=if s.sides.all (fun q=>p q.1 q.2) then 1 else if s.sides.any (fun q=>p q.1 q.2) then 3 else 2
abbrev FF:=(Int × Int) × (Int × Int)
def cstep(d:Int)(x:FF)(q:Int × Int):FF:=
 (if cosN d q.1 q.2*x.1.2<x.1.1*cosD d q.1 then(cosN d q.1 q.2,cosD d q.1) else x.1,
  if x.2.1*cosD d q.1<cosN d q.1 q.2*x.2.2 then(cosN d q.1 q.2,cosD d q.1) else x.2)
def cosF(s:Sec)(d:Int):FF:=s.sides.foldl (cstep d) ((cosN d s.al s.sl,cosD d s.al),(cosN d s.al s.sl,cosD d s.al))
def fbd(q:Int × Int):Prop:=(-40000000<=q.1/\q.1<=40000000)/\0<=q.2/\q.2<=24000000
theorem cos_fbd{s:Sec}(hok:s.ok){d:Int}(hd:0<=d/\d<=6000){q:Int × Int}(hq:q∈s.sides):fbd (cosN d q.1 q.2,cosD d q.1):=by
 have hm:=mem_sides.1 hq
 have h1:=hok.1
 have h2:=hok.2.1
 unfold okSpan at h1 h2
 have h3:=cosN_bd (d:=d) (a:=q.1) (t:=q.2) hd (by omega) (by omega)
 have h4:=cosD_bd (d:=d) (a:=q.1) hd (by omega)
 unfold fbd;omega
theorem k57(s:Sec)(d:Int)(hok:s.ok)(hd:0<=d/\d<=6000):FnA Tryz.prog 136 [.agg s.av, .int .i64 d] (· = .tup [.agg [.int .i64 (cosF s d).1.1, .int .i64 (cosF s d).1.2], .agg [.int .i64 (cosF s d).2.1, .int .i64 (cosF s d).2.2]]):=by
 have h1:=hok.1
 have h2:=hok.2.1
 unfold okSpan at h1 h2
 have h0:(s.al,s.sl)∈s.sides:=mem_sides.2 ⟨⟨by simp,by simp;omega⟩,by simp,by simp;omega⟩
 have hf0:=cos_fbd hok hd h0
 refine fnA 5 ok136 (by simp) ?_
 (conv=>whnf);(repeat'((first|apply bT|apply bF|apply bN|((first|apply bD|apply bEq|apply bNe)<;>intro hh)|refine(k74 _ _ _ hd (by omega) (by omega)).cq rfl rfl ?_|refine(k75 s).zq rfl rfl ?_|refine wJ ?_|refine nJ ?_)<;>conv=>whnf))
 refine rng_i (α :=FF) (s.sides.map pairAV) [0,1,2,3] [(2, .own 0 0),(3, .own 1 0),(4, .own 2 0),(5, .own 3 0)] (fun x=>[.box false s.av, .box false [.int .i64 d], .box false [.int .i64 x.1.1, .int .i64 x.1.2], .box false [.int .i64 x.2.1, .int .i64 x.2.2], .fresh])
  (fun k x=>x=(s.sides.take k).foldl (cstep d) ((cosN d s.al s.sl,cosD d s.al),(cosN d s.al s.sl,cosD d s.al))/\fbd x.1/\fbd x.2) ((cosN d s.al s.sl,cosD d s.al),(cosN d s.al s.sl,cosD d s.al)) rfl rfl rfl bd150 (i83 s hok) rfl mI rfl ⟨by simp,hf0,hf0⟩ (fun v hv=>by obtain⟨q,_,rfl⟩:=List.mem_map.1 hv;rfl) ?_ ?_
 ·rintro k v ⟨⟨ln,ld⟩,hn,hd'⟩ hv ⟨h3,h4,h5⟩
  obtain⟨q,hq,rfl⟩:∃q,s.sides[k]?=some q/\pairAV q=v:=by simpa using hv
  have hqm:=List.mem_of_getElem? hq
  have hm:=mem_sides.1 hqm
  have hc:=cos_fbd hok hd hqm
  have hst:(s.sides.take (k+1)).foldl (cstep d) ((cosN d s.al s.sl,cosD d s.al),(cosN d s.al s.sl,cosD d s.al))=cstep d ((ln,ld),(hn,hd')) q:=by
   obtain⟨hk,rfl⟩:=List.getElem?_eq_some_iff.1 hq
   rw[List.take_succ_eq_append_getElem hk,List.foldl_append,<- h3];rfl
  clear h3
  simp only[fbd]at h4 h5 hc
  have m1:=mul_ab 40000000 24000000 hc.1.1 hc.1.2 h4.2.1 h4.2.2
  have m2:=mul_ab 40000000 24000000 h4.1.1 h4.1.2 hc.2.1 hc.2.2
  have m3:=mul_ab 40000000 24000000 h5.1.1 h5.1.2 hc.2.1 hc.2.2
  have m4:=mul_ab 40000000 24000000 hc.1.1 hc.1.2 h5.2.1 h5.2.2
  (conv=>whnf);(repeat'((first|apply bT|apply bF|apply bN|((first|apply bD|apply bEq|apply bNe)<;>intro hh)|refine(k74 _ _ _ hd (by omega) (by omega)).cq rfl rfl ?_|refine(k76 (cosN d q.1 q.2) (cosD d q.1) ln ld (by omega) (by omega)).cq rfl rfl ?_|refine(k76 hn hd' (cosN d q.1 q.2) (cosD d q.1) (by omega) (by omega)).cq rfl rfl ?_|refine wJ ?_|refine nJ ?_)<;>conv=>whnf))
  ·rename_i b1
   exact⟨((cosN d q.1 q.2,cosD d q.1),(cosN d q.1 q.2,cosD d q.1)),mI,by rw[hst];simp[cstep,b1,hh],hc,hc⟩
  ·rename_i b1
   exact⟨((cosN d q.1 q.2,cosD d q.1),(hn,hd')),mI,by rw[hst];simp only[cstep,b1,hh,if_true,if_false],hc,h5⟩
  ·rename_i b1
   exact⟨((ln,ld),(cosN d q.1 q.2,cosD d q.1)),mI,by rw[hst];simp only[cstep,b1,hh,if_true,if_false],h4,hc⟩
  ·rename_i b1
   exact⟨((ln,ld),(hn,hd')),mI,by rw[hst];simp only[cstep,b1,hh,if_true,if_false],h4,h5⟩
 ·rintro x ⟨h3,_,_⟩
  have hlen:(s.sides.map pairAV).length=s.sides.length:=by simp
  rw[hlen,List.take_length]at h3
  have h3:x=cosF s d:=h3
  subst h3
  (conv=>whnf);(repeat'((first|apply bT|apply bF|apply bN|((first|apply bD|apply bEq|apply bNe)<;>intro hh)|refine wJ ?_|refine nJ ?_)<;>conv=>whnf))
  all_goals rfl
def bind(d a t en ed:Int):Bool:=decide (d=0)||(!decide (cosN d a t*ed<(ed-en)*cosD d a) || !decide ((0-(ed-en))*cosD d a<cosN d a t*ed))
instance:Inhabited Sec:=⟨⟨0,0,0,0,0,0,0⟩⟩
theorem sec_ok{f:Frm}(hok:f.ok){i:Nat}(hi:i<f.ss.length):(f.ss[i]).ok:=hok.2.2.1 _ (List.getElem_mem hi)
theorem pos_ok{f:Frm}{i r:Int}(h:f.pos i r=0):f.ok/\(0<=i/\i<f.ss.length)/\f.lo<=r/\r<=f.hi/\1<=r/\r<=2000:=by
 unfold Frm.pos at h
 split at h
 ·rename_i hok
  split at h
  ·rename_i h2
   have h3:=hok.2.2.2.1
   unfold okSpan at h3
   exact⟨hok,h2.1,h2.2.1,h2.2.2,by omega,by omega⟩
  ·cases h
 ·cases h
theorem pos_zero{f:Frm}{i r:Int}(hok:f.ok)(hi:0<=i/\i<f.ss.length)(hr:f.lo<=r/\r<=f.hi):f.pos i r=0:=by
 unfold Frm.pos;rw[if_pos hok,if_pos ⟨hi,hr⟩]
def Frm.bnd(f:Frm)(i:Nat)(r:Int):Int:=knw (f.ss.getD i default) (fun a t=>bind (f.dist i r) a t f.en f.ed)
theorem cosF_mem(s:Sec)(d:Int)(h0:(s.al,s.sl)∈s.sides):(∃q∈s.sides,(cosF s d).1=(cosN d q.1 q.2,cosD d q.1))/\∃q∈s.sides,(cosF s d).2=(cosN d q.1 q.2,cosD d q.1):=by
 have key:∀(l:List (Int × Int)) (x:FF),(∀q∈l,q∈s.sides)->(∃q∈s.sides,x.1=(cosN d q.1 q.2,cosD d q.1))->(∃q∈s.sides,x.2=(cosN d q.1 q.2,cosD d q.1))->(∃q∈s.sides,(l.foldl (cstep d) x).1=(cosN d q.1 q.2,cosD d q.1))/\∃q∈s.sides,(l.foldl (cstep d) x).2=(cosN d q.1 q.2,cosD d q.1):=by
  intro l
  induction l with
  |nil=>intro x _ h1 h2;exact⟨h1,h2⟩
  |cons q l ih=>
   intro x hl h1 h2
   refine ih _ (fun q hq=>hl q (by simp[hq])) ?_ ?_
   ·simp only[cstep];split
    ·exact⟨q,hl q (by simp),rfl⟩
    ·exact h1
   ·simp only[cstep];split
    ·exact⟨q,hl q (by simp),rfl⟩
    ·exact h2
 exact key s.sides _ (fun _ h=>h) ⟨_,h0,rfl⟩ ⟨_,h0,rfl⟩
theorem fst_side{s:Sec}(hok:s.ok):(s.al,s.sl)∈s.sides:=by
 have h1:=hok.1
 have h2:=hok.2.1
 unfold okSpan at h1 h2
 exact mem_sides.2 ⟨⟨by simp,by simp;omega⟩,by simp,by simp;omega⟩
theorem cos_rbd{s:Sec}(hok:s.ok){d:Int}(hd:1<=d/\d<=6000){q:Int × Int}(hq:q∈s.sides):(-100000000<=cosN d q.1 q.2/\cosN d q.1 q.2<=100000000)/\1<=cosD d q.1/\cosD d q.1<=100000000:=by
 have h:=cos_fbd hok (d:=d) (by omega) hq
 have hm:=mem_sides.1 hq
 have h1:=hok.1
 unfold okSpan at h1
 have h2:1*1<=d*q.1:=Int.mul_le_mul hd.1 (by omega) (by omega) (by omega)
 unfold fbd at h
 have h3:cosD d q.1=2*(d*q.1):=by unfold cosD;rw[Int.mul_assoc]
 omega
theorem cosF_bd{s:Sec}(hok:s.ok){d:Int}(hd:1<=d/\d<=6000):((-100000000<=(cosF s d).1.1/\(cosF s d).1.1<=100000000)/\1<=(cosF s d).1.2/\(cosF s d).1.2<=100000000)/\(-100000000<=(cosF s d).2.1/\(cosF s d).2.1<=100000000)/\1<=(cosF s d).2.2/\(cosF s d).2.2<=100000000:=by
 obtain⟨⟨q,hq,e⟩,⟨q',hq',e'⟩⟩:=cosF_mem s d (fst_side hok)
 rw[e,e']
 exact⟨cos_rbd hok hd hq,cos_rbd hok hd hq'⟩
def fz:AV:=.agg [.int .i64 0, .int .i64 0]
def fr(q:Int × Int):AV:=.agg [.int .i64 (redN q.1 q.2), .int .i64 (redD q.1 q.2)]
theorem k18(f:Frm)(i:Nat)(r:Int)(h:f.pos i r=0):FnA Tryz.prog 119 [.agg f.cells, .int .i64 i, .int .i64 r] (· = if f.dist i r=0 then .tup [fz,fz, .int .i64 3] else .tup [fr (cosF (f.ss.getD i default) (f.dist i r)).1,fr (cosF (f.ss.getD i default) (f.dist i r)).2, .int .i64 0]):=by
 obtain⟨hok,hi,h1,h2,h3,h4⟩:=pos_ok h
 have hi':i<f.ss.length:=by omega
 have hL:(f.ss.map Sec.av).length=f.ss.length:=by simp
 have hs:=sec_ok hok hi'
 have hd:=Frm.dist_bd hok i (show 0<=r by omega) h4
 have hsec:f.ss.getD i default=f.ss[i]:=by simp[List.getD_eq_getElem?_getD,hi']
 rw[hsec]
 refine fnA 3 ok119 (by simp) ?_
 (conv=>whnf);(repeat'((first|apply bT|apply bF|apply bN|((first|apply bD|apply bEq|apply bNe)<;>intro hh)|refine(k52 f _ _).cq rfl rfl ?_|refine(k53 f i r hok hi' (by omega) h4).cq rfl rfl ?_|refine wJ ?_|refine nJ ?_)<;>conv=>whnf))
 all_goals (first|exact absurd h (by assumption)|skip)
 ·rw[if_pos (by assumption)];rfl
 ·have hne:f.dist i r≠0:=by assumption
  have hb:=cosF_bd hs (d:=f.dist i r) (by omega)
  refine iaJ (getD_map Sec.av f.ss i hi') ?_
  (conv=>whnf);(repeat'((first|apply bT|apply bF|apply bN|((first|apply bD|apply bEq|apply bNe)<;>intro hh)|refine(k57 f.ss[i] _ hs hd).cq rfl rfl ?_|refine(k58 _ _ hb.1.1 hb.1.2).cq rfl rfl ?_|refine(k58 _ _ hb.2.1 hb.2.2).cq rfl rfl ?_|refine wJ ?_|refine nJ ?_)<;>conv=>whnf))
  all_goals (rw[if_neg hne];rfl)
theorem k50(n lo hi:Int):FnA Tryz.prog 94 [.int .i64 n, .int .i64 lo, .int .i64 hi] (· = .bool (decide (lo<=n/\n<=hi))):=by
 refine fnA 2 ok94 (by simp) ?_
 (conv=>whnf);(repeat'((first|apply bT|apply bF|apply bN|((first|apply bD|apply bEq|apply bNe)<;>intro hh<;>try(exfalso;omega))|refine wJ ?_|refine nJ ?_)<;>conv=>whnf))
 all_goals first|rfl|exact congrArg AV.bool (decide_eq_decide.2 (by omega))|exact congrArg AV.bool (decide_eq_true (by omega)).symm|exact congrArg AV.bool (decide_eq_false (by omega)).symm
theorem k49(a b:Int):FnA Tryz.prog 112 [.agg [.int .i64 a, .int .i64 b]] (· = .bool (decide (okSpan a b 6))):=by
 refine fnA 2 ok112 (by simp) ?_
 unfold okSpan
 (conv=>whnf);(repeat'((first|apply bT|apply bF|apply bN|((first|apply bD|apply bEq|apply bNe)<;>intro hh<;>try(exfalso;omega))|refine(k50 _ _ _).cq rfl rfl ?_|refine wJ ?_|refine nJ ?_)<;>conv=>whnf))
 all_goals first|rfl|exact congrArg AV.bool (decide_eq_decide.2 (by omega))|exact congrArg AV.bool (decide_eq_true (by omega)).symm|exact congrArg AV.bool (decide_eq_false (by omega)).symm
theorem k51(a b:Int):FnA Tryz.prog 113 [.agg [.int .i64 a, .int .i64 b]] (· = .bool (decide (okPart a b))):=by
 refine fnA 2 ok113 (by simp) ?_
 unfold okPart
 (conv=>whnf);(repeat'((first|apply bT|apply bF|apply bN|((first|apply bD|apply bEq|apply bNe)<;>intro hh<;>try(exfalso;omega))|refine(k50 _ _ _).cq rfl rfl ?_|refine wJ ?_|refine nJ ?_)<;>conv=>whnf))
 all_goals first|rfl|exact congrArg AV.bool (decide_eq_decide.2 (by omega))|exact congrArg AV.bool (decide_eq_true (by omega)).symm|exact congrArg AV.bool (decide_eq_false (by omega)).symm
theorem k15(f:Frm)(hn:f.ss.length<=1000000000000):FnA Tryz.prog 93 [.agg f.cells] (· = .int .i64 (if f.ok then 0 else 10)):=by
 have hL:(f.ss.map Sec.av).length=f.ss.length:=by simp
 refine fnA 2 ok93 (by simp) ?_
 (conv=>whnf);(repeat'((first|apply bT|apply bF|apply bN|((first|apply bD|apply bEq|apply bNe)<;>intro hh)|refine wJ ?_|refine nJ ?_)<;>conv=>whnf))
 refine loop_i (α :=Nat) (fun k=>[(3, .int .i64 k),(1, .own 0 0)]) (fun k=>[.box false f.cells, .fresh]) (fun k=>k<=f.ss.length/\∀s∈f.ss.take k,s.ok) (fun k=>f.ss.length-k) 0 mI ⟨by omega,by simp⟩ ?_
 rintro k ⟨h1,h2⟩
 conv=>whnf
 refine bD (fun h3=>?_) (fun h3=>?_)
 ·conv=>whnf
  have hk:k<f.ss.length:=by omega
  refine iaJ (getD_map Sec.av f.ss k hk) ?_
  generalize hsk:f.ss[k]=s
  have hms:s∈f.ss:=hsk ▸ List.getElem_mem hk
  by_cases hs:s.ok
  ·obtain⟨s1,s2,s3,s4⟩:=hs
   (conv=>whnf);(repeat'((first|apply bT|apply bF|apply bN|((first|apply bD|apply bEq|apply bNe)<;>intro hh)|refine(k49 _ _).cq rfl rfl ?_|refine(k51 _ _).cq rfl rfl ?_|refine(k50 _ _ _).cq rfl rfl ?_|refine wJ ?_|refine nJ ?_)<;>conv=>whnf))
   all_goals first
    |exact absurd s1 (by assumption)
    |exact absurd s2 (by assumption)
    |exact absurd s3 (by assumption)
    |exact absurd s4 (by assumption)
    |skip
   refine⟨k+1,mI,⟨by omega,all_take hk h2 ?_⟩,by omega⟩
   rw[hsk];exact⟨s1,s2,s3,s4⟩
  ·have hno:¬f.ok:=fun h=>hs (h.2.2.1 s hms)
   rw[if_neg hno]
   (conv=>whnf);(repeat'((first|apply bT|apply bF|apply bN|((first|apply bD|apply bEq|apply bNe)<;>intro hh)|refine(k49 _ _).cq rfl rfl ?_|refine(k51 _ _).cq rfl rfl ?_|refine(k50 _ _ _).cq rfl rfl ?_|refine wJ ?_|refine nJ ?_)<;>conv=>whnf))
   all_goals first
    |rfl
    |(exfalso;refine hs ⟨?_,?_,?_,?_⟩<;>assumption)
 ·have e:k=f.ss.length:=by omega
  subst e
  rw[List.take_length]at h2
  have hiff:f.ok<->(1<=(f.ss.length:Int)/\(f.ss.length:Int)<=3)/\okSpan f.lo f.hi 200/\okPart f.en f.ed/\(0<=f.rod/\f.rod<=4000)/\(0<=f.cs/\f.cs<=4000):=⟨fun h=>⟨⟨by have:=h.1;omega,by have:=h.2.1;omega⟩,h.2.2.2⟩,fun h=>⟨by omega,by omega,h2,h.2⟩⟩
  clear h3 h1 h2
  simp only[hiff,okSpan]
  rw[<- hL]
  (conv=>whnf);(repeat'((first|apply bT|apply bF|apply bN|((first|apply bD|apply bEq|apply bNe)<;>intro hh<;>try(exfalso;omega))|refine(k51 _ _).cq rfl rfl ?_|refine(k50 _ _ _).cq rfl rfl ?_|refine wJ ?_|refine nJ ?_)<;>conv=>whnf))
  all_goals first
   |(rw[if_pos ⟨by assumption,by omega,by assumption,by assumption,by assumption⟩])
   |(rw[if_neg fun h=>?_];first|exact absurd h.2.2.1 (by assumption)|omega)
def Frm.np(f:Frm):Nat:=(f.hi+1-f.lo).toNat
def Frm.poss(f:Frm):List Int:=(List.range f.np).map fun k=>f.hi-(k:Nat)
def Frm.sec(f:Frm)(i:Nat):Sec:=f.ss.getD i default
theorem Frm.sec_eq{f:Frm}{i:Nat}(h:i<f.ss.length):f.sec i=f.ss[i]:=by simp[Frm.sec,List.getD_eq_getElem?_getD,h]
theorem Frm.sec_ok{f:Frm}(hok:f.ok){i:Nat}(h:i<f.ss.length):(f.sec i).ok:=by rw[Frm.sec_eq h];exact Go.Proofs.sec_ok hok h
theorem Frm.sec_get(f:Frm){i:Nat}(h:i<f.ss.length):(f.ss.map Sec.av).getD i []=(f.sec i).av:=by rw[Frm.sec_eq h];exact getD_map Sec.av f.ss i h
def Frm.firstS(f:Frm)(r:Int):Option Nat:=(List.range f.ss.length).find? (fun i=>decide (f.bnd i r≠2))
def Frm.first(f:Frm):Option (Nat × Int):=f.poss.findSome? (fun r=>(f.firstS r).map (fun i=>(i,r)))
def Frm.far(f:Frm):Bool:=decide (40<f.ss.length)||(decide f.ok&&decide (60<=f.hi-f.lo))
def Frm.rdy(f:Frm):Bool := !f.far&&decide f.ok
theorem dist_zero(f:Frm)(r:Int):f.dist 0 r=r:=by
 unfold Frm.dist
 cases f.ss<;>simp
theorem gcd_step2{x y:Int}(h1:0<=x)(h2:0<=y):Int.gcd y (x%y)=Int.gcd x y:=by
 rw[Int.gcd_comm,gcd_step h2 h1,Int.gcd_comm]
theorem k69(n d:Int)(hn : -100000000<=n/\n<=100000000)(hd:1<=d/\d<=100000000):FnA Tryz.prog 103 [.int .i64 n, .int .i64 d] (· = .agg [.int .i64 (redN n d), .int .i64 (redD n d)]):=by
 have hg:=gcd_bd (n:=n) hd.1
 have h1:=tdiv_abs (a:=n) hg.1 100000000 (by omega) (by omega)
 have h2:=tdiv_abs (a:=d) hg.1 100000000 (by omega) (by omega)
 refine fnA 1 ok103 (by simp) ?_
 (conv=>whnf);(repeat'((first|apply bT|apply bF|apply bN|((first|apply bD|apply bEq|apply bNe)<;>intro hh)|refine wJ ?_|refine nJ ?_)<;>conv=>whnf))
 refine loop_i (α :=Int × Int) (fun x=>[(5, .int .i64 x.1),(6, .int .i64 x.2),(0, .int .i64 n),(1, .int .i64 d),(4, .own 0 0)]) (fun x=>[.box false [.int .i64 0, .int .i64 0]]) (fun x=>0<=x.1/\0<=x.2/\Int.gcd x.1 x.2=Int.gcd n d) (fun x=>x.2.toNat) (max n (0-n),d) mI ⟨by simp only;omega,by simp only;omega,gcd_max n d⟩ ?_
 rintro⟨x,y⟩ ⟨h3,h4,h5⟩
 simp only at h3 h4 h5
 conv=>whnf
 refine bNe (fun h6=>?_) (fun h6=>?_)
 ·conv=>whnf
  refine nI h6 ?_
  conv=>whnf
  have e:x.tmod y=x%y:=Int.tmod_eq_emod_of_nonneg h3
  have h7:=Int.emod_nonneg x h6
  have h8:=Int.emod_lt_of_pos x (show 0<y by omega)
  refine⟨(y,x.tmod y),mI,⟨h4,by simp only[e];exact h7,?_⟩,?_⟩
  ·simp only[e];rw[<- h5];exact gcd_step2 h3 h4
  ·simp only[e];omega
 ·conv=>whnf
  subst h6
  have e:x=Int.gcd n d:=by rw[<- h5];simp;omega
  subst e
  have h1' : -100000000<=n.tdiv (((Int.gcd n d:Nat):Int),(0:Int)).fst/\n.tdiv (((Int.gcd n d:Nat):Int),(0:Int)).fst<=100000000:=h1
  have h2' : -100000000<=d.tdiv (((Int.gcd n d:Nat):Int),(0:Int)).fst/\d.tdiv (((Int.gcd n d:Nat):Int),(0:Int)).fst<=100000000:=h2
  have hg':1<=(((Int.gcd n d:Nat):Int),(0:Int)).fst:=hg.1
  (conv=>whnf);(repeat'((first|apply bT|apply bF|apply bN|((first|apply bD|apply bEq|apply bNe)<;>intro hh<;>try(exfalso;omega))|refine wJ ?_|refine nJ ?_)<;>conv=>whnf))
  all_goals rfl
theorem red_eq{n d:Int}(hd:1<=d):n=Int.gcd n d*redN n d/\d=Int.gcd n d*redD n d/\1<=redD n d:=by
 have hg:=gcd_bd (n:=n) hd
 have e1:d=Int.gcd n d*redD n d:=(Int.mul_tdiv_cancel' (Int.gcd_dvd_right n d)).symm
 refine⟨(Int.mul_tdiv_cancel' (Int.gcd_dvd_left n d)).symm,e1,?_⟩
 by_cases h:1<=redD n d
 ·exact h
 ·have:(Int.gcd n d:Int)*redD n d<=0:=Int.mul_nonpos_of_nonneg_of_nonpos (by omega) (by omega)
  omega
theorem red_bd{n d:Int}(hn : -100000000<=n/\n<=100000000)(hd:1<=d/\d<=100000000):(-100000000<=redN n d/\redN n d<=100000000)/\1<=redD n d/\redD n d<=100000000:=by
 have hg:=gcd_bd (n:=n) hd.1
 have h1:=tdiv_abs (a:=n) hg.1 100000000 (by omega) (by omega)
 have h2:=tdiv_abs (a:=d) hg.1 100000000 (by omega) (by omega)
 have h3:=(red_eq (n:=n) hd.1).2.2
 unfold redN redD at *
 omega
theorem cos_bd2{d a t:Int}(hd:1<=d/\d<=6000)(ha:1<=a/\a<=2000)(ht:0<=t/\t<=2000):(-100000000<=cosN d a t/\cosN d a t<=100000000)/\1<=cosD d a/\cosD d a<=100000000:=by
 have h:=cosN_bd (d:=d) (a:=a) (t:=t) (by omega) (by omega) ht
 have h':=cosD_bd (d:=d) (a:=a) (by omega) (by omega)
 have h2:1*1<=d*a:=Int.mul_le_mul hd.1 ha.1 (by omega) (by omega)
 have h3:cosD d a=2*(d*a):=by unfold cosD;rw[Int.mul_assoc]
 omega
theorem k38(d a t:Int)(hd:1<=d/\d<=6000)(ha:1<=a/\a<=2000)(ht:0<=t/\t<=2000):FnA Tryz.prog 74 [.int .i64 d, .agg [.int .i64 a, .int .i64 t]] (· = .tup [fr (cosN d a t,cosD d a), .bool true]):=by
 have h1:=mul_bd (a:=d) (b:=d) 6000 6000 (by omega) hd.2 (by omega) hd.2
 have h2:=mul_bd (a:=a) (b:=a) 2000 2000 (by omega) ha.2 (by omega) ha.2
 have h3:=mul_bd (a:=t) (b:=t) 2000 2000 ht.1 ht.2 ht.1 ht.2
 have h4:=mul_bd (a:=2*d) 12000 2000 (by omega) (by omega) (show 0<=a by omega) ha.2
 have hb:=cos_bd2 hd ha ht
 refine fnA 2 ok74 (by simp) ?_
 (conv=>whnf);(repeat'((first|apply bT|apply bF|apply bN|((first|apply bD|apply bEq|apply bNe)<;>intro hh<;>try(exfalso;omega))|refine(k69 (cosN d a t) (cosD d a) hb.1 hb.2).cq rfl rfl ?_|refine wJ ?_|refine nJ ?_)<;>conv=>whnf))
 all_goals rfl
def Sec.rows(s:Sec)(k:Nat):List (List AV):=((List.range k).map s.side).map pairAV
theorem k36(f:Frm)(i:Nat)(a t:Int)(hok:f.ok)(hi:i<f.ss.length):FnA Tryz.prog 73 [.agg f.cells, .int .i64 i, .agg [.int .i64 a, .int .i64 t]] (· = .bool (decide (((f.sec i).al<=a/\a<=(f.sec i).ah)/\(f.sec i).sl<=t/\t<=(f.sec i).sh))):=by
 have hL:(f.ss.map Sec.av).length=f.ss.length:=by simp
 refine fnA 3 ok73 (by simp) ?_
 (conv=>whnf);(repeat'((first|apply bT|apply bF|apply bN|((first|apply bD|apply bEq|apply bNe)<;>intro hh<;>try(exfalso;omega))|refine wJ ?_|refine nJ ?_)<;>conv=>whnf))
 refine iaJ (f.sec_get hi) ?_
 generalize hS:f.sec ((i:Int).toNat)=s
 have hS':f.sec i=s:=hS
 rw[hS']
 by_cases h:s.al<=a/\a<=s.ah
 ·(conv=>whnf);(repeat'((first|apply bT|apply bF|apply bN|((first|apply bD|apply bEq|apply bNe)<;>intro hh<;>try(exfalso;omega))|refine(k50 _ _ _).cq rfl rfl ?_|refine wJ ?_|refine nJ ?_)<;>conv=>whnf))
  all_goals simp[h]
 ·(conv=>whnf);(repeat'((first|apply bT|apply bF|apply bN|((first|apply bD|apply bEq|apply bNe)<;>intro hh<;>try(exfalso;omega))|refine(k50 _ _ _).cq rfl rfl ?_|refine wJ ?_|refine nJ ?_)<;>conv=>whnf))
  all_goals simp[h]
def cnt(s:Sec)(P:Int->Int->Bool)(k:Nat):Int:=(((s.sides.take k).countP (fun q=>P q.1 q.2):Nat):Int)
def Sec.n(s:Sec):Nat:=s.na*s.nb
theorem sides_n(s:Sec):s.sides.length=s.n:=by simp[Sec.sides,Sec.n]
def cini(s:Sec)(d:Int):FF:=((cosN d s.al s.sl,cosD d s.al),(cosN d s.al s.sl,cosD d s.al))
def cpart(s:Sec)(d:Int)(k:Nat):FF:=(s.sides.take k).foldl (cstep d) (cini s d)
theorem cpart_succ{s:Sec}{d:Int}{k:Nat}{q:Int × Int}(h:s.sides[k]?=some q):cpart s d (k+1)=cstep d (cpart s d k) q:=by
 obtain⟨hk,rfl⟩:=List.getElem?_eq_some_iff.1 h
 unfold cpart
 rw[List.take_succ_eq_append_getElem hk,List.foldl_append];rfl
def bdF(q:Int × Int):Prop:=(-100000000<=q.1/\q.1<=100000000)/\1<=q.2/\q.2<=100000000
theorem cpart_bd{s:Sec}(hok:s.ok){d:Int}(hd:1<=d/\d<=6000):∀k,bdF (cpart s d k).1/\bdF (cpart s d k).2
 |0=>by
  have:=cos_rbd hok hd (fst_side hok)
  exact⟨this,this⟩
 |k+1=>by
  have ih:=cpart_bd hok hd k
  cases h:s.sides[k]? with
  |none=>
   have:cpart s d (k+1)=cpart s d k:=by
    have h':s.sides.length<=k:=List.getElem?_eq_none_iff.1 h
    unfold cpart;rw[List.take_of_length_le (by omega),List.take_of_length_le h']
   rw[this];exact ih
  |some q=>
   rw[cpart_succ h]
   have:=cos_rbd hok hd (List.mem_of_getElem? h)
   unfold cstep
   constructor
   ·simp only;split
    ·exact this
    ·exact ih.1
   ·simp only;split
    ·exact this
    ·exact ih.2
theorem cpart_all(s:Sec)(d:Int):cpart s d s.n=cosF s d:=by
 unfold cpart;rw[List.take_of_length_le (by rw[sides_n];omega)];rfl
def leF(x y:Int × Int):Prop:=x.1*y.2<=y.1*x.2
theorem leF_trans{x y z:Int × Int}(hx:1<=x.2)(hy:1<=y.2)(hz:1<=z.2)(h1:leF x y)(h2:leF y z):leF x z:=by
 unfold leF at *
 have e1:x.1*y.2*z.2<=y.1*x.2*z.2:=Int.mul_le_mul_of_nonneg_right h1 (by omega)
 have e2:y.1*z.2*x.2<=z.1*y.2*x.2:=Int.mul_le_mul_of_nonneg_right h2 (by omega)
 have e3:x.1*z.2*y.2<=z.1*x.2*y.2:=by
  have a1:x.1*z.2*y.2=x.1*y.2*z.2:=Int.mul_right_comm ..
  have a2:y.1*x.2*z.2=y.1*z.2*x.2:=Int.mul_right_comm ..
  have a3:z.1*x.2*y.2=z.1*y.2*x.2:=Int.mul_right_comm ..
  omega
 exact Int.le_of_mul_le_mul_right e3 (by omega)
def cosQ(d:Int)(q:Int × Int):Int × Int:=(cosN d q.1 q.2,cosD d q.1)
theorem cpart_ends{s:Sec}(hok:s.ok){d:Int}(hd:1<=d/\d<=6000):∀k,∀q∈s.sides.take k,leF (cpart s d k).1 (cosQ d q)/\leF (cosQ d q) (cpart s d k).2
 |0,q,h=>by simp at h
 |k+1,q,h=>by
  have ih:=cpart_ends hok hd k
  have hb:=cpart_bd hok hd k
  cases hk:s.sides[k]? with
  |none=>
   have h':s.sides.length<=k:=List.getElem?_eq_none_iff.1 hk
   have e:cpart s d (k+1)=cpart s d k:=by
    unfold cpart;rw[List.take_of_length_le (by omega),List.take_of_length_le h']
   rw[e]
   rw[List.take_of_length_le (by omega)]at h
   rw[List.take_of_length_le h']at ih
   exact ih q h
  |some p=>
   have hpm:=List.mem_of_getElem? hk
   have hpb:bdF (cosQ d p):=cos_rbd hok hd hpm
   rw[cpart_succ hk]
   obtain⟨hk1,rfl⟩:=List.getElem?_eq_some_iff.1 hk
   rw[List.take_succ_eq_append_getElem hk1]at h
   generalize hL:cpart s d k=L at *
   generalize hp:s.sides[k]=p at *
   have hs1:(cstep d L p).1=if cosN d p.1 p.2*L.1.2<L.1.1*cosD d p.1 then cosQ d p else L.1:=rfl
   have hs2:(cstep d L p).2=if L.2.1*cosD d p.1<cosN d p.1 p.2*L.2.2 then cosQ d p else L.2:=rfl
   rw[hs1,hs2]
   rcases List.mem_append.1 h with h|h
   ·have h0:=ih q h
    have hqb:bdF (cosQ d q):=cos_rbd hok hd (List.mem_of_mem_take h)
    constructor
    ·split
     ·rename_i hlt
      exact leF_trans hpb.2.1 hb.1.2.1 hqb.2.1 (show cosN d p.1 p.2*L.1.2<=L.1.1*cosD d p.1 by omega) h0.1
     ·exact h0.1
    ·split
     ·rename_i hlt
      exact leF_trans hqb.2.1 hb.2.2.1 hpb.2.1 h0.2 (show L.2.1*cosD d p.1<=cosN d p.1 p.2*L.2.2 by omega)
     ·exact h0.2
   ·simp at h;subst h
    constructor
    ·split
     ·exact Int.le_refl _
     ·rename_i hlt;show L.1.1*cosD d q.1<=cosN d q.1 q.2*L.1.2;omega
    ·split
     ·exact Int.le_refl _
     ·rename_i hlt;show cosN d q.1 q.2*L.2.2<=L.2.1*cosD d q.1;omega
theorem cosF_ends{s:Sec}(hok:s.ok){d:Int}(hd:1<=d/\d<=6000){q:Int × Int}(hq:q∈s.sides):leF (cosF s d).1 (cosQ d q)/\leF (cosQ d q) (cosF s d).2:=by
 have:=cpart_ends hok hd s.n q (by rw[List.take_of_length_le (by rw[sides_n];omega)];exact hq)
 rwa [cpart_all]at this
def i1(n:Int):List AV:=[.int .i64 n]
def b1(b:Bool):List AV:=[.bool b]
structure Tr where
 L:Int
 ss:List Int
 sh:List Int
def Tr.cells(t:Tr):List AV:=[.int .i64 t.L, .isl (t.ss.map i1), .isl (t.sh.map i1)]
def Tr.ok(t:Tr):Prop:=(0<=t.L/\t.L<=200)/\(3<=t.ss.length/\t.ss.length<=10)/\t.sh.length=t.ss.length/\(∀x∈t.sh,0<=x/\x<=99)/\∀x∈t.ss,0<=x/\x<=99999
structure Gu where
 (F A:Int)
def Gu.av(g:Gu):List AV:=[.int .i64 g.F, .int .i64 g.A]
def Gu.ok(g:Gu)(n:Nat):Prop:=(0<=g.F/\g.F<=99)/\0<=g.A/\g.A<n
def ar(n:Nat)(r:Int):Int:=r%n
theorem ar_bd{n:Nat}(r:Int)(h:0<n):0<=ar n r/\ar n r<n:=by
 unfold ar;exact⟨Int.emod_nonneg _ (by omega),Int.emod_lt_of_pos _ (by omega)⟩
theorem tmod_ar{n:Nat}{r:Int}(h:0<=r+n):(r+n).tmod n=ar n r:=by
 unfold ar;rw[Int.tmod_eq_emod_of_nonneg h,Int.add_emod_right]
def Tr.share(t:Tr)(i:Int):Int:=t.sh.getD i.toNat 0
def Tr.ld(t:Tr)(g:Gu)(i:Int):Int:=g.F*t.L*t.share (ar t.ss.length (i-g.A)) / 100
theorem share_bd{t:Tr}(h:t.ok)(i:Int):0<=t.share i/\t.share i<=99:=by
 unfold Tr.share
 by_cases hi:i.toNat<t.sh.length
 ·rw[List.getD_eq_getElem?_getD,List.getElem?_eq_getElem hi];exact h.2.2.2.1 _ (List.getElem_mem hi)
 ·rw[List.getD_eq_getElem?_getD,List.getElem?_eq_none (by omega)];simp
theorem prod_bd{t:Tr}(h:t.ok){g:Gu}{n:Nat}(hg:g.ok n):(0<=g.F*t.L/\g.F*t.L<=99*200)/\∀x,0<=x->x<=99->0<=g.F*t.L*x/\g.F*t.L*x<=99*200*99:=by
 have h1:=mul_bd 99 200 hg.1.1 hg.1.2 h.1.1 h.1.2
 exact⟨h1,fun x h2 h3=>mul_bd (99*200) 99 h1.1 h1.2 h2 h3⟩
theorem ld_bd{t:Tr}(h:t.ok){g:Gu}{n:Nat}(hg:g.ok n)(i:Int):0<=t.ld g i/\t.ld g i<=19602:=by
 have h1:=share_bd h (ar t.ss.length (i-g.A))
 have h2:=(prod_bd h hg).2 _ h1.1 h1.2
 unfold Tr.ld;omega
theorem g67(t:Tr)(r:Int)(h:t.ok)(h0:0<=r+t.ss.length)(h1:r<=1000):FnA Tryz.prog 124 [.agg t.cells, .int .i64 r] (· = .int .i64 (ar t.ss.length r)):=by
 have hl:=h.2.1
 have hL:(t.ss.map i1).length=t.ss.length:=by simp
 refine fnA 1 ok124 (by simp) ?_
 (conv=>whnf);(repeat'((first|apply bT|apply bF|apply bN|((first|apply bD|apply bEq|apply bNe)<;>intro hh<;>try(exfalso;omega))|refine wJ ?_|refine nJ ?_)<;>conv=>whnf))
 all_goals (simp only[hL];rw[tmod_ar h0])
theorem getD_mapD{α : Type}(f : α -> List AV)(l:List α)(i:Nat)(d : α)(h:i<l.length):(l.map f).getD i []=f (l.getD i d):=by
 simp[List.getD_eq_getElem?_getD,h]
theorem g42(t:Tr)(g:Gu)(i:Int)(h:t.ok)(hg:g.ok t.ss.length)(h0:0<=i)(h1:i<t.ss.length):FnA Tryz.prog 110 [.agg t.cells, .agg g.av, .int .i64 i] (· = .int .i64 (t.ld g i)):=by
 have hl:=h.2.1
 have hsh:=h.2.2.1
 have hA:=hg.2
 have hL:(t.sh.map i1).length=t.sh.length:=by simp
 have hp:=prod_bd h hg
 have hb:=ar_bd (n:=t.ss.length) (i-g.A) (by omega)
 have hs:=share_bd h (ar t.ss.length (i-g.A))
 have hq:=hp.2 _ hs.1 hs.2
 simp only[Tr.share]at hq
 have hdv:=Int.tdiv_eq_ediv_of_nonneg (b:=100) hq.1
 have hdb:0<=(g.F*t.L*t.sh.getD (ar t.ss.length (i-g.A)).toNat 0).tdiv 100/\(g.F*t.L*t.sh.getD (ar t.ss.length (i-g.A)).toNat 0).tdiv 100<=19602:=by rw[hdv];omega
 refine fnA 2 ok110 (by simp) ?_
 (conv=>whnf);(repeat'((first|apply bT|apply bF|apply bN|((first|apply bD|apply bEq|apply bNe)<;>intro hh<;>try(exfalso;omega))|refine(g67 t _ h (by omega) (by omega)).cq rfl rfl ?_|refine wJ ?_|refine nJ ?_)<;>conv=>whnf))
 refine iaI (by omega) (by omega) (getD_mapD i1 t.sh _ 0 (by omega)) ?_
 (conv=>whnf);(repeat'((first|apply bT|apply bF|apply bN|((first|apply bD|apply bEq|apply bNe)<;>intro hh<;>try(exfalso;omega))|refine wJ ?_|refine nJ ?_)<;>conv=>whnf))
 all_goals (show AV.int _ _=_;congr 1)
def sumr(l:Int->Int)(gs:List Bool)(n:Nat)(i s:Int):Nat->Nat->Int
 |0,_=>0
 |k+1,j=>if gs.getD (ar n (i+j*s)).toNat false then l (ar n (i+j*s))+sumr l gs n i s k (j+1) else 0
theorem sumr_bd{l:Int->Int}{B:Int}(hl:∀i,0<=l i/\l i<=B)(hB:0<=B)(gs:List Bool)(n:Nat)(i s:Int):∀k j,0<=sumr l gs n i s k j/\sumr l gs n i s k j<=B*k
 |0,j=>by simp[sumr]
 |k+1,j=>by
  have h1:=hl (ar n (i+j*s))
  have h2:=sumr_bd hl hB gs n i s k (j+1)
  have e:B*((k+1:Nat):Int)=B*k+B:=by rw[Int.natCast_add,Int.mul_add];simp
  have h3:0<=B*(k:Int):=Int.mul_nonneg hB (by omega)
  unfold sumr
  rw[e]
  split<;>omega
def sside(l:Int->Int)(gs:List Bool)(n:Nat)(i s:Int):Int:=sumr l gs n i s (n-1) 1
def hand(l:Int->Int)(gs:List Bool)(n:Nat)(i:Int):Int:=sside l gs n i (-1) / 2+sside l gs n i 1 / 2
def Tr.cond(t:Tr)(g:Gu)(gs:List Bool)(i:Nat):Bool := !gs.getD i false&&decide (t.ss.getD i 0<t.ld g i+hand (t.ld g) gs t.ss.length i)
def n1(i:Nat):List AV:=[.int .i64 i]
def lst(n:Nat)(p:Nat->Bool):List Nat:=(List.range n).filter p
theorem lst_succ(n:Nat)(p:Nat->Bool):lst (n+1) p=if p n then lst n p++[n] else lst n p:=by
 unfold lst;rw[List.range_succ,List.filter_append];simp only[List.filter_cons,List.filter_nil];split<;>simp
theorem lst_le(n:Nat)(p:Nat->Bool):(lst n p).length<=n:=by
 unfold lst;refine Nat.le_trans (List.length_filter_le _ _) ?_;simp
theorem lst_mem{n:Nat}{p:Nat->Bool}{i:Nat}:i∈lst n p<->i<n/\p i=true:=by simp[lst]
theorem n1_flat:∀l:List Nat,AV.flatL ((l.map n1).flatten)=true
 | []=>rfl
 |i::l=>by simp only[List.map_cons,List.flatten_cons,n1,List.cons_append,List.nil_append,AV.flatL,AV.flat,Bool.true_and];exact n1_flat l
theorem g49_2(n:Nat)(f:FuncId)(c1 c2:List AV)(p:Nat->Bool)(hn:n<=1000)(h:∀i:Nat,i<n->FnV Tryz.prog (.fn f [.ipt c1, .ipt c2]) [.int .i64 i] (· = .bool (p i))) :
  FnO Tryz.prog 80 [.int .i64 n, .fn f [.ipt c1, .ipt c2]] (fun r rows=>r = .row 3/\rows=[(3, .row false 3 1 ((lst n p).map n1))]):=by
 refine fnO 4 ok80 (by simp) ?_
 conv=>whnf
 refine loop_i (α :=Nat) (fun k=>[(8, .int .i64 k),(7, .int .i64 n),(5, .row 3),(1, .fn f [.ipt c1, .ipt c2])]) (fun k=>[.fresh, .fresh, .fresh, .row false 3 1 ((lst k p).map n1)]) (fun k=>k<=n) (fun k=>n-k) 0 (mN 3) (by omega) ?_
 intro k hk
 conv=>whnf
 refine bD (fun h3=>?_) (fun h3=>?_)
 ·have hlt:k<n:=by omega
  have hv:=h k hlt
  have hs:=lst_succ k p
  have hlen:=lst_le k p
  conv=>whnf
  refine hv.vcallq rfl rfl rfl rfl (fun r (hr:r=_)=>?_);subst hr
  conv=>whnf
  refine bS (fun h4=>?_) (fun h4=>?_)
  ·rw[if_pos h4]at hs
   conv=>whnf
   refine apI (by simp[AV.one]) (by simp;omega) ?_
   (conv=>whnf);(repeat'((first|apply bT|apply bF|apply bN|((first|apply bD|apply bEq|apply bNe)<;>intro hh<;>try(exfalso;omega))|refine wJ ?_|refine nJ ?_)<;>conv=>whnf))
   refine⟨k+1,?_,by omega,by omega⟩
   have e:(lst (k+1) p).map n1=(lst k p).map n1++[[.int .i64 k]]:=by rw[hs];simp[n1]
   rw[e]
   simp only[Int.natCast_add,Int.natCast_one]
   exact(mR 3 1)
  ·rw[if_neg (by rw[h4];simp)]at hs
   (conv=>whnf);(repeat'((first|apply bT|apply bF|apply bN|((first|apply bD|apply bEq|apply bNe)<;>intro hh<;>try(exfalso;omega))|refine wJ ?_|refine nJ ?_)<;>conv=>whnf))
   refine⟨k+1,?_,by omega,by omega⟩
   rw[hs]
   simp only[Int.natCast_add,Int.natCast_one]
   exact mI
 ·have:k=n:=by omega
  subst this
  (conv=>whnf);(repeat'((first|apply bT|apply bF|apply bN|((first|apply bD|apply bEq|apply bNe)<;>intro hh<;>try(exfalso;omega))|refine wJ ?_|refine nJ ?_)<;>conv=>whnf))
  all_goals exact⟨rfl,rfl⟩
def Tr.go(t:Tr)(g:Gu)(gs:List Bool):List Nat:=lst t.ss.length (t.cond g gs)
def Tr.stp(t:Tr)(g:Gu)(gs:List Bool):List Bool:=(List.range t.ss.length).map fun i=>gs.getD i false||t.cond g gs i
def Tr.G(t:Tr)(g:Gu):Nat->List Bool
 |0=>List.replicate t.ss.length false
 |r+1=>t.stp g (t.G g r)
theorem G_len(t:Tr)(g:Gu):∀r,(t.G g r).length=t.ss.length
 |0=>by simp[Tr.G]
 |r+1=>by simp[Tr.G,Tr.stp]
theorem stp_get{t:Tr}{g:Gu}{gs:List Bool}{i:Nat}(h:i<t.ss.length):(t.stp g gs).getD i false=(gs.getD i false||t.cond g gs i):=by
 simp[Tr.stp,List.getD_eq_getElem?_getD,h]
def Tr.K(t:Tr)(g:Gu):Nat:=((List.range (t.ss.length+1)).find? fun r=>(t.go g (t.G g r)).isEmpty).getD 0
theorem cp_le{p q:Nat->Bool}:∀ {l:List Nat},(∀x∈l,p x=true->q x=true)->l.countP p<=l.countP q:=fun h=>List.countP_mono_left h
theorem cp_lt{p q:Nat->Bool}:∀ {l:List Nat},(∀x∈l,p x=true->q x=true)->∀x∈l,p x=false->q x=true->l.countP p<l.countP q
 | [],_,x,hx,_,_=>by cases hx
 |y::l,h,x,hx,hp,hq=>by
  have h':∀x∈l,p x=true->q x=true:=fun x hx=>h x (by simp[hx])
  rcases List.mem_cons.1 hx with rfl|hx
  ·rw[List.countP_cons_of_neg (by rw[hp];simp),List.countP_cons_of_pos hq]
   have:=cp_le h';omega
  ·have ih:=cp_lt h' x hx hp hq
   by_cases hy:p y=true
   ·rw[List.countP_cons_of_pos hy,List.countP_cons_of_pos (h y (by simp) hy)];omega
   ·rw[List.countP_cons_of_neg hy]
    by_cases hy2:q y=true
    ·rw[List.countP_cons_of_pos hy2];omega
    ·rw[List.countP_cons_of_neg hy2];omega
theorem go_mem{t:Tr}{g:Gu}{gs:List Bool}{i:Nat}:i∈t.go g gs<->i<t.ss.length/\t.cond g gs i=true:=lst_mem
theorem cond_new{t:Tr}{g:Gu}{gs:List Bool}{i:Nat}(h:t.cond g gs i=true):gs.getD i false=false:=by
 unfold Tr.cond at h;simp only[Bool.and_eq_true,Bool.not_eq_true']at h;exact h.1
theorem cnt_le(t:Tr)(g:Gu):∀k,(∀r<k,t.go g (t.G g r)≠[])->k<=(List.range t.ss.length).countP fun i=>(t.G g k).getD i false
 |0,_=>by omega
 |k+1,h=>by
  have ih:=cnt_le t g k fun r hr=>h r (by omega)
  have hne:=h k (by omega)
  obtain⟨i,hi⟩:=List.exists_mem_of_ne_nil _ hne
  rw[go_mem]at hi
  have:=cp_lt (l:=List.range t.ss.length) (p:=fun i=>(t.G g k).getD i false) (q:=fun i=>(t.G g (k+1)).getD i false) (fun x hx hp=>by
   have hx':x<t.ss.length:=by simpa using hx
   show(t.stp g (t.G g k)).getD x false=true
   rw[stp_get hx'];rw[hp];rfl) i (by simpa using hi.1) (cond_new hi.2) (by
   show(t.stp g (t.G g k)).getD i false=true
   rw[stp_get hi.1,hi.2];simp)
  omega
theorem K_ok(t:Tr)(g:Gu):(∀r<t.K g,t.go g (t.G g r)≠[])/\t.go g (t.G g (t.K g))=[]/\t.K g<=t.ss.length:=by
 cases hf:(List.range (t.ss.length+1)).find? fun r=>(t.go g (t.G g r)).isEmpty with
 |some k=>
  have hk:t.K g=k:=by unfold Tr.K;rw[hf];rfl
  rw[List.find?_range_eq_some]at hf
  rw[hk]
  refine⟨fun r hr e=>?_,by simpa using hf.1,by have:=hf.2.1;simp at this;omega⟩
  have:=hf.2.2 r hr
  rw[e]at this;simp at this
 |none=>
  rw[List.find?_eq_none]at hf
  have hne:∀r,r<=t.ss.length->t.go g (t.G g r)≠[]:=fun r hr e=>by
   have:=hf r (by simp;omega)
   rw[e]at this;simp at this
  have h1:=cnt_le t g t.ss.length fun r hr=>hne r (by omega)
  obtain⟨i,hi⟩:=List.exists_mem_of_ne_nil _ (hne t.ss.length (by omega))
  rw[go_mem]at hi
  have h2:(List.range t.ss.length).countP (fun i=>(t.G g t.ss.length).getD i false)<(List.range t.ss.length).length:=by
   rw[List.countP_eq_length_filter]
   refine Nat.lt_of_le_of_ne (List.length_filter_le _ _) fun e=>?_
   have:=List.length_filter_eq_length_iff.1 e i (by simpa using hi.1)
   rw[cond_new hi.2]at this;cases this
  rw[List.length_range]at h2;omega
def Tr.gone(t:Tr)(g:Gu):List Nat:=lst t.ss.length fun i=>(t.G g (t.K g)).getD i false
def Tr.tw(t:Tr)(g:Gu)(i:Nat):Bool:=decide (t.ss.getD i 0<t.ld g i)
def Tr.weak(t:Tr)(g:Gu):List Nat:=lst t.ss.length (t.tw g)
theorem g53(t:Tr)(g:Gu)(i:Nat)(h:t.ok)(hg:g.ok t.ss.length)(h1:i<t.ss.length):FnA Tryz.prog 84 [.agg t.cells, .agg g.av, .int .i64 i] (· = .bool (t.tw g i)):=by
 have hL2:(t.ss.map i1).length=t.ss.length:=by simp
 refine fnA 2 ok84 (by simp) ?_
 (conv=>whnf);(repeat'((first|apply bT|apply bF|apply bN|((first|apply bD|apply bEq|apply bNe)<;>intro hh<;>try(exfalso;omega))|refine wJ ?_|refine nJ ?_)<;>conv=>whnf))
 refine iaI (by omega) (by omega) (getD_mapD i1 t.ss _ 0 (by omega)) ?_
 simp only[Int.toNat_natCast]
 (conv=>whnf);(repeat'((first|apply bT|apply bF|apply bN|((first|apply bD|apply bEq|apply bNe)<;>intro hh<;>try(exfalso;omega))|refine(g42 t g _ h hg (by omega) (by omega)).cq rfl rfl ?_|refine wJ ?_|refine nJ ?_)<;>conv=>whnf))
 all_goals rfl
theorem g72(t:Tr)(g:Gu)(i:Nat)(h:t.ok)(hg:g.ok t.ss.length)(h1:i<t.ss.length):FnA Tryz.prog 139 [.int .i64 i, .ipt t.cells, .ipt g.av] (· = .bool (t.tw g i)):=by
 refine fnA 0 ok139 (by simp) ?_
 (conv=>whnf);(repeat'((first|apply bT|apply bF|apply bN|((first|apply bD|apply bEq|apply bNe)<;>intro hh<;>try(exfalso;omega))|refine(g53 t g i h hg h1).cq rfl rfl ?_|refine wJ ?_|refine nJ ?_)<;>conv=>whnf))
 all_goals rfl
theorem g45(t:Tr)(g:Gu)(h:t.ok)(hg:g.ok t.ss.length):FnO Tryz.prog 131 [.agg t.cells, .agg g.av] (fun r rows=>r = .row 2/\rows=[(2, .row false 3 1 ((t.weak g).map n1))]):=by
 have hl:=h.2.1
 have hL2:(t.ss.map i1).length=t.ss.length:=by simp
 refine fnO 3 ok131 (by simp) ?_
 (conv=>whnf);(repeat'((first|apply bT|apply bF|apply bN|((first|apply bD|apply bEq|apply bNe)<;>intro hh<;>try(exfalso;omega))|refine wJ ?_|refine nJ ?_)<;>conv=>whnf))
 have hc:FnO Tryz.prog 80 [.int .i64 (t.ss.map i1).length, .fn 139 [.ipt t.cells, .ipt g.av]] (fun r' rows=>r' = .row 3/\rows=[(3, .row false 3 1 ((t.weak g).map n1))]):=by
  have:=g49_2 (t.ss.map i1).length 139 t.cells g.av (t.tw g) (by omega) (fun i hi=>fnV_of bd139 (g72 t g i h hg (by omega)))
  rwa [show lst (t.ss.map i1).length (t.tw g)=t.weak g from by rw[hL2];rfl]at this
 refine hc.callmq rfl (fun r' rows (hr:r'=_/\rows=_)=>?_);obtain⟨hr1,hr2⟩:=hr;subst hr1;subst hr2
 refine⟨rfl,by simp[flatRB,n1_flat],rfl,?_⟩
 (conv=>whnf);(repeat'((first|apply bT|apply bF|apply bN|((first|apply bD|apply bEq|apply bNe)<;>intro hh<;>try(exfalso;omega))|refine wJ ?_|refine nJ ?_)<;>conv=>whnf))
 all_goals exact⟨rfl,rfl⟩
theorem g71(t:Tr)(g:Gu)(h:t.ok)(hg:g.ok t.ss.length):FnA Tryz.prog 130 [.agg g.av, .ipt t.cells] (· = .bool (t.weak g).isEmpty):=by
 refine fnA 2 ok130 (by simp) ?_
 (conv=>whnf);(repeat'((first|apply bT|apply bF|apply bN|((first|apply bD|apply bEq|apply bNe)<;>intro hh<;>try(exfalso;omega))|refine wJ ?_|refine nJ ?_)<;>conv=>whnf))
 refine(g45 t g h hg).callmq rfl (fun r' rows (hr:r'=_/\rows=_)=>?_);obtain⟨hr1,hr2⟩:=hr;subst hr1;subst hr2
 refine⟨rfl,by simp[flatRB,n1_flat],rfl,?_⟩
 (conv=>whnf);(repeat'((first|apply bT|apply bF|apply bN|((first|apply bD|apply bEq|apply bNe)<;>intro hh<;>try(exfalso;omega))|refine wJ ?_|refine nJ ?_)<;>conv=>whnf))
 all_goals (congr 1;cases t.weak g<;>simp<;>omega)
theorem gtake_all{α : Type}{l:List α}{p : α -> Bool}{k:Nat}(hk:k<l.length)(h:∀g∈l.take k,p g=true)(h2:p l[k]=true):∀g∈l.take (k+1),p g=true:=by
 intro g hg
 rw[List.take_succ_eq_append_getElem hk,List.mem_append]at hg
 rcases hg with hg|hg
 ·exact h g hg
 ·simp at hg;rw[hg];exact h2
theorem all_false{α : Type}{l:List α}{p : α -> Bool}{k:Nat}(hk:k<l.length)(h2:p l[k]=false):l.all p=false:=by
 rw[Bool.eq_false_iff];intro h;rw[List.all_eq_true]at h
 have:=h _ (List.getElem_mem hk);rw[h2]at this;cases this
theorem g70(l:List Gu)(f:FuncId)(c:List AV)(p:Gu->Bool)(hn:l.length<=1000)(h:∀g∈l,FnV Tryz.prog (.fn f [.ipt c]) [.agg g.av] (· = .bool (p g))) :
  FnA Tryz.prog 123 [.isl (l.map Gu.av), .fn f [.ipt c]] (· = .bool (l.all p)):=by
 have hL:(l.map Gu.av).length=l.length:=by simp
 refine fnA 1 ok123 (by simp) ?_
 conv=>whnf
 refine loop_i (α :=Nat) (fun k=>[(9, .int .i64 k),(8, .int .i64 (l.map Gu.av).length),(7, .isl (l.map Gu.av)),(1, .fn f [.ipt c])]) (fun _=>[.fresh]) (fun k=>k<=l.length/\∀g∈l.take k,p g=true) (fun k=>l.length-k) 0 mI ⟨by omega,by simp⟩ ?_
 rintro k ⟨hk,hp⟩
 conv=>whnf
 refine bD (fun h3=>?_) (fun h3=>?_)
 ·have hlt:k<l.length:=by omega
  have hv:=h l[k] (List.getElem_mem hlt)
  (conv=>whnf);(repeat'((first|apply bT|apply bF|apply bN|((first|apply bD|apply bEq|apply bNe)<;>intro hh<;>try(exfalso;omega))|refine iaJ (getD_map Gu.av l k hlt) ?_|refine wJ ?_|refine nJ ?_)<;>conv=>whnf))
  refine hv.vcallq rfl rfl rfl rfl (fun r (hr:r=_)=>?_);subst hr
  conv=>whnf
  refine bS (fun h4=>?_) (fun h4=>?_)
  ·(conv=>whnf);(repeat'((first|apply bT|apply bF|apply bN|((first|apply bD|apply bEq|apply bNe)<;>intro hh<;>try(exfalso;omega))|refine wJ ?_|refine nJ ?_)<;>conv=>whnf))
   all_goals (congr 1;exact(all_false hlt (by simpa using h4)).symm)
  ·(conv=>whnf);(repeat'((first|apply bT|apply bF|apply bN|((first|apply bD|apply bEq|apply bNe)<;>intro hh<;>try(exfalso;omega))|refine wJ ?_|refine nJ ?_)<;>conv=>whnf))
   refine⟨k+1,?_,⟨by omega,gtake_all hlt hp (by simpa using h4)⟩,by omega⟩
   simp only[Int.natCast_add,Int.natCast_one]
   exact mI
 ·have:k=l.length:=by omega
  subst this
  (conv=>whnf);(repeat'((first|apply bT|apply bF|apply bN|((first|apply bD|apply bEq|apply bNe)<;>intro hh<;>try(exfalso;omega))|refine wJ ?_|refine nJ ?_)<;>conv=>whnf))
  all_goals (rw[List.take_length]at hp;congr 1;exact(List.all_eq_true.2 hp).symm)
theorem g44(t:Tr)(l:List Gu)(h:t.ok)(hn:l.length<=1000)(hl:∀g∈l,g.ok t.ss.length):FnA Tryz.prog 116 [.agg t.cells, .isl (l.map Gu.av)] (· = .bool (l.all fun g=>(t.weak g).isEmpty)):=by
 refine fnA 1 ok116 (by simp) ?_
 have hc:=g70 l 130 t.cells (fun g=>(t.weak g).isEmpty) hn (fun g hg=>fnV_of bd130 (g71 t g h (hl g hg)))
 (conv=>whnf);(repeat'((first|apply bT|apply bF|apply bN|((first|apply bD|apply bEq|apply bNe)<;>intro hh<;>try(exfalso;omega))|refine hc.lq rfl rfl ?_|refine wJ ?_|refine nJ ?_)<;>conv=>whnf))
 all_goals rfl
def s2(p:Int × Int):List AV:=[.int .i64 p.1, .int .i64 p.2]
structure Dm where
 f:Frm
 rs:List (Int × Int)
 sh:List Int
def Dm.cells(d:Dm):List AV:=[.isl (d.f.ss.map Sec.av), .int .i64 d.f.lo, .int .i64 d.f.hi, .int .i64 d.f.en, .int .i64 d.f.ed, .int .i64 d.f.rod, .int .i64 d.f.cs, .isl (d.rs.map s2), .isl (d.sh.map i1)]
def okRib(p:Int × Int):Prop:=(0<=p.1/\p.1<=p.2)/\p.2<=99999
instance (p:Int × Int):Decidable (okRib p):=by unfold okRib;infer_instance
def okSh(x:Int):Prop:=0<=x/\x<=99
instance (x:Int):Decidable (okSh x):=by unfold okSh;infer_instance
def Dm.okB(d:Dm):Bool:=decide d.f.ok&&(decide (3<=d.rs.length)&&decide (d.rs.length<=10))&&(d.rs.all fun p=>decide (okRib p))&&decide (d.sh.length=d.rs.length)&&d.sh.all fun x=>decide (okSh x)
instance (g:Gu) (n:Nat):Decidable (g.ok n):=by unfold Gu.ok;infer_instance
def okGu(n:Nat)(g:Gu):Bool:=decide (g.ok n)
theorem g86(n lo hi:Int):FnA Tryz.prog 122 [.int .i64 n, .int .i64 lo, .int .i64 hi] (· = .bool (decide (lo<=n/\n<=hi))):=by
 refine fnA 2 ok122 (by simp) ?_
 (conv=>whnf);(repeat'((first|apply bT|apply bF|apply bN|((first|apply bD|apply bEq|apply bNe)<;>intro hh<;>try(exfalso;omega))|refine wJ ?_|refine nJ ?_)<;>conv=>whnf))
 all_goals first|rfl|exact congrArg AV.bool (decide_eq_decide.2 (by omega))|exact congrArg AV.bool (decide_eq_true (by omega)).symm|exact congrArg AV.bool (decide_eq_false (by omega)).symm
theorem g88(p:Int × Int):FnA Tryz.prog 127 [.agg (s2 p)] (· = .bool (decide (okRib p))):=by
 refine fnA 2 ok127 (by simp) ?_
 unfold okRib
 (conv=>whnf);(repeat'((first|apply bT|apply bF|apply bN|((first|apply bD|apply bEq|apply bNe)<;>intro hh<;>try(exfalso;omega))|refine(g86 _ _ _).cq rfl rfl ?_|refine wJ ?_|refine nJ ?_)<;>conv=>whnf))
 all_goals first|rfl|exact congrArg AV.bool (decide_eq_decide.2 (by omega))|exact congrArg AV.bool (decide_eq_true (by omega)).symm|exact congrArg AV.bool (decide_eq_false (by omega)).symm
theorem g90(x:Int):FnA Tryz.prog 129 [.int .i64 x] (· = .bool (decide (okSh x))):=by
 refine fnA 2 ok129 (by simp) ?_
 unfold okSh
 (conv=>whnf);(repeat'((first|apply bT|apply bF|apply bN|((first|apply bD|apply bEq|apply bNe)<;>intro hh<;>try(exfalso;omega))|refine(g86 _ _ _).cq rfl rfl ?_|refine wJ ?_|refine nJ ?_)<;>conv=>whnf))
 all_goals first|rfl|exact congrArg AV.bool (decide_eq_decide.2 (by omega))|exact congrArg AV.bool (decide_eq_true (by omega)).symm|exact congrArg AV.bool (decide_eq_false (by omega)).symm
theorem g91(d:Dm)(g:Gu)(hn:d.rs.length<=1000):FnA Tryz.prog 121 [.agg g.av, .ipt d.cells] (· = .bool (okGu d.rs.length g)):=by
 have hL:(d.rs.map s2).length=d.rs.length:=by simp
 refine fnA 2 ok121 (by simp) ?_
 unfold okGu Gu.ok
 (conv=>whnf);(repeat'((first|apply bT|apply bF|apply bN|((first|apply bD|apply bEq|apply bNe)<;>intro hh<;>try(exfalso;omega))|refine(g86 _ _ _).cq rfl rfl ?_|refine wJ ?_|refine nJ ?_)<;>conv=>whnf))
 all_goals first|rfl|exact congrArg AV.bool (decide_eq_decide.2 (by omega))|exact congrArg AV.bool (decide_eq_true (by omega)).symm|exact congrArg AV.bool (decide_eq_false (by omega)).symm
theorem g87(l:List (Int × Int))(hn:l.length<=1000):FnA Tryz.prog 126 [.isl (l.map s2), .fn 127 []] (· = .bool (l.all fun p=>decide (okRib p))):=by
 have hL:(l.map s2).length=l.length:=by simp
 refine fnA 1 ok126 (by simp) ?_
 conv=>whnf
 refine loop_i (α :=Nat) (fun k=>[(9, .int .i64 k),(8, .int .i64 (l.map s2).length),(7, .isl (l.map s2)),(1, .fn 127 [])]) (fun _=>[.fresh]) (fun k=>k<=l.length/\∀g∈l.take k,decide (okRib g)=true) (fun k=>l.length-k) 0 mI ⟨by omega,by simp⟩ ?_
 rintro k ⟨hk,hp⟩
 conv=>whnf
 refine bD (fun h3=>?_) (fun h3=>?_)
 ·have hlt:k<l.length:=by omega
  have hv:FnV Tryz.prog (.fn 127 []) [.agg (s2 l[k])] (· = .bool (decide (okRib l[k]))):=fnV_of bd127 (g88 l[k])
  (conv=>whnf);(repeat'((first|apply bT|apply bF|apply bN|((first|apply bD|apply bEq|apply bNe)<;>intro hh<;>try(exfalso;omega))|refine iaJ (getD_map s2 l k hlt) ?_|refine wJ ?_|refine nJ ?_)<;>conv=>whnf))
  refine hv.vcallq rfl rfl rfl rfl (fun r (hr:r=_)=>?_);subst hr
  conv=>whnf
  refine bS (fun h4=>?_) (fun h4=>?_)
  ·(conv=>whnf);(repeat'((first|apply bT|apply bF|apply bN|((first|apply bD|apply bEq|apply bNe)<;>intro hh<;>try(exfalso;omega))|refine wJ ?_|refine nJ ?_)<;>conv=>whnf))
   all_goals (congr 1;exact(all_false (p:=fun p=>decide (okRib p)) hlt (by simpa using h4)).symm)
  ·(conv=>whnf);(repeat'((first|apply bT|apply bF|apply bN|((first|apply bD|apply bEq|apply bNe)<;>intro hh<;>try(exfalso;omega))|refine wJ ?_|refine nJ ?_)<;>conv=>whnf))
   refine⟨k+1,?_,⟨by omega,gtake_all (p:=fun p=>decide (okRib p)) hlt hp (by simpa using h4)⟩,by omega⟩
   simp only[Int.natCast_add,Int.natCast_one]
   exact mI
 ·have:k=l.length:=by omega
  subst this
  (conv=>whnf);(repeat'((first|apply bT|apply bF|apply bN|((first|apply bD|apply bEq|apply bNe)<;>intro hh<;>try(exfalso;omega))|refine wJ ?_|refine nJ ?_)<;>conv=>whnf))
  all_goals (rw[List.take_length]at hp;congr 1;exact(List.all_eq_true.2 hp).symm)
theorem g89(l:List Int)(hn:l.length<=1000):FnA Tryz.prog 128 [.isl (l.map i1), .fn 129 []] (· = .bool (l.all fun p=>decide (okSh p))):=by
 have hL:(l.map i1).length=l.length:=by simp
 refine fnA 1 ok128 (by simp) ?_
 conv=>whnf
 refine loop_i (α :=Nat) (fun k=>[(9, .int .i64 k),(8, .int .i64 (l.map i1).length),(7, .isl (l.map i1)),(1, .fn 129 [])]) (fun _=>[.fresh]) (fun k=>k<=l.length/\∀g∈l.take k,decide (okSh g)=true) (fun k=>l.length-k) 0 mI ⟨by omega,by simp⟩ ?_
 rintro k ⟨hk,hp⟩
 conv=>whnf
 refine bD (fun h3=>?_) (fun h3=>?_)
 ·have hlt:k<l.length:=by omega
  have hv:FnV Tryz.prog (.fn 129 []) [.int .i64 l[k]] (· = .bool (decide (okSh l[k]))):=fnV_of bd129 (g90 l[k])
  (conv=>whnf);(repeat'((first|apply bT|apply bF|apply bN|((first|apply bD|apply bEq|apply bNe)<;>intro hh<;>try(exfalso;omega))|refine iaJ (getD_map i1 l k hlt) ?_|refine wJ ?_|refine nJ ?_)<;>conv=>whnf))
  refine hv.vcallq rfl rfl rfl rfl (fun r (hr:r=_)=>?_);subst hr
  conv=>whnf
  refine bS (fun h4=>?_) (fun h4=>?_)
  ·(conv=>whnf);(repeat'((first|apply bT|apply bF|apply bN|((first|apply bD|apply bEq|apply bNe)<;>intro hh<;>try(exfalso;omega))|refine wJ ?_|refine nJ ?_)<;>conv=>whnf))
   all_goals (congr 1;exact(all_false (p:=fun p=>decide (okSh p)) hlt (by simpa using h4)).symm)
  ·(conv=>whnf);(repeat'((first|apply bT|apply bF|apply bN|((first|apply bD|apply bEq|apply bNe)<;>intro hh<;>try(exfalso;omega))|refine wJ ?_|refine nJ ?_)<;>conv=>whnf))
   refine⟨k+1,?_,⟨by omega,gtake_all (p:=fun p=>decide (okSh p)) hlt hp (by simpa using h4)⟩,by omega⟩
   simp only[Int.natCast_add,Int.natCast_one]
   exact mI
 ·have:k=l.length:=by omega
  subst this
  (conv=>whnf);(repeat'((first|apply bT|apply bF|apply bN|((first|apply bD|apply bEq|apply bNe)<;>intro hh<;>try(exfalso;omega))|refine wJ ?_|refine nJ ?_)<;>conv=>whnf))
  all_goals (rw[List.take_length]at hp;congr 1;exact(List.all_eq_true.2 hp).symm)
theorem g64(d:Dm)(hn:d.rs.length<=1000)(hs:d.sh.length<=1000):FnA Tryz.prog 111 [.agg d.cells] (· = .bool d.okB):=by
 have hL:(d.rs.map s2).length=d.rs.length:=by simp
 have hL2:(d.sh.map i1).length=d.sh.length:=by simp
 have c1:=g87 d.rs hn
 have c2:=g89 d.sh hs
 unfold Dm.okB
 generalize (d.rs.all fun p=>decide (okRib p))=B1 at c1⊢
 generalize (d.sh.all fun x=>decide (okSh x))=B2 at c2⊢
 refine fnA 1 ok111 (by simp) ?_
 by_cases hok:d.f.ok
 ·have hk:=k14 d.f
  rw[if_pos hok]at hk
  (conv=>whnf);(repeat'((first|apply bT|apply bF|apply bN|((first|apply bD|apply bEq|apply bNe)<;>intro hh<;>try(exfalso;omega))|refine hk.cq rfl rfl ?_|refine(g86 _ _ _).cq rfl rfl ?_|refine c1.cq rfl rfl ?_|refine c2.cq rfl rfl ?_|refine wJ ?_|refine nJ ?_|(refine bS ?_ ?_<;>intro hh))<;>conv=>whnf))
  all_goals (clear c1 c2 hk;cases B1<;>cases B2<;>simp_all<;>omega)
 ·have hk:=k14 d.f
  rw[if_neg hok]at hk
  (conv=>whnf);(repeat'((first|apply bT|apply bF|apply bN|((first|apply bD|apply bEq|apply bNe)<;>intro hh<;>try(exfalso;omega))|refine hk.cq rfl rfl ?_|refine wJ ?_|refine nJ ?_)<;>conv=>whnf))
  all_goals (simp[hok])
theorem okB_iff{d:Dm}:d.okB=true<->d.f.ok/\(3<=d.rs.length/\d.rs.length<=10)/\(∀p∈d.rs,okRib p)/\d.sh.length=d.rs.length/\∀x∈d.sh,okSh x:=by
 unfold Dm.okB
 simp only[Bool.and_eq_true,decide_eq_true_eq,List.all_eq_true,and_assoc]
def Dm.err(d:Dm):Int:=if d.okB then 0 else 50
theorem g39(d:Dm)(hn:d.rs.length<=1000)(hs:d.sh.length<=1000):FnA Tryz.prog 86 [.agg d.cells] (· = .int .i64 d.err):=by
 have hc:=g64 d hn hs
 unfold Dm.err
 refine fnA 1 ok86 (by simp) ?_
 cases hb:d.okB<;>rw[hb]at hc
 ·(conv=>whnf);(repeat'((first|apply bT|apply bF|apply bN|((first|apply bD|apply bEq|apply bNe)<;>intro hh<;>try(exfalso;omega))|refine hc.cq rfl rfl ?_|refine wJ ?_|refine nJ ?_)<;>conv=>whnf))
  all_goals simp
 ·(conv=>whnf);(repeat'((first|apply bT|apply bF|apply bN|((first|apply bD|apply bEq|apply bNe)<;>intro hh<;>try(exfalso;omega))|refine hc.cq rfl rfl ?_|refine wJ ?_|refine nJ ?_)<;>conv=>whnf))
  all_goals simp
def okCl(n:Nat)(l:List Gu):Bool:=decide (l.length<=20)&&l.all (okGu n)
def Dm.errC(d:Dm)(l:List Gu):Int:=if d.okB then(if okCl d.rs.length l then 0 else 1) else 50
theorem g66(d:Dm)(l:List Gu)(hn:d.rs.length<=1000)(hs:d.sh.length<=1000):FnA Tryz.prog 108 [.agg d.cells, .isl (l.map Gu.av)] (· = .int .i64 (d.errC l)):=by
 have hL:(l.map Gu.av).length=l.length:=by simp
 have hc:=g39 d hn hs
 unfold Dm.err at hc
 unfold Dm.errC
 refine fnA 1 ok108 (by simp) ?_
 cases hb:d.okB<;>rw[hb]at hc
 ·rw[if_neg (by simp)]at hc
  (conv=>whnf);(repeat'((first|apply bT|apply bF|apply bN|((first|apply bD|apply bEq|apply bNe)<;>intro hh<;>try(exfalso;omega))|refine hc.cq rfl rfl ?_|refine wJ ?_|refine nJ ?_)<;>conv=>whnf))
  all_goals simp
 ·rw[if_pos rfl]at hc
  by_cases h20:l.length<=20
  ·have h70:=g70 l 121 d.cells (okGu d.rs.length) (by omega) (fun g hg=>fnV_of bd121 (g91 d g hn))
   cases ha:l.all (okGu d.rs.length)<;>rw[ha]at h70
   ·(conv=>whnf);(repeat'((first|apply bT|apply bF|apply bN|((first|apply bD|apply bEq|apply bNe)<;>intro hh<;>try(exfalso;omega))|refine hc.cq rfl rfl ?_|refine h70.lq rfl rfl ?_|refine wJ ?_|refine nJ ?_)<;>conv=>whnf))
    all_goals (unfold okCl;rw[ha];simp)
   ·(conv=>whnf);(repeat'((first|apply bT|apply bF|apply bN|((first|apply bD|apply bEq|apply bNe)<;>intro hh<;>try(exfalso;omega))|refine hc.cq rfl rfl ?_|refine h70.lq rfl rfl ?_|refine wJ ?_|refine nJ ?_)<;>conv=>whnf))
    all_goals (unfold okCl;rw[ha];simp[h20])
  ·(conv=>whnf);(repeat'((first|apply bT|apply bF|apply bN|((first|apply bD|apply bEq|apply bNe)<;>intro hh<;>try(exfalso;omega))|refine hc.cq rfl rfl ?_|refine wJ ?_|refine nJ ?_)<;>conv=>whnf))
   all_goals (unfold okCl;simp[h20])
def lf(q:Int × Int):Int:=min (max 0 (100*(q.2+q.1)) / q.2) 200
theorem g65(n e:Int)(hn : -100000000<=n/\n<=100000000)(he:1<=e/\e<=100000000):FnA Tryz.prog 120 [.agg [.int .i64 n, .int .i64 e]] (· = .int .i64 (lf (n,e))):=by
 have h0:0<=max 0 (100*(e+n)):=by omega
 have hd:=Int.tdiv_eq_ediv_of_nonneg (b:=e) h0
 have hq:0<=max 0 (100*(e+n)) / e/\max 0 (100*(e+n)) / e<=20000000000:=by
  refine⟨Int.ediv_nonneg h0 (by omega),?_⟩
  refine Int.le_trans (Int.ediv_le_ediv (by omega) (show max 0 (100*(e+n))<=20000000000 by omega)) ?_
  exact Int.ediv_le_self _ (by omega)
 have hr : -9223372036854775808<=(max 0 (100*(e+n))).tdiv e/\(max 0 (100*(e+n))).tdiv e<=9223372036854775807:=by rw[hd];omega
 refine fnA 1 ok120 (by simp) ?_
 (conv=>whnf);(repeat'((first|apply bT|apply bF|apply bN|((first|apply bD|apply bEq|apply bNe)<;>intro hh<;>try(exfalso;omega))|refine wIn hr ?_|refine wJ ?_|refine nJ ?_)<;>conv=>whnf))
 all_goals (simp only[lf,if_true,Bool.false_eq_true,if_false];rw[hd])
theorem lf_bd{q:Int × Int}(h:1<=q.2):0<=lf q/\lf q<=200:=by
 have:0<=max 0 (100*(q.2+q.1)) / q.2:=Int.ediv_nonneg (by omega) (by omega)
 unfold lf;omega
def rq(q:Int × Int):Int × Int:=(redN q.1 q.2,redD q.1 q.2)
def Frm.s0(f:Frm):Sec:=f.ss.getD 0 default
def Frm.l0(f:Frm):Int:=lf (rq (cosF f.s0 f.lo).1)
def Frm.l1(f:Frm):Int:=lf (rq (cosF f.s0 f.lo).2)
theorem s0_ok{f:Frm}(h:f.ok):f.s0.ok:=by
 unfold Frm.s0
 have h1:=h.1
 rw[List.getD_eq_getElem?_getD,List.getElem?_eq_getElem (by omega)]
 exact h.2.2.1 _ (List.getElem_mem _)
theorem lo_bd{f:Frm}(h:f.ok):1<=f.lo/\f.lo<=6000:=by
 have:=h.2.2.2.1;unfold okSpan at this;omega
theorem l01_bd{f:Frm}(h:f.ok):(0<=f.l0/\f.l0<=200)/\0<=f.l1/\f.l1<=200:=by
 have hb:=cosF_bd (s0_ok h) (lo_bd h)
 exact⟨lf_bd (red_bd hb.1.1 hb.1.2).2.1,lf_bd (red_bd hb.2.1 hb.2.2).2.1⟩
theorem g40(f:Frm)(h:f.ok):FnA Tryz.prog 106 [.agg f.cells] (· = .agg [.int .i64 f.l0, .int .i64 f.l1]):=by
 have hb:=cosF_bd (s0_ok h) (lo_bd h)
 have b0:=red_bd hb.1.1 hb.1.2
 have b1:=red_bd hb.2.1 hb.2.2
 have hlo:=lo_bd h
 have hs:=h.2.2.2.1
 unfold okSpan at hs
 have h1:=h.1
 have hk:=k18 f 0 f.lo (pos_zero h ⟨by simp,by omega⟩ ⟨by omega,by omega⟩)
 rw[dist_zero,if_neg (by omega)]at hk
 refine fnA 4 ok106 (by simp) ?_
 (conv=>whnf);(repeat'((first|apply bT|apply bF|apply bN|((first|apply bD|apply bEq|apply bNe)<;>intro hh<;>try(exfalso;omega))|refine hk.cq rfl rfl ?_|refine(g65 _ _ b0.1 b0.2).cq rfl rfl ?_|refine(g65 _ _ b1.1 b1.2).cq rfl rfl ?_|refine wJ ?_|refine nJ ?_)<;>conv=>whnf))
 all_goals rfl
def Dm.best(d:Dm):Tr:=⟨d.f.l0,d.rs.map (·.2),d.sh⟩
def Dm.worst(d:Dm):Tr:=⟨d.f.l1,d.rs.map (·.1),d.sh⟩
theorem rib_mem{d:Dm}(h:d.okB=true):∀p∈d.rs,okRib p:=(okB_iff.1 h).2.2.1
theorem best_ok{d:Dm}(h:d.okB=true):d.best.ok:=by
 have h':=okB_iff.1 h
 have hl:=l01_bd h'.1
 refine⟨hl.1,by simp[Dm.best];exact h'.2.1,by simp[Dm.best];exact h'.2.2.2.1,h'.2.2.2.2,fun x hx=>?_⟩
 simp only[Dm.best,List.mem_map]at hx
 obtain⟨p,hp,rfl⟩:=hx
 have:=h'.2.2.1 p hp;unfold okRib at this;omega
theorem worst_ok{d:Dm}(h:d.okB=true):d.worst.ok:=by
 have h':=okB_iff.1 h
 have hl:=l01_bd h'.1
 refine⟨hl.2,by simp[Dm.worst];exact h'.2.1,by simp[Dm.worst];exact h'.2.2.2.1,h'.2.2.2.2,fun x hx=>?_⟩
 simp only[Dm.worst,List.mem_map]at hx
 obtain⟨p,hp,rfl⟩:=hx
 have:=h'.2.2.1 p hp;unfold okRib at this;omega
def rI(k:Nat)(l:List Int):Nat × Res:=(k, .row false 3 1 (l.map i1))
theorem take_mapsnoc{α β : Type}(f : α -> β)(l:List α)(k:Nat)(h:k<l.length):(l.take (k+1)).map f=(l.take k).map f++[f l[k]]:=by
 rw[List.take_succ_eq_append_getElem h,List.map_append];rfl
theorem g41(d:Dm)(l:List Gu)(hn:d.rs.length<=1000)(hs:d.sh.length<=1000)(h:d.errC l=0):FnO Tryz.prog 79 [.agg d.cells, .isl (l.map Gu.av)] (fun r rows=>r = .tup [.agg [.int .i64 d.f.l0, .row 9, .isl (d.sh.map i1)], .agg [.int .i64 d.f.l1, .row 10, .isl (d.sh.map i1)], .int .i64 0]/\rows=[rI 9 d.best.ss,rI 10 d.worst.ss]):=by
 have hb:d.okB=true:=by
  cases e:d.okB with
  |true=>rfl
  |false=>unfold Dm.errC at h;rw[e]at h;simp at h
 have h':=okB_iff.1 hb
 have hc:=g66 d l hn hs
 rw[h]at hc
 have hL:(d.rs.map s2).length=d.rs.length:=by simp
 refine fnO 11 ok79 (by simp) ?_
 (conv=>whnf);(repeat'((first|apply bT|apply bF|apply bN|((first|apply bD|apply bEq|apply bNe)<;>intro hh<;>try(exfalso;omega))|refine hc.cq rfl rfl ?_|refine(g40 d.f h'.1).cq rfl rfl ?_|refine wJ ?_|refine nJ ?_)<;>conv=>whnf))
 refine loop_i (α :=Nat) (fun k=>[(35, .int .i64 k),(34, .int .i64 (d.rs.map s2).length),(33, .isl (d.rs.map s2)),(5, .own 2 0),(4, .own 1 0)]) (fun k=>[.fresh, .box false [.int .i64 d.f.l0, .row 9, .isl (d.sh.map i1)], .box false [.int .i64 d.f.l1, .row 10, .isl (d.sh.map i1)], .fresh, .fresh, .fresh, .fresh, .fresh, .fresh, .row false 3 1 (((d.rs.take k).map (·.2)).map i1), .row false 3 1 (((d.rs.take k).map (·.1)).map i1)]) (fun k=>k<=d.rs.length) (fun k=>d.rs.length-k) 0 (mA [(9,none),(10,none)]) (by omega) ?_
 intro k hk
 conv=>whnf
 refine bD (fun h3=>?_) (fun h3=>?_)
 ·have hlt:k<d.rs.length:=by omega
  have e1:=take_mapsnoc (·.2) d.rs k hlt
  have e2:=take_mapsnoc (·.1) d.rs k hlt
  have l1:((d.rs.take k).map (·.2)).length<=1000:=by simp;omega
  have l2:((d.rs.take k).map (·.1)).length<=1000:=by simp;omega
  (conv=>whnf);(repeat'((first|apply bT|apply bF|apply bN|((first|apply bD|apply bEq|apply bNe)<;>intro hh<;>try(exfalso;omega))|refine iaJ (getD_map s2 d.rs k hlt) ?_|refine wJ ?_|refine nJ ?_)<;>conv=>whnf))
  refine apI (by simp[AV.one]) (by simp;omega) ?_
  (conv=>whnf);(repeat'((first|apply bT|apply bF|apply bN|((first|apply bD|apply bEq|apply bNe)<;>intro hh<;>try(exfalso;omega))|refine wJ ?_|refine nJ ?_)<;>conv=>whnf))
  refine apI (by simp[AV.one]) (by simp;omega) ?_
  (conv=>whnf);(repeat'((first|apply bT|apply bF|apply bN|((first|apply bD|apply bEq|apply bNe)<;>intro hh<;>try(exfalso;omega))|refine wJ ?_|refine nJ ?_)<;>conv=>whnf))
  refine⟨k+1,?_,by omega,by omega⟩
  rw[e1,e2]
  simp only[Int.natCast_add,Int.natCast_one,List.map_append,List.map_cons,List.map_nil]
  exact(mA [(9,some 6),(10,some 8)])
 ·have:k=d.rs.length:=by omega
  subst this
  rw[List.take_length]
  (conv=>whnf);(repeat'((first|apply bT|apply bF|apply bN|((first|apply bD|apply bEq|apply bNe)<;>intro hh<;>try(exfalso;omega))|refine wJ ?_|refine nJ ?_)<;>conv=>whnf))
  all_goals exact⟨rfl,rfl⟩
theorem errC_ok{d:Dm}{l:List Gu}(h:d.errC l=0):d.okB=true/\okCl d.rs.length l=true:=by
 unfold Dm.errC at h
 split at h
 ·rename_i hb
  refine⟨hb,?_⟩
  split at h
  ·assumption
  ·cases h
 ·cases h
theorem errC_zero{d:Dm}{l:List Gu}(h:d.okB=true)(h2:okCl d.rs.length l=true):d.errC l=0:=by
 unfold Dm.errC;rw[if_pos h,if_pos h2]
theorem okCl_g{n:Nat}{l:List Gu}(h:okCl n l=true):l.length<=20/\∀g∈l,g.ok n:=by
 unfold okCl at h
 simp only[Bool.and_eq_true,decide_eq_true_eq,List.all_eq_true,okGu]at h
 exact h
theorem best_len(d:Dm):d.best.ss.length=d.rs.length:=by simp[Dm.best]
theorem worst_len(d:Dm):d.worst.ss.length=d.rs.length:=by simp[Dm.worst]
def Tr.stands(t:Tr)(l:List Gu):Bool:=l.all fun g=>(t.weak g).isEmpty
def Dm.st(d:Dm)(l:List Gu):Int:=if d.worst.stands l then 1 else if d.best.stands l then 3 else 2
theorem g17(d:Dm)(l:List Gu)(hn:d.rs.length<=1000)(hs:d.sh.length<=1000)(h:d.errC l=0):FnA Tryz.prog 100 [.agg d.cells, .isl (l.map Gu.av)] (· = .tup [.int .i64 (d.st l), .int .i64 0]):=by
 obtain⟨h1,h2⟩:=errC_ok h
 have hg:=okCl_g h2
 have c1:=g44 d.worst l (worst_ok h1) (by omega) (by rw[worst_len];exact hg.2)
 have c2:=g44 d.best l (best_ok h1) (by omega) (by rw[best_len];exact hg.2)
 unfold Dm.st Tr.stands
 generalize (l.all fun g=>(d.worst.weak g).isEmpty)=B1 at c1⊢
 generalize (l.all fun g=>(d.best.weak g).isEmpty)=B2 at c2⊢
 refine fnA 7 ok100 (by simp) ?_
 cases B1
 ·cases B2
  ·(conv=>whnf);(repeat'((first|apply bT|apply bF|apply bN|((first|apply bD|apply bEq|apply bNe)<;>intro hh<;>try(exfalso;omega))|refine(g41 d l hn hs h).oq rfl rfl rfl ?_|refine c1.lq rfl rfl ?_|refine c2.lq rfl rfl ?_|refine wJ ?_|refine nJ ?_)<;>conv=>whnf))
   all_goals rfl
  ·(conv=>whnf);(repeat'((first|apply bT|apply bF|apply bN|((first|apply bD|apply bEq|apply bNe)<;>intro hh<;>try(exfalso;omega))|refine(g41 d l hn hs h).oq rfl rfl rfl ?_|refine c1.lq rfl rfl ?_|refine c2.lq rfl rfl ?_|refine wJ ?_|refine nJ ?_)<;>conv=>whnf))
   all_goals rfl
 ·(conv=>whnf);(repeat'((first|apply bT|apply bF|apply bN|((first|apply bD|apply bEq|apply bNe)<;>intro hh<;>try(exfalso;omega))|refine(g41 d l hn hs h).oq rfl rfl rfl ?_|refine c1.lq rfl rfl ?_|refine wJ ?_|refine nJ ?_)<;>conv=>whnf))
  all_goals rfl
theorem stands1(t:Tr)(g:Gu):t.stands [g]=(t.weak g).isEmpty:=by simp[Tr.stands]
theorem g34(n lo hi:Int):FnA Tryz.prog 72 [.int .i64 n, .int .i64 lo, .int .i64 hi] (· = .bool (decide (lo<=n/\n<=hi))):=by
 refine fnA 0 ok72 (by simp) ?_
 (conv=>whnf);(repeat'((first|apply bT|apply bF|apply bN|((first|apply bD|apply bEq|apply bNe)<;>intro hh<;>try(exfalso;omega))|refine(k50 n lo hi).cq rfl rfl ?_|refine wJ ?_|refine nJ ?_)<;>conv=>whnf))
 all_goals rfl
def Dm.far(d:Dm):Prop:=d.f.ss.length>20\/d.rs.length>40\/d.sh.length>40
instance (d:Dm):Decidable d.far:=by unfold Dm.far;infer_instance
theorem g28(d:Dm):FnA Tryz.prog 43 [.agg d.cells] (· = .bool (decide d.far)):=by
 have hL0:(d.f.ss.map Sec.av).length=d.f.ss.length:=by simp
 have hL:(d.rs.map s2).length=d.rs.length:=by simp
 have hL2:(d.sh.map i1).length=d.sh.length:=by simp
 unfold Dm.far
 refine fnA 1 ok43 (by simp) ?_
 (conv=>whnf);(repeat'((first|apply bT|apply bF|apply bN|((first|apply bD|apply bEq|apply bNe)<;>intro hh<;>try(exfalso;omega))|refine wJ ?_|refine nJ ?_)<;>conv=>whnf))
 all_goals first|rfl|exact congrArg AV.bool (decide_eq_decide.2 (by omega))|exact congrArg AV.bool (decide_eq_true (by omega)).symm|exact congrArg AV.bool (decide_eq_false (by omega)).symm
theorem g23(d:Dm)(i:Int)(hn:d.rs.length<=1000):FnA Tryz.prog 49 [.agg d.cells, .int .i64 i] (· = .bool (decide (0<=i/\i<d.rs.length))):=by
 have hL:(d.rs.map s2).length=d.rs.length:=by simp
 refine fnA 1 ok49 (by simp) ?_
 (conv=>whnf);(repeat'((first|apply bT|apply bF|apply bN|((first|apply bD|apply bEq|apply bNe)<;>intro hh<;>try(exfalso;omega))|refine(g34 _ _ _).cq rfl rfl ?_|refine wJ ?_|refine nJ ?_)<;>conv=>whnf))
 all_goals first|rfl|exact congrArg AV.bool (decide_eq_decide.2 (by omega))|exact congrArg AV.bool (decide_eq_true (by omega)).symm|exact congrArg AV.bool (decide_eq_false (by omega)).symm
theorem g29(d:Dm)(hf:d.f.ss.length<=1000)(hn:d.rs.length<=1000)(hs:d.sh.length<=1000):FnA Tryz.prog 47 [.agg d.cells] (· = .int .i64 d.err):=by
 have hL:(d.rs.map s2).length=d.rs.length:=by simp
 have hL2:(d.sh.map i1).length=d.sh.length:=by simp
 have hk:=k15 d.f (by omega)
 by_cases hok:d.f.ok
 ·rw[if_pos hok]at hk
  by_cases h2:(3<=d.rs.length/\d.rs.length<=10)/\d.sh.length=d.rs.length
  ·refine fnA 1 ok47 (by simp) ?_
   (conv=>whnf);(repeat'((first|apply bT|apply bF|apply bN|((first|apply bD|apply bEq|apply bNe)<;>intro hh<;>try(exfalso;omega))|refine hk.cq rfl rfl ?_|refine(g34 _ _ _).cq rfl rfl ?_|refine wJ ?_|refine nJ ?_)<;>conv=>whnf))
   refine loop_i (α :=Nat) (fun k=>[(3, .int .i64 k),(1, .own 0 0)]) (fun k=>[.box false d.cells]) (fun k=>k<=d.rs.length/\∀i,i<k->okRib (d.rs.getD i (0,0))/\okSh (d.sh.getD i 0)) (fun k=>d.rs.length-k) 0 mI ⟨by omega,fun i hi=>by omega⟩ ?_
   rintro k ⟨hk1,hk2⟩
   conv=>whnf
   refine bD (fun h3=>?_) (fun h3=>?_)
   ·have hlt:k<d.rs.length:=by omega
    have e1:=getD_mapD s2 d.rs k (0,0) hlt
    have e2:=getD_mapD i1 d.sh k 0 (by omega)
    have ez:∀(h:¬(okRib (d.rs.getD k (0,0))/\okSh (d.sh.getD k 0))),(50:Int)=d.err:=fun h=>by
     unfold Dm.err
     rw[if_neg fun hb=>?_]
     have hb':=okB_iff.1 hb
     refine h ⟨?_,?_⟩
     ·rw[List.getD_eq_getElem?_getD,List.getElem?_eq_getElem hlt];exact hb'.2.2.1 _ (List.getElem_mem hlt)
     ·rw[List.getD_eq_getElem?_getD,List.getElem?_eq_getElem (by omega)];exact hb'.2.2.2.2 _ (List.getElem_mem _)
    unfold okRib okSh at ez
    (conv=>whnf);(repeat'((first|apply bT|apply bF|apply bN|((first|apply bD|apply bEq|apply bNe)<;>intro hh<;>try(exfalso;omega))|refine iaJ e1 ?_|refine iaJ e2 ?_|refine(g34 _ _ _).cq rfl rfl ?_|refine wJ ?_|refine nJ ?_)<;>conv=>whnf))
    all_goals first
     |exact congrArg (AV.int .i64) (ez (by omega))
     |(refine⟨k+1,?_,⟨by omega,fun i hi=>?_⟩,by omega⟩
       ·simp only[Int.natCast_add,Int.natCast_one]
        exact mI
       ·by_cases e:i=k
        ·subst e;unfold okRib okSh;omega
        ·exact hk2 i (by omega))
   ·have:k=d.rs.length:=by omega
    subst this
    have hb:d.okB=true:=okB_iff.2 ⟨hok,h2.1,fun p hp=>by
     obtain⟨i,hi,rfl⟩:=List.mem_iff_getElem.1 hp
     have:=(hk2 i hi).1
     rwa [List.getD_eq_getElem?_getD,List.getElem?_eq_getElem hi]at this,h2.2,fun x hx=>by
     obtain⟨i,hi,rfl⟩:=List.mem_iff_getElem.1 hx
     have:=(hk2 i (by omega)).2
     rwa [List.getD_eq_getElem?_getD,List.getElem?_eq_getElem hi]at this⟩
    (conv=>whnf);(repeat'((first|apply bT|apply bF|apply bN|((first|apply bD|apply bEq|apply bNe)<;>intro hh<;>try(exfalso;omega))|refine wJ ?_|refine nJ ?_)<;>conv=>whnf))
    all_goals (unfold Dm.err;rw[if_pos hb])
  ·refine fnA 1 ok47 (by simp) ?_
   (conv=>whnf);(repeat'((first|apply bT|apply bF|apply bN|((first|apply bD|apply bEq|apply bNe)<;>intro hh<;>try(exfalso;omega))|refine hk.cq rfl rfl ?_|refine(g34 _ _ _).cq rfl rfl ?_|refine wJ ?_|refine nJ ?_)<;>conv=>whnf))
   all_goals (unfold Dm.err;rw[if_neg];intro hb;have:=okB_iff.1 hb;omega)
 ·rw[if_neg hok]at hk
  refine fnA 1 ok47 (by simp) ?_
  (conv=>whnf);(repeat'((first|apply bT|apply bF|apply bN|((first|apply bD|apply bEq|apply bNe)<;>intro hh<;>try(exfalso;omega))|refine hk.cq rfl rfl ?_|refine wJ ?_|refine nJ ?_)<;>conv=>whnf))
  all_goals (unfold Dm.err;rw[if_neg];intro hb;exact hok (okB_iff.1 hb).1)
def Dm.rdy(d:Dm)(l:List Gu):Bool:=d.okB&&okCl d.rs.length l
def exF:Frm:=⟨[⟨50,52,60,60,0,1,1⟩,⟨40,40,45,46,5,1,2⟩],20,100,1,20,300,351⟩
def exD:Dm:=⟨exF,[(100,110),(60,60),(50,55),(40,40),(50,50),(60,60)],[10,6,3,1,3,6]⟩
theorem g56:FnA Tryz.prog 107 [] (· = .agg exF.cells):=by
 refine fnA 2 ok107 (by simp) ?_
 (conv=>whnf);(repeat'((first|apply bT|apply bF|apply bN|((first|apply bD|apply bEq|apply bNe)<;>intro hh<;>try(exfalso;omega))|refine wJ ?_|refine nJ ?_)<;>conv=>whnf))
 all_goals rfl
theorem g36:FnA Tryz.prog 78 [] (· = .agg exD.cells):=by
 refine fnA 4 ok78 (by simp) ?_
 (conv=>whnf);(repeat'((first|apply bT|apply bF|apply bN|((first|apply bD|apply bEq|apply bNe)<;>intro hh<;>try(exfalso;omega))|refine g56.zq rfl rfl ?_|refine wJ ?_|refine nJ ?_)<;>conv=>whnf))
 all_goals rfl
theorem sumr_mono{l1 l2:Int->Int}{g1 g2:List Bool}(hl0:∀i,0<=l1 i)(hl:∀i,l1 i<=l2 i)(hg:∀i,g1.getD i false=true->g2.getD i false=true)(n:Nat)(i s:Int):∀k j,sumr l1 g1 n i s k j<=sumr l2 g2 n i s k j
 |0,j=>by simp[sumr]
 |k+1,j=>by
  have ih:=sumr_mono hl0 hl hg n i s k (j+1)
  have h0:=hl (ar n (i+j*s))
  have hb:∀k j,0<=sumr l2 g2 n i s k j:=fun k=>by
   induction k with
   |zero=>intro j;simp[sumr]
   |succ k ih=>
    intro j
    have:=ih (j+1)
    have h1:=hl0 (ar n (i+j*s))
    have h2:=hl (ar n (i+j*s))
    unfold sumr;split<;>omega
  unfold sumr
  by_cases h1:g1.getD (ar n (i+j*s)).toNat false=true
  ·rw[if_pos h1,if_pos (hg _ h1)];omega
  ·rw[if_neg h1]
   have:=hb (k+1) j
   unfold sumr at this
   exact this
theorem hand_mono{l1 l2:Int->Int}{g1 g2:List Bool}(hl0:∀i,0<=l1 i)(hl:∀i,l1 i<=l2 i)(hg:∀i,g1.getD i false=true->g2.getD i false=true)(n:Nat)(i:Int):hand l1 g1 n i<=hand l2 g2 n i:=by
 have h1:=sumr_mono hl0 hl hg n i (-1) (n-1) 1
 have h2:=sumr_mono hl0 hl hg n i 1 (n-1) 1
 unfold hand sside;omega
structure Leq(t u:Tr)(g h:Gu):Prop where
 len:t.ss.length=u.ss.length
 ss:∀i,u.ss.getD i 0<=t.ss.getD i 0
 ld0:∀i,0<=t.ld g i
 ld:∀i,t.ld g i<=u.ld h i
theorem cond_mono{t u:Tr}{g h:Gu}(hle:Leq t u g h){g1 g2:List Bool}(hg:∀i,g1.getD i false=true->g2.getD i false=true){i:Nat}(hc:t.cond g g1 i=true):g2.getD i false=true\/u.cond h g2 i=true:=by
 by_cases h2:g2.getD i false=true
 ·exact .inl h2
 ·refine .inr ?_
  have h2':g2.getD i false=false:=by simpa using h2
  unfold Tr.cond at hc⊢
  simp only[Bool.and_eq_true,decide_eq_true_eq]at hc
  rw[h2']
  simp only[Bool.not_false,Bool.true_and,decide_eq_true_eq]
  have a:=hand_mono hle.ld0 hle.ld hg t.ss.length i
  have b:=hle.ss i
  have c:=hle.ld i
  have e:=hle.len
  rw[<- e]
  omega
theorem G_stop(t:Tr)(g:Gu)(i:Nat)(hi:i<t.ss.length):t.cond g (t.G g (t.K g)) i=false:=by
 rw[Bool.eq_false_iff];intro h
 have:i∈t.go g (t.G g (t.K g)):=go_mem.2 ⟨hi,h⟩
 rw[(K_ok t g).2.1]at this;cases this
theorem G_in(t:Tr)(g:Gu)(r i:Nat)(h:(t.G g r).getD i false=true):i<t.ss.length:=by
 refine Classical.byContradiction fun hn=>?_
 rw[List.getD_eq_getElem?_getD,List.getElem?_eq_none (by rw[G_len];omega)]at h;simp at h
theorem G_succ(t:Tr)(g:Gu)(r i:Nat)(hi:i<t.ss.length):(t.G g (r+1)).getD i false=((t.G g r).getD i false||t.cond g (t.G g r) i):=stp_get hi
theorem G_mono{t u:Tr}{g h:Gu}(hle:Leq t u g h):∀r i,(t.G g r).getD i false=true->(u.G h (u.K h)).getD i false=true
 |0,i,hi=>by
  have:=G_in t g 0 i hi
  simp only[Tr.G,List.getD_eq_getElem?_getD,List.getElem?_replicate,if_pos this]at hi
  simp at hi
 |r+1,i,hi=>by
  have hin:=G_in t g (r+1) i hi
  rw[G_succ t g r i hin,Bool.or_eq_true]at hi
  rcases hi with hi|hi
  ·exact G_mono hle r i hi
  ·rcases cond_mono hle (G_mono hle r) hi with h1|h1
   ·exact h1
   ·rw[G_stop u h i (by rw[<- hle.len];exact hin)]at h1;cases h1
theorem gone_mem{t:Tr}{g:Gu}{i:Nat}:i∈t.gone g<->i<t.ss.length/\(t.G g (t.K g)).getD i false=true:=lst_mem
theorem gone_mono{t u:Tr}{g h:Gu}(hle:Leq t u g h){i:Nat}(hi:i∈t.gone g):i∈u.gone h:=by
 rw[gone_mem]at hi⊢
 exact⟨by rw[<- hle.len];exact hi.1,G_mono hle _ i hi.2⟩
theorem G_le(t:Tr)(g:Gu)(i r:Nat):∀k,(t.G g r).getD i false=true->(t.G g (r+k)).getD i false=true
 |0,h=>h
 |k+1,h=>by
  have h1:=G_le t g i r k h
  have hin:=G_in t g _ i h1
  show(t.G g (r+k+1)).getD i false=true
  rw[G_succ t g _ i hin,h1];rfl
theorem sumr_none{l:Int->Int}{gs:List Bool}{n:Nat}{i s:Int}{k j:Nat}(h:gs.getD (ar n (i+j*s)).toNat false=false):sumr l gs n i s k j=0:=by
 cases k with
 |zero=>rfl
 |succ k=>rw[sumr,if_neg (by rw[h];simp)]
theorem G0(t:Tr)(g:Gu)(i:Nat):(t.G g 0).getD i false=false:=by
 simp only[Tr.G,List.getD_eq_getElem?_getD,List.getElem?_replicate];split<;>rfl
theorem cond0(t:Tr)(g:Gu)(i:Nat):t.cond g (t.G g 0) i=t.tw g i:=by
 unfold Tr.cond Tr.tw hand sside
 rw[G0,sumr_none (G0 t g _),sumr_none (G0 t g _)]
 simp
theorem weak_go(t:Tr)(g:Gu):t.weak g=t.go g (t.G g 0):=by
 unfold Tr.weak Tr.go;congr 1;funext i;exact(cond0 t g i).symm
theorem weak_gone{t:Tr}{g:Gu}{i:Nat}(h:i∈t.weak g):i∈t.gone g:=by
 rw[weak_go,go_mem]at h
 rw[gone_mem]
 refine⟨h.1,?_⟩
 have h1:(t.G g 1).getD i false=true:=by rw[G_succ t g 0 i h.1,h.2];simp
 cases hk:t.K g with
 |zero=>
  have:=(K_ok t g).2.1
  rw[hk]at this
  have h2:=go_mem.2 h
  rw[this]at h2;cases h2
 |succ k=>rw[Nat.add_comm k 1];exact G_le t g i 1 k h1
theorem weak_nil{t:Tr}{g:Gu}(h:t.weak g=[]):t.gone g=[]:=by
 rw[weak_go]at h
 have:t.K g=0:=by
  cases hk:t.K g with
  |zero=>rfl
  |succ k=>exact absurd h ((K_ok t g).1 0 (by omega))
 refine List.eq_nil_iff_forall_not_mem.2 fun i hi=>?_
 have:=(gone_mem.1 hi).2
 rw[‹t.K g=0›,G0]at this;cases this
theorem gone_nil{t:Tr}{g:Gu}:t.gone g=[]<->t.weak g=[]:=
 ⟨fun h=>List.eq_nil_iff_forall_not_mem.2 fun i hi=>(by have:=weak_gone hi;rw[h]at this;cases this),weak_nil⟩
theorem ediv_mono2{a b c d:Int}(hb:1<=b)(hd:1<=d)(h:a*d<=c*b):a / b<=c / d:=by
 refine Int.le_ediv_of_mul_le (by omega) ?_
 have h1:a / b*b<=a:=Int.ediv_mul_le _ (by omega)
 have h2:a / b*b*d<=a*d:=Int.mul_le_mul_of_nonneg_right h1 (by omega)
 have h3:a / b*d*b<=c*b:=by rw[Int.mul_right_comm];omega
 exact Int.le_of_mul_le_mul_right h3 (by omega)
theorem lf_mono{x y:Int × Int}(hx:1<=x.2)(hy:1<=y.2)(h:x.1*y.2<=y.1*x.2):lf x<=lf y:=by
 have key:max 0 (100*(x.2+x.1)) / x.2<=max 0 (100*(y.2+y.1)) / y.2:=by
  refine ediv_mono2 hx hy ?_
  by_cases h0:100*(x.2+x.1)<=0
  ·rw[show max 0 (100*(x.2+x.1))=0 from by omega,Int.zero_mul]
   exact Int.mul_nonneg (by omega) (by omega)
  ·rw[show max 0 (100*(x.2+x.1))=100*(x.2+x.1) from by omega]
   refine Int.le_trans ?_ (Int.mul_le_mul_of_nonneg_right (show 100*(y.2+y.1)<=max 0 (100*(y.2+y.1)) by omega) (by omega))
   rw[Int.mul_assoc,Int.mul_assoc,Int.add_mul,Int.add_mul,Int.mul_comm y.2 x.2];omega
 unfold lf;omega
theorem lf_red{q:Int × Int}(h:1<=q.2):lf (rq q)=lf q:=by
 obtain⟨n,d⟩:=q
 simp only at h
 obtain⟨e1,e2,e3⟩:=red_eq (n:=n) h
 have hg:=(gcd_bd (n:=n) h).1
 unfold lf rq
 simp only
 generalize (Int.gcd n d:Int)=G at *
 generalize redN n d=n' at *
 generalize redD n d=d' at *
 subst e1 e2
 congr 1
 have e:100*(G*d'+G*n')=G*(100*(d'+n')):=by rw[<- Int.mul_add,Int.mul_left_comm]
 rw[e]
 by_cases h0:100*(d'+n')<=0
 ·have:G*(100*(d'+n'))<=0:=Int.mul_nonpos_of_nonneg_of_nonpos (by omega) h0
  rw[show max 0 (100*(d'+n'))=0 from by omega,show max 0 (G*(100*(d'+n')))=0 from by omega]
  simp
 ·have:0<=G*(100*(d'+n')):=Int.mul_nonneg (by omega) (by omega)
  rw[show max 0 (100*(d'+n'))=100*(d'+n') from by omega,show max 0 (G*(100*(d'+n')))=G*(100*(d'+n')) from by omega]
  rw[Int.mul_ediv_mul_of_pos _ _ (by omega)]
theorem l01_side{f:Frm}(h:f.ok){q:Int × Int}(hq:q∈f.s0.sides):f.l0<=lf (rq (cosQ f.lo q))/\lf (rq (cosQ f.lo q))<=f.l1:=by
 have hs:=s0_ok h
 have hl:=lo_bd h
 have hb:=cosF_bd hs hl
 have hq2:=cos_rbd hs hl hq
 have he:=cosF_ends hs hl hq
 unfold Frm.l0 Frm.l1
 rw[lf_red hb.1.2.1,lf_red hb.2.2.1,lf_red (q:=cosQ f.lo q) hq2.2.1]
 exact⟨lf_mono hb.1.2.1 hq2.2.1 he.1,lf_mono hq2.2.1 hb.2.2.1 he.2⟩
theorem ld_mono{t u:Tr}(ht:t.ok)(hsh:t.sh=u.sh)(hlen:t.ss.length=u.ss.length)(hL:t.L<=u.L){F F' A:Int}(hF0:0<=F)(hF:F<=F')(i:Int):t.ld ⟨F,A⟩ i<=u.ld ⟨F',A⟩ i:=by
 unfold Tr.ld Tr.share
 rw[hsh,hlen]
 have hs:=share_bd ht (ar u.ss.length (i-A))
 unfold Tr.share at hs
 rw[hsh]at hs
 refine Int.ediv_le_ediv (by omega) ?_
 refine Int.mul_le_mul_of_nonneg_right ?_ hs.1
 exact Int.le_trans (Int.mul_le_mul_of_nonneg_right hF ht.1.1) (Int.mul_le_mul_of_nonneg_left hL (Int.le_trans hF0 hF))
theorem ar_nat{n:Nat}(h:0<n)(r:Int):(((ar n r).toNat:Nat):Int)=ar n r:=by
 have:=ar_bd (n:=n) r h;omega
theorem tdiv_floor{a b:Int}(hb:1<=b):a / b=if a.tmod b<0 then a.tdiv b-1 else a.tdiv b:=by
 have e:=Int.mul_tdiv_add_tmod a b
 have h1:=Int.tmod_lt_of_pos a (show 0<b by omega)
 have h2:=Int.lt_tmod_of_pos a (show 0<b by omega)
 split
 ·refine((Int.ediv_emod_unique (show 0<b by omega) (r:=a.tmod b+b)).2 ⟨?_,by omega,by omega⟩).1
  rw[Int.mul_sub,Int.mul_one];omega
 ·exact((Int.ediv_emod_unique (show 0<b by omega) (r:=a.tmod b)).2 ⟨by omega,by omega,h1⟩).1
theorem lf_eq{n e:Int}(he:1<=e):lf (n,e)=min 200 (max 0 (100+100*n / e)):=by
 have h1:(100*(e+n)) / e=100+100*n / e:=by
  rw[Int.mul_add,Int.add_comm,Int.add_mul_ediv_right _ _ (by omega)];omega
 unfold lf
 simp only
 by_cases h0:0<=100*(e+n)
 ·rw[show max 0 (100*(e+n))=100*(e+n) from by omega,h1]
  have:=Int.ediv_nonneg h0 (show 0<=e by omega)
  rw[h1]at this;omega
 ·rw[show max 0 (100*(e+n))=0 from by omega]
  have:=Int.ediv_neg_of_neg_of_pos (show 100*(e+n)<0 by omega) (show 0<e by omega)
  rw[h1]at this
  rw[Int.zero_ediv];omega
theorem okCl1{n:Nat}{g:Gu}(h:g.ok n):okCl n [g]=true:=by
 unfold okCl okGu;simp[h]
theorem stands_mono{t u:Tr}{g h:Gu}(hle:Leq t u g h)(hs:u.stands [h]=true):t.stands [g]=true:=by
 rw[stands1]at hs⊢
 have h1:u.gone h=[]:=weak_nil (by simpa using hs)
 have h2:t.gone g=[]:=List.eq_nil_iff_forall_not_mem.2 fun i hi=>by
  have:=gone_mono hle hi;rw[h1]at this;cases this
 rw[gone_nil.1 h2];rfl
theorem st_one{d:Dm}{l:List Gu}:d.st l=1<->d.worst.stands l=true:=by
 unfold Dm.st
 cases d.worst.stands l<;>simp
 split<;>simp
theorem tmod_up{n:Nat}(x:Int)(h:0<n):(x.tmod n+n).tmod n=ar n x:=by
 have h1:=Int.lt_tmod_of_pos x (show(0:Int)<n by omega)
 rw[Int.tmod_eq_emod_of_nonneg (by omega),Int.add_emod_right]
 unfold ar
 rw[Int.tmod_def,Int.sub_mul_emod_self_left]
structure Of(d:Dm)(t:Tr):Prop where
 ok:t.ok
 len:t.ss.length=d.rs.length
 sh:t.sh=d.sh
theorem g20(d:Dm)(t:Tr)(g:Gu)(i:Nat)(H:Of d t)(hg:g.ok d.rs.length)(hi:i<d.rs.length):FnA Tryz.prog 104 [.agg d.cells, .agg g.av, .int .i64 t.L, .int .i64 i] (· = .int .i64 (t.ld g i)):=by
 have hl:=H.ok.2.1
 have hsh:=H.ok.2.2.1
 have hLn:=H.len
 have hA:=hg.2
 have hL:(d.rs.map s2).length=d.rs.length:=by simp
 have hS:(d.sh.map i1).length=t.sh.length:=by rw[H.sh];simp
 have hp:=prod_bd H.ok (n:=d.rs.length) hg
 have hb:=ar_bd (n:=d.rs.length) (i-g.A) (by omega)
 have hs:=share_bd H.ok (ar d.rs.length (i-g.A))
 have hq:=hp.2 _ hs.1 hs.2
 have e1:((i:Int)-g.A+(d.rs.map s2).length).tmod (d.rs.map s2).length=ar d.rs.length (i-g.A):=by
  rw[hL]
  rw[Int.tmod_eq_emod_of_nonneg (by omega),Int.add_emod_right];rfl
 have e2:(d.sh.map i1).getD (((i:Int)-g.A+(d.rs.map s2).length).tmod (d.rs.map s2).length).toNat []=[.int .i64 (t.share (ar d.rs.length (i-g.A)))]:=by
  rw[e1,getD_mapD i1 d.sh _ 0 (by rw[<- H.sh];omega)]
  unfold Tr.share;rw[H.sh];rfl
 have hdv:=Int.tdiv_eq_ediv_of_nonneg (b:=100) hq.1
 have hld:t.ld g i=(g.F*t.L*t.share (ar d.rs.length (i-g.A))).tdiv 100:=by
  unfold Tr.ld;rw[hdv,hLn]
 have hdb:0<=(g.F*t.L*t.share (ar d.rs.length (i-g.A))).tdiv 100/\(g.F*t.L*t.share (ar d.rs.length (i-g.A))).tdiv 100<=19602:=by rw[hdv];omega
 rw[hld]
 have w1 : -9223372036854775808<=((i:Int)-g.A+(d.rs.map s2).length).tmod (d.rs.map s2).length/\((i:Int)-g.A+(d.rs.map s2).length).tmod (d.rs.map s2).length<=9223372036854775807:=by rw[e1];omega
 refine fnA 2 ok104 (by simp) ?_
 (conv=>whnf);(repeat'((first|apply bT|apply bF|apply bN|((first|apply bD|apply bEq|apply bNe)<;>intro hh<;>try(exfalso;omega))|refine wIn w1 ?_|refine iaJ e2 ?_|refine wJ ?_|refine nJ ?_)<;>conv=>whnf))
 all_goals rfl
theorem g46(t:Tr)(g:Gu)(gs:List Bool)(ls:List Int)(i:Nat)(s:Int)(h:t.ok)(hg:g.ok t.ss.length)(hgs:gs.length=t.ss.length)(hls:ls=(List.range t.ss.length).map fun i=>t.ld g (i:Nat))(hi:i<t.ss.length)(hs:s = -1\/s=1):FnA Tryz.prog 105 [.isl (ls.map i1), .isl (gs.map b1), .int .i64 i, .int .i64 s] (· = .int .i64 (sside (t.ld g) gs t.ss.length i s)):=by
 have hl:=h.2.1
 have hlen:ls.length=t.ss.length:=by rw[hls];simp
 have hL:(ls.map i1).length=t.ss.length:=by rw[List.length_map,hlen]
 have hL2:(gs.map b1).length=t.ss.length:=by rw[List.length_map,hgs]
 have hld:=fun i=>ld_bd h hg i
 have hb:=fun k j=>sumr_bd hld (by omega) gs t.ss.length i s k j
 have htot:=hb (t.ss.length-1) 1
 have hss:sside (t.ld g) gs t.ss.length i s=sumr (t.ld g) gs t.ss.length i s (t.ss.length-1) 1:=rfl
 have e19:(19602:Int)*((t.ss.length-1:Nat):Int)<=19602*10:=by omega
 refine fnA 0 ok105 (by simp) ?_
 (conv=>whnf);(repeat'((first|apply bT|apply bF|apply bN|((first|apply bD|apply bEq|apply bNe)<;>intro hh<;>try(exfalso;omega))|refine wJ ?_|refine nJ ?_)<;>conv=>whnf))
 refine loop_i (α :=Nat × Int) (fun x=>[(11, .int .i64 x.1),(10, .int .i64 x.2),(9, .int .i64 (ls.map i1).length),(3, .int .i64 s),(2, .int .i64 i),(1, .isl (gs.map b1)),(0, .isl (ls.map i1))]) (fun x=>[]) (fun x=>1<=x.1/\x.1<=t.ss.length/\0<=x.2/\x.2+sumr (t.ld g) gs t.ss.length i s (t.ss.length-x.1) x.1=sside (t.ld g) gs t.ss.length i s) (fun x=>t.ss.length-x.1) (1,0) mI ⟨by simp,by simp only;omega,by simp,by simp[sside]⟩ ?_
 rintro⟨k,x⟩ ⟨hk1,hk2,hx0,hx⟩
 simp only at hk1 hk2 hx0 hx⊢
 have hsum:=hb (t.ss.length-k) k
 conv=>whnf
 refine bD (fun h3=>?_) (fun h3=>?_)
 ·have hlt:k<t.ss.length:=by omega
  obtain⟨m,hm⟩:∃m,t.ss.length-k=m+1:=⟨t.ss.length-k-1,by omega⟩
  have hm2:t.ss.length-(k+1)=m:=by omega
  have hn0:0<t.ss.length:=by omega
  have hp:=ar_bd (n:=t.ss.length) (i+k*s) hn0
  have hks : -10<=(k:Int)*s/\(k:Int)*s<=10:=by rcases hs with rfl|rfl<;>omega
  have t1:=Int.lt_tmod_of_pos ((i:Int)+k*s) (show(0:Int)<(ls.map i1).length by omega)
  have t2:=Int.tmod_lt_of_pos ((i:Int)+k*s) (show(0:Int)<(ls.map i1).length by omega)
  have ei:(((i:Int)+k*s).tmod (ls.map i1).length+(ls.map i1).length).tmod (ls.map i1).length=ar t.ss.length (i+k*s):=by
   rw[tmod_up _ (by omega),hL]
  have w3 : -9223372036854775808<=(((i:Int)+k*s).tmod (ls.map i1).length+(ls.map i1).length).tmod (ls.map i1).length/\(((i:Int)+k*s).tmod (ls.map i1).length+(ls.map i1).length).tmod (ls.map i1).length<=9223372036854775807:=by rw[ei];omega
  have eg:(gs.map b1).getD ((((i:Int)+k*s).tmod (ls.map i1).length+(ls.map i1).length).tmod (ls.map i1).length).toNat []=[.bool (gs.getD (ar t.ss.length (i+k*s)).toNat false)]:=by
   rw[ei,getD_mapD b1 gs _ false (by omega)];rfl
  have el:(ls.map i1).getD ((((i:Int)+k*s).tmod (ls.map i1).length+(ls.map i1).length).tmod (ls.map i1).length).toNat []=[.int .i64 (t.ld g (ar t.ss.length (i+k*s)))]:=by
   rw[ei,getD_mapD i1 ls _ 0 (by omega),hls]
   have:(ar t.ss.length (i+k*s)).toNat<t.ss.length:=by omega
   simp only[List.getD_eq_getElem?_getD,List.getElem?_map,List.getElem?_range this,Option.map_some,Option.getD_some]
   rw[ar_nat hn0];rfl
  have hlp:=hld (ar t.ss.length (i+k*s))
  rw[hm]at hx hsum
  cases hgv:gs.getD (ar t.ss.length (i+k*s)).toNat false with
  |true=>
   rw[hgv]at eg
   rw[show sumr (t.ld g) gs t.ss.length i s (m+1) k=t.ld g (ar t.ss.length (i+k*s))+sumr (t.ld g) gs t.ss.length i s m (k+1) from by rw[sumr,if_pos hgv]]at hx
   have hsum2:=hb m (k+1)
   have hm3:(19602:Int)*(m:Int)<=196020:=by omega
   (conv=>whnf);(repeat'((first|apply bT|apply bF|apply bN|((first|apply bD|apply bEq|apply bNe)<;>intro hh<;>try(exfalso;omega))|refine wIn w3 ?_|refine iaJ eg ?_|refine iaJ el ?_|refine wJ ?_|refine nJ ?_)<;>conv=>whnf))
   refine⟨(k+1,x+t.ld g (ar t.ss.length (i+k*s))),mI,⟨by simp only;omega,by simp only;omega,by simp only;omega,by simp only;rw[hm2];omega⟩,by simp only;omega⟩
  |false=>
   rw[hgv]at eg
   rw[sumr_none hgv]at hx
   (conv=>whnf);(repeat'((first|apply bT|apply bF|apply bN|((first|apply bD|apply bEq|apply bNe)<;>intro hh<;>try(exfalso;omega))|refine wIn w3 ?_|refine iaJ eg ?_|refine wJ ?_|refine nJ ?_)<;>conv=>whnf))
   all_goals (rw[<- hx];simp)
 ·have:k=t.ss.length:=by omega
  subst this
  rw[Nat.sub_self]at hx
  (conv=>whnf);(repeat'((first|apply bT|apply bF|apply bN|((first|apply bD|apply bEq|apply bNe)<;>intro hh<;>try(exfalso;omega))|refine wJ ?_|refine nJ ?_)<;>conv=>whnf))
  all_goals (rw[<- hx];simp[sumr])
def mix{α : Type}(n:Nat)(a b:Nat -> α)(k:Nat):List α :=(List.range n).map fun i=>if i<k then b i else a i
theorem mix_len{α : Type}(n:Nat)(a b:Nat -> α)(k:Nat):(mix n a b k).length=n:=by simp[mix]
theorem mix_zero{α : Type}(n:Nat)(a b:Nat -> α):mix n a b 0=(List.range n).map a:=by simp[mix]
theorem mix_full{α : Type}(n:Nat)(a b:Nat -> α):mix n a b n=(List.range n).map b:=by
 unfold mix;refine List.map_congr_left fun i hi=>?_
 rw[if_pos (by simpa using hi)]
theorem mix_succ{α : Type}(n:Nat)(a b:Nat -> α)(k:Nat):mix n a b (k+1)=(mix n a b k).set k (b k):=by
 refine List.ext_getElem (by simp[mix]) fun i h1 h2=>?_
 rw[List.getElem_set]
 by_cases e:k=i
 ·subst e;rw[if_pos rfl];simp[mix]
 ·rw[if_neg e]
  have:(i<k+1)<->i<k:=by omega
  simp only[mix,List.getElem_map,List.getElem_range,this]
theorem mix_same{α : Type}(n:Nat)(a b:Nat -> α)(k:Nat)(h:a k=b k):mix n a b (k+1)=mix n a b k:=by
 unfold mix;refine List.map_congr_left fun i _=>?_
 by_cases e:i=k
 ·subst e;simp[h]
 ·have:(i<k+1)<->i<k:=by omega
  simp only[this]
theorem mix_get{α : Type}(n:Nat)(a b:Nat -> α)(k:Nat)(z : α){i:Nat}(hi:i<n):(mix n a b k).getD i z=if i<k then b i else a i:=by
 simp[mix,List.getD_eq_getElem?_getD,hi]
theorem map_getD{α : Type}(l:List α)(z : α):l=(List.range l.length).map fun i=>l.getD i z:=by
 refine List.ext_getElem (by simp) fun i h1 h2=>?_
 simp[List.getD_eq_getElem?_getD,h1]
def Tr.out(t:Tr)(g:Gu):Nat->List Int
 |0=>List.replicate t.ss.length 0
 |r+1=>(List.range t.ss.length).map fun i=>if t.cond g (t.G g r) i then((r+1:Nat):Int) else(t.out g r).getD i 0
theorem out_len(t:Tr)(g:Gu):∀r,(t.out g r).length=t.ss.length
 |0=>by simp[Tr.out]
 |r+1=>by simp[Tr.out]
def Tr.lds(t:Tr)(g:Gu):List Int:=(List.range t.ss.length).map fun i=>t.ld g (i:Nat)
def Tr.tc(t:Tr):List AV:=[.int .i64 t.L, .isl (t.ss.map i1)]
theorem lds_len(t:Tr)(g:Gu):(t.lds g).length=t.ss.length:=by simp[Tr.lds]
theorem lds_get{t:Tr}{g:Gu}{i:Nat}(h:i<t.ss.length):(t.lds g).getD i 0=t.ld g i:=by simp[Tr.lds,List.getD_eq_getElem?_getD,h]
set_option maxHeartbeats 4000000 in
theorem g19(d:Dm)(t:Tr)(g:Gu)(H:Of d t)(hg:g.ok d.rs.length):FnO Tryz.prog 76 [.agg d.cells, .agg g.av, .agg t.tc] (fun r rows=>r = .row 5/\rows=[(5, .row false 3 1 ((t.out g t.ss.length).map i1))]):=by
 have hl:=H.ok.2.1
 have hLn:=H.len
 have hgt:g.ok t.ss.length:=by rw[hLn];exact hg
 have hL:(d.rs.map s2).length=t.ss.length:=by rw[hLn];simp
 have hLs:(t.ss.map i1).length=t.ss.length:=by simp
 have hld:=fun i=>ld_bd H.ok (n:=d.rs.length) hg i
 refine fnO 8 ok76 (by simp) ?_
 (conv=>whnf);(repeat'((first|apply bT|apply bF|apply bN|((first|apply bD|apply bEq|apply bNe)<;>intro hh<;>try(exfalso;omega))|refine mkI (by omega) (by omega) (by omega) ?_|refine wJ ?_|refine nJ ?_)<;>conv=>whnf))
 refine loop_i (α :=Nat) (fun k=>[(11, .int .i64 k),(10, .row 5),(9, .row 4),(8, .row 3),(7, .int .i64 (d.rs.map s2).length),(5, .own 2 0),(4, .own 1 0),(3, .own 0 0)]) (fun k=>[.box false d.cells, .box false g.av, .box false t.tc, .row false 3 1 ((mix t.ss.length (fun _=>0) (fun i=>t.ld g (i:Nat)) k).map i1), .row false 4 1 ((t.G g 0).map b1), .row false 3 1 ((t.out g 0).map i1), .fresh, .fresh]) (fun k=>k<=t.ss.length) (fun k=>t.ss.length-k) 0 ?_ (by omega) ?_
 ·have e1:(mix t.ss.length (fun _=>0) (fun i=>t.ld g (i:Nat)) 0).map i1=List.replicate ((d.rs.map s2).length:Int).toNat [.int .i64 0]:=by
   rw[mix_zero,hL];refine List.ext_getElem (by simp) fun i h1 h2=>?_;simp[i1]
  have e2:(t.G g 0).map b1=List.replicate ((d.rs.map s2).length:Int).toNat [.bool false]:=by rw[hL];simp[Tr.G,b1]
  have e3:(t.out g 0).map i1=List.replicate ((d.rs.map s2).length:Int).toNat [.int .i64 0]:=by rw[hL];simp[Tr.out,i1]
  rw[e1,e2,e3];exact mI
 intro k hk
 conv=>whnf
 refine bD (fun h3=>?_) (fun h3=>?_)
 ·have hlt:k<t.ss.length:=by omega
  have hmx:((mix t.ss.length (fun _=>0) (fun i=>t.ld g (i:Nat)) k).map i1).length=t.ss.length:=by rw[List.length_map,mix_len]
  have em:((mix t.ss.length (fun _=>(0:Int)) (fun i=>t.ld g (i:Nat)) k).map i1).getD (k:Int).toNat []=[.int .i64 0]:=by
   rw[Int.toNat_natCast,getD_mapD i1 _ k 0 (by rw[mix_len];exact hlt),mix_get _ _ _ _ _ hlt,if_neg (by omega)];rfl
  (conv=>whnf);(repeat'((first|apply bT|apply bF|apply bN|((first|apply bD|apply bEq|apply bNe)<;>intro hh<;>try(exfalso;omega))|refine(g20 d t g k H hg (by omega)).cq rfl rfl ?_|refine iaJ em ?_|refine wJ ?_|refine nJ ?_)<;>conv=>whnf))
  refine⟨k+1,?_,by omega,by omega⟩
  rw[mix_succ,List.map_set]
  simp only[Int.natCast_add,Int.natCast_one]
  exact mI
 ·have:k=t.ss.length:=by omega
  subst this
  rw[mix_full]
  conv=>whnf
  refine loop_i (α :=Nat) (fun r=>[(12, .int .i64 (r+1:Nat)),(10, .row 5),(9, .row 4),(8, .row 3),(7, .int .i64 (d.rs.map s2).length),(5, .own 2 0),(4, .own 1 0),(3, .own 0 0)]) (fun r=>[.box false d.cells, .box false g.av, .box false t.tc, .row false 3 1 ((t.lds g).map i1), .row false 4 1 ((t.G g r).map b1), .row false 3 1 ((t.out g r).map i1), .fresh, .fresh]) (fun r=>r<=t.ss.length) (fun r=>t.ss.length-r) 0 mI (by omega) ?_
  intro r hr
  have hG:=G_len t g r
  have hG1:=G_len t g (r+1)
  have hO:=out_len t g r
  have hO1:=out_len t g (r+1)
  have hGm:((t.G g r).map b1).length=(t.G g r).length:=by simp
  conv=>whnf
  refine bD (fun h4=>?_) (fun h4=>?_)
  ·have hrn:r<t.ss.length:=by omega
   (conv=>whnf);(repeat'((first|apply bT|apply bF|apply bN|((first|apply bD|apply bEq|apply bNe)<;>intro hh<;>try(exfalso;omega))|refine wJ ?_|refine nJ ?_)<;>conv=>whnf))
   refine apI (fun e he=>?_) (by simp;omega) ?_
   ·obtain⟨s,_,rfl⟩:=List.mem_map.1 he;exact⟨rfl,rfl⟩
   (conv=>whnf);(repeat'((first|apply bT|apply bF|apply bN|((first|apply bD|apply bEq|apply bNe)<;>intro hh<;>try(exfalso;omega))|refine wJ ?_|refine nJ ?_)<;>conv=>whnf))
   refine loop_i (α :=Nat) (fun k=>[(14, .int .i64 k),(13, .row 7),(12, .int .i64 (r+1:Nat)),(10, .row 5),(9, .row 4),(8, .row 3),(7, .int .i64 (d.rs.map s2).length),(5, .own 2 0),(4, .own 1 0),(3, .own 0 0)]) (fun k=>[.box false d.cells, .box false g.av, .box false t.tc, .row false 3 1 ((t.lds g).map i1), .row false 4 1 ((t.G g r).map b1), .row false 3 1 ((mix t.ss.length (fun i=>(t.out g r).getD i 0) (fun i=>(t.out g (r+1)).getD i 0) k).map i1), .fresh, .row false 4 1 ((mix t.ss.length (fun i=>(t.G g r).getD i false) (fun i=>(t.G g (r+1)).getD i false) k).map b1)]) (fun k=>k<=t.ss.length) (fun k=>t.ss.length-k) 0 ?_ (by omega) ?_
   ·have e1:(mix t.ss.length (fun i=>(t.out g r).getD i 0) (fun i=>(t.out g (r+1)).getD i 0) 0).map i1=(t.out g r).map i1:=by
     rw[mix_zero,<- hO,<- map_getD]
    have e2:(mix t.ss.length (fun i=>(t.G g r).getD i false) (fun i=>(t.G g (r+1)).getD i false) 0).map b1=[]++(t.G g r).map b1:=by
     rw[mix_zero,<- hG,<- map_getD];rfl
    rw[e1,e2];exact mI
   intro k hk
   conv=>whnf
   refine bD (fun h5=>?_) (fun h5=>?_)
   ·have hlt:k<t.ss.length:=by omega
    have eg:((t.G g r).map b1).getD (k:Int).toNat []=[.bool ((t.G g r).getD k false)]:=by
     rw[Int.toNat_natCast,getD_mapD b1 _ k false (by omega)];rfl
    have hb1:(t.G g (r+1)).getD k false=((t.G g r).getD k false||t.cond g (t.G g r) k):=G_succ t g r k hlt
    have ho1:(t.out g (r+1)).getD k 0=if t.cond g (t.G g r) k then((r+1:Nat):Int) else(t.out g r).getD k 0:=by
     simp[Tr.out,List.getD_eq_getElem?_getD,hlt]
    cases hgk:(t.G g r).getD k false with
    |true=>
     have hcn:t.cond g (t.G g r) k=false:=by unfold Tr.cond;rw[hgk];rfl
     rw[hgk]at eg
     (conv=>whnf);(repeat'((first|apply bT|apply bF|apply bN|((first|apply bD|apply bEq|apply bNe)<;>intro hh<;>try(exfalso;omega))|refine iaJ eg ?_|refine wJ ?_|refine nJ ?_)<;>conv=>whnf))
     refine⟨k+1,?_,by omega,by omega⟩
     rw[mix_same _ _ _ k (by show(t.out g r).getD k 0=_;rw[ho1,hcn];rfl),mix_same _ _ _ k (by show(t.G g r).getD k false=_;rw[hb1,hcn,hgk];rfl)]
     simp only[Int.natCast_add,Int.natCast_one]
     exact mI
    |false=>
     rw[hgk]at eg
     have el:((t.lds g).map i1).getD (k:Int).toNat []=[.int .i64 (t.ld g k)]:=by
      rw[Int.toNat_natCast,getD_mapD i1 _ k 0 (by rw[lds_len];exact hlt),lds_get hlt];rfl
     have hLl:((t.lds g).map i1).length=t.ss.length:=by rw[List.length_map,lds_len]
     have es:(t.ss.map i1).getD (k:Int).toNat []=[.int .i64 (t.ss.getD k 0)]:=by
      rw[Int.toNat_natCast,getD_mapD i1 _ k 0 hlt];rfl
     have ca:=g46 t g (t.G g r) (t.lds g) k (-1) H.ok hgt hG rfl hlt (.inl rfl)
     have cb:=g46 t g (t.G g r) (t.lds g) k 1 H.ok hgt hG rfl hlt (.inr rfl)
     have hlk:=hld k
     have bd:∀s:Int,0<=(sside (t.ld g) (t.G g r) t.ss.length k s).tdiv 2/\(sside (t.ld g) (t.G g r) t.ss.length k s).tdiv 2<=98010/\(sside (t.ld g) (t.G g r) t.ss.length k s).tdiv 2=sside (t.ld g) (t.G g r) t.ss.length k s / 2:=fun s=>by
      have h1:=sumr_bd hld (by omega) (t.G g r) t.ss.length k s (t.ss.length-1) 1
      have h2:(19602:Int)*((t.ss.length-1:Nat):Int)<=19602*10:=by omega
      have h3:0<=sside (t.ld g) (t.G g r) t.ss.length k s/\sside (t.ld g) (t.G g r) t.ss.length k s<=196020:=by unfold sside;omega
      rw[Int.tdiv_eq_ediv_of_nonneg h3.1];omega
     have ba:=bd (-1)
     have bb:=bd 1
     have hcond:t.cond g (t.G g r) k=decide (t.ss.getD k 0<t.ld g k+(sside (t.ld g) (t.G g r) t.ss.length k (-1)).tdiv 2+(sside (t.ld g) (t.G g r) t.ss.length k 1).tdiv 2):=by
      unfold Tr.cond hand
      rw[hgk,ba.2.2,bb.2.2,Int.add_assoc];rfl
     have e7:((mix t.ss.length (fun i=>(t.G g r).getD i false) (fun i=>(t.G g (r+1)).getD i false) k).map b1).getD (k:Int).toNat []=[.bool false]:=by
      rw[Int.toNat_natCast,getD_mapD b1 _ k false (by rw[mix_len];exact hlt),mix_get _ _ _ _ _ hlt,if_neg (by omega),hgk];rfl
     have e5:((mix t.ss.length (fun i=>(t.out g r).getD i 0) (fun i=>(t.out g (r+1)).getD i 0) k).map i1).getD (k:Int).toNat []=[.int .i64 ((t.out g r).getD k 0)]:=by
      rw[Int.toNat_natCast,getD_mapD i1 _ k 0 (by rw[mix_len];exact hlt),mix_get _ _ _ _ _ hlt,if_neg (by omega)];rfl
     have l7:((mix t.ss.length (fun i=>(t.G g r).getD i false) (fun i=>(t.G g (r+1)).getD i false) k).map b1).length=t.ss.length:=by rw[List.length_map,mix_len]
     have l5:((mix t.ss.length (fun i=>(t.out g r).getD i 0) (fun i=>(t.out g (r+1)).getD i 0) k).map i1).length=t.ss.length:=by rw[List.length_map,mix_len]
     by_cases hc:t.ss.getD k 0<t.ld g k+(sside (t.ld g) (t.G g r) t.ss.length k (-1)).tdiv 2+(sside (t.ld g) (t.G g r) t.ss.length k 1).tdiv 2
     ·rw[decide_eq_true hc]at hcond
      (conv=>whnf);(repeat'((first|apply bT|apply bF|apply bN|((first|apply bD|apply bEq|apply bNe)<;>intro hh<;>try(exfalso;omega))|refine iaJ eg ?_|refine iaJ el ?_|refine iaJ es ?_|refine iaJ e7 ?_|refine iaJ e5 ?_|refine ca.lq rfl rfl ?_|refine cb.lq rfl rfl ?_|refine wJ ?_|refine nJ ?_)<;>conv=>whnf))
      refine⟨k+1,?_,by omega,by omega⟩
      rw[mix_succ,mix_succ,List.map_set,List.map_set,hb1,ho1,hcond,hgk]
      simp only[Int.natCast_add,Int.natCast_one]
      exact mI
     ·rw[decide_eq_false hc]at hcond
      (conv=>whnf);(repeat'((first|apply bT|apply bF|apply bN|((first|apply bD|apply bEq|apply bNe)<;>intro hh<;>try(exfalso;omega))|refine iaJ eg ?_|refine iaJ el ?_|refine iaJ es ?_|refine ca.lq rfl rfl ?_|refine cb.lq rfl rfl ?_|refine wJ ?_|refine nJ ?_)<;>conv=>whnf))
      refine⟨k+1,?_,by omega,by omega⟩
      rw[mix_same _ _ _ k (by show(t.out g r).getD k 0=_;rw[ho1,hcond];rfl),mix_same _ _ _ k (by show(t.G g r).getD k false=_;rw[hb1,hcond,hgk];rfl)]
      simp only[Int.natCast_add,Int.natCast_one]
      exact mI
   ·have:k=t.ss.length:=by omega
    subst this
    rw[mix_full,mix_full]
    have e1:(List.range t.ss.length).map (fun i=>(t.out g (r+1)).getD i 0)=t.out g (r+1):=by
     have:=map_getD (t.out g (r+1)) 0
     rw[hO1]at this;exact this.symm
    have e2:(List.range t.ss.length).map (fun i=>(t.G g (r+1)).getD i false)=t.G g (r+1):=by
     have:=map_getD (t.G g (r+1)) false
     rw[hG1]at this;exact this.symm
    rw[e1,e2]
    (conv=>whnf);(repeat'((first|apply bT|apply bF|apply bN|((first|apply bD|apply bEq|apply bNe)<;>intro hh<;>try(exfalso;omega))|refine wJ ?_|refine nJ ?_)<;>conv=>whnf))
    refine⟨r+1,?_,by omega,by omega⟩
    simp only[Int.natCast_add,Int.natCast_one]
    exact(mR 4 7)
  ·have:r=t.ss.length:=by omega
   subst this
   (conv=>whnf);(repeat'((first|apply bT|apply bF|apply bN|((first|apply bD|apply bEq|apply bNe)<;>intro hh<;>try(exfalso;omega))|refine wJ ?_|refine nJ ?_)<;>conv=>whnf))
   all_goals exact⟨rfl,rfl⟩
theorem g_ex{t:Tr}{g:Gu}(h0:∀i,0<=t.ld g i){i:Nat}:i∈t.gone g<->∃r,(t.G g r).getD i false=true:=
 ⟨fun h=>⟨_,(gone_mem.1 h).2⟩,fun⟨r,h⟩=>gone_mem.2 ⟨G_in t g r i h,G_mono ⟨rfl,fun _=>Int.le_refl _,h0,fun _=>Int.le_refl _⟩ r i h⟩⟩
theorem out_succ(t:Tr)(g:Gu)(r i:Nat)(hi:i<t.ss.length):(t.out g (r+1)).getD i 0=if t.cond g (t.G g r) i then((r+1:Nat):Int) else(t.out g r).getD i 0:=by
 simp[Tr.out,List.getD_eq_getElem?_getD,hi]
theorem out_pos(t:Tr)(g:Gu){i:Nat}(hi:i<t.ss.length):∀r,(0<=(t.out g r).getD i 0/\(t.out g r).getD i 0<=r)/\(1<=(t.out g r).getD i 0<->(t.G g r).getD i false=true)
 |0=>by
  have:(t.out g 0).getD i 0=0:=by simp[Tr.out,List.getD_eq_getElem?_getD,hi]
  rw[this,G0];simp
 |r+1=>by
  have ih:=out_pos t g hi r
  rw[out_succ t g r i hi,G_succ t g r i hi]
  cases t.cond g (t.G g r) i
  ·simp only[Bool.false_eq_true,if_false,Bool.or_false]
   refine⟨by omega,ih.2⟩
  ·simp only[if_true,Bool.or_true,iff_true];omega
theorem out_gone{t:Tr}{g:Gu}(h0:∀i,0<=t.ld g i){i:Nat}(hi:i<t.ss.length):1<=(t.out g t.ss.length).getD i 0<->i∈t.gone g:=by
 rw[(out_pos t g hi _).2,g_ex h0]
 refine⟨fun h=>⟨_,h⟩,fun h=>?_⟩
 have h1:=(gone_mem.1 ((g_ex h0).2 h)).2
 have h2:=G_le t g i (t.K g) (t.ss.length-t.K g) h1
 have h3:=(K_ok t g).2.2
 rwa [show t.K g+(t.ss.length-t.K g)=t.ss.length from by omega]at h2
def wnt(o:List Int)(m:Int):List Nat:=lst o.length fun i=>decide (1<=o.getD i 0/\o.getD i 0<=m)
theorem wnt_gone{t:Tr}{g:Gu}(h0:∀i,0<=t.ld g i):wnt (t.out g t.ss.length) t.ss.length=t.gone g:=by
 unfold wnt Tr.gone lst
 rw[out_len]
 refine List.filter_congr fun i hi=>?_
 have hi':i<t.ss.length:=by simpa using hi
 have h1:=out_gone h0 hi'
 have h2:=(out_pos t g hi' t.ss.length).1
 rw[gone_mem]at h1
 rw[Bool.eq_iff_iff]
 simp only[decide_eq_true_eq]
 exact⟨fun h=>(h1.1 h.1).2,fun h=>⟨h1.2 ⟨hi',h⟩,h2.2⟩⟩
theorem g47(o:List Int)(m:Int)(hn:o.length<=1000):FnO Tryz.prog 75 [.isl (o.map i1), .int .i64 m] (fun r rows=>r = .row 2/\rows=[(2, .row false 3 1 ((wnt o m).map n1))]):=by
 have hL:(o.map i1).length=o.length:=by simp
 refine fnO 3 ok75 (by simp) ?_
 conv=>whnf
 refine loop_i (α :=Nat) (fun k=>[(6, .int .i64 k),(5, .row 2),(1, .int .i64 m),(0, .isl (o.map i1))]) (fun k=>[.fresh, .fresh, .row false 3 1 ((lst k fun i=>decide (1<=o.getD i 0/\o.getD i 0<=m)).map n1)]) (fun k=>k<=o.length) (fun k=>o.length-k) 0 (mN 2) (by omega) ?_
 intro k hk
 conv=>whnf
 refine bD (fun h3=>?_) (fun h3=>?_)
 ·have hlt:k<o.length:=by omega
  have hs:=lst_succ k fun i=>decide (1<=o.getD i 0/\o.getD i 0<=m)
  have hlen:=lst_le k fun i=>decide (1<=o.getD i 0/\o.getD i 0<=m)
  have eo:(o.map i1).getD (k:Int).toNat []=[.int .i64 (o.getD k 0)]:=by
   rw[Int.toNat_natCast,getD_mapD i1 o k 0 hlt];rfl
  have c:=g34 (o.getD k 0) 1 m
  by_cases hc:1<=o.getD k 0/\o.getD k 0<=m
  ·rw[decide_eq_true hc]at c
   rw[if_pos (decide_eq_true hc)]at hs
   (conv=>whnf);(repeat'((first|apply bT|apply bF|apply bN|((first|apply bD|apply bEq|apply bNe)<;>intro hh<;>try(exfalso;omega))|refine iaJ eo ?_|refine c.cq rfl rfl ?_|refine wJ ?_|refine nJ ?_)<;>conv=>whnf))
   refine apI (by simp[AV.one]) (by rw[List.length_map];simp only[List.length_cons,List.length_nil];omega) ?_
   (conv=>whnf);(repeat'((first|apply bT|apply bF|apply bN|((first|apply bD|apply bEq|apply bNe)<;>intro hh<;>try(exfalso;omega))|refine wJ ?_|refine nJ ?_)<;>conv=>whnf))
   refine⟨k+1,?_,by omega,by omega⟩
   have e:(lst (k+1) fun i=>decide (1<=o.getD i 0/\o.getD i 0<=m)).map n1=(lst k fun i=>decide (1<=o.getD i 0/\o.getD i 0<=m)).map n1++[[.int .i64 k]]:=by rw[hs];simp[n1]
   rw[e]
   simp only[Int.natCast_add,Int.natCast_one]
   exact(mR 2 1)
  ·rw[decide_eq_false hc]at c
   rw[if_neg (by rw[decide_eq_false hc];simp)]at hs
   (conv=>whnf);(repeat'((first|apply bT|apply bF|apply bN|((first|apply bD|apply bEq|apply bNe)<;>intro hh<;>try(exfalso;omega))|refine iaJ eo ?_|refine c.cq rfl rfl ?_|refine wJ ?_|refine nJ ?_)<;>conv=>whnf))
   refine⟨k+1,?_,by omega,by omega⟩
   rw[hs]
   simp only[Int.natCast_add,Int.natCast_one]
   exact mI
 ·have:k=o.length:=by omega
  subst this
  (conv=>whnf);(repeat'((first|apply bT|apply bF|apply bN|((first|apply bD|apply bEq|apply bNe)<;>intro hh<;>try(exfalso;omega))|refine wJ ?_|refine nJ ?_)<;>conv=>whnf))
  all_goals exact⟨rfl,rfl⟩
theorem g22(d:Dm)(t:Tr)(l:List Gu)(H:Of d t)(hl:l.length<=1000)(hg:∀g∈l,g.ok d.rs.length):FnA Tryz.prog 34 [.agg d.cells, .isl (l.map Gu.av), .agg t.tc] (· = .bool (t.stands l)):=by
 have hL:(l.map Gu.av).length=l.length:=by simp
 have hR:(d.rs.map s2).length=t.ss.length:=by rw[H.len];simp
 have hn:=H.ok.2.1
 refine fnA 4 ok34 (by simp) ?_
 conv=>whnf
 refine loop_i (α :=Nat) (fun k=>[(7, .int .i64 k),(5, .own 1 0),(3, .own 0 0),(1, .isl (l.map Gu.av))]) (fun k=>[.box false d.cells, .box false t.tc, .fresh, .fresh]) (fun k=>k<=l.length/\∀g∈l.take k,(t.weak g).isEmpty=true) (fun k=>l.length-k) 0 mI ⟨by omega,by simp⟩ ?_
 rintro k ⟨hk,hp⟩
 conv=>whnf
 refine bD (fun h3=>?_) (fun h3=>?_)
 ·have hlt:k<l.length:=by omega
  have hgk:=hg l[k] (List.getElem_mem hlt)
  have h0:∀i,0<=t.ld l[k] i:=fun i=>(ld_bd H.ok (n:=d.rs.length) hgk i).1
  have c47:=g47 (t.out l[k] t.ss.length) t.ss.length (by rw[out_len];omega)
  rw[wnt_gone h0,<- hR]at c47
  have c19:=g19 d t l[k] H hgk
  rw[<- hR]at c19
  have hlg:((t.gone l[k]).map n1).length=(t.gone l[k]).length:=by simp
  cases hw:(t.weak l[k]).isEmpty with
  |true=>
   have hge:t.gone l[k]=[]:=weak_nil (by simpa using hw)
   rw[hge]at c47
   (conv=>whnf);(repeat'((first|apply bT|apply bF|apply bN|((first|apply bD|apply bEq|apply bNe)<;>intro hh<;>try(exfalso;omega))|refine iaJ (getD_map Gu.av l k hlt) ?_|refine c19.oq rfl rfl rfl ?_|refine c47.oq rfl rfl rfl ?_|refine wJ ?_|refine nJ ?_)<;>conv=>whnf))
   refine⟨k+1,?_,⟨by omega,gtake_all (p:=fun g=>(t.weak g).isEmpty) hlt hp hw⟩,by omega⟩
   simp only[Int.natCast_add,Int.natCast_one]
   exact mI
  |false=>
   have hge:1<=(t.gone l[k]).length:=by
    cases hh:t.gone l[k]with
    |nil=>rw[gone_nil.1 hh]at hw;cases hw
    |cons x m=>simp
   (conv=>whnf);(repeat'((first|apply bT|apply bF|apply bN|((first|apply bD|apply bEq|apply bNe)<;>intro hh<;>try(exfalso;omega))|refine iaJ (getD_map Gu.av l k hlt) ?_|refine c19.oq rfl rfl rfl ?_|refine c47.oq rfl rfl rfl ?_|refine wJ ?_|refine nJ ?_)<;>conv=>whnf))
   all_goals (refine congrArg AV.bool ?_;exact(all_false (p:=fun g=>(t.weak g).isEmpty) hlt hw).symm)
 ·have:k=l.length:=by omega
  subst this
  rw[List.take_length]at hp
  have e:t.stands l=true:=by unfold Tr.stands;exact List.all_eq_true.2 hp
  rw[e]
  (conv=>whnf);(repeat'((first|apply bT|apply bF|apply bN|((first|apply bD|apply bEq|apply bNe)<;>intro hh<;>try(exfalso;omega))|refine wJ ?_|refine nJ ?_)<;>conv=>whnf))
  all_goals rfl
theorem g13(d:Dm)(a s:Int)(h:d.f.ok)(ha:1<=a/\a<=2000)(hs:0<=s/\s<=2000):FnA Tryz.prog 33 [.agg d.cells, .agg [.int .i64 a, .int .i64 s]] (· = .int .i64 (lf (rq (cosQ d.f.lo (a,s))))):=by
 have hlo:=lo_bd h
 have hb:=cos_bd2 hlo ha hs
 have hr:=red_bd hb.1 hb.2
 have hk:=k38 d.f.lo a s hlo ha hs
 change FnA Tryz.prog 74 [.int .i64 d.f.lo, .agg [.int .i64 a, .int .i64 s]] (· = .tup [.agg [.int .i64 (redN (cosN d.f.lo a s) (cosD d.f.lo a)), .int .i64 (redD (cosN d.f.lo a s) (cosD d.f.lo a))], .bool true])at hk
 have e:lf (rq (cosQ d.f.lo (a,s)))=lf (redN (cosN d.f.lo a s) (cosD d.f.lo a),redD (cosN d.f.lo a s) (cosD d.f.lo a)):=rfl
 rw[e]
 generalize redN (cosN d.f.lo a s) (cosD d.f.lo a)=N at *
 generalize redD (cosN d.f.lo a s) (cosD d.f.lo a)=D at *
 have hq:=lf_eq (n:=N) hr.2.1
 have hf:=tdiv_floor (a:=100*N) hr.2.1
 have h1:=tdiv_abs (a:=100*N) hr.2.1 10000000000 (by omega) (by omega)
 rw[hq]
 refine fnA 3 ok33 (by simp) ?_
 (conv=>whnf);(repeat'((first|apply bT|apply bF|apply bN|((first|apply bD|apply bEq|apply bNe)<;>intro hh<;>try(exfalso;omega))|refine hk.cq rfl rfl ?_|refine wJ ?_|refine nJ ?_)<;>conv=>whnf))
 ·simp only[if_true,Bool.false_eq_true,if_false];rw[hf,if_pos (by assumption)]
 ·simp only[if_true,Bool.false_eq_true,if_false];rw[hf,if_neg (by assumption)]
def Dm.isT(d:Dm)(a s:Int)(ss:List Int):Prop:=ss.length=d.rs.length/\(∀i<d.rs.length,(d.rs.getD i (0,0)).1<=ss.getD i 0/\ss.getD i 0<=(d.rs.getD i (0,0)).2)/\(a,s)∈d.f.s0.sides
theorem g11(d:Dm)(a s:Int)(ss:List Int)(h:d.f.ok)(hn:d.rs.length<=1000)(hl:ss.length<=9223372036854775807):FnA Tryz.prog 32 [.agg d.cells, .agg [.int .i64 a, .int .i64 s], .isl (ss.map i1)] (fun r=>∃b:Bool,r = .bool b/\(b=true->d.isT a s ss)):=by
 have hL:(d.rs.map s2).length=d.rs.length:=by simp
 have hS:(ss.map i1).length=ss.length:=by simp
 refine fnA 2 ok32 (by simp) ?_
 conv=>whnf
 refine loop_i (α :=Nat) (fun k=>[(7, .int .i64 k),(4, .own 1 0),(3, .own 0 0),(2, .isl (ss.map i1))]) (fun k=>[.box false d.cells, .box false [.int .i64 a, .int .i64 s]]) (fun k=>k<=ss.length/\k<=d.rs.length/\∀i<k,(d.rs.getD i (0,0)).1<=ss.getD i 0/\ss.getD i 0<=(d.rs.getD i (0,0)).2) (fun k=>d.rs.length-k) 0 mI ⟨by omega,by omega,fun i hi=>by omega⟩ ?_
 rintro k ⟨hk1,hk2,hk3⟩
 by_cases hlt:k<ss.length/\k<d.rs.length
 ·have e1:(ss.map i1).getD (k:Int).toNat []=[.int .i64 (ss.getD k 0)]:=by
   rw[Int.toNat_natCast,getD_mapD i1 ss k 0 hlt.1];rfl
  have e2:(d.rs.map s2).getD (k:Int).toNat []=s2 (d.rs.getD k (0,0)):=by
   rw[Int.toNat_natCast,getD_mapD s2 d.rs k (0,0) hlt.2]
  have c:=g34 (ss.getD k 0) (d.rs.getD k (0,0)).1 (d.rs.getD k (0,0)).2
  by_cases hc:(d.rs.getD k (0,0)).1<=ss.getD k 0/\ss.getD k 0<=(d.rs.getD k (0,0)).2
  ·rw[decide_eq_true hc]at c
   (conv=>whnf);(repeat'((first|apply bT|apply bF|apply bN|((first|apply bD|apply bEq|apply bNe)<;>intro hh<;>try(exfalso;omega))|refine iaJ e1 ?_|refine iaJ e2 ?_|refine c.cq rfl rfl ?_|refine wJ ?_|refine nJ ?_)<;>conv=>whnf))
   refine⟨k+1,?_,⟨by omega,by omega,fun i hi=>?_⟩,by omega⟩
   ·simp only[Int.natCast_add,Int.natCast_one]
    exact mI
   ·by_cases e:i=k
    ·subst e;exact hc
    ·exact hk3 i (by omega)
  ·rw[decide_eq_false hc]at c
   (conv=>whnf);(repeat'((first|apply bT|apply bF|apply bN|((first|apply bD|apply bEq|apply bNe)<;>intro hh<;>try(exfalso;omega))|refine iaJ e1 ?_|refine iaJ e2 ?_|refine c.cq rfl rfl ?_|refine wJ ?_|refine nJ ?_)<;>conv=>whnf))
   all_goals exact⟨false,rfl,fun h=>by cases h⟩
 ·by_cases hlen:ss.length=d.rs.length
  ·have hkk:k=d.rs.length:=by omega
   subst hkk
   have h1:=h.1
   have c:=k36 d.f 0 a s h (by omega)
   have hside:decide (((d.f.sec 0).al<=a/\a<=(d.f.sec 0).ah)/\(d.f.sec 0).sl<=s/\s<=(d.f.sec 0).sh)=true->(a,s)∈d.f.s0.sides:=fun hd=>mem_sides.2 (of_decide_eq_true hd)
   (conv=>whnf);(repeat'((first|apply bT|apply bF|apply bN|((first|apply bD|apply bEq|apply bNe)<;>intro hh<;>try(exfalso;omega))|refine c.cq rfl rfl ?_|refine wJ ?_|refine nJ ?_)<;>conv=>whnf))
   all_goals exact⟨_,rfl,fun hd=>⟨hlen,hk3,hside hd⟩⟩
  ·(conv=>whnf);(repeat'((first|apply bT|apply bF|apply bN|((first|apply bD|apply bEq|apply bNe)<;>intro hh<;>try(exfalso;omega))|refine wJ ?_|refine nJ ?_)<;>conv=>whnf))
   all_goals exact⟨false,rfl,fun h=>by cases h⟩
theorem bestc_get{d:Dm}{i:Nat}(hi:i<d.rs.length):d.best.ss.getD i 0=(d.rs.getD i (0,0)).2:=by simp[Dm.best,List.getD_eq_getElem?_getD,hi]
theorem worstc_get{d:Dm}{i:Nat}(hi:i<d.rs.length):d.worst.ss.getD i 0=(d.rs.getD i (0,0)).1:=by simp[Dm.worst,List.getD_eq_getElem?_getD,hi]
theorem leq_gen{t u:Tr}(ht:t.ok)(hL:t.L<=u.L)(hsh:t.sh=u.sh)(hlen:t.ss.length=u.ss.length)(hss:∀i,u.ss.getD i 0<=t.ss.getD i 0){g:Gu}(hg:g.ok t.ss.length):Leq t u g g:=
 ⟨hlen,hss,fun j=>(ld_bd ht hg j).1,fun j=>ld_mono (t:=t) (u:=u) (F:=g.F) (F':=g.F) (A:=g.A) ht hsh hlen hL hg.1.1 (Int.le_refl _) j⟩
def Dm.tr(d:Dm)(a s:Int)(ss:List Int):Tr:=⟨lf (rq (cosQ d.f.lo (a,s))),ss,d.sh⟩
theorem isT_facts{d:Dm}{a s:Int}{ss:List Int}(hb:d.okB=true)(h:d.isT a s ss):Of d (d.tr a s ss)/\(∀g:Gu,g.ok d.rs.length->Leq d.best (d.tr a s ss) g g/\Leq (d.tr a s ss) d.worst g g)/\(d.f.l0<=(d.tr a s ss).L/\(d.tr a s ss).L<=d.f.l1):=by
 have hb':=okB_iff.1 hb
 have hl:=l01_side hb'.1 h.2.2
 have hlb:=l01_bd hb'.1
 have hlen:=h.1
 have hbl:=best_len d
 have hwl:=worst_len d
 have hok:(d.tr a s ss).ok:=by
  refine⟨by show 0<=lf _/\lf _<=200;omega,by show 3<=ss.length/\ss.length<=10;omega,by show d.sh.length=ss.length;omega,hb'.2.2.2.2,fun x hx=>?_⟩
  obtain⟨i,hi,rfl⟩:=List.mem_iff_getElem.1 hx
  have hi':i<ss.length:=hi
  have h1:=h.2.1 i (by omega)
  have h2:=rib_mem hb _ (List.getElem_mem (show i<d.rs.length by omega))
  unfold okRib at h2
  rw[List.getD_eq_getElem?_getD,List.getElem?_eq_getElem (show i<d.rs.length by omega),List.getD_eq_getElem?_getD,List.getElem?_eq_getElem hi']at h1
  simp only[Option.getD_some]at h1
  show 0<=ss[i]/\ss[i]<=99999
  omega
 have hs1:∀i,ss.getD i 0<=d.best.ss.getD i 0:=fun i=>by
  by_cases hi:i<d.rs.length
  ·rw[bestc_get hi];exact(h.2.1 i hi).2
  ·rw[List.getD_eq_getElem?_getD,List.getElem?_eq_none (by omega),List.getD_eq_getElem?_getD,List.getElem?_eq_none (by omega)];simp
 have hs2:∀i,d.worst.ss.getD i 0<=ss.getD i 0:=fun i=>by
  by_cases hi:i<d.rs.length
  ·rw[worstc_get hi];exact(h.2.1 i hi).1
  ·rw[List.getD_eq_getElem?_getD,List.getElem?_eq_none (by omega),List.getD_eq_getElem?_getD,List.getElem?_eq_none (by omega)];simp
 exact⟨⟨hok,hlen,rfl⟩,fun g hg=>⟨leq_gen (t:=d.best) (u:=d.tr a s ss) (best_ok hb) hl.1 rfl (hbl.trans hlen.symm) hs1 (by rw[hbl];exact hg),leq_gen (t:=d.tr a s ss) (u:=d.worst) hok hl.2 rfl (hlen.trans hwl.symm) hs2 (by show g.ok ss.length;rw[hlen];exact hg)⟩,hl⟩
def Sec.fin(s:Sec)(a b c d:Int):Sec:=⟨s.al+a,s.ah-b,s.sl+c,s.sh-d,s.base,s.num,s.den⟩
def Frm.fin(f:Frm)(j:Nat)(a b c d:Int):Frm:={ f with ss:=f.ss.set j ((f.sec j).fin a b c d) }
structure Blw where
 a:Int
 lo:Int
 hi:Int
deriving DecidableEq
structure Met where
 L:Int
 c:Int
deriving DecidableEq
def okBlw(n:Nat)(b:Blw):Prop:=(0<=b.a/\b.a<n)/\(0<=b.lo/\b.lo<=b.hi)/\b.hi<=99/\b.hi-b.lo<=9
instance (n:Nat) (b:Blw):Decidable (okBlw n b):=by unfold okBlw;infer_instance
def okMet(m:Met):Prop:=(0<=m.L/\m.L<=99)/\0<=m.c/\m.c<=8
instance (m:Met):Decidable (okMet m):=by unfold okMet;infer_instance
def csK(F:List Int->List (List Int))(f:List Int)(lo:Int):Nat->List (List Int)
 |0=>[]
 |n+1=>csK F f lo n++F (f++[lo+n])
def wid(b:Blw):Nat:=(b.hi+1-b.lo).toNat
def csF:List Blw->List Int->List (List Int)
 | [],f=>[f]
 |b::bs,f=>csK (csF bs) f b.lo (wid b)
def prd(bs:List Blw):Nat:=bs.foldl (fun n b=>n*wid b) 1
theorem csK_len{F:List Int->List (List Int)}{f:List Int}{lo:Int}{B:Nat}(h:∀g,(F g).length=B):∀m,(csK F f lo m).length=m*B:=by
 intro m;induction m with
 |zero=>simp[csK]
 |succ m ih=>rw[csK,List.length_append,ih,h,Nat.succ_mul]
theorem prd_mul:∀(bs:List Blw) (n:Nat),bs.foldl (fun n b=>n*wid b) n=n*prd bs:=by
 intro bs;induction bs with
 |nil=>intro n;simp[prd]
 |cons b bs ih=>intro n;simp only[prd,List.foldl_cons,Nat.one_mul];rw[ih (n*wid b),ih (wid b),Nat.mul_assoc]
theorem prd_cons(b:Blw)(bs:List Blw):prd (b::bs)=wid b*prd bs:=by
 simp only[prd,List.foldl_cons,Nat.one_mul];exact prd_mul bs _
theorem csF_len:∀(bs:List Blw) (f:List Int),(csF bs f).length=prd bs:=by
 intro bs;induction bs with
 |nil=>intro f;simp[csF,prd]
 |cons b bs ih=>intro f;rw[csF,csK_len ih,prd_cons]
theorem mem_csK{F:List Int->List (List Int)}{f l:List Int}{lo:Int}:∀ {m:Nat},l∈csK F f lo m<->∃n,n<m/\l∈F (f++[lo+(n:Nat)]):=by
 intro m;induction m with
 |zero=>simp[csK]
 |succ m ih=>
  rw[csK,List.mem_append,ih]
  constructor
  ·rintro(⟨n,h1,h2⟩|h)
   ·exact⟨n,by omega,h2⟩
   ·exact⟨m,by omega,h⟩
  ·rintro⟨n,h1,h2⟩
   by_cases e:n=m
   ·subst e;exact .inr h2
   ·exact .inl ⟨n,by omega,h2⟩
def isC:List Blw->List Int->Prop
 | [],[]=>True
 |b::bs,x::l=>(b.lo<=x/\x<=b.hi)/\isC bs l
 |_,_=>False
theorem mem_csF:∀ {bs:List Blw} {f l:List Int},l∈csF bs f<->∃g,l=f++g/\isC bs g:=by
 intro bs;induction bs with
 |nil=>
  intro f l
  rw[csF,List.mem_singleton]
  constructor
  ·rintro rfl;exact⟨[],by simp,trivial⟩
  ·rintro⟨g,rfl,h⟩
   cases g with
   |nil=>simp
   |cons _ _=>exact h.elim
 |cons b bs ih=>
  intro f l
  rw[csF,mem_csK]
  constructor
  ·rintro⟨n,h1,h2⟩
   obtain⟨g,rfl,h3⟩:=ih.1 h2
   exact⟨(b.lo+n)::g,by simp,⟨by unfold wid at h1;omega,h3⟩⟩
  ·rintro⟨g,rfl,h⟩
   cases g with
   |nil=>exact h.elim
   |cons x g=>
    obtain⟨h1,h2⟩:=h
    refine⟨(x-b.lo).toNat,by unfold wid;omega,ih.2 ⟨g,?_,h2⟩⟩
    rw[show b.lo+((x-b.lo).toNat:Nat)=x by omega];simp
def css(bs:List Blw):List (List Int):=csF bs []
theorem mem_css{bs:List Blw}{l:List Int}:l∈css bs<->isC bs l:=by
 rw[css,mem_csF];simp
theorem isC_iff:∀ {bs:List Blw} {l:List Int},isC bs l<->l.length=bs.length/\∀i,i<bs.length->(bs.getD i ⟨0,0,0⟩).lo<=l.getD i 0/\l.getD i 0<=(bs.getD i ⟨0,0,0⟩).hi:=by
 intro bs;induction bs with
 |nil=>intro l;cases l<;>simp[isC]
 |cons b bs ih=>
  intro l
  cases l with
  |nil=>simp[isC]
  |cons x l=>
   rw[isC,ih]
   constructor
   ·rintro⟨h1,h2,h3⟩
    refine⟨by simp[h2],fun i hi=>?_⟩
    cases i with
    |zero=>simpa using h1
    |succ i=>simpa using h3 i (by simpa using hi)
   ·rintro⟨h1,h2⟩
    refine⟨by simpa using h2 0 (by simp),by simpa using h1,fun i hi=>by simpa using h2 (i+1) (by simpa using hi)⟩
theorem css_len(bs:List Blw):(css bs).length=prd bs:=csF_len bs []
def abv(f:List Int)(L:Int):Nat:=f.countP fun x=>decide (L<=x)
def rgtM(m:Met)(f:List Int):Bool:=decide ((abv f m.L:Int)=m.c)
def wrg(ms:List Met)(f:List Int):Nat:=ms.countP fun m => !rgtM m f
def trs(bs:List Blw)(ms:List Met)(w:Int):List (List Int):=(css bs).filter fun f=>decide ((wrg ms f:Int)<=w)
theorem mem_trs{bs:List Blw}{ms:List Met}{w:Int}{f:List Int}:f∈trs bs ms w<->isC bs f/\(wrg ms f:Int)<=w:=by
 rw[trs,List.mem_filter,mem_css,decide_eq_true_eq]
theorem trs_le(bs:List Blw)(ms:List Met)(w:Int):(trs bs ms w).length<=prd bs:=by
 rw[<- css_len];exact List.length_filter_le _ _
def fewK(ms:List Met)(l:List (List Int)):Nat->Int
 |0=>(ms.length:Nat)
 |k+1=>min (fewK ms l k) (wrg ms (l.getD k []):Nat)
def few(bs:List Blw)(ms:List Met):Int:=fewK ms (css bs) (css bs).length
theorem fewK_spec(ms:List Met)(l:List (List Int)):∀k,k<=l.length->(fewK ms l k<=ms.length/\(∀i,i<k->fewK ms l k<=(wrg ms (l.getD i []):Nat))/\(fewK ms l k=ms.length\/∃i,i<k/\fewK ms l k=(wrg ms (l.getD i []):Nat))):=by
 intro k;induction k with
 |zero=>intro _;exact⟨Int.le_refl _,fun i h=>by omega, .inl rfl⟩
 |succ k ih=>
  intro hk
  obtain⟨a,b,c⟩:=ih (by omega)
  rw[fewK]
  refine⟨by omega,fun i hi=>?_,?_⟩
  ·by_cases e:i=k
   ·subst e;omega
   ·have:=b i (by omega);omega
  ·by_cases h:fewK ms l k<=(wrg ms (l.getD k []):Nat)
   ·rw[Int.min_eq_left h]
    rcases c with c|⟨i,h1,h2⟩
    ·exact .inl c
    ·exact .inr ⟨i,by omega,h2⟩
   ·rw[Int.min_eq_right (by omega)];exact .inr ⟨k,by omega,rfl⟩
theorem wrg_le(ms:List Met)(f:List Int):wrg ms f<=ms.length:=List.countP_le_length
theorem few_le{bs:List Blw}{ms:List Met}{f:List Int}(h:isC bs f):few bs ms<=(wrg ms f:Nat):=by
 obtain⟨i,hi,e⟩:=List.getElem_of_mem (mem_css.2 h)
 have:=(fewK_spec ms (css bs) _ (Nat.le_refl _)).2.1 i hi
 rwa [show(css bs).getD i []=f from by rw[List.getD_eq_getElem?_getD,List.getElem?_eq_getElem hi];exact e]at this
theorem few_ex{bs:List Blw}{ms:List Met}(h:css bs≠[]):∃f,isC bs f/\few bs ms=(wrg ms f:Nat):=by
 rcases(fewK_spec ms (css bs) _ (Nat.le_refl _)).2.2 with c|⟨i,h1,h2⟩
 ·obtain⟨f,hf⟩:=List.exists_mem_of_ne_nil _ h
  refine⟨f,mem_css.1 hf,?_⟩
  have a:=few_le (ms:=ms) (mem_css.1 hf)
  have b:=wrg_le ms f
  unfold few at a⊢;omega
 ·refine⟨_,?_,h2⟩
  rw[List.getD_eq_getElem?_getD,List.getElem?_eq_getElem h1]
  exact mem_css.1 (List.getElem_mem h1)
def okBs(n:Nat)(bs:List Blw):Prop:=bs.length<=8/\∀b∈bs,okBlw n b
theorem isC_lo:∀ {bs:List Blw},(∀b∈bs,b.lo<=b.hi)->isC bs (bs.map (·.lo)):=by
 intro bs;induction bs with
 |nil=>intro _;trivial
 |cons b bs ih=>intro h;exact⟨⟨Int.le_refl _,h b (by simp)⟩,ih fun c hc=>h c (by simp[hc])⟩
theorem css_ne{n:Nat}{bs:List Blw}(h:okBs n bs):css bs≠[]:=by
 intro e
 have:=mem_css.2 (isC_lo (bs:=bs) fun b hb=>(h.2 b hb).2.1.2)
 rw[e]at this;cases this
theorem few_iff{n:Nat}{bs:List Blw}{ms:List Met}{w:Int}(h:okBs n bs):few bs ms<=w<->trs bs ms w≠[]:=by
 constructor
 ·intro hw e
  obtain⟨f,h1,h2⟩:=few_ex (ms:=ms) (css_ne h)
  have:f∈trs bs ms w:=mem_trs.2 ⟨h1,by omega⟩
  rw[e]at this;cases this
 ·intro hn
  obtain⟨f,hf⟩:=List.exists_mem_of_ne_nil _ hn
  obtain⟨h1,h2⟩:=mem_trs.1 hf
  have:=few_le (ms:=ms) h1;omega
theorem few0(bs:List Blw)(ms:List Met):0<=few bs ms/\few bs ms<=ms.length:=by
 refine⟨?_,(fewK_spec ms _ _ (Nat.le_refl _)).1⟩
 rcases(fewK_spec ms (css bs) _ (Nat.le_refl _)).2.2 with c|⟨i,_,c⟩<;>unfold few<;>omega
def frc(l:List (List Int))(k:Nat):List Int:=((List.range 100).filter fun n=>l.any fun f=>decide (f.getD k 0=((n:Nat):Int))).map fun(n:Nat)=>(n:Int)
theorem mem_frc{n:Nat}{bs:List Blw}{ms:List Met}{w:Int}(h:okBs n bs){k:Nat}(hk:k<bs.length){x:Int}:x∈frc (trs bs ms w) k<->∃f,f∈trs bs ms w/\f.getD k 0=x:=by
 unfold frc
 rw[List.mem_map]
 constructor
 ·rintro⟨i,hi,rfl⟩
  rw[List.mem_filter,List.any_eq_true]at hi
  obtain⟨_,f,h1,h2⟩:=hi
  exact⟨f,h1,by simpa using h2⟩
 ·rintro⟨f,h1,h2⟩
  have h3:=(isC_iff.1 (mem_trs.1 h1).1).2 k hk
  have hm:bs.getD k ⟨0,0,0⟩∈bs:=by simp[List.getD_eq_getElem?_getD,hk]
  have hb:=h.2 _ hm
  unfold okBlw at hb
  refine⟨x.toNat,?_,by omega⟩
  rw[List.mem_filter,List.mem_range,List.any_eq_true]
  exact⟨by omega,f,h1,by rw[decide_eq_true_eq];omega⟩
theorem frc_asc(l:List (List Int))(k:Nat):(frc l k).Pairwise (· < ·):=by
 unfold frc
 refine List.Pairwise.map _ (fun a b h=>?_) (List.Pairwise.filter _ List.pairwise_lt_range)
 omega
theorem nd_sub_lenC{α : Type}[DecidableEq α]{a b:List α}(ha:a.Nodup)(h:∀x∈a,x∈b):a.length<=b.length:=by
 induction a generalizing b with
 |nil=>simp
 |cons x a ih=>
  have hx:=h x (by simp)
  have hn:=List.nodup_cons.1 ha
  have:=ih (b:=b.erase x) hn.2 fun y hy=>(List.mem_erase_of_ne (fun e=>by subst e;exact hn.1 hy)).2 (h y (by simp[hy]))
  rw[List.length_erase_of_mem hx]at this
  have:=List.length_pos_of_mem hx
  simp only[List.length_cons];omega
theorem asc_eq{a b:List Int}(ha:a.Pairwise (· < ·))(hb:b.Pairwise (· < ·))(h:∀x,x∈a<->x∈b):a=b:=by
 induction a generalizing b with
 |nil=>
  cases b with
  |nil=>rfl
  |cons y b=>exact absurd ((h y).2 (by simp)) (by simp)
 |cons x a ih=>
  cases b with
  |nil=>exact absurd ((h x).1 (by simp)) (by simp)
  |cons y b=>
   rw[List.pairwise_cons]at ha hb
   have e:x=y:=by
    rcases List.mem_cons.1 ((h x).1 (by simp))with e|e
    ·exact e
    ·rcases List.mem_cons.1 ((h y).2 (by simp))with e2|e2
     ·exact e2.symm
     ·have:=hb.1 x e;have:=ha.1 y e2;omega
   subst e
   rw[ih ha.2 hb.2]
   intro z
   constructor
   ·intro hz
    rcases List.mem_cons.1 ((h z).1 (by simp[hz]))with e|e
    ·subst e;exact absurd (ha.1 z hz) (by omega)
    ·exact e
   ·intro hz
    rcases List.mem_cons.1 ((h z).2 (by simp[hz]))with e|e
    ·subst e;exact absurd (hb.1 z hz) (by omega)
    ·exact e
theorem frc_len{n:Nat}{bs:List Blw}{ms:List Met}{w:Int}(h:okBs n bs){k:Nat}(hk:k<bs.length):(frc (trs bs ms w) k).length<=10:=by
 have hm:bs.getD k ⟨0,0,0⟩∈bs:=by simp[List.getD_eq_getElem?_getD,hk]
 have hb:=h.2 _ hm
 unfold okBlw at hb
 have:=nd_sub_lenC (b:=(List.range 10).map fun(i:Nat)=>(bs.getD k ⟨0,0,0⟩).lo+(i:Int)) ((frc_asc (trs bs ms w) k).imp fun {x y} h=>by omega) (fun x hx=>by
  obtain⟨f,h1,h2⟩:=(mem_frc h hk).1 hx
  have h3:=(isC_iff.1 (mem_trs.1 h1).1).2 k hk
  rw[List.mem_map]
  exact⟨(x-(bs.getD k ⟨0,0,0⟩).lo).toNat,by rw[List.mem_range];omega,by omega⟩)
 simpa using this
def knwC(some many:Nat):Int:=if some=many then 1 else if some=0 then 2 else 3
def rgtC(l:List (List Int))(m:Met):Int:=knwC (l.countP (rgtM m)) l.length
def spI(x:List Int):Nat->Int × Int
 |0=>(0,0)
 |k+1=>if k=0 then(x.getD 0 0,x.getD 0 0) else(min (spI x k).1 (x.getD k 0),max (spI x k).2 (x.getD k 0))
def spL(x:List Int):Int × Int:=spI x x.length
theorem spI_spec(x:List Int):∀k,0<k->k<=x.length->(∀i,i<k->(spI x k).1<=x.getD i 0/\x.getD i 0<=(spI x k).2)/\(∃i,i<k/\(spI x k).1=x.getD i 0)/\∃i,i<k/\(spI x k).2=x.getD i 0:=by
 intro k;induction k with
 |zero=>intro h;omega
 |succ k ih=>
  intro _ hk
  rw[spI]
  by_cases h0:k=0
  ·subst h0
   rw[if_pos rfl]
   exact⟨fun i hi=>by rw[show i=0 by omega];exact⟨Int.le_refl _,Int.le_refl _⟩,⟨0,by omega,rfl⟩,⟨0,by omega,rfl⟩⟩
  ·rw[if_neg h0]
   obtain⟨a,⟨i,b1,b2⟩,⟨j,c1,c2⟩⟩:=ih (by omega) (by omega)
   refine⟨fun i hi=>?_,?_,?_⟩
   ·by_cases e:i=k
    ·subst e;dsimp only;omega
    ·have:=a i (by omega);dsimp only;omega
   ·by_cases h:(spI x k).1<=x.getD k 0
    ·exact⟨i,by omega,by dsimp only;omega⟩
    ·exact⟨k,by omega,by dsimp only;omega⟩
   ·by_cases h:x.getD k 0<=(spI x k).2
    ·exact⟨j,by omega,by dsimp only;omega⟩
    ·exact⟨k,by omega,by dsimp only;omega⟩
theorem spL_in{x:List Int}{y:Int}(h:y∈x):(spL x).1<=y/\y<=(spL x).2:=by
 obtain⟨i,hi,e⟩:=List.getElem_of_mem h
 have:=(spI_spec x x.length (by omega) (Nat.le_refl _)).1 i hi
 rwa [show x.getD i 0=y from by rw[List.getD_eq_getElem?_getD,List.getElem?_eq_getElem hi];exact e]at this
theorem spL_ex{x:List Int}(h:x≠[]):(spL x).1∈x/\(spL x).2∈x:=by
 have h0:0<x.length:=List.length_pos_iff.2 h
 obtain⟨_,⟨i,b1,b2⟩,⟨j,c1,c2⟩⟩:=spI_spec x x.length h0 (Nat.le_refl _)
 unfold spL
 rw[b2,c2]
 constructor
 ·rw[List.getD_eq_getElem?_getD,List.getElem?_eq_getElem b1];exact List.getElem_mem b1
 ·rw[List.getD_eq_getElem?_getD,List.getElem?_eq_getElem c1];exact List.getElem_mem c1
theorem isC_len{bs:List Blw}{f:List Int}(h:isC bs f):f.length=bs.length:=(isC_iff.1 h).1
def rds(l:List (List Int))(L:Int):Int × Int:=spL (l.map fun f=>((abv f L:Nat):Int))
end Go.Proofs
