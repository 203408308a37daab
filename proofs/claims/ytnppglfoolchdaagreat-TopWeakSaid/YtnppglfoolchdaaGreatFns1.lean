/- What each function of this program answers, proved by walking its body: the contracts that the law rests on, part 1. -/
import Derived.Test.YtnppglfoolchdaaGreatCode
set_option linter.unusedSimpArgs false
set_option linter.unusedVariables false
set_option linter.unusedSectionVars false
namespace Go.Proofs
open Go.Eng
attribute [local irreducible] Go.Eng.brB Go.Eng.need Go.Eng.wrE Go.Eng.iaE Go.Eng.slE Go.Eng.apE Go.Eng.CallZ Go.Eng.CallE Go.Eng.VCallE Go.Eng.YldE Go.Eng.GoC Go.Eng.MeetsE Go.Eng.FnA Go.Eng.FnV
set_option maxRecDepth 100000
structure Sec where
 (al ah sl sh base num den:Int)
def Sec.av(s:Sec):List AV:=[.int .i64 s.al, .int .i64 s.ah, .int .i64 s.sl, .int .i64 s.sh, .int .i64 s.base, .int .i64 s.num, .int .i64 s.den]
structure Frm where
 ss:List Sec
 (lo hi en ed rod cs:Int)
def Frm.cells(f:Frm):List AV:=[.isl (f.ss.map Sec.av), .int .i64 f.lo, .int .i64 f.hi, .int .i64 f.en, .int .i64 f.ed, .int .i64 f.rod, .int .i64 f.cs]
def okSpan(a b p:Int):Prop:=1<=a/\a<=b/\b<=2000/\b-a<=p
def okPart(n d:Int):Prop:=1<=d/\d<=20/\0<=n/\n<=d
instance (a b p:Int):Decidable (okSpan a b p):=by unfold okSpan;infer_instance
instance (n d:Int):Decidable (okPart n d):=by unfold okPart;infer_instance
def Sec.ok(s:Sec):Prop:=okSpan s.al s.ah 6/\okSpan s.sl s.sh 6/\(0<=s.base/\s.base<=2000)/\okPart s.num s.den
instance (s:Sec):Decidable s.ok:=by unfold Sec.ok;infer_instance
def Frm.ok(f:Frm):Prop:=1<=f.ss.length/\f.ss.length<=3/\(∀s∈f.ss,s.ok)/\okSpan f.lo f.hi 200/\okPart f.en f.ed/\(0<=f.rod/\f.rod<=4000)/\(0<=f.cs/\f.cs<=4000)
instance (f:Frm):Decidable f.ok:=by unfold Frm.ok;infer_instance
theorem k73(n lo hi:Int):FnA Tryz.prog 142 [.int .i64 n, .int .i64 lo, .int .i64 hi] (· = .bool (decide (lo<=n/\n<=hi))):=by
 refine fnA 2 ok142 (by simp) ?_
 (conv=>whnf);(repeat'((first|apply bT|apply bF|apply bN|((first|apply bD|apply bEq|apply bNe)<;>intro hh<;>try(exfalso;omega))|refine wJ ?_|refine nJ ?_)<;>conv=>whnf))
 all_goals first|rfl|exact congrArg AV.bool (decide_eq_decide.2 (by omega))|exact congrArg AV.bool (decide_eq_true (by omega)).symm|exact congrArg AV.bool (decide_eq_false (by omega)).symm
theorem k71(a b p:Int):FnA Tryz.prog 148 [.agg [.int .i64 a, .int .i64 b], .int .i64 p] (· = .bool (decide (okSpan a b p))):=by
 refine fnA 2 ok148 (by simp) ?_
 unfold okSpan
 (conv=>whnf);(repeat'((first|apply bT|apply bF|apply bN|((first|apply bD|apply bEq|apply bNe)<;>intro hh<;>try(exfalso;omega))|refine(k73 _ _ _).cq rfl rfl ?_|refine wJ ?_|refine nJ ?_)<;>conv=>whnf))
 all_goals first|rfl|exact congrArg AV.bool (decide_eq_decide.2 (by omega))|exact congrArg AV.bool (decide_eq_true (by omega)).symm|exact congrArg AV.bool (decide_eq_false (by omega)).symm
theorem k72(a b:Int):FnA Tryz.prog 149 [.agg [.int .i64 a, .int .i64 b]] (· = .bool (decide (okPart a b))):=by
 refine fnA 2 ok149 (by simp) ?_
 unfold okPart
 (conv=>whnf);(repeat'((first|apply bT|apply bF|apply bN|((first|apply bD|apply bEq|apply bNe)<;>intro hh<;>try(exfalso;omega))|refine(k73 _ _ _).cq rfl rfl ?_|refine wJ ?_|refine nJ ?_)<;>conv=>whnf))
 all_goals first|rfl|exact congrArg AV.bool (decide_eq_decide.2 (by omega))|exact congrArg AV.bool (decide_eq_true (by omega)).symm|exact congrArg AV.bool (decide_eq_false (by omega)).symm
theorem k70(s:Sec):FnA Tryz.prog 147 [.agg s.av] (· = .bool (decide s.ok)):=by
 refine fnA 2 ok147 (by simp) ?_
 unfold Sec.ok
 (conv=>whnf);(repeat'((first|apply bT|apply bF|apply bN|((first|apply bD|apply bEq|apply bNe)<;>intro hh)|refine(k71 _ _ _).cq rfl rfl ?_|refine(k72 _ _).cq rfl rfl ?_|refine(k73 _ _ _).cq rfl rfl ?_|refine wJ ?_|refine nJ ?_)<;>conv=>whnf))
 all_goals (simp[*])
theorem k76(a b c d:Int)(h1 : -9000000000000000000<=a*d/\a*d<=9000000000000000000)(h2 : -9000000000000000000<=c*b/\c*b<=9000000000000000000):FnA Tryz.prog 145 [.agg [.int .i64 a, .int .i64 b], .agg [.int .i64 c, .int .i64 d]] (· = .bool (decide (a*d<c*b))):=by
 refine fnA 2 ok145 (by simp) ?_
 (conv=>whnf);(repeat'((first|apply bT|apply bF|apply bN|((first|apply bD|apply bEq|apply bNe)<;>intro hh<;>try(exfalso;omega))|refine wJ ?_|refine nJ ?_)<;>conv=>whnf))
 all_goals rfl
theorem getD_map{α : Type}(f : α -> List AV)(l:List α)(i:Nat)(h:i<l.length):(l.map f).getD i []=f l[i]:=by
 simp[List.getD_eq_getElem?_getD,h]
theorem all_take{α : Type}{p : α -> Prop}{l:List α}{i:Nat}(h:i<l.length)(h1:∀s∈l.take i,p s)(h2:p l[i]):∀s∈l.take (i+1),p s:=by
 intro s hs
 rw[List.take_succ_eq_append_getElem h]at hs
 rcases List.mem_append.1 hs with hs|hs
 ·exact h1 s hs
 ·simp at hs;subst hs;exact h2
theorem k48(f:Frm):FnA Tryz.prog 138 [.agg f.cells] (· = .bool (decide f.ok)):=by
 have hL:(f.ss.map Sec.av).length=f.ss.length:=by simp
 refine fnA 2 ok138 (by simp) ?_
 (conv=>whnf);(repeat'((first|apply bT|apply bF|apply bN|((first|apply bD|apply bEq|apply bNe)<;>intro hh<;>try(exfalso;omega))|refine wJ ?_|refine nJ ?_)<;>conv=>whnf))
 all_goals try (refine congrArg AV.bool (decide_eq_false fun h=>?_).symm;unfold Frm.ok at h;omega)
 refine loop_i (α :=Nat) (fun k=>[(18, .int .i64 k),(17, .int .i64 ↑(f.ss.map Sec.av).length),(16, .isl (f.ss.map Sec.av)),(1, .own 0 0)]) (fun k=>[.box false f.cells, .fresh]) (fun k=>k<=f.ss.length/\∀s∈f.ss.take k,s.ok) (fun k=>f.ss.length-k) 0 mI ⟨by omega,by simp⟩ ?_
 rintro k ⟨h1,h2⟩
 conv=>whnf
 refine bD (fun h3=>?_) (fun h3=>?_)
 ·conv=>whnf
  refine iaI (by omega) (by omega) (getD_map Sec.av f.ss k (by omega)) ?_
  conv=>whnf
  have hk:k<f.ss.length:=by omega
  refine(k70 f.ss[k]).callq rfl rfl (fun r (hr:r=_)=>?_)
  subst hr
  conv=>whnf
  refine bN (bD (fun h4=>?_) (fun h4=>?_))
  ·conv=>whnf
   refine wJ ?_
   exact⟨k+1,mI,⟨by omega,all_take hk h2 h4⟩,by omega⟩
  ·conv=>whnf
   refine congrArg AV.bool (decide_eq_false fun h=>h4 ?_).symm
   exact h.2.2.1 _ (List.getElem_mem hk)
 ·have e:k=f.ss.length:=by omega
  subst e
  rw[List.take_length]at h2
  have hiff:f.ok<->(okSpan f.lo f.hi 200/\okPart f.en f.ed/\(0<=f.rod/\f.rod<=4000)/\(0<=f.cs/\f.cs<=4000)):=⟨fun h=>h.2.2.2,fun h=>⟨by omega,by omega,h2,h⟩⟩
  clear h3 h1 h2
  (conv=>whnf);(repeat'((first|apply bT|apply bF|apply bN|((first|apply bD|apply bEq|apply bNe)<;>intro hh<;>try(exfalso;omega))|refine(k71 _ _ _).cq rfl rfl ?_|refine(k72 _ _).cq rfl rfl ?_|refine(k73 _ _ _).cq rfl rfl ?_|refine wJ ?_|refine nJ ?_)<;>conv=>whnf))
  all_goals (simp[*])
theorem k14(f:Frm):FnA Tryz.prog 125 [.agg f.cells] (· = .int .i64 (if f.ok then 0 else 10)):=by
 refine fnA 2 ok125 (by simp) ?_
 (conv=>whnf);(repeat'((first|apply bT|apply bF|apply bN|((first|apply bD|apply bEq|apply bNe)<;>intro hh)|refine(k48 f).cq rfl rfl ?_|refine wJ ?_|refine nJ ?_)<;>conv=>whnf))
 all_goals simp[*]
theorem k67(f:Frm)(i:Int):FnA Tryz.prog 141 [.agg f.cells, .int .i64 i] (· = .int .i64 (if f.ok then(if 0<=i/\i<f.ss.length then 0 else 1) else 10)):=by
 have hL:(f.ss.map Sec.av).length=f.ss.length:=by simp
 refine fnA 2 ok141 (by simp) ?_
 by_cases hok:f.ok
 ·have h3:=hok.2.1
  (conv=>whnf);(repeat'((first|apply bT|apply bF|apply bN|((first|apply bD|apply bEq|apply bNe)<;>intro hh)|refine(k48 f).cq rfl rfl ?_|refine(k73 _ _ _).cq rfl rfl ?_|refine wJ ?_|refine nJ ?_)<;>conv=>whnf))
  all_goals (simp only[hL]at *)
  all_goals (first|exact absurd hok (by assumption)|skip)
  all_goals (rw[if_pos hok])
  ·rw[if_pos (by omega)]
  ·rw[if_neg (by omega)]
 ·(conv=>whnf);(repeat'((first|apply bT|apply bF|apply bN|((first|apply bD|apply bEq|apply bNe)<;>intro hh)|refine(k48 f).cq rfl rfl ?_|refine(k73 _ _ _).cq rfl rfl ?_|refine wJ ?_|refine nJ ?_)<;>conv=>whnf))
  all_goals (first|exact absurd (by assumption) hok|rw[if_neg hok])
def Frm.pos(f:Frm)(i r:Int):Int:=if f.ok then(if (0<=i/\i<f.ss.length)/\f.lo<=r/\r<=f.hi then 0 else 1) else 10
theorem k52(f:Frm)(i r:Int):FnA Tryz.prog 134 [.agg f.cells, .int .i64 i, .int .i64 r] (· = .int .i64 (f.pos i r)):=by
 refine fnA 2 ok134 (by simp) ?_
 by_cases hok:f.ok
 ·by_cases hi:0<=i/\i<f.ss.length
  ·(conv=>whnf);(repeat'((first|apply bT|apply bF|apply bN|((first|apply bD|apply bEq|apply bNe)<;>intro hh)|refine(k67 f _).cq rfl rfl ?_|refine(k73 _ _ _).cq rfl rfl ?_|refine wJ ?_|refine nJ ?_)<;>conv=>whnf))
   all_goals simp_all[Frm.pos]
   all_goals omega
  ·(conv=>whnf);(repeat'((first|apply bT|apply bF|apply bN|((first|apply bD|apply bEq|apply bNe)<;>intro hh)|refine(k67 f _).cq rfl rfl ?_|refine(k73 _ _ _).cq rfl rfl ?_|refine wJ ?_|refine nJ ?_)<;>conv=>whnf))
   all_goals simp_all[Frm.pos]
   all_goals (rw[if_neg (by omega),if_neg (by omega)])
 ·(conv=>whnf);(repeat'((first|apply bT|apply bF|apply bN|((first|apply bD|apply bEq|apply bNe)<;>intro hh)|refine(k67 f _).cq rfl rfl ?_|refine(k73 _ _ _).cq rfl rfl ?_|refine wJ ?_|refine nJ ?_)<;>conv=>whnf))
  all_goals simp_all[Frm.pos]
theorem tdiv_bd{a n m:Int}(ha:0<=a)(h0:0<=n)(h1:n<=m)(h2:1<=m):0<=(a*n).tdiv m/\(a*n).tdiv m<=a:=by
 have h3:0<=a*n:=Int.mul_nonneg ha h0
 rw[Int.tdiv_eq_ediv_of_nonneg h3]
 refine⟨Int.ediv_nonneg h3 (by omega),?_⟩
 have h4:a*n<=a*m:=Int.mul_le_mul_of_nonneg_left h1 ha
 calc a*n / m<=a*m / m:=Int.ediv_le_ediv (by omega) h4
  _=a:=Int.mul_ediv_cancel _ (by omega)
theorem mul_bd{a b:Int}(A B:Int)(h1:0<=a)(h2:a<=A)(h3:0<=b)(h4:b<=B):0<=a*b/\a*b<=A*B:=
 ⟨Int.mul_nonneg h1 h3,Int.mul_le_mul h2 h4 h3 (by omega)⟩
def dstep(d:Int)(s:Sec):Int:=s.base+(d*s.num).tdiv s.den
def Frm.dist(f:Frm)(i:Nat)(r:Int):Int:=((f.ss.take (i+1)).drop 1).foldl dstep r
theorem dstep_bd{d D:Int}{s:Sec}(h:s.ok)(h0:0<=d)(h1:d<=D):0<=dstep d s/\dstep d s<=D+2000:=by
 obtain⟨_,_,h2,h3⟩:=h
 have:=tdiv_bd h0 h3.2.2.1 h3.2.2.2 h3.1
 unfold dstep;omega
theorem fold_bd{l:List Sec}(h:∀s∈l,s.ok):∀ {d D:Int},0<=d->d<=D->0<=l.foldl dstep d/\l.foldl dstep d<=D+2000*l.length:=by
 induction l with
 |nil=>intro d D h0 h1;simp;omega
 |cons s l ih=>
  intro d D h0 h1
  have h2:=dstep_bd (h s (by simp)) h0 h1
  have:=ih (fun s hs=>h s (by simp[hs])) h2.1 h2.2
  simp only[List.foldl_cons,List.length_cons]
  omega
theorem Frm.dist_bd{f:Frm}(h:f.ok)(i:Nat){r:Int}(h0:0<=r)(h1:r<=2000):0<=f.dist i r/\f.dist i r<=6000:=by
 have h2:=h.2.1
 have h3:∀s∈(f.ss.take (i+1)).drop 1,s.ok:=fun s hs=>h.2.2.1 s (List.mem_of_mem_take (List.mem_of_mem_drop hs))
 have h4:=fold_bd h3 h0 h1
 have h5:((f.ss.take (i+1)).drop 1).length<=2:=by simp;omega
 unfold Frm.dist;omega
theorem k53(f:Frm)(i:Nat)(r:Int)(hok:f.ok)(hi:i<f.ss.length)(h0:0<=r)(h1:r<=2000):FnA Tryz.prog 135 [.agg f.cells, .int .i64 i, .int .i64 r] (· = .int .i64 (f.dist i r)):=by
 have h2:=hok.2.1
 have hL:(f.ss.map Sec.av).length=f.ss.length:=by simp
 generalize hl:(f.ss.take (i+1)).drop 1=l
 have hlo:∀s∈l,s.ok:=fun s hs=>hok.2.2.1 s (List.mem_of_mem_take (List.mem_of_mem_drop (hl ▸ hs)))
 have hll:(l.map Sec.av).length=l.length:=by simp
 have hl2:l.length<=2:=by rw[<- hl];simp;omega
 refine fnA 2 ok135 (by simp) ?_
 (conv=>whnf);(repeat'((first|apply bT|apply bF|apply bN|((first|apply bD|apply bEq|apply bNe)<;>intro hh)|refine wJ ?_|refine nJ ?_)<;>conv=>whnf))
 refine slI (es':=l.map Sec.av) (by omega) (by omega) (by omega) (fun e he=>?_) ?_ ?_
 ·obtain⟨s,_,rfl⟩:=List.mem_map.1 he;rfl
 ·rw[<- hl];simp only[List.map_drop,List.map_take];congr 1
 conv=>whnf
 refine loop_i (α :=Nat) (fun k=>[(17, .int .i64 k),(16, .int .i64 ↑(l.map Sec.av).length),(15, .isl (l.map Sec.av)),(7, .int .i64 ((l.take k).foldl dstep r))]) (fun k=>[.box false f.cells, .fresh]) (fun k=>k<=l.length) (fun k=>l.length-k) 0 mI (by omega) ?_
 intro k hk
 conv=>whnf
 refine bD (fun h3=>?_) (fun h3=>?_)
 ·conv=>whnf
  have hk:k<l.length:=by omega
  refine iaJ (getD_map Sec.av l k hk) ?_
  conv=>whnf
  have hs:=hlo l[k] (List.getElem_mem hk)
  have hf:=fold_bd (l:=l.take k) (fun s hs=>hlo s (List.mem_of_mem_take hs)) h0 h1
  have hkl:(l.take k).length<=2:=by simp;omega
  have hm:=mul_bd 6000 20 hf.1 (by omega) hs.2.2.2.2.2.1 (by have:=hs.2.2.2;unfold okPart at this;omega)
  have ht:=tdiv_bd hf.1 hs.2.2.2.2.2.1 hs.2.2.2.2.2.2 hs.2.2.2.1
  have hd:=hs.2.2.2.1
  have hb:=hs.2.2.1
  have hst:(l.take (k+1)).foldl dstep r=l[k].base+((l.take k).foldl dstep r*l[k].num).tdiv l[k].den:=by
   rw[List.take_succ_eq_append_getElem hk,List.foldl_append];rfl
  (conv=>whnf);(repeat'((first|apply bT|apply bF|apply bN|((first|apply bD|apply bEq|apply bNe)<;>intro hh<;>try(exfalso;omega))|refine wJ ?_|refine nJ ?_)<;>conv=>whnf))
  refine⟨k+1,?_,by omega,by omega⟩
  rw[hst]
  exact mI
 ·conv=>whnf
  have:k=l.length:=by omega
  subst this
  rw[List.take_length,Frm.dist,hl]
def Sec.na(s:Sec):Nat:=(s.ah+1-s.al).toNat
def Sec.nb(s:Sec):Nat:=(s.sh+1-s.sl).toNat
def Sec.side(s:Sec)(k:Nat):Int × Int:=(s.al+((k / s.nb:Nat):Int),s.sl+((k%s.nb:Nat):Int))
def Sec.sides(s:Sec):List (Int × Int):=(List.range (s.na*s.nb)).map s.side
def pairAV(p:Int × Int):List AV:=[.int .i64 p.1, .int .i64 p.2]
theorem side_ij(s:Sec)(i j:Nat)(hj:j<s.nb):s.side (i*s.nb+j)=(s.al+i,s.sl+j):=by
 unfold Sec.side
 have h1:(i*s.nb+j) / s.nb=i:=by
  rw[Nat.mul_comm,Nat.mul_add_div (by omega),Nat.div_eq_of_lt hj];rfl
 have h2:(i*s.nb+j)%s.nb=j:=by
  rw[Nat.mul_comm,Nat.mul_add_mod];exact Nat.mod_eq_of_lt hj
 rw[h1,h2]
theorem sides_get(s:Sec)(i j:Nat)(hi:i<s.na)(hj:j<s.nb):(s.sides.map pairAV)[i*s.nb+j]?=some [.int .i64 (s.al+i), .int .i64 (s.sl+j)]:=by
 have hlt:i*s.nb+j<s.na*s.nb:=by
  have:(i+1)*s.nb<=s.na*s.nb:=Nat.mul_le_mul_right _ hi
  rw[Nat.add_mul]at this;omega
 simp only[Sec.sides,List.map_map,List.getElem?_map,List.getElem?_range hlt,Option.map_some]
 simp only[Function.comp,side_ij s i j hj,pairAV]
theorem sides_len(s:Sec):(s.sides.map pairAV).length=s.na*s.nb:=by simp[Sec.sides]
theorem mem_sides{s:Sec}{p:Int × Int}:p∈s.sides<->(s.al<=p.1/\p.1<=s.ah)/\s.sl<=p.2/\p.2<=s.sh:=by
 simp only[Sec.sides,List.mem_map,List.mem_range]
 constructor
 ·rintro⟨k,hk,rfl⟩
  have hnb:0<s.nb:=by
   cases h:s.nb with
   |zero=>rw[h]at hk;simp at hk
   |succ n=>omega
  have h1:k / s.nb<s.na:=(Nat.div_lt_iff_lt_mul hnb).2 hk
  have h2:=Nat.mod_lt k hnb
  generalize hq:k / s.nb=q at *
  generalize hr:k%s.nb=r at *
  unfold Sec.side
  rw[hq,hr]
  simp only[Sec.na,Sec.nb]at h1 h2
  omega
 ·rintro⟨⟨h1,h2⟩,h3,h4⟩
  have hj:(p.2-s.sl).toNat<s.nb:=by unfold Sec.nb;omega
  have hi:(p.1-s.al).toNat<s.na:=by unfold Sec.na;omega
  refine⟨(p.1-s.al).toNat*s.nb+(p.2-s.sl).toNat,?_,?_⟩
  ·have:((p.1-s.al).toNat+1)*s.nb<=s.na*s.nb:=Nat.mul_le_mul_right _ hi
   rw[Nat.add_mul]at this;omega
  ·rw[side_ij s _ _ hj]
   ext<;>simp<;>omega
theorem i83(s:Sec)(hok:s.ok):ItA Tryz.prog 150 [.ipt s.av] (s.sides.map pairAV):=by
 have h1:=hok.1
 have h2:=hok.2.1
 unfold okSpan at h1 h2
 refine itA 2 ok150 (by simp) ?_
 conv=>whnf
 refine loop_y (α :=Nat) (fun i=>[(3, .int .i64 (s.al+i)),(1, .ipt s.av),(0, .yld)]) (fun i=>[.fresh, .fresh]) (fun i=>⟨[],i*s.nb,false⟩) (fun i=>i<=s.na) (fun i=>s.na-i) 0 ?_ (by omega) ?_
 ·simp only[Int.natCast_zero,Int.add_zero,Nat.zero_mul];exact mI
 intro i hi
 conv=>whnf
 have ena:(s.na:Int)=s.ah+1-s.al:=by unfold Sec.na;omega
 have enb:(s.nb:Int)=s.sh+1-s.sl:=by unfold Sec.nb;omega
 refine bD (fun h3=>?_) (fun h3=>?_)
 ·conv=>whnf
  refine loop_y (α :=Nat) (fun j=>[(4, .int .i64 (s.sl+j)),(3, .int .i64 (s.al+i)),(1, .ipt s.av),(0, .yld)]) (fun j=>[.fresh, .fresh]) (fun j=>⟨[],i*s.nb+j,false⟩) (fun j=>j<=s.nb) (fun j=>s.nb-j) 0 ?_ (by omega) ?_
  ·simp only[Int.natCast_zero,Int.add_zero,Nat.add_zero];exact mI
  intro j hj
  conv=>whnf
  refine bD (fun h4=>?_) (fun h4=>?_)
  ·conv=>whnf
   refine yI rfl (sides_get s i j (by omega) (by omega)) rfl ?_ ?_
   ·conv=>whnf
    refine bN (bT ?_)
    conv=>whnf
    refine wJ ?_
    refine⟨j+1,?_,by omega,by omega⟩
    simp only[Int.natCast_add,Int.natCast_one,<- Int.add_assoc,<- Nat.add_assoc]
    exact mI
   ·conv=>whnf
    refine bN (bF ?_)
    conv=>whnf
    exact .inl rfl
  ·conv=>whnf
   refine wJ ?_
   have:j=s.nb:=by omega
   subst this
   refine⟨i+1,?_,by omega,by omega⟩
   simp only[Int.natCast_add,Int.natCast_one,<- Int.add_assoc,Nat.add_mul,Nat.one_mul]
   exact mI
 ·conv=>whnf
  right
  have:i=s.na:=by omega
  subst this
  rw[sides_len]
theorem k75(s:Sec):FnA Tryz.prog 144 [.agg s.av] (· = .fn 150 [.ipt s.av]):=by
 refine fnA 2 ok144 (by simp) ?_
 (conv=>whnf);(repeat'((first|apply bT|apply bF|apply bN|((first|apply bD|apply bEq|apply bNe)<;>intro hh)|refine wJ ?_|refine nJ ?_)<;>conv=>whnf))
 all_goals rfl
def cosN(d a t:Int):Int:=d*d+a*a-t*t
def cosD(d a:Int):Int:=2*d*a
theorem k74(d a t:Int)(hd:0<=d/\d<=6000)(ha:0<=a/\a<=2000)(ht:0<=t/\t<=2000):FnA Tryz.prog 143 [.int .i64 d, .int .i64 a, .int .i64 t] (· = .agg [.int .i64 (cosN d a t), .int .i64 (cosD d a)]):=by
 have h1:=mul_bd 6000 6000 hd.1 hd.2 hd.1 hd.2
 have h2:=mul_bd 2000 2000 ha.1 ha.2 ha.1 ha.2
 have h3:=mul_bd 2000 2000 ht.1 ht.2 ht.1 ht.2
 have h4:=mul_bd (a:=2*d) 12000 2000 (by omega) (by omega) ha.1 ha.2
 refine fnA 2 ok143 (by simp) ?_
 (conv=>whnf);(repeat'((first|apply bT|apply bF|apply bN|((first|apply bD|apply bEq|apply bNe)<;>intro hh)|refine wJ ?_|refine nJ ?_)<;>conv=>whnf))
 all_goals rfl
theorem cosN_bd{d a t:Int}(hd:0<=d/\d<=6000)(ha:0<=a/\a<=2000)(ht:0<=t/\t<=2000) : -4000000<=cosN d a t/\cosN d a t<=40000000:=by
 have h1:=mul_bd 6000 6000 hd.1 hd.2 hd.1 hd.2
 have h2:=mul_bd 2000 2000 ha.1 ha.2 ha.1 ha.2
 have h3:=mul_bd 2000 2000 ht.1 ht.2 ht.1 ht.2
 unfold cosN;omega
theorem cosD_bd{d a:Int}(hd:0<=d/\d<=6000)(ha:0<=a/\a<=2000):0<=cosD d a/\cosD d a<=24000000:=by
 have h4:=mul_bd (a:=2*d) 12000 2000 (by omega) (by omega) ha.1 ha.2
 unfold cosD;omega
theorem gcd_step{x y:Int}(h1:0<=x)(h2:0<=y):Int.gcd (y%x) x=Int.gcd x y:=by
 obtain⟨n,rfl⟩:=Int.eq_ofNat_of_zero_le h1
 obtain⟨m,rfl⟩:=Int.eq_ofNat_of_zero_le h2
 rw[<- Int.natCast_emod]
 simp only[Int.gcd_natCast_natCast]
 exact(Nat.gcd_rec n m).symm
theorem k77(a b:Int)(ha:0<=a/\a<=1000000000000)(hb:0<=b/\b<=1000000000000):FnA Tryz.prog 146 [.int .i64 a, .int .i64 b] (· = .int .i64 (Int.gcd a b)):=by
 refine fnA 2 ok146 (by simp) ?_
 (conv=>whnf);(repeat'((first|apply bT|apply bF|apply bN|((first|apply bD|apply bEq|apply bNe)<;>intro hh)|refine wJ ?_|refine nJ ?_)<;>conv=>whnf))
 refine loop_i (α :=Int × Int) (fun x=>[(0, .int .i64 x.1),(1, .int .i64 x.2)]) (fun x=>[.fresh, .fresh]) (fun x=>0<=x.1/\0<=x.2/\Int.gcd x.1 x.2=Int.gcd a b) (fun x=>x.1.toNat) (a,b) mI ⟨ha.1,hb.1,rfl⟩ ?_
 rintro⟨x,y⟩ ⟨h1,h2,h3⟩
 simp only at h1 h2 h3
 conv=>whnf
 refine bNe (fun h4=>?_) (fun h4=>?_)
 ·conv=>whnf
  refine nI h4 ?_
  conv=>whnf
  have e:y.tmod x=y%x:=Int.tmod_eq_emod_of_nonneg h2
  have h5:=Int.emod_nonneg y h4
  have h6:=Int.emod_lt_of_pos y (show 0<x by omega)
  refine⟨(y.tmod x,x),mI,⟨by simp only[e];exact h5,h1,?_⟩,?_⟩
  ·simp only[e]
   rw[<- h3];exact gcd_step h1 h2
  ·simp only[e];omega
 ·conv=>whnf
  subst h4
  rw[<- h3]
  simp;omega
def redN(n d:Int):Int:=n.tdiv (Int.gcd n d)
def redD(n d:Int):Int:=d.tdiv (Int.gcd n d)
theorem gcd_max(n d:Int):Int.gcd (max n (0-n)) d=Int.gcd n d:=by
 by_cases h:0<=n
 ·rw[Int.max_eq_left (by omega)]
 ·rw[Int.max_eq_right (by omega),Int.zero_sub,Int.neg_gcd]
theorem gcd_bd{n d:Int}(hd:1<=d):1<=(Int.gcd n d:Int)/\(Int.gcd n d:Int)<=d:=by
 have h1:0<Int.gcd n d:=Int.gcd_pos_of_ne_zero_right n (by omega)
 have h2:=Int.le_of_dvd (by omega) (Int.gcd_dvd_right n d)
 omega
theorem tdiv_abs{a b:Int}(hb:1<=b)(B:Int)(h1 : -B<=a)(h2:a<=B) : -B<=a.tdiv b/\a.tdiv b<=B:=by
 by_cases h:0<=a
 ·rw[Int.tdiv_eq_ediv_of_nonneg h]
  have h3:=Int.ediv_nonneg h (show 0<=b by omega)
  have h4:=Int.ediv_le_self b h
  omega
 ·have e:a.tdiv b = - ((-a) / b):=by
   have:=Int.neg_tdiv (a := -a) (b:=b)
   rw[Int.neg_neg]at this
   rw[this,Int.tdiv_eq_ediv_of_nonneg (by omega)]
  have h3:=Int.ediv_nonneg (show 0 <= -a by omega) (show 0<=b by omega)
  have h4:=Int.ediv_le_self b (show 0 <= -a by omega)
  omega
theorem k58(n d:Int)(hn : -100000000<=n/\n<=100000000)(hd:1<=d/\d<=100000000):FnA Tryz.prog 137 [.agg [.int .i64 n, .int .i64 d]] (· = .agg [.int .i64 (redN n d), .int .i64 (redD n d)]):=by
 have hg:=gcd_bd (n:=n) hd.1
 have h1:=tdiv_abs (a:=n) hg.1 100000000 (by omega) (by omega)
 have h2:=tdiv_abs (a:=d) hg.1 100000000 (by omega) (by omega)
 have hm:max n (0-n)<=100000000/\0<=max n (0-n):=by omega
 refine fnA 2 ok137 (by simp) ?_
 (conv=>whnf);(repeat'((first|apply bT|apply bF|apply bN|((first|apply bD|apply bEq|apply bNe)<;>intro hh)|refine wJ ?_|refine nJ ?_)<;>conv=>whnf))
 refine(k77 (max n (0-n)) d ⟨hm.2,by omega⟩ (by omega)).callq rfl rfl (fun r (hr:r=_)=>?_)
 rw[gcd_max]at hr
 subst hr
 (conv=>whnf);(repeat'((first|apply bT|apply bF|apply bN|((first|apply bD|apply bEq|apply bNe)<;>intro hh)|refine wJ ?_|refine nJ ?_)<;>conv=>whnf))
 all_goals rfl
theorem mul_ab{a b:Int}(A B:Int)(h1 : -A<=a)(h2:a<=A)(h3:0<=b)(h4:b<=B) : -(A*B)<=a*b/\a*b<=A*B:=by
 by_cases h:0<=a
 ·have:=mul_bd A B h h2 h3 h4
  omega
 ·have:=mul_bd (a := -a) A B (by omega) (by omega) h3 h4
  rw[Int.neg_mul]at this
  omega
def knw(s:Sec)(p:Int->Int->Bool):Int:=if s.sides.all (fun q=>p q.1 q.2) then 1 else if s.sides.any (fun q=>p q.1 q.2) then 3 else 2
abbrev FF:=(Int × Int) × (Int × Int)
def cstep(d:Int)(x:FF)(q:Int × Int):FF:=
 (if cosN d q.1 q.2*x.1.2<x.1.1*cosD d q.1 then(cosN d q.1 q.2,cosD d q.1) else x.1,
  if x.2.1*cosD d q.1<cosN d q.1 q.2*x.2.2 then(cosN d q.1 q.2,cosD d q.1) else x.2)
def cosF(s:Sec)(d:Int):FF:=s.sides.foldl (cstep d) ((cosN d s.al s.sl,cosD d s.al),(cosN d s.al s.sl,cosD d s.al))
def fbd(q:Int × Int):Prop:=(-40000000<=q.1/\q.1<=40000000)/\0<=q.2/\q.2<=24000000
theorem cos_fbd{s:Sec}(hok:s.ok){d:Int}(hd:0<=d/\d<=6000){q:Int × Int}(hq:q∈s.sides):fbd (cosN d q.1 q.2,cosD d q.1):=by
 have hm:=mem_sides.1 hq
 have h1:=hok.1
 have h2:=hok.2.1
 unfold okSpan at h1 h2
 have h3:=cosN_bd (d:=d) (a:=q.1) (t:=q.2) hd (by omega) (by omega)
 have h4:=cosD_bd (d:=d) (a:=q.1) hd (by omega)
 unfold fbd;omega
theorem k57(s:Sec)(d:Int)(hok:s.ok)(hd:0<=d/\d<=6000):FnA Tryz.prog 136 [.agg s.av, .int .i64 d] (· = .tup [.agg [.int .i64 (cosF s d).1.1, .int .i64 (cosF s d).1.2], .agg [.int .i64 (cosF s d).2.1, .int .i64 (cosF s d).2.2]]):=by
 have h1:=hok.1
 have h2:=hok.2.1
 unfold okSpan at h1 h2
 have h0:(s.al,s.sl)∈s.sides:=mem_sides.2 ⟨⟨by simp,by simp;omega⟩,by simp,by simp;omega⟩
 have hf0:=cos_fbd hok hd h0
 refine fnA 5 ok136 (by simp) ?_
 (conv=>whnf);(repeat'((first|apply bT|apply bF|apply bN|((first|apply bD|apply bEq|apply bNe)<;>intro hh)|refine(k74 _ _ _ hd (by omega) (by omega)).cq rfl rfl ?_|refine(k75 s).zq rfl rfl ?_|refine wJ ?_|refine nJ ?_)<;>conv=>whnf))
 refine rng_i (α :=FF) (s.sides.map pairAV) [0,1,2,3] [(2, .own 0 0),(3, .own 1 0),(4, .own 2 0),(5, .own 3 0)] (fun x=>[.box false s.av, .box false [.int .i64 d], .box false [.int .i64 x.1.1, .int .i64 x.1.2], .box false [.int .i64 x.2.1, .int .i64 x.2.2], .fresh])
  (fun k x=>x=(s.sides.take k).foldl (cstep d) ((cosN d s.al s.sl,cosD d s.al),(cosN d s.al s.sl,cosD d s.al))/\fbd x.1/\fbd x.2) ((cosN d s.al s.sl,cosD d s.al),(cosN d s.al s.sl,cosD d s.al)) rfl rfl rfl bd150 (i83 s hok) rfl mI rfl ⟨by simp,hf0,hf0⟩ (fun v hv=>by obtain⟨q,_,rfl⟩:=List.mem_map.1 hv;rfl) ?_ ?_
 ·rintro k v ⟨⟨ln,ld⟩,hn,hd'⟩ hv ⟨h3,h4,h5⟩
  obtain⟨q,hq,rfl⟩:∃q,s.sides[k]?=some q/\pairAV q=v:=by simpa using hv
  have hqm:=List.mem_of_getElem? hq
  have hm:=mem_sides.1 hqm
  have hc:=cos_fbd hok hd hqm
  have hst:(s.sides.take (k+1)).foldl (cstep d) ((cosN d s.al s.sl,cosD d s.al),(cosN d s.al s.sl,cosD d s.al))=cstep d ((ln,ld),(hn,hd')) q:=by
   obtain⟨hk,rfl⟩:=List.getElem?_eq_some_iff.1 hq
   rw[List.take_succ_eq_append_getElem hk,List.foldl_append,<- h3];rfl
  clear h3
  simp only[fbd]at h4 h5 hc
  have m1:=mul_ab 40000000 24000000 hc.1.1 hc.1.2 h4.2.1 h4.2.2
  have m2:=mul_ab 40000000 24000000 h4.1.1 h4.1.2 hc.2.1 hc.2.2
  have m3:=mul_ab 40000000 24000000 h5.1.1 h5.1.2 hc.2.1 hc.2.2
  have m4:=mul_ab 40000000 24000000 hc.1.1 hc.1.2 h5.2.1 h5.2.2
  (conv=>whnf);(repeat'((first|apply bT|apply bF|apply bN|((first|apply bD|apply bEq|apply bNe)<;>intro hh)|refine(k74 _ _ _ hd (by omega) (by omega)).cq rfl rfl ?_|refine(k76 (cosN d q.1 q.2) (cosD d q.1) ln ld (by omega) (by omega)).cq rfl rfl ?_|refine(k76 hn hd' (cosN d q.1 q.2) (cosD d q.1) (by omega) (by omega)).cq rfl rfl ?_|refine wJ ?_|refine nJ ?_)<;>conv=>whnf))
  ·rename_i b1
   exact⟨((cosN d q.1 q.2,cosD d q.1),(cosN d q.1 q.2,cosD d q.1)),mI,by rw[hst];simp[cstep,b1,hh],hc,hc⟩
  ·rename_i b1
   exact⟨((cosN d q.1 q.2,cosD d q.1),(hn,hd')),mI,by rw[hst];simp only[cstep,b1,hh,if_true,if_false],hc,h5⟩
  ·rename_i b1
   exact⟨((ln,ld),(cosN d q.1 q.2,cosD d q.1)),mI,by rw[hst];simp only[cstep,b1,hh,if_true,if_false],h4,hc⟩
  ·rename_i b1
   exact⟨((ln,ld),(hn,hd')),mI,by rw[hst];simp only[cstep,b1,hh,if_true,if_false],h4,h5⟩
 ·rintro x ⟨h3,_,_⟩
  have hlen:(s.sides.map pairAV).length=s.sides.length:=by simp
  rw[hlen,List.take_length]at h3
  have h3:x=cosF s d:=h3
  subst h3
  (conv=>whnf);(repeat'((first|apply bT|apply bF|apply bN|((first|apply bD|apply bEq|apply bNe)<;>intro hh)|refine wJ ?_|refine nJ ?_)<;>conv=>whnf))
  all_goals rfl
def bind(d a t en ed:Int):Bool:=decide (d=0)||(!decide (cosN d a t*ed<(ed-en)*cosD d a) || !decide ((0-(ed-en))*cosD d a<cosN d a t*ed))
instance:Inhabited Sec:=⟨⟨0,0,0,0,0,0,0⟩⟩
theorem sec_ok{f:Frm}(hok:f.ok){i:Nat}(hi:i<f.ss.length):(f.ss[i]).ok:=hok.2.2.1 _ (List.getElem_mem hi)
theorem pos_ok{f:Frm}{i r:Int}(h:f.pos i r=0):f.ok/\(0<=i/\i<f.ss.length)/\f.lo<=r/\r<=f.hi/\1<=r/\r<=2000:=by
 unfold Frm.pos at h
 split at h
 ·rename_i hok
  split at h
  ·rename_i h2
   have h3:=hok.2.2.2.1
   unfold okSpan at h3
   exact⟨hok,h2.1,h2.2.1,h2.2.2,by omega,by omega⟩
  ·cases h
 ·cases h
theorem pos_zero{f:Frm}{i r:Int}(hok:f.ok)(hi:0<=i/\i<f.ss.length)(hr:f.lo<=r/\r<=f.hi):f.pos i r=0:=by
 unfold Frm.pos;rw[if_pos hok,if_pos ⟨hi,hr⟩]
def Frm.bnd(f:Frm)(i:Nat)(r:Int):Int:=knw (f.ss.getD i default) (fun a t=>bind (f.dist i r) a t f.en f.ed)
theorem cosF_mem(s:Sec)(d:Int)(h0:(s.al,s.sl)∈s.sides):(∃q∈s.sides,(cosF s d).1=(cosN d q.1 q.2,cosD d q.1))/\∃q∈s.sides,(cosF s d).2=(cosN d q.1 q.2,cosD d q.1):=by
 have key:∀(l:List (Int × Int)) (x:FF),(∀q∈l,q∈s.sides)->(∃q∈s.sides,x.1=(cosN d q.1 q.2,cosD d q.1))->(∃q∈s.sides,x.2=(cosN d q.1 q.2,cosD d q.1))->(∃q∈s.sides,(l.foldl (cstep d) x).1=(cosN d q.1 q.2,cosD d q.1))/\∃q∈s.sides,(l.foldl (cstep d) x).2=(cosN d q.1 q.2,cosD d q.1):=by
  intro l
  induction l with
  |nil=>intro x _ h1 h2;exact⟨h1,h2⟩
  |cons q l ih=>
   intro x hl h1 h2
   refine ih _ (fun q hq=>hl q (by simp[hq])) ?_ ?_
   ·simp only[cstep];split
    ·exact⟨q,hl q (by simp),rfl⟩
    ·exact h1
   ·simp only[cstep];split
    ·exact⟨q,hl q (by simp),rfl⟩
    ·exact h2
 exact key s.sides _ (fun _ h=>h) ⟨_,h0,rfl⟩ ⟨_,h0,rfl⟩
theorem fst_side{s:Sec}(hok:s.ok):(s.al,s.sl)∈s.sides:=by
 have h1:=hok.1
 have h2:=hok.2.1
 unfold okSpan at h1 h2
 exact mem_sides.2 ⟨⟨by simp,by simp;omega⟩,by simp,by simp;omega⟩
theorem cos_rbd{s:Sec}(hok:s.ok){d:Int}(hd:1<=d/\d<=6000){q:Int × Int}(hq:q∈s.sides):(-100000000<=cosN d q.1 q.2/\cosN d q.1 q.2<=100000000)/\1<=cosD d q.1/\cosD d q.1<=100000000:=by
 have h:=cos_fbd hok (d:=d) (by omega) hq
 have hm:=mem_sides.1 hq
 have h1:=hok.1
 unfold okSpan at h1
 have h2:1*1<=d*q.1:=Int.mul_le_mul hd.1 (by omega) (by omega) (by omega)
 unfold fbd at h
 have h3:cosD d q.1=2*(d*q.1):=by unfold cosD;rw[Int.mul_assoc]
 omega
theorem cosF_bd{s:Sec}(hok:s.ok){d:Int}(hd:1<=d/\d<=6000):((-100000000<=(cosF s d).1.1/\(cosF s d).1.1<=100000000)/\1<=(cosF s d).1.2/\(cosF s d).1.2<=100000000)/\(-100000000<=(cosF s d).2.1/\(cosF s d).2.1<=100000000)/\1<=(cosF s d).2.2/\(cosF s d).2.2<=100000000:=by
 obtain⟨⟨q,hq,e⟩,⟨q',hq',e'⟩⟩:=cosF_mem s d (fst_side hok)
 rw[e,e']
 exact⟨cos_rbd hok hd hq,cos_rbd hok hd hq'⟩
def fz:AV:=.agg [.int .i64 0, .int .i64 0]
def fr(q:Int × Int):AV:=.agg [.int .i64 (redN q.1 q.2), .int .i64 (redD q.1 q.2)]
theorem k18(f:Frm)(i:Nat)(r:Int)(h:f.pos i r=0):FnA Tryz.prog 119 [.agg f.cells, .int .i64 i, .int .i64 r] (· = if f.dist i r=0 then .tup [fz,fz, .int .i64 3] else .tup [fr (cosF (f.ss.getD i default) (f.dist i r)).1,fr (cosF (f.ss.getD i default) (f.dist i r)).2, .int .i64 0]):=by
 obtain⟨hok,hi,h1,h2,h3,h4⟩:=pos_ok h
 have hi':i<f.ss.length:=by omega
 have hL:(f.ss.map Sec.av).length=f.ss.length:=by simp
 have hs:=sec_ok hok hi'
 have hd:=Frm.dist_bd hok i (show 0<=r by omega) h4
 have hsec:f.ss.getD i default=f.ss[i]:=by simp[List.getD_eq_getElem?_getD,hi']
 rw[hsec]
 refine fnA 3 ok119 (by simp) ?_
 (conv=>whnf);(repeat'((first|apply bT|apply bF|apply bN|((first|apply bD|apply bEq|apply bNe)<;>intro hh)|refine(k52 f _ _).cq rfl rfl ?_|refine(k53 f i r hok hi' (by omega) h4).cq rfl rfl ?_|refine wJ ?_|refine nJ ?_)<;>conv=>whnf))
 all_goals (first|exact absurd h (by assumption)|skip)
 ·rw[if_pos (by assumption)];rfl
 ·have hne:f.dist i r≠0:=by assumption
  have hb:=cosF_bd hs (d:=f.dist i r) (by omega)
  refine iaJ (getD_map Sec.av f.ss i hi') ?_
  (conv=>whnf);(repeat'((first|apply bT|apply bF|apply bN|((first|apply bD|apply bEq|apply bNe)<;>intro hh)|refine(k57 f.ss[i] _ hs hd).cq rfl rfl ?_|refine(k58 _ _ hb.1.1 hb.1.2).cq rfl rfl ?_|refine(k58 _ _ hb.2.1 hb.2.2).cq rfl rfl ?_|refine wJ ?_|refine nJ ?_)<;>conv=>whnf))
  all_goals (rw[if_neg hne];rfl)
theorem k50(n lo hi:Int):FnA Tryz.prog 94 [.int .i64 n, .int .i64 lo, .int .i64 hi] (· = .bool (decide (lo<=n/\n<=hi))):=by
 refine fnA 2 ok94 (by simp) ?_
 (conv=>whnf);(repeat'((first|apply bT|apply bF|apply bN|((first|apply bD|apply bEq|apply bNe)<;>intro hh<;>try(exfalso;omega))|refine wJ ?_|refine nJ ?_)<;>conv=>whnf))
 all_goals first|rfl|exact congrArg AV.bool (decide_eq_decide.2 (by omega))|exact congrArg AV.bool (decide_eq_true (by omega)).symm|exact congrArg AV.bool (decide_eq_false (by omega)).symm
theorem k49(a b:Int):FnA Tryz.prog 112 [.agg [.int .i64 a, .int .i64 b]] (· = .bool (decide (okSpan a b 6))):=by
 refine fnA 2 ok112 (by simp) ?_
 unfold okSpan
 (conv=>whnf);(repeat'((first|apply bT|apply bF|apply bN|((first|apply bD|apply bEq|apply bNe)<;>intro hh<;>try(exfalso;omega))|refine(k50 _ _ _).cq rfl rfl ?_|refine wJ ?_|refine nJ ?_)<;>conv=>whnf))
 all_goals first|rfl|exact congrArg AV.bool (decide_eq_decide.2 (by omega))|exact congrArg AV.bool (decide_eq_true (by omega)).symm|exact congrArg AV.bool (decide_eq_false (by omega)).symm
theorem k51(a b:Int):FnA Tryz.prog 113 [.agg [.int .i64 a, .int .i64 b]] (· = .bool (decide (okPart a b))):=by
 refine fnA 2 ok113 (by simp) ?_
 unfold okPart
 (conv=>whnf);(repeat'((first|apply bT|apply bF|apply bN|((first|apply bD|apply bEq|apply bNe)<;>intro hh<;>try(exfalso;omega))|refine(k50 _ _ _).cq rfl rfl ?_|refine wJ ?_|refine nJ ?_)<;>conv=>whnf))
 all_goals first|rfl|exact congrArg AV.bool (decide_eq_decide.2 (by omega))|exact congrArg AV.bool (decide_eq_true (by omega)).symm|exact congrArg AV.bool (decide_eq_false (by omega)).symm
theorem k15(f:Frm)(hn:f.ss.length<=1000000000000):FnA Tryz.prog 93 [.agg f.cells] (· = .int .i64 (if f.ok then 0 else 10)):=by
 have hL:(f.ss.map Sec.av).length=f.ss.length:=by simp
 refine fnA 2 ok93 (by simp) ?_
 (conv=>whnf);(repeat'((first|apply bT|apply bF|apply bN|((first|apply bD|apply bEq|apply bNe)<;>intro hh)|refine wJ ?_|refine nJ ?_)<;>conv=>whnf))
 refine loop_i (α :=Nat) (fun k=>[(3, .int .i64 k),(1, .own 0 0)]) (fun k=>[.box false f.cells, .fresh]) (fun k=>k<=f.ss.length/\∀s∈f.ss.take k,s.ok) (fun k=>f.ss.length-k) 0 mI ⟨by omega,by simp⟩ ?_
 rintro k ⟨h1,h2⟩
 conv=>whnf
 refine bD (fun h3=>?_) (fun h3=>?_)
 ·conv=>whnf
  have hk:k<f.ss.length:=by omega
  refine iaJ (getD_map Sec.av f.ss k hk) ?_
  generalize hsk:f.ss[k]=s
  have hms:s∈f.ss:=hsk ▸ List.getElem_mem hk
  by_cases hs:s.ok
  ·obtain⟨s1,s2,s3,s4⟩:=hs
   (conv=>whnf);(repeat'((first|apply bT|apply bF|apply bN|((first|apply bD|apply bEq|apply bNe)<;>intro hh)|refine(k49 _ _).cq rfl rfl ?_|refine(k51 _ _).cq rfl rfl ?_|refine(k50 _ _ _).cq rfl rfl ?_|refine wJ ?_|refine nJ ?_)<;>conv=>whnf))
   all_goals first
    |exact absurd s1 (by assumption)
    |exact absurd s2 (by assumption)
    |exact absurd s3 (by assumption)
    |exact absurd s4 (by assumption)
    |skip
   refine⟨k+1,mI,⟨by omega,all_take hk h2 ?_⟩,by omega⟩
   rw[hsk];exact⟨s1,s2,s3,s4⟩
  ·have hno:¬f.ok:=fun h=>hs (h.2.2.1 s hms)
   rw[if_neg hno]
   (conv=>whnf);(repeat'((first|apply bT|apply bF|apply bN|((first|apply bD|apply bEq|apply bNe)<;>intro hh)|refine(k49 _ _).cq rfl rfl ?_|refine(k51 _ _).cq rfl rfl ?_|refine(k50 _ _ _).cq rfl rfl ?_|refine wJ ?_|refine nJ ?_)<;>conv=>whnf))
   all_goals first
    |rfl
    |(exfalso;refine hs ⟨?_,?_,?_,?_⟩<;>assumption)
 ·have e:k=f.ss.length:=by omega
  subst e
  rw[List.take_length]at h2
  have hiff:f.ok<->(1<=(f.ss.length:Int)/\(f.ss.length:Int)<=3)/\okSpan f.lo f.hi 200/\okPart f.en f.ed/\(0<=f.rod/\f.rod<=4000)/\(0<=f.cs/\f.cs<=4000):=⟨fun h=>⟨⟨by have:=h.1;omega,by have:=h.2.1;omega⟩,h.2.2.2⟩,fun h=>⟨by omega,by omega,h2,h.2⟩⟩
  clear h3 h1 h2
  simp only[hiff,okSpan]
  rw[<- hL]
  (conv=>whnf);(repeat'((first|apply bT|apply bF|apply bN|((first|apply bD|apply bEq|apply bNe)<;>intro hh<;>try(exfalso;omega))|refine(k51 _ _).cq rfl rfl ?_|refine(k50 _ _ _).cq rfl rfl ?_|refine wJ ?_|refine nJ ?_)<;>conv=>whnf))
  all_goals first
   |(rw[if_pos ⟨by assumption,by omega,by assumption,by assumption,by assumption⟩])
   |(rw[if_neg fun h=>?_];first|exact absurd h.2.2.1 (by assumption)|omega)
def Frm.np(f:Frm):Nat:=(f.hi+1-f.lo).toNat
def Frm.poss(f:Frm):List Int:=(List.range f.np).map fun k=>f.hi-(k:Nat)
def Frm.sec(f:Frm)(i:Nat):Sec:=f.ss.getD i default
theorem Frm.sec_eq{f:Frm}{i:Nat}(h:i<f.ss.length):f.sec i=f.ss[i]:=by simp[Frm.sec,List.getD_eq_getElem?_getD,h]
theorem Frm.sec_ok{f:Frm}(hok:f.ok){i:Nat}(h:i<f.ss.length):(f.sec i).ok:=by rw[Frm.sec_eq h];exact Go.Proofs.sec_ok hok h
def Frm.firstS(f:Frm)(r:Int):Option Nat:=(List.range f.ss.length).find? (fun i=>decide (f.bnd i r≠2))
def Frm.first(f:Frm):Option (Nat × Int):=f.poss.findSome? (fun r=>(f.firstS r).map (fun i=>(i,r)))
def Frm.far(f:Frm):Bool:=decide (40<f.ss.length)||(decide f.ok&&decide (60<=f.hi-f.lo))
def Frm.rdy(f:Frm):Bool := !f.far&&decide f.ok
theorem dist_zero(f:Frm)(r:Int):f.dist 0 r=r:=by
 unfold Frm.dist
 cases f.ss<;>simp
theorem red_eq{n d:Int}(hd:1<=d):n=Int.gcd n d*redN n d/\d=Int.gcd n d*redD n d/\1<=redD n d:=by
 have hg:=gcd_bd (n:=n) hd
 have e1:d=Int.gcd n d*redD n d:=(Int.mul_tdiv_cancel' (Int.gcd_dvd_right n d)).symm
 refine⟨(Int.mul_tdiv_cancel' (Int.gcd_dvd_left n d)).symm,e1,?_⟩
 by_cases h:1<=redD n d
 ·exact h
 ·have:(Int.gcd n d:Int)*redD n d<=0:=Int.mul_nonpos_of_nonneg_of_nonpos (by omega) (by omega)
  omega
theorem red_bd{n d:Int}(hn : -100000000<=n/\n<=100000000)(hd:1<=d/\d<=100000000):(-100000000<=redN n d/\redN n d<=100000000)/\1<=redD n d/\redD n d<=100000000:=by
 have hg:=gcd_bd (n:=n) hd.1
 have h1:=tdiv_abs (a:=n) hg.1 100000000 (by omega) (by omega)
 have h2:=tdiv_abs (a:=d) hg.1 100000000 (by omega) (by omega)
 have h3:=(red_eq (n:=n) hd.1).2.2
 unfold redN redD at *
 omega
def Sec.rows(s:Sec)(k:Nat):List (List AV):=((List.range k).map s.side).map pairAV
def cnt(s:Sec)(P:Int->Int->Bool)(k:Nat):Int:=(((s.sides.take k).countP (fun q=>P q.1 q.2):Nat):Int)
def i1(n:Int):List AV:=[.int .i64 n]
structure Tr where
 L:Int
 ss:List Int
 sh:List Int
def Tr.cells(t:Tr):List AV:=[.int .i64 t.L, .isl (t.ss.map i1), .isl (t.sh.map i1)]
def Tr.ok(t:Tr):Prop:=(0<=t.L/\t.L<=200)/\(3<=t.ss.length/\t.ss.length<=10)/\t.sh.length=t.ss.length/\(∀x∈t.sh,0<=x/\x<=99)/\∀x∈t.ss,0<=x/\x<=99999
structure Gu where
 (F A:Int)
def Gu.av(g:Gu):List AV:=[.int .i64 g.F, .int .i64 g.A]
def Gu.ok(g:Gu)(n:Nat):Prop:=(0<=g.F/\g.F<=99)/\0<=g.A/\g.A<n
def ar(n:Nat)(r:Int):Int:=r%n
theorem ar_bd{n:Nat}(r:Int)(h:0<n):0<=ar n r/\ar n r<n:=by
 unfold ar;exact⟨Int.emod_nonneg _ (by omega),Int.emod_lt_of_pos _ (by omega)⟩
theorem tmod_ar{n:Nat}{r:Int}(h:0<=r+n):(r+n).tmod n=ar n r:=by
 unfold ar;rw[Int.tmod_eq_emod_of_nonneg h,Int.add_emod_right]
def Tr.share(t:Tr)(i:Int):Int:=t.sh.getD i.toNat 0
def Tr.ld(t:Tr)(g:Gu)(i:Int):Int:=g.F*t.L*t.share (ar t.ss.length (i-g.A)) / 100
theorem share_bd{t:Tr}(h:t.ok)(i:Int):0<=t.share i/\t.share i<=99:=by
 unfold Tr.share
 by_cases hi:i.toNat<t.sh.length
 ·rw[List.getD_eq_getElem?_getD,List.getElem?_eq_getElem hi];exact h.2.2.2.1 _ (List.getElem_mem hi)
 ·rw[List.getD_eq_getElem?_getD,List.getElem?_eq_none (by omega)];simp
theorem prod_bd{t:Tr}(h:t.ok){g:Gu}{n:Nat}(hg:g.ok n):(0<=g.F*t.L/\g.F*t.L<=99*200)/\∀x,0<=x->x<=99->0<=g.F*t.L*x/\g.F*t.L*x<=99*200*99:=by
 have h1:=mul_bd 99 200 hg.1.1 hg.1.2 h.1.1 h.1.2
 exact⟨h1,fun x h2 h3=>mul_bd (99*200) 99 h1.1 h1.2 h2 h3⟩
theorem ld_bd{t:Tr}(h:t.ok){g:Gu}{n:Nat}(hg:g.ok n)(i:Int):0<=t.ld g i/\t.ld g i<=19602:=by
 have h1:=share_bd h (ar t.ss.length (i-g.A))
 have h2:=(prod_bd h hg).2 _ h1.1 h1.2
 unfold Tr.ld;omega
theorem g67(t:Tr)(r:Int)(h:t.ok)(h0:0<=r+t.ss.length)(h1:r<=1000):FnA Tryz.prog 124 [.agg t.cells, .int .i64 r] (· = .int .i64 (ar t.ss.length r)):=by
 have hl:=h.2.1
 have hL:(t.ss.map i1).length=t.ss.length:=by simp
 refine fnA 1 ok124 (by simp) ?_
 (conv=>whnf);(repeat'((first|apply bT|apply bF|apply bN|((first|apply bD|apply bEq|apply bNe)<;>intro hh<;>try(exfalso;omega))|refine wJ ?_|refine nJ ?_)<;>conv=>whnf))
 all_goals (simp only[hL];rw[tmod_ar h0])
theorem getD_mapD{α : Type}(f : α -> List AV)(l:List α)(i:Nat)(d : α)(h:i<l.length):(l.map f).getD i []=f (l.getD i d):=by
 simp[List.getD_eq_getElem?_getD,h]
theorem g42(t:Tr)(g:Gu)(i:Int)(h:t.ok)(hg:g.ok t.ss.length)(h0:0<=i)(h1:i<t.ss.length):FnA Tryz.prog 110 [.agg t.cells, .agg g.av, .int .i64 i] (· = .int .i64 (t.ld g i)):=by
 have hl:=h.2.1
 have hsh:=h.2.2.1
 have hA:=hg.2
 have hL:(t.sh.map i1).length=t.sh.length:=by simp
 have hp:=prod_bd h hg
 have hb:=ar_bd (n:=t.ss.length) (i-g.A) (by omega)
 have hs:=share_bd h (ar t.ss.length (i-g.A))
 have hq:=hp.2 _ hs.1 hs.2
 simp only[Tr.share]at hq
 have hdv:=Int.tdiv_eq_ediv_of_nonneg (b:=100) hq.1
 have hdb:0<=(g.F*t.L*t.sh.getD (ar t.ss.length (i-g.A)).toNat 0).tdiv 100/\(g.F*t.L*t.sh.getD (ar t.ss.length (i-g.A)).toNat 0).tdiv 100<=19602:=by rw[hdv];omega
 refine fnA 2 ok110 (by simp) ?_
 (conv=>whnf);(repeat'((first|apply bT|apply bF|apply bN|((first|apply bD|apply bEq|apply bNe)<;>intro hh<;>try(exfalso;omega))|refine(g67 t _ h (by omega) (by omega)).cq rfl rfl ?_|refine wJ ?_|refine nJ ?_)<;>conv=>whnf))
 refine iaI (by omega) (by omega) (getD_mapD i1 t.sh _ 0 (by omega)) ?_
 (conv=>whnf);(repeat'((first|apply bT|apply bF|apply bN|((first|apply bD|apply bEq|apply bNe)<;>intro hh<;>try(exfalso;omega))|refine wJ ?_|refine nJ ?_)<;>conv=>whnf))
 all_goals (show AV.int _ _=_;congr 1)
def sumr(l:Int->Int)(gs:List Bool)(n:Nat)(i s:Int):Nat->Nat->Int
 |0,_=>0
 |k+1,j=>if gs.getD (ar n (i+j*s)).toNat false then l (ar n (i+j*s))+sumr l gs n i s k (j+1) else 0
def sside(l:Int->Int)(gs:List Bool)(n:Nat)(i s:Int):Int:=sumr l gs n i s (n-1) 1
def hand(l:Int->Int)(gs:List Bool)(n:Nat)(i:Int):Int:=sside l gs n i (-1) / 2+sside l gs n i 1 / 2
def Tr.cond(t:Tr)(g:Gu)(gs:List Bool)(i:Nat):Bool := !gs.getD i false&&decide (t.ss.getD i 0<t.ld g i+hand (t.ld g) gs t.ss.length i)
def n1(i:Nat):List AV:=[.int .i64 i]
def lst(n:Nat)(p:Nat->Bool):List Nat:=(List.range n).filter p
theorem lst_succ(n:Nat)(p:Nat->Bool):lst (n+1) p=if p n then lst n p++[n] else lst n p:=by
 unfold lst;rw[List.range_succ,List.filter_append];simp only[List.filter_cons,List.filter_nil];split<;>simp
theorem lst_le(n:Nat)(p:Nat->Bool):(lst n p).length<=n:=by
 unfold lst;refine Nat.le_trans (List.length_filter_le _ _) ?_;simp
theorem lst_mem{n:Nat}{p:Nat->Bool}{i:Nat}:i∈lst n p<->i<n/\p i=true:=by simp[lst]
theorem n1_flat:∀l:List Nat,AV.flatL ((l.map n1).flatten)=true
 | []=>rfl
 |i::l=>by simp only[List.map_cons,List.flatten_cons,n1,List.cons_append,List.nil_append,AV.flatL,AV.flat,Bool.true_and];exact n1_flat l
theorem g49_2(n:Nat)(f:FuncId)(c1 c2:List AV)(p:Nat->Bool)(hn:n<=1000)(h:∀i:Nat,i<n->FnV Tryz.prog (.fn f [.ipt c1, .ipt c2]) [.int .i64 i] (· = .bool (p i))) :
  FnO Tryz.prog 80 [.int .i64 n, .fn f [.ipt c1, .ipt c2]] (fun r rows=>r = .row 3/\rows=[(3, .row false 3 1 ((lst n p).map n1))]):=by
 refine fnO 4 ok80 (by simp) ?_
 conv=>whnf
 refine loop_i (α :=Nat) (fun k=>[(8, .int .i64 k),(7, .int .i64 n),(5, .row 3),(1, .fn f [.ipt c1, .ipt c2])]) (fun k=>[.fresh, .fresh, .fresh, .row false 3 1 ((lst k p).map n1)]) (fun k=>k<=n) (fun k=>n-k) 0 (mN 3) (by omega) ?_
 intro k hk
 conv=>whnf
 refine bD (fun h3=>?_) (fun h3=>?_)
 ·have hlt:k<n:=by omega
  have hv:=h k hlt
  have hs:=lst_succ k p
  have hlen:=lst_le k p
  conv=>whnf
  refine hv.vcallq rfl rfl rfl rfl (fun r (hr:r=_)=>?_);subst hr
  conv=>whnf
  refine bS (fun h4=>?_) (fun h4=>?_)
  ·rw[if_pos h4]at hs
   conv=>whnf
   refine apI (by simp[AV.one]) (by simp;omega) ?_
   (conv=>whnf);(repeat'((first|apply bT|apply bF|apply bN|((first|apply bD|apply bEq|apply bNe)<;>intro hh<;>try(exfalso;omega))|refine wJ ?_|refine nJ ?_)<;>conv=>whnf))
   refine⟨k+1,?_,by omega,by omega⟩
   have e:(lst (k+1) p).map n1=(lst k p).map n1++[[.int .i64 k]]:=by rw[hs];simp[n1]
   rw[e]
   simp only[Int.natCast_add,Int.natCast_one]
   exact(mR 3 1)
  ·rw[if_neg (by rw[h4];simp)]at hs
   (conv=>whnf);(repeat'((first|apply bT|apply bF|apply bN|((first|apply bD|apply bEq|apply bNe)<;>intro hh<;>try(exfalso;omega))|refine wJ ?_|refine nJ ?_)<;>conv=>whnf))
   refine⟨k+1,?_,by omega,by omega⟩
   rw[hs]
   simp only[Int.natCast_add,Int.natCast_one]
   exact mI
 ·have:k=n:=by omega
  subst this
  (conv=>whnf);(repeat'((first|apply bT|apply bF|apply bN|((first|apply bD|apply bEq|apply bNe)<;>intro hh<;>try(exfalso;omega))|refine wJ ?_|refine nJ ?_)<;>conv=>whnf))
  all_goals exact⟨rfl,rfl⟩
def Tr.go(t:Tr)(g:Gu)(gs:List Bool):List Nat:=lst t.ss.length (t.cond g gs)
def Tr.stp(t:Tr)(g:Gu)(gs:List Bool):List Bool:=(List.range t.ss.length).map fun i=>gs.getD i false||t.cond g gs i
def Tr.G(t:Tr)(g:Gu):Nat->List Bool
 |0=>List.replicate t.ss.length false
 |r+1=>t.stp g (t.G g r)
theorem G_len(t:Tr)(g:Gu):∀r,(t.G g r).length=t.ss.length
 |0=>by simp[Tr.G]
 |r+1=>by simp[Tr.G,Tr.stp]
theorem stp_get{t:Tr}{g:Gu}{gs:List Bool}{i:Nat}(h:i<t.ss.length):(t.stp g gs).getD i false=(gs.getD i false||t.cond g gs i):=by
 simp[Tr.stp,List.getD_eq_getElem?_getD,h]
def Tr.K(t:Tr)(g:Gu):Nat:=((List.range (t.ss.length+1)).find? fun r=>(t.go g (t.G g r)).isEmpty).getD 0
theorem cp_le{p q:Nat->Bool}:∀ {l:List Nat},(∀x∈l,p x=true->q x=true)->l.countP p<=l.countP q:=fun h=>List.countP_mono_left h
theorem cp_lt{p q:Nat->Bool}:∀ {l:List Nat},(∀x∈l,p x=true->q x=true)->∀x∈l,p x=false->q x=true->l.countP p<l.countP q
 | [],_,x,hx,_,_=>by cases hx
 |y::l,h,x,hx,hp,hq=>by
  have h':∀x∈l,p x=true->q x=true:=fun x hx=>h x (by simp[hx])
  rcases List.mem_cons.1 hx with rfl|hx
  ·rw[List.countP_cons_of_neg (by rw[hp];simp),List.countP_cons_of_pos hq]
   have:=cp_le h';omega
  ·have ih:=cp_lt h' x hx hp hq
   by_cases hy:p y=true
   ·rw[List.countP_cons_of_pos hy,List.countP_cons_of_pos (h y (by simp) hy)];omega
   ·rw[List.countP_cons_of_neg hy]
    by_cases hy2:q y=true
    ·rw[List.countP_cons_of_pos hy2];omega
    ·rw[List.countP_cons_of_neg hy2];omega
theorem go_mem{t:Tr}{g:Gu}{gs:List Bool}{i:Nat}:i∈t.go g gs<->i<t.ss.length/\t.cond g gs i=true:=lst_mem
theorem cond_new{t:Tr}{g:Gu}{gs:List Bool}{i:Nat}(h:t.cond g gs i=true):gs.getD i false=false:=by
 unfold Tr.cond at h;simp only[Bool.and_eq_true,Bool.not_eq_true']at h;exact h.1
theorem cnt_le(t:Tr)(g:Gu):∀k,(∀r<k,t.go g (t.G g r)≠[])->k<=(List.range t.ss.length).countP fun i=>(t.G g k).getD i false
 |0,_=>by omega
 |k+1,h=>by
  have ih:=cnt_le t g k fun r hr=>h r (by omega)
  have hne:=h k (by omega)
  obtain⟨i,hi⟩:=List.exists_mem_of_ne_nil _ hne
  rw[go_mem]at hi
  have:=cp_lt (l:=List.range t.ss.length) (p:=fun i=>(t.G g k).getD i false) (q:=fun i=>(t.G g (k+1)).getD i false) (fun x hx hp=>by
   have hx':x<t.ss.length:=by simpa using hx
   show(t.stp g (t.G g k)).getD x false=true
   rw[stp_get hx'];rw[hp];rfl) i (by simpa using hi.1) (cond_new hi.2) (by
   show(t.stp g (t.G g k)).getD i false=true
   rw[stp_get hi.1,hi.2];simp)
  omega
theorem K_ok(t:Tr)(g:Gu):(∀r<t.K g,t.go g (t.G g r)≠[])/\t.go g (t.G g (t.K g))=[]/\t.K g<=t.ss.length:=by
 cases hf:(List.range (t.ss.length+1)).find? fun r=>(t.go g (t.G g r)).isEmpty with
 |some k=>
  have hk:t.K g=k:=by unfold Tr.K;rw[hf];rfl
  rw[List.find?_range_eq_some]at hf
  rw[hk]
  refine⟨fun r hr e=>?_,by simpa using hf.1,by have:=hf.2.1;simp at this;omega⟩
  have:=hf.2.2 r hr
  rw[e]at this;simp at this
 |none=>
  rw[List.find?_eq_none]at hf
  have hne:∀r,r<=t.ss.length->t.go g (t.G g r)≠[]:=fun r hr e=>by
   have:=hf r (by simp;omega)
   rw[e]at this;simp at this
  have h1:=cnt_le t g t.ss.length fun r hr=>hne r (by omega)
  obtain⟨i,hi⟩:=List.exists_mem_of_ne_nil _ (hne t.ss.length (by omega))
  rw[go_mem]at hi
  have h2:(List.range t.ss.length).countP (fun i=>(t.G g t.ss.length).getD i false)<(List.range t.ss.length).length:=by
   rw[List.countP_eq_length_filter]
   refine Nat.lt_of_le_of_ne (List.length_filter_le _ _) fun e=>?_
   have:=List.length_filter_eq_length_iff.1 e i (by simpa using hi.1)
   rw[cond_new hi.2]at this;cases this
  rw[List.length_range]at h2;omega
def Tr.gone(t:Tr)(g:Gu):List Nat:=lst t.ss.length fun i=>(t.G g (t.K g)).getD i false
def Tr.tw(t:Tr)(g:Gu)(i:Nat):Bool:=decide (t.ss.getD i 0<t.ld g i)
def Tr.weak(t:Tr)(g:Gu):List Nat:=lst t.ss.length (t.tw g)
theorem g53(t:Tr)(g:Gu)(i:Nat)(h:t.ok)(hg:g.ok t.ss.length)(h1:i<t.ss.length):FnA Tryz.prog 84 [.agg t.cells, .agg g.av, .int .i64 i] (· = .bool (t.tw g i)):=by
 have hL2:(t.ss.map i1).length=t.ss.length:=by simp
 refine fnA 2 ok84 (by simp) ?_
 (conv=>whnf);(repeat'((first|apply bT|apply bF|apply bN|((first|apply bD|apply bEq|apply bNe)<;>intro hh<;>try(exfalso;omega))|refine wJ ?_|refine nJ ?_)<;>conv=>whnf))
 refine iaI (by omega) (by omega) (getD_mapD i1 t.ss _ 0 (by omega)) ?_
 simp only[Int.toNat_natCast]
 (conv=>whnf);(repeat'((first|apply bT|apply bF|apply bN|((first|apply bD|apply bEq|apply bNe)<;>intro hh<;>try(exfalso;omega))|refine(g42 t g _ h hg (by omega) (by omega)).cq rfl rfl ?_|refine wJ ?_|refine nJ ?_)<;>conv=>whnf))
 all_goals rfl
theorem g72(t:Tr)(g:Gu)(i:Nat)(h:t.ok)(hg:g.ok t.ss.length)(h1:i<t.ss.length):FnA Tryz.prog 139 [.int .i64 i, .ipt t.cells, .ipt g.av] (· = .bool (t.tw g i)):=by
 refine fnA 0 ok139 (by simp) ?_
 (conv=>whnf);(repeat'((first|apply bT|apply bF|apply bN|((first|apply bD|apply bEq|apply bNe)<;>intro hh<;>try(exfalso;omega))|refine(g53 t g i h hg h1).cq rfl rfl ?_|refine wJ ?_|refine nJ ?_)<;>conv=>whnf))
 all_goals rfl
theorem g45(t:Tr)(g:Gu)(h:t.ok)(hg:g.ok t.ss.length):FnO Tryz.prog 131 [.agg t.cells, .agg g.av] (fun r rows=>r = .row 2/\rows=[(2, .row false 3 1 ((t.weak g).map n1))]):=by
 have hl:=h.2.1
 have hL2:(t.ss.map i1).length=t.ss.length:=by simp
 refine fnO 3 ok131 (by simp) ?_
 (conv=>whnf);(repeat'((first|apply bT|apply bF|apply bN|((first|apply bD|apply bEq|apply bNe)<;>intro hh<;>try(exfalso;omega))|refine wJ ?_|refine nJ ?_)<;>conv=>whnf))
 have hc:FnO Tryz.prog 80 [.int .i64 (t.ss.map i1).length, .fn 139 [.ipt t.cells, .ipt g.av]] (fun r' rows=>r' = .row 3/\rows=[(3, .row false 3 1 ((t.weak g).map n1))]):=by
  have:=g49_2 (t.ss.map i1).length 139 t.cells g.av (t.tw g) (by omega) (fun i hi=>fnV_of bd139 (g72 t g i h hg (by omega)))
  rwa [show lst (t.ss.map i1).length (t.tw g)=t.weak g from by rw[hL2];rfl]at this
 refine hc.callmq rfl (fun r' rows (hr:r'=_/\rows=_)=>?_);obtain⟨hr1,hr2⟩:=hr;subst hr1;subst hr2
 refine⟨rfl,by simp[flatRB,n1_flat],rfl,?_⟩
 (conv=>whnf);(repeat'((first|apply bT|apply bF|apply bN|((first|apply bD|apply bEq|apply bNe)<;>intro hh<;>try(exfalso;omega))|refine wJ ?_|refine nJ ?_)<;>conv=>whnf))
 all_goals exact⟨rfl,rfl⟩
theorem g71(t:Tr)(g:Gu)(h:t.ok)(hg:g.ok t.ss.length):FnA Tryz.prog 130 [.agg g.av, .ipt t.cells] (· = .bool (t.weak g).isEmpty):=by
 refine fnA 2 ok130 (by simp) ?_
 (conv=>whnf);(repeat'((first|apply bT|apply bF|apply bN|((first|apply bD|apply bEq|apply bNe)<;>intro hh<;>try(exfalso;omega))|refine wJ ?_|refine nJ ?_)<;>conv=>whnf))
 refine(g45 t g h hg).callmq rfl (fun r' rows (hr:r'=_/\rows=_)=>?_);obtain⟨hr1,hr2⟩:=hr;subst hr1;subst hr2
 refine⟨rfl,by simp[flatRB,n1_flat],rfl,?_⟩
 (conv=>whnf);(repeat'((first|apply bT|apply bF|apply bN|((first|apply bD|apply bEq|apply bNe)<;>intro hh<;>try(exfalso;omega))|refine wJ ?_|refine nJ ?_)<;>conv=>whnf))
 all_goals (congr 1;cases t.weak g<;>simp<;>omega)
theorem gtake_all{α : Type}{l:List α}{p : α -> Bool}{k:Nat}(hk:k<l.length)(h:∀g∈l.take k,p g=true)(h2:p l[k]=true):∀g∈l.take (k+1),p g=true:=by
 intro g hg
 rw[List.take_succ_eq_append_getElem hk,List.mem_append]at hg
 rcases hg with hg|hg
 ·exact h g hg
 ·simp at hg;rw[hg];exact h2
theorem all_false{α : Type}{l:List α}{p : α -> Bool}{k:Nat}(hk:k<l.length)(h2:p l[k]=false):l.all p=false:=by
 rw[Bool.eq_false_iff];intro h;rw[List.all_eq_true]at h
 have:=h _ (List.getElem_mem hk);rw[h2]at this;cases this
theorem g70(l:List Gu)(f:FuncId)(c:List AV)(p:Gu->Bool)(hn:l.length<=1000)(h:∀g∈l,FnV Tryz.prog (.fn f [.ipt c]) [.agg g.av] (· = .bool (p g))) :
  FnA Tryz.prog 123 [.isl (l.map Gu.av), .fn f [.ipt c]] (· = .bool (l.all p)):=by
 have hL:(l.map Gu.av).length=l.length:=by simp
 refine fnA 1 ok123 (by simp) ?_
 conv=>whnf
 refine loop_i (α :=Nat) (fun k=>[(9, .int .i64 k),(8, .int .i64 (l.map Gu.av).length),(7, .isl (l.map Gu.av)),(1, .fn f [.ipt c])]) (fun _=>[.fresh]) (fun k=>k<=l.length/\∀g∈l.take k,p g=true) (fun k=>l.length-k) 0 mI ⟨by omega,by simp⟩ ?_
 rintro k ⟨hk,hp⟩
 conv=>whnf
 refine bD (fun h3=>?_) (fun h3=>?_)
 ·have hlt:k<l.length:=by omega
  have hv:=h l[k] (List.getElem_mem hlt)
  (conv=>whnf);(repeat'((first|apply bT|apply bF|apply bN|((first|apply bD|apply bEq|apply bNe)<;>intro hh<;>try(exfalso;omega))|refine iaJ (getD_map Gu.av l k hlt) ?_|refine wJ ?_|refine nJ ?_)<;>conv=>whnf))
  refine hv.vcallq rfl rfl rfl rfl (fun r (hr:r=_)=>?_);subst hr
  conv=>whnf
  refine bS (fun h4=>?_) (fun h4=>?_)
  ·(conv=>whnf);(repeat'((first|apply bT|apply bF|apply bN|((first|apply bD|apply bEq|apply bNe)<;>intro hh<;>try(exfalso;omega))|refine wJ ?_|refine nJ ?_)<;>conv=>whnf))
   all_goals (congr 1;exact(all_false hlt (by simpa using h4)).symm)
  ·(conv=>whnf);(repeat'((first|apply bT|apply bF|apply bN|((first|apply bD|apply bEq|apply bNe)<;>intro hh<;>try(exfalso;omega))|refine wJ ?_|refine nJ ?_)<;>conv=>whnf))
   refine⟨k+1,?_,⟨by omega,gtake_all hlt hp (by simpa using h4)⟩,by omega⟩
   simp only[Int.natCast_add,Int.natCast_one]
   exact mI
 ·have:k=l.length:=by omega
  subst this
  (conv=>whnf);(repeat'((first|apply bT|apply bF|apply bN|((first|apply bD|apply bEq|apply bNe)<;>intro hh<;>try(exfalso;omega))|refine wJ ?_|refine nJ ?_)<;>conv=>whnf))
  all_goals (rw[List.take_length]at hp;congr 1;exact(List.all_eq_true.2 hp).symm)
theorem g44(t:Tr)(l:List Gu)(h:t.ok)(hn:l.length<=1000)(hl:∀g∈l,g.ok t.ss.length):FnA Tryz.prog 116 [.agg t.cells, .isl (l.map Gu.av)] (· = .bool (l.all fun g=>(t.weak g).isEmpty)):=by
 refine fnA 1 ok116 (by simp) ?_
 have hc:=g70 l 130 t.cells (fun g=>(t.weak g).isEmpty) hn (fun g hg=>fnV_of bd130 (g71 t g h (hl g hg)))
 (conv=>whnf);(repeat'((first|apply bT|apply bF|apply bN|((first|apply bD|apply bEq|apply bNe)<;>intro hh<;>try(exfalso;omega))|refine hc.lq rfl rfl ?_|refine wJ ?_|refine nJ ?_)<;>conv=>whnf))
 all_goals rfl
theorem g52(t:Tr)(g:Gu)(i:Nat)(h:t.ok)(hg:g.ok t.ss.length)(h1:i<t.ss.length):FnA Tryz.prog 83 [.agg g.av, .ipt t.cells, .ipt [.int .i64 i]] (· = .bool (t.tw g i)):=by
 refine fnA 1 ok83 (by simp) ?_
 (conv=>whnf);(repeat'((first|apply bT|apply bF|apply bN|((first|apply bD|apply bEq|apply bNe)<;>intro hh<;>try(exfalso;omega))|refine(g53 t g i h hg h1).cq rfl rfl ?_|refine wJ ?_|refine nJ ?_)<;>conv=>whnf))
 all_goals rfl
theorem g73(l:List Gu)(f:FuncId)(c1 c2:List AV)(p:Gu->Bool)(hn:l.length<=1000)(h:∀g∈l,FnV Tryz.prog (.fn f [.ipt c1, .ipt c2]) [.agg g.av] (· = .bool (p g))) :
  FnA Tryz.prog 109 [.isl (l.map Gu.av), .fn f [.ipt c1, .ipt c2]] (fun r=>∃k:Int,r = .int .i64 k /\ -1<=k/\k<=1000/\decide (0<=k)=l.any p):=by
 have hL:(l.map Gu.av).length=l.length:=by simp
 refine fnA 0 ok109 (by simp) ?_
 conv=>whnf
 refine loop_i (α :=Nat) (fun k=>[(8, .int .i64 k),(7, .int .i64 (l.map Gu.av).length),(1, .fn f [.ipt c1, .ipt c2]),(0, .isl (l.map Gu.av))]) (fun _=>[]) (fun k=>k<=l.length/\∀g∈l.take k,(!p g)=true) (fun k=>l.length-k) 0 mI ⟨by omega,by simp⟩ ?_
 rintro k ⟨hk,hp⟩
 conv=>whnf
 refine bD (fun h3=>?_) (fun h3=>?_)
 ·have hlt:k<l.length:=by omega
  have hv:=h l[k] (List.getElem_mem hlt)
  (conv=>whnf);(repeat'((first|apply bT|apply bF|apply bN|((first|apply bD|apply bEq|apply bNe)<;>intro hh<;>try(exfalso;omega))|refine iaJ (getD_map Gu.av l k hlt) ?_|refine wJ ?_|refine nJ ?_)<;>conv=>whnf))
  refine hv.vcallq rfl rfl rfl rfl (fun r (hr:r=_)=>?_);subst hr
  conv=>whnf
  refine bS (fun h4=>?_) (fun h4=>?_)
  ·(conv=>whnf);(repeat'((first|apply bT|apply bF|apply bN|((first|apply bD|apply bEq|apply bNe)<;>intro hh<;>try(exfalso;omega))|refine wJ ?_|refine nJ ?_)<;>conv=>whnf))
   all_goals exact⟨k,rfl,by omega,by omega,by rw[List.any_eq_true.2 ⟨_,List.getElem_mem hlt,h4⟩];simp⟩
  ·(conv=>whnf);(repeat'((first|apply bT|apply bF|apply bN|((first|apply bD|apply bEq|apply bNe)<;>intro hh<;>try(exfalso;omega))|refine wJ ?_|refine nJ ?_)<;>conv=>whnf))
   refine⟨k+1,?_,⟨by omega,gtake_all hlt hp (by rw[h4];rfl)⟩,by omega⟩
   simp only[Int.natCast_add,Int.natCast_one]
   exact mI
 ·have:k=l.length:=by omega
  subst this
  rw[List.take_length]at hp
  (conv=>whnf);(repeat'((first|apply bT|apply bF|apply bN|((first|apply bD|apply bEq|apply bNe)<;>intro hh<;>try(exfalso;omega))|refine wJ ?_|refine nJ ?_)<;>conv=>whnf))
  all_goals exact⟨-1,rfl,by omega,by omega,by
   have:l.any p=false:=by
    rw[List.any_eq_false];intro x hx;have:=hp x hx;simpa using this
   rw[this];rfl⟩
theorem g51(l:List Gu)(f:FuncId)(c1 c2:List AV)(p:Gu->Bool)(hn:l.length<=1000)(h:∀g∈l,FnV Tryz.prog (.fn f [.ipt c1, .ipt c2]) [.agg g.av] (· = .bool (p g))) :
  FnA Tryz.prog 82 [.isl (l.map Gu.av), .fn f [.ipt c1, .ipt c2]] (· = .bool (l.any p)):=by
 refine fnA 0 ok82 (by simp) ?_
 (conv=>whnf);(repeat'((first|apply bT|apply bF|apply bN|((first|apply bD|apply bEq|apply bNe)<;>intro hh<;>try(exfalso;omega))|refine wJ ?_|refine nJ ?_)<;>conv=>whnf))
 refine(g73 l f c1 c2 p hn h).callq rfl rfl (fun r ⟨k,hr,h1,h2,h3⟩=>?_);subst hr
 (conv=>whnf);(repeat'((first|apply bT|apply bF|apply bN|((first|apply bD|apply bEq|apply bNe)<;>intro hh<;>try(exfalso;omega))|refine wJ ?_|refine nJ ?_)<;>conv=>whnf))
 all_goals (congr 1)
theorem g50(t:Tr)(l:List Gu)(i:Nat)(h:t.ok)(hn:l.length<=1000)(hl:∀g∈l,g.ok t.ss.length)(h1:i<t.ss.length):FnA Tryz.prog 81 [.int .i64 i, .ipt [.isl (l.map Gu.av)], .ipt t.cells] (· = .bool (l.any fun g=>t.tw g i)):=by
 refine fnA 1 ok81 (by simp) ?_
 have hc:=g51 l 83 t.cells [.int .i64 i] (fun g=>t.tw g i) hn (fun g hg=>fnV_of bd83 (g52 t g i h (hl g hg) h1))
 (conv=>whnf);(repeat'((first|apply bT|apply bF|apply bN|((first|apply bD|apply bEq|apply bNe)<;>intro hh<;>try(exfalso;omega))|refine hc.lq rfl rfl ?_|refine wJ ?_|refine nJ ?_)<;>conv=>whnf))
 all_goals rfl
def s2(p:Int × Int):List AV:=[.int .i64 p.1, .int .i64 p.2]
structure Dm where
 f:Frm
 rs:List (Int × Int)
 sh:List Int
def Dm.cells(d:Dm):List AV:=[.isl (d.f.ss.map Sec.av), .int .i64 d.f.lo, .int .i64 d.f.hi, .int .i64 d.f.en, .int .i64 d.f.ed, .int .i64 d.f.rod, .int .i64 d.f.cs, .isl (d.rs.map s2), .isl (d.sh.map i1)]
def okRib(p:Int × Int):Prop:=(0<=p.1/\p.1<=p.2)/\p.2<=99999
instance (p:Int × Int):Decidable (okRib p):=by unfold okRib;infer_instance
def okSh(x:Int):Prop:=0<=x/\x<=99
instance (x:Int):Decidable (okSh x):=by unfold okSh;infer_instance
def Dm.okB(d:Dm):Bool:=decide d.f.ok&&(decide (3<=d.rs.length)&&decide (d.rs.length<=10))&&(d.rs.all fun p=>decide (okRib p))&&decide (d.sh.length=d.rs.length)&&d.sh.all fun x=>decide (okSh x)
instance (g:Gu) (n:Nat):Decidable (g.ok n):=by unfold Gu.ok;infer_instance
def okGu(n:Nat)(g:Gu):Bool:=decide (g.ok n)
theorem g86(n lo hi:Int):FnA Tryz.prog 122 [.int .i64 n, .int .i64 lo, .int .i64 hi] (· = .bool (decide (lo<=n/\n<=hi))):=by
 refine fnA 2 ok122 (by simp) ?_
 (conv=>whnf);(repeat'((first|apply bT|apply bF|apply bN|((first|apply bD|apply bEq|apply bNe)<;>intro hh<;>try(exfalso;omega))|refine wJ ?_|refine nJ ?_)<;>conv=>whnf))
 all_goals first|rfl|exact congrArg AV.bool (decide_eq_decide.2 (by omega))|exact congrArg AV.bool (decide_eq_true (by omega)).symm|exact congrArg AV.bool (decide_eq_false (by omega)).symm
theorem g88(p:Int × Int):FnA Tryz.prog 127 [.agg (s2 p)] (· = .bool (decide (okRib p))):=by
 refine fnA 2 ok127 (by simp) ?_
 unfold okRib
 (conv=>whnf);(repeat'((first|apply bT|apply bF|apply bN|((first|apply bD|apply bEq|apply bNe)<;>intro hh<;>try(exfalso;omega))|refine(g86 _ _ _).cq rfl rfl ?_|refine wJ ?_|refine nJ ?_)<;>conv=>whnf))
 all_goals first|rfl|exact congrArg AV.bool (decide_eq_decide.2 (by omega))|exact congrArg AV.bool (decide_eq_true (by omega)).symm|exact congrArg AV.bool (decide_eq_false (by omega)).symm
theorem g90(x:Int):FnA Tryz.prog 129 [.int .i64 x] (· = .bool (decide (okSh x))):=by
 refine fnA 2 ok129 (by simp) ?_
 unfold okSh
 (conv=>whnf);(repeat'((first|apply bT|apply bF|apply bN|((first|apply bD|apply bEq|apply bNe)<;>intro hh<;>try(exfalso;omega))|refine(g86 _ _ _).cq rfl rfl ?_|refine wJ ?_|refine nJ ?_)<;>conv=>whnf))
 all_goals first|rfl|exact congrArg AV.bool (decide_eq_decide.2 (by omega))|exact congrArg AV.bool (decide_eq_true (by omega)).symm|exact congrArg AV.bool (decide_eq_false (by omega)).symm
theorem g91(d:Dm)(g:Gu)(hn:d.rs.length<=1000):FnA Tryz.prog 121 [.agg g.av, .ipt d.cells] (· = .bool (okGu d.rs.length g)):=by
 have hL:(d.rs.map s2).length=d.rs.length:=by simp
 refine fnA 2 ok121 (by simp) ?_
 unfold okGu Gu.ok
 (conv=>whnf);(repeat'((first|apply bT|apply bF|apply bN|((first|apply bD|apply bEq|apply bNe)<;>intro hh<;>try(exfalso;omega))|refine(g86 _ _ _).cq rfl rfl ?_|refine wJ ?_|refine nJ ?_)<;>conv=>whnf))
 all_goals first|rfl|exact congrArg AV.bool (decide_eq_decide.2 (by omega))|exact congrArg AV.bool (decide_eq_true (by omega)).symm|exact congrArg AV.bool (decide_eq_false (by omega)).symm
theorem g87(l:List (Int × Int))(hn:l.length<=1000):FnA Tryz.prog 126 [.isl (l.map s2), .fn 127 []] (· = .bool (l.all fun p=>decide (okRib p))):=by
 have hL:(l.map s2).length=l.length:=by simp
 refine fnA 1 ok126 (by simp) ?_
 conv=>whnf
 refine loop_i (α :=Nat) (fun k=>[(9, .int .i64 k),(8, .int .i64 (l.map s2).length),(7, .isl (l.map s2)),(1, .fn 127 [])]) (fun _=>[.fresh]) (fun k=>k<=l.length/\∀g∈l.take k,decide (okRib g)=true) (fun k=>l.length-k) 0 mI ⟨by omega,by simp⟩ ?_
 rintro k ⟨hk,hp⟩
 conv=>whnf
 refine bD (fun h3=>?_) (fun h3=>?_)
 ·have hlt:k<l.length:=by omega
  have hv:FnV Tryz.prog (.fn 127 []) [.agg (s2 l[k])] (· = .bool (decide (okRib l[k]))):=fnV_of bd127 (g88 l[k])
  (conv=>whnf);(repeat'((first|apply bT|apply bF|apply bN|((first|apply bD|apply bEq|apply bNe)<;>intro hh<;>try(exfalso;omega))|refine iaJ (getD_map s2 l k hlt) ?_|refine wJ ?_|refine nJ ?_)<;>conv=>whnf))
  refine hv.vcallq rfl rfl rfl rfl (fun r (hr:r=_)=>?_);subst hr
  conv=>whnf
  refine bS (fun h4=>?_) (fun h4=>?_)
  ·(conv=>whnf);(repeat'((first|apply bT|apply bF|apply bN|((first|apply bD|apply bEq|apply bNe)<;>intro hh<;>try(exfalso;omega))|refine wJ ?_|refine nJ ?_)<;>conv=>whnf))
   all_goals (congr 1;exact(all_false (p:=fun p=>decide (okRib p)) hlt (by simpa using h4)).symm)
  ·(conv=>whnf);(repeat'((first|apply bT|apply bF|apply bN|((first|apply bD|apply bEq|apply bNe)<;>intro hh<;>try(exfalso;omega))|refine wJ ?_|refine nJ ?_)<;>conv=>whnf))
   refine⟨k+1,?_,⟨by omega,gtake_all (p:=fun p=>decide (okRib p)) hlt hp (by simpa using h4)⟩,by omega⟩
   simp only[Int.natCast_add,Int.natCast_one]
   exact mI
 ·have:k=l.length:=by omega
  subst this
  (conv=>whnf);(repeat'((first|apply bT|apply bF|apply bN|((first|apply bD|apply bEq|apply bNe)<;>intro hh<;>try(exfalso;omega))|refine wJ ?_|refine nJ ?_)<;>conv=>whnf))
  all_goals (rw[List.take_length]at hp;congr 1;exact(List.all_eq_true.2 hp).symm)
theorem g89(l:List Int)(hn:l.length<=1000):FnA Tryz.prog 128 [.isl (l.map i1), .fn 129 []] (· = .bool (l.all fun p=>decide (okSh p))):=by
 have hL:(l.map i1).length=l.length:=by simp
 refine fnA 1 ok128 (by simp) ?_
 conv=>whnf
 refine loop_i (α :=Nat) (fun k=>[(9, .int .i64 k),(8, .int .i64 (l.map i1).length),(7, .isl (l.map i1)),(1, .fn 129 [])]) (fun _=>[.fresh]) (fun k=>k<=l.length/\∀g∈l.take k,decide (okSh g)=true) (fun k=>l.length-k) 0 mI ⟨by omega,by simp⟩ ?_
 rintro k ⟨hk,hp⟩
 conv=>whnf
 refine bD (fun h3=>?_) (fun h3=>?_)
 ·have hlt:k<l.length:=by omega
  have hv:FnV Tryz.prog (.fn 129 []) [.int .i64 l[k]] (· = .bool (decide (okSh l[k]))):=fnV_of bd129 (g90 l[k])
  (conv=>whnf);(repeat'((first|apply bT|apply bF|apply bN|((first|apply bD|apply bEq|apply bNe)<;>intro hh<;>try(exfalso;omega))|refine iaJ (getD_map i1 l k hlt) ?_|refine wJ ?_|refine nJ ?_)<;>conv=>whnf))
  refine hv.vcallq rfl rfl rfl rfl (fun r (hr:r=_)=>?_);subst hr
  conv=>whnf
  refine bS (fun h4=>?_) (fun h4=>?_)
  ·(conv=>whnf);(repeat'((first|apply bT|apply bF|apply bN|((first|apply bD|apply bEq|apply bNe)<;>intro hh<;>try(exfalso;omega))|refine wJ ?_|refine nJ ?_)<;>conv=>whnf))
   all_goals (congr 1;exact(all_false (p:=fun p=>decide (okSh p)) hlt (by simpa using h4)).symm)
  ·(conv=>whnf);(repeat'((first|apply bT|apply bF|apply bN|((first|apply bD|apply bEq|apply bNe)<;>intro hh<;>try(exfalso;omega))|refine wJ ?_|refine nJ ?_)<;>conv=>whnf))
   refine⟨k+1,?_,⟨by omega,gtake_all (p:=fun p=>decide (okSh p)) hlt hp (by simpa using h4)⟩,by omega⟩
   simp only[Int.natCast_add,Int.natCast_one]
   exact mI
 ·have:k=l.length:=by omega
  subst this
  (conv=>whnf);(repeat'((first|apply bT|apply bF|apply bN|((first|apply bD|apply bEq|apply bNe)<;>intro hh<;>try(exfalso;omega))|refine wJ ?_|refine nJ ?_)<;>conv=>whnf))
  all_goals (rw[List.take_length]at hp;congr 1;exact(List.all_eq_true.2 hp).symm)
theorem g64(d:Dm)(hn:d.rs.length<=1000)(hs:d.sh.length<=1000):FnA Tryz.prog 111 [.agg d.cells] (· = .bool d.okB):=by
 have hL:(d.rs.map s2).length=d.rs.length:=by simp
 have hL2:(d.sh.map i1).length=d.sh.length:=by simp
 have c1:=g87 d.rs hn
 have c2:=g89 d.sh hs
 unfold Dm.okB
 generalize (d.rs.all fun p=>decide (okRib p))=B1 at c1⊢
 generalize (d.sh.all fun x=>decide (okSh x))=B2 at c2⊢
 refine fnA 1 ok111 (by simp) ?_
 by_cases hok:d.f.ok
 ·have hk:=k14 d.f
  rw[if_pos hok]at hk
  (conv=>whnf);(repeat'((first|apply bT|apply bF|apply bN|((first|apply bD|apply bEq|apply bNe)<;>intro hh<;>try(exfalso;omega))|refine hk.cq rfl rfl ?_|refine(g86 _ _ _).cq rfl rfl ?_|refine c1.cq rfl rfl ?_|refine c2.cq rfl rfl ?_|refine wJ ?_|refine nJ ?_|(refine bS ?_ ?_<;>intro hh))<;>conv=>whnf))
  all_goals (clear c1 c2 hk;cases B1<;>cases B2<;>simp_all<;>omega)
 ·have hk:=k14 d.f
  rw[if_neg hok]at hk
  (conv=>whnf);(repeat'((first|apply bT|apply bF|apply bN|((first|apply bD|apply bEq|apply bNe)<;>intro hh<;>try(exfalso;omega))|refine hk.cq rfl rfl ?_|refine wJ ?_|refine nJ ?_)<;>conv=>whnf))
  all_goals (simp[hok])
theorem okB_iff{d:Dm}:d.okB=true<->d.f.ok/\(3<=d.rs.length/\d.rs.length<=10)/\(∀p∈d.rs,okRib p)/\d.sh.length=d.rs.length/\∀x∈d.sh,okSh x:=by
 unfold Dm.okB
 simp only[Bool.and_eq_true,decide_eq_true_eq,List.all_eq_true,and_assoc]
def Dm.err(d:Dm):Int:=if d.okB then 0 else 50
theorem g39(d:Dm)(hn:d.rs.length<=1000)(hs:d.sh.length<=1000):FnA Tryz.prog 86 [.agg d.cells] (· = .int .i64 d.err):=by
 have hc:=g64 d hn hs
 unfold Dm.err
 refine fnA 1 ok86 (by simp) ?_
 cases hb:d.okB<;>rw[hb]at hc
 ·(conv=>whnf);(repeat'((first|apply bT|apply bF|apply bN|((first|apply bD|apply bEq|apply bNe)<;>intro hh<;>try(exfalso;omega))|refine hc.cq rfl rfl ?_|refine wJ ?_|refine nJ ?_)<;>conv=>whnf))
  all_goals simp
 ·(conv=>whnf);(repeat'((first|apply bT|apply bF|apply bN|((first|apply bD|apply bEq|apply bNe)<;>intro hh<;>try(exfalso;omega))|refine hc.cq rfl rfl ?_|refine wJ ?_|refine nJ ?_)<;>conv=>whnf))
  all_goals simp
def okCl(n:Nat)(l:List Gu):Bool:=decide (l.length<=20)&&l.all (okGu n)
def Dm.errC(d:Dm)(l:List Gu):Int:=if d.okB then(if okCl d.rs.length l then 0 else 1) else 50
theorem g66(d:Dm)(l:List Gu)(hn:d.rs.length<=1000)(hs:d.sh.length<=1000):FnA Tryz.prog 108 [.agg d.cells, .isl (l.map Gu.av)] (· = .int .i64 (d.errC l)):=by
 have hL:(l.map Gu.av).length=l.length:=by simp
 have hc:=g39 d hn hs
 unfold Dm.err at hc
 unfold Dm.errC
 refine fnA 1 ok108 (by simp) ?_
 cases hb:d.okB<;>rw[hb]at hc
 ·rw[if_neg (by simp)]at hc
  (conv=>whnf);(repeat'((first|apply bT|apply bF|apply bN|((first|apply bD|apply bEq|apply bNe)<;>intro hh<;>try(exfalso;omega))|refine hc.cq rfl rfl ?_|refine wJ ?_|refine nJ ?_)<;>conv=>whnf))
  all_goals simp
 ·rw[if_pos rfl]at hc
  by_cases h20:l.length<=20
  ·have h70:=g70 l 121 d.cells (okGu d.rs.length) (by omega) (fun g hg=>fnV_of bd121 (g91 d g hn))
   cases ha:l.all (okGu d.rs.length)<;>rw[ha]at h70
   ·(conv=>whnf);(repeat'((first|apply bT|apply bF|apply bN|((first|apply bD|apply bEq|apply bNe)<;>intro hh<;>try(exfalso;omega))|refine hc.cq rfl rfl ?_|refine h70.lq rfl rfl ?_|refine wJ ?_|refine nJ ?_)<;>conv=>whnf))
    all_goals (unfold okCl;rw[ha];simp)
   ·(conv=>whnf);(repeat'((first|apply bT|apply bF|apply bN|((first|apply bD|apply bEq|apply bNe)<;>intro hh<;>try(exfalso;omega))|refine hc.cq rfl rfl ?_|refine h70.lq rfl rfl ?_|refine wJ ?_|refine nJ ?_)<;>conv=>whnf))
    all_goals (unfold okCl;rw[ha];simp[h20])
  ·(conv=>whnf);(repeat'((first|apply bT|apply bF|apply bN|((first|apply bD|apply bEq|apply bNe)<;>intro hh<;>try(exfalso;omega))|refine hc.cq rfl rfl ?_|refine wJ ?_|refine nJ ?_)<;>conv=>whnf))
   all_goals (unfold okCl;simp[h20])
def lf(q:Int × Int):Int:=min (max 0 (100*(q.2+q.1)) / q.2) 200
theorem g65(n e:Int)(hn : -100000000<=n/\n<=100000000)(he:1<=e/\e<=100000000):FnA Tryz.prog 120 [.agg [.int .i64 n, .int .i64 e]] (· = .int .i64 (lf (n,e))):=by
 have h0:0<=max 0 (100*(e+n)):=by omega
 have hd:=Int.tdiv_eq_ediv_of_nonneg (b:=e) h0
 have hq:0<=max 0 (100*(e+n)) / e/\max 0 (100*(e+n)) / e<=20000000000:=by
  refine⟨Int.ediv_nonneg h0 (by omega),?_⟩
  refine Int.le_trans (Int.ediv_le_ediv (by omega) (show max 0 (100*(e+n))<=20000000000 by omega)) ?_
  exact Int.ediv_le_self _ (by omega)
 have hr : -9223372036854775808<=(max 0 (100*(e+n))).tdiv e/\(max 0 (100*(e+n))).tdiv e<=9223372036854775807:=by rw[hd];omega
 refine fnA 1 ok120 (by simp) ?_
 (conv=>whnf);(repeat'((first|apply bT|apply bF|apply bN|((first|apply bD|apply bEq|apply bNe)<;>intro hh<;>try(exfalso;omega))|refine wIn hr ?_|refine wJ ?_|refine nJ ?_)<;>conv=>whnf))
 all_goals (simp only[lf,if_true,Bool.false_eq_true,if_false];rw[hd])
theorem lf_bd{q:Int × Int}(h:1<=q.2):0<=lf q/\lf q<=200:=by
 have:0<=max 0 (100*(q.2+q.1)) / q.2:=Int.ediv_nonneg (by omega) (by omega)
 unfold lf;omega
def rq(q:Int × Int):Int × Int:=(redN q.1 q.2,redD q.1 q.2)
def Frm.s0(f:Frm):Sec:=f.ss.getD 0 default
def Frm.l0(f:Frm):Int:=lf (rq (cosF f.s0 f.lo).1)
def Frm.l1(f:Frm):Int:=lf (rq (cosF f.s0 f.lo).2)
theorem s0_ok{f:Frm}(h:f.ok):f.s0.ok:=by
 unfold Frm.s0
 have h1:=h.1
 rw[List.getD_eq_getElem?_getD,List.getElem?_eq_getElem (by omega)]
 exact h.2.2.1 _ (List.getElem_mem _)
theorem lo_bd{f:Frm}(h:f.ok):1<=f.lo/\f.lo<=6000:=by
 have:=h.2.2.2.1;unfold okSpan at this;omega
theorem l01_bd{f:Frm}(h:f.ok):(0<=f.l0/\f.l0<=200)/\0<=f.l1/\f.l1<=200:=by
 have hb:=cosF_bd (s0_ok h) (lo_bd h)
 exact⟨lf_bd (red_bd hb.1.1 hb.1.2).2.1,lf_bd (red_bd hb.2.1 hb.2.2).2.1⟩
theorem g40(f:Frm)(h:f.ok):FnA Tryz.prog 106 [.agg f.cells] (· = .agg [.int .i64 f.l0, .int .i64 f.l1]):=by
 have hb:=cosF_bd (s0_ok h) (lo_bd h)
 have b0:=red_bd hb.1.1 hb.1.2
 have b1:=red_bd hb.2.1 hb.2.2
 have hlo:=lo_bd h
 have hs:=h.2.2.2.1
 unfold okSpan at hs
 have h1:=h.1
 have hk:=k18 f 0 f.lo (pos_zero h ⟨by simp,by omega⟩ ⟨by omega,by omega⟩)
 rw[dist_zero,if_neg (by omega)]at hk
 refine fnA 4 ok106 (by simp) ?_
 (conv=>whnf);(repeat'((first|apply bT|apply bF|apply bN|((first|apply bD|apply bEq|apply bNe)<;>intro hh<;>try(exfalso;omega))|refine hk.cq rfl rfl ?_|refine(g65 _ _ b0.1 b0.2).cq rfl rfl ?_|refine(g65 _ _ b1.1 b1.2).cq rfl rfl ?_|refine wJ ?_|refine nJ ?_)<;>conv=>whnf))
 all_goals rfl
def Dm.best(d:Dm):Tr:=⟨d.f.l0,d.rs.map (·.2),d.sh⟩
def Dm.worst(d:Dm):Tr:=⟨d.f.l1,d.rs.map (·.1),d.sh⟩
theorem rib_mem{d:Dm}(h:d.okB=true):∀p∈d.rs,okRib p:=(okB_iff.1 h).2.2.1
theorem best_ok{d:Dm}(h:d.okB=true):d.best.ok:=by
 have h':=okB_iff.1 h
 have hl:=l01_bd h'.1
 refine⟨hl.1,by simp[Dm.best];exact h'.2.1,by simp[Dm.best];exact h'.2.2.2.1,h'.2.2.2.2,fun x hx=>?_⟩
 simp only[Dm.best,List.mem_map]at hx
 obtain⟨p,hp,rfl⟩:=hx
 have:=h'.2.2.1 p hp;unfold okRib at this;omega
theorem worst_ok{d:Dm}(h:d.okB=true):d.worst.ok:=by
 have h':=okB_iff.1 h
 have hl:=l01_bd h'.1
 refine⟨hl.2,by simp[Dm.worst];exact h'.2.1,by simp[Dm.worst];exact h'.2.2.2.1,h'.2.2.2.2,fun x hx=>?_⟩
 simp only[Dm.worst,List.mem_map]at hx
 obtain⟨p,hp,rfl⟩:=hx
 have:=h'.2.2.1 p hp;unfold okRib at this;omega
def rI(k:Nat)(l:List Int):Nat × Res:=(k, .row false 3 1 (l.map i1))
theorem take_mapsnoc{α β : Type}(f : α -> β)(l:List α)(k:Nat)(h:k<l.length):(l.take (k+1)).map f=(l.take k).map f++[f l[k]]:=by
 rw[List.take_succ_eq_append_getElem h,List.map_append];rfl
theorem g41(d:Dm)(l:List Gu)(hn:d.rs.length<=1000)(hs:d.sh.length<=1000)(h:d.errC l=0):FnO Tryz.prog 79 [.agg d.cells, .isl (l.map Gu.av)] (fun r rows=>r = .tup [.agg [.int .i64 d.f.l0, .row 9, .isl (d.sh.map i1)], .agg [.int .i64 d.f.l1, .row 10, .isl (d.sh.map i1)], .int .i64 0]/\rows=[rI 9 d.best.ss,rI 10 d.worst.ss]):=by
 have hb:d.okB=true:=by
  cases e:d.okB with
  |true=>rfl
  |false=>unfold Dm.errC at h;rw[e]at h;simp at h
 have h':=okB_iff.1 hb
 have hc:=g66 d l hn hs
 rw[h]at hc
 have hL:(d.rs.map s2).length=d.rs.length:=by simp
 refine fnO 11 ok79 (by simp) ?_
 (conv=>whnf);(repeat'((first|apply bT|apply bF|apply bN|((first|apply bD|apply bEq|apply bNe)<;>intro hh<;>try(exfalso;omega))|refine hc.cq rfl rfl ?_|refine(g40 d.f h'.1).cq rfl rfl ?_|refine wJ ?_|refine nJ ?_)<;>conv=>whnf))
 refine loop_i (α :=Nat) (fun k=>[(35, .int .i64 k),(34, .int .i64 (d.rs.map s2).length),(33, .isl (d.rs.map s2)),(5, .own 2 0),(4, .own 1 0)]) (fun k=>[.fresh, .box false [.int .i64 d.f.l0, .row 9, .isl (d.sh.map i1)], .box false [.int .i64 d.f.l1, .row 10, .isl (d.sh.map i1)], .fresh, .fresh, .fresh, .fresh, .fresh, .fresh, .row false 3 1 (((d.rs.take k).map (·.2)).map i1), .row false 3 1 (((d.rs.take k).map (·.1)).map i1)]) (fun k=>k<=d.rs.length) (fun k=>d.rs.length-k) 0 (mA [(9,none),(10,none)]) (by omega) ?_
 intro k hk
 conv=>whnf
 refine bD (fun h3=>?_) (fun h3=>?_)
 ·have hlt:k<d.rs.length:=by omega
  have e1:=take_mapsnoc (·.2) d.rs k hlt
  have e2:=take_mapsnoc (·.1) d.rs k hlt
  have l1:((d.rs.take k).map (·.2)).length<=1000:=by simp;omega
  have l2:((d.rs.take k).map (·.1)).length<=1000:=by simp;omega
  (conv=>whnf);(repeat'((first|apply bT|apply bF|apply bN|((first|apply bD|apply bEq|apply bNe)<;>intro hh<;>try(exfalso;omega))|refine iaJ (getD_map s2 d.rs k hlt) ?_|refine wJ ?_|refine nJ ?_)<;>conv=>whnf))
  refine apI (by simp[AV.one]) (by simp;omega) ?_
  (conv=>whnf);(repeat'((first|apply bT|apply bF|apply bN|((first|apply bD|apply bEq|apply bNe)<;>intro hh<;>try(exfalso;omega))|refine wJ ?_|refine nJ ?_)<;>conv=>whnf))
  refine apI (by simp[AV.one]) (by simp;omega) ?_
  (conv=>whnf);(repeat'((first|apply bT|apply bF|apply bN|((first|apply bD|apply bEq|apply bNe)<;>intro hh<;>try(exfalso;omega))|refine wJ ?_|refine nJ ?_)<;>conv=>whnf))
  refine⟨k+1,?_,by omega,by omega⟩
  rw[e1,e2]
  simp only[Int.natCast_add,Int.natCast_one,List.map_append,List.map_cons,List.map_nil]
  exact(mA [(9,some 6),(10,some 8)])
 ·have:k=d.rs.length:=by omega
  subst this
  rw[List.take_length]
  (conv=>whnf);(repeat'((first|apply bT|apply bF|apply bN|((first|apply bD|apply bEq|apply bNe)<;>intro hh<;>try(exfalso;omega))|refine wJ ?_|refine nJ ?_)<;>conv=>whnf))
  all_goals exact⟨rfl,rfl⟩
theorem errC_ok{d:Dm}{l:List Gu}(h:d.errC l=0):d.okB=true/\okCl d.rs.length l=true:=by
 unfold Dm.errC at h
 split at h
 ·rename_i hb
  refine⟨hb,?_⟩
  split at h
  ·assumption
  ·cases h
 ·cases h
theorem errC_zero{d:Dm}{l:List Gu}(h:d.okB=true)(h2:okCl d.rs.length l=true):d.errC l=0:=by
 unfold Dm.errC;rw[if_pos h,if_pos h2]
theorem okCl_g{n:Nat}{l:List Gu}(h:okCl n l=true):l.length<=20/\∀g∈l,g.ok n:=by
 unfold okCl at h
 simp only[Bool.and_eq_true,decide_eq_true_eq,List.all_eq_true,okGu]at h
 exact h
theorem best_len(d:Dm):d.best.ss.length=d.rs.length:=by simp[Dm.best]
theorem worst_len(d:Dm):d.worst.ss.length=d.rs.length:=by simp[Dm.worst]
def Tr.stands(t:Tr)(l:List Gu):Bool:=l.all fun g=>(t.weak g).isEmpty
def Dm.st(d:Dm)(l:List Gu):Int:=if d.worst.stands l then 1 else if d.best.stands l then 3 else 2
theorem g14(d:Dm)(hn:d.rs.length<=1000)(hs:d.sh.length<=1000)(h:d.okB=true):FnA Tryz.prog 77 [.agg d.cells] (· = .tup [.agg [.int .i64 d.f.l0, .int .i64 d.f.l1], .int .i64 0]):=by
 have hc:=g39 d hn hs
 unfold Dm.err at hc
 rw[if_pos h]at hc
 refine fnA 2 ok77 (by simp) ?_
 (conv=>whnf);(repeat'((first|apply bT|apply bF|apply bN|((first|apply bD|apply bEq|apply bNe)<;>intro hh<;>try(exfalso;omega))|refine hc.cq rfl rfl ?_|refine(g40 d.f (okB_iff.1 h).1).cq rfl rfl ?_|refine wJ ?_|refine nJ ?_)<;>conv=>whnf))
 all_goals rfl
theorem g17(d:Dm)(l:List Gu)(hn:d.rs.length<=1000)(hs:d.sh.length<=1000)(h:d.errC l=0):FnA Tryz.prog 100 [.agg d.cells, .isl (l.map Gu.av)] (· = .tup [.int .i64 (d.st l), .int .i64 0]):=by
 obtain⟨h1,h2⟩:=errC_ok h
 have hg:=okCl_g h2
 have c1:=g44 d.worst l (worst_ok h1) (by omega) (by rw[worst_len];exact hg.2)
 have c2:=g44 d.best l (best_ok h1) (by omega) (by rw[best_len];exact hg.2)
 unfold Dm.st Tr.stands
 generalize (l.all fun g=>(d.worst.weak g).isEmpty)=B1 at c1⊢
 generalize (l.all fun g=>(d.best.weak g).isEmpty)=B2 at c2⊢
 refine fnA 7 ok100 (by simp) ?_
 cases B1
 ·cases B2
  ·(conv=>whnf);(repeat'((first|apply bT|apply bF|apply bN|((first|apply bD|apply bEq|apply bNe)<;>intro hh<;>try(exfalso;omega))|refine(g41 d l hn hs h).oq rfl rfl rfl ?_|refine c1.lq rfl rfl ?_|refine c2.lq rfl rfl ?_|refine wJ ?_|refine nJ ?_)<;>conv=>whnf))
   all_goals rfl
  ·(conv=>whnf);(repeat'((first|apply bT|apply bF|apply bN|((first|apply bD|apply bEq|apply bNe)<;>intro hh<;>try(exfalso;omega))|refine(g41 d l hn hs h).oq rfl rfl rfl ?_|refine c1.lq rfl rfl ?_|refine c2.lq rfl rfl ?_|refine wJ ?_|refine nJ ?_)<;>conv=>whnf))
   all_goals rfl
 ·(conv=>whnf);(repeat'((first|apply bT|apply bF|apply bN|((first|apply bD|apply bEq|apply bNe)<;>intro hh<;>try(exfalso;omega))|refine(g41 d l hn hs h).oq rfl rfl rfl ?_|refine c1.lq rfl rfl ?_|refine wJ ?_|refine nJ ?_)<;>conv=>whnf))
  all_goals rfl
def Dm.wk(d:Dm)(l:List Gu):List Nat:=lst d.rs.length fun i=>l.any fun g=>d.worst.tw g i
theorem g27(d:Dm)(l:List Gu)(hn:d.rs.length<=1000)(hs:d.sh.length<=1000)(h:d.errC l=0):FnO Tryz.prog 42 [.agg d.cells, .isl (l.map Gu.av)] (fun r rows=>r = .tup [.row 8, .int .i64 0]/\rows=[(8, .row false 3 1 ((d.wk l).map n1))]):=by
 obtain⟨h1,h2⟩:=errC_ok h
 have hg:=okCl_g h2
 have hL:(d.rs.map s2).length=d.rs.length:=by simp
 refine fnO 9 ok42 (by simp) ?_
 (conv=>whnf);(repeat'((first|apply bT|apply bF|apply bN|((first|apply bD|apply bEq|apply bNe)<;>intro hh<;>try(exfalso;omega))|refine(g41 d l hn hs h).oq rfl rfl rfl ?_|refine wJ ?_|refine nJ ?_)<;>conv=>whnf))
 have hc:FnO Tryz.prog 80 [.int .i64 (d.rs.map s2).length, .fn 81 [.ipt [.isl (l.map Gu.av)], .ipt d.worst.cells]] (fun r' rows=>r' = .row 3/\rows=[(3, .row false 3 1 ((d.wk l).map n1))]):=by
  have:=g49_2 (d.rs.map s2).length 81 [.isl (l.map Gu.av)] d.worst.cells (fun i=>l.any fun g=>d.worst.tw g i) (by omega) (fun i hi=>fnV_of bd81 (g50 d.worst l i (worst_ok h1) (by omega) (by rw[worst_len];exact hg.2) (by rw[worst_len];omega)))
  rwa [show lst (d.rs.map s2).length (fun i=>l.any fun g=>d.worst.tw g i)=d.wk l from by rw[hL];rfl]at this
 refine hc.callmq rfl (fun r' rows (hr:r'=_/\rows=_)=>?_);obtain⟨hr1,hr2⟩:=hr;subst hr1;subst hr2
 refine⟨rfl,by simp[flatRB,n1_flat],rfl,?_⟩
 (conv=>whnf);(repeat'((first|apply bT|apply bF|apply bN|((first|apply bD|apply bEq|apply bNe)<;>intro hh<;>try(exfalso;omega))|refine wJ ?_|refine nJ ?_)<;>conv=>whnf))
 all_goals exact⟨rfl,rfl⟩
theorem stands1(t:Tr)(g:Gu):t.stands [g]=(t.weak g).isEmpty:=by simp[Tr.stands]
theorem g34(n lo hi:Int):FnA Tryz.prog 72 [.int .i64 n, .int .i64 lo, .int .i64 hi] (· = .bool (decide (lo<=n/\n<=hi))):=by
 refine fnA 0 ok72 (by simp) ?_
 (conv=>whnf);(repeat'((first|apply bT|apply bF|apply bN|((first|apply bD|apply bEq|apply bNe)<;>intro hh<;>try(exfalso;omega))|refine(k50 n lo hi).cq rfl rfl ?_|refine wJ ?_|refine nJ ?_)<;>conv=>whnf))
 all_goals rfl
def Dm.far(d:Dm):Prop:=d.f.ss.length>20\/d.rs.length>40\/d.sh.length>40
instance (d:Dm):Decidable d.far:=by unfold Dm.far;infer_instance
theorem g28(d:Dm):FnA Tryz.prog 43 [.agg d.cells] (· = .bool (decide d.far)):=by
 have hL0:(d.f.ss.map Sec.av).length=d.f.ss.length:=by simp
 have hL:(d.rs.map s2).length=d.rs.length:=by simp
 have hL2:(d.sh.map i1).length=d.sh.length:=by simp
 unfold Dm.far
 refine fnA 1 ok43 (by simp) ?_
 (conv=>whnf);(repeat'((first|apply bT|apply bF|apply bN|((first|apply bD|apply bEq|apply bNe)<;>intro hh<;>try(exfalso;omega))|refine wJ ?_|refine nJ ?_)<;>conv=>whnf))
 all_goals first|rfl|exact congrArg AV.bool (decide_eq_decide.2 (by omega))|exact congrArg AV.bool (decide_eq_true (by omega)).symm|exact congrArg AV.bool (decide_eq_false (by omega)).symm
theorem g23(d:Dm)(i:Int)(hn:d.rs.length<=1000):FnA Tryz.prog 49 [.agg d.cells, .int .i64 i] (· = .bool (decide (0<=i/\i<d.rs.length))):=by
 have hL:(d.rs.map s2).length=d.rs.length:=by simp
 refine fnA 1 ok49 (by simp) ?_
 (conv=>whnf);(repeat'((first|apply bT|apply bF|apply bN|((first|apply bD|apply bEq|apply bNe)<;>intro hh<;>try(exfalso;omega))|refine(g34 _ _ _).cq rfl rfl ?_|refine wJ ?_|refine nJ ?_)<;>conv=>whnf))
 all_goals first|rfl|exact congrArg AV.bool (decide_eq_decide.2 (by omega))|exact congrArg AV.bool (decide_eq_true (by omega)).symm|exact congrArg AV.bool (decide_eq_false (by omega)).symm
theorem g29(d:Dm)(hf:d.f.ss.length<=1000)(hn:d.rs.length<=1000)(hs:d.sh.length<=1000):FnA Tryz.prog 47 [.agg d.cells] (· = .int .i64 d.err):=by
 have hL:(d.rs.map s2).length=d.rs.length:=by simp
 have hL2:(d.sh.map i1).length=d.sh.length:=by simp
 have hk:=k15 d.f (by omega)
 by_cases hok:d.f.ok
 ·rw[if_pos hok]at hk
  by_cases h2:(3<=d.rs.length/\d.rs.length<=10)/\d.sh.length=d.rs.length
  ·refine fnA 1 ok47 (by simp) ?_
   (conv=>whnf);(repeat'((first|apply bT|apply bF|apply bN|((first|apply bD|apply bEq|apply bNe)<;>intro hh<;>try(exfalso;omega))|refine hk.cq rfl rfl ?_|refine(g34 _ _ _).cq rfl rfl ?_|refine wJ ?_|refine nJ ?_)<;>conv=>whnf))
   refine loop_i (α :=Nat) (fun k=>[(3, .int .i64 k),(1, .own 0 0)]) (fun k=>[.box false d.cells]) (fun k=>k<=d.rs.length/\∀i,i<k->okRib (d.rs.getD i (0,0))/\okSh (d.sh.getD i 0)) (fun k=>d.rs.length-k) 0 mI ⟨by omega,fun i hi=>by omega⟩ ?_
   rintro k ⟨hk1,hk2⟩
   conv=>whnf
   refine bD (fun h3=>?_) (fun h3=>?_)
   ·have hlt:k<d.rs.length:=by omega
    have e1:=getD_mapD s2 d.rs k (0,0) hlt
    have e2:=getD_mapD i1 d.sh k 0 (by omega)
    have ez:∀(h:¬(okRib (d.rs.getD k (0,0))/\okSh (d.sh.getD k 0))),(50:Int)=d.err:=fun h=>by
     unfold Dm.err
     rw[if_neg fun hb=>?_]
     have hb':=okB_iff.1 hb
     refine h ⟨?_,?_⟩
     ·rw[List.getD_eq_getElem?_getD,List.getElem?_eq_getElem hlt];exact hb'.2.2.1 _ (List.getElem_mem hlt)
     ·rw[List.getD_eq_getElem?_getD,List.getElem?_eq_getElem (by omega)];exact hb'.2.2.2.2 _ (List.getElem_mem _)
    unfold okRib okSh at ez
    (conv=>whnf);(repeat'((first|apply bT|apply bF|apply bN|((first|apply bD|apply bEq|apply bNe)<;>intro hh<;>try(exfalso;omega))|refine iaJ e1 ?_|refine iaJ e2 ?_|refine(g34 _ _ _).cq rfl rfl ?_|refine wJ ?_|refine nJ ?_)<;>conv=>whnf))
    all_goals first
     |exact congrArg (AV.int .i64) (ez (by omega))
     |(refine⟨k+1,?_,⟨by omega,fun i hi=>?_⟩,by omega⟩
       ·simp only[Int.natCast_add,Int.natCast_one]
        exact mI
       ·by_cases e:i=k
        ·subst e;unfold okRib okSh;omega
        ·exact hk2 i (by omega))
   ·have:k=d.rs.length:=by omega
    subst this
    have hb:d.okB=true:=okB_iff.2 ⟨hok,h2.1,fun p hp=>by
     obtain⟨i,hi,rfl⟩:=List.mem_iff_getElem.1 hp
     have:=(hk2 i hi).1
     rwa [List.getD_eq_getElem?_getD,List.getElem?_eq_getElem hi]at this,h2.2,fun x hx=>by
     obtain⟨i,hi,rfl⟩:=List.mem_iff_getElem.1 hx
     have:=(hk2 i (by omega)).2
     rwa [List.getD_eq_getElem?_getD,List.getElem?_eq_getElem hi]at this⟩
    (conv=>whnf);(repeat'((first|apply bT|apply bF|apply bN|((first|apply bD|apply bEq|apply bNe)<;>intro hh<;>try(exfalso;omega))|refine wJ ?_|refine nJ ?_)<;>conv=>whnf))
    all_goals (unfold Dm.err;rw[if_pos hb])
  ·refine fnA 1 ok47 (by simp) ?_
   (conv=>whnf);(repeat'((first|apply bT|apply bF|apply bN|((first|apply bD|apply bEq|apply bNe)<;>intro hh<;>try(exfalso;omega))|refine hk.cq rfl rfl ?_|refine(g34 _ _ _).cq rfl rfl ?_|refine wJ ?_|refine nJ ?_)<;>conv=>whnf))
   all_goals (unfold Dm.err;rw[if_neg];intro hb;have:=okB_iff.1 hb;omega)
 ·rw[if_neg hok]at hk
  refine fnA 1 ok47 (by simp) ?_
  (conv=>whnf);(repeat'((first|apply bT|apply bF|apply bN|((first|apply bD|apply bEq|apply bNe)<;>intro hh<;>try(exfalso;omega))|refine hk.cq rfl rfl ?_|refine wJ ?_|refine nJ ?_)<;>conv=>whnf))
  all_goals (unfold Dm.err;rw[if_neg];intro hb;exact hok (okB_iff.1 hb).1)
def Dm.rdy(d:Dm)(l:List Gu):Bool:=d.okB&&okCl d.rs.length l
def exF:Frm:=⟨[⟨50,52,60,60,0,1,1⟩,⟨40,40,45,46,5,1,2⟩],20,100,1,20,300,351⟩
def exD:Dm:=⟨exF,[(100,110),(60,60),(50,55),(40,40),(50,50),(60,60)],[10,6,3,1,3,6]⟩
theorem g56:FnA Tryz.prog 107 [] (· = .agg exF.cells):=by
 refine fnA 2 ok107 (by simp) ?_
 (conv=>whnf);(repeat'((first|apply bT|apply bF|apply bN|((first|apply bD|apply bEq|apply bNe)<;>intro hh<;>try(exfalso;omega))|refine wJ ?_|refine nJ ?_)<;>conv=>whnf))
 all_goals rfl
theorem g36:FnA Tryz.prog 78 [] (· = .agg exD.cells):=by
 refine fnA 4 ok78 (by simp) ?_
 (conv=>whnf);(repeat'((first|apply bT|apply bF|apply bN|((first|apply bD|apply bEq|apply bNe)<;>intro hh<;>try(exfalso;omega))|refine g56.zq rfl rfl ?_|refine wJ ?_|refine nJ ?_)<;>conv=>whnf))
 all_goals rfl
theorem ex_l0:exD.f.l0=65:=by decide +kernel
theorem ex_l1:exD.f.l1=76:=by decide +kernel
theorem ex_ok:exD.okB=true:=by decide +kernel
theorem sumr_mono{l1 l2:Int->Int}{g1 g2:List Bool}(hl0:∀i,0<=l1 i)(hl:∀i,l1 i<=l2 i)(hg:∀i,g1.getD i false=true->g2.getD i false=true)(n:Nat)(i s:Int):∀k j,sumr l1 g1 n i s k j<=sumr l2 g2 n i s k j
 |0,j=>by simp[sumr]
 |k+1,j=>by
  have ih:=sumr_mono hl0 hl hg n i s k (j+1)
  have h0:=hl (ar n (i+j*s))
  have hb:∀k j,0<=sumr l2 g2 n i s k j:=fun k=>by
   induction k with
   |zero=>intro j;simp[sumr]
   |succ k ih=>
    intro j
    have:=ih (j+1)
    have h1:=hl0 (ar n (i+j*s))
    have h2:=hl (ar n (i+j*s))
    unfold sumr;split<;>omega
  unfold sumr
  by_cases h1:g1.getD (ar n (i+j*s)).toNat false=true
  ·rw[if_pos h1,if_pos (hg _ h1)];omega
  ·rw[if_neg h1]
   have:=hb (k+1) j
   unfold sumr at this
   exact this
theorem hand_mono{l1 l2:Int->Int}{g1 g2:List Bool}(hl0:∀i,0<=l1 i)(hl:∀i,l1 i<=l2 i)(hg:∀i,g1.getD i false=true->g2.getD i false=true)(n:Nat)(i:Int):hand l1 g1 n i<=hand l2 g2 n i:=by
 have h1:=sumr_mono hl0 hl hg n i (-1) (n-1) 1
 have h2:=sumr_mono hl0 hl hg n i 1 (n-1) 1
 unfold hand sside;omega
structure Leq(t u:Tr)(g h:Gu):Prop where
 len:t.ss.length=u.ss.length
 ss:∀i,u.ss.getD i 0<=t.ss.getD i 0
 ld0:∀i,0<=t.ld g i
 ld:∀i,t.ld g i<=u.ld h i
theorem cond_mono{t u:Tr}{g h:Gu}(hle:Leq t u g h){g1 g2:List Bool}(hg:∀i,g1.getD i false=true->g2.getD i false=true){i:Nat}(hc:t.cond g g1 i=true):g2.getD i false=true\/u.cond h g2 i=true:=by
 by_cases h2:g2.getD i false=true
 ·exact .inl h2
 ·refine .inr ?_
  have h2':g2.getD i false=false:=by simpa using h2
  unfold Tr.cond at hc⊢
  simp only[Bool.and_eq_true,decide_eq_true_eq]at hc
  rw[h2']
  simp only[Bool.not_false,Bool.true_and,decide_eq_true_eq]
  have a:=hand_mono hle.ld0 hle.ld hg t.ss.length i
  have b:=hle.ss i
  have c:=hle.ld i
  have e:=hle.len
  rw[<- e]
  omega
theorem G_stop(t:Tr)(g:Gu)(i:Nat)(hi:i<t.ss.length):t.cond g (t.G g (t.K g)) i=false:=by
 rw[Bool.eq_false_iff];intro h
 have:i∈t.go g (t.G g (t.K g)):=go_mem.2 ⟨hi,h⟩
 rw[(K_ok t g).2.1]at this;cases this
theorem G_in(t:Tr)(g:Gu)(r i:Nat)(h:(t.G g r).getD i false=true):i<t.ss.length:=by
 refine Classical.byContradiction fun hn=>?_
 rw[List.getD_eq_getElem?_getD,List.getElem?_eq_none (by rw[G_len];omega)]at h;simp at h
theorem G_succ(t:Tr)(g:Gu)(r i:Nat)(hi:i<t.ss.length):(t.G g (r+1)).getD i false=((t.G g r).getD i false||t.cond g (t.G g r) i):=stp_get hi
theorem G_mono{t u:Tr}{g h:Gu}(hle:Leq t u g h):∀r i,(t.G g r).getD i false=true->(u.G h (u.K h)).getD i false=true
 |0,i,hi=>by
  have:=G_in t g 0 i hi
  simp only[Tr.G,List.getD_eq_getElem?_getD,List.getElem?_replicate,if_pos this]at hi
  simp at hi
 |r+1,i,hi=>by
  have hin:=G_in t g (r+1) i hi
  rw[G_succ t g r i hin,Bool.or_eq_true]at hi
  rcases hi with hi|hi
  ·exact G_mono hle r i hi
  ·rcases cond_mono hle (G_mono hle r) hi with h1|h1
   ·exact h1
   ·rw[G_stop u h i (by rw[<- hle.len];exact hin)]at h1;cases h1
theorem gone_mem{t:Tr}{g:Gu}{i:Nat}:i∈t.gone g<->i<t.ss.length/\(t.G g (t.K g)).getD i false=true:=lst_mem
theorem gone_mono{t u:Tr}{g h:Gu}(hle:Leq t u g h){i:Nat}(hi:i∈t.gone g):i∈u.gone h:=by
 rw[gone_mem]at hi⊢
 exact⟨by rw[<- hle.len];exact hi.1,G_mono hle _ i hi.2⟩
theorem G_le(t:Tr)(g:Gu)(i r:Nat):∀k,(t.G g r).getD i false=true->(t.G g (r+k)).getD i false=true
 |0,h=>h
 |k+1,h=>by
  have h1:=G_le t g i r k h
  have hin:=G_in t g _ i h1
  show(t.G g (r+k+1)).getD i false=true
  rw[G_succ t g _ i hin,h1];rfl
theorem sumr_none{l:Int->Int}{gs:List Bool}{n:Nat}{i s:Int}{k j:Nat}(h:gs.getD (ar n (i+j*s)).toNat false=false):sumr l gs n i s k j=0:=by
 cases k with
 |zero=>rfl
 |succ k=>rw[sumr,if_neg (by rw[h];simp)]
theorem G0(t:Tr)(g:Gu)(i:Nat):(t.G g 0).getD i false=false:=by
 simp only[Tr.G,List.getD_eq_getElem?_getD,List.getElem?_replicate];split<;>rfl
theorem cond0(t:Tr)(g:Gu)(i:Nat):t.cond g (t.G g 0) i=t.tw g i:=by
 unfold Tr.cond Tr.tw hand sside
 rw[G0,sumr_none (G0 t g _),sumr_none (G0 t g _)]
 simp
theorem weak_go(t:Tr)(g:Gu):t.weak g=t.go g (t.G g 0):=by
 unfold Tr.weak Tr.go;congr 1;funext i;exact(cond0 t g i).symm
theorem weak_gone{t:Tr}{g:Gu}{i:Nat}(h:i∈t.weak g):i∈t.gone g:=by
 rw[weak_go,go_mem]at h
 rw[gone_mem]
 refine⟨h.1,?_⟩
 have h1:(t.G g 1).getD i false=true:=by rw[G_succ t g 0 i h.1,h.2];simp
 cases hk:t.K g with
 |zero=>
  have:=(K_ok t g).2.1
  rw[hk]at this
  have h2:=go_mem.2 h
  rw[this]at h2;cases h2
 |succ k=>rw[Nat.add_comm k 1];exact G_le t g i 1 k h1
theorem weak_nil{t:Tr}{g:Gu}(h:t.weak g=[]):t.gone g=[]:=by
 rw[weak_go]at h
 have:t.K g=0:=by
  cases hk:t.K g with
  |zero=>rfl
  |succ k=>exact absurd h ((K_ok t g).1 0 (by omega))
 refine List.eq_nil_iff_forall_not_mem.2 fun i hi=>?_
 have:=(gone_mem.1 hi).2
 rw[‹t.K g=0›,G0]at this;cases this
theorem gone_nil{t:Tr}{g:Gu}:t.gone g=[]<->t.weak g=[]:=
 ⟨fun h=>List.eq_nil_iff_forall_not_mem.2 fun i hi=>(by have:=weak_gone hi;rw[h]at this;cases this),weak_nil⟩
theorem ld_mono{t u:Tr}(ht:t.ok)(hsh:t.sh=u.sh)(hlen:t.ss.length=u.ss.length)(hL:t.L<=u.L){F F' A:Int}(hF0:0<=F)(hF:F<=F')(i:Int):t.ld ⟨F,A⟩ i<=u.ld ⟨F',A⟩ i:=by
 unfold Tr.ld Tr.share
 rw[hsh,hlen]
 have hs:=share_bd ht (ar u.ss.length (i-A))
 unfold Tr.share at hs
 rw[hsh]at hs
 refine Int.ediv_le_ediv (by omega) ?_
 refine Int.mul_le_mul_of_nonneg_right ?_ hs.1
 exact Int.le_trans (Int.mul_le_mul_of_nonneg_right hF ht.1.1) (Int.mul_le_mul_of_nonneg_left hL (Int.le_trans hF0 hF))
theorem okCl1{n:Nat}{g:Gu}(h:g.ok n):okCl n [g]=true:=by
 unfold okCl okGu;simp[h]
theorem g48(f:Frm)(hn:f.ss.length<=1000):FnO Tryz.prog 85 [.agg f.cells] (fun r rows=>r = .agg [.row 3, .int .i64 f.lo, .int .i64 f.hi, .int .i64 f.en, .int .i64 f.ed, .int .i64 f.rod, .int .i64 f.cs]/\rows=[(3, .row false 138 7 (f.ss.map Sec.av))]):=by
 have hL:(f.ss.map Sec.av).length=f.ss.length:=by simp
 refine fnO 5 ok85 (by simp) ?_
 (conv=>whnf);(repeat'((first|apply bT|apply bF|apply bN|((first|apply bD|apply bEq|apply bNe)<;>intro hh<;>try(exfalso;omega))|refine wJ ?_|refine nJ ?_)<;>conv=>whnf))
 refine apI (fun e he=>?_) (by simp;omega) ?_
 ·obtain⟨s,_,rfl⟩:=List.mem_map.1 he;exact⟨rfl,rfl⟩
 (conv=>whnf);(repeat'((first|apply bT|apply bF|apply bN|((first|apply bD|apply bEq|apply bNe)<;>intro hh<;>try(exfalso;omega))|refine wJ ?_|refine nJ ?_)<;>conv=>whnf))
 all_goals exact⟨rfl,rfl⟩
def Dm.cp(d:Dm)(a b c:Nat):List AV:=[.row a, .int .i64 d.f.lo, .int .i64 d.f.hi, .int .i64 d.f.en, .int .i64 d.f.ed, .int .i64 d.f.rod, .int .i64 d.f.cs, .row b, .row c]
theorem g24(d:Dm)(hf:d.f.ss.length<=1000)(hn:d.rs.length<=1000)(hs:d.sh.length<=1000):FnO Tryz.prog 45 [.agg d.cells] (fun r rows=>r = .agg (d.cp 3 5 7)/\rows=[(3, .row false 138 7 (d.f.ss.map Sec.av)),(5, .row false 48 2 (d.rs.map s2)),(7, .row false 3 1 (d.sh.map Go.Proofs.i1))]):=by
 have hL:(d.rs.map s2).length=d.rs.length:=by simp
 refine fnO 8 ok45 (by simp) ?_
 (conv=>whnf);(repeat'((first|apply bT|apply bF|apply bN|((first|apply bD|apply bEq|apply bNe)<;>intro hh<;>try(exfalso;omega))|refine(g48 d.f hf).oq rfl rfl rfl ?_|refine wJ ?_|refine nJ ?_)<;>conv=>whnf))
 refine apI (fun e he=>?_) (by simp;omega) ?_
 ·obtain⟨s,_,rfl⟩:=List.mem_map.1 he;exact⟨rfl,rfl⟩
 (conv=>whnf);(repeat'((first|apply bT|apply bF|apply bN|((first|apply bD|apply bEq|apply bNe)<;>intro hh<;>try(exfalso;omega))|refine wJ ?_|refine nJ ?_)<;>conv=>whnf))
 refine apI (fun e he=>?_) (by simp;omega) ?_
 ·obtain⟨s,_,rfl⟩:=List.mem_map.1 he;exact⟨rfl,rfl⟩
 (conv=>whnf);(repeat'((first|apply bT|apply bF|apply bN|((first|apply bD|apply bEq|apply bNe)<;>intro hh<;>try(exfalso;omega))|refine wJ ?_|refine nJ ?_)<;>conv=>whnf))
 all_goals exact⟨rfl,rfl⟩
theorem stands_mono{t u:Tr}{g h:Gu}(hle:Leq t u g h)(hs:u.stands [h]=true):t.stands [g]=true:=by
 rw[stands1]at hs⊢
 have h1:u.gone h=[]:=weak_nil (by simpa using hs)
 have h2:t.gone g=[]:=List.eq_nil_iff_forall_not_mem.2 fun i hi=>by
  have:=gone_mono hle hi;rw[h1]at this;cases this
 rw[gone_nil.1 h2];rfl
def Dm.put(d:Dm)(i:Nat)(p:Int × Int):Dm:=⟨d.f,d.rs.set i p,d.sh⟩
theorem put_ok{d:Dm}{i:Nat}{p:Int × Int}(h:d.okB=true)(hp:okRib p):(d.put i p).okB=true:=by
 have h':=okB_iff.1 h
 refine okB_iff.2 ⟨h'.1,by simp[Dm.put];exact h'.2.1,fun q hq=>?_,by simp[Dm.put];exact h'.2.2.2.1,h'.2.2.2.2⟩
 rcases List.mem_or_eq_of_mem_set hq with hq|hq
 ·exact h'.2.2.1 q hq
 ·rw[hq];exact hp
theorem put_len(d:Dm)(i:Nat)(p:Int × Int):(d.put i p).rs.length=d.rs.length:=by simp[Dm.put]
theorem getD_set{α : Type}{l:List α}{i j:Nat}{x z : α}(hi:i<l.length):(l.set i x).getD j z=if i=j then x else l.getD j z:=by
 simp only[List.getD_eq_getElem?_getD,List.getElem?_set]
 by_cases e:i=j
 ·subst e;simp[hi]
 ·simp[e]
theorem worst_get{d:Dm}{i:Nat}(hi:i<d.rs.length):d.worst.ss.getD i 0=(d.rs.getD i (0,0)).1:=by simp[Dm.worst,List.getD_eq_getElem?_getD,hi]
theorem wk_le(d:Dm)(l:List Gu):(d.wk l).length<=d.rs.length:=lst_le _ _
def mend(rs:List (Int × Int))(l:List Nat):List (Int × Int):=l.foldl (fun a i=>a.set i (99999,99999)) rs
theorem mend_len:∀(l:List Nat) (rs:List (Int × Int)),(mend rs l).length=rs.length
 | [],rs=>rfl
 |i::l,rs=>by show(mend (rs.set i _) l).length=_;rw[mend_len l];simp
theorem mend_get:∀(l:List Nat) (rs:List (Int × Int)) (i:Nat),i<rs.length->(mend rs l).getD i (0,0)=if i∈l then(99999,99999) else rs.getD i (0,0)
 | [],rs,i,h=>by simp[mend]
 |j::l,rs,i,h=>by
  show(mend (rs.set j (99999,99999)) l).getD i (0,0)=_
  rw[mend_get l _ i (by simpa using h)]
  by_cases e:i∈l
  ·rw[if_pos e,if_pos (by simp[e])]
  ·rw[if_neg e]
   by_cases e2:j=i
   ·subst e2
    rw[getD_set h,if_pos rfl,if_pos (by simp)]
   ·rw[List.getD_eq_getElem?_getD,List.getElem?_set_ne e2,<- List.getD_eq_getElem?_getD,if_neg (by simp[e,Ne.symm e2])]
theorem mend_take(rs:List (Int × Int))(l:List Nat){k:Nat}(h:k<l.length):mend rs (l.take (k+1))=(mend rs (l.take k)).set l[k] (99999,99999):=by
 unfold mend;rw[List.take_succ_eq_append_getElem h,List.foldl_append];rfl
theorem wk_lt{d:Dm}{l:List Gu}{i:Nat}(h:i∈d.wk l):i<d.rs.length:=(lst_mem.1 h).1
def Dm.mend(d:Dm)(l:List Nat):Dm:=⟨d.f,Go.Proofs.mend d.rs l,d.sh⟩
theorem mend_ok{d:Dm}(h:d.okB=true)(l:List Nat)(hl:∀i∈l,i<d.rs.length):(d.mend l).okB=true:=by
 have key:∀(l:List Nat) (rs:List (Int × Int)),(∀p∈rs,okRib p)->∀p∈Go.Proofs.mend rs l,okRib p:=fun l=>by
  induction l with
  |nil=>intro rs h;exact h
  |cons i l ih=>
   intro rs h
   refine ih (rs.set i (99999,99999)) fun p hp=>?_
   rcases List.mem_or_eq_of_mem_set hp with hp|hp
   ·exact h p hp
   ·rw[hp];exact⟨⟨by simp,by simp⟩,by simp⟩
 have h':=okB_iff.1 h
 have hlen:=mend_len l d.rs
 refine okB_iff.2 ⟨h'.1,?_,key l d.rs h'.2.2.1,?_,h'.2.2.2.2⟩
 ·show 3<=(Go.Proofs.mend d.rs l).length/\(Go.Proofs.mend d.rs l).length<=10
  rw[hlen];exact h'.2.1
 ·show d.sh.length=(Go.Proofs.mend d.rs l).length
  rw[hlen];exact h'.2.2.2.1
theorem ld_eq{d e:Dm}(hf:d.f=e.f)(hs:d.sh=e.sh)(hl:d.rs.length=e.rs.length)(g:Gu)(i:Int):d.worst.ld g i=e.worst.ld g i:=by
 unfold Tr.ld Tr.share
 have h1:d.worst.ss.length=e.worst.ss.length:=by rw[worst_len,worst_len,hl]
 rw[h1]
 show g.F*d.f.l1*d.sh.getD _ 0 / 100=g.F*e.f.l1*e.sh.getD _ 0 / 100
 rw[hf,hs]
theorem st_one{d:Dm}{l:List Gu}:d.st l=1<->d.worst.stands l=true:=by
 unfold Dm.st
 cases d.worst.stands l<;>simp
 split<;>simp
theorem stands_iff{t:Tr}{l:List Gu}:t.stands l=true<->∀g∈l,∀i<t.ss.length,t.tw g i=false:=by
 unfold Tr.stands
 rw[List.all_eq_true]
 refine⟨fun h g hg i hi=>?_,fun h g hg=>?_⟩
 ·rw[Bool.eq_false_iff];intro ht
  have h1:=h g hg
  have h2:i∈t.weak g:=lst_mem.2 ⟨hi,ht⟩
  rw[List.isEmpty_iff.1 h1]at h2;cases h2
 ·rw[List.isEmpty_iff]
  refine List.eq_nil_iff_forall_not_mem.2 fun i hi=>?_
  have:=lst_mem.1 hi
  rw[h g hg i this.1]at this;cases this.2
theorem wk_mem{d:Dm}{l:List Gu}{i:Nat}:i∈d.wk l<->i<d.rs.length/\∃g∈l,d.worst.tw g i=true:=by
 unfold Dm.wk;rw[lst_mem,List.any_eq_true]
theorem mend_st{d:Dm}{l:List Gu}(h:d.okB=true)(hcl:okCl d.rs.length l=true):(d.mend (d.wk l)).st l=1:=by
 rw[st_one,stands_iff]
 intro g hg i hi
 have hlen:(d.mend (d.wk l)).rs.length=d.rs.length:=mend_len _ _
 rw[worst_len,hlen]at hi
 have hgk:=(okCl_g hcl).2 g hg
 have hld:=ld_eq (d:=d.mend (d.wk l)) (e:=d) rfl rfl hlen g i
 have hb:=ld_bd (worst_ok h) (n:=d.rs.length) hgk i
 unfold Tr.tw
 rw[hld,worst_get (by rw[hlen];exact hi)]
 have hm:(d.mend (d.wk l)).rs.getD i (0,0)=_:=mend_get (d.wk l) d.rs i hi
 rw[hm]
 by_cases hi2:i∈d.wk l
 ·rw[if_pos hi2]
  exact decide_eq_false (by simp only;omega)
 ·rw[if_neg hi2,<- worst_get hi]
  have:d.worst.tw g i=false:=by
   rw[Bool.eq_false_iff];intro ht;exact hi2 (wk_mem.2 ⟨hi,g,hg,ht⟩)
  exact this
theorem left_st{d:Dm}{l:List Gu}(h:d.okB=true)(hcl:okCl d.rs.length l=true){w:Nat}(hw:w∈d.wk l):((d.mend (d.wk l)).put w (d.rs.getD w (0,0))).st l≠1:=by
 intro hst
 rw[st_one,stands_iff]at hst
 obtain⟨hwn,g,hg,ht⟩:=wk_mem.1 hw
 have hlen:(d.mend (d.wk l)).rs.length=d.rs.length:=mend_len _ _
 have hlen2:=put_len (d.mend (d.wk l)) w (d.rs.getD w (0,0))
 have h1:=hst g hg w (by rw[worst_len,hlen2,hlen];exact hwn)
 have hld:=ld_eq (d:=(d.mend (d.wk l)).put w (d.rs.getD w (0,0))) (e:=d) rfl rfl (hlen2.trans hlen) g w
 unfold Tr.tw at h1 ht
 rw[hld,worst_get (by rw[hlen2,hlen];exact hwn)]at h1
 have hm:((d.mend (d.wk l)).put w (d.rs.getD w (0,0))).rs.getD w (0,0)=d.rs.getD w (0,0):=by
  show((d.mend (d.wk l)).rs.set w _).getD w (0,0)=_
  rw[getD_set (by rw[hlen];exact hwn),if_pos rfl]
 rw[hm,<- worst_get hwn,ht]at h1
 cases h1
def Tr.out(t:Tr)(g:Gu):Nat->List Int
 |0=>List.replicate t.ss.length 0
 |r+1=>(List.range t.ss.length).map fun i=>if t.cond g (t.G g r) i then((r+1:Nat):Int) else(t.out g r).getD i 0
def Sec.fin(s:Sec)(a b c d:Int):Sec:=⟨s.al+a,s.ah-b,s.sl+c,s.sh-d,s.base,s.num,s.den⟩
def Frm.fin(f:Frm)(j:Nat)(a b c d:Int):Frm:={ f with ss:=f.ss.set j ((f.sec j).fin a b c d) }
structure Blw where
 a:Int
 lo:Int
 hi:Int
deriving DecidableEq
structure Met where
 L:Int
 c:Int
deriving DecidableEq
def okBlw(n:Nat)(b:Blw):Prop:=(0<=b.a/\b.a<n)/\(0<=b.lo/\b.lo<=b.hi)/\b.hi<=99/\b.hi-b.lo<=9
instance (n:Nat) (b:Blw):Decidable (okBlw n b):=by unfold okBlw;infer_instance
def okMet(m:Met):Prop:=(0<=m.L/\m.L<=99)/\0<=m.c/\m.c<=8
instance (m:Met):Decidable (okMet m):=by unfold okMet;infer_instance
def csK(F:List Int->List (List Int))(f:List Int)(lo:Int):Nat->List (List Int)
 |0=>[]
 |n+1=>csK F f lo n++F (f++[lo+n])
def wid(b:Blw):Nat:=(b.hi+1-b.lo).toNat
def csF:List Blw->List Int->List (List Int)
 | [],f=>[f]
 |b::bs,f=>csK (csF bs) f b.lo (wid b)
def prd(bs:List Blw):Nat:=bs.foldl (fun n b=>n*wid b) 1
theorem csK_len{F:List Int->List (List Int)}{f:List Int}{lo:Int}{B:Nat}(h:∀g,(F g).length=B):∀m,(csK F f lo m).length=m*B:=by
 intro m;induction m with
 |zero=>simp[csK]
 |succ m ih=>rw[csK,List.length_append,ih,h,Nat.succ_mul]
theorem prd_mul:∀(bs:List Blw) (n:Nat),bs.foldl (fun n b=>n*wid b) n=n*prd bs:=by
 intro bs;induction bs with
 |nil=>intro n;simp[prd]
 |cons b bs ih=>intro n;simp only[prd,List.foldl_cons,Nat.one_mul];rw[ih (n*wid b),ih (wid b),Nat.mul_assoc]
theorem prd_cons(b:Blw)(bs:List Blw):prd (b::bs)=wid b*prd bs:=by
 simp only[prd,List.foldl_cons,Nat.one_mul];exact prd_mul bs _
theorem csF_len:∀(bs:List Blw) (f:List Int),(csF bs f).length=prd bs:=by
 intro bs;induction bs with
 |nil=>intro f;simp[csF,prd]
 |cons b bs ih=>intro f;rw[csF,csK_len ih,prd_cons]
theorem mem_csK{F:List Int->List (List Int)}{f l:List Int}{lo:Int}:∀ {m:Nat},l∈csK F f lo m<->∃n,n<m/\l∈F (f++[lo+(n:Nat)]):=by
 intro m;induction m with
 |zero=>simp[csK]
 |succ m ih=>
  rw[csK,List.mem_append,ih]
  constructor
  ·rintro(⟨n,h1,h2⟩|h)
   ·exact⟨n,by omega,h2⟩
   ·exact⟨m,by omega,h⟩
  ·rintro⟨n,h1,h2⟩
   by_cases e:n=m
   ·subst e;exact .inr h2
   ·exact .inl ⟨n,by omega,h2⟩
def isC:List Blw->List Int->Prop
 | [],[]=>True
 |b::bs,x::l=>(b.lo<=x/\x<=b.hi)/\isC bs l
 |_,_=>False
theorem mem_csF:∀ {bs:List Blw} {f l:List Int},l∈csF bs f<->∃g,l=f++g/\isC bs g:=by
 intro bs;induction bs with
 |nil=>
  intro f l
  rw[csF,List.mem_singleton]
  constructor
  ·rintro rfl;exact⟨[],by simp,trivial⟩
  ·rintro⟨g,rfl,h⟩
   cases g with
   |nil=>simp
   |cons _ _=>exact h.elim
 |cons b bs ih=>
  intro f l
  rw[csF,mem_csK]
  constructor
  ·rintro⟨n,h1,h2⟩
   obtain⟨g,rfl,h3⟩:=ih.1 h2
   exact⟨(b.lo+n)::g,by simp,⟨by unfold wid at h1;omega,h3⟩⟩
  ·rintro⟨g,rfl,h⟩
   cases g with
   |nil=>exact h.elim
   |cons x g=>
    obtain⟨h1,h2⟩:=h
    refine⟨(x-b.lo).toNat,by unfold wid;omega,ih.2 ⟨g,?_,h2⟩⟩
    rw[show b.lo+((x-b.lo).toNat:Nat)=x by omega];simp
def css(bs:List Blw):List (List Int):=csF bs []
theorem mem_css{bs:List Blw}{l:List Int}:l∈css bs<->isC bs l:=by
 rw[css,mem_csF];simp
theorem isC_iff:∀ {bs:List Blw} {l:List Int},isC bs l<->l.length=bs.length/\∀i,i<bs.length->(bs.getD i ⟨0,0,0⟩).lo<=l.getD i 0/\l.getD i 0<=(bs.getD i ⟨0,0,0⟩).hi:=by
 intro bs;induction bs with
 |nil=>intro l;cases l<;>simp[isC]
 |cons b bs ih=>
  intro l
  cases l with
  |nil=>simp[isC]
  |cons x l=>
   rw[isC,ih]
   constructor
   ·rintro⟨h1,h2,h3⟩
    refine⟨by simp[h2],fun i hi=>?_⟩
    cases i with
    |zero=>simpa using h1
    |succ i=>simpa using h3 i (by simpa using hi)
   ·rintro⟨h1,h2⟩
    refine⟨by simpa using h2 0 (by simp),by simpa using h1,fun i hi=>by simpa using h2 (i+1) (by simpa using hi)⟩
theorem css_len(bs:List Blw):(css bs).length=prd bs:=csF_len bs []
def abv(f:List Int)(L:Int):Nat:=f.countP fun x=>decide (L<=x)
def rgtM(m:Met)(f:List Int):Bool:=decide ((abv f m.L:Int)=m.c)
def wrg(ms:List Met)(f:List Int):Nat:=ms.countP fun m => !rgtM m f
def trs(bs:List Blw)(ms:List Met)(w:Int):List (List Int):=(css bs).filter fun f=>decide ((wrg ms f:Int)<=w)
theorem mem_trs{bs:List Blw}{ms:List Met}{w:Int}{f:List Int}:f∈trs bs ms w<->isC bs f/\(wrg ms f:Int)<=w:=by
 rw[trs,List.mem_filter,mem_css,decide_eq_true_eq]
theorem trs_le(bs:List Blw)(ms:List Met)(w:Int):(trs bs ms w).length<=prd bs:=by
 rw[<- css_len];exact List.length_filter_le _ _
def fewK(ms:List Met)(l:List (List Int)):Nat->Int
 |0=>(ms.length:Nat)
 |k+1=>min (fewK ms l k) (wrg ms (l.getD k []):Nat)
def few(bs:List Blw)(ms:List Met):Int:=fewK ms (css bs) (css bs).length
theorem fewK_spec(ms:List Met)(l:List (List Int)):∀k,k<=l.length->(fewK ms l k<=ms.length/\(∀i,i<k->fewK ms l k<=(wrg ms (l.getD i []):Nat))/\(fewK ms l k=ms.length\/∃i,i<k/\fewK ms l k=(wrg ms (l.getD i []):Nat))):=by
 intro k;induction k with
 |zero=>intro _;exact⟨Int.le_refl _,fun i h=>by omega, .inl rfl⟩
 |succ k ih=>
  intro hk
  obtain⟨a,b,c⟩:=ih (by omega)
  rw[fewK]
  refine⟨by omega,fun i hi=>?_,?_⟩
  ·by_cases e:i=k
   ·subst e;omega
   ·have:=b i (by omega);omega
  ·by_cases h:fewK ms l k<=(wrg ms (l.getD k []):Nat)
   ·rw[Int.min_eq_left h]
    rcases c with c|⟨i,h1,h2⟩
    ·exact .inl c
    ·exact .inr ⟨i,by omega,h2⟩
   ·rw[Int.min_eq_right (by omega)];exact .inr ⟨k,by omega,rfl⟩
theorem wrg_le(ms:List Met)(f:List Int):wrg ms f<=ms.length:=List.countP_le_length
theorem few_le{bs:List Blw}{ms:List Met}{f:List Int}(h:isC bs f):few bs ms<=(wrg ms f:Nat):=by
 obtain⟨i,hi,e⟩:=List.getElem_of_mem (mem_css.2 h)
 have:=(fewK_spec ms (css bs) _ (Nat.le_refl _)).2.1 i hi
 rwa [show(css bs).getD i []=f from by rw[List.getD_eq_getElem?_getD,List.getElem?_eq_getElem hi];exact e]at this
theorem few_ex{bs:List Blw}{ms:List Met}(h:css bs≠[]):∃f,isC bs f/\few bs ms=(wrg ms f:Nat):=by
 rcases(fewK_spec ms (css bs) _ (Nat.le_refl _)).2.2 with c|⟨i,h1,h2⟩
 ·obtain⟨f,hf⟩:=List.exists_mem_of_ne_nil _ h
  refine⟨f,mem_css.1 hf,?_⟩
  have a:=few_le (ms:=ms) (mem_css.1 hf)
  have b:=wrg_le ms f
  unfold few at a⊢;omega
 ·refine⟨_,?_,h2⟩
  rw[List.getD_eq_getElem?_getD,List.getElem?_eq_getElem h1]
  exact mem_css.1 (List.getElem_mem h1)
def okBs(n:Nat)(bs:List Blw):Prop:=bs.length<=8/\∀b∈bs,okBlw n b
theorem isC_lo:∀ {bs:List Blw},(∀b∈bs,b.lo<=b.hi)->isC bs (bs.map (·.lo)):=by
 intro bs;induction bs with
 |nil=>intro _;trivial
 |cons b bs ih=>intro h;exact⟨⟨Int.le_refl _,h b (by simp)⟩,ih fun c hc=>h c (by simp[hc])⟩
theorem css_ne{n:Nat}{bs:List Blw}(h:okBs n bs):css bs≠[]:=by
 intro e
 have:=mem_css.2 (isC_lo (bs:=bs) fun b hb=>(h.2 b hb).2.1.2)
 rw[e]at this;cases this
theorem few_iff{n:Nat}{bs:List Blw}{ms:List Met}{w:Int}(h:okBs n bs):few bs ms<=w<->trs bs ms w≠[]:=by
 constructor
 ·intro hw e
  obtain⟨f,h1,h2⟩:=few_ex (ms:=ms) (css_ne h)
  have:f∈trs bs ms w:=mem_trs.2 ⟨h1,by omega⟩
  rw[e]at this;cases this
 ·intro hn
  obtain⟨f,hf⟩:=List.exists_mem_of_ne_nil _ hn
  obtain⟨h1,h2⟩:=mem_trs.1 hf
  have:=few_le (ms:=ms) h1;omega
theorem few0(bs:List Blw)(ms:List Met):0<=few bs ms/\few bs ms<=ms.length:=by
 refine⟨?_,(fewK_spec ms _ _ (Nat.le_refl _)).1⟩
 rcases(fewK_spec ms (css bs) _ (Nat.le_refl _)).2.2 with c|⟨i,_,c⟩<;>unfold few<;>omega
def frc(l:List (List Int))(k:Nat):List Int:=((List.range 100).filter fun n=>l.any fun f=>decide (f.getD k 0=((n:Nat):Int))).map fun(n:Nat)=>(n:Int)
theorem mem_frc{n:Nat}{bs:List Blw}{ms:List Met}{w:Int}(h:okBs n bs){k:Nat}(hk:k<bs.length){x:Int}:x∈frc (trs bs ms w) k<->∃f,f∈trs bs ms w/\f.getD k 0=x:=by
 unfold frc
 rw[List.mem_map]
 constructor
 ·rintro⟨i,hi,rfl⟩
  rw[List.mem_filter,List.any_eq_true]at hi
  obtain⟨_,f,h1,h2⟩:=hi
  exact⟨f,h1,by simpa using h2⟩
 ·rintro⟨f,h1,h2⟩
  have h3:=(isC_iff.1 (mem_trs.1 h1).1).2 k hk
  have hm:bs.getD k ⟨0,0,0⟩∈bs:=by simp[List.getD_eq_getElem?_getD,hk]
  have hb:=h.2 _ hm
  unfold okBlw at hb
  refine⟨x.toNat,?_,by omega⟩
  rw[List.mem_filter,List.mem_range,List.any_eq_true]
  exact⟨by omega,f,h1,by rw[decide_eq_true_eq];omega⟩
theorem frc_asc(l:List (List Int))(k:Nat):(frc l k).Pairwise (· < ·):=by
 unfold frc
 refine List.Pairwise.map _ (fun a b h=>?_) (List.Pairwise.filter _ List.pairwise_lt_range)
 omega
theorem nd_sub_lenC{α : Type}[DecidableEq α]{a b:List α}(ha:a.Nodup)(h:∀x∈a,x∈b):a.length<=b.length:=by
 induction a generalizing b with
 |nil=>simp
 |cons x a ih=>
  have hx:=h x (by simp)
  have hn:=List.nodup_cons.1 ha
  have:=ih (b:=b.erase x) hn.2 fun y hy=>(List.mem_erase_of_ne (fun e=>by subst e;exact hn.1 hy)).2 (h y (by simp[hy]))
  rw[List.length_erase_of_mem hx]at this
  have:=List.length_pos_of_mem hx
  simp only[List.length_cons];omega
theorem asc_eq{a b:List Int}(ha:a.Pairwise (· < ·))(hb:b.Pairwise (· < ·))(h:∀x,x∈a<->x∈b):a=b:=by
 induction a generalizing b with
 |nil=>
  cases b with
  |nil=>rfl
  |cons y b=>exact absurd ((h y).2 (by simp)) (by simp)
 |cons x a ih=>
  cases b with
  |nil=>exact absurd ((h x).1 (by simp)) (by simp)
  |cons y b=>
   rw[List.pairwise_cons]at ha hb
   have e:x=y:=by
    rcases List.mem_cons.1 ((h x).1 (by simp))with e|e
    ·exact e
    ·rcases List.mem_cons.1 ((h y).2 (by simp))with e2|e2
     ·exact e2.symm
     ·have:=hb.1 x e;have:=ha.1 y e2;omega
   subst e
   rw[ih ha.2 hb.2]
   intro z
   constructor
   ·intro hz
    rcases List.mem_cons.1 ((h z).1 (by simp[hz]))with e|e
    ·subst e;exact absurd (ha.1 z hz) (by omega)
    ·exact e
   ·intro hz
    rcases List.mem_cons.1 ((h z).2 (by simp[hz]))with e|e
    ·subst e;exact absurd (hb.1 z hz) (by omega)
    ·exact e
theorem frc_len{n:Nat}{bs:List Blw}{ms:List Met}{w:Int}(h:okBs n bs){k:Nat}(hk:k<bs.length):(frc (trs bs ms w) k).length<=10:=by
 have hm:bs.getD k ⟨0,0,0⟩∈bs:=by simp[List.getD_eq_getElem?_getD,hk]
 have hb:=h.2 _ hm
 unfold okBlw at hb
 have:=nd_sub_lenC (b:=(List.range 10).map fun(i:Nat)=>(bs.getD k ⟨0,0,0⟩).lo+(i:Int)) ((frc_asc (trs bs ms w) k).imp fun {x y} h=>by omega) (fun x hx=>by
  obtain⟨f,h1,h2⟩:=(mem_frc h hk).1 hx
  have h3:=(isC_iff.1 (mem_trs.1 h1).1).2 k hk
  rw[List.mem_map]
  exact⟨(x-(bs.getD k ⟨0,0,0⟩).lo).toNat,by rw[List.mem_range];omega,by omega⟩)
 simpa using this
def knwC(some many:Nat):Int:=if some=many then 1 else if some=0 then 2 else 3
def rgtC(l:List (List Int))(m:Met):Int:=knwC (l.countP (rgtM m)) l.length
def spI(x:List Int):Nat->Int × Int
 |0=>(0,0)
 |k+1=>if k=0 then(x.getD 0 0,x.getD 0 0) else(min (spI x k).1 (x.getD k 0),max (spI x k).2 (x.getD k 0))
def spL(x:List Int):Int × Int:=spI x x.length
theorem spI_spec(x:List Int):∀k,0<k->k<=x.length->(∀i,i<k->(spI x k).1<=x.getD i 0/\x.getD i 0<=(spI x k).2)/\(∃i,i<k/\(spI x k).1=x.getD i 0)/\∃i,i<k/\(spI x k).2=x.getD i 0:=by
 intro k;induction k with
 |zero=>intro h;omega
 |succ k ih=>
  intro _ hk
  rw[spI]
  by_cases h0:k=0
  ·subst h0
   rw[if_pos rfl]
   exact⟨fun i hi=>by rw[show i=0 by omega];exact⟨Int.le_refl _,Int.le_refl _⟩,⟨0,by omega,rfl⟩,⟨0,by omega,rfl⟩⟩
  ·rw[if_neg h0]
   obtain⟨a,⟨i,b1,b2⟩,⟨j,c1,c2⟩⟩:=ih (by omega) (by omega)
   refine⟨fun i hi=>?_,?_,?_⟩
   ·by_cases e:i=k
    ·subst e;dsimp only;omega
    ·have:=a i (by omega);dsimp only;omega
   ·by_cases h:(spI x k).1<=x.getD k 0
    ·exact⟨i,by omega,by dsimp only;omega⟩
    ·exact⟨k,by omega,by dsimp only;omega⟩
   ·by_cases h:x.getD k 0<=(spI x k).2
    ·exact⟨j,by omega,by dsimp only;omega⟩
    ·exact⟨k,by omega,by dsimp only;omega⟩
theorem spL_in{x:List Int}{y:Int}(h:y∈x):(spL x).1<=y/\y<=(spL x).2:=by
 obtain⟨i,hi,e⟩:=List.getElem_of_mem h
 have:=(spI_spec x x.length (by omega) (Nat.le_refl _)).1 i hi
 rwa [show x.getD i 0=y from by rw[List.getD_eq_getElem?_getD,List.getElem?_eq_getElem hi];exact e]at this
theorem spL_ex{x:List Int}(h:x≠[]):(spL x).1∈x/\(spL x).2∈x:=by
 have h0:0<x.length:=List.length_pos_iff.2 h
 obtain⟨_,⟨i,b1,b2⟩,⟨j,c1,c2⟩⟩:=spI_spec x x.length h0 (Nat.le_refl _)
 unfold spL
 rw[b2,c2]
 constructor
 ·rw[List.getD_eq_getElem?_getD,List.getElem?_eq_getElem b1];exact List.getElem_mem b1
 ·rw[List.getD_eq_getElem?_getD,List.getElem?_eq_getElem c1];exact List.getElem_mem c1
theorem isC_len{bs:List Blw}{f:List Int}(h:isC bs f):f.length=bs.length:=(isC_iff.1 h).1
def rds(l:List (List Int))(L:Int):Int × Int:=spL (l.map fun f=>((abv f L:Nat):Int))
def Blw.av(b:Blw):List AV:=[.int .i64 b.a, .int .i64 b.lo, .int .i64 b.hi]
def Met.av(m:Met):List AV:=[.int .i64 m.L, .int .i64 m.c]
def c1(l:List Int):List AV:=[.isl (l.map i1)]
structure Ru where
 d:Dm
 bs:List Blw
 ms:List Met
 w:Int
def Ru.cells(r:Ru):List AV:=[.isl (r.d.f.ss.map Sec.av), .int .i64 r.d.f.lo, .int .i64 r.d.f.hi, .int .i64 r.d.f.en, .int .i64 r.d.f.ed, .int .i64 r.d.f.rod, .int .i64 r.d.f.cs, .isl (r.d.rs.map s2), .isl (r.d.sh.map i1), .isl (r.bs.map Blw.av), .isl (r.ms.map Met.av), .int .i64 r.w]
theorem i1_one(l:List Int):∀e∈l.map i1,e.length=1/\e.all AV.one=true:=fun e he=>by
 obtain⟨x,_,rfl⟩:=List.mem_map.1 he;exact⟨rfl,rfl⟩
theorem c1_one(l:List (List Int)):∀e∈l.map c1,e.length=1/\e.all AV.one=true:=fun e he=>by
 obtain⟨x,_,rfl⟩:=List.mem_map.1 he;exact⟨rfl,rfl⟩
theorem blw_one(l:List Blw):∀e∈l.map Blw.av,e.length=3/\e.all AV.one=true:=fun e he=>by
 obtain⟨x,_,rfl⟩:=List.mem_map.1 he;exact⟨rfl,rfl⟩
theorem met_one(l:List Met):∀e∈l.map Met.av,e.length=2/\e.all AV.one=true:=fun e he=>by
 obtain⟨x,_,rfl⟩:=List.mem_map.1 he;exact⟨rfl,rfl⟩
theorem gC(l:List (List Int))(i:Nat)(h:i<l.length):(l.map c1).getD i []=[.isl ((l.getD i []).map i1)]:=by
 rw[getD_mapD c1 l i [] h];rfl
theorem gI(l:List Int)(i:Nat)(h:i<l.length):(l.map i1).getD i []=[.int .i64 (l.getD i 0)]:=by
 rw[getD_mapD i1 l i 0 h];rfl
theorem gB(l:List Blw)(i:Nat)(h:i<l.length):(l.map Blw.av).getD i []=[.int .i64 (l.getD i ⟨0,0,0⟩).a, .int .i64 (l.getD i ⟨0,0,0⟩).lo, .int .i64 (l.getD i ⟨0,0,0⟩).hi]:=by
 rw[getD_mapD Blw.av l i ⟨0,0,0⟩ h];rfl
theorem gM(l:List Met)(i:Nat)(h:i<l.length):(l.map Met.av).getD i []=[.int .i64 (l.getD i ⟨0,0⟩).L, .int .i64 (l.getD i ⟨0,0⟩).c]:=by
 rw[getD_mapD Met.av l i ⟨0,0⟩ h];rfl
theorem n61(n lo hi:Int):FnA Tryz.prog 48 [.int .i64 n, .int .i64 lo, .int .i64 hi] (· = .bool (decide (lo<=n/\n<=hi))):=by
 refine fnA 0 ok48 (by simp) ?_
 (conv=>whnf);(repeat'((first|apply bT|apply bF|apply bN|((first|apply bD|apply bEq|apply bNe)<;>intro hh<;>try(exfalso;omega))|refine(k50 n lo hi).cq rfl rfl ?_|refine wJ ?_|refine nJ ?_)<;>conv=>whnf))
 all_goals rfl
theorem cnt_suc{α : Type}(p : α -> Bool)(l:List α)(k:Nat)(hk:k<l.length)(z : α):(l.take (k+1)).countP p=(l.take k).countP p+if p (l.getD k z)=true then 1 else 0:=by
 rw[List.take_succ_eq_append_getElem hk,List.countP_append,List.countP_singleton,List.getD_eq_getElem?_getD,List.getElem?_eq_getElem hk];rfl
theorem n42(f:List Int)(L:Int)(hf:f.length<=9223372036854775807):FnA Tryz.prog 35 [.isl (f.map i1), .int .i64 L] (· = .int .i64 (abv f L:Nat)):=by
 have hL:(f.map i1).length=f.length:=by simp
 refine fnA 0 ok35 (by simp) ?_
 (conv=>whnf);(repeat'((first|apply bT|apply bF|apply bN|((first|apply bD|apply bEq|apply bNe)<;>intro hh<;>try(exfalso;omega))|refine wJ ?_|refine nJ ?_)<;>conv=>whnf))
 refine loop_i (α :=Nat) (fun k=>[(6, .int .i64 k),(5, .int .i64 (((f.take k).countP fun x=>decide (L<=x):Nat):Int)),(1, .int .i64 L),(0, .isl (f.map i1))]) (fun k=>[]) (fun k=>k<=f.length) (fun k=>f.length-k) 0 mI (by omega) ?_
 intro k hk
 have hc:(f.take k).countP (fun x=>decide (L<=x))<=k:=Nat.le_trans List.countP_le_length (by simp;omega)
 conv=>whnf
 refine bD (fun h3=>?_) (fun h3=>?_)
 ·have hlt:k<f.length:=by omega
  have g1:=gI f k hlt
  have e:=cnt_suc (fun x=>decide (L<=x)) f k hlt 0
  by_cases h:L<=f.getD k 0
  ·rw[if_pos (decide_eq_true h)]at e
   (conv=>whnf);(repeat'((first|apply bT|apply bF|apply bN|((first|apply bD|apply bEq|apply bNe)<;>intro hh<;>try(exfalso;omega))|refine iaJ g1 ?_|refine wJ ?_|refine nJ ?_)<;>conv=>whnf))
   refine⟨k+1,?_,by omega,by omega⟩
   rw[e]
   simp only[Int.natCast_add,Int.natCast_one]
   exact mI
  ·rw[if_neg (by rw[decide_eq_false h];simp)]at e
   (conv=>whnf);(repeat'((first|apply bT|apply bF|apply bN|((first|apply bD|apply bEq|apply bNe)<;>intro hh<;>try(exfalso;omega))|refine iaJ g1 ?_|refine wJ ?_|refine nJ ?_)<;>conv=>whnf))
   refine⟨k+1,?_,by omega,by omega⟩
   rw[e]
   simp only[Int.natCast_add,Int.natCast_one]
   exact mI
 ·have:k=f.length:=by omega
  subst this
  rw[List.take_length]
  (conv=>whnf);(repeat'((first|apply bT|apply bF|apply bN|((first|apply bD|apply bEq|apply bNe)<;>intro hh<;>try(exfalso;omega))|refine wJ ?_|refine nJ ?_)<;>conv=>whnf))
  all_goals rfl
theorem n45(m:Met)(f:List Int)(hf:f.length<=9223372036854775807):FnA Tryz.prog 38 [.agg m.av, .isl (f.map i1)] (· = .bool (rgtM m f)):=by
 have e1:=n42 f m.L hf
 refine fnA 1 ok38 (by simp) ?_
 (conv=>whnf);(repeat'((first|apply bT|apply bF|apply bN|((first|apply bD|apply bEq|apply bNe)<;>intro hh<;>try(exfalso;omega))|refine e1.cq rfl rfl ?_|refine wJ ?_|refine nJ ?_)<;>conv=>whnf))
 all_goals rfl
theorem n63(r:Ru)(f:List Int)(hf:f.length<=9223372036854775807)(hm:r.ms.length<=1000):FnA Tryz.prog 52 [.agg r.cells, .isl (f.map i1)] (· = .int .i64 (wrg r.ms f:Nat)):=by
 have hL:(r.ms.map Met.av).length=r.ms.length:=by simp
 refine fnA 1 ok52 (by simp) ?_
 (conv=>whnf);(repeat'((first|apply bT|apply bF|apply bN|((first|apply bD|apply bEq|apply bNe)<;>intro hh<;>try(exfalso;omega))|refine wJ ?_|refine nJ ?_)<;>conv=>whnf))
 refine loop_i (α :=Nat) (fun k=>[(6, .int .i64 k),(5, .int .i64 (((r.ms.take k).countP fun m => !rgtM m f:Nat):Int)),(2, .own 0 0),(1, .isl (f.map i1))]) (fun k=>[.box false r.cells]) (fun k=>k<=r.ms.length) (fun k=>r.ms.length-k) 0 mI (by omega) ?_
 intro k hk
 have hc:(r.ms.take k).countP (fun m => !rgtM m f)<=k:=Nat.le_trans List.countP_le_length (by simp;omega)
 conv=>whnf
 refine bD (fun h3=>?_) (fun h3=>?_)
 ·have hlt:k<r.ms.length:=by omega
  have g1:=gM r.ms k hlt
  have e:=cnt_suc (fun m => !rgtM m f) r.ms k hlt ⟨0,0⟩
  have e1:=n45 (r.ms.getD k ⟨0,0⟩) f hf
  cases h:rgtM (r.ms.getD k ⟨0,0⟩) f
  ·rw[if_pos (show(!rgtM (r.ms.getD k ⟨0,0⟩) f)=true by rw[h];rfl)]at e
   rw[h]at e1
   (conv=>whnf);(repeat'((first|apply bT|apply bF|apply bN|((first|apply bD|apply bEq|apply bNe)<;>intro hh<;>try(exfalso;omega))|refine iaJ g1 ?_|refine e1.cq rfl rfl ?_|refine wJ ?_|refine nJ ?_)<;>conv=>whnf))
   refine⟨k+1,?_,by omega,by omega⟩
   rw[e]
   simp only[Int.natCast_add,Int.natCast_one]
   exact mI
  ·rw[if_neg (show ¬(!rgtM (r.ms.getD k ⟨0,0⟩) f)=true by rw[h];simp)]at e
   rw[h]at e1
   (conv=>whnf);(repeat'((first|apply bT|apply bF|apply bN|((first|apply bD|apply bEq|apply bNe)<;>intro hh<;>try(exfalso;omega))|refine iaJ g1 ?_|refine e1.cq rfl rfl ?_|refine wJ ?_|refine nJ ?_)<;>conv=>whnf))
   refine⟨k+1,?_,by omega,by omega⟩
   rw[e]
   simp only[Int.natCast_add,Int.natCast_one]
   exact mI
 ·have:k=r.ms.length:=by omega
  subst this
  rw[List.take_length]
  (conv=>whnf);(repeat'((first|apply bT|apply bF|apply bN|((first|apply bD|apply bEq|apply bNe)<;>intro hh<;>try(exfalso;omega))|refine wJ ?_|refine nJ ?_)<;>conv=>whnf))
  all_goals rfl
def Ru.ok(r:Ru):Bool:=r.d.okB&&(decide (r.bs.length<=8)&&decide (r.ms.length<=5))&&decide (0<=r.w/\r.w<=5)&&(r.bs.all fun b=>decide (okBlw r.d.rs.length b))&&r.ms.all fun m=>decide (okMet m)
theorem rok_iff{r:Ru}:r.ok=true<->r.d.okB=true/\okBs r.d.rs.length r.bs/\r.ms.length<=5/\(0<=r.w/\r.w<=5)/\∀m∈r.ms,okMet m:=by
 unfold Ru.ok okBs
 simp only[Bool.and_eq_true,decide_eq_true_eq,List.all_eq_true]
 constructor
 ·rintro⟨⟨⟨⟨a,b,c⟩,d⟩,e⟩,f⟩;exact⟨a,⟨b,e⟩,c,d,f⟩
 ·rintro⟨a,⟨b,e⟩,c,d,f⟩;exact⟨⟨⟨⟨a,b,c⟩,d⟩,e⟩,f⟩
structure Sm(r:Ru):Prop where
 f:r.d.f.ss.length<=1000
 n:r.d.rs.length<=1000
 s:r.d.sh.length<=1000
 b:r.bs.length<=1000
 m:r.ms.length<=1000
theorem okB_lens{d:Dm}(h:d.okB=true):d.f.ss.length<=1000/\d.rs.length<=1000/\d.sh.length<=1000:=by
 have h':=okB_iff.1 h
 have:=h'.2.1;have:=h'.2.2.2.1
 have hf:=h'.1
 refine⟨?_,by omega,by omega⟩
 unfold Frm.ok at hf;omega
theorem rok_sm{r:Ru}(h:r.ok=true):Sm r:=by
 obtain⟨a,b,c,_,_⟩:=rok_iff.1 h
 have:=okB_lens a
 exact⟨this.1,this.2.1,this.2.2,by have:=b.1;omega,by omega⟩
theorem wid_pos{n:Nat}{b:Blw}(h:okBlw n b):1<=wid b/\wid b<=10:=by unfold okBlw at h;unfold wid;omega
theorem prd_pos{n:Nat}:∀ {bs:List Blw},(∀b∈bs,okBlw n b)->1<=prd bs:=by
 intro bs;induction bs with
 |nil=>intro _;simp[prd]
 |cons b bs ih=>
  intro h
  rw[prd_cons]
  exact Nat.mul_pos (wid_pos (h b (by simp))).1 (ih fun c hc=>h c (by simp[hc]))
theorem n62(r:Ru)(h:okBs r.d.rs.length r.bs):∀(n:Nat) (f:List Int),f.length+n=r.bs.length->prd (r.bs.drop f.length)<=1000->FnA Tryz.prog 51 [.agg r.cells, .isl (f.map i1)] (· = .isl ((csF (r.bs.drop f.length) f).map c1)):=by
 have hB:(r.bs.map Blw.av).length=r.bs.length:=by simp
 have h8:=h.1
 intro n;induction n with
 |zero=>
  intro f hf hp
  have hL:(f.map i1).length=f.length:=by simp
  rw[List.drop_eq_nil_of_le (by omega),csF]
  refine fnA 9 ok51 (by simp) ?_
  (conv=>whnf);(repeat'((first|apply bT|apply bF|apply bN|((first|apply bD|apply bEq|apply bNe)<;>intro hh<;>try(exfalso;omega))|refine wJ ?_|refine nJ ?_)<;>conv=>whnf))
  all_goals rfl
 |succ n ih=>
  intro f hf hp
  have hL:(f.map i1).length=f.length:=by simp
  have hlt:f.length<r.bs.length:=by omega
  have hd:r.bs.drop f.length=r.bs.getD f.length ⟨0,0,0⟩::r.bs.drop (f.length+1):=by
   rw[List.drop_eq_getElem_cons hlt,List.getD_eq_getElem?_getD,List.getElem?_eq_getElem hlt];rfl
  have hm:r.bs.getD f.length ⟨0,0,0⟩∈r.bs:=by simp[List.getD_eq_getElem?_getD,hlt]
  have hb:=h.2 _ hm
  have g1:(r.bs.map Blw.av).getD (f.map i1).length []=_:=(congrArg (fun i=>(r.bs.map Blw.av).getD i []) hL).trans (gB r.bs f.length hlt)
  rw[hd]at hp⊢
  rw[prd_cons]at hp
  have hw:=wid_pos hb
  have hq:prd (r.bs.drop (f.length+1))<=1000:=Nat.le_trans (Nat.le_mul_of_pos_left _ (by omega)) hp
  have hlen:=fun k=>csK_len (F:=csF (r.bs.drop (f.length+1))) (f:=f) (lo:=(r.bs.getD f.length ⟨0,0,0⟩).lo) (csF_len (r.bs.drop (f.length+1))) k
  rw[csF]
  generalize r.bs.getD f.length ⟨0,0,0⟩=b at *
  have e0:b.hi+1-b.lo=(wid b:Nat):=by unfold okBlw at hb;unfold wid;omega
  unfold okBlw at hb
  generalize wid b=W at *
  refine fnA 10 ok51 (by simp) ?_
  (conv=>whnf);(repeat'((first|apply bT|apply bF|apply bN|((first|apply bD|apply bEq|apply bNe)<;>intro hh<;>try(exfalso;omega))|refine iaJ g1 ?_|refine wJ ?_|refine nJ ?_)<;>conv=>whnf))
  refine loop_i (α :=Nat × Int) (fun z=>[(7, .int .i64 z.2),(6, .own 2 0),(5, .row 9),(2, .own 0 0),(1, .isl (f.map i1))]) (fun z=>[.box false r.cells, .fresh, .box false [.int .i64 b.lo, .int .i64 b.hi], .fresh, .fresh, .fresh, .fresh, .fresh, .fresh, .row false 28 1 ((csK (csF (r.bs.drop (f.length+1))) f b.lo z.1).map c1)]) (fun z=>z.1<=W/\z.2=b.lo+(z.1:Int)) (fun z=>W-z.1) (0,b.lo) (mA [(9,none)]) (by dsimp only;omega) ?_
  rintro⟨k,p⟩ ⟨hk,hp9⟩
  dsimp only at hk hp9⊢
  conv=>whnf
  refine bD (fun h3=>?_) (fun h3=>?_)
  ·have hkW:k<W:=by omega
   have hpp:p=b.lo+(k:Int):=hp9
   have e2:=ih (f++[b.lo+(k:Int)]) (by simp;omega) (by rw[List.length_append,List.length_singleton];exact hq)
   rw[List.map_append,List.length_append,List.length_singleton]at e2
   have l0:=hlen k
   have l0':k*prd (r.bs.drop (f.length+1))<=W*prd (r.bs.drop (f.length+1)):=Nat.mul_le_mul_right _ hk
   have l1:((csK (csF (r.bs.drop (f.length+1))) f b.lo k).map c1).length<=1000:=by rw[List.length_map,l0];omega
   have l2:((csF (r.bs.drop (f.length+1)) (f++[b.lo+(k:Int)])).map c1).length<=1000:=by rw[List.length_map,csF_len];omega
   have hF:=c1_one (csF (r.bs.drop (f.length+1)) (f++[b.lo+(k:Int)]))
   have hJ:=i1_one f
   have hK:∀e∈[[AV.int .i64 (b.lo+(k:Int))]],e.length=1/\e.all AV.one=true:=by simp[AV.one]
   have ek:csK (csF (r.bs.drop (f.length+1))) f b.lo (k+1)=csK (csF (r.bs.drop (f.length+1))) f b.lo k++csF (r.bs.drop (f.length+1)) (f++[b.lo+(k:Int)]):=rfl
   rw[<- hpp]at e2 l2 hF hK ek
   (conv=>whnf);(repeat'((first|apply bT|apply bF|apply bN|((first|apply bD|apply bEq|apply bNe)<;>intro hh<;>try(exfalso;omega))|(refine apI hJ (by simp only[List.length_nil,hL];omega) ?_)|refine apI hF (by omega) ?_|(refine apI hK (by simp only[List.nil_append,List.length_cons,List.length_nil,hL];omega) ?_)|refine e2.zq rfl rfl ?_|refine wJ ?_|refine nJ ?_)<;>conv=>whnf))
   refine⟨(k+1,p+1),?_,⟨by dsimp only;omega,by dsimp only;omega⟩,by dsimp only;omega⟩
   dsimp only
   rw[ek,List.map_append]
   exact(mA [(9,some 8)])
  ·have:k=W:=by omega
   subst this
   (conv=>whnf);(repeat'((first|apply bT|apply bF|apply bN|((first|apply bD|apply bEq|apply bNe)<;>intro hh<;>try(exfalso;omega))|refine wJ ?_|refine nJ ?_)<;>conv=>whnf))
   all_goals rfl
noncomputable instance (bs:List Blw) (f:List Int):Decidable (isC bs f):=Classical.propDecidable _
def Ru.trs(r:Ru):List (List Int):=Go.Proofs.trs r.bs r.ms r.w
theorem n62n(r:Ru)(h:okBs r.d.rs.length r.bs)(hp:prd r.bs<=1000):FnA Tryz.prog 51 [.agg r.cells, .isl []] (· = .isl ((css r.bs).map c1)):=n62 r h r.bs.length [] (by simp) hp
theorem filter_sucC{α : Type}(p : α -> Bool)(l:List α)(k:Nat)(hk:k<l.length)(z : α):(l.take (k+1)).filter p=(l.take k).filter p++if p (l.getD k z)=true then [l.getD k z] else []:=by
 have e:l.getD k z=l[k]:=by rw[List.getD_eq_getElem?_getD,List.getElem?_eq_getElem hk];rfl
 rw[List.take_succ_eq_append_getElem hk,List.filter_append,e]
 congr 1
 by_cases hp:p l[k]=true
 ·rw[if_pos hp,List.filter_cons_of_pos hp];rfl
 ·rw[if_neg hp,List.filter_cons_of_neg hp];rfl
theorem css_f{bs:List Blw}{k:Nat}(hk:k<(css bs).length):isC bs ((css bs).getD k []):=by
 rw[List.getD_eq_getElem?_getD,List.getElem?_eq_getElem hk];exact mem_css.1 (List.getElem_mem hk)
theorem n93(r:Ru)(h:okBs r.d.rs.length r.bs)(hp:prd r.bs<=1000)(hm:r.ms.length<=1000):FnA Tryz.prog 99 [.agg r.cells] (· = .isl (r.trs.map c1)):=by
 have h8:=h.1
 have e1:=n62n r h hp
 have hl:((css r.bs).map c1).length=(css r.bs).length:=by simp
 have hc:=css_len r.bs
 refine fnA 5 ok99 (by simp) ?_
 (conv=>whnf);(repeat'((first|apply bT|apply bF|apply bN|((first|apply bD|apply bEq|apply bNe)<;>intro hh<;>try(exfalso;omega))|refine e1.zq rfl rfl ?_|refine wJ ?_|refine nJ ?_)<;>conv=>whnf))
 refine loop_i (α :=Nat) (fun k=>[(5, .int .i64 k),(4, .isl ((css r.bs).map c1)),(3, .row 4),(1, .own 0 0)]) (fun k=>[.box false r.cells, .fresh, .fresh, .fresh, .row false 28 1 ((((css r.bs).take k).filter fun f=>decide ((wrg r.ms f:Int)<=r.w)).map c1)]) (fun k=>k<=(css r.bs).length) (fun k=>(css r.bs).length-k) 0 (mA [(4,none)]) (by omega) ?_
 intro k hk
 conv=>whnf
 refine bD (fun h3=>?_) (fun h3=>?_)
 ·have hlt:k<(css r.bs).length:=by omega
  have g1:=gC (css r.bs) k hlt
  have hcl:=isC_len (css_f hlt)
  have e2:=n63 r ((css r.bs).getD k []) (by omega) hm
  have ef:=filter_sucC (fun f=>decide ((wrg r.ms f:Int)<=r.w)) (css r.bs) k hlt []
  have lk:((((css r.bs).take k).filter fun f=>decide ((wrg r.ms f:Int)<=r.w)).map c1).length<=1000:=by
   rw[List.length_map];refine Nat.le_trans (List.length_filter_le _ _) ?_;rw[List.length_take];omega
  by_cases hw:(wrg r.ms ((css r.bs).getD k []):Int)<=r.w
  ·rw[if_pos (decide_eq_true hw)]at ef
   have hK:∀e∈[[AV.isl (((css r.bs).getD k []).map i1)]],e.length=1/\e.all AV.one=true:=by simp[AV.one]
   (conv=>whnf);(repeat'((first|apply bT|apply bF|apply bN|((first|apply bD|apply bEq|apply bNe)<;>intro hh<;>try(exfalso;omega))|refine iaJ g1 ?_|refine e2.cq rfl rfl ?_|(refine apI hK (by simp only[List.length_cons,List.length_nil];omega) ?_)|refine wJ ?_|refine nJ ?_)<;>conv=>whnf))
   refine⟨k+1,?_,by omega,by omega⟩
   rw[ef,List.map_append]
   exact(mA [(4,some 3)])
  ·rw[if_neg (by rw[decide_eq_false hw];simp),List.append_nil]at ef
   (conv=>whnf);(repeat'((first|apply bT|apply bF|apply bN|((first|apply bD|apply bEq|apply bNe)<;>intro hh<;>try(exfalso;omega))|refine iaJ g1 ?_|refine e2.cq rfl rfl ?_|refine wJ ?_|refine nJ ?_)<;>conv=>whnf))
   refine⟨k+1,?_,by omega,by omega⟩
   rw[ef]
   exact(mA [(4,some 4)])
 ·have:k=(css r.bs).length:=by omega
  subst this
  rw[List.take_length]
  (conv=>whnf);(repeat'((first|apply bT|apply bF|apply bN|((first|apply bD|apply bEq|apply bNe)<;>intro hh<;>try(exfalso;omega))|refine wJ ?_|refine nJ ?_)<;>conv=>whnf))
  all_goals rfl
theorem rok_false{r:Ru}(h:¬(r.d.okB=true/\r.bs.length<=8/\r.ms.length<=5/\0<=r.w/\r.w<=5)):r.ok=false:=by
 rw[Bool.eq_false_iff];intro h2
 obtain⟨a,b,c,d,_⟩:=rok_iff.1 h2
 exact h ⟨a,b.1,c,d.1,d.2⟩
theorem rok_blw{r:Ru}{k:Nat}(hk:k<r.bs.length)(h:¬okBlw r.d.rs.length (r.bs.getD k ⟨0,0,0⟩)):r.ok=false:=by
 rw[Bool.eq_false_iff];intro h2
 refine h ((rok_iff.1 h2).2.1.2 _ ?_)
 simp[List.getD_eq_getElem?_getD,hk]
theorem rok_met{r:Ru}{k:Nat}(hk:k<r.ms.length)(h:¬okMet (r.ms.getD k ⟨0,0⟩)):r.ok=false:=by
 rw[Bool.eq_false_iff];intro h2
 refine h ((rok_iff.1 h2).2.2.2.2 _ ?_)
 simp[List.getD_eq_getElem?_getD,hk]
def Ru.chk(r:Ru):Int:=if r.ok=true then 0 else 130
theorem chk_bad{r:Ru}(h:r.ok=false):(130:Int)=r.chk:=by rw[Ru.chk,h];rfl
theorem n18(r:Ru)(h:Sm r):FnA Tryz.prog 11 [.agg r.cells] (· = .int .i64 r.chk):=by
 have hB:(r.bs.map Blw.av).length=r.bs.length:=by simp
 have hM:(r.ms.map Met.av).length=r.ms.length:=by simp
 have hb:=h.b;have hm:=h.m
 have e0:=g29 r.d h.f h.n h.s
 have ew:=n61 r.w 0 5
 by_cases hg:r.d.okB=true/\r.bs.length<=8/\r.ms.length<=5/\0<=r.w/\r.w<=5
 case neg=>
  have hz:=chk_bad (rok_false hg)
  rw[<- hz]
  by_cases hd:r.d.okB=true
  ·have:r.d.err=0:=by unfold Dm.err;rw[if_pos hd]
   rw[this]at e0
   refine fnA 2 ok11 (by simp) ?_
   by_cases h1:r.bs.length<=8/\r.ms.length<=5
   ·rw[decide_eq_false (show ¬(0<=r.w/\r.w<=5) from fun h2=>hg ⟨hd,h1.1,h1.2,h2⟩)]at ew
    (conv=>whnf);(repeat'((first|apply bT|apply bF|apply bN|((first|apply bD|apply bEq|apply bNe)<;>intro hh<;>try(exfalso;omega))|refine e0.cq rfl rfl ?_|refine ew.cq rfl rfl ?_|refine wJ ?_|refine nJ ?_)<;>conv=>whnf))
    all_goals rfl
   ·by_cases h2:r.bs.length<=8
    ·have h3:¬r.ms.length<=5:=fun h3=>h1 ⟨h2,h3⟩
     (conv=>whnf);(repeat'((first|apply bT|apply bF|apply bN|((first|apply bD|apply bEq|apply bNe)<;>intro hh<;>try(exfalso;omega))|refine e0.cq rfl rfl ?_|refine ew.cq rfl rfl ?_|refine wJ ?_|refine nJ ?_)<;>conv=>whnf))
     all_goals rfl
    ·(conv=>whnf);(repeat'((first|apply bT|apply bF|apply bN|((first|apply bD|apply bEq|apply bNe)<;>intro hh<;>try(exfalso;omega))|refine e0.cq rfl rfl ?_|refine ew.cq rfl rfl ?_|refine wJ ?_|refine nJ ?_)<;>conv=>whnf))
     all_goals rfl
  ·have:r.d.err=50:=by unfold Dm.err;rw[if_neg hd]
   rw[this]at e0
   refine fnA 2 ok11 (by simp) ?_
   (conv=>whnf);(repeat'((first|apply bT|apply bF|apply bN|((first|apply bD|apply bEq|apply bNe)<;>intro hh<;>try(exfalso;omega))|refine e0.cq rfl rfl ?_|refine wJ ?_|refine nJ ?_)<;>conv=>whnf))
   all_goals rfl
 obtain⟨hd,h1,h2,h3⟩:=hg
 have:r.d.err=0:=by unfold Dm.err;rw[if_pos hd]
 rw[this]at e0
 rw[decide_eq_true h3]at ew
 refine fnA 2 ok11 (by simp) ?_
 (conv=>whnf);(repeat'((first|apply bT|apply bF|apply bN|((first|apply bD|apply bEq|apply bNe)<;>intro hh<;>try(exfalso;omega))|refine e0.cq rfl rfl ?_|refine ew.cq rfl rfl ?_|refine wJ ?_|refine nJ ?_)<;>conv=>whnf))
 refine loop_i (α :=Nat) (fun k=>[(3, .int .i64 k),(1, .own 0 0)]) (fun k=>[.box false r.cells, .fresh]) (fun k=>k<=r.bs.length/\∀b∈r.bs.take k,okBlw r.d.rs.length b) (fun k=>r.bs.length-k) 0 mI ⟨by omega,by simp⟩ ?_
 rintro k ⟨hk,ha⟩
 conv=>whnf
 refine bD (fun h4=>?_) (fun h4=>?_)
 ·have hlt:k<r.bs.length:=by omega
  have g1:=gB r.bs k hlt
  have c1:=g23 r.d (r.bs.getD k ⟨0,0,0⟩).a h.n
  have c2:=n61 (r.bs.getD k ⟨0,0,0⟩).lo 0 (r.bs.getD k ⟨0,0,0⟩).hi
  by_cases hok:okBlw r.d.rs.length (r.bs.getD k ⟨0,0,0⟩)
  ·have hok':=hok
   unfold okBlw at hok'
   rw[decide_eq_true hok'.1]at c1
   rw[decide_eq_true hok'.2.1]at c2
   (conv=>whnf);(repeat'((first|apply bT|apply bF|apply bN|((first|apply bD|apply bEq|apply bNe)<;>intro hh<;>try(exfalso;omega))|refine iaJ g1 ?_|refine c1.cq rfl rfl ?_|refine c2.cq rfl rfl ?_|refine wJ ?_|refine nJ ?_)<;>conv=>whnf))
   refine⟨k+1,mI,⟨by omega,?_⟩,by omega⟩
   intro b hb'
   rw[List.take_succ_eq_append_getElem hlt]at hb'
   rcases List.mem_append.1 hb' with hb'|hb'
   ·exact ha b hb'
   ·rw[List.mem_singleton.1 hb']
    rwa [List.getD_eq_getElem?_getD,List.getElem?_eq_getElem hlt]at hok
  ·have hz:=chk_bad (rok_blw hlt hok)
   rw[<- hz]
   unfold okBlw at hok
   by_cases q1:0<=(r.bs.getD k ⟨0,0,0⟩).a/\(r.bs.getD k ⟨0,0,0⟩).a<r.d.rs.length
   ·rw[decide_eq_true q1]at c1
    by_cases q2:0<=(r.bs.getD k ⟨0,0,0⟩).lo/\(r.bs.getD k ⟨0,0,0⟩).lo<=(r.bs.getD k ⟨0,0,0⟩).hi
    ·rw[decide_eq_true q2]at c2
     by_cases q3:(r.bs.getD k ⟨0,0,0⟩).hi<=99
     ·(conv=>whnf);(repeat'((first|apply bT|apply bF|apply bN|((first|apply bD|apply bEq|apply bNe)<;>intro hh<;>try(exfalso;omega))|refine iaJ g1 ?_|refine c1.cq rfl rfl ?_|refine c2.cq rfl rfl ?_|refine wJ ?_|refine nJ ?_)<;>conv=>whnf))
      all_goals rfl
     ·(conv=>whnf);(repeat'((first|apply bT|apply bF|apply bN|((first|apply bD|apply bEq|apply bNe)<;>intro hh<;>try(exfalso;omega))|refine iaJ g1 ?_|refine c1.cq rfl rfl ?_|refine c2.cq rfl rfl ?_|refine wJ ?_|refine nJ ?_)<;>conv=>whnf))
      all_goals rfl
    ·rw[decide_eq_false q2]at c2
     (conv=>whnf);(repeat'((first|apply bT|apply bF|apply bN|((first|apply bD|apply bEq|apply bNe)<;>intro hh<;>try(exfalso;omega))|refine iaJ g1 ?_|refine c1.cq rfl rfl ?_|refine c2.cq rfl rfl ?_|refine wJ ?_|refine nJ ?_)<;>conv=>whnf))
     all_goals rfl
   ·rw[decide_eq_false q1]at c1
    (conv=>whnf);(repeat'((first|apply bT|apply bF|apply bN|((first|apply bD|apply bEq|apply bNe)<;>intro hh<;>try(exfalso;omega))|refine iaJ g1 ?_|refine c1.cq rfl rfl ?_|refine c2.cq rfl rfl ?_|refine wJ ?_|refine nJ ?_)<;>conv=>whnf))
    all_goals rfl
 ·have:k=r.bs.length:=by omega
  subst this
  rw[List.take_length]at ha
  conv=>whnf
  refine loop_i (α :=Nat) (fun k=>[(5, .int .i64 k),(1, .own 0 0)]) (fun k=>[.box false r.cells, .fresh]) (fun k=>k<=r.ms.length/\∀m∈r.ms.take k,okMet m) (fun k=>r.ms.length-k) 0 mI ⟨by omega,by simp⟩ ?_
  rintro k ⟨hk,hb2⟩
  conv=>whnf
  refine bD (fun h5=>?_) (fun h5=>?_)
  ·have hlt:k<r.ms.length:=by omega
   have g1:=gM r.ms k hlt
   have c1:=n61 (r.ms.getD k ⟨0,0⟩).L 0 99
   have c2:=n61 (r.ms.getD k ⟨0,0⟩).c 0 8
   by_cases hok:okMet (r.ms.getD k ⟨0,0⟩)
   ·have hok':=hok
    unfold okMet at hok'
    rw[decide_eq_true hok'.1]at c1
    rw[decide_eq_true hok'.2]at c2
    (conv=>whnf);(repeat'((first|apply bT|apply bF|apply bN|((first|apply bD|apply bEq|apply bNe)<;>intro hh<;>try(exfalso;omega))|refine iaJ g1 ?_|refine c1.cq rfl rfl ?_|refine c2.cq rfl rfl ?_|refine wJ ?_|refine nJ ?_)<;>conv=>whnf))
    refine⟨k+1,mI,⟨by omega,?_⟩,by omega⟩
    intro b hb'
    rw[List.take_succ_eq_append_getElem hlt]at hb'
    rcases List.mem_append.1 hb' with hb'|hb'
    ·exact hb2 b hb'
    ·rw[List.mem_singleton.1 hb']
     rwa [List.getD_eq_getElem?_getD,List.getElem?_eq_getElem hlt]at hok
   ·have hz:=chk_bad (rok_met hlt hok)
    rw[<- hz]
    unfold okMet at hok
    by_cases q1:0<=(r.ms.getD k ⟨0,0⟩).L/\(r.ms.getD k ⟨0,0⟩).L<=99
    ·rw[decide_eq_true q1]at c1
     rw[decide_eq_false (show ¬(0<=(r.ms.getD k ⟨0,0⟩).c/\(r.ms.getD k ⟨0,0⟩).c<=8) from fun q=>hok ⟨q1,q⟩)]at c2
     (conv=>whnf);(repeat'((first|apply bT|apply bF|apply bN|((first|apply bD|apply bEq|apply bNe)<;>intro hh<;>try(exfalso;omega))|refine iaJ g1 ?_|refine c1.cq rfl rfl ?_|refine c2.cq rfl rfl ?_|refine wJ ?_|refine nJ ?_)<;>conv=>whnf))
     all_goals rfl
    ·rw[decide_eq_false q1]at c1
     (conv=>whnf);(repeat'((first|apply bT|apply bF|apply bN|((first|apply bD|apply bEq|apply bNe)<;>intro hh<;>try(exfalso;omega))|refine iaJ g1 ?_|refine c1.cq rfl rfl ?_|refine c2.cq rfl rfl ?_|refine wJ ?_|refine nJ ?_)<;>conv=>whnf))
     all_goals rfl
  ·have:k=r.ms.length:=by omega
   subst this
   rw[List.take_length]at hb2
   have hok:r.ok=true:=rok_iff.2 ⟨hd,⟨h1,ha⟩,h2,h3,hb2⟩
   have hz:(0:Int)=r.chk:=by rw[Ru.chk,if_pos hok]
   rw[<- hz]
   (conv=>whnf);(repeat'((first|apply bT|apply bF|apply bN|((first|apply bD|apply bEq|apply bNe)<;>intro hh<;>try(exfalso;omega))|refine wJ ?_|refine nJ ?_)<;>conv=>whnf))
   all_goals rfl
def Ru.err(r:Ru)(b:Bool):Int:=if r.ok=true then(if b=true then(if r.trs=[] then 3 else 0) else 1) else 130
def Ru.kn(r:Ru)(b:Bool):List (List Int):=if r.err b=0 then r.trs else []
def Few(r:Ru):Prop:=r.ok=true->prd r.bs<=600
theorem err_zero{r:Ru}{b:Bool}:r.err b=0<->r.ok=true/\b=true/\r.trs≠[]:=by
 unfold Ru.err
 by_cases h:r.ok=true
 ·rw[if_pos h]
  by_cases hb:b=true
  ·rw[if_pos hb]
   by_cases ht:r.trs=[]
   ·rw[if_pos ht];simp[ht]
   ·rw[if_neg ht];simp[h,hb,ht]
  ·rw[if_neg hb];simp[hb]
 ·rw[if_neg h];simp[h]
theorem trs_len{r:Ru}(h:Few r)(hok:r.ok=true):r.trs.length<=600:=Nat.le_trans (trs_le _ _ _) (h hok)
theorem n64(r:Ru)(b:Bool)(h:Sm r)(hf:Few r):FnA Tryz.prog 56 [.agg r.cells, .bool b] (· = .tup [.isl ((r.kn b).map c1), .int .i64 (r.err b)]):=by
 have e1:=n18 r h
 by_cases ho:r.ok=true
 case neg=>
  have:r.chk=130:=by rw[Ru.chk,if_neg ho]
  rw[this]at e1
  have he:r.err b=130:=by rw[Ru.err,if_neg ho]
  rw[Ru.kn,he]
  refine fnA 3 ok56 (by simp) ?_
  (conv=>whnf);(repeat'((first|apply bT|apply bF|apply bN|((first|apply bD|apply bEq|apply bNe)<;>intro hh<;>try(exfalso;omega))|refine e1.cq rfl rfl ?_|refine wJ ?_|refine nJ ?_)<;>conv=>whnf))
  all_goals rfl
 have:r.chk=0:=by rw[Ru.chk,if_pos ho]
 rw[this]at e1
 cases b
 ·have he:r.err false=1:=by rw[Ru.err,if_pos ho,if_neg (by simp)]
  rw[Ru.kn,he]
  refine fnA 3 ok56 (by simp) ?_
  (conv=>whnf);(repeat'((first|apply bT|apply bF|apply bN|((first|apply bD|apply bEq|apply bNe)<;>intro hh<;>try(exfalso;omega))|refine e1.cq rfl rfl ?_|refine wJ ?_|refine nJ ?_)<;>conv=>whnf))
  all_goals rfl
 ·have e2:=n93 r (rok_iff.1 ho).2.1 (by have:=hf ho;omega) h.m
  have hl:(r.trs.map c1).length=r.trs.length:=by simp
  by_cases ht:r.trs=[]
  ·have he:r.err true=3:=by rw[Ru.err,if_pos ho,if_pos rfl,if_pos ht]
   rw[Ru.kn,he]
   rw[ht]at e2
   refine fnA 3 ok56 (by simp) ?_
   (conv=>whnf);(repeat'((first|apply bT|apply bF|apply bN|((first|apply bD|apply bEq|apply bNe)<;>intro hh<;>try(exfalso;omega))|refine e1.cq rfl rfl ?_|refine e2.zq rfl rfl ?_|refine wJ ?_|refine nJ ?_)<;>conv=>whnf))
   all_goals rfl
  ·have he:r.err true=0:=by rw[Ru.err,if_pos ho,if_pos rfl,if_neg ht]
   rw[Ru.kn,he,if_pos rfl]
   have:0<r.trs.length:=List.length_pos_iff.2 ht
   refine fnA 3 ok56 (by simp) ?_
   (conv=>whnf);(repeat'((first|apply bT|apply bF|apply bN|((first|apply bD|apply bEq|apply bNe)<;>intro hh<;>try(exfalso;omega))|refine e1.cq rfl rfl ?_|refine e2.zq rfl rfl ?_|refine wJ ?_|refine nJ ?_)<;>conv=>whnf))
   all_goals rfl
theorem n36(r:Ru)(h:Sm r)(hf:Few r):FnA Tryz.prog 29 [.agg r.cells] (· = .int .i64 (r.err true)):=by
 have e1:=n64 r true h hf
 refine fnA 3 ok29 (by simp) ?_
 first
 |((conv=>whnf);(repeat'((first|apply bT|apply bF|apply bN|((first|apply bD|apply bEq|apply bNe)<;>intro hh<;>try(exfalso;omega))|refine e1.lq rfl rfl ?_|refine wJ ?_|refine nJ ?_)<;>conv=>whnf))
   all_goals rfl)
 |((conv=>whnf);(repeat'((first|apply bT|apply bF|apply bN|((first|apply bD|apply bEq|apply bNe)<;>intro hh<;>try(exfalso;omega))|refine e1.zq rfl rfl ?_|refine wJ ?_|refine nJ ?_)<;>conv=>whnf))
   all_goals rfl)
def Ru.sv(r:Ru)(i:Nat)(x:Int):Int:=r.d.st [⟨x,(r.bs.getD i ⟨0,0,0⟩).a⟩]
def Ru.row(r:Ru)(i k:Nat):List Int:=(List.range k).map fun(j:Nat)=>r.sv i ((r.bs.getD i ⟨0,0,0⟩).lo+(j:Int))
def Ru.loN(r:Ru)(f:List Int)(n:Nat):Nat:=(List.range n).countP fun i=>decide (r.sv i (f.getD i 0)=2)
def Ru.hiN(r:Ru)(f:List Int)(n:Nat):Nat:=(List.range n).countP fun i=>decide (r.sv i (f.getD i 0)≠1)
theorem cntr_suc(p:Nat->Bool)(n:Nat):(List.range (n+1)).countP p=(List.range n).countP p+if p n=true then 1 else 0:=by
 rw[List.range_succ,List.countP_append,List.countP_singleton]
theorem loN_suc(r:Ru)(f:List Int)(n:Nat):r.loN f (n+1)=r.loN f n+if r.sv n (f.getD n 0)=2 then 1 else 0:=by
 unfold Ru.loN;rw[cntr_suc];simp only[decide_eq_true_eq]
theorem hiN_suc(r:Ru)(f:List Int)(n:Nat):r.hiN f (n+1)=r.hiN f n+if r.sv n (f.getD n 0)≠1 then 1 else 0:=by
 unfold Ru.hiN;rw[cntr_suc];simp only[decide_eq_true_eq]
theorem lo_le_hi(r:Ru)(f:List Int):∀n,r.loN f n<=r.hiN f n/\r.hiN f n<=n:=by
 intro n;induction n with
 |zero=>exact⟨Nat.le_refl _,Nat.le_refl _⟩
 |succ n ih=>
  rw[loN_suc,hiN_suc]
  split<;>split<;>omega
def Ru.loL(r:Ru)(l:List (List Int)):List Int:=l.map fun f=>(r.loN f r.bs.length:Nat)
def Ru.hiL(r:Ru)(l:List (List Int)):List Int:=l.map fun f=>(r.hiN f r.bs.length:Nat)
def Ru.hrm(r:Ru)(l:List (List Int)):Int × Int:=((spL (r.loL l)).1,(spL (r.hiL l)).2)
def spS(s:Int × Int)(e:Int):AV:=.tup [.agg [.int .i64 s.1, .int .i64 s.2], .int .i64 e]
def Ru.std(r:Ru):Int:=if (r.hrm r.trs).2=0 then 1 else if 0<(r.hrm r.trs).1 then 2 else 3
theorem gE{α : Type}(l:List α)(z : α)(i:Nat)(h:i<l.length):l.getD i z=l[i]:=by rw[List.getD_eq_getElem?_getD,List.getElem?_eq_getElem h];rfl
def Ru.cp(r:Ru)(a b c x y:Nat):List AV:=[.row a, .int .i64 r.d.f.lo, .int .i64 r.d.f.hi, .int .i64 r.d.f.en, .int .i64 r.d.f.ed, .int .i64 r.d.f.rod, .int .i64 r.d.f.cs, .row b, .row c, .row x, .row y, .int .i64 r.w]
theorem n16o(r:Ru)(h:Sm r):FnO Tryz.prog 9 [.agg r.cells] (fun v rows=>v = .agg (r.cp 3 4 5 7 9)/\rows=[(3, .row false 138 7 (r.d.f.ss.map Sec.av)),(4, .row false 48 2 (r.d.rs.map s2)),(5, .row false 3 1 (r.d.sh.map i1)),(7, .row false 67 3 (r.bs.map Blw.av)),(9, .row false 76 2 (r.ms.map Met.av))]):=by
 have hB:(r.bs.map Blw.av).length=r.bs.length:=by simp
 have hM:(r.ms.map Met.av).length=r.ms.length:=by simp
 have hb:=h.b;have hm:=h.m
 have e1:=g24 r.d h.f h.n h.s
 refine fnO 12 ok9 (by simp) ?_
 (conv=>whnf);(repeat'((first|apply bT|apply bF|apply bN|((first|apply bD|apply bEq|apply bNe)<;>intro hh<;>try(exfalso;omega))|refine e1.oq rfl rfl rfl ?_|refine wJ ?_|refine nJ ?_)<;>conv=>whnf))
 refine apI (blw_one r.bs) (by simp only[hB,List.length_nil];omega) ?_
 (conv=>whnf);(repeat'((first|apply bT|apply bF|apply bN|((first|apply bD|apply bEq|apply bNe)<;>intro hh<;>try(exfalso;omega))|refine wJ ?_|refine nJ ?_)<;>conv=>whnf))
 refine apI (met_one r.ms) (by simp only[hM,List.length_nil];omega) ?_
 (conv=>whnf);(repeat'((first|apply bT|apply bF|apply bN|((first|apply bD|apply bEq|apply bNe)<;>intro hh<;>try(exfalso;omega))|refine wJ ?_|refine nJ ?_)<;>conv=>whnf))
 all_goals exact⟨rfl,rfl⟩
def Ru.farB(r:Ru):Bool:=decide r.d.far||decide (40<r.bs.length\/40<r.ms.length)||(r.ok&&decide (600<prd r.bs))
theorem prd_take{bs:List Blw}{k:Nat}(hk:k<bs.length):prd (bs.take (k+1))=prd (bs.take k)*wid (bs.getD k ⟨0,0,0⟩):=by
 rw[List.take_succ_eq_append_getElem hk,gE bs _ k hk]
 unfold prd;rw[List.foldl_append];rfl
theorem prd_take_le{n:Nat}{bs:List Blw}(h:∀b∈bs,okBlw n b)(k:Nat):prd (bs.take k)<=prd bs:=by
 have e:prd bs=prd (bs.take k)*prd (bs.drop k):=by
  conv=>lhs;rw[<- List.take_append_drop k bs]
  unfold prd;rw[List.foldl_append];exact prd_mul _ _
 rw[e]
 exact Nat.le_mul_of_pos_right _ (prd_pos fun b hb=>h b (List.mem_of_mem_drop hb))
theorem far_sm{r:Ru}(h:r.farB=false):Sm r/\Few r/\r.bs.length<=40/\r.ms.length<=40:=by
 unfold Ru.farB at h
 simp only[Bool.or_eq_false_iff,decide_eq_false_iff_not]at h
 obtain⟨⟨h1,h2⟩,h3⟩:=h
 unfold Dm.far at h1
 refine⟨⟨by omega,by omega,by omega,by omega,by omega⟩,fun ho=>?_,by omega,by omega⟩
 rw[ho,Bool.true_and,decide_eq_false_iff_not]at h3;omega
theorem n14(r:Ru):FnA Tryz.prog 7 [.agg r.cells] (· = .bool r.farB):=by
 have hB:(r.bs.map Blw.av).length=r.bs.length:=by simp
 have hM:(r.ms.map Met.av).length=r.ms.length:=by simp
 have e1:=g28 r.d
 unfold Ru.farB
 by_cases hd:r.d.far
 ·rw[decide_eq_true hd]at e1⊢
  refine fnA 1 ok7 (by simp) ?_
  (conv=>whnf);(repeat'((first|apply bT|apply bF|apply bN|((first|apply bD|apply bEq|apply bNe)<;>intro hh<;>try(exfalso;omega))|refine e1.cq rfl rfl ?_|refine wJ ?_|refine nJ ?_)<;>conv=>whnf))
  all_goals rfl
 rw[decide_eq_false hd]at e1⊢
 by_cases h2:40<r.bs.length\/40<r.ms.length
 ·rw[decide_eq_true h2]
  refine fnA 1 ok7 (by simp) ?_
  by_cases h3:40<r.bs.length
  ·(conv=>whnf);(repeat'((first|apply bT|apply bF|apply bN|((first|apply bD|apply bEq|apply bNe)<;>intro hh<;>try(exfalso;omega))|refine e1.cq rfl rfl ?_|refine wJ ?_|refine nJ ?_)<;>conv=>whnf))
   all_goals rfl
  ·have:40<r.ms.length:=h2.resolve_left h3
   (conv=>whnf);(repeat'((first|apply bT|apply bF|apply bN|((first|apply bD|apply bEq|apply bNe)<;>intro hh<;>try(exfalso;omega))|refine e1.cq rfl rfl ?_|refine wJ ?_|refine nJ ?_)<;>conv=>whnf))
   all_goals rfl
 rw[decide_eq_false h2]
 unfold Dm.far at hd
 have sm:Sm r:=⟨by omega,by omega,by omega,by omega,by omega⟩
 have e2:=n18 r sm
 by_cases ho:r.ok=true
 case neg=>
  have:r.chk=130:=by rw[Ru.chk,if_neg ho]
  rw[this]at e2
  have:r.ok=false:=by simpa using ho
  rw[this]
  refine fnA 1 ok7 (by simp) ?_
  (conv=>whnf);(repeat'((first|apply bT|apply bF|apply bN|((first|apply bD|apply bEq|apply bNe)<;>intro hh<;>try(exfalso;omega))|refine e1.cq rfl rfl ?_|refine e2.cq rfl rfl ?_|refine wJ ?_|refine nJ ?_)<;>conv=>whnf))
  all_goals rfl
 have:r.chk=0:=by rw[Ru.chk,if_pos ho]
 rw[this]at e2
 rw[ho]
 have hk:=(rok_iff.1 ho).2.1
 refine fnA 1 ok7 (by simp) ?_
 (conv=>whnf);(repeat'((first|apply bT|apply bF|apply bN|((first|apply bD|apply bEq|apply bNe)<;>intro hh<;>try(exfalso;omega))|refine e1.cq rfl rfl ?_|refine e2.cq rfl rfl ?_|refine wJ ?_|refine nJ ?_)<;>conv=>whnf))
 refine loop_i (α :=Nat) (fun k=>[(4, .int .i64 k),(3, .int .i64 (prd (r.bs.take k):Nat)),(1, .own 0 0)]) (fun k=>[.box false r.cells]) (fun k=>k<=r.bs.length/\prd (r.bs.take k)<=600) (fun k=>r.bs.length-k) 0 mI ⟨by omega,by simp[prd]⟩ ?_
 rintro k ⟨hk',hp⟩
 conv=>whnf
 refine bD (fun h3=>?_) (fun h3=>?_)
 ·have hlt:k<r.bs.length:=by omega
  have g1:=gB r.bs k hlt
  have hm:r.bs.getD k ⟨0,0,0⟩∈r.bs:=by simp[List.getD_eq_getElem?_getD,hlt]
  have hb:=hk.2 _ hm
  have hw:=wid_pos hb
  have ek:=prd_take hlt
  have hle:=prd_take_le hk.2 (k+1)
  have e0:(r.bs.getD k ⟨0,0,0⟩).hi-(r.bs.getD k ⟨0,0,0⟩).lo+1=(wid (r.bs.getD k ⟨0,0,0⟩):Nat):=by unfold okBlw at hb;unfold wid;omega
  generalize r.bs.getD k ⟨0,0,0⟩=b at *
  unfold okBlw at hb
  generalize wid b=W at *
  generalize prd (r.bs.take k)=p at *
  have ec:((p:Int)*(b.hi-b.lo+1))=((p*W:Nat):Int):=by rw[e0];omega
  have hpw:p*W<=600*10:=Nat.mul_le_mul hp hw.2
  have w1 : -9223372036854775808<=(p:Int)*(b.hi-b.lo+1)/\(p:Int)*(b.hi-b.lo+1)<=9223372036854775807:=by rw[ec];omega
  have w2:(600<(p:Int)*(b.hi-b.lo+1))<->600<p*W:=by rw[ec];omega
  by_cases hbig:600<p*W
  ·rw[decide_eq_true (show 600<prd r.bs by omega)]
   have hgt:=w2.2 hbig
   (conv=>whnf);(repeat'((first|apply bT|apply bF|apply bN|((first|apply bD|apply bEq|apply bNe)<;>intro hh<;>try(exfalso;omega))|refine iaJ g1 ?_|refine wIn w1 ?_|refine wJ ?_|refine nJ ?_)<;>conv=>whnf))
   all_goals rfl
  ·have hgt:¬(600<(p:Int)*(b.hi-b.lo+1)):=fun h=>hbig (w2.1 h)
   (conv=>whnf);(repeat'((first|apply bT|apply bF|apply bN|((first|apply bD|apply bEq|apply bNe)<;>intro hh<;>try(exfalso;omega))|refine iaJ g1 ?_|refine wIn w1 ?_|refine wJ ?_|refine nJ ?_)<;>conv=>whnf))
   refine⟨k+1,?_,⟨by omega,by omega⟩,by omega⟩
   rw[ek,<- ec]
   exact mI
 ·have:k=r.bs.length:=by omega
  subst this
  rw[List.take_length]at hp
  rw[decide_eq_false (show ¬ 600<prd r.bs by omega)]
  (conv=>whnf);(repeat'((first|apply bT|apply bF|apply bN|((first|apply bD|apply bEq|apply bNe)<;>intro hh<;>try(exfalso;omega))|refine wJ ?_|refine nJ ?_)<;>conv=>whnf))
  all_goals rfl
def Ru.rdy(r:Ru):Bool := !r.farB&&r.ok
theorem rdy_of{r:Ru}(h:r.rdy=true):r.ok=true/\Sm r/\Few r/\prd r.bs<=600:=by
 unfold Ru.rdy at h
 rw[Bool.and_eq_true]at h
 obtain⟨h1,h2⟩:=h
 obtain⟨a,b,_⟩:=far_sm (r:=r) (by simpa using h1)
 exact⟨h2,a,b,b h2⟩
end Go.Proofs
