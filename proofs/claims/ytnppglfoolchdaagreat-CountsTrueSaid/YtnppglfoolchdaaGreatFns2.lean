/- What each function of this program answers, proved by walking its body: the contracts that the law rests on, part 2. -/
import Derived.Test.YtnppglfoolchdaaGreatFns1
set_option linter.unusedSimpArgs false
set_option linter.unusedVariables false
set_option linter.unusedSectionVars false
namespace Go.Proofs
open Go.Eng
attribute [local irreducible] Go.Eng.brB Go.Eng.need Go.Eng.wrE Go.Eng.iaE Go.Eng.slE Go.Eng.apE Go.Eng.CallZ Go.Eng.CallE Go.Eng.VCallE Go.Eng.YldE Go.Eng.GoC Go.Eng.MeetsE Go.Eng.FnA Go.Eng.FnV
set_option maxRecDepth 100000
def Blw.av(b:Blw):List AV:=[.int .i64 b.a, .int .i64 b.lo, .int .i64 b.hi]
def Met.av(m:Met):List AV:=[.int .i64 m.L, .int .i64 m.c]
structure Ru where
 d:Dm
 bs:List Blw
 ms:List Met
 w:Int
def Ru.cells(r:Ru):List AV:=[.isl (r.d.f.ss.map Sec.av), .int .i64 r.d.f.lo, .int .i64 r.d.f.hi, .int .i64 r.d.f.en, .int .i64 r.d.f.ed, .int .i64 r.d.f.rod, .int .i64 r.d.f.cs, .isl (r.d.rs.map s2), .isl (r.d.sh.map i1), .isl (r.bs.map Blw.av), .isl (r.ms.map Met.av), .int .i64 r.w]
theorem i1_one(l:List Int):∀e∈l.map i1,e.length=1/\e.all AV.one=true:=fun e he=>by
 obtain⟨x,_,rfl⟩:=List.mem_map.1 he;exact⟨rfl,rfl⟩
theorem blw_one(l:List Blw):∀e∈l.map Blw.av,e.length=3/\e.all AV.one=true:=fun e he=>by
 obtain⟨x,_,rfl⟩:=List.mem_map.1 he;exact⟨rfl,rfl⟩
theorem gI(l:List Int)(i:Nat)(h:i<l.length):(l.map i1).getD i []=[.int .i64 (l.getD i 0)]:=by
 rw[getD_mapD i1 l i 0 h];rfl
theorem gB(l:List Blw)(i:Nat)(h:i<l.length):(l.map Blw.av).getD i []=[.int .i64 (l.getD i ⟨0,0,0⟩).a, .int .i64 (l.getD i ⟨0,0,0⟩).lo, .int .i64 (l.getD i ⟨0,0,0⟩).hi]:=by
 rw[getD_mapD Blw.av l i ⟨0,0,0⟩ h];rfl
theorem gM(l:List Met)(i:Nat)(h:i<l.length):(l.map Met.av).getD i []=[.int .i64 (l.getD i ⟨0,0⟩).L, .int .i64 (l.getD i ⟨0,0⟩).c]:=by
 rw[getD_mapD Met.av l i ⟨0,0⟩ h];rfl
theorem n61(n lo hi:Int):FnA Tryz.prog 48 [.int .i64 n, .int .i64 lo, .int .i64 hi] (· = .bool (decide (lo<=n/\n<=hi))):=by
 refine fnA 0 ok48 (by simp) ?_
 (conv=>whnf);(repeat'((first|apply bT|apply bF|apply bN|((first|apply bD|apply bEq|apply bNe)<;>intro hh<;>try(exfalso;omega))|refine(k50 n lo hi).cq rfl rfl ?_|refine wJ ?_|refine nJ ?_)<;>conv=>whnf))
 all_goals rfl
theorem cnt_suc{α : Type}(p : α -> Bool)(l:List α)(k:Nat)(hk:k<l.length)(z : α):(l.take (k+1)).countP p=(l.take k).countP p+if p (l.getD k z)=true then 1 else 0:=by
 rw[List.take_succ_eq_append_getElem hk,List.countP_append,List.countP_singleton,List.getD_eq_getElem?_getD,List.getElem?_eq_getElem hk];rfl
theorem n42(f:List Int)(L:Int)(hf:f.length<=9223372036854775807):FnA Tryz.prog 35 [.isl (f.map i1), .int .i64 L] (· = .int .i64 (abv f L:Nat)):=by
 have hL:(f.map i1).length=f.length:=by simp
 refine fnA 0 ok35 (by simp) ?_
 (conv=>whnf);(repeat'((first|apply bT|apply bF|apply bN|((first|apply bD|apply bEq|apply bNe)<;>intro hh<;>try(exfalso;omega))|refine wJ ?_|refine nJ ?_)<;>conv=>whnf))
 refine loop_i (α :=Nat) (fun k=>[(6, .int .i64 k),(5, .int .i64 (((f.take k).countP fun x=>decide (L<=x):Nat):Int)),(1, .int .i64 L),(0, .isl (f.map i1))]) (fun k=>[]) (fun k=>k<=f.length) (fun k=>f.length-k) 0 mI (by omega) ?_
 intro k hk
 have hc:(f.take k).countP (fun x=>decide (L<=x))<=k:=Nat.le_trans List.countP_le_length (by simp;omega)
 conv=>whnf
 refine bD (fun h3=>?_) (fun h3=>?_)
 ·have hlt:k<f.length:=by omega
  have g1:=gI f k hlt
  have e:=cnt_suc (fun x=>decide (L<=x)) f k hlt 0
  by_cases h:L<=f.getD k 0
  ·rw[if_pos (decide_eq_true h)]at e
   (conv=>whnf);(repeat'((first|apply bT|apply bF|apply bN|((first|apply bD|apply bEq|apply bNe)<;>intro hh<;>try(exfalso;omega))|refine iaJ g1 ?_|refine wJ ?_|refine nJ ?_)<;>conv=>whnf))
   refine⟨k+1,?_,by omega,by omega⟩
   rw[e]
   simp only[Int.natCast_add,Int.natCast_one]
   exact mI
  ·rw[if_neg (by rw[decide_eq_false h];simp)]at e
   (conv=>whnf);(repeat'((first|apply bT|apply bF|apply bN|((first|apply bD|apply bEq|apply bNe)<;>intro hh<;>try(exfalso;omega))|refine iaJ g1 ?_|refine wJ ?_|refine nJ ?_)<;>conv=>whnf))
   refine⟨k+1,?_,by omega,by omega⟩
   rw[e]
   simp only[Int.natCast_add,Int.natCast_one]
   exact mI
 ·have:k=f.length:=by omega
  subst this
  rw[List.take_length]
  (conv=>whnf);(repeat'((first|apply bT|apply bF|apply bN|((first|apply bD|apply bEq|apply bNe)<;>intro hh<;>try(exfalso;omega))|refine wJ ?_|refine nJ ?_)<;>conv=>whnf))
  all_goals rfl
theorem n45(m:Met)(f:List Int)(hf:f.length<=9223372036854775807):FnA Tryz.prog 38 [.agg m.av, .isl (f.map i1)] (· = .bool (rgtM m f)):=by
 have e1:=n42 f m.L hf
 refine fnA 1 ok38 (by simp) ?_
 (conv=>whnf);(repeat'((first|apply bT|apply bF|apply bN|((first|apply bD|apply bEq|apply bNe)<;>intro hh<;>try(exfalso;omega))|refine e1.cq rfl rfl ?_|refine wJ ?_|refine nJ ?_)<;>conv=>whnf))
 all_goals rfl
theorem n63(r:Ru)(f:List Int)(hf:f.length<=9223372036854775807)(hm:r.ms.length<=1000):FnA Tryz.prog 52 [.agg r.cells, .isl (f.map i1)] (· = .int .i64 (wrg r.ms f:Nat)):=by
 have hL:(r.ms.map Met.av).length=r.ms.length:=by simp
 refine fnA 1 ok52 (by simp) ?_
 (conv=>whnf);(repeat'((first|apply bT|apply bF|apply bN|((first|apply bD|apply bEq|apply bNe)<;>intro hh<;>try(exfalso;omega))|refine wJ ?_|refine nJ ?_)<;>conv=>whnf))
 refine loop_i (α :=Nat) (fun k=>[(6, .int .i64 k),(5, .int .i64 (((r.ms.take k).countP fun m => !rgtM m f:Nat):Int)),(2, .own 0 0),(1, .isl (f.map i1))]) (fun k=>[.box false r.cells]) (fun k=>k<=r.ms.length) (fun k=>r.ms.length-k) 0 mI (by omega) ?_
 intro k hk
 have hc:(r.ms.take k).countP (fun m => !rgtM m f)<=k:=Nat.le_trans List.countP_le_length (by simp;omega)
 conv=>whnf
 refine bD (fun h3=>?_) (fun h3=>?_)
 ·have hlt:k<r.ms.length:=by omega
  have g1:=gM r.ms k hlt
  have e:=cnt_suc (fun m => !rgtM m f) r.ms k hlt ⟨0,0⟩
  have e1:=n45 (r.ms.getD k ⟨0,0⟩) f hf
  cases h:rgtM (r.ms.getD k ⟨0,0⟩) f
  ·rw[if_pos (show(!rgtM (r.ms.getD k ⟨0,0⟩) f)=true by rw[h];rfl)]at e
   rw[h]at e1
   (conv=>whnf);(repeat'((first|apply bT|apply bF|apply bN|((first|apply bD|apply bEq|apply bNe)<;>intro hh<;>try(exfalso;omega))|refine iaJ g1 ?_|refine e1.cq rfl rfl ?_|refine wJ ?_|refine nJ ?_)<;>conv=>whnf))
   refine⟨k+1,?_,by omega,by omega⟩
   rw[e]
   simp only[Int.natCast_add,Int.natCast_one]
   exact mI
  ·rw[if_neg (show ¬(!rgtM (r.ms.getD k ⟨0,0⟩) f)=true by rw[h];simp)]at e
   rw[h]at e1
   (conv=>whnf);(repeat'((first|apply bT|apply bF|apply bN|((first|apply bD|apply bEq|apply bNe)<;>intro hh<;>try(exfalso;omega))|refine iaJ g1 ?_|refine e1.cq rfl rfl ?_|refine wJ ?_|refine nJ ?_)<;>conv=>whnf))
   refine⟨k+1,?_,by omega,by omega⟩
   rw[e]
   simp only[Int.natCast_add,Int.natCast_one]
   exact mI
 ·have:k=r.ms.length:=by omega
  subst this
  rw[List.take_length]
  (conv=>whnf);(repeat'((first|apply bT|apply bF|apply bN|((first|apply bD|apply bEq|apply bNe)<;>intro hh<;>try(exfalso;omega))|refine wJ ?_|refine nJ ?_)<;>conv=>whnf))
  all_goals rfl
def Ru.ok(r:Ru):Bool:=r.d.okB&&(decide (r.bs.length<=8)&&decide (r.ms.length<=5))&&decide (0<=r.w/\r.w<=5)&&(r.bs.all fun b=>decide (okBlw r.d.rs.length b))&&r.ms.all fun m=>decide (okMet m)
theorem rok_iff{r:Ru}:r.ok=true<->r.d.okB=true/\okBs r.d.rs.length r.bs/\r.ms.length<=5/\(0<=r.w/\r.w<=5)/\∀m∈r.ms,okMet m:=by
 unfold Ru.ok okBs
 simp only[Bool.and_eq_true,decide_eq_true_eq,List.all_eq_true]
 constructor
 ·rintro⟨⟨⟨⟨a,b,c⟩,d⟩,e⟩,f⟩;exact⟨a,⟨b,e⟩,c,d,f⟩
 ·rintro⟨a,⟨b,e⟩,c,d,f⟩;exact⟨⟨⟨⟨a,b,c⟩,d⟩,e⟩,f⟩
structure Sm(r:Ru):Prop where
 f:r.d.f.ss.length<=1000
 n:r.d.rs.length<=1000
 s:r.d.sh.length<=1000
 b:r.bs.length<=1000
 m:r.ms.length<=1000
theorem okB_lens{d:Dm}(h:d.okB=true):d.f.ss.length<=1000/\d.rs.length<=1000/\d.sh.length<=1000:=by
 have h':=okB_iff.1 h
 have:=h'.2.1;have:=h'.2.2.2.1
 have hf:=h'.1
 refine⟨?_,by omega,by omega⟩
 unfold Frm.ok at hf;omega
theorem rok_sm{r:Ru}(h:r.ok=true):Sm r:=by
 obtain⟨a,b,c,_,_⟩:=rok_iff.1 h
 have:=okB_lens a
 exact⟨this.1,this.2.1,this.2.2,by have:=b.1;omega,by omega⟩
theorem wid_pos{n:Nat}{b:Blw}(h:okBlw n b):1<=wid b/\wid b<=10:=by unfold okBlw at h;unfold wid;omega
theorem prd_pos{n:Nat}:∀ {bs:List Blw},(∀b∈bs,okBlw n b)->1<=prd bs:=by
 intro bs;induction bs with
 |nil=>intro _;simp[prd]
 |cons b bs ih=>
  intro h
  rw[prd_cons]
  exact Nat.mul_pos (wid_pos (h b (by simp))).1 (ih fun c hc=>h c (by simp[hc]))
noncomputable instance (bs:List Blw) (f:List Int):Decidable (isC bs f):=Classical.propDecidable _
theorem n70(r:Ru)(f:List Int)(hf:f.length<=9223372036854775807)(hb:r.bs.length<=1000):FnA Tryz.prog 71 [.agg r.cells, .isl (f.map i1)] (· = .bool (decide (isC r.bs f))):=by
 have hB:(r.bs.map Blw.av).length=r.bs.length:=by simp
 have hL:(f.map i1).length=f.length:=by simp
 refine fnA 1 ok71 (by simp) ?_
 (conv=>whnf);(repeat'((first|apply bT|apply bF|apply bN|((first|apply bD|apply bEq|apply bNe)<;>intro hh<;>try(exfalso;omega))|refine wJ ?_|refine nJ ?_)<;>conv=>whnf))
 refine loop_i (α :=Nat) (fun k=>[(5, .int .i64 k),(2, .own 0 0),(1, .isl (f.map i1))]) (fun k=>[.box false r.cells]) (fun k=>k<=f.length/\k<=r.bs.length/\∀i,i<k->(r.bs.getD i ⟨0,0,0⟩).lo<=f.getD i 0/\f.getD i 0<=(r.bs.getD i ⟨0,0,0⟩).hi) (fun k=>f.length-k) 0 mI ⟨by omega,by omega,fun i hi=>by omega⟩ ?_
 rintro k ⟨h1,h2,h3⟩
 conv=>whnf
 by_cases hk:k<f.length/\k<r.bs.length
 ·have g1:=gI f k hk.1
  have g2:=gB r.bs k hk.2
  have e1:=n61 (f.getD k 0) (r.bs.getD k ⟨0,0,0⟩).lo (r.bs.getD k ⟨0,0,0⟩).hi
  by_cases hin:(r.bs.getD k ⟨0,0,0⟩).lo<=f.getD k 0/\f.getD k 0<=(r.bs.getD k ⟨0,0,0⟩).hi
  ·rw[decide_eq_true hin]at e1
   (conv=>whnf);(repeat'((first|apply bT|apply bF|apply bN|((first|apply bD|apply bEq|apply bNe)<;>intro hh<;>try(exfalso;omega))|refine iaJ g1 ?_|refine iaJ g2 ?_|refine e1.cq rfl rfl ?_|refine wJ ?_|refine nJ ?_)<;>conv=>whnf))
   refine⟨k+1,mI,⟨by omega,by omega,fun i hi=>?_⟩,by omega⟩
   by_cases e:i=k
   ·subst e;exact hin
   ·exact h3 i (by omega)
  ·rw[decide_eq_false hin]at e1
   (conv=>whnf);(repeat'((first|apply bT|apply bF|apply bN|((first|apply bD|apply bEq|apply bNe)<;>intro hh<;>try(exfalso;omega))|refine iaJ g1 ?_|refine iaJ g2 ?_|refine e1.cq rfl rfl ?_|refine wJ ?_|refine nJ ?_)<;>conv=>whnf))
   exact congrArg AV.bool (decide_eq_false fun hc=>hin ((isC_iff.1 hc).2 k hk.2)).symm
 ·have fin:(decide (((f.map i1).length:Int)=((r.bs.map Blw.av).length:Int)))=decide (isC r.bs f):=by
   refine decide_eq_decide.2 ?_
   rw[isC_iff]
   constructor
   ·intro h;exact⟨by omega,fun i hi=>h3 i (by omega)⟩
   ·rintro⟨h,_⟩;omega
  (conv=>whnf);(repeat'((first|apply bT|apply bF|apply bN|((first|apply bD|apply bEq|apply bNe)<;>intro hh<;>try(exfalso;omega))|refine wJ ?_|refine nJ ?_)<;>conv=>whnf))
  all_goals exact congrArg AV.bool fin
def Ru.trs(r:Ru):List (List Int):=Go.Proofs.trs r.bs r.ms r.w
theorem n37(r:Ru)(f:List Int)(hf:f.length<=9223372036854775807)(hb:r.bs.length<=1000)(hm:r.ms.length<=1000):FnA Tryz.prog 30 [.agg r.cells, .isl (f.map i1)] (· = .bool (decide (f∈r.trs))):=by
 have e1:=n70 r f hf hb
 have e2:=n63 r f hf hm
 have hM:f∈r.trs<->isC r.bs f/\(wrg r.ms f:Int)<=r.w:=mem_trs
 refine fnA 1 ok30 (by simp) ?_
 by_cases h:isC r.bs f
 ·rw[decide_eq_true h]at e1
  (conv=>whnf);(repeat'((first|apply bT|apply bF|apply bN|((first|apply bD|apply bEq|apply bNe)<;>intro hh<;>try(exfalso;omega))|refine e1.cq rfl rfl ?_|refine e2.cq rfl rfl ?_|refine wJ ?_|refine nJ ?_)<;>conv=>whnf))
  exact congrArg AV.bool (decide_eq_decide.2 ⟨fun h2=>hM.2 ⟨h,h2⟩,fun h2=>(hM.1 h2).2⟩)
 ·rw[decide_eq_false h]at e1
  (conv=>whnf);(repeat'((first|apply bT|apply bF|apply bN|((first|apply bD|apply bEq|apply bNe)<;>intro hh<;>try(exfalso;omega))|refine e1.cq rfl rfl ?_|refine e2.cq rfl rfl ?_|refine wJ ?_|refine nJ ?_)<;>conv=>whnf))
  exact congrArg AV.bool (decide_eq_false fun h2=>h (hM.1 h2).1).symm
theorem rok_false{r:Ru}(h:¬(r.d.okB=true/\r.bs.length<=8/\r.ms.length<=5/\0<=r.w/\r.w<=5)):r.ok=false:=by
 rw[Bool.eq_false_iff];intro h2
 obtain⟨a,b,c,d,_⟩:=rok_iff.1 h2
 exact h ⟨a,b.1,c,d.1,d.2⟩
theorem rok_blw{r:Ru}{k:Nat}(hk:k<r.bs.length)(h:¬okBlw r.d.rs.length (r.bs.getD k ⟨0,0,0⟩)):r.ok=false:=by
 rw[Bool.eq_false_iff];intro h2
 refine h ((rok_iff.1 h2).2.1.2 _ ?_)
 simp[List.getD_eq_getElem?_getD,hk]
theorem rok_met{r:Ru}{k:Nat}(hk:k<r.ms.length)(h:¬okMet (r.ms.getD k ⟨0,0⟩)):r.ok=false:=by
 rw[Bool.eq_false_iff];intro h2
 refine h ((rok_iff.1 h2).2.2.2.2 _ ?_)
 simp[List.getD_eq_getElem?_getD,hk]
def Ru.chk(r:Ru):Int:=if r.ok=true then 0 else 130
theorem chk_bad{r:Ru}(h:r.ok=false):(130:Int)=r.chk:=by rw[Ru.chk,h];rfl
theorem n18(r:Ru)(h:Sm r):FnA Tryz.prog 11 [.agg r.cells] (· = .int .i64 r.chk):=by
 have hB:(r.bs.map Blw.av).length=r.bs.length:=by simp
 have hM:(r.ms.map Met.av).length=r.ms.length:=by simp
 have hb:=h.b;have hm:=h.m
 have e0:=g29 r.d h.f h.n h.s
 have ew:=n61 r.w 0 5
 by_cases hg:r.d.okB=true/\r.bs.length<=8/\r.ms.length<=5/\0<=r.w/\r.w<=5
 case neg=>
  have hz:=chk_bad (rok_false hg)
  rw[<- hz]
  by_cases hd:r.d.okB=true
  ·have:r.d.err=0:=by unfold Dm.err;rw[if_pos hd]
   rw[this]at e0
   refine fnA 2 ok11 (by simp) ?_
   by_cases h1:r.bs.length<=8/\r.ms.length<=5
   ·rw[decide_eq_false (show ¬(0<=r.w/\r.w<=5) from fun h2=>hg ⟨hd,h1.1,h1.2,h2⟩)]at ew
    (conv=>whnf);(repeat'((first|apply bT|apply bF|apply bN|((first|apply bD|apply bEq|apply bNe)<;>intro hh<;>try(exfalso;omega))|refine e0.cq rfl rfl ?_|refine ew.cq rfl rfl ?_|refine wJ ?_|refine nJ ?_)<;>conv=>whnf))
    all_goals rfl
   ·by_cases h2:r.bs.length<=8
    ·have h3:¬r.ms.length<=5:=fun h3=>h1 ⟨h2,h3⟩
     (conv=>whnf);(repeat'((first|apply bT|apply bF|apply bN|((first|apply bD|apply bEq|apply bNe)<;>intro hh<;>try(exfalso;omega))|refine e0.cq rfl rfl ?_|refine ew.cq rfl rfl ?_|refine wJ ?_|refine nJ ?_)<;>conv=>whnf))
     all_goals rfl
    ·(conv=>whnf);(repeat'((first|apply bT|apply bF|apply bN|((first|apply bD|apply bEq|apply bNe)<;>intro hh<;>try(exfalso;omega))|refine e0.cq rfl rfl ?_|refine ew.cq rfl rfl ?_|refine wJ ?_|refine nJ ?_)<;>conv=>whnf))
     all_goals rfl
  ·have:r.d.err=50:=by unfold Dm.err;rw[if_neg hd]
   rw[this]at e0
   refine fnA 2 ok11 (by simp) ?_
   (conv=>whnf);(repeat'((first|apply bT|apply bF|apply bN|((first|apply bD|apply bEq|apply bNe)<;>intro hh<;>try(exfalso;omega))|refine e0.cq rfl rfl ?_|refine wJ ?_|refine nJ ?_)<;>conv=>whnf))
   all_goals rfl
 obtain⟨hd,h1,h2,h3⟩:=hg
 have:r.d.err=0:=by unfold Dm.err;rw[if_pos hd]
 rw[this]at e0
 rw[decide_eq_true h3]at ew
 refine fnA 2 ok11 (by simp) ?_
 (conv=>whnf);(repeat'((first|apply bT|apply bF|apply bN|((first|apply bD|apply bEq|apply bNe)<;>intro hh<;>try(exfalso;omega))|refine e0.cq rfl rfl ?_|refine ew.cq rfl rfl ?_|refine wJ ?_|refine nJ ?_)<;>conv=>whnf))
 refine loop_i (α :=Nat) (fun k=>[(3, .int .i64 k),(1, .own 0 0)]) (fun k=>[.box false r.cells, .fresh]) (fun k=>k<=r.bs.length/\∀b∈r.bs.take k,okBlw r.d.rs.length b) (fun k=>r.bs.length-k) 0 mI ⟨by omega,by simp⟩ ?_
 rintro k ⟨hk,ha⟩
 conv=>whnf
 refine bD (fun h4=>?_) (fun h4=>?_)
 ·have hlt:k<r.bs.length:=by omega
  have g1:=gB r.bs k hlt
  have c1:=g23 r.d (r.bs.getD k ⟨0,0,0⟩).a h.n
  have c2:=n61 (r.bs.getD k ⟨0,0,0⟩).lo 0 (r.bs.getD k ⟨0,0,0⟩).hi
  by_cases hok:okBlw r.d.rs.length (r.bs.getD k ⟨0,0,0⟩)
  ·have hok':=hok
   unfold okBlw at hok'
   rw[decide_eq_true hok'.1]at c1
   rw[decide_eq_true hok'.2.1]at c2
   (conv=>whnf);(repeat'((first|apply bT|apply bF|apply bN|((first|apply bD|apply bEq|apply bNe)<;>intro hh<;>try(exfalso;omega))|refine iaJ g1 ?_|refine c1.cq rfl rfl ?_|refine c2.cq rfl rfl ?_|refine wJ ?_|refine nJ ?_)<;>conv=>whnf))
   refine⟨k+1,mI,⟨by omega,?_⟩,by omega⟩
   intro b hb'
   rw[List.take_succ_eq_append_getElem hlt]at hb'
   rcases List.mem_append.1 hb' with hb'|hb'
   ·exact ha b hb'
   ·rw[List.mem_singleton.1 hb']
    rwa [List.getD_eq_getElem?_getD,List.getElem?_eq_getElem hlt]at hok
  ·have hz:=chk_bad (rok_blw hlt hok)
   rw[<- hz]
   unfold okBlw at hok
   by_cases q1:0<=(r.bs.getD k ⟨0,0,0⟩).a/\(r.bs.getD k ⟨0,0,0⟩).a<r.d.rs.length
   ·rw[decide_eq_true q1]at c1
    by_cases q2:0<=(r.bs.getD k ⟨0,0,0⟩).lo/\(r.bs.getD k ⟨0,0,0⟩).lo<=(r.bs.getD k ⟨0,0,0⟩).hi
    ·rw[decide_eq_true q2]at c2
     by_cases q3:(r.bs.getD k ⟨0,0,0⟩).hi<=99
     ·(conv=>whnf);(repeat'((first|apply bT|apply bF|apply bN|((first|apply bD|apply bEq|apply bNe)<;>intro hh<;>try(exfalso;omega))|refine iaJ g1 ?_|refine c1.cq rfl rfl ?_|refine c2.cq rfl rfl ?_|refine wJ ?_|refine nJ ?_)<;>conv=>whnf))
      all_goals rfl
     ·(conv=>whnf);(repeat'((first|apply bT|apply bF|apply bN|((first|apply bD|apply bEq|apply bNe)<;>intro hh<;>try(exfalso;omega))|refine iaJ g1 ?_|refine c1.cq rfl rfl ?_|refine c2.cq rfl rfl ?_|refine wJ ?_|refine nJ ?_)<;>conv=>whnf))
      all_goals rfl
    ·rw[decide_eq_false q2]at c2
     (conv=>whnf);(repeat'((first|apply bT|apply bF|apply bN|((first|apply bD|apply bEq|apply bNe)<;>intro hh<;>try(exfalso;omega))|refine iaJ g1 ?_|refine c1.cq rfl rfl ?_|refine c2.cq rfl rfl ?_|refine wJ ?_|refine nJ ?_)<;>conv=>whnf))
     all_goals rfl
   ·rw[decide_eq_false q1]at c1
    (conv=>whnf);(repeat'((first|apply bT|apply bF|apply bN|((first|apply bD|apply bEq|apply bNe)<;>intro hh<;>try(exfalso;omega))|refine iaJ g1 ?_|refine c1.cq rfl rfl ?_|refine c2.cq rfl rfl ?_|refine wJ ?_|refine nJ ?_)<;>conv=>whnf))
    all_goals rfl
 ·have:k=r.bs.length:=by omega
  subst this
  rw[List.take_length]at ha
  conv=>whnf
  refine loop_i (α :=Nat) (fun k=>[(5, .int .i64 k),(1, .own 0 0)]) (fun k=>[.box false r.cells, .fresh]) (fun k=>k<=r.ms.length/\∀m∈r.ms.take k,okMet m) (fun k=>r.ms.length-k) 0 mI ⟨by omega,by simp⟩ ?_
  rintro k ⟨hk,hb2⟩
  conv=>whnf
  refine bD (fun h5=>?_) (fun h5=>?_)
  ·have hlt:k<r.ms.length:=by omega
   have g1:=gM r.ms k hlt
   have c1:=n61 (r.ms.getD k ⟨0,0⟩).L 0 99
   have c2:=n61 (r.ms.getD k ⟨0,0⟩).c 0 8
   by_cases hok:okMet (r.ms.getD k ⟨0,0⟩)
   ·have hok':=hok
    unfold okMet at hok'
    rw[decide_eq_true hok'.1]at c1
    rw[decide_eq_true hok'.2]at c2
    (conv=>whnf);(repeat'((first|apply bT|apply bF|apply bN|((first|apply bD|apply bEq|apply bNe)<;>intro hh<;>try(exfalso;omega))|refine iaJ g1 ?_|refine c1.cq rfl rfl ?_|refine c2.cq rfl rfl ?_|refine wJ ?_|refine nJ ?_)<;>conv=>whnf))
    refine⟨k+1,mI,⟨by omega,?_⟩,by omega⟩
    intro b hb'
    rw[List.take_succ_eq_append_getElem hlt]at hb'
    rcases List.mem_append.1 hb' with hb'|hb'
    ·exact hb2 b hb'
    ·rw[List.mem_singleton.1 hb']
     rwa [List.getD_eq_getElem?_getD,List.getElem?_eq_getElem hlt]at hok
   ·have hz:=chk_bad (rok_met hlt hok)
    rw[<- hz]
    unfold okMet at hok
    by_cases q1:0<=(r.ms.getD k ⟨0,0⟩).L/\(r.ms.getD k ⟨0,0⟩).L<=99
    ·rw[decide_eq_true q1]at c1
     rw[decide_eq_false (show ¬(0<=(r.ms.getD k ⟨0,0⟩).c/\(r.ms.getD k ⟨0,0⟩).c<=8) from fun q=>hok ⟨q1,q⟩)]at c2
     (conv=>whnf);(repeat'((first|apply bT|apply bF|apply bN|((first|apply bD|apply bEq|apply bNe)<;>intro hh<;>try(exfalso;omega))|refine iaJ g1 ?_|refine c1.cq rfl rfl ?_|refine c2.cq rfl rfl ?_|refine wJ ?_|refine nJ ?_)<;>conv=>whnf))
     all_goals rfl
    ·rw[decide_eq_false q1]at c1
     (conv=>whnf);(repeat'((first|apply bT|apply bF|apply bN|((first|apply bD|apply bEq|apply bNe)<;>intro hh<;>try(exfalso;omega))|refine iaJ g1 ?_|refine c1.cq rfl rfl ?_|refine c2.cq rfl rfl ?_|refine wJ ?_|refine nJ ?_)<;>conv=>whnf))
     all_goals rfl
  ·have:k=r.ms.length:=by omega
   subst this
   rw[List.take_length]at hb2
   have hok:r.ok=true:=rok_iff.2 ⟨hd,⟨h1,ha⟩,h2,h3,hb2⟩
   have hz:(0:Int)=r.chk:=by rw[Ru.chk,if_pos hok]
   rw[<- hz]
   (conv=>whnf);(repeat'((first|apply bT|apply bF|apply bN|((first|apply bD|apply bEq|apply bNe)<;>intro hh<;>try(exfalso;omega))|refine wJ ?_|refine nJ ?_)<;>conv=>whnf))
   all_goals rfl
def Ru.err(r:Ru)(b:Bool):Int:=if r.ok=true then(if b=true then(if r.trs=[] then 3 else 0) else 1) else 130
def Ru.kn(r:Ru)(b:Bool):List (List Int):=if r.err b=0 then r.trs else []
def Few(r:Ru):Prop:=r.ok=true->prd r.bs<=600
theorem err_zero{r:Ru}{b:Bool}:r.err b=0<->r.ok=true/\b=true/\r.trs≠[]:=by
 unfold Ru.err
 by_cases h:r.ok=true
 ·rw[if_pos h]
  by_cases hb:b=true
  ·rw[if_pos hb]
   by_cases ht:r.trs=[]
   ·rw[if_pos ht];simp[ht]
   ·rw[if_neg ht];simp[h,hb,ht]
  ·rw[if_neg hb];simp[hb]
 ·rw[if_neg h];simp[h]
theorem trs_len{r:Ru}(h:Few r)(hok:r.ok=true):r.trs.length<=600:=Nat.le_trans (trs_le _ _ _) (h hok)
def Ru.sv(r:Ru)(i:Nat)(x:Int):Int:=r.d.st [⟨x,(r.bs.getD i ⟨0,0,0⟩).a⟩]
def Ru.row(r:Ru)(i k:Nat):List Int:=(List.range k).map fun(j:Nat)=>r.sv i ((r.bs.getD i ⟨0,0,0⟩).lo+(j:Int))
def Ru.loN(r:Ru)(f:List Int)(n:Nat):Nat:=(List.range n).countP fun i=>decide (r.sv i (f.getD i 0)=2)
def Ru.hiN(r:Ru)(f:List Int)(n:Nat):Nat:=(List.range n).countP fun i=>decide (r.sv i (f.getD i 0)≠1)
theorem cntr_suc(p:Nat->Bool)(n:Nat):(List.range (n+1)).countP p=(List.range n).countP p+if p n=true then 1 else 0:=by
 rw[List.range_succ,List.countP_append,List.countP_singleton]
theorem loN_suc(r:Ru)(f:List Int)(n:Nat):r.loN f (n+1)=r.loN f n+if r.sv n (f.getD n 0)=2 then 1 else 0:=by
 unfold Ru.loN;rw[cntr_suc];simp only[decide_eq_true_eq]
theorem hiN_suc(r:Ru)(f:List Int)(n:Nat):r.hiN f (n+1)=r.hiN f n+if r.sv n (f.getD n 0)≠1 then 1 else 0:=by
 unfold Ru.hiN;rw[cntr_suc];simp only[decide_eq_true_eq]
theorem lo_le_hi(r:Ru)(f:List Int):∀n,r.loN f n<=r.hiN f n/\r.hiN f n<=n:=by
 intro n;induction n with
 |zero=>exact⟨Nat.le_refl _,Nat.le_refl _⟩
 |succ n ih=>
  rw[loN_suc,hiN_suc]
  split<;>split<;>omega
def Ru.loL(r:Ru)(l:List (List Int)):List Int:=l.map fun f=>(r.loN f r.bs.length:Nat)
def Ru.hiL(r:Ru)(l:List (List Int)):List Int:=l.map fun f=>(r.hiN f r.bs.length:Nat)
def Ru.hrm(r:Ru)(l:List (List Int)):Int × Int:=((spL (r.loL l)).1,(spL (r.hiL l)).2)
def spS(s:Int × Int)(e:Int):AV:=.tup [.agg [.int .i64 s.1, .int .i64 s.2], .int .i64 e]
def Ru.std(r:Ru):Int:=if (r.hrm r.trs).2=0 then 1 else if 0<(r.hrm r.trs).1 then 2 else 3
theorem gE{α : Type}(l:List α)(z : α)(i:Nat)(h:i<l.length):l.getD i z=l[i]:=by rw[List.getD_eq_getElem?_getD,List.getElem?_eq_getElem h];rfl
theorem n29(a b:List Int)(ha:a.length<=1000000)(hb:b.length<=1000000):FnA Tryz.prog 22 [.isl (a.map i1), .isl (b.map i1)] (· = .bool (decide (a=b))):=by
 have l1:(a.map i1).length=a.length:=by simp
 have l2:(b.map i1).length=b.length:=by simp
 refine fnA 0 ok22 (by simp) ?_
 by_cases h:a.length=b.length
 ·(conv=>whnf);(repeat'((first|apply bT|apply bF|apply bN|((first|apply bD|apply bEq|apply bNe)<;>intro hh<;>try(exfalso;omega))|refine wJ ?_|refine nJ ?_)<;>conv=>whnf))
  refine loop_i (α :=Nat) (fun k=>[(5, .int .i64 k),(1, .isl (b.map i1)),(0, .isl (a.map i1))]) (fun k=>[]) (fun k=>k<=a.length/\∀i,i<k->a.getD i 0=b.getD i 0) (fun k=>a.length-k) 0 mI ⟨by simp,fun i h=>by omega⟩ ?_
  rintro k ⟨h1,h2⟩
  conv=>whnf
  refine bD (fun h3=>?_) (fun h3=>?_)
  ·have hk:k<a.length:=by omega
   have g1:=gI a k hk
   have g2:=gI b k (by omega)
   by_cases hx:a.getD k 0=b.getD k 0
   ·(conv=>whnf);(repeat'((first|apply bT|apply bF|apply bN|((first|apply bD|apply bEq|apply bNe)<;>intro hh<;>try(exfalso;omega))|refine iaJ g1 ?_|refine iaJ g2 ?_|refine wJ ?_|refine nJ ?_)<;>conv=>whnf))
    exact⟨k+1,mI,⟨by omega,fun i hi=>by
     by_cases e:i=k
     ·subst e;exact hx
     ·exact h2 i (by omega)⟩,by omega⟩
   ·rw[decide_eq_false (fun e=>hx (by rw[e]))]
    (conv=>whnf);(repeat'((first|apply bT|apply bF|apply bN|((first|apply bD|apply bEq|apply bNe)<;>intro hh<;>try(exfalso;omega))|refine iaJ g1 ?_|refine iaJ g2 ?_|refine wJ ?_|refine nJ ?_)<;>conv=>whnf))
    all_goals rfl
  ·rw[decide_eq_true (List.ext_getElem h fun i h4 h5=>by
    have:=h2 i (by omega)
    simpa[List.getD_eq_getElem?_getD,h4,h5]using this)]
   (conv=>whnf);(repeat'((first|apply bT|apply bF|apply bN|((first|apply bD|apply bEq|apply bNe)<;>intro hh<;>try(exfalso;omega))|refine wJ ?_|refine nJ ?_)<;>conv=>whnf))
   all_goals rfl
 ·rw[decide_eq_false (fun e=>h (by rw[e]))]
  (conv=>whnf);(repeat'((first|apply bT|apply bF|apply bN|((first|apply bD|apply bEq|apply bNe)<;>intro hh<;>try(exfalso;omega))|refine wJ ?_|refine nJ ?_)<;>conv=>whnf))
  all_goals rfl
theorem n44(l:List Int)(x:Int)(hl:l.length<=1000000):FnA Tryz.prog 37 [.isl (l.map i1), .int .i64 x] (· = .bool (decide (x∈l))):=by
 have hL:(l.map i1).length=l.length:=by simp
 refine fnA 0 ok37 (by simp) ?_
 (conv=>whnf);(repeat'((first|apply bT|apply bF|apply bN|((first|apply bD|apply bEq|apply bNe)<;>intro hh<;>try(exfalso;omega))|refine wJ ?_|refine nJ ?_)<;>conv=>whnf))
 refine loop_i (α :=Nat) (fun k=>[(5, .int .i64 k),(1, .int .i64 x),(0, .isl (l.map i1))]) (fun k=>[]) (fun k=>k<=l.length/\x∉l.take k) (fun k=>l.length-k) 0 mI ⟨by simp,by simp⟩ ?_
 rintro k ⟨h1,h2⟩
 conv=>whnf
 refine bD (fun h3=>?_) (fun h3=>?_)
 ·have hk:k<l.length:=by omega
  have g1:=gI l k hk
  have e:=gE l 0 k hk
  by_cases hx:l.getD k 0=x
  ·rw[decide_eq_true (by rw[<- hx,e];exact List.getElem_mem hk)]
   (conv=>whnf);(repeat'((first|apply bT|apply bF|apply bN|((first|apply bD|apply bEq|apply bNe)<;>intro hh<;>try(exfalso;omega))|refine iaJ g1 ?_|refine wJ ?_|refine nJ ?_)<;>conv=>whnf))
   all_goals rfl
  ·(conv=>whnf);(repeat'((first|apply bT|apply bF|apply bN|((first|apply bD|apply bEq|apply bNe)<;>intro hh<;>try(exfalso;omega))|refine iaJ g1 ?_|refine wJ ?_|refine nJ ?_)<;>conv=>whnf))
   exact⟨k+1,mI,⟨by omega,by
    rw[List.take_succ_eq_append_getElem hk,List.mem_append,List.mem_singleton,<- e]
    exact fun h=>h.elim h2 fun h=>hx h.symm⟩,by omega⟩
 ·have:k=l.length:=by omega
  subst this
  rw[List.take_length]at h2
  rw[decide_eq_false h2]
  (conv=>whnf);(repeat'((first|apply bT|apply bF|apply bN|((first|apply bD|apply bEq|apply bNe)<;>intro hh<;>try(exfalso;omega))|refine wJ ?_|refine nJ ?_)<;>conv=>whnf))
  all_goals rfl
def agr(n:Int)(b:Bool):Bool:=if n=1 then b else if n=2 then !b else decide (n=3)
theorem n43(n:Int)(b:Bool):FnA Tryz.prog 36 [.int .i64 n, .bool b] (· = .bool (agr n b)):=by
 unfold agr
 by_cases h:n=1
 ·rw[if_pos h]
  refine fnA 0 ok36 (by simp) ?_
  (conv=>whnf);(repeat'((first|apply bT|apply bF|apply bN|((first|apply bD|apply bEq|apply bNe)<;>intro hh<;>try(exfalso;omega))|refine wJ ?_|refine nJ ?_)<;>conv=>whnf))
  all_goals rfl
 ·rw[if_neg h]
  by_cases h2:n=2
  ·rw[if_pos h2]
   refine fnA 0 ok36 (by simp) ?_
   (conv=>whnf);(repeat'((first|apply bT|apply bF|apply bN|((first|apply bD|apply bEq|apply bNe)<;>intro hh<;>try(exfalso;omega))|refine wJ ?_|refine nJ ?_)<;>conv=>whnf))
   all_goals rfl
  ·rw[if_neg h2]
   refine fnA 0 ok36 (by simp) ?_
   (conv=>whnf);(repeat'((first|apply bT|apply bF|apply bN|((first|apply bD|apply bEq|apply bNe)<;>intro hh<;>try(exfalso;omega))|refine wJ ?_|refine nJ ?_)<;>conv=>whnf))
   all_goals rfl
def Ru.farB(r:Ru):Bool:=decide r.d.far||decide (40<r.bs.length\/40<r.ms.length)||(r.ok&&decide (600<prd r.bs))
theorem prd_take{bs:List Blw}{k:Nat}(hk:k<bs.length):prd (bs.take (k+1))=prd (bs.take k)*wid (bs.getD k ⟨0,0,0⟩):=by
 rw[List.take_succ_eq_append_getElem hk,gE bs _ k hk]
 unfold prd;rw[List.foldl_append];rfl
theorem prd_take_le{n:Nat}{bs:List Blw}(h:∀b∈bs,okBlw n b)(k:Nat):prd (bs.take k)<=prd bs:=by
 have e:prd bs=prd (bs.take k)*prd (bs.drop k):=by
  conv=>lhs;rw[<- List.take_append_drop k bs]
  unfold prd;rw[List.foldl_append];exact prd_mul _ _
 rw[e]
 exact Nat.le_mul_of_pos_right _ (prd_pos fun b hb=>h b (List.mem_of_mem_drop hb))
theorem far_sm{r:Ru}(h:r.farB=false):Sm r/\Few r/\r.bs.length<=40/\r.ms.length<=40:=by
 unfold Ru.farB at h
 simp only[Bool.or_eq_false_iff,decide_eq_false_iff_not]at h
 obtain⟨⟨h1,h2⟩,h3⟩:=h
 unfold Dm.far at h1
 refine⟨⟨by omega,by omega,by omega,by omega,by omega⟩,fun ho=>?_,by omega,by omega⟩
 rw[ho,Bool.true_and,decide_eq_false_iff_not]at h3;omega
theorem n14(r:Ru):FnA Tryz.prog 7 [.agg r.cells] (· = .bool r.farB):=by
 have hB:(r.bs.map Blw.av).length=r.bs.length:=by simp
 have hM:(r.ms.map Met.av).length=r.ms.length:=by simp
 have e1:=g28 r.d
 unfold Ru.farB
 by_cases hd:r.d.far
 ·rw[decide_eq_true hd]at e1⊢
  refine fnA 1 ok7 (by simp) ?_
  (conv=>whnf);(repeat'((first|apply bT|apply bF|apply bN|((first|apply bD|apply bEq|apply bNe)<;>intro hh<;>try(exfalso;omega))|refine e1.cq rfl rfl ?_|refine wJ ?_|refine nJ ?_)<;>conv=>whnf))
  all_goals rfl
 rw[decide_eq_false hd]at e1⊢
 by_cases h2:40<r.bs.length\/40<r.ms.length
 ·rw[decide_eq_true h2]
  refine fnA 1 ok7 (by simp) ?_
  by_cases h3:40<r.bs.length
  ·(conv=>whnf);(repeat'((first|apply bT|apply bF|apply bN|((first|apply bD|apply bEq|apply bNe)<;>intro hh<;>try(exfalso;omega))|refine e1.cq rfl rfl ?_|refine wJ ?_|refine nJ ?_)<;>conv=>whnf))
   all_goals rfl
  ·have:40<r.ms.length:=h2.resolve_left h3
   (conv=>whnf);(repeat'((first|apply bT|apply bF|apply bN|((first|apply bD|apply bEq|apply bNe)<;>intro hh<;>try(exfalso;omega))|refine e1.cq rfl rfl ?_|refine wJ ?_|refine nJ ?_)<;>conv=>whnf))
   all_goals rfl
 rw[decide_eq_false h2]
 unfold Dm.far at hd
 have sm:Sm r:=⟨by omega,by omega,by omega,by omega,by omega⟩
 have e2:=n18 r sm
 by_cases ho:r.ok=true
 case neg=>
  have:r.chk=130:=by rw[Ru.chk,if_neg ho]
  rw[this]at e2
  have:r.ok=false:=by simpa using ho
  rw[this]
  refine fnA 1 ok7 (by simp) ?_
  (conv=>whnf);(repeat'((first|apply bT|apply bF|apply bN|((first|apply bD|apply bEq|apply bNe)<;>intro hh<;>try(exfalso;omega))|refine e1.cq rfl rfl ?_|refine e2.cq rfl rfl ?_|refine wJ ?_|refine nJ ?_)<;>conv=>whnf))
  all_goals rfl
 have:r.chk=0:=by rw[Ru.chk,if_pos ho]
 rw[this]at e2
 rw[ho]
 have hk:=(rok_iff.1 ho).2.1
 refine fnA 1 ok7 (by simp) ?_
 (conv=>whnf);(repeat'((first|apply bT|apply bF|apply bN|((first|apply bD|apply bEq|apply bNe)<;>intro hh<;>try(exfalso;omega))|refine e1.cq rfl rfl ?_|refine e2.cq rfl rfl ?_|refine wJ ?_|refine nJ ?_)<;>conv=>whnf))
 refine loop_i (α :=Nat) (fun k=>[(4, .int .i64 k),(3, .int .i64 (prd (r.bs.take k):Nat)),(1, .own 0 0)]) (fun k=>[.box false r.cells]) (fun k=>k<=r.bs.length/\prd (r.bs.take k)<=600) (fun k=>r.bs.length-k) 0 mI ⟨by omega,by simp[prd]⟩ ?_
 rintro k ⟨hk',hp⟩
 conv=>whnf
 refine bD (fun h3=>?_) (fun h3=>?_)
 ·have hlt:k<r.bs.length:=by omega
  have g1:=gB r.bs k hlt
  have hm:r.bs.getD k ⟨0,0,0⟩∈r.bs:=by simp[List.getD_eq_getElem?_getD,hlt]
  have hb:=hk.2 _ hm
  have hw:=wid_pos hb
  have ek:=prd_take hlt
  have hle:=prd_take_le hk.2 (k+1)
  have e0:(r.bs.getD k ⟨0,0,0⟩).hi-(r.bs.getD k ⟨0,0,0⟩).lo+1=(wid (r.bs.getD k ⟨0,0,0⟩):Nat):=by unfold okBlw at hb;unfold wid;omega
  generalize r.bs.getD k ⟨0,0,0⟩=b at *
  unfold okBlw at hb
  generalize wid b=W at *
  generalize prd (r.bs.take k)=p at *
  have ec:((p:Int)*(b.hi-b.lo+1))=((p*W:Nat):Int):=by rw[e0];omega
  have hpw:p*W<=600*10:=Nat.mul_le_mul hp hw.2
  have w1 : -9223372036854775808<=(p:Int)*(b.hi-b.lo+1)/\(p:Int)*(b.hi-b.lo+1)<=9223372036854775807:=by rw[ec];omega
  have w2:(600<(p:Int)*(b.hi-b.lo+1))<->600<p*W:=by rw[ec];omega
  by_cases hbig:600<p*W
  ·rw[decide_eq_true (show 600<prd r.bs by omega)]
   have hgt:=w2.2 hbig
   (conv=>whnf);(repeat'((first|apply bT|apply bF|apply bN|((first|apply bD|apply bEq|apply bNe)<;>intro hh<;>try(exfalso;omega))|refine iaJ g1 ?_|refine wIn w1 ?_|refine wJ ?_|refine nJ ?_)<;>conv=>whnf))
   all_goals rfl
  ·have hgt:¬(600<(p:Int)*(b.hi-b.lo+1)):=fun h=>hbig (w2.1 h)
   (conv=>whnf);(repeat'((first|apply bT|apply bF|apply bN|((first|apply bD|apply bEq|apply bNe)<;>intro hh<;>try(exfalso;omega))|refine iaJ g1 ?_|refine wIn w1 ?_|refine wJ ?_|refine nJ ?_)<;>conv=>whnf))
   refine⟨k+1,?_,⟨by omega,by omega⟩,by omega⟩
   rw[ek,<- ec]
   exact mI
 ·have:k=r.bs.length:=by omega
  subst this
  rw[List.take_length]at hp
  rw[decide_eq_false (show ¬ 600<prd r.bs by omega)]
  (conv=>whnf);(repeat'((first|apply bT|apply bF|apply bN|((first|apply bD|apply bEq|apply bNe)<;>intro hh<;>try(exfalso;omega))|refine wJ ?_|refine nJ ?_)<;>conv=>whnf))
  all_goals rfl
def Ru.rdy(r:Ru):Bool := !r.farB&&r.ok
theorem rdy_of{r:Ru}(h:r.rdy=true):r.ok=true/\Sm r/\Few r/\prd r.bs<=600:=by
 unfold Ru.rdy at h
 rw[Bool.and_eq_true]at h
 obtain⟨h1,h2⟩:=h
 obtain⟨a,b,_⟩:=far_sm (r:=r) (by simpa using h1)
 exact⟨h2,a,b,b h2⟩
theorem n38(r:Ru):FnA Tryz.prog 31 [.agg r.cells] (· = .bool r.rdy):=by
 have e1:=n14 r
 unfold Ru.rdy
 cases hf:r.farB<;>rw[hf]at e1
 ·have e2:=n18 r (far_sm hf).1
  by_cases ho:r.ok=true
  ·rw[Ru.chk,if_pos ho]at e2
   rw[ho]
   refine fnA 1 ok31 (by simp) ?_
   (conv=>whnf);(repeat'((first|apply bT|apply bF|apply bN|((first|apply bD|apply bEq|apply bNe)<;>intro hh<;>try(exfalso;omega))|refine e1.cq rfl rfl ?_|refine e2.cq rfl rfl ?_|refine wJ ?_|refine nJ ?_)<;>conv=>whnf))
   all_goals rfl
  ·rw[Ru.chk,if_neg ho]at e2
   have:r.ok=false:=by simpa using ho
   rw[this]
   refine fnA 1 ok31 (by simp) ?_
   (conv=>whnf);(repeat'((first|apply bT|apply bF|apply bN|((first|apply bD|apply bEq|apply bNe)<;>intro hh<;>try(exfalso;omega))|refine e1.cq rfl rfl ?_|refine e2.cq rfl rfl ?_|refine wJ ?_|refine nJ ?_)<;>conv=>whnf))
   all_goals rfl
 ·refine fnA 1 ok31 (by simp) ?_
  (conv=>whnf);(repeat'((first|apply bT|apply bF|apply bN|((first|apply bD|apply bEq|apply bNe)<;>intro hh<;>try(exfalso;omega))|refine e1.cq rfl rfl ?_|refine wJ ?_|refine nJ ?_)<;>conv=>whnf))
  all_goals rfl
structure Prg:Prop where
 check:∀r,Sm r->Few r->FnA Tryz.prog 10 [.agg r.cells] (· = .int .i64 r.chk)
 few:∀r,Sm r->Few r->FnA Tryz.prog 12 [.agg r.cells] (· = .tup [.int .i64 (if r.ok=true then Go.Proofs.few r.bs r.ms else 0), .int .i64 r.chk])
 forces:∀(r:Ru) (q:Int),Sm r->Few r->FnA Tryz.prog 14 [.agg r.cells, .int .i64 q] (· = .tup [.isl ((frc (r.kn (decide (0<=q/\q<=(r.bs.length:Int)-1))) q.toNat).map i1), .int .i64 (r.err (decide (0<=q/\q<=(r.bs.length:Int)-1)))])
 right:∀(r:Ru) (m:Int),Sm r->Few r->FnA Tryz.prog 16 [.agg r.cells, .int .i64 m] (· = .tup [.int .i64 (if r.err (decide (0<=m/\m<=(r.ms.length:Int)-1))=0 then rgtC r.trs (r.ms.getD m.toNat ⟨0,0⟩) else 0), .int .i64 (r.err (decide (0<=m/\m<=(r.ms.length:Int)-1)))])
 reads:∀(r:Ru) (L:Int),Sm r->Few r->FnA Tryz.prog 18 [.agg r.cells, .int .i64 L] (· = .tup [.agg [.int .i64 (rds (r.kn (decide (0<=L/\L<=99))) L).1, .int .i64 (rds (r.kn (decide (0<=L/\L<=99))) L).2], .int .i64 (r.err (decide (0<=L/\L<=99)))])
 many:∀r,Sm r->Few r->FnA Tryz.prog 20 [.agg r.cells] (· = .tup [.int .i64 ((r.kn true).length:Nat), .int .i64 (r.err true)])
 stood:∀r,Sm r->Few r->FnA Tryz.prog 24 [.agg r.cells] (· = .tup [.int .i64 (if r.err true=0 then r.std else 0), .int .i64 (r.err true)])
 harm:∀r,Sm r->Few r->FnA Tryz.prog 26 [.agg r.cells] (· = spS (r.hrm (r.kn true)) (r.err true))
 shw:∀r,Sm r->Few r->FnA Tryz.prog 28 [.agg r.cells] (fun v=>∃l:List Int,v = .tup [.isl (l.map i1), .int .i64 (r.err true)]/\(r.err true=0->l∈r.trs)/\(r.err true≠0->l=[]))
def exR:Ru:=⟨exD,[⟨0,10,14⟩,⟨0,12,15⟩,⟨3,4,6⟩],[⟨13,1⟩,⟨5,3⟩],0⟩
theorem n58:FnA Tryz.prog 44 [] (· = .agg exR.cells):=by
 have e1:=g36
 refine fnA 8 ok44 (by simp) ?_
 (conv=>whnf);(repeat'((first|apply bT|apply bF|apply bN|((first|apply bD|apply bEq|apply bNe)<;>intro hh<;>try(exfalso;omega))|refine e1.zq rfl rfl ?_|refine wJ ?_|refine nJ ?_)<;>conv=>whnf))
 all_goals rfl
theorem exR_ok:exR.ok=true:=by decide +kernel
theorem exR_sm:Sm exR:=rok_sm exR_ok
theorem exR_few:Few exR:=fun _=>by decide +kernel
theorem exR_len:exR.trs.length=22:=by decide +kernel
theorem exR_frc:frc exR.trs 2=[5,6]:=by decide +kernel
theorem exR_err{b:Bool}(h:b=true):exR.err b=0:=err_zero.2 ⟨exR_ok,h,fun e=>by have:=exR_len;rw[e]at this;cases this⟩
theorem exR_kn{b:Bool}(h:b=true):exR.kn b=exR.trs:=by rw[Ru.kn,if_pos (exR_err h)]
theorem exR_hrm:exR.hrm exR.trs=(0,2):=by decide +kernel
theorem exR_std:exR.std=3:=by rw[Ru.std,exR_hrm];rfl
theorem n15(P:Prg):FnA Tryz.prog 8 [] (· = .bool true):=by
 have e0:=n58
 have e1:=P.forces exR 2 exR_sm exR_few
 have hd:decide ((0:Int)<=2/\(2:Int)<=(exR.bs.length:Int)-1)=true:=by decide
 rw[hd,exR_err rfl,exR_kn rfl,show(2:Int).toNat=2 from rfl,exR_frc]at e1
 have e2:=P.many exR exR_sm exR_few
 rw[exR_err rfl,exR_kn rfl,exR_len]at e2
 have e3:=P.harm exR exR_sm exR_few
 rw[exR_err rfl,exR_kn rfl,exR_hrm,spS]at e3
 have e4:=P.stood exR exR_sm exR_few
 rw[exR_err rfl,if_pos rfl,exR_std]at e4
 have e5:=n29 [5,6] [5,6] (by decide) (by decide)
 rw[decide_eq_true rfl]at e5
 refine fnA 9 ok8 (by simp) ?_
 (conv=>whnf);(repeat'((first|apply bT|apply bF|apply bN|((first|apply bD|apply bEq|apply bNe)<;>intro hh<;>try(exfalso;omega))|refine e0.zq rfl rfl ?_|refine e1.zq rfl rfl ?_|refine e2.cq rfl rfl ?_|refine e3.cq rfl rfl ?_|refine e4.cq rfl rfl ?_|refine e5.lq rfl rfl ?_|refine wJ ?_|refine nJ ?_)<;>conv=>whnf))
 all_goals rfl
theorem kn_none{r:Ru}(ho:r.ok=true)(ht:r.trs=[]){b:Bool}:r.kn b=[]:=by
 unfold Ru.kn;split
 ·exact ht
 ·rfl
theorem err_some{r:Ru}(ho:r.ok=true)(ht:r.trs≠[]){b:Bool}(hb:b=true):r.err b=0:=err_zero.2 ⟨ho,hb,ht⟩
theorem kn_some{r:Ru}(ho:r.ok=true)(ht:r.trs≠[]){b:Bool}(hb:b=true):r.kn b=r.trs:=by rw[Ru.kn,if_pos (err_some ho ht hb)]
theorem inR{r:Ru}{q:Nat}(h:q<r.bs.length):decide ((0:Int)<=(q:Int)/\(q:Int)<=(r.bs.length:Int)-1)=true:=decide_eq_true (by omega)
structure Ans(r:Ru):Prop where
 many:FnA Tryz.prog 20 [.agg r.cells] (· = .tup [.int .i64 (r.trs.length:Nat), .int .i64 (if r.trs=[] then 3 else 0)])
 forces:∀q:Nat,q<r.bs.length->FnA Tryz.prog 14 [.agg r.cells, .int .i64 q] (· = .tup [.isl ((frc r.trs q).map i1), .int .i64 (if r.trs=[] then 3 else 0)])
 harm:FnA Tryz.prog 26 [.agg r.cells] (· = .tup [.agg [.int .i64 (r.hrm r.trs).1, .int .i64 (r.hrm r.trs).2], .int .i64 (if r.trs=[] then 3 else 0)])
 stood:FnA Tryz.prog 24 [.agg r.cells] (· = .tup [.int .i64 (if r.trs=[] then 0 else r.std), .int .i64 (if r.trs=[] then 3 else 0)])
 reads:∀L:Int,0<=L->L<=99->FnA Tryz.prog 18 [.agg r.cells, .int .i64 L] (· = .tup [.agg [.int .i64 (rds r.trs L).1, .int .i64 (rds r.trs L).2], .int .i64 (if r.trs=[] then 3 else 0)])
 right:∀m:Nat,m<r.ms.length->FnA Tryz.prog 16 [.agg r.cells, .int .i64 m] (· = .tup [.int .i64 (if r.trs=[] then 0 else rgtC r.trs (r.ms.getD m ⟨0,0⟩)), .int .i64 (if r.trs=[] then 3 else 0)])
 few:FnA Tryz.prog 12 [.agg r.cells] (· = .tup [.int .i64 (Go.Proofs.few r.bs r.ms), .int .i64 0])
theorem ans(P:Prg){r:Ru}(ho:r.ok=true)(hs:Sm r)(hw:Few r):Ans r:=by
 have herr:∀b,b=true->r.err b=if r.trs=[] then 3 else 0:=fun b hb=>by rw[Ru.err,if_pos ho,if_pos hb]
 have hkn:∀b,b=true->r.kn b=r.trs:=fun b hb=>by
  by_cases ht:r.trs=[]
  ·rw[kn_none ho ht,ht]
  ·exact kn_some ho ht hb
 have h1:=P.many r hs hw
 have h3:=P.harm r hs hw
 have h4:=P.stood r hs hw
 have h7:=P.few r hs hw
 rw[herr _ rfl,hkn _ rfl]at h1 h3
 rw[herr _ rfl]at h4
 rw[if_pos ho,Ru.chk,if_pos ho]at h7
 refine⟨h1,fun q hq=>?_,h3,?_,fun L h0 h9=>?_,fun m hm=>?_,h7⟩
 ·have h2:=P.forces r q hs hw
  rw[herr _ (inR hq),hkn _ (inR hq),show((q:Nat):Int).toNat=q by omega]at h2
  exact h2
 ·by_cases ht:r.trs=[]
  ·rw[if_pos ht,if_neg (by decide)]at h4;rw[if_pos ht,if_pos ht];exact h4
  ·rw[if_neg ht,if_pos rfl]at h4;rw[if_neg ht,if_neg ht];exact h4
 ·have h2:=P.reads r L hs hw
  rw[herr _ (decide_eq_true ⟨h0,h9⟩),hkn _ (decide_eq_true ⟨h0,h9⟩)]at h2
  exact h2
 ·have h2:=P.right r m hs hw
  have hd:decide ((0:Int)<=(m:Int)/\(m:Int)<=(r.ms.length:Int)-1)=true:=decide_eq_true (by omega)
  rw[herr _ hd,show((m:Nat):Int).toNat=m by omega]at h2
  by_cases ht:r.trs=[]
  ·rw[if_pos ht,if_neg (by decide)]at h2;rw[if_pos ht,if_pos ht];exact h2
  ·rw[if_neg ht,if_pos rfl]at h2;rw[if_neg ht,if_neg ht];exact h2
def Ru.hN(r:Ru)(t:Tr)(f:List Int)(n:Nat):Nat:=(List.range n).countP fun i => !t.stands [⟨f.getD i 0,(r.bs.getD i ⟨0,0,0⟩).a⟩]
theorem hN_suc(r:Ru)(t:Tr)(f:List Int)(n:Nat):r.hN t f (n+1)=r.hN t f n+if (!t.stands [⟨f.getD n 0,(r.bs.getD n ⟨0,0,0⟩).a⟩])=true then 1 else 0:=by
 unfold Ru.hN;rw[cntr_suc]
theorem case_gu{r:Ru}(ho:r.ok=true){f:List Int}(hf:isC r.bs f){i:Nat}(hi:i<r.bs.length):Gu.ok ⟨f.getD i 0,(r.bs.getD i ⟨0,0,0⟩).a⟩ r.d.rs.length:=by
 have hm:r.bs.getD i ⟨0,0,0⟩∈r.bs:=by simp[List.getD_eq_getElem?_getD,hi]
 have hb:=(rok_iff.1 ho).2.1.2 _ hm
 have hc:=(isC_iff.1 hf).2 i hi
 unfold okBlw at hb
 exact⟨by dsimp only;omega,by dsimp only;omega⟩
theorem st_two{d:Dm}{l:List Gu}(h:d.st l=2):d.best.stands l=false:=by
 unfold Dm.st at h
 split at h
 ·cases h
 ·split at h
  ·cases h
  ·rename_i h2;simpa using h2
theorem hN_bd{r:Ru}(ho:r.ok=true){t:Tr}(ht:∀g:Gu,g.ok r.d.rs.length->Leq r.d.best t g g/\Leq t r.d.worst g g){f:List Int}(hf:isC r.bs f):r.loN f r.bs.length<=r.hN t f r.bs.length/\r.hN t f r.bs.length<=r.hiN f r.bs.length:=by
 unfold Ru.loN Ru.hN Ru.hiN
 constructor
 ·refine List.countP_mono_left fun i hi h=>?_
  rw[List.mem_range]at hi
  rw[decide_eq_true_eq]at h
  have hb:=st_two h
  cases hs:t.stands [⟨f.getD i 0,(r.bs.getD i ⟨0,0,0⟩).a⟩]with
  |false=>rfl
  |true=>
   have:=stands_mono (ht _ (case_gu ho hf hi)).1 hs
   rw[this]at hb;cases hb
 ·refine List.countP_mono_left fun i hi h=>?_
  rw[List.mem_range]at hi
  rw[decide_eq_true_eq]
  intro h1
  have h2:=stands_mono (ht _ (case_gu ho hf hi)).2 (st_one.1 h1)
  rw[h2]at h;cases h
theorem hrm_in{r:Ru}{f:List Int}(hf:f∈r.trs):(r.hrm r.trs).1<=(r.loN f r.bs.length:Nat)/\((r.hiN f r.bs.length:Nat):Int)<=(r.hrm r.trs).2:=
 ⟨(spL_in (List.mem_map.2 ⟨f,hf,rfl⟩:((r.loN f r.bs.length:Nat):Int)∈r.loL r.trs)).1,(spL_in (List.mem_map.2 ⟨f,hf,rfl⟩:((r.hiN f r.bs.length:Nat):Int)∈r.hiL r.trs)).2⟩
theorem agr_std{r:Ru}{n:Nat}(h1:(r.hrm r.trs).1<=(n:Int))(h2:(n:Int)<=(r.hrm r.trs).2):agr r.std (decide ((n:Int)=0))=true:=by
 unfold agr Ru.std
 by_cases h:(r.hrm r.trs).2=0
 ·rw[if_pos h,if_pos rfl];exact decide_eq_true (by omega)
 ·rw[if_neg h]
  by_cases h3:0<(r.hrm r.trs).1
  ·rw[if_pos h3,if_neg (by decide),if_pos rfl,decide_eq_false (by omega)];rfl
  ·rw[if_neg h3];rfl
theorem agr_rgt{l:List (List Int)}{m:Met}{f:List Int}(hf:f∈l):agr (rgtC l m) (rgtM m f)=true:=by
 unfold agr rgtC knwC
 by_cases h1:l.countP (rgtM m)=l.length
 ·rw[if_pos h1,if_pos rfl];exact List.countP_eq_length.1 h1 f hf
 ·rw[if_neg h1]
  by_cases h2:l.countP (rgtM m)=0
  ·rw[if_pos h2,if_neg (by decide),if_pos rfl]
   have:=List.countP_eq_zero.1 h2 f hf
   cases hr:rgtM m f
   ·rfl
   ·exact absurd hr this
  ·rw[if_neg h2];rfl
theorem rds_in{l:List (List Int)}{f:List Int}(hf:f∈l)(L:Int):(rds l L).1<=(abv f L:Nat)/\((abv f L:Nat):Int)<=(rds l L).2:=spL_in (List.mem_map.2 ⟨f,hf,rfl⟩)
set_option maxHeartbeats 4000000 in
theorem k5(P:Prg)(r:Ru)(f:List Int)(a s:Int)(ss:List Int)(q m L:Int)(hf:f.length<=9223372036854775807)(hsl:ss.length<=9223372036854775807):FnA Tryz.prog 5 [.agg r.cells, .agg [.isl (f.map i1), .int .i64 a, .int .i64 s, .isl (ss.map i1)], .agg [.int .i64 q, .int .i64 m, .int .i64 L]] (· = .bool true):=by
 have e0:=n15 P
 have e1:=n38 r
 have hB:(r.bs.map Blw.av).length=r.bs.length:=by simp
 have hM:(r.ms.map Met.av).length=r.ms.length:=by simp
 have hF:(f.map i1).length=f.length:=by simp
 refine fnA 12 ok5 (by simp) ?_
 cases hy:r.rdy<;>rw[hy]at e1
 ·(conv=>whnf);(repeat'((first|apply bT|apply bF|apply bN|((first|apply bD|apply bEq|apply bNe)<;>intro hh<;>try(exfalso;omega))|refine e1.cq rfl rfl ?_|refine e0.cq rfl rfl ?_|refine wJ ?_|refine nJ ?_)<;>conv=>whnf))
  all_goals rfl
 obtain⟨ho,hs,hw,hp⟩:=rdy_of hy
 have hk:=rok_iff.1 ho
 have hb8:=hk.2.1.1
 have hm5:=hk.2.2.1
 have d1:=n37 r f hf hs.b hs.m
 by_cases hft:f∈r.trs
 case neg=>
  rw[decide_eq_false hft]at d1
  (conv=>whnf);(repeat'((first|apply bT|apply bF|apply bN|((first|apply bD|apply bEq|apply bNe)<;>intro hh<;>try(exfalso;omega))|refine e1.cq rfl rfl ?_|refine d1.cq rfl rfl ?_|refine e0.cq rfl rfl ?_|refine wJ ?_|refine nJ ?_)<;>conv=>whnf))
  all_goals rfl
 rw[decide_eq_true hft]at d1
 have hb':=okB_iff.1 hk.1
 have c11:=g11 r.d a s ss hb'.1 hs.n hsl
 (conv=>whnf);(repeat'((first|apply bT|apply bF|apply bN|((first|apply bD|apply bEq|apply bNe)<;>intro hh<;>try(exfalso;omega))|refine e1.cq rfl rfl ?_|refine d1.cq rfl rfl ?_|refine wJ ?_|refine nJ ?_)<;>conv=>whnf))
 refine c11.callq rfl rfl (fun v ⟨b,hrb,hT⟩=>?_);subst hrb
 cases b with
 |false=>
  (conv=>whnf);(repeat'((first|apply bT|apply bF|apply bN|((first|apply bD|apply bEq|apply bNe)<;>intro hh<;>try(exfalso;omega))|refine e0.cq rfl rfl ?_|refine wJ ?_|refine nJ ?_)<;>conv=>whnf))
  all_goals rfl
 |true=>
  have hT:=hT rfl
  obtain⟨H,hleq,_⟩:=isT_facts hk.1 hT
  by_cases hL:0<=L/\L<=99
  case neg=>
   (conv=>whnf);(repeat'((first|apply bT|apply bF|apply bN|((first|apply bD|apply bEq|apply bNe)<;>intro hh<;>try(exfalso;omega))|refine e0.cq rfl rfl ?_|refine wJ ?_|refine nJ ?_)<;>conv=>whnf))
   all_goals rfl
  have ht:r.trs≠[]:=List.ne_nil_of_mem hft
  have A:=ans P ho hs hw
  have a1:=A.reads L hL.1 hL.2
  have a2:=A.harm
  have a3:=A.stood
  rw[if_neg ht]at a1 a2
  rw[if_neg ht,if_neg ht]at a3
  have hfc:=(mem_trs.1 hft).1
  have hfl:=isC_len hfc
  have hside:=mem_sides.1 hT.2.2
  have hs0:=s0_ok hb'.1
  have hsa:=hs0.1
  have hss:=hs0.2.1
  unfold okSpan at hsa hss
  have c13:=g13 r.d a s hb'.1 (by simp only at hside;omega) (by simp only at hside;omega)
  change FnA Tryz.prog 33 [.agg r.d.cells, .agg [.int .i64 a, .int .i64 s]] (· = .int .i64 (r.d.tr a s ss).L)at c13
  have c22:=fun(g:Gu) (hg:g.ok r.d.rs.length)=>g22 r.d (r.d.tr a s ss) [g] H (by simp) (by simpa using hg)
  obtain⟨n1',n2'⟩:=hN_bd ho hleq hfc
  obtain⟨n3',n4'⟩:=hrm_in hft
  have nb:=lo_le_hi r f r.bs.length
  have ag:=agr_std (r:=r) (n:=r.hN (r.d.tr a s ss) f r.bs.length) (by omega) (by omega)
  have r1:=rds_in hft L
  have d2:=n42 f L hf
  have d3:=n43 r.std (decide ((r.hN (r.d.tr a s ss) f r.bs.length:Int)=0))
  rw[ag]at d3
  generalize hsp:rds r.trs L=sp at *
  generalize hhm:r.hrm r.trs=hm at *
  generalize hst:r.std=st at *
  (conv=>whnf);(repeat'((first|apply bT|apply bF|apply bN|((first|apply bD|apply bEq|apply bNe)<;>intro hh<;>try(exfalso;omega))|refine a1.cq rfl rfl ?_|refine a2.cq rfl rfl ?_|refine a3.cq rfl rfl ?_|refine c13.cq rfl rfl ?_|refine wJ ?_|refine nJ ?_)<;>conv=>whnf))
  refine loop_i (α :=Nat) (fun k=>[(15, .int .i64 k),(14, .int .i64 (r.hN (r.d.tr a s ss) f k:Nat)),(13, .own 5 0),(11, .int .i64 st),(9, .own 4 0),(7, .own 3 0),(5, .own 2 0),(4, .own 1 0),(3, .own 0 0)]) (fun k=>[.box false r.cells, .box false [.isl (f.map i1), .int .i64 a, .int .i64 s, .isl (ss.map i1)], .box false [.int .i64 q, .int .i64 m, .int .i64 L], .box false [.int .i64 sp.1, .int .i64 sp.2], .box false [.int .i64 hm.1, .int .i64 hm.2], .box false [.int .i64 (r.d.tr a s ss).L, .isl (ss.map i1)], .fresh, .fresh]) (fun k=>k<=r.bs.length) (fun k=>r.bs.length-k) 0 mI (by simp) ?_
  rintro k hk'
  have hkn:r.hN (r.d.tr a s ss) f k<=k:=by
   unfold Ru.hN;refine Nat.le_trans List.countP_le_length ?_;simp
  conv=>whnf
  refine bD (fun h3=>?_) (fun h3=>?_)
  ·have hlt:k<r.bs.length:=by omega
   have g1:=gI f k (by omega)
   have g2:=gB r.bs k hlt
   have hgu:=case_gu ho hfc hlt
   have e3:=c22 _ hgu
   have ek:=hN_suc r (r.d.tr a s ss) f k
   cases hsd:(r.d.tr a s ss).stands [⟨f.getD k 0,(r.bs.getD k ⟨0,0,0⟩).a⟩]<;>rw[hsd]at e3
   ·rw[if_pos (by rw[hsd];rfl)]at ek
    (conv=>whnf);(repeat'((first|apply bT|apply bF|apply bN|((first|apply bD|apply bEq|apply bNe)<;>intro hh<;>try(exfalso;omega))|refine iaJ g1 ?_|refine iaJ g2 ?_|refine e3.lq rfl rfl ?_|refine wJ ?_|refine nJ ?_)<;>conv=>whnf))
    refine⟨k+1,?_,by omega,by omega⟩
    rw[ek]
    simp only[Int.natCast_add,Int.natCast_one]
    exact mI
   ·rw[if_neg (by rw[hsd];simp)]at ek
    (conv=>whnf);(repeat'((first|apply bT|apply bF|apply bN|((first|apply bD|apply bEq|apply bNe)<;>intro hh<;>try(exfalso;omega))|refine iaJ g1 ?_|refine iaJ g2 ?_|refine e3.lq rfl rfl ?_|refine wJ ?_|refine nJ ?_)<;>conv=>whnf))
    refine⟨k+1,?_,by omega,by omega⟩
    rw[ek]
    simp only[Int.natCast_add,Int.natCast_one]
    exact mI
  ·have:k=r.bs.length:=by omega
   subst this
   have hq1:0<=q/\q<r.bs.length->∃Q:Nat,q=Q/\Q<r.bs.length:=fun h=>⟨q.toNat,by omega,by omega⟩
   by_cases hq:0<=q/\q<r.bs.length
   ·obtain⟨Q,rfl,hQ⟩:=hq1 hq
    have f1:=A.forces Q hQ
    rw[if_neg ht]at f1
    have g4:=gI f Q (by omega)
    have hin:f.getD Q 0∈frc r.trs Q:=(mem_frc hk.2.1 hQ).2 ⟨f,hft,rfl⟩
    have fl:=frc_len (ms:=r.ms) (w:=r.w) hk.2.1 hQ
    change (frc r.trs Q).length<=10 at fl
    have f2:=n44 (frc r.trs Q) (f.getD Q 0) (by omega)
    rw[decide_eq_true hin]at f2
    have hFl:((frc r.trs Q).map i1).length=(frc r.trs Q).length:=by simp
    generalize frc r.trs Q=FF at *
    by_cases hmm:0<=m/\m<r.ms.length
    ·obtain⟨M,rfl,hMM⟩:∃M:Nat,m=M/\M<r.ms.length:=⟨m.toNat,by omega,by omega⟩
     have m1:=A.right M hMM
     rw[if_neg ht,if_neg ht]at m1
     have g5:=gM r.ms M hMM
     have m2:=n45 (r.ms.getD M ⟨0,0⟩) f hf
     have m3:=n43 (rgtC r.trs (r.ms.getD M ⟨0,0⟩)) (rgtM (r.ms.getD M ⟨0,0⟩) f)
     rw[agr_rgt hft]at m3
     (conv=>whnf);(repeat'((first|apply bT|apply bF|apply bN|((first|apply bD|apply bEq|apply bNe)<;>intro hh<;>try(exfalso;omega))|refine d2.cq rfl rfl ?_|refine d3.cq rfl rfl ?_|refine f1.zq rfl rfl ?_|refine iaJ g4 ?_|refine f2.cq rfl rfl ?_|refine m1.cq rfl rfl ?_|refine iaJ g5 ?_|refine m2.cq rfl rfl ?_|refine m3.cq rfl rfl ?_|refine e0.cq rfl rfl ?_|refine wJ ?_|refine nJ ?_)<;>conv=>whnf))
     all_goals rfl
    ·(conv=>whnf);(repeat'((first|apply bT|apply bF|apply bN|((first|apply bD|apply bEq|apply bNe)<;>intro hh<;>try(exfalso;omega))|refine d2.cq rfl rfl ?_|refine d3.cq rfl rfl ?_|refine f1.zq rfl rfl ?_|refine iaJ g4 ?_|refine f2.cq rfl rfl ?_|refine e0.cq rfl rfl ?_|refine wJ ?_|refine nJ ?_)<;>conv=>whnf))
     all_goals rfl
   ·by_cases hmm:0<=m/\m<r.ms.length
    ·obtain⟨M,rfl,hMM⟩:∃M:Nat,m=M/\M<r.ms.length:=⟨m.toNat,by omega,by omega⟩
     have m1:=A.right M hMM
     rw[if_neg ht,if_neg ht]at m1
     have g5:=gM r.ms M hMM
     have m2:=n45 (r.ms.getD M ⟨0,0⟩) f hf
     have m3:=n43 (rgtC r.trs (r.ms.getD M ⟨0,0⟩)) (rgtM (r.ms.getD M ⟨0,0⟩) f)
     rw[agr_rgt hft]at m3
     (conv=>whnf);(repeat'((first|apply bT|apply bF|apply bN|((first|apply bD|apply bEq|apply bNe)<;>intro hh<;>try(exfalso;omega))|refine d2.cq rfl rfl ?_|refine d3.cq rfl rfl ?_|refine m1.cq rfl rfl ?_|refine iaJ g5 ?_|refine m2.cq rfl rfl ?_|refine m3.cq rfl rfl ?_|refine e0.cq rfl rfl ?_|refine wJ ?_|refine nJ ?_)<;>conv=>whnf))
     all_goals rfl
    ·(conv=>whnf);(repeat'((first|apply bT|apply bF|apply bN|((first|apply bD|apply bEq|apply bNe)<;>intro hh<;>try(exfalso;omega))|refine d2.cq rfl rfl ?_|refine d3.cq rfl rfl ?_|refine e0.cq rfl rfl ?_|refine wJ ?_|refine nJ ?_)<;>conv=>whnf))
     all_goals rfl
abbrev Tal:=List Int
def tkA(c:Tal):AV:=.agg (c.map fun x=>AV.int .i64 x)
abbrev Ent:=List (Tal × Int)
def kE(E:Ent):List AV:=E.map fun e=>tkA e.1
def uE(E:Ent):List AV:=E.map fun e=>AV.int .i64 e.2
def getE:Ent->Tal->Option Int
 | [],_=>none
 |(c,v)::E,t=>if t=c then some v else getE E t
def vE(E:Ent)(t:Tal):Int:=(getE E t).getD 0
def addE:Ent->Tal->Int->Ent
 | [],t,v=>[(t,v)]
 |(c,u)::E,t,v=>if t=c then(c,u+v)::E else(c,u)::addE E t v
theorem vE_add(E:Ent)(t:Tal)(v:Int)(s:Tal):vE (addE E t v) s=vE E s+if s=t then v else 0:=by
 unfold vE
 induction E with
 |nil=>
  simp only[addE,getE]
  split<;>simp
 |cons e E ih=>
  obtain⟨c,u⟩:=e
  simp only[addE]
  by_cases h:t=c
  ·subst h
   rw[if_pos rfl]
   simp only[getE]
   by_cases h2:s=t
   ·rw[if_pos h2,if_pos h2,if_pos h2];simp
   ·rw[if_neg h2,if_neg h2,if_neg h2];simp
  ·rw[if_neg h]
   simp only[getE]
   by_cases h2:s=c
   ·have:¬s=t:=fun e=>h (e ▸ h2)
    rw[if_pos h2,if_pos h2,if_neg this];simp
   ·rw[if_neg h2,if_neg h2];exact ih
def K6:KTy:=.st (.node [(0,1, .leaf true),(1,1, .leaf true),(2,1, .leaf true),(3,1, .leaf true),(4,1, .leaf true),(5,1, .leaf true)])
theorem six{a:Tal}(h:a.length=6):∃a0 a1 a2 a3 a4 a5,a=[a0,a1,a2,a3,a4,a5]:=by
 match a,h with
 | [a0,a1,a2,a3,a4,a5],_=>exact⟨a0,a1,a2,a3,a4,a5,rfl⟩
theorem keq6{a b:Tal}(ha:a.length=6)(hb:b.length=6):keq K6 (tkA a) (tkA b)=some (decide (a=b)):=by
 obtain⟨a0,a1,a2,a3,a4,a5,rfl⟩:=six ha
 obtain⟨b0,b1,b2,b3,b4,b5,rfl⟩:=six hb
 have h1:eqV (.node [(0,1, .leaf true),(1,1, .leaf true),(2,1, .leaf true),(3,1, .leaf true),(4,1, .leaf true),(5,1, .leaf true)]) [.int .i64 a0, .int .i64 a1, .int .i64 a2, .int .i64 a3, .int .i64 a4, .int .i64 a5] [.int .i64 b0, .int .i64 b1, .int .i64 b2, .int .i64 b3, .int .i64 b4, .int .i64 b5]=some (decide ([a0,a1,a2,a3,a4,a5]=[b0,b1,b2,b3,b4,b5])):=by
  simp only[eqV,eqVs,List.drop,List.take,eq1,if_true]
  simp
  try grind
 have h2:scEq [.int .i64 a0, .int .i64 a1, .int .i64 a2, .int .i64 a3, .int .i64 a4, .int .i64 a5] [.int .i64 b0, .int .i64 b1, .int .i64 b2, .int .i64 b3, .int .i64 b4, .int .i64 b5]=some (decide ([a0,a1,a2,a3,a4,a5]=[b0,b1,b2,b3,b4,b5])):=by
  simp only[scEq,if_true]
  simp
  try grind
 show keqB K6 _ _=_
 simp only[K6,keqB,tkA,List.map,h1,h2,if_true]
theorem key6{a:Tal}(ha:a.length=6):keyV K6 (tkA a)=true:=by
 obtain⟨a0,a1,a2,a3,a4,a5,rfl⟩:=six ha
 simp[keyV,K6,KTy.base,keyVB,tkA,eqV,eqVs,scV,eq1]
theorem findE{t:Tal}(ht:t.length=6)(v:Int):∀(E:Ent) (i:Nat),(∀e∈E,e.1.length=6)->∃r,findK K6 (tkA t) (kE E) i=some r/\((r=none/\addE E t v=E++[(t,v)]/\getE E t=none)\/∃j u,r=some (i+j)/\E[j]?=some (t,u)/\addE E t v=E.set j (t,u+v)/\getE E t=some u)
 | [],i,_=>⟨none,rfl, .inl ⟨rfl,rfl,rfl⟩⟩
 |(y,u)::E,i,hE=>by
  have hq:=keq6 ht (hE (y,u) (by simp))
  by_cases h:t=y
  ·subst h
   rw[decide_eq_true rfl]at hq
   exact⟨some i,by simp[kE,findK,hq], .inr ⟨0,u,rfl,rfl,by simp[addE],by simp[getE]⟩⟩
  ·obtain⟨r,h1,h2⟩:=findE ht v E (i+1) (fun e he=>hE e (by simp[he]))
   rw[decide_eq_false h]at hq
   refine⟨r,by simpa[kE,findK,hq]using h1,?_⟩
   rcases h2 with⟨h2,h3,h4⟩|⟨j,w,h2,h3,h4,h5⟩
   ·exact .inl ⟨h2,by simp[addE,h,h3],by simp[getE,h,h4]⟩
   ·exact .inr ⟨j+1,w,by rw[h2];congr 1;omega,by simpa using h3,by simp[addE,h,h4],by simp[getE,h,h5]⟩
theorem kE_set{E:Ent}{j:Nat}{t:Tal}{u v:Int}(h:E[j]?=some (t,u)):kE (E.set j (t,v))=kE E:=by
 apply List.ext_getElem (by simp[kE])
 intro n h4 h5
 simp only[kE,List.getElem_map,List.getElem_set]
 split
 ·rename_i e
  subst e
  obtain⟨h6,h7⟩:=List.getElem?_eq_some_iff.1 h
  rw[h7]
 ·rfl
theorem look6{E:Ent}{t:Tal}(ht:t.length=6)(hE:∀e∈E,e.1.length=6):mlook K6 (kE E) (uE E) (tkA t)=some ((getE E t).map fun v=>AV.int .i64 v):=by
 obtain⟨r,h1,h2⟩:=findE ht 0 E 0 hE
 unfold mlook
 rw[key6 ht,h1]
 rcases h2 with⟨rfl,_,h2⟩|⟨j,v,rfl,h2,_,h3⟩
 ·rw[h2];rfl
 ·rw[h3]
  have:(uE E)[j]?=some (.int .i64 v):=by simp[uE,h2]
  simp only[Nat.zero_add,this,Option.map_some]
theorem BnOk.len6{ks us:List AV}{bn:List Nat}{n:Nat}(h:BnOk ks us bn n):bn.Nodup:=h.asc.imp fun h=>Nat.ne_of_lt h
theorem mpe6{E:Ent}{t:Tal}{bn:List Nat}{n:Nat}(ht:t.length=6)(hE:∀e∈E,e.1.length=6)(hb:BnOk (kE E) (uE E) bn n)(v:Int) :
  ∃v0 b bn' n' j,mpeF K6 (kE E) (uE E) bn n (tkA t) (.int .i64 0)=some (.int .i64 v0,b,kE (addE E t v),uE (addE E t 0),bn',n')/\bn'[j]?=some b/\(uE (addE E t 0)).set j (.int .i64 (vE E t+v))=uE (addE E t v)/\BnOk (kE (addE E t v)) (uE (addE E t v)) bn' n' /\
   mlook K6 (kE (addE E t v)) (uE (addE E t 0)) (tkA t)=some (some (.int .i64 (vE E t)))/\∀e∈addE E t v,e.1.length=6:=by
 obtain⟨r,h1,h2⟩:=findE ht v E 0 hE
 obtain⟨r',h1',h2'⟩:=findE ht 0 E 0 hE
 rw[h1]at h1';cases h1'
 unfold mpeF
 rw[key6 ht,h1]
 have hlen:=hb.len
 have hlenu:=hb.lenu
 simp only[kE,uE,List.length_map]at hlen hlenu
 have hkd:K6.isDel=false:=rfl
 rcases h2 with⟨rfl,h2,h3⟩|⟨j,u,rfl,h2,h3,h4⟩
 ·rcases h2' with⟨_,h2',_⟩|⟨j',u',e,_⟩
  ·have hv:vE E t=0:=by unfold vE;rw[h3];rfl
   have hl6:∀e∈addE E t v,e.1.length=6:=by
    rw[h2];intro e he
    rcases List.mem_append.1 he with he|he
    ·exact hE e he
    ·simp only[List.mem_singleton]at he;rw[he];exact ht
   refine⟨0,n,bn++[n],n+1,E.length,?_,by simp[hlen],?_,?_,?_,hl6⟩
   ·rw[hkd];simp[h2,h2',kE,uE]
   ·rw[h2,h2',hv];simp[uE]
   ·rw[h2]
    refine⟨by simp[kE,hlen],by simp[uE,hlen],?_,fun x hx=>?_⟩
    ·refine List.pairwise_append.2 ⟨hb.asc,by simp,fun a ha b hb'=>?_⟩
     simp only[List.mem_singleton]at hb';subst hb';exact hb.lt a ha
    ·rcases List.mem_append.1 hx with hx|hx
     ·exact Nat.lt_succ_of_lt (hb.lt x hx)
     ·simp only[List.mem_singleton]at hx;omega
   ·have e1:kE (addE E t v)=kE (addE E t 0):=by rw[h2,h2'];simp[kE]
    have e2:vE (addE E t 0) t=vE E t:=by rw[vE_add];simp
    have hl6':∀e∈addE E t 0,e.1.length=6:=by
     rw[h2'];intro e he
     rcases List.mem_append.1 he with he|he
     ·exact hE e he
     ·simp only[List.mem_singleton]at he;rw[he];exact ht
    rw[e1,look6 ht hl6']
    have:getE (addE E t 0) t=some 0:=by
     obtain⟨r2,q1,q2⟩:=findE ht 0 (addE E t 0) 0 hl6'
     rcases q2 with⟨_,q3,_⟩|⟨j2,u2,_,_,_,q4⟩
     ·have hlq:=congrArg List.length q3
      exfalso
      have hg:∀(E:Ent),getE (E++[(t,0)]) t≠none:=by
       intro E;induction E with
       |nil=>simp[getE]
       |cons e E ih=>obtain⟨c,u⟩:=e;simp only[List.cons_append,getE];split<;>first|(simp;done)|exact ih
      rename_i q5
      rw[h2']at q5
      exact hg _ q5
     ·have:vE (addE E t 0) t=u2:=by unfold vE;rw[q4];rfl
      rw[q4,<- this,e2,hv]
    rw[this,hv];rfl
  ·cases e
 ·rcases h2' with⟨e,_⟩|⟨j',u',e,h2',h3',h4'⟩
  ·cases e
  ·have ej:j=j':=by simpa using e
   subst ej
   have eu:u'=u:=by rw[h2]at h2';simpa using h2'.symm
   subst eu
   have hv:vE E t=u':=by unfold vE;rw[h4];rfl
   have hjl:=(List.getElem?_eq_some_iff.1 h2).1
   have e0:addE E t 0=E:=by
    rw[h3',Int.add_zero]
    apply List.ext_getElem (by simp)
    intro n h5 h6
    rw[List.getElem_set]
    split
    ·rename_i e;subst e;exact(List.getElem?_eq_some_iff.1 h2).2.symm
    ·rfl
   have hb2:bn[j]?=some bn[j]:=List.getElem?_eq_getElem (by omega)
   have hu2:(uE E)[j]?=some (.int .i64 u'):=by simp[uE,h2]
   refine⟨u',bn[j],bn,n,j,?_,hb2,?_,?_,?_,?_⟩
   ·simp only[Nat.zero_add,hkd,hu2,hb2,e0,h3,kE_set h2]
   ·rw[e0,h3,hv]
    simp only[uE,List.map_set]
   ·rw[h3,kE_set h2]
    exact⟨hb.len,by simp[uE];omega,hb.asc,hb.lt⟩
   ·rw[e0,h3,kE_set h2,look6 ht hE,h4,hv];rfl
   ·rw[h3];intro e he
    rcases List.mem_or_eq_of_mem_set he with he|he
    ·exact hE e he
    ·rw[he];exact ht
theorem perm_sum{l m:List Int}(h:l.Perm m):l.sum=m.sum:=by
 induction h with
 |nil=>rfl
 |cons x _ ih=>simp[ih]
 |swap x y l=>simp;omega
 |trans _ _ a b=>exact a.trans b
theorem met_sum{s:List Nat}{m:Nat}(g:Nat->Int)(hn:s.Nodup)(hs:∀j∈s,j<m)(ha:∀j,j<m->j∈s):(s.map g).sum=((List.range m).map g).sum:=by
 refine perm_sum (List.Perm.map g ?_)
 rw[List.perm_ext_iff_of_nodup hn List.nodup_range]
 intro a
 rw[List.mem_range]
 exact⟨hs a,ha a⟩
theorem met_len{s:List Nat}{m:Nat}(hn:s.Nodup)(hs:∀j∈s,j<m):s.length<=m:=by
 have:=nd_sub_lenC (b:=List.range m) hn (fun x hx=>List.mem_range.2 (hs x hx))
 simpa using this
theorem sum_map_add{α : Type}(l:List α)(f g : α -> Int):(l.map fun a=>f a+g a).sum=(l.map f).sum+(l.map g).sum:=by
 induction l with
 |nil=>rfl
 |cons a l ih=>simp only[List.map_cons,List.sum_cons,ih];omega
def cnT{α : Type}(W:List α)(T : α -> Tal)(t:Tal):Int:=((W.countP fun f=>decide (T f=t):Nat):Int)
theorem cnt_cons{α : Type}(f : α)(W:List α)(T : α -> Tal)(t:Tal):cnT (f::W) T t=cnT W T t+if t=T f then 1 else 0:=by
 unfold cnT
 rw[List.countP_cons]
 by_cases h:T f=t
 ·have h2:t=T f:=h.symm
  simp[h2]
 ·have h2:¬t=T f:=fun e=>h e.symm
  simp[h,h2]
theorem cnt_app{α : Type}(W V:List α)(T : α -> Tal)(t:Tal):cnT (W++V) T t=cnT W T t+cnT V T t:=by
 unfold cnT;rw[List.countP_append];omega
structure Rep{α : Type}(E:Ent)(W:List α)(T : α -> Tal):Prop where
 nd:(E.map (·.1)).Nodup
 len:∀e∈E,e.1.length=6
 cnt:∀t,vE E t=cnT W T t
 pos:∀e∈E,0<e.2
theorem vE_of{E:Ent}(hn:(E.map (·.1)).Nodup){e:Tal × Int}(he:e∈E):vE E e.1=e.2:=by
 unfold vE
 induction E with
 |nil=>cases he
 |cons a E ih=>
  obtain⟨c,u⟩:=a
  simp only[getE]
  rw[List.map_cons,List.nodup_cons]at hn
  rcases List.mem_cons.1 he with rfl|he
  ·rw[if_pos rfl];rfl
  ·have:¬e.1=c:=fun h=>hn.1 (h ▸ List.mem_map.2 ⟨e,he,rfl⟩)
   rw[if_neg this];exact ih hn.2 he
theorem vE_no{E:Ent}{t:Tal}(h:t∉E.map (·.1)):vE E t=0:=by
 unfold vE
 induction E with
 |nil=>rfl
 |cons a E ih=>
  obtain⟨c,u⟩:=a
  simp only[List.map_cons,List.mem_cons,not_or]at h
  simp only[getE]
  rw[if_neg h.1];exact ih h.2
theorem cnt_pos{α : Type}{W:List α}{T : α -> Tal}{t:Tal}:0<cnT W T t<->∃f∈W,T f=t:=by
 unfold cnT
 rw[show(0<((W.countP fun f=>decide (T f=t):Nat):Int))<->0<W.countP fun f=>decide (T f=t) by omega,List.countP_pos_iff]
 simp
theorem Rep.mem{α : Type}{E:Ent}{W:List α}{T : α -> Tal}(h:Rep E W T){t:Tal}:t∈E.map (·.1)<->∃f∈W,T f=t:=by
 rw[<- cnt_pos,<- h.cnt]
 constructor
 ·intro hm
  obtain⟨e,he,rfl⟩:=List.mem_map.1 hm
  rw[vE_of h.nd he];exact h.pos e he
 ·intro hp
  refine Classical.byContradiction fun hn=>?_
  rw[vE_no hn]at hp;omega
theorem keys_sum{α : Type}{T : α -> Tal}(φ : Tal->Int){K:List Tal}(hn:K.Nodup):∀(W:List α),(∀f∈W,T f∈K)->(K.map fun t => φ t*cnT W T t).sum=(W.map fun f => φ (T f)).sum
 | [],_=>by
  have:∀(K:List Tal),(K.map fun t => φ t*cnT ([]:List α) T t).sum=0:=by
   intro K;induction K with
   |nil=>rfl
   |cons t K ih=>
    have h0:cnT ([]:List α) T t=0:=rfl
    simp only[List.map_cons,List.sum_cons,ih,h0];simp
  rw[this];rfl
 |f::W,h=>by
  have ih:=keys_sum φ hn W (fun g hg=>h g (by simp[hg]))
  rw[List.map_cons,List.sum_cons,<- ih]
  have e1:(K.map fun t => φ t*cnT (f::W) T t)=K.map fun t => φ t*cnT W T t+(if t=T f then φ t else 0):=by
   refine List.map_congr_left fun t _=>?_
   rw[cnt_cons];split<;>rw[Int.mul_add]<;>simp
  rw[e1,sum_map_add]
  have e2:∀(K:List Tal),K.Nodup->T f∈K->(K.map fun t=>if t=T f then φ t else 0).sum = φ (T f):=by
   intro K;induction K with
   |nil=>intro _ h;cases h
   |cons t K ih=>
    intro hn hm
    rw[List.nodup_cons]at hn
    rw[List.map_cons,List.sum_cons]
    rcases List.mem_cons.1 hm with e|hm
    ·rw[if_pos e.symm]
     have:(K.map fun t=>if t=T f then φ t else 0).sum=0:=by
      have hz:∀(L:List Tal),T f∉L->(L.map fun t=>if t=T f then φ t else 0).sum=0:=by
       intro L;induction L with
       |nil=>intro _;rfl
       |cons a L ih2=>
        intro hL
        simp only[List.mem_cons,not_or]at hL
        rw[List.map_cons,List.sum_cons,if_neg (fun e=>hL.1 e.symm),ih2 hL.2];rfl
      exact hz K (e ▸ hn.1)
     rw[this,e];omega
    ·have:¬t=T f:=fun e=>hn.1 (e ▸ hm)
     rw[if_neg this,ih hn.2 hm];omega
  rw[e2 K hn (h f (by simp))];omega
theorem Rep.sum{α : Type}{E:Ent}{W:List α}{T : α -> Tal}(h:Rep E W T)(φ : Tal->Int):(E.map fun e => φ e.1*e.2).sum=(W.map fun f => φ (T f)).sum:=by
 rw[<- keys_sum φ h.nd W (fun f hf=>h.mem.2 ⟨f,hf,rfl⟩),List.map_map]
 congr 1
 refine List.map_congr_left fun e he=>?_
 show _ = φ e.1*cnT W T e.1
 rw[<- h.cnt,vE_of h.nd he]
theorem addE_keys{E:Ent}{t:Tal}{v:Int}:∀y,y∈(addE E t v).map (·.1)->y∈E.map (·.1)\/y=t:=by
 induction E with
 |nil=>intro y hy;simp[addE]at hy;exact .inr hy
 |cons a E ih=>
  obtain⟨c,u⟩:=a
  intro y hy
  simp only[addE]at hy
  split at hy
  ·left;simpa using hy
  ·simp only[List.map_cons,List.mem_cons]at hy⊢
   rcases hy with hy|hy
   ·exact .inl (.inl hy)
   ·rcases ih y hy with h|h
    ·exact .inl (.inr h)
    ·exact .inr h
theorem addE_nd{E:Ent}{t:Tal}{v:Int}(h:(E.map (·.1)).Nodup):((addE E t v).map (·.1)).Nodup:=by
 induction E with
 |nil=>simp[addE]
 |cons a E ih=>
  obtain⟨c,u⟩:=a
  rw[List.map_cons,List.nodup_cons]at h
  simp only[addE]
  split
  ·rw[List.map_cons,List.nodup_cons];exact h
  ·rename_i hne
   rw[List.map_cons,List.nodup_cons]
   refine⟨fun hm=>?_,ih h.2⟩
   rcases addE_keys _ hm with q|q
   ·exact h.1 q
   ·exact hne q.symm
theorem addE_pos{E:Ent}{t:Tal}{v:Int}(h:∀e∈E,0<e.2)(hv:0<v):∀e∈addE E t v,0<e.2:=by
 induction E with
 |nil=>intro e he;simp[addE]at he;rw[he];exact hv
 |cons a E ih=>
  obtain⟨c,u⟩:=a
  intro e he
  simp only[addE]at he
  have hu:=h (c,u) (by simp)
  split at he
  ·rcases List.mem_cons.1 he with rfl|he
   ·dsimp only at hu⊢;omega
   ·exact h e (by simp[he])
  ·rcases List.mem_cons.1 he with rfl|he
   ·exact hu
   ·exact ih (fun e he=>h e (by simp[he])) e he
theorem addE_len{E:Ent}{t:Tal}{v:Int}(h:∀e∈E,e.1.length=6)(ht:t.length=6):∀e∈addE E t v,e.1.length=6:=by
 induction E with
 |nil=>intro e he;simp[addE]at he;rw[he];exact ht
 |cons a E ih=>
  obtain⟨c,u⟩:=a
  intro e he
  simp only[addE]at he
  have hu:=h (c,u) (by simp)
  split at he
  ·rcases List.mem_cons.1 he with rfl|he
   ·exact hu
   ·exact h e (by simp[he])
  ·rcases List.mem_cons.1 he with rfl|he
   ·exact hu
   ·exact ih (fun e he=>h e (by simp[he])) e he
theorem Rep.snoc{α : Type}{E:Ent}{W:List α}{T : α -> Tal}(h:Rep E W T){x : α}(hx:(T x).length=6):Rep (addE E (T x) 1) (W++[x]) T:=by
 refine⟨addE_nd h.nd,addE_len h.len hx,fun t=>?_,addE_pos h.pos (by omega)⟩
 have h0:cnT ([]:List α) T t=0:=rfl
 rw[vE_add,h.cnt,cnt_app,cnt_cons,h0];omega
theorem Rep.nil{α : Type}(T : α -> Tal):Rep ([]:Ent) ([]:List α) T:=⟨by simp,by simp,fun t=>rfl,by simp⟩
def addL(a b:Tal):Tal:=List.zipWith (· + ·) a b
def gv(E A:Ent)(t:Tal)(j i:Nat):Int:=if t=addL (E.getD j ([],0)).1 (A.getD i ([],0)).1 then(E.getD j ([],0)).2*(A.getD i ([],0)).2 else 0
def gvs(E A:Ent)(t:Tal)(j:Nat):Int:=((List.range A.length).map (gv E A t j)).sum
theorem range_sum{α : Type}(l:List α)(z : α)(φ : α -> Int):((List.range l.length).map fun j => φ (l.getD j z)).sum=(l.map φ).sum:=by
 congr 1
 apply List.ext_getElem (by simp)
 intro n h1 h2
 have h3:n<l.length:=by simpa using h2
 simp[List.getD_eq_getElem?_getD,h3]
theorem Rep.mul{α β γ : Type}{E A:Ent}{W:List α}{X:List β}{T : α -> Tal}{S : β -> Tal}(hE:Rep E W T)(hA:Rep A X S)(g : α -> β -> γ)(U : γ -> Tal)(hU:∀f∈W,∀x∈X,U (g f x)=addL (T f) (S x))(t:Tal) :
  ((List.range E.length).map (gvs E A t)).sum=cnT (W.flatMap fun f=>X.map (g f)) U t:=by
 have e1:∀j,gvs E A t j=(A.map fun a=>(if t=addL (E.getD j ([],0)).1 a.1 then(E.getD j ([],0)).2 else 0)*a.2).sum:=fun j=>by
  unfold gvs
  rw[<- range_sum A ([],0)]
  congr 1
  refine List.map_congr_left fun i _=>?_
  unfold gv;split<;>simp
 have e2:∀j,gvs E A t j=(X.map fun x=>if t=addL (E.getD j ([],0)).1 (S x) then(1:Int) else 0).sum*(E.getD j ([],0)).2:=fun j=>by
  rw[e1,hA.sum (fun a=>if t=addL (E.getD j ([],0)).1 a then(E.getD j ([],0)).2 else 0)]
  generalize (E.getD j ([],0)).2=m
  generalize (E.getD j ([],0)).1=c
  induction X with
  |nil=>simp
  |cons x X ih=>
   have:∀(X:List β),(X.map fun x=>if t=addL c (S x) then m else 0).sum=(X.map fun x=>if t=addL c (S x) then(1:Int) else 0).sum*m:=by
    intro X;induction X with
    |nil=>simp
    |cons y X ih2=>simp only[List.map_cons,List.sum_cons,ih2,Int.add_mul];split<;>simp
   exact this _
 have e3:((List.range E.length).map (gvs E A t)).sum=(E.map fun e=>(X.map fun x=>if t=addL e.1 (S x) then(1:Int) else 0).sum*e.2).sum:=by
  rw[<- range_sum E ([],0)]
  congr 1
  exact List.map_congr_left fun j _=>e2 j
 rw[e3,hE.sum (fun c=>(X.map fun x=>if t=addL c (S x) then(1:Int) else 0).sum)]
 clear e1 e2 e3 hE
 have hrow:∀f∈W,cnT (X.map (g f)) U t=(X.map fun x=>if t=addL (T f) (S x) then(1:Int) else 0).sum:=fun f hf=>by
  have:∀(Y:List β),(∀x∈Y,x∈X)->cnT (Y.map (g f)) U t=(Y.map fun x=>if t=addL (T f) (S x) then(1:Int) else 0).sum:=by
   intro Y;induction Y with
   |nil=>intro _;simp[cnT]
   |cons y Y ih=>
    intro hy
    rw[List.map_cons,cnt_cons,ih (fun x hx=>hy x (by simp[hx])),List.map_cons,List.sum_cons,hU f hf y (hy y (by simp))];omega
  exact this X (fun x hx=>hx)
 induction W with
 |nil=>simp[cnT]
 |cons f W ih=>
  rw[List.flatMap_cons,cnt_app,List.map_cons,List.sum_cons,hrow f (by simp),ih (fun f' hf'=>hU f' (by simp[hf'])) (fun f' hf'=>hrow f' (by simp[hf']))]
theorem p70(n lo hi:Int):FnA Tryz.prog 92 [.int .i64 n, .int .i64 lo, .int .i64 hi] (· = .bool (decide (lo<=n/\n<=hi))):=by
 refine fnA 0 ok92 (by simp) ?_
 (conv=>whnf);(repeat'((first|apply bT|apply bF|apply bN|((first|apply bD|apply bEq|apply bNe)<;>intro hh<;>try(exfalso;omega))|refine wJ ?_|refine nJ ?_)<;>conv=>whnf))
 all_goals first|rfl|exact congrArg AV.bool (decide_eq_decide.2 (by omega))|exact congrArg AV.bool (decide_eq_true (by omega)).symm|exact congrArg AV.bool (decide_eq_false (by omega)).symm
theorem p43(n:Int):FnA Tryz.prog 61 [.int .i64 n] (· = .bool (decide (0<=n/\n<=99))):=by
 have e:=p70 n 0 99
 refine fnA 0 ok61 (by simp) ?_
 (conv=>whnf);(repeat'((first|apply bT|apply bF|apply bN|((first|apply bD|apply bEq|apply bNe)<;>intro hh<;>try(exfalso;omega))|refine e.cq rfl rfl ?_|refine wJ ?_|refine nJ ?_)<;>conv=>whnf))
 all_goals rfl
theorem p93(m:Met):FnA Tryz.prog 91 [.agg m.av] (· = .bool (decide (okMet m))):=by
 have e1:=p43 m.L
 have e2:=p70 m.c 0 8
 unfold okMet
 by_cases h:0<=m.L/\m.L<=99
 ·rw[decide_eq_true h]at e1
  refine fnA 1 ok91 (by simp) ?_
  (conv=>whnf);(repeat'((first|apply bT|apply bF|apply bN|((first|apply bD|apply bEq|apply bNe)<;>intro hh<;>try(exfalso;omega))|refine e1.cq rfl rfl ?_|refine e2.cq rfl rfl ?_|refine wJ ?_|refine nJ ?_)<;>conv=>whnf))
  all_goals first|rfl|exact congrArg AV.bool (decide_eq_decide.2 (by omega))|exact congrArg AV.bool (decide_eq_true (by omega)).symm|exact congrArg AV.bool (decide_eq_false (by omega)).symm
 ·rw[decide_eq_false h]at e1
  refine fnA 1 ok91 (by simp) ?_
  (conv=>whnf);(repeat'((first|apply bT|apply bF|apply bN|((first|apply bD|apply bEq|apply bNe)<;>intro hh<;>try(exfalso;omega))|refine e1.cq rfl rfl ?_|refine e2.cq rfl rfl ?_|refine wJ ?_|refine nJ ?_)<;>conv=>whnf))
  all_goals exact congrArg AV.bool (decide_eq_false (fun hh=>h hh.1)).symm
theorem p92(l:List Met)(hn:l.length<=1000):FnA Tryz.prog 90 [.isl (l.map Met.av), .fn 91 []] (· = .bool (l.all fun m=>decide (okMet m))):=by
 have hL:(l.map Met.av).length=l.length:=by simp
 refine fnA 1 ok90 (by simp) ?_
 conv=>whnf
 refine loop_i (α :=Nat) (fun k=>[(9, .int .i64 k),(8, .int .i64 (l.map Met.av).length),(7, .isl (l.map Met.av)),(1, .fn 91 [])]) (fun _=>[.fresh]) (fun k=>k<=l.length/\∀g∈l.take k,decide (okMet g)=true) (fun k=>l.length-k) 0 mI ⟨by omega,by simp⟩ ?_
 rintro k ⟨hk,hp⟩
 conv=>whnf
 refine bD (fun h3=>?_) (fun h3=>?_)
 ·have hlt:k<l.length:=by omega
  have hv:FnV Tryz.prog (.fn 91 []) [.agg l[k].av] (· = .bool (decide (okMet l[k]))):=fnV_of bd91 (p93 l[k])
  (conv=>whnf);(repeat'((first|apply bT|apply bF|apply bN|((first|apply bD|apply bEq|apply bNe)<;>intro hh<;>try(exfalso;omega))|refine iaJ (getD_map Met.av l k hlt) ?_|refine wJ ?_|refine nJ ?_)<;>conv=>whnf))
  refine hv.vcallq rfl rfl rfl rfl (fun r (hr:r=_)=>?_);subst hr
  by_cases hm:okMet l[k]
  ·rw[decide_eq_true hm]
   (conv=>whnf);(repeat'((first|apply bT|apply bF|apply bN|((first|apply bD|apply bEq|apply bNe)<;>intro hh<;>try(exfalso;omega))|refine wJ ?_|refine nJ ?_)<;>conv=>whnf))
   exact⟨k+1,mI,⟨by omega,gtake_all (p:=fun m=>decide (okMet m)) hlt hp (decide_eq_true hm)⟩,by omega⟩
  ·rw[decide_eq_false hm]
   (conv=>whnf);(repeat'((first|apply bT|apply bF|apply bN|((first|apply bD|apply bEq|apply bNe)<;>intro hh<;>try(exfalso;omega))|refine wJ ?_|refine nJ ?_)<;>conv=>whnf))
   all_goals (rw[all_false (p:=fun m=>decide (okMet m)) hlt (decide_eq_false hm)])
 ·have:k=l.length:=by omega
  subst this
  have:l.all (fun m=>decide (okMet m))=true:=List.all_eq_true.2 (fun g hg=>hp g (by rwa [List.take_length]))
  rw[this]
  (conv=>whnf);(repeat'((first|apply bT|apply bF|apply bN|((first|apply bD|apply bEq|apply bNe)<;>intro hh<;>try(exfalso;omega))|refine wJ ?_|refine nJ ?_)<;>conv=>whnf))
  all_goals rfl
theorem p91(r:Ru)(b:Blw)(h:r.d.rs.length<=1000):FnA Tryz.prog 89 [.agg r.cells, .agg b.av] (· = .bool (decide (okBlw r.d.rs.length b))):=by
 have hL:(r.d.rs.map s2).length=r.d.rs.length:=by simp
 have e1:=p70 b.a 0 (((r.d.rs.map s2).length:Int)-1)
 have e2:=p70 b.lo 0 b.hi
 have e3:=p43 b.hi
 unfold okBlw
 by_cases h1:0<=b.a/\b.a<=((r.d.rs.map s2).length:Int)-1
 ·rw[decide_eq_true h1]at e1
  by_cases h2:0<=b.lo/\b.lo<=b.hi
  ·rw[decide_eq_true h2]at e2
   by_cases h3:0<=b.hi/\b.hi<=99
   ·rw[decide_eq_true h3]at e3
    refine fnA 2 ok89 (by simp) ?_
    (conv=>whnf);(repeat'((first|apply bT|apply bF|apply bN|((first|apply bD|apply bEq|apply bNe)<;>intro hh<;>try(exfalso;omega))|refine e1.cq rfl rfl ?_|refine e2.cq rfl rfl ?_|refine e3.cq rfl rfl ?_|refine wJ ?_|refine nJ ?_)<;>conv=>whnf))
    all_goals first|rfl|exact congrArg AV.bool (decide_eq_decide.2 (by omega))|exact congrArg AV.bool (decide_eq_true (by omega)).symm|exact congrArg AV.bool (decide_eq_false (by omega)).symm
   ·rw[decide_eq_false h3]at e3
    refine fnA 2 ok89 (by simp) ?_
    (conv=>whnf);(repeat'((first|apply bT|apply bF|apply bN|((first|apply bD|apply bEq|apply bNe)<;>intro hh<;>try(exfalso;omega))|refine e1.cq rfl rfl ?_|refine e2.cq rfl rfl ?_|refine e3.cq rfl rfl ?_|refine wJ ?_|refine nJ ?_)<;>conv=>whnf))
    all_goals first|rfl|exact congrArg AV.bool (decide_eq_decide.2 (by omega))|exact congrArg AV.bool (decide_eq_true (by omega)).symm|exact congrArg AV.bool (decide_eq_false (by omega)).symm
  ·rw[decide_eq_false h2]at e2
   refine fnA 2 ok89 (by simp) ?_
   (conv=>whnf);(repeat'((first|apply bT|apply bF|apply bN|((first|apply bD|apply bEq|apply bNe)<;>intro hh<;>try(exfalso;omega))|refine e1.cq rfl rfl ?_|refine e2.cq rfl rfl ?_|refine wJ ?_|refine nJ ?_)<;>conv=>whnf))
   all_goals first|rfl|exact congrArg AV.bool (decide_eq_decide.2 (by omega))|exact congrArg AV.bool (decide_eq_true (by omega)).symm|exact congrArg AV.bool (decide_eq_false (by omega)).symm
 ·rw[decide_eq_false h1]at e1
  refine fnA 2 ok89 (by simp) ?_
  (conv=>whnf);(repeat'((first|apply bT|apply bF|apply bN|((first|apply bD|apply bEq|apply bNe)<;>intro hh<;>try(exfalso;omega))|refine e1.cq rfl rfl ?_|refine wJ ?_|refine nJ ?_)<;>conv=>whnf))
  all_goals first|rfl|exact congrArg AV.bool (decide_eq_decide.2 (by omega))|exact congrArg AV.bool (decide_eq_true (by omega)).symm|exact congrArg AV.bool (decide_eq_false (by omega)).symm
theorem p90(r:Ru)(b:Blw)(h:r.d.rs.length<=1000):FnA Tryz.prog 88 [.agg b.av, .ipt r.cells] (· = .bool (decide (okBlw r.d.rs.length b))):=by
 have e:=p91 r b h
 refine fnA 1 ok88 (by simp) ?_
 (conv=>whnf);(repeat'((first|apply bT|apply bF|apply bN|((first|apply bD|apply bEq|apply bNe)<;>intro hh<;>try(exfalso;omega))|refine e.cq rfl rfl ?_|refine wJ ?_|refine nJ ?_)<;>conv=>whnf))
 all_goals rfl
theorem p89(r:Ru)(hr:r.d.rs.length<=1000)(hn:r.bs.length<=1000):FnA Tryz.prog 87 [.isl (r.bs.map Blw.av), .fn 88 [.ipt r.cells]] (· = .bool (r.bs.all fun b=>decide (okBlw r.d.rs.length b))):=by
 have key:∀(l:List Blw),l.length<=1000->FnA Tryz.prog 87 [.isl (l.map Blw.av), .fn 88 [.ipt r.cells]] (· = .bool (l.all fun b=>decide (okBlw r.d.rs.length b))):=fun l hn=>by
  have hL:(l.map Blw.av).length=l.length:=by simp
  refine fnA 1 ok87 (by simp) ?_
  conv=>whnf
  refine loop_i (α :=Nat) (fun k=>[(9, .int .i64 k),(8, .int .i64 (l.map Blw.av).length),(7, .isl (l.map Blw.av)),(1, .fn 88 [.ipt r.cells])]) (fun _=>[.fresh]) (fun k=>k<=l.length/\∀g∈l.take k,decide (okBlw r.d.rs.length g)=true) (fun k=>l.length-k) 0 mI ⟨by omega,by simp⟩ ?_
  rintro k ⟨hk,hp⟩
  conv=>whnf
  refine bD (fun h3=>?_) (fun h3=>?_)
  ·have hlt:k<l.length:=by omega
   have hv:FnV Tryz.prog (.fn 88 [.ipt r.cells]) [.agg l[k].av] (· = .bool (decide (okBlw r.d.rs.length l[k]))):=fnV_of bd88 (p90 r l[k] hr)
   (conv=>whnf);(repeat'((first|apply bT|apply bF|apply bN|((first|apply bD|apply bEq|apply bNe)<;>intro hh<;>try(exfalso;omega))|refine iaJ (getD_map Blw.av l k hlt) ?_|refine wJ ?_|refine nJ ?_)<;>conv=>whnf))
   refine hv.vcallq rfl rfl rfl rfl (fun r (hr:r=_)=>?_);subst hr
   by_cases hm:okBlw r.d.rs.length l[k]
   ·rw[decide_eq_true hm]
    (conv=>whnf);(repeat'((first|apply bT|apply bF|apply bN|((first|apply bD|apply bEq|apply bNe)<;>intro hh<;>try(exfalso;omega))|refine wJ ?_|refine nJ ?_)<;>conv=>whnf))
    exact⟨k+1,mI,⟨by omega,gtake_all (p:=fun b=>decide (okBlw r.d.rs.length b)) hlt hp (decide_eq_true hm)⟩,by omega⟩
   ·rw[decide_eq_false hm]
    (conv=>whnf);(repeat'((first|apply bT|apply bF|apply bN|((first|apply bD|apply bEq|apply bNe)<;>intro hh<;>try(exfalso;omega))|refine wJ ?_|refine nJ ?_)<;>conv=>whnf))
    all_goals (rw[all_false (p:=fun b=>decide (okBlw r.d.rs.length b)) hlt (decide_eq_false hm)])
  ·have:k=l.length:=by omega
   subst this
   have:l.all (fun b=>decide (okBlw r.d.rs.length b))=true:=List.all_eq_true.2 (fun g hg=>hp g (by rwa [List.take_length]))
   rw[this]
   (conv=>whnf);(repeat'((first|apply bT|apply bF|apply bN|((first|apply bD|apply bEq|apply bNe)<;>intro hh<;>try(exfalso;omega))|refine wJ ?_|refine nJ ?_)<;>conv=>whnf))
   all_goals rfl
 exact key r.bs hn
theorem p66(r:Ru)(h:Sm r):FnA Tryz.prog 46 [.agg r.cells] (· = .bool r.ok):=by
 have hB:(r.bs.map Blw.av).length=r.bs.length:=by simp
 have hM:(r.ms.map Met.av).length=r.ms.length:=by simp
 have e1:=g39 r.d h.n h.s
 have e2:=p89 r h.n h.b
 have e3:=p92 r.ms h.m
 have e4:=p70 r.w 0 5
 have hbl:=h.b
 have hml:=h.m
 unfold Dm.err at e1
 unfold Ru.ok
 by_cases h1:r.d.okB=true
 ·rw[if_pos h1]at e1
  rw[h1]
  by_cases h2:r.bs.length<=8
  ·rw[decide_eq_true h2]
   cases h3:r.bs.all fun b=>decide (okBlw r.d.rs.length b)
   ·rw[h3]at e2
    refine fnA 1 ok46 (by simp) ?_
    (conv=>whnf);(repeat'((first|apply bT|apply bF|apply bN|((first|apply bD|apply bEq|apply bNe)<;>intro hh<;>try(exfalso;omega))|refine e1.cq rfl rfl ?_|refine e2.lq rfl rfl ?_|refine wJ ?_|refine nJ ?_)<;>conv=>whnf))
    all_goals simp
   ·rw[h3]at e2
    by_cases h4:r.ms.length<=5
    ·rw[decide_eq_true h4]
     cases h5:r.ms.all fun m=>decide (okMet m)
     ·rw[h5]at e3
      refine fnA 1 ok46 (by simp) ?_
      (conv=>whnf);(repeat'((first|apply bT|apply bF|apply bN|((first|apply bD|apply bEq|apply bNe)<;>intro hh<;>try(exfalso;omega))|refine e1.cq rfl rfl ?_|refine e2.lq rfl rfl ?_|refine e3.cq rfl rfl ?_|refine wJ ?_|refine nJ ?_)<;>conv=>whnf))
      all_goals simp
     ·rw[h5]at e3
      refine fnA 1 ok46 (by simp) ?_
      (conv=>whnf);(repeat'((first|apply bT|apply bF|apply bN|((first|apply bD|apply bEq|apply bNe)<;>intro hh<;>try(exfalso;omega))|refine e1.cq rfl rfl ?_|refine e2.lq rfl rfl ?_|refine e3.cq rfl rfl ?_|refine e4.cq rfl rfl ?_|refine wJ ?_|refine nJ ?_)<;>conv=>whnf))
      all_goals simp
    ·rw[decide_eq_false h4]
     refine fnA 1 ok46 (by simp) ?_
     (conv=>whnf);(repeat'((first|apply bT|apply bF|apply bN|((first|apply bD|apply bEq|apply bNe)<;>intro hh<;>try(exfalso;omega))|refine e1.cq rfl rfl ?_|refine e2.lq rfl rfl ?_|refine wJ ?_|refine nJ ?_)<;>conv=>whnf))
     all_goals simp
  ·rw[decide_eq_false h2]
   refine fnA 1 ok46 (by simp) ?_
   (conv=>whnf);(repeat'((first|apply bT|apply bF|apply bN|((first|apply bD|apply bEq|apply bNe)<;>intro hh<;>try(exfalso;omega))|refine e1.cq rfl rfl ?_|refine wJ ?_|refine nJ ?_)<;>conv=>whnf))
   all_goals simp
 ·rw[if_neg h1]at e1
  have h1':r.d.okB=false:=by simpa using h1
  rw[h1']
  refine fnA 1 ok46 (by simp) ?_
  (conv=>whnf);(repeat'((first|apply bT|apply bF|apply bN|((first|apply bD|apply bEq|apply bNe)<;>intro hh<;>try(exfalso;omega))|refine e1.cq rfl rfl ?_|refine wJ ?_|refine nJ ?_)<;>conv=>whnf))
  all_goals simp
theorem p37(r:Ru)(h:Sm r):FnA Tryz.prog 10 [.agg r.cells] (· = .int .i64 r.chk):=by
 have e1:=p66 r h
 unfold Ru.chk
 cases ho:r.ok
 ·rw[ho]at e1
  refine fnA 1 ok10 (by simp) ?_
  (conv=>whnf);(repeat'((first|apply bT|apply bF|apply bN|((first|apply bD|apply bEq|apply bNe)<;>intro hh<;>try(exfalso;omega))|refine e1.cq rfl rfl ?_|refine wJ ?_|refine nJ ?_)<;>conv=>whnf))
  all_goals rfl
 ·rw[ho]at e1
  refine fnA 1 ok10 (by simp) ?_
  (conv=>whnf);(repeat'((first|apply bT|apply bF|apply bN|((first|apply bD|apply bEq|apply bNe)<;>intro hh<;>try(exfalso;omega))|refine e1.cq rfl rfl ?_|refine wJ ?_|refine nJ ?_)<;>conv=>whnf))
  all_goals rfl
theorem p42(r:Ru)(m:Int)(h:Sm r):FnA Tryz.prog 57 [.agg r.cells, .int .i64 m] (· = .bool (decide (0<=m/\m<=(r.ms.length:Int)-1))):=by
 have hM:(r.ms.map Met.av).length=r.ms.length:=by simp
 have e1:=p70 m 0 (((r.ms.map Met.av).length:Int)-1)
 have hml:=h.m
 refine fnA 1 ok57 (by simp) ?_
 (conv=>whnf);(repeat'((first|apply bT|apply bF|apply bN|((first|apply bD|apply bEq|apply bNe)<;>intro hh<;>try(exfalso;omega))|refine e1.cq rfl rfl ?_|refine wJ ?_|refine nJ ?_)<;>conv=>whnf))
 all_goals simp
theorem p46(r:Ru)(q:Int)(h:Sm r):FnA Tryz.prog 54 [.agg r.cells, .int .i64 q] (· = .bool (decide (0<=q/\q<=(r.bs.length:Int)-1))):=by
 have hB:(r.bs.map Blw.av).length=r.bs.length:=by simp
 have e1:=p70 q 0 (((r.bs.map Blw.av).length:Int)-1)
 have hbl:=h.b
 refine fnA 1 ok54 (by simp) ?_
 (conv=>whnf);(repeat'((first|apply bT|apply bF|apply bN|((first|apply bD|apply bEq|apply bNe)<;>intro hh<;>try(exfalso;omega))|refine e1.cq rfl rfl ?_|refine wJ ?_|refine nJ ?_)<;>conv=>whnf))
 all_goals simp
theorem p95(a b:Tal)(ha:a.length=6)(hb:b.length=6)(h1:∀x∈a,0<=x/\x<=1000)(h2:∀x∈b,0<=x/\x<=1000):FnA Tryz.prog 115 [tkA a,tkA b] (· = tkA (addL a b)):=by
 obtain⟨a0,a1,a2,a3,a4,a5,rfl⟩:=six ha
 obtain⟨b0,b1,b2,b3,b4,b5,rfl⟩:=six hb
 simp only[List.mem_cons,List.not_mem_nil,or_false,forall_eq_or_imp,forall_eq]at h1 h2
 refine fnA 3 ok115 (by simp) ?_
 conv=>whnf
 refine loop_i (α :=Nat) (fun k=>[(8, .int .i64 k),(7, .agg [.int .i64 b0, .int .i64 b1, .int .i64 b2, .int .i64 b3, .int .i64 b4, .int .i64 b5]),(2, .own 0 0),(4, .own 2 0)]) (fun k=>[.box false [.int .i64 (if 0<k then a0+b0 else a0), .int .i64 (if 1<k then a1+b1 else a1), .int .i64 (if 2<k then a2+b2 else a2), .int .i64 (if 3<k then a3+b3 else a3), .int .i64 (if 4<k then a4+b4 else a4), .int .i64 (if 5<k then a5+b5 else a5)], .fresh, .box false [.int .i64 0, .int .i64 0, .int .i64 0, .int .i64 0, .int .i64 0, .int .i64 0]]) (fun k=>k<=6) (fun k=>6-k) 0 mI (by omega) ?_
 intro k hk
 conv=>whnf
 refine bD (fun h3=>?_) (fun h3=>?_)
 ·have hlt:k<6:=by omega
  by_cases h10:k=0
  ·subst h10
   (conv=>whnf);(repeat'((first|apply bT|apply bF|apply bN|((first|apply bD|apply bEq|apply bNe)<;>intro hh<;>try(exfalso;omega))|refine idI (by omega) (by omega) rfl ?_|refine wJ ?_|refine nJ ?_)<;>conv=>whnf))
   exact⟨0+1,mI,by omega,by omega⟩
  by_cases h11:k=1
  ·subst h11
   (conv=>whnf);(repeat'((first|apply bT|apply bF|apply bN|((first|apply bD|apply bEq|apply bNe)<;>intro hh<;>try(exfalso;omega))|refine idI (by omega) (by omega) rfl ?_|refine wJ ?_|refine nJ ?_)<;>conv=>whnf))
   exact⟨1+1,mI,by omega,by omega⟩
  by_cases h12:k=2
  ·subst h12
   (conv=>whnf);(repeat'((first|apply bT|apply bF|apply bN|((first|apply bD|apply bEq|apply bNe)<;>intro hh<;>try(exfalso;omega))|refine idI (by omega) (by omega) rfl ?_|refine wJ ?_|refine nJ ?_)<;>conv=>whnf))
   exact⟨2+1,mI,by omega,by omega⟩
  by_cases h13:k=3
  ·subst h13
   (conv=>whnf);(repeat'((first|apply bT|apply bF|apply bN|((first|apply bD|apply bEq|apply bNe)<;>intro hh<;>try(exfalso;omega))|refine idI (by omega) (by omega) rfl ?_|refine wJ ?_|refine nJ ?_)<;>conv=>whnf))
   exact⟨3+1,mI,by omega,by omega⟩
  by_cases h14:k=4
  ·subst h14
   (conv=>whnf);(repeat'((first|apply bT|apply bF|apply bN|((first|apply bD|apply bEq|apply bNe)<;>intro hh<;>try(exfalso;omega))|refine idI (by omega) (by omega) rfl ?_|refine wJ ?_|refine nJ ?_)<;>conv=>whnf))
   exact⟨4+1,mI,by omega,by omega⟩
  have h15:k=5:=by omega
  subst h15
  (conv=>whnf);(repeat'((first|apply bT|apply bF|apply bN|((first|apply bD|apply bEq|apply bNe)<;>intro hh<;>try(exfalso;omega))|refine idI (by omega) (by omega) rfl ?_|refine wJ ?_|refine nJ ?_)<;>conv=>whnf))
  exact⟨5+1,mI,by omega,by omega⟩
 ·have:k=6:=by omega
  subst this
  (conv=>whnf);(repeat'((first|apply bT|apply bF|apply bN|((first|apply bD|apply bEq|apply bNe)<;>intro hh<;>try(exfalso;omega))|refine wJ ?_|refine nJ ?_)<;>conv=>whnf))
  all_goals rfl
def wrT(ms:List Met)(c:Tal):Nat:=(List.range ms.length).countP fun i => !decide (c.getD i 0=(ms.getD i ⟨0,0⟩).c)
def wrK(ms:List Met)(c:Tal)(k:Nat):Nat:=(List.range k).countP fun i => !decide (c.getD i 0=(ms.getD i ⟨0,0⟩).c)
theorem wrK_suc(ms:List Met)(c:Tal)(k:Nat):wrK ms c (k+1)=wrK ms c k+if c.getD k 0=(ms.getD k ⟨0,0⟩).c then 0 else 1:=by
 unfold wrK
 rw[List.range_succ,List.countP_append,List.countP_singleton]
 by_cases h:c.getD k 0=(ms.getD k ⟨0,0⟩).c<;>simp only[h,decide_true,decide_false,Bool.not_true,Bool.not_false,if_true,if_false]<;>simp
theorem wrK_le(ms:List Met)(c:Tal)(k:Nat):wrK ms c k<=k:=by
 unfold wrK
 have:=List.countP_le_length (l:=List.range k) (p:=fun i => !decide (c.getD i 0=(ms.getD i ⟨0,0⟩).c))
 simpa using this
theorem p68(r:Ru)(c:Tal)(hc:c.length=6)(hm:r.ms.length<=5):FnA Tryz.prog 96 [.agg r.cells,tkA c] (· = .int .i64 (wrT r.ms c:Nat)):=by
 have hL:(r.ms.map Met.av).length=r.ms.length:=by simp
 obtain⟨c0,c1,c2,c3,c4,c5,rfl⟩:=six hc
 refine fnA 3 ok96 (by simp) ?_
 conv=>whnf
 refine loop_i (α :=Nat) (fun k=>[(12, .int .i64 k),(11, .int .i64 (r.ms.map Met.av).length),(10, .isl (r.ms.map Met.av)),(5, .int .i64 (wrK r.ms [c0,c1,c2,c3,c4,c5] k:Nat)),(3, .own 1 0),(2, .own 0 0)]) (fun k=>[.box false r.cells, .box false [.int .i64 c0, .int .i64 c1, .int .i64 c2, .int .i64 c3, .int .i64 c4, .int .i64 c5], .fresh]) (fun k=>k<=r.ms.length) (fun k=>r.ms.length-k) 0 mI (by omega) ?_
 intro k hk
 have hw:=wrK_le r.ms [c0,c1,c2,c3,c4,c5] k
 have hs:=wrK_suc r.ms [c0,c1,c2,c3,c4,c5] k
 conv=>whnf
 refine bD (fun h3=>?_) (fun h3=>?_)
 ·have hlt:k<r.ms.length:=by omega
  have g1:=gM r.ms k hlt
  by_cases h10:k=0
  ·have hs':wrK r.ms [c0,c1,c2,c3,c4,c5] (0+1)=wrK r.ms [c0,c1,c2,c3,c4,c5] 0+if c0=(r.ms.getD 0 ⟨0,0⟩).c then 0 else 1:=by subst h10;exact hs
   clear hs
   subst h10
   by_cases hq:c0=(r.ms.getD 0 ⟨0,0⟩).c
   ·rw[if_pos hq]at hs'
    (conv=>whnf);(repeat'((first|apply bT|apply bF|apply bN|((first|apply bD|apply bEq|apply bNe)<;>intro hh<;>try(exfalso;omega))|refine iaJ g1 ?_|refine wJ ?_|refine nJ ?_)<;>conv=>whnf))
    refine⟨0+1,?_,by omega,by omega⟩
    rw[hs',Nat.add_zero]
    exact mI
   ·rw[if_neg hq]at hs'
    (conv=>whnf);(repeat'((first|apply bT|apply bF|apply bN|((first|apply bD|apply bEq|apply bNe)<;>intro hh<;>try(exfalso;omega))|refine iaJ g1 ?_|refine wJ ?_|refine nJ ?_)<;>conv=>whnf))
    refine⟨0+1,?_,by omega,by omega⟩
    rw[hs',Int.natCast_add,Int.natCast_one]
    exact mI
  by_cases h11:k=1
  ·have hs':wrK r.ms [c0,c1,c2,c3,c4,c5] (1+1)=wrK r.ms [c0,c1,c2,c3,c4,c5] 1+if c1=(r.ms.getD 1 ⟨0,0⟩).c then 0 else 1:=by subst h11;exact hs
   clear hs
   subst h11
   by_cases hq:c1=(r.ms.getD 1 ⟨0,0⟩).c
   ·rw[if_pos hq]at hs'
    (conv=>whnf);(repeat'((first|apply bT|apply bF|apply bN|((first|apply bD|apply bEq|apply bNe)<;>intro hh<;>try(exfalso;omega))|refine iaJ g1 ?_|refine wJ ?_|refine nJ ?_)<;>conv=>whnf))
    refine⟨1+1,?_,by omega,by omega⟩
    rw[hs',Nat.add_zero]
    exact mI
   ·rw[if_neg hq]at hs'
    (conv=>whnf);(repeat'((first|apply bT|apply bF|apply bN|((first|apply bD|apply bEq|apply bNe)<;>intro hh<;>try(exfalso;omega))|refine iaJ g1 ?_|refine wJ ?_|refine nJ ?_)<;>conv=>whnf))
    refine⟨1+1,?_,by omega,by omega⟩
    rw[hs',Int.natCast_add,Int.natCast_one]
    exact mI
  by_cases h12:k=2
  ·have hs':wrK r.ms [c0,c1,c2,c3,c4,c5] (2+1)=wrK r.ms [c0,c1,c2,c3,c4,c5] 2+if c2=(r.ms.getD 2 ⟨0,0⟩).c then 0 else 1:=by subst h12;exact hs
   clear hs
   subst h12
   by_cases hq:c2=(r.ms.getD 2 ⟨0,0⟩).c
   ·rw[if_pos hq]at hs'
    (conv=>whnf);(repeat'((first|apply bT|apply bF|apply bN|((first|apply bD|apply bEq|apply bNe)<;>intro hh<;>try(exfalso;omega))|refine iaJ g1 ?_|refine wJ ?_|refine nJ ?_)<;>conv=>whnf))
    refine⟨2+1,?_,by omega,by omega⟩
    rw[hs',Nat.add_zero]
    exact mI
   ·rw[if_neg hq]at hs'
    (conv=>whnf);(repeat'((first|apply bT|apply bF|apply bN|((first|apply bD|apply bEq|apply bNe)<;>intro hh<;>try(exfalso;omega))|refine iaJ g1 ?_|refine wJ ?_|refine nJ ?_)<;>conv=>whnf))
    refine⟨2+1,?_,by omega,by omega⟩
    rw[hs',Int.natCast_add,Int.natCast_one]
    exact mI
  by_cases h13:k=3
  ·have hs':wrK r.ms [c0,c1,c2,c3,c4,c5] (3+1)=wrK r.ms [c0,c1,c2,c3,c4,c5] 3+if c3=(r.ms.getD 3 ⟨0,0⟩).c then 0 else 1:=by subst h13;exact hs
   clear hs
   subst h13
   by_cases hq:c3=(r.ms.getD 3 ⟨0,0⟩).c
   ·rw[if_pos hq]at hs'
    (conv=>whnf);(repeat'((first|apply bT|apply bF|apply bN|((first|apply bD|apply bEq|apply bNe)<;>intro hh<;>try(exfalso;omega))|refine iaJ g1 ?_|refine wJ ?_|refine nJ ?_)<;>conv=>whnf))
    refine⟨3+1,?_,by omega,by omega⟩
    rw[hs',Nat.add_zero]
    exact mI
   ·rw[if_neg hq]at hs'
    (conv=>whnf);(repeat'((first|apply bT|apply bF|apply bN|((first|apply bD|apply bEq|apply bNe)<;>intro hh<;>try(exfalso;omega))|refine iaJ g1 ?_|refine wJ ?_|refine nJ ?_)<;>conv=>whnf))
    refine⟨3+1,?_,by omega,by omega⟩
    rw[hs',Int.natCast_add,Int.natCast_one]
    exact mI
  have h14:k=4:=by omega
  ·have hs':wrK r.ms [c0,c1,c2,c3,c4,c5] (4+1)=wrK r.ms [c0,c1,c2,c3,c4,c5] 4+if c4=(r.ms.getD 4 ⟨0,0⟩).c then 0 else 1:=by subst h14;exact hs
   clear hs
   subst h14
   by_cases hq:c4=(r.ms.getD 4 ⟨0,0⟩).c
   ·rw[if_pos hq]at hs'
    (conv=>whnf);(repeat'((first|apply bT|apply bF|apply bN|((first|apply bD|apply bEq|apply bNe)<;>intro hh<;>try(exfalso;omega))|refine iaJ g1 ?_|refine wJ ?_|refine nJ ?_)<;>conv=>whnf))
    refine⟨4+1,?_,by omega,by omega⟩
    rw[hs',Nat.add_zero]
    exact mI
   ·rw[if_neg hq]at hs'
    (conv=>whnf);(repeat'((first|apply bT|apply bF|apply bN|((first|apply bD|apply bEq|apply bNe)<;>intro hh<;>try(exfalso;omega))|refine iaJ g1 ?_|refine wJ ?_|refine nJ ?_)<;>conv=>whnf))
    refine⟨4+1,?_,by omega,by omega⟩
    rw[hs',Int.natCast_add,Int.natCast_one]
    exact mI
 ·have:k=r.ms.length:=by omega
  subst this
  (conv=>whnf);(repeat'((first|apply bT|apply bF|apply bN|((first|apply bD|apply bEq|apply bNe)<;>intro hh<;>try(exfalso;omega))|refine wJ ?_|refine nJ ?_)<;>conv=>whnf))
  all_goals rfl
def m1(ms:List Met)(x:Int)(i:Nat):Int:=if i<ms.length/\(ms.getD i ⟨0,0⟩).L<=x then 1 else 0
def T1(ms:List Met)(h:Bool)(x:Int):Tal:=[m1 ms x 0,m1 ms x 1,m1 ms x 2,m1 ms x 3,m1 ms x 4,if h=true then 1 else 0]
def mk1(ms:List Met)(x:Int)(k i:Nat):Int:=if i<k then m1 ms x i else 0
theorem mk1_len(ms:List Met)(x:Int)(i:Nat):mk1 ms x ms.length i=m1 ms x i:=by
 unfold mk1 m1;split
 ·rfl
 ·rename_i h;rw[if_neg (fun hh=>h hh.1)]
def tl1(ms:List Met)(f:List Int)(i:Nat):Int:=if i<ms.length then((abv f (ms.getD i ⟨0,0⟩).L:Nat):Int) else 0
def hQ(Q:Nat->Int->Bool)(f:List Int):Int:=((List.range f.length).countP fun j=>Q j (f.getD j 0):Nat)
def TL(ms:List Met)(Q:Nat->Int->Bool)(f:List Int):Tal:=[tl1 ms f 0,tl1 ms f 1,tl1 ms f 2,tl1 ms f 3,tl1 ms f 4,hQ Q f]
theorem tl1_snoc(ms:List Met)(f:List Int)(x:Int)(i:Nat):tl1 ms (f++[x]) i=tl1 ms f i+m1 ms x i:=by
 unfold tl1 m1 abv
 by_cases h:i<ms.length
 ·rw[if_pos h,if_pos h,List.countP_append,List.countP_singleton]
  by_cases h2:(ms.getD i ⟨0,0⟩).L<=x
  ·rw[if_pos (decide_eq_true h2),if_pos ⟨h,h2⟩];omega
  ·rw[if_neg (by simpa using h2),if_neg (fun hh=>h2 hh.2)];omega
 ·rw[if_neg h,if_neg h,if_neg (fun hh=>h hh.1)];rfl
theorem hQ_snoc(Q:Nat->Int->Bool)(f:List Int)(x:Int):hQ Q (f++[x])=hQ Q f+if Q f.length x=true then 1 else 0:=by
 unfold hQ
 rw[List.length_append,List.length_singleton,List.range_succ,List.countP_append,List.countP_singleton]
 have e1:(List.range f.length).countP (fun j=>Q j ((f++[x]).getD j 0))=(List.range f.length).countP fun j=>Q j (f.getD j 0):=by
  refine List.countP_congr fun j hj=>?_
  have:=List.mem_range.1 hj
  rw[List.getD_eq_getElem?_getD,List.getElem?_append_left this,List.getD_eq_getElem?_getD]
 have e2:(f++[x]).getD f.length 0=x:=by simp[List.getD_eq_getElem?_getD]
 rw[e1,e2];split<;>omega
theorem TL_snoc(ms:List Met)(Q:Nat->Int->Bool)(f:List Int)(x:Int):TL ms Q (f++[x])=addL (TL ms Q f) (T1 ms (Q f.length x) x):=by
 simp only[TL,T1,addL,List.zipWith,tl1_snoc,hQ_snoc]
theorem T1_len(ms:List Met)(h:Bool)(x:Int):(T1 ms h x).length=6:=rfl
theorem TL_len(ms:List Met)(Q:Nat->Int->Bool)(f:List Int):(TL ms Q f).length=6:=rfl
theorem m1_bd(ms:List Met)(x:Int)(i:Nat):0<=m1 ms x i/\m1 ms x i<=1:=by unfold m1;split<;>omega
theorem T1_bd(ms:List Met)(h:Bool)(x:Int):∀y∈T1 ms h x,0<=y/\y<=1000:=by
 intro y hy
 simp only[T1,List.mem_cons,List.not_mem_nil,or_false]at hy
 rcases hy with rfl|rfl|rfl|rfl|rfl|rfl
 all_goals first|(have:=m1_bd ms x 0;have:=m1_bd ms x 1;have:=m1_bd ms x 2;have:=m1_bd ms x 3;have:=m1_bd ms x 4;omega)|(split<;>omega)
theorem tl1_bd(ms:List Met)(f:List Int)(i:Nat):0<=tl1 ms f i/\tl1 ms f i<=f.length:=by
 unfold tl1 abv
 have:=List.countP_le_length (l:=f) (p:=fun x=>decide ((ms.getD i ⟨0,0⟩).L<=x))
 split<;>omega
theorem hQ_bd(Q:Nat->Int->Bool)(f:List Int):0<=hQ Q f/\hQ Q f<=f.length:=by
 unfold hQ
 have:=List.countP_le_length (l:=List.range f.length) (p:=fun j=>Q j (f.getD j 0))
 simp only[List.length_range]at this;omega
theorem TL_bd(ms:List Met)(Q:Nat->Int->Bool)(f:List Int)(hf:f.length<=8):∀y∈TL ms Q f,0<=y/\y<=1000:=by
 intro y hy
 simp only[TL,List.mem_cons,List.not_mem_nil,or_false]at hy
 have h5:=hQ_bd Q f
 rcases hy with rfl|rfl|rfl|rfl|rfl|rfl
 ·have:=tl1_bd ms f 0;omega
 ·have:=tl1_bd ms f 1;omega
 ·have:=tl1_bd ms f 2;omega
 ·have:=tl1_bd ms f 3;omega
 ·have:=tl1_bd ms f 4;omega
 ·omega
def fsK(lo:Int)(j:Nat):List Int:=(List.range j).map fun(i:Nat)=>lo+(i:Int)
theorem fsK_suc(lo:Int)(j:Nat):fsK lo (j+1)=fsK lo j++[lo+(j:Int)]:=by
 unfold fsK;rw[List.range_succ,List.map_append];rfl
def fsB(b:Blw):List Int:=fsK b.lo (wid b)
theorem cnT_le{α : Type}(W:List α)(T : α -> Tal)(t:Tal):0<=cnT W T t/\cnT W T t<=W.length:=by
 unfold cnT
 have:=List.countP_le_length (l:=W) (p:=fun f=>decide (T f=t))
 omega
theorem csF_snoc(b:Blw):∀(bs:List Blw) (f:List Int),csF (bs++[b]) f=(csF bs f).flatMap fun g=>(fsB b).map fun x=>g++[x]
 | [],f=>by
  have:∀m,csK (csF []) f b.lo m=(fsK b.lo m).map fun x=>f++[x]:=by
   intro m;induction m with
   |zero=>rfl
   |succ m ih=>rw[csK,ih,fsK_suc,List.map_append];rfl
  show csK (csF []) f b.lo (wid b)=_
  rw[this];simp[csF,fsB]
 |c::bs,f=>by
  have:∀m,csK (csF (bs++[b])) f c.lo m=(csK (csF bs) f c.lo m).flatMap fun g=>(fsB b).map fun x=>g++[x]:=by
   intro m;induction m with
   |zero=>rfl
   |succ m ih=>rw[csK,ih,csK,List.flatMap_append,csF_snoc b bs]
  exact this _
theorem css_suc(bs:List Blw){k:Nat}(hk:k<bs.length):css (bs.take (k+1))=(css (bs.take k)).flatMap fun g=>(fsB (bs.getD k ⟨0,0,0⟩)).map fun x=>g++[x]:=by
 have e:bs.take (k+1)=bs.take k++[bs.getD k ⟨0,0,0⟩]:=by
  rw[List.take_succ_eq_append_getElem hk,List.getD_eq_getElem?_getD,List.getElem?_eq_getElem hk];rfl
 unfold css;rw[e,csF_snoc]
theorem css_tlen{bs:List Blw}{k:Nat}(hk:k<=bs.length){f:List Int}(hf:f∈css (bs.take k)):f.length=k:=by
 have:=(isC_iff.1 (mem_css.1 hf)).1
 rw[this];simp;omega
end Go.Proofs
