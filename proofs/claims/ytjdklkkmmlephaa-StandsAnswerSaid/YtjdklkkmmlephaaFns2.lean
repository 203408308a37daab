/- What each function of this program answers, proved by walking its body: the contracts that the law rests on, part 2. -/
import Derived.Test.YtjdklkkmmlephaaFns1
set_option linter.unusedSimpArgs false
set_option linter.unusedVariables false
set_option linter.unusedSectionVars false
namespace Go.Proofs
open Go.Eng
attribute [local irreducible] Go.Eng.brB Go.Eng.need Go.Eng.wrE Go.Eng.iaE Go.Eng.slE Go.Eng.apE Go.Eng.CallZ Go.Eng.CallE Go.Eng.VCallE Go.Eng.YldE Go.Eng.GoC Go.Eng.MeetsE Go.Eng.FnA Go.Eng.FnV
set_option maxRecDepth 100000
def ansG(E:Ents):List Res:=[.mpo (E.map keyA) (entU E 3), .fresh, .fresh]++entS E 7
set_option maxHeartbeats 8000000 in
theorem p54(l:List (List Int))(g:Nat)(hl:l.length<=1000000)(ht:∀t∈l,g<t.length/\t.length<=1000000)(h7:∀t∈l,0<=t.getD g 0/\t.getD g 0<7):FnA Try.prog 54 [.isl (l.map fAV), .int .i64 (g:Int)] (· = .imp ((ansE g l).map keyA) ((ansE g l).map valA)):=by
 have hL:(l.map fAV).length=l.length:=by simp
 refine fnA 10 ok54 (by simp) ?_
 (conv=>whnf);(repeat'((first|apply bT|apply bF|apply bN|((first|apply bD|apply bEq|apply bNe)<;>intro hh<;>try(exfalso;omega))|refine wJ ?_|refine nJ ?_)<;>conv=>whnf))
 refine loop_i (α :=Nat × Ents) (fun x=>[(11, .int .i64 x.1),(10, .int .i64 ↑(l.map fAV).length),(9, .isl (l.map fAV)),(5, .row 0),(1, .int .i64 (g:Int))]) (fun x=>ansG x.2) (fun x=>x.1<=l.length/\x.2=ansE g (l.take x.1)/\x.2.length<=7/\∀e∈x.2,e.2.length<=x.1) (fun x=>l.length-x.1) (0,[]) mI ⟨by simp,by simp[ansE],by simp,by simp⟩ ?_
 rintro⟨j,E⟩ ⟨h1,h2,hE,hB⟩
 dsimp only at h1 h2 hE hB
 by_cases h3:j<l.length
 ·have hstep:=ansE_suc (g:=g) h3
  rw[<- h2]at hstep
  have hlen:(insE E (l[j].getD g 0) l[j]).length<=7:=by
   rw[<- hstep];exact ansE_len7 fun t ht=>h7 t (List.mem_of_mem_take ht)
  have htj:=ht _ (List.getElem_mem h3)
  have g1:=getM fAV l j h3
  have g2:=getJ l[j] g htj.1
  have hJ:(l[j].map jAV).length=l[j].length:=by simp
  generalize l[j].getD g 0=x at hstep hlen g2
  generalize l[j]=t at hstep hlen g1 g2 htj hJ
  have h3':(j:Int)<((l.map fAV).length:Int):=by omega
  clear h2
  have hfe:∀ts:List (List Int),(ts++[t]).map fAV=ts.map fAV++[[.isl (t.map jAV)]]:=fun ts=>by rw[List.map_append];rfl
  cases E with
  |nil=>
   have hlk:mlook .int [] [] (.int .i64 x)=some none:=by simp[mlook,keyV,findK,keq]
   have hpu:mput .int [] [] (.int .i64 x) (.row 2)=some ([.int .i64 x],[.row 2]):=by simp[mput,keyV,findK,keq]
   (conv=>whnf);(repeat'((first|apply bT|apply bF|apply bN|((first|apply bD|apply bEq|apply bNe)<;>intro hh<;>try(exfalso;omega))|refine iaJ g1 ?_|refine iaJ g2 ?_|refine lkI hlk ?_|(refine apJ ?_)|refine mpI hpu ?_|refine wJ ?_|refine nJ ?_)<;>conv=>whnf))
   have hins:insE [] x t=[(x,[t])]:=by simp only[insE]
   rw[hins]at hstep hlen
   refine⟨(j+1,[(x,[t])]),(mA [(3,some 2)]),⟨by dsimp only;omega,hstep.symm,hlen,?_⟩,by dsimp only;omega⟩
   simp only[List.forall_mem_cons,List.length_cons,List.length_nil]
   refine⟨by omega,by simp⟩
  |cons e0 E=>
   obtain⟨k0,ts0⟩:=e0
   cases E with
   |nil=>
    have b0:=hB (k0,ts0) (by simp)
    dsimp only at b0
    by_cases q0:x=k0
    ·have hlk:mlook .int [.int .i64 k0] [.row 3] (.int .i64 x)=some (some (.row 3)):=by
      have c0:(x==k0)=true:=by simpa using q0
      simp[mlook,keyV,findK,keq,c0]
     have hpu:mput .int [.int .i64 k0] [.row 3] (.int .i64 x) (.row 2)=some ([.int .i64 k0],[.row 2]):=by
      have c0:(x==k0)=true:=by simpa using q0
      simp[mput,keyV,findK,keq,c0]
     have l0:(ts0.map fAV).length=ts0.length:=by simp
     (conv=>whnf);(repeat'((first|apply bT|apply bF|apply bN|((first|apply bD|apply bEq|apply bNe)<;>intro hh<;>try(exfalso;omega))|refine iaJ g1 ?_|refine iaJ g2 ?_|refine lkI hlk ?_|(refine apI (by simp[AV.one]) (by simp only[List.length_cons,List.length_nil,l0];omega) ?_)|refine mpI hpu ?_|refine wJ ?_|refine nJ ?_)<;>conv=>whnf))
     have hins:insE [(k0,ts0)] x t=[(k0,ts0++[t])]:=by simp[insE,q0]
     rw[hins]at hstep hlen
     refine⟨(j+1,[(k0,ts0++[t])]),?_,⟨by dsimp only;omega,hstep.symm,hlen,?_⟩,by dsimp only;omega⟩
     ·have hsg:ansG [(k0,ts0++[t])]=[.mpo [.int .i64 k0] [.row 3], .fresh, .fresh]++[.row false 25 1 (ts0.map fAV++[[.isl (t.map jAV)]])]++[.fresh, .fresh, .fresh, .fresh, .fresh, .fresh]:=by rw[<- hfe ts0];rfl
      rw[hsg]
      exact(mA [(3,some 2)])
     ·simp only[List.forall_mem_cons,List.length_append,List.length_cons,List.length_nil]
      refine⟨by omega,by simp⟩
    have c0:(x==k0)=false:=by simpa using q0
    have hlk:mlook .int [.int .i64 k0] [.row 3] (.int .i64 x)=some none:=by simp[mlook,keyV,findK,keq,c0]
    have hpu:mput .int [.int .i64 k0] [.row 3] (.int .i64 x) (.row 2)=some ([.int .i64 k0, .int .i64 x],[.row 3, .row 2]):=by simp[mput,keyV,findK,keq,c0]
    (conv=>whnf);(repeat'((first|apply bT|apply bF|apply bN|((first|apply bD|apply bEq|apply bNe)<;>intro hh<;>try(exfalso;omega))|refine iaJ g1 ?_|refine iaJ g2 ?_|refine lkI hlk ?_|(refine apJ ?_)|refine mpI hpu ?_|refine wJ ?_|refine nJ ?_)<;>conv=>whnf))
    have hins:insE [(k0,ts0)] x t=[(k0,ts0),(x,[t])]:=by simp only[insE,if_neg q0]
    rw[hins]at hstep hlen
    refine⟨(j+1,[(k0,ts0),(x,[t])]),(mA [(4,some 2)]),⟨by dsimp only;omega,hstep.symm,hlen,?_⟩,by dsimp only;omega⟩
    simp only[List.forall_mem_cons,List.length_cons,List.length_nil]
    refine⟨by omega,by omega,by simp⟩
   |cons e1 E=>
    obtain⟨k1,ts1⟩:=e1
    cases E with
    |nil=>
     have b0:=hB (k0,ts0) (by simp)
     dsimp only at b0
     have b1:=hB (k1,ts1) (by simp)
     dsimp only at b1
     by_cases q0:x=k0
     ·have hlk:mlook .int [.int .i64 k0, .int .i64 k1] [.row 3, .row 4] (.int .i64 x)=some (some (.row 3)):=by
       have c0:(x==k0)=true:=by simpa using q0
       simp[mlook,keyV,findK,keq,c0]
      have hpu:mput .int [.int .i64 k0, .int .i64 k1] [.row 3, .row 4] (.int .i64 x) (.row 2)=some ([.int .i64 k0, .int .i64 k1],[.row 2, .row 4]):=by
       have c0:(x==k0)=true:=by simpa using q0
       simp[mput,keyV,findK,keq,c0]
      have l0:(ts0.map fAV).length=ts0.length:=by simp
      (conv=>whnf);(repeat'((first|apply bT|apply bF|apply bN|((first|apply bD|apply bEq|apply bNe)<;>intro hh<;>try(exfalso;omega))|refine iaJ g1 ?_|refine iaJ g2 ?_|refine lkI hlk ?_|(refine apI (by simp[AV.one]) (by simp only[List.length_cons,List.length_nil,l0];omega) ?_)|refine mpI hpu ?_|refine wJ ?_|refine nJ ?_)<;>conv=>whnf))
      have hins:insE [(k0,ts0),(k1,ts1)] x t=[(k0,ts0++[t]),(k1,ts1)]:=by simp[insE,q0]
      rw[hins]at hstep hlen
      refine⟨(j+1,[(k0,ts0++[t]),(k1,ts1)]),?_,⟨by dsimp only;omega,hstep.symm,hlen,?_⟩,by dsimp only;omega⟩
      ·have hsg:ansG [(k0,ts0++[t]),(k1,ts1)]=[.mpo [.int .i64 k0, .int .i64 k1] [.row 3, .row 4], .fresh, .fresh]++[.row false 25 1 (ts0.map fAV++[[.isl (t.map jAV)]]), .row false 25 1 (ts1.map fAV)]++[.fresh, .fresh, .fresh, .fresh, .fresh]:=by rw[<- hfe ts0];rfl
       rw[hsg]
       exact(mA [(3,some 2)])
      ·simp only[List.forall_mem_cons,List.length_append,List.length_cons,List.length_nil]
       refine⟨by omega,by omega,by simp⟩
     by_cases q1:x=k1
     ·have hlk:mlook .int [.int .i64 k0, .int .i64 k1] [.row 3, .row 4] (.int .i64 x)=some (some (.row 4)):=by
       have c0:(x==k0)=false:=by simpa using q0
       have c1:(x==k1)=true:=by simpa using q1
       simp[mlook,keyV,findK,keq,c0,c1]
      have hpu:mput .int [.int .i64 k0, .int .i64 k1] [.row 3, .row 4] (.int .i64 x) (.row 2)=some ([.int .i64 k0, .int .i64 k1],[.row 3, .row 2]):=by
       have c0:(x==k0)=false:=by simpa using q0
       have c1:(x==k1)=true:=by simpa using q1
       simp[mput,keyV,findK,keq,c0,c1]
      have l1:(ts1.map fAV).length=ts1.length:=by simp
      (conv=>whnf);(repeat'((first|apply bT|apply bF|apply bN|((first|apply bD|apply bEq|apply bNe)<;>intro hh<;>try(exfalso;omega))|refine iaJ g1 ?_|refine iaJ g2 ?_|refine lkI hlk ?_|(refine apI (by simp[AV.one]) (by simp only[List.length_cons,List.length_nil,l1];omega) ?_)|refine mpI hpu ?_|refine wJ ?_|refine nJ ?_)<;>conv=>whnf))
      have hins:insE [(k0,ts0),(k1,ts1)] x t=[(k0,ts0),(k1,ts1++[t])]:=by simp only[insE,if_neg q0,if_pos q1]
      rw[hins]at hstep hlen
      refine⟨(j+1,[(k0,ts0),(k1,ts1++[t])]),?_,⟨by dsimp only;omega,hstep.symm,hlen,?_⟩,by dsimp only;omega⟩
      ·have hsg:ansG [(k0,ts0),(k1,ts1++[t])]=[.mpo [.int .i64 k0, .int .i64 k1] [.row 3, .row 4], .fresh, .fresh]++[.row false 25 1 (ts0.map fAV), .row false 25 1 (ts1.map fAV++[[.isl (t.map jAV)]])]++[.fresh, .fresh, .fresh, .fresh, .fresh]:=by rw[<- hfe ts1];rfl
       rw[hsg]
       exact(mA [(4,some 2)])
      ·simp only[List.forall_mem_cons,List.length_append,List.length_cons,List.length_nil]
       refine⟨by omega,by omega,by simp⟩
     have c0:(x==k0)=false:=by simpa using q0
     have c1:(x==k1)=false:=by simpa using q1
     have hlk:mlook .int [.int .i64 k0, .int .i64 k1] [.row 3, .row 4] (.int .i64 x)=some none:=by simp[mlook,keyV,findK,keq,c0,c1]
     have hpu:mput .int [.int .i64 k0, .int .i64 k1] [.row 3, .row 4] (.int .i64 x) (.row 2)=some ([.int .i64 k0, .int .i64 k1, .int .i64 x],[.row 3, .row 4, .row 2]):=by simp[mput,keyV,findK,keq,c0,c1]
     (conv=>whnf);(repeat'((first|apply bT|apply bF|apply bN|((first|apply bD|apply bEq|apply bNe)<;>intro hh<;>try(exfalso;omega))|refine iaJ g1 ?_|refine iaJ g2 ?_|refine lkI hlk ?_|(refine apJ ?_)|refine mpI hpu ?_|refine wJ ?_|refine nJ ?_)<;>conv=>whnf))
     have hins:insE [(k0,ts0),(k1,ts1)] x t=[(k0,ts0),(k1,ts1),(x,[t])]:=by simp only[insE,if_neg q0,if_neg q1]
     rw[hins]at hstep hlen
     refine⟨(j+1,[(k0,ts0),(k1,ts1),(x,[t])]),(mA [(5,some 2)]),⟨by dsimp only;omega,hstep.symm,hlen,?_⟩,by dsimp only;omega⟩
     simp only[List.forall_mem_cons,List.length_cons,List.length_nil]
     refine⟨by omega,by omega,by omega,by simp⟩
    |cons e2 E=>
     obtain⟨k2,ts2⟩:=e2
     cases E with
     |nil=>
      have b0:=hB (k0,ts0) (by simp)
      dsimp only at b0
      have b1:=hB (k1,ts1) (by simp)
      dsimp only at b1
      have b2:=hB (k2,ts2) (by simp)
      dsimp only at b2
      by_cases q0:x=k0
      ·have hlk:mlook .int [.int .i64 k0, .int .i64 k1, .int .i64 k2] [.row 3, .row 4, .row 5] (.int .i64 x)=some (some (.row 3)):=by
        have c0:(x==k0)=true:=by simpa using q0
        simp[mlook,keyV,findK,keq,c0]
       have hpu:mput .int [.int .i64 k0, .int .i64 k1, .int .i64 k2] [.row 3, .row 4, .row 5] (.int .i64 x) (.row 2)=some ([.int .i64 k0, .int .i64 k1, .int .i64 k2],[.row 2, .row 4, .row 5]):=by
        have c0:(x==k0)=true:=by simpa using q0
        simp[mput,keyV,findK,keq,c0]
       have l0:(ts0.map fAV).length=ts0.length:=by simp
       (conv=>whnf);(repeat'((first|apply bT|apply bF|apply bN|((first|apply bD|apply bEq|apply bNe)<;>intro hh<;>try(exfalso;omega))|refine iaJ g1 ?_|refine iaJ g2 ?_|refine lkI hlk ?_|(refine apI (by simp[AV.one]) (by simp only[List.length_cons,List.length_nil,l0];omega) ?_)|refine mpI hpu ?_|refine wJ ?_|refine nJ ?_)<;>conv=>whnf))
       have hins:insE [(k0,ts0),(k1,ts1),(k2,ts2)] x t=[(k0,ts0++[t]),(k1,ts1),(k2,ts2)]:=by simp[insE,q0]
       rw[hins]at hstep hlen
       refine⟨(j+1,[(k0,ts0++[t]),(k1,ts1),(k2,ts2)]),?_,⟨by dsimp only;omega,hstep.symm,hlen,?_⟩,by dsimp only;omega⟩
       ·have hsg:ansG [(k0,ts0++[t]),(k1,ts1),(k2,ts2)]=[.mpo [.int .i64 k0, .int .i64 k1, .int .i64 k2] [.row 3, .row 4, .row 5], .fresh, .fresh]++[.row false 25 1 (ts0.map fAV++[[.isl (t.map jAV)]]), .row false 25 1 (ts1.map fAV), .row false 25 1 (ts2.map fAV)]++[.fresh, .fresh, .fresh, .fresh]:=by rw[<- hfe ts0];rfl
        rw[hsg]
        exact(mA [(3,some 2)])
       ·simp only[List.forall_mem_cons,List.length_append,List.length_cons,List.length_nil]
        refine⟨by omega,by omega,by omega,by simp⟩
      by_cases q1:x=k1
      ·have hlk:mlook .int [.int .i64 k0, .int .i64 k1, .int .i64 k2] [.row 3, .row 4, .row 5] (.int .i64 x)=some (some (.row 4)):=by
        have c0:(x==k0)=false:=by simpa using q0
        have c1:(x==k1)=true:=by simpa using q1
        simp[mlook,keyV,findK,keq,c0,c1]
       have hpu:mput .int [.int .i64 k0, .int .i64 k1, .int .i64 k2] [.row 3, .row 4, .row 5] (.int .i64 x) (.row 2)=some ([.int .i64 k0, .int .i64 k1, .int .i64 k2],[.row 3, .row 2, .row 5]):=by
        have c0:(x==k0)=false:=by simpa using q0
        have c1:(x==k1)=true:=by simpa using q1
        simp[mput,keyV,findK,keq,c0,c1]
       have l1:(ts1.map fAV).length=ts1.length:=by simp
       (conv=>whnf);(repeat'((first|apply bT|apply bF|apply bN|((first|apply bD|apply bEq|apply bNe)<;>intro hh<;>try(exfalso;omega))|refine iaJ g1 ?_|refine iaJ g2 ?_|refine lkI hlk ?_|(refine apI (by simp[AV.one]) (by simp only[List.length_cons,List.length_nil,l1];omega) ?_)|refine mpI hpu ?_|refine wJ ?_|refine nJ ?_)<;>conv=>whnf))
       have hins:insE [(k0,ts0),(k1,ts1),(k2,ts2)] x t=[(k0,ts0),(k1,ts1++[t]),(k2,ts2)]:=by simp only[insE,if_neg q0,if_pos q1]
       rw[hins]at hstep hlen
       refine⟨(j+1,[(k0,ts0),(k1,ts1++[t]),(k2,ts2)]),?_,⟨by dsimp only;omega,hstep.symm,hlen,?_⟩,by dsimp only;omega⟩
       ·have hsg:ansG [(k0,ts0),(k1,ts1++[t]),(k2,ts2)]=[.mpo [.int .i64 k0, .int .i64 k1, .int .i64 k2] [.row 3, .row 4, .row 5], .fresh, .fresh]++[.row false 25 1 (ts0.map fAV), .row false 25 1 (ts1.map fAV++[[.isl (t.map jAV)]]), .row false 25 1 (ts2.map fAV)]++[.fresh, .fresh, .fresh, .fresh]:=by rw[<- hfe ts1];rfl
        rw[hsg]
        exact(mA [(4,some 2)])
       ·simp only[List.forall_mem_cons,List.length_append,List.length_cons,List.length_nil]
        refine⟨by omega,by omega,by omega,by simp⟩
      by_cases q2:x=k2
      ·have hlk:mlook .int [.int .i64 k0, .int .i64 k1, .int .i64 k2] [.row 3, .row 4, .row 5] (.int .i64 x)=some (some (.row 5)):=by
        have c0:(x==k0)=false:=by simpa using q0
        have c1:(x==k1)=false:=by simpa using q1
        have c2:(x==k2)=true:=by simpa using q2
        simp[mlook,keyV,findK,keq,c0,c1,c2]
       have hpu:mput .int [.int .i64 k0, .int .i64 k1, .int .i64 k2] [.row 3, .row 4, .row 5] (.int .i64 x) (.row 2)=some ([.int .i64 k0, .int .i64 k1, .int .i64 k2],[.row 3, .row 4, .row 2]):=by
        have c0:(x==k0)=false:=by simpa using q0
        have c1:(x==k1)=false:=by simpa using q1
        have c2:(x==k2)=true:=by simpa using q2
        simp[mput,keyV,findK,keq,c0,c1,c2]
       have l2:(ts2.map fAV).length=ts2.length:=by simp
       (conv=>whnf);(repeat'((first|apply bT|apply bF|apply bN|((first|apply bD|apply bEq|apply bNe)<;>intro hh<;>try(exfalso;omega))|refine iaJ g1 ?_|refine iaJ g2 ?_|refine lkI hlk ?_|(refine apI (by simp[AV.one]) (by simp only[List.length_cons,List.length_nil,l2];omega) ?_)|refine mpI hpu ?_|refine wJ ?_|refine nJ ?_)<;>conv=>whnf))
       have hins:insE [(k0,ts0),(k1,ts1),(k2,ts2)] x t=[(k0,ts0),(k1,ts1),(k2,ts2++[t])]:=by simp only[insE,if_neg q0,if_neg q1,if_pos q2]
       rw[hins]at hstep hlen
       refine⟨(j+1,[(k0,ts0),(k1,ts1),(k2,ts2++[t])]),?_,⟨by dsimp only;omega,hstep.symm,hlen,?_⟩,by dsimp only;omega⟩
       ·have hsg:ansG [(k0,ts0),(k1,ts1),(k2,ts2++[t])]=[.mpo [.int .i64 k0, .int .i64 k1, .int .i64 k2] [.row 3, .row 4, .row 5], .fresh, .fresh]++[.row false 25 1 (ts0.map fAV), .row false 25 1 (ts1.map fAV), .row false 25 1 (ts2.map fAV++[[.isl (t.map jAV)]])]++[.fresh, .fresh, .fresh, .fresh]:=by rw[<- hfe ts2];rfl
        rw[hsg]
        exact(mA [(5,some 2)])
       ·simp only[List.forall_mem_cons,List.length_append,List.length_cons,List.length_nil]
        refine⟨by omega,by omega,by omega,by simp⟩
      have c0:(x==k0)=false:=by simpa using q0
      have c1:(x==k1)=false:=by simpa using q1
      have c2:(x==k2)=false:=by simpa using q2
      have hlk:mlook .int [.int .i64 k0, .int .i64 k1, .int .i64 k2] [.row 3, .row 4, .row 5] (.int .i64 x)=some none:=by simp[mlook,keyV,findK,keq,c0,c1,c2]
      have hpu:mput .int [.int .i64 k0, .int .i64 k1, .int .i64 k2] [.row 3, .row 4, .row 5] (.int .i64 x) (.row 2)=some ([.int .i64 k0, .int .i64 k1, .int .i64 k2, .int .i64 x],[.row 3, .row 4, .row 5, .row 2]):=by simp[mput,keyV,findK,keq,c0,c1,c2]
      (conv=>whnf);(repeat'((first|apply bT|apply bF|apply bN|((first|apply bD|apply bEq|apply bNe)<;>intro hh<;>try(exfalso;omega))|refine iaJ g1 ?_|refine iaJ g2 ?_|refine lkI hlk ?_|(refine apJ ?_)|refine mpI hpu ?_|refine wJ ?_|refine nJ ?_)<;>conv=>whnf))
      have hins:insE [(k0,ts0),(k1,ts1),(k2,ts2)] x t=[(k0,ts0),(k1,ts1),(k2,ts2),(x,[t])]:=by simp only[insE,if_neg q0,if_neg q1,if_neg q2]
      rw[hins]at hstep hlen
      refine⟨(j+1,[(k0,ts0),(k1,ts1),(k2,ts2),(x,[t])]),(mA [(6,some 2)]),⟨by dsimp only;omega,hstep.symm,hlen,?_⟩,by dsimp only;omega⟩
      simp only[List.forall_mem_cons,List.length_cons,List.length_nil]
      refine⟨by omega,by omega,by omega,by omega,by simp⟩
     |cons e3 E=>
      obtain⟨k3,ts3⟩:=e3
      cases E with
      |nil=>
       have b0:=hB (k0,ts0) (by simp)
       dsimp only at b0
       have b1:=hB (k1,ts1) (by simp)
       dsimp only at b1
       have b2:=hB (k2,ts2) (by simp)
       dsimp only at b2
       have b3:=hB (k3,ts3) (by simp)
       dsimp only at b3
       by_cases q0:x=k0
       ·have hlk:mlook .int [.int .i64 k0, .int .i64 k1, .int .i64 k2, .int .i64 k3] [.row 3, .row 4, .row 5, .row 6] (.int .i64 x)=some (some (.row 3)):=by
         have c0:(x==k0)=true:=by simpa using q0
         simp[mlook,keyV,findK,keq,c0]
        have hpu:mput .int [.int .i64 k0, .int .i64 k1, .int .i64 k2, .int .i64 k3] [.row 3, .row 4, .row 5, .row 6] (.int .i64 x) (.row 2)=some ([.int .i64 k0, .int .i64 k1, .int .i64 k2, .int .i64 k3],[.row 2, .row 4, .row 5, .row 6]):=by
         have c0:(x==k0)=true:=by simpa using q0
         simp[mput,keyV,findK,keq,c0]
        have l0:(ts0.map fAV).length=ts0.length:=by simp
        (conv=>whnf);(repeat'((first|apply bT|apply bF|apply bN|((first|apply bD|apply bEq|apply bNe)<;>intro hh<;>try(exfalso;omega))|refine iaJ g1 ?_|refine iaJ g2 ?_|refine lkI hlk ?_|(refine apI (by simp[AV.one]) (by simp only[List.length_cons,List.length_nil,l0];omega) ?_)|refine mpI hpu ?_|refine wJ ?_|refine nJ ?_)<;>conv=>whnf))
        have hins:insE [(k0,ts0),(k1,ts1),(k2,ts2),(k3,ts3)] x t=[(k0,ts0++[t]),(k1,ts1),(k2,ts2),(k3,ts3)]:=by simp[insE,q0]
        rw[hins]at hstep hlen
        refine⟨(j+1,[(k0,ts0++[t]),(k1,ts1),(k2,ts2),(k3,ts3)]),?_,⟨by dsimp only;omega,hstep.symm,hlen,?_⟩,by dsimp only;omega⟩
        ·have hsg:ansG [(k0,ts0++[t]),(k1,ts1),(k2,ts2),(k3,ts3)]=[.mpo [.int .i64 k0, .int .i64 k1, .int .i64 k2, .int .i64 k3] [.row 3, .row 4, .row 5, .row 6], .fresh, .fresh]++[.row false 25 1 (ts0.map fAV++[[.isl (t.map jAV)]]), .row false 25 1 (ts1.map fAV), .row false 25 1 (ts2.map fAV), .row false 25 1 (ts3.map fAV)]++[.fresh, .fresh, .fresh]:=by rw[<- hfe ts0];rfl
         rw[hsg]
         exact(mA [(3,some 2)])
        ·simp only[List.forall_mem_cons,List.length_append,List.length_cons,List.length_nil]
         refine⟨by omega,by omega,by omega,by omega,by simp⟩
       by_cases q1:x=k1
       ·have hlk:mlook .int [.int .i64 k0, .int .i64 k1, .int .i64 k2, .int .i64 k3] [.row 3, .row 4, .row 5, .row 6] (.int .i64 x)=some (some (.row 4)):=by
         have c0:(x==k0)=false:=by simpa using q0
         have c1:(x==k1)=true:=by simpa using q1
         simp[mlook,keyV,findK,keq,c0,c1]
        have hpu:mput .int [.int .i64 k0, .int .i64 k1, .int .i64 k2, .int .i64 k3] [.row 3, .row 4, .row 5, .row 6] (.int .i64 x) (.row 2)=some ([.int .i64 k0, .int .i64 k1, .int .i64 k2, .int .i64 k3],[.row 3, .row 2, .row 5, .row 6]):=by
         have c0:(x==k0)=false:=by simpa using q0
         have c1:(x==k1)=true:=by simpa using q1
         simp[mput,keyV,findK,keq,c0,c1]
        have l1:(ts1.map fAV).length=ts1.length:=by simp
        (conv=>whnf);(repeat'((first|apply bT|apply bF|apply bN|((first|apply bD|apply bEq|apply bNe)<;>intro hh<;>try(exfalso;omega))|refine iaJ g1 ?_|refine iaJ g2 ?_|refine lkI hlk ?_|(refine apI (by simp[AV.one]) (by simp only[List.length_cons,List.length_nil,l1];omega) ?_)|refine mpI hpu ?_|refine wJ ?_|refine nJ ?_)<;>conv=>whnf))
        have hins:insE [(k0,ts0),(k1,ts1),(k2,ts2),(k3,ts3)] x t=[(k0,ts0),(k1,ts1++[t]),(k2,ts2),(k3,ts3)]:=by simp only[insE,if_neg q0,if_pos q1]
        rw[hins]at hstep hlen
        refine⟨(j+1,[(k0,ts0),(k1,ts1++[t]),(k2,ts2),(k3,ts3)]),?_,⟨by dsimp only;omega,hstep.symm,hlen,?_⟩,by dsimp only;omega⟩
        ·have hsg:ansG [(k0,ts0),(k1,ts1++[t]),(k2,ts2),(k3,ts3)]=[.mpo [.int .i64 k0, .int .i64 k1, .int .i64 k2, .int .i64 k3] [.row 3, .row 4, .row 5, .row 6], .fresh, .fresh]++[.row false 25 1 (ts0.map fAV), .row false 25 1 (ts1.map fAV++[[.isl (t.map jAV)]]), .row false 25 1 (ts2.map fAV), .row false 25 1 (ts3.map fAV)]++[.fresh, .fresh, .fresh]:=by rw[<- hfe ts1];rfl
         rw[hsg]
         exact(mA [(4,some 2)])
        ·simp only[List.forall_mem_cons,List.length_append,List.length_cons,List.length_nil]
         refine⟨by omega,by omega,by omega,by omega,by simp⟩
       by_cases q2:x=k2
       ·have hlk:mlook .int [.int .i64 k0, .int .i64 k1, .int .i64 k2, .int .i64 k3] [.row 3, .row 4, .row 5, .row 6] (.int .i64 x)=some (some (.row 5)):=by
         have c0:(x==k0)=false:=by simpa using q0
         have c1:(x==k1)=false:=by simpa using q1
         have c2:(x==k2)=true:=by simpa using q2
         simp[mlook,keyV,findK,keq,c0,c1,c2]
        have hpu:mput .int [.int .i64 k0, .int .i64 k1, .int .i64 k2, .int .i64 k3] [.row 3, .row 4, .row 5, .row 6] (.int .i64 x) (.row 2)=some ([.int .i64 k0, .int .i64 k1, .int .i64 k2, .int .i64 k3],[.row 3, .row 4, .row 2, .row 6]):=by
         have c0:(x==k0)=false:=by simpa using q0
         have c1:(x==k1)=false:=by simpa using q1
         have c2:(x==k2)=true:=by simpa using q2
         simp[mput,keyV,findK,keq,c0,c1,c2]
        have l2:(ts2.map fAV).length=ts2.length:=by simp
        (conv=>whnf);(repeat'((first|apply bT|apply bF|apply bN|((first|apply bD|apply bEq|apply bNe)<;>intro hh<;>try(exfalso;omega))|refine iaJ g1 ?_|refine iaJ g2 ?_|refine lkI hlk ?_|(refine apI (by simp[AV.one]) (by simp only[List.length_cons,List.length_nil,l2];omega) ?_)|refine mpI hpu ?_|refine wJ ?_|refine nJ ?_)<;>conv=>whnf))
        have hins:insE [(k0,ts0),(k1,ts1),(k2,ts2),(k3,ts3)] x t=[(k0,ts0),(k1,ts1),(k2,ts2++[t]),(k3,ts3)]:=by simp only[insE,if_neg q0,if_neg q1,if_pos q2]
        rw[hins]at hstep hlen
        refine⟨(j+1,[(k0,ts0),(k1,ts1),(k2,ts2++[t]),(k3,ts3)]),?_,⟨by dsimp only;omega,hstep.symm,hlen,?_⟩,by dsimp only;omega⟩
        ·have hsg:ansG [(k0,ts0),(k1,ts1),(k2,ts2++[t]),(k3,ts3)]=[.mpo [.int .i64 k0, .int .i64 k1, .int .i64 k2, .int .i64 k3] [.row 3, .row 4, .row 5, .row 6], .fresh, .fresh]++[.row false 25 1 (ts0.map fAV), .row false 25 1 (ts1.map fAV), .row false 25 1 (ts2.map fAV++[[.isl (t.map jAV)]]), .row false 25 1 (ts3.map fAV)]++[.fresh, .fresh, .fresh]:=by rw[<- hfe ts2];rfl
         rw[hsg]
         exact(mA [(5,some 2)])
        ·simp only[List.forall_mem_cons,List.length_append,List.length_cons,List.length_nil]
         refine⟨by omega,by omega,by omega,by omega,by simp⟩
       by_cases q3:x=k3
       ·have hlk:mlook .int [.int .i64 k0, .int .i64 k1, .int .i64 k2, .int .i64 k3] [.row 3, .row 4, .row 5, .row 6] (.int .i64 x)=some (some (.row 6)):=by
         have c0:(x==k0)=false:=by simpa using q0
         have c1:(x==k1)=false:=by simpa using q1
         have c2:(x==k2)=false:=by simpa using q2
         have c3:(x==k3)=true:=by simpa using q3
         simp[mlook,keyV,findK,keq,c0,c1,c2,c3]
        have hpu:mput .int [.int .i64 k0, .int .i64 k1, .int .i64 k2, .int .i64 k3] [.row 3, .row 4, .row 5, .row 6] (.int .i64 x) (.row 2)=some ([.int .i64 k0, .int .i64 k1, .int .i64 k2, .int .i64 k3],[.row 3, .row 4, .row 5, .row 2]):=by
         have c0:(x==k0)=false:=by simpa using q0
         have c1:(x==k1)=false:=by simpa using q1
         have c2:(x==k2)=false:=by simpa using q2
         have c3:(x==k3)=true:=by simpa using q3
         simp[mput,keyV,findK,keq,c0,c1,c2,c3]
        have l3:(ts3.map fAV).length=ts3.length:=by simp
        (conv=>whnf);(repeat'((first|apply bT|apply bF|apply bN|((first|apply bD|apply bEq|apply bNe)<;>intro hh<;>try(exfalso;omega))|refine iaJ g1 ?_|refine iaJ g2 ?_|refine lkI hlk ?_|(refine apI (by simp[AV.one]) (by simp only[List.length_cons,List.length_nil,l3];omega) ?_)|refine mpI hpu ?_|refine wJ ?_|refine nJ ?_)<;>conv=>whnf))
        have hins:insE [(k0,ts0),(k1,ts1),(k2,ts2),(k3,ts3)] x t=[(k0,ts0),(k1,ts1),(k2,ts2),(k3,ts3++[t])]:=by simp only[insE,if_neg q0,if_neg q1,if_neg q2,if_pos q3]
        rw[hins]at hstep hlen
        refine⟨(j+1,[(k0,ts0),(k1,ts1),(k2,ts2),(k3,ts3++[t])]),?_,⟨by dsimp only;omega,hstep.symm,hlen,?_⟩,by dsimp only;omega⟩
        ·have hsg:ansG [(k0,ts0),(k1,ts1),(k2,ts2),(k3,ts3++[t])]=[.mpo [.int .i64 k0, .int .i64 k1, .int .i64 k2, .int .i64 k3] [.row 3, .row 4, .row 5, .row 6], .fresh, .fresh]++[.row false 25 1 (ts0.map fAV), .row false 25 1 (ts1.map fAV), .row false 25 1 (ts2.map fAV), .row false 25 1 (ts3.map fAV++[[.isl (t.map jAV)]])]++[.fresh, .fresh, .fresh]:=by rw[<- hfe ts3];rfl
         rw[hsg]
         exact(mA [(6,some 2)])
        ·simp only[List.forall_mem_cons,List.length_append,List.length_cons,List.length_nil]
         refine⟨by omega,by omega,by omega,by omega,by simp⟩
       have c0:(x==k0)=false:=by simpa using q0
       have c1:(x==k1)=false:=by simpa using q1
       have c2:(x==k2)=false:=by simpa using q2
       have c3:(x==k3)=false:=by simpa using q3
       have hlk:mlook .int [.int .i64 k0, .int .i64 k1, .int .i64 k2, .int .i64 k3] [.row 3, .row 4, .row 5, .row 6] (.int .i64 x)=some none:=by simp[mlook,keyV,findK,keq,c0,c1,c2,c3]
       have hpu:mput .int [.int .i64 k0, .int .i64 k1, .int .i64 k2, .int .i64 k3] [.row 3, .row 4, .row 5, .row 6] (.int .i64 x) (.row 2)=some ([.int .i64 k0, .int .i64 k1, .int .i64 k2, .int .i64 k3, .int .i64 x],[.row 3, .row 4, .row 5, .row 6, .row 2]):=by simp[mput,keyV,findK,keq,c0,c1,c2,c3]
       (conv=>whnf);(repeat'((first|apply bT|apply bF|apply bN|((first|apply bD|apply bEq|apply bNe)<;>intro hh<;>try(exfalso;omega))|refine iaJ g1 ?_|refine iaJ g2 ?_|refine lkI hlk ?_|(refine apJ ?_)|refine mpI hpu ?_|refine wJ ?_|refine nJ ?_)<;>conv=>whnf))
       have hins:insE [(k0,ts0),(k1,ts1),(k2,ts2),(k3,ts3)] x t=[(k0,ts0),(k1,ts1),(k2,ts2),(k3,ts3),(x,[t])]:=by simp only[insE,if_neg q0,if_neg q1,if_neg q2,if_neg q3]
       rw[hins]at hstep hlen
       refine⟨(j+1,[(k0,ts0),(k1,ts1),(k2,ts2),(k3,ts3),(x,[t])]),(mA [(7,some 2)]),⟨by dsimp only;omega,hstep.symm,hlen,?_⟩,by dsimp only;omega⟩
       simp only[List.forall_mem_cons,List.length_cons,List.length_nil]
       refine⟨by omega,by omega,by omega,by omega,by omega,by simp⟩
      |cons e4 E=>
       obtain⟨k4,ts4⟩:=e4
       cases E with
       |nil=>
        have b0:=hB (k0,ts0) (by simp)
        dsimp only at b0
        have b1:=hB (k1,ts1) (by simp)
        dsimp only at b1
        have b2:=hB (k2,ts2) (by simp)
        dsimp only at b2
        have b3:=hB (k3,ts3) (by simp)
        dsimp only at b3
        have b4:=hB (k4,ts4) (by simp)
        dsimp only at b4
        by_cases q0:x=k0
        ·have hlk:mlook .int [.int .i64 k0, .int .i64 k1, .int .i64 k2, .int .i64 k3, .int .i64 k4] [.row 3, .row 4, .row 5, .row 6, .row 7] (.int .i64 x)=some (some (.row 3)):=by
          have c0:(x==k0)=true:=by simpa using q0
          simp[mlook,keyV,findK,keq,c0]
         have hpu:mput .int [.int .i64 k0, .int .i64 k1, .int .i64 k2, .int .i64 k3, .int .i64 k4] [.row 3, .row 4, .row 5, .row 6, .row 7] (.int .i64 x) (.row 2)=some ([.int .i64 k0, .int .i64 k1, .int .i64 k2, .int .i64 k3, .int .i64 k4],[.row 2, .row 4, .row 5, .row 6, .row 7]):=by
          have c0:(x==k0)=true:=by simpa using q0
          simp[mput,keyV,findK,keq,c0]
         have l0:(ts0.map fAV).length=ts0.length:=by simp
         (conv=>whnf);(repeat'((first|apply bT|apply bF|apply bN|((first|apply bD|apply bEq|apply bNe)<;>intro hh<;>try(exfalso;omega))|refine iaJ g1 ?_|refine iaJ g2 ?_|refine lkI hlk ?_|(refine apI (by simp[AV.one]) (by simp only[List.length_cons,List.length_nil,l0];omega) ?_)|refine mpI hpu ?_|refine wJ ?_|refine nJ ?_)<;>conv=>whnf))
         have hins:insE [(k0,ts0),(k1,ts1),(k2,ts2),(k3,ts3),(k4,ts4)] x t=[(k0,ts0++[t]),(k1,ts1),(k2,ts2),(k3,ts3),(k4,ts4)]:=by simp[insE,q0]
         rw[hins]at hstep hlen
         refine⟨(j+1,[(k0,ts0++[t]),(k1,ts1),(k2,ts2),(k3,ts3),(k4,ts4)]),?_,⟨by dsimp only;omega,hstep.symm,hlen,?_⟩,by dsimp only;omega⟩
         ·have hsg:ansG [(k0,ts0++[t]),(k1,ts1),(k2,ts2),(k3,ts3),(k4,ts4)]=[.mpo [.int .i64 k0, .int .i64 k1, .int .i64 k2, .int .i64 k3, .int .i64 k4] [.row 3, .row 4, .row 5, .row 6, .row 7], .fresh, .fresh]++[.row false 25 1 (ts0.map fAV++[[.isl (t.map jAV)]]), .row false 25 1 (ts1.map fAV), .row false 25 1 (ts2.map fAV), .row false 25 1 (ts3.map fAV), .row false 25 1 (ts4.map fAV)]++[.fresh, .fresh]:=by rw[<- hfe ts0];rfl
          rw[hsg]
          exact(mA [(3,some 2)])
         ·simp only[List.forall_mem_cons,List.length_append,List.length_cons,List.length_nil]
          refine⟨by omega,by omega,by omega,by omega,by omega,by simp⟩
        by_cases q1:x=k1
        ·have hlk:mlook .int [.int .i64 k0, .int .i64 k1, .int .i64 k2, .int .i64 k3, .int .i64 k4] [.row 3, .row 4, .row 5, .row 6, .row 7] (.int .i64 x)=some (some (.row 4)):=by
          have c0:(x==k0)=false:=by simpa using q0
          have c1:(x==k1)=true:=by simpa using q1
          simp[mlook,keyV,findK,keq,c0,c1]
         have hpu:mput .int [.int .i64 k0, .int .i64 k1, .int .i64 k2, .int .i64 k3, .int .i64 k4] [.row 3, .row 4, .row 5, .row 6, .row 7] (.int .i64 x) (.row 2)=some ([.int .i64 k0, .int .i64 k1, .int .i64 k2, .int .i64 k3, .int .i64 k4],[.row 3, .row 2, .row 5, .row 6, .row 7]):=by
          have c0:(x==k0)=false:=by simpa using q0
          have c1:(x==k1)=true:=by simpa using q1
          simp[mput,keyV,findK,keq,c0,c1]
         have l1:(ts1.map fAV).length=ts1.length:=by simp
         (conv=>whnf);(repeat'((first|apply bT|apply bF|apply bN|((first|apply bD|apply bEq|apply bNe)<;>intro hh<;>try(exfalso;omega))|refine iaJ g1 ?_|refine iaJ g2 ?_|refine lkI hlk ?_|(refine apI (by simp[AV.one]) (by simp only[List.length_cons,List.length_nil,l1];omega) ?_)|refine mpI hpu ?_|refine wJ ?_|refine nJ ?_)<;>conv=>whnf))
         have hins:insE [(k0,ts0),(k1,ts1),(k2,ts2),(k3,ts3),(k4,ts4)] x t=[(k0,ts0),(k1,ts1++[t]),(k2,ts2),(k3,ts3),(k4,ts4)]:=by simp only[insE,if_neg q0,if_pos q1]
         rw[hins]at hstep hlen
         refine⟨(j+1,[(k0,ts0),(k1,ts1++[t]),(k2,ts2),(k3,ts3),(k4,ts4)]),?_,⟨by dsimp only;omega,hstep.symm,hlen,?_⟩,by dsimp only;omega⟩
         ·have hsg:ansG [(k0,ts0),(k1,ts1++[t]),(k2,ts2),(k3,ts3),(k4,ts4)]=[.mpo [.int .i64 k0, .int .i64 k1, .int .i64 k2, .int .i64 k3, .int .i64 k4] [.row 3, .row 4, .row 5, .row 6, .row 7], .fresh, .fresh]++[.row false 25 1 (ts0.map fAV), .row false 25 1 (ts1.map fAV++[[.isl (t.map jAV)]]), .row false 25 1 (ts2.map fAV), .row false 25 1 (ts3.map fAV), .row false 25 1 (ts4.map fAV)]++[.fresh, .fresh]:=by rw[<- hfe ts1];rfl
          rw[hsg]
          exact(mA [(4,some 2)])
         ·simp only[List.forall_mem_cons,List.length_append,List.length_cons,List.length_nil]
          refine⟨by omega,by omega,by omega,by omega,by omega,by simp⟩
        by_cases q2:x=k2
        ·have hlk:mlook .int [.int .i64 k0, .int .i64 k1, .int .i64 k2, .int .i64 k3, .int .i64 k4] [.row 3, .row 4, .row 5, .row 6, .row 7] (.int .i64 x)=some (some (.row 5)):=by
          have c0:(x==k0)=false:=by simpa using q0
          have c1:(x==k1)=false:=by simpa using q1
          have c2:(x==k2)=true:=by simpa using q2
          simp[mlook,keyV,findK,keq,c0,c1,c2]
         have hpu:mput .int [.int .i64 k0, .int .i64 k1, .int .i64 k2, .int .i64 k3, .int .i64 k4] [.row 3, .row 4, .row 5, .row 6, .row 7] (.int .i64 x) (.row 2)=some ([.int .i64 k0, .int .i64 k1, .int .i64 k2, .int .i64 k3, .int .i64 k4],[.row 3, .row 4, .row 2, .row 6, .row 7]):=by
          have c0:(x==k0)=false:=by simpa using q0
          have c1:(x==k1)=false:=by simpa using q1
          have c2:(x==k2)=true:=by simpa using q2
          simp[mput,keyV,findK,keq,c0,c1,c2]
         have l2:(ts2.map fAV).length=ts2.length:=by simp
         (conv=>whnf);(repeat'((first|apply bT|apply bF|apply bN|((first|apply bD|apply bEq|apply bNe)<;>intro hh<;>try(exfalso;omega))|refine iaJ g1 ?_|refine iaJ g2 ?_|refine lkI hlk ?_|(refine apI (by simp[AV.one]) (by simp only[List.length_cons,List.length_nil,l2];omega) ?_)|refine mpI hpu ?_|refine wJ ?_|refine nJ ?_)<;>conv=>whnf))
         have hins:insE [(k0,ts0),(k1,ts1),(k2,ts2),(k3,ts3),(k4,ts4)] x t=[(k0,ts0),(k1,ts1),(k2,ts2++[t]),(k3,ts3),(k4,ts4)]:=by simp only[insE,if_neg q0,if_neg q1,if_pos q2]
         rw[hins]at hstep hlen
         refine⟨(j+1,[(k0,ts0),(k1,ts1),(k2,ts2++[t]),(k3,ts3),(k4,ts4)]),?_,⟨by dsimp only;omega,hstep.symm,hlen,?_⟩,by dsimp only;omega⟩
         ·have hsg:ansG [(k0,ts0),(k1,ts1),(k2,ts2++[t]),(k3,ts3),(k4,ts4)]=[.mpo [.int .i64 k0, .int .i64 k1, .int .i64 k2, .int .i64 k3, .int .i64 k4] [.row 3, .row 4, .row 5, .row 6, .row 7], .fresh, .fresh]++[.row false 25 1 (ts0.map fAV), .row false 25 1 (ts1.map fAV), .row false 25 1 (ts2.map fAV++[[.isl (t.map jAV)]]), .row false 25 1 (ts3.map fAV), .row false 25 1 (ts4.map fAV)]++[.fresh, .fresh]:=by rw[<- hfe ts2];rfl
          rw[hsg]
          exact(mA [(5,some 2)])
         ·simp only[List.forall_mem_cons,List.length_append,List.length_cons,List.length_nil]
          refine⟨by omega,by omega,by omega,by omega,by omega,by simp⟩
        by_cases q3:x=k3
        ·have hlk:mlook .int [.int .i64 k0, .int .i64 k1, .int .i64 k2, .int .i64 k3, .int .i64 k4] [.row 3, .row 4, .row 5, .row 6, .row 7] (.int .i64 x)=some (some (.row 6)):=by
          have c0:(x==k0)=false:=by simpa using q0
          have c1:(x==k1)=false:=by simpa using q1
          have c2:(x==k2)=false:=by simpa using q2
          have c3:(x==k3)=true:=by simpa using q3
          simp[mlook,keyV,findK,keq,c0,c1,c2,c3]
         have hpu:mput .int [.int .i64 k0, .int .i64 k1, .int .i64 k2, .int .i64 k3, .int .i64 k4] [.row 3, .row 4, .row 5, .row 6, .row 7] (.int .i64 x) (.row 2)=some ([.int .i64 k0, .int .i64 k1, .int .i64 k2, .int .i64 k3, .int .i64 k4],[.row 3, .row 4, .row 5, .row 2, .row 7]):=by
          have c0:(x==k0)=false:=by simpa using q0
          have c1:(x==k1)=false:=by simpa using q1
          have c2:(x==k2)=false:=by simpa using q2
          have c3:(x==k3)=true:=by simpa using q3
          simp[mput,keyV,findK,keq,c0,c1,c2,c3]
         have l3:(ts3.map fAV).length=ts3.length:=by simp
         (conv=>whnf);(repeat'((first|apply bT|apply bF|apply bN|((first|apply bD|apply bEq|apply bNe)<;>intro hh<;>try(exfalso;omega))|refine iaJ g1 ?_|refine iaJ g2 ?_|refine lkI hlk ?_|(refine apI (by simp[AV.one]) (by simp only[List.length_cons,List.length_nil,l3];omega) ?_)|refine mpI hpu ?_|refine wJ ?_|refine nJ ?_)<;>conv=>whnf))
         have hins:insE [(k0,ts0),(k1,ts1),(k2,ts2),(k3,ts3),(k4,ts4)] x t=[(k0,ts0),(k1,ts1),(k2,ts2),(k3,ts3++[t]),(k4,ts4)]:=by simp only[insE,if_neg q0,if_neg q1,if_neg q2,if_pos q3]
         rw[hins]at hstep hlen
         refine⟨(j+1,[(k0,ts0),(k1,ts1),(k2,ts2),(k3,ts3++[t]),(k4,ts4)]),?_,⟨by dsimp only;omega,hstep.symm,hlen,?_⟩,by dsimp only;omega⟩
         ·have hsg:ansG [(k0,ts0),(k1,ts1),(k2,ts2),(k3,ts3++[t]),(k4,ts4)]=[.mpo [.int .i64 k0, .int .i64 k1, .int .i64 k2, .int .i64 k3, .int .i64 k4] [.row 3, .row 4, .row 5, .row 6, .row 7], .fresh, .fresh]++[.row false 25 1 (ts0.map fAV), .row false 25 1 (ts1.map fAV), .row false 25 1 (ts2.map fAV), .row false 25 1 (ts3.map fAV++[[.isl (t.map jAV)]]), .row false 25 1 (ts4.map fAV)]++[.fresh, .fresh]:=by rw[<- hfe ts3];rfl
          rw[hsg]
          exact(mA [(6,some 2)])
         ·simp only[List.forall_mem_cons,List.length_append,List.length_cons,List.length_nil]
          refine⟨by omega,by omega,by omega,by omega,by omega,by simp⟩
        by_cases q4:x=k4
        ·have hlk:mlook .int [.int .i64 k0, .int .i64 k1, .int .i64 k2, .int .i64 k3, .int .i64 k4] [.row 3, .row 4, .row 5, .row 6, .row 7] (.int .i64 x)=some (some (.row 7)):=by
          have c0:(x==k0)=false:=by simpa using q0
          have c1:(x==k1)=false:=by simpa using q1
          have c2:(x==k2)=false:=by simpa using q2
          have c3:(x==k3)=false:=by simpa using q3
          have c4:(x==k4)=true:=by simpa using q4
          simp[mlook,keyV,findK,keq,c0,c1,c2,c3,c4]
         have hpu:mput .int [.int .i64 k0, .int .i64 k1, .int .i64 k2, .int .i64 k3, .int .i64 k4] [.row 3, .row 4, .row 5, .row 6, .row 7] (.int .i64 x) (.row 2)=some ([.int .i64 k0, .int .i64 k1, .int .i64 k2, .int .i64 k3, .int .i64 k4],[.row 3, .row 4, .row 5, .row 6, .row 2]):=by
          have c0:(x==k0)=false:=by simpa using q0
          have c1:(x==k1)=false:=by simpa using q1
          have c2:(x==k2)=false:=by simpa using q2
          have c3:(x==k3)=false:=by simpa using q3
          have c4:(x==k4)=true:=by simpa using q4
          simp[mput,keyV,findK,keq,c0,c1,c2,c3,c4]
         have l4:(ts4.map fAV).length=ts4.length:=by simp
         (conv=>whnf);(repeat'((first|apply bT|apply bF|apply bN|((first|apply bD|apply bEq|apply bNe)<;>intro hh<;>try(exfalso;omega))|refine iaJ g1 ?_|refine iaJ g2 ?_|refine lkI hlk ?_|(refine apI (by simp[AV.one]) (by simp only[List.length_cons,List.length_nil,l4];omega) ?_)|refine mpI hpu ?_|refine wJ ?_|refine nJ ?_)<;>conv=>whnf))
         have hins:insE [(k0,ts0),(k1,ts1),(k2,ts2),(k3,ts3),(k4,ts4)] x t=[(k0,ts0),(k1,ts1),(k2,ts2),(k3,ts3),(k4,ts4++[t])]:=by simp only[insE,if_neg q0,if_neg q1,if_neg q2,if_neg q3,if_pos q4]
         rw[hins]at hstep hlen
         refine⟨(j+1,[(k0,ts0),(k1,ts1),(k2,ts2),(k3,ts3),(k4,ts4++[t])]),?_,⟨by dsimp only;omega,hstep.symm,hlen,?_⟩,by dsimp only;omega⟩
         ·have hsg:ansG [(k0,ts0),(k1,ts1),(k2,ts2),(k3,ts3),(k4,ts4++[t])]=[.mpo [.int .i64 k0, .int .i64 k1, .int .i64 k2, .int .i64 k3, .int .i64 k4] [.row 3, .row 4, .row 5, .row 6, .row 7], .fresh, .fresh]++[.row false 25 1 (ts0.map fAV), .row false 25 1 (ts1.map fAV), .row false 25 1 (ts2.map fAV), .row false 25 1 (ts3.map fAV), .row false 25 1 (ts4.map fAV++[[.isl (t.map jAV)]])]++[.fresh, .fresh]:=by rw[<- hfe ts4];rfl
          rw[hsg]
          exact(mA [(7,some 2)])
         ·simp only[List.forall_mem_cons,List.length_append,List.length_cons,List.length_nil]
          refine⟨by omega,by omega,by omega,by omega,by omega,by simp⟩
        have c0:(x==k0)=false:=by simpa using q0
        have c1:(x==k1)=false:=by simpa using q1
        have c2:(x==k2)=false:=by simpa using q2
        have c3:(x==k3)=false:=by simpa using q3
        have c4:(x==k4)=false:=by simpa using q4
        have hlk:mlook .int [.int .i64 k0, .int .i64 k1, .int .i64 k2, .int .i64 k3, .int .i64 k4] [.row 3, .row 4, .row 5, .row 6, .row 7] (.int .i64 x)=some none:=by simp[mlook,keyV,findK,keq,c0,c1,c2,c3,c4]
        have hpu:mput .int [.int .i64 k0, .int .i64 k1, .int .i64 k2, .int .i64 k3, .int .i64 k4] [.row 3, .row 4, .row 5, .row 6, .row 7] (.int .i64 x) (.row 2)=some ([.int .i64 k0, .int .i64 k1, .int .i64 k2, .int .i64 k3, .int .i64 k4, .int .i64 x],[.row 3, .row 4, .row 5, .row 6, .row 7, .row 2]):=by simp[mput,keyV,findK,keq,c0,c1,c2,c3,c4]
        (conv=>whnf);(repeat'((first|apply bT|apply bF|apply bN|((first|apply bD|apply bEq|apply bNe)<;>intro hh<;>try(exfalso;omega))|refine iaJ g1 ?_|refine iaJ g2 ?_|refine lkI hlk ?_|(refine apJ ?_)|refine mpI hpu ?_|refine wJ ?_|refine nJ ?_)<;>conv=>whnf))
        have hins:insE [(k0,ts0),(k1,ts1),(k2,ts2),(k3,ts3),(k4,ts4)] x t=[(k0,ts0),(k1,ts1),(k2,ts2),(k3,ts3),(k4,ts4),(x,[t])]:=by simp only[insE,if_neg q0,if_neg q1,if_neg q2,if_neg q3,if_neg q4]
        rw[hins]at hstep hlen
        refine⟨(j+1,[(k0,ts0),(k1,ts1),(k2,ts2),(k3,ts3),(k4,ts4),(x,[t])]),(mA [(8,some 2)]),⟨by dsimp only;omega,hstep.symm,hlen,?_⟩,by dsimp only;omega⟩
        simp only[List.forall_mem_cons,List.length_cons,List.length_nil]
        refine⟨by omega,by omega,by omega,by omega,by omega,by omega,by simp⟩
       |cons e5 E=>
        obtain⟨k5,ts5⟩:=e5
        cases E with
        |nil=>
         have b0:=hB (k0,ts0) (by simp)
         dsimp only at b0
         have b1:=hB (k1,ts1) (by simp)
         dsimp only at b1
         have b2:=hB (k2,ts2) (by simp)
         dsimp only at b2
         have b3:=hB (k3,ts3) (by simp)
         dsimp only at b3
         have b4:=hB (k4,ts4) (by simp)
         dsimp only at b4
         have b5:=hB (k5,ts5) (by simp)
         dsimp only at b5
         by_cases q0:x=k0
         ·have hlk:mlook .int [.int .i64 k0, .int .i64 k1, .int .i64 k2, .int .i64 k3, .int .i64 k4, .int .i64 k5] [.row 3, .row 4, .row 5, .row 6, .row 7, .row 8] (.int .i64 x)=some (some (.row 3)):=by
           have c0:(x==k0)=true:=by simpa using q0
           simp[mlook,keyV,findK,keq,c0]
          have hpu:mput .int [.int .i64 k0, .int .i64 k1, .int .i64 k2, .int .i64 k3, .int .i64 k4, .int .i64 k5] [.row 3, .row 4, .row 5, .row 6, .row 7, .row 8] (.int .i64 x) (.row 2)=some ([.int .i64 k0, .int .i64 k1, .int .i64 k2, .int .i64 k3, .int .i64 k4, .int .i64 k5],[.row 2, .row 4, .row 5, .row 6, .row 7, .row 8]):=by
           have c0:(x==k0)=true:=by simpa using q0
           simp[mput,keyV,findK,keq,c0]
          have l0:(ts0.map fAV).length=ts0.length:=by simp
          (conv=>whnf);(repeat'((first|apply bT|apply bF|apply bN|((first|apply bD|apply bEq|apply bNe)<;>intro hh<;>try(exfalso;omega))|refine iaJ g1 ?_|refine iaJ g2 ?_|refine lkI hlk ?_|(refine apI (by simp[AV.one]) (by simp only[List.length_cons,List.length_nil,l0];omega) ?_)|refine mpI hpu ?_|refine wJ ?_|refine nJ ?_)<;>conv=>whnf))
          have hins:insE [(k0,ts0),(k1,ts1),(k2,ts2),(k3,ts3),(k4,ts4),(k5,ts5)] x t=[(k0,ts0++[t]),(k1,ts1),(k2,ts2),(k3,ts3),(k4,ts4),(k5,ts5)]:=by simp[insE,q0]
          rw[hins]at hstep hlen
          refine⟨(j+1,[(k0,ts0++[t]),(k1,ts1),(k2,ts2),(k3,ts3),(k4,ts4),(k5,ts5)]),?_,⟨by dsimp only;omega,hstep.symm,hlen,?_⟩,by dsimp only;omega⟩
          ·have hsg:ansG [(k0,ts0++[t]),(k1,ts1),(k2,ts2),(k3,ts3),(k4,ts4),(k5,ts5)]=[.mpo [.int .i64 k0, .int .i64 k1, .int .i64 k2, .int .i64 k3, .int .i64 k4, .int .i64 k5] [.row 3, .row 4, .row 5, .row 6, .row 7, .row 8], .fresh, .fresh]++[.row false 25 1 (ts0.map fAV++[[.isl (t.map jAV)]]), .row false 25 1 (ts1.map fAV), .row false 25 1 (ts2.map fAV), .row false 25 1 (ts3.map fAV), .row false 25 1 (ts4.map fAV), .row false 25 1 (ts5.map fAV)]++[.fresh]:=by rw[<- hfe ts0];rfl
           rw[hsg]
           exact(mA [(3,some 2)])
          ·simp only[List.forall_mem_cons,List.length_append,List.length_cons,List.length_nil]
           refine⟨by omega,by omega,by omega,by omega,by omega,by omega,by simp⟩
         by_cases q1:x=k1
         ·have hlk:mlook .int [.int .i64 k0, .int .i64 k1, .int .i64 k2, .int .i64 k3, .int .i64 k4, .int .i64 k5] [.row 3, .row 4, .row 5, .row 6, .row 7, .row 8] (.int .i64 x)=some (some (.row 4)):=by
           have c0:(x==k0)=false:=by simpa using q0
           have c1:(x==k1)=true:=by simpa using q1
           simp[mlook,keyV,findK,keq,c0,c1]
          have hpu:mput .int [.int .i64 k0, .int .i64 k1, .int .i64 k2, .int .i64 k3, .int .i64 k4, .int .i64 k5] [.row 3, .row 4, .row 5, .row 6, .row 7, .row 8] (.int .i64 x) (.row 2)=some ([.int .i64 k0, .int .i64 k1, .int .i64 k2, .int .i64 k3, .int .i64 k4, .int .i64 k5],[.row 3, .row 2, .row 5, .row 6, .row 7, .row 8]):=by
           have c0:(x==k0)=false:=by simpa using q0
           have c1:(x==k1)=true:=by simpa using q1
           simp[mput,keyV,findK,keq,c0,c1]
          have l1:(ts1.map fAV).length=ts1.length:=by simp
          (conv=>whnf);(repeat'((first|apply bT|apply bF|apply bN|((first|apply bD|apply bEq|apply bNe)<;>intro hh<;>try(exfalso;omega))|refine iaJ g1 ?_|refine iaJ g2 ?_|refine lkI hlk ?_|(refine apI (by simp[AV.one]) (by simp only[List.length_cons,List.length_nil,l1];omega) ?_)|refine mpI hpu ?_|refine wJ ?_|refine nJ ?_)<;>conv=>whnf))
          have hins:insE [(k0,ts0),(k1,ts1),(k2,ts2),(k3,ts3),(k4,ts4),(k5,ts5)] x t=[(k0,ts0),(k1,ts1++[t]),(k2,ts2),(k3,ts3),(k4,ts4),(k5,ts5)]:=by simp only[insE,if_neg q0,if_pos q1]
          rw[hins]at hstep hlen
          refine⟨(j+1,[(k0,ts0),(k1,ts1++[t]),(k2,ts2),(k3,ts3),(k4,ts4),(k5,ts5)]),?_,⟨by dsimp only;omega,hstep.symm,hlen,?_⟩,by dsimp only;omega⟩
          ·have hsg:ansG [(k0,ts0),(k1,ts1++[t]),(k2,ts2),(k3,ts3),(k4,ts4),(k5,ts5)]=[.mpo [.int .i64 k0, .int .i64 k1, .int .i64 k2, .int .i64 k3, .int .i64 k4, .int .i64 k5] [.row 3, .row 4, .row 5, .row 6, .row 7, .row 8], .fresh, .fresh]++[.row false 25 1 (ts0.map fAV), .row false 25 1 (ts1.map fAV++[[.isl (t.map jAV)]]), .row false 25 1 (ts2.map fAV), .row false 25 1 (ts3.map fAV), .row false 25 1 (ts4.map fAV), .row false 25 1 (ts5.map fAV)]++[.fresh]:=by rw[<- hfe ts1];rfl
           rw[hsg]
           exact(mA [(4,some 2)])
          ·simp only[List.forall_mem_cons,List.length_append,List.length_cons,List.length_nil]
           refine⟨by omega,by omega,by omega,by omega,by omega,by omega,by simp⟩
         by_cases q2:x=k2
         ·have hlk:mlook .int [.int .i64 k0, .int .i64 k1, .int .i64 k2, .int .i64 k3, .int .i64 k4, .int .i64 k5] [.row 3, .row 4, .row 5, .row 6, .row 7, .row 8] (.int .i64 x)=some (some (.row 5)):=by
           have c0:(x==k0)=false:=by simpa using q0
           have c1:(x==k1)=false:=by simpa using q1
           have c2:(x==k2)=true:=by simpa using q2
           simp[mlook,keyV,findK,keq,c0,c1,c2]
          have hpu:mput .int [.int .i64 k0, .int .i64 k1, .int .i64 k2, .int .i64 k3, .int .i64 k4, .int .i64 k5] [.row 3, .row 4, .row 5, .row 6, .row 7, .row 8] (.int .i64 x) (.row 2)=some ([.int .i64 k0, .int .i64 k1, .int .i64 k2, .int .i64 k3, .int .i64 k4, .int .i64 k5],[.row 3, .row 4, .row 2, .row 6, .row 7, .row 8]):=by
           have c0:(x==k0)=false:=by simpa using q0
           have c1:(x==k1)=false:=by simpa using q1
           have c2:(x==k2)=true:=by simpa using q2
           simp[mput,keyV,findK,keq,c0,c1,c2]
          have l2:(ts2.map fAV).length=ts2.length:=by simp
          (conv=>whnf);(repeat'((first|apply bT|apply bF|apply bN|((first|apply bD|apply bEq|apply bNe)<;>intro hh<;>try(exfalso;omega))|refine iaJ g1 ?_|refine iaJ g2 ?_|refine lkI hlk ?_|(refine apI (by simp[AV.one]) (by simp only[List.length_cons,List.length_nil,l2];omega) ?_)|refine mpI hpu ?_|refine wJ ?_|refine nJ ?_)<;>conv=>whnf))
          have hins:insE [(k0,ts0),(k1,ts1),(k2,ts2),(k3,ts3),(k4,ts4),(k5,ts5)] x t=[(k0,ts0),(k1,ts1),(k2,ts2++[t]),(k3,ts3),(k4,ts4),(k5,ts5)]:=by simp only[insE,if_neg q0,if_neg q1,if_pos q2]
          rw[hins]at hstep hlen
          refine⟨(j+1,[(k0,ts0),(k1,ts1),(k2,ts2++[t]),(k3,ts3),(k4,ts4),(k5,ts5)]),?_,⟨by dsimp only;omega,hstep.symm,hlen,?_⟩,by dsimp only;omega⟩
          ·have hsg:ansG [(k0,ts0),(k1,ts1),(k2,ts2++[t]),(k3,ts3),(k4,ts4),(k5,ts5)]=[.mpo [.int .i64 k0, .int .i64 k1, .int .i64 k2, .int .i64 k3, .int .i64 k4, .int .i64 k5] [.row 3, .row 4, .row 5, .row 6, .row 7, .row 8], .fresh, .fresh]++[.row false 25 1 (ts0.map fAV), .row false 25 1 (ts1.map fAV), .row false 25 1 (ts2.map fAV++[[.isl (t.map jAV)]]), .row false 25 1 (ts3.map fAV), .row false 25 1 (ts4.map fAV), .row false 25 1 (ts5.map fAV)]++[.fresh]:=by rw[<- hfe ts2];rfl
           rw[hsg]
           exact(mA [(5,some 2)])
          ·simp only[List.forall_mem_cons,List.length_append,List.length_cons,List.length_nil]
           refine⟨by omega,by omega,by omega,by omega,by omega,by omega,by simp⟩
         by_cases q3:x=k3
         ·have hlk:mlook .int [.int .i64 k0, .int .i64 k1, .int .i64 k2, .int .i64 k3, .int .i64 k4, .int .i64 k5] [.row 3, .row 4, .row 5, .row 6, .row 7, .row 8] (.int .i64 x)=some (some (.row 6)):=by
           have c0:(x==k0)=false:=by simpa using q0
           have c1:(x==k1)=false:=by simpa using q1
           have c2:(x==k2)=false:=by simpa using q2
           have c3:(x==k3)=true:=by simpa using q3
           simp[mlook,keyV,findK,keq,c0,c1,c2,c3]
          have hpu:mput .int [.int .i64 k0, .int .i64 k1, .int .i64 k2, .int .i64 k3, .int .i64 k4, .int .i64 k5] [.row 3, .row 4, .row 5, .row 6, .row 7, .row 8] (.int .i64 x) (.row 2)=some ([.int .i64 k0, .int .i64 k1, .int .i64 k2, .int .i64 k3, .int .i64 k4, .int .i64 k5],[.row 3, .row 4, .row 5, .row 2, .row 7, .row 8]):=by
           have c0:(x==k0)=false:=by simpa using q0
           have c1:(x==k1)=false:=by simpa using q1
           have c2:(x==k2)=false:=by simpa using q2
           have c3:(x==k3)=true:=by simpa using q3
           simp[mput,keyV,findK,keq,c0,c1,c2,c3]
          have l3:(ts3.map fAV).length=ts3.length:=by simp
          (conv=>whnf);(repeat'((first|apply bT|apply bF|apply bN|((first|apply bD|apply bEq|apply bNe)<;>intro hh<;>try(exfalso;omega))|refine iaJ g1 ?_|refine iaJ g2 ?_|refine lkI hlk ?_|(refine apI (by simp[AV.one]) (by simp only[List.length_cons,List.length_nil,l3];omega) ?_)|refine mpI hpu ?_|refine wJ ?_|refine nJ ?_)<;>conv=>whnf))
          have hins:insE [(k0,ts0),(k1,ts1),(k2,ts2),(k3,ts3),(k4,ts4),(k5,ts5)] x t=[(k0,ts0),(k1,ts1),(k2,ts2),(k3,ts3++[t]),(k4,ts4),(k5,ts5)]:=by simp only[insE,if_neg q0,if_neg q1,if_neg q2,if_pos q3]
          rw[hins]at hstep hlen
          refine⟨(j+1,[(k0,ts0),(k1,ts1),(k2,ts2),(k3,ts3++[t]),(k4,ts4),(k5,ts5)]),?_,⟨by dsimp only;omega,hstep.symm,hlen,?_⟩,by dsimp only;omega⟩
          ·have hsg:ansG [(k0,ts0),(k1,ts1),(k2,ts2),(k3,ts3++[t]),(k4,ts4),(k5,ts5)]=[.mpo [.int .i64 k0, .int .i64 k1, .int .i64 k2, .int .i64 k3, .int .i64 k4, .int .i64 k5] [.row 3, .row 4, .row 5, .row 6, .row 7, .row 8], .fresh, .fresh]++[.row false 25 1 (ts0.map fAV), .row false 25 1 (ts1.map fAV), .row false 25 1 (ts2.map fAV), .row false 25 1 (ts3.map fAV++[[.isl (t.map jAV)]]), .row false 25 1 (ts4.map fAV), .row false 25 1 (ts5.map fAV)]++[.fresh]:=by rw[<- hfe ts3];rfl
           rw[hsg]
           exact(mA [(6,some 2)])
          ·simp only[List.forall_mem_cons,List.length_append,List.length_cons,List.length_nil]
           refine⟨by omega,by omega,by omega,by omega,by omega,by omega,by simp⟩
         by_cases q4:x=k4
         ·have hlk:mlook .int [.int .i64 k0, .int .i64 k1, .int .i64 k2, .int .i64 k3, .int .i64 k4, .int .i64 k5] [.row 3, .row 4, .row 5, .row 6, .row 7, .row 8] (.int .i64 x)=some (some (.row 7)):=by
           have c0:(x==k0)=false:=by simpa using q0
           have c1:(x==k1)=false:=by simpa using q1
           have c2:(x==k2)=false:=by simpa using q2
           have c3:(x==k3)=false:=by simpa using q3
           have c4:(x==k4)=true:=by simpa using q4
           simp[mlook,keyV,findK,keq,c0,c1,c2,c3,c4]
          have hpu:mput .int [.int .i64 k0, .int .i64 k1, .int .i64 k2, .int .i64 k3, .int .i64 k4, .int .i64 k5] [.row 3, .row 4, .row 5, .row 6, .row 7, .row 8] (.int .i64 x) (.row 2)=some ([.int .i64 k0, .int .i64 k1, .int .i64 k2, .int .i64 k3, .int .i64 k4, .int .i64 k5],[.row 3, .row 4, .row 5, .row 6, .row 2, .row 8]):=by
           have c0:(x==k0)=false:=by simpa using q0
           have c1:(x==k1)=false:=by simpa using q1
           have c2:(x==k2)=false:=by simpa using q2
           have c3:(x==k3)=false:=by simpa using q3
           have c4:(x==k4)=true:=by simpa using q4
           simp[mput,keyV,findK,keq,c0,c1,c2,c3,c4]
          have l4:(ts4.map fAV).length=ts4.length:=by simp
          (conv=>whnf);(repeat'((first|apply bT|apply bF|apply bN|((first|apply bD|apply bEq|apply bNe)<;>intro hh<;>try(exfalso;omega))|refine iaJ g1 ?_|refine iaJ g2 ?_|refine lkI hlk ?_|(refine apI (by simp[AV.one]) (by simp only[List.length_cons,List.length_nil,l4];omega) ?_)|refine mpI hpu ?_|refine wJ ?_|refine nJ ?_)<;>conv=>whnf))
          have hins:insE [(k0,ts0),(k1,ts1),(k2,ts2),(k3,ts3),(k4,ts4),(k5,ts5)] x t=[(k0,ts0),(k1,ts1),(k2,ts2),(k3,ts3),(k4,ts4++[t]),(k5,ts5)]:=by simp only[insE,if_neg q0,if_neg q1,if_neg q2,if_neg q3,if_pos q4]
          rw[hins]at hstep hlen
          refine⟨(j+1,[(k0,ts0),(k1,ts1),(k2,ts2),(k3,ts3),(k4,ts4++[t]),(k5,ts5)]),?_,⟨by dsimp only;omega,hstep.symm,hlen,?_⟩,by dsimp only;omega⟩
          ·have hsg:ansG [(k0,ts0),(k1,ts1),(k2,ts2),(k3,ts3),(k4,ts4++[t]),(k5,ts5)]=[.mpo [.int .i64 k0, .int .i64 k1, .int .i64 k2, .int .i64 k3, .int .i64 k4, .int .i64 k5] [.row 3, .row 4, .row 5, .row 6, .row 7, .row 8], .fresh, .fresh]++[.row false 25 1 (ts0.map fAV), .row false 25 1 (ts1.map fAV), .row false 25 1 (ts2.map fAV), .row false 25 1 (ts3.map fAV), .row false 25 1 (ts4.map fAV++[[.isl (t.map jAV)]]), .row false 25 1 (ts5.map fAV)]++[.fresh]:=by rw[<- hfe ts4];rfl
           rw[hsg]
           exact(mA [(7,some 2)])
          ·simp only[List.forall_mem_cons,List.length_append,List.length_cons,List.length_nil]
           refine⟨by omega,by omega,by omega,by omega,by omega,by omega,by simp⟩
         by_cases q5:x=k5
         ·have hlk:mlook .int [.int .i64 k0, .int .i64 k1, .int .i64 k2, .int .i64 k3, .int .i64 k4, .int .i64 k5] [.row 3, .row 4, .row 5, .row 6, .row 7, .row 8] (.int .i64 x)=some (some (.row 8)):=by
           have c0:(x==k0)=false:=by simpa using q0
           have c1:(x==k1)=false:=by simpa using q1
           have c2:(x==k2)=false:=by simpa using q2
           have c3:(x==k3)=false:=by simpa using q3
           have c4:(x==k4)=false:=by simpa using q4
           have c5:(x==k5)=true:=by simpa using q5
           simp[mlook,keyV,findK,keq,c0,c1,c2,c3,c4,c5]
          have hpu:mput .int [.int .i64 k0, .int .i64 k1, .int .i64 k2, .int .i64 k3, .int .i64 k4, .int .i64 k5] [.row 3, .row 4, .row 5, .row 6, .row 7, .row 8] (.int .i64 x) (.row 2)=some ([.int .i64 k0, .int .i64 k1, .int .i64 k2, .int .i64 k3, .int .i64 k4, .int .i64 k5],[.row 3, .row 4, .row 5, .row 6, .row 7, .row 2]):=by
           have c0:(x==k0)=false:=by simpa using q0
           have c1:(x==k1)=false:=by simpa using q1
           have c2:(x==k2)=false:=by simpa using q2
           have c3:(x==k3)=false:=by simpa using q3
           have c4:(x==k4)=false:=by simpa using q4
           have c5:(x==k5)=true:=by simpa using q5
           simp[mput,keyV,findK,keq,c0,c1,c2,c3,c4,c5]
          have l5:(ts5.map fAV).length=ts5.length:=by simp
          (conv=>whnf);(repeat'((first|apply bT|apply bF|apply bN|((first|apply bD|apply bEq|apply bNe)<;>intro hh<;>try(exfalso;omega))|refine iaJ g1 ?_|refine iaJ g2 ?_|refine lkI hlk ?_|(refine apI (by simp[AV.one]) (by simp only[List.length_cons,List.length_nil,l5];omega) ?_)|refine mpI hpu ?_|refine wJ ?_|refine nJ ?_)<;>conv=>whnf))
          have hins:insE [(k0,ts0),(k1,ts1),(k2,ts2),(k3,ts3),(k4,ts4),(k5,ts5)] x t=[(k0,ts0),(k1,ts1),(k2,ts2),(k3,ts3),(k4,ts4),(k5,ts5++[t])]:=by simp only[insE,if_neg q0,if_neg q1,if_neg q2,if_neg q3,if_neg q4,if_pos q5]
          rw[hins]at hstep hlen
          refine⟨(j+1,[(k0,ts0),(k1,ts1),(k2,ts2),(k3,ts3),(k4,ts4),(k5,ts5++[t])]),?_,⟨by dsimp only;omega,hstep.symm,hlen,?_⟩,by dsimp only;omega⟩
          ·have hsg:ansG [(k0,ts0),(k1,ts1),(k2,ts2),(k3,ts3),(k4,ts4),(k5,ts5++[t])]=[.mpo [.int .i64 k0, .int .i64 k1, .int .i64 k2, .int .i64 k3, .int .i64 k4, .int .i64 k5] [.row 3, .row 4, .row 5, .row 6, .row 7, .row 8], .fresh, .fresh]++[.row false 25 1 (ts0.map fAV), .row false 25 1 (ts1.map fAV), .row false 25 1 (ts2.map fAV), .row false 25 1 (ts3.map fAV), .row false 25 1 (ts4.map fAV), .row false 25 1 (ts5.map fAV++[[.isl (t.map jAV)]])]++[.fresh]:=by rw[<- hfe ts5];rfl
           rw[hsg]
           exact(mA [(8,some 2)])
          ·simp only[List.forall_mem_cons,List.length_append,List.length_cons,List.length_nil]
           refine⟨by omega,by omega,by omega,by omega,by omega,by omega,by simp⟩
         have c0:(x==k0)=false:=by simpa using q0
         have c1:(x==k1)=false:=by simpa using q1
         have c2:(x==k2)=false:=by simpa using q2
         have c3:(x==k3)=false:=by simpa using q3
         have c4:(x==k4)=false:=by simpa using q4
         have c5:(x==k5)=false:=by simpa using q5
         have hlk:mlook .int [.int .i64 k0, .int .i64 k1, .int .i64 k2, .int .i64 k3, .int .i64 k4, .int .i64 k5] [.row 3, .row 4, .row 5, .row 6, .row 7, .row 8] (.int .i64 x)=some none:=by simp[mlook,keyV,findK,keq,c0,c1,c2,c3,c4,c5]
         have hpu:mput .int [.int .i64 k0, .int .i64 k1, .int .i64 k2, .int .i64 k3, .int .i64 k4, .int .i64 k5] [.row 3, .row 4, .row 5, .row 6, .row 7, .row 8] (.int .i64 x) (.row 2)=some ([.int .i64 k0, .int .i64 k1, .int .i64 k2, .int .i64 k3, .int .i64 k4, .int .i64 k5, .int .i64 x],[.row 3, .row 4, .row 5, .row 6, .row 7, .row 8, .row 2]):=by simp[mput,keyV,findK,keq,c0,c1,c2,c3,c4,c5]
         (conv=>whnf);(repeat'((first|apply bT|apply bF|apply bN|((first|apply bD|apply bEq|apply bNe)<;>intro hh<;>try(exfalso;omega))|refine iaJ g1 ?_|refine iaJ g2 ?_|refine lkI hlk ?_|(refine apJ ?_)|refine mpI hpu ?_|refine wJ ?_|refine nJ ?_)<;>conv=>whnf))
         have hins:insE [(k0,ts0),(k1,ts1),(k2,ts2),(k3,ts3),(k4,ts4),(k5,ts5)] x t=[(k0,ts0),(k1,ts1),(k2,ts2),(k3,ts3),(k4,ts4),(k5,ts5),(x,[t])]:=by simp only[insE,if_neg q0,if_neg q1,if_neg q2,if_neg q3,if_neg q4,if_neg q5]
         rw[hins]at hstep hlen
         refine⟨(j+1,[(k0,ts0),(k1,ts1),(k2,ts2),(k3,ts3),(k4,ts4),(k5,ts5),(x,[t])]),(mA [(9,some 2)]),⟨by dsimp only;omega,hstep.symm,hlen,?_⟩,by dsimp only;omega⟩
         simp only[List.forall_mem_cons,List.length_cons,List.length_nil]
         refine⟨by omega,by omega,by omega,by omega,by omega,by omega,by omega,by simp⟩
        |cons e6 E=>
         obtain⟨k6,ts6⟩:=e6
         cases E with
         |nil=>
          have b0:=hB (k0,ts0) (by simp)
          dsimp only at b0
          have b1:=hB (k1,ts1) (by simp)
          dsimp only at b1
          have b2:=hB (k2,ts2) (by simp)
          dsimp only at b2
          have b3:=hB (k3,ts3) (by simp)
          dsimp only at b3
          have b4:=hB (k4,ts4) (by simp)
          dsimp only at b4
          have b5:=hB (k5,ts5) (by simp)
          dsimp only at b5
          have b6:=hB (k6,ts6) (by simp)
          dsimp only at b6
          by_cases q0:x=k0
          ·have hlk:mlook .int [.int .i64 k0, .int .i64 k1, .int .i64 k2, .int .i64 k3, .int .i64 k4, .int .i64 k5, .int .i64 k6] [.row 3, .row 4, .row 5, .row 6, .row 7, .row 8, .row 9] (.int .i64 x)=some (some (.row 3)):=by
            have c0:(x==k0)=true:=by simpa using q0
            simp[mlook,keyV,findK,keq,c0]
           have hpu:mput .int [.int .i64 k0, .int .i64 k1, .int .i64 k2, .int .i64 k3, .int .i64 k4, .int .i64 k5, .int .i64 k6] [.row 3, .row 4, .row 5, .row 6, .row 7, .row 8, .row 9] (.int .i64 x) (.row 2)=some ([.int .i64 k0, .int .i64 k1, .int .i64 k2, .int .i64 k3, .int .i64 k4, .int .i64 k5, .int .i64 k6],[.row 2, .row 4, .row 5, .row 6, .row 7, .row 8, .row 9]):=by
            have c0:(x==k0)=true:=by simpa using q0
            simp[mput,keyV,findK,keq,c0]
           have l0:(ts0.map fAV).length=ts0.length:=by simp
           (conv=>whnf);(repeat'((first|apply bT|apply bF|apply bN|((first|apply bD|apply bEq|apply bNe)<;>intro hh<;>try(exfalso;omega))|refine iaJ g1 ?_|refine iaJ g2 ?_|refine lkI hlk ?_|(refine apI (by simp[AV.one]) (by simp only[List.length_cons,List.length_nil,l0];omega) ?_)|refine mpI hpu ?_|refine wJ ?_|refine nJ ?_)<;>conv=>whnf))
           have hins:insE [(k0,ts0),(k1,ts1),(k2,ts2),(k3,ts3),(k4,ts4),(k5,ts5),(k6,ts6)] x t=[(k0,ts0++[t]),(k1,ts1),(k2,ts2),(k3,ts3),(k4,ts4),(k5,ts5),(k6,ts6)]:=by simp[insE,q0]
           rw[hins]at hstep hlen
           refine⟨(j+1,[(k0,ts0++[t]),(k1,ts1),(k2,ts2),(k3,ts3),(k4,ts4),(k5,ts5),(k6,ts6)]),?_,⟨by dsimp only;omega,hstep.symm,hlen,?_⟩,by dsimp only;omega⟩
           ·have hsg:ansG [(k0,ts0++[t]),(k1,ts1),(k2,ts2),(k3,ts3),(k4,ts4),(k5,ts5),(k6,ts6)]=[.mpo [.int .i64 k0, .int .i64 k1, .int .i64 k2, .int .i64 k3, .int .i64 k4, .int .i64 k5, .int .i64 k6] [.row 3, .row 4, .row 5, .row 6, .row 7, .row 8, .row 9], .fresh, .fresh]++[.row false 25 1 (ts0.map fAV++[[.isl (t.map jAV)]]), .row false 25 1 (ts1.map fAV), .row false 25 1 (ts2.map fAV), .row false 25 1 (ts3.map fAV), .row false 25 1 (ts4.map fAV), .row false 25 1 (ts5.map fAV), .row false 25 1 (ts6.map fAV)]++[]:=by rw[<- hfe ts0];rfl
            rw[hsg]
            exact(mA [(3,some 2)])
           ·simp only[List.forall_mem_cons,List.length_append,List.length_cons,List.length_nil]
            refine⟨by omega,by omega,by omega,by omega,by omega,by omega,by omega,by simp⟩
          by_cases q1:x=k1
          ·have hlk:mlook .int [.int .i64 k0, .int .i64 k1, .int .i64 k2, .int .i64 k3, .int .i64 k4, .int .i64 k5, .int .i64 k6] [.row 3, .row 4, .row 5, .row 6, .row 7, .row 8, .row 9] (.int .i64 x)=some (some (.row 4)):=by
            have c0:(x==k0)=false:=by simpa using q0
            have c1:(x==k1)=true:=by simpa using q1
            simp[mlook,keyV,findK,keq,c0,c1]
           have hpu:mput .int [.int .i64 k0, .int .i64 k1, .int .i64 k2, .int .i64 k3, .int .i64 k4, .int .i64 k5, .int .i64 k6] [.row 3, .row 4, .row 5, .row 6, .row 7, .row 8, .row 9] (.int .i64 x) (.row 2)=some ([.int .i64 k0, .int .i64 k1, .int .i64 k2, .int .i64 k3, .int .i64 k4, .int .i64 k5, .int .i64 k6],[.row 3, .row 2, .row 5, .row 6, .row 7, .row 8, .row 9]):=by
            have c0:(x==k0)=false:=by simpa using q0
            have c1:(x==k1)=true:=by simpa using q1
            simp[mput,keyV,findK,keq,c0,c1]
           have l1:(ts1.map fAV).length=ts1.length:=by simp
           (conv=>whnf);(repeat'((first|apply bT|apply bF|apply bN|((first|apply bD|apply bEq|apply bNe)<;>intro hh<;>try(exfalso;omega))|refine iaJ g1 ?_|refine iaJ g2 ?_|refine lkI hlk ?_|(refine apI (by simp[AV.one]) (by simp only[List.length_cons,List.length_nil,l1];omega) ?_)|refine mpI hpu ?_|refine wJ ?_|refine nJ ?_)<;>conv=>whnf))
           have hins:insE [(k0,ts0),(k1,ts1),(k2,ts2),(k3,ts3),(k4,ts4),(k5,ts5),(k6,ts6)] x t=[(k0,ts0),(k1,ts1++[t]),(k2,ts2),(k3,ts3),(k4,ts4),(k5,ts5),(k6,ts6)]:=by simp only[insE,if_neg q0,if_pos q1]
           rw[hins]at hstep hlen
           refine⟨(j+1,[(k0,ts0),(k1,ts1++[t]),(k2,ts2),(k3,ts3),(k4,ts4),(k5,ts5),(k6,ts6)]),?_,⟨by dsimp only;omega,hstep.symm,hlen,?_⟩,by dsimp only;omega⟩
           ·have hsg:ansG [(k0,ts0),(k1,ts1++[t]),(k2,ts2),(k3,ts3),(k4,ts4),(k5,ts5),(k6,ts6)]=[.mpo [.int .i64 k0, .int .i64 k1, .int .i64 k2, .int .i64 k3, .int .i64 k4, .int .i64 k5, .int .i64 k6] [.row 3, .row 4, .row 5, .row 6, .row 7, .row 8, .row 9], .fresh, .fresh]++[.row false 25 1 (ts0.map fAV), .row false 25 1 (ts1.map fAV++[[.isl (t.map jAV)]]), .row false 25 1 (ts2.map fAV), .row false 25 1 (ts3.map fAV), .row false 25 1 (ts4.map fAV), .row false 25 1 (ts5.map fAV), .row false 25 1 (ts6.map fAV)]++[]:=by rw[<- hfe ts1];rfl
            rw[hsg]
            exact(mA [(4,some 2)])
           ·simp only[List.forall_mem_cons,List.length_append,List.length_cons,List.length_nil]
            refine⟨by omega,by omega,by omega,by omega,by omega,by omega,by omega,by simp⟩
          by_cases q2:x=k2
          ·have hlk:mlook .int [.int .i64 k0, .int .i64 k1, .int .i64 k2, .int .i64 k3, .int .i64 k4, .int .i64 k5, .int .i64 k6] [.row 3, .row 4, .row 5, .row 6, .row 7, .row 8, .row 9] (.int .i64 x)=some (some (.row 5)):=by
            have c0:(x==k0)=false:=by simpa using q0
            have c1:(x==k1)=false:=by simpa using q1
            have c2:(x==k2)=true:=by simpa using q2
            simp[mlook,keyV,findK,keq,c0,c1,c2]
           have hpu:mput .int [.int .i64 k0, .int .i64 k1, .int .i64 k2, .int .i64 k3, .int .i64 k4, .int .i64 k5, .int .i64 k6] [.row 3, .row 4, .row 5, .row 6, .row 7, .row 8, .row 9] (.int .i64 x) (.row 2)=some ([.int .i64 k0, .int .i64 k1, .int .i64 k2, .int .i64 k3, .int .i64 k4, .int .i64 k5, .int .i64 k6],[.row 3, .row 4, .row 2, .row 6, .row 7, .row 8, .row 9]):=by
            have c0:(x==k0)=false:=by simpa using q0
            have c1:(x==k1)=false:=by simpa using q1
            have c2:(x==k2)=true:=by simpa using q2
            simp[mput,keyV,findK,keq,c0,c1,c2]
           have l2:(ts2.map fAV).length=ts2.length:=by simp
           (conv=>whnf);(repeat'((first|apply bT|apply bF|apply bN|((first|apply bD|apply bEq|apply bNe)<;>intro hh<;>try(exfalso;omega))|refine iaJ g1 ?_|refine iaJ g2 ?_|refine lkI hlk ?_|(refine apI (by simp[AV.one]) (by simp only[List.length_cons,List.length_nil,l2];omega) ?_)|refine mpI hpu ?_|refine wJ ?_|refine nJ ?_)<;>conv=>whnf))
           have hins:insE [(k0,ts0),(k1,ts1),(k2,ts2),(k3,ts3),(k4,ts4),(k5,ts5),(k6,ts6)] x t=[(k0,ts0),(k1,ts1),(k2,ts2++[t]),(k3,ts3),(k4,ts4),(k5,ts5),(k6,ts6)]:=by simp only[insE,if_neg q0,if_neg q1,if_pos q2]
           rw[hins]at hstep hlen
           refine⟨(j+1,[(k0,ts0),(k1,ts1),(k2,ts2++[t]),(k3,ts3),(k4,ts4),(k5,ts5),(k6,ts6)]),?_,⟨by dsimp only;omega,hstep.symm,hlen,?_⟩,by dsimp only;omega⟩
           ·have hsg:ansG [(k0,ts0),(k1,ts1),(k2,ts2++[t]),(k3,ts3),(k4,ts4),(k5,ts5),(k6,ts6)]=[.mpo [.int .i64 k0, .int .i64 k1, .int .i64 k2, .int .i64 k3, .int .i64 k4, .int .i64 k5, .int .i64 k6] [.row 3, .row 4, .row 5, .row 6, .row 7, .row 8, .row 9], .fresh, .fresh]++[.row false 25 1 (ts0.map fAV), .row false 25 1 (ts1.map fAV), .row false 25 1 (ts2.map fAV++[[.isl (t.map jAV)]]), .row false 25 1 (ts3.map fAV), .row false 25 1 (ts4.map fAV), .row false 25 1 (ts5.map fAV), .row false 25 1 (ts6.map fAV)]++[]:=by rw[<- hfe ts2];rfl
            rw[hsg]
            exact(mA [(5,some 2)])
           ·simp only[List.forall_mem_cons,List.length_append,List.length_cons,List.length_nil]
            refine⟨by omega,by omega,by omega,by omega,by omega,by omega,by omega,by simp⟩
          by_cases q3:x=k3
          ·have hlk:mlook .int [.int .i64 k0, .int .i64 k1, .int .i64 k2, .int .i64 k3, .int .i64 k4, .int .i64 k5, .int .i64 k6] [.row 3, .row 4, .row 5, .row 6, .row 7, .row 8, .row 9] (.int .i64 x)=some (some (.row 6)):=by
            have c0:(x==k0)=false:=by simpa using q0
            have c1:(x==k1)=false:=by simpa using q1
            have c2:(x==k2)=false:=by simpa using q2
            have c3:(x==k3)=true:=by simpa using q3
            simp[mlook,keyV,findK,keq,c0,c1,c2,c3]
           have hpu:mput .int [.int .i64 k0, .int .i64 k1, .int .i64 k2, .int .i64 k3, .int .i64 k4, .int .i64 k5, .int .i64 k6] [.row 3, .row 4, .row 5, .row 6, .row 7, .row 8, .row 9] (.int .i64 x) (.row 2)=some ([.int .i64 k0, .int .i64 k1, .int .i64 k2, .int .i64 k3, .int .i64 k4, .int .i64 k5, .int .i64 k6],[.row 3, .row 4, .row 5, .row 2, .row 7, .row 8, .row 9]):=by
            have c0:(x==k0)=false:=by simpa using q0
            have c1:(x==k1)=false:=by simpa using q1
            have c2:(x==k2)=false:=by simpa using q2
            have c3:(x==k3)=true:=by simpa using q3
            simp[mput,keyV,findK,keq,c0,c1,c2,c3]
           have l3:(ts3.map fAV).length=ts3.length:=by simp
           (conv=>whnf);(repeat'((first|apply bT|apply bF|apply bN|((first|apply bD|apply bEq|apply bNe)<;>intro hh<;>try(exfalso;omega))|refine iaJ g1 ?_|refine iaJ g2 ?_|refine lkI hlk ?_|(refine apI (by simp[AV.one]) (by simp only[List.length_cons,List.length_nil,l3];omega) ?_)|refine mpI hpu ?_|refine wJ ?_|refine nJ ?_)<;>conv=>whnf))
           have hins:insE [(k0,ts0),(k1,ts1),(k2,ts2),(k3,ts3),(k4,ts4),(k5,ts5),(k6,ts6)] x t=[(k0,ts0),(k1,ts1),(k2,ts2),(k3,ts3++[t]),(k4,ts4),(k5,ts5),(k6,ts6)]:=by simp only[insE,if_neg q0,if_neg q1,if_neg q2,if_pos q3]
           rw[hins]at hstep hlen
           refine⟨(j+1,[(k0,ts0),(k1,ts1),(k2,ts2),(k3,ts3++[t]),(k4,ts4),(k5,ts5),(k6,ts6)]),?_,⟨by dsimp only;omega,hstep.symm,hlen,?_⟩,by dsimp only;omega⟩
           ·have hsg:ansG [(k0,ts0),(k1,ts1),(k2,ts2),(k3,ts3++[t]),(k4,ts4),(k5,ts5),(k6,ts6)]=[.mpo [.int .i64 k0, .int .i64 k1, .int .i64 k2, .int .i64 k3, .int .i64 k4, .int .i64 k5, .int .i64 k6] [.row 3, .row 4, .row 5, .row 6, .row 7, .row 8, .row 9], .fresh, .fresh]++[.row false 25 1 (ts0.map fAV), .row false 25 1 (ts1.map fAV), .row false 25 1 (ts2.map fAV), .row false 25 1 (ts3.map fAV++[[.isl (t.map jAV)]]), .row false 25 1 (ts4.map fAV), .row false 25 1 (ts5.map fAV), .row false 25 1 (ts6.map fAV)]++[]:=by rw[<- hfe ts3];rfl
            rw[hsg]
            exact(mA [(6,some 2)])
           ·simp only[List.forall_mem_cons,List.length_append,List.length_cons,List.length_nil]
            refine⟨by omega,by omega,by omega,by omega,by omega,by omega,by omega,by simp⟩
          by_cases q4:x=k4
          ·have hlk:mlook .int [.int .i64 k0, .int .i64 k1, .int .i64 k2, .int .i64 k3, .int .i64 k4, .int .i64 k5, .int .i64 k6] [.row 3, .row 4, .row 5, .row 6, .row 7, .row 8, .row 9] (.int .i64 x)=some (some (.row 7)):=by
            have c0:(x==k0)=false:=by simpa using q0
            have c1:(x==k1)=false:=by simpa using q1
            have c2:(x==k2)=false:=by simpa using q2
            have c3:(x==k3)=false:=by simpa using q3
            have c4:(x==k4)=true:=by simpa using q4
            simp[mlook,keyV,findK,keq,c0,c1,c2,c3,c4]
           have hpu:mput .int [.int .i64 k0, .int .i64 k1, .int .i64 k2, .int .i64 k3, .int .i64 k4, .int .i64 k5, .int .i64 k6] [.row 3, .row 4, .row 5, .row 6, .row 7, .row 8, .row 9] (.int .i64 x) (.row 2)=some ([.int .i64 k0, .int .i64 k1, .int .i64 k2, .int .i64 k3, .int .i64 k4, .int .i64 k5, .int .i64 k6],[.row 3, .row 4, .row 5, .row 6, .row 2, .row 8, .row 9]):=by
            have c0:(x==k0)=false:=by simpa using q0
            have c1:(x==k1)=false:=by simpa using q1
            have c2:(x==k2)=false:=by simpa using q2
            have c3:(x==k3)=false:=by simpa using q3
            have c4:(x==k4)=true:=by simpa using q4
            simp[mput,keyV,findK,keq,c0,c1,c2,c3,c4]
           have l4:(ts4.map fAV).length=ts4.length:=by simp
           (conv=>whnf);(repeat'((first|apply bT|apply bF|apply bN|((first|apply bD|apply bEq|apply bNe)<;>intro hh<;>try(exfalso;omega))|refine iaJ g1 ?_|refine iaJ g2 ?_|refine lkI hlk ?_|(refine apI (by simp[AV.one]) (by simp only[List.length_cons,List.length_nil,l4];omega) ?_)|refine mpI hpu ?_|refine wJ ?_|refine nJ ?_)<;>conv=>whnf))
           have hins:insE [(k0,ts0),(k1,ts1),(k2,ts2),(k3,ts3),(k4,ts4),(k5,ts5),(k6,ts6)] x t=[(k0,ts0),(k1,ts1),(k2,ts2),(k3,ts3),(k4,ts4++[t]),(k5,ts5),(k6,ts6)]:=by simp only[insE,if_neg q0,if_neg q1,if_neg q2,if_neg q3,if_pos q4]
           rw[hins]at hstep hlen
           refine⟨(j+1,[(k0,ts0),(k1,ts1),(k2,ts2),(k3,ts3),(k4,ts4++[t]),(k5,ts5),(k6,ts6)]),?_,⟨by dsimp only;omega,hstep.symm,hlen,?_⟩,by dsimp only;omega⟩
           ·have hsg:ansG [(k0,ts0),(k1,ts1),(k2,ts2),(k3,ts3),(k4,ts4++[t]),(k5,ts5),(k6,ts6)]=[.mpo [.int .i64 k0, .int .i64 k1, .int .i64 k2, .int .i64 k3, .int .i64 k4, .int .i64 k5, .int .i64 k6] [.row 3, .row 4, .row 5, .row 6, .row 7, .row 8, .row 9], .fresh, .fresh]++[.row false 25 1 (ts0.map fAV), .row false 25 1 (ts1.map fAV), .row false 25 1 (ts2.map fAV), .row false 25 1 (ts3.map fAV), .row false 25 1 (ts4.map fAV++[[.isl (t.map jAV)]]), .row false 25 1 (ts5.map fAV), .row false 25 1 (ts6.map fAV)]++[]:=by rw[<- hfe ts4];rfl
            rw[hsg]
            exact(mA [(7,some 2)])
           ·simp only[List.forall_mem_cons,List.length_append,List.length_cons,List.length_nil]
            refine⟨by omega,by omega,by omega,by omega,by omega,by omega,by omega,by simp⟩
          by_cases q5:x=k5
          ·have hlk:mlook .int [.int .i64 k0, .int .i64 k1, .int .i64 k2, .int .i64 k3, .int .i64 k4, .int .i64 k5, .int .i64 k6] [.row 3, .row 4, .row 5, .row 6, .row 7, .row 8, .row 9] (.int .i64 x)=some (some (.row 8)):=by
            have c0:(x==k0)=false:=by simpa using q0
            have c1:(x==k1)=false:=by simpa using q1
            have c2:(x==k2)=false:=by simpa using q2
            have c3:(x==k3)=false:=by simpa using q3
            have c4:(x==k4)=false:=by simpa using q4
            have c5:(x==k5)=true:=by simpa using q5
            simp[mlook,keyV,findK,keq,c0,c1,c2,c3,c4,c5]
           have hpu:mput .int [.int .i64 k0, .int .i64 k1, .int .i64 k2, .int .i64 k3, .int .i64 k4, .int .i64 k5, .int .i64 k6] [.row 3, .row 4, .row 5, .row 6, .row 7, .row 8, .row 9] (.int .i64 x) (.row 2)=some ([.int .i64 k0, .int .i64 k1, .int .i64 k2, .int .i64 k3, .int .i64 k4, .int .i64 k5, .int .i64 k6],[.row 3, .row 4, .row 5, .row 6, .row 7, .row 2, .row 9]):=by
            have c0:(x==k0)=false:=by simpa using q0
            have c1:(x==k1)=false:=by simpa using q1
            have c2:(x==k2)=false:=by simpa using q2
            have c3:(x==k3)=false:=by simpa using q3
            have c4:(x==k4)=false:=by simpa using q4
            have c5:(x==k5)=true:=by simpa using q5
            simp[mput,keyV,findK,keq,c0,c1,c2,c3,c4,c5]
           have l5:(ts5.map fAV).length=ts5.length:=by simp
           (conv=>whnf);(repeat'((first|apply bT|apply bF|apply bN|((first|apply bD|apply bEq|apply bNe)<;>intro hh<;>try(exfalso;omega))|refine iaJ g1 ?_|refine iaJ g2 ?_|refine lkI hlk ?_|(refine apI (by simp[AV.one]) (by simp only[List.length_cons,List.length_nil,l5];omega) ?_)|refine mpI hpu ?_|refine wJ ?_|refine nJ ?_)<;>conv=>whnf))
           have hins:insE [(k0,ts0),(k1,ts1),(k2,ts2),(k3,ts3),(k4,ts4),(k5,ts5),(k6,ts6)] x t=[(k0,ts0),(k1,ts1),(k2,ts2),(k3,ts3),(k4,ts4),(k5,ts5++[t]),(k6,ts6)]:=by simp only[insE,if_neg q0,if_neg q1,if_neg q2,if_neg q3,if_neg q4,if_pos q5]
           rw[hins]at hstep hlen
           refine⟨(j+1,[(k0,ts0),(k1,ts1),(k2,ts2),(k3,ts3),(k4,ts4),(k5,ts5++[t]),(k6,ts6)]),?_,⟨by dsimp only;omega,hstep.symm,hlen,?_⟩,by dsimp only;omega⟩
           ·have hsg:ansG [(k0,ts0),(k1,ts1),(k2,ts2),(k3,ts3),(k4,ts4),(k5,ts5++[t]),(k6,ts6)]=[.mpo [.int .i64 k0, .int .i64 k1, .int .i64 k2, .int .i64 k3, .int .i64 k4, .int .i64 k5, .int .i64 k6] [.row 3, .row 4, .row 5, .row 6, .row 7, .row 8, .row 9], .fresh, .fresh]++[.row false 25 1 (ts0.map fAV), .row false 25 1 (ts1.map fAV), .row false 25 1 (ts2.map fAV), .row false 25 1 (ts3.map fAV), .row false 25 1 (ts4.map fAV), .row false 25 1 (ts5.map fAV++[[.isl (t.map jAV)]]), .row false 25 1 (ts6.map fAV)]++[]:=by rw[<- hfe ts5];rfl
            rw[hsg]
            exact(mA [(8,some 2)])
           ·simp only[List.forall_mem_cons,List.length_append,List.length_cons,List.length_nil]
            refine⟨by omega,by omega,by omega,by omega,by omega,by omega,by omega,by simp⟩
          by_cases q6:x=k6
          ·have hlk:mlook .int [.int .i64 k0, .int .i64 k1, .int .i64 k2, .int .i64 k3, .int .i64 k4, .int .i64 k5, .int .i64 k6] [.row 3, .row 4, .row 5, .row 6, .row 7, .row 8, .row 9] (.int .i64 x)=some (some (.row 9)):=by
            have c0:(x==k0)=false:=by simpa using q0
            have c1:(x==k1)=false:=by simpa using q1
            have c2:(x==k2)=false:=by simpa using q2
            have c3:(x==k3)=false:=by simpa using q3
            have c4:(x==k4)=false:=by simpa using q4
            have c5:(x==k5)=false:=by simpa using q5
            have c6:(x==k6)=true:=by simpa using q6
            simp[mlook,keyV,findK,keq,c0,c1,c2,c3,c4,c5,c6]
           have hpu:mput .int [.int .i64 k0, .int .i64 k1, .int .i64 k2, .int .i64 k3, .int .i64 k4, .int .i64 k5, .int .i64 k6] [.row 3, .row 4, .row 5, .row 6, .row 7, .row 8, .row 9] (.int .i64 x) (.row 2)=some ([.int .i64 k0, .int .i64 k1, .int .i64 k2, .int .i64 k3, .int .i64 k4, .int .i64 k5, .int .i64 k6],[.row 3, .row 4, .row 5, .row 6, .row 7, .row 8, .row 2]):=by
            have c0:(x==k0)=false:=by simpa using q0
            have c1:(x==k1)=false:=by simpa using q1
            have c2:(x==k2)=false:=by simpa using q2
            have c3:(x==k3)=false:=by simpa using q3
            have c4:(x==k4)=false:=by simpa using q4
            have c5:(x==k5)=false:=by simpa using q5
            have c6:(x==k6)=true:=by simpa using q6
            simp[mput,keyV,findK,keq,c0,c1,c2,c3,c4,c5,c6]
           have l6:(ts6.map fAV).length=ts6.length:=by simp
           (conv=>whnf);(repeat'((first|apply bT|apply bF|apply bN|((first|apply bD|apply bEq|apply bNe)<;>intro hh<;>try(exfalso;omega))|refine iaJ g1 ?_|refine iaJ g2 ?_|refine lkI hlk ?_|(refine apI (by simp[AV.one]) (by simp only[List.length_cons,List.length_nil,l6];omega) ?_)|refine mpI hpu ?_|refine wJ ?_|refine nJ ?_)<;>conv=>whnf))
           have hins:insE [(k0,ts0),(k1,ts1),(k2,ts2),(k3,ts3),(k4,ts4),(k5,ts5),(k6,ts6)] x t=[(k0,ts0),(k1,ts1),(k2,ts2),(k3,ts3),(k4,ts4),(k5,ts5),(k6,ts6++[t])]:=by simp only[insE,if_neg q0,if_neg q1,if_neg q2,if_neg q3,if_neg q4,if_neg q5,if_pos q6]
           rw[hins]at hstep hlen
           refine⟨(j+1,[(k0,ts0),(k1,ts1),(k2,ts2),(k3,ts3),(k4,ts4),(k5,ts5),(k6,ts6++[t])]),?_,⟨by dsimp only;omega,hstep.symm,hlen,?_⟩,by dsimp only;omega⟩
           ·have hsg:ansG [(k0,ts0),(k1,ts1),(k2,ts2),(k3,ts3),(k4,ts4),(k5,ts5),(k6,ts6++[t])]=[.mpo [.int .i64 k0, .int .i64 k1, .int .i64 k2, .int .i64 k3, .int .i64 k4, .int .i64 k5, .int .i64 k6] [.row 3, .row 4, .row 5, .row 6, .row 7, .row 8, .row 9], .fresh, .fresh]++[.row false 25 1 (ts0.map fAV), .row false 25 1 (ts1.map fAV), .row false 25 1 (ts2.map fAV), .row false 25 1 (ts3.map fAV), .row false 25 1 (ts4.map fAV), .row false 25 1 (ts5.map fAV), .row false 25 1 (ts6.map fAV++[[.isl (t.map jAV)]])]++[]:=by rw[<- hfe ts6];rfl
            rw[hsg]
            exact(mA [(9,some 2)])
           ·simp only[List.forall_mem_cons,List.length_append,List.length_cons,List.length_nil]
            refine⟨by omega,by omega,by omega,by omega,by omega,by omega,by omega,by simp⟩
          exfalso
          have hins:insE [(k0,ts0),(k1,ts1),(k2,ts2),(k3,ts3),(k4,ts4),(k5,ts5),(k6,ts6)] x t=[(k0,ts0),(k1,ts1),(k2,ts2),(k3,ts3),(k4,ts4),(k5,ts5),(k6,ts6),(x,[t])]:=by simp only[insE,if_neg q0,if_neg q1,if_neg q2,if_neg q3,if_neg q4,if_neg q5,if_neg q6]
          rw[hins]at hlen;simp at hlen
         |cons e7 E=>simp at hE
 ·have:j=l.length:=by omega
  subst this
  rw[List.take_length]at h2
  have h3':¬((l.length:Nat):Int)<((l.map fAV).length:Int):=by omega
  rw[<- h2]
  clear h2 hB
  cases E with
  |nil=>
   (conv=>whnf);(repeat'((first|apply bT|apply bF|apply bN|((first|apply bD|apply bEq|apply bNe)<;>intro hh<;>try(exfalso;omega))|refine wJ ?_|refine nJ ?_)<;>conv=>whnf))
   all_goals rfl
  |cons e0 E=>
   obtain⟨k0,ts0⟩:=e0
   cases E with
   |nil=>
    (conv=>whnf);(repeat'((first|apply bT|apply bF|apply bN|((first|apply bD|apply bEq|apply bNe)<;>intro hh<;>try(exfalso;omega))|refine wJ ?_|refine nJ ?_)<;>conv=>whnf))
    all_goals rfl
   |cons e1 E=>
    obtain⟨k1,ts1⟩:=e1
    cases E with
    |nil=>
     (conv=>whnf);(repeat'((first|apply bT|apply bF|apply bN|((first|apply bD|apply bEq|apply bNe)<;>intro hh<;>try(exfalso;omega))|refine wJ ?_|refine nJ ?_)<;>conv=>whnf))
     all_goals rfl
    |cons e2 E=>
     obtain⟨k2,ts2⟩:=e2
     cases E with
     |nil=>
      (conv=>whnf);(repeat'((first|apply bT|apply bF|apply bN|((first|apply bD|apply bEq|apply bNe)<;>intro hh<;>try(exfalso;omega))|refine wJ ?_|refine nJ ?_)<;>conv=>whnf))
      all_goals rfl
     |cons e3 E=>
      obtain⟨k3,ts3⟩:=e3
      cases E with
      |nil=>
       (conv=>whnf);(repeat'((first|apply bT|apply bF|apply bN|((first|apply bD|apply bEq|apply bNe)<;>intro hh<;>try(exfalso;omega))|refine wJ ?_|refine nJ ?_)<;>conv=>whnf))
       all_goals rfl
      |cons e4 E=>
       obtain⟨k4,ts4⟩:=e4
       cases E with
       |nil=>
        (conv=>whnf);(repeat'((first|apply bT|apply bF|apply bN|((first|apply bD|apply bEq|apply bNe)<;>intro hh<;>try(exfalso;omega))|refine wJ ?_|refine nJ ?_)<;>conv=>whnf))
        all_goals rfl
       |cons e5 E=>
        obtain⟨k5,ts5⟩:=e5
        cases E with
        |nil=>
         (conv=>whnf);(repeat'((first|apply bT|apply bF|apply bN|((first|apply bD|apply bEq|apply bNe)<;>intro hh<;>try(exfalso;omega))|refine wJ ?_|refine nJ ?_)<;>conv=>whnf))
         all_goals rfl
        |cons e6 E=>
         obtain⟨k6,ts6⟩:=e6
         cases E with
         |nil=>
          (conv=>whnf);(repeat'((first|apply bT|apply bF|apply bN|((first|apply bD|apply bEq|apply bNe)<;>intro hh<;>try(exfalso;omega))|refine wJ ?_|refine nJ ?_)<;>conv=>whnf))
          all_goals rfl
         |cons e7 E=>simp at hE
theorem FnA.isl0{P:Program}{f:FuncId}{R:AV->Prop}(h1:FnA P f [.nils] R)(h2:∀a c,FnA P f [.lit (.slice (some a) 0 c)] R):FnA P f [.isl []] R:=by
 unfold FnA at h1 h2⊢
 intro imm w vs himm hargs
 simp only[RV0s]at hargs
 obtain⟨v,vs',rfl,hv,rfl⟩:=hargs
 simp only[RV0]at hv
 rcases hv with⟨⟨a,hv⟩,_⟩|⟨sz,b,off,cap,hv,_⟩
 ·cases a with
  |none=>exact h1 imm w [v] himm (by simp only[RV0s,RV0];exact⟨v,[],rfl,hv,rfl⟩)
  |some a=>exact h2 a 0 imm w [v] himm (by simp only[RV0s,RV0];exact⟨v,[],rfl,hv,rfl⟩)
 ·exact h2 _ cap imm w [v] himm (by simp only[RV0s,RV0];exact⟨v,[],rfl,hv,rfl⟩)
theorem p53e:FnA Try.prog 53 [.isl []] (· = .isl []):=by
 refine FnA.isl0 ?_ fun a c=>?_
 ·refine fnA 2 ok53 (by simp) ?_
  (conv=>whnf);(repeat'((first|apply bT|apply bF|apply bN|((first|apply bD|apply bEq|apply bNe)<;>intro hh<;>try(exfalso;omega))|refine wJ ?_|refine nJ ?_)<;>conv=>whnf))
  all_goals rfl
 ·refine fnA 2 ok53 (by simp) ?_
  (conv=>whnf);(repeat'((first|apply bT|apply bF|apply bN|((first|apply bD|apply bEq|apply bNe)<;>intro hh<;>try(exfalso;omega))|refine apI (by simp[AV.one]) (by simp) ?_|refine wJ ?_|refine nJ ?_)<;>conv=>whnf))
  all_goals rfl
theorem p53(t:List Int)(h0:0<t.length)(ht:t.length<=1000000):FnO Try.prog 53 [.isl (t.map jAV)] (fun r rows=>r = .row 1/\rows=[(1, .row false 3 1 (t.map jAV))]):=by
 have hL:(t.map jAV).length=t.length:=by simp
 refine fnO 2 ok53 (by simp) ?_
 (conv=>whnf);(repeat'((first|apply bT|apply bF|apply bN|((first|apply bD|apply bEq|apply bNe)<;>intro hh<;>try(exfalso;omega))|(refine apI (fun e he=>j_one t e he) (by simp only[List.length_nil,hL];omega) ?_)|refine wJ ?_|refine nJ ?_)<;>conv=>whnf))
 all_goals exact⟨rfl,rfl⟩
theorem ans_took{s:Stand}(h0:0<=s.gs)(h7:s.gs<=7){g:Nat}(hg:(g:Int)<s.gs):((ansE g (pt s)).map (·.1)).Perm (tookL (truths s) (g:Int) s.gs):=by
 refine(List.perm_ext_iff_of_nodup (ansE_nd g _) (rise_nd tookK_rise)).2 fun x=>?_
 show x∈(ansE g (pt s)).map (·.1)<->x∈tookL (truths s) (g:Int) s.gs
 rw[key_ansE,mem_tookL (s:=s) (truths_okI h0) (by omega) hg]
 constructor
 ·rintro⟨t,h1,h2⟩
  exact⟨t,(pt_perm h0 h7).mem_iff.1 h1,by simpa using h2⟩
 ·rintro⟨t,h1,h2⟩
  exact⟨t,(pt_perm h0 h7).mem_iff.2 h1,by simpa using h2⟩
theorem ans_len{s:Stand}(h0:0<=s.gs)(h7:s.gs<=7){g:Nat}(hg:(g:Int)<s.gs):(ansE g (pt s)).length=(tookL (truths s) (g:Int) s.gs).length:=by
 have:=(ans_took h0 h7 hg).length_eq
 rwa [List.length_map]at this
theorem pt_vals{s:Stand}(h0:0<=s.gs)(h7:s.gs<=7){g:Nat}(hg:(g:Int)<s.gs):∀t∈pt s,g<t.length/\t.length<=1000000/\(0<=t.getD g 0/\t.getD g 0<7):=fun t ht=>by
 have a:=pt_ok h0 h7 t ht
 have b:=tk_lt a.2 g (by omega)
 exact⟨by omega,by omega,by omega⟩
def knP(P:List (List Int))(t:List Int):Nat->List Int
 |0=>t
 |k+1=>if 1<(ansE k P).length then(knP P t k).set k (-1) else knP P t k
theorem knP_len(P:List (List Int))(t:List Int)(k:Nat):(knP P t k).length=t.length:=by
 induction k with
 |zero=>rfl
 |succ k ih=>rw[knP];split<;>simp[ih]
theorem getS'(t:List Int)(k i:Nat)(x:Int)(hi:i<t.length):(t.set k x).getD i 0=if i=k then x else t.getD i 0:=by
 simp only[List.getD_eq_getElem?_getD,List.getElem?_set]
 by_cases h:k=i
 ·subst h;simp[hi]
 ·rw[if_neg h,if_neg (Ne.symm h)]
theorem knP_get(P:List (List Int))(t:List Int)(k i:Nat)(hi:i<t.length):(knP P t k).getD i 0=if i<k/\1<(ansE i P).length then -1 else t.getD i 0:=by
 induction k with
 |zero=>simp[knP]
 |succ k ih=>
  rw[knP]
  by_cases h:1<(ansE k P).length
  ·rw[if_pos h,getS' _ _ _ _ (by rw[knP_len];omega)]
   by_cases e:i=k
   ·subst e;simp[h]
   ·rw[if_neg e,ih]
    by_cases e2:i<k
    ·have:i<k+1:=by omega
     simp[e2,this]
    ·have:¬i<k+1:=by omega
     simp[e2,this]
  ·rw[if_neg h,ih]
   by_cases e:i=k
   ·subst e;simp[h]
   ·by_cases e2:i<k
    ·have:i<k+1:=by omega
     simp[e2,this]
    ·have:¬i<k+1:=by omega
     simp[e2,this]
theorem knP_known{s:Stand}(h0:0<=s.gs)(h7:s.gs<=7){t:List Int}(ht:t∈pt s):knP (pt s) t s.gs.toNat=knownK s (truths s) s.gs.toNat:=by
 have a:=pt_ok h0 h7 t ht
 have ht':=(pt_perm h0 h7).mem_iff.1 ht
 refine ext_getD (by rw[knP_len,knownK_len];omega) fun i hi=>?_
 rw[knP_len]at hi
 have hig:(i:Int)<s.gs:=by omega
 rw[knP_get _ _ _ _ hi,knownK_get s _ (by omega),ans_len h0 h7 hig]
 have hm:t.getD i 0∈tookL (truths s) (i:Int) s.gs:=(mem_tookL (s:=s) (truths_okI h0) (by omega) hig).2 ⟨t,ht',by simp⟩
 unfold oneL
 by_cases h:(tookL (truths s) (i:Int) s.gs).length=1
 ·rw[if_pos h,if_neg (by omega)]
  obtain⟨x,hx⟩:=List.length_eq_one_iff.1 h
  rw[hx]at hm⊢
  simpa using hm
 ·have:=List.length_pos_of_mem hm
  rw[if_neg h,if_pos ⟨by omega,by omega⟩]
theorem oE_ok{s:Stand}{b:Bool}(h:s.oE b=0):s.chk=0/\b=true/\(truths s).length≠0:=by
 have a:=err_zero.1 h
 exact⟨a.1,a.2.1,by omega⟩
theorem oE_true(s:Stand):s.oE true=s.eG (-1000000):=by rw[eG_none,Stand.oE]
theorem getF(l:List (List Int))(i:Nat)(h:i<l.length):(l.map fAV).getD i []=[.isl ((l.getD i []).map jAV)]:=by
 rw[getM fAV l i h];simp[List.getD_eq_getElem?_getD,h,fAV]
theorem p19(s:Stand)(hl:s.ws.length<=1000000)(hw:∀w∈s.ws,w.am.length<=1000000):FnA Try.prog 19 [.agg s.cells] (· = .tup [.isl ((if s.eG (-1000000)=0 then knownK s (truths s) s.gs.toNat else []).map jAV), .int .i64 (s.eG (-1000000))]):=by
 have e1:=p52 s true hl hw
 rw[<- oE_true]
 by_cases h:s.oE true=0
 ·have a:=oE_ok h
  have hc:=chk_ok.1 a.1
  rw[h,if_pos rfl]at e1
  rw[h,if_pos rfl]
  have hP:=pt_len hc.1.1 hc.1.2
  have hP1:=pt_small hc.1.2
  have hv:=fun(g:Nat) (hg:(g:Int)<s.gs)=>pt_vals hc.1.1 hc.1.2 hg
  have hpl:0<(pt s).length:=by omega
  have g1:=getF (pt s) 0 hpl
  have ht0:(pt s).getD 0 []∈pt s:=by simp[List.getD_eq_getElem?_getD,hpl]
  have hkn:=knP_known hc.1.1 hc.1.2 ht0
  have htl:=(pt_ok hc.1.1 hc.1.2 _ ht0).1
  rw[<- hkn]
  generalize (pt s).getD 0 []=t at g1 ht0 htl
  generalize pt s=P at e1 hP1 hv hpl g1 ht0
  have hL:(P.map fAV).length=P.length:=by simp
  by_cases hz:s.gs=0
  ·have:t=[]:=List.length_eq_zero_iff.1 (by omega)
   subst this
   rw[hz]
   have e2:=p53e
   refine fnA 3 ok19 (by simp) ?_
   (conv=>whnf);(repeat'((first|apply bT|apply bF|apply bN|((first|apply bD|apply bEq|apply bNe)<;>intro hh<;>try(exfalso;omega))|refine e1.zq rfl rfl ?_|refine iaJ g1 ?_|refine e2.zq rfl rfl ?_|refine wJ ?_|refine nJ ?_)<;>conv=>whnf))
   refine loop_i (α :=Unit) (fun _=>[(22, .int .i64 0),(21, .int .i64 s.gs),(6, .isl []),(1, .own 0 0)]) (fun _=>[.box false s.cells, .fresh, .fresh]) (fun _=>True) (fun _=>0) () mI trivial ?_
   rintro _ _
   (conv=>whnf);(repeat'((first|apply bT|apply bF|apply bN|((first|apply bD|apply bEq|apply bNe)<;>intro hh<;>try(exfalso;omega))|refine wJ ?_|refine nJ ?_)<;>conv=>whnf))
   all_goals rfl
  ·have e2:=p53 t (by omega) (by omega)
   have hk0:(t.map jAV)=(knP P t 0).map jAV:=rfl
   refine fnA 3 ok19 (by simp) ?_
   (conv=>whnf);(repeat'((first|apply bT|apply bF|apply bN|((first|apply bD|apply bEq|apply bNe)<;>intro hh<;>try(exfalso;omega))|refine e1.zq rfl rfl ?_|refine iaJ g1 ?_|refine e2.oq rfl rfl rfl ?_|refine wJ ?_|refine nJ ?_)<;>conv=>whnf))
   refine loop_i (α :=Nat) (fun k=>[(22, .int .i64 k),(21, .int .i64 s.gs),(6, .row 2),(4, .isl (P.map fAV)),(1, .own 0 0)]) (fun k=>[.box false s.cells, .fresh, .row false 3 1 ((knP P t k).map jAV)]) (fun k=>k<=s.gs.toNat) (fun k=>s.gs.toNat-k) 0 mI (by omega) ?_
   rintro k h1
   conv=>whnf
   refine bD (fun h3=>?_) (fun h3=>?_)
   ·have hk:k<s.gs.toNat:=by omega
    have hvk:=hv k h3
    have e3:=p54 P k hP1 (fun t ht=>⟨(hvk t ht).1,(hvk t ht).2.1⟩) (fun t ht=>(hvk t ht).2.2)
    have hE:((ansE k P).map keyA).length=(ansE k P).length:=by simp
    have hkl:=knP_len P t k
    have hJ:((knP P t k).map jAV).length=t.length:=by simp[hkl]
    have g2:=getJ (knP P t k) k (by omega)
    by_cases hx:1<(ansE k P).length
    ·have ek:(knP P t (k+1)).map jAV=((knP P t k).map jAV).set k [.int .i64 (-1)]:=by rw[knP,if_pos hx,List.map_set];rfl
     (conv=>whnf);(repeat'((first|apply bT|apply bF|apply bN|((first|apply bD|apply bEq|apply bNe)<;>intro hh<;>try(exfalso;omega))|refine e3.zq rfl rfl ?_|refine iaJ g2 ?_|refine wJ ?_|refine nJ ?_)<;>conv=>whnf))
     exact⟨k+1,by rw[ek];exact mI,by omega,by omega⟩
    ·have ek:knP P t (k+1)=knP P t k:=by rw[knP,if_neg hx]
     (conv=>whnf);(repeat'((first|apply bT|apply bF|apply bN|((first|apply bD|apply bEq|apply bNe)<;>intro hh<;>try(exfalso;omega))|refine e3.zq rfl rfl ?_|refine iaJ g2 ?_|refine wJ ?_|refine nJ ?_)<;>conv=>whnf))
     exact⟨k+1,by rw[ek];exact mI,by omega,by omega⟩
   ·have:k=s.gs.toNat:=by omega
    subst this
    (conv=>whnf);(repeat'((first|apply bT|apply bF|apply bN|((first|apply bD|apply bEq|apply bNe)<;>intro hh<;>try(exfalso;omega))|refine wJ ?_|refine nJ ?_)<;>conv=>whnf))
    all_goals rfl
 ·rw[if_neg h]at e1
  rw[if_neg h]
  refine fnA 3 ok19 (by simp) ?_
  (conv=>whnf);(repeat'((first|apply bT|apply bF|apply bN|((first|apply bD|apply bEq|apply bNe)<;>intro hh<;>try(exfalso;omega))|refine e1.zq rfl rfl ?_|refine wJ ?_|refine nJ ?_)<;>conv=>whnf))
  all_goals rfl
theorem p80(w:Word)(l:List (List Int))(hl:l.length<=1000000)(hs:∀t∈l,spk w t):FnA Try.prog 80 [.isl (l.map fAV),soAV w] (fun r=>∃i:Int,r = .int .i64 i/\decide (0<=i)=l.any (isSo w)):=by
 have hL:(l.map fAV).length=l.length:=by simp
 refine fnA 0 ok80 (by simp) ?_
 (conv=>whnf);(repeat'((first|apply bT|apply bF|apply bN|((first|apply bD|apply bEq|apply bNe)<;>intro hh<;>try(exfalso;omega))|refine wJ ?_|refine nJ ?_)<;>conv=>whnf))
 refine loop_i (α :=Nat) (fun k=>[(8, .int .i64 k),(7, .int .i64 ↑(l.map fAV).length),(1,soAV w),(0, .isl (l.map fAV))]) (fun k=>[]) (fun k=>k<=l.length/\∀b∈l.take k,isSo w b=false) (fun k=>l.length-k) 0 mI ⟨by omega,by simp⟩ ?_
 rintro k ⟨h1,h2⟩
 conv=>whnf
 refine bD (fun h3=>?_) (fun h3=>?_)
 ·have hk:k<l.length:=by omega
  have hv:=so_V w l[k] (hs _ (List.getElem_mem hk))
  cases hx:isSo w l[k]with
  |true=>
   rw[hx]at hv
   (conv=>whnf);(repeat'((first|apply bT|apply bF|apply bN|((first|apply bD|apply bEq|apply bNe)<;>intro hh<;>try(exfalso;omega))|refine iaJ (getM fAV l k hk) ?_|(refine hv.vcallq rfl rfl rfl rfl (fun r (hr:r=_)=>?_);subst hr)|refine wJ ?_|refine nJ ?_)<;>conv=>whnf))
   all_goals exact⟨(k:Int),rfl,by rw[decide_eq_true (show(0:Int)<=(k:Int) by omega)];exact(List.any_eq_true.2 ⟨_,List.getElem_mem hk,hx⟩).symm⟩
  |false=>
   rw[hx]at hv
   (conv=>whnf);(repeat'((first|apply bT|apply bF|apply bN|((first|apply bD|apply bEq|apply bNe)<;>intro hh<;>try(exfalso;omega))|refine iaJ (getM fAV l k hk) ?_|(refine hv.vcallq rfl rfl rfl rfl (fun r (hr:r=_)=>?_);subst hr)|refine wJ ?_|refine nJ ?_)<;>conv=>whnf))
   exact⟨k+1,mI,⟨by omega,take_none hk h2 hx⟩,by omega⟩
 ·have:k=l.length:=by omega
  subst this
  rw[List.take_length]at h2
  (conv=>whnf);(repeat'((first|apply bT|apply bF|apply bN|((first|apply bD|apply bEq|apply bNe)<;>intro hh<;>try(exfalso;omega))|refine wJ ?_|refine nJ ?_)<;>conv=>whnf))
  all_goals exact⟨-1,rfl,by rw[decide_eq_false (show ¬(0:Int) <= -1 by omega)];exact(List.any_eq_false.2 fun x hx=>by simp[h2 x hx]).symm⟩
theorem p55(w:Word)(l:List (List Int))(hl:l.length<=1000000)(hs:∀t∈l,spk w t):FnA Try.prog 55 [.isl (l.map fAV),soAV w] (· = .bool (l.any (isSo w))):=by
 have e1:=p80 w l hl hs
 refine fnA 0 ok55 (by simp) ?_
 conv=>whnf
 refine e1.callq rfl rfl (fun r hr=>?_)
 obtain⟨i,rfl,hi⟩:=hr
 rw[<- hi]
 (conv=>whnf);(repeat'((first|apply bT|apply bF|apply bN|((first|apply bD|apply bEq|apply bNe)<;>intro hh<;>try(exfalso;omega))|refine wJ ?_|refine nJ ?_)<;>conv=>whnf))
 all_goals first|rfl|exact congrArg AV.bool (decide_eq_decide.2 (by omega))|exact congrArg AV.bool (decide_eq_true (by omega)).symm|exact congrArg AV.bool (decide_eq_false (by omega)).symm
theorem p20(s:Stand)(hl:s.ws.length<=1000000)(hw:∀w∈s.ws,w.am.length<=1000000):FnA Try.prog 20 [.agg s.cells] (· = .tup [.isl ((if s.eG (-1000000)=0 then liarsK s s.ws.length else []).map jAV), .int .i64 (s.eG (-1000000))]):=by
 have e1:=p52 s true hl hw
 rw[<- oE_true]
 refine fnA 5 ok20 (by simp) ?_
 by_cases h:s.oE true=0
 ·have a:=oE_ok h
  have hc:=chk_ok.1 a.1
  rw[h,if_pos rfl]at e1
  rw[h,if_pos rfl]
  have hP1:=pt_small hc.1.2
  have hsp:∀t∈pt s,∀w∈s.ws,spk w t:=fun t ht=>spk_ok a.1 (pt_ok hc.1.1 hc.1.2 t ht).1
  have hany:∀w,lieW s w = !(pt s).any (isSo w):=fun w=>by
   unfold lieW
   congr 1
   rw[Bool.eq_iff_iff,List.any_eq_true,List.any_eq_true]
   exact⟨fun⟨t,h1,h2⟩=>⟨t,(pt_perm hc.1.1 hc.1.2).mem_iff.2 h1,h2⟩,fun⟨t,h1,h2⟩=>⟨t,(pt_perm hc.1.1 hc.1.2).mem_iff.1 h1,h2⟩⟩
  generalize pt s=P at e1 hP1 hsp hany
  have hW:(s.ws.map Word.av).length=s.ws.length:=by simp
  (conv=>whnf);(repeat'((first|apply bT|apply bF|apply bN|((first|apply bD|apply bEq|apply bNe)<;>intro hh<;>try(exfalso;omega))|refine e1.zq rfl rfl ?_|refine wJ ?_|refine nJ ?_)<;>conv=>whnf))
  refine loop_i (α :=Nat) (fun k=>[(20, .int .i64 k),(19, .int .i64 ↑(s.ws.map Word.av).length),(18, .isl (s.ws.map Word.av)),(6, .row 5),(4, .isl (P.map fAV)),(1, .own 0 0)]) (fun k=>[.box false s.cells, .fresh, .fresh, .fresh, .fresh, .row false 3 1 ((liarsK s k).map jAV)]) (fun k=>k<=s.ws.length) (fun k=>s.ws.length-k) 0 (mA [(5,none)]) (by omega) ?_
  rintro k h1
  conv=>whnf
  refine bD (fun h3=>?_) (fun h3=>?_)
  ·have hk:k<s.ws.length:=by omega
   have g1:=getM Word.av s.ws k hk
   have e2:=p56 s.ws[k]
   have e3:=p55 s.ws[k] P hP1 (fun t ht=>hsp t ht _ (List.getElem_mem hk))
   have ek:s.ws.getD k ⟨0,0,0,[]⟩=s.ws[k]:=by simp[List.getD_eq_getElem?_getD,hk]
   have hll:((liarsK s k).map jAV).length<=k:=by
    rw[List.length_map,liarsK_len (by omega)]
    exact Nat.le_trans List.countP_le_length (by simp only[List.length_take];omega)
   cases hx:P.any (isSo s.ws[k])<;>rw[hx]at e3
   ·have el:(liarsK s (k+1)).map jAV=(liarsK s k).map jAV++[[.int .i64 (k:Int)]]:=by rw[liarsK,ek,hany,hx,if_pos (by rfl),List.map_append];rfl
    (conv=>whnf);(repeat'((first|apply bT|apply bF|apply bN|((first|apply bD|apply bEq|apply bNe)<;>intro hh<;>try(exfalso;omega))|refine iaJ g1 ?_|refine e2.zq rfl rfl ?_|refine e3.cq rfl rfl ?_|(refine apJ ?_)|refine wJ ?_|refine nJ ?_)<;>conv=>whnf))
    refine⟨k+1,?_,by omega,by omega⟩
    rw[el]
    exact(mA [(5,some 4)])
   ·have el:liarsK s (k+1)=liarsK s k:=by rw[liarsK,ek,hany,hx,if_neg (by simp),List.append_nil]
    (conv=>whnf);(repeat'((first|apply bT|apply bF|apply bN|((first|apply bD|apply bEq|apply bNe)<;>intro hh<;>try(exfalso;omega))|refine iaJ g1 ?_|refine e2.zq rfl rfl ?_|refine e3.cq rfl rfl ?_|refine wJ ?_|refine nJ ?_)<;>conv=>whnf))
    exact⟨k+1,by rw[el];exact mI,by omega,by omega⟩
  ·have:k=s.ws.length:=by omega
   subst this
   (conv=>whnf);(repeat'((first|apply bT|apply bF|apply bN|((first|apply bD|apply bEq|apply bNe)<;>intro hh<;>try(exfalso;omega))|refine wJ ?_|refine nJ ?_)<;>conv=>whnf))
   all_goals rfl
 ·rw[if_neg h]at e1
  rw[if_neg h]
  (conv=>whnf);(repeat'((first|apply bT|apply bF|apply bN|((first|apply bD|apply bEq|apply bNe)<;>intro hh<;>try(exfalso;omega))|refine e1.zq rfl rfl ?_|refine wJ ?_|refine nJ ?_)<;>conv=>whnf))
  all_goals rfl
theorem all_in:∀(n:Nat) (t:List Int),t.length<=n->(∀u,u<n->(u:Int)∈t)->t.Nodup/\(∀x∈t,0<=x/\x<(n:Int))/\t.length=n:=by
 intro n
 induction n with
 |zero=>intro t h _;have:t=[]:=List.length_eq_zero_iff.1 (by omega);subst this;simp
 |succ n ih=>
  intro t hl hu
  obtain⟨a,b,rfl⟩:=List.append_of_mem (hu n (by omega))
  simp only[List.length_append,List.length_cons]at hl
  obtain⟨h1,h2,h3⟩:=ih (a++b) (by simp;omega) fun u hu'=>by
   have:=hu u (by omega)
   simp only[List.mem_append,List.mem_cons]at this⊢
   rcases this with h|h|h
   ·exact .inl h
   ·omega
   ·exact .inr h
  have hp:(a++(n:Int)::b).Perm ((n:Int)::(a++b)):=List.perm_middle
  refine⟨hp.nodup_iff.2 (List.nodup_cons.2 ⟨fun hm=>by have:=h2 _ hm;omega,h1⟩),fun x hx=>?_,by simp at h3⊢;omega⟩
  rcases List.mem_cons.1 (hp.mem_iff.1 hx)with rfl|hx
  ·omega
  ·have:=h2 x hx;omega
def val(u:List Int)(x:Int):Int:=u.getD x.toNat 0
def exP(a b:Int):List Int:=[min a b,max a b]
def swP(u:List Int)(p:List Int):List Int:=swL u (p.getD 0 0).toNat (p.getD 1 0).toNat
def afl(u:List Int)(l:List (List Int)):List Int:=l.foldl swP u
theorem aft_afl(t:List Int)(l:List (List Int)):∀k,k<=l.length->aft t l k=afl t (l.take k):=by
 intro k
 induction k with
 |zero=>intro _;rfl
 |succ k ih=>
  intro h
  have hk:k<l.length:=by omega
  rw[List.take_succ_eq_append_getElem hk,afl,List.foldl_append,aft,ih (by omega)]
  have:l.getD k []=l[k]:=by simp[List.getD_eq_getElem?_getD,hk]
  rw[this];rfl
theorem aft_all(t:List Int)(l:List (List Int)):aft t l l.length=afl t l:=by rw[aft_afl t l _ (Nat.le_refl _),List.take_length]
def okG(n:Nat)(x:Int):Prop:=0<=x/\x<(n:Int)
theorem swP_len(u p:List Int):(swP u p).length=u.length:=swL_len _ _ _
theorem exP_two(x y:Int):(exP x y=[x,y])\/exP x y=[y,x]:=by
 unfold exP
 by_cases h:x<=y
 ·left;rw[Int.min_eq_left h,Int.max_eq_right h]
 ·right;rw[Int.min_eq_right (by omega),Int.max_eq_left (by omega)]
theorem swP_val{n:Nat}{u:List Int}(hl:u.length=n){x y z:Int}(hx:okG n x)(hy:okG n y)(hz:0<=z):val (swP u (exP x y)) z=if z=x then val u y else if z=y then val u x else val u z:=by
 have key:∀a b:Int,okG n a->okG n b->val (swL u a.toNat b.toNat) z=if z=a then val u b else if z=b then val u a else val u z:=fun a b ha hb=>by
  unfold val okG at *
  rw[swL_get _ _ _ _ (by omega) (by omega)]
  by_cases h1:z=a
  ·subst h1;simp
  ·rw[if_neg h1,if_neg (by omega)]
   by_cases h2:z=b
   ·subst h2;simp
   ·rw[if_neg h2,if_neg (by omega)]
 unfold swP
 rcases exP_two x y with h|h<;>rw[h]
 ·exact key x y hx hy
 ·have:=key y x hy hx
  simp only[List.getD_cons_zero,List.getD_cons_succ]at *
  rw[this]
  by_cases h1:z=x
  ·subst h1
   by_cases h2:z=y
   ·subst h2;simp
   ·simp[h2]
  ·by_cases h2:z=y
   ·subst h2;simp[h1]
   ·simp[h1,h2]
theorem swP_tk{n:Nat}{u:List Int}(hl:u.length=n)(ht:tk u){x y:Int}(hx:okG n x)(hy:okG n y):tk (swP u (exP x y)):=by
 unfold swP okG at *
 rcases exP_two x y with h|h<;>rw[h]
 ·exact swL_tk ht (by simp only[List.getD_cons_zero];omega) (by simp only[List.getD_cons_succ,List.getD_cons_zero];omega)
 ·exact swL_tk ht (by simp only[List.getD_cons_zero];omega) (by simp only[List.getD_cons_succ,List.getD_cons_zero];omega)
theorem swL_comm(u:List Int)(g h:Nat)(hg:g<u.length)(hh:h<u.length):swL u g h=swL u h g:=
 ext_getD (by rw[swL_len,swL_len]) fun i _=>by
  rw[swL_get _ _ _ _ hg hh,swL_get _ _ _ _ hh hg]
  by_cases h1:i=g<;>by_cases h2:i=h<;>simp_all
theorem swP_need{n:Nat}{u:List Int}(hl:u.length=n)(ht:tk u){x y:Int}(hx:okG n x)(hy:okG n y)(hne:x≠y)(e:val u x=y):need (swP u (exP x y))+1=need u:=by
 unfold swP okG val at *
 have hup:=need_up ht (g:=x.toNat) (h:=y.toNat) (by omega) (by omega) (by omega) (by rw[e];omega)
 rcases exP_two x y with h|h<;>rw[h]<;>simp only[List.getD_cons_zero,List.getD_cons_succ]
 ·exact hup
 ·rw[swL_comm _ _ _ (by omega) (by omega)];exact hup
theorem exP_pr{n:Nat}{x y:Int}(hx:okG n x)(hy:okG n y)(hne:x≠y):isPr (exP x y) n=true:=by
 unfold okG at *
 unfold isPr exP
 by_cases h:x<=y
 ·rw[Int.min_eq_left h,Int.max_eq_right h]
  exact decide_eq_true ⟨rfl,hx.1,by simp only[List.getD_cons_zero,List.getD_cons_succ];omega,hy.2⟩
 ·rw[Int.min_eq_right (by omega),Int.max_eq_left (by omega)]
  exact decide_eq_true ⟨rfl,hy.1,by simp only[List.getD_cons_zero,List.getD_cons_succ];omega,hx.2⟩
theorem getD_mem{α : Type}{l:List α}{i:Nat}{d : α}(h:i<l.length):l.getD i d∈l:=by
 rw[List.getD_eq_getElem?_getD,List.getElem?_eq_getElem h];exact List.getElem_mem h
def chain(u:List Int):Int->List Int->Int->Prop
 |x,[],e=>val u x=e
 |x,h::rest,e=>val u x=h/\chain u h rest e
theorem chain_congr{u v:List Int}:∀ {rest:List Int} {x e:Int},(∀y∈x::rest,val v y=val u y)->chain u x rest e->chain v x rest e:=by
 intro rest
 induction rest with
 |nil=>intro x e h hc;simp only[chain]at hc⊢;rw[h x (by simp)];exact hc
 |cons y rest ih=>
  intro x e h hc
  simp only[chain]at hc⊢
  exact⟨by rw[h x (by simp)];exact hc.1,ih (fun z hz=>h z (by simp only[List.mem_cons]at hz⊢;exact .inr hz)) hc.2⟩
def exL(r:List Int):List (List Int):=r.tail.map (exP (r.headD 0))
theorem ex_chain{n:Nat}:∀(rest:List Int) (u:List Int) (g:Int),u.length=n->tk u->(∀x∈g::rest,okG n x)->(g::rest).Nodup->chain u g rest g ->
  (afl u (rest.map (exP g))).length=n/\tk (afl u (rest.map (exP g)))/\need (afl u (rest.map (exP g)))+rest.length=need u/\(∀x∈g::rest,val (afl u (rest.map (exP g))) x=x)/\∀z,0<=z->z∉g::rest->val (afl u (rest.map (exP g))) z=val u z:=by
 intro rest
 induction rest with
 |nil=>
  intro u g hl ht hok hnd hc
  simp only[chain]at hc
  exact⟨hl,ht,by simp[afl],fun x hx=>by simp only[List.mem_singleton]at hx;subst hx;exact hc,fun z _ _=>rfl⟩
 |cons h rest ih=>
  intro u g hl ht hok hnd hc
  simp only[chain]at hc
  have hg:=hok g (by simp)
  have hh:=hok h (by simp)
  have hgh:g≠h:=fun e=>by subst e;simp at hnd
  have hsv:=fun(z:Int) (hz:0<=z)=>swP_val (n:=n) hl (x:=g) (y:=h) hg hh hz
  have hnd':(g::rest).Nodup:=by
   simp only[List.nodup_cons,List.mem_cons,not_or]at hnd⊢;exact⟨hnd.1.2,hnd.2.2⟩
  have hnh:h∉g::rest:=by
   simp only[List.nodup_cons,List.mem_cons,not_or]at hnd⊢;exact⟨Ne.symm hgh,hnd.2.1⟩
  have hok':∀x∈g::rest,okG n x:=fun x hx=>hok x (by simp only[List.mem_cons]at hx⊢;rcases hx with h|h<;>simp[h])
  have hc':chain (swP u (exP g h)) g rest g:=by
   have hv:val (swP u (exP g h)) g=val u h:=by rw[hsv g hg.1,if_pos rfl]
   cases rest with
   |nil=>simp only[chain]at hc⊢;rw[hv];exact hc.2
   |cons h2 rest2=>
    simp only[chain]at hc⊢
    refine⟨by rw[hv];exact hc.2.1,chain_congr (fun y hy=>?_) hc.2.2⟩
    have hy':y∈g::h2::rest2:=List.mem_cons_of_mem _ hy
    rw[hsv y (hok' y hy').1,if_neg (fun e=>by subst e;exact(List.nodup_cons.1 hnd').1 hy),if_neg (fun e=>by subst e;exact hnh hy')]
  obtain⟨a1,a2,a3,a4,a5⟩:=ih (swP u (exP g h)) g (by rw[swP_len,hl]) (swP_tk hl ht hg hh) hok' hnd' hc'
  have hn:=swP_need hl ht hg hh hgh hc.1
  show(afl (swP u (exP g h)) (rest.map (exP g))).length=n/\tk (afl (swP u (exP g h)) (rest.map (exP g)))/\need (afl (swP u (exP g h)) (rest.map (exP g)))+(rest.length+1)=need u/\(∀x∈g::h::rest,val (afl (swP u (exP g h)) (rest.map (exP g))) x=x)/\∀z,0<=z->z∉g::h::rest->val (afl (swP u (exP g h)) (rest.map (exP g))) z=val u z
  refine⟨a1,a2,by omega,fun x hx=>?_,fun z hz hm=>?_⟩
  ·by_cases e:x=h
   ·subst e
    rw[a5 x hh.1 hnh,hsv x hh.1,if_neg (Ne.symm hgh),if_pos rfl,hc.1]
   ·exact a4 x (by simp only[List.mem_cons]at hx⊢;rcases hx with h|h|h<;>simp_all)
  ·simp only[List.mem_cons,not_or]at hm
   rw[a5 z hz (by simp only[List.mem_cons,not_or];exact⟨hm.1,hm.2.2⟩),hsv z hz,if_neg hm.1,if_neg hm.2.1]
def isRing(t:List Int)(r:List Int):Prop:=0<r.length/\∀i,i<r.length->val t (r.getD i 0)=r.getD ((i+1)%r.length) 0
structure RingsOk(t:List Int)(R:List (List Int)):Prop where
 rg:∀r∈R,isRing t r/\∀x∈r,okG t.length x
 nd:R.flatten.Nodup
 cov:∀x,okG t.length x->x∈R.flatten
theorem ring_chain{t r:List Int}(h:isRing t r):chain t (r.headD 0) r.tail (r.headD 0):=by
 have key:∀(rest:List Int) (i:Nat),r.drop (i+1)=rest->i<r.length->chain t (r.getD i 0) rest (r.headD 0):=by
  intro rest
  induction rest with
  |nil=>
   intro i hd hi
   have hlen:r.length<=i+1:=List.drop_eq_nil_iff.1 hd
   have:=h.2 i hi
   simp only[chain]
   rw[this,show(i+1)%r.length=0 from by rw[show i+1=r.length by omega,Nat.mod_self]]
   cases r<;>rfl
  |cons x rest ih=>
   intro i hd hi
   have hlt:i+1<r.length:=Classical.byContradiction fun hn=>by rw[List.drop_eq_nil_of_le (by omega)]at hd;cases hd
   have hx:r.getD (i+1) 0=x:=by
    have:=congrArg (fun l=>l.getD 0 0) hd
    simpa[List.getD_eq_getElem?_getD]using this
   have hd2:r.drop (i+1+1)=rest:=by
    have:=congrArg List.tail hd
    simpa using this
   simp only[chain]
   refine⟨by rw[h.2 i hi,Nat.mod_eq_of_lt hlt,hx],?_⟩
   rw[<- hx];exact ih (i+1) hd2 hlt
 have:=key r.tail 0 (by simp) h.1
 have e:r.getD 0 0=r.headD 0:=by cases r<;>rfl
 rwa [e]at this
theorem ex_rings{n:Nat}:∀(R:List (List Int)) (u:List Int),u.length=n->tk u->(∀r∈R,0<r.length/\chain u (r.headD 0) r.tail (r.headD 0)/\∀x∈r,okG n x)->R.flatten.Nodup ->
  (afl u (R.flatMap exL)).length=n/\tk (afl u (R.flatMap exL))/\need (afl u (R.flatMap exL))+(R.flatMap exL).length=need u/\(∀x∈R.flatten,val (afl u (R.flatMap exL)) x=x)/\∀z,0<=z->z∉R.flatten->val (afl u (R.flatMap exL)) z=val u z:=by
 intro R
 induction R with
 |nil=>intro u hl ht _ _;exact⟨hl,ht,by simp[afl],fun x hx=>by simp at hx,fun z _ _=>rfl⟩
 |cons r R ih=>
  intro u hl ht hR hnd
  obtain⟨h1,h2,h3⟩:=hR r (by simp)
  obtain⟨g,rest,rfl⟩:∃g rest,r=g::rest:=by
   cases r with
   |nil=>simp at h1
   |cons g rest=>exact⟨g,rest,rfl⟩
  simp only[List.headD_cons,List.tail_cons]at h2
  simp only[List.flatten_cons]at hnd
  have hn2:=List.nodup_append.1 hnd
  obtain⟨a1,a2,a3,a4,a5⟩:=ex_chain rest u g hl ht h3 hn2.1 h2
  obtain⟨b1,b2,b3,b4,b5⟩:=ih (afl u (rest.map (exP g))) a1 a2 (fun r' hr'=>by
   obtain⟨k1,k2,k3⟩:=hR r' (by simp[hr'])
   refine⟨k1,chain_congr (fun y hy=>?_) k2,k3⟩
   have hy':y∈r':=by
    cases r' with
    |nil=>simp at k1
    |cons p q=>simpa using hy
   exact a5 y (k3 y hy').1 fun hm=>hn2.2.2 _ hm _ (List.mem_flatten.2 ⟨r',hr',hy'⟩) rfl) hn2.2.1
  have e:afl u (((g::rest)::R).flatMap exL)=afl (afl u (rest.map (exP g))) (R.flatMap exL):=by
   rw[List.flatMap_cons,afl,List.foldl_append];rfl
  rw[e]
  refine⟨b1,b2,?_,fun x hx=>?_,fun z hz hm=>?_⟩
  ·rw[List.flatMap_cons,List.length_append]
   have:(exL (g::rest)).length=rest.length:=by simp[exL]
   omega
  ·simp only[List.flatten_cons,List.mem_append]at hx
   by_cases hx2:x∈R.flatten
   ·exact b4 x hx2
   ·have hx1:=hx.resolve_right hx2
    rw[b5 x (h3 x hx1).1 hx2];exact a4 x hx1
  ·simp only[List.flatten_cons,List.mem_append,not_or]at hm
   rw[b5 z hz hm.2];exact a5 z hz hm.1
theorem val_right{t:List Int}(h:∀x,okG t.length x->val t x=x):rightP t t.length:=fun i hi=>by
 have:=h (i:Int) ⟨by omega,by omega⟩
 simpa[val]using this
theorem exch_ok{t:List Int}{R:List (List Int)}(ht:tk t)(h:RingsOk t R):(R.flatMap exL).length=need t/\prsP (R.flatMap exL) t.length (R.flatMap exL).length/\rightP (aft t (R.flatMap exL) (R.flatMap exL).length) t.length:=by
 obtain⟨a1,a2,a3,a4,a5⟩:=ex_rings R t rfl ht (fun r hr=>⟨(h.rg r hr).1.1,ring_chain (h.rg r hr).1,(h.rg r hr).2⟩) h.nd
 have hr:rightP (afl t (R.flatMap exL)) (afl t (R.flatMap exL)).length:=val_right fun x hx=>a4 x (h.cov x (by rw[a1]at hx;exact hx))
 have hz:=(need_zero a2).2 hr
 rw[a1]at hr
 refine⟨by omega,fun i hi=>?_,by rw[aft_all];exact hr⟩
 have hm:(R.flatMap exL).getD i []∈R.flatMap exL:=getD_mem hi
 obtain⟨r,hr1,hr2⟩:=List.mem_flatMap.1 hm
 obtain⟨y,hy,e⟩:=List.mem_map.1 hr2
 rw[<- e]
 have hpos:=(h.rg r hr1).1.1
 have hnd:r.Nodup:=by
  exact(List.pairwise_flatten.1 h.nd).1 r hr1
 cases r with
 |nil=>simp at hpos
 |cons g rest=>
  simp only[List.tail_cons,List.headD_cons]at hy⊢
  exact exP_pr ((h.rg _ hr1).2 g (by simp)) ((h.rg _ hr1).2 y (by simp[hy])) fun e=>by subst e;exact(List.nodup_cons.1 hnd).1 hy
def posL(m:Nat)(at':Int):List (Nat × Nat):=(List.range m).flatMap fun i=>((List.range i).filter fun(k:Nat)=>decide (((i:Int)+(k:Int)-at').tmod (m:Int)=0)).map fun k=>(i,k)
def prR(r:List Int)(p:Nat × Nat):List Int:=exP (r.getD p.1 0) (r.getD p.2 0)
def mirL(r:List Int)(at':Int):List (List Int):=(posL r.length at').map (prR r)
def disj(p q:Nat × Nat):Bool:=p.1 != q.1&&p.1 != q.2&&p.2 != q.1&&p.2 != q.2
def part(m:Nat)(at':Int)(i:Nat):Nat:=match (posL m at').find? fun p=>p.1==i||p.2==i with
 |some p=>if p.1=i then p.2 else p.1
 |none=>i
def pwB{α : Type}(f : α -> α -> Bool):List α -> Bool
 | []=>true
 |a::l=>l.all (f a)&&pwB f l
theorem pwB_ok{α : Type}{f : α -> α -> Bool}:∀ {l:List α},pwB f l=true->l.Pairwise fun a b=>f a b=true
 | [],_=>List.Pairwise.nil
 |a::l,h=>by
  simp only[pwB,Bool.and_eq_true,List.all_eq_true]at h
  exact List.Pairwise.cons h.1 (pwB_ok h.2)
def posB(m:Nat):Bool:=
 (posL m 1).all (fun p=>decide (p.2<p.1/\p.1<m))&&(posL m 2).all (fun p=>decide (p.2<p.1/\p.1<m))&&pwB disj (posL m 1)&&pwB disj (posL m 2) &&
  (List.range m).all fun i=>decide (part m 2 i<m/\part m 1 (part m 2 i)<m/\(part m 1 (part m 2 i)+1)%m=i)
theorem posB_ok:∀m,m<=7->posB m=true:=by
 intro m h
 have:m=0\/m=1\/m=2\/m=3\/m=4\/m=5\/m=6\/m=7:=by omega
 rcases this with rfl|rfl|rfl|rfl|rfl|rfl|rfl|rfl<;>decide +kernel
structure Rnd(n:Nat)(L:List (Int × Int)):Prop where
 ok:∀p∈L,okG n p.1/\okG n p.2/\p.1≠p.2
 dj:L.Pairwise fun p q=>p.1≠q.1/\p.1≠q.2/\p.2≠q.1/\p.2≠q.2
def exs(L:List (Int × Int)):List (List Int):=L.map fun p=>exP p.1 p.2
theorem afl_off{n:Nat}:∀(L:List (Int × Int)) (u:List Int),u.length=n->Rnd n L->∀z,0<=z->(∀p∈L,z≠p.1/\z≠p.2)->val (afl u (exs L)) z=val u z:=by
 intro L
 induction L with
 |nil=>intro u _ _ z _ _;rfl
 |cons p L ih=>
  intro u hl hR z hz hn
  have hok:=hR.ok p (by simp)
  have:=ih (swP u (exP p.1 p.2)) (by rw[swP_len,hl]) ⟨fun q hq=>hR.ok q (by simp[hq]),(List.pairwise_cons.1 hR.dj).2⟩ z hz (fun q hq=>hn q (by simp[hq]))
  show val (afl (swP u (exP p.1 p.2)) (exs L)) z=_
  rw[this,swP_val hl hok.1 hok.2.1 hz,if_neg (hn p (by simp)).1,if_neg (hn p (by simp)).2]
theorem afl_on{n:Nat}:∀(L:List (Int × Int)) (u:List Int),u.length=n->Rnd n L->∀p∈L,val (afl u (exs L)) p.1=val u p.2/\val (afl u (exs L)) p.2=val u p.1:=by
 intro L
 induction L with
 |nil=>intro u _ _ p hp;cases hp
 |cons q L ih=>
  intro u hl hR p hp
  have hok:=hR.ok q (by simp)
  have hd:=List.pairwise_cons.1 hR.dj
  have hR':Rnd n L:=⟨fun q hq=>hR.ok q (by simp[hq]),hd.2⟩
  have hl':(swP u (exP q.1 q.2)).length=n:=by rw[swP_len,hl]
  show val (afl (swP u (exP q.1 q.2)) (exs L)) p.1=_/\val (afl (swP u (exP q.1 q.2)) (exs L)) p.2=_
  rcases List.mem_cons.1 hp with rfl|hp
  ·have h1:=afl_off L _ hl' hR' p.1 hok.1.1 (fun x hx=>⟨(hd.1 x hx).1,(hd.1 x hx).2.1⟩)
   have h2:=afl_off L _ hl' hR' p.2 hok.2.1.1 (fun x hx=>⟨(hd.1 x hx).2.2.1,(hd.1 x hx).2.2.2⟩)
   rw[h1,h2,swP_val hl hok.1 hok.2.1 hok.1.1,swP_val hl hok.1 hok.2.1 hok.2.1.1,if_pos rfl,if_neg (Ne.symm hok.2.2),if_pos rfl]
   exact⟨rfl,rfl⟩
  ·have hpk:=hR.ok p (by simp[hp])
   have hdp:=hd.1 p hp
   obtain⟨h1,h2⟩:=ih _ hl' hR' p hp
   rw[h1,h2,swP_val hl hok.1 hok.2.1 hpk.1.1,swP_val hl hok.1 hok.2.1 hpk.2.1.1,if_neg (Ne.symm hdp.2.1),if_neg (Ne.symm hdp.2.2.2),if_neg (Ne.symm hdp.1),if_neg (Ne.symm hdp.2.2.1)]
   exact⟨rfl,rfl⟩
theorem afl_len{n:Nat}{u:List Int}(L:List (Int × Int))(hl:u.length=n):(afl u (exs L)).length=n:=by
 induction L generalizing u with
 |nil=>exact hl
 |cons p L ih=>exact ih (u:=swP u (exP p.1 p.2)) (by rw[swP_len,hl])
theorem mem_sn{l:List (List Int)}{x:Int}:∀ {k},x∈sn l k<->∃j,j<k/\x∈l.getD j []:=by
 intro k
 induction k with
 |zero=>simp[sn]
 |succ k ih=>
  simp only[sn,List.mem_append,ih]
  constructor
  ·rintro(⟨j,h1,h2⟩|h)
   ·exact⟨j,by omega,h2⟩
   ·exact⟨k,by omega,h⟩
  ·rintro⟨j,h1,h2⟩
   by_cases e:j=k
   ·subst e;exact .inr h2
   ·exact .inl ⟨j,by omega,h2⟩
theorem mem_exP{x a b:Int}:x∈exP a b<->x=a\/x=b:=by
 rcases exP_two a b with h|h<;>rw[h]<;>simp[or_comm]
theorem exP_get(a b:Int):((exP a b).getD 0 0=a\/(exP a b).getD 0 0=b)/\((exP a b).getD 1 0=a\/(exP a b).getD 1 0=b):=by
 rcases exP_two a b with h|h<;>rw[h]<;>simp
theorem rnd_ok{n:Nat}{L:List (Int × Int)}(h:Rnd n L):rndP (exs L) n (exs L).length:=by
 intro i hi
 have hi':i<L.length:=by simpa[exs]using hi
 have hg:∀j (hj:j<L.length),(exs L).getD j []=exP L[j].1 L[j].2:=fun j hj=>by simp[exs,List.getD_eq_getElem?_getD,hj]
 have hok:=h.ok _ (List.getElem_mem hi')
 have hno:∀x,(x=L[i].1\/x=L[i].2)->x∉sn (exs L) i:=fun x hx hm=>by
  obtain⟨j,h1,h2⟩:=mem_sn.1 hm
  rw[hg j (by omega)]at h2
  have hd:=List.pairwise_iff_getElem.1 h.dj j i (by omega) hi' h1
  rcases mem_exP.1 h2 with h2|h2<;>rcases hx with hx|hx<;>rw[hx]at h2
  ·exact hd.1 h2.symm
  ·exact hd.2.1 h2.symm
  ·exact hd.2.2.1 h2.symm
  ·exact hd.2.2.2 h2.symm
 rw[hg i hi']
 have he:=exP_get L[i].1 L[i].2
 exact⟨exP_pr hok.1 hok.2.1 hok.2.2,hno _ he.1,hno _ he.2⟩
def gsL(R:List (List Int))(at':Int):List (Int × Int):=R.flatMap fun r=>(posL r.length at').map fun p=>(r.getD p.1 0,r.getD p.2 0)
theorem gsL_exs(R:List (List Int))(at':Int):exs (gsL R at')=R.flatMap fun r=>mirL r at':=by
 simp only[exs,gsL,mirL,List.map_flatMap,List.map_map];rfl
theorem nd_getD{r:List Int}(h:r.Nodup){i j:Nat}(hi:i<r.length)(hj:j<r.length)(e:r.getD i 0=r.getD j 0):i=j:=by
 simp only[List.getD_eq_getElem?_getD,List.getElem?_eq_getElem hi,List.getElem?_eq_getElem hj,Option.getD_some]at e
 have hp:=List.pairwise_iff_getElem.1 h
 rcases Nat.lt_trichotomy i j with h1|h1|h1
 ·exact absurd e (hp i j hi hj h1)
 ·exact h1
 ·exact absurd e.symm (hp j i hj hi h1)
theorem pos_all{m:Nat}(h:m<=7){at':Int}(ha:at'=1\/at'=2):(∀p∈posL m at',p.2<p.1/\p.1<m)/\(posL m at').Pairwise fun p q=>disj p q=true:=by
 have:=posB_ok m h
 simp only[posB,Bool.and_eq_true,List.all_eq_true,decide_eq_true_eq]at this
 obtain⟨⟨⟨⟨h1,h2⟩,h3⟩,h4⟩,_⟩:=this
 rcases ha with rfl|rfl
 ·exact⟨h1,pwB_ok h3⟩
 ·exact⟨h2,pwB_ok h4⟩
theorem pos_turn{m:Nat}(h:m<=7){i:Nat}(hi:i<m):part m 2 i<m/\part m 1 (part m 2 i)<m/\(part m 1 (part m 2 i)+1)%m=i:=by
 have:=posB_ok m h
 simp only[posB,Bool.and_eq_true,List.all_eq_true,decide_eq_true_eq]at this
 exact this.2 i (List.mem_range.2 hi)
theorem gsL_rnd{n:Nat}{R:List (List Int)}(h7:n<=7)(hR:∀r∈R,∀x∈r,okG n x)(hl:∀r∈R,r.length<=7)(hnd:R.flatten.Nodup){at':Int}(ha:at'=1\/at'=2):Rnd n (gsL R at'):=by
 have hpf:=List.pairwise_flatten.1 hnd
 refine⟨fun p hp=>?_,List.pairwise_flatMap.2 ⟨fun r hr=>?_,hpf.2.imp fun {a b} hab x hx y hy=>?_⟩⟩
 ·obtain⟨r,hr,hp⟩:=List.mem_flatMap.1 hp
  obtain⟨q,hq,rfl⟩:=List.mem_map.1 hp
  have hb:=(pos_all (hl r hr) ha).1 q hq
  exact⟨hR r hr _ (getD_mem hb.2),hR r hr _ (getD_mem (by omega)),fun e=>by have:=nd_getD (hpf.1 r hr) hb.2 (by omega) e;omega⟩
 ·have hb:=pos_all (hl r hr) ha
  refine List.pairwise_map.2 (hb.2.imp_of_mem fun {p q} hp hq hd=>?_)
  have h1:=hb.1 p hp
  have h2:=hb.1 q hq
  simp only[disj,Bool.and_eq_true,bne_iff_ne,ne_eq]at hd
  have hn:=hpf.1 r hr
  exact⟨fun e=>hd.1.1.1 (nd_getD hn h1.2 h2.2 e),fun e=>hd.1.1.2 (nd_getD hn h1.2 (by omega) e),fun e=>hd.1.2 (nd_getD hn (by omega) h2.2 e),fun e=>hd.2 (nd_getD hn (by omega) (by omega) e)⟩
 ·obtain⟨p,hp,rfl⟩:=List.mem_map.1 hx
  obtain⟨q,hq,rfl⟩:=List.mem_map.1 hy
  have hin:∀(r:List Int) (p:Nat × Nat),p∈posL r.length at'->p.2<r.length/\p.1<r.length:=fun r p hp=>by
   unfold posL at hp
   obtain⟨i,hi,hp⟩:=List.mem_flatMap.1 hp
   obtain⟨k,hk,rfl⟩:=List.mem_map.1 hp
   have h1:=List.mem_range.1 hi
   have h2:=List.mem_range.1 (List.mem_filter.1 hk).1
   exact⟨by dsimp only;omega,h1⟩
  have p1:=hin a p hp
  have q1:=hin b q hq
  exact⟨hab _ (getD_mem p1.2) _ (getD_mem q1.2),hab _ (getD_mem p1.2) _ (getD_mem q1.1),hab _ (getD_mem p1.1) _ (getD_mem q1.2),hab _ (getD_mem p1.1) _ (getD_mem q1.1)⟩
theorem gsL_val{n:Nat}{R:List (List Int)}(h7:n<=7)(hR:∀r∈R,∀x∈r,okG n x)(hl:∀r∈R,r.length<=7)(hnd:R.flatten.Nodup){at':Int}(ha:at'=1\/at'=2){u:List Int}(hu:u.length=n){r:List Int}(hr:r∈R){i:Nat}(hi:i<r.length) :
  val (afl u (exs (gsL R at'))) (r.getD i 0)=val u (r.getD (part r.length at' i) 0):=by
 have hrn:=gsL_rnd h7 hR hl hnd ha
 have hpf:=List.pairwise_flatten.1 hnd
 have hok:=hR r hr _ (getD_mem (d:=0) hi)
 have hb:=pos_all (hl r hr) ha
 unfold part
 split
 ·rename_i p hp
  have hm:=List.mem_of_find?_eq_some hp
  have hc:=List.find?_some hp
  simp only[Bool.or_eq_true,beq_iff_eq]at hc
  have hmem:(r.getD p.1 0,r.getD p.2 0)∈gsL R at':=List.mem_flatMap.2 ⟨r,hr,List.mem_map.2 ⟨p,hm,rfl⟩⟩
  obtain⟨h1,h2⟩:=afl_on _ u hu hrn _ hmem
  by_cases e:p.1=i
  ·rw[if_pos e];rw[e]at h1;exact h1
  ·rw[if_neg e]
   have e2:=hc.resolve_left e
   rw[e2]at h2;exact h2
 ·rename_i hp
  refine afl_off _ u hu hrn _ hok.1 fun q hq=>?_
  obtain⟨r',hr',hq⟩:=List.mem_flatMap.1 hq
  obtain⟨p,hp',rfl⟩:=List.mem_map.1 hq
  have hb':=(pos_all (hl r' hr') ha).1 p hp'
  by_cases e:r'=r
  ·subst e
   have hnone:=List.find?_eq_none.1 hp p hp'
   simp only[Bool.or_eq_true,beq_iff_eq,not_or]at hnone
   exact⟨fun e=>hnone.1 (nd_getD (hpf.1 r' hr) hi hb'.2 e).symm,fun e=>hnone.2 (nd_getD (hpf.1 r' hr) hi (by omega) e).symm⟩
  ·have hno:∀x∈r,∀y∈r',x≠y:=fun x hx y hy exy=>by
    subst exy
    obtain⟨i1,hi1,e1⟩:=List.getElem_of_mem hr
    obtain⟨j1,hj1,e2⟩:=List.getElem_of_mem hr'
    rcases Nat.lt_trichotomy i1 j1 with h|h|h
    ·exact List.pairwise_iff_getElem.1 hpf.2 i1 j1 hi1 hj1 h x (by rw[e1];exact hx) x (by rw[e2];exact hy) rfl
    ·subst h;exact e (by rw[<- e1,<- e2])
    ·exact List.pairwise_iff_getElem.1 hpf.2 j1 i1 hj1 hi1 h x (by rw[e2];exact hy) x (by rw[e1];exact hx) rfl
   exact⟨hno _ (getD_mem hi) _ (getD_mem hb'.2),hno _ (getD_mem hi) _ (getD_mem (by omega))⟩
theorem nd_len7{n:Nat}{r:List Int}(h7:n<=7)(hr:∀x∈r,okG n x)(hn:r.Nodup):r.length<=7:=by
 have:=nd_sub_len (b:=[0,1,2,3,4,5,6]) hn (by decide) fun x hx=>by
  have:=hr x hx
  unfold okG at this
  simp only[List.mem_cons,List.not_mem_nil,or_false];omega
 simpa using this
theorem rounds_ok{t:List Int}{R:List (List Int)}(h7:t.length<=7)(h:RingsOk t R) :
  rndP (R.flatMap fun r=>mirL r 1) t.length (R.flatMap fun r=>mirL r 1).length/\rndP (R.flatMap fun r=>mirL r 2) t.length (R.flatMap fun r=>mirL r 2).length /\
  rightP (aft (aft t (R.flatMap fun r=>mirL r 1) (R.flatMap fun r=>mirL r 1).length) (R.flatMap fun r=>mirL r 2) (R.flatMap fun r=>mirL r 2).length) t.length:=by
 have hpf:=List.pairwise_flatten.1 h.nd
 have hR:∀r∈R,∀x∈r,okG t.length x:=fun r hr=>(h.rg r hr).2
 have hl:∀r∈R,r.length<=7:=fun r hr=>nd_len7 h7 (hR r hr) (hpf.1 r hr)
 rw[<- gsL_exs,<- gsL_exs]
 refine⟨rnd_ok (gsL_rnd h7 hR hl h.nd (.inl rfl)),rnd_ok (gsL_rnd h7 hR hl h.nd (.inr rfl)),?_⟩
 rw[aft_all,aft_all]
 have l1:=afl_len (u:=t) (gsL R 1) rfl
 have l2:=afl_len (gsL R 2) l1
 have key:rightP (afl (afl t (exs (gsL R 1))) (exs (gsL R 2))) (afl (afl t (exs (gsL R 1))) (exs (gsL R 2))).length:=val_right fun x hx=>by
  rw[l2]at hx
  obtain⟨r,hr,hxr⟩:=List.mem_flatten.1 (h.cov x hx)
  obtain⟨i,hi,rfl⟩:=List.getElem_of_mem hxr
  have e:r[i]=r.getD i 0:=by simp[List.getD_eq_getElem?_getD,hi]
  obtain⟨q1,q2,q3⟩:=pos_turn (hl r hr) hi
  rw[e,gsL_val h7 hR hl h.nd (.inr rfl) l1 hr hi,gsL_val h7 hR hl h.nd (.inl rfl) rfl hr q1,(h.rg r hr).1.2 _ q2,q3]
 rw[l2]at key;exact key
theorem p65(t:List Int)(hl:t.length<=1000000):FnA Try.prog 65 [.isl (t.map jAV)] (· = .bool (isTk t)):=by
 have hL:(t.map jAV).length=t.length:=by simp
 unfold isTk
 refine fnA 0 ok65 (by simp) ?_
 by_cases h7:t.length<=7
 ·rw[decide_eq_true h7,Bool.and_true]
  (conv=>whnf);(repeat'((first|apply bT|apply bF|apply bN|((first|apply bD|apply bEq|apply bNe)<;>intro hh<;>try(exfalso;omega))|refine wJ ?_|refine nJ ?_)<;>conv=>whnf))
  refine loop_i (α :=Nat) (fun k=>[(9, .int .i64 k),(8, .int .i64 ↑(t.map jAV).length),(0, .isl (t.map jAV))]) (fun k=>[]) (fun k=>k<=t.length/\∀u,u<k->(u:Int)∈t) (fun k=>t.length-k) 0 mI ⟨by omega,fun u hu=>by omega⟩ ?_
  rintro k ⟨h1,h2⟩
  conv=>whnf
  refine bD (fun h3=>?_) (fun h3=>?_)
  ·have e1:=p82 t (k:Int) hl
   by_cases hm:(k:Int)∈t
   ·rw[decide_eq_true hm]at e1
    (conv=>whnf);(repeat'((first|apply bT|apply bF|apply bN|((first|apply bD|apply bEq|apply bNe)<;>intro hh<;>try(exfalso;omega))|refine e1.cq rfl rfl ?_|refine wJ ?_|refine nJ ?_)<;>conv=>whnf))
    exact⟨k+1,mI,⟨by omega,fun u hu=>by
     by_cases e:u=k
     ·subst e;exact hm
     ·exact h2 u (by omega)⟩,by omega⟩
   ·rw[decide_eq_false hm]at e1
    rw[decide_eq_false fun h:tkP t t.length=>hm (by
     obtain⟨i,hi,e⟩:=tk_has (tk_of h) k (by omega)
     have h0:=(h i hi).1.1
     have:t.getD i 0=(k:Int):=by simp only[fnL]at e;omega
     rw[<- this];exact getD_mem hi)]
    (conv=>whnf);(repeat'((first|apply bT|apply bF|apply bN|((first|apply bD|apply bEq|apply bNe)<;>intro hh<;>try(exfalso;omega))|refine e1.cq rfl rfl ?_|refine wJ ?_|refine nJ ?_)<;>conv=>whnf))
    all_goals rfl
  ·have:k=t.length:=by omega
   subst this
   rw[decide_eq_true (nodup_tkP.2 (by
    have:=all_in t.length t (Nat.le_refl _) h2
    exact⟨this.2.1,this.1⟩))]
   (conv=>whnf);(repeat'((first|apply bT|apply bF|apply bN|((first|apply bD|apply bEq|apply bNe)<;>intro hh<;>try(exfalso;omega))|refine wJ ?_|refine nJ ?_)<;>conv=>whnf))
   all_goals rfl
 ·rw[decide_eq_false h7,Bool.and_false]
  (conv=>whnf);(repeat'((first|apply bT|apply bF|apply bN|((first|apply bD|apply bEq|apply bNe)<;>intro hh<;>try(exfalso;omega))|refine wJ ?_|refine nJ ?_)<;>conv=>whnf))
  all_goals rfl
theorem p92(a b:Int):FnA Try.prog 92 [.int .i64 a, .int .i64 b] (· = .isl ((exP a b).map jAV)):=by
 refine fnA 1 ok92 (by simp) ?_
 (conv=>whnf);(repeat'((first|apply bT|apply bF|apply bN|((first|apply bD|apply bEq|apply bNe)<;>intro hh<;>try(exfalso;omega))|refine wJ ?_|refine nJ ?_)<;>conv=>whnf))
 all_goals rfl
theorem p77(r:List Int)(h0:0<r.length)(hl:r.length<=1000000):FnA Try.prog 77 [.isl (r.map jAV)] (· = .isl ((exL r).map fAV)):=by
 obtain⟨g,rest,rfl⟩:∃g rest,r=g::rest:=by
  cases r with
  |nil=>simp at h0
  |cons g rest=>exact⟨g,rest,rfl⟩
 have hl':rest.length<=1000000:=by simp at hl;omega
 have hL:(rest.map jAV).length=rest.length:=by simp
 have hG:((g::rest).map jAV).length=rest.length+1:=by simp
 have hone:∀e∈(g::rest).map jAV,e.length=1:=fun e he=>(j_one _ e he).1
 have hsl:(((g::rest).map jAV).take ((((g::rest).map jAV).length:Nat):Int).toNat).drop (1:Int).toNat=rest.map jAV:=by rw[Int.toNat_natCast,List.take_length];rfl
 have g0:=getJ (g::rest) 0 (by simp)
 have e0:exL (g::rest)=rest.map (exP g):=rfl
 rw[e0]
 generalize (g::rest).map jAV=G at hG hone hsl g0
 simp only[List.getD_cons_zero]at g0
 refine fnA 3 ok77 (by simp) ?_
 (conv=>whnf);(repeat'((first|apply bT|apply bF|apply bN|((first|apply bD|apply bEq|apply bNe)<;>intro hh<;>try(exfalso;omega))|refine slI (by omega) (by omega) (by omega) hone hsl ?_|refine wJ ?_|refine nJ ?_)<;>conv=>whnf))
 refine loop_i (α :=Nat) (fun j=>[(9, .int .i64 j),(8, .int .i64 ↑(rest.map jAV).length),(7, .isl (rest.map jAV)),(3, .row 3),(0, .isl G)]) (fun j=>[.fresh, .fresh, .fresh, .row false 25 1 (((rest.take j).map (exP g)).map fAV)]) (fun j=>j<=rest.length) (fun j=>rest.length-j) 0 (mA [(3,none)]) (by omega) ?_
 rintro j h1
 conv=>whnf
 refine bD (fun h3=>?_) (fun h3=>?_)
 ·have hj:j<rest.length:=by omega
  have g1:=getM jAV rest j hj
  have e1:=p92 g rest[j]
  have hA:(((rest.take j).map (exP g)).map fAV).length<=1000000:=by simp;omega
  have e2:((rest.take (j+1)).map (exP g)).map fAV=((rest.take j).map (exP g)).map fAV++[[.isl ((exP g rest[j]).map jAV)]]:=by
   rw[List.take_succ_eq_append_getElem hj,List.map_append,List.map_append];rfl
  (conv=>whnf);(repeat'((first|apply bT|apply bF|apply bN|((first|apply bD|apply bEq|apply bNe)<;>intro hh<;>try(exfalso;omega))|refine iaJ g1 ?_|refine iaJ g0 ?_|refine e1.zq rfl rfl ?_|(refine apJ ?_)|refine wJ ?_|refine nJ ?_)<;>conv=>whnf))
  refine⟨j+1,?_,by omega,by omega⟩
  rw[e2]
  exact(mA [(3,some 2)])
 ·have:j=rest.length:=by omega
  subst this
  rw[List.take_length]
  (conv=>whnf);(repeat'((first|apply bT|apply bF|apply bN|((first|apply bD|apply bEq|apply bNe)<;>intro hh<;>try(exfalso;omega))|refine wJ ?_|refine nJ ?_)<;>conv=>whnf))
  all_goals rfl
def rowL(m:Nat)(at':Int)(i k:Nat):List (Nat × Nat):=((List.range k).filter fun(k:Nat)=>decide (((i:Int)+(k:Int)-at').tmod (m:Int)=0)).map fun k=>(i,k)
def preL(m:Nat)(at':Int)(i:Nat):List (Nat × Nat):=(List.range i).flatMap fun i=>rowL m at' i i
theorem rowL_len(m:Nat)(at':Int)(i k:Nat):(rowL m at' i k).length<=k:=by
 unfold rowL
 rw[List.length_map]
 exact Nat.le_trans (List.length_filter_le _ _) (by simp)
theorem preL_len(m:Nat)(at':Int)(i:Nat):(preL m at' i).length<=i*i:=by
 unfold preL
 induction i with
 |zero=>simp
 |succ i ih=>
  rw[List.range_succ,List.flatMap_append,List.length_append]
  have:=rowL_len m at' i i
  simp only[List.flatMap_cons,List.flatMap_nil,List.append_nil]
  have e:(i+1)*(i+1)=i*i+(2*i+1):=by rw[Nat.add_mul,Nat.mul_add];omega
  omega
theorem p67(r:List Int)(at':Int)(hl:r.length<=100)(ha:0<=at'/\at'<=100):FnA Try.prog 67 [.isl (r.map jAV), .int .i64 at'] (· = .isl ((mirL r at').map fAV)):=by
 have hL:(r.map jAV).length=r.length:=by simp
 have hone:∀e∈r.map jAV,e.length=1:=fun e he=>(j_one _ e he).1
 refine fnA 3 ok67 (by simp) ?_
 (conv=>whnf);(repeat'((first|apply bT|apply bF|apply bN|((first|apply bD|apply bEq|apply bNe)<;>intro hh<;>try(exfalso;omega))|refine wJ ?_|refine nJ ?_)<;>conv=>whnf))
 refine loop_i (α :=Nat) (fun i=>[(12, .int .i64 i),(11, .int .i64 ↑(r.map jAV).length),(10, .isl (r.map jAV)),(5, .row 3),(1, .int .i64 at'),(0, .isl (r.map jAV))]) (fun i=>[.fresh, .fresh, .fresh, .row false 25 1 (((preL r.length at' i).map (prR r)).map fAV)]) (fun i=>i<=r.length) (fun i=>r.length-i) 0 (mA [(3,none)]) (by omega) ?_
 rintro i h1
 conv=>whnf
 refine bD (fun h3=>?_) (fun h3=>?_)
 ·have hi:i<r.length:=by omega
  have g1:=getJ r i hi
  have hsl:((r.map jAV).take ((i:Int)).toNat).drop (0:Int).toNat=(r.take i).map jAV:=by simp[List.map_take]
  have hT:((r.take i).map jAV).length=i:=by simp;omega
  have hP:=preL_len r.length at' i
  have hP2:i*i<=100*100:=Nat.mul_le_mul (by omega) (by omega)
  have eP:preL r.length at' (i+1)=preL r.length at' i++rowL r.length at' i i:=by
   unfold preL;rw[List.range_succ,List.flatMap_append];simp
  generalize preL r.length at' i=A at hP eP
  (conv=>whnf);(repeat'((first|apply bT|apply bF|apply bN|((first|apply bD|apply bEq|apply bNe)<;>intro hh<;>try(exfalso;omega))|refine iaJ g1 ?_|refine slI (by omega) (by omega) (by omega) hone hsl ?_|refine wJ ?_|refine nJ ?_)<;>conv=>whnf))
  refine loop_i (α :=Nat) (fun k=>[(21, .int .i64 k),(20, .int .i64 ↑((r.take i).map jAV).length),(19, .isl ((r.take i).map jAV)),(12, .int .i64 i),(11, .int .i64 ↑(r.map jAV).length),(10, .isl (r.map jAV)),(7, .int .i64 (r.getD i 0)),(6, .int .i64 i),(5, .row 3),(1, .int .i64 at'),(0, .isl (r.map jAV))]) (fun k=>[.fresh, .fresh, .fresh, .row false 25 1 (((A++rowL r.length at' i k).map (prR r)).map fAV)]) (fun k=>k<=i) (fun k=>i-k) 0 (by rw[show rowL r.length at' i 0=[] from rfl,List.append_nil];exact mI) (by omega) ?_
  rintro k h4
  conv=>whnf
  refine bD (fun h5=>?_) (fun h5=>?_)
  ·have hk:k<i:=by omega
   have g2:=getJ (r.take i) k (by simp;omega)
   have g3:(r.take i).getD k 0=r.getD k 0:=by simp[List.getD_eq_getElem?_getD,List.getElem?_take,hk]
   rw[g3]at g2
   have e1:=p92 (r.getD i 0) (r.getD k 0)
   have hB:=rowL_len r.length at' i k
   have hB1:(((A++rowL r.length at' i k).map (prR r)).map fAV).length<=20000:=by simp only[List.length_map,List.length_append];omega
   by_cases hc:((i:Int)+(k:Int)-at').tmod ((r.map jAV).length:Int)=0
   ·have e2:((A++rowL r.length at' i (k+1)).map (prR r)).map fAV=((A++rowL r.length at' i k).map (prR r)).map fAV++[[.isl ((exP (r.getD i 0) (r.getD k 0)).map jAV)]]:=by
     have:rowL r.length at' i (k+1)=rowL r.length at' i k++[(i,k)]:=by
      unfold rowL;rw[List.range_succ,List.filter_append,List.map_append]
      rw[hL]at hc
      simp[hc]
     rw[this,<- List.append_assoc,List.map_append,List.map_append];rfl
    (conv=>whnf);(repeat'((first|apply bT|apply bF|apply bN|((first|apply bD|apply bEq|apply bNe)<;>intro hh<;>try(exfalso;omega))|refine iaJ g2 ?_|refine e1.zq rfl rfl ?_|(refine apJ ?_)|refine wJ ?_|refine nJ ?_)<;>conv=>whnf))
    all_goals first
     |(exact absurd hc (by assumption))
     |skip
    refine⟨k+1,?_,by omega,by omega⟩
    rw[e2]
    exact(mA [(3,some 2)])
   ·have e2:rowL r.length at' i (k+1)=rowL r.length at' i k:=by
     unfold rowL;rw[List.range_succ,List.filter_append,List.map_append]
     rw[hL]at hc
     simp[hc]
    (conv=>whnf);(repeat'((first|apply bT|apply bF|apply bN|((first|apply bD|apply bEq|apply bNe)<;>intro hh<;>try(exfalso;omega))|refine iaJ g2 ?_|refine e1.zq rfl rfl ?_|refine wJ ?_|refine nJ ?_)<;>conv=>whnf))
    all_goals first
     |(exact absurd (by assumption) hc)
     |skip
    exact⟨k+1,by rw[e2];exact mI,by omega,by omega⟩
  ·have:k=i:=by omega
   subst this
   (conv=>whnf);(repeat'((first|apply bT|apply bF|apply bN|((first|apply bD|apply bEq|apply bNe)<;>intro hh<;>try(exfalso;omega))|refine wJ ?_|refine nJ ?_)<;>conv=>whnf))
   exact⟨k+1,by rw[eP];exact mI,by omega,by omega⟩
 ·have:i=r.length:=by omega
  subst this
  (conv=>whnf);(repeat'((first|apply bT|apply bF|apply bN|((first|apply bD|apply bEq|apply bNe)<;>intro hh<;>try(exfalso;omega))|refine wJ ?_|refine nJ ?_)<;>conv=>whnf))
  all_goals rfl
def bAV(b:Bool):List AV:=[.bool b]
theorem getB(l:List Bool)(i:Nat)(h:i<l.length):(l.map bAV).getD i []=[.bool (l.getD i false)]:=by
 rw[getM bAV l i h];simp[List.getD_eq_getElem?_getD,h,bAV]
theorem setB(t:List Bool)(k i:Nat)(hk:k<t.length):(t.set k true).getD i false=(t.getD i false||decide (i=k)):=by
 simp only[List.getD_eq_getElem?_getD,List.getElem?_set]
 by_cases h:k=i
 ·subst h;simp[hk]
 ·rw[if_neg h]
  have:¬i=k:=fun e=>h e.symm
  simp[this]
structure RgI(t:List Int)(k:Nat)(R:List (List Int))(sn:List Bool):Prop where
 len:sn.length=t.length
 rg:∀r∈R,isRing t r/\∀x∈r,okG t.length x
 nd:R.flatten.Nodup
 seen:∀x,okG t.length x->(sn.getD x.toNat false=true<->x∈R.flatten)
 cov:∀x:Nat,x<k->(x:Int)∈R.flatten
 few:R.length<=k
structure PaI(t:List Int)(k:Nat)(R:List (List Int))(r:List Int)(g:Int)(sn:List Bool):Prop where
 len:sn.length=t.length
 ok:∀x∈r,okG t.length x/\x∉R.flatten
 nd:r.Nodup
 seen:∀x,okG t.length x->(sn.getD x.toNat false=true<->x∈R.flatten\/x∈r)
 gk:okG t.length g
 path:∀i,i+1<r.length->val t (r.getD i 0)=r.getD (i+1) 0
 ends:(r=[]/\g=(k:Int))\/(0<r.length/\r.getD 0 0=(k:Int)/\g=val t (r.getD (r.length-1) 0))
theorem val_ok{t:List Int}(ht:tk t){x:Int}(hx:okG t.length x):okG t.length (val t x):=by
 unfold okG val at *
 exact tk_lt ht x.toNat (by omega)
theorem val_inj{t:List Int}(ht:tk t){x y:Int}(hx:okG t.length x)(hy:okG t.length y)(e:val t x=val t y):x=y:=by
 unfold okG val at *
 have:=ht.2.2 x.toNat (by omega) y.toNat (by omega) (by simp only[fnL,e])
 omega
theorem nd_lenN{n:Nat}{r:List Int}(hr:∀x∈r,okG n x)(hn:r.Nodup):r.length<=n:=by
 have h2:((List.range n).map fun(i:Nat)=>(i:Int)).Nodup:=by
  refine List.pairwise_map.2 (List.nodup_range.imp fun {a b} h e=>h (by omega))
 have:=nd_sub_len (b:=(List.range n).map fun(i:Nat)=>(i:Int)) hn h2 fun x hx=>by
  have:=hr x hx
  unfold okG at this
  exact List.mem_map.2 ⟨x.toNat,List.mem_range.2 (by omega),by omega⟩
 simpa using this
theorem PaI.start{t:List Int}{k:Nat}{R:List (List Int)}{sn:List Bool}(h:RgI t k R sn)(hk:k<t.length):PaI t k R [] (k:Int) sn:=
 ⟨h.len,by simp,by simp,fun x hx=>by rw[h.seen x hx];simp,⟨by omega,by omega⟩,fun i hi=>by simp at hi, .inl ⟨rfl,rfl⟩⟩
theorem PaI.step{t:List Int}{k:Nat}{R:List (List Int)}{r:List Int}{g:Int}{sn:List Bool}(ht:tk t)(h:PaI t k R r g sn)(hg:sn.getD g.toNat false=false):PaI t k R (r++[g]) (val t g) (sn.set g.toNat true):=by
 have hgk:=h.gk
 have hns:g∉R.flatten/\g∉r:=by
  refine⟨fun hm=>?_,fun hm=>?_⟩
  ·rw[(h.seen g hgk).2 (.inl hm)]at hg;cases hg
  ·rw[(h.seen g hgk).2 (.inr hm)]at hg;cases hg
 have hlt:g.toNat<sn.length:=by rw[h.len];unfold okG at hgk;omega
 have hA:∀i,i<r.length->(r++[g]).getD i 0=r.getD i 0:=fun i hi=>by
  simp only[List.getD_eq_getElem?_getD,List.getElem?_append_left hi]
 have hB:(r++[g]).getD r.length 0=g:=by simp[List.getD_eq_getElem?_getD]
 refine⟨by simp[h.len],fun x hx=>?_,List.nodup_append.2 ⟨h.nd,by simp,fun a ha b hb e=>?_⟩,fun x hx=>?_,val_ok ht hgk,fun i hi=>?_, .inr ⟨by simp,?_,?_⟩⟩
 ·rcases List.mem_append.1 hx with hx|hx
  ·exact h.ok x hx
  ·simp only[List.mem_singleton]at hx;subst hx;exact⟨hgk,hns.1⟩
 ·simp only[List.mem_singleton]at hb;subst hb;subst e;exact hns.2 ha
 ·rw[setB _ _ _ hlt,Bool.or_eq_true,h.seen x hx,decide_eq_true_eq,List.mem_append,List.mem_singleton,or_assoc]
  unfold okG at hx hgk
  constructor
  ·rintro(h1|h1|h1)
   ·exact .inl h1
   ·exact .inr (.inl h1)
   ·exact .inr (.inr (by omega))
  ·rintro(h1|h1|h1)
   ·exact .inl h1
   ·exact .inr (.inl h1)
   ·exact .inr (.inr (by omega))
 ·simp only[List.length_append,List.length_cons,List.length_nil]at hi
  by_cases e:i+1=r.length
  ·rw[hA i (by omega),e,hB]
   rcases h.ends with⟨h1,_⟩|⟨_,_,h3⟩
   ·subst h1;simp at e
   ·rw[h3,show r.length-1=i by omega]
  ·rw[hA i (by omega),hA (i+1) (by omega)];exact h.path i (by omega)
 ·rcases h.ends with⟨h1,h2⟩|⟨h1,h2,_⟩
  ·subst h1;simpa using h2
  ·rw[hA 0 h1];exact h2
 ·simp only[List.length_append,List.length_cons,List.length_nil,Nat.add_sub_cancel]
  rw[hB]
theorem PaI.len_lt{t:List Int}{k:Nat}{R:List (List Int)}{r:List Int}{g:Int}{sn:List Bool}(h:PaI t k R r g sn)(hg:sn.getD g.toNat false=false):r.length<t.length:=by
 have:=nd_lenN (n:=t.length) (r:=r++[g]) (fun x hx=>by
  rcases List.mem_append.1 hx with hx|hx
  ·exact(h.ok x hx).1
  ·simp only[List.mem_singleton]at hx;subst hx;exact h.gk) (List.nodup_append.2 ⟨h.nd,by simp,fun a ha b hb e=>by
   simp only[List.mem_singleton]at hb;subst hb;subst e
   rw[(h.seen _ h.gk).2 (.inr ha)]at hg;cases hg⟩)
 simp at this;omega
theorem PaI.close{t:List Int}{k:Nat}{R:List (List Int)}{r:List Int}{g:Int}{sn:List Bool}(ht:tk t)(hR:∀r∈R,isRing t r/\∀x∈r,okG t.length x)(h:PaI t k R r g sn)(h0:0<r.length)(hg:sn.getD g.toNat false=true):isRing t r:=by
 have he:=h.ends.resolve_left fun e=>by rw[e.1]at h0;simp at h0
 have hlast:r.getD (r.length-1) 0∈r:=getD_mem (by omega)
 have hlk:=h.ok _ hlast
 have hg0:g=r.getD 0 0:=by
  rcases(h.seen g h.gk).1 hg with hm|hm
  ·exfalso
   obtain⟨r',hr',hm⟩:=List.mem_flatten.1 hm
   obtain⟨j,hj,e⟩:=List.getElem_of_mem hm
   have hrr:=hR r' hr'
   have hj':r'.getD j 0=g:=by simp[List.getD_eq_getElem?_getD,hj,e]
   have hp:(if j=0 then r'.length-1 else j-1)<r'.length:=by split<;>omega
   have hv:=hrr.1.2 _ hp
   have hmod:((if j=0 then r'.length-1 else j-1)+1)%r'.length=j:=by
    split
    ·rename_i e0;rw[show r'.length-1+1=r'.length by omega,Nat.mod_self];exact e0.symm
    ·rw[show j-1+1=j by omega,Nat.mod_eq_of_lt hj]
   rw[hmod,hj',he.2.2]at hv
   have:=val_inj ht (hrr.2 _ (getD_mem hp)) hlk.1 hv
   exact hlk.2 (List.mem_flatten.2 ⟨r',hr',by rw[<- this];exact getD_mem hp⟩)
  ·obtain⟨j,hj,e⟩:=List.getElem_of_mem hm
   have hj':r.getD j 0=g:=by simp[List.getD_eq_getElem?_getD,hj,e]
   by_cases j0:j=0
   ·subst j0;exact hj'.symm
   ·exfalso
    have hv:=h.path (j-1) (by omega)
    rw[show j-1+1=j by omega,hj',he.2.2]at hv
    have:=val_inj ht (h.ok _ (getD_mem (by omega))).1 hlk.1 hv
    have:=nd_getD h.nd (by omega) (by omega) this
    omega
 refine⟨h0,fun i hi=>?_⟩
 by_cases e:i+1<r.length
 ·rw[Nat.mod_eq_of_lt e];exact h.path i e
 ·rw[show i+1=r.length by omega,Nat.mod_self,<- hg0,he.2.2,show i=r.length-1 by omega]
theorem RgI.same{t:List Int}{k:Nat}{R:List (List Int)}{sn sn':List Bool}{g:Int}(h:RgI t k R sn)(hp:PaI t k R [] g sn')(hg:sn'.getD g.toNat false=true):RgI t (k+1) R sn':=by
 have hk:g=(k:Int):=by
  rcases hp.ends with⟨_,e⟩|⟨e,_⟩
  ·exact e
  ·simp at e
 have hm:(k:Int)∈R.flatten:=by
  have:=(hp.seen g hp.gk).1 hg
  rw[hk]at this;simpa using this
 refine⟨hp.len,h.rg,h.nd,fun x hx=>by rw[hp.seen x hx];simp,fun x hx=>?_,by have:=h.few;omega⟩
 by_cases e:x=k
 ·subst e;exact hm
 ·exact h.cov x (by omega)
theorem RgI.add{t:List Int}{k:Nat}{R:List (List Int)}{r:List Int}{sn sn':List Bool}{g:Int}(ht:tk t)(h:RgI t k R sn)(hp:PaI t k R r g sn')(h0:0<r.length)(hg:sn'.getD g.toNat false=true):RgI t (k+1) (R++[r]) sn':=by
 have hr:=hp.close ht h.rg h0 hg
 have he:=hp.ends.resolve_left fun e=>by rw[e.1]at h0;simp at h0
 have hf:(R++[r]).flatten=R.flatten++r:=by simp
 refine⟨hp.len,fun r' hr'=>?_,?_,fun x hx=>by rw[hp.seen x hx,hf,List.mem_append],fun x hx=>?_,by have:=h.few;simp;omega⟩
 ·rcases List.mem_append.1 hr' with hr'|hr'
  ·exact h.rg r' hr'
  ·simp only[List.mem_singleton]at hr';subst hr';exact⟨hr,fun x hx=>(hp.ok x hx).1⟩
 ·rw[hf];exact List.nodup_append.2 ⟨h.nd,hp.nd,fun a ha b hb e=>by subst e;exact(hp.ok a hb).2 ha⟩
 ·rw[hf,List.mem_append]
  by_cases e:x=k
  ·subst e;exact .inr (by rw[<- he.2.1];exact getD_mem h0)
  ·exact .inl (h.cov x (by omega))
theorem RgI.done{t:List Int}{R:List (List Int)}{sn:List Bool}(h:RgI t t.length R sn):RingsOk t R:=
 ⟨h.rg,h.nd,fun x hx=>by unfold okG at hx;have:=h.cov x.toNat (by omega);rwa [Int.toNat_of_nonneg hx.1]at this⟩
set_option maxHeartbeats 4000000 in
theorem p66(t:List Int)(ht:tk t)(hl:t.length<=1000):FnA Try.prog 66 [.isl (t.map jAV)] (fun r=>∃R,r = .isl (R.map fAV)/\RingsOk t R/\R.length<=t.length):=by
 have hL:(t.map jAV).length=t.length:=by simp
 have hn:((List.replicate t.length false).map bAV)=List.replicate ((((t.map jAV).length:Nat):Int)).toNat [.bool false]:=by rw[List.map_replicate,hL];rfl
 refine fnA 5 ok66 (by simp) ?_
 (conv=>whnf);(repeat'((first|apply bT|apply bF|apply bN|((first|apply bD|apply bEq|apply bNe)<;>intro hh<;>try(exfalso;omega))|refine mkI (by omega) (by omega) (by omega) ?_|refine wJ ?_|refine nJ ?_)<;>conv=>whnf))
 refine loop_i (α :=Nat × List (List Int) × List Bool) (fun x=>[(13, .int .i64 x.1),(12, .int .i64 ↑(t.map jAV).length),(4, .row 0),(3, .row 5),(0, .isl (t.map jAV))]) (fun x=>[.row false 4 1 (x.2.2.map bAV), .fresh, .fresh, .fresh, .fresh, .row false 81 1 (x.2.1.map fAV)]) (fun x=>x.1<=t.length/\RgI t x.1 x.2.1 x.2.2) (fun x=>t.length-x.1) (0,[],List.replicate t.length false) (by rw[hn];exact(mA [(5,none)])) ⟨by simp,⟨by simp,by simp,by simp,fun x hx=>by simp[List.getD_eq_getElem?_getD,List.getElem?_replicate];split<;>simp,fun x hx=>by omega,by simp⟩⟩ ?_
 rintro⟨k,R,sn⟩ ⟨h1,hI⟩
 dsimp only at h1 hI
 have hfew:=hI.few
 conv=>whnf
 refine bD (fun h3=>?_) (fun h3=>?_)
 ·have hk:k<t.length:=by dsimp only at h3;omega
  (conv=>whnf);(repeat'((first|apply bT|apply bF|apply bN|((first|apply bD|apply bEq|apply bNe)<;>intro hh<;>try(exfalso;omega))|refine wJ ?_|refine nJ ?_)<;>conv=>whnf))
  refine loop_i (α :=List Int × Int × List Bool) (fun y=>[(7, .int .i64 y.2.1),(6, .row 6),(4, .row 0),(3, .row 5),(13, .int .i64 k),(12, .int .i64 ↑(t.map jAV).length),(0, .isl (t.map jAV))]) (fun y=>[.row false 4 1 (y.2.2.map bAV), .fresh, .fresh, .fresh, .fresh, .row false 81 1 (R.map fAV), .row false 3 1 (y.1.map jAV)]) (fun y=>PaI t k R y.1 y.2.1 y.2.2) (fun y=>t.length-y.1.length) ([],(k:Int),sn) (mA [(6,none)]) (PaI.start hI hk) ?_
  rintro⟨r,g,sn'⟩ hP
  dsimp only at hP⊢
  have hgk:0<=g/\g<(t.length:Int):=hP.gk
  have hS:(sn'.map bAV).length=t.length:=by simp[hP.len]
  have g1:=getB sn' g.toNat (by rw[hP.len];omega)
  have hrl:=nd_lenN (fun x hx=>(hP.ok x hx).1) hP.nd
  cases hb:sn'.getD g.toNat false with
  |false=>
   rw[hb]at g1
   have hst:=hP.step ht hb
   have hlt:=hP.len_lt hb
   have g2:=getJ t g.toNat (by omega)
   have hr1:(r.map jAV).length=r.length:=by simp
   have g4:((sn'.map bAV).set g.toNat [.bool true]).length=t.length:=by simp[hP.len]
   (conv=>whnf);(repeat'((first|apply bT|apply bF|apply bN|((first|apply bD|apply bEq|apply bNe)<;>intro hh<;>try(exfalso;omega))|refine iaJ g1 ?_|refine iaJ g2 ?_|(refine apI (by simp[AV.one]) (by simp only[List.length_cons,List.length_nil,hr1];omega) ?_)|refine wJ ?_|refine nJ ?_)<;>conv=>whnf))
   refine⟨(r++[g],val t g,sn'.set g.toNat true),?_,hst,by simp only[List.length_append,List.length_cons,List.length_nil];omega⟩
   have e1:(sn'.set g.toNat true).map bAV=(sn'.map bAV).set g.toNat [.bool true]:=by rw[List.map_set];rfl
   have e2:(r++[g]).map jAV=r.map jAV++[[.int .i64 g]]:=by rw[List.map_append];rfl
   dsimp only
   rw[e1,e2]
   exact(mA [(6,some 2)])
  |true=>
   rw[hb]at g1
   cases r with
   |nil=>
    have hI2:=hI.same hP hb
    (conv=>whnf);(repeat'((first|apply bT|apply bF|apply bN|((first|apply bD|apply bEq|apply bNe)<;>intro hh<;>try(exfalso;omega))|refine iaJ g1 ?_|refine wJ ?_|refine nJ ?_)<;>conv=>whnf))
    exact⟨(k+1,R,sn'),mI,⟨by dsimp only;omega,hI2⟩,by dsimp only;omega⟩
   |cons x r=>
    have hI2:=hI.add ht hP (by simp) hb
    have hr1:((x::r).map jAV).length=(x::r).length:=by simp
    have hR1:(R.map fAV).length=R.length:=by simp
    have hpos:0<(x::r).length:=by simp
    have e2:(R++[x::r]).map fAV=R.map fAV++[[.isl ((x::r).map jAV)]]:=by rw[List.map_append];rfl
    generalize x::r=r at *
    (conv=>whnf);(repeat'((first|apply bT|apply bF|apply bN|((first|apply bD|apply bEq|apply bNe)<;>intro hh<;>try(exfalso;omega))|refine iaJ g1 ?_|(refine apJ ?_)|refine wJ ?_|refine nJ ?_)<;>conv=>whnf))
    refine⟨(k+1,R++[r],sn'),?_,⟨by dsimp only;omega,hI2⟩,by dsimp only;omega⟩
    dsimp only
    rw[e2]
    exact(mA [(5,some 4)])
 ·have:k=t.length:=by dsimp only at h3;omega
  subst this
  (conv=>whnf);(repeat'((first|apply bT|apply bF|apply bN|((first|apply bD|apply bEq|apply bNe)<;>intro hh<;>try(exfalso;omega))|refine wJ ?_|refine nJ ?_)<;>conv=>whnf))
  all_goals exact⟨R,rfl,hI.done,hfew⟩
theorem isTk_ok{t:List Int}(h:isTk t=true):tk t/\t.length<=7:=by
 simp only[isTk,Bool.and_eq_true,decide_eq_true_eq]at h
 exact⟨tk_of h.1,h.2⟩
theorem exL_len(r:List Int):(exL r).length<=r.length:=by simp[exL]
theorem p48(t:List Int)(hl:t.length<=100):FnA Try.prog 48 [.isl (t.map jAV)] (fun r=>∃(a:List (List Int)) (e:Int),r = .tup [.isl (a.map fAV), .int .i64 e]/\ExOk t a e):=by
 have e1:=p65 t (by omega)
 refine fnA 3 ok48 (by simp) ?_
 cases hb:isTk t<;>rw[hb]at e1
 ·(conv=>whnf);(repeat'((first|apply bT|apply bF|apply bN|((first|apply bD|apply bEq|apply bNe)<;>intro hh<;>try(exfalso;omega))|refine e1.cq rfl rfl ?_|refine wJ ?_|refine nJ ?_)<;>conv=>whnf))
  all_goals exact⟨[],1,rfl,by rw[ExOk,hb];simp⟩
 ·obtain⟨ht,h7⟩:=isTk_ok hb
  have e2:=p66 t ht (by omega)
  (conv=>whnf);(repeat'((first|apply bT|apply bF|apply bN|((first|apply bD|apply bEq|apply bNe)<;>intro hh<;>try(exfalso;omega))|refine e1.cq rfl rfl ?_|refine wJ ?_|refine nJ ?_)<;>conv=>whnf))
  refine e2.callzq rfl rfl (fun r hr=>?_)
  obtain⟨R,rfl,hR,hRl⟩:=hr
  have hrl:∀r∈R,0<r.length/\r.length<=7:=fun r hr=>⟨(hR.rg r hr).1.1,nd_len7 h7 (hR.rg r hr).2 ((List.pairwise_flatten.1 hR.nd).1 r hr)⟩
  have hex:=exch_ok ht hR
  have hL:(R.map fAV).length=R.length:=by simp
  (conv=>whnf);(repeat'((first|apply bT|apply bF|apply bN|((first|apply bD|apply bEq|apply bNe)<;>intro hh<;>try(exfalso;omega))|refine wJ ?_|refine nJ ?_)<;>conv=>whnf))
  refine loop_i (α :=Nat) (fun k=>[(13, .int .i64 k),(12, .int .i64 ↑(R.map fAV).length),(11, .isl (R.map fAV)),(4, .row 3)]) (fun k=>[.fresh, .fresh, .fresh, .row false 25 1 (((R.take k).flatMap exL).map fAV)]) (fun k=>k<=R.length/\((R.take k).flatMap exL).length<=7*k) (fun k=>R.length-k) 0 (mA [(3,none)]) ⟨by omega,by simp⟩ ?_
  rintro k ⟨h1,h2⟩
  conv=>whnf
  refine bD (fun h3=>?_) (fun h3=>?_)
  ·have hk:k<R.length:=by omega
   have g1:=getM fAV R k hk
   have hr:=hrl _ (List.getElem_mem hk)
   have e3:=p77 R[k] hr.1 (by omega)
   have he:=exL_len R[k]
   have eA:(R.take (k+1)).flatMap exL=(R.take k).flatMap exL++exL R[k]:=by rw[List.take_succ_eq_append_getElem hk,List.flatMap_append,List.flatMap_singleton]
   have eB:((R.take (k+1)).flatMap exL).map fAV=((R.take k).flatMap exL).map fAV++(exL R[k]).map fAV:=by rw[eA,List.map_append]
   have l1:(((R.take k).flatMap exL).map fAV).length<=7*k:=by rw[List.length_map];exact h2
   have l2:((exL R[k]).map fAV).length<=7:=by rw[List.length_map];omega
   (conv=>whnf);(repeat'((first|apply bT|apply bF|apply bN|((first|apply bD|apply bEq|apply bNe)<;>intro hh<;>try(exfalso;omega))|refine iaJ g1 ?_|refine e3.zq rfl rfl ?_|refine apI (f_one _) (by omega) ?_|refine wJ ?_|refine nJ ?_)<;>conv=>whnf))
   refine⟨k+1,?_,⟨by omega,by rw[eA,List.length_append];omega⟩,by omega⟩
   rw[eB]
   exact(mA [(3,some 2)])
  ·have:k=R.length:=by omega
   subst this
   rw[List.take_length]
   (conv=>whnf);(repeat'((first|apply bT|apply bF|apply bN|((first|apply bD|apply bEq|apply bNe)<;>intro hh<;>try(exfalso;omega))|refine wJ ?_|refine nJ ?_)<;>conv=>whnf))
   all_goals exact⟨R.flatMap exL,0,rfl,by rw[ExOk,if_pos hb];exact⟨rfl,hex⟩⟩
theorem p29(t:List Int)(hl:t.length<=100):FnA Try.prog 29 [.isl (t.map jAV)] (· = .tup [.int .i64 (if isTk t=true then need t else 0), .int .i64 (if isTk t=true then 0 else 1)]):=by
 have e1:=p48 t hl
 refine fnA 1 ok29 (by simp) ?_
 conv=>whnf
 refine e1.callzq rfl rfl (fun r hr=>?_)
 obtain⟨a,e,rfl,hx⟩:=hr
 have hA:(a.map fAV).length=a.length:=by simp
 unfold ExOk at hx
 by_cases hb:isTk t=true
 ·rw[if_pos hb]at hx
  rw[if_pos hb,if_pos hb,<- hx.2.1,<- hA,<- hx.1]
  (conv=>whnf);(repeat'((first|apply bT|apply bF|apply bN|((first|apply bD|apply bEq|apply bNe)<;>intro hh<;>try(exfalso;omega))|refine wJ ?_|refine nJ ?_)<;>conv=>whnf))
  all_goals rfl
 ·rw[if_neg hb]at hx
  obtain⟨rfl,rfl⟩:=hx
  rw[if_neg hb,if_neg hb]
  (conv=>whnf);(repeat'((first|apply bT|apply bF|apply bN|((first|apply bD|apply bEq|apply bNe)<;>intro hh<;>try(exfalso;omega))|refine wJ ?_|refine nJ ?_)<;>conv=>whnf))
  all_goals rfl
theorem posL_len{m:Nat}(h:m<=7)(at':Int):(posL m at').length<=49:=by
 have e:posL m at'=preL m at' m:=rfl
 have:=preL_len m at' m
 have h2:m*m<=7*7:=Nat.mul_le_mul h h
 rw[e];omega
theorem p34(t:List Int)(hl:t.length<=100):FnA Try.prog 34 [.isl (t.map jAV)] (fun r=>∃(a b:List (List Int)) (e:Int),r = .tup [.isl (a.map fAV), .isl (b.map fAV), .int .i64 e]/\RndOk t a b e):=by
 have e1:=p65 t (by omega)
 refine fnA 5 ok34 (by simp) ?_
 cases hb:isTk t<;>rw[hb]at e1
 ·(conv=>whnf);(repeat'((first|apply bT|apply bF|apply bN|((first|apply bD|apply bEq|apply bNe)<;>intro hh<;>try(exfalso;omega))|refine e1.cq rfl rfl ?_|refine wJ ?_|refine nJ ?_)<;>conv=>whnf))
  all_goals exact⟨[],[],1,rfl,by rw[RndOk,hb];simp⟩
 ·obtain⟨ht,h7⟩:=isTk_ok hb
  have e2:=p66 t ht (by omega)
  (conv=>whnf);(repeat'((first|apply bT|apply bF|apply bN|((first|apply bD|apply bEq|apply bNe)<;>intro hh<;>try(exfalso;omega))|refine e1.cq rfl rfl ?_|refine wJ ?_|refine nJ ?_)<;>conv=>whnf))
  refine e2.callzq rfl rfl (fun r hr=>?_)
  obtain⟨R,rfl,hR,hRl⟩:=hr
  have hrl:∀r∈R,r.length<=7:=fun r hr=>nd_len7 h7 (hR.rg r hr).2 ((List.pairwise_flatten.1 hR.nd).1 r hr)
  have hex:=rounds_ok h7 hR
  have hL:(R.map fAV).length=R.length:=by simp
  -- how long the rounds are
  have hlen:∀at':Int,(at'=1\/at'=2)->(R.flatMap fun r=>mirL r at').length<=100:=fun at' ha=>by
   have hrn:=gsL_rnd h7 (fun r hr=>(hR.rg r hr).2) hrl hR.nd ha
   have e:(R.flatMap fun r=>mirL r at').length=(gsL R at').length:=by rw[<- gsL_exs,exs,List.length_map]
   have hf:=nd_lenN (n:=t.length) (r:=(gsL R at').map (·.1)) (fun x hx=>by
    obtain⟨p,hp,rfl⟩:=List.mem_map.1 hx;exact(hrn.ok p hp).1) (List.pairwise_map.2 (hrn.dj.imp fun h=>h.1))
   rw[List.length_map]at hf
   omega
  (conv=>whnf);(repeat'((first|apply bT|apply bF|apply bN|((first|apply bD|apply bEq|apply bNe)<;>intro hh<;>try(exfalso;omega))|refine wJ ?_|refine nJ ?_)<;>conv=>whnf))
  refine loop_i (α :=Nat) (fun k=>[(13, .int .i64 k),(12, .int .i64 ↑(R.map fAV).length),(11, .isl (R.map fAV)),(3, .row 6),(2, .row 5)]) (fun k=>[.fresh, .fresh, .fresh, .fresh, .fresh, .row false 25 1 (((R.take k).flatMap fun r=>mirL r 1).map fAV), .row false 25 1 (((R.take k).flatMap fun r=>mirL r 2).map fAV)]) (fun k=>k<=R.length/\((R.take k).flatMap fun r=>mirL r 1).length<=49*k/\((R.take k).flatMap fun r=>mirL r 2).length<=49*k) (fun k=>R.length-k) 0 (mA [(5,none),(6,none)]) ⟨by omega,by simp,by simp⟩ ?_
  rintro k ⟨h1,h2,h2'⟩
  conv=>whnf
  refine bD (fun h3=>?_) (fun h3=>?_)
  ·have hk:k<R.length:=by omega
   have g1:=getM fAV R k hk
   have hr:=hrl _ (List.getElem_mem hk)
   have e3:=p67 R[k] 1 (by omega) (by omega)
   have e4:=p67 R[k] 2 (by omega) (by omega)
   have m1:(mirL R[k] 1).length<=49:=by rw[mirL,List.length_map];exact posL_len hr 1
   have m2:(mirL R[k] 2).length<=49:=by rw[mirL,List.length_map];exact posL_len hr 2
   have eA:∀at':Int,((R.take (k+1)).flatMap fun r=>mirL r at')=((R.take k).flatMap fun r=>mirL r at')++mirL R[k] at':=fun at'=>by rw[List.take_succ_eq_append_getElem hk,List.flatMap_append,List.flatMap_singleton]
   have eB:∀at':Int,((R.take (k+1)).flatMap fun r=>mirL r at').map fAV=((R.take k).flatMap fun r=>mirL r at').map fAV++(mirL R[k] at').map fAV:=fun at'=>by rw[eA,List.map_append]
   have l1:(((R.take k).flatMap fun r=>mirL r 1).map fAV).length<=49*k:=by rw[List.length_map];exact h2
   have l2:(((R.take k).flatMap fun r=>mirL r 2).map fAV).length<=49*k:=by rw[List.length_map];exact h2'
   have l3:((mirL R[k] 1).map fAV).length<=49:=by rw[List.length_map];exact m1
   have l4:((mirL R[k] 2).map fAV).length<=49:=by rw[List.length_map];exact m2
   (conv=>whnf);(repeat'((first|apply bT|apply bF|apply bN|((first|apply bD|apply bEq|apply bNe)<;>intro hh<;>try(exfalso;omega))|refine iaJ g1 ?_|refine e3.zq rfl rfl ?_|refine e4.zq rfl rfl ?_|refine apI (f_one _) (by omega) ?_|refine wJ ?_|refine nJ ?_)<;>conv=>whnf))
   refine⟨k+1,?_,⟨by omega,by rw[eA,List.length_append];omega,by rw[eA,List.length_append];omega⟩,by omega⟩
   rw[eB,eB]
   exact(mA [(5,some 2),(6,some 4)])
  ·have:k=R.length:=by omega
   subst this
   rw[List.take_length]
   (conv=>whnf);(repeat'((first|apply bT|apply bF|apply bN|((first|apply bD|apply bEq|apply bNe)<;>intro hh<;>try(exfalso;omega))|refine wJ ?_|refine nJ ?_)<;>conv=>whnf))
   all_goals exact⟨R.flatMap fun r=>mirL r 1,R.flatMap fun r=>mirL r 2,0,rfl,by rw[RndOk,if_pos hb];exact⟨rfl,hlen 1 (.inl rfl),hlen 2 (.inr rfl),hex⟩⟩
def Base(G:Nat)(l:List (List Int)):Prop:=l.Nodup/\∀t∈l,t.length=G/\tk t
theorem Base.sub{G:Nat}{l l':List (List Int)}(h:Base G l)(hs:l'.Sublist l):Base G l':=⟨h.1.sublist hs,fun t ht=>h.2 t (hs.subset ht)⟩
theorem Base.wh{G:Nat}{l:List (List Int)}(h:Base G l)(g u:Int):Base G (whereL l g u):=h.sub List.filter_sublist
def Agr(A:List Int)(l:List (List Int)):Prop:=∀a∈l,∀b∈l,∀g∈A,a.getD g.toNat 0=b.getD g.toNat 0
structure Gs(G:Nat)(A:List Int):Prop where
 nd:A.Nodup
 ok:∀g∈A,0<=g/\g<(G:Int)
theorem Gs.add{G:Nat}{A:List Int}(h:Gs G A){g:Nat}(hg:g<G)(hn:(g:Int)∉A):Gs G (A++[(g:Int)]):=
 ⟨List.nodup_append.2 ⟨h.nd,by simp,fun a ha b hb e=>by simp only[List.mem_singleton]at hb;subst hb;subst e;exact hn ha⟩,
  fun x hx=>by
  rcases List.mem_append.1 hx with hx|hx
  ·exact h.ok x hx
  ·simp only[List.mem_singleton]at hx;subst hx;omega⟩
theorem Gs.len{G:Nat}{A:List Int}(h:Gs G A):A.length<=G:=by
 have h2:((List.range G).map fun(i:Nat)=>(i:Int)).Nodup:=List.pairwise_map.2 (List.nodup_range.imp fun {a b} h e=>h (by omega))
 have:=nd_sub_len (b:=(List.range G).map fun(i:Nat)=>(i:Int)) h.nd h2 fun x hx=>by
  have:=h.ok x hx
  exact List.mem_map.2 ⟨x.toNat,List.mem_range.2 (by omega),by omega⟩
 simpa using this
theorem Agr.wh{A:List Int}{l:List (List Int)}(h:Agr A l)(g:Nat)(u:Int):Agr (A++[(g:Int)]) (whereL l (g:Int) u):=fun a ha b hb x hx=>by
 have ha:=mem_where.1 ha
 have hb:=mem_where.1 hb
 rcases List.mem_append.1 hx with hx|hx
 ·exact h a ha.1 b hb.1 x hx
 ·simp only[List.mem_singleton]at hx;subst hx;rw[ha.2,hb.2]
def tw2(g:Nat)(l:List (List Int)):Prop:=∃a∈l,∃b∈l,a.getD g 0≠b.getD g 0
theorem tw2_not{A:List Int}{l:List (List Int)}(h:Agr A l){g:Nat}(ht:tw2 g l):(g:Int)∉A:=fun hm=>by
 obtain⟨a,ha,b,hb,hne⟩:=ht
 exact hne (by simpa using h a ha b hb _ hm)
theorem same_wh{l:List (List Int)}{g:Nat}(h:¬tw2 g l){t:List Int}(ht:t∈l):whereL l (g:Int) (t.getD g 0)=l:=by
 unfold whereL
 rw[List.filter_eq_self]
 intro a ha
 rw[decide_eq_true_eq,Int.toNat_natCast]
 exact Classical.byContradiction fun hn=>h ⟨a,ha,t,ht,hn⟩
theorem val_nat{G:Nat}{t:List Int}(ht:t.length=G/\tk t){g:Nat}(hg:g<G):∃u,u<G/\t.getD g 0=(u:Int):=by
 have:=tk_lt ht.2 g (by omega)
 exact⟨(t.getD g 0).toNat,by omega,by omega⟩
theorem kn_two{G:Nat}:∀ {n:Nat} {l:List (List Int)},(∀t∈l,t.length=G/\tk t)->1<l.length->kn G (n+1) l=true->∃g,g<G/\tw2 g l/\knA (kn G n) l G g=true:=by
 intro n
 induction n with
 |zero=>
  intro l hl h1 hk
  rcases kn_suc.1 hk with h|⟨g,hg,hA⟩
  ·omega
  ·refine⟨g,hg,Classical.byContradiction fun hn=>?_,hA⟩
   obtain⟨t,ht⟩:=List.exists_mem_of_length_pos (show 0<l.length by omega)
   obtain⟨u,hu,e⟩:=val_nat (hl t ht) hg
   have:=knA_iff.1 hA u hu
   rw[<- e,same_wh hn ht]at this
   have:=kn_zero.1 this
   omega
 |succ n ih=>
  intro l hl h1 hk
  rcases kn_suc.1 hk with h|⟨g,hg,hA⟩
  ·omega
  ·by_cases ht:tw2 g l
   ·exact⟨g,hg,ht,hA⟩
   ·obtain⟨t,htm⟩:=List.exists_mem_of_length_pos (show 0<l.length by omega)
    obtain⟨u,hu,e⟩:=val_nat (hl t htm) hg
    have:=knA_iff.1 hA u hu
    rw[<- e,same_wh ht htm]at this
    obtain⟨g',hg',ht',hA'⟩:=ih hl h1 this
    exact⟨g',hg',ht',knA_iff.2 fun u hu=>kn_up (knA_iff.1 hA' u hu)⟩
theorem agr_one{G:Nat}{A:List Int}{l:List (List Int)}(hb:Base G l)(hA:Gs G A)(ha:Agr A l)(hG:G<=A.length+1):l.length<=1:=by
 refine Classical.byContradiction fun hn=>?_
 obtain⟨g,hg,a,ham,b,hbm,hne⟩:=differ hb.1 hb.2 (by omega)
 have hga:(g:Int)∉A:=tw2_not ha ⟨a,ham,b,hbm,hne⟩
 have hcov:∀i,i<G->i≠g->(i:Int)∈A:=fun i hi hig=>by
  refine Classical.byContradiction fun hi2=>?_
  have h2:=(hA.add hg hga).add hi (by simp only[List.mem_append,List.mem_singleton,not_or];exact⟨hi2,by omega⟩)
  have:=h2.len
  simp at this;omega
 have ta:=hb.2 a ham
 have tb:=hb.2 b hbm
 obtain⟨u,hu,eu⟩:=val_nat tb hg
 obtain⟨i,hi,ei⟩:=tk_has ta.2 u (by omega)
 have h0:=tk_lt ta.2 i hi
 have hai:a.getD i 0=(u:Int):=by simp only[fnL]at ei;omega
 have hig:i≠g:=fun e=>by subst e;exact hne (by rw[hai,eu])
 have hab:=ha a ham b hbm _ (hcov i (by omega) hig)
 simp only[Int.toNat_natCast]at hab
 have hbi:b.getD i 0=b.getD g 0:=by rw[<- hab,hai,eu]
 exact hig (tk_mem (tk_to tb.2) i g (by omega) (by omega) (Nat.le_refl _) hbi)
theorem kn_set{G:Nat}:∀(n:Nat) {A:List Int} {l:List (List Int)},Base G l->Gs G A->Agr A l->G<=A.length+n+1->kn G n l=true:=by
 intro n
 induction n with
 |zero=>intro A l hb hA ha hG;exact kn_zero.2 (agr_one hb hA ha hG)
 |succ n ih=>
  intro A l hb hA ha hG
  by_cases h1:l.length<=1
  ·exact kn_one h1
  ·obtain⟨g,hg,a,ham,b,hbm,hne⟩:=differ hb.1 hb.2 (by omega)
   have hga:(g:Int)∉A:=tw2_not ha ⟨a,ham,b,hbm,hne⟩
   exact kn_suc.2 (.inr ⟨g,hg,knA_iff.2 fun u hu=>ih (hb.wh _ _) (hA.add hg hga) (ha.wh g _) (by simp;omega)⟩)
def ansOf:Nat->Nat->Nat
 |_,0=>1
 |o,n+1=>o*ansOf (o-1) n
theorem ansOf_suc:∀(n o:Nat),ansOf o (n+1)=ansOf o n*(o-n):=by
 intro n
 induction n with
 |zero=>intro o;simp[ansOf]
 |succ n ih=>
  intro o
  rw[ansOf,ih,ansOf,Nat.mul_assoc]
  congr 2;omega
theorem ansOf_pos:∀(n o:Nat),n<=o->0<ansOf o n:=by
 intro n
 induction n with
 |zero=>intro o _;simp[ansOf]
 |succ n ih=>intro o h;rw[ansOf];exact Nat.mul_pos (by omega) (ih _ (by omega))
theorem ansOf_up{o n:Nat}(h:n<o):ansOf o n<=ansOf o (n+1):=by
 rw[ansOf_suc];exact Nat.le_mul_of_pos_right _ (by omega)
theorem ansOf_le{n o:Nat}(h:o<=7):ansOf o n<=7 ^ n:=by
 induction n generalizing o with
 |zero=>simp[ansOf]
 |succ n ih=>rw[ansOf,Nat.pow_succ,Nat.mul_comm];exact Nat.mul_le_mul (ih (by omega)) h
def sumL(E:Ents):Nat:=(E.map fun e=>e.2.length).sum
theorem insE_sum(E:Ents)(x:Int)(t:List Int):sumL (insE E x t)=sumL E+1:=by
 induction E with
 |nil=>simp[insE,sumL]
 |cons e E ih=>
  simp only[insE]
  split
  ·simp[sumL];omega
  ·simp only[sumL,List.map_cons,List.sum_cons]at ih⊢;omega
theorem ansE_sum(g:Nat)(l:List (List Int)):sumL (ansE g l)=l.length:=by
 have:∀(l:List (List Int)) (E:Ents),sumL (l.foldl (fun E t=>insE E (t.getD g 0) t) E)=sumL E+l.length:=by
  intro l
  induction l with
  |nil=>intro E;simp
  |cons t l ih=>intro E;rw[List.foldl_cons,ih,insE_sum];simp;omega
 have:=this l []
 simpa[ansE,sumL]using this
theorem sum_le{E:Ents}{c:Nat}(h:∀e∈E,e.2.length<=c):sumL E<=E.length*c:=by
 induction E with
 |nil=>simp[sumL]
 |cons e E ih=>
  have h1:=h e (by simp)
  have h2:=ih fun x hx=>h x (by simp[hx])
  simp only[sumL,List.map_cons,List.sum_cons,List.length_cons,Nat.add_mul,Nat.one_mul]at h2⊢;omega
theorem kn_cnt{G:Nat}:∀(n:Nat) {A:List Int} {l:List (List Int)} {o:Nat},Base G l->Gs G A->Agr A l->A.length+o=G->n<=o->kn G n l=true->l.length<=ansOf o n:=by
 intro n
 induction n with
 |zero=>intro A l o _ _ _ _ _ hk;simpa[ansOf]using kn_zero.1 hk
 |succ n ih=>
  intro A l o hb hA ha hG ho hk
  rcases kn_suc.1 hk with h|⟨g,hg,hgA⟩
  ·have:=ansOf_pos (n+1) o ho;omega
  ·by_cases ht:tw2 g l
   ·have hga:=tw2_not ha ht
    have hE:∀e∈ansE g l,e.2.length<=ansOf (o-1) n:=fun e he=>by
     obtain⟨k,ts⟩:=e
     obtain⟨h1,h2⟩:=mem_ansE.1 he
     obtain⟨t,htm⟩:=List.exists_mem_of_ne_nil _ h2
     rw[h1]at htm
     have htw:=mem_where.1 htm
     obtain⟨u,hu,e⟩:=val_nat (hb.2 t htw.1) hg
     have hku:k=(u:Int):=by rw[<- htw.2,Int.toNat_natCast,e]
     subst h1
     dsimp only
     rw[hku]
     exact ih (hb.wh _ _) (hA.add hg hga) (ha.wh g _) (by simp;omega) (by omega) (knA_iff.1 hgA u hu)
    have hlen:(ansE g l).length<=o:=by
     obtain⟨t0,ht0,_⟩:=ht
     have hv:∀x∈A,∃u,u<G/\t0.getD x.toNat 0=(u:Int):=fun x hx=>by
      have:=hA.ok x hx
      exact val_nat (hb.2 t0 ht0) (by omega)
     have hnd:((ansE g l).map (·.1)++A.map fun x=>t0.getD x.toNat 0).Nodup:=by
      have hn2:(A.map fun x=>t0.getD x.toNat 0).Nodup:=by
       refine List.pairwise_map.2 (hA.nd.imp_of_mem fun {x y} hx hy hxy e=>hxy ?_)
       have hx':=hA.ok x hx
       have hy':=hA.ok y hy
       have:=tk_mem (tk_to (hb.2 t0 ht0).2) x.toNat y.toNat (by have:=(hb.2 t0 ht0).1;omega) (by have:=(hb.2 t0 ht0).1;omega) (Nat.le_refl _) e
       omega
      refine List.nodup_append.2 ⟨ansE_nd g l,hn2,fun p hp q hq e=>?_⟩
      ·obtain⟨t,htm,e1⟩:=key_ansE.1 hp
       obtain⟨x,hx,e2⟩:=List.mem_map.1 hq
       have hx':=hA.ok x hx
       have hag:=ha t0 ht0 t htm x hx
       have hlt:=(hb.2 t htm).1
       have:=tk_mem (tk_to (hb.2 t htm).2) g x.toNat (by omega) (by omega) (Nat.le_refl _) (by rw[e1,e,<- e2,hag])
       exact hga (by rw[this,Int.toNat_of_nonneg hx'.1];exact hx)
     have hGs:Gs G ((ansE g l).map (·.1)++A.map fun x=>t0.getD x.toNat 0):=⟨hnd,fun x hx=>by
      rcases List.mem_append.1 hx with hx|hx
      ·obtain⟨t,htm,e1⟩:=key_ansE.1 hx
       obtain⟨u,hu,e⟩:=val_nat (hb.2 t htm) hg
       omega
      ·obtain⟨y,hy,e2⟩:=List.mem_map.1 hx
       obtain⟨u,hu,e⟩:=hv y hy
       omega⟩
     have:=hGs.len
     simp at this;omega
    have h1:=sum_le hE
    rw[ansE_sum]at h1
    rw[ansOf]
    exact Nat.le_trans h1 (Nat.mul_le_mul hlen (Nat.le_refl _))
   ·by_cases h0:l=[]
    ·subst h0;simp
    ·obtain⟨t,htm⟩:=List.exists_mem_of_ne_nil _ h0
     obtain⟨u,hu,e⟩:=val_nat (hb.2 t htm) hg
     have:=knA_iff.1 hgA u hu
     rw[<- e,same_wh ht htm]at this
     exact Nat.le_trans (ih hb hA ha hG (by omega) this) (ansOf_up (by omega))
def agrB(A:List Int)(t0 t:List Int):Bool:=A.all fun g=>decide (t.getD g.toNat 0=t0.getD g.toNat 0)
def av(A:List Int)(t0:List Int)(i:Nat):Int:=if (i:Int)∈A then 1+t0.getD i 0 else 0
def keyL(A:List Int)(t0:List Int)(n:Nat):List Int:=[av A t0 0,av A t0 1,av A t0 2,av A t0 3,av A t0 4,av A t0 5,av A t0 6,(n:Int)]
def keyF(k t:List Int):Bool:=(List.range 7).all fun i=>decide (k.getD i 0=0)||decide (t.getD i 0+1=k.getD i 0)
theorem av_suc(A:List Int)(t0:List Int)(g:Int)(i:Nat):av (A++[g]) t0 i=if (i:Int)=g then 1+t0.getD i 0 else av A t0 i:=by
 unfold av
 by_cases h:(i:Int)=g
 ·rw[if_pos h,if_pos (by simp[h])]
 ·rw[if_neg h];simp[h]
theorem keyL_get(A:List Int)(t0:List Int)(n i:Nat)(hi:i<7):(keyL A t0 n).getD i 0=av A t0 i:=by
 have:i=0\/i=1\/i=2\/i=3\/i=4\/i=5\/i=6:=by omega
 rcases this with rfl|rfl|rfl|rfl|rfl|rfl|rfl<;>rfl
theorem keyF_agr{A:List Int}{t0 t:List Int}{n:Nat}(hA:∀g∈A,0<=g/\g<7)(h0:∀i,0<=t0.getD i 0):keyF (keyL A t0 n) t=agrB A t0 t:=by
 unfold keyF agrB
 rw[Bool.eq_iff_iff,List.all_eq_true,List.all_eq_true]
 constructor
 ·intro h g hg
  have hb:=hA g hg
  have:=h g.toNat (List.mem_range.2 (by omega))
  rw[keyL_get _ _ _ _ (by omega),av,if_pos (by rw[Int.toNat_of_nonneg hb.1];exact hg)]at this
  have h1:=h0 g.toNat
  simp only[Bool.or_eq_true,decide_eq_true_eq]at this⊢
  omega
 ·intro h i hi
  have hi:=List.mem_range.1 hi
  rw[keyL_get _ _ _ _ hi,av]
  by_cases hm:(i:Int)∈A
  ·rw[if_pos hm]
   have:=h _ hm
   simp only[Int.toNat_natCast,decide_eq_true_eq]at this
   simp only[Bool.or_eq_true,decide_eq_true_eq]
   omega
  ·rw[if_neg hm];simp
structure Gd(l0:List (List Int))(A:List Int)(l:List (List Int)):Prop where
 ne:l≠[]
 eq:l=l0.filter (agrB A (l.getD 0 []))
theorem head_mem{l:List (List Int)}(h:l≠[]):l.getD 0 []∈l:=by
 cases l with
 |nil=>exact absurd rfl h
 |cons t l=>simp
theorem Gd.agr{l0:List (List Int)}{A:List Int}{l:List (List Int)}(h:Gd l0 A l):Agr A l:=by
 have key:∀a∈l,∀g∈A,a.getD g.toNat 0=(l.getD 0 []).getD g.toNat 0:=fun a ha g hg=>by
  rw[h.eq]at ha
  have:=(List.mem_filter.1 ha).2
  simpa using List.all_eq_true.1 this g hg
 exact fun a ha b hb g hg=>by rw[key a ha g hg,key b hb g hg]
theorem Gd.sub{l0:List (List Int)}{A:List Int}{l:List (List Int)}(h:Gd l0 A l):l.Sublist l0:=by rw[h.eq];exact List.filter_sublist
theorem Gd.wh{l0:List (List Int)}{A:List Int}{l:List (List Int)}(h:Gd l0 A l)(g:Nat){u:Int}(hne:whereL l (g:Int) u≠[]):Gd l0 (A++[(g:Int)]) (whereL l (g:Int) u):=by
 refine⟨hne,?_⟩
 have h1:=mem_where.1 (head_mem hne)
 generalize (whereL l (g:Int) u).getD 0 []=t1 at h1
 have ha:=h.agr
 have h0:=head_mem h.ne
 have e:whereL l (g:Int) u=l0.filter fun t=>agrB A (l.getD 0 []) t&&decide (t.getD g 0=u):=by
  have h2:=congrArg (fun l=>List.filter (fun t:List Int=>decide (t.getD g 0=u)) l) h.eq
  simp only[List.filter_filter]at h2
  unfold whereL
  simp only[Int.toNat_natCast]
  rw[h2]
  exact List.filter_congr fun t _=>Bool.and_comm _ _
 rw[e]
 refine List.filter_congr fun t _=>?_
 rw[Bool.eq_iff_iff,Bool.and_eq_true]
 unfold agrB
 simp only[List.all_append,List.all_cons,List.all_nil,Bool.and_true,Bool.and_eq_true,List.all_eq_true,decide_eq_true_eq]
 simp only[Int.toNat_natCast]at h1⊢
 rw[h1.2]
 exact and_congr_left fun _=>⟨fun h3 x hx=>by rw[h3 x hx];exact ha _ h0 _ h1.1 x hx,fun h3 x hx=>by rw[h3 x hx];exact ha _ h1.1 _ h0 x hx⟩
theorem Gd.all(l:List (List Int))(h:l≠[]):Gd l [] l:=⟨h,by rw[List.filter_eq_self.2];intro a _;rfl⟩
def MemoOk(G:Nat)(l0:List (List Int))(M:List (List Int × Bool)):Prop:=∀e∈M,e.1.length=8/\e.2=kn G (e.1.getD 7 0).toNat (l0.filter (keyF e.1))
theorem memo_val{G:Nat}{l0:List (List Int)}{A:List Int}{l:List (List Int)}(hb:Base G l0)(h7:G<=7)(hA:Gs G A)(h:Gd l0 A l)(n:Nat):kn G ((keyL A (l.getD 0 []) n).getD 7 0).toNat (l0.filter (keyF (keyL A (l.getD 0 []) n)))=kn G n l:=by
 have h0:=(hb.2 _ (h.sub.subset (head_mem h.ne))).2
 have e:l0.filter (keyF (keyL A (l.getD 0 []) n))=l:=by
  have h2:l0.filter (keyF (keyL A (l.getD 0 []) n))=l0.filter (agrB A (l.getD 0 [])):=List.filter_congr fun t _=>keyF_agr (fun g hg=>by have:=hA.ok g hg;omega) fun i=>by
   by_cases hi:i<(l.getD 0 []).length
   ·exact h0.1 i hi
   ·have:(l.getD 0 []).getD i 0=0:=by rw[List.getD_eq_getElem?_getD,List.getElem?_eq_none (by omega)];rfl
    omega
  rw[h2];exact h.eq.symm
 rw[e]
 simp[keyL]
theorem p101(o q:Nat)(x y:Int)(hx:x=(o:Int))(hy:y=(q:Int))(h7:o<=7)(hq:q<=o):FnA Try.prog 101 [.int .i64 x, .int .i64 y] (· = .int .i64 (ansOf o q:Nat)):=by
 subst hx;subst hy
 refine fnA 0 ok101 (by simp) ?_
 (conv=>whnf);(repeat'((first|apply bT|apply bF|apply bN|((first|apply bD|apply bEq|apply bNe)<;>intro hh<;>try(exfalso;omega))|refine wJ ?_|refine nJ ?_)<;>conv=>whnf))
 refine loop_i (α :=Nat) (fun k=>[(8, .int .i64 k),(7, .int .i64 q),(5, .int .i64 (ansOf o k:Nat)),(0, .int .i64 o)]) (fun k=>[]) (fun k=>k<=q) (fun k=>q-k) 0 mI (by omega) ?_
 rintro k h1
 conv=>whnf
 refine bD (fun h3=>?_) (fun h3=>?_)
 ·have hk:k<q:=by omega
  have e1:((ansOf o (k+1):Nat):Int)=(ansOf o k:Nat)*((o:Int)-(k:Int)):=by
   rw[ansOf_suc,Int.natCast_mul];congr 1;omega
  have hb:ansOf o (k+1)<=823543:=Nat.le_trans (ansOf_le h7) (Nat.le_trans (Nat.pow_le_pow_right (by omega) (show k+1<=7 by omega)) (by decide))
  (conv=>whnf);(repeat'((first|apply bT|apply bF|apply bN|((first|apply bD|apply bEq|apply bNe)<;>intro hh<;>try(exfalso;omega))|refine wJ ?_|refine nJ ?_)<;>conv=>whnf))
  exact⟨k+1,by rw[e1];exact mI,by omega,by omega⟩
 ·have:k=q:=by omega
  subst this
  (conv=>whnf);(repeat'((first|apply bT|apply bF|apply bN|((first|apply bD|apply bEq|apply bNe)<;>intro hh<;>try(exfalso;omega))|refine wJ ?_|refine nJ ?_)<;>conv=>whnf))
  all_goals rfl
abbrev kT:KTy:=.st (.node [(0,7,(.node [(0,1,(.leaf true)),(1,1,(.leaf true)),(2,1,(.leaf true)),(3,1,(.leaf true)),(4,1,(.leaf true)),(5,1,(.leaf true)),(6,1,(.leaf true))])),(7,1,(.leaf true))])
def keyK(l:List Int):AV:=.agg (l.map fun x=>.int .i64 x)
def keyE(e:List Int × Bool):AV:=keyK e.1
def valE(e:List Int × Bool):AV:=.bool e.2
theorem eight{l:List Int}(h:l.length=8):∃a b c d e f g i,l=[a,b,c,d,e,f,g,i]:=by
 match l,h with
 | [a,b,c,d,e,f,g,i],_=>exact⟨a,b,c,d,e,f,g,i,rfl⟩
theorem keq_key{a b:List Int}(ha:a.length=8)(hb:b.length=8):keq kT (keyK a) (keyK b)=some (decide (a=b)):=by
 obtain⟨a0,a1,a2,a3,a4,a5,a6,a7,rfl⟩:=eight ha
 obtain⟨b0,b1,b2,b3,b4,b5,b6,b7,rfl⟩:=eight hb
 have h1:eqV (.node [(0,7,(.node [(0,1,(.leaf true)),(1,1,(.leaf true)),(2,1,(.leaf true)),(3,1,(.leaf true)),(4,1,(.leaf true)),(5,1,(.leaf true)),(6,1,(.leaf true))])),(7,1,(.leaf true))]) ([a0,a1,a2,a3,a4,a5,a6,a7].map fun x=>AV.int .i64 x) ([b0,b1,b2,b3,b4,b5,b6,b7].map fun x=>AV.int .i64 x)=some ((a0==b0&&(a1==b1&&(a2==b2&&(a3==b3&&(a4==b4&&(a5==b5&&(a6==b6&&true)))))))&&(a7==b7&&true)):=by
  simp[eqV,eqVs,eq1]
 have h2:scEq ([a0,a1,a2,a3,a4,a5,a6,a7].map fun x=>AV.int .i64 x) ([b0,b1,b2,b3,b4,b5,b6,b7].map fun x=>AV.int .i64 x)=some (a0==b0&&(a1==b1&&(a2==b2&&(a3==b3&&(a4==b4&&(a5==b5&&(a6==b6&&(a7==b7&&true)))))))):=by
  simp[scEq]
 have h3:((a0==b0&&(a1==b1&&(a2==b2&&(a3==b3&&(a4==b4&&(a5==b5&&(a6==b6&&true)))))))&&(a7==b7&&true))=(a0==b0&&(a1==b1&&(a2==b2&&(a3==b3&&(a4==b4&&(a5==b5&&(a6==b6&&(a7==b7&&true)))))))):=by
  simp only[Bool.and_true,Bool.and_assoc]
 unfold keq keyK
 simp only[h1,h2]
 rw[if_pos h3,h3]
 congr 1
 rw[Bool.eq_iff_iff]
 simp only[Bool.and_eq_true,beq_iff_eq,Bool.true_eq,decide_eq_true_eq,List.cons.injEq,and_true]
theorem keyV_key{a:List Int}(ha:a.length=8):keyV kT (keyK a)=true:=by
 obtain⟨a0,a1,a2,a3,a4,a5,a6,a7,rfl⟩:=eight ha
 simp[keyV,keyK,eqV,eqVs,eq1,scV]
theorem find_memo{k:List Int}(hk:k.length=8):∀(M:List (List Int × Bool)) (i:Nat),(∀e∈M,e.1.length=8) ->
  (∃j e,M[j]?=some e/\e.1=k/\findK kT (keyK k) (M.map keyE) i=some (some (i+j)))\/(findK kT (keyK k) (M.map keyE) i=some none/\∀e∈M,e.1≠k):=by
 intro M
 induction M with
 |nil=>intro i _;right;exact⟨rfl,by simp⟩
 |cons e M ih=>
  intro i hM
  have h1:=keq_key hk (hM e (by simp))
  have h1':keq kT (keyK k) (keyE e)=some (decide (k=e.1)):=h1
  by_cases hke:k=e.1
  ·left
   refine⟨0,e,by simp,hke.symm,?_⟩
   simp only[List.map_cons,findK,h1',decide_eq_true hke,Nat.add_zero]
  ·have h2:findK kT (keyK k) ((e::M).map keyE) i=findK kT (keyK k) (M.map keyE) (i+1):=by
    simp only[List.map_cons,findK,h1',decide_eq_false hke]
   rw[h2]
   rcases ih (i+1) (fun e he=>hM e (by simp[he]))with⟨j,e',h3,h4,h5⟩|⟨h3,h4⟩
   ·left;exact⟨j+1,e',by simpa using h3,h4,by rw[h5];congr 2;omega⟩
   ·right
    refine⟨h3,fun x hx=>?_⟩
    rcases List.mem_cons.1 hx with rfl|hx
    ·exact Ne.symm hke
    ·exact h4 x hx
theorem mlook_memo{M:List (List Int × Bool)}{k:List Int}(hk:k.length=8)(hM:∀e∈M,e.1.length=8) :
  (∃e∈M,e.1=k/\mlook kT (M.map keyE) (M.map valE) (keyK k)=some (some (.bool e.2)))\/mlook kT (M.map keyE) (M.map valE) (keyK k)=some none:=by
 rcases find_memo hk M 0 hM with⟨j,e,h1,h2,h3⟩|⟨h1,_⟩
 ·left
  refine⟨e,List.mem_of_getElem? h1,h2,?_⟩
  rw[Nat.zero_add]at h3
  simp only[mlook,keyV_key hk,h3,List.getElem?_map,h1,Option.map_some,valE]
 ·right
  simp only[mlook,keyV_key hk,h1]
theorem mput_memo{M:List (List Int × Bool)}{k:List Int}(b:Bool)(hk:k.length=8)(hM:∀e∈M,e.1.length=8) :
  ∃M':List (List Int × Bool),mput kT (M.map keyE) (M.map valE) (keyK k) (.bool b)=some (M'.map keyE,M'.map valE)/\∀e∈M',e∈M\/e=(k,b):=by
 rcases find_memo hk M 0 hM with⟨j,e,h1,h2,h3⟩|⟨h1,_⟩
 ·rw[Nat.zero_add]at h3
  refine⟨M.set j (k,b),?_,fun x hx=>?_⟩
  ·simp only[mput,keyV_key hk,h3,List.map_set]
   congr 2
   ·have hj:=(List.getElem?_eq_some_iff.1 h1)
    obtain⟨hj1,hj2⟩:=hj
    apply List.ext_getElem (by simp)
    intro n h5 h6
    rw[List.getElem_set]
    split
    ·rename_i e;subst e;simp[keyE,hj2,h2]
    ·rfl
  ·rcases List.mem_or_eq_of_mem_set hx with h|h
   ·exact .inl h
   ·exact .inr h
 ·refine⟨M++[(k,b)],?_,fun x hx=>?_⟩
  ·simp only[mput,keyV_key hk,h1,List.map_append,List.map_cons,List.map_nil];rfl
  ·rcases List.mem_append.1 hx with h|h
   ·exact .inl h
   ·exact .inr (by simpa using h)
def insQ(G:Nat)(M:List (List Int × Bool)):List Res:=[.box false [.int .i64 (G:Int), .row 1], .mp false (M.map keyE) (M.map valE)]
def firstR(G n:Nat)(l:List (List Int))(g:Int):Prop:=(∃h:Nat,g=(h:Int)/\h<G/\tw2 h l/\knA (kn G (n-1)) l G h=true)\/(g = -1/\∀h,h<G->tw2 h l->knA (kn G (n-1)) l G h=false)
def W90(G:Nat)(l0:List (List Int))(n:Nat):Prop:=∀(A:List Int) (l:List (List Int)) (M:List (List Int × Bool)) (x:Int),x=(n:Int)->Gs G A->Gd l0 A l->MemoOk G l0 M ->
 FnW Try.prog 90 [.own 0 0, .isl (l.map fAV), .int .i64 x, .isl (A.map jAV)] (insQ G M) (fun r outs=>∃M',MemoOk G l0 M'/\r = .bool (kn G n l)/\outs=insQ G M')
def W63(G:Nat)(l0:List (List Int))(n:Nat):Prop:=∀(A:List Int) (l:List (List Int)) (M:List (List Int × Bool)) (x:Int),x=(n:Int)->Gs G A->Gd l0 A l->MemoOk G l0 M->(n=0->l.length<=1) ->
 FnW Try.prog 63 [.own 0 0, .isl (l.map fAV), .int .i64 x, .isl (A.map jAV)] (insQ G M) (fun r outs=>∃M' g,MemoOk G l0 M'/\r = .int .i64 g/\outs=insQ G M'/\firstR G n l g)
theorem leftN_lt{seen:List Nat}{n j:Nat}(h:j∈leftN seen n):(leftN (seen++[j]) n).length<(leftN seen n).length:=by
 obtain⟨h1,h2⟩:=leftN_mem.1 h
 unfold leftN
 refine Go.filter_lt _ _ (fun x hx=>?_) j ?_ ?_ _ (List.mem_range.2 h1)
 ·simp only[Bool.not_eq_true']at hx⊢
  cases hq:memN seen x with
  |false=>rfl
  |true=>
   have:=memN_iff.1 hq
   have h3:memN (seen++[j]) x=true:=memN_iff.2 (by simp[this])
   rw[h3]at hx;cases hx
 ·simp only[Bool.not_eq_true']
  cases hq:memN seen j with
  |false=>rfl
  |true=>exact absurd (memN_iff.1 hq) h2
 ·have:memN (seen++[j]) j=true:=memN_iff.2 (by simp)
  simp[this]
theorem av_zero(A t0:List Int)(i:Nat):av (A.take 0) t0 i=0:=by simp[av]
theorem gd_vals{G:Nat}{l0 l:List (List Int)}{A:List Int}(h7:G<=7)(hb:Base G l0)(hd:Gd l0 A l)(hl:l0.length<=1000000):l.length<=1000000/\∀g,g<G->∀t∈l,g<t.length/\t.length<=1000000/\(0<=t.getD g 0/\t.getD g 0<7):=by
 refine⟨Nat.le_trans hd.sub.length_le hl,fun g hg t ht=>?_⟩
 have a:=hb.2 t (hd.sub.subset ht)
 have b:=tk_lt a.2 g (by omega)
 exact⟨by omega,by omega,by omega⟩
theorem ans_two{l:List (List Int)}{g:Nat}:tw2 g l<->2<=(ansE g l).length:=by
 constructor
 ·rintro⟨a,ha,b,hb,hne⟩
  have h1:a.getD g 0∈(ansE g l).map (·.1):=key_ansE.2 ⟨a,ha,rfl⟩
  have h2:b.getD g 0∈(ansE g l).map (·.1):=key_ansE.2 ⟨b,hb,rfl⟩
  refine Classical.byContradiction fun hn=>?_
  have hl:((ansE g l).map (·.1)).length<=1:=by rw[List.length_map];omega
  generalize (ansE g l).map (·.1)=L at h1 h2 hl
  match L,hl with
  | [],_=>cases h1
  | [x],_=>
   simp only[List.mem_singleton]at h1 h2
   exact hne (by rw[h1,h2])
  |x::y::L,hl=>simp at hl
 ·intro h
  have hnd:=ansE_nd g l
  have hm:=fun(k:Int) (hk:k∈(ansE g l).map (·.1))=>key_ansE.1 hk
  have hl:2<=((ansE g l).map (·.1)).length:=by rw[List.length_map];exact h
  generalize (ansE g l).map (·.1)=L at hnd hm hl
  match L,hl with
  |x::y::L,_=>
   obtain⟨a,ha,ea⟩:=hm x (by simp)
   obtain⟨b,hb,eb⟩:=hm y (by simp)
   refine⟨a,ha,b,hb,fun e=>?_⟩
   have:x=y:=by rw[<- ea,<- eb,e]
   subst this
   simp at hnd
set_option maxHeartbeats 4000000 in
theorem w63{G:Nat}{l0:List (List Int)}(h7:G<=7)(hb:Base G l0)(hl0:l0.length<=1000000)(n:Nat)(hn:n<=100)(ih:∀m,m+1=n->W90 G l0 m):W63 G l0 n:=by
 intro A l M x hx hA hd hM h1l
 subst hx
 obtain⟨hl,hv⟩:=gd_vals h7 hb hd hl0
 have hAl:(A.map jAV).length=A.length:=by simp
 have hAG:=hA.len
 refine fnW 2 [] ok63 (by simp) rfl rfl ?_
 (conv=>whnf);(repeat'((first|apply bT|apply bF|apply bN|((first|apply bD|apply bEq|apply bNe)<;>intro hh<;>try(exfalso;omega))|refine wJ ?_|refine nJ ?_)<;>conv=>whnf))
 refine loop_i (α :=Nat × List (List Int × Bool)) (fun q=>[(17, .int .i64 q.1),(16, .int .i64 (G:Int)),(3, .isl (A.map jAV)),(2, .int .i64 (n:Int)),(1, .isl (l.map fAV)),(0, .own 2 0)]) (fun q=>[.fresh, .fresh, .box false [.int .i64 (G:Int), .row 3], .mp false (q.2.map keyE) (q.2.map valE)]) (fun q=>q.1<=G/\MemoOk G l0 q.2/\∀h,h<q.1->tw2 h l->knA (kn G (n-1)) l G h=false) (fun q=>G-q.1) (0,M) mI ⟨by simp,hM,fun h hh=>by simp at hh⟩ ?_
 rintro⟨k,M1⟩ ⟨h1,hM1,hno⟩
 dsimp only at h1 hM1 hno
 conv=>whnf
 refine bD (fun h3=>?_) (fun h3=>?_)
 ·have hk:k<G:=by omega
  have hvk:=hv k hk
  have e1:=p54 l k hl (fun t ht=>⟨(hvk t ht).1,(hvk t ht).2.1⟩) (fun t ht=>(hvk t ht).2.2)
  have hE:((ansE k l).map keyA).length=(ansE k l).length:=by simp
  by_cases h2:2<=(ansE k l).length
  ·have ht2:=ans_two.2 h2
   have hkA:=tw2_not hd.agr ht2
   obtain⟨m,rfl⟩:∃m,n=m+1:=by
    cases n with
    |zero=>
     exfalso
     have h0:=h1l rfl
     obtain⟨a,ha,b,hb',hne⟩:=ht2
     have hll:l.length<=1:=h0
     match l,hll with
     | [],_=>cases ha
     | [t],_=>
      simp only[List.mem_singleton]at ha hb'
      exact hne (by rw[ha,hb'])
     |_::_::_,h=>simp at h
    |succ m=>exact⟨m,rfl⟩
   have hW:=ih m rfl
   have e2:=p91 A (k:Int) (by omega)
   have hEm:∀e∈ansE k l,Gd l0 (A++[(k:Int)]) e.2/\e.2=whereL l (k:Int) e.1:=fun e he=>by
    obtain⟨u,ts⟩:=e
    obtain⟨q1,q2⟩:=mem_ansE.1 he
    subst q1
    exact⟨hd.wh k q2,rfl⟩
   have hGs:Gs G (A++[(k:Int)]):=hA.add hk hkA
   have hfin:(∀e∈ansE k l,kn G m e.2=true)->knA (kn G m) l G k=true:=fun hall=>knA_iff.2 fun u hu=>by
    by_cases he:whereL l (k:Int) (u:Int)=[]
    ·rw[he];exact kn_one (by simp)
    ·exact hall ((u:Int),whereL l (k:Int) (u:Int)) (mem_ansE.2 ⟨rfl,he⟩)
   have hbad:∀e∈ansE k l,kn G m e.2=false->knA (kn G m) l G k=false:=fun e he hf=>by
    have hq:=(hEm e he).2
    obtain⟨t,ht⟩:=List.exists_mem_of_ne_nil _ (hEm e he).1.ne
    rw[hq]at ht
    have htw:=mem_where.1 ht
    obtain⟨u,hu,eu⟩:=val_nat (hb.2 t (hd.sub.subset htw.1)) hk
    rw[Bool.eq_false_iff]
    intro hc
    have:=knA_iff.1 hc u hu
    rw[<- eu]at this
    rw[Int.toNat_natCast]at htw
    rw[hq,<- htw.2]at hf
    rw[hf]at this;cases this
   generalize ansE k l=E at e1 hE h2 hEm hfin hbad
   (conv=>whnf);(repeat'((first|apply bT|apply bF|apply bN|((first|apply bD|apply bEq|apply bNe)<;>intro hh<;>try(exfalso;omega))|refine e1.zq rfl rfl ?_|refine wJ ?_|refine nJ ?_)<;>conv=>whnf))
   refine loop_i (α :=List Nat × List AV × List (List Int × Bool)) (fun q=>[(27, .row 0),(17, .int .i64 k),(16, .int .i64 (G:Int)),(9, .int .i64 k),(3, .isl (A.map jAV)),(2, .int .i64 ((m+1:Nat):Int)),(1, .isl (l.map fAV)),(0, .own 2 0)]) (fun q=>[.itr (E.map keyA) (E.map valA) q.1 q.2.1, .fresh, .box false [.int .i64 (G:Int), .row 3], .mp false (q.2.2.map keyE) (q.2.2.map valE)]) (fun q=>MemoOk G l0 q.2.2/\∀j∈q.1,∀e,E[j]?=some e->kn G m e.2=true) (fun q=>(leftN q.1 E.length).length) ([],[],M1) mI ⟨hM1,fun j hj=>by cases hj⟩ ?_
   rintro⟨seen,last,M2⟩ ⟨hM2,hsn⟩
   dsimp only at hM2 hsn
   conv=>whnf
   refine nxI (fun j kv uv h5 h6 h7'=>?_) (fun h5=>?_)
   ·obtain⟨e,he,rfl⟩:∃e,E[j]?=some e/\keyA e=kv:=by simpa using h5
    obtain rfl:valA e=uv:=by
     rw[List.getElem?_map,he]at h6;exact Option.some.inj h6
    have hem:=List.mem_of_getElem? he
    have hjl:j<E.length:=(List.getElem?_eq_some_iff.1 he).1
    have hcall:=hW (A++[(k:Int)]) e.2 M2 (((m+1:Nat):Int)-1) (by omega) hGs (hEm e hem).1 hM2
    (conv=>whnf);(repeat'((first|apply bT|apply bF|apply bN|((first|apply bD|apply bEq|apply bNe)<;>intro hh<;>try(exfalso;omega))|refine e2.zq rfl rfl ?_|refine wJ ?_|refine nJ ?_)<;>conv=>whnf))
    refine hcall.callwq [2,3] rfl rfl ⟨rfl,rfl,trivial⟩ rfl rfl rfl rfl (fun r outs hr=>?_)
    obtain⟨M3,hM3,rfl,rfl⟩:=hr
    refine⟨⟨rfl,rfl,rfl,rfl⟩,?_⟩
    cases hkn:kn G m e.2 with
    |true=>
     (conv=>whnf);(repeat'((first|apply bT|apply bF|apply bN|((first|apply bD|apply bEq|apply bNe)<;>intro hh<;>try(exfalso;omega))|refine wJ ?_|refine nJ ?_)<;>conv=>whnf))
     exact⟨(seen++[j],[keyA e,valA e],M3),mI,⟨hM3,fun i hi e' he'=>by
      rcases List.mem_append.1 hi with hi|hi
      ·exact hsn i hi e' he'
      ·simp only[List.mem_singleton]at hi;subst hi
       rw[he]at he';cases he';exact hkn⟩,leftN_lt (leftN_mem.2 ⟨hjl,h7'⟩)⟩
    |false=>
     (conv=>whnf);(repeat'((first|apply bT|apply bF|apply bN|((first|apply bD|apply bEq|apply bNe)<;>intro hh<;>try(exfalso;omega))|refine wJ ?_|refine nJ ?_)<;>conv=>whnf))
     exact⟨(k+1,M3),mI,⟨by dsimp only;omega,hM3,fun h hh ht=>by
      dsimp only at hh
      by_cases e0:h=k
      ·subst e0;exact hbad e hem hkn
      ·exact hno h (by omega) ht⟩,by dsimp only;omega⟩
   ·have hall:∀e∈E,kn G m e.2=true:=fun e he=>by
     obtain⟨j,hj,ej⟩:=List.getElem_of_mem he
     exact hsn j (h5 j (by simpa using hj)) e (by rw[List.getElem?_eq_getElem hj,ej])
    (conv=>whnf);(repeat'((first|apply bT|apply bF|apply bN|((first|apply bD|apply bEq|apply bNe)<;>intro hh<;>try(exfalso;omega))|refine wJ ?_|refine nJ ?_)<;>conv=>whnf))
    all_goals exact⟨M2,(k:Int),hM2,rfl,rfl, .inl ⟨k,rfl,hk,ht2,hfin hall⟩⟩
  ·have ht2:¬tw2 k l:=fun h=>h2 (ans_two.1 h)
   (conv=>whnf);(repeat'((first|apply bT|apply bF|apply bN|((first|apply bD|apply bEq|apply bNe)<;>intro hh<;>try(exfalso;omega))|refine e1.zq rfl rfl ?_|refine wJ ?_|refine nJ ?_)<;>conv=>whnf))
   exact⟨(k+1,M1),mI,⟨by dsimp only;omega,hM1,fun h hh ht=>by
    dsimp only at hh
    by_cases e0:h=k
    ·subst e0;exact absurd ht ht2
    ·exact hno h (by omega) ht⟩,by dsimp only;omega⟩
 ·have:k=G:=by omega
  subst this
  (conv=>whnf);(repeat'((first|apply bT|apply bF|apply bN|((first|apply bD|apply bEq|apply bNe)<;>intro hh<;>try(exfalso;omega))|refine wJ ?_|refine nJ ?_)<;>conv=>whnf))
  all_goals exact⟨M1, -1,hM1,rfl,rfl, .inr ⟨rfl,hno⟩⟩
set_option maxHeartbeats 4000000 in
theorem w90{G:Nat}{l0:List (List Int)}(h7:G<=7)(hb:Base G l0)(hl0:l0.length<=1000000)(n:Nat)(hn:n<=100)(ih:n≠0->W63 G l0 n):W90 G l0 n:=by
 intro A l M x hx hA hd hM
 subst hx
 obtain⟨hl,hv⟩:=gd_vals h7 hb hd hl0
 have hbl:=hb.sub hd.sub
 have hAl:(A.map jAV).length=A.length:=by simp
 have hLl:(l.map fAV).length=l.length:=by simp
 have hAG:=hA.len
 refine fnW 1 [] ok90 (by simp) rfl rfl ?_
 by_cases h1:l.length<=n+1\/G-A.length<=n+1
 ·have hk:kn G n l=true:=by
   rcases h1 with h1|h1
   ·exact kn_len n h1 hbl.1 hbl.2
   ·exact kn_set n hbl hA hd.agr (by omega)
  rw[hk]
  (conv=>whnf);(repeat'((first|apply bT|apply bF|apply bN|((first|apply bD|apply bEq|apply bNe)<;>intro hh<;>try(exfalso;omega))|refine wJ ?_|refine nJ ?_)<;>conv=>whnf))
  all_goals exact⟨M,hM,rfl,rfl⟩
 ·have e1:=p101 (G-A.length) n ((G:Int)-((A.map jAV).length:Int)) (n:Int) (by omega) rfl (by omega) (by omega)
  by_cases h2:ansOf (G-A.length) n<l.length
  ·have hk:kn G n l=false:=by
    rw[Bool.eq_false_iff]
    intro hc
    have:=kn_cnt n hbl hA hd.agr (show A.length+(G-A.length)=G by omega) (by omega) hc
    omega
   rw[hk]
   (conv=>whnf);(repeat'((first|apply bT|apply bF|apply bN|((first|apply bD|apply bEq|apply bNe)<;>intro hh<;>try(exfalso;omega))|refine e1.cq rfl rfl ?_|refine wJ ?_|refine nJ ?_)<;>conv=>whnf))
   all_goals exact⟨M,hM,rfl,rfl⟩
  ·have hn0:n≠0:=fun e=>by subst e;simp[ansOf]at h2;omega
   have hw:=ih hn0
   have hmv:=memo_val hb h7 hA hd n
   have g0:=getF l 0 (by omega)
   have hmem:=head_mem hd.ne
   have hgd:=hd
   have ht0:=(hbl.2 _ hmem)
   have hpos:∀i,i<G->0<=(l.getD 0 []).getD i 0/\(l.getD 0 []).getD i 0<7:=fun i hi=>((hv i hi) _ hmem).2.2
   generalize l.getD 0 []=t0 at hmv g0 hmem ht0 hpos
   have hT:(t0.map jAV).length=G:=by simp[ht0.1]
   (conv=>whnf);(repeat'((first|apply bT|apply bF|apply bN|((first|apply bD|apply bEq|apply bNe)<;>intro hh<;>try(exfalso;omega))|refine e1.cq rfl rfl ?_|refine wJ ?_|refine nJ ?_)<;>conv=>whnf))
   refine loop_i (α :=Nat) (fun k=>[(43, .int .i64 k),(42, .int .i64 ↑(A.map jAV).length),(41, .isl (A.map jAV)),(10, .own 0 0),(3, .isl (A.map jAV)),(2, .int .i64 (n:Int)),(1, .isl (l.map fAV)),(0, .own 1 0)]) (fun k=>[.box false [.int .i64 (av (A.take k) t0 0), .int .i64 (av (A.take k) t0 1), .int .i64 (av (A.take k) t0 2), .int .i64 (av (A.take k) t0 3), .int .i64 (av (A.take k) t0 4), .int .i64 (av (A.take k) t0 5), .int .i64 (av (A.take k) t0 6), .int .i64 (n:Int)], .box false [.int .i64 (G:Int), .row 2], .mp false (M.map keyE) (M.map valE)]) (fun k=>k<=A.length) (fun k=>A.length-k) 0 (by simp only[av_zero];exact mI) (by omega) ?_
   rintro k h3
   conv=>whnf
   refine bD (fun h4=>?_) (fun h4=>?_)
   ·have hk:k<A.length:=by omega
    have g1:=getM jAV A k hk
    have hgb:=hA.ok _ (List.getElem_mem hk)
    have hpg:=hpos A[k].toNat (by omega)
    have eA:A.take (k+1)=A.take k++[A[k]]:=List.take_succ_eq_append_getElem hk
    generalize A[k]=g at g1 hgb hpg eA
    have hc:g=0\/g=1\/g=2\/g=3\/g=4\/g=5\/g=6:=by omega
    rcases hc with rfl|rfl|rfl|rfl|rfl|rfl|rfl
    ·have g2:=getJ t0 0 (by omega)
     have hpi:=hpos 0 (by omega)
     have f0:av (A.take (k+1)) t0 0=1+t0.getD 0 0:=by rw[eA,av_suc];rw[if_pos (by decide)]
     have f1:av (A.take (k+1)) t0 1=av (A.take k) t0 1:=by rw[eA,av_suc];rw[if_neg (by decide)]
     have f2:av (A.take (k+1)) t0 2=av (A.take k) t0 2:=by rw[eA,av_suc];rw[if_neg (by decide)]
     have f3:av (A.take (k+1)) t0 3=av (A.take k) t0 3:=by rw[eA,av_suc];rw[if_neg (by decide)]
     have f4:av (A.take (k+1)) t0 4=av (A.take k) t0 4:=by rw[eA,av_suc];rw[if_neg (by decide)]
     have f5:av (A.take (k+1)) t0 5=av (A.take k) t0 5:=by rw[eA,av_suc];rw[if_neg (by decide)]
     have f6:av (A.take (k+1)) t0 6=av (A.take k) t0 6:=by rw[eA,av_suc];rw[if_neg (by decide)]
     (conv=>whnf);(repeat'((first|apply bT|apply bF|apply bN|((first|apply bD|apply bEq|apply bNe)<;>intro hh<;>try(exfalso;omega))|refine iaJ g1 ?_|refine iaJ g0 ?_|refine iaJ g2 ?_|refine nI (by decide) ?_|refine wJ ?_|refine nJ ?_)<;>conv=>whnf))
     exact⟨k+1,by rw[f0,f1,f2,f3,f4,f5,f6];exact mI,by omega,by omega⟩
    ·have g2:=getJ t0 1 (by omega)
     have hpi:=hpos 1 (by omega)
     have f0:av (A.take (k+1)) t0 0=av (A.take k) t0 0:=by rw[eA,av_suc];rw[if_neg (by decide)]
     have f1:av (A.take (k+1)) t0 1=1+t0.getD 1 0:=by rw[eA,av_suc];rw[if_pos (by decide)]
     have f2:av (A.take (k+1)) t0 2=av (A.take k) t0 2:=by rw[eA,av_suc];rw[if_neg (by decide)]
     have f3:av (A.take (k+1)) t0 3=av (A.take k) t0 3:=by rw[eA,av_suc];rw[if_neg (by decide)]
     have f4:av (A.take (k+1)) t0 4=av (A.take k) t0 4:=by rw[eA,av_suc];rw[if_neg (by decide)]
     have f5:av (A.take (k+1)) t0 5=av (A.take k) t0 5:=by rw[eA,av_suc];rw[if_neg (by decide)]
     have f6:av (A.take (k+1)) t0 6=av (A.take k) t0 6:=by rw[eA,av_suc];rw[if_neg (by decide)]
     (conv=>whnf);(repeat'((first|apply bT|apply bF|apply bN|((first|apply bD|apply bEq|apply bNe)<;>intro hh<;>try(exfalso;omega))|refine iaJ g1 ?_|refine iaJ g0 ?_|refine iaJ g2 ?_|refine nI (by decide) ?_|refine wJ ?_|refine nJ ?_)<;>conv=>whnf))
     exact⟨k+1,by rw[f0,f1,f2,f3,f4,f5,f6];exact mI,by omega,by omega⟩
    ·have g2:=getJ t0 2 (by omega)
     have hpi:=hpos 2 (by omega)
     have f0:av (A.take (k+1)) t0 0=av (A.take k) t0 0:=by rw[eA,av_suc];rw[if_neg (by decide)]
     have f1:av (A.take (k+1)) t0 1=av (A.take k) t0 1:=by rw[eA,av_suc];rw[if_neg (by decide)]
     have f2:av (A.take (k+1)) t0 2=1+t0.getD 2 0:=by rw[eA,av_suc];rw[if_pos (by decide)]
     have f3:av (A.take (k+1)) t0 3=av (A.take k) t0 3:=by rw[eA,av_suc];rw[if_neg (by decide)]
     have f4:av (A.take (k+1)) t0 4=av (A.take k) t0 4:=by rw[eA,av_suc];rw[if_neg (by decide)]
     have f5:av (A.take (k+1)) t0 5=av (A.take k) t0 5:=by rw[eA,av_suc];rw[if_neg (by decide)]
     have f6:av (A.take (k+1)) t0 6=av (A.take k) t0 6:=by rw[eA,av_suc];rw[if_neg (by decide)]
     (conv=>whnf);(repeat'((first|apply bT|apply bF|apply bN|((first|apply bD|apply bEq|apply bNe)<;>intro hh<;>try(exfalso;omega))|refine iaJ g1 ?_|refine iaJ g0 ?_|refine iaJ g2 ?_|refine nI (by decide) ?_|refine wJ ?_|refine nJ ?_)<;>conv=>whnf))
     exact⟨k+1,by rw[f0,f1,f2,f3,f4,f5,f6];exact mI,by omega,by omega⟩
    ·have g2:=getJ t0 3 (by omega)
     have hpi:=hpos 3 (by omega)
     have f0:av (A.take (k+1)) t0 0=av (A.take k) t0 0:=by rw[eA,av_suc];rw[if_neg (by decide)]
     have f1:av (A.take (k+1)) t0 1=av (A.take k) t0 1:=by rw[eA,av_suc];rw[if_neg (by decide)]
     have f2:av (A.take (k+1)) t0 2=av (A.take k) t0 2:=by rw[eA,av_suc];rw[if_neg (by decide)]
     have f3:av (A.take (k+1)) t0 3=1+t0.getD 3 0:=by rw[eA,av_suc];rw[if_pos (by decide)]
     have f4:av (A.take (k+1)) t0 4=av (A.take k) t0 4:=by rw[eA,av_suc];rw[if_neg (by decide)]
     have f5:av (A.take (k+1)) t0 5=av (A.take k) t0 5:=by rw[eA,av_suc];rw[if_neg (by decide)]
     have f6:av (A.take (k+1)) t0 6=av (A.take k) t0 6:=by rw[eA,av_suc];rw[if_neg (by decide)]
     (conv=>whnf);(repeat'((first|apply bT|apply bF|apply bN|((first|apply bD|apply bEq|apply bNe)<;>intro hh<;>try(exfalso;omega))|refine iaJ g1 ?_|refine iaJ g0 ?_|refine iaJ g2 ?_|refine nI (by decide) ?_|refine wJ ?_|refine nJ ?_)<;>conv=>whnf))
     exact⟨k+1,by rw[f0,f1,f2,f3,f4,f5,f6];exact mI,by omega,by omega⟩
    ·have g2:=getJ t0 4 (by omega)
     have hpi:=hpos 4 (by omega)
     have f0:av (A.take (k+1)) t0 0=av (A.take k) t0 0:=by rw[eA,av_suc];rw[if_neg (by decide)]
     have f1:av (A.take (k+1)) t0 1=av (A.take k) t0 1:=by rw[eA,av_suc];rw[if_neg (by decide)]
     have f2:av (A.take (k+1)) t0 2=av (A.take k) t0 2:=by rw[eA,av_suc];rw[if_neg (by decide)]
     have f3:av (A.take (k+1)) t0 3=av (A.take k) t0 3:=by rw[eA,av_suc];rw[if_neg (by decide)]
     have f4:av (A.take (k+1)) t0 4=1+t0.getD 4 0:=by rw[eA,av_suc];rw[if_pos (by decide)]
     have f5:av (A.take (k+1)) t0 5=av (A.take k) t0 5:=by rw[eA,av_suc];rw[if_neg (by decide)]
     have f6:av (A.take (k+1)) t0 6=av (A.take k) t0 6:=by rw[eA,av_suc];rw[if_neg (by decide)]
     (conv=>whnf);(repeat'((first|apply bT|apply bF|apply bN|((first|apply bD|apply bEq|apply bNe)<;>intro hh<;>try(exfalso;omega))|refine iaJ g1 ?_|refine iaJ g0 ?_|refine iaJ g2 ?_|refine nI (by decide) ?_|refine wJ ?_|refine nJ ?_)<;>conv=>whnf))
     exact⟨k+1,by rw[f0,f1,f2,f3,f4,f5,f6];exact mI,by omega,by omega⟩
    ·have g2:=getJ t0 5 (by omega)
     have hpi:=hpos 5 (by omega)
     have f0:av (A.take (k+1)) t0 0=av (A.take k) t0 0:=by rw[eA,av_suc];rw[if_neg (by decide)]
     have f1:av (A.take (k+1)) t0 1=av (A.take k) t0 1:=by rw[eA,av_suc];rw[if_neg (by decide)]
     have f2:av (A.take (k+1)) t0 2=av (A.take k) t0 2:=by rw[eA,av_suc];rw[if_neg (by decide)]
     have f3:av (A.take (k+1)) t0 3=av (A.take k) t0 3:=by rw[eA,av_suc];rw[if_neg (by decide)]
     have f4:av (A.take (k+1)) t0 4=av (A.take k) t0 4:=by rw[eA,av_suc];rw[if_neg (by decide)]
     have f5:av (A.take (k+1)) t0 5=1+t0.getD 5 0:=by rw[eA,av_suc];rw[if_pos (by decide)]
     have f6:av (A.take (k+1)) t0 6=av (A.take k) t0 6:=by rw[eA,av_suc];rw[if_neg (by decide)]
     (conv=>whnf);(repeat'((first|apply bT|apply bF|apply bN|((first|apply bD|apply bEq|apply bNe)<;>intro hh<;>try(exfalso;omega))|refine iaJ g1 ?_|refine iaJ g0 ?_|refine iaJ g2 ?_|refine nI (by decide) ?_|refine wJ ?_|refine nJ ?_)<;>conv=>whnf))
     exact⟨k+1,by rw[f0,f1,f2,f3,f4,f5,f6];exact mI,by omega,by omega⟩
    ·have g2:=getJ t0 6 (by omega)
     have hpi:=hpos 6 (by omega)
     have f0:av (A.take (k+1)) t0 0=av (A.take k) t0 0:=by rw[eA,av_suc];rw[if_neg (by decide)]
     have f1:av (A.take (k+1)) t0 1=av (A.take k) t0 1:=by rw[eA,av_suc];rw[if_neg (by decide)]
     have f2:av (A.take (k+1)) t0 2=av (A.take k) t0 2:=by rw[eA,av_suc];rw[if_neg (by decide)]
     have f3:av (A.take (k+1)) t0 3=av (A.take k) t0 3:=by rw[eA,av_suc];rw[if_neg (by decide)]
     have f4:av (A.take (k+1)) t0 4=av (A.take k) t0 4:=by rw[eA,av_suc];rw[if_neg (by decide)]
     have f5:av (A.take (k+1)) t0 5=av (A.take k) t0 5:=by rw[eA,av_suc];rw[if_neg (by decide)]
     have f6:av (A.take (k+1)) t0 6=1+t0.getD 6 0:=by rw[eA,av_suc];rw[if_pos (by decide)]
     (conv=>whnf);(repeat'((first|apply bT|apply bF|apply bN|((first|apply bD|apply bEq|apply bNe)<;>intro hh<;>try(exfalso;omega))|refine iaJ g1 ?_|refine iaJ g0 ?_|refine iaJ g2 ?_|refine nI (by decide) ?_|refine wJ ?_|refine nJ ?_)<;>conv=>whnf))
     exact⟨k+1,by rw[f0,f1,f2,f3,f4,f5,f6];exact mI,by omega,by omega⟩
   ·have:k=A.length:=by omega
    subst this
    rw[List.take_length]
    have hk8:(keyL A t0 n).length=8:=rfl
    have hM8:∀e∈M,e.1.length=8:=fun e he=>(hM e he).1
    rcases mlook_memo hk8 hM8 with⟨e,he,hek,hlk⟩|hlk
    ·have hval:e.2=kn G n l:=by rw[(hM e he).2,hek];exact hmv
     rw[hval]at hlk
     (conv=>whnf);(repeat'((first|apply bT|apply bF|apply bN|((first|apply bD|apply bEq|apply bNe)<;>intro hh<;>try(exfalso;omega))|refine lkI hlk ?_|refine wJ ?_|refine nJ ?_)<;>conv=>whnf))
     all_goals exact⟨M,hM,rfl,rfl⟩
    ·(conv=>whnf);(repeat'((first|apply bT|apply bF|apply bN|((first|apply bD|apply bEq|apply bNe)<;>intro hh<;>try(exfalso;omega))|refine lkI hlk ?_|refine wJ ?_|refine nJ ?_)<;>conv=>whnf))
     refine(hw A l M (n:Int) rfl hA hgd hM (fun e=>absurd e hn0)).callwq [1,2] rfl rfl ⟨rfl,rfl,trivial⟩ rfl rfl rfl rfl (fun r outs hr=>?_)
     obtain⟨M1,g,hM1,rfl,rfl,hf⟩:=hr
     refine⟨⟨rfl,rfl,rfl,rfl⟩,?_⟩
     have hb1:(g != -1)=kn G n l:=by
      obtain⟨m,rfl⟩:∃m,n=m+1:=⟨n-1,by omega⟩
      rcases hf with⟨h,rfl,hh,ht2,hkA⟩|⟨rfl,hno⟩
      ·have:kn G (m+1) l=true:=kn_suc.2 (.inr ⟨h,hh,hkA⟩)
       rw[this,bne_iff_ne];omega
      ·have:kn G (m+1) l=false:=by
        rw[Bool.eq_false_iff]
        intro hc
        obtain⟨h,hh,ht2,hkA⟩:=kn_two hbl.2 (by omega) hc
        rw[Nat.add_sub_cancel]at hno
        rw[hno h hh ht2]at hkA;cases hkA
       rw[this];rfl
     have hM18:∀e∈M1,e.1.length=8:=fun e he=>(hM1 e he).1
     obtain⟨M2,hpu,hM2⟩:=mput_memo (g != -1) hk8 hM18
     have hM2':MemoOk G l0 M2:=fun e he=>by
      rcases hM2 e he with he|rfl
      ·exact hM1 e he
      ·exact⟨hk8,by dsimp only;rw[hb1];exact hmv.symm⟩
     rw[<- hb1]
     (conv=>whnf);(repeat'((first|apply bT|apply bF|apply bN|((first|apply bD|apply bEq|apply bNe)<;>intro hh<;>try(exfalso;omega))|refine mpI hpu ?_|refine wJ ?_|refine nJ ?_)<;>conv=>whnf))
     all_goals exact⟨M2,hM2',rfl,rfl⟩
theorem w_all{G:Nat}{l0:List (List Int)}(h7:G<=7)(hb:Base G l0)(hl0:l0.length<=1000000):∀n,n<=100->W90 G l0 n:=by
 intro n
 induction n with
 |zero=>intro _;exact w90 h7 hb hl0 0 (by omega) (fun e=>absurd rfl e)
 |succ n ih=>
  intro hn
  exact w90 h7 hb hl0 (n+1) hn fun _=>w63 h7 hb hl0 (n+1) hn fun m hm=>by
   obtain rfl:m=n:=by omega
   exact ih (by omega)
theorem w61(G:Nat):FnW Try.prog 61 [.int .i64 (G:Int)] [] (fun r outs=>r = .own 0 0/\outs=insQ G []):=by
 refine fnW 2 [1,0] ok61 (by simp) rfl rfl ?_
 (conv=>whnf);(repeat'((first|apply bT|apply bF|apply bN|((first|apply bD|apply bEq|apply bNe)<;>intro hh<;>try(exfalso;omega))|refine wJ ?_|refine nJ ?_)<;>conv=>whnf))
 all_goals exact⟨rfl,rfl⟩
theorem qn_le{G:Nat}{l:List (List Int)}(hb:Base G l):kn G (G-1) l=true:=kn_gs hb.1 hb.2
theorem flat_keys(M:List (List Int × Bool)):AV.flatL (M.map keyE)=true/\AV.flatL (M.map valE)=true:=by
 have h8:∀l:List Int,AV.flatL (l.map fun x=>AV.int .i64 x)=true:=fun l=>by
  induction l with
  |nil=>rfl
  |cons x l ih=>simp only[List.map_cons,AV.flatL,AV.flat,ih,Bool.and_self]
 induction M with
 |nil=>exact⟨rfl,rfl⟩
 |cons e M ih=>
  simp only[List.map_cons,AV.flatL,keyE,keyK,valE,AV.flat,h8,ih.1,ih.2,Bool.and_self]
  exact⟨by simp[keyE,keyK],by simp[valE]⟩
theorem insQ_flat(G:Nat)(M:List (List Int × Bool)):resFlat (insQ G M).length (insQ G M)=true:=by
 simp only[insQ,resFlat,Res.flatB,AV.flatBL,AV.flatB,(flat_keys M).1,(flat_keys M).2]
 rfl
theorem w62{G:Nat}{l:List (List Int)}(h7:G<=7)(hb:Base G l)(hl:l.length<=1000000)(h0:l≠[]):FnW Try.prog 62 [.own 0 0, .isl (l.map fAV)] (insQ G []) (fun r outs=>∃M,MemoOk G l M/\r = .int .i64 (qn G l:Nat)/\outs=insQ G M):=by
 have hw:=w_all h7 hb hl
 have hkn:=qn_le hb
 have hq:=qn_spec hkn
 have hgs:Gs G []:=⟨by simp,by simp⟩
 refine fnW 0 [] ok62 (by simp) rfl rfl ?_
 (conv=>whnf);(repeat'((first|apply bT|apply bF|apply bN|((first|apply bD|apply bEq|apply bNe)<;>intro hh<;>try(exfalso;omega))|refine wJ ?_|refine nJ ?_)<;>conv=>whnf))
 refine loop_i (α :=Nat × List (List Int × Bool)) (fun q=>[(5, .int .i64 q.1),(1, .isl (l.map fAV)),(0, .own 0 0)]) (fun q=>insQ G q.2) (fun q=>q.1<=qn G l/\MemoOk G l q.2) (fun q=>qn G l-q.1) (0,[]) mI ⟨by simp,fun e he=>by cases he⟩ ?_
 rintro⟨k,M⟩ ⟨h1,hM⟩
 dsimp only at h1 hM
 have hcall:=hw k (by omega) [] l M (k:Int) rfl hgs (Gd.all l h0) hM
 (conv=>whnf);(repeat'((first|apply bT|apply bF|apply bN|((first|apply bD|apply bEq|apply bNe)<;>intro hh<;>try(exfalso;omega))|refine wJ ?_|refine nJ ?_)<;>conv=>whnf))
 refine hcall.lendwq [0,1] rfl rfl ⟨rfl,rfl,trivial⟩ rfl rfl ⟨.inl ⟨rfl,rfl⟩, .inr rfl, .inr rfl, .inr rfl,trivial⟩ (fun r outs hr=>?_)
 obtain⟨M1,hM1,rfl,rfl⟩:=hr
 refine⟨⟨rfl,rfl,rfl,rfl,insQ_flat _ _,rfl⟩,?_⟩
 cases hk:kn G k l with
 |true=>
  have e:k=qn G l:=Classical.byContradiction fun hn=>by
   have:=hq.2.2 k (by omega)
   rw[hk]at this;cases this
  subst e
  (conv=>whnf);(repeat'((first|apply bT|apply bF|apply bN|((first|apply bD|apply bEq|apply bNe)<;>intro hh<;>try(exfalso;omega))|refine wJ ?_|refine nJ ?_)<;>conv=>whnf))
  all_goals exact⟨M1,hM1,rfl,rfl⟩
 |false=>
  have hlt:k<qn G l:=by
   refine Classical.byContradiction fun hn=>?_
   have:k=qn G l:=by omega
   rw[this,hq.2.1]at hk;cases hk
  (conv=>whnf);(repeat'((first|apply bT|apply bF|apply bN|((first|apply bD|apply bEq|apply bNe)<;>intro hh<;>try(exfalso;omega))|refine wJ ?_|refine nJ ?_)<;>conv=>whnf))
  exact⟨(k+1,M1),mI,⟨by dsimp only;omega,hM1⟩,by dsimp only;omega⟩
theorem pt_kn{s:Stand}(h0:0<=s.gs)(h7:s.gs<=7)(n:Nat):kn s.gs.toNat n (pt s)=kn s.gs.toNat n (truths s):=kn_perm (pt_perm h0 h7) (pt_ok h0 h7)
theorem pt_base{s:Stand}(h0:0<=s.gs)(h7:s.gs<=7):Base s.gs.toNat (pt s):=⟨nd_pt s,pt_ok h0 h7⟩
theorem p26(s:Stand)(hl:s.ws.length<=1000000)(hw:∀w∈s.ws,w.am.length<=1000000):FnA Try.prog 26 [.agg s.cells] (· = .tup [.int .i64 (if s.eG (-1000000)=0 then qn s.gs.toNat (truths s) else 0), .int .i64 (s.eG (-1000000))]):=by
 have e1:=p52 s true hl hw
 rw[<- oE_true]
 refine fnA 4 ok26 (by simp) ?_
 by_cases h:s.oE true=0
 ·have a:=oE_ok h
  have hc:=chk_ok.1 a.1
  rw[h,if_pos rfl]at e1
  rw[h,if_pos rfl]
  have hP1:=pt_small hc.1.2
  have hPl:=pt_len hc.1.1 hc.1.2
  have hB:=pt_base hc.1.1 hc.1.2
  have hq:qn s.gs.toNat (truths s)=qn s.gs.toNat (pt s):=(qn_congr (pt_kn hc.1.1 hc.1.2)).symm
  rw[hq]
  obtain⟨G,hG⟩:∃G:Nat,s.gs=(G:Int):=⟨s.gs.toNat,by omega⟩
  have hGt:s.gs.toNat=G:=by omega
  rw[hGt]at hB⊢
  have hne:pt s≠[]:=fun e=>a.2.2 (by rw[<- hPl,e];rfl)
  generalize pt s=P at e1 hP1 hB hne
  have e2:=w62 (by omega) hB hP1 hne
  have e3:FnW Try.prog 61 [.int .i64 s.gs] [] (fun r outs=>r = .own 0 0/\outs=insQ G []):=by rw[hG];exact w61 G
  (conv=>whnf);(repeat'((first|apply bT|apply bF|apply bN|((first|apply bD|apply bEq|apply bNe)<;>intro hh<;>try(exfalso;omega))|refine e1.zq rfl rfl ?_|refine wJ ?_|refine nJ ?_)<;>conv=>whnf))
  refine e3.callwq [] rfl rfl trivial rfl rfl rfl rfl (fun r outs hr=>?_)
  obtain⟨rfl,rfl⟩:=hr
  refine⟨⟨rfl,rfl,rfl,rfl⟩,?_⟩
  (conv=>whnf);(repeat'((first|apply bT|apply bF|apply bN|((first|apply bD|apply bEq|apply bNe)<;>intro hh<;>try(exfalso;omega))|refine wJ ?_|refine nJ ?_)<;>conv=>whnf))
  refine e2.callwq [2,3] rfl rfl ⟨rfl,rfl,trivial⟩ rfl rfl rfl rfl (fun r outs hr=>?_)
  obtain⟨M,hM,rfl,rfl⟩:=hr
  refine⟨⟨rfl,rfl,rfl,rfl⟩,?_⟩
  (conv=>whnf);(repeat'((first|apply bT|apply bF|apply bN|((first|apply bD|apply bEq|apply bNe)<;>intro hh<;>try(exfalso;omega))|refine wJ ?_|refine nJ ?_)<;>conv=>whnf))
  all_goals rfl
 ·rw[if_neg h]at e1
  rw[if_neg h]
  (conv=>whnf);(repeat'((first|apply bT|apply bF|apply bN|((first|apply bD|apply bEq|apply bNe)<;>intro hh<;>try(exfalso;omega))|refine e1.zq rfl rfl ?_|refine wJ ?_|refine nJ ?_)<;>conv=>whnf))
  all_goals rfl
theorem p27(s:Stand)(hl:s.ws.length<=1000000)(hw:∀w∈s.ws,w.am.length<=1000000):FnA Try.prog 27 [.agg s.cells] (fun r=>∃g e:Int,r = .tup [.int .i64 g, .int .i64 e]/\AskOk s g e):=by
 have e1:=p52 s true hl hw
 refine fnA 4 ok27 (by simp) ?_
 by_cases h:s.oE true=0
 ·have a:=oE_ok h
  have hc:=chk_ok.1 a.1
  have hask:∀g:Int,firstR s.gs.toNat (qn s.gs.toNat (pt s)) (pt s) g->AskOk s g 0:=fun g hf=>by
   have hB:=pt_base hc.1.1 hc.1.2
   have hkn:=qn_le hB
   have hq:qn s.gs.toNat (truths s)=qn s.gs.toNat (pt s):=(qn_congr (pt_kn hc.1.1 hc.1.2)).symm
   have hno:(pt s).length<=1->∀h,¬tw2 h (pt s):=fun hle h ⟨a,ha,b,hb',hne⟩=>by
    generalize pt s=P at hle ha hb'
    match P,hle with
    | [],_=>cases ha
    | [t],_=>
     simp only[List.mem_singleton]at ha hb'
     exact hne (by rw[ha,hb'])
   refine⟨by rw[<- oE_true,h],fun e=>absurd rfl e,fun _ h0=>?_,fun _ h0=>?_⟩
   ·rw[hq]at h0
    have hle:=(qn_zero hkn).1 h0
    rcases hf with⟨h',_,_,ht,_⟩|⟨e,_⟩
    ·exact absurd ht (hno hle h')
    ·exact e
   ·rw[hq]at h0⊢
    obtain⟨m,hm⟩:∃m,qn s.gs.toNat (pt s)=m+1:=⟨qn s.gs.toNat (pt s)-1,by omega⟩
    rw[hm]at hf⊢
    unfold firstR at hf
    rw[Nat.add_sub_cancel]at hf⊢
    have hgt:1<(pt s).length:=by
     refine Classical.byContradiction fun hn=>?_
     have:=(qn_zero hkn).2 (by omega)
     omega
    have hk:=(qn_spec hkn).2.1
    rw[hm]at hk
    obtain⟨h1,hh1,ht1,hA1⟩:=kn_two hB.2 hgt hk
    rcases hf with⟨h',rfl,hh,_,hA⟩|⟨_,hno'⟩
    ·refine⟨isG_iff.2 ⟨by omega,by omega⟩,knA_iff.2 fun u hu=>?_⟩
     have:=knA_iff.1 hA u hu
     rw[Int.toNat_natCast]
     rw[<- this]
     exact(kn_perm ((pt_perm hc.1.1 hc.1.2).filter _) (hB.wh _ _).2).symm
    ·rw[hno' h1 hh1 ht1]at hA1;cases hA1
  rw[h,if_pos rfl]at e1
  have hP1:=pt_small hc.1.2
  have hPl:=pt_len hc.1.1 hc.1.2
  have hB:=pt_base hc.1.1 hc.1.2
  obtain⟨G,hG⟩:∃G:Nat,s.gs=(G:Int):=⟨s.gs.toNat,by omega⟩
  have hGt:s.gs.toNat=G:=by omega
  rw[hGt]at hB hask
  have hne:pt s≠[]:=fun e=>a.2.2 (by rw[<- hPl,e];rfl)
  generalize pt s=P at e1 hP1 hB hne hask
  have hkn:=qn_le hB
  have hqs:=qn_spec hkn
  have e2:=w62 (by omega) hB hP1 hne
  have e3:FnW Try.prog 61 [.int .i64 s.gs] [] (fun r outs=>r = .own 0 0/\outs=insQ G []):=by rw[hG];exact w61 G
  have hgs:Gs G []:=⟨by simp,by simp⟩
  (conv=>whnf);(repeat'((first|apply bT|apply bF|apply bN|((first|apply bD|apply bEq|apply bNe)<;>intro hh<;>try(exfalso;omega))|refine e1.zq rfl rfl ?_|refine wJ ?_|refine nJ ?_)<;>conv=>whnf))
  refine e3.callwq [] rfl rfl trivial rfl rfl rfl rfl (fun r outs hr=>?_)
  obtain⟨rfl,rfl⟩:=hr
  refine⟨⟨rfl,rfl,rfl,rfl⟩,?_⟩
  (conv=>whnf);(repeat'((first|apply bT|apply bF|apply bN|((first|apply bD|apply bEq|apply bNe)<;>intro hh<;>try(exfalso;omega))|refine wJ ?_|refine nJ ?_)<;>conv=>whnf))
  refine e2.callwq [2,3] rfl rfl ⟨rfl,rfl,trivial⟩ rfl rfl rfl rfl (fun r outs hr=>?_)
  obtain⟨M,hM,rfl,rfl⟩:=hr
  refine⟨⟨rfl,rfl,rfl,rfl⟩,?_⟩
  have e4:=w63 (by omega) hB hP1 (qn G P) (by omega) (fun m hm=>w_all (by omega) hB hP1 m (by omega)) [] P M (qn G P:Nat) rfl hgs (Gd.all P hne) hM (fun e=>(qn_zero hkn).1 e)
  (conv=>whnf);(repeat'((first|apply bT|apply bF|apply bN|((first|apply bD|apply bEq|apply bNe)<;>intro hh<;>try(exfalso;omega))|refine wJ ?_|refine nJ ?_)<;>conv=>whnf))
  refine e4.lendwq [2,3] rfl rfl ⟨rfl,rfl,trivial⟩ rfl rfl ⟨.inl ⟨rfl,rfl⟩, .inr rfl, .inr rfl, .inr rfl,trivial⟩ (fun r outs hr=>?_)
  obtain⟨M1,g,hM1,rfl,rfl,hf⟩:=hr
  refine⟨⟨rfl,rfl,rfl,rfl,insQ_flat _ _,rfl⟩,?_⟩
  (conv=>whnf);(repeat'((first|apply bT|apply bF|apply bN|((first|apply bD|apply bEq|apply bNe)<;>intro hh<;>try(exfalso;omega))|refine wJ ?_|refine nJ ?_)<;>conv=>whnf))
  all_goals exact⟨g,0,rfl,hask g hf⟩
 ·rw[if_neg h]at e1
  (conv=>whnf);(repeat'((first|apply bT|apply bF|apply bN|((first|apply bD|apply bEq|apply bNe)<;>intro hh<;>try(exfalso;omega))|refine e1.zq rfl rfl ?_|refine wJ ?_|refine nJ ?_)<;>conv=>whnf))
  all_goals exact⟨0,s.oE true,rfl,by rw[oE_true],fun _=>rfl,fun e=>absurd e h,fun e=>absurd e h⟩
theorem sm1{s:Stand}(h:Small s):s.ws.length<=1000000:=by have:=h.1;omega
theorem sm2{s:Stand}(h:Small s):∀w∈s.ws,w.am.length<=1000000:=fun w hw=>by have:=h.2 w hw;omega
theorem prg:Prg:=⟨fun s h=>p38 s (sm1 h) (sm2 h),fun s h=>p18 s (sm1 h) (sm2 h),fun s h=>p19 s (sm1 h) (sm2 h),fun s h=>p20 s (sm1 h) (sm2 h),fun s h=>p26 s (sm1 h) (sm2 h),fun s h=>p27 s (sm1 h) (sm2 h),p29,p48,p34⟩
theorem n14u(s:Stand):FnA Try.prog 14 [.agg s.cells] (· = .bool s.far):=by
 by_cases hB:Big s
 ·exact n14 s hB.1 hB.2
 ·have hL:(s.ws.map Word.av).length=s.ws.length:=by simp
  refine fnA 1 ok14 (by simp) ?_
  by_cases h1:s.ws.length>60
  ·have:s.far=true:=by simp[Stand.far,h1]
   rw[this]
   (conv=>whnf);(repeat'((first|apply bT|apply bF|apply bN|((first|apply bD|apply bEq|apply bNe)<;>intro hh<;>try(exfalso;omega))|refine wJ ?_|refine nJ ?_)<;>conv=>whnf))
   all_goals rfl
  ·have hex:∃w∈s.ws,w.am.length>60:=Classical.byContradiction fun hn=>hB ⟨by omega,fun w hw=>by
    have:¬w.am.length>60:=fun h=>hn ⟨w,hw,h⟩
    omega⟩
   have hany:s.ws.any (fun w=>decide (w.am.length>60))=true:=by
    obtain⟨w,hw,h⟩:=hex
    exact List.any_eq_true.2 ⟨w,hw,decide_eq_true h⟩
   have hfar:s.far=true:=by rw[Stand.far,hany];simp
   rw[hfar]
   (conv=>whnf);(repeat'((first|apply bT|apply bF|apply bN|((first|apply bD|apply bEq|apply bNe)<;>intro hh<;>try(exfalso;omega))|refine wJ ?_|refine nJ ?_)<;>conv=>whnf))
   refine loop_i (α :=Nat) (fun k=>[(3, .int .i64 k),(1, .own 0 0)]) (fun k=>[.box false s.cells]) (fun k=>k<=s.ws.length/\∀w∈s.ws.take k,decide (w.am.length>60)=false) (fun k=>s.ws.length-k) 0 mI ⟨by omega,by simp⟩ ?_
   rintro k ⟨h5,h6⟩
   conv=>whnf
   refine bD (fun h7=>?_) (fun h7=>?_)
   ·have hk:k<s.ws.length:=by omega
    have g1:=getM Word.av s.ws k hk
    have la:(s.ws[k].am.map jAV).length=s.ws[k].am.length:=by simp
    by_cases h8:s.ws[k].am.length>60
    ·(conv=>whnf);(repeat'((first|apply bT|apply bF|apply bN|((first|apply bD|apply bEq|apply bNe)<;>intro hh<;>try(exfalso;omega))|refine iaJ g1 ?_|refine wJ ?_|refine nJ ?_)<;>conv=>whnf))
     all_goals rfl
    ·(conv=>whnf);(repeat'((first|apply bT|apply bF|apply bN|((first|apply bD|apply bEq|apply bNe)<;>intro hh<;>try(exfalso;omega))|refine iaJ g1 ?_|refine wJ ?_|refine nJ ?_)<;>conv=>whnf))
     exact⟨k+1,mI,⟨by omega,take_none hk h6 (decide_eq_false h8)⟩,by omega⟩
   ·exfalso
    have:k=s.ws.length:=by omega
    subst this
    rw[List.take_length]at h6
    obtain⟨w,hw,h⟩:=hex
    have:=h6 w hw
    simp at this;omega
theorem big_far{s:Stand}(h:¬Big s):s.far=true:=by
 unfold Stand.far
 by_cases h1:s.ws.length>60
 ·simp[h1]
 ·have hany:s.ws.any (fun w=>decide (w.am.length>60))=true:=by
   refine Classical.byContradiction fun hn=>h ⟨by omega,fun w hw=>?_⟩
   have:=List.any_eq_false.1 (Bool.eq_false_iff.2 hn) w hw
   simp at this;omega
  rw[hany];simp
theorem n44u{s:Stand}(h:s.far=true):FnA Try.prog 44 [.agg s.cells] (· = .bool true):=by
 have e2:=n14u s
 rw[h]at e2
 refine fnA 1 ok44 (by simp) ?_
 (conv=>whnf);(repeat'((first|apply bT|apply bF|apply bN|((first|apply bD|apply bEq|apply bNe)<;>intro hh<;>try(exfalso;omega))|refine e2.cq rfl rfl ?_|refine wJ ?_|refine nJ ?_)<;>conv=>whnf))
 all_goals rfl
theorem n25u{s:Stand}(h:s.far=true):FnA Try.prog 25 [.agg s.cells] (· = .bool false):=by
 have e2:=n44u h
 refine fnA 1 ok25 (by simp) ?_
 (conv=>whnf);(repeat'((first|apply bT|apply bF|apply bN|((first|apply bD|apply bEq|apply bNe)<;>intro hh<;>try(exfalso;omega))|refine e2.cq rfl rfl ?_|refine wJ ?_|refine nJ ?_)<;>conv=>whnf))
 all_goals rfl
theorem getD_mapD{α : Type}(f : α -> List AV)(l:List α)(i:Nat)(d : α)(h:i<l.length):(l.map f).getD i []=f (l.getD i d):=by
 simp[List.getD_eq_getElem?_getD,h]
theorem p119(a:Int):FnA Try.prog 119 [.int .i64 a] (· = .bool false):=by
 refine fnA 0 ok119 (by simp) ?_
 (conv=>whnf);(repeat'((first|apply bT|apply bF|apply bN|((first|apply bD|apply bEq|apply bNe)<;>intro hh<;>try(exfalso;omega))|refine wJ ?_|refine nJ ?_)<;>conv=>whnf))
 all_goals simp
theorem p109(a b:Int):FnA Try.prog 109 [.int .i64 a, .int .i64 b] (· = .bool (decide (a<b))):=by
 refine fnA 0 ok109 (by simp) ?_
 (conv=>whnf);(repeat'((first|apply bT|apply bF|apply bN|((first|apply bD|apply bEq|apply bNe)<;>intro hh<;>try(exfalso;omega))|refine(p119 a).cq rfl rfl ?_|refine(p119 b).cq rfl rfl ?_|refine wJ ?_|refine nJ ?_)<;>conv=>whnf))
 all_goals rfl
theorem wEq{k:IntKind}{x y:Int}{K:Int->Prop}(h:k.wrap x=y)(hk:K y):WrE k x K:=⟨by rw[h];exact hk⟩
theorem p113(n:Nat)(h:n<=12):FnA Try.prog 113 [.int .u64 n] (fun r=>∃k:Nat,k<=64/\r = .int .i64 k):=by
 have:n=0\/n=1\/n=2\/n=3\/n=4\/n=5\/n=6\/n=7\/n=8\/n=9\/n=10\/n=11\/n=12:=by omega
 refine fnA 0 ok113 (by simp) ?_
 rcases this with rfl|rfl|rfl|rfl|rfl|rfl|rfl|rfl|rfl|rfl|rfl|rfl|rfl
 ·(conv=>whnf);(repeat'((first|apply bT|apply bF|apply bN|((first|apply bD|apply bEq|apply bNe)<;>intro hh<;>try(exfalso;omega))|refine wEq (y:=0) (by decide) ?_|refine sdI (c:=0) (by decide) (by decide) (by decide) ?_|refine wEq (y:=0) (by decide) ?_|refine wJ ?_|refine nJ ?_)<;>conv=>whnf))
  exact⟨0,by decide,rfl⟩
 ·(conv=>whnf);(repeat'((first|apply bT|apply bF|apply bN|((first|apply bD|apply bEq|apply bNe)<;>intro hh<;>try(exfalso;omega))|refine wEq (y:=1) (by decide) ?_|refine sdI (c:=1) (by decide) (by decide) (by decide) ?_|refine wEq (y:=1) (by decide) ?_|refine wJ ?_|refine nJ ?_)<;>conv=>whnf))
  exact⟨1,by decide,rfl⟩
 ·(conv=>whnf);(repeat'((first|apply bT|apply bF|apply bN|((first|apply bD|apply bEq|apply bNe)<;>intro hh<;>try(exfalso;omega))|refine wEq (y:=2) (by decide) ?_|refine sdI (c:=2) (by decide) (by decide) (by decide) ?_|refine wEq (y:=2) (by decide) ?_|refine wJ ?_|refine nJ ?_)<;>conv=>whnf))
  exact⟨2,by decide,rfl⟩
 ·(conv=>whnf);(repeat'((first|apply bT|apply bF|apply bN|((first|apply bD|apply bEq|apply bNe)<;>intro hh<;>try(exfalso;omega))|refine wEq (y:=3) (by decide) ?_|refine sdI (c:=2) (by decide) (by decide) (by decide) ?_|refine wEq (y:=2) (by decide) ?_|refine wJ ?_|refine nJ ?_)<;>conv=>whnf))
  exact⟨2,by decide,rfl⟩
 ·(conv=>whnf);(repeat'((first|apply bT|apply bF|apply bN|((first|apply bD|apply bEq|apply bNe)<;>intro hh<;>try(exfalso;omega))|refine wEq (y:=4) (by decide) ?_|refine sdI (c:=3) (by decide) (by decide) (by decide) ?_|refine wEq (y:=3) (by decide) ?_|refine wJ ?_|refine nJ ?_)<;>conv=>whnf))
  exact⟨3,by decide,rfl⟩
 ·(conv=>whnf);(repeat'((first|apply bT|apply bF|apply bN|((first|apply bD|apply bEq|apply bNe)<;>intro hh<;>try(exfalso;omega))|refine wEq (y:=5) (by decide) ?_|refine sdI (c:=3) (by decide) (by decide) (by decide) ?_|refine wEq (y:=3) (by decide) ?_|refine wJ ?_|refine nJ ?_)<;>conv=>whnf))
  exact⟨3,by decide,rfl⟩
 ·(conv=>whnf);(repeat'((first|apply bT|apply bF|apply bN|((first|apply bD|apply bEq|apply bNe)<;>intro hh<;>try(exfalso;omega))|refine wEq (y:=6) (by decide) ?_|refine sdI (c:=3) (by decide) (by decide) (by decide) ?_|refine wEq (y:=3) (by decide) ?_|refine wJ ?_|refine nJ ?_)<;>conv=>whnf))
  exact⟨3,by decide,rfl⟩
 ·(conv=>whnf);(repeat'((first|apply bT|apply bF|apply bN|((first|apply bD|apply bEq|apply bNe)<;>intro hh<;>try(exfalso;omega))|refine wEq (y:=7) (by decide) ?_|refine sdI (c:=3) (by decide) (by decide) (by decide) ?_|refine wEq (y:=3) (by decide) ?_|refine wJ ?_|refine nJ ?_)<;>conv=>whnf))
  exact⟨3,by decide,rfl⟩
 ·(conv=>whnf);(repeat'((first|apply bT|apply bF|apply bN|((first|apply bD|apply bEq|apply bNe)<;>intro hh<;>try(exfalso;omega))|refine wEq (y:=8) (by decide) ?_|refine sdI (c:=4) (by decide) (by decide) (by decide) ?_|refine wEq (y:=4) (by decide) ?_|refine wJ ?_|refine nJ ?_)<;>conv=>whnf))
  exact⟨4,by decide,rfl⟩
 ·(conv=>whnf);(repeat'((first|apply bT|apply bF|apply bN|((first|apply bD|apply bEq|apply bNe)<;>intro hh<;>try(exfalso;omega))|refine wEq (y:=9) (by decide) ?_|refine sdI (c:=4) (by decide) (by decide) (by decide) ?_|refine wEq (y:=4) (by decide) ?_|refine wJ ?_|refine nJ ?_)<;>conv=>whnf))
  exact⟨4,by decide,rfl⟩
 ·(conv=>whnf);(repeat'((first|apply bT|apply bF|apply bN|((first|apply bD|apply bEq|apply bNe)<;>intro hh<;>try(exfalso;omega))|refine wEq (y:=10) (by decide) ?_|refine sdI (c:=4) (by decide) (by decide) (by decide) ?_|refine wEq (y:=4) (by decide) ?_|refine wJ ?_|refine nJ ?_)<;>conv=>whnf))
  exact⟨4,by decide,rfl⟩
 ·(conv=>whnf);(repeat'((first|apply bT|apply bF|apply bN|((first|apply bD|apply bEq|apply bNe)<;>intro hh<;>try(exfalso;omega))|refine wEq (y:=11) (by decide) ?_|refine sdI (c:=4) (by decide) (by decide) (by decide) ?_|refine wEq (y:=4) (by decide) ?_|refine wJ ?_|refine nJ ?_)<;>conv=>whnf))
  exact⟨4,by decide,rfl⟩
 ·(conv=>whnf);(repeat'((first|apply bT|apply bF|apply bN|((first|apply bD|apply bEq|apply bNe)<;>intro hh<;>try(exfalso;omega))|refine wEq (y:=12) (by decide) ?_|refine sdI (c:=4) (by decide) (by decide) (by decide) ?_|refine wEq (y:=4) (by decide) ?_|refine wJ ?_|refine nJ ?_)<;>conv=>whnf))
  exact⟨4,by decide,rfl⟩
theorem p100(n:Nat)(h:n<=12):FnA Try.prog 100 [.int .u64 n] (fun r=>∃k:Nat,k<=64/\r = .int .i64 k):=by
 refine fnA 0 ok100 (by simp) ?_
 (conv=>whnf);(repeat'((first|apply bT|apply bF|apply bN|((first|apply bD|apply bEq|apply bNe)<;>intro hh<;>try(exfalso;omega))|refine wJ ?_|refine nJ ?_)<;>conv=>whnf))
 refine(p113 n h).callq rfl rfl (fun r ⟨k,hk,hr⟩=>?_);subst hr
 (conv=>whnf);(repeat'((first|apply bT|apply bF|apply bN|((first|apply bD|apply bEq|apply bNe)<;>intro hh<;>try(exfalso;omega))|refine wJ ?_|refine nJ ?_)<;>conv=>whnf))
 all_goals exact⟨k,hk,rfl⟩
def InvJ(i j:Nat)(l:List Int):Prop:=(∀p q,p<q->q<=i->p≠j->q≠j->l.getD p 0<=l.getD q 0)/\∀q,j<q->q<=i->l.getD j 0<=l.getD q 0
def Srt(i:Nat)(l:List Int):Prop:=∀p q,p<q->q<i->l.getD p 0<=l.getD q 0
def swp(l:List Int)(j k:Nat):List Int:=(l.set j (l.getD k 0)).set k (l.getD j 0)
theorem swp_get{l:List Int}{j k:Nat}(hj:j<l.length)(hk:k<l.length)(q:Nat):(swp l j k).getD q 0=if q=k then l.getD j 0 else if q=j then l.getD k 0 else l.getD q 0:=by
 unfold swp
 simp only[List.getD_eq_getElem?_getD,List.getElem?_set,List.length_set]
 by_cases e:k=q
 ·subst e;simp[hk]
 ·rw[if_neg e,if_neg (Ne.symm e)]
  by_cases e2:j=q
  ·subst e2;simp[hj]
  ·rw[if_neg e2,if_neg (Ne.symm e2)]
theorem swp_perm{l:List Int}{j k:Nat}(hj:j<l.length)(hk:k<l.length):(swp l j k).Perm l:=by
 unfold swp
 have:=(List.set_set_perm hj hk:(((l.set j l[k]).set k l[j]).Perm l))
 rwa [List.getD_eq_getElem?_getD,List.getD_eq_getElem?_getD,List.getElem?_eq_getElem hj,List.getElem?_eq_getElem hk]
theorem InvJ.step{i k:Nat}{l:List Int}(h:InvJ i (k+1) l)(hi:i<l.length)(hk:k+1<=i)(hl:l.getD (k+1) 0<l.getD k 0):InvJ i k (swp l (k+1) k):=by
 have hg:=swp_get (l:=l) (j:=k+1) (k:=k) (by omega) (by omega)
 obtain⟨h1,h2⟩:=h
 refine⟨fun p q hp hq e1 e2=>?_,fun q hq1 hq2=>?_⟩
 ·rw[hg p,hg q,if_neg e1,if_neg e2]
  by_cases a:p=k+1
  ·have b:q≠k+1:=by omega
   rw[if_pos a,if_neg b]
   exact h1 k q (by omega) hq (by omega) b
  ·rw[if_neg a]
   by_cases b:q=k+1
   ·rw[if_pos b];exact h1 p k (by omega) (by omega) a (by omega)
   ·rw[if_neg b];exact h1 p q hp hq a b
 ·rw[hg k,hg q,if_pos rfl,if_neg (by omega)]
  by_cases b:q=k+1
  ·rw[if_pos b];omega
  ·rw[if_neg b];exact h2 q (by omega) hq2
theorem InvJ.done{i j:Nat}{l:List Int}(h:InvJ i j l)(hj:j<=i)(he:j=0\/l.getD (j-1) 0<=l.getD j 0):Srt (i+1) l:=by
 intro p q hp hq
 by_cases a:p=j
 ·subst a;exact h.2 q hp (by omega)
 ·by_cases b:q=j
  ·subst b
   have hle:l.getD (q-1) 0<=l.getD q 0:=by
    rcases he with he|he
    ·omega
    ·exact he
   by_cases c:p=q-1
   ·subst c;exact hle
   ·exact Int.le_trans (h.1 p (q-1) (by omega) (by omega) a (by omega)) hle
  ·exact h.1 p q hp (by omega) a b
theorem Srt.inv{i:Nat}{l:List Int}(h:Srt i l):InvJ i i l:=⟨fun p q h1 h2 _ h4=>h p q h1 (by omega),fun q h1 h2=>by omega⟩
def srtA(l:List Int)(r:AV)(outs:List Res):Prop:=r = .tup []/\∃l':List Int,l'.Perm l/\Srt l.length l'/\outs=[.row false 3 1 (l'.map jAV)]
theorem p103(l:List Int)(hn:l.length<=1000):FnW Try.prog 103 [.row 0, .int .i64 0, .int .i64 l.length] [.row false 3 1 (l.map jAV)] (srtA l):=by
 refine fnW 0 [] ok103 (by simp) rfl rfl ?_
 conv=>whnf
 refine wJ ?_
 conv=>whnf
 refine loop_i (α :=Nat × List Int) (fun x=>[(6, .int .i64 x.1),(2, .int .i64 l.length),(1, .int .i64 0),(0, .row 0)]) (fun x=>[.row false 3 1 (x.2.map jAV)]) (fun x=>1<=x.1/\x.2.Perm l/\Srt x.1 x.2/\(x.1<=l.length\/x.1=1)) (fun x=>l.length-x.1) (1,l) mI ⟨by simp,List.Perm.refl _,fun p q h1 h2=>by simp only at h2;omega, .inr rfl⟩ ?_
 rintro⟨i,m⟩ ⟨h1,hP,hS,hC⟩
 simp only at h1 hP hS hC⊢
 have hml:=hP.length_eq
 conv=>whnf
 refine bD (fun h3=>?_) (fun h3=>?_)
 ·conv=>whnf
  have hi:i<m.length:=by omega
  refine loop_i (α :=Nat × List Int) (fun x=>[(7, .int .i64 x.1),(6, .int .i64 i),(2, .int .i64 l.length),(1, .int .i64 0),(0, .row 0)]) (fun x=>[.row false 3 1 (x.2.map jAV)]) (fun x=>x.1<=i/\x.2.Perm l/\InvJ i x.1 x.2) (fun x=>x.1) (i,m) mI ⟨by simp,hP,hS.inv⟩ ?_
  rintro⟨j,a⟩ ⟨hj,hQ,hI⟩
  simp only at hj hQ hI⊢
  have hal:=hQ.length_eq
  have hamp:(a.map jAV).length=a.length:=by simp
  conv=>whnf
  refine bD (fun h4=>?_) (fun h4=>?_)
  ·obtain⟨k,rfl⟩:∃k,j=k+1:=⟨j-1,by omega⟩
   have e1:(a.map jAV).getD ((k+1:Nat):Int).toNat []=[.int .i64 (a.getD (k+1) 0)]:=by
    rw[Int.toNat_natCast,getD_mapD jAV a (k+1) 0 (by omega)];rfl
   have e2:(a.map jAV).getD (((((k+1:Nat):Int)-1).toNat:Nat):Int).toNat []=[.int .i64 (a.getD k 0)]:=by
    rw[show(((((k+1:Nat):Int)-1).toNat:Nat):Int).toNat=k from by omega,getD_mapD jAV a k 0 (by omega)];rfl
   have tk:(((k+1:Nat):Int)-1).toNat=k:=by omega
   have tk1:((k+1:Nat):Int).toNat=k+1:=by omega
   have hset:((a.map jAV).set ((k+1:Nat):Int).toNat [AV.int IntKind.i64 (a.getD k 0)]).length=a.length:=by simp
   have e3:((a.map jAV).set ((k+1:Nat):Int).toNat [AV.int IntKind.i64 (a.getD k 0)]).getD (((((k+1:Nat):Int)-1).toNat:Nat):Int).toNat []=[.int .i64 (a.getD k 0)]:=by
    rw[show(((((k+1:Nat):Int)-1).toNat:Nat):Int).toNat=k from by omega]
    rw[List.getD_eq_getElem?_getD,List.getElem?_set_ne (by omega),<- List.getD_eq_getElem?_getD,getD_mapD jAV a k 0 (by omega)];rfl
   have hsw:((a.map jAV).set ((k+1:Nat):Int).toNat [AV.int IntKind.i64 (a.getD k 0)]).set (((k+1:Nat):Int)-1).toNat [AV.int IntKind.i64 (a.getD (k+1) 0)]=(swp a (k+1) k).map jAV:=by
    unfold swp;rw[tk,tk1,List.map_set,List.map_set];rfl
   have hpm:(swp a (k+1) k).Perm l:=(swp_perm (by omega) (by omega)).trans hQ
   (conv=>whnf);(repeat'((first|apply bT|apply bF|apply bN|((first|apply bD|apply bEq|apply bNe)<;>intro hh<;>try(exfalso;omega))|refine iaJ e1 ?_|refine iaJ e2 ?_|refine iaJ e3 ?_|refine(p109 (a.getD (k+1) 0) (a.getD k 0)).cq rfl rfl ?_|refine wJ ?_|refine nJ ?_)<;>conv=>whnf))
   ·refine⟨(k,swp a (k+1) k),?_,⟨by simp only;omega,hpm,hI.step (by omega) (by omega) (by omega)⟩,by simp only;omega⟩
    rw[hsw]
    have e5:((k+1:Nat):Int)-1=k:=by omega
    rw[e5]
    exact mI
   ·refine⟨(i+1,a),?_,⟨by simp only;omega,hQ,hI.done hj (.inr (by simp only[Nat.add_sub_cancel];omega)), .inl (by simp only;omega)⟩,by simp only;omega⟩
    exact mI
  ·have hj0:j=0:=by omega
   subst hj0
   (conv=>whnf);(repeat'((first|apply bT|apply bF|apply bN|((first|apply bD|apply bEq|apply bNe)<;>intro hh<;>try(exfalso;omega))|refine wJ ?_|refine nJ ?_)<;>conv=>whnf))
   refine⟨(i+1,a),?_,⟨by simp only;omega,hQ,hI.done hj (.inl rfl), .inl (by simp only;omega)⟩,by simp only;omega⟩
   exact mI
 ·(conv=>whnf);(repeat'((first|apply bT|apply bF|apply bN|((first|apply bD|apply bEq|apply bNe)<;>intro hh<;>try(exfalso;omega))|refine wJ ?_|refine nJ ?_)<;>conv=>whnf))
  all_goals exact⟨rfl,m,hP,fun p q h1 h2=>hS p q h1 (by omega),rfl⟩
theorem p99(l:List Int)(b:Int)(hn:l.length<=12):FnW Try.prog 99 [.row 0, .int .i64 0, .int .i64 l.length, .int .i64 b] [.row false 3 1 (l.map jAV)] (srtA l):=by
 refine fnW 0 [] ok99 (by simp) rfl rfl ?_
 conv=>whnf
 refine loop_i (α :=Unit) (fun x=>[(2, .int .i64 l.length),(1, .int .i64 0),(0, .row 0)]) (fun x=>[.row false 3 1 (l.map jAV)]) (fun x=>True) (fun x=>0) () mI trivial ?_
 intro _ _
 have hc:=p103 l (by omega)
 (conv=>whnf);(repeat'((first|apply bT|apply bF|apply bN|((first|apply bD|apply bEq|apply bNe)<;>intro hh<;>try(exfalso;omega))|refine wJ ?_|refine nJ ?_)<;>conv=>whnf))
 refine hc.callwq [0] rfl rfl ⟨rfl,trivial⟩ rfl rfl rfl rfl (fun r outs hr=>?_)
 obtain⟨hr1,l',hp,hs,ho⟩:=hr
 subst hr1;subst ho
 refine⟨⟨rfl,rfl,rfl,rfl⟩,?_⟩
 (conv=>whnf);(repeat'((first|apply bT|apply bF|apply bN|((first|apply bD|apply bEq|apply bNe)<;>intro hh<;>try(exfalso;omega))|refine wJ ?_|refine nJ ?_)<;>conv=>whnf))
 all_goals exact⟨rfl,l',hp,hs,rfl⟩
theorem p88(l:List Int)(hn:l.length<=12):FnW Try.prog 88 [.row 0] [.row false 3 1 (l.map jAV)] (srtA l):=by
 refine fnW 0 [] ok88 (by simp) rfl rfl ?_
 have hL:(l.map jAV).length=l.length:=by simp
 have hw:IntKind.u64.wrap ((l.map jAV).length:Int)=(l.length:Nat):=by
  rw[hL]
  have:l.length=0\/l.length=1\/l.length=2\/l.length=3\/l.length=4\/l.length=5\/l.length=6\/l.length=7\/l.length=8\/l.length=9\/l.length=10\/l.length=11\/l.length=12:=by omega
  rcases this with h|h|h|h|h|h|h|h|h|h|h|h|h<;>rw[h]<;>decide
 (conv=>whnf);(repeat'((first|apply bT|apply bF|apply bN|((first|apply bD|apply bEq|apply bNe)<;>intro hh<;>try(exfalso;omega))|refine wEq hw ?_|refine wJ ?_|refine nJ ?_)<;>conv=>whnf))
 refine(p100 l.length hn).callq rfl rfl (fun r ⟨b,hb,hr⟩=>?_);subst hr
 (conv=>whnf);(repeat'((first|apply bT|apply bF|apply bN|((first|apply bD|apply bEq|apply bNe)<;>intro hh<;>try(exfalso;omega))|refine wJ ?_|refine nJ ?_)<;>conv=>whnf))
 have hc:=p99 l b hn
 rw[<- hL]at hc
 refine hc.callwq [0] rfl rfl ⟨rfl,trivial⟩ rfl rfl rfl rfl (fun r outs hr=>?_)
 obtain⟨hr1,l',hp,hs,ho⟩:=hr
 subst hr1;subst ho
 refine⟨⟨rfl,rfl,rfl,rfl⟩,?_⟩
 (conv=>whnf);(repeat'((first|apply bT|apply bF|apply bN|((first|apply bD|apply bEq|apply bNe)<;>intro hh<;>try(exfalso;omega))|refine wJ ?_|refine nJ ?_)<;>conv=>whnf))
 all_goals exact⟨rfl,l',hp,hs,rfl⟩
def cdR(B:Nat):List Nat->Nat
 | []=>0
 |j::l=>(j+1)+(B+1)*cdR B l
theorem cdR_inj{B:Nat}:∀ {l m:List Nat},(∀i∈l,i<B)->(∀i∈m,i<B)->cdR B l=cdR B m->l=m
 | [],[],_,_,_=>rfl
 | [],j::m,_,_,h=>by simp only[cdR]at h;omega
 |i::l,[],_,_,h=>by simp only[cdR]at h;omega
 |i::l,j::m,h1,h2,h=>by
  simp only[cdR]at h
  have hi:=h1 i (by simp)
  have hj:=h2 j (by simp)
  have e1:((i+1)+(B+1)*cdR B l)%(B+1)=i+1:=by rw[Nat.add_mul_mod_self_left];exact Nat.mod_eq_of_lt (by omega)
  have e2:((j+1)+(B+1)*cdR B m)%(B+1)=j+1:=by rw[Nat.add_mul_mod_self_left];exact Nat.mod_eq_of_lt (by omega)
  have e3:i=j:=by rw[h,e2]at e1;omega
  subst e3
  have e4:(B+1)*cdR B l=(B+1)*cdR B m:=by omega
  have e5:=Nat.eq_of_mul_eq_mul_left (by omega) e4
  rw[cdR_inj (fun x hx=>h1 x (by simp[hx])) (fun x hx=>h2 x (by simp[hx])) e5]
def iA(x:Int):AV:=.int .i64 x
def Vis(B:Nat)(l:List Nat):Prop:=l.Nodup/\∀i∈l,i<B
def kNx(K:List Int)(k:Nat)(v:List AV)(k':Nat):Prop:=∃l j x,k=cdR K.length l/\k'=cdR K.length (j::l)/\Vis K.length (j::l)/\K[j]?=some x/\v=[iA x]
def kFin(K:List Int)(k:Nat):Prop:=∃l,k=cdR K.length l/\Vis K.length l/\∀i,i<K.length->i∈l
theorem vis_len{B:Nat}{l:List Nat}(h:Vis B l):l.length<=B:=by
 have:=nd_sub_len (a:=l) (b:=List.range B) h.1 List.nodup_range fun i hi=>List.mem_range.2 (h.2 i hi)
 simpa using this
theorem vis_perm{B:Nat}{l:List Nat}(h:Vis B l)(ha:∀i,i<B->i∈l):l.Perm (List.range B):=
 (List.perm_ext_iff_of_nodup h.1 List.nodup_range).2 fun i=>⟨fun hi=>List.mem_range.2 (h.2 i hi),fun hi=>ha i (List.mem_range.1 hi)⟩
theorem map_range_getD(K:List Int):(List.range K.length).map (fun i=>K.getD i 0)=K:=by
 apply List.ext_getElem (by simp)
 intro i h1 h2
 simp[List.getD_eq_getElem?_getD,h2]
theorem p89(K:List Int)(us:List AV)(hus:us.length=K.length):ItG Try.prog 89 [.ipt [.imp (K.map iA) us]] (kNx K) (kFin K):=by
 refine itG 2 ok89 (by simp) ?_
 (conv=>whnf);(repeat'((first|apply bT|apply bF|apply bN|((first|apply bD|apply bEq|apply bNe)<;>intro hh<;>try(exfalso;omega))|refine wJ ?_|refine nJ ?_)<;>conv=>whnf))
 refine loop_y (α :=List Nat × List AV) (fun q=>[(5, .row 0),(1, .ipt [.imp (K.map iA) us]),(0, .yld)]) (fun q=>[.itr (K.map iA) us q.1.reverse q.2, .fresh]) (fun q=>⟨[],cdR K.length q.1,false⟩) (fun q=>Vis K.length q.1) (fun q=>K.length-q.1.length) ([],[]) mI ⟨by simp,by simp⟩ ?_
 rintro⟨l,last⟩ hV
 dsimp only at hV
 conv=>whnf
 refine nxI (fun j kv uv h5 h6 h7=>?_) (fun h5=>?_)
 ·obtain⟨x,hx,rfl⟩:∃x,K[j]?=some x/\iA x=kv:=by simpa using h5
  have hjl:j<K.length:=(List.getElem?_eq_some_iff.1 hx).1
  have h7':j∉l:=fun h=>h7 (by simpa using h)
  have hV2:Vis K.length (j::l):=⟨List.nodup_cons.2 ⟨h7',hV.1⟩,fun i hi=>by
   rcases List.mem_cons.1 hi with rfl|hi
   ·exact hjl
   ·exact hV.2 i hi⟩
  have hll:=vis_len hV2
  rw[List.length_cons]at hll
  conv=>whnf
  refine bT ?_
  conv=>whnf
  refine yG (cdR K.length (j::l)) rfl (by exact⟨l,j,x,rfl,rfl,hV2,hx,rfl⟩) rfl ?_ ?_
  ·(conv=>whnf);(repeat'((first|apply bT|apply bF|apply bN|((first|apply bD|apply bEq|apply bNe)<;>intro hh<;>try(exfalso;omega))|refine wJ ?_|refine nJ ?_)<;>conv=>whnf))
   refine⟨(j::l,[iA x,uv]),?_,hV2,by dsimp only;rw[List.length_cons];omega⟩
   rw[show(j::l).reverse=l.reverse++[j] from by simp]
   exact mI
  ·(conv=>whnf);(repeat'((first|apply bT|apply bF|apply bN|((first|apply bD|apply bEq|apply bNe)<;>intro hh<;>try(exfalso;omega))|refine wJ ?_|refine nJ ?_)<;>conv=>whnf))
   all_goals exact .inl rfl
 ·have hall:∀i,i<K.length->i∈l:=fun i hi=>by
   have:=h5 i (by simpa using hi)
   simpa using this
  (conv=>whnf);(repeat'((first|apply bT|apply bF|apply bN|((first|apply bD|apply bEq|apply bNe)<;>intro hh<;>try(exfalso;omega))|refine wJ ?_|refine nJ ?_)<;>conv=>whnf))
  all_goals exact .inr ⟨l,rfl,hV,hall⟩
theorem p59(ks us:List AV):FnA Try.prog 59 [.imp ks us] (· = .fn 89 [.ipt [.imp ks us]]):=by
 refine fnA 2 ok59 (by simp) ?_
 (conv=>whnf);(repeat'((first|apply bT|apply bF|apply bN|((first|apply bD|apply bEq|apply bNe)<;>intro hh<;>try(exfalso;omega))|refine wJ ?_|refine nJ ?_)<;>conv=>whnf))
 all_goals rfl
def selK(K:List Int)(l:List Nat):List Int:=l.reverse.map (fun i=>K.getD i 0)
theorem sel_cons{K:List Int}{l:List Nat}{j:Nat}{x:Int}(h:K[j]?=some x):selK K (j::l)=selK K l++[x]:=by
 simp[selK,List.getD_eq_getElem?_getD,h]
theorem sel_perm{K:List Int}{l:List Nat}(h:Vis K.length l)(ha:∀i,i<K.length->i∈l):(selK K l).Perm K:=by
 have h1:(l.reverse.map (fun i=>K.getD i 0)).Perm (l.map (fun i=>K.getD i 0)):=(List.reverse_perm l).map _
 have h2:=(vis_perm h ha).map (fun i=>K.getD i 0)
 rw[map_range_getD]at h2
 exact h1.trans h2
theorem p98(K:List Int)(us:List AV)(hus:us.length=K.length)(hK:K.length<=1000):FnO Try.prog 98 [.nils, .fn 89 [.ipt [.imp (K.map iA) us]]] (fun r rows=>∃k:List Int,k.Perm K/\r = .row 3/\rows=[(3, .row false 3 1 (k.map jAV))]):=by
 refine fnO 4 ok98 (by simp) ?_
 (conv=>whnf);(repeat'((first|apply bT|apply bF|apply bN|((first|apply bD|apply bEq|apply bNe)<;>intro hh<;>try(exfalso;omega))|refine wJ ?_|refine nJ ?_)<;>conv=>whnf))
 refine rng_g (α :=List Nat) (kNx K) (kFin K) [0] [(2, .own 0 0)] (fun l=>[.box false [.row 3], .fresh, .fresh, .row false 3 1 ((selK K l).map jAV)]) (fun k l=>k=cdR K.length l/\Vis K.length l) [] rfl rfl rfl bd89 (p89 K us hus) rfl (mA [(3,none)]) rfl ⟨rfl,by simp[Vis]⟩ (fun k v k' h=>by obtain⟨_,_,_,_,_,_,_,rfl⟩:=h;rfl) ?_ ?_
 ·rintro k v k' l ⟨l',j,x,hk,rfl,hV2,hx,rfl⟩ ⟨hk2,hV⟩
  have:l'=l:=cdR_inj (fun i hi=>hV2.2 i (by simp[hi])) hV.2 (hk.symm.trans hk2)
  subst this
  have hll:=vis_len hV2
  rw[List.length_cons]at hll
  have hsl:((selK K l').map jAV).length=l'.length:=by simp[selK]
  (conv=>whnf);(repeat'((first|apply bT|apply bF|apply bN|((first|apply bD|apply bEq|apply bNe)<;>intro hh<;>try(exfalso;omega))|(refine apI (by simp[AV.one,iA]) (by simp only[List.length_cons,List.length_nil];omega) ?_)|refine wJ ?_|refine nJ ?_)<;>conv=>whnf))
  refine⟨j::l',?_,rfl,hV2⟩
  rw[sel_cons hx,List.map_append]
  exact(mA [(3,some 2)])
 ·rintro k l ⟨l',hk,hV',hall⟩ ⟨hk2,hV⟩
  have:l'=l:=cdR_inj hV'.2 hV.2 (hk.symm.trans hk2)
  subst this
  (conv=>whnf);(repeat'((first|apply bT|apply bF|apply bN|((first|apply bD|apply bEq|apply bNe)<;>intro hh<;>try(exfalso;omega))|refine wJ ?_|refine nJ ?_)<;>conv=>whnf))
  all_goals exact⟨selK K l',sel_perm hV' hall,rfl,rfl⟩
end Go.Proofs
