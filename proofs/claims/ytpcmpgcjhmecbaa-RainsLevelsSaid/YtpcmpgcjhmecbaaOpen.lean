/- What is read as an argument of the laws of this program is one of the values that the contracts speak of. -/
import Derived.Test.YtpcmpgcjhmecbaaFns2
import Derived.Test.YtpcmpgcjhmecbaaRows
import Derived.ProofKit
set_option linter.unusedSimpArgs false
set_option linter.unusedVariables false
set_option linter.unusedSectionVars false
namespace Go.Proofs.Ytpcmpgcjhmecbaa
open Go.ChangeShapes Go.WideShapes Go.ChangeAt Go.RowKit Go.Eng Go.Joins
attribute [local irreducible] Go.Eng.brB Go.Eng.need Go.Eng.wrE Go.Eng.iaE Go.Eng.slE Go.Eng.apE Go.Eng.CallZ Go.Eng.CallE Go.Eng.VCallE Go.Eng.YldE Go.Eng.GoC Go.Eng.MeetsE Go.Eng.FnA Go.Eng.FnV
theorem Try.own:ownKnob Try.prog.godebug=none:=by kernel_rfl
theorem Try.laidOut:laidOutB Try.prog=true:=by kernel_rfl
def i1:List Sh:=[.int .i64]
def rainSh:List Sh:=[.int .i64, .int .i64, .int .i64]
def fairSh:List Sh:=[.int .i64, .sl i1]
def tourSh:Sh:=.agg [.int .i64, .int .i64, .sl rainSh, .int .i64, .sl fairSh, .int .i64, .int .i64]
def pairSh:Sh:=.agg [.int .i64, .int .i64]
theorem rows_fits{α : Type}(f : α -> List AV){es:List Sh}(hf:∀l,Sh.fitsL es l->∃s,l=f s):∀ {rows:List (List AV)},(∀r∈rows,Sh.fitsL es r)->∃ss:List α,rows=ss.map f
 | [],_=>⟨[],rfl⟩
 |r::rows,h=>by
  obtain⟨s,rfl⟩:=hf r (h r (by simp))
  obtain⟨ss,rfl⟩:=rows_fits f hf (rows:=rows) fun r hr=>h r (by simp[hr])
  exact⟨s::ss,rfl⟩
theorem one_fits(l:List AV)(h:Sh.fitsL i1 l):∃s:Int,l=jAV s:=by
 simp only[i1,Sh.fitsL,Sh.fits]at h
 obtain⟨_,_,rfl,⟨a,rfl,_⟩,rfl⟩:=h
 exact⟨a,rfl⟩
theorem list_fits{v:AV}(h:Sh.fits (.sl i1) v):∃l:List Int,v = .isl (l.map jAV)/\l.length<=9223372036854775807:=by
 simp only[Sh.fits]at h
 obtain⟨rows,rfl,hl,hr⟩:=h
 obtain⟨ts,rfl⟩:=rows_fits jAV one_fits hr
 rw[List.length_map]at hl
 exact⟨ts,rfl,Nat.le_trans hl (by decide)⟩
theorem rain_fits(l:List AV)(h:Sh.fitsL rainSh l):∃x:Rain,l=x.av:=by
 simp only[rainSh,Sh.fitsL,Sh.fits]at h
 obtain⟨_,_,rfl,⟨a,rfl,_⟩,_,_,rfl,⟨b,rfl,_⟩,_,_,rfl,⟨c,rfl,_⟩,rfl⟩:=h
 exact⟨⟨a,b,c⟩,rfl⟩
theorem fair_fits(l:List AV)(h:Sh.fitsL fairSh l):∃x:Fair,l=x.av:=by
 simp only[fairSh,Sh.fitsL]at h
 obtain⟨_,_,rfl,h1,_,_,rfl,h2,rfl⟩:=h
 simp only[Sh.fits]at h1
 obtain⟨a,rfl,_⟩:=h1
 obtain⟨s,rfl,_⟩:=list_fits h2
 exact⟨⟨a,s⟩,rfl⟩
theorem tour_fits{v:AV}(h:Sh.fits tourSh v):∃t:Tour,v = .agg t.cells:=by
 simp only[tourSh,Sh.fitsL,Sh.fits]at h
 obtain⟨_,rfl,_,_,rfl,⟨a,rfl,_⟩,_,_,rfl,⟨b,rfl,_⟩,_,_,rfl,⟨r1,rfl,_,hr1⟩,_,_,rfl,⟨c,rfl,_⟩,_,_,rfl,⟨r2,rfl,_,hr2⟩,_,_,rfl,⟨d,rfl,_⟩,_,_,rfl,⟨e,rfl,_⟩,rfl⟩:=h
 obtain⟨rs,rfl⟩:=rows_fits Rain.av rain_fits hr1
 obtain⟨fs,rfl⟩:=rows_fits Fair.av fair_fits hr2
 exact⟨⟨a,b,rs,c,fs,d,e⟩,rfl⟩
theorem pair_fits{v:AV}(h:Sh.fits pairSh v):∃a b:Int,v = .agg [.int .i64 a, .int .i64 b]:=by
 simp only[pairSh,Sh.fitsL,Sh.fits]at h
 obtain⟨_,rfl,_,_,rfl,⟨a,rfl,_⟩,_,_,rfl,⟨b,rfl,_⟩,rfl⟩:=h
 exact⟨a,b,rfl⟩
end Go.Proofs.Ytpcmpgcjhmecbaa
