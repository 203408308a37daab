/- What is read as an argument of the laws of this program is one of the values that the contracts speak of. -/
import Derived.Test.YtjdklkkmmlephaaFns3
import Derived.Test.YtjdklkkmmlephaaRows
import Derived.ProofKit
set_option linter.unusedSimpArgs false
set_option linter.unusedVariables false
set_option linter.unusedSectionVars false
namespace Go.Proofs.Ytjdklkkmmlephaa
open Go.ChangeShapes Go.WideShapes Go.ChangeAt Go.RowKit Go.Eng Go.Joins
attribute [local irreducible] Go.Eng.brB Go.Eng.need Go.Eng.wrE Go.Eng.iaE Go.Eng.slE Go.Eng.apE Go.Eng.CallZ Go.Eng.CallE Go.Eng.VCallE Go.Eng.YldE Go.Eng.GoC Go.Eng.MeetsE Go.Eng.FnA Go.Eng.FnV
theorem Try.own:ownKnob Try.prog.godebug=none:=by kernel_rfl
theorem Try.laidOut:laidOutB Try.prog=true:=by kernel_rfl
def i1:List Sh:=[.int .i64]
def wordSh:List Sh:=[.int .i64, .int .i64, .int .i64, .sl i1]
def standSh:Sh:=.agg [.int .i64, .sl wordSh, .int .i64]
theorem rows_fits{α : Type}(f : α -> List AV){es:List Sh}(hf:∀l,Sh.fitsL es l->∃s,l=f s):∀ {rows:List (List AV)},(∀r∈rows,Sh.fitsL es r)->∃ss:List α,rows=ss.map f
 | [],_=>⟨[],rfl⟩
 |r::rows,h=>by
  obtain⟨s,rfl⟩:=hf r (h r (by simp))
  obtain⟨ss,rfl⟩:=rows_fits f hf (rows:=rows) fun r hr=>h r (by simp[hr])
  exact⟨s::ss,rfl⟩
theorem one_fits(l:List AV)(h:Sh.fitsL i1 l):∃s:Int,l=jAV s:=by
 simp only[i1,Sh.fitsL,Sh.fits]at h
 obtain⟨_,_,rfl,⟨a,rfl,_⟩,rfl⟩:=h
 exact⟨a,rfl⟩
theorem word_fits(l:List AV)(h:Sh.fitsL wordSh l):∃w:Word,l=w.av:=by
 simp only[wordSh,Sh.fitsL,Sh.fits]at h
 obtain⟨_,_,rfl,⟨a,rfl,_⟩,_,_,rfl,⟨b,rfl,_⟩,_,_,rfl,⟨c,rfl,_⟩,_,_,rfl,⟨rows,rfl,_,hr⟩,rfl⟩:=h
 obtain⟨ss,rfl⟩:=rows_fits jAV one_fits hr
 exact⟨⟨a,b,c,ss⟩,rfl⟩
theorem stand_fits{v:AV}(h:Sh.fits standSh v):∃s:Stand,v = .agg s.cells:=by
 simp only[standSh,Sh.fitsL,Sh.fits]at h
 obtain⟨_,rfl,_,_,rfl,⟨a,rfl,_⟩,_,_,rfl,⟨rows,rfl,_,hr⟩,_,_,rfl,⟨b,rfl,_⟩,rfl⟩:=h
 obtain⟨ws,rfl⟩:=rows_fits Word.av word_fits hr
 exact⟨⟨a,ws,b⟩,rfl⟩
theorem list_fits{v:AV}(h:Sh.fits (.sl i1) v):∃l:List Int,v = .isl (l.map jAV):=by
 simp only[Sh.fits]at h
 obtain⟨rows,rfl,hl,hr⟩:=h
 obtain⟨ts,rfl⟩:=rows_fits jAV one_fits hr
 exact⟨ts,rfl⟩
end Go.Proofs.Ytjdklkkmmlephaa
