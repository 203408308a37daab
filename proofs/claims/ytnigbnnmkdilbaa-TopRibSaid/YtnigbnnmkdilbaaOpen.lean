/- What is read as an argument of the laws of this program is one of the values that the contracts speak of. -/
import Derived.Test.YtnigbnnmkdilbaaFns1
import Derived.Test.YtnigbnnmkdilbaaRows
import Derived.ProofKit
set_option linter.unusedSimpArgs false
set_option linter.unusedVariables false
set_option linter.unusedSectionVars false
namespace Go.Proofs.Ytnigbnnmkdilbaa
open Go.ChangeShapes Go.WideShapes Go.ChangeAt Go.RowKit Go.Eng Go.Joins
attribute [local irreducible] Go.Eng.brB Go.Eng.need Go.Eng.wrE Go.Eng.iaE Go.Eng.slE Go.Eng.apE Go.Eng.CallZ Go.Eng.CallE Go.Eng.VCallE Go.Eng.YldE Go.Eng.GoC Go.Eng.MeetsE Go.Eng.FnA Go.Eng.FnV Go.Eng.ItA
theorem Try.own:ownKnob Try.prog.godebug=none:=by kernel_rfl
theorem Try.laidOut:laidOutB Try.prog=true:=by kernel_rfl
def i4:List Sh:=[.int .i64, .int .i64, .int .i64, .int .i64]
def i1:List Sh:=[.int .i64]
def slotSh:List Sh:=[.int .i64, .sl i1, .int .i64, .int .i64]
def mkSh:List Sh:=[.sl slotSh]
theorem rows_fits{α : Type}(f : α -> List AV){es:List Sh}(hf:∀l,Sh.fitsL es l->∃s,l=f s):∀ {rows:List (List AV)},(∀r∈rows,Sh.fitsL es r)->∃ss:List α,rows=ss.map f
 | [],_=>⟨[],rfl⟩
 |r::rows,h=>by
  obtain⟨s,rfl⟩:=hf r (h r (by simp))
  obtain⟨ss,rfl⟩:=rows_fits f hf (rows:=rows) fun r hr=>h r (by simp[hr])
  exact⟨s::ss,rfl⟩
theorem spare_fits(l:List AV)(h:Sh.fitsL i4 l):∃s:Spare,l=s.av:=by
 simp only[i4,Sh.fitsL,Sh.fits]at h
 obtain⟨_,_,rfl,⟨a,rfl,_⟩,_,_,rfl,⟨b,rfl,_⟩,_,_,rfl,⟨c,rfl,_⟩,_,_,rfl,⟨d,rfl,_⟩,rfl⟩:=h
 exact⟨⟨a,b,c,d⟩,rfl⟩
theorem trial_fits(l:List AV)(h:Sh.fitsL i4 l):∃s:Trial,l=s.av:=by
 simp only[i4,Sh.fitsL,Sh.fits]at h
 obtain⟨_,_,rfl,⟨a,rfl,_⟩,_,_,rfl,⟨b,rfl,_⟩,_,_,rfl,⟨c,rfl,_⟩,_,_,rfl,⟨d,rfl,_⟩,rfl⟩:=h
 exact⟨⟨a,b,c,d⟩,rfl⟩
theorem one_fits(l:List AV)(h:Sh.fitsL i1 l):∃s:Int,l=jAV s:=by
 simp only[i1,Sh.fitsL,Sh.fits]at h
 obtain⟨_,_,rfl,⟨a,rfl,_⟩,rfl⟩:=h
 exact⟨a,rfl⟩
theorem slot_fits(l:List AV)(h:Sh.fitsL slotSh l):∃s:Slot,l=s.av:=by
 simp only[slotSh,Sh.fitsL,Sh.fits]at h
 obtain⟨_,_,rfl,⟨a,rfl,_⟩,_,_,rfl,⟨rows,rfl,_,hr⟩,_,_,rfl,⟨b,rfl,_⟩,_,_,rfl,⟨c,rfl,_⟩,rfl⟩:=h
 obtain⟨ss,rfl⟩:=rows_fits jAV one_fits hr
 exact⟨⟨a,ss,b,c⟩,rfl⟩
theorem mk_fits(l:List AV)(h:Sh.fitsL mkSh l):∃s:List Slot,l=mkAV s:=by
 simp only[mkSh,Sh.fitsL,Sh.fits]at h
 obtain⟨_,_,rfl,⟨rows,rfl,_,hr⟩,rfl⟩:=h
 obtain⟨ss,rfl⟩:=rows_fits Slot.av slot_fits hr
 exact⟨ss,rfl⟩
def shopSh:Sh:=.agg [.sl i4, .sl mkSh, .int .i64, .sl i4]
theorem shop_fits{v:AV}(h:Sh.fits shopSh v):∃w:Shop,v = .agg w.cells:=by
 simp only[shopSh,Sh.fitsL,Sh.fits]at h
 obtain⟨_,rfl,_,_,rfl,⟨r1,rfl,_,h1⟩,_,_,rfl,⟨r2,rfl,_,h2⟩,_,_,rfl,⟨a,rfl,_⟩,_,_,rfl,⟨r3,rfl,_,h3⟩,rfl⟩:=h
 obtain⟨sp,rfl⟩:=rows_fits Spare.av spare_fits h1
 obtain⟨ms,rfl⟩:=rows_fits mkAV mk_fits h2
 obtain⟨ts,rfl⟩:=rows_fits Trial.av trial_fits h3
 exact⟨⟨sp,ms,a,ts⟩,rfl⟩
def i7:List Sh:=[.int .i64, .int .i64, .int .i64, .int .i64, .int .i64, .int .i64, .int .i64]
def frmSh:Sh:=.agg [.sl i7, .int .i64, .int .i64, .int .i64, .int .i64, .int .i64, .int .i64]
theorem i7_fits(l:List AV)(h:Sh.fitsL i7 l):∃s:Sec,l=s.av:=by
 simp only[i7,Sh.fitsL,Sh.fits]at h
 obtain⟨_,_,rfl,⟨a,rfl,_⟩,_,_,rfl,⟨b,rfl,_⟩,_,_,rfl,⟨c,rfl,_⟩,_,_,rfl,⟨d,rfl,_⟩,_,_,rfl,⟨e,rfl,_⟩,_,_,rfl,⟨f,rfl,_⟩,_,_,rfl,⟨g,rfl,_⟩,rfl⟩:=h
 exact⟨⟨a,b,c,d,e,f,g⟩,rfl⟩
theorem frm_fits{v:AV}(h:Sh.fits frmSh v):∃f:Frm,v = .agg f.cells:=by
 simp only[frmSh,Sh.fitsL,Sh.fits]at h
 obtain⟨_,rfl,_,_,rfl,⟨rows,rfl,hl,hr⟩,_,_,rfl,⟨b,rfl,_⟩,_,_,rfl,⟨c,rfl,_⟩,_,_,rfl,⟨d,rfl,_⟩,_,_,rfl,⟨e,rfl,_⟩,_,_,rfl,⟨f,rfl,_⟩,_,_,rfl,⟨g,rfl,_⟩,rfl⟩:=h
 obtain⟨ss,rfl⟩:=rows_fits Sec.av i7_fits hr
 exact⟨⟨ss,b,c,d,e,f,g⟩,rfl⟩
def fitSh:Sh:=.agg [.int .i64, .int .i64, .int .i64, .int .i64, .int .i64, .int .i64]
theorem fit_fits{v:AV}(h:Sh.fits fitSh v):∃(i s:Int) (t:Trial),v = .agg [.int .i64 i, .int .i64 s, .int .i64 t.sp, .int .i64 t.mkr, .int .i64 t.sl, .int .i64 t.ft]:=by
 simp only[fitSh,Sh.fitsL,Sh.fits]at h
 obtain⟨_,rfl,_,_,rfl,⟨a,rfl,_⟩,_,_,rfl,⟨b,rfl,_⟩,_,_,rfl,⟨c,rfl,_⟩,_,_,rfl,⟨d,rfl,_⟩,_,_,rfl,⟨e,rfl,_⟩,_,_,rfl,⟨f,rfl,_⟩,rfl⟩:=h
 exact⟨a,b,⟨c,d,e,f⟩,rfl⟩
end Go.Proofs.Ytnigbnnmkdilbaa
