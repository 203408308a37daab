/- What is read as an argument of the laws of this program is one of the values that the contracts speak of. -/
import Derived.Test.YthdggpljbnmffaaGreatCFns3
import Derived.Test.YthdggpljbnmffaaGreatRows
import Derived.ProofKit
set_option linter.unusedSimpArgs false
set_option linter.unusedVariables false
set_option linter.unusedSectionVars false
namespace Go.Proofs.YthdggpljbnmffaaGreat
open Go.ChangeShapes Go.WideShapes Go.ChangeAt Go.RowKit Go.Eng Go.Joins
attribute [local irreducible] Go.Eng.brB Go.Eng.need Go.Eng.wrE Go.Eng.iaE Go.Eng.slE Go.Eng.apE Go.Eng.CallZ Go.Eng.CallE Go.Eng.VCallE Go.Eng.YldE Go.Eng.GoC Go.Eng.MeetsE Go.Eng.FnA Go.Eng.FnV Go.Eng.ItM
theorem Tryz.own:ownKnob Tryz.prog.godebug=none:=by kernel_rfl
theorem Tryz.laidOut:laidOutB Tryz.prog=true:=by kernel_rfl
def i4:List Sh:=[.int .i64, .int .i64, .int .i64, .int .i64]
def i1:List Sh:=[.int .i64]
def slotSh:List Sh:=[.int .i64, .sl i1, .int .i64, .int .i64]
def mkSh:List Sh:=[.sl slotSh]
theorem rows_fits{α : Type}(f : α -> List AV){es:List Sh}(hf:∀l,Sh.fitsL es l->∃s,l=f s):∀ {rows:List (List AV)},(∀r∈rows,Sh.fitsL es r)->∃ss:List α,rows=ss.map f
 | [],_=>⟨[],rfl⟩
 |r::rows,h=>by
  obtain⟨s,rfl⟩:=hf r (h r (by simp))
  obtain⟨ss,rfl⟩:=rows_fits f hf (rows:=rows) fun r hr=>h r (by simp[hr])
  exact⟨s::ss,rfl⟩
theorem spare_fits(l:List AV)(h:Sh.fitsL i4 l):∃s:Spare,l=s.av:=by
 simp only[i4,Sh.fitsL,Sh.fits]at h
 obtain⟨_,_,rfl,⟨a,rfl,_⟩,_,_,rfl,⟨b,rfl,_⟩,_,_,rfl,⟨c,rfl,_⟩,_,_,rfl,⟨d,rfl,_⟩,rfl⟩:=h
 exact⟨⟨a,b,c,d⟩,rfl⟩
theorem trial_fits(l:List AV)(h:Sh.fitsL i4 l):∃s:Trial,l=s.av:=by
 simp only[i4,Sh.fitsL,Sh.fits]at h
 obtain⟨_,_,rfl,⟨a,rfl,_⟩,_,_,rfl,⟨b,rfl,_⟩,_,_,rfl,⟨c,rfl,_⟩,_,_,rfl,⟨d,rfl,_⟩,rfl⟩:=h
 exact⟨⟨a,b,c,d⟩,rfl⟩
theorem one_fits(l:List AV)(h:Sh.fitsL i1 l):∃s:Int,l=jAV s:=by
 simp only[i1,Sh.fitsL,Sh.fits]at h
 obtain⟨_,_,rfl,⟨a,rfl,_⟩,rfl⟩:=h
 exact⟨a,rfl⟩
theorem slot_fits(l:List AV)(h:Sh.fitsL slotSh l):∃s:Slot,l=s.av:=by
 simp only[slotSh,Sh.fitsL,Sh.fits]at h
 obtain⟨_,_,rfl,⟨a,rfl,_⟩,_,_,rfl,⟨rows,rfl,_,hr⟩,_,_,rfl,⟨b,rfl,_⟩,_,_,rfl,⟨c,rfl,_⟩,rfl⟩:=h
 obtain⟨ss,rfl⟩:=rows_fits jAV one_fits hr
 exact⟨⟨a,ss,b,c⟩,rfl⟩
theorem mk_fits(l:List AV)(h:Sh.fitsL mkSh l):∃s:List Slot,l=mkAV s:=by
 simp only[mkSh,Sh.fitsL,Sh.fits]at h
 obtain⟨_,_,rfl,⟨rows,rfl,_,hr⟩,rfl⟩:=h
 obtain⟨ss,rfl⟩:=rows_fits Slot.av slot_fits hr
 exact⟨ss,rfl⟩
def shopSh:Sh:=.agg [.sl i4, .sl mkSh, .int .i64, .sl i4]
theorem shop_fits{v:AV}(h:Sh.fits shopSh v):∃w:Shop,v = .agg w.cells:=by
 simp only[shopSh,Sh.fitsL,Sh.fits]at h
 obtain⟨_,rfl,_,_,rfl,⟨r1,rfl,_,h1⟩,_,_,rfl,⟨r2,rfl,_,h2⟩,_,_,rfl,⟨a,rfl,_⟩,_,_,rfl,⟨r3,rfl,_,h3⟩,rfl⟩:=h
 obtain⟨sp,rfl⟩:=rows_fits Spare.av spare_fits h1
 obtain⟨ms,rfl⟩:=rows_fits mkAV mk_fits h2
 obtain⟨ts,rfl⟩:=rows_fits Trial.av trial_fits h3
 exact⟨⟨sp,ms,a,ts⟩,rfl⟩
theorem list_fits{v:AV}(h:Sh.fits (.sl i1) v):∃l:List Int,v = .isl (l.map jAV):=by
 simp only[Sh.fits]at h
 obtain⟨rows,rfl,hl,hr⟩:=h
 obtain⟨ts,rfl⟩:=rows_fits jAV one_fits hr
 exact⟨ts,rfl⟩
theorem int_fits{k:IntKind}{v:AV}(h:Sh.fits (.int k) v):∃a:Int,v = .int k a/\(Lit.int k a).wf=true:=by
 simpa only[Sh.fits]using h
def askSh:Sh:=.agg [.int .i64, .int .i64, .int .i64]
theorem ask_fits{v:AV}(h:Sh.fits askSh v):∃a b c:Int,v = .agg [.int .i64 a, .int .i64 b, .int .i64 c]:=by
 simp only[askSh,Sh.fitsL,Sh.fits]at h
 obtain⟨_,rfl,_,_,rfl,⟨a,rfl,_⟩,_,_,rfl,⟨b,rfl,_⟩,_,_,rfl,⟨c,rfl,_⟩,rfl⟩:=h
 exact⟨a,b,c,rfl⟩
def i3:List Sh:=[.int .i64, .int .i64, .int .i64]
def pieceSh:List Sh:=[.int .i64, .int .i64, .int .i64, .int .i64, .sl i1]
def wishSh:List Sh:=[.sl i1, .int .i64, .int .i64, .int .i64, .int .i64, .int .i64]
theorem dlv_fits(l:List AV)(h:Sh.fitsL i3 l):∃s:Dlv,l=s.av:=by
 simp only[i3,Sh.fitsL,Sh.fits]at h
 obtain⟨_,_,rfl,⟨a,rfl,_⟩,_,_,rfl,⟨b,rfl,_⟩,_,_,rfl,⟨c,rfl,_⟩,rfl⟩:=h
 exact⟨⟨a,b,c⟩,rfl⟩
theorem piece_fits(l:List AV)(h:Sh.fitsL pieceSh l):∃s:Piece,l=s.av:=by
 simp only[pieceSh,Sh.fitsL,Sh.fits]at h
 obtain⟨_,_,rfl,⟨a,rfl,_⟩,_,_,rfl,⟨b,rfl,_⟩,_,_,rfl,⟨c,rfl,_⟩,_,_,rfl,⟨d,rfl,_⟩,_,_,rfl,⟨rows,rfl,_,hr⟩,rfl⟩:=h
 obtain⟨ss,rfl⟩:=rows_fits jAV one_fits hr
 exact⟨⟨a,b,c,d,ss⟩,rfl⟩
theorem wish_fits(l:List AV)(h:Sh.fitsL wishSh l):∃s:Wish,l=s.av:=by
 simp only[wishSh,Sh.fitsL,Sh.fits]at h
 obtain⟨_,_,rfl,⟨rows,rfl,_,hr⟩,_,_,rfl,⟨a,rfl,_⟩,_,_,rfl,⟨b,rfl,_⟩,_,_,rfl,⟨c,rfl,_⟩,_,_,rfl,⟨d,rfl,_⟩,_,_,rfl,⟨e,rfl,_⟩,rfl⟩:=h
 obtain⟨ss,rfl⟩:=rows_fits jAV one_fits hr
 exact⟨⟨ss,a,b,c,d,e⟩,rfl⟩
def ordSh:Sh:=.agg [.sl i4, .sl mkSh, .int .i64, .sl i4, .sl i1, .sl pieceSh, .sl wishSh, .sl i3, .int .i64]
theorem ord_fits{v:AV}(h:Sh.fits ordSh v):∃s:Ord,v = .agg s.cells:=by
 simp only[ordSh,Sh.fitsL,Sh.fits]at h
 obtain⟨_,rfl,_,_,rfl,⟨r1,rfl,_,h1⟩,_,_,rfl,⟨r2,rfl,_,h2⟩,_,_,rfl,⟨a,rfl,_⟩,_,_,rfl,⟨r3,rfl,_,h3⟩,_,_,rfl,⟨r4,rfl,_,h4⟩,_,_,rfl,⟨r5,rfl,_,h5⟩,_,_,rfl,⟨r6,rfl,_,h6⟩,_,_,rfl,⟨r7,rfl,_,h7⟩,_,_,rfl,⟨b,rfl,_⟩,rfl⟩:=h
 obtain⟨sp,rfl⟩:=rows_fits Spare.av spare_fits h1
 obtain⟨ms,rfl⟩:=rows_fits mkAV mk_fits h2
 obtain⟨ts,rfl⟩:=rows_fits Trial.av trial_fits h3
 obtain⟨st,rfl⟩:=rows_fits jAV one_fits h4
 obtain⟨ps,rfl⟩:=rows_fits Piece.av piece_fits h5
 obtain⟨ws,rfl⟩:=rows_fits Wish.av wish_fits h6
 obtain⟨ds,rfl⟩:=rows_fits Dlv.av dlv_fits h7
 exact⟨⟨⟨sp,ms,a,ts⟩,st,ps,ws,ds,b⟩,rfl⟩
end Go.Proofs.YthdggpljbnmffaaGreat
