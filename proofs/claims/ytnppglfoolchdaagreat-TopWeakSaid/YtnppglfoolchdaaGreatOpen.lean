/- What is read as an argument of the laws of this program is one of the values that the contracts speak of. -/
import Derived.Test.YtnppglfoolchdaaGreatFns3
import Derived.Test.YtnppglfoolchdaaGreatRows
import Derived.ProofKit
set_option linter.unusedSimpArgs false
set_option linter.unusedVariables false
set_option linter.unusedSectionVars false
namespace Go.Proofs.YtnppglfoolchdaaGreat
open Go.ChangeShapes Go.WideShapes Go.ChangeAt Go.RowKit Go.Eng Go.Joins
attribute [local irreducible] Go.Eng.brB Go.Eng.need Go.Eng.wrE Go.Eng.iaE Go.Eng.slE Go.Eng.apE Go.Eng.CallZ Go.Eng.CallE Go.Eng.VCallE Go.Eng.YldE Go.Eng.GoC Go.Eng.MeetsE Go.Eng.FnA Go.Eng.FnV
theorem Tryz.own:ownKnob Tryz.prog.godebug=none:=by kernel_rfl
theorem Tryz.laidOut:laidOutB Tryz.prog=true:=by kernel_rfl
def i7:List Sh:=[.int .i64, .int .i64, .int .i64, .int .i64, .int .i64, .int .i64, .int .i64]
def i2:List Sh:=[.int .i64, .int .i64]
def i1S:List Sh:=[.int .i64]
theorem rows_fits{α : Type}(f : α -> List AV){es:List Sh}(hf:∀l,Sh.fitsL es l->∃s,l=f s):∀ {rows:List (List AV)},(∀r∈rows,Sh.fitsL es r)->∃ss:List α,rows=ss.map f
 | [],_=>⟨[],rfl⟩
 |r::rows,h=>by
  obtain⟨s,rfl⟩:=hf r (h r (by simp))
  obtain⟨ss,rfl⟩:=rows_fits f hf (rows:=rows) fun r hr=>h r (by simp[hr])
  exact⟨s::ss,rfl⟩
theorem sec_fits(l:List AV)(h:Sh.fitsL i7 l):∃s:Sec,l=s.av:=by
 simp only[i7,Sh.fitsL,Sh.fits]at h
 obtain⟨_,_,rfl,⟨a,rfl,_⟩,_,_,rfl,⟨b,rfl,_⟩,_,_,rfl,⟨c,rfl,_⟩,_,_,rfl,⟨d,rfl,_⟩,_,_,rfl,⟨e,rfl,_⟩,_,_,rfl,⟨f,rfl,_⟩,_,_,rfl,⟨g,rfl,_⟩,rfl⟩:=h
 exact⟨⟨a,b,c,d,e,f,g⟩,rfl⟩
theorem pair_fits(l:List AV)(h:Sh.fitsL i2 l):∃s:Int × Int,l=s2 s:=by
 simp only[i2,Sh.fitsL,Sh.fits]at h
 obtain⟨_,_,rfl,⟨a,rfl,_⟩,_,_,rfl,⟨b,rfl,_⟩,rfl⟩:=h
 exact⟨(a,b),rfl⟩
theorem one_fits(l:List AV)(h:Sh.fitsL i1S l):∃s:Int,l=Go.Proofs.i1 s:=by
 simp only[i1S,Sh.fitsL,Sh.fits]at h
 obtain⟨_,_,rfl,⟨a,rfl,_⟩,rfl⟩:=h
 exact⟨a,rfl⟩
def i3S:List Sh:=[.int .i64, .int .i64, .int .i64]
theorem blw_fits(l:List AV)(h:Sh.fitsL i3S l):∃b:Blw,l=b.av:=by
 simp only[i3S,Sh.fitsL,Sh.fits]at h
 obtain⟨_,_,rfl,⟨a,rfl,_⟩,_,_,rfl,⟨b,rfl,_⟩,_,_,rfl,⟨c,rfl,_⟩,rfl⟩:=h
 exact⟨⟨a,b,c⟩,rfl⟩
theorem met_fits(l:List AV)(h:Sh.fitsL i2 l):∃m:Met,l=m.av:=by
 simp only[i2,Sh.fitsL,Sh.fits]at h
 obtain⟨_,_,rfl,⟨a,rfl,_⟩,_,_,rfl,⟨b,rfl,_⟩,rfl⟩:=h
 exact⟨⟨a,b⟩,rfl⟩
def runSh:Sh:=.agg [.sl i7, .int .i64, .int .i64, .int .i64, .int .i64, .int .i64, .int .i64, .sl i2, .sl i1S, .sl i3S, .sl i2, .int .i64]
theorem run_fits{v:AV}(h:Sh.fits runSh v):∃r:Ru,v = .agg r.cells:=by
 simp only[runSh,Sh.fitsL,Sh.fits]at h
 obtain⟨_,rfl,_,_,rfl,⟨r1,rfl,_,h1⟩,_,_,rfl,⟨a,rfl,_⟩,_,_,rfl,⟨b,rfl,_⟩,_,_,rfl,⟨c,rfl,_⟩,_,_,rfl,⟨e,rfl,_⟩,_,_,rfl,⟨f,rfl,_⟩,_,_,rfl,⟨g,rfl,_⟩,_,_,rfl,⟨r2,rfl,_,h2⟩,_,_,rfl,⟨r3,rfl,_,h3⟩,_,_,rfl,⟨r4,rfl,_,h4⟩,_,_,rfl,⟨r5,rfl,_,h5⟩,_,_,rfl,⟨w,rfl,_⟩,rfl⟩:=h
 obtain⟨ss,rfl⟩:=rows_fits Sec.av sec_fits h1
 obtain⟨rs,rfl⟩:=rows_fits s2 pair_fits h2
 obtain⟨sh,rfl⟩:=rows_fits Go.Proofs.i1 one_fits h3
 obtain⟨bs,rfl⟩:=rows_fits Blw.av blw_fits h4
 obtain⟨ms,rfl⟩:=rows_fits Met.av met_fits h5
 exact⟨⟨⟨⟨ss,a,b,c,e,f,g⟩,rs,sh⟩,bs,ms,w⟩,rfl⟩
theorem three_fits{v:AV}(h:Sh.fits (.agg i3S) v):∃a b c:Int,v = .agg [.int .i64 a, .int .i64 b, .int .i64 c]:=by
 simp only[i3S,Sh.fitsL,Sh.fits]at h
 obtain⟨_,rfl,_,_,rfl,⟨a,rfl,_⟩,_,_,rfl,⟨b,rfl,_⟩,_,_,rfl,⟨c,rfl,_⟩,rfl⟩:=h
 exact⟨a,b,c,rfl⟩
theorem num_fits{v:AV}(h:Sh.fits (.int .i64) v):∃a:Int,v = .int .i64 a:=by
 simp only[Sh.fits]at h
 obtain⟨a,rfl,_⟩:=h
 exact⟨a,rfl⟩
theorem list_fits{v:AV}(h:Sh.fits (.sl i1S) v):∃l:List Int,v = .isl (l.map Go.Proofs.i1)/\l.length<=9223372036854775807:=by
 simp only[Sh.fits]at h
 obtain⟨rows,rfl,hl,hr⟩:=h
 obtain⟨ts,rfl⟩:=rows_fits Go.Proofs.i1 one_fits hr
 rw[List.length_map]at hl
 exact⟨ts,rfl,Nat.le_trans hl (by decide)⟩
def realSh:Sh:=.agg [.sl i1S, .int .i64, .int .i64, .sl i1S]
theorem real_fits{v:AV}(h:Sh.fits realSh v):∃(f:List Int) (a s:Int) (ss:List Int),v = .agg [.isl (f.map Go.Proofs.i1), .int .i64 a, .int .i64 s, .isl (ss.map Go.Proofs.i1)]/\f.length<=9223372036854775807/\ss.length<=9223372036854775807:=by
 simp only[realSh,Sh.fits,Sh.fitsL]at h
 obtain⟨_,rfl,x,_,rfl,h1,_,_,rfl,⟨a,rfl,_⟩,_,_,rfl,⟨b,rfl,_⟩,y,_,rfl,h2,rfl⟩:=h
 obtain⟨f,rfl,hf⟩:=list_fits (v:=x) (by simpa only[Sh.fits]using h1)
 obtain⟨g,rfl,hg⟩:=list_fits (v:=y) (by simpa only[Sh.fits]using h2)
 exact⟨f,a,b,g,rfl,hf,hg⟩
end Go.Proofs.YtnppglfoolchdaaGreat
