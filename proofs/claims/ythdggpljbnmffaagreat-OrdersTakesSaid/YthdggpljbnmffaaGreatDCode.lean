/- The functions of this program as the walk reads them, each proved to be what the program holds. -/
import Derived.Test.YthdggpljbnmffaaGreatEng4
import Derived.Test.YthdggpljbnmffaaGreatProg
import Derived.KernelRfl
import Derived.Shelf.Spec.SlicesGrow
import Derived.Shelf.Slices.Clone
namespace Go.Proofs
open Go.Eng
set_option maxRecDepth 100000
end Go.Proofs
namespace Go.Eng
theorem FnA.cq{P:Program}{sg:List Res}{f:FuncId}{args args':List AV}{a:AV}{k:AV->Prop}(h:FnA P f args' (· = a))(hr:AV.puL args=true)(hz:AV.frzL sg 8 args=some args')(hk:k a):CallQ P sg f args k:=h.callq hr hz fun _ e=>by subst e;exact hk
theorem FnA.lq{P:Program}{sg:List Res}{f:FuncId}{args args':List AV}{a:AV}{k:AV->Prop}(h:FnA P f args' (· = a))(hz:AV.frzL sg 8 args=some args')(hf:a.flat=true)(hk:k a):CallQ P sg f args k:=h.lendq hz fun _ e=>by subst e;exact⟨hf,hk⟩
theorem FnA.zq{P:Program}{fl:Bool}{sg:List Res}{nm ct:Nat}{f:FuncId}{args args':List AV}{z:List (Nat × Res)}{a:AV}{k:List (Nat × Res)->AV->Prop}(h:FnA P f args' (· = a))(hz:AV.reachL sg args=some z)(hr:AV.frzL sg 8 args=some args')(hk:k z a):CallZQ P fl sg nm ct f args k:=h.callzq hz hr fun _ e=>by subst e;exact hk
theorem FnO.oq{P:Program}{fl:Bool}{sg:List Res}{nm ct:Nat}{f:FuncId}{args args':List AV}{z:List (Nat × Res)}{a:AV}{b:List (Nat × Res)}{k:List (Nat × Res)->AV->Prop}(h:FnO P f args' (fun r rows=>r=a/\rows=b))(hz:AV.reachL sg args=some z)(hr:AV.frzL sg 8 args=some args')(hb:rowsB ct b=true)(hk:k (z++nameR b nm) (a.rnr (posN b nm))):CallZQ P fl sg nm ct f args k:=h.callzq hz hr fun _ _ e=>by obtain⟨e,e'⟩:=e;subst e;subst e';exact⟨hb,hk⟩
theorem wJ{x:Int}{K:Int->Prop}(hk:K x)(h : -9223372036854775808<=x/\x<=9223372036854775807:=by omega):WrE .i64 x K:=wIn h hk
theorem nJ{p A:Prop}(k:A)(h:p:=by omega):Need p A:=nI h k
theorem iaJ{es:List (List AV)}{i:Int}{K:List AV->Prop}{cs:List AV}(hc:es.getD i.toNat []=cs)(hk:K cs)(h0:0<=i:=by omega)(h1:i<es.length:=by omega):IaE es i K:=iaI h0 h1 hc hk
theorem apJ{sz bytes:Nat}{xs ys:List (List AV)}{K:Prop}(hk:K)(h1:∀e∈ys,e.length=sz/\e.all AV.one=true:=by simp[AV.one])(h2:(xs.length+ys.length)*bytes<=140737488355328:=by(simp only[List.length_cons,List.length_nil];omega)):ApE sz bytes xs ys K:=apI h1 h2 hk
theorem mI{s s':St}(h:Meets (fun i=>i) (fun _=>false) s s':=by((repeat' apply And.intro)<;>first|rfl|exact True.intro|(intro hh;cases hh))):MeetsE s s':=meets_id h
theorem mR(i j:Nat){s s':St}(h:Meets (fun k=>match decide (k=i)with|true=>j|false=>k) (fun _=>false) s s':=by((repeat' apply And.intro)<;>first|rfl|exact True.intro|(intro hh;cases hh))):MeetsE s s':=meets_ren i j h
theorem mN(i:Nat){s s':St}(h:Meets (fun k=>k) (fun k=>decide (k=i)) s s':=by((repeat' apply And.intro)<;>first|rfl|exact True.intro|(intro hh;cases hh))):MeetsE s s':=meets_nil i h
theorem mA(l:List (Nat × Option Nat)){s s':St}(h:Meets (asN l) (asB l) s s':=by((repeat' apply And.intro)<;>first|rfl|exact True.intro|(intro hh;cases hh))):MeetsE s s':=meets_as l h
end Go.Eng
namespace Go.Proofs
open Go.Eng
@[reducible] def oR(l:List IOp)(c:CI):CI:=.seq (.reg l) c
@[reducible] def oM(d:Nat)(o:Ixo):IOp:=⟨none,some d,o⟩
@[reducible] def oS(o:Ixo):IOp:=⟨none,none,o⟩
@[reducible] def oG(g:Nat)(b:Bool)(p:IOp):IOp:=⟨some (g,b),p.d,p.o⟩
@[reducible] def oV(d t:Nat):IOp:=⟨none,some d, .mv (.t t)⟩
@[reducible] def oL(d t:Nat):IOp:=⟨none,some d, .load false 1 (.t t)⟩
@[reducible] def oW(d n t:Nat):IOp:=⟨none,some d, .load true n (.t t)⟩
@[reducible] def oF(d k t:Nat):IOp:=⟨none,some d, .faddr k (.t t)⟩
@[reducible] def oI(d n a b:Nat):IOp:=⟨none,some d, .iaddr n (.t a) (.t b)⟩
@[reducible] def oN(d t:Nat):IOp:=⟨none,some d, .len (.t t)⟩
@[reducible] def oX(d k t:Nat):IOp:=⟨none,some d, .extract k (.t t)⟩
@[reducible] def oK(n:Int):Opd:=.c (.int .i64 n)
@[reducible] def oZ:Opd:=.c .nils
def c12:CI:=(oR [oM 2 (.box 0 true (.t 0)),oM 4 (.mv (.c (.bool false)))] (.seq (oR [oW 11 9 2,oM 12 (.call 30 [(.t 11)]),oV 13
 12,oG 13 false (oV 14 1),oG 13 false (oN 15 14),oG 13 false (oM 16 (.bin .gtr (.t 15) (oK 40))),oM 17 (.pick (.t 13) (.c (.bool true)) (.t 16))] (.cond
 (.t 17) (oR [oM 18 (.call 17 []),oV 4 18] .ret) .skip)) (oR [oW 19 9 2,oM 20 (.callw 1 7 24 [(.t 19)]),oM 21 (.bsl 8 3 1 [] []),oV
 22 1,oM 23 (.apd 9 3 1 8 (.t 21) (.t 22) []),oM 5 (.alloc 10 [.nils, .nils,(.int .i64 0), .nils, .nils, .nils, .nils, .nils,(.int .i64 0)]),oS (.stz
 true 9 (.t 5) (.t 20) []),oV 6 23] (oR [oW 25 9 5,oV 26 6,oM 27 (.call 19 [(.t 25),(.t 26)]),oV 24 27,oX 28 0 24,oX 29 1 24,oV 7 28,oV
 8 29] (oR [oW 31 9 2,oV 32 1,oM 33 (.call 41 [(.t 31),(.t 32)]),oV 30 33,oX 34 0 30,oX 35 1 30,oV 9 34,oV 10 35] (oR [oV 36 7,
 oV 37 9,oM 38 (.bin .eql (.t 36) (.t 37)),oV 39 38,oG 39 true (oV 40 8),oG 39 true (oV 41 10),oG 39 true (oM 42 (.bin .eql (.t 40) (.t 41))),oM 43
 (.pick (.t 39) (.t 42) (.c (.bool false))),oV 44 43,oG 44 true (oW 45 9 5),oG 44 true (oW 46 9 2),oG 44 true (oM 47 (.call 37 [(.t 45),(.t 46)])),
 oM 48 (.pick (.t 44) (.t 47) (.c (.bool false))),oV 49 48,oG 49 true (oV 50 6),oG 49 true (oV 51 1),oG 49 true (oM 52 (.call 36 [(.t 50),(.t 51)])),
 oM 53 (.pick (.t 49) (.t 52) (.c (.bool false))),oV 54 53,oG 54 true (oM 55 (.call 17 [])),oM 56 (.pick (.t 54) (.t 55) (.c (.bool false))),oV 4 56]
 .ret))))))
theorem ok12:FnOk Tryz.prog 12 57 11 c12 [.t 4]:=⟨_,_,Tryz.func12,rfl,rfl,by kernel_rfl,by kernel_rfl⟩
theorem bd12:bodied Tryz.prog 12=true:=by kernel_rfl
def c13:CI:=(oR [oM 1 (.box 0 true (.t 0)),oM 2 (.mv (.c (.bool false)))] (.seq (oR [oW 9 9 1,oM 10 (.call 30 [(.t 9)])] (.cond
 (.t 10) (oR [oM 11 (.call 17 []),oV 2 11] .ret) .skip)) (oR [oW 13 9 1,oM 14 (.callw 1 7 24 [(.t 13)]),oM 15 (.callw 8 1 42 [(.t 14)]),
 oV 12 15,oX 16 0 12,oX 17 1 12,oV 3 16,oV 4 17] (oR [oW 19 9 1,oM 20 (.call 38 [(.t 19)]),oV 18 20,oX 21 0 18,oX 22 1 18,oV 5 21,oV
 6 22] (.seq (oR [oV 23 4,oV 24 6,oM 25 (.bin .neq (.t 23) (.t 24)),oV 26 25,oG 26 false (oV 27 4),oG 26 false (oM 28 (.bin .neq (.t 27) (oK
 0))),oM 29 (.pick (.t 26) (.c (.bool true)) (.t 28))] (.cond (.t 29) (oR [oV 30 4,oV 31 6,oM 32 (.bin .eql (.t 30) (.t 31)),oV 33 32,oG 33
 true (oV 34 3),oG 33 true (oN 35 34),oG 33 true (oM 36 (.bin .eql (.t 35) (oK 0))),oM 37 (.pick (.t 33) (.t 36) (.c (.bool false))),oV 38 37,oG 38
 true (oM 39 (.call 17 [])),oM 40 (.pick (.t 38) (.t 39) (.c (.bool false))),oV 2 40] .ret) .skip)) (oR [oW 42 9 1,oV 43 3,oM 44 (.call 41
 [(.t 42),(.t 43)]),oV 41 44,oX 45 0 41,oX 46 1 41,oV 7 45,oV 8 46] (oR [oV 47 8,oM 48 (.bin .eql (.t 47) (oK 0)),oV 49 48,oG 49 true
 (oV 50 7),oG 49 true (oV 51 5),oG 49 true (oM 52 (.bin .eql (.t 50) (.t 51))),oM 53 (.pick (.t 49) (.t 52) (.c (.bool false))),oV 54 53,oG 54 true
 (oM 55 (.call 17 [])),oM 56 (.pick (.t 54) (.t 55) (.c (.bool false))),oV 2 56] .ret)))))))
theorem ok13:FnOk Tryz.prog 13 57 9 c13 [.t 2]:=⟨_,_,Tryz.func13,rfl,rfl,by kernel_rfl,by kernel_rfl⟩
theorem bd13:bodied Tryz.prog 13=true:=by kernel_rfl
def c16:CI:=(oR [oM 2 (.box 0 true (.t 0)),oM 4 (.mv (.c (.bool false)))] (.seq (oR [oM 5 (.mv (oK 0))] (.block 0 (.loop (.seq (oR [oV 7 5,oV 8 1,oN 9 8,oM 10 (.bin .lss (.t 7) (.t 9))] (.cond (.t 10) .skip (.exit 0))) (.seq (.block 1 (.seq (oR [oV 13 1,oV 14 5,
 oI 15 1 13 14,oL 16 15,oM 17 (.bin .neq (.t 16) (oK (-1))),oV 18 17,oG 18 true (oW 19 9 2),oG 18 true (oV 20 1),oG 18 true (oV 21 5),oG 18 true
 (oI 22 1 20 21),oG 18 true (oL 23 22),oG 18 true (oM 24 (.call 52 [(.t 19),(.t 23)])),oG 18 true (oM 25 (.un .not (.t 24))),oM 26 (.pick (.t 18) (.t
 25) (.c (.bool false)))] (.cond (.t 26) (oR [oM 4 (.mv (.c (.bool false)))] .ret) .skip)) (oR [oM 6 (.mv (oK 0))] (.block 2 (.loop (.seq
 (oR [oV 27 6,oV 28 5,oM 29 (.bin .lss (.t 27) (.t 28))] (.cond (.t 29) .skip (.exit 2))) (.seq (.block 3 (oR [oV 32 1,oV 33 6,oI 34
 1 32 33,oL 35 34,oV 36 1,oV 37 5,oI 38 1 36 37,oL 39 38,oM 40 (.bin .eql (.t 35) (.t 39)),oV 41 40,oG 41 true (oV 42 1),oG 41 true (oV 43 5),
 oG 41 true (oI 44 1 42 43),oG 41 true (oL 45 44),oG 41 true (oM 46 (.bin .neq (.t 45) (oK (-1)))),oM 47 (.pick (.t 41) (.t 46) (.c (.bool false)))]
 (.cond (.t 47) (oR [oM 4 (.mv (.c (.bool false)))] .ret) .skip))) (.reg [oV 30 6,oM 31 (.bin .add (.t 30) (oK 1)),oV 6 31])))))))) (.reg [oV
 11 5,oM 12 (.bin .add (.t 11) (oK 1)),oV 5 12])))))) (oR [oV 48 1,oN 49 48,oF 50 6 2,oL 51 50,oN 52 51,oM 53 (.bin .eql (.t 49) (.t 52)),
 oV 4 53] .ret)))
theorem ok16:FnOk Tryz.prog 16 54 1 c16 [.t 4]:=⟨_,_,Tryz.func16,rfl,rfl,by kernel_rfl,by kernel_rfl⟩
theorem bd16:bodied Tryz.prog 16=true:=by kernel_rfl
def c17:CI:=(oR [oM 0 (.mv (.c (.bool false)))] (oR [oM 12 (.callw 0 7 53 []),oM 1 (.alloc 7 [.nils, .nils,(.int .i64 0), .nils,
 .nils, .nils, .nils, .nils,(.int .i64 0)]),oS (.stz true 9 (.t 1) (.t 12) [])] (oR [oW 14 9 1,oM 15 (.call 18 [(.t 14)]),oV 13 15,oX 16 0
 13,oX 17 1 13,oV 2 16,oV 3 17] (oR [oW 19 9 1,oM 20 (.callw 8 1 22 [(.t 19),(oK 2)]),oV 18 20,oX 21 0 18,oX 22 1 18,oV 4 21,oV 5 22]
 (oR [oW 24 9 1,oM 25 (.call 28 [(.t 24),(oK 1)]),oV 23 25,oX 26 0 23,oX 27 1 23,oV 6 26,oV 7 27] (oR [oW 29 9 1,oM 30 (.call 26
 [(.t 29)]),oV 28 30,oX 31 0 28,oX 32 1 28,oV 8 31,oV 9 32] (oR [oW 34 9 1,oM 35 (.call 33 [(.t 34),(oK 0),(oK 0)]),oV 33 35,oX 36 0
 33,oX 37 1 33,oV 10 36,oV 11 37] (oR [oV 38 3,oM 39 (.bin .eql (.t 38) (oK 0)),oV 40 39,oG 40 true (oV 41 5),oG 40 true (oM 42 (.bin .eql
 (.t 41) (oK 0))),oM 43 (.pick (.t 40) (.t 42) (.c (.bool false))),oV 44 43,oG 44 true (oV 45 7),oG 44 true (oM 46 (.bin .eql (.t 45) (oK 0))),oM 47
 (.pick (.t 44) (.t 46) (.c (.bool false))),oV 48 47,oG 48 true (oV 49 9),oG 48 true (oM 50 (.bin .eql (.t 49) (oK 0))),oM 51 (.pick (.t 48) (.t 50)
 (.c (.bool false))),oV 52 51,oG 52 true (oV 53 11),oG 52 true (oM 54 (.bin .eql (.t 53) (oK 0))),oM 55 (.pick (.t 52) (.t 54) (.c (.bool false))),
 oV 56 55,oG 56 true (oV 57 2),oG 56 true (oM 58 (.bin .eql (.t 57) (oK 1600))),oM 59 (.pick (.t 56) (.t 58) (.c (.bool false))),oV 60 59,oG 60 true
 (oV 61 4),oG 60 true (oM 62 (.bsl 9 3 1 [(oK 2),(oK 3)] [])),oG 60 true (oM 63 (.call 36 [(.t 61),(.t 62)])),oM 64 (.pick (.t 60) (.t 63) (.c (.bool
 false))),oV 65 64,oG 65 true (oV 66 6),oG 65 true (oM 67 (.bin .eql (.t 66) (oK 1200))),oM 68 (.pick (.t 65) (.t 67) (.c (.bool false))),oV 69 68,
 oG 69 true (oV 70 8),oG 69 true (oM 71 (.bin .eql (.t 70) (oK 2))),oM 72 (.pick (.t 69) (.t 71) (.c (.bool false))),oV 73 72,oG 73 true (oV 74 10),
 oG 73 true (oM 75 (.bin .eql (.t 74) (oK 2))),oM 76 (.pick (.t 73) (.t 75) (.c (.bool false))),oV 0 76] .ret))))))))
theorem ok17:FnOk Tryz.prog 17 77 10 c17 [.t 0]:=⟨_,_,Tryz.func17,rfl,rfl,by kernel_rfl,by kernel_rfl⟩
theorem bd17:bodied Tryz.prog 17=true:=by kernel_rfl
def c18:CI:=(oR [oM 1 (.box 0 true (.t 0)),oM 2 (.mv (oK 0)),oM 3 (.mv (oK 0))] (oR [oW 7 9 1,oM 8 (.callw 1 0 54 [(.t 7),(.c
 (.bool true))]),oV 6 8,oX 9 0 6,oX 10 1 6,oV 4 9,oV 5 10] (.seq (oR [oV 11 5,oM 12 (.bin .neq (.t 11) (oK 0))] (.cond (.t 12) (oR [oV 13 5,oM 2 (.mv (oK 0)),oV 3 13] .ret) .skip)) (oR [oV 14 4,oM 15 (.callw 1 4 55 [(.t 14)]),oM 16 (.call 56 [(.t 15)]),oV 2 16,oM 3 (.mv
 (oK 0))] .ret))))
theorem ok18:FnOk Tryz.prog 18 17 5 c18 [.t 2, .t 3]:=⟨_,_,Tryz.func18,rfl,rfl,by kernel_rfl,by kernel_rfl⟩
theorem bd18:bodied Tryz.prog 18=true:=by kernel_rfl
def c19:CI:=(oR [oM 2 (.box 0 true (.t 0)),oM 4 (.mv (oK 0)),oM 5 (.mv (oK 0))] (oR [oW 11 9 2,oW 12 9 2,oV 13 1,oM 14 (.call
 57 [(.t 12),(.t 13)]),oM 15 (.callz 1 0 54 [(.t 11),(.t 14)] []),oV 10 15,oX 16 0 10,oX 17 1 10,oV 6 16,oV 7 17] (.seq (oR [oV 18 7,oM
 19 (.bin .neq (.t 18) (oK 0))] (.cond (.t 19) (oR [oV 20 7,oM 4 (.mv (oK 0)),oV 5 20] .ret) .skip)) (oR [oV 22 6,oV 23 1,oM 24 (.callw
 1 4 58 [(.t 22),(.t 23)]),oV 21 24,oX 25 0 21,oX 26 1 21,oM 8 (.alloc 5 [(.lit (.pointer none)), .nils,(.int .i64 0), .nils, .nils, .nils,(.int
 .i64 0)]),oS (.stz true 7 (.t 8) (.t 25) []),oV 9 26] (.seq (oR [oV 27 9,oM 28 (.un .not (.t 27)),oV 29 28,oG 29 false (oF 30 6 8),oG 29
 false (oL 31 30),oG 29 false (oM 32 (.bin .gtr (.t 31) (oK 0))),oM 33 (.pick (.t 29) (.c (.bool true)) (.t 32))] (.cond (.t 33) (oR [oM 4 (.mv
 (oK 0)),oM 5 (.mv (oK 3))] .ret) .skip)) (oR [oW 34 7 8,oM 35 (.call 56 [(.t 34)]),oV 4 35,oM 5 (.mv (oK 0))] .ret))))))
theorem ok19:FnOk Tryz.prog 19 36 6 c19 [.t 4, .t 5]:=⟨_,_,Tryz.func19,rfl,rfl,by kernel_rfl,by kernel_rfl⟩
theorem bd19:bodied Tryz.prog 19=true:=by kernel_rfl
def c21:CI:=(oR [oM 2 (.box 0 true (.t 0)),oM 4 (.mv (.c (.bool false)))] (oR [oW 5 9 2,oW 6 9 2,oV 8 1,oM 7 (.callz 1 1 60 [(.t
 6)] []),oM 9 (.call 59 [(.t 5),(.t 7),(.t 8)]),oV 4 9] .ret))
theorem ok21:FnOk Tryz.prog 21 10 2 c21 [.t 4]:=⟨_,_,Tryz.func21,rfl,rfl,by kernel_rfl,by kernel_rfl⟩
theorem bd21:bodied Tryz.prog 21=true:=by kernel_rfl
def c22:CI:=(oR [oM 2 (.box 0 true (.t 0)),oM 4 (.mv oZ),oM 5 (.mv (oK 0))] (oR [oW 12 9 2,oW 13 9 2,oV 14 1,oM 15 (.call 61
 [(.t 13),(.t 14)]),oM 16 (.callz 1 0 54 [(.t 12),(.t 15)] []),oV 11 16,oX 17 0 11,oX 18 1 11,oV 6 17,oV 7 18] (.seq (oR [oV 19 7,oM 20
 (.bin .neq (.t 19) (oK 0))] (.cond (.t 20) (oR [oV 21 7,oM 4 (.mv oZ),oV 5 21] .ret) .skip)) (oR [oM 8 (.mv oZ)] (.seq (oR [oV 22 6,oM 23 (.nilck (.t 22)),oF 24 11 23,oL 25 24,oV 26 1,oI 27 1 25 26,oL 28 27,oN 29 28,oM 30 (.mv (oK 0))] (.block 0 (.loop (oR [oM 31 (.bin .lss (.t 30) (.t 29))] (.seq (.cond (.t 31) .skip (.exit 0)) (.seq (.block 1 (oR [oI 32 2 28 30,oW 33 2 32,oM 10 (.alloc 1 [(.int
 .i64 0), .nils]),oS (.stz true 2 (.t 10) (.t 33) [])] (.seq (.alt [oV 34 6,oW 36 2 10,oM 35 (.callw 2 4 62 [(.t 34)]),oM 37 (.callz 6 4 63 [(.t 35),
 (.t 36)] []),oM 38 (.field false 1 6 (.t 37)),oM 39 (.bin .eql (.t 38) (oK 0))] [oV 34 6,oM 35 (.callw 2 4 62 [(.t 34)]),oW 36 2 10,oM 37 (.callz
 6 4 63 [(.t 35),(.t 36)] []),oM 38 (.field false 1 6 (.t 37)),oM 39 (.bin .eql (.t 38) (oK 0))]) (.cond (.t 39) (.reg [oV 40 8,oF 41 0 10,oL 42 41,
 oM 43 (.bsl 10 3 1 [(.t 42)] []),oM 44 (.apd 11 3 1 8 (.t 40) (.t 43) []),oV 8 44]) .skip)))) (.reg [oM 45 (.bin .add (.t 30) (oK 1)),oV 30 45])))))))
 (oR [oV 46 8,oV 4 46,oM 5 (.mv (oK 0))] .ret))))))
theorem ok22:FnOk Tryz.prog 22 47 12 c22 [.t 4, .t 5]:=⟨_,_,Tryz.func22,rfl,rfl,by kernel_rfl,by kernel_rfl⟩
theorem bd22:bodied Tryz.prog 22=true:=by kernel_rfl
def c24:CI:=(oR [oM 1 (.box 0 true (.t 0)),oM 2 (.alloc 1 [.nils, .nils,(.int .i64 0), .nils, .nils, .nils, .nils, .nils,(.int .i64 0)])]
 (oR [oW 6 9 1,oM 3 (.alloc 2 [.nils, .nils,(.int .i64 0), .nils, .nils, .nils, .nils, .nils,(.int .i64 0)]),oS (.stz true 9 (.t 3) (.t 6) [])]
 (oR [oF 7 0 1,oW 8 4 7,oM 9 (.callw 3 3 64 [(.t 8)]),oF 10 0 3,oS (.stz true 4 (.t 10) (.t 9) [])] (oR [oM 11 (.bsl 6 3 1 [] []),
 oF 12 4 1,oL 13 12,oM 14 (.apd 7 3 1 8 (.t 11) (.t 13) []),oF 15 4 3,oS (.stz false 1 (.t 15) (.t 14) [])] (oR [oF 17 5 1,oL 18 17,oF 21
 6 1,oL 22 21,oF 25 7 1,oL 26 25,oM 16 (.bsl 8 57 5 [] []),oM 19 (.apd 9 57 5 56 (.t 16) (.t 18) [(.t 21),(.t 25)]),oM 20 (.bsl 10 54 6 [] [(.t 16),
 (.t 18)]),oM 23 (.apd 11 54 6 64 (.t 20) (.t 22) [(.t 25)]),oM 24 (.bsl 12 45 3 [] [(.t 16),(.t 18),(.t 20),(.t 22)]),oM 27 (.apd 13 45 3 24 (.t
 24) (.t 26) []),oF 28 5 3,oS (.stz false 1 (.t 28) (.t 19) []),oF 29 6 3,oS (.stz false 1 (.t 29) (.t 23) []),oF 30 7 3,oS (.stz false 1 (.t 30)
 (.t 27) [])] (.seq (oR [oM 4 (.mv (oK 0))] (.block 0 (.loop (.seq (oR [oV 31 4,oF 32 5 3,oL 33 32,oN 34 33,oM 35 (.bin .lss (.t 31)
 (.t 34))] (.cond (.t 35) .skip (.exit 0))) (.seq (.block 1 (.reg [oF 38 5 3,oL 39 38,oV 40 4,oF 42 5 1,oL 43 42,oV 44 4,oI 45 5 43 44,oF 46 4 45,
 oL 47 46,oM 41 (.bsl 14 3 1 [] []),oM 48 (.apd 15 3 1 8 (.t 41) (.t 47) [(.t 38)]),oI 49 5 39 40,oF 50 4 49,oS (.stz false 1 (.t 50) (.t 48) [])]))
 (.reg [oV 36 4,oM 37 (.bin .add (.t 36) (oK 1)),oV 4 37])))))) (.seq (oR [oM 5 (.mv (oK 0))] (.block 2 (.loop (.seq (oR [oV 51 5,oF
 52 6 3,oL 53 52,oN 54 53,oM 55 (.bin .lss (.t 51) (.t 54))] (.cond (.t 55) .skip (.exit 2))) (.seq (.block 3 (.reg [oF 58 6 3,oL 59 58,oV 60 5,oF
 62 6 1,oL 63 62,oV 64 5,oI 65 6 63 64,oF 66 0 65,oL 67 66,oM 61 (.bsl 16 3 1 [] []),oM 68 (.apd 17 3 1 8 (.t 61) (.t 67) [(.t 58)]),oI 69 6 59
 60,oF 70 0 69,oS (.stz false 1 (.t 70) (.t 68) [])])) (.reg [oV 56 5,oM 57 (.bin .add (.t 56) (oK 1)),oV 5 57])))))) (oR [oW 71 9 3,oS (.stz
 true 9 (.t 2) (.t 71) [])] .ret))))))))
theorem ok24:FnOk Tryz.prog 24 72 18 c24 [.cell 2 true 9]:=⟨_,_,Tryz.func24,rfl,rfl,by kernel_rfl,by kernel_rfl⟩
theorem bd24:bodied Tryz.prog 24=true:=by kernel_rfl
def c26:CI:=(oR [oM 1 (.box 0 true (.t 0)),oM 2 (.mv (oK 0)),oM 3 (.mv (oK 0))] (oR [oW 8 9 1,oM 9 (.callw 1 0 54 [(.t 8),(.c
 (.bool true))]),oV 7 9,oX 10 0 7,oX 11 1 7,oV 4 10,oV 5 11] (.seq (oR [oV 12 5,oM 13 (.bin .neq (.t 12) (oK 0))] (.cond (.t 13) (oR [oV 14 5,oM 2 (.mv (oK 0)),oV 3 14] .ret) .skip)) (oR [oV 15 4,oM 16 (.callw 1 4 62 [(.t 15)]),oM 17 (.call 65 [(.t 16),(oK 25)]),oV 6 17]
 (.seq (oR [oV 18 6,oM 19 (.bin .eql (.t 18) (oK 25))] (.cond (.t 19) (oR [oM 2 (.mv (oK 0)),oM 3 (.mv (oK 3))] .ret) .skip)) (oR [oV 20 6,oV 2 20,oM 3 (.mv (oK 0))] .ret))))))
theorem ok26:FnOk Tryz.prog 26 21 5 c26 [.t 2, .t 3]:=⟨_,_,Tryz.func26,rfl,rfl,by kernel_rfl,by kernel_rfl⟩
theorem bd26:bodied Tryz.prog 26=true:=by kernel_rfl
def c28:CI:=(oR [oM 2 (.box 0 true (.t 0)),oM 4 (.mv (oK 0)),oM 5 (.mv (oK 0))] (.seq (oR [oW 7 9 2,oW 8 9 2,oV 9 1,oM 10 (.call
 68 [(.t 8),(.t 9)]),oM 11 (.call 67 [(.t 7),(.t 10)]),oV 6 11] (oR [oV 12 6,oM 13 (.bin .neq (.t 12) (oK 0))] (.cond (.t 13) (oR [oV 14 6,oM 4 (.mv (oK 0)),oV 5 14] .ret) .skip))) (oR [oF 15 7 2,oL 16 15,oV 17 1,oM 18 (.sli 3 (.t 16) none (some (.t 17))),oF 19 7 2,
 oL 20 19,oV 21 1,oM 22 (.bin .add (.t 21) (oK 1)),oM 23 (.sli 3 (.t 20) (some (.t 22)) none),oM 24 (.bsl 1 30 1 [(.t 18),(.t 23)] []),oM 25 (.callz
 2 1 69 [(.t 24)] []),oF 26 7 2,oS (.stz false 1 (.t 26) (.t 25) [])] (oR [oW 27 9 2,oM 28 (.call 18 [(.t 27)]),oX 29 0 28,oX 30 1 28,oV
 4 29,oV 5 30] .ret))))
theorem ok28:FnOk Tryz.prog 28 31 3 c28 [.t 4, .t 5]:=⟨_,_,Tryz.func28,rfl,rfl,by kernel_rfl,by kernel_rfl⟩
theorem bd28:bodied Tryz.prog 28=true:=by kernel_rfl
def c30:CI:=(oR [oM 1 (.box 0 true (.t 0)),oM 2 (.mv (.c (.bool false)))] (.seq (oR [oF 7 0 1,oW 8 4 7,oM 9 (.call 70 [(.t 8)]),
 oV 10 9,oG 10 false (oF 11 4 1),oG 10 false (oL 12 11),oG 10 false (oN 13 12),oG 10 false (oM 14 (.bin .gtr (.t 13) (oK 40))),oM 15 (.pick (.t 10)
 (.c (.bool true)) (.t 14)),oV 16 15,oG 16 false (oF 17 5 1),oG 16 false (oL 18 17),oG 16 false (oN 19 18),oG 16 false (oM 20 (.bin .gtr (.t 19) (oK
 40))),oM 21 (.pick (.t 16) (.c (.bool true)) (.t 20)),oV 22 21,oG 22 false (oF 23 6 1),oG 22 false (oL 24 23),oG 22 false (oN 25 24),oG 22 false
 (oM 26 (.bin .gtr (.t 25) (oK 40))),oM 27 (.pick (.t 22) (.c (.bool true)) (.t 26)),oV 28 27,oG 28 false (oF 29 7 1),oG 28 false (oL 30 29),oG 28
 false (oN 31 30),oG 28 false (oM 32 (.bin .gtr (.t 31) (oK 40))),oM 33 (.pick (.t 28) (.c (.bool true)) (.t 32))] (.cond (.t 33) (oR [oM 2 (.mv
 (.c (.bool true)))] .ret) .skip)) (.seq (oR [oM 3 (.mv (oK 0))] (.block 0 (.loop (.seq (oR [oV 34 3,oF 35 5 1,oL 36 35,oN 37 36,oM
 38 (.bin .lss (.t 34) (.t 37))] (.cond (.t 38) .skip (.exit 0))) (.seq (.block 1 (oR [oF 41 5 1,oL 42 41,oV 43 3,oI 44 5 42 43,oF 45 4 44,
 oL 46 45,oN 47 46,oM 48 (.bin .gtr (.t 47) (oK 40))] (.cond (.t 48) (oR [oM 2 (.mv (.c (.bool true)))] .ret) .skip))) (.reg [oV 39 3,oM 40
 (.bin .add (.t 39) (oK 1)),oV 3 40])))))) (.seq (oR [oM 4 (.mv (oK 0))] (.block 2 (.loop (.seq (oR [oV 49 4,oF 50 6 1,oL 51 50,oN
 52 51,oM 53 (.bin .lss (.t 49) (.t 52))] (.cond (.t 53) .skip (.exit 2))) (.seq (.block 3 (oR [oF 56 6 1,oL 57 56,oV 58 4,oI 59 6 57 58,oF
 60 0 59,oL 61 60,oN 62 61,oM 63 (.bin .gtr (.t 62) (oK 40))] (.cond (.t 63) (oR [oM 2 (.mv (.c (.bool true)))] .ret) .skip))) (.reg [oV 54
 4,oM 55 (.bin .add (.t 54) (oK 1)),oV 4 55])))))) (.seq (oR [oW 64 9 1,oM 65 (.call 32 [(.t 64)]),oM 66 (.bin .neq (.t 65) (oK 0))] (.cond
 (.t 66) (oR [oM 2 (.mv (.c (.bool false)))] .ret) .skip)) (oR [oM 5 (.mv (oK 0))] (.seq (oR [oM 6 (.mv (oK 0))] (.block 4 (.loop
 (.seq (oR [oV 67 6,oF 68 5 1,oL 69 68,oN 70 69,oM 71 (.bin .lss (.t 67) (.t 70))] (.cond (.t 71) .skip (.exit 4))) (.seq (.block 5 (.reg [oV
 74 5,oF 75 5 1,oL 76 75,oV 77 6,oI 78 5 76 77,oF 79 4 78,oL 80 79,oN 81 80,oM 82 (.bin .add (.t 74) (.t 81)),oV 5 82])) (.reg [oV 72 6,oM 73
 (.bin .add (.t 72) (oK 1)),oV 6 73])))))) (oR [oF 83 6 1,oL 84 83,oN 85 84,oM 86 (.bin .gtr (.t 85) (oK 3)),oV 87 86,oG 87 false (oF 88 5
 1),oG 87 false (oL 89 88),oG 87 false (oN 90 89),oG 87 false (oM 91 (.bin .gtr (.t 90) (oK 4))),oM 92 (.pick (.t 87) (.c (.bool true)) (.t 91)),oV
 93 92,oG 93 false (oF 94 7 1),oG 93 false (oL 95 94),oG 93 false (oN 96 95),oG 93 false (oM 97 (.bin .gtr (.t 96) (oK 3))),oM 98 (.pick (.t 93) (.c
 (.bool true)) (.t 97)),oV 99 98,oG 99 false (oV 100 5),oG 99 false (oM 101 (.bin .gtr (.t 100) (oK 4))),oM 102 (.pick (.t 99) (.c (.bool true)) (.t
 101)),oV 2 102] .ret))))))))
theorem ok30:FnOk Tryz.prog 30 103 1 c30 [.t 2]:=⟨_,_,Tryz.func30,rfl,rfl,by kernel_rfl,by kernel_rfl⟩
theorem bd30:bodied Tryz.prog 30=true:=by kernel_rfl
def c31:CI:=(oR [oM 1 (.box 0 true (.t 0)),oM 2 (.mv (oK 0))] (.seq (oR [oF 4 0 1,oW 5 4 4,oM 6 (.call 71 [(.t 5)]),oV 3 6] (oR [oV 7 3,oM 8 (.bin .neq (.t 7) (oK 0))] (.cond (.t 8) (oR [oV 9 3,oV 2 9] .ret) .skip))) (.seq (oR [oW 10 9 1,oM 11 (.call 72
 [(.t 10)]),oM 12 (.un .not (.t 11))] (.cond (.t 12) (oR [oM 2 (.mv (oK 80))] .ret) .skip)) (oR [oM 2 (.mv (oK 0))] .ret))))
theorem ok31:FnOk Tryz.prog 31 13 1 c31 [.t 2]:=⟨_,_,Tryz.func31,rfl,rfl,by kernel_rfl,by kernel_rfl⟩
theorem bd31:bodied Tryz.prog 31=true:=by kernel_rfl
def c32:CI:=(oR [oM 1 (.box 0 true (.t 0)),oM 2 (.mv (oK 0))] (.seq (oR [oF 9 0 1,oW 10 4 9,oM 11 (.call 73 [(.t 10)]),oV 3 11]
 (oR [oV 12 3,oM 13 (.bin .neq (.t 12) (oK 0))] (.cond (.t 13) (oR [oV 14 3,oV 2 14] .ret) .skip))) (.seq (oR [oF 15 4 1,oL
 16 15,oN 17 16,oF 18 0 1,oF 19 0 18,oL 20 19,oN 21 20,oM 22 (.bin .neq (.t 17) (.t 21)),oV 23 22,oG 23 false (oF 24 5 1),oG 23 false (oL 25 24),
 oG 23 false (oN 26 25),oG 23 false (oM 27 (.bin .gtr (.t 26) (oK 8))),oM 28 (.pick (.t 23) (.c (.bool true)) (.t 27)),oV 29 28,oG 29 false (oF 30 6
 1),oG 29 false (oL 31 30),oG 29 false (oN 32 31),oG 29 false (oM 33 (.bin .gtr (.t 32) (oK 6))),oM 34 (.pick (.t 29) (.c (.bool true)) (.t 33)),oV
 35 34,oG 35 false (oF 36 7 1),oG 35 false (oL 37 36),oG 35 false (oN 38 37),oG 35 false (oM 39 (.bin .gtr (.t 38) (oK 8))),oM 40 (.pick (.t 35) (.c
 (.bool true)) (.t 39)),oV 41 40,oG 41 false (oF 42 8 1),oG 41 false (oL 43 42),oG 41 false (oM 44 (.call 74 [(.t 43),(oK 0),(oK 99)])),oG 41 false
 (oM 45 (.un .not (.t 44))),oM 46 (.pick (.t 41) (.c (.bool true)) (.t 45))] (.cond (.t 46) (oR [oM 2 (.mv (oK 80))] .ret) .skip)) (.seq (oR [oM 4 (.mv (oK 0))] (.block 0 (.loop (.seq (oR [oV 47 4,oF 48 4 1,oL 49 48,oN 50 49,oM 51 (.bin .lss (.t 47) (.t 50))] (.cond (.t 51)
 .skip (.exit 0))) (.seq (.block 1 (oR [oF 54 4 1,oL 55 54,oV 56 4,oI 57 1 55 56,oL 58 57,oM 59 (.call 74 [(.t 58),(oK 0),(oK 10)]),oM 60
 (.un .not (.t 59))] (.cond (.t 60) (oR [oM 2 (.mv (oK 80))] .ret) .skip))) (.reg [oV 52 4,oM 53 (.bin .add (.t 52) (oK 1)),oV 4 53])))))) (.seq
 (oR [oM 5 (.mv (oK 0))] (.block 2 (.loop (.seq (oR [oV 61 5,oF 62 5 1,oL 63 62,oN 64 63,oM 65 (.bin .lss (.t 61) (.t 64))] (.cond
 (.t 65) .skip (.exit 2))) (.seq (.block 3 (oR [oW 68 9 1,oF 69 5 1,oL 70 69,oV 71 5,oI 72 5 70 71,oW 73 5 72,oM 74 (.call 75 [(.t 68),(.t
 73)]),oM 75 (.un .not (.t 74))] (.cond (.t 75) (oR [oM 2 (.mv (oK 80))] .ret) .skip))) (.reg [oV 66 5,oM 67 (.bin .add (.t 66) (oK 1)),oV
 5 67])))))) (.seq (oR [oM 6 (.mv (oK 0))] (.block 4 (.loop (.seq (oR [oV 76 6,oF 77 6 1,oL 78 77,oN 79 78,oM 80 (.bin .lss (.t 76)
 (.t 79))] (.cond (.t 80) .skip (.exit 4))) (.seq (.block 5 (oR [oF 83 6 1,oL 84 83,oV 85 6,oI 86 6 84 85,oW 87 6 86,oM 88 (.call 76 [(.t
 87)]),oM 89 (.un .not (.t 88))] (.cond (.t 89) (oR [oM 2 (.mv (oK 80))] .ret) .skip))) (.reg [oV 81 6,oM 82 (.bin .add (.t 81) (oK 1)),oV
 6 82])))))) (.seq (oR [oM 7 (.mv (oK 0))] (.block 6 (.loop (.seq (oR [oV 90 7,oF 91 7 1,oL 92 91,oN 93 92,oM 94 (.bin .lss (.t 90)
 (.t 93))] (.cond (.t 94) .skip (.exit 6))) (.seq (.block 7 (oR [oF 97 7 1,oL 98 97,oV 99 7,oI 100 3 98 99,oW 101 3 100,oM 8 (.alloc 1 [(.int
 .i64 0),(.int .i64 0),(.int .i64 0)]),oS (.store true 3 (.t 8) (.t 101) [])] (oR [oF 102 0 8,oL 103 102,oM 104 (.call 74 [(.t 103),(oK 0),
 (oK 99)]),oM 105 (.un .not (.t 104)),oV 106 105,oG 106 false (oF 107 1 8),oG 106 false (oL 108 107),oG 106 false (oF 109 0 1),oG 106 false (oF 110
 0 109),oG 106 false (oL 111 110),oG 106 false (oN 112 111),oG 106 false (oM 113 (.bin .sub (.t 112) (oK 1))),oG 106 false (oM 114 (.call 74 [(.t 108),
 (oK 0),(.t 113)])),oG 106 false (oM 115 (.un .not (.t 114))),oM 116 (.pick (.t 106) (.c (.bool true)) (.t 115)),oV 117 116,oG 117 false (oF 118 2
 8),oG 117 false (oL 119 118),oG 117 false (oM 120 (.call 74 [(.t 119),(oK 1),(oK 10)])),oG 117 false (oM 121 (.un .not (.t 120))),oM 122 (.pick (.t
 117) (.c (.bool true)) (.t 121))] (.cond (.t 122) (oR [oM 2 (.mv (oK 80))] .ret) .skip)))) (.reg [oV 95 7,oM 96 (.bin .add (.t 95) (oK 1)),
 oV 7 96])))))) (oR [oM 2 (.mv (oK 0))] .ret))))))))
theorem ok32:FnOk Tryz.prog 32 123 2 c32 [.t 2]:=⟨_,_,Tryz.func32,rfl,rfl,by kernel_rfl,by kernel_rfl⟩
theorem bd32:bodied Tryz.prog 32=true:=by kernel_rfl
def c33:CI:=(oR [oM 3 (.box 0 true (.t 0)),oM 6 (.mv (oK 0)),oM 7 (.mv (oK 0))] (.seq (oR [oW 9 9 3,oW 10 9 3,oV 11 1,oM 12 (.call
 61 [(.t 10),(.t 11)]),oV 13 12,oG 13 true (oW 14 9 3),oG 13 true (oV 15 2),oG 13 true (oM 16 (.call 77 [(.t 14),(.t 15)])),oM 17 (.pick (.t 13)
 (.t 16) (.c (.bool false))),oM 18 (.call 67 [(.t 9),(.t 17)]),oV 8 18] (oR [oV 19 8,oM 20 (.bin .neq (.t 19) (oK 0))] (.cond (.t 20) (oR [oV 21 8,oM 6 (.mv (oK 0)),oV 7 21] .ret) .skip))) (oR [oF 22 6 3,oL 23 22,oV 24 1,oI 25 6 23 24,oW 26 6 25,oF 27 5 3,oL 28 27,
 oV 29 2,oI 30 5 28 29,oW 31 5 30,oM 32 (.call 78 [(.t 26),(.t 31)]),oV 6 32,oM 7 (.mv (oK 0))] .ret)))
theorem ok33:FnOk Tryz.prog 33 33 1 c33 [.t 6, .t 7]:=⟨_,_,Tryz.func33,rfl,rfl,by kernel_rfl,by kernel_rfl⟩
theorem bd33:bodied Tryz.prog 33=true:=by kernel_rfl
def c36:CI:=(oR [oM 4 (.mv (.c (.bool false)))] (.seq (oR [oV 6 0,oN 7 6,oV 8 1,oN 9 8,oM 10 (.bin .neq (.t 7) (.t 9))] (.cond
 (.t 10) (oR [oM 4 (.mv (.c (.bool false)))] .ret) .skip)) (.seq (oR [oM 5 (.mv (oK 0))] (.block 0 (.loop (.seq (oR [oV 11 5,
 oV 12 0,oN 13 12,oM 14 (.bin .lss (.t 11) (.t 13))] (.cond (.t 14) .skip (.exit 0))) (.seq (.block 1 (oR [oV 17 0,oV 18 5,oI 19 1 17 18,oL
 20 19,oV 21 1,oV 22 5,oI 23 1 21 22,oL 24 23,oM 25 (.bin .neq (.t 20) (.t 24))] (.cond (.t 25) (oR [oM 4 (.mv (.c (.bool false)))] .ret)
 .skip))) (.reg [oV 15 5,oM 16 (.bin .add (.t 15) (oK 1)),oV 5 16])))))) (oR [oM 4 (.mv (.c (.bool true)))] .ret))))
theorem ok36:FnOk Tryz.prog 36 26 0 c36 [.t 4]:=⟨_,_,Tryz.func36,rfl,rfl,by kernel_rfl,by kernel_rfl⟩
theorem bd36:bodied Tryz.prog 36=true:=by kernel_rfl
def c37:CI:=(oR [oM 2 (.box 0 true (.t 0)),oM 3 (.box 1 true (.t 1)),oM 4 (.mv (.c (.bool false)))] (.seq (oR [oF 12 4 2,oL 13
 12,oF 14 4 3,oL 15 14,oM 16 (.call 36 [(.t 13),(.t 15)]),oM 17 (.un .not (.t 16)),oV 18 17,oG 18 false (oF 19 5 2),oG 18 false (oL 20 19),oG 18
 false (oN 21 20),oG 18 false (oF 22 5 3),oG 18 false (oL 23 22),oG 18 false (oN 24 23),oG 18 false (oM 25 (.bin .neq (.t 21) (.t 24))),oM 26 (.pick
 (.t 18) (.c (.bool true)) (.t 25)),oV 27 26,oG 27 false (oF 28 6 2),oG 27 false (oL 29 28),oG 27 false (oN 30 29),oG 27 false (oF 31 6 3),oG 27 false
 (oL 32 31),oG 27 false (oN 33 32),oG 27 false (oM 34 (.bin .neq (.t 30) (.t 33))),oM 35 (.pick (.t 27) (.c (.bool true)) (.t 34)),oV 36 35,oG 36 false
 (oF 37 7 2),oG 36 false (oL 38 37),oG 36 false (oN 39 38),oG 36 false (oF 40 7 3),oG 36 false (oL 41 40),oG 36 false (oN 42 41),oG 36 false (oM 43
 (.bin .neq (.t 39) (.t 42))),oM 44 (.pick (.t 36) (.c (.bool true)) (.t 43)),oV 45 44,oG 45 false (oF 46 8 2),oG 45 false (oL 47 46),oG 45 false (oF
 48 8 3),oG 45 false (oL 49 48),oG 45 false (oM 50 (.bin .neq (.t 47) (.t 49))),oM 51 (.pick (.t 45) (.c (.bool true)) (.t 50)),oV 52 51,oG 52 false
 (oF 53 0 2),oG 52 false (oF 54 0 53),oG 52 false (oL 55 54),oG 52 false (oN 56 55),oG 52 false (oF 57 0 3),oG 52 false (oF 58 0 57),oG 52 false (oL
 59 58),oG 52 false (oN 60 59),oG 52 false (oM 61 (.bin .neq (.t 56) (.t 60))),oM 62 (.pick (.t 52) (.c (.bool true)) (.t 61))] (.cond (.t 62) (oR [oM 4 (.mv (.c (.bool false)))] .ret) .skip)) (.seq (oR [oM 5 (.mv (oK 0))] (.block 0 (.loop (.seq (oR [oV 63 5,oF 64 5 2,oL
 65 64,oN 66 65,oM 67 (.bin .lss (.t 63) (.t 66))] (.cond (.t 67) .skip (.exit 0))) (.seq (.block 1 (oR [oF 70 5 2,oL 71 70,oV 72 5,oI 73
 5 71 72,oW 74 5 73,oF 75 5 3,oL 76 75,oV 77 5,oI 78 5 76 77,oW 79 5 78,oM 6 (.alloc 2 [(.int .i64 0),(.int .i64 0),(.int .i64 0),(.int .i64 0),
 .nils]),oM 7 (.alloc 3 [(.int .i64 0),(.int .i64 0),(.int .i64 0),(.int .i64 0), .nils]),oS (.stz true 5 (.t 6) (.t 74) [(.t 75),(.t 76),(.t 78)]),
 oS (.stz true 5 (.t 7) (.t 79) [])] (oR [oF 80 0 6,oL 81 80,oF 82 0 7,oL 83 82,oM 84 (.bin .neq (.t 81) (.t 83)),oV 85 84,oG 85 false (oF
 86 1 6),oG 85 false (oL 87 86),oG 85 false (oF 88 1 7),oG 85 false (oL 89 88),oG 85 false (oM 90 (.bin .neq (.t 87) (.t 89))),oM 91 (.pick (.t 85)
 (.c (.bool true)) (.t 90)),oV 92 91,oG 92 false (oF 93 2 6),oG 92 false (oL 94 93),oG 92 false (oF 95 2 7),oG 92 false (oL 96 95),oG 92 false (oM
 97 (.bin .neq (.t 94) (.t 96))),oM 98 (.pick (.t 92) (.c (.bool true)) (.t 97)),oV 99 98,oG 99 false (oF 100 3 6),oG 99 false (oL 101 100),oG 99 false
 (oF 102 3 7),oG 99 false (oL 103 102),oG 99 false (oM 104 (.bin .neq (.t 101) (.t 103))),oM 105 (.pick (.t 99) (.c (.bool true)) (.t 104)),oV 106 105,
 oG 106 false (oF 107 4 6),oG 106 false (oL 108 107),oG 106 false (oF 109 4 7),oG 106 false (oL 110 109),oG 106 false (oM 111 (.call 36 [(.t 108),(.t
 110)])),oG 106 false (oM 112 (.un .not (.t 111))),oM 113 (.pick (.t 106) (.c (.bool true)) (.t 112))] (.cond (.t 113) (oR [oM 4 (.mv (.c (.bool
 false)))] .ret) .skip)))) (.reg [oV 68 5,oM 69 (.bin .add (.t 68) (oK 1)),oV 5 69])))))) (.seq (oR [oM 8 (.mv (oK 0))] (.block 2 (.loop (.seq
 (oR [oV 114 8,oF 115 6 2,oL 116 115,oN 117 116,oM 118 (.bin .lss (.t 114) (.t 117))] (.cond (.t 118) .skip (.exit 2))) (.seq (.block 3 (oR [oF 121 6 2,oL 122 121,oV 123 8,oI 124 6 122 123,oW 125 6 124,oF 126 6 3,oL 127 126,oV 128 8,oI 129 6 127 128,oW 130 6 129,oM 9 (.alloc
 4 [.nils,(.int .i64 0),(.int .i64 0),(.int .i64 0),(.int .i64 0),(.int .i64 0)]),oM 10 (.alloc 5 [.nils,(.int .i64 0),(.int .i64 0),(.int .i64
 0),(.int .i64 0),(.int .i64 0)]),oS (.stz true 6 (.t 9) (.t 125) [(.t 126),(.t 127),(.t 129)]),oS (.stz true 6 (.t 10) (.t 130) [])] (oR [oF 131 0 9,oL 132 131,oF 133 0 10,oL 134 133,oM 135 (.call 36 [(.t 132),(.t 134)]),oM 136 (.un .not (.t 135)),oV 137 136,oG 137 false (oF 138
 1 9),oG 137 false (oW 139 2 138),oG 137 false (oF 140 1 10),oG 137 false (oW 141 2 140),oG 137 false (oM 142 (.eqs true (.node [(0,1,(.leaf true)),
 (1,1,(.leaf true))]) (.t 139) (.t 141))),oM 143 (.pick (.t 137) (.c (.bool true)) (.t 142)),oV 144 143,oG 144 false (oF 145 3 9),oG 144 false (oL
 146 145),oG 144 false (oF 147 3 10),oG 144 false (oL 148 147),oG 144 false (oM 149 (.bin .neq (.t 146) (.t 148))),oM 150 (.pick (.t 144) (.c (.bool
 true)) (.t 149)),oV 151 150,oG 151 false (oF 152 4 9),oG 151 false (oL 153 152),oG 151 false (oF 154 4 10),oG 151 false (oL 155 154),oG 151 false
 (oM 156 (.bin .neq (.t 153) (.t 155))),oM 157 (.pick (.t 151) (.c (.bool true)) (.t 156)),oV 158 157,oG 158 false (oF 159 5 9),oG 158 false (oL 160
 159),oG 158 false (oF 161 5 10),oG 158 false (oL 162 161),oG 158 false (oM 163 (.bin .neq (.t 160) (.t 162))),oM 164 (.pick (.t 158) (.c (.bool true))
 (.t 163))] (.cond (.t 164) (oR [oM 4 (.mv (.c (.bool false)))] .ret) .skip)))) (.reg [oV 119 8,oM 120 (.bin .add (.t 119) (oK 1)),oV 8 120]))))))
 (.seq (oR [oM 11 (.mv (oK 0))] (.block 4 (.loop (.seq (oR [oV 165 11,oF 166 7 2,oL 167 166,oN 168 167,oM 169 (.bin .lss (.t 165) (.t
 168))] (.cond (.t 169) .skip (.exit 4))) (.seq (.block 5 (oR [oF 172 7 2,oL 173 172,oV 174 11,oI 175 3 173 174,oW 176 3 175,oF 177 7 3,oL
 178 177,oV 179 11,oI 180 3 178 179,oW 181 3 180,oM 182 (.eqs true (.node [(0,1,(.leaf true)),(1,1,(.leaf true)),(2,1,(.leaf true))]) (.t 176)
 (.t 181))] (.cond (.t 182) (oR [oM 4 (.mv (.c (.bool false)))] .ret) .skip))) (.reg [oV 170 11,oM 171 (.bin .add (.t 170) (oK 1)),oV 11 171]))))))
 (oR [oM 4 (.mv (.c (.bool true)))] .ret))))))
theorem ok37:FnOk Tryz.prog 37 183 6 c37 [.t 4]:=⟨_,_,Tryz.func37,rfl,rfl,by kernel_rfl,by kernel_rfl⟩
theorem bd37:bodied Tryz.prog 37=true:=by kernel_rfl
def c38:CI:=(oR [oM 1 (.box 0 true (.t 0)),oM 2 (.mv (oK 0)),oM 3 (.mv (oK 0))] (.seq (oR [oW 10 9 1,oM 11 (.call 50 [(.t 10)]),
 oV 4 11] (oR [oV 12 4,oM 13 (.bin .neq (.t 12) (oK 0))] (.cond (.t 13) (oR [oV 14 4,oM 2 (.mv (oK 0)),oV 3 14] .ret) .skip))) (oR [oM 5 (.mv (oK 0))] (oR [oW 15 9 1,oM 16 (.callw 1 1 60 [(.t 15)]),oV 6 16] (oR [oW 17 9 1,oM 18 (.callw 2 1 83 [(.t 17),oZ]),
 oV 7 18] (.seq (oR [oM 8 (.mv (oK 0))] (.block 0 (.loop (.seq (oR [oV 19 8,oV 20 7,oN 21 20,oM 22 (.bin .lss (.t 19) (.t 21))] (.cond
 (.t 22) .skip (.exit 0))) (.seq (.block 1 (oR [oW 25 9 1,oV 26 7,oV 27 8,oI 28 1 26 27,oL 29 28,oM 30 (.call 84 [(.t 25),(.t 29)]),oV 9
 30] (oR [oV 31 9,oV 32 5,oM 33 (.bin .gtr (.t 31) (.t 32)),oV 34 33,oG 34 true (oW 35 9 1),oG 34 true (oV 36 6),oG 34 true (oV 37 7),oG
 34 true (oV 38 8),oG 34 true (oI 39 1 37 38),oG 34 true (oL 40 39),oG 34 true (oM 41 (.call 59 [(.t 35),(.t 36),(.t 40)])),oM 42 (.pick (.t 34) (.t
 41) (.c (.bool false)))] (.cond (.t 42) (.reg [oV 43 9,oV 5 43]) .skip)))) (.reg [oV 23 8,oM 24 (.bin .add (.t 23) (oK 1)),oV 8 24])))))) (oR [oV 44 5,oV 2 44,oM 3 (.mv (oK 0))] .ret)))))))
theorem ok38:FnOk Tryz.prog 38 45 3 c38 [.t 2, .t 3]:=⟨_,_,Tryz.func38,rfl,rfl,by kernel_rfl,by kernel_rfl⟩
theorem bd38:bodied Tryz.prog 38=true:=by kernel_rfl
def c41:CI:=(oR [oM 2 (.box 0 true (.t 0)),oM 4 (.mv (oK 0)),oM 5 (.mv (oK 0))] (.seq (oR [oW 7 9 2,oW 8 9 2,oV 9 1,oM 10 (.call
 16 [(.t 8),(.t 9)]),oM 11 (.call 81 [(.t 7),(.t 10)]),oV 6 11] (oR [oV 12 6,oM 13 (.bin .neq (.t 12) (oK 0))] (.cond (.t 13) (oR [oV 14 6,oM 4 (.mv (oK 0)),oV 5 14] .ret) .skip))) (.seq (oR [oW 15 9 2,oV 16 1,oM 17 (.call 21 [(.t 15),(.t 16)]),oM 18 (.un .not (.t 17))]
 (.cond (.t 18) (oR [oM 4 (.mv (oK 0)),oM 5 (.mv (oK 3))] .ret) .skip)) (oR [oW 19 9 2,oV 20 1,oM 21 (.call 84 [(.t 19),(.t 20)]),
 oV 4 21,oM 5 (.mv (oK 0))] .ret))))
theorem ok41:FnOk Tryz.prog 41 22 1 c41 [.t 4, .t 5]:=⟨_,_,Tryz.func41,rfl,rfl,by kernel_rfl,by kernel_rfl⟩
theorem bd41:bodied Tryz.prog 41=true:=by kernel_rfl
def c42:CI:=(oR [oM 1 (.box 0 true (.t 0)),oM 2 (.mv oZ),oM 3 (.mv (oK 0))] (oR [oW 7 9 1,oM 8 (.callw 1 0 54 [(.t 7),(.c (.bool
 true))]),oV 6 8,oX 9 0 6,oX 10 1 6,oV 4 9,oV 5 10] (.seq (oR [oV 11 5,oM 12 (.bin .neq (.t 11) (oK 0))] (.cond (.t 12) (oR [oV
 13 5,oM 2 (.mv oZ),oV 3 13] .ret) .skip)) (oR [oV 14 4,oM 15 (.callw 1 4 55 [(.t 14)]),oM 16 (.field false 1 1 (.t 15)),oV 2 16,oM 3 (.mv
 (oK 0))] .ret))))
theorem ok42:FnOk Tryz.prog 42 17 5 c42 [.t 2, .t 3]:=⟨_,_,Tryz.func42,rfl,rfl,by kernel_rfl,by kernel_rfl⟩
theorem bd42:bodied Tryz.prog 42=true:=by kernel_rfl
def c50:CI:=(oR [oM 1 (.box 0 true (.t 0)),oM 2 (.mv (oK 0))] (oR [oW 3 9 1,oM 4 (.call 81 [(.t 3),(.c (.bool true))]),oV 2 4]
 .ret))
theorem ok50:FnOk Tryz.prog 50 5 1 c50 [.t 2]:=⟨_,_,Tryz.func50,rfl,rfl,by kernel_rfl,by kernel_rfl⟩
theorem bd50:bodied Tryz.prog 50=true:=by kernel_rfl
def c52:CI:=(oR [oM 2 (.box 0 true (.t 0)),oM 4 (.mv (.c (.bool false)))] (oR [oV 5 1,oF 6 5 2,oL 7 6,oN 8 7,oM 9 (.bin .sub
 (.t 8) (oK 1)),oM 10 (.call 74 [(.t 5),(oK 0),(.t 9)]),oV 4 10] .ret))
theorem ok52:FnOk Tryz.prog 52 11 1 c52 [.t 4]:=⟨_,_,Tryz.func52,rfl,rfl,by kernel_rfl,by kernel_rfl⟩
theorem bd52:bodied Tryz.prog 52=true:=by kernel_rfl
def c53:CI:=(oR [oM 0 (.alloc 0 [.nils, .nils,(.int .i64 0), .nils, .nils, .nils, .nils, .nils,(.int .i64 0)])] (oR [oM 1 (.callw
 1 3 93 []),oM 2 (.bsl 4 3 1 [(oK 1),(oK 0),(oK 0),(oK 0)] []),oM 3 (.bsl 5 3 1 [(oK 0)] []),oM 4 (.build [(.int .i64 0),(.int .i64 0),(.int .i64
 0),(.int .i64 0), .nils] [(0,1,(oK 1)),(1,1,(oK 60)),(4,1,(.t 3))]),oM 5 (.build [(.int .i64 0),(.int .i64 0),(.int .i64 0),(.int .i64 0),
 .nils] [(0,1,(oK 1)),(1,1,(oK 60)),(2,1,(oK 7))]),oM 6 (.bsl 6 3 1 [(oK 0)] []),oM 7 (.build [(.int .i64 0),(.int .i64 0),(.int .i64 0),(.int
 .i64 0), .nils] [(0,1,(oK 2)),(1,1,(oK 65)),(3,1,(oK 1)),(4,1,(.t 6))]),oM 8 (.bsl 7 3 1 [(oK 0),(oK 1)] []),oM 9 (.build [(.int .i64 0),
 (.int .i64 0),(.int .i64 0),(.int .i64 0), .nils] [(0,1,(oK 2)),(1,1,(oK 60)),(4,1,(.t 8))]),oM 10 (.bsl 8 57 5 [(.t 4),(.t 5),(.t 7),(.t
 9)] []),oM 11 (.bsl 9 3 1 [(oK 1)] []),oM 12 (.build [(.int .i64 0),(.int .i64 0)] [(0,1,(oK 55)),(1,1,(oK 65))]),oM 13 (.build [.nils,(.int
 .i64 0),(.int .i64 0),(.int .i64 0),(.int .i64 0),(.int .i64 0)] [(0,1,(.t 11)),(1,2,(.t 12)),(3,1,(oK 7)),(4,1,(oK 3)),(5,1,(oK 500))]),
 oM 14 (.bsl 10 3 1 [(oK 1),(oK 2)] []),oM 15 (.build [(.int .i64 0),(.int .i64 0)] [(0,1,(oK 60)),(1,1,(oK 60))]),oM 16 (.build [.nils,(.int
 .i64 0),(.int .i64 0),(.int .i64 0),(.int .i64 0),(.int .i64 0)] [(0,1,(.t 14)),(1,2,(.t 15)),(4,1,(oK 5)),(5,1,(oK 400))]),oM 17 (.bsl
 11 3 1 [(oK 2)] []),oM 18 (.build [(.int .i64 0),(.int .i64 0)] [(0,1,(oK 60)),(1,1,(oK 70))]),oM 19 (.build [.nils,(.int .i64 0),(.int .i64
 0),(.int .i64 0),(.int .i64 0),(.int .i64 0)] [(0,1,(.t 17)),(1,2,(.t 18)),(3,1,(oK 9)),(4,1,(oK 8)),(5,1,(oK 700))]),oM 20 (.bsl 12
 3 1 [(oK 2)] []),oM 21 (.build [(.int .i64 0),(.int .i64 0)] [(0,1,(oK 65)),(1,1,(oK 65))]),oM 22 (.build [.nils,(.int .i64 0),(.int .i64 0),
 (.int .i64 0),(.int .i64 0),(.int .i64 0)] [(0,1,(.t 20)),(1,2,(.t 21)),(4,1,(oK 5)),(5,1,(oK 300))]),oM 23 (.bsl 13 54 6 [(.t 13),(.t 16),
 (.t 19),(.t 22)] []),oM 24 (.build [(.int .i64 0),(.int .i64 0),(.int .i64 0)] [(0,1,(oK 4)),(1,1,(oK 2)),(2,1,(oK 1))]),oM 25 (.build [(.int
 .i64 0),(.int .i64 0),(.int .i64 0)] [(0,1,(oK 6)),(1,1,(oK 3)),(2,1,(oK 1))]),oM 26 (.bsl 14 45 3 [(.t 24),(.t 25)] []),oM 27 (.build [.nils,
 .nils,(.int .i64 0), .nils, .nils, .nils, .nils, .nils,(.int .i64 0)] [(0,4,(.t 1)),(4,1,(.t 2)),(5,1,(.t 10)),(6,1,(.t 23)),(7,1,(.t 26)),
 (8,1,(oK 2))]),oS (.stz true 9 (.t 0) (.t 27) [])] .ret))
theorem ok53:FnOk Tryz.prog 53 28 15 c53 [.cell 0 true 9]:=⟨_,_,Tryz.func53,rfl,rfl,by kernel_rfl,by kernel_rfl⟩
theorem bd53:bodied Tryz.prog 53=true:=by kernel_rfl
def c54:CI:=(oR [oM 2 (.box 0 true (.t 0)),oM 4 (.mv (.c (.lit (.pointer none)))),oM 5 (.mv (oK 0))] (.seq (oR [oW 17 9 2,oV 18
 1,oM 19 (.call 67 [(.t 17),(.t 18)]),oV 6 19] (oR [oV 20 6,oM 21 (.bin .neq (.t 20) (oK 0))] (.cond (.t 21) (oR [oV 22 6,oM 4 (.mv
 (.c (.lit (.pointer none)))),oV 5 22] .ret) .skip))) (.seq (oR [oF 24 0 2,oW 25 4 24,oF 26 4 2,oL 27 26,oM 28 (.call 94 [(.t 25),(.t 27),
 oZ]),oV 23 28,oX 29 0 23,oX 30 1 23,oV 7 29,oV 8 30] (oR [oV 31 8,oM 32 (.bin .neq (.t 31) (oK 0))] (.cond (.t 32) (oR [oV 33 8,
 oM 4 (.mv (.c (.lit (.pointer none)))),oV 5 33] .ret) .skip))) (oR [oW 34 9 2,oM 35 (.mkm 1),oM 36 (.build [.nils, .nils,(.int .i64 0), .nils,
 .nils, .nils, .nils, .nils,(.int .i64 0), .nils,(.lit (.map none)), .nils] [(0,9,(.t 34)),(10,1,(.t 35))]),oM 37 (.box 2 true (.t 36)),oV 9 37]
 (.seq (oR [oF 38 4 2,oL 39 38,oN 40 39,oM 41 (.mv (oK 0))] (.block 0 (.loop (oR [oM 42 (.bin .lss (.t 41) (.t 40))] (.seq (.cond (.t
 42) .skip (.exit 0)) (.seq (.block 1 (oR [oV 43 41,oI 44 1 39 41,oL 45 44,oV 10 43,oV 11 45] (.reg [oV 46 9,oV 47 9,oM 48 (.nilck (.t 47)),
 oF 49 9 48,oL 50 49,oV 51 10,oV 52 11,oM 53 (.build [(.int .i64 0),(.int .i64 0),(.int .i64 0)] [(0,1,(oK 0)),(1,1,(.t 51)),(2,1,(.t 52))]),
 oM 54 (.bsl 3 45 3 [(.t 53)] []),oM 55 (.apd 4 45 3 24 (.t 50) (.t 54) []),oM 56 (.nilck (.t 46)),oF 57 9 56,oS (.stz false 1 (.t 57) (.t 55) [])])))
 (.reg [oM 58 (.bin .add (.t 41) (oK 1)),oV 41 58]))))))) (oR [oV 59 9,oV 60 9,oM 61 (.nilck (.t 60)),oF 62 9 61,oL 63 62,oF 64 7 2,oL 65
 64,oM 66 (.apd 5 45 3 24 (.t 63) (.t 65) []),oM 67 (.nilck (.t 59)),oF 68 9 67,oS (.stz false 1 (.t 68) (.t 66) [])] (.seq (oR [oF 69 5 2,
 oL 70 69,oN 71 70,oM 72 (.mv (oK 0))] (.block 2 (.loop (oR [oM 73 (.bin .lss (.t 72) (.t 71))] (.seq (.cond (.t 73) .skip (.exit 2)) (.seq
 (.block 3 (oR [oI 74 5 70 72,oW 75 5 74,oM 13 (.alloc 6 [(.int .i64 0),(.int .i64 0),(.int .i64 0),(.int .i64 0), .nils]),oS (.stz true 5
 (.t 13) (.t 75) [])] (oR [oF 76 4 13,oL 77 76,oN 78 77,oM 79 (.mv (oK 0))] (.block 4 (.loop (oR [oM 80 (.bin .lss (.t 79) (.t 78))]
 (.seq (.cond (.t 80) .skip (.exit 4)) (.seq (.block 5 (oR [oI 81 1 77 79,oL 82 81,oV 15 82] (.reg [oV 83 9,oF 84 3 13,oL 85 84,oV 86 15,
 oM 87 (.build [(.int .i64 0),(.int .i64 0)] [(0,1,(.t 85)),(1,1,(.t 86))]),oM 88 (.callw 7 0 95 [(.t 83),(.t 87)])]))) (.reg [oM 89 (.bin .add
 (.t 79) (oK 1)),oV 79 89]))))))))) (.reg [oM 90 (.bin .add (.t 72) (oK 1)),oV 72 90]))))))) (.seq (oR [oF 91 6 2,oL 92 91,oN 93 92,oM 94 (.mv
 (oK 0))] (.block 6 (.loop (oR [oM 95 (.bin .lss (.t 94) (.t 93))] (.seq (.cond (.t 95) .skip (.exit 6)) (.seq (.block 7 (oR [oV 96 94,
 oV 16 96] (.alt [oV 97 9,oV 98 9,oM 99 (.nilck (.t 98)),oF 100 11 99,oL 101 100,oV 102 9,oV 103 16,oM 104 (.callw 7 1 96 [(.t 102),(.t 103)]),
 oM 105 (.bsl 8 96 1 [(.t 104)] []),oM 106 (.apd 9 96 1 24 (.t 101) (.t 105) []),oM 107 (.nilck (.t 97)),oF 108 11 107,oS (.stz false 1 (.t 108) (.t
 106) [])] [oV 97 9,oV 98 9,oM 99 (.nilck (.t 98)),oF 100 11 99,oV 102 9,oV 103 16,oM 104 (.callw 7 1 96 [(.t 102),(.t 103)]),oL 101 100,oM 105
 (.bsl 8 96 1 [(.t 104)] []),oM 106 (.apd 9 96 1 24 (.t 101) (.t 105) []),oM 107 (.nilck (.t 97)),oF 108 11 107,oS (.stz false 1 (.t 108) (.t 106) [])])))
 (.reg [oM 109 (.bin .add (.t 94) (oK 1)),oV 94 109]))))))) (oR [oV 110 9,oV 4 110,oM 5 (.mv (oK 0))] .ret)))))))))
theorem ok54:FnOk Tryz.prog 54 111 10 c54 [.t 4, .t 5]:=⟨_,_,Tryz.func54,rfl,rfl,by kernel_rfl,by kernel_rfl⟩
theorem bd54:bodied Tryz.prog 54=true:=by kernel_rfl
def c55:CI:=(oR [oM 2 (.alloc 0 [(.lit (.pointer none)), .nils,(.int .i64 0), .nils, .nils, .nils,(.int .i64 0)])] (oR [oV 4 0,
 oM 5 (.callw 1 4 62 [(.t 4)]),oM 3 (.alloc 5 [(.lit (.pointer none)), .nils,(.int .i64 0), .nils, .nils, .nils,(.int .i64 0)]),oS (.stz true 7 (.t
 3) (.t 5) [])] (.seq (oR [oV 6 0,oM 7 (.nilck (.t 6)),oF 8 0 7,oF 9 6 8,oL 10 9,oN 11 10,oM 12 (.mv (oK 0))] (.block 0 (.loop (oR [oM 13 (.bin .lss (.t 12) (.t 11))] (.seq (.cond (.t 13) .skip (.exit 0)) (.seq (.block 1 (.reg [oW 14 7 3,oM 15 (.callw 6 4 97 [(.t 14)]),oS (.stz
 true 7 (.t 3) (.t 15) [])])) (.reg [oM 16 (.bin .add (.t 12) (oK 1)),oV 12 16]))))))) (.seq (.alt [oV 17 0,oW 19 7 3,oM 18 (.callw 10 4 62 [(.t 17)]),
 oM 20 (.callz 14 4 98 [(.t 18),(.t 19)] []),oS (.stz true 7 (.t 2) (.t 20) [])] [oV 17 0,oM 18 (.callw 10 4 62 [(.t 17)]),oW 19 7 3,oM 20 (.callz
 14 4 98 [(.t 18),(.t 19)] []),oS (.stz true 7 (.t 2) (.t 20) [])]) .ret))))
theorem ok55:FnOk Tryz.prog 55 21 18 c55 [.cell 2 true 7]:=⟨_,_,Tryz.func55,rfl,rfl,by kernel_rfl,by kernel_rfl⟩
theorem bd55:bodied Tryz.prog 55=true:=by kernel_rfl
def c56:CI:=(oR [oM 1 (.box 0 true (.t 0)),oM 2 (.mv (oK 0))] (oR [oF 6 2 1,oL 7 6,oM 8 (.un .neg (.t 7)),oV 3 8] (.seq (oR [oF 9 0 1,oL 10 9,oM 11 (.nilck (.t 10)),oF 12 0 11,oF 13 6 12,oL 14 13,oF 15 1 1,oL 16 15,oN 17 16,oM 18 (.sli 6 (.t 14) none (some (.t
 17))),oN 19 18,oM 20 (.mv (oK 0))] (.block 0 (.loop (oR [oM 21 (.bin .lss (.t 20) (.t 19))] (.seq (.cond (.t 21) .skip (.exit 0)) (.seq (.block
 1 (oR [oI 22 6 18 20,oW 23 6 22,oM 5 (.alloc 1 [.nils,(.int .i64 0),(.int .i64 0),(.int .i64 0),(.int .i64 0),(.int .i64 0)]),oS (.stz
 true 6 (.t 5) (.t 23) [])] (.reg [oV 24 3,oF 25 5 5,oL 26 25,oM 27 (.bin .add (.t 24) (.t 26)),oV 3 27]))) (.reg [oM 28 (.bin .add (.t 20) (oK 1)),
 oV 20 28]))))))) (oR [oV 29 3,oV 2 29] .ret))))
theorem ok56:FnOk Tryz.prog 56 30 2 c56 [.t 2]:=⟨_,_,Tryz.func56,rfl,rfl,by kernel_rfl,by kernel_rfl⟩
theorem bd56:bodied Tryz.prog 56=true:=by kernel_rfl
def c57:CI:=(oR [oM 2 (.box 0 true (.t 0)),oM 4 (.mv (.c (.bool false)))] (oR [oM 8 (.mkm 1),oV 5 8] (.seq (oR [oV 9 1,
 oN 10 9,oM 11 (.mv (oK 0))] (.block 0 (.loop (oR [oM 12 (.bin .lss (.t 11) (.t 10))] (.seq (.cond (.t 12) .skip (.exit 0)) (.seq (.block 1 (oR [oI 13 1 9 11,oL 14 13,oV 7 14] (.seq (oR [oV 15 7,oM 16 (.bin .neq (.t 15) (oK (-1))),oV 17 16,oG 17 true (oW 18 9 2),oG 17 true
 (oV 19 7),oG 17 true (oM 20 (.call 77 [(.t 18),(.t 19)])),oG 17 true (oM 21 (.un .not (.t 20))),oG 17 true (oV 22 21),oG 22 false (oV 23 5),oG 22
 false (oV 24 7),oG 22 false (oM 25 (.lkp .int false (.bool false) (.t 23) (.t 24))),oG 17 true (oM 26 (.pick (.t 22) (.c (.bool true)) (.t 25))),oM
 27 (.pick (.t 17) (.t 26) (.c (.bool false)))] (.cond (.t 27) (oR [oM 4 (.mv (.c (.bool false)))] .ret) .skip)) (.reg [oV 28 5,oV 29 7,oS (.mpu
 .int (.t 28) (.t 29) (.c (.bool true)) [])])))) (.reg [oM 30 (.bin .add (.t 11) (oK 1)),oV 11 30]))))))) (oR [oV 31 1,oN 32 31,oF 33 6 2,oL
 34 33,oN 35 34,oM 36 (.bin .eql (.t 32) (.t 35)),oV 4 36] .ret))))
theorem ok57:FnOk Tryz.prog 57 37 2 c57 [.t 4]:=⟨_,_,Tryz.func57,rfl,rfl,by kernel_rfl,by kernel_rfl⟩
theorem bd57:bodied Tryz.prog 57=true:=by kernel_rfl
def c58:CI:=(oR [oM 4 (.alloc 0 [(.lit (.pointer none)), .nils,(.int .i64 0), .nils, .nils, .nils,(.int .i64 0)]),oM 5 (.mv (.c (.bool false)))]
 (oR [oV 11 0,oM 12 (.callw 1 4 62 [(.t 11)]),oM 6 (.alloc 5 [(.lit (.pointer none)), .nils,(.int .i64 0), .nils, .nils, .nils,(.int .i64 0)]),
 oS (.stz true 7 (.t 6) (.t 12) [])] (.seq (oR [oV 13 1,oN 14 13,oM 15 (.mv (oK 0))] (.block 0 (.loop (oR [oM 16 (.bin .lss (.t 15)
 (.t 14))] (.seq (.cond (.t 16) .skip (.exit 0)) (.seq (.block 1 (oR [oV 17 15,oI 18 1 13 15,oL 19 18,oV 7 17,oV 8 19] (.seq (oR [oV
 20 8,oM 21 (.bin .eql (.t 20) (oK (-1)))] (.cond (.t 21) (oR [oW 22 7 6,oM 23 (.callw 6 4 97 [(.t 22)]),oS (.stz true 7 (.t 6) (.t 23) [])]
 (.exit 1)) .skip)) (oR [oV 25 0,oV 26 7,oV 27 8,oM 28 (.callw 10 1 99 [(.t 25),(.t 26),(.t 27)]),oV 24 28,oX 29 0 24,oX 30 1 24,oM 9 (.alloc
 11 [(.int .i64 0), .nils]),oS (.stz true 2 (.t 9) (.t 29) []),oV 10 30] (.seq (oR [oV 31 10,oM 32 (.un .not (.t 31))] (.cond (.t 32) (oR [oM 33 (.build [(.lit (.pointer none)), .nils,(.int .i64 0), .nils, .nils, .nils,(.int .i64 0)] []),oS (.stz true 7 (.t 4) (.t 33) []),oM 5 (.mv
 (.c (.bool false)))] .ret) .skip)) (.reg [oW 34 7 6,oW 35 2 9,oM 36 (.callw 12 4 63 [(.t 34),(.t 35)]),oS (.stz true 7 (.t 6) (.t 36) [])])))))) (.reg
 [oM 37 (.bin .add (.t 15) (oK 1)),oV 15 37]))))))) (oR [oW 38 7 6,oS (.stz true 7 (.t 4) (.t 38) []),oM 5 (.mv (.c (.bool true)))] .ret))))
theorem ok58:FnOk Tryz.prog 58 39 16 c58 [.cell 4 true 7, .t 5]:=⟨_,_,Tryz.func58,rfl,rfl,by kernel_rfl,by kernel_rfl⟩
theorem bd58:bodied Tryz.prog 58=true:=by kernel_rfl
def c59:CI:=(oR [oM 3 (.box 0 true (.t 0)),oM 6 (.mv (.c (.bool false)))] (oR [oW 10 9 3,oV 11 1,oV 12 2,oM 13 (.callw 1 1 100
 [(.t 10),(.t 11),(.t 12)]),oV 9 13,oX 14 0 9,oX 15 1 9,oV 7 14,oV 8 15] (oR [oV 16 8,oV 17 16,oG 17 true (oV 18 7),oG 17 true (oW 19
 9 3),oG 17 true (oM 20 (.callw 2 1 102 [(.t 19)])),oG 17 true (oM 21 (.call 101 [(.t 18),(.t 20)])),oM 22 (.pick (.t 17) (.t 21) (.c (.bool false))),
 oV 6 22] .ret)))
theorem ok59:FnOk Tryz.prog 59 23 3 c59 [.t 6]:=⟨_,_,Tryz.func59,rfl,rfl,by kernel_rfl,by kernel_rfl⟩
theorem bd59:bodied Tryz.prog 59=true:=by kernel_rfl
def c60:CI:=(oR [oM 1 (.box 0 true (.t 0)),oM 2 (.mv oZ)] (oR [oM 3 (.mv oZ)] (.seq (oR [oM 4 (.mv (oK 0))] (.block 0 (.loop
 (.seq (oR [oV 8 4,oF 9 5 1,oL 10 9,oN 11 10,oM 12 (.bin .lss (.t 8) (.t 11))] (.cond (.t 12) .skip (.exit 0))) (.seq (.block 1 (oR [oF 15 5 1,oL 16 15,oV 17 4,oI 18 5 16 17,oW 19 5 18,oM 5 (.alloc 1 [(.int .i64 0),(.int .i64 0),(.int .i64 0),(.int .i64 0), .nils]),oS (.stz
 true 5 (.t 5) (.t 19) [])] (oR [oM 6 (.mv oZ)] (.seq (oR [oM 7 (.mv (oK 0))] (.block 2 (.loop (.seq (oR [oV 20 7,oF 21 4 5,
 oL 22 21,oN 23 22,oM 24 (.bin .lss (.t 20) (.t 23))] (.cond (.t 24) .skip (.exit 2))) (.seq (.block 3 (.reg [oV 27 6,oF 28 0 1,oW 29 4 28,oF 30 3
 5,oL 31 30,oF 32 4 5,oL 33 32,oV 34 7,oI 35 1 33 34,oL 36 35,oM 37 (.callz 2 1 103 [(.t 29),(.t 31),(.t 36)] []),oM 38 (.bsl 3 27 1 [(.t 37)]
 []),oM 39 (.apd 4 27 1 24 (.t 27) (.t 38) []),oV 6 39])) (.reg [oV 25 7,oM 26 (.bin .add (.t 25) (oK 1)),oV 7 26])))))) (.reg [oV 40 3,oV 41 6,oM
 42 (.bsl 5 85 1 [(.t 41)] []),oM 43 (.apd 6 85 1 24 (.t 40) (.t 42) []),oV 3 43]))))) (.reg [oV 13 4,oM 14 (.bin .add (.t 13) (oK 1)),oV 4 14]))))))
 (oR [oV 44 3,oV 2 44] .ret))))
theorem ok60:FnOk Tryz.prog 60 45 7 c60 [.t 2]:=⟨_,_,Tryz.func60,rfl,rfl,by kernel_rfl,by kernel_rfl⟩
theorem bd60:bodied Tryz.prog 60=true:=by kernel_rfl
def c61:CI:=(oR [oM 2 (.box 0 true (.t 0)),oM 4 (.mv (.c (.bool false)))] (oR [oV 5 1,oF 6 6 2,oL 7 6,oN 8 7,oM 9 (.bin .sub
 (.t 8) (oK 1)),oM 10 (.call 104 [(.t 5),(oK 0),(.t 9)]),oV 4 10] .ret))
theorem ok61:FnOk Tryz.prog 61 11 1 c61 [.t 4]:=⟨_,_,Tryz.func61,rfl,rfl,by kernel_rfl,by kernel_rfl⟩
theorem bd61:bodied Tryz.prog 61=true:=by kernel_rfl
def c62:CI:=(oR [oM 2 (.alloc 0 [(.lit (.pointer none)), .nils,(.int .i64 0), .nils, .nils, .nils,(.int .i64 0)])] (oR [oV 6 0,
 oM 7 (.build [(.lit (.pointer none)), .nils,(.int .i64 0), .nils, .nils, .nils,(.int .i64 0)] [(0,1,(.t 6))]),oM 3 (.alloc 1 [(.lit (.pointer none)),
 .nils,(.int .i64 0), .nils, .nils, .nils,(.int .i64 0)]),oS (.stz true 7 (.t 3) (.t 7) [])] (.seq (oR [oV 8 0,oM 9 (.nilck (.t 8)),oF 10
 9 9,oL 11 10,oN 12 11,oM 13 (.mv (oK 0))] (.block 0 (.loop (oR [oM 14 (.bin .lss (.t 13) (.t 12))] (.seq (.cond (.t 14) .skip (.exit 0)) (.seq
 (.block 1 (oR [oI 15 3 11 13,oW 16 3 15,oM 5 (.alloc 2 [(.int .i64 0),(.int .i64 0),(.int .i64 0)]),oS (.store true 3 (.t 5) (.t 16) [])]
 (.reg [oF 17 5 3,oL 18 17,oF 19 2 5,oL 20 19,oM 21 (.bsl 3 3 1 [(.t 20)] []),oM 22 (.apd 4 3 1 8 (.t 18) (.t 21) []),oF 23 5 3,oS (.stz false 1
 (.t 23) (.t 22) [])]))) (.reg [oM 24 (.bin .add (.t 13) (oK 1)),oV 13 24]))))))) (oR [oW 25 7 3,oS (.stz true 7 (.t 2) (.t 25) [])] .ret))))
theorem ok62:FnOk Tryz.prog 62 26 5 c62 [.cell 2 true 7]:=⟨_,_,Tryz.func62,rfl,rfl,by kernel_rfl,by kernel_rfl⟩
theorem bd62:bodied Tryz.prog 62=true:=by kernel_rfl
def c63:CI:=(oR [oM 2 (.box 0 true (.t 0)),oM 3 (.box 1 true (.t 1)),oM 4 (.alloc 2 [(.lit (.pointer none)), .nils,(.int .i64 0), .nils,
 .nils, .nils,(.int .i64 0)])] (oR [oF 8 1 2,oL 9 8,oN 10 9,oF 11 3 2,oL 12 11,oN 13 12,oV 5 10,oV 6 13] (oR [oF 14 1 2,oL 15
 14,oV 16 5,oV 17 5,oM 18 (.sl3 1 (.t 15) (.t 16) (.t 17)),oF 19 0 3,oL 20 19,oM 21 (.bsl 3 3 1 [(.t 20)] []),oM 22 (.apd 4 3 1 8 (.t 18) (.t 21)
 []),oF 23 1 2,oS (.stz false 1 (.t 23) (.t 22) [])] (oR [oF 24 3 2,oL 25 24,oV 26 6,oV 27 6,oM 28 (.sl3 1 (.t 25) (.t 26) (.t 27)),oF 29
 1 3,oL 30 29,oM 31 (.apd 5 27 1 24 (.t 28) (.t 30) []),oF 32 3 2,oS (.stz false 1 (.t 32) (.t 31) [])] (oR [oF 33 4 2,oL 34 33,oF 36 5 2,
 oL 37 36,oM 35 (.callz 6 1 105 [(.t 34)] []),oM 38 (.callz 7 1 105 [(.t 37)] []),oF 39 4 2,oS (.stz false 1 (.t 39) (.t 35) []),oF 40 5 2,oS (.stz
 false 1 (.t 40) (.t 38) [])] (.seq (oR [oF 41 1 3,oL 42 41,oN 43 42,oM 44 (.mv (oK 0))] (.block 0 (.loop (oR [oM 45 (.bin .lss (.t
 44) (.t 43))] (.seq (.cond (.t 45) .skip (.exit 0)) (.seq (.block 1 (oR [oV 46 44,oV 7 46] (oR [oF 47 4 2,oL 48 47,oM 49 (.bsl 8 3
 1 [(oK (-1))] []),oM 50 (.apd 9 3 1 8 (.t 48) (.t 49) []),oF 51 4 2,oS (.stz false 1 (.t 51) (.t 50) [])] (oR [oV 52 6,oV 53 7,oM 54 (.bin
 .add (.t 52) (.t 53)),oF 55 5 2,oL 56 55,oN 57 56,oM 58 (.mks 10 4 1 1 [(.bool false)] (.t 57) (.t 57)),oM 59 (.callw 11 0 106 [(.t 2),(.t 54),(.t
 58)]),oM 60 (.un .not (.t 59))] (.cond (.t 60) (.reg [oF 61 6 2,oL 62 61,oM 63 (.bin .add (.t 62) (oK 1)),oF 64 6 2,oS (.store false 1 (.t 64) (.t
 63) [])]) .skip))))) (.reg [oM 65 (.bin .add (.t 44) (oK 1)),oV 44 65]))))))) (oR [oW 66 7 2,oS (.stz true 7 (.t 4) (.t 66) [])] .ret)))))))
theorem ok63:FnOk Tryz.prog 63 67 11 c63 [.cell 4 true 7]:=⟨_,_,Tryz.func63,rfl,rfl,by kernel_rfl,by kernel_rfl⟩
theorem bd63:bodied Tryz.prog 63=true:=by kernel_rfl
def c64:CI:=(oR [oM 1 (.box 0 true (.t 0)),oM 2 (.alloc 1 [.nils, .nils,(.int .i64 0), .nils])] (oR [oW 7 4 1,oM 3 (.alloc 2 [.nils,
 .nils,(.int .i64 0), .nils]),oS (.stz true 4 (.t 3) (.t 7) [])] (oR [oF 9 0 1,oL 10 9,oF 13 3 1,oL 14 13,oM 8 (.bsl 3 150 4 [] []),oM 11
 (.apd 4 150 4 32 (.t 8) (.t 10) [(.t 13)]),oM 12 (.bsl 5 161 4 [] [(.t 8),(.t 10)]),oM 15 (.apd 6 161 4 32 (.t 12) (.t 14) []),oF 16 0 3,oS (.stz
 false 1 (.t 16) (.t 11) []),oF 17 3 3,oS (.stz false 1 (.t 17) (.t 15) [])] (oR [oF 18 1 3,oS (.stz false 1 (.t 18) oZ [])] (.seq (oR [oM 4 (.mv (oK 0))] (.block 0 (.loop (.seq (oR [oV 19 4,oF 20 1 1,oL 21 20,oN 22 21,oM 23 (.bin .lss (.t 19) (.t 22))] (.cond (.t 23) .skip
 (.exit 0))) (.seq (.block 1 (oR [oM 26 (.bsl 7 144 4 [] []),oF 27 1 1,oL 28 27,oV 29 4,oI 30 1 28 29,oF 31 0 30,oL 32 31,oM 33 (.apd 8 144
 4 48 (.t 26) (.t 32) []),oM 34 (.build [.nils] [(0,1,(.t 33))]),oM 5 (.alloc 9 [.nils]),oS (.stz true 1 (.t 5) (.t 34) [])] (.seq (oR [oM
 6 (.mv (oK 0))] (.block 2 (.loop (.seq (oR [oV 35 6,oF 36 0 5,oL 37 36,oN 38 37,oM 39 (.bin .lss (.t 35) (.t 38))] (.cond (.t 39) .skip (.exit
 2))) (.seq (.block 3 (.reg [oF 42 0 5,oL 43 42,oV 44 6,oF 46 0 5,oL 47 46,oV 48 6,oI 49 4 47 48,oF 50 1 49,oL 51 50,oM 45 (.bsl 10 3 1 [] []),
 oM 52 (.apd 11 3 1 8 (.t 45) (.t 51) [(.t 42)]),oI 53 4 43 44,oF 54 1 53,oS (.stz false 1 (.t 54) (.t 52) [])])) (.reg [oV 40 6,oM 41 (.bin .add (.t
 40) (oK 1)),oV 6 41])))))) (.reg [oF 55 1 3,oL 56 55,oW 57 1 5,oM 58 (.bsl 12 142 1 [(.t 57)] []),oM 59 (.apd 13 142 1 24 (.t 56) (.t 58) []),oF
 60 1 3,oS (.stz false 1 (.t 60) (.t 59) [])])))) (.reg [oV 24 4,oM 25 (.bin .add (.t 24) (oK 1)),oV 4 25])))))) (oR [oW 61 4 3,oS (.stz true
 4 (.t 2) (.t 61) [])] .ret))))))
theorem ok64:FnOk Tryz.prog 64 62 14 c64 [.cell 2 true 4]:=⟨_,_,Tryz.func64,rfl,rfl,by kernel_rfl,by kernel_rfl⟩
theorem bd64:bodied Tryz.prog 64=true:=by kernel_rfl
def c65:CI:=(oR [oM 2 (.box 0 true (.t 0)),oM 3 (.box 1 false (.t 1)),oM 4 (.mv (oK 0))] (.seq (oR [oF 6 6 2,oL 7 6,oL 8 3,oM
 9 (.bin .geq (.t 7) (.t 8))] (.cond (.t 9) (oR [oL 10 3,oV 4 10] .ret) .skip)) (.seq (oR [oF 11 1 2,oL 12 11,oN 13 12,oF 14 0 2,
 oL 15 14,oM 16 (.nilck (.t 15)),oF 17 0 16,oF 18 6 17,oL 19 18,oN 20 19,oM 21 (.bin .eql (.t 13) (.t 20))] (.cond (.t 21) (oR [oF 22 6 2,
 oL 23 22,oV 4 23] .ret) .skip)) (.seq (oR [oW 24 7 2,oM 25 (.mkmt 107 [(.t 24)])] (.block 0 (.rng (.t 25) [26] (.reg [oM 5 (.alloc 2 [(.lit
 (.pointer none)), .nils,(.int .i64 0), .nils, .nils, .nils,(.int .i64 0)]),oS (.stz true 7 (.t 5) (.t 26) [])]) (.block 1 (.reg [oW 27 7 5,oL 28 3,
 oM 29 (.call 65 [(.t 27),(.t 28)]),oS (.store false 1 (.t 3) (.t 29) [])]))))) (oR [oL 30 3,oV 4 30] .ret)))))
theorem ok65:FnOk Tryz.prog 65 31 3 c65 [.t 4]:=⟨_,_,Tryz.func65,rfl,rfl,by kernel_rfl,by kernel_rfl⟩
theorem bd65:bodied Tryz.prog 65=true:=by kernel_rfl
def c67:CI:=(oR [oM 2 (.box 0 true (.t 0)),oM 4 (.mv (oK 0))] (.seq (oR [oW 6 9 2,oM 7 (.call 31 [(.t 6)]),oV 5 7] (oR [oV 8 5,oM 9 (.bin .neq (.t 8) (oK 0))] (.cond (.t 9) (oR [oV 10 5,oV 4 10] .ret) .skip))) (.seq (oR [oV 11 1,oM 12 (.un .not (.t
 11))] (.cond (.t 12) (oR [oM 4 (.mv (oK 1))] .ret) .skip)) (oR [oM 4 (.mv (oK 0))] .ret))))
theorem ok67:FnOk Tryz.prog 67 13 1 c67 [.t 4]:=⟨_,_,Tryz.func67,rfl,rfl,by kernel_rfl,by kernel_rfl⟩
theorem bd67:bodied Tryz.prog 67=true:=by kernel_rfl
def c68:CI:=(oR [oM 2 (.box 0 true (.t 0)),oM 4 (.mv (.c (.bool false)))] (oR [oV 5 1,oF 6 7 2,oL 7 6,oN 8 7,oM 9 (.bin .sub
 (.t 8) (oK 1)),oM 10 (.call 104 [(.t 5),(oK 0),(.t 9)]),oV 4 10] .ret))
theorem ok68:FnOk Tryz.prog 68 11 1 c68 [.t 4]:=⟨_,_,Tryz.func68,rfl,rfl,by kernel_rfl,by kernel_rfl⟩
theorem bd68:bodied Tryz.prog 68=true:=by kernel_rfl
def c69:CI:=(oR [oM 2 (.mv oZ)] (oR [oM 3 (.mv (oK 0))] (.seq (oR [oV 9 0,oN 10 9,oM 11 (.mv (oK 0))] (.block 0 (.loop
 (oR [oM 12 (.bin .lss (.t 11) (.t 10))] (.seq (.cond (.t 12) .skip (.exit 0)) (.seq (.block 1 (oR [oI 13 1 9 11,oL 14 13,oV 5 14] (oR [oV 15 3,oV 16 5,oN 17 16,oM 18 (.bin .add (.t 15) (.t 17)),oV 3 18] (oR [oV 19 3,oM 20 (.bin .lss (.t 19) (oK 0))] (.cond (.t 20)
 (.cond (.c .gone) .skip .skip) .skip))))) (.reg [oM 22 (.bin .add (.t 11) (oK 1)),oV 11 22]))))))) (oR [oV 23 3,oM 24 (.callw 0 1 109 [oZ,(.t
 23)]),oV 6 24] (.seq (oR [oV 25 0,oN 26 25,oM 27 (.mv (oK 0))] (.block 2 (.loop (oR [oM 28 (.bin .lss (.t 27) (.t 26))] (.seq (.cond
 (.t 28) .skip (.exit 2)) (.seq (.block 3 (oR [oI 29 1 25 27,oL 30 29,oV 8 30] (.reg [oV 31 6,oV 32 8,oM 33 (.apd 1 45 3 24 (.t 31) (.t 32)
 []),oV 6 33]))) (.reg [oM 34 (.bin .add (.t 27) (oK 1)),oV 27 34]))))))) (oR [oV 35 6,oV 2 35] .ret))))))
theorem ok69:FnOk Tryz.prog 69 36 2 c69 [.t 2]:=⟨_,_,Tryz.func69,rfl,rfl,by kernel_rfl,by kernel_rfl⟩
theorem bd69:bodied Tryz.prog 69=true:=by kernel_rfl
def c70:CI:=(oR [oM 1 (.box 0 true (.t 0)),oM 2 (.mv (.c (.bool false)))] (.seq (oR [oF 6 0 1,oL 7 6,oN 8 7,oM 9 (.bin .gtr (.t
 8) (oK 40)),oV 10 9,oG 10 false (oF 11 1 1),oG 10 false (oL 12 11),oG 10 false (oN 13 12),oG 10 false (oM 14 (.bin .gtr (.t 13) (oK 40))),oM 15 (.pick
 (.t 10) (.c (.bool true)) (.t 14)),oV 16 15,oG 16 false (oF 17 3 1),oG 16 false (oL 18 17),oG 16 false (oN 19 18),oG 16 false (oM 20 (.bin .gtr (.t
 19) (oK 60))),oM 21 (.pick (.t 16) (.c (.bool true)) (.t 20))] (.cond (.t 21) (oR [oM 2 (.mv (.c (.bool true)))] .ret) .skip)) (.seq (oR [oM 3 (.mv (oK 0))] (.block 0 (.loop (.seq (oR [oV 22 3,oF 23 1 1,oL 24 23,oN 25 24,oM 26 (.bin .lss (.t 22) (.t 25))] (.cond (.t 26) .skip
 (.exit 0))) (.seq (.block 1 (.seq (oR [oF 29 1 1,oL 30 29,oV 31 3,oI 32 1 30 31,oF 33 0 32,oL 34 33,oN 35 34,oM 36 (.bin .gtr (.t 35) (oK
 20))] (.cond (.t 36) (oR [oM 2 (.mv (.c (.bool true)))] .ret) .skip)) (oR [oM 4 (.mv (oK 0))] (.block 2 (.loop (.seq (oR [oV
 37 4,oF 38 1 1,oL 39 38,oV 40 3,oI 41 1 39 40,oF 42 0 41,oL 43 42,oN 44 43,oM 45 (.bin .lss (.t 37) (.t 44))] (.cond (.t 45) .skip (.exit 2)))
 (.seq (.block 3 (oR [oF 48 1 1,oL 49 48,oV 50 3,oI 51 1 49 50,oF 52 0 51,oL 53 52,oV 54 4,oI 55 4 53 54,oF 56 1 55,oL 57 56,oN 58 57,
 oM 59 (.bin .gtr (.t 58) (oK 20))] (.cond (.t 59) (oR [oM 2 (.mv (.c (.bool true)))] .ret) .skip))) (.reg [oV 46 4,oM 47 (.bin .add (.t 46)
 (oK 1)),oV 4 47])))))))) (.reg [oV 27 3,oM 28 (.bin .add (.t 27) (oK 1)),oV 3 28])))))) (.seq (oR [oW 60 4 1,oM 61 (.call 73 [(.t 60)]),oM
 62 (.bin .neq (.t 61) (oK 0))] (.cond (.t 62) (oR [oM 2 (.mv (.c (.bool false)))] .ret) .skip)) (.seq (oR [oM 5 (.mv (oK 0))] (.block
 4 (.loop (.seq (oR [oV 63 5,oF 64 0 1,oL 65 64,oN 66 65,oM 67 (.bin .lss (.t 63) (.t 66))] (.cond (.t 67) .skip (.exit 4))) (.seq (.block
 5 (oR [oF 70 0 1,oL 71 70,oV 72 5,oI 73 4 71 72,oF 74 2 73,oF 75 1 74,oL 76 75,oF 77 0 1,oL 78 77,oV 79 5,oI 80 4 78 79,oF 81 2 80,
 oF 82 0 81,oL 83 82,oM 84 (.bin .sub (.t 76) (.t 83)),oM 85 (.bin .geq (.t 84) (oK 50))] (.cond (.t 85) (oR [oM 2 (.mv (.c (.bool true)))]
 .ret) .skip))) (.reg [oV 68 5,oM 69 (.bin .add (.t 68) (oK 1)),oV 5 69])))))) (oR [oF 86 0 1,oL 87 86,oN 88 87,oM 89 (.bin .gtr (.t 88) (oK
 6)),oV 90 89,oG 90 false (oF 91 1 1),oG 90 false (oL 92 91),oG 90 false (oN 93 92),oG 90 false (oM 94 (.bin .gtr (.t 93) (oK 4))),oM 95 (.pick (.t
 90) (.c (.bool true)) (.t 94)),oV 96 95,oG 96 false (oF 97 3 1),oG 96 false (oL 98 97),oG 96 false (oN 99 98),oG 96 false (oM 100 (.bin .gtr (.t 99)
 (oK 10))),oM 101 (.pick (.t 96) (.c (.bool true)) (.t 100)),oV 2 101] .ret))))))
theorem ok70:FnOk Tryz.prog 70 102 1 c70 [.t 2]:=⟨_,_,Tryz.func70,rfl,rfl,by kernel_rfl,by kernel_rfl⟩
theorem bd70:bodied Tryz.prog 70=true:=by kernel_rfl
def c71:CI:=(oR [oM 1 (.box 0 true (.t 0)),oM 2 (.mv (oK 0))] (.seq (.block 0 (oR [oW 4 4 1,oM 5 (.call 110 [(.t 4)]),oM 6 (.un
 .not (.t 5)),oV 3 6] (.cond (.t 3) (oR [oM 2 (.mv (oK 70))] .ret) (oR [oF 8 3 1,oL 9 8,oM 10 (.call 111 [(.t 9)]),oV 7 10] (.cond
 (.t 7) (oR [oM 2 (.mv (oK 71))] .ret) .skip))))) (oR [oM 2 (.mv (oK 0))] .ret)))
theorem ok71:FnOk Tryz.prog 71 11 1 c71 [.t 2]:=⟨_,_,Tryz.func71,rfl,rfl,by kernel_rfl,by kernel_rfl⟩
theorem bd71:bodied Tryz.prog 71=true:=by kernel_rfl
def c72:CI:=(oR [oM 1 (.box 0 true (.t 0)),oM 2 (.mv (.c (.bool false)))] (oR [oF 3 4 1,oL 4 3,oN 5 4,oF 6 0 1,oF 7 0 6,oL 8
 7,oN 9 8,oM 10 (.bin .eql (.t 5) (.t 9)),oV 11 10,oG 11 true (oF 12 4 1),oG 11 true (oL 13 12),oG 11 true (oM 14 (.call 112 [(.t 13),(.c (.fn 113
 []))])),oM 15 (.pick (.t 11) (.t 14) (.c (.bool false))),oV 16 15,oG 16 true (oF 17 5 1),oG 16 true (oL 18 17),oG 16 true (oN 19 18),oG 16 true (oM
 20 (.bin .leq (.t 19) (oK 8))),oM 21 (.pick (.t 16) (.t 20) (.c (.bool false))),oV 22 21,oG 22 true (oF 23 5 1),oG 22 true (oL 24 23),oG 22 true (oM
 25 (.mkfn 115 [(.t 1)])),oG 22 true (oM 26 (.call 114 [(.t 24),(.t 25)])),oM 27 (.pick (.t 22) (.t 26) (.c (.bool false))),oV 28 27,oG 28 true (oF
 29 6 1),oG 28 true (oL 30 29),oG 28 true (oN 31 30),oG 28 true (oM 32 (.bin .leq (.t 31) (oK 6))),oM 33 (.pick (.t 28) (.t 32) (.c (.bool false))),
 oV 34 33,oG 34 true (oF 35 6 1),oG 34 true (oL 36 35),oG 34 true (oM 37 (.call 117 [(.t 36),(.c (.fn 118 []))])),oM 38 (.pick (.t 34) (.t 37) (.c
 (.bool false))),oV 39 38,oG 39 true (oF 40 7 1),oG 39 true (oL 41 40),oG 39 true (oN 42 41),oG 39 true (oM 43 (.bin .leq (.t 42) (oK 8))),oM 44 (.pick
 (.t 39) (.t 43) (.c (.bool false))),oV 45 44,oG 45 true (oF 46 7 1),oG 45 true (oL 47 46),oG 45 true (oM 48 (.mkfn 120 [(.t 1)])),oG 45 true (oM 49
 (.call 119 [(.t 47),(.t 48)])),oM 50 (.pick (.t 45) (.t 49) (.c (.bool false))),oV 51 50,oG 51 true (oF 52 8 1),oG 51 true (oL 53 52),oG 51 true
 (oM 54 (.call 121 [(.t 53)])),oM 55 (.pick (.t 51) (.t 54) (.c (.bool false))),oV 2 55] .ret))
theorem ok72:FnOk Tryz.prog 72 56 1 c72 [.t 2]:=⟨_,_,Tryz.func72,rfl,rfl,by kernel_rfl,by kernel_rfl⟩
theorem bd72:bodied Tryz.prog 72=true:=by kernel_rfl
def c73:CI:=(oR [oM 1 (.box 0 true (.t 0)),oM 2 (.mv (oK 0))] (.seq (oR [oW 7 4 1,oM 8 (.call 122 [(.t 7)]),oM 9 (.un .not (.t
 8))] (.cond (.t 9) (oR [oM 2 (.mv (oK 70))] .ret) .skip)) (.seq (oR [oM 3 (.mv (oK 0))] (.block 0 (.loop (.seq (oR [oV 10 3,
 oF 11 3 1,oL 12 11,oN 13 12,oM 14 (.bin .lss (.t 10) (.t 13))] (.cond (.t 14) .skip (.exit 0))) (.seq (.block 1 (oR [oM 4 (.mv (oK 0))] (.block
 2 (.loop (.seq (oR [oV 17 4,oV 18 3,oM 19 (.bin .lss (.t 17) (.t 18))] (.cond (.t 19) .skip (.exit 2))) (.seq (.block 3 (oR [oF 22 3
 1,oL 23 22,oV 24 4,oI 25 4 23 24,oW 26 4 25,oF 27 3 1,oL 28 27,oV 29 3,oI 30 4 28 29,oW 31 4 30,oM 5 (.alloc 1 [(.int .i64 0),(.int .i64 0),
 (.int .i64 0),(.int .i64 0)]),oM 6 (.alloc 2 [(.int .i64 0),(.int .i64 0),(.int .i64 0),(.int .i64 0)]),oS (.store true 4 (.t 5) (.t 26) [(.t 27),
 (.t 28),(.t 30)]),oS (.store true 4 (.t 6) (.t 31) [])] (oR [oF 32 0 5,oL 33 32,oF 34 0 6,oL 35 34,oM 36 (.bin .eql (.t 33) (.t 35)),oV
 37 36,oG 37 true (oF 38 1 5),oG 37 true (oL 39 38),oG 37 true (oF 40 1 6),oG 37 true (oL 41 40),oG 37 true (oM 42 (.bin .eql (.t 39) (.t 41))),oM
 43 (.pick (.t 37) (.t 42) (.c (.bool false))),oV 44 43,oG 44 true (oF 45 2 5),oG 44 true (oL 46 45),oG 44 true (oF 47 2 6),oG 44 true (oL 48 47),
 oG 44 true (oM 49 (.bin .eql (.t 46) (.t 48))),oM 50 (.pick (.t 44) (.t 49) (.c (.bool false))),oV 51 50,oG 51 true (oF 52 3 5),oG 51 true (oL 53 52),
 oG 51 true (oF 54 3 6),oG 51 true (oL 55 54),oG 51 true (oM 56 (.bin .neq (.t 53) (.t 55))),oM 57 (.pick (.t 51) (.t 56) (.c (.bool false)))] (.cond
 (.t 57) (oR [oM 2 (.mv (oK 71))] .ret) .skip)))) (.reg [oV 20 4,oM 21 (.bin .add (.t 20) (oK 1)),oV 4 21]))))))) (.reg [oV 15 3,oM 16 (.bin
 .add (.t 15) (oK 1)),oV 3 16])))))) (oR [oM 2 (.mv (oK 0))] .ret))))
theorem ok73:FnOk Tryz.prog 73 58 3 c73 [.t 2]:=⟨_,_,Tryz.func73,rfl,rfl,by kernel_rfl,by kernel_rfl⟩
theorem bd73:bodied Tryz.prog 73=true:=by kernel_rfl
def c74:CI:=(oR [oM 6 (.mv (.c (.bool false)))] (oR [oV 7 1,oV 8 0,oM 9 (.bin .leq (.t 7) (.t 8)),oV 10 9,oG 10 true (oV 11 0),
 oG 10 true (oV 12 2),oG 10 true (oM 13 (.bin .leq (.t 11) (.t 12))),oM 14 (.pick (.t 10) (.t 13) (.c (.bool false))),oV 6 14] .ret))
theorem ok74:FnOk Tryz.prog 74 15 0 c74 [.t 6]:=⟨_,_,Tryz.func74,rfl,rfl,by kernel_rfl,by kernel_rfl⟩
theorem bd74:bodied Tryz.prog 74=true:=by kernel_rfl
def c75:CI:=(oR [oM 2 (.box 0 true (.t 0)),oM 3 (.box 1 true (.t 1)),oM 4 (.mv (.c (.bool false)))] (.seq (oR [oF 5 0 3,oL 6 5,
 oM 7 (.call 74 [(.t 6),(oK 0),(oK 99)]),oM 8 (.un .not (.t 7)),oV 9 8,oG 9 false (oF 10 1 3),oG 9 false (oL 11 10),oG 9 false (oM 12 (.call 74 [(.t
 11),(oK 0),(oK 99)])),oG 9 false (oM 13 (.un .not (.t 12))),oM 14 (.pick (.t 9) (.c (.bool true)) (.t 13)),oV 15 14,oG 15 false (oF 16 2 3),oG 15
 false (oL 17 16),oG 15 false (oM 18 (.call 74 [(.t 17),(oK 0),(oK 99)])),oG 15 false (oM 19 (.un .not (.t 18))),oM 20 (.pick (.t 15) (.c (.bool true))
 (.t 19)),oV 21 20,oG 21 false (oF 22 3 3),oG 21 false (oL 23 22),oG 21 false (oF 24 0 2),oG 21 false (oF 25 1 24),oG 21 false (oL 26 25),oG 21 false
 (oN 27 26),oG 21 false (oM 28 (.bin .sub (.t 27) (oK 1))),oG 21 false (oM 29 (.call 74 [(.t 23),(oK 0),(.t 28)])),oG 21 false (oM 30 (.un .not (.t
 29))),oM 31 (.pick (.t 21) (.c (.bool true)) (.t 30))] (.cond (.t 31) (oR [oM 4 (.mv (.c (.bool false)))] .ret) .skip)) (oR [oF 32 4
 3,oL 33 32,oF 34 0 2,oF 35 1 34,oL 36 35,oF 37 3 3,oL 38 37,oI 39 1 36 38,oF 40 0 39,oL 41 40,oN 42 41,oM 43 (.bin .sub (.t 42) (oK 1)),oM
 44 (.call 123 [(.t 33),(.t 43)]),oV 4 44] .ret)))
theorem ok75:FnOk Tryz.prog 75 45 2 c75 [.t 4]:=⟨_,_,Tryz.func75,rfl,rfl,by kernel_rfl,by kernel_rfl⟩
theorem bd75:bodied Tryz.prog 75=true:=by kernel_rfl
def c76:CI:=(oR [oM 1 (.box 0 true (.t 0)),oM 2 (.mv (.c (.bool false)))] (oR [oF 3 0 1,oL 4 3,oN 5 4,oM 6 (.call 74 [(.t 5),
 (oK 1),(oK 8)]),oV 7 6,oG 7 true (oF 8 0 1),oG 7 true (oL 9 8),oG 7 true (oM 10 (.call 123 [(.t 9),(oK 99)])),oM 11 (.pick (.t 7) (.t 10) (.c (.bool
 false))),oV 12 11,oG 12 true (oF 13 1 1),oG 12 true (oF 14 0 13),oG 12 true (oL 15 14),oG 12 true (oM 16 (.bin .leq (oK 0) (.t 15))),oM 17 (.pick
 (.t 12) (.t 16) (.c (.bool false))),oV 18 17,oG 18 true (oF 19 1 1),oG 18 true (oF 20 0 19),oG 18 true (oL 21 20),oG 18 true (oF 22 1 1),oG 18 true
 (oF 23 1 22),oG 18 true (oL 24 23),oG 18 true (oM 25 (.bin .leq (.t 21) (.t 24))),oM 26 (.pick (.t 18) (.t 25) (.c (.bool false))),oV 27 26,oG 27
 true (oF 28 1 1),oG 27 true (oF 29 1 28),oG 27 true (oL 30 29),oG 27 true (oM 31 (.bin .leq (.t 30) (oK 99))),oM 32 (.pick (.t 27) (.t 31) (.c (.bool
 false))),oV 33 32,oG 33 true (oF 34 3 1),oG 33 true (oL 35 34),oG 33 true (oM 36 (.call 74 [(.t 35),(oK 0),(oK 99)])),oM 37 (.pick (.t 33) (.t 36)
 (.c (.bool false))),oV 38 37,oG 38 true (oF 39 4 1),oG 38 true (oL 40 39),oG 38 true (oM 41 (.call 74 [(.t 40),(oK 0),(oK 99)])),oM 42 (.pick (.t
 38) (.t 41) (.c (.bool false))),oV 43 42,oG 43 true (oF 44 5 1),oG 43 true (oL 45 44),oG 43 true (oM 46 (.call 74 [(.t 45),(oK 0),(oK 100000)])),
 oM 47 (.pick (.t 43) (.t 46) (.c (.bool false))),oV 2 47] .ret))
theorem ok76:FnOk Tryz.prog 76 48 1 c76 [.t 2]:=⟨_,_,Tryz.func76,rfl,rfl,by kernel_rfl,by kernel_rfl⟩
theorem bd76:bodied Tryz.prog 76=true:=by kernel_rfl
def c77:CI:=(oR [oM 2 (.box 0 true (.t 0)),oM 4 (.mv (.c (.bool false)))] (oR [oV 5 1,oF 6 5 2,oL 7 6,oN 8 7,oM 9 (.bin .sub
 (.t 8) (oK 1)),oM 10 (.call 104 [(.t 5),(oK 0),(.t 9)]),oV 4 10] .ret))
theorem ok77:FnOk Tryz.prog 77 11 1 c77 [.t 4]:=⟨_,_,Tryz.func77,rfl,rfl,by kernel_rfl,by kernel_rfl⟩
theorem bd77:bodied Tryz.prog 77=true:=by kernel_rfl
def c78:CI:=(oR [oM 2 (.box 0 true (.t 0)),oM 3 (.box 1 true (.t 1)),oM 4 (.mv (oK 0))] (.seq (.block 0 (oR [oF 6 0 2,oL 7 6,oF
 8 0 3,oL 9 8,oM 10 (.call 124 [(.t 7),(.t 9)]),oM 11 (.un .not (.t 10)),oV 12 11,oG 12 false (oF 13 1 3),oG 12 false (oL 14 13),oG 12 false (oF
 15 1 2),oG 12 false (oF 16 0 15),oG 12 false (oL 17 16),oG 12 false (oF 18 1 2),oG 12 false (oF 19 1 18),oG 12 false (oL 20 19),oG 12 false (oM 21
 (.call 104 [(.t 14),(.t 17),(.t 20)])),oG 12 false (oM 22 (.un .not (.t 21))),oM 23 (.pick (.t 12) (.c (.bool true)) (.t 22)),oV 5 23] (.cond (.t
 5) (oR [oM 4 (.mv (oK 0))] .ret) (oR [oF 25 2 3,oL 26 25,oF 27 3 2,oL 28 27,oM 29 (.bin .eql (.t 26) (.t 28)),oV 24 29] (.cond (.t
 24) (oR [oM 4 (.mv (oK 1))] .ret) (oR [oF 31 2 3,oL 32 31,oM 33 (.bin .eql (.t 32) (oK 0)),oV 30 33] (.cond (.t 30) (oR [oM
 4 (.mv (oK 2))] .ret) .skip))))))) (oR [oM 4 (.mv (oK 0))] .ret)))
theorem ok78:FnOk Tryz.prog 78 34 2 c78 [.t 4]:=⟨_,_,Tryz.func78,rfl,rfl,by kernel_rfl,by kernel_rfl⟩
theorem bd78:bodied Tryz.prog 78=true:=by kernel_rfl
def c80:CI:=(oR [oM 2 (.box 0 true (.t 0)),oM 3 (.box 1 true (.t 1)),oM 4 (.mv (oK 0))] (oR [oM 5 (.mv (.c (.bool false)))] (.seq
 (oR [oM 6 (.mv (oK 0))] (.block 0 (.loop (.seq (oR [oV 7 6,oF 8 0 2,oL 9 8,oN 10 9,oM 11 (.bin .lss (.t 7) (.t 10))] (.cond (.t 11)
 .skip (.exit 0))) (.seq (.block 1 (.reg [oV 14 5,oV 15 14,oG 15 false (oF 16 0 2),oG 15 false (oL 17 16),oG 15 false (oV 18 6),oG 15 false (oI 19
 1 17 18),oG 15 false (oL 20 19),oG 15 false (oF 21 0 3),oG 15 false (oL 22 21),oG 15 false (oM 23 (.bin .eql (.t 20) (.t 22))),oM 24 (.pick (.t 15)
 (.c (.bool true)) (.t 23)),oV 5 24])) (.reg [oV 12 6,oM 13 (.bin .add (.t 12) (oK 1)),oV 6 13])))))) (.seq (.block 2 (oR [oV 26 5,oM 27 (.un
 .not (.t 26)),oV 28 27,oG 28 false (oF 29 1 3),oG 28 false (oL 30 29),oG 28 false (oF 31 1 2),oG 28 false (oF 32 0 31),oG 28 false (oL 33 32),oG
 28 false (oF 34 1 2),oG 28 false (oF 35 1 34),oG 28 false (oL 36 35),oG 28 false (oM 37 (.call 74 [(.t 30),(.t 33),(.t 36)])),oG 28 false (oM 38
 (.un .not (.t 37))),oM 39 (.pick (.t 28) (.c (.bool true)) (.t 38)),oV 25 39] (.cond (.t 25) (oR [oM 4 (.mv (oK 0))] .ret) (oR [oF
 41 2 3,oL 42 41,oF 43 3 2,oL 44 43,oM 45 (.bin .eql (.t 42) (.t 44)),oV 40 45] (.cond (.t 40) (oR [oM 4 (.mv (oK 1))] .ret) (oR [oF 47 2 3,oL 48 47,oM 49 (.bin .eql (.t 48) (oK 0)),oV 46 49] (.cond (.t 46) (oR [oM 4 (.mv (oK 2))] .ret) .skip))))))) (oR [oM 4
 (.mv (oK 0))] .ret)))))
theorem ok80:FnOk Tryz.prog 80 50 2 c80 [.t 4]:=⟨_,_,Tryz.func80,rfl,rfl,by kernel_rfl,by kernel_rfl⟩
theorem bd80:bodied Tryz.prog 80=true:=by kernel_rfl
def c81:CI:=(oR [oM 2 (.box 0 true (.t 0)),oM 4 (.mv (oK 0))] (.seq (oR [oW 6 9 2,oM 7 (.call 32 [(.t 6)]),oV 5 7] (oR [oV 8 5,oM 9 (.bin .neq (.t 8) (oK 0))] (.cond (.t 9) (oR [oV 10 5,oV 4 10] .ret) .skip))) (.seq (oR [oV 11 1,oM 12 (.un .not (.t
 11))] (.cond (.t 12) (oR [oM 4 (.mv (oK 1))] .ret) .skip)) (oR [oF 13 0 2,oW 14 4 13,oM 15 (.call 125 [(.t 14)]),oV 4 15] .ret))))
theorem ok81:FnOk Tryz.prog 81 16 1 c81 [.t 4]:=⟨_,_,Tryz.func81,rfl,rfl,by kernel_rfl,by kernel_rfl⟩
theorem bd81:bodied Tryz.prog 81=true:=by kernel_rfl
def c83:CI:=(oR [oM 2 (.box 0 true (.t 0)),oM 4 (.mv oZ)] (oR [oV 9 1,oN 10 9,oV 5 10] (.seq (oR [oV 11 5,oF 12 6 2,
 oL 13 12,oN 14 13,oM 15 (.bin .eql (.t 11) (.t 14))] (.cond (.t 15) (oR [oV 16 1,oM 17 (.bsl 1 27 1 [(.t 16)] []),oV 4 17] .ret) .skip))
 (oR [oM 6 (.mv oZ)] (.seq (oR [oM 7 (.mv (oK (-1)))] (.block 0 (.loop (.seq (oR [oV 18 7,oF 19 5 2,oL 20 19,oN 21 20,oM 22
 (.bin .lss (.t 18) (.t 21))] (.cond (.t 22) .skip (.exit 0))) (.seq (.block 1 (oR [oM 25 (.bsl 2 3 1 [] []),oV 26 1,oM 27 (.apd 3 3 1 8 (.t
 25) (.t 26) []),oV 28 7,oM 29 (.bsl 4 3 1 [(.t 28)] []),oM 30 (.apd 5 3 1 8 (.t 27) (.t 29) []),oV 8 30] (oR [oV 31 7,oM 32 (.bin .eql (.t
 31) (oK (-1))),oV 33 32,oG 33 false (oF 34 6 2),oG 33 false (oL 35 34),oG 33 false (oV 36 5),oG 33 false (oI 37 6 35 36),oG 33 false (oW 38 6 37),
 oG 33 false (oF 39 5 2),oG 33 false (oL 40 39),oG 33 false (oV 41 7),oG 33 false (oI 42 5 40 41),oG 33 false (oW 43 5 42),oG 33 false (oM 44 (.call
 80 [(.t 38),(.t 43)])),oG 33 false (oM 45 (.bin .neq (.t 44) (oK 0))),oG 33 false (oV 46 45),oG 46 true (oV 47 1),oG 46 true (oV 48 7),oG 46 true
 (oM 49 (.call 85 [(.t 47),(.t 48)])),oG 46 true (oM 50 (.un .not (.t 49))),oG 33 false (oM 51 (.pick (.t 46) (.t 50) (.c (.bool false)))),oM 52 (.pick
 (.t 33) (.c (.bool true)) (.t 51))] (.cond (.t 52) (.reg [oV 53 6,oW 54 9 2,oV 55 8,oM 56 (.callw 6 1 83 [(.t 54),(.t 55)]),oM 57 (.apd 7 27 1 24
 (.t 53) (.t 56) []),oV 6 57]) .skip)))) (.reg [oV 23 7,oM 24 (.bin .add (.t 23) (oK 1)),oV 7 24])))))) (oR [oV 58 6,oV 4 58] .ret))))))
theorem ok83:FnOk Tryz.prog 83 59 8 c83 [.t 4]:=⟨_,_,Tryz.func83,rfl,rfl,by kernel_rfl,by kernel_rfl⟩
theorem bd83:bodied Tryz.prog 83=true:=by kernel_rfl
def c84:CI:=(oR [oM 2 (.box 0 true (.t 0)),oM 4 (.mv (oK 0))] (oR [oM 5 (.mv (oK 0))] (.seq (oR [oM 6 (.mv (oK 0))] (.block
 0 (.loop (.seq (oR [oV 7 6,oV 8 1,oN 9 8,oM 10 (.bin .lss (.t 7) (.t 9))] (.cond (.t 10) .skip (.exit 0))) (.seq (.block 1 (oR [oV
 13 1,oV 14 6,oI 15 1 13 14,oL 16 15,oM 17 (.bin .geq (.t 16) (oK 0))] (.cond (.t 17) (.reg [oV 18 5,oF 19 6 2,oL 20 19,oV 21 6,oI 22 6 20 21,
 oF 23 5 22,oL 24 23,oM 25 (.bin .add (.t 18) (.t 24)),oV 5 25]) .skip))) (.reg [oV 11 6,oM 12 (.bin .add (.t 11) (oK 1)),oV 6 12])))))) (oR [oV 26 5,oV 4 26] .ret))))
theorem ok84:FnOk Tryz.prog 84 27 1 c84 [.t 4]:=⟨_,_,Tryz.func84,rfl,rfl,by kernel_rfl,by kernel_rfl⟩
theorem bd84:bodied Tryz.prog 84=true:=by kernel_rfl
def c85:CI:=(oR [oM 4 (.mv (.c (.bool false)))] (.seq (oR [oM 5 (.mv (oK 0))] (.block 0 (.loop (.seq (oR [oV 6 5,oV 7 0,
 oN 8 7,oM 9 (.bin .lss (.t 6) (.t 8))] (.cond (.t 9) .skip (.exit 0))) (.seq (.block 1 (oR [oV 12 0,oV 13 5,oI 14 1 12 13,oL 15 14,oV 16
 1,oM 17 (.bin .eql (.t 15) (.t 16))] (.cond (.t 17) (oR [oM 4 (.mv (.c (.bool true)))] .ret) .skip))) (.reg [oV 10 5,oM 11 (.bin .add (.t 10)
 (oK 1)),oV 5 11])))))) (oR [oM 4 (.mv (.c (.bool false)))] .ret)))
theorem ok85:FnOk Tryz.prog 85 18 0 c85 [.t 4]:=⟨_,_,Tryz.func85,rfl,rfl,by kernel_rfl,by kernel_rfl⟩
theorem bd85:bodied Tryz.prog 85=true:=by kernel_rfl
def c93:CI:=(oR [oM 0 (.alloc 0 [.nils, .nils,(.int .i64 0), .nils])] (oR [oM 1 (.build [(.int .i64 0),(.int .i64 0)] [(0,1,(oK
 300)),(1,1,(oK 310))]),oM 2 (.build [(.int .i64 0),(.int .i64 0),(.int .i64 0),(.int .i64 0)] [(0,1,(oK 1)),(1,1,(oK 2)),(2,2,(.t 1))]),
 oM 3 (.build [(.int .i64 0),(.int .i64 0)] [(0,1,(oK 305)),(1,1,(oK 305))]),oM 4 (.build [(.int .i64 0),(.int .i64 0),(.int .i64 0),(.int .i64
 0)] [(0,1,(oK 1)),(1,1,(oK 3)),(2,2,(.t 3))]),oM 5 (.build [(.int .i64 0),(.int .i64 0)] [(0,1,(oK 50)),(1,1,(oK 60))]),oM 6 (.build [(.int
 .i64 0),(.int .i64 0),(.int .i64 0),(.int .i64 0)] [(0,1,(oK 2)),(1,1,(oK 1)),(2,2,(.t 5))]),oM 7 (.build [(.int .i64 0),(.int .i64 0)] [(0,
 1,(oK 320)),(1,1,(oK 330))]),oM 8 (.build [(.int .i64 0),(.int .i64 0),(.int .i64 0),(.int .i64 0)] [(0,1,(oK 1)),(1,1,(oK 2)),(2,2,(.t
 7))]),oM 9 (.bsl 1 150 4 [(.t 2),(.t 4),(.t 6),(.t 8)] []),oM 10 (.bsl 2 3 1 [(oK 2),(oK 3)] []),oM 11 (.build [(.int .i64 0),(.int .i64 0)] [(0,
 1,(oK 300)),(1,1,(oK 306))]),oM 12 (.build [(.int .i64 0), .nils,(.int .i64 0),(.int .i64 0)] [(0,1,(oK 1)),(1,1,(.t 10)),(2,2,(.t 11))]),
 oM 13 (.bsl 3 3 1 [(oK 1)] []),oM 14 (.build [(.int .i64 0),(.int .i64 0)] [(0,1,(oK 40)),(1,1,(oK 58))]),oM 15 (.build [(.int .i64 0), .nils,
 (.int .i64 0),(.int .i64 0)] [(0,1,(oK 2)),(1,1,(.t 13)),(2,2,(.t 14))]),oM 16 (.bsl 4 144 4 [(.t 12),(.t 15)] []),oM 17 (.build [.nils] [(0,
 1,(.t 16))]),oM 18 (.bsl 5 3 1 [(oK 2)] []),oM 19 (.build [(.int .i64 0),(.int .i64 0)] [(0,1,(oK 310)),(1,1,(oK 326))]),oM 20 (.build [(.int
 .i64 0), .nils,(.int .i64 0),(.int .i64 0)] [(0,1,(oK 1)),(1,1,(.t 18)),(2,2,(.t 19))]),oM 21 (.bsl 6 144 4 [(.t 20)] []),oM 22 (.build [.nils]
 [(0,1,(.t 21))]),oM 23 (.bsl 7 142 1 [(.t 17),(.t 22)] []),oM 24 (.build [(.int .i64 0),(.int .i64 0),(.int .i64 0),(.int .i64 0)] [(1,1,(oK
 1))]),oM 25 (.bsl 8 161 4 [(.t 24)] []),oM 26 (.build [.nils, .nils,(.int .i64 0), .nils] [(0,1,(.t 9)),(1,1,(.t 23)),(2,1,(oK 5)),(3,1,(.t
 25))]),oS (.stz true 4 (.t 0) (.t 26) [])] .ret))
theorem ok93:FnOk Tryz.prog 93 27 9 c93 [.cell 0 true 4]:=⟨_,_,Tryz.func93,rfl,rfl,by kernel_rfl,by kernel_rfl⟩
theorem bd93:bodied Tryz.prog 93=true:=by kernel_rfl
def c94:CI:=(oR [oM 3 (.box 0 true (.t 0)),oM 6 (.mv (oK 0)),oM 7 (.mv (oK 0))] (oR [oW 11 4 3,oV 12 1,oV 13 2,oM 14 (.callw
 1 3 130 [(.t 11),(.t 12),(.t 13)]),oV 10 14,oX 15 0 10,oX 16 1 10,oM 8 (.alloc 4 [.nils, .nils, .nils]),oS (.stz true 3 (.t 8) (.t 15) []),oV 9
 16] (.seq (oR [oV 17 9,oM 18 (.bin .neq (.t 17) (oK 0))] (.cond (.t 18) (oR [oV 19 9,oM 6 (.mv (oK 0)),oV 7 19] .ret) .skip)) (oR [oM 20 (.call 131 [(.t 8)]),oV 6 20,oM 7 (.mv (oK 0))] .ret))))
theorem ok94:FnOk Tryz.prog 94 21 5 c94 [.t 6, .t 7]:=⟨_,_,Tryz.func94,rfl,rfl,by kernel_rfl,by kernel_rfl⟩
theorem bd94:bodied Tryz.prog 94=true:=by kernel_rfl
def c95:CI:=(oR [oM 3 (.box 0 true (.t 1))] (.seq (oR [oV 11 0,oM 12 (.nilck (.t 11)),oF 13 10 12,oL 14 13,oW 15 2 3,oM 16 (.lkp
 (.st (.node [(0,1,(.leaf true)),(1,1,(.leaf true))])) true .nils (.t 14) (.t 15)),oV 10 16,oX 17 0 10,oX 18 1 10,oV 4 17,oV 5 18] (oR [oV 19 5] (.cond (.t 19) .ret .skip))) (oR [oM 6 (.mv oZ)] (.seq (oR [oV 20 0,oM 21 (.nilck (.t 20)),oF 22 0 21,oF 23 4 22,oL 24
 23,oN 25 24,oM 26 (.mv (oK 0))] (.block 0 (.loop (oR [oM 27 (.bin .lss (.t 26) (.t 25))] (.seq (.cond (.t 27) .skip (.exit 0)) (.seq (.block
 1 (oR [oV 28 26,oV 7 28] (oR [oV 30 0,oM 31 (.nilck (.t 30)),oF 32 0 31,oF 33 0 32,oW 34 4 33,oV 35 7,oF 36 0 3,oL 37 36,oF 38
 1 3,oL 39 38,oM 40 (.call 132 [(.t 34),(.t 35),(.t 37),(.t 39)]),oV 29 40,oX 41 0 29,oX 42 1 29,oV 8 41,oV 9 42] (oR [oV 43 8,oM 44
 (.bin .eql (.t 43) (oK 1))] (.cond (.t 44) (.reg [oV 45 6,oV 46 7,oM 47 (.bsl 1 3 1 [(.t 46)] []),oM 48 (.apd 2 3 1 8 (.t 45) (.t 47) []),oV 6 48])
 .skip))))) (.reg [oM 49 (.bin .add (.t 26) (oK 1)),oV 26 49]))))))) (.reg [oV 50 0,oM 51 (.nilck (.t 50)),oF 52 10 51,oL 53 52,oW 54 2 3,oV 55 6,
 oS (.mpu (.st (.node [(0,1,(.leaf true)),(1,1,(.leaf true))])) (.t 53) (.t 54) (.t 55) [])])))))
theorem ok95:FnOk Tryz.prog 95 56 3 c95 []:=⟨_,_,Tryz.func95,rfl,rfl,by kernel_rfl,by kernel_rfl⟩
theorem bd95:bodied Tryz.prog 95=true:=by kernel_rfl
def c96:CI:=(oR [oM 4 (.mv oZ)] (oR [oM 5 (.mv oZ)] (.seq (oR [oV 9 0,oM 10 (.nilck (.t 9)),oF 11 0 10,oF 12 5 11,oL
 13 12,oN 14 13,oM 15 (.mv (oK 0))] (.block 0 (.loop (oR [oM 16 (.bin .lss (.t 15) (.t 14))] (.seq (.cond (.t 16) .skip (.exit 0)) (.seq (.block
 1 (oR [oV 17 15,oV 6 17] (oR [oV 19 0,oV 20 1,oV 21 6,oM 22 (.callw 0 1 99 [(.t 19),(.t 20),(.t 21)]),oV 18 22,oX 23 0 18,oX
 24 1 18,oM 7 (.alloc 1 [(.int .i64 0), .nils]),oS (.stz true 2 (.t 7) (.t 23) []),oV 8 24] (oR [oV 25 8] (.cond (.t 25) (.reg [oV 26 5,oW
 27 2 7,oM 28 (.bsl 2 102 2 [(.t 27)] []),oM 29 (.apd 3 102 2 32 (.t 26) (.t 28) []),oV 5 29]) .skip))))) (.reg [oM 30 (.bin .add (.t 15) (oK 1)),oV
 15 30]))))))) (oR [oV 31 5,oV 4 31] .ret))))
theorem ok96:FnOk Tryz.prog 96 32 4 c96 [.t 4]:=⟨_,_,Tryz.func96,rfl,rfl,by kernel_rfl,by kernel_rfl⟩
theorem bd96:bodied Tryz.prog 96=true:=by kernel_rfl
def c97:CI:=(oR [oM 1 (.box 0 true (.t 0)),oM 2 (.alloc 1 [(.lit (.pointer none)), .nils,(.int .i64 0), .nils, .nils, .nils,(.int .i64 0)])]
 (oR [oF 4 1 1,oL 5 4,oN 6 5,oV 3 6] (oR [oF 7 1 1,oL 8 7,oV 9 3,oV 10 3,oM 11 (.sl3 1 (.t 8) (.t 9) (.t 10)),oM 12 (.bsl 2 3 1
 [(oK (-1))] []),oM 13 (.apd 3 3 1 8 (.t 11) (.t 12) []),oF 14 1 1,oS (.stz false 1 (.t 14) (.t 13) [])] (oR [oF 15 2 1,oL 16 15,oF 17 0 1,
 oL 18 17,oM 19 (.nilck (.t 18)),oF 20 0 19,oF 21 6 20,oL 22 21,oV 23 3,oI 24 6 22 23,oF 25 5 24,oL 26 25,oM 27 (.bin .add (.t 16) (.t 26)),oF
 28 2 1,oS (.store false 1 (.t 28) (.t 27) [])] (oR [oW 29 7 1,oS (.stz true 7 (.t 2) (.t 29) [])] .ret)))))
theorem ok97:FnOk Tryz.prog 97 30 4 c97 [.cell 2 true 7]:=⟨_,_,Tryz.func97,rfl,rfl,by kernel_rfl,by kernel_rfl⟩
theorem bd97:bodied Tryz.prog 97=true:=by kernel_rfl
def c98:CI:=(oR [oM 2 (.box 0 true (.t 0)),oM 3 (.box 1 true (.t 1)),oM 4 (.alloc 2 [(.lit (.pointer none)), .nils,(.int .i64 0), .nils,
 .nils, .nils,(.int .i64 0)])] (.seq (oR [oF 6 2 2,oL 7 6,oF 8 2 3,oL 9 8,oM 10 (.bin .geq (.t 7) (.t 9))] (.cond (.t 10) (oR [oW
 11 7 3,oS (.stz true 7 (.t 4) (.t 11) [])] .ret) .skip)) (.seq (oR [oF 12 1 2,oL 13 12,oN 14 13,oF 15 0 2,oL 16 15,oM 17 (.nilck (.t 16)),
 oF 18 0 17,oF 19 6 18,oL 20 19,oN 21 20,oM 22 (.bin .eql (.t 14) (.t 21))] (.cond (.t 22) (oR [oW 23 7 2,oS (.stz true 7 (.t 4) (.t 23) [])]
 .ret) .skip)) (.seq (oR [oW 24 7 2,oM 25 (.mkmt 107 [(.t 24)])] (.block 0 (.rng (.t 25) [26] (.reg [oM 5 (.alloc 3 [(.lit (.pointer none)), .nils,
 (.int .i64 0), .nils, .nils, .nils,(.int .i64 0)]),oS (.stz true 7 (.t 5) (.t 26) [])]) (.block 1 (oR [oF 27 6 5,oL 28 27,oM 29 (.bin .eql
 (.t 28) (oK 0))] (.cond (.t 29) (.reg [oW 30 7 5,oW 31 7 3,oM 32 (.callw 4 4 98 [(.t 30),(.t 31)]),oS (.stz true 7 (.t 3) (.t 32) [])]) .skip))))))
 (oR [oW 33 7 2,oW 35 7 3,oM 34 (.callz 8 4 97 [(.t 33)] []),oM 36 (.callz 12 4 98 [(.t 34),(.t 35)] []),oS (.stz true 7 (.t 4) (.t 36) [])]
 .ret)))))
theorem ok98:FnOk Tryz.prog 98 37 16 c98 [.cell 4 true 7]:=⟨_,_,Tryz.func98,rfl,rfl,by kernel_rfl,by kernel_rfl⟩
theorem bd98:bodied Tryz.prog 98=true:=by kernel_rfl
def c99:CI:=(oR [oM 6 (.alloc 0 [(.int .i64 0), .nils]),oM 7 (.mv (.c (.bool false)))] (oR [oV 16 0,oM 17 (.nilck (.t 16)),oF 18
 0 17,oF 19 6 18,oL 20 19,oV 21 1,oI 22 6 20 21,oW 23 6 22,oV 24 0,oM 25 (.nilck (.t 24)),oF 26 0 25,oF 27 5 26,oL 28 27,oV 29 2,oI 30 5 28
 29,oW 31 5 30,oM 8 (.alloc 1 [.nils,(.int .i64 0),(.int .i64 0),(.int .i64 0),(.int .i64 0),(.int .i64 0)]),oM 9 (.alloc 2 [(.int .i64 0),(.int
 .i64 0),(.int .i64 0),(.int .i64 0), .nils]),oS (.stz true 6 (.t 8) (.t 23) [(.t 27),(.t 28),(.t 30)]),oS (.stz true 5 (.t 9) (.t 31) [])] (oR [oW 32 6 8,oW 33 5 9,oM 34 (.call 78 [(.t 32),(.t 33)]),oV 10 34] (oR [oF 35 4 8,oL 36 35,oV 11 36] (.seq (oR [oV 37 10,
 oM 38 (.bin .eql (.t 37) (oK 2))] (.cond (.t 38) (.reg [oV 39 11,oV 40 0,oM 41 (.nilck (.t 40)),oF 42 0 41,oF 43 8 42,oL 44 43,oM 45 (.bin .sub
 (.t 39) (.t 44)),oV 11 45]) .skip)) (.seq (oR [oV 46 10,oM 47 (.bin .eql (.t 46) (oK 0)),oV 48 47,oG 48 false (oV 49 11),oG 48 false (oM 50
 (.bin .lss (.t 49) (oK 0))),oM 51 (.pick (.t 48) (.c (.bool true)) (.t 50))] (.cond (.t 51) (oR [oM 52 (.build [(.int .i64 0), .nils] []),oS
 (.stz true 2 (.t 6) (.t 52) []),oM 7 (.mv (.c (.bool false)))] .ret) .skip)) (oR [oV 53 2,oM 54 (.build [(.int .i64 0), .nils] [(0,1,(.t 53))]),
 oM 12 (.alloc 3 [(.int .i64 0), .nils]),oS (.stz true 2 (.t 12) (.t 54) [])] (.seq (oR [oF 55 4 9,oL 56 55,oN 57 56,oM 58 (.mv (oK 0))] (.block
 0 (.loop (oR [oM 59 (.bin .lss (.t 58) (.t 57))] (.seq (.cond (.t 59) .skip (.exit 0)) (.seq (.block 1 (oR [oI 60 1 56 58,oL 61 60,oV
 14 61] (oR [oV 62 0,oM 63 (.nilck (.t 62)),oF 64 10 63,oL 65 64,oF 66 3 9,oL 67 66,oV 68 14,oM 69 (.build [(.int .i64 0),(.int .i64 0)]
 [(0,1,(.t 67)),(1,1,(.t 68))]),oM 70 (.lkp (.st (.node [(0,1,(.leaf true)),(1,1,(.leaf true))])) false .nils (.t 65) (.t 69)),oV 15 70] (.seq
 (oR [oV 71 15,oN 72 71,oM 73 (.bin .eql (.t 72) (oK 0))] (.cond (.t 73) (oR [oM 74 (.build [(.int .i64 0), .nils] []),oS (.stz true
 2 (.t 6) (.t 74) []),oM 7 (.mv (.c (.bool false)))] .ret) .skip)) (.alt [oF 75 1 12,oL 76 75,oV 77 0,oV 78 15,oV 79 11,oM 80 (.callw 4 1 133 [(.t
 77),(.t 78),(.t 79)]),oM 81 (.bsl 5 27 1 [(.t 80)] []),oM 82 (.apd 6 27 1 24 (.t 76) (.t 81) []),oF 83 1 12,oS (.stz false 1 (.t 83) (.t 82) [])]
 [oF 75 1 12,oV 77 0,oV 78 15,oV 79 11,oM 80 (.callw 4 1 133 [(.t 77),(.t 78),(.t 79)]),oL 76 75,oM 81 (.bsl 5 27 1 [(.t 80)] []),oM 82 (.apd 6
 27 1 24 (.t 76) (.t 81) []),oF 83 1 12,oS (.stz false 1 (.t 83) (.t 82) [])]))))) (.reg [oM 84 (.bin .add (.t 58) (oK 1)),oV 58 84]))))))) (oR [oW 85 2 12,oS (.stz true 2 (.t 6) (.t 85) []),oM 7 (.mv (.c (.bool true)))] .ret)))))))))
theorem ok99:FnOk Tryz.prog 99 86 7 c99 [.cell 6 true 2, .t 7]:=⟨_,_,Tryz.func99,rfl,rfl,by kernel_rfl,by kernel_rfl⟩
theorem bd99:bodied Tryz.prog 99=true:=by kernel_rfl
def c100:CI:=(oR [oM 3 (.box 0 true (.t 0)),oM 6 (.mv oZ),oM 7 (.mv (.c (.bool false)))] (oR [oM 8 (.mv oZ)] (.seq (oR [oM 9 (.mv (oK 0))] (.block 0 (.loop (.seq (oR [oV 14 9,oV 15 2,oN 16 15,oM 17 (.bin .lss (.t 14) (.t 16))] (.cond (.t 17) .skip (.exit 0)))
 (.seq (.block 1 (.seq (oR [oV 20 2,oV 21 9,oI 22 1 20 21,oL 23 22,oM 24 (.bin .lss (.t 23) (oK 0))] (.cond (.t 24) (.exit 1) .skip)) (oR [oF 25 6 3,oL 26 25,oV 27 9,oI 28 6 26 27,oW 29 6 28,oF 30 5 3,oL 31 30,oV 32 2,oV 33 9,oI 34 1 32 33,oL 35 34,oI 36 5 31 35,oW 37 5
 36,oM 10 (.alloc 1 [.nils,(.int .i64 0),(.int .i64 0),(.int .i64 0),(.int .i64 0),(.int .i64 0)]),oM 11 (.alloc 2 [(.int .i64 0),(.int .i64 0),
 (.int .i64 0),(.int .i64 0), .nils]),oS (.stz true 6 (.t 10) (.t 29) [(.t 30),(.t 32),(.t 34),(.t 31),(.t 36)]),oS (.stz true 5 (.t 11) (.t 37)
 [])] (oR [oF 38 4 10,oL 39 38,oV 12 39] (.seq (oR [oW 40 6 10,oW 41 5 11,oM 42 (.call 80 [(.t 40),(.t 41)])] (.block 2 (oR [oM 44 (.bin .eql (.t 42) (oK 0)),oV 43 44] (.cond (.t 43) (oR [oM 6 (.mv oZ),oM 7 (.mv (.c (.bool false)))] .ret) (oR [oM 46 (.bin
 .eql (.t 42) (oK 2)),oV 45 46] (.cond (.t 45) (.reg [oV 47 12,oF 48 8 3,oL 49 48,oM 50 (.bin .sub (.t 47) (.t 49)),oV 12 50]) .skip)))))) (.seq (oR [oV 51 12,oM 52 (.bin .lss (.t 51) (oK 0))] (.cond (.t 52) (oR [oM 6 (.mv oZ),oM 7 (.mv (.c (.bool false)))] .ret) .skip)) (oR [oM 13 (.mv (oK 0))] (.block 3 (.loop (.seq (oR [oV 53 13,oF 54 4 11,oL 55 54,oN 56 55,oM 57 (.bin .lss (.t 53) (.t 56))] (.cond (.t 57)
 .skip (.exit 3))) (.seq (.block 4 (.reg [oV 60 8,oV 61 12,oV 62 1,oV 63 2,oV 64 9,oI 65 1 63 64,oL 66 65,oI 67 1 62 66,oL 68 67,oV 69 13,oI 70
 1 68 69,oL 71 70,oM 72 (.build [(.int .i64 0), .nils] [(0,1,(.t 61)),(1,1,(.t 71))]),oM 73 (.bsl 3 174 2 [(.t 72)] []),oM 74 (.apd 4 174 2 32
 (.t 60) (.t 73) []),oV 8 74])) (.reg [oV 58 13,oM 59 (.bin .add (.t 58) (oK 1)),oV 13 59])))))))))))) (.reg [oV 18 9,oM 19 (.bin .add (.t 18) (oK 1)),
 oV 9 19])))))) (oR [oV 75 8,oV 6 75,oM 7 (.mv (.c (.bool true)))] .ret))))
theorem ok100:FnOk Tryz.prog 100 76 5 c100 [.t 6, .t 7]:=⟨_,_,Tryz.func100,rfl,rfl,by kernel_rfl,by kernel_rfl⟩
theorem bd100:bodied Tryz.prog 100=true:=by kernel_rfl
def c101:CI:=(oR [oM 4 (.mv (.c (.bool false)))] (.seq (oR [oV 7 0,oN 8 7,oM 9 (.bin .eql (.t 8) (oK 0))] (.cond (.t 9) (oR [oM 4 (.mv (.c (.bool true)))] .ret) .skip)) (oR [oV 10 0,oM 11 (.iaddr 2 (.t 10) (oK 0)),oW 12 2 11,oV 13 1,oM 14 (.callw 0 1 134 [(.t 12),
 (.t 13)]),oV 5 14] (.seq (oR [oM 6 (.mv (oK 0))] (.block 0 (.loop (.seq (oR [oV 15 6,oV 16 5,oN 17 16,oM 18 (.bin .lss (.t 15) (.t
 17))] (.cond (.t 18) .skip (.exit 0))) (.seq (.block 1 (oR [oV 21 0,oM 22 (.sli 2 (.t 21) (some (oK 1)) none),oV 23 5,oV 24 6,oI 25 1 23 24,
 oL 26 25,oM 27 (.call 101 [(.t 22),(.t 26)])] (.cond (.t 27) (oR [oM 4 (.mv (.c (.bool true)))] .ret) .skip))) (.reg [oV 19 6,oM 20 (.bin
 .add (.t 19) (oK 1)),oV 6 20])))))) (oR [oM 4 (.mv (.c (.bool false)))] .ret)))))
theorem ok101:FnOk Tryz.prog 101 28 1 c101 [.t 4]:=⟨_,_,Tryz.func101,rfl,rfl,by kernel_rfl,by kernel_rfl⟩
theorem bd101:bodied Tryz.prog 101=true:=by kernel_rfl
def c102:CI:=(oR [oM 1 (.box 0 true (.t 0)),oM 2 (.mv oZ)] (oR [oM 5 (.bsl 1 45 3 [] []),oF 6 7 1,oL 7 6,oM 8 (.apd 2 45 3 24
 (.t 5) (.t 7) []),oV 3 8] (.seq (oR [oM 4 (.mv (oK 0))] (.block 0 (.loop (.seq (oR [oV 9 4,oF 10 4 1,oL 11 10,oN 12 11,oM 13 (.bin
 .lss (.t 9) (.t 12))] (.cond (.t 13) .skip (.exit 0))) (.seq (.block 1 (.reg [oV 16 3,oV 17 4,oF 18 4 1,oL 19 18,oV 20 4,oI 21 1 19 20,oL 22 21,
 oM 23 (.build [(.int .i64 0),(.int .i64 0),(.int .i64 0)] [(1,1,(.t 17)),(2,1,(.t 22))]),oM 24 (.bsl 3 45 3 [(.t 23)] []),oM 25 (.apd 4 45 3 24
 (.t 16) (.t 24) []),oV 3 25])) (.reg [oV 14 4,oM 15 (.bin .add (.t 14) (oK 1)),oV 4 15])))))) (oR [oV 26 3,oV 2 26] .ret))))
theorem ok102:FnOk Tryz.prog 102 27 5 c102 [.t 2]:=⟨_,_,Tryz.func102,rfl,rfl,by kernel_rfl,by kernel_rfl⟩
theorem bd102:bodied Tryz.prog 102=true:=by kernel_rfl
def c103:CI:=(oR [oM 3 (.box 0 true (.t 0)),oM 6 (.mv oZ)] (oR [oM 7 (.mv oZ)] (.seq (oR [oM 8 (.mv (oK 0))] (.block 0
 (.loop (.seq (oR [oV 11 8,oF 12 0 3,oL 13 12,oN 14 13,oM 15 (.bin .lss (.t 11) (.t 14))] (.cond (.t 15) .skip (.exit 0))) (.seq (.block 1
 (oR [oW 19 4 3,oV 20 8,oV 21 1,oV 22 2,oM 23 (.call 135 [(.t 19),(.t 20),(.t 21),(.t 22)]),oV 18 23,oX 24 0 18,oX 25 1 18,oV 9 24,oV
 10 25] (oR [oV 26 9,oM 27 (.bin .eql (.t 26) (oK 1))] (.cond (.t 27) (.reg [oV 28 7,oV 29 8,oM 30 (.bsl 1 3 1 [(.t 29)] []),oM 31 (.apd 2
 3 1 8 (.t 28) (.t 30) []),oV 7 31]) .skip)))) (.reg [oV 16 8,oM 17 (.bin .add (.t 16) (oK 1)),oV 8 17])))))) (oR [oV 32 7,oV 6 32] .ret))))
theorem ok103:FnOk Tryz.prog 103 33 3 c103 [.t 6]:=⟨_,_,Tryz.func103,rfl,rfl,by kernel_rfl,by kernel_rfl⟩
theorem bd103:bodied Tryz.prog 103=true:=by kernel_rfl
def c104:CI:=(oR [oM 6 (.mv (.c (.bool false)))] (oR [oV 7 1,oV 8 0,oM 9 (.bin .leq (.t 7) (.t 8)),oV 10 9,oG 10 true (oV 11 0),
 oG 10 true (oV 12 2),oG 10 true (oM 13 (.bin .leq (.t 11) (.t 12))),oM 14 (.pick (.t 10) (.t 13) (.c (.bool false))),oV 6 14] .ret))
theorem ok104:FnOk Tryz.prog 104 15 0 c104 [.t 6]:=⟨_,_,Tryz.func104,rfl,rfl,by kernel_rfl,by kernel_rfl⟩
theorem bd104:bodied Tryz.prog 104=true:=by kernel_rfl
def c105:CI:=(oR [oM 2 (.mv oZ)] (.seq (oR [oV 3 0,oM 4 (.eqn false (.t 3))] (.cond (.t 4) (oR [oM 2 (.mv oZ)] .ret) .skip))
 (oR [oM 5 (.bsl 0 3 1 [] []),oV 6 0,oM 7 (.apd 1 3 1 8 (.t 5) (.t 6) []),oV 2 7] .ret)))
theorem ok105:FnOk Tryz.prog 105 8 2 c105 [.t 2]:=⟨_,_,Tryz.func105,rfl,rfl,by kernel_rfl,by kernel_rfl⟩
theorem bd105:bodied Tryz.prog 105=true:=by kernel_rfl
def c106:CI:=(oR [oM 6 (.mv (.c (.bool false)))] (.seq (oR [oV 11 0,oM 12 (.nilck (.t 11)),oF 13 3 12,oL 14 13,oV 15 1,oI 16
 1 14 15,oL 17 16,oN 18 17,oM 19 (.mv (oK 0))] (.block 0 (.loop (oR [oM 20 (.bin .lss (.t 19) (.t 18))] (.seq (.cond (.t 20) .skip (.exit 0))
 (.seq (.block 1 (oR [oI 21 1 17 19,oL 22 21,oV 8 22] (.seq (oR [oV 23 2,oV 24 8,oI 25 1 23 24,oL 26 25] (.cond (.t 26) (.exit 1)
 .skip)) (oR [oV 27 2,oV 28 8,oI 29 1 27 28,oS (.store false 1 (.t 29) (.c (.bool true)) [])] (.seq (oR [oV 30 0,oM 31 (.nilck (.t
 30)),oF 32 5 31,oL 33 32,oV 34 8,oI 35 1 33 34,oL 36 35,oM 37 (.bin .gtr (.t 36) (oK 0))] (.cond (.t 37) (oR [oV 38 0,oM 39 (.nilck (.t
 38)),oF 40 5 39,oL 41 40,oV 42 8,oI 43 1 41 42,oL 44 43,oM 45 (.bin .sub (.t 44) (oK 1)),oI 46 1 41 42,oS (.store false 1 (.t 46) (.t 45) [])]
 (oR [oV 47 0,oM 48 (.nilck (.t 47)),oF 49 4 48,oL 50 49,oV 51 1,oV 52 8,oI 53 1 50 51,oS (.store false 1 (.t 53) (.t 52) [])] (oR [oM 6 (.mv (.c (.bool true)))] .ret))) .skip)) (oR [oV 54 0,oM 55 (.nilck (.t 54)),oF 56 4 55,oL 57 56,oN 58 57,oM 59 (.mv (oK 0))] (.block
 2 (.loop (oR [oM 60 (.bin .lss (.t 59) (.t 58))] (.seq (.cond (.t 60) .skip (.exit 2)) (.seq (.block 3 (oR [oV 61 59,oI 62 1 57 59,oL
 63 62,oV 9 61,oV 10 63] (oR [oV 64 10,oV 65 8,oM 66 (.bin .eql (.t 64) (.t 65)),oV 67 66,oG 67 true (oV 68 0),oG 67 true (oV 69 9),oG
 67 true (oV 70 2),oG 67 true (oM 71 (.callw 0 0 106 [(.t 68),(.t 69),(.t 70)])),oM 72 (.pick (.t 67) (.t 71) (.c (.bool false)))] (.cond (.t 72) (oR [oV 73 0,oM 74 (.nilck (.t 73)),oF 75 4 74,oL 76 75,oV 77 1,oV 78 8,oI 79 1 76 77,oS (.store false 1 (.t 79) (.t 78) [])] (oR [oM
 6 (.mv (.c (.bool true)))] .ret)) .skip)))) (.reg [oM 80 (.bin .add (.t 59) (oK 1)),oV 59 80])))))))))))) (.reg [oM 81 (.bin .add (.t 19) (oK 1)),oV
 19 81]))))))) (oR [oM 6 (.mv (.c (.bool false)))] .ret)))
theorem ok106:FnOk Tryz.prog 106 82 0 c106 [.t 6]:=⟨_,_,Tryz.func106,rfl,rfl,by kernel_rfl,by kernel_rfl⟩
theorem bd106:bodied Tryz.prog 106=true:=by kernel_rfl
def c107:CI:=(oR [oM 2 (.box 0 true (.t 0))] (oR [oF 6 0 2,oL 7 6,oM 8 (.nilck (.t 7)),oF 9 11 8,oL 10 9,oF 11 1 2,oL 12 11,
 oN 13 12,oI 14 1 10 13,oL 15 14,oN 16 15,oM 17 (.mv (oK 0))] (.block 0 (.loop (oR [oM 18 (.bin .lss (.t 17) (.t 16))] (.seq (.cond (.t 18)
 .skip (.exit 0)) (.seq (.block 1 (oR [oI 19 2 15 17,oW 20 2 19,oM 5 (.alloc 1 [(.int .i64 0), .nils]),oS (.stz true 2 (.t 5) (.t 20) [])] (oR [oF 21 1 2,oL 22 21,oF 23 0 5,oL 24 23,oM 25 (.call 124 [(.t 22),(.t 24)]),oM 26 (.un .not (.t 25)),oV 27 26,oG 27 true (oV 28 1),oG 27
 true (oW 29 7 2),oG 27 true (oW 30 2 5),oG 27 true (oM 31 (.callw 2 4 63 [(.t 29),(.t 30)])),oG 27 true (oM 32 (.callx (.t 28) [(.t 31)])),oG 27 true
 (oM 33 (.un .not (.t 32))),oM 34 (.pick (.t 27) (.t 33) (.c (.bool false)))] (.cond (.t 34) .ret .skip)))) (.reg [oM 35 (.bin .add (.t 17) (oK 1)),oV
 17 35]))))))))
theorem ok107:FnOk Tryz.prog 107 36 6 c107 []:=⟨_,_,Tryz.func107,rfl,rfl,by kernel_rfl,by kernel_rfl⟩
theorem bd107:bodied Tryz.prog 107=true:=by kernel_rfl
def c110:CI:=(oR [oM 1 (.box 0 true (.t 0)),oM 2 (.mv (.c (.bool false)))] (oR [oF 3 0 1,oL 4 3,oN 5 4,oM 6 (.bin .leq (.t 5)
 (oK 10)),oV 7 6,oG 7 true (oF 8 0 1),oG 7 true (oL 9 8),oG 7 true (oM 10 (.call 136 [(.t 9),(.c (.fn 137 []))])),oM 11 (.pick (.t 7) (.t 10) (.c
 (.bool false))),oV 12 11,oG 12 true (oF 13 1 1),oG 12 true (oL 14 13),oG 12 true (oN 15 14),oG 12 true (oM 16 (.bin .leq (.t 15) (oK 6))),oM 17 (.pick
 (.t 12) (.t 16) (.c (.bool false))),oV 18 17,oG 18 true (oF 19 1 1),oG 18 true (oL 20 19),oG 18 true (oM 21 (.call 138 [(.t 20),(.c (.fn 139 []))])),
 oM 22 (.pick (.t 18) (.t 21) (.c (.bool false))),oV 23 22,oG 23 true (oF 24 2 1),oG 23 true (oL 25 24),oG 23 true (oM 26 (.call 140 [(.t 25),(oK 0),
 (oK 99)])),oM 27 (.pick (.t 23) (.t 26) (.c (.bool false))),oV 28 27,oG 28 true (oF 29 3 1),oG 28 true (oL 30 29),oG 28 true (oN 31 30),oG 28 true
 (oM 32 (.bin .leq (.t 31) (oK 30))),oM 33 (.pick (.t 28) (.t 32) (.c (.bool false))),oV 34 33,oG 34 true (oF 35 3 1),oG 34 true (oL 36 35),oG 34 true
 (oM 37 (.mkfn 142 [(.t 1)])),oG 34 true (oM 38 (.call 141 [(.t 36),(.t 37)])),oM 39 (.pick (.t 34) (.t 38) (.c (.bool false))),oV 2 39] .ret))
theorem ok110:FnOk Tryz.prog 110 40 1 c110 [.t 2]:=⟨_,_,Tryz.func110,rfl,rfl,by kernel_rfl,by kernel_rfl⟩
theorem bd110:bodied Tryz.prog 110=true:=by kernel_rfl
def c111:CI:=(oR [oM 1 (.box 0 false (.t 0)),oM 2 (.mv (.c (.bool false)))] (oR [oL 3 1,oM 4 (.mkfn 146 [(.t 1)]),oM 5 (.call 145
 [(.t 3),(.t 4)]),oV 2 5] .ret))
theorem ok111:FnOk Tryz.prog 111 6 1 c111 [.t 2]:=⟨_,_,Tryz.func111,rfl,rfl,by kernel_rfl,by kernel_rfl⟩
theorem bd111:bodied Tryz.prog 111=true:=by kernel_rfl
def c112:CI:=(oR [oM 4 (.mv (.c (.bool false)))] (.seq (oR [oV 7 0,oN 8 7,oM 9 (.mv (oK 0))] (.block 0 (.loop (oR [oM 10
 (.bin .lss (.t 9) (.t 8))] (.seq (.cond (.t 10) .skip (.exit 0)) (.seq (.block 1 (oR [oI 11 1 7 9,oL 12 11,oV 6 12] (oR [oV 13 1,oV
 14 6,oM 15 (.callx (.t 13) [(.t 14)]),oM 16 (.un .not (.t 15))] (.cond (.t 16) (oR [oM 4 (.mv (.c (.bool false)))] .ret) .skip)))) (.reg [oM
 17 (.bin .add (.t 9) (oK 1)),oV 9 17]))))))) (oR [oM 4 (.mv (.c (.bool true)))] .ret)))
theorem ok112:FnOk Tryz.prog 112 18 0 c112 [.t 4]:=⟨_,_,Tryz.func112,rfl,rfl,by kernel_rfl,by kernel_rfl⟩
theorem bd112:bodied Tryz.prog 112=true:=by kernel_rfl
def c113:CI:=(oR [oM 2 (.mv (.c (.bool false)))] (oR [oV 3 0,oM 4 (.call 104 [(.t 3),(oK 0),(oK 10)]),oV 2 4] .ret))
theorem ok113:FnOk Tryz.prog 113 5 0 c113 [.t 2]:=⟨_,_,Tryz.func113,rfl,rfl,by kernel_rfl,by kernel_rfl⟩
theorem bd113:bodied Tryz.prog 113=true:=by kernel_rfl
def c114:CI:=(oR [oM 4 (.mv (.c (.bool false)))] (.seq (oR [oV 7 0,oN 8 7,oM 9 (.mv (oK 0))] (.block 0 (.loop (oR [oM 10
 (.bin .lss (.t 9) (.t 8))] (.seq (.cond (.t 10) .skip (.exit 0)) (.seq (.block 1 (oR [oI 11 5 7 9,oW 12 5 11,oM 6 (.alloc 0 [(.int .i64 0),
 (.int .i64 0),(.int .i64 0),(.int .i64 0), .nils]),oS (.stz true 5 (.t 6) (.t 12) [])] (oR [oV 13 1,oW 14 5 6,oM 15 (.callx (.t 13) [(.t
 14)]),oM 16 (.un .not (.t 15))] (.cond (.t 16) (oR [oM 4 (.mv (.c (.bool false)))] .ret) .skip)))) (.reg [oM 17 (.bin .add (.t 9) (oK 1)),oV
 9 17]))))))) (oR [oM 4 (.mv (.c (.bool true)))] .ret)))
theorem ok114:FnOk Tryz.prog 114 18 1 c114 [.t 4]:=⟨_,_,Tryz.func114,rfl,rfl,by kernel_rfl,by kernel_rfl⟩
theorem bd114:bodied Tryz.prog 114=true:=by kernel_rfl
def c115:CI:=(oR [oM 2 (.box 0 true (.t 0)),oM 3 (.mv (.c (.bool false)))] (oR [oF 4 0 1,oW 5 4 4,oW 6 5 2,oM 7 (.call 116 [(.t
 5),(.t 6)]),oV 3 7] .ret))
theorem ok115:FnOk Tryz.prog 115 8 1 c115 [.t 3]:=⟨_,_,Tryz.func115,rfl,rfl,by kernel_rfl,by kernel_rfl⟩
theorem bd115:bodied Tryz.prog 115=true:=by kernel_rfl
def c116:CI:=(oR [oM 2 (.box 0 true (.t 0)),oM 3 (.box 1 true (.t 1)),oM 4 (.mv (.c (.bool false)))] (.seq (oR [oF 6 0 3,oL 7 6,
 oM 8 (.call 148 [(.t 7)]),oM 9 (.un .not (.t 8)),oV 10 9,oG 10 false (oF 11 1 3),oG 10 false (oL 12 11),oG 10 false (oM 13 (.call 148 [(.t 12)])),
 oG 10 false (oM 14 (.un .not (.t 13))),oM 15 (.pick (.t 10) (.c (.bool true)) (.t 14)),oV 16 15,oG 16 false (oF 17 2 3),oG 16 false (oL 18 17),oG
 16 false (oM 19 (.call 148 [(.t 18)])),oG 16 false (oM 20 (.un .not (.t 19))),oM 21 (.pick (.t 16) (.c (.bool true)) (.t 20)),oV 22 21,oG 22 false
 (oF 23 3 3),oG 22 false (oL 24 23),oG 22 false (oF 25 1 2),oG 22 false (oL 26 25),oG 22 false (oN 27 26),oG 22 false (oM 28 (.bin .sub (.t 27) (oK
 1))),oG 22 false (oM 29 (.call 104 [(.t 24),(oK 0),(.t 28)])),oG 22 false (oM 30 (.un .not (.t 29))),oM 31 (.pick (.t 22) (.c (.bool true)) (.t 30))]
 (.cond (.t 31) (oR [oM 4 (.mv (.c (.bool false)))] .ret) .skip)) (oR [oF 32 1 2,oL 33 32,oF 34 3 3,oL 35 34,oI 36 1 33 35,oF 37 0
 36,oL 38 37,oN 39 38,oM 5 (.alloc 2 [(.int .i64 0)]),oS (.store false 1 (.t 5) (.t 39) [])] (oR [oF 40 4 3,oL 41 40,oM 42 (.call 149 [(.t
 41)]),oV 43 42,oG 43 true (oF 44 4 3),oG 43 true (oL 45 44),oG 43 true (oM 46 (.mkfn 150 [(.t 5)])),oG 43 true (oM 47 (.call 112 [(.t 45),(.t 46)])),
 oM 48 (.pick (.t 43) (.t 47) (.c (.bool false))),oV 4 48] .ret))))
theorem ok116:FnOk Tryz.prog 116 49 3 c116 [.t 4]:=⟨_,_,Tryz.func116,rfl,rfl,by kernel_rfl,by kernel_rfl⟩
theorem bd116:bodied Tryz.prog 116=true:=by kernel_rfl
def c117:CI:=(oR [oM 4 (.mv (.c (.bool false)))] (.seq (oR [oV 7 0,oN 8 7,oM 9 (.mv (oK 0))] (.block 0 (.loop (oR [oM 10
 (.bin .lss (.t 9) (.t 8))] (.seq (.cond (.t 10) .skip (.exit 0)) (.seq (.block 1 (oR [oI 11 6 7 9,oW 12 6 11,oM 6 (.alloc 0 [.nils,(.int .i64
 0),(.int .i64 0),(.int .i64 0),(.int .i64 0),(.int .i64 0)]),oS (.stz true 6 (.t 6) (.t 12) [])] (oR [oV 13 1,oW 14 6 6,oM 15 (.callx (.t
 13) [(.t 14)]),oM 16 (.un .not (.t 15))] (.cond (.t 16) (oR [oM 4 (.mv (.c (.bool false)))] .ret) .skip)))) (.reg [oM 17 (.bin .add (.t 9) (oK
 1)),oV 9 17]))))))) (oR [oM 4 (.mv (.c (.bool true)))] .ret)))
theorem ok117:FnOk Tryz.prog 117 18 1 c117 [.t 4]:=⟨_,_,Tryz.func117,rfl,rfl,by kernel_rfl,by kernel_rfl⟩
theorem bd117:bodied Tryz.prog 117=true:=by kernel_rfl
def c118:CI:=(oR [oM 1 (.box 0 true (.t 0)),oM 2 (.mv (.c (.bool false)))] (oR [oF 3 0 1,oL 4 3,oN 5 4,oM 6 (.call 104 [(.t 5),
 (oK 1),(oK 8)]),oV 7 6,oG 7 true (oF 8 0 1),oG 7 true (oL 9 8),oG 7 true (oM 10 (.call 112 [(.t 9),(.c (.fn 148 []))])),oM 11 (.pick (.t 7) (.t
 10) (.c (.bool false))),oV 12 11,oG 12 true (oF 13 0 1),oG 12 true (oL 14 13),oG 12 true (oM 15 (.call 149 [(.t 14)])),oM 16 (.pick (.t 12) (.t 15)
 (.c (.bool false))),oV 17 16,oG 17 true (oF 18 1 1),oG 17 true (oF 19 0 18),oG 17 true (oL 20 19),oG 17 true (oF 21 1 1),oG 17 true (oF 22 1 21),
 oG 17 true (oL 23 22),oG 17 true (oM 24 (.call 104 [(.t 20),(oK 0),(.t 23)])),oM 25 (.pick (.t 17) (.t 24) (.c (.bool false))),oV 26 25,oG 26 true
 (oF 27 1 1),oG 26 true (oF 28 1 27),oG 26 true (oL 29 28),oG 26 true (oM 30 (.call 148 [(.t 29)])),oM 31 (.pick (.t 26) (.t 30) (.c (.bool false))),
 oV 32 31,oG 32 true (oF 33 3 1),oG 32 true (oL 34 33),oG 32 true (oM 35 (.call 148 [(.t 34)])),oM 36 (.pick (.t 32) (.t 35) (.c (.bool false))),oV
 37 36,oG 37 true (oF 38 4 1),oG 37 true (oL 39 38),oG 37 true (oM 40 (.call 121 [(.t 39)])),oM 41 (.pick (.t 37) (.t 40) (.c (.bool false))),oV 42
 41,oG 42 true (oF 43 5 1),oG 42 true (oL 44 43),oG 42 true (oM 45 (.call 104 [(.t 44),(oK 0),(oK 100000)])),oM 46 (.pick (.t 42) (.t 45) (.c (.bool
 false))),oV 2 46] .ret))
theorem ok118:FnOk Tryz.prog 118 47 1 c118 [.t 2]:=⟨_,_,Tryz.func118,rfl,rfl,by kernel_rfl,by kernel_rfl⟩
theorem bd118:bodied Tryz.prog 118=true:=by kernel_rfl
def c119:CI:=(oR [oM 4 (.mv (.c (.bool false)))] (.seq (oR [oV 7 0,oN 8 7,oM 9 (.mv (oK 0))] (.block 0 (.loop (oR [oM 10
 (.bin .lss (.t 9) (.t 8))] (.seq (.cond (.t 10) .skip (.exit 0)) (.seq (.block 1 (oR [oI 11 3 7 9,oW 12 3 11,oM 6 (.alloc 0 [(.int .i64 0),
 (.int .i64 0),(.int .i64 0)]),oS (.store true 3 (.t 6) (.t 12) [])] (oR [oV 13 1,oW 14 3 6,oM 15 (.callx (.t 13) [(.t 14)]),oM 16 (.un .not
 (.t 15))] (.cond (.t 16) (oR [oM 4 (.mv (.c (.bool false)))] .ret) .skip)))) (.reg [oM 17 (.bin .add (.t 9) (oK 1)),oV 9 17]))))))) (oR [oM 4 (.mv (.c (.bool true)))] .ret)))
theorem ok119:FnOk Tryz.prog 119 18 1 c119 [.t 4]:=⟨_,_,Tryz.func119,rfl,rfl,by kernel_rfl,by kernel_rfl⟩
theorem bd119:bodied Tryz.prog 119=true:=by kernel_rfl
def c120:CI:=(oR [oM 2 (.box 0 true (.t 0)),oM 3 (.mv (.c (.bool false)))] (oR [oF 4 0 2,oL 5 4,oM 6 (.call 121 [(.t 5)]),oV 7
 6,oG 7 true (oF 8 1 2),oG 7 true (oL 9 8),oG 7 true (oF 10 4 1),oG 7 true (oL 11 10),oG 7 true (oN 12 11),oG 7 true (oM 13 (.bin .sub (.t 12) (oK
 1))),oG 7 true (oM 14 (.call 104 [(.t 9),(oK 0),(.t 13)])),oM 15 (.pick (.t 7) (.t 14) (.c (.bool false))),oV 16 15,oG 16 true (oF 17 2 2),oG 16
 true (oL 18 17),oG 16 true (oM 19 (.call 104 [(.t 18),(oK 1),(oK 10)])),oM 20 (.pick (.t 16) (.t 19) (.c (.bool false))),oV 3 20] .ret))
theorem ok120:FnOk Tryz.prog 120 21 1 c120 [.t 3]:=⟨_,_,Tryz.func120,rfl,rfl,by kernel_rfl,by kernel_rfl⟩
theorem bd120:bodied Tryz.prog 120=true:=by kernel_rfl
def c121:CI:=(oR [oM 2 (.mv (.c (.bool false)))] (oR [oV 3 0,oM 4 (.call 104 [(.t 3),(oK 0),(oK 99)]),oV 2 4] .ret))
theorem ok121:FnOk Tryz.prog 121 5 0 c121 [.t 2]:=⟨_,_,Tryz.func121,rfl,rfl,by kernel_rfl,by kernel_rfl⟩
theorem bd121:bodied Tryz.prog 121=true:=by kernel_rfl
def c122:CI:=(oR [oM 1 (.box 0 true (.t 0)),oM 2 (.mv (.c (.bool false)))] (.seq (oR [oF 9 0 1,oL 10 9,oN 11 10,oM 12 (.bin .gtr
 (.t 11) (oK 10)),oV 13 12,oG 13 false (oF 14 1 1),oG 13 false (oL 15 14),oG 13 false (oN 16 15),oG 13 false (oM 17 (.bin .gtr (.t 16) (oK 6))),oM
 18 (.pick (.t 13) (.c (.bool true)) (.t 17)),oV 19 18,oG 19 false (oF 20 2 1),oG 19 false (oL 21 20),oG 19 false (oM 22 (.call 151 [(.t 21),(oK 0),
 (oK 99)])),oG 19 false (oM 23 (.un .not (.t 22))),oM 24 (.pick (.t 19) (.c (.bool true)) (.t 23)),oV 25 24,oG 25 false (oF 26 3 1),oG 25 false (oL
 27 26),oG 25 false (oN 28 27),oG 25 false (oM 29 (.bin .gtr (.t 28) (oK 30))),oM 30 (.pick (.t 25) (.c (.bool true)) (.t 29))] (.cond (.t 30) (oR [oM 2 (.mv (.c (.bool false)))] .ret) .skip)) (.seq (oR [oM 3 (.mv (oK 0))] (.block 0 (.loop (.seq (oR [oV 31 3,oF 32 0 1,oL
 33 32,oN 34 33,oM 35 (.bin .lss (.t 31) (.t 34))] (.cond (.t 35) .skip (.exit 0))) (.seq (.block 1 (oR [oF 38 0 1,oL 39 38,oV 40 3,oI 41
 4 39 40,oW 42 4 41,oM 4 (.alloc 1 [(.int .i64 0),(.int .i64 0),(.int .i64 0),(.int .i64 0)]),oS (.store true 4 (.t 4) (.t 42) [])] (oR [oF
 43 0 4,oL 44 43,oM 45 (.call 151 [(.t 44),(oK 0),(oK 9)]),oM 46 (.un .not (.t 45)),oV 47 46,oG 47 false (oF 48 1 4),oG 47 false (oL 49 48),oG
 47 false (oM 50 (.call 151 [(.t 49),(oK 0),(oK 9)])),oG 47 false (oM 51 (.un .not (.t 50))),oM 52 (.pick (.t 47) (.c (.bool true)) (.t 51)),oV 53
 52,oG 53 false (oF 54 2 4),oG 53 false (oW 55 2 54),oG 53 false (oM 56 (.call 152 [(.t 55)])),oG 53 false (oM 57 (.un .not (.t 56))),oM 58 (.pick
 (.t 53) (.c (.bool true)) (.t 57))] (.cond (.t 58) (oR [oM 2 (.mv (.c (.bool false)))] .ret) .skip)))) (.reg [oV 36 3,oM 37 (.bin .add (.t 36)
 (oK 1)),oV 3 37])))))) (.seq (oR [oM 5 (.mv (oK 0))] (.block 2 (.loop (.seq (oR [oV 59 5,oF 60 1 1,oL 61 60,oN 62 61,oM 63 (.bin
 .lss (.t 59) (.t 62))] (.cond (.t 63) .skip (.exit 2))) (.seq (.block 3 (.seq (oR [oF 66 1 1,oL 67 66,oV 68 5,oI 69 1 67 68,oF 70 0 69,oL
 71 70,oN 72 71,oM 73 (.bin .gtr (.t 72) (oK 4))] (.cond (.t 73) (oR [oM 2 (.mv (.c (.bool false)))] .ret) .skip)) (oR [oM 6 (.mv (oK
 0))] (.block 4 (.loop (.seq (oR [oV 74 6,oF 75 1 1,oL 76 75,oV 77 5,oI 78 1 76 77,oF 79 0 78,oL 80 79,oN 81 80,oM 82 (.bin .lss (.t 74)
 (.t 81))] (.cond (.t 82) .skip (.exit 4))) (.seq (.block 5 (oR [oF 85 1 1,oL 86 85,oV 87 5,oI 88 1 86 87,oF 89 0 88,oL 90 89,oV 91 6,oI
 92 4 90 91,oW 93 4 92,oM 94 (.call 153 [(.t 93)]),oM 95 (.un .not (.t 94))] (.cond (.t 95) (oR [oM 2 (.mv (.c (.bool false)))] .ret) .skip)))
 (.reg [oV 83 6,oM 84 (.bin .add (.t 83) (oK 1)),oV 6 84])))))))) (.reg [oV 64 5,oM 65 (.bin .add (.t 64) (oK 1)),oV 5 65])))))) (.seq (oR [oM
 7 (.mv (oK 0))] (.block 6 (.loop (.seq (oR [oV 96 7,oF 97 3 1,oL 98 97,oN 99 98,oM 100 (.bin .lss (.t 96) (.t 99))] (.cond (.t 100) .skip
 (.exit 6))) (.seq (.block 7 (oR [oF 103 3 1,oL 104 103,oV 105 7,oI 106 4 104 105,oW 107 4 106,oM 8 (.alloc 2 [(.int .i64 0),(.int .i64 0),
 (.int .i64 0),(.int .i64 0)]),oS (.store true 4 (.t 8) (.t 107) [])] (oR [oW 108 4 1,oF 109 0 8,oL 110 109,oM 111 (.call 154 [(.t 108),(.t
 110)]),oM 112 (.un .not (.t 111)),oV 113 112,oG 113 false (oW 114 4 1),oG 113 false (oF 115 1 8),oG 113 false (oL 116 115),oG 113 false (oF 117 2
 8),oG 113 false (oL 118 117),oG 113 false (oM 119 (.call 155 [(.t 114),(.t 116),(.t 118)])),oG 113 false (oM 120 (.un .not (.t 119))),oM 121 (.pick
 (.t 113) (.c (.bool true)) (.t 120)),oV 122 121,oG 122 false (oF 123 3 8),oG 122 false (oL 124 123),oG 122 false (oM 125 (.call 151 [(.t 124),(oK
 0),(oK 1)])),oG 122 false (oM 126 (.un .not (.t 125))),oM 127 (.pick (.t 122) (.c (.bool true)) (.t 126))] (.cond (.t 127) (oR [oM 2 (.mv (.c
 (.bool false)))] .ret) .skip)))) (.reg [oV 101 7,oM 102 (.bin .add (.t 101) (oK 1)),oV 7 102])))))) (oR [oM 2 (.mv (.c (.bool true)))] .ret))))))
theorem ok122:FnOk Tryz.prog 122 128 3 c122 [.t 2]:=⟨_,_,Tryz.func122,rfl,rfl,by kernel_rfl,by kernel_rfl⟩
theorem bd122:bodied Tryz.prog 122=true:=by kernel_rfl
def c123:CI:=(oR [oM 4 (.mv (.c (.bool false)))] (.seq (oR [oM 5 (.mv (oK 0))] (.block 0 (.loop (.seq (oR [oV 6 5,oV 7 0,
 oN 8 7,oM 9 (.bin .lss (.t 6) (.t 8))] (.cond (.t 9) .skip (.exit 0))) (.seq (.block 1 (oR [oV 12 0,oV 13 5,oI 14 1 12 13,oL 15 14,oM 16
 (.bin .lss (.t 15) (oK 0)),oV 17 16,oG 17 false (oV 18 0),oG 17 false (oV 19 5),oG 17 false (oI 20 1 18 19),oG 17 false (oL 21 20),oG 17 false (oV
 22 1),oG 17 false (oM 23 (.bin .gtr (.t 21) (.t 22))),oM 24 (.pick (.t 17) (.c (.bool true)) (.t 23)),oV 25 24,oG 25 false (oV 26 5),oG 25 false (oM
 27 (.bin .gtr (.t 26) (oK 0))),oG 25 false (oV 28 27),oG 28 true (oV 29 0),oG 28 true (oV 30 5),oG 28 true (oI 31 1 29 30),oG 28 true (oL 32 31),
 oG 28 true (oV 33 0),oG 28 true (oV 34 5),oG 28 true (oM 35 (.bin .sub (.t 34) (oK 1))),oG 28 true (oI 36 1 33 35),oG 28 true (oL 37 36),oG 28 true
 (oM 38 (.bin .leq (.t 32) (.t 37))),oG 25 false (oM 39 (.pick (.t 28) (.t 38) (.c (.bool false)))),oM 40 (.pick (.t 25) (.c (.bool true)) (.t 39))]
 (.cond (.t 40) (oR [oM 4 (.mv (.c (.bool false)))] .ret) .skip))) (.reg [oV 10 5,oM 11 (.bin .add (.t 10) (oK 1)),oV 5 11])))))) (oR [oM 4 (.mv (.c (.bool true)))] .ret)))
theorem ok123:FnOk Tryz.prog 123 41 0 c123 [.t 4]:=⟨_,_,Tryz.func123,rfl,rfl,by kernel_rfl,by kernel_rfl⟩
theorem bd123:bodied Tryz.prog 123=true:=by kernel_rfl
def c124:CI:=(oR [oM 4 (.mv (.c (.bool false)))] (oR [oV 5 0,oV 6 1,oM 7 (.call 156 [(.t 5),(.t 6)]),oM 8 (.bin .geq (.t 7) (oK
 0)),oV 4 8] .ret))
theorem ok124:FnOk Tryz.prog 124 9 0 c124 [.t 4]:=⟨_,_,Tryz.func124,rfl,rfl,by kernel_rfl,by kernel_rfl⟩
theorem bd124:bodied Tryz.prog 124=true:=by kernel_rfl
def c125:CI:=(oR [oM 1 (.box 0 true (.t 0)),oM 2 (.mv (oK 0))] (oR [oW 3 4 1,oM 4 (.call 157 [(.t 3),(.c (.bool true))]),oV 2
 4] .ret))
theorem ok125:FnOk Tryz.prog 125 5 1 c125 [.t 2]:=⟨_,_,Tryz.func125,rfl,rfl,by kernel_rfl,by kernel_rfl⟩
theorem bd125:bodied Tryz.prog 125=true:=by kernel_rfl
def c130:CI:=(oR [oM 3 (.box 0 true (.t 0)),oM 6 (.alloc 1 [.nils, .nils, .nils]),oM 7 (.mv (oK 0))] (oR [oW 11 4 3,oW 12 4 3,
 oV 13 1,oM 8 (.alloc 6 [.nils, .nils,(.int .i64 0), .nils, .nils]),oM 14 (.call 160 [(.t 12),(.t 13)]),oV 15 14,oG 15 true (oW 16 4 3),oG 15 true
 (oV 17 2),oG 15 true (oM 18 (.call 161 [(.t 16),(.t 17)])),oM 19 (.pick (.t 15) (.t 18) (.c (.bool false))),oM 20 (.callz 2 4 159 [(.t 11),(.t 19)]
 []),oV 10 20,oX 21 0 10,oX 22 1 10,oS (.stz true 5 (.t 8) (.t 21) []),oV 9 22] (.seq (oR [oV 23 9,oM 24 (.bin .neq (.t 23) (oK 0))] (.cond
 (.t 24) (oR [oM 25 (.build [.nils, .nils, .nils] []),oV 26 9,oS (.stz true 3 (.t 6) (.t 25) []),oV 7 26] .ret) .skip)) (oR [oW 27 5
 8,oV 28 1,oV 29 2,oM 30 (.callw 7 3 162 [(.t 27),(.t 28),(.t 29)]),oS (.stz true 3 (.t 6) (.t 30) []),oM 7 (.mv (oK 0))] .ret))))
theorem ok130:FnOk Tryz.prog 130 31 10 c130 [.cell 6 true 3, .t 7]:=⟨_,_,Tryz.func130,rfl,rfl,by kernel_rfl,by kernel_rfl⟩
theorem bd130:bodied Tryz.prog 130=true:=by kernel_rfl
def c131:CI:=(oR [oM 2 (.mv (oK 0))] (oR [oM 3 (.mv (oK 0))] (.seq (oR [oV 6 0,oM 7 (.nilck (.t 6)),oF 8 2 7,oL 9 8,oN
 10 9,oM 11 (.mv (oK 0))] (.block 0 (.loop (oR [oM 12 (.bin .lss (.t 11) (.t 10))] (.seq (.cond (.t 12) .skip (.exit 0)) (.seq (.block 1 (oR [oI 13 1 9 11,oL 14 13,oV 5 14] (oR [oV 15 5,oM 16 (.bin .neq (.t 15) (oK (-1)))] (.cond (.t 16) (.reg [oV 17 3,oM 18 (.bin .add (.t
 17) (oK 1)),oV 3 18]) .skip)))) (.reg [oM 19 (.bin .add (.t 11) (oK 1)),oV 11 19]))))))) (oR [oV 20 3,oV 2 20] .ret))))
theorem ok131:FnOk Tryz.prog 131 21 0 c131 [.t 2]:=⟨_,_,Tryz.func131,rfl,rfl,by kernel_rfl,by kernel_rfl⟩
theorem bd131:bodied Tryz.prog 131=true:=by kernel_rfl
def c132:CI:=(oR [oM 4 (.box 0 true (.t 0)),oM 8 (.mv (oK 0)),oM 9 (.mv (oK 0))] (oR [oW 13 4 4,oW 14 4 4,oV 15 1,oM 10 (.alloc
 5 [.nils, .nils,(.int .i64 0), .nils, .nils]),oM 16 (.call 143 [(.t 14),(.t 15)]),oV 17 16,oG 17 true (oW 18 4 4),oG 17 true (oV 19 2),oG 17 true
 (oV 20 3),oG 17 true (oM 21 (.call 144 [(.t 18),(.t 19),(.t 20)])),oM 22 (.pick (.t 17) (.t 21) (.c (.bool false))),oM 23 (.callz 1 4 159 [(.t 13),
 (.t 22)] []),oV 12 23,oX 24 0 12,oX 25 1 12,oS (.stz true 5 (.t 10) (.t 24) []),oV 11 25] (.seq (oR [oV 26 11,oM 27 (.bin .neq (.t 26) (oK
 0))] (.cond (.t 27) (oR [oV 28 11,oM 8 (.mv (oK 0)),oV 9 28] .ret) .skip)) (oR [oW 29 5 10,oV 30 1,oV 31 2,oV 32 3,oM 33 (.call
 163 [(.t 29),(.t 30),(.t 31),(.t 32)]),oV 8 33,oM 9 (.mv (oK 0))] .ret))))
theorem ok132:FnOk Tryz.prog 132 34 6 c132 [.t 8, .t 9]:=⟨_,_,Tryz.func132,rfl,rfl,by kernel_rfl,by kernel_rfl⟩
theorem bd132:bodied Tryz.prog 132=true:=by kernel_rfl
def c133:CI:=(oR [oM 6 (.mv oZ)] (oR [oM 7 (.mv oZ)] (.seq (oR [oV 10 0,oM 11 (.nilck (.t 10)),oF 12 9 11,oL 13 12,oN
 14 13,oM 15 (.mv (oK 0))] (.block 0 (.loop (oR [oM 16 (.bin .lss (.t 15) (.t 14))] (.seq (.cond (.t 16) .skip (.exit 0)) (.seq (.block 1 (oR [oV 17 15,oI 18 3 13 15,oW 19 3 18,oM 9 (.alloc 0 [(.int .i64 0),(.int .i64 0),(.int .i64 0)]),oV 8 17,oS (.store true 3 (.t 9) (.t 19) [])]
 (oR [oF 20 0 9,oL 21 20,oV 22 2,oM 23 (.bin .leq (.t 21) (.t 22)),oV 24 23,oG 24 true (oV 25 1),oG 24 true (oF 26 1 9),oG 24 true (oL 27
 26),oG 24 true (oM 28 (.call 124 [(.t 25),(.t 27)])),oM 29 (.pick (.t 24) (.t 28) (.c (.bool false)))] (.cond (.t 29) (.reg [oV 30 7,oV 31 8,oM 32
 (.bsl 1 3 1 [(.t 31)] []),oM 33 (.apd 2 3 1 8 (.t 30) (.t 32) []),oV 7 33]) .skip)))) (.reg [oM 34 (.bin .add (.t 15) (oK 1)),oV 15 34]))))))) (oR [oV 35 7,oV 6 35] .ret))))
theorem ok133:FnOk Tryz.prog 133 36 3 c133 [.t 6]:=⟨_,_,Tryz.func133,rfl,rfl,by kernel_rfl,by kernel_rfl⟩
theorem bd133:bodied Tryz.prog 133=true:=by kernel_rfl
def c134:CI:=(oR [oM 2 (.box 0 true (.t 0)),oM 4 (.mv oZ)] (oR [oM 5 (.mv oZ)] (.seq (oR [oM 6 (.mv (oK 0))] (.block 0
 (.loop (.seq (oR [oV 8 6,oV 9 1,oN 10 9,oM 11 (.bin .lss (.t 8) (.t 10))] (.cond (.t 11) .skip (.exit 0))) (.seq (.block 1 (oR [oV
 14 1,oV 15 6,oI 16 3 14 15,oF 17 2 16,oL 18 17,oM 19 (.bin .gtr (.t 18) (oK 0)),oV 20 19,oG 20 true (oV 21 1),oG 20 true (oV 22 6),oG 20 true
 (oI 23 3 21 22),oG 20 true (oF 24 0 23),oG 20 true (oL 25 24),oG 20 true (oF 26 0 2),oG 20 true (oL 27 26),oG 20 true (oM 28 (.bin .leq (.t 25) (.t
 27))),oM 29 (.pick (.t 20) (.t 28) (.c (.bool false))),oV 30 29,oG 30 true (oF 31 1 2),oG 30 true (oL 32 31),oG 30 true (oV 33 1),oG 30 true (oV
 34 6),oG 30 true (oI 35 3 33 34),oG 30 true (oF 36 1 35),oG 30 true (oL 37 36),oG 30 true (oM 38 (.call 85 [(.t 32),(.t 37)])),oM 39 (.pick (.t 30)
 (.t 38) (.c (.bool false)))] (.cond (.t 39) (oR [oM 40 (.bsl 1 45 3 [] []),oV 41 1,oM 42 (.apd 2 45 3 24 (.t 40) (.t 41) []),oV 7 42] (oR [oV 43 7,oV 44 6,oI 45 3 43 44,oF 46 2 45,oL 47 46,oM 48 (.bin .sub (.t 47) (oK 1)),oI 49 3 43 44,oF 50 2 49,oS (.store false 1 (.t 50) (.t
 48) [])] (.reg [oV 51 5,oV 52 7,oM 53 (.bsl 3 30 1 [(.t 52)] []),oM 54 (.apd 4 30 1 24 (.t 51) (.t 53) []),oV 5 54]))) .skip))) (.reg [oV 12 6,oM
 13 (.bin .add (.t 12) (oK 1)),oV 6 13])))))) (oR [oV 55 5,oV 4 55] .ret))))
theorem ok134:FnOk Tryz.prog 134 56 5 c134 [.t 4]:=⟨_,_,Tryz.func134,rfl,rfl,by kernel_rfl,by kernel_rfl⟩
theorem bd134:bodied Tryz.prog 134=true:=by kernel_rfl
def c135:CI:=(oR [oM 4 (.box 0 true (.t 0)),oM 8 (.mv (oK 0)),oM 9 (.mv (oK 0))] (.seq (oR [oW 11 4 4,oW 12 4 4,oV 13 1,oM 14
 (.call 154 [(.t 12),(.t 13)]),oV 15 14,oG 15 true (oW 16 4 4),oG 15 true (oV 17 2),oG 15 true (oV 18 3),oG 15 true (oM 19 (.call 155 [(.t 16),(.t
 17),(.t 18)])),oM 20 (.pick (.t 15) (.t 19) (.c (.bool false))),oM 21 (.call 157 [(.t 11),(.t 20)]),oV 10 21] (oR [oV 22 10,oM 23 (.bin
 .neq (.t 22) (oK 0))] (.cond (.t 23) (oR [oV 24 10,oM 8 (.mv (oK 0)),oV 9 24] .ret) .skip))) (oR [oW 25 4 4,oV 26 1,oV 27 2,oV 28
 3,oM 29 (.call 164 [(.t 25),(.t 26),(.t 27),(.t 28)]),oV 8 29,oM 9 (.mv (oK 0))] .ret)))
theorem ok135:FnOk Tryz.prog 135 30 1 c135 [.t 8, .t 9]:=⟨_,_,Tryz.func135,rfl,rfl,by kernel_rfl,by kernel_rfl⟩
theorem bd135:bodied Tryz.prog 135=true:=by kernel_rfl
def c136:CI:=(oR [oM 4 (.mv (.c (.bool false)))] (.seq (oR [oV 7 0,oN 8 7,oM 9 (.mv (oK 0))] (.block 0 (.loop (oR [oM 10
 (.bin .lss (.t 9) (.t 8))] (.seq (.cond (.t 10) .skip (.exit 0)) (.seq (.block 1 (oR [oI 11 4 7 9,oW 12 4 11,oM 6 (.alloc 0 [(.int .i64 0),
 (.int .i64 0),(.int .i64 0),(.int .i64 0)]),oS (.store true 4 (.t 6) (.t 12) [])] (oR [oV 13 1,oW 14 4 6,oM 15 (.callx (.t 13) [(.t 14)]),
 oM 16 (.un .not (.t 15))] (.cond (.t 16) (oR [oM 4 (.mv (.c (.bool false)))] .ret) .skip)))) (.reg [oM 17 (.bin .add (.t 9) (oK 1)),oV 9 17])))))))
 (oR [oM 4 (.mv (.c (.bool true)))] .ret)))
theorem ok136:FnOk Tryz.prog 136 18 1 c136 [.t 4]:=⟨_,_,Tryz.func136,rfl,rfl,by kernel_rfl,by kernel_rfl⟩
theorem bd136:bodied Tryz.prog 136=true:=by kernel_rfl
def c137:CI:=(oR [oM 1 (.box 0 true (.t 0)),oM 2 (.mv (.c (.bool false)))] (oR [oF 3 0 1,oL 4 3,oM 5 (.call 165 [(.t 4)]),oV 6
 5,oG 6 true (oF 7 1 1),oG 6 true (oL 8 7),oG 6 true (oM 9 (.call 165 [(.t 8)])),oM 10 (.pick (.t 6) (.t 9) (.c (.bool false))),oV 11 10,oG 11 true
 (oF 12 2 1),oG 11 true (oW 13 2 12),oG 11 true (oM 14 (.call 166 [(.t 13)])),oM 15 (.pick (.t 11) (.t 14) (.c (.bool false))),oV 2 15] .ret))
theorem ok137:FnOk Tryz.prog 137 16 1 c137 [.t 2]:=⟨_,_,Tryz.func137,rfl,rfl,by kernel_rfl,by kernel_rfl⟩
theorem bd137:bodied Tryz.prog 137=true:=by kernel_rfl
def c138:CI:=(oR [oM 4 (.mv (.c (.bool false)))] (.seq (oR [oV 7 0,oN 8 7,oM 9 (.mv (oK 0))] (.block 0 (.loop (oR [oM 10
 (.bin .lss (.t 9) (.t 8))] (.seq (.cond (.t 10) .skip (.exit 0)) (.seq (.block 1 (oR [oI 11 1 7 9,oW 12 1 11,oM 6 (.alloc 0 [.nils]),oS (.stz
 true 1 (.t 6) (.t 12) [])] (oR [oV 13 1,oW 14 1 6,oM 15 (.callx (.t 13) [(.t 14)]),oM 16 (.un .not (.t 15))] (.cond (.t 16) (oR [oM
 4 (.mv (.c (.bool false)))] .ret) .skip)))) (.reg [oM 17 (.bin .add (.t 9) (oK 1)),oV 9 17]))))))) (oR [oM 4 (.mv (.c (.bool true)))] .ret)))
theorem ok138:FnOk Tryz.prog 138 18 1 c138 [.t 4]:=⟨_,_,Tryz.func138,rfl,rfl,by kernel_rfl,by kernel_rfl⟩
theorem bd138:bodied Tryz.prog 138=true:=by kernel_rfl
def c139:CI:=(oR [oM 1 (.box 0 true (.t 0)),oM 2 (.mv (.c (.bool false)))] (oR [oF 3 0 1,oL 4 3,oN 5 4,oM 6 (.bin .leq (.t 5)
 (oK 4)),oV 7 6,oG 7 true (oF 8 0 1),oG 7 true (oL 9 8),oG 7 true (oM 10 (.call 167 [(.t 9),(.c (.fn 168 []))])),oM 11 (.pick (.t 7) (.t 10) (.c (.bool
 false))),oV 2 11] .ret))
theorem ok139:FnOk Tryz.prog 139 12 1 c139 [.t 2]:=⟨_,_,Tryz.func139,rfl,rfl,by kernel_rfl,by kernel_rfl⟩
theorem bd139:bodied Tryz.prog 139=true:=by kernel_rfl
def c140:CI:=(oR [oM 6 (.mv (.c (.bool false)))] (oR [oV 7 1,oV 8 0,oM 9 (.bin .leq (.t 7) (.t 8)),oV 10 9,oG 10 true (oV 11 0),
 oG 10 true (oV 12 2),oG 10 true (oM 13 (.bin .leq (.t 11) (.t 12))),oM 14 (.pick (.t 10) (.t 13) (.c (.bool false))),oV 6 14] .ret))
theorem ok140:FnOk Tryz.prog 140 15 0 c140 [.t 6]:=⟨_,_,Tryz.func140,rfl,rfl,by kernel_rfl,by kernel_rfl⟩
theorem bd140:bodied Tryz.prog 140=true:=by kernel_rfl
def c141:CI:=(oR [oM 4 (.mv (.c (.bool false)))] (.seq (oR [oV 7 0,oN 8 7,oM 9 (.mv (oK 0))] (.block 0 (.loop (oR [oM 10
 (.bin .lss (.t 9) (.t 8))] (.seq (.cond (.t 10) .skip (.exit 0)) (.seq (.block 1 (oR [oI 11 4 7 9,oW 12 4 11,oM 6 (.alloc 0 [(.int .i64 0),
 (.int .i64 0),(.int .i64 0),(.int .i64 0)]),oS (.store true 4 (.t 6) (.t 12) [])] (oR [oV 13 1,oW 14 4 6,oM 15 (.callx (.t 13) [(.t 14)]),
 oM 16 (.un .not (.t 15))] (.cond (.t 16) (oR [oM 4 (.mv (.c (.bool false)))] .ret) .skip)))) (.reg [oM 17 (.bin .add (.t 9) (oK 1)),oV 9 17])))))))
 (oR [oM 4 (.mv (.c (.bool true)))] .ret)))
theorem ok141:FnOk Tryz.prog 141 18 1 c141 [.t 4]:=⟨_,_,Tryz.func141,rfl,rfl,by kernel_rfl,by kernel_rfl⟩
theorem bd141:bodied Tryz.prog 141=true:=by kernel_rfl
def c142:CI:=(oR [oM 2 (.box 0 true (.t 0)),oM 3 (.mv (.c (.bool false)))] (oR [oW 4 4 1,oF 5 0 2,oL 6 5,oM 7 (.call 143 [(.t
 4),(.t 6)]),oV 8 7,oG 8 true (oW 9 4 1),oG 8 true (oF 10 1 2),oG 8 true (oL 11 10),oG 8 true (oF 12 2 2),oG 8 true (oL 13 12),oG 8 true (oM 14
 (.call 144 [(.t 9),(.t 11),(.t 13)])),oM 15 (.pick (.t 8) (.t 14) (.c (.bool false))),oV 16 15,oG 16 true (oF 17 3 2),oG 16 true (oL 18 17),oG 16
 true (oM 19 (.call 140 [(.t 18),(oK 0),(oK 1)])),oM 20 (.pick (.t 16) (.t 19) (.c (.bool false))),oV 3 20] .ret))
theorem ok142:FnOk Tryz.prog 142 21 1 c142 [.t 3]:=⟨_,_,Tryz.func142,rfl,rfl,by kernel_rfl,by kernel_rfl⟩
theorem bd142:bodied Tryz.prog 142=true:=by kernel_rfl
def c143:CI:=(oR [oM 2 (.box 0 true (.t 0)),oM 4 (.mv (.c (.bool false)))] (oR [oV 5 1,oF 6 0 2,oL 7 6,oN 8 7,oM 9 (.bin .sub
 (.t 8) (oK 1)),oM 10 (.call 140 [(.t 5),(oK 0),(.t 9)]),oV 4 10] .ret))
theorem ok143:FnOk Tryz.prog 143 11 1 c143 [.t 4]:=⟨_,_,Tryz.func143,rfl,rfl,by kernel_rfl,by kernel_rfl⟩
theorem bd143:bodied Tryz.prog 143=true:=by kernel_rfl
def c144:CI:=(oR [oM 3 (.box 0 true (.t 0)),oM 6 (.mv (.c (.bool false)))] (oR [oW 7 4 3,oV 8 1,oM 9 (.call 169 [(.t 7),(.t 8)]),
 oV 10 9,oG 10 true (oV 11 2),oG 10 true (oF 12 1 3),oG 10 true (oL 13 12),oG 10 true (oV 14 1),oG 10 true (oI 15 1 13 14),oG 10 true (oF 16 0 15),
 oG 10 true (oL 17 16),oG 10 true (oN 18 17),oG 10 true (oM 19 (.bin .sub (.t 18) (oK 1))),oG 10 true (oM 20 (.call 140 [(.t 11),(oK 0),(.t 19)])),
 oM 21 (.pick (.t 10) (.t 20) (.c (.bool false))),oV 6 21] .ret))
theorem ok144:FnOk Tryz.prog 144 22 1 c144 [.t 6]:=⟨_,_,Tryz.func144,rfl,rfl,by kernel_rfl,by kernel_rfl⟩
theorem bd144:bodied Tryz.prog 144=true:=by kernel_rfl
def c145:CI:=(oR [oM 4 (.mv (.c (.bool false)))] (oR [oV 5 0,oV 6 1,oM 7 (.call 170 [(.t 5),(.t 6)]),oM 8 (.bin .geq (.t 7) (oK
 0)),oV 4 8] .ret))
theorem ok145:FnOk Tryz.prog 145 9 0 c145 [.t 4]:=⟨_,_,Tryz.func145,rfl,rfl,by kernel_rfl,by kernel_rfl⟩
theorem bd145:bodied Tryz.prog 145=true:=by kernel_rfl
def c146:CI:=(oR [oM 2 (.box 0 true (.t 0)),oM 3 (.mv (.c (.bool false)))] (oR [oF 4 3 2,oL 5 4,oM 6 (.bin .sub (oK 1) (.t 5)),
 oF 7 3 2,oS (.store false 1 (.t 7) (.t 6) [])] (oR [oL 8 1,oW 9 4 2,oM 10 (.call 147 [(.t 8),(.t 9)]),oV 3 10] .ret)))
theorem ok146:FnOk Tryz.prog 146 11 1 c146 [.t 3]:=⟨_,_,Tryz.func146,rfl,rfl,by kernel_rfl,by kernel_rfl⟩
theorem bd146:bodied Tryz.prog 146=true:=by kernel_rfl
def c147:CI:=(oR [oM 3 (.box 0 true (.t 1)),oM 4 (.mv (.c (.bool false)))] (oR [oV 5 0,oW 6 4 3,oM 7 (.call 171 [(.t 5),(.t 6)]),
 oM 8 (.bin .geq (.t 7) (oK 0)),oV 4 8] .ret))
theorem ok147:FnOk Tryz.prog 147 9 1 c147 [.t 4]:=⟨_,_,Tryz.func147,rfl,rfl,by kernel_rfl,by kernel_rfl⟩
theorem bd147:bodied Tryz.prog 147=true:=by kernel_rfl
def c148:CI:=(oR [oM 2 (.mv (.c (.bool false)))] (oR [oV 3 0,oM 4 (.call 104 [(.t 3),(oK 0),(oK 99)]),oV 2 4] .ret))
theorem ok148:FnOk Tryz.prog 148 5 0 c148 [.t 2]:=⟨_,_,Tryz.func148,rfl,rfl,by kernel_rfl,by kernel_rfl⟩
theorem bd148:bodied Tryz.prog 148=true:=by kernel_rfl
def c149:CI:=(oR [oM 2 (.mv (.c (.bool false)))] (.seq (oR [oV 4 0,oN 5 4,oM 6 (.bin .sub (.t 5) (oK 1)),oM 7 (.mv (oK 0))] (.block
 0 (.loop (oR [oM 8 (.bin .lss (.t 7) (.t 6))] (.seq (.cond (.t 8) .skip (.exit 0)) (.seq (.block 1 (oR [oV 9 7,oV 3 9] (oR [oV
 10 0,oV 11 3,oI 12 1 10 11,oL 13 12,oV 14 0,oV 15 3,oM 16 (.bin .add (.t 15) (oK 1)),oI 17 1 14 16,oL 18 17,oM 19 (.bin .geq (.t 13) (.t 18))]
 (.cond (.t 19) (oR [oM 2 (.mv (.c (.bool false)))] .ret) .skip)))) (.reg [oM 20 (.bin .add (.t 7) (oK 1)),oV 7 20]))))))) (oR [oM 2 (.mv
 (.c (.bool true)))] .ret)))
theorem ok149:FnOk Tryz.prog 149 21 0 c149 [.t 2]:=⟨_,_,Tryz.func149,rfl,rfl,by kernel_rfl,by kernel_rfl⟩
theorem bd149:bodied Tryz.prog 149=true:=by kernel_rfl
def c150:CI:=(oR [oM 3 (.mv (.c (.bool false)))] (oR [oV 4 0,oL 5 1,oM 6 (.bin .sub (.t 5) (oK 1)),oM 7 (.call 104 [(.t 4),(oK
 0),(.t 6)]),oV 3 7] .ret))
theorem ok150:FnOk Tryz.prog 150 8 0 c150 [.t 3]:=⟨_,_,Tryz.func150,rfl,rfl,by kernel_rfl,by kernel_rfl⟩
theorem bd150:bodied Tryz.prog 150=true:=by kernel_rfl
def c151:CI:=(oR [oM 6 (.mv (.c (.bool false)))] (oR [oV 7 0,oV 8 1,oM 9 (.bin .geq (.t 7) (.t 8)),oV 10 9,oG 10 true (oV 11 0),
 oG 10 true (oV 12 2),oG 10 true (oM 13 (.bin .leq (.t 11) (.t 12))),oM 14 (.pick (.t 10) (.t 13) (.c (.bool false))),oV 6 14] .ret))
theorem ok151:FnOk Tryz.prog 151 15 0 c151 [.t 6]:=⟨_,_,Tryz.func151,rfl,rfl,by kernel_rfl,by kernel_rfl⟩
theorem bd151:bodied Tryz.prog 151=true:=by kernel_rfl
def c152:CI:=(oR [oM 1 (.box 0 true (.t 0)),oM 2 (.mv (.c (.bool false)))] (oR [oF 3 0 1,oL 4 3,oF 5 1 1,oL 6 5,oM 7 (.call 151
 [(.t 4),(oK 0),(.t 6)]),oV 8 7,oG 8 true (oF 9 1 1),oG 8 true (oL 10 9),oG 8 true (oM 11 (.bin .leq (.t 10) (oK 999))),oM 12 (.pick (.t 8) (.t 11)
 (.c (.bool false))),oV 2 12] .ret))
theorem ok152:FnOk Tryz.prog 152 13 1 c152 [.t 2]:=⟨_,_,Tryz.func152,rfl,rfl,by kernel_rfl,by kernel_rfl⟩
theorem bd152:bodied Tryz.prog 152=true:=by kernel_rfl
def c153:CI:=(oR [oM 1 (.box 0 true (.t 0)),oM 2 (.mv (.c (.bool false)))] (.seq (oR [oM 3 (.mv (oK 0))] (.block 0 (.loop (.seq
 (oR [oV 4 3,oF 5 1 1,oL 6 5,oN 7 6,oM 8 (.bin .lss (.t 4) (.t 7))] (.cond (.t 8) .skip (.exit 0))) (.seq (.block 1 (oR [oF 11 1 1,
 oL 12 11,oV 13 3,oI 14 1 12 13,oL 15 14,oM 16 (.call 151 [(.t 15),(oK 0),(oK 9)]),oM 17 (.un .not (.t 16))] (.cond (.t 17) (oR [oM 2 (.mv
 (.c (.bool false)))] .ret) .skip))) (.reg [oV 9 3,oM 10 (.bin .add (.t 9) (oK 1)),oV 3 10])))))) (oR [oF 18 0 1,oL 19 18,oM 20 (.call 151
 [(.t 19),(oK 0),(oK 9)]),oV 21 20,oG 21 true (oF 22 1 1),oG 21 true (oL 23 22),oG 21 true (oN 24 23),oG 21 true (oM 25 (.bin .leq (.t 24) (oK 4))),
 oM 26 (.pick (.t 21) (.t 25) (.c (.bool false))),oV 27 26,oG 27 true (oF 28 1 1),oG 27 true (oL 29 28),oG 27 true (oM 30 (.call 172 [(.t 29)])),oM
 31 (.pick (.t 27) (.t 30) (.c (.bool false))),oV 32 31,oG 32 true (oF 33 2 1),oG 32 true (oW 34 2 33),oG 32 true (oM 35 (.call 152 [(.t 34)])),oM
 36 (.pick (.t 32) (.t 35) (.c (.bool false))),oV 2 36] .ret)))
theorem ok153:FnOk Tryz.prog 153 37 1 c153 [.t 2]:=⟨_,_,Tryz.func153,rfl,rfl,by kernel_rfl,by kernel_rfl⟩
theorem bd153:bodied Tryz.prog 153=true:=by kernel_rfl
def c154:CI:=(oR [oM 2 (.box 0 true (.t 0)),oM 4 (.mv (.c (.bool false)))] (oR [oV 5 1,oF 6 0 2,oL 7 6,oN 8 7,oM 9 (.bin .sub
 (.t 8) (oK 1)),oM 10 (.call 151 [(.t 5),(oK 0),(.t 9)]),oV 4 10] .ret))
theorem ok154:FnOk Tryz.prog 154 11 1 c154 [.t 4]:=⟨_,_,Tryz.func154,rfl,rfl,by kernel_rfl,by kernel_rfl⟩
theorem bd154:bodied Tryz.prog 154=true:=by kernel_rfl
def c155:CI:=(oR [oM 3 (.box 0 true (.t 0)),oM 6 (.mv (.c (.bool false)))] (oR [oW 7 4 3,oV 8 1,oM 9 (.call 173 [(.t 7),(.t 8)]),
 oV 10 9,oG 10 true (oV 11 2),oG 10 true (oF 12 1 3),oG 10 true (oL 13 12),oG 10 true (oV 14 1),oG 10 true (oI 15 1 13 14),oG 10 true (oF 16 0 15),
 oG 10 true (oL 17 16),oG 10 true (oN 18 17),oG 10 true (oM 19 (.bin .sub (.t 18) (oK 1))),oG 10 true (oM 20 (.call 151 [(.t 11),(oK 0),(.t 19)])),
 oM 21 (.pick (.t 10) (.t 20) (.c (.bool false))),oV 6 21] .ret))
theorem ok155:FnOk Tryz.prog 155 22 1 c155 [.t 6]:=⟨_,_,Tryz.func155,rfl,rfl,by kernel_rfl,by kernel_rfl⟩
theorem bd155:bodied Tryz.prog 155=true:=by kernel_rfl
def c156:CI:=(oR [oM 4 (.mv (oK 0))] (.seq (oR [oV 6 0,oN 7 6,oM 8 (.mv (oK 0))] (.block 0 (.loop (oR [oM 9 (.bin .lss
 (.t 8) (.t 7))] (.seq (.cond (.t 9) .skip (.exit 0)) (.seq (.block 1 (oR [oV 10 8,oV 5 10] (oR [oV 11 1,oV 12 0,oV 13 5,oI 14 1 12
 13,oL 15 14,oM 16 (.bin .eql (.t 11) (.t 15))] (.cond (.t 16) (oR [oV 17 5,oV 4 17] .ret) .skip)))) (.reg [oM 18 (.bin .add (.t 8) (oK 1)),
 oV 8 18]))))))) (oR [oM 4 (.mv (oK (-1)))] .ret)))
theorem ok156:FnOk Tryz.prog 156 19 0 c156 [.t 4]:=⟨_,_,Tryz.func156,rfl,rfl,by kernel_rfl,by kernel_rfl⟩
theorem bd156:bodied Tryz.prog 156=true:=by kernel_rfl
def c157:CI:=(oR [oM 2 (.box 0 true (.t 0)),oM 4 (.mv (oK 0))] (.seq (oR [oW 7 4 2,oM 8 (.call 73 [(.t 7)]),oV 5 8] (oR [oV 9 5,oM 10 (.bin .neq (.t 9) (oK 0))] (.cond (.t 10) (oR [oV 11 5,oV 4 11] .ret) .skip))) (.seq (oR [oV 12 1,oM 13 (.un .not (.t
 12))] (.cond (.t 13) (oR [oM 4 (.mv (oK 1))] .ret) .skip)) (.seq (oR [oM 6 (.mv (oK 0))] (.block 0 (.loop (.seq (oR [oV 14 6,
 oF 15 0 2,oL 16 15,oN 17 16,oM 18 (.bin .lss (.t 14) (.t 17))] (.cond (.t 18) .skip (.exit 0))) (.seq (.block 1 (oR [oW 21 4 2,oV 22 6,oM
 23 (.callw 1 1 174 [(.t 21),(.t 22)]),oN 24 23,oM 25 (.bin .eql (.t 24) (oK 0))] (.cond (.t 25) (oR [oM 4 (.mv (oK 3))] .ret) .skip))) (.reg
 [oV 19 6,oM 20 (.bin .add (.t 19) (oK 1)),oV 6 20])))))) (oR [oM 4 (.mv (oK 0))] .ret)))))
theorem ok157:FnOk Tryz.prog 157 26 2 c157 [.t 4]:=⟨_,_,Tryz.func157,rfl,rfl,by kernel_rfl,by kernel_rfl⟩
theorem bd157:bodied Tryz.prog 157=true:=by kernel_rfl
def c159:CI:=(oR [oM 2 (.box 0 true (.t 0)),oM 4 (.alloc 1 [.nils, .nils,(.int .i64 0), .nils, .nils]),oM 5 (.mv (oK 0))] (.seq (oR [oW 10 4 2,oM 11 (.call 71 [(.t 10)]),oV 6 11] (oR [oV 12 6,oM 13 (.bin .neq (.t 12) (oK 0))] (.cond (.t 13) (oR [oM 14 (.build [.nils,
 .nils,(.int .i64 0), .nils, .nils] []),oV 15 6,oS (.stz true 5 (.t 4) (.t 14) []),oV 5 15] .ret) .skip))) (.seq (oR [oV 16 1,oM 17 (.un .not
 (.t 16))] (.cond (.t 17) (oR [oM 18 (.build [.nils, .nils,(.int .i64 0), .nils, .nils] []),oS (.stz true 5 (.t 4) (.t 18) []),oM 5 (.mv (oK
 1))] .ret) .skip)) (oR [oW 19 4 2,oM 20 (.build [.nils, .nils,(.int .i64 0), .nils, .nils] [(0,4,(.t 19))]),oM 7 (.alloc 2 [.nils, .nils,
 (.int .i64 0), .nils, .nils]),oS (.stz true 5 (.t 7) (.t 20) [])] (.seq (oR [oF 21 0 2,oL 22 21,oN 23 22,oM 24 (.mv (oK 0))] (.block 0 (.loop
 (oR [oM 25 (.bin .lss (.t 24) (.t 23))] (.seq (.cond (.t 25) .skip (.exit 0)) (.seq (.block 1 (oR [oV 26 24,oV 8 26] (oR [oW
 27 5 7,oV 28 8,oM 29 (.callw 3 1 177 [(.t 27),(.t 28)]),oV 9 29] (.seq (oR [oV 30 9,oN 31 30,oM 32 (.bin .eql (.t 31) (oK 0))] (.cond (.t
 32) (oR [oM 33 (.build [.nils, .nils,(.int .i64 0), .nils, .nils] []),oS (.stz true 5 (.t 4) (.t 33) []),oM 5 (.mv (oK 3))] .ret) .skip)) (.reg
 [oF 34 4 7,oL 35 34,oV 36 9,oM 37 (.bsl 4 210 1 [(.t 36)] []),oM 38 (.apd 5 210 1 24 (.t 35) (.t 37) []),oF 39 4 7,oS (.stz false 1 (.t 39) (.t 38)
 [])]))))) (.reg [oM 40 (.bin .add (.t 24) (oK 1)),oV 24 40]))))))) (oR [oW 41 5 7,oS (.stz true 5 (.t 4) (.t 41) []),oM 5 (.mv (oK 0))] .ret))))))
theorem ok159:FnOk Tryz.prog 159 42 6 c159 [.cell 4 true 5, .t 5]:=⟨_,_,Tryz.func159,rfl,rfl,by kernel_rfl,by kernel_rfl⟩
theorem bd159:bodied Tryz.prog 159=true:=by kernel_rfl
def c160:CI:=(oR [oM 2 (.box 0 true (.t 0)),oM 4 (.mv (.c (.bool false)))] (oR [oV 5 1,oN 6 5,oF 7 0 2,oL 8 7,oN 9 8,oM 10 (.bin
 .eql (.t 6) (.t 9)),oV 11 10,oG 11 true (oV 12 1),oG 11 true (oM 13 (.call 178 [(.t 12),(.c (.fn 179 []))])),oM 14 (.pick (.t 11) (.t 13) (.c (.bool
 false))),oV 4 14] .ret))
theorem ok160:FnOk Tryz.prog 160 15 1 c160 [.t 4]:=⟨_,_,Tryz.func160,rfl,rfl,by kernel_rfl,by kernel_rfl⟩
theorem bd160:bodied Tryz.prog 160=true:=by kernel_rfl
def c161:CI:=(oR [oM 2 (.box 0 true (.t 0)),oM 4 (.mv (.c (.bool false)))] (oR [oV 5 1,oN 6 5,oM 7 (.bin .leq (.t 6) (oK 10)),
 oV 8 7,oG 8 true (oV 9 1),oG 8 true (oM 10 (.mkfn 181 [(.t 2)])),oG 8 true (oM 11 (.call 180 [(.t 9),(.t 10)])),oM 12 (.pick (.t 8) (.t 11) (.c (.bool
 false))),oV 4 12] .ret))
theorem ok161:FnOk Tryz.prog 161 13 1 c161 [.t 4]:=⟨_,_,Tryz.func161,rfl,rfl,by kernel_rfl,by kernel_rfl⟩
theorem bd161:bodied Tryz.prog 161=true:=by kernel_rfl
def c162:CI:=(oR [oM 3 (.box 0 true (.t 0)),oM 6 (.alloc 1 [.nils, .nils, .nils])] (oR [oV 11 1,oM 12 (.callw 2 1 105 [(.t 11)]),
 oM 13 (.build [.nils, .nils, .nils] [(1,1,(.t 12))]),oM 7 (.alloc 3 [.nils, .nils, .nils]),oS (.stz true 3 (.t 7) (.t 13) [])] (.seq (oR [oV
 14 2,oN 15 14,oM 16 (.mv (oK 0))] (.block 0 (.loop (oR [oM 17 (.bin .lss (.t 16) (.t 15))] (.seq (.cond (.t 17) .skip (.exit 0)) (.seq (.block
 1 (oR [oI 18 2 14 16,oW 19 2 18,oM 9 (.alloc 4 [(.int .i64 0),(.int .i64 0)]),oS (.store true 2 (.t 9) (.t 19) [])] (oR [oF 20 0 7,
 oL 21 20,oW 22 5 3,oF 23 0 9,oL 24 23,oF 25 1 9,oL 26 25,oM 27 (.callz 5 1 182 [(.t 22),(.t 24),(.t 26)] []),oM 28 (.bsl 6 27 1 [(.t 27)] []),
 oM 29 (.apd 7 27 1 24 (.t 21) (.t 28) []),oF 30 0 7,oS (.stz false 1 (.t 30) (.t 29) [])] (.reg [oF 31 2 7,oL 32 31,oM 33 (.bsl 8 3 1 [(oK (-1))]
 []),oM 34 (.apd 9 3 1 8 (.t 32) (.t 33) []),oF 35 2 7,oS (.stz false 1 (.t 35) (.t 34) [])])))) (.reg [oM 36 (.bin .add (.t 16) (oK 1)),oV 16 36])))))))
 (.seq (oR [oV 37 2,oN 38 37,oM 39 (.mv (oK 0))] (.block 2 (.loop (oR [oM 40 (.bin .lss (.t 39) (.t 38))] (.seq (.cond (.t 40) .skip
 (.exit 2)) (.seq (.block 3 (oR [oV 41 39,oV 10 41] (.reg [oV 42 10,oV 43 1,oN 44 43,oM 45 (.mks 10 4 1 1 [(.bool false)] (.t 44) (.t 44)),
 oM 46 (.callw 11 0 183 [(.t 7),(.t 42),(.t 45)])]))) (.reg [oM 47 (.bin .add (.t 39) (oK 1)),oV 39 47]))))))) (oR [oW 48 3 7,oS (.stz true
 3 (.t 6) (.t 48) [])] .ret)))))
theorem ok162:FnOk Tryz.prog 162 49 11 c162 [.cell 6 true 3]:=⟨_,_,Tryz.func162,rfl,rfl,by kernel_rfl,by kernel_rfl⟩
theorem bd162:bodied Tryz.prog 162=true:=by kernel_rfl
def c163:CI:=(oR [oM 4 (.box 0 true (.t 0)),oM 8 (.mv (oK 0))] (oR [oF 12 4 4,oL 13 12,oV 14 1,oI 15 1 13 14,oL 16 15,oW 17
 5 4,oV 18 1,oV 19 2,oV 20 3,oM 21 (.call 185 [(.t 17),(.t 18),(.t 19),(.t 20)]),oM 22 (.callz 1 2 184 [(.t 16),(.t 21)] []),oV 11 22,oX 23 0
 11,oX 24 1 11,oV 9 23,oV 10 24] (.seq (.block 0 (oR [oV 26 9,oN 27 26,oM 28 (.bin .eql (.t 27) (oK 0)),oV 25 28] (.cond (.t 25) (oR [oM 8 (.mv (oK 2))] .ret) (oR [oV 30 10,oN 31 30,oM 32 (.bin .eql (.t 31) (oK 0)),oV 29 32] (.cond (.t 29) (oR [oM 8 (.mv (oK 1))]
 .ret) .skip))))) (oR [oM 8 (.mv (oK 3))] .ret))))
theorem ok163:FnOk Tryz.prog 163 33 3 c163 [.t 8]:=⟨_,_,Tryz.func163,rfl,rfl,by kernel_rfl,by kernel_rfl⟩
theorem bd163:bodied Tryz.prog 163=true:=by kernel_rfl
def c164:CI:=(oR [oM 4 (.box 0 true (.t 0)),oM 8 (.mv (oK 0))] (oR [oW 12 4 4,oV 13 1,oM 14 (.callw 1 1 174 [(.t 12),(.t 13)]),
 oV 9 14] (oR [oM 10 (.mv (oK 0))] (.seq (oR [oM 11 (.mv (oK 0))] (.block 0 (.loop (.seq (oR [oV 15 11,oV 16 9,oN 17 16,oM
 18 (.bin .lss (.t 15) (.t 17))] (.cond (.t 18) .skip (.exit 0))) (.seq (.block 1 (oR [oW 21 4 4,oV 22 1,oV 23 9,oV 24 11,oI 25 1 23 24,oL
 26 25,oV 27 2,oV 28 3,oM 29 (.call 186 [(.t 21),(.t 22),(.t 26),(.t 27),(.t 28)])] (.cond (.t 29) (.reg [oV 30 10,oM 31 (.bin .add (.t 30) (oK
 1)),oV 10 31]) .skip))) (.reg [oV 19 11,oM 20 (.bin .add (.t 19) (oK 1)),oV 11 20])))))) (oR [oV 32 10,oV 33 9,oN 34 33,oM 35 (.call 187
 [(.t 32),(.t 34)]),oV 8 35] .ret)))))
theorem ok164:FnOk Tryz.prog 164 36 2 c164 [.t 8]:=⟨_,_,Tryz.func164,rfl,rfl,by kernel_rfl,by kernel_rfl⟩
theorem bd164:bodied Tryz.prog 164=true:=by kernel_rfl
def c165:CI:=(oR [oM 2 (.mv (.c (.bool false)))] (oR [oV 3 0,oM 4 (.call 140 [(.t 3),(oK 0),(oK 9)]),oV 2 4] .ret))
theorem ok165:FnOk Tryz.prog 165 5 0 c165 [.t 2]:=⟨_,_,Tryz.func165,rfl,rfl,by kernel_rfl,by kernel_rfl⟩
theorem bd165:bodied Tryz.prog 165=true:=by kernel_rfl
def c166:CI:=(oR [oM 1 (.box 0 true (.t 0)),oM 2 (.mv (.c (.bool false)))] (oR [oF 3 0 1,oL 4 3,oF 5 1 1,oL 6 5,oM 7 (.call 140
 [(.t 4),(oK 0),(.t 6)]),oV 8 7,oG 8 true (oF 9 1 1),oG 8 true (oL 10 9),oG 8 true (oM 11 (.bin .leq (.t 10) (oK 999))),oM 12 (.pick (.t 8) (.t 11)
 (.c (.bool false))),oV 2 12] .ret))
theorem ok166:FnOk Tryz.prog 166 13 1 c166 [.t 2]:=⟨_,_,Tryz.func166,rfl,rfl,by kernel_rfl,by kernel_rfl⟩
theorem bd166:bodied Tryz.prog 166=true:=by kernel_rfl
def c167:CI:=(oR [oM 4 (.mv (.c (.bool false)))] (.seq (oR [oV 7 0,oN 8 7,oM 9 (.mv (oK 0))] (.block 0 (.loop (oR [oM 10
 (.bin .lss (.t 9) (.t 8))] (.seq (.cond (.t 10) .skip (.exit 0)) (.seq (.block 1 (oR [oI 11 4 7 9,oW 12 4 11,oM 6 (.alloc 0 [(.int .i64 0),
 .nils,(.int .i64 0),(.int .i64 0)]),oS (.stz true 4 (.t 6) (.t 12) [])] (oR [oV 13 1,oW 14 4 6,oM 15 (.callx (.t 13) [(.t 14)]),oM 16 (.un
 .not (.t 15))] (.cond (.t 16) (oR [oM 4 (.mv (.c (.bool false)))] .ret) .skip)))) (.reg [oM 17 (.bin .add (.t 9) (oK 1)),oV 9 17]))))))) (oR [oM 4 (.mv (.c (.bool true)))] .ret)))
theorem ok167:FnOk Tryz.prog 167 18 1 c167 [.t 4]:=⟨_,_,Tryz.func167,rfl,rfl,by kernel_rfl,by kernel_rfl⟩
theorem bd167:bodied Tryz.prog 167=true:=by kernel_rfl
def c168:CI:=(oR [oM 1 (.box 0 true (.t 0)),oM 2 (.mv (.c (.bool false)))] (oR [oF 3 0 1,oL 4 3,oM 5 (.call 165 [(.t 4)]),oV 6
 5,oG 6 true (oF 7 1 1),oG 6 true (oL 8 7),oG 6 true (oN 9 8),oG 6 true (oM 10 (.bin .leq (.t 9) (oK 4))),oM 11 (.pick (.t 6) (.t 10) (.c (.bool false))),
 oV 12 11,oG 12 true (oF 13 1 1),oG 12 true (oL 14 13),oG 12 true (oM 15 (.call 178 [(.t 14),(.c (.fn 165 []))])),oM 16 (.pick (.t 12) (.t 15) (.c
 (.bool false))),oV 17 16,oG 17 true (oF 18 1 1),oG 17 true (oL 19 18),oG 17 true (oM 20 (.call 188 [(.t 19)])),oM 21 (.pick (.t 17) (.t 20) (.c (.bool
 false))),oV 22 21,oG 22 true (oF 23 2 1),oG 22 true (oW 24 2 23),oG 22 true (oM 25 (.call 166 [(.t 24)])),oM 26 (.pick (.t 22) (.t 25) (.c (.bool
 false))),oV 2 26] .ret))
theorem ok168:FnOk Tryz.prog 168 27 1 c168 [.t 2]:=⟨_,_,Tryz.func168,rfl,rfl,by kernel_rfl,by kernel_rfl⟩
theorem bd168:bodied Tryz.prog 168=true:=by kernel_rfl
def c169:CI:=(oR [oM 2 (.box 0 true (.t 0)),oM 4 (.mv (.c (.bool false)))] (oR [oV 5 1,oF 6 1 2,oL 7 6,oN 8 7,oM 9 (.bin .sub
 (.t 8) (oK 1)),oM 10 (.call 140 [(.t 5),(oK 0),(.t 9)]),oV 4 10] .ret))
theorem ok169:FnOk Tryz.prog 169 11 1 c169 [.t 4]:=⟨_,_,Tryz.func169,rfl,rfl,by kernel_rfl,by kernel_rfl⟩
theorem bd169:bodied Tryz.prog 169=true:=by kernel_rfl
def c170:CI:=(oR [oM 4 (.mv (oK 0))] (.seq (oR [oV 6 0,oN 7 6,oM 8 (.mv (oK 0))] (.block 0 (.loop (oR [oM 9 (.bin .lss
 (.t 8) (.t 7))] (.seq (.cond (.t 9) .skip (.exit 0)) (.seq (.block 1 (oR [oV 10 8,oV 5 10] (oR [oV 11 1,oV 12 0,oV 13 5,oI 14 4 12
 13,oW 15 4 14,oM 16 (.callx (.t 11) [(.t 15)])] (.cond (.t 16) (oR [oV 17 5,oV 4 17] .ret) .skip)))) (.reg [oM 18 (.bin .add (.t 8) (oK 1)),
 oV 8 18]))))))) (oR [oM 4 (.mv (oK (-1)))] .ret)))
theorem ok170:FnOk Tryz.prog 170 19 0 c170 [.t 4]:=⟨_,_,Tryz.func170,rfl,rfl,by kernel_rfl,by kernel_rfl⟩
theorem bd170:bodied Tryz.prog 170=true:=by kernel_rfl
def c171:CI:=(oR [oM 3 (.box 0 true (.t 1)),oM 4 (.mv (oK 0))] (.seq (oR [oV 6 0,oN 7 6,oM 8 (.mv (oK 0))] (.block 0 (.loop (oR [oM 9 (.bin .lss (.t 8) (.t 7))] (.seq (.cond (.t 9) .skip (.exit 0)) (.seq (.block 1 (oR [oV 10 8,oV 5 10] (oR [oW 11 4 3,oV
 12 0,oV 13 5,oI 14 4 12 13,oW 15 4 14,oM 16 (.eqs false (.node [(0,1,(.leaf true)),(1,1,(.leaf true)),(2,1,(.leaf true)),(3,1,(.leaf true))])
 (.t 11) (.t 15))] (.cond (.t 16) (oR [oV 17 5,oV 4 17] .ret) .skip)))) (.reg [oM 18 (.bin .add (.t 8) (oK 1)),oV 8 18]))))))) (oR [oM
 4 (.mv (oK (-1)))] .ret)))
theorem ok171:FnOk Tryz.prog 171 19 1 c171 [.t 4]:=⟨_,_,Tryz.func171,rfl,rfl,by kernel_rfl,by kernel_rfl⟩
theorem bd171:bodied Tryz.prog 171=true:=by kernel_rfl
def c172:CI:=(oR [oM 2 (.mv (.c (.bool false)))] (.seq (oR [oM 3 (.mv (oK 1))] (.block 0 (.loop (.seq (oR [oV 4 3,oV 5 0,
 oN 6 5,oM 7 (.bin .lss (.t 4) (.t 6))] (.cond (.t 7) .skip (.exit 0))) (.seq (.block 1 (oR [oV 10 0,oV 11 3,oI 12 1 10 11,oL 13 12,oV 14
 0,oV 15 3,oM 16 (.bin .sub (.t 15) (oK 1)),oI 17 1 14 16,oL 18 17,oM 19 (.bin .leq (.t 13) (.t 18))] (.cond (.t 19) (oR [oM 2 (.mv (.c (.bool
 false)))] .ret) .skip))) (.reg [oV 8 3,oM 9 (.bin .add (.t 8) (oK 1)),oV 3 9])))))) (oR [oM 2 (.mv (.c (.bool true)))] .ret)))
theorem ok172:FnOk Tryz.prog 172 20 0 c172 [.t 2]:=⟨_,_,Tryz.func172,rfl,rfl,by kernel_rfl,by kernel_rfl⟩
theorem bd172:bodied Tryz.prog 172=true:=by kernel_rfl
def c173:CI:=(oR [oM 2 (.box 0 true (.t 0)),oM 4 (.mv (.c (.bool false)))] (oR [oV 5 1,oF 6 1 2,oL 7 6,oN 8 7,oM 9 (.bin .sub
 (.t 8) (oK 1)),oM 10 (.call 151 [(.t 5),(oK 0),(.t 9)]),oV 4 10] .ret))
theorem ok173:FnOk Tryz.prog 173 11 1 c173 [.t 4]:=⟨_,_,Tryz.func173,rfl,rfl,by kernel_rfl,by kernel_rfl⟩
theorem bd173:bodied Tryz.prog 173=true:=by kernel_rfl
def c174:CI:=(oR [oM 2 (.box 0 true (.t 0)),oM 4 (.mv oZ)] (oR [oM 5 (.mv oZ)] (.seq (oR [oF 7 0 2,oL 8 7,oV 9 1,oI 10
 4 8 9,oF 11 2 10,oF 12 0 11,oL 13 12,oV 6 13] (.block 0 (.loop (.seq (oR [oV 14 6,oF 15 0 2,oL 16 15,oV 17 1,oI 18 4 16 17,oF 19 2 18,
 oF 20 1 19,oL 21 20,oM 22 (.bin .leq (.t 14) (.t 21))] (.cond (.t 22) .skip (.exit 0))) (.seq (.block 1 (oR [oW 25 4 2,oV 26 1,oV 27 6,oM
 28 (.call 189 [(.t 25),(.t 26),(.t 27)])] (.cond (.t 28) (.reg [oV 29 5,oV 30 6,oM 31 (.bsl 1 3 1 [(.t 30)] []),oM 32 (.apd 2 3 1 8 (.t 29) (.t 31)
 []),oV 5 32]) .skip))) (.reg [oV 23 6,oM 24 (.bin .add (.t 23) (oK 1)),oV 6 24])))))) (oR [oV 33 5,oV 4 33] .ret))))
theorem ok174:FnOk Tryz.prog 174 34 3 c174 [.t 4]:=⟨_,_,Tryz.func174,rfl,rfl,by kernel_rfl,by kernel_rfl⟩
theorem bd174:bodied Tryz.prog 174=true:=by kernel_rfl
def c177:CI:=(oR [oM 2 (.box 0 true (.t 0)),oM 4 (.mv oZ)] (oR [oF 10 0 2,oF 11 0 10,oL 12 11,oV 13 1,oI 14 4 12 13,oF 15 2
 14,oW 16 2 15,oM 17 (.bsl 1 52 2 [(.t 16)] []),oV 5 17] (.seq (oR [oF 18 0 2,oF 19 3 18,oL 20 19,oN 21 20,oM 22 (.mv (oK 0))] (.block
 0 (.loop (oR [oM 23 (.bin .lss (.t 22) (.t 21))] (.seq (.cond (.t 23) .skip (.exit 0)) (.seq (.block 1 (oR [oI 24 4 20 22,oW 25 4 24,
 oM 7 (.alloc 2 [(.int .i64 0),(.int .i64 0),(.int .i64 0),(.int .i64 0)]),oS (.store true 4 (.t 7) (.t 25) [])] (.seq (oR [oF 26 0 7,oL 27
 26,oV 28 1,oM 29 (.bin .neq (.t 27) (.t 28))] (.cond (.t 29) (.exit 1) .skip)) (oR [oV 31 5,oW 32 5 2,oV 33 1,oF 34 1 7,oL 35 34,oF 36
 2 7,oL 37 36,oM 38 (.call 185 [(.t 32),(.t 33),(.t 35),(.t 37)]),oM 39 (.callw 3 2 184 [(.t 31),(.t 38)]),oV 30 39,oX 40 0 30,oX 41 1 30,oV
 8 40,oV 9 41] (oR [oF 42 3 7,oL 43 42,oM 44 (.bin .eql (.t 43) (oK 1))] (.cond (.t 44) (.reg [oV 45 8,oV 5 45]) (.reg [oV 46 9,oV 5 46])))))))
 (.reg [oM 47 (.bin .add (.t 22) (oK 1)),oV 22 47]))))))) (oR [oV 48 5,oV 4 48] .ret))))
theorem ok177:FnOk Tryz.prog 177 49 5 c177 [.t 4]:=⟨_,_,Tryz.func177,rfl,rfl,by kernel_rfl,by kernel_rfl⟩
theorem bd177:bodied Tryz.prog 177=true:=by kernel_rfl
def c178:CI:=(oR [oM 4 (.mv (.c (.bool false)))] (.seq (oR [oV 7 0,oN 8 7,oM 9 (.mv (oK 0))] (.block 0 (.loop (oR [oM 10
 (.bin .lss (.t 9) (.t 8))] (.seq (.cond (.t 10) .skip (.exit 0)) (.seq (.block 1 (oR [oI 11 1 7 9,oL 12 11,oV 6 12] (oR [oV 13 1,oV
 14 6,oM 15 (.callx (.t 13) [(.t 14)]),oM 16 (.un .not (.t 15))] (.cond (.t 16) (oR [oM 4 (.mv (.c (.bool false)))] .ret) .skip)))) (.reg [oM
 17 (.bin .add (.t 9) (oK 1)),oV 9 17]))))))) (oR [oM 4 (.mv (.c (.bool true)))] .ret)))
theorem ok178:FnOk Tryz.prog 178 18 0 c178 [.t 4]:=⟨_,_,Tryz.func178,rfl,rfl,by kernel_rfl,by kernel_rfl⟩
theorem bd178:bodied Tryz.prog 178=true:=by kernel_rfl
def c179:CI:=(oR [oM 2 (.mv (.c (.bool false)))] (oR [oV 3 0,oM 4 (.call 140 [(.t 3),(oK 0),(oK 10)]),oV 2 4] .ret))
theorem ok179:FnOk Tryz.prog 179 5 0 c179 [.t 2]:=⟨_,_,Tryz.func179,rfl,rfl,by kernel_rfl,by kernel_rfl⟩
theorem bd179:bodied Tryz.prog 179=true:=by kernel_rfl
def c180:CI:=(oR [oM 4 (.mv (.c (.bool false)))] (.seq (oR [oV 7 0,oN 8 7,oM 9 (.mv (oK 0))] (.block 0 (.loop (oR [oM 10
 (.bin .lss (.t 9) (.t 8))] (.seq (.cond (.t 10) .skip (.exit 0)) (.seq (.block 1 (oR [oI 11 2 7 9,oW 12 2 11,oM 6 (.alloc 0 [(.int .i64 0),
 (.int .i64 0)]),oS (.store true 2 (.t 6) (.t 12) [])] (oR [oV 13 1,oW 14 2 6,oM 15 (.callx (.t 13) [(.t 14)]),oM 16 (.un .not (.t 15))] (.cond
 (.t 16) (oR [oM 4 (.mv (.c (.bool false)))] .ret) .skip)))) (.reg [oM 17 (.bin .add (.t 9) (oK 1)),oV 9 17]))))))) (oR [oM 4 (.mv (.c
 (.bool true)))] .ret)))
theorem ok180:FnOk Tryz.prog 180 18 1 c180 [.t 4]:=⟨_,_,Tryz.func180,rfl,rfl,by kernel_rfl,by kernel_rfl⟩
theorem bd180:bodied Tryz.prog 180=true:=by kernel_rfl
def c181:CI:=(oR [oM 2 (.box 0 true (.t 0)),oM 3 (.mv (.c (.bool false)))] (oR [oW 4 4 1,oF 5 0 2,oL 6 5,oF 7 1 2,oL 8 7,oM
 9 (.call 144 [(.t 4),(.t 6),(.t 8)]),oV 3 9] .ret))
theorem ok181:FnOk Tryz.prog 181 10 1 c181 [.t 3]:=⟨_,_,Tryz.func181,rfl,rfl,by kernel_rfl,by kernel_rfl⟩
theorem bd181:bodied Tryz.prog 181=true:=by kernel_rfl
def c182:CI:=(oR [oM 3 (.box 0 true (.t 0)),oM 4 (.box 1 false (.t 1)),oM 5 (.box 2 false (.t 2)),oM 6 (.mv oZ)] (oR [oF 7 0 3,
 oF 8 0 7,oL 9 8,oN 10 9,oM 11 (.mkfn 191 [(.t 3),(.t 4),(.t 5)]),oM 12 (.callw 3 1 190 [(.t 10),(.t 11)]),oV 6 12] .ret))
theorem ok182:FnOk Tryz.prog 182 13 4 c182 [.t 6]:=⟨_,_,Tryz.func182,rfl,rfl,by kernel_rfl,by kernel_rfl⟩
theorem bd182:bodied Tryz.prog 182=true:=by kernel_rfl
def c183:CI:=(oR [oM 6 (.mv (.c (.bool false)))] (.seq (oR [oV 11 0,oM 12 (.nilck (.t 11)),oF 13 0 12,oL 14 13,oV 15 1,oI 16
 1 14 15,oL 17 16,oN 18 17,oM 19 (.mv (oK 0))] (.block 0 (.loop (oR [oM 20 (.bin .lss (.t 19) (.t 18))] (.seq (.cond (.t 20) .skip (.exit 0))
 (.seq (.block 1 (oR [oI 21 1 17 19,oL 22 21,oV 8 22] (.seq (oR [oV 23 2,oV 24 8,oI 25 1 23 24,oL 26 25] (.cond (.t 26) (.exit 1)
 .skip)) (oR [oV 27 2,oV 28 8,oI 29 1 27 28,oS (.store false 1 (.t 29) (.c (.bool true)) [])] (.seq (oR [oV 30 0,oM 31 (.nilck (.t
 30)),oF 32 1 31,oL 33 32,oV 34 8,oI 35 1 33 34,oL 36 35,oM 37 (.bin .gtr (.t 36) (oK 0))] (.cond (.t 37) (oR [oV 38 0,oM 39 (.nilck (.t
 38)),oF 40 1 39,oL 41 40,oV 42 8,oI 43 1 41 42,oL 44 43,oM 45 (.bin .sub (.t 44) (oK 1)),oI 46 1 41 42,oS (.store false 1 (.t 46) (.t 45) [])]
 (oR [oV 47 0,oM 48 (.nilck (.t 47)),oF 49 2 48,oL 50 49,oV 51 1,oV 52 8,oI 53 1 50 51,oS (.store false 1 (.t 53) (.t 52) [])] (oR [oM 6 (.mv (.c (.bool true)))] .ret))) .skip)) (oR [oV 54 0,oM 55 (.nilck (.t 54)),oF 56 2 55,oL 57 56,oN 58 57,oM 59 (.mv (oK 0))] (.block
 2 (.loop (oR [oM 60 (.bin .lss (.t 59) (.t 58))] (.seq (.cond (.t 60) .skip (.exit 2)) (.seq (.block 3 (oR [oV 61 59,oI 62 1 57 59,oL
 63 62,oV 9 61,oV 10 63] (oR [oV 64 10,oV 65 8,oM 66 (.bin .eql (.t 64) (.t 65)),oV 67 66,oG 67 true (oV 68 0),oG 67 true (oV 69 9),oG
 67 true (oV 70 2),oG 67 true (oM 71 (.callw 0 0 183 [(.t 68),(.t 69),(.t 70)])),oM 72 (.pick (.t 67) (.t 71) (.c (.bool false)))] (.cond (.t 72) (oR [oV 73 0,oM 74 (.nilck (.t 73)),oF 75 2 74,oL 76 75,oV 77 1,oV 78 8,oI 79 1 76 77,oS (.store false 1 (.t 79) (.t 78) [])] (oR [oM
 6 (.mv (.c (.bool true)))] .ret)) .skip)))) (.reg [oM 80 (.bin .add (.t 59) (oK 1)),oV 59 80])))))))))))) (.reg [oM 81 (.bin .add (.t 19) (oK 1)),oV
 19 81]))))))) (oR [oM 6 (.mv (.c (.bool false)))] .ret)))
theorem ok183:FnOk Tryz.prog 183 82 0 c183 [.t 6]:=⟨_,_,Tryz.func183,rfl,rfl,by kernel_rfl,by kernel_rfl⟩
theorem bd183:bodied Tryz.prog 183=true:=by kernel_rfl
def c184:CI:=(oR [oM 3 (.box 0 true (.t 1)),oM 4 (.mv oZ),oM 5 (.mv oZ)] (.seq (oR [oV 8 0,oN 9 8,oM 10 (.mv (oK 0))] (.block
 0 (.loop (oR [oM 11 (.bin .lss (.t 10) (.t 9))] (.seq (.cond (.t 11) .skip (.exit 0)) (.seq (.block 1 (oR [oI 12 2 8 10,oW 13 2 12,oM
 7 (.alloc 1 [(.int .i64 0),(.int .i64 0)]),oS (.store true 2 (.t 7) (.t 13) [])] (oR [oV 14 4,oF 15 0 7,oL 16 15,oF 17 0 3,oL 18 17,oM
 19 (.mm true [(.t 16),(.t 18)]),oF 20 1 7,oL 21 20,oF 22 1 3,oL 23 22,oM 24 (.mm false [(.t 21),(.t 23)]),oM 25 (.build [(.int .i64 0),(.int .i64
 0)] [(0,1,(.t 19)),(1,1,(.t 24))]),oM 26 (.callw 2 1 192 [(.t 14),(.t 25)]),oV 4 26] (oR [oV 27 5,oF 28 0 7,oL 29 28,oF 30 1 7,oL
 31 30,oF 32 0 3,oL 33 32,oM 34 (.bin .sub (.t 33) (oK 1)),oM 35 (.mm false [(.t 31),(.t 34)]),oM 36 (.build [(.int .i64 0),(.int .i64 0)] [(0,1,
 (.t 29)),(1,1,(.t 35))]),oM 37 (.callw 3 1 192 [(.t 27),(.t 36)]),oV 5 37] (.reg [oV 38 5,oF 39 0 7,oL 40 39,oF 41 1 3,oL 42 41,oM 43 (.bin
 .add (.t 42) (oK 1)),oM 44 (.mm true [(.t 40),(.t 43)]),oF 45 1 7,oL 46 45,oM 47 (.build [(.int .i64 0),(.int .i64 0)] [(0,1,(.t 44)),(1,1,(.t
 46))]),oM 48 (.callw 4 1 192 [(.t 38),(.t 47)]),oV 5 48]))))) (.reg [oM 49 (.bin .add (.t 10) (oK 1)),oV 10 49]))))))) (oR [oV 50 4,oV 51
 5,oV 4 50,oV 5 51] .ret)))
theorem ok184:FnOk Tryz.prog 184 52 5 c184 [.t 4, .t 5]:=⟨_,_,Tryz.func184,rfl,rfl,by kernel_rfl,by kernel_rfl⟩
theorem bd184:bodied Tryz.prog 184=true:=by kernel_rfl
def c185:CI:=(oR [oM 4 (.box 0 true (.t 0)),oM 8 (.alloc 1 [(.int .i64 0),(.int .i64 0)])] (oR [oF 11 0 4,oF 12 0 11,oL 13 12,
 oV 14 1,oI 15 4 13 14,oW 16 4 15,oF 17 0 4,oF 18 1 17,oL 19 18,oV 20 2,oI 21 1 19 20,oF 22 0 21,oL 23 22,oV 24 3,oI 25 4 23 24,oW 26 4 25,
 oM 9 (.alloc 2 [(.int .i64 0),(.int .i64 0),(.int .i64 0),(.int .i64 0)]),oM 10 (.alloc 3 [(.int .i64 0), .nils,(.int .i64 0),(.int .i64 0)]),oS
 (.store true 4 (.t 9) (.t 16) [(.t 18),(.t 19),(.t 22),(.t 23),(.t 25)]),oS (.stz true 4 (.t 10) (.t 26) [])] (.seq (oR [oF 27 0 9,oL 28
 27,oF 29 0 10,oL 30 29,oM 31 (.bin .neq (.t 28) (.t 30)),oV 32 31,oG 32 false (oF 33 1 10),oG 32 false (oL 34 33),oG 32 false (oF 35 1 9),oG 32
 false (oL 36 35),oG 32 false (oM 37 (.call 124 [(.t 34),(.t 36)])),oG 32 false (oM 38 (.un .not (.t 37))),oM 39 (.pick (.t 32) (.c (.bool true)) (.t
 38))] (.cond (.t 39) (oR [oM 40 (.build [(.int .i64 0),(.int .i64 0)] [(0,1,(oK 0)),(1,1,(oK (-1)))]),oS (.store true 2 (.t 8) (.t 40)
 [])] .ret) .skip)) (oR [oF 41 2 10,oF 42 0 41,oL 43 42,oF 44 2 10,oF 45 1 44,oL 46 45,oF 47 0 4,oF 48 2 47,oL 49 48,oM 50 (.bin .add
 (.t 46) (.t 49)),oM 51 (.build [(.int .i64 0),(.int .i64 0)] [(0,1,(.t 43)),(1,1,(.t 50))]),oS (.store true 2 (.t 8) (.t 51) [])] .ret))))
theorem ok185:FnOk Tryz.prog 185 52 4 c185 [.cell 8 true 2]:=⟨_,_,Tryz.func185,rfl,rfl,by kernel_rfl,by kernel_rfl⟩
theorem bd185:bodied Tryz.prog 185=true:=by kernel_rfl
def c186:CI:=(oR [oM 5 (.box 0 true (.t 0)),oM 10 (.mv (.c (.bool false)))] (oR [oF 13 0 5,oL 14 13,oV 15 1,oI 16 4 14 15,oW
 17 4 16,oF 18 1 5,oL 19 18,oV 20 3,oI 21 1 19 20,oF 22 0 21,oL 23 22,oV 24 4,oI 25 4 23 24,oW 26 4 25,oM 11 (.alloc 1 [(.int .i64 0),(.int .i64
 0),(.int .i64 0),(.int .i64 0)]),oM 12 (.alloc 2 [(.int .i64 0), .nils,(.int .i64 0),(.int .i64 0)]),oS (.store true 4 (.t 11) (.t 17) [(.t 18),
 (.t 19),(.t 22),(.t 23),(.t 25)]),oS (.stz true 4 (.t 12) (.t 26) [])] (oR [oF 27 0 11,oL 28 27,oF 29 0 12,oL 30 29,oM 31 (.bin .eql (.t
 28) (.t 30)),oV 32 31,oG 32 true (oF 33 1 12),oG 32 true (oL 34 33),oG 32 true (oF 35 1 11),oG 32 true (oL 36 35),oG 32 true (oM 37 (.call 85 [(.t
 34),(.t 36)])),oM 38 (.pick (.t 32) (.t 37) (.c (.bool false))),oV 39 38,oG 39 true (oV 40 2),oG 39 true (oF 41 2 12),oG 39 true (oF 42 0 41),oG
 39 true (oL 43 42),oG 39 true (oF 44 2 12),oG 39 true (oF 45 1 44),oG 39 true (oL 46 45),oG 39 true (oF 47 2 5),oG 39 true (oL 48 47),oG 39 true
 (oM 49 (.bin .add (.t 46) (.t 48))),oG 39 true (oM 50 (.call 151 [(.t 40),(.t 43),(.t 49)])),oM 51 (.pick (.t 39) (.t 50) (.c (.bool false))),oV 10
 51] .ret)))
theorem ok186:FnOk Tryz.prog 186 52 3 c186 [.t 10]:=⟨_,_,Tryz.func186,rfl,rfl,by kernel_rfl,by kernel_rfl⟩
theorem bd186:bodied Tryz.prog 186=true:=by kernel_rfl
def c187:CI:=(oR [oM 4 (.mv (oK 0))] (.seq (oR [oV 5 0] (.block 0 (oR [oV 7 1,oM 8 (.bin .eql (.t 5) (.t 7)),oV 6 8] (.cond
 (.t 6) (oR [oM 4 (.mv (oK 1))] .ret) (oR [oM 10 (.bin .eql (.t 5) (oK 0)),oV 9 10] (.cond (.t 9) (oR [oM 4 (.mv (oK 2))] .ret)
 .skip)))))) (oR [oM 4 (.mv (oK 3))] .ret)))
theorem ok187:FnOk Tryz.prog 187 11 0 c187 [.t 4]:=⟨_,_,Tryz.func187,rfl,rfl,by kernel_rfl,by kernel_rfl⟩
theorem bd187:bodied Tryz.prog 187=true:=by kernel_rfl
def c188:CI:=(oR [oM 2 (.mv (.c (.bool false)))] (.seq (oR [oV 4 0,oN 5 4,oM 6 (.bin .sub (.t 5) (oK 1)),oM 7 (.mv (oK 0))] (.block
 0 (.loop (oR [oM 8 (.bin .lss (.t 7) (.t 6))] (.seq (.cond (.t 8) .skip (.exit 0)) (.seq (.block 1 (oR [oV 9 7,oV 3 9] (oR [oV
 10 0,oV 11 3,oI 12 1 10 11,oL 13 12,oV 14 0,oV 15 3,oM 16 (.bin .add (.t 15) (oK 1)),oI 17 1 14 16,oL 18 17,oM 19 (.bin .geq (.t 13) (.t 18))]
 (.cond (.t 19) (oR [oM 2 (.mv (.c (.bool false)))] .ret) .skip)))) (.reg [oM 20 (.bin .add (.t 7) (oK 1)),oV 7 20]))))))) (oR [oM 2 (.mv
 (.c (.bool true)))] .ret)))
theorem ok188:FnOk Tryz.prog 188 21 0 c188 [.t 2]:=⟨_,_,Tryz.func188,rfl,rfl,by kernel_rfl,by kernel_rfl⟩
theorem bd188:bodied Tryz.prog 188=true:=by kernel_rfl
def c189:CI:=(oR [oM 3 (.box 0 true (.t 0)),oM 6 (.mv (.c (.bool false)))] (.seq (oR [oM 7 (.mv (oK 0))] (.block 0 (.loop (.seq
 (oR [oV 9 7,oF 10 3 3,oL 11 10,oN 12 11,oM 13 (.bin .lss (.t 9) (.t 12))] (.cond (.t 13) .skip (.exit 0))) (.seq (.block 1 (oR [oF
 16 3 3,oL 17 16,oV 18 7,oI 19 4 17 18,oW 20 4 19,oM 8 (.alloc 1 [(.int .i64 0),(.int .i64 0),(.int .i64 0),(.int .i64 0)]),oS (.store true 4 (.t
 8) (.t 20) [])] (oR [oF 21 0 8,oL 22 21,oV 23 1,oM 24 (.bin .eql (.t 22) (.t 23)),oV 25 24,oG 25 true (oW 26 4 3),oG 25 true (oV 27 1),
 oG 25 true (oV 28 2),oG 25 true (oF 29 1 8),oG 25 true (oL 30 29),oG 25 true (oF 31 2 8),oG 25 true (oL 32 31),oG 25 true (oF 34 3 8),oG 25 true
 (oL 35 34),oG 25 true (oM 36 (.bin .eql (.t 35) (oK 1))),oG 25 true (oM 33 (.call 186 [(.t 26),(.t 27),(.t 28),(.t 30),(.t 32)])),oG 25 true (oM
 37 (.eqb true (.t 33) (.t 36))),oM 38 (.pick (.t 25) (.t 37) (.c (.bool false)))] (.cond (.t 38) (oR [oM 6 (.mv (.c (.bool false)))] .ret) .skip))))
 (.reg [oV 14 7,oM 15 (.bin .add (.t 14) (oK 1)),oV 7 15])))))) (oR [oV 39 2,oF 40 0 3,oL 41 40,oV 42 1,oI 43 4 41 42,oF 44 2 43,oF 45 0
 44,oL 46 45,oF 47 0 3,oL 48 47,oV 49 1,oI 50 4 48 49,oF 51 2 50,oF 52 1 51,oL 53 52,oM 54 (.call 151 [(.t 39),(.t 46),(.t 53)]),oV 6 54] .ret)))
theorem ok189:FnOk Tryz.prog 189 55 2 c189 [.t 6]:=⟨_,_,Tryz.func189,rfl,rfl,by kernel_rfl,by kernel_rfl⟩
theorem bd189:bodied Tryz.prog 189=true:=by kernel_rfl
def c190:CI:=(oR [oM 4 (.mv oZ)] (oR [oM 5 (.mv oZ)] (.seq (oR [oV 7 0,oM 8 (.mv (oK 0))] (.block 0 (.loop (oR [oM 9 (.bin .lss (.t 8) (.t 7))] (.seq (.cond (.t 9) .skip (.exit 0)) (.seq (.block 1 (oR [oV 10 8,oV 6 10] (oR [oV 11 1,oV 12 6,oM
 13 (.callx (.t 11) [(.t 12)])] (.cond (.t 13) (.reg [oV 14 5,oV 15 6,oM 16 (.bsl 0 3 1 [(.t 15)] []),oM 17 (.apd 1 3 1 8 (.t 14) (.t 16) []),oV 5
 17]) .skip)))) (.reg [oM 18 (.bin .add (.t 8) (oK 1)),oV 8 18]))))))) (oR [oV 19 5,oV 4 19] .ret))))
theorem ok190:FnOk Tryz.prog 190 20 2 c190 [.t 4]:=⟨_,_,Tryz.func190,rfl,rfl,by kernel_rfl,by kernel_rfl⟩
theorem bd190:bodied Tryz.prog 190=true:=by kernel_rfl
def c191:CI:=(oR [oM 5 (.mv (.c (.bool false)))] (oR [oW 6 5 1,oV 7 0,oL 8 2,oL 9 3,oM 10 (.call 163 [(.t 6),(.t 7),(.t 8),
 (.t 9)]),oM 11 (.bin .eql (.t 10) (oK 1)),oV 5 11] .ret))
theorem ok191:FnOk Tryz.prog 191 12 0 c191 [.t 5]:=⟨_,_,Tryz.func191,rfl,rfl,by kernel_rfl,by kernel_rfl⟩
theorem bd191:bodied Tryz.prog 191=true:=by kernel_rfl
def c192:CI:=(oR [oM 3 (.box 0 true (.t 1)),oM 4 (.mv oZ)] (.seq (oR [oF 5 0 3,oL 6 5,oF 7 1 3,oL 8 7,oM 9 (.bin .gtr (.t 6)
 (.t 8))] (.cond (.t 9) (oR [oV 10 0,oV 4 10] .ret) .skip)) (oR [oV 11 0,oW 12 2 3,oM 13 (.bsl 1 52 2 [(.t 12)] []),oM 14 (.apd 2
 52 2 16 (.t 11) (.t 13) []),oV 4 14] .ret)))
theorem ok192:FnOk Tryz.prog 192 15 3 c192 [.t 4]:=⟨_,_,Tryz.func192,rfl,rfl,by kernel_rfl,by kernel_rfl⟩
theorem bd192:bodied Tryz.prog 192=true:=by kernel_rfl
end Go.Proofs
