/- The functions of this program as the walk reads them, each proved to be what the program holds. -/
import Derived.Test.YtpcmpgcjhmecbaaEng4
import Derived.Test.YtpcmpgcjhmecbaaProg
import Derived.KernelRfl
namespace Go.Proofs
open Go.Eng
set_option maxRecDepth 100000
end Go.Proofs
namespace Go.Eng
theorem FnA.cq{P:Program}{sg:List Res}{f:FuncId}{args args':List AV}{a:AV}{k:AV->Prop}(h:FnA P f args' (· = a))(hr:AV.puL args=true)(hz:AV.frzL sg 8 args=some args')(hk:k a):CallQ P sg f args k:=h.callq hr hz fun _ e=>by subst e;exact hk
theorem FnA.lq{P:Program}{sg:List Res}{f:FuncId}{args args':List AV}{a:AV}{k:AV->Prop}(h:FnA P f args' (· = a))(hz:AV.frzL sg 8 args=some args')(hf:a.flat=true)(hk:k a):CallQ P sg f args k:=h.lendq hz fun _ e=>by subst e;exact⟨hf,hk⟩
theorem FnA.zq{P:Program}{fl:Bool}{sg:List Res}{nm ct:Nat}{f:FuncId}{args args':List AV}{z:List (Nat × Res)}{a:AV}{k:List (Nat × Res)->AV->Prop}(h:FnA P f args' (· = a))(hz:AV.reachL sg args=some z)(hr:AV.frzL sg 8 args=some args')(hk:k z a):CallZQ P fl sg nm ct f args k:=h.callzq hz hr fun _ e=>by subst e;exact hk
theorem FnO.oq{P:Program}{fl:Bool}{sg:List Res}{nm ct:Nat}{f:FuncId}{args args':List AV}{z:List (Nat × Res)}{a:AV}{b:List (Nat × Res)}{k:List (Nat × Res)->AV->Prop}(h:FnO P f args' (fun r rows=>r=a/\rows=b))(hz:AV.reachL sg args=some z)(hr:AV.frzL sg 8 args=some args')(hb:rowsB ct b=true)(hk:k (z++nameR b nm) (a.rnr (posN b nm))):CallZQ P fl sg nm ct f args k:=h.callzq hz hr fun _ _ e=>by obtain⟨e,e'⟩:=e;subst e;subst e';exact⟨hb,hk⟩
theorem wJ{x:Int}{K:Int->Prop}(hk:K x)(h : -9223372036854775808<=x/\x<=9223372036854775807:=by omega):WrE .i64 x K:=wIn h hk
theorem nJ{p A:Prop}(k:A)(h:p:=by omega):Need p A:=nI h k
theorem iaJ{es:List (List AV)}{i:Int}{K:List AV->Prop}{cs:List AV}(hc:es.getD i.toNat []=cs)(hk:K cs)(h0:0<=i:=by omega)(h1:i<es.length:=by omega):IaE es i K:=iaI h0 h1 hc hk
theorem apJ{sz bytes:Nat}{xs ys:List (List AV)}{K:Prop}(hk:K)(h1:∀e∈ys,e.length=sz/\e.all AV.one=true:=by simp[AV.one])(h2:(xs.length+ys.length)*bytes<=140737488355328:=by(simp only[List.length_cons,List.length_nil];omega)):ApE sz bytes xs ys K:=apI h1 h2 hk
theorem mI{s s':St}(h:Meets (fun i=>i) (fun _=>false) s s':=by((repeat' apply And.intro)<;>first|rfl|exact True.intro|(intro hh;cases hh))):MeetsE s s':=meets_id h
theorem mR(i j:Nat){s s':St}(h:Meets (fun k=>match decide (k=i)with|true=>j|false=>k) (fun _=>false) s s':=by((repeat' apply And.intro)<;>first|rfl|exact True.intro|(intro hh;cases hh))):MeetsE s s':=meets_ren i j h
theorem mN(i:Nat){s s':St}(h:Meets (fun k=>k) (fun k=>decide (k=i)) s s':=by((repeat' apply And.intro)<;>first|rfl|exact True.intro|(intro hh;cases hh))):MeetsE s s':=meets_nil i h
theorem mA(l:List (Nat × Option Nat)){s s':St}(h:Meets (asN l) (asB l) s s':=by((repeat' apply And.intro)<;>first|rfl|exact True.intro|(intro hh;cases hh))):MeetsE s s':=meets_as l h
end Go.Eng
namespace Go.Proofs
open Go.Eng
@[reducible] def oR(l:List IOp)(c:CI):CI:=.seq (.reg l) c
@[reducible] def oM(d:Nat)(o:Ixo):IOp:=⟨none,some d,o⟩
@[reducible] def oS(o:Ixo):IOp:=⟨none,none,o⟩
@[reducible] def oG(g:Nat)(b:Bool)(p:IOp):IOp:=⟨some (g,b),p.d,p.o⟩
@[reducible] def oV(d t:Nat):IOp:=⟨none,some d, .mv (.t t)⟩
@[reducible] def oL(d t:Nat):IOp:=⟨none,some d, .load false 1 (.t t)⟩
@[reducible] def oW(d n t:Nat):IOp:=⟨none,some d, .load true n (.t t)⟩
@[reducible] def oF(d k t:Nat):IOp:=⟨none,some d, .faddr k (.t t)⟩
@[reducible] def oI(d n a b:Nat):IOp:=⟨none,some d, .iaddr n (.t a) (.t b)⟩
@[reducible] def oN(d t:Nat):IOp:=⟨none,some d, .len (.t t)⟩
@[reducible] def oX(d k t:Nat):IOp:=⟨none,some d, .extract k (.t t)⟩
@[reducible] def oK(n:Int):Opd:=.c (.int .i64 n)
@[reducible] def oZ:Opd:=.c .nils
def c3:CI:=(oR [oM 2 (.box 0 true (.t 0)),oM 3 (.box 1 true (.t 1)),oM 4 (.mv (.c (.bool false)))] (.seq (oR [oW 22 7 2,oM 23 (.call
 12 [(.t 22)])] (.cond (.t 23) (oR [oM 24 (.call 13 []),oV 4 24] .ret) .skip)) (oR [oW 25 7 2,oM 26 (.callw 2 2 14 [(.t 25)]),oM 5
 (.alloc 4 [(.int .i64 0),(.int .i64 0), .nils,(.int .i64 0), .nils,(.int .i64 0),(.int .i64 0)]),oS (.stz true 7 (.t 5) (.t 26) [])] (.seq (oR [oW 27 7 5,oW 29 7 2,oM 28 (.call 15 [(.t 27)]),oM 30 (.call 16 [(.t 29)]),oM 31 (.bin .neq (.t 28) (.t 30))] (.cond (.t 31) (oR [oM
 4 (.mv (.c (.bool false)))] .ret) .skip)) (oR [oW 33 7 5,oM 34 (.call 17 [(.t 33)]),oV 32 34,oX 35 0 32,oX 36 1 32,oV 6 35,oV 7 36] (oR [oW 38 7 2,oM 39 (.call 18 [(.t 38)]),oV 37 39,oX 40 0 37,oX 41 1 37,oV 8 40,oV 9 41] (oR [oW 43 7 5,oM 44 (.call 19 [(.t 43)]),
 oV 42 44,oX 45 0 42,oX 46 1 42,oV 10 45,oV 11 46] (oR [oW 48 7 2,oM 49 (.call 20 [(.t 48)]),oV 47 49,oX 50 0 47,oX 51 1 47,oV 12 50,
 oV 13 51] (oR [oW 53 7 5,oF 54 0 3,oL 55 54,oM 56 (.callw 5 1 21 [(.t 53),(.t 55)]),oV 52 56,oX 57 0 52,oX 58 1 52,oV 14 57,oV 15 58]
 (oR [oW 60 7 2,oF 61 0 3,oL 62 61,oM 63 (.callw 6 1 22 [(.t 60),(.t 62)]),oV 59 63,oX 64 0 59,oX 65 1 59,oV 16 64,oV 17 65] (oR [oW 67 7 5,oF 68 1 3,oL 69 68,oM 70 (.call 23 [(.t 67),(.t 69)]),oV 66 70,oX 71 0 66,oX 72 1 66,oV 18 71,oV 19 72] (oR [oW 74 7 2,oF
 75 1 3,oL 76 75,oM 77 (.call 24 [(.t 74),(.t 76)]),oV 73 77,oX 78 0 73,oX 79 1 73,oV 20 78,oV 21 79] (oR [oV 80 6,oV 81 8,oM 82 (.bin
 .eql (.t 80) (.t 81)),oV 83 82,oG 83 true (oV 84 7),oG 83 true (oV 85 9),oG 83 true (oM 86 (.bin .eql (.t 84) (.t 85))),oM 87 (.pick (.t 83) (.t 86)
 (.c (.bool false))),oV 88 87,oG 88 true (oV 89 10),oG 88 true (oV 90 12),oG 88 true (oM 91 (.bin .eql (.t 89) (.t 90))),oM 92 (.pick (.t 88) (.t 91)
 (.c (.bool false))),oV 93 92,oG 93 true (oV 94 11),oG 93 true (oV 95 13),oG 93 true (oM 96 (.bin .eql (.t 94) (.t 95))),oM 97 (.pick (.t 93) (.t 96)
 (.c (.bool false))),oV 98 97,oG 98 true (oV 99 14),oG 98 true (oV 100 16),oG 98 true (oM 101 (.call 25 [(.t 99),(.t 100)])),oM 102 (.pick (.t 98)
 (.t 101) (.c (.bool false))),oV 103 102,oG 103 true (oV 104 15),oG 103 true (oV 105 17),oG 103 true (oM 106 (.bin .eql (.t 104) (.t 105))),oM 107
 (.pick (.t 103) (.t 106) (.c (.bool false))),oV 108 107,oG 108 true (oV 109 18),oG 108 true (oV 110 20),oG 108 true (oM 111 (.bin .eql (.t 109) (.t
 110))),oM 112 (.pick (.t 108) (.t 111) (.c (.bool false))),oV 113 112,oG 113 true (oV 114 19),oG 113 true (oV 115 21),oG 113 true (oM 116 (.bin .eql
 (.t 114) (.t 115))),oM 117 (.pick (.t 113) (.t 116) (.c (.bool false))),oV 118 117,oG 118 true (oW 119 7 5),oG 118 true (oW 120 7 2),oG 118 true (oM
 121 (.call 26 [(.t 119),(.t 120)])),oM 122 (.pick (.t 118) (.t 121) (.c (.bool false))),oV 123 122,oG 123 true (oM 124 (.call 13 [])),oM 125 (.pick
 (.t 123) (.t 124) (.c (.bool false))),oV 4 125] .ret)))))))))))))
theorem ok3:FnOk Try.prog 3 126 7 c3 [.t 4]:=⟨_,_,Try.func3,rfl,rfl,by kernel_rfl,by kernel_rfl⟩
theorem bd3:bodied Try.prog 3=true:=by kernel_rfl
def c4:CI:=(oR [oM 2 (.box 0 true (.t 0)),oM 4 (.mv (.c (.bool false)))] (.seq (oR [oW 14 7 2,oM 15 (.call 12 [(.t 14)]),oV 16
 15,oG 16 false (oV 17 1),oG 16 false (oN 18 17),oG 16 false (oM 19 (.bin .gtr (.t 18) (oK 20))),oM 20 (.pick (.t 16) (.c (.bool true)) (.t 19))] (.cond
 (.t 20) (oR [oM 21 (.call 13 []),oV 4 21] .ret) .skip)) (oR [oW 22 7 2,oM 23 (.callw 1 2 14 [(.t 22)]),oM 5 (.alloc 3 [(.int .i64 0),
 (.int .i64 0), .nils,(.int .i64 0), .nils,(.int .i64 0),(.int .i64 0)]),oS (.stz true 7 (.t 5) (.t 23) [])] (oR [oW 25 7 5,oV 27 1,oM 6
 (.alloc 6 [(.int .i64 0),(.int .i64 0)]),oM 26 (.bsl 4 3 1 [] []),oM 28 (.apd 5 3 1 8 (.t 26) (.t 27) [(.t 5)]),oM 29 (.call 27 [(.t 25),(.t 28)]),
 oV 24 29,oX 30 0 24,oX 31 1 24,oS (.store true 2 (.t 6) (.t 30) []),oV 7 31] (oR [oW 33 7 2,oV 34 1,oM 35 (.call 28 [(.t 33),(.t 34)]),
 oV 32 35,oX 36 0 32,oX 37 1 32,oM 8 (.alloc 7 [(.int .i64 0),(.int .i64 0)]),oS (.store true 2 (.t 8) (.t 36) []),oV 9 37] (oR [oW 39 7
 5,oV 41 1,oM 10 (.alloc 10 [(.int .i64 0),(.int .i64 0)]),oM 40 (.bsl 8 3 1 [] []),oM 42 (.apd 9 3 1 8 (.t 40) (.t 41) [(.t 5)]),oM 43 (.call 29
 [(.t 39),(.t 42)]),oV 38 43,oX 44 0 38,oX 45 1 38,oS (.store true 2 (.t 10) (.t 44) []),oV 11 45] (oR [oW 47 7 2,oV 48 1,oM 49 (.call
 30 [(.t 47),(.t 48)]),oV 46 49,oX 50 0 46,oX 51 1 46,oM 12 (.alloc 11 [(.int .i64 0),(.int .i64 0)]),oS (.store true 2 (.t 12) (.t 50) []),oV 13
 51] (oR [oW 52 2 6,oW 53 2 8,oM 54 (.eqs false (.node [(0,1,(.leaf true)),(1,1,(.leaf true))]) (.t 52) (.t 53)),oV 55 54,oG 55 true (oV
 56 7),oG 55 true (oV 57 9),oG 55 true (oM 58 (.bin .eql (.t 56) (.t 57))),oM 59 (.pick (.t 55) (.t 58) (.c (.bool false))),oV 60 59,oG 60 true (oW
 61 2 10),oG 60 true (oW 62 2 12),oG 60 true (oM 63 (.eqs false (.node [(0,1,(.leaf true)),(1,1,(.leaf true))]) (.t 61) (.t 62))),oM 64 (.pick (.t
 60) (.t 63) (.c (.bool false))),oV 65 64,oG 65 true (oV 66 11),oG 65 true (oV 67 13),oG 65 true (oM 68 (.bin .eql (.t 66) (.t 67))),oM 69 (.pick (.t
 65) (.t 68) (.c (.bool false))),oV 70 69,oG 70 true (oM 71 (.call 13 [])),oM 72 (.pick (.t 70) (.t 71) (.c (.bool false))),oV 4 72] .ret))))))))
theorem ok4:FnOk Try.prog 4 73 12 c4 [.t 4]:=⟨_,_,Try.func4,rfl,rfl,by kernel_rfl,by kernel_rfl⟩
theorem bd4:bodied Try.prog 4=true:=by kernel_rfl
def c5:CI:=(oR [oM 1 (.box 0 true (.t 0)),oM 2 (.mv (.c (.bool false)))] (.seq (oR [oW 16 7 1,oM 17 (.call 12 [(.t 16)])] (.cond
 (.t 17) (oR [oM 18 (.call 13 []),oV 2 18] .ret) .skip)) (oR [oW 19 7 1,oM 20 (.callw 1 2 14 [(.t 19)]),oM 3 (.alloc 3 [(.int .i64 0),
 (.int .i64 0), .nils,(.int .i64 0), .nils,(.int .i64 0),(.int .i64 0)]),oS (.stz true 7 (.t 3) (.t 20) [])] (oR [oW 22 7 3,oM 23 (.call 31
 [(.t 22)]),oV 21 23,oX 24 0 21,oX 25 1 21,oV 4 24,oV 5 25] (oR [oW 27 7 1,oM 28 (.call 32 [(.t 27)]),oV 26 28,oX 29 0 26,oX 30 1 26,
 oV 6 29,oV 7 30] (oR [oW 32 7 3,oM 33 (.call 33 [(.t 32)]),oV 31 33,oX 34 0 31,oX 35 1 31,oV 8 34,oV 9 35] (oR [oW 37 7 1,oM
 38 (.call 34 [(.t 37)]),oV 36 38,oX 39 0 36,oX 40 1 36,oV 10 39,oV 11 40] (oR [oW 42 7 3,oM 43 (.callw 4 1 35 [(.t 42)]),oV 41 43,oX 44
 0 41,oX 45 1 41,oV 12 44,oV 13 45] (.seq (oR [oV 46 4,oV 47 6,oM 48 (.bin .neq (.t 46) (.t 47)),oV 49 48,oG 49 false (oV 50 5),oG 49 false
 (oV 51 7),oG 49 false (oM 52 (.bin .neq (.t 50) (.t 51))),oM 53 (.pick (.t 49) (.c (.bool true)) (.t 52)),oV 54 53,oG 54 false (oV 55 8),oG 54 false
 (oV 56 10),oG 54 false (oM 57 (.bin .neq (.t 55) (.t 56))),oM 58 (.pick (.t 54) (.c (.bool true)) (.t 57)),oV 59 58,oG 59 false (oV 60 9),oG 59 false
 (oV 61 11),oG 59 false (oM 62 (.bin .neq (.t 60) (.t 61))),oM 63 (.pick (.t 59) (.c (.bool true)) (.t 62)),oV 64 63,oG 64 false (oV 65 13),oG 64 false
 (oV 66 7),oG 64 false (oM 67 (.bin .neq (.t 65) (.t 66))),oM 68 (.pick (.t 64) (.c (.bool true)) (.t 67)),oV 69 68,oG 69 false (oV 70 12),oG 69 false
 (oN 71 70),oG 69 false (oM 72 (.bin .gtr (.t 71) (oK 20))),oM 73 (.pick (.t 69) (.c (.bool true)) (.t 72))] (.cond (.t 73) (oR [oM 2 (.mv (.c
 (.bool false)))] .ret) .skip)) (.seq (oR [oV 74 7,oM 75 (.bin .neq (.t 74) (oK 0))] (.cond (.t 75) (oR [oV 76 12,oN 77 76,oM 78 (.bin
 .eql (.t 77) (oK 0)),oV 79 78,oG 79 true (oM 80 (.call 13 [])),oM 81 (.pick (.t 79) (.t 80) (.c (.bool false))),oV 2 81] .ret) .skip)) (oR [oW 83 7 1,oV 84 12,oM 85 (.call 28 [(.t 83),(.t 84)]),oV 82 85,oX 86 0 82,oX 87 1 82,oM 14 (.alloc 5 [(.int .i64 0),(.int .i64 0)]),oS (.store
 true 2 (.t 14) (.t 86) []),oV 15 87] (oR [oV 88 15,oM 89 (.bin .eql (.t 88) (oK 0)),oV 90 89,oG 90 true (oF 91 0 14),oG 90 true (oL 92 91),
 oG 90 true (oV 93 6),oG 90 true (oM 94 (.bin .eql (.t 92) (.t 93))),oM 95 (.pick (.t 90) (.t 94) (.c (.bool false))),oV 96 95,oG 96 true (oM 97 (.call
 13 [])),oM 98 (.pick (.t 96) (.t 97) (.c (.bool false))),oV 2 98] .ret))))))))))))
theorem ok5:FnOk Try.prog 5 99 6 c5 [.t 2]:=⟨_,_,Try.func5,rfl,rfl,by kernel_rfl,by kernel_rfl⟩
theorem bd5:bodied Try.prog 5=true:=by kernel_rfl
def c6:CI:=(oR [oM 3 (.box 0 true (.t 0)),oM 4 (.box 1 true (.t 1)),oM 5 (.box 2 true (.t 2)),oM 6 (.mv (.c (.bool false)))] (.seq (oR [oW 18 7 3,oM 19 (.call 36 [(.t 18)]),oM 20 (.un .not (.t 19)),oV 21 20,oG 21 false (oW 22 7 3),oG 21 false (oW 23 2 4),oG 21 false (oM 24
 (.call 37 [(.t 22),(.t 23)])),oG 21 false (oM 25 (.un .not (.t 24))),oM 26 (.pick (.t 21) (.c (.bool true)) (.t 25)),oV 27 26,oG 27 false (oF 28 0
 5),oG 27 false (oL 29 28),oG 27 false (oM 30 (.bin .lss (.t 29) (oK 0))),oM 31 (.pick (.t 27) (.c (.bool true)) (.t 30)),oV 32 31,oG 32 false (oF
 33 0 5),oG 32 false (oL 34 33),oG 32 false (oF 35 0 3),oG 32 false (oL 36 35),oG 32 false (oM 37 (.bin .geq (.t 34) (.t 36))),oM 38 (.pick (.t 32)
 (.c (.bool true)) (.t 37))] (.cond (.t 38) (oR [oM 39 (.call 13 []),oV 6 39] .ret) .skip)) (oR [oW 41 7 3,oF 42 0 5,oL 43 42,oM 44
 (.callw 3 1 21 [(.t 41),(.t 43)]),oV 40 44,oX 45 0 40,oX 46 1 40,oV 7 45,oV 8 46] (oR [oW 48 7 3,oF 49 0 4,oL 50 49,oM 51 (.call 27 [(.t
 48),(.t 50)]),oV 47 51,oX 52 0 47,oX 53 1 47,oM 9 (.alloc 4 [(.int .i64 0),(.int .i64 0)]),oS (.store true 2 (.t 9) (.t 52) []),oV 10 53] (oR [oW 55 7 3,oF 56 0 4,oL 57 56,oM 58 (.call 29 [(.t 55),(.t 57)]),oV 54 58,oX 59 0 54,oX 60 1 54,oM 11 (.alloc 5 [(.int .i64 0),(.int .i64
 0)]),oS (.store true 2 (.t 11) (.t 59) []),oV 12 60] (oR [oW 62 7 3,oF 63 0 4,oL 64 63,oF 65 1 4,oL 66 65,oM 67 (.call 38 [(.t 62),(.t
 64),(.t 66)]),oV 61 67,oX 68 0 61,oX 69 1 61,oV 13 68,oV 14 69] (.seq (oR [oV 70 8,oM 71 (.bin .neq (.t 70) (oK 0)),oV 72 71,oG 72 false
 (oV 73 10),oG 72 false (oM 74 (.bin .neq (.t 73) (oK 0))),oM 75 (.pick (.t 72) (.c (.bool true)) (.t 74)),oV 76 75,oG 76 false (oV 77 12),oG 76 false
 (oM 78 (.bin .neq (.t 77) (oK 0))),oM 79 (.pick (.t 76) (.c (.bool true)) (.t 78)),oV 80 79,oG 80 false (oV 81 7),oG 80 false (oN 82 81),oG 80 false
 (oM 83 (.bin .gtr (.t 82) (oK 20))),oM 84 (.pick (.t 80) (.c (.bool true)) (.t 83)),oV 85 84,oG 85 false (oV 86 7),oG 85 false (oF 87 1 4),oG 85 false
 (oL 88 87),oG 85 false (oF 89 0 5),oG 85 false (oL 90 89),oG 85 false (oI 91 1 88 90),oG 85 false (oL 92 91),oG 85 false (oM 93 (.call 39 [(.t 86),
 (.t 92)])),oG 85 false (oM 94 (.un .not (.t 93))),oM 95 (.pick (.t 85) (.c (.bool true)) (.t 94)),oV 96 95,oG 96 false (oV 97 13),oG 96 false (oW
 98 2 9),oG 96 false (oM 99 (.call 40 [(.t 97),(.t 98)])),oG 96 false (oM 100 (.un .not (.t 99))),oM 101 (.pick (.t 96) (.c (.bool true)) (.t 100)),
 oV 102 101,oG 102 false (oV 103 14),oG 102 false (oW 104 2 11),oG 102 false (oM 105 (.call 40 [(.t 103),(.t 104)])),oG 102 false (oM 106 (.un .not
 (.t 105))),oM 107 (.pick (.t 102) (.c (.bool true)) (.t 106))] (.cond (.t 107) (oR [oM 6 (.mv (.c (.bool false)))] .ret) .skip)) (.seq (oR [oF 108 1 5,oL 109 108,oM 110 (.bin .lss (.t 109) (oK 0)),oV 111 110,oG 111 false (oF 112 1 5),oG 111 false (oL 113 112),oG 111 false (oF 114
 2 3),oG 111 false (oL 115 114),oG 111 false (oN 116 115),oG 111 false (oM 117 (.bin .geq (.t 113) (.t 116))),oM 118 (.pick (.t 111) (.c (.bool true))
 (.t 117))] (.cond (.t 118) (oR [oM 119 (.call 13 []),oV 6 119] .ret) .skip)) (oR [oW 121 7 3,oF 122 1 5,oL 123 122,oM 124 (.call
 23 [(.t 121),(.t 123)]),oV 120 124,oX 125 0 120,oX 126 1 120,oV 15 125,oV 16 126] (oR [oF 127 2 3,oL 128 127,oF 129 1 5,oL 130 129,oI
 131 3 128 130,oW 132 3 131,oF 133 1 4,oL 134 133,oM 135 (.call 41 [(.t 132),(.t 134)]),oV 17 135] (oR [oV 136 16,oM 137 (.bin .eql (.t
 136) (oK 0)),oV 138 137,oG 138 true (oV 139 15),oG 138 true (oM 140 (.bin .eql (.t 139) (oK 3))),oG 138 true (oV 141 140),oG 141 false (oV 142 15),
 oG 141 false (oM 143 (.bin .eql (.t 142) (oK 1))),oG 141 false (oV 144 143),oG 144 true (oV 145 17),oG 141 false (oM 146 (.pick (.t 144) (.t 145) (.c
 (.bool false)))),oG 138 true (oM 147 (.pick (.t 141) (.c (.bool true)) (.t 146))),oG 138 true (oV 148 147),oG 148 false (oV 149 15),oG 148 false (oM
 150 (.bin .eql (.t 149) (oK 2))),oG 148 false (oV 151 150),oG 151 true (oV 152 17),oG 151 true (oM 153 (.un .not (.t 152))),oG 148 false (oM 154 (.pick
 (.t 151) (.t 153) (.c (.bool false)))),oG 138 true (oM 155 (.pick (.t 148) (.c (.bool true)) (.t 154))),oM 156 (.pick (.t 138) (.t 155) (.c (.bool false))),
 oV 157 156,oG 157 true (oM 158 (.call 13 [])),oM 159 (.pick (.t 157) (.t 158) (.c (.bool false))),oV 6 159] .ret)))))))))))
theorem ok6:FnOk Try.prog 6 160 6 c6 [.t 6]:=⟨_,_,Try.func6,rfl,rfl,by kernel_rfl,by kernel_rfl⟩
theorem bd6:bodied Try.prog 6=true:=by kernel_rfl
def c7:CI:=(oR [oM 2 (.box 0 true (.t 0)),oM 4 (.mv (.c (.bool false)))] (.seq (oR [oW 15 7 2,oM 16 (.call 36 [(.t 15)]),oM 17
 (.un .not (.t 16)),oV 18 17,oG 18 false (oV 19 1),oG 18 false (oN 20 19),oG 18 false (oM 21 (.bin .gtr (.t 20) (oK 20))),oM 22 (.pick (.t 18) (.c
 (.bool true)) (.t 21)),oV 23 22,oG 23 false (oW 24 7 2),oG 23 false (oV 25 1),oG 23 false (oM 26 (.call 42 [(.t 24),(.t 25)])),oG 23 false (oM 27
 (.un .not (.t 26))),oM 28 (.pick (.t 23) (.c (.bool true)) (.t 27))] (.cond (.t 28) (oR [oM 29 (.call 13 []),oV 4 29] .ret) .skip)) (oR [oW 31 7 2,oM 32 (.call 31 [(.t 31)]),oV 30 32,oX 33 0 30,oX 34 1 30,oV 5 33,oV 6 34] (oR [oW 36 7 2,oM 37 (.call 33 [(.t 36)]),oV 35
 37,oX 38 0 35,oX 39 1 35,oV 7 38,oV 8 39] (oR [oW 41 7 2,oM 42 (.callw 1 1 35 [(.t 41)]),oV 40 42,oX 43 0 40,oX 44 1 40,oV 9 43,oV 10
 44] (oR [oW 46 7 2,oV 47 1,oM 48 (.call 27 [(.t 46),(.t 47)]),oV 45 48,oX 49 0 45,oX 50 1 45,oM 11 (.alloc 2 [(.int .i64 0),(.int .i64
 0)]),oS (.store true 2 (.t 11) (.t 49) []),oV 12 50] (.seq (oR [oV 51 6,oM 52 (.call 43 [(.t 51)]),oM 53 (.un .not (.t 52)),oV 54 53,oG
 54 false (oV 55 8),oG 54 false (oV 56 6),oG 54 false (oM 57 (.bin .neq (.t 55) (.t 56))),oM 58 (.pick (.t 54) (.c (.bool true)) (.t 57)),oV 59 58,
 oG 59 false (oV 60 10),oG 59 false (oV 61 6),oG 59 false (oM 62 (.bin .neq (.t 60) (.t 61))),oM 63 (.pick (.t 59) (.c (.bool true)) (.t 62)),oV 64
 63,oG 64 false (oV 65 12),oG 64 false (oV 66 6),oG 64 false (oM 67 (.bin .neq (.t 65) (.t 66))),oM 68 (.pick (.t 64) (.c (.bool true)) (.t 67))] (.cond
 (.t 68) (oR [oM 4 (.mv (.c (.bool false)))] .ret) .skip)) (.seq (oR [oV 69 6,oM 70 (.bin .neq (.t 69) (oK 0))] (.cond (.t 70) (oR [oM 71 (.call 13 []),oV 4 71] .ret) .skip)) (.seq (oR [oV 72 9,oN 73 72,oM 74 (.bin .gtr (.t 73) (oK 20)),oV 75 74,oG 75 false (oW
 76 7 2),oG 75 false (oV 77 9),oG 75 false (oM 78 (.call 42 [(.t 76),(.t 77)])),oG 75 false (oM 79 (.un .not (.t 78))),oM 80 (.pick (.t 75) (.c (.bool
 true)) (.t 79)),oV 81 80,oG 81 false (oF 82 0 11),oG 81 false (oL 83 82),oG 81 false (oV 84 5),oG 81 false (oM 85 (.bin .gtr (.t 83) (.t 84))),oM
 86 (.pick (.t 81) (.c (.bool true)) (.t 85)),oV 87 86,oG 87 false (oF 88 1 11),oG 87 false (oL 89 88),oG 87 false (oV 90 7),oG 87 false (oM 91 (.bin
 .gtr (.t 89) (.t 90))),oM 92 (.pick (.t 87) (.c (.bool true)) (.t 91)),oV 93 92,oG 93 false (oV 94 5),oG 93 false (oV 95 7),oG 93 false (oM 96 (.bin
 .gtr (.t 94) (.t 95))),oM 97 (.pick (.t 93) (.c (.bool true)) (.t 96))] (.cond (.t 97) (oR [oM 4 (.mv (.c (.bool false)))] .ret) .skip)) (oR [oW 99 7 2,oV 100 9,oM 101 (.call 27 [(.t 99),(.t 100)]),oV 98 101,oX 102 0 98,oX 103 1 98,oM 13 (.alloc 3 [(.int .i64 0),(.int .i64 0)]),
 oS (.store true 2 (.t 13) (.t 102) []),oV 14 103] (oR [oV 104 14,oM 105 (.bin .eql (.t 104) (oK 0)),oV 106 105,oG 106 true (oF 107 0 13),
 oG 106 true (oL 108 107),oG 106 true (oV 109 5),oG 106 true (oM 110 (.bin .eql (.t 108) (.t 109))),oM 111 (.pick (.t 106) (.t 110) (.c (.bool false))),
 oV 112 111,oG 112 true (oM 113 (.call 13 [])),oM 114 (.pick (.t 112) (.t 113) (.c (.bool false))),oV 4 114] .ret)))))))))))
theorem ok7:FnOk Try.prog 7 115 4 c7 [.t 4]:=⟨_,_,Try.func7,rfl,rfl,by kernel_rfl,by kernel_rfl⟩
theorem bd7:bodied Try.prog 7=true:=by kernel_rfl
def c8:CI:=(oR [oM 3 (.box 0 true (.t 0)),oM 4 (.box 1 true (.t 1)),oM 6 (.mv (.c (.bool false)))] (.seq (oR [oW 10 7 3,oM 11 (.call
 36 [(.t 10)]),oM 12 (.un .not (.t 11)),oV 13 12,oG 13 false (oF 14 2 3),oG 13 false (oL 15 14),oG 13 false (oN 16 15),oG 13 false (oM 17 (.bin .geq
 (.t 16) (oK 10))),oM 18 (.pick (.t 13) (.c (.bool true)) (.t 17)),oV 19 18,oG 19 false (oV 20 2),oG 19 false (oN 21 20),oG 19 false (oM 22 (.bin .gtr
 (.t 21) (oK 20))),oM 23 (.pick (.t 19) (.c (.bool true)) (.t 22)),oV 24 23,oG 24 false (oW 25 7 3),oG 24 false (oV 26 2),oG 24 false (oM 27 (.call
 42 [(.t 25),(.t 26)])),oG 24 false (oM 28 (.un .not (.t 27))),oM 29 (.pick (.t 24) (.c (.bool true)) (.t 28))] (.cond (.t 29) (oR [oM 30 (.call
 13 []),oV 6 30] .ret) .skip)) (oR [oW 31 7 3,oW 33 7 3,oW 35 7 3,oM 7 (.alloc 8 [(.int .i64 0),(.int .i64 0), .nils,(.int .i64 0), .nils,
 (.int .i64 0),(.int .i64 0)]),oM 8 (.alloc 9 [(.int .i64 0),(.int .i64 0), .nils,(.int .i64 0), .nils,(.int .i64 0),(.int .i64 0)]),oM 9 (.alloc
 10 [(.int .i64 0),(.int .i64 0), .nils,(.int .i64 0), .nils,(.int .i64 0),(.int .i64 0)]),oM 32 (.callz 2 2 14 [(.t 31)] []),oM 34 (.callz 4 2 14
 [(.t 33)] []),oM 36 (.callz 6 2 14 [(.t 35)] []),oS (.stz true 7 (.t 7) (.t 32) []),oS (.stz true 7 (.t 8) (.t 34) []),oS (.stz true 7 (.t 9) (.t 36)
 [])] (oR [oF 37 2 7,oL 38 37,oW 39 3 4,oM 40 (.bsl 11 57 3 [(.t 39)] []),oM 41 (.apd 12 57 3 24 (.t 38) (.t 40) []),oF 42 2 7,oS (.stz false
 1 (.t 42) (.t 41) [])] (oR [oF 43 3 3,oL 44 43,oM 45 (.bin .add (.t 44) (oK 1)),oM 46 (.mm false [(oK 10),(.t 45)]),oF 47 1 3,oL 48 47,
 oM 49 (.bin .add (.t 48) (oK 1)),oM 50 (.mm false [(oK 3),(.t 49)]),oF 51 3 8,oS (.store false 1 (.t 51) (.t 46) [(.t 47)]),oF 52 1 9,oS (.store
 false 1 (.t 52) (.t 50) [])] (.seq (oR [oW 53 7 7,oM 54 (.call 36 [(.t 53)]),oM 55 (.un .not (.t 54))] (.cond (.t 55) (oR [oM 56 (.call
 13 []),oV 6 56] .ret) .skip)) (oR [oW 57 7 7,oW 58 7 3,oV 59 2,oM 60 (.call 44 [(.t 57),(.t 58),(.t 59)]),oV 61 60,oG 61 true (oW 62 7
 3),oG 61 true (oW 63 7 8),oG 61 true (oV 64 2),oG 61 true (oM 65 (.call 44 [(.t 62),(.t 63),(.t 64)])),oM 66 (.pick (.t 61) (.t 65) (.c (.bool false))),
 oV 67 66,oG 67 true (oW 68 7 3),oG 67 true (oW 69 7 9),oG 67 true (oV 70 2),oG 67 true (oM 71 (.call 44 [(.t 68),(.t 69),(.t 70)])),oM 72 (.pick
 (.t 67) (.t 71) (.c (.bool false))),oV 73 72,oG 73 true (oM 74 (.call 13 [])),oM 75 (.pick (.t 73) (.t 74) (.c (.bool false))),oV 6 75] .ret)))))))
theorem ok8:FnOk Try.prog 8 76 13 c8 [.t 6]:=⟨_,_,Try.func8,rfl,rfl,by kernel_rfl,by kernel_rfl⟩
theorem bd8:bodied Try.prog 8=true:=by kernel_rfl
def c9:CI:=(oR [oM 3 (.box 0 true (.t 0)),oM 6 (.mv (.c (.bool false)))] (.seq (oR [oW 29 7 3,oM 30 (.call 36 [(.t 29)]),oM 31
 (.un .not (.t 30)),oV 32 31,oG 32 false (oV 33 1),oG 32 false (oM 34 (.bin .lss (.t 33) (oK 0))),oM 35 (.pick (.t 32) (.c (.bool true)) (.t 34)),oV
 36 35,oG 36 false (oV 37 1),oG 36 false (oM 38 (.bin .gtr (.t 37) (oK 999))),oM 39 (.pick (.t 36) (.c (.bool true)) (.t 38)),oV 40 39,oG 40 false
 (oV 41 2),oG 40 false (oN 42 41),oG 40 false (oM 43 (.bin .gtr (.t 42) (oK 20))),oM 44 (.pick (.t 40) (.c (.bool true)) (.t 43)),oV 45 44,oG 45 false
 (oW 46 7 3),oG 45 false (oV 47 2),oG 45 false (oM 48 (.call 42 [(.t 46),(.t 47)])),oG 45 false (oM 49 (.un .not (.t 48))),oM 50 (.pick (.t 45) (.c
 (.bool true)) (.t 49))] (.cond (.t 50) (oR [oM 51 (.call 13 []),oV 6 51] .ret) .skip)) (oR [oW 52 7 3,oW 54 7 3,oM 7 (.alloc 5 [(.int
 .i64 0),(.int .i64 0), .nils,(.int .i64 0), .nils,(.int .i64 0),(.int .i64 0)]),oM 8 (.alloc 6 [(.int .i64 0),(.int .i64 0), .nils,(.int .i64 0),
 .nils,(.int .i64 0),(.int .i64 0)]),oM 53 (.callz 1 2 14 [(.t 52)] []),oM 55 (.callz 3 2 14 [(.t 54)] []),oS (.stz true 7 (.t 7) (.t 53) []),oS (.stz
 true 7 (.t 8) (.t 55) [])] (oR [oF 56 6 3,oL 57 56,oV 58 1,oM 59 (.bin .add (.t 57) (.t 58)),oM 60 (.mm false [(oK 999),(.t 59)]),oF 61
 5 3,oL 62 61,oM 63 (.bin .add (.t 62) (oK 1)),oM 64 (.mm false [(oK 4),(.t 63)]),oF 65 6 7,oS (.store false 1 (.t 65) (.t 60) [(.t 61)]),oF 66 5
 8,oS (.store false 1 (.t 66) (.t 64) [])] (oR [oW 68 7 3,oM 69 (.call 31 [(.t 68)]),oV 67 69,oX 70 0 67,oX 71 1 67,oV 9 70,oV 10 71] (oR [oW 73 7 3,oM 74 (.call 33 [(.t 73)]),oV 72 74,oX 75 0 72,oX 76 1 72,oV 11 75,oV 12 76] (.seq (oR [oV 77 10,oM 78 (.call 43 [(.t
 77)]),oM 79 (.un .not (.t 78)),oV 80 79,oG 80 false (oV 81 10),oG 80 false (oV 82 12),oG 80 false (oM 83 (.bin .neq (.t 81) (.t 82))),oM 84 (.pick
 (.t 80) (.c (.bool true)) (.t 83))] (.cond (.t 84) (oR [oM 6 (.mv (.c (.bool false)))] .ret) .skip)) (.seq (oR [oV 85 10,oM 86 (.bin
 .neq (.t 85) (oK 0))] (.cond (.t 86) (oR [oM 87 (.call 13 []),oV 6 87] .ret) .skip)) (oR [oW 89 7 7,oM 90 (.call 31 [(.t 89)]),oV
 88 90,oX 91 0 88,oX 92 1 88,oV 13 91,oV 14 92] (oR [oW 94 7 7,oM 95 (.call 33 [(.t 94)]),oV 93 95,oX 96 0 93,oX 97 1 93,oV 15 96,oV
 16 97] (oR [oW 99 7 8,oM 100 (.call 31 [(.t 99)]),oV 98 100,oX 101 0 98,oX 102 1 98,oV 17 101,oV 18 102] (oR [oW 104 7 8,oM 105
 (.call 33 [(.t 104)]),oV 103 105,oX 106 0 103,oX 107 1 103,oV 19 106,oV 20 107] (oR [oW 109 7 3,oV 110 2,oM 111 (.call 27 [(.t 109),(.t
 110)]),oV 108 111,oX 112 0 108,oX 113 1 108,oM 21 (.alloc 7 [(.int .i64 0),(.int .i64 0)]),oS (.store true 2 (.t 21) (.t 112) []),oV 22 113] (oR [oW 115 7 7,oV 116 2,oM 117 (.call 27 [(.t 115),(.t 116)]),oV 114 117,oX 118 0 114,oX 119 1 114,oM 23 (.alloc 8 [(.int .i64 0),(.int .i64
 0)]),oS (.store true 2 (.t 23) (.t 118) []),oV 24 119] (oR [oW 121 7 3,oV 122 2,oM 123 (.call 29 [(.t 121),(.t 122)]),oV 120 123,oX 124
 0 120,oX 125 1 120,oM 25 (.alloc 9 [(.int .i64 0),(.int .i64 0)]),oS (.store true 2 (.t 25) (.t 124) []),oV 26 125] (oR [oW 127 7 7,oV 128
 2,oM 129 (.call 29 [(.t 127),(.t 128)]),oV 126 129,oX 130 0 126,oX 131 1 126,oM 27 (.alloc 10 [(.int .i64 0),(.int .i64 0)]),oS (.store true 2
 (.t 27) (.t 130) []),oV 28 131] (oR [oV 132 14,oM 133 (.bin .eql (.t 132) (oK 0)),oV 134 133,oG 134 true (oV 135 16),oG 134 true (oM 136
 (.bin .eql (.t 135) (oK 0))),oM 137 (.pick (.t 134) (.t 136) (.c (.bool false))),oV 138 137,oG 138 true (oV 139 18),oG 138 true (oM 140 (.bin .eql
 (.t 139) (oK 0))),oM 141 (.pick (.t 138) (.t 140) (.c (.bool false))),oV 142 141,oG 142 true (oV 143 20),oG 142 true (oM 144 (.bin .eql (.t 143) (oK
 0))),oM 145 (.pick (.t 142) (.t 144) (.c (.bool false))),oV 146 145,oG 146 true (oV 147 22),oG 146 true (oM 148 (.bin .eql (.t 147) (oK 0))),oM 149
 (.pick (.t 146) (.t 148) (.c (.bool false))),oV 150 149,oG 150 true (oV 151 24),oG 150 true (oM 152 (.bin .eql (.t 151) (oK 0))),oM 153 (.pick (.t
 150) (.t 152) (.c (.bool false))),oV 154 153,oG 154 true (oV 155 26),oG 154 true (oM 156 (.bin .eql (.t 155) (oK 0))),oM 157 (.pick (.t 154) (.t 156)
 (.c (.bool false))),oV 158 157,oG 158 true (oV 159 28),oG 158 true (oM 160 (.bin .eql (.t 159) (oK 0))),oM 161 (.pick (.t 158) (.t 160) (.c (.bool
 false))),oV 162 161,oG 162 true (oV 163 13),oG 162 true (oV 164 9),oG 162 true (oM 165 (.bin .geq (.t 163) (.t 164))),oM 166 (.pick (.t 162) (.t 165)
 (.c (.bool false))),oV 167 166,oG 167 true (oV 168 15),oG 167 true (oV 169 11),oG 167 true (oM 170 (.bin .geq (.t 168) (.t 169))),oM 171 (.pick (.t
 167) (.t 170) (.c (.bool false))),oV 172 171,oG 172 true (oV 173 17),oG 172 true (oV 174 9),oG 172 true (oM 175 (.bin .geq (.t 173) (.t 174))),oM
 176 (.pick (.t 172) (.t 175) (.c (.bool false))),oV 177 176,oG 177 true (oV 178 19),oG 177 true (oV 179 11),oG 177 true (oM 180 (.bin .geq (.t 178)
 (.t 179))),oM 181 (.pick (.t 177) (.t 180) (.c (.bool false))),oV 182 181,oG 182 true (oF 183 0 23),oG 182 true (oL 184 183),oG 182 true (oF 185 0
 21),oG 182 true (oL 186 185),oG 182 true (oM 187 (.bin .geq (.t 184) (.t 186))),oM 188 (.pick (.t 182) (.t 187) (.c (.bool false))),oV 189 188,oG
 189 true (oF 190 1 23),oG 189 true (oL 191 190),oG 189 true (oF 192 1 21),oG 189 true (oL 193 192),oG 189 true (oM 194 (.bin .geq (.t 191) (.t 193))),
 oM 195 (.pick (.t 189) (.t 194) (.c (.bool false))),oV 196 195,oG 196 true (oF 197 0 27),oG 196 true (oL 198 197),oG 196 true (oF 199 0 25),oG 196
 true (oL 200 199),oG 196 true (oM 201 (.bin .geq (.t 198) (.t 200))),oM 202 (.pick (.t 196) (.t 201) (.c (.bool false))),oV 203 202,oG 203 true (oF
 204 1 27),oG 203 true (oL 205 204),oG 203 true (oF 206 1 25),oG 203 true (oL 207 206),oG 203 true (oM 208 (.bin .geq (.t 205) (.t 207))),oM 209 (.pick
 (.t 203) (.t 208) (.c (.bool false))),oV 210 209,oG 210 true (oM 211 (.call 13 [])),oM 212 (.pick (.t 210) (.t 211) (.c (.bool false))),oV 6 212]
 .ret)))))))))))))))))
theorem ok9:FnOk Try.prog 9 213 11 c9 [.t 6]:=⟨_,_,Try.func9,rfl,rfl,by kernel_rfl,by kernel_rfl⟩
theorem bd9:bodied Try.prog 9=true:=by kernel_rfl
def c10:CI:=(oR [oM 2 (.box 0 true (.t 0)),oM 4 (.mv (.c (.bool false)))] (.seq (oR [oW 13 7 2,oM 14 (.call 36 [(.t 13)]),oM 15
 (.un .not (.t 14)),oV 16 15,oG 16 false (oV 17 1),oG 16 false (oN 18 17),oG 16 false (oM 19 (.bin .gtr (.t 18) (oK 20))),oM 20 (.pick (.t 16) (.c
 (.bool true)) (.t 19)),oV 21 20,oG 21 false (oW 22 7 2),oG 21 false (oV 23 1),oG 21 false (oM 24 (.call 42 [(.t 22),(.t 23)])),oG 21 false (oM 25
 (.un .not (.t 24))),oM 26 (.pick (.t 21) (.c (.bool true)) (.t 25))] (.cond (.t 26) (oR [oM 27 (.call 13 []),oV 4 27] .ret) .skip)) (oR [oW 28 7 2,oM 29 (.callw 1 2 14 [(.t 28)]),oM 5 (.alloc 3 [(.int .i64 0),(.int .i64 0), .nils,(.int .i64 0), .nils,(.int .i64 0),(.int .i64 0)]),
 oS (.stz true 7 (.t 5) (.t 29) [])] (.seq (oR [oM 6 (.mv (oK 0))] (.block 0 (.loop (.seq (oR [oV 30 6,oF 31 4 5,oL 32 31,oN 33 32,
 oM 34 (.bin .lss (.t 30) (.t 33))] (.cond (.t 34) .skip (.exit 0))) (.seq (.block 1 (.reg [oF 37 4 5,oL 38 37,oV 39 6,oI 40 2 38 39,oF 41 0 40,oS
 (.store false 1 (.t 41) (oK 1) [])])) (.reg [oV 35 6,oM 36 (.bin .add (.t 35) (oK 1)),oV 6 36])))))) (oR [oW 43 7 5,oV 44 1,oM 45 (.call 27
 [(.t 43),(.t 44)]),oV 42 45,oX 46 0 42,oX 47 1 42,oM 7 (.alloc 4 [(.int .i64 0),(.int .i64 0)]),oS (.store true 2 (.t 7) (.t 46) []),oV 8 47]
 (oR [oW 49 7 5,oV 50 1,oM 51 (.call 29 [(.t 49),(.t 50)]),oV 48 51,oX 52 0 48,oX 53 1 48,oM 9 (.alloc 5 [(.int .i64 0),(.int .i64 0)]),
 oS (.store true 2 (.t 9) (.t 52) []),oV 10 53] (oR [oW 55 7 2,oV 56 1,oM 57 (.call 29 [(.t 55),(.t 56)]),oV 54 57,oX 58 0 54,oX 59 1 54,
 oM 11 (.alloc 6 [(.int .i64 0),(.int .i64 0)]),oS (.store true 2 (.t 11) (.t 58) []),oV 12 59] (.seq (oR [oV 60 8,oM 61 (.call 43 [(.t 60)]),
 oM 62 (.un .not (.t 61)),oV 63 62,oG 63 false (oV 64 8),oG 63 false (oV 65 10),oG 63 false (oM 66 (.bin .neq (.t 64) (.t 65))),oM 67 (.pick (.t 63)
 (.c (.bool true)) (.t 66)),oV 68 67,oG 68 false (oV 69 8),oG 68 false (oV 70 12),oG 68 false (oM 71 (.bin .neq (.t 69) (.t 70))),oM 72 (.pick (.t
 68) (.c (.bool true)) (.t 71))] (.cond (.t 72) (oR [oM 4 (.mv (.c (.bool false)))] .ret) .skip)) (oR [oV 73 8,oM 74 (.bin .neq (.t 73)
 (oK 0)),oV 75 74,oG 75 false (oF 76 0 7),oG 75 false (oL 77 76),oG 75 false (oF 78 1 9),oG 75 false (oL 79 78),oG 75 false (oM 80 (.bin .add (.t
 77) (.t 79))),oG 75 false (oF 81 6 2),oG 75 false (oL 82 81),oG 75 false (oM 83 (.bin .eql (.t 80) (.t 82))),oG 75 false (oV 84 83),oG 84 true (oF
 85 1 7),oG 84 true (oL 86 85),oG 84 true (oF 87 0 9),oG 84 true (oL 88 87),oG 84 true (oM 89 (.bin .add (.t 86) (.t 88))),oG 84 true (oF 90 6 2),
 oG 84 true (oL 91 90),oG 84 true (oM 92 (.bin .eql (.t 89) (.t 91))),oG 75 false (oM 93 (.pick (.t 84) (.t 92) (.c (.bool false)))),oG 75 false (oV
 94 93),oG 94 true (oW 95 2 9),oG 94 true (oW 96 2 11),oG 94 true (oM 97 (.eqs false (.node [(0,1,(.leaf true)),(1,1,(.leaf true))]) (.t 95) (.t
 96))),oG 75 false (oM 98 (.pick (.t 94) (.t 97) (.c (.bool false)))),oG 75 false (oV 99 98),oG 99 true (oF 100 0 9),oG 99 true (oL 101 100),oG 99
 true (oM 102 (.bin .geq (.t 101) (oK 0))),oG 75 false (oM 103 (.pick (.t 99) (.t 102) (.c (.bool false)))),oM 104 (.pick (.t 75) (.c (.bool true)) (.t
 103)),oV 105 104,oG 105 true (oM 106 (.call 13 [])),oM 107 (.pick (.t 105) (.t 106) (.c (.bool false))),oV 4 107] .ret)))))))))
theorem ok10:FnOk Try.prog 10 108 7 c10 [.t 4]:=⟨_,_,Try.func10,rfl,rfl,by kernel_rfl,by kernel_rfl⟩
theorem bd10:bodied Try.prog 10=true:=by kernel_rfl
def c11:CI:=(oR [oM 2 (.box 0 true (.t 0)),oM 4 (.mv (.c (.bool false)))] (.seq (oR [oW 19 7 2,oM 20 (.call 36 [(.t 19)]),oM 21
 (.un .not (.t 20)),oV 22 21,oG 22 false (oV 23 1),oG 22 false (oM 24 (.bin .lss (.t 23) (oK 0))),oM 25 (.pick (.t 22) (.c (.bool true)) (.t 24)),oV
 26 25,oG 26 false (oV 27 1),oG 26 false (oM 28 (.bin .gtr (.t 27) (oK 100))),oM 29 (.pick (.t 26) (.c (.bool true)) (.t 28))] (.cond (.t 29) (oR [oM 30 (.call 13 []),oV 4 30] .ret) .skip)) (oR [oW 32 7 2,oM 33 (.call 17 [(.t 32)]),oV 31 33,oX 34 0 31,oX 35 1 31,oV 5 34,oV 6
 35] (oR [oW 37 7 2,oM 38 (.call 19 [(.t 37)]),oV 36 38,oX 39 0 36,oX 40 1 36,oV 7 39,oV 8 40] (.seq (oR [oV 41 6,oM 42 (.bin .neq
 (.t 41) (oK 0)),oV 43 42,oG 43 false (oV 44 5),oG 43 false (oM 45 (.bin .lss (.t 44) (oK 0))),oM 46 (.pick (.t 43) (.c (.bool true)) (.t 45)),oV 47
 46,oG 47 false (oV 48 5),oG 47 false (oF 49 2 2),oG 47 false (oL 50 49),oG 47 false (oN 51 50),oG 47 false (oM 52 (.bin .gtr (.t 48) (.t 51))),oM
 53 (.pick (.t 47) (.c (.bool true)) (.t 52)),oV 54 53,oG 54 false (oV 55 8),oG 54 false (oM 56 (.call 43 [(.t 55)])),oG 54 false (oM 57 (.un .not (.t
 56))),oM 58 (.pick (.t 54) (.c (.bool true)) (.t 57)),oV 59 58,oG 59 false (oV 60 8),oG 59 false (oM 61 (.bin .eql (.t 60) (oK 0))),oG 59 false (oV
 62 5),oG 59 false (oF 63 3 2),oG 59 false (oL 64 63),oG 59 false (oM 65 (.bin .leq (.t 62) (.t 64))),oG 59 false (oM 66 (.eqb true (.t 61) (.t 65))),
 oM 67 (.pick (.t 59) (.c (.bool true)) (.t 66)),oV 68 67,oG 68 false (oV 69 8),oG 68 false (oM 70 (.bin .eql (.t 69) (oK 0))),oG 68 false (oV 71 70),
 oG 71 true (oV 72 7),oG 71 true (oM 73 (.bin .lss (.t 72) (oK 1))),oG 68 false (oM 74 (.pick (.t 71) (.t 73) (.c (.bool false)))),oM 75 (.pick (.t 68)
 (.c (.bool true)) (.t 74))] (.cond (.t 75) (oR [oM 4 (.mv (.c (.bool false)))] .ret) .skip)) (oR [oW 76 7 2,oM 77 (.callw 1 2 14 [(.t
 76)]),oM 9 (.alloc 3 [(.int .i64 0),(.int .i64 0), .nils,(.int .i64 0), .nils,(.int .i64 0),(.int .i64 0)]),oS (.stz true 7 (.t 9) (.t 77) [])]
 (.seq (oR [oM 10 (.mv (oK 0))] (.block 0 (.loop (.seq (oR [oV 78 10,oF 79 2 2,oL 80 79,oN 81 80,oM 82 (.bin .lss (.t 78) (.t 81))]
 (.cond (.t 82) .skip (.exit 0))) (.seq (.block 1 (.reg [oF 85 2 9,oL 86 85,oV 87 10,oF 88 2 2,oL 89 88,oV 90 10,oV 91 1,oM 92 (.bin .add (.t 90)
 (.t 91)),oF 93 2 2,oL 94 93,oN 95 94,oM 96 (.bin .rem (.t 92) (.t 95)),oI 97 3 89 96,oW 98 3 97,oI 99 3 86 87,oS (.store true 3 (.t 99) (.t 98)
 [])])) (.reg [oV 83 10,oM 84 (.bin .add (.t 83) (oK 1)),oV 10 84])))))) (oR [oW 101 7 9,oM 102 (.call 17 [(.t 101)]),oV 100 102,oX 103 0 100,
 oX 104 1 100,oV 11 103,oV 12 104] (oR [oW 106 7 9,oM 107 (.call 19 [(.t 106)]),oV 105 107,oX 108 0 105,oX 109 1 105,oV 13 108,oV 14 109]
 (oR [oW 111 7 2,oM 112 (.call 31 [(.t 111)]),oV 110 112,oX 113 0 110,oX 114 1 110,oV 15 113,oV 16 114] (oR [oW 116 7 9,oM 117 (.call
 31 [(.t 116)]),oV 115 117,oX 118 0 115,oX 119 1 115,oV 17 118,oV 18 119] (oR [oV 120 11,oV 121 5,oM 122 (.bin .eql (.t 120) (.t 121)),
 oV 123 122,oG 123 true (oV 124 12),oG 123 true (oM 125 (.bin .eql (.t 124) (oK 0))),oM 126 (.pick (.t 123) (.t 125) (.c (.bool false))),oV 127 126,
 oG 127 true (oV 128 13),oG 127 true (oV 129 7),oG 127 true (oM 130 (.bin .eql (.t 128) (.t 129))),oM 131 (.pick (.t 127) (.t 130) (.c (.bool false))),
 oV 132 131,oG 132 true (oV 133 14),oG 132 true (oV 134 8),oG 132 true (oM 135 (.bin .eql (.t 133) (.t 134))),oM 136 (.pick (.t 132) (.t 135) (.c (.bool
 false))),oV 137 136,oG 137 true (oV 138 15),oG 137 true (oV 139 17),oG 137 true (oM 140 (.bin .eql (.t 138) (.t 139))),oM 141 (.pick (.t 137) (.t
 140) (.c (.bool false))),oV 142 141,oG 142 true (oV 143 16),oG 142 true (oV 144 18),oG 142 true (oM 145 (.bin .eql (.t 143) (.t 144))),oM 146 (.pick
 (.t 142) (.t 145) (.c (.bool false))),oV 147 146,oG 147 true (oM 148 (.call 13 [])),oM 149 (.pick (.t 147) (.t 148) (.c (.bool false))),oV 4 149]
 .ret))))))))))))
theorem ok11:FnOk Try.prog 11 150 4 c11 [.t 4]:=⟨_,_,Try.func11,rfl,rfl,by kernel_rfl,by kernel_rfl⟩
theorem bd11:bodied Try.prog 11=true:=by kernel_rfl
def c12:CI:=(oR [oM 1 (.box 0 true (.t 0)),oM 2 (.mv (.c (.bool false)))] (.seq (oR [oF 4 2 1,oL 5 4,oN 6 5,oM 7 (.bin .gtr (.t
 6) (oK 40)),oV 8 7,oG 8 false (oF 9 4 1),oG 8 false (oL 10 9),oG 8 false (oN 11 10),oG 8 false (oM 12 (.bin .gtr (.t 11) (oK 20))),oM 13 (.pick (.t
 8) (.c (.bool true)) (.t 12))] (.cond (.t 13) (oR [oM 2 (.mv (.c (.bool true)))] .ret) .skip)) (.seq (oR [oM 3 (.mv (oK 0))] (.block
 0 (.loop (.seq (oR [oV 14 3,oF 15 4 1,oL 16 15,oN 17 16,oM 18 (.bin .lss (.t 14) (.t 17))] (.cond (.t 18) .skip (.exit 0))) (.seq (.block
 1 (oR [oF 21 4 1,oL 22 21,oV 23 3,oI 24 2 22 23,oF 25 1 24,oL 26 25,oN 27 26,oM 28 (.bin .gtr (.t 27) (oK 20))] (.cond (.t 28) (oR [oM 2 (.mv (.c (.bool true)))] .ret) .skip))) (.reg [oV 19 3,oM 20 (.bin .add (.t 19) (oK 1)),oV 3 20])))))) (oR [oW 29 7 1,oM 30 (.call 16
 [(.t 29)]),oM 31 (.bin .eql (.t 30) (oK 0)),oV 32 31,oG 32 true (oF 33 0 1),oG 32 true (oL 34 33),oG 32 true (oM 35 (.bin .gtr (.t 34) (oK 4))),oG
 32 true (oV 36 35),oG 36 false (oF 37 4 1),oG 36 false (oL 38 37),oG 36 false (oN 39 38),oG 36 false (oM 40 (.bin .gtr (.t 39) (oK 3))),oG 32 true
 (oM 41 (.pick (.t 36) (.c (.bool true)) (.t 40))),oM 42 (.pick (.t 32) (.t 41) (.c (.bool false))),oV 2 42] .ret))))
theorem ok12:FnOk Try.prog 12 43 1 c12 [.t 2]:=⟨_,_,Try.func12,rfl,rfl,by kernel_rfl,by kernel_rfl⟩
theorem bd12:bodied Try.prog 12=true:=by kernel_rfl
def c13:CI:=(oR [oM 0 (.mv (.c (.bool false)))] (oR [oM 10 (.callw 0 2 45 []),oM 1 (.alloc 2 [(.int .i64 0),(.int .i64 0), .nils,
 (.int .i64 0), .nils,(.int .i64 0),(.int .i64 0)]),oS (.stz true 7 (.t 1) (.t 10) [])] (oR [oW 12 7 1,oM 13 (.call 19 [(.t 12)]),oV 11 13,
 oX 14 0 11,oX 15 1 11,oV 2 14,oV 3 15] (oR [oW 17 7 1,oM 18 (.bsl 3 3 1 [(oK 1),(oK 1),(oK 2)] []),oM 19 (.call 27 [(.t 17),(.t 18)]),
 oV 16 19,oX 20 0 16,oX 21 1 16,oM 4 (.alloc 4 [(.int .i64 0),(.int .i64 0)]),oS (.store true 2 (.t 4) (.t 20) []),oV 5 21] (oR [oW 23 7
 1,oM 24 (.call 31 [(.t 23)]),oV 22 24,oX 25 0 22,oX 26 1 22,oV 6 25,oV 7 26] (oR [oW 28 7 1,oM 29 (.callw 5 1 21 [(.t 28),(oK 2)]),oV
 27 29,oX 30 0 27,oX 31 1 27,oV 8 30,oV 9 31] (oR [oV 32 3,oM 33 (.bin .eql (.t 32) (oK 0)),oV 34 33,oG 34 true (oV 35 5),oG 34 true (oM
 36 (.bin .eql (.t 35) (oK 0))),oM 37 (.pick (.t 34) (.t 36) (.c (.bool false))),oV 38 37,oG 38 true (oV 39 7),oG 38 true (oM 40 (.bin .eql (.t 39)
 (oK 0))),oM 41 (.pick (.t 38) (.t 40) (.c (.bool false))),oV 42 41,oG 42 true (oV 43 9),oG 42 true (oM 44 (.bin .eql (.t 43) (oK 0))),oM 45 (.pick
 (.t 42) (.t 44) (.c (.bool false))),oV 46 45,oG 46 true (oV 47 2),oG 46 true (oM 48 (.bin .eql (.t 47) (oK 5))),oM 49 (.pick (.t 46) (.t 48) (.c (.bool
 false))),oV 50 49,oG 50 true (oW 51 2 4),oG 50 true (oM 52 (.build [(.int .i64 0),(.int .i64 0)] [(0,1,(oK 65)),(1,1,(oK 95))])),oG 50 true (oM
 53 (.eqs false (.node [(0,1,(.leaf true)),(1,1,(.leaf true))]) (.t 51) (.t 52))),oM 54 (.pick (.t 50) (.t 53) (.c (.bool false))),oV 55 54,oG 55
 true (oV 56 6),oG 55 true (oM 57 (.bin .eql (.t 56) (oK 65))),oM 58 (.pick (.t 55) (.t 57) (.c (.bool false))),oV 59 58,oG 59 true (oV 60 8),oG 59
 true (oM 61 (.bsl 6 3 1 [(oK 0),(oK 3)] [])),oG 59 true (oM 62 (.call 25 [(.t 60),(.t 61)])),oM 63 (.pick (.t 59) (.t 62) (.c (.bool false))),oV 0
 63] .ret)))))))
theorem ok13:FnOk Try.prog 13 64 7 c13 [.t 0]:=⟨_,_,Try.func13,rfl,rfl,by kernel_rfl,by kernel_rfl⟩
theorem bd13:bodied Try.prog 13=true:=by kernel_rfl
def c14:CI:=(oR [oM 1 (.box 0 true (.t 0)),oM 2 (.alloc 1 [(.int .i64 0),(.int .i64 0), .nils,(.int .i64 0), .nils,(.int .i64 0),(.int
 .i64 0)])] (oR [oW 5 7 1,oM 3 (.alloc 2 [(.int .i64 0),(.int .i64 0), .nils,(.int .i64 0), .nils,(.int .i64 0),(.int .i64 0)]),oS (.stz
 true 7 (.t 3) (.t 5) [])] (oR [oM 6 (.bsl 3 57 3 [] []),oF 7 2 1,oL 8 7,oM 9 (.apd 4 57 3 24 (.t 6) (.t 8) []),oF 10 2 3,oS (.stz false 1
 (.t 10) (.t 9) [])] (oR [oF 11 4 3,oS (.stz false 1 (.t 11) oZ [])] (.seq (oR [oM 4 (.mv (oK 0))] (.block 0 (.loop (.seq (oR [oV 12 4,oF 13 4 1,oL 14 13,oN 15 14,oM 16 (.bin .lss (.t 12) (.t 15))] (.cond (.t 16) .skip (.exit 0))) (.seq (.block 1 (.reg [oF 19 4 3,oL 20 19,
 oF 21 4 1,oL 22 21,oV 23 4,oI 24 2 22 23,oF 25 0 24,oL 26 25,oF 28 4 1,oL 29 28,oV 30 4,oI 31 2 29 30,oF 32 1 31,oL 33 32,oM 27 (.bsl 5 3 1
 [] []),oM 34 (.apd 6 3 1 8 (.t 27) (.t 33) [(.t 19),(.t 21),(.t 22),(.t 25)]),oM 35 (.build [(.int .i64 0), .nils] [(0,1,(.t 26)),(1,1,(.t 34))]),
 oM 36 (.bsl 7 64 2 [(.t 35)] []),oM 37 (.apd 8 64 2 32 (.t 20) (.t 36) []),oF 38 4 3,oS (.stz false 1 (.t 38) (.t 37) [])])) (.reg [oV 17 4,oM 18 (.bin
 .add (.t 17) (oK 1)),oV 4 18])))))) (oR [oW 39 7 3,oS (.stz true 7 (.t 2) (.t 39) [])] .ret))))))
theorem ok14:FnOk Try.prog 14 40 9 c14 [.cell 2 true 7]:=⟨_,_,Try.func14,rfl,rfl,by kernel_rfl,by kernel_rfl⟩
theorem bd14:bodied Try.prog 14=true:=by kernel_rfl
def c15:CI:=(oR [oM 1 (.box 0 true (.t 0)),oM 2 (.mv (oK 0))] (.seq (oR [oW 3 7 1,oM 4 (.call 46 [(.t 3)]),oM 5 (.un .not (.t 4)),
 oV 6 5,oG 6 false (oF 7 2 1),oG 6 false (oL 8 7),oG 6 false (oM 9 (.mkfn 48 [(.t 1)])),oG 6 false (oM 10 (.call 47 [(.t 8),(.t 9)])),oG 6 false (oM
 11 (.un .not (.t 10))),oM 12 (.pick (.t 6) (.c (.bool true)) (.t 11)),oV 13 12,oG 13 false (oF 14 4 1),oG 13 false (oL 15 14),oG 13 false (oM 16 (.call
 50 [(.t 15),(.c (.fn 51 []))])),oG 13 false (oM 17 (.un .not (.t 16))),oM 18 (.pick (.t 13) (.c (.bool true)) (.t 17))] (.cond (.t 18) (oR [oM 2 (.mv (oK 110))] .ret) .skip)) (oR [oM 2 (.mv (oK 0))] .ret)))
theorem ok15:FnOk Try.prog 15 19 1 c15 [.t 2]:=⟨_,_,Try.func15,rfl,rfl,by kernel_rfl,by kernel_rfl⟩
theorem bd15:bodied Try.prog 15=true:=by kernel_rfl
def c16:CI:=(oR [oM 1 (.box 0 true (.t 0)),oM 2 (.mv (oK 0))] (.seq (oR [oF 8 0 1,oL 9 8,oM 10 (.call 52 [(.t 9),(oK 1),(oK 6)]),
 oM 11 (.un .not (.t 10)),oV 12 11,oG 12 false (oF 13 1 1),oG 12 false (oL 14 13),oG 12 false (oM 15 (.call 52 [(.t 14),(oK 0),(oK 3)])),oG 12 false
 (oM 16 (.un .not (.t 15))),oM 17 (.pick (.t 12) (.c (.bool true)) (.t 16)),oV 18 17,oG 18 false (oF 19 3 1),oG 18 false (oL 20 19),oG 18 false (oM
 21 (.call 52 [(.t 20),(oK 0),(oK 10)])),oG 18 false (oM 22 (.un .not (.t 21))),oM 23 (.pick (.t 18) (.c (.bool true)) (.t 22)),oV 24 23,oG 24 false
 (oF 25 5 1),oG 24 false (oL 26 25),oG 24 false (oM 27 (.call 52 [(.t 26),(oK 0),(oK 4)])),oG 24 false (oM 28 (.un .not (.t 27))),oM 29 (.pick (.t
 24) (.c (.bool true)) (.t 28)),oV 30 29,oG 30 false (oF 31 6 1),oG 30 false (oL 32 31),oG 30 false (oM 33 (.call 52 [(.t 32),(oK 0),(oK 999)])),
 oG 30 false (oM 34 (.un .not (.t 33))),oM 35 (.pick (.t 30) (.c (.bool true)) (.t 34)),oV 36 35,oG 36 false (oF 37 2 1),oG 36 false (oL 38 37),oG
 36 false (oN 39 38),oG 36 false (oM 40 (.bin .gtr (.t 39) (oK 10))),oM 41 (.pick (.t 36) (.c (.bool true)) (.t 40)),oV 42 41,oG 42 false (oF 43 4 1),
 oG 42 false (oL 44 43),oG 42 false (oN 45 44),oG 42 false (oM 46 (.call 52 [(.t 45),(oK 1),(oK 4)])),oG 42 false (oM 47 (.un .not (.t 46))),oM 48
 (.pick (.t 42) (.c (.bool true)) (.t 47))] (.cond (.t 48) (oR [oM 2 (.mv (oK 110))] .ret) .skip)) (.seq (oR [oM 3 (.mv (oK 0))] (.block
 0 (.loop (.seq (oR [oV 49 3,oF 50 2 1,oL 51 50,oN 52 51,oM 53 (.bin .lss (.t 49) (.t 52))] (.cond (.t 53) .skip (.exit 0))) (.seq (.block
 1 (oR [oF 56 2 1,oL 57 56,oV 58 3,oI 59 3 57 58,oF 60 1 59,oW 61 2 60,oM 4 (.alloc 1 [(.int .i64 0),(.int .i64 0)]),oS (.store true 2 (.t
 4) (.t 61) [])] (oR [oF 62 2 1,oL 63 62,oV 64 3,oI 65 3 63 64,oF 66 0 65,oL 67 66,oF 68 0 1,oL 69 68,oM 70 (.bin .sub (.t 69) (oK 1)),
 oM 71 (.call 52 [(.t 67),(oK 0),(.t 70)]),oM 72 (.un .not (.t 71)),oV 73 72,oG 73 false (oF 74 0 4),oG 73 false (oL 75 74),oG 73 false (oF 76 1
 4),oG 73 false (oL 77 76),oG 73 false (oM 78 (.call 52 [(.t 75),(oK 0),(.t 77)])),oG 73 false (oM 79 (.un .not (.t 78))),oM 80 (.pick (.t 73) (.c
 (.bool true)) (.t 79)),oV 81 80,oG 81 false (oF 82 1 4),oG 81 false (oL 83 82),oG 81 false (oM 84 (.bin .gtr (.t 83) (oK 3))),oM 85 (.pick (.t 81)
 (.c (.bool true)) (.t 84))] (.cond (.t 85) (oR [oM 2 (.mv (oK 110))] .ret) .skip)))) (.reg [oV 54 3,oM 55 (.bin .add (.t 54) (oK 1)),oV 3 55]))))))
 (.seq (oR [oM 5 (.mv (oK 0))] (.block 2 (.loop (.seq (oR [oV 86 5,oF 87 4 1,oL 88 87,oN 89 88,oM 90 (.bin .lss (.t 86) (.t 89))]
 (.cond (.t 90) .skip (.exit 2))) (.seq (.block 3 (oR [oF 93 4 1,oL 94 93,oV 95 5,oI 96 2 94 95,oW 97 2 96,oM 6 (.alloc 2 [(.int .i64 0), .nils]),
 oS (.stz true 2 (.t 6) (.t 97) [])] (.seq (oR [oF 98 0 6,oL 99 98,oM 100 (.call 52 [(.t 99),(oK 0),(oK 999)]),oM 101 (.un .not (.t 100)),
 oV 102 101,oG 102 false (oF 103 1 6),oG 102 false (oL 104 103),oG 102 false (oN 105 104),oG 102 false (oM 106 (.bin .neq (.t 105) (oK 4))),oM 107
 (.pick (.t 102) (.c (.bool true)) (.t 106))] (.cond (.t 107) (oR [oM 2 (.mv (oK 110))] .ret) .skip)) (oR [oM 7 (.mv (oK 0))] (.block
 4 (.loop (.seq (oR [oV 108 7,oF 109 1 6,oL 110 109,oN 111 110,oM 112 (.bin .lss (.t 108) (.t 111))] (.cond (.t 112) .skip (.exit 4))) (.seq
 (.block 5 (oR [oF 115 1 6,oL 116 115,oV 117 7,oI 118 1 116 117,oL 119 118,oM 120 (.call 52 [(.t 119),(oK 0),(oK 99)]),oM 121 (.un .not
 (.t 120))] (.cond (.t 121) (oR [oM 2 (.mv (oK 110))] .ret) .skip))) (.reg [oV 113 7,oM 114 (.bin .add (.t 113) (oK 1)),oV 7 114]))))))))) (.reg
 [oV 91 5,oM 92 (.bin .add (.t 91) (oK 1)),oV 5 92])))))) (oR [oM 2 (.mv (oK 0))] .ret)))))
theorem ok16:FnOk Try.prog 16 122 3 c16 [.t 2]:=⟨_,_,Try.func16,rfl,rfl,by kernel_rfl,by kernel_rfl⟩
theorem bd16:bodied Try.prog 16=true:=by kernel_rfl
def c17:CI:=(oR [oM 1 (.box 0 true (.t 0)),oM 2 (.mv (oK 0)),oM 3 (.mv (oK 0))] (.seq (oR [oW 7 7 1,oM 8 (.call 15 [(.t 7)]),oV
 4 8] (oR [oV 9 4,oM 10 (.bin .neq (.t 9) (oK 0))] (.cond (.t 10) (oR [oV 11 4,oM 2 (.mv (oK 0)),oV 3 11] .ret) .skip))) (oR [oF 12 2 1,oL 13 12,oN 14 13,oM 5 (.alloc 1 [(.int .i64 0)]),oS (.store false 1 (.t 5) (.t 14) [])] (.seq (oR [oF 15 0 1,oL 16 15,oF 17
 1 1,oL 18 17,oM 19 (.callw 2 0 53 [(.t 16),(oK 3),(.t 18)])] (.block 0 (.rng (.t 19) [20] (.reg [oV 6 20]) (.block 1 (.reg [oL 21 5,oF 22 2 1,oL
 23 22,oV 24 6,oM 25 (.call 54 [(.t 23),(.t 24)]),oM 26 (.mm false [(.t 21),(.t 25)]),oS (.store false 1 (.t 5) (.t 26) [])]))))) (oR [oL
 27 5,oV 2 27,oM 3 (.mv (oK 0))] .ret)))))
theorem ok17:FnOk Try.prog 17 28 2 c17 [.t 2, .t 3]:=⟨_,_,Try.func17,rfl,rfl,by kernel_rfl,by kernel_rfl⟩
theorem bd17:bodied Try.prog 17=true:=by kernel_rfl
def c18:CI:=(oR [oM 1 (.box 0 true (.t 0)),oM 2 (.mv (oK 0)),oM 3 (.mv (oK 0))] (.seq (oR [oW 8 7 1,oM 9 (.call 16 [(.t 8)]),oV
 4 9] (oR [oV 10 4,oM 11 (.bin .neq (.t 10) (oK 0))] (.cond (.t 11) (oR [oV 12 4,oM 2 (.mv (oK 0)),oV 3 12] .ret) .skip))) (oR [oF 13 2 1,oL 14 13,oN 15 14,oV 5 15] (oR [oF 16 0 1,oL 17 16,oF 18 1 1,oL 19 18,oM 20 (.callw 1 1 55 [oZ,(.t 17),(oK 3),(.t 19)]),
 oV 6 20] (.seq (oR [oM 7 (.mv (oK 0))] (.block 0 (.loop (.seq (oR [oV 21 7,oV 22 6,oN 23 22,oM 24 (.bin .lss (.t 21) (.t 23))] (.cond
 (.t 24) .skip (.exit 0))) (.seq (.block 1 (.reg [oV 27 5,oW 28 7 1,oV 29 6,oV 30 7,oI 31 1 29 30,oL 32 31,oM 33 (.call 56 [(.t 28),(.t 32)]),oM
 34 (.mm false [(.t 27),(.t 33)]),oV 5 34])) (.reg [oV 25 7,oM 26 (.bin .add (.t 25) (oK 1)),oV 7 26])))))) (oR [oV 35 5,oV 2 35,oM 3 (.mv
 (oK 0))] .ret))))))
theorem ok18:FnOk Try.prog 18 36 2 c18 [.t 2, .t 3]:=⟨_,_,Try.func18,rfl,rfl,by kernel_rfl,by kernel_rfl⟩
theorem bd18:bodied Try.prog 18=true:=by kernel_rfl
def c19:CI:=(oR [oM 1 (.box 0 true (.t 0)),oM 2 (.mv (oK 0)),oM 3 (.mv (oK 0))] (oR [oW 7 7 1,oM 8 (.callw 1 3 57 [(.t 7),(.c
 (.bool true))]),oV 6 8,oX 9 0 6,oX 10 1 6,oM 4 (.alloc 4 [(.int .i64 0),(.int .i64 0), .nils,(.int .i64 0), .nils,(.int .i64 0),(.int .i64 0),
 .nils]),oS (.stz true 8 (.t 4) (.t 9) []),oV 5 10] (oR [oF 11 7 4,oL 12 11,oN 13 12,oV 14 5,oV 2 13,oV 3 14] .ret)))
theorem ok19:FnOk Try.prog 19 15 5 c19 [.t 2, .t 3]:=⟨_,_,Try.func19,rfl,rfl,by kernel_rfl,by kernel_rfl⟩
theorem bd19:bodied Try.prog 19=true:=by kernel_rfl
def c20:CI:=(oR [oM 1 (.box 0 true (.t 0)),oM 2 (.mv (oK 0)),oM 3 (.mv (oK 0))] (oR [oW 7 7 1,oM 8 (.callw 1 1 58 [(.t 7),(.c
 (.bool true))]),oV 6 8,oX 9 0 6,oX 10 1 6,oV 4 9,oV 5 10] (oR [oV 11 4,oN 12 11,oV 13 5,oV 2 12,oV 3 13] .ret)))
theorem ok20:FnOk Try.prog 20 14 2 c20 [.t 2, .t 3]:=⟨_,_,Try.func20,rfl,rfl,by kernel_rfl,by kernel_rfl⟩
theorem bd20:bodied Try.prog 20=true:=by kernel_rfl
def c21:CI:=(oR [oM 2 (.box 0 true (.t 0)),oM 3 (.box 1 false (.t 1)),oM 4 (.mv oZ),oM 5 (.mv (oK 0))] (oR [oW 11 7 2,oW 12 7
 2,oL 13 3,oM 6 (.alloc 5 [(.int .i64 0),(.int .i64 0), .nils,(.int .i64 0), .nils,(.int .i64 0),(.int .i64 0), .nils]),oM 14 (.call 59 [(.t 12),
 (.t 13)]),oM 15 (.callz 2 3 57 [(.t 11),(.t 14)] []),oV 10 15,oX 16 0 10,oX 17 1 10,oS (.stz true 8 (.t 6) (.t 16) []),oV 7 17] (.seq (oR [oV 18 7,oM 19 (.bin .neq (.t 18) (oK 0))] (.cond (.t 19) (oR [oV 20 7,oM 4 (.mv oZ),oV 5 20] .ret) .skip)) (oR [oM 8 (.mv oZ)] (.seq
 (oR [oM 21 (.mv (oK 0))] (.block 0 (.loop (oR [oM 22 (.bin .lss (.t 21) (oK 4))] (.seq (.cond (.t 22) .skip (.exit 0)) (.seq (.block
 1 (oR [oV 23 21,oM 9 (.alloc 6 [(.int .i64 0)]),oS (.store false 1 (.t 9) (.t 23) [])] (oR [oF 24 7 6,oL 25 24,oM 26 (.mkfn 61 [(.t
 3),(.t 9)]),oM 27 (.call 60 [(.t 25),(.t 26)])] (.cond (.t 27) (.reg [oV 28 8,oL 29 9,oM 30 (.bsl 7 3 1 [(.t 29)] []),oM 31 (.apd 8 3 1 8 (.t 28)
 (.t 30) []),oV 8 31]) .skip)))) (.reg [oM 32 (.bin .add (.t 21) (oK 1)),oV 21 32]))))))) (oR [oV 33 8,oV 4 33,oM 5 (.mv (oK 0))] .ret))))))
theorem ok21:FnOk Try.prog 21 34 9 c21 [.t 4, .t 5]:=⟨_,_,Try.func21,rfl,rfl,by kernel_rfl,by kernel_rfl⟩
theorem bd21:bodied Try.prog 21=true:=by kernel_rfl
def c22:CI:=(oR [oM 2 (.box 0 true (.t 0)),oM 4 (.mv oZ),oM 5 (.mv (oK 0))] (oR [oW 13 7 2,oV 14 1,oF 15 0 2,oL 16 15,oM 17
 (.bin .sub (.t 16) (oK 1)),oM 18 (.call 52 [(.t 14),(oK 0),(.t 17)]),oM 19 (.callz 1 1 58 [(.t 13),(.t 18)] []),oV 12 19,oX 20 0 12,oX 21 1 12,
 oV 6 20,oV 7 21] (oR [oM 8 (.mv oZ),oM 9 (.mv oZ)] (.seq (oR [oM 10 (.mv (oK 0))] (.block 0 (.loop (.seq (oR [oV 22 10,oV
 23 6,oN 24 23,oM 25 (.bin .lss (.t 22) (.t 24))] (.cond (.t 25) .skip (.exit 0))) (.seq (.block 1 (.reg [oV 28 8,oV 29 6,oV 30 10,oI 31 1 29 30,
 oL 32 31,oV 33 1,oI 34 1 32 33,oL 35 34,oM 36 (.bsl 2 3 1 [(.t 35)] []),oM 37 (.apd 3 3 1 8 (.t 28) (.t 36) []),oV 8 37])) (.reg [oV 26 10,oM 27
 (.bin .add (.t 26) (oK 1)),oV 10 27])))))) (.seq (oR [oM 11 (.mv (oK 0))] (.block 2 (.loop (.seq (oR [oV 38 11,oM 39 (.bin .leq (.t
 38) (oK 3))] (.cond (.t 39) .skip (.exit 2))) (.seq (.block 3 (oR [oV 42 8,oV 43 11,oM 44 (.call 62 [(.t 42),(.t 43)])] (.cond (.t 44) (.reg
 [oV 45 9,oV 46 11,oM 47 (.bsl 4 3 1 [(.t 46)] []),oM 48 (.apd 5 3 1 8 (.t 45) (.t 47) []),oV 9 48]) .skip))) (.reg [oV 40 11,oM 41 (.bin .add (.t
 40) (oK 1)),oV 11 41])))))) (oR [oV 49 9,oV 50 7,oV 4 49,oV 5 50] .ret))))))
theorem ok22:FnOk Try.prog 22 51 6 c22 [.t 4, .t 5]:=⟨_,_,Try.func22,rfl,rfl,by kernel_rfl,by kernel_rfl⟩
theorem bd22:bodied Try.prog 22=true:=by kernel_rfl
def c23:CI:=(oR [oM 2 (.box 0 true (.t 0)),oM 4 (.mv (oK 0)),oM 5 (.mv (oK 0))] (oR [oW 12 7 2,oW 13 7 2,oV 14 1,oM 6 (.alloc
 4 [(.int .i64 0),(.int .i64 0), .nils,(.int .i64 0), .nils,(.int .i64 0),(.int .i64 0), .nils]),oM 15 (.call 63 [(.t 13),(.t 14)]),oM 16 (.callz
 1 3 57 [(.t 12),(.t 15)] []),oV 11 16,oX 17 0 11,oX 18 1 11,oS (.stz true 8 (.t 6) (.t 17) []),oV 7 18] (.seq (oR [oV 19 7,oM 20 (.bin
 .neq (.t 19) (oK 0))] (.cond (.t 20) (oR [oV 21 7,oM 4 (.mv (oK 0)),oV 5 21] .ret) .skip)) (oR [oM 8 (.mv (oK 0))] (.seq (oR [oF 22 7 6,oL 23 22,oN 24 23,oM 25 (.mv (oK 0))] (.block 0 (.loop (oR [oM 26 (.bin .lss (.t 25) (.t 24))] (.seq (.cond (.t 26) .skip (.exit
 0)) (.seq (.block 1 (oR [oI 27 2 23 25,oW 28 2 27,oM 10 (.alloc 5 [.nils,(.int .i64 0)]),oS (.stz true 2 (.t 10) (.t 28) [])] (oR [oF 29 0 6,oF 30 2 29,oL 31 30,oV 32 1,oI 33 3 31 32,oW 34 3 33,oF 35 0 10,oL 36 35,oM 37 (.call 64 [(.t 34),(.t 36)])] (.cond (.t 37) (.reg
 [oV 38 8,oM 39 (.bin .add (.t 38) (oK 1)),oV 8 39]) .skip)))) (.reg [oM 40 (.bin .add (.t 25) (oK 1)),oV 25 40]))))))) (.seq (oR [oV 41 8]
 (.block 2 (oR [oF 43 7 6,oL 44 43,oN 45 44,oM 46 (.bin .eql (.t 41) (.t 45)),oV 42 46] (.cond (.t 42) (oR [oM 4 (.mv (oK 1)),oM 5
 (.mv (oK 0))] .ret) (oR [oM 48 (.bin .eql (.t 41) (oK 0)),oV 47 48] (.cond (.t 47) (oR [oM 4 (.mv (oK 2)),oM 5 (.mv (oK 0))] .ret)
 .skip)))))) (oR [oM 4 (.mv (oK 3)),oM 5 (.mv (oK 0))] .ret)))))))
theorem ok23:FnOk Try.prog 23 49 6 c23 [.t 4, .t 5]:=⟨_,_,Try.func23,rfl,rfl,by kernel_rfl,by kernel_rfl⟩
theorem bd23:bodied Try.prog 23=true:=by kernel_rfl
def c24:CI:=(oR [oM 2 (.box 0 true (.t 0)),oM 4 (.mv (oK 0)),oM 5 (.mv (oK 0))] (oR [oW 11 7 2,oV 12 1,oF 13 2 2,oL 14 13,oN
 15 14,oM 16 (.bin .sub (.t 15) (oK 1)),oM 17 (.call 52 [(.t 12),(oK 0),(.t 16)]),oM 18 (.callz 1 1 58 [(.t 11),(.t 17)] []),oV 10 18,oX 19 0 10,
 oX 20 1 10,oV 6 19,oV 7 20] (.seq (oR [oV 21 7,oM 22 (.bin .neq (.t 21) (oK 0))] (.cond (.t 22) (oR [oV 23 7,oM 4 (.mv (oK 0)),oV
 5 23] .ret) .skip)) (oR [oM 8 (.mv (oK 0))] (.seq (oR [oM 9 (.mv (oK 0))] (.block 0 (.loop (.seq (oR [oV 24 9,oV 25 6,oN 26
 25,oM 27 (.bin .lss (.t 24) (.t 26))] (.cond (.t 27) .skip (.exit 0))) (.seq (.block 1 (oR [oF 30 2 2,oL 31 30,oV 32 1,oI 33 3 31 32,oW 34
 3 33,oV 35 6,oV 36 9,oI 37 1 35 36,oL 38 37,oM 39 (.call 41 [(.t 34),(.t 38)])] (.cond (.t 39) (.reg [oV 40 8,oM 41 (.bin .add (.t 40) (oK 1)),
 oV 8 41]) .skip))) (.reg [oV 28 9,oM 29 (.bin .add (.t 28) (oK 1)),oV 9 29])))))) (.seq (oR [oV 42 8] (.block 2 (oR [oV 44 6,oN 45
 44,oM 46 (.bin .eql (.t 42) (.t 45)),oV 43 46] (.cond (.t 43) (oR [oM 4 (.mv (oK 1)),oM 5 (.mv (oK 0))] .ret) (oR [oM 48 (.bin .eql
 (.t 42) (oK 0)),oV 47 48] (.cond (.t 47) (oR [oM 4 (.mv (oK 2)),oM 5 (.mv (oK 0))] .ret) .skip)))))) (oR [oM 4 (.mv (oK 3)),oM 5 (.mv
 (oK 0))] .ret)))))))
theorem ok24:FnOk Try.prog 24 49 2 c24 [.t 4, .t 5]:=⟨_,_,Try.func24,rfl,rfl,by kernel_rfl,by kernel_rfl⟩
theorem bd24:bodied Try.prog 24=true:=by kernel_rfl
def c25:CI:=(oR [oM 4 (.mv (.c (.bool false)))] (.seq (oR [oV 6 0,oN 7 6,oV 8 1,oN 9 8,oM 10 (.bin .neq (.t 7) (.t 9))] (.cond
 (.t 10) (oR [oM 4 (.mv (.c (.bool false)))] .ret) .skip)) (.seq (oR [oM 5 (.mv (oK 0))] (.block 0 (.loop (.seq (oR [oV 11 5,
 oV 12 0,oN 13 12,oM 14 (.bin .lss (.t 11) (.t 13))] (.cond (.t 14) .skip (.exit 0))) (.seq (.block 1 (oR [oV 17 0,oV 18 5,oI 19 1 17 18,oL
 20 19,oV 21 1,oV 22 5,oI 23 1 21 22,oL 24 23,oM 25 (.bin .neq (.t 20) (.t 24))] (.cond (.t 25) (oR [oM 4 (.mv (.c (.bool false)))] .ret)
 .skip))) (.reg [oV 15 5,oM 16 (.bin .add (.t 15) (oK 1)),oV 5 16])))))) (oR [oM 4 (.mv (.c (.bool true)))] .ret))))
theorem ok25:FnOk Try.prog 25 26 0 c25 [.t 4]:=⟨_,_,Try.func25,rfl,rfl,by kernel_rfl,by kernel_rfl⟩
theorem bd25:bodied Try.prog 25=true:=by kernel_rfl
def c26:CI:=(oR [oM 2 (.box 0 true (.t 0)),oM 3 (.box 1 true (.t 1)),oM 4 (.mv (.c (.bool false)))] (.seq (oR [oF 7 0 2,oL 8 7,
 oF 9 0 3,oL 10 9,oM 11 (.bin .neq (.t 8) (.t 10)),oV 12 11,oG 12 false (oF 13 1 2),oG 12 false (oL 14 13),oG 12 false (oF 15 1 3),oG 12 false (oL
 16 15),oG 12 false (oM 17 (.bin .neq (.t 14) (.t 16))),oM 18 (.pick (.t 12) (.c (.bool true)) (.t 17)),oV 19 18,oG 19 false (oF 20 3 2),oG 19 false
 (oL 21 20),oG 19 false (oF 22 3 3),oG 19 false (oL 23 22),oG 19 false (oM 24 (.bin .neq (.t 21) (.t 23))),oM 25 (.pick (.t 19) (.c (.bool true)) (.t
 24)),oV 26 25,oG 26 false (oF 27 5 2),oG 26 false (oL 28 27),oG 26 false (oF 29 5 3),oG 26 false (oL 30 29),oG 26 false (oM 31 (.bin .neq (.t 28)
 (.t 30))),oM 32 (.pick (.t 26) (.c (.bool true)) (.t 31)),oV 33 32,oG 33 false (oF 34 6 2),oG 33 false (oL 35 34),oG 33 false (oF 36 6 3),oG 33 false
 (oL 37 36),oG 33 false (oM 38 (.bin .neq (.t 35) (.t 37))),oM 39 (.pick (.t 33) (.c (.bool true)) (.t 38)),oV 40 39,oG 40 false (oF 41 2 2),oG 40
 false (oL 42 41),oG 40 false (oN 43 42),oG 40 false (oF 44 2 3),oG 40 false (oL 45 44),oG 40 false (oN 46 45),oG 40 false (oM 47 (.bin .neq (.t 43)
 (.t 46))),oM 48 (.pick (.t 40) (.c (.bool true)) (.t 47)),oV 49 48,oG 49 false (oF 50 4 2),oG 49 false (oL 51 50),oG 49 false (oN 52 51),oG 49 false
 (oF 53 4 3),oG 49 false (oL 54 53),oG 49 false (oN 55 54),oG 49 false (oM 56 (.bin .neq (.t 52) (.t 55))),oM 57 (.pick (.t 49) (.c (.bool true)) (.t
 56))] (.cond (.t 57) (oR [oM 4 (.mv (.c (.bool false)))] .ret) .skip)) (.seq (oR [oM 5 (.mv (oK 0))] (.block 0 (.loop (.seq (oR [oV 58 5,oF 59 2 2,oL 60 59,oN 61 60,oM 62 (.bin .lss (.t 58) (.t 61))] (.cond (.t 62) .skip (.exit 0))) (.seq (.block 1 (oR [oF 65 2 2,oL
 66 65,oV 67 5,oI 68 3 66 67,oW 69 3 68,oF 70 2 3,oL 71 70,oV 72 5,oI 73 3 71 72,oW 74 3 73,oM 75 (.eqs true (.node [(0,1,(.leaf true)),(1,
 2,(.node [(0,1,(.leaf true)),(1,1,(.leaf true))]))]) (.t 69) (.t 74))] (.cond (.t 75) (oR [oM 4 (.mv (.c (.bool false)))] .ret) .skip)))
 (.reg [oV 63 5,oM 64 (.bin .add (.t 63) (oK 1)),oV 5 64])))))) (.seq (oR [oM 6 (.mv (oK 0))] (.block 2 (.loop (.seq (oR [oV 76 6,oF
 77 4 2,oL 78 77,oN 79 78,oM 80 (.bin .lss (.t 76) (.t 79))] (.cond (.t 80) .skip (.exit 2))) (.seq (.block 3 (oR [oF 83 4 2,oL 84 83,oV 85
 6,oI 86 2 84 85,oF 87 0 86,oL 88 87,oF 89 4 3,oL 90 89,oV 91 6,oI 92 2 90 91,oF 93 0 92,oL 94 93,oM 95 (.bin .neq (.t 88) (.t 94)),oV 96 95,
 oG 96 false (oF 97 4 2),oG 96 false (oL 98 97),oG 96 false (oV 99 6),oG 96 false (oI 100 2 98 99),oG 96 false (oF 101 1 100),oG 96 false (oL 102 101),
 oG 96 false (oF 103 4 3),oG 96 false (oL 104 103),oG 96 false (oV 105 6),oG 96 false (oI 106 2 104 105),oG 96 false (oF 107 1 106),oG 96 false (oL
 108 107),oG 96 false (oM 109 (.call 25 [(.t 102),(.t 108)])),oG 96 false (oM 110 (.un .not (.t 109))),oM 111 (.pick (.t 96) (.c (.bool true)) (.t 110))]
 (.cond (.t 111) (oR [oM 4 (.mv (.c (.bool false)))] .ret) .skip))) (.reg [oV 81 6,oM 82 (.bin .add (.t 81) (oK 1)),oV 6 82])))))) (oR [oM 4 (.mv (.c (.bool true)))] .ret)))))
theorem ok26:FnOk Try.prog 26 112 2 c26 [.t 4]:=⟨_,_,Try.func26,rfl,rfl,by kernel_rfl,by kernel_rfl⟩
theorem bd26:bodied Try.prog 26=true:=by kernel_rfl
def c27:CI:=(oR [oM 2 (.box 0 true (.t 0)),oM 4 (.alloc 1 [(.int .i64 0),(.int .i64 0)]),oM 5 (.mv (oK 0))] (oR [oW 6 7 2,oV 7
 1,oM 8 (.call 65 [(.t 6),(.t 7),(.c (.fn 66 []))]),oX 9 0 8,oX 10 1 8,oS (.store true 2 (.t 4) (.t 9) []),oV 5 10] .ret))
theorem ok27:FnOk Try.prog 27 11 2 c27 [.cell 4 true 2, .t 5]:=⟨_,_,Try.func27,rfl,rfl,by kernel_rfl,by kernel_rfl⟩
theorem bd27:bodied Try.prog 27=true:=by kernel_rfl
def c28:CI:=(oR [oM 2 (.box 0 true (.t 0)),oM 4 (.alloc 1 [(.int .i64 0),(.int .i64 0)]),oM 5 (.mv (oK 0))] (oR [oW 9 7 2,oW 10
 7 2,oV 11 1,oM 12 (.call 42 [(.t 10),(.t 11)]),oM 13 (.callz 2 1 58 [(.t 9),(.t 12)] []),oV 8 13,oX 14 0 8,oX 15 1 8,oV 6 14,oV 7 15] (.seq
 (oR [oV 16 7,oM 17 (.bin .neq (.t 16) (oK 0))] (.cond (.t 17) (oR [oM 18 (.build [(.int .i64 0),(.int .i64 0)] []),oV 19 7,oS (.store
 true 2 (.t 4) (.t 18) []),oV 5 19] .ret) .skip)) (oR [oW 20 7 2,oV 21 6,oV 22 1,oM 23 (.call 67 [(.t 20),(.t 21),(.t 22)]),oS (.store true
 2 (.t 4) (.t 23) []),oM 5 (.mv (oK 0))] .ret))))
theorem ok28:FnOk Try.prog 28 24 3 c28 [.cell 4 true 2, .t 5]:=⟨_,_,Try.func28,rfl,rfl,by kernel_rfl,by kernel_rfl⟩
theorem bd28:bodied Try.prog 28=true:=by kernel_rfl
def c29:CI:=(oR [oM 2 (.box 0 true (.t 0)),oM 4 (.alloc 1 [(.int .i64 0),(.int .i64 0)]),oM 5 (.mv (oK 0))] (oR [oW 6 7 2,oV 7
 1,oM 8 (.call 65 [(.t 6),(.t 7),(.c (.fn 68 []))]),oX 9 0 8,oX 10 1 8,oS (.store true 2 (.t 4) (.t 9) []),oV 5 10] .ret))
theorem ok29:FnOk Try.prog 29 11 2 c29 [.cell 4 true 2, .t 5]:=⟨_,_,Try.func29,rfl,rfl,by kernel_rfl,by kernel_rfl⟩
theorem bd29:bodied Try.prog 29=true:=by kernel_rfl
def c30:CI:=(oR [oM 2 (.box 0 true (.t 0)),oM 4 (.alloc 1 [(.int .i64 0),(.int .i64 0)]),oM 5 (.mv (oK 0))] (oR [oW 13 7 2,oW
 14 7 2,oV 15 1,oM 16 (.call 42 [(.t 14),(.t 15)]),oM 17 (.callz 2 1 58 [(.t 13),(.t 16)] []),oV 12 17,oX 18 0 12,oX 19 1 12,oV 6 18,oV 7 19]
 (oR [oM 8 (.alloc 3 [(.int .i64 0),(.int .i64 0)])] (.seq (oR [oM 9 (.mv (oK 0))] (.block 0 (.loop (.seq (oR [oV 20 9,oV 21
 6,oN 22 21,oM 23 (.bin .lss (.t 20) (.t 22))] (.cond (.t 23) .skip (.exit 0))) (.seq (.block 1 (oR [oW 27 7 2,oV 28 1,oV 29 6,oV 30 9,oI
 31 1 29 30,oL 32 31,oM 33 (.call 38 [(.t 27),(.t 28),(.t 32)]),oV 26 33,oX 34 0 26,oX 35 1 26,oV 10 34,oV 11 35] (.reg [oW 36 2 8,oV 37 11,
 oV 38 9,oM 39 (.bin .eql (.t 38) (oK 0)),oM 40 (.call 69 [(.t 36),(.t 37),(.t 39)]),oS (.store true 2 (.t 8) (.t 40) [])]))) (.reg [oV 24 9,oM 25
 (.bin .add (.t 24) (oK 1)),oV 9 25])))))) (oR [oW 41 2 8,oV 42 7,oS (.store true 2 (.t 4) (.t 41) []),oV 5 42] .ret)))))
theorem ok30:FnOk Try.prog 30 43 4 c30 [.cell 4 true 2, .t 5]:=⟨_,_,Try.func30,rfl,rfl,by kernel_rfl,by kernel_rfl⟩
theorem bd30:bodied Try.prog 30=true:=by kernel_rfl
def c31:CI:=(oR [oM 1 (.box 0 true (.t 0)),oM 2 (.mv (oK 0)),oM 3 (.mv (oK 0))] (oR [oW 9 7 1,oM 10 (.callw 1 3 57 [(.t 9),(.c
 (.bool true))]),oV 8 10,oX 11 0 8,oX 12 1 8,oM 4 (.alloc 4 [(.int .i64 0),(.int .i64 0), .nils,(.int .i64 0), .nils,(.int .i64 0),(.int .i64 0),
 .nils]),oS (.stz true 8 (.t 4) (.t 11) []),oV 5 12] (.seq (oR [oV 13 5,oM 14 (.bin .neq (.t 13) (oK 0))] (.cond (.t 14) (oR [oV 15
 5,oM 2 (.mv (oK 0)),oV 3 15] .ret) .skip)) (oR [oW 17 8 4,oM 18 (.callw 5 1 70 [(.t 17)]),oV 16 18,oX 19 0 16,oX 20 1 16,oV 6 19,oV 7
 20] (oR [oV 21 7,oV 2 21,oM 3 (.mv (oK 0))] .ret)))))
theorem ok31:FnOk Try.prog 31 22 6 c31 [.t 2, .t 3]:=⟨_,_,Try.func31,rfl,rfl,by kernel_rfl,by kernel_rfl⟩
theorem bd31:bodied Try.prog 31=true:=by kernel_rfl
def c32:CI:=(oR [oM 1 (.box 0 true (.t 0)),oM 2 (.mv (oK 0)),oM 3 (.mv (oK 0))] (oR [oW 10 7 1,oM 11 (.callw 1 1 58 [(.t 10),(.c
 (.bool true))]),oV 9 11,oX 12 0 9,oX 13 1 9,oV 4 12,oV 5 13] (.seq (oR [oV 14 5,oM 15 (.bin .neq (.t 14) (oK 0))] (.cond (.t 15) (oR [oV 16 5,oM 2 (.mv (oK 0)),oV 3 16] .ret) .skip)) (oR [oM 6 (.mv (oK 0))] (oR [oW 17 7 1,oM 18 (.callw 2 1 71 [(.t 17)]),oV
 7 18] (.seq (oR [oM 8 (.mv (oK 0))] (.block 0 (.loop (.seq (oR [oV 19 8,oV 20 7,oN 21 20,oM 22 (.bin .lss (.t 19) (.t 21))] (.cond
 (.t 22) .skip (.exit 0))) (.seq (.block 1 (.reg [oV 25 6,oW 26 7 1,oV 27 4,oV 28 7,oV 29 8,oI 30 1 28 29,oL 31 30,oM 32 (.call 67 [(.t 26),(.t
 27),(.t 31)]),oM 33 (.field false 1 0 (.t 32)),oM 34 (.mm true [(.t 25),(.t 33)]),oV 6 34])) (.reg [oV 23 8,oM 24 (.bin .add (.t 23) (oK 1)),oV
 8 24])))))) (oR [oV 35 6,oV 2 35,oM 3 (.mv (oK 0))] .ret)))))))
theorem ok32:FnOk Try.prog 32 36 3 c32 [.t 2, .t 3]:=⟨_,_,Try.func32,rfl,rfl,by kernel_rfl,by kernel_rfl⟩
theorem bd32:bodied Try.prog 32=true:=by kernel_rfl
def c33:CI:=(oR [oM 1 (.box 0 true (.t 0)),oM 2 (.mv (oK 0)),oM 3 (.mv (oK 0))] (oR [oW 9 7 1,oM 10 (.callw 1 3 57 [(.t 9),(.c
 (.bool true))]),oV 8 10,oX 11 0 8,oX 12 1 8,oM 4 (.alloc 4 [(.int .i64 0),(.int .i64 0), .nils,(.int .i64 0), .nils,(.int .i64 0),(.int .i64 0),
 .nils]),oS (.stz true 8 (.t 4) (.t 11) []),oV 5 12] (.seq (oR [oV 13 5,oM 14 (.bin .neq (.t 13) (oK 0))] (.cond (.t 14) (oR [oV 15
 5,oM 2 (.mv (oK 0)),oV 3 15] .ret) .skip)) (oR [oM 6 (.alloc 5 [(.int .i64 0)]),oS (.store false 1 (.t 6) (oK 0) [])] (.seq (oR [oW
 16 8 4,oM 17 (.callw 6 0 72 [(.t 16)])] (.block 0 (.rng (.t 17) [18] (.reg [oV 7 18]) (.block 1 (.reg [oL 19 6,oW 20 8 4,oV 21 7,oM 22 (.call 73 [(.t
 20),(.t 21),(.c (.fn 66 []))]),oM 23 (.field false 1 1 (.t 22)),oM 24 (.mm true [(.t 19),(.t 23)]),oS (.store false 1 (.t 6) (.t 24) [])]))))) (oR [oL 25 6,oV 2 25,oM 3 (.mv (oK 0))] .ret))))))
theorem ok33:FnOk Try.prog 33 26 6 c33 [.t 2, .t 3]:=⟨_,_,Try.func33,rfl,rfl,by kernel_rfl,by kernel_rfl⟩
theorem bd33:bodied Try.prog 33=true:=by kernel_rfl
def c34:CI:=(oR [oM 1 (.box 0 true (.t 0)),oM 2 (.mv (oK 0)),oM 3 (.mv (oK 0))] (oR [oW 10 7 1,oM 11 (.callw 1 1 58 [(.t 10),(.c
 (.bool true))]),oV 9 11,oX 12 0 9,oX 13 1 9,oV 4 12,oV 5 13] (.seq (oR [oV 14 5,oM 15 (.bin .neq (.t 14) (oK 0))] (.cond (.t 15) (oR [oV 16 5,oM 2 (.mv (oK 0)),oV 3 16] .ret) .skip)) (oR [oM 6 (.mv (oK 0))] (oR [oW 17 7 1,oM 18 (.callw 2 1 71 [(.t 17)]),oV
 7 18] (.seq (oR [oM 8 (.mv (oK 0))] (.block 0 (.loop (.seq (oR [oV 19 8,oV 20 7,oN 21 20,oM 22 (.bin .lss (.t 19) (.t 21))] (.cond
 (.t 22) .skip (.exit 0))) (.seq (.block 1 (.reg [oV 25 6,oW 26 7 1,oV 27 4,oV 28 7,oV 29 8,oI 30 1 28 29,oL 31 30,oM 32 (.call 67 [(.t 26),(.t
 27),(.t 31)]),oM 33 (.field false 1 1 (.t 32)),oM 34 (.mm true [(.t 25),(.t 33)]),oV 6 34])) (.reg [oV 23 8,oM 24 (.bin .add (.t 23) (oK 1)),oV
 8 24])))))) (oR [oV 35 6,oV 2 35,oM 3 (.mv (oK 0))] .ret)))))))
theorem ok34:FnOk Try.prog 34 36 3 c34 [.t 2, .t 3]:=⟨_,_,Try.func34,rfl,rfl,by kernel_rfl,by kernel_rfl⟩
theorem bd34:bodied Try.prog 34=true:=by kernel_rfl
def c35:CI:=(oR [oM 1 (.box 0 true (.t 0)),oM 2 (.mv oZ),oM 3 (.mv (oK 0))] (oR [oW 9 7 1,oM 10 (.callw 1 3 57 [(.t 9),(.c (.bool
 true))]),oV 8 10,oX 11 0 8,oX 12 1 8,oM 4 (.alloc 4 [(.int .i64 0),(.int .i64 0), .nils,(.int .i64 0), .nils,(.int .i64 0),(.int .i64 0), .nils]),
 oS (.stz true 8 (.t 4) (.t 11) []),oV 5 12] (.seq (oR [oV 13 5,oM 14 (.bin .neq (.t 13) (oK 0))] (.cond (.t 14) (oR [oV 15 5,oM 2
 (.mv oZ),oV 3 15] .ret) .skip)) (oR [oW 17 8 4,oM 18 (.callw 5 1 70 [(.t 17)]),oV 16 18,oX 19 0 16,oX 20 1 16,oV 6 19,oV 7 20] (oR [oV 21 6,oV 2 21,oM 3 (.mv (oK 0))] .ret)))))
theorem ok35:FnOk Try.prog 35 22 6 c35 [.t 2, .t 3]:=⟨_,_,Try.func35,rfl,rfl,by kernel_rfl,by kernel_rfl⟩
theorem bd35:bodied Try.prog 35=true:=by kernel_rfl
def c36:CI:=(oR [oM 1 (.box 0 true (.t 0)),oM 2 (.mv (.c (.bool false)))] (oR [oW 3 7 1,oM 4 (.call 12 [(.t 3)]),oM 5 (.un .not
 (.t 4)),oV 6 5,oG 6 true (oW 7 7 1),oG 6 true (oM 8 (.call 16 [(.t 7)])),oG 6 true (oM 9 (.bin .eql (.t 8) (oK 0))),oM 10 (.pick (.t 6) (.t 9) (.c
 (.bool false))),oV 2 10] .ret))
theorem ok36:FnOk Try.prog 36 11 1 c36 [.t 2]:=⟨_,_,Try.func36,rfl,rfl,by kernel_rfl,by kernel_rfl⟩
theorem bd36:bodied Try.prog 36=true:=by kernel_rfl
def c37:CI:=(oR [oM 2 (.box 0 true (.t 0)),oM 3 (.box 1 true (.t 1)),oM 4 (.mv (.c (.bool false)))] (oR [oW 5 7 2,oF 6 0 3,oL
 7 6,oM 8 (.call 42 [(.t 5),(.t 7)]),oV 9 8,oG 9 true (oW 10 7 2),oG 9 true (oF 11 1 3),oG 9 true (oL 12 11),oG 9 true (oM 13 (.call 74 [(.t 10),
 (.t 12)])),oM 14 (.pick (.t 9) (.t 13) (.c (.bool false))),oV 4 14] .ret))
theorem ok37:FnOk Try.prog 37 15 2 c37 [.t 4]:=⟨_,_,Try.func37,rfl,rfl,by kernel_rfl,by kernel_rfl⟩
theorem bd37:bodied Try.prog 37=true:=by kernel_rfl
def c38:CI:=(oR [oM 3 (.box 0 true (.t 0)),oM 6 (.mv (oK 0)),oM 7 (.mv (oK 0))] (oR [oF 11 6 3,oL 12 11,oV 7 12] (.seq (oR [oM 8 (.mv (oK 0))] (.block 0 (.loop (.seq (oR [oV 13 8,oF 14 0 3,oL 15 14,oM 16 (.bin .lss (.t 13) (.t 15))] (.cond (.t 16) .skip (.exit
 0))) (.seq (.block 1 (oR [oF 19 4 3,oL 20 19,oV 21 1,oV 22 8,oI 23 1 21 22,oL 24 23,oI 25 2 20 24,oW 26 2 25,oM 9 (.alloc 1 [(.int .i64
 0), .nils]),oS (.stz true 2 (.t 9) (.t 26) [])] (oR [oV 27 7,oF 28 1 9,oL 29 28,oV 30 2,oV 31 8,oI 32 1 30 31,oL 33 32,oI 34 1 29 33,
 oL 35 34,oM 36 (.mm false [(.t 27),(.t 35)]),oV 10 36] (oR [oV 37 6,oV 38 10,oF 39 0 9,oL 40 39,oM 41 (.bin .mul (.t 38) (.t 40)),oM 42
 (.bin .add (.t 37) (.t 41)),oV 6 42] (.reg [oV 43 7,oV 44 10,oM 45 (.bin .sub (.t 43) (.t 44)),oV 7 45]))))) (.reg [oV 17 8,oM 18 (.bin .add (.t
 17) (oK 1)),oV 8 18])))))) (oR [oV 46 6,oV 47 7,oV 6 46,oV 7 47] .ret))))
theorem ok38:FnOk Try.prog 38 48 2 c38 [.t 6, .t 7]:=⟨_,_,Try.func38,rfl,rfl,by kernel_rfl,by kernel_rfl⟩
theorem bd38:bodied Try.prog 38=true:=by kernel_rfl
def c39:CI:=(oR [oM 4 (.mv (.c (.bool false)))] (.seq (oR [oM 5 (.mv (oK 0))] (.block 0 (.loop (.seq (oR [oV 6 5,oV 7 0,
 oN 8 7,oM 9 (.bin .lss (.t 6) (.t 8))] (.cond (.t 9) .skip (.exit 0))) (.seq (.block 1 (oR [oV 12 0,oV 13 5,oI 14 1 12 13,oL 15 14,oV 16
 1,oM 17 (.bin .eql (.t 15) (.t 16))] (.cond (.t 17) (oR [oM 4 (.mv (.c (.bool true)))] .ret) .skip))) (.reg [oV 10 5,oM 11 (.bin .add (.t 10)
 (oK 1)),oV 5 11])))))) (oR [oM 4 (.mv (.c (.bool false)))] .ret)))
theorem ok39:FnOk Try.prog 39 18 0 c39 [.t 4]:=⟨_,_,Try.func39,rfl,rfl,by kernel_rfl,by kernel_rfl⟩
theorem bd39:bodied Try.prog 39=true:=by kernel_rfl
def c40:CI:=(oR [oM 3 (.box 0 true (.t 1)),oM 4 (.mv (.c (.bool false)))] (oR [oF 5 0 3,oL 6 5,oV 7 0,oM 8 (.bin .leq (.t 6) (.t
 7)),oV 9 8,oG 9 true (oV 10 0),oG 9 true (oF 11 1 3),oG 9 true (oL 12 11),oG 9 true (oM 13 (.bin .leq (.t 10) (.t 12))),oM 14 (.pick (.t 9) (.t 13)
 (.c (.bool false))),oV 4 14] .ret))
theorem ok40:FnOk Try.prog 40 15 1 c40 [.t 4]:=⟨_,_,Try.func40,rfl,rfl,by kernel_rfl,by kernel_rfl⟩
theorem bd40:bodied Try.prog 40=true:=by kernel_rfl
def c41:CI:=(oR [oM 2 (.box 0 true (.t 0)),oM 4 (.mv (.c (.bool false)))] (oR [oV 5 1,oF 6 0 2,oL 7 6,oI 8 1 5 7,oL 9 8,oF 10
 1 2,oF 11 0 10,oL 12 11,oF 13 1 2,oF 14 1 13,oL 15 14,oM 16 (.call 52 [(.t 9),(.t 12),(.t 15)]),oV 4 16] .ret))
theorem ok41:FnOk Try.prog 41 17 1 c41 [.t 4]:=⟨_,_,Try.func41,rfl,rfl,by kernel_rfl,by kernel_rfl⟩
theorem bd41:bodied Try.prog 41=true:=by kernel_rfl
def c42:CI:=(oR [oM 2 (.box 0 true (.t 0)),oM 4 (.mv (.c (.bool false)))] (oR [oV 5 1,oF 6 0 2,oL 7 6,oF 8 4 2,oL 9 8,oN 10
 9,oM 11 (.bin .sub (.t 10) (oK 1)),oF 12 5 2,oL 13 12,oM 14 (.call 75 [(.t 5),(.t 7),(.t 11),(.t 13)]),oV 4 14] .ret))
theorem ok42:FnOk Try.prog 42 15 1 c42 [.t 4]:=⟨_,_,Try.func42,rfl,rfl,by kernel_rfl,by kernel_rfl⟩
theorem bd42:bodied Try.prog 42=true:=by kernel_rfl
def c43:CI:=(oR [oM 2 (.mv (.c (.bool false)))] (oR [oV 3 0,oM 4 (.bin .eql (.t 3) (oK 0)),oV 5 4,oG 5 false (oV 6 0),oG 5 false
 (oM 7 (.bin .eql (.t 6) (oK 3))),oM 8 (.pick (.t 5) (.c (.bool true)) (.t 7)),oV 2 8] .ret))
theorem ok43:FnOk Try.prog 43 9 0 c43 [.t 2]:=⟨_,_,Try.func43,rfl,rfl,by kernel_rfl,by kernel_rfl⟩
theorem bd43:bodied Try.prog 43=true:=by kernel_rfl
def c44:CI:=(oR [oM 3 (.box 0 true (.t 0)),oM 4 (.box 1 true (.t 1)),oM 6 (.mv (.c (.bool false)))] (oR [oW 30 7 3,oM 31 (.call
 19 [(.t 30)]),oV 29 31,oX 32 0 29,oX 33 1 29,oV 7 32,oV 8 33] (oR [oW 35 7 4,oM 36 (.call 19 [(.t 35)]),oV 34 36,oX 37 0 34,oX 38 1 34,
 oV 9 37,oV 10 38] (.seq (oR [oV 39 8,oM 40 (.call 43 [(.t 39)]),oM 41 (.un .not (.t 40)),oV 42 41,oG 42 false (oV 43 10),oG 42 false (oM
 44 (.call 43 [(.t 43)])),oG 42 false (oM 45 (.un .not (.t 44))),oM 46 (.pick (.t 42) (.c (.bool true)) (.t 45)),oV 47 46,oG 47 false (oV 48 7),oG
 47 false (oV 49 9),oG 47 false (oM 50 (.bin .gtr (.t 48) (.t 49))),oM 51 (.pick (.t 47) (.c (.bool true)) (.t 50)),oV 52 51,oG 52 false (oV 53 8),
 oG 52 false (oM 54 (.bin .eql (.t 53) (oK 0))),oG 52 false (oV 55 54),oG 55 true (oV 56 10),oG 55 true (oM 57 (.bin .neq (.t 56) (oK 0))),oG 55 true
 (oV 58 57),oG 58 false (oV 59 7),oG 58 false (oM 60 (.bin .lss (.t 59) (oK 1))),oG 55 true (oM 61 (.pick (.t 58) (.c (.bool true)) (.t 60))),oG 52
 false (oM 62 (.pick (.t 55) (.t 61) (.c (.bool false)))),oM 63 (.pick (.t 52) (.c (.bool true)) (.t 62))] (.cond (.t 63) (oR [oM 6 (.mv (.c (.bool
 false)))] .ret) .skip)) (.seq (oR [oV 64 8,oM 65 (.bin .neq (.t 64) (oK 0))] (.cond (.t 65) (oR [oM 6 (.mv (.c (.bool true)))] .ret)
 .skip)) (.seq (oR [oM 11 (.mv (oK 0))] (.block 0 (.loop (.seq (oR [oV 66 11,oF 67 0 3,oL 68 67,oM 69 (.bin .lss (.t 66) (.t 68))]
 (.cond (.t 69) .skip (.exit 0))) (.seq (.block 1 (oR [oW 73 7 3,oV 74 11,oM 75 (.callw 2 1 21 [(.t 73),(.t 74)]),oV 72 75,oX 76 0 72,oX 77
 1 72,oV 12 76,oV 13 77] (oR [oW 79 7 4,oV 80 11,oM 81 (.callw 3 1 21 [(.t 79),(.t 80)]),oV 78 81,oX 82 0 78,oX 83 1 78,oV 14 82,oV 15
 83] (.seq (oR [oV 84 13,oM 85 (.bin .neq (.t 84) (oK 0)),oV 86 85,oG 86 false (oV 87 15),oG 86 false (oM 88 (.bin .neq (.t 87) (oK 0))),oM
 89 (.pick (.t 86) (.c (.bool true)) (.t 88)),oV 90 89,oG 90 false (oV 91 12),oG 90 false (oN 92 91),oG 90 false (oV 93 14),oG 90 false (oN 94 93),
 oG 90 false (oM 95 (.bin .gtr (.t 92) (.t 94))),oM 96 (.pick (.t 90) (.c (.bool true)) (.t 95))] (.cond (.t 96) (oR [oM 6 (.mv (.c (.bool false)))]
 .ret) .skip)) (oR [oM 16 (.mv (oK 0))] (.block 2 (.loop (.seq (oR [oV 97 16,oV 98 12,oN 99 98,oM 100 (.bin .lss (.t 97) (.t 99))]
 (.cond (.t 100) .skip (.exit 2))) (.seq (.block 3 (oR [oV 103 14,oV 104 12,oV 105 16,oI 106 1 104 105,oL 107 106,oM 108 (.call 39 [(.t 103),
 (.t 107)]),oM 109 (.un .not (.t 108))] (.cond (.t 109) (oR [oM 6 (.mv (.c (.bool false)))] .ret) .skip))) (.reg [oV 101 16,oM 102 (.bin .add
 (.t 101) (oK 1)),oV 16 102])))))))))) (.reg [oV 70 11,oM 71 (.bin .add (.t 70) (oK 1)),oV 11 71])))))) (oR [oW 111 7 3,oV 112 2,oM 113 (.call
 27 [(.t 111),(.t 112)]),oV 110 113,oX 114 0 110,oX 115 1 110,oM 17 (.alloc 4 [(.int .i64 0),(.int .i64 0)]),oS (.store true 2 (.t 17) (.t 114) []),
 oV 18 115] (oR [oW 117 7 4,oV 118 2,oM 119 (.call 27 [(.t 117),(.t 118)]),oV 116 119,oX 120 0 116,oX 121 1 116,oM 19 (.alloc 5 [(.int .i64
 0),(.int .i64 0)]),oS (.store true 2 (.t 19) (.t 120) []),oV 20 121] (oR [oW 123 7 3,oV 124 2,oM 125 (.call 29 [(.t 123),(.t 124)]),oV
 122 125,oX 126 0 122,oX 127 1 122,oM 21 (.alloc 6 [(.int .i64 0),(.int .i64 0)]),oS (.store true 2 (.t 21) (.t 126) []),oV 22 127] (oR [oW
 129 7 4,oV 130 2,oM 131 (.call 29 [(.t 129),(.t 130)]),oV 128 131,oX 132 0 128,oX 133 1 128,oM 23 (.alloc 7 [(.int .i64 0),(.int .i64 0)]),oS
 (.store true 2 (.t 23) (.t 132) []),oV 24 133] (oR [oW 135 7 3,oM 136 (.call 31 [(.t 135)]),oV 134 136,oX 137 0 134,oX 138 1 134,oV 25 137,
 oV 26 138] (oR [oW 140 7 4,oM 141 (.call 31 [(.t 140)]),oV 139 141,oX 142 0 139,oX 143 1 139,oV 27 142,oV 28 143] (oR [oV 144 18,
 oM 145 (.bin .eql (.t 144) (oK 0)),oV 146 145,oG 146 true (oV 147 20),oG 146 true (oM 148 (.bin .eql (.t 147) (oK 0))),oM 149 (.pick (.t 146) (.t 148)
 (.c (.bool false))),oV 150 149,oG 150 true (oV 151 22),oG 150 true (oM 152 (.bin .eql (.t 151) (oK 0))),oM 153 (.pick (.t 150) (.t 152) (.c (.bool
 false))),oV 154 153,oG 154 true (oV 155 24),oG 154 true (oM 156 (.bin .eql (.t 155) (oK 0))),oM 157 (.pick (.t 154) (.t 156) (.c (.bool false))),oV
 158 157,oG 158 true (oV 159 26),oG 158 true (oM 160 (.bin .eql (.t 159) (oK 0))),oM 161 (.pick (.t 158) (.t 160) (.c (.bool false))),oV 162 161,oG
 162 true (oV 163 28),oG 162 true (oM 164 (.bin .eql (.t 163) (oK 0))),oM 165 (.pick (.t 162) (.t 164) (.c (.bool false))),oV 166 165,oG 166 true (oF
 167 0 19),oG 166 true (oL 168 167),oG 166 true (oF 169 0 17),oG 166 true (oL 170 169),oG 166 true (oM 171 (.bin .leq (.t 168) (.t 170))),oM 172 (.pick
 (.t 166) (.t 171) (.c (.bool false))),oV 173 172,oG 173 true (oF 174 1 17),oG 173 true (oL 175 174),oG 173 true (oF 176 1 19),oG 173 true (oL 177
 176),oG 173 true (oM 178 (.bin .leq (.t 175) (.t 177))),oM 179 (.pick (.t 173) (.t 178) (.c (.bool false))),oV 180 179,oG 180 true (oF 181 0 23),oG
 180 true (oL 182 181),oG 180 true (oF 183 0 21),oG 180 true (oL 184 183),oG 180 true (oM 185 (.bin .leq (.t 182) (.t 184))),oM 186 (.pick (.t 180)
 (.t 185) (.c (.bool false))),oV 187 186,oG 187 true (oF 188 1 21),oG 187 true (oL 189 188),oG 187 true (oF 190 1 23),oG 187 true (oL 191 190),oG
 187 true (oM 192 (.bin .leq (.t 189) (.t 191))),oM 193 (.pick (.t 187) (.t 192) (.c (.bool false))),oV 194 193,oG 194 true (oV 195 25),oG 194 true
 (oV 196 27),oG 194 true (oM 197 (.bin .geq (.t 195) (.t 196))),oM 198 (.pick (.t 194) (.t 197) (.c (.bool false))),oV 6 198] .ret)))))))))))))
theorem ok44:FnOk Try.prog 44 199 8 c44 [.t 6]:=⟨_,_,Try.func44,rfl,rfl,by kernel_rfl,by kernel_rfl⟩
theorem bd44:bodied Try.prog 44=true:=by kernel_rfl
def c45:CI:=(oR [oM 0 (.alloc 0 [(.int .i64 0),(.int .i64 0), .nils,(.int .i64 0), .nils,(.int .i64 0),(.int .i64 0)])] (oR [oM
 1 (.build [(.int .i64 0),(.int .i64 0)] [(0,1,(oK 2)),(1,1,(oK 3))]),oM 2 (.build [(.int .i64 0),(.int .i64 0),(.int .i64 0)] [(1,2,(.t 1))]),
 oM 3 (.build [(.int .i64 0),(.int .i64 0)] [(1,1,(oK 1))]),oM 4 (.build [(.int .i64 0),(.int .i64 0),(.int .i64 0)] [(0,1,(oK 1)),(1,2,(.t 3))]),
 oM 5 (.build [(.int .i64 0),(.int .i64 0),(.int .i64 0)] [(0,1,(oK 2))]),oM 6 (.build [(.int .i64 0),(.int .i64 0)] [(0,1,(oK 3)),(1,1,(oK 3))]),
 oM 7 (.build [(.int .i64 0),(.int .i64 0),(.int .i64 0)] [(0,1,(oK 2)),(1,2,(.t 6))]),oM 8 (.bsl 1 57 3 [(.t 2),(.t 4),(.t 5),(.t 7)] []),oM
 9 (.bsl 2 3 1 [(oK 0),(oK 2),(oK 4),(oK 6)] []),oM 10 (.build [(.int .i64 0), .nils] [(0,1,(oK 10)),(1,1,(.t 9))]),oM 11 (.bsl 3 3 1 [(oK 0),
 (oK 1),(oK 2),(oK 3)] []),oM 12 (.build [(.int .i64 0), .nils] [(0,1,(oK 20)),(1,1,(.t 11))]),oM 13 (.bsl 4 3 1 [(oK 6),(oK 6),(oK 6),(oK 6)]
 []),oM 14 (.build [(.int .i64 0), .nils] [(0,1,(oK 5)),(1,1,(.t 13))]),oM 15 (.bsl 5 64 2 [(.t 10),(.t 12),(.t 14)] []),oM 16 (.build [(.int
 .i64 0),(.int .i64 0), .nils,(.int .i64 0), .nils,(.int .i64 0),(.int .i64 0)] [(0,1,(oK 3)),(1,1,(oK 2)),(2,1,(.t 8)),(3,1,(oK 1)),(4,
 1,(.t 15)),(5,1,(oK 1)),(6,1,(oK 7))]),oS (.stz true 7 (.t 0) (.t 16) [])] .ret))
theorem ok45:FnOk Try.prog 45 17 6 c45 [.cell 0 true 7]:=⟨_,_,Try.func45,rfl,rfl,by kernel_rfl,by kernel_rfl⟩
theorem bd45:bodied Try.prog 45=true:=by kernel_rfl
def c46:CI:=(oR [oM 1 (.box 0 true (.t 0)),oM 2 (.mv (.c (.bool false)))] (oR [oF 3 0 1,oL 4 3,oM 5 (.call 76 [(.t 4),(oK 1),
 (oK 6)]),oV 6 5,oG 6 true (oF 7 1 1),oG 6 true (oL 8 7),oG 6 true (oM 9 (.call 76 [(.t 8),(oK 0),(oK 3)])),oM 10 (.pick (.t 6) (.t 9) (.c (.bool
 false))),oV 11 10,oG 11 true (oF 12 3 1),oG 11 true (oL 13 12),oG 11 true (oM 14 (.call 76 [(.t 13),(oK 0),(oK 10)])),oM 15 (.pick (.t 11) (.t 14)
 (.c (.bool false))),oV 16 15,oG 16 true (oF 17 5 1),oG 16 true (oL 18 17),oG 16 true (oM 19 (.call 76 [(.t 18),(oK 0),(oK 4)])),oM 20 (.pick (.t
 16) (.t 19) (.c (.bool false))),oV 21 20,oG 21 true (oF 22 6 1),oG 21 true (oL 23 22),oG 21 true (oM 24 (.call 76 [(.t 23),(oK 0),(oK 999)])),oM
 25 (.pick (.t 21) (.t 24) (.c (.bool false))),oV 26 25,oG 26 true (oF 27 2 1),oG 26 true (oL 28 27),oG 26 true (oN 29 28),oG 26 true (oM 30 (.bin
 .leq (.t 29) (oK 10))),oM 31 (.pick (.t 26) (.t 30) (.c (.bool false))),oV 32 31,oG 32 true (oF 33 4 1),oG 32 true (oL 34 33),oG 32 true (oN 35 34),
 oG 32 true (oM 36 (.call 76 [(.t 35),(oK 1),(oK 4)])),oM 37 (.pick (.t 32) (.t 36) (.c (.bool false))),oV 2 37] .ret))
theorem ok46:FnOk Try.prog 46 38 1 c46 [.t 2]:=⟨_,_,Try.func46,rfl,rfl,by kernel_rfl,by kernel_rfl⟩
theorem bd46:bodied Try.prog 46=true:=by kernel_rfl
def c47:CI:=(oR [oM 4 (.mv (.c (.bool false)))] (.seq (oR [oV 7 0,oN 8 7,oM 9 (.mv (oK 0))] (.block 0 (.loop (oR [oM 10
 (.bin .lss (.t 9) (.t 8))] (.seq (.cond (.t 10) .skip (.exit 0)) (.seq (.block 1 (oR [oI 11 3 7 9,oW 12 3 11,oM 6 (.alloc 0 [(.int .i64 0),
 (.int .i64 0),(.int .i64 0)]),oS (.store true 3 (.t 6) (.t 12) [])] (oR [oV 13 1,oW 14 3 6,oM 15 (.callx (.t 13) [(.t 14)]),oM 16 (.un .not
 (.t 15))] (.cond (.t 16) (oR [oM 4 (.mv (.c (.bool false)))] .ret) .skip)))) (.reg [oM 17 (.bin .add (.t 9) (oK 1)),oV 9 17]))))))) (oR [oM 4 (.mv (.c (.bool true)))] .ret)))
theorem ok47:FnOk Try.prog 47 18 1 c47 [.t 4]:=⟨_,_,Try.func47,rfl,rfl,by kernel_rfl,by kernel_rfl⟩
theorem bd47:bodied Try.prog 47=true:=by kernel_rfl
def c48:CI:=(oR [oM 2 (.box 0 true (.t 0)),oM 3 (.mv (.c (.bool false)))] (oR [oW 4 7 1,oW 5 3 2,oM 6 (.call 49 [(.t 4),(.t 5)]),
 oV 3 6] .ret))
theorem ok48:FnOk Try.prog 48 7 1 c48 [.t 3]:=⟨_,_,Try.func48,rfl,rfl,by kernel_rfl,by kernel_rfl⟩
theorem bd48:bodied Try.prog 48=true:=by kernel_rfl
def c49:CI:=(oR [oM 2 (.box 0 true (.t 0)),oM 3 (.box 1 true (.t 1)),oM 4 (.mv (.c (.bool false)))] (oR [oW 5 7 2,oF 6 0 3,oL
 7 6,oM 8 (.call 59 [(.t 5),(.t 7)]),oV 9 8,oG 9 true (oF 10 1 3),oG 9 true (oF 11 0 10),oG 9 true (oL 12 11),oG 9 true (oF 13 1 3),oG 9 true (oF
 14 1 13),oG 9 true (oL 15 14),oG 9 true (oM 16 (.call 76 [(.t 12),(oK 0),(.t 15)])),oM 17 (.pick (.t 9) (.t 16) (.c (.bool false))),oV 18 17,oG
 18 true (oF 19 1 3),oG 18 true (oF 20 1 19),oG 18 true (oL 21 20),oG 18 true (oM 22 (.bin .leq (.t 21) (oK 3))),oM 23 (.pick (.t 18) (.t 22) (.c (.bool
 false))),oV 4 23] .ret))
theorem ok49:FnOk Try.prog 49 24 2 c49 [.t 4]:=⟨_,_,Try.func49,rfl,rfl,by kernel_rfl,by kernel_rfl⟩
theorem bd49:bodied Try.prog 49=true:=by kernel_rfl
def c50:CI:=(oR [oM 4 (.mv (.c (.bool false)))] (.seq (oR [oV 7 0,oN 8 7,oM 9 (.mv (oK 0))] (.block 0 (.loop (oR [oM 10
 (.bin .lss (.t 9) (.t 8))] (.seq (.cond (.t 10) .skip (.exit 0)) (.seq (.block 1 (oR [oI 11 2 7 9,oW 12 2 11,oM 6 (.alloc 0 [(.int .i64 0),
 .nils]),oS (.stz true 2 (.t 6) (.t 12) [])] (oR [oV 13 1,oW 14 2 6,oM 15 (.callx (.t 13) [(.t 14)]),oM 16 (.un .not (.t 15))] (.cond (.t
 16) (oR [oM 4 (.mv (.c (.bool false)))] .ret) .skip)))) (.reg [oM 17 (.bin .add (.t 9) (oK 1)),oV 9 17]))))))) (oR [oM 4 (.mv (.c (.bool
 true)))] .ret)))
theorem ok50:FnOk Try.prog 50 18 1 c50 [.t 4]:=⟨_,_,Try.func50,rfl,rfl,by kernel_rfl,by kernel_rfl⟩
theorem bd50:bodied Try.prog 50=true:=by kernel_rfl
def c51:CI:=(oR [oM 1 (.box 0 true (.t 0)),oM 2 (.mv (.c (.bool false)))] (oR [oF 3 0 1,oL 4 3,oM 5 (.call 76 [(.t 4),(oK 0),
 (oK 999)]),oV 6 5,oG 6 true (oF 7 1 1),oG 6 true (oL 8 7),oG 6 true (oN 9 8),oG 6 true (oM 10 (.bin .eql (.t 9) (oK 4))),oM 11 (.pick (.t 6) (.t
 10) (.c (.bool false))),oV 12 11,oG 12 true (oF 13 1 1),oG 12 true (oL 14 13),oG 12 true (oM 15 (.call 77 [(.t 14),(.c (.fn 78 []))])),oM 16 (.pick
 (.t 12) (.t 15) (.c (.bool false))),oV 2 16] .ret))
theorem ok51:FnOk Try.prog 51 17 1 c51 [.t 2]:=⟨_,_,Try.func51,rfl,rfl,by kernel_rfl,by kernel_rfl⟩
theorem bd51:bodied Try.prog 51=true:=by kernel_rfl
def c52:CI:=(oR [oM 6 (.mv (.c (.bool false)))] (oR [oV 7 0,oV 8 1,oV 9 2,oM 10 (.call 79 [(.t 7),(.t 8),(.t 9)]),oV 6 10]
 .ret))
theorem ok52:FnOk Try.prog 52 11 0 c52 [.t 6]:=⟨_,_,Try.func52,rfl,rfl,by kernel_rfl,by kernel_rfl⟩
theorem bd52:bodied Try.prog 52=true:=by kernel_rfl
def c53:CI:=(oR [oM 3 (.box 0 false (.t 0)),oM 4 (.box 1 false (.t 1)),oM 5 (.box 2 false (.t 2)),oM 6 (.mv (.c (.lit (.nilFunc))))] (oR [oM 7 (.mkfn 80 [(.t 3),(.t 4),(.t 5)]),oV 6 7] .ret))
theorem ok53:FnOk Try.prog 53 8 3 c53 [.t 6]:=⟨_,_,Try.func53,rfl,rfl,by kernel_rfl,by kernel_rfl⟩
theorem bd53:bodied Try.prog 53=true:=by kernel_rfl
def c54:CI:=(oR [oM 4 (.mv (oK 0))] (oR [oM 5 (.mv (oK 0))] (.seq (oR [oV 8 0,oN 9 8,oM 10 (.mv (oK 0))] (.block 0 (.loop
 (oR [oM 11 (.bin .lss (.t 10) (.t 9))] (.seq (.cond (.t 11) .skip (.exit 0)) (.seq (.block 1 (oR [oI 12 3 8 10,oW 13 3 12,oM 7 (.alloc
 0 [(.int .i64 0),(.int .i64 0),(.int .i64 0)]),oS (.store true 3 (.t 7) (.t 13) [])] (oR [oW 14 3 7,oV 15 1,oM 16 (.call 64 [(.t 14),(.t
 15)]),oM 17 (.un .not (.t 16))] (.cond (.t 17) (.reg [oV 18 5,oM 19 (.bin .add (.t 18) (oK 1)),oV 5 19]) .skip)))) (.reg [oM 20 (.bin .add (.t 10)
 (oK 1)),oV 10 20]))))))) (oR [oV 21 5,oV 4 21] .ret))))
theorem ok54:FnOk Try.prog 54 22 1 c54 [.t 4]:=⟨_,_,Try.func54,rfl,rfl,by kernel_rfl,by kernel_rfl⟩
theorem bd54:bodied Try.prog 54=true:=by kernel_rfl
def c55:CI:=(oR [oM 8 (.mv oZ)] (.seq (oR [oV 11 0,oN 12 11,oV 13 1,oM 14 (.bin .eql (.t 12) (.t 13))] (.cond (.t 14) (oR [oV 15 0,oM 16 (.bsl 0 35 1 [(.t 15)] []),oV 8 16] .ret) .skip)) (oR [oM 9 (.mv oZ)] (.seq (oR [oM 10 (.mv (oK 0))] (.block 0 (.loop
 (.seq (oR [oV 17 10,oV 18 2,oM 19 (.bin .leq (.t 17) (.t 18))] (.cond (.t 19) .skip (.exit 0))) (.seq (.block 1 (.seq (oR [oV 22 0,
 oN 23 22,oM 24 (.bin .gtr (.t 23) (oK 0)),oV 25 24,oG 25 true (oV 26 10),oG 25 true (oV 27 0),oG 25 true (oV 28 0),oG 25 true (oN 29 28),oG 25 true
 (oM 30 (.bin .sub (.t 29) (oK 1))),oG 25 true (oI 31 1 27 30),oG 25 true (oL 32 31),oG 25 true (oM 33 (.bin .sub (.t 26) (.t 32))),oG 25 true (oV 34
 3),oG 25 true (oM 35 (.un .neg (.t 34))),oG 25 true (oV 36 3),oG 25 true (oM 37 (.call 52 [(.t 33),(.t 35),(.t 36)])),oG 25 true (oM 38 (.un .not
 (.t 37))),oM 39 (.pick (.t 25) (.t 38) (.c (.bool false)))] (.cond (.t 39) (.exit 1) .skip)) (.reg [oV 40 9,oM 41 (.bsl 1 3 1 [] []),oV 42 0,oM 43
 (.apd 2 3 1 8 (.t 41) (.t 42) []),oV 44 10,oM 45 (.bsl 3 3 1 [(.t 44)] []),oM 46 (.apd 4 3 1 8 (.t 43) (.t 45) []),oV 47 1,oV 48 2,oV 49 3,oM 50
 (.callw 5 1 55 [(.t 46),(.t 47),(.t 48),(.t 49)]),oM 51 (.apd 6 35 1 24 (.t 40) (.t 50) []),oV 9 51]))) (.reg [oV 20 10,oM 21 (.bin .add (.t 20)
 (oK 1)),oV 10 21])))))) (oR [oV 52 9,oV 8 52] .ret)))))
theorem ok55:FnOk Try.prog 55 53 7 c55 [.t 8]:=⟨_,_,Try.func55,rfl,rfl,by kernel_rfl,by kernel_rfl⟩
theorem bd55:bodied Try.prog 55=true:=by kernel_rfl
def c56:CI:=(oR [oM 2 (.box 0 true (.t 0)),oM 4 (.mv (oK 0))] (oR [oM 5 (.mv (oK 0))] (.seq (oR [oM 6 (.mv (oK 0))] (.block
 0 (.loop (.seq (oR [oV 7 6,oF 8 2 2,oL 9 8,oN 10 9,oM 11 (.bin .lss (.t 7) (.t 10))] (.cond (.t 11) .skip (.exit 0))) (.seq (.block 1 (oR [oF 14 2 2,oL 15 14,oV 16 6,oI 17 3 15 16,oW 18 3 17,oV 19 1,oM 20 (.call 41 [(.t 18),(.t 19)]),oM 21 (.un .not (.t 20))] (.cond (.t 21)
 (.reg [oV 22 5,oM 23 (.bin .add (.t 22) (oK 1)),oV 5 23]) .skip))) (.reg [oV 12 6,oM 13 (.bin .add (.t 12) (oK 1)),oV 6 13])))))) (oR [oV 24
 5,oV 4 24] .ret))))
theorem ok56:FnOk Try.prog 56 25 1 c56 [.t 4]:=⟨_,_,Try.func56,rfl,rfl,by kernel_rfl,by kernel_rfl⟩
theorem bd56:bodied Try.prog 56=true:=by kernel_rfl
def c57:CI:=(oR [oM 2 (.box 0 true (.t 0)),oM 4 (.alloc 1 [(.int .i64 0),(.int .i64 0), .nils,(.int .i64 0), .nils,(.int .i64 0),(.int
 .i64 0), .nils]),oM 5 (.mv (oK 0))] (.seq (oR [oW 8 7 2,oM 9 (.call 15 [(.t 8)]),oV 6 9] (oR [oV 10 6,oM 11 (.bin .neq (.t 10) (oK
 0))] (.cond (.t 11) (oR [oM 12 (.build [(.int .i64 0),(.int .i64 0), .nils,(.int .i64 0), .nils,(.int .i64 0),(.int .i64 0), .nils] []),oV
 13 6,oS (.stz true 8 (.t 4) (.t 12) []),oV 5 13] .ret) .skip))) (.seq (oR [oV 14 1,oM 15 (.un .not (.t 14))] (.cond (.t 15) (oR [oM
 16 (.build [(.int .i64 0),(.int .i64 0), .nils,(.int .i64 0), .nils,(.int .i64 0),(.int .i64 0), .nils] []),oS (.stz true 8 (.t 4) (.t 16) []),oM
 5 (.mv (oK 1))] .ret) .skip)) (oR [oW 17 7 2,oM 18 (.callw 2 3 83 [(.t 17)]),oM 7 (.alloc 5 [(.int .i64 0),(.int .i64 0), .nils,(.int .i64
 0), .nils,(.int .i64 0),(.int .i64 0), .nils]),oS (.stz true 8 (.t 7) (.t 18) [])] (.seq (oR [oF 19 7 7,oL 20 19,oN 21 20,oM 22 (.bin .eql
 (.t 21) (oK 0))] (.cond (.t 22) (oR [oM 23 (.build [(.int .i64 0),(.int .i64 0), .nils,(.int .i64 0), .nils,(.int .i64 0),(.int .i64 0), .nils]
 []),oS (.stz true 8 (.t 4) (.t 23) []),oM 5 (.mv (oK 3))] .ret) .skip)) (oR [oW 24 8 7,oS (.stz true 8 (.t 4) (.t 24) []),oM 5 (.mv (oK 0))]
 .ret))))))
theorem ok57:FnOk Try.prog 57 25 6 c57 [.cell 4 true 8, .t 5]:=⟨_,_,Try.func57,rfl,rfl,by kernel_rfl,by kernel_rfl⟩
theorem bd57:bodied Try.prog 57=true:=by kernel_rfl
def c58:CI:=(oR [oM 2 (.box 0 true (.t 0)),oM 4 (.mv oZ),oM 5 (.mv (oK 0))] (.seq (oR [oW 10 7 2,oM 11 (.call 16 [(.t 10)]),oV
 6 11] (oR [oV 12 6,oM 13 (.bin .neq (.t 12) (oK 0))] (.cond (.t 13) (oR [oV 14 6,oM 4 (.mv oZ),oV 5 14] .ret) .skip))) (.seq (oR [oV 15 1,oM 16 (.un .not (.t 15))] (.cond (.t 16) (oR [oM 4 (.mv oZ),oM 5 (.mv (oK 1))] .ret) .skip)) (oR [oM 7 (.mv oZ)] (oR [oF 17 0 2,oL 18 17,oF 19 1 2,oL 20 19,oM 21 (.callw 1 1 55 [oZ,(.t 18),(oK 3),(.t 20)]),oV 8 21] (.seq (oR [oM 9 (.mv (oK 0))]
 (.block 0 (.loop (.seq (oR [oV 22 9,oV 23 8,oN 24 23,oM 25 (.bin .lss (.t 22) (.t 24))] (.cond (.t 25) .skip (.exit 0))) (.seq (.block 1 (oR [oW 28 7 2,oV 29 8,oV 30 9,oI 31 1 29 30,oL 32 31,oF 34 3 2,oL 35 34,oM 33 (.call 56 [(.t 28),(.t 32)]),oM 36 (.bin .leq (.t 33) (.t 35))]
 (.cond (.t 36) (.reg [oV 37 7,oV 38 8,oV 39 9,oI 40 1 38 39,oL 41 40,oM 42 (.bsl 2 35 1 [(.t 41)] []),oM 43 (.apd 3 35 1 24 (.t 37) (.t 42) []),
 oV 7 43]) .skip))) (.reg [oV 26 9,oM 27 (.bin .add (.t 26) (oK 1)),oV 9 27])))))) (.seq (oR [oV 44 7,oN 45 44,oM 46 (.bin .eql (.t 45) (oK
 0))] (.cond (.t 46) (oR [oM 4 (.mv oZ),oM 5 (.mv (oK 3))] .ret) .skip)) (oR [oV 47 7,oV 4 47,oM 5 (.mv (oK 0))] .ret))))))))
theorem ok58:FnOk Try.prog 58 48 4 c58 [.t 4, .t 5]:=⟨_,_,Try.func58,rfl,rfl,by kernel_rfl,by kernel_rfl⟩
theorem bd58:bodied Try.prog 58=true:=by kernel_rfl
def c59:CI:=(oR [oM 2 (.box 0 true (.t 0)),oM 4 (.mv (.c (.bool false)))] (oR [oV 5 1,oF 6 0 2,oL 7 6,oM 8 (.bin .sub (.t 7) (oK
 1)),oM 9 (.call 76 [(.t 5),(oK 0),(.t 8)]),oV 4 9] .ret))
theorem ok59:FnOk Try.prog 59 10 1 c59 [.t 4]:=⟨_,_,Try.func59,rfl,rfl,by kernel_rfl,by kernel_rfl⟩
theorem bd59:bodied Try.prog 59=true:=by kernel_rfl
def c60:CI:=(oR [oM 4 (.mv (.c (.bool false)))] (oR [oV 5 0,oV 6 1,oM 7 (.call 84 [(.t 5),(.t 6)]),oM 8 (.bin .geq (.t 7) (oK
 0)),oV 4 8] .ret))
theorem ok60:FnOk Try.prog 60 9 0 c60 [.t 4]:=⟨_,_,Try.func60,rfl,rfl,by kernel_rfl,by kernel_rfl⟩
theorem bd60:bodied Try.prog 60=true:=by kernel_rfl
def c61:CI:=(oR [oM 3 (.box 0 true (.t 0)),oM 4 (.mv (.c (.bool false)))] (oR [oF 5 0 3,oL 6 5,oL 7 1,oI 8 1 6 7,oL 9 8,oL 10
 2,oM 11 (.bin .eql (.t 9) (.t 10)),oV 4 11] .ret))
theorem ok61:FnOk Try.prog 61 12 1 c61 [.t 4]:=⟨_,_,Try.func61,rfl,rfl,by kernel_rfl,by kernel_rfl⟩
theorem bd61:bodied Try.prog 61=true:=by kernel_rfl
def c62:CI:=(oR [oM 4 (.mv (.c (.bool false)))] (oR [oV 5 0,oV 6 1,oM 7 (.call 85 [(.t 5),(.t 6)]),oV 4 7] .ret))
theorem ok62:FnOk Try.prog 62 8 0 c62 [.t 4]:=⟨_,_,Try.func62,rfl,rfl,by kernel_rfl,by kernel_rfl⟩
theorem bd62:bodied Try.prog 62=true:=by kernel_rfl
def c63:CI:=(oR [oM 2 (.box 0 true (.t 0)),oM 4 (.mv (.c (.bool false)))] (oR [oV 5 1,oF 6 2 2,oL 7 6,oN 8 7,oM 9 (.bin .sub
 (.t 8) (oK 1)),oM 10 (.call 76 [(.t 5),(oK 0),(.t 9)]),oV 4 10] .ret))
theorem ok63:FnOk Try.prog 63 11 1 c63 [.t 4]:=⟨_,_,Try.func63,rfl,rfl,by kernel_rfl,by kernel_rfl⟩
theorem bd63:bodied Try.prog 63=true:=by kernel_rfl
def c64:CI:=(oR [oM 2 (.box 0 true (.t 0)),oM 4 (.mv (.c (.bool false)))] (oR [oV 5 1,oF 6 0 2,oL 7 6,oI 8 1 5 7,oL 9 8,oF 10
 1 2,oF 11 0 10,oL 12 11,oF 13 1 2,oF 14 1 13,oL 15 14,oM 16 (.call 76 [(.t 9),(.t 12),(.t 15)]),oV 4 16] .ret))
theorem ok64:FnOk Try.prog 64 17 1 c64 [.t 4]:=⟨_,_,Try.func64,rfl,rfl,by kernel_rfl,by kernel_rfl⟩
theorem bd64:bodied Try.prog 64=true:=by kernel_rfl
def c65:CI:=(oR [oM 3 (.box 0 true (.t 0)),oM 6 (.alloc 1 [(.int .i64 0),(.int .i64 0)]),oM 7 (.mv (oK 0))] (oR [oW 11 7 3,oW
 12 7 3,oV 13 1,oM 8 (.alloc 5 [(.int .i64 0),(.int .i64 0), .nils,(.int .i64 0), .nils,(.int .i64 0),(.int .i64 0), .nils]),oM 14 (.call 86 [(.t
 12),(.t 13)]),oM 15 (.callz 2 3 57 [(.t 11),(.t 14)] []),oV 10 15,oX 16 0 10,oX 17 1 10,oS (.stz true 8 (.t 8) (.t 16) []),oV 9 17] (.seq (oR [oV 18 9,oM 19 (.bin .neq (.t 18) (oK 0))] (.cond (.t 19) (oR [oM 20 (.build [(.int .i64 0),(.int .i64 0)] []),oV 21 9,oS (.store true
 2 (.t 6) (.t 20) []),oV 7 21] .ret) .skip)) (oR [oW 22 8 8,oV 23 1,oV 24 2,oM 25 (.call 73 [(.t 22),(.t 23),(.t 24)]),oS (.store true 2
 (.t 6) (.t 25) []),oM 7 (.mv (oK 0))] .ret))))
theorem ok65:FnOk Try.prog 65 26 6 c65 [.cell 6 true 2, .t 7]:=⟨_,_,Try.func65,rfl,rfl,by kernel_rfl,by kernel_rfl⟩
theorem bd65:bodied Try.prog 65=true:=by kernel_rfl
def c66:CI:=(oR [oM 1 (.box 0 true (.t 0)),oM 2 (.mv (oK 0))] (oR [oF 3 0 1,oL 4 3,oV 2 4] .ret))
theorem ok66:FnOk Try.prog 66 5 1 c66 [.t 2]:=⟨_,_,Try.func66,rfl,rfl,by kernel_rfl,by kernel_rfl⟩
theorem bd66:bodied Try.prog 66=true:=by kernel_rfl
def c67:CI:=(oR [oM 3 (.box 0 true (.t 0)),oM 6 (.alloc 1 [(.int .i64 0),(.int .i64 0)])] (oR [oM 7 (.alloc 2 [(.int .i64 0),(.int
 .i64 0)])] (.seq (oR [oM 8 (.mv (oK 0))] (.block 0 (.loop (.seq (oR [oV 11 8,oV 12 1,oN 13 12,oM 14 (.bin .lss (.t 11) (.t 13))]
 (.cond (.t 14) .skip (.exit 0))) (.seq (.block 1 (oR [oW 18 7 3,oV 19 2,oV 20 1,oV 21 8,oI 22 1 20 21,oL 23 22,oM 24 (.call 38 [(.t 18),
 (.t 19),(.t 23)]),oV 17 24,oX 25 0 17,oX 26 1 17,oV 9 25,oV 10 26] (.reg [oW 27 2 7,oV 28 9,oV 29 8,oM 30 (.bin .eql (.t 29) (oK 0)),oM 31 (.call
 69 [(.t 27),(.t 28),(.t 30)]),oS (.store true 2 (.t 7) (.t 31) [])]))) (.reg [oV 15 8,oM 16 (.bin .add (.t 15) (oK 1)),oV 8 16])))))) (oR [oW 32 2 7,oS (.store true 2 (.t 6) (.t 32) [])] .ret))))
theorem ok67:FnOk Try.prog 67 33 3 c67 [.cell 6 true 2]:=⟨_,_,Try.func67,rfl,rfl,by kernel_rfl,by kernel_rfl⟩
theorem bd67:bodied Try.prog 67=true:=by kernel_rfl
def c68:CI:=(oR [oM 1 (.box 0 true (.t 0)),oM 2 (.mv (oK 0))] (oR [oF 3 1 1,oL 4 3,oV 2 4] .ret))
theorem ok68:FnOk Try.prog 68 5 1 c68 [.t 2]:=⟨_,_,Try.func68,rfl,rfl,by kernel_rfl,by kernel_rfl⟩
theorem bd68:bodied Try.prog 68=true:=by kernel_rfl
def c69:CI:=(oR [oM 3 (.box 0 true (.t 0)),oM 6 (.alloc 1 [(.int .i64 0),(.int .i64 0)])] (.seq (oR [oV 7 2] (.cond (.t 7) (oR [oV 8 1,oV 9 1,oM 10 (.build [(.int .i64 0),(.int .i64 0)] [(0,1,(.t 8)),(1,1,(.t 9))]),oS (.store true 2 (.t 6) (.t 10) [])] .ret) .skip))
 (oR [oF 11 0 3,oL 12 11,oV 13 1,oM 14 (.mm false [(.t 12),(.t 13)]),oF 15 1 3,oL 16 15,oV 17 1,oM 18 (.mm true [(.t 16),(.t 17)]),oM
 19 (.build [(.int .i64 0),(.int .i64 0)] [(0,1,(.t 14)),(1,1,(.t 18))]),oS (.store true 2 (.t 6) (.t 19) [])] .ret)))
theorem ok69:FnOk Try.prog 69 20 2 c69 [.cell 6 true 2]:=⟨_,_,Try.func69,rfl,rfl,by kernel_rfl,by kernel_rfl⟩
theorem bd69:bodied Try.prog 69=true:=by kernel_rfl
def c70:CI:=(oR [oM 1 (.box 0 true (.t 0)),oM 2 (.alloc 1 [.nils]),oM 3 (.alloc 2 [(.int .i64 0)])] (oR [oS (.store false 1 (.t
 3) (oK (-1)) [])] (.seq (oR [oW 5 8 1,oM 6 (.callw 3 0 72 [(.t 5)])] (.block 0 (.rng (.t 6) [7] (.reg [oV 4 7]) (.block 1 (oR [oW 8
 8 1,oV 9 4,oL 10 3,oM 11 (.call 87 [(.t 8),(.t 9),(.t 10)])] (.cond (.t 11) (.reg [oV 12 4,oW 14 8 1,oV 15 4,oM 13 (.callz 3 1 88 [(.t 12)] []),
 oM 16 (.call 73 [(.t 14),(.t 15),(.c (.fn 66 []))]),oM 17 (.field false 1 0 (.t 16)),oS (.stz false 1 (.t 2) (.t 13) []),oS (.store false 1 (.t 3)
 (.t 17) [])]) .skip)))))) (oR [oL 18 2,oL 19 3,oS (.stz false 1 (.t 2) (.t 18) [(.t 3)]),oS (.store false 1 (.t 3) (.t 19) [])] .ret))))
theorem ok70:FnOk Try.prog 70 20 4 c70 [.cell 2 false 1, .cell 3 false 1]:=⟨_,_,Try.func70,rfl,rfl,by kernel_rfl,by kernel_rfl⟩
theorem bd70:bodied Try.prog 70=true:=by kernel_rfl
def c71:CI:=(oR [oM 1 (.box 0 true (.t 0)),oM 2 (.mv oZ)] (oR [oF 3 0 1,oL 4 3,oF 5 4 1,oL 6 5,oN 7 6,oM 8 (.bin .sub (.t 7)
 (oK 1)),oF 9 5 1,oL 10 9,oM 11 (.callw 1 1 55 [oZ,(.t 4),(.t 8),(.t 10)]),oV 2 11] .ret))
theorem ok71:FnOk Try.prog 71 12 2 c71 [.t 2]:=⟨_,_,Try.func71,rfl,rfl,by kernel_rfl,by kernel_rfl⟩
theorem bd71:bodied Try.prog 71=true:=by kernel_rfl
def c72:CI:=(oR [oM 1 (.box 0 true (.t 0)),oM 2 (.mv (.c (.lit (.nilFunc))))] (oR [oF 3 0 1,oF 4 0 3,oL 5 4,oF 6 0 1,oF 7 4 6,
 oL 8 7,oN 9 8,oM 10 (.bin .sub (.t 9) (oK 1)),oF 11 0 1,oF 12 5 11,oL 13 12,oM 14 (.callw 1 0 53 [(.t 5),(.t 10),(.t 13)]),oV 2 14] .ret))
theorem ok72:FnOk Try.prog 72 15 1 c72 [.t 2]:=⟨_,_,Try.func72,rfl,rfl,by kernel_rfl,by kernel_rfl⟩
theorem bd72:bodied Try.prog 72=true:=by kernel_rfl
def c73:CI:=(oR [oM 3 (.box 0 true (.t 0)),oM 5 (.box 1 false (.t 2)),oM 6 (.alloc 2 [(.int .i64 0),(.int .i64 0)])] (oR [oM 10
 (.build [(.int .i64 0),(.int .i64 0)] [(0,1,(oK 9223372036854775807)),(1,1,(oK (-9223372036854775808)))]),oM 7 (.alloc 3 [(.int .i64 0),(.int .i64
 0)]),oS (.store true 2 (.t 7) (.t 10) [])] (.seq (oR [oW 11 8 3,oV 12 1,oM 13 (.callw 4 0 89 [(.t 11),(.t 12)])] (.block 0 (.rng (.t 13)
 [14] (.reg [oM 8 (.alloc 4 [(.int .i64 0),(.int .i64 0)]),oS (.store true 2 (.t 8) (.t 14) [])]) (.block 1 (oR [oL 15 5,oW 16 2 8,oM 17 (.callx
 (.t 15) [(.t 16)]),oV 9 17] (.reg [oF 18 0 7,oL 19 18,oV 20 9,oM 21 (.mm false [(.t 19),(.t 20)]),oF 22 1 7,oL 23 22,oV 24 9,oM 25 (.mm true
 [(.t 23),(.t 24)]),oF 26 0 7,oS (.store false 1 (.t 26) (.t 21) []),oF 27 1 7,oS (.store false 1 (.t 27) (.t 25) [])])))))) (oR [oW 28 2 7,
 oS (.store true 2 (.t 6) (.t 28) [])] .ret))))
theorem ok73:FnOk Try.prog 73 29 5 c73 [.cell 6 true 2]:=⟨_,_,Try.func73,rfl,rfl,by kernel_rfl,by kernel_rfl⟩
theorem bd73:bodied Try.prog 73=true:=by kernel_rfl
def c74:CI:=(oR [oM 2 (.box 0 true (.t 0)),oM 4 (.mv (.c (.bool false)))] (oR [oV 5 1,oF 6 0 2,oL 7 6,oF 8 1 2,oL 9 8,oM 10
 (.call 75 [(.t 5),(.t 7),(oK 3),(.t 9)]),oV 11 10,oG 11 true (oW 12 7 2),oG 11 true (oV 13 1),oG 11 true (oF 15 3 2),oG 11 true (oL 16 15),oG
 11 true (oM 14 (.call 56 [(.t 12),(.t 13)])),oG 11 true (oM 17 (.bin .leq (.t 14) (.t 16))),oM 18 (.pick (.t 11) (.t 17) (.c (.bool false))),oV 4 18]
 .ret))
theorem ok74:FnOk Try.prog 74 19 1 c74 [.t 4]:=⟨_,_,Try.func74,rfl,rfl,by kernel_rfl,by kernel_rfl⟩
theorem bd74:bodied Try.prog 74=true:=by kernel_rfl
def c75:CI:=(oR [oM 8 (.mv (.c (.bool false)))] (.seq (oR [oM 9 (.mv (oK 0))] (.block 0 (.loop (.seq (oR [oV 10 9,oV 11
 0,oN 12 11,oM 13 (.bin .lss (.t 10) (.t 12))] (.cond (.t 13) .skip (.exit 0))) (.seq (.block 1 (oR [oV 16 0,oV 17 9,oI 18 1 16 17,oL 19 18,
 oV 20 2,oM 21 (.call 52 [(.t 19),(oK 0),(.t 20)]),oM 22 (.un .not (.t 21)),oV 23 22,oG 23 false (oV 24 9),oG 23 false (oM 25 (.bin .gtr (.t 24)
 (oK 0))),oG 23 false (oV 26 25),oG 26 true (oV 27 0),oG 26 true (oV 28 9),oG 26 true (oI 29 1 27 28),oG 26 true (oL 30 29),oG 26 true (oV 31 0),
 oG 26 true (oV 32 9),oG 26 true (oM 33 (.bin .sub (.t 32) (oK 1))),oG 26 true (oI 34 1 31 33),oG 26 true (oL 35 34),oG 26 true (oM 36 (.bin .sub (.t
 30) (.t 35))),oG 26 true (oV 37 3),oG 26 true (oM 38 (.un .neg (.t 37))),oG 26 true (oV 39 3),oG 26 true (oM 40 (.call 52 [(.t 36),(.t 38),(.t 39)])),
 oG 26 true (oM 41 (.un .not (.t 40))),oG 23 false (oM 42 (.pick (.t 26) (.t 41) (.c (.bool false)))),oM 43 (.pick (.t 23) (.c (.bool true)) (.t 42))]
 (.cond (.t 43) (oR [oM 8 (.mv (.c (.bool false)))] .ret) .skip))) (.reg [oV 14 9,oM 15 (.bin .add (.t 14) (oK 1)),oV 9 15])))))) (oR [oV 44 0,oN 45 44,oV 46 1,oM 47 (.bin .eql (.t 45) (.t 46)),oV 8 47] .ret)))
theorem ok75:FnOk Try.prog 75 48 0 c75 [.t 8]:=⟨_,_,Try.func75,rfl,rfl,by kernel_rfl,by kernel_rfl⟩
theorem bd75:bodied Try.prog 75=true:=by kernel_rfl
def c76:CI:=(oR [oM 6 (.mv (.c (.bool false)))] (oR [oV 7 1,oV 8 0,oM 9 (.bin .leq (.t 7) (.t 8)),oV 10 9,oG 10 true (oV 11 0),
 oG 10 true (oV 12 2),oG 10 true (oM 13 (.bin .leq (.t 11) (.t 12))),oM 14 (.pick (.t 10) (.t 13) (.c (.bool false))),oV 6 14] .ret))
theorem ok76:FnOk Try.prog 76 15 0 c76 [.t 6]:=⟨_,_,Try.func76,rfl,rfl,by kernel_rfl,by kernel_rfl⟩
theorem bd76:bodied Try.prog 76=true:=by kernel_rfl
def c77:CI:=(oR [oM 4 (.mv (.c (.bool false)))] (.seq (oR [oV 7 0,oN 8 7,oM 9 (.mv (oK 0))] (.block 0 (.loop (oR [oM 10
 (.bin .lss (.t 9) (.t 8))] (.seq (.cond (.t 10) .skip (.exit 0)) (.seq (.block 1 (oR [oI 11 1 7 9,oL 12 11,oV 6 12] (oR [oV 13 1,oV
 14 6,oM 15 (.callx (.t 13) [(.t 14)]),oM 16 (.un .not (.t 15))] (.cond (.t 16) (oR [oM 4 (.mv (.c (.bool false)))] .ret) .skip)))) (.reg [oM
 17 (.bin .add (.t 9) (oK 1)),oV 9 17]))))))) (oR [oM 4 (.mv (.c (.bool true)))] .ret)))
theorem ok77:FnOk Try.prog 77 18 0 c77 [.t 4]:=⟨_,_,Try.func77,rfl,rfl,by kernel_rfl,by kernel_rfl⟩
theorem bd77:bodied Try.prog 77=true:=by kernel_rfl
def c78:CI:=(oR [oM 2 (.mv (.c (.bool false)))] (oR [oV 3 0,oM 4 (.call 76 [(.t 3),(oK 0),(oK 99)]),oV 2 4] .ret))
theorem ok78:FnOk Try.prog 78 5 0 c78 [.t 2]:=⟨_,_,Try.func78,rfl,rfl,by kernel_rfl,by kernel_rfl⟩
theorem bd78:bodied Try.prog 78=true:=by kernel_rfl
def c79:CI:=(oR [oM 6 (.mv (.c (.bool false)))] (oR [oV 7 0,oV 8 1,oM 9 (.bin .geq (.t 7) (.t 8)),oV 10 9,oG 10 true (oV 11 0),
 oG 10 true (oV 12 2),oG 10 true (oM 13 (.bin .leq (.t 11) (.t 12))),oM 14 (.pick (.t 10) (.t 13) (.c (.bool false))),oV 6 14] .ret))
theorem ok79:FnOk Try.prog 79 15 0 c79 [.t 6]:=⟨_,_,Try.func79,rfl,rfl,by kernel_rfl,by kernel_rfl⟩
theorem bd79:bodied Try.prog 79=true:=by kernel_rfl
def c80:CI:=(oR [oM 4 (.box 0 false (.t 0))] (oR [oL 7 1,oM 8 (.mks 1 3 1 8 [(.int .i64 0)] (.t 7) (.t 7)),oM 5 (.alloc 2 [.nils]),
 oS (.stz false 1 (.t 5) (.t 8) [])] (oR [oM 6 (.alloc 3 [(.lit (.nilFunc))])] (oR [oM 9 (.mkfn 81 [(.t 1),(.t 4),(.t 5),(.t 2),(.t
 3),(.t 6)]),oS (.stz false 1 (.t 6) (.t 9) [])] (.reg [oL 10 6,oM 11 (.callx (.t 10) [(oK 0)])])))))
theorem ok80:FnOk Try.prog 80 12 4 c80 []:=⟨_,_,Try.func80,rfl,rfl,by kernel_rfl,by kernel_rfl⟩
theorem bd80:bodied Try.prog 80=true:=by kernel_rfl
def c81:CI:=(oR [oM 8 (.mv (.c (.bool false)))] (.seq (oR [oV 10 0,oL 11 1,oM 12 (.bin .eql (.t 10) (.t 11))] (.cond (.t 12) (oR [oL 13 2,oL 14 3,oM 15 (.callx (.t 13) [(.t 14)]),oV 8 15] .ret) .skip)) (.seq (oR [oL 16 4,oM 17 (.bin .add (.t 16) (oK 1)),oM 18
 (.mv (oK 0))] (.block 0 (.loop (oR [oM 19 (.bin .lss (.t 18) (.t 17))] (.seq (.cond (.t 19) .skip (.exit 0)) (.seq (.block 1 (oR [oV
 20 18,oV 9 20] (.seq (oR [oV 21 0,oM 22 (.bin .gtr (.t 21) (oK 0)),oV 23 22,oG 23 true (oL 24 3),oG 23 true (oV 25 0),oG 23 true (oM 26
 (.bin .sub (.t 25) (oK 1))),oG 23 true (oI 27 1 24 26),oG 23 true (oL 28 27),oG 23 true (oV 29 9),oG 23 true (oL 30 5),oG 23 true (oM 31 (.call 82
 [(.t 28),(.t 29),(.t 30)])),oG 23 true (oM 32 (.un .not (.t 31))),oM 33 (.pick (.t 23) (.t 32) (.c (.bool false)))] (.cond (.t 33) (.exit 1) .skip))
 (oR [oL 34 3,oV 35 0,oV 36 9,oI 37 1 34 35,oS (.store false 1 (.t 37) (.t 36) [])] (oR [oL 38 6,oV 39 0,oM 40 (.bin .add (.t 39)
 (oK 1)),oM 41 (.callx (.t 38) [(.t 40)]),oM 42 (.un .not (.t 41))] (.cond (.t 42) (oR [oM 8 (.mv (.c (.bool false)))] .ret) .skip)))))) (.reg
 [oM 43 (.bin .add (.t 18) (oK 1)),oV 18 43]))))))) (oR [oM 8 (.mv (.c (.bool true)))] .ret))))
theorem ok81:FnOk Try.prog 81 44 0 c81 [.t 8]:=⟨_,_,Try.func81,rfl,rfl,by kernel_rfl,by kernel_rfl⟩
theorem bd81:bodied Try.prog 81=true:=by kernel_rfl
def c82:CI:=(oR [oM 6 (.mv (.c (.bool false)))] (oR [oV 7 0,oV 8 1,oM 9 (.bin .sub (.t 7) (.t 8)),oV 10 2,oM 11 (.un .neg (.t
 10)),oV 12 2,oM 13 (.call 76 [(.t 9),(.t 11),(.t 12)]),oV 6 13] .ret))
theorem ok82:FnOk Try.prog 82 14 0 c82 [.t 6]:=⟨_,_,Try.func82,rfl,rfl,by kernel_rfl,by kernel_rfl⟩
theorem bd82:bodied Try.prog 82=true:=by kernel_rfl
def c83:CI:=(oR [oM 1 (.box 0 true (.t 0)),oM 2 (.alloc 1 [(.int .i64 0),(.int .i64 0), .nils,(.int .i64 0), .nils,(.int .i64 0),(.int
 .i64 0), .nils])] (oR [oW 7 7 1,oM 8 (.build [(.int .i64 0),(.int .i64 0), .nils,(.int .i64 0), .nils,(.int .i64 0),(.int .i64 0), .nils]
 [(0,7,(.t 7))]),oM 3 (.alloc 2 [(.int .i64 0),(.int .i64 0), .nils,(.int .i64 0), .nils,(.int .i64 0),(.int .i64 0), .nils]),oS (.stz true 8 (.t
 3) (.t 8) [])] (oR [oM 4 (.alloc 3 [.nils])] (.seq (oR [oF 9 0 3,oF 10 0 9,oL 11 10,oF 12 0 3,oF 13 1 12,oL 14 13,oM 15 (.callw
 4 0 53 [(.t 11),(oK 3),(.t 14)])] (.block 0 (.rng (.t 15) [16] (.reg [oV 5 16]) (.block 1 (oR [oF 17 0 3,oF 18 2 17,oL 19 18,oV 20 5,oF
 22 0 3,oF 23 3 22,oL 24 23,oM 21 (.call 54 [(.t 19),(.t 20)]),oM 25 (.bin .leq (.t 21) (.t 24))] (.cond (.t 25) (oR [oV 26 5,oL 28 4,oV
 29 5,oM 6 (.alloc 5 [.nils,(.int .i64 0)]),oM 27 (.callz 4 1 88 [(.t 26)] []),oM 30 (.call 90 [(.t 28),(.t 29)]),oM 31 (.build [.nils,(.int .i64
 0)] [(0,1,(.t 27)),(1,1,(.t 30))]),oS (.stz true 2 (.t 6) (.t 31) [])] (oR [oF 32 7 3,oL 33 32,oW 34 2 6,oM 35 (.bsl 6 89 2 [(.t 34)]
 []),oM 36 (.apd 7 89 2 32 (.t 33) (.t 35) []),oF 37 7 3,oS (.stz false 1 (.t 37) (.t 36) [])] (.reg [oF 38 0 6,oL 39 38,oS (.stz false 1 (.t 4) (.t
 39) [])]))) .skip)))))) (oR [oW 40 8 3,oS (.stz true 8 (.t 2) (.t 40) [])] .ret)))))
theorem ok83:FnOk Try.prog 83 41 8 c83 [.cell 2 true 8]:=⟨_,_,Try.func83,rfl,rfl,by kernel_rfl,by kernel_rfl⟩
theorem bd83:bodied Try.prog 83=true:=by kernel_rfl
def c84:CI:=(oR [oM 4 (.mv (oK 0))] (.seq (oR [oV 6 0,oN 7 6,oM 8 (.mv (oK 0))] (.block 0 (.loop (oR [oM 9 (.bin .lss (.t
 8) (.t 7))] (.seq (.cond (.t 9) .skip (.exit 0)) (.seq (.block 1 (oR [oV 10 8,oV 5 10] (oR [oV 11 1,oV 12 0,oV 13 5,oI 14 2 12 13,
 oW 15 2 14,oM 16 (.callx (.t 11) [(.t 15)])] (.cond (.t 16) (oR [oV 17 5,oV 4 17] .ret) .skip)))) (.reg [oM 18 (.bin .add (.t 8) (oK 1)),oV
 8 18]))))))) (oR [oM 4 (.mv (oK (-1)))] .ret)))
theorem ok84:FnOk Try.prog 84 19 0 c84 [.t 4]:=⟨_,_,Try.func84,rfl,rfl,by kernel_rfl,by kernel_rfl⟩
theorem bd84:bodied Try.prog 84=true:=by kernel_rfl
def c85:CI:=(oR [oM 4 (.mv (.c (.bool false)))] (.seq (oR [oM 5 (.mv (oK 0))] (.block 0 (.loop (.seq (oR [oV 6 5,oV 7 0,
 oN 8 7,oM 9 (.bin .lss (.t 6) (.t 8))] (.cond (.t 9) .skip (.exit 0))) (.seq (.block 1 (oR [oV 12 0,oV 13 5,oI 14 1 12 13,oL 15 14,oV 16
 1,oM 17 (.bin .eql (.t 15) (.t 16))] (.cond (.t 17) (oR [oM 4 (.mv (.c (.bool true)))] .ret) .skip))) (.reg [oV 10 5,oM 11 (.bin .add (.t 10)
 (oK 1)),oV 5 11])))))) (oR [oM 4 (.mv (.c (.bool false)))] .ret)))
theorem ok85:FnOk Try.prog 85 18 0 c85 [.t 4]:=⟨_,_,Try.func85,rfl,rfl,by kernel_rfl,by kernel_rfl⟩
theorem bd85:bodied Try.prog 85=true:=by kernel_rfl
def c86:CI:=(oR [oM 2 (.box 0 true (.t 0)),oM 4 (.mv (.c (.bool false)))] (.seq (oR [oV 6 1,oN 7 6,oF 8 0 2,oL 9 8,oM 10 (.bin
 .neq (.t 7) (.t 9)),oV 11 10,oG 11 false (oV 12 1),oG 11 false (oM 13 (.mkfn 91 [(.t 2)])),oG 11 false (oM 14 (.call 77 [(.t 12),(.t 13)])),oG 11
 false (oM 15 (.un .not (.t 14))),oM 16 (.pick (.t 11) (.c (.bool true)) (.t 15))] (.cond (.t 16) (oR [oM 4 (.mv (.c (.bool false)))] .ret) .skip))
 (.seq (oR [oM 5 (.mv (oK 1))] (.block 0 (.loop (.seq (oR [oV 17 5,oV 18 1,oN 19 18,oM 20 (.bin .lss (.t 17) (.t 19))] (.cond (.t 20)
 .skip (.exit 0))) (.seq (.block 1 (oR [oV 23 1,oV 24 5,oM 25 (.bin .sub (.t 24) (oK 1)),oI 26 1 23 25,oL 27 26,oV 28 1,oV 29 5,oI 30 1 28
 29,oL 31 30,oF 32 5 2,oL 33 32,oM 34 (.call 82 [(.t 27),(.t 31),(.t 33)]),oM 35 (.un .not (.t 34))] (.cond (.t 35) (oR [oM 4 (.mv (.c (.bool
 false)))] .ret) .skip))) (.reg [oV 21 5,oM 22 (.bin .add (.t 21) (oK 1)),oV 5 22])))))) (oR [oM 4 (.mv (.c (.bool true)))] .ret))))
theorem ok86:FnOk Try.prog 86 36 1 c86 [.t 4]:=⟨_,_,Try.func86,rfl,rfl,by kernel_rfl,by kernel_rfl⟩
theorem bd86:bodied Try.prog 86=true:=by kernel_rfl
def c87:CI:=(oR [oM 3 (.box 0 true (.t 0)),oM 5 (.box 1 false (.t 2)),oM 6 (.alloc 2 [(.bool false)])] (.seq (oR [oW 8 8 3,oV 9
 1,oM 10 (.callw 3 0 89 [(.t 8),(.t 9)])] (.block 0 (.rng (.t 10) [11] (.reg [oM 7 (.alloc 3 [(.int .i64 0),(.int .i64 0)]),oS (.store true 2 (.t 7)
 (.t 11) [])]) (.block 1 (oR [oW 12 2 7,oL 14 5,oM 13 (.call 66 [(.t 12)]),oM 15 (.bin .leq (.t 13) (.t 14))] (.cond (.t 15) (oR [oS
 (.store false 1 (.t 6) (.c (.bool false)) [])] .ret) .skip)))))) (oR [oS (.store false 1 (.t 6) (.c (.bool true)) [])] .ret)))
theorem ok87:FnOk Try.prog 87 16 4 c87 [.cell 6 false 1]:=⟨_,_,Try.func87,rfl,rfl,by kernel_rfl,by kernel_rfl⟩
theorem bd87:bodied Try.prog 87=true:=by kernel_rfl
def c88:CI:=(oR [oM 2 (.mv oZ)] (.seq (oR [oV 3 0,oM 4 (.eqn false (.t 3))] (.cond (.t 4) (oR [oM 2 (.mv oZ)] .ret) .skip))
 (oR [oM 5 (.bsl 0 3 1 [] []),oV 6 0,oM 7 (.apd 1 3 1 8 (.t 5) (.t 6) []),oV 2 7] .ret)))
theorem ok88:FnOk Try.prog 88 8 2 c88 [.t 2]:=⟨_,_,Try.func88,rfl,rfl,by kernel_rfl,by kernel_rfl⟩
theorem bd88:bodied Try.prog 88=true:=by kernel_rfl
def c89:CI:=(oR [oM 2 (.box 0 true (.t 0)),oM 3 (.box 1 false (.t 1)),oM 4 (.mv (.c (.lit (.nilFunc))))] (oR [oM 5 (.mkfn 93 [(.t
 2),(.t 3)]),oV 4 5] .ret))
theorem ok89:FnOk Try.prog 89 6 2 c89 [.t 4]:=⟨_,_,Try.func89,rfl,rfl,by kernel_rfl,by kernel_rfl⟩
theorem bd89:bodied Try.prog 89=true:=by kernel_rfl
def c90:CI:=(oR [oM 4 (.mv (oK 0))] (oR [oM 5 (.mv (oK 0))] (.seq (.block 0 (.loop (.seq (oR [oV 6 5,oV 7 0,oN 8 7,oV
 9 1,oN 10 9,oM 11 (.mm false [(.t 8),(.t 10)]),oM 12 (.bin .lss (.t 6) (.t 11)),oV 13 12,oG 13 true (oV 14 0),oG 13 true (oV 15 5),oG 13 true (oI
 16 1 14 15),oG 13 true (oL 17 16),oG 13 true (oV 18 1),oG 13 true (oV 19 5),oG 13 true (oI 20 1 18 19),oG 13 true (oL 21 20),oG 13 true (oM 22 (.bin
 .eql (.t 17) (.t 21))),oM 23 (.pick (.t 13) (.t 22) (.c (.bool false)))] (.cond (.t 23) .skip (.exit 0))) (.block 1 (.reg [oV 24 5,oM 25 (.bin .add
 (.t 24) (oK 1)),oV 5 25]))))) (oR [oV 26 5,oV 4 26] .ret))))
theorem ok90:FnOk Try.prog 90 27 0 c90 [.t 4]:=⟨_,_,Try.func90,rfl,rfl,by kernel_rfl,by kernel_rfl⟩
theorem bd90:bodied Try.prog 90=true:=by kernel_rfl
def c91:CI:=(oR [oM 3 (.mv (.c (.bool false)))] (oR [oW 4 7 1,oV 5 0,oM 6 (.call 92 [(.t 4),(.t 5)]),oV 3 6] .ret))
theorem ok91:FnOk Try.prog 91 7 0 c91 [.t 3]:=⟨_,_,Try.func91,rfl,rfl,by kernel_rfl,by kernel_rfl⟩
theorem bd91:bodied Try.prog 91=true:=by kernel_rfl
def c92:CI:=(oR [oM 2 (.box 0 true (.t 0)),oM 4 (.mv (.c (.bool false)))] (oR [oV 5 1,oF 6 4 2,oL 7 6,oN 8 7,oM 9 (.bin .sub
 (.t 8) (oK 1)),oM 10 (.call 76 [(.t 5),(oK 0),(.t 9)]),oV 4 10] .ret))
theorem ok92:FnOk Try.prog 92 11 1 c92 [.t 4]:=⟨_,_,Try.func92,rfl,rfl,by kernel_rfl,by kernel_rfl⟩
theorem bd92:bodied Try.prog 92=true:=by kernel_rfl
def c93:CI:=(oR [oM 4 (.alloc 0 [(.int .i64 0),(.int .i64 0),(.int .i64 0),(.int .i64 0),(.int .i64 0),(.int .i64 0),(.int .i64 0),(.int
 .i64 0),(.int .i64 0),(.int .i64 0),(.int .i64 0),(.int .i64 0),(.int .i64 0),(.int .i64 0)])] (oR [oF 8 0 1,oF 9 6 8,oL 10 9,oM 11 (.build
 [(.int .i64 0),(.int .i64 0)] [(1,1,(.t 10))]),oM 12 (.paddr 2 7 (.t 4) (oK 0)),oS (.store true 2 (.t 12) (.t 11) [])] (oR [oF 13 7 1,oL
 14 13,oN 15 14,oM 16 (.mv (oK 0))] (.block 0 (.loop (oR [oM 17 (.bin .lss (.t 16) (.t 15))] (.seq (.cond (.t 17) .skip (.exit 0)) (.seq (.block
 1 (oR [oI 18 2 14 16,oW 19 2 18,oM 6 (.alloc 1 [.nils,(.int .i64 0)]),oS (.stz true 2 (.t 6) (.t 19) [])] (.seq (oR [oF 20 1 6,oL
 21 20,oV 7 21] (.block 2 (.loop (.seq (oR [oV 22 7,oF 23 0 1,oF 24 0 23,oL 25 24,oM 26 (.bin .lss (.t 22) (.t 25))] (.cond (.t 26) .skip
 (.exit 2))) (.seq (.block 3 (.reg [oV 29 7,oM 30 (.bin .add (.t 29) (oK 1)),oV 31 7,oM 32 (.paddr 2 7 (.t 4) (.t 31)),oW 33 2 32,oF 34 0 1,oF 35
 4 34,oL 36 35,oL 37 2,oV 38 7,oI 39 1 37 38,oL 40 39,oI 41 2 36 40,oW 42 2 41,oF 43 0 6,oL 44 43,oV 45 7,oI 46 1 44 45,oL 47 46,oM 48 (.call
 94 [(.t 33),(.t 42),(.t 47)]),oM 49 (.paddr 2 7 (.t 4) (.t 30)),oS (.store true 2 (.t 49) (.t 48) [])])) (.reg [oV 27 7,oM 28 (.bin .add (.t 27) (oK
 1)),oV 7 28])))))) (oR [oV 50 0,oF 51 0 1,oF 52 0 51,oL 53 52,oM 54 (.paddr 2 7 (.t 4) (.t 53)),oW 55 2 54,oM 56 (.callx (.t 50) [(.t 55)]),
 oM 57 (.un .not (.t 56))] (.cond (.t 57) .ret .skip))))) (.reg [oM 58 (.bin .add (.t 16) (oK 1)),oV 16 58])))))))))
theorem ok93:FnOk Try.prog 93 59 2 c93 []:=⟨_,_,Try.func93,rfl,rfl,by kernel_rfl,by kernel_rfl⟩
theorem bd93:bodied Try.prog 93=true:=by kernel_rfl
def c94:CI:=(oR [oM 3 (.box 0 true (.t 0)),oM 4 (.box 1 true (.t 1)),oM 6 (.alloc 2 [(.int .i64 0),(.int .i64 0)])] (oR [oF 8 1
 4,oL 9 8,oV 10 2,oI 11 1 9 10,oL 12 11,oF 13 1 3,oL 14 13,oM 15 (.mm false [(.t 12),(.t 14)]),oV 7 15] (oR [oF 16 0 3,oL 17 16,oV 18
 7,oF 19 0 4,oL 20 19,oM 21 (.bin .mul (.t 18) (.t 20)),oM 22 (.bin .add (.t 17) (.t 21)),oF 23 1 3,oL 24 23,oV 25 7,oM 26 (.bin .sub (.t 24) (.t
 25)),oM 27 (.build [(.int .i64 0),(.int .i64 0)] [(0,1,(.t 22)),(1,1,(.t 26))]),oS (.store true 2 (.t 6) (.t 27) [])] .ret)))
theorem ok94:FnOk Try.prog 94 28 3 c94 [.cell 6 true 2]:=⟨_,_,Try.func94,rfl,rfl,by kernel_rfl,by kernel_rfl⟩
theorem bd94:bodied Try.prog 94=true:=by kernel_rfl
end Go.Proofs
