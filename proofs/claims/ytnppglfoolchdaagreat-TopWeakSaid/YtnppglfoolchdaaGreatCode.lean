/- The functions of this program as the walk reads them, each proved to be what the program holds. -/
import Derived.Test.YtnppglfoolchdaaGreatEng4
import Derived.Test.YtnppglfoolchdaaGreatProg
import Derived.KernelRfl
namespace Go.Proofs
open Go.Eng
set_option maxRecDepth 100000
end Go.Proofs
namespace Go.Eng
theorem FnA.cq{P:Program}{sg:List Res}{f:FuncId}{args args':List AV}{a:AV}{k:AV->Prop}(h:FnA P f args' (· = a))(hr:AV.puL args=true)(hz:AV.frzL sg 8 args=some args')(hk:k a):CallQ P sg f args k:=h.callq hr hz fun _ e=>by subst e;exact hk
theorem FnA.lq{P:Program}{sg:List Res}{f:FuncId}{args args':List AV}{a:AV}{k:AV->Prop}(h:FnA P f args' (· = a))(hz:AV.frzL sg 8 args=some args')(hf:a.flat=true)(hk:k a):CallQ P sg f args k:=h.lendq hz fun _ e=>by subst e;exact⟨hf,hk⟩
theorem FnA.zq{P:Program}{fl:Bool}{sg:List Res}{nm ct:Nat}{f:FuncId}{args args':List AV}{z:List (Nat × Res)}{a:AV}{k:List (Nat × Res)->AV->Prop}(h:FnA P f args' (· = a))(hz:AV.reachL sg args=some z)(hr:AV.frzL sg 8 args=some args')(hk:k z a):CallZQ P fl sg nm ct f args k:=h.callzq hz hr fun _ e=>by subst e;exact hk
theorem FnO.oq{P:Program}{fl:Bool}{sg:List Res}{nm ct:Nat}{f:FuncId}{args args':List AV}{z:List (Nat × Res)}{a:AV}{b:List (Nat × Res)}{k:List (Nat × Res)->AV->Prop}(h:FnO P f args' (fun r rows=>r=a/\rows=b))(hz:AV.reachL sg args=some z)(hr:AV.frzL sg 8 args=some args')(hb:rowsB ct b=true)(hk:k (z++nameR b nm) (a.rnr (posN b nm))):CallZQ P fl sg nm ct f args k:=h.callzq hz hr fun _ _ e=>by obtain⟨e,e'⟩:=e;subst e;subst e';exact⟨hb,hk⟩
theorem wJ{x:Int}{K:Int->Prop}(hk:K x)(h : -9223372036854775808<=x/\x<=9223372036854775807:=by omega):WrE .i64 x K:=wIn h hk
theorem nJ{p A:Prop}(k:A)(h:p:=by omega):Need p A:=nI h k
theorem iaJ{es:List (List AV)}{i:Int}{K:List AV->Prop}{cs:List AV}(hc:es.getD i.toNat []=cs)(hk:K cs)(h0:0<=i:=by omega)(h1:i<es.length:=by omega):IaE es i K:=iaI h0 h1 hc hk
theorem apJ{sz bytes:Nat}{xs ys:List (List AV)}{K:Prop}(hk:K)(h1:∀e∈ys,e.length=sz/\e.all AV.one=true:=by simp[AV.one])(h2:(xs.length+ys.length)*bytes<=140737488355328:=by(simp only[List.length_cons,List.length_nil];omega)):ApE sz bytes xs ys K:=apI h1 h2 hk
theorem mI{s s':St}(h:Meets (fun i=>i) (fun _=>false) s s':=by((repeat' apply And.intro)<;>first|rfl|exact True.intro|(intro hh;cases hh))):MeetsE s s':=meets_id h
theorem mR(i j:Nat){s s':St}(h:Meets (fun k=>match decide (k=i)with|true=>j|false=>k) (fun _=>false) s s':=by((repeat' apply And.intro)<;>first|rfl|exact True.intro|(intro hh;cases hh))):MeetsE s s':=meets_ren i j h
theorem mN(i:Nat){s s':St}(h:Meets (fun k=>k) (fun k=>decide (k=i)) s s':=by((repeat' apply And.intro)<;>first|rfl|exact True.intro|(intro hh;cases hh))):MeetsE s s':=meets_nil i h
theorem mA(l:List (Nat × Option Nat)){s s':St}(h:Meets (asN l) (asB l) s s':=by((repeat' apply And.intro)<;>first|rfl|exact True.intro|(intro hh;cases hh))):MeetsE s s':=meets_as l h
end Go.Eng
namespace Go.Proofs
open Go.Eng
@[reducible] def oR(l:List IOp)(c:CI):CI:=.seq (.reg l) c
@[reducible] def oM(d:Nat)(o:Ixo):IOp:=⟨none,some d,o⟩
@[reducible] def oS(o:Ixo):IOp:=⟨none,none,o⟩
@[reducible] def oG(g:Nat)(b:Bool)(p:IOp):IOp:=⟨some (g,b),p.d,p.o⟩
@[reducible] def oV(d t:Nat):IOp:=⟨none,some d, .mv (.t t)⟩
@[reducible] def oL(d t:Nat):IOp:=⟨none,some d, .load false 1 (.t t)⟩
@[reducible] def oW(d n t:Nat):IOp:=⟨none,some d, .load true n (.t t)⟩
@[reducible] def oF(d k t:Nat):IOp:=⟨none,some d, .faddr k (.t t)⟩
@[reducible] def oI(d n a b:Nat):IOp:=⟨none,some d, .iaddr n (.t a) (.t b)⟩
@[reducible] def oN(d t:Nat):IOp:=⟨none,some d, .len (.t t)⟩
@[reducible] def oX(d k t:Nat):IOp:=⟨none,some d, .extract k (.t t)⟩
@[reducible] def oK(n:Int):Opd:=.c (.int .i64 n)
@[reducible] def oZ:Opd:=.c .nils
def c3:CI:=(oR [oM 2 (.box 0 true (.t 0)),oM 3 (.box 1 true (.t 1)),oM 4 (.mv (.c (.bool false)))] (.seq (oR [oW 26 12 2,oM 27
 (.call 7 [(.t 26)])] (.cond (.t 27) (oR [oM 28 (.call 8 []),oV 4 28] .ret) .skip)) (oR [oW 29 12 2,oM 30 (.callw 2 5 9 [(.t 29)]),
 oM 5 (.alloc 7 [.nils,(.int .i64 0),(.int .i64 0),(.int .i64 0),(.int .i64 0),(.int .i64 0),(.int .i64 0), .nils, .nils, .nils, .nils,(.int .i64
 0)]),oS (.stz true 12 (.t 5) (.t 30) [])] (.seq (oR [oW 31 12 5,oW 33 12 2,oM 32 (.call 10 [(.t 31)]),oM 34 (.call 11 [(.t 33)]),oM 35 (.bin
 .neq (.t 32) (.t 34))] (.cond (.t 35) (oR [oM 4 (.mv (.c (.bool false)))] .ret) .skip)) (oR [oW 37 12 5,oM 38 (.call 12 [(.t 37)]),
 oV 36 38,oX 39 0 36,oX 40 1 36,oV 6 39,oV 7 40] (oR [oW 42 12 2,oM 43 (.call 13 [(.t 42)]),oV 41 43,oX 44 0 41,oX 45 1 41,oV 8 44,oV
 9 45] (oR [oW 47 12 5,oF 48 0 3,oL 49 48,oM 50 (.callw 8 1 14 [(.t 47),(.t 49)]),oV 46 50,oX 51 0 46,oX 52 1 46,oV 10 51,oV 11 52] (oR [oW 54 12 2,oF 55 0 3,oL 56 55,oM 57 (.callw 9 1 15 [(.t 54),(.t 56)]),oV 53 57,oX 58 0 53,oX 59 1 53,oV 12 58,oV 13 59] (oR [oW
 61 12 5,oF 62 1 3,oL 63 62,oM 64 (.call 16 [(.t 61),(.t 63)]),oV 60 64,oX 65 0 60,oX 66 1 60,oV 14 65,oV 15 66] (oR [oW 68 12 2,oF 69
 1 3,oL 70 69,oM 71 (.call 17 [(.t 68),(.t 70)]),oV 67 71,oX 72 0 67,oX 73 1 67,oV 16 72,oV 17 73] (oR [oW 75 12 5,oF 76 2 3,oL 77 76,
 oM 78 (.call 18 [(.t 75),(.t 77)]),oV 74 78,oX 79 0 74,oX 80 1 74,oM 18 (.alloc 10 [(.int .i64 0),(.int .i64 0)]),oS (.store true 2 (.t 18) (.t
 79) []),oV 19 80] (oR [oW 82 12 2,oF 83 2 3,oL 84 83,oM 85 (.call 19 [(.t 82),(.t 84)]),oV 81 85,oX 86 0 81,oX 87 1 81,oM 20 (.alloc
 11 [(.int .i64 0),(.int .i64 0)]),oS (.store true 2 (.t 20) (.t 86) []),oV 21 87] (oR [oW 89 12 5,oM 90 (.call 20 [(.t 89)]),oV 88 90,oX
 91 0 88,oX 92 1 88,oV 22 91,oV 23 92] (oR [oW 94 12 2,oM 95 (.call 21 [(.t 94)]),oV 93 95,oX 96 0 93,oX 97 1 93,oV 24 96,oV 25 97] (oR [oV 98 6,oV 99 8,oM 100 (.bin .eql (.t 98) (.t 99)),oV 101 100,oG 101 true (oV 102 7),oG 101 true (oV 103 9),oG 101 true (oM 104 (.bin .eql
 (.t 102) (.t 103))),oM 105 (.pick (.t 101) (.t 104) (.c (.bool false))),oV 106 105,oG 106 true (oV 107 10),oG 106 true (oV 108 12),oG 106 true (oM
 109 (.call 22 [(.t 107),(.t 108)])),oM 110 (.pick (.t 106) (.t 109) (.c (.bool false))),oV 111 110,oG 111 true (oV 112 11),oG 111 true (oV 113 13),
 oG 111 true (oM 114 (.bin .eql (.t 112) (.t 113))),oM 115 (.pick (.t 111) (.t 114) (.c (.bool false))),oV 116 115,oG 116 true (oV 117 14),oG 116 true
 (oV 118 16),oG 116 true (oM 119 (.bin .eql (.t 117) (.t 118))),oM 120 (.pick (.t 116) (.t 119) (.c (.bool false))),oV 121 120,oG 121 true (oV 122 15),
 oG 121 true (oV 123 17),oG 121 true (oM 124 (.bin .eql (.t 122) (.t 123))),oM 125 (.pick (.t 121) (.t 124) (.c (.bool false))),oV 126 125,oG 126 true
 (oW 127 2 18),oG 126 true (oW 128 2 20),oG 126 true (oM 129 (.eqs false (.node [(0,1,(.leaf true)),(1,1,(.leaf true))]) (.t 127) (.t 128))),oM
 130 (.pick (.t 126) (.t 129) (.c (.bool false))),oV 131 130,oG 131 true (oV 132 19),oG 131 true (oV 133 21),oG 131 true (oM 134 (.bin .eql (.t 132)
 (.t 133))),oM 135 (.pick (.t 131) (.t 134) (.c (.bool false))),oV 136 135,oG 136 true (oV 137 22),oG 136 true (oV 138 24),oG 136 true (oM 139 (.bin
 .eql (.t 137) (.t 138))),oM 140 (.pick (.t 136) (.t 139) (.c (.bool false))),oV 141 140,oG 141 true (oV 142 23),oG 141 true (oV 143 25),oG 141 true
 (oM 144 (.bin .eql (.t 142) (.t 143))),oM 145 (.pick (.t 141) (.t 144) (.c (.bool false))),oV 146 145,oG 146 true (oW 147 12 5),oG 146 true (oW 148
 12 2),oG 146 true (oM 149 (.call 23 [(.t 147),(.t 148)])),oM 150 (.pick (.t 146) (.t 149) (.c (.bool false))),oV 151 150,oG 151 true (oM 152 (.call
 8 [])),oM 153 (.pick (.t 151) (.t 152) (.c (.bool false))),oV 4 153] .ret)))))))))))))))
theorem ok3:FnOk Tryz.prog 3 154 12 c3 [.t 4]:=⟨_,_,Tryz.func3,rfl,rfl,by kernel_rfl,by kernel_rfl⟩
theorem bd3:bodied Tryz.prog 3=true:=by kernel_rfl
def c4:CI:=(oR [oM 1 (.box 0 true (.t 0)),oM 2 (.mv (.c (.bool false)))] (.seq (oR [oW 14 12 1,oM 15 (.call 7 [(.t 14)])] (.cond
 (.t 15) (oR [oM 16 (.call 8 []),oV 2 16] .ret) .skip)) (oR [oW 17 12 1,oM 18 (.callw 1 5 9 [(.t 17)]),oM 3 (.alloc 6 [.nils,(.int
 .i64 0),(.int .i64 0),(.int .i64 0),(.int .i64 0),(.int .i64 0),(.int .i64 0), .nils, .nils, .nils, .nils,(.int .i64 0)]),oS (.stz true 12 (.t 3)
 (.t 18) [])] (oR [oW 20 12 3,oM 21 (.call 24 [(.t 20)]),oV 19 21,oX 22 0 19,oX 23 1 19,oV 4 22,oV 5 23] (oR [oW 25 12 1,oM 26
 (.call 25 [(.t 25)]),oV 24 26,oX 27 0 24,oX 28 1 24,oV 6 27,oV 7 28] (oR [oW 30 12 3,oM 31 (.call 26 [(.t 30)]),oV 29 31,oX 32 0 29,oX
 33 1 29,oM 8 (.alloc 7 [(.int .i64 0),(.int .i64 0)]),oS (.store true 2 (.t 8) (.t 32) []),oV 9 33] (oR [oW 35 12 1,oM 36 (.call 27 [(.t
 35)]),oV 34 36,oX 37 0 34,oX 38 1 34,oM 10 (.alloc 8 [(.int .i64 0),(.int .i64 0)]),oS (.store true 2 (.t 10) (.t 37) []),oV 11 38] (oR [oW 40 12 3,oM 41 (.callw 9 1 28 [(.t 40)]),oV 39 41,oX 42 0 39,oX 43 1 39,oV 12 42,oV 13 43] (.seq (oR [oV 44 4,oV 45 6,oM 46 (.bin .neq
 (.t 44) (.t 45)),oV 47 46,oG 47 false (oV 48 5),oG 47 false (oV 49 7),oG 47 false (oM 50 (.bin .neq (.t 48) (.t 49))),oM 51 (.pick (.t 47) (.c (.bool
 true)) (.t 50)),oV 52 51,oG 52 false (oW 53 2 8),oG 52 false (oW 54 2 10),oG 52 false (oM 55 (.eqs true (.node [(0,1,(.leaf true)),(1,1,(.leaf
 true))]) (.t 53) (.t 54))),oM 56 (.pick (.t 52) (.c (.bool true)) (.t 55)),oV 57 56,oG 57 false (oV 58 9),oG 57 false (oV 59 11),oG 57 false (oM 60
 (.bin .neq (.t 58) (.t 59))),oM 61 (.pick (.t 57) (.c (.bool true)) (.t 60)),oV 62 61,oG 62 false (oV 63 13),oG 62 false (oW 64 12 1),oG 62 false
 (oM 65 (.call 29 [(.t 64)])),oG 62 false (oM 66 (.bin .neq (.t 63) (.t 65))),oM 67 (.pick (.t 62) (.c (.bool true)) (.t 66)),oV 68 67,oG 68 false (oV
 69 13),oG 68 false (oM 70 (.bin .neq (.t 69) (oK 0))),oG 68 false (oV 71 70),oG 71 true (oV 72 12),oG 71 true (oN 73 72),oG 71 true (oM 74 (.bin .gtr
 (.t 73) (oK 0))),oG 68 false (oM 75 (.pick (.t 71) (.t 74) (.c (.bool false)))),oM 76 (.pick (.t 68) (.c (.bool true)) (.t 75))] (.cond (.t 76) (oR [oM 2 (.mv (.c (.bool false)))] .ret) .skip)) (oR [oV 77 13,oM 78 (.bin .neq (.t 77) (oK 0)),oV 79 78,oG 79 false (oW 80 12 1),oG 79
 false (oV 81 12),oG 79 false (oM 82 (.call 30 [(.t 80),(.t 81)])),oM 83 (.pick (.t 79) (.c (.bool true)) (.t 82)),oV 84 83,oG 84 true (oM 85 (.call
 8 [])),oM 86 (.pick (.t 84) (.t 85) (.c (.bool false))),oV 2 86] .ret))))))))))
theorem ok4:FnOk Tryz.prog 4 87 10 c4 [.t 2]:=⟨_,_,Tryz.func4,rfl,rfl,by kernel_rfl,by kernel_rfl⟩
theorem bd4:bodied Tryz.prog 4=true:=by kernel_rfl
def c6:CI:=(oR [oM 2 (.box 0 true (.t 0)),oM 4 (.mv (.c (.bool false)))] (.seq (oR [oW 13 12 2,oM 14 (.call 39 [(.t 13)]),oM 15
 (.un .not (.t 14)),oV 16 15,oG 16 false (oW 17 12 2),oG 16 false (oM 18 (.call 29 [(.t 17)])),oG 16 false (oM 19 (.bin .neq (.t 18) (oK 0))),oM 20
 (.pick (.t 16) (.c (.bool true)) (.t 19))] (.cond (.t 20) (oR [oM 21 (.call 40 []),oV 4 21] .ret) .skip)) (oR [oW 23 12 2,oM 24 (.callw
 1 1 41 [(.t 23)]),oV 22 24,oX 25 0 22,oX 26 1 22,oV 5 25,oV 6 26] (.seq (oR [oV 27 6,oM 28 (.un .not (.t 27))] (.cond (.t 28) (oR [oM 4 (.mv (.c (.bool false)))] .ret) .skip)) (oR [oF 30 0 2,oW 31 9 30,oV 32 5,oM 33 (.callw 2 1 42 [(.t 31),(.t 32)]),oV 29 33,oX 34 0
 29,oX 35 1 29,oV 7 34,oV 8 35] (.seq (oR [oV 36 8,oM 37 (.bin .neq (.t 36) (oK 0)),oV 38 37,oG 38 false (oV 39 7),oG 38 false (oN 40 39),
 oG 38 false (oF 41 0 2),oG 38 false (oF 42 7 41),oG 38 false (oL 43 42),oG 38 false (oN 44 43),oG 38 false (oM 45 (.bin .gtr (.t 40) (.t 44))),oM
 46 (.pick (.t 38) (.c (.bool true)) (.t 45))] (.cond (.t 46) (oR [oM 4 (.mv (.c (.bool false)))] .ret) .skip)) (oR [oW 47 12 2,oM 48
 (.callw 3 5 9 [(.t 47)]),oM 9 (.alloc 8 [.nils,(.int .i64 0),(.int .i64 0),(.int .i64 0),(.int .i64 0),(.int .i64 0),(.int .i64 0), .nils, .nils,
 .nils, .nils,(.int .i64 0)]),oS (.stz true 12 (.t 9) (.t 48) [])] (.seq (oR [oM 10 (.mv (oK 0))] (.block 0 (.loop (.seq (oR [oV 49
 10,oV 50 7,oN 51 50,oM 52 (.bin .lss (.t 49) (.t 51))] (.cond (.t 52) .skip (.exit 0))) (.seq (.block 1 (.seq (oR [oV 55 7,oV 56 10,oI 57
 1 55 56,oL 58 57,oM 59 (.bin .lss (.t 58) (oK 0)),oV 60 59,oG 60 false (oV 61 7),oG 60 false (oV 62 10),oG 60 false (oI 63 1 61 62),oG 60 false
 (oL 64 63),oG 60 false (oF 65 0 2),oG 60 false (oF 66 7 65),oG 60 false (oL 67 66),oG 60 false (oN 68 67),oG 60 false (oM 69 (.bin .geq (.t 64) (.t
 68))),oM 70 (.pick (.t 60) (.c (.bool true)) (.t 69))] (.cond (.t 70) (oR [oM 4 (.mv (.c (.bool false)))] .ret) .skip)) (.reg [oF 71 0 9,oF
 72 7 71,oL 73 72,oV 74 7,oV 75 10,oI 76 1 74 75,oL 77 76,oM 78 (.build [(.int .i64 0),(.int .i64 0)] [(0,1,(oK 99999)),(1,1,(oK 99999))]),
 oI 79 2 73 77,oS (.store true 2 (.t 79) (.t 78) [])]))) (.reg [oV 53 10,oM 54 (.bin .add (.t 53) (oK 1)),oV 10 54])))))) (oR [oW 81 12 9,oM
 82 (.call 24 [(.t 81)]),oV 80 82,oX 83 0 80,oX 84 1 80,oV 11 83,oV 12 84] (.seq (oR [oV 85 12,oM 86 (.bin .neq (.t 85) (oK 0)),oV 87 86,
 oG 87 false (oV 88 11),oG 87 false (oM 89 (.bin .neq (.t 88) (oK 1))),oM 90 (.pick (.t 87) (.c (.bool true)) (.t 89))] (.cond (.t 90) (oR [oM
 4 (.mv (.c (.bool false)))] .ret) .skip)) (.seq (oR [oV 91 1,oM 92 (.bin .lss (.t 91) (oK 0)),oV 93 92,oG 93 false (oV 94 1),oG 93 false (oV
 95 7),oG 93 false (oN 96 95),oG 93 false (oM 97 (.bin .geq (.t 94) (.t 96))),oM 98 (.pick (.t 93) (.c (.bool true)) (.t 97))] (.cond (.t 98) (oR [oM 99 (.call 40 []),oV 4 99] .ret) .skip)) (oR [oF 100 0 9,oF 101 7 100,oL 102 101,oV 103 7,oV 104 1,oI 105 1 103 104,oL 106 105,
 oF 107 0 2,oF 108 7 107,oL 109 108,oV 110 7,oV 111 1,oI 112 1 110 111,oL 113 112,oI 114 2 109 113,oW 115 2 114,oI 116 2 102 106,oS (.store true
 2 (.t 116) (.t 115) [])] (oR [oW 118 12 9,oM 119 (.call 24 [(.t 118)]),oV 117 119,oX 120 0 117,oX 121 1 117,oV 11 120,oV 12 121] (oR [oV 122 12,oM 123 (.bin .eql (.t 122) (oK 0)),oV 124 123,oG 124 true (oV 125 11),oG 124 true (oM 126 (.bin .neq (.t 125) (oK 1))),oM 127 (.pick
 (.t 124) (.t 126) (.c (.bool false))),oV 128 127,oG 128 true (oM 129 (.call 40 [])),oM 130 (.pick (.t 128) (.t 129) (.c (.bool false))),oV 4 130]
 .ret))))))))))))))
theorem ok6:FnOk Tryz.prog 6 131 9 c6 [.t 4]:=⟨_,_,Tryz.func6,rfl,rfl,by kernel_rfl,by kernel_rfl⟩
theorem bd6:bodied Tryz.prog 6=true:=by kernel_rfl
def c7:CI:=(oR [oM 1 (.box 0 true (.t 0)),oM 2 (.mv (.c (.bool false)))] (.seq (oR [oF 5 0 1,oW 6 9 5,oM 7 (.call 43 [(.t 6)]),
 oV 8 7,oG 8 false (oF 9 9 1),oG 8 false (oL 10 9),oG 8 false (oN 11 10),oG 8 false (oM 12 (.bin .gtr (.t 11) (oK 40))),oM 13 (.pick (.t 8) (.c (.bool
 true)) (.t 12)),oV 14 13,oG 14 false (oF 15 10 1),oG 14 false (oL 16 15),oG 14 false (oN 17 16),oG 14 false (oM 18 (.bin .gtr (.t 17) (oK 40))),oM
 19 (.pick (.t 14) (.c (.bool true)) (.t 18))] (.cond (.t 19) (oR [oM 2 (.mv (.c (.bool true)))] .ret) .skip)) (.seq (oR [oW 20 12 1,
 oM 21 (.call 11 [(.t 20)]),oM 22 (.bin .neq (.t 21) (oK 0))] (.cond (.t 22) (oR [oM 2 (.mv (.c (.bool false)))] .ret) .skip)) (oR [oM
 3 (.mv (oK 1))] (.seq (oR [oM 4 (.mv (oK 0))] (.block 0 (.loop (.seq (oR [oV 23 4,oF 24 9 1,oL 25 24,oN 26 25,oM 27 (.bin .lss (.t
 23) (.t 26))] (.cond (.t 27) .skip (.exit 0))) (.seq (.block 1 (oR [oV 30 3,oF 31 9 1,oL 32 31,oV 33 4,oI 34 3 32 33,oF 35 1 34,oF 36 1
 35,oL 37 36,oF 38 9 1,oL 39 38,oV 40 4,oI 41 3 39 40,oF 42 1 41,oF 43 0 42,oL 44 43,oM 45 (.bin .sub (.t 37) (.t 44)),oM 46 (.bin .add (.t 45)
 (oK 1)),oM 47 (.bin .mul (.t 30) (.t 46)),oV 3 47] (oR [oV 48 3,oM 49 (.bin .gtr (.t 48) (oK 600))] (.cond (.t 49) (oR [oM 2 (.mv
 (.c (.bool true)))] .ret) .skip)))) (.reg [oV 28 4,oM 29 (.bin .add (.t 28) (oK 1)),oV 4 29])))))) (oR [oM 2 (.mv (.c (.bool false)))] .ret))))))
theorem ok7:FnOk Tryz.prog 7 50 1 c7 [.t 2]:=⟨_,_,Tryz.func7,rfl,rfl,by kernel_rfl,by kernel_rfl⟩
theorem bd7:bodied Tryz.prog 7=true:=by kernel_rfl
def c8:CI:=(oR [oM 0 (.mv (.c (.bool false)))] (oR [oM 10 (.callw 0 5 44 []),oM 1 (.alloc 5 [.nils,(.int .i64 0),(.int .i64 0),
 (.int .i64 0),(.int .i64 0),(.int .i64 0),(.int .i64 0), .nils, .nils, .nils, .nils,(.int .i64 0)]),oS (.stz true 12 (.t 1) (.t 10) [])] (oR [oW 12 12 1,oM 13 (.callw 6 1 14 [(.t 12),(oK 2)]),oV 11 13,oX 14 0 11,oX 15 1 11,oV 2 14,oV 3 15] (oR [oW 17 12 1,oM 18 (.call 20 [(.t
 17)]),oV 16 18,oX 19 0 16,oX 20 1 16,oV 4 19,oV 5 20] (oR [oW 22 12 1,oM 23 (.call 26 [(.t 22)]),oV 21 23,oX 24 0 21,oX 25 1 21,oM 6
 (.alloc 7 [(.int .i64 0),(.int .i64 0)]),oS (.store true 2 (.t 6) (.t 24) []),oV 7 25] (oR [oW 27 12 1,oM 28 (.call 24 [(.t 27)]),oV 26 28,
 oX 29 0 26,oX 30 1 26,oV 8 29,oV 9 30] (oR [oV 31 3,oM 32 (.bin .eql (.t 31) (oK 0)),oV 33 32,oG 33 true (oV 34 5),oG 33 true (oM 35 (.bin
 .eql (.t 34) (oK 0))),oM 36 (.pick (.t 33) (.t 35) (.c (.bool false))),oV 37 36,oG 37 true (oV 38 7),oG 37 true (oM 39 (.bin .eql (.t 38) (oK 0))),
 oM 40 (.pick (.t 37) (.t 39) (.c (.bool false))),oV 41 40,oG 41 true (oV 42 9),oG 41 true (oM 43 (.bin .eql (.t 42) (oK 0))),oM 44 (.pick (.t 41) (.t
 43) (.c (.bool false))),oV 45 44,oG 45 true (oV 46 2),oG 45 true (oM 47 (.bsl 8 3 1 [(oK 5),(oK 6)] [])),oG 45 true (oM 48 (.call 22 [(.t 46),(.t
 47)])),oM 49 (.pick (.t 45) (.t 48) (.c (.bool false))),oV 50 49,oG 50 true (oV 51 4),oG 50 true (oM 52 (.bin .eql (.t 51) (oK 22))),oM 53 (.pick
 (.t 50) (.t 52) (.c (.bool false))),oV 54 53,oG 54 true (oW 55 2 6),oG 54 true (oM 56 (.build [(.int .i64 0),(.int .i64 0)] [(1,1,(oK 2))])),oG
 54 true (oM 57 (.eqs false (.node [(0,1,(.leaf true)),(1,1,(.leaf true))]) (.t 55) (.t 56))),oM 58 (.pick (.t 54) (.t 57) (.c (.bool false))),oV
 59 58,oG 59 true (oV 60 8),oG 59 true (oM 61 (.bin .eql (.t 60) (oK 3))),oM 62 (.pick (.t 59) (.t 61) (.c (.bool false))),oV 0 62] .ret)))))))
theorem ok8:FnOk Tryz.prog 8 63 9 c8 [.t 0]:=⟨_,_,Tryz.func8,rfl,rfl,by kernel_rfl,by kernel_rfl⟩
theorem bd8:bodied Tryz.prog 8=true:=by kernel_rfl
def c9:CI:=(oR [oM 1 (.box 0 true (.t 0)),oM 2 (.alloc 1 [.nils,(.int .i64 0),(.int .i64 0),(.int .i64 0),(.int .i64 0),(.int .i64 0),
 (.int .i64 0), .nils, .nils, .nils, .nils,(.int .i64 0)])] (oR [oW 4 12 1,oM 3 (.alloc 2 [.nils,(.int .i64 0),(.int .i64 0),(.int .i64 0),
 (.int .i64 0),(.int .i64 0),(.int .i64 0), .nils, .nils, .nils, .nils,(.int .i64 0)]),oS (.stz true 12 (.t 3) (.t 4) [])] (oR [oF 5 0 1,oW
 6 9 5,oM 7 (.callw 3 3 45 [(.t 6)]),oF 8 0 3,oS (.stz true 9 (.t 8) (.t 7) [])] (oR [oF 10 9 1,oL 11 10,oF 14 10 1,oL 15 14,oM 9 (.bsl
 6 67 3 [] []),oM 12 (.apd 7 67 3 24 (.t 9) (.t 11) [(.t 14)]),oM 13 (.bsl 8 76 2 [] [(.t 9),(.t 11)]),oM 16 (.apd 9 76 2 16 (.t 13) (.t 15) []),oF
 17 9 3,oS (.stz false 1 (.t 17) (.t 12) []),oF 18 10 3,oS (.stz false 1 (.t 18) (.t 16) [])] (oR [oW 19 12 3,oS (.stz true 12 (.t 2) (.t 19)
 [])] .ret)))))
theorem ok9:FnOk Tryz.prog 9 20 10 c9 [.cell 2 true 12]:=⟨_,_,Tryz.func9,rfl,rfl,by kernel_rfl,by kernel_rfl⟩
theorem bd9:bodied Tryz.prog 9=true:=by kernel_rfl
def c10:CI:=(oR [oM 1 (.box 0 true (.t 0)),oM 2 (.mv (oK 0))] (.seq (oR [oW 3 12 1,oM 4 (.call 46 [(.t 3)]),oM 5 (.un .not (.t
 4))] (.cond (.t 5) (oR [oM 2 (.mv (oK 130))] .ret) .skip)) (oR [oM 2 (.mv (oK 0))] .ret)))
theorem ok10:FnOk Tryz.prog 10 6 1 c10 [.t 2]:=⟨_,_,Tryz.func10,rfl,rfl,by kernel_rfl,by kernel_rfl⟩
theorem bd10:bodied Tryz.prog 10=true:=by kernel_rfl
def c11:CI:=(oR [oM 1 (.box 0 true (.t 0)),oM 2 (.mv (oK 0))] (.seq (oR [oF 6 0 1,oW 7 9 6,oM 8 (.call 47 [(.t 7)]),oM 9 (.bin
 .neq (.t 8) (oK 0)),oV 10 9,oG 10 false (oF 11 9 1),oG 10 false (oL 12 11),oG 10 false (oN 13 12),oG 10 false (oM 14 (.bin .gtr (.t 13) (oK 8))),
 oM 15 (.pick (.t 10) (.c (.bool true)) (.t 14)),oV 16 15,oG 16 false (oF 17 10 1),oG 16 false (oL 18 17),oG 16 false (oN 19 18),oG 16 false (oM 20
 (.bin .gtr (.t 19) (oK 5))),oM 21 (.pick (.t 16) (.c (.bool true)) (.t 20)),oV 22 21,oG 22 false (oF 23 11 1),oG 22 false (oL 24 23),oG 22 false (oM
 25 (.call 48 [(.t 24),(oK 0),(oK 5)])),oG 22 false (oM 26 (.un .not (.t 25))),oM 27 (.pick (.t 22) (.c (.bool true)) (.t 26))] (.cond (.t 27) (oR [oM 2 (.mv (oK 130))] .ret) .skip)) (.seq (oR [oM 3 (.mv (oK 0))] (.block 0 (.loop (.seq (oR [oV 28 3,oF 29 9 1,oL 30 29,oN
 31 30,oM 32 (.bin .lss (.t 28) (.t 31))] (.cond (.t 32) .skip (.exit 0))) (.seq (.block 1 (oR [oF 35 9 1,oL 36 35,oV 37 3,oI 38 3 36 37,oW
 39 3 38,oM 4 (.alloc 1 [(.int .i64 0),(.int .i64 0),(.int .i64 0)]),oS (.store true 3 (.t 4) (.t 39) [])] (oR [oF 40 0 1,oW 41 9 40,oF 42
 0 4,oL 43 42,oM 44 (.call 49 [(.t 41),(.t 43)]),oM 45 (.un .not (.t 44)),oV 46 45,oG 46 false (oF 47 1 4),oG 46 false (oF 48 0 47),oG 46 false
 (oL 49 48),oG 46 false (oF 50 1 4),oG 46 false (oF 51 1 50),oG 46 false (oL 52 51),oG 46 false (oM 53 (.call 48 [(.t 49),(oK 0),(.t 52)])),oG 46
 false (oM 54 (.un .not (.t 53))),oM 55 (.pick (.t 46) (.c (.bool true)) (.t 54)),oV 56 55,oG 56 false (oF 57 1 4),oG 56 false (oF 58 1 57),oG 56 false
 (oL 59 58),oG 56 false (oM 60 (.bin .gtr (.t 59) (oK 99))),oM 61 (.pick (.t 56) (.c (.bool true)) (.t 60)),oV 62 61,oG 62 false (oF 63 1 4),oG 62
 false (oF 64 1 63),oG 62 false (oL 65 64),oG 62 false (oF 66 1 4),oG 62 false (oF 67 0 66),oG 62 false (oL 68 67),oG 62 false (oM 69 (.bin .sub (.t
 65) (.t 68))),oG 62 false (oM 70 (.bin .gtr (.t 69) (oK 9))),oM 71 (.pick (.t 62) (.c (.bool true)) (.t 70))] (.cond (.t 71) (oR [oM 2 (.mv
 (oK 130))] .ret) .skip)))) (.reg [oV 33 3,oM 34 (.bin .add (.t 33) (oK 1)),oV 3 34])))))) (.seq (oR [oM 5 (.mv (oK 0))] (.block 2 (.loop (.seq
 (oR [oV 72 5,oF 73 10 1,oL 74 73,oN 75 74,oM 76 (.bin .lss (.t 72) (.t 75))] (.cond (.t 76) .skip (.exit 2))) (.seq (.block 3 (oR [oF 79 10 1,oL 80 79,oV 81 5,oI 82 2 80 81,oF 83 0 82,oL 84 83,oM 85 (.call 48 [(.t 84),(oK 0),(oK 99)]),oM 86 (.un .not (.t 85)),oV 87 86,oG
 87 false (oF 88 10 1),oG 87 false (oL 89 88),oG 87 false (oV 90 5),oG 87 false (oI 91 2 89 90),oG 87 false (oF 92 1 91),oG 87 false (oL 93 92),oG
 87 false (oM 94 (.call 48 [(.t 93),(oK 0),(oK 8)])),oG 87 false (oM 95 (.un .not (.t 94))),oM 96 (.pick (.t 87) (.c (.bool true)) (.t 95))] (.cond
 (.t 96) (oR [oM 2 (.mv (oK 130))] .ret) .skip))) (.reg [oV 77 5,oM 78 (.bin .add (.t 77) (oK 1)),oV 5 78])))))) (oR [oM 2 (.mv (oK 0))]
 .ret)))))
theorem ok11:FnOk Tryz.prog 11 97 2 c11 [.t 2]:=⟨_,_,Tryz.func11,rfl,rfl,by kernel_rfl,by kernel_rfl⟩
theorem bd11:bodied Tryz.prog 11=true:=by kernel_rfl
def c12:CI:=(oR [oM 1 (.box 0 true (.t 0)),oM 2 (.mv (oK 0)),oM 3 (.mv (oK 0))] (.seq (oR [oW 5 12 1,oM 6 (.call 10 [(.t 5)]),
 oV 4 6] (oR [oV 7 4,oM 8 (.bin .neq (.t 7) (oK 0))] (.cond (.t 8) (oR [oV 9 4,oM 2 (.mv (oK 0)),oV 3 9] .ret) .skip))) (oR [oW 10 12 1,oM 11 (.build [.nils,(.int .i64 0),(.int .i64 0),(.int .i64 0),(.int .i64 0),(.int .i64 0),(.int .i64 0), .nils, .nils, .nils, .nils,
 (.int .i64 0)] [(0,12,(.t 10))]),oM 12 (.call 50 [(.t 11)]),oV 2 12,oM 3 (.mv (oK 0))] .ret)))
theorem ok12:FnOk Tryz.prog 12 13 1 c12 [.t 2, .t 3]:=⟨_,_,Tryz.func12,rfl,rfl,by kernel_rfl,by kernel_rfl⟩
theorem bd12:bodied Tryz.prog 12=true:=by kernel_rfl
def c13:CI:=(oR [oM 1 (.box 0 true (.t 0)),oM 2 (.mv (oK 0)),oM 3 (.mv (oK 0))] (.seq (oR [oW 8 12 1,oM 9 (.call 11 [(.t 8)]),
 oV 4 9] (oR [oV 10 4,oM 11 (.bin .neq (.t 10) (oK 0))] (.cond (.t 11) (oR [oV 12 4,oM 2 (.mv (oK 0)),oV 3 12] .ret) .skip))) (oR [oF 13 10 1,oL 14 13,oN 15 14,oV 5 15] (oR [oW 16 12 1,oM 17 (.callw 1 1 51 [(.t 16),oZ]),oV 6 17] (.seq (oR [oM 7 (.mv (oK
 0))] (.block 0 (.loop (.seq (oR [oV 18 7,oV 19 6,oN 20 19,oM 21 (.bin .lss (.t 18) (.t 20))] (.cond (.t 21) .skip (.exit 0))) (.seq (.block
 1 (.reg [oV 24 5,oW 25 12 1,oV 26 6,oV 27 7,oI 28 1 26 27,oL 29 28,oM 30 (.call 52 [(.t 25),(.t 29)]),oM 31 (.mm false [(.t 24),(.t 30)]),oV
 5 31])) (.reg [oV 22 7,oM 23 (.bin .add (.t 22) (oK 1)),oV 7 23])))))) (oR [oV 32 5,oV 2 32,oM 3 (.mv (oK 0))] .ret))))))
theorem ok13:FnOk Tryz.prog 13 33 2 c13 [.t 2, .t 3]:=⟨_,_,Tryz.func13,rfl,rfl,by kernel_rfl,by kernel_rfl⟩
theorem bd13:bodied Tryz.prog 13=true:=by kernel_rfl
def c14:CI:=(oR [oM 2 (.box 0 true (.t 0)),oM 4 (.mv oZ),oM 5 (.mv (oK 0))] (oR [oW 11 12 2,oW 12 12 2,oV 13 1,oM 6 (.alloc 6
 [.nils,(.int .i64 0),(.int .i64 0),(.int .i64 0),(.int .i64 0),(.int .i64 0),(.int .i64 0), .nils, .nils, .nils, .nils,(.int .i64 0)]),oM 14 (.call
 54 [(.t 12),(.t 13)]),oM 15 (.callz 1 5 53 [(.t 11),(.t 14)] []),oV 10 15,oX 16 0 10,oX 17 1 10,oS (.stz true 12 (.t 6) (.t 16) []),oV 7 17] (.seq
 (oR [oV 18 7,oM 19 (.bin .neq (.t 18) (oK 0))] (.cond (.t 19) (oR [oV 20 7,oM 4 (.mv oZ),oV 5 20] .ret) .skip)) (oR [oM 8
 (.mv oZ)] (.seq (oR [oF 21 0 6,oF 22 9 21,oL 23 22,oV 24 1,oI 25 3 23 24,oF 26 1 25,oF 27 0 26,oL 28 27,oV 9 28] (.block 0 (.loop (.seq
 (oR [oV 29 9,oF 30 0 6,oF 31 9 30,oL 32 31,oV 33 1,oI 34 3 32 33,oF 35 1 34,oF 36 1 35,oL 37 36,oM 38 (.bin .leq (.t 29) (.t 37))] (.cond
 (.t 38) .skip (.exit 0))) (.seq (.block 1 (oR [oW 41 12 6,oV 42 1,oV 43 9,oM 44 (.call 55 [(.t 41),(.t 42),(.t 43)])] (.cond (.t 44) (.reg
 [oV 45 8,oV 46 9,oM 47 (.bsl 7 3 1 [(.t 46)] []),oM 48 (.apd 8 3 1 8 (.t 45) (.t 47) []),oV 8 48]) .skip))) (.reg [oV 39 9,oM 40 (.bin .add (.t 39)
 (oK 1)),oV 9 40])))))) (oR [oV 49 8,oV 4 49,oM 5 (.mv (oK 0))] .ret))))))
theorem ok14:FnOk Tryz.prog 14 50 9 c14 [.t 4, .t 5]:=⟨_,_,Tryz.func14,rfl,rfl,by kernel_rfl,by kernel_rfl⟩
theorem bd14:bodied Tryz.prog 14=true:=by kernel_rfl
def c15:CI:=(oR [oM 2 (.box 0 true (.t 0)),oM 4 (.mv oZ),oM 5 (.mv (oK 0))] (oR [oW 12 12 2,oV 13 1,oF 14 9 2,oL 15 14,oN 16
 15,oM 17 (.bin .sub (.t 16) (oK 1)),oM 18 (.call 48 [(.t 13),(oK 0),(.t 17)]),oM 19 (.callz 1 1 56 [(.t 12),(.t 18)] []),oV 11 19,oX 20 0 11,oX
 21 1 11,oV 6 20,oV 7 21] (oR [oM 8 (.mv oZ)] (.seq (oR [oM 9 (.mv (oK 0))] (.block 0 (.loop (.seq (oR [oV 22 9,oM 23 (.bin
 .leq (.t 22) (oK 99))] (.cond (.t 23) .skip (.exit 0))) (.seq (.block 1 (oR [oM 10 (.mv (oK 0))] (.block 2 (.loop (.seq (oR [oV 26 10,
 oV 27 6,oN 28 27,oM 29 (.bin .lss (.t 26) (.t 28))] (.cond (.t 29) .skip (.exit 2))) (.seq (.block 3 (oR [oV 32 6,oV 33 10,oI 34 1 32 33,
 oL 35 34,oV 36 1,oI 37 1 35 36,oL 38 37,oV 39 9,oM 40 (.bin .eql (.t 38) (.t 39))] (.cond (.t 40) (oR [oV 41 8,oV 42 9,oM 43 (.bsl 2 3
 1 [(.t 42)] []),oM 44 (.apd 3 3 1 8 (.t 41) (.t 43) []),oV 8 44] (.exit 2)) .skip))) (.reg [oV 30 10,oM 31 (.bin .add (.t 30) (oK 1)),oV 10 31])))))))
 (.reg [oV 24 9,oM 25 (.bin .add (.t 24) (oK 1)),oV 9 25])))))) (oR [oV 45 8,oV 46 7,oV 4 45,oV 5 46] .ret)))))
theorem ok15:FnOk Tryz.prog 15 47 4 c15 [.t 4, .t 5]:=⟨_,_,Tryz.func15,rfl,rfl,by kernel_rfl,by kernel_rfl⟩
theorem bd15:bodied Tryz.prog 15=true:=by kernel_rfl
def c16:CI:=(oR [oM 2 (.box 0 true (.t 0)),oM 4 (.mv (oK 0)),oM 5 (.mv (oK 0))] (oR [oW 13 12 2,oW 14 12 2,oV 15 1,oM 6 (.alloc
 6 [.nils,(.int .i64 0),(.int .i64 0),(.int .i64 0),(.int .i64 0),(.int .i64 0),(.int .i64 0), .nils, .nils, .nils, .nils,(.int .i64 0)]),oM 16
 (.call 57 [(.t 14),(.t 15)]),oM 17 (.callz 1 5 53 [(.t 13),(.t 16)] []),oV 12 17,oX 18 0 12,oX 19 1 12,oS (.stz true 12 (.t 6) (.t 18) []),oV 7
 19] (.seq (oR [oV 20 7,oM 21 (.bin .neq (.t 20) (oK 0))] (.cond (.t 21) (oR [oV 22 7,oM 4 (.mv (oK 0)),oV 5 22] .ret) .skip)) (oR [oM 8 (.mv (.c (.bool false))),oM 9 (.mv (.c (.bool false)))] (.seq (oR [oW 23 12 6,oM 24 (.callw 7 1 58 [(.t 23),(.c (.fn 59 []))]),
 oM 25 (.mrx 8 (.t 24))] (.block 0 (.loop (oR [oM 26 (.mnz (.t 25)),oX 27 0 26] (.seq (.cond (.t 27) .skip (.exit 0)) (.block 1 (oR [oM
 28 (.mez (.t 25)),oX 29 0 28,oM 10 (.alloc 9 [(.int .i64 0),(.int .i64 0),(.int .i64 0),(.int .i64 0),(.int .i64 0),(.int .i64 0)]),oS (.store
 true 6 (.t 10) (.t 29) [])] (oR [oV 30 1,oM 31 (.paddr 1 6 (.t 10) (.t 30)),oL 32 31,oF 33 0 6,oF 34 10 33,oL 35 34,oV 36 1,oI 37 2 35
 36,oF 38 1 37,oL 39 38,oM 40 (.bin .eql (.t 32) (.t 39)),oV 11 40] (.reg [oV 41 8,oV 42 41,oG 42 false (oV 43 11),oM 44 (.pick (.t 42) (.c (.bool
 true)) (.t 43)),oV 45 9,oV 46 45,oG 46 false (oV 47 11),oG 46 false (oM 48 (.un .not (.t 47))),oM 49 (.pick (.t 46) (.c (.bool true)) (.t 48)),oV
 8 44,oV 9 49]))))))))) (.seq (.block 2 (oR [oV 51 9,oM 52 (.un .not (.t 51)),oV 50 52] (.cond (.t 50) (oR [oM 4 (.mv (oK 1)),oM 5
 (.mv (oK 0))] .ret) (oR [oV 54 8,oM 55 (.un .not (.t 54)),oV 53 55] (.cond (.t 53) (oR [oM 4 (.mv (oK 2)),oM 5 (.mv (oK 0))] .ret)
 .skip))))) (oR [oM 4 (.mv (oK 3)),oM 5 (.mv (oK 0))] .ret)))))))
theorem ok16:FnOk Tryz.prog 16 56 10 c16 [.t 4, .t 5]:=⟨_,_,Tryz.func16,rfl,rfl,by kernel_rfl,by kernel_rfl⟩
theorem bd16:bodied Tryz.prog 16=true:=by kernel_rfl
def c17:CI:=(oR [oM 2 (.box 0 true (.t 0)),oM 4 (.mv (oK 0)),oM 5 (.mv (oK 0))] (oR [oW 11 12 2,oV 12 1,oF 13 10 2,oL 14 13,
 oN 15 14,oM 16 (.bin .sub (.t 15) (oK 1)),oM 17 (.call 48 [(.t 12),(oK 0),(.t 16)]),oM 18 (.callz 1 1 56 [(.t 11),(.t 17)] []),oV 10 18,oX 19 0
 10,oX 20 1 10,oV 6 19,oV 7 20] (.seq (oR [oV 21 7,oM 22 (.bin .neq (.t 21) (oK 0))] (.cond (.t 22) (oR [oV 23 7,oM 4 (.mv (oK 0)),
 oV 5 23] .ret) .skip)) (oR [oM 8 (.mv (oK 0))] (.seq (oR [oM 9 (.mv (oK 0))] (.block 0 (.loop (.seq (oR [oV 24 9,oV 25 6,oN
 26 25,oM 27 (.bin .lss (.t 24) (.t 26))] (.cond (.t 27) .skip (.exit 0))) (.seq (.block 1 (oR [oF 30 10 2,oL 31 30,oV 32 1,oI 33 2 31 32,
 oW 34 2 33,oV 35 6,oV 36 9,oI 37 1 35 36,oL 38 37,oM 39 (.call 38 [(.t 34),(.t 38)])] (.cond (.t 39) (.reg [oV 40 8,oM 41 (.bin .add (.t 40) (oK
 1)),oV 8 41]) .skip))) (.reg [oV 28 9,oM 29 (.bin .add (.t 28) (oK 1)),oV 9 29])))))) (oR [oV 42 8,oV 43 6,oN 44 43,oM 45 (.call 60 [(.t
 42),(.t 44)]),oV 4 45,oM 5 (.mv (oK 0))] .ret))))))
theorem ok17:FnOk Tryz.prog 17 46 2 c17 [.t 4, .t 5]:=⟨_,_,Tryz.func17,rfl,rfl,by kernel_rfl,by kernel_rfl⟩
theorem bd17:bodied Tryz.prog 17=true:=by kernel_rfl
def c18:CI:=(oR [oM 2 (.box 0 true (.t 0)),oM 3 (.box 1 false (.t 1)),oM 4 (.alloc 2 [(.int .i64 0),(.int .i64 0)]),oM 5 (.mv (oK 0))]
 (oR [oW 9 12 2,oL 10 3,oM 6 (.alloc 8 [.nils,(.int .i64 0),(.int .i64 0),(.int .i64 0),(.int .i64 0),(.int .i64 0),(.int .i64 0), .nils,
 .nils, .nils, .nils,(.int .i64 0)]),oM 11 (.call 61 [(.t 10)]),oM 12 (.callz 3 5 53 [(.t 9),(.t 11)] []),oV 8 12,oX 13 0 8,oX 14 1 8,oS (.stz true
 12 (.t 6) (.t 13) []),oV 7 14] (.seq (oR [oV 15 7,oM 16 (.bin .neq (.t 15) (oK 0))] (.cond (.t 16) (oR [oM 17 (.build [(.int .i64 0),
 (.int .i64 0)] []),oV 18 7,oS (.store true 2 (.t 4) (.t 17) []),oV 5 18] .ret) .skip)) (oR [oW 19 12 6,oM 20 (.mkfn 63 [(.t 3)]),oM 21 (.call
 62 [(.t 19),(.t 20)]),oS (.store true 2 (.t 4) (.t 21) []),oM 5 (.mv (oK 0))] .ret))))
theorem ok18:FnOk Tryz.prog 18 22 9 c18 [.cell 4 true 2, .t 5]:=⟨_,_,Tryz.func18,rfl,rfl,by kernel_rfl,by kernel_rfl⟩
theorem bd18:bodied Tryz.prog 18=true:=by kernel_rfl
def c19:CI:=(oR [oM 2 (.box 0 true (.t 0)),oM 4 (.alloc 1 [(.int .i64 0),(.int .i64 0)]),oM 5 (.mv (oK 0))] (oR [oW 11 12 2,oV
 12 1,oM 13 (.call 48 [(.t 12),(oK 0),(oK 99)]),oM 14 (.callz 2 1 56 [(.t 11),(.t 13)] []),oV 10 14,oX 15 0 10,oX 16 1 10,oV 6 15,oV 7 16] (oR [oM 8 (.alloc 3 [(.int .i64 0),(.int .i64 0)])] (.seq (oR [oM 9 (.mv (oK 0))] (.block 0 (.loop (.seq (oR [oV 17 9,oV 18 6,oN
 19 18,oM 20 (.bin .lss (.t 17) (.t 19))] (.cond (.t 20) .skip (.exit 0))) (.seq (.block 1 (.reg [oW 23 2 8,oV 24 6,oV 25 9,oI 26 1 24 25,oL 27 26,
 oV 28 1,oV 30 9,oM 31 (.bin .eql (.t 30) (oK 0)),oM 29 (.call 35 [(.t 27),(.t 28)]),oM 32 (.call 64 [(.t 23),(.t 29),(.t 31)]),oS (.store true
 2 (.t 8) (.t 32) [])])) (.reg [oV 21 9,oM 22 (.bin .add (.t 21) (oK 1)),oV 9 22])))))) (oR [oW 33 2 8,oV 34 7,oS (.store true 2 (.t 4) (.t
 33) []),oV 5 34] .ret)))))
theorem ok19:FnOk Tryz.prog 19 35 4 c19 [.cell 4 true 2, .t 5]:=⟨_,_,Tryz.func19,rfl,rfl,by kernel_rfl,by kernel_rfl⟩
theorem bd19:bodied Tryz.prog 19=true:=by kernel_rfl
def c20:CI:=(oR [oM 1 (.box 0 true (.t 0)),oM 2 (.mv (oK 0)),oM 3 (.mv (oK 0))] (oR [oW 10 12 1,oM 11 (.callw 1 5 53 [(.t 10),
 (.c (.bool true))]),oV 9 11,oX 12 0 9,oX 13 1 9,oM 4 (.alloc 6 [.nils,(.int .i64 0),(.int .i64 0),(.int .i64 0),(.int .i64 0),(.int .i64 0),(.int
 .i64 0), .nils, .nils, .nils, .nils,(.int .i64 0)]),oS (.stz true 12 (.t 4) (.t 12) []),oV 5 13] (.seq (oR [oV 14 5,oM 15 (.bin .neq (.t 14)
 (oK 0))] (.cond (.t 15) (oR [oV 16 5,oM 2 (.mv (oK 0)),oV 3 16] .ret) .skip)) (oR [oM 6 (.mv (oK 0))] (.seq (oR [oW 17 12
 4,oM 18 (.callw 7 1 58 [(.t 17),(.c (.fn 59 []))]),oM 19 (.mrx 8 (.t 18))] (.block 0 (.loop (oR [oM 20 (.mnz (.t 19)),oX 21 0 20] (.seq (.cond
 (.t 21) .skip (.exit 0)) (.block 1 (oR [oM 22 (.mez (.t 19)),oX 23 1 22,oV 8 23] (.reg [oV 24 6,oV 25 8,oM 26 (.bin .add (.t 24) (.t 25)),
 oV 6 26])))))))) (oR [oV 27 6,oV 2 27,oM 3 (.mv (oK 0))] .ret))))))
theorem ok20:FnOk Tryz.prog 20 28 9 c20 [.t 2, .t 3]:=⟨_,_,Tryz.func20,rfl,rfl,by kernel_rfl,by kernel_rfl⟩
theorem bd20:bodied Tryz.prog 20=true:=by kernel_rfl
def c21:CI:=(oR [oM 1 (.box 0 true (.t 0)),oM 2 (.mv (oK 0)),oM 3 (.mv (oK 0))] (oR [oW 7 12 1,oM 8 (.callw 1 1 56 [(.t 7),(.c
 (.bool true))]),oV 6 8,oX 9 0 6,oX 10 1 6,oV 4 9,oV 5 10] (oR [oV 11 4,oN 12 11,oV 13 5,oV 2 12,oV 3 13] .ret)))
theorem ok21:FnOk Tryz.prog 21 14 2 c21 [.t 2, .t 3]:=⟨_,_,Tryz.func21,rfl,rfl,by kernel_rfl,by kernel_rfl⟩
theorem bd21:bodied Tryz.prog 21=true:=by kernel_rfl
def c22:CI:=(oR [oM 4 (.mv (.c (.bool false)))] (.seq (oR [oV 6 0,oN 7 6,oV 8 1,oN 9 8,oM 10 (.bin .neq (.t 7) (.t 9))] (.cond
 (.t 10) (oR [oM 4 (.mv (.c (.bool false)))] .ret) .skip)) (.seq (oR [oM 5 (.mv (oK 0))] (.block 0 (.loop (.seq (oR [oV 11 5,
 oV 12 0,oN 13 12,oM 14 (.bin .lss (.t 11) (.t 13))] (.cond (.t 14) .skip (.exit 0))) (.seq (.block 1 (oR [oV 17 0,oV 18 5,oI 19 1 17 18,oL
 20 19,oV 21 1,oV 22 5,oI 23 1 21 22,oL 24 23,oM 25 (.bin .neq (.t 20) (.t 24))] (.cond (.t 25) (oR [oM 4 (.mv (.c (.bool false)))] .ret)
 .skip))) (.reg [oV 15 5,oM 16 (.bin .add (.t 15) (oK 1)),oV 5 16])))))) (oR [oM 4 (.mv (.c (.bool true)))] .ret))))
theorem ok22:FnOk Tryz.prog 22 26 0 c22 [.t 4]:=⟨_,_,Tryz.func22,rfl,rfl,by kernel_rfl,by kernel_rfl⟩
theorem bd22:bodied Tryz.prog 22=true:=by kernel_rfl
def c23:CI:=(oR [oM 2 (.box 0 true (.t 0)),oM 3 (.box 1 true (.t 1)),oM 4 (.mv (.c (.bool false)))] (.seq (oR [oF 7 9 2,oL 8 7,
 oN 9 8,oF 10 9 3,oL 11 10,oN 12 11,oM 13 (.bin .neq (.t 9) (.t 12)),oV 14 13,oG 14 false (oF 15 10 2),oG 14 false (oL 16 15),oG 14 false (oN 17
 16),oG 14 false (oF 18 10 3),oG 14 false (oL 19 18),oG 14 false (oN 20 19),oG 14 false (oM 21 (.bin .neq (.t 17) (.t 20))),oM 22 (.pick (.t 14) (.c
 (.bool true)) (.t 21)),oV 23 22,oG 23 false (oF 24 11 2),oG 23 false (oL 25 24),oG 23 false (oF 26 11 3),oG 23 false (oL 27 26),oG 23 false (oM 28
 (.bin .neq (.t 25) (.t 27))),oM 29 (.pick (.t 23) (.c (.bool true)) (.t 28)),oV 30 29,oG 30 false (oF 31 0 2),oG 30 false (oF 32 8 31),oG 30 false
 (oL 33 32),oG 30 false (oF 34 0 3),oG 30 false (oF 35 8 34),oG 30 false (oL 36 35),oG 30 false (oM 37 (.call 22 [(.t 33),(.t 36)])),oG 30 false (oM
 38 (.un .not (.t 37))),oM 39 (.pick (.t 30) (.c (.bool true)) (.t 38))] (.cond (.t 39) (oR [oM 4 (.mv (.c (.bool false)))] .ret) .skip)) (.seq
 (oR [oM 5 (.mv (oK 0))] (.block 0 (.loop (.seq (oR [oV 40 5,oF 41 9 2,oL 42 41,oN 43 42,oM 44 (.bin .lss (.t 40) (.t 43))] (.cond
 (.t 44) .skip (.exit 0))) (.seq (.block 1 (oR [oF 47 9 2,oL 48 47,oV 49 5,oI 50 3 48 49,oW 51 3 50,oF 52 9 3,oL 53 52,oV 54 5,oI 55 3 53
 54,oW 56 3 55,oM 57 (.eqs true (.node [(0,1,(.leaf true)),(1,2,(.node [(0,1,(.leaf true)),(1,1,(.leaf true))]))]) (.t 51) (.t 56))] (.cond
 (.t 57) (oR [oM 4 (.mv (.c (.bool false)))] .ret) .skip))) (.reg [oV 45 5,oM 46 (.bin .add (.t 45) (oK 1)),oV 5 46])))))) (.seq (oR [oM 6 (.mv (oK 0))] (.block 2 (.loop (.seq (oR [oV 58 6,oF 59 10 2,oL 60 59,oN 61 60,oM 62 (.bin .lss (.t 58) (.t 61))] (.cond (.t 62) .skip
 (.exit 2))) (.seq (.block 3 (oR [oF 65 10 2,oL 66 65,oV 67 6,oI 68 2 66 67,oW 69 2 68,oF 70 10 3,oL 71 70,oV 72 6,oI 73 2 71 72,oW 74
 2 73,oM 75 (.eqs true (.node [(0,1,(.leaf true)),(1,1,(.leaf true))]) (.t 69) (.t 74))] (.cond (.t 75) (oR [oM 4 (.mv (.c (.bool false)))]
 .ret) .skip))) (.reg [oV 63 6,oM 64 (.bin .add (.t 63) (oK 1)),oV 6 64])))))) (oR [oM 4 (.mv (.c (.bool true)))] .ret)))))
theorem ok23:FnOk Tryz.prog 23 76 2 c23 [.t 4]:=⟨_,_,Tryz.func23,rfl,rfl,by kernel_rfl,by kernel_rfl⟩
theorem bd23:bodied Tryz.prog 23=true:=by kernel_rfl
def c24:CI:=(oR [oM 1 (.box 0 true (.t 0)),oM 2 (.mv (oK 0)),oM 3 (.mv (oK 0))] (oR [oW 7 12 1,oM 8 (.call 26 [(.t 7)]),oV 6 8,
 oX 9 0 6,oX 10 1 6,oM 4 (.alloc 1 [(.int .i64 0),(.int .i64 0)]),oS (.store true 2 (.t 4) (.t 9) []),oV 5 10] (.seq (.block 0 (oR [oV 12
 5,oM 13 (.bin .neq (.t 12) (oK 0)),oV 11 13] (.cond (.t 11) (oR [oV 14 5,oM 2 (.mv (oK 0)),oV 3 14] .ret) (oR [oF 16 1 4,oL 17 16,
 oM 18 (.bin .eql (.t 17) (oK 0)),oV 15 18] (.cond (.t 15) (oR [oM 2 (.mv (oK 1)),oM 3 (.mv (oK 0))] .ret) (oR [oF 20 0 4,oL 21 20,
 oM 22 (.bin .gtr (.t 21) (oK 0)),oV 19 22] (.cond (.t 19) (oR [oM 2 (.mv (oK 2)),oM 3 (.mv (oK 0))] .ret) .skip))))))) (oR [oM 2 (.mv
 (oK 3)),oM 3 (.mv (oK 0))] .ret))))
theorem ok24:FnOk Tryz.prog 24 23 2 c24 [.t 2, .t 3]:=⟨_,_,Tryz.func24,rfl,rfl,by kernel_rfl,by kernel_rfl⟩
theorem bd24:bodied Tryz.prog 24=true:=by kernel_rfl
def c25:CI:=(oR [oM 1 (.box 0 true (.t 0)),oM 2 (.mv (oK 0)),oM 3 (.mv (oK 0))] (oR [oW 7 12 1,oM 8 (.call 27 [(.t 7)]),oV 6 8,
 oX 9 0 6,oX 10 1 6,oM 4 (.alloc 1 [(.int .i64 0),(.int .i64 0)]),oS (.store true 2 (.t 4) (.t 9) []),oV 5 10] (.seq (.block 0 (oR [oV 12
 5,oM 13 (.bin .neq (.t 12) (oK 0)),oV 11 13] (.cond (.t 11) (oR [oV 14 5,oM 2 (.mv (oK 0)),oV 3 14] .ret) (oR [oF 16 1 4,oL 17 16,
 oM 18 (.bin .eql (.t 17) (oK 0)),oV 15 18] (.cond (.t 15) (oR [oM 2 (.mv (oK 1)),oM 3 (.mv (oK 0))] .ret) (oR [oF 20 0 4,oL 21 20,
 oM 22 (.bin .gtr (.t 21) (oK 0)),oV 19 22] (.cond (.t 19) (oR [oM 2 (.mv (oK 2)),oM 3 (.mv (oK 0))] .ret) .skip))))))) (oR [oM 2 (.mv
 (oK 3)),oM 3 (.mv (oK 0))] .ret))))
theorem ok25:FnOk Tryz.prog 25 23 2 c25 [.t 2, .t 3]:=⟨_,_,Tryz.func25,rfl,rfl,by kernel_rfl,by kernel_rfl⟩
theorem bd25:bodied Tryz.prog 25=true:=by kernel_rfl
def c26:CI:=(oR [oM 1 (.box 0 true (.t 0)),oM 2 (.alloc 1 [(.int .i64 0),(.int .i64 0)]),oM 3 (.mv (oK 0))] (oR [oW 9 12 1,oM
 10 (.callw 2 5 53 [(.t 9),(.c (.bool true))]),oV 8 10,oX 11 0 8,oX 12 1 8,oM 4 (.alloc 7 [.nils,(.int .i64 0),(.int .i64 0),(.int .i64 0),(.int
 .i64 0),(.int .i64 0),(.int .i64 0), .nils, .nils, .nils, .nils,(.int .i64 0)]),oS (.stz true 12 (.t 4) (.t 11) []),oV 5 12] (.seq (oR [oV
 13 5,oM 14 (.bin .neq (.t 13) (oK 0))] (.cond (.t 14) (oR [oM 15 (.build [(.int .i64 0),(.int .i64 0)] []),oV 16 5,oS (.store true 2 (.t 2)
 (.t 15) []),oV 3 16] .ret) .skip)) (oR [oW 17 12 4,oM 18 (.mkfn 65 [(.t 4)]),oM 19 (.call 62 [(.t 17),(.t 18)]),oM 6 (.alloc 8 [(.int .i64
 0),(.int .i64 0)]),oS (.store true 2 (.t 6) (.t 19) [])] (oR [oW 20 12 4,oM 21 (.mkfn 67 [(.t 4)]),oM 22 (.call 62 [(.t 20),(.t 21)]),oM
 7 (.alloc 9 [(.int .i64 0),(.int .i64 0)]),oS (.store true 2 (.t 7) (.t 22) [])] (oR [oF 23 0 6,oL 24 23,oF 25 1 7,oL 26 25,oM 27 (.build
 [(.int .i64 0),(.int .i64 0)] [(0,1,(.t 24)),(1,1,(.t 26))]),oS (.store true 2 (.t 2) (.t 27) []),oM 3 (.mv (oK 0))] .ret))))))
theorem ok26:FnOk Tryz.prog 26 28 10 c26 [.cell 2 true 2, .t 3]:=⟨_,_,Tryz.func26,rfl,rfl,by kernel_rfl,by kernel_rfl⟩
theorem bd26:bodied Tryz.prog 26=true:=by kernel_rfl
def c27:CI:=(oR [oM 1 (.box 0 true (.t 0)),oM 2 (.alloc 1 [(.int .i64 0),(.int .i64 0)]),oM 3 (.mv (oK 0))] (oR [oW 12 12 1,oM
 13 (.callw 2 1 56 [(.t 12),(.c (.bool true))]),oV 11 13,oX 14 0 11,oX 15 1 11,oV 4 14,oV 5 15] (.seq (oR [oV 16 5,oM 17 (.bin .neq (.t
 16) (oK 0))] (.cond (.t 17) (oR [oM 18 (.build [(.int .i64 0),(.int .i64 0)] []),oV 19 5,oS (.store true 2 (.t 2) (.t 18) []),oV 3 19] .ret)
 .skip)) (oR [oM 6 (.alloc 3 [(.int .i64 0),(.int .i64 0)])] (oR [oW 20 12 1,oM 21 (.callw 4 1 68 [(.t 20)]),oV 7 21] (.seq (oR [oM 8 (.mv (oK 0))] (.block 0 (.loop (.seq (oR [oV 22 8,oV 23 4,oN 24 23,oM 25 (.bin .lss (.t 22) (.t 24))] (.cond (.t 25) .skip (.exit 0)))
 (.seq (.block 1 (oR [oW 29 12 1,oV 30 7,oV 31 4,oV 32 8,oI 33 1 31 32,oL 34 33,oM 35 (.call 69 [(.t 29),(.t 30),(.t 34)]),oV 28 35,oX
 36 0 28,oX 37 1 28,oV 9 36,oV 10 37] (.reg [oW 38 2 6,oV 39 9,oV 40 8,oM 41 (.bin .eql (.t 40) (oK 0)),oM 42 (.call 64 [(.t 38),(.t 39),(.t 41)]),
 oV 43 10,oM 44 (.call 64 [(.t 42),(.t 43),(.c (.bool false))]),oS (.store true 2 (.t 6) (.t 44) [])]))) (.reg [oV 26 8,oM 27 (.bin .add (.t 26) (oK
 1)),oV 8 27])))))) (oR [oW 45 2 6,oS (.store true 2 (.t 2) (.t 45) []),oM 3 (.mv (oK 0))] .ret)))))))
theorem ok27:FnOk Tryz.prog 27 46 5 c27 [.cell 2 true 2, .t 3]:=⟨_,_,Tryz.func27,rfl,rfl,by kernel_rfl,by kernel_rfl⟩
theorem bd27:bodied Tryz.prog 27=true:=by kernel_rfl
def c28:CI:=(oR [oM 1 (.box 0 true (.t 0)),oM 2 (.mv oZ),oM 3 (.mv (oK 0))] (oR [oW 7 12 1,oM 8 (.callw 1 5 53 [(.t 7),(.c (.bool
 true))]),oV 6 8,oX 9 0 6,oX 10 1 6,oM 4 (.alloc 6 [.nils,(.int .i64 0),(.int .i64 0),(.int .i64 0),(.int .i64 0),(.int .i64 0),(.int .i64 0),
 .nils, .nils, .nils, .nils,(.int .i64 0)]),oS (.stz true 12 (.t 4) (.t 9) []),oV 5 10] (.seq (oR [oV 11 5,oM 12 (.bin .neq (.t 11) (oK 0))]
 (.cond (.t 12) (oR [oV 13 5,oM 2 (.mv oZ),oV 3 13] .ret) .skip)) (oR [oW 14 12 4,oM 15 (.callw 7 1 70 [(.t 14)]),oV 2 15,oM 3 (.mv
 (oK 0))] .ret))))
theorem ok28:FnOk Tryz.prog 28 16 8 c28 [.t 2, .t 3]:=⟨_,_,Tryz.func28,rfl,rfl,by kernel_rfl,by kernel_rfl⟩
theorem bd28:bodied Tryz.prog 28=true:=by kernel_rfl
def c29:CI:=(oR [oM 1 (.box 0 true (.t 0)),oM 2 (.mv (oK 0))] (oR [oW 6 12 1,oM 7 (.callw 1 1 56 [(.t 6),(.c (.bool true))]),oV
 5 7,oX 8 0 5,oX 9 1 5,oV 3 8,oV 4 9] (oR [oV 10 4,oV 2 10] .ret)))
theorem ok29:FnOk Tryz.prog 29 11 2 c29 [.t 2]:=⟨_,_,Tryz.func29,rfl,rfl,by kernel_rfl,by kernel_rfl⟩
theorem bd29:bodied Tryz.prog 29=true:=by kernel_rfl
def c30:CI:=(oR [oM 2 (.box 0 true (.t 0)),oM 4 (.mv (.c (.bool false)))] (oR [oW 5 12 2,oV 6 1,oM 7 (.call 71 [(.t 5),(.t 6)]),
 oV 8 7,oG 8 true (oW 9 12 2),oG 8 true (oV 10 1),oG 8 true (oF 12 11 2),oG 8 true (oL 13 12),oG 8 true (oM 11 (.call 52 [(.t 9),(.t 10)])),oG 8
 true (oM 14 (.bin .leq (.t 11) (.t 13))),oM 15 (.pick (.t 8) (.t 14) (.c (.bool false))),oV 4 15] .ret))
theorem ok30:FnOk Tryz.prog 30 16 1 c30 [.t 4]:=⟨_,_,Tryz.func30,rfl,rfl,by kernel_rfl,by kernel_rfl⟩
theorem bd30:bodied Tryz.prog 30=true:=by kernel_rfl
def c33:CI:=(oR [oM 2 (.box 0 true (.t 0)),oM 3 (.box 1 true (.t 1)),oM 4 (.mv (oK 0))] (oR [oF 10 0 2,oF 11 1 10,oL 12 11,oW
 13 2 3,oM 14 (.call 74 [(.t 12),(.t 13)]),oV 9 14,oX 15 0 9,oX 16 1 9,oM 5 (.alloc 2 [(.int .i64 0),(.int .i64 0)]),oS (.store true 2 (.t 5) (.t
 15) []),oV 6 16] (oR [oF 17 0 5,oL 18 17,oM 19 (.bin .mul (oK 100) (.t 18)),oV 7 19] (oR [oV 20 7,oF 21 1 5,oL 22 21,oM 23 (.bin
 .quo (.t 20) (.t 22)),oV 8 23] (.seq (oR [oV 24 7,oF 25 1 5,oL 26 25,oM 27 (.bin .rem (.t 24) (.t 26)),oM 28 (.bin .lss (.t 27) (oK 0))]
 (.cond (.t 28) (.reg [oV 29 8,oM 30 (.bin .sub (.t 29) (oK 1)),oV 8 30]) .skip)) (oR [oV 31 8,oM 32 (.bin .add (oK 100) (.t 31)),oM 33 (.mm
 true [(oK 0),(.t 32)]),oM 34 (.mm false [(oK 200),(.t 33)]),oV 4 34] .ret))))))
theorem ok33:FnOk Tryz.prog 33 35 3 c33 [.t 4]:=⟨_,_,Tryz.func33,rfl,rfl,by kernel_rfl,by kernel_rfl⟩
theorem bd33:bodied Tryz.prog 33=true:=by kernel_rfl
def c34:CI:=(oR [oM 3 (.box 0 true (.t 0)),oM 5 (.box 1 true (.t 2)),oM 6 (.mv (.c (.bool false)))] (.seq (oR [oM 7 (.mv (oK 0))]
 (.block 0 (.loop (.seq (oR [oV 8 7,oV 9 1,oN 10 9,oM 11 (.bin .lss (.t 8) (.t 10))] (.cond (.t 11) .skip (.exit 0))) (.seq (.block 1 (oR [oW 14 9 3,oV 15 1,oV 16 7,oI 17 2 15 16,oW 18 2 17,oW 19 2 5,oF 21 7 3,oL 22 21,oN 23 22,oM 20 (.callz 2 1 76 [(.t 14),(.t 18),(.t 19)]
 []),oM 24 (.callz 3 1 75 [(.t 20),(.t 23)] []),oN 25 24,oM 26 (.bin .gtr (.t 25) (oK 0))] (.cond (.t 26) (oR [oM 6 (.mv (.c (.bool false)))]
 .ret) .skip))) (.reg [oV 12 7,oM 13 (.bin .add (.t 12) (oK 1)),oV 7 13])))))) (oR [oM 6 (.mv (.c (.bool true)))] .ret)))
theorem ok34:FnOk Tryz.prog 34 27 4 c34 [.t 6]:=⟨_,_,Tryz.func34,rfl,rfl,by kernel_rfl,by kernel_rfl⟩
theorem bd34:bodied Tryz.prog 34=true:=by kernel_rfl
def c35:CI:=(oR [oM 4 (.mv (oK 0))] (oR [oM 5 (.mv (oK 0))] (.seq (oR [oM 6 (.mv (oK 0))] (.block 0 (.loop (.seq (oR [oV 7 6,oV 8 0,oN 9 8,oM 10 (.bin .lss (.t 7) (.t 9))] (.cond (.t 10) .skip (.exit 0))) (.seq (.block 1 (oR [oV 13 0,oV 14 6,oI 15 1 13 14,
 oL 16 15,oV 17 1,oM 18 (.bin .geq (.t 16) (.t 17))] (.cond (.t 18) (.reg [oV 19 5,oM 20 (.bin .add (.t 19) (oK 1)),oV 5 20]) .skip))) (.reg [oV 11
 6,oM 12 (.bin .add (.t 11) (oK 1)),oV 6 12])))))) (oR [oV 21 5,oV 4 21] .ret))))
theorem ok35:FnOk Tryz.prog 35 22 0 c35 [.t 4]:=⟨_,_,Tryz.func35,rfl,rfl,by kernel_rfl,by kernel_rfl⟩
theorem bd35:bodied Tryz.prog 35=true:=by kernel_rfl
def c38:CI:=(oR [oM 2 (.box 0 true (.t 0)),oM 4 (.mv (.c (.bool false)))] (oR [oV 5 1,oF 6 0 2,oL 7 6,oF 9 1 2,oL 10 9,oM 8
 (.call 35 [(.t 5),(.t 7)]),oM 11 (.bin .eql (.t 8) (.t 10)),oV 4 11] .ret))
theorem ok38:FnOk Tryz.prog 38 12 1 c38 [.t 4]:=⟨_,_,Tryz.func38,rfl,rfl,by kernel_rfl,by kernel_rfl⟩
theorem bd38:bodied Tryz.prog 38=true:=by kernel_rfl
def c39:CI:=(oR [oM 1 (.box 0 true (.t 0)),oM 2 (.mv (.c (.bool false)))] (oR [oW 3 12 1,oM 4 (.call 7 [(.t 3)]),oM 5 (.un .not
 (.t 4)),oV 6 5,oG 6 true (oW 7 12 1),oG 6 true (oM 8 (.call 11 [(.t 7)])),oG 6 true (oM 9 (.bin .eql (.t 8) (oK 0))),oM 10 (.pick (.t 6) (.t 9) (.c
 (.bool false))),oV 2 10] .ret))
theorem ok39:FnOk Tryz.prog 39 11 1 c39 [.t 2]:=⟨_,_,Tryz.func39,rfl,rfl,by kernel_rfl,by kernel_rfl⟩
theorem bd39:bodied Tryz.prog 39=true:=by kernel_rfl
def c40:CI:=(oR [oM 0 (.mv (.c (.bool false)))] (oR [oM 6 (.callw 0 3 78 []),oM 7 (.call 77 [(.t 6)]),oV 5 7,oX 8 0 5,oX 9 1 5,
 oM 1 (.alloc 3 [(.int .i64 0),(.int .i64 0)]),oS (.store true 2 (.t 1) (.t 8) []),oV 2 9] (oR [oM 11 (.callw 4 5 44 []),oM 12 (.call 20 [(.t
 11)]),oV 10 12,oX 13 0 10,oX 14 1 10,oV 3 13,oV 4 14] (oR [oV 15 2,oM 16 (.bin .eql (.t 15) (oK 0)),oV 17 16,oG 17 true (oV 18 4),oG
 17 true (oM 19 (.bin .eql (.t 18) (oK 0))),oM 20 (.pick (.t 17) (.t 19) (.c (.bool false))),oV 21 20,oG 21 true (oW 22 2 1),oG 21 true (oM 23 (.build
 [(.int .i64 0),(.int .i64 0)] [(0,1,(oK 65)),(1,1,(oK 76))])),oG 21 true (oM 24 (.eqs false (.node [(0,1,(.leaf true)),(1,1,(.leaf true))])
 (.t 22) (.t 23))),oM 25 (.pick (.t 21) (.t 24) (.c (.bool false))),oV 26 25,oG 26 true (oV 27 3),oG 26 true (oM 28 (.bin .eql (.t 27) (oK 22))),oM
 29 (.pick (.t 26) (.t 28) (.c (.bool false))),oV 0 29] .ret))))
theorem ok40:FnOk Tryz.prog 40 30 9 c40 [.t 0]:=⟨_,_,Tryz.func40,rfl,rfl,by kernel_rfl,by kernel_rfl⟩
theorem bd40:bodied Tryz.prog 40=true:=by kernel_rfl
def c41:CI:=(oR [oM 1 (.box 0 true (.t 0)),oM 2 (.mv oZ),oM 3 (.mv (.c (.bool false)))] (oR [oM 4 (.mv oZ)] (.seq (oR [oM
 5 (.mv (oK 0))] (.block 0 (.loop (.seq (oR [oV 8 5,oF 9 9 1,oL 10 9,oN 11 10,oM 12 (.bin .lss (.t 8) (.t 11))] (.cond (.t 12) .skip (.exit
 0))) (.seq (.block 1 (oR [oW 16 12 1,oV 17 5,oM 18 (.callw 1 1 14 [(.t 16),(.t 17)]),oV 15 18,oX 19 0 15,oX 20 1 15,oV 6 19,oV 7 20] (.seq
 (oR [oV 21 7,oM 22 (.bin .neq (.t 21) (oK 0)),oV 23 22,oG 23 false (oV 24 6),oG 23 false (oN 25 24),oG 23 false (oM 26 (.bin .eql (.t 25)
 (oK 0))),oM 27 (.pick (.t 23) (.c (.bool true)) (.t 26)),oV 28 27,oG 28 false (oV 29 6),oG 28 false (oN 30 29),oG 28 false (oM 31 (.bin .gtr (.t 30)
 (oK 20))),oM 32 (.pick (.t 28) (.c (.bool true)) (.t 31))] (.cond (.t 32) (oR [oM 2 (.mv oZ),oM 3 (.mv (.c (.bool false)))] .ret) .skip)) (.reg
 [oV 33 4,oV 34 6,oV 35 6,oN 36 35,oM 37 (.bin .sub (.t 36) (oK 1)),oI 38 1 34 37,oL 39 38,oF 40 9 1,oL 41 40,oV 42 5,oI 43 3 41 42,oF 44 0 43,
 oL 45 44,oM 46 (.build [(.int .i64 0),(.int .i64 0)] [(0,1,(.t 39)),(1,1,(.t 45))]),oM 47 (.bsl 2 69 2 [(.t 46)] []),oM 48 (.apd 3 69 2 16 (.t
 33) (.t 47) []),oV 4 48])))) (.reg [oV 13 5,oM 14 (.bin .add (.t 13) (oK 1)),oV 5 14])))))) (oR [oV 49 4,oV 2 49,oM 3 (.mv (.c (.bool true)))]
 .ret))))
theorem ok41:FnOk Tryz.prog 41 50 4 c41 [.t 2, .t 3]:=⟨_,_,Tryz.func41,rfl,rfl,by kernel_rfl,by kernel_rfl⟩
theorem bd41:bodied Tryz.prog 41=true:=by kernel_rfl
def c42:CI:=(oR [oM 2 (.box 0 true (.t 0)),oM 3 (.box 1 false (.t 1)),oM 4 (.mv oZ),oM 5 (.mv (oK 0))] (oR [oW 10 9 2,oL 11 3,
 oM 12 (.callw 2 4 79 [(.t 10),(.t 11)]),oV 9 12,oX 13 0 9,oX 14 1 9,oX 15 2 9,oM 6 (.alloc 6 [(.int .i64 0), .nils, .nils]),oM 7 (.alloc 7 [(.int
 .i64 0), .nils, .nils]),oS (.stz true 3 (.t 6) (.t 13) []),oS (.stz true 3 (.t 7) (.t 14) []),oV 8 15] (.seq (oR [oV 16 8,oM 17 (.bin .neq
 (.t 16) (oK 0))] (.cond (.t 17) (oR [oV 18 8,oM 4 (.mv oZ),oV 5 18] .ret) .skip)) (oR [oF 19 7 2,oL 20 19,oN 21 20,oM 22 (.mkfn
 81 [(.t 3),(.t 7)]),oM 23 (.callw 8 1 80 [(.t 21),(.t 22)]),oV 4 23,oM 5 (.mv (oK 0))] .ret))))
theorem ok42:FnOk Tryz.prog 42 24 9 c42 [.t 4, .t 5]:=⟨_,_,Tryz.func42,rfl,rfl,by kernel_rfl,by kernel_rfl⟩
theorem bd42:bodied Tryz.prog 42=true:=by kernel_rfl
def c43:CI:=(oR [oM 1 (.box 0 true (.t 0)),oM 2 (.mv (.c (.bool false)))] (oR [oF 3 0 1,oF 4 0 3,oL 5 4,oN 6 5,oM 7 (.bin .gtr
 (.t 6) (oK 20)),oV 8 7,oG 8 false (oF 9 7 1),oG 8 false (oL 10 9),oG 8 false (oN 11 10),oG 8 false (oM 12 (.bin .gtr (.t 11) (oK 40))),oM 13 (.pick
 (.t 8) (.c (.bool true)) (.t 12)),oV 14 13,oG 14 false (oF 15 8 1),oG 14 false (oL 16 15),oG 14 false (oN 17 16),oG 14 false (oM 18 (.bin .gtr (.t
 17) (oK 40))),oM 19 (.pick (.t 14) (.c (.bool true)) (.t 18)),oV 2 19] .ret))
theorem ok43:FnOk Tryz.prog 43 20 1 c43 [.t 2]:=⟨_,_,Tryz.func43,rfl,rfl,by kernel_rfl,by kernel_rfl⟩
theorem bd43:bodied Tryz.prog 43=true:=by kernel_rfl
def c44:CI:=(oR [oM 0 (.alloc 0 [.nils,(.int .i64 0),(.int .i64 0),(.int .i64 0),(.int .i64 0),(.int .i64 0),(.int .i64 0), .nils, .nils,
 .nils, .nils,(.int .i64 0)])] (oR [oM 1 (.callw 1 3 78 []),oM 2 (.build [(.int .i64 0),(.int .i64 0)] [(0,1,(oK 10)),(1,1,(oK 14))]),
 oM 3 (.build [(.int .i64 0),(.int .i64 0),(.int .i64 0)] [(1,2,(.t 2))]),oM 4 (.build [(.int .i64 0),(.int .i64 0)] [(0,1,(oK 12)),(1,1,(oK
 15))]),oM 5 (.build [(.int .i64 0),(.int .i64 0),(.int .i64 0)] [(1,2,(.t 4))]),oM 6 (.build [(.int .i64 0),(.int .i64 0)] [(0,1,(oK 4)),(1,
 1,(oK 6))]),oM 7 (.build [(.int .i64 0),(.int .i64 0),(.int .i64 0)] [(0,1,(oK 3)),(1,2,(.t 6))]),oM 8 (.bsl 4 67 3 [(.t 3),(.t 5),(.t 7)]
 []),oM 9 (.build [(.int .i64 0),(.int .i64 0)] [(0,1,(oK 13)),(1,1,(oK 1))]),oM 10 (.build [(.int .i64 0),(.int .i64 0)] [(0,1,(oK 5)),(1,
 1,(oK 3))]),oM 11 (.bsl 5 76 2 [(.t 9),(.t 10)] []),oM 12 (.build [.nils,(.int .i64 0),(.int .i64 0),(.int .i64 0),(.int .i64 0),(.int .i64 0),
 (.int .i64 0), .nils, .nils, .nils, .nils,(.int .i64 0)] [(0,9,(.t 1)),(9,1,(.t 8)),(10,1,(.t 11))]),oS (.stz true 12 (.t 0) (.t 12) [])] .ret))
theorem ok44:FnOk Tryz.prog 44 13 6 c44 [.cell 0 true 12]:=⟨_,_,Tryz.func44,rfl,rfl,by kernel_rfl,by kernel_rfl⟩
theorem bd44:bodied Tryz.prog 44=true:=by kernel_rfl
def c45:CI:=(oR [oM 1 (.box 0 true (.t 0)),oM 2 (.alloc 1 [.nils,(.int .i64 0),(.int .i64 0),(.int .i64 0),(.int .i64 0),(.int .i64 0),
 (.int .i64 0), .nils, .nils])] (oR [oW 4 9 1,oM 3 (.alloc 2 [.nils,(.int .i64 0),(.int .i64 0),(.int .i64 0),(.int .i64 0),(.int .i64 0),
 (.int .i64 0), .nils, .nils]),oS (.stz true 9 (.t 3) (.t 4) [])] (oR [oF 5 0 1,oW 6 7 5,oM 7 (.callw 3 1 85 [(.t 6)]),oF 8 0 3,oS (.stz true
 7 (.t 8) (.t 7) [])] (oR [oF 10 7 1,oL 11 10,oF 14 8 1,oL 15 14,oM 9 (.bsl 4 48 2 [] []),oM 12 (.apd 5 48 2 16 (.t 9) (.t 11) [(.t 14)]),
 oM 13 (.bsl 6 3 1 [] [(.t 9),(.t 11)]),oM 16 (.apd 7 3 1 8 (.t 13) (.t 15) []),oF 17 7 3,oS (.stz false 1 (.t 17) (.t 12) []),oF 18 8 3,oS (.stz
 false 1 (.t 18) (.t 16) [])] (oR [oW 19 9 3,oS (.stz true 9 (.t 2) (.t 19) [])] .ret)))))
theorem ok45:FnOk Tryz.prog 45 20 8 c45 [.cell 2 true 9]:=⟨_,_,Tryz.func45,rfl,rfl,by kernel_rfl,by kernel_rfl⟩
theorem bd45:bodied Tryz.prog 45=true:=by kernel_rfl
def c46:CI:=(oR [oM 1 (.box 0 true (.t 0)),oM 2 (.mv (.c (.bool false)))] (oR [oF 3 0 1,oW 4 9 3,oM 5 (.call 86 [(.t 4)]),oM 6
 (.bin .eql (.t 5) (oK 0)),oV 7 6,oG 7 true (oF 8 9 1),oG 7 true (oL 9 8),oG 7 true (oN 10 9),oG 7 true (oM 11 (.bin .leq (.t 10) (oK 8))),oM 12 (.pick
 (.t 7) (.t 11) (.c (.bool false))),oV 13 12,oG 13 true (oF 14 9 1),oG 13 true (oL 15 14),oG 13 true (oM 16 (.mkfn 88 [(.t 1)])),oG 13 true (oM 17
 (.call 87 [(.t 15),(.t 16)])),oM 18 (.pick (.t 13) (.t 17) (.c (.bool false))),oV 19 18,oG 19 true (oF 20 10 1),oG 19 true (oL 21 20),oG 19 true
 (oN 22 21),oG 19 true (oM 23 (.bin .leq (.t 22) (oK 5))),oM 24 (.pick (.t 19) (.t 23) (.c (.bool false))),oV 25 24,oG 25 true (oF 26 10 1),oG 25 true
 (oL 27 26),oG 25 true (oM 28 (.call 90 [(.t 27),(.c (.fn 91 []))])),oM 29 (.pick (.t 25) (.t 28) (.c (.bool false))),oV 30 29,oG 30 true (oF 31 11
 1),oG 30 true (oL 32 31),oG 30 true (oM 33 (.call 92 [(.t 32),(oK 0),(oK 5)])),oM 34 (.pick (.t 30) (.t 33) (.c (.bool false))),oV 2 34] .ret))
theorem ok46:FnOk Tryz.prog 46 35 1 c46 [.t 2]:=⟨_,_,Tryz.func46,rfl,rfl,by kernel_rfl,by kernel_rfl⟩
theorem bd46:bodied Tryz.prog 46=true:=by kernel_rfl
def c47:CI:=(oR [oM 1 (.box 0 true (.t 0)),oM 2 (.mv (oK 0))] (.seq (oR [oF 4 0 1,oW 5 7 4,oM 6 (.call 93 [(.t 5)]),oM 7 (.bin
 .neq (.t 6) (oK 0)),oV 8 7,oG 8 false (oF 9 7 1),oG 8 false (oL 10 9),oG 8 false (oN 11 10),oG 8 false (oM 12 (.call 72 [(.t 11),(oK 3),(oK 10)])),
 oG 8 false (oM 13 (.un .not (.t 12))),oM 14 (.pick (.t 8) (.c (.bool true)) (.t 13)),oV 15 14,oG 15 false (oF 16 8 1),oG 15 false (oL 17 16),oG 15
 false (oN 18 17),oG 15 false (oF 19 7 1),oG 15 false (oL 20 19),oG 15 false (oN 21 20),oG 15 false (oM 22 (.bin .neq (.t 18) (.t 21))),oM 23 (.pick
 (.t 15) (.c (.bool true)) (.t 22))] (.cond (.t 23) (oR [oM 2 (.mv (oK 50))] .ret) .skip)) (.seq (oR [oM 3 (.mv (oK 0))] (.block 0 (.loop
 (.seq (oR [oV 24 3,oF 25 7 1,oL 26 25,oN 27 26,oM 28 (.bin .lss (.t 24) (.t 27))] (.cond (.t 28) .skip (.exit 0))) (.seq (.block 1 (oR [oF 31 7 1,oL 32 31,oV 33 3,oI 34 2 32 33,oF 35 0 34,oL 36 35,oF 37 7 1,oL 38 37,oV 39 3,oI 40 2 38 39,oF 41 1 40,oL 42 41,oM 43 (.call 72
 [(.t 36),(oK 0),(.t 42)]),oM 44 (.un .not (.t 43)),oV 45 44,oG 45 false (oF 46 7 1),oG 45 false (oL 47 46),oG 45 false (oV 48 3),oG 45 false (oI
 49 2 47 48),oG 45 false (oF 50 1 49),oG 45 false (oL 51 50),oG 45 false (oM 52 (.bin .gtr (.t 51) (oK 99999))),oM 53 (.pick (.t 45) (.c (.bool true))
 (.t 52)),oV 54 53,oG 54 false (oF 55 8 1),oG 54 false (oL 56 55),oG 54 false (oV 57 3),oG 54 false (oI 58 1 56 57),oG 54 false (oL 59 58),oG 54
 false (oM 60 (.call 72 [(.t 59),(oK 0),(oK 99)])),oG 54 false (oM 61 (.un .not (.t 60))),oM 62 (.pick (.t 54) (.c (.bool true)) (.t 61))] (.cond (.t
 62) (oR [oM 2 (.mv (oK 50))] .ret) .skip))) (.reg [oV 29 3,oM 30 (.bin .add (.t 29) (oK 1)),oV 3 30])))))) (oR [oM 2 (.mv (oK 0))]
 .ret))))
theorem ok47:FnOk Tryz.prog 47 63 1 c47 [.t 2]:=⟨_,_,Tryz.func47,rfl,rfl,by kernel_rfl,by kernel_rfl⟩
theorem bd47:bodied Tryz.prog 47=true:=by kernel_rfl
def c48:CI:=(oR [oM 6 (.mv (.c (.bool false)))] (oR [oV 7 0,oV 8 1,oV 9 2,oM 10 (.call 94 [(.t 7),(.t 8),(.t 9)]),oV 6 10]
 .ret))
theorem ok48:FnOk Tryz.prog 48 11 0 c48 [.t 6]:=⟨_,_,Tryz.func48,rfl,rfl,by kernel_rfl,by kernel_rfl⟩
theorem bd48:bodied Tryz.prog 48=true:=by kernel_rfl
def c49:CI:=(oR [oM 2 (.box 0 true (.t 0)),oM 4 (.mv (.c (.bool false)))] (oR [oV 5 1,oF 6 7 2,oL 7 6,oN 8 7,oM 9 (.bin .sub
 (.t 8) (oK 1)),oM 10 (.call 72 [(.t 5),(oK 0),(.t 9)]),oV 4 10] .ret))
theorem ok49:FnOk Tryz.prog 49 11 1 c49 [.t 4]:=⟨_,_,Tryz.func49,rfl,rfl,by kernel_rfl,by kernel_rfl⟩
theorem bd49:bodied Tryz.prog 49=true:=by kernel_rfl
def c50:CI:=(oR [oM 1 (.box 0 true (.t 0)),oM 2 (.mv (oK 0))] (oR [oF 5 0 1,oF 6 10 5,oL 7 6,oN 8 7,oV 3 8] (.seq (oR [oW 9 12 1,oM 10 (.callw 1 1 95 [(.t 9),(.c (.fn 59 []))]),oM 11 (.mrx 2 (.t 10))] (.block 0 (.loop (oR [oM 12 (.mnz (.t 11)),oX 13 0 12]
 (.seq (.cond (.t 13) .skip (.exit 0)) (.block 1 (oR [oM 14 (.mez (.t 11)),oX 15 0 14,oM 4 (.alloc 3 [(.int .i64 0),(.int .i64 0),(.int .i64
 0),(.int .i64 0),(.int .i64 0),(.int .i64 0)]),oS (.store true 6 (.t 4) (.t 15) [])] (.reg [oV 16 3,oW 17 12 1,oW 18 6 4,oM 19 (.call 96 [(.t 17),
 (.t 18)]),oM 20 (.mm false [(.t 16),(.t 19)]),oV 3 20])))))))) (oR [oV 21 3,oV 2 21] .ret))))
theorem ok50:FnOk Tryz.prog 50 22 4 c50 [.t 2]:=⟨_,_,Tryz.func50,rfl,rfl,by kernel_rfl,by kernel_rfl⟩
theorem bd50:bodied Tryz.prog 50=true:=by kernel_rfl
def c51:CI:=(oR [oM 2 (.box 0 true (.t 0)),oM 4 (.mv oZ)] (.seq (oR [oV 8 1,oN 9 8,oF 10 9 2,oL 11 10,oN 12 11,oM 13 (.bin .eql
 (.t 9) (.t 12))] (.cond (.t 13) (oR [oV 14 1,oM 15 (.bsl 1 28 1 [(.t 14)] []),oV 4 15] .ret) .skip)) (oR [oM 5 (.mv oZ)] (oR [oF 16 9 2,oL 17 16,oV 18 1,oN 19 18,oI 20 3 17 19,oF 21 1 20,oW 22 2 21,oM 6 (.alloc 2 [(.int .i64 0),(.int .i64 0)]),oS (.store true 2 (.t 6)
 (.t 22) [])] (.seq (oR [oF 23 0 6,oL 24 23,oV 7 24] (.block 0 (.loop (.seq (oR [oV 25 7,oF 26 1 6,oL 27 26,oM 28 (.bin .leq (.t
 25) (.t 27))] (.cond (.t 28) .skip (.exit 0))) (.seq (.block 1 (.reg [oV 31 5,oW 32 12 2,oV 34 1,oV 36 7,oM 33 (.bsl 3 3 1 [] []),oM 35 (.apd 4 3
 1 8 (.t 33) (.t 34) [(.t 2)]),oM 37 (.bsl 5 3 1 [(.t 36)] [(.t 33),(.t 34)]),oM 38 (.apd 6 3 1 8 (.t 35) (.t 37) [(.t 2)]),oM 39 (.callz 7 1 51 [(.t
 32),(.t 38)] []),oM 40 (.apd 8 28 1 24 (.t 31) (.t 39) []),oV 5 40])) (.reg [oV 29 7,oM 30 (.bin .add (.t 29) (oK 1)),oV 7 30])))))) (oR [oV
 41 5,oV 4 41] .ret))))))
theorem ok51:FnOk Tryz.prog 51 42 9 c51 [.t 4]:=⟨_,_,Tryz.func51,rfl,rfl,by kernel_rfl,by kernel_rfl⟩
theorem bd51:bodied Tryz.prog 51=true:=by kernel_rfl
def c52:CI:=(oR [oM 2 (.box 0 true (.t 0)),oM 4 (.mv (oK 0))] (oR [oM 5 (.mv (oK 0))] (.seq (oR [oM 6 (.mv (oK 0))] (.block
 0 (.loop (.seq (oR [oV 7 6,oF 8 10 2,oL 9 8,oN 10 9,oM 11 (.bin .lss (.t 7) (.t 10))] (.cond (.t 11) .skip (.exit 0))) (.seq (.block 1 (oR [oF 14 10 2,oL 15 14,oV 16 6,oI 17 2 15 16,oW 18 2 17,oV 19 1,oM 20 (.call 38 [(.t 18),(.t 19)]),oM 21 (.un .not (.t 20))] (.cond (.t 21)
 (.reg [oV 22 5,oM 23 (.bin .add (.t 22) (oK 1)),oV 5 23]) .skip))) (.reg [oV 12 6,oM 13 (.bin .add (.t 12) (oK 1)),oV 6 13])))))) (oR [oV 24
 5,oV 4 24] .ret))))
theorem ok52:FnOk Tryz.prog 52 25 1 c52 [.t 4]:=⟨_,_,Tryz.func52,rfl,rfl,by kernel_rfl,by kernel_rfl⟩
theorem bd52:bodied Tryz.prog 52=true:=by kernel_rfl
def c53:CI:=(oR [oM 2 (.box 0 true (.t 0)),oM 4 (.alloc 1 [.nils,(.int .i64 0),(.int .i64 0),(.int .i64 0),(.int .i64 0),(.int .i64 0),
 (.int .i64 0), .nils, .nils, .nils, .nils,(.int .i64 0)]),oM 5 (.mv (oK 0))] (.seq (oR [oW 8 12 2,oM 9 (.call 10 [(.t 8)]),oV 6 9] (oR [oV 10 6,oM 11 (.bin .neq (.t 10) (oK 0))] (.cond (.t 11) (oR [oM 12 (.build [.nils,(.int .i64 0),(.int .i64 0),(.int .i64 0),(.int
 .i64 0),(.int .i64 0),(.int .i64 0), .nils, .nils, .nils, .nils,(.int .i64 0)] []),oV 13 6,oS (.stz true 12 (.t 4) (.t 12) []),oV 5 13] .ret) .skip)))
 (.seq (oR [oV 14 1,oM 15 (.un .not (.t 14))] (.cond (.t 15) (oR [oM 16 (.build [.nils,(.int .i64 0),(.int .i64 0),(.int .i64 0),(.int
 .i64 0),(.int .i64 0),(.int .i64 0), .nils, .nils, .nils, .nils,(.int .i64 0)] []),oS (.stz true 12 (.t 4) (.t 16) []),oM 5 (.mv (oK 1))] .ret) .skip))
 (oR [oW 17 12 2,oM 18 (.build [.nils,(.int .i64 0),(.int .i64 0),(.int .i64 0),(.int .i64 0),(.int .i64 0),(.int .i64 0), .nils, .nils,
 .nils, .nils,(.int .i64 0)] [(0,12,(.t 17))]),oM 7 (.alloc 2 [.nils,(.int .i64 0),(.int .i64 0),(.int .i64 0),(.int .i64 0),(.int .i64 0),(.int
 .i64 0), .nils, .nils, .nils, .nils,(.int .i64 0)]),oS (.stz true 12 (.t 7) (.t 18) [])] (.seq (oR [oW 19 12 7,oM 20 (.call 97 [(.t 19)]),
 oM 21 (.un .not (.t 20))] (.cond (.t 21) (oR [oM 22 (.build [.nils,(.int .i64 0),(.int .i64 0),(.int .i64 0),(.int .i64 0),(.int .i64 0),
 (.int .i64 0), .nils, .nils, .nils, .nils,(.int .i64 0)] []),oS (.stz true 12 (.t 4) (.t 22) []),oM 5 (.mv (oK 3))] .ret) .skip)) (oR [oW 23
 12 7,oS (.stz true 12 (.t 4) (.t 23) []),oM 5 (.mv (oK 0))] .ret))))))
theorem ok53:FnOk Tryz.prog 53 24 3 c53 [.cell 4 true 12, .t 5]:=⟨_,_,Tryz.func53,rfl,rfl,by kernel_rfl,by kernel_rfl⟩
theorem bd53:bodied Tryz.prog 53=true:=by kernel_rfl
def c54:CI:=(oR [oM 2 (.box 0 true (.t 0)),oM 4 (.mv (.c (.bool false)))] (oR [oV 5 1,oF 6 9 2,oL 7 6,oN 8 7,oM 9 (.bin .sub
 (.t 8) (oK 1)),oM 10 (.call 92 [(.t 5),(oK 0),(.t 9)]),oV 4 10] .ret))
theorem ok54:FnOk Tryz.prog 54 11 1 c54 [.t 4]:=⟨_,_,Tryz.func54,rfl,rfl,by kernel_rfl,by kernel_rfl⟩
theorem bd54:bodied Tryz.prog 54=true:=by kernel_rfl
def c55:CI:=(oR [oM 3 (.box 0 true (.t 0)),oM 4 (.box 1 false (.t 1)),oM 5 (.box 2 false (.t 2)),oM 6 (.mv (.c (.bool false)))] (oR [oW 7 12 3,oM 8 (.mkfn 98 [(.t 4),(.t 5)]),oM 9 (.call 62 [(.t 7),(.t 8)]),oM 10 (.field false 1 1 (.t 9)),oM 11 (.bin .gtr (.t 10) (oK 0)),oV 6
 11] .ret))
theorem ok55:FnOk Tryz.prog 55 12 3 c55 [.t 6]:=⟨_,_,Tryz.func55,rfl,rfl,by kernel_rfl,by kernel_rfl⟩
theorem bd55:bodied Tryz.prog 55=true:=by kernel_rfl
def c56:CI:=(oR [oM 2 (.box 0 true (.t 0)),oM 4 (.mv oZ),oM 5 (.mv (oK 0))] (.seq (oR [oW 8 12 2,oM 9 (.call 11 [(.t 8)]),oV 6
 9] (oR [oV 10 6,oM 11 (.bin .neq (.t 10) (oK 0))] (.cond (.t 11) (oR [oV 12 6,oM 4 (.mv oZ),oV 5 12] .ret) .skip))) (.seq (oR [oV 13 1,oM 14 (.un .not (.t 13))] (.cond (.t 14) (oR [oM 4 (.mv oZ),oM 5 (.mv (oK 1))] .ret) .skip)) (oR [oW 15 12 2,oM 16 (.callw
 1 1 99 [(.t 15)]),oV 7 16] (.seq (oR [oV 17 7,oN 18 17,oM 19 (.bin .eql (.t 18) (oK 0))] (.cond (.t 19) (oR [oM 4 (.mv oZ),oM 5 (.mv
 (oK 3))] .ret) .skip)) (oR [oV 20 7,oV 4 20,oM 5 (.mv (oK 0))] .ret))))))
theorem ok56:FnOk Tryz.prog 56 21 2 c56 [.t 4, .t 5]:=⟨_,_,Tryz.func56,rfl,rfl,by kernel_rfl,by kernel_rfl⟩
theorem bd56:bodied Tryz.prog 56=true:=by kernel_rfl
def c57:CI:=(oR [oM 2 (.box 0 true (.t 0)),oM 4 (.mv (.c (.bool false)))] (oR [oV 5 1,oF 6 10 2,oL 7 6,oN 8 7,oM 9 (.bin .sub
 (.t 8) (oK 1)),oM 10 (.call 92 [(.t 5),(oK 0),(.t 9)]),oV 4 10] .ret))
theorem ok57:FnOk Tryz.prog 57 11 1 c57 [.t 4]:=⟨_,_,Tryz.func57,rfl,rfl,by kernel_rfl,by kernel_rfl⟩
theorem bd57:bodied Tryz.prog 57=true:=by kernel_rfl
def c58:CI:=(oR [oM 2 (.box 0 true (.t 0)),oM 4 (.mv (.c (.lit (.map none))))] (oR [oW 7 12 2,oV 8 1,oM 9 (.callw 1 1 95 [(.t 7),
 (.t 8)]),oV 5 9] (.seq (oR [oV 10 5,oM 11 (.mrx 2 (.t 10))] (.block 0 (.loop (oR [oM 12 (.mnz (.t 11)),oX 13 0 12] (.seq (.cond (.t
 13) .skip (.exit 0)) (.block 1 (oR [oM 14 (.mez (.t 11)),oX 15 0 14,oM 6 (.alloc 3 [(.int .i64 0),(.int .i64 0),(.int .i64 0),(.int .i64 0),
 (.int .i64 0),(.int .i64 0)]),oS (.store true 6 (.t 6) (.t 15) [])] (oR [oW 16 12 2,oW 17 6 6,oF 19 0 2,oF 20 11 19,oL 21 20,oM 18 (.call
 96 [(.t 16),(.t 17)]),oM 22 (.bin .gtr (.t 18) (.t 21))] (.cond (.t 22) (.reg [oV 23 5,oW 24 6 6,oS (.mpu (.del (.st (.node [(0,1,(.leaf true)),
 (1,1,(.leaf true)),(2,1,(.leaf true)),(3,1,(.leaf true)),(4,1,(.leaf true)),(5,1,(.leaf true))]))) (.t 23) (.t 24) (.c (.bool false)) [])])
 .skip))))))))) (oR [oV 25 5,oV 4 25] .ret))))
theorem ok58:FnOk Tryz.prog 58 26 4 c58 [.t 4]:=⟨_,_,Tryz.func58,rfl,rfl,by kernel_rfl,by kernel_rfl⟩
theorem bd58:bodied Tryz.prog 58=true:=by kernel_rfl
def c59:CI:=(oR [oM 4 (.mv (.c (.bool false)))] (oR [oM 4 (.mv (.c (.bool false)))] .ret))
theorem ok59:FnOk Tryz.prog 59 5 0 c59 [.t 4]:=⟨_,_,Tryz.func59,rfl,rfl,by kernel_rfl,by kernel_rfl⟩
theorem bd59:bodied Tryz.prog 59=true:=by kernel_rfl
def c60:CI:=(oR [oM 4 (.mv (oK 0))] (.seq (oR [oV 5 0] (.block 0 (oR [oV 7 1,oM 8 (.bin .eql (.t 5) (.t 7)),oV 6 8] (.cond
 (.t 6) (oR [oM 4 (.mv (oK 1))] .ret) (oR [oM 10 (.bin .eql (.t 5) (oK 0)),oV 9 10] (.cond (.t 9) (oR [oM 4 (.mv (oK 2))] .ret)
 .skip)))))) (oR [oM 4 (.mv (oK 3))] .ret)))
theorem ok60:FnOk Tryz.prog 60 11 0 c60 [.t 4]:=⟨_,_,Tryz.func60,rfl,rfl,by kernel_rfl,by kernel_rfl⟩
theorem bd60:bodied Tryz.prog 60=true:=by kernel_rfl
def c61:CI:=(oR [oM 2 (.mv (.c (.bool false)))] (oR [oV 3 0,oM 4 (.call 92 [(.t 3),(oK 0),(oK 99)]),oV 2 4] .ret))
theorem ok61:FnOk Tryz.prog 61 5 0 c61 [.t 2]:=⟨_,_,Tryz.func61,rfl,rfl,by kernel_rfl,by kernel_rfl⟩
theorem bd61:bodied Tryz.prog 61=true:=by kernel_rfl
def c62:CI:=(oR [oM 2 (.box 0 true (.t 0)),oM 4 (.alloc 1 [(.int .i64 0),(.int .i64 0)])] (oR [oF 7 0 2,oF 8 9 7,oL 9 8,oN 10
 9,oM 11 (.build [(.int .i64 0),(.int .i64 0)] [(0,1,(.t 10))]),oM 5 (.alloc 2 [(.int .i64 0),(.int .i64 0)]),oS (.store true 2 (.t 5) (.t 11) [])]
 (.seq (oR [oW 12 12 2,oV 13 1,oM 14 (.callw 3 1 58 [(.t 12),(.t 13)]),oM 15 (.mrx 4 (.t 14))] (.block 0 (.loop (oR [oM 16 (.mnz (.t
 15)),oX 17 0 16] (.seq (.cond (.t 17) .skip (.exit 0)) (.block 1 (oR [oM 18 (.mez (.t 15)),oX 19 0 18,oM 6 (.alloc 5 [(.int .i64 0),(.int
 .i64 0),(.int .i64 0),(.int .i64 0),(.int .i64 0),(.int .i64 0)]),oS (.store true 6 (.t 6) (.t 19) [])] (.reg [oF 20 0 5,oL 21 20,oM 22 (.paddr
 1 6 (.t 6) (oK 5)),oL 23 22,oM 24 (.mm false [(.t 21),(.t 23)]),oF 25 1 5,oL 26 25,oM 27 (.paddr 1 6 (.t 6) (oK 5)),oL 28 27,oM 29 (.mm true [(.t
 26),(.t 28)]),oF 30 0 5,oS (.store false 1 (.t 30) (.t 24) [(.t 27)]),oF 31 1 5,oS (.store false 1 (.t 31) (.t 29) [])])))))))) (oR [oW 32
 2 5,oS (.store true 2 (.t 4) (.t 32) [])] .ret))))
theorem ok62:FnOk Tryz.prog 62 33 6 c62 [.cell 4 true 2]:=⟨_,_,Tryz.func62,rfl,rfl,by kernel_rfl,by kernel_rfl⟩
theorem bd62:bodied Tryz.prog 62=true:=by kernel_rfl
def c63:CI:=(oR [oM 5 (.mv (.c (.bool false)))] (oR [oV 6 1,oL 7 2,oM 8 (.bin .geq (.t 6) (.t 7)),oV 5 8] .ret))
theorem ok63:FnOk Tryz.prog 63 9 0 c63 [.t 5]:=⟨_,_,Tryz.func63,rfl,rfl,by kernel_rfl,by kernel_rfl⟩
theorem bd63:bodied Tryz.prog 63=true:=by kernel_rfl
def c64:CI:=(oR [oM 3 (.box 0 true (.t 0)),oM 6 (.alloc 1 [(.int .i64 0),(.int .i64 0)])] (.seq (oR [oV 7 2] (.cond (.t 7) (oR [oV 8 1,oV 9 1,oM 10 (.build [(.int .i64 0),(.int .i64 0)] [(0,1,(.t 8)),(1,1,(.t 9))]),oS (.store true 2 (.t 6) (.t 10) [])] .ret) .skip))
 (oR [oF 11 0 3,oL 12 11,oV 13 1,oM 14 (.mm false [(.t 12),(.t 13)]),oF 15 1 3,oL 16 15,oV 17 1,oM 18 (.mm true [(.t 16),(.t 17)]),oM
 19 (.build [(.int .i64 0),(.int .i64 0)] [(0,1,(.t 14)),(1,1,(.t 18))]),oS (.store true 2 (.t 6) (.t 19) [])] .ret)))
theorem ok64:FnOk Tryz.prog 64 20 2 c64 [.cell 6 true 2]:=⟨_,_,Tryz.func64,rfl,rfl,by kernel_rfl,by kernel_rfl⟩
theorem bd64:bodied Tryz.prog 64=true:=by kernel_rfl
def c65:CI:=(oR [oM 5 (.mv (.c (.bool false)))] (oR [oW 6 12 2,oV 7 0,oV 8 1,oM 9 (.call 66 [(.t 6),(.t 7),(.t 8)]),oM 10 (.bin
 .eql (.t 9) (oK 2)),oV 5 10] .ret))
theorem ok65:FnOk Tryz.prog 65 11 0 c65 [.t 5]:=⟨_,_,Tryz.func65,rfl,rfl,by kernel_rfl,by kernel_rfl⟩
theorem bd65:bodied Tryz.prog 65=true:=by kernel_rfl
def c66:CI:=(oR [oM 3 (.box 0 true (.t 0)),oM 6 (.mv (oK 0))] (oR [oF 10 0 3,oF 11 0 10,oW 12 9 11,oV 13 2,oF 14 0 3,oF 15 9
 14,oL 16 15,oV 17 1,oI 18 3 16 17,oF 19 0 18,oL 20 19,oM 21 (.build [(.int .i64 0),(.int .i64 0)] [(0,1,(.t 13)),(1,1,(.t 20))]),oM 22 (.bsl
 1 69 2 [(.t 21)] []),oM 23 (.call 100 [(.t 12),(.t 22)]),oV 9 23,oX 24 0 9,oX 25 1 9,oV 7 24,oV 8 25] (oR [oV 26 7,oV 6 26] .ret)))
theorem ok66:FnOk Tryz.prog 66 27 2 c66 [.t 6]:=⟨_,_,Tryz.func66,rfl,rfl,by kernel_rfl,by kernel_rfl⟩
theorem bd66:bodied Tryz.prog 66=true:=by kernel_rfl
def c67:CI:=(oR [oM 5 (.mv (.c (.bool false)))] (oR [oW 6 12 2,oV 7 0,oV 8 1,oM 9 (.call 66 [(.t 6),(.t 7),(.t 8)]),oM 10 (.bin
 .neq (.t 9) (oK 1)),oV 5 10] .ret))
theorem ok67:FnOk Tryz.prog 67 11 0 c67 [.t 5]:=⟨_,_,Tryz.func67,rfl,rfl,by kernel_rfl,by kernel_rfl⟩
theorem bd67:bodied Tryz.prog 67=true:=by kernel_rfl
def c68:CI:=(oR [oM 1 (.box 0 true (.t 0)),oM 2 (.mv oZ)] (oR [oM 3 (.mv oZ)] (.seq (oR [oM 4 (.mv (oK 0))] (.block 0 (.loop
 (.seq (oR [oV 9 4,oF 10 9 1,oL 11 10,oN 12 11,oM 13 (.bin .lss (.t 9) (.t 12))] (.cond (.t 13) .skip (.exit 0))) (.seq (.block 1 (oR [oM 5 (.mv oZ)] (.seq (oR [oF 16 9 1,oL 17 16,oV 18 4,oI 19 3 17 18,oF 20 1 19,oF 21 0 20,oL 22 21,oV 6 22] (.block 2 (.loop (.seq (oR [oV 23 6,oF 24 9 1,oL 25 24,oV 26 4,oI 27 3 25 26,oF 28 1 27,oF 29 1 28,oL 30 29,oM 31 (.bin .leq (.t 23) (.t 30))] (.cond (.t 31) .skip
 (.exit 2))) (.seq (.block 3 (oR [oF 35 0 1,oW 36 9 35,oV 37 6,oF 38 9 1,oL 39 38,oV 40 4,oI 41 3 39 40,oF 42 0 41,oL 43 42,oM 44 (.build
 [(.int .i64 0),(.int .i64 0)] [(0,1,(.t 37)),(1,1,(.t 43))]),oM 45 (.bsl 1 69 2 [(.t 44)] []),oM 46 (.call 101 [(.t 36),(.t 45)]),oV 34 46,oX
 47 0 34,oX 48 1 34,oV 7 47,oV 8 48] (.reg [oV 49 5,oV 50 7,oM 51 (.bsl 2 3 1 [(.t 50)] []),oM 52 (.apd 3 3 1 8 (.t 49) (.t 51) []),oV 5 52])))
 (.reg [oV 32 6,oM 33 (.bin .add (.t 32) (oK 1)),oV 6 33])))))) (.reg [oV 53 3,oV 54 5,oM 55 (.bsl 4 28 1 [(.t 54)] []),oM 56 (.apd 5 28 1 24 (.t 53)
 (.t 55) []),oV 3 56])))) (.reg [oV 14 4,oM 15 (.bin .add (.t 14) (oK 1)),oV 4 15])))))) (oR [oV 57 3,oV 2 57] .ret))))
theorem ok68:FnOk Tryz.prog 68 58 6 c68 [.t 2]:=⟨_,_,Tryz.func68,rfl,rfl,by kernel_rfl,by kernel_rfl⟩
theorem bd68:bodied Tryz.prog 68=true:=by kernel_rfl
def c69:CI:=(oR [oM 3 (.box 0 true (.t 0)),oM 6 (.mv (oK 0)),oM 7 (.mv (oK 0))] (.seq (oR [oM 8 (.mv (oK 0))] (.block 0 (.loop
 (.seq (oR [oV 9 8,oV 10 2,oN 11 10,oM 12 (.bin .lss (.t 9) (.t 11))] (.cond (.t 12) .skip (.exit 0))) (.seq (.block 1 (oR [oV 15 1,
 oV 16 8,oI 17 1 15 16,oL 18 17,oV 19 2,oV 20 8,oI 21 1 19 20,oL 22 21,oF 23 9 3,oL 24 23,oV 25 8,oI 26 3 24 25,oF 27 1 26,oF 28 0 27,oL 29
 28,oM 30 (.bin .sub (.t 22) (.t 29)),oI 31 1 18 30,oL 32 31] (.block 2 (oR [oM 34 (.bin .eql (.t 32) (oK 2)),oV 33 34] (.cond (.t 33) (oR [oV 35 6,oM 36 (.bin .add (.t 35) (oK 1)),oV 6 36] (.reg [oV 37 7,oM 38 (.bin .add (.t 37) (oK 1)),oV 7 38])) (oR [oM 40 (.bin .eql
 (.t 32) (oK 3)),oV 39 40] (.cond (.t 39) (.reg [oV 41 7,oM 42 (.bin .add (.t 41) (oK 1)),oV 7 42]) .skip))))))) (.reg [oV 13 8,oM 14 (.bin .add (.t
 13) (oK 1)),oV 8 14])))))) (oR [oV 43 6,oV 44 7,oV 6 43,oV 7 44] .ret)))
theorem ok69:FnOk Tryz.prog 69 45 1 c69 [.t 6, .t 7]:=⟨_,_,Tryz.func69,rfl,rfl,by kernel_rfl,by kernel_rfl⟩
theorem bd69:bodied Tryz.prog 69=true:=by kernel_rfl
def c70:CI:=(oR [oM 1 (.box 0 true (.t 0)),oM 2 (.mv oZ)] (.cond (.c (.bool true)) (oR [oF 7 0 1,oF 8 9 7,oL 9 8,oM 10 (.callw
 1 1 102 [(.t 9)]),oF 11 0 1,oF 12 9 11,oS (.stz false 1 (.t 12) (.t 10) [])] (oR [oM 3 (.mv oZ)] (.seq .skip (.seq (oR [oF 13 0 1,
 oF 14 9 13,oL 15 14,oN 16 15,oM 17 (.mv (oK 0))] (.block 0 (.loop (oR [oM 18 (.bin .lss (.t 17) (.t 16))] (.seq (.cond (.t 18) .skip (.exit
 0)) (.seq (.block 1 (oR [oV 19 17,oI 20 3 15 17,oW 21 3 20,oM 5 (.alloc 2 [(.int .i64 0),(.int .i64 0),(.int .i64 0)]),oV 4 19,oS (.store
 true 3 (.t 5) (.t 21) [])] (oR [oF 22 1 5,oF 23 0 22,oL 24 23,oV 6 24] (.block 2 (.loop (.seq (oR [oV 25 6,oF 26 1 5,oF 27 1 26,
 oL 28 27,oM 29 (.bin .leq (.t 25) (.t 28))] (.cond (.t 29) .skip (.exit 2))) (.seq (.block 3 (oR [oF 32 0 1,oF 33 9 32,oL 34 33,oV 35 4,oV
 36 6,oV 37 6,oM 38 (.build [(.int .i64 0),(.int .i64 0)] [(0,1,(.t 36)),(1,1,(.t 37))]),oI 39 3 34 35,oF 40 1 39,oS (.store true 2 (.t 40) (.t
 38) [])] (oR [oW 41 12 1,oM 42 (.call 97 [(.t 41)])] (.cond (.t 42) (oR [oV 43 3,oV 44 6,oM 45 (.bsl 3 3 1 [(.t 44)] []),oM 46 (.apd
 4 3 1 8 (.t 43) (.t 45) []),oV 3 46] (.exit 1)) .skip)))) (.reg [oV 30 6,oM 31 (.bin .add (.t 30) (oK 1)),oV 6 31])))))))) (.reg [oM 47 (.bin .add
 (.t 17) (oK 1)),oV 17 47]))))))) (oR [oV 48 3,oV 2 48] .ret))))) .skip))
theorem ok70:FnOk Tryz.prog 70 49 5 c70 [.t 2]:=⟨_,_,Tryz.func70,rfl,rfl,by kernel_rfl,by kernel_rfl⟩
theorem bd70:bodied Tryz.prog 70=true:=by kernel_rfl
def c71:CI:=(oR [oM 2 (.box 0 true (.t 0)),oM 4 (.mv (.c (.bool false)))] (.seq (oR [oM 5 (.mv (oK 0))] (.block 0 (.loop (.seq (oR [oV 6 5,oV 7 1,oN 8 7,oM 9 (.bin .lss (.t 6) (.t 8)),oV 10 9,oG 10 true (oV 11 5),oG 10 true (oF 12 9 2),oG 10 true (oL 13 12),oG 10 true
 (oN 14 13),oG 10 true (oM 15 (.bin .lss (.t 11) (.t 14))),oM 16 (.pick (.t 10) (.t 15) (.c (.bool false)))] (.cond (.t 16) .skip (.exit 0))) (.seq (.block
 1 (oR [oV 19 1,oV 20 5,oI 21 1 19 20,oL 22 21,oF 23 9 2,oL 24 23,oV 25 5,oI 26 3 24 25,oF 27 1 26,oF 28 0 27,oL 29 28,oF 30 9 2,oL
 31 30,oV 32 5,oI 33 3 31 32,oF 34 1 33,oF 35 1 34,oL 36 35,oM 37 (.call 48 [(.t 22),(.t 29),(.t 36)]),oM 38 (.un .not (.t 37))] (.cond (.t 38)
 (oR [oM 4 (.mv (.c (.bool false)))] .ret) .skip))) (.reg [oV 17 5,oM 18 (.bin .add (.t 17) (oK 1)),oV 5 18])))))) (oR [oV 39 1,oN 40
 39,oF 41 9 2,oL 42 41,oN 43 42,oM 44 (.bin .eql (.t 40) (.t 43)),oV 4 44] .ret)))
theorem ok71:FnOk Tryz.prog 71 45 1 c71 [.t 4]:=⟨_,_,Tryz.func71,rfl,rfl,by kernel_rfl,by kernel_rfl⟩
theorem bd71:bodied Tryz.prog 71=true:=by kernel_rfl
def c72:CI:=(oR [oM 6 (.mv (.c (.bool false)))] (oR [oV 7 0,oV 8 1,oV 9 2,oM 10 (.call 94 [(.t 7),(.t 8),(.t 9)]),oV 6 10]
 .ret))
theorem ok72:FnOk Tryz.prog 72 11 0 c72 [.t 6]:=⟨_,_,Tryz.func72,rfl,rfl,by kernel_rfl,by kernel_rfl⟩
theorem bd72:bodied Tryz.prog 72=true:=by kernel_rfl
def c74:CI:=(oR [oM 3 (.box 0 true (.t 1)),oM 4 (.alloc 1 [(.int .i64 0),(.int .i64 0)]),oM 5 (.mv (.c (.bool false)))] (.seq (oR [oV 6 0,oM 7 (.bin .eql (.t 6) (oK 0))] (.cond (.t 7) (oR [oM 8 (.build [(.int .i64 0),(.int .i64 0)] []),oS (.store true 2 (.t 4) (.t 8) []),
 oM 5 (.mv (.c (.bool false)))] .ret) .skip)) (oR [oV 9 0,oV 10 0,oM 11 (.bin .mul (.t 9) (.t 10)),oF 12 0 3,oL 13 12,oF 14 0 3,oL 15 14,
 oM 16 (.bin .mul (.t 13) (.t 15)),oM 17 (.bin .add (.t 11) (.t 16)),oF 18 1 3,oL 19 18,oF 20 1 3,oL 21 20,oM 22 (.bin .mul (.t 19) (.t 21)),oM 23
 (.bin .sub (.t 17) (.t 22)),oV 24 0,oM 25 (.bin .mul (oK 2) (.t 24)),oF 26 0 3,oL 27 26,oM 28 (.bin .mul (.t 25) (.t 27)),oM 29 (.call 103 [(.t 23),
 (.t 28)]),oS (.store true 2 (.t 4) (.t 29) []),oM 5 (.mv (.c (.bool true)))] .ret)))
theorem ok74:FnOk Tryz.prog 74 30 2 c74 [.cell 4 true 2, .t 5]:=⟨_,_,Tryz.func74,rfl,rfl,by kernel_rfl,by kernel_rfl⟩
theorem bd74:bodied Tryz.prog 74=true:=by kernel_rfl
def c75:CI:=(oR [oM 4 (.mv oZ)] (oR [oM 5 (.mv oZ)] (.seq (oR [oM 6 (.mv (oK 0))] (.block 0 (.loop (.seq (oR [oV
 7 6,oV 8 0,oN 9 8,oM 10 (.bin .lss (.t 7) (.t 9))] (.cond (.t 10) .skip (.exit 0))) (.seq (.block 1 (oR [oV 13 0,oV 14 6,oI 15 1 13 14,oL
 16 15,oV 17 1,oM 18 (.call 72 [(.t 16),(oK 1),(.t 17)])] (.cond (.t 18) (.reg [oV 19 5,oV 20 6,oM 21 (.bsl 0 3 1 [(.t 20)] []),oM 22 (.apd 1 3
 1 8 (.t 19) (.t 21) []),oV 5 22]) .skip))) (.reg [oV 11 6,oM 12 (.bin .add (.t 11) (oK 1)),oV 6 12])))))) (oR [oV 23 5,oV 4 23] .ret))))
theorem ok75:FnOk Tryz.prog 75 24 2 c75 [.t 4]:=⟨_,_,Tryz.func75,rfl,rfl,by kernel_rfl,by kernel_rfl⟩
theorem bd75:bodied Tryz.prog 75=true:=by kernel_rfl
def c76:CI:=(oR [oM 3 (.box 0 true (.t 0)),oM 4 (.box 1 true (.t 1)),oM 5 (.box 2 true (.t 2)),oM 6 (.mv oZ)] (oR [oF 15 7 3,oL
 16 15,oN 17 16,oV 7 17] (oR [oV 18 7,oM 19 (.mks 3 3 1 8 [(.int .i64 0)] (.t 18) (.t 18)),oV 20 7,oM 21 (.mks 4 4 1 1 [(.bool false)] (.t
 20) (.t 20)),oV 22 7,oM 23 (.mks 5 3 1 8 [(.int .i64 0)] (.t 22) (.t 22)),oV 8 19,oV 9 21,oV 10 23] (.seq (oR [oM 11 (.mv (oK 0))] (.block
 0 (.loop (.seq (oR [oV 24 11,oV 25 7,oM 26 (.bin .lss (.t 24) (.t 25))] (.cond (.t 26) .skip (.exit 0))) (.seq (.block 1 (.reg [oV 29 8,oV
 30 11,oW 31 9 3,oW 32 2 4,oF 33 0 5,oL 34 33,oV 35 11,oM 36 (.call 104 [(.t 31),(.t 32),(.t 34),(.t 35)]),oI 37 1 29 30,oS (.store false 1 (.t
 37) (.t 36) [])])) (.reg [oV 27 11,oM 28 (.bin .add (.t 27) (oK 1)),oV 11 28])))))) (.seq (oR [oM 12 (.mv (oK 1))] (.block 2 (.loop (.seq (oR [oV 38 12,oV 39 7,oM 40 (.bin .leq (.t 38) (.t 39))] (.cond (.t 40) .skip (.exit 2))) (.seq (.block 3 (oR [oM 43 (.bsl 6 4 1 [] []),oV
 44 9,oM 45 (.apd 7 4 1 1 (.t 43) (.t 44) []),oV 13 45] (.seq (oR [oM 14 (.mv (oK 0))] (.block 4 (.loop (.seq (oR [oV 46 14,oV 47 7,
 oM 48 (.bin .lss (.t 46) (.t 47))] (.cond (.t 48) .skip (.exit 4))) (.seq (.block 5 (oR [oV 51 9,oV 52 14,oI 53 1 51 52,oL 54 53,oM 55 (.un
 .not (.t 54)),oV 56 55,oG 56 true (oV 57 8),oG 56 true (oV 58 14),oG 56 true (oI 59 1 57 58),oG 56 true (oL 60 59),oG 56 true (oV 61 8),oG 56 true
 (oV 62 9),oG 56 true (oV 63 14),oG 56 true (oV 67 8),oG 56 true (oV 68 9),oG 56 true (oV 69 14),oG 56 true (oF 73 1 5),oG 56 true (oL 74 73),oG
 56 true (oV 75 14),oG 56 true (oI 76 1 74 75),oG 56 true (oL 77 76),oG 56 true (oM 64 (.call 105 [(.t 61),(.t 62),(.t 63),(oK (-1))])),oG 56 true
 (oM 65 (.bin .quo (.t 64) (oK 2))),oG 56 true (oM 66 (.bin .add (.t 60) (.t 65))),oG 56 true (oM 70 (.call 105 [(.t 67),(.t 68),(.t 69),(oK 1)])),
 oG 56 true (oM 71 (.bin .quo (.t 70) (oK 2))),oG 56 true (oM 72 (.bin .add (.t 66) (.t 71))),oG 56 true (oM 78 (.bin .gtr (.t 72) (.t 77))),oM 79 (.pick
 (.t 56) (.t 78) (.c (.bool false)))] (.cond (.t 79) (.reg [oV 80 13,oV 81 14,oV 82 10,oV 83 14,oV 84 12,oI 85 1 80 81,oS (.store false 1 (.t 85)
 (.c (.bool true)) []),oI 86 1 82 83,oS (.store false 1 (.t 86) (.t 84) [])]) .skip))) (.reg [oV 49 14,oM 50 (.bin .add (.t 49) (oK 1)),oV 14 50]))))))
 (.reg [oV 87 13,oV 9 87])))) (.reg [oV 41 12,oM 42 (.bin .add (.t 41) (oK 1)),oV 12 42])))))) (oR [oV 88 10,oV 6 88] .ret))))))
theorem ok76:FnOk Tryz.prog 76 89 8 c76 [.t 6]:=⟨_,_,Tryz.func76,rfl,rfl,by kernel_rfl,by kernel_rfl⟩
theorem bd76:bodied Tryz.prog 76=true:=by kernel_rfl
def c77:CI:=(oR [oM 1 (.box 0 true (.t 0)),oM 2 (.alloc 1 [(.int .i64 0),(.int .i64 0)]),oM 3 (.mv (oK 0))] (.seq (oR [oW 5 9 1,
 oM 6 (.call 86 [(.t 5)]),oV 4 6] (oR [oV 7 4,oM 8 (.bin .neq (.t 7) (oK 0))] (.cond (.t 8) (oR [oM 9 (.build [(.int .i64 0),(.int
 .i64 0)] []),oV 10 4,oS (.store true 2 (.t 2) (.t 9) []),oV 3 10] .ret) .skip))) (oR [oF 11 0 1,oW 12 7 11,oM 13 (.call 106 [(.t 12)]),oS
 (.store true 2 (.t 2) (.t 13) []),oM 3 (.mv (oK 0))] .ret)))
theorem ok77:FnOk Tryz.prog 77 14 2 c77 [.cell 2 true 2, .t 3]:=⟨_,_,Tryz.func77,rfl,rfl,by kernel_rfl,by kernel_rfl⟩
theorem bd77:bodied Tryz.prog 77=true:=by kernel_rfl
def c78:CI:=(oR [oM 0 (.alloc 0 [.nils,(.int .i64 0),(.int .i64 0),(.int .i64 0),(.int .i64 0),(.int .i64 0),(.int .i64 0), .nils, .nils])]
 (oR [oM 1 (.callw 1 1 107 []),oM 2 (.build [(.int .i64 0),(.int .i64 0)] [(0,1,(oK 100)),(1,1,(oK 110))]),oM 3 (.build [(.int .i64 0),
 (.int .i64 0)] [(0,1,(oK 60)),(1,1,(oK 60))]),oM 4 (.build [(.int .i64 0),(.int .i64 0)] [(0,1,(oK 50)),(1,1,(oK 55))]),oM 5 (.build [(.int
 .i64 0),(.int .i64 0)] [(0,1,(oK 40)),(1,1,(oK 40))]),oM 6 (.build [(.int .i64 0),(.int .i64 0)] [(0,1,(oK 50)),(1,1,(oK 50))]),oM 7 (.build
 [(.int .i64 0),(.int .i64 0)] [(0,1,(oK 60)),(1,1,(oK 60))]),oM 8 (.bsl 2 48 2 [(.t 2),(.t 3),(.t 4),(.t 5),(.t 6),(.t 7)] []),oM 9 (.bsl
 3 3 1 [(oK 10),(oK 6),(oK 3),(oK 1),(oK 3),(oK 6)] []),oM 10 (.build [.nils,(.int .i64 0),(.int .i64 0),(.int .i64 0),(.int .i64 0),(.int .i64
 0),(.int .i64 0), .nils, .nils] [(0,7,(.t 1)),(7,1,(.t 8)),(8,1,(.t 9))]),oS (.stz true 9 (.t 0) (.t 10) [])] .ret))
theorem ok78:FnOk Tryz.prog 78 11 4 c78 [.cell 0 true 9]:=⟨_,_,Tryz.func78,rfl,rfl,by kernel_rfl,by kernel_rfl⟩
theorem bd78:bodied Tryz.prog 78=true:=by kernel_rfl
def c79:CI:=(oR [oM 2 (.box 0 true (.t 0)),oM 4 (.alloc 1 [(.int .i64 0), .nils, .nils]),oM 5 (.alloc 2 [(.int .i64 0), .nils, .nils]),oM
 6 (.mv (oK 0))] (.seq (oR [oW 11 9 2,oV 12 1,oM 13 (.call 108 [(.t 11),(.t 12)]),oV 7 13] (oR [oV 14 7,oM 15 (.bin .neq (.t 14)
 (oK 0))] (.cond (.t 15) (oR [oM 16 (.build [(.int .i64 0), .nils, .nils] []),oM 17 (.build [(.int .i64 0), .nils, .nils] []),oV 18 7,oS (.stz
 true 3 (.t 4) (.t 16) []),oS (.stz true 3 (.t 5) (.t 17) []),oV 6 18] .ret) .skip))) (oR [oF 19 0 2,oW 20 7 19,oM 21 (.call 106 [(.t 20)]),
 oM 8 (.alloc 3 [(.int .i64 0),(.int .i64 0)]),oS (.store true 2 (.t 8) (.t 21) [])] (oR [oF 22 0 8,oL 23 22,oF 24 8 2,oL 25 24,oM 26 (.build
 [(.int .i64 0), .nils, .nils] [(0,1,(.t 23)),(2,1,(.t 25))]),oS (.stz true 3 (.t 4) (.t 26) [])] (oR [oF 27 1 8,oL 28 27,oF 29 8 2,oL
 30 29,oM 31 (.build [(.int .i64 0), .nils, .nils] [(0,1,(.t 28)),(2,1,(.t 30))]),oS (.stz true 3 (.t 5) (.t 31) [])] (.seq (oR [oF 32 7
 2,oL 33 32,oN 34 33,oM 35 (.mv (oK 0))] (.block 0 (.loop (oR [oM 36 (.bin .lss (.t 35) (.t 34))] (.seq (.cond (.t 36) .skip (.exit 0)) (.seq
 (.block 1 (oR [oI 37 2 33 35,oW 38 2 37,oM 10 (.alloc 4 [(.int .i64 0),(.int .i64 0)]),oS (.store true 2 (.t 10) (.t 38) [])] (oR [oF 39 1 4,oL 40 39,oF 41 1 10,oL 42 41,oM 43 (.bsl 5 3 1 [(.t 42)] []),oM 44 (.apd 6 3 1 8 (.t 40) (.t 43) []),oF 45 1 4,oS (.stz false 1 (.t 45)
 (.t 44) [])] (.reg [oF 46 1 5,oL 47 46,oF 48 0 10,oL 49 48,oM 50 (.bsl 7 3 1 [(.t 49)] []),oM 51 (.apd 8 3 1 8 (.t 47) (.t 50) []),oF 52 1 5,oS
 (.stz false 1 (.t 52) (.t 51) [])])))) (.reg [oM 53 (.bin .add (.t 35) (oK 1)),oV 35 53]))))))) (oR [oW 54 3 4,oW 55 3 5,oS (.stz true 3 (.t
 4) (.t 54) [(.t 5)]),oS (.stz true 3 (.t 5) (.t 55) []),oM 6 (.mv (oK 0))] .ret)))))))
theorem ok79:FnOk Tryz.prog 79 56 9 c79 [.cell 4 true 3, .cell 5 true 3, .t 6]:=⟨_,_,Tryz.func79,rfl,rfl,by kernel_rfl,by kernel_rfl⟩
theorem bd79:bodied Tryz.prog 79=true:=by kernel_rfl
def c80:CI:=(oR [oM 4 (.mv oZ)] (oR [oM 5 (.mv oZ)] (.seq (oR [oV 7 0,oM 8 (.mv (oK 0))] (.block 0 (.loop (oR [oM
 9 (.bin .lss (.t 8) (.t 7))] (.seq (.cond (.t 9) .skip (.exit 0)) (.seq (.block 1 (oR [oV 10 8,oV 6 10] (oR [oV 11 1,oV 12 6,oM 13
 (.callx (.t 11) [(.t 12)])] (.cond (.t 13) (.reg [oV 14 5,oV 15 6,oM 16 (.bsl 0 3 1 [(.t 15)] []),oM 17 (.apd 1 3 1 8 (.t 14) (.t 16) []),oV 5 17])
 .skip)))) (.reg [oM 18 (.bin .add (.t 8) (oK 1)),oV 8 18]))))))) (oR [oV 19 5,oV 4 19] .ret))))
theorem ok80:FnOk Tryz.prog 80 20 2 c80 [.t 4]:=⟨_,_,Tryz.func80,rfl,rfl,by kernel_rfl,by kernel_rfl⟩
theorem bd80:bodied Tryz.prog 80=true:=by kernel_rfl
def c81:CI:=(oR [oM 3 (.box 0 false (.t 0)),oM 4 (.mv (.c (.bool false)))] (oR [oL 5 1,oM 6 (.mkfn 83 [(.t 2),(.t 3)]),oM 7 (.call
 82 [(.t 5),(.t 6)]),oV 4 7] .ret))
theorem ok81:FnOk Tryz.prog 81 8 1 c81 [.t 4]:=⟨_,_,Tryz.func81,rfl,rfl,by kernel_rfl,by kernel_rfl⟩
theorem bd81:bodied Tryz.prog 81=true:=by kernel_rfl
def c82:CI:=(oR [oM 4 (.mv (.c (.bool false)))] (oR [oV 5 0,oV 6 1,oM 7 (.call 109 [(.t 5),(.t 6)]),oM 8 (.bin .geq (.t 7) (oK
 0)),oV 4 8] .ret))
theorem ok82:FnOk Tryz.prog 82 9 0 c82 [.t 4]:=⟨_,_,Tryz.func82,rfl,rfl,by kernel_rfl,by kernel_rfl⟩
theorem bd82:bodied Tryz.prog 82=true:=by kernel_rfl
def c83:CI:=(oR [oM 3 (.box 0 true (.t 0)),oM 4 (.mv (.c (.bool false)))] (oR [oW 5 3 1,oW 6 2 3,oL 7 2,oM 8 (.call 84 [(.t 5),
 (.t 6),(.t 7)]),oV 4 8] .ret))
theorem ok83:FnOk Tryz.prog 83 9 1 c83 [.t 4]:=⟨_,_,Tryz.func83,rfl,rfl,by kernel_rfl,by kernel_rfl⟩
theorem bd83:bodied Tryz.prog 83=true:=by kernel_rfl
def c84:CI:=(oR [oM 3 (.box 0 true (.t 0)),oM 4 (.box 1 true (.t 1)),oM 6 (.mv (.c (.bool false)))] (oR [oW 7 3 3,oW 8 2 4,oV
 9 2,oF 11 1 3,oL 12 11,oV 13 2,oI 14 1 12 13,oL 15 14,oM 10 (.call 110 [(.t 7),(.t 8),(.t 9)]),oM 16 (.bin .gtr (.t 10) (.t 15)),oV 6 16] .ret))
theorem ok84:FnOk Tryz.prog 84 17 2 c84 [.t 6]:=⟨_,_,Tryz.func84,rfl,rfl,by kernel_rfl,by kernel_rfl⟩
theorem bd84:bodied Tryz.prog 84=true:=by kernel_rfl
def c85:CI:=(oR [oM 1 (.box 0 true (.t 0)),oM 2 (.alloc 1 [.nils,(.int .i64 0),(.int .i64 0),(.int .i64 0),(.int .i64 0),(.int .i64 0),
 (.int .i64 0)])] (oR [oM 3 (.bsl 2 138 7 [] []),oF 4 0 1,oL 5 4,oM 6 (.apd 3 138 7 56 (.t 3) (.t 5) []),oF 7 0 1,oS (.stz false 1 (.t 7)
 (.t 6) [])] (oR [oW 8 7 1,oS (.stz true 7 (.t 2) (.t 8) [])] .ret)))
theorem ok85:FnOk Tryz.prog 85 9 4 c85 [.cell 2 true 7]:=⟨_,_,Tryz.func85,rfl,rfl,by kernel_rfl,by kernel_rfl⟩
theorem bd85:bodied Tryz.prog 85=true:=by kernel_rfl
def c86:CI:=(oR [oM 1 (.box 0 true (.t 0)),oM 2 (.mv (oK 0))] (.seq (oR [oW 3 9 1,oM 4 (.call 111 [(.t 3)]),oM 5 (.un .not (.t
 4))] (.cond (.t 5) (oR [oM 2 (.mv (oK 50))] .ret) .skip)) (oR [oM 2 (.mv (oK 0))] .ret)))
theorem ok86:FnOk Tryz.prog 86 6 1 c86 [.t 2]:=⟨_,_,Tryz.func86,rfl,rfl,by kernel_rfl,by kernel_rfl⟩
theorem bd86:bodied Tryz.prog 86=true:=by kernel_rfl
def c87:CI:=(oR [oM 4 (.mv (.c (.bool false)))] (.seq (oR [oV 7 0,oN 8 7,oM 9 (.mv (oK 0))] (.block 0 (.loop (oR [oM 10
 (.bin .lss (.t 9) (.t 8))] (.seq (.cond (.t 10) .skip (.exit 0)) (.seq (.block 1 (oR [oI 11 3 7 9,oW 12 3 11,oM 6 (.alloc 0 [(.int .i64 0),
 (.int .i64 0),(.int .i64 0)]),oS (.store true 3 (.t 6) (.t 12) [])] (oR [oV 13 1,oW 14 3 6,oM 15 (.callx (.t 13) [(.t 14)]),oM 16 (.un .not
 (.t 15))] (.cond (.t 16) (oR [oM 4 (.mv (.c (.bool false)))] .ret) .skip)))) (.reg [oM 17 (.bin .add (.t 9) (oK 1)),oV 9 17]))))))) (oR [oM 4 (.mv (.c (.bool true)))] .ret)))
theorem ok87:FnOk Tryz.prog 87 18 1 c87 [.t 4]:=⟨_,_,Tryz.func87,rfl,rfl,by kernel_rfl,by kernel_rfl⟩
theorem bd87:bodied Tryz.prog 87=true:=by kernel_rfl
def c88:CI:=(oR [oM 2 (.box 0 true (.t 0)),oM 3 (.mv (.c (.bool false)))] (oR [oW 4 12 1,oW 5 3 2,oM 6 (.call 89 [(.t 4),(.t 5)]),
 oV 3 6] .ret))
theorem ok88:FnOk Tryz.prog 88 7 1 c88 [.t 3]:=⟨_,_,Tryz.func88,rfl,rfl,by kernel_rfl,by kernel_rfl⟩
theorem bd88:bodied Tryz.prog 88=true:=by kernel_rfl
def c89:CI:=(oR [oM 2 (.box 0 true (.t 0)),oM 3 (.box 1 true (.t 1)),oM 4 (.mv (.c (.bool false)))] (oR [oF 5 0 3,oL 6 5,oF 7
 0 2,oF 8 7 7,oL 9 8,oN 10 9,oM 11 (.bin .sub (.t 10) (oK 1)),oM 12 (.call 92 [(.t 6),(oK 0),(.t 11)]),oV 13 12,oG 13 true (oF 14 1 3),oG 13 true
 (oF 15 0 14),oG 13 true (oL 16 15),oG 13 true (oF 17 1 3),oG 13 true (oF 18 1 17),oG 13 true (oL 19 18),oG 13 true (oM 20 (.call 92 [(.t 16),(oK
 0),(.t 19)])),oM 21 (.pick (.t 13) (.t 20) (.c (.bool false))),oV 22 21,oG 22 true (oF 23 1 3),oG 22 true (oF 24 1 23),oG 22 true (oL 25 24),oG
 22 true (oM 26 (.call 61 [(.t 25)])),oM 27 (.pick (.t 22) (.t 26) (.c (.bool false))),oV 28 27,oG 28 true (oF 29 1 3),oG 28 true (oF 30 1 29),oG 28
 true (oL 31 30),oG 28 true (oF 32 1 3),oG 28 true (oF 33 0 32),oG 28 true (oL 34 33),oG 28 true (oM 35 (.bin .sub (.t 31) (.t 34))),oG 28 true (oM
 36 (.bin .leq (.t 35) (oK 9))),oM 37 (.pick (.t 28) (.t 36) (.c (.bool false))),oV 4 37] .ret))
theorem ok89:FnOk Tryz.prog 89 38 2 c89 [.t 4]:=⟨_,_,Tryz.func89,rfl,rfl,by kernel_rfl,by kernel_rfl⟩
theorem bd89:bodied Tryz.prog 89=true:=by kernel_rfl
def c90:CI:=(oR [oM 4 (.mv (.c (.bool false)))] (.seq (oR [oV 7 0,oN 8 7,oM 9 (.mv (oK 0))] (.block 0 (.loop (oR [oM 10
 (.bin .lss (.t 9) (.t 8))] (.seq (.cond (.t 10) .skip (.exit 0)) (.seq (.block 1 (oR [oI 11 2 7 9,oW 12 2 11,oM 6 (.alloc 0 [(.int .i64 0),
 (.int .i64 0)]),oS (.store true 2 (.t 6) (.t 12) [])] (oR [oV 13 1,oW 14 2 6,oM 15 (.callx (.t 13) [(.t 14)]),oM 16 (.un .not (.t 15))] (.cond
 (.t 16) (oR [oM 4 (.mv (.c (.bool false)))] .ret) .skip)))) (.reg [oM 17 (.bin .add (.t 9) (oK 1)),oV 9 17]))))))) (oR [oM 4 (.mv (.c
 (.bool true)))] .ret)))
theorem ok90:FnOk Tryz.prog 90 18 1 c90 [.t 4]:=⟨_,_,Tryz.func90,rfl,rfl,by kernel_rfl,by kernel_rfl⟩
theorem bd90:bodied Tryz.prog 90=true:=by kernel_rfl
def c91:CI:=(oR [oM 1 (.box 0 true (.t 0)),oM 2 (.mv (.c (.bool false)))] (oR [oF 3 0 1,oL 4 3,oM 5 (.call 61 [(.t 4)]),oV 6 5,
 oG 6 true (oF 7 1 1),oG 6 true (oL 8 7),oG 6 true (oM 9 (.call 92 [(.t 8),(oK 0),(oK 8)])),oM 10 (.pick (.t 6) (.t 9) (.c (.bool false))),oV 2 10]
 .ret))
theorem ok91:FnOk Tryz.prog 91 11 1 c91 [.t 2]:=⟨_,_,Tryz.func91,rfl,rfl,by kernel_rfl,by kernel_rfl⟩
theorem bd91:bodied Tryz.prog 91=true:=by kernel_rfl
def c92:CI:=(oR [oM 6 (.mv (.c (.bool false)))] (oR [oV 7 1,oV 8 0,oM 9 (.bin .leq (.t 7) (.t 8)),oV 10 9,oG 10 true (oV 11 0),
 oG 10 true (oV 12 2),oG 10 true (oM 13 (.bin .leq (.t 11) (.t 12))),oM 14 (.pick (.t 10) (.t 13) (.c (.bool false))),oV 6 14] .ret))
theorem ok92:FnOk Tryz.prog 92 15 0 c92 [.t 6]:=⟨_,_,Tryz.func92,rfl,rfl,by kernel_rfl,by kernel_rfl⟩
theorem bd92:bodied Tryz.prog 92=true:=by kernel_rfl
def c93:CI:=(oR [oM 1 (.box 0 true (.t 0)),oM 2 (.mv (oK 0))] (.seq (oR [oM 3 (.mv (oK 0))] (.block 0 (.loop (.seq (oR [oV
 5 3,oF 6 0 1,oL 7 6,oN 8 7,oM 9 (.bin .lss (.t 5) (.t 8))] (.cond (.t 9) .skip (.exit 0))) (.seq (.block 1 (oR [oF 12 0 1,oL 13 12,oV 14
 3,oI 15 7 13 14,oW 16 7 15,oM 4 (.alloc 1 [(.int .i64 0),(.int .i64 0),(.int .i64 0),(.int .i64 0),(.int .i64 0),(.int .i64 0),(.int .i64 0)]),
 oS (.store true 7 (.t 4) (.t 16) [])] (oR [oF 17 0 4,oW 18 2 17,oM 19 (.call 112 [(.t 18)]),oM 20 (.un .not (.t 19)),oV 21 20,oG 21 false
 (oF 22 2 4),oG 21 false (oW 23 2 22),oG 21 false (oM 24 (.call 112 [(.t 23)])),oG 21 false (oM 25 (.un .not (.t 24))),oM 26 (.pick (.t 21) (.c (.bool
 true)) (.t 25)),oV 27 26,oG 27 false (oF 28 4 4),oG 27 false (oL 29 28),oG 27 false (oM 30 (.call 94 [(.t 29),(oK 0),(oK 2000)])),oG 27 false (oM
 31 (.un .not (.t 30))),oM 32 (.pick (.t 27) (.c (.bool true)) (.t 31)),oV 33 32,oG 33 false (oF 34 5 4),oG 33 false (oW 35 2 34),oG 33 false (oM 36
 (.call 113 [(.t 35)])),oG 33 false (oM 37 (.un .not (.t 36))),oM 38 (.pick (.t 33) (.c (.bool true)) (.t 37))] (.cond (.t 38) (oR [oM 2 (.mv
 (oK 10))] .ret) .skip)))) (.reg [oV 10 3,oM 11 (.bin .add (.t 10) (oK 1)),oV 3 11])))))) (.seq (oR [oF 39 0 1,oL 40 39,oN 41 40,oM 42 (.call
 94 [(.t 41),(oK 1),(oK 3)]),oM 43 (.un .not (.t 42)),oV 44 43,oG 44 false (oF 45 1 1),oG 44 false (oL 46 45),oG 44 false (oF 47 2 1),oG 44 false
 (oL 48 47),oG 44 false (oM 49 (.call 94 [(.t 46),(oK 1),(.t 48)])),oG 44 false (oM 50 (.un .not (.t 49))),oM 51 (.pick (.t 44) (.c (.bool true)) (.t
 50)),oV 52 51,oG 52 false (oF 53 2 1),oG 52 false (oL 54 53),oG 52 false (oM 55 (.bin .gtr (.t 54) (oK 2000))),oM 56 (.pick (.t 52) (.c (.bool true))
 (.t 55)),oV 57 56,oG 57 false (oF 58 2 1),oG 57 false (oL 59 58),oG 57 false (oF 60 1 1),oG 57 false (oL 61 60),oG 57 false (oM 62 (.bin .sub (.t
 59) (.t 61))),oG 57 false (oM 63 (.bin .gtr (.t 62) (oK 200))),oM 64 (.pick (.t 57) (.c (.bool true)) (.t 63)),oV 65 64,oG 65 false (oF 66 3 1),oG
 65 false (oW 67 2 66),oG 65 false (oM 68 (.call 113 [(.t 67)])),oG 65 false (oM 69 (.un .not (.t 68))),oM 70 (.pick (.t 65) (.c (.bool true)) (.t 69)),
 oV 71 70,oG 71 false (oF 72 5 1),oG 71 false (oL 73 72),oG 71 false (oM 74 (.call 94 [(.t 73),(oK 0),(oK 4000)])),oG 71 false (oM 75 (.un .not (.t
 74))),oM 76 (.pick (.t 71) (.c (.bool true)) (.t 75)),oV 77 76,oG 77 false (oF 78 6 1),oG 77 false (oL 79 78),oG 77 false (oM 80 (.call 94 [(.t 79),
 (oK 0),(oK 4000)])),oG 77 false (oM 81 (.un .not (.t 80))),oM 82 (.pick (.t 77) (.c (.bool true)) (.t 81))] (.cond (.t 82) (oR [oM 2 (.mv (oK
 10))] .ret) .skip)) (oR [oM 2 (.mv (oK 0))] .ret))))
theorem ok93:FnOk Tryz.prog 93 83 2 c93 [.t 2]:=⟨_,_,Tryz.func93,rfl,rfl,by kernel_rfl,by kernel_rfl⟩
theorem bd93:bodied Tryz.prog 93=true:=by kernel_rfl
def c94:CI:=(oR [oM 6 (.mv (.c (.bool false)))] (oR [oV 7 0,oV 8 1,oM 9 (.bin .geq (.t 7) (.t 8)),oV 10 9,oG 10 true (oV 11 0),
 oG 10 true (oV 12 2),oG 10 true (oM 13 (.bin .leq (.t 11) (.t 12))),oM 14 (.pick (.t 10) (.t 13) (.c (.bool false))),oV 6 14] .ret))
theorem ok94:FnOk Tryz.prog 94 15 0 c94 [.t 6]:=⟨_,_,Tryz.func94,rfl,rfl,by kernel_rfl,by kernel_rfl⟩
theorem bd94:bodied Tryz.prog 94=true:=by kernel_rfl
def c95:CI:=(oR [oM 2 (.box 0 true (.t 0)),oM 4 (.mv (.c (.lit (.map none))))] (oR [oM 13 (.mkx 1),oM 14 (.build [(.int .i64 0),
 (.int .i64 0),(.int .i64 0),(.int .i64 0),(.int .i64 0),(.int .i64 0)] []),oS (.mpu (.st (.node [(0,1,(.leaf true)),(1,1,(.leaf true)),(2,1,
 (.leaf true)),(3,1,(.leaf true)),(4,1,(.leaf true)),(5,1,(.leaf true))])) (.t 13) (.t 14) (oK 1) []),oV 15 13,oV 5 15] (.seq (oR [oF
 16 0 2,oF 17 9 16,oL 18 17,oN 19 18,oM 20 (.mv (oK 0))] (.block 0 (.loop (oR [oM 21 (.bin .lss (.t 20) (.t 19))] (.seq (.cond (.t 21) .skip
 (.exit 0)) (.seq (.block 1 (oR [oV 22 20,oV 6 22] (oR [oM 23 (.mkx 2),oV 7 23] (oR [oW 24 12 2,oV 25 6,oV 26 1,oM 27 (.callw
 3 1 114 [(.t 24),(.t 25),(.t 26)]),oV 8 27] (.seq (oR [oV 28 5,oM 29 (.mrx 4 (.t 28))] (.block 2 (.loop (oR [oM 30 (.mnz (.t 29)),
 oX 31 0 30] (.seq (.cond (.t 31) .skip (.exit 2)) (.block 3 (oR [oM 32 (.mez (.t 29)),oX 33 0 32,oX 34 1 32,oM 9 (.alloc 5 [(.int .i64 0),
 (.int .i64 0),(.int .i64 0),(.int .i64 0),(.int .i64 0),(.int .i64 0)]),oS (.store true 6 (.t 9) (.t 33) []),oV 10 34] (oR [oV 35 8,oM
 36 (.mrx 6 (.t 35))] (.block 4 (.loop (oR [oM 37 (.mnz (.t 36)),oX 38 0 37] (.seq (.cond (.t 38) .skip (.exit 4)) (.block 5 (oR [oM
 39 (.mez (.t 36)),oX 40 0 39,oX 41 1 39,oM 11 (.alloc 7 [(.int .i64 0),(.int .i64 0),(.int .i64 0),(.int .i64 0),(.int .i64 0),(.int .i64 0)]),
 oS (.store true 6 (.t 11) (.t 40) []),oV 12 41] (.alt [oV 42 7,oW 43 6 9,oW 44 6 11,oV 47 10,oV 48 12,oM 49 (.bin .mul (.t 47) (.t 48)),oM 45 (.call
 115 [(.t 43),(.t 44)]),oM 46 (.lkp (.st (.node [(0,1,(.leaf true)),(1,1,(.leaf true)),(2,1,(.leaf true)),(3,1,(.leaf true)),(4,1,(.leaf
 true)),(5,1,(.leaf true))])) false (.int .i64 0) (.t 42) (.t 45)),oM 50 (.bin .add (.t 46) (.t 49)),oM 51 (.mpe (.st (.node [(0,1,(.leaf true)),
 (1,1,(.leaf true)),(2,1,(.leaf true)),(3,1,(.leaf true)),(4,1,(.leaf true)),(5,1,(.leaf true))])) (.int .i64 0) (.t 42) (.t 45) []),oX 52
 1 51,oS (.mes (.t 42) (.t 52) (.t 50) [])] [oV 42 7,oW 43 6 9,oW 44 6 11,oV 47 10,oV 48 12,oM 49 (.bin .mul (.t 47) (.t 48)),oM 45 (.call 115 [(.t
 43),(.t 44)]),oM 51 (.mpe (.st (.node [(0,1,(.leaf true)),(1,1,(.leaf true)),(2,1,(.leaf true)),(3,1,(.leaf true)),(4,1,(.leaf true)),
 (5,1,(.leaf true))])) (.int .i64 0) (.t 42) (.t 45) []),oM 46 (.lkp (.st (.node [(0,1,(.leaf true)),(1,1,(.leaf true)),(2,1,(.leaf true)),(3,
 1,(.leaf true)),(4,1,(.leaf true)),(5,1,(.leaf true))])) false (.int .i64 0) (.t 42) (.t 45)),oM 50 (.bin .add (.t 46) (.t 49)),oX 52 1 51,oS
 (.mes (.t 42) (.t 52) (.t 50) [])]))))))))))))))) (.reg [oV 53 7,oV 5 53])))))) (.reg [oM 54 (.bin .add (.t 20) (oK 1)),oV 20 54]))))))) (oR [oV 55 5,oV 4 55] .ret))))
theorem ok95:FnOk Tryz.prog 95 56 8 c95 [.t 4]:=⟨_,_,Tryz.func95,rfl,rfl,by kernel_rfl,by kernel_rfl⟩
theorem bd95:bodied Tryz.prog 95=true:=by kernel_rfl
def c96:CI:=(oR [oM 2 (.box 0 true (.t 0)),oM 3 (.box 1 true (.t 1)),oM 4 (.mv (oK 0))] (oR [oM 5 (.mv (oK 0))] (.seq (oR [oF 8 0 2,oF 9 10 8,oL 10 9,oN 11 10,oM 12 (.mv (oK 0))] (.block 0 (.loop (oR [oM 13 (.bin .lss (.t 12) (.t 11))] (.seq (.cond (.t 13) .skip
 (.exit 0)) (.seq (.block 1 (oR [oV 14 12,oI 15 2 10 12,oW 16 2 15,oM 7 (.alloc 2 [(.int .i64 0),(.int .i64 0)]),oV 6 14,oS (.store true 2
 (.t 7) (.t 16) [])] (oR [oV 17 6,oM 18 (.paddr 1 6 (.t 3) (.t 17)),oL 19 18,oF 20 1 7,oL 21 20,oM 22 (.bin .neq (.t 19) (.t 21))] (.cond
 (.t 22) (.reg [oV 23 5,oM 24 (.bin .add (.t 23) (oK 1)),oV 5 24]) .skip)))) (.reg [oM 25 (.bin .add (.t 12) (oK 1)),oV 12 25]))))))) (oR [oV
 26 5,oV 4 26] .ret))))
theorem ok96:FnOk Tryz.prog 96 27 3 c96 [.t 4]:=⟨_,_,Tryz.func96,rfl,rfl,by kernel_rfl,by kernel_rfl⟩
theorem bd96:bodied Tryz.prog 96=true:=by kernel_rfl
def c97:CI:=(oR [oM 1 (.box 0 true (.t 0)),oM 2 (.mv (.c (.bool false)))] (oR [oW 3 12 1,oF 5 0 1,oF 6 11 5,oL 7 6,oM 4 (.call
 50 [(.t 3)]),oM 8 (.bin .leq (.t 4) (.t 7)),oV 2 8] .ret))
theorem ok97:FnOk Tryz.prog 97 9 1 c97 [.t 2]:=⟨_,_,Tryz.func97,rfl,rfl,by kernel_rfl,by kernel_rfl⟩
theorem bd97:bodied Tryz.prog 97=true:=by kernel_rfl
def c98:CI:=(oR [oM 6 (.mv (.c (.bool false)))] (oR [oV 7 0,oL 8 2,oM 9 (.bin .eql (.t 7) (.t 8)),oV 10 9,oG 10 true (oV 11 1),
 oG 10 true (oL 12 3),oG 10 true (oM 13 (.bin .eql (.t 11) (.t 12))),oM 14 (.pick (.t 10) (.t 13) (.c (.bool false))),oV 6 14] .ret))
theorem ok98:FnOk Tryz.prog 98 15 0 c98 [.t 6]:=⟨_,_,Tryz.func98,rfl,rfl,by kernel_rfl,by kernel_rfl⟩
theorem bd98:bodied Tryz.prog 98=true:=by kernel_rfl
def c99:CI:=(oR [oM 1 (.box 0 true (.t 0)),oM 2 (.mv oZ)] (oR [oM 3 (.mv oZ)] (oR [oW 6 12 1,oM 7 (.callw 1 1 51 [(.t 6),
 oZ]),oV 4 7] (.seq (oR [oM 5 (.mv (oK 0))] (.block 0 (.loop (.seq (oR [oV 8 5,oV 9 4,oN 10 9,oM 11 (.bin .lss (.t 8) (.t 10))] (.cond
 (.t 11) .skip (.exit 0))) (.seq (.block 1 (oR [oW 14 12 1,oV 15 4,oV 16 5,oI 17 1 15 16,oL 18 17,oF 20 11 1,oL 21 20,oM 19 (.call 52 [(.t
 14),(.t 18)]),oM 22 (.bin .leq (.t 19) (.t 21))] (.cond (.t 22) (.reg [oV 23 3,oV 24 4,oV 25 5,oI 26 1 24 25,oL 27 26,oM 28 (.bsl 2 28 1 [(.t 27)]
 []),oM 29 (.apd 3 28 1 24 (.t 23) (.t 28) []),oV 3 29]) .skip))) (.reg [oV 12 5,oM 13 (.bin .add (.t 12) (oK 1)),oV 5 13])))))) (oR [oV 30
 3,oV 2 30] .ret)))))
theorem ok99:FnOk Tryz.prog 99 31 4 c99 [.t 2]:=⟨_,_,Tryz.func99,rfl,rfl,by kernel_rfl,by kernel_rfl⟩
theorem bd99:bodied Tryz.prog 99=true:=by kernel_rfl
def c100:CI:=(oR [oM 2 (.box 0 true (.t 0)),oM 4 (.mv (oK 0)),oM 5 (.mv (oK 0))] (oR [oW 10 9 2,oV 11 1,oM 12 (.callw 1 4 79 [(.t
 10),(.t 11)]),oV 9 12,oX 13 0 9,oX 14 1 9,oX 15 2 9,oM 6 (.alloc 5 [(.int .i64 0), .nils, .nils]),oM 7 (.alloc 6 [(.int .i64 0), .nils, .nils]),
 oS (.stz true 3 (.t 6) (.t 13) []),oS (.stz true 3 (.t 7) (.t 14) []),oV 8 15] (.seq (.block 0 (oR [oV 17 8,oM 18 (.bin .neq (.t 17) (oK 0)),
 oV 16 18] (.cond (.t 16) (oR [oV 19 8,oM 4 (.mv (oK 0)),oV 5 19] .ret) (oR [oW 21 3 7,oV 22 1,oM 23 (.call 116 [(.t 21),(.t 22)]),
 oV 20 23] (.cond (.t 20) (oR [oM 4 (.mv (oK 1)),oM 5 (.mv (oK 0))] .ret) (oR [oW 25 3 6,oV 26 1,oM 27 (.call 116 [(.t 25),(.t 26)]),
 oV 24 27] (.cond (.t 24) (oR [oM 4 (.mv (oK 3)),oM 5 (.mv (oK 0))] .ret) .skip))))))) (oR [oM 4 (.mv (oK 2)),oM 5 (.mv (oK 0))] .ret))))
theorem ok100:FnOk Tryz.prog 100 28 7 c100 [.t 4, .t 5]:=⟨_,_,Tryz.func100,rfl,rfl,by kernel_rfl,by kernel_rfl⟩
theorem bd100:bodied Tryz.prog 100=true:=by kernel_rfl
def c101:CI:=(oR [oM 2 (.box 0 true (.t 0)),oM 4 (.mv (oK 0)),oM 5 (.mv (oK 0))] (.seq (oR [oW 9 9 2,oV 10 1,oM 11 (.call 117
 [(.t 9),(.t 10)]),oV 6 11] (oR [oV 12 6,oM 13 (.bin .neq (.t 12) (oK 0))] (.cond (.t 13) (oR [oV 14 6,oM 4 (.mv (oK 0)),oV 5 14]
 .ret) .skip))) (oR [oW 16 9 2,oM 17 (.callw 1 2 118 [(.t 16)]),oV 15 17,oX 18 0 15,oX 19 1 15,oM 7 (.alloc 3 [(.int .i64 0), .nils]),oM 8
 (.alloc 4 [(.int .i64 0), .nils]),oS (.stz true 2 (.t 7) (.t 18) []),oS (.stz true 2 (.t 8) (.t 19) [])] (.seq (.block 0 (oR [oW 21 9 2,oV
 22 1,oW 23 2 8,oM 24 (.call 34 [(.t 21),(.t 22),(.t 23)]),oV 20 24] (.cond (.t 20) (oR [oM 4 (.mv (oK 1)),oM 5 (.mv (oK 0))] .ret) (oR [oW 26 9 2,oV 27 1,oW 28 2 7,oM 29 (.call 34 [(.t 26),(.t 27),(.t 28)]),oM 30 (.un .not (.t 29)),oV 25 30] (.cond (.t 25) (oR [oM
 4 (.mv (oK 2)),oM 5 (.mv (oK 0))] .ret) .skip))))) (oR [oM 4 (.mv (oK 3)),oM 5 (.mv (oK 0))] .ret)))))
theorem ok101:FnOk Tryz.prog 101 31 5 c101 [.t 4, .t 5]:=⟨_,_,Tryz.func101,rfl,rfl,by kernel_rfl,by kernel_rfl⟩
theorem bd101:bodied Tryz.prog 101=true:=by kernel_rfl
def c102:CI:=(oR [oM 2 (.mv oZ)] (.seq (oR [oV 3 0,oM 4 (.eqn false (.t 3))] (.cond (.t 4) (oR [oM 2 (.mv oZ)] .ret) .skip))
 (oR [oM 5 (.bsl 0 67 3 [] []),oV 6 0,oM 7 (.apd 1 67 3 24 (.t 5) (.t 6) []),oV 2 7] .ret)))
theorem ok102:FnOk Tryz.prog 102 8 2 c102 [.t 2]:=⟨_,_,Tryz.func102,rfl,rfl,by kernel_rfl,by kernel_rfl⟩
theorem bd102:bodied Tryz.prog 102=true:=by kernel_rfl
def c103:CI:=(oR [oM 4 (.alloc 0 [(.int .i64 0),(.int .i64 0)])] (oR [oV 7 0,oV 8 0,oM 9 (.un .neg (.t 8)),oM 10 (.mm true [(.t
 7),(.t 9)]),oV 11 1,oV 5 10,oV 6 11] (.seq (.block 0 (.loop (.seq (oR [oV 12 6,oM 13 (.bin .neq (.t 12) (oK 0))] (.cond (.t 13) .skip (.exit
 0))) (.block 1 (.reg [oV 14 6,oV 15 5,oV 16 6,oM 17 (.bin .rem (.t 15) (.t 16)),oV 5 14,oV 6 17]))))) (oR [oV 18 0,oV 19 5,oM 20 (.bin .quo
 (.t 18) (.t 19)),oV 21 1,oV 22 5,oM 23 (.bin .quo (.t 21) (.t 22)),oM 24 (.build [(.int .i64 0),(.int .i64 0)] [(0,1,(.t 20)),(1,1,(.t 23))]),
 oS (.store true 2 (.t 4) (.t 24) [])] .ret))))
theorem ok103:FnOk Tryz.prog 103 25 1 c103 [.cell 4 true 2]:=⟨_,_,Tryz.func103,rfl,rfl,by kernel_rfl,by kernel_rfl⟩
theorem bd103:bodied Tryz.prog 103=true:=by kernel_rfl
def c104:CI:=(oR [oM 4 (.box 0 true (.t 0)),oM 5 (.box 1 true (.t 1)),oM 8 (.mv (oK 0))] (oR [oF 10 7 4,oL 11 10,oN 12 11,oV
 9 12] (oR [oF 13 0 5,oL 14 13,oV 15 2,oM 16 (.bin .mul (.t 14) (.t 15)),oF 17 8 4,oL 18 17,oV 19 3,oF 20 1 5,oL 21 20,oM 22 (.bin .sub
 (.t 19) (.t 21)),oV 23 9,oM 24 (.bin .add (.t 22) (.t 23)),oV 25 9,oM 26 (.bin .rem (.t 24) (.t 25)),oI 27 1 18 26,oL 28 27,oM 29 (.bin .mul (.t
 16) (.t 28)),oM 30 (.bin .quo (.t 29) (oK 100)),oV 8 30] .ret)))
theorem ok104:FnOk Tryz.prog 104 31 2 c104 [.t 8]:=⟨_,_,Tryz.func104,rfl,rfl,by kernel_rfl,by kernel_rfl⟩
theorem bd104:bodied Tryz.prog 104=true:=by kernel_rfl
def c105:CI:=(oR [oM 8 (.mv (oK 0))] (oR [oV 13 0,oN 14 13,oV 9 14] (oR [oM 10 (.mv (oK 0))] (.seq (oR [oM 11
 (.mv (oK 1))] (.block 0 (.loop (.seq (oR [oV 15 11,oV 16 9,oM 17 (.bin .lss (.t 15) (.t 16))] (.cond (.t 17) .skip (.exit 0))) (.seq (.block
 1 (oR [oV 20 2,oV 21 11,oV 22 3,oM 23 (.bin .mul (.t 21) (.t 22)),oM 24 (.bin .add (.t 20) (.t 23)),oV 25 9,oM 26 (.bin .rem (.t 24) (.t
 25)),oV 27 9,oM 28 (.bin .add (.t 26) (.t 27)),oV 29 9,oM 30 (.bin .rem (.t 28) (.t 29)),oV 12 30] (.seq (oR [oV 31 1,oV 32 12,oI 33 1
 31 32,oL 34 33,oM 35 (.un .not (.t 34))] (.cond (.t 35) (oR [oV 36 10,oV 8 36] .ret) .skip)) (.reg [oV 37 10,oV 38 0,oV 39 12,oI 40 1 38
 39,oL 41 40,oM 42 (.bin .add (.t 37) (.t 41)),oV 10 42])))) (.reg [oV 18 11,oM 19 (.bin .add (.t 18) (oK 1)),oV 11 19])))))) (oR [oV 43 10,
 oV 8 43] .ret)))))
theorem ok105:FnOk Tryz.prog 105 44 0 c105 [.t 8]:=⟨_,_,Tryz.func105,rfl,rfl,by kernel_rfl,by kernel_rfl⟩
theorem bd105:bodied Tryz.prog 105=true:=by kernel_rfl
def c106:CI:=(oR [oM 1 (.box 0 true (.t 0)),oM 2 (.alloc 1 [(.int .i64 0),(.int .i64 0)])] (oR [oW 7 7 1,oF 8 1 1,oL 9 8,oM 10
 (.call 119 [(.t 7),(oK 0),(.t 9)]),oV 6 10,oX 11 0 6,oX 12 1 6,oX 13 2 6,oM 3 (.alloc 2 [(.int .i64 0),(.int .i64 0)]),oM 4 (.alloc 3 [(.int .i64
 0),(.int .i64 0)]),oS (.store true 2 (.t 3) (.t 11) []),oS (.store true 2 (.t 4) (.t 12) []),oV 5 13] (oR [oW 14 2 3,oW 16 2 4,oM 15 (.call
 120 [(.t 14)]),oM 17 (.call 120 [(.t 16)]),oM 18 (.build [(.int .i64 0),(.int .i64 0)] [(0,1,(.t 15)),(1,1,(.t 17))]),oS (.store true 2 (.t 2)
 (.t 18) [])] .ret)))
theorem ok106:FnOk Tryz.prog 106 19 4 c106 [.cell 2 true 2]:=⟨_,_,Tryz.func106,rfl,rfl,by kernel_rfl,by kernel_rfl⟩
theorem bd106:bodied Tryz.prog 106=true:=by kernel_rfl
def c107:CI:=(oR [oM 0 (.alloc 0 [.nils,(.int .i64 0),(.int .i64 0),(.int .i64 0),(.int .i64 0),(.int .i64 0),(.int .i64 0)])] (oR [oM 1 (.build [(.int .i64 0),(.int .i64 0)] [(0,1,(oK 50)),(1,1,(oK 52))]),oM 2 (.build [(.int .i64 0),(.int .i64 0)] [(0,1,(oK 60)),(1,
 1,(oK 60))]),oM 3 (.build [(.int .i64 0),(.int .i64 0)] [(0,1,(oK 1)),(1,1,(oK 1))]),oM 4 (.build [(.int .i64 0),(.int .i64 0),(.int .i64 0),
 (.int .i64 0),(.int .i64 0),(.int .i64 0),(.int .i64 0)] [(0,2,(.t 1)),(2,2,(.t 2)),(5,2,(.t 3))]),oM 5 (.build [(.int .i64 0),(.int .i64
 0)] [(0,1,(oK 40)),(1,1,(oK 40))]),oM 6 (.build [(.int .i64 0),(.int .i64 0)] [(0,1,(oK 45)),(1,1,(oK 46))]),oM 7 (.build [(.int .i64 0),
 (.int .i64 0)] [(0,1,(oK 1)),(1,1,(oK 2))]),oM 8 (.build [(.int .i64 0),(.int .i64 0),(.int .i64 0),(.int .i64 0),(.int .i64 0),(.int .i64 0),
 (.int .i64 0)] [(0,2,(.t 5)),(2,2,(.t 6)),(4,1,(oK 5)),(5,2,(.t 7))]),oM 9 (.bsl 1 138 7 [(.t 4),(.t 8)] []),oM 10 (.build [(.int .i64 0),
 (.int .i64 0)] [(0,1,(oK 1)),(1,1,(oK 20))]),oM 11 (.build [.nils,(.int .i64 0),(.int .i64 0),(.int .i64 0),(.int .i64 0),(.int .i64 0),(.int
 .i64 0)] [(0,1,(.t 9)),(1,1,(oK 20)),(2,1,(oK 100)),(3,2,(.t 10)),(5,1,(oK 300)),(6,1,(oK 351))]),oS (.stz true 7 (.t 0) (.t 11) [])]
 .ret))
theorem ok107:FnOk Tryz.prog 107 12 2 c107 [.cell 0 true 7]:=⟨_,_,Tryz.func107,rfl,rfl,by kernel_rfl,by kernel_rfl⟩
theorem bd107:bodied Tryz.prog 107=true:=by kernel_rfl
def c108:CI:=(oR [oM 2 (.box 0 true (.t 0)),oM 4 (.mv (oK 0))] (.seq (oR [oW 7 9 2,oM 8 (.call 86 [(.t 7)]),oV 5 8] (oR [oV 9 5,oM 10 (.bin .neq (.t 9) (oK 0))] (.cond (.t 10) (oR [oV 11 5,oV 4 11] .ret) .skip))) (oR [oM 12 (.mkfn 121 [(.t 2)]),oV 6
 12] (.seq (oR [oV 13 1,oN 14 13,oM 15 (.bin .gtr (.t 14) (oK 20)),oV 16 15,oG 16 false (oV 17 1),oG 16 false (oV 18 6),oG 16 false (oM 19
 (.call 123 [(.t 17),(.t 18)])),oG 16 false (oM 20 (.un .not (.t 19))),oM 21 (.pick (.t 16) (.c (.bool true)) (.t 20))] (.cond (.t 21) (oR [oM
 4 (.mv (oK 1))] .ret) .skip)) (oR [oM 4 (.mv (oK 0))] .ret)))))
theorem ok108:FnOk Tryz.prog 108 22 1 c108 [.t 4]:=⟨_,_,Tryz.func108,rfl,rfl,by kernel_rfl,by kernel_rfl⟩
theorem bd108:bodied Tryz.prog 108=true:=by kernel_rfl
def c109:CI:=(oR [oM 4 (.mv (oK 0))] (.seq (oR [oV 6 0,oN 7 6,oM 8 (.mv (oK 0))] (.block 0 (.loop (oR [oM 9 (.bin .lss
 (.t 8) (.t 7))] (.seq (.cond (.t 9) .skip (.exit 0)) (.seq (.block 1 (oR [oV 10 8,oV 5 10] (oR [oV 11 1,oV 12 0,oV 13 5,oI 14 2 12
 13,oW 15 2 14,oM 16 (.callx (.t 11) [(.t 15)])] (.cond (.t 16) (oR [oV 17 5,oV 4 17] .ret) .skip)))) (.reg [oM 18 (.bin .add (.t 8) (oK 1)),
 oV 8 18]))))))) (oR [oM 4 (.mv (oK (-1)))] .ret)))
theorem ok109:FnOk Tryz.prog 109 19 0 c109 [.t 4]:=⟨_,_,Tryz.func109,rfl,rfl,by kernel_rfl,by kernel_rfl⟩
theorem bd109:bodied Tryz.prog 109=true:=by kernel_rfl
def c110:CI:=(oR [oM 3 (.box 0 true (.t 0)),oM 4 (.box 1 true (.t 1)),oM 6 (.mv (oK 0))] (oR [oF 7 0 4,oL 8 7,oF 9 0 3,oL 10
 9,oM 11 (.bin .mul (.t 8) (.t 10)),oF 12 2 3,oL 13 12,oW 14 3 3,oV 15 2,oF 16 1 4,oL 17 16,oM 18 (.bin .sub (.t 15) (.t 17)),oM 19 (.call 124
 [(.t 14),(.t 18)]),oI 20 1 13 19,oL 21 20,oM 22 (.bin .mul (.t 11) (.t 21)),oM 23 (.bin .quo (.t 22) (oK 100)),oV 6 23] .ret))
theorem ok110:FnOk Tryz.prog 110 24 2 c110 [.t 6]:=⟨_,_,Tryz.func110,rfl,rfl,by kernel_rfl,by kernel_rfl⟩
theorem bd110:bodied Tryz.prog 110=true:=by kernel_rfl
def c111:CI:=(oR [oM 1 (.box 0 true (.t 0)),oM 2 (.mv (.c (.bool false)))] (oR [oF 3 0 1,oW 4 7 3,oM 5 (.call 125 [(.t 4)]),oM
 6 (.bin .eql (.t 5) (oK 0)),oV 7 6,oG 7 true (oF 8 7 1),oG 7 true (oL 9 8),oG 7 true (oN 10 9),oG 7 true (oM 11 (.call 122 [(.t 10),(oK 3),(oK 10)])),
 oM 12 (.pick (.t 7) (.t 11) (.c (.bool false))),oV 13 12,oG 13 true (oF 14 7 1),oG 13 true (oL 15 14),oG 13 true (oM 16 (.call 126 [(.t 15),(.c (.fn
 127 []))])),oM 17 (.pick (.t 13) (.t 16) (.c (.bool false))),oV 18 17,oG 18 true (oF 19 8 1),oG 18 true (oL 20 19),oG 18 true (oN 21 20),oG 18 true
 (oF 22 7 1),oG 18 true (oL 23 22),oG 18 true (oN 24 23),oG 18 true (oM 25 (.bin .eql (.t 21) (.t 24))),oM 26 (.pick (.t 18) (.t 25) (.c (.bool false))),
 oV 27 26,oG 27 true (oF 28 8 1),oG 27 true (oL 29 28),oG 27 true (oM 30 (.call 128 [(.t 29),(.c (.fn 129 []))])),oM 31 (.pick (.t 27) (.t 30) (.c
 (.bool false))),oV 2 31] .ret))
theorem ok111:FnOk Tryz.prog 111 32 1 c111 [.t 2]:=⟨_,_,Tryz.func111,rfl,rfl,by kernel_rfl,by kernel_rfl⟩
theorem bd111:bodied Tryz.prog 111=true:=by kernel_rfl
def c112:CI:=(oR [oM 1 (.box 0 true (.t 0)),oM 2 (.mv (.c (.bool false)))] (oR [oF 3 0 1,oL 4 3,oF 5 1 1,oL 6 5,oM 7 (.call 94
 [(.t 4),(oK 1),(.t 6)]),oV 8 7,oG 8 true (oF 9 1 1),oG 8 true (oL 10 9),oG 8 true (oM 11 (.bin .leq (.t 10) (oK 2000))),oM 12 (.pick (.t 8) (.t
 11) (.c (.bool false))),oV 13 12,oG 13 true (oF 14 1 1),oG 13 true (oL 15 14),oG 13 true (oF 16 0 1),oG 13 true (oL 17 16),oG 13 true (oM 18 (.bin
 .sub (.t 15) (.t 17))),oG 13 true (oM 19 (.bin .leq (.t 18) (oK 6))),oM 20 (.pick (.t 13) (.t 19) (.c (.bool false))),oV 2 20] .ret))
theorem ok112:FnOk Tryz.prog 112 21 1 c112 [.t 2]:=⟨_,_,Tryz.func112,rfl,rfl,by kernel_rfl,by kernel_rfl⟩
theorem bd112:bodied Tryz.prog 112=true:=by kernel_rfl
def c113:CI:=(oR [oM 1 (.box 0 true (.t 0)),oM 2 (.mv (.c (.bool false)))] (oR [oF 3 1 1,oL 4 3,oM 5 (.call 94 [(.t 4),(oK 1),
 (oK 20)]),oV 6 5,oG 6 true (oF 7 0 1),oG 6 true (oL 8 7),oG 6 true (oF 9 1 1),oG 6 true (oL 10 9),oG 6 true (oM 11 (.call 94 [(.t 8),(oK 0),(.t
 10)])),oM 12 (.pick (.t 6) (.t 11) (.c (.bool false))),oV 2 12] .ret))
theorem ok113:FnOk Tryz.prog 113 13 1 c113 [.t 2]:=⟨_,_,Tryz.func113,rfl,rfl,by kernel_rfl,by kernel_rfl⟩
theorem bd113:bodied Tryz.prog 113=true:=by kernel_rfl
def c114:CI:=(oR [oM 3 (.box 0 true (.t 0)),oM 6 (.mv (.c (.lit (.map none))))] (oR [oM 12 (.mkx 1),oV 7 12] (.seq (oR [oF 13 0 3,oF 14 9 13,oL 15 14,oV 16 1,oI 17 3 15 16,oF 18 1 17,oF 19 0 18,oL 20 19,oV 8 20] (.block 0 (.loop (.seq (oR [oV 21 8,oF 22
 0 3,oF 23 9 22,oL 24 23,oV 25 1,oI 26 3 24 25,oF 27 1 26,oF 28 1 27,oL 29 28,oM 30 (.bin .leq (.t 21) (.t 29))] (.cond (.t 30) .skip (.exit 0)))
 (.seq (.block 1 (oR [oM 9 (.alloc 2 [(.int .i64 0),(.int .i64 0),(.int .i64 0),(.int .i64 0),(.int .i64 0),(.int .i64 0)])] (.seq (oR [oF 33 0 3,oF 34 10 33,oL 35 34,oN 36 35,oM 37 (.mv (oK 0))] (.block 2 (.loop (oR [oM 38 (.bin .lss (.t 37) (.t 36))] (.seq (.cond (.t 38)
 .skip (.exit 2)) (.seq (.block 3 (oR [oV 39 37,oI 40 2 35 37,oW 41 2 40,oM 11 (.alloc 3 [(.int .i64 0),(.int .i64 0)]),oV 10 39,oS (.store
 true 2 (.t 11) (.t 41) [])] (oR [oV 42 8,oF 43 0 11,oL 44 43,oM 45 (.bin .geq (.t 42) (.t 44))] (.cond (.t 45) (.reg [oV 46 10,oM 47 (.paddr
 1 6 (.t 9) (.t 46)),oS (.store false 1 (.t 47) (oK 1) [])]) .skip)))) (.reg [oM 48 (.bin .add (.t 37) (oK 1)),oV 37 48]))))))) (.seq (oR [oV
 49 2,oV 50 1,oV 51 8,oM 52 (.callx (.t 49) [(.t 50),(.t 51)])] (.cond (.t 52) (.reg [oM 53 (.paddr 1 6 (.t 9) (oK 5)),oS (.store false 1 (.t 53)
 (oK 1) [])]) .skip)) (.alt [oV 54 7,oW 55 6 9,oM 56 (.lkp (.st (.node [(0,1,(.leaf true)),(1,1,(.leaf true)),(2,1,(.leaf true)),(3,1,(.leaf
 true)),(4,1,(.leaf true)),(5,1,(.leaf true))])) false (.int .i64 0) (.t 54) (.t 55)),oM 57 (.bin .add (.t 56) (oK 1)),oM 58 (.mpe (.st (.node [(0,
 1,(.leaf true)),(1,1,(.leaf true)),(2,1,(.leaf true)),(3,1,(.leaf true)),(4,1,(.leaf true)),(5,1,(.leaf true))])) (.int .i64 0) (.t 54)
 (.t 55) []),oX 59 1 58,oS (.mes (.t 54) (.t 59) (.t 57) [])] [oV 54 7,oW 55 6 9,oM 58 (.mpe (.st (.node [(0,1,(.leaf true)),(1,1,(.leaf true)),
 (2,1,(.leaf true)),(3,1,(.leaf true)),(4,1,(.leaf true)),(5,1,(.leaf true))])) (.int .i64 0) (.t 54) (.t 55) []),oM 56 (.lkp (.st (.node [(0,
 1,(.leaf true)),(1,1,(.leaf true)),(2,1,(.leaf true)),(3,1,(.leaf true)),(4,1,(.leaf true)),(5,1,(.leaf true))])) false (.int .i64 0) (.t
 54) (.t 55)),oM 57 (.bin .add (.t 56) (oK 1)),oX 59 1 58,oS (.mes (.t 54) (.t 59) (.t 57) [])]))))) (.reg [oV 31 8,oM 32 (.bin .add (.t 31) (oK 1)),
 oV 8 32])))))) (oR [oV 60 7,oV 6 60] .ret))))
theorem ok114:FnOk Tryz.prog 114 61 4 c114 [.t 6]:=⟨_,_,Tryz.func114,rfl,rfl,by kernel_rfl,by kernel_rfl⟩
theorem bd114:bodied Tryz.prog 114=true:=by kernel_rfl
def c115:CI:=(oR [oM 2 (.box 0 true (.t 0)),oM 3 (.box 1 true (.t 1)),oM 4 (.alloc 2 [(.int .i64 0),(.int .i64 0),(.int .i64 0),(.int
 .i64 0),(.int .i64 0),(.int .i64 0)])] (.seq (oR [oW 7 6 3,oM 8 (.mv (oK 0))] (.block 0 (.loop (oR [oM 9 (.bin .lss (.t 8) (oK 6))]
 (.seq (.cond (.t 9) .skip (.exit 0)) (.seq (.block 1 (oR [oV 10 8,oM 11 (.aidx false 1 6 (.t 7) (.t 8)),oV 5 10,oV 6 11] (.reg [oV 12 5,oM
 13 (.paddr 1 6 (.t 2) (.t 12)),oL 14 13,oV 15 6,oM 16 (.bin .add (.t 14) (.t 15)),oM 17 (.paddr 1 6 (.t 2) (.t 12)),oS (.store false 1 (.t 17) (.t
 16) [])]))) (.reg [oM 18 (.bin .add (.t 8) (oK 1)),oV 8 18]))))))) (oR [oW 19 6 2,oS (.store true 6 (.t 4) (.t 19) [])] .ret)))
theorem ok115:FnOk Tryz.prog 115 20 3 c115 [.cell 4 true 6]:=⟨_,_,Tryz.func115,rfl,rfl,by kernel_rfl,by kernel_rfl⟩
theorem bd115:bodied Tryz.prog 115=true:=by kernel_rfl
def c116:CI:=(oR [oM 2 (.box 0 true (.t 0)),oM 4 (.mv (.c (.bool false)))] (oR [oV 5 1,oM 6 (.mkfn 130 [(.t 2)]),oM 7 (.call 123
 [(.t 5),(.t 6)]),oV 4 7] .ret))
theorem ok116:FnOk Tryz.prog 116 8 1 c116 [.t 4]:=⟨_,_,Tryz.func116,rfl,rfl,by kernel_rfl,by kernel_rfl⟩
theorem bd116:bodied Tryz.prog 116=true:=by kernel_rfl
def c117:CI:=(oR [oM 2 (.box 0 true (.t 0)),oM 4 (.mv (oK 0))] (.seq (oR [oW 6 9 2,oM 7 (.call 47 [(.t 6)]),oV 5 7] (oR [oV 8 5,oM 9 (.bin .neq (.t 8) (oK 0))] (.cond (.t 9) (oR [oV 10 5,oV 4 10] .ret) .skip))) (.seq (oR [oW 11 9 2,oV 12 1,oM 13 (.call
 132 [(.t 11),(.t 12)]),oM 14 (.un .not (.t 13))] (.cond (.t 14) (oR [oM 4 (.mv (oK 1))] .ret) .skip)) (oR [oM 4 (.mv (oK 0))] .ret))))
theorem ok117:FnOk Tryz.prog 117 15 1 c117 [.t 4]:=⟨_,_,Tryz.func117,rfl,rfl,by kernel_rfl,by kernel_rfl⟩
theorem bd117:bodied Tryz.prog 117=true:=by kernel_rfl
def c118:CI:=(oR [oM 1 (.box 0 true (.t 0)),oM 2 (.alloc 1 [(.int .i64 0), .nils]),oM 3 (.alloc 2 [(.int .i64 0), .nils])] (oR [oW
 6 9 1,oM 7 (.call 133 [(.t 6)]),oM 4 (.alloc 3 [(.int .i64 0),(.int .i64 0)]),oS (.store true 2 (.t 4) (.t 7) [])] (oR [oF 8 0 4,oL 9 8,
 oF 10 1 4,oL 11 10,oF 12 0 2,oS (.store false 1 (.t 12) (.t 9) [(.t 10)]),oF 13 0 3,oS (.store false 1 (.t 13) (.t 11) [])] (.seq (oR [oM
 5 (.mv (oK 0))] (.block 0 (.loop (.seq (oR [oV 14 5,oF 15 7 1,oL 16 15,oN 17 16,oM 18 (.bin .lss (.t 14) (.t 17))] (.cond (.t 18) .skip (.exit
 0))) (.seq (.block 1 (.reg [oF 21 1 2,oL 22 21,oF 23 7 1,oL 24 23,oV 25 5,oI 26 2 24 25,oF 27 1 26,oL 28 27,oF 31 1 3,oL 32 31,oF 33 7 1,oL
 34 33,oV 35 5,oI 36 2 34 35,oF 37 0 36,oL 38 37,oM 29 (.bsl 4 3 1 [(.t 28)] []),oM 30 (.apd 5 3 1 8 (.t 22) (.t 29) [(.t 31),(.t 33),(.t 34),(.t
 37)]),oM 39 (.bsl 6 3 1 [(.t 38)] [(.t 28),(.t 22),(.t 29)]),oM 40 (.apd 7 3 1 8 (.t 32) (.t 39) []),oF 41 1 2,oS (.stz false 1 (.t 41) (.t 30) []),
 oF 42 1 3,oS (.stz false 1 (.t 42) (.t 40) [])])) (.reg [oV 19 5,oM 20 (.bin .add (.t 19) (oK 1)),oV 5 20])))))) (oR [oW 43 2 2,oW 44 2 3,
 oS (.stz true 2 (.t 2) (.t 43) [(.t 3)]),oS (.stz true 2 (.t 3) (.t 44) [])] .ret)))))
theorem ok118:FnOk Tryz.prog 118 45 8 c118 [.cell 2 true 2, .cell 3 true 2]:=⟨_,_,Tryz.func118,rfl,rfl,by kernel_rfl,by kernel_rfl⟩
theorem bd118:bodied Tryz.prog 118=true:=by kernel_rfl
def c119:CI:=(oR [oM 3 (.box 0 true (.t 0)),oM 6 (.alloc 1 [(.int .i64 0),(.int .i64 0)]),oM 7 (.alloc 2 [(.int .i64 0),(.int .i64 0)]),
 oM 8 (.mv (oK 0))] (.seq (oR [oW 11 7 3,oV 12 1,oV 13 2,oM 14 (.call 134 [(.t 11),(.t 12),(.t 13)]),oV 9 14] (oR [oV 15 9,oM 16
 (.bin .neq (.t 15) (oK 0))] (.cond (.t 16) (oR [oM 17 (.build [(.int .i64 0),(.int .i64 0)] []),oM 18 (.build [(.int .i64 0),(.int .i64 0)]
 []),oV 19 9,oS (.store true 2 (.t 6) (.t 17) []),oS (.store true 2 (.t 7) (.t 18) []),oV 8 19] .ret) .skip))) (oR [oW 20 7 3,oV 21 1,oV
 22 2,oM 23 (.call 135 [(.t 20),(.t 21),(.t 22)]),oV 10 23] (.seq (oR [oV 24 10,oM 25 (.bin .eql (.t 24) (oK 0))] (.cond (.t 25) (oR [oM 26 (.build [(.int .i64 0),(.int .i64 0)] []),oM 27 (.build [(.int .i64 0),(.int .i64 0)] []),oS (.store true 2 (.t 6) (.t 26) []),oS (.store true
 2 (.t 7) (.t 27) []),oM 8 (.mv (oK 3))] .ret) .skip)) (oR [oF 29 0 3,oL 30 29,oV 31 1,oI 32 7 30 31,oW 33 7 32,oV 34 10,oM 35 (.call 136
 [(.t 33),(.t 34)]),oV 28 35,oX 36 0 28,oX 37 1 28,oS (.store true 2 (.t 6) (.t 36) []),oS (.store true 2 (.t 7) (.t 37) [])] (oR [oW 38
 2 6,oW 40 2 7,oM 39 (.call 137 [(.t 38)]),oM 41 (.call 137 [(.t 40)]),oS (.store true 2 (.t 6) (.t 39) []),oS (.store true 2 (.t 7) (.t 41) []),oM
 8 (.mv (oK 0))] .ret))))))
theorem ok119:FnOk Tryz.prog 119 42 3 c119 [.cell 6 true 2, .cell 7 true 2, .t 8]:=⟨_,_,Tryz.func119,rfl,rfl,by kernel_rfl,by kernel_rfl⟩
theorem bd119:bodied Tryz.prog 119=true:=by kernel_rfl
def c120:CI:=(oR [oM 1 (.box 0 true (.t 0)),oM 2 (.mv (oK 0))] (oR [oF 4 1 1,oL 5 4,oF 6 0 1,oL 7 6,oM 8 (.bin .add (.t 5) (.t
 7)),oM 9 (.bin .mul (oK 100) (.t 8)),oM 10 (.mm true [(oK 0),(.t 9)]),oF 11 1 1,oL 12 11,oM 13 (.bin .quo (.t 10) (.t 12)),oV 3 13] (oR [oV 14 3,oM 15 (.mm false [(.t 14),(oK 200)]),oV 2 15] .ret)))
theorem ok120:FnOk Tryz.prog 120 16 1 c120 [.t 2]:=⟨_,_,Tryz.func120,rfl,rfl,by kernel_rfl,by kernel_rfl⟩
theorem bd120:bodied Tryz.prog 120=true:=by kernel_rfl
def c121:CI:=(oR [oM 2 (.box 0 true (.t 0)),oM 3 (.mv (.c (.bool false)))] (oR [oF 4 0 2,oL 5 4,oM 6 (.call 122 [(.t 5),(oK 0),
 (oK 99)]),oV 7 6,oG 7 true (oF 8 1 2),oG 7 true (oL 9 8),oG 7 true (oF 10 7 1),oG 7 true (oL 11 10),oG 7 true (oN 12 11),oG 7 true (oM 13 (.bin
 .sub (.t 12) (oK 1))),oG 7 true (oM 14 (.call 122 [(.t 9),(oK 0),(.t 13)])),oM 15 (.pick (.t 7) (.t 14) (.c (.bool false))),oV 3 15] .ret))
theorem ok121:FnOk Tryz.prog 121 16 1 c121 [.t 3]:=⟨_,_,Tryz.func121,rfl,rfl,by kernel_rfl,by kernel_rfl⟩
theorem bd121:bodied Tryz.prog 121=true:=by kernel_rfl
def c122:CI:=(oR [oM 6 (.mv (.c (.bool false)))] (oR [oV 7 1,oV 8 0,oM 9 (.bin .leq (.t 7) (.t 8)),oV 10 9,oG 10 true (oV 11 0),
 oG 10 true (oV 12 2),oG 10 true (oM 13 (.bin .leq (.t 11) (.t 12))),oM 14 (.pick (.t 10) (.t 13) (.c (.bool false))),oV 6 14] .ret))
theorem ok122:FnOk Tryz.prog 122 15 0 c122 [.t 6]:=⟨_,_,Tryz.func122,rfl,rfl,by kernel_rfl,by kernel_rfl⟩
theorem bd122:bodied Tryz.prog 122=true:=by kernel_rfl
def c123:CI:=(oR [oM 4 (.mv (.c (.bool false)))] (.seq (oR [oV 7 0,oN 8 7,oM 9 (.mv (oK 0))] (.block 0 (.loop (oR [oM 10
 (.bin .lss (.t 9) (.t 8))] (.seq (.cond (.t 10) .skip (.exit 0)) (.seq (.block 1 (oR [oI 11 2 7 9,oW 12 2 11,oM 6 (.alloc 0 [(.int .i64 0),
 (.int .i64 0)]),oS (.store true 2 (.t 6) (.t 12) [])] (oR [oV 13 1,oW 14 2 6,oM 15 (.callx (.t 13) [(.t 14)]),oM 16 (.un .not (.t 15))] (.cond
 (.t 16) (oR [oM 4 (.mv (.c (.bool false)))] .ret) .skip)))) (.reg [oM 17 (.bin .add (.t 9) (oK 1)),oV 9 17]))))))) (oR [oM 4 (.mv (.c
 (.bool true)))] .ret)))
theorem ok123:FnOk Tryz.prog 123 18 1 c123 [.t 4]:=⟨_,_,Tryz.func123,rfl,rfl,by kernel_rfl,by kernel_rfl⟩
theorem bd123:bodied Tryz.prog 123=true:=by kernel_rfl
def c124:CI:=(oR [oM 2 (.box 0 true (.t 0)),oM 4 (.mv (oK 0))] (oR [oF 6 1 2,oL 7 6,oN 8 7,oV 5 8] (oR [oV 9 1,oV 10
 5,oM 11 (.bin .add (.t 9) (.t 10)),oV 12 5,oM 13 (.bin .rem (.t 11) (.t 12)),oV 4 13] .ret)))
theorem ok124:FnOk Tryz.prog 124 14 1 c124 [.t 4]:=⟨_,_,Tryz.func124,rfl,rfl,by kernel_rfl,by kernel_rfl⟩
theorem bd124:bodied Tryz.prog 124=true:=by kernel_rfl
def c125:CI:=(oR [oM 1 (.box 0 true (.t 0)),oM 2 (.mv (oK 0))] (.seq (oR [oW 3 7 1,oM 4 (.call 138 [(.t 3)]),oM 5 (.un .not (.t
 4))] (.cond (.t 5) (oR [oM 2 (.mv (oK 10))] .ret) .skip)) (oR [oM 2 (.mv (oK 0))] .ret)))
theorem ok125:FnOk Tryz.prog 125 6 1 c125 [.t 2]:=⟨_,_,Tryz.func125,rfl,rfl,by kernel_rfl,by kernel_rfl⟩
theorem bd125:bodied Tryz.prog 125=true:=by kernel_rfl
def c126:CI:=(oR [oM 4 (.mv (.c (.bool false)))] (.seq (oR [oV 7 0,oN 8 7,oM 9 (.mv (oK 0))] (.block 0 (.loop (oR [oM 10
 (.bin .lss (.t 9) (.t 8))] (.seq (.cond (.t 10) .skip (.exit 0)) (.seq (.block 1 (oR [oI 11 2 7 9,oW 12 2 11,oM 6 (.alloc 0 [(.int .i64 0),
 (.int .i64 0)]),oS (.store true 2 (.t 6) (.t 12) [])] (oR [oV 13 1,oW 14 2 6,oM 15 (.callx (.t 13) [(.t 14)]),oM 16 (.un .not (.t 15))] (.cond
 (.t 16) (oR [oM 4 (.mv (.c (.bool false)))] .ret) .skip)))) (.reg [oM 17 (.bin .add (.t 9) (oK 1)),oV 9 17]))))))) (oR [oM 4 (.mv (.c
 (.bool true)))] .ret)))
theorem ok126:FnOk Tryz.prog 126 18 1 c126 [.t 4]:=⟨_,_,Tryz.func126,rfl,rfl,by kernel_rfl,by kernel_rfl⟩
theorem bd126:bodied Tryz.prog 126=true:=by kernel_rfl
def c127:CI:=(oR [oM 1 (.box 0 true (.t 0)),oM 2 (.mv (.c (.bool false)))] (oR [oF 3 0 1,oL 4 3,oF 5 1 1,oL 6 5,oM 7 (.call 122
 [(.t 4),(oK 0),(.t 6)]),oV 8 7,oG 8 true (oF 9 1 1),oG 8 true (oL 10 9),oG 8 true (oM 11 (.bin .leq (.t 10) (oK 99999))),oM 12 (.pick (.t 8) (.t
 11) (.c (.bool false))),oV 2 12] .ret))
theorem ok127:FnOk Tryz.prog 127 13 1 c127 [.t 2]:=⟨_,_,Tryz.func127,rfl,rfl,by kernel_rfl,by kernel_rfl⟩
theorem bd127:bodied Tryz.prog 127=true:=by kernel_rfl
def c128:CI:=(oR [oM 4 (.mv (.c (.bool false)))] (.seq (oR [oV 7 0,oN 8 7,oM 9 (.mv (oK 0))] (.block 0 (.loop (oR [oM 10
 (.bin .lss (.t 9) (.t 8))] (.seq (.cond (.t 10) .skip (.exit 0)) (.seq (.block 1 (oR [oI 11 1 7 9,oL 12 11,oV 6 12] (oR [oV 13 1,oV
 14 6,oM 15 (.callx (.t 13) [(.t 14)]),oM 16 (.un .not (.t 15))] (.cond (.t 16) (oR [oM 4 (.mv (.c (.bool false)))] .ret) .skip)))) (.reg [oM
 17 (.bin .add (.t 9) (oK 1)),oV 9 17]))))))) (oR [oM 4 (.mv (.c (.bool true)))] .ret)))
theorem ok128:FnOk Tryz.prog 128 18 0 c128 [.t 4]:=⟨_,_,Tryz.func128,rfl,rfl,by kernel_rfl,by kernel_rfl⟩
theorem bd128:bodied Tryz.prog 128=true:=by kernel_rfl
def c129:CI:=(oR [oM 2 (.mv (.c (.bool false)))] (oR [oV 3 0,oM 4 (.call 122 [(.t 3),(oK 0),(oK 99)]),oV 2 4] .ret))
theorem ok129:FnOk Tryz.prog 129 5 0 c129 [.t 2]:=⟨_,_,Tryz.func129,rfl,rfl,by kernel_rfl,by kernel_rfl⟩
theorem bd129:bodied Tryz.prog 129=true:=by kernel_rfl
def c130:CI:=(oR [oM 2 (.box 0 true (.t 0)),oM 3 (.mv (.c (.bool false)))] (oR [oW 4 3 1,oW 5 2 2,oM 6 (.callw 1 1 131 [(.t 4),
 (.t 5)]),oN 7 6,oM 8 (.bin .eql (.t 7) (oK 0)),oV 3 8] .ret))
theorem ok130:FnOk Tryz.prog 130 9 2 c130 [.t 3]:=⟨_,_,Tryz.func130,rfl,rfl,by kernel_rfl,by kernel_rfl⟩
theorem bd130:bodied Tryz.prog 130=true:=by kernel_rfl
def c131:CI:=(oR [oM 2 (.box 0 true (.t 0)),oM 3 (.box 1 true (.t 1)),oM 4 (.mv oZ)] (oR [oF 5 1 2,oL 6 5,oN 7 6,oM 8 (.mkfn
 139 [(.t 2),(.t 3)]),oM 9 (.callw 2 1 80 [(.t 7),(.t 8)]),oV 4 9] .ret))
theorem ok131:FnOk Tryz.prog 131 10 3 c131 [.t 4]:=⟨_,_,Tryz.func131,rfl,rfl,by kernel_rfl,by kernel_rfl⟩
theorem bd131:bodied Tryz.prog 131=true:=by kernel_rfl
def c132:CI:=(oR [oM 2 (.box 0 true (.t 0)),oM 4 (.mv (.c (.bool false)))] (.seq (oR [oM 5 (.mv (oK 0))] (.block 0 (.loop (.seq
 (oR [oV 6 5,oV 7 1,oN 8 7,oM 9 (.bin .lss (.t 6) (.t 8))] (.cond (.t 9) .skip (.exit 0))) (.seq (.block 1 (oR [oV 12 1,oV 13 5,oI
 14 2 12 13,oF 15 0 14,oL 16 15,oM 17 (.call 72 [(.t 16),(oK 0),(oK 99)]),oM 18 (.un .not (.t 17)),oV 19 18,oG 19 false (oW 20 9 2),oG 19 false
 (oV 21 1),oG 19 false (oV 22 5),oG 19 false (oI 23 2 21 22),oG 19 false (oF 24 1 23),oG 19 false (oL 25 24),oG 19 false (oM 26 (.call 49 [(.t 20),
 (.t 25)])),oG 19 false (oM 27 (.un .not (.t 26))),oM 28 (.pick (.t 19) (.c (.bool true)) (.t 27))] (.cond (.t 28) (oR [oM 4 (.mv (.c (.bool
 false)))] .ret) .skip))) (.reg [oV 10 5,oM 11 (.bin .add (.t 10) (oK 1)),oV 5 11])))))) (oR [oV 29 1,oN 30 29,oM 31 (.bin .leq (.t 30) (oK
 20)),oV 4 31] .ret)))
theorem ok132:FnOk Tryz.prog 132 32 1 c132 [.t 4]:=⟨_,_,Tryz.func132,rfl,rfl,by kernel_rfl,by kernel_rfl⟩
theorem bd132:bodied Tryz.prog 132=true:=by kernel_rfl
def c133:CI:=(oR [oM 1 (.box 0 true (.t 0)),oM 2 (.alloc 1 [(.int .i64 0),(.int .i64 0)])] (oR [oF 7 0 1,oW 8 7 7,oM 9 (.callw
 2 1 140 [(.t 8),(oK 0)]),oV 3 9] (oR [oM 10 (.build [(.int .i64 0),(.int .i64 0)] [(0,1,(oK 200))]),oM 4 (.alloc 3 [(.int .i64 0),(.int
 .i64 0)]),oS (.store true 2 (.t 4) (.t 10) [])] (.seq (oR [oM 5 (.mv (oK 0))] (.block 0 (.loop (.seq (oR [oV 11 5,oV 12 3,oN 13 12,
 oM 14 (.bin .lss (.t 11) (.t 13))] (.cond (.t 14) .skip (.exit 0))) (.seq (.block 1 (oR [oW 17 9 1,oV 18 3,oV 19 5,oI 20 2 18 19,oW 21 2 20,
 oM 22 (.call 33 [(.t 17),(.t 21)]),oV 6 22] (.reg [oF 23 0 4,oL 24 23,oV 25 6,oM 26 (.mm false [(.t 24),(.t 25)]),oF 27 1 4,oL 28 27,oV 29 6,
 oM 30 (.mm true [(.t 28),(.t 29)]),oM 31 (.build [(.int .i64 0),(.int .i64 0)] [(0,1,(.t 26)),(1,1,(.t 30))]),oS (.store true 2 (.t 4) (.t 31)
 [])]))) (.reg [oV 15 5,oM 16 (.bin .add (.t 15) (oK 1)),oV 5 16])))))) (oR [oW 32 2 4,oS (.store true 2 (.t 2) (.t 32) [])] .ret)))))
theorem ok133:FnOk Tryz.prog 133 33 4 c133 [.cell 2 true 2]:=⟨_,_,Tryz.func133,rfl,rfl,by kernel_rfl,by kernel_rfl⟩
theorem bd133:bodied Tryz.prog 133=true:=by kernel_rfl
def c134:CI:=(oR [oM 3 (.box 0 true (.t 0)),oM 6 (.mv (oK 0))] (.seq (oR [oW 8 7 3,oV 9 1,oM 10 (.call 141 [(.t 8),(.t 9)]),oV
 7 10] (oR [oV 11 7,oM 12 (.bin .neq (.t 11) (oK 0))] (.cond (.t 12) (oR [oV 13 7,oV 6 13] .ret) .skip))) (.seq (oR [oV 14
 2,oF 15 1 3,oL 16 15,oF 17 2 3,oL 18 17,oM 19 (.call 142 [(.t 14),(.t 16),(.t 18)]),oM 20 (.un .not (.t 19))] (.cond (.t 20) (oR [oM 6
 (.mv (oK 1))] .ret) .skip)) (oR [oM 6 (.mv (oK 0))] .ret))))
theorem ok134:FnOk Tryz.prog 134 21 1 c134 [.t 6]:=⟨_,_,Tryz.func134,rfl,rfl,by kernel_rfl,by kernel_rfl⟩
theorem bd134:bodied Tryz.prog 134=true:=by kernel_rfl
def c135:CI:=(oR [oM 3 (.box 0 true (.t 0)),oM 6 (.mv (oK 0))] (oR [oV 10 2,oV 7 10] (.seq (oR [oF 11 0 3,oL 12 11,oV
 13 1,oM 14 (.bin .add (.t 13) (oK 1)),oM 15 (.sli 7 (.t 12) (some (oK 1)) (some (.t 14))),oN 16 15,oM 17 (.mv (oK 0))] (.block 0 (.loop (oR [oM 18 (.bin .lss (.t 17) (.t 16))] (.seq (.cond (.t 18) .skip (.exit 0)) (.seq (.block 1 (oR [oI 19 7 15 17,oW 20 7 19,oM 9 (.alloc 1 [(.int
 .i64 0),(.int .i64 0),(.int .i64 0),(.int .i64 0),(.int .i64 0),(.int .i64 0),(.int .i64 0)]),oS (.store true 7 (.t 9) (.t 20) [])] (.reg [oF 21
 4 9,oL 22 21,oV 23 7,oF 24 5 9,oF 25 0 24,oL 26 25,oM 27 (.bin .mul (.t 23) (.t 26)),oF 28 5 9,oF 29 1 28,oL 30 29,oM 31 (.bin .quo (.t 27) (.t
 30)),oM 32 (.bin .add (.t 22) (.t 31)),oV 7 32]))) (.reg [oM 33 (.bin .add (.t 17) (oK 1)),oV 17 33]))))))) (oR [oV 34 7,oV 6 34] .ret))))
theorem ok135:FnOk Tryz.prog 135 35 2 c135 [.t 6]:=⟨_,_,Tryz.func135,rfl,rfl,by kernel_rfl,by kernel_rfl⟩
theorem bd135:bodied Tryz.prog 135=true:=by kernel_rfl
def c136:CI:=(oR [oM 2 (.box 0 true (.t 0)),oM 3 (.box 1 false (.t 1)),oM 4 (.alloc 2 [(.int .i64 0),(.int .i64 0)]),oM 5 (.alloc 3 [(.int
 .i64 0),(.int .i64 0)])] (oR [oL 9 3,oF 10 0 2,oF 11 0 10,oL 12 11,oF 13 2 2,oF 14 0 13,oL 15 14,oM 16 (.call 143 [(.t 9),(.t 12),(.t
 15)]),oS (.store true 2 (.t 4) (.t 16) [])] (oR [oW 17 2 4,oS (.store true 2 (.t 5) (.t 17) [])] (.seq (oR [oW 18 7 2,oM 19 (.callw
 4 0 144 [(.t 18)])] (.block 0 (.rng (.t 19) [20,21] (oR [oV 6 20] (.reg [oV 7 21])) (.block 1 (oR [oL 22 3,oV 23 6,oV 24 7,oM 25
 (.call 143 [(.t 22),(.t 23),(.t 24)]),oM 8 (.alloc 4 [(.int .i64 0),(.int .i64 0)]),oS (.store true 2 (.t 8) (.t 25) [])] (.seq (oR [oW 26
 2 8,oW 27 2 4,oM 28 (.call 145 [(.t 26),(.t 27)])] (.cond (.t 28) (.reg [oW 29 2 8,oS (.store true 2 (.t 4) (.t 29) [])]) .skip)) (oR [oW
 30 2 5,oW 31 2 8,oM 32 (.call 145 [(.t 30),(.t 31)])] (.cond (.t 32) (.reg [oW 33 2 8,oS (.store true 2 (.t 5) (.t 33) [])]) .skip)))))))) (oR [oW 34 2 4,oW 35 2 5,oS (.store true 2 (.t 4) (.t 34) [(.t 5)]),oS (.store true 2 (.t 5) (.t 35) [])] .ret)))))
theorem ok136:FnOk Tryz.prog 136 36 5 c136 [.cell 4 true 2, .cell 5 true 2]:=⟨_,_,Tryz.func136,rfl,rfl,by kernel_rfl,by kernel_rfl⟩
theorem bd136:bodied Tryz.prog 136=true:=by kernel_rfl
def c137:CI:=(oR [oM 1 (.box 0 true (.t 0)),oM 2 (.alloc 1 [(.int .i64 0),(.int .i64 0)])] (oR [oF 4 0 1,oL 5 4,oF 6 0 1,oL 7
 6,oM 8 (.un .neg (.t 7)),oM 9 (.mm true [(.t 5),(.t 8)]),oF 10 1 1,oL 11 10,oM 12 (.call 146 [(.t 9),(.t 11)]),oV 3 12] (oR [oF 13 0 1,
 oL 14 13,oV 15 3,oM 16 (.bin .quo (.t 14) (.t 15)),oF 17 1 1,oL 18 17,oV 19 3,oM 20 (.bin .quo (.t 18) (.t 19)),oM 21 (.build [(.int .i64 0),(.int
 .i64 0)] [(0,1,(.t 16)),(1,1,(.t 20))]),oS (.store true 2 (.t 2) (.t 21) [])] .ret)))
theorem ok137:FnOk Tryz.prog 137 22 2 c137 [.cell 2 true 2]:=⟨_,_,Tryz.func137,rfl,rfl,by kernel_rfl,by kernel_rfl⟩
theorem bd137:bodied Tryz.prog 137=true:=by kernel_rfl
def c138:CI:=(oR [oM 1 (.box 0 true (.t 0)),oM 2 (.mv (.c (.bool false)))] (.seq (oR [oF 5 0 1,oL 6 5,oN 7 6,oM 8 (.bin .lss (.t
 7) (oK 1)),oV 9 8,oG 9 false (oF 10 0 1),oG 9 false (oL 11 10),oG 9 false (oN 12 11),oG 9 false (oM 13 (.bin .gtr (.t 12) (oK 3))),oM 14 (.pick (.t
 9) (.c (.bool true)) (.t 13))] (.cond (.t 14) (oR [oM 2 (.mv (.c (.bool false)))] .ret) .skip)) (.seq (oR [oF 15 0 1,oL 16 15,oN 17
 16,oM 18 (.mv (oK 0))] (.block 0 (.loop (oR [oM 19 (.bin .lss (.t 18) (.t 17))] (.seq (.cond (.t 19) .skip (.exit 0)) (.seq (.block 1 (oR [oI 20 7 16 18,oW 21 7 20,oM 4 (.alloc 1 [(.int .i64 0),(.int .i64 0),(.int .i64 0),(.int .i64 0),(.int .i64 0),(.int .i64 0),(.int .i64
 0)]),oS (.store true 7 (.t 4) (.t 21) [])] (oR [oW 22 7 4,oM 23 (.call 147 [(.t 22)]),oM 24 (.un .not (.t 23))] (.cond (.t 24) (oR [oM 2 (.mv (.c (.bool false)))] .ret) .skip)))) (.reg [oM 25 (.bin .add (.t 18) (oK 1)),oV 18 25]))))))) (oR [oF 26 1 1,oL 27 26,oF 28 2 1,
 oL 29 28,oM 30 (.build [(.int .i64 0),(.int .i64 0)] [(0,1,(.t 27)),(1,1,(.t 29))]),oM 31 (.call 148 [(.t 30),(oK 200)]),oV 32 31,oG 32 true
 (oF 33 3 1),oG 32 true (oW 34 2 33),oG 32 true (oM 35 (.call 149 [(.t 34)])),oM 36 (.pick (.t 32) (.t 35) (.c (.bool false))),oV 37 36,oG 37 true
 (oF 38 5 1),oG 37 true (oL 39 38),oG 37 true (oM 40 (.call 142 [(.t 39),(oK 0),(oK 4000)])),oM 41 (.pick (.t 37) (.t 40) (.c (.bool false))),oV 42
 41,oG 42 true (oF 43 6 1),oG 42 true (oL 44 43),oG 42 true (oM 45 (.call 142 [(.t 44),(oK 0),(oK 4000)])),oM 46 (.pick (.t 42) (.t 45) (.c (.bool
 false))),oV 2 46] .ret))))
theorem ok138:FnOk Tryz.prog 138 47 2 c138 [.t 2]:=⟨_,_,Tryz.func138,rfl,rfl,by kernel_rfl,by kernel_rfl⟩
theorem bd138:bodied Tryz.prog 138=true:=by kernel_rfl
def c139:CI:=(oR [oM 4 (.mv (.c (.bool false)))] (oR [oW 5 3 1,oW 6 2 2,oV 7 0,oM 8 (.call 84 [(.t 5),(.t 6),(.t 7)]),oV 4 8]
 .ret))
theorem ok139:FnOk Tryz.prog 139 9 0 c139 [.t 4]:=⟨_,_,Tryz.func139,rfl,rfl,by kernel_rfl,by kernel_rfl⟩
theorem bd139:bodied Tryz.prog 139=true:=by kernel_rfl
def c140:CI:=(oR [oM 2 (.box 0 true (.t 0)),oM 4 (.mv oZ)] (oR [oF 9 0 2,oL 10 9,oV 11 1,oI 12 7 10 11,oW 13 7 12,oM 5 (.alloc
 1 [(.int .i64 0),(.int .i64 0),(.int .i64 0),(.int .i64 0),(.int .i64 0),(.int .i64 0),(.int .i64 0)]),oS (.store true 7 (.t 5) (.t 13) [])] (oR [oM 6 (.mv oZ)] (.seq (oR [oF 14 0 5,oF 15 0 14,oL 16 15,oV 7 16] (.block 0 (.loop (.seq (oR [oV 17 7,oF 18 0 5,oF 19 1 18,
 oL 20 19,oM 21 (.bin .leq (.t 17) (.t 20))] (.cond (.t 21) .skip (.exit 0))) (.seq (.block 1 (oR [oF 24 2 5,oF 25 0 24,oL 26 25,oV 8 26]
 (.block 2 (.loop (.seq (oR [oV 27 8,oF 28 2 5,oF 29 1 28,oL 30 29,oM 31 (.bin .leq (.t 27) (.t 30))] (.cond (.t 31) .skip (.exit 2))) (.seq
 (.block 3 (.reg [oV 34 6,oV 35 7,oV 36 8,oM 37 (.build [(.int .i64 0),(.int .i64 0)] [(0,1,(.t 35)),(1,1,(.t 36))]),oM 38 (.bsl 2 58 2 [(.t 37)]
 []),oM 39 (.apd 3 58 2 16 (.t 34) (.t 38) []),oV 6 39])) (.reg [oV 32 8,oM 33 (.bin .add (.t 32) (oK 1)),oV 8 33]))))))) (.reg [oV 22 7,oM 23 (.bin
 .add (.t 22) (oK 1)),oV 7 23])))))) (oR [oV 40 6,oV 4 40] .ret)))))
theorem ok140:FnOk Tryz.prog 140 41 4 c140 [.t 4]:=⟨_,_,Tryz.func140,rfl,rfl,by kernel_rfl,by kernel_rfl⟩
theorem bd140:bodied Tryz.prog 140=true:=by kernel_rfl
def c141:CI:=(oR [oM 2 (.box 0 true (.t 0)),oM 4 (.mv (oK 0))] (.seq (oR [oW 5 7 2,oM 6 (.call 138 [(.t 5)]),oM 7 (.un .not (.t
 6))] (.cond (.t 7) (oR [oM 4 (.mv (oK 10))] .ret) .skip)) (.seq (oR [oV 8 1,oF 9 0 2,oL 10 9,oN 11 10,oM 12 (.bin .sub (.t 11) (oK
 1)),oM 13 (.call 142 [(.t 8),(oK 0),(.t 12)]),oM 14 (.un .not (.t 13))] (.cond (.t 14) (oR [oM 4 (.mv (oK 1))] .ret) .skip)) (oR [oM 4 (.mv (oK 0))] .ret))))
theorem ok141:FnOk Tryz.prog 141 15 1 c141 [.t 4]:=⟨_,_,Tryz.func141,rfl,rfl,by kernel_rfl,by kernel_rfl⟩
theorem bd141:bodied Tryz.prog 141=true:=by kernel_rfl
def c142:CI:=(oR [oM 6 (.mv (.c (.bool false)))] (oR [oV 7 1,oV 8 0,oM 9 (.bin .leq (.t 7) (.t 8)),oV 10 9,oG 10 true (oV 11 0),
 oG 10 true (oV 12 2),oG 10 true (oM 13 (.bin .leq (.t 11) (.t 12))),oM 14 (.pick (.t 10) (.t 13) (.c (.bool false))),oV 6 14] .ret))
theorem ok142:FnOk Tryz.prog 142 15 0 c142 [.t 6]:=⟨_,_,Tryz.func142,rfl,rfl,by kernel_rfl,by kernel_rfl⟩
theorem bd142:bodied Tryz.prog 142=true:=by kernel_rfl
def c143:CI:=(oR [oM 6 (.alloc 0 [(.int .i64 0),(.int .i64 0)])] (oR [oV 7 0,oV 8 0,oM 9 (.bin .mul (.t 7) (.t 8)),oV 10 1,oV
 11 1,oM 12 (.bin .mul (.t 10) (.t 11)),oM 13 (.bin .add (.t 9) (.t 12)),oV 14 2,oV 15 2,oM 16 (.bin .mul (.t 14) (.t 15)),oM 17 (.bin .sub (.t 13)
 (.t 16)),oV 18 0,oM 19 (.bin .mul (oK 2) (.t 18)),oV 20 1,oM 21 (.bin .mul (.t 19) (.t 20)),oM 22 (.build [(.int .i64 0),(.int .i64 0)] [(0,1,(.t
 17)),(1,1,(.t 21))]),oS (.store true 2 (.t 6) (.t 22) [])] .ret))
theorem ok143:FnOk Tryz.prog 143 23 1 c143 [.cell 6 true 2]:=⟨_,_,Tryz.func143,rfl,rfl,by kernel_rfl,by kernel_rfl⟩
theorem bd143:bodied Tryz.prog 143=true:=by kernel_rfl
def c144:CI:=(oR [oM 1 (.box 0 true (.t 0)),oM 2 (.mv (.c (.lit (.nilFunc))))] (oR [oM 3 (.mkfn 150 [(.t 1)]),oV 2 3] .ret))
theorem ok144:FnOk Tryz.prog 144 4 1 c144 [.t 2]:=⟨_,_,Tryz.func144,rfl,rfl,by kernel_rfl,by kernel_rfl⟩
theorem bd144:bodied Tryz.prog 144=true:=by kernel_rfl
def c145:CI:=(oR [oM 2 (.box 0 true (.t 0)),oM 3 (.box 1 true (.t 1)),oM 4 (.mv (.c (.bool false)))] (oR [oF 5 0 2,oL 6 5,oF 7
 1 3,oL 8 7,oM 9 (.bin .mul (.t 6) (.t 8)),oF 10 0 3,oL 11 10,oF 12 1 2,oL 13 12,oM 14 (.bin .mul (.t 11) (.t 13)),oM 15 (.bin .lss (.t 9) (.t 14)),
 oV 4 15] .ret))
theorem ok145:FnOk Tryz.prog 145 16 2 c145 [.t 4]:=⟨_,_,Tryz.func145,rfl,rfl,by kernel_rfl,by kernel_rfl⟩
theorem bd145:bodied Tryz.prog 145=true:=by kernel_rfl
def c146:CI:=(oR [oM 4 (.mv (oK 0))] (.seq (.block 0 (.loop (.seq (oR [oV 5 0,oM 6 (.bin .neq (.t 5) (oK 0))] (.cond (.t 6) .skip
 (.exit 0))) (.block 1 (.reg [oV 7 1,oV 8 0,oM 9 (.bin .rem (.t 7) (.t 8)),oV 10 0,oV 0 9,oV 1 10]))))) (oR [oV 11 1,oV 4 11] .ret)))
theorem ok146:FnOk Tryz.prog 146 12 0 c146 [.t 4]:=⟨_,_,Tryz.func146,rfl,rfl,by kernel_rfl,by kernel_rfl⟩
theorem bd146:bodied Tryz.prog 146=true:=by kernel_rfl
def c147:CI:=(oR [oM 1 (.box 0 true (.t 0)),oM 2 (.mv (.c (.bool false)))] (oR [oF 3 0 1,oW 4 2 3,oM 5 (.call 148 [(.t 4),(oK
 6)]),oV 6 5,oG 6 true (oF 7 2 1),oG 6 true (oW 8 2 7),oG 6 true (oM 9 (.call 148 [(.t 8),(oK 6)])),oM 10 (.pick (.t 6) (.t 9) (.c (.bool false))),
 oV 11 10,oG 11 true (oF 12 4 1),oG 11 true (oL 13 12),oG 11 true (oM 14 (.call 142 [(.t 13),(oK 0),(oK 2000)])),oM 15 (.pick (.t 11) (.t 14) (.c
 (.bool false))),oV 16 15,oG 16 true (oF 17 5 1),oG 16 true (oW 18 2 17),oG 16 true (oM 19 (.call 149 [(.t 18)])),oM 20 (.pick (.t 16) (.t 19) (.c
 (.bool false))),oV 2 20] .ret))
theorem ok147:FnOk Tryz.prog 147 21 1 c147 [.t 2]:=⟨_,_,Tryz.func147,rfl,rfl,by kernel_rfl,by kernel_rfl⟩
theorem bd147:bodied Tryz.prog 147=true:=by kernel_rfl
def c148:CI:=(oR [oM 2 (.box 0 true (.t 0)),oM 4 (.mv (.c (.bool false)))] (oR [oF 5 0 2,oL 6 5,oF 7 1 2,oL 8 7,oM 9 (.call 142
 [(.t 6),(oK 1),(.t 8)]),oV 10 9,oG 10 true (oF 11 1 2),oG 10 true (oL 12 11),oG 10 true (oM 13 (.bin .leq (.t 12) (oK 2000))),oM 14 (.pick (.t 10)
 (.t 13) (.c (.bool false))),oV 15 14,oG 15 true (oF 16 1 2),oG 15 true (oL 17 16),oG 15 true (oF 18 0 2),oG 15 true (oL 19 18),oG 15 true (oM 20
 (.bin .sub (.t 17) (.t 19))),oG 15 true (oV 21 1),oG 15 true (oM 22 (.bin .leq (.t 20) (.t 21))),oM 23 (.pick (.t 15) (.t 22) (.c (.bool false))),oV
 4 23] .ret))
theorem ok148:FnOk Tryz.prog 148 24 1 c148 [.t 4]:=⟨_,_,Tryz.func148,rfl,rfl,by kernel_rfl,by kernel_rfl⟩
theorem bd148:bodied Tryz.prog 148=true:=by kernel_rfl
def c149:CI:=(oR [oM 1 (.box 0 true (.t 0)),oM 2 (.mv (.c (.bool false)))] (oR [oF 3 1 1,oL 4 3,oM 5 (.call 142 [(.t 4),(oK 1),
 (oK 20)]),oV 6 5,oG 6 true (oF 7 0 1),oG 6 true (oL 8 7),oG 6 true (oF 9 1 1),oG 6 true (oL 10 9),oG 6 true (oM 11 (.call 142 [(.t 8),(oK 0),(.t
 10)])),oM 12 (.pick (.t 6) (.t 11) (.c (.bool false))),oV 2 12] .ret))
theorem ok149:FnOk Tryz.prog 149 13 1 c149 [.t 2]:=⟨_,_,Tryz.func149,rfl,rfl,by kernel_rfl,by kernel_rfl⟩
theorem bd149:bodied Tryz.prog 149=true:=by kernel_rfl
def c150:CI:=(oR [oF 5 0 1,oF 6 0 5,oL 7 6,oV 3 7] (.block 0 (.loop (.seq (oR [oV 8 3,oF 9 0 1,oF 10 1 9,oL 11 10,oM 12 (.bin
 .leq (.t 8) (.t 11))] (.cond (.t 12) .skip (.exit 0))) (.seq (.block 1 (oR [oF 15 2 1,oF 16 0 15,oL 17 16,oV 4 17] (.block 2 (.loop (.seq
 (oR [oV 18 4,oF 19 2 1,oF 20 1 19,oL 21 20,oM 22 (.bin .leq (.t 18) (.t 21))] (.cond (.t 22) .skip (.exit 2))) (.seq (.block 3 (oR [oV 25 0,oV 26 3,oV 27 4,oM 28 (.callx (.t 25) [(.t 26),(.t 27)]),oM 29 (.un .not (.t 28))] (.cond (.t 29) .ret .skip))) (.reg [oV 23 4,oM 24 (.bin
 .add (.t 23) (oK 1)),oV 4 24]))))))) (.reg [oV 13 3,oM 14 (.bin .add (.t 13) (oK 1)),oV 3 14]))))))
theorem ok150:FnOk Tryz.prog 150 30 0 c150 []:=⟨_,_,Tryz.func150,rfl,rfl,by kernel_rfl,by kernel_rfl⟩
theorem bd150:bodied Tryz.prog 150=true:=by kernel_rfl
end Go.Proofs
