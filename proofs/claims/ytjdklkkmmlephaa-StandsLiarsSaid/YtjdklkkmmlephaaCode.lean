/- The functions of this program as the walk reads them, each proved to be what the program holds. -/
import Derived.Test.YtjdklkkmmlephaaEng4
import Derived.Test.YtjdklkkmmlephaaProg
import Derived.KernelRfl
namespace Go.Proofs
open Go.Eng
set_option maxRecDepth 100000
end Go.Proofs
namespace Go.Eng
theorem FnA.cq{P:Program}{sg:List Res}{f:FuncId}{args args':List AV}{a:AV}{k:AV->Prop}(h:FnA P f args' (· = a))(hr:AV.puL args=true)(hz:AV.frzL sg 8 args=some args')(hk:k a):CallQ P sg f args k:=h.callq hr hz fun _ e=>by subst e;exact hk
theorem FnA.lq{P:Program}{sg:List Res}{f:FuncId}{args args':List AV}{a:AV}{k:AV->Prop}(h:FnA P f args' (· = a))(hz:AV.frzL sg 8 args=some args')(hf:a.flat=true)(hk:k a):CallQ P sg f args k:=h.lendq hz fun _ e=>by subst e;exact⟨hf,hk⟩
theorem FnA.zq{P:Program}{fl:Bool}{sg:List Res}{nm ct:Nat}{f:FuncId}{args args':List AV}{z:List (Nat × Res)}{a:AV}{k:List (Nat × Res)->AV->Prop}(h:FnA P f args' (· = a))(hz:AV.reachL sg args=some z)(hr:AV.frzL sg 8 args=some args')(hk:k z a):CallZQ P fl sg nm ct f args k:=h.callzq hz hr fun _ e=>by subst e;exact hk
theorem FnO.oq{P:Program}{fl:Bool}{sg:List Res}{nm ct:Nat}{f:FuncId}{args args':List AV}{z:List (Nat × Res)}{a:AV}{b:List (Nat × Res)}{k:List (Nat × Res)->AV->Prop}(h:FnO P f args' (fun r rows=>r=a/\rows=b))(hz:AV.reachL sg args=some z)(hr:AV.frzL sg 8 args=some args')(hb:rowsB ct b=true)(hk:k (z++nameR b nm) (a.rnr (posN b nm))):CallZQ P fl sg nm ct f args k:=h.callzq hz hr fun _ _ e=>by obtain⟨e,e'⟩:=e;subst e;subst e';exact⟨hb,hk⟩
theorem wJ{x:Int}{K:Int->Prop}(hk:K x)(h : -9223372036854775808<=x/\x<=9223372036854775807:=by omega):WrE .i64 x K:=wIn h hk
theorem nJ{p A:Prop}(k:A)(h:p:=by omega):Need p A:=nI h k
theorem iaJ{es:List (List AV)}{i:Int}{K:List AV->Prop}{cs:List AV}(hc:es.getD i.toNat []=cs)(hk:K cs)(h0:0<=i:=by omega)(h1:i<es.length:=by omega):IaE es i K:=iaI h0 h1 hc hk
theorem apJ{sz bytes:Nat}{xs ys:List (List AV)}{K:Prop}(hk:K)(h1:∀e∈ys,e.length=sz/\e.all AV.one=true:=by simp[AV.one])(h2:(xs.length+ys.length)*bytes<=140737488355328:=by(simp only[List.length_cons,List.length_nil];omega)):ApE sz bytes xs ys K:=apI h1 h2 hk
theorem mI{s s':St}(h:Meets (fun i=>i) (fun _=>false) s s':=by((repeat' apply And.intro)<;>first|rfl|exact True.intro|(intro hh;cases hh))):MeetsE s s':=meets_id h
theorem mR(i j:Nat){s s':St}(h:Meets (fun k=>match decide (k=i)with|true=>j|false=>k) (fun _=>false) s s':=by((repeat' apply And.intro)<;>first|rfl|exact True.intro|(intro hh;cases hh))):MeetsE s s':=meets_ren i j h
theorem mN(i:Nat){s s':St}(h:Meets (fun k=>k) (fun k=>decide (k=i)) s s':=by((repeat' apply And.intro)<;>first|rfl|exact True.intro|(intro hh;cases hh))):MeetsE s s':=meets_nil i h
theorem mA(l:List (Nat × Option Nat)){s s':St}(h:Meets (asN l) (asB l) s s':=by((repeat' apply And.intro)<;>first|rfl|exact True.intro|(intro hh;cases hh))):MeetsE s s':=meets_as l h
end Go.Eng
namespace Go.Proofs
open Go.Eng
@[reducible] def oR(l:List IOp)(c:CI):CI:=.seq (.reg l) c
@[reducible] def oM(d:Nat)(o:Ixo):IOp:=⟨none,some d,o⟩
@[reducible] def oS(o:Ixo):IOp:=⟨none,none,o⟩
@[reducible] def oG(g:Nat)(b:Bool)(p:IOp):IOp:=⟨some (g,b),p.d,p.o⟩
@[reducible] def oV(d t:Nat):IOp:=⟨none,some d, .mv (.t t)⟩
@[reducible] def oL(d t:Nat):IOp:=⟨none,some d, .load false 1 (.t t)⟩
@[reducible] def oW(d n t:Nat):IOp:=⟨none,some d, .load true n (.t t)⟩
@[reducible] def oF(d k t:Nat):IOp:=⟨none,some d, .faddr k (.t t)⟩
@[reducible] def oI(d n a b:Nat):IOp:=⟨none,some d, .iaddr n (.t a) (.t b)⟩
@[reducible] def oN(d t:Nat):IOp:=⟨none,some d, .len (.t t)⟩
@[reducible] def oX(d k t:Nat):IOp:=⟨none,some d, .extract k (.t t)⟩
@[reducible] def oK(n:Int):Opd:=.c (.int .i64 n)
@[reducible] def oZ:Opd:=.c .nils
def c3:CI:=(oR [oM 2 (.box 0 true (.t 0)),oM 4 (.mv (.c (.bool false)))] (.seq (oR [oW 15 3 2,oM 16 (.call 14 [(.t 15)]),oV 17
 16,oG 17 false (oW 18 3 2),oG 17 false (oM 19 (.call 15 [(.t 18)])),oG 17 false (oM 20 (.bin .neq (.t 19) (oK 0))),oM 21 (.pick (.t 17) (.c (.bool
 true)) (.t 20)),oV 22 21,oG 22 false (oW 23 3 2),oG 22 false (oV 24 1),oG 22 false (oM 25 (.call 16 [(.t 23),(.t 24)])),oG 22 false (oM 26 (.un .not
 (.t 25))),oM 27 (.pick (.t 22) (.c (.bool true)) (.t 26))] (.cond (.t 27) (oR [oM 28 (.call 17 []),oV 4 28] .ret) .skip)) (oR [oW 30
 3 2,oM 31 (.call 18 [(.t 30)]),oV 29 31,oX 32 0 29,oX 33 1 29,oV 5 32,oV 6 33] (oR [oW 35 3 2,oM 36 (.callw 1 1 19 [(.t 35)]),oV 34 36,
 oX 37 0 34,oX 38 1 34,oV 7 37,oV 8 38] (oR [oW 40 3 2,oM 41 (.callw 2 1 20 [(.t 40)]),oV 39 41,oX 42 0 39,oX 43 1 39,oV 9 42,oV 10 43]
 (.seq (oR [oV 44 6,oM 45 (.bin .neq (.t 44) (oK 0)),oV 46 45,oG 46 false (oV 47 8),oG 46 false (oM 48 (.bin .neq (.t 47) (oK 0))),oM 49 (.pick
 (.t 46) (.c (.bool true)) (.t 48)),oV 50 49,oG 50 false (oV 51 10),oG 50 false (oM 52 (.bin .neq (.t 51) (oK 0))),oM 53 (.pick (.t 50) (.c (.bool true))
 (.t 52)),oV 54 53,oG 54 false (oV 55 5),oG 54 false (oM 56 (.bin .lss (.t 55) (oK 1))),oM 57 (.pick (.t 54) (.c (.bool true)) (.t 56)),oV 58 57,oG
 58 false (oV 59 7),oG 58 false (oN 60 59),oG 58 false (oF 61 0 2),oG 58 false (oL 62 61),oG 58 false (oM 63 (.bin .neq (.t 60) (.t 62))),oM 64 (.pick
 (.t 58) (.c (.bool true)) (.t 63)),oV 65 64,oG 65 false (oV 66 9),oG 65 false (oN 67 66),oG 65 false (oF 68 1 2),oG 65 false (oL 69 68),oG 65 false
 (oN 70 69),oG 65 false (oM 71 (.bin .gtr (.t 67) (.t 70))),oM 72 (.pick (.t 65) (.c (.bool true)) (.t 71))] (.cond (.t 72) (oR [oM 4 (.mv (.c
 (.bool false)))] .ret) .skip)) (.seq (oR [oM 11 (.mv (oK 0))] (.block 0 (.loop (.seq (oR [oV 73 11,oF 74 0 2,oL 75 74,oM 76 (.bin
 .lss (.t 73) (.t 75))] (.cond (.t 76) .skip (.exit 0))) (.seq (.block 1 (oR [oW 80 3 2,oV 81 11,oM 82 (.callw 3 1 21 [(.t 80),(.t 81)]),oV
 79 82,oX 83 0 79,oX 84 1 79,oV 12 83,oV 13 84] (oR [oV 85 13,oM 86 (.bin .neq (.t 85) (oK 0)),oV 87 86,oG 87 false (oV 88 12),oG 87 false
 (oV 89 1),oG 87 false (oV 90 11),oG 87 false (oI 91 1 89 90),oG 87 false (oL 92 91),oG 87 false (oM 93 (.call 22 [(.t 88),(.t 92)])),oG 87 false
 (oM 94 (.un .not (.t 93))),oM 95 (.pick (.t 87) (.c (.bool true)) (.t 94)),oV 96 95,oG 96 false (oV 97 7),oG 96 false (oV 98 11),oG 96 false (oI 99
 1 97 98),oG 96 false (oL 100 99),oG 96 false (oM 101 (.bin .eql (.t 100) (oK (-1)))),oG 96 false (oV 102 12),oG 96 false (oN 103 102),oG 96 false
 (oM 104 (.bin .gtr (.t 103) (oK 1))),oG 96 false (oM 105 (.eqb true (.t 101) (.t 104))),oM 106 (.pick (.t 96) (.c (.bool true)) (.t 105)),oV 107 106,
 oG 107 false (oV 108 7),oG 107 false (oV 109 11),oG 107 false (oI 110 1 108 109),oG 107 false (oL 111 110),oG 107 false (oM 112 (.bin .neq (.t 111)
 (oK (-1)))),oG 107 false (oV 113 112),oG 113 true (oV 114 7),oG 113 true (oV 115 11),oG 113 true (oI 116 1 114 115),oG 113 true (oL 117 116),oG 113
 true (oV 118 1),oG 113 true (oV 119 11),oG 113 true (oI 120 1 118 119),oG 113 true (oL 121 120),oG 113 true (oM 122 (.bin .neq (.t 117) (.t 121))),
 oG 107 false (oM 123 (.pick (.t 113) (.t 122) (.c (.bool false)))),oM 124 (.pick (.t 107) (.c (.bool true)) (.t 123))] (.cond (.t 124) (oR [oM
 4 (.mv (.c (.bool false)))] .ret) .skip)))) (.reg [oV 77 11,oM 78 (.bin .add (.t 77) (oK 1)),oV 11 78])))))) (.seq (oR [oM 14 (.mv (oK 0))]
 (.block 2 (.loop (.seq (oR [oV 125 14,oV 126 9,oN 127 126,oM 128 (.bin .lss (.t 125) (.t 127))] (.cond (.t 128) .skip (.exit 2))) (.seq (.block
 3 (oR [oV 131 9,oV 132 14,oI 133 1 131 132,oL 134 133,oM 135 (.bin .lss (.t 134) (oK 0)),oV 136 135,oG 136 false (oV 137 9),oG 136 false
 (oV 138 14),oG 136 false (oI 139 1 137 138),oG 136 false (oL 140 139),oG 136 false (oF 141 1 2),oG 136 false (oL 142 141),oG 136 false (oN 143 142),
 oG 136 false (oM 144 (.bin .geq (.t 140) (.t 143))),oM 145 (.pick (.t 136) (.c (.bool true)) (.t 144)),oV 146 145,oG 146 false (oF 147 1 2),oG 146
 false (oL 148 147),oG 146 false (oV 149 9),oG 146 false (oV 150 14),oG 146 false (oI 151 1 149 150),oG 146 false (oL 152 151),oG 146 false (oI 153
 4 148 152),oG 146 false (oW 154 4 153),oG 146 false (oV 155 1),oG 146 false (oM 156 (.call 23 [(.t 154),(.t 155)])),oM 157 (.pick (.t 146) (.c (.bool
 true)) (.t 156))] (.cond (.t 157) (oR [oM 4 (.mv (.c (.bool false)))] .ret) .skip))) (.reg [oV 129 14,oM 130 (.bin .add (.t 129) (oK 1)),oV
 14 130])))))) (oR [oM 158 (.call 17 []),oV 4 158] .ret)))))))))
theorem ok3:FnOk Try.prog 3 159 4 c3 [.t 4]:=⟨_,_,Try.func3,rfl,rfl,by kernel_rfl,by kernel_rfl⟩
theorem bd3:bodied Try.prog 3=true:=by kernel_rfl
def c4:CI:=(oR [oM 3 (.box 0 true (.t 0)),oM 4 (.box 1 true (.t 1)),oM 6 (.mv (.c (.bool false)))] (.seq (oR [oW 17 3 3,oM 18 (.call
 14 [(.t 17)]),oV 19 18,oG 19 false (oW 20 3 3),oG 19 false (oM 21 (.call 15 [(.t 20)])),oG 19 false (oM 22 (.bin .neq (.t 21) (oK 0))),oM 23 (.pick
 (.t 19) (.c (.bool true)) (.t 22)),oV 24 23,oG 24 false (oF 25 1 3),oG 24 false (oL 26 25),oG 24 false (oN 27 26),oG 24 false (oM 28 (.bin .geq (.t
 27) (oK 20))),oM 29 (.pick (.t 24) (.c (.bool true)) (.t 28)),oV 30 29,oG 30 false (oF 31 3 4),oG 30 false (oL 32 31),oG 30 false (oN 33 32),oG 30
 false (oM 34 (.bin .gtr (.t 33) (oK 20))),oM 35 (.pick (.t 30) (.c (.bool true)) (.t 34)),oV 36 35,oG 36 false (oV 37 2),oG 36 false (oM 38 (.bin .lss
 (.t 37) (oK 0))),oM 39 (.pick (.t 36) (.c (.bool true)) (.t 38)),oV 40 39,oG 40 false (oV 41 2),oG 40 false (oF 42 0 3),oG 40 false (oL 43 42),oG
 40 false (oM 44 (.bin .geq (.t 41) (.t 43))),oM 45 (.pick (.t 40) (.c (.bool true)) (.t 44))] (.cond (.t 45) (oR [oM 46 (.call 17 []),oV 6 46]
 .ret) .skip)) (oR [oW 47 3 3,oM 48 (.callw 2 1 24 [(.t 47)]),oM 7 (.alloc 3 [(.int .i64 0), .nils,(.int .i64 0)]),oS (.stz true 3 (.t 7) (.t
 48) [])] (oR [oF 49 1 7,oL 50 49,oW 51 4 4,oM 52 (.bsl 4 39 4 [(.t 51)] []),oM 53 (.apd 5 39 4 48 (.t 50) (.t 52) []),oF 54 1 7,oS (.stz
 false 1 (.t 54) (.t 53) [])] (.seq (oR [oW 55 3 7,oM 56 (.call 15 [(.t 55)]),oM 57 (.bin .neq (.t 56) (oK 0))] (.cond (.t 57) (oR [oM
 58 (.call 17 []),oV 6 58] .ret) .skip)) (oR [oW 60 3 3,oM 61 (.call 18 [(.t 60)]),oV 59 61,oX 62 0 59,oX 63 1 59,oV 8 62,oV 9 63] (oR [oW 65 3 7,oM 66 (.call 18 [(.t 65)]),oV 64 66,oX 67 0 64,oX 68 1 64,oV 10 67,oV 11 68] (oR [oW 70 3 3,oV 71 2,oM 72 (.callw 6 1
 21 [(.t 70),(.t 71)]),oV 69 72,oX 73 0 69,oX 74 1 69,oV 12 73,oV 13 74] (oR [oW 76 3 7,oV 77 2,oM 78 (.callw 7 1 21 [(.t 76),(.t 77)]),
 oV 75 78,oX 79 0 75,oX 80 1 75,oV 14 79,oV 15 80] (.seq (oR [oV 81 9,oM 82 (.bin .neq (.t 81) (oK 0)),oV 83 82,oG 83 false (oV 84 11),
 oG 83 false (oM 85 (.bin .neq (.t 84) (oK 0))),oM 86 (.pick (.t 83) (.c (.bool true)) (.t 85)),oV 87 86,oG 87 false (oV 88 10),oG 87 false (oV 89 8),
 oG 87 false (oM 90 (.bin .gtr (.t 88) (.t 89))),oM 91 (.pick (.t 87) (.c (.bool true)) (.t 90)),oV 92 91,oG 92 false (oV 93 10),oG 92 false (oM 94
 (.bin .lss (.t 93) (oK 0))),oM 95 (.pick (.t 92) (.c (.bool true)) (.t 94)),oV 96 95,oG 96 false (oV 97 13),oG 96 false (oM 98 (.bin .eql (.t 97) (oK
 0))),oG 96 false (oV 99 8),oG 96 false (oM 100 (.bin .gtr (.t 99) (oK 0))),oG 96 false (oM 101 (.eqb true (.t 98) (.t 100))),oM 102 (.pick (.t 96)
 (.c (.bool true)) (.t 101)),oV 103 102,oG 103 false (oV 104 15),oG 103 false (oM 105 (.bin .eql (.t 104) (oK 0))),oG 103 false (oV 106 10),oG 103
 false (oM 107 (.bin .gtr (.t 106) (oK 0))),oG 103 false (oM 108 (.eqb true (.t 105) (.t 107))),oM 109 (.pick (.t 103) (.c (.bool true)) (.t 108)),oV
 110 109,oG 110 false (oV 111 12),oG 110 false (oN 112 111),oG 110 false (oF 113 0 3),oG 110 false (oL 114 113),oG 110 false (oM 115 (.bin .gtr (.t
 112) (.t 114))),oM 116 (.pick (.t 110) (.c (.bool true)) (.t 115)),oV 117 116,oG 117 false (oV 118 14),oG 117 false (oN 119 118),oG 117 false (oV
 120 12),oG 117 false (oN 121 120),oG 117 false (oM 122 (.bin .gtr (.t 119) (.t 121))),oM 123 (.pick (.t 117) (.c (.bool true)) (.t 122))] (.cond (.t
 123) (oR [oM 6 (.mv (.c (.bool false)))] .ret) .skip)) (.seq (oR [oM 16 (.mv (oK 0))] (.block 0 (.loop (.seq (oR [oV 124 16,
 oV 125 14,oN 126 125,oM 127 (.bin .lss (.t 124) (.t 126))] (.cond (.t 127) .skip (.exit 0))) (.seq (.block 1 (oR [oV 130 12,oV 131 14,oV 132
 16,oI 133 1 131 132,oL 134 133,oM 135 (.call 22 [(.t 130),(.t 134)]),oM 136 (.un .not (.t 135))] (.cond (.t 136) (oR [oM 6 (.mv (.c (.bool
 false)))] .ret) .skip))) (.reg [oV 128 16,oM 129 (.bin .add (.t 128) (oK 1)),oV 16 129])))))) (oR [oM 137 (.call 17 []),oV 6 137] .ret))))))))))))
theorem ok4:FnOk Try.prog 4 138 8 c4 [.t 6]:=⟨_,_,Try.func4,rfl,rfl,by kernel_rfl,by kernel_rfl⟩
theorem bd4:bodied Try.prog 4=true:=by kernel_rfl
def c5:CI:=(oR [oM 1 (.box 0 true (.t 0)),oM 2 (.mv (.c (.bool false)))] (.seq (oR [oW 13 3 1,oM 14 (.call 25 [(.t 13)]),oM 15
 (.un .not (.t 14)),oV 16 15,oG 16 false (oF 17 2 1),oG 16 false (oL 18 17),oG 16 false (oM 19 (.bin .gtr (.t 18) (oK 0))),oM 20 (.pick (.t 16) (.c
 (.bool true)) (.t 19)),oV 21 20,oG 21 false (oF 22 1 1),oG 21 false (oL 23 22),oG 21 false (oN 24 23),oG 21 false (oM 25 (.bin .geq (.t 24) (oK 20))),
 oM 26 (.pick (.t 21) (.c (.bool true)) (.t 25))] (.cond (.t 26) (oR [oM 27 (.call 17 []),oV 2 27] .ret) .skip)) (oR [oW 29 3 1,oM 30
 (.call 26 [(.t 29)]),oV 28 30,oX 31 0 28,oX 32 1 28,oV 3 31,oV 4 32] (oR [oW 34 3 1,oM 35 (.call 27 [(.t 34)]),oV 33 35,oX 36 0 33,oX
 37 1 33,oV 5 36,oV 6 37] (.seq (oR [oV 38 4,oV 39 6,oM 40 (.bin .neq (.t 38) (.t 39)),oV 41 40,oG 41 false (oV 42 4),oG 41 false (oM 43
 (.bin .neq (.t 42) (oK 0))),oG 41 false (oV 44 43),oG 44 true (oV 45 4),oG 44 true (oM 46 (.bin .neq (.t 45) (oK 3))),oG 41 false (oM 47 (.pick (.t
 44) (.t 46) (.c (.bool false)))),oM 48 (.pick (.t 41) (.c (.bool true)) (.t 47))] (.cond (.t 48) (oR [oM 2 (.mv (.c (.bool false)))] .ret) .skip))
 (.seq (oR [oV 49 4,oM 50 (.bin .neq (.t 49) (oK 0)),oV 51 50,oG 51 false (oV 52 3),oG 51 false (oM 53 (.bin .eql (.t 52) (oK 0))),oM 54 (.pick
 (.t 51) (.c (.bool true)) (.t 53))] (.cond (.t 54) (oR [oV 55 4,oM 56 (.bin .neq (.t 55) (oK 0)),oV 57 56,oG 57 false (oV 58 5),oG 57 false
 (oM 59 (.bin .eql (.t 58) (oK (-1)))),oM 60 (.pick (.t 57) (.c (.bool true)) (.t 59)),oV 61 60,oG 61 true (oM 62 (.call 17 [])),oM 63 (.pick (.t 61)
 (.t 62) (.c (.bool false))),oV 2 63] .ret) .skip)) (oR [oW 65 3 1,oV 66 5,oM 67 (.callw 1 1 21 [(.t 65),(.t 66)]),oV 64 67,oX 68 0 64,oX
 69 1 64,oV 7 68,oV 8 69] (.seq (oR [oV 70 8,oM 71 (.bin .neq (.t 70) (oK 0)),oV 72 71,oG 72 false (oV 73 7),oG 72 false (oN 74 73),oG 72
 false (oM 75 (.bin .lss (.t 74) (oK 2))),oM 76 (.pick (.t 72) (.c (.bool true)) (.t 75))] (.cond (.t 76) (oR [oM 2 (.mv (.c (.bool false)))]
 .ret) .skip)) (.seq (oR [oM 9 (.mv (oK 0))] (.block 0 (.loop (.seq (oR [oV 77 9,oV 78 7,oN 79 78,oM 80 (.bin .lss (.t 77) (.t 79))]
 (.cond (.t 80) .skip (.exit 0))) (.seq (.block 1 (oR [oW 83 3 1,oM 84 (.callw 2 1 24 [(.t 83)]),oM 10 (.alloc 3 [(.int .i64 0), .nils,(.int
 .i64 0)]),oS (.stz true 3 (.t 10) (.t 84) [])] (oR [oF 85 1 10,oL 86 85,oV 87 5,oV 88 7,oV 89 9,oI 90 1 88 89,oL 91 90,oM 92 (.bsl 4 3
 1 [(.t 91)] []),oM 93 (.build [(.int .i64 0),(.int .i64 0),(.int .i64 0), .nils] [(0,1,(oK 1)),(1,1,(.t 87)),(3,1,(.t 92))]),oM 94 (.bsl 5
 39 4 [(.t 93)] []),oM 95 (.apd 6 39 4 48 (.t 86) (.t 94) []),oF 96 1 10,oS (.stz false 1 (.t 96) (.t 95) [])] (oR [oW 98 3 10,oM 99 (.call
 26 [(.t 98)]),oV 97 99,oX 100 0 97,oX 101 1 97,oV 11 100,oV 12 101] (oR [oV 102 12,oM 103 (.bin .neq (.t 102) (oK 0)),oV 104 103,oG 104
 false (oV 105 11),oG 104 false (oV 106 3),oG 104 false (oM 107 (.bin .sub (.t 106) (oK 1))),oG 104 false (oM 108 (.bin .gtr (.t 105) (.t 107))),oM
 109 (.pick (.t 104) (.c (.bool true)) (.t 108))] (.cond (.t 109) (oR [oM 2 (.mv (.c (.bool false)))] .ret) .skip)))))) (.reg [oV 81 9,oM 82
 (.bin .add (.t 81) (oK 1)),oV 9 82])))))) (oR [oM 110 (.call 17 []),oV 2 110] .ret))))))))))
theorem ok5:FnOk Try.prog 5 111 7 c5 [.t 2]:=⟨_,_,Try.func5,rfl,rfl,by kernel_rfl,by kernel_rfl⟩
theorem bd5:bodied Try.prog 5=true:=by kernel_rfl
def c6:CI:=(oR [oM 1 (.box 0 true (.t 0)),oM 2 (.mv (.c (.bool false)))] (.seq (oR [oW 7 3 1,oM 8 (.call 25 [(.t 7)]),oM 9 (.un
 .not (.t 8))] (.cond (.t 9) (oR [oM 10 (.call 17 []),oV 2 10] .ret) .skip)) (oR [oW 12 3 1,oM 13 (.call 18 [(.t 12)]),oV 11 13,oX
 14 0 11,oX 15 1 11,oV 3 14,oV 4 15] (oR [oW 17 3 1,oM 18 (.call 26 [(.t 17)]),oV 16 18,oX 19 0 16,oX 20 1 16,oV 5 19,oV 6 20] (.seq
 (oR [oV 21 4,oM 22 (.bin .neq (.t 21) (oK 0)),oV 23 22,oG 23 false (oV 24 3),oG 23 false (oM 25 (.bin .lss (.t 24) (oK 0))),oM 26 (.pick (.t
 23) (.c (.bool true)) (.t 25)),oV 27 26,oG 27 false (oV 28 6),oG 27 false (oM 29 (.bin .eql (.t 28) (oK 3))),oG 27 false (oV 30 3),oG 27 false (oM
 31 (.bin .eql (.t 30) (oK 0))),oG 27 false (oM 32 (.eqb true (.t 29) (.t 31))),oM 33 (.pick (.t 27) (.c (.bool true)) (.t 32)),oV 34 33,oG 34 false
 (oV 35 6),oG 34 false (oM 36 (.bin .neq (.t 35) (oK 0))),oG 34 false (oV 37 36),oG 37 true (oV 38 6),oG 37 true (oM 39 (.bin .neq (.t 38) (oK 3))),
 oG 34 false (oM 40 (.pick (.t 37) (.t 39) (.c (.bool false)))),oM 41 (.pick (.t 34) (.c (.bool true)) (.t 40))] (.cond (.t 41) (oR [oM 2 (.mv
 (.c (.bool false)))] .ret) .skip)) (.seq (oR [oV 42 6,oM 43 (.bin .neq (.t 42) (oK 0))] (.cond (.t 43) (oR [oM 44 (.call 17 []),oV
 2 44] .ret) .skip)) (oR [oV 45 5,oM 46 (.bin .geq (.t 45) (oK 0)),oV 47 46,oG 47 true (oV 48 5),oG 47 true (oF 49 0 1),oG 47 true (oL 50
 49),oG 47 true (oM 51 (.bin .sub (.t 50) (oK 1))),oG 47 true (oM 52 (.mm true [(oK 0),(.t 51)])),oG 47 true (oM 53 (.bin .leq (.t 48) (.t 52))),oM
 54 (.pick (.t 47) (.t 53) (.c (.bool false))),oV 55 54,oG 55 true (oV 56 5),oG 55 true (oV 57 3),oG 55 true (oM 58 (.bin .lss (.t 56) (.t 57))),oM
 59 (.pick (.t 55) (.t 58) (.c (.bool false))),oV 60 59,oG 60 true (oV 61 5),oG 60 true (oM 62 (.bin .eql (.t 61) (oK 0))),oG 60 true (oV 63 3),oG
 60 true (oM 64 (.bin .eql (.t 63) (oK 1))),oG 60 true (oM 65 (.eqb false (.t 62) (.t 64))),oM 66 (.pick (.t 60) (.t 65) (.c (.bool false))),oV 67 66,
 oG 67 true (oM 68 (.call 17 [])),oM 69 (.pick (.t 67) (.t 68) (.c (.bool false))),oV 2 69] .ret)))))))
theorem ok6:FnOk Try.prog 6 70 1 c6 [.t 2]:=⟨_,_,Try.func6,rfl,rfl,by kernel_rfl,by kernel_rfl⟩
theorem bd6:bodied Try.prog 6=true:=by kernel_rfl
def c9:CI:=(oR [oM 3 (.box 0 true (.t 0)),oM 6 (.mv (.c (.bool false)))] (.seq (oR [oW 24 3 3,oM 25 (.call 25 [(.t 24)]),oM 26
 (.un .not (.t 25)),oV 27 26,oG 27 false (oV 28 1),oG 27 false (oN 29 28),oG 27 false (oF 30 0 3),oG 27 false (oL 31 30),oG 27 false (oM 32 (.bin
 .neq (.t 29) (.t 31))),oM 33 (.pick (.t 27) (.c (.bool true)) (.t 32)),oV 34 33,oG 34 false (oV 35 1),oG 34 false (oM 36 (.call 28 [(.t 35)])),oG
 34 false (oM 37 (.un .not (.t 36))),oM 38 (.pick (.t 34) (.c (.bool true)) (.t 37)),oV 39 38,oG 39 false (oV 40 2),oG 39 false (oM 41 (.bin .lss (.t
 40) (oK 0))),oM 42 (.pick (.t 39) (.c (.bool true)) (.t 41)),oV 43 42,oG 43 false (oV 44 2),oG 43 false (oF 45 0 3),oG 43 false (oL 46 45),oG 43
 false (oM 47 (.bin .geq (.t 44) (.t 46))),oM 48 (.pick (.t 43) (.c (.bool true)) (.t 47))] (.cond (.t 48) (oR [oM 49 (.call 17 []),oV 6 49]
 .ret) .skip)) (oR [oF 50 0 3,oL 51 50,oF 52 2 3,oL 53 52,oM 54 (.build [(.int .i64 0), .nils,(.int .i64 0)] [(0,1,(.t 51)),(2,1,(.t 53))]),
 oM 7 (.alloc 1 [(.int .i64 0), .nils,(.int .i64 0)]),oS (.stz true 3 (.t 7) (.t 54) [])] (.seq (oR [oM 8 (.mv (oK 0))] (.block 0 (.loop (.seq
 (oR [oV 55 8,oF 56 1 3,oL 57 56,oN 58 57,oM 59 (.bin .lss (.t 55) (.t 58))] (.cond (.t 59) .skip (.exit 0))) (.seq (.block 1 (oR [oF
 62 1 3,oL 63 62,oV 64 8,oI 65 4 63 64,oW 66 4 65,oM 9 (.alloc 2 [(.int .i64 0),(.int .i64 0),(.int .i64 0), .nils]),oS (.stz true 4 (.t 9) (.t
 66) [])] (oR [oF 67 0 9,oL 68 67,oV 69 1,oF 70 1 9,oL 71 70,oI 72 1 69 71,oL 73 72,oF 74 3 9,oL 75 74,oV 76 1,oM 10 (.alloc 4 [(.int
 .i64 0),(.int .i64 0),(.int .i64 0), .nils]),oM 77 (.callz 3 1 36 [(.t 75),(.t 76)] []),oM 78 (.build [(.int .i64 0),(.int .i64 0),(.int .i64 0),
 .nils] [(0,1,(.t 68)),(1,1,(.t 73)),(3,1,(.t 77))]),oS (.stz true 4 (.t 10) (.t 78) [])] (.seq (oR [oF 79 0 9,oL 80 79,oM 81 (.bin
 .eql (.t 80) (oK 3)),oV 82 81,oG 82 false (oF 83 0 9),oG 82 false (oL 84 83),oG 82 false (oM 85 (.bin .eql (.t 84) (oK 4))),oM 86 (.pick (.t 82) (.c
 (.bool true)) (.t 85))] (.cond (.t 86) (.reg [oV 87 1,oF 88 2 9,oL 89 88,oI 90 1 87 89,oL 91 90,oF 92 2 10,oS (.store false 1 (.t 92) (.t 91) [])])
 .skip)) (.reg [oF 93 1 7,oL 94 93,oW 95 4 10,oM 96 (.bsl 5 39 4 [(.t 95)] []),oM 97 (.apd 6 39 4 48 (.t 94) (.t 96) []),oF 98 1 7,oS (.stz false
 1 (.t 98) (.t 97) [])]))))) (.reg [oV 60 8,oM 61 (.bin .add (.t 60) (oK 1)),oV 8 61])))))) (oR [oW 100 3 3,oM 101 (.call 18 [(.t 100)]),oV
 99 101,oX 102 0 99,oX 103 1 99,oV 11 102,oV 12 103] (oR [oW 105 3 7,oM 106 (.call 18 [(.t 105)]),oV 104 106,oX 107 0 104,oX 108 1 104,
 oV 13 107,oV 14 108] (oR [oW 110 3 3,oM 111 (.call 26 [(.t 110)]),oV 109 111,oX 112 0 109,oX 113 1 109,oV 15 112,oV 16 113] (oR [oW 115 3 7,oM 116 (.call 26 [(.t 115)]),oV 114 116,oX 117 0 114,oX 118 1 114,oV 17 117,oV 18 118] (oR [oW 120 3 3,oV 121 2,oM 122 (.callw
 7 1 21 [(.t 120),(.t 121)]),oV 119 122,oX 123 0 119,oX 124 1 119,oV 19 123,oV 20 124] (oR [oW 126 3 7,oV 127 1,oV 128 2,oI 129 1 127
 128,oL 130 129,oM 131 (.callz 8 1 21 [(.t 126),(.t 130)] []),oV 125 131,oX 132 0 125,oX 133 1 125,oV 21 132,oV 22 133] (.seq (oR [oV 134
 12,oV 135 14,oM 136 (.bin .neq (.t 134) (.t 135)),oV 137 136,oG 137 false (oV 138 11),oG 137 false (oV 139 13),oG 137 false (oM 140 (.bin .neq (.t
 138) (.t 139))),oM 141 (.pick (.t 137) (.c (.bool true)) (.t 140)),oV 142 141,oG 142 false (oV 143 15),oG 142 false (oV 144 17),oG 142 false (oM 145
 (.bin .neq (.t 143) (.t 144))),oM 146 (.pick (.t 142) (.c (.bool true)) (.t 145)),oV 147 146,oG 147 false (oV 148 16),oG 147 false (oV 149 18),oG
 147 false (oM 150 (.bin .neq (.t 148) (.t 149))),oM 151 (.pick (.t 147) (.c (.bool true)) (.t 150)),oV 152 151,oG 152 false (oV 153 20),oG 152 false
 (oV 154 22),oG 152 false (oM 155 (.bin .neq (.t 153) (.t 154))),oM 156 (.pick (.t 152) (.c (.bool true)) (.t 155)),oV 157 156,oG 157 false (oV 158
 19),oG 157 false (oN 159 158),oG 157 false (oF 160 0 3),oG 157 false (oL 161 160),oG 157 false (oM 162 (.bin .gtr (.t 159) (.t 161))),oM 163 (.pick
 (.t 157) (.c (.bool true)) (.t 162))] (.cond (.t 163) (oR [oM 6 (.mv (.c (.bool false)))] .ret) .skip)) (.seq (oR [oM 23 (.mv (oK 0))]
 (.block 2 (.loop (.seq (oR [oV 164 23,oV 165 19,oN 166 165,oM 167 (.bin .lss (.t 164) (.t 166))] (.cond (.t 167) .skip (.exit 2))) (.seq (.block
 3 (oR [oV 170 19,oV 171 23,oI 172 1 170 171,oL 173 172,oM 174 (.bin .lss (.t 173) (oK 0)),oV 175 174,oG 175 false (oV 176 19),oG 175 false
 (oV 177 23),oG 175 false (oI 178 1 176 177),oG 175 false (oL 179 178),oG 175 false (oF 180 0 3),oG 175 false (oL 181 180),oG 175 false (oM 182 (.bin
 .geq (.t 179) (.t 181))),oM 183 (.pick (.t 175) (.c (.bool true)) (.t 182))] (.cond (.t 183) (oR [oM 6 (.mv (.c (.bool false)))] .ret) .skip)))
 (.reg [oV 168 23,oM 169 (.bin .add (.t 168) (oK 1)),oV 23 169])))))) (oR [oV 184 19,oV 185 1,oM 186 (.callw 9 1 36 [(.t 184),(.t 185)]),oV
 187 21,oM 188 (.call 37 [(.t 186),(.t 187)]),oV 189 188,oG 189 true (oM 190 (.call 17 [])),oM 191 (.pick (.t 189) (.t 190) (.c (.bool false))),oV
 6 191] .ret)))))))))))))
theorem ok9:FnOk Try.prog 9 192 10 c9 [.t 6]:=⟨_,_,Try.func9,rfl,rfl,by kernel_rfl,by kernel_rfl⟩
theorem bd9:bodied Try.prog 9=true:=by kernel_rfl
def c10:CI:=(oR [oM 2 (.box 0 true (.t 0)),oM 4 (.mv (.c (.bool false)))] (.seq (oR [oW 17 3 2,oM 18 (.call 14 [(.t 17)]),oV 19
 18,oG 19 false (oW 20 3 2),oG 19 false (oM 21 (.call 15 [(.t 20)])),oG 19 false (oM 22 (.bin .neq (.t 21) (oK 0))),oM 23 (.pick (.t 19) (.c (.bool
 true)) (.t 22)),oV 24 23,oG 24 false (oV 25 1),oG 24 false (oM 26 (.bin .lss (.t 25) (oK 0))),oM 27 (.pick (.t 24) (.c (.bool true)) (.t 26)),oV 28
 27,oG 28 false (oV 29 1),oG 28 false (oF 30 0 2),oG 28 false (oL 31 30),oG 28 false (oM 32 (.bin .geq (.t 29) (.t 31))),oM 33 (.pick (.t 28) (.c (.bool
 true)) (.t 32))] (.cond (.t 33) (oR [oM 34 (.call 17 []),oV 4 34] .ret) .skip)) (oR [oW 36 3 2,oM 37 (.callw 1 1 20 [(.t 36)]),oV
 35 37,oX 38 0 35,oX 39 1 35,oV 5 38,oV 6 39] (.seq (oR [oV 40 6,oM 41 (.bin .neq (.t 40) (oK 0))] (.cond (.t 41) (oR [oV 42 6,oM
 43 (.bin .eql (.t 42) (oK 3)),oV 44 43,oG 44 true (oM 45 (.call 17 [])),oM 46 (.pick (.t 44) (.t 45) (.c (.bool false))),oV 4 46] .ret) .skip)) (oR [oF 47 0 2,oL 48 47,oF 49 2 2,oL 50 49,oV 51 5,oN 52 51,oM 53 (.bin .sub (.t 50) (.t 52)),oM 54 (.build [(.int .i64 0), .nils,(.int .i64
 0)] [(0,1,(.t 48)),(2,1,(.t 53))]),oM 7 (.alloc 2 [(.int .i64 0), .nils,(.int .i64 0)]),oS (.stz true 3 (.t 7) (.t 54) [])] (.seq (oR [oM 8 (.mv (oK 0))] (.block 0 (.loop (.seq (oR [oV 55 8,oF 56 1 2,oL 57 56,oN 58 57,oM 59 (.bin .lss (.t 55) (.t 58))] (.cond (.t 59) .skip
 (.exit 0))) (.seq (.block 1 (oR [oV 62 5,oV 63 8,oM 64 (.call 22 [(.t 62),(.t 63)]),oM 65 (.un .not (.t 64))] (.cond (.t 65) (.reg [oF 66
 1 7,oL 67 66,oF 68 1 2,oL 69 68,oV 70 8,oI 71 4 69 70,oW 72 4 71,oM 73 (.bsl 3 39 4 [(.t 72)] []),oM 74 (.apd 4 39 4 48 (.t 67) (.t 73) []),oF
 75 1 7,oS (.stz false 1 (.t 75) (.t 74) [])]) .skip))) (.reg [oV 60 8,oM 61 (.bin .add (.t 60) (oK 1)),oV 8 61])))))) (.seq (oR [oW 76 3 7,
 oM 77 (.call 15 [(.t 76)]),oM 78 (.bin .neq (.t 77) (oK 0))] (.cond (.t 78) (oR [oM 4 (.mv (.c (.bool false)))] .ret) .skip)) (oR [oW
 80 3 2,oM 81 (.call 18 [(.t 80)]),oV 79 81,oX 82 0 79,oX 83 1 79,oV 9 82,oV 10 83] (oR [oW 85 3 7,oM 86 (.call 18 [(.t 85)]),oV 84 86,
 oX 87 0 84,oX 88 1 84,oV 11 87,oV 12 88] (oR [oW 90 3 2,oV 91 1,oM 92 (.callw 5 1 21 [(.t 90),(.t 91)]),oV 89 92,oX 93 0 89,oX 94 1 89,
 oV 13 93,oV 14 94] (oR [oW 96 3 7,oV 97 1,oM 98 (.callw 6 1 21 [(.t 96),(.t 97)]),oV 95 98,oX 99 0 95,oX 100 1 95,oV 15 99,oV 16 100]
 (oR [oV 101 10,oM 102 (.bin .eql (.t 101) (oK 0)),oV 103 102,oG 103 true (oV 104 12),oG 103 true (oM 105 (.bin .eql (.t 104) (oK 0))),oM 106
 (.pick (.t 103) (.t 105) (.c (.bool false))),oV 107 106,oG 107 true (oV 108 14),oG 107 true (oM 109 (.bin .eql (.t 108) (oK 0))),oM 110 (.pick (.t
 107) (.t 109) (.c (.bool false))),oV 111 110,oG 111 true (oV 112 16),oG 111 true (oM 113 (.bin .eql (.t 112) (oK 0))),oM 114 (.pick (.t 111) (.t 113)
 (.c (.bool false))),oV 115 114,oG 115 true (oV 116 9),oG 115 true (oV 117 11),oG 115 true (oM 118 (.bin .eql (.t 116) (.t 117))),oM 119 (.pick (.t
 115) (.t 118) (.c (.bool false))),oV 120 119,oG 120 true (oV 121 13),oG 120 true (oV 122 15),oG 120 true (oM 123 (.call 37 [(.t 121),(.t 122)])),
 oM 124 (.pick (.t 120) (.t 123) (.c (.bool false))),oV 125 124,oG 125 true (oM 126 (.call 17 [])),oM 127 (.pick (.t 125) (.t 126) (.c (.bool false))),
 oV 4 127] .ret))))))))))))
theorem ok10:FnOk Try.prog 10 128 7 c10 [.t 4]:=⟨_,_,Try.func10,rfl,rfl,by kernel_rfl,by kernel_rfl⟩
theorem bd10:bodied Try.prog 10=true:=by kernel_rfl
def c14:CI:=(oR [oM 1 (.box 0 true (.t 0)),oM 2 (.mv (.c (.bool false)))] (.seq (oR [oF 4 1 1,oL 5 4,oN 6 5,oM 7 (.bin .gtr (.t
 6) (oK 60))] (.cond (.t 7) (oR [oM 2 (.mv (.c (.bool true)))] .ret) .skip)) (.seq (oR [oM 3 (.mv (oK 0))] (.block 0 (.loop (.seq (oR [oV 8 3,oF 9 1 1,oL 10 9,oN 11 10,oM 12 (.bin .lss (.t 8) (.t 11))] (.cond (.t 12) .skip (.exit 0))) (.seq (.block 1 (oR [oF 15 1 1,
 oL 16 15,oV 17 3,oI 18 4 16 17,oF 19 3 18,oL 20 19,oN 21 20,oM 22 (.bin .gtr (.t 21) (oK 60))] (.cond (.t 22) (oR [oM 2 (.mv (.c (.bool
 true)))] .ret) .skip))) (.reg [oV 13 3,oM 14 (.bin .add (.t 13) (oK 1)),oV 3 14])))))) (oR [oW 23 3 1,oM 24 (.call 15 [(.t 23)]),oM 25 (.bin
 .eql (.t 24) (oK 0)),oV 26 25,oG 26 true (oF 27 0 1),oG 26 true (oL 28 27),oG 26 true (oM 29 (.bin .gtr (.t 28) (oK 6))),oM 30 (.pick (.t 26) (.t
 29) (.c (.bool false))),oV 2 30] .ret))))
theorem ok14:FnOk Try.prog 14 31 1 c14 [.t 2]:=⟨_,_,Try.func14,rfl,rfl,by kernel_rfl,by kernel_rfl⟩
theorem bd14:bodied Try.prog 14=true:=by kernel_rfl
def c15:CI:=(oR [oM 1 (.box 0 true (.t 0)),oM 2 (.mv (oK 0))] (.seq (oR [oF 4 0 1,oL 5 4,oM 6 (.bin .lss (.t 5) (oK 0)),oV 7 6,
 oG 7 false (oF 8 0 1),oG 7 false (oL 9 8),oG 7 false (oM 10 (.bin .gtr (.t 9) (oK 7))),oM 11 (.pick (.t 7) (.c (.bool true)) (.t 10)),oV 12 11,oG
 12 false (oF 13 2 1),oG 12 false (oL 14 13),oG 12 false (oM 15 (.bin .lss (.t 14) (oK 0))),oM 16 (.pick (.t 12) (.c (.bool true)) (.t 15)),oV 17 16,
 oG 17 false (oF 18 2 1),oG 17 false (oL 19 18),oG 17 false (oM 20 (.bin .gtr (.t 19) (oK 7))),oM 21 (.pick (.t 17) (.c (.bool true)) (.t 20))] (.cond
 (.t 21) (oR [oM 2 (.mv (oK 100))] .ret) .skip)) (.seq (oR [oF 22 1 1,oL 23 22,oN 24 23,oM 25 (.bin .gtr (.t 24) (oK 20))] (.cond (.t
 25) (oR [oM 2 (.mv (oK 101))] .ret) .skip)) (.seq (oR [oM 3 (.mv (oK 0))] (.block 0 (.loop (.seq (oR [oV 26 3,oF 27 1 1,oL
 28 27,oN 29 28,oM 30 (.bin .lss (.t 26) (.t 29))] (.cond (.t 30) .skip (.exit 0))) (.seq (.block 1 (oR [oW 33 3 1,oF 34 1 1,oL 35 34,oV 36
 3,oI 37 4 35 36,oW 38 4 37,oM 39 (.call 49 [(.t 33),(.t 38)]),oM 40 (.un .not (.t 39))] (.cond (.t 40) (oR [oM 2 (.mv (oK 101))] .ret) .skip)))
 (.reg [oV 31 3,oM 32 (.bin .add (.t 31) (oK 1)),oV 3 32])))))) (oR [oM 2 (.mv (oK 0))] .ret)))))
theorem ok15:FnOk Try.prog 15 41 1 c15 [.t 2]:=⟨_,_,Try.func15,rfl,rfl,by kernel_rfl,by kernel_rfl⟩
theorem bd15:bodied Try.prog 15=true:=by kernel_rfl
def c16:CI:=(oR [oM 2 (.box 0 true (.t 0)),oM 4 (.mv (.c (.bool false)))] (.seq (oR [oV 7 1,oN 8 7,oF 9 0 2,oL 10 9,oM 11 (.bin
 .neq (.t 8) (.t 10)),oV 12 11,oG 12 false (oV 13 1),oG 12 false (oM 14 (.call 28 [(.t 13)])),oG 12 false (oM 15 (.un .not (.t 14))),oM 16 (.pick (.t
 12) (.c (.bool true)) (.t 15))] (.cond (.t 16) (oR [oM 4 (.mv (.c (.bool false)))] .ret) .skip)) (oR [oM 5 (.mv (oK 0))] (.seq (oR [oM 6 (.mv (oK 0))] (.block 0 (.loop (.seq (oR [oV 17 6,oF 18 1 2,oL 19 18,oN 20 19,oM 21 (.bin .lss (.t 17) (.t 20))] (.cond (.t 21)
 .skip (.exit 0))) (.seq (.block 1 (oR [oF 24 1 2,oL 25 24,oV 26 6,oI 27 4 25 26,oW 28 4 27,oV 29 1,oM 30 (.call 23 [(.t 28),(.t 29)]),oM
 31 (.un .not (.t 30))] (.cond (.t 31) (.reg [oV 32 5,oM 33 (.bin .add (.t 32) (oK 1)),oV 5 33]) .skip))) (.reg [oV 22 6,oM 23 (.bin .add (.t 22) (oK
 1)),oV 6 23])))))) (oR [oV 34 5,oF 35 2 2,oL 36 35,oM 37 (.bin .leq (.t 34) (.t 36)),oV 4 37] .ret)))))
theorem ok16:FnOk Try.prog 16 38 1 c16 [.t 4]:=⟨_,_,Try.func16,rfl,rfl,by kernel_rfl,by kernel_rfl⟩
theorem bd16:bodied Try.prog 16=true:=by kernel_rfl
def c17:CI:=(oR [oM 0 (.mv (.c (.bool false)))] (oR [oM 13 (.callw 0 1 50 []),oM 1 (.alloc 1 [(.int .i64 0), .nils,(.int .i64 0)]),
 oS (.stz true 3 (.t 1) (.t 13) [])] (oR [oW 15 3 1,oM 16 (.call 18 [(.t 15)]),oV 14 16,oX 17 0 14,oX 18 1 14,oV 2 17,oV 3 18] (oR [oW 20 3 1,oM 21 (.callw 2 1 19 [(.t 20)]),oV 19 21,oX 22 0 19,oX 23 1 19,oV 4 22,oV 5 23] (oR [oW 25 3 1,oM 26 (.call 26 [(.t 25)]),oV
 24 26,oX 27 0 24,oX 28 1 24,oV 6 27,oV 7 28] (oR [oM 30 (.bsl 3 3 1 [(oK 1),(oK 2),(oK 0),(oK 3)] []),oM 31 (.call 29 [(.t 30)]),oV 29
 31,oX 32 0 29,oX 33 1 29,oV 8 32,oV 9 33] (oR [oM 35 (.bsl 4 3 1 [(oK 1),(oK 2),(oK 0),(oK 3)] []),oM 36 (.callw 5 2 34 [(.t 35)]),oV
 34 36,oX 37 0 34,oX 38 1 34,oX 39 2 34,oV 10 37,oV 11 38,oV 12 39] (oR [oV 40 3,oM 41 (.bin .eql (.t 40) (oK 0)),oV 42 41,oG 42 true
 (oV 43 5),oG 42 true (oM 44 (.bin .eql (.t 43) (oK 0))),oM 45 (.pick (.t 42) (.t 44) (.c (.bool false))),oV 46 45,oG 46 true (oV 47 7),oG 46 true
 (oM 48 (.bin .eql (.t 47) (oK 0))),oM 49 (.pick (.t 46) (.t 48) (.c (.bool false))),oV 50 49,oG 50 true (oV 51 9),oG 50 true (oM 52 (.bin .eql (.t
 51) (oK 0))),oM 53 (.pick (.t 50) (.t 52) (.c (.bool false))),oV 54 53,oG 54 true (oV 55 12),oG 54 true (oM 56 (.bin .eql (.t 55) (oK 0))),oM 57 (.pick
 (.t 54) (.t 56) (.c (.bool false))),oV 58 57,oG 58 true (oV 59 2),oG 58 true (oM 60 (.bin .eql (.t 59) (oK 2))),oM 61 (.pick (.t 58) (.t 60) (.c (.bool
 false))),oV 62 61,oG 62 true (oV 63 4),oG 62 true (oM 64 (.bsl 7 3 1 [(oK (-1)),(oK (-1)),(oK (-1)),(oK 0)] [])),oG 62 true (oM 65 (.call 37 [(.t
 63),(.t 64)])),oM 66 (.pick (.t 62) (.t 65) (.c (.bool false))),oV 67 66,oG 67 true (oV 68 6),oG 67 true (oM 69 (.bin .eql (.t 68) (oK 1))),oM 70
 (.pick (.t 67) (.t 69) (.c (.bool false))),oV 71 70,oG 71 true (oV 72 8),oG 71 true (oM 73 (.bin .eql (.t 72) (oK 2))),oM 74 (.pick (.t 71) (.t 73)
 (.c (.bool false))),oV 75 74,oG 75 true (oV 76 10),oG 75 true (oN 77 76),oG 75 true (oV 78 11),oG 75 true (oN 79 78),oG 75 true (oM 80 (.bin .add
 (.t 77) (.t 79))),oG 75 true (oM 81 (.bin .gtr (.t 80) (oK 0))),oM 82 (.pick (.t 75) (.t 81) (.c (.bool false))),oV 0 82] .ret))))))))
theorem ok17:FnOk Try.prog 17 83 8 c17 [.t 0]:=⟨_,_,Try.func17,rfl,rfl,by kernel_rfl,by kernel_rfl⟩
theorem bd17:bodied Try.prog 17=true:=by kernel_rfl
def c18:CI:=(oR [oM 1 (.box 0 true (.t 0)),oM 2 (.mv (oK 0)),oM 3 (.mv (oK 0))] (.seq (oR [oW 5 3 1,oM 6 (.call 38 [(.t 5)]),oV
 4 6] (oR [oV 7 4,oM 8 (.bin .neq (.t 7) (oK 0))] (.cond (.t 8) (oR [oV 9 4,oM 2 (.mv (oK 0)),oV 3 9] .ret) .skip))) (oR [oW
 10 3 1,oM 11 (.callw 1 1 51 [(.t 10)]),oN 12 11,oV 2 12,oM 3 (.mv (oK 0))] .ret)))
theorem ok18:FnOk Try.prog 18 13 2 c18 [.t 2, .t 3]:=⟨_,_,Try.func18,rfl,rfl,by kernel_rfl,by kernel_rfl⟩
theorem bd18:bodied Try.prog 18=true:=by kernel_rfl
def c19:CI:=(oR [oM 1 (.box 0 true (.t 0)),oM 2 (.mv oZ),oM 3 (.mv (oK 0))] (oR [oW 9 3 1,oM 10 (.callw 1 1 52 [(.t 9),(.c (.bool
 true))]),oV 8 10,oX 11 0 8,oX 12 1 8,oV 4 11,oV 5 12] (.seq (oR [oV 13 5,oM 14 (.bin .neq (.t 13) (oK 0))] (.cond (.t 14) (oR [oV
 15 5,oM 2 (.mv oZ),oV 3 15] .ret) .skip)) (oR [oV 16 4,oM 17 (.iaddr 1 (.t 16) (oK 0)),oL 18 17,oM 19 (.callw 2 1 53 [(.t 18)]),oV 6 19]
 (.seq (oR [oF 20 0 1,oL 21 20,oM 22 (.mv (oK 0))] (.block 0 (.loop (oR [oM 23 (.bin .lss (.t 22) (.t 21))] (.seq (.cond (.t 23) .skip
 (.exit 0)) (.seq (.block 1 (oR [oV 24 22,oV 7 24] (oR [oV 25 4,oV 26 7,oM 27 (.callw 3 0 54 [(.t 25),(.t 26)]),oM 28 (.mlen (.t 27)),
 oM 29 (.bin .gtr (.t 28) (oK 1))] (.cond (.t 29) (.reg [oV 30 6,oV 31 7,oI 32 1 30 31,oS (.store false 1 (.t 32) (oK (-1)) [])]) .skip)))) (.reg [oM
 33 (.bin .add (.t 22) (oK 1)),oV 22 33]))))))) (oR [oV 34 6,oV 2 34,oM 3 (.mv (oK 0))] .ret))))))
theorem ok19:FnOk Try.prog 19 35 3 c19 [.t 2, .t 3]:=⟨_,_,Try.func19,rfl,rfl,by kernel_rfl,by kernel_rfl⟩
theorem bd19:bodied Try.prog 19=true:=by kernel_rfl
def c20:CI:=(oR [oM 1 (.box 0 true (.t 0)),oM 2 (.mv oZ),oM 3 (.mv (oK 0))] (oR [oW 10 3 1,oM 11 (.callw 1 1 52 [(.t 10),(.c (.bool
 true))]),oV 9 11,oX 12 0 9,oX 13 1 9,oV 4 12,oV 5 13] (.seq (oR [oV 14 5,oM 15 (.bin .neq (.t 14) (oK 0))] (.cond (.t 15) (oR [oV
 16 5,oM 2 (.mv oZ),oV 3 16] .ret) .skip)) (oR [oM 6 (.mv oZ)] (.seq (oR [oF 17 1 1,oL 18 17,oN 19 18,oM 20 (.mv (oK 0))] (.block
 0 (.loop (oR [oM 21 (.bin .lss (.t 20) (.t 19))] (.seq (.cond (.t 21) .skip (.exit 0)) (.seq (.block 1 (oR [oV 22 20,oI 23 4 18 20,oW
 24 4 23,oM 8 (.alloc 2 [(.int .i64 0),(.int .i64 0),(.int .i64 0), .nils]),oV 7 22,oS (.stz true 4 (.t 8) (.t 24) [])] (oR [oV 25 4,oW 26
 4 8,oM 27 (.callw 3 0 56 [(.t 26)]),oM 28 (.call 55 [(.t 25),(.t 27)]),oM 29 (.un .not (.t 28))] (.cond (.t 29) (.reg [oV 30 6,oV 31 7,oM 32 (.bsl
 3 3 1 [(.t 31)] []),oM 33 (.apd 4 3 1 8 (.t 30) (.t 32) []),oV 6 33]) .skip)))) (.reg [oM 34 (.bin .add (.t 20) (oK 1)),oV 20 34]))))))) (oR [oV 35 6,oV 2 35,oM 3 (.mv (oK 0))] .ret))))))
theorem ok20:FnOk Try.prog 20 36 5 c20 [.t 2, .t 3]:=⟨_,_,Try.func20,rfl,rfl,by kernel_rfl,by kernel_rfl⟩
theorem bd20:bodied Try.prog 20=true:=by kernel_rfl
def c21:CI:=(oR [oM 2 (.box 0 true (.t 0)),oM 4 (.mv oZ),oM 5 (.mv (oK 0))] (oR [oW 9 3 2,oW 10 3 2,oV 11 1,oM 12 (.call 57 [(.t
 10),(.t 11)]),oM 13 (.callz 1 1 52 [(.t 9),(.t 12)] []),oV 8 13,oX 14 0 8,oX 15 1 8,oV 6 14,oV 7 15] (.seq (oR [oV 16 7,oM 17 (.bin .neq
 (.t 16) (oK 0))] (.cond (.t 17) (oR [oV 18 7,oM 4 (.mv oZ),oV 5 18] .ret) .skip)) (oR [oV 19 6,oV 20 1,oM 21 (.callw 2 0 54 [(.t
 19),(.t 20)]),oM 22 (.callw 2 0 59 [(.t 21)]),oM 23 (.callw 2 1 58 [(.t 22)]),oV 4 23,oM 5 (.mv (oK 0))] .ret))))
theorem ok21:FnOk Try.prog 21 24 3 c21 [.t 4, .t 5]:=⟨_,_,Try.func21,rfl,rfl,by kernel_rfl,by kernel_rfl⟩
theorem bd21:bodied Try.prog 21=true:=by kernel_rfl
def c22:CI:=(oR [oM 4 (.mv (.c (.bool false)))] (.seq (oR [oM 5 (.mv (oK 0))] (.block 0 (.loop (.seq (oR [oV 6 5,oV 7 0,
 oN 8 7,oM 9 (.bin .lss (.t 6) (.t 8))] (.cond (.t 9) .skip (.exit 0))) (.seq (.block 1 (oR [oV 12 0,oV 13 5,oI 14 1 12 13,oL 15 14,oV 16
 1,oM 17 (.bin .eql (.t 15) (.t 16))] (.cond (.t 17) (oR [oM 4 (.mv (.c (.bool true)))] .ret) .skip))) (.reg [oV 10 5,oM 11 (.bin .add (.t 10)
 (oK 1)),oV 5 11])))))) (oR [oM 4 (.mv (.c (.bool false)))] .ret)))
theorem ok22:FnOk Try.prog 22 18 0 c22 [.t 4]:=⟨_,_,Try.func22,rfl,rfl,by kernel_rfl,by kernel_rfl⟩
theorem bd22:bodied Try.prog 22=true:=by kernel_rfl
def c23:CI:=(oR [oM 2 (.box 0 true (.t 0)),oM 4 (.mv (.c (.bool false)))] (.seq (oR [oF 5 0 2,oL 6 5] (.block 0 (oR [oM
 8 (.bin .eql (.t 6) (oK 1)),oV 7 8] (.cond (.t 7) (oR [oF 9 3 2,oL 10 9,oV 11 1,oF 12 1 2,oL 13 12,oI 14 1 11 13,oL 15 14,oM 16 (.call
 60 [(.t 10),(.t 15)]),oV 4 16] .ret) (oR [oM 18 (.bin .eql (.t 6) (oK 2)),oV 17 18] (.cond (.t 17) (oR [oF 19 3 2,oL 20 19,oV 21
 1,oF 22 1 2,oL 23 22,oI 24 1 21 23,oL 25 24,oM 26 (.call 60 [(.t 20),(.t 25)]),oM 27 (.un .not (.t 26)),oV 4 27] .ret) (oR [oM 29 (.bin
 .eql (.t 6) (oK 3)),oV 28 29] (.cond (.t 28) (oR [oV 30 1,oF 31 1 2,oL 32 31,oI 33 1 30 32,oL 34 33,oF 35 2 2,oL 36 35,oM 37 (.bin .eql
 (.t 34) (.t 36)),oV 38 37,oG 38 true (oV 39 1),oG 38 true (oF 40 2 2),oG 38 true (oL 41 40),oG 38 true (oI 42 1 39 41),oG 38 true (oL 43 42),oG
 38 true (oF 44 1 2),oG 38 true (oL 45 44),oG 38 true (oM 46 (.bin .eql (.t 43) (.t 45))),oM 47 (.pick (.t 38) (.t 46) (.c (.bool false))),oV 4 47]
 .ret) .skip)))))))) (oR [oV 48 1,oF 49 1 2,oL 50 49,oI 51 1 48 50,oL 52 51,oF 53 1 2,oL 54 53,oM 55 (.bin .eql (.t 52) (.t 54)),oV 56 55,
 oG 56 false (oV 57 1),oG 56 false (oF 58 2 2),oG 56 false (oL 59 58),oG 56 false (oI 60 1 57 59),oG 56 false (oL 61 60),oG 56 false (oF 62 2 2),oG
 56 false (oL 63 62),oG 56 false (oM 64 (.bin .eql (.t 61) (.t 63))),oM 65 (.pick (.t 56) (.c (.bool true)) (.t 64)),oV 4 65] .ret)))
theorem ok23:FnOk Try.prog 23 66 1 c23 [.t 4]:=⟨_,_,Try.func23,rfl,rfl,by kernel_rfl,by kernel_rfl⟩
theorem bd23:bodied Try.prog 23=true:=by kernel_rfl
def c24:CI:=(oR [oM 1 (.box 0 true (.t 0)),oM 2 (.alloc 1 [(.int .i64 0), .nils,(.int .i64 0)])] (oR [oW 5 3 1,oM 3 (.alloc 2 [(.int
 .i64 0), .nils,(.int .i64 0)]),oS (.stz true 3 (.t 3) (.t 5) [])] (oR [oM 6 (.bsl 3 39 4 [] []),oF 7 1 1,oL 8 7,oM 9 (.apd 4 39 4 48 (.t
 6) (.t 8) []),oF 10 1 3,oS (.stz false 1 (.t 10) (.t 9) [])] (.seq (oR [oM 4 (.mv (oK 0))] (.block 0 (.loop (.seq (oR [oV 11 4,oF
 12 1 3,oL 13 12,oN 14 13,oM 15 (.bin .lss (.t 11) (.t 14))] (.cond (.t 15) .skip (.exit 0))) (.seq (.block 1 (.reg [oF 18 1 3,oL 19 18,oV 20 4,oF
 22 1 1,oL 23 22,oV 24 4,oI 25 4 23 24,oF 26 3 25,oL 27 26,oM 21 (.bsl 5 3 1 [] []),oM 28 (.apd 6 3 1 8 (.t 21) (.t 27) [(.t 18)]),oI 29 4 19 20,
 oF 30 3 29,oS (.stz false 1 (.t 30) (.t 28) [])])) (.reg [oV 16 4,oM 17 (.bin .add (.t 16) (oK 1)),oV 4 17])))))) (oR [oW 31 3 3,oS (.stz true
 3 (.t 2) (.t 31) [])] .ret)))))
theorem ok24:FnOk Try.prog 24 32 7 c24 [.cell 2 true 3]:=⟨_,_,Try.func24,rfl,rfl,by kernel_rfl,by kernel_rfl⟩
theorem bd24:bodied Try.prog 24=true:=by kernel_rfl
def c25:CI:=(oR [oM 1 (.box 0 true (.t 0)),oM 2 (.mv (.c (.bool false)))] (oR [oW 3 3 1,oM 4 (.call 44 [(.t 3)]),oM 5 (.un .not
 (.t 4)),oV 6 5,oG 6 true (oW 7 3 1),oG 6 true (oM 8 (.call 15 [(.t 7)])),oG 6 true (oM 9 (.bin .eql (.t 8) (oK 0))),oM 10 (.pick (.t 6) (.t 9) (.c
 (.bool false))),oV 2 10] .ret))
theorem ok25:FnOk Try.prog 25 11 1 c25 [.t 2]:=⟨_,_,Try.func25,rfl,rfl,by kernel_rfl,by kernel_rfl⟩
theorem bd25:bodied Try.prog 25=true:=by kernel_rfl
def c26:CI:=(oR [oM 1 (.box 0 true (.t 0)),oM 2 (.mv (oK 0)),oM 3 (.mv (oK 0))] (oR [oW 7 3 1,oM 8 (.callw 1 1 52 [(.t 7),(.c
 (.bool true))]),oV 6 8,oX 9 0 6,oX 10 1 6,oV 4 9,oV 5 10] (.seq (oR [oV 11 5,oM 12 (.bin .neq (.t 11) (oK 0))] (.cond (.t 12) (oR [oV 13 5,oM 2 (.mv (oK 0)),oV 3 13] .ret) .skip)) (oR [oF 14 0 1,oL 15 14,oM 16 (.callw 2 2 61 [(.t 15)]),oV 17 4,oM 18 (.callw 4 0 62 [(.t
 16),(.t 17)]),oV 2 18,oM 3 (.mv (oK 0))] .ret))))
theorem ok26:FnOk Try.prog 26 19 4 c26 [.t 2, .t 3]:=⟨_,_,Try.func26,rfl,rfl,by kernel_rfl,by kernel_rfl⟩
theorem bd26:bodied Try.prog 26=true:=by kernel_rfl
def c27:CI:=(oR [oM 1 (.box 0 true (.t 0)),oM 2 (.mv (oK 0)),oM 3 (.mv (oK 0))] (oR [oW 8 3 1,oM 9 (.callw 1 1 52 [(.t 8),(.c
 (.bool true))]),oV 7 9,oX 10 0 7,oX 11 1 7,oV 4 10,oV 5 11] (.seq (oR [oV 12 5,oM 13 (.bin .neq (.t 12) (oK 0))] (.cond (.t 13) (oR [oV 14 5,oM 2 (.mv (oK 0)),oV 3 14] .ret) .skip)) (oR [oF 15 0 1,oL 16 15,oM 17 (.callw 2 2 61 [(.t 16)]),oV 6 17] (oR [oV 18 6,
 oV 19 4,oV 20 6,oV 21 4,oM 22 (.callw 4 0 62 [(.t 20),(.t 21)]),oM 23 (.callw 4 0 63 [(.t 18),(.t 19),(.t 22),oZ]),oV 2 23,oM 3 (.mv (oK 0))]
 .ret)))))
theorem ok27:FnOk Try.prog 27 24 4 c27 [.t 2, .t 3]:=⟨_,_,Try.func27,rfl,rfl,by kernel_rfl,by kernel_rfl⟩
theorem bd27:bodied Try.prog 27=true:=by kernel_rfl
def c28:CI:=(oR [oM 2 (.mv (.c (.bool false)))] (.seq (oR [oM 3 (.mv (oK 0))] (.block 0 (.loop (.seq (oR [oV 4 3,oV 5 0,
 oN 6 5,oM 7 (.bin .lss (.t 4) (.t 6))] (.cond (.t 7) .skip (.exit 0))) (.seq (.block 1 (oR [oV 10 0,oV 11 3,oI 12 1 10 11,oL 13 12,oM 14
 (.bin .lss (.t 13) (oK 0)),oV 15 14,oG 15 false (oV 16 0),oG 15 false (oV 17 3),oG 15 false (oI 18 1 16 17),oG 15 false (oL 19 18),oG 15 false (oV
 20 0),oG 15 false (oN 21 20),oG 15 false (oM 22 (.bin .geq (.t 19) (.t 21))),oM 23 (.pick (.t 15) (.c (.bool true)) (.t 22)),oV 24 23,oG 24 false
 (oV 25 0),oG 24 false (oV 26 3),oG 24 false (oM 27 (.sli 1 (.t 25) none (some (.t 26)))),oG 24 false (oV 28 0),oG 24 false (oV 29 3),oG 24 false (oI
 30 1 28 29),oG 24 false (oL 31 30),oG 24 false (oM 32 (.call 60 [(.t 27),(.t 31)])),oM 33 (.pick (.t 24) (.c (.bool true)) (.t 32))] (.cond (.t 33)
 (oR [oM 2 (.mv (.c (.bool false)))] .ret) .skip))) (.reg [oV 8 3,oM 9 (.bin .add (.t 8) (oK 1)),oV 3 9])))))) (oR [oV 34 0,oN 35 34,
 oM 36 (.bin .leq (.t 35) (oK 7)),oV 2 36] .ret)))
theorem ok28:FnOk Try.prog 28 37 0 c28 [.t 2]:=⟨_,_,Try.func28,rfl,rfl,by kernel_rfl,by kernel_rfl⟩
theorem bd28:bodied Try.prog 28=true:=by kernel_rfl
def c29:CI:=(oR [oM 2 (.mv (oK 0)),oM 3 (.mv (oK 0))] (oR [oV 7 0,oM 8 (.callw 0 1 48 [(.t 7)]),oV 6 8,oX 9 0 6,oX 10 1 6,oV
 4 9,oV 5 10] (oR [oV 11 4,oN 12 11,oV 13 5,oV 2 12,oV 3 13] .ret)))
theorem ok29:FnOk Try.prog 29 14 1 c29 [.t 2, .t 3]:=⟨_,_,Try.func29,rfl,rfl,by kernel_rfl,by kernel_rfl⟩
theorem bd29:bodied Try.prog 29=true:=by kernel_rfl
def c34:CI:=(oR [oM 2 (.mv oZ),oM 3 (.mv oZ),oM 4 (.mv (oK 0))] (.seq (oR [oV 7 0,oM 8 (.call 65 [(.t 7)]),oM 9 (.un .not (.t
 8))] (.cond (.t 9) (oR [oM 2 (.mv oZ),oM 3 (.mv oZ),oM 4 (.mv (oK 1))] .ret) .skip)) (.seq (oR [oV 10 0,oM 11 (.callw 0 1 66 [(.t
 10)]),oN 12 11,oM 13 (.mv (oK 0))] (.block 0 (.loop (oR [oM 14 (.bin .lss (.t 13) (.t 12))] (.seq (.cond (.t 14) .skip (.exit 0)) (.seq (.block
 1 (oR [oI 15 1 11 13,oL 16 15,oV 6 16] (oR [oV 17 2,oV 18 6,oM 19 (.callw 1 1 67 [(.t 18),(oK 1)]),oM 20 (.apd 2 25 1 24 (.t 17)
 (.t 19) []),oV 2 20] (.reg [oV 21 3,oV 22 6,oM 23 (.callw 3 1 67 [(.t 22),(oK 2)]),oM 24 (.apd 4 25 1 24 (.t 21) (.t 23) []),oV 3 24])))) (.reg
 [oM 25 (.bin .add (.t 13) (oK 1)),oV 13 25]))))))) (oR [oV 26 2,oV 27 3,oV 2 26,oV 3 27,oM 4 (.mv (oK 0))] .ret))))
theorem ok34:FnOk Try.prog 34 28 5 c34 [.t 2, .t 3, .t 4]:=⟨_,_,Try.func34,rfl,rfl,by kernel_rfl,by kernel_rfl⟩
theorem bd34:bodied Try.prog 34=true:=by kernel_rfl
def c36:CI:=(oR [oM 4 (.mv oZ)] (oR [oM 5 (.mv oZ)] (.seq (oR [oM 6 (.mv (oK 0))] (.block 0 (.loop (.seq (oR [oV
 8 6,oV 9 1,oN 10 9,oM 11 (.bin .lss (.t 8) (.t 10))] (.cond (.t 11) .skip (.exit 0))) (.seq (.block 1 (oR [oM 7 (.mv (oK 0))] (.block 2 (.loop
 (.seq (oR [oV 14 7,oV 15 0,oN 16 15,oM 17 (.bin .lss (.t 14) (.t 16))] (.cond (.t 17) .skip (.exit 2))) (.seq (.block 3 (oR [oV 20
 1,oV 21 0,oV 22 7,oI 23 1 21 22,oL 24 23,oI 25 1 20 24,oL 26 25,oV 27 6,oM 28 (.bin .eql (.t 26) (.t 27))] (.cond (.t 28) (.reg [oV 29 5,oV 30
 6,oM 31 (.bsl 0 3 1 [(.t 30)] []),oM 32 (.apd 1 3 1 8 (.t 29) (.t 31) []),oV 5 32]) .skip))) (.reg [oV 18 7,oM 19 (.bin .add (.t 18) (oK 1)),oV 7
 19]))))))) (.reg [oV 12 6,oM 13 (.bin .add (.t 12) (oK 1)),oV 6 13])))))) (oR [oV 33 5,oV 4 33] .ret))))
theorem ok36:FnOk Try.prog 36 34 2 c36 [.t 4]:=⟨_,_,Try.func36,rfl,rfl,by kernel_rfl,by kernel_rfl⟩
theorem bd36:bodied Try.prog 36=true:=by kernel_rfl
def c37:CI:=(oR [oM 4 (.mv (.c (.bool false)))] (.seq (oR [oV 6 0,oN 7 6,oV 8 1,oN 9 8,oM 10 (.bin .neq (.t 7) (.t 9))] (.cond
 (.t 10) (oR [oM 4 (.mv (.c (.bool false)))] .ret) .skip)) (.seq (oR [oM 5 (.mv (oK 0))] (.block 0 (.loop (.seq (oR [oV 11 5,
 oV 12 0,oN 13 12,oM 14 (.bin .lss (.t 11) (.t 13))] (.cond (.t 14) .skip (.exit 0))) (.seq (.block 1 (oR [oV 17 0,oV 18 5,oI 19 1 17 18,oL
 20 19,oV 21 1,oV 22 5,oI 23 1 21 22,oL 24 23,oM 25 (.bin .neq (.t 20) (.t 24))] (.cond (.t 25) (oR [oM 4 (.mv (.c (.bool false)))] .ret)
 .skip))) (.reg [oV 15 5,oM 16 (.bin .add (.t 15) (oK 1)),oV 5 16])))))) (oR [oM 4 (.mv (.c (.bool true)))] .ret))))
theorem ok37:FnOk Try.prog 37 26 0 c37 [.t 4]:=⟨_,_,Try.func37,rfl,rfl,by kernel_rfl,by kernel_rfl⟩
theorem bd37:bodied Try.prog 37=true:=by kernel_rfl
def c38:CI:=(oR [oM 1 (.box 0 true (.t 0)),oM 2 (.mv (oK 0))] (.seq (oR [oW 3 3 1,oM 4 (.call 68 [(.t 3)]),oM 5 (.un .not (.t 4))]
 (.cond (.t 5) (oR [oM 2 (.mv (oK 100))] .ret) .skip)) (.seq (oR [oW 6 3 1,oM 7 (.call 69 [(.t 6)]),oM 8 (.un .not (.t 7))] (.cond (.t
 8) (oR [oM 2 (.mv (oK 101))] .ret) .skip)) (oR [oM 2 (.mv (oK 0))] .ret))))
theorem ok38:FnOk Try.prog 38 9 1 c38 [.t 2]:=⟨_,_,Try.func38,rfl,rfl,by kernel_rfl,by kernel_rfl⟩
theorem bd38:bodied Try.prog 38=true:=by kernel_rfl
def c44:CI:=(oR [oM 1 (.box 0 true (.t 0)),oM 2 (.mv (.c (.bool false)))] (oR [oW 3 3 1,oM 4 (.call 14 [(.t 3)]),oV 5 4,oG 5 false
 (oW 6 3 1),oG 5 false (oM 7 (.call 15 [(.t 6)])),oG 5 false (oM 8 (.bin .eql (.t 7) (oK 0))),oG 5 false (oV 9 8),oG 9 true (oF 10 0 1),oG 9 true (oL
 11 10),oG 9 true (oM 12 (.bin .gtr (.t 11) (oK 4))),oG 5 false (oM 13 (.pick (.t 9) (.t 12) (.c (.bool false)))),oM 14 (.pick (.t 5) (.c (.bool true))
 (.t 13)),oV 2 14] .ret))
theorem ok44:FnOk Try.prog 44 15 1 c44 [.t 2]:=⟨_,_,Try.func44,rfl,rfl,by kernel_rfl,by kernel_rfl⟩
theorem bd44:bodied Try.prog 44=true:=by kernel_rfl
def c48:CI:=(oR [oM 2 (.mv oZ),oM 3 (.mv (oK 0))] (.seq (oR [oV 7 0,oM 8 (.call 65 [(.t 7)]),oM 9 (.un .not (.t 8))] (.cond (.t
 9) (oR [oM 2 (.mv oZ),oM 3 (.mv (oK 1))] .ret) .skip)) (oR [oM 4 (.mv oZ)] (.seq (oR [oV 10 0,oM 11 (.callw 0 1 66 [(.t 10)]),
 oN 12 11,oM 13 (.mv (oK 0))] (.block 0 (.loop (oR [oM 14 (.bin .lss (.t 13) (.t 12))] (.seq (.cond (.t 14) .skip (.exit 0)) (.seq (.block 1
 (oR [oI 15 1 11 13,oL 16 15,oV 6 16] (.reg [oV 17 4,oV 18 6,oM 19 (.callw 1 1 77 [(.t 18)]),oM 20 (.apd 2 25 1 24 (.t 17) (.t 19) []),oV
 4 20]))) (.reg [oM 21 (.bin .add (.t 13) (oK 1)),oV 13 21]))))))) (oR [oV 22 4,oV 2 22,oM 3 (.mv (oK 0))] .ret)))))
theorem ok48:FnOk Try.prog 48 23 3 c48 [.t 2, .t 3]:=⟨_,_,Try.func48,rfl,rfl,by kernel_rfl,by kernel_rfl⟩
theorem bd48:bodied Try.prog 48=true:=by kernel_rfl
def c49:CI:=(oR [oM 2 (.box 0 true (.t 0)),oM 3 (.box 1 true (.t 1)),oM 4 (.mv (.c (.bool false)))] (.seq (oR [oW 6 3 2,oF 7 1
 3,oL 8 7,oM 9 (.call 74 [(.t 6),(.t 8)]),oM 10 (.un .not (.t 9)),oV 11 10,oG 11 false (oW 12 3 2),oG 11 false (oF 13 2 3),oG 11 false (oL 14 13),
 oG 11 false (oM 15 (.call 74 [(.t 12),(.t 14)])),oG 11 false (oM 16 (.un .not (.t 15))),oM 17 (.pick (.t 11) (.c (.bool true)) (.t 16))] (.cond (.t
 17) (oR [oM 4 (.mv (.c (.bool false)))] .ret) .skip)) (.seq (oR [oF 18 0 3,oL 19 18,oM 20 (.bin .eql (.t 19) (oK 3)),oV 21 20,oG 21
 false (oF 22 0 3),oG 21 false (oL 23 22),oG 21 false (oM 24 (.bin .eql (.t 23) (oK 4))),oM 25 (.pick (.t 21) (.c (.bool true)) (.t 24))] (.cond (.t
 25) (oR [oF 26 3 3,oL 27 26,oN 28 27,oM 29 (.bin .eql (.t 28) (oK 0)),oV 30 29,oG 30 true (oF 31 1 3),oG 30 true (oL 32 31),oG 30 true (oF
 33 2 3),oG 30 true (oL 34 33),oG 30 true (oM 35 (.bin .neq (.t 32) (.t 34))),oM 36 (.pick (.t 30) (.t 35) (.c (.bool false))),oV 4 36] .ret) .skip))
 (.seq (oR [oF 37 0 3,oL 38 37,oM 39 (.bin .neq (.t 38) (oK 1)),oV 40 39,oG 40 true (oF 41 0 3),oG 40 true (oL 42 41),oG 40 true (oM 43 (.bin
 .neq (.t 42) (oK 2))),oM 44 (.pick (.t 40) (.t 43) (.c (.bool false))),oV 45 44,oG 45 false (oF 46 3 3),oG 45 false (oL 47 46),oG 45 false (oN 48
 47),oG 45 false (oM 49 (.bin .eql (.t 48) (oK 0))),oM 50 (.pick (.t 45) (.c (.bool true)) (.t 49)),oV 51 50,oG 51 false (oF 52 2 3),oG 51 false (oL
 53 52),oG 51 false (oM 54 (.bin .neq (.t 53) (oK 0))),oM 55 (.pick (.t 51) (.c (.bool true)) (.t 54))] (.cond (.t 55) (oR [oM 4 (.mv (.c (.bool
 false)))] .ret) .skip)) (.seq (oR [oM 5 (.mv (oK 0))] (.block 0 (.loop (.seq (oR [oV 56 5,oF 57 3 3,oL 58 57,oN 59 58,oM 60 (.bin
 .lss (.t 56) (.t 59))] (.cond (.t 60) .skip (.exit 0))) (.seq (.block 1 (oR [oW 63 3 2,oF 64 3 3,oL 65 64,oV 66 5,oI 67 1 65 66,oL 68 67,
 oM 69 (.call 74 [(.t 63),(.t 68)]),oM 70 (.un .not (.t 69)),oV 71 70,oG 71 false (oV 72 5),oG 71 false (oM 73 (.bin .gtr (.t 72) (oK 0))),oG 71 false
 (oV 74 73),oG 74 true (oF 75 3 3),oG 74 true (oL 76 75),oG 74 true (oV 77 5),oG 74 true (oI 78 1 76 77),oG 74 true (oL 79 78),oG 74 true (oF 80 3
 3),oG 74 true (oL 81 80),oG 74 true (oV 82 5),oG 74 true (oM 83 (.bin .sub (.t 82) (oK 1))),oG 74 true (oI 84 1 81 83),oG 74 true (oL 85 84),oG 74
 true (oM 86 (.bin .leq (.t 79) (.t 85))),oG 71 false (oM 87 (.pick (.t 74) (.t 86) (.c (.bool false)))),oM 88 (.pick (.t 71) (.c (.bool true)) (.t 87))]
 (.cond (.t 88) (oR [oM 4 (.mv (.c (.bool false)))] .ret) .skip))) (.reg [oV 61 5,oM 62 (.bin .add (.t 61) (oK 1)),oV 5 62])))))) (oR [oM 4 (.mv (.c (.bool true)))] .ret))))))
theorem ok49:FnOk Try.prog 49 89 2 c49 [.t 4]:=⟨_,_,Try.func49,rfl,rfl,by kernel_rfl,by kernel_rfl⟩
theorem bd49:bodied Try.prog 49=true:=by kernel_rfl
def c50:CI:=(oR [oM 0 (.alloc 0 [(.int .i64 0), .nils,(.int .i64 0)])] (oR [oM 1 (.bsl 1 3 1 [(oK 1),(oK 2)] []),oM 2 (.build [(.int
 .i64 0),(.int .i64 0),(.int .i64 0), .nils] [(0,1,(oK 1)),(3,1,(.t 1))]),oM 3 (.bsl 2 3 1 [(oK 3)] []),oM 4 (.build [(.int .i64 0),(.int .i64
 0),(.int .i64 0), .nils] [(0,1,(oK 2)),(1,1,(oK 3)),(3,1,(.t 3))]),oM 5 (.build [(.int .i64 0),(.int .i64 0),(.int .i64 0), .nils] [(0,1,
 (oK 4)),(1,1,(oK 1)),(2,1,(oK 2))]),oM 6 (.bsl 3 39 4 [(.t 2),(.t 4),(.t 5)] []),oM 7 (.build [(.int .i64 0), .nils,(.int .i64 0)] [(0,1,(oK
 4)),(1,1,(.t 6))]),oS (.stz true 3 (.t 0) (.t 7) [])] .ret))
theorem ok50:FnOk Try.prog 50 8 4 c50 [.cell 0 true 3]:=⟨_,_,Try.func50,rfl,rfl,by kernel_rfl,by kernel_rfl⟩
theorem bd50:bodied Try.prog 50=true:=by kernel_rfl
def c51:CI:=(oR [oM 1 (.box 0 true (.t 0)),oM 2 (.mv oZ)] (oR [oM 3 (.mv oZ)] (.seq (oR [oF 9 1 1,oL 10 9,oN 11 10,oM
 12 (.mv (oK 0))] (.block 0 (.loop (oR [oM 13 (.bin .lss (.t 12) (.t 11))] (.seq (.cond (.t 13) .skip (.exit 0)) (.seq (.block 1 (oR [oI
 14 4 10 12,oW 15 4 14,oM 5 (.alloc 1 [(.int .i64 0),(.int .i64 0),(.int .i64 0), .nils]),oS (.stz true 4 (.t 5) (.t 15) [])] (.reg [oV 16 3,oW 17
 4 5,oM 18 (.callw 2 0 56 [(.t 17)]),oM 19 (.bsl 2 45 1 [(.t 18)] []),oM 20 (.apd 3 45 1 8 (.t 16) (.t 19) []),oV 3 20]))) (.reg [oM 21 (.bin .add (.t
 12) (oK 1)),oV 12 21]))))))) (oR [oM 6 (.mv oZ)] (.seq (oR [oF 22 0 1,oL 23 22,oM 24 (.callw 4 1 78 [(.t 23)]),oN 25 24,oM 26 (.mv
 (oK 0))] (.block 2 (.loop (oR [oM 27 (.bin .lss (.t 26) (.t 25))] (.seq (.cond (.t 27) .skip (.exit 2)) (.seq (.block 3 (oR [oI 28 1
 24 26,oL 29 28,oV 8 29] (oR [oV 30 3,oV 31 8,oF 33 2 1,oL 34 33,oM 32 (.call 79 [(.t 30),(.t 31)]),oM 35 (.bin .leq (.t 32) (.t 34))]
 (.cond (.t 35) (.reg [oV 36 6,oV 37 8,oM 38 (.bsl 5 25 1 [(.t 37)] []),oM 39 (.apd 6 25 1 24 (.t 36) (.t 38) []),oV 6 39]) .skip)))) (.reg [oM 40 (.bin
 .add (.t 26) (oK 1)),oV 26 40]))))))) (oR [oV 41 6,oV 2 41] .ret))))))
theorem ok51:FnOk Try.prog 51 42 7 c51 [.t 2]:=⟨_,_,Try.func51,rfl,rfl,by kernel_rfl,by kernel_rfl⟩
theorem bd51:bodied Try.prog 51=true:=by kernel_rfl
def c52:CI:=(oR [oM 2 (.box 0 true (.t 0)),oM 4 (.mv oZ),oM 5 (.mv (oK 0))] (.seq (oR [oW 8 3 2,oM 9 (.call 38 [(.t 8)]),oV 6
 9] (oR [oV 10 6,oM 11 (.bin .neq (.t 10) (oK 0))] (.cond (.t 11) (oR [oV 12 6,oM 4 (.mv oZ),oV 5 12] .ret) .skip))) (.seq (oR [oV 13 1,oM 14 (.un .not (.t 13))] (.cond (.t 14) (oR [oM 4 (.mv oZ),oM 5 (.mv (oK 1))] .ret) .skip)) (oR [oW 15 3 2,oM 16 (.callw
 1 1 51 [(.t 15)]),oV 7 16] (.seq (oR [oV 17 7,oN 18 17,oM 19 (.bin .eql (.t 18) (oK 0))] (.cond (.t 19) (oR [oM 4 (.mv oZ),oM 5 (.mv
 (oK 3))] .ret) .skip)) (oR [oV 20 7,oV 4 20,oM 5 (.mv (oK 0))] .ret))))))
theorem ok52:FnOk Try.prog 52 21 2 c52 [.t 4, .t 5]:=⟨_,_,Try.func52,rfl,rfl,by kernel_rfl,by kernel_rfl⟩
theorem bd52:bodied Try.prog 52=true:=by kernel_rfl
def c53:CI:=(oR [oM 2 (.mv oZ)] (.seq (oR [oV 3 0,oM 4 (.eqn false (.t 3))] (.cond (.t 4) (oR [oM 2 (.mv oZ)] .ret) .skip))
 (oR [oM 5 (.bsl 0 3 1 [] []),oV 6 0,oM 7 (.apd 1 3 1 8 (.t 5) (.t 6) []),oV 2 7] .ret)))
theorem ok53:FnOk Try.prog 53 8 2 c53 [.t 2]:=⟨_,_,Try.func53,rfl,rfl,by kernel_rfl,by kernel_rfl⟩
theorem bd53:bodied Try.prog 53=true:=by kernel_rfl
def c54:CI:=(oR [oM 4 (.mv (.c (.lit (.map none))))] (oR [oM 8 (.mko 0),oV 5 8] (.seq (oR [oV 9 0,oN 10 9,oM 11 (.mv (oK
 0))] (.block 0 (.loop (oR [oM 12 (.bin .lss (.t 11) (.t 10))] (.seq (.cond (.t 12) .skip (.exit 0)) (.seq (.block 1 (oR [oI 13 1 9 11,
 oL 14 13,oV 7 14] (.reg [oV 15 5,oV 16 7,oV 17 1,oI 18 1 16 17,oL 19 18,oV 20 5,oV 21 7,oV 22 1,oI 23 1 21 22,oL 24 23,oM 25 (.lkp .int false
 .nils (.t 20) (.t 24)),oV 26 7,oM 27 (.bsl 1 25 1 [(.t 26)] []),oM 28 (.apd 2 25 1 24 (.t 25) (.t 27) [(.t 16),(.t 18)]),oS (.mpu .int (.t 15) (.t
 19) (.t 28) [])]))) (.reg [oM 29 (.bin .add (.t 11) (oK 1)),oV 11 29]))))))) (oR [oV 30 5,oV 4 30] .ret))))
theorem ok54:FnOk Try.prog 54 31 3 c54 [.t 4]:=⟨_,_,Try.func54,rfl,rfl,by kernel_rfl,by kernel_rfl⟩
theorem bd54:bodied Try.prog 54=true:=by kernel_rfl
def c55:CI:=(oR [oM 4 (.mv (.c (.bool false)))] (oR [oV 5 0,oV 6 1,oM 7 (.call 80 [(.t 5),(.t 6)]),oM 8 (.bin .geq (.t 7) (oK
 0)),oV 4 8] .ret))
theorem ok55:FnOk Try.prog 55 9 0 c55 [.t 4]:=⟨_,_,Try.func55,rfl,rfl,by kernel_rfl,by kernel_rfl⟩
theorem bd55:bodied Try.prog 55=true:=by kernel_rfl
def c56:CI:=(oR [oM 1 (.box 0 true (.t 0)),oM 2 (.mv (.c (.lit (.nilFunc))))] (.seq (oR [oF 3 0 1,oL 4 3] (.block 0 (oR [oM 6 (.bin .eql (.t 4) (oK 1)),oV 5 6] (.cond (.t 5) (oR [oM 7 (.mkfn 81 [(.t 1)]),oV 2 7] .ret) (oR [oM 9 (.bin .eql (.t 4) (oK 2)),
 oV 8 9] (.cond (.t 8) (oR [oM 10 (.mkfn 83 [(.t 1)]),oV 2 10] .ret) (oR [oM 12 (.bin .eql (.t 4) (oK 3)),oV 11 12] (.cond (.t 11)
 (oR [oM 13 (.mkfn 84 [(.t 1)]),oV 2 13] .ret) .skip)))))))) (oR [oM 14 (.mkfn 85 [(.t 1)]),oV 2 14] .ret)))
theorem ok56:FnOk Try.prog 56 15 1 c56 [.t 2]:=⟨_,_,Try.func56,rfl,rfl,by kernel_rfl,by kernel_rfl⟩
theorem bd56:bodied Try.prog 56=true:=by kernel_rfl
def c57:CI:=(oR [oM 2 (.box 0 true (.t 0)),oM 4 (.mv (.c (.bool false)))] (oR [oV 5 1,oF 6 0 2,oL 7 6,oM 8 (.bin .sub (.t 7) (oK
 1)),oM 9 (.call 86 [(.t 5),(oK 0),(.t 8)]),oV 4 9] .ret))
theorem ok57:FnOk Try.prog 57 10 1 c57 [.t 4]:=⟨_,_,Try.func57,rfl,rfl,by kernel_rfl,by kernel_rfl⟩
theorem bd57:bodied Try.prog 57=true:=by kernel_rfl
def c58:CI:=(oR [oM 2 (.mv oZ)] (oR [oV 4 0,oM 5 (.callw 0 1 87 [(.t 4)]),oV 3 5] (oR [oV 6 3,oM 7 (.callw 1 0 88 [(.t
 6)])] (oR [oV 8 3,oV 2 8] .ret))))
theorem ok58:FnOk Try.prog 58 9 1 c58 [.t 2]:=⟨_,_,Try.func58,rfl,rfl,by kernel_rfl,by kernel_rfl⟩
theorem bd58:bodied Try.prog 58=true:=by kernel_rfl
def c59:CI:=(oR [oM 1 (.box 0 false (.t 0)),oM 2 (.mv (.c (.lit (.nilFunc))))] (oR [oM 3 (.mkfn 89 [(.t 1)]),oV 2 3] .ret))
theorem ok59:FnOk Try.prog 59 4 1 c59 [.t 2]:=⟨_,_,Try.func59,rfl,rfl,by kernel_rfl,by kernel_rfl⟩
theorem bd59:bodied Try.prog 59=true:=by kernel_rfl
def c60:CI:=(oR [oM 4 (.mv (.c (.bool false)))] (.seq (oR [oM 5 (.mv (oK 0))] (.block 0 (.loop (.seq (oR [oV 6 5,oV 7 0,
 oN 8 7,oM 9 (.bin .lss (.t 6) (.t 8))] (.cond (.t 9) .skip (.exit 0))) (.seq (.block 1 (oR [oV 12 0,oV 13 5,oI 14 1 12 13,oL 15 14,oV 16
 1,oM 17 (.bin .eql (.t 15) (.t 16))] (.cond (.t 17) (oR [oM 4 (.mv (.c (.bool true)))] .ret) .skip))) (.reg [oV 10 5,oM 11 (.bin .add (.t 10)
 (oK 1)),oV 5 11])))))) (oR [oM 4 (.mv (.c (.bool false)))] .ret)))
theorem ok60:FnOk Try.prog 60 18 0 c60 [.t 4]:=⟨_,_,Try.func60,rfl,rfl,by kernel_rfl,by kernel_rfl⟩
theorem bd60:bodied Try.prog 60=true:=by kernel_rfl
def c61:CI:=(oR [oM 2 (.mv (.c (.lit (.pointer none))))] (oR [oV 3 0,oM 4 (.mkm 0),oM 5 (.build [(.int .i64 0),(.lit (.map none))]
 [(0,1,(.t 3)),(1,1,(.t 4))]),oM 6 (.box 1 true (.t 5)),oV 2 6] .ret))
theorem ok61:FnOk Try.prog 61 7 2 c61 [.t 2]:=⟨_,_,Try.func61,rfl,rfl,by kernel_rfl,by kernel_rfl⟩
theorem bd61:bodied Try.prog 61=true:=by kernel_rfl
def c62:CI:=(oR [oM 4 (.mv (oK 0))] (oR [oM 5 (.mv (oK 0))] (.seq (.block 0 (.loop (.seq (oR [oV 6 0,oV 7 1,oV 8 5,oM
 9 (.callw 0 0 90 [(.t 6),(.t 7),(.t 8),oZ]),oM 10 (.un .not (.t 9))] (.cond (.t 10) .skip (.exit 0))) (.block 1 (.reg [oV 11 5,oM 12 (.bin .add (.t
 11) (oK 1)),oV 5 12]))))) (oR [oV 13 5,oV 4 13] .ret))))
theorem ok62:FnOk Try.prog 62 14 0 c62 [.t 4]:=⟨_,_,Try.func62,rfl,rfl,by kernel_rfl,by kernel_rfl⟩
theorem bd62:bodied Try.prog 62=true:=by kernel_rfl
def c63:CI:=(oR [oM 8 (.mv (oK 0))] (.cond (.c (.bool true)) (.seq .skip (.seq (oR [oV 13 0,oM 14 (.nilck (.t 13)),oF 15 0 14,oL
 16 15,oM 17 (.mv (oK 0))] (.block 0 (.loop (oR [oM 18 (.bin .lss (.t 17) (.t 16))] (.seq (.cond (.t 18) .skip (.exit 0)) (.seq (.block 1 (oR [oV 19 17,oV 9 19] (oR [oV 20 1,oV 21 9,oM 22 (.callw 0 0 54 [(.t 20),(.t 21)]),oV 10 22] (.seq (oR [oV 23 10,oM 24 (.mlen
 (.t 23)),oM 25 (.bin .lss (.t 24) (oK 2))] (.cond (.t 25) (.exit 1) .skip)) (.seq (oR [oV 26 10,oM 27 (.mrg 0 (.t 26) [])] (.block 2 (.loop
 (oR [oM 28 (.mnx (.t 27)),oX 29 0 28] (.seq (.cond (.t 29) .skip (.exit 2)) (.block 3 (oR [oM 30 (.men (.t 27)),oX 31 1 30,oV 12 31]
 (oR [oV 32 0,oV 33 12,oV 34 2,oM 35 (.bin .sub (.t 34) (oK 1)),oV 36 3,oV 37 9,oM 38 (.callw 1 1 91 [(.t 36),(.t 37)]),oM 39 (.callw 2
 0 90 [(.t 32),(.t 33),(.t 35),(.t 38)]),oM 40 (.un .not (.t 39))] (.cond (.t 40) (.exit 1) .skip))))))))) (oR [oV 41 9,oV 8 41] .ret))))))
 (.reg [oM 42 (.bin .add (.t 17) (oK 1)),oV 17 42]))))))) (oR [oM 8 (.mv (oK (-1)))] .ret))) .skip))
theorem ok63:FnOk Try.prog 63 43 2 c63 [.t 8]:=⟨_,_,Try.func63,rfl,rfl,by kernel_rfl,by kernel_rfl⟩
theorem bd63:bodied Try.prog 63=true:=by kernel_rfl
def c65:CI:=(oR [oM 2 (.mv (.c (.bool false)))] (.seq (oR [oV 4 0,oN 5 4,oM 6 (.bin .gtr (.t 5) (oK 7))] (.cond (.t 6) (oR [oM 2 (.mv (.c (.bool false)))] .ret) .skip)) (.seq (oR [oV 7 0,oN 8 7,oM 9 (.mv (oK 0))] (.block 0 (.loop (oR [oM 10 (.bin .lss (.t
 9) (.t 8))] (.seq (.cond (.t 10) .skip (.exit 0)) (.seq (.block 1 (oR [oV 11 9,oV 3 11] (oR [oV 12 0,oV 13 3,oM 14 (.call 82 [(.t
 12),(.t 13)]),oM 15 (.un .not (.t 14))] (.cond (.t 15) (oR [oM 2 (.mv (.c (.bool false)))] .ret) .skip)))) (.reg [oM 16 (.bin .add (.t 9) (oK
 1)),oV 9 16]))))))) (oR [oM 2 (.mv (.c (.bool true)))] .ret))))
theorem ok65:FnOk Try.prog 65 17 0 c65 [.t 2]:=⟨_,_,Try.func65,rfl,rfl,by kernel_rfl,by kernel_rfl⟩
theorem bd65:bodied Try.prog 65=true:=by kernel_rfl
def c66:CI:=(oR [oM 2 (.mv oZ)] (oR [oM 3 (.mv oZ)] (oR [oV 8 0,oN 9 8,oM 10 (.mks 0 4 1 1 [(.bool false)] (.t 9) (.t 9)),
 oV 4 10] (.seq (oR [oV 11 0,oN 12 11,oM 13 (.mv (oK 0))] (.block 0 (.loop (oR [oM 14 (.bin .lss (.t 13) (.t 12))] (.seq (.cond (.t
 14) .skip (.exit 0)) (.seq (.block 1 (oR [oV 15 13,oV 5 15] (oR [oM 6 (.mv oZ)] (.seq (oR [oV 16 5,oV 7 16] (.block 2 (.loop
 (.seq (oR [oV 17 4,oV 18 7,oI 19 1 17 18,oL 20 19,oM 21 (.un .not (.t 20))] (.cond (.t 21) .skip (.exit 2))) (.seq (.block 3 (oR [oV
 26 4,oV 27 7,oI 28 1 26 27,oS (.store false 1 (.t 28) (.c (.bool true)) [])] (.reg [oV 29 6,oV 30 7,oM 31 (.bsl 1 3 1 [(.t 30)] []),oM 32 (.apd
 2 3 1 8 (.t 29) (.t 31) []),oV 6 32]))) (.reg [oV 22 0,oV 23 7,oI 24 1 22 23,oL 25 24,oV 7 25])))))) (oR [oV 33 6,oN 34 33,oM 35 (.bin .gtr
 (.t 34) (oK 0))] (.cond (.t 35) (.reg [oV 36 3,oV 37 6,oM 38 (.bsl 3 81 1 [(.t 37)] []),oM 39 (.apd 4 81 1 24 (.t 36) (.t 38) []),oV 3 39]) .skip))))))
 (.reg [oM 40 (.bin .add (.t 13) (oK 1)),oV 13 40]))))))) (oR [oV 41 3,oV 2 41] .ret)))))
theorem ok66:FnOk Try.prog 66 42 5 c66 [.t 2]:=⟨_,_,Try.func66,rfl,rfl,by kernel_rfl,by kernel_rfl⟩
theorem bd66:bodied Try.prog 66=true:=by kernel_rfl
def c67:CI:=(oR [oM 4 (.mv oZ)] (oR [oM 5 (.mv oZ)] (.seq (oR [oV 10 0,oN 11 10,oM 12 (.mv (oK 0))] (.block 0 (.loop (oR [oM 13 (.bin .lss (.t 12) (.t 11))] (.seq (.cond (.t 13) .skip (.exit 0)) (.seq (.block 1 (oR [oV 14 12,oI 15 1 10 12,oL 16 15,oV 6 14,
 oV 7 16] (oR [oV 17 0,oV 18 6,oM 19 (.sli 1 (.t 17) none (some (.t 18))),oN 20 19,oM 21 (.mv (oK 0))] (.block 2 (.loop (oR [oM 22
 (.bin .lss (.t 21) (.t 20))] (.seq (.cond (.t 22) .skip (.exit 2)) (.seq (.block 3 (oR [oV 23 21,oI 24 1 19 21,oL 25 24,oV 8 23,oV 9 25]
 (oR [oV 26 6,oV 27 8,oM 28 (.bin .add (.t 26) (.t 27)),oV 29 1,oM 30 (.bin .sub (.t 28) (.t 29)),oV 31 0,oN 32 31,oM 33 (.bin .rem (.t 30)
 (.t 32)),oM 34 (.bin .eql (.t 33) (oK 0))] (.cond (.t 34) (.reg [oV 35 5,oV 36 7,oV 37 9,oM 38 (.callw 0 1 92 [(.t 36),(.t 37)]),oM 39 (.bsl 1 25
 1 [(.t 38)] []),oM 40 (.apd 2 25 1 24 (.t 35) (.t 39) []),oV 5 40]) .skip)))) (.reg [oM 41 (.bin .add (.t 21) (oK 1)),oV 21 41]))))))))) (.reg [oM 42
 (.bin .add (.t 12) (oK 1)),oV 12 42]))))))) (oR [oV 43 5,oV 4 43] .ret))))
theorem ok67:FnOk Try.prog 67 44 3 c67 [.t 4]:=⟨_,_,Try.func67,rfl,rfl,by kernel_rfl,by kernel_rfl⟩
theorem bd67:bodied Try.prog 67=true:=by kernel_rfl
def c68:CI:=(oR [oM 1 (.box 0 true (.t 0)),oM 2 (.mv (.c (.bool false)))] (oR [oF 3 0 1,oL 4 3,oM 5 (.call 86 [(.t 4),(oK 0),
 (oK 7)]),oV 6 5,oG 6 true (oF 7 2 1),oG 6 true (oL 8 7),oG 6 true (oM 9 (.call 86 [(.t 8),(oK 0),(oK 7)])),oM 10 (.pick (.t 6) (.t 9) (.c (.bool
 false))),oV 2 10] .ret))
theorem ok68:FnOk Try.prog 68 11 1 c68 [.t 2]:=⟨_,_,Try.func68,rfl,rfl,by kernel_rfl,by kernel_rfl⟩
theorem bd68:bodied Try.prog 68=true:=by kernel_rfl
def c69:CI:=(oR [oM 1 (.box 0 true (.t 0)),oM 2 (.mv (.c (.bool false)))] (oR [oF 3 1 1,oL 4 3,oN 5 4,oM 6 (.bin .leq (.t 5) (oK
 20)),oV 7 6,oG 7 true (oF 8 1 1),oG 7 true (oL 9 8),oG 7 true (oM 10 (.mkfn 94 [(.t 1)])),oG 7 true (oM 11 (.call 93 [(.t 9),(.t 10)])),oM 12 (.pick
 (.t 7) (.t 11) (.c (.bool false))),oV 2 12] .ret))
theorem ok69:FnOk Try.prog 69 13 1 c69 [.t 2]:=⟨_,_,Try.func69,rfl,rfl,by kernel_rfl,by kernel_rfl⟩
theorem bd69:bodied Try.prog 69=true:=by kernel_rfl
def c74:CI:=(oR [oM 2 (.box 0 true (.t 0)),oM 4 (.mv (.c (.bool false)))] (oR [oV 5 1,oM 6 (.bin .geq (.t 5) (oK 0)),oV 7 6,oG
 7 true (oV 8 1),oG 7 true (oF 9 0 2),oG 7 true (oL 10 9),oG 7 true (oM 11 (.bin .lss (.t 8) (.t 10))),oM 12 (.pick (.t 7) (.t 11) (.c (.bool false))),
 oV 4 12] .ret))
theorem ok74:FnOk Try.prog 74 13 1 c74 [.t 4]:=⟨_,_,Try.func74,rfl,rfl,by kernel_rfl,by kernel_rfl⟩
theorem bd74:bodied Try.prog 74=true:=by kernel_rfl
def c77:CI:=(oR [oM 2 (.mv oZ)] (oR [oM 3 (.mv oZ)] (.seq (oR [oV 6 0,oM 7 (.sli 1 (.t 6) (some (oK 1)) none),oN 8 7,oM
 9 (.mv (oK 0))] (.block 0 (.loop (oR [oM 10 (.bin .lss (.t 9) (.t 8))] (.seq (.cond (.t 10) .skip (.exit 0)) (.seq (.block 1 (oR [oI
 11 1 7 9,oL 12 11,oV 5 12] (.reg [oV 13 3,oV 14 0,oM 15 (.iaddr 1 (.t 14) (oK 0)),oL 16 15,oV 17 5,oM 18 (.callw 0 1 92 [(.t 16),(.t 17)]),oM
 19 (.bsl 1 25 1 [(.t 18)] []),oM 20 (.apd 2 25 1 24 (.t 13) (.t 19) []),oV 3 20]))) (.reg [oM 21 (.bin .add (.t 9) (oK 1)),oV 9 21]))))))) (oR [oV 22 3,oV 2 22] .ret))))
theorem ok77:FnOk Try.prog 77 23 3 c77 [.t 2]:=⟨_,_,Try.func77,rfl,rfl,by kernel_rfl,by kernel_rfl⟩
theorem bd77:bodied Try.prog 77=true:=by kernel_rfl
def c78:CI:=(oR [oM 2 (.mv oZ)] (oR [oM 8 (.bsl 0 25 1 [oZ] []),oV 3 8] (.seq (oR [oV 9 0,oM 10 (.mv (oK 0))] (.block
 0 (.loop (oR [oM 11 (.bin .lss (.t 10) (.t 9))] (.seq (.cond (.t 11) .skip (.exit 0)) (.seq (.block 1 (oR [oM 4 (.mv oZ)] (.seq (oR [oV 12 3,oN 13 12,oM 14 (.mv (oK 0))] (.block 2 (.loop (oR [oM 15 (.bin .lss (.t 14) (.t 13))] (.seq (.cond (.t 15) .skip (.exit 2))
 (.seq (.block 3 (oR [oI 16 1 12 14,oL 17 16,oV 6 17] (oR [oV 18 0,oM 19 (.mv (oK 0))] (.block 4 (.loop (oR [oM 20 (.bin .lss
 (.t 19) (.t 18))] (.seq (.cond (.t 20) .skip (.exit 4)) (.seq (.block 5 (oR [oV 21 19,oV 7 21] (oR [oV 22 6,oV 23 7,oM 24 (.call 82
 [(.t 22),(.t 23)]),oM 25 (.un .not (.t 24))] (.cond (.t 25) (.reg [oV 26 4,oV 27 6,oV 28 7,oM 29 (.callw 1 1 91 [(.t 27),(.t 28)]),oM 30 (.bsl
 2 25 1 [(.t 29)] []),oM 31 (.apd 3 25 1 24 (.t 26) (.t 30) []),oV 4 31]) .skip)))) (.reg [oM 32 (.bin .add (.t 19) (oK 1)),oV 19 32]))))))))) (.reg
 [oM 33 (.bin .add (.t 14) (oK 1)),oV 14 33]))))))) (.reg [oV 34 4,oV 3 34])))) (.reg [oM 35 (.bin .add (.t 10) (oK 1)),oV 10 35]))))))) (oR [oV 36 3,oV 2 36] .ret))))
theorem ok78:FnOk Try.prog 78 37 4 c78 [.t 2]:=⟨_,_,Try.func78,rfl,rfl,by kernel_rfl,by kernel_rfl⟩
theorem bd78:bodied Try.prog 78=true:=by kernel_rfl
def c79:CI:=(oR [oM 4 (.mv (oK 0))] (oR [oM 5 (.mv (oK 0))] (.seq (oR [oV 8 0,oN 9 8,oM 10 (.mv (oK 0))] (.block 0 (.loop
 (oR [oM 11 (.bin .lss (.t 10) (.t 9))] (.seq (.cond (.t 11) .skip (.exit 0)) (.seq (.block 1 (oR [oI 12 1 8 10,oL 13 12,oV 7 13] (oR [oV 14 7,oV 15 1,oM 16 (.callx (.t 14) [(.t 15)]),oM 17 (.un .not (.t 16))] (.cond (.t 17) (.reg [oV 18 5,oM 19 (.bin .add (.t 18) (oK 1)),
 oV 5 19]) .skip)))) (.reg [oM 20 (.bin .add (.t 10) (oK 1)),oV 10 20]))))))) (oR [oV 21 5,oV 4 21] .ret))))
theorem ok79:FnOk Try.prog 79 22 0 c79 [.t 4]:=⟨_,_,Try.func79,rfl,rfl,by kernel_rfl,by kernel_rfl⟩
theorem bd79:bodied Try.prog 79=true:=by kernel_rfl
def c80:CI:=(oR [oM 4 (.mv (oK 0))] (.seq (oR [oV 6 0,oN 7 6,oM 8 (.mv (oK 0))] (.block 0 (.loop (oR [oM 9 (.bin .lss (.t
 8) (.t 7))] (.seq (.cond (.t 9) .skip (.exit 0)) (.seq (.block 1 (oR [oV 10 8,oV 5 10] (oR [oV 11 1,oV 12 0,oV 13 5,oI 14 1 12 13,
 oL 15 14,oM 16 (.callx (.t 11) [(.t 15)])] (.cond (.t 16) (oR [oV 17 5,oV 4 17] .ret) .skip)))) (.reg [oM 18 (.bin .add (.t 8) (oK 1)),oV
 8 18]))))))) (oR [oM 4 (.mv (oK (-1)))] .ret)))
theorem ok80:FnOk Try.prog 80 19 0 c80 [.t 4]:=⟨_,_,Try.func80,rfl,rfl,by kernel_rfl,by kernel_rfl⟩
theorem bd80:bodied Try.prog 80=true:=by kernel_rfl
def c81:CI:=(oR [oM 3 (.mv (.c (.bool false)))] (oR [oF 4 3 1,oL 5 4,oV 6 0,oF 7 1 1,oL 8 7,oI 9 1 6 8,oL 10 9,oM 11 (.call
 82 [(.t 5),(.t 10)]),oV 3 11] .ret))
theorem ok81:FnOk Try.prog 81 12 0 c81 [.t 3]:=⟨_,_,Try.func81,rfl,rfl,by kernel_rfl,by kernel_rfl⟩
theorem bd81:bodied Try.prog 81=true:=by kernel_rfl
def c82:CI:=(oR [oM 4 (.mv (.c (.bool false)))] (oR [oV 5 0,oV 6 1,oM 7 (.call 97 [(.t 5),(.t 6)]),oM 8 (.bin .geq (.t 7) (oK
 0)),oV 4 8] .ret))
theorem ok82:FnOk Try.prog 82 9 0 c82 [.t 4]:=⟨_,_,Try.func82,rfl,rfl,by kernel_rfl,by kernel_rfl⟩
theorem bd82:bodied Try.prog 82=true:=by kernel_rfl
def c83:CI:=(oR [oM 3 (.mv (.c (.bool false)))] (oR [oF 4 3 1,oL 5 4,oV 6 0,oF 7 1 1,oL 8 7,oI 9 1 6 8,oL 10 9,oM 11 (.call
 82 [(.t 5),(.t 10)]),oM 12 (.un .not (.t 11)),oV 3 12] .ret))
theorem ok83:FnOk Try.prog 83 13 0 c83 [.t 3]:=⟨_,_,Try.func83,rfl,rfl,by kernel_rfl,by kernel_rfl⟩
theorem bd83:bodied Try.prog 83=true:=by kernel_rfl
def c84:CI:=(oR [oM 3 (.mv (.c (.bool false)))] (oR [oV 4 0,oF 5 1 1,oL 6 5,oI 7 1 4 6,oL 8 7,oF 9 2 1,oL 10 9,oM 11 (.bin
 .eql (.t 8) (.t 10)),oV 12 11,oG 12 true (oV 13 0),oG 12 true (oF 14 2 1),oG 12 true (oL 15 14),oG 12 true (oI 16 1 13 15),oG 12 true (oL 17 16),
 oG 12 true (oF 18 1 1),oG 12 true (oL 19 18),oG 12 true (oM 20 (.bin .eql (.t 17) (.t 19))),oM 21 (.pick (.t 12) (.t 20) (.c (.bool false))),oV 3 21]
 .ret))
theorem ok84:FnOk Try.prog 84 22 0 c84 [.t 3]:=⟨_,_,Try.func84,rfl,rfl,by kernel_rfl,by kernel_rfl⟩
theorem bd84:bodied Try.prog 84=true:=by kernel_rfl
def c85:CI:=(oR [oM 3 (.mv (.c (.bool false)))] (oR [oV 4 0,oF 5 1 1,oL 6 5,oI 7 1 4 6,oL 8 7,oF 9 1 1,oL 10 9,oM 11 (.bin
 .eql (.t 8) (.t 10)),oV 12 11,oG 12 false (oV 13 0),oG 12 false (oF 14 2 1),oG 12 false (oL 15 14),oG 12 false (oI 16 1 13 15),oG 12 false (oL 17
 16),oG 12 false (oF 18 2 1),oG 12 false (oL 19 18),oG 12 false (oM 20 (.bin .eql (.t 17) (.t 19))),oM 21 (.pick (.t 12) (.c (.bool true)) (.t 20)),
 oV 3 21] .ret))
theorem ok85:FnOk Try.prog 85 22 0 c85 [.t 3]:=⟨_,_,Try.func85,rfl,rfl,by kernel_rfl,by kernel_rfl⟩
theorem bd85:bodied Try.prog 85=true:=by kernel_rfl
def c86:CI:=(oR [oM 6 (.mv (.c (.bool false)))] (oR [oV 7 1,oV 8 0,oM 9 (.bin .leq (.t 7) (.t 8)),oV 10 9,oG 10 true (oV 11 0),
 oG 10 true (oV 12 2),oG 10 true (oM 13 (.bin .leq (.t 11) (.t 12))),oM 14 (.pick (.t 10) (.t 13) (.c (.bool false))),oV 6 14] .ret))
theorem ok86:FnOk Try.prog 86 15 0 c86 [.t 6]:=⟨_,_,Try.func86,rfl,rfl,by kernel_rfl,by kernel_rfl⟩
theorem bd86:bodied Try.prog 86=true:=by kernel_rfl
def c87:CI:=(oR [oM 2 (.mv oZ)] (oR [oV 3 0,oM 4 (.callw 0 1 98 [oZ,(.t 3)]),oV 2 4] .ret))
theorem ok87:FnOk Try.prog 87 5 1 c87 [.t 2]:=⟨_,_,Try.func87,rfl,rfl,by kernel_rfl,by kernel_rfl⟩
theorem bd87:bodied Try.prog 87=true:=by kernel_rfl
def c88:CI:=(oR [oV 3 0,oN 4 3,oV 2 4] (.reg [oV 5 0,oV 6 2,oV 7 2,oM 8 (.conv .u64 (.t 7)),oM 9 (.call 100 [(.t 8)]),oM 10 (.callw
 0 0 99 [(.t 5),(oK 0),(.t 6),(.t 9)])]))
theorem ok88:FnOk Try.prog 88 11 0 c88 []:=⟨_,_,Try.func88,rfl,rfl,by kernel_rfl,by kernel_rfl⟩
theorem bd88:bodied Try.prog 88=true:=by kernel_rfl
def c89:CI:=(oR [oL 4 1,oM 5 (.mrg 0 (.t 4) [])] (.block 0 (.loop (oR [oM 6 (.mnx (.t 5)),oX 7 0 6] (.seq (.cond (.t 7) .skip (.exit
 0)) (.block 1 (oR [oM 8 (.men (.t 5)),oX 9 0 8,oV 3 9] (oR [oV 10 0,oV 11 3,oM 12 (.callx (.t 10) [(.t 11)]),oM 13 (.un .not (.t
 12))] (.cond (.t 13) .ret .skip)))))))))
theorem ok89:FnOk Try.prog 89 14 1 c89 []:=⟨_,_,Try.func89,rfl,rfl,by kernel_rfl,by kernel_rfl⟩
theorem bd89:bodied Try.prog 89=true:=by kernel_rfl
def c90:CI:=(oR [oM 8 (.mv (.c (.bool false)))] (oR [oV 15 0,oM 16 (.nilck (.t 15)),oF 17 0 16,oL 18 17,oV 19 3,oN 20 19,oM
 21 (.bin .sub (.t 18) (.t 20)),oV 9 21] (.seq (oR [oV 22 1,oN 23 22,oV 24 2,oM 25 (.bin .add (.t 24) (oK 1)),oM 26 (.bin .leq (.t 23) (.t
 25)),oV 27 26,oG 27 false (oV 28 9),oG 27 false (oV 29 2),oG 27 false (oM 30 (.bin .add (.t 29) (oK 1))),oG 27 false (oM 31 (.bin .leq (.t 28) (.t
 30))),oM 32 (.pick (.t 27) (.c (.bool true)) (.t 31))] (.cond (.t 32) (oR [oM 8 (.mv (.c (.bool true)))] .ret) .skip)) (.seq (oR [oV
 33 1,oN 34 33,oV 35 9,oV 36 2,oM 37 (.call 101 [(.t 35),(.t 36)]),oM 38 (.bin .gtr (.t 34) (.t 37))] (.cond (.t 38) (oR [oM 8 (.mv (.c (.bool
 false)))] .ret) .skip)) (oR [oV 39 2,oM 40 (.build [(.int .i64 0),(.int .i64 0),(.int .i64 0),(.int .i64 0),(.int .i64 0),(.int .i64 0),
 (.int .i64 0),(.int .i64 0)] [(7,1,(.t 39))]),oM 10 (.alloc 0 [(.int .i64 0),(.int .i64 0),(.int .i64 0),(.int .i64 0),(.int .i64 0),(.int .i64
 0),(.int .i64 0),(.int .i64 0)]),oS (.store true 8 (.t 10) (.t 40) [])] (.seq (oR [oV 41 3,oN 42 41,oM 43 (.mv (oK 0))] (.block 0 (.loop
 (oR [oM 44 (.bin .lss (.t 43) (.t 42))] (.seq (.cond (.t 44) .skip (.exit 0)) (.seq (.block 1 (oR [oI 45 1 41 43,oL 46 45,oV 12 46]
 (.reg [oV 47 12,oV 48 1,oM 49 (.iaddr 1 (.t 48) (oK 0)),oL 50 49,oV 51 12,oI 52 1 50 51,oL 53 52,oM 54 (.bin .add (oK 1) (.t 53)),oF 55 0 10,oM
 56 (.paddr 1 7 (.t 55) (.t 47)),oS (.store false 1 (.t 56) (.t 54) [])]))) (.reg [oM 57 (.bin .add (.t 43) (oK 1)),oV 43 57]))))))) (oR [oV 59
 0,oM 60 (.nilck (.t 59)),oF 61 1 60,oL 62 61,oW 63 8 10,oM 64 (.lkp (.st (.node [(0,7,(.node [(0,1,(.leaf true)),(1,1,(.leaf true)),(2,1,
 (.leaf true)),(3,1,(.leaf true)),(4,1,(.leaf true)),(5,1,(.leaf true)),(6,1,(.leaf true))])),(7,1,(.leaf true))])) true (.bool false) (.t
 62) (.t 63)),oV 58 64,oX 65 0 58,oX 66 1 58,oV 13 65,oV 14 66] (.seq (oR [oV 67 14,oM 68 (.un .not (.t 67))] (.cond (.t 68) (oR [oV 69 0,oV 70 1,oV 71 2,oV 72 3,oM 73 (.callw 1 0 63 [(.t 69),(.t 70),(.t 71),(.t 72)]),oM 74 (.bin .neq (.t 73) (oK (-1))),oV 13 74] (.reg
 [oV 75 0,oM 76 (.nilck (.t 75)),oF 77 1 76,oL 78 77,oW 79 8 10,oV 80 13,oS (.mpu (.st (.node [(0,7,(.node [(0,1,(.leaf true)),(1,1,(.leaf
 true)),(2,1,(.leaf true)),(3,1,(.leaf true)),(4,1,(.leaf true)),(5,1,(.leaf true)),(6,1,(.leaf true))])),(7,1,(.leaf true))])) (.t 78)
 (.t 79) (.t 80) [])])) .skip)) (oR [oV 81 13,oV 8 81] .ret)))))))))
theorem ok90:FnOk Try.prog 90 82 1 c90 [.t 8]:=⟨_,_,Try.func90,rfl,rfl,by kernel_rfl,by kernel_rfl⟩
theorem bd90:bodied Try.prog 90=true:=by kernel_rfl
def c91:CI:=(oR [oM 4 (.mv oZ)] (oR [oV 5 0,oV 6 0,oN 7 6,oV 8 0,oN 9 8,oM 10 (.sl3 1 (.t 5) (.t 7) (.t 9)),oV 11 1,oM 12 (.bsl
 0 3 1 [(.t 11)] []),oM 13 (.apd 1 3 1 8 (.t 10) (.t 12) []),oV 4 13] .ret))
theorem ok91:FnOk Try.prog 91 14 2 c91 [.t 4]:=⟨_,_,Try.func91,rfl,rfl,by kernel_rfl,by kernel_rfl⟩
theorem bd91:bodied Try.prog 91=true:=by kernel_rfl
def c92:CI:=(oR [oM 4 (.mv oZ)] (oR [oV 5 0,oV 6 1,oM 7 (.mm false [(.t 5),(.t 6)]),oV 8 0,oV 9 1,oM 10 (.mm true [(.t 8),(.t
 9)]),oM 11 (.bsl 0 3 1 [(.t 7),(.t 10)] []),oV 4 11] .ret))
theorem ok92:FnOk Try.prog 92 12 1 c92 [.t 4]:=⟨_,_,Try.func92,rfl,rfl,by kernel_rfl,by kernel_rfl⟩
theorem bd92:bodied Try.prog 92=true:=by kernel_rfl
def c93:CI:=(oR [oM 4 (.mv (.c (.bool false)))] (.seq (oR [oV 7 0,oN 8 7,oM 9 (.mv (oK 0))] (.block 0 (.loop (oR [oM 10
 (.bin .lss (.t 9) (.t 8))] (.seq (.cond (.t 10) .skip (.exit 0)) (.seq (.block 1 (oR [oI 11 4 7 9,oW 12 4 11,oM 6 (.alloc 0 [(.int .i64 0),
 (.int .i64 0),(.int .i64 0), .nils]),oS (.stz true 4 (.t 6) (.t 12) [])] (oR [oV 13 1,oW 14 4 6,oM 15 (.callx (.t 13) [(.t 14)]),oM 16 (.un
 .not (.t 15))] (.cond (.t 16) (oR [oM 4 (.mv (.c (.bool false)))] .ret) .skip)))) (.reg [oM 17 (.bin .add (.t 9) (oK 1)),oV 9 17]))))))) (oR [oM 4 (.mv (.c (.bool true)))] .ret)))
theorem ok93:FnOk Try.prog 93 18 1 c93 [.t 4]:=⟨_,_,Try.func93,rfl,rfl,by kernel_rfl,by kernel_rfl⟩
theorem bd93:bodied Try.prog 93=true:=by kernel_rfl
def c94:CI:=(oR [oM 2 (.box 0 true (.t 0)),oM 3 (.mv (.c (.bool false)))] (oR [oW 4 3 1,oW 5 4 2,oM 6 (.call 95 [(.t 4),(.t 5)]),
 oV 3 6] .ret))
theorem ok94:FnOk Try.prog 94 7 1 c94 [.t 3]:=⟨_,_,Try.func94,rfl,rfl,by kernel_rfl,by kernel_rfl⟩
theorem bd94:bodied Try.prog 94=true:=by kernel_rfl
def c95:CI:=(oR [oM 2 (.box 0 true (.t 0)),oM 3 (.box 1 true (.t 1)),oM 4 (.mv (.c (.bool false)))] (.seq (oR [oW 5 3 2,oF 6 1
 3,oL 7 6,oM 8 (.call 57 [(.t 5),(.t 7)]),oM 9 (.un .not (.t 8)),oV 10 9,oG 10 false (oW 11 3 2),oG 10 false (oF 12 2 3),oG 10 false (oL 13 12),
 oG 10 false (oM 14 (.call 57 [(.t 11),(.t 13)])),oG 10 false (oM 15 (.un .not (.t 14))),oM 16 (.pick (.t 10) (.c (.bool true)) (.t 15))] (.cond (.t
 16) (oR [oM 4 (.mv (.c (.bool false)))] .ret) .skip)) (.seq (oR [oF 17 0 3,oL 18 17] (.block 0 (.seq (oR [oM 20 (.bin .eql (.t
 18) (oK 1)),oV 19 20] (.cond (.t 19) .skip (.reg [oM 21 (.bin .eql (.t 18) (oK 2)),oV 19 21]))) (.cond (.t 19) (oR [oF 22 2 3,oL 23 22,oM
 24 (.bin .eql (.t 23) (oK 0)),oV 25 24,oG 25 true (oF 26 3 3),oG 25 true (oL 27 26),oG 25 true (oN 28 27),oG 25 true (oM 29 (.bin .gtr (.t 28) (oK
 0))),oM 30 (.pick (.t 25) (.t 29) (.c (.bool false))),oV 31 30,oG 31 true (oW 32 3 2),oG 31 true (oF 33 3 3),oG 31 true (oL 34 33),oG 31 true (oM
 35 (.call 102 [(.t 32),(.t 34)])),oM 36 (.pick (.t 31) (.t 35) (.c (.bool false))),oV 4 36] .ret) (.seq (oR [oM 38 (.bin .eql (.t 18) (oK 3)),
 oV 37 38] (.cond (.t 37) .skip (.reg [oM 39 (.bin .eql (.t 18) (oK 4)),oV 37 39]))) (.cond (.t 37) (oR [oF 40 2 3,oL 41 40,oF 42 1 3,oL 43
 42,oM 44 (.bin .neq (.t 41) (.t 43)),oV 45 44,oG 45 true (oF 46 3 3),oG 45 true (oL 47 46),oG 45 true (oN 48 47),oG 45 true (oM 49 (.bin .eql (.t
 48) (oK 0))),oM 50 (.pick (.t 45) (.t 49) (.c (.bool false))),oV 4 50] .ret) .skip)))))) (oR [oM 4 (.mv (.c (.bool false)))] .ret))))
theorem ok95:FnOk Try.prog 95 51 2 c95 [.t 4]:=⟨_,_,Try.func95,rfl,rfl,by kernel_rfl,by kernel_rfl⟩
theorem bd95:bodied Try.prog 95=true:=by kernel_rfl
def c97:CI:=(oR [oM 4 (.mv (oK 0))] (.seq (oR [oV 6 0,oN 7 6,oM 8 (.mv (oK 0))] (.block 0 (.loop (oR [oM 9 (.bin .lss (.t
 8) (.t 7))] (.seq (.cond (.t 9) .skip (.exit 0)) (.seq (.block 1 (oR [oV 10 8,oV 5 10] (oR [oV 11 1,oV 12 0,oV 13 5,oI 14 1 12 13,
 oL 15 14,oM 16 (.bin .eql (.t 11) (.t 15))] (.cond (.t 16) (oR [oV 17 5,oV 4 17] .ret) .skip)))) (.reg [oM 18 (.bin .add (.t 8) (oK 1)),oV
 8 18]))))))) (oR [oM 4 (.mv (oK (-1)))] .ret)))
theorem ok97:FnOk Try.prog 97 19 0 c97 [.t 4]:=⟨_,_,Try.func97,rfl,rfl,by kernel_rfl,by kernel_rfl⟩
theorem bd97:bodied Try.prog 97=true:=by kernel_rfl
def c98:CI:=(oR [oM 2 (.box 0 false (.t 0)),oM 4 (.mv oZ)] (.seq (oR [oV 6 1] (.block 0 (.rng (.t 6) [7] (.reg [oV 5 7]) (.block
 1 (.reg [oL 8 2,oV 9 5,oM 10 (.bsl 1 3 1 [(.t 9)] []),oM 11 (.apd 2 3 1 8 (.t 8) (.t 10) []),oS (.stz false 1 (.t 2) (.t 11) [])]))))) (oR [oL 12 2,oV 4 12] .ret)))
theorem ok98:FnOk Try.prog 98 13 3 c98 [.t 4]:=⟨_,_,Try.func98,rfl,rfl,by kernel_rfl,by kernel_rfl⟩
theorem bd98:bodied Try.prog 98=true:=by kernel_rfl
def c99:CI:=(oR [oM 8 (.mv (.c (.bool true)))] (oR [oM 9 (.mv (.c (.bool true)))] (.block 0 (.loop (.block 1 (oR [oV 19 2,
 oV 20 1,oM 21 (.bin .sub (.t 19) (.t 20)),oV 10 21] (.seq (oR [oV 22 10,oM 23 (.bin .leq (.t 22) (oK 12))] (.cond (.t 23) (oR [oV
 24 0,oV 25 1,oV 26 2,oM 27 (.callw 0 0 103 [(.t 24),(.t 25),(.t 26)])] .ret) .skip)) (.seq (oR [oV 28 3,oM 29 (.bin .eql (.t 28) (oK 0))]
 (.cond (.t 29) (oR [oV 30 0,oV 31 1,oV 32 2,oM 33 (.callw 0 0 104 [(.t 30),(.t 31),(.t 32)])] .ret) .skip)) (.seq (oR [oV 34 8,oM
 35 (.un .not (.t 34))] (.cond (.t 35) (oR [oV 36 0,oV 37 1,oV 38 2,oM 39 (.callw 0 0 105 [(.t 36),(.t 37),(.t 38)])] (.reg [oV 40 3,oM
 41 (.bin .sub (.t 40) (oK 1)),oV 3 41])) .skip)) (oR [oV 43 0,oV 44 1,oV 45 2,oM 46 (.call 106 [(.t 43),(.t 44),(.t 45)]),oV 42 46,oX 47
 0 42,oX 48 1 42,oV 11 47,oV 12 48] (.seq (oR [oV 49 12,oM 50 (.bin .eql (.t 49) (oK 2))] (.cond (.t 50) (oR [oV 51 0,oV 52 1,oV
 53 2,oM 54 (.callw 0 0 107 [(.t 51),(.t 52),(.t 53)])] (oR [oV 55 2,oM 56 (.bin .sub (.t 55) (oK 1)),oV 57 11,oV 58 1,oM 59 (.bin .sub
 (.t 57) (.t 58)),oM 60 (.bin .sub (.t 56) (.t 59)),oV 11 60] (.reg [oM 12 (.mv (oK 1))]))) .skip)) (.seq (oR [oV 61 8,oV 62 61,oG 62 true
 (oV 63 9),oM 64 (.pick (.t 62) (.t 63) (.c (.bool false))),oV 65 64,oG 65 true (oV 66 12),oG 65 true (oM 67 (.bin .eql (.t 66) (oK 1))),oM 68 (.pick
 (.t 65) (.t 67) (.c (.bool false)))] (.cond (.t 68) (oR [oV 69 0,oV 70 1,oV 71 2,oM 72 (.call 108 [(.t 69),(.t 70),(.t 71)])] (.cond (.t
 72) .ret .skip)) .skip)) (.seq (oR [oV 73 1,oM 74 (.bin .gtr (.t 73) (oK 0)),oV 75 74,oG 75 true (oV 76 0),oG 75 true (oV 77 1),oG 75 true
 (oM 78 (.bin .sub (.t 77) (oK 1))),oG 75 true (oI 79 1 76 78),oG 75 true (oL 80 79),oG 75 true (oV 81 0),oG 75 true (oV 82 11),oG 75 true (oI 83 1
 81 82),oG 75 true (oL 84 83),oG 75 true (oM 85 (.call 109 [(.t 80),(.t 84)])),oG 75 true (oM 86 (.un .not (.t 85))),oM 87 (.pick (.t 75) (.t 86) (.c
 (.bool false)))] (.cond (.t 87) (oR [oV 88 0,oV 89 1,oV 90 2,oV 91 11,oM 92 (.call 110 [(.t 88),(.t 89),(.t 90),(.t 91)]),oV 13 92] (oR [oV 93 13,oV 1 93] (.exit 1))) .skip)) (oR [oV 95 0,oV 96 1,oV 97 2,oV 98 11,oM 99 (.call 111 [(.t 95),(.t 96),(.t 97),(.t 98)]),
 oV 94 99,oX 100 0 94,oX 101 1 94,oV 14 100,oV 15 101] (oR [oV 102 15,oV 9 102] (oR [oV 103 14,oV 104 1,oM 105 (.bin .sub (.t 103)
 (.t 104)),oV 106 2,oV 107 14,oM 108 (.bin .sub (.t 106) (.t 107)),oV 16 105,oV 17 108] (oR [oV 109 10,oM 110 (.bin .quo (.t 109) (oK 8)),
 oV 18 110] (oR [oV 111 16,oV 112 17,oM 113 (.bin .lss (.t 111) (.t 112))] (.cond (.t 113) (oR [oV 114 16,oV 115 18,oM 116 (.bin .geq
 (.t 114) (.t 115)),oV 8 116] (oR [oV 117 0,oV 118 1,oV 119 14,oV 120 3,oM 121 (.callw 0 0 99 [(.t 117),(.t 118),(.t 119),(.t 120)])]
 (.reg [oV 122 14,oM 123 (.bin .add (.t 122) (oK 1)),oV 1 123]))) (oR [oV 124 17,oV 125 18,oM 126 (.bin .geq (.t 124) (.t 125)),oV 8 126]
 (oR [oV 127 0,oV 128 14,oM 129 (.bin .add (.t 128) (oK 1)),oV 130 2,oV 131 3,oM 132 (.callw 0 0 99 [(.t 127),(.t 129),(.t 130),(.t 131)])]
 (.reg [oV 133 14,oV 2 133]))))))))))))))))))))))
theorem ok99:FnOk Try.prog 99 134 0 c99 []:=⟨_,_,Try.func99,rfl,rfl,by kernel_rfl,by kernel_rfl⟩
theorem bd99:bodied Try.prog 99=true:=by kernel_rfl
def c100:CI:=(oR [oM 2 (.mv (oK 0))] (.seq (.cond (.c (.bool false)) (oR [oV 3 0,oM 4 (.conv .u32 (.t 3)),oM 5 (.call 112 [(.t 4)]),
 oV 2 5] .ret) .skip) (oR [oV 6 0,oM 7 (.call 113 [(.t 6)]),oV 2 7] .ret)))
theorem ok100:FnOk Try.prog 100 8 0 c100 [.t 2]:=⟨_,_,Try.func100,rfl,rfl,by kernel_rfl,by kernel_rfl⟩
theorem bd100:bodied Try.prog 100=true:=by kernel_rfl
def c101:CI:=(oR [oM 4 (.mv (oK 0))] (oR [oM 5 (.mv (oK 1))] (.seq (oR [oV 7 1,oM 8 (.mv (oK 0))] (.block 0 (.loop (oR [oM 9 (.bin .lss (.t 8) (.t 7))] (.seq (.cond (.t 9) .skip (.exit 0)) (.seq (.block 1 (oR [oV 10 8,oV 6 10] (.reg [oV 11 5,oV 12 0,oV
 13 6,oM 14 (.bin .sub (.t 12) (.t 13)),oM 15 (.bin .mul (.t 11) (.t 14)),oV 5 15]))) (.reg [oM 16 (.bin .add (.t 8) (oK 1)),oV 8 16]))))))) (oR [oV 17 5,oV 4 17] .ret))))
theorem ok101:FnOk Try.prog 101 18 0 c101 [.t 4]:=⟨_,_,Try.func101,rfl,rfl,by kernel_rfl,by kernel_rfl⟩
theorem bd101:bodied Try.prog 101=true:=by kernel_rfl
def c102:CI:=(oR [oM 2 (.box 0 true (.t 0)),oM 4 (.mv (.c (.bool false)))] (oR [oM 5 (.mv (oK (-1)))] (.seq (oR [oV 8 1,
 oN 9 8,oM 10 (.mv (oK 0))] (.block 0 (.loop (oR [oM 11 (.bin .lss (.t 10) (.t 9))] (.seq (.cond (.t 11) .skip (.exit 0)) (.seq (.block 1 (oR [oI 12 1 8 10,oL 13 12,oV 7 13] (.seq (oR [oV 14 7,oV 15 5,oM 16 (.bin .add (.t 15) (oK 1)),oF 17 0 2,oL 18 17,oM 19 (.bin .sub (.t
 18) (oK 1)),oM 20 (.call 86 [(.t 14),(.t 16),(.t 19)]),oM 21 (.un .not (.t 20))] (.cond (.t 21) (oR [oM 4 (.mv (.c (.bool false)))] .ret)
 .skip)) (.reg [oV 22 7,oV 5 22])))) (.reg [oM 23 (.bin .add (.t 10) (oK 1)),oV 10 23]))))))) (oR [oM 4 (.mv (.c (.bool true)))] .ret))))
theorem ok102:FnOk Try.prog 102 24 1 c102 [.t 4]:=⟨_,_,Try.func102,rfl,rfl,by kernel_rfl,by kernel_rfl⟩
theorem bd102:bodied Try.prog 102=true:=by kernel_rfl
def c103:CI:=(oR [oV 8 1,oM 9 (.bin .add (.t 8) (oK 1)),oV 6 9] (.block 0 (.loop (.seq (oR [oV 10 6,oV 11 2,oM 12 (.bin .lss (.t
 10) (.t 11))] (.cond (.t 12) .skip (.exit 0))) (.seq (.block 1 (oR [oV 15 6,oV 7 15] (.block 2 (.loop (.seq (oR [oV 16 7,oV 17 1,oM
 18 (.bin .gtr (.t 16) (.t 17)),oV 19 18,oG 19 true (oV 20 0),oG 19 true (oV 21 7),oG 19 true (oI 22 1 20 21),oG 19 true (oL 23 22),oG 19 true (oV
 24 0),oG 19 true (oV 25 7),oG 19 true (oM 26 (.bin .sub (.t 25) (oK 1))),oG 19 true (oI 27 1 24 26),oG 19 true (oL 28 27),oG 19 true (oM 29 (.call
 109 [(.t 23),(.t 28)])),oM 30 (.pick (.t 19) (.t 29) (.c (.bool false)))] (.cond (.t 30) .skip (.exit 2))) (.seq (.block 3 (.reg [oV 33 0,oV 34 7,
 oV 35 0,oV 36 7,oM 37 (.bin .sub (.t 36) (oK 1)),oV 38 0,oV 39 7,oM 40 (.bin .sub (.t 39) (oK 1)),oI 41 1 38 40,oL 42 41,oV 43 0,oV 44 7,oI 45
 1 43 44,oL 46 45,oI 47 1 33 34,oS (.store false 1 (.t 47) (.t 42) []),oI 48 1 35 37,oS (.store false 1 (.t 48) (.t 46) [])])) (.reg [oV 31 7,oM 32
 (.bin .sub (.t 31) (oK 1)),oV 7 32]))))))) (.reg [oV 13 6,oM 14 (.bin .add (.t 13) (oK 1)),oV 6 14]))))))
theorem ok103:FnOk Try.prog 103 49 0 c103 []:=⟨_,_,Try.func103,rfl,rfl,by kernel_rfl,by kernel_rfl⟩
theorem bd103:bodied Try.prog 103=true:=by kernel_rfl
def c109:CI:=(oR [oM 4 (.mv (.c (.bool false)))] (oR [oV 5 0,oM 6 (.call 119 [(.t 5)]),oV 7 6,oG 7 true (oV 8 1),oG 7 true (oM
 9 (.call 119 [(.t 8)])),oG 7 true (oM 10 (.un .not (.t 9))),oM 11 (.pick (.t 7) (.t 10) (.c (.bool false))),oV 12 11,oG 12 false (oV 13 0),oG 12 false
 (oV 14 1),oG 12 false (oM 15 (.bin .lss (.t 13) (.t 14))),oM 16 (.pick (.t 12) (.c (.bool true)) (.t 15)),oV 4 16] .ret))
theorem ok109:FnOk Try.prog 109 17 0 c109 [.t 4]:=⟨_,_,Try.func109,rfl,rfl,by kernel_rfl,by kernel_rfl⟩
theorem bd109:bodied Try.prog 109=true:=by kernel_rfl
def c113:CI:=(oR [oM 2 (.mv (oK 0))] (.seq (oR [oV 3 0,oM 4 (.bin .geq (.t 3) (.c (.int .u64 4294967296)))] (.cond (.t 4) (oR [oV 5 0,oM 6 (.bin .shr (.t 5) (.c (.int .u64 32))),oV 0 6] (.reg [oM 2 (.mv (oK 32))])) .skip)) (.seq (oR [oV 7 0,oM 8 (.bin .geq (.t
 7) (.c (.int .u64 65536)))] (.cond (.t 8) (oR [oV 9 0,oM 10 (.bin .shr (.t 9) (.c (.int .u64 16))),oV 0 10] (.reg [oV 11 2,oM 12 (.bin .add
 (.t 11) (oK 16)),oV 2 12])) .skip)) (.seq (oR [oV 13 0,oM 14 (.bin .geq (.t 13) (.c (.int .u64 256)))] (.cond (.t 14) (oR [oV 15 0,
 oM 16 (.bin .shr (.t 15) (.c (.int .u64 8))),oV 0 16] (.reg [oV 17 2,oM 18 (.bin .add (.t 17) (oK 8)),oV 2 18])) .skip)) (oR [oV 19 2,oV 20
 0,oM 21 (.conv .u8 (.t 20)),oM 22 (.sidx (.c (.str [0,1,2,2,3,3,3,3,4,4,4,4,4,4,4,4,5,5,5,5,5,5,5,5,5,5,5,5,5,5,5,5,6,
 6,6,6,6,6,6,6,6,6,6,6,6,6,6,6,6,6,6,6,6,6,6,6,6,6,6,6,6,6,6,6,7,7,7,7,7,7,7,7,7,7,7,7,7,7,7,7,7,7,7,7,
 7,7,7,7,7,7,7,7,7,7,7,7,7,7,7,7,7,7,7,7,7,7,7,7,7,7,7,7,7,7,7,7,7,7,7,7,7,7,7,7,7,7,7,7,8,8,8,8,8,8,8,
 8,8,8,8,8,8,8,8,8,8,8,8,8,8,8,8,8,8,8,8,8,8,8,8,8,8,8,8,8,8,8,8,8,8,8,8,8,8,8,8,8,8,8,8,8,8,8,8,8,8,8,
 8,8,8,8,8,8,8,8,8,8,8,8,8,8,8,8,8,8,8,8,8,8,8,8,8,8,8,8,8,8,8,8,8,8,8,8,8,8,8,8,8,8,8,8,8,8,8,8,8,8,8,
 8,8,8,8,8,8,8,8,8,8,8,8,8,8,8,8,8,8,8])) (.t 21)),oM 23 (.conv .i64 (.t 22)),oM 24 (.bin .add (.t 19) (.t 23)),oV 2 24] .ret)))))
theorem ok113:FnOk Try.prog 113 25 0 c113 [.t 2]:=⟨_,_,Try.func113,rfl,rfl,by kernel_rfl,by kernel_rfl⟩
theorem bd113:bodied Try.prog 113=true:=by kernel_rfl
def c119:CI:=(oR [oM 2 (.mv (.c (.bool false)))] (oR [oV 3 0,oV 4 0,oM 5 (.bin .neq (.t 3) (.t 4)),oV 2 5] .ret))
theorem ok119:FnOk Try.prog 119 6 0 c119 [.t 2]:=⟨_,_,Try.func119,rfl,rfl,by kernel_rfl,by kernel_rfl⟩
theorem bd119:bodied Try.prog 119=true:=by kernel_rfl
end Go.Proofs
