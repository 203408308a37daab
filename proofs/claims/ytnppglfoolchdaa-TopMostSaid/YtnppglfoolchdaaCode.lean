/- The functions of this program as the walk reads them, each proved to be what the program holds. -/
import Derived.Test.YtnppglfoolchdaaEng4
import Derived.Test.YtnppglfoolchdaaProg
import Derived.KernelRfl
namespace Go.Proofs
open Go.Eng
set_option maxRecDepth 100000
end Go.Proofs
namespace Go.Eng
theorem FnA.cq{P:Program}{sg:List Res}{f:FuncId}{args args':List AV}{a:AV}{k:AV->Prop}(h:FnA P f args' (· = a))(hr:AV.puL args=true)(hz:AV.frzL sg 8 args=some args')(hk:k a):CallQ P sg f args k:=h.callq hr hz fun _ e=>by subst e;exact hk
theorem FnA.lq{P:Program}{sg:List Res}{f:FuncId}{args args':List AV}{a:AV}{k:AV->Prop}(h:FnA P f args' (· = a))(hz:AV.frzL sg 8 args=some args')(hf:a.flat=true)(hk:k a):CallQ P sg f args k:=h.lendq hz fun _ e=>by subst e;exact⟨hf,hk⟩
theorem FnA.zq{P:Program}{fl:Bool}{sg:List Res}{nm ct:Nat}{f:FuncId}{args args':List AV}{z:List (Nat × Res)}{a:AV}{k:List (Nat × Res)->AV->Prop}(h:FnA P f args' (· = a))(hz:AV.reachL sg args=some z)(hr:AV.frzL sg 8 args=some args')(hk:k z a):CallZQ P fl sg nm ct f args k:=h.callzq hz hr fun _ e=>by subst e;exact hk
theorem FnO.oq{P:Program}{fl:Bool}{sg:List Res}{nm ct:Nat}{f:FuncId}{args args':List AV}{z:List (Nat × Res)}{a:AV}{b:List (Nat × Res)}{k:List (Nat × Res)->AV->Prop}(h:FnO P f args' (fun r rows=>r=a/\rows=b))(hz:AV.reachL sg args=some z)(hr:AV.frzL sg 8 args=some args')(hb:rowsB ct b=true)(hk:k (z++nameR b nm) (a.rnr (posN b nm))):CallZQ P fl sg nm ct f args k:=h.callzq hz hr fun _ _ e=>by obtain⟨e,e'⟩:=e;subst e;subst e';exact⟨hb,hk⟩
theorem wJ{x:Int}{K:Int->Prop}(hk:K x)(h : -9223372036854775808<=x/\x<=9223372036854775807:=by omega):WrE .i64 x K:=wIn h hk
theorem nJ{p A:Prop}(k:A)(h:p:=by omega):Need p A:=nI h k
theorem iaJ{es:List (List AV)}{i:Int}{K:List AV->Prop}{cs:List AV}(hc:es.getD i.toNat []=cs)(hk:K cs)(h0:0<=i:=by omega)(h1:i<es.length:=by omega):IaE es i K:=iaI h0 h1 hc hk
theorem apJ{sz bytes:Nat}{xs ys:List (List AV)}{K:Prop}(hk:K)(h1:∀e∈ys,e.length=sz/\e.all AV.one=true:=by simp[AV.one])(h2:(xs.length+ys.length)*bytes<=140737488355328:=by(simp only[List.length_cons,List.length_nil];omega)):ApE sz bytes xs ys K:=apI h1 h2 hk
theorem mI{s s':St}(h:Meets (fun i=>i) (fun _=>false) s s':=by((repeat' apply And.intro)<;>first|rfl|exact True.intro|(intro hh;cases hh))):MeetsE s s':=meets_id h
theorem mR(i j:Nat){s s':St}(h:Meets (fun k=>match decide (k=i)with|true=>j|false=>k) (fun _=>false) s s':=by((repeat' apply And.intro)<;>first|rfl|exact True.intro|(intro hh;cases hh))):MeetsE s s':=meets_ren i j h
theorem mN(i:Nat){s s':St}(h:Meets (fun k=>k) (fun k=>decide (k=i)) s s':=by((repeat' apply And.intro)<;>first|rfl|exact True.intro|(intro hh;cases hh))):MeetsE s s':=meets_nil i h
theorem mA(l:List (Nat × Option Nat)){s s':St}(h:Meets (asN l) (asB l) s s':=by((repeat' apply And.intro)<;>first|rfl|exact True.intro|(intro hh;cases hh))):MeetsE s s':=meets_as l h
end Go.Eng
namespace Go.Proofs
open Go.Eng
@[reducible] def oR(l:List IOp)(c:CI):CI:=.seq (.reg l) c
@[reducible] def oM(d:Nat)(o:Ixo):IOp:=⟨none,some d,o⟩
@[reducible] def oS(o:Ixo):IOp:=⟨none,none,o⟩
@[reducible] def oG(g:Nat)(b:Bool)(p:IOp):IOp:=⟨some (g,b),p.d,p.o⟩
@[reducible] def oV(d t:Nat):IOp:=⟨none,some d, .mv (.t t)⟩
@[reducible] def oL(d t:Nat):IOp:=⟨none,some d, .load false 1 (.t t)⟩
@[reducible] def oW(d n t:Nat):IOp:=⟨none,some d, .load true n (.t t)⟩
@[reducible] def oF(d k t:Nat):IOp:=⟨none,some d, .faddr k (.t t)⟩
@[reducible] def oI(d n a b:Nat):IOp:=⟨none,some d, .iaddr n (.t a) (.t b)⟩
@[reducible] def oN(d t:Nat):IOp:=⟨none,some d, .len (.t t)⟩
@[reducible] def oX(d k t:Nat):IOp:=⟨none,some d, .extract k (.t t)⟩
@[reducible] def oK(n:Int):Opd:=.c (.int .i64 n)
@[reducible] def oZ:Opd:=.c .nils
def c5:CI:=(oR [oM 3 (.box 0 true (.t 0)),oM 4 (.box 1 true (.t 1)),oM 6 (.mv (.c (.bool false)))] (oR [oM 26 (.paddr 1 2 (.t 4)
 (oK 0)),oL 27 26,oM 28 (.paddr 1 2 (.t 4) (oK 1)),oL 29 28,oV 7 27,oV 8 29] (.seq (oR [oW 30 12 3,oM 31 (.call 10 [(.t 30)]),oM 32 (.un
 .not (.t 31)),oV 33 32,oG 33 false (oV 34 7),oG 33 false (oM 35 (.bin .lss (.t 34) (oK 0))),oM 36 (.pick (.t 33) (.c (.bool true)) (.t 35)),oV 37
 36,oG 37 false (oV 38 8),oG 37 false (oV 39 7),oG 37 false (oM 40 (.bin .lss (.t 38) (.t 39))),oM 41 (.pick (.t 37) (.c (.bool true)) (.t 40)),oV
 42 41,oG 42 false (oV 43 8),oG 42 false (oM 44 (.bin .gtr (.t 43) (oK 99))),oM 45 (.pick (.t 42) (.c (.bool true)) (.t 44)),oV 46 45,oG 46 false (oV
 47 2),oG 46 false (oM 48 (.bin .lss (.t 47) (oK 0))),oM 49 (.pick (.t 46) (.c (.bool true)) (.t 48)),oV 50 49,oG 50 false (oV 51 2),oG 50 false (oF
 52 9 3),oG 50 false (oL 53 52),oG 50 false (oN 54 53),oG 50 false (oM 55 (.bin .geq (.t 51) (.t 54))),oM 56 (.pick (.t 50) (.c (.bool true)) (.t 55))]
 (.cond (.t 56) (oR [oM 57 (.call 11 []),oV 6 57] .ret) .skip)) (oR [oW 59 12 3,oV 60 7,oM 61 (.call 17 [(.t 59),(.t 60)]),oV 58 61,
 oX 62 0 58,oX 63 1 58,oM 9 (.alloc 2 [(.int .i64 0),(.int .i64 0)]),oS (.store true 2 (.t 9) (.t 62) []),oV 10 63] (oR [oW 65 12 3,oV 66
 8,oM 67 (.call 17 [(.t 65),(.t 66)]),oV 64 67,oX 68 0 64,oX 69 1 64,oM 11 (.alloc 3 [(.int .i64 0),(.int .i64 0)]),oS (.store true 2 (.t 11) (.t
 68) []),oV 12 69] (oR [oW 71 12 3,oM 72 (.call 17 [(.t 71),(oK 0)]),oV 70 72,oX 73 0 70,oX 74 1 70,oM 13 (.alloc 4 [(.int .i64 0),(.int
 .i64 0)]),oS (.store true 2 (.t 13) (.t 73) []),oV 14 74] (.seq (oR [oV 75 10,oV 76 12,oM 77 (.bin .neq (.t 75) (.t 76)),oV 78 77,oG 78
 false (oV 79 10),oG 78 false (oV 80 14),oG 78 false (oM 81 (.bin .neq (.t 79) (.t 80))),oM 82 (.pick (.t 78) (.c (.bool true)) (.t 81)),oV 83 82,oG
 83 false (oV 84 10),oG 83 false (oM 85 (.bin .neq (.t 84) (oK 0))),oG 83 false (oV 86 85),oG 86 true (oV 87 10),oG 86 true (oM 88 (.bin .neq (.t 87)
 (oK 3))),oG 83 false (oM 89 (.pick (.t 86) (.t 88) (.c (.bool false)))),oM 90 (.pick (.t 83) (.c (.bool true)) (.t 89))] (.cond (.t 90) (oR [oM 6 (.mv (.c (.bool false)))] .ret) .skip)) (.seq (oR [oV 91 10,oM 92 (.bin .neq (.t 91) (oK 0))] (.cond (.t 92) (oR [oM 93 (.call
 11 []),oV 6 93] .ret) .skip)) (.seq (oR [oF 94 0 11,oL 95 94,oF 96 0 9,oL 97 96,oM 98 (.bin .gtr (.t 95) (.t 97)),oV 99 98,oG 99 false
 (oF 100 1 11),oG 99 false (oL 101 100),oG 99 false (oF 102 1 9),oG 99 false (oL 103 102),oG 99 false (oM 104 (.bin .gtr (.t 101) (.t 103))),oM 105
 (.pick (.t 99) (.c (.bool true)) (.t 104)),oV 106 105,oG 106 false (oW 107 2 13),oG 106 false (oF 108 9 3),oG 106 false (oL 109 108),oG 106 false
 (oN 110 109),oG 106 false (oF 111 9 3),oG 106 false (oL 112 111),oG 106 false (oN 113 112),oG 106 false (oM 114 (.build [(.int .i64 0),(.int .i64
 0)] [(0,1,(.t 110)),(1,1,(.t 113))])),oG 106 false (oM 115 (.eqs true (.node [(0,1,(.leaf true)),(1,1,(.leaf true))]) (.t 107) (.t 114))),oM
 116 (.pick (.t 106) (.c (.bool true)) (.t 115)),oV 117 116,oG 117 false (oF 118 0 9),oG 117 false (oL 119 118),oG 117 false (oM 120 (.bin .lss (.t
 119) (oK 0))),oM 121 (.pick (.t 117) (.c (.bool true)) (.t 120)),oV 122 121,oG 122 false (oF 123 1 9),oG 122 false (oL 124 123),oG 122 false (oF 125
 9 3),oG 122 false (oL 126 125),oG 122 false (oN 127 126),oG 122 false (oM 128 (.bin .gtr (.t 124) (.t 127))),oM 129 (.pick (.t 122) (.c (.bool true))
 (.t 128))] (.cond (.t 129) (oR [oM 6 (.mv (.c (.bool false)))] .ret) .skip)) (.seq (oR [oF 130 0 9,oL 131 130,oF 132 1 9,oL 133 132,
 oM 134 (.bin .neq (.t 131) (.t 133)),oV 135 134,oG 135 false (oF 136 10 3),oG 135 false (oL 137 136),oG 135 false (oN 138 137),oG 135 false (oM 139
 (.bin .geq (.t 138) (oK 5))),oM 140 (.pick (.t 135) (.c (.bool true)) (.t 139))] (.cond (.t 140) (oR [oM 141 (.call 11 []),oV 6 141] .ret)
 .skip)) (oR [oW 142 12 3,oM 143 (.callw 5 5 12 [(.t 142)]),oM 15 (.alloc 10 [.nils,(.int .i64 0),(.int .i64 0),(.int .i64 0),(.int .i64 0),
 (.int .i64 0),(.int .i64 0), .nils, .nils, .nils, .nils,(.int .i64 0)]),oS (.stz true 12 (.t 15) (.t 143) [])] (oR [oF 144 10 15,oL 145 144,
 oV 146 7,oF 147 0 9,oL 148 147,oM 149 (.build [(.int .i64 0),(.int .i64 0)] [(0,1,(.t 146)),(1,1,(.t 148))]),oM 150 (.bsl 11 36 2 [(.t 149)]
 []),oM 151 (.apd 12 36 2 16 (.t 145) (.t 150) []),oF 152 10 15,oS (.stz false 1 (.t 152) (.t 151) [])] (oR [oW 154 12 3,oM 155 (.call 15 [(.t
 154)]),oV 153 155,oX 156 0 153,oX 157 1 153,oV 16 156,oV 17 157] (oR [oW 159 12 15,oM 160 (.call 15 [(.t 159)]),oV 158 160,oX 161 0 158,
 oX 162 1 158,oV 18 161,oV 19 162] (oR [oW 164 12 3,oV 165 2,oM 166 (.callw 13 1 18 [(.t 164),(.t 165)]),oV 163 166,oX 167 0 163,oX 168
 1 163,oV 20 167,oV 21 168] (oR [oW 170 12 15,oV 171 2,oM 172 (.callw 14 1 18 [(.t 170),(.t 171)]),oV 169 172,oX 173 0 169,oX 174 1 169,
 oV 22 173,oV 23 174] (oR [oW 176 12 15,oF 177 10 3,oL 178 177,oN 179 178,oM 180 (.call 16 [(.t 176),(.t 179)]),oV 175 180,oX 181 0 175,
 oX 182 1 175,oV 24 181,oV 25 182] (oR [oV 183 17,oM 184 (.bin .eql (.t 183) (oK 0)),oV 185 184,oG 185 true (oV 186 19),oG 185 true (oM 187
 (.bin .eql (.t 186) (oK 0))),oM 188 (.pick (.t 185) (.t 187) (.c (.bool false))),oV 189 188,oG 189 true (oV 190 21),oG 189 true (oM 191 (.bin .eql
 (.t 190) (oK 0))),oM 192 (.pick (.t 189) (.t 191) (.c (.bool false))),oV 193 192,oG 193 true (oV 194 23),oG 193 true (oM 195 (.bin .eql (.t 194) (oK
 0))),oM 196 (.pick (.t 193) (.t 195) (.c (.bool false))),oV 197 196,oG 197 true (oV 198 25),oG 197 true (oM 199 (.bin .eql (.t 198) (oK 0))),oM 200
 (.pick (.t 197) (.t 199) (.c (.bool false))),oV 201 200,oG 201 true (oV 202 16),oG 201 true (oV 203 18),oG 201 true (oM 204 (.bin .eql (.t 202) (.t
 203))),oM 205 (.pick (.t 201) (.t 204) (.c (.bool false))),oV 206 205,oG 206 true (oV 207 20),oG 206 true (oV 208 22),oG 206 true (oM 209 (.call 19
 [(.t 207),(.t 208)])),oM 210 (.pick (.t 206) (.t 209) (.c (.bool false))),oV 211 210,oG 211 true (oV 212 24),oG 211 true (oM 213 (.bin .eql (.t 212)
 (oK 1))),oM 214 (.pick (.t 211) (.t 213) (.c (.bool false))),oV 215 214,oG 215 true (oM 216 (.call 11 [])),oM 217 (.pick (.t 215) (.t 216) (.c (.bool
 false))),oV 6 217] .ret))))))))))))))))))
theorem ok5:FnOk Try.prog 5 218 15 c5 [.t 6]:=⟨_,_,Try.func5,rfl,rfl,by kernel_rfl,by kernel_rfl⟩
theorem bd5:bodied Try.prog 5=true:=by kernel_rfl
def c8:CI:=(oR [oM 1 (.box 0 true (.t 0)),oM 2 (.mv (.c (.bool false)))] (.seq (oR [oW 13 12 1,oM 14 (.call 24 [(.t 13)]),oM 15
 (.un .not (.t 14))] (.cond (.t 15) (oR [oM 16 (.call 25 []),oV 2 16] .ret) .skip)) (oR [oW 18 12 1,oM 19 (.call 21 [(.t 18)]),oV 17
 19,oX 20 0 17,oX 21 1 17,oV 3 20,oV 4 21] (oR [oW 23 12 1,oM 24 (.call 22 [(.t 23)]),oV 22 24,oX 25 0 22,oX 26 1 22,oM 5 (.alloc 1 [(.int
 .i64 0),(.int .i64 0)]),oS (.store true 2 (.t 5) (.t 25) []),oV 6 26] (.seq (oR [oV 27 4,oV 28 6,oM 29 (.bin .neq (.t 27) (.t 28)),oV 30
 29,oG 30 false (oV 31 4),oG 30 false (oM 32 (.bin .neq (.t 31) (oK 0))),oG 30 false (oV 33 32),oG 33 true (oV 34 4),oG 33 true (oM 35 (.bin .neq (.t
 34) (oK 3))),oG 30 false (oM 36 (.pick (.t 33) (.t 35) (.c (.bool false)))),oM 37 (.pick (.t 30) (.c (.bool true)) (.t 36))] (.cond (.t 37) (oR [oM 2 (.mv (.c (.bool false)))] .ret) .skip)) (.seq (oR [oV 38 4,oM 39 (.bin .neq (.t 38) (oK 0))] (.cond (.t 39) (oR [oM 40 (.call
 25 []),oV 2 40] .ret) .skip)) (oR [oW 42 12 1,oM 43 (.callw 2 1 26 [(.t 42)]),oV 41 43,oX 44 0 41,oX 45 1 41,oV 7 44,oV 8 45] (.seq (oR [oV 46 8,oM 47 (.un .not (.t 46))] (.cond (.t 47) (oR [oM 2 (.mv (.c (.bool false)))] .ret) .skip)) (oR [oM 9 (.mv (.c (.bool
 true)))] (.seq (oR [oM 10 (.mv (oK 0))] (.block 0 (.loop (.seq (oR [oV 48 10,oV 49 7,oN 50 49,oM 51 (.bin .lss (.t 48) (.t 50))]
 (.cond (.t 51) .skip (.exit 0))) (.seq (.block 1 (oR [oF 55 0 1,oW 56 9 55,oV 57 7,oV 58 10,oI 59 2 57 58,oF 60 1 59,oL 61 60,oM 62 (.call
 27 [(.t 56),(.t 61)]),oV 54 62,oX 63 0 54,oX 64 1 54,oV 11 63,oV 12 64] (.seq (oR [oV 65 12,oM 66 (.bin .neq (.t 65) (oK 0)),oV 67 66,
 oG 67 false (oV 68 11),oG 67 false (oM 69 (.bin .lss (.t 68) (oK 0))),oM 70 (.pick (.t 67) (.c (.bool true)) (.t 69)),oV 71 70,oG 71 false (oV 72 11),
 oG 71 false (oM 73 (.bin .gtr (.t 72) (oK 99))),oM 74 (.pick (.t 71) (.c (.bool true)) (.t 73))] (.cond (.t 74) (oR [oM 2 (.mv (.c (.bool false)))]
 .ret) .skip)) (.reg [oV 75 9,oV 76 75,oG 76 true (oV 77 7),oG 76 true (oV 78 10),oG 76 true (oI 79 2 77 78),oG 76 true (oF 80 0 79),oG 76 true (oL
 81 80),oG 76 true (oV 82 11),oG 76 true (oM 83 (.bin .leq (.t 81) (.t 82))),oM 84 (.pick (.t 76) (.t 83) (.c (.bool false))),oV 9 84])))) (.reg [oV
 52 10,oM 53 (.bin .add (.t 52) (oK 1)),oV 10 53])))))) (oR [oV 85 9,oV 86 3,oM 87 (.bin .eql (.t 86) (oK 1)),oM 88 (.eqb false (.t 85) (.t
 87)),oV 89 88,oG 89 true (oV 90 9),oG 89 true (oF 91 1 5),oG 89 true (oL 92 91),oG 89 true (oM 93 (.bin .eql (.t 92) (oK 0))),oG 89 true (oM 94 (.eqb
 false (.t 90) (.t 93))),oM 95 (.pick (.t 89) (.t 94) (.c (.bool false))),oV 96 95,oG 96 true (oM 97 (.call 25 [])),oM 98 (.pick (.t 96) (.t 97) (.c
 (.bool false))),oV 2 98] .ret)))))))))))
theorem ok8:FnOk Try.prog 8 99 3 c8 [.t 2]:=⟨_,_,Try.func8,rfl,rfl,by kernel_rfl,by kernel_rfl⟩
theorem bd8:bodied Try.prog 8=true:=by kernel_rfl
def c9:CI:=(oR [oM 2 (.box 0 true (.t 0)),oM 3 (.box 1 true (.t 1)),oM 4 (.mv (.c (.bool false)))] (.seq (oR [oW 25 12 2,oM 26
 (.call 24 [(.t 25)]),oM 27 (.un .not (.t 26)),oV 28 27,oG 28 false (oW 29 12 2),oG 28 false (oM 30 (.call 28 [(.t 29)])),oG 28 false (oM 31 (.bin
 .neq (.t 30) (oK 0))),oM 32 (.pick (.t 28) (.c (.bool true)) (.t 31)),oV 33 32,oG 33 false (oF 34 0 3),oG 33 false (oL 35 34),oG 33 false (oF 36 1
 3),oG 33 false (oL 37 36),oG 33 false (oF 38 2 3),oG 33 false (oL 39 38),oG 33 false (oF 40 3 3),oG 33 false (oL 41 40),oG 33 false (oM 42 (.mm false
 [(.t 35),(.t 37),(.t 39),(.t 41)])),oG 33 false (oM 43 (.bin .lss (.t 42) (oK 0))),oM 44 (.pick (.t 33) (.c (.bool true)) (.t 43)),oV 45 44,oG 45
 false (oF 46 0 3),oG 45 false (oL 47 46),oG 45 false (oF 48 1 3),oG 45 false (oL 49 48),oG 45 false (oF 50 2 3),oG 45 false (oL 51 50),oG 45 false
 (oF 52 3 3),oG 45 false (oL 53 52),oG 45 false (oM 54 (.mm true [(.t 47),(.t 49),(.t 51),(.t 53)])),oG 45 false (oM 55 (.bin .gtr (.t 54) (oK 6))),
 oM 56 (.pick (.t 45) (.c (.bool true)) (.t 55))] (.cond (.t 56) (oR [oM 57 (.call 25 []),oV 4 57] .ret) .skip)) (oR [oW 58 12 2,oM
 59 (.callw 2 5 12 [(.t 58)]),oM 5 (.alloc 7 [.nils,(.int .i64 0),(.int .i64 0),(.int .i64 0),(.int .i64 0),(.int .i64 0),(.int .i64 0), .nils, .nils,
 .nils, .nils,(.int .i64 0)]),oS (.stz true 12 (.t 5) (.t 59) [])] (oR [oF 60 0 5,oF 61 0 60,oF 62 0 61,oL 63 62,oM 64 (.iaddr 7 (.t 63)
 (oK 0)),oW 65 7 64,oM 6 (.alloc 8 [(.int .i64 0),(.int .i64 0),(.int .i64 0),(.int .i64 0),(.int .i64 0),(.int .i64 0),(.int .i64 0)]),oS (.store
 true 7 (.t 6) (.t 65) [])] (oR [oF 66 0 6,oF 67 0 66,oL 68 67,oF 69 0 3,oL 70 69,oM 71 (.bin .add (.t 68) (.t 70)),oF 72 0 6,oF 73 1 72,
 oL 74 73,oF 75 1 3,oL 76 75,oM 77 (.bin .sub (.t 74) (.t 76)),oM 78 (.build [(.int .i64 0),(.int .i64 0)] [(0,1,(.t 71)),(1,1,(.t 77))]),oF
 79 0 6,oS (.store true 2 (.t 79) (.t 78) [])] (oR [oF 80 2 6,oF 81 0 80,oL 82 81,oF 83 2 3,oL 84 83,oM 85 (.bin .add (.t 82) (.t 84)),oF
 86 2 6,oF 87 1 86,oL 88 87,oF 89 3 3,oL 90 89,oM 91 (.bin .sub (.t 88) (.t 90)),oM 92 (.build [(.int .i64 0),(.int .i64 0)] [(0,1,(.t 85)),(1,
 1,(.t 91))]),oF 93 2 6,oS (.store true 2 (.t 93) (.t 92) [])] (oR [oF 94 0 5,oF 95 0 94,oF 96 0 95,oL 97 96,oW 98 7 6,oM 99 (.iaddr 7
 (.t 97) (oK 0)),oS (.store true 7 (.t 99) (.t 98) [])] (.seq (oR [oW 100 12 5,oM 101 (.call 24 [(.t 100)]),oM 102 (.un .not (.t 101))] (.cond
 (.t 102) (oR [oM 103 (.call 25 []),oV 4 103] .ret) .skip)) (oR [oF 104 0 2,oF 105 0 104,oF 106 1 105,oL 107 106,oV 7 107] (oR [oF 109 0 2,oF 110 0 109,oW 111 7 110,oV 112 7,oM 113 (.call 29 [(.t 111),(oK 0),(.t 112)]),oV 108 113,oX 114 0 108,oX 115 1 108,oX 116
 2 108,oM 8 (.alloc 9 [(.int .i64 0),(.int .i64 0)]),oM 9 (.alloc 10 [(.int .i64 0),(.int .i64 0)]),oS (.store true 2 (.t 8) (.t 114) []),oS (.store
 true 2 (.t 9) (.t 115) []),oV 10 116] (oR [oF 118 0 5,oF 119 0 118,oW 120 7 119,oV 121 7,oM 122 (.call 29 [(.t 120),(oK 0),(.t 121)]),
 oV 117 122,oX 123 0 117,oX 124 1 117,oX 125 2 117,oM 11 (.alloc 11 [(.int .i64 0),(.int .i64 0)]),oM 12 (.alloc 12 [(.int .i64 0),(.int .i64 0)]),
 oS (.store true 2 (.t 11) (.t 123) []),oS (.store true 2 (.t 12) (.t 124) []),oV 13 125] (oR [oW 127 12 2,oM 128 (.call 22 [(.t 127)]),oV
 126 128,oX 129 0 126,oX 130 1 126,oM 14 (.alloc 13 [(.int .i64 0),(.int .i64 0)]),oS (.store true 2 (.t 14) (.t 129) []),oV 15 130] (oR [oW 132 12 5,oM 133 (.call 22 [(.t 132)]),oV 131 133,oX 134 0 131,oX 135 1 131,oM 16 (.alloc 14 [(.int .i64 0),(.int .i64 0)]),oS (.store true 2
 (.t 16) (.t 134) []),oV 17 135] (.seq (oR [oV 136 10,oM 137 (.bin .neq (.t 136) (oK 0)),oV 138 137,oG 138 false (oV 139 13),oG 138 false
 (oM 140 (.bin .neq (.t 139) (oK 0))),oM 141 (.pick (.t 138) (.c (.bool true)) (.t 140)),oV 142 141,oG 142 false (oV 143 15),oG 142 false (oM 144 (.bin
 .neq (.t 143) (oK 0))),oM 145 (.pick (.t 142) (.c (.bool true)) (.t 144)),oV 146 145,oG 146 false (oV 147 17),oG 146 false (oM 148 (.bin .neq (.t 147)
 (oK 0))),oM 149 (.pick (.t 146) (.c (.bool true)) (.t 148)),oV 150 149,oG 150 false (oF 151 1 8),oG 150 false (oL 152 151),oG 150 false (oF 153 1
 9),oG 150 false (oL 154 153),oG 150 false (oF 155 1 11),oG 150 false (oL 156 155),oG 150 false (oF 157 1 12),oG 150 false (oL 158 157),oG 150 false
 (oM 159 (.mm false [(.t 152),(.t 154),(.t 156),(.t 158)])),oG 150 false (oM 160 (.bin .lss (.t 159) (oK 1))),oM 161 (.pick (.t 150) (.c (.bool true))
 (.t 160)),oV 162 161,oG 162 false (oF 163 1 8),oG 162 false (oL 164 163),oG 162 false (oF 165 1 9),oG 162 false (oL 166 165),oG 162 false (oF 167
 1 11),oG 162 false (oL 168 167),oG 162 false (oF 169 1 12),oG 162 false (oL 170 169),oG 162 false (oM 171 (.mm true [(.t 164),(.t 166),(.t 168),
 (.t 170)])),oG 162 false (oM 172 (.bin .gtr (.t 171) (oK 1073741824))),oM 173 (.pick (.t 162) (.c (.bool true)) (.t 172)),oV 174 173,oG 174 false (oF
 175 0 8),oG 174 false (oL 176 175),oG 174 false (oF 177 0 9),oG 174 false (oL 178 177),oG 174 false (oF 179 0 11),oG 174 false (oL 180 179),oG 174
 false (oF 181 0 12),oG 174 false (oL 182 181),oG 174 false (oM 183 (.mm true [(.t 176),(.t 178),(.t 180),(.t 182)])),oG 174 false (oM 184 (.bin .gtr
 (.t 183) (oK 1073741824))),oM 185 (.pick (.t 174) (.c (.bool true)) (.t 184)),oV 186 185,oG 186 false (oF 187 0 8),oG 186 false (oL 188 187),oG 186
 false (oF 189 0 9),oG 186 false (oL 190 189),oG 186 false (oF 191 0 11),oG 186 false (oL 192 191),oG 186 false (oF 193 0 12),oG 186 false (oL 194
 193),oG 186 false (oM 195 (.mm false [(.t 188),(.t 190),(.t 192),(.t 194)])),oG 186 false (oM 196 (.bin .lss (.t 195) (oK (-1073741824)))),oM 197
 (.pick (.t 186) (.c (.bool true)) (.t 196))] (.cond (.t 197) (oR [oM 4 (.mv (.c (.bool false)))] .ret) .skip)) (.seq (oR [oW 198 2 11,
 oW 199 2 8,oM 200 (.call 30 [(.t 198),(.t 199)]),oV 201 200,oG 201 false (oW 202 2 9),oG 201 false (oW 203 2 12),oG 201 false (oM 204 (.call 30 [(.t
 202),(.t 203)])),oM 205 (.pick (.t 201) (.c (.bool true)) (.t 204)),oV 206 205,oG 206 false (oF 207 0 16),oG 206 false (oL 208 207),oG 206 false
 (oF 209 0 14),oG 206 false (oL 210 209),oG 206 false (oM 211 (.bin .lss (.t 208) (.t 210))),oM 212 (.pick (.t 206) (.c (.bool true)) (.t 211)),oV 213
 212,oG 213 false (oF 214 1 16),oG 213 false (oL 215 214),oG 213 false (oF 216 1 14),oG 213 false (oL 217 216),oG 213 false (oM 218 (.bin .gtr (.t
 215) (.t 217))),oM 219 (.pick (.t 213) (.c (.bool true)) (.t 218))] (.cond (.t 219) (oR [oM 4 (.mv (.c (.bool false)))] .ret) .skip)) (.seq
 (oR [oM 18 (.mv (oK 0))] (.block 0 (.loop (.seq (oR [oV 220 18,oF 221 9 2,oL 222 221,oN 223 222,oM 224 (.bin .lss (.t 220) (.t 223))]
 (.cond (.t 224) .skip (.exit 0))) (.seq (.block 1 (oR [oF 227 9 2,oL 228 227,oV 229 18,oI 230 3 228 229,oF 231 1 230,oF 232 1 231,oL 233
 232,oF 234 9 2,oL 235 234,oV 236 18,oI 237 3 235 236,oF 238 0 237,oL 239 238,oM 240 (.build [(.int .i64 0),(.int .i64 0)] [(0,1,(.t 233)),(1,
 1,(.t 239))]),oM 19 (.alloc 15 [(.int .i64 0),(.int .i64 0)]),oS (.store true 2 (.t 19) (.t 240) [])] (oR [oF 242 0 2,oW 243 9 242,oW 244
 2 19,oM 245 (.callw 16 1 31 [(.t 243),(.t 244)]),oV 241 245,oX 246 0 241,oX 247 1 241,oV 20 246,oV 21 247] (oR [oF 249 0 5,oW 250 9 249,
 oW 251 2 19,oM 252 (.callw 17 1 31 [(.t 250),(.t 251)]),oV 248 252,oX 253 0 248,oX 254 1 248,oV 22 253,oV 23 254] (.seq (oR [oV 255 21,
 oM 256 (.bin .neq (.t 255) (oK 0)),oV 257 256,oG 257 false (oV 258 23),oG 257 false (oM 259 (.bin .neq (.t 258) (oK 0))),oM 260 (.pick (.t 257) (.c
 (.bool true)) (.t 259)),oV 261 260,oG 261 false (oV 262 20),oG 261 false (oN 263 262),oG 261 false (oV 264 22),oG 261 false (oN 265 264),oG 261 false
 (oM 266 (.bin .neq (.t 263) (.t 265))),oM 267 (.pick (.t 261) (.c (.bool true)) (.t 266)),oV 268 267,oG 268 false (oV 269 20),oG 268 false (oN 270
 269),oG 268 false (oF 271 0 2),oG 268 false (oF 272 7 271),oG 268 false (oL 273 272),oG 268 false (oN 274 273),oG 268 false (oM 275 (.bin .neq (.t
 270) (.t 274))),oM 276 (.pick (.t 268) (.c (.bool true)) (.t 275))] (.cond (.t 276) (oR [oM 4 (.mv (.c (.bool false)))] .ret) .skip)) (oR [oM 24 (.mv (oK 0))] (.block 2 (.loop (.seq (oR [oV 277 24,oV 278 20,oN 279 278,oM 280 (.bin .lss (.t 277) (.t 279))] (.cond (.t 280)
 .skip (.exit 2))) (.seq (.block 3 (oR [oV 283 22,oV 284 24,oI 285 2 283 284,oF 286 0 285,oL 287 286,oV 288 20,oV 289 24,oI 290 2 288 289,
 oF 291 0 290,oL 292 291,oM 293 (.bin .lss (.t 287) (.t 292)),oV 294 293,oG 294 false (oV 295 22),oG 294 false (oV 296 24),oG 294 false (oI 297 2
 295 296),oG 294 false (oF 298 1 297),oG 294 false (oL 299 298),oG 294 false (oV 300 20),oG 294 false (oV 301 24),oG 294 false (oI 302 2 300 301),
 oG 294 false (oF 303 1 302),oG 294 false (oL 304 303),oG 294 false (oM 305 (.bin .gtr (.t 299) (.t 304))),oM 306 (.pick (.t 294) (.c (.bool true)) (.t
 305))] (.cond (.t 306) (oR [oM 4 (.mv (.c (.bool false)))] .ret) .skip))) (.reg [oV 281 24,oM 282 (.bin .add (.t 281) (oK 1)),oV 24 282])))))))))))
 (.reg [oV 225 18,oM 226 (.bin .add (.t 225) (oK 1)),oV 18 226])))))) (oR [oM 307 (.call 25 []),oV 4 307] .ret)))))))))))))))))
theorem ok9:FnOk Try.prog 9 308 18 c9 [.t 4]:=⟨_,_,Try.func9,rfl,rfl,by kernel_rfl,by kernel_rfl⟩
theorem bd9:bodied Try.prog 9=true:=by kernel_rfl
def c10:CI:=(oR [oM 1 (.box 0 true (.t 0)),oM 2 (.mv (.c (.bool false)))] (oR [oW 3 12 1,oM 4 (.call 32 [(.t 3)]),oM 5 (.un .not
 (.t 4)),oV 6 5,oG 6 true (oW 7 12 1),oG 6 true (oM 8 (.call 33 [(.t 7)])),oG 6 true (oM 9 (.bin .eql (.t 8) (oK 0))),oM 10 (.pick (.t 6) (.t 9) (.c
 (.bool false))),oV 2 10] .ret))
theorem ok10:FnOk Try.prog 10 11 1 c10 [.t 2]:=⟨_,_,Try.func10,rfl,rfl,by kernel_rfl,by kernel_rfl⟩
theorem bd10:bodied Try.prog 10=true:=by kernel_rfl
def c11:CI:=(oR [oM 0 (.mv (.c (.bool false)))] (oR [oM 10 (.callw 0 5 34 []),oM 1 (.alloc 5 [.nils,(.int .i64 0),(.int .i64 0),
 (.int .i64 0),(.int .i64 0),(.int .i64 0),(.int .i64 0), .nils, .nils, .nils, .nils,(.int .i64 0)]),oS (.stz true 12 (.t 1) (.t 10) [])] (oR [oW 12 12 1,oM 13 (.callw 6 1 18 [(.t 12),(oK 2)]),oV 11 13,oX 14 0 11,oX 15 1 11,oV 2 14,oV 3 15] (oR [oW 17 12 1,oM 18 (.call 15 [(.t
 17)]),oV 16 18,oX 19 0 16,oX 20 1 16,oV 4 19,oV 5 20] (oR [oW 22 12 1,oM 23 (.call 22 [(.t 22)]),oV 21 23,oX 24 0 21,oX 25 1 21,oM 6
 (.alloc 7 [(.int .i64 0),(.int .i64 0)]),oS (.store true 2 (.t 6) (.t 24) []),oV 7 25] (oR [oW 27 12 1,oM 28 (.call 21 [(.t 27)]),oV 26 28,
 oX 29 0 26,oX 30 1 26,oV 8 29,oV 9 30] (oR [oV 31 3,oM 32 (.bin .eql (.t 31) (oK 0)),oV 33 32,oG 33 true (oV 34 5),oG 33 true (oM 35 (.bin
 .eql (.t 34) (oK 0))),oM 36 (.pick (.t 33) (.t 35) (.c (.bool false))),oV 37 36,oG 37 true (oV 38 7),oG 37 true (oM 39 (.bin .eql (.t 38) (oK 0))),
 oM 40 (.pick (.t 37) (.t 39) (.c (.bool false))),oV 41 40,oG 41 true (oV 42 9),oG 41 true (oM 43 (.bin .eql (.t 42) (oK 0))),oM 44 (.pick (.t 41) (.t
 43) (.c (.bool false))),oV 45 44,oG 45 true (oV 46 2),oG 45 true (oM 47 (.bsl 8 3 1 [(oK 5),(oK 6)] [])),oG 45 true (oM 48 (.call 19 [(.t 46),(.t
 47)])),oM 49 (.pick (.t 45) (.t 48) (.c (.bool false))),oV 50 49,oG 50 true (oV 51 4),oG 50 true (oM 52 (.bin .eql (.t 51) (oK 22))),oM 53 (.pick
 (.t 50) (.t 52) (.c (.bool false))),oV 54 53,oG 54 true (oW 55 2 6),oG 54 true (oM 56 (.build [(.int .i64 0),(.int .i64 0)] [(1,1,(oK 2))])),oG
 54 true (oM 57 (.eqs false (.node [(0,1,(.leaf true)),(1,1,(.leaf true))]) (.t 55) (.t 56))),oM 58 (.pick (.t 54) (.t 57) (.c (.bool false))),oV
 59 58,oG 59 true (oV 60 8),oG 59 true (oM 61 (.bin .eql (.t 60) (oK 3))),oM 62 (.pick (.t 59) (.t 61) (.c (.bool false))),oV 0 62] .ret)))))))
theorem ok11:FnOk Try.prog 11 63 9 c11 [.t 0]:=⟨_,_,Try.func11,rfl,rfl,by kernel_rfl,by kernel_rfl⟩
theorem bd11:bodied Try.prog 11=true:=by kernel_rfl
def c12:CI:=(oR [oM 1 (.box 0 true (.t 0)),oM 2 (.alloc 1 [.nils,(.int .i64 0),(.int .i64 0),(.int .i64 0),(.int .i64 0),(.int .i64 0),
 (.int .i64 0), .nils, .nils, .nils, .nils,(.int .i64 0)])] (oR [oW 4 12 1,oM 3 (.alloc 2 [.nils,(.int .i64 0),(.int .i64 0),(.int .i64 0),
 (.int .i64 0),(.int .i64 0),(.int .i64 0), .nils, .nils, .nils, .nils,(.int .i64 0)]),oS (.stz true 12 (.t 3) (.t 4) [])] (oR [oF 5 0 1,oW
 6 9 5,oM 7 (.callw 3 3 35 [(.t 6)]),oF 8 0 3,oS (.stz true 9 (.t 8) (.t 7) [])] (oR [oF 10 9 1,oL 11 10,oF 14 10 1,oL 15 14,oM 9 (.bsl
 6 62 3 [] []),oM 12 (.apd 7 62 3 24 (.t 9) (.t 11) [(.t 14)]),oM 13 (.bsl 8 36 2 [] [(.t 9),(.t 11)]),oM 16 (.apd 9 36 2 16 (.t 13) (.t 15) []),oF
 17 9 3,oS (.stz false 1 (.t 17) (.t 12) []),oF 18 10 3,oS (.stz false 1 (.t 18) (.t 16) [])] (oR [oW 19 12 3,oS (.stz true 12 (.t 2) (.t 19)
 [])] .ret)))))
theorem ok12:FnOk Try.prog 12 20 10 c12 [.cell 2 true 12]:=⟨_,_,Try.func12,rfl,rfl,by kernel_rfl,by kernel_rfl⟩
theorem bd12:bodied Try.prog 12=true:=by kernel_rfl
def c14:CI:=(oR [oM 1 (.box 0 true (.t 0)),oM 2 (.mv (oK 0)),oM 3 (.mv (oK 0))] (.seq (oR [oW 5 12 1,oM 6 (.call 37 [(.t 5)]),
 oV 4 6] (oR [oV 7 4,oM 8 (.bin .neq (.t 7) (oK 0))] (.cond (.t 8) (oR [oV 9 4,oM 2 (.mv (oK 0)),oV 3 9] .ret) .skip))) (oR [oW 10 12 1,oM 11 (.build [.nils,(.int .i64 0),(.int .i64 0),(.int .i64 0),(.int .i64 0),(.int .i64 0),(.int .i64 0), .nils, .nils, .nils, .nils,
 (.int .i64 0)] [(0,12,(.t 10))]),oM 12 (.call 38 [(.t 11)]),oV 2 12,oM 3 (.mv (oK 0))] .ret)))
theorem ok14:FnOk Try.prog 14 13 1 c14 [.t 2, .t 3]:=⟨_,_,Try.func14,rfl,rfl,by kernel_rfl,by kernel_rfl⟩
theorem bd14:bodied Try.prog 14=true:=by kernel_rfl
def c15:CI:=(oR [oM 1 (.box 0 true (.t 0)),oM 2 (.mv (oK 0)),oM 3 (.mv (oK 0))] (oR [oW 10 12 1,oM 11 (.callw 1 5 39 [(.t 10),
 (.c (.bool true))]),oV 9 11,oX 12 0 9,oX 13 1 9,oM 4 (.alloc 6 [.nils,(.int .i64 0),(.int .i64 0),(.int .i64 0),(.int .i64 0),(.int .i64 0),(.int
 .i64 0), .nils, .nils, .nils, .nils,(.int .i64 0)]),oS (.stz true 12 (.t 4) (.t 12) []),oV 5 13] (.seq (oR [oV 14 5,oM 15 (.bin .neq (.t 14)
 (oK 0))] (.cond (.t 15) (oR [oV 16 5,oM 2 (.mv (oK 0)),oV 3 16] .ret) .skip)) (oR [oM 6 (.mv (oK 0))] (.seq (oR [oW 17 12
 4,oM 18 (.callw 7 1 40 [(.t 17),(.c (.fn 41 []))]),oM 19 (.mrx 8 (.t 18))] (.block 0 (.loop (oR [oM 20 (.mnz (.t 19)),oX 21 0 20] (.seq (.cond
 (.t 21) .skip (.exit 0)) (.block 1 (oR [oM 22 (.mez (.t 19)),oX 23 1 22,oV 8 23] (.reg [oV 24 6,oV 25 8,oM 26 (.bin .add (.t 24) (.t 25)),
 oV 6 26])))))))) (oR [oV 27 6,oV 2 27,oM 3 (.mv (oK 0))] .ret))))))
theorem ok15:FnOk Try.prog 15 28 9 c15 [.t 2, .t 3]:=⟨_,_,Try.func15,rfl,rfl,by kernel_rfl,by kernel_rfl⟩
theorem bd15:bodied Try.prog 15=true:=by kernel_rfl
def c16:CI:=(oR [oM 2 (.box 0 true (.t 0)),oM 4 (.mv (oK 0)),oM 5 (.mv (oK 0))] (oR [oW 13 12 2,oW 14 12 2,oV 15 1,oM 6 (.alloc
 6 [.nils,(.int .i64 0),(.int .i64 0),(.int .i64 0),(.int .i64 0),(.int .i64 0),(.int .i64 0), .nils, .nils, .nils, .nils,(.int .i64 0)]),oM 16
 (.call 42 [(.t 14),(.t 15)]),oM 17 (.callz 1 5 39 [(.t 13),(.t 16)] []),oV 12 17,oX 18 0 12,oX 19 1 12,oS (.stz true 12 (.t 6) (.t 18) []),oV 7
 19] (.seq (oR [oV 20 7,oM 21 (.bin .neq (.t 20) (oK 0))] (.cond (.t 21) (oR [oV 22 7,oM 4 (.mv (oK 0)),oV 5 22] .ret) .skip)) (oR [oM 8 (.mv (.c (.bool false))),oM 9 (.mv (.c (.bool false)))] (.seq (oR [oW 23 12 6,oM 24 (.callw 7 1 40 [(.t 23),(.c (.fn 41 []))]),
 oM 25 (.mrx 8 (.t 24))] (.block 0 (.loop (oR [oM 26 (.mnz (.t 25)),oX 27 0 26] (.seq (.cond (.t 27) .skip (.exit 0)) (.block 1 (oR [oM
 28 (.mez (.t 25)),oX 29 0 28,oM 10 (.alloc 9 [(.int .i64 0),(.int .i64 0),(.int .i64 0),(.int .i64 0),(.int .i64 0),(.int .i64 0)]),oS (.store
 true 6 (.t 10) (.t 29) [])] (oR [oV 30 1,oM 31 (.paddr 1 6 (.t 10) (.t 30)),oL 32 31,oF 33 0 6,oF 34 10 33,oL 35 34,oV 36 1,oI 37 2 35
 36,oF 38 1 37,oL 39 38,oM 40 (.bin .eql (.t 32) (.t 39)),oV 11 40] (.reg [oV 41 8,oV 42 41,oG 42 false (oV 43 11),oM 44 (.pick (.t 42) (.c (.bool
 true)) (.t 43)),oV 45 9,oV 46 45,oG 46 false (oV 47 11),oG 46 false (oM 48 (.un .not (.t 47))),oM 49 (.pick (.t 46) (.c (.bool true)) (.t 48)),oV
 8 44,oV 9 49]))))))))) (.seq (.block 2 (oR [oV 51 9,oM 52 (.un .not (.t 51)),oV 50 52] (.cond (.t 50) (oR [oM 4 (.mv (oK 1)),oM 5
 (.mv (oK 0))] .ret) (oR [oV 54 8,oM 55 (.un .not (.t 54)),oV 53 55] (.cond (.t 53) (oR [oM 4 (.mv (oK 2)),oM 5 (.mv (oK 0))] .ret)
 .skip))))) (oR [oM 4 (.mv (oK 3)),oM 5 (.mv (oK 0))] .ret)))))))
theorem ok16:FnOk Try.prog 16 56 10 c16 [.t 4, .t 5]:=⟨_,_,Try.func16,rfl,rfl,by kernel_rfl,by kernel_rfl⟩
theorem bd16:bodied Try.prog 16=true:=by kernel_rfl
def c17:CI:=(oR [oM 2 (.box 0 true (.t 0)),oM 3 (.box 1 false (.t 1)),oM 4 (.alloc 2 [(.int .i64 0),(.int .i64 0)]),oM 5 (.mv (oK 0))]
 (oR [oW 9 12 2,oL 10 3,oM 6 (.alloc 8 [.nils,(.int .i64 0),(.int .i64 0),(.int .i64 0),(.int .i64 0),(.int .i64 0),(.int .i64 0), .nils,
 .nils, .nils, .nils,(.int .i64 0)]),oM 11 (.call 43 [(.t 10)]),oM 12 (.callz 3 5 39 [(.t 9),(.t 11)] []),oV 8 12,oX 13 0 8,oX 14 1 8,oS (.stz true
 12 (.t 6) (.t 13) []),oV 7 14] (.seq (oR [oV 15 7,oM 16 (.bin .neq (.t 15) (oK 0))] (.cond (.t 16) (oR [oM 17 (.build [(.int .i64 0),
 (.int .i64 0)] []),oV 18 7,oS (.store true 2 (.t 4) (.t 17) []),oV 5 18] .ret) .skip)) (oR [oW 19 12 6,oM 20 (.mkfn 45 [(.t 3)]),oM 21 (.call
 44 [(.t 19),(.t 20)]),oS (.store true 2 (.t 4) (.t 21) []),oM 5 (.mv (oK 0))] .ret))))
theorem ok17:FnOk Try.prog 17 22 9 c17 [.cell 4 true 2, .t 5]:=⟨_,_,Try.func17,rfl,rfl,by kernel_rfl,by kernel_rfl⟩
theorem bd17:bodied Try.prog 17=true:=by kernel_rfl
def c18:CI:=(oR [oM 2 (.box 0 true (.t 0)),oM 4 (.mv oZ),oM 5 (.mv (oK 0))] (oR [oW 11 12 2,oW 12 12 2,oV 13 1,oM 6 (.alloc 6
 [.nils,(.int .i64 0),(.int .i64 0),(.int .i64 0),(.int .i64 0),(.int .i64 0),(.int .i64 0), .nils, .nils, .nils, .nils,(.int .i64 0)]),oM 14 (.call
 46 [(.t 12),(.t 13)]),oM 15 (.callz 1 5 39 [(.t 11),(.t 14)] []),oV 10 15,oX 16 0 10,oX 17 1 10,oS (.stz true 12 (.t 6) (.t 16) []),oV 7 17] (.seq
 (oR [oV 18 7,oM 19 (.bin .neq (.t 18) (oK 0))] (.cond (.t 19) (oR [oV 20 7,oM 4 (.mv oZ),oV 5 20] .ret) .skip)) (oR [oM 8
 (.mv oZ)] (.seq (oR [oF 21 0 6,oF 22 9 21,oL 23 22,oV 24 1,oI 25 3 23 24,oF 26 1 25,oF 27 0 26,oL 28 27,oV 9 28] (.block 0 (.loop (.seq
 (oR [oV 29 9,oF 30 0 6,oF 31 9 30,oL 32 31,oV 33 1,oI 34 3 32 33,oF 35 1 34,oF 36 1 35,oL 37 36,oM 38 (.bin .leq (.t 29) (.t 37))] (.cond
 (.t 38) .skip (.exit 0))) (.seq (.block 1 (oR [oW 41 12 6,oV 42 1,oV 43 9,oM 44 (.call 47 [(.t 41),(.t 42),(.t 43)])] (.cond (.t 44) (.reg
 [oV 45 8,oV 46 9,oM 47 (.bsl 7 3 1 [(.t 46)] []),oM 48 (.apd 8 3 1 8 (.t 45) (.t 47) []),oV 8 48]) .skip))) (.reg [oV 39 9,oM 40 (.bin .add (.t 39)
 (oK 1)),oV 9 40])))))) (oR [oV 49 8,oV 4 49,oM 5 (.mv (oK 0))] .ret))))))
theorem ok18:FnOk Try.prog 18 50 9 c18 [.t 4, .t 5]:=⟨_,_,Try.func18,rfl,rfl,by kernel_rfl,by kernel_rfl⟩
theorem bd18:bodied Try.prog 18=true:=by kernel_rfl
def c19:CI:=(oR [oM 4 (.mv (.c (.bool false)))] (.seq (oR [oV 6 0,oN 7 6,oV 8 1,oN 9 8,oM 10 (.bin .neq (.t 7) (.t 9))] (.cond
 (.t 10) (oR [oM 4 (.mv (.c (.bool false)))] .ret) .skip)) (.seq (oR [oM 5 (.mv (oK 0))] (.block 0 (.loop (.seq (oR [oV 11 5,
 oV 12 0,oN 13 12,oM 14 (.bin .lss (.t 11) (.t 13))] (.cond (.t 14) .skip (.exit 0))) (.seq (.block 1 (oR [oV 17 0,oV 18 5,oI 19 1 17 18,oL
 20 19,oV 21 1,oV 22 5,oI 23 1 21 22,oL 24 23,oM 25 (.bin .neq (.t 20) (.t 24))] (.cond (.t 25) (oR [oM 4 (.mv (.c (.bool false)))] .ret)
 .skip))) (.reg [oV 15 5,oM 16 (.bin .add (.t 15) (oK 1)),oV 5 16])))))) (oR [oM 4 (.mv (.c (.bool true)))] .ret))))
theorem ok19:FnOk Try.prog 19 26 0 c19 [.t 4]:=⟨_,_,Try.func19,rfl,rfl,by kernel_rfl,by kernel_rfl⟩
theorem bd19:bodied Try.prog 19=true:=by kernel_rfl
def c20:CI:=(oR [oM 2 (.box 0 true (.t 0)),oM 4 (.mv (.c (.bool false)))] (oR [oV 5 1,oF 6 7 2,oL 7 6,oN 8 7,oM 9 (.bin .sub
 (.t 8) (oK 1)),oM 10 (.call 48 [(.t 5),(oK 0),(.t 9)]),oV 4 10] .ret))
theorem ok20:FnOk Try.prog 20 11 1 c20 [.t 4]:=⟨_,_,Try.func20,rfl,rfl,by kernel_rfl,by kernel_rfl⟩
theorem bd20:bodied Try.prog 20=true:=by kernel_rfl
def c21:CI:=(oR [oM 1 (.box 0 true (.t 0)),oM 2 (.mv (oK 0)),oM 3 (.mv (oK 0))] (oR [oW 7 12 1,oM 8 (.call 22 [(.t 7)]),oV 6 8,
 oX 9 0 6,oX 10 1 6,oM 4 (.alloc 1 [(.int .i64 0),(.int .i64 0)]),oS (.store true 2 (.t 4) (.t 9) []),oV 5 10] (.seq (.block 0 (oR [oV 12
 5,oM 13 (.bin .neq (.t 12) (oK 0)),oV 11 13] (.cond (.t 11) (oR [oV 14 5,oM 2 (.mv (oK 0)),oV 3 14] .ret) (oR [oF 16 1 4,oL 17 16,
 oM 18 (.bin .eql (.t 17) (oK 0)),oV 15 18] (.cond (.t 15) (oR [oM 2 (.mv (oK 1)),oM 3 (.mv (oK 0))] .ret) (oR [oF 20 0 4,oL 21 20,
 oM 22 (.bin .gtr (.t 21) (oK 0)),oV 19 22] (.cond (.t 19) (oR [oM 2 (.mv (oK 2)),oM 3 (.mv (oK 0))] .ret) .skip))))))) (oR [oM 2 (.mv
 (oK 3)),oM 3 (.mv (oK 0))] .ret))))
theorem ok21:FnOk Try.prog 21 23 2 c21 [.t 2, .t 3]:=⟨_,_,Try.func21,rfl,rfl,by kernel_rfl,by kernel_rfl⟩
theorem bd21:bodied Try.prog 21=true:=by kernel_rfl
def c22:CI:=(oR [oM 1 (.box 0 true (.t 0)),oM 2 (.alloc 1 [(.int .i64 0),(.int .i64 0)]),oM 3 (.mv (oK 0))] (oR [oW 9 12 1,oM
 10 (.callw 2 5 39 [(.t 9),(.c (.bool true))]),oV 8 10,oX 11 0 8,oX 12 1 8,oM 4 (.alloc 7 [.nils,(.int .i64 0),(.int .i64 0),(.int .i64 0),(.int
 .i64 0),(.int .i64 0),(.int .i64 0), .nils, .nils, .nils, .nils,(.int .i64 0)]),oS (.stz true 12 (.t 4) (.t 11) []),oV 5 12] (.seq (oR [oV
 13 5,oM 14 (.bin .neq (.t 13) (oK 0))] (.cond (.t 14) (oR [oM 15 (.build [(.int .i64 0),(.int .i64 0)] []),oV 16 5,oS (.store true 2 (.t 2)
 (.t 15) []),oV 3 16] .ret) .skip)) (oR [oW 17 12 4,oM 18 (.mkfn 49 [(.t 4)]),oM 19 (.call 44 [(.t 17),(.t 18)]),oM 6 (.alloc 8 [(.int .i64
 0),(.int .i64 0)]),oS (.store true 2 (.t 6) (.t 19) [])] (oR [oW 20 12 4,oM 21 (.mkfn 51 [(.t 4)]),oM 22 (.call 44 [(.t 20),(.t 21)]),oM
 7 (.alloc 9 [(.int .i64 0),(.int .i64 0)]),oS (.store true 2 (.t 7) (.t 22) [])] (oR [oF 23 0 6,oL 24 23,oF 25 1 7,oL 26 25,oM 27 (.build
 [(.int .i64 0),(.int .i64 0)] [(0,1,(.t 24)),(1,1,(.t 26))]),oS (.store true 2 (.t 2) (.t 27) []),oM 3 (.mv (oK 0))] .ret))))))
theorem ok22:FnOk Try.prog 22 28 10 c22 [.cell 2 true 2, .t 3]:=⟨_,_,Try.func22,rfl,rfl,by kernel_rfl,by kernel_rfl⟩
theorem bd22:bodied Try.prog 22=true:=by kernel_rfl
def c23:CI:=(oR [oM 2 (.box 0 true (.t 0)),oM 4 (.mv (oK 0)),oM 5 (.mv (oK 0))] (oR [oW 10 9 2,oV 11 1,oM 12 (.callw 1 4 52 [(.t
 10),(.t 11)]),oV 9 12,oX 13 0 9,oX 14 1 9,oX 15 2 9,oM 6 (.alloc 5 [(.int .i64 0), .nils, .nils]),oM 7 (.alloc 6 [(.int .i64 0), .nils, .nils]),
 oS (.stz true 3 (.t 6) (.t 13) []),oS (.stz true 3 (.t 7) (.t 14) []),oV 8 15] (.seq (.block 0 (oR [oV 17 8,oM 18 (.bin .neq (.t 17) (oK 0)),
 oV 16 18] (.cond (.t 16) (oR [oV 19 8,oM 4 (.mv (oK 0)),oV 5 19] .ret) (oR [oW 21 3 7,oV 22 1,oM 23 (.call 53 [(.t 21),(.t 22)]),
 oV 20 23] (.cond (.t 20) (oR [oM 4 (.mv (oK 1)),oM 5 (.mv (oK 0))] .ret) (oR [oW 25 3 6,oV 26 1,oM 27 (.call 53 [(.t 25),(.t 26)]),
 oV 24 27] (.cond (.t 24) (oR [oM 4 (.mv (oK 3)),oM 5 (.mv (oK 0))] .ret) .skip))))))) (oR [oM 4 (.mv (oK 2)),oM 5 (.mv (oK 0))] .ret))))
theorem ok23:FnOk Try.prog 23 28 7 c23 [.t 4, .t 5]:=⟨_,_,Try.func23,rfl,rfl,by kernel_rfl,by kernel_rfl⟩
theorem bd23:bodied Try.prog 23=true:=by kernel_rfl
def c24:CI:=(oR [oM 1 (.box 0 true (.t 0)),oM 2 (.mv (.c (.bool false)))] (oR [oW 3 12 1,oM 4 (.call 32 [(.t 3)]),oM 5 (.un .not
 (.t 4)),oV 6 5,oG 6 true (oW 7 12 1),oG 6 true (oM 8 (.call 33 [(.t 7)])),oG 6 true (oM 9 (.bin .eql (.t 8) (oK 0))),oM 10 (.pick (.t 6) (.t 9) (.c
 (.bool false))),oV 2 10] .ret))
theorem ok24:FnOk Try.prog 24 11 1 c24 [.t 2]:=⟨_,_,Try.func24,rfl,rfl,by kernel_rfl,by kernel_rfl⟩
theorem bd24:bodied Try.prog 24=true:=by kernel_rfl
def c25:CI:=(oR [oM 0 (.mv (.c (.bool false)))] (oR [oM 6 (.callw 0 3 55 []),oM 7 (.call 54 [(.t 6)]),oV 5 7,oX 8 0 5,oX 9 1 5,
 oM 1 (.alloc 3 [(.int .i64 0),(.int .i64 0)]),oS (.store true 2 (.t 1) (.t 8) []),oV 2 9] (oR [oM 11 (.callw 4 5 34 []),oM 12 (.call 15 [(.t
 11)]),oV 10 12,oX 13 0 10,oX 14 1 10,oV 3 13,oV 4 14] (oR [oV 15 2,oM 16 (.bin .eql (.t 15) (oK 0)),oV 17 16,oG 17 true (oV 18 4),oG
 17 true (oM 19 (.bin .eql (.t 18) (oK 0))),oM 20 (.pick (.t 17) (.t 19) (.c (.bool false))),oV 21 20,oG 21 true (oW 22 2 1),oG 21 true (oM 23 (.build
 [(.int .i64 0),(.int .i64 0)] [(0,1,(oK 65)),(1,1,(oK 76))])),oG 21 true (oM 24 (.eqs false (.node [(0,1,(.leaf true)),(1,1,(.leaf true))])
 (.t 22) (.t 23))),oM 25 (.pick (.t 21) (.t 24) (.c (.bool false))),oV 26 25,oG 26 true (oV 27 3),oG 26 true (oM 28 (.bin .eql (.t 27) (oK 22))),oM
 29 (.pick (.t 26) (.t 28) (.c (.bool false))),oV 0 29] .ret))))
theorem ok25:FnOk Try.prog 25 30 9 c25 [.t 0]:=⟨_,_,Try.func25,rfl,rfl,by kernel_rfl,by kernel_rfl⟩
theorem bd25:bodied Try.prog 25=true:=by kernel_rfl
def c26:CI:=(oR [oM 1 (.box 0 true (.t 0)),oM 2 (.mv oZ),oM 3 (.mv (.c (.bool false)))] (oR [oM 4 (.mv oZ)] (.seq (oR [oM
 5 (.mv (oK 0))] (.block 0 (.loop (.seq (oR [oV 8 5,oF 9 9 1,oL 10 9,oN 11 10,oM 12 (.bin .lss (.t 8) (.t 11))] (.cond (.t 12) .skip (.exit
 0))) (.seq (.block 1 (oR [oW 16 12 1,oV 17 5,oM 18 (.callw 1 1 18 [(.t 16),(.t 17)]),oV 15 18,oX 19 0 15,oX 20 1 15,oV 6 19,oV 7 20] (.seq
 (oR [oV 21 7,oM 22 (.bin .neq (.t 21) (oK 0)),oV 23 22,oG 23 false (oV 24 6),oG 23 false (oN 25 24),oG 23 false (oM 26 (.bin .eql (.t 25)
 (oK 0))),oM 27 (.pick (.t 23) (.c (.bool true)) (.t 26)),oV 28 27,oG 28 false (oV 29 6),oG 28 false (oN 30 29),oG 28 false (oM 31 (.bin .gtr (.t 30)
 (oK 20))),oM 32 (.pick (.t 28) (.c (.bool true)) (.t 31))] (.cond (.t 32) (oR [oM 2 (.mv oZ),oM 3 (.mv (.c (.bool false)))] .ret) .skip)) (.reg
 [oV 33 4,oV 34 6,oV 35 6,oN 36 35,oM 37 (.bin .sub (.t 36) (oK 1)),oI 38 1 34 37,oL 39 38,oF 40 9 1,oL 41 40,oV 42 5,oI 43 3 41 42,oF 44 0 43,
 oL 45 44,oM 46 (.build [(.int .i64 0),(.int .i64 0)] [(0,1,(.t 39)),(1,1,(.t 45))]),oM 47 (.bsl 2 64 2 [(.t 46)] []),oM 48 (.apd 3 64 2 16 (.t
 33) (.t 47) []),oV 4 48])))) (.reg [oV 13 5,oM 14 (.bin .add (.t 13) (oK 1)),oV 5 14])))))) (oR [oV 49 4,oV 2 49,oM 3 (.mv (.c (.bool true)))]
 .ret))))
theorem ok26:FnOk Try.prog 26 50 4 c26 [.t 2, .t 3]:=⟨_,_,Try.func26,rfl,rfl,by kernel_rfl,by kernel_rfl⟩
theorem bd26:bodied Try.prog 26=true:=by kernel_rfl
def c27:CI:=(oR [oM 2 (.box 0 true (.t 0)),oM 4 (.mv (oK 0)),oM 5 (.mv (oK 0))] (oR [oW 11 9 2,oV 12 1,oM 13 (.build [(.int .i64
 0),(.int .i64 0)] [(1,1,(.t 12))]),oM 14 (.bsl 1 64 2 [(.t 13)] []),oM 15 (.callw 2 4 52 [(.t 11),(.t 14)]),oV 10 15,oX 16 0 10,oX 17 1 10,oX
 18 2 10,oM 6 (.alloc 6 [(.int .i64 0), .nils, .nils]),oM 7 (.alloc 7 [(.int .i64 0), .nils, .nils]),oS (.stz true 3 (.t 6) (.t 16) []),oS (.stz true
 3 (.t 7) (.t 17) []),oV 8 18] (.seq (oR [oV 19 8,oM 20 (.bin .neq (.t 19) (oK 0))] (.cond (.t 20) (oR [oV 21 8,oM 4 (.mv (oK 0)),
 oV 5 21] .ret) .skip)) (oR [oM 9 (.mv (oK 99))] (.seq (.block 0 (.loop (.seq (oR [oW 22 3 7,oV 23 9,oV 24 1,oM 25 (.build [(.int .i64
 0),(.int .i64 0)] [(0,1,(.t 23)),(1,1,(.t 24))]),oM 26 (.bsl 8 64 2 [(.t 25)] []),oM 27 (.call 53 [(.t 22),(.t 26)]),oM 28 (.un .not (.t 27))]
 (.cond (.t 28) .skip (.exit 0))) (.block 1 (.reg [oV 29 9,oM 30 (.bin .sub (.t 29) (oK 1)),oV 9 30]))))) (oR [oV 31 9,oV 4 31,oM 5 (.mv (oK
 0))] .ret))))))
theorem ok27:FnOk Try.prog 27 32 9 c27 [.t 4, .t 5]:=⟨_,_,Try.func27,rfl,rfl,by kernel_rfl,by kernel_rfl⟩
theorem bd27:bodied Try.prog 27=true:=by kernel_rfl
def c28:CI:=(oR [oM 1 (.box 0 true (.t 0)),oM 2 (.mv (oK 0))] (oR [oW 6 12 1,oM 7 (.callw 1 1 56 [(.t 6),(.c (.bool true))]),oV
 5 7,oX 8 0 5,oX 9 1 5,oV 3 8,oV 4 9] (oR [oV 10 4,oV 2 10] .ret)))
theorem ok28:FnOk Try.prog 28 11 2 c28 [.t 2]:=⟨_,_,Try.func28,rfl,rfl,by kernel_rfl,by kernel_rfl⟩
theorem bd28:bodied Try.prog 28=true:=by kernel_rfl
def c29:CI:=(oR [oM 3 (.box 0 true (.t 0)),oM 6 (.alloc 1 [(.int .i64 0),(.int .i64 0)]),oM 7 (.alloc 2 [(.int .i64 0),(.int .i64 0)]),
 oM 8 (.mv (oK 0))] (.seq (oR [oW 11 7 3,oV 12 1,oV 13 2,oM 14 (.call 57 [(.t 11),(.t 12),(.t 13)]),oV 9 14] (oR [oV 15 9,oM 16
 (.bin .neq (.t 15) (oK 0))] (.cond (.t 16) (oR [oM 17 (.build [(.int .i64 0),(.int .i64 0)] []),oM 18 (.build [(.int .i64 0),(.int .i64 0)]
 []),oV 19 9,oS (.store true 2 (.t 6) (.t 17) []),oS (.store true 2 (.t 7) (.t 18) []),oV 8 19] .ret) .skip))) (oR [oW 20 7 3,oV 21 1,oV
 22 2,oM 23 (.call 58 [(.t 20),(.t 21),(.t 22)]),oV 10 23] (.seq (oR [oV 24 10,oM 25 (.bin .eql (.t 24) (oK 0))] (.cond (.t 25) (oR [oM 26 (.build [(.int .i64 0),(.int .i64 0)] []),oM 27 (.build [(.int .i64 0),(.int .i64 0)] []),oS (.store true 2 (.t 6) (.t 26) []),oS (.store true
 2 (.t 7) (.t 27) []),oM 8 (.mv (oK 3))] .ret) .skip)) (oR [oF 29 0 3,oL 30 29,oV 31 1,oI 32 7 30 31,oW 33 7 32,oV 34 10,oM 35 (.call 59
 [(.t 33),(.t 34)]),oV 28 35,oX 36 0 28,oX 37 1 28,oS (.store true 2 (.t 6) (.t 36) []),oS (.store true 2 (.t 7) (.t 37) [])] (oR [oW 38
 2 6,oW 40 2 7,oM 39 (.call 60 [(.t 38)]),oM 41 (.call 60 [(.t 40)]),oS (.store true 2 (.t 6) (.t 39) []),oS (.store true 2 (.t 7) (.t 41) []),oM
 8 (.mv (oK 0))] .ret))))))
theorem ok29:FnOk Try.prog 29 42 3 c29 [.cell 6 true 2, .cell 7 true 2, .t 8]:=⟨_,_,Try.func29,rfl,rfl,by kernel_rfl,by kernel_rfl⟩
theorem bd29:bodied Try.prog 29=true:=by kernel_rfl
def c30:CI:=(oR [oM 2 (.box 0 true (.t 0)),oM 3 (.box 1 true (.t 1)),oM 4 (.mv (.c (.bool false)))] (oR [oF 5 0 2,oL 6 5,oF 7
 1 3,oL 8 7,oM 9 (.bin .mul (.t 6) (.t 8)),oF 10 0 3,oL 11 10,oF 12 1 2,oL 13 12,oM 14 (.bin .mul (.t 11) (.t 13)),oM 15 (.bin .lss (.t 9) (.t 14)),
 oV 4 15] .ret))
theorem ok30:FnOk Try.prog 30 16 2 c30 [.t 4]:=⟨_,_,Try.func30,rfl,rfl,by kernel_rfl,by kernel_rfl⟩
theorem bd30:bodied Try.prog 30=true:=by kernel_rfl
def c31:CI:=(oR [oM 2 (.box 0 true (.t 0)),oM 3 (.box 1 true (.t 1)),oM 4 (.mv oZ),oM 5 (.mv (oK 0))] (oR [oW 12 9 2,oW 13 2 3,
 oM 14 (.bsl 2 64 2 [(.t 13)] []),oM 15 (.callw 3 4 52 [(.t 12),(.t 14)]),oV 11 15,oX 16 0 11,oX 17 1 11,oX 18 2 11,oM 6 (.alloc 7 [(.int .i64 0),
 .nils, .nils]),oM 7 (.alloc 8 [(.int .i64 0), .nils, .nils]),oS (.stz true 3 (.t 6) (.t 16) []),oS (.stz true 3 (.t 7) (.t 17) []),oV 8 18] (.seq
 (oR [oV 19 8,oM 20 (.bin .neq (.t 19) (oK 0))] (.cond (.t 20) (oR [oV 21 8,oM 4 (.mv oZ),oV 5 21] .ret) .skip)) (oR [oM 9
 (.mv oZ)] (.seq (oR [oF 22 7 2,oL 23 22,oN 24 23,oM 25 (.mv (oK 0))] (.block 0 (.loop (oR [oM 26 (.bin .lss (.t 25) (.t 24))] (.seq
 (.cond (.t 26) .skip (.exit 0)) (.seq (.block 1 (oR [oV 27 25,oV 10 27] (.reg [oV 28 9,oW 29 3 6,oW 30 2 3,oV 31 10,oW 33 3 7,oW 34 2 3,
 oV 35 10,oM 32 (.call 61 [(.t 29),(.t 30),(.t 31)]),oM 36 (.call 61 [(.t 33),(.t 34),(.t 35)]),oM 37 (.build [(.int .i64 0),(.int .i64 0)] [(0,
 1,(.t 32)),(1,1,(.t 36))]),oM 38 (.bsl 9 49 2 [(.t 37)] []),oM 39 (.apd 10 49 2 16 (.t 28) (.t 38) []),oV 9 39]))) (.reg [oM 40 (.bin .add (.t 25)
 (oK 1)),oV 25 40]))))))) (oR [oV 41 9,oV 4 41,oM 5 (.mv (oK 0))] .ret))))))
theorem ok31:FnOk Try.prog 31 42 11 c31 [.t 4, .t 5]:=⟨_,_,Try.func31,rfl,rfl,by kernel_rfl,by kernel_rfl⟩
theorem bd31:bodied Try.prog 31=true:=by kernel_rfl
def c32:CI:=(oR [oM 1 (.box 0 true (.t 0)),oM 2 (.mv (.c (.bool false)))] (.seq (oR [oF 5 0 1,oW 6 9 5,oM 7 (.call 62 [(.t 6)]),
 oV 8 7,oG 8 false (oF 9 9 1),oG 8 false (oL 10 9),oG 8 false (oN 11 10),oG 8 false (oM 12 (.bin .gtr (.t 11) (oK 40))),oM 13 (.pick (.t 8) (.c (.bool
 true)) (.t 12)),oV 14 13,oG 14 false (oF 15 10 1),oG 14 false (oL 16 15),oG 14 false (oN 17 16),oG 14 false (oM 18 (.bin .gtr (.t 17) (oK 40))),oM
 19 (.pick (.t 14) (.c (.bool true)) (.t 18))] (.cond (.t 19) (oR [oM 2 (.mv (.c (.bool true)))] .ret) .skip)) (.seq (oR [oW 20 12 1,
 oM 21 (.call 33 [(.t 20)]),oM 22 (.bin .neq (.t 21) (oK 0))] (.cond (.t 22) (oR [oM 2 (.mv (.c (.bool false)))] .ret) .skip)) (oR [oM
 3 (.mv (oK 1))] (.seq (oR [oM 4 (.mv (oK 0))] (.block 0 (.loop (.seq (oR [oV 23 4,oF 24 9 1,oL 25 24,oN 26 25,oM 27 (.bin .lss (.t
 23) (.t 26))] (.cond (.t 27) .skip (.exit 0))) (.seq (.block 1 (oR [oV 30 3,oF 31 9 1,oL 32 31,oV 33 4,oI 34 3 32 33,oF 35 1 34,oF 36 1
 35,oL 37 36,oF 38 9 1,oL 39 38,oV 40 4,oI 41 3 39 40,oF 42 1 41,oF 43 0 42,oL 44 43,oM 45 (.bin .sub (.t 37) (.t 44)),oM 46 (.bin .add (.t 45)
 (oK 1)),oM 47 (.bin .mul (.t 30) (.t 46)),oV 3 47] (oR [oV 48 3,oM 49 (.bin .gtr (.t 48) (oK 600))] (.cond (.t 49) (oR [oM 2 (.mv
 (.c (.bool true)))] .ret) .skip)))) (.reg [oV 28 4,oM 29 (.bin .add (.t 28) (oK 1)),oV 4 29])))))) (oR [oM 2 (.mv (.c (.bool false)))] .ret))))))
theorem ok32:FnOk Try.prog 32 50 1 c32 [.t 2]:=⟨_,_,Try.func32,rfl,rfl,by kernel_rfl,by kernel_rfl⟩
theorem bd32:bodied Try.prog 32=true:=by kernel_rfl
def c33:CI:=(oR [oM 1 (.box 0 true (.t 0)),oM 2 (.mv (oK 0))] (.seq (oR [oF 6 0 1,oW 7 9 6,oM 8 (.call 63 [(.t 7)]),oM 9 (.bin
 .neq (.t 8) (oK 0)),oV 10 9,oG 10 false (oF 11 9 1),oG 10 false (oL 12 11),oG 10 false (oN 13 12),oG 10 false (oM 14 (.bin .gtr (.t 13) (oK 8))),
 oM 15 (.pick (.t 10) (.c (.bool true)) (.t 14)),oV 16 15,oG 16 false (oF 17 10 1),oG 16 false (oL 18 17),oG 16 false (oN 19 18),oG 16 false (oM 20
 (.bin .gtr (.t 19) (oK 5))),oM 21 (.pick (.t 16) (.c (.bool true)) (.t 20)),oV 22 21,oG 22 false (oF 23 11 1),oG 22 false (oL 24 23),oG 22 false (oM
 25 (.call 64 [(.t 24),(oK 0),(oK 5)])),oG 22 false (oM 26 (.un .not (.t 25))),oM 27 (.pick (.t 22) (.c (.bool true)) (.t 26))] (.cond (.t 27) (oR [oM 2 (.mv (oK 130))] .ret) .skip)) (.seq (oR [oM 3 (.mv (oK 0))] (.block 0 (.loop (.seq (oR [oV 28 3,oF 29 9 1,oL 30 29,oN
 31 30,oM 32 (.bin .lss (.t 28) (.t 31))] (.cond (.t 32) .skip (.exit 0))) (.seq (.block 1 (oR [oF 35 9 1,oL 36 35,oV 37 3,oI 38 3 36 37,oW
 39 3 38,oM 4 (.alloc 1 [(.int .i64 0),(.int .i64 0),(.int .i64 0)]),oS (.store true 3 (.t 4) (.t 39) [])] (oR [oF 40 0 1,oW 41 9 40,oF 42
 0 4,oL 43 42,oM 44 (.call 20 [(.t 41),(.t 43)]),oM 45 (.un .not (.t 44)),oV 46 45,oG 46 false (oF 47 1 4),oG 46 false (oF 48 0 47),oG 46 false
 (oL 49 48),oG 46 false (oF 50 1 4),oG 46 false (oF 51 1 50),oG 46 false (oL 52 51),oG 46 false (oM 53 (.call 64 [(.t 49),(oK 0),(.t 52)])),oG 46
 false (oM 54 (.un .not (.t 53))),oM 55 (.pick (.t 46) (.c (.bool true)) (.t 54)),oV 56 55,oG 56 false (oF 57 1 4),oG 56 false (oF 58 1 57),oG 56 false
 (oL 59 58),oG 56 false (oM 60 (.bin .gtr (.t 59) (oK 99))),oM 61 (.pick (.t 56) (.c (.bool true)) (.t 60)),oV 62 61,oG 62 false (oF 63 1 4),oG 62
 false (oF 64 1 63),oG 62 false (oL 65 64),oG 62 false (oF 66 1 4),oG 62 false (oF 67 0 66),oG 62 false (oL 68 67),oG 62 false (oM 69 (.bin .sub (.t
 65) (.t 68))),oG 62 false (oM 70 (.bin .gtr (.t 69) (oK 9))),oM 71 (.pick (.t 62) (.c (.bool true)) (.t 70))] (.cond (.t 71) (oR [oM 2 (.mv
 (oK 130))] .ret) .skip)))) (.reg [oV 33 3,oM 34 (.bin .add (.t 33) (oK 1)),oV 3 34])))))) (.seq (oR [oM 5 (.mv (oK 0))] (.block 2 (.loop (.seq
 (oR [oV 72 5,oF 73 10 1,oL 74 73,oN 75 74,oM 76 (.bin .lss (.t 72) (.t 75))] (.cond (.t 76) .skip (.exit 2))) (.seq (.block 3 (oR [oF 79 10 1,oL 80 79,oV 81 5,oI 82 2 80 81,oF 83 0 82,oL 84 83,oM 85 (.call 64 [(.t 84),(oK 0),(oK 99)]),oM 86 (.un .not (.t 85)),oV 87 86,oG
 87 false (oF 88 10 1),oG 87 false (oL 89 88),oG 87 false (oV 90 5),oG 87 false (oI 91 2 89 90),oG 87 false (oF 92 1 91),oG 87 false (oL 93 92),oG
 87 false (oM 94 (.call 64 [(.t 93),(oK 0),(oK 8)])),oG 87 false (oM 95 (.un .not (.t 94))),oM 96 (.pick (.t 87) (.c (.bool true)) (.t 95))] (.cond
 (.t 96) (oR [oM 2 (.mv (oK 130))] .ret) .skip))) (.reg [oV 77 5,oM 78 (.bin .add (.t 77) (oK 1)),oV 5 78])))))) (oR [oM 2 (.mv (oK 0))]
 .ret)))))
theorem ok33:FnOk Try.prog 33 97 2 c33 [.t 2]:=⟨_,_,Try.func33,rfl,rfl,by kernel_rfl,by kernel_rfl⟩
theorem bd33:bodied Try.prog 33=true:=by kernel_rfl
def c34:CI:=(oR [oM 0 (.alloc 0 [.nils,(.int .i64 0),(.int .i64 0),(.int .i64 0),(.int .i64 0),(.int .i64 0),(.int .i64 0), .nils, .nils,
 .nils, .nils,(.int .i64 0)])] (oR [oM 1 (.callw 1 3 55 []),oM 2 (.build [(.int .i64 0),(.int .i64 0)] [(0,1,(oK 10)),(1,1,(oK 14))]),
 oM 3 (.build [(.int .i64 0),(.int .i64 0),(.int .i64 0)] [(1,2,(.t 2))]),oM 4 (.build [(.int .i64 0),(.int .i64 0)] [(0,1,(oK 12)),(1,1,(oK
 15))]),oM 5 (.build [(.int .i64 0),(.int .i64 0),(.int .i64 0)] [(1,2,(.t 4))]),oM 6 (.build [(.int .i64 0),(.int .i64 0)] [(0,1,(oK 4)),(1,
 1,(oK 6))]),oM 7 (.build [(.int .i64 0),(.int .i64 0),(.int .i64 0)] [(0,1,(oK 3)),(1,2,(.t 6))]),oM 8 (.bsl 4 62 3 [(.t 3),(.t 5),(.t 7)]
 []),oM 9 (.build [(.int .i64 0),(.int .i64 0)] [(0,1,(oK 13)),(1,1,(oK 1))]),oM 10 (.build [(.int .i64 0),(.int .i64 0)] [(0,1,(oK 5)),(1,
 1,(oK 3))]),oM 11 (.bsl 5 36 2 [(.t 9),(.t 10)] []),oM 12 (.build [.nils,(.int .i64 0),(.int .i64 0),(.int .i64 0),(.int .i64 0),(.int .i64 0),
 (.int .i64 0), .nils, .nils, .nils, .nils,(.int .i64 0)] [(0,9,(.t 1)),(9,1,(.t 8)),(10,1,(.t 11))]),oS (.stz true 12 (.t 0) (.t 12) [])] .ret))
theorem ok34:FnOk Try.prog 34 13 6 c34 [.cell 0 true 12]:=⟨_,_,Try.func34,rfl,rfl,by kernel_rfl,by kernel_rfl⟩
theorem bd34:bodied Try.prog 34=true:=by kernel_rfl
def c35:CI:=(oR [oM 1 (.box 0 true (.t 0)),oM 2 (.alloc 1 [.nils,(.int .i64 0),(.int .i64 0),(.int .i64 0),(.int .i64 0),(.int .i64 0),
 (.int .i64 0), .nils, .nils])] (oR [oW 4 9 1,oM 3 (.alloc 2 [.nils,(.int .i64 0),(.int .i64 0),(.int .i64 0),(.int .i64 0),(.int .i64 0),
 (.int .i64 0), .nils, .nils]),oS (.stz true 9 (.t 3) (.t 4) [])] (oR [oF 5 0 1,oW 6 7 5,oM 7 (.callw 3 1 65 [(.t 6)]),oF 8 0 3,oS (.stz true
 7 (.t 8) (.t 7) [])] (oR [oF 10 7 1,oL 11 10,oF 14 8 1,oL 15 14,oM 9 (.bsl 4 49 2 [] []),oM 12 (.apd 5 49 2 16 (.t 9) (.t 11) [(.t 14)]),
 oM 13 (.bsl 6 3 1 [] [(.t 9),(.t 11)]),oM 16 (.apd 7 3 1 8 (.t 13) (.t 15) []),oF 17 7 3,oS (.stz false 1 (.t 17) (.t 12) []),oF 18 8 3,oS (.stz
 false 1 (.t 18) (.t 16) [])] (oR [oW 19 9 3,oS (.stz true 9 (.t 2) (.t 19) [])] .ret)))))
theorem ok35:FnOk Try.prog 35 20 8 c35 [.cell 2 true 9]:=⟨_,_,Try.func35,rfl,rfl,by kernel_rfl,by kernel_rfl⟩
theorem bd35:bodied Try.prog 35=true:=by kernel_rfl
def c37:CI:=(oR [oM 1 (.box 0 true (.t 0)),oM 2 (.mv (oK 0))] (.seq (oR [oW 3 12 1,oM 4 (.call 66 [(.t 3)]),oM 5 (.un .not (.t
 4))] (.cond (.t 5) (oR [oM 2 (.mv (oK 130))] .ret) .skip)) (oR [oM 2 (.mv (oK 0))] .ret)))
theorem ok37:FnOk Try.prog 37 6 1 c37 [.t 2]:=⟨_,_,Try.func37,rfl,rfl,by kernel_rfl,by kernel_rfl⟩
theorem bd37:bodied Try.prog 37=true:=by kernel_rfl
def c38:CI:=(oR [oM 1 (.box 0 true (.t 0)),oM 2 (.mv (oK 0))] (oR [oF 5 0 1,oF 6 10 5,oL 7 6,oN 8 7,oV 3 8] (.seq (oR [oW 9 12 1,oM 10 (.callw 1 1 67 [(.t 9),(.c (.fn 41 []))]),oM 11 (.mrx 2 (.t 10))] (.block 0 (.loop (oR [oM 12 (.mnz (.t 11)),oX 13 0 12]
 (.seq (.cond (.t 13) .skip (.exit 0)) (.block 1 (oR [oM 14 (.mez (.t 11)),oX 15 0 14,oM 4 (.alloc 3 [(.int .i64 0),(.int .i64 0),(.int .i64
 0),(.int .i64 0),(.int .i64 0),(.int .i64 0)]),oS (.store true 6 (.t 4) (.t 15) [])] (.reg [oV 16 3,oW 17 12 1,oW 18 6 4,oM 19 (.call 68 [(.t 17),
 (.t 18)]),oM 20 (.mm false [(.t 16),(.t 19)]),oV 3 20])))))))) (oR [oV 21 3,oV 2 21] .ret))))
theorem ok38:FnOk Try.prog 38 22 4 c38 [.t 2]:=⟨_,_,Try.func38,rfl,rfl,by kernel_rfl,by kernel_rfl⟩
theorem bd38:bodied Try.prog 38=true:=by kernel_rfl
def c39:CI:=(oR [oM 2 (.box 0 true (.t 0)),oM 4 (.alloc 1 [.nils,(.int .i64 0),(.int .i64 0),(.int .i64 0),(.int .i64 0),(.int .i64 0),
 (.int .i64 0), .nils, .nils, .nils, .nils,(.int .i64 0)]),oM 5 (.mv (oK 0))] (.seq (oR [oW 8 12 2,oM 9 (.call 37 [(.t 8)]),oV 6 9] (oR [oV 10 6,oM 11 (.bin .neq (.t 10) (oK 0))] (.cond (.t 11) (oR [oM 12 (.build [.nils,(.int .i64 0),(.int .i64 0),(.int .i64 0),(.int
 .i64 0),(.int .i64 0),(.int .i64 0), .nils, .nils, .nils, .nils,(.int .i64 0)] []),oV 13 6,oS (.stz true 12 (.t 4) (.t 12) []),oV 5 13] .ret) .skip)))
 (.seq (oR [oV 14 1,oM 15 (.un .not (.t 14))] (.cond (.t 15) (oR [oM 16 (.build [.nils,(.int .i64 0),(.int .i64 0),(.int .i64 0),(.int
 .i64 0),(.int .i64 0),(.int .i64 0), .nils, .nils, .nils, .nils,(.int .i64 0)] []),oS (.stz true 12 (.t 4) (.t 16) []),oM 5 (.mv (oK 1))] .ret) .skip))
 (oR [oW 17 12 2,oM 18 (.build [.nils,(.int .i64 0),(.int .i64 0),(.int .i64 0),(.int .i64 0),(.int .i64 0),(.int .i64 0), .nils, .nils,
 .nils, .nils,(.int .i64 0)] [(0,12,(.t 17))]),oM 7 (.alloc 2 [.nils,(.int .i64 0),(.int .i64 0),(.int .i64 0),(.int .i64 0),(.int .i64 0),(.int
 .i64 0), .nils, .nils, .nils, .nils,(.int .i64 0)]),oS (.stz true 12 (.t 7) (.t 18) [])] (.seq (oR [oW 19 12 7,oM 20 (.call 69 [(.t 19)]),
 oM 21 (.un .not (.t 20))] (.cond (.t 21) (oR [oM 22 (.build [.nils,(.int .i64 0),(.int .i64 0),(.int .i64 0),(.int .i64 0),(.int .i64 0),
 (.int .i64 0), .nils, .nils, .nils, .nils,(.int .i64 0)] []),oS (.stz true 12 (.t 4) (.t 22) []),oM 5 (.mv (oK 3))] .ret) .skip)) (oR [oW 23
 12 7,oS (.stz true 12 (.t 4) (.t 23) []),oM 5 (.mv (oK 0))] .ret))))))
theorem ok39:FnOk Try.prog 39 24 3 c39 [.cell 4 true 12, .t 5]:=⟨_,_,Try.func39,rfl,rfl,by kernel_rfl,by kernel_rfl⟩
theorem bd39:bodied Try.prog 39=true:=by kernel_rfl
def c40:CI:=(oR [oM 2 (.box 0 true (.t 0)),oM 4 (.mv (.c (.lit (.map none))))] (oR [oW 7 12 2,oV 8 1,oM 9 (.callw 1 1 67 [(.t 7),
 (.t 8)]),oV 5 9] (.seq (oR [oV 10 5,oM 11 (.mrx 2 (.t 10))] (.block 0 (.loop (oR [oM 12 (.mnz (.t 11)),oX 13 0 12] (.seq (.cond (.t
 13) .skip (.exit 0)) (.block 1 (oR [oM 14 (.mez (.t 11)),oX 15 0 14,oM 6 (.alloc 3 [(.int .i64 0),(.int .i64 0),(.int .i64 0),(.int .i64 0),
 (.int .i64 0),(.int .i64 0)]),oS (.store true 6 (.t 6) (.t 15) [])] (oR [oW 16 12 2,oW 17 6 6,oF 19 0 2,oF 20 11 19,oL 21 20,oM 18 (.call
 68 [(.t 16),(.t 17)]),oM 22 (.bin .gtr (.t 18) (.t 21))] (.cond (.t 22) (.reg [oV 23 5,oW 24 6 6,oS (.mpu (.del (.st (.node [(0,1,(.leaf true)),
 (1,1,(.leaf true)),(2,1,(.leaf true)),(3,1,(.leaf true)),(4,1,(.leaf true)),(5,1,(.leaf true))]))) (.t 23) (.t 24) (.c (.bool false)) [])])
 .skip))))))))) (oR [oV 25 5,oV 4 25] .ret))))
theorem ok40:FnOk Try.prog 40 26 4 c40 [.t 4]:=⟨_,_,Try.func40,rfl,rfl,by kernel_rfl,by kernel_rfl⟩
theorem bd40:bodied Try.prog 40=true:=by kernel_rfl
def c41:CI:=(oR [oM 4 (.mv (.c (.bool false)))] (oR [oM 4 (.mv (.c (.bool false)))] .ret))
theorem ok41:FnOk Try.prog 41 5 0 c41 [.t 4]:=⟨_,_,Try.func41,rfl,rfl,by kernel_rfl,by kernel_rfl⟩
theorem bd41:bodied Try.prog 41=true:=by kernel_rfl
def c42:CI:=(oR [oM 2 (.box 0 true (.t 0)),oM 4 (.mv (.c (.bool false)))] (oR [oV 5 1,oF 6 10 2,oL 7 6,oN 8 7,oM 9 (.bin .sub
 (.t 8) (oK 1)),oM 10 (.call 70 [(.t 5),(oK 0),(.t 9)]),oV 4 10] .ret))
theorem ok42:FnOk Try.prog 42 11 1 c42 [.t 4]:=⟨_,_,Try.func42,rfl,rfl,by kernel_rfl,by kernel_rfl⟩
theorem bd42:bodied Try.prog 42=true:=by kernel_rfl
def c43:CI:=(oR [oM 2 (.mv (.c (.bool false)))] (oR [oV 3 0,oM 4 (.call 70 [(.t 3),(oK 0),(oK 99)]),oV 2 4] .ret))
theorem ok43:FnOk Try.prog 43 5 0 c43 [.t 2]:=⟨_,_,Try.func43,rfl,rfl,by kernel_rfl,by kernel_rfl⟩
theorem bd43:bodied Try.prog 43=true:=by kernel_rfl
def c44:CI:=(oR [oM 2 (.box 0 true (.t 0)),oM 4 (.alloc 1 [(.int .i64 0),(.int .i64 0)])] (oR [oF 7 0 2,oF 8 9 7,oL 9 8,oN 10
 9,oM 11 (.build [(.int .i64 0),(.int .i64 0)] [(0,1,(.t 10))]),oM 5 (.alloc 2 [(.int .i64 0),(.int .i64 0)]),oS (.store true 2 (.t 5) (.t 11) [])]
 (.seq (oR [oW 12 12 2,oV 13 1,oM 14 (.callw 3 1 40 [(.t 12),(.t 13)]),oM 15 (.mrx 4 (.t 14))] (.block 0 (.loop (oR [oM 16 (.mnz (.t
 15)),oX 17 0 16] (.seq (.cond (.t 17) .skip (.exit 0)) (.block 1 (oR [oM 18 (.mez (.t 15)),oX 19 0 18,oM 6 (.alloc 5 [(.int .i64 0),(.int
 .i64 0),(.int .i64 0),(.int .i64 0),(.int .i64 0),(.int .i64 0)]),oS (.store true 6 (.t 6) (.t 19) [])] (.reg [oF 20 0 5,oL 21 20,oM 22 (.paddr
 1 6 (.t 6) (oK 5)),oL 23 22,oM 24 (.mm false [(.t 21),(.t 23)]),oF 25 1 5,oL 26 25,oM 27 (.paddr 1 6 (.t 6) (oK 5)),oL 28 27,oM 29 (.mm true [(.t
 26),(.t 28)]),oF 30 0 5,oS (.store false 1 (.t 30) (.t 24) [(.t 27)]),oF 31 1 5,oS (.store false 1 (.t 31) (.t 29) [])])))))))) (oR [oW 32
 2 5,oS (.store true 2 (.t 4) (.t 32) [])] .ret))))
theorem ok44:FnOk Try.prog 44 33 6 c44 [.cell 4 true 2]:=⟨_,_,Try.func44,rfl,rfl,by kernel_rfl,by kernel_rfl⟩
theorem bd44:bodied Try.prog 44=true:=by kernel_rfl
def c45:CI:=(oR [oM 5 (.mv (.c (.bool false)))] (oR [oV 6 1,oL 7 2,oM 8 (.bin .geq (.t 6) (.t 7)),oV 5 8] .ret))
theorem ok45:FnOk Try.prog 45 9 0 c45 [.t 5]:=⟨_,_,Try.func45,rfl,rfl,by kernel_rfl,by kernel_rfl⟩
theorem bd45:bodied Try.prog 45=true:=by kernel_rfl
def c46:CI:=(oR [oM 2 (.box 0 true (.t 0)),oM 4 (.mv (.c (.bool false)))] (oR [oV 5 1,oF 6 9 2,oL 7 6,oN 8 7,oM 9 (.bin .sub
 (.t 8) (oK 1)),oM 10 (.call 70 [(.t 5),(oK 0),(.t 9)]),oV 4 10] .ret))
theorem ok46:FnOk Try.prog 46 11 1 c46 [.t 4]:=⟨_,_,Try.func46,rfl,rfl,by kernel_rfl,by kernel_rfl⟩
theorem bd46:bodied Try.prog 46=true:=by kernel_rfl
def c47:CI:=(oR [oM 3 (.box 0 true (.t 0)),oM 4 (.box 1 false (.t 1)),oM 5 (.box 2 false (.t 2)),oM 6 (.mv (.c (.bool false)))] (oR [oW 7 12 3,oM 8 (.mkfn 71 [(.t 4),(.t 5)]),oM 9 (.call 44 [(.t 7),(.t 8)]),oM 10 (.field false 1 1 (.t 9)),oM 11 (.bin .gtr (.t 10) (oK 0)),oV 6
 11] .ret))
theorem ok47:FnOk Try.prog 47 12 3 c47 [.t 6]:=⟨_,_,Try.func47,rfl,rfl,by kernel_rfl,by kernel_rfl⟩
theorem bd47:bodied Try.prog 47=true:=by kernel_rfl
def c48:CI:=(oR [oM 6 (.mv (.c (.bool false)))] (oR [oV 7 0,oV 8 1,oV 9 2,oM 10 (.call 72 [(.t 7),(.t 8),(.t 9)]),oV 6 10]
 .ret))
theorem ok48:FnOk Try.prog 48 11 0 c48 [.t 6]:=⟨_,_,Try.func48,rfl,rfl,by kernel_rfl,by kernel_rfl⟩
theorem bd48:bodied Try.prog 48=true:=by kernel_rfl
def c49:CI:=(oR [oM 5 (.mv (.c (.bool false)))] (oR [oW 6 12 2,oV 7 0,oV 8 1,oM 9 (.call 50 [(.t 6),(.t 7),(.t 8)]),oM 10 (.bin
 .eql (.t 9) (oK 2)),oV 5 10] .ret))
theorem ok49:FnOk Try.prog 49 11 0 c49 [.t 5]:=⟨_,_,Try.func49,rfl,rfl,by kernel_rfl,by kernel_rfl⟩
theorem bd49:bodied Try.prog 49=true:=by kernel_rfl
def c50:CI:=(oR [oM 3 (.box 0 true (.t 0)),oM 6 (.mv (oK 0))] (oR [oF 10 0 3,oF 11 0 10,oW 12 9 11,oV 13 2,oF 14 0 3,oF 15 9
 14,oL 16 15,oV 17 1,oI 18 3 16 17,oF 19 0 18,oL 20 19,oM 21 (.build [(.int .i64 0),(.int .i64 0)] [(0,1,(.t 13)),(1,1,(.t 20))]),oM 22 (.bsl
 1 64 2 [(.t 21)] []),oM 23 (.call 23 [(.t 12),(.t 22)]),oV 9 23,oX 24 0 9,oX 25 1 9,oV 7 24,oV 8 25] (oR [oV 26 7,oV 6 26] .ret)))
theorem ok50:FnOk Try.prog 50 27 2 c50 [.t 6]:=⟨_,_,Try.func50,rfl,rfl,by kernel_rfl,by kernel_rfl⟩
theorem bd50:bodied Try.prog 50=true:=by kernel_rfl
def c51:CI:=(oR [oM 5 (.mv (.c (.bool false)))] (oR [oW 6 12 2,oV 7 0,oV 8 1,oM 9 (.call 50 [(.t 6),(.t 7),(.t 8)]),oM 10 (.bin
 .neq (.t 9) (oK 1)),oV 5 10] .ret))
theorem ok51:FnOk Try.prog 51 11 0 c51 [.t 5]:=⟨_,_,Try.func51,rfl,rfl,by kernel_rfl,by kernel_rfl⟩
theorem bd51:bodied Try.prog 51=true:=by kernel_rfl
def c52:CI:=(oR [oM 2 (.box 0 true (.t 0)),oM 4 (.alloc 1 [(.int .i64 0), .nils, .nils]),oM 5 (.alloc 2 [(.int .i64 0), .nils, .nils]),oM
 6 (.mv (oK 0))] (.seq (oR [oW 11 9 2,oV 12 1,oM 13 (.call 73 [(.t 11),(.t 12)]),oV 7 13] (oR [oV 14 7,oM 15 (.bin .neq (.t 14) (oK
 0))] (.cond (.t 15) (oR [oM 16 (.build [(.int .i64 0), .nils, .nils] []),oM 17 (.build [(.int .i64 0), .nils, .nils] []),oV 18 7,oS (.stz true
 3 (.t 4) (.t 16) []),oS (.stz true 3 (.t 5) (.t 17) []),oV 6 18] .ret) .skip))) (oR [oF 19 0 2,oW 20 7 19,oM 21 (.call 74 [(.t 20)]),oM 8
 (.alloc 3 [(.int .i64 0),(.int .i64 0)]),oS (.store true 2 (.t 8) (.t 21) [])] (oR [oF 22 0 8,oL 23 22,oF 24 8 2,oL 25 24,oM 26 (.build
 [(.int .i64 0), .nils, .nils] [(0,1,(.t 23)),(2,1,(.t 25))]),oS (.stz true 3 (.t 4) (.t 26) [])] (oR [oF 27 1 8,oL 28 27,oF 29 8 2,oL
 30 29,oM 31 (.build [(.int .i64 0), .nils, .nils] [(0,1,(.t 28)),(2,1,(.t 30))]),oS (.stz true 3 (.t 5) (.t 31) [])] (.seq (oR [oF 32 7
 2,oL 33 32,oN 34 33,oM 35 (.mv (oK 0))] (.block 0 (.loop (oR [oM 36 (.bin .lss (.t 35) (.t 34))] (.seq (.cond (.t 36) .skip (.exit 0)) (.seq
 (.block 1 (oR [oI 37 2 33 35,oW 38 2 37,oM 10 (.alloc 4 [(.int .i64 0),(.int .i64 0)]),oS (.store true 2 (.t 10) (.t 38) [])] (oR [oF 39 1 4,oL 40 39,oF 41 1 10,oL 42 41,oM 43 (.bsl 5 3 1 [(.t 42)] []),oM 44 (.apd 6 3 1 8 (.t 40) (.t 43) []),oF 45 1 4,oS (.stz false 1 (.t 45)
 (.t 44) [])] (.reg [oF 46 1 5,oL 47 46,oF 48 0 10,oL 49 48,oM 50 (.bsl 7 3 1 [(.t 49)] []),oM 51 (.apd 8 3 1 8 (.t 47) (.t 50) []),oF 52 1 5,oS
 (.stz false 1 (.t 52) (.t 51) [])])))) (.reg [oM 53 (.bin .add (.t 35) (oK 1)),oV 35 53]))))))) (oR [oW 54 3 4,oW 55 3 5,oS (.stz true 3 (.t
 4) (.t 54) [(.t 5)]),oS (.stz true 3 (.t 5) (.t 55) []),oM 6 (.mv (oK 0))] .ret)))))))
theorem ok52:FnOk Try.prog 52 56 9 c52 [.cell 4 true 3, .cell 5 true 3, .t 6]:=⟨_,_,Try.func52,rfl,rfl,by kernel_rfl,by kernel_rfl⟩
theorem bd52:bodied Try.prog 52=true:=by kernel_rfl
def c53:CI:=(oR [oM 2 (.box 0 true (.t 0)),oM 4 (.mv (.c (.bool false)))] (oR [oV 5 1,oM 6 (.mkfn 76 [(.t 2)]),oM 7 (.call 75 [(.t
 5),(.t 6)]),oV 4 7] .ret))
theorem ok53:FnOk Try.prog 53 8 1 c53 [.t 4]:=⟨_,_,Try.func53,rfl,rfl,by kernel_rfl,by kernel_rfl⟩
theorem bd53:bodied Try.prog 53=true:=by kernel_rfl
def c54:CI:=(oR [oM 1 (.box 0 true (.t 0)),oM 2 (.alloc 1 [(.int .i64 0),(.int .i64 0)]),oM 3 (.mv (oK 0))] (.seq (oR [oW 5 9 1,
 oM 6 (.call 78 [(.t 5)]),oV 4 6] (oR [oV 7 4,oM 8 (.bin .neq (.t 7) (oK 0))] (.cond (.t 8) (oR [oM 9 (.build [(.int .i64 0),(.int
 .i64 0)] []),oV 10 4,oS (.store true 2 (.t 2) (.t 9) []),oV 3 10] .ret) .skip))) (oR [oF 11 0 1,oW 12 7 11,oM 13 (.call 74 [(.t 12)]),oS
 (.store true 2 (.t 2) (.t 13) []),oM 3 (.mv (oK 0))] .ret)))
theorem ok54:FnOk Try.prog 54 14 2 c54 [.cell 2 true 2, .t 3]:=⟨_,_,Try.func54,rfl,rfl,by kernel_rfl,by kernel_rfl⟩
theorem bd54:bodied Try.prog 54=true:=by kernel_rfl
def c55:CI:=(oR [oM 0 (.alloc 0 [.nils,(.int .i64 0),(.int .i64 0),(.int .i64 0),(.int .i64 0),(.int .i64 0),(.int .i64 0), .nils, .nils])]
 (oR [oM 1 (.callw 1 1 79 []),oM 2 (.build [(.int .i64 0),(.int .i64 0)] [(0,1,(oK 100)),(1,1,(oK 110))]),oM 3 (.build [(.int .i64 0),(.int
 .i64 0)] [(0,1,(oK 60)),(1,1,(oK 60))]),oM 4 (.build [(.int .i64 0),(.int .i64 0)] [(0,1,(oK 50)),(1,1,(oK 55))]),oM 5 (.build [(.int .i64
 0),(.int .i64 0)] [(0,1,(oK 40)),(1,1,(oK 40))]),oM 6 (.build [(.int .i64 0),(.int .i64 0)] [(0,1,(oK 50)),(1,1,(oK 50))]),oM 7 (.build [(.int
 .i64 0),(.int .i64 0)] [(0,1,(oK 60)),(1,1,(oK 60))]),oM 8 (.bsl 2 49 2 [(.t 2),(.t 3),(.t 4),(.t 5),(.t 6),(.t 7)] []),oM 9 (.bsl 3 3 1 [(oK
 10),(oK 6),(oK 3),(oK 1),(oK 3),(oK 6)] []),oM 10 (.build [.nils,(.int .i64 0),(.int .i64 0),(.int .i64 0),(.int .i64 0),(.int .i64 0),(.int
 .i64 0), .nils, .nils] [(0,7,(.t 1)),(7,1,(.t 8)),(8,1,(.t 9))]),oS (.stz true 9 (.t 0) (.t 10) [])] .ret))
theorem ok55:FnOk Try.prog 55 11 4 c55 [.cell 0 true 9]:=⟨_,_,Try.func55,rfl,rfl,by kernel_rfl,by kernel_rfl⟩
theorem bd55:bodied Try.prog 55=true:=by kernel_rfl
def c56:CI:=(oR [oM 2 (.box 0 true (.t 0)),oM 4 (.mv oZ),oM 5 (.mv (oK 0))] (.seq (oR [oW 8 12 2,oM 9 (.call 33 [(.t 8)]),oV 6
 9] (oR [oV 10 6,oM 11 (.bin .neq (.t 10) (oK 0))] (.cond (.t 11) (oR [oV 12 6,oM 4 (.mv oZ),oV 5 12] .ret) .skip))) (.seq (oR [oV 13 1,oM 14 (.un .not (.t 13))] (.cond (.t 14) (oR [oM 4 (.mv oZ),oM 5 (.mv (oK 1))] .ret) .skip)) (oR [oW 15 12 2,oM 16 (.callw
 1 1 80 [(.t 15)]),oV 7 16] (.seq (oR [oV 17 7,oN 18 17,oM 19 (.bin .eql (.t 18) (oK 0))] (.cond (.t 19) (oR [oM 4 (.mv oZ),oM 5 (.mv
 (oK 3))] .ret) .skip)) (oR [oV 20 7,oV 4 20,oM 5 (.mv (oK 0))] .ret))))))
theorem ok56:FnOk Try.prog 56 21 2 c56 [.t 4, .t 5]:=⟨_,_,Try.func56,rfl,rfl,by kernel_rfl,by kernel_rfl⟩
theorem bd56:bodied Try.prog 56=true:=by kernel_rfl
def c57:CI:=(oR [oM 3 (.box 0 true (.t 0)),oM 6 (.mv (oK 0))] (.seq (oR [oW 8 7 3,oV 9 1,oM 10 (.call 81 [(.t 8),(.t 9)]),oV
 7 10] (oR [oV 11 7,oM 12 (.bin .neq (.t 11) (oK 0))] (.cond (.t 12) (oR [oV 13 7,oV 6 13] .ret) .skip))) (.seq (oR [oV 14
 2,oF 15 1 3,oL 16 15,oF 17 2 3,oL 18 17,oM 19 (.call 82 [(.t 14),(.t 16),(.t 18)]),oM 20 (.un .not (.t 19))] (.cond (.t 20) (oR [oM 6
 (.mv (oK 1))] .ret) .skip)) (oR [oM 6 (.mv (oK 0))] .ret))))
theorem ok57:FnOk Try.prog 57 21 1 c57 [.t 6]:=⟨_,_,Try.func57,rfl,rfl,by kernel_rfl,by kernel_rfl⟩
theorem bd57:bodied Try.prog 57=true:=by kernel_rfl
def c58:CI:=(oR [oM 3 (.box 0 true (.t 0)),oM 6 (.mv (oK 0))] (oR [oV 10 2,oV 7 10] (.seq (oR [oF 11 0 3,oL 12 11,oV
 13 1,oM 14 (.bin .add (.t 13) (oK 1)),oM 15 (.sli 7 (.t 12) (some (oK 1)) (some (.t 14))),oN 16 15,oM 17 (.mv (oK 0))] (.block 0 (.loop (oR [oM 18 (.bin .lss (.t 17) (.t 16))] (.seq (.cond (.t 18) .skip (.exit 0)) (.seq (.block 1 (oR [oI 19 7 15 17,oW 20 7 19,oM 9 (.alloc 1 [(.int
 .i64 0),(.int .i64 0),(.int .i64 0),(.int .i64 0),(.int .i64 0),(.int .i64 0),(.int .i64 0)]),oS (.store true 7 (.t 9) (.t 20) [])] (.reg [oF 21
 4 9,oL 22 21,oV 23 7,oF 24 5 9,oF 25 0 24,oL 26 25,oM 27 (.bin .mul (.t 23) (.t 26)),oF 28 5 9,oF 29 1 28,oL 30 29,oM 31 (.bin .quo (.t 27) (.t
 30)),oM 32 (.bin .add (.t 22) (.t 31)),oV 7 32]))) (.reg [oM 33 (.bin .add (.t 17) (oK 1)),oV 17 33]))))))) (oR [oV 34 7,oV 6 34] .ret))))
theorem ok58:FnOk Try.prog 58 35 2 c58 [.t 6]:=⟨_,_,Try.func58,rfl,rfl,by kernel_rfl,by kernel_rfl⟩
theorem bd58:bodied Try.prog 58=true:=by kernel_rfl
def c59:CI:=(oR [oM 2 (.box 0 true (.t 0)),oM 3 (.box 1 false (.t 1)),oM 4 (.alloc 2 [(.int .i64 0),(.int .i64 0)]),oM 5 (.alloc 3 [(.int
 .i64 0),(.int .i64 0)])] (oR [oL 9 3,oF 10 0 2,oF 11 0 10,oL 12 11,oF 13 2 2,oF 14 0 13,oL 15 14,oM 16 (.call 83 [(.t 9),(.t 12),(.t
 15)]),oS (.store true 2 (.t 4) (.t 16) [])] (oR [oW 17 2 4,oS (.store true 2 (.t 5) (.t 17) [])] (.seq (oR [oW 18 7 2,oM 19 (.callw
 4 0 84 [(.t 18)])] (.block 0 (.rng (.t 19) [20,21] (oR [oV 6 20] (.reg [oV 7 21])) (.block 1 (oR [oL 22 3,oV 23 6,oV 24 7,oM 25 (.call
 83 [(.t 22),(.t 23),(.t 24)]),oM 8 (.alloc 4 [(.int .i64 0),(.int .i64 0)]),oS (.store true 2 (.t 8) (.t 25) [])] (.seq (oR [oW 26 2 8,oW
 27 2 4,oM 28 (.call 85 [(.t 26),(.t 27)])] (.cond (.t 28) (.reg [oW 29 2 8,oS (.store true 2 (.t 4) (.t 29) [])]) .skip)) (oR [oW 30 2 5,oW
 31 2 8,oM 32 (.call 85 [(.t 30),(.t 31)])] (.cond (.t 32) (.reg [oW 33 2 8,oS (.store true 2 (.t 5) (.t 33) [])]) .skip)))))))) (oR [oW 34
 2 4,oW 35 2 5,oS (.store true 2 (.t 4) (.t 34) [(.t 5)]),oS (.store true 2 (.t 5) (.t 35) [])] .ret)))))
theorem ok59:FnOk Try.prog 59 36 5 c59 [.cell 4 true 2, .cell 5 true 2]:=⟨_,_,Try.func59,rfl,rfl,by kernel_rfl,by kernel_rfl⟩
theorem bd59:bodied Try.prog 59=true:=by kernel_rfl
def c60:CI:=(oR [oM 1 (.box 0 true (.t 0)),oM 2 (.alloc 1 [(.int .i64 0),(.int .i64 0)])] (oR [oF 4 0 1,oL 5 4,oF 6 0 1,oL 7
 6,oM 8 (.un .neg (.t 7)),oM 9 (.mm true [(.t 5),(.t 8)]),oF 10 1 1,oL 11 10,oM 12 (.call 86 [(.t 9),(.t 11)]),oV 3 12] (oR [oF 13 0 1,
 oL 14 13,oV 15 3,oM 16 (.bin .quo (.t 14) (.t 15)),oF 17 1 1,oL 18 17,oV 19 3,oM 20 (.bin .quo (.t 18) (.t 19)),oM 21 (.build [(.int .i64 0),(.int
 .i64 0)] [(0,1,(.t 16)),(1,1,(.t 20))]),oS (.store true 2 (.t 2) (.t 21) [])] .ret)))
theorem ok60:FnOk Try.prog 60 22 2 c60 [.cell 2 true 2]:=⟨_,_,Try.func60,rfl,rfl,by kernel_rfl,by kernel_rfl⟩
theorem bd60:bodied Try.prog 60=true:=by kernel_rfl
def c61:CI:=(oR [oM 3 (.box 0 true (.t 0)),oM 4 (.box 1 true (.t 1)),oM 6 (.mv (oK 0))] (oR [oF 7 0 4,oL 8 7,oF 9 0 3,oL 10 9,
 oM 11 (.bin .mul (.t 8) (.t 10)),oF 12 2 3,oL 13 12,oW 14 3 3,oV 15 2,oF 16 1 4,oL 17 16,oM 18 (.bin .sub (.t 15) (.t 17)),oM 19 (.call 87 [(.t
 14),(.t 18)]),oI 20 1 13 19,oL 21 20,oM 22 (.bin .mul (.t 11) (.t 21)),oM 23 (.bin .quo (.t 22) (oK 100)),oV 6 23] .ret))
theorem ok61:FnOk Try.prog 61 24 2 c61 [.t 6]:=⟨_,_,Try.func61,rfl,rfl,by kernel_rfl,by kernel_rfl⟩
theorem bd61:bodied Try.prog 61=true:=by kernel_rfl
def c62:CI:=(oR [oM 1 (.box 0 true (.t 0)),oM 2 (.mv (.c (.bool false)))] (oR [oF 3 0 1,oF 4 0 3,oL 5 4,oN 6 5,oM 7 (.bin .gtr
 (.t 6) (oK 20)),oV 8 7,oG 8 false (oF 9 7 1),oG 8 false (oL 10 9),oG 8 false (oN 11 10),oG 8 false (oM 12 (.bin .gtr (.t 11) (oK 40))),oM 13 (.pick
 (.t 8) (.c (.bool true)) (.t 12)),oV 14 13,oG 14 false (oF 15 8 1),oG 14 false (oL 16 15),oG 14 false (oN 17 16),oG 14 false (oM 18 (.bin .gtr (.t
 17) (oK 40))),oM 19 (.pick (.t 14) (.c (.bool true)) (.t 18)),oV 2 19] .ret))
theorem ok62:FnOk Try.prog 62 20 1 c62 [.t 2]:=⟨_,_,Try.func62,rfl,rfl,by kernel_rfl,by kernel_rfl⟩
theorem bd62:bodied Try.prog 62=true:=by kernel_rfl
def c63:CI:=(oR [oM 1 (.box 0 true (.t 0)),oM 2 (.mv (oK 0))] (.seq (oR [oF 4 0 1,oW 5 7 4,oM 6 (.call 88 [(.t 5)]),oM 7 (.bin
 .neq (.t 6) (oK 0)),oV 8 7,oG 8 false (oF 9 7 1),oG 8 false (oL 10 9),oG 8 false (oN 11 10),oG 8 false (oM 12 (.call 48 [(.t 11),(oK 3),(oK 10)])),
 oG 8 false (oM 13 (.un .not (.t 12))),oM 14 (.pick (.t 8) (.c (.bool true)) (.t 13)),oV 15 14,oG 15 false (oF 16 8 1),oG 15 false (oL 17 16),oG 15
 false (oN 18 17),oG 15 false (oF 19 7 1),oG 15 false (oL 20 19),oG 15 false (oN 21 20),oG 15 false (oM 22 (.bin .neq (.t 18) (.t 21))),oM 23 (.pick
 (.t 15) (.c (.bool true)) (.t 22))] (.cond (.t 23) (oR [oM 2 (.mv (oK 50))] .ret) .skip)) (.seq (oR [oM 3 (.mv (oK 0))] (.block 0 (.loop
 (.seq (oR [oV 24 3,oF 25 7 1,oL 26 25,oN 27 26,oM 28 (.bin .lss (.t 24) (.t 27))] (.cond (.t 28) .skip (.exit 0))) (.seq (.block 1 (oR [oF 31 7 1,oL 32 31,oV 33 3,oI 34 2 32 33,oF 35 0 34,oL 36 35,oF 37 7 1,oL 38 37,oV 39 3,oI 40 2 38 39,oF 41 1 40,oL 42 41,oM 43 (.call 48
 [(.t 36),(oK 0),(.t 42)]),oM 44 (.un .not (.t 43)),oV 45 44,oG 45 false (oF 46 7 1),oG 45 false (oL 47 46),oG 45 false (oV 48 3),oG 45 false (oI
 49 2 47 48),oG 45 false (oF 50 1 49),oG 45 false (oL 51 50),oG 45 false (oM 52 (.bin .gtr (.t 51) (oK 99999))),oM 53 (.pick (.t 45) (.c (.bool true))
 (.t 52)),oV 54 53,oG 54 false (oF 55 8 1),oG 54 false (oL 56 55),oG 54 false (oV 57 3),oG 54 false (oI 58 1 56 57),oG 54 false (oL 59 58),oG 54
 false (oM 60 (.call 48 [(.t 59),(oK 0),(oK 99)])),oG 54 false (oM 61 (.un .not (.t 60))),oM 62 (.pick (.t 54) (.c (.bool true)) (.t 61))] (.cond (.t
 62) (oR [oM 2 (.mv (oK 50))] .ret) .skip))) (.reg [oV 29 3,oM 30 (.bin .add (.t 29) (oK 1)),oV 3 30])))))) (oR [oM 2 (.mv (oK 0))]
 .ret))))
theorem ok63:FnOk Try.prog 63 63 1 c63 [.t 2]:=⟨_,_,Try.func63,rfl,rfl,by kernel_rfl,by kernel_rfl⟩
theorem bd63:bodied Try.prog 63=true:=by kernel_rfl
def c64:CI:=(oR [oM 6 (.mv (.c (.bool false)))] (oR [oV 7 0,oV 8 1,oV 9 2,oM 10 (.call 72 [(.t 7),(.t 8),(.t 9)]),oV 6 10]
 .ret))
theorem ok64:FnOk Try.prog 64 11 0 c64 [.t 6]:=⟨_,_,Try.func64,rfl,rfl,by kernel_rfl,by kernel_rfl⟩
theorem bd64:bodied Try.prog 64=true:=by kernel_rfl
def c65:CI:=(oR [oM 1 (.box 0 true (.t 0)),oM 2 (.alloc 1 [.nils,(.int .i64 0),(.int .i64 0),(.int .i64 0),(.int .i64 0),(.int .i64 0),
 (.int .i64 0)])] (oR [oM 3 (.bsl 2 77 7 [] []),oF 4 0 1,oL 5 4,oM 6 (.apd 3 77 7 56 (.t 3) (.t 5) []),oF 7 0 1,oS (.stz false 1 (.t 7) (.t
 6) [])] (oR [oW 8 7 1,oS (.stz true 7 (.t 2) (.t 8) [])] .ret)))
theorem ok65:FnOk Try.prog 65 9 4 c65 [.cell 2 true 7]:=⟨_,_,Try.func65,rfl,rfl,by kernel_rfl,by kernel_rfl⟩
theorem bd65:bodied Try.prog 65=true:=by kernel_rfl
def c66:CI:=(oR [oM 1 (.box 0 true (.t 0)),oM 2 (.mv (.c (.bool false)))] (oR [oF 3 0 1,oW 4 9 3,oM 5 (.call 78 [(.t 4)]),oM 6
 (.bin .eql (.t 5) (oK 0)),oV 7 6,oG 7 true (oF 8 9 1),oG 7 true (oL 9 8),oG 7 true (oN 10 9),oG 7 true (oM 11 (.bin .leq (.t 10) (oK 8))),oM 12 (.pick
 (.t 7) (.t 11) (.c (.bool false))),oV 13 12,oG 13 true (oF 14 9 1),oG 13 true (oL 15 14),oG 13 true (oM 16 (.mkfn 90 [(.t 1)])),oG 13 true (oM 17
 (.call 89 [(.t 15),(.t 16)])),oM 18 (.pick (.t 13) (.t 17) (.c (.bool false))),oV 19 18,oG 19 true (oF 20 10 1),oG 19 true (oL 21 20),oG 19 true
 (oN 22 21),oG 19 true (oM 23 (.bin .leq (.t 22) (oK 5))),oM 24 (.pick (.t 19) (.t 23) (.c (.bool false))),oV 25 24,oG 25 true (oF 26 10 1),oG 25 true
 (oL 27 26),oG 25 true (oM 28 (.call 92 [(.t 27),(.c (.fn 93 []))])),oM 29 (.pick (.t 25) (.t 28) (.c (.bool false))),oV 30 29,oG 30 true (oF 31 11
 1),oG 30 true (oL 32 31),oG 30 true (oM 33 (.call 70 [(.t 32),(oK 0),(oK 5)])),oM 34 (.pick (.t 30) (.t 33) (.c (.bool false))),oV 2 34] .ret))
theorem ok66:FnOk Try.prog 66 35 1 c66 [.t 2]:=⟨_,_,Try.func66,rfl,rfl,by kernel_rfl,by kernel_rfl⟩
theorem bd66:bodied Try.prog 66=true:=by kernel_rfl
def c67:CI:=(oR [oM 2 (.box 0 true (.t 0)),oM 4 (.mv (.c (.lit (.map none))))] (oR [oM 13 (.mkx 1),oM 14 (.build [(.int .i64 0),
 (.int .i64 0),(.int .i64 0),(.int .i64 0),(.int .i64 0),(.int .i64 0)] []),oS (.mpu (.st (.node [(0,1,(.leaf true)),(1,1,(.leaf true)),(2,1,
 (.leaf true)),(3,1,(.leaf true)),(4,1,(.leaf true)),(5,1,(.leaf true))])) (.t 13) (.t 14) (oK 1) []),oV 15 13,oV 5 15] (.seq (oR [oF
 16 0 2,oF 17 9 16,oL 18 17,oN 19 18,oM 20 (.mv (oK 0))] (.block 0 (.loop (oR [oM 21 (.bin .lss (.t 20) (.t 19))] (.seq (.cond (.t 21) .skip
 (.exit 0)) (.seq (.block 1 (oR [oV 22 20,oV 6 22] (oR [oM 23 (.mkx 2),oV 7 23] (oR [oW 24 12 2,oV 25 6,oV 26 1,oM 27 (.callw
 3 1 94 [(.t 24),(.t 25),(.t 26)]),oV 8 27] (.seq (oR [oV 28 5,oM 29 (.mrx 4 (.t 28))] (.block 2 (.loop (oR [oM 30 (.mnz (.t 29)),
 oX 31 0 30] (.seq (.cond (.t 31) .skip (.exit 2)) (.block 3 (oR [oM 32 (.mez (.t 29)),oX 33 0 32,oX 34 1 32,oM 9 (.alloc 5 [(.int .i64 0),
 (.int .i64 0),(.int .i64 0),(.int .i64 0),(.int .i64 0),(.int .i64 0)]),oS (.store true 6 (.t 9) (.t 33) []),oV 10 34] (oR [oV 35 8,oM
 36 (.mrx 6 (.t 35))] (.block 4 (.loop (oR [oM 37 (.mnz (.t 36)),oX 38 0 37] (.seq (.cond (.t 38) .skip (.exit 4)) (.block 5 (oR [oM
 39 (.mez (.t 36)),oX 40 0 39,oX 41 1 39,oM 11 (.alloc 7 [(.int .i64 0),(.int .i64 0),(.int .i64 0),(.int .i64 0),(.int .i64 0),(.int .i64 0)]),
 oS (.store true 6 (.t 11) (.t 40) []),oV 12 41] (.alt [oV 42 7,oW 43 6 9,oW 44 6 11,oV 47 10,oV 48 12,oM 49 (.bin .mul (.t 47) (.t 48)),oM 45 (.call
 95 [(.t 43),(.t 44)]),oM 46 (.lkp (.st (.node [(0,1,(.leaf true)),(1,1,(.leaf true)),(2,1,(.leaf true)),(3,1,(.leaf true)),(4,1,(.leaf
 true)),(5,1,(.leaf true))])) false (.int .i64 0) (.t 42) (.t 45)),oM 50 (.bin .add (.t 46) (.t 49)),oM 51 (.mpe (.st (.node [(0,1,(.leaf true)),
 (1,1,(.leaf true)),(2,1,(.leaf true)),(3,1,(.leaf true)),(4,1,(.leaf true)),(5,1,(.leaf true))])) (.int .i64 0) (.t 42) (.t 45) []),oX 52
 1 51,oS (.mes (.t 42) (.t 52) (.t 50) [])] [oV 42 7,oW 43 6 9,oW 44 6 11,oV 47 10,oV 48 12,oM 49 (.bin .mul (.t 47) (.t 48)),oM 45 (.call 95 [(.t
 43),(.t 44)]),oM 51 (.mpe (.st (.node [(0,1,(.leaf true)),(1,1,(.leaf true)),(2,1,(.leaf true)),(3,1,(.leaf true)),(4,1,(.leaf true)),
 (5,1,(.leaf true))])) (.int .i64 0) (.t 42) (.t 45) []),oM 46 (.lkp (.st (.node [(0,1,(.leaf true)),(1,1,(.leaf true)),(2,1,(.leaf true)),(3,
 1,(.leaf true)),(4,1,(.leaf true)),(5,1,(.leaf true))])) false (.int .i64 0) (.t 42) (.t 45)),oM 50 (.bin .add (.t 46) (.t 49)),oX 52 1 51,oS
 (.mes (.t 42) (.t 52) (.t 50) [])]))))))))))))))) (.reg [oV 53 7,oV 5 53])))))) (.reg [oM 54 (.bin .add (.t 20) (oK 1)),oV 20 54]))))))) (oR [oV 55 5,oV 4 55] .ret))))
theorem ok67:FnOk Try.prog 67 56 8 c67 [.t 4]:=⟨_,_,Try.func67,rfl,rfl,by kernel_rfl,by kernel_rfl⟩
theorem bd67:bodied Try.prog 67=true:=by kernel_rfl
def c68:CI:=(oR [oM 2 (.box 0 true (.t 0)),oM 3 (.box 1 true (.t 1)),oM 4 (.mv (oK 0))] (oR [oM 5 (.mv (oK 0))] (.seq (oR [oF 8 0 2,oF 9 10 8,oL 10 9,oN 11 10,oM 12 (.mv (oK 0))] (.block 0 (.loop (oR [oM 13 (.bin .lss (.t 12) (.t 11))] (.seq (.cond (.t 13) .skip
 (.exit 0)) (.seq (.block 1 (oR [oV 14 12,oI 15 2 10 12,oW 16 2 15,oM 7 (.alloc 2 [(.int .i64 0),(.int .i64 0)]),oV 6 14,oS (.store true 2
 (.t 7) (.t 16) [])] (oR [oV 17 6,oM 18 (.paddr 1 6 (.t 3) (.t 17)),oL 19 18,oF 20 1 7,oL 21 20,oM 22 (.bin .neq (.t 19) (.t 21))] (.cond
 (.t 22) (.reg [oV 23 5,oM 24 (.bin .add (.t 23) (oK 1)),oV 5 24]) .skip)))) (.reg [oM 25 (.bin .add (.t 12) (oK 1)),oV 12 25]))))))) (oR [oV
 26 5,oV 4 26] .ret))))
theorem ok68:FnOk Try.prog 68 27 3 c68 [.t 4]:=⟨_,_,Try.func68,rfl,rfl,by kernel_rfl,by kernel_rfl⟩
theorem bd68:bodied Try.prog 68=true:=by kernel_rfl
def c69:CI:=(oR [oM 1 (.box 0 true (.t 0)),oM 2 (.mv (.c (.bool false)))] (oR [oW 3 12 1,oF 5 0 1,oF 6 11 5,oL 7 6,oM 4 (.call
 38 [(.t 3)]),oM 8 (.bin .leq (.t 4) (.t 7)),oV 2 8] .ret))
theorem ok69:FnOk Try.prog 69 9 1 c69 [.t 2]:=⟨_,_,Try.func69,rfl,rfl,by kernel_rfl,by kernel_rfl⟩
theorem bd69:bodied Try.prog 69=true:=by kernel_rfl
def c70:CI:=(oR [oM 6 (.mv (.c (.bool false)))] (oR [oV 7 1,oV 8 0,oM 9 (.bin .leq (.t 7) (.t 8)),oV 10 9,oG 10 true (oV 11 0),
 oG 10 true (oV 12 2),oG 10 true (oM 13 (.bin .leq (.t 11) (.t 12))),oM 14 (.pick (.t 10) (.t 13) (.c (.bool false))),oV 6 14] .ret))
theorem ok70:FnOk Try.prog 70 15 0 c70 [.t 6]:=⟨_,_,Try.func70,rfl,rfl,by kernel_rfl,by kernel_rfl⟩
theorem bd70:bodied Try.prog 70=true:=by kernel_rfl
def c71:CI:=(oR [oM 6 (.mv (.c (.bool false)))] (oR [oV 7 0,oL 8 2,oM 9 (.bin .eql (.t 7) (.t 8)),oV 10 9,oG 10 true (oV 11 1),
 oG 10 true (oL 12 3),oG 10 true (oM 13 (.bin .eql (.t 11) (.t 12))),oM 14 (.pick (.t 10) (.t 13) (.c (.bool false))),oV 6 14] .ret))
theorem ok71:FnOk Try.prog 71 15 0 c71 [.t 6]:=⟨_,_,Try.func71,rfl,rfl,by kernel_rfl,by kernel_rfl⟩
theorem bd71:bodied Try.prog 71=true:=by kernel_rfl
def c72:CI:=(oR [oM 6 (.mv (.c (.bool false)))] (oR [oV 7 0,oV 8 1,oM 9 (.bin .geq (.t 7) (.t 8)),oV 10 9,oG 10 true (oV 11 0),
 oG 10 true (oV 12 2),oG 10 true (oM 13 (.bin .leq (.t 11) (.t 12))),oM 14 (.pick (.t 10) (.t 13) (.c (.bool false))),oV 6 14] .ret))
theorem ok72:FnOk Try.prog 72 15 0 c72 [.t 6]:=⟨_,_,Try.func72,rfl,rfl,by kernel_rfl,by kernel_rfl⟩
theorem bd72:bodied Try.prog 72=true:=by kernel_rfl
def c73:CI:=(oR [oM 2 (.box 0 true (.t 0)),oM 4 (.mv (oK 0))] (.seq (oR [oW 7 9 2,oM 8 (.call 78 [(.t 7)]),oV 5 8] (oR [oV 9 5,oM 10 (.bin .neq (.t 9) (oK 0))] (.cond (.t 10) (oR [oV 11 5,oV 4 11] .ret) .skip))) (oR [oM 12 (.mkfn 96 [(.t 2)]),oV 6 12]
 (.seq (oR [oV 13 1,oN 14 13,oM 15 (.bin .gtr (.t 14) (oK 20)),oV 16 15,oG 16 false (oV 17 1),oG 16 false (oV 18 6),oG 16 false (oM 19 (.call
 75 [(.t 17),(.t 18)])),oG 16 false (oM 20 (.un .not (.t 19))),oM 21 (.pick (.t 16) (.c (.bool true)) (.t 20))] (.cond (.t 21) (oR [oM 4 (.mv
 (oK 1))] .ret) .skip)) (oR [oM 4 (.mv (oK 0))] .ret)))))
theorem ok73:FnOk Try.prog 73 22 1 c73 [.t 4]:=⟨_,_,Try.func73,rfl,rfl,by kernel_rfl,by kernel_rfl⟩
theorem bd73:bodied Try.prog 73=true:=by kernel_rfl
def c74:CI:=(oR [oM 1 (.box 0 true (.t 0)),oM 2 (.alloc 1 [(.int .i64 0),(.int .i64 0)])] (oR [oW 7 7 1,oF 8 1 1,oL 9 8,oM 10
 (.call 29 [(.t 7),(oK 0),(.t 9)]),oV 6 10,oX 11 0 6,oX 12 1 6,oX 13 2 6,oM 3 (.alloc 2 [(.int .i64 0),(.int .i64 0)]),oM 4 (.alloc 3 [(.int .i64
 0),(.int .i64 0)]),oS (.store true 2 (.t 3) (.t 11) []),oS (.store true 2 (.t 4) (.t 12) []),oV 5 13] (oR [oW 14 2 3,oW 16 2 4,oM 15 (.call
 98 [(.t 14)]),oM 17 (.call 98 [(.t 16)]),oM 18 (.build [(.int .i64 0),(.int .i64 0)] [(0,1,(.t 15)),(1,1,(.t 17))]),oS (.store true 2 (.t 2) (.t
 18) [])] .ret)))
theorem ok74:FnOk Try.prog 74 19 4 c74 [.cell 2 true 2]:=⟨_,_,Try.func74,rfl,rfl,by kernel_rfl,by kernel_rfl⟩
theorem bd74:bodied Try.prog 74=true:=by kernel_rfl
def c75:CI:=(oR [oM 4 (.mv (.c (.bool false)))] (.seq (oR [oV 7 0,oN 8 7,oM 9 (.mv (oK 0))] (.block 0 (.loop (oR [oM 10
 (.bin .lss (.t 9) (.t 8))] (.seq (.cond (.t 10) .skip (.exit 0)) (.seq (.block 1 (oR [oI 11 2 7 9,oW 12 2 11,oM 6 (.alloc 0 [(.int .i64 0),
 (.int .i64 0)]),oS (.store true 2 (.t 6) (.t 12) [])] (oR [oV 13 1,oW 14 2 6,oM 15 (.callx (.t 13) [(.t 14)]),oM 16 (.un .not (.t 15))] (.cond
 (.t 16) (oR [oM 4 (.mv (.c (.bool false)))] .ret) .skip)))) (.reg [oM 17 (.bin .add (.t 9) (oK 1)),oV 9 17]))))))) (oR [oM 4 (.mv (.c
 (.bool true)))] .ret)))
theorem ok75:FnOk Try.prog 75 18 1 c75 [.t 4]:=⟨_,_,Try.func75,rfl,rfl,by kernel_rfl,by kernel_rfl⟩
theorem bd75:bodied Try.prog 75=true:=by kernel_rfl
def c76:CI:=(oR [oM 2 (.box 0 true (.t 0)),oM 3 (.mv (.c (.bool false)))] (oR [oW 4 3 1,oW 5 2 2,oM 6 (.callw 1 1 77 [(.t 4),(.t
 5)]),oN 7 6,oM 8 (.bin .eql (.t 7) (oK 0)),oV 3 8] .ret))
theorem ok76:FnOk Try.prog 76 9 2 c76 [.t 3]:=⟨_,_,Try.func76,rfl,rfl,by kernel_rfl,by kernel_rfl⟩
theorem bd76:bodied Try.prog 76=true:=by kernel_rfl
def c77:CI:=(oR [oM 2 (.box 0 true (.t 0)),oM 3 (.box 1 true (.t 1)),oM 4 (.mv oZ)] (oR [oF 5 1 2,oL 6 5,oN 7 6,oM 8 (.mkfn 100
 [(.t 2),(.t 3)]),oM 9 (.callw 2 1 99 [(.t 7),(.t 8)]),oV 4 9] .ret))
theorem ok77:FnOk Try.prog 77 10 3 c77 [.t 4]:=⟨_,_,Try.func77,rfl,rfl,by kernel_rfl,by kernel_rfl⟩
theorem bd77:bodied Try.prog 77=true:=by kernel_rfl
def c78:CI:=(oR [oM 1 (.box 0 true (.t 0)),oM 2 (.mv (oK 0))] (.seq (oR [oW 3 9 1,oM 4 (.call 102 [(.t 3)]),oM 5 (.un .not (.t
 4))] (.cond (.t 5) (oR [oM 2 (.mv (oK 50))] .ret) .skip)) (oR [oM 2 (.mv (oK 0))] .ret)))
theorem ok78:FnOk Try.prog 78 6 1 c78 [.t 2]:=⟨_,_,Try.func78,rfl,rfl,by kernel_rfl,by kernel_rfl⟩
theorem bd78:bodied Try.prog 78=true:=by kernel_rfl
def c79:CI:=(oR [oM 0 (.alloc 0 [.nils,(.int .i64 0),(.int .i64 0),(.int .i64 0),(.int .i64 0),(.int .i64 0),(.int .i64 0)])] (oR [oM 1 (.build [(.int .i64 0),(.int .i64 0)] [(0,1,(oK 50)),(1,1,(oK 52))]),oM 2 (.build [(.int .i64 0),(.int .i64 0)] [(0,1,(oK 60)),(1,
 1,(oK 60))]),oM 3 (.build [(.int .i64 0),(.int .i64 0)] [(0,1,(oK 1)),(1,1,(oK 1))]),oM 4 (.build [(.int .i64 0),(.int .i64 0),(.int .i64 0),
 (.int .i64 0),(.int .i64 0),(.int .i64 0),(.int .i64 0)] [(0,2,(.t 1)),(2,2,(.t 2)),(5,2,(.t 3))]),oM 5 (.build [(.int .i64 0),(.int .i64
 0)] [(0,1,(oK 40)),(1,1,(oK 40))]),oM 6 (.build [(.int .i64 0),(.int .i64 0)] [(0,1,(oK 45)),(1,1,(oK 46))]),oM 7 (.build [(.int .i64 0),
 (.int .i64 0)] [(0,1,(oK 1)),(1,1,(oK 2))]),oM 8 (.build [(.int .i64 0),(.int .i64 0),(.int .i64 0),(.int .i64 0),(.int .i64 0),(.int .i64 0),
 (.int .i64 0)] [(0,2,(.t 5)),(2,2,(.t 6)),(4,1,(oK 5)),(5,2,(.t 7))]),oM 9 (.bsl 1 77 7 [(.t 4),(.t 8)] []),oM 10 (.build [(.int .i64 0),
 (.int .i64 0)] [(0,1,(oK 1)),(1,1,(oK 20))]),oM 11 (.build [.nils,(.int .i64 0),(.int .i64 0),(.int .i64 0),(.int .i64 0),(.int .i64 0),(.int
 .i64 0)] [(0,1,(.t 9)),(1,1,(oK 20)),(2,1,(oK 100)),(3,2,(.t 10)),(5,1,(oK 300)),(6,1,(oK 351))]),oS (.stz true 7 (.t 0) (.t 11) [])]
 .ret))
theorem ok79:FnOk Try.prog 79 12 2 c79 [.cell 0 true 7]:=⟨_,_,Try.func79,rfl,rfl,by kernel_rfl,by kernel_rfl⟩
theorem bd79:bodied Try.prog 79=true:=by kernel_rfl
def c80:CI:=(oR [oM 1 (.box 0 true (.t 0)),oM 2 (.mv oZ)] (oR [oM 3 (.mv oZ)] (oR [oW 6 12 1,oM 7 (.callw 1 1 103 [(.t
 6),oZ]),oV 4 7] (.seq (oR [oM 5 (.mv (oK 0))] (.block 0 (.loop (.seq (oR [oV 8 5,oV 9 4,oN 10 9,oM 11 (.bin .lss (.t 8) (.t 10))]
 (.cond (.t 11) .skip (.exit 0))) (.seq (.block 1 (oR [oW 14 12 1,oV 15 4,oV 16 5,oI 17 1 15 16,oL 18 17,oF 20 11 1,oL 21 20,oM 19 (.call
 104 [(.t 14),(.t 18)]),oM 22 (.bin .leq (.t 19) (.t 21))] (.cond (.t 22) (.reg [oV 23 3,oV 24 4,oV 25 5,oI 26 1 24 25,oL 27 26,oM 28 (.bsl 2 28
 1 [(.t 27)] []),oM 29 (.apd 3 28 1 24 (.t 23) (.t 28) []),oV 3 29]) .skip))) (.reg [oV 12 5,oM 13 (.bin .add (.t 12) (oK 1)),oV 5 13])))))) (oR [oV 30 3,oV 2 30] .ret)))))
theorem ok80:FnOk Try.prog 80 31 4 c80 [.t 2]:=⟨_,_,Try.func80,rfl,rfl,by kernel_rfl,by kernel_rfl⟩
theorem bd80:bodied Try.prog 80=true:=by kernel_rfl
def c81:CI:=(oR [oM 2 (.box 0 true (.t 0)),oM 4 (.mv (oK 0))] (.seq (oR [oW 5 7 2,oM 6 (.call 105 [(.t 5)]),oM 7 (.un .not (.t
 6))] (.cond (.t 7) (oR [oM 4 (.mv (oK 10))] .ret) .skip)) (.seq (oR [oV 8 1,oF 9 0 2,oL 10 9,oN 11 10,oM 12 (.bin .sub (.t 11) (oK
 1)),oM 13 (.call 82 [(.t 8),(oK 0),(.t 12)]),oM 14 (.un .not (.t 13))] (.cond (.t 14) (oR [oM 4 (.mv (oK 1))] .ret) .skip)) (oR [oM
 4 (.mv (oK 0))] .ret))))
theorem ok81:FnOk Try.prog 81 15 1 c81 [.t 4]:=⟨_,_,Try.func81,rfl,rfl,by kernel_rfl,by kernel_rfl⟩
theorem bd81:bodied Try.prog 81=true:=by kernel_rfl
def c82:CI:=(oR [oM 6 (.mv (.c (.bool false)))] (oR [oV 7 1,oV 8 0,oM 9 (.bin .leq (.t 7) (.t 8)),oV 10 9,oG 10 true (oV 11 0),
 oG 10 true (oV 12 2),oG 10 true (oM 13 (.bin .leq (.t 11) (.t 12))),oM 14 (.pick (.t 10) (.t 13) (.c (.bool false))),oV 6 14] .ret))
theorem ok82:FnOk Try.prog 82 15 0 c82 [.t 6]:=⟨_,_,Try.func82,rfl,rfl,by kernel_rfl,by kernel_rfl⟩
theorem bd82:bodied Try.prog 82=true:=by kernel_rfl
def c83:CI:=(oR [oM 6 (.alloc 0 [(.int .i64 0),(.int .i64 0)])] (oR [oV 7 0,oV 8 0,oM 9 (.bin .mul (.t 7) (.t 8)),oV 10 1,oV
 11 1,oM 12 (.bin .mul (.t 10) (.t 11)),oM 13 (.bin .add (.t 9) (.t 12)),oV 14 2,oV 15 2,oM 16 (.bin .mul (.t 14) (.t 15)),oM 17 (.bin .sub (.t 13)
 (.t 16)),oV 18 0,oM 19 (.bin .mul (oK 2) (.t 18)),oV 20 1,oM 21 (.bin .mul (.t 19) (.t 20)),oM 22 (.build [(.int .i64 0),(.int .i64 0)] [(0,1,(.t
 17)),(1,1,(.t 21))]),oS (.store true 2 (.t 6) (.t 22) [])] .ret))
theorem ok83:FnOk Try.prog 83 23 1 c83 [.cell 6 true 2]:=⟨_,_,Try.func83,rfl,rfl,by kernel_rfl,by kernel_rfl⟩
theorem bd83:bodied Try.prog 83=true:=by kernel_rfl
def c84:CI:=(oR [oM 1 (.box 0 true (.t 0)),oM 2 (.mv (.c (.lit (.nilFunc))))] (oR [oM 3 (.mkfn 106 [(.t 1)]),oV 2 3] .ret))
theorem ok84:FnOk Try.prog 84 4 1 c84 [.t 2]:=⟨_,_,Try.func84,rfl,rfl,by kernel_rfl,by kernel_rfl⟩
theorem bd84:bodied Try.prog 84=true:=by kernel_rfl
def c85:CI:=(oR [oM 2 (.box 0 true (.t 0)),oM 3 (.box 1 true (.t 1)),oM 4 (.mv (.c (.bool false)))] (oR [oF 5 0 2,oL 6 5,oF 7
 1 3,oL 8 7,oM 9 (.bin .mul (.t 6) (.t 8)),oF 10 0 3,oL 11 10,oF 12 1 2,oL 13 12,oM 14 (.bin .mul (.t 11) (.t 13)),oM 15 (.bin .lss (.t 9) (.t 14)),
 oV 4 15] .ret))
theorem ok85:FnOk Try.prog 85 16 2 c85 [.t 4]:=⟨_,_,Try.func85,rfl,rfl,by kernel_rfl,by kernel_rfl⟩
theorem bd85:bodied Try.prog 85=true:=by kernel_rfl
def c86:CI:=(oR [oM 4 (.mv (oK 0))] (.seq (.block 0 (.loop (.seq (oR [oV 5 0,oM 6 (.bin .neq (.t 5) (oK 0))] (.cond (.t 6) .skip
 (.exit 0))) (.block 1 (.reg [oV 7 1,oV 8 0,oM 9 (.bin .rem (.t 7) (.t 8)),oV 10 0,oV 0 9,oV 1 10]))))) (oR [oV 11 1,oV 4 11] .ret)))
theorem ok86:FnOk Try.prog 86 12 0 c86 [.t 4]:=⟨_,_,Try.func86,rfl,rfl,by kernel_rfl,by kernel_rfl⟩
theorem bd86:bodied Try.prog 86=true:=by kernel_rfl
def c87:CI:=(oR [oM 2 (.box 0 true (.t 0)),oM 4 (.mv (oK 0))] (oR [oF 6 1 2,oL 7 6,oN 8 7,oV 5 8] (oR [oV 9 1,oV 10
 5,oM 11 (.bin .add (.t 9) (.t 10)),oV 12 5,oM 13 (.bin .rem (.t 11) (.t 12)),oV 4 13] .ret)))
theorem ok87:FnOk Try.prog 87 14 1 c87 [.t 4]:=⟨_,_,Try.func87,rfl,rfl,by kernel_rfl,by kernel_rfl⟩
theorem bd87:bodied Try.prog 87=true:=by kernel_rfl
def c88:CI:=(oR [oM 1 (.box 0 true (.t 0)),oM 2 (.mv (oK 0))] (.seq (oR [oM 3 (.mv (oK 0))] (.block 0 (.loop (.seq (oR [oV
 5 3,oF 6 0 1,oL 7 6,oN 8 7,oM 9 (.bin .lss (.t 5) (.t 8))] (.cond (.t 9) .skip (.exit 0))) (.seq (.block 1 (oR [oF 12 0 1,oL 13 12,oV 14
 3,oI 15 7 13 14,oW 16 7 15,oM 4 (.alloc 1 [(.int .i64 0),(.int .i64 0),(.int .i64 0),(.int .i64 0),(.int .i64 0),(.int .i64 0),(.int .i64 0)]),
 oS (.store true 7 (.t 4) (.t 16) [])] (oR [oF 17 0 4,oW 18 2 17,oM 19 (.call 107 [(.t 18)]),oM 20 (.un .not (.t 19)),oV 21 20,oG 21 false
 (oF 22 2 4),oG 21 false (oW 23 2 22),oG 21 false (oM 24 (.call 107 [(.t 23)])),oG 21 false (oM 25 (.un .not (.t 24))),oM 26 (.pick (.t 21) (.c (.bool
 true)) (.t 25)),oV 27 26,oG 27 false (oF 28 4 4),oG 27 false (oL 29 28),oG 27 false (oM 30 (.call 72 [(.t 29),(oK 0),(oK 2000)])),oG 27 false (oM
 31 (.un .not (.t 30))),oM 32 (.pick (.t 27) (.c (.bool true)) (.t 31)),oV 33 32,oG 33 false (oF 34 5 4),oG 33 false (oW 35 2 34),oG 33 false (oM 36
 (.call 108 [(.t 35)])),oG 33 false (oM 37 (.un .not (.t 36))),oM 38 (.pick (.t 33) (.c (.bool true)) (.t 37))] (.cond (.t 38) (oR [oM 2 (.mv
 (oK 10))] .ret) .skip)))) (.reg [oV 10 3,oM 11 (.bin .add (.t 10) (oK 1)),oV 3 11])))))) (.seq (oR [oF 39 0 1,oL 40 39,oN 41 40,oM 42 (.call
 72 [(.t 41),(oK 1),(oK 3)]),oM 43 (.un .not (.t 42)),oV 44 43,oG 44 false (oF 45 1 1),oG 44 false (oL 46 45),oG 44 false (oF 47 2 1),oG 44 false
 (oL 48 47),oG 44 false (oM 49 (.call 72 [(.t 46),(oK 1),(.t 48)])),oG 44 false (oM 50 (.un .not (.t 49))),oM 51 (.pick (.t 44) (.c (.bool true)) (.t
 50)),oV 52 51,oG 52 false (oF 53 2 1),oG 52 false (oL 54 53),oG 52 false (oM 55 (.bin .gtr (.t 54) (oK 2000))),oM 56 (.pick (.t 52) (.c (.bool true))
 (.t 55)),oV 57 56,oG 57 false (oF 58 2 1),oG 57 false (oL 59 58),oG 57 false (oF 60 1 1),oG 57 false (oL 61 60),oG 57 false (oM 62 (.bin .sub (.t
 59) (.t 61))),oG 57 false (oM 63 (.bin .gtr (.t 62) (oK 200))),oM 64 (.pick (.t 57) (.c (.bool true)) (.t 63)),oV 65 64,oG 65 false (oF 66 3 1),oG
 65 false (oW 67 2 66),oG 65 false (oM 68 (.call 108 [(.t 67)])),oG 65 false (oM 69 (.un .not (.t 68))),oM 70 (.pick (.t 65) (.c (.bool true)) (.t 69)),
 oV 71 70,oG 71 false (oF 72 5 1),oG 71 false (oL 73 72),oG 71 false (oM 74 (.call 72 [(.t 73),(oK 0),(oK 4000)])),oG 71 false (oM 75 (.un .not (.t
 74))),oM 76 (.pick (.t 71) (.c (.bool true)) (.t 75)),oV 77 76,oG 77 false (oF 78 6 1),oG 77 false (oL 79 78),oG 77 false (oM 80 (.call 72 [(.t 79),
 (oK 0),(oK 4000)])),oG 77 false (oM 81 (.un .not (.t 80))),oM 82 (.pick (.t 77) (.c (.bool true)) (.t 81))] (.cond (.t 82) (oR [oM 2 (.mv (oK
 10))] .ret) .skip)) (oR [oM 2 (.mv (oK 0))] .ret))))
theorem ok88:FnOk Try.prog 88 83 2 c88 [.t 2]:=⟨_,_,Try.func88,rfl,rfl,by kernel_rfl,by kernel_rfl⟩
theorem bd88:bodied Try.prog 88=true:=by kernel_rfl
def c89:CI:=(oR [oM 4 (.mv (.c (.bool false)))] (.seq (oR [oV 7 0,oN 8 7,oM 9 (.mv (oK 0))] (.block 0 (.loop (oR [oM 10
 (.bin .lss (.t 9) (.t 8))] (.seq (.cond (.t 10) .skip (.exit 0)) (.seq (.block 1 (oR [oI 11 3 7 9,oW 12 3 11,oM 6 (.alloc 0 [(.int .i64 0),
 (.int .i64 0),(.int .i64 0)]),oS (.store true 3 (.t 6) (.t 12) [])] (oR [oV 13 1,oW 14 3 6,oM 15 (.callx (.t 13) [(.t 14)]),oM 16 (.un .not
 (.t 15))] (.cond (.t 16) (oR [oM 4 (.mv (.c (.bool false)))] .ret) .skip)))) (.reg [oM 17 (.bin .add (.t 9) (oK 1)),oV 9 17]))))))) (oR [oM 4 (.mv (.c (.bool true)))] .ret)))
theorem ok89:FnOk Try.prog 89 18 1 c89 [.t 4]:=⟨_,_,Try.func89,rfl,rfl,by kernel_rfl,by kernel_rfl⟩
theorem bd89:bodied Try.prog 89=true:=by kernel_rfl
def c90:CI:=(oR [oM 2 (.box 0 true (.t 0)),oM 3 (.mv (.c (.bool false)))] (oR [oW 4 12 1,oW 5 3 2,oM 6 (.call 91 [(.t 4),(.t 5)]),
 oV 3 6] .ret))
theorem ok90:FnOk Try.prog 90 7 1 c90 [.t 3]:=⟨_,_,Try.func90,rfl,rfl,by kernel_rfl,by kernel_rfl⟩
theorem bd90:bodied Try.prog 90=true:=by kernel_rfl
def c91:CI:=(oR [oM 2 (.box 0 true (.t 0)),oM 3 (.box 1 true (.t 1)),oM 4 (.mv (.c (.bool false)))] (oR [oF 5 0 3,oL 6 5,oF 7
 0 2,oF 8 7 7,oL 9 8,oN 10 9,oM 11 (.bin .sub (.t 10) (oK 1)),oM 12 (.call 70 [(.t 6),(oK 0),(.t 11)]),oV 13 12,oG 13 true (oF 14 1 3),oG 13 true
 (oF 15 0 14),oG 13 true (oL 16 15),oG 13 true (oF 17 1 3),oG 13 true (oF 18 1 17),oG 13 true (oL 19 18),oG 13 true (oM 20 (.call 70 [(.t 16),(oK
 0),(.t 19)])),oM 21 (.pick (.t 13) (.t 20) (.c (.bool false))),oV 22 21,oG 22 true (oF 23 1 3),oG 22 true (oF 24 1 23),oG 22 true (oL 25 24),oG
 22 true (oM 26 (.call 43 [(.t 25)])),oM 27 (.pick (.t 22) (.t 26) (.c (.bool false))),oV 28 27,oG 28 true (oF 29 1 3),oG 28 true (oF 30 1 29),oG 28
 true (oL 31 30),oG 28 true (oF 32 1 3),oG 28 true (oF 33 0 32),oG 28 true (oL 34 33),oG 28 true (oM 35 (.bin .sub (.t 31) (.t 34))),oG 28 true (oM
 36 (.bin .leq (.t 35) (oK 9))),oM 37 (.pick (.t 28) (.t 36) (.c (.bool false))),oV 4 37] .ret))
theorem ok91:FnOk Try.prog 91 38 2 c91 [.t 4]:=⟨_,_,Try.func91,rfl,rfl,by kernel_rfl,by kernel_rfl⟩
theorem bd91:bodied Try.prog 91=true:=by kernel_rfl
def c92:CI:=(oR [oM 4 (.mv (.c (.bool false)))] (.seq (oR [oV 7 0,oN 8 7,oM 9 (.mv (oK 0))] (.block 0 (.loop (oR [oM 10
 (.bin .lss (.t 9) (.t 8))] (.seq (.cond (.t 10) .skip (.exit 0)) (.seq (.block 1 (oR [oI 11 2 7 9,oW 12 2 11,oM 6 (.alloc 0 [(.int .i64 0),
 (.int .i64 0)]),oS (.store true 2 (.t 6) (.t 12) [])] (oR [oV 13 1,oW 14 2 6,oM 15 (.callx (.t 13) [(.t 14)]),oM 16 (.un .not (.t 15))] (.cond
 (.t 16) (oR [oM 4 (.mv (.c (.bool false)))] .ret) .skip)))) (.reg [oM 17 (.bin .add (.t 9) (oK 1)),oV 9 17]))))))) (oR [oM 4 (.mv (.c
 (.bool true)))] .ret)))
theorem ok92:FnOk Try.prog 92 18 1 c92 [.t 4]:=⟨_,_,Try.func92,rfl,rfl,by kernel_rfl,by kernel_rfl⟩
theorem bd92:bodied Try.prog 92=true:=by kernel_rfl
def c93:CI:=(oR [oM 1 (.box 0 true (.t 0)),oM 2 (.mv (.c (.bool false)))] (oR [oF 3 0 1,oL 4 3,oM 5 (.call 43 [(.t 4)]),oV 6 5,
 oG 6 true (oF 7 1 1),oG 6 true (oL 8 7),oG 6 true (oM 9 (.call 70 [(.t 8),(oK 0),(oK 8)])),oM 10 (.pick (.t 6) (.t 9) (.c (.bool false))),oV 2 10]
 .ret))
theorem ok93:FnOk Try.prog 93 11 1 c93 [.t 2]:=⟨_,_,Try.func93,rfl,rfl,by kernel_rfl,by kernel_rfl⟩
theorem bd93:bodied Try.prog 93=true:=by kernel_rfl
def c94:CI:=(oR [oM 3 (.box 0 true (.t 0)),oM 6 (.mv (.c (.lit (.map none))))] (oR [oM 12 (.mkx 1),oV 7 12] (.seq (oR [oF
 13 0 3,oF 14 9 13,oL 15 14,oV 16 1,oI 17 3 15 16,oF 18 1 17,oF 19 0 18,oL 20 19,oV 8 20] (.block 0 (.loop (.seq (oR [oV 21 8,oF 22 0
 3,oF 23 9 22,oL 24 23,oV 25 1,oI 26 3 24 25,oF 27 1 26,oF 28 1 27,oL 29 28,oM 30 (.bin .leq (.t 21) (.t 29))] (.cond (.t 30) .skip (.exit 0)))
 (.seq (.block 1 (oR [oM 9 (.alloc 2 [(.int .i64 0),(.int .i64 0),(.int .i64 0),(.int .i64 0),(.int .i64 0),(.int .i64 0)])] (.seq (oR [oF 33 0 3,oF 34 10 33,oL 35 34,oN 36 35,oM 37 (.mv (oK 0))] (.block 2 (.loop (oR [oM 38 (.bin .lss (.t 37) (.t 36))] (.seq (.cond (.t 38)
 .skip (.exit 2)) (.seq (.block 3 (oR [oV 39 37,oI 40 2 35 37,oW 41 2 40,oM 11 (.alloc 3 [(.int .i64 0),(.int .i64 0)]),oV 10 39,oS (.store
 true 2 (.t 11) (.t 41) [])] (oR [oV 42 8,oF 43 0 11,oL 44 43,oM 45 (.bin .geq (.t 42) (.t 44))] (.cond (.t 45) (.reg [oV 46 10,oM 47 (.paddr
 1 6 (.t 9) (.t 46)),oS (.store false 1 (.t 47) (oK 1) [])]) .skip)))) (.reg [oM 48 (.bin .add (.t 37) (oK 1)),oV 37 48]))))))) (.seq (oR [oV
 49 2,oV 50 1,oV 51 8,oM 52 (.callx (.t 49) [(.t 50),(.t 51)])] (.cond (.t 52) (.reg [oM 53 (.paddr 1 6 (.t 9) (oK 5)),oS (.store false 1 (.t 53)
 (oK 1) [])]) .skip)) (.alt [oV 54 7,oW 55 6 9,oM 56 (.lkp (.st (.node [(0,1,(.leaf true)),(1,1,(.leaf true)),(2,1,(.leaf true)),(3,1,(.leaf
 true)),(4,1,(.leaf true)),(5,1,(.leaf true))])) false (.int .i64 0) (.t 54) (.t 55)),oM 57 (.bin .add (.t 56) (oK 1)),oM 58 (.mpe (.st (.node [(0,
 1,(.leaf true)),(1,1,(.leaf true)),(2,1,(.leaf true)),(3,1,(.leaf true)),(4,1,(.leaf true)),(5,1,(.leaf true))])) (.int .i64 0) (.t 54)
 (.t 55) []),oX 59 1 58,oS (.mes (.t 54) (.t 59) (.t 57) [])] [oV 54 7,oW 55 6 9,oM 58 (.mpe (.st (.node [(0,1,(.leaf true)),(1,1,(.leaf true)),
 (2,1,(.leaf true)),(3,1,(.leaf true)),(4,1,(.leaf true)),(5,1,(.leaf true))])) (.int .i64 0) (.t 54) (.t 55) []),oM 56 (.lkp (.st (.node [(0,
 1,(.leaf true)),(1,1,(.leaf true)),(2,1,(.leaf true)),(3,1,(.leaf true)),(4,1,(.leaf true)),(5,1,(.leaf true))])) false (.int .i64 0) (.t
 54) (.t 55)),oM 57 (.bin .add (.t 56) (oK 1)),oX 59 1 58,oS (.mes (.t 54) (.t 59) (.t 57) [])]))))) (.reg [oV 31 8,oM 32 (.bin .add (.t 31) (oK 1)),
 oV 8 32])))))) (oR [oV 60 7,oV 6 60] .ret))))
theorem ok94:FnOk Try.prog 94 61 4 c94 [.t 6]:=⟨_,_,Try.func94,rfl,rfl,by kernel_rfl,by kernel_rfl⟩
theorem bd94:bodied Try.prog 94=true:=by kernel_rfl
def c95:CI:=(oR [oM 2 (.box 0 true (.t 0)),oM 3 (.box 1 true (.t 1)),oM 4 (.alloc 2 [(.int .i64 0),(.int .i64 0),(.int .i64 0),(.int .i64
 0),(.int .i64 0),(.int .i64 0)])] (.seq (oR [oW 7 6 3,oM 8 (.mv (oK 0))] (.block 0 (.loop (oR [oM 9 (.bin .lss (.t 8) (oK 6))] (.seq
 (.cond (.t 9) .skip (.exit 0)) (.seq (.block 1 (oR [oV 10 8,oM 11 (.aidx false 1 6 (.t 7) (.t 8)),oV 5 10,oV 6 11] (.reg [oV 12 5,oM 13 (.paddr
 1 6 (.t 2) (.t 12)),oL 14 13,oV 15 6,oM 16 (.bin .add (.t 14) (.t 15)),oM 17 (.paddr 1 6 (.t 2) (.t 12)),oS (.store false 1 (.t 17) (.t 16) [])])))
 (.reg [oM 18 (.bin .add (.t 8) (oK 1)),oV 8 18]))))))) (oR [oW 19 6 2,oS (.store true 6 (.t 4) (.t 19) [])] .ret)))
theorem ok95:FnOk Try.prog 95 20 3 c95 [.cell 4 true 6]:=⟨_,_,Try.func95,rfl,rfl,by kernel_rfl,by kernel_rfl⟩
theorem bd95:bodied Try.prog 95=true:=by kernel_rfl
def c96:CI:=(oR [oM 2 (.box 0 true (.t 0)),oM 3 (.mv (.c (.bool false)))] (oR [oF 4 0 2,oL 5 4,oM 6 (.call 97 [(.t 5),(oK 0),
 (oK 99)]),oV 7 6,oG 7 true (oF 8 1 2),oG 7 true (oL 9 8),oG 7 true (oF 10 7 1),oG 7 true (oL 11 10),oG 7 true (oN 12 11),oG 7 true (oM 13 (.bin
 .sub (.t 12) (oK 1))),oG 7 true (oM 14 (.call 97 [(.t 9),(oK 0),(.t 13)])),oM 15 (.pick (.t 7) (.t 14) (.c (.bool false))),oV 3 15] .ret))
theorem ok96:FnOk Try.prog 96 16 1 c96 [.t 3]:=⟨_,_,Try.func96,rfl,rfl,by kernel_rfl,by kernel_rfl⟩
theorem bd96:bodied Try.prog 96=true:=by kernel_rfl
def c97:CI:=(oR [oM 6 (.mv (.c (.bool false)))] (oR [oV 7 1,oV 8 0,oM 9 (.bin .leq (.t 7) (.t 8)),oV 10 9,oG 10 true (oV 11 0),
 oG 10 true (oV 12 2),oG 10 true (oM 13 (.bin .leq (.t 11) (.t 12))),oM 14 (.pick (.t 10) (.t 13) (.c (.bool false))),oV 6 14] .ret))
theorem ok97:FnOk Try.prog 97 15 0 c97 [.t 6]:=⟨_,_,Try.func97,rfl,rfl,by kernel_rfl,by kernel_rfl⟩
theorem bd97:bodied Try.prog 97=true:=by kernel_rfl
def c98:CI:=(oR [oM 1 (.box 0 true (.t 0)),oM 2 (.mv (oK 0))] (oR [oF 4 1 1,oL 5 4,oF 6 0 1,oL 7 6,oM 8 (.bin .add (.t 5) (.t
 7)),oM 9 (.bin .mul (oK 100) (.t 8)),oM 10 (.mm true [(oK 0),(.t 9)]),oF 11 1 1,oL 12 11,oM 13 (.bin .quo (.t 10) (.t 12)),oV 3 13] (oR [oV 14 3,oM 15 (.mm false [(.t 14),(oK 200)]),oV 2 15] .ret)))
theorem ok98:FnOk Try.prog 98 16 1 c98 [.t 2]:=⟨_,_,Try.func98,rfl,rfl,by kernel_rfl,by kernel_rfl⟩
theorem bd98:bodied Try.prog 98=true:=by kernel_rfl
def c99:CI:=(oR [oM 4 (.mv oZ)] (oR [oM 5 (.mv oZ)] (.seq (oR [oV 7 0,oM 8 (.mv (oK 0))] (.block 0 (.loop (oR [oM
 9 (.bin .lss (.t 8) (.t 7))] (.seq (.cond (.t 9) .skip (.exit 0)) (.seq (.block 1 (oR [oV 10 8,oV 6 10] (oR [oV 11 1,oV 12 6,oM 13
 (.callx (.t 11) [(.t 12)])] (.cond (.t 13) (.reg [oV 14 5,oV 15 6,oM 16 (.bsl 0 3 1 [(.t 15)] []),oM 17 (.apd 1 3 1 8 (.t 14) (.t 16) []),oV 5 17])
 .skip)))) (.reg [oM 18 (.bin .add (.t 8) (oK 1)),oV 8 18]))))))) (oR [oV 19 5,oV 4 19] .ret))))
theorem ok99:FnOk Try.prog 99 20 2 c99 [.t 4]:=⟨_,_,Try.func99,rfl,rfl,by kernel_rfl,by kernel_rfl⟩
theorem bd99:bodied Try.prog 99=true:=by kernel_rfl
def c100:CI:=(oR [oM 4 (.mv (.c (.bool false)))] (oR [oW 5 3 1,oW 6 2 2,oV 7 0,oM 8 (.call 101 [(.t 5),(.t 6),(.t 7)]),oV 4
 8] .ret))
theorem ok100:FnOk Try.prog 100 9 0 c100 [.t 4]:=⟨_,_,Try.func100,rfl,rfl,by kernel_rfl,by kernel_rfl⟩
theorem bd100:bodied Try.prog 100=true:=by kernel_rfl
def c101:CI:=(oR [oM 3 (.box 0 true (.t 0)),oM 4 (.box 1 true (.t 1)),oM 6 (.mv (.c (.bool false)))] (oR [oW 7 3 3,oW 8 2 4,oV
 9 2,oF 11 1 3,oL 12 11,oV 13 2,oI 14 1 12 13,oL 15 14,oM 10 (.call 61 [(.t 7),(.t 8),(.t 9)]),oM 16 (.bin .gtr (.t 10) (.t 15)),oV 6 16] .ret))
theorem ok101:FnOk Try.prog 101 17 2 c101 [.t 6]:=⟨_,_,Try.func101,rfl,rfl,by kernel_rfl,by kernel_rfl⟩
theorem bd101:bodied Try.prog 101=true:=by kernel_rfl
def c102:CI:=(oR [oM 1 (.box 0 true (.t 0)),oM 2 (.mv (.c (.bool false)))] (oR [oF 3 0 1,oW 4 7 3,oM 5 (.call 109 [(.t 4)]),oM
 6 (.bin .eql (.t 5) (oK 0)),oV 7 6,oG 7 true (oF 8 7 1),oG 7 true (oL 9 8),oG 7 true (oN 10 9),oG 7 true (oM 11 (.call 97 [(.t 10),(oK 3),(oK 10)])),
 oM 12 (.pick (.t 7) (.t 11) (.c (.bool false))),oV 13 12,oG 13 true (oF 14 7 1),oG 13 true (oL 15 14),oG 13 true (oM 16 (.call 110 [(.t 15),(.c (.fn
 111 []))])),oM 17 (.pick (.t 13) (.t 16) (.c (.bool false))),oV 18 17,oG 18 true (oF 19 8 1),oG 18 true (oL 20 19),oG 18 true (oN 21 20),oG 18 true
 (oF 22 7 1),oG 18 true (oL 23 22),oG 18 true (oN 24 23),oG 18 true (oM 25 (.bin .eql (.t 21) (.t 24))),oM 26 (.pick (.t 18) (.t 25) (.c (.bool false))),
 oV 27 26,oG 27 true (oF 28 8 1),oG 27 true (oL 29 28),oG 27 true (oM 30 (.call 112 [(.t 29),(.c (.fn 113 []))])),oM 31 (.pick (.t 27) (.t 30) (.c
 (.bool false))),oV 2 31] .ret))
theorem ok102:FnOk Try.prog 102 32 1 c102 [.t 2]:=⟨_,_,Try.func102,rfl,rfl,by kernel_rfl,by kernel_rfl⟩
theorem bd102:bodied Try.prog 102=true:=by kernel_rfl
def c103:CI:=(oR [oM 2 (.box 0 true (.t 0)),oM 4 (.mv oZ)] (.seq (oR [oV 8 1,oN 9 8,oF 10 9 2,oL 11 10,oN 12 11,oM 13 (.bin
 .eql (.t 9) (.t 12))] (.cond (.t 13) (oR [oV 14 1,oM 15 (.bsl 1 28 1 [(.t 14)] []),oV 4 15] .ret) .skip)) (oR [oM 5 (.mv oZ)] (oR [oF 16 9 2,oL 17 16,oV 18 1,oN 19 18,oI 20 3 17 19,oF 21 1 20,oW 22 2 21,oM 6 (.alloc 2 [(.int .i64 0),(.int .i64 0)]),oS (.store true 2
 (.t 6) (.t 22) [])] (.seq (oR [oF 23 0 6,oL 24 23,oV 7 24] (.block 0 (.loop (.seq (oR [oV 25 7,oF 26 1 6,oL 27 26,oM 28 (.bin .leq
 (.t 25) (.t 27))] (.cond (.t 28) .skip (.exit 0))) (.seq (.block 1 (.reg [oV 31 5,oW 32 12 2,oV 34 1,oV 36 7,oM 33 (.bsl 3 3 1 [] []),oM 35 (.apd
 4 3 1 8 (.t 33) (.t 34) [(.t 2)]),oM 37 (.bsl 5 3 1 [(.t 36)] [(.t 33),(.t 34)]),oM 38 (.apd 6 3 1 8 (.t 35) (.t 37) [(.t 2)]),oM 39 (.callz 7 1 103
 [(.t 32),(.t 38)] []),oM 40 (.apd 8 28 1 24 (.t 31) (.t 39) []),oV 5 40])) (.reg [oV 29 7,oM 30 (.bin .add (.t 29) (oK 1)),oV 7 30])))))) (oR [oV 41 5,oV 4 41] .ret))))))
theorem ok103:FnOk Try.prog 103 42 9 c103 [.t 4]:=⟨_,_,Try.func103,rfl,rfl,by kernel_rfl,by kernel_rfl⟩
theorem bd103:bodied Try.prog 103=true:=by kernel_rfl
def c104:CI:=(oR [oM 2 (.box 0 true (.t 0)),oM 4 (.mv (oK 0))] (oR [oM 5 (.mv (oK 0))] (.seq (oR [oM 6 (.mv (oK 0))] (.block
 0 (.loop (.seq (oR [oV 7 6,oF 8 10 2,oL 9 8,oN 10 9,oM 11 (.bin .lss (.t 7) (.t 10))] (.cond (.t 11) .skip (.exit 0))) (.seq (.block 1 (oR [oF 14 10 2,oL 15 14,oV 16 6,oI 17 2 15 16,oW 18 2 17,oV 19 1,oM 20 (.call 114 [(.t 18),(.t 19)]),oM 21 (.un .not (.t 20))] (.cond (.t 21)
 (.reg [oV 22 5,oM 23 (.bin .add (.t 22) (oK 1)),oV 5 23]) .skip))) (.reg [oV 12 6,oM 13 (.bin .add (.t 12) (oK 1)),oV 6 13])))))) (oR [oV 24
 5,oV 4 24] .ret))))
theorem ok104:FnOk Try.prog 104 25 1 c104 [.t 4]:=⟨_,_,Try.func104,rfl,rfl,by kernel_rfl,by kernel_rfl⟩
theorem bd104:bodied Try.prog 104=true:=by kernel_rfl
def c105:CI:=(oR [oM 1 (.box 0 true (.t 0)),oM 2 (.mv (.c (.bool false)))] (.seq (oR [oF 5 0 1,oL 6 5,oN 7 6,oM 8 (.bin .lss (.t
 7) (oK 1)),oV 9 8,oG 9 false (oF 10 0 1),oG 9 false (oL 11 10),oG 9 false (oN 12 11),oG 9 false (oM 13 (.bin .gtr (.t 12) (oK 3))),oM 14 (.pick (.t
 9) (.c (.bool true)) (.t 13))] (.cond (.t 14) (oR [oM 2 (.mv (.c (.bool false)))] .ret) .skip)) (.seq (oR [oF 15 0 1,oL 16 15,oN 17
 16,oM 18 (.mv (oK 0))] (.block 0 (.loop (oR [oM 19 (.bin .lss (.t 18) (.t 17))] (.seq (.cond (.t 19) .skip (.exit 0)) (.seq (.block 1 (oR [oI 20 7 16 18,oW 21 7 20,oM 4 (.alloc 1 [(.int .i64 0),(.int .i64 0),(.int .i64 0),(.int .i64 0),(.int .i64 0),(.int .i64 0),(.int .i64
 0)]),oS (.store true 7 (.t 4) (.t 21) [])] (oR [oW 22 7 4,oM 23 (.call 115 [(.t 22)]),oM 24 (.un .not (.t 23))] (.cond (.t 24) (oR [oM 2 (.mv (.c (.bool false)))] .ret) .skip)))) (.reg [oM 25 (.bin .add (.t 18) (oK 1)),oV 18 25]))))))) (oR [oF 26 1 1,oL 27 26,oF 28 2 1,
 oL 29 28,oM 30 (.build [(.int .i64 0),(.int .i64 0)] [(0,1,(.t 27)),(1,1,(.t 29))]),oM 31 (.call 116 [(.t 30),(oK 200)]),oV 32 31,oG 32 true
 (oF 33 3 1),oG 32 true (oW 34 2 33),oG 32 true (oM 35 (.call 117 [(.t 34)])),oM 36 (.pick (.t 32) (.t 35) (.c (.bool false))),oV 37 36,oG 37 true
 (oF 38 5 1),oG 37 true (oL 39 38),oG 37 true (oM 40 (.call 82 [(.t 39),(oK 0),(oK 4000)])),oM 41 (.pick (.t 37) (.t 40) (.c (.bool false))),oV 42
 41,oG 42 true (oF 43 6 1),oG 42 true (oL 44 43),oG 42 true (oM 45 (.call 82 [(.t 44),(oK 0),(oK 4000)])),oM 46 (.pick (.t 42) (.t 45) (.c (.bool
 false))),oV 2 46] .ret))))
theorem ok105:FnOk Try.prog 105 47 2 c105 [.t 2]:=⟨_,_,Try.func105,rfl,rfl,by kernel_rfl,by kernel_rfl⟩
theorem bd105:bodied Try.prog 105=true:=by kernel_rfl
def c106:CI:=(oR [oF 5 0 1,oF 6 0 5,oL 7 6,oV 3 7] (.block 0 (.loop (.seq (oR [oV 8 3,oF 9 0 1,oF 10 1 9,oL 11 10,oM 12 (.bin
 .leq (.t 8) (.t 11))] (.cond (.t 12) .skip (.exit 0))) (.seq (.block 1 (oR [oF 15 2 1,oF 16 0 15,oL 17 16,oV 4 17] (.block 2 (.loop (.seq
 (oR [oV 18 4,oF 19 2 1,oF 20 1 19,oL 21 20,oM 22 (.bin .leq (.t 18) (.t 21))] (.cond (.t 22) .skip (.exit 2))) (.seq (.block 3 (oR [oV 25 0,oV 26 3,oV 27 4,oM 28 (.callx (.t 25) [(.t 26),(.t 27)]),oM 29 (.un .not (.t 28))] (.cond (.t 29) .ret .skip))) (.reg [oV 23 4,oM 24 (.bin
 .add (.t 23) (oK 1)),oV 4 24]))))))) (.reg [oV 13 3,oM 14 (.bin .add (.t 13) (oK 1)),oV 3 14]))))))
theorem ok106:FnOk Try.prog 106 30 0 c106 []:=⟨_,_,Try.func106,rfl,rfl,by kernel_rfl,by kernel_rfl⟩
theorem bd106:bodied Try.prog 106=true:=by kernel_rfl
def c107:CI:=(oR [oM 1 (.box 0 true (.t 0)),oM 2 (.mv (.c (.bool false)))] (oR [oF 3 0 1,oL 4 3,oF 5 1 1,oL 6 5,oM 7 (.call 72
 [(.t 4),(oK 1),(.t 6)]),oV 8 7,oG 8 true (oF 9 1 1),oG 8 true (oL 10 9),oG 8 true (oM 11 (.bin .leq (.t 10) (oK 2000))),oM 12 (.pick (.t 8) (.t
 11) (.c (.bool false))),oV 13 12,oG 13 true (oF 14 1 1),oG 13 true (oL 15 14),oG 13 true (oF 16 0 1),oG 13 true (oL 17 16),oG 13 true (oM 18 (.bin
 .sub (.t 15) (.t 17))),oG 13 true (oM 19 (.bin .leq (.t 18) (oK 6))),oM 20 (.pick (.t 13) (.t 19) (.c (.bool false))),oV 2 20] .ret))
theorem ok107:FnOk Try.prog 107 21 1 c107 [.t 2]:=⟨_,_,Try.func107,rfl,rfl,by kernel_rfl,by kernel_rfl⟩
theorem bd107:bodied Try.prog 107=true:=by kernel_rfl
def c108:CI:=(oR [oM 1 (.box 0 true (.t 0)),oM 2 (.mv (.c (.bool false)))] (oR [oF 3 1 1,oL 4 3,oM 5 (.call 72 [(.t 4),(oK 1),
 (oK 20)]),oV 6 5,oG 6 true (oF 7 0 1),oG 6 true (oL 8 7),oG 6 true (oF 9 1 1),oG 6 true (oL 10 9),oG 6 true (oM 11 (.call 72 [(.t 8),(oK 0),(.t
 10)])),oM 12 (.pick (.t 6) (.t 11) (.c (.bool false))),oV 2 12] .ret))
theorem ok108:FnOk Try.prog 108 13 1 c108 [.t 2]:=⟨_,_,Try.func108,rfl,rfl,by kernel_rfl,by kernel_rfl⟩
theorem bd108:bodied Try.prog 108=true:=by kernel_rfl
def c109:CI:=(oR [oM 1 (.box 0 true (.t 0)),oM 2 (.mv (oK 0))] (.seq (oR [oW 3 7 1,oM 4 (.call 105 [(.t 3)]),oM 5 (.un .not (.t
 4))] (.cond (.t 5) (oR [oM 2 (.mv (oK 10))] .ret) .skip)) (oR [oM 2 (.mv (oK 0))] .ret)))
theorem ok109:FnOk Try.prog 109 6 1 c109 [.t 2]:=⟨_,_,Try.func109,rfl,rfl,by kernel_rfl,by kernel_rfl⟩
theorem bd109:bodied Try.prog 109=true:=by kernel_rfl
def c110:CI:=(oR [oM 4 (.mv (.c (.bool false)))] (.seq (oR [oV 7 0,oN 8 7,oM 9 (.mv (oK 0))] (.block 0 (.loop (oR [oM 10
 (.bin .lss (.t 9) (.t 8))] (.seq (.cond (.t 10) .skip (.exit 0)) (.seq (.block 1 (oR [oI 11 2 7 9,oW 12 2 11,oM 6 (.alloc 0 [(.int .i64 0),
 (.int .i64 0)]),oS (.store true 2 (.t 6) (.t 12) [])] (oR [oV 13 1,oW 14 2 6,oM 15 (.callx (.t 13) [(.t 14)]),oM 16 (.un .not (.t 15))] (.cond
 (.t 16) (oR [oM 4 (.mv (.c (.bool false)))] .ret) .skip)))) (.reg [oM 17 (.bin .add (.t 9) (oK 1)),oV 9 17]))))))) (oR [oM 4 (.mv (.c
 (.bool true)))] .ret)))
theorem ok110:FnOk Try.prog 110 18 1 c110 [.t 4]:=⟨_,_,Try.func110,rfl,rfl,by kernel_rfl,by kernel_rfl⟩
theorem bd110:bodied Try.prog 110=true:=by kernel_rfl
def c111:CI:=(oR [oM 1 (.box 0 true (.t 0)),oM 2 (.mv (.c (.bool false)))] (oR [oF 3 0 1,oL 4 3,oF 5 1 1,oL 6 5,oM 7 (.call 97
 [(.t 4),(oK 0),(.t 6)]),oV 8 7,oG 8 true (oF 9 1 1),oG 8 true (oL 10 9),oG 8 true (oM 11 (.bin .leq (.t 10) (oK 99999))),oM 12 (.pick (.t 8) (.t
 11) (.c (.bool false))),oV 2 12] .ret))
theorem ok111:FnOk Try.prog 111 13 1 c111 [.t 2]:=⟨_,_,Try.func111,rfl,rfl,by kernel_rfl,by kernel_rfl⟩
theorem bd111:bodied Try.prog 111=true:=by kernel_rfl
def c112:CI:=(oR [oM 4 (.mv (.c (.bool false)))] (.seq (oR [oV 7 0,oN 8 7,oM 9 (.mv (oK 0))] (.block 0 (.loop (oR [oM 10
 (.bin .lss (.t 9) (.t 8))] (.seq (.cond (.t 10) .skip (.exit 0)) (.seq (.block 1 (oR [oI 11 1 7 9,oL 12 11,oV 6 12] (oR [oV 13 1,oV
 14 6,oM 15 (.callx (.t 13) [(.t 14)]),oM 16 (.un .not (.t 15))] (.cond (.t 16) (oR [oM 4 (.mv (.c (.bool false)))] .ret) .skip)))) (.reg [oM
 17 (.bin .add (.t 9) (oK 1)),oV 9 17]))))))) (oR [oM 4 (.mv (.c (.bool true)))] .ret)))
theorem ok112:FnOk Try.prog 112 18 0 c112 [.t 4]:=⟨_,_,Try.func112,rfl,rfl,by kernel_rfl,by kernel_rfl⟩
theorem bd112:bodied Try.prog 112=true:=by kernel_rfl
def c113:CI:=(oR [oM 2 (.mv (.c (.bool false)))] (oR [oV 3 0,oM 4 (.call 97 [(.t 3),(oK 0),(oK 99)]),oV 2 4] .ret))
theorem ok113:FnOk Try.prog 113 5 0 c113 [.t 2]:=⟨_,_,Try.func113,rfl,rfl,by kernel_rfl,by kernel_rfl⟩
theorem bd113:bodied Try.prog 113=true:=by kernel_rfl
def c114:CI:=(oR [oM 2 (.box 0 true (.t 0)),oM 4 (.mv (.c (.bool false)))] (oR [oV 5 1,oF 6 0 2,oL 7 6,oF 9 1 2,oL 10 9,oM 8
 (.call 118 [(.t 5),(.t 7)]),oM 11 (.bin .eql (.t 8) (.t 10)),oV 4 11] .ret))
theorem ok114:FnOk Try.prog 114 12 1 c114 [.t 4]:=⟨_,_,Try.func114,rfl,rfl,by kernel_rfl,by kernel_rfl⟩
theorem bd114:bodied Try.prog 114=true:=by kernel_rfl
def c115:CI:=(oR [oM 1 (.box 0 true (.t 0)),oM 2 (.mv (.c (.bool false)))] (oR [oF 3 0 1,oW 4 2 3,oM 5 (.call 116 [(.t 4),(oK
 6)]),oV 6 5,oG 6 true (oF 7 2 1),oG 6 true (oW 8 2 7),oG 6 true (oM 9 (.call 116 [(.t 8),(oK 6)])),oM 10 (.pick (.t 6) (.t 9) (.c (.bool false))),
 oV 11 10,oG 11 true (oF 12 4 1),oG 11 true (oL 13 12),oG 11 true (oM 14 (.call 82 [(.t 13),(oK 0),(oK 2000)])),oM 15 (.pick (.t 11) (.t 14) (.c (.bool
 false))),oV 16 15,oG 16 true (oF 17 5 1),oG 16 true (oW 18 2 17),oG 16 true (oM 19 (.call 117 [(.t 18)])),oM 20 (.pick (.t 16) (.t 19) (.c (.bool
 false))),oV 2 20] .ret))
theorem ok115:FnOk Try.prog 115 21 1 c115 [.t 2]:=⟨_,_,Try.func115,rfl,rfl,by kernel_rfl,by kernel_rfl⟩
theorem bd115:bodied Try.prog 115=true:=by kernel_rfl
def c116:CI:=(oR [oM 2 (.box 0 true (.t 0)),oM 4 (.mv (.c (.bool false)))] (oR [oF 5 0 2,oL 6 5,oF 7 1 2,oL 8 7,oM 9 (.call 82
 [(.t 6),(oK 1),(.t 8)]),oV 10 9,oG 10 true (oF 11 1 2),oG 10 true (oL 12 11),oG 10 true (oM 13 (.bin .leq (.t 12) (oK 2000))),oM 14 (.pick (.t 10)
 (.t 13) (.c (.bool false))),oV 15 14,oG 15 true (oF 16 1 2),oG 15 true (oL 17 16),oG 15 true (oF 18 0 2),oG 15 true (oL 19 18),oG 15 true (oM 20
 (.bin .sub (.t 17) (.t 19))),oG 15 true (oV 21 1),oG 15 true (oM 22 (.bin .leq (.t 20) (.t 21))),oM 23 (.pick (.t 15) (.t 22) (.c (.bool false))),oV
 4 23] .ret))
theorem ok116:FnOk Try.prog 116 24 1 c116 [.t 4]:=⟨_,_,Try.func116,rfl,rfl,by kernel_rfl,by kernel_rfl⟩
theorem bd116:bodied Try.prog 116=true:=by kernel_rfl
def c117:CI:=(oR [oM 1 (.box 0 true (.t 0)),oM 2 (.mv (.c (.bool false)))] (oR [oF 3 1 1,oL 4 3,oM 5 (.call 82 [(.t 4),(oK 1),
 (oK 20)]),oV 6 5,oG 6 true (oF 7 0 1),oG 6 true (oL 8 7),oG 6 true (oF 9 1 1),oG 6 true (oL 10 9),oG 6 true (oM 11 (.call 82 [(.t 8),(oK 0),(.t
 10)])),oM 12 (.pick (.t 6) (.t 11) (.c (.bool false))),oV 2 12] .ret))
theorem ok117:FnOk Try.prog 117 13 1 c117 [.t 2]:=⟨_,_,Try.func117,rfl,rfl,by kernel_rfl,by kernel_rfl⟩
theorem bd117:bodied Try.prog 117=true:=by kernel_rfl
def c118:CI:=(oR [oM 4 (.mv (oK 0))] (oR [oM 5 (.mv (oK 0))] (.seq (oR [oM 6 (.mv (oK 0))] (.block 0 (.loop (.seq (oR [oV 7 6,oV 8 0,oN 9 8,oM 10 (.bin .lss (.t 7) (.t 9))] (.cond (.t 10) .skip (.exit 0))) (.seq (.block 1 (oR [oV 13 0,oV 14 6,oI 15
 1 13 14,oL 16 15,oV 17 1,oM 18 (.bin .geq (.t 16) (.t 17))] (.cond (.t 18) (.reg [oV 19 5,oM 20 (.bin .add (.t 19) (oK 1)),oV 5 20]) .skip))) (.reg
 [oV 11 6,oM 12 (.bin .add (.t 11) (oK 1)),oV 6 12])))))) (oR [oV 21 5,oV 4 21] .ret))))
theorem ok118:FnOk Try.prog 118 22 0 c118 [.t 4]:=⟨_,_,Try.func118,rfl,rfl,by kernel_rfl,by kernel_rfl⟩
theorem bd118:bodied Try.prog 118=true:=by kernel_rfl
end Go.Proofs
