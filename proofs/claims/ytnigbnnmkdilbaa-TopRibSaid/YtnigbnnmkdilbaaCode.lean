/- The functions of this program as the walk reads them, each proved to be what the program holds. -/
import Derived.Test.YtnigbnnmkdilbaaEng4
import Derived.Test.YtnigbnnmkdilbaaProg
import Derived.KernelRfl
namespace Go.Proofs
open Go.Eng
set_option maxRecDepth 100000
end Go.Proofs
namespace Go.Eng
theorem FnA.cq{P:Program}{sg:List Res}{f:FuncId}{args args':List AV}{a:AV}{k:AV->Prop}(h:FnA P f args' (· = a))(hr:AV.puL args=true)(hz:AV.frzL sg 8 args=some args')(hk:k a):CallQ P sg f args k:=h.callq hr hz fun _ e=>by subst e;exact hk
theorem FnA.lq{P:Program}{sg:List Res}{f:FuncId}{args args':List AV}{a:AV}{k:AV->Prop}(h:FnA P f args' (· = a))(hz:AV.frzL sg 8 args=some args')(hf:a.flat=true)(hk:k a):CallQ P sg f args k:=h.lendq hz fun _ e=>by subst e;exact⟨hf,hk⟩
theorem FnA.zq{P:Program}{fl:Bool}{sg:List Res}{nm ct:Nat}{f:FuncId}{args args':List AV}{z:List (Nat × Res)}{a:AV}{k:List (Nat × Res)->AV->Prop}(h:FnA P f args' (· = a))(hz:AV.reachL sg args=some z)(hr:AV.frzL sg 8 args=some args')(hk:k z a):CallZQ P fl sg nm ct f args k:=h.callzq hz hr fun _ e=>by subst e;exact hk
theorem FnO.oq{P:Program}{fl:Bool}{sg:List Res}{nm ct:Nat}{f:FuncId}{args args':List AV}{z:List (Nat × Res)}{a:AV}{b:List (Nat × Res)}{k:List (Nat × Res)->AV->Prop}(h:FnO P f args' (fun r rows=>r=a/\rows=b))(hz:AV.reachL sg args=some z)(hr:AV.frzL sg 8 args=some args')(hb:rowsB ct b=true)(hk:k (z++nameR b nm) (a.rnr (posN b nm))):CallZQ P fl sg nm ct f args k:=h.callzq hz hr fun _ _ e=>by obtain⟨e,e'⟩:=e;subst e;subst e';exact⟨hb,hk⟩
theorem wJ{x:Int}{K:Int->Prop}(hk:K x)(h : -9223372036854775808<=x/\x<=9223372036854775807:=by omega):WrE .i64 x K:=wIn h hk
theorem nJ{p A:Prop}(k:A)(h:p:=by omega):Need p A:=nI h k
theorem iaJ{es:List (List AV)}{i:Int}{K:List AV->Prop}{cs:List AV}(hc:es.getD i.toNat []=cs)(hk:K cs)(h0:0<=i:=by omega)(h1:i<es.length:=by omega):IaE es i K:=iaI h0 h1 hc hk
theorem apJ{sz bytes:Nat}{xs ys:List (List AV)}{K:Prop}(hk:K)(h1:∀e∈ys,e.length=sz/\e.all AV.one=true:=by simp[AV.one])(h2:(xs.length+ys.length)*bytes<=140737488355328:=by(simp only[List.length_cons,List.length_nil];omega)):ApE sz bytes xs ys K:=apI h1 h2 hk
theorem mI{s s':St}(h:Meets (fun i=>i) (fun _=>false) s s':=by((repeat' apply And.intro)<;>first|rfl|exact True.intro|(intro hh;cases hh))):MeetsE s s':=meets_id h
theorem mR(i j:Nat){s s':St}(h:Meets (fun k=>match decide (k=i)with|true=>j|false=>k) (fun _=>false) s s':=by((repeat' apply And.intro)<;>first|rfl|exact True.intro|(intro hh;cases hh))):MeetsE s s':=meets_ren i j h
theorem mN(i:Nat){s s':St}(h:Meets (fun k=>k) (fun k=>decide (k=i)) s s':=by((repeat' apply And.intro)<;>first|rfl|exact True.intro|(intro hh;cases hh))):MeetsE s s':=meets_nil i h
theorem mA(l:List (Nat × Option Nat)){s s':St}(h:Meets (asN l) (asB l) s s':=by((repeat' apply And.intro)<;>first|rfl|exact True.intro|(intro hh;cases hh))):MeetsE s s':=meets_as l h
end Go.Eng
namespace Go.Proofs
open Go.Eng
@[reducible] def oR(l:List IOp)(c:CI):CI:=.seq (.reg l) c
@[reducible] def oM(d:Nat)(o:Ixo):IOp:=⟨none,some d,o⟩
@[reducible] def oS(o:Ixo):IOp:=⟨none,none,o⟩
@[reducible] def oG(g:Nat)(b:Bool)(p:IOp):IOp:=⟨some (g,b),p.d,p.o⟩
@[reducible] def oV(d t:Nat):IOp:=⟨none,some d, .mv (.t t)⟩
@[reducible] def oL(d t:Nat):IOp:=⟨none,some d, .load false 1 (.t t)⟩
@[reducible] def oW(d n t:Nat):IOp:=⟨none,some d, .load true n (.t t)⟩
@[reducible] def oF(d k t:Nat):IOp:=⟨none,some d, .faddr k (.t t)⟩
@[reducible] def oI(d n a b:Nat):IOp:=⟨none,some d, .iaddr n (.t a) (.t b)⟩
@[reducible] def oN(d t:Nat):IOp:=⟨none,some d, .len (.t t)⟩
@[reducible] def oX(d k t:Nat):IOp:=⟨none,some d, .extract k (.t t)⟩
@[reducible] def oK(n:Int):Opd:=.c (.int .i64 n)
@[reducible] def oZ:Opd:=.c .nils
def c13:CI:=(oR [oM 3 (.box 0 true (.t 0)),oM 4 (.box 1 true (.t 1)),oM 5 (.box 2 true (.t 2)),oM 6 (.mv (.c (.bool false)))] (.seq (oR [oW 28 4 3,oM 29 (.call 14 [(.t 28)]),oV 30 29,oG 30 false (oF 31 3 3),oG 30 false (oL 32 31),oG 30 false (oN 33 32),oG 30 false (oM 34 (.bin
 .gtr (.t 33) (oK 9))),oM 35 (.pick (.t 30) (.c (.bool true)) (.t 34)),oV 36 35,oG 36 false (oW 37 4 3),oG 36 false (oM 38 (.call 54 [(.t 37)])),oG
 36 false (oM 39 (.bin .neq (.t 38) (oK 0))),oM 40 (.pick (.t 36) (.c (.bool true)) (.t 39)),oV 41 40,oG 41 false (oW 42 7 4),oG 41 false (oM 43 (.call
 55 [(.t 42)])),oM 44 (.pick (.t 41) (.c (.bool true)) (.t 43)),oV 45 44,oG 45 false (oW 46 7 4),oG 45 false (oM 47 (.call 56 [(.t 46)])),oG 45 false
 (oM 48 (.bin .neq (.t 47) (oK 0))),oM 49 (.pick (.t 45) (.c (.bool true)) (.t 48)),oV 50 49,oG 50 false (oW 51 4 3),oG 50 false (oF 52 0 5),oG 50
 false (oL 53 52),oG 50 false (oM 54 (.call 47 [(.t 51),(.t 53)])),oG 50 false (oM 55 (.un .not (.t 54))),oM 56 (.pick (.t 50) (.c (.bool true)) (.t
 55)),oV 57 56,oG 57 false (oW 58 7 4),oG 57 false (oF 59 1 5),oG 57 false (oL 60 59),oG 57 false (oM 61 (.call 57 [(.t 58),(.t 60)])),oG 57 false
 (oM 62 (.un .not (.t 61))),oM 63 (.pick (.t 57) (.c (.bool true)) (.t 62))] (.cond (.t 63) (oR [oM 64 (.call 58 []),oV 6 64] .ret) .skip))
 (oR [oW 65 4 3,oM 66 (.callw 3 3 16 [(.t 65)]),oM 7 (.alloc 6 [.nils, .nils,(.int .i64 0), .nils]),oS (.stz true 4 (.t 7) (.t 66) [])] (oR [oF 67 3 7,oL 68 67,oF 69 2 5,oW 70 4 69,oM 71 (.bsl 7 70 4 [(.t 70)] []),oM 72 (.apd 8 70 4 32 (.t 68) (.t 71) []),oF 73 3 7,oS (.stz false
 1 (.t 73) (.t 72) [])] (.seq (oR [oW 74 4 7,oM 75 (.call 54 [(.t 74)]),oM 76 (.bin .neq (.t 75) (oK 0))] (.cond (.t 76) (oR [oM 77
 (.call 58 []),oV 6 77] .ret) .skip)) (oR [oW 79 4 3,oF 80 0 5,oL 81 80,oM 82 (.call 19 [(.t 79),(.t 81)]),oV 78 82,oX 83 0 78,oX 84 1
 78,oM 8 (.alloc 9 [(.int .i64 0),(.int .i64 0)]),oS (.store true 2 (.t 8) (.t 83) []),oV 9 84] (oR [oW 86 4 7,oF 87 0 5,oL 88 87,oM 89
 (.call 19 [(.t 86),(.t 88)]),oV 85 89,oX 90 0 85,oX 91 1 85,oM 10 (.alloc 10 [(.int .i64 0),(.int .i64 0)]),oS (.store true 2 (.t 10) (.t 90) []),
 oV 11 91] (.seq (oR [oV 92 9,oM 93 (.bin .neq (.t 92) (oK 0)),oV 94 93,oG 94 false (oV 95 11),oG 94 false (oM 96 (.bin .neq (.t 95) (oK 0))),
 oM 97 (.pick (.t 94) (.c (.bool true)) (.t 96)),oV 98 97,oG 98 false (oF 99 0 10),oG 98 false (oL 100 99),oG 98 false (oF 101 0 8),oG 98 false (oL
 102 101),oG 98 false (oM 103 (.bin .lss (.t 100) (.t 102))),oM 104 (.pick (.t 98) (.c (.bool true)) (.t 103)),oV 105 104,oG 105 false (oF 106 1 10),
 oG 105 false (oL 107 106),oG 105 false (oF 108 1 8),oG 105 false (oL 109 108),oG 105 false (oM 110 (.bin .gtr (.t 107) (.t 109))),oM 111 (.pick (.t
 105) (.c (.bool true)) (.t 110)),oV 112 111,oG 112 false (oF 113 0 10),oG 112 false (oL 114 113),oG 112 false (oF 115 1 10),oG 112 false (oL 116 115),
 oG 112 false (oM 117 (.bin .gtr (.t 114) (.t 116))),oM 118 (.pick (.t 112) (.c (.bool true)) (.t 117))] (.cond (.t 118) (oR [oM 6 (.mv (.c (.bool
 false)))] .ret) .skip)) (oR [oW 119 7 4,oW 121 7 4,oM 12 (.alloc 13 [.nils,(.int .i64 0),(.int .i64 0),(.int .i64 0),(.int .i64 0),(.int
 .i64 0),(.int .i64 0)]),oM 13 (.alloc 14 [.nils,(.int .i64 0),(.int .i64 0),(.int .i64 0),(.int .i64 0),(.int .i64 0),(.int .i64 0)]),oM 120 (.callz
 11 1 59 [(.t 119)] []),oM 122 (.callz 12 1 59 [(.t 121)] []),oS (.stz true 7 (.t 12) (.t 120) []),oS (.stz true 7 (.t 13) (.t 122) [])] (oR [oF 123 0 12,oL 124 123,oF 125 1 5,oL 126 125,oF 127 0 13,oL 128 127,oF 129 1 5,oL 130 129,oW 131 2 8,oW 132 2 10,oI 133 7 124 126,oF 134 0
 133,oS (.store true 2 (.t 134) (.t 131) [(.t 127),(.t 129),(.t 10)]),oI 135 7 128 130,oF 136 0 135,oS (.store true 2 (.t 136) (.t 132) [])] (.seq
 (oR [oW 137 7 12,oM 138 (.call 56 [(.t 137)]),oM 139 (.bin .neq (.t 138) (oK 0)),oV 140 139,oG 140 false (oW 141 7 13),oG 140 false (oM 142
 (.call 56 [(.t 141)])),oG 140 false (oM 143 (.bin .neq (.t 142) (oK 0))),oM 144 (.pick (.t 140) (.c (.bool true)) (.t 143))] (.cond (.t 144) (oR [oM 145 (.call 58 []),oV 6 145] .ret) .skip)) (oR [oW 147 7 12,oF 148 1 5,oL 149 148,oF 150 1 12,oL 151 150,oM 152 (.call 60 [(.t 147),
 (.t 149),(.t 151)]),oV 146 152,oX 153 0 146,oX 154 1 146,oX 155 2 146,oM 14 (.alloc 15 [(.int .i64 0),(.int .i64 0)]),oM 15 (.alloc 16 [(.int .i64
 0),(.int .i64 0)]),oS (.store true 2 (.t 14) (.t 153) []),oS (.store true 2 (.t 15) (.t 154) []),oV 16 155] (oR [oW 157 7 13,oF 158 1 5,
 oL 159 158,oF 160 1 13,oL 161 160,oM 162 (.call 60 [(.t 157),(.t 159),(.t 161)]),oV 156 162,oX 163 0 156,oX 164 1 156,oX 165 2 156,oM 17 (.alloc
 17 [(.int .i64 0),(.int .i64 0)]),oM 18 (.alloc 18 [(.int .i64 0),(.int .i64 0)]),oS (.store true 2 (.t 17) (.t 163) []),oS (.store true 2 (.t 18)
 (.t 164) []),oV 19 165] (.seq (oR [oV 166 16,oV 167 19,oM 168 (.bin .neq (.t 166) (.t 167)),oV 169 168,oG 169 false (oV 170 16),oG 169 false
 (oM 171 (.bin .neq (.t 170) (oK 0))),oG 169 false (oV 172 171),oG 172 true (oV 173 16),oG 172 true (oM 174 (.bin .neq (.t 173) (oK 3))),oG 169 false
 (oM 175 (.pick (.t 172) (.t 174) (.c (.bool false)))),oM 176 (.pick (.t 169) (.c (.bool true)) (.t 175))] (.cond (.t 176) (oR [oM 6 (.mv (.c
 (.bool false)))] .ret) .skip)) (.seq (oR [oV 177 16,oM 178 (.bin .eql (.t 177) (oK 0)),oV 179 178,oG 179 true (oF 180 1 14),oG 179 true (oL
 181 180),oG 179 true (oF 182 1 15),oG 179 true (oL 183 182),oG 179 true (oF 184 1 17),oG 179 true (oL 185 184),oG 179 true (oF 186 1 18),oG 179 true
 (oL 187 186),oG 179 true (oM 188 (.mm false [(.t 181),(.t 183),(.t 185),(.t 187)])),oG 179 true (oM 189 (.bin .lss (.t 188) (oK 1))),oG 179 true
 (oV 190 189),oG 190 false (oF 191 1 14),oG 190 false (oL 192 191),oG 190 false (oF 193 1 15),oG 190 false (oL 194 193),oG 190 false (oF 195 1 17),
 oG 190 false (oL 196 195),oG 190 false (oF 197 1 18),oG 190 false (oL 198 197),oG 190 false (oM 199 (.mm true [(.t 192),(.t 194),(.t 196),(.t 198)])),
 oG 190 false (oM 200 (.bin .gtr (.t 199) (oK 1073741824))),oG 179 true (oM 201 (.pick (.t 190) (.c (.bool true)) (.t 200))),oG 179 true (oV 202 201),
 oG 202 false (oF 203 0 14),oG 202 false (oL 204 203),oG 202 false (oF 205 0 15),oG 202 false (oL 206 205),oG 202 false (oF 207 0 17),oG 202 false
 (oL 208 207),oG 202 false (oF 209 0 18),oG 202 false (oL 210 209),oG 202 false (oM 211 (.mm true [(.t 204),(.t 206),(.t 208),(.t 210)])),oG 202
 false (oM 212 (.bin .gtr (.t 211) (oK 1073741824))),oG 179 true (oM 213 (.pick (.t 202) (.c (.bool true)) (.t 212))),oG 179 true (oV 214 213),oG 214
 false (oF 215 0 14),oG 214 false (oL 216 215),oG 214 false (oF 217 0 15),oG 214 false (oL 218 217),oG 214 false (oF 219 0 17),oG 214 false (oL 220
 219),oG 214 false (oF 221 0 18),oG 214 false (oL 222 221),oG 214 false (oM 223 (.mm false [(.t 216),(.t 218),(.t 220),(.t 222)])),oG 214 false (oM
 224 (.bin .lss (.t 223) (oK (-1073741824)))),oG 179 true (oM 225 (.pick (.t 214) (.c (.bool true)) (.t 224))),oG 179 true (oV 226 225),oG 226 false
 (oW 227 2 17),oG 226 false (oW 228 2 14),oG 226 false (oM 229 (.call 61 [(.t 227),(.t 228)])),oG 179 true (oM 230 (.pick (.t 226) (.c (.bool true))
 (.t 229))),oG 179 true (oV 231 230),oG 231 false (oW 232 2 15),oG 231 false (oW 233 2 18),oG 231 false (oM 234 (.call 61 [(.t 232),(.t 233)])),oG
 179 true (oM 235 (.pick (.t 231) (.c (.bool true)) (.t 234))),oM 236 (.pick (.t 179) (.t 235) (.c (.bool false)))] (.cond (.t 236) (oR [oM 6
 (.mv (.c (.bool false)))] .ret) .skip)) (oR [oW 238 7 12,oM 239 (.call 62 [(.t 238)]),oV 237 239,oX 240 0 237,oX 241 1 237,oV 20 240,oV
 21 241] (oR [oW 243 7 13,oM 244 (.call 62 [(.t 243)]),oV 242 244,oX 245 0 242,oX 246 1 242,oV 22 245,oV 23 246] (oR [oW 248 7 12,
 oF 249 1 5,oL 250 249,oF 251 2 12,oL 252 251,oM 253 (.call 63 [(.t 248),(.t 250),(.t 252)]),oV 247 253,oX 254 0 247,oX 255 1 247,oV 24 254,oV
 25 255] (oR [oW 257 7 13,oF 258 1 5,oL 259 258,oF 260 2 13,oL 261 260,oM 262 (.call 63 [(.t 257),(.t 259),(.t 261)]),oV 256 262,oX 263
 0 256,oX 264 1 256,oV 26 263,oV 27 264] (oR [oV 265 21,oM 266 (.bin .eql (.t 265) (oK 0)),oV 267 266,oG 267 true (oV 268 23),oG 267 true
 (oM 269 (.bin .eql (.t 268) (oK 0))),oM 270 (.pick (.t 267) (.t 269) (.c (.bool false))),oV 271 270,oG 271 true (oV 272 25),oG 271 true (oM 273 (.bin
 .eql (.t 272) (oK 0))),oM 274 (.pick (.t 271) (.t 273) (.c (.bool false))),oV 275 274,oG 275 true (oV 276 27),oG 275 true (oM 277 (.bin .eql (.t 276)
 (oK 0))),oM 278 (.pick (.t 275) (.t 277) (.c (.bool false))),oV 279 278,oG 279 true (oV 280 20),oG 279 true (oM 281 (.bin .eql (.t 280) (oK 3))),oG
 279 true (oV 282 281),oG 282 false (oV 283 20),oG 282 false (oV 284 22),oG 282 false (oM 285 (.bin .eql (.t 283) (.t 284))),oG 279 true (oM 286 (.pick
 (.t 282) (.c (.bool true)) (.t 285))),oM 287 (.pick (.t 279) (.t 286) (.c (.bool false))),oV 288 287,oG 288 true (oV 289 24),oG 288 true (oM 290 (.bin
 .eql (.t 289) (oK 3))),oG 288 true (oV 291 290),oG 291 false (oV 292 24),oG 291 false (oV 293 26),oG 291 false (oM 294 (.bin .eql (.t 292) (.t 293))),
 oG 288 true (oM 295 (.pick (.t 291) (.c (.bool true)) (.t 294))),oM 296 (.pick (.t 288) (.t 295) (.c (.bool false))),oV 297 296,oG 297 true (oM 298
 (.call 58 [])),oM 299 (.pick (.t 297) (.t 298) (.c (.bool false))),oV 6 299] .ret))))))))))))))))))))
theorem ok13:FnOk Try.prog 13 300 19 c13 [.t 6]:=⟨_,_,Try.func13,rfl,rfl,by kernel_rfl,by kernel_rfl⟩
theorem bd13:bodied Try.prog 13=true:=by kernel_rfl
def c14:CI:=(oR [oM 1 (.box 0 true (.t 0)),oM 2 (.mv (.c (.bool false)))] (.seq (oR [oF 6 0 1,oL 7 6,oN 8 7,oM 9 (.bin .gtr (.t
 8) (oK 40)),oV 10 9,oG 10 false (oF 11 1 1),oG 10 false (oL 12 11),oG 10 false (oN 13 12),oG 10 false (oM 14 (.bin .gtr (.t 13) (oK 40))),oM 15 (.pick
 (.t 10) (.c (.bool true)) (.t 14)),oV 16 15,oG 16 false (oF 17 3 1),oG 16 false (oL 18 17),oG 16 false (oN 19 18),oG 16 false (oM 20 (.bin .gtr (.t
 19) (oK 60))),oM 21 (.pick (.t 16) (.c (.bool true)) (.t 20))] (.cond (.t 21) (oR [oM 2 (.mv (.c (.bool true)))] .ret) .skip)) (.seq (oR [oM 3 (.mv (oK 0))] (.block 0 (.loop (.seq (oR [oV 22 3,oF 23 1 1,oL 24 23,oN 25 24,oM 26 (.bin .lss (.t 22) (.t 25))] (.cond (.t 26) .skip
 (.exit 0))) (.seq (.block 1 (.seq (oR [oF 29 1 1,oL 30 29,oV 31 3,oI 32 1 30 31,oF 33 0 32,oL 34 33,oN 35 34,oM 36 (.bin .gtr (.t 35) (oK
 20))] (.cond (.t 36) (oR [oM 2 (.mv (.c (.bool true)))] .ret) .skip)) (oR [oM 4 (.mv (oK 0))] (.block 2 (.loop (.seq (oR [oV
 37 4,oF 38 1 1,oL 39 38,oV 40 3,oI 41 1 39 40,oF 42 0 41,oL 43 42,oN 44 43,oM 45 (.bin .lss (.t 37) (.t 44))] (.cond (.t 45) .skip (.exit 2)))
 (.seq (.block 3 (oR [oF 48 1 1,oL 49 48,oV 50 3,oI 51 1 49 50,oF 52 0 51,oL 53 52,oV 54 4,oI 55 4 53 54,oF 56 1 55,oL 57 56,oN 58 57,
 oM 59 (.bin .gtr (.t 58) (oK 20))] (.cond (.t 59) (oR [oM 2 (.mv (.c (.bool true)))] .ret) .skip))) (.reg [oV 46 4,oM 47 (.bin .add (.t 46)
 (oK 1)),oV 4 47])))))))) (.reg [oV 27 3,oM 28 (.bin .add (.t 27) (oK 1)),oV 3 28])))))) (.seq (oR [oW 60 4 1,oM 61 (.call 18 [(.t 60)]),oM
 62 (.bin .neq (.t 61) (oK 0))] (.cond (.t 62) (oR [oM 2 (.mv (.c (.bool false)))] .ret) .skip)) (.seq (oR [oM 5 (.mv (oK 0))] (.block
 4 (.loop (.seq (oR [oV 63 5,oF 64 0 1,oL 65 64,oN 66 65,oM 67 (.bin .lss (.t 63) (.t 66))] (.cond (.t 67) .skip (.exit 4))) (.seq (.block
 5 (oR [oF 70 0 1,oL 71 70,oV 72 5,oI 73 4 71 72,oF 74 2 73,oF 75 1 74,oL 76 75,oF 77 0 1,oL 78 77,oV 79 5,oI 80 4 78 79,oF 81 2 80,
 oF 82 0 81,oL 83 82,oM 84 (.bin .sub (.t 76) (.t 83)),oM 85 (.bin .geq (.t 84) (oK 50))] (.cond (.t 85) (oR [oM 2 (.mv (.c (.bool true)))]
 .ret) .skip))) (.reg [oV 68 5,oM 69 (.bin .add (.t 68) (oK 1)),oV 5 69])))))) (oR [oF 86 0 1,oL 87 86,oN 88 87,oM 89 (.bin .gtr (.t 88) (oK
 6)),oV 90 89,oG 90 false (oF 91 1 1),oG 90 false (oL 92 91),oG 90 false (oN 93 92),oG 90 false (oM 94 (.bin .gtr (.t 93) (oK 4))),oM 95 (.pick (.t
 90) (.c (.bool true)) (.t 94)),oV 96 95,oG 96 false (oF 97 3 1),oG 96 false (oL 98 97),oG 96 false (oN 99 98),oG 96 false (oM 100 (.bin .gtr (.t 99)
 (oK 10))),oM 101 (.pick (.t 96) (.c (.bool true)) (.t 100)),oV 2 101] .ret))))))
theorem ok14:FnOk Try.prog 14 102 1 c14 [.t 2]:=⟨_,_,Try.func14,rfl,rfl,by kernel_rfl,by kernel_rfl⟩
theorem bd14:bodied Try.prog 14=true:=by kernel_rfl
def c16:CI:=(oR [oM 1 (.box 0 true (.t 0)),oM 2 (.alloc 1 [.nils, .nils,(.int .i64 0), .nils])] (oR [oW 7 4 1,oM 3 (.alloc 2 [.nils,
 .nils,(.int .i64 0), .nils]),oS (.stz true 4 (.t 3) (.t 7) [])] (oR [oF 9 0 1,oL 10 9,oF 13 3 1,oL 14 13,oM 8 (.bsl 3 76 4 [] []),oM 11
 (.apd 4 76 4 32 (.t 8) (.t 10) [(.t 13)]),oM 12 (.bsl 5 70 4 [] [(.t 8),(.t 10)]),oM 15 (.apd 6 70 4 32 (.t 12) (.t 14) []),oF 16 0 3,oS (.stz false
 1 (.t 16) (.t 11) []),oF 17 3 3,oS (.stz false 1 (.t 17) (.t 15) [])] (oR [oF 18 1 3,oS (.stz false 1 (.t 18) oZ [])] (.seq (oR [oM
 4 (.mv (oK 0))] (.block 0 (.loop (.seq (oR [oV 19 4,oF 20 1 1,oL 21 20,oN 22 21,oM 23 (.bin .lss (.t 19) (.t 22))] (.cond (.t 23) .skip (.exit
 0))) (.seq (.block 1 (oR [oM 26 (.bsl 7 106 4 [] []),oF 27 1 1,oL 28 27,oV 29 4,oI 30 1 28 29,oF 31 0 30,oL 32 31,oM 33 (.apd 8 106 4 48
 (.t 26) (.t 32) []),oM 34 (.build [.nils] [(0,1,(.t 33))]),oM 5 (.alloc 9 [.nils]),oS (.stz true 1 (.t 5) (.t 34) [])] (.seq (oR [oM 6 (.mv
 (oK 0))] (.block 2 (.loop (.seq (oR [oV 35 6,oF 36 0 5,oL 37 36,oN 38 37,oM 39 (.bin .lss (.t 35) (.t 38))] (.cond (.t 39) .skip (.exit 2)))
 (.seq (.block 3 (.reg [oF 42 0 5,oL 43 42,oV 44 6,oF 46 0 5,oL 47 46,oV 48 6,oI 49 4 47 48,oF 50 1 49,oL 51 50,oM 45 (.bsl 10 3 1 [] []),oM 52
 (.apd 11 3 1 8 (.t 45) (.t 51) [(.t 42)]),oI 53 4 43 44,oF 54 1 53,oS (.stz false 1 (.t 54) (.t 52) [])])) (.reg [oV 40 6,oM 41 (.bin .add (.t 40)
 (oK 1)),oV 6 41])))))) (.reg [oF 55 1 3,oL 56 55,oW 57 1 5,oM 58 (.bsl 12 66 1 [(.t 57)] []),oM 59 (.apd 13 66 1 24 (.t 56) (.t 58) []),oF 60 1 3,
 oS (.stz false 1 (.t 60) (.t 59) [])])))) (.reg [oV 24 4,oM 25 (.bin .add (.t 24) (oK 1)),oV 4 25])))))) (oR [oW 61 4 3,oS (.stz true 4 (.t
 2) (.t 61) [])] .ret))))))
theorem ok16:FnOk Try.prog 16 62 14 c16 [.cell 2 true 4]:=⟨_,_,Try.func16,rfl,rfl,by kernel_rfl,by kernel_rfl⟩
theorem bd16:bodied Try.prog 16=true:=by kernel_rfl
def c17:CI:=(oR [oM 1 (.box 0 true (.t 0)),oM 2 (.mv (oK 0))] (.seq (.block 0 (oR [oW 4 4 1,oM 5 (.call 66 [(.t 4)]),oM 6 (.un
 .not (.t 5)),oV 3 6] (.cond (.t 3) (oR [oM 2 (.mv (oK 70))] .ret) (oR [oF 8 3 1,oL 9 8,oM 10 (.call 67 [(.t 9)]),oV 7 10] (.cond
 (.t 7) (oR [oM 2 (.mv (oK 71))] .ret) .skip))))) (oR [oM 2 (.mv (oK 0))] .ret)))
theorem ok17:FnOk Try.prog 17 11 1 c17 [.t 2]:=⟨_,_,Try.func17,rfl,rfl,by kernel_rfl,by kernel_rfl⟩
theorem bd17:bodied Try.prog 17=true:=by kernel_rfl
def c18:CI:=(oR [oM 1 (.box 0 true (.t 0)),oM 2 (.mv (oK 0))] (.seq (oR [oW 7 4 1,oM 8 (.call 68 [(.t 7)]),oM 9 (.un .not (.t 8))]
 (.cond (.t 9) (oR [oM 2 (.mv (oK 70))] .ret) .skip)) (.seq (oR [oM 3 (.mv (oK 0))] (.block 0 (.loop (.seq (oR [oV 10 3,oF 11
 3 1,oL 12 11,oN 13 12,oM 14 (.bin .lss (.t 10) (.t 13))] (.cond (.t 14) .skip (.exit 0))) (.seq (.block 1 (oR [oM 4 (.mv (oK 0))] (.block
 2 (.loop (.seq (oR [oV 17 4,oV 18 3,oM 19 (.bin .lss (.t 17) (.t 18))] (.cond (.t 19) .skip (.exit 2))) (.seq (.block 3 (oR [oF 22 3
 1,oL 23 22,oV 24 4,oI 25 4 23 24,oW 26 4 25,oF 27 3 1,oL 28 27,oV 29 3,oI 30 4 28 29,oW 31 4 30,oM 5 (.alloc 1 [(.int .i64 0),(.int .i64 0),
 (.int .i64 0),(.int .i64 0)]),oM 6 (.alloc 2 [(.int .i64 0),(.int .i64 0),(.int .i64 0),(.int .i64 0)]),oS (.store true 4 (.t 5) (.t 26) [(.t 27),
 (.t 28),(.t 30)]),oS (.store true 4 (.t 6) (.t 31) [])] (oR [oF 32 0 5,oL 33 32,oF 34 0 6,oL 35 34,oM 36 (.bin .eql (.t 33) (.t 35)),oV
 37 36,oG 37 true (oF 38 1 5),oG 37 true (oL 39 38),oG 37 true (oF 40 1 6),oG 37 true (oL 41 40),oG 37 true (oM 42 (.bin .eql (.t 39) (.t 41))),oM
 43 (.pick (.t 37) (.t 42) (.c (.bool false))),oV 44 43,oG 44 true (oF 45 2 5),oG 44 true (oL 46 45),oG 44 true (oF 47 2 6),oG 44 true (oL 48 47),
 oG 44 true (oM 49 (.bin .eql (.t 46) (.t 48))),oM 50 (.pick (.t 44) (.t 49) (.c (.bool false))),oV 51 50,oG 51 true (oF 52 3 5),oG 51 true (oL 53 52),
 oG 51 true (oF 54 3 6),oG 51 true (oL 55 54),oG 51 true (oM 56 (.bin .neq (.t 53) (.t 55))),oM 57 (.pick (.t 51) (.t 56) (.c (.bool false)))] (.cond
 (.t 57) (oR [oM 2 (.mv (oK 71))] .ret) .skip)))) (.reg [oV 20 4,oM 21 (.bin .add (.t 20) (oK 1)),oV 4 21]))))))) (.reg [oV 15 3,oM 16 (.bin
 .add (.t 15) (oK 1)),oV 3 16])))))) (oR [oM 2 (.mv (oK 0))] .ret))))
theorem ok18:FnOk Try.prog 18 58 3 c18 [.t 2]:=⟨_,_,Try.func18,rfl,rfl,by kernel_rfl,by kernel_rfl⟩
theorem bd18:bodied Try.prog 18=true:=by kernel_rfl
def c19:CI:=(oR [oM 2 (.box 0 true (.t 0)),oM 4 (.alloc 1 [(.int .i64 0),(.int .i64 0)]),oM 5 (.mv (oK 0))] (oR [oW 10 4 2,oW
 11 4 2,oV 12 1,oM 6 (.alloc 6 [.nils, .nils,(.int .i64 0), .nils, .nils]),oM 13 (.call 70 [(.t 11),(.t 12)]),oM 14 (.callz 2 4 69 [(.t 10),(.t 13)]
 []),oV 9 14,oX 15 0 9,oX 16 1 9,oS (.stz true 5 (.t 6) (.t 15) []),oV 7 16] (.seq (oR [oV 17 7,oM 18 (.bin .neq (.t 17) (oK 0))] (.cond
 (.t 18) (oR [oM 19 (.build [(.int .i64 0),(.int .i64 0)] []),oV 20 7,oS (.store true 2 (.t 4) (.t 19) []),oV 5 20] .ret) .skip)) (oR [oF 21 4 6,oL 22 21,oV 23 1,oI 24 1 22 23,oL 25 24,oV 8 25] (oR [oV 26 8,oM 27 (.iaddr 2 (.t 26) (oK 0)),oF 28 0 27,oL 29 28,oV 30 8,
 oV 31 8,oN 32 31,oM 33 (.bin .sub (.t 32) (oK 1)),oI 34 2 30 33,oF 35 1 34,oL 36 35,oM 37 (.build [(.int .i64 0),(.int .i64 0)] [(0,1,(.t 29)),
 (1,1,(.t 36))]),oS (.store true 2 (.t 4) (.t 37) []),oM 5 (.mv (oK 0))] .ret)))))
theorem ok19:FnOk Try.prog 19 38 7 c19 [.cell 4 true 2, .t 5]:=⟨_,_,Try.func19,rfl,rfl,by kernel_rfl,by kernel_rfl⟩
theorem bd19:bodied Try.prog 19=true:=by kernel_rfl
def c44:CI:=(oR [oM 3 (.box 0 true (.t 0)),oM 6 (.mv (.c (.bool false)))] (.seq (oR [oM 7 (.mv (oK 0))] (.block 0 (.loop (.seq (oR [oV 9 7,oF 10 3 3,oL 11 10,oN 12 11,oM 13 (.bin .lss (.t 9) (.t 12))] (.cond (.t 13) .skip (.exit 0))) (.seq (.block 1 (oR [oF 16 3
 3,oL 17 16,oV 18 7,oI 19 4 17 18,oW 20 4 19,oM 8 (.alloc 1 [(.int .i64 0),(.int .i64 0),(.int .i64 0),(.int .i64 0)]),oS (.store true 4 (.t 8)
 (.t 20) [])] (oR [oF 21 0 8,oL 22 21,oV 23 1,oM 24 (.bin .eql (.t 22) (.t 23)),oV 25 24,oG 25 true (oW 26 4 3),oG 25 true (oV 27 1),oG
 25 true (oV 28 2),oG 25 true (oF 29 1 8),oG 25 true (oL 30 29),oG 25 true (oF 31 2 8),oG 25 true (oL 32 31),oG 25 true (oF 34 3 8),oG 25 true (oL
 35 34),oG 25 true (oM 36 (.bin .eql (.t 35) (oK 1))),oG 25 true (oM 33 (.call 46 [(.t 26),(.t 27),(.t 28),(.t 30),(.t 32)])),oG 25 true (oM 37 (.eqb
 true (.t 33) (.t 36))),oM 38 (.pick (.t 25) (.t 37) (.c (.bool false)))] (.cond (.t 38) (oR [oM 6 (.mv (.c (.bool false)))] .ret) .skip))))
 (.reg [oV 14 7,oM 15 (.bin .add (.t 14) (oK 1)),oV 7 15])))))) (oR [oV 39 2,oF 40 0 3,oL 41 40,oV 42 1,oI 43 4 41 42,oF 44 2 43,oF 45 0
 44,oL 46 45,oF 47 0 3,oL 48 47,oV 49 1,oI 50 4 48 49,oF 51 2 50,oF 52 1 51,oL 53 52,oM 54 (.call 90 [(.t 39),(.t 46),(.t 53)]),oV 6 54] .ret)))
theorem ok44:FnOk Try.prog 44 55 2 c44 [.t 6]:=⟨_,_,Try.func44,rfl,rfl,by kernel_rfl,by kernel_rfl⟩
theorem bd44:bodied Try.prog 44=true:=by kernel_rfl
def c46:CI:=(oR [oM 5 (.box 0 true (.t 0)),oM 10 (.mv (.c (.bool false)))] (oR [oF 13 0 5,oL 14 13,oV 15 1,oI 16 4 14 15,oW 17
 4 16,oF 18 1 5,oL 19 18,oV 20 3,oI 21 1 19 20,oF 22 0 21,oL 23 22,oV 24 4,oI 25 4 23 24,oW 26 4 25,oM 11 (.alloc 1 [(.int .i64 0),(.int .i64
 0),(.int .i64 0),(.int .i64 0)]),oM 12 (.alloc 2 [(.int .i64 0), .nils,(.int .i64 0),(.int .i64 0)]),oS (.store true 4 (.t 11) (.t 17) [(.t 18),
 (.t 19),(.t 22),(.t 23),(.t 25)]),oS (.stz true 4 (.t 12) (.t 26) [])] (oR [oF 27 0 11,oL 28 27,oF 29 0 12,oL 30 29,oM 31 (.bin .eql (.t
 28) (.t 30)),oV 32 31,oG 32 true (oF 33 1 12),oG 32 true (oL 34 33),oG 32 true (oF 35 1 11),oG 32 true (oL 36 35),oG 32 true (oM 37 (.call 51 [(.t
 34),(.t 36)])),oM 38 (.pick (.t 32) (.t 37) (.c (.bool false))),oV 39 38,oG 39 true (oV 40 2),oG 39 true (oF 41 2 12),oG 39 true (oF 42 0 41),oG
 39 true (oL 43 42),oG 39 true (oF 44 2 12),oG 39 true (oF 45 1 44),oG 39 true (oL 46 45),oG 39 true (oF 47 2 5),oG 39 true (oL 48 47),oG 39 true
 (oM 49 (.bin .add (.t 46) (.t 48))),oG 39 true (oM 50 (.call 90 [(.t 40),(.t 43),(.t 49)])),oM 51 (.pick (.t 39) (.t 50) (.c (.bool false))),oV 10
 51] .ret)))
theorem ok46:FnOk Try.prog 46 52 3 c46 [.t 10]:=⟨_,_,Try.func46,rfl,rfl,by kernel_rfl,by kernel_rfl⟩
theorem bd46:bodied Try.prog 46=true:=by kernel_rfl
def c47:CI:=(oR [oM 2 (.box 0 true (.t 0)),oM 4 (.mv (.c (.bool false)))] (oR [oV 5 1,oF 6 0 2,oL 7 6,oN 8 7,oM 9 (.bin .sub
 (.t 8) (oK 1)),oM 10 (.call 90 [(.t 5),(oK 0),(.t 9)]),oV 4 10] .ret))
theorem ok47:FnOk Try.prog 47 11 1 c47 [.t 4]:=⟨_,_,Try.func47,rfl,rfl,by kernel_rfl,by kernel_rfl⟩
theorem bd47:bodied Try.prog 47=true:=by kernel_rfl
def c50:CI:=(oR [oM 2 (.mv (.c (.bool false)))] (.seq (oR [oM 3 (.mv (oK 1))] (.block 0 (.loop (.seq (oR [oV 4 3,oV 5 0,
 oN 6 5,oM 7 (.bin .lss (.t 4) (.t 6))] (.cond (.t 7) .skip (.exit 0))) (.seq (.block 1 (oR [oV 10 0,oV 11 3,oI 12 1 10 11,oL 13 12,oV 14
 0,oV 15 3,oM 16 (.bin .sub (.t 15) (oK 1)),oI 17 1 14 16,oL 18 17,oM 19 (.bin .leq (.t 13) (.t 18))] (.cond (.t 19) (oR [oM 2 (.mv (.c (.bool
 false)))] .ret) .skip))) (.reg [oV 8 3,oM 9 (.bin .add (.t 8) (oK 1)),oV 3 9])))))) (oR [oM 2 (.mv (.c (.bool true)))] .ret)))
theorem ok50:FnOk Try.prog 50 20 0 c50 [.t 2]:=⟨_,_,Try.func50,rfl,rfl,by kernel_rfl,by kernel_rfl⟩
theorem bd50:bodied Try.prog 50=true:=by kernel_rfl
def c51:CI:=(oR [oM 4 (.mv (.c (.bool false)))] (.seq (oR [oM 5 (.mv (oK 0))] (.block 0 (.loop (.seq (oR [oV 6 5,oV 7 0,
 oN 8 7,oM 9 (.bin .lss (.t 6) (.t 8))] (.cond (.t 9) .skip (.exit 0))) (.seq (.block 1 (oR [oV 12 0,oV 13 5,oI 14 1 12 13,oL 15 14,oV 16
 1,oM 17 (.bin .eql (.t 15) (.t 16))] (.cond (.t 17) (oR [oM 4 (.mv (.c (.bool true)))] .ret) .skip))) (.reg [oV 10 5,oM 11 (.bin .add (.t 10)
 (oK 1)),oV 5 11])))))) (oR [oM 4 (.mv (.c (.bool false)))] .ret)))
theorem ok51:FnOk Try.prog 51 18 0 c51 [.t 4]:=⟨_,_,Try.func51,rfl,rfl,by kernel_rfl,by kernel_rfl⟩
theorem bd51:bodied Try.prog 51=true:=by kernel_rfl
def c53:CI:=(oR [oM 3 (.box 0 true (.t 0)),oM 6 (.mv (.c (.bool false)))] (oR [oW 7 4 3,oV 8 1,oM 9 (.call 80 [(.t 7),(.t 8)]),
 oV 10 9,oG 10 true (oV 11 2),oG 10 true (oF 12 1 3),oG 10 true (oL 13 12),oG 10 true (oV 14 1),oG 10 true (oI 15 1 13 14),oG 10 true (oF 16 0 15),
 oG 10 true (oL 17 16),oG 10 true (oN 18 17),oG 10 true (oM 19 (.bin .sub (.t 18) (oK 1))),oG 10 true (oM 20 (.call 90 [(.t 11),(oK 0),(.t 19)])),
 oM 21 (.pick (.t 10) (.t 20) (.c (.bool false))),oV 6 21] .ret))
theorem ok53:FnOk Try.prog 53 22 1 c53 [.t 6]:=⟨_,_,Try.func53,rfl,rfl,by kernel_rfl,by kernel_rfl⟩
theorem bd53:bodied Try.prog 53=true:=by kernel_rfl
def c54:CI:=(oR [oM 1 (.box 0 true (.t 0)),oM 2 (.mv (oK 0))] (oR [oW 3 4 1,oM 4 (.call 71 [(.t 3),(.c (.bool true))]),oV 2 4]
 .ret))
theorem ok54:FnOk Try.prog 54 5 1 c54 [.t 2]:=⟨_,_,Try.func54,rfl,rfl,by kernel_rfl,by kernel_rfl⟩
theorem bd54:bodied Try.prog 54=true:=by kernel_rfl
def c55:CI:=(oR [oM 1 (.box 0 true (.t 0)),oM 2 (.mv (.c (.bool false)))] (oR [oF 3 0 1,oL 4 3,oN 5 4,oM 6 (.bin .gtr (.t 5) (oK
 40)),oV 7 6,oG 7 false (oW 8 7 1),oG 7 false (oM 9 (.call 56 [(.t 8)])),oG 7 false (oM 10 (.bin .eql (.t 9) (oK 0))),oG 7 false (oV 11 10),oG 11
 true (oF 12 2 1),oG 11 true (oL 13 12),oG 11 true (oF 14 1 1),oG 11 true (oL 15 14),oG 11 true (oM 16 (.bin .sub (.t 13) (.t 15))),oG 11 true (oM
 17 (.bin .geq (.t 16) (oK 60))),oG 7 false (oM 18 (.pick (.t 11) (.t 17) (.c (.bool false)))),oM 19 (.pick (.t 7) (.c (.bool true)) (.t 18)),oV 2 19]
 .ret))
theorem ok55:FnOk Try.prog 55 20 1 c55 [.t 2]:=⟨_,_,Try.func55,rfl,rfl,by kernel_rfl,by kernel_rfl⟩
theorem bd55:bodied Try.prog 55=true:=by kernel_rfl
def c56:CI:=(oR [oM 1 (.box 0 true (.t 0)),oM 2 (.mv (oK 0))] (.seq (oR [oM 3 (.mv (oK 0))] (.block 0 (.loop (.seq (oR [oV
 5 3,oF 6 0 1,oL 7 6,oN 8 7,oM 9 (.bin .lss (.t 5) (.t 8))] (.cond (.t 9) .skip (.exit 0))) (.seq (.block 1 (oR [oF 12 0 1,oL 13 12,oV 14
 3,oI 15 7 13 14,oW 16 7 15,oM 4 (.alloc 1 [(.int .i64 0),(.int .i64 0),(.int .i64 0),(.int .i64 0),(.int .i64 0),(.int .i64 0),(.int .i64 0)]),
 oS (.store true 7 (.t 4) (.t 16) [])] (oR [oF 17 0 4,oW 18 2 17,oM 19 (.call 97 [(.t 18)]),oM 20 (.un .not (.t 19)),oV 21 20,oG 21 false
 (oF 22 2 4),oG 21 false (oW 23 2 22),oG 21 false (oM 24 (.call 97 [(.t 23)])),oG 21 false (oM 25 (.un .not (.t 24))),oM 26 (.pick (.t 21) (.c (.bool
 true)) (.t 25)),oV 27 26,oG 27 false (oF 28 4 4),oG 27 false (oL 29 28),oG 27 false (oM 30 (.call 98 [(.t 29),(oK 0),(oK 2000)])),oG 27 false (oM
 31 (.un .not (.t 30))),oM 32 (.pick (.t 27) (.c (.bool true)) (.t 31)),oV 33 32,oG 33 false (oF 34 5 4),oG 33 false (oW 35 2 34),oG 33 false (oM 36
 (.call 99 [(.t 35)])),oG 33 false (oM 37 (.un .not (.t 36))),oM 38 (.pick (.t 33) (.c (.bool true)) (.t 37))] (.cond (.t 38) (oR [oM 2 (.mv
 (oK 10))] .ret) .skip)))) (.reg [oV 10 3,oM 11 (.bin .add (.t 10) (oK 1)),oV 3 11])))))) (.seq (oR [oF 39 0 1,oL 40 39,oN 41 40,oM 42 (.call
 98 [(.t 41),(oK 1),(oK 3)]),oM 43 (.un .not (.t 42)),oV 44 43,oG 44 false (oF 45 1 1),oG 44 false (oL 46 45),oG 44 false (oF 47 2 1),oG 44 false
 (oL 48 47),oG 44 false (oM 49 (.call 98 [(.t 46),(oK 1),(.t 48)])),oG 44 false (oM 50 (.un .not (.t 49))),oM 51 (.pick (.t 44) (.c (.bool true)) (.t
 50)),oV 52 51,oG 52 false (oF 53 2 1),oG 52 false (oL 54 53),oG 52 false (oM 55 (.bin .gtr (.t 54) (oK 2000))),oM 56 (.pick (.t 52) (.c (.bool true))
 (.t 55)),oV 57 56,oG 57 false (oF 58 2 1),oG 57 false (oL 59 58),oG 57 false (oF 60 1 1),oG 57 false (oL 61 60),oG 57 false (oM 62 (.bin .sub (.t
 59) (.t 61))),oG 57 false (oM 63 (.bin .gtr (.t 62) (oK 200))),oM 64 (.pick (.t 57) (.c (.bool true)) (.t 63)),oV 65 64,oG 65 false (oF 66 3 1),oG
 65 false (oW 67 2 66),oG 65 false (oM 68 (.call 99 [(.t 67)])),oG 65 false (oM 69 (.un .not (.t 68))),oM 70 (.pick (.t 65) (.c (.bool true)) (.t 69)),
 oV 71 70,oG 71 false (oF 72 5 1),oG 71 false (oL 73 72),oG 71 false (oM 74 (.call 98 [(.t 73),(oK 0),(oK 4000)])),oG 71 false (oM 75 (.un .not (.t
 74))),oM 76 (.pick (.t 71) (.c (.bool true)) (.t 75)),oV 77 76,oG 77 false (oF 78 6 1),oG 77 false (oL 79 78),oG 77 false (oM 80 (.call 98 [(.t 79),
 (oK 0),(oK 4000)])),oG 77 false (oM 81 (.un .not (.t 80))),oM 82 (.pick (.t 77) (.c (.bool true)) (.t 81))] (.cond (.t 82) (oR [oM 2 (.mv (oK
 10))] .ret) .skip)) (oR [oM 2 (.mv (oK 0))] .ret))))
theorem ok56:FnOk Try.prog 56 83 2 c56 [.t 2]:=⟨_,_,Try.func56,rfl,rfl,by kernel_rfl,by kernel_rfl⟩
theorem bd56:bodied Try.prog 56=true:=by kernel_rfl
def c57:CI:=(oR [oM 2 (.box 0 true (.t 0)),oM 4 (.mv (.c (.bool false)))] (oR [oV 5 1,oF 6 0 2,oL 7 6,oN 8 7,oM 9 (.bin .sub
 (.t 8) (oK 1)),oM 10 (.call 98 [(.t 5),(oK 0),(.t 9)]),oV 4 10] .ret))
theorem ok57:FnOk Try.prog 57 11 1 c57 [.t 4]:=⟨_,_,Try.func57,rfl,rfl,by kernel_rfl,by kernel_rfl⟩
theorem bd57:bodied Try.prog 57=true:=by kernel_rfl
def c58:CI:=(oR [oM 0 (.mv (.c (.bool false)))] (oR [oM 6 (.callw 0 1 100 []),oM 7 (.call 62 [(.t 6)]),oV 5 7,oX 8 0 5,oX 9 1
 5,oV 1 8,oV 2 9] (oR [oM 11 (.callw 1 3 64 []),oM 12 (.call 19 [(.t 11),(oK 0)]),oV 10 12,oX 13 0 10,oX 14 1 10,oM 3 (.alloc 4 [(.int
 .i64 0),(.int .i64 0)]),oS (.store true 2 (.t 3) (.t 13) []),oV 4 14] (oR [oV 15 2,oM 16 (.bin .eql (.t 15) (oK 0)),oV 17 16,oG 17 true
 (oV 18 4),oG 17 true (oM 19 (.bin .eql (.t 18) (oK 0))),oM 20 (.pick (.t 17) (.t 19) (.c (.bool false))),oV 21 20,oG 21 true (oV 22 1),oG 21 true
 (oM 23 (.bin .eql (.t 22) (oK 1))),oM 24 (.pick (.t 21) (.t 23) (.c (.bool false))),oV 25 24,oG 25 true (oW 26 2 3),oG 25 true (oM 27 (.build [(.int
 .i64 0),(.int .i64 0)] [(0,1,(oK 300)),(1,1,(oK 309))])),oG 25 true (oM 28 (.eqs false (.node [(0,1,(.leaf true)),(1,1,(.leaf true))]) (.t
 26) (.t 27))),oM 29 (.pick (.t 25) (.t 28) (.c (.bool false))),oV 0 29] .ret))))
theorem ok58:FnOk Try.prog 58 30 5 c58 [.t 0]:=⟨_,_,Try.func58,rfl,rfl,by kernel_rfl,by kernel_rfl⟩
theorem bd58:bodied Try.prog 58=true:=by kernel_rfl
def c59:CI:=(oR [oM 1 (.box 0 true (.t 0)),oM 2 (.alloc 1 [.nils,(.int .i64 0),(.int .i64 0),(.int .i64 0),(.int .i64 0),(.int .i64 0),
 (.int .i64 0)])] (oR [oM 3 (.bsl 2 98 7 [] []),oF 4 0 1,oL 5 4,oM 6 (.apd 3 98 7 56 (.t 3) (.t 5) []),oF 7 0 1,oS (.stz false 1 (.t 7) (.t
 6) [])] (oR [oW 8 7 1,oS (.stz true 7 (.t 2) (.t 8) [])] .ret)))
theorem ok59:FnOk Try.prog 59 9 4 c59 [.cell 2 true 7]:=⟨_,_,Try.func59,rfl,rfl,by kernel_rfl,by kernel_rfl⟩
theorem bd59:bodied Try.prog 59=true:=by kernel_rfl
def c60:CI:=(oR [oM 3 (.box 0 true (.t 0)),oM 6 (.alloc 1 [(.int .i64 0),(.int .i64 0)]),oM 7 (.alloc 2 [(.int .i64 0),(.int .i64 0)]),
 oM 8 (.mv (oK 0))] (.seq (oR [oW 11 7 3,oV 12 1,oV 13 2,oM 14 (.call 101 [(.t 11),(.t 12),(.t 13)]),oV 9 14] (oR [oV 15 9,oM 16
 (.bin .neq (.t 15) (oK 0))] (.cond (.t 16) (oR [oM 17 (.build [(.int .i64 0),(.int .i64 0)] []),oM 18 (.build [(.int .i64 0),(.int .i64 0)]
 []),oV 19 9,oS (.store true 2 (.t 6) (.t 17) []),oS (.store true 2 (.t 7) (.t 18) []),oV 8 19] .ret) .skip))) (oR [oW 20 7 3,oV 21 1,oV
 22 2,oM 23 (.call 102 [(.t 20),(.t 21),(.t 22)]),oV 10 23] (.seq (oR [oV 24 10,oM 25 (.bin .eql (.t 24) (oK 0))] (.cond (.t 25) (oR [oM 26 (.build [(.int .i64 0),(.int .i64 0)] []),oM 27 (.build [(.int .i64 0),(.int .i64 0)] []),oS (.store true 2 (.t 6) (.t 26) []),oS (.store true
 2 (.t 7) (.t 27) []),oM 8 (.mv (oK 3))] .ret) .skip)) (oR [oF 29 0 3,oL 30 29,oV 31 1,oI 32 7 30 31,oW 33 7 32,oV 34 10,oM 35 (.call 103
 [(.t 33),(.t 34)]),oV 28 35,oX 36 0 28,oX 37 1 28,oS (.store true 2 (.t 6) (.t 36) []),oS (.store true 2 (.t 7) (.t 37) [])] (oR [oW 38
 2 6,oW 40 2 7,oM 39 (.call 104 [(.t 38)]),oM 41 (.call 104 [(.t 40)]),oS (.store true 2 (.t 6) (.t 39) []),oS (.store true 2 (.t 7) (.t 41) []),oM
 8 (.mv (oK 0))] .ret))))))
theorem ok60:FnOk Try.prog 60 42 3 c60 [.cell 6 true 2, .cell 7 true 2, .t 8]:=⟨_,_,Try.func60,rfl,rfl,by kernel_rfl,by kernel_rfl⟩
theorem bd60:bodied Try.prog 60=true:=by kernel_rfl
def c61:CI:=(oR [oM 2 (.box 0 true (.t 0)),oM 3 (.box 1 true (.t 1)),oM 4 (.mv (.c (.bool false)))] (oR [oF 5 0 2,oL 6 5,oF 7
 1 3,oL 8 7,oM 9 (.bin .mul (.t 6) (.t 8)),oF 10 0 3,oL 11 10,oF 12 1 2,oL 13 12,oM 14 (.bin .mul (.t 11) (.t 13)),oM 15 (.bin .lss (.t 9) (.t 14)),
 oV 4 15] .ret))
theorem ok61:FnOk Try.prog 61 16 2 c61 [.t 4]:=⟨_,_,Try.func61,rfl,rfl,by kernel_rfl,by kernel_rfl⟩
theorem bd61:bodied Try.prog 61=true:=by kernel_rfl
def c62:CI:=(oR [oM 1 (.box 0 true (.t 0)),oM 2 (.mv (oK 0)),oM 3 (.mv (oK 0))] (.seq (oR [oW 9 7 1,oM 10 (.call 105 [(.t 9)]),
 oV 4 10] (oR [oV 11 4,oM 12 (.bin .neq (.t 11) (oK 0))] (.cond (.t 12) (oR [oV 13 4,oM 2 (.mv (oK 0)),oV 3 13] .ret) .skip))) (oR [oM 5 (.mv (.c (.bool true))),oM 6 (.mv (.c (.bool true)))] (.seq (oR [oF 14 0 1,oL 15 14,oN 16 15,oM 17 (.mv (oK 0))] (.block 0 (.loop
 (oR [oM 18 (.bin .lss (.t 17) (.t 16))] (.seq (.cond (.t 18) .skip (.exit 0)) (.seq (.block 1 (oR [oV 19 17,oI 20 7 15 17,oW 21 7 20,
 oM 8 (.alloc 1 [(.int .i64 0),(.int .i64 0),(.int .i64 0),(.int .i64 0),(.int .i64 0),(.int .i64 0),(.int .i64 0)]),oV 7 19,oS (.store true 7 (.t
 8) (.t 21) [])] (oR [oW 22 7 8,oW 23 7 1,oV 24 7,oM 25 (.callz 2 0 107 [(.t 23),(.t 24)] []),oM 26 (.call 106 [(.t 22),(.t 25)])] (.block
 2 (oR [oM 28 (.bin .eql (.t 26) (oK 1)),oV 27 28] (.cond (.t 27) (.reg [oM 5 (.mv (.c (.bool false))),oM 6 (.mv (.c (.bool false)))]) (oR [oM 30 (.bin .eql (.t 26) (oK 3)),oV 29 30] (.cond (.t 29) (.reg [oM 5 (.mv (.c (.bool false)))]) .skip)))))))) (.reg [oM 31 (.bin .add (.t 17)
 (oK 1)),oV 17 31]))))))) (oR [oV 32 5,oV 33 6,oM 34 (.call 108 [(.t 32),(.t 33)]),oV 2 34,oM 3 (.mv (oK 0))] .ret)))))
theorem ok62:FnOk Try.prog 62 35 2 c62 [.t 2, .t 3]:=⟨_,_,Try.func62,rfl,rfl,by kernel_rfl,by kernel_rfl⟩
theorem bd62:bodied Try.prog 62=true:=by kernel_rfl
def c63:CI:=(oR [oM 3 (.box 0 true (.t 0)),oM 6 (.mv (oK 0)),oM 7 (.mv (oK 0))] (.seq (oR [oW 9 7 3,oV 10 1,oV 11 2,oM 12 (.call
 101 [(.t 9),(.t 10),(.t 11)]),oV 8 12] (oR [oV 13 8,oM 14 (.bin .neq (.t 13) (oK 0))] (.cond (.t 14) (oR [oV 15 8,oM 6 (.mv (oK
 0)),oV 7 15] .ret) .skip))) (oR [oF 16 0 3,oL 17 16,oV 18 1,oI 19 7 17 18,oW 20 7 19,oW 21 7 3,oV 22 1,oV 23 2,oM 24 (.callz 1 0 109
 [(.t 21),(.t 22),(.t 23)] []),oM 25 (.call 106 [(.t 20),(.t 24)]),oV 6 25,oM 7 (.mv (oK 0))] .ret)))
theorem ok63:FnOk Try.prog 63 26 1 c63 [.t 6, .t 7]:=⟨_,_,Try.func63,rfl,rfl,by kernel_rfl,by kernel_rfl⟩
theorem bd63:bodied Try.prog 63=true:=by kernel_rfl
def c64:CI:=(oR [oM 0 (.alloc 0 [.nils, .nils,(.int .i64 0), .nils])] (oR [oM 1 (.build [(.int .i64 0),(.int .i64 0)] [(0,1,(oK
 300)),(1,1,(oK 310))]),oM 2 (.build [(.int .i64 0),(.int .i64 0),(.int .i64 0),(.int .i64 0)] [(0,1,(oK 1)),(1,1,(oK 2)),(2,2,(.t 1))]),
 oM 3 (.build [(.int .i64 0),(.int .i64 0)] [(0,1,(oK 305)),(1,1,(oK 305))]),oM 4 (.build [(.int .i64 0),(.int .i64 0),(.int .i64 0),(.int .i64
 0)] [(0,1,(oK 1)),(1,1,(oK 3)),(2,2,(.t 3))]),oM 5 (.build [(.int .i64 0),(.int .i64 0)] [(0,1,(oK 50)),(1,1,(oK 60))]),oM 6 (.build [(.int
 .i64 0),(.int .i64 0),(.int .i64 0),(.int .i64 0)] [(0,1,(oK 2)),(1,1,(oK 1)),(2,2,(.t 5))]),oM 7 (.build [(.int .i64 0),(.int .i64 0)] [(0,
 1,(oK 320)),(1,1,(oK 330))]),oM 8 (.build [(.int .i64 0),(.int .i64 0),(.int .i64 0),(.int .i64 0)] [(0,1,(oK 1)),(1,1,(oK 2)),(2,2,(.t
 7))]),oM 9 (.bsl 1 76 4 [(.t 2),(.t 4),(.t 6),(.t 8)] []),oM 10 (.bsl 2 3 1 [(oK 2),(oK 3)] []),oM 11 (.build [(.int .i64 0),(.int .i64 0)] [(0,
 1,(oK 300)),(1,1,(oK 306))]),oM 12 (.build [(.int .i64 0), .nils,(.int .i64 0),(.int .i64 0)] [(0,1,(oK 1)),(1,1,(.t 10)),(2,2,(.t 11))]),
 oM 13 (.bsl 3 3 1 [(oK 1)] []),oM 14 (.build [(.int .i64 0),(.int .i64 0)] [(0,1,(oK 40)),(1,1,(oK 58))]),oM 15 (.build [(.int .i64 0), .nils,
 (.int .i64 0),(.int .i64 0)] [(0,1,(oK 2)),(1,1,(.t 13)),(2,2,(.t 14))]),oM 16 (.bsl 4 106 4 [(.t 12),(.t 15)] []),oM 17 (.build [.nils] [(0,
 1,(.t 16))]),oM 18 (.bsl 5 3 1 [(oK 2)] []),oM 19 (.build [(.int .i64 0),(.int .i64 0)] [(0,1,(oK 310)),(1,1,(oK 326))]),oM 20 (.build [(.int
 .i64 0), .nils,(.int .i64 0),(.int .i64 0)] [(0,1,(oK 1)),(1,1,(.t 18)),(2,2,(.t 19))]),oM 21 (.bsl 6 106 4 [(.t 20)] []),oM 22 (.build [.nils]
 [(0,1,(.t 21))]),oM 23 (.bsl 7 66 1 [(.t 17),(.t 22)] []),oM 24 (.build [(.int .i64 0),(.int .i64 0),(.int .i64 0),(.int .i64 0)] [(1,1,(oK 1))]),
 oM 25 (.bsl 8 70 4 [(.t 24)] []),oM 26 (.build [.nils, .nils,(.int .i64 0), .nils] [(0,1,(.t 9)),(1,1,(.t 23)),(2,1,(oK 5)),(3,1,(.t 25))]),
 oS (.stz true 4 (.t 0) (.t 26) [])] .ret))
theorem ok64:FnOk Try.prog 64 27 9 c64 [.cell 0 true 4]:=⟨_,_,Try.func64,rfl,rfl,by kernel_rfl,by kernel_rfl⟩
theorem bd64:bodied Try.prog 64=true:=by kernel_rfl
def c66:CI:=(oR [oM 1 (.box 0 true (.t 0)),oM 2 (.mv (.c (.bool false)))] (oR [oF 3 0 1,oL 4 3,oN 5 4,oM 6 (.bin .leq (.t 5) (oK
 10)),oV 7 6,oG 7 true (oF 8 0 1),oG 7 true (oL 9 8),oG 7 true (oM 10 (.call 110 [(.t 9),(.c (.fn 111 []))])),oM 11 (.pick (.t 7) (.t 10) (.c (.bool
 false))),oV 12 11,oG 12 true (oF 13 1 1),oG 12 true (oL 14 13),oG 12 true (oN 15 14),oG 12 true (oM 16 (.bin .leq (.t 15) (oK 6))),oM 17 (.pick (.t
 12) (.t 16) (.c (.bool false))),oV 18 17,oG 18 true (oF 19 1 1),oG 18 true (oL 20 19),oG 18 true (oM 21 (.call 112 [(.t 20),(.c (.fn 113 []))])),
 oM 22 (.pick (.t 18) (.t 21) (.c (.bool false))),oV 23 22,oG 23 true (oF 24 2 1),oG 23 true (oL 25 24),oG 23 true (oM 26 (.call 114 [(.t 25),(oK 0),
 (oK 99)])),oM 27 (.pick (.t 23) (.t 26) (.c (.bool false))),oV 28 27,oG 28 true (oF 29 3 1),oG 28 true (oL 30 29),oG 28 true (oN 31 30),oG 28 true
 (oM 32 (.bin .leq (.t 31) (oK 30))),oM 33 (.pick (.t 28) (.t 32) (.c (.bool false))),oV 34 33,oG 34 true (oF 35 3 1),oG 34 true (oL 36 35),oG 34 true
 (oM 37 (.mkfn 116 [(.t 1)])),oG 34 true (oM 38 (.call 115 [(.t 36),(.t 37)])),oM 39 (.pick (.t 34) (.t 38) (.c (.bool false))),oV 2 39] .ret))
theorem ok66:FnOk Try.prog 66 40 1 c66 [.t 2]:=⟨_,_,Try.func66,rfl,rfl,by kernel_rfl,by kernel_rfl⟩
theorem bd66:bodied Try.prog 66=true:=by kernel_rfl
def c67:CI:=(oR [oM 1 (.box 0 false (.t 0)),oM 2 (.mv (.c (.bool false)))] (oR [oL 3 1,oM 4 (.mkfn 118 [(.t 1)]),oM 5 (.call 117
 [(.t 3),(.t 4)]),oV 2 5] .ret))
theorem ok67:FnOk Try.prog 67 6 1 c67 [.t 2]:=⟨_,_,Try.func67,rfl,rfl,by kernel_rfl,by kernel_rfl⟩
theorem bd67:bodied Try.prog 67=true:=by kernel_rfl
def c68:CI:=(oR [oM 1 (.box 0 true (.t 0)),oM 2 (.mv (.c (.bool false)))] (.seq (oR [oF 9 0 1,oL 10 9,oN 11 10,oM 12 (.bin .gtr
 (.t 11) (oK 10)),oV 13 12,oG 13 false (oF 14 1 1),oG 13 false (oL 15 14),oG 13 false (oN 16 15),oG 13 false (oM 17 (.bin .gtr (.t 16) (oK 6))),oM
 18 (.pick (.t 13) (.c (.bool true)) (.t 17)),oV 19 18,oG 19 false (oF 20 2 1),oG 19 false (oL 21 20),oG 19 false (oM 22 (.call 90 [(.t 21),(oK 0),
 (oK 99)])),oG 19 false (oM 23 (.un .not (.t 22))),oM 24 (.pick (.t 19) (.c (.bool true)) (.t 23)),oV 25 24,oG 25 false (oF 26 3 1),oG 25 false (oL
 27 26),oG 25 false (oN 28 27),oG 25 false (oM 29 (.bin .gtr (.t 28) (oK 30))),oM 30 (.pick (.t 25) (.c (.bool true)) (.t 29))] (.cond (.t 30) (oR [oM 2 (.mv (.c (.bool false)))] .ret) .skip)) (.seq (oR [oM 3 (.mv (oK 0))] (.block 0 (.loop (.seq (oR [oV 31 3,oF 32 0 1,oL
 33 32,oN 34 33,oM 35 (.bin .lss (.t 31) (.t 34))] (.cond (.t 35) .skip (.exit 0))) (.seq (.block 1 (oR [oF 38 0 1,oL 39 38,oV 40 3,oI 41
 4 39 40,oW 42 4 41,oM 4 (.alloc 1 [(.int .i64 0),(.int .i64 0),(.int .i64 0),(.int .i64 0)]),oS (.store true 4 (.t 4) (.t 42) [])] (oR [oF
 43 0 4,oL 44 43,oM 45 (.call 90 [(.t 44),(oK 0),(oK 9)]),oM 46 (.un .not (.t 45)),oV 47 46,oG 47 false (oF 48 1 4),oG 47 false (oL 49 48),oG 47
 false (oM 50 (.call 90 [(.t 49),(oK 0),(oK 9)])),oG 47 false (oM 51 (.un .not (.t 50))),oM 52 (.pick (.t 47) (.c (.bool true)) (.t 51)),oV 53 52,
 oG 53 false (oF 54 2 4),oG 53 false (oW 55 2 54),oG 53 false (oM 56 (.call 120 [(.t 55)])),oG 53 false (oM 57 (.un .not (.t 56))),oM 58 (.pick (.t
 53) (.c (.bool true)) (.t 57))] (.cond (.t 58) (oR [oM 2 (.mv (.c (.bool false)))] .ret) .skip)))) (.reg [oV 36 3,oM 37 (.bin .add (.t 36) (oK
 1)),oV 3 37])))))) (.seq (oR [oM 5 (.mv (oK 0))] (.block 2 (.loop (.seq (oR [oV 59 5,oF 60 1 1,oL 61 60,oN 62 61,oM 63 (.bin .lss
 (.t 59) (.t 62))] (.cond (.t 63) .skip (.exit 2))) (.seq (.block 3 (.seq (oR [oF 66 1 1,oL 67 66,oV 68 5,oI 69 1 67 68,oF 70 0 69,oL 71 70,
 oN 72 71,oM 73 (.bin .gtr (.t 72) (oK 4))] (.cond (.t 73) (oR [oM 2 (.mv (.c (.bool false)))] .ret) .skip)) (oR [oM 6 (.mv (oK 0))]
 (.block 4 (.loop (.seq (oR [oV 74 6,oF 75 1 1,oL 76 75,oV 77 5,oI 78 1 76 77,oF 79 0 78,oL 80 79,oN 81 80,oM 82 (.bin .lss (.t 74) (.t
 81))] (.cond (.t 82) .skip (.exit 4))) (.seq (.block 5 (oR [oF 85 1 1,oL 86 85,oV 87 5,oI 88 1 86 87,oF 89 0 88,oL 90 89,oV 91 6,oI 92
 4 90 91,oW 93 4 92,oM 94 (.call 121 [(.t 93)]),oM 95 (.un .not (.t 94))] (.cond (.t 95) (oR [oM 2 (.mv (.c (.bool false)))] .ret) .skip)))
 (.reg [oV 83 6,oM 84 (.bin .add (.t 83) (oK 1)),oV 6 84])))))))) (.reg [oV 64 5,oM 65 (.bin .add (.t 64) (oK 1)),oV 5 65])))))) (.seq (oR [oM
 7 (.mv (oK 0))] (.block 6 (.loop (.seq (oR [oV 96 7,oF 97 3 1,oL 98 97,oN 99 98,oM 100 (.bin .lss (.t 96) (.t 99))] (.cond (.t 100) .skip
 (.exit 6))) (.seq (.block 7 (oR [oF 103 3 1,oL 104 103,oV 105 7,oI 106 4 104 105,oW 107 4 106,oM 8 (.alloc 2 [(.int .i64 0),(.int .i64 0),
 (.int .i64 0),(.int .i64 0)]),oS (.store true 4 (.t 8) (.t 107) [])] (oR [oW 108 4 1,oF 109 0 8,oL 110 109,oM 111 (.call 47 [(.t 108),(.t
 110)]),oM 112 (.un .not (.t 111)),oV 113 112,oG 113 false (oW 114 4 1),oG 113 false (oF 115 1 8),oG 113 false (oL 116 115),oG 113 false (oF 117 2
 8),oG 113 false (oL 118 117),oG 113 false (oM 119 (.call 53 [(.t 114),(.t 116),(.t 118)])),oG 113 false (oM 120 (.un .not (.t 119))),oM 121 (.pick
 (.t 113) (.c (.bool true)) (.t 120)),oV 122 121,oG 122 false (oF 123 3 8),oG 122 false (oL 124 123),oG 122 false (oM 125 (.call 90 [(.t 124),(oK 0),
 (oK 1)])),oG 122 false (oM 126 (.un .not (.t 125))),oM 127 (.pick (.t 122) (.c (.bool true)) (.t 126))] (.cond (.t 127) (oR [oM 2 (.mv (.c (.bool
 false)))] .ret) .skip)))) (.reg [oV 101 7,oM 102 (.bin .add (.t 101) (oK 1)),oV 7 102])))))) (oR [oM 2 (.mv (.c (.bool true)))] .ret))))))
theorem ok68:FnOk Try.prog 68 128 3 c68 [.t 2]:=⟨_,_,Try.func68,rfl,rfl,by kernel_rfl,by kernel_rfl⟩
theorem bd68:bodied Try.prog 68=true:=by kernel_rfl
def c69:CI:=(oR [oM 2 (.box 0 true (.t 0)),oM 4 (.alloc 1 [.nils, .nils,(.int .i64 0), .nils, .nils]),oM 5 (.mv (oK 0))] (.seq (oR [oW 10 4 2,oM 11 (.call 17 [(.t 10)]),oV 6 11] (oR [oV 12 6,oM 13 (.bin .neq (.t 12) (oK 0))] (.cond (.t 13) (oR [oM 14 (.build [.nils,
 .nils,(.int .i64 0), .nils, .nils] []),oV 15 6,oS (.stz true 5 (.t 4) (.t 14) []),oV 5 15] .ret) .skip))) (.seq (oR [oV 16 1,oM 17 (.un .not
 (.t 16))] (.cond (.t 17) (oR [oM 18 (.build [.nils, .nils,(.int .i64 0), .nils, .nils] []),oS (.stz true 5 (.t 4) (.t 18) []),oM 5 (.mv (oK
 1))] .ret) .skip)) (oR [oW 19 4 2,oM 20 (.build [.nils, .nils,(.int .i64 0), .nils, .nils] [(0,4,(.t 19))]),oM 7 (.alloc 2 [.nils, .nils,
 (.int .i64 0), .nils, .nils]),oS (.stz true 5 (.t 7) (.t 20) [])] (.seq (oR [oF 21 0 2,oL 22 21,oN 23 22,oM 24 (.mv (oK 0))] (.block 0 (.loop
 (oR [oM 25 (.bin .lss (.t 24) (.t 23))] (.seq (.cond (.t 25) .skip (.exit 0)) (.seq (.block 1 (oR [oV 26 24,oV 8 26] (oR [oW
 27 5 7,oV 28 8,oM 29 (.callw 3 1 122 [(.t 27),(.t 28)]),oV 9 29] (.seq (oR [oV 30 9,oN 31 30,oM 32 (.bin .eql (.t 31) (oK 0))] (.cond (.t
 32) (oR [oM 33 (.build [.nils, .nils,(.int .i64 0), .nils, .nils] []),oS (.stz true 5 (.t 4) (.t 33) []),oM 5 (.mv (oK 3))] .ret) .skip)) (.reg
 [oF 34 4 7,oL 35 34,oV 36 9,oM 37 (.bsl 4 115 1 [(.t 36)] []),oM 38 (.apd 5 115 1 24 (.t 35) (.t 37) []),oF 39 4 7,oS (.stz false 1 (.t 39) (.t 38)
 [])]))))) (.reg [oM 40 (.bin .add (.t 24) (oK 1)),oV 24 40]))))))) (oR [oW 41 5 7,oS (.stz true 5 (.t 4) (.t 41) []),oM 5 (.mv (oK 0))] .ret))))))
theorem ok69:FnOk Try.prog 69 42 6 c69 [.cell 4 true 5, .t 5]:=⟨_,_,Try.func69,rfl,rfl,by kernel_rfl,by kernel_rfl⟩
theorem bd69:bodied Try.prog 69=true:=by kernel_rfl
def c70:CI:=(oR [oM 2 (.box 0 true (.t 0)),oM 4 (.mv (.c (.bool false)))] (oR [oV 5 1,oF 6 0 2,oL 7 6,oN 8 7,oM 9 (.bin .sub
 (.t 8) (oK 1)),oM 10 (.call 114 [(.t 5),(oK 0),(.t 9)]),oV 4 10] .ret))
theorem ok70:FnOk Try.prog 70 11 1 c70 [.t 4]:=⟨_,_,Try.func70,rfl,rfl,by kernel_rfl,by kernel_rfl⟩
theorem bd70:bodied Try.prog 70=true:=by kernel_rfl
def c71:CI:=(oR [oM 2 (.box 0 true (.t 0)),oM 4 (.mv (oK 0))] (.seq (oR [oW 7 4 2,oM 8 (.call 18 [(.t 7)]),oV 5 8] (oR [oV 9 5,oM 10 (.bin .neq (.t 9) (oK 0))] (.cond (.t 10) (oR [oV 11 5,oV 4 11] .ret) .skip))) (.seq (oR [oV 12 1,oM 13 (.un .not (.t
 12))] (.cond (.t 13) (oR [oM 4 (.mv (oK 1))] .ret) .skip)) (.seq (oR [oM 6 (.mv (oK 0))] (.block 0 (.loop (.seq (oR [oV 14 6,
 oF 15 0 2,oL 16 15,oN 17 16,oM 18 (.bin .lss (.t 14) (.t 17))] (.cond (.t 18) .skip (.exit 0))) (.seq (.block 1 (oR [oW 21 4 2,oV 22 6,oM
 23 (.callw 1 1 72 [(.t 21),(.t 22)]),oN 24 23,oM 25 (.bin .eql (.t 24) (oK 0))] (.cond (.t 25) (oR [oM 4 (.mv (oK 3))] .ret) .skip))) (.reg
 [oV 19 6,oM 20 (.bin .add (.t 19) (oK 1)),oV 6 20])))))) (oR [oM 4 (.mv (oK 0))] .ret)))))
theorem ok71:FnOk Try.prog 71 26 2 c71 [.t 4]:=⟨_,_,Try.func71,rfl,rfl,by kernel_rfl,by kernel_rfl⟩
theorem bd71:bodied Try.prog 71=true:=by kernel_rfl
def c72:CI:=(oR [oM 2 (.box 0 true (.t 0)),oM 4 (.mv oZ)] (oR [oM 5 (.mv oZ)] (.seq (oR [oF 7 0 2,oL 8 7,oV 9 1,oI 10
 4 8 9,oF 11 2 10,oF 12 0 11,oL 13 12,oV 6 13] (.block 0 (.loop (.seq (oR [oV 14 6,oF 15 0 2,oL 16 15,oV 17 1,oI 18 4 16 17,oF 19 2 18,
 oF 20 1 19,oL 21 20,oM 22 (.bin .leq (.t 14) (.t 21))] (.cond (.t 22) .skip (.exit 0))) (.seq (.block 1 (oR [oW 25 4 2,oV 26 1,oV 27 6,oM
 28 (.call 44 [(.t 25),(.t 26),(.t 27)])] (.cond (.t 28) (.reg [oV 29 5,oV 30 6,oM 31 (.bsl 1 3 1 [(.t 30)] []),oM 32 (.apd 2 3 1 8 (.t 29) (.t 31)
 []),oV 5 32]) .skip))) (.reg [oV 23 6,oM 24 (.bin .add (.t 23) (oK 1)),oV 6 24])))))) (oR [oV 33 5,oV 4 33] .ret))))
theorem ok72:FnOk Try.prog 72 34 3 c72 [.t 4]:=⟨_,_,Try.func72,rfl,rfl,by kernel_rfl,by kernel_rfl⟩
theorem bd72:bodied Try.prog 72=true:=by kernel_rfl
def c73:CI:=(oR [oM 3 (.box 0 true (.t 0)),oM 6 (.mv (.c (.bool false)))] (oR [oW 7 4 3,oV 8 1,oM 9 (.call 77 [(.t 7),(.t 8)]),
 oV 10 9,oG 10 true (oV 11 2),oG 10 true (oF 12 1 3),oG 10 true (oL 13 12),oG 10 true (oV 14 1),oG 10 true (oI 15 1 13 14),oG 10 true (oF 16 0 15),
 oG 10 true (oL 17 16),oG 10 true (oN 18 17),oG 10 true (oM 19 (.bin .sub (.t 18) (oK 1))),oG 10 true (oM 20 (.call 114 [(.t 11),(oK 0),(.t 19)])),
 oM 21 (.pick (.t 10) (.t 20) (.c (.bool false))),oV 6 21] .ret))
theorem ok73:FnOk Try.prog 73 22 1 c73 [.t 6]:=⟨_,_,Try.func73,rfl,rfl,by kernel_rfl,by kernel_rfl⟩
theorem bd73:bodied Try.prog 73=true:=by kernel_rfl
def c77:CI:=(oR [oM 2 (.box 0 true (.t 0)),oM 4 (.mv (.c (.bool false)))] (oR [oV 5 1,oF 6 1 2,oL 7 6,oN 8 7,oM 9 (.bin .sub
 (.t 8) (oK 1)),oM 10 (.call 114 [(.t 5),(oK 0),(.t 9)]),oV 4 10] .ret))
theorem ok77:FnOk Try.prog 77 11 1 c77 [.t 4]:=⟨_,_,Try.func77,rfl,rfl,by kernel_rfl,by kernel_rfl⟩
theorem bd77:bodied Try.prog 77=true:=by kernel_rfl
def c80:CI:=(oR [oM 2 (.box 0 true (.t 0)),oM 4 (.mv (.c (.bool false)))] (oR [oV 5 1,oF 6 1 2,oL 7 6,oN 8 7,oM 9 (.bin .sub
 (.t 8) (oK 1)),oM 10 (.call 90 [(.t 5),(oK 0),(.t 9)]),oV 4 10] .ret))
theorem ok80:FnOk Try.prog 80 11 1 c80 [.t 4]:=⟨_,_,Try.func80,rfl,rfl,by kernel_rfl,by kernel_rfl⟩
theorem bd80:bodied Try.prog 80=true:=by kernel_rfl
def c89:CI:=(oR [oM 4 (.mv (.c (.bool false)))] (oR [oV 5 0,oV 6 1,oM 7 (.call 132 [(.t 5),(.t 6)]),oM 8 (.bin .geq (.t 7) (oK
 0)),oV 4 8] .ret))
theorem ok89:FnOk Try.prog 89 9 0 c89 [.t 4]:=⟨_,_,Try.func89,rfl,rfl,by kernel_rfl,by kernel_rfl⟩
theorem bd89:bodied Try.prog 89=true:=by kernel_rfl
def c90:CI:=(oR [oM 6 (.mv (.c (.bool false)))] (oR [oV 7 0,oV 8 1,oM 9 (.bin .geq (.t 7) (.t 8)),oV 10 9,oG 10 true (oV 11 0),
 oG 10 true (oV 12 2),oG 10 true (oM 13 (.bin .leq (.t 11) (.t 12))),oM 14 (.pick (.t 10) (.t 13) (.c (.bool false))),oV 6 14] .ret))
theorem ok90:FnOk Try.prog 90 15 0 c90 [.t 6]:=⟨_,_,Try.func90,rfl,rfl,by kernel_rfl,by kernel_rfl⟩
theorem bd90:bodied Try.prog 90=true:=by kernel_rfl
def c97:CI:=(oR [oM 1 (.box 0 true (.t 0)),oM 2 (.mv (.c (.bool false)))] (oR [oF 3 0 1,oL 4 3,oF 5 1 1,oL 6 5,oM 7 (.call 98
 [(.t 4),(oK 1),(.t 6)]),oV 8 7,oG 8 true (oF 9 1 1),oG 8 true (oL 10 9),oG 8 true (oM 11 (.bin .leq (.t 10) (oK 2000))),oM 12 (.pick (.t 8) (.t
 11) (.c (.bool false))),oV 13 12,oG 13 true (oF 14 1 1),oG 13 true (oL 15 14),oG 13 true (oF 16 0 1),oG 13 true (oL 17 16),oG 13 true (oM 18 (.bin
 .sub (.t 15) (.t 17))),oG 13 true (oM 19 (.bin .leq (.t 18) (oK 6))),oM 20 (.pick (.t 13) (.t 19) (.c (.bool false))),oV 2 20] .ret))
theorem ok97:FnOk Try.prog 97 21 1 c97 [.t 2]:=⟨_,_,Try.func97,rfl,rfl,by kernel_rfl,by kernel_rfl⟩
theorem bd97:bodied Try.prog 97=true:=by kernel_rfl
def c98:CI:=(oR [oM 6 (.mv (.c (.bool false)))] (oR [oV 7 0,oV 8 1,oM 9 (.bin .geq (.t 7) (.t 8)),oV 10 9,oG 10 true (oV 11 0),
 oG 10 true (oV 12 2),oG 10 true (oM 13 (.bin .leq (.t 11) (.t 12))),oM 14 (.pick (.t 10) (.t 13) (.c (.bool false))),oV 6 14] .ret))
theorem ok98:FnOk Try.prog 98 15 0 c98 [.t 6]:=⟨_,_,Try.func98,rfl,rfl,by kernel_rfl,by kernel_rfl⟩
theorem bd98:bodied Try.prog 98=true:=by kernel_rfl
def c99:CI:=(oR [oM 1 (.box 0 true (.t 0)),oM 2 (.mv (.c (.bool false)))] (oR [oF 3 1 1,oL 4 3,oM 5 (.call 98 [(.t 4),(oK 1),
 (oK 20)]),oV 6 5,oG 6 true (oF 7 0 1),oG 6 true (oL 8 7),oG 6 true (oF 9 1 1),oG 6 true (oL 10 9),oG 6 true (oM 11 (.call 98 [(.t 8),(oK 0),(.t
 10)])),oM 12 (.pick (.t 6) (.t 11) (.c (.bool false))),oV 2 12] .ret))
theorem ok99:FnOk Try.prog 99 13 1 c99 [.t 2]:=⟨_,_,Try.func99,rfl,rfl,by kernel_rfl,by kernel_rfl⟩
theorem bd99:bodied Try.prog 99=true:=by kernel_rfl
def c100:CI:=(oR [oM 0 (.alloc 0 [.nils,(.int .i64 0),(.int .i64 0),(.int .i64 0),(.int .i64 0),(.int .i64 0),(.int .i64 0)])] (oR [oM 1 (.build [(.int .i64 0),(.int .i64 0)] [(0,1,(oK 50)),(1,1,(oK 52))]),oM 2 (.build [(.int .i64 0),(.int .i64 0)] [(0,1,(oK 60)),(1,
 1,(oK 60))]),oM 3 (.build [(.int .i64 0),(.int .i64 0)] [(0,1,(oK 1)),(1,1,(oK 1))]),oM 4 (.build [(.int .i64 0),(.int .i64 0),(.int .i64 0),
 (.int .i64 0),(.int .i64 0),(.int .i64 0),(.int .i64 0)] [(0,2,(.t 1)),(2,2,(.t 2)),(5,2,(.t 3))]),oM 5 (.build [(.int .i64 0),(.int .i64
 0)] [(0,1,(oK 40)),(1,1,(oK 40))]),oM 6 (.build [(.int .i64 0),(.int .i64 0)] [(0,1,(oK 45)),(1,1,(oK 46))]),oM 7 (.build [(.int .i64 0),
 (.int .i64 0)] [(0,1,(oK 1)),(1,1,(oK 2))]),oM 8 (.build [(.int .i64 0),(.int .i64 0),(.int .i64 0),(.int .i64 0),(.int .i64 0),(.int .i64 0),
 (.int .i64 0)] [(0,2,(.t 5)),(2,2,(.t 6)),(4,1,(oK 5)),(5,2,(.t 7))]),oM 9 (.bsl 1 98 7 [(.t 4),(.t 8)] []),oM 10 (.build [(.int .i64 0),
 (.int .i64 0)] [(0,1,(oK 1)),(1,1,(oK 20))]),oM 11 (.build [.nils,(.int .i64 0),(.int .i64 0),(.int .i64 0),(.int .i64 0),(.int .i64 0),(.int
 .i64 0)] [(0,1,(.t 9)),(1,1,(oK 20)),(2,1,(oK 100)),(3,2,(.t 10)),(5,1,(oK 300)),(6,1,(oK 351))]),oS (.stz true 7 (.t 0) (.t 11) [])]
 .ret))
theorem ok100:FnOk Try.prog 100 12 2 c100 [.cell 0 true 7]:=⟨_,_,Try.func100,rfl,rfl,by kernel_rfl,by kernel_rfl⟩
theorem bd100:bodied Try.prog 100=true:=by kernel_rfl
def c101:CI:=(oR [oM 3 (.box 0 true (.t 0)),oM 6 (.mv (oK 0))] (.seq (oR [oW 8 7 3,oV 9 1,oM 10 (.call 138 [(.t 8),(.t 9)]),oV
 7 10] (oR [oV 11 7,oM 12 (.bin .neq (.t 11) (oK 0))] (.cond (.t 12) (oR [oV 13 7,oV 6 13] .ret) .skip))) (.seq (oR [oV 14
 2,oF 15 1 3,oL 16 15,oF 17 2 3,oL 18 17,oM 19 (.call 139 [(.t 14),(.t 16),(.t 18)]),oM 20 (.un .not (.t 19))] (.cond (.t 20) (oR [oM 6
 (.mv (oK 1))] .ret) .skip)) (oR [oM 6 (.mv (oK 0))] .ret))))
theorem ok101:FnOk Try.prog 101 21 1 c101 [.t 6]:=⟨_,_,Try.func101,rfl,rfl,by kernel_rfl,by kernel_rfl⟩
theorem bd101:bodied Try.prog 101=true:=by kernel_rfl
def c102:CI:=(oR [oM 3 (.box 0 true (.t 0)),oM 6 (.mv (oK 0))] (oR [oV 10 2,oV 7 10] (.seq (oR [oF 11 0 3,oL 12 11,oV
 13 1,oM 14 (.bin .add (.t 13) (oK 1)),oM 15 (.sli 7 (.t 12) (some (oK 1)) (some (.t 14))),oN 16 15,oM 17 (.mv (oK 0))] (.block 0 (.loop (oR [oM 18 (.bin .lss (.t 17) (.t 16))] (.seq (.cond (.t 18) .skip (.exit 0)) (.seq (.block 1 (oR [oI 19 7 15 17,oW 20 7 19,oM 9 (.alloc 1 [(.int
 .i64 0),(.int .i64 0),(.int .i64 0),(.int .i64 0),(.int .i64 0),(.int .i64 0),(.int .i64 0)]),oS (.store true 7 (.t 9) (.t 20) [])] (.reg [oF 21
 4 9,oL 22 21,oV 23 7,oF 24 5 9,oF 25 0 24,oL 26 25,oM 27 (.bin .mul (.t 23) (.t 26)),oF 28 5 9,oF 29 1 28,oL 30 29,oM 31 (.bin .quo (.t 27) (.t
 30)),oM 32 (.bin .add (.t 22) (.t 31)),oV 7 32]))) (.reg [oM 33 (.bin .add (.t 17) (oK 1)),oV 17 33]))))))) (oR [oV 34 7,oV 6 34] .ret))))
theorem ok102:FnOk Try.prog 102 35 2 c102 [.t 6]:=⟨_,_,Try.func102,rfl,rfl,by kernel_rfl,by kernel_rfl⟩
theorem bd102:bodied Try.prog 102=true:=by kernel_rfl
def c103:CI:=(oR [oM 2 (.box 0 true (.t 0)),oM 3 (.box 1 false (.t 1)),oM 4 (.alloc 2 [(.int .i64 0),(.int .i64 0)]),oM 5 (.alloc 3 [(.int
 .i64 0),(.int .i64 0)])] (oR [oL 9 3,oF 10 0 2,oF 11 0 10,oL 12 11,oF 13 2 2,oF 14 0 13,oL 15 14,oM 16 (.call 140 [(.t 9),(.t 12),(.t
 15)]),oS (.store true 2 (.t 4) (.t 16) [])] (oR [oW 17 2 4,oS (.store true 2 (.t 5) (.t 17) [])] (.seq (oR [oW 18 7 2,oM 19 (.callw
 4 0 141 [(.t 18)])] (.block 0 (.rng (.t 19) [20,21] (oR [oV 6 20] (.reg [oV 7 21])) (.block 1 (oR [oL 22 3,oV 23 6,oV 24 7,oM 25
 (.call 140 [(.t 22),(.t 23),(.t 24)]),oM 8 (.alloc 4 [(.int .i64 0),(.int .i64 0)]),oS (.store true 2 (.t 8) (.t 25) [])] (.seq (oR [oW 26
 2 8,oW 27 2 4,oM 28 (.call 142 [(.t 26),(.t 27)])] (.cond (.t 28) (.reg [oW 29 2 8,oS (.store true 2 (.t 4) (.t 29) [])]) .skip)) (oR [oW
 30 2 5,oW 31 2 8,oM 32 (.call 142 [(.t 30),(.t 31)])] (.cond (.t 32) (.reg [oW 33 2 8,oS (.store true 2 (.t 5) (.t 33) [])]) .skip)))))))) (oR [oW 34 2 4,oW 35 2 5,oS (.store true 2 (.t 4) (.t 34) [(.t 5)]),oS (.store true 2 (.t 5) (.t 35) [])] .ret)))))
theorem ok103:FnOk Try.prog 103 36 5 c103 [.cell 4 true 2, .cell 5 true 2]:=⟨_,_,Try.func103,rfl,rfl,by kernel_rfl,by kernel_rfl⟩
theorem bd103:bodied Try.prog 103=true:=by kernel_rfl
def c104:CI:=(oR [oM 1 (.box 0 true (.t 0)),oM 2 (.alloc 1 [(.int .i64 0),(.int .i64 0)])] (oR [oF 4 0 1,oL 5 4,oF 6 0 1,oL 7
 6,oM 8 (.un .neg (.t 7)),oM 9 (.mm true [(.t 5),(.t 8)]),oF 10 1 1,oL 11 10,oM 12 (.call 143 [(.t 9),(.t 11)]),oV 3 12] (oR [oF 13 0 1,
 oL 14 13,oV 15 3,oM 16 (.bin .quo (.t 14) (.t 15)),oF 17 1 1,oL 18 17,oV 19 3,oM 20 (.bin .quo (.t 18) (.t 19)),oM 21 (.build [(.int .i64 0),(.int
 .i64 0)] [(0,1,(.t 16)),(1,1,(.t 20))]),oS (.store true 2 (.t 2) (.t 21) [])] .ret)))
theorem ok104:FnOk Try.prog 104 22 2 c104 [.cell 2 true 2]:=⟨_,_,Try.func104,rfl,rfl,by kernel_rfl,by kernel_rfl⟩
theorem bd104:bodied Try.prog 104=true:=by kernel_rfl
def c105:CI:=(oR [oM 1 (.box 0 true (.t 0)),oM 2 (.mv (oK 0))] (.seq (oR [oW 3 7 1,oM 4 (.call 144 [(.t 3)]),oM 5 (.un .not (.t
 4))] (.cond (.t 5) (oR [oM 2 (.mv (oK 10))] .ret) .skip)) (oR [oM 2 (.mv (oK 0))] .ret)))
theorem ok105:FnOk Try.prog 105 6 1 c105 [.t 2]:=⟨_,_,Try.func105,rfl,rfl,by kernel_rfl,by kernel_rfl⟩
theorem bd105:bodied Try.prog 105=true:=by kernel_rfl
def c106:CI:=(oR [oM 2 (.box 0 true (.t 0)),oM 3 (.box 1 false (.t 1)),oM 4 (.mv (oK 0))] (oR [oM 5 (.alloc 2 [(.bool false)]),
 oM 6 (.alloc 3 [(.bool false)]),oS (.store false 1 (.t 5) (.c (.bool true)) []),oS (.store false 1 (.t 6) (.c (.bool false)) [])] (.seq (oR [oW 9 7 2,oM 10 (.callw 4 0 141 [(.t 9)])] (.block 0 (.rng (.t 10) [11,12] (oR [oV 7 11] (.reg [oV 8 12])) (.block 1 (oR [oL 13 3,
 oV 14 7,oV 15 8,oM 16 (.callx (.t 13) [(.t 14),(.t 15)])] (.cond (.t 16) (.reg [oS (.store false 1 (.t 6) (.c (.bool true)) [])]) (.reg [oS (.store
 false 1 (.t 5) (.c (.bool false)) [])]))))))) (oR [oL 17 5,oL 18 6,oM 19 (.call 108 [(.t 17),(.t 18)]),oV 4 19] .ret))))
theorem ok106:FnOk Try.prog 106 20 4 c106 [.t 4]:=⟨_,_,Try.func106,rfl,rfl,by kernel_rfl,by kernel_rfl⟩
theorem bd106:bodied Try.prog 106=true:=by kernel_rfl
def c107:CI:=(oR [oM 2 (.box 0 true (.t 0)),oM 3 (.box 1 false (.t 1)),oM 4 (.mv (.c (.lit (.nilFunc))))] (oR [oM 5 (.mkfn 145 [(.t
 2),(.t 3)]),oV 4 5] .ret))
theorem ok107:FnOk Try.prog 107 6 2 c107 [.t 4]:=⟨_,_,Try.func107,rfl,rfl,by kernel_rfl,by kernel_rfl⟩
theorem bd107:bodied Try.prog 107=true:=by kernel_rfl
def c108:CI:=(oR [oM 4 (.mv (oK 0))] (.seq (.block 0 (oR [oV 6 0,oV 5 6] (.cond (.t 5) (oR [oM 4 (.mv (oK 1))] .ret) (oR [oV 8 1,oV 7 8] (.cond (.t 7) (oR [oM 4 (.mv (oK 3))] .ret) .skip))))) (oR [oM 4 (.mv (oK 2))] .ret)))
theorem ok108:FnOk Try.prog 108 9 0 c108 [.t 4]:=⟨_,_,Try.func108,rfl,rfl,by kernel_rfl,by kernel_rfl⟩
theorem bd108:bodied Try.prog 108=true:=by kernel_rfl
def c109:CI:=(oR [oM 3 (.box 0 true (.t 0)),oM 6 (.mv (.c (.lit (.nilFunc))))] (oR [oW 10 7 3,oV 11 1,oV 12 2,oM 13 (.call 102
 [(.t 10),(.t 11),(.t 12)]),oM 7 (.alloc 1 [(.int .i64 0)]),oS (.store false 1 (.t 7) (.t 13) [])] (oR [oF 14 3 3,oF 15 1 14,oL 16 15,oF
 17 3 3,oF 18 0 17,oL 19 18,oM 20 (.bin .sub (.t 16) (.t 19)),oF 21 3 3,oF 22 1 21,oL 23 22,oM 24 (.build [(.int .i64 0),(.int .i64 0)] [(0,1,
 (.t 20)),(1,1,(.t 23))]),oM 8 (.alloc 2 [(.int .i64 0),(.int .i64 0)]),oS (.store true 2 (.t 8) (.t 24) [])] (oR [oF 25 0 8,oL 26 25,oM
 27 (.un .neg (.t 26)),oF 28 1 8,oL 29 28,oM 30 (.build [(.int .i64 0),(.int .i64 0)] [(0,1,(.t 27)),(1,1,(.t 29))]),oM 9 (.alloc 3 [(.int .i64
 0),(.int .i64 0)]),oS (.store true 2 (.t 9) (.t 30) [])] (oR [oM 31 (.mkfn 147 [(.t 7),(.t 8),(.t 9)]),oV 6 31] .ret)))))
theorem ok109:FnOk Try.prog 109 32 4 c109 [.t 6]:=⟨_,_,Try.func109,rfl,rfl,by kernel_rfl,by kernel_rfl⟩
theorem bd109:bodied Try.prog 109=true:=by kernel_rfl
def c110:CI:=(oR [oM 4 (.mv (.c (.bool false)))] (.seq (oR [oV 7 0,oN 8 7,oM 9 (.mv (oK 0))] (.block 0 (.loop (oR [oM 10
 (.bin .lss (.t 9) (.t 8))] (.seq (.cond (.t 10) .skip (.exit 0)) (.seq (.block 1 (oR [oI 11 4 7 9,oW 12 4 11,oM 6 (.alloc 0 [(.int .i64 0),
 (.int .i64 0),(.int .i64 0),(.int .i64 0)]),oS (.store true 4 (.t 6) (.t 12) [])] (oR [oV 13 1,oW 14 4 6,oM 15 (.callx (.t 13) [(.t 14)]),
 oM 16 (.un .not (.t 15))] (.cond (.t 16) (oR [oM 4 (.mv (.c (.bool false)))] .ret) .skip)))) (.reg [oM 17 (.bin .add (.t 9) (oK 1)),oV 9 17])))))))
 (oR [oM 4 (.mv (.c (.bool true)))] .ret)))
theorem ok110:FnOk Try.prog 110 18 1 c110 [.t 4]:=⟨_,_,Try.func110,rfl,rfl,by kernel_rfl,by kernel_rfl⟩
theorem bd110:bodied Try.prog 110=true:=by kernel_rfl
def c111:CI:=(oR [oM 1 (.box 0 true (.t 0)),oM 2 (.mv (.c (.bool false)))] (oR [oF 3 0 1,oL 4 3,oM 5 (.call 148 [(.t 4)]),oV 6
 5,oG 6 true (oF 7 1 1),oG 6 true (oL 8 7),oG 6 true (oM 9 (.call 148 [(.t 8)])),oM 10 (.pick (.t 6) (.t 9) (.c (.bool false))),oV 11 10,oG 11 true
 (oF 12 2 1),oG 11 true (oW 13 2 12),oG 11 true (oM 14 (.call 149 [(.t 13)])),oM 15 (.pick (.t 11) (.t 14) (.c (.bool false))),oV 2 15] .ret))
theorem ok111:FnOk Try.prog 111 16 1 c111 [.t 2]:=⟨_,_,Try.func111,rfl,rfl,by kernel_rfl,by kernel_rfl⟩
theorem bd111:bodied Try.prog 111=true:=by kernel_rfl
def c112:CI:=(oR [oM 4 (.mv (.c (.bool false)))] (.seq (oR [oV 7 0,oN 8 7,oM 9 (.mv (oK 0))] (.block 0 (.loop (oR [oM 10
 (.bin .lss (.t 9) (.t 8))] (.seq (.cond (.t 10) .skip (.exit 0)) (.seq (.block 1 (oR [oI 11 1 7 9,oW 12 1 11,oM 6 (.alloc 0 [.nils]),oS (.stz
 true 1 (.t 6) (.t 12) [])] (oR [oV 13 1,oW 14 1 6,oM 15 (.callx (.t 13) [(.t 14)]),oM 16 (.un .not (.t 15))] (.cond (.t 16) (oR [oM
 4 (.mv (.c (.bool false)))] .ret) .skip)))) (.reg [oM 17 (.bin .add (.t 9) (oK 1)),oV 9 17]))))))) (oR [oM 4 (.mv (.c (.bool true)))] .ret)))
theorem ok112:FnOk Try.prog 112 18 1 c112 [.t 4]:=⟨_,_,Try.func112,rfl,rfl,by kernel_rfl,by kernel_rfl⟩
theorem bd112:bodied Try.prog 112=true:=by kernel_rfl
def c113:CI:=(oR [oM 1 (.box 0 true (.t 0)),oM 2 (.mv (.c (.bool false)))] (oR [oF 3 0 1,oL 4 3,oN 5 4,oM 6 (.bin .leq (.t 5)
 (oK 4)),oV 7 6,oG 7 true (oF 8 0 1),oG 7 true (oL 9 8),oG 7 true (oM 10 (.call 150 [(.t 9),(.c (.fn 151 []))])),oM 11 (.pick (.t 7) (.t 10) (.c (.bool
 false))),oV 2 11] .ret))
theorem ok113:FnOk Try.prog 113 12 1 c113 [.t 2]:=⟨_,_,Try.func113,rfl,rfl,by kernel_rfl,by kernel_rfl⟩
theorem bd113:bodied Try.prog 113=true:=by kernel_rfl
def c114:CI:=(oR [oM 6 (.mv (.c (.bool false)))] (oR [oV 7 1,oV 8 0,oM 9 (.bin .leq (.t 7) (.t 8)),oV 10 9,oG 10 true (oV 11 0),
 oG 10 true (oV 12 2),oG 10 true (oM 13 (.bin .leq (.t 11) (.t 12))),oM 14 (.pick (.t 10) (.t 13) (.c (.bool false))),oV 6 14] .ret))
theorem ok114:FnOk Try.prog 114 15 0 c114 [.t 6]:=⟨_,_,Try.func114,rfl,rfl,by kernel_rfl,by kernel_rfl⟩
theorem bd114:bodied Try.prog 114=true:=by kernel_rfl
def c115:CI:=(oR [oM 4 (.mv (.c (.bool false)))] (.seq (oR [oV 7 0,oN 8 7,oM 9 (.mv (oK 0))] (.block 0 (.loop (oR [oM 10
 (.bin .lss (.t 9) (.t 8))] (.seq (.cond (.t 10) .skip (.exit 0)) (.seq (.block 1 (oR [oI 11 4 7 9,oW 12 4 11,oM 6 (.alloc 0 [(.int .i64 0),
 (.int .i64 0),(.int .i64 0),(.int .i64 0)]),oS (.store true 4 (.t 6) (.t 12) [])] (oR [oV 13 1,oW 14 4 6,oM 15 (.callx (.t 13) [(.t 14)]),
 oM 16 (.un .not (.t 15))] (.cond (.t 16) (oR [oM 4 (.mv (.c (.bool false)))] .ret) .skip)))) (.reg [oM 17 (.bin .add (.t 9) (oK 1)),oV 9 17])))))))
 (oR [oM 4 (.mv (.c (.bool true)))] .ret)))
theorem ok115:FnOk Try.prog 115 18 1 c115 [.t 4]:=⟨_,_,Try.func115,rfl,rfl,by kernel_rfl,by kernel_rfl⟩
theorem bd115:bodied Try.prog 115=true:=by kernel_rfl
def c116:CI:=(oR [oM 2 (.box 0 true (.t 0)),oM 3 (.mv (.c (.bool false)))] (oR [oW 4 4 1,oF 5 0 2,oL 6 5,oM 7 (.call 70 [(.t 4),
 (.t 6)]),oV 8 7,oG 8 true (oW 9 4 1),oG 8 true (oF 10 1 2),oG 8 true (oL 11 10),oG 8 true (oF 12 2 2),oG 8 true (oL 13 12),oG 8 true (oM 14 (.call
 73 [(.t 9),(.t 11),(.t 13)])),oM 15 (.pick (.t 8) (.t 14) (.c (.bool false))),oV 16 15,oG 16 true (oF 17 3 2),oG 16 true (oL 18 17),oG 16 true (oM
 19 (.call 114 [(.t 18),(oK 0),(oK 1)])),oM 20 (.pick (.t 16) (.t 19) (.c (.bool false))),oV 3 20] .ret))
theorem ok116:FnOk Try.prog 116 21 1 c116 [.t 3]:=⟨_,_,Try.func116,rfl,rfl,by kernel_rfl,by kernel_rfl⟩
theorem bd116:bodied Try.prog 116=true:=by kernel_rfl
def c117:CI:=(oR [oM 4 (.mv (.c (.bool false)))] (oR [oV 5 0,oV 6 1,oM 7 (.call 152 [(.t 5),(.t 6)]),oM 8 (.bin .geq (.t 7) (oK
 0)),oV 4 8] .ret))
theorem ok117:FnOk Try.prog 117 9 0 c117 [.t 4]:=⟨_,_,Try.func117,rfl,rfl,by kernel_rfl,by kernel_rfl⟩
theorem bd117:bodied Try.prog 117=true:=by kernel_rfl
def c118:CI:=(oR [oM 2 (.box 0 true (.t 0)),oM 3 (.mv (.c (.bool false)))] (oR [oF 4 3 2,oL 5 4,oM 6 (.bin .sub (oK 1) (.t 5)),
 oF 7 3 2,oS (.store false 1 (.t 7) (.t 6) [])] (oR [oL 8 1,oW 9 4 2,oM 10 (.call 119 [(.t 8),(.t 9)]),oV 3 10] .ret)))
theorem ok118:FnOk Try.prog 118 11 1 c118 [.t 3]:=⟨_,_,Try.func118,rfl,rfl,by kernel_rfl,by kernel_rfl⟩
theorem bd118:bodied Try.prog 118=true:=by kernel_rfl
def c119:CI:=(oR [oM 3 (.box 0 true (.t 1)),oM 4 (.mv (.c (.bool false)))] (oR [oV 5 0,oW 6 4 3,oM 7 (.call 153 [(.t 5),(.t 6)]),
 oM 8 (.bin .geq (.t 7) (oK 0)),oV 4 8] .ret))
theorem ok119:FnOk Try.prog 119 9 1 c119 [.t 4]:=⟨_,_,Try.func119,rfl,rfl,by kernel_rfl,by kernel_rfl⟩
theorem bd119:bodied Try.prog 119=true:=by kernel_rfl
def c120:CI:=(oR [oM 1 (.box 0 true (.t 0)),oM 2 (.mv (.c (.bool false)))] (oR [oF 3 0 1,oL 4 3,oF 5 1 1,oL 6 5,oM 7 (.call 90
 [(.t 4),(oK 0),(.t 6)]),oV 8 7,oG 8 true (oF 9 1 1),oG 8 true (oL 10 9),oG 8 true (oM 11 (.bin .leq (.t 10) (oK 999))),oM 12 (.pick (.t 8) (.t 11)
 (.c (.bool false))),oV 2 12] .ret))
theorem ok120:FnOk Try.prog 120 13 1 c120 [.t 2]:=⟨_,_,Try.func120,rfl,rfl,by kernel_rfl,by kernel_rfl⟩
theorem bd120:bodied Try.prog 120=true:=by kernel_rfl
def c121:CI:=(oR [oM 1 (.box 0 true (.t 0)),oM 2 (.mv (.c (.bool false)))] (.seq (oR [oM 3 (.mv (oK 0))] (.block 0 (.loop (.seq
 (oR [oV 4 3,oF 5 1 1,oL 6 5,oN 7 6,oM 8 (.bin .lss (.t 4) (.t 7))] (.cond (.t 8) .skip (.exit 0))) (.seq (.block 1 (oR [oF 11 1 1,
 oL 12 11,oV 13 3,oI 14 1 12 13,oL 15 14,oM 16 (.call 90 [(.t 15),(oK 0),(oK 9)]),oM 17 (.un .not (.t 16))] (.cond (.t 17) (oR [oM 2 (.mv
 (.c (.bool false)))] .ret) .skip))) (.reg [oV 9 3,oM 10 (.bin .add (.t 9) (oK 1)),oV 3 10])))))) (oR [oF 18 0 1,oL 19 18,oM 20 (.call 90 [(.t
 19),(oK 0),(oK 9)]),oV 21 20,oG 21 true (oF 22 1 1),oG 21 true (oL 23 22),oG 21 true (oN 24 23),oG 21 true (oM 25 (.bin .leq (.t 24) (oK 4))),oM
 26 (.pick (.t 21) (.t 25) (.c (.bool false))),oV 27 26,oG 27 true (oF 28 1 1),oG 27 true (oL 29 28),oG 27 true (oM 30 (.call 50 [(.t 29)])),oM 31
 (.pick (.t 27) (.t 30) (.c (.bool false))),oV 32 31,oG 32 true (oF 33 2 1),oG 32 true (oW 34 2 33),oG 32 true (oM 35 (.call 120 [(.t 34)])),oM 36
 (.pick (.t 32) (.t 35) (.c (.bool false))),oV 2 36] .ret)))
theorem ok121:FnOk Try.prog 121 37 1 c121 [.t 2]:=⟨_,_,Try.func121,rfl,rfl,by kernel_rfl,by kernel_rfl⟩
theorem bd121:bodied Try.prog 121=true:=by kernel_rfl
def c122:CI:=(oR [oM 2 (.box 0 true (.t 0)),oM 4 (.mv oZ)] (oR [oF 10 0 2,oF 11 0 10,oL 12 11,oV 13 1,oI 14 4 12 13,oF 15 2
 14,oW 16 2 15,oM 17 (.bsl 1 35 2 [(.t 16)] []),oV 5 17] (.seq (oR [oF 18 0 2,oF 19 3 18,oL 20 19,oN 21 20,oM 22 (.mv (oK 0))] (.block
 0 (.loop (oR [oM 23 (.bin .lss (.t 22) (.t 21))] (.seq (.cond (.t 23) .skip (.exit 0)) (.seq (.block 1 (oR [oI 24 4 20 22,oW 25 4 24,
 oM 7 (.alloc 2 [(.int .i64 0),(.int .i64 0),(.int .i64 0),(.int .i64 0)]),oS (.store true 4 (.t 7) (.t 25) [])] (.seq (oR [oF 26 0 7,oL 27
 26,oV 28 1,oM 29 (.bin .neq (.t 27) (.t 28))] (.cond (.t 29) (.exit 1) .skip)) (oR [oV 31 5,oW 32 5 2,oV 33 1,oF 34 1 7,oL 35 34,oF 36
 2 7,oL 37 36,oM 38 (.call 124 [(.t 32),(.t 33),(.t 35),(.t 37)]),oM 39 (.callw 3 2 123 [(.t 31),(.t 38)]),oV 30 39,oX 40 0 30,oX 41 1 30,oV
 8 40,oV 9 41] (oR [oF 42 3 7,oL 43 42,oM 44 (.bin .eql (.t 43) (oK 1))] (.cond (.t 44) (.reg [oV 45 8,oV 5 45]) (.reg [oV 46 9,oV 5 46])))))))
 (.reg [oM 47 (.bin .add (.t 22) (oK 1)),oV 22 47]))))))) (oR [oV 48 5,oV 4 48] .ret))))
theorem ok122:FnOk Try.prog 122 49 5 c122 [.t 4]:=⟨_,_,Try.func122,rfl,rfl,by kernel_rfl,by kernel_rfl⟩
theorem bd122:bodied Try.prog 122=true:=by kernel_rfl
def c123:CI:=(oR [oM 3 (.box 0 true (.t 1)),oM 4 (.mv oZ),oM 5 (.mv oZ)] (.seq (oR [oV 8 0,oN 9 8,oM 10 (.mv (oK 0))] (.block
 0 (.loop (oR [oM 11 (.bin .lss (.t 10) (.t 9))] (.seq (.cond (.t 11) .skip (.exit 0)) (.seq (.block 1 (oR [oI 12 2 8 10,oW 13 2 12,oM
 7 (.alloc 1 [(.int .i64 0),(.int .i64 0)]),oS (.store true 2 (.t 7) (.t 13) [])] (oR [oV 14 4,oF 15 0 7,oL 16 15,oF 17 0 3,oL 18 17,oM
 19 (.mm true [(.t 16),(.t 18)]),oF 20 1 7,oL 21 20,oF 22 1 3,oL 23 22,oM 24 (.mm false [(.t 21),(.t 23)]),oM 25 (.build [(.int .i64 0),(.int .i64
 0)] [(0,1,(.t 19)),(1,1,(.t 24))]),oM 26 (.callw 2 1 154 [(.t 14),(.t 25)]),oV 4 26] (oR [oV 27 5,oF 28 0 7,oL 29 28,oF 30 1 7,oL
 31 30,oF 32 0 3,oL 33 32,oM 34 (.bin .sub (.t 33) (oK 1)),oM 35 (.mm false [(.t 31),(.t 34)]),oM 36 (.build [(.int .i64 0),(.int .i64 0)] [(0,1,
 (.t 29)),(1,1,(.t 35))]),oM 37 (.callw 3 1 154 [(.t 27),(.t 36)]),oV 5 37] (.reg [oV 38 5,oF 39 0 7,oL 40 39,oF 41 1 3,oL 42 41,oM 43 (.bin
 .add (.t 42) (oK 1)),oM 44 (.mm true [(.t 40),(.t 43)]),oF 45 1 7,oL 46 45,oM 47 (.build [(.int .i64 0),(.int .i64 0)] [(0,1,(.t 44)),(1,1,(.t
 46))]),oM 48 (.callw 4 1 154 [(.t 38),(.t 47)]),oV 5 48]))))) (.reg [oM 49 (.bin .add (.t 10) (oK 1)),oV 10 49]))))))) (oR [oV 50 4,oV 51
 5,oV 4 50,oV 5 51] .ret)))
theorem ok123:FnOk Try.prog 123 52 5 c123 [.t 4, .t 5]:=⟨_,_,Try.func123,rfl,rfl,by kernel_rfl,by kernel_rfl⟩
theorem bd123:bodied Try.prog 123=true:=by kernel_rfl
def c124:CI:=(oR [oM 4 (.box 0 true (.t 0)),oM 8 (.alloc 1 [(.int .i64 0),(.int .i64 0)])] (oR [oF 11 0 4,oF 12 0 11,oL 13 12,
 oV 14 1,oI 15 4 13 14,oW 16 4 15,oF 17 0 4,oF 18 1 17,oL 19 18,oV 20 2,oI 21 1 19 20,oF 22 0 21,oL 23 22,oV 24 3,oI 25 4 23 24,oW 26 4 25,
 oM 9 (.alloc 2 [(.int .i64 0),(.int .i64 0),(.int .i64 0),(.int .i64 0)]),oM 10 (.alloc 3 [(.int .i64 0), .nils,(.int .i64 0),(.int .i64 0)]),oS
 (.store true 4 (.t 9) (.t 16) [(.t 18),(.t 19),(.t 22),(.t 23),(.t 25)]),oS (.stz true 4 (.t 10) (.t 26) [])] (.seq (oR [oF 27 0 9,oL 28
 27,oF 29 0 10,oL 30 29,oM 31 (.bin .neq (.t 28) (.t 30)),oV 32 31,oG 32 false (oF 33 1 10),oG 32 false (oL 34 33),oG 32 false (oF 35 1 9),oG 32
 false (oL 36 35),oG 32 false (oM 37 (.call 89 [(.t 34),(.t 36)])),oG 32 false (oM 38 (.un .not (.t 37))),oM 39 (.pick (.t 32) (.c (.bool true)) (.t
 38))] (.cond (.t 39) (oR [oM 40 (.build [(.int .i64 0),(.int .i64 0)] [(0,1,(oK 0)),(1,1,(oK (-1)))]),oS (.store true 2 (.t 8) (.t 40)
 [])] .ret) .skip)) (oR [oF 41 2 10,oF 42 0 41,oL 43 42,oF 44 2 10,oF 45 1 44,oL 46 45,oF 47 0 4,oF 48 2 47,oL 49 48,oM 50 (.bin .add
 (.t 46) (.t 49)),oM 51 (.build [(.int .i64 0),(.int .i64 0)] [(0,1,(.t 43)),(1,1,(.t 50))]),oS (.store true 2 (.t 8) (.t 51) [])] .ret))))
theorem ok124:FnOk Try.prog 124 52 4 c124 [.cell 8 true 2]:=⟨_,_,Try.func124,rfl,rfl,by kernel_rfl,by kernel_rfl⟩
theorem bd124:bodied Try.prog 124=true:=by kernel_rfl
def c126:CI:=(oR [oM 2 (.mv (.c (.bool false)))] (.seq (oR [oV 4 0,oN 5 4,oM 6 (.bin .sub (.t 5) (oK 1)),oM 7 (.mv (oK 0))] (.block
 0 (.loop (oR [oM 8 (.bin .lss (.t 7) (.t 6))] (.seq (.cond (.t 8) .skip (.exit 0)) (.seq (.block 1 (oR [oV 9 7,oV 3 9] (oR [oV
 10 0,oV 11 3,oI 12 1 10 11,oL 13 12,oV 14 0,oV 15 3,oM 16 (.bin .add (.t 15) (oK 1)),oI 17 1 14 16,oL 18 17,oM 19 (.bin .geq (.t 13) (.t 18))]
 (.cond (.t 19) (oR [oM 2 (.mv (.c (.bool false)))] .ret) .skip)))) (.reg [oM 20 (.bin .add (.t 7) (oK 1)),oV 7 20]))))))) (oR [oM 2 (.mv
 (.c (.bool true)))] .ret)))
theorem ok126:FnOk Try.prog 126 21 0 c126 [.t 2]:=⟨_,_,Try.func126,rfl,rfl,by kernel_rfl,by kernel_rfl⟩
theorem bd126:bodied Try.prog 126=true:=by kernel_rfl
def c127:CI:=(oR [oM 4 (.mv (.c (.bool false)))] (.seq (oR [oV 7 0,oN 8 7,oM 9 (.mv (oK 0))] (.block 0 (.loop (oR [oM 10
 (.bin .lss (.t 9) (.t 8))] (.seq (.cond (.t 10) .skip (.exit 0)) (.seq (.block 1 (oR [oI 11 1 7 9,oL 12 11,oV 6 12] (oR [oV 13 1,oV
 14 6,oM 15 (.callx (.t 13) [(.t 14)]),oM 16 (.un .not (.t 15))] (.cond (.t 16) (oR [oM 4 (.mv (.c (.bool false)))] .ret) .skip)))) (.reg [oM
 17 (.bin .add (.t 9) (oK 1)),oV 9 17]))))))) (oR [oM 4 (.mv (.c (.bool true)))] .ret)))
theorem ok127:FnOk Try.prog 127 18 0 c127 [.t 4]:=⟨_,_,Try.func127,rfl,rfl,by kernel_rfl,by kernel_rfl⟩
theorem bd127:bodied Try.prog 127=true:=by kernel_rfl
def c132:CI:=(oR [oM 4 (.mv (oK 0))] (.seq (oR [oV 6 0,oN 7 6,oM 8 (.mv (oK 0))] (.block 0 (.loop (oR [oM 9 (.bin .lss
 (.t 8) (.t 7))] (.seq (.cond (.t 9) .skip (.exit 0)) (.seq (.block 1 (oR [oV 10 8,oV 5 10] (oR [oV 11 1,oV 12 0,oV 13 5,oI 14 1 12
 13,oL 15 14,oM 16 (.bin .eql (.t 11) (.t 15))] (.cond (.t 16) (oR [oV 17 5,oV 4 17] .ret) .skip)))) (.reg [oM 18 (.bin .add (.t 8) (oK 1)),
 oV 8 18]))))))) (oR [oM 4 (.mv (oK (-1)))] .ret)))
theorem ok132:FnOk Try.prog 132 19 0 c132 [.t 4]:=⟨_,_,Try.func132,rfl,rfl,by kernel_rfl,by kernel_rfl⟩
theorem bd132:bodied Try.prog 132=true:=by kernel_rfl
def c138:CI:=(oR [oM 2 (.box 0 true (.t 0)),oM 4 (.mv (oK 0))] (.seq (oR [oW 5 7 2,oM 6 (.call 144 [(.t 5)]),oM 7 (.un .not (.t
 6))] (.cond (.t 7) (oR [oM 4 (.mv (oK 10))] .ret) .skip)) (.seq (oR [oV 8 1,oF 9 0 2,oL 10 9,oN 11 10,oM 12 (.bin .sub (.t 11) (oK
 1)),oM 13 (.call 139 [(.t 8),(oK 0),(.t 12)]),oM 14 (.un .not (.t 13))] (.cond (.t 14) (oR [oM 4 (.mv (oK 1))] .ret) .skip)) (oR [oM 4 (.mv (oK 0))] .ret))))
theorem ok138:FnOk Try.prog 138 15 1 c138 [.t 4]:=⟨_,_,Try.func138,rfl,rfl,by kernel_rfl,by kernel_rfl⟩
theorem bd138:bodied Try.prog 138=true:=by kernel_rfl
def c139:CI:=(oR [oM 6 (.mv (.c (.bool false)))] (oR [oV 7 1,oV 8 0,oM 9 (.bin .leq (.t 7) (.t 8)),oV 10 9,oG 10 true (oV 11 0),
 oG 10 true (oV 12 2),oG 10 true (oM 13 (.bin .leq (.t 11) (.t 12))),oM 14 (.pick (.t 10) (.t 13) (.c (.bool false))),oV 6 14] .ret))
theorem ok139:FnOk Try.prog 139 15 0 c139 [.t 6]:=⟨_,_,Try.func139,rfl,rfl,by kernel_rfl,by kernel_rfl⟩
theorem bd139:bodied Try.prog 139=true:=by kernel_rfl
def c140:CI:=(oR [oM 6 (.alloc 0 [(.int .i64 0),(.int .i64 0)])] (oR [oV 7 0,oV 8 0,oM 9 (.bin .mul (.t 7) (.t 8)),oV 10 1,oV
 11 1,oM 12 (.bin .mul (.t 10) (.t 11)),oM 13 (.bin .add (.t 9) (.t 12)),oV 14 2,oV 15 2,oM 16 (.bin .mul (.t 14) (.t 15)),oM 17 (.bin .sub (.t 13)
 (.t 16)),oV 18 0,oM 19 (.bin .mul (oK 2) (.t 18)),oV 20 1,oM 21 (.bin .mul (.t 19) (.t 20)),oM 22 (.build [(.int .i64 0),(.int .i64 0)] [(0,1,(.t
 17)),(1,1,(.t 21))]),oS (.store true 2 (.t 6) (.t 22) [])] .ret))
theorem ok140:FnOk Try.prog 140 23 1 c140 [.cell 6 true 2]:=⟨_,_,Try.func140,rfl,rfl,by kernel_rfl,by kernel_rfl⟩
theorem bd140:bodied Try.prog 140=true:=by kernel_rfl
def c141:CI:=(oR [oM 1 (.box 0 true (.t 0)),oM 2 (.mv (.c (.lit (.nilFunc))))] (oR [oM 3 (.mkfn 162 [(.t 1)]),oV 2 3] .ret))
theorem ok141:FnOk Try.prog 141 4 1 c141 [.t 2]:=⟨_,_,Try.func141,rfl,rfl,by kernel_rfl,by kernel_rfl⟩
theorem bd141:bodied Try.prog 141=true:=by kernel_rfl
def c142:CI:=(oR [oM 2 (.box 0 true (.t 0)),oM 3 (.box 1 true (.t 1)),oM 4 (.mv (.c (.bool false)))] (oR [oF 5 0 2,oL 6 5,oF 7
 1 3,oL 8 7,oM 9 (.bin .mul (.t 6) (.t 8)),oF 10 0 3,oL 11 10,oF 12 1 2,oL 13 12,oM 14 (.bin .mul (.t 11) (.t 13)),oM 15 (.bin .lss (.t 9) (.t 14)),
 oV 4 15] .ret))
theorem ok142:FnOk Try.prog 142 16 2 c142 [.t 4]:=⟨_,_,Try.func142,rfl,rfl,by kernel_rfl,by kernel_rfl⟩
theorem bd142:bodied Try.prog 142=true:=by kernel_rfl
def c143:CI:=(oR [oM 4 (.mv (oK 0))] (.seq (.block 0 (.loop (.seq (oR [oV 5 0,oM 6 (.bin .neq (.t 5) (oK 0))] (.cond (.t 6) .skip
 (.exit 0))) (.block 1 (.reg [oV 7 1,oV 8 0,oM 9 (.bin .rem (.t 7) (.t 8)),oV 10 0,oV 0 9,oV 1 10]))))) (oR [oV 11 1,oV 4 11] .ret)))
theorem ok143:FnOk Try.prog 143 12 0 c143 [.t 4]:=⟨_,_,Try.func143,rfl,rfl,by kernel_rfl,by kernel_rfl⟩
theorem bd143:bodied Try.prog 143=true:=by kernel_rfl
def c144:CI:=(oR [oM 1 (.box 0 true (.t 0)),oM 2 (.mv (.c (.bool false)))] (.seq (oR [oF 5 0 1,oL 6 5,oN 7 6,oM 8 (.bin .lss (.t
 7) (oK 1)),oV 9 8,oG 9 false (oF 10 0 1),oG 9 false (oL 11 10),oG 9 false (oN 12 11),oG 9 false (oM 13 (.bin .gtr (.t 12) (oK 3))),oM 14 (.pick (.t
 9) (.c (.bool true)) (.t 13))] (.cond (.t 14) (oR [oM 2 (.mv (.c (.bool false)))] .ret) .skip)) (.seq (oR [oF 15 0 1,oL 16 15,oN 17
 16,oM 18 (.mv (oK 0))] (.block 0 (.loop (oR [oM 19 (.bin .lss (.t 18) (.t 17))] (.seq (.cond (.t 19) .skip (.exit 0)) (.seq (.block 1 (oR [oI 20 7 16 18,oW 21 7 20,oM 4 (.alloc 1 [(.int .i64 0),(.int .i64 0),(.int .i64 0),(.int .i64 0),(.int .i64 0),(.int .i64 0),(.int .i64
 0)]),oS (.store true 7 (.t 4) (.t 21) [])] (oR [oW 22 7 4,oM 23 (.call 163 [(.t 22)]),oM 24 (.un .not (.t 23))] (.cond (.t 24) (oR [oM 2 (.mv (.c (.bool false)))] .ret) .skip)))) (.reg [oM 25 (.bin .add (.t 18) (oK 1)),oV 18 25]))))))) (oR [oF 26 1 1,oL 27 26,oF 28 2 1,
 oL 29 28,oM 30 (.build [(.int .i64 0),(.int .i64 0)] [(0,1,(.t 27)),(1,1,(.t 29))]),oM 31 (.call 164 [(.t 30),(oK 200)]),oV 32 31,oG 32 true
 (oF 33 3 1),oG 32 true (oW 34 2 33),oG 32 true (oM 35 (.call 165 [(.t 34)])),oM 36 (.pick (.t 32) (.t 35) (.c (.bool false))),oV 37 36,oG 37 true
 (oF 38 5 1),oG 37 true (oL 39 38),oG 37 true (oM 40 (.call 139 [(.t 39),(oK 0),(oK 4000)])),oM 41 (.pick (.t 37) (.t 40) (.c (.bool false))),oV 42
 41,oG 42 true (oF 43 6 1),oG 42 true (oL 44 43),oG 42 true (oM 45 (.call 139 [(.t 44),(oK 0),(oK 4000)])),oM 46 (.pick (.t 42) (.t 45) (.c (.bool
 false))),oV 2 46] .ret))))
theorem ok144:FnOk Try.prog 144 47 2 c144 [.t 2]:=⟨_,_,Try.func144,rfl,rfl,by kernel_rfl,by kernel_rfl⟩
theorem bd144:bodied Try.prog 144=true:=by kernel_rfl
def c145:CI:=(oR [oM 4 (.box 0 false (.t 0)),oM 5 (.box 1 false (.t 1)),oM 6 (.alloc 2 [(.bool false)])] (.seq (oR [oW 8 7 2,oM
 9 (.callw 3 0 146 [(.t 8)])] (.block 0 (.rng (.t 9) [10] (.reg [oV 7 10]) (.block 1 (oR [oW 11 7 2,oL 12 3,oV 13 7,oL 15 4,oL 16 5,oM 14
 (.callz 3 0 109 [(.t 11),(.t 12),(.t 13)] []),oM 17 (.callv (.t 14) [(.t 15),(.t 16)])] (.cond (.t 17) (oR [oS (.store false 1 (.t 6) (.c
 (.bool true)) [])] .ret) .skip)))))) (oR [oS (.store false 1 (.t 6) (.c (.bool false)) [])] .ret)))
theorem ok145:FnOk Try.prog 145 18 3 c145 [.cell 6 false 1]:=⟨_,_,Try.func145,rfl,rfl,by kernel_rfl,by kernel_rfl⟩
theorem bd145:bodied Try.prog 145=true:=by kernel_rfl
def c146:CI:=(oR [oM 1 (.box 0 true (.t 0)),oM 2 (.mv (.c (.lit (.nilFunc))))] (oR [oM 3 (.mkfn 166 [(.t 1)]),oV 2 3] .ret))
theorem ok146:FnOk Try.prog 146 4 1 c146 [.t 2]:=⟨_,_,Try.func146,rfl,rfl,by kernel_rfl,by kernel_rfl⟩
theorem bd146:bodied Try.prog 146=true:=by kernel_rfl
def c147:CI:=(oR [oM 7 (.mv (.c (.bool false)))] (.seq (oR [oL 9 2,oM 10 (.bin .eql (.t 9) (oK 0))] (.cond (.t 10) (oR [oM
 7 (.mv (.c (.bool true)))] .ret) .skip)) (oR [oL 11 2,oV 12 0,oV 13 1,oM 14 (.call 140 [(.t 11),(.t 12),(.t 13)]),oM 8 (.alloc 0 [(.int
 .i64 0),(.int .i64 0)]),oS (.store true 2 (.t 8) (.t 14) [])] (oR [oW 15 2 8,oW 16 2 3,oM 17 (.call 142 [(.t 15),(.t 16)]),oM 18 (.un .not
 (.t 17)),oV 19 18,oG 19 false (oW 20 2 4),oG 19 false (oW 21 2 8),oG 19 false (oM 22 (.call 142 [(.t 20),(.t 21)])),oG 19 false (oM 23 (.un .not
 (.t 22))),oM 24 (.pick (.t 19) (.c (.bool true)) (.t 23)),oV 7 24] .ret))))
theorem ok147:FnOk Try.prog 147 25 1 c147 [.t 7]:=⟨_,_,Try.func147,rfl,rfl,by kernel_rfl,by kernel_rfl⟩
theorem bd147:bodied Try.prog 147=true:=by kernel_rfl
def c148:CI:=(oR [oM 2 (.mv (.c (.bool false)))] (oR [oV 3 0,oM 4 (.call 114 [(.t 3),(oK 0),(oK 9)]),oV 2 4] .ret))
theorem ok148:FnOk Try.prog 148 5 0 c148 [.t 2]:=⟨_,_,Try.func148,rfl,rfl,by kernel_rfl,by kernel_rfl⟩
theorem bd148:bodied Try.prog 148=true:=by kernel_rfl
def c149:CI:=(oR [oM 1 (.box 0 true (.t 0)),oM 2 (.mv (.c (.bool false)))] (oR [oF 3 0 1,oL 4 3,oF 5 1 1,oL 6 5,oM 7 (.call 114
 [(.t 4),(oK 0),(.t 6)]),oV 8 7,oG 8 true (oF 9 1 1),oG 8 true (oL 10 9),oG 8 true (oM 11 (.bin .leq (.t 10) (oK 999))),oM 12 (.pick (.t 8) (.t 11)
 (.c (.bool false))),oV 2 12] .ret))
theorem ok149:FnOk Try.prog 149 13 1 c149 [.t 2]:=⟨_,_,Try.func149,rfl,rfl,by kernel_rfl,by kernel_rfl⟩
theorem bd149:bodied Try.prog 149=true:=by kernel_rfl
def c150:CI:=(oR [oM 4 (.mv (.c (.bool false)))] (.seq (oR [oV 7 0,oN 8 7,oM 9 (.mv (oK 0))] (.block 0 (.loop (oR [oM 10
 (.bin .lss (.t 9) (.t 8))] (.seq (.cond (.t 10) .skip (.exit 0)) (.seq (.block 1 (oR [oI 11 4 7 9,oW 12 4 11,oM 6 (.alloc 0 [(.int .i64 0),
 .nils,(.int .i64 0),(.int .i64 0)]),oS (.stz true 4 (.t 6) (.t 12) [])] (oR [oV 13 1,oW 14 4 6,oM 15 (.callx (.t 13) [(.t 14)]),oM 16 (.un
 .not (.t 15))] (.cond (.t 16) (oR [oM 4 (.mv (.c (.bool false)))] .ret) .skip)))) (.reg [oM 17 (.bin .add (.t 9) (oK 1)),oV 9 17]))))))) (oR [oM 4 (.mv (.c (.bool true)))] .ret)))
theorem ok150:FnOk Try.prog 150 18 1 c150 [.t 4]:=⟨_,_,Try.func150,rfl,rfl,by kernel_rfl,by kernel_rfl⟩
theorem bd150:bodied Try.prog 150=true:=by kernel_rfl
def c151:CI:=(oR [oM 1 (.box 0 true (.t 0)),oM 2 (.mv (.c (.bool false)))] (oR [oF 3 0 1,oL 4 3,oM 5 (.call 148 [(.t 4)]),oV 6
 5,oG 6 true (oF 7 1 1),oG 6 true (oL 8 7),oG 6 true (oN 9 8),oG 6 true (oM 10 (.bin .leq (.t 9) (oK 4))),oM 11 (.pick (.t 6) (.t 10) (.c (.bool false))),
 oV 12 11,oG 12 true (oF 13 1 1),oG 12 true (oL 14 13),oG 12 true (oM 15 (.call 127 [(.t 14),(.c (.fn 148 []))])),oM 16 (.pick (.t 12) (.t 15) (.c
 (.bool false))),oV 17 16,oG 17 true (oF 18 1 1),oG 17 true (oL 19 18),oG 17 true (oM 20 (.call 126 [(.t 19)])),oM 21 (.pick (.t 17) (.t 20) (.c (.bool
 false))),oV 22 21,oG 22 true (oF 23 2 1),oG 22 true (oW 24 2 23),oG 22 true (oM 25 (.call 149 [(.t 24)])),oM 26 (.pick (.t 22) (.t 25) (.c (.bool
 false))),oV 2 26] .ret))
theorem ok151:FnOk Try.prog 151 27 1 c151 [.t 2]:=⟨_,_,Try.func151,rfl,rfl,by kernel_rfl,by kernel_rfl⟩
theorem bd151:bodied Try.prog 151=true:=by kernel_rfl
def c152:CI:=(oR [oM 4 (.mv (oK 0))] (.seq (oR [oV 6 0,oN 7 6,oM 8 (.mv (oK 0))] (.block 0 (.loop (oR [oM 9 (.bin .lss
 (.t 8) (.t 7))] (.seq (.cond (.t 9) .skip (.exit 0)) (.seq (.block 1 (oR [oV 10 8,oV 5 10] (oR [oV 11 1,oV 12 0,oV 13 5,oI 14 4 12
 13,oW 15 4 14,oM 16 (.callx (.t 11) [(.t 15)])] (.cond (.t 16) (oR [oV 17 5,oV 4 17] .ret) .skip)))) (.reg [oM 18 (.bin .add (.t 8) (oK 1)),
 oV 8 18]))))))) (oR [oM 4 (.mv (oK (-1)))] .ret)))
theorem ok152:FnOk Try.prog 152 19 0 c152 [.t 4]:=⟨_,_,Try.func152,rfl,rfl,by kernel_rfl,by kernel_rfl⟩
theorem bd152:bodied Try.prog 152=true:=by kernel_rfl
def c153:CI:=(oR [oM 3 (.box 0 true (.t 1)),oM 4 (.mv (oK 0))] (.seq (oR [oV 6 0,oN 7 6,oM 8 (.mv (oK 0))] (.block 0 (.loop (oR [oM 9 (.bin .lss (.t 8) (.t 7))] (.seq (.cond (.t 9) .skip (.exit 0)) (.seq (.block 1 (oR [oV 10 8,oV 5 10] (oR [oW 11 4 3,oV
 12 0,oV 13 5,oI 14 4 12 13,oW 15 4 14,oM 16 (.eqs false (.node [(0,1,(.leaf true)),(1,1,(.leaf true)),(2,1,(.leaf true)),(3,1,(.leaf true))])
 (.t 11) (.t 15))] (.cond (.t 16) (oR [oV 17 5,oV 4 17] .ret) .skip)))) (.reg [oM 18 (.bin .add (.t 8) (oK 1)),oV 8 18]))))))) (oR [oM
 4 (.mv (oK (-1)))] .ret)))
theorem ok153:FnOk Try.prog 153 19 1 c153 [.t 4]:=⟨_,_,Try.func153,rfl,rfl,by kernel_rfl,by kernel_rfl⟩
theorem bd153:bodied Try.prog 153=true:=by kernel_rfl
def c154:CI:=(oR [oM 3 (.box 0 true (.t 1)),oM 4 (.mv oZ)] (.seq (oR [oF 5 0 3,oL 6 5,oF 7 1 3,oL 8 7,oM 9 (.bin .gtr (.t 6)
 (.t 8))] (.cond (.t 9) (oR [oV 10 0,oV 4 10] .ret) .skip)) (oR [oV 11 0,oW 12 2 3,oM 13 (.bsl 1 35 2 [(.t 12)] []),oM 14 (.apd 2
 35 2 16 (.t 11) (.t 13) []),oV 4 14] .ret)))
theorem ok154:FnOk Try.prog 154 15 3 c154 [.t 4]:=⟨_,_,Try.func154,rfl,rfl,by kernel_rfl,by kernel_rfl⟩
theorem bd154:bodied Try.prog 154=true:=by kernel_rfl
def c162:CI:=(oR [oF 5 0 1,oF 6 0 5,oL 7 6,oV 3 7] (.block 0 (.loop (.seq (oR [oV 8 3,oF 9 0 1,oF 10 1 9,oL 11 10,oM 12 (.bin
 .leq (.t 8) (.t 11))] (.cond (.t 12) .skip (.exit 0))) (.seq (.block 1 (oR [oF 15 2 1,oF 16 0 15,oL 17 16,oV 4 17] (.block 2 (.loop (.seq
 (oR [oV 18 4,oF 19 2 1,oF 20 1 19,oL 21 20,oM 22 (.bin .leq (.t 18) (.t 21))] (.cond (.t 22) .skip (.exit 2))) (.seq (.block 3 (oR [oV 25 0,oV 26 3,oV 27 4,oM 28 (.callx (.t 25) [(.t 26),(.t 27)]),oM 29 (.un .not (.t 28))] (.cond (.t 29) .ret .skip))) (.reg [oV 23 4,oM 24 (.bin
 .add (.t 23) (oK 1)),oV 4 24]))))))) (.reg [oV 13 3,oM 14 (.bin .add (.t 13) (oK 1)),oV 3 14]))))))
theorem ok162:FnOk Try.prog 162 30 0 c162 []:=⟨_,_,Try.func162,rfl,rfl,by kernel_rfl,by kernel_rfl⟩
theorem bd162:bodied Try.prog 162=true:=by kernel_rfl
def c163:CI:=(oR [oM 1 (.box 0 true (.t 0)),oM 2 (.mv (.c (.bool false)))] (oR [oF 3 0 1,oW 4 2 3,oM 5 (.call 164 [(.t 4),(oK
 6)]),oV 6 5,oG 6 true (oF 7 2 1),oG 6 true (oW 8 2 7),oG 6 true (oM 9 (.call 164 [(.t 8),(oK 6)])),oM 10 (.pick (.t 6) (.t 9) (.c (.bool false))),
 oV 11 10,oG 11 true (oF 12 4 1),oG 11 true (oL 13 12),oG 11 true (oM 14 (.call 139 [(.t 13),(oK 0),(oK 2000)])),oM 15 (.pick (.t 11) (.t 14) (.c
 (.bool false))),oV 16 15,oG 16 true (oF 17 5 1),oG 16 true (oW 18 2 17),oG 16 true (oM 19 (.call 165 [(.t 18)])),oM 20 (.pick (.t 16) (.t 19) (.c
 (.bool false))),oV 2 20] .ret))
theorem ok163:FnOk Try.prog 163 21 1 c163 [.t 2]:=⟨_,_,Try.func163,rfl,rfl,by kernel_rfl,by kernel_rfl⟩
theorem bd163:bodied Try.prog 163=true:=by kernel_rfl
def c164:CI:=(oR [oM 2 (.box 0 true (.t 0)),oM 4 (.mv (.c (.bool false)))] (oR [oF 5 0 2,oL 6 5,oF 7 1 2,oL 8 7,oM 9 (.call 139
 [(.t 6),(oK 1),(.t 8)]),oV 10 9,oG 10 true (oF 11 1 2),oG 10 true (oL 12 11),oG 10 true (oM 13 (.bin .leq (.t 12) (oK 2000))),oM 14 (.pick (.t 10)
 (.t 13) (.c (.bool false))),oV 15 14,oG 15 true (oF 16 1 2),oG 15 true (oL 17 16),oG 15 true (oF 18 0 2),oG 15 true (oL 19 18),oG 15 true (oM 20
 (.bin .sub (.t 17) (.t 19))),oG 15 true (oV 21 1),oG 15 true (oM 22 (.bin .leq (.t 20) (.t 21))),oM 23 (.pick (.t 15) (.t 22) (.c (.bool false))),oV
 4 23] .ret))
theorem ok164:FnOk Try.prog 164 24 1 c164 [.t 4]:=⟨_,_,Try.func164,rfl,rfl,by kernel_rfl,by kernel_rfl⟩
theorem bd164:bodied Try.prog 164=true:=by kernel_rfl
def c165:CI:=(oR [oM 1 (.box 0 true (.t 0)),oM 2 (.mv (.c (.bool false)))] (oR [oF 3 1 1,oL 4 3,oM 5 (.call 139 [(.t 4),(oK 1),
 (oK 20)]),oV 6 5,oG 6 true (oF 7 0 1),oG 6 true (oL 8 7),oG 6 true (oF 9 1 1),oG 6 true (oL 10 9),oG 6 true (oM 11 (.call 139 [(.t 8),(oK 0),(.t
 10)])),oM 12 (.pick (.t 6) (.t 11) (.c (.bool false))),oV 2 12] .ret))
theorem ok165:FnOk Try.prog 165 13 1 c165 [.t 2]:=⟨_,_,Try.func165,rfl,rfl,by kernel_rfl,by kernel_rfl⟩
theorem bd165:bodied Try.prog 165=true:=by kernel_rfl
def c166:CI:=(oR [oF 4 2 1,oL 5 4,oV 3 5] (.block 0 (.loop (.seq (oR [oV 6 3,oF 7 1 1,oL 8 7,oM 9 (.bin .geq (.t 6) (.t 8))]
 (.cond (.t 9) .skip (.exit 0))) (.seq (.block 1 (oR [oV 12 0,oV 13 3,oM 14 (.callx (.t 12) [(.t 13)]),oM 15 (.un .not (.t 14))] (.cond (.t
 15) .ret .skip))) (.reg [oV 10 3,oM 11 (.bin .sub (.t 10) (oK 1)),oV 3 11]))))))
theorem ok166:FnOk Try.prog 166 16 0 c166 []:=⟨_,_,Try.func166,rfl,rfl,by kernel_rfl,by kernel_rfl⟩
theorem bd166:bodied Try.prog 166=true:=by kernel_rfl
end Go.Proofs
