/- The engine of these proofs, part 3 of 4: abstract values and states, the walk of a function's body as a program on them, and why that walk is sound for the model. It speaks of any program. -/
import Derived.Test.YtnppglfoolchdaaGreatEng2
set_option linter.unusedSimpArgs false
set_option linter.unusedVariables false
set_option linter.unusedSectionVars false
namespace Go.Eng
open Go.RowKit
def Ixo.opds:Ixo->List Opd
 |.mv x=>[x]
 |.pick c a b=>[c,a,b]
 |.alloc _ _=>[]
 |.mks _ _ _ _ _ x y=>[x,y]
 |.box _ _ x=>[x]
 |.build _ ps=>ps.map fun p=>p.2.2
 |.load _ _ a=>[a]
 |.store _ _ a x ne=>a::x::ne
 |.bin _ x y=>[x,y]
 |.eqb _ x y=>[x,y]
 |.eqs _ _ x y=>[x,y]
 |.un _ x=>[x]
 |.conv _ x=>[x]
 |.faddr _ x=>[x]
 |.field _ _ _ x=>[x]
 |.iaddr _ x i=>[x,i]
 |.mkfn _ xs=>xs
 |.mkmt _ xs=>xs
 |.extract _ x=>[x]
 |.call _ xs=>xs
 |.callv g xs=>g::xs
 |.len x=>[x]
 |.slen x=>[x]
 |.mm _ xs=>xs
 |.bsl _ _ _ ps ne=>ps++ne
 |.apd _ _ _ _ x y ne=>x::y::ne
 |.callz _ _ _ xs ne=>xs++ne
 |.callw _ _ _ xs=>xs
 |.callx g xs=>g::xs
 |.aidx _ _ _ x i=>[x,i]
 |.sidx x i=>[x,i]
 |.pur _ xs=>xs
 |.b2s x=>[x]
 |.sli _ x lo hi=>x::(lo.toList++hi.toList)
 |.sl3 _ x hi mx=>[x,hi,mx]
 |.eqn _ x=>[x]
 |.nilck x=>[x]
 |.mkm _=>[]
 |.mko _=>[]
 |.paddr _ _ x i=>[x,i]
 |.mpu _ m x v ne=>m::x::v::ne
 |.mrg _ m ne=>m::ne
 |.srg _ x=>[x]
 |.mnx x=>[x]
 |.mrx _ m=>[m]
 |.mnz x=>[x]
 |.mkx _=>[]
 |.mez x=>[x]
 |.mpe _ _ m x ne=>m::x::ne
 |.mes m st v ne=>m::st::v::ne
 |.snx x=>[x]
 |.men x=>[x]
 |.lkp _ _ _ m x=>[m,x]
 |.mlen x=>[x]
 |.stz _ _ a x ne=>a::x::ne
def Ixo.cls:Ixo->Nat
 |.alloc _ _ | .mks _ _ _ _ _ _ _ | .box _ _ _ | .load _ _ _ | .len _ | .iaddr _ _ _=>1
 |.call _ _ | .callv _ _=>2
 |.store _ _ _ _ _=>3
 |.bsl _ _ _ _ _ | .apd _ _ _ _ _ _ _=>4
 |.callz _ _ _ _ _=>5
 |.callw _ _ _ _=>5
 |.callx _ _=>5
 |.mkm _ | .mko _ | .men _ | .lkp _ _ _ _ _ | .mlen _ | .b2s _ | .sli _ _ _ _=>1
 |.mpu _ _ _ _ _ | .mrg _ _ _ | .stz _ _ _ _ _=>4
 |.mnx _=>5
 |.mrx _ _=>5
 |.mnz _=>5
 |.mkx _=>5
 |.mez _=>5
 |.mpe _ _ _ _ _ | .mes _ _ _ _=>4
 |.snx _=>5
 |.srg _ _=>1
 |_=>0
def Ixo.aopds:Ixo->List Opd
 |.load _ _ a=>[a]
 |.store _ _ a _ _=>[a]
 |.len x=>[x]
 |.b2s x=>[x]
 |.sli _ x _ _=>[x]
 |.iaddr _ x _=>[x]
 |.call _ xs=>xs
 |.callv g xs=>g::xs
 |.bsl _ _ _ ps _=>ps
 |.apd _ _ _ _ x y _=>[x,y]
 |.callz _ _ _ xs _=>xs
 |.callw _ _ _ xs=>xs
 |.callx g xs=>g::xs
 |.mpu _ m _ v _=>[m,v]
 |.mrg _ m _=>[m]
 |.mnx x=>[x]
 |.mrx _ m=>[m]
 |.mnz x=>[x]
 |.mez x=>[x]
 |.mpe _ _ m _ _=>[m]
 |.mes m _ _ _=>[m]
 |.snx x=>[x]
 |.men x=>[x]
 |.lkp _ _ _ m _=>[m]
 |.mlen x=>[x]
 |.stz _ _ a x _=>[a,x]
 |_=>[]
def Ixo.nes:Ixo->List Opd
 |.store _ _ _ _ ne=>ne
 |.bsl _ _ _ _ ne=>ne
 |.apd _ _ _ _ _ _ ne=>ne
 |.callz _ _ _ _ ne=>ne
 |.mpu _ _ _ _ ne=>ne
 |.mrg _ _ ne=>ne
 |.mpe _ _ _ _ ne=>ne
 |.mes _ _ _ ne=>ne
 |.stz _ _ _ _ ne=>ne
 |_=>[]
def Ixo.names:Ixo->List Nat
 |.alloc nm _=>[nm]
 |.mks nm _ _ _ _ _ _=>[nm]
 |.box nm _ _=>[nm]
 |.bsl nm _ _ _ _=>[nm]
 |.apd nm _ _ _ _ _ _=>[nm]
 |.callz nm ct _ _ _=>List.range' nm ct
 |.callw nm ct _ _=>List.range' nm ct
 |.mkm nm=>[nm]
 |.mko nm=>[nm]
 |.srg nm _=>[nm]
 |.mrg nm _ _=>[nm]
 |.mrx nm _=>[nm]
 |.mkx nm=>[nm]
 |_=>[]
def Ixo.hard:Ixo->Bool
 |.store _ _ _ _ _=>true
 |.apd _ _ _ _ _ _ _=>true
 |.mpu _ _ _ _ _=>true
 |.mnx _=>true
 |.mpe _ _ _ _ _=>true
 |.mes _ _ _ _=>true
 |.snx _=>true
 |.stz _ _ _ _ _=>true
 |.callw _ _ _ _=>true
 |.callx _ _=>true
 |.mrx _ _=>true
 |.mnz _=>true
 |.mkx _=>true
 |.mez _=>true
 |_=>false
def Ixo.isW:Ixo->Bool
 |.callw _ _ _ _=>true
 |.callx _ _=>true
 |.mrx _ _=>true
 |.mnz _=>true
 |.mkx _=>true
 |.mez _=>true
 |_=>false
structure Agr(keep:Nat->Bool)(s r:St)(z:Ixo):Prop where
 ev:∀p∈z.opds,r.ev p=s.ev p
 sg:2<=z.cls->∀i,keep i=true->r.sg[i]?=s.sg[i]?
 sg1:z.cls=1->∀i,keep i=true->(r.sg[i]?).map Res.ice=(s.sg[i]?).map Res.ice
 rf:∀p∈z.aopds,∀v,s.ev p=some v->v.refsIn keep=true
 bx:z.cls=2->∀i,keep i=true->AV.refsInL keep (s.sg.getD i .fresh).cellsOf=true
 nm:∀i,i∈z.names->keep i=true
 gh:z.cls=2->r.gh=s.gh
theorem evl_agr{s r:St}:∀ {ps:List Opd},(∀p∈ps,r.ev p=s.ev p)->r.evl ps=s.evl ps
 | [],_=>rfl
 |p::ps,h=>by simp only[St.evl,h p (by simp),evl_agr (ps:=ps) (fun q hq=>h q (by simp[hq]))]
theorem evl_refs{keep:Nat->Bool}{s:St}:∀ {ps:List Opd} {vs:List AV},s.evl ps=some vs->(∀p∈ps,∀v,s.ev p=some v->v.refsIn keep=true)->AV.refsInL keep vs=true
 | [],vs,h,_=>by simp only[St.evl,Option.some.injEq]at h;subst h;rfl
 |p::ps,vs,h,hr=>by
  simp only[St.evl]at h
  split at h
  ·rename_i v vs' h1 h2
   cases h
   simp only[AV.refsInL,Bool.and_eq_true]
   exact⟨hr p (by simp) v h1,evl_refs h2 (fun q hq=>hr q (by simp[hq]))⟩
  ·cases h
theorem build_agr{s r:St}:∀(ps:List (Nat × Nat × Opd)) (zs:List AV),(∀p∈ps.map (fun p=>p.2.2),r.ev p=s.ev p)->evX.evBuild r zs ps=evX.evBuild s zs ps
 | [],zs,_=>rfl
 |(off,n,x)::ps,zs,h=>by
  have h1:=h x (by simp)
  have h2:∀zs,evX.evBuild r zs ps=evX.evBuild s zs ps:=fun zs=>build_agr ps zs (fun p hp=>h p (by simp only[List.map_cons,List.mem_cons];exact .inr hp))
  simp only[evX.evBuild,h1,h2]
theorem getD_of_get?{sg sg':List Res}{i:Nat}(h:sg'[i]?=sg[i]?)(d:Res):sg'.getD i d=sg.getD i d:=by
 simp only[List.getD_eq_getElem?_getD,h]
theorem mapO_agr{keep:Nat->Bool}{f g:AV->Option AV}(h:∀v,v.refsIn keep=true->g v=f v):∀(as:List AV),AV.refsInL keep as=true->mapO g as=mapO f as
 | [],_=>rfl
 |a::as,hr=>by
  simp only[AV.refsInL,Bool.and_eq_true]at hr
  simp only[mapO,h a hr.1,mapO_agr h as hr.2]
theorem frz_agr{keep:Nat->Bool}{sg sg':List Res}(h1:∀i,keep i=true->sg'[i]?=sg[i]?)(h2:∀i,keep i=true->AV.refsInL keep (sg.getD i .fresh).cellsOf=true) :
  ∀(n:Nat) (v:AV),v.refsIn keep=true->AV.frz sg' n v=AV.frz sg n v:=by
 intro n
 induction n with
 |zero=>intro v _;rfl
 |succ n ih=>
  intro v hv
  cases v with
  |agg cs=>simp only[AV.frz,mapO_agr ih cs (by simpa only[AV.refsIn]using hv)]
  |tup cs=>simp only[AV.frz,mapO_agr ih cs (by simpa only[AV.refsIn]using hv)]
  |fn f cs=>simp only[AV.frz,mapO_agr ih cs (by simpa only[AV.refsIn]using hv)]
  |own i off=>
   have hk:keep i=true:=hv
   have h3:=h2 i hk
   simp only[AV.frz,getD_of_get? (h1 i hk)]
   cases hr:sg.getD i .fresh with
   |box ice cs=>rw[hr]at h3;simp only[mapO_agr ih cs h3]
   |_=>rfl
  |row i=>
   have hk:keep i=true:=hv
   have h3:=h2 i hk
   simp only[AV.frz,getD_of_get? (h1 i hk)]
   cases hr:sg.getD i .fresh with
   |mpo ks us=>rw[hr]at h3;simp only[mapO_agr ih us h3]
   |_=>rfl
  |cut i _ _ _=>
   have hk:keep i=true:=hv
   simp only[AV.frz,getD_of_get? (h1 i hk)]
  |_=>rfl
theorem AV.has_keep{keep:Nat->Bool}{v:AV}(h:v.refsIn keep=true){i:Nat}(hi:v.has i=true):keep i=true:=by
 cases hk:keep i with
 |true=>rfl
 |false=>
  have:v.refsIn (fun j=>j != i)=true:=AV.refsIn_mono v (fun j _ hj=>by simp only[bne_iff_ne,ne_eq];rintro rfl;rw[hk]at hj;cases hj) h
  simp[AV.has,this]at hi
theorem apartV_ok{v u:AV}(h:apartV v u=true){i:Nat}(hv:v.has i=true):u.has i=false:=by
 have:(u.refsIn fun j=>j != i)=true:=AV.has_keep h hv
 simp[AV.has,this]
theorem apartVs_ok{v:AV}:∀ {us:List AV},apartVs v us=true->∀u∈us,∀ {i:Nat},v.has i=true->u.has i=false
 | [],_,u,hu,_,_=>by cases hu
 |u::us,h,x,hx,i,hi=>by
  simp only[apartVs,Bool.and_eq_true]at h
  rcases List.mem_cons.1 hx with rfl|hx
  ·exact apartV_ok h.1 hi
  ·exact apartVs_ok h.2 x hx hi
theorem pu_refs{keep:Nat->Bool}:∀(n:Nat),(∀v:AV,SizeOf.sizeOf v<n->v.pu=true->v.refsIn keep=true)/\(∀as:List AV,SizeOf.sizeOf as<n->AV.puL as=true->AV.refsInL keep as=true):=by
 intro n
 induction n with
 |zero=>exact⟨fun _ h=>by omega,fun _ h=>by omega⟩
 |succ n ih=>
  constructor
  ·intro v hs hp
   cases v<;>simp only[AV.refsIn,AV.pu]at hp⊢<;>first|cases hp|(apply ih.2 _ _ hp;simp at hs;omega)|skip
  ·intro as hs hp
   cases as with
   |nil=>rfl
   |cons a as=>
    simp only[AV.refsInL,AV.puL,Bool.and_eq_true]at hp⊢
    simp at hs
    exact⟨ih.1 a (by omega) hp.1,ih.2 as (by omega) hp.2⟩
theorem pu_refs'{keep:Nat->Bool}(v:AV)(h:v.pu=true):v.refsIn keep=true:=(pu_refs (SizeOf.sizeOf v+1)).1 v (by omega) h
theorem mapPu_agr{f g:AV->Option AV}(h:∀v,v.pu=true->g v=f v):∀as,AV.puL as=true->mapO g as=mapO f as:=fun as=>by
 induction as with
 |nil=>intro _;rfl
 |cons a as ih=>intro hp;simp only[AV.puL,Bool.and_eq_true]at hp;simp only[mapO,h a hp.1,ih hp.2]
theorem frz_pu_agr{sg sg':List Res}:∀(n:Nat) (v:AV),v.pu=true->AV.frz sg' n v=AV.frz sg n v:=by
 have hmap:∀(f g:AV->Option AV),(∀v,v.pu=true->g v=f v)->∀as,AV.puL as=true->mapO g as=mapO f as:=fun f g h as=>by
  induction as with
  |nil=>intro _;rfl
  |cons a as ih=>intro hp;simp only[AV.puL,Bool.and_eq_true]at hp;simp only[mapO,h a hp.1,ih hp.2]
 intro n
 induction n with
 |zero=>intro v _;rfl
 |succ n ih=>
  intro v hv
  cases v with
  |agg cs=>simp only[AV.frz,hmap _ _ ih cs (by simpa only[AV.pu]using hv)]
  |tup cs=>simp only[AV.frz,hmap _ _ ih cs (by simpa only[AV.pu]using hv)]
  |fn f cs=>simp only[AV.frz,hmap _ _ ih cs (by simpa only[AV.pu]using hv)]
  |own _ _=>cases hv
  |row _=>cases hv
  |cut _ _ _ _=>cases hv
  |elt _ _ _ _=>cases hv
  |yld=>cases hv
  |gone=>cases hv
  |_=>rfl
mutual
theorem reach_agr{keep:Nat->Bool}{sg sg':List Res}(h1:∀i,keep i=true->sg'[i]?=sg[i]?):∀v:AV,v.refsIn keep=true->v.reach sg'=v.reach sg
 |.own i off,hk=>by simp only[AV.reach,getD_of_get? (h1 i hk)]
 |.row i,hk=>by simp only[AV.reach,getD_of_get? (h1 i hk)]
 |.cut i _ _ _,hk=>by simp only[AV.reach,getD_of_get? (h1 i hk)]
 |.elt _ _ _ _,_=>rfl
 |.agg cs,hk=>by simp only[AV.reach];exact reachL_agr h1 cs (by simpa only[AV.refsIn]using hk)
 |.tup cs,hk=>by simp only[AV.reach];exact reachL_agr h1 cs (by simpa only[AV.refsIn]using hk)
 |.fn _ cs,hk=>by simp only[AV.reach];exact reachL_agr h1 cs (by simpa only[AV.refsIn]using hk)
 |.bool _,_=>rfl
 |.int _ _,_=>rfl
 |.str _,_=>rfl
 |.lit _,_=>rfl
 |.isl _,_=>rfl
 |.nils,_=>rfl
 |.ipt _,_=>rfl
 |.imp _ _,_=>rfl
 |.tsl _ _,_=>rfl
 |.mth _ _,_=>rfl
 |.any,_=>rfl
 |.yld,_=>rfl
 |.gone,_=>rfl
theorem reachL_agr{keep:Nat->Bool}{sg sg':List Res}(h1:∀i,keep i=true->sg'[i]?=sg[i]?):∀as:List AV,AV.refsInL keep as=true->AV.reachL sg' as=AV.reachL sg as
 | [],_=>rfl
 |a::as,hk=>by
  simp only[AV.refsInL,Bool.and_eq_true]at hk
  simp only[AV.reachL,reach_agr h1 a hk.1,reachL_agr h1 as hk.2]
end
theorem frz_reach_agr{keep:Nat->Bool}{sg sg':List Res}(h1:∀i,keep i=true->sg'[i]?=sg[i]?):∀(n:Nat) (v:AV) (z:List (Nat × Res)),v.reach sg=some z->v.refsIn keep=true->AV.frz sg' n v=AV.frz sg n v:=by
 have hmap:∀(f g:AV->Option AV),(∀v z,v.reach sg=some z->v.refsIn keep=true->g v=f v)->∀(as:List AV) z,AV.reachL sg as=some z->AV.refsInL keep as=true->mapO g as=mapO f as:=fun f g h as=>by
  induction as with
  |nil=>intro _ _ _;rfl
  |cons a as ih=>
   intro z hz hp
   simp only[AV.reachL]at hz
   split at hz<;>cases hz
   rename_i x y k1 k2
   simp only[AV.refsInL,Bool.and_eq_true]at hp;simp only[mapO,h a _ k1 hp.1,ih _ k2 hp.2]
 intro n
 induction n with
 |zero=>intro v z _ _;rfl
 |succ n ih=>
  intro v z hz hv
  cases v with
  |agg cs=>simp only[AV.frz,hmap _ _ ih cs z (by simpa only[AV.reach]using hz) (by simpa only[AV.refsIn]using hv)]
  |tup cs=>simp only[AV.frz,hmap _ _ ih cs z (by simpa only[AV.reach]using hz) (by simpa only[AV.refsIn]using hv)]
  |fn f cs=>simp only[AV.frz,hmap _ _ ih cs z (by simpa only[AV.reach]using hz) (by simpa only[AV.refsIn]using hv)]
  |own i off=>
   have hk:keep i=true:=hv
   simp only[AV.reach]at hz
   simp only[AV.frz,getD_of_get? (h1 i hk)]
   cases hr:sg.getD i .fresh with
   |box ice cs=>
    rw[hr]at hz
    simp only at hz
    split at hz<;>cases hz
    rename_i hpu
    have hm:∀as,AV.puL as=true->mapO (AV.frz sg' n) as=mapO (AV.frz sg n) as:=fun as=>by
     induction as with
     |nil=>intro _;rfl
     |cons a as ih2=>intro hp;simp only[AV.puL,Bool.and_eq_true]at hp;simp only[mapO,frz_pu_agr (sg:=sg) (sg':=sg') n a hp.1,ih2 hp.2]
    simp only[hm cs hpu]
   |_=>rfl
  |row i=>
   have hk:keep i=true:=hv
   simp only[AV.reach]at hz
   simp only[AV.frz,getD_of_get? (h1 i hk)]
   cases hr:sg.getD i .fresh with
   |mpo ks us=>rw[hr]at hz;cases hz
   |_=>rfl
  |cut i _ _ _=>
   have hk:keep i=true:=hv
   simp only[AV.frz,getD_of_get? (h1 i hk)]
  |_=>rfl
theorem frzL_reach_agr{keep:Nat->Bool}{sg sg':List Res}(h1:∀i,keep i=true->sg'[i]?=sg[i]?)(n:Nat):∀(as:List AV) (z:List (Nat × Res)),AV.reachL sg as=some z->AV.refsInL keep as=true->AV.frzL sg' n as=AV.frzL sg n as
 | [],_,_,_=>rfl
 |a::as,z,hz,hp=>by
  simp only[AV.reachL]at hz
  split at hz<;>cases hz
  rename_i x y k1 k2
  simp only[AV.refsInL,Bool.and_eq_true]at hp
  have:=frzL_reach_agr h1 n as _ k2 hp.2
  simp only[AV.frzL,mapO,frz_reach_agr h1 n a _ k1 hp.1]at this⊢
  rw[this]
theorem frzN_reach_agr{keep:Nat->Bool}{sg sg':List Res}(h1:∀i,keep i=true->sg'[i]?=sg[i]?):∀(v:AV) (z:List (Nat × Res)),v.reach sg=some z->v.refsIn keep=true->AV.frzN sg' v=AV.frzN sg v:=fun v z hz hk=>by
 cases v with
 |nils=>rfl
 |_=>exact frz_reach_agr h1 8 _ z hz hk
theorem FrzZ.agr{keep:Nat->Bool}{sg sg':List Res}(h1:∀i,keep i=true->sg'[i]?=sg[i]?){as as':List AV}{z:List (Nat × Res)}(hf:FrzZ sg as as')(hz:AV.reachL sg as=some z)(hk:AV.refsInL keep as=true):FrzZ sg' as as':=by
 rcases hf with hf|hf
 ·exact .inl ((frzL_reach_agr h1 8 as z hz hk).trans hf)
 ·right
  unfold AV.frzNL at hf⊢
  rw[<- hf]
  clear hf
  induction as generalizing z with
  |nil=>rfl
  |cons a as ih=>
   simp only[AV.reachL]at hz
   split at hz<;>cases hz
   rename_i x y k1 k2
   simp only[AV.refsInL,Bool.and_eq_true]at hk
   simp only[mapO,frzN_reach_agr h1 a _ k1 hk.1,ih k2 hk.2]
theorem cellsO_refs{keep:Nat->Bool}{sz:Nat}{v:AV}{cs:List AV}(h:cellsO sz v=some cs)(hk:v.refsIn keep=true):AV.refsInL keep cs=true:=by
 cases v<;>simp only[cellsO]at h<;>split at h<;>cases h<;>simp_all[AV.refsInL,AV.refsIn]
theorem rows_agr{keep:Nat->Bool}{sg sg':List Res}(h1:∀i,keep i=true->sg'[i]?=sg[i]?)(sz:Nat):∀(vs:List AV) (e:List (List AV) × List (Nat × Res)),rowsO sg sz vs=some e->AV.refsInL keep vs=true->rowsO sg' sz vs=some e
 | [],e,h,_=>h
 |v::vs,e,h,hk=>by
  simp only[AV.refsInL,Bool.and_eq_true]at hk
  simp only[rowsO]at h⊢
  split at h
  ·rename_i cs hc
   have hr:=cellsO_refs hc hk.1
   split at h<;>cases h
   rename_i z cs' es zs k1 k2 k3
   simp only[reachL_agr h1 cs hr,frzL_reach_agr h1 8 cs _ k1 hr,k1,k2,rows_agr h1 sz vs _ k3 hk.2]
  ·cases h
theorem src_agr{keep:Nat->Bool}{sg sg':List Res}(h1:∀i,keep i=true->sg'[i]?=sg[i]?){el:TypeId}{sz:Nat}{u:AV}(hk:u.refsIn keep=true):srcO sg' el sz u=srcO sg el sz u:=by
 cases u with
 |row i=>simp only[srcO,getD_of_get? (h1 i hk)]
 |cut i _ _ _=>simp only[srcO,getD_of_get? (h1 i hk)]
 |_=>rfl
theorem add_agr{keep:Nat->Bool}{sg sg':List Res}(h1:∀i,keep i=true->sg'[i]?=sg[i]?){sz:Nat}{u:AV}(hk:u.refsIn keep=true):addO sg' sz u=addO sg sz u:=by
 cases u with
 |row i=>simp only[addO,getD_of_get? (h1 i hk)]
 |lit y=>cases y with
  |slice a n c=>cases a<;>cases n<;>rfl
  |_=>rfl
 |_=>rfl
theorem neL_agr{s r:St}{us:List AV}:∀(ps:List Opd),(∀p∈ps,r.ev p=s.ev p)->neOkL r us ps=neOkL s us ps
 | [],_=>rfl
 |p::ps,h=>by simp only[neOkL,h p (by simp),neL_agr ps (fun q hq=>h q (by simp[hq]))]
theorem ne_agr{s r:St}{i:Nat}:∀(ps:List Opd),(∀p∈ps,r.ev p=s.ev p)->neOk r i ps=neOk s i ps
 | [],_=>rfl
 |p::ps,h=>by simp only[neOk,h p (by simp),ne_agr ps (fun q hq=>h q (by simp[hq]))]
theorem bo_agr{s r:St}{p:Option Opd}(h:∀q,p=some q->r.ev q=s.ev q):boV r p=boV s p:=by
 cases p with
 |none=>rfl
 |some q=>simp only[boV,h q rfl]
def isFresh:Res->Bool
 |.fresh=>true
 |_=>false
theorem isFresh_ok{r:Res}(h:isFresh r=true):r = .fresh:=by cases r<;>simp[isFresh]at h⊢
theorem getD_ice{sg sg':List Res}{i:Nat}(h:(sg'[i]?).map Res.ice=(sg[i]?).map Res.ice):(sg'.getD i .dead).ice=(sg.getD i .dead).ice:=by
 simp only[List.getD_eq_getElem?_getD]
 cases h1:sg'[i]?<;>cases h2:sg[i]?<;>rw[h1,h2]at h<;>simp at h⊢
 exact h
theorem ice_fresh{r:Res}(h:r.ice=Res.fresh.ice):r = .fresh:=by cases r<;>simp[Res.ice]at h⊢
theorem ice_box{r:Res}{b:Bool}{cs:List AV}(h:r.ice=(Res.box b cs).ice):∃b',r = .box b' cs:=by cases r<;>simp[Res.ice]at h⊢;exact h
theorem ice_mp{r:Res}{b:Bool}{ks us:List AV}(h:r.ice=(Res.mp b ks us).ice):∃b',r = .mp b' ks us:=by cases r<;>simp[Res.ice]at h⊢;exact h
theorem ice_mpo{r:Res}{ks us:List AV}(h:r.ice=(Res.mpo ks us).ice):r = .mpo ks us:=by
 cases r<;>simp only[Res.ice]at h<;>cases h<;>rfl
theorem ice_mpb{r:Res}{ks us:List AV}{bn:List Nat}{n:Nat}(h:r.ice=(Res.mpb ks us bn n).ice):r = .mpb ks us bn n:=by
 cases r<;>simp only[Res.ice]at h<;>cases h<;>rfl
theorem ice_itr{r:Res}{ks us last:List AV}{seen:List Nat}(h:r.ice=(Res.itr ks us seen last).ice):r = .itr ks us seen last:=by cases r<;>simp[Res.ice]at h⊢;exact h
theorem ice_row{r:Res}{b:Bool}{el:TypeId}{sz:Nat}{es:List (List AV)}(h:r.ice=(Res.row b el sz es).ice):∃b',r = .row b' el sz es:=by cases r<;>simp[Res.ice]at h⊢;exact h
theorem evX_trans{E:Env}{keep:Nat->Bool}{s r:St}{z:Ixo}{κ : Eff->Prop}(h:Agr keep s r z)(hw:z.isW=true->r.sg=s.sg/\r.gh=s.gh)(hE:evX E z s κ):evX E z r κ :=by
 cases z with
 |mv x=>simpa only[evX,h.ev x (by simp[Ixo.opds])]using hE
 |pick c a b=>simpa only[evX,h.ev c (by simp[Ixo.opds]),h.ev a (by simp[Ixo.opds]),h.ev b (by simp[Ixo.opds])]using hE
 |mks nm el sz bytes zs x y=>
  have hi:=getD_ice (h.sg1 (by simp[Ixo.cls]) nm (h.nm nm (by simp[Ixo.names])))
  simp only[evX,h.ev x (by simp[Ixo.opds]),h.ev y (by simp[Ixo.opds])]at hE⊢
  split at hE
  ·rename_i hf h1 h2
   rw[hf]at hi
   simp only[ice_fresh hi,h1,h2]
   exact hE
  ·exact hE.elim
 |alloc nm zs=>
  have hi:=getD_ice (h.sg1 (by simp[Ixo.cls]) nm (h.nm nm (by simp[Ixo.names])))
  simp only[evX]at hE⊢
  split at hE
  ·rename_i hf
   rw[hf]at hi
   simp only[ice_fresh hi]
   exact hE
  ·exact hE.elim
 |box nm ag x=>
  have hi:=getD_ice (h.sg1 (by simp[Ixo.cls]) nm (h.nm nm (by simp[Ixo.names])))
  simp only[evX,h.ev x (by simp[Ixo.opds])]at hE⊢
  split at hE
  ·rename_i v hv hf
   rw[hf]at hi
   simp only[hv,ice_fresh hi]
   exact hE
  ·exact hE.elim
 |build zs ps=>simpa only[evX,build_agr ps zs h.ev]using hE
 |load ag n a=>
  simp only[evX,h.ev a (by simp[Ixo.opds])]at hE⊢
  split at hE
  ·rename_i i off ha
   have hk:keep i=true:=h.rf a (by simp[Ixo.aopds]) _ ha
   have hi:=getD_ice (h.sg1 (by simp[Ixo.cls]) i hk)
   split at hE
   ·rename_i hr
    rw[hr]at hi
    obtain⟨b,hb⟩:=ice_box hi
    simp only[hb]
    exact hE
   ·exact hE.elim
  ·rename_i i sz m j ha
   have hk:keep i=true:=h.rf a (by simp[Ixo.aopds]) _ ha
   have hi:=getD_ice (h.sg1 (by simp[Ixo.cls]) i hk)
   split at hE
   ·rename_i hr
    rw[hr]at hi
    obtain⟨b,hb⟩:=ice_row hi
    simp only[hb]
    exact hE
   ·exact hE.elim
  ·exact hE
  ·exact hE.elim
 |store ag n a x ne=>
  simp only[evX,h.ev a (by simp[Ixo.opds]),h.ev x (by simp[Ixo.opds]),ne_agr ne (fun p hp=>h.ev p (by simp[Ixo.opds,hp]))]at hE⊢
  split at hE
  ·rename_i i off v ha hx
   have hk:keep i=true:=h.rf a (by simp[Ixo.aopds]) _ ha
   simpa only[getD_of_get? (h.sg (by simp[Ixo.cls]) i hk)]using hE
  ·rename_i i sz m j v ha hx
   have hk:keep i=true:=h.rf a (by simp[Ixo.aopds]) _ ha
   simp only[getD_of_get? (h.sg (by simp[Ixo.cls]) i hk)]
   split at hE
   ·rename_i el sz' es hr
    have hf:∀vs,AV.puL vs=true->AV.frzL r.sg 8 vs=AV.frzL s.sg 8 vs:=fun vs=>by
     unfold AV.frzL
     induction vs with
     |nil=>intro _;rfl
     |cons a as ih=>intro hp;simp only[AV.puL,Bool.and_eq_true]at hp;simp only[mapO,frz_pu_agr (sg:=s.sg) (sg':=r.sg) 8 a hp.1,ih hp.2]
    have key:∀vs,need (vs.all AV.one=true) (if sz'=sz/\vs.length=n/\AV.puL vs=true/\neOk s i ne=true then
      match AV.frzL s.sg 8 vs with
      |some vs'=>iaE es m fun cs=>if j+n<=cs.length then κ (.set i (.row false el sz (es.set m (splice cs j vs')))) else False
      |none=>False
     else False)->need (vs.all AV.one=true) (if sz'=sz/\vs.length=n/\AV.puL vs=true/\neOk s i ne=true then
      match AV.frzL r.sg 8 vs with
      |some vs'=>iaE es m fun cs=>if j+n<=cs.length then κ (.set i (.row false el sz (es.set m (splice cs j vs')))) else False
      |none=>False
     else False):=fun vs hh=>by
     refine⟨hh.1,?_⟩
     have h2:=hh.2
     split at h2
     ·rename_i hc
      rw[if_pos hc,hf vs hc.2.2.1];exact h2
     ·exact h2.elim
    cases ag
    ·exact⟨hE.1,key _ hE.2⟩
    ·simp only[cellsK]at hE⊢
     split at hE
     ·exact key _ hE
     ·exact hE.elim
   ·exact hE.elim
  ·exact hE.elim
 |bin op x y=>simpa only[evX,h.ev x (by simp[Ixo.opds]),h.ev y (by simp[Ixo.opds])]using hE
 |eqb n x y=>simpa only[evX,h.ev x (by simp[Ixo.opds]),h.ev y (by simp[Ixo.opds])]using hE
 |eqs n T x y=>simpa only[evX,h.ev x (by simp[Ixo.opds]),h.ev y (by simp[Ixo.opds])]using hE
 |un op x=>simpa only[evX,h.ev x (by simp[Ixo.opds])]using hE
 |conv kd x=>simpa only[evX,h.ev x (by simp[Ixo.opds])]using hE
 |faddr off x=>simpa only[evX,h.ev x (by simp[Ixo.opds])]using hE
 |field ag n off x=>simpa only[evX,h.ev x (by simp[Ixo.opds])]using hE
 |iaddr sz x i=>
  simp only[evX,h.ev x (by simp[Ixo.opds]),h.ev i (by simp[Ixo.opds])]at hE⊢
  split at hE
  ·exact hE
  ·rename_i j kd n hx hi
   have hk:keep j=true:=h.rf x (by simp[Ixo.aopds]) _ hx
   have hi:=getD_ice (h.sg1 (by simp[Ixo.cls]) j hk)
   split at hE
   ·rename_i hr
    rw[hr]at hi
    obtain⟨b,hb⟩:=ice_row hi
    simp only[hb]
    exact hE
   ·exact hE.elim
  ·rename_i j szc lo m kd n hx hi
   have hk:keep j=true:=h.rf x (by simp[Ixo.aopds]) _ hx
   have hi:=getD_ice (h.sg1 (by simp[Ixo.cls]) j hk)
   split at hE
   ·rename_i hr
    rw[hr]at hi
    obtain⟨b,hb⟩:=ice_row hi
    simp only[hb]
    exact hE
   ·exact hE.elim
  ·exact hE.elim
 |bsl nm el sz ps ne=>
  have e1:=evl_agr (s:=s) (r:=r) (ps:=ps) (fun p hp=>h.ev p (by simp[Ixo.opds,hp]))
  have e2:∀us,neOkL r us ne=neOkL s us ne:=fun us=>neL_agr ne fun p hp=>h.ev p (by simp[Ixo.opds,hp])
  simp only[evX,e1,e2,getD_of_get? (h.sg (by simp[Ixo.cls]) nm (h.nm nm (by simp[Ixo.names])))]at hE⊢
  split at hE
  ·rename_i vs hf hv
   split at hE
   ·rename_i es z hr hn
    simp only[rows_agr (h.sg (by simp[Ixo.cls])) sz vs _ hr (evl_refs hv h.rf),hn]
    exact hE
   ·exact hE.elim
  ·exact hE.elim
 |apd nm el sz b x y ne=>
  have e2:∀us,neOkL r us ne=neOkL s us ne:=fun us=>neL_agr ne fun p hp=>h.ev p (by simp[Ixo.opds,hp])
  simp only[evX,h.ev x (by simp[Ixo.opds]),h.ev y (by simp[Ixo.opds]),e2,getD_of_get? (h.sg (by simp[Ixo.cls]) nm (h.nm nm (by simp[Ixo.names])))]at hE⊢
  split at hE
  ·rename_i u v hf hu hv
   simp only[src_agr (h.sg (by simp[Ixo.cls])) (h.rf x (by simp[Ixo.aopds]) _ hu),add_agr (h.sg (by simp[Ixo.cls])) (h.rf y (by simp[Ixo.aopds]) _ hv)]
   exact hE
  ·exact hE.elim
 |callz nm ct f xs ne=>
  have e1:=evl_agr (s:=s) (r:=r) (ps:=xs) (fun p hp=>h.ev p (by simp[Ixo.opds,hp]))
  have e2:∀us,neOkL r us ne=neOkL s us ne:=fun us=>neL_agr ne fun p hp=>h.ev p (by simp[Ixo.opds,hp])
  simp only[evX,e1,e2]at hE⊢
  split at hE
  ·rename_i vs hv
   split at hE
   ·rename_i hn
    have hfr:freshN r.sg nm ct=true:=freshN_iff.2 fun j hj=>by
     rw[getD_of_get? (h.sg (by simp[Ixo.cls]) (nm+j) (h.nm _ (by simp[Ixo.names,List.mem_range'];exact hj)))]
     exact freshN_iff.1 hn.2 j hj
    rw[if_pos ⟨hn.1,hfr⟩]
    obtain⟨args',z,k1,k2,k3⟩:=hE
    have hr:=evl_refs hv h.rf
    exact⟨args',z,(reachL_agr (h.sg (by simp[Ixo.cls])) vs hr).trans k1,FrzZ.agr (h.sg (by simp[Ixo.cls])) k2 k1 hr,k3⟩
   ·exact hE.elim
  ·exact hE.elim
 |callw nm ct f xs=>
  have e1:=evl_agr (s:=s) (r:=r) (ps:=xs) (fun p hp=>h.ev p (by simp[Ixo.opds,hp]))
  simpa only[evX,e1,(hw rfl).1]using hE
 |callx g xs=>simpa only[evX,h.ev g (by simp[Ixo.opds]),evl_agr (ps:=xs) (fun p hp=>h.ev p (by simp[Ixo.opds,hp])),(hw rfl).1,(hw rfl).2]using hE
 |aidx ag n m x i=>simpa only[evX,h.ev x (by simp[Ixo.opds]),h.ev i (by simp[Ixo.opds])]using hE
 |sidx x i=>simpa only[evX,h.ev x (by simp[Ixo.opds]),h.ev i (by simp[Ixo.opds])]using hE
 |pur p xs=>simpa only[evX,evl_agr (ps:=xs) h.ev]using hE
 |b2s x=>
  simp only[evX,h.ev x (by simp[Ixo.opds])]at hE⊢
  split at hE
  ·exact hE
  ·exact hE
  ·rename_i i ha
   have hk:keep i=true:=h.rf x (by simp[Ixo.aopds]) _ ha
   have hi:=getD_ice (h.sg1 (by simp[Ixo.cls]) i hk)
   split at hE
   ·rename_i hr
    rw[hr]at hi
    obtain⟨b,hb⟩:=ice_row hi
    simp only[hb]
    exact hE
   ·exact hE.elim
  ·exact hE.elim
 |mkfn f xs=>simpa only[evX,evl_agr (ps:=xs) h.ev]using hE
 |mkmt f xs=>
  simp only[evX,evl_agr (ps:=xs) h.ev]at hE⊢
  split at hE
  ·rename_i vs hv
   split at hE
   ·rename_i h1 h2
    have h3:AV.frzL r.sg 8 vs=some _:=(mapPu_agr (frz_pu_agr (sg:=s.sg) (sg':=r.sg) 8) vs h1).trans h2
    rw[h1,h3]
    exact hE
   ·exact hE.elim
  ·exact hE.elim
 |extract i x=>simpa only[evX,h.ev x (by simp[Ixo.opds])]using hE
 |call f xs=>
  simp only[evX,evl_agr (ps:=xs) h.ev]at hE⊢
  split at hE
  ·rename_i vs hv
   rcases hE with⟨args',R,h0,h1,h2,h3⟩|⟨args',R,h1,h2,h3⟩
   ·refine .inl ⟨args',R,h0,?_,h2,h3⟩
    rw[<- h1]
    exact mapO_agr (frz_agr (h.sg (by simp[Ixo.cls])) (h.bx (by simp[Ixo.cls])) 8) vs (evl_refs hv h.rf)
   ·refine .inr ⟨args',R,?_,h2,h3⟩
    rw[<- h1]
    exact mapO_agr (frz_agr (h.sg (by simp[Ixo.cls])) (h.bx (by simp[Ixo.cls])) 8) vs (evl_refs hv h.rf)
  ·exact hE.elim
 |callv g xs=>
  simp only[evX,h.ev g (by simp[Ixo.opds]),evl_agr (ps:=xs) (fun p hp=>h.ev p (by simp[Ixo.opds,hp]))]at hE⊢
  split at hE
  ·rename_i gv vs hg hv
   split at hE
   ·rename_i hyl
    rw[h.gh rfl];exact hE
   rename_i hyl
   rcases hE with⟨g',args',R,k0,k1,h0,h1,h2,h3⟩|⟨g',args',R,h0,h1,h2,h3⟩
   ·refine .inl ⟨g',args',R,k0,k1,?_,?_,h2,h3⟩
    ·rw[<- h0]
     exact frz_agr (h.sg (by simp[Ixo.cls])) (h.bx (by simp[Ixo.cls])) 8 gv (h.rf g (by simp[Ixo.aopds]) _ hg)
    ·rw[<- h1]
     exact mapO_agr (frz_agr (h.sg (by simp[Ixo.cls])) (h.bx (by simp[Ixo.cls])) 8) vs (evl_refs hv (fun p hp=>h.rf p (by simp[Ixo.aopds,hp])))
   ·refine .inr ⟨g',args',R,?_,?_,h2,h3⟩
    ·rw[<- h0]
     exact frz_agr (h.sg (by simp[Ixo.cls])) (h.bx (by simp[Ixo.cls])) 8 gv (h.rf g (by simp[Ixo.aopds]) _ hg)
    ·rw[<- h1]
     exact mapO_agr (frz_agr (h.sg (by simp[Ixo.cls])) (h.bx (by simp[Ixo.cls])) 8) vs (evl_refs hv (fun p hp=>h.rf p (by simp[Ixo.aopds,hp])))
  ·exact hE.elim
 |len x=>
  simp only[evX,h.ev x (by simp[Ixo.opds])]at hE⊢
  split at hE
  ·exact hE
  ·exact hE
  ·rename_i i ha
   have hk:keep i=true:=h.rf x (by simp[Ixo.aopds]) _ ha
   have hi:=getD_ice (h.sg1 (by simp[Ixo.cls]) i hk)
   split at hE
   ·rename_i hr
    rw[hr]at hi
    obtain⟨b,hb⟩:=ice_row hi
    simp only[hb]
    exact hE
   ·exact hE.elim
  ·exact hE
  ·exact hE.elim
 |slen x=>simpa only[evX,h.ev x (by simp[Ixo.opds])]using hE
 |mm mx xs=>simpa only[evX,evl_agr (ps:=xs) h.ev]using hE
 |sli sz x lo hi=>
  have h1:=h.ev x (by simp[Ixo.opds])
  have h2:boV r lo=boV s lo:=bo_agr fun p hp=>h.ev p (by simp[Ixo.opds,hp])
  have h3:∀q,hi=some q->boV r (some q)=boV s (some q):=fun q e=>bo_agr fun p hp=>h.ev p (by cases hp;simp[Ixo.opds,e])
  have h4:∀i,s.ev x=some (.row i)->∀ {ice el sz' es},s.sg.getD i .dead = .row ice el sz' es->∃b,r.sg.getD i .dead = .row b el sz' es:=fun i ha ice el sz' es hr=>by
   have hk:keep i=true:=h.rf x (by simp[Ixo.aopds]) _ ha
   have hi:=getD_ice (h.sg1 (by simp[Ixo.cls]) i hk)
   rw[hr]at hi
   exact ice_row hi
  cases hi with
  |none=>
   simp only[evX,h1,h2]at hE⊢
   split at hE
   ·exact hE
   ·rename_i i lo ha _
    split at hE
    ·rename_i hr
     obtain⟨b,hb⟩:=h4 i ha hr
     simp only[hb]
     exact hE
    ·exact hE.elim
   ·exact hE.elim
  |some q=>
   simp only[evX,h1,h2,h3 q rfl]at hE⊢
   split at hE
   ·exact hE
   ·rename_i i lo ha _
    split at hE
    ·rename_i hr
     obtain⟨b,hb⟩:=h4 i ha hr
     simp only[hb]
     exact hE
    ·exact hE.elim
   ·exact hE.elim
 |sl3 sz x hi mx=>simpa only[evX,h.ev x (by simp[Ixo.opds]),h.ev hi (by simp[Ixo.opds]),h.ev mx (by simp[Ixo.opds])]using hE
 |eqn n x=>simpa only[evX,h.ev x (by simp[Ixo.opds])]using hE
 |nilck x=>simpa only[evX,h.ev x (by simp[Ixo.opds])]using hE
 |mkm nm=>
  have hi:=getD_ice (h.sg1 (by simp[Ixo.cls]) nm (h.nm nm (by simp[Ixo.names])))
  simp only[evX]at hE⊢
  split at hE
  ·rename_i hf
   rw[hf]at hi
   simp only[ice_fresh hi]
   exact hE
  ·exact hE.elim
 |mko nm=>
  have hi:=getD_ice (h.sg1 (by simp[Ixo.cls]) nm (h.nm nm (by simp[Ixo.names])))
  simp only[evX]at hE⊢
  split at hE
  ·rename_i hf
   rw[hf]at hi
   simp only[ice_fresh hi]
   exact hE
  ·exact hE.elim
 |paddr sz m x i=>simpa only[evX,h.ev x (by simp[Ixo.opds]),h.ev i (by simp[Ixo.opds])]using hE
 |mpu kt m x v ne=>
  have e2:∀us,neOkL r us ne=neOkL s us ne:=fun us=>neL_agr ne fun p hp=>h.ev p (by simp[Ixo.opds,hp])
  simp only[evX,h.ev m (by simp[Ixo.opds]),h.ev x (by simp[Ixo.opds]),h.ev v (by simp[Ixo.opds]),e2]at hE⊢
  split at hE
  ·rename_i i kv vv hm hx hv
   have hki:keep i=true:=h.rf m (by simp[Ixo.aopds]) _ hm
   have hkv:=h.rf v (by simp[Ixo.aopds]) _ hv
   split at hE
   ·rename_i ks us z v' hr1 hz hfz
    simp only[getD_of_get? (h.sg (by simp[Ixo.cls]) i hki),hr1,reach_agr (h.sg (by simp[Ixo.cls])) vv hkv,hz,frz_reach_agr (h.sg (by simp[Ixo.cls])) 8 vv z hz hkv,hfz]
    exact hE
   ·rename_i ks us hr1
    simp only[getD_of_get? (h.sg (by simp[Ixo.cls]) i hki),hr1]
    exact hE
   ·rename_i ks us bn n hr1
    simp only[getD_of_get? (h.sg (by simp[Ixo.cls]) i hki),hr1]
    exact hE
   ·exact hE.elim
  ·exact hE.elim
 |mrx nm m=>
  obtain⟨q1,q2⟩:=hw rfl
  have h3:∀v,evX.mrgK r nm v=evX.mrgK s nm v:=fun v=>by unfold evX.mrgK;rw[q1]
  simpa only[evX,h.ev m (by simp[Ixo.opds]),q1,h3]using hE
 |mnz x=>
  obtain⟨q1,q2⟩:=hw rfl
  simpa only[evX,h.ev x (by simp[Ixo.opds]),q1]using hE
 |mkx nm=>
  obtain⟨q1,q2⟩:=hw rfl
  simpa only[evX,q1]using hE
 |mez x=>
  obtain⟨q1,q2⟩:=hw rfl
  simpa only[evX,h.ev x (by simp[Ixo.opds]),q1]using hE
 |mpe kt z m x ne=>
  have e2:∀us,neOkL r us ne=neOkL s us ne:=fun us=>neL_agr ne fun p hp=>h.ev p (by simp[Ixo.opds,hp])
  simp only[evX,h.ev m (by simp[Ixo.opds]),h.ev x (by simp[Ixo.opds]),e2]at hE⊢
  split at hE
  ·rename_i i kv hm hx
   have hki:keep i=true:=h.rf m (by simp[Ixo.aopds]) _ hm
   simpa only[getD_of_get? (h.sg (by simp[Ixo.cls]) i hki)]using hE
  ·exact hE.elim
 |mes m st v ne=>
  have e2:∀us,neOkL r us ne=neOkL s us ne:=fun us=>neL_agr ne fun p hp=>h.ev p (by simp[Ixo.opds,hp])
  simp only[evX,h.ev m (by simp[Ixo.opds]),h.ev st (by simp[Ixo.opds]),h.ev v (by simp[Ixo.opds]),e2]at hE⊢
  split at hE
  ·rename_i i kd b vv hm hx hv
   have hki:keep i=true:=h.rf m (by simp[Ixo.aopds]) _ hm
   simpa only[getD_of_get? (h.sg (by simp[Ixo.cls]) i hki)]using hE
  ·exact hE.elim
 |mrg nm m ne=>
  have e2:∀us,neOkL r us ne=neOkL s us ne:=fun us=>neL_agr ne fun p hp=>h.ev p (by simp[Ixo.opds,hp])
  simp only[evX,h.ev m (by simp[Ixo.opds]),e2,getD_of_get? (h.sg (by simp[Ixo.cls]) nm (h.nm nm (by simp[Ixo.names])))]at hE⊢
  split at hE
  ·rename_i v hf hm
   have hkv:=h.rf m (by simp[Ixo.aopds]) _ hm
   split at hE
   ·rename_i z ks us hz hfz
    simp only[reach_agr (h.sg (by simp[Ixo.cls])) v hkv,hz,frz_reach_agr (h.sg (by simp[Ixo.cls])) 8 v z hz hkv,hfz]
    exact hE
   ·exact hE.elim
  ·exact hE.elim
 |mnx x=>
  simp only[evX,h.ev x (by simp[Ixo.opds])]at hE⊢
  split at hE
  ·rename_i i hx
   have hki:keep i=true:=h.rf x (by simp[Ixo.aopds]) _ hx
   simpa only[getD_of_get? (h.sg (by simp[Ixo.cls]) i hki)]using hE
  ·exact hE.elim
 |snx x=>
  simp only[evX,h.ev x (by simp[Ixo.opds])]at hE⊢
  split at hE
  ·rename_i i hx
   have hki:keep i=true:=h.rf x (by simp[Ixo.aopds]) _ hx
   simpa only[getD_of_get? (h.sg (by simp[Ixo.cls]) i hki)]using hE
  ·exact hE.elim
 |srg nm x=>
  have hi:=getD_ice (h.sg1 (by simp[Ixo.cls]) nm (h.nm nm (by simp[Ixo.names])))
  simp only[evX,h.ev x (by simp[Ixo.opds])]at hE⊢
  split at hE
  ·rename_i f hf hx
   rw[hf]at hi
   simp only[ice_fresh hi,hx]
   exact hE
  ·exact hE.elim
 |men x=>
  simp only[evX,h.ev x (by simp[Ixo.opds])]at hE⊢
  split at hE
  ·rename_i i hx
   have hki:keep i=true:=h.rf x (by simp[Ixo.aopds]) _ hx
   have hi:=getD_ice (h.sg1 (by simp[Ixo.cls]) i hki)
   split at hE
   ·rename_i hr
    rw[hr]at hi
    simp only[ice_itr hi]
    exact hE
   ·exact hE.elim
  ·exact hE.elim
 |lkp kt ok z m x=>
  simp only[evX,h.ev m (by simp[Ixo.opds]),h.ev x (by simp[Ixo.opds])]at hE⊢
  split at hE
  ·exact hE
  ·rename_i i kv hm hx
   have hki:keep i=true:=h.rf m (by simp[Ixo.aopds]) _ hm
   have hi:=getD_ice (h.sg1 (by simp[Ixo.cls]) i hki)
   split at hE
   ·rename_i hr
    rw[hr]at hi
    obtain⟨b,hb⟩:=ice_mp hi
    simp only[hb]
    exact hE
   ·rename_i hr
    rw[hr]at hi
    simp only[ice_mpo hi]
    exact hE
   ·rename_i hr
    rw[hr]at hi
    simp only[ice_mpb hi]
    exact hE
   ·exact hE.elim
  ·exact hE.elim
 |stz ag n a x ne=>
  have e2:∀us,neOkL r us ne=neOkL s us ne:=fun us=>neL_agr ne fun p hp=>h.ev p (by simp[Ixo.opds,hp])
  simp only[evX,h.ev a (by simp[Ixo.opds]),h.ev x (by simp[Ixo.opds]),e2]at hE⊢
  split at hE
  ·rename_i i off v ha hx
   have hki:keep i=true:=h.rf a (by simp[Ixo.aopds]) _ ha
   simpa only[getD_of_get? (h.sg (by simp[Ixo.cls]) i hki)]using hE
  ·rename_i i sz m j v ha hx
   have hki:keep i=true:=h.rf a (by simp[Ixo.aopds]) _ ha
   have hkv:=h.rf x (by simp[Ixo.aopds]) _ hx
   split at hE
   ·rename_i el sz' es z v' hr hz hfz
    simp only[getD_of_get? (h.sg (by simp[Ixo.cls]) i hki),hr,reach_agr (h.sg (by simp[Ixo.cls])) v hkv,hz,frz_reach_agr (h.sg (by simp[Ixo.cls])) 8 v z hz hkv,hfz]
    exact hE
   ·exact hE.elim
  ·exact hE.elim
 |mlen x=>
  simp only[evX,h.ev x (by simp[Ixo.opds])]at hE⊢
  split at hE
  ·exact hE
  ·rename_i i hx
   have hki:keep i=true:=h.rf x (by simp[Ixo.aopds]) _ hx
   have hi:=getD_ice (h.sg1 (by simp[Ixo.cls]) i hki)
   split at hE
   ·rename_i hr
    rw[hr]at hi
    obtain⟨b,hb⟩:=ice_mp hi
    simp only[hb]
    exact hE
   ·exact hE.elim
  ·exact hE.elim
theorem brB_mono{b:Bool}{A B A' B':Prop}(h:brB b A B)(h1:A->A')(h2:B->B'):brB b A' B':=⟨fun e=>h1 (h.1 e),fun e=>h2 (h.2 e)⟩
theorem evX_mono{E:Env}{s:St}{z:Ixo}{κ κ':Eff->Prop}(hE:evX E z s κ)(hk:∀e,κ e -> κ' e):evX E z s κ':=by
 cases z with
 |pick c a b=>
  simp only[evX]at hE⊢
  split at hE
  ·exact brB_mono hE (hk _) (hk _)
  ·exact hE.elim
 |bin op x y=>
  simp only[evX]at hE⊢
  split at hE
  ·split at hE
   ·rename_i e;simp only[e,if_true]
    cases op<;>simp only[evBin,wrE,need]at hE⊢<;>first|exact hE.elim|exact hk _ hE|exact⟨hE.1,hk _ hE.2⟩
   ·exact hE.elim
  ·exact hE.elim
 |box nm ag x=>
  simp only[evX]at hE⊢
  split at hE
  ·cases ag
   ·exact⟨hE.1,hk _ hE.2⟩
   ·simp only[cellsK]at hE⊢
    split at hE
    ·exact hk _ hE
    ·exact hE.elim
  ·exact hE.elim
 |store ag n a x ne=>
  simp only[evX]at hE⊢
  split at hE
  ·split at hE
   ·cases ag
    ·obtain⟨h1,h2,h3⟩:=hE
     refine⟨h1,h2,?_⟩
     split at h3
     ·rename_i e;rw[if_pos e];exact hk _ h3
     ·exact h3.elim
    ·simp only[cellsK]at hE⊢
     split at hE
     ·obtain⟨h2,h3⟩:=hE
      refine⟨h2,?_⟩
      split at h3
      ·rename_i e;rw[if_pos e];exact hk _ h3
      ·exact h3.elim
     ·exact hE.elim
   ·exact hE.elim
  ·rename_i i sz m j v h1 h2
   split at hE
   ·rename_i el sz' es hr
    have key:∀vs,need (vs.all AV.one=true) (if sz'=sz/\vs.length=n/\AV.puL vs=true/\neOk s i ne=true then
      match AV.frzL s.sg 8 vs with
      |some vs'=>iaE es m fun cs=>if j+n<=cs.length then κ (.set i (.row false el sz (es.set m (splice cs j vs')))) else False
      |none=>False
     else False)->need (vs.all AV.one=true) (if sz'=sz/\vs.length=n/\AV.puL vs=true/\neOk s i ne=true then
      match AV.frzL s.sg 8 vs with
      |some vs'=>iaE es m fun cs=>if j+n<=cs.length then κ' (.set i (.row false el sz (es.set m (splice cs j vs')))) else False
      |none=>False
     else False):=fun vs hh=>by
     refine⟨hh.1,?_⟩
     have h2:=hh.2
     split at h2
     ·rename_i hc
      rw[if_pos hc]
      split at h2
      ·obtain⟨k1,k2,k3⟩:=h2
       refine⟨k1,k2,?_⟩
       split at k3
       ·rename_i k4;simp only[if_pos k4];exact hk _ k3
       ·exact k3.elim
      ·exact h2.elim
     ·exact h2.elim
    cases ag
    ·exact⟨hE.1,key _ hE.2⟩
    ·simp only[cellsK]at hE⊢
     split at hE
     ·exact key _ hE
     ·exact hE.elim
   ·exact hE.elim
  ·exact hE.elim
 |iaddr sz x i=>
  simp only[evX]at hE⊢
  split at hE
  ·obtain⟨h1,h2,hE⟩:=hE
   split at hE
   ·rename_i e;exact⟨h1,h2,by simp only[if_pos e];exact hk _ hE⟩
   ·exact hE.elim
  ·split at hE
   ·split at hE
    ·rename_i e;rw[if_pos e];exact⟨hE.1,hk _ hE.2⟩
    ·exact hE.elim
   ·exact hE.elim
  ·split at hE
   ·split at hE
    ·rename_i e;rw[if_pos e];exact⟨hE.1,hk _ hE.2⟩
    ·exact hE.elim
   ·exact hE.elim
  ·exact hE.elim
 |load ag n a=>
  simp only[evX]at hE⊢
  split at hE
  ·split at hE
   ·split at hE
    ·exact hk _ hE
    ·exact hE.elim
   ·exact hE.elim
  ·split at hE
   ·split at hE
    ·rename_i e
     rw[if_pos e]
     obtain⟨h1,h2,hE⟩:=hE
     refine⟨h1,h2,?_⟩
     split at hE
     ·rename_i h3;simp only[h3];exact hk _ hE
     ·exact hE.elim
    ·exact hE.elim
   ·exact hE.elim
  ·split at hE
   ·exact hk _ hE
   ·exact hE.elim
  ·exact hE.elim
 |apd nm el sz b x y ne=>
  simp only[evX]at hE⊢
  split at hE
  ·split at hE
   ·split at hE
    ·rename_i e;rw[if_pos e];exact⟨hE.1,hE.2.1,hk _ hE.2.2⟩
    ·exact hE.elim
   ·exact hE.elim
  ·exact hE.elim
 |mks nm el sz bytes zs x y=>
  simp only[evX]at hE⊢
  split at hE
  ·exact⟨hE.1,hE.2.1,hE.2.2.1,hk _ hE.2.2.2⟩
  ·exact hE.elim
 |callz nm ct f xs ne=>
  simp only[evX]at hE⊢
  split at hE
  ·split at hE
   ·rename_i e;rw[if_pos e]
    obtain⟨args',z,k1,k2,k3⟩:=hE
    refine⟨args',z,k1,k2,?_⟩
    rcases k3 with⟨R,k3,k4⟩|⟨R,k3,k4⟩|⟨R,k3,k4⟩
    ·exact .inl ⟨R,k3,fun r hr=>hk _ (k4 r hr)⟩
    ·exact .inr (.inl ⟨R,k3,fun r rows hr=>⟨(k4 r rows hr).1,hk _ (k4 r rows hr).2⟩⟩)
    ·exact .inr (.inr ⟨R,k3,fun r rows hr=>⟨(k4 r rows hr).1,(k4 r rows hr).2.1,(k4 r rows hr).2.2.1,hk _ (k4 r rows hr).2.2.2⟩⟩)
   ·exact hE.elim
  ·exact hE.elim
 |callw nm ct f xs=>
  simp only[evX]at hE⊢
  split at hE
  ·split at hE
   ·rename_i e;rw[if_pos e]
    rcases hE with⟨args',z,k1,k2,k3⟩|⟨args',R,h1,h2,h3⟩|⟨args',R,k2,k3,k4⟩|⟨lend,⟨ns,args',ins,R,h1,hlen,hnd,hh,hib,hlive,ha,hb,h2⟩⟩|⟨args',z,k1,k2,k3⟩
    ·refine .inl ⟨args',z,k1,k2,?_⟩
     rcases k3 with⟨R,k3,k4⟩|⟨R,k3,k4⟩|⟨R,k3,k4⟩
     ·exact .inl ⟨R,k3,fun r hr=>hk _ (k4 r hr)⟩
     ·exact .inr (.inl ⟨R,k3,fun r rows hr=>⟨(k4 r rows hr).1,hk _ (k4 r rows hr).2⟩⟩)
     ·exact .inr (.inr ⟨R,k3,fun r rows hr=>⟨(k4 r rows hr).1,(k4 r rows hr).2.1,(k4 r rows hr).2.2.1,hk _ (k4 r rows hr).2.2.2⟩⟩)
    ·exact .inr (.inl ⟨args',R,h1,h2,fun r hr=>⟨(h3 r hr).1,hk _ (h3 r hr).2⟩⟩)
    ·exact .inr (.inr (.inl ⟨args',R,k2,k3,fun r rows hr=>⟨(k4 r rows hr).1,(k4 r rows hr).2.1,(k4 r rows hr).2.2.1,hk _ (k4 r rows hr).2.2.2⟩⟩))
    ·exact .inr (.inr (.inr (.inl ⟨lend,⟨ns,args',ins,R,h1,hlen,hnd,hh,hib,hlive,ha,hb,fun r outs hr=>by
      obtain⟨c1,c2,c3,c4,c5,c6⟩:=h2 r outs hr
      exact⟨c1,c2,c3,c4,c5,hk _ c6⟩⟩⟩)))
    ·refine .inr (.inr (.inr (.inr ⟨args',z,k1,k2,?_⟩)))
     rcases k3 with⟨R,k3,k4⟩|⟨R,k3,k4⟩|⟨R,k3,k4⟩
     ·exact .inl ⟨R,k3,fun r hr=>hk _ (k4 r hr)⟩
     ·exact .inr (.inl ⟨R,k3,fun r rows hr=>⟨(k4 r rows hr).1,hk _ (k4 r rows hr).2⟩⟩)
     ·exact .inr (.inr ⟨R,k3,fun r rows hr=>⟨(k4 r rows hr).1,(k4 r rows hr).2.1,(k4 r rows hr).2.2.1,hk _ (k4 r rows hr).2.2.2⟩⟩)
   ·exact hE.elim
  ·exact hE.elim
 |callx g xs=>
  simp only[evX]at hE⊢
  split at hE
  ·split at hE
   ·rcases hE with⟨h0,v,z,k',h1,h2,h3,h4⟩|hE
    ·exact .inl ⟨h0,v,z,k',h1,h2,hk _ h3,hk _ h4⟩
    ·obtain⟨h0,i,el,sz,es,k',q1,q2,q3,q4,q5,q6⟩:=hE.out
     exact .inr ⟨h0,i,el,sz,es,k',q1,q2,q3,q4,hk _ q5,hk _ q6⟩
   ·rcases hE with((⟨g',args',R,h0,h1,h0',h1',h2,h3⟩|⟨g',args',R,h0,h1,h2,h3⟩)|⟨f,caps,lend,e,hb',⟨ns,args',ins,R,h1,hlen,hnd,hh,hib,hlive,ha,hb,h2⟩⟩)|hE
    ·exact .inl (.inl (.inl ⟨g',args',R,h0,h1,h0',h1',h2,fun r hr=>hk _ (h3 r hr)⟩))
    ·exact .inl (.inl (.inr ⟨g',args',R,h0,h1,h2,fun r hr=>⟨(h3 r hr).1,hk _ (h3 r hr).2⟩⟩))
    ·exact .inl (.inr ⟨f,caps,lend,e,hb',⟨ns,args',ins,R,h1,hlen,hnd,hh,hib,hlive,ha,hb,fun r outs hr=>by
      obtain⟨c1,c2,c3,c4,c5,c6⟩:=h2 r outs hr
      exact⟨c1,c2,c3,c4,c5,hk _ c6⟩⟩⟩)
    ·obtain⟨h0,f,caps,ns,args',ins,R,q1,q2,q3,q4,q5,q6,q7,q8,q9,q10,q11⟩:=hE.out
     exact .inr ⟨h0,f,caps,ns,args',ins,R,q1,q2,q3,q4,q5,q6,q7,q8,q9,q10,fun r outs k' st' hr=>by
      obtain⟨c1,c2,c3,c4⟩:=q11 r outs k' st' hr
      exact⟨c1,c2,c3,hk _ c4⟩⟩
  ·exact hE.elim
 |aidx ag n m x i=>
  simp only[evX]at hE⊢
  split at hE
  ·obtain⟨v,h0,h1,h2,h3⟩:=hE.out
   exact⟨v,h0,h1,h2,hk _ h3⟩
  ·exact hE.elim
 |sidx x i=>
  simp only[evX]at hE⊢
  split at hE
  ·obtain⟨h0,h1,h3⟩:=hE.out
   exact⟨h0,h1,hk _ h3⟩
  ·exact hE.elim
 |pur p xs=>
  simp only[evX]at hE⊢
  split at hE
  ·exact purE_mono hE fun v hv=>hk _ hv
  ·exact hE.elim
 |b2s x=>
  simp only[evX]at hE⊢
  split at hE
  ·obtain⟨l,h0,h1⟩:=hE.out
   exact⟨l,h0,hk _ h1⟩
  ·exact hk _ hE
  ·split at hE
   ·obtain⟨l,h0,h1⟩:=hE.out
    exact⟨l,h0,hk _ h1⟩
   ·exact hE.elim
  ·exact hE.elim
 |sl3 sz x hi mx=>
  simp only[evX]at hE⊢
  split at hE
  ·exact⟨hE.1,hE.2.1,hE.2.2.1,hE.2.2.2.1,hE.2.2.2.2.1,hk _ hE.2.2.2.2.2⟩
  ·exact hE.elim
 |eqn n x=>
  simp only[evX]at hE⊢
  split at hE
  ·exact hk _ hE
  ·exact⟨hE.1,hk _ hE.2⟩
  ·exact hk _ hE
  ·exact hE.elim
 |sli sz x lo hi=>
  simp only[evX]at hE⊢
  split at hE
  ·cases hi with
   |none=>exact⟨hE.1,hE.2.1,hE.2.2.1,hE.2.2.2.1,hk _ hE.2.2.2.2⟩
   |some q=>
    simp only at hE⊢
    split at hE
    ·exact⟨hE.1,hE.2.1,hE.2.2.1,hE.2.2.2.1,hk _ hE.2.2.2.2⟩
    ·exact hE.elim
  ·split at hE
   ·split at hE
    ·rename_i hsz
     rw[if_pos hsz]
     cases hi with
     |none=>exact⟨hE.1,hk _ hE.2⟩
     |some q=>
      simp only at hE⊢
      split at hE
      ·exact⟨hE.1,hk _ hE.2⟩
      ·exact hE.elim
    ·exact hE.elim
   ·exact hE.elim
  ·exact hE.elim
 |call f xs=>
  simp only[evX]at hE⊢
  split at hE
  ·rcases hE with⟨args',R,h1,h1',h2,h3⟩|⟨args',R,h1,h2,h3⟩
   ·exact .inl ⟨args',R,h1,h1',h2,fun r hr=>hk _ (h3 r hr)⟩
   ·exact .inr ⟨args',R,h1,h2,fun r hr=>⟨(h3 r hr).1,hk _ (h3 r hr).2⟩⟩
  ·exact hE.elim
 |callv g xs=>
  simp only[evX]at hE⊢
  split at hE
  ·split at hE
   ·obtain⟨h0,k',h1,h2,h3,h4⟩:=hE
    exact⟨h0,k',h1,h2,hk _ h3,hk _ h4⟩
   rcases hE with⟨g',args',R,h0,h1,h0',h1',h2,h3⟩|⟨g',args',R,h0,h1,h2,h3⟩
   ·exact .inl ⟨g',args',R,h0,h1,h0',h1',h2,fun r hr=>hk _ (h3 r hr)⟩
   ·exact .inr ⟨g',args',R,h0,h1,h2,fun r hr=>⟨(h3 r hr).1,hk _ (h3 r hr).2⟩⟩
  ·exact hE.elim
 |mpu kt m x v ne=>
  simp only[evX]at hE⊢
  split at hE
  ·split at hE
   ·split at hE
    ·rename_i e;rw[if_pos e]
     obtain⟨a,b,h1,h2⟩:=hE.out
     exact mpI h1 (hk _ h2)
    ·exact hE.elim
   ·split at hE
    ·rename_i e;rw[if_pos e]
     obtain⟨a,b,h1,h2⟩:=hE.out
     exact mpI h1 (hk _ h2)
    ·exact hE.elim
   ·split at hE
    ·rename_i e;rw[if_pos e]
     obtain⟨a,b,c,d,h1,h2⟩:=hE.out
     exact mdI h1 (hk _ h2)
    ·exact hE.elim
   ·exact hE.elim
  ·exact hE.elim
 |mrx nm m=>
  simp only[evX]at hE⊢
  split at hE
  ·rcases hE.out with hA|hB
   ·refine .fz ?_
    unfold evX.mrgK at hA⊢
    split at hA
    ·exact hk _ hA
    ·exact hA.elim
   ·refine .bn ?_
    split at hB
    ·split at hB
     ·exact fun bn n hb=>hk _ (hB bn n hb)
     ·exact hk _ hB
     ·exact hB.elim
    ·exact hB.elim
  ·exact hE.elim
 |mkx nm=>
  simp only[evX]at hE⊢
  split at hE
  ·exact hE.out.elim (fun h=>.fz (hk _ h)) (fun h=>.bn (hk _ h))
  ·exact hE.elim
 |mez x=>
  simp only[evX]at hE⊢
  split at hE
  ·split at hE
   ·exact hk _ hE
   ·split at hE
    ·obtain⟨h0,j,b,kv,uv,h1,h2,h3,h4,h5⟩:=hE
     exact enI h0 j b kv uv h1 h2 h3 h4 (hk _ h5)
    ·exact hE.elim
   ·exact hE.elim
  ·exact hE.elim
 |mpe kt z m x ne=>
  simp only[evX]at hE⊢
  split at hE
  ·split at hE
   ·split at hE
    ·rename_i e;rw[if_pos e]
     obtain⟨v,b,ks',us',bn',n',h1,h2⟩:=hE.out
     exact meI h1 (hk _ h2)
    ·exact hE.elim
   ·exact hE.elim
  ·exact hE.elim
 |mes m st v ne=>
  simp only[evX]at hE⊢
  split at hE
  ·split at hE
   ·split at hE
    ·rename_i e;rw[if_pos e]
     obtain⟨j,c,us',h1,h2,h3,h4⟩:=hE.out
     exact msI j c h1 h2 h3 (hk _ h4)
    ·exact hE.elim
   ·exact hE.elim
  ·exact hE.elim
 |mnz x=>
  simp only[evX]at hE⊢
  split at hE
  ·split at hE
   ·exact nxI (fun j kv uv h1 h2 h3=>hk _ (hE.some j kv uv h1 h2 h3)) (fun h1=>hk _ (hE.none h1))
   ·split at hE
    ·exact nxD hE.eq (fun j b kv uv h1 h2 h3 h4=>hk _ (hE.some j b kv uv h1 h2 h3 h4)) (fun h1=>hk _ (hE.none h1))
    ·exact hE.elim
   ·exact hE.elim
  ·exact hE.elim
 |stz ag n a x ne=>
  simp only[evX]at hE⊢
  split at hE
  ·split at hE
   ·split at hE
    ·rename_i e;rw[if_pos e]
     exact cellsK_mono' (fun vs hh=>⟨hh.1,by
      have h3:=hh.2
      split at h3
      ·rename_i e3;rw[if_pos e3];exact hk _ h3
      ·exact h3.elim⟩) hE
    ·exact hE.elim
   ·exact hE.elim
  ·split at hE
   ·split at hE
    ·rename_i e;rw[if_pos e]
     exact cellsK_mono' (fun vs hh=>⟨hh.1,by
      have h3:=hh.2
      split at h3
      ·rename_i e3;rw[if_pos e3]
       obtain⟨k1,k2,k3⟩:=h3
       refine⟨k1,k2,?_⟩
       split at k3
       ·rename_i e4;simp only[if_pos e4];exact hk _ k3
       ·exact k3.elim
      ·exact h3.elim⟩) hE
    ·exact hE.elim
   ·exact hE.elim
  ·exact hE.elim
 |mrg nm m ne=>
  simp only[evX]at hE⊢
  split at hE
  ·split at hE
   ·split at hE
    ·rename_i e;rw[if_pos e];exact hk _ hE
    ·exact hE.elim
   ·exact hE.elim
  ·exact hE.elim
 |mnx x=>
  simp only[evX]at hE⊢
  split at hE
  ·split at hE
   ·exact nxI (fun j kv uv h1 h2 h3=>hk _ (hE.some j kv uv h1 h2 h3)) (fun h1=>hk _ (hE.none h1))
   ·exact hE.elim
  ·exact hE.elim
 |snx x=>
  simp only[evX]at hE⊢
  split at hE
  ·split at hE
   ·exact snI (fun h1=>hk _ (hE.some h1)) (fun h1=>hk _ (hE.none h1))
   ·exact hE.elim
  ·exact hE.elim
 |srg nm x=>
  simp only[evX]at hE⊢
  split at hE
  ·exact hk _ hE
  ·exact hE.elim
 |lkp kt ok z m x=>
  simp only[evX]at hE⊢
  split at hE
  ·obtain⟨r,h1,h2⟩:=hE.out
   exact lkI h1 (hk _ h2)
  ·split at hE
   ·obtain⟨r,h1,h2⟩:=hE.out
    exact lkI h1 (hk _ h2)
   ·obtain⟨r,h1,h2⟩:=hE.out
    exact lkI h1 (hk _ h2)
   ·obtain⟨r,h1,h2⟩:=hE.out
    exact lkI h1 (hk _ h2)
   ·exact hE.elim
  ·exact hE.elim
 |paddr sz m x i=>
  simp only[evX]at hE⊢
  split at hE
  ·exact⟨hE.1,hk _ hE.2⟩
  ·exact⟨hE.1,hk _ hE.2⟩
  ·exact hE.elim
 |_=>
  simp only[evX,wrE]at hE⊢
  repeat (split at hE<;>first|exact hE.elim|exact hk _ hE|skip)
def upds:Eff->List (Nat × Res)
 |.val _=>[]
 |.new nm r _=>[(nm,r)]
 |.set i r=>[(i,r)]
 |.big l _=>l
 |.yl _ _=>[]
 |.ylz l _ _=>l
def Shape(z:Ixo)(s:St)(e:Eff):Prop:=
 ∀p∈upds e,p.2 ≠ .fresh/\p.1<s.sg.length/\((p.1∈z.names/\s.sg.getD p.1 .dead = .fresh)\/(3<=z.cls/\(∃q∈z.aopds,∃v,s.ev q=some v/\v.has p.1=true)/\(z.hard=false->p.2=(s.sg.getD p.1 .fresh).ice)))
theorem Shape.val{z:Ixo}{s:St}{v:AV}:Shape z s (.val v):=fun p hp=>by cases hp
mutual
theorem reach_has{sg:List Res}:∀(v:AV) (z:List (Nat × Res)),v.reach sg=some z->∀p∈z,(v.refsIn fun j=>j != p.1)=false/\p.2 ≠ .fresh
 |.own i off,z,h,p,hp=>by
  simp only[AV.reach]at h
  split at h
  ·split at h<;>cases h
   simp only[List.mem_singleton]at hp;subst hp
   simp[AV.refsIn]
  ·cases h
 |.row i,z,h,p,hp=>by
  simp only[AV.reach]at h
  split at h<;>cases h
  all_goals
   simp only[List.mem_singleton]at hp;subst hp
   simp[AV.refsIn]
 |.cut i _ _ _,z,h,p,hp=>by
  simp only[AV.reach]at h
  split at h<;>cases h
  simp only[List.mem_singleton]at hp;subst hp
  simp[AV.refsIn]
 |.agg cs,z,h,p,hp=>by simp only[AV.reach]at h;exact reachL_has cs z h p hp
 |.tup cs,z,h,p,hp=>by simp only[AV.reach]at h;exact reachL_has cs z h p hp
 |.fn _ cs,z,h,p,hp=>by simp only[AV.reach]at h;exact reachL_has cs z h p hp
 |.elt _ _ _ _,z,h,_,_=>by simp[AV.reach]at h
 |.yld,z,h,_,_=>by simp[AV.reach]at h
 |.gone,z,h,_,_=>by simp[AV.reach]at h
 |.bool _,z,h,p,hp=>by simp only[AV.reach,Option.some.injEq]at h;subst h;cases hp
 |.int _ _,z,h,p,hp=>by simp only[AV.reach,Option.some.injEq]at h;subst h;cases hp
 |.str _,z,h,p,hp=>by simp only[AV.reach,Option.some.injEq]at h;subst h;cases hp
 |.lit _,z,h,p,hp=>by simp only[AV.reach,Option.some.injEq]at h;subst h;cases hp
 |.isl _,z,h,p,hp=>by simp only[AV.reach,Option.some.injEq]at h;subst h;cases hp
 |.nils,z,h,p,hp=>by simp only[AV.reach,Option.some.injEq]at h;subst h;cases hp
 |.ipt _,z,h,p,hp=>by simp only[AV.reach,Option.some.injEq]at h;subst h;cases hp
 |.imp _ _,z,h,p,hp=>by simp only[AV.reach,Option.some.injEq]at h;subst h;cases hp
 |.tsl _ _,z,h,p,hp=>by simp only[AV.reach,Option.some.injEq]at h;subst h;cases hp
 |.mth _ _,z,h,p,hp=>by simp only[AV.reach,Option.some.injEq]at h;subst h;cases hp
 |.any,z,h,p,hp=>by simp only[AV.reach,Option.some.injEq]at h;subst h;cases hp
theorem reachL_has{sg:List Res}:∀(as:List AV) (z:List (Nat × Res)),AV.reachL sg as=some z->∀p∈z,AV.refsInL (fun j=>j != p.1) as=false/\p.2 ≠ .fresh
 | [],z,h,p,hp=>by simp only[AV.reachL,Option.some.injEq]at h;subst h;cases hp
 |a::as,z,h,p,hp=>by
  simp only[AV.reachL]at h
  split at h<;>cases h
  rename_i x y h1 h2
  simp only[AV.refsInL,Bool.and_eq_false_iff]
  rcases List.mem_append.1 hp with hp|hp
  ·have:=reach_has a x h1 p hp;exact⟨.inl this.1,this.2⟩
  ·have:=reachL_has as y h2 p hp;exact⟨.inr this.1,this.2⟩
end
theorem refsL_mem{keep:Nat->Bool}:∀ {as:List AV},AV.refsInL keep as=false->∃a∈as,a.refsIn keep=false
 | [],h=>by simp[AV.refsInL]at h
 |a::as,h=>by
  simp only[AV.refsInL,Bool.and_eq_false_iff]at h
  rcases h with h|h
  ·exact⟨a,by simp,h⟩
  ·obtain⟨b,h1,h2⟩:=refsL_mem h;exact⟨b,by simp[h1],h2⟩
theorem evl_mem{s:St}:∀ {ps:List Opd} {vs:List AV},s.evl ps=some vs->∀v∈vs,∃p∈ps,s.ev p=some v
 | [],vs,h,v,hv=>by simp only[St.evl,Option.some.injEq]at h;subst h;cases hv
 |p::ps,vs,h,v,hv=>by
  simp only[St.evl]at h
  split at h<;>cases h
  rename_i u us h1 h2
  rcases List.mem_cons.1 hv with rfl|hv
  ·exact⟨p,by simp,h1⟩
  ·obtain⟨q,h3,h4⟩:=evl_mem h2 v hv;exact⟨q,by simp[h3],h4⟩
theorem evl_get{s:St}:∀ {ps:List Opd} {vs:List AV},s.evl ps=some vs->∀p∈ps,∃v,s.ev p=some v/\v∈vs
 | [],vs,h,p,hp=>by cases hp
 |q::ps,vs,h,p,hp=>by
  simp only[St.evl]at h
  split at h<;>cases h
  rename_i u us h1 h2
  rcases List.mem_cons.1 hp with rfl|hp
  ·exact⟨u,h1,by simp⟩
  ·obtain⟨v,h3,h4⟩:=evl_get h2 p hp;exact⟨v,h3,by simp[h4]⟩
theorem rows_has{sg:List Res}{sz:Nat}:∀ {vs:List AV} {es:List (List AV)} {z:List (Nat × Res)},rowsO sg sz vs=some (es,z)->∀p∈z,p.2 ≠ .fresh/\p.1<sg.length/\p.2=(sg.getD p.1 .fresh).ice/\∃v∈vs,v.has p.1=true
 | [],es,z,h,p,hp=>by simp only[rowsO,Option.some.injEq,Prod.mk.injEq]at h;obtain⟨_,rfl⟩:=h;cases hp
 |v::vs,es,z,h,p,hp=>by
  simp only[rowsO]at h
  split at h
  ·rename_i cs hc
   split at h<;>cases h
   rename_i z1 cs' es' z2 k1 k2 k3
   rcases List.mem_append.1 hp with hp|hp
   ·have h1:=reachL_has cs z1 k1 p hp
    refine⟨h1.2,(reachL_iced cs z1 k1 p hp).1,(reachL_iced cs z1 k1 p hp).2.1,v,by simp,?_⟩
    have:(v.refsIn fun j=>j != p.1)=false:=by
     cases hr:v.refsIn fun j=>j != p.1 with
     |false=>rfl
     |true=>rw[cellsO_refs hc hr]at h1;simp at h1
    simp[AV.has,this]
   ·obtain⟨h1,h2,h5,u,h3,h4⟩:=rows_has k3 p hp
    exact⟨h1,h2,h5,u,by simp[h3],h4⟩
  ·cases h
theorem new_shape{z:Ixo}{s:St}{nm:Nat}{r:Res}{v:AV}(h:nm∈z.names)(hf:s.sg.getD nm .dead = .fresh)(hr:r ≠ .fresh):Shape z s (.new nm r v):=fun p hp=>by
 simp only[upds,List.mem_singleton]at hp;subst hp
 exact⟨hr,(getD_dead hf (by simp)).2, .inl ⟨h,hf⟩⟩
theorem set_shape{z:Ixo}{s:St}{ag:Bool}{n i:Nat}{a x:Opd}{ne:List Opd}{q r:Res}{v:AV}(hz:z = .store ag n a x ne)(ha:s.ev a=some v)(hv:v.has i=true)(hr:s.sg.getD i .dead=q)(hq:q ≠ .dead)(hf:r ≠ .fresh):Shape z s (.set i r):=fun p hp=>by
 simp only[upds,List.mem_singleton]at hp;subst hp
 subst hz
 exact⟨hf,(getD_dead hr hq).2, .inr ⟨by simp[Ixo.cls],⟨a,by simp[Ixo.aopds],v,ha,hv⟩,fun e=>by simp[Ixo.hard]at e⟩⟩
def Det(E:Env)(z:Ixo)(s:St)(κ : Eff->Prop):Prop:=
 ∃e,κ e/\(∀ κ':Eff->Prop,κ' e->evX E z s κ')/\Shape z s e/\e.isYl=false
theorem Det.val{E:Env}{z:Ixo}{s:St}{κ : Eff->Prop}{v:AV}(h : κ (.val v))(k:∀ κ':Eff->Prop,κ' (.val v)->evX E z s κ'):Det E z s κ :=⟨_,h,k,Shape.val,rfl⟩
theorem cellsK_out{ag:Bool}{v:AV}{K:List AV->Prop}(h:cellsK ag v K):∃vs,K vs/\∀K':List AV->Prop,K' vs->cellsK ag v K':=by
 cases ag with
 |true=>
  simp only[cellsK]at h
  split at h
  ·exact⟨_,h,fun K' h'=>h'⟩
  ·exact h.elim
 |false=>exact⟨[v],h.2,fun K' h'=>⟨h.1,h'⟩⟩
theorem evX_det{E:Env}{s:St}{z:Ixo}{κ : Eff->Prop}(hE:evX E z s κ)(hc:z.cls≠2/\z.cls≠5):Det E z s κ :=by
 cases z with
 |pick c a b=>
  simp only[evX]at hE
  split at hE
  ·rename_i c' x y h1 h2 h3
   cases c' with
   |true=>exact .val (hE.1 rfl) fun κ' k=>by simp only[evX,h1,h2,h3];exact brB_t k
   |false=>exact .val (hE.2 rfl) fun κ' k=>by simp only[evX,h1,h2,h3];exact brB_f k
  ·exact hE.elim
 |bin op x y=>
  simp only[evX]at hE
  split at hE
  ·rename_i h1 h2
   split at hE
   ·rename_i e
    cases op<;>simp only[evBin,wrE,need]at hE<;>first|exact hE.elim|skip
    all_goals first
     |exact .val hE.2 fun κ' k=>by simp only[evX,h1,h2,e,if_true,evBin,wrE,need];exact⟨hE.1,k⟩
     |exact .val hE fun κ' k=>by simp only[evX,h1,h2,e,if_true,evBin,wrE];exact k
   ·exact hE.elim
  ·exact hE.elim
 |mks nm el sz bytes zs x y=>
  simp only[evX]at hE
  split at hE
  ·rename_i h1 h2 h3
   obtain⟨e1,e2,e3,hE⟩:=hE
   exact⟨_,hE,fun κ' k=>by simp only[evX,h1,h2,h3];exact⟨e1,e2,e3,k⟩,new_shape (by simp[Ixo.names]) h1 (by simp),rfl⟩
  ·exact hE.elim
 |alloc nm zs=>
  simp only[evX]at hE
  split at hE
  ·rename_i h1
   exact⟨_,hE,fun κ' k=>by simp only[evX,h1];exact k,new_shape (by simp[Ixo.names]) h1 (by simp),rfl⟩
  ·exact hE.elim
 |box nm ag x=>
  simp only[evX]at hE
  split at hE
  ·rename_i v h1 h2
   cases ag
   ·exact⟨_,hE.2,fun κ' k=>by simp only[evX,h1,h2];exact⟨hE.1,k⟩,new_shape (by simp[Ixo.names]) h2 (by simp),rfl⟩
   ·simp only[cellsK]at hE
    split at hE
    ·exact⟨_,hE,fun κ' k=>by simp only[evX,h1,h2];exact k,new_shape (by simp[Ixo.names]) h2 (by simp),rfl⟩
    ·exact hE.elim
  ·exact hE.elim
 |iaddr sz x i=>
  simp only[evX]at hE
  split at hE
  ·rename_i h1 h2
   obtain⟨h3,h4,hE⟩:=hE
   split at hE
   ·rename_i e
    exact .val hE fun κ' k=>by simp only[evX,h1,h2];exact⟨h3,h4,by simp only[if_pos e];exact k⟩
   ·exact hE.elim
  ·rename_i h1 h2
   split at hE
   ·rename_i h3
    split at hE
    ·rename_i e
     exact .val hE.2 fun κ' k=>by simp only[evX,h1,h2,h3,if_pos e];exact⟨hE.1,k⟩
    ·exact hE.elim
   ·exact hE.elim
  ·rename_i h1 h2
   split at hE
   ·rename_i h3
    split at hE
    ·rename_i e
     exact .val hE.2 fun κ' k=>by simp only[evX,h1,h2,h3,if_pos e];exact⟨hE.1,k⟩
    ·exact hE.elim
   ·exact hE.elim
  ·exact hE.elim
 |sl3 sz x hi mx=>
  simp only[evX]at hE
  split at hE
  ·rename_i h1 h2 h3
   exact .val hE.2.2.2.2.2 fun κ' k=>by simp only[evX,h1,h2,h3];exact⟨hE.1,hE.2.1,hE.2.2.1,hE.2.2.2.1,hE.2.2.2.2.1,k⟩
  ·exact hE.elim
 |eqn n x=>
  simp only[evX]at hE
  split at hE
  ·rename_i h1
   exact .val hE fun κ' k=>by simp only[evX,h1];exact k
  ·rename_i h1
   exact .val hE.2 fun κ' k=>by simp only[evX,h1];exact⟨hE.1,k⟩
  ·rename_i h1
   exact .val hE fun κ' k=>by simp only[evX,h1];exact k
  ·exact hE.elim
 |sli sz x lo hi=>
  simp only[evX]at hE
  split at hE
  ·rename_i h1 h2
   cases hi with
   |none=>exact .val hE.2.2.2.2 fun κ' k=>by simp only[evX,h1,h2];exact⟨hE.1,hE.2.1,hE.2.2.1,hE.2.2.2.1,k⟩
   |some q=>
    simp only at hE
    split at hE
    ·rename_i h3
     exact .val hE.2.2.2.2 fun κ' k=>by simp only[evX,h1,h2,h3];exact⟨hE.1,hE.2.1,hE.2.2.1,hE.2.2.2.1,k⟩
    ·exact hE.elim
  ·rename_i h1 h2
   split at hE
   ·rename_i h4
    split at hE
    ·rename_i hsz
     cases hi with
     |none=>exact .val hE.2 fun κ' k=>by simp only[evX,h1,h2,h4,if_pos hsz];exact⟨hE.1,k⟩
     |some q=>
      simp only at hE
      split at hE
      ·rename_i h3
       exact .val hE.2 fun κ' k=>by simp only[evX,h1,h2,h4,if_pos hsz,h3];exact⟨hE.1,k⟩
      ·exact hE.elim
    ·exact hE.elim
   ·exact hE.elim
  ·exact hE.elim
 |mm mx xs=>
  simp only[evX]at hE
  split at hE
  ·rename_i h1
   split at hE
   ·rename_i h2
    exact .val hE fun κ' k=>by simp only[evX,h1,h2];exact k
   ·exact hE.elim
  ·exact hE.elim
 |load ag n a=>
  simp only[evX]at hE
  split at hE
  ·rename_i h1
   split at hE
   ·rename_i h2
    split at hE
    ·rename_i h3
     exact .val hE fun κ' k=>by simp only[evX,h1,h2,h3];exact k
    ·exact hE.elim
   ·exact hE.elim
  ·rename_i h1
   split at hE
   ·rename_i h2
    split at hE
    ·rename_i e
     obtain⟨k1,k2,hE⟩:=hE
     split at hE
     ·rename_i h3
      exact .val hE fun κ' k=>by simp only[evX,h1,h2,if_pos e];exact⟨k1,k2,by simp only[h3];exact k⟩
     ·exact hE.elim
    ·exact hE.elim
   ·exact hE.elim
  ·rename_i h1
   split at hE
   ·rename_i h3
    exact .val hE fun κ' k=>by simp only[evX,h1,h3];exact k
   ·exact hE.elim
  ·exact hE.elim
 |field ag n off x=>
  simp only[evX]at hE
  split at hE
  ·rename_i h1
   split at hE
   ·rename_i h3
    exact .val hE fun κ' k=>by simp only[evX,h1,h3];exact k
   ·exact hE.elim
  ·exact hE.elim
 |extract i x=>
  simp only[evX]at hE
  split at hE
  ·rename_i h1
   split at hE
   ·rename_i h3
    exact .val hE fun κ' k=>by simp only[evX,h1,h3];exact k
   ·exact hE.elim
  ·exact hE.elim
 |len x=>
  simp only[evX]at hE
  split at hE
  ·rename_i h1
   exact .val hE fun κ' k=>by simp only[evX,h1];exact k
  ·rename_i h1
   exact .val hE fun κ' k=>by simp only[evX,h1];exact k
  ·rename_i h1
   split at hE
   ·rename_i h3
    exact .val hE fun κ' k=>by simp only[evX,h1,h3];exact k
   ·exact hE.elim
  ·rename_i h1
   exact .val hE fun κ' k=>by simp only[evX,h1];exact k
  ·exact hE.elim
 |eqs n T x y=>
  simp only[evX]at hE
  split at hE
  ·rename_i h1 h2
   split at hE
   ·rename_i h3
    exact .val hE fun κ' k=>by simp only[evX,h1,h2,h3];exact k
   ·exact hE.elim
  ·exact hE.elim
 |eqb n x y=>
  simp only[evX]at hE
  split at hE
  ·rename_i h1 h2
   exact .val hE fun κ' k=>by simp only[evX,h1,h2];exact k
  ·exact hE.elim
 |un op x=>
  simp only[evX,wrE]at hE
  split at hE
  ·rename_i h1
   exact .val hE fun κ' k=>by simp only[evX,h1];exact k
  ·rename_i h1
   exact .val hE fun κ' k=>by simp only[evX,h1,wrE];exact k
  ·exact hE.elim
 |call _ _=>simp[Ixo.cls]at hc
 |callv _ _=>simp[Ixo.cls]at hc
 |callz _ _ _ _ _=>simp[Ixo.cls]at hc
 |callw _ _ _ _=>simp[Ixo.cls]at hc
 |callx _ _=>simp[Ixo.cls]at hc
 |aidx ag n m x i=>
  simp only[evX]at hE
  split at hE
  ·rename_i h1 h2
   obtain⟨v,k0,k1,k2,k3⟩:=hE.out
   exact .val k3 fun κ' k=>by simp only[evX,h1,h2];exact⟨v,k0,k1,k2,k⟩
  ·exact hE.elim
 |sidx x i=>
  simp only[evX]at hE
  split at hE
  ·rename_i h1 h2
   obtain⟨k0,k1,k3⟩:=hE.out
   exact .val k3 fun κ' k=>by simp only[evX,h1,h2];exact⟨k0,k1,k⟩
  ·exact hE.elim
 |pur p xs=>
  simp only[evX]at hE
  split at hE
  ·rename_i h1
   obtain⟨v,k1,k2⟩:=purE_out hE
   exact .val k1 fun κ' k=>by simp only[evX,h1];exact k2 _ k
  ·exact hE.elim
 |b2s x=>
  simp only[evX]at hE
  split at hE
  ·rename_i h1
   obtain⟨l,k0,k1⟩:=hE.out
   exact .val k1 fun κ' k=>by simp only[evX,h1];exact⟨l,k0,k⟩
  ·rename_i h1
   exact .val hE fun κ' k=>by simp only[evX,h1];exact k
  ·rename_i h1
   split at hE
   ·rename_i h3
    obtain⟨l,k0,k1⟩:=hE.out
    exact .val k1 fun κ' k=>by simp only[evX,h1,h3];exact⟨l,k0,k⟩
   ·exact hE.elim
  ·exact hE.elim
 |mnx _=>simp[Ixo.cls]at hc
 |mrx _ _=>simp[Ixo.cls]at hc
 |mnz _=>simp[Ixo.cls]at hc
 |mkx _=>simp[Ixo.cls]at hc
 |mez _=>simp[Ixo.cls]at hc
 |snx _=>simp[Ixo.cls]at hc
 |srg nm x=>
  simp only[evX]at hE
  split at hE
  ·rename_i f h1 h2
   exact⟨_,hE,fun κ' k=>by simp only[evX,h1,h2];exact k,new_shape (by simp[Ixo.names]) h1 (by simp),rfl⟩
  ·exact hE.elim
 |mko nm=>
  simp only[evX]at hE
  split at hE
  ·rename_i h1
   exact⟨_,hE,fun κ' k=>by simp only[evX,h1];exact k,new_shape (by simp[Ixo.names]) h1 (by simp),rfl⟩
  ·exact hE.elim
 |paddr sz m x i=>
  simp only[evX]at hE
  split at hE
  ·rename_i h1 h2
   obtain⟨h3,h4⟩:=hE
   exact .val h4 fun κ' k=>by simp only[evX,h1,h2];exact⟨h3,k⟩
  ·rename_i h1 h2
   obtain⟨h3,h4⟩:=hE
   exact .val h4 fun κ' k=>by simp only[evX,h1,h2];exact⟨h3,k⟩
  ·exact hE.elim
 |mkm nm=>
  simp only[evX]at hE
  split at hE
  ·rename_i h1
   exact⟨_,hE,fun κ' k=>by simp only[evX,h1];exact k,new_shape (by simp[Ixo.names]) h1 (by simp),rfl⟩
  ·exact hE.elim
 |mpu kt m x v ne=>
  simp only[evX]at hE
  split at hE
  ·rename_i i kv vv h1 h2 h3
   split at hE
   ·rename_i ks us z v' h4 h5 h6
    split at hE
    ·rename_i e
     obtain⟨ks',us',h7,h8⟩:=hE.out
     refine⟨_,h8,fun κ' k=>by simp only[evX,h1,h2,h3,h4,h5,h6,if_pos e];exact mpI h7 k,fun p hp=>?_,rfl⟩
     simp only[upds,List.mem_append,List.mem_singleton]at hp
     rcases hp with hp|rfl
     ·have h9:=reach_has vv z h5 p hp
      exact⟨h9.2,(reach_iced vv z h5 p hp).1, .inr ⟨by simp[Ixo.cls],⟨v,by simp[Ixo.aopds],_,h3,by simp[AV.has,h9.1]⟩,fun e=>by simp[Ixo.hard]at e⟩⟩
     ·exact⟨by simp,(getD_dead h4 (by simp)).2, .inr ⟨by simp[Ixo.cls],⟨m,by simp[Ixo.aopds],_,h1,by simp[AV.has,AV.refsIn]⟩,fun e=>by simp[Ixo.hard]at e⟩⟩
    ·exact hE.elim
   ·rename_i ks us h4
    split at hE
    ·rename_i e
     obtain⟨ks',us',h7,h8⟩:=hE.out
     refine⟨_,h8,fun κ' k=>by simp only[evX,h1,h2,h3,h4,if_pos e];exact mpI h7 k,fun p hp=>?_,rfl⟩
     simp only[upds,List.mem_singleton]at hp
     subst hp
     exact⟨by simp,(getD_dead h4 (by simp)).2, .inr ⟨by simp[Ixo.cls],⟨m,by simp[Ixo.aopds],_,h1,by simp[AV.has,AV.refsIn]⟩,fun e=>by simp[Ixo.hard]at e⟩⟩
    ·exact hE.elim
   ·rename_i ks us bn n h4
    split at hE
    ·rename_i e
     obtain⟨ks',us',bn',n',h7,h8⟩:=hE.out
     refine⟨_,h8,fun κ' k=>by simp only[evX,h1,h2,h3,h4,if_pos e];exact mdI h7 k,fun p hp=>?_,rfl⟩
     simp only[upds,List.mem_singleton]at hp
     subst hp
     exact⟨by simp,(getD_dead h4 (by simp)).2, .inr ⟨by simp[Ixo.cls],⟨m,by simp[Ixo.aopds],_,h1,by simp[AV.has,AV.refsIn]⟩,fun e=>by simp[Ixo.hard]at e⟩⟩
    ·exact hE.elim
   ·exact hE.elim
  ·exact hE.elim
 |mpe kt z m x ne=>
  simp only[evX]at hE
  split at hE
  ·rename_i i kv h1 h2
   split at hE
   ·rename_i ks us bn n h4
    split at hE
    ·rename_i e
     obtain⟨v,b,ks',us',bn',n',h7,h8⟩:=hE.out
     refine⟨_,h8,fun κ' k=>by simp only[evX,h1,h2,h4,if_pos e];exact meI h7 k,fun p hp=>?_,rfl⟩
     simp only[upds,List.mem_singleton]at hp
     subst hp
     exact⟨by simp,(getD_dead h4 (by simp)).2, .inr ⟨by simp[Ixo.cls],⟨m,by simp[Ixo.aopds],_,h1,by simp[AV.has,AV.refsIn]⟩,fun e=>by simp[Ixo.hard]at e⟩⟩
    ·exact hE.elim
   ·exact hE.elim
  ·exact hE.elim
 |mes m st v ne=>
  simp only[evX]at hE
  split at hE
  ·rename_i i kd b vv h1 h2 h3
   split at hE
   ·rename_i ks us bn n h4
    split at hE
    ·rename_i e
     obtain⟨j,c,us',h5,h6,h7,h8⟩:=hE.out
     refine⟨_,h8,fun κ' k=>by simp only[evX,h1,h2,h3,h4,if_pos e];exact msI j c h5 h6 h7 k,fun p hp=>?_,rfl⟩
     simp only[upds,List.mem_singleton]at hp
     subst hp
     exact⟨by simp,(getD_dead h4 (by simp)).2, .inr ⟨by simp[Ixo.cls],⟨m,by simp[Ixo.aopds],_,h1,by simp[AV.has,AV.refsIn]⟩,fun e=>by simp[Ixo.hard]at e⟩⟩
    ·exact hE.elim
   ·exact hE.elim
  ·exact hE.elim
 |mrg nm m ne=>
  simp only[evX]at hE
  split at hE
  ·rename_i v h1 h2
   split at hE
   ·rename_i z ks us h5 h6
    split at hE
    ·rename_i e
     refine⟨_,hE,fun κ' k=>by simp only[evX,h1,h2,h5,h6,if_pos e];exact k,fun p hp=>?_,rfl⟩
     simp only[upds,List.mem_append,List.mem_singleton]at hp
     rcases hp with hp|rfl
     ·have h9:=reach_has v z h5 p hp
      exact⟨h9.2,(reach_iced v z h5 p hp).1, .inr ⟨by simp[Ixo.cls],⟨m,by simp[Ixo.aopds],_,h2,by simp[AV.has,h9.1]⟩,fun _=>(reach_iced v z h5 p hp).2.1⟩⟩
     ·exact⟨by simp,(getD_dead h1 (by simp)).2, .inl ⟨by simp[Ixo.names],h1⟩⟩
    ·exact hE.elim
   ·exact hE.elim
  ·exact hE.elim
 |stz ag n a x ne=>
  simp only[evX]at hE
  split at hE
  ·rename_i i off v h1 h2
   split at hE
   ·rename_i cs h3
    split at hE
    ·rename_i e
     obtain⟨vs,hc,hc2⟩:=cellsK_out hE
     obtain⟨h5,h6⟩:=hc
     split at h6
     ·rename_i h7
      refine⟨_,h6,fun κ' k=>by simp only[evX,h1,h2,h3,if_pos e];exact hc2 _ ⟨h5,by rw[if_pos h7];exact k⟩,fun p hp=>?_,rfl⟩
      simp only[upds,List.mem_singleton]at hp;subst hp
      exact⟨by simp,(getD_dead h3 (by simp)).2, .inr ⟨by simp[Ixo.cls],⟨a,by simp[Ixo.aopds],_,h1,by simp[AV.has,AV.refsIn]⟩,fun e=>by simp[Ixo.hard]at e⟩⟩
     ·exact h6.elim
    ·exact hE.elim
   ·exact hE.elim
  ·rename_i i sz m j v h1 h2
   split at hE
   ·rename_i el sz' es z v' h3 h4 h5
    split at hE
    ·rename_i e
     obtain⟨vs,hc,hc2⟩:=cellsK_out hE
     obtain⟨h6,h7⟩:=hc
     split at h7
     ·rename_i h8
      obtain⟨k1,k2,k3⟩:=h7
      split at k3
      ·rename_i k4
       refine⟨_,k3,fun κ' k=>by simp only[evX,h1,h2,h3,h4,h5,if_pos e];exact hc2 _ ⟨h6,by rw[if_pos h8];exact⟨k1,k2,by simp only[if_pos k4];exact k⟩⟩,fun p hp=>?_,rfl⟩
       simp only[upds,List.mem_append,List.mem_singleton]at hp
       rcases hp with hp|rfl
       ·have h9:=reach_has v z h4 p hp
        exact⟨h9.2,(reach_iced v z h4 p hp).1, .inr ⟨by simp[Ixo.cls],⟨x,by simp[Ixo.aopds],_,h2,by simp[AV.has,h9.1]⟩,fun e=>by simp[Ixo.hard]at e⟩⟩
       ·exact⟨by simp,(getD_dead h3 (by simp)).2, .inr ⟨by simp[Ixo.cls],⟨a,by simp[Ixo.aopds],_,h1,by simp[AV.has,AV.refsIn]⟩,fun e=>by simp[Ixo.hard]at e⟩⟩
      ·exact k3.elim
     ·exact h7.elim
    ·exact hE.elim
   ·exact hE.elim
  ·exact hE.elim
 |men x=>
  simp only[evX]at hE
  split at hE
  ·rename_i h1
   split at hE
   ·rename_i h2
    exact .val hE fun κ' k=>by simp only[evX,h1,h2];exact k
   ·exact hE.elim
  ·exact hE.elim
 |lkp kt ok z m x=>
  simp only[evX]at hE
  split at hE
  ·rename_i h1 h2
   obtain⟨r,h3,h4⟩:=hE.out
   exact .val h4 fun κ' k=>by simp only[evX,h1,h2];exact lkI h3 k
  ·rename_i h1 h2
   split at hE
   ·rename_i h5
    obtain⟨r,h3,h4⟩:=hE.out
    exact .val h4 fun κ' k=>by simp only[evX,h1,h2,h5];exact lkI h3 k
   ·rename_i h5
    obtain⟨r,h3,h4⟩:=hE.out
    exact .val h4 fun κ' k=>by simp only[evX,h1,h2,h5];exact lkI h3 k
   ·rename_i h5
    obtain⟨r,h3,h4⟩:=hE.out
    exact .val h4 fun κ' k=>by simp only[evX,h1,h2,h5];exact lkI h3 k
   ·exact hE.elim
  ·exact hE.elim
 |mlen x=>
  simp only[evX]at hE
  split at hE
  ·rename_i h1
   exact .val hE fun κ' k=>by simp only[evX,h1];exact k
  ·rename_i h1
   split at hE
   ·rename_i h3
    exact .val hE fun κ' k=>by simp only[evX,h1,h3];exact k
   ·exact hE.elim
  ·exact hE.elim
 |bsl nm el sz ps ne=>
  simp only[evX]at hE
  split at hE
  ·rename_i vs h1 h2
   split at hE
   ·rename_i es z h3 h4
    refine⟨_,hE,fun κ' k=>by simp only[evX,h1,h2,h3,h4];exact k,fun p hp=>?_,rfl⟩
    simp only[upds,List.mem_append,List.mem_singleton]at hp
    rcases hp with hp|rfl
    ·obtain⟨k1,k2,k7,v,k3,k4⟩:=rows_has h3 p hp
     obtain⟨q,k5,k6⟩:=evl_mem h2 v k3
     exact⟨k1,k2, .inr ⟨by simp[Ixo.cls],⟨q,k5,v,k6,k4⟩,fun _=>k7⟩⟩
    ·exact⟨by simp,(getD_dead h1 (by simp)).2, .inl ⟨by simp[Ixo.names],h1⟩⟩
   ·exact hE.elim
  ·exact hE.elim
 |apd nm el sz b x y ne=>
  simp only[evX]at hE
  split at hE
  ·rename_i u v h1 h2 h3
   split at hE
   ·rename_i es z es' h4 h5
    split at hE
    ·rename_i e
     cases hN:apdN u es' with
     |true=>
      rw[hN]at hE
      exact⟨.big [] u,hE.2.2,fun κ' k=>by simp only[evX,h1,h2,h3,h4,h5,if_pos e,hN];exact⟨hE.1,hE.2.1,k⟩,(fun p hp=>by cases hp),rfl⟩
     |false=>
     rw[hN]at hE
     refine⟨.big (z++[(nm, .row false el sz (es++es'))]) (.row nm),hE.2.2,fun κ' k=>by simp only[evX,h1,h2,h3,h4,h5,if_pos e,hN];exact⟨hE.1,hE.2.1,k⟩,fun p hp=>?_,rfl⟩
     simp only[upds,List.mem_append,List.mem_singleton]at hp
     rcases hp with hp|rfl
     ·cases u<;>simp only[srcO]at h4
      case nils=>cases h4;cases hp
      case row i=>
       split at h4
       ·rename_i hr
        split at h4<;>cases h4
        simp only[List.mem_singleton]at hp;subst hp
        exact⟨by simp,getD_lt (by rw[hr];simp), .inr ⟨by simp[Ixo.cls],⟨x,by simp[Ixo.aopds],_,h2,by simp[AV.has,AV.refsIn]⟩,fun e=>by simp[Ixo.hard]at e⟩⟩
       ·cases h4
      case tsl sz' es=>
       split at h4<;>cases h4
       cases hp
      case cut i sz' lo n=>
       split at h4
       ·rename_i hr
        split at h4<;>cases h4
        simp only[List.mem_singleton]at hp;subst hp
        exact⟨by simp,getD_lt (by rw[hr];simp), .inr ⟨by simp[Ixo.cls],⟨x,by simp[Ixo.aopds],_,h2,by simp[AV.has,AV.refsIn]⟩,fun e=>by simp[Ixo.hard]at e⟩⟩
       ·cases h4
      all_goals cases h4
     ·exact⟨by simp,(getD_dead h1 (by simp)).2, .inl ⟨by simp[Ixo.names],h1⟩⟩
    ·exact hE.elim
   ·exact hE.elim
  ·exact hE.elim
 |store ag n a x ne=>
  simp only[evX]at hE
  split at hE
  ·rename_i i off v h1 h2
   split at hE
   ·rename_i cs h3
    cases ag
    ·obtain⟨h4,h5,h6⟩:=hE
     split at h6
     ·rename_i h7
      exact⟨_,h6,fun κ' k=>by simp only[evX,h1,h2,h3];exact⟨h4,h5,by rw[if_pos h7];exact k⟩,set_shape rfl h1 (by simp[AV.has,AV.refsIn]) h3 (by simp) (by simp),rfl⟩
     ·exact h6.elim
    ·simp only[cellsK]at hE
     split at hE
     ·obtain⟨h5,h6⟩:=hE
      split at h6
      ·rename_i h7
       exact⟨_,h6,fun κ' k=>by simp only[evX,h1,h2,h3,cellsK];exact⟨h5,by rw[if_pos h7];exact k⟩,set_shape rfl h1 (by simp[AV.has,AV.refsIn]) h3 (by simp) (by simp),rfl⟩
      ·exact h6.elim
     ·exact hE.elim
   ·exact hE.elim
  ·rename_i i sz m j v h1 h2
   split at hE
   ·rename_i el sz' es h3
    have key:∀vs,need (vs.all AV.one=true) (if sz'=sz/\vs.length=n/\AV.puL vs=true/\neOk s i ne=true then
      match AV.frzL s.sg 8 vs with
      |some vs'=>iaE es m fun cs=>if j+n<=cs.length then κ (.set i (.row false el sz (es.set m (splice cs j vs')))) else False
      |none=>False
     else False)->∃e,κ e/\(∀ κ':Eff->Prop,κ' e->need (vs.all AV.one=true) (if sz'=sz/\vs.length=n/\AV.puL vs=true/\neOk s i ne=true then
      match AV.frzL s.sg 8 vs with
      |some vs'=>iaE es m fun cs=>if j+n<=cs.length then κ' (.set i (.row false el sz (es.set m (splice cs j vs')))) else False
      |none=>False
     else False))/\Shape (.store ag n a x ne) s e/\e.isYl=false:=fun vs hh=>by
     obtain⟨k1,k2⟩:=hh
     split at k2
     ·rename_i hc
      split at k2
      ·rename_i vs' hf
       obtain⟨k3,k4,k5⟩:=k2
       split at k5
       ·rename_i k6
        exact⟨_,k5,fun κ' k=>⟨k1,by rw[if_pos hc];(try simp only[hf]);exact⟨k3,k4,by simp only[if_pos k6];exact k⟩⟩,set_shape rfl h1 (by simp[AV.has,AV.refsIn]) h3 (by simp) (by simp),rfl⟩
       ·exact k5.elim
      ·exact k2.elim
     ·exact k2.elim
    cases ag
    ·obtain⟨e,k1,k2,k3⟩:=key _ hE.2
     exact⟨e,k1,fun κ' k=>by simp only[evX,h1,h2,h3,cellsK];exact⟨hE.1,k2 κ' k⟩,k3⟩
    ·simp only[cellsK]at hE
     split at hE
     ·obtain⟨e,k1,k2,k3⟩:=key _ hE
      exact⟨e,k1,fun κ' k=>by simp only[evX,h1,h2,h3,cellsK];exact k2 κ' k,k3⟩
     ·exact hE.elim
   ·exact hE.elim
  ·exact hE.elim
 |mkmt f xs=>
  simp only[evX]at hE
  split at hE
  ·rename_i h1
   split at hE
   ·rename_i h2 h3
    exact .val hE fun κ' k=>by simp only[evX,h1,h2,h3];exact k
   ·exact hE.elim
  ·exact hE.elim
 |_=>
  simp only[evX,wrE]at hE
  split at hE<;>first
   |exact hE.elim
   |(rename_i h1;exact .val hE fun κ' k=>by simp only[evX,wrE,h1];exact k)
def St.lit(s:St)(j:Nat)(b:Bool):St:={ s with tm:=(j, .bool b)::s.tm }
def evG(E:Env)(o:IOp)(s:St)(k:St->Prop):Prop:=
 match o.g with
 |none=>evO E o.d o.o s k
 |some (j,want)=>match look s.tm j with
  |some (.bool b)=>brB b
   (match want with
    |true=>evO E o.d o.o (s.lit j true) k
    |false=>k ((s.lit j true).put o.d (.tup [])))
   (match want with
    |false=>evO E o.d o.o (s.lit j false) k
    |true=>k ((s.lit j false).put o.d (.tup [])))
  |some (.tup [])=>k (s.put o.d (.tup []))
  |_=>False
theorem evs_cons{E:Env}{o:IOp}{os:List IOp}{s:St}{k:St->Prop}:evs E (o::os) s k<->evG E o s fun s'=>evs E os s' k:=by
 simp only[evs,evG,St.lit]
 all_goals
  cases o.g with
  |none=>exact Iff.rfl
  |some jw=>
   obtain⟨j,want⟩:=jw
   simp only
   cases look s.tm j with
   |none=>exact Iff.rfl
   |some v=>cases v<;>try exact Iff.rfl
def Eqv(s r:St):Prop:=(∀d,look s.tm d=look r.tm d)/\s.sg=r.sg/\s.gh=r.gh
theorem Eqv.refl(s:St):Eqv s s:=⟨fun _=>rfl,rfl,rfl⟩
theorem Eqv.symm{s r:St}(h:Eqv s r):Eqv r s:=⟨fun d=>(h.1 d).symm,h.2.1.symm,h.2.2.symm⟩
theorem Eqv.trans{s r t:St}(h:Eqv s r)(k:Eqv r t):Eqv s t:=⟨fun d=>(h.1 d).trans (k.1 d),h.2.1.trans k.2.1,h.2.2.trans k.2.2⟩
theorem Eqv.put{s r:St}(h:Eqv s r)(d:Option Nat)(v:AV):Eqv (s.put d v) (r.put d v):=by
 cases d with
 |none=>exact h
 |some d=>exact⟨fun i=>by simp only[St.put,look,h.1 i],h.2.1,h.2.2⟩
theorem Eqv.app{s r:St}(h:Eqv s r)(d:Option Nat)(e:Eff):Eqv (app d s e) (Go.Eng.app d r e):=by
 cases e with
 |val v=>exact h.put d v
 |new nm q v=>exact Eqv.put (s:={ s with sg:=s.sg.set nm q }) (r:={ r with sg:=r.sg.set nm q }) ⟨h.1,by simp only[h.2.1],h.2.2⟩ d v
 |set i q=>exact⟨h.1,by simp only[Go.Eng.app,h.2.1],h.2.2⟩
 |big l v=>exact Eqv.put (s:={ s with sg:=setL s.sg l }) (r:={ r with sg:=setL r.sg l }) ⟨h.1,by simp only[h.2.1],h.2.2⟩ d v
 |yl g v=>exact Eqv.put (s:={ s with gh:=g }) (r:={ r with gh:=g }) ⟨h.1,h.2.1,rfl⟩ d v
 |ylz l g v=>exact Eqv.put (s:={ s with sg:=setL s.sg l,gh:=g }) (r:={ r with sg:=setL r.sg l,gh:=g }) ⟨h.1,by simp only[h.2.1],rfl⟩ d v
theorem Eqv.ev{s r:St}(h:Eqv s r)(p:Opd):s.ev p=r.ev p:=by
 cases p with
 |t i=>exact h.1 i
 |c v=>rfl
theorem Eqv.lit{s:St}{j:Nat}{b:Bool}(h:look s.tm j=some (.bool b)):Eqv (s.lit j b) s:=by
 refine⟨fun d=>?_,rfl,rfl⟩
 simp only[St.lit,look]
 split
 ·rename_i e;subst e;exact h.symm
 ·rfl
def Resp(k:St->Prop):Prop:=∀s r,Eqv s r->k s->k r
theorem evX_eqv{E:Env}{z:Ixo}{s r:St}{κ : Eff->Prop}(h:Eqv s r)(hE:evX E z s κ):evX E z r κ :=
 evX_trans (keep:=fun _=>true) ⟨fun p _=>(h.ev p).symm,fun _ i _=>by rw[h.2.1],fun _ i _=>by rw[h.2.1],fun p _ v _=>AV.refsIn_all (fun _=>rfl) v,fun _ i _=>AV.refsInL_all (fun _=>rfl) _,fun _ _=>rfl,fun _=>h.2.2.symm⟩ (fun _=>⟨h.2.1.symm,h.2.2.symm⟩) hE
theorem evO_eqv{E:Env}{d:Option Nat}{z:Ixo}{s r:St}{k:St->Prop}(hk:Resp k)(h:Eqv s r)(hE:evO E d z s k):evO E d z r k:=
 evX_mono (evX_eqv h hE) fun e he=>hk _ _ (h.app d e) he
theorem evG_eqv{E:Env}{o:IOp}{s r:St}{k:St->Prop}(hk:Resp k)(h:Eqv s r)(hE:evG E o s k):evG E o r k:=by
 have hlit:∀j b,Eqv (s.lit j b) (r.lit j b):=fun j b=>⟨fun d=>by simp only[St.lit,look,h.1 d],h.2.1,h.2.2⟩
 unfold evG at hE⊢
 cases hg:o.g with
 |none=>rw[hg]at hE;exact evO_eqv hk h hE
 |some jw=>
  obtain⟨j,want⟩:=jw
  rw[hg]at hE
  simp only[<- h.1 j]at hE⊢
  split at hE
  ·cases want
   ·exact⟨fun e=>hk _ _ ((hlit j true).put _ _) (hE.1 e),fun e=>evO_eqv hk (hlit j false) (hE.2 e)⟩
   ·exact⟨fun e=>evO_eqv hk (hlit j true) (hE.1 e),fun e=>hk _ _ ((hlit j false).put _ _) (hE.2 e)⟩
  ·exact hk _ _ (h.put _ _) hE
  ·exact hE.elim
theorem evs_resp{E:Env}{k:St->Prop}(hk:Resp k):∀(os:List IOp),Resp fun s=>evs E os s k
 | []=>hk
 |_::os=>fun _ _ h hE=>evs_cons.2 (evG_eqv (evs_resp hk os) h (evs_cons.1 hE))
theorem evX_shape{E:Env}{s:St}{z:Ixo}{κ : Eff->Prop}(hw:z.isW=false)(hE:evX E z s κ):evX E z s fun e => κ e/\Shape z s e:=by
 by_cases hc:z.cls=2\/z.cls=5
 ·cases z with
  |call f xs=>
   simp only[evX]at hE⊢
   split at hE
   ·rcases hE with⟨args',R,h1,h1',h2,h3⟩|⟨args',R,h1,h2,h3⟩
    ·exact .inl ⟨args',R,h1,h1',h2,fun r hr=>⟨h3 r hr,Shape.val⟩⟩
    ·exact .inr ⟨args',R,h1,h2,fun r hr=>⟨(h3 r hr).1,(h3 r hr).2,Shape.val⟩⟩
   ·exact hE.elim
  |callv g xs=>
   simp only[evX]at hE⊢
   split at hE
   ·split at hE
    ·obtain⟨y1,k',y2,y3,y4,y5⟩:=hE
     exact⟨y1,k',y2,y3,⟨y4,fun p hp=>by cases hp⟩,⟨y5,fun p hp=>by cases hp⟩⟩
    rcases hE with⟨g',args',R,h0,h1,h0',h1',h2,h3⟩|⟨g',args',R,h0,h1,h2,h3⟩
    ·exact .inl ⟨g',args',R,h0,h1,h0',h1',h2,fun r hr=>⟨h3 r hr,Shape.val⟩⟩
    ·exact .inr ⟨g',args',R,h0,h1,h2,fun r hr=>⟨(h3 r hr).1,(h3 r hr).2,Shape.val⟩⟩
   ·exact hE.elim
  |callz nm ct f xs ne=>
   simp only[evX]at hE⊢
   split at hE
   ·rename_i vs hv
    split at hE
    ·rename_i e;rw[if_pos e]
     obtain⟨args',z,k1,k2,k3⟩:=hE
     have old:∀p∈z,p.2 ≠ .fresh/\p.1<s.sg.length/\((p.1∈(Ixo.callz nm ct f xs ne).names/\s.sg.getD p.1 .dead = .fresh)\/(3<=(Ixo.callz nm ct f xs ne).cls/\(∃q∈(Ixo.callz nm ct f xs ne).aopds,∃v,s.ev q=some v/\v.has p.1=true)/\((Ixo.callz nm ct f xs ne).hard=false->p.2=(s.sg.getD p.1 .fresh).ice))):=fun p hp=>by
      obtain⟨q1,q2⟩:=reachL_has vs z k1 p hp
      obtain⟨v,q3,q4⟩:=refsL_mem q1
      obtain⟨q,q5,q6⟩:=evl_mem hv v q3
      exact⟨q2,(reachL_iced vs z k1 p hp).1, .inr ⟨by simp[Ixo.cls],⟨q,q5,v,q6,by simp[AV.has,q4]⟩,fun _=>(reachL_iced vs z k1 p hp).2.1⟩⟩
     refine⟨args',z,k1,k2,?_⟩
     have fresh:∀rows,rowsB ct rows=true->∀p∈nameR rows nm,p.2 ≠ .fresh/\p.1<s.sg.length/\((p.1∈(Ixo.callz nm ct f xs ne).names/\s.sg.getD p.1 .dead = .fresh)\/(3<=(Ixo.callz nm ct f xs ne).cls/\(∃q∈(Ixo.callz nm ct f xs ne).aopds,∃v,s.ev q=some v/\v.has p.1=true)/\((Ixo.callz nm ct f xs ne).hard=false->p.2=(s.sg.getD p.1 .fresh).ice))):=fun rows hrb p hp=>by
      obtain⟨j,hj,hp1,i,hp2⟩:=nameR_mem hp
      obtain⟨c1,c2⟩:=rowsB_ok hrb
      have hjc:j<ct:=Nat.lt_of_lt_of_le hj c1
      have hf:=freshN_iff.1 e.2 j hjc
      exact⟨c2 (i,p.2) hp2,by rw[hp1];exact(getD_dead hf (by simp)).2, .inl ⟨by simp[Ixo.names,List.mem_range',hp1];exact hjc,by rw[hp1];exact hf⟩⟩
     rcases k3 with⟨R,k3,k4⟩|⟨R,k3,k4⟩|⟨R,k3,k4⟩
     ·exact .inl ⟨R,k3,fun r hr=>⟨k4 r hr,fun p hp=>old p hp⟩⟩
     ·refine .inr (.inl ⟨R,k3,fun r rows hr=>⟨(k4 r rows hr).1,(k4 r rows hr).2,fun p hp=>?_⟩⟩)
      rcases List.mem_append.1 hp with hp|hp
      ·exact old p hp
      ·exact fresh rows (k4 r rows hr).1 p hp
     ·exact .inr (.inr ⟨R,k3,fun r rows hr=>⟨(k4 r rows hr).1,(k4 r rows hr).2.1,(k4 r rows hr).2.2.1,(k4 r rows hr).2.2.2,fun p hp=>fresh rows (k4 r rows hr).1 p hp⟩⟩)
    ·exact hE.elim
   ·exact hE.elim
  |callw nm ct f xs=>simp[Ixo.isW]at hw
  |callx g xs=>simp[Ixo.isW]at hw
  |mrx nm m=>simp[Ixo.isW]at hw
  |mnz x=>simp[Ixo.isW]at hw
  |mkx nm=>simp[Ixo.isW]at hw
  |mez x=>simp[Ixo.isW]at hw
  |mnx x=>
   simp only[evX]at hE⊢
   split at hE
   ·rename_i i hx
    split at hE
    ·rename_i hr
     refine nxI (fun j kv uv h1 h2 h3=>⟨hE.some j kv uv h1 h2 h3,fun p hp=>?_⟩) (fun h1=>⟨hE.none h1,Shape.val⟩)
     simp only[upds,List.mem_singleton]at hp
     subst hp
     exact⟨by simp,(getD_dead hr (by simp)).2, .inr ⟨by simp[Ixo.cls],⟨x,by simp[Ixo.aopds],_,hx,by simp[AV.has,AV.refsIn]⟩,fun e=>by simp[Ixo.hard]at e⟩⟩
    ·exact hE.elim
   ·exact hE.elim
  |snx x=>
   simp only[evX]at hE⊢
   split at hE
   ·rename_i i hx
    split at hE
    ·rename_i hr
     refine snI (fun h1=>⟨hE.some h1,fun p hp=>?_⟩) (fun h1=>⟨hE.none h1,Shape.val⟩)
     simp only[upds,List.mem_singleton]at hp
     subst hp
     exact⟨by simp,(getD_dead hr (by simp)).2, .inr ⟨by simp[Ixo.cls],⟨x,by simp[Ixo.aopds],_,hx,by simp[AV.has,AV.refsIn]⟩,fun e=>by simp[Ixo.hard]at e⟩⟩
    ·exact hE.elim
   ·exact hE.elim
  |_=>simp[Ixo.cls]at hc
 ·obtain⟨e,h1,h2,h3,_⟩:=evX_det hE (by omega)
  exact h2 _ ⟨h1,h3⟩
def evGX(E:Env)(o:IOp)(s:St)(κ : Eff->Prop):Prop:=
 match o.g with
 |none=>evX E o.o s κ
 |some (j,want)=>match look s.tm j with
  |some (.bool b)=>if b=want then evX E o.o s κ else κ (.val (.tup []))
  |some (.tup []) => κ (.val (.tup []))
  |_=>False
theorem evG_iff{E:Env}{o:IOp}{s:St}{k:St->Prop}(hk:Resp k):evG E o s k<->evGX E o s fun e=>k (app o.d s e):=by
 unfold evG evGX
 cases o.g with
 |none=>exact Iff.rfl
 |some jw=>
  obtain⟨j,want⟩:=jw
  simp only
  cases hl:look s.tm j with
  |none=>exact Iff.rfl
  |some v=>
   cases v with
   |bool b=>
    have hq:=Eqv.lit hl
    have hr:Resp fun s=>k s:=hk
    cases b<;>cases want
    ·simp only[if_true]
     exact⟨fun h=>evX_mono (evX_eqv hq (h.2 rfl)) fun e he=>hk _ _ (hq.app o.d e) he,fun h=>⟨fun e=>absurd e (by simp),fun _=>evX_mono (evX_eqv hq.symm h) fun e he=>hk _ _ (hq.symm.app o.d e) he⟩⟩
    ·simp only[Bool.false_eq_true,if_false]
     exact⟨fun h=>hk _ _ (hq.put o.d _) (h.2 rfl),fun h=>⟨fun e=>absurd e (by simp),fun _=>hk _ _ (hq.symm.put o.d _) h⟩⟩
    ·simp only[Bool.true_eq_false,if_false]
     exact⟨fun h=>hk _ _ (hq.put o.d _) (h.1 rfl),fun h=>⟨fun _=>hk _ _ (hq.symm.put o.d _) h,fun e=>absurd e (by simp)⟩⟩
    ·simp only[if_true]
     exact⟨fun h=>evX_mono (evX_eqv hq (h.1 rfl)) fun e he=>hk _ _ (hq.app o.d e) he,fun h=>⟨fun _=>evX_mono (evX_eqv hq.symm h) fun e he=>hk _ _ (hq.symm.app o.d e) he,fun e=>absurd e (by simp)⟩⟩
   |tup vs=>cases vs<;>exact Iff.rfl
   |_=>exact Iff.rfl
theorem evGX_mono{E:Env}{o:IOp}{s:St}{κ κ':Eff->Prop}(hE:evGX E o s κ)(hk:∀e,κ e -> κ' e):evGX E o s κ':=by
 unfold evGX at hE⊢
 split
 ·rename_i h;simp only[h]at hE;exact evX_mono hE hk
 ·rename_i j want h;simp only[h]at hE
  split
  ·rename_i h2;simp only[h2]at hE
   split
   ·rename_i h3;rw[if_pos h3]at hE;exact evX_mono hE hk
   ·rename_i h3;rw[if_neg h3]at hE;exact hk _ hE
  ·rename_i h2;simp only[h2]at hE;exact hk _ hE
  ·rename_i h2 h3;revert hE;split
   ·rename_i h4;exact absurd h4 (h2 _)
   ·rename_i h4;exact absurd h4 h3
   ·exact id
theorem evGX_shape{E:Env}{o:IOp}{s:St}{κ : Eff->Prop}(hw:o.o.isW=false)(hE:evGX E o s κ):evGX E o s fun e => κ e/\Shape o.o s e:=by
 unfold evGX at hE⊢
 split
 ·rename_i h;simp only[h]at hE;exact evX_shape hw hE
 ·rename_i j want h;simp only[h]at hE
  split
  ·rename_i h2;simp only[h2]at hE
   split
   ·rename_i h3;rw[if_pos h3]at hE;exact evX_shape hw hE
   ·rename_i h3;rw[if_neg h3]at hE;exact⟨hE,Shape.val⟩
  ·rename_i h2;simp only[h2]at hE;exact⟨hE,Shape.val⟩
  ·rename_i h2 h3;revert hE;split
   ·rename_i h4;exact absurd h4 (h2 _)
   ·rename_i h4;exact absurd h4 h3
   ·exact id
theorem evGX_trans{E:Env}{keep:Nat->Bool}{o:IOp}{s r:St}{κ : Eff->Prop}(h:Agr keep s r o.o)(hw:o.o.isW=true->r.sg=s.sg/\r.gh=s.gh)(hg:∀j w,o.g=some (j,w)->look r.tm j=look s.tm j)(hE:evGX E o s κ):evGX E o r κ :=by
 unfold evGX at hE⊢
 cases hog:o.g with
 |none=>rw[hog]at hE;exact evX_trans h hw hE
 |some jw=>
  obtain⟨j,want⟩:=jw
  rw[hog]at hE
  simp only[hg j want hog]at hE⊢
  split
  ·rename_i h2;simp only[h2]at hE
   split
   ·rename_i h3;rw[if_pos h3]at hE;exact evX_trans h hw hE
   ·rename_i h3;rw[if_neg h3]at hE;exact hE
  ·rename_i h2;simp only[h2]at hE;exact hE
  ·rename_i h2 h3;revert hE;split
   ·rename_i h4;exact absurd h4 (h2 _)
   ·rename_i h4;exact absurd h4 h3
   ·exact id
theorem evGX_det{E:Env}{o:IOp}{s:St}{κ : Eff->Prop}(hE:evGX E o s κ)(hc:o.o.cls≠2/\o.o.cls≠5):∃e,κ e/\(∀ κ':Eff->Prop,κ' e->evGX E o s κ')/\Shape o.o s e/\e.isYl=false:=by
 unfold evGX at hE⊢
 cases hog:o.g with
 |none=>rw[hog]at hE;exact evX_det hE hc
 |some jw=>
  obtain⟨j,want⟩:=jw
  rw[hog]at hE
  simp only at hE⊢
  cases hl:look s.tm j with
  |none=>rw[hl]at hE;exact hE.elim
  |some v=>
   rw[hl]at hE
   cases v with
   |bool b=>
    simp only at hE⊢
    split at hE
    ·rename_i h3
     obtain⟨e,h1,h2,h4⟩:=evX_det hE hc
     exact⟨e,h1,fun κ' hk=>by rw[if_pos h3];exact h2 κ' hk,h4⟩
    ·rename_i h3
     exact⟨_,hE,fun κ' hk=>by rw[if_neg h3];exact hk,Shape.val,rfl⟩
   |tup vs=>
    cases vs with
    |nil=>exact⟨_,hE,fun κ' hk=>hk,Shape.val,rfl⟩
    |cons _ _=>exact hE.elim
   |_=>exact hE.elim
def Opd.slots:Opd->List Nat
 |.t i=>[i]
 |.c _=>[]
def Opd.ok:Opd->Bool
 |.t _=>true
 |.c v=>v.pu
def IOp.slots(o:IOp):List Nat:=(match o.g with|some (j,_)=>[j]|none=>[])++o.o.opds.flatMap Opd.slots
def Opd.beq:Opd->Opd->Bool
 |.t i, .t j=>i==j
 |_,_=>false
def lkMe(x y:Ixo):Bool:=
 match y with
 |.mpe _ _ _ _ _=>match x with
  |.lkp _ _ _ _ _=>true
  |_=>false
 |_=>false
def apart(x y:Ixo):Bool := !lkMe x y&&x.aopds.all fun a=>match a with
 |.t _=>y.nes.any a.beq
 |.c _=>true
def swapOk(x y:IOp):Bool:=
 (match x.d with|some d => !(y.slots.contains d)&&(match y.d with|some e=>d != e|none=>true)|none=>true) &&
 (match y.d with|some d => !(x.slots.contains d)|none=>true) &&
 (match x.o.cls with
  |0=>true
  |1=>(!y.o.hard&&x.g.isNone)||decide (y.o.cls<3)||(apart x.o y.o&&y.g.isNone&&x.g.isNone)
  |3=>x.g.isNone&&(y.o.cls==0||(decide (3<=y.o.cls)&&y.g.isNone&&apart x.o y.o))
  |4=>x.g.isNone&&(y.o.cls==0||(decide (3<=y.o.cls)&&y.g.isNone&&apart x.o y.o))
  |_=>false) &&
 (x.o.names.all fun i => !(y.o.names.contains i)) &&
 x.o.opds.all Opd.ok&&y.o.opds.all Opd.ok && !x.o.isW&&(!y.o.isW||x.o.cls==0)
def tch(e:Eff):List Nat:=(upds e).map (·.1)
def keepOf(e:Eff)(i:Nat):Bool := !(tch e).contains i
theorem keepOf_iff{e:Eff}{i:Nat}:keepOf e i=true<->i∉tch e:=by simp[keepOf]
theorem look_app{d:Option Nat}{s:St}{e:Eff}{i:Nat}(h:∀j,d=some j->j≠i):look (app d s e).tm i=look s.tm i:=by
 cases e<;>cases d<;>simp only[app,St.put,look]<;>first|rfl|(rw[if_neg (h _ rfl)])
theorem ev_app{d:Option Nat}{s:St}{e:Eff}{p:Opd}(h:∀j,d=some j->j∉p.slots):(app d s e).ev p=s.ev p:=by
 cases p with
 |t i=>exact look_app fun j hj=>by have:=h j hj;simpa[Opd.slots]using this
 |c v=>rfl
theorem app_sg{d:Option Nat}{s:St}{e:Eff}:(app d s e).sg=setL s.sg (upds e):=by
 cases e<;>cases d<;>rfl
theorem setL_set:∀(l:List (Nat × Res)) (sg:List Res) (i:Nat) (r:Res),i∉l.map (·.1)->setL (sg.set i r) l=(setL sg l).set i r
 | [],sg,i,r,_=>rfl
 |(j,q)::l,sg,i,r,h=>by
  simp only[List.map_cons,List.mem_cons,not_or]at h
  simp only[setL]
  rw[List.set_comm _ _ h.1,setL_set l _ i r h.2]
theorem setL_comm:∀(l m:List (Nat × Res)) (sg:List Res),(∀i,i∈l.map (·.1)->i∉m.map (·.1))->setL (setL sg l) m=setL (setL sg m) l
 | [],m,sg,_=>rfl
 |(j,r)::l,m,sg,h=>by
  simp only[setL]
  rw[setL_comm l m _ (fun i hi=>h i (by simp at hi⊢;exact .inr hi)),setL_set m sg j r (h j (by simp))]
theorem sg_app{d:Option Nat}{s:St}{e:Eff}{i:Nat}(hi:keepOf e i=true):(app d s e).sg[i]?=s.sg[i]?:=by
 rw[app_sg];exact setL_other _ _ _ (keepOf_iff.1 hi)
theorem app_comm{dx dy:Option Nat}(hd:∀i j,dx=some i->dy=some j->i≠j){s:St}{ex ey:Eff}(hy:ex.isYl=false)(hn:∀i,i∈tch ex->i∉tch ey):Eqv (app dy (app dx s ex) ey) (app dx (app dy s ey) ex):=by
 refine⟨fun t=>?_,?_,?_⟩
 ·have one:∀(d:Option Nat) (s:St) (e:Eff),(∃i v,d=some i/\∀s:St,(app d s e).tm=(i,v)::s.tm)\/∀s:St,(app d s e).tm=s.tm:=fun d s e=>by
   cases d with
   |none=>right;intro s;cases e<;>rfl
   |some i=>cases e with
    |val v=>exact .inl ⟨i,v,rfl,fun s=>rfl⟩
    |new nm r v=>exact .inl ⟨i,v,rfl,fun s=>rfl⟩
    |set j q=>exact .inr fun s=>rfl
    |big l v=>exact .inl ⟨i,v,rfl,fun s=>rfl⟩
    |yl g v=>exact .inl ⟨i,v,rfl,fun s=>rfl⟩
    |ylz l g v=>exact .inl ⟨i,v,rfl,fun s=>rfl⟩
  rcases one dx s ex with⟨i,v,rfl,h1⟩|h1<;>rcases one dy s ey with⟨j,u,rfl,h2⟩|h2<;>simp only[h1,h2]
  have hne:=hd i j rfl rfl
  simp only[look]
  split
  ·rename_i e;subst e;rw[if_neg hne]
  ·rfl
 ·simp only[app_sg];exact setL_comm _ _ _ hn
 ·have g:∀(d:Option Nat) (s:St) (e:Eff),e.isYl=false->(app d s e).gh=s.gh:=fun d s e he=>by cases e<;>cases d<;>first|rfl|cases he
  rw[g dx _ ex hy]
  cases ey<;>cases dy<;>first|rfl|exact g dx s ex hy
theorem held{X:Sess}{C:Ctx}{s:St}{a:Act}(h:Rel X C s a){i:Nat}(hf:s.sg.getD i .dead = .fresh){p:Opd}(hp:Opd.ok p=true){v:AV}(hv:s.ev p=some v):v.has i=false:=by
 obtain⟨hf',_⟩:=getD_dead hf (by simp)
 have hun:=h.unbound hf'
 have:(v.refsIn fun j=>j != i)=true:=by
  cases p with
  |t d=>exact RV.unbound hun v _ (h.tm d v hv)
  |c u=>simp only[St.ev,Option.some.injEq]at hv;subst hv;exact pu_refs' u hp
 simp[AV.has,this]
theorem aopds_sub(z:Ixo):∀p∈z.aopds,p∈z.opds:=by
 cases z<;>simp[Ixo.aopds,Ixo.opds]<;>(intros;simp_all)
theorem evX_fresh{E:Env}{z:Ixo}{s:St}{κ : Eff->Prop}{j:Nat}(hj:j∈z.names)(hE:evX E z s κ):s.sg.getD j .dead = .fresh:=by
 cases z with
 |callw nm ct f xs=>
  simp only[Ixo.names,List.mem_range']at hj
  obtain⟨i,hi,rfl⟩:=hj
  simp only[evX]at hE
  split at hE
  ·split at hE
   ·rename_i h;have:=freshN_iff.1 h i hi;simpa using this
   ·exact hE.elim
  ·exact hE.elim
 |callz nm ct f xs ne=>
  simp only[Ixo.names,List.mem_range']at hj
  obtain⟨i,hi,rfl⟩:=hj
  simp only[evX]at hE
  split at hE
  ·split at hE
   ·rename_i h;have:=freshN_iff.1 h.2 i hi;simpa using this
   ·exact hE.elim
  ·exact hE.elim
 |_=>simp only[Ixo.names,List.mem_singleton,List.not_mem_nil]at hj<;>(try subst hj)<;>simp only[evX]at hE<;>split at hE<;>first|assumption|exact hE.elim
theorem evX_nes{E:Env}{z:Ixo}{s:St}{κ : Eff->Prop}(hE:evX E z s κ)(hc:3<=z.cls):∀q∈z.nes,∃v,s.ev q=some v/\∀p∈z.aopds,∀u,s.ev p=some u->∀i,v.has i=true->u.has i=false:=by
 have h1:∀(ne:List Opd) (i:Nat),neOk s i ne=true->∀q∈ne,∃v,s.ev q=some v/\(v.refsIn fun j=>j != i)=true:=fun ne i=>by
  induction ne with
  |nil=>intro _ q hq;cases hq
  |cons p ps ih=>
   intro h q hq
   simp only[neOk,Bool.and_eq_true]at h
   rcases List.mem_cons.1 hq with rfl|hq
   ·have:=h.1
    split at this
    ·rename_i v hv;exact⟨v,hv,this⟩
    ·cases this
   ·exact ih h.2 q hq
 have h2:∀(ne:List Opd) (us:List AV),neOkL s us ne=true->∀q∈ne,∃v,s.ev q=some v/\apartVs v us=true:=fun ne us=>by
  induction ne with
  |nil=>intro _ q hq;cases hq
  |cons p ps ih=>
   intro h q hq
   simp only[neOkL,Bool.and_eq_true]at h
   rcases List.mem_cons.1 hq with rfl|hq
   ·have:=h.1
    split at this
    ·rename_i v hv;exact⟨v,hv,this⟩
    ·cases this
   ·exact ih h.2 q hq
 have h3:∀(i:Nat) (a:Opd) (u:AV),s.ev a=some u->(∀j,u.has j=true->j=i)->∀ne,neOk s i ne=true->∀q∈ne,∃v,s.ev q=some v/\∀p∈[a],∀u,s.ev p=some u->∀i,v.has i=true->u.has i=false:=fun i a u ha hu ne hn q hq=>by
  obtain⟨v,k1,k2⟩:=h1 ne i hn q hq
  refine⟨v,k1,fun p hp u' hu' j hj=>?_⟩
  simp only[List.mem_singleton]at hp;subst hp
  rw[ha]at hu';cases hu'
  cases hh:u.has j with
  |false=>rfl
  |true=>
   have:=hu j hh
   subst this
   simp[AV.has,k2]at hj
 cases z with
 |store ag n a x ne=>
  simp only[evX]at hE
  split at hE
  ·rename_i i off v ha hx
   split at hE
   ·refine h3 i a _ ha (fun j hj=>by simp[AV.has,AV.refsIn]at hj;exact hj.symm) ne ?_
    cases ag
    ·obtain⟨_,_,hE⟩:=hE
     split at hE
     ·rename_i hc;exact hc.2.2
     ·exact hE.elim
    ·simp only[cellsK]at hE
     split at hE
     ·obtain⟨_,hE⟩:=hE
      split at hE
      ·rename_i hc;exact hc.2.2
      ·exact hE.elim
     ·exact hE.elim
   ·exact hE.elim
  ·rename_i i sz m j v ha hx
   split at hE
   ·refine h3 i a _ ha (fun j hj=>by simp[AV.has,AV.refsIn]at hj;exact hj.symm) ne ?_
    cases ag
    ·obtain⟨_,_,hE⟩:=hE
     split at hE
     ·rename_i hc;exact hc.2.2.2
     ·exact hE.elim
    ·simp only[cellsK]at hE
     split at hE
     ·obtain⟨_,hE⟩:=hE
      split at hE
      ·rename_i hc;exact hc.2.2.2
      ·exact hE.elim
     ·exact hE.elim
   ·exact hE.elim
  ·exact hE.elim
 |bsl nm el sz ps ne=>
  simp only[evX]at hE
  split at hE
  ·rename_i vs hf hv
   split at hE
   ·rename_i hn
    intro q hq
    obtain⟨v,k1,k2⟩:=h2 ne vs hn q hq
    exact⟨v,k1,fun p hp u hu i hi=>apartVs_ok k2 u (by
     obtain⟨w,q1,q2⟩:=evl_get hv p hp
     rw[hu]at q1;cases q1;exact q2) hi⟩
   ·exact hE.elim
  ·exact hE.elim
 |apd nm el sz b x y ne=>
  simp only[evX]at hE
  split at hE
  ·rename_i u w hf hu hw
   split at hE
   ·split at hE
    ·rename_i hn
     intro q hq
     obtain⟨v,k1,k2⟩:=h2 ne _ hn.2 q hq
     refine⟨v,k1,fun p hp u' hu' i hi=>apartVs_ok k2 u' ?_ hi⟩
     simp only[Ixo.aopds,List.mem_cons,List.not_mem_nil,or_false]at hp
     rcases hp with rfl|rfl
     ·rw[hu]at hu';cases hu';simp
     ·rw[hw]at hu';cases hu';simp
    ·exact hE.elim
   ·exact hE.elim
  ·exact hE.elim
 |callz nm ct f xs ne=>
  simp only[evX]at hE
  split at hE
  ·rename_i vs hv
   split at hE
   ·rename_i hn
    intro q hq
    obtain⟨v,k1,k2⟩:=h2 ne vs hn.1 q hq
    exact⟨v,k1,fun p hp u hu i hi=>apartVs_ok k2 u (by
     obtain⟨w,q1,q2⟩:=evl_get hv p hp
     rw[hu]at q1;cases q1;exact q2) hi⟩
   ·exact hE.elim
  ·exact hE.elim
 |mnx x=>intro q hq;cases hq
 |mrx nm m=>intro q hq;cases hq
 |mnz x=>intro q hq;cases hq
 |mkx nm=>intro q hq;cases hq
 |mez x=>intro q hq;cases hq
 |mpe kt z m x ne=>
  simp only[evX]at hE
  split at hE
  ·rename_i i kv hm hx
   split at hE
   ·split at hE
    ·rename_i hn
     intro q hq
     obtain⟨u,k1,k2⟩:=h2 ne _ hn q hq
     refine⟨u,k1,fun p hp u' hu' j hj=>apartVs_ok k2 u' ?_ hj⟩
     simp only[Ixo.aopds,List.mem_cons,List.not_mem_nil,or_false]at hp
     subst hp
     rw[hm]at hu';cases hu';simp
    ·exact hE.elim
   ·exact hE.elim
  ·exact hE.elim
 |mes m st v ne=>
  simp only[evX]at hE
  split at hE
  ·rename_i i kd b vv hm hx hv
   split at hE
   ·split at hE
    ·rename_i hn
     intro q hq
     obtain⟨u,k1,k2⟩:=h2 ne _ hn.2 q hq
     refine⟨u,k1,fun p hp u' hu' j hj=>apartVs_ok k2 u' ?_ hj⟩
     simp only[Ixo.aopds,List.mem_cons,List.not_mem_nil,or_false]at hp
     subst hp
     rw[hm]at hu';cases hu';simp
    ·exact hE.elim
   ·exact hE.elim
  ·exact hE.elim
 |snx x=>intro q hq;cases hq
 |callw nm ct f xs=>intro q hq;cases hq
 |callx g xs=>intro q hq;cases hq
 |stz ag n a x ne=>
  have fin:∀(av xv:AV),s.ev a=some av->s.ev x=some xv->neOkL s [av,xv] ne=true->∀q∈(Ixo.stz ag n a x ne).nes,∃v,s.ev q=some v/\∀p∈(Ixo.stz ag n a x ne).aopds,∀u,s.ev p=some u->∀i,v.has i=true->u.has i=false:=fun av xv ha hx hn q hq=>by
   obtain⟨u,k1,k2⟩:=h2 ne _ hn q hq
   refine⟨u,k1,fun p hp u' hu' j hj=>apartVs_ok k2 u' ?_ hj⟩
   simp only[Ixo.aopds,List.mem_cons,List.not_mem_nil,or_false]at hp
   rcases hp with rfl|rfl
   ·rw[ha]at hu';cases hu';simp
   ·rw[hx]at hu';cases hu';simp
  simp only[evX]at hE
  split at hE
  ·rename_i i off v ha hx
   split at hE
   ·split at hE
    ·rename_i hn;exact fin _ _ ha hx hn
    ·exact hE.elim
   ·exact hE.elim
  ·rename_i i sz m j v ha hx
   split at hE
   ·split at hE
    ·rename_i hn;exact fin _ _ ha hx hn.1
    ·exact hE.elim
   ·exact hE.elim
  ·exact hE.elim
 |mpu kt m x v ne=>
  simp only[evX]at hE
  split at hE
  ·rename_i i kv vv hm hx hv
   split at hE
   ·split at hE
    ·rename_i hn
     intro q hq
     obtain⟨u,k1,k2⟩:=h2 ne _ hn.2 q hq
     refine⟨u,k1,fun p hp u' hu' j hj=>apartVs_ok k2 u' ?_ hj⟩
     simp only[Ixo.aopds,List.mem_cons,List.not_mem_nil,or_false]at hp
     rcases hp with rfl|rfl
     ·rw[hm]at hu';cases hu';simp
     ·rw[hv]at hu';cases hu';simp
    ·exact hE.elim
   ·split at hE
    ·rename_i hn
     intro q hq
     obtain⟨u,k1,k2⟩:=h2 ne _ hn q hq
     refine⟨u,k1,fun p hp u' hu' j hj=>apartVs_ok k2 u' ?_ hj⟩
     simp only[Ixo.aopds,List.mem_cons,List.not_mem_nil,or_false]at hp
     rcases hp with rfl|rfl
     ·rw[hm]at hu';cases hu';simp
     ·rw[hv]at hu';cases hu';simp
    ·exact hE.elim
   ·split at hE
    ·rename_i hn
     intro q hq
     obtain⟨u,k1,k2⟩:=h2 ne _ hn.2 q hq
     refine⟨u,k1,fun p hp u' hu' j hj=>apartVs_ok k2 u' ?_ hj⟩
     simp only[Ixo.aopds,List.mem_cons,List.not_mem_nil,or_false]at hp
     rcases hp with rfl|rfl
     ·rw[hm]at hu';cases hu';simp
     ·rw[hv]at hu';cases hu';simp
    ·exact hE.elim
   ·exact hE.elim
  ·exact hE.elim
 |mrg nm m ne=>
  simp only[evX]at hE
  split at hE
  ·rename_i v hf hm
   split at hE
   ·split at hE
    ·rename_i hn
     intro q hq
     obtain⟨u,k1,k2⟩:=h2 ne _ hn q hq
     refine⟨u,k1,fun p hp u' hu' j hj=>apartVs_ok k2 u' ?_ hj⟩
     simp only[Ixo.aopds,List.mem_cons,List.not_mem_nil,or_false]at hp
     subst hp
     rw[hm]at hu';cases hu';simp
    ·exact hE.elim
   ·exact hE.elim
  ·exact hE.elim
 |_=>simp[Ixo.cls]at hc
theorem beq_ok{a p:Opd}(h:a.beq p=true):a=p:=by
 cases a<;>cases p<;>simp[Opd.beq]at h
 rw[h]
theorem apart_ok{x y:Ixo}(hx:x.opds.all Opd.ok=true)(h:apart x y=true){s:St}(hn:∀q∈y.nes,∃v,s.ev q=some v/\∀p∈y.aopds,∀u,s.ev p=some u->∀i,v.has i=true->u.has i=false) :
  ∀a∈x.aopds,∀v,s.ev a=some v->∀p∈y.aopds,∀u,s.ev p=some u->∀i,v.has i=true->u.has i=false:=fun a ha v hv p hp u hu i hi=>by
 have h1:=List.all_eq_true.1 (Bool.and_eq_true _ _ ▸ h:_/\_).2 a ha
 cases a with
 |t j=>
  simp only[List.any_eq_true]at h1
  obtain⟨q,h2,h3⟩:=h1
  have:=beq_ok h3
  subst this
  obtain⟨v',k1,k2⟩:=hn _ h2
  rw[hv]at k1;cases k1
  exact k2 p hp u hu i hi
 |c w=>
  have:=List.all_eq_true.1 hx _ (aopds_sub x _ ha)
  simp only[St.ev,Option.some.injEq]at hv;subst hv
  simp[AV.has,pu_refs' w this]at hi
theorem swapW{E:Env}{s:St}{x y:IOp}{k:St->Prop}(hk:Resp k)(hsw:swapOk x y=true)(h0:x.o.cls=0)(hE:evG E x s fun s1=>evG E y s1 k):evG E y s fun s1=>evG E x s1 k:=by
 have hky:Resp fun s1=>evG E y s1 k:=fun s r hq hh=>evG_eqv hk hq hh
 have hkx:Resp fun s1=>evG E x s1 k:=fun s r hq hh=>evG_eqv hk hq hh
 simp only[swapOk,Bool.and_eq_true]at hsw
 obtain⟨⟨⟨⟨⟨⟨⟨h1,h2⟩,h3⟩,h4⟩,h5⟩,h6⟩,hwx⟩,hwy⟩:=hsw
 simp only[Bool.not_eq_true']at hwx
 have hdx:∀j,x.d=some j->j∉y.slots:=fun j hj=>by rw[hj]at h1;simp at h1;simpa using h1.1
 have hdy:∀j,y.d=some j->j∉x.slots:=fun j hj=>by rw[hj]at h2;simpa using h2
 have hdd:∀i j,x.d=some i->y.d=some j->i≠j:=fun i j hi hj=>by rw[hi,hj]at h1;simp at h1;exact h1.2
 have hcx:x.o.cls≠2/\x.o.cls≠5:=⟨fun e=>by omega,fun e=>by omega⟩
 have hsl:∀(o:IOp) (j:Nat),j∉o.slots->(∀p∈o.o.opds,j∉p.slots)/\∀i w,o.g=some (i,w)->j≠i:=fun o j hj=>by
  simp only[IOp.slots,List.mem_append,not_or,List.mem_flatMap,not_exists,not_and]at hj
  exact⟨fun p hp=>hj.2 p hp,fun i w hg e=>hj.1 (by rw[hg];simp[e])⟩
 have ao0:∀z:Ixo,z.cls=0->z.aopds=[]/\z.names=[]:=fun z hz=>by cases z<;>simp[Ixo.cls,Ixo.aopds,Ixo.names]at hz⊢
 obtain⟨ex,g1,g2,g3,g4⟩:=evGX_det ((evG_iff hky).1 hE) hcx
 have hup:upds ex=[]:=by
  cases hu:upds ex with
  |nil=>rfl
  |cons p l=>
   obtain⟨_,_,q⟩:=g3 p (by rw[hu];simp)
   rcases q with⟨q,_⟩|⟨q,_⟩
   ·rw[(ao0 _ h0).2]at q;cases q
   ·omega
 have htc:tch ex=[]:=by unfold tch;rw[hup];rfl
 have hsg:(app x.d s ex).sg=s.sg:=by rw[app_sg,hup];rfl
 have ghx:(app x.d s ex).gh=s.gh:=by cases ex<;>cases x.d<;>first|rfl|cases g4
 have g5:=(evG_iff hk).1 g1
 have evy:∀p∈y.o.opds,(app x.d s ex).ev p=s.ev p:=fun p hp=>ev_app fun j hj=>(hsl y j (hdx j hj)).1 p hp
 have ay:Agr (fun _=>true) (app x.d s ex) s y.o:=
  ⟨fun p hp=>(evy p hp).symm,fun _ i _=>by rw[hsg],fun _ i _=>by rw[hsg],fun p hp v hv=>AV.refsIn_all (fun _=>rfl) v,fun hc i hi=>AV.refsInL_all (fun _=>rfl) _,fun _ _=>rfl,fun _=>ghx.symm⟩
 have g6:=evGX_trans ay (fun _=>⟨hsg.symm,ghx.symm⟩) (fun j w hg=>(look_app fun i hi=>(hsl y i (hdx i hi)).2 j w hg).symm) g5
 refine(evG_iff hkx).2 (evGX_mono g6 fun ey hey=>?_)
 refine(evG_iff hk).2 ?_
 have evx:∀p∈x.o.opds,(app y.d s ey).ev p=s.ev p:=fun p hp=>ev_app fun j hj=>(hsl x j (hdy j hj)).1 p hp
 have ax:Agr (fun _=>true) s (app y.d s ey) x.o:=
  ⟨evx,fun hc=>by omega,fun hc=>by omega,(fun p hp=>by rw[(ao0 _ h0).1]at hp;cases hp),fun hc=>by omega,fun _ _=>rfl,fun hc=>by omega⟩
 refine evGX_trans ax (fun e=>absurd e (by rw[hwx];simp)) (fun j w hg=>look_app fun i hi=>(hsl x i (hdy i hi)).2 j w hg) (g2 _ ?_)
 exact hk _ _ (app_comm hdd g4 fun i hi hj=>by rw[htc]at hi;cases hi) hey
theorem swap{X:Sess}{C:Ctx}{E:Env}{s:St}{a:Act}(h:Rel X C s a){x y:IOp}{k:St->Prop}(hk:Resp k)(hsw:swapOk x y=true)(hE:evG E x s fun s1=>evG E y s1 k):evG E y s fun s1=>evG E x s1 k:=by
 by_cases h00:x.o.cls=0
 ·exact swapW hk hsw h00 hE
 have hky:Resp fun s1=>evG E y s1 k:=fun s r hq hh=>evG_eqv hk hq hh
 have hkx:Resp fun s1=>evG E x s1 k:=fun s r hq hh=>evG_eqv hk hq hh
 simp only[swapOk,Bool.and_eq_true]at hsw
 obtain⟨⟨⟨⟨⟨⟨⟨h1,h2⟩,h3⟩,h4⟩,h5⟩,h6⟩,hwx⟩,hwy⟩:=hsw
 have hwy:(!y.o.isW)=true:=by simpa[h00]using hwy
 simp only[Bool.not_eq_true']at hwx hwy
 have hdx:∀j,x.d=some j->j∉y.slots:=fun j hj=>by rw[hj]at h1;simp at h1;simpa using h1.1
 have hdy:∀j,y.d=some j->j∉x.slots:=fun j hj=>by rw[hj]at h2;simpa using h2
 have hdd:∀i j,x.d=some i->y.d=some j->i≠j:=fun i j hi hj=>by rw[hi,hj]at h1;simp at h1;exact h1.2
 have hcx:x.o.cls≠2/\x.o.cls≠5:=⟨fun e=>by rw[e]at h3;simp at h3,fun e=>by rw[e]at h3;simp at h3⟩
 have hnm:∀i j,i∈x.o.names->j∈y.o.names->i≠j:=fun i j hi hj e=>by subst e;have:=List.all_eq_true.1 h4 i hi;simp at this;exact this hj
 have hsl:∀(o:IOp) (j:Nat),j∉o.slots->(∀p∈o.o.opds,j∉p.slots)/\∀i w,o.g=some (i,w)->j≠i:=fun o j hj=>by
  simp only[IOp.slots,List.mem_append,not_or,List.mem_flatMap,not_exists,not_and]at hj
  exact⟨fun p hp=>hj.2 p hp,fun i w hg e=>hj.1 (by rw[hg];simp[e])⟩
 have hcls:∀z:Ixo,z.cls<=5:=fun z=>by cases z<;>simp[Ixo.cls]
 -- the kinds, as they can be
 have hk0:x.o.cls=1->3<=y.o.cls->x.g=none:=fun hx hy=>by
  rw[hx]at h3
  simp only[Bool.or_eq_true,Bool.and_eq_true,decide_eq_true_eq,Option.isNone_iff_eq_none]at h3
  rcases h3 with(h3|h3)|h3
  ·exact h3.2
  ·omega
  ·exact h3.2
 have hk1:(3<=x.o.cls\/x.o.cls=1/\y.o.hard=true)->3<=y.o.cls->y.g=none/\x.g=none/\apart x.o y.o=true:=fun hx hy=>by
  have:=hcls x.o
  match hxc:x.o.cls,hx,hcx,this with
  |0,hx,_,_=>omega
  |1,hx,_,_=>
   rw[hxc]at h3;simp only[Bool.or_eq_true,Bool.and_eq_true,Bool.not_eq_true',decide_eq_true_eq,Option.isNone_iff_eq_none]at h3
   have hh:y.o.hard=true:=by
                   rcases hx with hx|hx;·omega
                   exact hx.2
   rcases h3 with(h3|h3)|h3
   ·rw[hh]at h3;cases h3.1
   ·omega
   ·exact⟨h3.1.2,h3.2,h3.1.1⟩
  |2,_,hh,_=>exact absurd hxc (by simpa[hxc]using hh.1)
  |3,_,_,_=>
          rw[hxc]at h3;simp only[Bool.or_eq_true,Bool.and_eq_true,decide_eq_true_eq,Option.isNone_iff_eq_none,beq_iff_eq]at h3;rcases h3.2 with h7|h7;·omega
          exact⟨h7.1.2,h3.1,h7.2⟩
  |4,_,_,_=>
          rw[hxc]at h3;simp only[Bool.or_eq_true,Bool.and_eq_true,decide_eq_true_eq,Option.isNone_iff_eq_none,beq_iff_eq]at h3;rcases h3.2 with h7|h7;·omega
          exact⟨h7.1.2,h3.1,h7.2⟩
  |5,_,hh,_=>exact absurd hxc (by simpa[hxc]using hh.2)
 have hk2:3<=x.o.cls->y.o.cls=0\/3<=y.o.cls:=fun hx=>by
  have:=hcls x.o
  match hxc:x.o.cls,hx,hcx,this with
  |3,_,_,_=>
          rw[hxc]at h3;simp only[Bool.or_eq_true,Bool.and_eq_true,decide_eq_true_eq,beq_iff_eq]at h3;rcases h3.2 with h7|h7;·exact .inl h7
          exact .inr h7.1.1
  |4,_,_,_=>
          rw[hxc]at h3;simp only[Bool.or_eq_true,Bool.and_eq_true,decide_eq_true_eq,beq_iff_eq]at h3;rcases h3.2 with h7|h7;·exact .inl h7
          exact .inr h7.1.1
  |5,_,hh,_=>exact absurd hxc (by simpa[hxc]using hh.2)
 have ao0:∀z:Ixo,z.cls=0->z.aopds=[]/\z.names=[]:=fun z hz=>by cases z<;>simp[Ixo.cls,Ixo.aopds,Ixo.names]at hz⊢
 have okx:∀p∈x.o.aopds,Opd.ok p=true:=fun p hp=>List.all_eq_true.1 h5 _ (aopds_sub x.o _ hp)
 have oky:∀p∈y.o.aopds,Opd.ok p=true:=fun p hp=>List.all_eq_true.1 h6 _ (aopds_sub y.o _ hp)
 obtain⟨ex,g1,g2,g3,g4⟩:=evGX_det ((evG_iff hky).1 hE) hcx
 have ghx:(app x.d s ex).gh=s.gh:=by cases ex<;>cases x.d<;>first|rfl|cases g4
 have g5:=(evG_iff hk).1 g1
 have evy:∀p∈y.o.opds,(app x.d s ex).ev p=s.ev p:=fun p hp=>ev_app fun j hj=>(hsl y j (hdx j hj)).1 p hp
 have nes_sub:∀q∈y.o.nes,q∈y.o.opds:=fun q hq=>by
  cases hy:y.o<;>rw[hy]at hq<;>simp[Ixo.nes,Ixo.opds]at hq⊢<;>simp[hq]
 -- where both touch: they are apart
 have hap:(3<=x.o.cls\/x.o.cls=1/\y.o.hard=true)->3<=y.o.cls->∀a∈x.o.aopds,∀v,s.ev a=some v->∀p∈y.o.aopds,∀u,s.ev p=some u->∀i,v.has i=true->u.has i=false:=fun hx hy=>by
  obtain⟨q1,q2,q3⟩:=hk1 hx hy
  have g6:=g5
  unfold evGX at g6
  rw[q1]at g6
  have hn:=evX_nes g6 hy
  refine apart_ok h5 q3 fun q hq=>?_
  obtain⟨v,k1,k2⟩:=hn q hq
  exact⟨v,(evy q (nes_sub q hq)).symm.trans k1,fun p hp u hu=>k2 p hp u ((evy p (aopds_sub y.o p hp)).trans hu)⟩
 -- what x touches, y does not look at
 have tx:∀i∈tch ex,(∀p∈y.o.aopds,∀v,s.ev p=some v->v.has i=false)/\(y.o.cls=2->∀j,AV.refsInL (fun m=>m != i) (s.sg.getD j .fresh).cellsOf=true)/\∀j,j∈y.o.names->j≠i:=fun i hi=>by
  obtain⟨p0,hp0,rfl⟩:=List.mem_map.1 hi
  obtain⟨q1,q2,q3⟩:=g3 p0 hp0
  refine⟨fun p hp v hv=>?_,fun hc j=>?_,fun j hj=>?_⟩
  ·rcases q3 with⟨_,q4⟩|⟨q4,⟨q,q5,w,q6,q7⟩,_⟩
   ·exact held h q4 (oky p hp) hv
   ·rcases hk2 q4 with hy|hy
    ·rw[(ao0 _ hy).1]at hp;cases hp
    ·exact hap (.inl q4) hy q q5 w q6 p hp v hv _ q7
  ·rcases q3 with⟨_,q4⟩|⟨q4,_⟩
   ·obtain⟨hf',_⟩:=getD_dead q4 (by simp)
    exact cells_unbound h (h.unbound hf') j
   ·rcases hk2 q4 with hy|hy<;>omega
  ·rcases q3 with⟨q4,_⟩|⟨q4,_⟩
   ·exact Ne.symm (hnm _ _ q4 hj)
   ·rcases hk2 q4 with hy|hy
    ·rw[(ao0 _ hy).2]at hj;cases hj
    ·obtain⟨q8,_,_⟩:=hk1 (.inl q4) hy
     have g6:=g5
     unfold evGX at g6
     rw[q8]at g6
     have hf:=evX_fresh hj g6
     rintro rfl
     obtain⟨r,r1,r2⟩:=setL_in (upds ex) s.sg p0.1 (List.mem_map.2 ⟨p0,hp0,rfl⟩) q2
     rw[app_sg]at hf
     have:r = .fresh:=by simpa[List.getD_eq_getElem?_getD,r2]using hf
     exact(g3 _ r1).1 this
 have ay:Agr (keepOf ex) (app x.d s ex) s y.o:=by
  have hnmy:∀j,j∈y.o.names->keepOf ex j=true:=fun j hj=>keepOf_iff.2 fun hm=>by
   exact(tx j hm).2.2 j hj rfl
  refine⟨fun p hp=>(evy p hp).symm,fun _ i hi=>(sg_app hi).symm,fun _ i hi=>by rw[sg_app (d:=x.d) (s:=s) hi],fun p hp v hv=>?_,fun hc i hi=>?_,hnmy,fun _=>ghx.symm⟩
  ·rw[evy p (aopds_sub y.o p hp)]at hv
   exact AV.keep_has fun i hi=>keepOf_iff.2 fun hm=>by rw[(tx i hm).1 p hp v hv]at hi;cases hi
  ·rw[getD_of_get? (sg_app (d:=x.d) (s:=s) hi)]
   refine AV.refsInL_mono (keep:=fun _=>true) _ (fun j hj _=>keepOf_iff.2 fun hm=>?_) (AV.refsInL_all (fun _=>rfl) _)
   rw[(tx j hm).2.1 hc i]at hj;cases hj
 have g6:=evGX_shape hwy (evGX_trans ay (fun e=>absurd e (by rw[hwy];simp)) (fun j w hg=>(look_app fun i hi=>(hsl y i (hdx i hi)).2 j w hg).symm) g5)
 refine(evG_iff hkx).2 (evGX_mono g6 fun ey hey=>?_)
 obtain⟨k1,k2⟩:=hey
 refine(evG_iff hk).2 ?_
 have k2':Shape y.o s ey:=k2
 have evx:∀p∈x.o.opds,(app y.d s ey).ev p=s.ev p:=fun p hp=>ev_app fun j hj=>(hsl x j (hdy j hj)).1 p hp
 -- what y touches, x does not look at
 have ty:∀i∈tch ey,((x.o.cls=1->y.o.hard=true)->∀p∈x.o.aopds,∀v,s.ev p=some v->v.has i=false)/\(∀j,j∈x.o.names->j≠i)/\i∉tch ex:=fun i hi=>by
  obtain⟨p0,hp0,rfl⟩:=List.mem_map.1 hi
  obtain⟨q1,q2,q3⟩:=k2' p0 hp0
  have first:(x.o.cls=1->y.o.hard=true)->∀p∈x.o.aopds,∀v,s.ev p=some v->v.has p0.1=false:=fun hxy p hp v hv=>by
   rcases q3 with⟨_,q4⟩|⟨q4,⟨q,q5,w,q6,q7⟩,_⟩
   ·exact held h q4 (okx p hp) hv
   ·by_cases hx1:1<=x.o.cls
    ·cases hh:v.has p0.1 with
     |false=>rfl
     |true=>rw[hap (by
       by_cases hx2:x.o.cls=1
       ·exact .inr ⟨hx2,hxy hx2⟩
       ·left;have:=hcx.1;omega) q4 p hp v hv q q5 w q6 _ hh]at q7;cases q7
    ·rw[(ao0 _ (by omega)).1]at hp;cases hp
  refine⟨first,fun j hj=>?_,fun hm=>?_⟩
  ·rcases q3 with⟨q4,_⟩|⟨q4,⟨q,q5,w,q6,q7⟩,_⟩
   ·exact hnm _ _ hj q4
   ·have hx1:1<=x.o.cls:=by cases hz:x.o.cls with
     |zero=>rw[(ao0 _ hz).2]at hj;cases hj
     |succ n=>omega
    have q8:x.g=none:=by
     by_cases hx2:x.o.cls=1
     ·exact hk0 hx2 q4
     ·exact(hk1 (.inl (by have:=hcx.1;omega)) q4).2.1
    have g9:=(evG_iff hky).1 hE
    unfold evGX at g9
    rw[q8]at g9
    have hf:=evX_fresh hj g9
    rintro rfl
    rw[held h hf (oky q q5) q6]at q7;cases q7
  ·obtain⟨p1,hp1,e1⟩:=List.mem_map.1 hm
   obtain⟨r1,r2,r3⟩:=g3 p1 hp1
   rw[e1]at r3 r2
   rcases r3 with⟨r4,r5⟩|⟨r4,⟨q',r5,w',r6,r7⟩,_⟩
   ·rcases q3 with⟨q4,_⟩|⟨q4,⟨q,q5,w,q6,q7⟩,_⟩
    ·exact hnm _ _ r4 q4 rfl
    ·rw[held h r5 (oky q q5) q6]at q7;cases q7
   ·rw[first (fun e=>by omega) q' r5 w' r6]at r7;cases r7
 have ax:∃keep,Agr keep s (app y.d s ey) x.o:=by
  by_cases hxy:x.o.cls=1->y.o.hard=true
  ·refine⟨keepOf ey,evx,fun _ i hi=>sg_app hi,fun _ i hi=>by rw[sg_app hi],fun p hp v hv=>?_,fun hc=>absurd hc hcx.1,fun j hj=>keepOf_iff.2 fun hm=>(ty j hm).2.1 j hj rfl,fun hc=>absurd hc hcx.1⟩
   exact AV.keep_has fun i hi=>keepOf_iff.2 fun hm=>by rw[(ty i hm).1 hxy p hp v hv]at hi;cases hi
  ·have hx1:x.o.cls=1:=Classical.byContradiction fun e=>hxy fun e'=>absurd e' e
   have hyh:y.o.hard=false:=by cases hh:y.o.hard with
    |false=>rfl
    |true=>exact absurd (fun _=>hh) hxy
   refine⟨fun i => !((tch ey).contains i&&isFresh (s.sg.getD i .dead)),evx,fun hc=>by omega,fun _ i hi=>?_,fun p hp v hv=>?_,fun hc=>absurd hc hcx.1,fun j hj=>?_,fun hc=>absurd hc hcx.1⟩
   ·by_cases hm:i∈tch ey
    ·obtain⟨p0,hp0,e0⟩:=List.mem_map.1 hm
     have hlt:i<s.sg.length:=e0 ▸ (k2' p0 hp0).2.1
     obtain⟨r,r1,r2⟩:=setL_in (upds ey) s.sg i hm hlt
     rw[app_sg,r2]
     obtain⟨_,_,q3⟩:=k2' _ r1
     rcases q3 with⟨_,q4⟩|⟨_,_,q4⟩
     ·simp only at q4
      rw[q4]at hi
      simp[isFresh,hm]at hi
     ·have:=q4 hyh
      simp only at this
      rw[this]
      simp[List.getD_eq_getElem?_getD,List.getElem?_eq_getElem hlt,Res.ice_ice]
    ·rw[sg_app (keepOf_iff.2 hm)]
   ·refine AV.keep_has fun i hi=>?_
    cases hf:isFresh (s.sg.getD i .dead)with
    |false=>simp
    |true=>rw[held h (isFresh_ok hf) (okx p hp) hv]at hi;cases hi
   ·cases hf:isFresh (s.sg.getD j .dead)with
    |false=>simp
    |true=>
     cases hm:(tch ey).contains j with
     |false=>simp
     |true=>exact absurd rfl ((ty j (by simpa using hm)).2.1 j hj)
 obtain⟨kp,ax⟩:=ax
 refine evGX_trans ax (fun e=>absurd e (by rw[hwx];simp)) (fun j w hg=>look_app fun i hi=>(hsl x i (hdy i hi)).2 j w hg) (g2 _ ?_)
 exact hk _ _ (app_comm hdd g4 fun i hi hj=>(ty i hj).2.2 hi) k1
theorem neOk_mono{s:St}{i:Nat}:∀ {a b:List Opd},(∀q∈b,q∈a)->neOk s i a=true->neOk s i b=true:=fun {a b}=>by
 have h1:∀a:List Opd,neOk s i a=true<->∀q∈a,(match s.ev q with|some v=>v.refsIn fun j=>j != i|none=>false)=true:=fun a=>by
  induction a with
  |nil=>simp[neOk]
  |cons p ps ih=>simp only[neOk,Bool.and_eq_true,ih,List.mem_cons,forall_eq_or_imp];try exact Iff.rfl
 rw[h1,h1];exact fun h k q hq=>k q (h q hq)
theorem neOkL_mono{s:St}{us:List AV}:∀ {a b:List Opd},(∀q∈b,q∈a)->neOkL s us a=true->neOkL s us b=true:=fun {a b}=>by
 have h1:∀a:List Opd,neOkL s us a=true<->∀q∈a,(match s.ev q with|some v=>apartVs v us|none=>false)=true:=fun a=>by
  induction a with
  |nil=>simp[neOkL]
  |cons p ps ih=>simp only[neOkL,Bool.and_eq_true,ih,List.mem_cons,forall_eq_or_imp];try exact Iff.rfl
 rw[h1,h1];exact fun h k q hq=>k q (h q hq)
theorem need_mono{p q r:Prop}(h:q->r):need p q->need p r:=fun⟨h1,h2⟩=>⟨h1,h h2⟩
theorem ite_mono{p q:Prop}[Decidable p][Decidable q]{r:Prop}(h:p->q):(if p then r else False)->if q then r else False:=fun k=>by
 by_cases hp:p
 ·rw[if_pos hp]at k;rw[if_pos (h hp)];exact k
 ·rw[if_neg hp]at k;exact k.elim
theorem cellsK_mono{ag:Bool}{v:AV}{K K':List AV->Prop}(h:∀vs,K vs->K' vs):cellsK ag v K->cellsK ag v K':=by
 unfold cellsK
 cases ag with
 |false=>exact need_mono (h _)
 |true=>cases v<;>first|exact id|exact h _
theorem evX_ne{E:Env}{a b:List Opd}(hab:∀q∈b,q∈a){z:Ixo}{s:St}{κ : Eff->Prop}(h:evX E (z.withNe a) s κ):evX E (z.withNe b) s κ :=by
 cases z with
 |store ag n p x ne=>
  simp only[Ixo.withNe,evX]at h⊢
  split at h
  ·rename_i i off v ha hx
   try simp only[ha,hx]
   split at h
   ·rename_i cs hr
    try simp only[hr]
    exact cellsK_mono (fun vs=>need_mono (ite_mono fun h=>⟨h.1,h.2.1,neOk_mono hab h.2.2⟩)) h
   ·exact h.elim
  ·rename_i i sz m j v ha hx
   try simp only[ha,hx]
   split at h
   ·rename_i el sz' es hr
    try simp only[hr]
    refine cellsK_mono (fun vs=>need_mono fun h=>?_) h
    by_cases hc:sz'=sz/\vs.length=n/\AV.puL vs=true/\neOk s i a=true
    ·rw[if_pos hc]at h
     rw[if_pos ⟨hc.1,hc.2.1,hc.2.2.1,neOk_mono hab hc.2.2.2⟩]
     exact h
    ·rw[if_neg hc]at h;exact h.elim
   ·exact h.elim
  ·exact h.elim
 |bsl nm el sz ps ne=>
  simp only[Ixo.withNe,evX]at h⊢
  split at h
  ·rename_i vs hr hv
   try simp only[hr,hv]
   split at h
   ·rename_i es z h1 h2
    try simp only[h1,neOkL_mono hab h2]
    exact h
   ·exact h.elim
  ·exact h.elim
 |apd nm el sz by' x y ne=>
  simp only[Ixo.withNe,evX]at h⊢
  split at h
  ·rename_i u v hr hu hv
   try simp only[hr,hu,hv]
   split at h
   ·rename_i es z es' h1 h2
    try simp only[h1,h2]
    by_cases hc:(apartV v u&&tslOk u es')=true/\neOkL s [u,v] a=true
    ·rw[if_pos hc]at h
     rw[if_pos ⟨hc.1,neOkL_mono hab hc.2⟩]
     exact h
    ·rw[if_neg hc]at h;exact h.elim
   ·exact h.elim
  ·exact h.elim
 |callz nm ct f xs ne=>
  simp only[Ixo.withNe,evX]at h⊢
  split at h
  ·rename_i vs hv
   try simp only[hv]
   by_cases hc:neOkL s vs a=true/\freshN s.sg nm ct=true
   ·rw[if_pos hc]at h
    rw[if_pos ⟨neOkL_mono hab hc.1,hc.2⟩]
    exact h
   ·rw[if_neg hc]at h;exact h.elim
  ·exact h.elim
 |mpu kt m x v ne=>
  simp only[Ixo.withNe,evX]at h⊢
  split at h
  ·rename_i i kv vv hm hx hv
   try simp only[hm,hx,hv]
   split at h
   ·rename_i ks us z v' h1 h2 h3
    try simp only[h1,h2,h3]
    by_cases hc:memN (fstN z) i=false/\neOkL s [.row i,vv] a=true
    ·rw[if_pos hc]at h
     rw[if_pos ⟨hc.1,neOkL_mono hab hc.2⟩]
     exact h
    ·rw[if_neg hc]at h;exact h.elim
   ·rename_i ks us h1
    try simp only[h1]
    by_cases hc:neOkL s [.row i,vv] a=true
    ·rw[if_pos hc]at h
     rw[if_pos (neOkL_mono hab hc)]
     exact h
    ·rw[if_neg hc]at h;exact h.elim
   ·rename_i ks us bn n h1
    try simp only[h1]
    by_cases hc:vv.flat=true/\neOkL s [.row i,vv] a=true
    ·rw[if_pos hc]at h
     rw[if_pos ⟨hc.1,neOkL_mono hab hc.2⟩]
     exact h
    ·rw[if_neg hc]at h;exact h.elim
   ·exact h.elim
  ·exact h.elim
 |stz ag n p x ne=>
  simp only[Ixo.withNe,evX]at h⊢
  split at h
  ·rename_i i off v ha hx
   try simp only[ha,hx]
   split at h
   ·rename_i cs hr
    try simp only[hr]
    by_cases hc:neOkL s [.own i off,v] a=true
    ·rw[if_pos hc]at h
     rw[if_pos (neOkL_mono hab hc)]
     exact h
    ·rw[if_neg hc]at h;exact h.elim
   ·exact h.elim
  ·rename_i i sz m j v ha hx
   try simp only[ha,hx]
   split at h
   ·rename_i el sz' es z v' h1 h2 h3
    try simp only[h1,h2,h3]
    by_cases hc:neOkL s [.elt i sz m j,v] a=true/\memN (fstN z) i=false/\sz'=sz
    ·rw[if_pos hc]at h
     rw[if_pos ⟨neOkL_mono hab hc.1,hc.2⟩]
     exact h
    ·rw[if_neg hc]at h;exact h.elim
   ·exact h.elim
  ·exact h.elim
 |mpe kt z m x ne=>
  simp only[Ixo.withNe,evX]at h⊢
  split at h
  ·rename_i i kv hm hx
   try simp only[hm,hx]
   split at h
   ·rename_i ks us bn n h1
    try simp only[h1]
    by_cases hc:neOkL s [.row i] a=true
    ·rw[if_pos hc]at h
     rw[if_pos (neOkL_mono hab hc)]
     exact h
    ·rw[if_neg hc]at h;exact h.elim
   ·exact h.elim
  ·exact h.elim
 |mes m st v ne=>
  simp only[Ixo.withNe,evX]at h⊢
  split at h
  ·rename_i i kd b vv hm hx hv
   try simp only[hm,hx,hv]
   split at h
   ·rename_i ks us bn n h1
    try simp only[h1]
    by_cases hc:vv.flat=true/\neOkL s [.row i] a=true
    ·rw[if_pos hc]at h
     rw[if_pos ⟨hc.1,neOkL_mono hab hc.2⟩]
     exact h
    ·rw[if_neg hc]at h;exact h.elim
   ·exact h.elim
  ·exact h.elim
 |mrg nm m ne=>
  simp only[Ixo.withNe,evX]at h⊢
  split at h
  ·rename_i v hf hm
   try simp only[hf,hm]
   split at h
   ·rename_i z ks us h1 h2
    try simp only[h1,h2]
    by_cases hc:neOkL s [v] a=true
    ·rw[if_pos hc]at h
     rw[if_pos (neOkL_mono hab hc)]
     exact h
    ·rw[if_neg hc]at h;exact h.elim
   ·exact h.elim
  ·exact h.elim
 |_=>exact h
def Ixo.slim(ds:List Nat)(z:Ixo):Ixo:=z.withNe (z.nes.filter fun q=>q.slots.all fun i => !ds.contains i)
def IOp.slim(ds:List Nat)(y:IOp):IOp:={ y with o:=y.o.slim ds }
theorem withNe_nes(z:Ixo):z.withNe z.nes=z:=by cases z<;>rfl
theorem evX_slim{E:Env}{ds:List Nat}{z:Ixo}{s:St}{κ : Eff->Prop}(h:evX E z s κ):evX E (z.slim ds) s κ :=
 evX_ne (fun q hq=>(List.mem_filter.1 hq).1) (by rw[withNe_nes];exact h)
theorem slim_slim(a b:List Nat)(z:Ixo):(z.slim a).slim b=z.slim (b++a):=by
 have:∀l:List Opd,(l.filter fun q=>q.slots.all fun i => !a.contains i).filter (fun q=>q.slots.all fun i => !b.contains i)=l.filter fun q=>q.slots.all fun i => !(b++a).contains i:=fun l=>by
  rw[List.filter_filter]
  congr 1;funext q
  cases q<;>simp[Opd.slots]
 cases z<;>first|rfl|(simp only[Ixo.slim,Ixo.nes,Ixo.withNe,this])
theorem evGX_slim{E:Env}{ds:List Nat}{y:IOp}{s:St}{κ : Eff->Prop}(h:evGX E y s κ):evGX E (y.slim ds) s κ :=by
 unfold evGX at h⊢
 simp only[IOp.slim]at h⊢
 cases hg:y.g with
 |none=>rw[hg]at h;exact evX_slim h
 |some jw=>
  obtain⟨j,w⟩:=jw
  rw[hg]at h
  simp only at h⊢
  cases hl:look s.tm j with
  |none=>rw[hl]at h;exact h
  |some v=>
   rw[hl]at h
   cases v with
   |bool b=>
    simp only at h⊢
    split at h
    ·rename_i h3;rw[if_pos h3];exact evX_slim h
    ·rename_i h3;rw[if_neg h3];exact h
   |tup vs=>cases vs<;>exact h
   |_=>exact h
theorem evG_slim{E:Env}{ds:List Nat}{y:IOp}{s:St}{k:St->Prop}(hk:Resp k)(h:evG E y s k):evG E (y.slim ds) s k:=
 (evG_iff hk).2 (evGX_slim ((evG_iff hk).1 h))
theorem slim_cls(ds:List Nat)(z:Ixo):(z.slim ds).cls=z.cls:=by cases z<;>rfl
theorem slim_isW(ds:List Nat)(z:Ixo):(z.slim ds).isW=z.isW:=by cases z<;>rfl
theorem slim_hard(ds:List Nat)(z:Ixo):(z.slim ds).hard=z.hard:=by cases z<;>rfl
theorem slim_names(ds:List Nat)(z:Ixo):(z.slim ds).names=z.names:=by cases z<;>rfl
theorem slim_nes(ds:List Nat)(z:Ixo):(z.slim ds).nes=z.nes.filter fun q=>q.slots.all fun i => !ds.contains i:=by cases z<;>rfl
theorem slim_opds(ds:List Nat)(z:Ixo)(p:Opd):p∈(z.slim ds).opds<->p∈(z.withNe []).opds\/p∈(z.slim ds).nes:=by
 cases z<;>simp[Ixo.slim,Ixo.withNe,Ixo.opds,Ixo.nes,or_assoc]
theorem swap_less{x y:IOp}{ds ds':List Nat}(hd:∀d,x.d=some d->d∈ds')(hsub:∀d∈ds',d∈ds)(h:swapOk x (y.slim ds)=true):swapOk x (y.slim ds')=true:=by
 have hne:∀q,q∈(y.o.slim ds).nes->q∈(y.o.slim ds').nes:=fun q hq=>by
  rw[slim_nes,List.mem_filter]at hq⊢
  refine⟨hq.1,?_⟩
  have:=hq.2
  simp only[List.all_eq_true,Bool.not_eq_true',List.contains_eq_mem,decide_eq_false_iff_not]at this⊢
  exact fun i hi hc=>this i hi (hsub i hc)
 have hap:apart x.o (y.o.slim ds)=true->apart x.o (y.o.slim ds')=true:=fun h=>by
  simp only[apart,Bool.and_eq_true,List.all_eq_true]at h⊢
  refine⟨by have h0:=h.1;generalize y.o=yo at h0;cases yo<;>exact h0,?_⟩
  intro a ha
  have:=h.2 a ha
  cases a with
  |c v=>rfl
  |t i=>
   simp only[List.any_eq_true]at this⊢
   obtain⟨q,h1,h2⟩:=this
   exact⟨q,hne q h1,h2⟩
 simp only[swapOk,Bool.and_eq_true]at h⊢
 obtain⟨⟨⟨⟨⟨⟨⟨h1,h2⟩,h3⟩,h4⟩,h5⟩,h6⟩,hwx⟩,hwy⟩:=h
 refine⟨⟨⟨⟨⟨⟨⟨?_,h2⟩,?_⟩,?_⟩,h5⟩,?_⟩,hwx⟩,by simpa only[IOp.slim,slim_isW]using hwy⟩
 ·cases hx:x.d with
  |none=>rfl
  |some d=>
   rw[hx]at h1
   simp only[Bool.and_eq_true,Bool.not_eq_true',List.contains_eq_mem,decide_eq_false_iff_not]at h1⊢
   refine⟨fun hm=>?_,h1.2⟩
   simp only[IOp.slots,IOp.slim,List.mem_append,List.mem_flatMap,not_or,not_exists,not_and]at h1 hm
   rcases hm with hm|⟨p,hp,hm⟩
   ·exact h1.1.1 hm
   ·rcases(slim_opds ds' y.o p).1 hp with hp|hp
    ·exact h1.1.2 p ((slim_opds ds y.o p).2 (.inl hp)) hm
    ·rw[slim_nes,List.mem_filter]at hp
     have:=hp.2
     simp only[List.all_eq_true,Bool.not_eq_true',List.contains_eq_mem,decide_eq_false_iff_not]at this
     exact this d hm (hd d hx)
 ·simp only[IOp.slim,slim_cls,slim_hard]at h3⊢
  split at h3<;>simp_all
  all_goals first|(rcases h3 with(h3|h3)|h3<;>simp_all)|(rcases h3.2 with h7|h7<;>simp_all)
 ·simpa only[IOp.slim,slim_names]using h4
 ·simp only[IOp.slim,List.all_eq_true]at h6⊢
  intro p hp
  cases p with
  |t i=>rfl
  |c v=>
   rcases(slim_opds ds' y.o _).1 hp with hp|hp
   ·exact h6 _ ((slim_opds ds y.o _).2 (.inl hp))
   ·refine h6 _ ((slim_opds ds y.o _).2 (.inr ?_))
    rw[slim_nes,List.mem_filter]at hp⊢
    exact⟨hp.1,by simp[Opd.slots]⟩
structure IOpOf(P:Program)(N:Nat)(ops:Array Oper)(o:Oper)(p:IOp):Prop where
 op:∃nm io ne,compO P nm o.op=some io/\(p.o=io.withNe ne\/p.o=io.toX)/\stOk io o.dst=true
 d:p.d=o.dst
 dst:∀i,o.dst=some i->i<N
 g:(o.guard=none/\p.g=none)\/∃j w sl,o.guard=some (j,w)/\p.g=some (sl,w)/\(ops[j]?).bind (·.dst)=some sl
theorem compO_nes{P:Program}{nm:Nat}{op:Op}{z:Ixo}(h:compO P nm op=some z):z.nes=[]:=by
 cases op<;>simp only[compO]at h<;>(repeat' (split at h))<;>first|(cases h;done)|(cases h;rfl)|(simp only[Option.map_eq_some_iff]at h;obtain⟨_,_,rfl⟩:=h;rfl)|simp at h
theorem withNe_nil{z:Ixo}(h:z.nes=[]):z.withNe []=z:=by
 cases z<;>simp only[Ixo.nes]at h<;>first|rfl|(rw[h];rfl)
theorem compOps_get{P:Program}{N:Nat}{ops:Array Oper}:∀ {os:List Oper} {nm nm':Nat} {r:List IOp},compOps P N ops nm os=some (r,nm')->r.length=os.length/\∀(i:Nat) (o:Oper),os[i]?=some o->∃p,r[i]?=some p/\IOpOf P N ops o p
 | [],nm,nm',r,h=>by
  simp only[compOps,Option.some.injEq,Prod.mk.injEq]at h
  obtain⟨rfl,_⟩:=h
  exact⟨rfl,fun i o hi=>by simp at hi⟩
 |o::os,nm,nm',r,h=>by
  simp only[compOps]at h
  split at h<;>try cases h
  rename_i io h1
  split at h
  ·rename_i r' nm2 h2
   split at h
   ·rename_i hc
    simp only[Bool.and_eq_true]at hc
    obtain⟨ih1,ih2⟩:=compOps_get h2
    have hdst:∀i,o.dst=some i->i<N:=fun i hi=>by have:=hc.1;rw[hi]at this;simpa using this
    split at h
    ·rename_i hg
     simp only[Option.some.injEq,Prod.mk.injEq]at h
     obtain⟨rfl,_⟩:=h
     refine⟨by simp[ih1],fun i q hi=>?_⟩
     cases i with
     |zero=>simp at hi;subst hi;exact⟨_,rfl,⟨_,io,[],h1, .inl (withNe_nil (compO_nes h1)).symm,hc.2⟩,rfl,hdst, .inl ⟨hg,rfl⟩⟩
     |succ i=>simp at hi;simpa using ih2 i q hi
    ·rename_i j b hg
     split at h
     ·rename_i sl hs
      simp only[Option.some.injEq,Prod.mk.injEq]at h
      obtain⟨rfl,_⟩:=h
      refine⟨by simp[ih1],fun i q hi=>?_⟩
      cases i with
      |zero=>simp at hi;subst hi;exact⟨_,rfl,⟨_,io,[],h1, .inl (withNe_nil (compO_nes h1)).symm,hc.2⟩,rfl,hdst, .inr ⟨j,b,sl,hg,rfl,hs⟩⟩
      |succ i=>simp at hi;simpa using ih2 i q hi
     ·cases h
   ·cases h
  ·cases h
def Ixo.isCv:Ixo->Bool
 |.callv _ _=>true
 |_=>false
def Ixo.isCz:Ixo->Bool
 |.callz _ _ _ _ _=>true
 |_=>false
theorem compO_cz{P:Program}{nm:Nat}{op:Op}{z:Ixo}(h:compO P nm op=some z)(hv:z.isCz=true):∃c f xs nm ct,op = .call c/\c.callee = .value (.func f)/\bodied P f=true/\opds c.args.toList=some xs/\z = .callz nm ct f xs []:=by
 cases op with
 |call c=>
  simp only[compO]at h
  split at h
  ·rename_i f hcal
   split at h<;>try cases h
   rename_i h1 h2
   split at h
   ·cases h;cases hv
   split at h<;>cases h
   ·cases hv
   ·exact⟨_,_,_,_,_,rfl,hcal,h2,h1,rfl⟩
  ·(repeat' (split at h))<;>cases h<;>cases hv
  ·(repeat' (split at h))<;>cases h<;>cases hv
  ·(repeat' (split at h))<;>cases h<;>cases hv
  ·(repeat' (split at h))<;>cases h<;>cases hv
  ·(repeat' (split at h))<;>cases h<;>cases hv
  ·(repeat' (split at h))<;>cases h<;>cases hv
  ·cases h
 |_=>simp only[compO]at h<;>(repeat' (split at h))<;>first|(cases h;done)|(cases h;cases hv;done)|(simp only[Option.map_eq_some_iff]at h;obtain⟨_,_,rfl⟩:=h;cases hv)|contradiction|simp at h
theorem compO_cv{P:Program}{nm:Nat}{op:Op}{z:Ixo}(h:compO P nm op=some z)(hv:z.isCv=true):∃c g' g xs,op = .call c/\c.callee = .value g'/\opd g'=some g/\opds c.args.toList=some xs/\z = .callv g xs:=by
 cases op with
 |call c=>
  simp only[compO]at h
  split at h
  ·(repeat' (split at h))<;>cases h<;>cases hv
  ·(repeat' (split at h))<;>cases h<;>cases hv
  ·rename_i g' hng hcal
   split at h<;>cases h
   rename_i h1 h2
   exact⟨_,_,_,_,rfl,hcal,h1,h2,rfl⟩
  ·(repeat' (split at h))<;>cases h<;>cases hv
  ·(repeat' (split at h))<;>cases h<;>cases hv
  ·(repeat' (split at h))<;>cases h<;>cases hv
  ·(repeat' (split at h))<;>cases h<;>cases hv
  ·cases h
 |_=>simp only[compO]at h<;>(repeat' (split at h))<;>first|(cases h;done)|(cases h;cases hv;done)|(simp only[Option.map_eq_some_iff]at h;obtain⟨_,_,rfl⟩:=h;cases hv)|contradiction|simp at h
def Ixo.isMr:Ixo->Bool
 |.mrg _ _ _=>true
 |_=>false
def Ixo.isMn:Ixo->Bool
 |.mnx _=>true
 |_=>false
theorem compO_mr{P:Program}{nm:Nat}{op:Op}{z:Ixo}(h:compO P nm op=some z)(hv:z.isMr=true):∃t kk e m p,op = .range t m/\P.underlying t=some (.map kk e)/\opd m=some p/\z = .mrg nm p []:=by
 cases op with
 |range t x=>
  simp only[compO]at h
  split at h
  ·rename_i p h2
   split at h
   ·cases h;cases hv
   ·split at h<;>cases h
    rename_i h1
    obtain⟨k,e,h1⟩:=isMapT_ok h1
    exact⟨_,_,_,_,_,rfl,h1,h2,rfl⟩
  ·cases h
 |_=>simp only[compO]at h<;>(repeat' (split at h))<;>first|(cases h;done)|(cases h;cases hv;done)|(simp only[Option.map_eq_some_iff]at h;obtain⟨_,_,rfl⟩:=h;cases hv)|contradiction|simp at h
theorem compO_mn{P:Program}{nm:Nat}{op:Op}{z:Ixo}(h:compO P nm op=some z)(hv:z.isMn=true):∃x p,op = .next x false/\opd x=some p/\z = .mnx p:=by
 cases op with
 |next x b=>
  cases b with
  |true=>simp only[compO,Option.map_eq_some_iff]at h;obtain⟨p,h1,rfl⟩:=h;cases hv
  |false=>simp only[compO,Option.map_eq_some_iff]at h;obtain⟨p,h1,rfl⟩:=h;exact⟨_,_,rfl,h1,rfl⟩
 |_=>simp only[compO]at h<;>(repeat' (split at h))<;>first|(cases h;done)|(cases h;cases hv;done)|(rename_i e;cases e;done)|(simp only[Option.map_eq_some_iff]at h;obtain⟨_,_,rfl⟩:=h;first|(cases hv;done)|(rename_i e _ _;cases e;done)|(rename_i e _;cases e;done))|contradiction|simp at h
def Ixo.isMk:Ixo->Bool
 |.mkm _=>true
 |_=>false
def Ixo.isMe:Ixo->Bool
 |.men _=>true
 |_=>false
theorem compO_mk{P:Program}{nm:Nat}{op:Op}{z:Ixo}(h:compO P nm op=some z)(hv:z.isMk=true):∃t nm',op = .makeMap t none/\z = .mkm nm':=by
 cases op with
 |makeMap t r=>
  cases r with
  |some m=>simp only[compO]at h;cases h
  |none=>
   simp only[compO]at h
   split at h<;>cases h
   split at hv
   ·cases hv
   ·exact⟨_,_,rfl,rfl⟩
 |_=>simp only[compO]at h<;>(repeat' (split at h))<;>first|(cases h;done)|(cases h;cases hv;done)|(rename_i e;cases e;done)|(simp only[Option.map_eq_some_iff]at h;obtain⟨_,_,rfl⟩:=h;first|(cases hv;done)|(rename_i e _ _;cases e;done)|(rename_i e _;cases e;done))|contradiction|simp at h
theorem compO_me{P:Program}{nm:Nat}{op:Op}{z:Ixo}(h:compO P nm op=some z)(hv:z.isMe=true):∃x p,op = .entry x/\opd x=some p/\z = .men p:=by
 cases op with
 |entry x=>simp only[compO,Option.map_eq_some_iff]at h;obtain⟨p,h1,rfl⟩:=h;exact⟨_,_,rfl,h1,rfl⟩
 |_=>simp only[compO]at h<;>(repeat' (split at h))<;>first|(cases h;done)|(cases h;cases hv;done)|(rename_i e;cases e;done)|(simp only[Option.map_eq_some_iff]at h;obtain⟨_,_,rfl⟩:=h;first|(cases hv;done)|(rename_i e _ _;cases e;done)|(rename_i e _;cases e;done))|contradiction|simp at h
theorem compO_okX{X:Sess}{E:Env}{o:Oper}{C:Ctx}{s:St}{a:Act}{next:Act->World->Prop}{Q:Exit->Act->World->Prop}{k:St->Prop}(hX:SessOk X E)(hk:Nx X k next)(h:Rel X C s a)(hd:∀i,o.dst=some i->i<X.N){nm:Nat}{io:Ixo}(hc:compO X.P nm o.op=some io)
  (hs:stOk io o.dst=true) {ne:List Opd} {z:Ixo} (hz:z=io.withNe ne\/z=io.toX) (hE:evO E o.dst z s k):o.wpIn X.F X.n X.P a C.w next Q:=by
 rcases hz with rfl|rfl
 ·exact compO_ok hX hk h hd hc hs hE
 cases hv:io.isCv with
 |true=>
  obtain⟨c,g',g,xs,hop,hcal,h1,h2,rfl⟩:=compO_cv hc hv
  exact callx_ok hX hk h hd hop hcal h1 h2 hE
 |false=>
  cases hz:io.isCz with
  |true=>
   obtain⟨c,f,xs,nm,ct,hop,hcal,h1,h2,rfl⟩:=compO_cz hc hz
   exact callw_ok hX hk h hd hop hcal h1 h2 hE
  |false=>
   cases hm:io.isMr with
   |true=>
    obtain⟨t,kk,e,m,p,hop,h1,h2,rfl⟩:=compO_mr hc hm
    exact mrx_ok hX hk h hd hop h1 h2 hE
   |false=>
    cases hn:io.isMn with
    |true=>
     obtain⟨x,p,hop,h1,rfl⟩:=compO_mn hc hn
     exact mnz_ok hX hk h hd hop h1 hE
    |false=>
     cases hmk:io.isMk with
     |true=>
      obtain⟨t,nm',hop,rfl⟩:=compO_mk hc hmk
      exact mkx_ok hX hk h hd hop hE
     |false=>
      cases hme:io.isMe with
      |true=>
       obtain⟨x,p,hop,h1,rfl⟩:=compO_me hc hme
       exact mez_ok hX hk h hd hop h1 hE
      |false=>
       have e:io.toX=io.withNe []:=by
        rw[withNe_nil (compO_nes hc)]
        cases io<;>first|rfl|(cases hv;done)|(cases hz;done)|(cases hm;done)|(cases hn;done)|(cases hmk;done)|(cases hme;done)
       rw[e]at hE
       exact compO_ok hX hk h hd hc hs hE
section
variable {X:Sess} {E:Env} {Q:Exit->Act->World->Prop} {ops:Array Oper}
theorem step_ok(hX:SessOk X E){C:Ctx}{s:St}{a:Act}(h:Rel X C s a){i:Nat}{o:Oper}{p:IOp}(ho:ops[i]?=some o)(hp:IOpOf X.P X.N ops o p){k:St->Prop}(hE:evG E p s k){rest:List Nat}
  (hk:∀C' s' a',Rel X C' s' a'->k s'->wpOpsIn X.F X.n X.P ops Q rest a' C'.w):wpOpsIn X.F X.n X.P ops Q (i::rest) a C.w:=by
 obtain⟨⟨nm,io,ne,hc,hpo,hst⟩,hd,hdst,hg⟩:=hp
 have hNx:Nx X k (wpOpsIn X.F X.n X.P ops Q rest):=fun C' s' a'=>hk C' s' a'
 simp only[wpOpsIn,ho]
 unfold evG at hE
 rcases hg with⟨h1,h2⟩|⟨j,w,sl,h1,h2,h3⟩
 ·have hw:Region.wanted o (yielded ops a.tmps)=true:=by simp[Region.wanted,h1]
  rw[if_pos hw]
  rw[h2,hd]at hE
  exact compO_okX hX hNx h hdst hc hst hpo hE
 ·rw[h2,hd]at hE
  simp only at hE
  have hskip:∀(s':St),Rel X C s' a->k (s'.put o.dst (.tup []))->Region.wanted o (yielded ops a.tmps)=false ->
    if Region.wanted o (yielded ops a.tmps)=true then o.wpIn X.F X.n X.P a C.w (wpOpsIn X.F X.n X.P ops Q rest) Q else(∀f,o.about X.P C.w a.eval=some f->X.F.fn f)/\wpOpsIn X.F X.n X.P ops Q rest (a.put o.dst undef) C.w:=fun s' hr hks hw=>by
   rw[if_neg (by rw[hw];simp)]
   exact⟨fun f _=>hX.fn f,hk C _ _ (hr.put (v:=.tup []) (x:=undef) (by simp[RV,RVs,undef]) o.dst hdst) hks⟩
  have hyl:yielded ops a.tmps j=match a.tmps[sl]? with|some (.bool b)=>some b|_=>none:=by
   simp only[yielded,h3,Option.bind_some]
   rfl
  split at hE
  ·rename_i b hl
   have e1:=h.tm sl _ hl
   simp only[RV]at e1
   have e2:a.tmps[sl]?=some (.bool b):=by
    rw[Array.getD_eq_getD_getElem?]at e1
    cases hq:a.tmps[sl]? with
    |none=>rw[hq]at e1;simp[undef]at e1
    |some x=>rw[hq]at e1;simpa using e1
   rw[e2]at hyl
   simp only at hyl
   have hrel:Rel X C (s.lit sl b) a:=by
    refine⟨h.size,fun d v hv=>?_,h.sg,h.dis,h.imm,h.imm0,h.T,h.keep,h.marks,h.round,h.pin⟩
    rw[(Eqv.lit hl).1 d]at hv
    exact h.tm d v hv
   have hwn:Region.wanted o (yielded ops a.tmps)=(b==w):=by
    simp only[Region.wanted,h1,hyl]
    cases b<;>cases w<;>rfl
   cases b
   ·have hE':=hE.2 rfl
    cases w
    ·rw[if_pos (by rw[hwn];rfl)]
     exact compO_okX hX hNx hrel hdst hc hst hpo hE'
    ·exact hskip _ hrel hE' (by rw[hwn];rfl)
   ·have hE':=hE.1 rfl
    cases w
    ·exact hskip _ hrel hE' (by rw[hwn];rfl)
    ·rw[if_pos (by rw[hwn];rfl)]
     exact compO_okX hX hNx hrel hdst hc hst hpo hE'
  ·rename_i hl
   have e1:=h.tm sl _ hl
   simp only[RV,RVs]at e1
   obtain⟨vs,e1,rfl⟩:=e1
   have hyn:yielded ops a.tmps j=none:=by
    rw[hyl]
    rw[Array.getD_eq_getD_getElem?]at e1
    cases hq:a.tmps[sl]? with
    |none=>rfl
    |some x=>rw[hq]at e1;simp at e1;rw[e1]
   exact hskip s h hE (by simp[Region.wanted,h1,hyn])
  ·exact hE.elim
theorem wpOps_some(hX:SessOk X E):∀(l:List Nat) (a:Act) (w:World),wpOpsIn X.F X.n X.P ops (fun e a w=>e = .normal/\Q .normal a w) l a w->∃a' w',Q .normal a' w'
 | [],a,w,h=>⟨a,w,h.2⟩
 |i::l,a,w,h=>by
  simp only[wpOpsIn]at h
  split at h
  ·exact wpOps_some hX l a w h
  ·split at h
   ·obtain⟨_,h⟩:=h
    have hroom:∀n,X.F.room n:=fun n d hd=>by
     have:X.F.depth=none:=by rcases hX.wide with e|⟨l,e⟩<;>rw[e]<;>rfl
     rw[this]at hd;cases hd
    unfold Oper.uponIn at h
    split at h
    ·exact wpOps_some hX l _ _ h
    ·exact wpOps_some hX l _ _ h
    ·exact wpOps_some hX l _ _ h
    ·obtain⟨_,_,h⟩:=h
     obtain⟨e,w',fr,hr,_⟩:=h [] (hroom _)
     cases e with
     |returned v=>exact wpOps_some hX l _ _ hr
     |panicked ch=>exact absurd hr.1 (by simp)
     |outgrown=>obtain⟨_,_,h1,_⟩:=hr;cases h1
    ·obtain⟨_,h⟩:=h
     obtain⟨v,w',hr,_⟩:=h default [] (hroom _)
     exact wpOps_some hX l _ _ hr
    ·obtain⟨_,_,h⟩:=h
     obtain⟨e,w',hr,_⟩:=h default [] (hroom _)
     cases e with
     |returned v=>exact wpOps_some hX l _ _ hr
     |panicked ch=>exact absurd hr.1 (by simp)
     |outgrown=>obtain⟨_,_,h1,_⟩:=hr;cases h1
    ·exact absurd h.1 (by simp)
    ·exact h.elim
   ·exact wpOps_some hX l _ _ h.2
theorem step_some(hX:SessOk X E){C:Ctx}{s:St}{a:Act}(h:Rel X C s a){i:Nat}{o:Oper}{p:IOp}(ho:ops[i]?=some o)(hp:IOpOf X.P X.N ops o p){k:St->Prop}(hE:evG E p s k):∃C' s' a',Rel X C' s' a'/\k s':=by
 have h1:=step_ok (Q:=fun e a w=>e = .normal/\∃C' s',C'.w=w/\Rel X C' s' a/\k s') hX h ho hp hE (rest:=[]) (fun C' s' a' hr hk=>by simp only[wpOpsIn];exact⟨trivial,C',s',rfl,hr,hk⟩)
 obtain⟨a',w',C',s',rfl,hr,hk⟩:=wpOps_some (Q:=fun _ a w=>∃C' s',C'.w=w/\Rel X C' s' a/\k s') hX [i] a C.w h1
 exact⟨C',s',a',hr,hk⟩
theorem ops_ok(hX:SessOk X E){k:St->Prop}(hk:∀C s a,Rel X C s a->k s->Q .normal a C.w):∀(l:List Nat) (ps:List IOp),l.length=ps.length->(∀(j:Nat) (i:Nat),l[j]?=some i->∃o p,ops[i]?=some o/\ps[j]?=some p/\IOpOf X.P X.N ops o p) ->
  ∀C s a,Rel X C s a->evs E ps s k->wpOpsIn X.F X.n X.P ops Q l a C.w
 | [],[],_,_,C,s,a,h,hE=>by simp only[wpOpsIn];exact hk C s a h hE
 | [],_::_,hl,_,_,_,_,_,_=>by simp at hl
 |_::_,[],hl,_,_,_,_,_,_=>by simp at hl
 |i::l,p::ps,hl,hp,C,s,a,h,hE=>by
  obtain⟨o,p',ho,hp',hof⟩:=hp 0 i rfl
  simp at hp';subst hp'
  exact step_ok hX h ho hof (evs_cons.1 hE) fun C' s' a' hr hE'=>ops_ok hX hk l ps (by simpa using hl) (fun j i hj=>by simpa using hp (j+1) i (by simpa using hj)) C' s' a' hr hE'
def deps(m:Region.Mode)(o:Oper):List Nat:=(o.after.toList.filter (Region.binds m)).map (·.on)
def ancs(m:Region.Mode):List Oper->List Nat->List Nat
 | [],tbl=>tbl
 |o::os,tbl=>ancs m os (tbl++[(deps m o).foldl (fun b d=>b ||| 2 ^ d ||| tbl.getD d 0) 0])
def canon(m:Region.Mode)(late:Bool)(ops:List Oper)(io:List IOp):Nat->List Nat->List Nat
 |0,_=>[]
 |n+1,done=>
  let av:=(List.range ops.length).filter fun i => !done.contains i&&((ops[i]?).map fun o=>(deps m o).all done.contains).getD false
  match av.find? (fun i=>late&&((io[i]?).map fun p=>decide (p.o.cls<=1)).getD false)with
  |some i=>i::canon m late ops io n (i::done)
  |none=>match av with
   |i::_=>i::canon m late ops io n (i::done)
   | []=>[]
def dests(io:List IOp)(l:List Nat):List Nat:=l.flatMap fun j=>((io[j]?).bind (·.d)).toList
def pairsOk(io:List IOp)(tbl:List Nat):List Nat->Bool
 | []=>true
 |i::r=>r.all (fun j=>(tbl.getD j 0).testBit i||(match io[i]?,io[j]? with|some p,some q=>swapOk p (q.slim (dests io (i::r)))|_,_=>false))&&pairsOk io tbl r
def ordD(m:Region.Mode)(ops:List Oper):List Nat->List Nat->Bool
 |_,[]=>true
 |done,i::r=>((ops[i]?).map fun o=>(deps m o).all done.contains).getD false&&ordD m ops (i::done) r
def ordOk(m:Region.Mode)(ops:List Oper)(io:List IOp)(ord rdy:List Nat):Bool:=
 ord.all (fun i=>decide (i<ops.length))&&decide (ord.length=ops.length)&&decide ord.Nodup&&(List.range ops.length).all ord.contains&&pairsOk io (ancs m ops []) ord &&
 (List.range ops.length).all rdy.contains&&ordD m ops [] rdy
def addrOf(z:Ixo):List Opd:=z.aopds.filter fun a=>match a with
 |.t _=>true
 |.c _=>false
def nesOf(io:List IOp)(tbls:List (List Nat))(ord:List Nat)(j:Nat):List Opd:=
 (ord.takeWhile (· != j)).flatMap fun i=>if tbls.all fun t=>(t.getD j 0).testBit i then [] else match io[i]? with
  |some p=>match io[j]? with
   |some q=>if q.o.hard||decide (3<=p.o.cls) then addrOf p.o else []
   |none=>[]
  |none=>[]
def withNes(io:List IOp)(tbls:List (List Nat))(ord:List Nat):Nat->List IOp->List IOp
 |_,[]=>[]
 |j,p::ps=>{ p with o:=p.o.withNe (nesOf io tbls ord j) }::withNes io tbls ord (j+1) ps
end
section
variable {X:Sess} {E:Env} {Q:Exit->Act->World->Prop} {ops:Array Oper}
theorem ancs_ok(m:Region.Mode)(all:List Oper)(L:Nat->Prop)(hL:∀j,L j->∀o,all[j]?=some o->∀d∈deps m o,L d):∀(os:List Oper) (pre:List Oper) (tbl:List Nat),all=pre++os->tbl.length=pre.length ->
  (∀j x,(tbl.getD j 0).testBit x=true->(∀o,all[j]?=some o->∀d∈deps m o,L d)->L x) ->
  ∀j x,((ancs m os tbl).getD j 0).testBit x=true->(∀o,all[j]?=some o->∀d∈deps m o,L d)->L x
 | [],pre,tbl,_,_,h=>h
 |o::os,pre,tbl,ha,hl,h=>by
  simp only[ancs]
  refine ancs_ok m all L hL os (pre++[o]) _ (by simp[ha]) (by simp[hl]) ?_
  intro j x hx hj
  by_cases hjl:j<tbl.length
  ·refine h j x ?_ hj
   rwa [List.getD_eq_getElem?_getD,List.getElem?_append_left hjl,<- List.getD_eq_getElem?_getD]at hx
  ·by_cases hje:j=tbl.length
   ·subst hje
    have ho:all[tbl.length]?=some o:=by rw[ha,hl];simp
    have hd:=hj o ho
    rw[List.getD_eq_getElem?_getD,List.getElem?_append_right (Nat.le_refl _)]at hx
    simp only[Nat.sub_self,List.getElem?_cons_zero,Option.getD_some]at hx
    have key:∀(ds:List Nat) (m:Nat),(∀d∈ds,L d)->(m.testBit x=true->L x)->(ds.foldl (fun b d=>b ||| 2 ^ d ||| tbl.getD d 0) m).testBit x=true->L x:=by
     intro ds
     induction ds with
     |nil=>intro m _ h2 h3;exact h2 h3
     |cons d ds ih=>
      intro m h1 h2 h3
      refine ih (m ||| 2 ^ d ||| tbl.getD d 0) (fun e he=>h1 e (by simp[he])) (fun h4=>?_) h3
      simp only[Nat.testBit_or,Bool.or_eq_true]at h4
      rcases h4 with(h4|h4)|h4
      ·exact h2 h4
      ·have:d=x:=by simpa[Nat.testBit_two_pow]using h4
       exact this ▸ h1 d (by simp)
      ·exact h d x h4 (fun o' ho'=>hL d (h1 d (by simp)) o' ho')
    exact key (deps m o) 0 hd (by simp) hx
   ·rw[List.getD_eq_getElem?_getD,List.getElem?_eq_none (by simp;omega)]at hx
    simp at hx
theorem IOpOf.toX{P:Program}{N:Nat}{o:Oper}{p:IOp}(h:IOpOf P N ops o p):IOpOf P N ops o { p with o:=p.o.toX }:=by
 obtain⟨⟨nm,io',ne,k1,k2,k3⟩,k4,k5,k6⟩:=h
 rcases k2 with k2|k2
 ·exact⟨⟨nm,io',ne,k1,by show p.o.toX=_\/p.o.toX=_;rw[k2];cases io'<;>first|(left;rfl)|(right;rfl),k3⟩,k4,k5,k6⟩
 ·exact⟨⟨nm,io',ne,k1, .inr (by show p.o.toX=_;rw[k2];cases io'<;>rfl),k3⟩,k4,k5,k6⟩
theorem IOpOf.slim{P:Program}{N:Nat}{o:Oper}{p:IOp}(h:IOpOf P N ops o p)(ds:List Nat):IOpOf P N ops o (p.slim ds):=by
 obtain⟨⟨nm,io',ne,k1,k2,k3⟩,k4,k5,k6⟩:=h
 rcases k2 with k2|k2
 ·exact⟨⟨nm,io',((io'.withNe ne).nes.filter fun q=>q.slots.all fun i => !ds.contains i),k1, .inl (by show(p.o.slim ds)=_;rw[k2];unfold Ixo.slim;cases io'<;>rfl),k3⟩,k4,k5,k6⟩
 ·exact⟨⟨nm,io',(io'.nes.filter fun q=>q.slots.all fun i => !ds.contains i),k1,by show(p.o.slim ds)=_\/(p.o.slim ds)=_;rw[k2];unfold Ixo.slim;cases io'<;>first|(left;rfl)|(right;rfl),k3⟩,k4,k5,k6⟩
def destF(io:Nat->IOp)(l:List Nat):List Nat:=l.flatMap fun j=>(io j).d.toList
theorem front{E:Env}(hX:SessOk X E){io:Nat->IOp}{k:St->Prop}(hk:Resp k)(hio:∀i,i<ops.size->∃o,ops[i]?=some o/\IOpOf X.P X.N ops o (io i))(i:Nat) :
  ∀(r1 r2:List Nat),(∀j∈r1,j<ops.size)->(∀p j q,r1=p++j::q->swapOk (io j) ((io i).slim (destF io (j::q)))=true)->∀C s a,Rel X C s a->evs E ((r1++i::r2).map io) s k->evG E ((io i).slim (destF io r1)) s fun s'=>evs E ((r1++r2).map io) s' k
 | [],r2,_,_,C,s,a,_,hE=>evG_slim (evs_resp hk _) (evs_cons.1 hE)
 |j::r1,r2,hlt,hsw,C,s,a,h,hE=>by
  have hE1:=evs_cons.1 hE
  have hresp:∀l:List Nat,Resp fun s=>evs E (l.map io) s k:=fun l=>evs_resp hk _
  -- x's own outcome is one; behind it the induction goes
  have hc:(io j).o.cls≠2/\(io j).o.cls≠5:=by
   have:=hsw [] j r1 rfl
   simp only[swapOk,Bool.and_eq_true]at this
   obtain⟨⟨⟨⟨⟨⟨_,h3⟩,_⟩,_⟩,_⟩,_⟩,_⟩:=this
   constructor<;>(intro e;rw[e]at h3;simp at h3)
  obtain⟨e,g1,g2,_⟩:=evGX_det ((evG_iff (hresp (r1++i::r2))).1 hE1) hc
  obtain⟨o,ho,hof⟩:=hio j (hlt j (by simp))
  have hone:evG E (io j) s fun q=>Eqv (app (io j).d s e) q:=(evG_iff (fun a b hab hq=>hq.trans hab)).2 (g2 _ (Eqv.refl _))
  obtain⟨C1,s1,a1,hr1,hq⟩:=step_some hX h ho hof hone
  have hr1':Rel X C1 (app (io j).d s e) a1:=by
   obtain⟨q1,q2,q3⟩:=hq
   exact⟨hr1.size,fun d v hv=>hr1.tm d v ((q1 d).symm.trans hv),by rw[q2];exact hr1.sg,by rw[q2];exact hr1.dis,hr1.imm,hr1.imm0,hr1.T,by rw[q3];exact hr1.keep,hr1.marks,hr1.round,by rw[q3];exact hr1.pin⟩
  have ih:=front hX hk hio i r1 r2 (fun q hq=>hlt q (by simp[hq])) (fun p j' q hq=>hsw (j::p) j' q (by rw[hq];rfl)) C1 _ a1 hr1' g1
  have ih':evG E ((io i).slim (destF io (j::r1))) (app (io j).d s e) fun s'=>evs E ((r1++r2).map io) s' k:=by
   have:=evG_slim (ds:=(io j).d.toList) (hresp (r1++r2)) ih
   have e1:((io i).slim (destF io r1)).slim (io j).d.toList=(io i).slim (destF io (j::r1)):=by
    simp only[IOp.slim,slim_slim,destF,List.flatMap_cons]
   rw[e1]at this;exact this
  have h2:evG E (io j) s fun s1=>evG E ((io i).slim (destF io (j::r1))) s1 fun s'=>evs E ((r1++r2).map io) s' k:=
   (evG_iff (fun a b hab hq=>evG_eqv (hresp (r1++r2)) hab hq)).2 (g2 _ ih')
  have h3:=swap h (hresp (r1++r2)) (hsw [] j r1 rfl) h2
  refine(evG_iff (hresp (j::r1++r2))).2 (evGX_mono ((evG_iff ?_).1 h3) fun e he=>evs_cons.2 he)
  exact fun a b hab hq=>evG_eqv (hresp (r1++r2)) hab hq
theorem pairs_get{io:List IOp}{tbl:List Nat}:∀ {l:List Nat},pairsOk io tbl l=true->∀ {r1 r2:List Nat} {i:Nat},l=r1++i::r2->∀s j t,r1=s++j::t->(tbl.getD i 0).testBit j=true\/∃p q,io[j]?=some p/\io[i]?=some q/\swapOk p (q.slim (dests io (j::t++i::r2)))=true
 | [],_,r1,r2,i,hl,_,j,_,_=>by simp at hl
 |x::l,h,[],r2,i,hl,s,j,t,hj=>by simp at hj
 |x::l,h,y::r1,r2,i,hl,s,j,t,hj=>by
  simp only[List.cons_append,List.cons.injEq]at hl
  obtain⟨rfl,hl⟩:=hl
  simp only[pairsOk,Bool.and_eq_true,List.all_eq_true]at h
  cases s with
  |nil=>
   simp only[List.nil_append,List.cons.injEq]at hj
   obtain⟨rfl,rfl⟩:=hj
   have:=h.1 i (by rw[hl];simp)
   simp only[Bool.or_eq_true]at this
   rcases this with h1|h1
   ·exact .inl h1
   ·right
    split at h1
    ·rename_i p q h2 h3;exact⟨p,q,h2,h3,by rw[hl]at h1;exact h1⟩
    ·cases h1
  |cons z s=>
   simp only[List.cons_append,List.cons.injEq]at hj
   exact pairs_get h.2 hl s j t hj.2
theorem pairs_erase{io:List IOp}{tbl:List Nat}{l l':List Nat}(hs:l'.Sublist l):pairsOk io tbl l=true->pairsOk io tbl l'=true:=by
 induction hs with
 |slnil=>exact id
 |cons a hs ih=>intro h;simp only[pairsOk,Bool.and_eq_true]at h;exact ih h.2
 |@cons_cons l1 l2 a hs ih=>
  intro h
  simp only[pairsOk,Bool.and_eq_true,List.all_eq_true]at h⊢
  refine⟨fun j hj=>?_,ih h.2⟩
  have:=h.1 j (hs.subset hj)
  simp only[Bool.or_eq_true]at this⊢
  refine this.imp id fun h1=>?_
  split at h1
  ·rename_i p q h2 h3
   try simp only[h2,h3]
   refine swap_less (fun d hd=>?_) (fun d hd=>?_) h1
   ·simp[dests,h2,hd]
   ·simp only[dests,List.mem_flatMap]at hd⊢
    obtain⟨m,hm,hm2⟩:=hd
    exact⟨m,(hs.cons_cons a).subset hm,hm2⟩
  ·cases h1
def L(listed:Array Bool)(j:Nat):Prop:=listed.getD j false=true
structure Inv(m:Region.Mode)(ops:Array Oper)(io:List IOp)(rdy:List Nat)(listed:Array Bool)(rem:List Nat):Prop where
 size:listed.size=ops.size
 mem:∀i,i∈rem<->i<ops.size/\¬L listed i
 closed:∀j,L listed j->∀o,ops.toList[j]?=some o->∀d∈deps m o,L listed d
 pairs:pairsOk io (ancs m ops.toList []) rem=true
 nodup:rem.Nodup
 all:∀i,i<ops.size->i∈rdy
 small:∀o∈ops.toList,∀d∈deps m o,d<ops.size
 ready:∀r1 i r2,rdy=r1++i::r2->∀o,ops.toList[i]?=some o->∀d∈deps m o,d∈r1
theorem first_not{p:Nat->Prop}:∀(l:List Nat),(∃i∈l,¬p i)->∃r1 i r2,l=r1++i::r2/\¬p i/\∀x∈r1,p x
 | [],h=>by obtain⟨i,hi,_⟩:=h;cases hi
 |x::l,h=>by
  by_cases hx:p x
  ·obtain⟨r1,i,r2,h1,h2,h3⟩:=first_not l (by
    obtain⟨i,hi,hn⟩:=h
    rcases List.mem_cons.1 hi with rfl|hi
    ·exact absurd hx hn
    ·exact⟨i,hi,hn⟩)
   exact⟨x::r1,i,r2,by rw[h1];rfl,h2,fun y hy=>by rcases List.mem_cons.1 hy with rfl|hy;exact hx;exact h3 y hy⟩
  ·exact⟨[],x,l,rfl,hx,fun y hy=>by cases hy⟩
theorem go_step(m:Region.Mode)(ops:Array Oper)(fuel t:Nat)(listed:Array Bool)(acc:List Nat) :
  Region.linearise.go m ops (fuel+1) t listed acc=(match ((List.range ops.size).filter fun i => !listed.getD i true&&((ops[i]?).map (·.after.all fun e => !Region.binds m e||listed.getD e.on false)).getD false)[t%((List.range ops.size).filter fun i => !listed.getD i true&&((ops[i]?).map (·.after.all fun e => !Region.binds m e||listed.getD e.on false)).getD false).length]? with
   |some i=>Region.linearise.go m ops fuel (t / ((List.range ops.size).filter fun i => !listed.getD i true&&((ops[i]?).map (·.after.all fun e => !Region.binds m e||listed.getD e.on false)).getD false).length) (listed.setIfInBounds i true) (i::acc)
   |none=>acc.reverse):=rfl
theorem sched_ok(hX:SessOk X E){m:Region.Mode}{rdy:List Nat}{io:List IOp}{d0:IOp}{k:St->Prop}(hr:Resp k)(hio:∀i,i<ops.size->∃o,ops[i]?=some o/\IOpOf X.P X.N ops o (io.getD i d0))(hlen:io.length=ops.size)
  (hk:∀C s a,Rel X C s a->k s->Q .normal a C.w):∀(fuel t:Nat) (listed:Array Bool) (acc rem:List Nat),Inv m ops io rdy listed rem->rem.length=fuel->∃l,Region.linearise.go m ops fuel t listed acc=acc.reverse++l /\
   ∀C s a,Rel X C s a->evs E (rem.map fun i=>io.getD i d0) s k->wpOpsIn X.F X.n X.P ops Q l a C.w
 |0,t,listed,acc,rem,hI,hf=>by
  have:rem=[]:=List.eq_nil_of_length_eq_zero hf
  subst this
  exact⟨[],by simp[Region.linearise.go],fun C s a h hE=>by simp only[wpOpsIn];exact hk C s a h hE⟩
 |fuel+1,t,listed,acc,rem,hI,hf=>by
  rw[go_step]
  generalize hrs:((List.range ops.size).filter fun i => !listed.getD i true&&((ops[i]?).map (·.after.all fun e => !Region.binds m e||listed.getD e.on false)).getD false)=rs
  have hmem:∀i,i∈rs<->i∈rem/\∀o,ops.toList[i]?=some o->∀d∈deps m o,L listed d:=fun i=>by
   rw[<- hrs,List.mem_filter,List.mem_range,hI.mem]
   by_cases hlt:i<ops.size
   ·have ho:ops[i]?=some ops[i]:=by simp[hlt]
    have ho':ops.toList[i]?=some ops[i]:=by simp[hlt]
    have hl:(listed.getD i true=listed.getD i false):=by simp[Array.getD,hI.size,hlt]
    simp only[hlt,true_and,ho,Option.map_some,Option.getD_some,Bool.and_eq_true,Bool.not_eq_true',hl,ho',Option.some.injEq,forall_eq']
    constructor
    ·rintro⟨h1,h2⟩
     refine⟨by simp[L,h1],fun d hd=>?_⟩
     simp only[deps,List.mem_map,List.mem_filter]at hd
     obtain⟨e,⟨he,hb⟩,rfl⟩:=hd
     have h3:=(Array.all_eq_true'.1 h2) e (by simpa using he)
     rw[hb]at h3
     simpa[L]using h3
    ·rintro⟨h1,h2⟩
     refine⟨by simpa[L]using h1,?_⟩
     refine Array.all_eq_true'.2 fun e he=>?_
     by_cases hb:Region.binds m e=true
     ·have:=h2 e.on (by simp only[deps,List.mem_map,List.mem_filter];exact⟨e,⟨by simpa using he,hb⟩,rfl⟩)
      simpa[L,hb]using this
     ·simp[hb]
   ·simp[hlt]
  have hne:rs≠[]:=fun e=>by
   cases hrem:rem with
   |nil=>rw[hrem]at hf;cases hf
   |cons i r=>
    have him:=(hI.mem i).1 (by rw[hrem];simp)
    obtain⟨r1,i',r2,h1,h2,h3⟩:=first_not (p:=fun i=>i<ops.size->L listed i) rdy ⟨i,hI.all i him.1,fun h=>him.2 (h him.1)⟩
    have hlt:i'<ops.size:=Classical.byContradiction fun hn=>h2 fun h=>absurd h hn
    have hnl:¬L listed i':=fun h=>h2 fun _=>h
    have:i'∈rs:=(hmem i').2 ⟨(hI.mem i').2 ⟨hlt,hnl⟩,fun o ho d hd=>by
     have hdl:=h3 d (hI.ready r1 i' r2 h1 o ho d hd)
     by_cases hds:d<ops.size
     ·exact hdl hds
     ·exact absurd (hI.small o (List.mem_of_getElem? ho) d hd) hds⟩
    rw[e]at this;cases this
  have hpos:0<rs.length:=List.length_pos_iff.2 hne
  have hidx:t%rs.length<rs.length:=Nat.mod_lt _ hpos
  obtain⟨i,hi⟩:∃i,rs[t%rs.length]?=some i:=⟨_,List.getElem?_eq_getElem hidx⟩
  rw[hi]
  simp only
  have hirs:i∈rs:=List.mem_of_getElem? hi
  obtain⟨hirem,hideps⟩:=(hmem i).1 hirs
  obtain⟨hilt,hinL⟩:=(hI.mem i).1 hirem
  obtain⟨r1,r2,hsplit⟩:=List.append_of_mem hirem
  have hnd:=hI.nodup
  rw[hsplit]at hnd
  have hni:i∉r1/\i∉r2:=by
   rw[List.nodup_append]at hnd
   obtain⟨_,h2,h3⟩:=hnd
   exact⟨fun h=>h3 i h i (by simp) rfl,(List.nodup_cons.1 h2).1⟩
  have hL':∀j,L (listed.setIfInBounds i true) j<->L listed j\/j=i:=fun j=>by
   simp only[L,Array.getD_eq_getD_getElem?,Array.getElem?_setIfInBounds,hI.size]
   by_cases e:i=j
   ·subst e;simp[hilt]
   ·simp[e,Ne.symm e]
  have hI':Inv m ops io rdy (listed.setIfInBounds i true) (r1++r2):=by
   refine⟨by simp[hI.size],fun j=>?_,fun j hj o ho d hd=>?_,pairs_erase (l:=rem) (by rw[hsplit];exact List.Sublist.append (List.Sublist.refl _) (List.sublist_cons_self _ _)) hI.pairs,?_,hI.all,hI.small,hI.ready⟩
   ·have:=hI.mem j
    rw[hsplit]at this
    simp only[List.mem_append,List.mem_cons]at this⊢
    rw[hL']
    constructor
    ·intro h
     have h2:=this.1 (by rcases h with h|h<;>simp[h])
     refine⟨h2.1,fun h3=>?_⟩
     rcases h3 with h3|rfl
     ·exact h2.2 h3
     ·rcases h with h|h
      ·exact hni.1 h
      ·exact hni.2 h
    ·rintro⟨h1,h2⟩
     have h3:=this.2 ⟨h1,fun h=>h2 (.inl h)⟩
     rcases h3 with h3|h3|h3
     ·exact .inl h3
     ·exact absurd (.inr h3) h2
     ·exact .inr h3
   ·rw[hL']at hj⊢
    rcases hj with hj|rfl
    ·exact .inl (hI.closed j hj o ho d hd)
    ·exact .inl (hideps o ho d hd)
   ·rw[List.nodup_append]at hnd⊢
    exact⟨hnd.1,(List.nodup_cons.1 hnd.2.1).2,fun a ha b hb=>hnd.2.2 a ha b (by simp[hb])⟩
  obtain⟨l,h1,h2⟩:=sched_ok hX hr hio hlen hk fuel (t / rs.length) _ (i::acc) (r1++r2) hI' (by rw[hsplit]at hf;simp at hf⊢;omega)
  refine⟨i::l,by rw[h1];simp,fun C s a h hE=>?_⟩
  obtain⟨o,ho,hof⟩:=hio i hilt
  have hgd:∀j,j<ops.size->io[j]?=some (io.getD j d0):=fun j hj=>by
   rw[List.getD_eq_getElem?_getD,List.getElem?_eq_getElem (by rw[hlen];exact hj)];rfl
  have hlt1:∀j∈r1,j<ops.size:=fun j hj=>((hI.mem j).1 (by rw[hsplit];simp[hj])).1
  have hsw:∀p j q,r1=p++j::q->swapOk (io.getD j d0) ((io.getD i d0).slim (destF (fun i=>io.getD i d0) (j::q)))=true:=fun p j q hj=>by
   have hjr:j∈r1:=by rw[hj];simp
   rcases pairs_get hI.pairs hsplit p j q hj with h3|⟨x,y,h3,h4,h5⟩
   ·have:=ancs_ok m ops.toList (L listed) hI.closed ops.toList [] [] rfl rfl (fun j x hx=>by simp at hx) i j h3 hideps
    exact absurd this ((hI.mem j).1 (by rw[hsplit];simp[hjr])).2
   ·have e1:x=io.getD j d0:=by have:=hgd j (hlt1 j hjr);rw[h3]at this;exact Option.some.inj this
    have e2:y=io.getD i d0:=by have:=hgd i hilt;rw[h4]at this;exact Option.some.inj this
    subst e1;subst e2
    refine swap_less (fun d hd=>?_) (fun d hd=>?_) h5
    ·exact List.mem_flatMap.2 ⟨j,by simp,by show d∈(io.getD j d0).d.toList;rw[hd];simp⟩
    ·simp only[destF,List.mem_flatMap]at hd
     obtain⟨k',hk',hd'⟩:=hd
     simp only[dests,List.mem_flatMap]
     refine⟨k',by simp at hk'⊢;rcases hk' with rfl|hk'<;>simp_all,?_⟩
     have hkr:k'∈r1:=by rw[hj];simp at hk'⊢;rcases hk' with rfl|hk'<;>simp_all
     rw[hgd k' (hlt1 k' hkr)];exact hd'
  rw[hsplit]at hE
  have hfr:=front (ops:=ops) hX hr hio i r1 r2 hlt1 hsw C s a h hE
  exact step_ok hX h ho (hof.slim _) hfr fun C' s' a' hrel hE'=>h2 C' s' a' hrel hE'
structure MoreE(m:Region.Mode)(ops ops2:Array Oper)(i0 j0:Nat):Prop where
 size:ops2.size=ops.size
 get:∀i o,ops.toList[i]?=some o->∃o2,ops2.toList[i]?=some o2/\(∀d∈deps m o,d∈deps m o2)/\∀d∈deps m o2,d∈deps m o\/(i=j0/\d=i0)
theorem MoreE.get2{m:Region.Mode}{ops ops2:Array Oper}{i0 j0:Nat}(h:MoreE m ops ops2 i0 j0){i:Nat}{o2:Oper}(ho:ops2.toList[i]?=some o2):∃o,ops.toList[i]?=some o/\(∀d∈deps m o,d∈deps m o2)/\∀d∈deps m o2,d∈deps m o\/(i=j0/\d=i0):=by
 have hlt:i<ops2.toList.length:=(List.getElem?_eq_some_iff.1 ho).1
 have hlt':i<ops.toList.length:=by have:=h.size;simp at hlt⊢;omega
 obtain⟨o2',k1,k2,k3⟩:=h.get i ops.toList[i] (List.getElem?_eq_getElem hlt')
 rw[ho]at k1;cases k1
 exact⟨_,List.getElem?_eq_getElem hlt',k2,k3⟩
def Good(i0 j0:Nat)(l:List Nat)(listed:Array Bool):Prop:=∀r1 r2,l=r1++j0::r2->L listed i0\/i0∈r1
theorem go_app(m:Region.Mode)(ops:Array Oper):∀(fuel t:Nat) (listed:Array Bool) (acc:List Nat),∃l,Region.linearise.go m ops fuel t listed acc=acc.reverse++l
 |0,t,listed,acc=>⟨[],by simp[Region.linearise.go]⟩
 |fuel+1,t,listed,acc=>by
  rw[go_step]
  split
  ·rename_i i _
   obtain⟨l,hl⟩:=go_app m ops fuel (t / ((List.range ops.size).filter fun i => !listed.getD i true&&((ops[i]?).map (·.after.all fun e => !Region.binds m e||listed.getD e.on false)).getD false).length) (listed.setIfInBounds i true) (i::acc)
   exact⟨i::l,by rw[hl];simp⟩
  ·exact⟨[],by simp⟩
theorem sched2(hX:SessOk X E){ops2:Array Oper}{i0 j0:Nat}{m:Region.Mode}(hmo:MoreE m ops ops2 i0 j0){rdy:List Nat}{io:List IOp}{d0:IOp}{k:St->Prop}(hr:Resp k)(hio:∀i,i<ops.size->∃o,ops[i]?=some o/\IOpOf X.P X.N ops o (io.getD i d0))(hlen:io.length=ops.size)
  (hk:∀C s a,Rel X C s a->k s->Q .normal a C.w):∀(fuel t:Nat) (listed:Array Bool) (acc rem:List Nat),Inv m ops2 io rdy listed rem->rem.length=fuel->∃l,Region.linearise.go m ops fuel t listed acc=acc.reverse++l/\(Good i0 j0 l listed ->
   ∀C s a,Rel X C s a->evs E (rem.map fun i=>io.getD i d0) s k->wpOpsIn X.F X.n X.P ops Q l a C.w)
 |0,t,listed,acc,rem,hI,hf=>by
  have:rem=[]:=List.eq_nil_of_length_eq_zero hf
  subst this
  exact⟨[],by simp[Region.linearise.go],fun _ C s a h hE=>by simp only[wpOpsIn];exact hk C s a h hE⟩
 |fuel+1,t,listed,acc,rem,hI,hf=>by
  rw[go_step]
  generalize hrs:((List.range ops.size).filter fun i => !listed.getD i true&&((ops[i]?).map (·.after.all fun e => !Region.binds m e||listed.getD e.on false)).getD false)=rs
  have hsz:=hmo.size
  have hmem:∀i,i∈rs<->i∈rem/\∀o,ops.toList[i]?=some o->∀d∈deps m o,L listed d:=fun i=>by
   rw[<- hrs,List.mem_filter,List.mem_range,hI.mem,hsz]
   by_cases hlt:i<ops.size
   ·have ho:ops[i]?=some ops[i]:=by simp[hlt]
    have ho':ops.toList[i]?=some ops[i]:=by simp[hlt]
    have hl:(listed.getD i true=listed.getD i false):=by simp[Array.getD,hI.size,hsz,hlt]
    simp only[hlt,true_and,ho,Option.map_some,Option.getD_some,Bool.and_eq_true,Bool.not_eq_true',hl,ho',Option.some.injEq,forall_eq']
    constructor
    ·rintro⟨h1,h2⟩
     refine⟨by simp[L,h1],fun d hd=>?_⟩
     simp only[deps,List.mem_map,List.mem_filter]at hd
     obtain⟨e,⟨he,hb⟩,rfl⟩:=hd
     have h3:=(Array.all_eq_true'.1 h2) e (by simpa using he)
     rw[hb]at h3
     simpa[L]using h3
    ·rintro⟨h1,h2⟩
     refine⟨by simpa[L]using h1,?_⟩
     refine Array.all_eq_true'.2 fun e he=>?_
     by_cases hb:Region.binds m e=true
     ·have:=h2 e.on (by simp only[deps,List.mem_map,List.mem_filter];exact⟨e,⟨by simpa using he,hb⟩,rfl⟩)
      simpa[L,hb]using this
     ·simp[hb]
   ·simp[hlt]
  have hne:rs≠[]:=fun e=>by
   cases hrem:rem with
   |nil=>rw[hrem]at hf;cases hf
   |cons i r=>
    have him:=(hI.mem i).1 (by rw[hrem];simp)
    obtain⟨r1,i',r2,h1,h2,h3⟩:=first_not (p:=fun i=>i<ops.size->L listed i) rdy ⟨i,hI.all i him.1,fun h=>him.2 (h (hsz ▸ him.1))⟩
    have hlt:i'<ops.size:=Classical.byContradiction fun hn=>h2 fun h=>absurd h hn
    have hnl:¬L listed i':=fun h=>h2 fun _=>h
    have:i'∈rs:=(hmem i').2 ⟨(hI.mem i').2 ⟨by rw[hsz];exact hlt,hnl⟩,fun o ho d hd=>by
     obtain⟨o2,ho2,hs2,_⟩:=hmo.get i' o ho
     have hdl:=h3 d (hI.ready r1 i' r2 h1 o2 ho2 d (hs2 d hd))
     by_cases hds:d<ops.size
     ·exact hdl hds
     ·exact absurd (hI.small o2 (List.mem_of_getElem? ho2) d (hs2 d hd)) (by rw[hsz];exact hds)⟩
    rw[e]at this;cases this
  have hpos:0<rs.length:=List.length_pos_iff.2 hne
  have hidx:t%rs.length<rs.length:=Nat.mod_lt _ hpos
  obtain⟨i,hi⟩:∃i,rs[t%rs.length]?=some i:=⟨_,List.getElem?_eq_getElem hidx⟩
  rw[hi]
  simp only
  have hirs:i∈rs:=List.mem_of_getElem? hi
  obtain⟨hirem,hideps0⟩:=(hmem i).1 hirs
  by_cases hgood:i=j0->L listed i0
  case neg=>
   obtain⟨l,hl⟩:=go_app m ops fuel (t / rs.length) (listed.setIfInBounds i true) (i::acc)
   refine⟨i::l,by rw[hl];simp,fun hg=>absurd (fun e=>?_) hgood⟩
   rcases hg [] l (by rw[e];rfl)with q|q
   ·exact q
   ·cases q
  have hideps:∀o,ops2.toList[i]?=some o->∀d∈deps m o,L listed d:=fun o2 ho2 d hd=>by
   obtain⟨o,ho,_,hs2⟩:=hmo.get2 ho2
   rcases hs2 d hd with q|⟨q1,q2⟩
   ·exact hideps0 o ho d q
   ·rw[q2];exact hgood q1
  obtain⟨hilt2,hinL⟩:=(hI.mem i).1 hirem
  have hilt:i<ops.size:=hsz ▸ hilt2
  obtain⟨r1,r2,hsplit⟩:=List.append_of_mem hirem
  have hnd:=hI.nodup
  rw[hsplit]at hnd
  have hni:i∉r1/\i∉r2:=by
   rw[List.nodup_append]at hnd
   obtain⟨_,h2,h3⟩:=hnd
   exact⟨fun h=>h3 i h i (by simp) rfl,(List.nodup_cons.1 h2).1⟩
  have hL':∀j,L (listed.setIfInBounds i true) j<->L listed j\/j=i:=fun j=>by
   simp only[L,Array.getD_eq_getD_getElem?,Array.getElem?_setIfInBounds,hI.size]
   by_cases e:i=j
   ·subst e;simp[hilt2]
   ·simp[e,Ne.symm e]
  have hI':Inv m ops2 io rdy (listed.setIfInBounds i true) (r1++r2):=by
   refine⟨by simp[hI.size],fun j=>?_,fun j hj o ho d hd=>?_,pairs_erase (l:=rem) (by rw[hsplit];exact List.Sublist.append (List.Sublist.refl _) (List.sublist_cons_self _ _)) hI.pairs,?_,hI.all,hI.small,hI.ready⟩
   ·have:=hI.mem j
    rw[hsplit]at this
    simp only[List.mem_append,List.mem_cons]at this⊢
    rw[hL']
    constructor
    ·intro h
     have h2:=this.1 (by rcases h with h|h<;>simp[h])
     refine⟨h2.1,fun h3=>?_⟩
     rcases h3 with h3|rfl
     ·exact h2.2 h3
     ·rcases h with h|h
      ·exact hni.1 h
      ·exact hni.2 h
    ·rintro⟨h1,h2⟩
     have h3:=this.2 ⟨h1,fun h=>h2 (.inl h)⟩
     rcases h3 with h3|h3|h3
     ·exact .inl h3
     ·exact absurd (.inr h3) h2
     ·exact .inr h3
   ·rw[hL']at hj⊢
    rcases hj with hj|rfl
    ·exact .inl (hI.closed j hj o ho d hd)
    ·exact .inl (hideps o ho d hd)
   ·rw[List.nodup_append]at hnd⊢
    exact⟨hnd.1,(List.nodup_cons.1 hnd.2.1).2,fun a ha b hb=>hnd.2.2 a ha b (by simp[hb])⟩
  obtain⟨l,h1,h2⟩:=sched2 hX hmo hr hio hlen hk fuel (t / rs.length) _ (i::acc) (r1++r2) hI' (by rw[hsplit]at hf;simp at hf⊢;omega)
  refine⟨i::l,by rw[h1];simp,fun hg C s a h hE=>?_⟩
  have hg2:Good i0 j0 l (listed.setIfInBounds i true):=fun q1 q2 hq=>by
   rcases hg (i::q1) q2 (by rw[hq];rfl)with q|q
   ·exact .inl ((hL' i0).2 (.inl q))
   ·rcases List.mem_cons.1 q with q|q
    ·exact .inl ((hL' i0).2 (.inr q))
    ·exact .inr q
  obtain⟨o,ho,hof⟩:=hio i hilt
  have hgd:∀j,j<ops.size->io[j]?=some (io.getD j d0):=fun j hj=>by
   rw[List.getD_eq_getElem?_getD,List.getElem?_eq_getElem (by rw[hlen];exact hj)];rfl
  have hlt1:∀j∈r1,j<ops.size:=fun j hj=>hsz ▸ ((hI.mem j).1 (by rw[hsplit];simp[hj])).1
  have hsw:∀p j q,r1=p++j::q->swapOk (io.getD j d0) ((io.getD i d0).slim (destF (fun i=>io.getD i d0) (j::q)))=true:=fun p j q hj=>by
   have hjr:j∈r1:=by rw[hj];simp
   rcases pairs_get hI.pairs hsplit p j q hj with h3|⟨x,y,h3,h4,h5⟩
   ·have:=ancs_ok m ops2.toList (L listed) hI.closed ops2.toList [] [] rfl rfl (fun j x hx=>by simp at hx) i j h3 hideps
    exact absurd this ((hI.mem j).1 (by rw[hsplit];simp[hjr])).2
   ·have e1:x=io.getD j d0:=by have:=hgd j (hlt1 j hjr);rw[h3]at this;exact Option.some.inj this
    have e2:y=io.getD i d0:=by have:=hgd i hilt;rw[h4]at this;exact Option.some.inj this
    subst e1;subst e2
    refine swap_less (fun d hd=>?_) (fun d hd=>?_) h5
    ·exact List.mem_flatMap.2 ⟨j,by simp,by show d∈(io.getD j d0).d.toList;rw[hd];simp⟩
    ·simp only[destF,List.mem_flatMap]at hd
     obtain⟨k',hk',hd'⟩:=hd
     simp only[dests,List.mem_flatMap]
     refine⟨k',by simp at hk'⊢;rcases hk' with rfl|hk'<;>simp_all,?_⟩
     have hkr:k'∈r1:=by rw[hj];simp at hk'⊢;rcases hk' with rfl|hk'<;>simp_all
     rw[hgd k' (hlt1 k' hkr)];exact hd'
  rw[hsplit]at hE
  have hfr:=front (ops:=ops) hX hr hio i r1 r2 hlt1 hsw C s a h hE
  exact step_ok hX h ho (hof.slim _) hfr fun C' s' a' hrel hE'=>h2 hg2 C' s' a' hrel hE'
def ordsOk(P:Program)(ops:Array Oper)(io:List IOp)(ord:List Nat):Bool:=
 ops.toList.all (fun o=>o.after.toList.all fun e=>decide (e.on<ops.size)) &&
 (if Region.departs ops && !(P.follows .mixedOrders) then
  ordOk .text ops.toList io ord ord&&ordOk .gc ops.toList io ord (canon .gc false ops.toList io ops.size [])
 else ordOk .any ops.toList io ord ord)
def isLd(ps:List IOp)(g:Nat):Bool:=ps.any fun q=>match q.d,q.o with
 |some d, .load _ _ _=>d==g
 |_,_=>false
def lastX(io:List IOp)(ord:List Nat):List IOp:=
 match ord.getLast? with
 |some i=>match io[i]? with
  |some p=>match p.o with
   |.callv (.t g) _=>if isLd io g then io.set i { p with o:=p.o.toX } else io
   |_=>io
  |none=>io
 |none=>io
theorem lastX_get{P:Program}{N:Nat}{ops:Array Oper}(io:List IOp)(ord:List Nat):(lastX io ord).length=io.length/\∀(i:Nat) (p:IOp),io[i]?=some p->∃p',(lastX io ord)[i]?=some p'/\∀o,IOpOf P N ops o p->IOpOf P N ops o p':=by
 have same:io.length=io.length/\∀(i:Nat) (p:IOp),io[i]?=some p->∃p',io[i]?=some p'/\∀o,IOpOf P N ops o p->IOpOf P N ops o p':=⟨rfl,fun i p h=>⟨p,h,fun o ho=>ho⟩⟩
 unfold lastX
 split
 ·rename_i j hj
  split
  ·rename_i q hq
   split
   ·split
    ·refine⟨by simp,fun i p h=>?_⟩
     by_cases hij:j=i
     ·subst hij
      rw[hq]at h;cases h
      refine⟨{ q with o:=q.o.toX },?_,fun o ho=>ho.toX⟩
      have:=(List.getElem?_eq_some_iff.1 hq).1
      rw[List.getElem?_set];simp[this]
     ·exact⟨p,by rw[List.getElem?_set,if_neg hij];exact h,fun o ho=>ho⟩
    ·exact same
   ·exact same
  ·exact same
 ·exact same
def ordReg(ops:Array Oper)(io:List IOp):List Nat:=
 let o1:=canon .text true ops.toList io ops.size []
 if o1.length==ops.size then o1 else canon .any true ops.toList io ops.size []
def planReg(ops:Array Oper)(io:List IOp):List IOp × List Nat:=
 let ord:=ordReg ops io
 (lastX (withNes io [ancs .any ops.toList []] ord 0 io) ord,ord)
def compReg(P:Program)(N:Nat)(ops:Array Oper)(draw:Bool)(nm:Nat):Option (List IOp × Nat):=
 match compOps P N ops nm ops.toList with
 |none=>none
 |some (io,nm')=>
  if draw then
   if ordsOk P ops (planReg ops io).1 (planReg ops io).2 then some ((planReg ops io).2.map fun i=>(planReg ops io).1.getD i ⟨none,none, .mv (.c .gone)⟩,nm') else none
  else some (io.map fun p=>{ p with o:=p.o.toX },nm')
def addE(ops:Array Oper)(j i:Nat):Array Oper:=match ops[j]? with
 |some o=>ops.setIfInBounds j { o with after:=o.after.push ⟨i, .data⟩ }
 |none=>ops
def badPs(P:Program)(ops:Array Oper)(io:List IOp)(ord:List Nat):List (Nat × Nat):=
 let tbl:=ancs .any ops.toList []
 (ord.zipIdx.flatMap fun(i,a)=>ord.zipIdx.filterMap fun(j,b)=>if a<b && !((tbl.getD j 0).testBit i) && !(match io[i]?,io[j]? with|some p,some q=>swapOk p (q.slim (dests io (ord.drop a)))|_,_=>false) then some (i,j) else none)
def altOk(ops ops2:Array Oper)(io:List IOp):Bool:=
 ops2.toList.all (fun o=>o.after.toList.all fun e=>decide (e.on<ops2.size))&&ordOk .any ops2.toList (planReg ops2 io).1 (planReg ops2 io).2 (planReg ops2 io).2
def planL(ops:Array Oper)(io:List IOp):List IOp:=(planReg ops io).2.map fun i=>(planReg ops io).1.getD i ⟨none,none, .mv (.c .gone)⟩
def compAlt(P:Program)(N:Nat)(ops:Array Oper)(draw:Bool)(nm:Nat):Option (List IOp × List IOp × Nat):=
 match compOps P N ops nm ops.toList with
 |none=>none
 |some (io,nm')=>
  if draw&&(P.follows .mixedOrders || !Region.departs ops) then
   match (badPs P ops (planReg ops io).1 (planReg ops io).2).find? fun(i,j)=>altOk ops (addE ops j i) io&&altOk ops (addE ops i j) io&&i != j with
   |some (i,j)=>some (planL (addE ops j i) io,planL (addE ops i j) io,nm')
   |none=>none
  else none
theorem withNes_get{P:Program}{N:Nat}{ops:Array Oper}{io0:List IOp}{tbls:List (List Nat)}{ord:List Nat}:∀(io:List IOp) (j:Nat),(withNes io0 tbls ord j io).length=io.length/\∀(i:Nat) (p:IOp),io[i]?=some p->∃p',(withNes io0 tbls ord j io)[i]?=some p'/\∀o,IOpOf P N ops o p->IOpOf P N ops o p'
 | [],j=>⟨rfl,fun i p h=>by simp at h⟩
 |p::io,j=>by
  obtain⟨h1,h2⟩:=withNes_get (P:=P) (N:=N) (ops:=ops) (io0:=io0) (tbls:=tbls) (ord:=ord) io (j+1)
  refine⟨by simp[withNes,h1],fun i q hq=>?_⟩
  cases i with
  |zero=>
   simp at hq;subst hq
   refine⟨_,rfl,fun o ho=>?_⟩
   obtain⟨⟨nm,io',ne,k1,k2,k3⟩,k4,k5,k6⟩:=ho
   rcases k2 with k2|k2
   ·exact⟨⟨nm,io',_,k1, .inl (by show(p.o.withNe _)=_;rw[k2];cases io'<;>rfl),k3⟩,k4,k5,k6⟩
   ·exact⟨⟨nm,io',nesOf io0 tbls ord j,k1,by show(p.o.withNe _)=_\/(p.o.withNe _)=_;rw[k2];cases io'<;>first|(left;rfl)|(right;rfl),k3⟩,k4,k5,k6⟩
  |succ i=>simp at hq;simpa[withNes]using h2 i q hq
theorem ordD_ok{m:Region.Mode}{all:List Oper}:∀ {l done:List Nat},ordD m all done l=true->∀r1 i r2,l=r1++i::r2->∀o,all[i]?=some o->∀d∈deps m o,d∈r1\/d∈done
 | [],done,_,r1,i,r2,hl,_,_,_,_=>by simp at hl
 |x::l,done,h,[],i,r2,hl,o,ho,d,hd=>by
  simp only[List.nil_append,List.cons.injEq]at hl
  obtain⟨rfl,rfl⟩:=hl
  simp only[ordD,ho,Option.map_some,Option.getD_some,Bool.and_eq_true,List.all_eq_true]at h
  exact .inr (by simpa using h.1 d hd)
 |x::l,done,h,y::r1,i,r2,hl,o,ho,d,hd=>by
  simp only[List.cons_append,List.cons.injEq]at hl
  obtain⟨rfl,hl⟩:=hl
  simp only[ordD,Bool.and_eq_true]at h
  rcases ordD_ok h.2 r1 i r2 hl o ho d hd with h1|h1
  ·exact .inl (by simp[h1])
  ·rcases List.mem_cons.1 h1 with h2|h2
   ·exact .inl (by simp[h2])
   ·exact .inr h2
theorem mode_ok(hX:SessOk X E){m:Region.Mode}{ord rdy:List Nat}{io:List IOp}{d0:IOp}{k:St->Prop}(hr:Resp k)(hio:∀i,i<ops.size->∃o,ops[i]?=some o/\IOpOf X.P X.N ops o (io.getD i d0))(hlen:io.length=ops.size)
  (hk:∀C s a,Rel X C s a->k s->Q .normal a C.w) (hsm:∀o∈ops.toList,∀e∈o.after.toList,e.on<ops.size) (hok:ordOk m ops.toList io ord rdy=true) (t:Nat) {C:Ctx} {s:St} {a:Act} (h:Rel X C s a)
  (hE:evs E (ord.map fun i=>io.getD i d0) s k):wpOpsIn X.F X.n X.P ops Q (Region.linearise m ops t) a C.w:=by
 simp only[ordOk,Bool.and_eq_true,decide_eq_true_eq,List.all_eq_true,Array.length_toList,List.mem_range]at hok
 obtain⟨⟨⟨⟨⟨⟨h0,h1⟩,h2⟩,h3⟩,h4⟩,h5⟩,h6⟩:=hok
 have hI:Inv m ops io rdy (Array.replicate ops.size false) ord:=by
  have hL:∀j,¬L (Array.replicate ops.size false) j:=fun j=>by simp[L,Array.getD_eq_getD_getElem?,Array.getElem?_replicate];split<;>simp
  refine⟨by simp,fun i=>⟨fun hi=>⟨h0 i hi,hL i⟩,fun hi=>by simpa using h3 i hi.1⟩,fun j hj=>absurd hj (hL j),h4,h2,fun i hi=>by simpa using h5 i hi,fun o ho d hd=>?_,fun r1 i r2 hl o ho d hd=>?_⟩
  ·simp only[deps,List.mem_map,List.mem_filter]at hd
   obtain⟨e,⟨he,_⟩,rfl⟩:=hd
   exact hsm o ho e he
  ·rcases ordD_ok h6 r1 i r2 hl o ho d hd with h7|h7
   ·exact h7
   ·cases h7
 obtain⟨l,h7,h8⟩:=sched_ok hX hr hio hlen hk ops.size t (Array.replicate ops.size false) [] ord hI h1
 have:Region.linearise m ops t=l:=by simpa[Region.linearise]using h7
 rw[this]
 exact h8 C s a h hE
theorem reg_ok(hX:SessOk X E){id nm nm':Nat}{draw:Bool}{ps:List IOp}(hc:compReg X.P X.N ops draw nm=some (ps,nm')){k:St->Prop}(hr:Resp k)(hk:∀C s a,Rel X C s a->k s->Q .normal a C.w){C:Ctx}{s:St}{a:Act}(h:Rel X C s a)
  (hE:evs E ps s k):(Code.region id ops draw).wpIn X.F X.n X.P Q a C.w:=by
 unfold compReg at hc
 split at hc
 ·cases hc
 ·rename_i io nm2 hco
  obtain⟨hlen,hget⟩:=compOps_get hco
  simp only[Array.length_toList]at hlen
  cases draw with
  |false=>
   simp only[Bool.false_eq_true,if_false,Option.some.injEq,Prod.mk.injEq]at hc
   obtain⟨rfl,_⟩:=hc
   refine wpIn_region (ops_ok hX hk (List.range ops.size) _ (by simp[hlen]) (fun j i hj=>?_) C s a h hE)
   obtain⟨hj1,hj2⟩:=List.getElem?_eq_some_iff.1 hj
   simp at hj1 hj2
   subst hj2
   obtain⟨p,h1,h2⟩:=hget j ops[j] (by simp[hj1])
   obtain⟨⟨nm,io',ne,k1,k2,k3⟩,k4,k5,k6⟩:=h2
   have h2:IOpOf X.P X.N ops ops[j] p:=⟨⟨nm,io',ne,k1,k2,k3⟩,k4,k5,k6⟩
   exact⟨_,{ p with o:=p.o.toX },by simp[hj1],by rw[List.getElem?_map,h1];rfl,h2.toX⟩
  |true=>
   simp only[if_true]at hc
   split at hc
   ·rename_i hok
    simp only[Option.some.injEq,Prod.mk.injEq]at hc
    obtain⟨rfl,_⟩:=hc
    have hw:=withNes_get (P:=X.P) (N:=X.N) (ops:=ops) (io0:=io) (tbls:=[ancs .any ops.toList []]) (ord:=ordReg ops io) io 0
    have hx:=lastX_get (P:=X.P) (N:=X.N) (ops:=ops) (withNes io [ancs .any ops.toList []] (ordReg ops io) 0 io) (ordReg ops io)
    have hlen':(planReg ops io).1.length=ops.size:=by rw[<- hlen];exact hx.1.trans hw.1
    have hio:∀i,i<ops.size->∃o,ops[i]?=some o/\IOpOf X.P X.N ops o ((planReg ops io).1.getD i ⟨none,none, .mv (.c .gone)⟩):=fun i hi=>by
     obtain⟨p,h7,h8⟩:=hget i ops[i] (by simp[hi])
     obtain⟨p',h9,h10⟩:=hw.2 i p h7
     obtain⟨p'',h9',h10'⟩:=hx.2 i p' h9
     have h9':(planReg ops io).1[i]?=some p'':=h9'
     have h10:=fun o ho=>h10' o (h10 o ho)
     exact⟨ops[i],by simp[hi],by rw[List.getD_eq_getElem?_getD,h9'];exact h10 _ h8⟩
    generalize (planReg ops io).1=io' at hok hE hlen' hio
    generalize (planReg ops io).2=ord at hok hE
    simp only[ordsOk,Bool.and_eq_true,List.all_eq_true,decide_eq_true_eq]at hok
    obtain⟨hsm,hok⟩:=hok
    refine wpIn_region_draw fun t=>?_
    have hb:Below C.w.heap.size C.w { C.w with drawn:=C.w.drawn+1 }:=⟨rfl,rfl,rfl,Nat.le_refl _,fun _ _=>rfl⟩
    obtain⟨hrel,_⟩:=h.call _ C.imm hb (hX.kgrow _ _ _ _ _ _ h.keep hb) (fun b hb=>hb) (fun b hb=>.inl hb)
    have fin:∀(m:Region.Mode) (rdy:List Nat) (t:Nat),ordOk m ops.toList io' ord rdy=true->wpOpsIn X.F X.n X.P ops Q (Region.linearise m ops t) a { C.w with drawn:=C.w.drawn+1 }:=fun m rdy t hm=>
     mode_ok (C:=⟨C.imm,newB C.w { C.w with drawn:=C.w.drawn+1 } C.T,C.rho,{ C.w with drawn:=C.w.drawn+1 },C.l⟩) hX hr hio hlen' hk hsm hm t hrel hE
    by_cases hdep:Region.departs ops=true/\(!(X.P.follows .mixedOrders))=true
    ·rw[if_pos hdep]at hok
     simp only[Bool.and_eq_true]at hok
     simp only[Bool.not_eq_true']at hdep
     obtain⟨h2,h3⟩:=hok
     simp only[Region.schedule,hdep.1,hdep.2,Bool.not_true,Bool.or_self,Bool.false_eq_true,if_false]
     split
     ·exact fin _ _ _ h2
     ·exact fin _ _ _ h3
    ·rw[if_neg hdep]at hok
     have:(X.P.follows .mixedOrders || !Region.departs ops)=true:=by
      cases h1:X.P.follows .mixedOrders<;>cases h2:Region.departs ops<;>simp_all
     simp only[Region.schedule,this,if_true]
     exact fin _ _ _ hok
   ·cases hc
theorem addE_more{m:Region.Mode}{ops:Array Oper}{i j:Nat}:MoreE m ops (addE ops j i) i j:=by
 unfold addE
 split
 ·rename_i o ho
  have hj:j<ops.size:=(Array.getElem?_eq_some_iff.1 ho).1
  refine⟨by simp,fun q o' ho'=>?_⟩
  by_cases e:q=j
  ·subst e
   have:o'=o:=by rw[Array.getElem?_toList]at ho';rw[ho]at ho';exact(Option.some.inj ho').symm
   subst this
   refine⟨{ o' with after:=o'.after.push ⟨i, .data⟩ },by rw[Array.getElem?_toList,Array.getElem?_setIfInBounds];simp[hj],fun d hd=>?_,fun d hd=>?_⟩
   ·simp only[deps,List.mem_map,List.mem_filter,Array.toList_push,List.mem_append,List.mem_singleton]at hd⊢
    obtain⟨x,⟨h1,h2⟩,h3⟩:=hd
    exact⟨x,⟨.inl h1,h2⟩,h3⟩
   ·simp only[deps,List.mem_map,List.mem_filter,Array.toList_push,List.mem_append,List.mem_singleton]at hd⊢
    obtain⟨x,⟨h1|h1,h2⟩,h3⟩:=hd
    ·exact .inl ⟨x,⟨h1,h2⟩,h3⟩
    ·subst h1;exact .inr ⟨trivial,h3.symm⟩
  ·exact⟨o',by rw[Array.getElem?_toList]at ho'⊢;rw[Array.getElem?_setIfInBounds,if_neg (fun h=>e h.symm)];exact ho',fun d hd=>hd,fun d hd=>.inl hd⟩
 ·exact⟨rfl,fun q o ho=>⟨o,ho,fun d hd=>hd,fun d hd=>.inl hd⟩⟩
theorem mode2(hX:SessOk X E){ops2:Array Oper}{i0 j0:Nat}{m:Region.Mode}(hmo:MoreE m ops ops2 i0 j0){ord rdy:List Nat}{io:List IOp}{d0:IOp}{k:St->Prop}(hr:Resp k)(hio:∀i,i<ops.size->∃o,ops[i]?=some o/\IOpOf X.P X.N ops o (io.getD i d0))(hlen:io.length=ops.size)
  (hk:∀C s a,Rel X C s a->k s->Q .normal a C.w) (hsm:∀o∈ops2.toList,∀e∈o.after.toList,e.on<ops2.size) (hok:ordOk m ops2.toList io ord rdy=true) (t:Nat) (hg:Good i0 j0 (Region.linearise m ops t) (Array.replicate ops.size false)) {C:Ctx} {s:St} {a:Act} (h:Rel X C s a)
  (hE:evs E (ord.map fun i=>io.getD i d0) s k):wpOpsIn X.F X.n X.P ops Q (Region.linearise m ops t) a C.w:=by
 simp only[ordOk,Bool.and_eq_true,decide_eq_true_eq,List.all_eq_true,Array.length_toList,List.mem_range]at hok
 obtain⟨⟨⟨⟨⟨⟨h0,h1⟩,h2⟩,h3⟩,h4⟩,h5⟩,h6⟩:=hok
 have hI:Inv m ops2 io rdy (Array.replicate ops2.size false) ord:=by
  have hL:∀j,¬L (Array.replicate ops2.size false) j:=fun j=>by simp[L,Array.getD_eq_getD_getElem?,Array.getElem?_replicate];split<;>simp
  refine⟨by simp,fun i=>⟨fun hi=>⟨h0 i hi,hL i⟩,fun hi=>by simpa using h3 i hi.1⟩,fun j hj=>absurd hj (hL j),h4,h2,fun i hi=>by simpa using h5 i hi,fun o ho d hd=>?_,fun r1 i r2 hl o ho d hd=>?_⟩
  ·simp only[deps,List.mem_map,List.mem_filter]at hd
   obtain⟨e,⟨he,_⟩,rfl⟩:=hd
   exact hsm o ho e he
  ·rcases ordD_ok h6 r1 i r2 hl o ho d hd with h7|h7
   ·exact h7
   ·cases h7
 rw[hmo.size]at hI
 obtain⟨l,h7,h8⟩:=sched2 hX hmo hr hio hlen hk ops.size t (Array.replicate ops.size false) [] ord hI (by rw[<- hmo.size];exact h1)
 have:Region.linearise m ops t=l:=by simpa[Region.linearise]using h7
 rw[this]at hg⊢
 exact h8 hg C s a h hE
theorem good_or{i j:Nat}(hij:i≠j)(l:List Nat)(n:Nat):Good i j l (Array.replicate n false)\/Good j i l (Array.replicate n false):=by
 refine Classical.byContradiction fun hn=>?_
 rw[not_or]at hn
 obtain⟨h1,h2⟩:=hn
 simp only[Good,Classical.not_forall]at h1 h2
 obtain⟨r1,r2,e1,n1⟩:=h1
 obtain⟨q1,q2,e2,n2⟩:=h2
 simp only[not_or]at n1 n2
 have e:r1++j::r2=q1++i::q2:=e1.symm.trans e2
 rcases Nat.lt_trichotomy r1.length q1.length with hl|hl|hl
 ·have h:q1[r1.length]?=some j:=by
   have:=congrArg (·[r1.length]?) e
   simp only[List.getElem?_append_right (Nat.le_refl _),Nat.sub_self,List.getElem?_cons_zero,List.getElem?_append_left hl]at this
   exact this.symm
  exact n2.2 (List.mem_of_getElem? h)
 ·have:=congrArg (·[r1.length]?) e
  simp only[List.getElem?_append_right (Nat.le_refl _),Nat.sub_self,List.getElem?_cons_zero]at this
  rw[hl]at this
  simp only[List.getElem?_append_right (Nat.le_refl _),Nat.sub_self,List.getElem?_cons_zero,Option.some.injEq]at this
  exact hij this.symm
 ·have h:r1[q1.length]?=some i:=by
   have:=congrArg (·[q1.length]?) e
   simp only[List.getElem?_append_right (Nat.le_refl _),Nat.sub_self,List.getElem?_cons_zero,List.getElem?_append_left hl]at this
   exact this
  exact n1.2 (List.mem_of_getElem? h)
theorem alt_ok(hX:SessOk X E){id nm nm':Nat}{draw:Bool}{ps qs:List IOp}(hc:compAlt X.P X.N ops draw nm=some (ps,qs,nm')){k:St->Prop}(hr:Resp k)(hk:∀C s a,Rel X C s a->k s->Q .normal a C.w){C:Ctx}{s:St}{a:Act}(h:Rel X C s a)
  (hE:evs E ps s k) (hE2:evs E qs s k):(Code.region id ops draw).wpIn X.F X.n X.P Q a C.w:=by
 unfold compAlt at hc
 split at hc
 ·cases hc
 ·rename_i io nm2 hco
  obtain⟨hlen,hget⟩:=compOps_get hco
  simp only[Array.length_toList]at hlen
  split at hc
  ·rename_i hdr
   simp only[Bool.and_eq_true]at hdr
   obtain⟨rfl,hmode⟩:=hdr
   split at hc
   ·rename_i i j hf
    simp only[Option.some.injEq,Prod.mk.injEq]at hc
    obtain⟨rfl,rfl,_⟩:=hc
    have hff:=List.find?_some hf
    simp only[Bool.and_eq_true,bne_iff_ne,ne_eq]at hff
    obtain⟨⟨ha1,ha2⟩,hij⟩:=hff
    refine wpIn_region_draw fun t=>?_
    have hb:Below C.w.heap.size C.w { C.w with drawn:=C.w.drawn+1 }:=⟨rfl,rfl,rfl,Nat.le_refl _,fun _ _=>rfl⟩
    obtain⟨hrel,_⟩:=h.call _ C.imm hb (hX.kgrow _ _ _ _ _ _ h.keep hb) (fun b hb=>hb) (fun b hb=>.inl hb)
    have main:∀(i j t:Nat),altOk ops (addE ops j i) io=true->Good i j (Region.linearise .any ops t) (Array.replicate ops.size false)->evs E (planL (addE ops j i) io) s k->wpOpsIn X.F X.n X.P ops Q (Region.linearise .any ops t) a { C.w with drawn:=C.w.drawn+1 }:=fun i j t ha hg hE=>by
     have hmo:MoreE .any ops (addE ops j i) i j:=addE_more
     have hw:=withNes_get (P:=X.P) (N:=X.N) (ops:=ops) (io0:=io) (tbls:=[ancs .any (addE ops j i).toList []]) (ord:=ordReg (addE ops j i) io) io 0
     have hx:=lastX_get (P:=X.P) (N:=X.N) (ops:=ops) (withNes io [ancs .any (addE ops j i).toList []] (ordReg (addE ops j i) io) 0 io) (ordReg (addE ops j i) io)
     have hlen':(planReg (addE ops j i) io).1.length=ops.size:=by rw[<- hlen];exact hx.1.trans hw.1
     have hio:∀q,q<ops.size->∃o,ops[q]?=some o/\IOpOf X.P X.N ops o ((planReg (addE ops j i) io).1.getD q ⟨none,none, .mv (.c .gone)⟩):=fun q hq=>by
      obtain⟨p,h7,h8⟩:=hget q ops[q] (by simp[hq])
      obtain⟨p',h9,h10⟩:=hw.2 q p h7
      obtain⟨p'',h9',h10'⟩:=hx.2 q p' h9
      have h9':(planReg (addE ops j i) io).1[q]?=some p'':=h9'
      have h10:=fun o ho=>h10' o (h10 o ho)
      exact⟨ops[q],by simp[hq],by rw[List.getD_eq_getElem?_getD,h9'];exact h10 _ h8⟩
     simp only[altOk,Bool.and_eq_true,List.all_eq_true,decide_eq_true_eq]at ha
     exact mode2 (C:=⟨C.imm,newB C.w { C.w with drawn:=C.w.drawn+1 } C.T,C.rho,{ C.w with drawn:=C.w.drawn+1 },C.l⟩) hX hmo hr hio hlen' hk ha.1 ha.2 t hg hrel hE
    simp only[Region.schedule,hmode,if_true]
    rcases good_or hij (Region.linearise .any ops t) ops.size with hg|hg
    ·exact main i j t ha1 hg hE
    ·exact main j i t ha2 hg hE2
   ·cases hc
  ·cases hc
end
inductive CI where
 |skip
 |reg (ps:List IOp)
 |seq (a b:CI)
 |cond (c:Opd) (a b:CI)
 |block (id:Nat) (b:CI)
 |loop (b:CI)
 |exit (id:Nat)
 |ret
 |rng (f:Opd) (ps:List Nat) (as b:CI)
 |alt (ps qs:List IOp)
def panics(ops:Array Oper):Bool:=ops.toList.any fun o=>match o.op with
 |.panic _=>true
 |_=>false
def compC(P:Program)(N:Nat):Nat->Code->Option (CI × Nat)
 |nm, .skip=>some (.skip,nm)
 |nm, .label _=>some (.skip,nm)
 |nm, .region _ ops draw=>match compReg P N ops draw nm with
  |some (ps,nm')=>some (.reg ps,nm')
  |none=>match compAlt P N ops draw nm with
   |some (ps,qs,nm')=>some (.alt ps qs,nm')
   |none=>if panics ops=true then some (.cond (.c .gone) .skip .skip,nm) else none
 |nm, .seq a b=>match compC P N nm a with
  |some (x,nm')=>match compC P N nm' b with
   |some (y,nm'')=>some (.seq x y,nm'')
   |none=>none
  |none=>none
 |nm, .cond c a b=>match opd c,compC P N nm a with
  |some p,some (x,nm')=>match compC P N nm' b with
   |some (y,nm'')=>some (.cond p x y,nm'')
   |none=>none
  |_,_=>none
 |nm, .block id b=>match compC P N nm b with
  |some (x,nm')=>some (.block id x,nm')
  |none=>none
 |nm, .loop b=>match compC P N nm b with
  |some (x,nm')=>some (.loop x,nm')
  |none=>none
 |nm, .exit id=>some (.exit id,nm)
 |nm, .ret=>some (.ret,nm)
 |nm, .rangeFunc f ps as b=>match opd f,compC P N nm as with
  |some p,some (x,nm')=>match compC P N nm' b with
   |some (y,nm'')=>if ps.toList.all (fun t=>decide (t<N)) then some (.rng p ps.toList x y,nm'') else none
   |none=>none
  |_,_=>none
 |nm, .scope b=>match compC P N nm b with
  |some (x,nm')=>some (.cond (.c (.bool true)) x .skip,nm')
  |none=>none
 |_,_=>none
inductive Ex where
 |normal
 |ret
 |exit (id:Nat)
def QK(X:Sess)(T:Ex->St->Prop):Exit->Act->World->Prop
 |.normal,a,w=>∃C s,C.w=w/\Rel X C s a/\T .normal s
 |.ret,a,w=>∃C s,C.w=w/\Rel X C s a/\T .ret s
 |.exit id,a,w=>∃C s,C.w=w/\Rel X C s a/\T (.exit id) s
 |_,_,_=>False
def GoC(E:Env)(c:CI)(T:Ex->St->Prop)(s:St):Prop:=
 ∀(X:Sess),SessOk X E->∀(code:Code) (nm nm':Nat),compC E.P E.N nm code=some (c,nm')->∀(C:Ctx) (a:Act),Rel X C s a->code.wpIn X.F X.n X.P (QK X T) a C.w
theorem QK.mono{X:Sess}{T T':Ex->St->Prop}(h:∀e s,T e s->T' e s):∀e a w,QK X T e a w->QK X T' e a w:=fun e a w hq=>by
 cases e<;>first|exact hq.elim|(obtain⟨C,s,h1,h2,h3⟩:=hq;exact⟨C,s,h1,h2,h _ _ h3⟩)
theorem GoC.mono{E:Env}{c:CI}{T T':Ex->St->Prop}{s:St}(hg:GoC E c T s)(h:∀e s,T e s->T' e s):GoC E c T' s:=
 fun X hX code nm nm' hc C a hr=>wpIn_mono (hg X hX code nm nm' hc C a hr) (QK.mono h)
theorem Rel.eqv{X:Sess}{C:Ctx}{s r:St}{a:Act}(h:Rel X C s a)(q:Eqv s r):Rel X C r a:=by
 obtain⟨q1,q2,q3⟩:=q
 exact⟨h.size,fun d v hv=>h.tm d v ((q1 d).trans hv),by rw[<- q2];exact h.sg,by rw[<- q2];exact h.dis,h.imm,h.imm0,h.T,by rw[<- q3];exact h.keep,h.marks,h.round,by rw[<- q3];exact h.pin⟩
theorem evs_mono{E:Env}{k k':St->Prop}(h:∀s,k s->k' s):∀(ps:List IOp) (s:St),evs E ps s k->evs E ps s k'
 | [],s,hE=>h s hE
 |p::ps,s,hE=>by
  rw[evs_cons]at hE⊢
  have ih:=evs_mono (E:=E) h ps
  unfold evG at hE⊢
  split
  ·rename_i hg;simp only[hg]at hE;exact evX_mono hE fun e he=>ih _ he
  ·rename_i j want hg;simp only[hg]at hE
   split
   ·rename_i hl;simp only[hl]at hE
    cases want
    ·exact⟨fun e=>ih _ (hE.1 e),fun e=>evX_mono (hE.2 e) fun e he=>ih _ he⟩
    ·exact⟨fun e=>evX_mono (hE.1 e) fun e he=>ih _ he,fun e=>ih _ (hE.2 e)⟩
   ·rename_i hl;simp only[hl]at hE;exact ih _ hE
   ·rename_i h1 h2;revert hE;split
    ·rename_i h3;exact absurd h3 (h1 _)
    ·rename_i h3;exact absurd h3 h2
    ·exact id
section
variable {E:Env} {T:Ex->St->Prop} {s:St}
theorem go_skip(h:T .normal s):GoC E .skip T s:=fun X hX code nm nm' hc C a hr=>by
 cases code<;>simp only[compC]at hc<;>first|exact wpIn_skip ⟨C,s,rfl,hr,h⟩|exact wpIn_label ⟨C,s,rfl,hr,h⟩|(repeat' (split at hc))<;>cases hc
theorem go_ret(h:T .ret s):GoC E .ret T s:=fun X hX code nm nm' hc C a hr=>by
 cases code<;>simp only[compC]at hc<;>first|exact wpIn_ret ⟨C,s,rfl,hr,h⟩|(repeat' (split at hc))<;>cases hc
theorem go_exit{id:Nat}(h:T (.exit id) s):GoC E (.exit id) T s:=fun X hX code nm nm' hc C a hr=>by
 cases code<;>simp only[compC]at hc<;>first|(simp only[Option.some.injEq,Prod.mk.injEq,CI.exit.injEq]at hc;obtain⟨rfl,_⟩:=hc;exact wpIn_exit ⟨C,s,rfl,hr,h⟩)|(repeat' (split at hc))<;>cases hc
theorem go_reg{ps:List IOp}(h:evs E ps s (T .normal)):GoC E (.reg ps) T s:=fun X hX code nm nm' hc C a hr=>by
 cases code<;>simp only[compC]at hc<;>try ((repeat' (split at hc))<;>cases hc)
 rename_i hreg
 rw[<- hX.P,<- hX.N]at hreg
 refine reg_ok hX hreg (k:=fun s'=>∃r,Eqv r s'/\T .normal r) (fun a b hab ⟨r,h1,h2⟩=>⟨r,h1.trans hab,h2⟩) (fun C s a hr ⟨r,h1,h2⟩=>⟨C,r,rfl,hr.eqv h1.symm,h2⟩) hr (evs_mono (fun s hs=>⟨s,Eqv.refl s,hs⟩) ps s h)
theorem go_alt{ps qs:List IOp}(h:evs E ps s (T .normal))(h2:evs E qs s (T .normal)):GoC E (.alt ps qs) T s:=fun X hX code nm nm' hc C a hr=>by
 cases code<;>simp only[compC]at hc<;>try ((repeat' (split at hc))<;>cases hc)
 rename_i hreg
 rw[<- hX.P,<- hX.N]at hreg
 refine alt_ok hX hreg (k:=fun s'=>∃r,Eqv r s'/\T .normal r) (fun a b hab ⟨r,h1,h2⟩=>⟨r,h1.trans hab,h2⟩) (fun C s a hr ⟨r,h1,h2⟩=>⟨C,r,rfl,hr.eqv h1.symm,h2⟩) hr (evs_mono (fun s hs=>⟨s,Eqv.refl s,hs⟩) ps s h) (evs_mono (fun s hs=>⟨s,Eqv.refl s,hs⟩) qs s h2)
def thenT(E:Env)(b:CI)(T:Ex->St->Prop):Ex->St->Prop
 |.normal,s=>GoC E b T s
 |e,s=>T e s
theorem go_seq{x y:CI}(h:GoC E x (thenT E y T) s):GoC E (.seq x y) T s:=fun X hX code nm nm' hc C a hr=>by
 cases code<;>simp only[compC]at hc<;>try ((repeat' (split at hc))<;>cases hc)
 rename_i h1 h2
 refine wpIn_seq (wpIn_mono (h X hX _ _ _ h1 C a hr) fun e a w hq=>?_)
 cases e with
 |normal=>
  obtain⟨C',s',rfl,hr',hg⟩:=hq
  exact hg X hX _ _ _ h2 C' a hr'
 |ret=>exact hq
 |exit id=>exact hq
 |goto l=>exact hq.elim
 |panic ch=>exact hq.elim
 |outgrown=>exact hq.elim
theorem Rel.lit{X:Sess}{C:Ctx}{a:Act}(h:Rel X C s a){j:Nat}{b:Bool}(hl:look s.tm j=some (.bool b)):Rel X C (s.lit j b) a:=h.eqv (Eqv.lit hl).symm
def condE(E:Env)(T:Ex->St->Prop)(s:St)(c:Opd)(x y:CI):Prop:=
 match c with
 |.t j=>match look s.tm j with
  |some (.bool b)=>brB b (GoC E x T (s.lit j true)) (GoC E y T (s.lit j false))
  |_=>False
 |.c (.bool b)=>brB b (GoC E x T s) (GoC E y T s)
 |_=>False
theorem wpIn_scope{F:Fence}{n:Nat}{P:Program}{Q:Exit->Act->World->Prop}{a:Act}{w:World}{c:Code}(h:c.wpIn F n P (Exit.noGoto Q) a w):(Code.scope c).wpIn F n P Q a w:=by
 intro b k cs hro hb hr
 have s0:step P (lone (b.atR a (.code (.scope c)::k)) cs w) = .next (lone (b.atR a (.code c :: .inScope c::k)) cs w):=step_lone_go (by simp[stepG,stepG.exec,Frame.atR])
 have s1:∀a w,step P (lone (b.atR a (.inScope c::k)) cs w) = .next (lone (b.atR a k) cs w):=fun a w=>step_lone_go (by simp[stepG,stepG.exec,Frame.atR])
 have h0:(lone (b.atR a (.code (.scope c)::k)) cs w).fenced P F:=fenced_calm hb hr rfl
 obtain⟨e,a₁,w₁,hq,harr⟩:=h b (.inScope c::k) cs hro hb hr
 cases e with
 |normal=>exact⟨.normal,a₁,w₁,hq, .head h0 s0 (StepsIn.trans harr (.one (fenced_calm hb hr rfl) (s1 _ _)))⟩
 |exit id'=>
  have hx:exitTo id' (.inScope c::k)=exitTo id' k:=by simp[exitTo]
  exact⟨.exit id',a₁,w₁,hq,fun k' hk=>.head h0 s0 (harr.1 k' (by rw[hx];exact hk)),
   fun hr' hk=>let ⟨k₁,h1,h2⟩:=harr.2 hr' (by rw[hx];exact hk);⟨k₁,h1, .head h0 s0 h2⟩⟩
 |goto l=>exact hq.elim
 |ret=>exact⟨_,a₁,w₁,hq, .of_steps (.one h0 s0) harr⟩
 |panic ch=>exact⟨_,a₁,w₁,hq, .of_steps (.one h0 s0) harr⟩
 |outgrown=>exact⟨_,a₁,w₁,hq, .of_steps (.one h0 s0) harr⟩
theorem go_cond{c:Opd}{x y:CI}(h:condE E T s c x y):GoC E (.cond c x y) T s:=fun X hX code nm nm' hc C a hr=>by
 by_cases hsc:∃b,code = .scope b
 ·obtain⟨b,rfl⟩:=hsc
  simp only[compC]at hc
  split at hc
  ·rename_i h1
   cases hc
   exact wpIn_scope (wpIn_mono (h.1 rfl X hX _ _ _ h1 C a hr) fun e a w hq=>by
    cases e<;>first|exact hq|exact hq.elim)
  ·cases hc
 by_cases hc0:c = .c .gone
 ·subst hc0;exact h.elim
 cases code<;>simp only[compC]at hc<;>try ((repeat' (split at hc))<;>cases hc)
 ·exact absurd rfl hc0
 rotate_left
 ·exact absurd ⟨_,rfl⟩ hsc
 rename_i hp h1 h2
 have hev:∀b,s.ev c=some (.bool b)->a.eval _ = .bool b:=fun b hb=>by
  have:=ev_ok hr hp hb
  simpa only[RV]using this
 cases c with
 |t j=>
  simp only[condE]at h
  split at h
  ·rename_i b hl
   have hrl:=hr.lit hl
   refine wpIn_cond (hev b hl) ?_
   cases b
   ·exact h.2 rfl X hX _ _ _ h2 C a hrl
   ·exact h.1 rfl X hX _ _ _ h1 C a hrl
  ·exact h.elim
 |c v=>
  cases v<;>simp only[condE]at h<;>try exact h.elim
  rename_i b
  refine wpIn_cond (hev b rfl) ?_
  cases b
  ·exact h.2 rfl X hX _ _ _ h2 C a hr
  ·exact h.1 rfl X hX _ _ _ h1 C a hr
def blkT(id:Nat)(T:Ex->St->Prop):Ex->St->Prop
 |.exit id',s=>if id'=id then T .normal s else T (.exit id') s
 |e,s=>T e s
theorem go_block{id:Nat}{b:CI}(h:GoC E b (blkT id T) s):GoC E (.block id b) T s:=fun X hX code nm nm' hc C a hr=>by
 cases code<;>simp only[compC]at hc<;>try ((repeat' (split at hc))<;>cases hc)
 rename_i h1
 refine wpIn_block (wpIn_mono (h X hX _ _ _ h1 C a hr) fun e a w hq=>?_)
 cases e with
 |exit id'=>
  obtain⟨C',s',h2,h3,h4⟩:=hq
  simp only[blkT]at h4
  simp only[Exit.inBlock]
  split
  ·rename_i e;rw[if_pos e]at h4;exact⟨C',s',h2,h3,h4⟩
  ·rename_i e;rw[if_neg e]at h4;exact⟨C',s',h2,h3,h4⟩
 |_=>exact hq
def rndT(T:Ex->St->Prop)(J:St->Prop):Ex->St->Prop
 |.normal,s=>J s
 |e,s=>T e s
theorem go_loop{b:CI}(J:Nat->St->Prop)(n:Nat)(h0:J n s)(hr:∀n s,J n s->GoC E b (rndT T fun s'=>∃m,m<n/\J m s') s):GoC E (.loop b) T s:=fun X hX code nm nm' hc C a hrel=>by
 cases code<;>simp only[compC]at hc<;>try ((repeat' (split at hc))<;>cases hc)
 rename_i body _ h1
 have more:∀m a w,Code.roundsIn X.F X.n X.P body (QK X T) m a w->∀k,Code.roundsIn X.F X.n X.P body (QK X T) (m+k) a w:=by
  intro m
  induction m with
  |zero=>intro a w h;exact h.elim
  |succ m ih=>
   intro a w h k
   rw[show m+1+k=(m+k)+1 from by omega,roundsIn_succ]
   rw[roundsIn_succ]at h
   refine wpIn_mono h fun e a w hq=>?_
   cases e with
   |normal=>exact ih a w hq k
   |_=>exact hq
 have key:∀n C s a,J n s->Rel X C s a->Code.roundsIn X.F X.n X.P body (QK X T) (n+1) a C.w:=by
  intro n
  induction n using Nat.strongRecOn with
  |_ n ih=>
   intro C s a hJ hrel
   rw[roundsIn_succ]
   refine wpIn_mono (hr n s hJ X hX _ _ _ h1 C a hrel) fun e a w hq=>?_
   cases e with
   |normal=>
    obtain⟨C',s',rfl,hrel',m,hm,hJ'⟩:=hq
    have:=more (m+1) a C'.w (ih m hm C' s' a hJ' hrel') (n-(m+1))
    rwa [show m+1+(n-(m+1))=n from by omega]at this
   |ret=>exact hq
   |exit id=>exact hq
   |goto l=>exact hq.elim
   |panic ch=>exact hq.elim
   |outgrown=>exact hq.elim
 exact wpIn_loop_rounds (n+1) (key n C s a h0 hrel)
end
def weakTm(s:St)(keep:Nat->Bool):List (Nat × AV)->Prop
 | []=>True
 |(d,v)::r=>(look s.tm d=some v/\v.refsIn keep=true)/\weakTm s keep r
def weakR(keep:Nat->Bool)(old new:Res):Prop:=
 match new with
 |.fresh=>True
 |.dead=>old = .fresh->False
 |.box ice cs=>old = .box ice cs/\AV.refsInL keep cs=true
 |.row ice el sz es=>old = .row ice el sz es
 |.mp ice ks us=>old = .mp ice ks us
 |.mpo ks us=>old = .mpo ks us/\AV.refsInL keep us=true
 |.itr ks us seen last=>old = .itr ks us seen last
 |.sit f pos=>old = .sit f pos
 |.mpb ks us bn n=>old = .mpb ks us bn n
 |.itd c n mem=>old = .itd c n mem/\AV.refsInL keep c=true
inductive RIO where
 |t (i:Nat)
 |cell (a:Nat) (ag:Bool) (n:Nat)
def compRes(P:Program):List ResultVar->Option (List RIO)
 | []=>some []
 |.tmp t::r=>match compRes P r with
  |some l=>some (.t t::l)
  |none=>none
 |.cell a t::r=>match aggOf P t,szOf P t,compRes P r with
  |some ag,some n,some l=>some (.cell a ag n::l)
  |_,_,_=>none
def resV(s:St):RIO->Option AV
 |.t i=>look s.tm i
 |.cell a ag n=>match look s.tm a with
  |some (.own i off)=>match s.sg.getD i .dead with
   |.box _ cs=>evX.ldC ag n (cs.drop off)
   |_=>none
  |_=>none
def resL(s:St):List RIO->Option (List AV)
 | []=>some []
 |r::rs=>match resV s r,resL s rs with
  |some v,some vs=>some (v::vs)
  |_,_=>none
def retK(rs:List RIO)(R:AV->Prop)(s:St):Prop:=
 match resL s rs with
 |some vs=>match AV.frzL s.sg 8 vs with
  |some [v]=>R v
  |some vs=>R (.tup vs)
  |none=>False
 |none=>False
def finT(rs:List RIO)(R:AV->Prop):Ex->St->Prop
 |.exit _,_=>False
 |_,s=>retK rs R s
def argsTm:Nat->List AV->List (Nat × AV)
 |_,[]=>[]
 |i,a::as=>(i,a)::argsTm (i+1) as
def start(M:Nat)(args:List AV):St:=⟨argsTm 0 args,List.replicate M .fresh,⟨[],0,false⟩⟩
structure FnOk(P:Program)(f:FuncId)(N M:Nat)(ci:CI)(rs:List RIO):Prop where
 ok:∃fn c,P.funcs[f]?=some fn/\fn.body=some c/\fn.ntmps=N/\compC P N 0 c=some (ci,M)/\compRes P fn.results.toList=some rs
theorem argsTm_look:∀ {as:List AV} {i d:Nat} {v:AV},look (argsTm i as) d=some v->i<=d/\as[d-i]?=some v
 | [],i,d,v,h=>by simp[argsTm,look]at h
 |a::as,i,d,v,h=>by
  simp only[argsTm,look]at h
  split at h
  ·rename_i e;subst e;cases h;simp
  ·rename_i e
   obtain⟨h1,h2⟩:=argsTm_look h
   refine⟨by omega,?_⟩
   rw[show d-i=(d-(i+1))+1 from by omega]
   simpa using h2
structure Fr(T:Nat->Prop)(w w':World):Prop where
 os:w'.os=w.os
 tape:w'.tape=w.tape
 output:w'.output=w.output
 size:w'.heap.size=w.heap.size
 other:∀k,¬T k->w'.heap[k]?=w.heap[k]?
 mem:∀(k:Nat) (o:Obj),w.heap[k]?=some o->isMem o=true->w'.heap[k]?=some o
theorem leave_marks{F:Fence}{n:Nat}{P:Program}{fn:Func}{tmps:Array Value}{R:Ending->World->Prop}{B:Nat->Prop}:∀(ds:List Nat) (w:World),ds.Nodup->(∀D∈ds,B D/\w.heap[D]?=some (.deferred (some []))) ->
  (∀w',Fr B w w'->LeavesInM F n P fn tmps R [] .returning w')->LeavesInM F n P fn tmps R (ds.map fun D=>{ target:=.collected D,args := #[] }) .returning w
 | [],w,_,_,h=>h w ⟨rfl,rfl,rfl,rfl,fun _ _=>rfl,fun _ _ h _=>h⟩
 |D::ds,w,hn,hd,h=>by
  simp only[List.map_cons,LeavesInM]
  refine⟨by simp, .inl ⟨D,w.putObj D (.deferred none),rfl,run_takeDeferred (hd D (by simp)).2,?_⟩⟩
  have hn':=List.nodup_cons.1 hn
  have hD:=hd D (by simp)
  have hf:Fr B w (w.putObj D (.deferred none)):=⟨rfl,rfl,rfl,by simp,fun k hk=>World.putObj_heap_other (fun e=>hk (e ▸ hD.1)),fun k o hk ho=>by
   have hne:k≠D:=fun e=>by subst e;rw[hD.2]at hk;cases hk;cases ho
   rw[World.putObj_heap_other hne];exact hk⟩
  refine leave_marks ds _ hn'.2 (fun D' hD'=>⟨(hd D' (by simp[hD'])).1,?_⟩) (fun w' hw'=>h w' ⟨hw'.os.trans hf.os,hw'.tape.trans hf.tape,hw'.output.trans hf.output,hw'.size.trans hf.size,fun k hk=>(hw'.other k hk).trans (hf.other k hk),fun k o hk ho=>hw'.mem k o (hf.mem k o hk ho) ho⟩)
  have hne:D'≠D:=fun e=>hn'.1 (by subst e;exact hD')
  rw[World.putObj_heap_other hne]
  exact(hd D' (by simp[hD'])).2
def resF(tmps:Array Value):ResultVar->Sem Value
 |.tmp t=>pure (tmps.getD t undef)
 |.cell a t=>do loadVar t (<- asAddr (tmps.getD a undef))
theorem results_eq(fn:Func)(tmps:Array Value):results fn tmps=(do let vs <- fn.results.mapM (resF tmps);pure (if h:vs.size=1 then vs[0] else .tuple vs)):=by
 unfold results
 congr 1
theorem resL_run{X:Sess}{C:Ctx}{s:St}{a:Act}(h:Rel X C s a){w':World}(hw:Fr C.T C.w w'):∀(rv:List ResultVar) (rs:List RIO) (vs:List AV),compRes X.P rv=some rs->resL s rs=some vs ->
  ∃xs,(rv.mapM (resF a.tmps)).run X.P w' = .ok xs w'/\RVs C vs xs
 | [],rs,vs,hc,hv=>by
  simp only[compRes,Option.some.injEq]at hc;subst hc
  simp only[resL,Option.some.injEq]at hv;subst hv
  exact⟨[],by simp[Sem.run_pure],by simp[RVs]⟩
 |.tmp t::rv,rs,vs,hc,hv=>by
  simp only[compRes]at hc
  split at hc<;>cases hc
  rename_i l h1
  simp only[resL]at hv
  split at hv<;>cases hv
  rename_i v vs' h2 h3
  obtain⟨xs,h4,h5⟩:=resL_run h hw rv l vs' h1 h3
  refine⟨a.tmps.getD t undef::xs,?_,by simp only[RVs];exact⟨_,_,rfl,h.tm t v h2,h5⟩⟩
  simp only[List.mapM_cons,resF,Sem.run_bind,Sem.run_pure,Result.andThen_ok,h4]
 |.cell ad t::rv,rs,vs,hc,hv=>by
  simp only[compRes]at hc
  split at hc<;>cases hc
  rename_i ag n l h1 h1' h1''
  simp only[resL]at hv
  split at hv<;>cases hv
  rename_i v vs' h2 h3
  obtain⟨xs,h4,h5⟩:=resL_run h hw rv l vs' h1'' h3
  simp only[resV]at h2
  split at h2
  ·rename_i i off hl
   have e1:=h.tm ad _ hl
   simp only[RV]at e1
   obtain⟨ow,ho,e1⟩:=e1
   split at h2
   ·rename_i ice cs hr
    obtain⟨hf',hi⟩:=getD_dead hr (by simp)
    obtain⟨b,us,el,k1,k2,k3,_⟩:=own_blk h hf'
    rw[k1]at ho;cases ho
    obtain⟨y,k5,k6⟩:=ld_own (P:=X.P) (C:=C) h1 h1' (box_cells (off:=off) (hw.mem _ _ k2 rfl)) (k3.drop off) h2
    refine⟨y::xs,?_,by simp only[RVs];exact⟨_,_,rfl,k6,h5⟩⟩
    have k7:(resF a.tmps (.cell ad t)).run X.P w' = .ok y w':=by
     simp only[resF,Sem.run_bind,e1,asAddr,Sem.run_pure,Result.andThen_ok,k5]
    simp only[List.mapM_cons,Sem.run_bind,Sem.run_pure,Result.andThen_ok,h4,k7]
   ·cases h2
  ·cases h2
theorem fnA_of_go{P:Program}{f:FuncId}{N M:Nat}{ci:CI}{rs:List RIO}(hok:FnOk P f N M ci rs)(m:Nat){args:List AV}{R:AV->Prop}(hN:args.length<=N)(h:GoC (env3 P N []) ci (finT rs R) (start m args)):FnA P f args R:=by
 obtain⟨fn,c,h1,h2,h3,h4,h5⟩:=hok.ok
 intro imm w vs himm hargs
 let X:Sess:={ P:=P,F:=Fence.wide,n:=5,N:=N,imm0:=imm,lo:=w.heap.size,pin:=fun _=>none,l:=0,Keep:=fun T S k st w'=>(k=0/\st=false/\∀b,¬S.s b/\¬S.h b)/\Below w.heap.size w w'/\∀b,T b->w.heap.size<=b }
 have hX:SessOk X (env3 P N []):=⟨fun f=>trivial, .inl rfl,
  fun T S k st w1 w2 hk hg=>⟨hk.1,hk.2.1.trans (hg.mono hk.2.1.size),fun b hb=>hb.elim (hk.2.2 b) fun hb=>Nat.le_trans hk.2.1.size hb.1⟩,
  fun T S k st w1 w2 b hk hT _ _ hg=>⟨hk.1,⟨hg.os.trans hk.2.1.os,hg.tape.trans hk.2.1.tape,hg.output.trans hk.2.1.output,by rw[hg.size];exact hk.2.1.size,fun k hkb=>(hg.other k (fun e=>by have:=hk.2.2 b hT;omega)).trans (hk.2.1.block k hkb)⟩,hk.2.2⟩,
  fun T S k st w1 b r r' hk hT hlo _ _=>⟨hk.1,⟨hk.2.1.os,hk.2.1.tape,hk.2.1.output,by simp only[World.putObj,Array.size_setIfInBounds];exact hk.2.1.size,fun j hj=>(World.putObj_heap_other (fun e=>by have:=hk.2.2 b hT;omega)).trans (hk.2.1.block j hj)⟩,hk.2.2⟩,
  fun T S k st w1 w2 hk _ hr=>⟨hk.1,⟨hr.os.trans hk.2.1.os,hr.tape.trans hk.2.1.tape,hr.output.trans hk.2.1.output,Nat.le_trans hk.2.1.size hr.size,fun j hj=>(hr.same j (Nat.lt_of_lt_of_le hj hk.2.1.size) (.inl hj)).trans (hk.2.1.block j hj)⟩,hk.2.2⟩,
  fun T S k st w1 Q hk hQ=>⟨hk.1,hk.2.1,fun b hb=>hb.elim (hk.2.2 b) fun hb=>(hQ b hb).1⟩,fun T S k st w1 hk=>hk.2.1.size,fun T S k st w1 hk=>⟨fun b hb=>absurd hb (hk.1.2.2 b).1,fun b hb=>absurd hb (hk.1.2.2 b).2⟩,fun T S k k' w1 us xs Q _ _ _ _ hys _=>by have h:=hys.1;simp at h,fun T S k st w1 Q hk _=>⟨hk.1,hk.2.1,fun b hb=>hk.2.2 b hb.1⟩,fun T S k k' w1 el sz es v xs _ _ hlx=>hlx.elim,rfl,rfl⟩
 have hvl:vs.length=args.length:=hargs.length
 have hrel:Rel X ⟨imm,fun _=>False,fun _=>none,w,ln0⟩ (start m args) { tmps:=vs.toArray++Array.replicate (fn.ntmps-vs.toArray.size) undef,defers:=[] }:=by
  refine⟨?_,fun d v hv=>?_,fun i=>?_,fun i j b hi=>?_,fun b hb=>⟨.inl hb,himm b hb⟩,fun b hb=>hb,fun b hb=>hb.elim,⟨⟨rfl,rfl,fun _=>⟨fun hb=>hb,fun hb=>hb⟩⟩,Below.refl _ _,fun b hb=>hb.elim⟩,⟨[],rfl,List.nodup_nil,fun D hD=>by cases hD⟩,(fun l hl=>by cases hl),fun i o hi=>(by simp[start]at hi),rfl,fun b hb=>hb.elim⟩
  ·show(vs.toArray++Array.replicate (fn.ntmps-vs.toArray.size) undef).size=N
   simp only[Array.size_append,List.size_toArray,Array.size_replicate]
   omega
  ·obtain⟨_,hd⟩:=argsTm_look hv
   simp only[Nat.sub_zero]at hd
   have hrvs:RVs ⟨imm,fun _=>False,fun _=>none,w,ln0⟩ args vs:=RV0s.rv args vs hargs
   obtain⟨x,hx,hvx⟩:=hrvs.get hd
   have hlt:=(List.getElem?_eq_some_iff.1 hx).1
   have:(vs.toArray++Array.replicate (fn.ntmps-vs.toArray.size) undef).getD d undef=x:=by
    rw[Array.getD_eq_getD_getElem?,Array.getElem?_append_left (by simpa using hlt)]
    simp[hx]
   rw[this];exact hvx
  ·have:(start m args).sg.getD i .fresh = .fresh:=by
    simp only[start,List.getD_eq_getElem?_getD,List.getElem?_replicate]
    split<;>rfl
   rw[this];rfl
  ·have:(start m args).sg.getD i .fresh = .fresh:=by
    simp only[start,List.getD_eq_getElem?_getD,List.getElem?_replicate]
    split<;>rfl
   rw[this]at hi;cases hi
 refine(callsIn_wide (n:=5)).1 (callsIn_of_wp_marks h1 h2 trivial (wpIn_mono (h X hX c 0 M h4 _ _ hrel) fun e a w1 hq=>?_))
 have fin:∀(C:Ctx) (s:St),C.w=w1->Rel X C s a->retK rs R s->LeavesInM Fence.wide 5 P fn a.tmps (fun e w'=>∃v r imm',e = .returned v/\R r/\RV0 imm' w' r v/\Below w.heap.size w w'/\(∀b,imm b->imm' b) /\
   (∀b,imm' b->imm b\/(w.heap.size<=b/\Mem w' b))) a.defers .returning w1:=fun C s hCw hr hret=>by
  subst hCw
  obtain⟨ds,hd1,hd2,hd3⟩:=hr.marks
  rw[hd1]
  refine leave_marks (B:=C.T) ds C.w hd2 hd3 fun w' hw'=>?_
  simp only[LeavesInM,LeavesIn]
  unfold retK at hret
  split at hret
  ·rename_i us hus
   obtain⟨xs,k1,k2⟩:=resL_run hr hw' fn.results.toList rs us h5 hus
   have hrun:(results fn a.tmps).run P w' = .ok (if h:xs.toArray.size=1 then xs.toArray[0] else .tuple xs.toArray) w':=by
    rw[results_eq,Array.mapM_eq_mapM_toList]
    have k1':(fn.results.toList.mapM (resF a.tmps)).run P w' = .ok xs w':=k1
    simp only[Sem.run_bind,Sem.run_map,k1',Result.andThen_ok,Sem.run_pure]
   refine⟨_,hrun,?_⟩
   have hpers:Pers (immAll C s) (immAll C s) C.w w':=fun b hb=>by
    obtain⟨o',hh,ho'⟩:=immAll_cells hr b hb
    exact⟨hb,(hw'.mem b _ hh ho').trans hh.symm⟩
   have himm':(∀b,imm b->immAll C s b)/\(∀b,immAll C s b->imm b\/(w.heap.size<=b/\Mem w' b)):=by
    refine⟨fun b hb=>.inl (hr.imm0 b hb),fun b hb=>?_⟩
    obtain⟨o',hh,ho'⟩:=immAll_cells hr b hb
    have hh':Mem w' b:=⟨_,hw'.mem b _ hh ho',ho'⟩
    rcases hb with hb|⟨i,hb⟩
    ·rcases(hr.imm b hb).1 with h6|h6
     ·exact .inl h6
     ·exact .inr ⟨hr.keep.2.2 b h6,hh'⟩
    ·exact .inr ⟨hr.keep.2.2 b (Res.blk_lt (hr.sg i) hb).1,hh'⟩
   have hb:Below w.heap.size w w':=hr.keep.2.1.trans ⟨hw'.os,hw'.tape,hw'.output,by rw[hw'.size];exact Nat.le_refl _,fun k hk=>hw'.other k (fun hT=>by have:=hr.keep.2.2 k hT;omega)⟩
   split at hret
   ·rename_i v hfz
    have k3:=mapO_ok (frz_ok hr 8) us xs _ hfz k2
    simp only[RV0s]at k3
    obtain⟨x,xs',rfl,k4,rfl⟩:=k3
    exact⟨x,v,immAll C s,by simp,hret,RV0.mono hpers _ _ k4,hb,himm'.1,himm'.2⟩
   ·rename_i vs' hne hfz
    have k3:=mapO_ok (frz_ok hr 8) us xs _ hfz k2
    have hlen:=k3.length
    have hsz:¬xs.toArray.size=1:=fun e=>by
     simp at e
     rw[e]at hlen
     match vs',hlen with
     | [v],_=>exact hne v rfl
    refine⟨.tuple xs.toArray, .tup vs',immAll C s,by rw[dif_neg hsz],hret,?_,hb,himm'.1,himm'.2⟩
    simp only[RV0]
    exact⟨xs,rfl,RV0s.mono hpers _ _ k3⟩
   ·exact hret.elim
  ·exact hret.elim
 cases e with
 |normal=>obtain⟨C,s,e1,hr,hret⟩:=hq;exact fin C s e1 hr hret
 |ret=>obtain⟨C,s,e1,hr,hret⟩:=hq;exact fin C s e1 hr hret
 |exit id=>obtain⟨C,s,e1,hr,hret⟩:=hq;exact hret.elim
 |goto l=>exact hq.elim
 |panic ch=>exact hq.elim
 |outgrown=>exact hq.elim
mutual
def AV.ren(π : Nat->Nat)(nl:Nat->Bool):AV->AV
 |.own i o=>.own (π i) o
 |.elt i sz k j=>.elt (π i) sz k j
 |.cut i sz lo n=>.cut (π i) sz lo n
 |.row i=>match nl i with
  |true=>.nils
  |false=>.row (π i)
 |.agg cs=>.agg (AV.renL π nl cs)
 |.tup cs=>.tup (AV.renL π nl cs)
 |.fn f cs=>.fn f (AV.renL π nl cs)
 |.bool b=>.bool b
 |.int k n=>.int k n
 |.str s=>.str s
 |.lit v=>.lit v
 |.isl es=>.isl es
 |.nils=>.nils
 |.ipt cs=>.ipt cs
 |.imp ks us=>.imp ks us
 |.tsl sz es=>.tsl sz es
 |.mth f cs=>.mth f cs
 |.any=>.any
 |.yld=>.yld
 |.gone=>.gone
def AV.renL(π : Nat->Nat)(nl:Nat->Bool):List AV->List AV
 | []=>[]
 |a::as=>AV.ren π nl a::AV.renL π nl as
end
mutual
def AV.okN(nl keep:Nat->Bool):AV->Bool
 |.own i _=>keep i && !nl i
 |.elt i _ _ _=>keep i && !nl i
 |.cut i _ _ _=>keep i && !nl i
 |.row i=>keep i
 |.agg cs=>AV.okNL nl keep cs
 |.tup cs=>AV.okNL nl keep cs
 |.fn _ cs=>AV.okNL nl keep cs
 |_=>true
def AV.okNL(nl keep:Nat->Bool):List AV->Bool
 | []=>true
 |a::as=>AV.okN nl keep a&&AV.okNL nl keep as
end
def keepN(nl:Nat->Bool)(sg:List Res)(i:Nat):Bool:=
 match sg.getD i .fresh with
 |.fresh=>false
 |.row _ _ _ _=>true
 |_ => !nl i
def renTm(s:St)(π : Nat->Nat)(nl keep:Nat->Bool):List (Nat × AV)->Prop
 | []=>True
 |(d,v)::r=>(look s.tm d=some (v.ren π nl)/\v.okN nl keep=true)/\renTm s π nl keep r
def renR(s:St)(π : Nat->Nat)(nl keep:Nat->Bool)(i:Nat)(new:Res):Prop:=
 match new with
 |.fresh=>True
 |.dead=>nl i=false/\(s.sg.getD (π i) .fresh = .fresh->False)
 |.box ice cs=>nl i=false/\s.sg.getD (π i) .fresh = .box ice (AV.renL π nl cs)/\AV.okNL nl keep cs=true/\(ice=true->AV.puL cs=true)
 |.row ice el sz es=>match nl i with
  |true=>ice=false/\es=[]
  |false=>s.sg.getD (π i) .fresh = .row ice el sz es
 |.mp ice ks us=>nl i=false/\s.sg.getD (π i) .fresh = .mp ice ks us
 |.mpo ks us=>nl i=false/\s.sg.getD (π i) .fresh = .mpo ks (AV.renL π nl us)/\AV.okNL nl keep us=true
 |.itr ks us seen last=>nl i=false/\s.sg.getD (π i) .fresh = .itr ks us seen last
 |.sit f pos=>nl i=false/\s.sg.getD (π i) .fresh = .sit f pos
 |.mpb ks us bn n=>nl i=false/\s.sg.getD (π i) .fresh = .mpb ks us bn n
 |.itd c n mem=>nl i=false/\s.sg.getD (π i) .fresh = .itd (AV.renL π nl c) n mem/\AV.okNL nl keep c=true
def renSg(s:St)(π : Nat->Nat)(nl keep:Nat->Bool):Nat->List Res->Prop
 |_,[]=>True
 |i,r::rs=>renR s π nl keep i r/\renSg s π nl keep (i+1) rs
def isGone:Res->Bool
 |.fresh=>true
 |.dead=>true
 |_=>false
def injB(π : Nat->Nat)(nl:Nat->Bool)(sg:List Res)(n:Nat):Bool:=
 (List.range n).all fun i=>isGone (sg.getD i .fresh)||(List.range n).all fun j=>isGone (sg.getD j .fresh)||nl i||nl j||i==j || π i != π j
def pinB(s s':St)(π : Nat->Nat)(nl:Nat->Bool):List Nat->Bool
 | []=>true
 |n::l=>match isFresh (s.sg.getD n .fresh)with
  |true=>pinB s s' π nl l
  |false=>match nl n,decide (π n=n),isFresh (s'.sg.getD n .fresh)with
   |false,true,false=>pinB s s' π nl l
   |_,_,_=>false
theorem pinB_get{s s':St}{π : Nat->Nat}{nl:Nat->Bool}:∀ {l:List Nat} {i:Nat},pinB s s' π nl l=true->i∈l->isFresh (s.sg.getD i .fresh)=true\/(nl i=false /\ π i=i/\isFresh (s'.sg.getD i .fresh)=false)
 | [],i,_,hi=>by cases hi
 |n::l,i,h,hi=>by
  simp only[pinB]at h
  split at h
  ·rename_i h1
   rcases List.mem_cons.1 hi with rfl|hi
   ·exact .inl h1
   ·exact pinB_get h hi
  ·split at h
   ·rename_i h1 h2 h3
    rcases List.mem_cons.1 hi with rfl|hi
    ·exact .inr ⟨h1,of_decide_eq_true h2,h3⟩
    ·exact pinB_get h hi
   ·cases h
def Meets(π : Nat->Nat)(nl:Nat->Bool)(s s':St):Prop:=
 renTm s π nl (keepN nl s'.sg) s'.tm/\renSg s π nl (keepN nl s'.sg) 0 s'.sg/\injB π nl s'.sg s'.sg.length=true/\s.gh=s'.gh/\pinB s s' π nl s.gh.p=true
theorem renTm_look{s:St}{π : Nat->Nat}{nl keep:Nat->Bool}:∀ {tm:List (Nat × AV)},renTm s π nl keep tm->∀ {d v},look tm d=some v->look s.tm d=some (v.ren π nl)/\v.okN nl keep=true
 | [],_,d,v,hl=>by simp[look]at hl
 |(i,u)::tm,h,d,v,hl=>by
  simp only[look]at hl
  split at hl
  ·rename_i e;subst e;cases hl;exact h.1
  ·exact renTm_look h.2 hl
theorem renSg_get{s:St}{π : Nat->Nat}{nl keep:Nat->Bool}:∀ {l:List Res} {k:Nat},renSg s π nl keep k l->∀i,renR s π nl keep (k+i) (l.getD i .fresh)
 | [],k,_,i=>by simp[renR]
 |r::l,k,h,0=>by simpa using h.1
 |r::l,k,h,i+1=>by
  have:=renSg_get h.2 i
  rw[show k+1+i=k+(i+1) from by omega]at this
  simpa using this
mutual
theorem RV.ren{C C':Ctx}{π : Nat->Nat}{nl keep:Nat->Bool}(hp:Pers C.imm C'.imm C.w C'.w)(hl:C'.l=C.l)(hr:∀i,keep i=true->C'.rho i=if nl i then some ⟨0, .slice none 0 0⟩ else C.rho (π i)) :
  ∀(a:AV) (v:Value),a.okN nl keep=true->RV C (a.ren π nl) v->RV C' a v
 |.bool _,_,_,h=>by simpa[RV,AV.ren]using h
 |.int _ _,_,_,h=>by simpa[RV,AV.ren]using h
 |.str _,_,_,h=>by simpa[RV,AV.ren]using h
 |.lit _,_,_,h=>by simpa[RV,AV.ren]using h
 |.isl es,v,_,h=>by simp only[RV,AV.ren]at h⊢;exact RV0.mono hp _ _ h
 |.nils,_,_,h=>by simpa[RV,AV.ren]using h
 |.ipt cs,v,_,h=>by simp only[RV,AV.ren]at h⊢;exact RV0.mono hp _ _ h
 |.imp _ _,v,_,h=>by simp only[RV,AV.ren]at h⊢;exact RV0.mono hp _ _ h
 |.tsl _ _,v,_,h=>by simp only[RV,AV.ren]at h⊢;exact RV0.mono hp _ _ h
 |.mth _ _,v,_,h=>by simp only[RV,AV.ren]at h⊢;exact RV0.mono hp _ _ h
 |.any,v,_,h=>by simpa only[RV,AV.ren]using h
 |.own i o,v,hk,h=>by
  simp only[RV,AV.ren,AV.okN]at h hk⊢
  obtain⟨ow,ho,e⟩:=h
  simp only[Bool.and_eq_true,Bool.not_eq_true']at hk
  exact⟨ow,by rw[hr i hk.1,hk.2];simpa using ho,e⟩
 |.elt i sz k j,v,hk,h=>by
  simp only[RV,AV.ren,AV.okN]at h hk⊢
  obtain⟨ow,ho,e⟩:=h
  simp only[Bool.and_eq_true,Bool.not_eq_true']at hk
  exact⟨ow,by rw[hr i hk.1,hk.2];simpa using ho,e⟩
 |.cut i sz k j,v,hk,h=>by
  simp only[RV,AV.ren,AV.okN]at h hk⊢
  obtain⟨ow,ho,e⟩:=h
  simp only[Bool.and_eq_true,Bool.not_eq_true']at hk
  exact⟨ow,by rw[hr i hk.1,hk.2];simpa using ho,e⟩
 |.row i,v,hk,h=>by
  simp only[AV.ren,AV.okN]at h hk
  simp only[RV]
  cases hh:nl i with
  |false=>rw[hh]at h;simp only[RV]at h;obtain⟨ow,ho,e⟩:=h;exact⟨ow,by rw[hr i hk,hh];simpa using ho,e⟩
  |true=>rw[hh]at h;simp only[RV]at h;exact⟨⟨0, .slice none 0 0⟩,by rw[hr i hk,hh];rfl,h⟩
 |.agg cs,v,hk,h=>by
  simp only[RV,AV.ren,AV.okN]at h hk⊢;obtain⟨vs,e,h⟩:=h
  exact⟨vs,e,RVs.ren hp hl hr cs vs hk h⟩
 |.tup cs,v,hk,h=>by
  simp only[RV,AV.ren,AV.okN]at h hk⊢;obtain⟨vs,e,h⟩:=h
  exact⟨vs,e,RVs.ren hp hl hr cs vs hk h⟩
 |.fn f cs,v,hk,h=>by
  simp only[RV,AV.ren,AV.okN]at h hk⊢;obtain⟨vs,e,h⟩:=h
  exact⟨vs,e,RVs.ren hp hl hr cs vs hk h⟩
 |.yld,_,_,h=>by simp only[RV,AV.ren]at h⊢;rw[h,hl]
 |.gone,_,_,_=>by simp[RV]
theorem RVs.ren{C C':Ctx}{π : Nat->Nat}{nl keep:Nat->Bool}(hp:Pers C.imm C'.imm C.w C'.w)(hl:C'.l=C.l)(hr:∀i,keep i=true->C'.rho i=if nl i then some ⟨0, .slice none 0 0⟩ else C.rho (π i)) :
  ∀(as:List AV) (vs:List Value),AV.okNL nl keep as=true->RVs C (AV.renL π nl as) vs->RVs C' as vs
 | [],vs,_,h=>by simpa[RVs,AV.renL]using h
 |a::as,vs,hk,h=>by
  simp only[RVs,AV.renL,AV.okNL,Bool.and_eq_true]at h hk⊢
  obtain⟨v,vs',e,h1,h2⟩:=h
  exact⟨v,vs',e,RV.ren hp hl hr a v hk.1 h1,RVs.ren hp hl hr as vs' hk.2 h2⟩
end
mutual
theorem RV0.unren{imm:Nat->Prop}{w:World}{π : Nat->Nat}{nl:Nat->Bool}:∀(a:AV) (v:Value),RV0 imm w (a.ren π nl) v->a.pu=true->RV0 imm w a v
 |.bool _,_,h,_=>by simpa only[AV.ren]using h
 |.int _ _,_,h,_=>by simpa only[AV.ren]using h
 |.str _,_,h,_=>by simpa only[AV.ren]using h
 |.lit _,_,h,_=>by simpa only[AV.ren]using h
 |.isl _,_,h,_=>by simpa only[AV.ren]using h
 |.nils,_,h,_=>by simpa only[AV.ren]using h
 |.ipt _,_,h,_=>by simpa only[AV.ren]using h
 |.imp _ _,_,h,_=>by simpa only[AV.ren]using h
 |.tsl _ _,_,h,_=>by simpa only[AV.ren]using h
 |.mth _ _,_,h,_=>by simpa only[AV.ren]using h
 |.any,_,h,_=>by simpa only[AV.ren]using h
 |.agg cs,v,h,hp=>by
  simp only[RV0,AV.ren,AV.pu]at h hp⊢;obtain⟨vs,e,h⟩:=h;exact⟨vs,e,RV0s.unren cs vs h hp⟩
 |.tup cs,v,h,hp=>by
  simp only[RV0,AV.ren,AV.pu]at h hp⊢;obtain⟨vs,e,h⟩:=h;exact⟨vs,e,RV0s.unren cs vs h hp⟩
 |.fn f cs,v,h,hp=>by
  simp only[RV0,AV.ren,AV.pu]at h hp⊢;obtain⟨vs,e,h⟩:=h;exact⟨vs,e,RV0s.unren cs vs h hp⟩
 |.own _ _,_,_,hp=>by cases hp
 |.elt _ _ _ _,_,_,hp=>by cases hp
 |.row _,_,_,hp=>by cases hp
 |.cut _ _ _ _,_,_,hp=>by cases hp
 |.yld,_,_,hp=>by cases hp
 |.gone,_,_,hp=>by cases hp
theorem RV0s.unren{imm:Nat->Prop}{w:World}{π : Nat->Nat}{nl:Nat->Bool}:∀(as:List AV) (vs:List Value),RV0s imm w (AV.renL π nl as) vs->AV.puL as=true->RV0s imm w as vs
 | [],vs,h,_=>by simpa[RV0s,AV.renL]using h
 |a::as,vs,h,hp=>by
  simp only[RV0s,AV.renL,AV.puL,Bool.and_eq_true]at h hp⊢
  obtain⟨v,vs',e,h1,h2⟩:=h
  exact⟨v,vs',e,RV0.unren a v h1 hp.1,RV0s.unren as vs' h2 hp.2⟩
end
theorem Rel.meets{X:Sess}{C:Ctx}{s s':St}{a:Act}{π : Nat->Nat}{nl:Nat->Bool}(h:Rel X C s a)(hw:Meets π nl s s'):∃rho',Rel X ⟨C.imm,C.T,rho',C.w,C.l⟩ s' a:=by
 obtain⟨h1,h2,h3,h4,h5⟩:=hw
 have hget:∀i,renR s π nl (keepN nl s'.sg) i (s'.sg.getD i .fresh):=fun i=>by simpa using renSg_get h2 i
 let rho':Nat->Option Own:=fun i=>if keepN nl s'.sg i then(if nl i then some ⟨0, .slice none 0 0⟩ else C.rho (π i)) else none
 have hp:Pers C.imm C.imm C.w C.w:=fun b hb=>⟨hb,rfl⟩
 have hr:∀i,keepN nl s'.sg i=true->rho' i=if nl i then some ⟨0, .slice none 0 0⟩ else C.rho (π i):=fun i hi=>by simp[rho',hi]
 have hblk:∀i b,(s'.sg.getD i .fresh).blk (rho' i)=some b->nl i=false/\(s.sg.getD (π i) .fresh).blk (C.rho (π i))=some b/\i<s'.sg.length/\isGone (s'.sg.getD i .fresh)=false:=fun i b hb=>by
  have hg:=hget i
  have hlt:i<s'.sg.length:=getD_lt (by intro e;rw[e]at hb;cases hb)
  cases hs:s'.sg.getD i .fresh with
  |fresh=>rw[hs]at hb;cases hb
  |dead=>rw[hs]at hb;cases hb
  |box ice cs=>
   rw[hs]at hb hg
   obtain⟨g1,g2,g3,_⟩:=hg
   have hk:keepN nl s'.sg i=true:=by simp only[keepN,hs,g1];rfl
   rw[hr i hk,g1]at hb
   exact⟨g1,by rw[g2];simpa[Res.blk]using hb,hlt,rfl⟩
  |row ice el sz es=>
   rw[hs]at hb hg
   have hk:keepN nl s'.sg i=true:=by simp only[keepN,hs]
   rw[hr i hk]at hb
   cases hn:nl i with
   |true=>rw[hn]at hb;simp[Res.blk,Value.ownBlock]at hb
   |false=>
    rw[hn]at hb
    simp only[renR,hn]at hg
    exact⟨rfl,by rw[hg];simpa using hb,hlt,rfl⟩
  |mp ice ks us=>
   rw[hs]at hb hg
   obtain⟨g1,g2⟩:=hg
   have hk:keepN nl s'.sg i=true:=by simp only[keepN,hs,g1];rfl
   rw[hr i hk,g1]at hb
   exact⟨g1,by rw[g2];simpa[Res.blk]using hb,hlt,rfl⟩
  |mpo ks us=>
   rw[hs]at hb hg
   obtain⟨g1,g2,_⟩:=hg
   have hk:keepN nl s'.sg i=true:=by simp only[keepN,hs,g1];rfl
   rw[hr i hk,g1]at hb
   exact⟨g1,by rw[g2];simpa[Res.blk]using hb,hlt,rfl⟩
  |itr ks us seen last=>
   rw[hs]at hb hg
   obtain⟨g1,g2⟩:=hg
   have hk:keepN nl s'.sg i=true:=by simp only[keepN,hs,g1];rfl
   rw[hr i hk,g1]at hb
   exact⟨g1,by rw[g2];simpa[Res.blk]using hb,hlt,rfl⟩
  |sit f pos=>
   rw[hs]at hb hg
   obtain⟨g1,g2⟩:=hg
   have hk:keepN nl s'.sg i=true:=by simp only[keepN,hs,g1];rfl
   rw[hr i hk,g1]at hb
   exact⟨g1,by rw[g2];simpa[Res.blk]using hb,hlt,rfl⟩
  |mpb ks us bn n=>
   rw[hs]at hb hg
   obtain⟨g1,g2⟩:=hg
   have hk:keepN nl s'.sg i=true:=by simp only[keepN,hs,g1];rfl
   rw[hr i hk,g1]at hb
   exact⟨g1,by rw[g2];simpa[Res.blk]using hb,hlt,rfl⟩
  |itd c n mem=>
   rw[hs]at hb hg
   obtain⟨g1,g2,_⟩:=hg
   have hk:keepN nl s'.sg i=true:=by simp only[keepN,hs,g1];rfl
   rw[hr i hk,g1]at hb
   exact⟨g1,by rw[g2];simpa[Res.blk]using hb,hlt,rfl⟩
 refine⟨rho',h.size,fun d v hv=>?_,fun i=>?_,fun i j b hi hj=>?_,h.imm,h.imm0,h.T,h4 ▸ h.keep,h.marks,h.round,⟨fun i o hi ho=>?_,h.pin.2⟩⟩
 ·obtain⟨g1,g2⟩:=renTm_look h1 hv
  exact RV.ren (C':=⟨C.imm,C.T,rho',C.w,C.l⟩) hp rfl hr v _ g2 (h.tm d _ g1)
 ·have hg:=hget i
  show ResOk _ _ (rho' i)
  cases hs:s'.sg.getD i .fresh with
  |fresh=>
   have hk:keepN nl s'.sg i=false:=by simp only[keepN,hs]
   simp[ResOk,rho',hk]
  |dead=>
   rw[hs]at hg
   have hk:keepN nl s'.sg i=true:=by simp only[keepN,hs,hg.1];rfl
   have hso:=h.sg (π i)
   rw[hr i hk,hg.1]
   intro x hx
   simp only[Bool.false_eq_true,if_false]at hx
   cases ho:s.sg.getD (π i) .fresh with
   |fresh=>exact absurd ho hg.2
   |dead=>rw[ho]at hso;exact hso x hx
   |box ice cs=>rw[ho,hx]at hso;obtain⟨b,_,_,e,_⟩:=hso;cases e;rfl
   |row ice el sz es=>
    rw[ho,hx]at hso;obtain⟨b,v,xs,e,h4,_⟩:=hso;cases e
    rcases h4.2 with⟨e,_⟩|⟨g,cap,cur,e,_⟩<;>(show v.oneCell'=true;rw[e];rfl)
   |mp ice ks us=>rw[ho,hx]at hso;obtain⟨b,_,_,e,_⟩:=hso;cases e;rfl
   |mpo ks us=>rw[ho,hx]at hso;obtain⟨b,_,_,e,_⟩:=hso;cases e;rfl
   |itr ks us seen last=>rw[ho,hx]at hso;obtain⟨b,_,_,_,e,_⟩:=hso;cases e;rfl
   |sit f pos=>rw[ho,hx]at hso;obtain⟨b,e,_⟩:=hso;cases e;rfl
   |mpb ks us bn n=>rw[ho,hx]at hso;obtain⟨b,_,e,_⟩:=hso;cases e;rfl
   |itd c n mem=>rw[ho,hx]at hso;obtain⟨b,_,e,_⟩:=hso;cases e;rfl
  |box ice cs=>
   rw[hs]at hg
   obtain⟨g1,g2,g3,g4⟩:=hg
   have hk:keepN nl s'.sg i=true:=by simp only[keepN,hs,g1];rfl
   have hso:=h.sg (π i)
   rw[g2]at hso
   rw[hr i hk,g1]
   obtain⟨b,vs,el,k1,k2,k3,k4,k5,k6⟩:=hso
   refine⟨b,vs,el,by simpa using k1,k2,k3,RVs.ren (C':=⟨C.imm,C.T,rho',C.w,C.l⟩) hp rfl hr cs vs g3 k4,fun e=>⟨(k5 e).1,?_⟩,k6⟩
   -- cells of a box that is left alone hold no names
   have:=(k5 e).2
   exact RV0s.unren cs vs this (g4 e)
  |row ice el sz es=>
   rw[hs]at hg
   have hk:keepN nl s'.sg i=true:=by simp only[keepN,hs]
   rw[hr i hk]
   cases hn:nl i with
   |true=>
    simp only[renR,hn]at hg
    obtain⟨rfl,rfl⟩:=hg
    exact⟨0, .slice none 0 0,[],rfl,World.ownsRow_nil _ _ _ _,by simp[RV0s],by simp,fun b' e=>by cases e⟩
   |false=>
    simp only[renR,hn]at hg
    have hso:=h.sg (π i)
    rw[hg]at hso
    simp only[Bool.false_eq_true,if_false]
    exact hso
  |mp ice ks us=>
   rw[hs]at hg
   obtain⟨g1,g2⟩:=hg
   have hk:keepN nl s'.sg i=true:=by simp only[keepN,hs,g1];rfl
   have hso:=h.sg (π i)
   rw[g2]at hso
   rw[hr i hk,g1]
   simp only[Bool.false_eq_true,if_false]
   exact hso
  |mpo ks us=>
   rw[hs]at hg
   obtain⟨g1,g2,g3⟩:=hg
   have hk:keepN nl s'.sg i=true:=by simp only[keepN,hs,g1];rfl
   have hso:=h.sg (π i)
   rw[g2]at hso
   rw[hr i hk,g1]
   obtain⟨b,es,nB,k1,k2,k3,k4,k5,k6,k7⟩:=hso
   exact⟨b,es,nB,by simpa using k1,k2,k3,k4,k5,RVs.ren (C':=⟨C.imm,C.T,rho',C.w,C.l⟩) hp rfl hr us _ g3 k6,k7⟩
  |itr ks us seen last=>
   rw[hs]at hg
   obtain⟨g1,g2⟩:=hg
   have hk:keepN nl s'.sg i=true:=by simp only[keepN,hs,g1];rfl
   have hso:=h.sg (π i)
   rw[g2]at hso
   rw[hr i hk,g1]
   simp only[Bool.false_eq_true,if_false]
   exact hso
  |sit f pos=>
   rw[hs]at hg
   obtain⟨g1,g2⟩:=hg
   have hk:keepN nl s'.sg i=true:=by simp only[keepN,hs,g1];rfl
   have hso:=h.sg (π i)
   rw[g2]at hso
   rw[hr i hk,g1]
   simp only[Bool.false_eq_true,if_false]
   exact hso
  |mpb ks us bn n=>
   rw[hs]at hg
   obtain⟨g1,g2⟩:=hg
   have hk:keepN nl s'.sg i=true:=by simp only[keepN,hs,g1];rfl
   have hso:=h.sg (π i)
   rw[g2]at hso
   rw[hr i hk,g1]
   simp only[Bool.false_eq_true,if_false]
   exact hso
  |itd c n mem=>
   rw[hs]at hg
   obtain⟨g1,g2,g3⟩:=hg
   have hk:keepN nl s'.sg i=true:=by simp only[keepN,hs,g1];rfl
   have hso:=h.sg (π i)
   rw[g2]at hso
   rw[hr i hk,g1]
   obtain⟨b,m,k1,k2,k3,k4,k5⟩:=hso
   exact⟨b,m,by simpa using k1,k2,k3,k4,RVs.ren (C':=⟨C.imm,C.T,rho',C.w,C.l⟩) hp rfl hr c _ g3 k5⟩
 ·obtain⟨n1,b1,l1,q1⟩:=hblk i b hi
  obtain⟨n2,b2,l2,q2⟩:=hblk j b hj
  have e:=h.dis _ _ b b1 b2
  simp only[injB,List.all_eq_true,List.mem_range,Bool.or_eq_true]at h3
  rcases h3 i l1 with h3|h3
  ·rw[q1]at h3;cases h3
  ·have:=h3 j l2
   rw[q2,n1,n2,e]at this;simpa using this
 ·rw[<- h4]at hi
  have hrho:=h.pin.1 i o hi ho
  have hnf:isFresh (s.sg.getD i .fresh)=false:=by
   cases hh:isFresh (s.sg.getD i .fresh)with
   |false=>rfl
   |true=>rw[h.unbound (isFresh_ok hh)]at hrho;cases hrho
  rcases pinB_get h5 hi with q|⟨q1,q2,q3⟩
  ·rw[hnf]at q;cases q
  ·show rho' i=some o
   have hk:keepN nl s'.sg i=true:=by
    unfold keepN
    cases hs:s'.sg.getD i .fresh with
    |fresh=>rw[hs]at q3;cases q3
    |_=>simp[q1]
   rw[hr i hk,q1,q2]
   simpa using hrho
theorem go_meets{E:Env}{c:CI}{T:Ex->St->Prop}{s s':St}{π : Nat->Nat}{nl:Nat->Bool}(hw:Meets π nl s s')(h:GoC E c T s'):GoC E c T s:=fun X hX code nm nm' hc C a hr=>by
 obtain⟨rho',hr'⟩:=hr.meets hw
 exact h X hX code nm nm' hc ⟨C.imm,C.T,rho',C.w,C.l⟩ a hr'
def MeetsE(s s':St):Prop:=∃ π nl,Meets π nl s s'
theorem meets_id{s s':St}(h:Meets (fun i=>i) (fun _=>false) s s'):MeetsE s s':=⟨_,_,h⟩
theorem meets_ren(i j:Nat){s s':St}(h:Meets (fun k=>match decide (k=i)with|true=>j|false=>k) (fun _=>false) s s'):MeetsE s s':=⟨_,_,h⟩
theorem meets_nil(i:Nat){s s':St}(h:Meets (fun k=>k) (fun k=>decide (k=i)) s s'):MeetsE s s':=⟨_,_,h⟩
def asN:List (Nat × Option Nat)->Nat->Nat
 | [],k=>k
 |(i,some j)::l,k=>match decide (k=i)with|true=>j|false=>asN l k
 |(_,none)::l,k=>asN l k
def asB:List (Nat × Option Nat)->Nat->Bool
 | [],_=>false
 |(_,some _)::l,k=>asB l k
 |(i,none)::l,k=>match decide (k=i)with|true=>true|false=>asB l k
theorem meets_as(l:List (Nat × Option Nat)){s s':St}(h:Meets (asN l) (asB l) s s'):MeetsE s s':=⟨_,_,h⟩
theorem go_loop_m{E:Env}{T:Ex->St->Prop}{s:St}{b:CI}{α : Type}(st : α -> St)(inv : α -> Prop)(μ : α -> Nat)(x0 : α)(h0:inv x0)(hw:MeetsE s (st x0))
  (hr:∀x,inv x->GoC E b (rndT T fun s'=>∃y,MeetsE s' (st y)/\inv y /\ μ y < μ x) (st x)):GoC E (.loop b) T s:=by
 refine go_loop (fun n s=>∃y,MeetsE s (st y)/\inv y /\ μ y=n) (μ x0) ⟨x0,hw,h0,rfl⟩ fun n s hJ=>?_
 obtain⟨y,⟨π,nl,hy1⟩,hy2,rfl⟩:=hJ
 refine go_meets hy1 ((hr y hy2).mono fun e s'=>?_)
 cases e with
 |normal=>rintro⟨z,h1,h2,h3⟩;exact⟨μ z,h3,z,h1,h2,rfl⟩
 |_=>exact id
theorem Reach.mono{lo lo':Nat}{S S':Nat->Prop}{w w':World}(h:Reach lo S w w')(h1:lo'<=lo)(h2:∀b,S' b->S b):Reach lo' S' w w':=
 ⟨h.os,h.tape,h.output,h.size,fun b hb hs=>h.same b hb (hs.imp (fun e=>Nat.lt_of_lt_of_le e h1) (h2 b))⟩
theorem Reach.mono'{lo lo':Nat}{S S':Nat->Prop}{w w':World}(h:Reach lo S w w')(h1:lo'<=lo)(h2:∀b,S' b->S b\/b<lo):Reach lo' S' w w':=
 ⟨h.os,h.tape,h.output,h.size,fun b hb hs=>h.same b hb (hs.elim (fun e=>.inl (Nat.lt_of_lt_of_le e h1)) fun e=>(h2 b e).symm)⟩
theorem Reach.of_below{lo:Nat}{S:Nat->Prop}{w w':World}(h:Below w.heap.size w w'):Reach lo S w w':=
 ⟨h.os,h.tape,h.output,h.size,fun b hb _=>h.block b hb⟩
theorem Reach.of_one{lo b:Nat}{S:Nat->Prop}{w w':World}(h:OneB b w w')(h1:lo<=b)(h2:¬S b):Reach lo S w w':=
 ⟨h.os,h.tape,h.output,by rw[h.size];exact Nat.le_refl _,fun k hk hs=>h.other k fun e=>hs.elim (fun hs=>by omega) (fun hs=>h2 (e ▸ hs))⟩
theorem size_putObj(w:World)(b:Nat)(o:Obj):(w.putObj b o).heap.size=w.heap.size:=by simp[World.putObj]
theorem Reach.of_obj{lo b:Nat}{S:Nat->Prop}{w:World}{o:Obj}(h1:lo<=b)(h2:¬S b):Reach lo S w (w.putObj b o):=
 ⟨rfl,rfl,rfl,by rw[size_putObj];exact Nat.le_refl _,fun k hk hs=>World.putObj_heap_other fun e=>hs.elim (fun hs=>by omega) (fun hs=>h2 (e ▸ hs))⟩
theorem Rel.move{X Y:Sess}{C:Ctx}{tm tm':List (Nat × AV)}{sg:List Res}{gh gh':Gh}{a a':Act}(h:Rel X C ⟨tm,sg,gh⟩ a)(w':World)
  (hsame:∀b,Mem C.w b->(C.T b\/C.imm b)->w'.heap[b]?=C.w.heap[b]?) (hsz:C.w.heap.size<=w'.heap.size)
  (hN:a'.tmps.size=Y.N) (htm:∀d v,look tm' d=some v->RV ⟨C.imm,C.T,C.rho,w',C.l⟩ v (a'.tmps.getD d undef)) (himm:∀b,C.imm b->Y.imm0 b\/C.T b) (himm0:∀b,Y.imm0 b->C.imm b)
  (hK:Y.Keep C.T C.l.S gh'.k gh'.st w') (hmarks:∃ds:List Nat,a'.defers=ds.map (fun D=>{ target:=.collected D,args := #[] })/\ds.Nodup/\∀D∈ds,C.T D/\w'.heap[D]?=some (.deferred (some [])))
  (hround:∀l,Y.F.round=some l->C.T l/\∃r,w'.heap[l]?=some (.loop r)) (hpin:(∀i o,i∈gh'.p->Y.pin i=some o->C.rho i=some o)/\C.l.l=Y.l/\∀b,C.l.S.h b->C.imm b) :
  Rel Y ⟨C.imm,C.T,C.rho,w',C.l⟩ ⟨tm',sg,gh'⟩ a':=by
 have hp:Pers C.imm C.imm C.w w':=fun b hb=>⟨hb,hsame b (h.imm b hb).2 (.inr hb)⟩
 have hl:Later (fun _=>true) C ⟨C.imm,C.T,C.rho,w',C.l⟩:=⟨hp,fun _ _=>rfl,rfl⟩
 refine⟨hN,htm,fun j=>?_,h.dis,fun b hb=>?_,himm0,fun b hb=>Nat.lt_of_lt_of_le (h.T b hb) hsz,hK,hmarks,hround,hpin⟩
 ·refine ResOk.later hl (fun _ hb'=>hb') (h.sg j) (AV.refsInL_all (fun _=>rfl) _) fun b' hb'=>?_
  obtain⟨h1,h2,h3⟩:=Res.blk_lt (h.sg j) hb'
  exact⟨hsame b' h3 (.inl h1),id⟩
 ·exact⟨himm b hb,(h.imm b hb).2.same (hsame b (h.imm b hb).2 (.inr hb))⟩
theorem Rel.later_tm{X:Sess}{C:Ctx}{s:St}{a:Act}(h:Rel X C s a){w':World}(hsame:∀b,Mem C.w b->(C.T b\/C.imm b)->w'.heap[b]?=C.w.heap[b]?) :
  ∀d v,look s.tm d=some v->RV ⟨C.imm,C.T,C.rho,w',C.l⟩ v (a.tmps.getD d undef):=fun d v hv=>
 RV.later (keep:=fun _=>true) (C:=C) (C':=⟨C.imm,C.T,C.rho,w',C.l⟩) ⟨fun b hb=>⟨hb,hsame b (h.imm b hb).2 (.inr hb)⟩,fun _ _=>rfl,rfl⟩ v _ (AV.refsIn_all (fun _=>rfl) v) (h.tm d v hv)
def ItG(P:Program)(f:FuncId)(cap:List AV)(nx:Nat->List AV->Nat->Prop)(fin:Nat->Prop):Prop:=
 ∀(imm:Nat->Prop) (w:World) (vs:List Value) (l:Nat) (J:Nat->Bool->Wt->World->Prop) (S0:Wt),
  (∀b,imm b->Mem w b)->RV0s imm w cap vs->(∀b,S0.h b->imm b) ->
  (∀k st S w1,J k st S w1->∀b,S.s b\/S.h b->b<w1.heap.size) ->
  (∀k st S w1 w2,J k st S w1->Reach w.heap.size (fun b=>S.s b\/S.h b) w1 w2->J k st S w2) ->
  (∀k k' S w1 y xs (Q:Nat->Prop),J k false S w1->(∀b,S.h b->Q b)->(∀b,Q b->(imm b\/(w.heap.size<=b/\¬S.s b))/\Mem w1 b)->nx k y k'->RV0s Q w1 y xs ->
   YieldAt Fence.wide 4 P l xs.toArray w1 fun e w2=>∃b S',e = .returned (.bool b)/\J k' (!b) S' w2/\StepR imm Q S S' w1 w2) ->
  J 0 false S0 w ->
  Calls P f (#[.func (.yield l) #[] #[]]++vs.toArray) w fun e w'=>∃v k st S',e = .returned v/\J k st S' w'/\(st=false->fin k)
def lsNx(ys:List (List AV))(k:Nat)(v:List AV)(k':Nat):Prop:=ys[k]?=some v/\k'=k+1
def ItA(P:Program)(f:FuncId)(cap:List AV)(ys:List (List AV)):Prop:=ItG P f cap (lsNx ys) (· = ys.length)
def finG(fin:Nat->Prop):Ex->St->Prop
 |.exit _,_=>False
 |_,s=>s.gh.st=true\/fin s.gh.k
def finI(ys:List (List AV)):Ex->St->Prop
 |.exit _,_=>False
 |_,s=>s.gh.st=true\/s.gh.k=ys.length
theorem itG_of_go{P:Program}{f:FuncId}{N M:Nat}{ci:CI}(hok:FnOk P f N M ci [])(m:Nat){cap:List AV}{zs:List (List AV)}{nx:Nat->List AV->Nat->Prop}{fin:Nat->Prop}(hN:cap.length+1<=N)(h:GoC { P:=P,N:=N,ys:=zs,nx:=nx } ci (finG fin) (start m (.yld::cap))):ItG P f cap nx fin:=by
 obtain⟨fn,c,h1,h2,h3,h4,h5⟩:=hok.ok
 intro imm w vs l J S0 himm hargs hS0 hJS hJR hJY hJ0
 let X:Sess:={ P:=P,F:=Fence.wide,n:=5,N:=N,imm0:=imm,lo:=w.heap.size,pin:=fun _=>none,l:=l,Keep:=fun T S k st w'=>J k st S w'/\(∀b,S.s b->¬T b)/\(∀b,T b->w.heap.size<=b)/\w.heap.size<=w'.heap.size }
 have hX:SessOk X { P:=P,N:=N,ys:=zs,nx:=nx }:=⟨fun f=>trivial, .inl rfl,
  fun T S k st w1 w2 hk hg=>⟨hJR _ _ _ _ _ hk.1 (.of_below hg),fun b hb hT=>by
   rcases hT with hT|hT
   ·exact hk.2.1 b hb hT
   ·have:=hJS _ _ _ _ hk.1 b (.inl hb);omega,fun b hb=>hb.elim (hk.2.2.1 b) fun hb=>Nat.le_trans hk.2.2.2 hb.1,Nat.le_trans hk.2.2.2 hg.size⟩,
  fun T S k st w1 w2 b hk hT _ hh hg=>⟨hJR _ _ _ _ _ hk.1 (.of_one hg (hk.2.2.1 b hT) fun hs=>hs.elim (fun hs=>hk.2.1 b hs hT) hh),hk.2.1,hk.2.2.1,by rw[hg.size];exact hk.2.2.2⟩,
  fun T S k st w1 b r r' hk hT hlo hh _=>⟨hJR _ _ _ _ _ hk.1 (.of_obj hlo fun hs=>hs.elim (fun hs=>hk.2.1 b hs hT) hh),hk.2.1,hk.2.2.1,by rw[size_putObj];exact hk.2.2.2⟩,
  fun T S k st w1 w2 hk _ hr=>⟨hJR _ _ _ _ _ hk.1 (hr.mono (Nat.le_refl _) fun b hb=>.inr hb),hk.2.1,hk.2.2.1,Nat.le_trans hk.2.2.2 hr.size⟩,
  fun T S k st w1 Q hk hQ=>⟨hk.1,fun b hb hT=>hT.elim (hk.2.1 b hb) fun hq=>(hQ b hq).2.2 hb,fun b hb=>hb.elim (hk.2.2.1 b) fun hb=>(hQ b hb).1,hk.2.2.2⟩,
  fun T S k st w1 hk=>hk.2.2.2,fun T S k st w1 hk=>⟨fun b hb=>⟨hJS _ _ _ _ hk.1 b (.inl hb),hk.2.1 b hb⟩,fun b hb=>hJS _ _ _ _ hk.1 b (.inr hb)⟩,
  fun T S k k' w1 us xs Q hk hT hSQ hQ hys hxs=>by
   obtain⟨fn,tmps,as,bd,q1,q2⟩:=hJY k k' S w1 us xs Q hk.1 hSQ (fun b hb=>⟨(hQ b hb).1.imp id fun h=>⟨hk.2.2.1 b h,fun hs=>hk.2.1 b hs h⟩,(hQ b hb).2⟩) hys hxs
   refine⟨fn,tmps,as,bd,q1,q2.mono fun e w2 hr=>?_⟩
   obtain⟨b,S',e1,e2,e3⟩:=hr
   refine⟨b,S',e1,⟨e2,fun b' hb' hTb=>?_,hk.2.2.1,Nat.le_trans hk.2.2.2 e3.size⟩,⟨e3.os,e3.tape,e3.output,e3.size,fun b' hb' hs=>e3.same b' hb' ?_,e3.sub,e3.new,e3.hsub,e3.hnew⟩⟩
   ·rcases e3.new b' hb' with q|q
    ·exact hk.2.1 b' q hTb
    ·have:=hT b' hTb;omega
   ·rcases hs with(hs|hs)|hs
    ·exact .inl hs
    ·exact .inr fun q=>hk.2.1 b' q hs
    ·exact .inr hs,fun T S k st w1 Q hk _=>⟨hk.1,fun b hb hT=>hk.2.1 b hb hT.1,fun b hb=>hk.2.2.1 b hb.1,hk.2.2.2⟩,fun T S k k' w1 el sz es v xs _ _ hlx=>hlx.elim,rfl,rfl⟩
 have hvl:vs.length=cap.length:=hargs.length
 let tm0:Array Value:=(#[.func (.yield l) #[] #[]]++vs.toArray)++Array.replicate (fn.ntmps-(#[Value.func (.yield l) #[] #[]]++vs.toArray).size) undef
 have hfr:∀i,(start m (.yld::cap)).sg.getD i .fresh = .fresh:=fun i=>by
  simp only[start,List.getD_eq_getElem?_getD,List.getElem?_replicate]
  split<;>rfl
 have hrel:Rel X ⟨imm,fun _=>False,fun _=>none,w,⟨l,S0⟩⟩ (start m (.yld::cap)) { tmps:=tm0,defers:=[] }:=by
  refine⟨?_,fun d v hv=>?_,fun i=>?_,fun i j b hi=>?_,fun b hb=>⟨.inl hb,himm b hb⟩,fun b hb=>hb,fun b hb=>hb.elim,⟨hJ0,fun b _ hb=>hb,fun b hb=>hb.elim,Nat.le_refl _⟩,⟨[],rfl,List.nodup_nil,fun D hD=>by cases hD⟩,(fun l hl=>by cases hl),fun i o hi=>(by simp[start]at hi),rfl,hS0⟩
  ·show tm0.size=N
   simp only[tm0,Array.size_append,List.size_toArray,Array.size_replicate,List.length_cons,List.length_nil]
   omega
  ·obtain⟨_,hd⟩:=argsTm_look hv
   simp only[Nat.sub_zero]at hd
   have hrvs:RVs ⟨imm,fun _=>False,fun _=>none,w,⟨l,S0⟩⟩ (.yld::cap) (.func (.yield l) #[] #[]::vs):=by
    simp only[RVs]
    exact⟨_,_,rfl,by simp only[RV],RV0s.rv cap vs hargs⟩
   obtain⟨x,hx,hvx⟩:=hrvs.get hd
   have hlt:=(List.getElem?_eq_some_iff.1 hx).1
   have e0:(#[Value.func (.yield l) #[] #[]]++vs.toArray)=(Value.func (.yield l) #[] #[]::vs).toArray:=by simp
   have:tm0.getD d undef=x:=by
    simp only[tm0,e0]
    rw[Array.getD_eq_getD_getElem?,Array.getElem?_append_left (by simpa using hlt)]
    simp only[List.getElem?_toArray,hx,Option.getD_some]
   show RV _ v (tm0.getD d undef)
   rw[this];exact hvx
  ·rw[hfr];rfl
  ·rw[hfr]at hi;cases hi
 refine(callsIn_wide (n:=5)).1 (callsIn_of_wp_marks h1 h2 trivial (wpIn_mono (h X hX c 0 M h4 _ _ hrel) fun e a w1 hq=>?_))
 have finish:∀(C:Ctx) (s:St),C.w=w1->Rel X C s a->(s.gh.st=true\/fin s.gh.k)->LeavesInM Fence.wide 5 P fn a.tmps (fun e w'=>∃v k st S',e = .returned v/\J k st S' w'/\(st=false->fin k)) a.defers .returning w1:=fun C s hCw hr hret=>by
  subst hCw
  obtain⟨ds,hd1,hd2,hd3⟩:=hr.marks
  rw[hd1]
  refine leave_marks (B:=C.T) ds C.w hd2 hd3 fun w' hw'=>?_
  simp only[LeavesInM,LeavesIn]
  have hres:fn.results.toList=[]:=by
   cases hq:fn.results.toList with
   |nil=>rfl
   |cons r rs=>
    rw[hq]at h5
    cases r<;>simp only[compRes]at h5<;>(repeat' (split at h5))<;>cases h5
  have hrun:(results fn a.tmps).run P w' = .ok (.tuple #[]) w':=by
   rw[results_eq,Array.mapM_eq_mapM_toList,hres]
   simp[Sem.run_pure]
  refine⟨_,hrun,_,s.gh.k,s.gh.st,C.l.S,rfl,hJR _ _ _ _ _ hr.keep.1 ⟨hw'.os,hw'.tape,hw'.output,by rw[hw'.size];exact Nat.le_refl _,fun b hb hs=>?_⟩,fun e=>?_⟩
  ·rcases hs with hs|hs|hs
   ·exact hw'.other b fun hT=>by have:=hr.keep.2.2.1 b hT;omega
   ·exact hw'.other b fun hT=>hr.keep.2.1 b hs hT
   ·obtain⟨o,h1,h2⟩:=(hr.imm b (hr.pin.2.2 b hs)).2
    rw[hw'.mem b o h1 h2,h1]
  ·rcases hret with hret|hret
   ·rw[e]at hret;cases hret
   ·exact hret
 cases e with
 |normal=>obtain⟨C,s,e1,hr,hret⟩:=hq;exact finish C s e1 hr hret
 |ret=>obtain⟨C,s,e1,hr,hret⟩:=hq;exact finish C s e1 hr hret
 |exit id=>obtain⟨C,s,e1,hr,hret⟩:=hq;exact hret.elim
 |goto l=>exact hq.elim
 |panic ch=>exact hq.elim
 |outgrown=>exact hq.elim
theorem itA_of_go{P:Program}{f:FuncId}{N M:Nat}{ci:CI}(hok:FnOk P f N M ci [])(m:Nat){cap:List AV}{ys:List (List AV)}(hN:cap.length+1<=N)(h:GoC (env3 P N ys) ci (finI ys) (start m (.yld::cap))):ItA P f cap ys:=by
 have e:finI ys=finG (· = ys.length):=by funext e s;cases e<;>rfl
 rw[e]at h
 exact itG_of_go hok m hN h
theorem enter_any{P:Program}{F:Fence}(hF:F=Fence.wide\/∃l,F=Fence.wide.inRound l)(w:World)(hr:∀l,F.round=some l->∃r,w.heap[l]?=some (.loop r))(fn:FuncId)(tmps:Array Value)(ps:Array Tmp)(as bd:Code) :
  ∃l mark w1 dd,(Instr.enterLoop fn tmps ps as bd F.round).run P w = .ok (l,mark) w1/\Below w.heap.size w w1/\w.heap.size<=l/\l<w1.heap.size /\
   w1.heap[l]?=some (.loop { state:=.ready,pending:=none,fn,tmps,params:=ps,assign:=as,body:=bd,defers:=dd }) /\
   (mark=[]\/∃D,mark=[{ target:=.collected D,args := #[] }]/\w.heap.size<=D/\D<w1.heap.size/\w1.heap[D]?=some (.deferred (some []))):=by
 rcases hF with rfl|⟨l0,rfl⟩
 ·refine⟨_,_,_,w.heap.size,run_enterLoop_outer fn tmps ps as bd,((Below.refl _ w).alloc (Nat.le_refl _) _).alloc (by simp) _,by omega,by simp,?_, .inr ⟨w.heap.size,rfl,Nat.le_refl _,by simp;omega,?_⟩⟩
  ·have:=World.alloc_heap_new (w.alloc (.deferred (some []))) (.loop { state:=.ready,pending:=none,fn,tmps,params:=ps,assign:=as,body:=bd,defers:=w.heap.size })
   rwa [World.size_alloc]at this
  ·exact(Below.heap_alloc _ _ _ (by simp)).trans (World.alloc_heap_new w _)
 ·obtain⟨r,hr⟩:=hr l0 rfl
  exact⟨_,_,_,_,run_enterLoop_inner hr fn tmps ps as bd,(Below.refl _ w).alloc (Nat.le_refl _) _,Nat.le_refl _,by simp,World.alloc_heap_new w _, .inl rfl⟩
def nonCells(w:World)(b:Nat):Prop:=¬Mem w b
structure Mid(C:Ctx)(l:Nat)(r:Loop)(q:LoopState)(T:Nat->Prop)(S:Wt)(w:World):Prop where
 os:w.os=C.w.os
 tape:w.tape=C.w.tape
 output:w.output=C.w.output
 size:C.w.heap.size<=w.heap.size
 same:∀b,b<C.w.heap.size->b≠l->(C.imm b\/(¬C.l.S.s b/\(¬C.T b\/nonCells C.w b)))->w.heap[b]?=C.w.heap[b]?
 rcd:w.heap[l]?=some (.loop { r with state:=q })
 sub:∀b,C.T b->T b
 new:∀b,T b->C.T b\/C.w.heap.size<=b
 subS:∀b,C.l.S.s b->S.s b
 newS:∀b,S.s b->C.l.S.s b\/C.w.heap.size<=b
def rndX(X:Sess)(C:Ctx)(l:Nat)(r:Loop)(pin:Nat->Option Own)(q:LoopState):Sess:=
 { P:=X.P,F:=Fence.wide.inRound l,n:=4,N:=X.N,imm0:=C.imm,lo:=C.w.heap.size,pin:=pin,l:=X.l,Keep:=fun T S k st w=>X.Keep T S k st w/\Mid C l r q T S w }
theorem rndX_ok{X:Sess}{E:Env}(hX:SessOk X E){C:Ctx}{l:Nat}{r:Loop}{pin:Nat->Option Own}{q:LoopState}(hl:C.T l)(hll:l<C.w.heap.size)(hlo:X.lo<=C.w.heap.size)
  (himm:∀b,C.imm b->X.imm0 b\/C.T b) (himm0:∀b,X.imm0 b->C.imm b) (hCT:∀b,C.T b->b<C.w.heap.size):SessOk (rndX X C l r pin q) E where
 fn:=fun _=>trivial
 wide:=.inr ⟨l,rfl⟩
 P:=hX.P
 N:=hX.N
 kgrow:=fun T S k st w w' hk hg=>⟨hX.kgrow _ _ _ _ _ _ hk.1 hg,⟨hg.os.trans hk.2.os,hg.tape.trans hk.2.tape,hg.output.trans hk.2.output,Nat.le_trans hk.2.size hg.size,
  fun b hb hne h=>(hg.block b (Nat.lt_of_lt_of_le hb hk.2.size)).trans (hk.2.same b hb hne h),(hg.block l (Nat.lt_of_lt_of_le hll hk.2.size)).trans hk.2.rcd,
  fun b hb=>.inl (hk.2.sub b hb),fun b hb=>hb.elim (hk.2.new b) fun h=>.inr (Nat.le_trans hk.2.size h.1),hk.2.subS,hk.2.newS⟩⟩
 kset:=fun T S k st w w' b hk hT hi hh hg=>by
  have hcells:=hg.cells
  have hne:b≠l:=fun e=>by
   obtain⟨o,hc,ho⟩:=hcells
   rw[e,hk.2.rcd]at hc;cases hc;cases ho
  refine⟨hX.kset _ _ _ _ _ _ b hk.1 hT (fun h=>hi (himm0 b h)) hh hg,⟨hg.os.trans hk.2.os,hg.tape.trans hk.2.tape,hg.output.trans hk.2.output,by rw[hg.size];exact hk.2.size,
   fun b' hb hne' h=>?_,(hg.other l (Ne.symm hne)).trans hk.2.rcd,hk.2.sub,hk.2.new,hk.2.subS,hk.2.newS⟩⟩
  by_cases e:b'=b
  ·subst e
   rcases h with h|⟨h1,h2⟩
   ·exact absurd h hi
   ·rcases h2 with h2|h2
    ·rcases hk.2.new b' hT with h3|h3
     ·exact absurd h3 h2
     ·omega
    ·exact absurd (hcells.same (hk.2.same b' hb hne' (.inr ⟨h1, .inr h2⟩)).symm) h2
  ·exact(hg.other b' e).trans (hk.2.same b' hb hne' h)
 kobj:=fun T S k st w b r1 r2 hk hT hlo' hh hr=>by
  have hlo2:C.w.heap.size<=b:=hlo'
  have hne:l≠b:=by omega
  exact⟨hX.kobj _ _ _ _ _ b r1 r2 hk.1 hT (Nat.le_trans hlo hlo2) hh hr,⟨hk.2.os,hk.2.tape,hk.2.output,by rw[size_putObj];exact hk.2.size,
   fun b' hb hne' h=>(World.putObj_heap_other (by omega)).trans (hk.2.same b' hb hne' h),(World.putObj_heap_other hne).trans hk.2.rcd,hk.2.sub,hk.2.new,hk.2.subS,hk.2.newS⟩⟩
 kreach:=fun T S k st w w' hk hT hr=>by
  have hr':Reach C.w.heap.size (fun b=>T b\/S.s b\/S.h b) w w':=hr
  exact⟨hX.kreach _ _ _ _ _ _ hk.1 hT (hr'.mono hlo fun _ h=>h),⟨hr.os.trans hk.2.os,hr.tape.trans hk.2.tape,hr.output.trans hk.2.output,Nat.le_trans hk.2.size hr.size,
   fun b hb hne h=>(hr'.same b (Nat.lt_of_lt_of_le hb hk.2.size) (.inl hb)).trans (hk.2.same b hb hne h),(hr'.same l (Nat.lt_of_lt_of_le hll hk.2.size) (.inl hll)).trans hk.2.rcd,hk.2.sub,hk.2.new,hk.2.subS,hk.2.newS⟩⟩
 kadd:=fun T S k st w Q hk hQ=>by
  have hQ':∀b,Q b->C.w.heap.size<=b/\b<w.heap.size/\¬S.s b:=hQ
  exact⟨hX.kadd _ _ _ _ _ Q hk.1 fun b hb=>⟨Nat.le_trans hlo (hQ' b hb).1,(hQ' b hb).2⟩,⟨hk.2.os,hk.2.tape,hk.2.output,hk.2.size,hk.2.same,hk.2.rcd,fun b hb=>.inl (hk.2.sub b hb),fun b hb=>hb.elim (hk.2.new b) fun h=>.inr (hQ' b h).1,hk.2.subS,hk.2.newS⟩⟩
 klo:=fun T S k st w hk=>hk.2.size
 kS:=fun T S k st w hk=>hX.kS _ _ _ _ _ hk.1
 kyield:=fun T S k k' w us xs Q hk hT hSQ hQ hys hxs=>by
  have hci:∀b',C.imm b'->X.imm0 b'\/T b':=fun b' h=>(himm b' h).imp id (hk.2.sub b')
  have hy:=hX.kyield T S k k' w us xs Q hk.1 hT hSQ (fun b hb=>⟨(hQ b hb).1.elim (hci b) .inr,(hQ b hb).2⟩) hys hxs
  obtain⟨fn,tmps,as,bd,q1,q2⟩:=YieldAt.wide (m:=3) hy
  refine⟨fn,tmps,as,bd,q1,q2.mono fun e w2 hr=>?_⟩
  obtain⟨b,S',e1,e2,e3⟩:=hr
  refine⟨b,S',e1,⟨e2,⟨e3.os.trans hk.2.os,e3.tape.trans hk.2.tape,e3.output.trans hk.2.output,Nat.le_trans hk.2.size e3.size,fun b' hb hne h=>?_,?_,hk.2.sub,hk.2.new,fun b' h=>e3.sub b' (hk.2.subS b' h),fun b' h=>?_⟩⟩,
   ⟨e3.os,e3.tape,e3.output,e3.size,fun b' hb h=>e3.same b' hb ?_,e3.sub,e3.new,e3.hsub,e3.hnew⟩⟩
  ·refine(e3.same b' (Nat.lt_of_lt_of_le hb hk.2.size) ?_).trans (hk.2.same b' hb hne h)
   rcases h with h|⟨h1,_⟩
   ·exact .inl (hci b' h)
   ·refine .inr fun hS=>?_
    rcases hk.2.newS b' hS with h3|h3
    ·exact h1 h3
    ·omega
  ·exact(e3.same l (Nat.lt_of_lt_of_le hll hk.2.size) (.inl (.inr (hk.2.sub l hl)))).trans hk.2.rcd
  ·rcases e3.new b' h with h3|h3
   ·exact hk.2.newS b' h3
   ·exact .inr (Nat.le_trans hk.2.size h3)
  ·rcases h with(h|h)|h
   ·exact .inl (hci b' h)
   ·exact .inl (.inr h)
   ·exact .inr h
 kdrop:=fun T S k st w Q hk hQ=>by
  have hQ':∀b,Q b->C.w.heap.size<=b:=hQ
  exact⟨hX.kdrop _ _ _ _ _ Q hk.1 fun b hb=>Nat.le_trans hlo (hQ' b hb),⟨hk.2.os,hk.2.tape,hk.2.output,hk.2.size,hk.2.same,hk.2.rcd,fun b hb=>⟨hk.2.sub b hb,fun q=>by have:=hQ' b q;have:=hCT b hb;omega⟩,fun b hb=>hk.2.new b hb.1,hk.2.subS,hk.2.newS⟩⟩
 klend:=fun T S k k' w el sz es v xs hk hT hlx hfl hown hv hlen hlb=>by
  have hci:∀b',C.imm b'->X.imm0 b'\/T b':=fun b' h=>(himm b' h).imp id (hk.2.sub b')
  have hy:=hX.klend T S k k' w el sz es v xs hk.1 hT hlx hfl hown hv hlen (fun b hb=>⟨(hlb b hb).1,fun q=>(hlb b hb).2.1 (himm0 b q),(hlb b hb).2.2⟩)
  have hmem:∀b,v.ownBlock=some b->Mem w b:=fun b hb=>by
   rcases hown.2 with⟨e,_⟩|⟨g,cap,cur,e,_,hg,_⟩
   ·rw[e]at hb;cases hb
   ·rw[e]at hb;simp[Value.ownBlock]at hb;subst hb;exact .of_cells hg
  obtain⟨fn,tmps,as,bd,q1,q2⟩:=YieldAt.wide (m:=3) hy
  refine⟨fn,tmps,as,bd,q1,q2.mono fun e w2 hr=>?_⟩
  obtain⟨b,S',xs',e1,e2,e3,e4,e5⟩:=hr
  refine⟨b,S',xs',e1,⟨e2,⟨e3.os.trans hk.2.os,e3.tape.trans hk.2.tape,e3.output.trans hk.2.output,Nat.le_trans hk.2.size e3.size,fun b' hb hne h=>?_,?_,hk.2.sub,hk.2.new,fun b' h=>e3.sub b' (hk.2.subS b' h),fun b' h=>?_⟩⟩,
   ⟨e3.os,e3.tape,e3.output,e3.size,fun b' hb hne h=>e3.same b' hb hne ?_,e3.sub,e3.new,e3.hsub,e3.hnew⟩,e4,e5⟩
  ·have hnl:v.ownBlock≠some b':=fun e=>by
    rcases h with h|⟨h1,h2|h2⟩
    ·exact(hlb b' e).2.1 h
    ·exact(hk.2.new b' (hlb b' e).1).elim h2 fun q=>by omega
    ·exact h2 ((hmem b' e).same (hk.2.same b' hb hne (.inr ⟨h1, .inr h2⟩)).symm)
   refine(e3.same b' (Nat.lt_of_lt_of_le hb hk.2.size) hnl ?_).trans (hk.2.same b' hb hne h)
   rcases h with h|⟨h1,_⟩
   ·exact .inl (hci b' h)
   ·refine .inr fun hS=>?_
    rcases hk.2.newS b' hS with h3|h3
    ·exact h1 h3
    ·omega
  ·refine(e3.same l (Nat.lt_of_lt_of_le hll hk.2.size) (fun e=>?_) (.inl (.inr (hk.2.sub l hl)))).trans hk.2.rcd
   obtain⟨o,q3,q4⟩:=hmem l e
   rw[hk.2.rcd]at q3;cases q3;cases q4
  ·rcases e3.new b' h with h3|h3
   ·exact hk.2.newS b' h3
   ·exact .inr (Nat.le_trans hk.2.size h3)
  ·rcases h with(h|h)|h
   ·exact .inl (hci b' h)
   ·exact .inl (.inr h)
   ·exact .inr h
end Go.Eng
