/- The engine of these proofs, part 2 of 4: abstract values and states, the walk of a function's body as a program on them, and why that walk is sound for the model. It speaks of any program. -/
import Derived.Test.YtnppglfoolchdaaGreatEng1
set_option linter.unusedSimpArgs false
set_option linter.unusedVariables false
set_option linter.unusedSectionVars false
namespace Go.Eng
open Go.RowKit
section
variable {X:Sess} {E:Env} {o:Oper} {C:Ctx} {s:St} {a:Act} {next:Act->World->Prop} {Q:Exit->Act->World->Prop} {k:St->Prop}
theorem fill_dense(ev:Operand->Value)(sz:Nat):∀(l:List (Nat × Operand)) (j:Nat) (cells:List Value),inOrder l j=true->(∀p∈l,(ev p.2).cells.size=sz)->cells.length=(j+l.length)*sz ->
  Instr.fill (fun i=>some (i*sz,sz)) cells.toArray (l.map fun p=>(p.1,ev p.2))=some (cells.take (j*sz)++l.flatMap fun p=>(ev p.2).cells.toList).toArray
 | [],j,cells,_,_,hl=>by
  simp only[List.length_nil,Nat.add_zero]at hl
  simp[Instr.fill,<- hl]
 |(i,x)::l,j,cells,hi,hs,hl=>by
  simp only[inOrder,Bool.and_eq_true,beq_iff_eq]at hi
  obtain⟨rfl,hi⟩:=hi
  have hx:=hs (i,x) (by simp)
  simp only at hx
  have hle:i*sz+sz<=cells.length:=by
   rw[hl];simp only[List.length_cons]
   have:(i+1)*sz<=(i+(l.length+1))*sz:=Nat.mul_le_mul_right _ (by omega)
   rw[Nat.add_mul]at this;omega
  simp only[List.map_cons,Instr.fill]
  rw[if_neg (by simp[hx];omega)]
  have h6:=foldl_set (ev x).cells.toList 0 (i*sz) cells (by simp[hx];omega)
  simp only[Array.toArray_toList,Nat.add_zero,Array.length_toList,hx]at h6
  rw[h6]
  rw[fill_dense ev sz l (i+1) _ hi (fun p hp=>hs p (by simp[hp])) (by
   simp only[List.length_append,List.length_take,List.length_drop,Array.length_toList,hx]
   simp only[List.length_cons]at hl
   have:i+1+l.length=i+(l.length+1):=by omega
   rw[this,<- hl];omega)]
  congr 2
  rw[List.take_append_of_le_length (by simp[hx,Nat.add_mul];omega)]
  rw[List.take_of_length_le (by simp[hx,Nat.add_mul];omega)]
  simp[List.append_assoc]
theorem rows_ok(h:Rel X C s a){sz:Nat}:∀ {vs:List AV} {es:List (List AV)} {z:List (Nat × Res)} {xs:List Value},rowsO s.sg sz vs=some (es,z)->RVs C vs xs ->
  (∀x∈xs,x.cells.size=sz)/\RV0s (immZ C s z) C.w es.flatten (xs.flatMap fun x=>x.cells.toList)/\(∀e∈es,e.length=sz)/\es.length=vs.length/\∀p∈z,Iced s.sg p
 | [],es,z,xs,hr,hv=>by
  simp only[rowsO,Option.some.injEq,Prod.mk.injEq]at hr
  obtain⟨rfl,rfl⟩:=hr
  simp only[RVs]at hv;subst hv
  simp[RV0s]
 |v::vs,es,z,xs,hr,hv=>by
  simp only[rowsO]at hr
  simp only[RVs]at hv
  obtain⟨x,xs',rfl,hv1,hv2⟩:=hv
  split at hr
  ·rename_i cs hc
   split at hr<;>cases hr
   rename_i z1 cs' es' z2 h1 h2 h3
   obtain⟨k1,k2,k3,k4,k5⟩:=rows_ok h h3 hv2
   have hcells:RVs C cs x.cells.toList/\cs.length=sz:=by
    cases v with
    |agg us=>
     simp only[cellsO]at hc
     split at hc<;>cases hc
     rename_i hl
     simp only[RV]at hv1
     obtain⟨ys,rfl,hv1⟩:=hv1
     exact⟨by simpa[Value.cells]using hv1,hl⟩
    |_=>
     simp only[cellsO]at hc
     split at hc<;>cases hc
     rename_i hl
     refine⟨?_,hl.2.symm⟩
     rw[cells_one (RV.one h hl.1 hv1)]
     simp[RVs,hv1]
   obtain⟨hc1,hc2⟩:=hcells
   have h4:=mapZ_ok (frz_z h 8) cs _ _ _ h2 h1 hc1
   have hl':cs'.length=sz:=by rw[<- h4.length,hc1.length,hc2]
   have m1:Pers (immZ C s z1) (immZ C s (z1++z2)) C.w C.w:=fun b hb=>⟨hb.imp id fun⟨p,hp,e⟩=>⟨p,List.mem_append.2 (.inl hp),e⟩,rfl⟩
   have m2:Pers (immZ C s z2) (immZ C s (z1++z2)) C.w C.w:=fun b hb=>⟨hb.imp id fun⟨p,hp,e⟩=>⟨p,List.mem_append.2 (.inr hp),e⟩,rfl⟩
   refine⟨fun y hy=>?_,?_,fun e he=>?_,by simp[k4],fun p hp=>?_⟩
   ·rcases List.mem_cons.1 hy with rfl|hy
    ·have:=hc1.length;simp at this;omega
    ·exact k1 y hy
   ·simp only[List.flatten_cons,List.flatMap_cons]
    exact(RV0s.mono m1 _ _ h4).append (RV0s.mono m2 _ _ k2)
   ·rcases List.mem_cons.1 he with rfl|he
    ·exact hl'
    ·exact k3 e he
   ·rcases List.mem_append.1 hp with hp|hp
    ·exact reachL_iced cs z1 h1 p hp
    ·exact k5 p hp
  ·cases hr
theorem run_bsl0{P:Program}(w:World)(t e:TypeId)(i:TypeInfo)(ht:P.underlying t=some (.slice e))(hi:P.info? e=some i) :
  (Instr.buildSlice t 0 #[]).run P w = .ok (.slice (some ⟨w.heap.size,0,none⟩) 0 0) (w.alloc (.cells #[] e)):=by
 simp[Instr.buildSlice,run_underlying ht,sizeOf,typeInfo,hi,Instr.fill,newRow]
 congr 2
 all_goals (first|rfl|(apply Array.ext';simp))
theorem bsl_ok(hX:SessOk X E)(hk:Nx X k next)(h:Rel X C s a)(hd:∀i,o.dst=some i->i<X.N){t e:TypeId}{n nm sz:Nat}{ps:Array (Nat × Operand)}{qs ne:List Opd}(hop:o.op = .buildSlice t n ps)
  (ht:X.P.underlying t=some (.slice e)) (hio:inOrder ps.toList 0=true) (hq:opds (ps.toList.map (·.2))=some qs) (hsz:szOf X.P e=some sz) (hz:(zsOf X.P e).isSome=true) (hpos:0<sz) (hsm:n*sz<=16777216)
  (hn:n=ps.toList.length) (hE:evO E o.dst (.bsl nm e sz qs ne) s k):o.wpIn X.F X.n X.P a C.w next Q:=by
 simp only[evO,evX,app]at hE
 split at hE
 ·rename_i vs hf hv
  split at hE
  ·rename_i es z hr hne
   have e1:=evl_ok h hq hv
   obtain⟨k1,k2,k3,k4,k5⟩:=rows_ok h hr e1
   have hlen:es.length=n:=by rw[k4,<- e1.length];simp[hn]
   have hI:=h.ice k5
   have hf2:(setL s.sg z).getD nm .dead = .fresh:=by
    obtain⟨hf',hi⟩:=getD_dead hf (by simp)
    have h1:=setL_get z s.sg k5 nm
    rw[hf']at h1
    have h2:(setL s.sg z).getD nm .fresh = .fresh:=by rw[h1];split<;>rfl
    have h3:nm<(setL s.sg z).length:=by rw[setL_length];exact hi
    simp only[List.getD_eq_getElem?_getD,List.getElem?_eq_getElem h3,Option.getD_some]at h2⊢
    exact h2
   have hxl:((ps.toList.map (·.2)).map a.eval).flatMap (fun x=>x.cells.toList)=ps.toList.flatMap fun p=>(a.eval p.2).cells.toList:=by
    rw[List.map_map,List.flatMap_map];rfl
   rw[hxl]at k2
   have hsize:(ps.toList.flatMap fun p=>(a.eval p.2).cells.toList).length=es.length*sz:=by
    rw[k2.length]
    have:∀(l:List (List AV)),(∀e∈l,e.length=sz)->l.flatten.length=l.length*sz:=by
     intro l;induction l with
     |nil=>intro _;simp
     |cons y l ih=>intro hy;simp only[List.flatten_cons,List.length_append,List.length_cons,hy y (by simp),ih (fun z hz=>hy z (by simp[hz])),Nat.add_mul];omega
    exact this es k3
   have hm:es.length<=maxLen:=by
    have:es.length*1<=es.length*sz:=Nat.mul_le_mul_left _ hpos
    rw[hlen]at this⊢
    simp only[maxLen];omega
   have hR:=new_row hX hI hf2 (el:=e) (by exact k2) k3 hsize hm
   have hrun:(Instr.buildSlice t n (ps.map fun p=>(p.1,a.eval p.2))).run X.P C.w = .ok (.slice (some ⟨C.w.heap.size,0,none⟩) n n) (C.w.alloc (.cells (ps.toList.flatMap fun p=>(a.eval p.2).cells.toList).toArray e)):=by
    obtain⟨i,hi,hi2⟩:∃i,X.P.info? e=some i/\i.size=sz:=by
     simp only[szOf,Option.map_eq_some_iff]at hsz;exact hsz
    obtain⟨zz,hz2⟩:∃zz,i.zero=some zz:=by
     simp only[zsOf,hi]at hz
     split at hz
     ·rename_i h0;exact⟨_,h0⟩
     ·cases hz
    subst hi2
    have hps:∀p∈ps.toList,(a.eval p.2).cells.size=i.size:=fun p hp=>k1 _ (by simp only[List.mem_map];exact⟨p.2,⟨p,hp,rfl⟩,rfl⟩)
    by_cases h0:n=0
    ·have hps0:ps = #[]:=by apply Array.ext';simpa using List.eq_nil_of_length_eq_zero (hn.symm.trans h0)
     subst hps0
     subst h0
     simpa using run_bsl0 C.w t e i ht hi
    ·refine run_buildSlice C.w t e n _ _ i zz ht hi hz2 (by omega) (by have:=Nat.mul_pos (Nat.pos_of_ne_zero h0) hpos;omega) ?_
     have:=fill_dense a.eval i.size ps.toList 0 ((List.range (n*i.size)).map (zz.cells[· % zz.cells.size]!)) hio hps (by simp[hn])
     have h3:(Array.range (n*i.size)).map (zz.cells[· % zz.cells.size]!)=((List.range (n*i.size)).map (zz.cells[· % zz.cells.size]!)).toArray:=by apply Array.ext';simp
     rw[h3,show(ps.map fun p=>(p.1,a.eval p.2)).toList=ps.toList.map fun p=>(p.1,a.eval p.2) from by simp,this]
     simp
   refine up_value hX (v:=.slice (some ⟨C.w.heap.size,0,none⟩) n n) (w':=C.w.alloc (.cells (ps.toList.flatMap fun p=>(a.eval p.2).cells.toList).toArray e)) (fun c=>by simp[hop]) ?_ ?_
   ·simp[execOp,hop,hrun]
   ·rw[hlen]at hR
    have:=hR.put (v:=.row nm) (x:=.slice (some ⟨C.w.heap.size,0,none⟩) n n) (by simp[RV,upd]) o.dst hd
    rw[setL_append]at hE
    exact hk _ _ _ this hE
  ·exact hE.elim
 ·exact hE.elim
theorem Rel.kill(h:Rel X C s a){i:Nat}{el:TypeId}{sz:Nat}{es:List (List AV)}{b:Bool}(hr:s.sg.getD i .fresh = .row b el sz es) :
  Rel X ⟨C.imm,C.T,C.rho,C.w,C.l⟩ { s with sg:=s.sg.set i .dead } a/\∀j,((s.sg.set i .dead).getD j .fresh).blk (C.rho j)=if j=i then none else(s.sg.getD j .fresh).blk (C.rho j):=by
 have hi:i<s.sg.length:=getD_lt (by rw[hr];simp)
 have hupd:upd C.rho i (C.rho i)=C.rho:=by funext j;unfold upd;split<;>simp_all
 have:=h.update i hi .dead (C.rho i) C.w C.T s.tm (fun _=>true) (fun b hb=>hb) h.T h.keep (fun o ho=>ho) (fun k o hk _=>hk) (fun _ _ _=>rfl) (fun _ _ _=>rfl) (by
  have hs:=h.sg i
  rw[hr]at hs
  obtain⟨b,v,xs,ho,hw,_⟩:=hs
  intro x hx
  rw[ho]at hx;cases hx
  rcases hw.2 with⟨e,_⟩|⟨g,cap,cur,e,_⟩<;>(show v.oneCell'=true;rw[e];rfl)) (fun k hk=>by simp[Res.blk]at hk) (fun d v hd=>⟨hd,AV.refsIn_all (fun _=>rfl) v⟩) (fun j _=>AV.refsInL_all (fun _=>rfl) _)
 rw[hupd]at this
 refine⟨this,fun j=>?_⟩
 rw[getD_set _ _ _ _ _ hi]
 split<;>rfl
theorem append_run{P:Program}(w:World)(t ty e:TypeId)(i:TypeInfo)(z:Value)(ht:P.underlying t=some (.slice e))(hi:P.info? e=some i)(hz:i.zero=some z)(hzs:z.cells.size=i.size)(hsz:0<i.size)
  (v:Value) (n:Nat) (xs:List Value) (hown:w.ownsRow 0 e i.size v n xs) (u:Value) (m:Nat) (news:List Value) (hl:news.length=m*i.size) (h1:∀u∈news,u.oneCell'=true)
  (hu:(u = .slice none 0 0/\m=0)\/∃ad c,u = .slice (some ad) m c/\∀j x,news[j]?=some x->w.cell? (ad.add j)=some x) (hbytes:(n+m)*i.bytes<=140737488355328) (h63:n+m<=maxLen) :
  ∃v' w',(Builtin.append_ #[t,t] ty #[v,u]).run P w = .ok v' w'/\w'.ownsRow 0 e i.size v' (n+m) (xs++news) /\
   ((w'=w/\v'=v)\/(∃g,v.ownBlock=some g/\v'.ownBlock=some g/\OneB g w w')\/(Below w.heap.size w w'/\∀b,v'.ownBlock=some b->w.heap.size<=b/\b<w'.heap.size)):=by
 rcases hu with⟨rfl,rfl⟩|⟨ad,c,rfl,hnews⟩
 ·have hn:news=[]:=List.eq_nil_of_length_eq_zero (by simpa using hl)
  subst hn
  refine⟨v,w,?_,by simpa using hown, .inl ⟨rfl,rfl⟩⟩
  rcases hown.2 with⟨rfl,rfl⟩|⟨g,cap,cur,rfl,_,hg,hnc,_⟩
  ·simp[Builtin.append_,run_underlying ht,sizeOf,typeInfo,hi,Builtin.lenOf,Builtin.firstCells,Sem.run_pure]
  ·simp[Builtin.append_,run_underlying ht,sizeOf,typeInfo,hi,Builtin.lenOf,Builtin.firstCells,storeCells,hnc,Sem.run_pure]
 ·obtain⟨v',w',hr,ho,hg,_⟩:=run_append_own (P:=P) w 0 t ty e i z i.size i.bytes ht hi hz rfl rfl hzs hsz v n xs hown ad m c news hl hnews h1 h63 hbytes (Nat.zero_le _)
  refine⟨v',w',hr,ho,?_⟩
  have hlt:∀b,v'.ownBlock=some b->b<w'.heap.size:=fun b hb=>(ho.lt b hb).2
  rcases hown.2 with⟨rfl,rfl⟩|⟨g,cap,cur,rfl,_,hgg,hnc,hcm,hcs,htake⟩
  ·have hb:Below w.heap.size w w':=⟨hg.os,hg.tape,hg.output,hg.size,fun k hk=>hg.block k hk (by simp[Value.ownBlock])⟩
   by_cases hm:m=0
   ·refine .inr (.inr ⟨hb,fun b hb'=>?_⟩)
    subst hm
    rcases ho.2 with⟨rfl,_⟩|⟨g',cap',cur',e',_⟩
    ·cases hb'
    ·have hn:news=[]:=List.eq_nil_of_length_eq_zero (by simpa using hl)
     subst hn
     have:(Builtin.append_ #[t,t] ty #[.slice none 0 0, .slice (some ad) 0 c]).run P w = .ok (.slice none 0 0) w:=by
      simp[Builtin.append_,run_underlying ht,sizeOf,typeInfo,hi,Builtin.lenOf,Builtin.firstCells,loadCells,loadCellsFrom,Sem.run_pure]
     rw[hr]at this
     injection this with e2 _
     rw[e2]at hb';cases hb'
   ·have hr2:=run_append_nil (P:=P) w t ty e i z ht hi hz ad m c news hl hnews (by omega) (by simp only[maxLen]at h63;omega) (by have:=hbytes;simp only[Nat.zero_add]at this;omega)
    rw[hr]at hr2
    injection hr2 with e2 _
    exact .inr (.inr ⟨hb,fun b hb'=>⟨by rw[e2]at hb';simp[Value.ownBlock]at hb';omega,hlt b hb'⟩⟩)
  ·by_cases hroom:n+m<=cap
   ·have hfit:n*i.size+news.length<=cur.size:=by rw[hl,hcs,<- Nat.add_mul];exact Nat.mul_le_mul_right _ hroom
    have hr2:=run_append_room (P:=P) w t ty e i ht hi g n cap cur hgg ad m c news hl hnews h1 hroom hfit
    rw[hr]at hr2
    injection hr2 with e2 e3
    exact .inr (.inl ⟨g,rfl,by rw[e2];rfl,by rw[e3];exact⟨rfl,rfl,rfl,by simp[World.setRow],fun k e=>setRow_other w g k _ e, .of_cells hgg, .of_cells (setRow_heap w g _ _ _ _ hgg)⟩⟩)
   ·have holds:∀j u,xs[j]?=some u->w.cell? ((⟨g,0,none⟩:Addr).add j)=some u:=hown.cells (g:=g) rfl
    have hr2:=run_append_grow (P:=P) w t ty e i z ht hi hz ⟨g,0,none⟩ n cap xs hown.1 holds ad m c news hl hnews (by omega) (by simp only[maxLen]at h63;omega) (growslice_fits (by omega) hbytes)
    rw[hr]at hr2
    injection hr2 with e2 e3
    refine .inr (.inr ⟨⟨hg.os,hg.tape,hg.output,hg.size,fun k hk=>?_⟩,fun b hb'=>⟨by rw[e2]at hb';simp[Value.ownBlock]at hb';omega,hlt b hb'⟩⟩)
    rw[e3]
    exact heap_alloc_old w.drew _ hk
theorem append_none{P:Program}(w:World)(t ty e:TypeId)(i:TypeInfo)(ht:P.underlying t=some (.slice e))(hi:P.info? e=some i)
  (v:Value) (n:Nat) (hv:(v = .slice none 0 0/\n=0)\/∃ad,v = .slice (some ad) n n) (u:Value) (hu:u = .slice none 0 0\/∃ad c,u = .slice (some ad) 0 c):(Builtin.append_ #[t,t] ty #[v,u]).run P w = .ok v w:=by
 rcases hv with⟨rfl,rfl⟩|⟨ad,rfl⟩<;>rcases hu with rfl|⟨ad',c,rfl⟩<;>
  simp[Builtin.append_,run_underlying ht,sizeOf,typeInfo,hi,Builtin.lenOf,Builtin.firstCells,loadCells,loadCellsFrom,storeCells,Sem.run_pure]
theorem append_tight{P:Program}(w:World)(t ty e:TypeId)(i:TypeInfo)(z:Value)(ht:P.underlying t=some (.slice e))(hi:P.info? e=some i)(hz:i.zero=some z)(hzs:z.cells.size=i.size)(hsz:0<i.size)
  (v:Value) (n:Nat) (xs:List Value) (hx:xs.length=n*i.size) (hv:(v = .slice none 0 0/\n=0)\/∃ad,v = .slice (some ad) n n/\∀j x,xs[j]?=some x->w.cell? (ad.add j)=some x)
  (u:Value) (m:Nat) (news:List Value) (hl:news.length=m*i.size) (h1:∀u∈news,u.oneCell'=true) (hm:0<m)
  (hu:(u = .slice none 0 0/\m=0)\/∃ad c,u = .slice (some ad) m c/\∀j x,news[j]?=some x->w.cell? (ad.add j)=some x) (hbytes:(n+m)*i.bytes<=140737488355328) (h63:n+m<=maxLen) :
  ∃v' w',(Builtin.append_ #[t,t] ty #[v,u]).run P w = .ok v' w'/\w'.ownsRow 0 e i.size v' (n+m) (xs++news) /\
   (Below w.heap.size w w'/\∀b,v'.ownBlock=some b->w.heap.size<=b/\b<w'.heap.size):=by
 rcases hv with⟨rfl,rfl⟩|⟨ad,rfl,hold⟩
 ·have hxs:xs=[]:=List.eq_nil_of_length_eq_zero (by simpa using hx)
  subst hxs
  obtain⟨v',w',h2,h3,h4⟩:=append_run (P:=P) w t ty e i z ht hi hz hzs hsz (.slice none 0 0) 0 [] (World.ownsRow_nil _ _ _ _) u m news hl h1 hu hbytes h63
  refine⟨v',w',h2,h3,?_⟩
  rcases h4 with⟨rfl,rfl⟩|⟨g,hg,_⟩|h4
  ·rcases h3.2 with⟨_,e⟩|⟨g,cap,cur,e,_⟩
   ·omega
   ·cases e
  ·cases hg
  ·exact h4
 ·rcases hu with⟨_,rfl⟩|⟨ad',c,rfl,hnews⟩
  ·omega
  have hr2:=run_append_grow (P:=P) w t ty e i z ht hi hz ad n n xs hx hold ad' m c news hl hnews (by omega) (by simp only[maxLen]at h63;omega) (growslice_fits (by omega) hbytes)
  have hge:=grownCap_ge w (n+m) n e
  have hcm:grownCap w (n+m) n e<=maxLen:=grownCap_le_maxLen w (n+m) n e h63
  have hlen:(xs++news).length=(n+m)*i.size:=by rw[List.length_append,hx,hl,Nat.add_mul]
  refine⟨_,_,hr2,⟨hlen, .inr ⟨w.heap.size,_,_,rfl,Nat.zero_le _,heap_alloc_new w.drew _,hge,hcm,?_,?_⟩⟩,⟨rfl,rfl,rfl,by simp,fun k hk=>heap_alloc_old w.drew _ hk⟩,fun b hb=>?_⟩
  ·simp only[Array.size_append,List.size_toArray,size_zeroCells,hzs,hx,hl,<- Nat.add_mul]
   congr 1
   omega
  ·simp only[Array.toList_append,List.append_assoc]
   rw[<- List.append_assoc,<- hlen]
   exact List.take_left
  ·simp[Value.ownBlock]at hb
   subst hb
   exact⟨Nat.le_refl _,by simp⟩
theorem tight_src{sz:Nat}{v:Value}{es:List (List AV)}(hv:RV C (.tsl sz es) v) :
  ∃xs,(∀e∈es,e.length=sz)/\RV0s C.imm C.w es.flatten xs/\((v = .slice none 0 0/\es.length=0)\/∃ad,v = .slice (some ad) es.length es.length/\∀j u,xs[j]?=some u->C.w.cell? (ad.add j)=some u):=by
 simp only[RV,RV0]at hv
 rcases hv with⟨⟨ad0,hv⟩,rfl⟩|⟨b,off,hv,_,hr⟩
 ·cases ad0 with
  |none=>exact⟨[],by simp,by simp[RV0s], .inl ⟨hv,rfl⟩⟩
  |some ad=>exact⟨[],by simp,by simp[RV0s], .inr ⟨ad,hv,fun j u hu=>by simp at hu⟩⟩
 ·have hflat:∀ {es:List (List AV)} {off:Nat},RV0r C.imm C.w b sz off es->RV0c C.imm C.w b off es.flatten:=by
   intro es
   induction es with
   |nil=>intro off _;simp[RV0c]
   |cons e es ih=>
    intro off hr
    simp only[RV0r]at hr
    obtain⟨h1,h2,h3⟩:=hr
    have h4:=ih h3
    rw[<- h1]at h4
    simp only[List.flatten_cons]
    exact RV0c.join h2 h4
  obtain⟨vs,h1,h2⟩:=(hflat hr).list
  refine⟨vs,fun e he=>?_,h1, .inr ⟨_,hv,fun j u hu=>?_⟩⟩
  ·obtain⟨i,hi1,hi2⟩:=List.getElem_of_mem he
   exact hr.len (i:=i) (e:=e) (by rw[List.getElem?_eq_getElem hi1,hi2])
  rw[add_off];exact h2 j u hu
theorem add_src(h:Rel X C s a){sz:Nat}{v:AV}{x:Value}{es:List (List AV)}(hv:RV C v x)(hes:addO s.sg sz v=some es)(hlen:∀e∈es,e.length=sz) :
  ∃news,RV0s C.imm C.w es.flatten news/\((x = .slice none 0 0/\es.length=0)\/∃ad c,x = .slice (some ad) es.length c/\∀j u,news[j]?=some u->C.w.cell? (ad.add j)=some u):=by
 cases v with
 |nils=>
  simp only[addO,Option.some.injEq]at hes;subst hes
  simp only[RV]at hv
  exact⟨[],by simp[RV0s], .inl ⟨hv,rfl⟩⟩
 |isl es'=>
  simp only[addO,Option.some.injEq]at hes;subst hes
  simp only[RV,RV0]at hv
  rcases hv with⟨⟨ad0,hv⟩,rfl⟩|⟨sz',b,off,cap,hv,_,_,hr⟩
  ·cases ad0 with
   |none=>exact⟨[],by simp[RV0s], .inl ⟨hv,rfl⟩⟩
   |some ad=>exact⟨[],by simp[RV0s], .inr ⟨ad,0,hv,fun j u hu=>by simp at hu⟩⟩
  ·have hflat:∀ {es:List (List AV)} {off:Nat},RV0r C.imm C.w b sz' off es->RV0c C.imm C.w b off es.flatten:=by
    intro es
    induction es with
    |nil=>intro off _;simp[RV0c]
    |cons e es ih=>
     intro off hr
     simp only[RV0r]at hr
     obtain⟨h1,h2,h3⟩:=hr
     have h4:=ih h3
     rw[<- h1]at h4
     simp only[List.flatten_cons]
     exact RV0c.join h2 h4
   obtain⟨vs,h1,h2⟩:=(hflat hr).list
   refine⟨vs,h1, .inr ⟨_,cap,hv,fun j u hu=>?_⟩⟩
   rw[add_off];exact h2 j u hu
 |row i=>
  simp only[addO]at hes
  split at hes
  ·rename_i ice el sz' es' hr
   split at hes<;>cases hes
   rename_i hsz
   subst hsz
   simp only[RV]at hv
   obtain⟨ow,ho,rfl⟩:=hv
   have hs:=h.sg i
   rw[hr,ho]at hs
   obtain⟨b,v,xs,e1,h2,h3,h4,h5⟩:=hs
   cases e1
   refine⟨xs,h3,?_⟩
   rcases h2.2 with⟨e,h0⟩|⟨g,cap,cur,e,_,hg,_⟩
   ·exact .inl ⟨e,h0⟩
   ·refine .inr ⟨⟨g,0,none⟩,cap,e,h2.cells (by rw[e];rfl)⟩
  ·cases hes
 |lit y=>
  cases y with
  |slice ad n c=>
   cases ad with
   |none=>simp[addO]at hes
   |some ad=>
    cases n with
    |zero=>
     simp only[addO,Option.some.injEq]at hes;subst hes
     simp only[RV]at hv
     exact⟨[],by simp[RV0s], .inr ⟨ad,c,hv,fun j u hu=>by simp at hu⟩⟩
    |succ n=>simp[addO]at hes
  |_=>simp[addO]at hes
 |_=>simp[addO]at hes
theorem RV0s.ones(h:Rel X C s a):∀ {vs:List AV} {xs:List Value},vs.all AV.one=true->RV0s C.imm C.w vs xs->∀x∈xs,x.oneCell'=true:=fun h1 hv=>RVs.ones h h1 (RV0s.rv _ _ hv)
theorem src_ok(h:Rel X C s a){el:TypeId}{sz:Nat}{u:AV}{v:Value}{es:List (List AV)}{z:List (Nat × Res)}(hnt:∀sz' ts,u ≠ .tsl sz' ts)(hs:srcO s.sg el sz u=some (es,z))(hv:RV C u v){nm:Nat}(hf:s.sg.getD nm .dead = .fresh) :
  Rel X C { s with sg:=setL s.sg z } a/\(setL s.sg z).getD nm .dead = .fresh/\(∃xs,C.w.ownsRow 0 el sz v es.length xs/\RV0s C.imm C.w es.flatten xs)/\(∀e∈es,e.length=sz) /\
   ∀g,v.ownBlock=some g->C.T g/\¬C.imm g/\(∀j,((setL s.sg z).getD j .fresh).blk (C.rho j)≠some g)/\∃c el fz,C.w.heap[g]?=some (.cells c el fz):=by
 cases u with
 |nils=>
  simp only[srcO,Option.some.injEq,Prod.mk.injEq]at hs
  obtain⟨rfl,rfl⟩:=hs
  simp only[RV]at hv;subst hv
  exact⟨h,hf,⟨[],World.ownsRow_nil _ _ _ _,by simp[RV0s]⟩,by simp,fun g hg=>by cases hg⟩
 |row i=>
  simp only[srcO]at hs
  split at hs
  ·rename_i el' sz' es' hr
   split at hs<;>cases hs
   rename_i hh
   obtain⟨rfl,rfl⟩:=hh
   simp only[RV]at hv
   obtain⟨ow,ho,rfl⟩:=hv
   have hR:=h.sg i
   rw[hr,ho]at hR
   obtain⟨b,v,xs,e1,h2,h3,h4,h5⟩:=hR
   cases e1
   obtain⟨k1,k2⟩:=h.kill hr
   have hni:nm≠i:=fun e=>by
    subst e
    obtain⟨hf',_⟩:=getD_dead hf (by simp)
    rw[hr]at hf';cases hf'
   refine⟨k1,?_,⟨xs,h2,h3⟩,h4,fun g hg=>?_⟩
   ·simp only[setL]
    have hi:i<s.sg.length:=getD_lt (by rw[hr];simp)
    rw[getD_set _ _ _ _ _ hi,if_neg hni]
    exact hf
   ·obtain⟨e1,k3,_,k4⟩:=h5 g hg
    subst e1
    refine⟨k3,k4 rfl,fun j hj=>?_,?_⟩
    ·simp only[setL]at hj
     rw[k2]at hj
     split at hj
     ·cases hj
     ·rename_i hne
      exact hne (h.dis j i g hj (by rw[hr,ho];exact hg))
    ·rcases h2.2 with⟨e,_⟩|⟨g',cap,cur,e,_,hgg,_⟩
     ·rw[e]at hg;cases hg
     ·rw[e]at hg;simp[Value.ownBlock]at hg;subst hg;exact⟨_,_,_,hgg⟩
  ·cases hs
 |tsl sz' ts=>exact absurd rfl (hnt sz' ts)
 |cut i sz' lo n=>
  simp only[srcO]at hs
  split at hs
  ·rename_i el' sz1 es' hr
   split at hs<;>cases hs
   rename_i hh
   obtain⟨⟨rfl,rfl⟩,rfl,rfl⟩:=hh
   simp only[RV]at hv
   obtain⟨ow,ho,hc⟩:=hv
   have hR:=h.sg i
   rw[hr,ho]at hR
   obtain⟨b,v0,xs,e1,h2,h3,h4,h5⟩:=hR
   cases e1
   obtain⟨a0,len,cap,hv0,hc1,hc2,rfl⟩:=hc
   simp only at hv0
   subst hv0
   obtain⟨k1,k2⟩:=h.kill hr
   have hni:nm≠i:=fun e=>by
    subst e
    obtain⟨hf',_⟩:=getD_dead hf (by simp)
    rw[hr]at hf';cases hf'
   have hlen:len=es'.length:=by
    rcases h2.2 with⟨e,e0⟩|⟨g,cap',cur,e,_⟩<;>cases e
    ·exact e0.symm
    ·rfl
   have hobk:∀g,(Value.slice (if cap=0 then a0 else a0.map (·.add (0*sz'))) n (cap-0)).ownBlock=some g->(Value.slice a0 len cap).ownBlock=some g:=fun g hg=>by
    cases a0 with
    |none=>split at hg<;>cases hg
    |some a0=>split at hg<;>simpa[Value.ownBlock,Addr.add]using hg
   have htk:∀(l:List (List AV)),(∀e∈l,e.length=sz')->∀m,m<=l.length->(l.take m).flatten=l.flatten.take (m*sz'):=by
    intro l
    induction l with
    |nil=>intro _ m hm;simp at hm;subst hm;simp
    |cons y l ih=>
     intro hy m hm
     cases m with
     |zero=>simp
     |succ m=>
      have e1:=hy y (by simp)
      simp only[List.take_succ_cons,List.flatten_cons]
      rw[ih (fun z hz=>hy z (by simp[hz])) m (by simpa using hm),List.take_append,List.take_of_length_le (l:=y) (by rw[e1,Nat.add_mul];omega),e1,Nat.add_mul,Nat.one_mul,Nat.add_sub_cancel]
   have hn:n<=es'.length:=by omega
   have hl2:(es'.take n).length=n:=by simp;omega
   have hxl:=h2.1
   have hle:n*sz'<=xs.length:=by rw[hxl];exact Nat.mul_le_mul_right _ hn
   refine⟨k1,?_,⟨xs.take (n*sz'),?_,?_⟩,fun e he=>h4 e (List.mem_of_mem_take he),fun g hg=>?_⟩
   ·simp only[setL]
    have hi:i<s.sg.length:=getD_lt (by rw[hr];simp)
    rw[getD_set _ _ _ _ _ hi,if_neg hni]
    exact hf
   ·refine⟨by rw[hl2,List.length_take];omega,?_⟩
    rcases h2.2 with⟨e,e0⟩|⟨g,cap',cur,e,hb0,hg,hm1,hm2,hm3,hm4⟩
    ·cases e
     have:n=0:=by omega
     subst this
     exact .inl ⟨by simp,by simp⟩
    ·cases e
     refine .inr ⟨g,cap,cur,?_,hb0,hg,by rw[hl2];omega,hm2,hm3,?_⟩
     ·rw[hl2];split<;>simp[Addr.add]
     ·rw[hl2,<- hm4,List.take_take,Nat.min_eq_left (Nat.mul_le_mul_right _ hn)]
   ·rw[htk es' h4 n hn]
    exact h3.take _
   ·have hg:=hobk g hg
    obtain⟨e1,k3,_,k4⟩:=h5 g hg
    subst e1
    refine⟨k3,k4 rfl,fun j hj=>?_,?_⟩
    ·simp only[setL]at hj
     rw[k2]at hj
     split at hj
     ·cases hj
     ·rename_i hne
      exact hne (h.dis j i g hj (by rw[hr,ho];exact hg))
    ·rcases h2.2 with⟨e,_⟩|⟨g',cap,cur,e,_,hgg,_⟩
     ·rw[e]at hg;cases hg
     ·rw[e]at hg;simp[Value.ownBlock]at hg;subst hg;exact⟨_,_,_,hgg⟩
  ·cases hs
 |_=>simp[srcO]at hs
theorem apd_ok(hX:SessOk X E)(hk:Nx X k next)(h:Rel X C s a)(hd:∀i,o.dst=some i->i<X.N){c:Call}{x y:Operand}{t e:TypeId}{i:TypeInfo}{nm:Nat}{p q:Opd}{ne:List Opd}(hop:o.op = .call c)(hc:c.callee = .builtin .append)
  (ha:c.args.toList=[x,y]) (hat:c.argTypes.toList=[t,t]) (ht:X.P.underlying t=some (.slice e)) (hi:X.P.info? e=some i) (hp:opd x=some p) (hq:opd y=some q) (hs0:0<i.size) (hb0:0<i.bytes)
  (hz:(zsOf X.P e).any (fun zs=>zs.length==i.size)=true) (hE:evO E o.dst (.apd nm e i.size i.bytes p q ne) s k):o.wpIn X.F X.n X.P a C.w next Q:=by
 have ha':c.args = #[x,y]:=by apply Array.ext';simpa using ha
 have hat':c.argTypes = #[t,t]:=by apply Array.ext';simpa using hat
 obtain⟨zz,hz1,hz2⟩:∃zz,i.zero=some zz/\zz.cells.size=i.size:=by
  simp only[zsOf,hi]at hz
  split at hz
  ·rename_i zs h0
   exact⟨zs,h0,by simpa using hz⟩
  ·cases hz
 simp only[evO,evX,app]at hE
 split at hE
 ·rename_i u v hf hu hv
  have e1:=ev_ok h hp hu
  have e2:=ev_ok h hq hv
  split at hE
  ·rename_i es z es' hsrc hadd
   split at hE
   ·rename_i hcond
    obtain⟨hlen,hby,hE⟩:=hE
    obtain⟨news,hn1,hn2⟩:=add_src h e2 hadd (fun e he=>(hlen e he).1)
    by_cases htsl:∃sz' ts,u = .tsl sz' ts
    ·obtain⟨sz',ts,rfl⟩:=htsl
     simp only[srcO]at hsrc
     split at hsrc<;>cases hsrc
     rename_i hla
     subst hla
     obtain⟨xs,hes,hxs,hv2⟩:=tight_src e1
     cases hN:apdN (.tsl i.size es) es' with
     |true=>
      have h0:es'=[]:=by
       cases es' with
       |nil=>rfl
       |cons _ _=>simp[apdN]at hN
      subst h0
      rw[hN]at hE
      simp only[app]at hE
      have hrun:=append_none (P:=X.P) C.w t o.type e i ht hi (a.eval x) es.length (hv2.imp id fun⟨ad,h,_⟩=>⟨ad,h⟩) (a.eval y) (by
       rcases hn2 with⟨h1,_⟩|⟨ad,c,h1,_⟩
       ·exact .inl h1
       ·exact .inr ⟨ad,c,h1⟩)
      refine up_value hX (v:=a.eval x) (w':=C.w) (fun c=>by simp[hop]) ?_ ?_
      ·simp[execOp,hop,hc,ha',hat',resolve,invoke,builtin,hrun]
      ·exact hk _ _ _ (h.put e1 o.dst hd) hE
     |false=>
     rw[hN]at hE
     simp only[app]at hE
     have hpos:0<es'.length:=by
      cases es' with
      |nil=>simp[apdN]at hN
      |cons _ _=>simp
     have flen:∀(l:List (List AV)),(∀e∈l,e.length=i.size)->l.flatten.length=l.length*i.size:=by
      intro l;induction l with
      |nil=>intro _;simp
      |cons y l ih=>intro hy;simp only[List.flatten_cons,List.length_append,List.length_cons,hy y (by simp),ih (fun z hz=>hy z (by simp[hz])),Nat.add_mul];omega
     have hnl:news.length=es'.length*i.size:=by rw[hn1.length];exact flen es' (fun e he=>(hlen e he).1)
     have hxl:xs.length=es.length*i.size:=by rw[hxs.length];exact flen es hes
     have hone:∀u∈news,u.oneCell'=true:=RV0s.ones h (by
      rw[List.all_eq_true]
      intro v hv
      obtain⟨l,hl1,hl2⟩:=List.mem_flatten.1 hv
      exact List.all_eq_true.1 (hlen l hl1).2 v hl2) hn1
     have h63:es.length+es'.length<=maxLen:=by
      have:(es.length+es'.length)*1<=(es.length+es'.length)*i.bytes:=Nat.mul_le_mul_left _ hb0
      simp only[maxLen];omega
     obtain⟨v',w',hrun,hown',hB,hn⟩:=append_tight (P:=X.P) C.w t o.type e i zz ht hi hz1 hz2 hs0 (a.eval x) es.length xs hxl hv2 (a.eval y) es'.length news hnl hone hpos (by
      rcases hn2 with⟨h1,h2⟩|h2
      ·exact .inl ⟨h1,h2⟩
      ·exact .inr h2) hby h63
     have hlen':∀e∈es++es',e.length=i.size:=fun e he=>(List.mem_append.1 he).elim (hes e) (fun h=>(hlen e h).1)
     have hfl:RV0s C.imm C.w (es++es').flatten (xs++news):=by rw[List.flatten_append];exact hxs.append hn1
     have hown2:w'.ownsRow 0 e i.size v' (es++es').length (xs++news):=by rw[List.length_append];exact hown'
     have hN:=h.name hf (T':=newB C.w w' C.T) (fun b hb=>.inl hb) (fun b hb=>by
      rcases hb with hb|hb
      ·exact Nat.lt_of_lt_of_le (h.T b hb) hB.size
      ·exact hb.2) (hX.kgrow _ _ _ _ _ _ h.keep hB) (fun k hk _=>hB.block k hk) hown2 hfl hlen' (fun b hb=>by
      obtain⟨b1,b2⟩:=hn b hb
      refine⟨.inr ⟨b1,b2⟩,fun hi=>?_,fun j hj=>?_⟩
      ·have:=(h.imm _ hi).2.lt;omega
      ·have:=(Res.blk_lt (h.sg j) hj).2.1
       omega)
     refine up_value hX (v:=v') (w':=w') (fun c=>by simp[hop]) ?_ ?_
     ·simp[execOp,hop,hc,ha',hat',resolve,invoke,builtin,hrun]
     ·have:=hN.put (v:=.row nm) (x:=v') (by simp[RV,upd]) o.dst hd
      exact hk _ _ _ this hE
    have hN:apdN u es'=false:=by
     cases u with
     |tsl sz' ts=>exact absurd ⟨sz',ts,rfl⟩ htsl
     |_=>rfl
    rw[hN]at hE
    simp only[app]at hE
    obtain⟨hR,hf2,⟨xs,hown,hxs⟩,hes,hg⟩:=src_ok h (fun sz' ts e=>htsl ⟨sz',ts,e⟩) hsrc e1 hf
    have flen:∀(l:List (List AV)),(∀e∈l,e.length=i.size)->l.flatten.length=l.length*i.size:=by
     intro l;induction l with
     |nil=>intro _;simp
     |cons y l ih=>intro hy;simp only[List.flatten_cons,List.length_append,List.length_cons,hy y (by simp),ih (fun z hz=>hy z (by simp[hz])),Nat.add_mul];omega
    have hnl:news.length=es'.length*i.size:=by rw[hn1.length];exact flen es' (fun e he=>(hlen e he).1)
    have hone:∀u∈news,u.oneCell'=true:=RV0s.ones h (by
     rw[List.all_eq_true]
     intro v hv
     obtain⟨l,hl1,hl2⟩:=List.mem_flatten.1 hv
     exact List.all_eq_true.1 (hlen l hl1).2 v hl2) hn1
    have h63:es.length+es'.length<=maxLen:=by
     have:(es.length+es'.length)*1<=(es.length+es'.length)*i.bytes:=Nat.mul_le_mul_left _ hb0
     simp only[maxLen];omega
    obtain⟨v',w',hrun,hown',hcase⟩:=append_run (P:=X.P) C.w t o.type e i zz ht hi hz1 hz2 hs0 (a.eval x) es.length xs hown (a.eval y) es'.length news hnl hone (by
     rcases hn2 with⟨h1,h2⟩|h2
     ·exact .inl ⟨h1,h2⟩
     ·exact .inr h2) hby h63
    have hlen':∀e∈es++es',e.length=i.size:=fun e he=>(List.mem_append.1 he).elim (hes e) (fun h=>(hlen e h).1)
    have hfl:RV0s C.imm C.w (es++es').flatten (xs++news):=by rw[List.flatten_append];exact hxs.append hn1
    have hown2:w'.ownsRow 0 e i.size v' (es++es').length (xs++news):=by rw[List.length_append];exact hown'
    have fin:∀T':Nat->Prop,(∀b,C.T b->T' b)->(∀b,T' b->b<w'.heap.size)->X.Keep T' C.l.S s.gh.k s.gh.st w' ->
      (∀k,k<C.w.heap.size->(C.imm k\/(∃j,((setL s.sg z).getD j .fresh).blk (C.rho j)=some k)\/∃o,C.w.heap[k]?=some o/\isBook o=true)->w'.heap[k]?=C.w.heap[k]?) ->
      (∀b,v'.ownBlock=some b->T' b/\¬C.imm b/\∀j,((setL s.sg z).getD j .fresh).blk (C.rho j)≠some b)->o.wpIn X.F X.n X.P a C.w next Q:=fun T' t1 t2 t3 t4 t5=>by
     have hN:=hR.name hf2 t1 t2 t3 t4 hown2 hfl hlen' t5
     refine up_value hX (v:=v') (w':=w') (fun c=>by simp[hop]) ?_ ?_
     ·simp[execOp,hop,hc,ha',hat',resolve,invoke,builtin,hrun]
     ·have:=hN.put (v:=.row nm) (x:=v') (by simp[RV,upd]) o.dst hd
      rw[setL_append]at hE
      exact hk _ _ _ this hE
    rcases hcase with⟨rfl,rfl⟩|⟨g,hg1,hg2,hO⟩|⟨hB,hn⟩
    ·exact fin C.T (fun _ h=>h) h.T h.keep (fun _ _ _=>rfl) (fun b hb=>⟨(hg b hb).1,(hg b hb).2.1,(hg b hb).2.2.1⟩)
    ·obtain⟨g1,g2,g3,g4⟩:=hg g hg1
     refine fin C.T (fun _ h=>h) (fun b hb=>by rw[hO.size];exact h.T b hb) (hX.kset _ _ _ _ _ _ g h.keep g1 (fun hq=>g2 (h.imm0 _ hq)) (fun hq=>g2 (h.pin.2.2 _ hq)) hO) (fun k _ hk=>hO.other k fun e=>?_) (fun b hb=>?_)
     ·subst e
      rcases hk with hk|⟨j,hk⟩|⟨o,hk,ho⟩
      ·exact g2 hk
      ·exact g3 j hk
      ·obtain⟨c,el,fz,hh⟩:=g4
       rw[hh]at hk;cases hk;cases ho
     ·rw[hg2]at hb;cases hb;exact⟨g1,g2,g3⟩
    ·refine fin (newB C.w w' C.T) (fun b hb=>.inl hb) (fun b hb=>?_) (hX.kgrow _ _ _ _ _ _ h.keep hB) (fun k hk _=>hB.block k hk) (fun b hb=>?_)
     ·rcases hb with hb|hb
      ·exact Nat.lt_of_lt_of_le (h.T b hb) hB.size
      ·exact hb.2
     ·obtain⟨b1,b2⟩:=hn b hb
      refine⟨.inr ⟨b1,b2⟩,fun hi=>?_,fun j hj=>?_⟩
      ·have:=(h.imm _ hi).2.lt;omega
      ·have:=(Res.blk_lt (hR.sg j) hj).2.1
       omega
   ·exact hE.elim
  ·exact hE.elim
 ·exact hE.elim
theorem made_list(z:Array Value)(hz:0<z.size):∀n,((List.range (n*z.size)).map fun j=>z[j%z.size]!)=(List.replicate n z.toList).flatten
 |0=>by simp
 |n+1=>by
  rw[Nat.add_mul,Nat.one_mul,List.range_add,List.map_append,made_list z hz n,List.replicate_succ',List.flatten_append]
  congr 1
  simp only[List.map_map,List.flatten_cons,List.flatten_nil,List.append_nil]
  refine List.ext_getElem (by simp) fun j h1 h2=>?_
  simp at h1
  simp only[List.getElem_map,List.getElem_range,Function.comp,Nat.mul_add_mod',Array.getElem_toList]
  rw[Nat.mod_eq_of_lt h1,getElem!_pos z j h1]
theorem zokL_rv0{C:Ctx}:∀(as:List AV) (vs:List Value),zokL as=true->RVs C as vs->RV0s C.imm C.w as vs
 | [],vs,_,h=>by simpa only[RVs,RV0s]using h
 |a::as,vs,ho,h=>by
  simp only[RVs,RV0s]at h⊢
  obtain⟨x,xs,rfl,h1,h2⟩:=h
  cases a<;>simp only[zokL]at ho<;>first|cases ho|exact⟨x,xs,rfl,by simpa only[RV,RV0]using h1,zokL_rv0 as xs ho h2⟩
theorem mks_ok(hX:SessOk X E)(hk:Nx X k next)(h:Rel X C s a)(hd:∀i,o.dst=some i->i<X.N){t e:TypeId}{l c:Operand}{nm:Nat}{i:TypeInfo}{zs:List AV}{p q:Opd}(hop:o.op = .makeSlice t l c)(ht:X.P.underlying t=some (.slice e))(hi:X.P.info? e=some i)(hz:zsOf X.P e=some zs)
  (hp:opd l=some p) (hq:opd c=some q) (hlen:zs.length=i.size) (hs0:0<i.size) (hb0:0<i.bytes) (hpu:zokL zs=true) (hE:evO E o.dst (.mks nm e i.size i.bytes zs p q) s k):o.wpIn X.F X.n X.P a C.w next Q:=by
 simp only[evO,evX,app]at hE
 split at hE
 ·rename_i kl n kc m hf hn hm
  obtain⟨e1,e2,e3,hE⟩:=hE
  have v1:=ev_ok h hp hn
  have v2:=ev_ok h hq hm
  simp only[RV]at v1 v2
  obtain⟨z,hzero,h2⟩:∃z:Value,i.zero=some z/\RVs C zs (z.cells.toList):=by
   simp only[zsOf,hi]at hz
   split at hz
   ·rename_i z h2
    cases hz
    exact⟨z,h2,cv1_map _⟩
   ·cases hz
  obtain⟨N,rfl⟩:=Int.eq_ofNat_of_zero_le e1
  obtain⟨M,rfl⟩:=Int.eq_ofNat_of_zero_le (Int.le_trans e1 e2)
  have hNM:N<=M:=by omega
  have hbm:(1:Int)*M<=i.bytes*M:=Int.mul_le_mul_of_nonneg_right (by omega) (by omega)
  have hrun:=run_make (P:=X.P) C.w t e i z ht hi hzero kl kc (N:Int) (M:Int) e1 e2 e3 (by omega)
  simp only[Int.toNat_natCast]at hrun
  have hzs:z.cells.size=i.size:=by
   have:=h2.length
   simp at this;omega
  have hxs:(madeCells z.cells (M*i.size)).toList.take (N*i.size)=(List.replicate N z.cells.toList).flatten:=by
   have:(madeCells z.cells (M*i.size)).toList=(List.range (M*z.cells.size)).map fun j=>z.cells[j%z.cells.size]! :=by
    simp[madeCells,hzs]
   rw[this,<- List.map_take,List.take_range,Nat.min_eq_left (by rw[hzs];exact Nat.mul_le_mul_right _ hNM),<- made_list z.cells (by omega) N,hzs]
  have hrv:RV0s C.imm C.w (List.replicate N zs).flatten ((List.replicate N z.cells.toList).flatten):=by
   have h3:RV0s C.imm C.w zs z.cells.toList:=zokL_rv0 _ _ hpu h2
   have app:∀ {a b:List AV} {x y:List Value},RV0s C.imm C.w a x->RV0s C.imm C.w b y->RV0s C.imm C.w (a++b) (x++y):=by
    intro a
    induction a with
    |nil=>intro b x y hx hy;simp only[RV0s]at hx;subst hx;simpa using hy
    |cons s ss ih=>
     intro b x y hx hy
     simp only[RV0s]at hx
     obtain⟨v,vs,rfl,h1,h2⟩:=hx
     simp only[List.cons_append,RV0s]
     exact⟨v,vs++y,rfl,h1,ih h2 hy⟩
   have rep:∀K:Nat,RV0s C.imm C.w (List.replicate K zs).flatten ((List.replicate K z.cells.toList).flatten):=by
    intro K
    induction K with
    |zero=>simp[RV0s]
    |succ K ih=>simp only[List.replicate_succ,List.flatten_cons];exact app h3 ih
   exact rep N
  have hb:Below C.w.heap.size C.w (C.w.alloc (.cells (madeCells z.cells (M*i.size)) e)):=(Below.refl _ _).alloc (Nat.le_refl _) _
  have hN:=h.name hf (w':=C.w.alloc (.cells (madeCells z.cells (M*i.size)) e)) (T':=newB C.w (C.w.alloc (.cells (madeCells z.cells (M*i.size)) e)) C.T) (v:=.slice (some ⟨C.w.heap.size,0,none⟩) N M) (el:=e) (sz:=i.size) (es:=List.replicate N zs) (xs:=(List.replicate N z.cells.toList).flatten) (fun b hb'=>.inl hb') (fun b hb'=>by
    rcases hb' with hb'|hb'
    ·exact Nat.lt_of_lt_of_le (h.T b hb') hb.size
    ·exact hb'.2) (hX.kgrow _ _ _ _ _ _ h.keep hb) (fun k hk _=>hb.block k hk) (by
    refine⟨by simp[hzs], .inr ⟨_,M,_,by simp,Nat.zero_le _,World.alloc_heap_new C.w _,by simpa using hNM,by simp only[maxLen];omega,size_madeCells _ _,by simpa using hxs⟩⟩) hrv (fun x hx=>by rw[List.eq_of_mem_replicate hx,hlen]) (fun b e=>by
    simp only[Value.ownBlock,Option.some.injEq]at e
    subst e
    refine⟨.inr ⟨Nat.le_refl _,by simp⟩,fun hi=>?_,fun j hj=>?_⟩
    ·have:=(h.imm _ hi).2.lt;omega
    ·have:=(Res.blk_lt (h.sg j) hj).2.1;omega)
  refine up_value hX (v:=.slice (some ⟨C.w.heap.size,0,none⟩) N M) (w':=C.w.alloc (.cells (madeCells z.cells (M*i.size)) e)) (fun c=>by simp[hop]) ?_ ?_
  ·simp only[execOp,hop,v1,v2]
   simp[Sem.run_map,hrun]
  ·have:=hN.put (v:=.row nm) (x:=.slice (some ⟨C.w.heap.size,0,none⟩) N M) (by simp[RV,upd]) o.dst hd
   simp only[Int.toNat_natCast]at hE
   exact hk _ _ _ this hE
 ·exact hE.elim
theorem OwnRows.blk{B:Nat}{imm:Nat->Prop}{w:World}{os:Nat->Option Own}:∀ {rows:List (Nat × Res)},OwnRows B imm w os rows->∀p∈rows,∀o,os p.1=some o->∀b,o.val.ownBlock=some b->B<=b/\b<w.heap.size
 | [],_,p,hp=>by cases hp
 |(i,r)::l,h,p,hp=>fun o ho b hb=>by
  simp only[OwnRows]at h
  obtain⟨⟨el,sz,es,o',xs,_,h2,_,_,_,h6,_⟩,h8⟩:=h
  rcases List.mem_cons.1 hp with rfl|hp
  ·rw[h2]at ho;cases ho
   exact⟨(h6 b hb).1,(h6 b hb).2.1⟩
  ·exact OwnRows.blk h8 p hp o ho b hb
theorem Rel.nameRows{os:Nat->Option Own}{B:Nat}:∀(rows:List (Nat × Res)) (nm:Nat) {C:Ctx} {s:St},Rel X C s a->(∀j,j<rows.length->s.sg.getD (nm+j) .dead = .fresh)->OwnRows B C.imm C.w os rows->(∀b,B<=b->b<C.w.heap.size->C.T b) ->
  (∀p∈rows,∀o,os p.1=some o->∀b,o.val.ownBlock=some b->∀j,(s.sg.getD j .fresh).blk (C.rho j)≠some b) ->
  ∃rho',Rel X ⟨C.imm,C.T,rho',C.w,C.l⟩ { s with sg:=setL s.sg (nameR rows nm) } a/\(∀i,i<nm->rho' i=C.rho i)/\∀i,i∈fstN rows->∃o o',os i=some o/\rho' (posN rows nm i)=some o'/\o'.val=o.val
 | [],nm,C,s,h,_,_,_,_=>⟨C.rho,h,fun _ _=>rfl,fun i hi=>by cases hi⟩
 |(i0,r)::l,nm,C,s,h,hf,hO,hT,hd=>by
  simp only[OwnRows]at hO
  obtain⟨⟨el,sz,es,o,xs,rfl,h2,h3,h4,h5,h6,h7⟩,h8⟩:=hO
  have hf0:=hf 0 (by simp)
  simp only[Nat.add_zero]at hf0
  obtain⟨_,hlt⟩:=getD_dead hf0 (by simp)
  have hN:=h.name (v:=o.val) hf0 (w':=C.w) (T':=C.T) (fun b hb=>hb) h.T h.keep (fun _ _ _=>rfl) h3 h4 h5 (fun b hb=>⟨hT b (h6 b hb).1 (h6 b hb).2.1,(h6 b hb).2.2,hd (i0, .row false el sz es) (by simp) o h2 b hb⟩)
  have hget:∀j,(s.sg.set nm (.row false el sz es)).getD j .fresh=if j=nm then .row false el sz es else s.sg.getD j .fresh:=fun j=>getD_set _ _ _ _ _ hlt
  obtain⟨rho',k1,k2,k3⟩:=Rel.nameRows l (nm+1) hN (fun j hj=>by
    have:=hf (j+1) (by simp;omega)
    rw[show nm+(j+1)=nm+1+j from by omega]at this
    simp only
    rw[getD_set _ _ _ _ _ hlt,if_neg (by omega)]
    exact this) h8 hT (fun p hp o' ho' b hb j=>by
    simp only
    rw[hget]
    split
    ·rename_i e
     subst e
     simp only[upd,if_pos,Res.blk,Option.bind_some]
     intro e'
     exact h7 p hp o' ho' b e' hb
    ·rename_i e
     simp only[upd,if_neg e]
     exact hd p (by simp[hp]) o' ho' b hb j)
  refine⟨rho',k1,fun i hi=>?_,fun i hi=>?_⟩
  ·rw[k2 i (by omega)];simp only[upd];rw[if_neg (by omega)]
  ·simp only[posN]
   split
   ·rename_i e
    have e:=of_decide_eq_true e
    subst e
    refine⟨o,⟨o.val.ownBlock.getD 0,o.val⟩,h2,?_,rfl⟩
    rw[k2 nm (by omega)];simp[upd]
   ·rename_i e
    have e:=of_decide_eq_false e
    refine k3 i ?_
    simp only[fstN,List.mem_cons]at hi
    exact hi.resolve_left e
mutual
theorem RV.rnr{C0 C':Ctx}{ns:List Nat}{π : Nat->Nat}(hpos:∀i,i∈ns->∃o o',C0.rho i=some o/\C'.rho (π i)=some o'/\o'.val=o.val)(hi:C'.imm=C0.imm)(hw:C'.w=C0.w):∀(r:AV) (v:Value),r.oOk ns=true->RV C0 r v->RV C' (r.rnr π) v
 |.row i,v,ho,h=>by
  simp only[AV.oOk]at ho
  obtain⟨o,o',h1,h2,h3⟩:=hpos i (memN_iff.1 ho)
  simp only[RV,AV.rnr]at h⊢
  obtain⟨o1,k1,rfl⟩:=h
  rw[h1]at k1;cases k1
  exact⟨o',h2,h3.symm⟩
 |.agg cs,v,ho,h=>by
  simp only[AV.oOk]at ho
  simp only[RV,AV.rnr]at h⊢
  obtain⟨vs,rfl,h⟩:=h
  exact⟨vs,rfl,RVs.rnr hpos hi hw cs vs ho h⟩
 |.tup cs,v,ho,h=>by
  simp only[AV.oOk]at ho
  simp only[RV,AV.rnr]at h⊢
  obtain⟨vs,rfl,h⟩:=h
  exact⟨vs,rfl,RVs.rnr hpos hi hw cs vs ho h⟩
 |.bool _,v,_,h=>by simpa only[RV,AV.rnr]using h
 |.int _ _,v,_,h=>by simpa only[RV,AV.rnr]using h
 |.str _,v,_,h=>by simpa only[RV,AV.rnr]using h
 |.lit _,v,_,h=>by simpa only[RV,AV.rnr]using h
 |.nils,v,_,h=>by simpa only[RV,AV.rnr]using h
 |.isl es,v,_,h=>by simp only[RV,AV.rnr]at h⊢;rw[hi,hw];exact h
 |.ipt es,v,_,h=>by simp only[RV,AV.rnr]at h⊢;rw[hi,hw];exact h
 |.imp _ _,v,_,h=>by simp only[RV,AV.rnr]at h⊢;rw[hi,hw];exact h
 |.tsl _ _,v,_,h=>by simp only[RV,AV.rnr]at h⊢;rw[hi,hw];exact h
 |.mth _ _,v,_,h=>by simp only[RV,AV.rnr]at h⊢;rw[hi,hw];exact h
 |.any,v,_,h=>by simpa only[RV,AV.rnr]using h
 |.fn _ _,v,ho,h=>by simp[AV.oOk]at ho
 |.own _ _,v,ho,h=>by simp[AV.oOk]at ho
 |.elt _ _ _ _,v,ho,h=>by simp[AV.oOk]at ho
 |.yld,v,ho,h=>by simp[AV.oOk]at ho
 |.gone,v,ho,h=>by simp[AV.oOk]at ho
theorem RVs.rnr{C0 C':Ctx}{ns:List Nat}{π : Nat->Nat}(hpos:∀i,i∈ns->∃o o',C0.rho i=some o/\C'.rho (π i)=some o'/\o'.val=o.val)(hi:C'.imm=C0.imm)(hw:C'.w=C0.w):∀(r:List AV) (v:List Value),AV.oOkL ns r=true->RVs C0 r v->RVs C' (AV.rnrL π r) v
 | [],v,_,h=>by simpa only[RVs,AV.rnrL]using h
 |a::as,v,ho,h=>by
  simp only[AV.oOkL,Bool.and_eq_true]at ho
  simp only[RVs,AV.rnrL]at h⊢
  obtain⟨x,xs,rfl,h1,h2⟩:=h
  exact⟨x,xs,rfl,RV.rnr hpos hi hw a x ho.1 h1,RVs.rnr hpos hi hw as xs ho.2 h2⟩
end
mutual
theorem RV.flatR{C C':Ctx}(hr:C'.rho=C.rho):∀(v:AV) (x:Value),v.flatR=true->RV C v x->RV C' v x
 |.bool _,_,_,h=>by simpa only[RV]using h
 |.int _ _,_,_,h=>by simpa only[RV]using h
 |.str _,_,_,h=>by simpa only[RV]using h
 |.nils,_,_,h=>by simpa only[RV]using h
 |.row i,_,_,h=>by simp only[RV]at h⊢;rw[hr];exact h
 |.cut i _ _ _,_,_,h=>by simp only[RV]at h⊢;rw[hr];exact h
 |.agg cs,v,hf,h=>by simp only[RV,AV.flatR]at h hf⊢;obtain⟨vs,rfl,h⟩:=h;exact⟨vs,rfl,RVs.flatR hr cs vs hf h⟩
 |.tup cs,v,hf,h=>by simp only[RV,AV.flatR]at h hf⊢;obtain⟨vs,rfl,h⟩:=h;exact⟨vs,rfl,RVs.flatR hr cs vs hf h⟩
 |.lit _,_,hf,_=>by cases hf
 |.fn _ _,_,hf,_=>by cases hf
 |.isl _,_,hf,_=>by cases hf
 |.ipt _,_,hf,_=>by cases hf
 |.imp _ _,_,hf,_=>by cases hf
 |.tsl _ _,_,hf,_=>by cases hf
 |.mth _ _,_,hf,_=>by cases hf
 |.any,_,hf,_=>by cases hf
 |.own _ _,_,hf,_=>by cases hf
 |.elt _ _ _ _,_,hf,_=>by cases hf
 |.yld,_,hf,_=>by cases hf
 |.gone,_,hf,_=>by cases hf
theorem RVs.flatR{C C':Ctx}(hr:C'.rho=C.rho):∀(as:List AV) (vs:List Value),AV.flatRL as=true->RVs C as vs->RVs C' as vs
 | [],_,_,h=>by simpa only[RVs]using h
 |a::as,vs,hf,h=>by
  simp only[RVs,AV.flatRL,Bool.and_eq_true]at h hf⊢
  obtain⟨x,xs,rfl,h1,h2⟩:=h
  exact⟨x,xs,rfl,RV.flatR hr a x hf.1 h1,RVs.flatR hr as xs hf.2 h2⟩
end
theorem OwnRows.other{B:Nat}{imm imm2:Nat->Prop}{w:World}{os:Nat->Option Own}:∀ {rows:List (Nat × Res)},flatRB rows=true->(∀b,imm2 b->b<B)->OwnRows B imm w os rows->OwnRows B imm2 w os rows
 | [],_,_,_=>trivial
 |(i,r)::l,hf,hlt,h=>by
  simp only[OwnRows]at h⊢
  obtain⟨⟨el,sz,es,o,xs,rfl,h2,h3,h4,h5,h6,h7⟩,h8⟩:=h
  simp only[flatRB,Bool.and_eq_true]at hf
  have h4':RV0s imm2 w es.flatten xs:=RV0s.mono (imm:=fun _=>False) (fun b hb=>hb.elim) _ _ (flat0s (C:=⟨imm,fun _=>False,os,w,ln0⟩) es.flatten xs hf.1 (RV0s.rv (C:=⟨imm,fun _=>False,os,w,ln0⟩) _ _ h4))
  exact⟨⟨el,sz,es,o,xs,rfl,h2,h3,h4',h5,fun b hb=>⟨(h6 b hb).1,(h6 b hb).2.1,fun hi=>by have:=hlt b hi;have:=(h6 b hb).1;omega⟩,h7⟩,OwnRows.other hf.2 hlt h8⟩
theorem FrzZ.lend(h:Rel X C s a){as as':List AV}{vs:List Value}(hf:FrzZ s.sg as as')(hv:RVs C as vs):RV0s (immAll C s) C.w as' vs:=by
 rcases hf with hf|hf
 ·exact mapO_ok (frz_ok h 8) as vs _ hf hv
 ·refine mapO_ok (fun v x v' hv hx=>?_) as vs _ hf hv
  cases v with
  |nils=>simp only[AV.frzN,Option.some.injEq]at hv;subst hv;simpa only[RV,RV0]using hx
  |_=>exact frz_ok h 8 _ x v' (by simpa only[AV.frzN]using hv) hx
theorem callz_at(hX:SessOk X E)(hk:Nx X k next)(h:Rel X C s a)(hd:∀i,o.dst=some i->i<X.N){f:FuncId}{nm ct:Nat}{vs:List AV}{xs:List Value}(hnd:∀c,o.op ≠ .defer c)
  (hrun:(execOp a.eval o).run X.P C.w = .ok (.enter f xs.toArray) C.w) (e1:RVs C vs xs) (hfn:freshN s.sg nm ct=true) (hE:CallZ X.P s.sg nm ct f vs fun z r=>k (app o.dst s (.big z r))):o.wpIn X.F X.n X.P a C.w next Q:=by
 simp only[app]at hE
 obtain⟨args',z,h1,h2,h3⟩:=hE
 have hI:=h.ice (reachL_iced vs z h1)
 rcases h3 with⟨R,h3,h4⟩|⟨R,h3,h4⟩|⟨R,h3,h4⟩
 ·refine up_call hX hnd hrun (h3 (immZ C s z) C.w _ (fun b hb=>(hI.imm b hb).2) (FrzZ.ok h h2 h1 e1)) fun e w' hb=>?_
  obtain⟨v,r,imm',rfl,rest⟩:=hb
  exact⟨v,rfl,back_plain hX hk hI (R:=R) (d:=o.dst) hd (fun r hr=>h4 r hr) ⟨v,r,imm',rfl,rest⟩⟩
 ·refine up_call hX hnd hrun (h3 (immZ C s z) C.w _ (fun b hb=>(hI.imm b hb).2) (FrzZ.ok h h2 h1 e1)) fun e w' hb=>?_
  obtain⟨v,r,rows,imm',os,rfl,hr,hv,hoo,hO,hB,hi1,hi2⟩:=hb
  refine⟨v,rfl,?_⟩
  obtain⟨c1,c2⟩:=h4 r rows hr
  obtain⟨hrel,_⟩:=hI.call w' imm' hB (hX.kgrow _ _ _ _ _ _ hI.keep hB) hi1 hi2
  have hfr:∀j,j<rows.length->(setL s.sg z).getD (nm+j) .dead = .fresh:=fun j hj=>by
   have hf:=freshN_iff.1 hfn j (Nat.lt_of_lt_of_le hj (rowsB_ok c1).1)
   obtain⟨hf1,hf2⟩:=getD_dead hf (by simp)
   have hg:=setL_get z s.sg (reachL_iced vs z h1) (nm+j)
   have:(setL s.sg z).getD (nm+j) .fresh = .fresh:=by
    rw[hg];split
    ·rw[hf1];rfl
    ·exact hf1
   have hlt:nm+j<(setL s.sg z).length:=by rw[setL_length];exact hf2
   simpa[List.getD_eq_getElem?_getD,hlt]using this
  obtain⟨rho',hN,hrho,hpos⟩:=hrel.nameRows (os:=os) rows nm hfr (B:=C.w.heap.size) hO (fun b hb1 hb2=>.inr ⟨hb1,hb2⟩) (fun p hp o ho b hb j hj=>by
   obtain⟨hlt,_⟩:=OwnRows.blk hO p hp o ho b hb
   have:=(Res.blk_lt (hI.sg j) hj).2.1
   exact absurd this (by simp only;omega))
  have hval:RV ⟨imm',newB C.w w' C.T,rho',w',C.l⟩ (r.rnr (posN rows nm)) v:=RV.rnr (C0:=⟨imm',fun _=>False,os,w',ln0⟩) (C':=⟨imm',newB C.w w' C.T,rho',w',C.l⟩) (ns:=fstN rows) (π :=posN rows nm) hpos rfl rfl r v hoo hv
  have:=hN.put hval o.dst hd
  rw[setL_append]at c2
  exact hk _ _ _ this c2
 ·refine up_call hX hnd hrun (h3 (immAll C s) C.w _ (immAll_cells h) (FrzZ.lend h h2 e1)) fun e w' hb=>?_
  obtain⟨v,r,rows,imm',os,rfl,hr,hv,hoo,hO,hB,hi1⟩:=hb
  refine⟨v,rfl,?_⟩
  obtain⟨c1,c2,c3,c4⟩:=h4 r rows hr
  obtain⟨hrel,_⟩:=h.call w' C.imm hB (hX.kgrow _ _ _ _ _ _ h.keep hB) (fun b hb=>hb) (fun b hb=>.inl hb)
  have hO':=OwnRows.other (imm2:=C.imm) c2 (fun b hb=>(h.imm b hb).2.lt) hO
  have hfr:∀j,j<rows.length->s.sg.getD (nm+j) .dead = .fresh:=fun j hj=>freshN_iff.1 hfn j (Nat.lt_of_lt_of_le hj (rowsB_ok c1).1)
  obtain⟨rho',hN,hrho,hpos⟩:=hrel.nameRows (os:=os) rows nm hfr (B:=C.w.heap.size) hO' (fun b hb1 hb2=>.inr ⟨hb1,hb2⟩) (fun p hp o ho b hb j hj=>by
   obtain⟨hlt,_⟩:=OwnRows.blk hO p hp o ho b hb
   have:=(Res.blk_lt (h.sg j) hj).2.1
   exact absurd this (by omega))
  have hv2:RV ⟨C.imm,fun _=>False,os,w',ln0⟩ r v:=RV.flatR (C:=⟨imm',fun _=>False,os,w',ln0⟩) (C':=⟨C.imm,fun _=>False,os,w',ln0⟩) rfl r v c3 hv
  have hval:RV ⟨C.imm,newB C.w w' C.T,rho',w',C.l⟩ (r.rnr (posN rows nm)) v:=RV.rnr (C0:=⟨C.imm,fun _=>False,os,w',ln0⟩) (C':=⟨C.imm,newB C.w w' C.T,rho',w',C.l⟩) (ns:=fstN rows) (π :=posN rows nm) hpos rfl rfl r v hoo hv2
  have:=hN.put hval o.dst hd
  exact hk _ _ _ this c4
theorem callz_ok(hX:SessOk X E)(hk:Nx X k next)(h:Rel X C s a)(hd:∀i,o.dst=some i->i<X.N){c:Call}{f:FuncId}{nm ct:Nat}{ps ne:List Opd}(hop:o.op = .call c)(hc:c.callee = .value (.func f))(hf:bodied X.P f=true)(hp:opds c.args.toList=some ps)
  (hE:evO E o.dst (.callz nm ct f ps ne) s k):o.wpIn X.F X.n X.P a C.w next Q:=by
 simp only[evO,evX,app]at hE
 split at hE
 ·rename_i vs hv
  split at hE
  ·rename_i hcond
   have hfn:=hcond.2
   have e1:=evl_ok h hp hv
   have hargs:c.args.map a.eval=(c.args.toList.map a.eval).toArray:=by apply Array.ext';simp
   have hrun:(execOp a.eval o).run X.P C.w = .ok (.enter f (c.args.toList.map a.eval).toArray) C.w:=by
    simp[execOp,hop,resolve,hc,Act.eval,Deferred.ofValue,invoke,callFunc_run hf,Sem.run_pure]
    exact hargs
   rw[<- hX.P]at hE
   exact callz_at hX hk h hd (fun c=>by simp[hop]) hrun e1 hfn (by simpa only[app]using hE)
  ·exact hE.elim
 ·exact hE.elim
end
theorem sb_same{w:World}{b:Nat}(h:b<w.heap.size)(o:Obj):(ChangeMaps.setBlock w b o).heap[b]?=some o:=by
 simp[ChangeMaps.setBlock,h]
theorem sb_other{w:World}{b k:Nat}(h:k≠b)(o:Obj):(ChangeMaps.setBlock w b o).heap[k]?=w.heap[k]?:=by
 simp[ChangeMaps.setBlock,Array.getElem?_setIfInBounds,Ne.symm h]
def ktD:KTy->TypeDesc->Prop
 |.int, .int _=>True
 |.bool, .bool=>True
 |.str, .string=>True
 |_,_=>False
theorem ktOf_ok{P:Program}{k:TypeId}{kt:KTy}(h:ktOf P k=some kt):(∃d,P.underlying k=some d/\ktD kt d)\/(∃fs T,P.underlying k=some (.struct fs)/\eqTree P 3 k=some T/\fs.toList.all (leafF P)=true/\kt = .st T)\/∃m e T,P.underlying k=some (.array m e)/\eqTree P 3 k=some T/\leafT P e=true/\kt = .st T:=by
 simp only[ktOf]at h
 split at h
 all_goals first|(rename_i h1;cases h;exact .inl ⟨_,h1,trivial⟩)|skip
 ·rename_i fs h1
  split at h
  ·rename_i T h2
   split at h
   ·rename_i h3
    cases h
    exact .inr (.inl ⟨fs,T,h1,h2,h3,rfl⟩)
   ·cases h
  ·cases h
 ·rename_i m e h1
  split at h
  ·rename_i T h2
   split at h
   ·rename_i h3
    cases h
    exact .inr (.inr ⟨m,e,T,h1,h2,h3,rfl⟩)
   ·cases h
  ·cases h
 ·cases h
theorem ba_beq(a b:List UInt8):((⟨a.toArray⟩:ByteArray)==⟨b.toArray⟩)=(a==b):=by
 show(a.toArray==b.toArray)=_
 simp
theorem same_ok{imm:Nat->Prop}{w:World}{kt:KTy}{d:TypeDesc}(hd:ktD kt d){x y:AV}{vx vy:Value}{r:Bool}(hr:keq kt x y=some r)(hx:RV0 imm w x vx)(hy:RV0 imm w y vy) :
  Instr.sameNow d vx vy=some r/\(r=true->vx=vy):=by
 cases kt<;>cases d<;>simp only[ktD]at hd<;>cases x<;>simp only[keq,KTy.base,keqB]at hr<;>try cases hr
 all_goals
  cases y<;>simp only[keq,KTy.base,keqB]at hr<;>try cases hr
 ·split at hr<;>cases hr
  rename_i e
  simp only[RV0]at hx hy;subst hx;subst hy;subst e
  exact⟨by simp[Instr.sameNow],fun h=>by simp at h;rw[h]⟩
 ·simp only[RV0]at hx hy;subst hx;subst hy
  exact⟨by simp[Instr.sameNow],fun h=>by simp at h;rw[h]⟩
 ·simp only[RV0]at hx hy;subst hx;subst hy
  exact⟨by simp[Instr.sameNow,ba_beq],fun h=>by simp at h;rw[h]⟩
theorem find_ok{imm:Nat->Prop}{w:World}{kt:KTy}{d:TypeDesc}(hd:ktD kt d){x:AV}{vx:Value}(hx:RV0 imm w x vx):∀(ks:List AV) (es:List MapEntry) (i:Nat) (r:Option Nat),RV0s imm w ks (es.map (·.key))->findK kt x ks i=some r ->
  (r=none/\Instr.findNow d vx es i=some none)\/∃j e,r=some (i+j)/\es[j]?=some e/\Instr.findNow d vx es i=some (some (i+j,e.val))/\e.key=vx
 | [],es,i,r,hk,hf=>by
  cases es with
  |nil=>simp only[findK,Option.some.injEq]at hf;subst hf;exact .inl ⟨rfl,rfl⟩
  |cons e es=>simp[RV0s]at hk
 |k::ks,es,i,r,hk,hf=>by
  cases es with
  |nil=>simp[RV0s]at hk
  |cons e es=>
   simp only[List.map_cons,RV0s]at hk
   obtain⟨v,vs,h1,h2,h3⟩:=hk
   cases h1
   simp only[findK]at hf
   split at hf
   ·rename_i hq
    cases hf
    obtain⟨q1,q2⟩:=same_ok hd hq hx h2
    exact .inr ⟨0,e,by simp,rfl,by simp[Instr.findNow,q1],(q2 rfl).symm⟩
   ·rename_i hq
    obtain⟨q1,q2⟩:=same_ok hd hq hx h2
    rcases find_ok hd hx ks es (i+1) r h3 hf with⟨h4,h5⟩|⟨j,e',h4,h5,h6,h7⟩
    ·exact .inl ⟨h4,by simp[Instr.findNow,q1,h5]⟩
    ·exact .inr ⟨j+1,e',by rw[h4];congr 1;omega,by simpa using h5,by simp only[Instr.findNow,q1,h6];congr 3;omega,h7⟩
   ·cases hf
theorem check_ok{P:Program}{w:World}{kt:KTy}{d:TypeDesc}{k:TypeId}(hk:P.underlying k=some d)(hd:ktD kt d)(em:Bool)(v:Value):(Instr.checkKey em 10000 k v).run P w = .ok () w:=by
 rw[show(10000:Nat)=9999+1 from rfl,Instr.checkKey]
 cases kt<;>cases d<;>simp only[ktD]at hd<;>simp[run_underlying hk,Sem.run_pure]
theorem RV0s.len0{imm:Nat->Prop}{w:World}:∀ {as:List AV} {vs:List Value},RV0s imm w as vs->vs.length=as.length
 | [],vs,h=>by simp only[RV0s]at h;subst h;rfl
 |a::as,vs,h=>by simp only[RV0s]at h;obtain⟨v,vs',rfl,_,h⟩:=h;simp[RV0s.len0 h]
theorem scEq_val{imm:Nat->Prop}{w:World}:∀ {as bs:List AV} {vs us:List Value},scEq as bs=some true->RV0s imm w as vs->RV0s imm w bs us->vs=us
 | [],[],vs,us,_,ha,hb=>by simp only[RV0s]at ha hb;rw[ha,hb]
 |.int k a::as, .int l b::bs,vs,us,h,ha,hb=>by
  simp only[scEq]at h
  split at h
  ·rename_i hkl
   split at h
   ·rename_i r hr
    simp only[Option.some.injEq,Bool.and_eq_true,beq_iff_eq]at h
    obtain⟨h1,h2⟩:=h
    subst h2;subst h1;subst hkl
    simp only[RV0s,RV0]at ha hb
    obtain⟨_,vs',rfl,rfl,ha⟩:=ha
    obtain⟨_,us',rfl,rfl,hb⟩:=hb
    rw[scEq_val hr ha hb]
   ·cases h
  ·cases h
 |.bool a::as, .bool b::bs,vs,us,h,ha,hb=>by
  simp only[scEq]at h
  split at h
  ·rename_i r hr
   simp only[Option.some.injEq,Bool.and_eq_true,beq_iff_eq]at h
   obtain⟨h1,h2⟩:=h
   subst h2;subst h1
   simp only[RV0s,RV0]at ha hb
   obtain⟨_,vs',rfl,rfl,ha⟩:=ha
   obtain⟨_,us',rfl,rfl,hb⟩:=hb
   rw[scEq_val hr ha hb]
  ·cases h
theorem scV_bits{imm:Nat->Prop}{w:World}:∀ {as:List AV} {vs:List Value},scV as=true->RV0s imm w as vs->∀n,((vs.zip vs).all fun(x,y)=>Instr.sameBits n x y)=true
 | [],vs,_,ha,n=>by simp only[RV0s]at ha;rw[ha];rfl
 |.int k a::as,vs,h,ha,n=>by
  simp only[scV]at h
  simp only[RV0s,RV0]at ha
  obtain⟨_,vs',rfl,rfl,ha⟩:=ha
  have:=scV_bits h ha n
  simp only[List.zip_cons_cons,List.all_cons,this,Bool.and_true]
  cases n<;>simp[Instr.sameBits]
 |.bool a::as,vs,h,ha,n=>by
  simp only[scV]at h
  simp only[RV0s,RV0]at ha
  obtain⟨_,vs',rfl,rfl,ha⟩:=ha
  have:=scV_bits h ha n
  simp only[List.zip_cons_cons,List.all_cons,this,Bool.and_true]
  cases n<;>simp[Instr.sameBits]
theorem ck_leaf{P:Program}{w:World}{as:List AV}{t:TypeId}{T:EqT}{m n:Nat}{em:Bool}{vs:List Value}{imm:Nat->Prop}{off:Nat}{r:Bool}(hv:RV0s imm w as vs)(hl:leafT P t=true)(hT:eqTree P (n+1) t=some T)(hc:szOf P t=some m)
  (he:eqV T ((as.drop off).take m) ((as.drop off).take m)=some r) (d:Nat):∃x,(part t vs.toArray off).run P w = .ok x w/\(Instr.checkKey em (d+1) t x).run P w = .ok () w:=by
 have h7:∃d,P.underlying t=some d/\(d = .bool\/∃kd,d = .int kd):=by
  unfold leafT at hl
  split at hl
  ·rename_i kd hd;exact⟨_,hd, .inr ⟨kd,rfl⟩⟩
  ·rename_i hd;exact⟨_,hd, .inl rfl⟩
  ·cases hl
 obtain⟨dd,hd,hd2⟩:=h7
 have hag:aggOf P t=some false:=by
  rcases hd2 with rfl|⟨kd,rfl⟩<;>simp[aggOf,hd]
 have hT':∃i,T = .leaf i:=by
  simp only[eqTree]at hT
  rcases hd2 with rfl|⟨kd,rfl⟩<;>simp only[hd,Option.some.injEq]at hT<;>exact⟨_,hT.symm⟩
 obtain⟨i,rfl⟩:=hT'
 have hlen:((vs.drop off).take m).length=1:=by
  have h8:=((hv.drop off).take m).len0
  rw[h8]
  simp only[eqV]at he
  split at he
  ·rename_i hq _;rw[hq];rfl
  ·cases he
 obtain⟨x,h9,_⟩:=part_val (off:=off) (vs:=vs) hag hc (fun _=>hlen) w
 refine⟨x,h9,?_⟩
 rw[Instr.checkKey]
 rcases hd2 with rfl|⟨kd,rfl⟩<;>simp[run_underlying hd,Sem.run_pure]
theorem ck_array{P:Program}{w:World}{as:List AV}{t e:TypeId}{T:EqT}{m c n:Nat}{em:Bool}{vs:List Value}{imm:Nat->Prop}{r:Bool}(ht:P.underlying t=some (.array m e))(hv:RV0s imm w as vs)(hl:leafT P e=true)(hT:eqTree P (n+1) e=some T)(hc:szOf P e=some c)
  (he:eqVs ((List.range m).map fun i=>(i*c,c,T)) as as=some r) (d:Nat):(Instr.checkKey em (d+1+1) t (.agg vs.toArray)).run P w = .ok () w:=by
 obtain⟨i,hi,hci⟩:∃i,P.info? e=some i/\i.size=c:=by
  simp only[szOf,Option.map_eq_some_iff]at hc;exact hc
 have hsz:(sizeOf e).run P w = .ok c w:=sz_run hc w
 rw[Instr.checkKey]
 simp only[Sem.run_bind,run_underlying ht,Result.andThen_ok]
 simp only[Std.Legacy.Range.forIn_eq_forIn_range',Std.Legacy.Range.size,Nat.sub_zero,Nat.add_one_sub_one,Nat.div_one,<- List.range_eq_range']
 have key:∀(is:List Nat) (r:Bool),eqVs (is.map fun i=>(i*c,c,T)) as as=some r->(forIn (m:=Sem) is PUnit.unit fun i _=>do
   let s <- sizeOf e
   let x <- part e vs.toArray (i*s)
   (fun a=>ForInStep.yield PUnit.unit) <$> Instr.checkKey em (d+1) e x).run P w = .ok PUnit.unit w:=by
  intro is
  induction is with
  |nil=>intro r _;simp[Sem.run_pure]
  |cons j is ih=>
   intro r he
   simp only[List.map_cons,eqVs]at he
   split at he
   ·rename_i r1 r2 h4 h5
    obtain⟨x,h9,h10⟩:=ck_leaf (em:=em) hv hl hT hc h4 d
    rw[List.forIn_cons]
    simp only[Sem.run_bind,Sem.run_map,hsz,h9,h10,Result.andThen_ok,Sem.run_pure]
    exact ih r2 h5
   ·cases he
 have h11:=key (List.range m) r he
 simp[h11,Sem.run_pure,Result.andThen]
theorem ck_fields{P:Program}{w:World}{imm:Nat->Prop}{cs:List AV}{vs:List Value}(hv:RV0s imm w cs vs)(em:Bool)(n:Nat):∀(fl:List Field) (l:List (Nat × Nat × EqT)) (r:Bool),eqTreeL P (eqTree P 2) fl=some l->eqVs l cs cs=some r->fl.all (leafF P)=true ->
  (forIn (m:=Sem) fl PUnit.unit fun f _=>if f.name ≠ "_" then do
    let x <- part f.type vs.toArray f.offset
    Instr.checkKey em (n+1+1) f.type x
    pure (ForInStep.yield PUnit.unit)
   else pure (ForInStep.yield PUnit.unit)).run P w = .ok PUnit.unit w:=by
 intro fl
 induction fl with
 |nil=>intro l r _ _ _;simp[Sem.run_pure]
 |cons f fl ih=>
  intro l r hl he hf
  simp only[List.all_cons,Bool.and_eq_true]at hf
  simp only[eqTreeL]at hl
  split at hl
  ·cases hl
  ·rename_i hnm
   split at hl
   ·rename_i T m l' h1 h2 h3
    cases hl
    simp only[eqVs]at he
    split at he
    ·rename_i r1 r2 h4 h5
     have hnm':f.name ≠ "_" :=by simpa using hnm
     have h6:=ih l' r2 h3 h5 hf.2
     have h10:∃x,(part f.type vs.toArray f.offset).run P w = .ok x w/\(Instr.checkKey em (n+1+1) f.type x).run P w = .ok () w:=by
      by_cases hlf:leafT P f.type=true
      ·exact ck_leaf hv hlf h1 h2 h4 (n+1)
      ·obtain⟨mm,e,ht,hle⟩:∃mm e,P.underlying f.type=some (.array mm e)/\leafT P e=true:=by
        have:=hf.1
        unfold leafF at this
        unfold leafT at hlf
        split at this
        ·rename_i hd;rw[hd]at hlf;exact absurd rfl hlf
        ·rename_i hd;rw[hd]at hlf;exact absurd rfl hlf
        ·rename_i mm e hd;exact⟨mm,e,hd,this⟩
        ·cases this
       simp only[eqTree,ht]at h1
       split at h1
       ·rename_i T' c h7 h8
        cases h1
        simp only[eqV]at h4
        have hag:aggOf P f.type=some true:=by simp[aggOf,ht]
        obtain⟨x,h9,h11⟩:=part_val (off:=f.offset) (vs:=vs) hag h2 (fun e=>absurd e (by simp)) w
        simp only[isVal]at h11;subst h11
        exact⟨_,h9,ck_array (n:=0) ht ((hv.drop f.offset).take m) hle h7 h8 h4 n⟩
       ·cases h1
     obtain⟨x,h9,h10⟩:=h10
     rw[List.forIn_cons]
     simp only[hnm',ne_eq,not_false_eq_true,if_true,Sem.run_bind,h9,h10,Result.andThen_ok,Sem.run_pure]
     exact h6
    ·cases he
   ·cases hl
theorem ask_ok{P:Program}{w:World}{imm:Nat->Prop}{k:TypeId}{T:EqT}(hag:aggOf P k=some true)(hT:eqTree P 3 k=some T){x:AV}{vx:Value}(hx:RV0 imm w x vx):∀(ks:List AV) (es:List MapEntry) (i:Nat) (r:Option Nat),RV0s imm w ks (es.map (·.key))->findK (.st T) x ks i=some r ->
  (r=none/\(Instr.findAsking k vx es i).run P w = .ok none w)\/∃j e,r=some (i+j)/\es[j]?=some e/\(Instr.findAsking k vx es i).run P w = .ok (some (i+j,e.val)) w/\e.key=vx
 | [],es,i,r,hk,hf=>by
  cases es with
  |nil=>simp only[findK,Option.some.injEq]at hf;subst hf;exact .inl ⟨rfl,by simp[Instr.findAsking,Sem.run_pure]⟩
  |cons e es=>simp[RV0s]at hk
 |y::ks,es,i,r,hk,hf=>by
  cases es with
  |nil=>simp[RV0s]at hk
  |cons e es=>
   simp only[List.map_cons,RV0s]at hk
   obtain⟨v,vs,h1,h2,h3⟩:=hk
   cases h1
   have same:∀q,keq (.st T) x y=some q->(Op.equal k vx e.key).run P w = .ok q w/\(q=true->e.key=vx):=fun q hq=>by
    cases x<;>simp only[keq,KTy.base,keqB]at hq<;>try cases hq
    rename_i as
    cases y<;>simp only at hq<;>try cases hq
    rename_i bs
    split at hq
    ·rename_i r1 r2 e1 e2
     split at hq
     ·rename_i e3
      cases hq
      simp only[RV0]at hx h2
      obtain⟨va,rfl,ha⟩:=hx
      obtain⟨vb,hvb,hb⟩:=h2
      obtain⟨ag,h6,_,h8⟩:=eqT_ok (C:=⟨imm,fun _=>False,fun _=>none,w,ln0⟩) 3 k T hT Op.maxDepth (by decide) as bs va vb q (RV0s.rv as va ha) (RV0s.rv bs vb hb) e1
      rw[hag]at h6;cases h6
      refine⟨?_,fun hqt=>?_⟩
      ·rw[hvb];exact h8 _ _ w rfl rfl
      ·subst hqt;subst e3
       rw[hvb,scEq_val e2 ha hb]
     ·cases hq
    ·cases hq
   simp only[findK]at hf
   split at hf
   ·rename_i hq
    cases hf
    obtain⟨q1,q2⟩:=same _ hq
    exact .inr ⟨0,e,by simp,rfl,by simp[Instr.findAsking,q1,Sem.run_pure,Result.andThen],q2 rfl⟩
   ·rename_i hq
    obtain⟨q1,_⟩:=same _ hq
    rcases ask_ok hag hT hx ks es (i+1) r h3 hf with⟨h4,h5⟩|⟨j,e',h4,h5,h6,h7⟩
    ·exact .inl ⟨h4,by simp[Instr.findAsking,q1,h5,Result.andThen]⟩
    ·exact .inr ⟨j+1,e',by rw[h4];congr 1;omega,by simpa using h5,by simp only[Instr.findAsking,Sem.run_bind,q1,Result.andThen_ok,Bool.false_eq_true,if_false,h6];congr 3;omega,h7⟩
   ·cases hf
theorem fk_ok{P:Program}{w:World}{imm:Nat->Prop}{k:TypeId}{kt:KTy}(hkt:ktOf P k=some kt){x:AV}{vx:Value}(hx:RV0 imm w x vx){ks:List AV}{es:List MapEntry}{r:Option Nat}(hks:RV0s imm w ks (es.map (·.key)))(hf:findK kt x ks 0=some r) :
  (r=none/\(Instr.findKey k vx es).run P w = .ok none w)\/∃j e,r=some j/\es[j]?=some e/\(Instr.findKey k vx es).run P w = .ok (some (j,e.val)) w/\e.key=vx:=by
 rcases ktOf_ok hkt with⟨d,hd1,hd2⟩|⟨fs,T,hd1,hT,_,rfl⟩|⟨m,e,T,hd1,hT,_,rfl⟩
 ·have base:∀r,Instr.findNow d vx es 0=some r->(Instr.findKey k vx es).run P w = .ok r w:=fun r hr=>by
   simp[Instr.findKey,run_underlying hd1,hr,Sem.run_pure]
  rcases find_ok hd2 hx ks es 0 _ hks hf with⟨h1,h2⟩|⟨j,e,h1,h2,h3,h4⟩
  ·exact .inl ⟨h1,base _ h2⟩
  ·rw[Nat.zero_add]at h1 h3
   exact .inr ⟨j,e,h1,h2,base _ h3,h4⟩
 ·cases es with
  |nil=>
   cases ks with
   |nil=>simp only[findK,Option.some.injEq]at hf;subst hf;exact .inl ⟨rfl,by simp[Instr.findKey,Instr.findNow,run_underlying hd1,Sem.run_pure]⟩
   |cons y ks=>simp[RV0s]at hks
  |cons e es=>
   have base:(Instr.findKey k vx (e::es)).run P w=(Instr.findAsking k vx (e::es) 0).run P w:=by
    simp[Instr.findKey,run_underlying hd1,Instr.findNow,Instr.sameNow]
   rw[base]
   rcases ask_ok (by simp[aggOf,hd1]) hT hx ks (e::es) 0 r hks hf with⟨h1,h2⟩|⟨j,e',h1,h2,h3,h4⟩
   ·exact .inl ⟨h1,h2⟩
   ·rw[Nat.zero_add]at h1 h3
    exact .inr ⟨j,e',h1,h2,h3,h4⟩
 ·cases es with
  |nil=>
   cases ks with
   |nil=>simp only[findK,Option.some.injEq]at hf;subst hf;exact .inl ⟨rfl,by simp[Instr.findKey,Instr.findNow,run_underlying hd1,Sem.run_pure]⟩
   |cons y ks=>simp[RV0s]at hks
  |cons e es=>
   have base:(Instr.findKey k vx (e::es)).run P w=(Instr.findAsking k vx (e::es) 0).run P w:=by
    simp[Instr.findKey,run_underlying hd1,Instr.findNow,Instr.sameNow]
   rw[base]
   rcases ask_ok (by simp[aggOf,hd1]) hT hx ks (e::es) 0 r hks hf with⟨h1,h2⟩|⟨j,e',h1,h2,h3,h4⟩
   ·exact .inl ⟨h1,h2⟩
   ·rw[Nat.zero_add]at h1 h3
    exact .inr ⟨j,e',h1,h2,h3,h4⟩
theorem ck_ok{P:Program}{w:World}{imm:Nat->Prop}{k:TypeId}{kt:KTy}(hkt:ktOf P k=some kt){x:AV}{vx:Value}(hx:RV0 imm w x vx)(hkv:keyV kt x=true)(em:Bool):(Instr.checkKey em 10000 k vx).run P w = .ok () w:=by
 rcases ktOf_ok hkt with⟨d,hd1,hd2⟩|⟨fs,T,hd1,hT,hfl,rfl⟩|⟨m,e,T,hd1,hT,hfl,rfl⟩
 ·exact check_ok hd1 hd2 em vx
 ·cases x<;>simp only[keyV,KTy.base,keyVB]at hkv<;>try cases hkv
  rename_i cs
  split at hkv
  ·rename_i r hr
   simp only[RV0]at hx
   obtain⟨vs,rfl,hv⟩:=hx
   simp only[eqTree,hd1]at hT
   split at hT
   ·cases hT
   ·split at hT
    ·rename_i l hl
     cases hT
     simp only[eqV]at hr
     rw[show(10000:Nat)=9999+1 from rfl,Instr.checkKey]
     have:=ck_fields hv em 9997 fs.toList l r hl hr hfl
     simp only[Sem.run_bind,run_underlying hd1,Result.andThen_ok]
     rw[<- Array.forIn_toList]
     rw[this]
     simp[Sem.run_pure,Result.andThen]
    ·cases hT
  ·cases hkv
 ·cases x<;>simp only[keyV,KTy.base,keyVB]at hkv<;>try cases hkv
  rename_i cs
  split at hkv
  ·rename_i r hr
   simp only[RV0]at hx
   obtain⟨vs,rfl,hv⟩:=hx
   simp only[eqTree,hd1]at hT
   split at hT
   ·rename_i T' c h7 h8
    cases hT
    simp only[eqV]at hr
    exact ck_array (n:=1) (em:=em) hd1 hv hfl h7 h8 hr 9998
   ·cases hT
  ·cases hkv
theorem stays_ok{P:Program}{w:World}{kt:KTy}{imm:Nat->Prop}{x:AV}{v:Value}(hv:keyV kt x=true)(hx:RV0 imm w x v):(Instr.keyThatStays v v).run P w = .ok v w:=by
 unfold keyV at hv
 generalize kt.base=kb at hv
 cases kb<;>cases x<;>simp only[keyVB]at hv<;>try cases hv
 all_goals first
  |(simp only[RV0]at hx;subst hx;simp[Instr.keyThatStays,Instr.sameBits,Sem.run_pure,ba_beq];done)
  |skip
 rename_i T cs
 split at hv
 ·simp only[RV0]at hx
  obtain⟨vs,rfl,h⟩:=hx
  have:=scV_bits hv h 9999
  have hb:Instr.sameBits 10000 (.agg vs.toArray) (.agg vs.toArray)=true:=by
   rw[show(10000:Nat)=9999+1 from rfl]
   simp only[Instr.sameBits,beq_self_eq_true,Bool.true_and]
   exact this
  simp[Instr.keyThatStays,hb,Sem.run_pure]
 ·cases hv
theorem RV0s.len{imm:Nat->Prop}{w:World}:∀ {as:List AV} {vs:List Value},RV0s imm w as vs->vs.length=as.length
 | [],vs,h=>by simp only[RV0s]at h;subst h;rfl
 |a::as,vs,h=>by simp only[RV0s]at h;obtain⟨v,vs',rfl,_,h⟩:=h;simp[RV0s.len h]
theorem RV0s.get{imm:Nat->Prop}{w:World}:∀ {as:List AV} {vs:List Value},RV0s imm w as vs->∀ {i:Nat} {a:AV} {v:Value},as[i]?=some a->vs[i]?=some v->RV0 imm w a v
 | [],vs,h,i,a,v,ha,hv=>by simp at ha
 |a::as,vs,h,i,a',v,ha,hv=>by
  simp only[RV0s]at h;obtain⟨x,vs',rfl,h1,h2⟩:=h
  cases i with
  |zero=>simp at ha hv;subst ha;subst hv;exact h1
  |succ i=>exact RV0s.get h2 (by simpa using ha) (by simpa using hv)
theorem RV0s.put{imm:Nat->Prop}{w:World}:∀ {as:List AV} {vs:List Value},RV0s imm w as vs->∀ {i:Nat} {a:AV} {v:Value},RV0 imm w a v->RV0s imm w (as.set i a) (vs.set i v)
 | [],vs,h,i,a,v,ha=>by simp only[RV0s]at h;subst h;simp[RV0s]
 |a::as,vs,h,i,a',v,ha=>by
  simp only[RV0s]at h;obtain⟨x,vs',rfl,h1,h2⟩:=h
  cases i with
  |zero=>simp only[List.set_cons_zero,RV0s];exact⟨v,vs',rfl,ha,h2⟩
  |succ i=>simp only[List.set_cons_succ,RV0s];exact⟨x,_,rfl,h1,RV0s.put h2 ha⟩
theorem RV0s.snoc{imm:Nat->Prop}{w:World}:∀ {as:List AV} {vs:List Value},RV0s imm w as vs->∀ {a:AV} {v:Value},RV0 imm w a v->RV0s imm w (as++[a]) (vs++[v])
 | [],vs,h,a,v,ha=>by simp only[RV0s]at h;subst h;simp[RV0s,ha]
 |a::as,vs,h,a',v,ha=>by
  simp only[RV0s]at h;obtain⟨x,vs',rfl,h1,h2⟩:=h
  simp only[List.cons_append,RV0s];exact⟨x,_,rfl,h1,RV0s.snoc h2 ha⟩
theorem ktOf_nd{P:Program}{k:TypeId}{kt:KTy}(h:ktOf P k=some kt):kt.isDel=false:=by
 simp only[ktOf]at h
 repeat' (split at h)
 all_goals first|(cases h;rfl)|cases h
theorem run_mputG{P:Program}{w:World}{imm:Nat->Prop}{t k e:TypeId}{kt:KTy}{b:Nat}{es:Array MapEntry}{ks us ks' us':List AV}{x v':AV}{vx vv:Value}(ht:P.underlying t=some (.map k e))(hkt:ktOf P k=some kt)
  {nB:Nat} (hb:w.heap[b]?=some (.map es nB)) (hB:Born es nB) (hks:RV0s imm w ks (es.toList.map (·.key))) {S:List AV->List Value->Prop} (hus:S us (es.toList.map (·.val))) (hx:RV0 imm w x vx) (hset:∀ {as:List AV} {vs:List Value} {i:Nat},S as vs->S (as.set i v') (vs.set i vv)) (hsn:∀ {as:List AV} {vs:List Value},S as vs->S (as++[v']) (vs++[vv])) (hm:mput kt ks us x v'=some (ks',us')) :
  ∃es' nB',(Instr.mapUpdate t (.map (some b)) vx vv).run P w = .ok () (ChangeMaps.setBlock w b (.map es' nB'))/\Born es' nB'/\RV0s imm w ks' (es'.toList.map (·.key))/\S us' (es'.toList.map (·.val)):=by
 simp only[mput,ktOf_nd hkt]at hm
 split at hm
 ·rename_i j hkv hf _
  cases hm
  rcases fk_ok hkt hx hks hf with⟨h1,_⟩|⟨j',e',h1,h2,h3,h4⟩
  ·cases h1
  ·have hj:j=j':=by injection h1
   subst hj
   have hj':es[j]?=some e':=by simpa using h2
   have hjl:j<es.size:=(Array.getElem?_eq_some_iff.1 hj').1
   have hlist:(es.modify j fun e=>{ e with key:=vx,val:=vv }).toList=es.toList.set j { e' with key:=vx,val:=vv }:=by
    have he:es[j]=e':=(Array.getElem?_eq_some_iff.1 hj').2
    rw[Array.toList_modify]
    apply List.ext_getElem (by simp)
    intro n h5 h6
    rw[List.getElem_set,List.getElem_modify]
    split
    ·rename_i e;subst e;simp[he]
    ·rfl
   refine⟨es.modify j fun e=>{ e with key:=vx,val:=vv },nB,?_,?_,?_,?_⟩
   ·simp[Instr.mapUpdate,run_underlying ht,MapKept.run_getObj_map hb,ck_ok hkt hx hkv,h3,Result.andThen,hj',h4,stays_ok hkv hx,MapKept.run_setObj_map _ hb,ChangeMaps.setBlock]
   ·have hb2:(es.toList.set j { e' with key:=vx,val:=vv }).map (·.born)=es.toList.map (·.born):=by
     rw[List.map_set]
     apply List.ext_getElem (by simp)
     intro n h5 h6
     rw[List.getElem_set]
     split
     ·rename_i e;subst e
      have he:es[j]=e':=(Array.getElem?_eq_some_iff.1 hj').2
      simp[he]
     ·rfl
    refine⟨?_,fun e he=>?_⟩
    ·rw[hlist,hb2];exact hB.1
    ·rw[hlist]at he
     have h7:e.born∈(es.toList.set j { e' with key:=vx,val:=vv }).map (·.born):=List.mem_map.2 ⟨e,he,rfl⟩
     rw[hb2]at h7
     obtain⟨e2,q1,q2⟩:=List.mem_map.1 h7
     rw[<- q2];exact hB.2 e2 q1
   ·rw[hlist,List.map_set]
    have:(es.toList.map (·.key)).set j vx=es.toList.map (·.key):=by
     apply List.ext_getElem (by simp)
     intro n h5 h6
     rw[List.getElem_set]
     split
     ·rename_i e;subst e
      have he:es[j]=e':=(Array.getElem?_eq_some_iff.1 hj').2
      simp[he,h4]
     ·rfl
    simp only[this];exact hks
   ·rw[hlist,List.map_set]
    exact hset hus
 ·rename_i hkv hf _
  cases hm
  rcases fk_ok hkt hx hks hf with⟨_,h1⟩|⟨j',e',h1,_⟩
  ·refine⟨es.push { key:=vx,val:=vv,born:=nB },nB+1,?_,?_,?_,?_⟩
   ·simp[Instr.mapUpdate,run_underlying ht,MapKept.run_getObj_map hb,ck_ok hkt hx hkv,h1,Result.andThen,MapKept.run_setObj_map _ hb,ChangeMaps.setBlock]
   ·refine⟨?_,fun e he=>?_⟩
    ·simp only[Array.toList_push,List.map_append,List.map_cons,List.map_nil]
     refine List.pairwise_append.2 ⟨hB.1,by simp,fun a ha b hb'=>?_⟩
     obtain⟨e,q1,rfl⟩:=List.mem_map.1 ha
     simp only[List.mem_singleton]at hb'
     subst hb'
     exact hB.2 e q1
    ·simp only[Array.toList_push,List.mem_append,List.mem_singleton]at he
     rcases he with he|rfl
     ·exact Nat.lt_succ_of_lt (hB.2 e he)
     ·exact Nat.lt_succ_self _
   ·simp only[Array.toList_push,List.map_append,List.map_cons,List.map_nil];exact hks.snoc hx
   ·simp only[Array.toList_push,List.map_append,List.map_cons,List.map_nil];exact hsn hus
  ·cases h1
 all_goals first|(rename_i e;cases e;done)|cases hm
theorem run_mputB{P:Program}{w:World}{imm:Nat->Prop}{t k e:TypeId}{kt:KTy}{b:Nat}{es:Array MapEntry}{ks us ks' us':List AV}{x v':AV}{vx vv:Value}(ht:P.underlying t=some (.map k e))(hkt:ktOf P k=some kt)
  {nB:Nat} (hb:w.heap[b]?=some (.map es nB)) (hB:Born es nB) (hks:RV0s imm w ks (es.toList.map (·.key))) {S:List AV->List Value->Prop} (hus:S us (es.toList.map (·.val))) (hx:RV0 imm w x vx) (hset:∀ {as:List AV} {vs:List Value} {i:Nat},S as vs->S (as.set i v') (vs.set i vv)) (hsn:∀ {as:List AV} {vs:List Value},S as vs->S (as++[v']) (vs++[vv])) {bn bn':List Nat} {n':Nat} (hbn:es.toList.map (·.born)=bn) (hm:mdel kt ks us bn nB x v'=some (ks',us',bn',n')) :
  ∃es',(Instr.mapUpdate t (.map (some b)) vx vv).run P w = .ok () (ChangeMaps.setBlock w b (.map es' n'))/\Born es' n'/\RV0s imm w ks' (es'.toList.map (·.key))/\S us' (es'.toList.map (·.val))/\es'.toList.map (·.born)=bn':=by
 simp only[mdel,ktOf_nd hkt]at hm
 split at hm
 ·rename_i j hkv hf _
  cases hm
  rcases fk_ok hkt hx hks hf with⟨h1,_⟩|⟨j',e',h1,h2,h3,h4⟩
  ·cases h1
  ·have hj:j=j':=by injection h1
   subst hj
   have hj':es[j]?=some e':=by simpa using h2
   have hjl:j<es.size:=(Array.getElem?_eq_some_iff.1 hj').1
   have hlist:(es.modify j fun e=>{ e with key:=vx,val:=vv }).toList=es.toList.set j { e' with key:=vx,val:=vv }:=by
    have he:es[j]=e':=(Array.getElem?_eq_some_iff.1 hj').2
    rw[Array.toList_modify]
    apply List.ext_getElem (by simp)
    intro n h5 h6
    rw[List.getElem_set,List.getElem_modify]
    split
    ·rename_i e;subst e;simp[he]
    ·rfl
   refine⟨es.modify j fun e=>{ e with key:=vx,val:=vv },?_,?_,?_,?_,?_⟩
   ·simp[Instr.mapUpdate,run_underlying ht,MapKept.run_getObj_map hb,ck_ok hkt hx hkv,h3,Result.andThen,hj',h4,stays_ok hkv hx,MapKept.run_setObj_map _ hb,ChangeMaps.setBlock]
   ·have hb2:(es.toList.set j { e' with key:=vx,val:=vv }).map (·.born)=es.toList.map (·.born):=by
     rw[List.map_set]
     apply List.ext_getElem (by simp)
     intro n h5 h6
     rw[List.getElem_set]
     split
     ·rename_i e;subst e
      have he:es[j]=e':=(Array.getElem?_eq_some_iff.1 hj').2
      simp[he]
     ·rfl
    refine⟨?_,fun e he=>?_⟩
    ·rw[hlist,hb2];exact hB.1
    ·rw[hlist]at he
     have h7:e.born∈(es.toList.set j { e' with key:=vx,val:=vv }).map (·.born):=List.mem_map.2 ⟨e,he,rfl⟩
     rw[hb2]at h7
     obtain⟨e2,q1,q2⟩:=List.mem_map.1 h7
     rw[<- q2];exact hB.2 e2 q1
   ·rw[hlist,List.map_set]
    have:(es.toList.map (·.key)).set j vx=es.toList.map (·.key):=by
     apply List.ext_getElem (by simp)
     intro n h5 h6
     rw[List.getElem_set]
     split
     ·rename_i e;subst e
      have he:es[j]=e':=(Array.getElem?_eq_some_iff.1 hj').2
      simp[he,h4]
     ·rfl
    simp only[this];exact hks
   ·rw[hlist,List.map_set]
    exact hset hus
   ·rw[hlist,<- hbn,List.map_set]
    apply List.ext_getElem (by simp)
    intro n h5 h6
    rw[List.getElem_set]
    split
    ·rename_i e;subst e
     have he:es[j]=e':=(Array.getElem?_eq_some_iff.1 hj').2
     simp[he]
    ·rfl
 ·rename_i hkv hf _
  cases hm
  rcases fk_ok hkt hx hks hf with⟨_,h1⟩|⟨j',e',h1,_⟩
  ·refine⟨es.push { key:=vx,val:=vv,born:=nB },?_,?_,?_,?_,?_⟩
   ·simp[Instr.mapUpdate,run_underlying ht,MapKept.run_getObj_map hb,ck_ok hkt hx hkv,h1,Result.andThen,MapKept.run_setObj_map _ hb,ChangeMaps.setBlock]
   ·refine⟨?_,fun e he=>?_⟩
    ·simp only[Array.toList_push,List.map_append,List.map_cons,List.map_nil]
     refine List.pairwise_append.2 ⟨hB.1,by simp,fun a ha b hb'=>?_⟩
     obtain⟨e,q1,rfl⟩:=List.mem_map.1 ha
     simp only[List.mem_singleton]at hb'
     subst hb'
     exact hB.2 e q1
    ·simp only[Array.toList_push,List.mem_append,List.mem_singleton]at he
     rcases he with he|rfl
     ·exact Nat.lt_succ_of_lt (hB.2 e he)
     ·exact Nat.lt_succ_self _
   ·simp only[Array.toList_push,List.map_append,List.map_cons,List.map_nil];exact hks.snoc hx
   ·simp only[Array.toList_push,List.map_append,List.map_cons,List.map_nil];exact hsn hus
   ·simp[hbn]
  ·cases h1
 all_goals first|(rename_i e;cases e;done)|cases hm
theorem run_mput{P:Program}{w:World}{imm:Nat->Prop}{t k e:TypeId}{kt:KTy}{b:Nat}{es:Array MapEntry}{ks us ks' us':List AV}{x v':AV}{vx vv:Value}(ht:P.underlying t=some (.map k e))(hkt:ktOf P k=some kt)
  {nB:Nat} (hb:w.heap[b]?=some (.map es nB)) (hB:Born es nB) (hks:RV0s imm w ks (es.toList.map (·.key))) (hus:RV0s imm w us (es.toList.map (·.val))) (hx:RV0 imm w x vx) (hv:RV0 imm w v' vv) (hm:mput kt ks us x v'=some (ks',us')) :
  ∃es' nB',(Instr.mapUpdate t (.map (some b)) vx vv).run P w = .ok () (ChangeMaps.setBlock w b (.map es' nB'))/\Born es' nB'/\RV0s imm w ks' (es'.toList.map (·.key))/\RV0s imm w us' (es'.toList.map (·.val)):=
 run_mputG (S:=RV0s imm w) ht hkt hb hB hks hus hx (fun h=>h.put hv) (fun h=>h.snoc hv) hm
theorem RVs.put{C:Ctx}:∀ {as:List AV} {vs:List Value},RVs C as vs->∀ {i:Nat} {a:AV} {v:Value},RV C a v->RVs C (as.set i a) (vs.set i v)
 | [],vs,h,i,a,v,_=>by simp only[RVs]at h;subst h;simp[RVs]
 |x::as,vs,h,i,a,v,ha=>by
  simp only[RVs]at h;obtain⟨y,ys,rfl,h1,h2⟩:=h
  cases i with
  |zero=>simp only[List.set_cons_zero,RVs];exact⟨_,_,rfl,ha,h2⟩
  |succ i=>simp only[List.set_cons_succ,RVs];exact⟨_,_,rfl,h1,RVs.put h2 ha⟩
theorem run_mputO{P:Program}{C:Ctx}{t k e:TypeId}{kt:KTy}{b:Nat}{es:Array MapEntry}{ks us ks' us':List AV}{x v':AV}{vx vv:Value}(ht:P.underlying t=some (.map k e))(hkt:ktOf P k=some kt)
  {nB:Nat} (hb:C.w.heap[b]?=some (.map es nB)) (hB:Born es nB) (hks:RV0s C.imm C.w ks (es.toList.map (·.key))) (hus:RVs C us (es.toList.map (·.val))) (hx:RV0 C.imm C.w x vx) (hv:RV C v' vv) (hm:mput kt ks us x v'=some (ks',us')) :
  ∃es' nB',(Instr.mapUpdate t (.map (some b)) vx vv).run P C.w = .ok () (ChangeMaps.setBlock C.w b (.map es' nB'))/\Born es' nB'/\RV0s C.imm C.w ks' (es'.toList.map (·.key))/\RVs C us' (es'.toList.map (·.val)):=
 run_mputG (S:=RVs C) ht hkt hb hB hks hus hx (fun h=>h.put hv) (fun h=>h.append (by simp only[RVs];exact⟨_,_,rfl,hv,rfl⟩)) hm
theorem RV0s.erase{imm:Nat->Prop}{w:World}:∀ {as:List AV} {vs:List Value},RV0s imm w as vs->∀(i:Nat),RV0s imm w (as.eraseIdx i) (vs.eraseIdx i)
 | [],vs,h,i=>by simp only[RV0s]at h;subst h;simp[RV0s]
 |a::as,vs,h,i=>by
  simp only[RV0s]at h;obtain⟨x,vs',rfl,h1,h2⟩:=h
  cases i with
  |zero=>simpa using h2
  |succ i=>simp only[List.eraseIdx_cons_succ,RV0s];exact⟨x,_,rfl,h1,RV0s.erase h2 i⟩
theorem map_erase{α β : Type}(f : α -> β):∀(l:List α) (i:Nat),(l.eraseIdx i).map f=(l.map f).eraseIdx i
 | [],i=>by simp
 |a::l,0=>by simp
 |a::l,i+1=>by simp[map_erase f l i]
theorem findK_del{kt:KTy}{x:AV}:∀(ks:List AV) (i:Nat),findK (.del kt) x ks i=findK kt x ks i
 | [],i=>rfl
 |k::ks,i=>by simp only[findK,keq,KTy.base,findK_del ks]
theorem run_mdel{P:Program}{w:World}{imm:Nat->Prop}{t t2 ty k e:TypeId}{kt:KTy}{b:Nat}{es:Array MapEntry}{ks us ks' us':List AV}{x:AV}{vx:Value}(ht:P.underlying t=some (.map k e))(hkt:ktOf P k=some kt)
  {nB:Nat} (hb:w.heap[b]?=some (.map es nB)) (hB:Born es nB) (hks:RV0s imm w ks (es.toList.map (·.key))) (hus:RV0s imm w us (es.toList.map (·.val))) (hx:RV0 imm w x vx) {v':AV} (hm:mput (.del kt) ks us x v'=some (ks',us')) :
  ∃es',(Builtin.delete_ #[t,t2] ty #[.map (some b),vx]).run P w = .ok (.tuple #[]) (ChangeMaps.setBlock w b (.map es' nB))/\Born es' nB/\RV0s imm w ks' (es'.toList.map (·.key))/\RV0s imm w us' (es'.toList.map (·.val)):=by
 simp only[mput,findK_del,KTy.isDel]at hm
 split at hm
 ·rename_i e;cases e
 ·rename_i e;cases e
 ·rename_i j hkv hf _
  cases hm
  rcases fk_ok hkt hx hks hf with⟨h1,_⟩|⟨j',e',h1,h2,h3,h4⟩
  ·cases h1
  ·have hj:j=j':=by injection h1
   subst hj
   have hl:(es.eraseIdxIfInBounds j).toList=es.toList.eraseIdx j:=by
    have hjl:j<es.size:=(List.getElem?_eq_some_iff.1 h2).1
    simp[Array.eraseIdxIfInBounds_eq,hjl]
   have hsub:(es.toList.eraseIdx j).Sublist es.toList:=List.eraseIdx_sublist ..
   refine⟨es.eraseIdxIfInBounds j,?_,⟨?_,fun e he=>hB.2 e (hsub.subset (hl ▸ he))⟩,?_,?_⟩
   ·simp[Builtin.delete_,run_underlying ht,MapKept.run_getObj_map hb,ck_ok hkt hx hkv,h3,Result.andThen,MapKept.run_setObj_map _ hb,ChangeMaps.setBlock,Sem.run_pure]
   ·rw[hl];exact hB.1.sublist (hsub.map _)
   ·rw[hl,map_erase];exact hks.erase j
   ·rw[hl,map_erase];exact hus.erase j
 ·rename_i hkv hf _
  cases hm
  rcases fk_ok hkt hx hks hf with⟨_,h1⟩|⟨j',e',h1,_⟩
  ·refine⟨es,?_,hB,hks,hus⟩
   simp[Builtin.delete_,run_underlying ht,MapKept.run_getObj_map hb,ck_ok hkt hx hkv,h1,Result.andThen,MapKept.run_setObj_map _ hb,ChangeMaps.setBlock,Sem.run_pure]
  ·cases h1
 ·cases hm
theorem run_mdelB{P:Program}{w:World}{imm:Nat->Prop}{t t2 ty k e:TypeId}{kt:KTy}{b:Nat}{es:Array MapEntry}{ks us ks' us':List AV}{x:AV}{vx:Value}(ht:P.underlying t=some (.map k e))(hkt:ktOf P k=some kt)
  {nB:Nat} (hb:w.heap[b]?=some (.map es nB)) (hB:Born es nB) (hks:RV0s imm w ks (es.toList.map (·.key))) (hus:RV0s imm w us (es.toList.map (·.val))) (hx:RV0 imm w x vx) {bn bn':List Nat} {n':Nat} {v':AV} (hbn:es.toList.map (·.born)=bn) (hm:mdel (.del kt) ks us bn nB x v'=some (ks',us',bn',n')) :
  ∃es',(Builtin.delete_ #[t,t2] ty #[.map (some b),vx]).run P w = .ok (.tuple #[]) (ChangeMaps.setBlock w b (.map es' nB))/\Born es' nB/\RV0s imm w ks' (es'.toList.map (·.key))/\RV0s imm w us' (es'.toList.map (·.val))/\es'.toList.map (·.born)=bn'/\n'=nB:=by
 simp only[mdel,findK_del,KTy.isDel]at hm
 split at hm
 ·rename_i e;cases e
 ·rename_i e;cases e
 ·rename_i j hkv hf _
  cases hm
  rcases fk_ok hkt hx hks hf with⟨h1,_⟩|⟨j',e',h1,h2,h3,h4⟩
  ·cases h1
  ·have hj:j=j':=by injection h1
   subst hj
   have hl:(es.eraseIdxIfInBounds j).toList=es.toList.eraseIdx j:=by
    have hjl:j<es.size:=(List.getElem?_eq_some_iff.1 h2).1
    simp[Array.eraseIdxIfInBounds_eq,hjl]
   have hsub:(es.toList.eraseIdx j).Sublist es.toList:=List.eraseIdx_sublist ..
   refine⟨es.eraseIdxIfInBounds j,?_,⟨?_,fun e he=>hB.2 e (hsub.subset (hl ▸ he))⟩,?_,?_,?_,rfl⟩
   ·simp[Builtin.delete_,run_underlying ht,MapKept.run_getObj_map hb,ck_ok hkt hx hkv,h3,Result.andThen,MapKept.run_setObj_map _ hb,ChangeMaps.setBlock,Sem.run_pure]
   ·rw[hl];exact hB.1.sublist (hsub.map _)
   ·rw[hl,map_erase];exact hks.erase j
   ·rw[hl,map_erase];exact hus.erase j
   ·rw[hl,map_erase,hbn]
 ·rename_i hkv hf _
  cases hm
  rcases fk_ok hkt hx hks hf with⟨_,h1⟩|⟨j',e',h1,_⟩
  ·refine⟨es,?_,hB,hks,hus,hbn,rfl⟩
   simp[Builtin.delete_,run_underlying ht,MapKept.run_getObj_map hb,ck_ok hkt hx hkv,h1,Result.andThen,MapKept.run_setObj_map _ hb,ChangeMaps.setBlock,Sem.run_pure]
  ·cases h1
 ·cases hm
theorem RVs.erase{C:Ctx}:∀ {as:List AV} {vs:List Value},RVs C as vs->∀(i:Nat),RVs C (as.eraseIdx i) (vs.eraseIdx i)
 | [],vs,h,i=>by simp only[RVs]at h;subst h;simp[RVs]
 |a::as,vs,h,i=>by
  simp only[RVs]at h;obtain⟨x,vs',rfl,h1,h2⟩:=h
  cases i with
  |zero=>simpa using h2
  |succ i=>simp only[List.eraseIdx_cons_succ,RVs];exact⟨x,_,rfl,h1,RVs.erase h2 i⟩
theorem run_mdelO{P:Program}{C:Ctx}{t t2 ty k e:TypeId}{kt:KTy}{b:Nat}{es:Array MapEntry}{ks us ks' us':List AV}{x:AV}{vx:Value}(ht:P.underlying t=some (.map k e))(hkt:ktOf P k=some kt)
  {nB:Nat} (hb:C.w.heap[b]?=some (.map es nB)) (hB:Born es nB) (hks:RV0s C.imm C.w ks (es.toList.map (·.key))) (hus:RVs C us (es.toList.map (·.val))) (hx:RV0 C.imm C.w x vx) {v':AV} (hm:mput (.del kt) ks us x v'=some (ks',us')) :
  ∃es',(Builtin.delete_ #[t,t2] ty #[.map (some b),vx]).run P C.w = .ok (.tuple #[]) (ChangeMaps.setBlock C.w b (.map es' nB))/\Born es' nB/\RV0s C.imm C.w ks' (es'.toList.map (·.key))/\RVs C us' (es'.toList.map (·.val)):=by
 simp only[mput,findK_del,KTy.isDel]at hm
 split at hm
 ·rename_i e;cases e
 ·rename_i e;cases e
 ·rename_i j hkv hf _
  cases hm
  rcases fk_ok hkt hx hks hf with⟨h1,_⟩|⟨j',e',h1,h2,h3,h4⟩
  ·cases h1
  ·have hj:j=j':=by injection h1
   subst hj
   have hl:(es.eraseIdxIfInBounds j).toList=es.toList.eraseIdx j:=by
    have hjl:j<es.size:=(List.getElem?_eq_some_iff.1 h2).1
    simp[Array.eraseIdxIfInBounds_eq,hjl]
   have hsub:(es.toList.eraseIdx j).Sublist es.toList:=List.eraseIdx_sublist ..
   refine⟨es.eraseIdxIfInBounds j,?_,⟨?_,fun e he=>hB.2 e (hsub.subset (hl ▸ he))⟩,?_,?_⟩
   ·simp[Builtin.delete_,run_underlying ht,MapKept.run_getObj_map hb,ck_ok hkt hx hkv,h3,Result.andThen,MapKept.run_setObj_map _ hb,ChangeMaps.setBlock,Sem.run_pure]
   ·rw[hl];exact hB.1.sublist (hsub.map _)
   ·rw[hl,map_erase];exact hks.erase j
   ·rw[hl,map_erase];exact hus.erase j
 ·rename_i hkv hf _
  cases hm
  rcases fk_ok hkt hx hks hf with⟨_,h1⟩|⟨j',e',h1,_⟩
  ·refine⟨es,?_,hB,hks,hus⟩
   simp[Builtin.delete_,run_underlying ht,MapKept.run_getObj_map hb,ck_ok hkt hx hkv,h1,Result.andThen,MapKept.run_setObj_map _ hb,ChangeMaps.setBlock,Sem.run_pure]
  ·cases h1
 ·cases hm
theorem cv1_rv0{imm:Nat->Prop}{w:World}(v:Value):RV0 imm w (cv1 v) v:=by
 unfold cv1
 split<;>simp[RV0]
theorem cv1_rv0s{imm:Nat->Prop}{w:World}:∀(cs:List Value),RV0s imm w (cs.map cv1) cs
 | []=>by simp[RV0s]
 |c::cs=>by simp only[List.map_cons,RV0s];exact⟨c,cs,rfl,cv1_rv0 c,cv1_rv0s cs⟩
theorem cv_rv0{imm:Nat->Prop}{w:World}(v:Value):RV0 imm w (cv v) v:=by
 unfold cv
 split
 ·split
  ·simp only[RV0];exact⟨_,by simp,cv1_rv0s _⟩
  ·simp[RV0]
 ·split
  ·rename_i vs h
   simp only[RV0]
   have:vs = #[]:=Array.eq_empty_of_size_eq_zero h
   exact⟨[],by rw[this],by simp[RV0s]⟩
  ·simp[RV0]
 ·exact cv1_rv0 v
theorem zv_ok{P:Program}{imm:Nat->Prop}{w:World}{e:TypeId}{z:AV}(hz:zvOf P e=some z):∃zv,(zeroValue e).run P w = .ok zv w/\RV0 imm w z zv:=by
 simp only[zvOf]at hz
 split at hz
 ·rename_i i h1
  split at hz
  ·rename_i v h2
   cases hz
   exact⟨v,by simp[zeroValue,typeInfo,h1,h2],cv_rv0 v⟩
  ·cases hz
 ·cases hz
theorem run_mlook{P:Program}{w:World}{imm:Nat->Prop}{t k e:TypeId}{kt:KTy}{b:Nat}{es:Array MapEntry}{ks us:List AV}{x:AV}{r:Option AV}{vx:Value}{ok:Bool}{z:AV}(ht:P.underlying t=some (.map k e))(hkt:ktOf P k=some kt)
  (hz:zvOf P e=some z) {nB:Nat} (hb:w.heap[b]?=some (.map es nB)) (hks:RV0s imm w ks (es.toList.map (·.key))) (hus:RV0s imm w us (es.toList.map (·.val))) (hx:RV0 imm w x vx) (hm:mlook kt ks us x=some r) :
  ∃rv,(Instr.lookup t (.map (some b)) vx ok).run P w = .ok rv w/\RV0 imm w (lkR ok z r) rv:=by
 obtain⟨zv,hz1,hz2⟩:=zv_ok (imm:=imm) (w:=w) hz
 simp only[mlook]at hm
 split at hm
 ·rename_i j hkv hf
  split at hm<;>cases hm
  rename_i v hv
  rcases fk_ok hkt hx hks hf with⟨h1,_⟩|⟨j',e',h1,h2,h3,h4⟩
  ·cases h1
  ·have hj:j=j':=by injection h1
   subst hj
   have hr:RV0 imm w v e'.val:=hus.get hv (by simp[List.getElem?_map,h2])
   cases ok with
   |true=>exact⟨.tuple #[e'.val, .bool true],by simp[Instr.lookup,run_underlying ht,MapKept.run_getObj_map hb,ck_ok hkt hx hkv,h3,Result.andThen,Sem.run_pure],by simp only[lkR,RV0];exact⟨[e'.val, .bool true],rfl,by simp[RV0s,RV0,hr]⟩⟩
   |false=>exact⟨e'.val,by simp[Instr.lookup,run_underlying ht,MapKept.run_getObj_map hb,ck_ok hkt hx hkv,h3,Result.andThen,Sem.run_pure],by simpa only[lkR]using hr⟩
 ·rename_i hkv hf
  cases hm
  rcases fk_ok hkt hx hks hf with⟨_,h1⟩|⟨j',e',h1,_⟩
  ·cases ok with
   |true=>exact⟨.tuple #[zv, .bool false],by simp[Instr.lookup,run_underlying ht,MapKept.run_getObj_map hb,ck_ok hkt hx hkv,h1,Result.andThen,Sem.run_pure,hz1],by simp only[lkR,RV0];exact⟨[zv, .bool false],rfl,by simp[RV0s,RV0,hz2]⟩⟩
   |false=>exact⟨zv,by simp[Instr.lookup,run_underlying ht,MapKept.run_getObj_map hb,ck_ok hkt hx hkv,h1,Result.andThen,Sem.run_pure,hz1],by simpa only[lkR]using hz2⟩
  ·cases h1
 ·cases hm
theorem run_mlookO{P:Program}{C:Ctx}{t k e:TypeId}{kt:KTy}{b:Nat}{es:Array MapEntry}{ks us:List AV}{x:AV}{r:Option AV}{vx:Value}{ok:Bool}{z:AV}(ht:P.underlying t=some (.map k e))(hkt:ktOf P k=some kt)
  (hz:zvOf P e=some z) {nB:Nat} (hb:C.w.heap[b]?=some (.map es nB)) (hks:RV0s C.imm C.w ks (es.toList.map (·.key))) (hus:RVs C us (es.toList.map (·.val))) (hx:RV0 C.imm C.w x vx) (hm:mlook kt ks us x=some r) :
  ∃rv,(Instr.lookup t (.map (some b)) vx ok).run P C.w = .ok rv C.w/\RV C (lkR ok z r) rv:=by
 obtain⟨zv,hz1,hz2⟩:=zv_ok (imm:=C.imm) (w:=C.w) hz
 have hz2:=hz2.rv
 simp only[mlook]at hm
 split at hm
 ·rename_i j hkv hf
  split at hm<;>cases hm
  rename_i v hv
  rcases fk_ok hkt hx hks hf with⟨h1,_⟩|⟨j',e',h1,h2,h3,h4⟩
  ·cases h1
  ·have hj:j=j':=by injection h1
   subst hj
   obtain⟨y,hy,hr⟩:=hus.get hv
   have hy':y=e'.val:=by rw[List.getElem?_map,h2]at hy;exact(Option.some.inj hy).symm
   subst hy'
   cases ok with
   |true=>exact⟨.tuple #[e'.val, .bool true],by simp[Instr.lookup,run_underlying ht,MapKept.run_getObj_map hb,ck_ok hkt hx hkv,h3,Result.andThen,Sem.run_pure],by simp only[lkR,RV];exact⟨[e'.val, .bool true],rfl,by simp[RVs,RV,hr]⟩⟩
   |false=>exact⟨e'.val,by simp[Instr.lookup,run_underlying ht,MapKept.run_getObj_map hb,ck_ok hkt hx hkv,h3,Result.andThen,Sem.run_pure],by simpa only[lkR]using hr⟩
 ·rename_i hkv hf
  cases hm
  rcases fk_ok hkt hx hks hf with⟨_,h1⟩|⟨j',e',h1,_⟩
  ·cases ok with
   |true=>exact⟨.tuple #[zv, .bool false],by simp[Instr.lookup,run_underlying ht,MapKept.run_getObj_map hb,ck_ok hkt hx hkv,h1,Result.andThen,Sem.run_pure,hz1],by simp only[lkR,RV];exact⟨[zv, .bool false],rfl,by simp[RVs,RV,hz2]⟩⟩
   |false=>exact⟨zv,by simp[Instr.lookup,run_underlying ht,MapKept.run_getObj_map hb,ck_ok hkt hx hkv,h1,Result.andThen,Sem.run_pure,hz1],by simpa only[lkR]using hz2⟩
  ·cases h1
 ·cases hm
theorem run_mpe{P:Program}{w:World}{imm:Nat->Prop}{t k e:TypeId}{kt:KTy}{b:Nat}{es:Array MapEntry}{ks us ks' us':List AV}{x z v:AV}{vx:Value}(ht:P.underlying t=some (.map k e))(hkt:ktOf P k=some kt)(hz:zvOf P e=some z)
  {nB:Nat} (hb:w.heap[b]?=some (.map es nB)) (hB:Born es nB) (hks:RV0s imm w ks (es.toList.map (·.key))) (hus:RV0s imm w us (es.toList.map (·.val))) (hx:RV0 imm w x vx) {bn bn':List Nat} {n' st:Nat} (hbn:es.toList.map (·.born)=bn) (hm:mpeF kt ks us bn nB x z=some (v,st,ks',us',bn',n')) :
  ∃es' vv,(Instr.mapEntry t (.map (some b)) vx).run P w = .ok (.tuple #[vv, .int .i64 st]) (ChangeMaps.setBlock w b (.map es' n'))/\RV0 imm w v vv/\Born es' n'/\RV0s imm w ks' (es'.toList.map (·.key))/\RV0s imm w us' (es'.toList.map (·.val))/\es'.toList.map (·.born)=bn':=by
 simp only[mpeF,ktOf_nd hkt]at hm
 split at hm
 ·rename_i j hkv hf _
  split at hm<;>cases hm
  rename_i hu hbj
  rcases fk_ok hkt hx hks hf with⟨h1,_⟩|⟨j',e',h1,h2,h3,h4⟩
  ·cases h1
  ·have hj:j=j':=by injection h1
   subst hj
   have hj':es[j]?=some e':=by simpa using h2
   have hjl:j<es.size:=(Array.getElem?_eq_some_iff.1 hj').1
   have he:es[j]=e':=(Array.getElem?_eq_some_iff.1 hj').2
   have hst:e'.born=st:=by
    rw[<- hbn,List.getElem?_map,h2]at hbj
    simpa using hbj
   have hsame:(es.modify j fun e=>{ e with key:=vx })=es:=by
    apply Array.ext (by simp)
    intro n h5 h6
    rw[Array.getElem_modify]
    split
    ·rename_i e;subst e;rw[he,<- h4]
    ·rfl
   refine⟨es,e'.val,?_,hus.get hu (by simp[List.getElem?_map,h2]),hB,hks,hus,hbn⟩
   simp[Instr.mapEntry,run_underlying ht,MapKept.run_getObj_map hb,ck_ok hkt hx hkv,h3,Result.andThen,hj',h4,stays_ok hkv hx,MapKept.run_setObj_map _ hb,ChangeMaps.setBlock,hsame,goInt,hst,Sem.run_pure]
 ·rename_i hkv hf _
  cases hm
  rcases fk_ok hkt hx hks hf with⟨_,h1⟩|⟨j',e',h1,_⟩
  ·obtain⟨zv,hz1,hz2⟩:=zv_ok (imm:=imm) (w:=w) hz
   refine⟨es.push { key:=vx,val:=zv,born:=nB },zv,?_,hz2,?_,?_,?_,?_⟩
   ·simp[Instr.mapEntry,run_underlying ht,MapKept.run_getObj_map hb,ck_ok hkt hx hkv,h1,Result.andThen,hz1,MapKept.run_setObj_map _ hb,ChangeMaps.setBlock,goInt,Sem.run_pure]
   ·refine⟨?_,fun e he=>?_⟩
    ·simp only[Array.toList_push,List.map_append,List.map_cons,List.map_nil]
     refine List.pairwise_append.2 ⟨hB.1,by simp,fun a ha b hb'=>?_⟩
     obtain⟨e,q1,rfl⟩:=List.mem_map.1 ha
     simp only[List.mem_singleton]at hb'
     subst hb'
     exact hB.2 e q1
    ·simp only[Array.toList_push,List.mem_append,List.mem_singleton]at he
     rcases he with he|rfl
     ·exact Nat.lt_succ_of_lt (hB.2 e he)
     ·exact Nat.lt_succ_self _
   ·simp only[Array.toList_push,List.map_append,List.map_cons,List.map_nil];exact hks.snoc hx
   ·simp only[Array.toList_push,List.map_append,List.map_cons,List.map_nil];exact hus.snoc hz2
   ·simp[hbn]
  ·cases h1
 all_goals first|(rename_i e;cases e;done)|cases hm
theorem run_mes{P:Program}{w:World}{imm:Nat->Prop}{t:TypeId}{b:Nat}{es:Array MapEntry}{us:List AV}{v:AV}{vv:Value}{nB:Nat}(hb:w.heap[b]?=some (.map es nB))(hB:Born es nB)(hus:RV0s imm w us (es.toList.map (·.val)))(hv:RV0 imm w v vv)
  {bn:List Nat} (hbn:es.toList.map (·.born)=bn) {kd:IntKind} {j c:Nat} (hj:bn[j]?=some c) :
  ∃es',(Instr.entryStore t (.map (some b)) (.int kd c) vv).run P w = .ok () (ChangeMaps.setBlock w b (.map es' nB))/\Born es' nB/\es'.toList.map (·.key)=es.toList.map (·.key)/\RV0s imm w (us.set j v) (es'.toList.map (·.val))/\es'.toList.map (·.born)=bn:=by
 have hjl:j<es.size:=by
  have:=(List.getElem?_eq_some_iff.1 hj).1
  rw[<- hbn]at this;simpa using this
 have hbj:es[j].born=c:=by
  rw[<- hbn,List.getElem?_map,List.getElem?_eq_getElem (by simpa using hjl)]at hj
  simpa using hj
 have hfind:es.findIdx? (fun e=>(e.born:Int)==(c:Int))=some j:=by
  rw[Array.findIdx?_eq_some_iff_getElem]
  refine⟨hjl,by simp[hbj],fun i hi=>?_⟩
  have hp:=List.pairwise_iff_getElem.1 hB.1 i j (by simp;omega) (by simpa using hjl) hi
  simp only[List.getElem_map,Array.getElem_toList,hbj]at hp
  simp;omega
 have hlist:(es.modify j fun e=>{ e with val:=vv }).toList=es.toList.set j { es[j]with val:=vv }:=by
  rw[Array.toList_modify]
  apply List.ext_getElem (by simp)
  intro n h5 h6
  rw[List.getElem_set,List.getElem_modify]
  split
  ·rename_i e;subst e;simp
  ·rfl
 have hb2:(es.toList.set j { es[j]with val:=vv }).map (·.born)=es.toList.map (·.born):=by
  rw[List.map_set]
  apply List.ext_getElem (by simp)
  intro n h5 h6
  rw[List.getElem_set]
  split
  ·rename_i e;subst e;simp
  ·rfl
 refine⟨es.modify j fun e=>{ e with val:=vv },?_,⟨?_,fun e he=>?_⟩,?_,?_,?_⟩
 ·simp[Instr.entryStore,MapKept.run_getObj_map hb,asInt,asIntOf,hfind,Result.andThen,MapKept.run_setObj_map _ hb,ChangeMaps.setBlock,Sem.run_pure]
 ·rw[hlist,hb2];exact hB.1
 ·rw[hlist]at he
  have h7:e.born∈(es.toList.set j { es[j]with val:=vv }).map (·.born):=List.mem_map.2 ⟨e,he,rfl⟩
  rw[hb2]at h7
  obtain⟨e2,q1,q2⟩:=List.mem_map.1 h7
  rw[<- q2];exact hB.2 e2 q1
 ·rw[hlist,List.map_set]
  apply List.ext_getElem (by simp)
  intro n h5 h6
  rw[List.getElem_set]
  split
  ·rename_i e;subst e;simp
  ·rfl
 ·rw[hlist,List.map_set];exact hus.put hv
 ·rw[hlist,hb2,hbn]
section
variable {X:Sess} {E:Env} {o:Oper} {C:Ctx} {s:St} {a:Act} {next:Act->World->Prop} {Q:Exit->Act->World->Prop} {k:St->Prop}
theorem new_obj(hX:SessOk X E)(h:Rel X C s a){nm:Nat}(hf:s.sg.getD nm .dead = .fresh)(ob:Obj)(v:Value)(r:Res)
  (hok:∀T rho w',(∀b,Mem C.w b->w'.heap[b]?=C.w.heap[b]?)->w'.heap[C.w.heap.size]?=some ob->T C.w.heap.size->ResOk ⟨C.imm,T,rho,w',C.l⟩ r (some ⟨C.w.heap.size,v⟩))
  (hbl:∀k,r.blk (some ⟨C.w.heap.size,v⟩)=some k->k=C.w.heap.size) :
  Rel X ⟨C.imm,newB C.w (C.w.alloc ob) C.T,upd C.rho nm (some ⟨C.w.heap.size,v⟩),C.w.alloc ob,C.l⟩ { s with tm:=s.tm,sg:=s.sg.set nm r } a:=by
 obtain⟨hf',hi⟩:=getD_dead hf (by simp)
 have hun:=h.unbound hf'
 have hb:Below C.w.heap.size C.w (C.w.alloc ob):=(Below.refl _ _).alloc (Nat.le_refl _) _
 refine h.update nm hi _ _ _ _ s.tm (fun j=>j != nm) (fun b hb'=>.inl hb') (fun b hb'=>by
   rcases hb' with hb'|hb'
   ·exact Nat.lt_of_lt_of_le (h.T b hb') hb.size
   ·exact hb'.2) (hX.kgrow _ _ _ _ _ _ h.keep hb) (fun o ho=>by rw[hun]at ho;cases ho) (fun k o hk' _=>below_book hb k o hk') (fun j hj e=>by simp[e]at hj) (fun k hk' _=>hb.block k hk') ?_ ?_ (fun d v hdv=>⟨hdv,RV.unbound hun v _ (h.tm d v hdv)⟩) (fun j _=>cells_unbound h hun j)
 ·exact hok _ _ _ (fun b hb'=>hb.block b hb'.lt) (World.alloc_heap_new C.w _) (.inr ⟨Nat.le_refl _,by simp⟩)
 ·intro b hb' j hj hb2
  have e:=hbl b hb'
  have:=(Res.blk_lt (h.sg j) hb2).2.1
  omega
theorem new_objR(hX:SessOk X E)(h:Rel X C s a){nm:Nat}(hf:s.sg.getD nm .dead = .fresh)(ob:Obj)(v:Value)(r:Res)
  (hok:∀T rho w',(∀j,j≠nm->rho j=C.rho j)->(∀b,Mem C.w b->w'.heap[b]?=C.w.heap[b]?)->w'.heap[C.w.heap.size]?=some ob->T C.w.heap.size->ResOk ⟨C.imm,T,rho,w',C.l⟩ r (some ⟨C.w.heap.size,v⟩))
  (hbl:∀k,r.blk (some ⟨C.w.heap.size,v⟩)=some k->k=C.w.heap.size) :
  Rel X ⟨C.imm,newB C.w (C.w.alloc ob) C.T,upd C.rho nm (some ⟨C.w.heap.size,v⟩),C.w.alloc ob,C.l⟩ { s with tm:=s.tm,sg:=s.sg.set nm r } a:=by
 obtain⟨hf',hi⟩:=getD_dead hf (by simp)
 have hun:=h.unbound hf'
 have hb:Below C.w.heap.size C.w (C.w.alloc ob):=(Below.refl _ _).alloc (Nat.le_refl _) _
 refine h.update nm hi _ _ _ _ s.tm (fun j=>j != nm) (fun b hb'=>.inl hb') (fun b hb'=>by
   rcases hb' with hb'|hb'
   ·exact Nat.lt_of_lt_of_le (h.T b hb') hb.size
   ·exact hb'.2) (hX.kgrow _ _ _ _ _ _ h.keep hb) (fun o ho=>by rw[hun]at ho;cases ho) (fun k o hk' _=>below_book hb k o hk') (fun j hj e=>by simp[e]at hj) (fun k hk' _=>hb.block k hk') ?_ ?_ (fun d v hdv=>⟨hdv,RV.unbound hun v _ (h.tm d v hdv)⟩) (fun j _=>cells_unbound h hun j)
 ·exact hok _ _ _ (fun j hj=>by simp[upd,hj]) (fun b hb'=>hb.block b hb'.lt) (World.alloc_heap_new C.w _) (.inr ⟨Nat.le_refl _,by simp⟩)
 ·intro b hb' j hj hb2
  have e:=hbl b hb'
  have:=(Res.blk_lt (h.sg j) hb2).2.1
  omega
theorem set_obj(hX:SessOk X E)(h:Rel X C s a){i b:Nat}{v:Value}{r':Res}{w':World}(ho:C.rho i=some ⟨b,v⟩)(hi:i<s.sg.length)(hblk:(s.sg.getD i .fresh).blk (C.rho i)=some b)(hni:¬C.imm b)
  (hg:OneB b C.w w') (hok:ResOk ⟨C.imm,C.T,upd C.rho i (C.rho i),w',C.l⟩ r' (some ⟨b,v⟩)) (hb':∀k,r'.blk (some ⟨b,v⟩)=some k->k=b) :
  Rel X ⟨C.imm,C.T,upd C.rho i (C.rho i),w',C.l⟩ { s with tm:=s.tm,sg:=s.sg.set i r' } a:=by
 obtain⟨hT,hlt,hm⟩:=Res.blk_lt (h.sg i) hblk
 have hoth:=hg.other
 refine h.update i hi _ _ _ _ s.tm (fun _=>true) (fun b hb'=>hb') (fun b' hb'=>by rw[hg.size];exact h.T b' hb') (hX.kset _ _ _ _ _ _ b h.keep hT (fun hq=>hni (h.imm0 _ hq)) (fun hq=>hni (h.pin.2.2 _ hq)) hg) (fun o ho=>ho) (fun k o hk' ho'=>by
   by_cases e:k=b
   ·subst e;obtain⟨o2,h1,h2⟩:=hm;rw[hk']at h1;cases h1;cases o<;>simp[isMem,isBook]at h2 ho'
   ·exact(hoth k e).trans hk') (fun j _ _=>rfl) (fun k hk' hne=>hoth k ?_) ?_ ?_ (fun d v hdv=>⟨hdv,AV.refsIn_all (fun _=>rfl) v⟩) (fun j _=>AV.refsInL_all (fun _=>rfl) _)
 ·rintro rfl
  rcases hne with hne|⟨j,hj,hne⟩
  ·exact hni hne
  ·exact hj (h.dis j i k hne hblk)
 ·rw[ho]at hok⊢;exact hok
 ·intro k hk j hj hb2
  rw[ho]at hk
  have e:=hb' k hk
  subst e
  exact hj (h.dis j i k hb2 hblk)
theorem mkm_ok(hX:SessOk X E)(hk:Nx X k next)(h:Rel X C s a)(hd:∀i,o.dst=some i->i<X.N){t:TypeId}{nm:Nat}(hop:o.op = .makeMap t none)(hE:evO E o.dst (.mkm nm) s k):o.wpIn X.F X.n X.P a C.w next Q:=by
 simp only[evO,evX,app]at hE
 split at hE
 ·rename_i hf
  have hN:=new_obj hX h hf (.map #[] 0) (.map (some C.w.heap.size)) (.mp false [] []) (fun T rho w' hs hn hT=>⟨C.w.heap.size,#[],0,rfl,hT,hn,⟨by simp,by simp⟩,by simp[RV0s],by simp[RV0s],fun e=>absurd e (by simp),fun _ hi=>by have:=(h.imm _ hi).2.lt;omega⟩)
   (fun k hk=>by simpa[Res.blk]using hk.symm)
  refine up_value hX (v:=.map (some C.w.heap.size)) (w':=C.w.alloc (.map #[] 0)) (fun c=>by simp[hop]) ?_ ?_
  ·simp[execOp,hop,Instr.makeMap,newObj,Sem.run]
  ·have:=hN.put (v:=.row nm) (x:=.map (some C.w.heap.size)) (by simp[RV,upd]) o.dst hd
   exact hk _ _ _ this hE
 ·exact hE.elim
theorem mko_ok(hX:SessOk X E)(hk:Nx X k next)(h:Rel X C s a)(hd:∀i,o.dst=some i->i<X.N){t:TypeId}{nm:Nat}(hop:o.op = .makeMap t none)(hE:evO E o.dst (.mko nm) s k):o.wpIn X.F X.n X.P a C.w next Q:=by
 simp only[evO,evX,app]at hE
 split at hE
 ·rename_i hf
  have hN:=new_obj hX h hf (.map #[] 0) (.map (some C.w.heap.size)) (.mpo [] []) (fun T rho w' hs hn hT=>⟨C.w.heap.size,#[],0,rfl,hT,hn,⟨by simp,by simp⟩,by simp[RV0s],by simp[RVs],fun hi=>by have:=(h.imm _ hi).2.lt;omega⟩)
   (fun k hk=>by simpa[Res.blk]using hk.symm)
  refine up_value hX (v:=.map (some C.w.heap.size)) (w':=C.w.alloc (.map #[] 0)) (fun c=>by simp[hop]) ?_ ?_
  ·simp[execOp,hop,Instr.makeMap,newObj,Sem.run]
  ·have:=hN.put (v:=.row nm) (x:=.map (some C.w.heap.size)) (by simp[RV,upd]) o.dst hd
   exact hk _ _ _ this hE
 ·exact hE.elim
theorem scV_to0{imm:Nat->Prop}{w:World}:∀ {as:List AV} {vs:List Value},scV as=true->RVs C as vs->RV0s imm w as vs
 | [],vs,_,ha=>by simpa only[RVs,RV0s]using ha
 |.int k a::as,vs,h,ha=>by
  simp only[scV]at h
  simp only[RVs,RV]at ha
  obtain⟨_,vs',rfl,rfl,ha⟩:=ha
  simp only[RV0s,RV0]
  exact⟨_,vs',rfl,rfl,scV_to0 h ha⟩
 |.bool a::as,vs,h,ha=>by
  simp only[scV]at h
  simp only[RVs,RV]at ha
  obtain⟨_,vs',rfl,rfl,ha⟩:=ha
  simp only[RV0s,RV0]
  exact⟨_,vs',rfl,rfl,scV_to0 h ha⟩
theorem keyV_to0{kt:KTy}{x:AV}{v:Value}(hv:keyV kt x=true)(hx:RV C x v){imm:Nat->Prop}{w:World}:RV0 imm w x v:=by
 unfold keyV at hv
 generalize kt.base=kb at hv
 cases kb<;>cases x<;>simp only[keyVB]at hv<;>try cases hv
 all_goals first
  |(simpa only[RV,RV0]using hx;done)
  |skip
 split at hv
 ·simp only[RV,RV0]at hx⊢
  obtain⟨vs,h1,h2⟩:=hx
  exact⟨vs,h1,scV_to0 hv h2⟩
 ·cases hv
theorem mput_key{kt:KTy}{ks us ks' us':List AV}{x v:AV}(h:mput kt ks us x v=some (ks',us')):keyV kt x=true:=by
 simp only[mput]at h
 split at h<;>first|assumption|cases h
theorem mpeF_key{kt:KTy}{ks us ks' us':List AV}{bn bn':List Nat}{n n' b:Nat}{x z v:AV}(h:mpeF kt ks us bn n x z=some (v,b,ks',us',bn',n')):keyV kt x=true:=by
 simp only[mpeF]at h
 split at h<;>first|assumption|cases h
theorem mdel_key{kt:KTy}{ks us ks' us':List AV}{bn bn':List Nat}{n n':Nat}{x v:AV}(h:mdel kt ks us bn n x v=some (ks',us',bn',n')):keyV kt x=true:=by
 simp only[mdel]at h
 split at h<;>first|assumption|cases h
theorem mlook_key{kt:KTy}{ks us:List AV}{x:AV}{r:Option AV}(h:mlook kt ks us x=some r):keyV kt x=true:=by
 simp only[mlook]at h
 split at h<;>first|assumption|cases h
theorem set_dead{sg:List Res}{i:Nat}{z:List (Nat × Res)}(hz:∀p∈z,Iced sg p)(hn:i∉z.map (·.1)):(setL sg z).getD i .fresh=sg.getD i .fresh:=by
 rw[setL_get z sg hz,if_neg hn]
theorem fstN_map:∀z:List (Nat × Res),fstN z=z.map (·.1)
 | []=>rfl
 |(i,_)::z=>by simp[fstN,fstN_map z]
theorem mpu_ok(hX:SessOk X E)(hk:Nx X k next)(h:Rel X C s a)(hd:o.dst=none){t kk e:TypeId}{kt:KTy}{m x v:Operand}{p q r:Opd}{ne:List Opd}(hop:o.op = .mapUpdate t m x v\/o.op = .insert t m x v)(ht:X.P.underlying t=some (.map kk e))(hkt:ktOf X.P kk=some kt)
  (hp:opd m=some p) (hq:opd x=some q) (hr:opd v=some r) (hE:evO E o.dst (.mpu kt p q r ne) s k):o.wpIn X.F X.n X.P a C.w next Q:=by
 simp only[evO,evX,app]at hE
 split at hE
 ·rename_i i kv vv hm hx hv
  split at hE
  ·rename_i ks us z v' hr1 hz hfz
   split at hE
   ·rename_i hc
    obtain⟨hc,_⟩:=hc
    obtain⟨ks',us',hput,hE⟩:=hE.out
    have e1:=ev_ok h hp hm
    have e2:=ev_ok h hq hx
    have e3:=ev_ok h hr hv
    obtain⟨hf',hi⟩:=getD_dead hr1 (by simp)
    have hni:i∉z.map (·.1):=fun hm=>by
     have:=memN_iff.2 (by rw[fstN_map];exact hm:i∈fstN z)
     rw[this]at hc;cases hc
    have hI:=h.ice (reach_iced vv z hz)
    have hv0:=frz_z h 8 vv _ _ z hfz hz e3
    simp only[RV]at e1
    obtain⟨ow,ho,e1⟩:=e1
    have hs:=hI.sg i
    have hg:(setL s.sg z).getD i .fresh = .mp false ks us:=by rw[set_dead (reach_iced vv z hz) hni,hf']
    simp only at hs
    rw[hg,ho]at hs
    obtain⟨b,es,nB,h1,h2,h3,h4,h5,h6,_,h8⟩:=hs
    cases h1
    have hni':=h8 rfl
    obtain⟨es',nB',hrun,hB',hks',hus'⟩:=run_mput (P:=X.P) (w:=C.w) (imm:=immZ C s z) ht hkt h3 h4 h5 h6 (keyV_to0 (mput_key hput) e2) hv0 hput
    have hlt:b<C.w.heap.size:=(Array.getElem?_eq_some_iff.1 h3).1
    have hone:OneB b C.w (ChangeMaps.setBlock C.w b (.map es' nB')):=⟨rfl,rfl,rfl,by simp[ChangeMaps.setBlock],fun k e=>sb_other e _,⟨_,h3,rfl⟩,⟨_,sb_same (Array.getElem?_eq_some_iff.1 h3).1 _,rfl⟩⟩
    have hpers:Pers (immZ C s z) (immZ C s z) C.w (ChangeMaps.setBlock C.w b (.map es' nB')):=fun b' hb'=>⟨hb',sb_other (fun(e:b'=b)=>hni' (by subst e;exact hb')) _⟩
    have hR:=set_obj (C:=⟨immZ C s z,C.T,C.rho,C.w,C.l⟩) (r':=.mp false ks' us') hX hI (i:=i) ho (by rw[setL_length];exact hi) (by show((setL s.sg z).getD i .fresh).blk (C.rho i)=_;rw[hg,ho];rfl) hni' hone
     ⟨b,es',nB',rfl,h2,sb_same hlt _,hB',RV0s.mono hpers _ _ hks',RV0s.mono hpers _ _ hus',fun e=>absurd e (by simp),fun _=>hni'⟩ (fun k hk=>by simpa[Res.blk]using hk.symm)
    refine up_skip hX (w':=ChangeMaps.setBlock C.w b (.map es' nB')) (fun c=>by rcases hop with e|e<;>simp[e]) ?_ ?_
    ·rcases hop with e|e<;>simp[execOp,e,e1,hrun,Sem.run_pure,Sem.run_map]
    ·rw[hd]at hE⊢
     refine hk _ _ _ hR ?_
     rw[setL_append]at hE
     exact hE
   ·exact hE.elim
  ·rename_i ks us hr1
   split at hE
   ·rename_i hc
    obtain⟨ks',us',hput,hE⟩:=hE.out
    have e1:=ev_ok h hp hm
    have e2:=ev_ok h hq hx
    have e3:=ev_ok h hr hv
    obtain⟨hf',hi⟩:=getD_dead hr1 (by simp)
    simp only[RV]at e1
    obtain⟨ow,ho,e1⟩:=e1
    have hs:=h.sg i
    rw[hf',ho]at hs
    obtain⟨b,es,nB,h1,h2,h3,h4,h5,h6,hni'⟩:=hs
    cases h1
    obtain⟨es',nB',hrun,hB',hks',hus'⟩:=run_mputO (P:=X.P) (C:=C) ht hkt h3 h4 h5 h6 (keyV_to0 (mput_key hput) e2) e3 hput
    have hlt:b<C.w.heap.size:=(Array.getElem?_eq_some_iff.1 h3).1
    have hone:OneB b C.w (ChangeMaps.setBlock C.w b (.map es' nB')):=⟨rfl,rfl,rfl,by simp[ChangeMaps.setBlock],fun k e=>sb_other e _,⟨_,h3,rfl⟩,⟨_,sb_same (Array.getElem?_eq_some_iff.1 h3).1 _,rfl⟩⟩
    have hpers:Pers C.imm C.imm C.w (ChangeMaps.setBlock C.w b (.map es' nB')):=fun b' hb'=>⟨hb',sb_other (fun(e:b'=b)=>hni' (by subst e;exact hb')) _⟩
    have hlat:Later (fun _=>true) C ⟨C.imm,C.T,upd C.rho i (C.rho i),ChangeMaps.setBlock C.w b (.map es' nB'),C.l⟩:=⟨hpers,fun j _=>by simp only[upd];split<;>simp_all,rfl⟩
    have hR:=set_obj (C:=C) (r':=.mpo ks' us') hX h (i:=i) ho hi (by rw[hf',ho];rfl) hni' hone
     ⟨b,es',nB',rfl,h2,sb_same hlt _,hB',RV0s.mono hpers _ _ hks',RVs.later hlat _ _ (AV.refsInL_all (fun _=>rfl) _) hus',hni'⟩ (fun k hk=>by simpa[Res.blk]using hk.symm)
    refine up_skip hX (w':=ChangeMaps.setBlock C.w b (.map es' nB')) (fun c=>by rcases hop with e|e<;>simp[e]) ?_ ?_
    ·rcases hop with e|e<;>simp[execOp,e,e1,hrun,Sem.run_pure,Sem.run_map]
    ·rw[hd]at hE⊢
     exact hk _ _ _ hR hE
   ·exact hE.elim
  ·rename_i ks us bn n hr1
   split at hE
   ·rename_i hc
    obtain⟨ks',us',bn',n',hput,hE⟩:=hE.out
    have e1:=ev_ok h hp hm
    have e2:=ev_ok h hq hx
    have e3:=ev_ok h hr hv
    obtain⟨hf',hi⟩:=getD_dead hr1 (by simp)
    simp only[RV]at e1
    obtain⟨ow,ho,e1⟩:=e1
    have hs:=h.sg i
    rw[hf',ho]at hs
    obtain⟨b,es,h1,h2,h3,h4,hbs,h5,h6,hni'⟩:=hs
    cases h1
    have hv0:RV0 C.imm C.w vv _:=RV0.mono (fun b hb=>hb.elim) _ _ (flat0 vv _ hc.1 e3)
    obtain⟨es',hrun,hB',hks',hus',hbs'⟩:=run_mputB (P:=X.P) (w:=C.w) (imm:=C.imm) (S:=RV0s C.imm C.w) ht hkt h3 h4 h5 h6 (keyV_to0 (mdel_key hput) e2) (fun h=>h.put hv0) (fun h=>h.snoc hv0) hbs hput
    have hlt:b<C.w.heap.size:=(Array.getElem?_eq_some_iff.1 h3).1
    have hone:OneB b C.w (ChangeMaps.setBlock C.w b (.map es' n')):=⟨rfl,rfl,rfl,by simp[ChangeMaps.setBlock],fun k e=>sb_other e _,⟨_,h3,rfl⟩,⟨_,sb_same (Array.getElem?_eq_some_iff.1 h3).1 _,rfl⟩⟩
    have hpers:Pers C.imm C.imm C.w (ChangeMaps.setBlock C.w b (.map es' n')):=fun b' hb'=>⟨hb',sb_other (fun(e:b'=b)=>hni' (by subst e;exact hb')) _⟩
    have hR:=set_obj (C:=C) (r':=.mpb ks' us' bn' n') hX h (i:=i) ho hi (by rw[hf',ho];rfl) hni' hone
     ⟨b,es',rfl,h2,sb_same hlt _,hB',hbs',RV0s.mono hpers _ _ hks',RV0s.mono hpers _ _ hus',hni'⟩ (fun k hk=>by simpa[Res.blk]using hk.symm)
    refine up_skip hX (w':=ChangeMaps.setBlock C.w b (.map es' n')) (fun c=>by rcases hop with e|e<;>simp[e]) ?_ ?_
    ·rcases hop with e|e<;>simp[execOp,e,e1,hrun,Sem.run_pure,Sem.run_map]
    ·rw[hd]at hE⊢
     exact hk _ _ _ hR hE
   ·exact hE.elim
  ·exact hE.elim
 ·exact hE.elim
theorem mde_ok(hX:SessOk X E)(hk:Nx X k next)(h:Rel X C s a)(hd:o.dst=none){c:Call}{t t2 kk e:TypeId}{kt:KTy}{m x:Operand}{p q:Opd}{ne:List Opd}(hop:o.op = .call c)(hcal:c.callee = .builtin .delete)(ha:c.args.toList=[m,x])(hat:c.argTypes.toList=[t,t2])(ht:X.P.underlying t=some (.map kk e))(hkt:ktOf X.P kk=some kt)
  (hp:opd m=some p) (hq:opd x=some q) (hE:evO E o.dst (.mpu (.del kt) p q (.c (.bool false)) ne) s k):o.wpIn X.F X.n X.P a C.w next Q:=by
 have ha':c.args = #[m,x]:=by apply Array.ext';simpa using ha
 have hat':c.argTypes = #[t,t2]:=by apply Array.ext';simpa using hat
 simp only[evO,evX,app]at hE
 split at hE
 ·rename_i i kv vv hm hx hv
  split at hE
  ·rename_i ks us z v' hr1 hz hfz
   split at hE
   ·rename_i hc
    obtain⟨hc,_⟩:=hc
    replace hE:=hE.out
    obtain⟨ks',us',hput,hE⟩:=hE
    have e1:=ev_ok h hp hm
    have e2:=ev_ok h hq hx
    cases hv
    obtain⟨hf',hi⟩:=getD_dead hr1 (by simp)
    have hni:i∉z.map (·.1):=fun hm=>by
     have:=memN_iff.2 (by rw[fstN_map];exact hm:i∈fstN z)
     rw[this]at hc;cases hc
    have hI:=h.ice (reach_iced _ z hz)
    simp only[RV]at e1
    obtain⟨ow,ho,e1⟩:=e1
    have hs:=hI.sg i
    have hg:(setL s.sg z).getD i .fresh = .mp false ks us:=by rw[set_dead (reach_iced _ z hz) hni,hf']
    simp only at hs
    rw[hg,ho]at hs
    obtain⟨b,es,nB,h1,h2,h3,h4,h5,h6,_,h8⟩:=hs
    cases h1
    have hni':=h8 rfl
    obtain⟨es',hrun,hB',hks',hus'⟩:=run_mdel (P:=X.P) (w:=C.w) (imm:=immZ C s z) (t2:=t2) (ty:=o.type) ht hkt h3 h4 h5 h6 (keyV_to0 (mput_key hput) e2) hput
    have hlt:b<C.w.heap.size:=(Array.getElem?_eq_some_iff.1 h3).1
    have hone:OneB b C.w (ChangeMaps.setBlock C.w b (.map es' nB)):=⟨rfl,rfl,rfl,by simp[ChangeMaps.setBlock],fun k e=>sb_other e _,⟨_,h3,rfl⟩,⟨_,sb_same (Array.getElem?_eq_some_iff.1 h3).1 _,rfl⟩⟩
    have hpers:Pers (immZ C s z) (immZ C s z) C.w (ChangeMaps.setBlock C.w b (.map es' nB)):=fun b' hb'=>⟨hb',sb_other (fun(e:b'=b)=>hni' (by subst e;exact hb')) _⟩
    have hR:=set_obj (C:=⟨immZ C s z,C.T,C.rho,C.w,C.l⟩) (r':=.mp false ks' us') hX hI (i:=i) ho (by rw[setL_length];exact hi) (by show((setL s.sg z).getD i .fresh).blk (C.rho i)=_;rw[hg,ho];rfl) hni' hone
     ⟨b,es',nB,rfl,h2,sb_same hlt _,hB',RV0s.mono hpers _ _ hks',RV0s.mono hpers _ _ hus',fun e=>absurd e (by simp),fun _=>hni'⟩ (fun k hk=>by simpa[Res.blk]using hk.symm)
    refine up_value hX (v:=.tuple #[]) (w':=ChangeMaps.setBlock C.w b (.map es' nB)) (fun c=>by simp[hop]) ?_ ?_
    ·simp[execOp,hop,hcal,ha',hat',e1,resolve,invoke,builtin,hrun,Sem.run_pure,Sem.run_map]
    ·rw[hd]at hE⊢
     refine hk _ _ _ hR ?_
     rw[setL_append]at hE
     exact hE
   ·exact hE.elim
  ·rename_i ks us hr1
   split at hE
   ·rename_i hc
    replace hE:=hE.out
    obtain⟨ks',us',hput,hE⟩:=hE
    have e1:=ev_ok h hp hm
    have e2:=ev_ok h hq hx
    cases hv
    obtain⟨hf',hi⟩:=getD_dead hr1 (by simp)
    simp only[RV]at e1
    obtain⟨ow,ho,e1⟩:=e1
    have hs:=h.sg i
    rw[hf',ho]at hs
    obtain⟨b,es,nB,h1,h2,h3,h4,h5,h6,hni'⟩:=hs
    cases h1
    obtain⟨es',hrun,hB',hks',hus'⟩:=run_mdelO (P:=X.P) (C:=C) (t2:=t2) (ty:=o.type) ht hkt h3 h4 h5 h6 (keyV_to0 (mput_key hput) e2) hput
    have hlt:b<C.w.heap.size:=(Array.getElem?_eq_some_iff.1 h3).1
    have hone:OneB b C.w (ChangeMaps.setBlock C.w b (.map es' nB)):=⟨rfl,rfl,rfl,by simp[ChangeMaps.setBlock],fun k e=>sb_other e _,⟨_,h3,rfl⟩,⟨_,sb_same (Array.getElem?_eq_some_iff.1 h3).1 _,rfl⟩⟩
    have hpers:Pers C.imm C.imm C.w (ChangeMaps.setBlock C.w b (.map es' nB)):=fun b' hb'=>⟨hb',sb_other (fun(e:b'=b)=>hni' (by subst e;exact hb')) _⟩
    have hlat:Later (fun _=>true) C ⟨C.imm,C.T,upd C.rho i (C.rho i),ChangeMaps.setBlock C.w b (.map es' nB),C.l⟩:=⟨hpers,fun j _=>by simp only[upd];split<;>simp_all,rfl⟩
    have hR:=set_obj (C:=C) (r':=.mpo ks' us') hX h (i:=i) ho hi (by rw[hf',ho];rfl) hni' hone
     ⟨b,es',nB,rfl,h2,sb_same hlt _,hB',RV0s.mono hpers _ _ hks',RVs.later hlat _ _ (AV.refsInL_all (fun _=>rfl) _) hus',hni'⟩ (fun k hk=>by simpa[Res.blk]using hk.symm)
    refine up_value hX (v:=.tuple #[]) (w':=ChangeMaps.setBlock C.w b (.map es' nB)) (fun c=>by simp[hop]) ?_ ?_
    ·simp[execOp,hop,hcal,ha',hat',e1,resolve,invoke,builtin,hrun,Sem.run_pure,Sem.run_map]
    ·rw[hd]at hE⊢
     exact hk _ _ _ hR hE
   ·exact hE.elim
  ·rename_i ks us bn n hr1
   split at hE
   ·rename_i hc
    replace hE:=hE.out
    obtain⟨ks',us',bn',n',hput,hE⟩:=hE
    have e1:=ev_ok h hp hm
    have e2:=ev_ok h hq hx
    cases hv
    obtain⟨hf',hi⟩:=getD_dead hr1 (by simp)
    simp only[RV]at e1
    obtain⟨ow,ho,e1⟩:=e1
    have hs:=h.sg i
    rw[hf',ho]at hs
    obtain⟨b,es,h1,h2,h3,h4,hbs,h5,h6,hni'⟩:=hs
    cases h1
    obtain⟨es',hrun,hB',hks',hus',hbs',hnn⟩:=run_mdelB (P:=X.P) (w:=C.w) (imm:=C.imm) (t2:=t2) (ty:=o.type) ht hkt h3 h4 h5 h6 (keyV_to0 (mdel_key hput) e2) hbs hput
    subst hnn
    have hlt:b<C.w.heap.size:=(Array.getElem?_eq_some_iff.1 h3).1
    have hone:OneB b C.w (ChangeMaps.setBlock C.w b (.map es' n')):=⟨rfl,rfl,rfl,by simp[ChangeMaps.setBlock],fun k e=>sb_other e _,⟨_,h3,rfl⟩,⟨_,sb_same (Array.getElem?_eq_some_iff.1 h3).1 _,rfl⟩⟩
    have hpers:Pers C.imm C.imm C.w (ChangeMaps.setBlock C.w b (.map es' n')):=fun b' hb'=>⟨hb',sb_other (fun(e:b'=b)=>hni' (by subst e;exact hb')) _⟩
    have hR:=set_obj (C:=C) (r':=.mpb ks' us' bn' n') hX h (i:=i) ho hi (by rw[hf',ho];rfl) hni' hone
     ⟨b,es',rfl,h2,sb_same hlt _,hB',hbs',RV0s.mono hpers _ _ hks',RV0s.mono hpers _ _ hus',hni'⟩ (fun k hk=>by simpa[Res.blk]using hk.symm)
    refine up_value hX (v:=.tuple #[]) (w':=ChangeMaps.setBlock C.w b (.map es' n')) (fun c=>by simp[hop]) ?_ ?_
    ·simp[execOp,hop,hcal,ha',hat',e1,resolve,invoke,builtin,hrun,Sem.run_pure,Sem.run_map]
    ·rw[hd]at hE⊢
     exact hk _ _ _ hR hE
   ·exact hE.elim
  ·exact hE.elim
 ·exact hE.elim
theorem mrg_ok(hX:SessOk X E)(hk:Nx X k next)(h:Rel X C s a)(hd:∀i,o.dst=some i->i<X.N){t kk e:TypeId}{m:Operand}{p:Opd}{nm:Nat}{ne:List Opd}(hop:o.op = .range t m)(ht:X.P.underlying t=some (.map kk e))
  (hp:opd m=some p) (hE:evO E o.dst (.mrg nm p ne) s k):o.wpIn X.F X.n X.P a C.w next Q:=by
 simp only[evO,evX,app]at hE
 split at hE
 ·rename_i v hf hm
  split at hE
  ·rename_i z ks us hz hfz
   split at hE
   ·have e1:=ev_ok h hp hm
    have hI:=h.ice (reach_iced v z hz)
    have hv0:=frz_z h 8 v _ _ z hfz hz e1
    have hv0':=hv0
    simp only[RV0]at hv0
    obtain⟨b,es,nB,h1,h2,h3,h4,h5,h6⟩:=hv0
    rw[h1]at hv0'
    obtain⟨hf1,hf2⟩:=getD_dead hf (by simp)
    have hfr:(setL s.sg z).getD nm .dead = .fresh:=by
     have hg:=setL_get z s.sg (reach_iced v z hz) nm
     have:(setL s.sg z).getD nm .fresh = .fresh:=by
      rw[hg];split
      ·rw[hf1];rfl
      ·exact hf1
     have hlt:nm<(setL s.sg z).length:=by rw[setL_length];exact hf2
     simpa[List.getD_eq_getElem?_getD,hlt]using this
    have hN:=new_obj hX hI hfr (.mapIter (some b) nB #[] nB) (.pointer (some ⟨C.w.heap.size,0,none⟩)) (.itr ks us [] []) (fun T rho w' hs hn hT=>
      ⟨C.w.heap.size,b,nB,[],rfl,hT,fun hi=>by have:=(hI.imm _ hi).2.lt;simp only at this;omega,hn,IterAt.mono (fun b' hb'=>⟨hb',hs b' (hI.imm b' hb').2⟩) (show IterAt (immZ C s z) C.w ks us b nB [] [] from ⟨h2,es,h3,h4,h5,h6,rfl,fun j hj=>by cases hj⟩),fun kv uv e=>by cases e⟩)
     (fun k hk=>by simpa[Res.blk]using hk.symm)
    refine up_value hX (v:=.pointer (some ⟨C.w.heap.size,0,none⟩)) (w':=C.w.alloc (.mapIter (some b) nB #[] nB)) (fun c=>by simp[hop]) ?_ ?_
    ·simp[execOp,hop,h1,run_range_map _ _ _ _ _ _ _ ht h3,Sem.run_pure,Sem.run_map]
    ·have:=hN.put (v:=.row nm) (x:=.pointer (some ⟨C.w.heap.size,0,none⟩)) (by simp[RV,upd]) o.dst hd
     rw[setL_append]at hE
     exact hk _ _ _ this hE
   ·exact hE.elim
  ·exact hE.elim
 ·exact hE.elim
theorem mnx_ok(hX:SessOk X E)(hk:Nx X k next)(h:Rel X C s a)(hd:∀i,o.dst=some i->i<X.N){x:Operand}{p:Opd}(hop:o.op = .next x false)(hp:opd x=some p)(hE:evO E o.dst (.mnx p) s k):o.wpIn X.F X.n X.P a C.w next Q:=by
 simp only[evO,evX,app]at hE
 split at hE
 ·rename_i i hv
  split at hE
  ·rename_i ks us seen last hr
   obtain⟨hf',hi⟩:=getD_dead hr (by simp)
   have e1:=ev_ok h hp hv
   simp only[RV]at e1
   obtain⟨ow,ho,e1⟩:=e1
   have hs:=h.sg i
   rw[hf',ho]at hs
   obtain⟨b,m,nB,mem,h1,h2,h3,h4,h5,h6⟩:=hs
   cases h1
   obtain⟨k1,es,k2,k3,k4,k5,k6,k7⟩:=h5
   have hl1:ks.length=es.size:=by have:=k4.len;simp at this;omega
   have hl2:us.length=es.size:=by have:=k5.len;simp at this;omega
   have hat:∀(j:Nat) (h:j<es.size),((es[j]?).map (·.born)).getD 0=es[j].born:=fun j hj=>by simp[hj]
   have hinj:∀(i j:Nat) (h:i<es.size) (h':j<es.size),es[i].born=es[j].born->i=j:=fun i j hi' hj' e=>by
    have hp:=List.pairwise_iff_getElem.1 k3.1
    rcases Nat.lt_trichotomy i j with q|q|q
    ·have:=hp i j (by simpa using hi') (by simpa using hj') q
     simp only[List.getElem_map,Array.getElem_toList]at this;omega
    ·exact q
    ·have:=hp j i (by simpa using hj') (by simpa using hi') q
     simp only[List.getElem_map,Array.getElem_toList]at this;omega
   have hmem:∀(j:Nat) (h:j<es.size),es[j].born∈mem->j∈seen:=fun j hj hm=>by
    rw[k6]at hm
    obtain⟨i',q1,q2⟩:=List.mem_map.1 hm
    rw[hat i' (k7 i' q1)]at q2
    rw[<- hinj i' j (k7 i' q1) hj q2];exact q1
   rcases run_next_at (P:=X.P) C.w o.type b m nB nB mem.toArray es nB h4 k2 k3.2 (Nat.le_refl _)with⟨h0,hrun⟩|⟨e,he,w1,hw1,hrun⟩
   ·have hall:∀j,j<ks.length->j∈seen:=fun j hj=>by
     have:=all_seen es mem.toArray h0 (es[j]'(by omega)) (by simp)
     exact hmem j (by omega) (by simpa using this)
    refine up_value hX (v:=.tuple #[.bool false]) (w':=C.w) (fun c=>by simp[hop]) (by simp[execOp,hop,e1,hrun,Sem.run_pure,Sem.run_map]) ?_
    exact hk _ _ _ (h.put (v:=.tup [.bool false]) (x:=.tuple #[.bool false]) (by simp[RV,RVs]) o.dst hd) (hE.none hall)
   ·obtain⟨q1,q2⟩:=mem_left he
    obtain⟨j,hj,hje⟩:=List.getElem_of_mem q1
    have hj':j<es.size:=by simpa using hj
    have hb1:e.born=es[j].born:=by rw[<- hje];simp
    have hkv:ks[j]?=some ks[j]:=by simp[show j<ks.length from by omega]
    have huv:us[j]?=some us[j]:=by simp[show j<us.length from by omega]
    have hrk:RV0 C.imm C.w ks[j] e.key:=k4.get hkv (by rw[List.getElem?_map,List.getElem?_eq_getElem hj,hje];rfl)
    have hru:RV0 C.imm C.w us[j] e.val:=k5.get huv (by rw[List.getElem?_map,List.getElem?_eq_getElem hj,hje];rfl)
    have hns:j∉seen:=fun hm=>by
     have:e.born∈mem:=by rw[k6,hb1,<- hat j hj'];exact List.mem_map.2 ⟨j,hm,rfl⟩
     simp[this]at q2
    have hE2:=hE.some j _ _ hkv huv hns
    have hheap:w1.heap=C.w.heap:=by rcases hw1 with rfl|rfl<;>rfl
    have hlt:b<C.w.heap.size:=(Array.getElem?_eq_some_iff.1 h4).1
    have hsame:∀k,k≠b->(ChangeMaps.setBlock w1 b (.mapIter (some m) nB (mem.toArray.push e.born) nB)).heap[k]?=C.w.heap[k]?:=fun k hk=>by rw[sb_other hk,hheap]
    have hone:OneB b C.w (ChangeMaps.setBlock w1 b (.mapIter (some m) nB (mem.toArray.push e.born) nB)):=by
     refine⟨?_,?_,?_,by simp[ChangeMaps.setBlock,hheap],hsame,⟨_,h4,rfl⟩,⟨_,sb_same (by rw[hheap];exact hlt) _,rfl⟩⟩<;>rcases hw1 with rfl|rfl<;>rfl
    have hpers:Pers C.imm C.imm C.w (ChangeMaps.setBlock w1 b (.mapIter (some m) nB (mem.toArray.push e.born) nB)):=fun b' hb'=>⟨hb',hsame b' (fun e=>h3 (e ▸ hb'))⟩
    have hR:=set_obj (r':=.itr ks us (seen++[j]) [ks[j],us[j]]) hX h (i:=i) ho hi (by rw[hf',ho];rfl) h3 hone
     ⟨b,m,nB,mem++[e.born],rfl,h2,h3,by
      have:(ChangeMaps.setBlock w1 b (.mapIter (some m) nB (mem.toArray.push e.born) nB)).heap[b]?=_:=sb_same (by rw[hheap];exact hlt) _
      rw[this];simp,IterAt.mono hpers (show IterAt C.imm C.w ks us m nB (mem++[e.born]) (seen++[j]) from ⟨k1,es,k2,k3,k4,k5,by rw[k6,hb1,<- hat j hj'];simp,fun i hi'=>by
       rcases List.mem_append.1 hi' with q|q
       ·exact k7 i q
       ·simp only[List.mem_singleton]at q;subst q;exact hj'⟩),fun kv uv e=>by
      simp only[List.cons.injEq,and_true]at e
      exact⟨j,by simp,by rw[<- e.1];exact hkv,by rw[<- e.2];exact huv⟩⟩ (fun k hk=>by simpa[Res.blk]using hk.symm)
    refine up_value hX (v:=.tuple #[.bool true,e.key,e.val]) (w':=ChangeMaps.setBlock w1 b (.mapIter (some m) nB (mem.toArray.push e.born) nB)) (fun c=>by simp[hop]) (by simp[execOp,hop,e1,hrun,Sem.run_pure,Sem.run_map]) ?_
    refine hk _ _ _ (hR.put (v:=.tup [.bool true,ks[j],us[j]]) (x:=.tuple #[.bool true,e.key,e.val]) ?_ o.dst hd) hE2
    simp only[RV]
    refine⟨[.bool true,e.key,e.val],rfl,?_⟩
    simp only[RVs]
    exact⟨_,_,rfl,by simp[RV],_,_,rfl,RV0.rv (C:=⟨C.imm,C.T,upd C.rho i (C.rho i),_,C.l⟩) _ _ (RV0.mono hpers _ _ hrk),_,_,rfl,RV0.rv (C:=⟨C.imm,C.T,upd C.rho i (C.rho i),_,C.l⟩) _ _ (RV0.mono hpers _ _ hru),rfl⟩
  ·exact hE.elim
 ·exact hE.elim
theorem mrx_ok(hX:SessOk X E)(hk:Nx X k next)(h:Rel X C s a)(hd:∀i,o.dst=some i->i<X.N){t kk e:TypeId}{m:Operand}{p:Opd}{nm:Nat}(hop:o.op = .range t m)(ht:X.P.underlying t=some (.map kk e))
  (hp:opd m=some p) (hE:evO E o.dst (.mrx nm p) s k):o.wpIn X.F X.n X.P a C.w next Q:=by
 have hE':=hE
 simp only[evO,evX]at hE'
 split at hE'
 ·rename_i v hf hm
  rcases hE'.out with hA|hB
  ·refine mrg_ok (nm:=nm) (ne:=[]) hX hk h hd hop ht hp ?_
   simp only[evO,evX,hf,hm]
   simp only[evX.mrgK]at hA
   split at hA
   ·rename_i z ks us hz hfz
    simp only[hz,hfz,neOkL,if_true]
    exact hA
   ·exact hA.elim
  ·split at hB
   ·rename_i i
    split at hB
    ·rename_i ks us hr
     obtain⟨hf',hi⟩:=getD_dead hr (by simp)
     have e1:=ev_ok h hp hm
     simp only[RV]at e1
     obtain⟨ow,ho,e1⟩:=e1
     have hs:=h.sg i
     rw[hf',ho]at hs
     obtain⟨b,es,nB,h1,h2,h3,h4,h5,h6,_,h8⟩:=hs
     cases h1
     have hni:=h8 rfl
     have hl1:=h5.len
     have hl2:=h6.len
     simp only[List.length_map]at hl1 hl2
     have hB:=hB (es.toList.map (·.born)) nB ⟨by simp[hl1],by simp[hl2],h4.1,fun x hx=>by
      obtain⟨e,he,rfl⟩:=List.mem_map.1 hx
      exact h4.2 e he⟩
     obtain⟨hf1,hf2⟩:=getD_dead hf (by simp)
     have hne:nm≠i:=fun e=>by rw[e]at hf1;rw[hf1]at hf';cases hf'
     have hR:=set_obj (C:=C) (r':=.mpb ks us (es.toList.map (·.born)) nB) hX h (i:=i) ho hi (by rw[hf',ho];rfl) hni (w':=C.w) ⟨rfl,rfl,rfl,rfl,fun _ _=>rfl,⟨_,h3,rfl⟩,⟨_,h3,rfl⟩⟩
      ⟨b,es,rfl,h2,h3,h4,rfl,h5,h6,hni⟩ (fun k hk=>by simpa[Res.blk]using hk.symm)
     have hrho:upd C.rho i (C.rho i)=C.rho:=by funext j;simp only[upd];split<;>simp_all
     rw[hrho]at hR
     have hfr:(s.sg.set i (.mpb ks us (es.toList.map (·.born)) nB)).getD nm .dead = .fresh:=by
      rw[getD_set _ _ _ _ _ hi,if_neg hne];exact hf
     have hN:=new_objR hX hR hfr (.mapIter (some b) nB #[] nB) (.pointer (some ⟨C.w.heap.size,0,none⟩)) (.itd [.row i] nB []) (fun T rho w' hro hs hn hT=>
       ⟨C.w.heap.size,b,rfl,hT,fun hi=>by have:=(h.imm _ hi).2.lt;omega,hn,by
        simp only[RVs,RV]
        exact⟨_,_,rfl,⟨_,(hro i (Ne.symm hne)).trans ho,rfl⟩,rfl⟩⟩)
      (fun k hk=>by simpa[Res.blk]using hk.symm)
     refine up_value hX (v:=.pointer (some ⟨C.w.heap.size,0,none⟩)) (w':=C.w.alloc (.mapIter (some b) nB #[] nB)) (fun c=>by simp[hop]) ?_ ?_
     ·simp[execOp,hop,e1,run_range_map _ _ _ _ _ _ _ ht h3,Sem.run_pure,Sem.run_map]
     ·have:=hN.put (v:=.row nm) (x:=.pointer (some ⟨C.w.heap.size,0,none⟩)) (by simp[RV,upd]) o.dst hd
      exact hk _ _ _ this hB
    ·rename_i ks us bn n hr
     obtain⟨hf',hi⟩:=getD_dead hr (by simp)
     have e1:=ev_ok h hp hm
     simp only[RV]at e1
     obtain⟨ow,ho,e1⟩:=e1
     have hs:=h.sg i
     rw[hf',ho]at hs
     obtain⟨b,es,h1,h2,h3,h4,hbs,h5,h6,hni⟩:=hs
     cases h1
     obtain⟨hf1,hf2⟩:=getD_dead hf (by simp)
     have hne:nm≠i:=fun e=>by rw[e]at hf1;rw[hf1]at hf';cases hf'
     have hN:=new_objR hX h hf (.mapIter (some b) n #[] n) (.pointer (some ⟨C.w.heap.size,0,none⟩)) (.itd [.row i] n []) (fun T rho w' hro hs hn hT=>
       ⟨C.w.heap.size,b,rfl,hT,fun hi=>by have:=(h.imm _ hi).2.lt;omega,hn,by
        simp only[RVs,RV]
        exact⟨_,_,rfl,⟨_,(hro i (Ne.symm hne)).trans ho,rfl⟩,rfl⟩⟩)
      (fun k hk=>by simpa[Res.blk]using hk.symm)
     refine up_value hX (v:=.pointer (some ⟨C.w.heap.size,0,none⟩)) (w':=C.w.alloc (.mapIter (some b) n #[] n)) (fun c=>by simp[hop]) ?_ ?_
     ·simp[execOp,hop,e1,run_range_map _ _ _ _ _ _ _ ht h3,Sem.run_pure,Sem.run_map]
     ·have:=hN.put (v:=.row nm) (x:=.pointer (some ⟨C.w.heap.size,0,none⟩)) (by simp[RV,upd]) o.dst hd
      exact hk _ _ _ this hB
    ·exact hB.elim
   ·exact hB.elim
 ·exact hE'.elim
theorem mnz_ok(hX:SessOk X E)(hk:Nx X k next)(h:Rel X C s a)(hd:∀i,o.dst=some i->i<X.N){x:Operand}{p:Opd}(hop:o.op = .next x false)(hp:opd x=some p)(hE:evO E o.dst (.mnz p) s k):o.wpIn X.F X.n X.P a C.w next Q:=by
 have hE':=hE
 simp only[evO,evX]at hE'
 split at hE'
 ·rename_i i hv
  split at hE'
  ·rename_i ks us seen last hr
   refine mnx_ok hX hk h hd hop hp ?_
   simp only[evO,evX,hv,hr]
   exact hE'
  ·rename_i m n mem hr
   split at hE'
   ·rename_i ks us bn n' hr2
    have hE:=hE'
    obtain⟨hf',hi⟩:=getD_dead hr (by simp)
    obtain⟨hf2,hi2⟩:=getD_dead hr2 (by simp)
    have e1:=ev_ok h hp hv
    simp only[RV]at e1
    obtain⟨ow,ho,e1⟩:=e1
    have hs:=h.sg i
    rw[hf',ho]at hs
    obtain⟨b,bm,h1,h2,h3,h4,h5⟩:=hs
    cases h1
    simp only[RVs,RV]at h5
    obtain⟨_,_,e5,⟨o2,ho2,e6⟩,e7⟩:=h5
    subst e7
    simp only[List.cons.injEq,and_true]at e5
    subst e5
    have hs2:=h.sg m
    rw[hf2,ho2]at hs2
    obtain⟨b2,es,k1,k2,k3,k4,k5,k6,k7,k8⟩:=hs2
    cases k1
    simp only[Value.map.injEq,Option.some.injEq]at e6
    subst e6
    have hnn:=hE.eq
    subst hnn
    have hl1:ks.length=es.size:=by have:=k6.len;simp at this;omega
    have hl2:us.length=es.size:=by have:=k7.len;simp at this;omega
    rcases run_next_at (P:=X.P) C.w o.type b bm n n mem.toArray es n h4 k3 k4.2 (Nat.le_refl _)with⟨h0,hrun⟩|⟨e,he,w1,hw1,hrun⟩
    ·have hall:∀x∈bn,x∈mem:=fun x hx=>by
      rw[<- k5]at hx
      obtain⟨e,he,rfl⟩:=List.mem_map.1 hx
      have:=all_seen es mem.toArray h0 e he
      simpa using this
     refine up_value hX (v:=.tuple #[.bool false]) (w':=C.w) (fun c=>by simp[hop]) (by simp[execOp,hop,e1,hrun,Sem.run_pure,Sem.run_map]) ?_
     have hR:=set_obj (C:=C) (r':=.mp false ks us) hX h (i:=m) ho2 hi2 (by rw[hf2,ho2];rfl) k8 (w':=C.w) ⟨rfl,rfl,rfl,rfl,fun _ _=>rfl,⟨_,k3,rfl⟩,⟨_,k3,rfl⟩⟩
      ⟨bm,es,n,rfl,k2,k3,k4,k6,k7,fun e=>absurd e (by simp),fun _=>k8⟩ (fun k hk=>by simpa[Res.blk]using hk.symm)
     have hrho:upd C.rho m (C.rho m)=C.rho:=by funext j;simp only[upd];split<;>simp_all
     rw[hrho]at hR
     exact hk _ _ _ (hR.put (v:=.tup [.bool false]) (x:=.tuple #[.bool false]) (by simp[RV,RVs]) o.dst hd) (hE.none hall)
    ·obtain⟨q1,q2⟩:=mem_left he
     obtain⟨j,hj,hje⟩:=List.getElem_of_mem q1
     have hj':j<es.size:=by simpa using hj
     have hkv:ks[j]?=some ks[j]:=by simp[show j<ks.length from by omega]
     have huv:us[j]?=some us[j]:=by simp[show j<us.length from by omega]
     have hbv:bn[j]?=some e.born:=by rw[<- k5,List.getElem?_map,List.getElem?_eq_getElem hj,hje];rfl
     have hrk:RV0 C.imm C.w ks[j] e.key:=k6.get hkv (by rw[List.getElem?_map,List.getElem?_eq_getElem hj,hje];rfl)
     have hru:RV0 C.imm C.w us[j] e.val:=k7.get huv (by rw[List.getElem?_map,List.getElem?_eq_getElem hj,hje];rfl)
     have hns:e.born∉mem:=fun hm=>by
      simp[hm]at q2
     have hE2:=hE.some j _ _ _ hkv huv hbv hns
     have hheap:w1.heap=C.w.heap:=by rcases hw1 with rfl|rfl<;>rfl
     have hlt:b<C.w.heap.size:=(Array.getElem?_eq_some_iff.1 h4).1
     have hsame:∀k,k≠b->(ChangeMaps.setBlock w1 b (.mapIter (some bm) n (mem.toArray.push e.born) n)).heap[k]?=C.w.heap[k]?:=fun k hk=>by rw[sb_other hk,hheap]
     have hone:OneB b C.w (ChangeMaps.setBlock w1 b (.mapIter (some bm) n (mem.toArray.push e.born) n)):=by
      refine⟨?_,?_,?_,by simp[ChangeMaps.setBlock,hheap],hsame,⟨_,h4,rfl⟩,⟨_,sb_same (by rw[hheap];exact hlt) _,rfl⟩⟩<;>rcases hw1 with rfl|rfl<;>rfl
     have hpers:Pers C.imm C.imm C.w (ChangeMaps.setBlock w1 b (.mapIter (some bm) n (mem.toArray.push e.born) n)):=fun b' hb'=>⟨hb',hsame b' (fun e=>h3 (e ▸ hb'))⟩
     have hrho:upd C.rho i (C.rho i)=C.rho:=by funext j;simp only[upd];split<;>simp_all
     have hR:=set_obj (r':=.itd [.row m] n (mem++[e.born])) hX h (i:=i) ho hi (by rw[hf',ho];rfl) h3 hone
      ⟨b,bm,rfl,h2,h3,by
       have:(ChangeMaps.setBlock w1 b (.mapIter (some bm) n (mem.toArray.push e.born) n)).heap[b]?=_:=sb_same (by rw[hheap];exact hlt) _
       rw[this];simp,by
       simp only[RVs,RV]
       exact⟨_,_,rfl,⟨_,by rw[hrho];exact ho2,rfl⟩,rfl⟩⟩ (fun k hk=>by simpa[Res.blk]using hk.symm)
     refine up_value hX (v:=.tuple #[.bool true,e.key,e.val]) (w':=ChangeMaps.setBlock w1 b (.mapIter (some bm) n (mem.toArray.push e.born) n)) (fun c=>by simp[hop]) (by simp[execOp,hop,e1,hrun,Sem.run_pure,Sem.run_map]) ?_
     refine hk _ _ _ (hR.put (v:=.tup [.bool true,ks[j],us[j]]) (x:=.tuple #[.bool true,e.key,e.val]) ?_ o.dst hd) hE2
     simp only[RV]
     refine⟨[.bool true,e.key,e.val],rfl,?_⟩
     simp only[RVs]
     exact⟨_,_,rfl,by simp[RV],_,_,rfl,RV0.rv (C:=⟨C.imm,C.T,upd C.rho i (C.rho i),_,C.l⟩) _ _ (RV0.mono hpers _ _ hrk),_,_,rfl,RV0.rv (C:=⟨C.imm,C.T,upd C.rho i (C.rho i),_,C.l⟩) _ _ (RV0.mono hpers _ _ hru),rfl⟩
   ·exact hE'.elim
  ·exact hE'.elim
 ·exact hE'.elim
theorem srg_ok(hX:SessOk X E)(hk:Nx X k next)(h:Rel X C s a)(hd:∀i,o.dst=some i->i<X.N){t:TypeId}{x:Operand}{p:Opd}{nm:Nat}(hop:o.op = .range t x)(ht:X.P.underlying t=some .string)
  (hp:opd x=some p) (hE:evO E o.dst (.srg nm p) s k):o.wpIn X.F X.n X.P a C.w next Q:=by
 simp only[evO,evX,app]at hE
 split at hE
 ·rename_i f hf hx
  have e1:=ev_ok h hp hx
  simp only[RV]at e1
  have hN:=new_obj hX h hf (.stringIter ⟨f.toArray⟩ 0) (.pointer (some ⟨C.w.heap.size,0,none⟩)) (.sit f 0) (fun T rho w' hs hn hT=>⟨C.w.heap.size,rfl,hT,fun hi=>by have:=(h.imm _ hi).2.lt;omega,hn⟩)
   (fun k hk=>by simpa[Res.blk]using hk.symm)
  refine up_value hX (v:=.pointer (some ⟨C.w.heap.size,0,none⟩)) (w':=C.w.alloc (.stringIter ⟨f.toArray⟩ 0)) (fun c=>by simp[hop]) ?_ ?_
  ·simp[execOp,hop,e1,Instr.range,run_underlying ht,newObj,Sem.run]
  ·have:=hN.put (v:=.row nm) (x:=.pointer (some ⟨C.w.heap.size,0,none⟩)) (by simp[RV,upd]) o.dst hd
   exact hk _ _ _ this hE
 ·exact hE.elim
theorem snx_ok(hX:SessOk X E)(hk:Nx X k next)(h:Rel X C s a)(hd:∀i,o.dst=some i->i<X.N){x:Operand}{p:Opd}(hop:o.op = .next x true)(hp:opd x=some p)(hE:evO E o.dst (.snx p) s k):o.wpIn X.F X.n X.P a C.w next Q:=by
 simp only[evO,evX,app]at hE
 split at hE
 ·rename_i i hv
  split at hE
  ·rename_i f pos hr
   obtain⟨hf',hi⟩:=getD_dead hr (by simp)
   have e1:=ev_ok h hp hv
   simp only[RV]at e1
   obtain⟨ow,ho,e1⟩:=e1
   have hs:=h.sg i
   rw[hf',ho]at hs
   obtain⟨b,h1,h2,h3,h4⟩:=hs
   cases h1
   have hlt:b<C.w.heap.size:=(Array.getElem?_eq_some_iff.1 h4).1
   by_cases hpos:pos<f.length
   ·have hE2:=hE.some hpos
    have hsz:pos<(ByteArray.mk f.toArray).size:=by simpa[ByteArray.size]using hpos
    have hone:OneB b C.w (ChangeMaps.setBlock C.w b (.stringIter ⟨f.toArray⟩ (pos+(dec f pos).2))):=⟨rfl,rfl,rfl,by simp[ChangeMaps.setBlock],fun k e=>sb_other e _,⟨_,h4,rfl⟩,⟨_,sb_same hlt _,rfl⟩⟩
    have hR:=set_obj (C:=C) (r':=.sit f (pos+(dec f pos).2)) hX h (i:=i) ho hi (by rw[hf',ho];rfl) h3 hone
     ⟨b,rfl,h2,h3,sb_same hlt _⟩ (fun k hk=>by simpa[Res.blk]using hk.symm)
    have hrun:(Instr.next (.pointer (some ⟨b,0,none⟩)) true o.type).run X.P C.w = .ok (.tuple #[.bool true, .int .i64 pos, .int .i32 (dec f pos).1]) (ChangeMaps.setBlock C.w b (.stringIter ⟨f.toArray⟩ (pos+(dec f pos).2))):=by
     simp[Instr.next,getObj,setObj,Sem.run,h4,Result.andThen,hsz,dec,goInt,ChangeMaps.setBlock]
    refine up_value hX (v:=.tuple #[.bool true, .int .i64 pos, .int .i32 (dec f pos).1]) (w':=ChangeMaps.setBlock C.w b (.stringIter ⟨f.toArray⟩ (pos+(dec f pos).2))) (fun c=>by simp[hop]) (by simp[execOp,hop,e1,hrun,Sem.run_pure,Sem.run_map]) ?_
    refine hk _ _ _ (hR.put (v:=.tup [.bool true, .int .i64 pos, .int .i32 (dec f pos).1]) (x:=.tuple #[.bool true, .int .i64 pos, .int .i32 (dec f pos).1]) ?_ o.dst hd) hE2
    simp[RV,RVs]
   ·have hsz:¬pos<(ByteArray.mk f.toArray).size:=by simpa[ByteArray.size]using hpos
    have hrun:(Instr.next (.pointer (some ⟨b,0,none⟩)) true o.type).run X.P C.w = .ok (.tuple #[.bool false]) C.w:=by
     simp[Instr.next,getObj,Sem.run,h4,Result.andThen,hsz]
    refine up_value hX (v:=.tuple #[.bool false]) (w':=C.w) (fun c=>by simp[hop]) (by simp[execOp,hop,e1,hrun,Sem.run_pure,Sem.run_map]) ?_
    exact hk _ _ _ (h.put (v:=.tup [.bool false]) (x:=.tuple #[.bool false]) (by simp[RV,RVs]) o.dst hd) (hE.none (by omega))
  ·exact hE.elim
 ·exact hE.elim
theorem men_ok(hX:SessOk X E)(hk:Nx X k next)(h:Rel X C s a)(hd:∀i,o.dst=some i->i<X.N){x:Operand}{p:Opd}(hop:o.op = .entry x)(hp:opd x=some p)(hE:evO E o.dst (.men p) s k):o.wpIn X.F X.n X.P a C.w next Q:=by
 simp only[evO,evX,app]at hE
 split at hE
 ·rename_i i hv
  split at hE
  ·rename_i ks us seen kv uv hr
   obtain⟨hf',hi⟩:=getD_dead hr (by simp)
   have e1:=ev_ok h hp hv
   simp only[RV]at e1
   obtain⟨ow,ho,e1⟩:=e1
   have hs:=h.sg i
   rw[hf',ho]at hs
   obtain⟨b,m,nB,mem,h1,h2,h3,h4,h5,h6⟩:=hs
   cases h1
   obtain⟨k1,es,k2,k3,k4,k5,k6,k7⟩:=h5
   obtain⟨j,j1,j2,j3⟩:=h6 kv uv rfl
   have hl1:ks.length=es.size:=by have:=k4.len;simp at this;omega
   have hjl:j<es.size:=by have:=(List.getElem?_eq_some_iff.1 j2).1;omega
   obtain⟨init,hinit⟩:∃init,seen=init++[j]:=by
    obtain⟨l,hl⟩:=List.getLast?_eq_some_iff.1 j1
    exact⟨l,hl⟩
   have hrun:=run_entry_at (P:=X.P) C.w b m nB (init.map fun j=>((es[j]?).map (·.born)).getD 0).toArray es nB es[j] (by rw[h4,k6,hinit];simp[hjl]) k2 (by simp) (k3.1.imp fun h=>Nat.ne_of_lt h)
   have hrk:RV0 C.imm C.w kv es[j].key:=k4.get j2 (by simp[hjl])
   have hru:RV0 C.imm C.w uv es[j].val:=k5.get j3 (by simp[hjl])
   refine up_pure hX hk h hd (v:=.tup [kv,uv]) (x:=.tuple #[es[j].key,es[j].val]) (fun c=>by simp[hop]) (by simp[execOp,hop,e1,hrun,Sem.run_pure,Sem.run_map]) ?_ hE
   simp only[RV]
   exact⟨[es[j].key,es[j].val],rfl,by simp only[RVs];exact⟨_,_,rfl,hrk.rv,_,_,rfl,hru.rv,rfl⟩⟩
  ·exact hE.elim
 ·exact hE.elim
theorem map_at(h:Rel X C s a){v:AV}{x:Value}(hv:RV C v x){ks us:List AV}(hm:v = .imp ks us\/∃i b,v = .row i/\s.sg.getD i .dead = .mp b ks us):∃b es n,x = .map (some b)/\C.w.heap[b]?=some (.map es n)/\RV0s C.imm C.w ks (es.toList.map (·.key))/\RV0s C.imm C.w us (es.toList.map (·.val)):=by
 rcases hm with rfl|⟨i,b,rfl,hr⟩
 ·simp only[RV,RV0]at hv
  obtain⟨b,es,nB,h1,_,h3,_,h5,h6⟩:=hv
  exact⟨b,es,nB,h1,h3,h5,h6⟩
 ·obtain⟨hf',hi⟩:=getD_dead hr (by simp)
  simp only[RV]at hv
  obtain⟨ow,ho,e1⟩:=hv
  have hs:=h.sg i
  rw[hf',ho]at hs
  obtain⟨b,es,nB,h1,_,h3,_,h5,h6,_⟩:=hs
  cases h1
  exact⟨b,es,nB,e1,h3,h5,h6⟩
theorem lkp_ok(hX:SessOk X E)(hk:Nx X k next)(h:Rel X C s a)(hd:∀i,o.dst=some i->i<X.N){t kk e:TypeId}{kt:KTy}{m x:Operand}{p q:Opd}{ok:Bool}{z:AV}(hop:o.op = .lookup t m x ok)(ht:X.P.underlying t=some (.map kk e))(hkt:ktOf X.P kk=some kt)(hz:zvOf X.P e=some z)
  (hp:opd m=some p) (hq:opd x=some q) (hE:evO E o.dst (.lkp kt ok z p q) s k):o.wpIn X.F X.n X.P a C.w next Q:=by
 simp only[evO,evX,app]at hE
 have fin:∀(mv kv:AV) (ks us:List AV),s.ev p=some mv->s.ev q=some kv->(mv = .imp ks us\/∃i b,mv = .row i/\s.sg.getD i .dead = .mp b ks us)->LkE kt ks us kv (fun r=>k (s.put o.dst (lkR ok z r)))->o.wpIn X.F X.n X.P a C.w next Q:=fun mv kv ks us h1 h2 h3 h4=>by
  obtain⟨r,h4,h5⟩:=h4.out
  obtain⟨b,es,nB,k1,k2,k3,k4⟩:=map_at h (ev_ok h hp h1) h3
  obtain⟨rv,hrun,hrv⟩:=run_mlook (P:=X.P) (w:=C.w) (imm:=C.imm) (ok:=ok) ht hkt hz k2 k3 k4 (keyV_to0 (mlook_key h4) (ev_ok h hq h2)) h4
  exact up_pure hX hk h hd (fun c=>by simp[hop]) (by simp[execOp,hop,k1,hrun,Sem.run_pure,Sem.run_map]) hrv.rv h5
 split at hE
 ·rename_i ks us kv h1 h2
  exact fin _ _ ks us h1 h2 (.inl rfl) hE
 ·rename_i i kv h1 h2
  split at hE
  ·rename_i b ks us hr
   exact fin _ _ ks us h1 h2 (.inr ⟨i,b,rfl,hr⟩) hE
  ·rename_i ks us hr
   obtain⟨r,h4,h5⟩:=hE.out
   obtain⟨hf',hi⟩:=getD_dead hr (by simp)
   have e1:=ev_ok h hp h1
   simp only[RV]at e1
   obtain⟨ow,ho,e1⟩:=e1
   have hs:=h.sg i
   rw[hf',ho]at hs
   obtain⟨b,es,nB,k1,_,k2,_,k3,k4,_⟩:=hs
   cases k1
   obtain⟨rv,hrun,hrv⟩:=run_mlookO (P:=X.P) (C:=C) (ok:=ok) ht hkt hz k2 k3 k4 (keyV_to0 (mlook_key h4) (ev_ok h hq h2)) h4
   exact up_pure hX hk h hd (fun c=>by simp[hop]) (by simp[execOp,hop,e1,hrun,Sem.run_pure,Sem.run_map]) hrv h5
  ·rename_i ks us bn n hr
   obtain⟨r,h4,h5⟩:=hE.out
   obtain⟨hf',hi⟩:=getD_dead hr (by simp)
   have e1:=ev_ok h hp h1
   simp only[RV]at e1
   obtain⟨ow,ho,e1⟩:=e1
   have hs:=h.sg i
   rw[hf',ho]at hs
   obtain⟨b,es,k1,_,k2,_,_,k3,k4,_⟩:=hs
   cases k1
   obtain⟨rv,hrun,hrv⟩:=run_mlook (P:=X.P) (w:=C.w) (imm:=C.imm) (ok:=ok) ht hkt hz k2 k3 k4 (keyV_to0 (mlook_key h4) (ev_ok h hq h2)) h4
   exact up_pure hX hk h hd (fun c=>by simp[hop]) (by simp[execOp,hop,e1,hrun,Sem.run_pure,Sem.run_map]) hrv.rv h5
  ·exact hE.elim
 ·exact hE.elim
theorem cellsK_mono'{ag:Bool}{v:AV}{K K':List AV->Prop}(h:∀vs,K vs->K' vs):cellsK ag v K->cellsK ag v K':=by
 unfold cellsK
 cases ag with
 |false=>exact fun hh=>⟨hh.1,h _ hh.2⟩
 |true=>cases v<;>first|exact id|exact h _
theorem cellsK0_ok(h:Rel X C s a){ag:Bool}{v:AV}{x:Value}(hv:RV0 C.imm C.w v x){K:List AV->Prop}(hc:cellsK ag v K):∃cs,K cs/\RV0s C.imm C.w cs x.cells.toList:=by
 cases ag with
 |true=>
  simp only[cellsK]at hc
  split at hc
  ·simp only[RV0]at hv;obtain⟨vs,rfl,h2⟩:=hv
   exact⟨_,hc,by simpa[Value.cells]using h2⟩
  ·exact hc.elim
 |false=>
  simp only[cellsK]at hc
  refine⟨[v],hc.2,?_⟩
  rw[cells_one (RV.one h hc.1 hv.rv)]
  simp[RV0s,hv]
theorem stz_ok(hX:SessOk X E)(hk:Nx X k next)(h:Rel X C s a){t:TypeId}{x y:Operand}{p q:Opd}{ag:Bool}{n:Nat}{ne:List Opd}(hop:o.op = .store t x y)(hsz:szOf X.P t=some n)(hp:opd x=some p)(hq:opd y=some q)
  (hdn:o.dst=none) (hE:evO E o.dst (.stz ag n p q ne) s k):o.wpIn X.F X.n X.P a C.w next Q:=by
 simp only[evO,evX,app]at hE
 split at hE
 ·rename_i i off v h1 h2
  split at hE
  ·rename_i cs hr
   split at hE
   ·refine store_ok (ag:=ag) (ne:=[]) hX hk h hop hsz hp hq hdn ?_
    unfold evO
    simp only[evX,h1,h2,hr]
    exact cellsK_mono' (fun vs hh=>⟨hh.1,by
     have h3:=hh.2
     split at h3
     ·rename_i hc;rw[if_pos ⟨hc.1,hc.2,rfl⟩];exact h3
     ·exact h3.elim⟩) hE
   ·exact hE.elim
  ·exact hE.elim
 ·rename_i i sz m j v h1 h2
  have e1:=ev_ok h hp h1
  simp only[RV]at e1
  obtain⟨ow,ho,e1⟩:=e1
  split at hE
  ·rename_i el sz' es z v' hr hz hfz
   split at hE
   ·rename_i hc
    obtain⟨_,hc,hszz⟩:=hc
    subst hszz
    obtain⟨hf',hi⟩:=getD_dead hr (by simp)
    have hni:i∉z.map (·.1):=fun hm=>by
     have:=memN_iff.2 (by rw[fstN_map];exact hm:i∈fstN z)
     rw[this]at hc;cases hc
    have hI:=h.ice (reach_iced v z hz)
    have hv0:=frz_z h 8 v _ _ z hfz hz (ev_ok h hq h2)
    obtain⟨vs',hK,h3⟩:=cellsK0_ok hI hv0 hE
    obtain⟨hone,hK⟩:=hK
    split at hK
    ·rename_i hn
     obtain⟨hm0,hm1,hK⟩:=hK
     simp only[Int.toNat_natCast]at hK
     split at hK
     ·rename_i hjn
      have hin:m<es.length:=by omega
      have hg:es[m]?=some (es.getD m []):=by simp[List.getD,List.getElem?_eq_getElem hin]
      have hcl:(a.eval y).cells.size=n:=by have:=h3.length;simp at this;omega
      have hg2:(setL s.sg z).getD i .dead = .row false el sz' es:=by
       have h5:(setL s.sg z).getD i .fresh = .row false el sz' es:=by rw[set_dead (reach_iced v z hz) hni,hf']
       have hlt:i<(setL s.sg z).length:=by rw[setL_length];exact hi
       simpa[List.getD_eq_getElem?_getD,hlt]using h5
      obtain⟨b,cap,cur,k1,k2,k3,hR⟩:=set_row (C:=⟨immZ C s z,C.T,C.rho,C.w,C.l⟩) hX hI hg2 (by omega) hg h3 (j:=j) (by rw[Array.length_toList];omega)
      simp only at k1 k2
      rw[k1]at ho;cases ho
      have hst:=run_storeCells_at X.P b (m*sz'+j) el (a.eval y).cells.toList 0 cur C.w k2 (by simp;omega) (RV0s.ones hI hone h3)
      simp only[Nat.add_zero]at hst
      refine up_skip hX (w':=C.w.setRow b (cur.toList.take (m*sz'+j)++(a.eval y).cells.toList++cur.toList.drop (m*sz'+j+(a.eval y).cells.toList.length)).toArray) (fun c=>by simp[hop]) ?_ ?_
      ·simp only[Array.length_toList]at hst⊢
       simp[execOp,hop,e1,Instr.storeAt,Instr.sureAddr,storeVar,sz_run hsz,hcl,hst]
      ·rw[hdn]at hK⊢
       rw[setL_append]at hK
       exact hk _ _ _ hR hK
     ·exact hK.elim
    ·exact hK.elim
   ·exact hE.elim
  ·exact hE.elim
 ·exact hE.elim
theorem mlen_ok(hX:SessOk X E)(hk:Nx X k next)(h:Rel X C s a)(hd:∀i,o.dst=some i->i<X.N){c:Call}{x:Operand}{t kk e:TypeId}{p:Opd}(hop:o.op = .call c)(hc:c.callee = .builtin .len)(ha:c.args.toList=[x])(hat:c.argTypes.toList=[t])
  (ht:X.P.underlying t=some (.map kk e)) (hp:opd x=some p) (hE:evO E o.dst (.mlen p) s k):o.wpIn X.F X.n X.P a C.w next Q:=by
 have ha':c.args = #[x]:=by apply Array.ext';simpa using ha
 have hat':c.argTypes = #[t]:=by apply Array.ext';simpa using hat
 have fin:∀(mv:AV) (ks us:List AV),s.ev p=some mv->(mv = .imp ks us\/∃i b,mv = .row i/\s.sg.getD i .dead = .mp b ks us)->k (s.put o.dst (.int .i64 ks.length))->o.wpIn X.F X.n X.P a C.w next Q:=fun mv ks us h1 h3 h4=>by
  obtain⟨b,es,nB,k1,k2,k3,k4⟩:=map_at h (ev_ok h hp h1) h3
  have hl1:ks.length=es.size:=by have:=k3.len;simp at this;omega
  refine up_pure hX hk h hd (x:=.int .i64 es.size) (fun c=>by simp[hop]) ?_ (by simp only[RV,hl1]) h4
  simp[execOp,hop,hc,ha',hat',resolve,invoke,builtin,Builtin.len_,run_underlying ht,k1,Sem.run_pure,goInt,MapKept.run_getObj_map k2]
 simp only[evO,evX,app]at hE
 split at hE
 ·rename_i ks us h1
  exact fin _ ks us h1 (.inl rfl) hE
 ·rename_i i h1
  split at hE
  ·rename_i b ks us hr
   exact fin _ ks us h1 (.inr ⟨i,b,rfl,hr⟩) hE
  ·exact hE.elim
 ·exact hE.elim
theorem mkx_ok(hX:SessOk X E)(hk:Nx X k next)(h:Rel X C s a)(hd:∀i,o.dst=some i->i<X.N){t:TypeId}{nm:Nat}(hop:o.op = .makeMap t none)(hE:evO E o.dst (.mkx nm) s k):o.wpIn X.F X.n X.P a C.w next Q:=by
 have hE':=hE
 simp only[evO,evX,app]at hE'
 split at hE'
 ·rename_i hf
  rcases hE'.out with hA|hB
  ·refine mkm_ok hX hk h hd (nm:=nm) hop ?_
   simp only[evO,evX,app,hf]
   exact hA
  ·have hN:=new_obj hX h hf (.map #[] 0) (.map (some C.w.heap.size)) (.mpb [] [] [] 0) (fun T rho w' hs hn hT=>⟨C.w.heap.size,#[],rfl,hT,hn,⟨by simp,by simp⟩,rfl,by simp[RV0s],by simp[RV0s],fun hi=>by have:=(h.imm _ hi).2.lt;omega⟩)
    (fun k hk=>by simpa[Res.blk]using hk.symm)
   refine up_value hX (v:=.map (some C.w.heap.size)) (w':=C.w.alloc (.map #[] 0)) (fun c=>by simp[hop]) ?_ ?_
   ·simp[execOp,hop,Instr.makeMap,newObj,Sem.run]
   ·have:=hN.put (v:=.row nm) (x:=.map (some C.w.heap.size)) (by simp[RV,upd]) o.dst hd
    exact hk _ _ _ this hB
 ·exact hE'.elim
theorem mpe_ok(hX:SessOk X E)(hk:Nx X k next)(h:Rel X C s a)(hd:∀i,o.dst=some i->i<X.N){t kk e:TypeId}{kt:KTy}{m x:Operand}{p q:Opd}{z:AV}{ne:List Opd}(hop:o.op = .mapEntry t m x)(ht:X.P.underlying t=some (.map kk e))(hkt:ktOf X.P kk=some kt)(hz:zvOf X.P e=some z)
  (hp:opd m=some p) (hq:opd x=some q) (hE:evO E o.dst (.mpe kt z p q ne) s k):o.wpIn X.F X.n X.P a C.w next Q:=by
 simp only[evO,evX,app]at hE
 split at hE
 ·rename_i i kv hm hx
  split at hE
  ·rename_i ks us bn n hr1
   split at hE
   ·obtain⟨v,st,ks',us',bn',n',hput,hE⟩:=hE.out
    have e1:=ev_ok h hp hm
    have e2:=ev_ok h hq hx
    obtain⟨hf',hi⟩:=getD_dead hr1 (by simp)
    simp only[RV]at e1
    obtain⟨ow,ho,e1⟩:=e1
    have hs:=h.sg i
    rw[hf',ho]at hs
    obtain⟨b,es,h1,h2,h3,h4,hbs,h5,h6,hni'⟩:=hs
    cases h1
    obtain⟨es',vv,hrun,hvv,hB',hks',hus',hbs'⟩:=run_mpe (P:=X.P) (w:=C.w) (imm:=C.imm) ht hkt hz h3 h4 h5 h6 (keyV_to0 (mpeF_key hput) e2) hbs hput
    have hlt:b<C.w.heap.size:=(Array.getElem?_eq_some_iff.1 h3).1
    have hone:OneB b C.w (ChangeMaps.setBlock C.w b (.map es' n')):=⟨rfl,rfl,rfl,by simp[ChangeMaps.setBlock],fun k e=>sb_other e _,⟨_,h3,rfl⟩,⟨_,sb_same (Array.getElem?_eq_some_iff.1 h3).1 _,rfl⟩⟩
    have hpers:Pers C.imm C.imm C.w (ChangeMaps.setBlock C.w b (.map es' n')):=fun b' hb'=>⟨hb',sb_other (fun(e:b'=b)=>hni' (by subst e;exact hb')) _⟩
    have hR:=set_obj (C:=C) (r':=.mpb ks' us' bn' n') hX h (i:=i) ho hi (by rw[hf',ho];rfl) hni' hone
     ⟨b,es',rfl,h2,sb_same hlt _,hB',hbs',RV0s.mono hpers _ _ hks',RV0s.mono hpers _ _ hus',hni'⟩ (fun k hk=>by simpa[Res.blk]using hk.symm)
    refine up_value hX (v:=.tuple #[vv, .int .i64 st]) (w':=ChangeMaps.setBlock C.w b (.map es' n')) (fun c=>by simp[hop]) ?_ ?_
    ·simp[execOp,hop,e1,hrun,Sem.run_pure,Sem.run_map]
    ·refine hk _ _ _ (hR.put (v:=.tup [v, .int .i64 st]) (x:=.tuple #[vv, .int .i64 st]) ?_ o.dst hd) hE
     simp only[RV]
     refine⟨[vv, .int .i64 st],rfl,?_⟩
     simp only[RVs]
     exact⟨_,_,rfl,RV0.rv (C:=⟨C.imm,C.T,upd C.rho i (C.rho i),_,C.l⟩) _ _ (RV0.mono hpers _ _ hvv),_,_,rfl,by simp[RV],rfl⟩
   ·exact hE.elim
  ·exact hE.elim
 ·exact hE.elim
theorem mes_ok(hX:SessOk X E)(hk:Nx X k next)(h:Rel X C s a)(hd:o.dst=none){t:TypeId}{m st v:Operand}{p q r:Opd}{ne:List Opd}(hop:o.op = .entryStore t m st v)
  (hp:opd m=some p) (hq:opd st=some q) (hr:opd v=some r) (hE:evO E o.dst (.mes p q r ne) s k):o.wpIn X.F X.n X.P a C.w next Q:=by
 simp only[evO,evX,app]at hE
 split at hE
 ·rename_i i kd bi vv hm hx hv
  split at hE
  ·rename_i ks us bn n hr1
   split at hE
   ·rename_i hc
    obtain⟨j,c,us',hj,hcb,hu,hE⟩:=hE.out
    have e1:=ev_ok h hp hm
    have e2:=ev_ok h hq hx
    have e3:=ev_ok h hr hv
    obtain⟨hf',hi⟩:=getD_dead hr1 (by simp)
    simp only[RV]at e1 e2
    obtain⟨ow,ho,e1⟩:=e1
    have hs:=h.sg i
    rw[hf',ho]at hs
    obtain⟨b,es,h1,h2,h3,h4,hbs,h5,h6,hni'⟩:=hs
    cases h1
    subst hcb
    subst hu
    have hv0:RV0 C.imm C.w vv _:=RV0.mono (fun b hb=>hb.elim) _ _ (flat0 vv _ hc.1 e3)
    obtain⟨es',hrun,hB',hks',hus',hbs'⟩:=run_mes (P:=X.P) (w:=C.w) (imm:=C.imm) (t:=t) (kd:=kd) h3 h4 h6 hv0 hbs hj
    have hlt:b<C.w.heap.size:=(Array.getElem?_eq_some_iff.1 h3).1
    have hone:OneB b C.w (ChangeMaps.setBlock C.w b (.map es' n)):=⟨rfl,rfl,rfl,by simp[ChangeMaps.setBlock],fun k e=>sb_other e _,⟨_,h3,rfl⟩,⟨_,sb_same (Array.getElem?_eq_some_iff.1 h3).1 _,rfl⟩⟩
    have hpers:Pers C.imm C.imm C.w (ChangeMaps.setBlock C.w b (.map es' n)):=fun b' hb'=>⟨hb',sb_other (fun(e:b'=b)=>hni' (by subst e;exact hb')) _⟩
    have hR:=set_obj (C:=C) (r':=.mpb ks (us.set j vv) bn n) hX h (i:=i) ho hi (by rw[hf',ho];rfl) hni' hone
     ⟨b,es',rfl,h2,sb_same hlt _,hB',hbs',RV0s.mono hpers _ _ (by rw[hks'];exact h5),RV0s.mono hpers _ _ hus',hni'⟩ (fun k hk=>by simpa[Res.blk]using hk.symm)
    refine up_skip hX (w':=ChangeMaps.setBlock C.w b (.map es' n)) (fun c=>by simp[hop]) ?_ ?_
    ·simp[execOp,hop,e1,e2,hrun,Sem.run_pure,Sem.run_map]
    ·rw[hd]at hE⊢
     exact hk _ _ _ hR hE
   ·exact hE.elim
  ·exact hE.elim
 ·exact hE.elim
theorem mez_ok(hX:SessOk X E)(hk:Nx X k next)(h:Rel X C s a)(hd:∀i,o.dst=some i->i<X.N){x:Operand}{p:Opd}(hop:o.op = .entry x)(hp:opd x=some p)(hE:evO E o.dst (.mez p) s k):o.wpIn X.F X.n X.P a C.w next Q:=by
 have hE':=hE
 simp only[evO,evX,app]at hE'
 split at hE'
 ·rename_i i hv
  split at hE'
  ·rename_i ks us seen kv uv hr
   refine men_ok hX hk h hd hop hp ?_
   simp only[evO,evX,app,hv,hr]
   exact hE'
  ·rename_i m n mem hr
   split at hE'
   ·rename_i ks us bn n' hr2
    obtain⟨hnn,j,bj,kv,uv,q1,q2,q3,q4,q5⟩:=hE'
    obtain⟨hf',hi⟩:=getD_dead hr (by simp)
    obtain⟨hf2,hi2⟩:=getD_dead hr2 (by simp)
    have e1:=ev_ok h hp hv
    simp only[RV]at e1
    obtain⟨ow,ho,e1⟩:=e1
    have hs:=h.sg i
    rw[hf',ho]at hs
    obtain⟨b,bm,h1,h2,h3,h4,h5⟩:=hs
    cases h1
    simp only[RVs,RV]at h5
    obtain⟨_,_,e5,⟨o2,ho2,e6⟩,e7⟩:=h5
    subst e7
    simp only[List.cons.injEq,and_true]at e5
    subst e5
    have hs2:=h.sg m
    rw[hf2,ho2]at hs2
    obtain⟨b2,es,k1,k2,k3,k4,k5,k6,k7,k8⟩:=hs2
    cases k1
    simp only[Value.map.injEq,Option.some.injEq]at e6
    subst e6
    subst hnn
    have hjl:j<es.size:=by
     have:=(List.getElem?_eq_some_iff.1 q2).1
     rw[<- k5]at this;simpa using this
    have hbj:es[j].born=bj:=by
     rw[<- k5,List.getElem?_map,List.getElem?_eq_getElem (by simpa using hjl)]at q2
     simpa using q2
    obtain⟨init,hinit⟩:=List.getLast?_eq_some_iff.1 q1
    have hrun:=run_entry_at (P:=X.P) C.w b bm n init.toArray es n es[j] (by rw[h4,hinit,hbj];simp) k3 (by simp) (k4.1.imp fun h=>Nat.ne_of_lt h)
    have hrk:RV0 C.imm C.w kv es[j].key:=k6.get q3 (by simp[hjl])
    have hru:RV0 C.imm C.w uv es[j].val:=k7.get q4 (by simp[hjl])
    refine up_pure hX hk h hd (v:=.tup [kv,uv]) (x:=.tuple #[es[j].key,es[j].val]) (fun c=>by simp[hop]) (by simp[execOp,hop,e1,hrun,Sem.run_pure,Sem.run_map]) ?_ q5
    simp only[RV]
    exact⟨[es[j].key,es[j].val],rfl,by simp only[RVs];exact⟨_,_,rfl,hrk.rv,_,_,rfl,hru.rv,rfl⟩⟩
   ·exact hE'.elim
  ·exact hE'.elim
 ·exact hE'.elim
end
def AV.has(v:AV)(i:Nat):Bool := !(v.refsIn fun j=>j != i)
mutual
theorem AV.refsIn_mono{keep keep':Nat->Bool}:∀(v:AV),(∀i,(v.refsIn fun j=>j != i)=false->keep i=true->keep' i=true)->v.refsIn keep=true->v.refsIn keep'=true
 |.own i _,h,hk=>h i (by simp[AV.refsIn]) hk
 |.elt i _ _ _,h,hk=>h i (by simp[AV.refsIn]) hk
 |.row i,h,hk=>h i (by simp[AV.refsIn]) hk
 |.cut i _ _ _,h,hk=>h i (by simp[AV.refsIn]) hk
 |.agg cs,h,hk=>AV.refsInL_mono cs h hk
 |.tup cs,h,hk=>AV.refsInL_mono cs h hk
 |.fn _ cs,h,hk=>AV.refsInL_mono cs h hk
 |.bool _,_,_=>rfl
 |.int _ _,_,_=>rfl
 |.str _,_,_=>rfl
 |.lit _,_,_=>rfl
 |.isl _,_,_=>rfl
 |.nils,_,_=>rfl
 |.ipt _,_,_=>rfl
 |.imp _ _,_,_=>rfl
 |.tsl _ _,_,_=>rfl
 |.mth _ _,_,_=>rfl
 |.any,_,_=>rfl
 |.yld,_,_=>rfl
 |.gone,_,_=>rfl
theorem AV.refsInL_mono{keep keep':Nat->Bool}:∀(as:List AV),(∀i,(AV.refsInL (fun j=>j != i) as)=false->keep i=true->keep' i=true)->AV.refsInL keep as=true->AV.refsInL keep' as=true
 | [],_,_=>rfl
 |a::as,h,hk=>by
  simp only[AV.refsInL,Bool.and_eq_true,Bool.and_eq_false_iff]at h hk⊢
  exact⟨AV.refsIn_mono a (fun i hi=>h i (.inl hi)) hk.1,AV.refsInL_mono as (fun i hi=>h i (.inr hi)) hk.2⟩
end
theorem AV.keep_has{keep:Nat->Bool}{v:AV}(h:∀i,v.has i=true->keep i=true):v.refsIn keep=true:=
 AV.refsIn_mono v (keep:=fun _=>true) (fun i hi _=>h i (by simp[AV.has,hi])) (AV.refsIn_all (fun _=>rfl) v)
theorem setL_other:∀(l:List (Nat × Res)) (sg:List Res) (i:Nat),i∉l.map (·.1)->(setL sg l)[i]?=sg[i]?
 | [],sg,i,_=>rfl
 |(j,r)::l,sg,i,h=>by
  simp only[List.map_cons,List.mem_cons,not_or]at h
  simp only[setL]
  rw[setL_other l _ i h.2,List.getElem?_set_ne (Ne.symm h.1)]
theorem setL_in:∀(l:List (Nat × Res)) (sg:List Res) (i:Nat),i∈l.map (·.1)->i<sg.length->∃r,(i,r)∈l/\(setL sg l)[i]?=some r
 | [],sg,i,h,_=>by cases h
 |(j,r)::l,sg,i,h,hi=>by
  simp only[setL]
  by_cases hl:i∈l.map (·.1)
  ·obtain⟨r',h1,h2⟩:=setL_in l (sg.set j r) i hl (by simpa using hi)
   exact⟨r',by simp[h1],h2⟩
  ·simp only[List.map_cons,List.mem_cons]at h
   have:i=j:=h.resolve_right hl
   subst this
   exact⟨r,by simp,by rw[setL_other l _ _ hl];simp[hi]⟩
theorem pick_lt:∀ {ns:List Nat} {nm j:Nat},j<ns.length->pick ns nm j=ns.getD j 0
 | [],nm,j,h=>by simp at h
 |n::ns,nm,0,_=>by simp[pick]
 |n::ns,nm,j+1,h=>by simp only[List.length_cons]at h;simp only[pick];rw[pick_lt (by omega)];simp
theorem pick_ge:∀ {ns:List Nat} {nm j:Nat},ns.length<=j->pick ns nm j=nm+(j-ns.length)
 | [],nm,j,_=>by cases j<;>simp[pick]
 |n::ns,nm,0,h=>by simp at h
 |n::ns,nm,j+1,h=>by simp only[List.length_cons]at h;simp only[pick];rw[pick_ge (by omega)];simp
mutual
theorem RV.down{C C0:Ctx}{π : Nat->Nat}{k:Nat}(hll:C0.l.l=C.l.l)(hp:Pers C.imm C0.imm C.w C0.w)(hr:∀i,i<k->C0.rho i=C.rho (π i)):∀(a:AV) (x:Value),a.blw k=true->RV C (a.mv π) x->RV C0 a x
 |.bool _,_,_,h=>by simpa only[RV,AV.mv]using h
 |.int _ _,_,_,h=>by simpa only[RV,AV.mv]using h
 |.str _,_,_,h=>by simpa only[RV,AV.mv]using h
 |.lit _,_,_,h=>by simpa only[RV,AV.mv]using h
 |.nils,_,_,h=>by simpa only[RV,AV.mv]using h
 |.agg cs,v,hb,h=>by simp only[RV,AV.mv,AV.blw]at h hb⊢;obtain⟨vs,rfl,h⟩:=h;exact⟨vs,rfl,RVs.down hll hp hr cs vs hb h⟩
 |.tup cs,v,hb,h=>by simp only[RV,AV.mv,AV.blw]at h hb⊢;obtain⟨vs,rfl,h⟩:=h;exact⟨vs,rfl,RVs.down hll hp hr cs vs hb h⟩
 |.fn f cs,v,hb,h=>by simp only[RV,AV.mv,AV.blw]at h hb⊢;obtain⟨vs,rfl,h⟩:=h;exact⟨vs,rfl,RVs.down hll hp hr cs vs hb h⟩
 |.isl es,v,_,h=>by simp only[RV,AV.mv]at h⊢;exact RV0.mono hp _ _ h
 |.ipt cs,v,_,h=>by simp only[RV,AV.mv]at h⊢;exact RV0.mono hp _ _ h
 |.imp _ _,v,_,h=>by simp only[RV,AV.mv]at h⊢;exact RV0.mono hp _ _ h
 |.tsl _ _,v,_,h=>by simp only[RV,AV.mv]at h⊢;exact RV0.mono hp _ _ h
 |.mth _ _,v,_,h=>by simp only[RV,AV.mv]at h⊢;exact RV0.mono hp _ _ h
 |.any,v,_,h=>by simpa only[RV,AV.mv]using h
 |.own i _,v,hb,h=>by simp only[RV,AV.mv,AV.blw,Nat.blt_eq]at h hb⊢;rw[hr i hb];exact h
 |.elt i _ _ _,v,hb,h=>by simp only[RV,AV.mv,AV.blw,Nat.blt_eq]at h hb⊢;rw[hr i hb];exact h
 |.row i,v,hb,h=>by simp only[RV,AV.mv,AV.blw,Nat.blt_eq]at h hb⊢;rw[hr i hb];exact h
 |.cut i _ _ _,v,hb,h=>by simp only[RV,AV.mv,AV.blw,Nat.blt_eq]at h hb⊢;rw[hr i hb];exact h
 |.yld,_,_,h=>by simp only[RV,AV.mv]at h⊢;rw[hll];exact h
 |.gone,_,hb,_=>by cases hb
theorem RVs.down{C C0:Ctx}{π : Nat->Nat}{k:Nat}(hll:C0.l.l=C.l.l)(hp:Pers C.imm C0.imm C.w C0.w)(hr:∀i,i<k->C0.rho i=C.rho (π i)):∀(as:List AV) (xs:List Value),AV.blwL k as=true->RVs C (AV.mvL π as) xs->RVs C0 as xs
 | [],_,_,h=>by simpa only[RVs,AV.mvL]using h
 |a::as,xs,hb,h=>by
  simp only[RVs,AV.mvL,AV.blwL,Bool.and_eq_true]at h hb⊢
  obtain⟨x,xs',rfl,h1,h2⟩:=h
  exact⟨x,xs',rfl,RV.down hll hp hr a x hb.1 h1,RVs.down hll hp hr as xs' hb.2 h2⟩
end
mutual
theorem RV.up{C C0:Ctx}{π : Nat->Nat}{k:Nat}(hll:C0.l.l=C.l.l)(hp:Pers C0.imm C.imm C0.w C.w)(hr:∀i,i<k->C.rho (π i)=C0.rho i):∀(a:AV) (x:Value),a.blw k=true->RV C0 a x->RV C (a.mv π) x
 |.bool _,_,_,h=>by simpa only[RV,AV.mv]using h
 |.int _ _,_,_,h=>by simpa only[RV,AV.mv]using h
 |.str _,_,_,h=>by simpa only[RV,AV.mv]using h
 |.lit _,_,_,h=>by simpa only[RV,AV.mv]using h
 |.nils,_,_,h=>by simpa only[RV,AV.mv]using h
 |.agg cs,v,hb,h=>by simp only[RV,AV.mv,AV.blw]at h hb⊢;obtain⟨vs,rfl,h⟩:=h;exact⟨vs,rfl,RVs.up hll hp hr cs vs hb h⟩
 |.tup cs,v,hb,h=>by simp only[RV,AV.mv,AV.blw]at h hb⊢;obtain⟨vs,rfl,h⟩:=h;exact⟨vs,rfl,RVs.up hll hp hr cs vs hb h⟩
 |.fn f cs,v,hb,h=>by simp only[RV,AV.mv,AV.blw]at h hb⊢;obtain⟨vs,rfl,h⟩:=h;exact⟨vs,rfl,RVs.up hll hp hr cs vs hb h⟩
 |.isl es,v,_,h=>by simp only[RV,AV.mv]at h⊢;exact RV0.mono hp _ _ h
 |.ipt cs,v,_,h=>by simp only[RV,AV.mv]at h⊢;exact RV0.mono hp _ _ h
 |.imp _ _,v,_,h=>by simp only[RV,AV.mv]at h⊢;exact RV0.mono hp _ _ h
 |.tsl _ _,v,_,h=>by simp only[RV,AV.mv]at h⊢;exact RV0.mono hp _ _ h
 |.mth _ _,v,_,h=>by simp only[RV,AV.mv]at h⊢;exact RV0.mono hp _ _ h
 |.any,v,_,h=>by simpa only[RV,AV.mv]using h
 |.own i _,v,hb,h=>by simp only[RV,AV.mv,AV.blw,Nat.blt_eq]at h hb⊢;rw[hr i hb];exact h
 |.elt i _ _ _,v,hb,h=>by simp only[RV,AV.mv,AV.blw,Nat.blt_eq]at h hb⊢;rw[hr i hb];exact h
 |.row i,v,hb,h=>by simp only[RV,AV.mv,AV.blw,Nat.blt_eq]at h hb⊢;rw[hr i hb];exact h
 |.cut i _ _ _,v,hb,h=>by simp only[RV,AV.mv,AV.blw,Nat.blt_eq]at h hb⊢;rw[hr i hb];exact h
 |.yld,_,_,h=>by simp only[RV,AV.mv]at h⊢;rw[<- hll];exact h
 |.gone,_,hb,_=>by cases hb
theorem RVs.up{C C0:Ctx}{π : Nat->Nat}{k:Nat}(hll:C0.l.l=C.l.l)(hp:Pers C0.imm C.imm C0.w C.w)(hr:∀i,i<k->C.rho (π i)=C0.rho i):∀(as:List AV) (xs:List Value),AV.blwL k as=true->RVs C0 as xs->RVs C (AV.mvL π as) xs
 | [],_,_,h=>by simpa only[RVs,AV.mvL]using h
 |a::as,xs,hb,h=>by
  simp only[RVs,AV.mvL,AV.blwL,Bool.and_eq_true]at h hb⊢
  obtain⟨x,xs',rfl,h1,h2⟩:=h
  exact⟨x,xs',rfl,RV.up hll hp hr a x hb.1 h1,RVs.up hll hp hr as xs' hb.2 h2⟩
end
mutual
theorem RV.upf{C C0:Ctx}{π : Nat->Nat}{k:Nat}(hll:C0.l.l=C.l.l)(hr:∀i,i<k->C.rho (π i)=C0.rho i):∀(a:AV) (x:Value),a.flatB k=true->RV C0 a x->RV C (a.mv π) x
 |.bool _,_,_,h=>by simpa only[RV,AV.mv]using h
 |.int _ _,_,_,h=>by simpa only[RV,AV.mv]using h
 |.str _,_,_,h=>by simpa only[RV,AV.mv]using h
 |.nils,_,_,h=>by simpa only[RV,AV.mv]using h
 |.agg cs,v,hb,h=>by simp only[RV,AV.mv,AV.flatB]at h hb⊢;obtain⟨vs,rfl,h⟩:=h;exact⟨vs,rfl,RVs.upf hll hr cs vs hb h⟩
 |.tup cs,v,hb,h=>by simp only[RV,AV.mv,AV.flatB]at h hb⊢;obtain⟨vs,rfl,h⟩:=h;exact⟨vs,rfl,RVs.upf hll hr cs vs hb h⟩
 |.fn f cs,v,hb,h=>by simp only[RV,AV.mv,AV.flatB]at h hb⊢;obtain⟨vs,rfl,h⟩:=h;exact⟨vs,rfl,RVs.upf hll hr cs vs hb h⟩
 |.own i _,v,hb,h=>by simp only[RV,AV.mv,AV.flatB,Nat.blt_eq]at h hb⊢;rw[hr i hb];exact h
 |.elt i _ _ _,v,hb,h=>by simp only[RV,AV.mv,AV.flatB,Nat.blt_eq]at h hb⊢;rw[hr i hb];exact h
 |.row i,v,hb,h=>by simp only[RV,AV.mv,AV.flatB,Nat.blt_eq]at h hb⊢;rw[hr i hb];exact h
 |.cut i _ _ _,v,hb,h=>by simp only[RV,AV.mv,AV.flatB,Nat.blt_eq]at h hb⊢;rw[hr i hb];exact h
 |.lit _,_,hb,_=>by cases hb
 |.isl _,_,hb,_=>by cases hb
 |.ipt _,_,hb,_=>by cases hb
 |.imp _ _,_,hb,_=>by cases hb
 |.tsl _ _,_,hb,_=>by cases hb
 |.mth _ _,_,hb,_=>by cases hb
 |.any,_,hb,_=>by cases hb
 |.yld,_,_,h=>by simp only[RV,AV.mv]at h⊢;rw[<- hll];exact h
 |.gone,_,hb,_=>by cases hb
theorem RVs.upf{C C0:Ctx}{π : Nat->Nat}{k:Nat}(hll:C0.l.l=C.l.l)(hr:∀i,i<k->C.rho (π i)=C0.rho i):∀(as:List AV) (xs:List Value),AV.flatBL k as=true->RVs C0 as xs->RVs C (AV.mvL π as) xs
 | [],_,_,h=>by simpa only[RVs,AV.mvL]using h
 |a::as,xs,hb,h=>by
  simp only[RVs,AV.mvL,AV.flatBL,Bool.and_eq_true]at h hb⊢
  obtain⟨x,xs',rfl,h1,h2⟩:=h
  exact⟨x,xs',rfl,RV.upf hll hr a x hb.1 h1,RVs.upf hll hr as xs' hb.2 h2⟩
end
mutual
theorem RV0.pu{imm:Nat->Prop}{w:World}{π : Nat->Nat}:∀(a:AV) (x:Value),RV0 imm w a x->a.mv π = a
 |.bool _,_,_=>rfl
 |.int _ _,_,_=>rfl
 |.str _,_,_=>rfl
 |.lit _,_,_=>rfl
 |.nils,_,_=>rfl
 |.isl _,_,_=>rfl
 |.ipt _,_,_=>rfl
 |.imp _ _,_,_=>rfl
 |.tsl _ _,_,_=>rfl
 |.mth _ _,_,_=>rfl
 |.any,_,_=>rfl
 |.agg cs,v,h=>by simp only[RV0]at h;obtain⟨vs,rfl,h⟩:=h;simp only[AV.mv,RV0s.pu cs vs h]
 |.tup cs,v,h=>by simp only[RV0]at h;obtain⟨vs,rfl,h⟩:=h;simp only[AV.mv,RV0s.pu cs vs h]
 |.fn f cs,v,h=>by simp only[RV0]at h;obtain⟨vs,rfl,h⟩:=h;simp only[AV.mv,RV0s.pu cs vs h]
 |.own _ _,_,h=>by simp[RV0]at h
 |.elt _ _ _ _,_,h=>by simp[RV0]at h
 |.row _,_,h=>by simp[RV0]at h
 |.cut _ _ _ _,_,h=>by simp[RV0]at h
 |.yld,_,h=>by simp[RV0]at h
 |.gone,_,h=>by simp[RV0]at h
theorem RV0s.pu{imm:Nat->Prop}{w:World}{π : Nat->Nat}:∀(as:List AV) (xs:List Value),RV0s imm w as xs->AV.mvL π as=as
 | [],_,_=>rfl
 |a::as,xs,h=>by simp only[RV0s]at h;obtain⟨x,xs',rfl,h1,h2⟩:=h;simp only[AV.mvL,RV0.pu a x h1,RV0s.pu as xs' h2]
end
mutual
theorem RV0.unmv{imm:Nat->Prop}{w:World}{π : Nat->Nat}:∀(a:AV) (x:Value),RV0 imm w (a.mv π) x->RV0 imm w a x
 |.bool _,_,h=>h
 |.int _ _,_,h=>h
 |.str _,_,h=>h
 |.lit _,_,h=>h
 |.nils,_,h=>h
 |.isl _,_,h=>h
 |.ipt _,_,h=>h
 |.imp _ _,_,h=>h
 |.tsl _ _,_,h=>h
 |.mth _ _,_,h=>h
 |.any,_,h=>h
 |.agg cs,v,h=>by simp only[RV0,AV.mv]at h⊢;obtain⟨vs,rfl,h⟩:=h;exact⟨vs,rfl,RV0s.unmv cs vs h⟩
 |.tup cs,v,h=>by simp only[RV0,AV.mv]at h⊢;obtain⟨vs,rfl,h⟩:=h;exact⟨vs,rfl,RV0s.unmv cs vs h⟩
 |.fn f cs,v,h=>by simp only[RV0,AV.mv]at h⊢;obtain⟨vs,rfl,h⟩:=h;exact⟨vs,rfl,RV0s.unmv cs vs h⟩
 |.own _ _,_,h=>by simp[RV0,AV.mv]at h
 |.elt _ _ _ _,_,h=>by simp[RV0,AV.mv]at h
 |.row _,_,h=>by simp[RV0,AV.mv]at h
 |.cut _ _ _ _,_,h=>by simp[RV0,AV.mv]at h
 |.yld,_,h=>by simp[RV0,AV.mv]at h
 |.gone,_,h=>by simp[RV0,AV.mv]at h
theorem RV0s.unmv{imm:Nat->Prop}{w:World}{π : Nat->Nat}:∀(as:List AV) (xs:List Value),RV0s imm w (AV.mvL π as) xs->RV0s imm w as xs
 | [],_,h=>h
 |a::as,xs,h=>by simp only[RV0s,AV.mvL]at h⊢;obtain⟨x,xs',rfl,h1,h2⟩:=h;exact⟨x,xs',rfl,RV0.unmv a x h1,RV0s.unmv as xs' h2⟩
end
theorem Res.mv_blk{π : Nat->Nat}(r:Res)(o:Option Own):(r.mv π).blk o=r.blk o:=by cases r<;>rfl
theorem ResOk.down{C C0:Ctx}{π : Nat->Nat}{k:Nat}(hll:C0.l.l=C.l.l)(hw:C0.w=C.w)(hi:∀b,C.imm b->C0.imm b)(hr:∀i,i<k->C0.rho i=C.rho (π i)){r:Res}{o:Option Own}(hb:r.blw k=true)(hbl:∀b,r.blk o=some b->C0.T b/\(C0.imm b->C.imm b))
  (h:ResOk C (r.mv π) o):ResOk C0 r o:=by
 have hp:Pers C.imm C0.imm C.w C0.w:=fun b hb=>⟨hi b hb,by rw[hw]⟩
 cases r with
 |fresh=>exact h
 |dead=>exact h
 |box ice cs=>
  obtain⟨b,vs,el,rfl,h1,h2,h3,h4,h5⟩:=h
  obtain⟨q1,q2⟩:=hbl b rfl
  refine⟨b,vs,el,rfl,q1,by rw[hw];exact h2,RVs.down hll hp hr cs vs hb h3,fun e=>⟨hi b (h4 e).1,?_⟩,fun e hh=>h5 e (q2 hh)⟩
  exact RV0s.mono hp _ _ (RV0s.unmv _ _ (h4 e).2)
 |row ice el sz es=>
  obtain⟨b,v,xs,rfl,h1,h2,h3,h4⟩:=h
  refine⟨b,v,xs,rfl,by rw[hw];exact h1,RV0s.mono hp _ _ h2,h3,fun b' e=>?_⟩
  obtain⟨e1,e2,e3,e4⟩:=h4 b' e
  obtain⟨q1,q2⟩:=hbl b' e
  exact⟨e1,by rw[<- e1];exact q1,fun e'=>hi _ (e3 e'),fun e' hh=>e4 e' (by rw[<- e1]at hh⊢;exact q2 hh)⟩
 |mp ice ks us=>
  obtain⟨b,es,nB,rfl,h1,h2,h3,h4,h5,h6,h7⟩:=h
  obtain⟨q1,q2⟩:=hbl b rfl
  exact⟨b,es,nB,rfl,q1,by rw[hw];exact h2,h3,RV0s.mono hp _ _ h4,RV0s.mono hp _ _ h5,fun e=>hi b (h6 e),fun e hh=>h7 e (q2 hh)⟩
 |mpo ks us=>cases hb
 |mpb ks us bn n=>cases hb
 |itd c n mem=>cases hb
 |itr ks us seen last=>
  obtain⟨b,m,nI,mI,rfl,h1,h2,h3,h4,h5⟩:=h
  obtain⟨q1,q2⟩:=hbl b rfl
  exact⟨b,m,nI,mI,rfl,q1,fun hh=>h2 (q2 hh),by rw[hw];exact h3,h4.mono hp,h5⟩
 |sit f pos=>
  obtain⟨b,rfl,h1,h2,h3⟩:=h
  obtain⟨q1,q2⟩:=hbl b rfl
  exact⟨b,rfl,q1,fun hh=>h2 (q2 hh),by rw[hw];exact h3⟩
theorem ResOk.up{C C0:Ctx}{π : Nat->Nat}{k:Nat}(hll:C0.l.l=C.l.l)(hw:C.w=C0.w)(hi:∀b,C0.imm b->C.imm b)(hr:∀i,i<k->C.rho (π i)=C0.rho i){r:Res}{o:Option Own}(hb:r.blw k=true)(hbl:∀b,r.blk o=some b->C.T b/\(C.imm b->C0.imm b))
  (h:ResOk C0 r o):ResOk C (r.mv π) o:=by
 have hp:Pers C0.imm C.imm C0.w C.w:=fun b hb=>⟨hi b hb,by rw[hw]⟩
 cases r with
 |fresh=>exact h
 |dead=>exact h
 |box ice cs=>
  obtain⟨b,vs,el,rfl,h1,h2,h3,h4,h5⟩:=h
  obtain⟨q1,q2⟩:=hbl b rfl
  refine⟨b,vs,el,rfl,q1,by rw[hw];exact h2,RVs.up hll hp hr cs vs hb h3,fun e=>⟨hi b (h4 e).1,?_⟩,fun e hh=>h5 e (q2 hh)⟩
  rw[RV0s.pu _ _ (h4 e).2];exact RV0s.mono hp _ _ (h4 e).2
 |row ice el sz es=>
  obtain⟨b,v,xs,rfl,h1,h2,h3,h4⟩:=h
  refine⟨b,v,xs,rfl,by rw[hw];exact h1,RV0s.mono hp _ _ h2,h3,fun b' e=>?_⟩
  obtain⟨e1,e2,e3,e4⟩:=h4 b' e
  obtain⟨q1,q2⟩:=hbl b' e
  exact⟨e1,by rw[<- e1];exact q1,fun e'=>hi _ (e3 e'),fun e' hh=>e4 e' (by rw[<- e1]at hh⊢;exact q2 hh)⟩
 |mp ice ks us=>
  obtain⟨b,es,nB,rfl,h1,h2,h3,h4,h5,h6,h7⟩:=h
  obtain⟨q1,q2⟩:=hbl b rfl
  exact⟨b,es,nB,rfl,q1,by rw[hw];exact h2,h3,RV0s.mono hp _ _ h4,RV0s.mono hp _ _ h5,fun e=>hi b (h6 e),fun e hh=>h7 e (q2 hh)⟩
 |mpo ks us=>cases hb
 |mpb ks us bn n=>cases hb
 |itd c n mem=>cases hb
 |itr ks us seen last=>
  obtain⟨b,m,nI,mI,rfl,h1,h2,h3,h4,h5⟩:=h
  obtain⟨q1,q2⟩:=hbl b rfl
  exact⟨b,m,nI,mI,rfl,q1,fun hh=>h2 (q2 hh),by rw[hw];exact h3,h4.mono hp,h5⟩
 |sit f pos=>
  obtain⟨b,rfl,h1,h2,h3⟩:=h
  obtain⟨q1,q2⟩:=hbl b rfl
  exact⟨b,rfl,q1,fun hh=>h2 (q2 hh),by rw[hw];exact h3⟩
theorem RV0s.flatL{imm imm2:Nat->Prop}{w w':World}{as:List AV}{xs:List Value}(hf:AV.flatL as=true)(h:RV0s imm w as xs):RV0s imm2 w' as xs:=
 RV0s.mono (imm:=fun _=>False) (w:=w) (fun b hb=>hb.elim) _ _ (flat0s (C:=⟨imm,fun _=>False,fun _=>none,w,ln0⟩) as xs hf (RV0s.rv (C:=⟨imm,fun _=>False,fun _=>none,w,ln0⟩) _ _ h))
theorem ResOk.upf{C C0:Ctx}{π : Nat->Nat}{k:Nat}(hll:C0.l.l=C.l.l)(hw:C.w=C0.w)(hr:∀i,i<k->C.rho (π i)=C0.rho i){r:Res}{o:Option Own}(hb:r.flatB k=true)(hbl:∀b,r.blk o=some b->C.T b/\(C.imm b->C0.imm b))
  (h:ResOk C0 r o):ResOk C (r.mv π) o:=by
 cases r with
 |fresh=>exact h
 |dead=>exact h
 |box ice cs=>
  cases ice
  ·obtain⟨b,vs,el,rfl,h1,h2,h3,h4,h5⟩:=h
   obtain⟨q1,q2⟩:=hbl b rfl
   exact⟨b,vs,el,rfl,q1,by rw[hw];exact h2,RVs.upf hll hr cs vs hb h3,fun e=>absurd e (by simp),fun e hh=>h5 e (q2 hh)⟩
  ·cases hb
 |row ice el sz es=>
  cases ice
  ·obtain⟨b,v,xs,rfl,h1,h2,h3,h4⟩:=h
   refine⟨b,v,xs,rfl,by rw[hw];exact h1,RV0s.flatL hb h2,h3,fun b' e=>?_⟩
   obtain⟨e1,e2,e3,e4⟩:=h4 b' e
   obtain⟨q1,q2⟩:=hbl b' e
   exact⟨e1,by rw[<- e1];exact q1,fun e'=>absurd e' (by simp),fun e' hh=>e4 e' (by rw[<- e1]at hh⊢;exact q2 hh)⟩
  ·cases hb
 |mp ice ks us=>
  cases ice
  ·simp only[Res.flatB,Bool.and_eq_true]at hb
   obtain⟨b,es,nB,rfl,h1,h2,h3,h4,h5,h6,h7⟩:=h
   obtain⟨q1,q2⟩:=hbl b rfl
   exact⟨b,es,nB,rfl,q1,by rw[hw];exact h2,h3,RV0s.flatL hb.1 h4,RV0s.flatL hb.2 h5,fun e=>absurd e (by simp),fun e hh=>h7 e (q2 hh)⟩
  ·cases hb
 |mpo ks us=>cases hb
 |mpb ks us bn n=>cases hb
 |itd c n mem=>cases hb
 |itr ks us seen last=>cases hb
 |sit f pos=>cases hb
theorem bigL_mem{π : Nat->Nat}:∀ {outs:List Res} {i:Nat} {p:Nat × Res},p∈bigL π i outs->∃j,j<outs.length/\p=(π (i+j),(outs.getD j .fresh).mv π)
 | [],i,p,h=>by cases h
 |r::rs,i,p,h=>by
  simp only[bigL,List.mem_cons]at h
  rcases h with rfl|h
  ·exact⟨0,by simp,by simp⟩
  ·obtain⟨j,h1,h2⟩:=bigL_mem h
   exact⟨j+1,by simp;omega,by rw[h2,show i+1+j=i+(j+1) from by omega];simp⟩
theorem bigL_in{π : Nat->Nat}:∀ {outs:List Res} {i j:Nat},j<outs.length -> π (i+j)∈(bigL π i outs).map (·.1)
 | [],i,j,h=>by simp at h
 |r::rs,i,0,h=>by simp[bigL]
 |r::rs,i,j+1,h=>by
  simp only[bigL,List.map_cons,List.mem_cons]
  right
  have:=bigL_in (π := π) (outs:=rs) (i:=i+1) (j:=j) (by simp at h;omega)
  rwa [show i+1+j=i+(j+1) from by omega]at this
theorem handed_get{sg:List Res}{π : Nat->Nat}:∀ {ins:List Res} {i:Nat},handed sg π i ins->∀j,j<ins.length->sg.getD (π (i+j)) .dead=(ins.getD j .fresh).mv π
 | [],i,_,j,h=>by simp at h
 |r::rs,i,h,0,_=>by simpa using h.1
 |r::rs,i,h,j+1,hj=>by
  have:=handed_get h.2 j (by simp at hj;omega)
  rw[show i+1+j=i+(j+1) from by omega]at this
  simpa using this
theorem resBelow_get{k:Nat}:∀ {rs:List Res},resBelow k rs=true->∀j,j<rs.length->(rs.getD j .fresh).blw k=true
 | [],_,j,h=>by simp at h
 |r::rs,h,0,_=>by simp only[resBelow,Bool.and_eq_true]at h;simpa using h.1
 |r::rs,h,j+1,hj=>by simp only[resBelow,Bool.and_eq_true]at h;simpa using resBelow_get h.2 j (by simp at hj;omega)
theorem resFlat_get{k:Nat}:∀ {rs:List Res},resFlat k rs=true->∀j,j<rs.length->(rs.getD j .fresh).flatB k=true
 | [],_,j,h=>by simp at h
 |r::rs,h,0,_=>by simp only[resFlat,Bool.and_eq_true]at h;simpa using h.1
 |r::rs,h,j+1,hj=>by simp only[resFlat,Bool.and_eq_true]at h;simpa using resFlat_get h.2 j (by simp at hj;omega)
theorem resLive_get:∀ {rs:List Res},resLive rs=true->∀j,j<rs.length->rs.getD j .fresh ≠ .fresh/\rs.getD j .fresh ≠ .dead
 | [],_,j,h=>by simp at h
 |r::rs,h,0,_=>by cases r<;>simp[resLive]at h⊢
 |r::rs,h,j+1,hj=>by
  have:resLive rs=true:=by cases r<;>simp[resLive]at h⊢<;>exact h
  simpa using resLive_get this j (by simp at hj;omega)
theorem nodupN_get:∀ {ns:List Nat},nodupN ns=true->∀i j,i<ns.length->j<ns.length->ns.getD i 0=ns.getD j 0->i=j
 | [],_,i,j,h,_,_=>by simp at h
 |n::ns,h,i,j,hi,hj,e=>by
  simp only[nodupN,Bool.and_eq_true,Bool.not_eq_true']at h
  have hn:∀j,j<ns.length->ns.getD j 0≠n:=fun j hj e=>by
   have:n∈ns:=by rw[<- e];simp[List.getD_eq_getElem?_getD,hj]
   rw[<- memN_iff]at this;rw[this]at h;simp at h
  cases i<;>cases j<;>simp at hi hj e⊢
  ·rename_i j;exact absurd (by simpa using e.symm) (hn j (by omega))
  ·rename_i i;exact absurd (by simpa using e) (hn i (by omega))
  ·rename_i i j;exact nodupN_get h.2 i j (by omega) (by omega) (by simpa using e)
theorem ResOk.some{C:Ctx}{r:Res}{o:Option Own}(h:ResOk C r o)(h1:r ≠ .fresh)(h2:r ≠ .dead):∃x,o=some x:=by
 cases r with
 |fresh=>exact absurd rfl h1
 |dead=>exact absurd rfl h2
 |box ice cs=>obtain⟨b,vs,el,rfl,_⟩:=h;exact⟨_,rfl⟩
 |row ice el sz es=>obtain⟨b,v,xs,rfl,_⟩:=h;exact⟨_,rfl⟩
 |mp ice ks us=>obtain⟨b,es,nB,rfl,_⟩:=h;exact⟨_,rfl⟩
 |mpo ks us=>obtain⟨b,es,nB,rfl,_⟩:=h;exact⟨_,rfl⟩
 |itr ks us seen last=>obtain⟨b,m,nI,mI,rfl,_⟩:=h;exact⟨_,rfl⟩
 |sit f pos=>obtain⟨b,rfl,_⟩:=h;exact⟨_,rfl⟩
 |mpb ks us bn n=>obtain⟨b,es,rfl,_⟩:=h;exact⟨_,rfl⟩
 |itd c n mem=>obtain⟨b,m,rfl,_⟩:=h;exact⟨_,rfl⟩
theorem world_heap{w w':World}(h:w={ w' with heap:=w.heap })(e:∀b:Nat,w.heap[b]?=w'.heap[b]?):w=w':=by
 have:w.heap=w'.heap:=Array.ext_getElem? e
 rw[this]at h;exact h
theorem keep_wr{X:Sess}{E:Env}(hX:SessOk X E){T:Nat->Prop}{S:Wt}{k:Nat}{st:Bool}{w w':World}{imm T1:Nat->Prop}(hK:X.Keep T S k st w)(hwr:Wr imm T1 w w')(h1:∀b,T1 b->T b/\Mem w b)(h0:∀b,X.imm0 b->imm b)(h9:∀b,S.h b->imm b)
  (bs:List Nat) (hbs:∀b,T1 b->b∈bs):X.Keep (newB w w' T) S k st w':=by
 let w1:World:={ w' with heap:=w.heap++w'.heap.extract w.heap.size w'.heap.size }
 have hs1:w1.heap.size=w'.heap.size:=by
  have:=hwr.size
  simp only[w1,Array.size_append,Array.size_extract];omega
 have hlt:∀b,b<w.heap.size->w1.heap[b]?=w.heap[b]?:=fun b hb=>by
  simp only[w1];rw[Array.getElem?_append_left hb]
 have hge:∀b,w.heap.size<=b->w1.heap[b]?=w'.heap[b]?:=fun b hb=>by
  simp only[w1];rw[Array.getElem?_append_right hb]
  rw[Array.getElem?_extract]
  split
  ·rw[show w.heap.size+(b-w.heap.size)=b from by omega]
  ·have:w'.heap.size<=b:=by omega
   rw[Array.getElem?_eq_none this]
 have hb:Below w.heap.size w w1:=⟨hwr.os,hwr.tape,hwr.output,by rw[hs1];exact hwr.size,fun k hk=>hlt k hk⟩
 have hK1:=hX.kgrow _ _ _ _ _ _ hK hb
 have hN:newB w w1 T=newB w w' T:=by funext b;simp only[newB,hs1]
 rw[hN]at hK1
 have key:∀(bs:List Nat) (wc:World),wc={ w' with heap:=wc.heap }->wc.heap.size=w'.heap.size->(∀b,wc.heap[b]?=w'.heap[b]?\/(b∈bs/\wc.heap[b]?=w.heap[b]?/\T1 b/\¬imm b))->X.Keep (newB w w' T) S k st wc->X.Keep (newB w w' T) S k st w':=by
  intro bs
  induction bs with
  |nil=>
   intro wc e1 e2 e3 hk
   have:wc=w':=world_heap e1 fun b=>(e3 b).resolve_right fun hh=>by cases hh.1
   rwa [this]at hk
  |cons b bs ih=>
   intro wc e1 e2 e3 hk
   rcases e3 b with h4|⟨_,h4,h5,h6⟩
   ·refine ih wc e1 e2 (fun b'=>?_) hk
    rcases e3 b' with h7|⟨h7,h8⟩
    ·exact .inl h7
    ·rcases List.mem_cons.1 h7 with rfl|h7
     ·exact .inl h4
     ·exact .inr ⟨h7,h8⟩
   ·obtain⟨hT,hm⟩:=h1 b h5
    have hlt':b<w'.heap.size:=Nat.lt_of_lt_of_le hm.lt hwr.size
    have hltc:b<wc.heap.size:=by omega
    have hother:∀b',b'≠b->(wc.heap.setIfInBounds b (w'.heap[b]))[b']?=wc.heap[b']?:=fun b' hne=>by
     rw[Array.getElem?_setIfInBounds_ne (Ne.symm hne)]
    have hset:(wc.heap.setIfInBounds b (w'.heap[b]))[b]?=w'.heap[b]?:=by
     rw[Array.getElem?_setIfInBounds_self];simp[hltc,hlt']
    have e1':∀h:Array Obj,({ wc with heap:=h }:World)={ w' with heap:=h }:=fun h=>by rw[e1]
    refine ih { wc with heap:=wc.heap.setIfInBounds b (w'.heap[b]) } (e1' _) (by simp[e2]) (fun b'=>?_) (hX.kset _ _ _ _ wc _ b hk (.inl hT) (fun hq=>h6 (h0 b hq)) (fun hq=>h6 (h9 b hq)) ⟨rfl,rfl,rfl,by simp,fun k hk=>hother k hk,hm.same h4,(hwr.mem b hm).same hset⟩)
    simp only
    by_cases e:b'=b
    ·subst e;exact .inl hset
    ·rw[hother b' e]
     rcases e3 b' with h7|⟨h7,h8⟩
     ·exact .inl h7
     ·rcases List.mem_cons.1 h7 with rfl|h7
      ·exact absurd rfl e
      ·exact .inr ⟨h7,h8⟩
 refine key bs w1 rfl hs1 (fun b=>?_) hK1
 by_cases hbl:b<w.heap.size
 ·by_cases hh:imm b\/¬T1 b
  ·exact .inl ((hlt b hbl).trans (hwr.same b hbl hh).symm)
  ·have h2:T1 b:=Classical.not_not.1 fun e=>hh (.inr e)
   exact .inr ⟨hbs b h2,hlt b hbl,h2,fun e=>hh (.inl e)⟩
 ·exact .inl (hge b (by omega))
def osOf(C:Ctx)(ns:List Nat)(j:Nat):Option Own:=if j<ns.length then C.rho (ns.getD j 0) else none
def blksOf(C:Ctx)(ns:List Nat)(ins:List Res)(b:Nat):Prop:=∃j,j<ns.length/\(ins.getD j .fresh).blk (osOf C ns j)=some b
def rho2(C:Ctx)(ns:List Nat)(nm n:Nat)(os':Nat->Option Own)(i:Nat):Option Own:=if nm<=i/\i<nm+(n-ns.length) then os' (i-nm+ns.length) else C.rho i
section
variable {X:Sess} {E:Env} {C:Ctx} {s:St} {a:Act}
theorem handed_sg{ns:List Nat}{nm:Nat}{ins:List Res}(hlen:ns.length=ins.length)(hh:handed s.sg (pick ns nm) 0 ins)(hlive:resLive ins=true){j:Nat}(hj:j<ns.length) :
  s.sg.getD (ns.getD j 0) .fresh=(ins.getD j .fresh).mv (pick ns nm)/\ns.getD j 0<s.sg.length:=by
 have h1:=handed_get hh j (by omega)
 rw[Nat.zero_add,pick_lt hj]at h1
 have h2:=resLive_get hlive j (by omega)
 exact getD_dead h1 (by generalize ins.getD j .fresh=r at h2;cases r<;>simp[Res.mv]at h2⊢)
theorem Rel.osOf_part(h:Rel X C s a){ns:List Nat}{nm:Nat}{ins:List Res}(hlen:ns.length=ins.length)(hnd:nodupN ns=true)(hh:handed s.sg (pick ns nm) 0 ins)(hib:resBelow ns.length ins=true)(hlive:resLive ins=true)
  {imm:Nat->Prop} (hi:∀b,C.imm b->imm b) (hni:∀b,blksOf C ns ins b->imm b->C.imm b):Part imm (blksOf C ns ins) C.w (osOf C ns) C.l.l ins:=by
 have hos:∀j,j<ns.length->osOf C ns j=C.rho (ns.getD j 0):=fun j hj=>by simp[osOf,hj]
 refine⟨fun i=>?_,fun i j b h1 h2=>?_⟩
 ·by_cases hi':i<ns.length
  ·obtain⟨e1,_⟩:=handed_sg hlen hh hlive hi'
   have hs:=h.sg (ns.getD i 0)
   rw[e1,<- hos i hi']at hs
   refine ResOk.down (k:=ns.length) (π :=pick ns nm) (C:=C) (C0:=⟨imm,blksOf C ns ins,osOf C ns,C.w,lnl C.l.l⟩) rfl rfl hi (fun j hj=>?_) (resBelow_get hib i (by omega)) (fun b hb=>⟨⟨i,hi',hb⟩,hni b ⟨i,hi',hb⟩⟩) hs
   rw[pick_lt hj];exact hos j hj
  ·have:ins.getD i .fresh = .fresh:=by rw[List.getD_eq_getElem?_getD,List.getElem?_eq_none (by omega)];rfl
   rw[this];simp[ResOk,osOf,hi']
 ·have lt:∀i,(ins.getD i .fresh).blk (osOf C ns i)=some b->i<ns.length:=fun i hi'=>Classical.byContradiction fun hn=>by
   have:ins.getD i .fresh = .fresh:=by rw[List.getD_eq_getElem?_getD,List.getElem?_eq_none (by omega)];rfl
   rw[this]at hi';cases hi'
  have l1:=lt i h1
  have l2:=lt j h2
  rw[hos i l1]at h1
  rw[hos j l2]at h2
  refine nodupN_get hnd i j l1 l2 (h.dis _ _ b ?_ ?_)
  ·rw[(handed_sg hlen hh hlive l1).1,Res.mv_blk];exact h1
  ·rw[(handed_sg hlen hh hlive l2).1,Res.mv_blk];exact h2
theorem blks_list(ns:List Nat)(ins:List Res):∃bs:List Nat,∀b,blksOf C ns ins b->b∈bs:=
 ⟨(List.range ns.length).filterMap fun j=>(ins.getD j .fresh).blk (osOf C ns j),fun b ⟨j,hj,hb⟩=>List.mem_filterMap.2 ⟨j,by simpa using hj,hb⟩⟩
theorem Rel.writeG(h:Rel X C s a){ns:List Nat}{nm ct:Nat}{ins outs:List Res}{w':World}{imm' imm2 T' T2:Nat->Prop}{os':Nat->Option Own}{l2:Ln}{k':Nat}{st':Bool}
  (hlen:ns.length=ins.length) (hnd:nodupN ns=true) (hh:handed s.sg (pick ns nm) 0 ins) (hlive:resLive ins=true) (hfr:freshN s.sg nm ct=true) (hle:ns.length<=outs.length) (hle2:outs.length<=ns.length+ct)
  (hP:Part imm' T' w' os' C.l.l outs) (hos:∀i o,osOf C ns i=some o->os' i=some o) (hsame:∀b,b<C.w.heap.size->(C.imm b\/(C.T b/\¬blksOf C ns ins b))->w'.heap[b]?=C.w.heap[b]?) (hT1:∀b,blksOf C ns ins b->T' b) (hT':∀b,T' b->blksOf C ns ins b\/(C.w.heap.size<=b/\b<w'.heap.size))
  (hi1:∀b,C.imm b->imm2 b) (hi2:∀b,imm2 b->(C.imm b\/T' b)/\Mem w' b) (hl2:l2.l=C.l.l) (hlh:∀b,l2.S.h b->imm2 b) (hT2:∀b,C.T b->T2 b) (hT2':∀b,T' b->T2 b) (hT2s:∀b,T2 b->b<w'.heap.size) (hK:X.Keep T2 l2.S k' st' w')
  (hup:∀j,j<outs.length->(∀i,i<outs.length->rho2 C ns nm outs.length os' (pick ns nm i)=os' i)->ResOk ⟨imm2,T2,rho2 C ns nm outs.length os',w',l2⟩ ((outs.getD j .fresh).mv (pick ns nm)) (os' j)) :
  Rel X ⟨imm2,T2,rho2 C ns nm outs.length os',w',l2⟩ { s with sg:=setL s.sg (bigL (pick ns nm) 0 outs),gh:=⟨s.gh.p,k',st'⟩ } a/\∀i,i<outs.length->rho2 C ns nm outs.length os' (pick ns nm i)=os' i:=by
 have hos0:∀j,j<ns.length->osOf C ns j=C.rho (ns.getD j 0):=fun j hj=>by simp[osOf,hj]
 have hfresh:∀i,nm<=i->i<nm+ct->s.sg.getD i .fresh = .fresh/\i<s.sg.length:=fun i h1 h2=>by
  have:=freshN_iff.1 hfr (i-nm) (by omega)
  rw[show nm+(i-nm)=i from by omega]at this
  exact getD_dead this (by simp)
 have hnn:∀j,j<ns.length->¬(nm<=ns.getD j 0/\ns.getD j 0<nm+ct):=fun j hj hc=>by
  obtain⟨e1,_⟩:=handed_sg hlen hh hlive hj
  obtain⟨e2,_⟩:=hfresh _ hc.1 hc.2
  rw[e2]at e1
  have:=(resLive_get hlive j (by omega)).1
  generalize ins.getD j .fresh=r at this e1
  cases r<;>simp[Res.mv]at this e1
 -- what a name of the callee's stands for, afterwards
 have hrho:∀i,i<outs.length->rho2 C ns nm outs.length os' (pick ns nm i)=os' i:=fun i hi=>by
  by_cases hk:i<ns.length
  ·rw[pick_lt hk]
   have:¬(nm<=ns.getD i 0/\ns.getD i 0<nm+(outs.length-ns.length)):=fun hc=>hnn i hk ⟨hc.1,by omega⟩
   rw[rho2,if_neg this,<- hos0 i hk]
   have hs:=h.sg (ns.getD i 0)
   rw[(handed_sg hlen hh hlive hk).1,<- hos0 i hk]at hs
   have hl:=resLive_get hlive i (by omega)
   obtain⟨o,ho⟩:=ResOk.some hs (by generalize ins.getD i .fresh=r at hl;cases r<;>simp[Res.mv]at hl⊢) (by generalize ins.getD i .fresh=r at hl;cases r<;>simp[Res.mv]at hl⊢)
   rw[ho,hos i o ho]
  ·rw[pick_ge (by omega),rho2,if_pos ⟨by omega,by omega⟩]
   congr 1;omega
 -- the names that are touched
 have hnamed:∀i,i<outs.length->pick ns nm i<s.sg.length:=fun i hi=>by
  by_cases hk:i<ns.length
  ·rw[pick_lt hk];exact(handed_sg hlen hh hlive hk).2
  ·rw[pick_ge (by omega)];exact(hfresh _ (by omega) (by omega)).2
 have hget:∀i,(∃j,j<outs.length/\pick ns nm j=i/\(setL s.sg (bigL (pick ns nm) 0 outs)).getD i .fresh=(outs.getD j .fresh).mv (pick ns nm)) \/
   ((∀j,j<outs.length->pick ns nm j≠i)/\(setL s.sg (bigL (pick ns nm) 0 outs)).getD i .fresh=s.sg.getD i .fresh):=fun i=>by
  by_cases hm:i∈(bigL (pick ns nm) 0 outs).map (·.1)
  ·obtain⟨p,hp,e⟩:=List.mem_map.1 hm
   obtain⟨j0,h1,h2⟩:=bigL_mem hp
   have hlt:i<s.sg.length:=by rw[<- e,h2];simpa using hnamed j0 h1
   obtain⟨r,h3,h4⟩:=setL_in _ s.sg i hm hlt
   obtain⟨j,h5,h6⟩:=bigL_mem h3
   simp only[Nat.zero_add,Prod.mk.injEq]at h6
   exact .inl ⟨j,h5,h6.1.symm,by rw[List.getD_eq_getElem?_getD,h4,h6.2];rfl⟩
  ·refine .inr ⟨fun j hj e=>hm ?_,?_⟩
   ·have:=bigL_in (π :=pick ns nm) (outs:=outs) (i:=0) hj
    rw[Nat.zero_add,e]at this;exact this
   ·rw[List.getD_eq_getElem?_getD,setL_other _ _ _ hm,List.getD_eq_getElem?_getD]
 -- other names stand for what they stood for
 have hold:∀i,(∀j,j<outs.length->pick ns nm j≠i)->rho2 C ns nm outs.length os' i=C.rho i:=fun i hi=>by
  rw[rho2,if_neg]
  rintro⟨c1,c2⟩
  refine hi (i-nm+ns.length) (by omega) ?_
  rw[pick_ge (by omega)];omega
 have hnt:∀i b,(∀j,j<outs.length->pick ns nm j≠i)->(s.sg.getD i .fresh).blk (C.rho i)=some b->¬blksOf C ns ins b:=fun i b hi hb ⟨j,hj,hb'⟩=>by
  refine hi j (by omega) ?_
  rw[pick_lt hj]
  refine h.dis _ _ b ?_ hb
  rw[(handed_sg hlen hh hlive hj).1,Res.mv_blk,<- hos0 j hj];exact hb'
 have hnT':∀i b,(∀j,j<outs.length->pick ns nm j≠i)->(s.sg.getD i .fresh).blk (C.rho i)=some b->¬T' b:=fun i b hi hb ht=>by
  rcases hT' b ht with h1|h1
  ·exact hnt i b hi hb h1
  ·have:=(Res.blk_lt (h.sg i) hb).2.1;omega
 have hl:Later (fun i => !(Nat.ble nm i&&Nat.blt i (nm+(outs.length-ns.length)))) C ⟨imm2,T2,rho2 C ns nm outs.length os',w',l2⟩:=by
  refine⟨fun b hb=>⟨hi1 b hb,hsame b (h.imm b hb).2.lt (.inl hb)⟩,fun i hi=>?_,hl2⟩
  simp only[Bool.not_eq_true',Bool.and_eq_false_iff]at hi
  show rho2 _ _ _ _ _ _=_
  rw[rho2,if_neg]
  rintro⟨c1,c2⟩
  rcases hi with hi|hi
  ·have:Nat.ble nm i=true:=by simpa using c1
   rw[this]at hi;cases hi
  ·have:Nat.blt i (nm+(outs.length-ns.length))=true:=by simpa using c2
   rw[this]at hi;cases hi
 have hkeep:∀(v:AV) (x:Value),RV C v x->v.refsIn (fun i => !(Nat.ble nm i&&Nat.blt i (nm+(outs.length-ns.length))))=true:=fun v x hv=>by
  refine AV.keep_has fun i hi=>?_
  simp only[Bool.not_eq_true',Bool.and_eq_false_iff]
  by_cases hc:nm<=i/\i<nm+(outs.length-ns.length)
  ·obtain⟨e1,_⟩:=hfresh i hc.1 (by omega)
   rw[AV.has,RV.unbound (h.unbound e1) v x hv]at hi;cases hi
  ·by_cases c1:nm<=i
   ·right;have:¬i<nm+(outs.length-ns.length):=fun e=>hc ⟨c1,e⟩
    exact Bool.eq_false_iff.2 fun e=>this (by simpa only[Nat.blt_eq]using e)
   ·left;exact Bool.eq_false_iff.2 fun e=>c1 (Nat.le_of_ble_eq_true e)
 have hkeepL:∀(vs:List AV) (xs:List Value),RVs C vs xs->AV.refsInL (fun i => !(Nat.ble nm i&&Nat.blt i (nm+(outs.length-ns.length)))) vs=true:=fun vs=>by
  induction vs with
  |nil=>intro _ _;rfl
  |cons v vs ih=>intro xs hv;simp only[RVs]at hv;obtain⟨x,xs',rfl,h1,h2⟩:=hv;simp only[AV.refsInL,Bool.and_eq_true];exact⟨hkeep v x h1,ih xs' h2⟩
 have hTm:∀b,blksOf C ns ins b->C.T b/\Mem C.w b:=fun b ⟨j,hj,hb⟩=>by
  have:(s.sg.getD (ns.getD j 0) .fresh).blk (C.rho (ns.getD j 0))=some b:=by
   rw[(handed_sg hlen hh hlive hj).1,Res.mv_blk,<- hos0 j hj];exact hb
  exact⟨(Res.blk_lt (h.sg _) this).1,(Res.blk_lt (h.sg _) this).2.2⟩
 have hbook:∀(b:Nat) (o:Obj),C.T b->C.w.heap[b]?=some o->isMem o=false->w'.heap[b]?=some o:=fun b o hbT hb ho=>by
  rw[hsame b (Array.getElem?_eq_some_iff.1 hb).1 (.inr ⟨hbT,fun hc=>?_⟩)];·exact hb
  obtain⟨o2,h1,h2⟩:=(hTm b hc).2
  rw[hb]at h1;cases h1;rw[ho]at h2;cases h2
 refine⟨⟨h.size,fun d v hd=>?_,fun i=>?_,fun i j b hi hj=>?_,fun b hb=>?_,fun b hb=>hi1 b (h.imm0 b hb),fun b hb=>?_,hK,?_,fun l hl'=>?_,⟨fun i o hi ho=>?_,hl2.trans h.pin.2.1,hlh⟩⟩,hrho⟩
 ·have hv:=h.tm d v hd
  exact RV.later hl v _ (hkeep v _ hv) hv
 ·rcases hget i with⟨j,h1,h2,h3⟩|⟨h1,h2⟩
  ·show ResOk _ _ (rho2 C ns nm outs.length os' i)
   rw[h3,<- h2,hrho j h1]
   exact hup j h1 hrho
  ·show ResOk _ _ (rho2 C ns nm outs.length os' i)
   rw[h2,hold i h1]
   refine ResOk.later hl hT2 (h.sg i) ?_ fun b hb=>⟨?_,fun hi=>?_⟩
   ·have hs:=h.sg i
    cases hr:s.sg.getD i .fresh with
    |box ice cs=>rw[hr]at hs;obtain⟨_,vs,_,_,_,_,h3,_⟩:=hs;exact hkeepL cs vs h3
    |mpo ks us=>rw[hr]at hs;obtain⟨_,es,_,_,_,_,_,_,h3,_⟩:=hs;exact hkeepL us _ h3
    |itd c n mem=>rw[hr]at hs;obtain⟨_,_,_,_,_,_,h3⟩:=hs;exact hkeepL c _ h3
    |_=>rfl
   ·exact hsame b (Res.blk_lt (h.sg i) hb).2.1 (.inr ⟨(Res.blk_lt (h.sg i) hb).1,hnt i b h1 hb⟩)
   ·exact((hi2 b hi).1).resolve_right (hnT' i b h1 hb)
 ·rcases hget i with⟨i',h1,h2,h3⟩|⟨h1,h2⟩<;>rcases hget j with⟨j',k1,k2,k3⟩|⟨k1,k2⟩
  ·have e1:((setL s.sg (bigL (pick ns nm) 0 outs)).getD i .fresh).blk (rho2 C ns nm outs.length os' i)=some b:=hi
   have e2:((setL s.sg (bigL (pick ns nm) 0 outs)).getD j .fresh).blk (rho2 C ns nm outs.length os' j)=some b:=hj
   rw[h3,Res.mv_blk,<- h2,hrho i' h1]at e1
   rw[k3,Res.mv_blk,<- k2,hrho j' k1]at e2
   rw[<- h2,<- k2,hP.dis i' j' b e1 e2]
  ·have e1:((setL s.sg (bigL (pick ns nm) 0 outs)).getD i .fresh).blk (rho2 C ns nm outs.length os' i)=some b:=hi
   have e2:((setL s.sg (bigL (pick ns nm) 0 outs)).getD j .fresh).blk (rho2 C ns nm outs.length os' j)=some b:=hj
   rw[h3,Res.mv_blk,<- h2,hrho i' h1]at e1
   rw[k2,hold j k1]at e2
   exact absurd (Res.blk_lt (hP.sg i') e1).1 (hnT' j b k1 e2)
  ·have e1:((setL s.sg (bigL (pick ns nm) 0 outs)).getD i .fresh).blk (rho2 C ns nm outs.length os' i)=some b:=hi
   have e2:((setL s.sg (bigL (pick ns nm) 0 outs)).getD j .fresh).blk (rho2 C ns nm outs.length os' j)=some b:=hj
   rw[k3,Res.mv_blk,<- k2,hrho j' k1]at e2
   rw[h2,hold i h1]at e1
   exact absurd (Res.blk_lt (hP.sg j') e2).1 (hnT' i b h1 e1)
  ·have e1:((setL s.sg (bigL (pick ns nm) 0 outs)).getD i .fresh).blk (rho2 C ns nm outs.length os' i)=some b:=hi
   have e2:((setL s.sg (bigL (pick ns nm) 0 outs)).getD j .fresh).blk (rho2 C ns nm outs.length os' j)=some b:=hj
   rw[h2,hold i h1]at e1
   rw[k2,hold j k1]at e2
   exact h.dis i j b e1 e2
 ·obtain⟨q1,q2⟩:=hi2 b hb
  refine⟨?_,q2⟩
  rcases q1 with q1|q1
  ·exact((h.imm b q1).1).imp id (hT2 b)
  ·exact .inr (hT2' b q1)
 ·exact hT2s b hb
 ·obtain⟨ds,h1,h2,h3⟩:=h.marks
  exact⟨ds,h1,h2,fun D hD=>⟨hT2 D (h3 D hD).1,hbook D _ (h3 D hD).1 (h3 D hD).2 rfl⟩⟩
 ·obtain⟨hT1,r,hr⟩:=h.round l hl'
  exact⟨hT2 l hT1,r,hbook l _ hT1 hr rfl⟩
 ·have h1:=h.pin.1 i o hi ho
  show rho2 C ns nm outs.length os' i=some o
  rw[rho2,if_neg];·exact h1
  rintro⟨c1,c2⟩
  obtain⟨e1,_⟩:=hfresh i c1 (by omega)
  rw[h.unbound e1]at h1;cases h1
theorem Rel.write(hX:SessOk X E)(h:Rel X C s a){ns:List Nat}{nm ct:Nat}{ins outs:List Res}{w':World}{imm imm' imm2 T':Nat->Prop}{os':Nat->Option Own}
  (hlen:ns.length=ins.length) (hnd:nodupN ns=true) (hh:handed s.sg (pick ns nm) 0 ins) (hlive:resLive ins=true) (hfr:freshN s.sg nm ct=true) (hle:ns.length<=outs.length) (hle2:outs.length<=ns.length+ct)
  (hP:Part imm' T' w' os' C.l.l outs) (hos:∀i o,osOf C ns i=some o->os' i=some o) (hwr:Wr imm (blksOf C ns ins) C.w w') (hT1:∀b,blksOf C ns ins b->T' b) (hT':∀b,T' b->blksOf C ns ins b\/(C.w.heap.size<=b/\b<w'.heap.size))
  (himm:∀b,C.imm b->imm b) (hi1:∀b,C.imm b->imm2 b) (hi2:∀b,imm2 b->(C.imm b\/T' b)/\Mem w' b)
  (hup:∀j,j<outs.length->(∀i,i<outs.length->rho2 C ns nm outs.length os' (pick ns nm i)=os' i)->ResOk ⟨imm2,newB C.w w' C.T,rho2 C ns nm outs.length os',w',C.l⟩ ((outs.getD j .fresh).mv (pick ns nm)) (os' j)) :
  Rel X ⟨imm2,newB C.w w' C.T,rho2 C ns nm outs.length os',w',C.l⟩ { s with sg:=setL s.sg (bigL (pick ns nm) 0 outs) } a/\∀i,i<outs.length->rho2 C ns nm outs.length os' (pick ns nm i)=os' i:=by
 obtain⟨bs,hbs⟩:=blks_list (C:=C) ns ins
 have hos0:∀j,j<ns.length->osOf C ns j=C.rho (ns.getD j 0):=fun j hj=>by simp[osOf,hj]
 have hTm:∀b,blksOf C ns ins b->C.T b/\Mem C.w b:=fun b ⟨j,hj,hb⟩=>by
  have:(s.sg.getD (ns.getD j 0) .fresh).blk (C.rho (ns.getD j 0))=some b:=by
   rw[(handed_sg hlen hh hlive hj).1,Res.mv_blk,<- hos0 j hj];exact hb
  exact⟨(Res.blk_lt (h.sg _) this).1,(Res.blk_lt (h.sg _) this).2.2⟩
 exact h.writeG (k':=s.gh.k) (st':=s.gh.st) hlen hnd hh hlive hfr hle hle2 hP hos (fun b hb hc=>hwr.same b hb (hc.imp (himm b) (·.2))) hT1 hT' hi1 hi2 rfl (fun b hb=>hi1 b (h.pin.2.2 b hb)) (fun b hb=>.inl hb)
  (fun b hb=>(hT' b hb).imp (fun q=>(hTm b q).1) id) (fun b hb=>hb.elim (fun q=>Nat.lt_of_lt_of_le (h.T b q) hwr.size) (·.2)) (keep_wr hX h.keep hwr hTm (fun b hb=>himm b (h.imm0 b hb)) (fun b hb=>himm b (h.pin.2.2 b hb)) bs hbs) hup
theorem Rel.kill1(h:Rel X C s a){i:Nat}(hr:s.sg.getD i .fresh ≠ .fresh) :
  Rel X C { s with sg:=s.sg.set i .dead } a/\∀j,((s.sg.set i .dead).getD j .fresh).blk (C.rho j)=if j=i then none else(s.sg.getD j .fresh).blk (C.rho j):=by
 have hi:i<s.sg.length:=getD_lt hr
 have hupd:upd C.rho i (C.rho i)=C.rho:=by funext j;unfold upd;split<;>simp_all
 have:=h.update i hi .dead (C.rho i) C.w C.T s.tm (fun _=>true) (fun b hb=>hb) h.T h.keep (fun o ho=>ho) (fun k o hk _=>hk) (fun _ _ _=>rfl) (fun _ _ _=>rfl) (by
  have hs:=h.sg i
  intro x hx
  rw[hx]at hs
  cases hq:s.sg.getD i .fresh with
  |fresh=>exact absurd hq hr
  |dead=>rw[hq]at hs;exact hs x rfl
  |box ice cs=>rw[hq]at hs;obtain⟨b,vs,el,ho,_⟩:=hs;cases ho;rfl
  |row ice el sz es=>
   rw[hq]at hs
   obtain⟨b,v,xs,ho,hw,_⟩:=hs
   cases ho
   rcases hw.2 with⟨e,_⟩|⟨g,cap,cur,e,_⟩<;>(show v.oneCell'=true;rw[e];rfl)
  |mp ice ks us=>rw[hq]at hs;obtain⟨b,es,nB,ho,_⟩:=hs;cases ho;rfl
  |mpo ks us=>rw[hq]at hs;obtain⟨b,es,nB,ho,_⟩:=hs;cases ho;rfl
  |itr ks us seen last=>rw[hq]at hs;obtain⟨b,m,nI,mI,ho,_⟩:=hs;cases ho;rfl
  |sit f pos=>rw[hq]at hs;obtain⟨b,ho,_⟩:=hs;cases ho;rfl
  |mpb ks us bn n=>rw[hq]at hs;obtain⟨b,es,ho,_⟩:=hs;cases ho;rfl
  |itd c n mem=>rw[hq]at hs;obtain⟨b,m,ho,_⟩:=hs;cases ho;rfl) (fun k hk=>by simp[Res.blk]at hk) (fun d v hd=>⟨hd,AV.refsIn_all (fun _=>rfl) v⟩) (fun j _=>AV.refsInL_all (fun _=>rfl) _)
 rw[hupd]at this
 refine⟨this,fun j=>?_⟩
 rw[getD_set _ _ _ _ _ hi]
 split<;>rfl
theorem Rel.killN{X:Sess}{C:Ctx}{a:Act}:∀(ns:List Nat) {s:St},Rel X C s a->(∀i∈ns,s.sg.getD i .fresh ≠ .fresh) ->
  Rel X C { s with sg:=setL s.sg (deadL ns) } a/\∀j,((setL s.sg (deadL ns)).getD j .fresh).blk (C.rho j)=if j∈ns then none else(s.sg.getD j .fresh).blk (C.rho j)
 | [],s,h,_=>⟨h,fun j=>by simp[deadL,setL]⟩
 |i::ns,s,h,hr=>by
  obtain⟨k1,k2⟩:=h.kill1 (hr i (by simp))
  have hi:i<s.sg.length:=getD_lt (hr i (by simp))
  obtain⟨m1,m2⟩:=Rel.killN ns k1 (fun j hj=>by
   simp only;rw[getD_set _ _ _ _ _ hi]
   split
   ·simp
   ·exact hr j (by simp[hj]))
  refine⟨m1,fun j=>?_⟩
  have:=m2 j
  simp only[deadL,setL]
  rw[this,k2 j]
  by_cases hj:j=i
  ·subst hj;simp
  ·simp[hj]
theorem lendA_ok{X:Sess}{C:Ctx}{s:St}{a:Act}(h:Rel X C s a){C0:Ctx}{π : Nat->Nat}{k:Nat}(hll:C0.l.l=C.l.l)(hp:Pers C.imm C0.imm C.w C0.w)(hi:C0.imm=immAll C s)(hw:C0.w=C.w)(hr:∀i,i<k->C0.rho i=C.rho (π i)):∀(as bs:List AV) (xs:List Value),lendA s.sg π k as bs->RVs C as xs->RVs C0 bs xs
 | [],[],xs,_,hx=>by simpa only[RVs]using hx
 |a::as,b::bs,xs,hl,hx=>by
  simp only[lendA]at hl
  simp only[RVs]at hx⊢
  obtain⟨x,xs',rfl,h1,h2⟩:=hx
  refine⟨x,xs',rfl,?_,lendA_ok h hll hp hi hw hr as bs xs' hl.2 h2⟩
  rcases hl.1 with⟨e,hb⟩|hf
  ·rw[<- e]at h1;exact RV.down hll hp hr b x hb h1
  ·have:=frz_ok h 8 a x b hf h1
   rw[<- hi,<- hw]at this
   exact RV0.rv b x this
 | [],b::bs,xs,hl,_=>hl.elim
 |a::as,[],xs,hl,_=>hl.elim
variable {o:Oper} {next:Act->World->Prop} {Q:Exit->Act->World->Prop} {k:St->Prop}
theorem callwi_at(hX:SessOk X E)(hk:Nx X k next)(h:Rel X C s a)(hd:∀i,o.dst=some i->i<X.N){f:FuncId}{nm ct:Nat}{vs:List AV}{xs:List Value}{lend:Bool}(hop:∀c,o.op ≠ .defer c)(hrun:(execOp a.eval o).run X.P C.w = .ok (.enter f xs.toArray) C.w)(e1:RVs C vs xs)(hfr:freshN s.sg nm ct=true)
  (hE:CallWi X.P s.sg nm ct f vs (fun z r=>k (app o.dst s (.big z r))) lend):o.wpIn X.F X.n X.P a C.w next Q:=by
 obtain⟨ns,args',ins,R,h1,hlen,hnd,hh,hib,hlive,ha,hb,h2⟩:=hE.out
 have hos0:∀j,j<ns.length->osOf C ns j=C.rho (ns.getD j 0):=fun j hj=>by simp[osOf,hj]
 have hosp:∀j,j<ns.length->osOf C ns j=C.rho (pick ns nm j):=fun j hj=>by rw[pick_lt hj];exact hos0 j hj
 have hTm:∀b,blksOf C ns ins b->C.T b:=fun b ⟨j,hj,hb⟩=>by
  have:(s.sg.getD (ns.getD j 0) .fresh).blk (C.rho (ns.getD j 0))=some b:=by
   rw[(handed_sg hlen hh hlive hj).1,Res.mv_blk,<- hos0 j hj];exact hb
  exact(Res.blk_lt (h.sg _) this).1
 cases lend with
 |false=>
  obtain⟨ha1,ha2⟩:=ha rfl
  have hPt:=h.osOf_part hlen hnd hh hib hlive (imm:=C.imm) (fun b hb=>hb) (fun b _ hb=>hb)
  refine up_call hX hop hrun (h1 C.imm (blksOf C ns ins) C.w (osOf C ns) _ C.l.l (fun b hb=>(h.imm b hb).2) (fun b hb=>h.T b (hTm b hb)) (RVs.down (C:=C) (C0:=⟨C.imm,blksOf C ns ins,osOf C ns,C.w,lnl C.l.l⟩) (k:=ns.length) (π :=pick ns nm) rfl (fun b hb=>⟨hb,rfl⟩) (fun j hj=>hosp j hj) args' _ ha2 (by rw[ha1];exact e1)) hPt) fun e w' hbk=>?_
  obtain⟨v,r,outs,imm',T',os',rfl,hr,hv',hP',hos,hwr,hT1,hT2,hi1,hi2⟩:=hbk
  refine⟨v,rfl,?_⟩
  obtain⟨c1,c2,c3,c4,_,c5⟩:=h2 r outs hr
  obtain⟨hrel,hrho⟩:=h.write hX (imm2:=imm') hlen hnd hh hlive hfr c1 c2 hP' hos hwr hT1 hT2 (fun b hb=>hb) hi1 hi2 (fun j hj hrho=>by
   refine ResOk.up (k:=outs.length) (π :=pick ns nm) (C:=⟨imm',newB C.w w' C.T,rho2 C ns nm outs.length os',w',C.l⟩) (C0:=⟨imm',T',os',w',lnl C.l.l⟩) rfl rfl (fun b hb=>hb) (fun i hi=>hrho i hi) (resBelow_get c3 j hj) (fun b hb=>⟨?_,fun hb=>hb⟩) (hP'.sg j)
   rcases hT2 b (Res.blk_lt (hP'.sg j) hb).1 with q|q
   ·exact .inl (hTm b q)
   ·exact .inr q)
  have hval:=RV.up (C:=⟨imm',newB C.w w' C.T,rho2 C ns nm outs.length os',w',C.l⟩) (C0:=⟨imm',T',os',w',lnl C.l.l⟩) (k:=outs.length) (π :=pick ns nm) rfl (fun b hb=>⟨hb,rfl⟩) (fun i hi=>hrho i hi) r v c4 hv'
  exact hk _ _ _ (hrel.put hval o.dst hd) c5
 |true=>
  have hb1:=hb rfl
  obtain⟨hkl,hbl⟩:=Rel.killN ns (s:=s) h (fun i hi=>by
   obtain⟨j,hj,e⟩:=List.getElem_of_mem hi
   have e':ns.getD j 0=i:=by simp[List.getD_eq_getElem?_getD,hj,e]
   rw[<- e',(handed_sg hlen hh hlive hj).1]
   have:=(resLive_get hlive j (by omega)).1
   generalize ins.getD j .fresh=r at this
   cases r<;>simp[Res.mv]at this⊢)
  have hnotT:∀b,blksOf C ns ins b->immAll C { s with sg:=setL s.sg (deadL ns) } b->C.imm b:=fun b ⟨j,hj,hb⟩ hi=>by
   rcases hi with hi|⟨i,hi⟩
   ·exact hi
   ·rw[hbl]at hi
    split at hi
    ·cases hi
    ·rename_i hni
     have e:(s.sg.getD (ns.getD j 0) .fresh).blk (C.rho (ns.getD j 0))=some b:=by
      rw[(handed_sg hlen hh hlive hj).1,Res.mv_blk,<- hos0 j hj];exact hb
     have:=h.dis _ _ b hi e
     exact absurd (by rw[this,List.getD_eq_getElem?_getD,List.getElem?_eq_getElem hj];exact List.getElem_mem hj) hni
  have hPt:=h.osOf_part hlen hnd hh hib hlive (imm:=immAll C { s with sg:=setL s.sg (deadL ns) }) (fun b hb=>.inl hb) hnotT
  refine up_call hX hop hrun (h1 (immAll C { s with sg:=setL s.sg (deadL ns) }) (blksOf C ns ins) C.w (osOf C ns) _ C.l.l (immAll_cells hkl) (fun b hb=>h.T b (hTm b hb))
   (lendA_ok hkl (C0:=⟨immAll C { s with sg:=setL s.sg (deadL ns) },blksOf C ns ins,osOf C ns,C.w,lnl C.l.l⟩) (k:=ns.length) (π :=pick ns nm) rfl (fun b hb=>⟨.inl hb,rfl⟩) rfl rfl (fun j hj=>hosp j hj) _ args' _ hb1 e1) hPt) fun e w' hbk=>?_
  obtain⟨v,r,outs,imm',T',os',rfl,hr,hv',hP',hos,hwr,hT1,hT2,hi1,hi2⟩:=hbk
  refine⟨v,rfl,?_⟩
  obtain⟨c1,c2,c3,c4,c6,c5⟩:=h2 r outs hr
  obtain⟨c7,c8⟩:=c6 rfl
  have hsm:∀b,C.imm b->Mem w' b:=fun b hb=>(h.imm b hb).2.same (hwr.same b (h.imm b hb).2.lt (.inl (.inl hb)))
  obtain⟨hrel,hrho⟩:=h.write hX (imm2:=C.imm) hlen hnd hh hlive hfr c1 c2 hP' hos hwr hT1 hT2 (fun b hb=>.inl hb) (fun b hb=>hb) (fun b hb=>⟨.inl hb,hsm b hb⟩) (fun j hj hrho=>by
   refine ResOk.upf (k:=outs.length) (π :=pick ns nm) (C:=⟨C.imm,newB C.w w' C.T,rho2 C ns nm outs.length os',w',C.l⟩) (C0:=⟨imm',T',os',w',lnl C.l.l⟩) rfl rfl (fun i hi=>hrho i hi) (resFlat_get c7 j hj) (fun b hb=>⟨?_,fun hb=>hi1 b (.inl hb)⟩) (hP'.sg j)
   rcases hT2 b (Res.blk_lt (hP'.sg j) hb).1 with q|q
   ·exact .inl (hTm b q)
   ·exact .inr q)
  have hval:=RV.upf (C:=⟨C.imm,newB C.w w' C.T,rho2 C ns nm outs.length os',w',C.l⟩) (C0:=⟨imm',T',os',w',lnl C.l.l⟩) (k:=outs.length) (π :=pick ns nm) rfl (fun i hi=>hrho i hi) r v c8 hv'
  exact hk _ _ _ (hrel.put hval o.dst hd) c5
theorem wk1_ok(h:Rel X C s a){v:AV}{x:Value}(hx:RV C v x):RV C (v.wk1 s.sg) x:=by
 unfold AV.wk1
 split
 ·rename_i i
  split
  ·rename_i ice ks us hr
   simp only[RV]at hx⊢
   obtain⟨o,ho,rfl⟩:=hx
   have:=h.sg i
   rw[hr]at this
   obtain⟨b,es,nB,e,_⟩:=this
   rw[ho]at e;cases e;rfl
  ·exact hx
 ·exact hx
theorem wkM_ok(h:Rel X C s a):∀ {vs:List AV} {xs:List Value},RVs C vs xs->RVs C (wkM s.sg vs) xs
 | [],xs,hx=>hx
 |v::vs,xs,hx=>by
  simp only[RVs,wkM]at hx⊢
  obtain⟨y,ys,rfl,h1,h2⟩:=hx
  exact⟨y,ys,rfl,wk1_ok h h1,wkM_ok h h2⟩
theorem wkL_ok(h:Rel X C s a):∀ {vs:List AV} {xs:List Value},RVs C vs xs->RVs C (wkL s.sg vs) xs
 | [],xs,hx=>hx
 |v::vs,xs,hx=>by
  simp only[RVs,wkL]at hx⊢
  obtain⟨y,ys,rfl,h1,h2⟩:=hx
  refine⟨y,ys,rfl,?_,wkL_ok h h2⟩
  unfold AV.wk
  split
  ·simp only[RV]at h1⊢
   obtain⟨us,e,h3⟩:=h1
   exact⟨us,e,wkM_ok h h3⟩
  ·exact h1
theorem callw_ok(hX:SessOk X E)(hk:Nx X k next)(h:Rel X C s a)(hd:∀i,o.dst=some i->i<X.N){c:Call}{f:FuncId}{nm ct:Nat}{ps:List Opd}(hop:o.op = .call c)(hc:c.callee = .value (.func f))(hf:bodied X.P f=true)(hp:opds c.args.toList=some ps)
  (hE:evO E o.dst (.callw nm ct f ps) s k):o.wpIn X.F X.n X.P a C.w next Q:=by
 simp only[evO,evX]at hE
 split at hE
 ·rename_i vs hv
  split at hE
  ·rename_i hfr
   rcases hE with hE|⟨args',R,h1,h2,h3⟩|⟨args',R,h2,h3,h4⟩|⟨lend,hE⟩|hE
   ·refine callz_ok hX hk h hd hop hc hf hp (nm:=nm) (ct:=ct) (ne:=[]) ?_
    simp only[evO,evX,hv,neOkL]
    rw[if_pos ⟨trivial,hfr⟩];exact hE
   ·refine call_ok hX hk h hd hop hc hf hp ?_
    simp only[evO,evX,hv]
    refine .inr ⟨args',R,h1,h2,fun r hr=>⟨(h3 r hr).1,?_⟩⟩
    have:=(h3 r hr).2
    have e:app o.dst s (.big [] r)=app o.dst s (.val r):=by cases o.dst<;>rfl
    show k (app o.dst s (.val r))
    rw[<- e];exact this
   ·have e1:=evl_ok h hp hv
    have hargs:c.args.map a.eval=(c.args.toList.map a.eval).toArray:=by apply Array.ext';simp
    have hrun:(execOp a.eval o).run X.P C.w = .ok (.enter f (c.args.toList.map a.eval).toArray) C.w:=by
     simp[execOp,hop,resolve,hc,Act.eval,Deferred.ofValue,invoke,callFunc_run hf,Sem.run_pure]
     exact hargs
    rw[<- hX.P]at h3
    refine up_call hX (fun c=>by simp[hop]) hrun (h3 (immAll C s) C.w _ (immAll_cells h) (FrzZ.lend h h2 e1)) fun e w' hb=>?_
    obtain⟨v,r,rows,imm',os,rfl,hr,hv,hoo,hO,hB,hi1⟩:=hb
    refine⟨v,rfl,?_⟩
    obtain⟨c1,c2,c3,c4⟩:=h4 r rows hr
    obtain⟨hrel,_⟩:=h.call w' C.imm hB (hX.kgrow _ _ _ _ _ _ h.keep hB) (fun b hb=>hb) (fun b hb=>.inl hb)
    have hO':=OwnRows.other (imm2:=C.imm) c2 (fun b hb=>(h.imm b hb).2.lt) hO
    have hfr:∀j,j<rows.length->s.sg.getD (nm+j) .dead = .fresh:=fun j hj=>freshN_iff.1 hfr j (Nat.lt_of_lt_of_le hj (rowsB_ok c1).1)
    obtain⟨rho',hN,hrho,hpos⟩:=hrel.nameRows (os:=os) rows nm hfr (B:=C.w.heap.size) hO' (fun b hb1 hb2=>.inr ⟨hb1,hb2⟩) (fun p hp o ho b hb j hj=>by
     obtain⟨hlt,_⟩:=OwnRows.blk hO p hp o ho b hb
     have:=(Res.blk_lt (h.sg j) hj).2.1
     exact absurd this (by omega))
    have hv2:RV ⟨C.imm,fun _=>False,os,w',ln0⟩ r v:=RV.flatR (C:=⟨imm',fun _=>False,os,w',ln0⟩) (C':=⟨C.imm,fun _=>False,os,w',ln0⟩) rfl r v c3 hv
    have hval:RV ⟨C.imm,newB C.w w' C.T,rho',w',C.l⟩ (r.rnr (posN rows nm)) v:=RV.rnr (C0:=⟨C.imm,fun _=>False,os,w',ln0⟩) (C':=⟨C.imm,newB C.w w' C.T,rho',w',C.l⟩) (ns:=fstN rows) (π :=posN rows nm) hpos rfl rfl r v hoo hv2
    have:=hN.put hval o.dst hd
    exact hk _ _ _ this c4
   ·have e1:=evl_ok h hp hv
    have hargs:c.args.map a.eval=(c.args.toList.map a.eval).toArray:=by apply Array.ext';simp
    have hrun:(execOp a.eval o).run X.P C.w = .ok (.enter f (c.args.toList.map a.eval).toArray) C.w:=by
     simp[execOp,hop,resolve,hc,Act.eval,Deferred.ofValue,invoke,callFunc_run hf,Sem.run_pure]
     exact hargs
    rw[<- hX.P]at hE
    exact callwi_at hX hk h hd (fun c=>by simp[hop]) hrun e1 hfr hE
   ·have e1:=evl_ok h hp hv
    have hargs:c.args.map a.eval=(c.args.toList.map a.eval).toArray:=by apply Array.ext';simp
    have hrun:(execOp a.eval o).run X.P C.w = .ok (.enter f (c.args.toList.map a.eval).toArray) C.w:=by
     simp[execOp,hop,resolve,hc,Act.eval,Deferred.ofValue,invoke,callFunc_run hf,Sem.run_pure]
     exact hargs
    rw[<- hX.P]at hE
    exact callz_at hX hk h hd (fun c=>by simp[hop]) hrun (wkL_ok h e1) hfr hE
  ·exact hE.elim
 ·exact hE.elim
theorem YieldAt.wide{P:Program}{l n m:Nat}{xs:Array Value}{w:World}{R:Ending->World->Prop}(h:YieldAt Fence.wide n P l xs w R):YieldAt Fence.wide m P l xs w R:=by
 obtain⟨fn,tmps,as,bd,h1,h2,h3⟩:=h
 exact⟨fn,tmps,as,bd,h1,h2,fun c cs hr=>h3 c cs (room_wide _)⟩
theorem YieldAt.mono'{P:Program}{l n:Nat}{xs:Array Value}{w:World}{R R':Ending->World->Prop}(h:YieldAt Fence.wide n P l xs w R)(hm:∀e w',R e w'->R' e w'):YieldAt Fence.wide n P l xs w R':=by
 obtain⟨fn,tmps,as,bd,h1,h2⟩:=h
 exact⟨fn,tmps,as,bd,h1,h2.mono hm⟩
theorem yldl_at(hX:SessOk X E)(hk:Nx X k next)(h:Rel X C s a)(hd:∀i,o.dst=some i->i<X.N){c:Call}{g:Operand}{vs:List AV}(hop:o.op = .call c)(hc:c.callee = .value g)(hg:a.eval g = .func (.yield C.l.l) #[] #[])(he:RVs C vs (c.args.toList.map a.eval))
  (hE:YldL E s.sg s.gh vs fun g r=>k (app o.dst s (.ylz [] g r))):o.wpIn X.F X.n X.P a C.w next Q:=by
 obtain⟨h0,i,el,sz,es,k',rfl,hr,hf,hlx,h3,h4⟩:=hE.out
 obtain⟨hf',hi⟩:=getD_dead hr (by simp)
 have hs:=h.sg i
 rw[hf']at hs
 obtain⟨b0,v,xs,ho,hown,hrv,hlen,hblk⟩:=hs
 have hargs:c.args.map a.eval = #[v]:=by
  simp only[RVs,RV]at he
  obtain⟨x,xs1,hx,⟨ow,ho',e⟩,e1⟩:=he
  rw[ho]at ho';cases ho'
  rw[e,e1]at hx
  have:c.args.map a.eval=(c.args.toList.map a.eval).toArray:=by apply Array.ext';simp
  rw[this,hx]
 have hlb:∀b,v.ownBlock=some b->C.T b/\¬C.imm b/\Mem C.w b:=fun b hb=>by
  have hb':(s.sg.getD i .fresh).blk (C.rho i)=some b:=by rw[hf',ho];exact hb
  obtain⟨q1,q2,_,q4⟩:=hblk b hb
  subst q1
  exact⟨q2,q4 rfl,(Res.blk_lt (h.sg i) hb').2.2⟩
 have hk':=h.keep
 rw[h0]at hk'
 have hy:=hX.klend _ _ _ _ _ el sz es v xs hk' h.T hlx hf hown (RV0s.flatL hf hrv) hlen (fun b hb=>⟨(hlb b hb).1,fun hq=>(hlb b hb).2.1 (h.imm0 b hq),fun hq=>(hlb b hb).2.1 (h.pin.2.2 b hq)⟩)
 rw[<- h.pin.2.1]at hy
 obtain⟨fn,tmps,assign,body,hy1,hy2⟩:=hy
 refine⟨fun f _=>hX.fn f,?_⟩
 have hrun:(execOp a.eval o).run X.P C.w = .ok (.round C.l.l fn tmps assign body) C.w:=by
  simp[execOp,hop,resolve,hc,hg,Deferred.ofValue,invoke]
  rw[hargs];exact hy1
 rw[Oper.semAt_eq X.F.round a.eval o (fun c=>by simp[hop]),hrun]
 have hd':X.F.depth=none:=by rcases hX.wide with e|⟨l,e⟩<;>rw[e]<;>rfl
 refine⟨fun e=>absurd e (by rw[hd'];simp),?_⟩
 have hy3:∀R,RoundIn Fence.wide (X.n-1) X.P C.l.l fn tmps assign body C.w R->RoundIn X.F (X.n-1) X.P C.l.l fn tmps assign body C.w R:=fun R hq=>by
  rcases hX.wide with e|⟨l,e⟩<;>rw[e]<;>exact hq
 refine(hy3 _ hy2).mono fun e w' hr=>?_
 obtain⟨b,S',xs',rfl,hK,hS,hown',hrv'⟩:=hr
 have hne:∀b',C.imm b'->v.ownBlock≠some b':=fun b' hb' e=>(hlb b' e).2.1 hb'
 have hl:Later (fun _=>true) C ⟨C.imm,C.T,C.rho,w',⟨C.l.l,S'⟩⟩:=⟨fun b' hb'=>⟨hb',by
  obtain⟨q,hh⟩:=h.imm b' hb'
  exact hS.same b' hh.lt (hne b' hb') (.inl q)⟩,fun _ _=>rfl,rfl⟩
 have hT:∀b',C.T b'->v.ownBlock≠some b'->w'.heap[b']?=C.w.heap[b']?:=fun b' hb' hn=>hS.same b' (h.T b' hb') hn (.inl (.inr hb'))
 have hrel:Rel X ⟨C.imm,C.T,C.rho,w',⟨C.l.l,S'⟩⟩ { s with gh:=⟨s.gh.p,k',!b⟩ } a:=by
  refine⟨h.size,fun d v hdv=>RV.later hl v _ (AV.refsIn_all (fun _=>rfl) v) (h.tm d v hdv),fun j=>?_,h.dis,fun b' hb'=>?_,h.imm0,fun b' hb'=>Nat.lt_of_lt_of_le (h.T b' hb') hS.size,hK,?_,fun l hl'=>?_,⟨h.pin.1,h.pin.2.1,fun b' hb'=>?_⟩⟩
  ·by_cases hj:j=i
   ·subst hj
    show ResOk _ (s.sg.getD j .fresh) (C.rho j)
    rw[hf',ho]
    exact⟨b0,v,xs',rfl,hown',RV0s.flatL hf hrv',hlen,hblk⟩
   ·exact ResOk.later hl (fun _ hb'=>hb') (h.sg j) (AV.refsInL_all (fun _=>rfl) _) fun b' hb'=>⟨hT b' (Res.blk_lt (h.sg j) hb').1 fun e=>hj (h.dis j i b' hb' (by rw[hf',ho];exact e)),id⟩
  ·obtain⟨q1,q2⟩:=h.imm b' hb'
   exact⟨q1,q2.same (hl.pers b' hb').2⟩
  ·obtain⟨ds,h1,h2,h3⟩:=h.marks
   refine⟨ds,h1,h2,fun D hD=>⟨(h3 D hD).1,(hT D (h3 D hD).1 fun e=>?_).trans (h3 D hD).2⟩⟩
   obtain⟨o',q1,q2⟩:=(hlb D e).2.2
   rw[(h3 D hD).2]at q1;cases q1;cases q2
  ·obtain⟨hT1,r,hr⟩:=h.round l hl'
   refine⟨hT1,r,(hT l hT1 fun e=>?_).trans hr⟩
   obtain⟨o',q1,q2⟩:=(hlb l e).2.2
   rw[hr]at q1;cases q1;cases q2
  ·exact h.pin.2.2 b' (hS.hnew b' hb')
 cases b with
 |true=>exact hk _ _ _ (hrel.put (by simp only[RV]) o.dst hd) h3
 |false=>exact hk _ _ _ (hrel.put (by simp only[RV]) o.dst hd) h4
theorem keep_reachT(hX:SessOk X E){T1 T imm:Nat->Prop}{S:Wt}{k n:Nat}{st:Bool}{w w':World}(hK:X.Keep T S k st w)(hT:∀b,T b->b<w.heap.size)(hr:ReachT n T1 imm (fun b=>S.s b\/S.h b) w w')(h1:∀b,T1 b->T b/\Mem w b)
  (hn:∀b,T b->b<n) (hlo:X.lo<=n) (h0:∀b,X.imm0 b->imm b) (bs:List Nat) (hbs:∀b,T1 b->b∈bs):X.Keep T S k st w':=by
 have key:∀(bs:List Nat) (wc:World),wc={ w with heap:=wc.heap }->wc.heap.size=w.heap.size->(∀b,wc.heap[b]?=w.heap[b]?\/(T1 b/\wc.heap[b]?=w'.heap[b]?))->(∀b,T1 b->b∈bs\/wc.heap[b]?=w'.heap[b]?)->X.Keep T S k st wc->X.Keep T S k st w':=by
  intro bs
  induction bs with
  |nil=>
   intro wc e1 e2 e3 e4 hk
   refine hX.kreach _ _ _ _ _ _ hk (fun b hb=>by rw[e2];exact hT b hb) ⟨?_,?_,?_,by rw[e2];exact hr.size,fun b hb hc=>?_⟩
   ·rw[e1];exact hr.os
   ·rw[e1];exact hr.tape
   ·rw[e1];exact hr.output
   ·by_cases ht:T1 b
    ·exact((e4 b ht).resolve_left (by simp)).symm
    ·rw[(e3 b).resolve_right fun q=>ht q.1]
     rw[e2]at hb
     refine hr.same b hb ?_
     rcases hc with hc|hc|hc
     ·exact .inl ⟨by omega, .inl ht⟩
     ·exact .inl ⟨hn b hc, .inl ht⟩
     ·exact .inr hc
  |cons b bs ih=>
   intro wc e1 e2 e3 e4 hk
   by_cases hc:T1 b/\¬imm b/\¬S.h b
   ·obtain⟨c1,c2,c3⟩:=hc
    obtain⟨hTb,hm⟩:=h1 b c1
    have hlt:b<w.heap.size:=hm.lt
    have hlt':b<w'.heap.size:=Nat.lt_of_lt_of_le hlt hr.size
    have hltc:b<wc.heap.size:=by omega
    have hother:∀b',b'≠b->(wc.heap.setIfInBounds b (w'.heap[b]))[b']?=wc.heap[b']?:=fun b' hne=>by
     rw[Array.getElem?_setIfInBounds_ne (Ne.symm hne)]
    have hset:(wc.heap.setIfInBounds b (w'.heap[b]))[b]?=w'.heap[b]?:=by
     rw[Array.getElem?_setIfInBounds_self];simp[hltc,hlt']
    have hm':Mem w' b:=hr.mem b c1 hm
    have hmc:Mem wc b:=by
     rcases e3 b with q|⟨_,q⟩
     ·exact hm.same q
     ·exact hm'.same q
    refine ih { wc with heap:=wc.heap.setIfInBounds b (w'.heap[b]) } (by rw[e1]) (by simp[e2]) (fun b'=>?_) (fun b' hb'=>?_) (hX.kset _ _ _ _ wc _ b hk hTb (fun hq=>c2 (h0 b hq)) c3 ⟨rfl,rfl,rfl,by simp,fun k hk=>hother k hk,hmc,hm'.same hset⟩)
    ·simp only
     by_cases e:b'=b
     ·subst e;exact .inr ⟨c1,hset⟩
     ·rw[hother b' e];exact e3 b'
    ·simp only
     by_cases e:b'=b
     ·subst e;exact .inr hset
     ·rw[hother b' e]
      exact(e4 b' hb').imp (fun q=>(List.mem_cons.1 q).resolve_left e) id
   ·refine ih wc e1 e2 e3 (fun b' hb'=>?_) hk
    rcases e4 b' hb' with q|q
    ·rcases List.mem_cons.1 q with q|q
     ·subst q
      have hlt:b'<w.heap.size:=(h1 b' hb').2.lt
      have e5:w'.heap[b']?=w.heap[b']?:=hr.same b' hlt (by
       by_cases c2:imm b'
       ·exact .inl ⟨hn b' (h1 b' hb').1, .inr c2⟩
       ·by_cases c3:S.h b'
        ·exact .inr (.inr c3)
        ·exact absurd ⟨hb',c2,c3⟩ hc)
      right
      rcases e3 b' with q|⟨_,q⟩
      ·exact q.trans e5.symm
      ·exact q
     ·exact .inl q
    ·exact .inr q
 exact key bs w rfl rfl (fun b=>.inl rfl) (fun b hb=>.inl (hbs b hb)) hK
theorem cally_at(hX:SessOk X E)(hk:Nx X k next)(h:Rel X C s a)(hd:∀i,o.dst=some i->i<X.N){f:FuncId}{vs:List AV}{xs:List Value}(hop:∀c,o.op ≠ .defer c)(hrun:(execOp a.eval o).run X.P C.w = .ok (.enter f xs.toArray) C.w)(e1:RVs C vs xs)(h0:s.gh.st=false)
  {ns:List Nat} {args':List AV} {ins:List Res} {R:AV->List Res->Nat->Bool->Prop} (h1:FnY X.P E.nx E.lx f args' ins s.gh.k R) (hlen:ns.length=ins.length) (hnd:nodupN ns=true) (hh:handed s.sg (pick ns 0) 0 ins) (hib:resBelow ns.length ins=true) (hlive:resLive ins=true)
  (ha1:AV.mvL (pick ns 0) args'=vs) (ha2:AV.blwL ns.length args'=true)
  (h2:∀r outs k' st',R r outs k' st'->outs.length=ns.length/\resBelow outs.length outs=true/\r.blw outs.length=true/\k (app o.dst s (.ylz (bigL (pick ns 0) 0 outs) ⟨s.gh.p,k',st'⟩ (r.mv (pick ns 0))))):o.wpIn X.F X.n X.P a C.w next Q:=by
 have hos0:∀j,j<ns.length->osOf C ns j=C.rho (ns.getD j 0):=fun j hj=>by simp[osOf,hj]
 have hosp:∀j,j<ns.length->osOf C ns j=C.rho (pick ns 0 j):=fun j hj=>by rw[pick_lt hj];exact hos0 j hj
 have hTm:∀b,blksOf C ns ins b->C.T b/\Mem C.w b:=fun b ⟨j,hj,hb⟩=>by
  have:(s.sg.getD (ns.getD j 0) .fresh).blk (C.rho (ns.getD j 0))=some b:=by
   rw[(handed_sg hlen hh hlive hj).1,Res.mv_blk,<- hos0 j hj];exact hb
  exact⟨(Res.blk_lt (h.sg _) this).1,(Res.blk_lt (h.sg _) this).2.2⟩
 obtain⟨bs,hbs⟩:=blks_list (C:=C) ns ins
 have hPt:=h.osOf_part hlen hnd hh hib hlive (imm:=C.imm) (fun b hb=>hb) (fun b _ hb=>hb)
 have hlo:X.lo<=C.w.heap.size:=hX.klo _ _ _ _ _ h.keep
 have hkeep:=h.keep
 rw[h0]at hkeep
 have himm:∀b,C.imm b->X.imm0 b\/C.T b:=fun b hb=>(h.imm b hb).1
 have himmM:∀b,C.imm b->b<C.w.heap.size:=fun b hb=>(h.imm b hb).2.lt
 let J:Nat->Bool->Wt->World->Prop:=fun k st S w1=>X.Keep C.T S k st w1/\(∀b,blksOf C ns ins b->Mem w1 b)/\C.w.heap.size<=w1.heap.size
 have hdrop:∀Qn:Nat->Prop,(∀b,Qn b->C.w.heap.size<=b)->(fun b=>(C.T b\/Qn b)/\¬Qn b)=C.T:=fun Qn hq=>by
  funext b
  refine propext ⟨fun hb=>hb.1.resolve_right hb.2,fun hb=>⟨.inl hb,fun q=>?_⟩⟩
  have:=hq b q;have:=h.T b hb;omega
 have hJ:JOk X.P E.nx E.lx C.imm (blksOf C ns ins) C.w.heap.size C.l.l J:=by
  refine⟨fun k st S w1 hj b hb=>?_,fun k st S w1 w2 hj hr=>?_,fun k k' S w1 y xs Q hj hSQ hQ hn hv=>?_,fun k k' S w1 el sz es v xs hj hn hfl hown hv hlen hlb=>?_⟩
  ·obtain⟨q1,q2⟩:=hX.kS _ _ _ _ _ hj.1
   exact hb.elim (fun q=>(q1 b q).1) (q2 b)
  ·refine⟨keep_reachT hX hj.1 (fun b hb=>Nat.lt_of_lt_of_le (h.T b hb) hj.2.2) hr (fun b hb=>⟨(hTm b hb).1,hj.2.1 b hb⟩) h.T hlo (fun b hb=>h.imm0 b hb) bs hbs,fun b hb=>hr.mem b hb (hj.2.1 b hb),Nat.le_trans hj.2.2 hr.size⟩
  ·have hQn:∀b,Q b/\C.w.heap.size<=b->¬S.s b:=fun b hb=>by
    rcases(hQ b hb.1).1 with q|q|q
    ·have:=himmM b q;omega
    ·have:=(hTm b q).2.lt;omega
    ·exact q.2
   have hK:=hX.kadd _ _ _ _ _ (fun b=>Q b/\C.w.heap.size<=b) hj.1 fun b hb=>⟨Nat.le_trans hlo hb.2,(hQ b hb.1).2.lt,hQn b hb⟩
   have hy:=hX.kyield _ _ _ _ _ _ _ Q hK (fun b hb=>hb.elim (fun q=>Nat.lt_of_lt_of_le (h.T b q) hj.2.2) fun q=>(hQ b q.1).2.lt) hSQ (fun b hb=>⟨by
    rcases(hQ b hb).1 with q|q|q
    ·exact(himm b q).imp id .inl
    ·exact .inr (.inl (hTm b q).1)
    ·exact .inr (.inr ⟨hb,q.1⟩),(hQ b hb).2⟩) hn hv
   rw[<- h.pin.2.1]at hy
   refine YieldAt.mono' (YieldAt.wide (m:=4) hy) fun e w2 hr=>?_
   obtain⟨b,S',e1,e2,e3⟩:=hr
   have hK2:=hX.kdrop _ _ _ _ _ (fun b=>Q b/\C.w.heap.size<=b) e2 fun b hb=>Nat.le_trans hlo hb.2
   rw[hdrop _ fun b hb=>hb.2]at hK2
   exact⟨b,S',e1,⟨hK2,fun b' hb'=>(hj.2.1 b' hb').same (e3.same b' (hj.2.1 b' hb').lt (.inl (.inr (.inl (hTm b' hb').1)))),Nat.le_trans hj.2.2 e3.size⟩,⟨e3.os,e3.tape,e3.output,e3.size,fun b' hb' hc=>e3.same b' hb' (hc.imp (fun q=>(himm b' q).imp id .inl) id),e3.sub,e3.new,e3.hsub,e3.hnew⟩⟩
  ·have hlt:∀b,v.ownBlock=some b->b<w1.heap.size:=fun b hb=>(hown.lt b hb).2
   have hK:=hX.kadd _ _ _ _ _ (fun b=>v.ownBlock=some b/\C.w.heap.size<=b) hj.1 fun b hb=>⟨Nat.le_trans hlo hb.2,hlt b hb.1,(hlb b hb.1).2.2.1⟩
   have hy:=hX.klend _ _ _ _ _ el sz es v xs hK (fun b hb=>hb.elim (fun q=>Nat.lt_of_lt_of_le (h.T b q) hj.2.2) fun q=>hlt b q.1) hn hfl hown hv hlen (fun b hb=>⟨(hlb b hb).1.elim (fun q=>.inl (hTm b q).1) fun q=>.inr ⟨hb,q⟩,fun q=>(hlb b hb).2.1 (h.imm0 b q),(hlb b hb).2.2.2⟩)
   rw[<- h.pin.2.1]at hy
   refine YieldAt.mono' (YieldAt.wide (m:=4) hy) fun e w2 hr=>?_
   obtain⟨b,S',xs',e1,e2,e3,e4,e5⟩:=hr
   have hK2:=hX.kdrop _ _ _ _ _ (fun b=>v.ownBlock=some b/\C.w.heap.size<=b) e2 fun b hb=>Nat.le_trans hlo hb.2
   rw[hdrop _ fun b hb=>hb.2]at hK2
   refine⟨b,S',xs',e1,⟨hK2,fun b' hb'=>?_,Nat.le_trans hj.2.2 e3.size⟩,⟨e3.os,e3.tape,e3.output,e3.size,fun b' hb' hne hc=>e3.same b' hb' hne (hc.imp (fun q=>(himm b' q).imp id .inl) id),e3.sub,e3.new,e3.hsub,e3.hnew⟩,e4,e5⟩
   by_cases hv':v.ownBlock=some b'
   ·rcases e4.2 with⟨e,_⟩|⟨g,cap,cur,e,_,hg,_⟩
    ·rw[e]at hv';cases hv'
    ·rw[e]at hv';simp[Value.ownBlock]at hv';subst hv';exact .of_cells hg
   ·exact(hj.2.1 b' hb').same (e3.same b' (hj.2.1 b' hb').lt hv' (.inl (.inr (.inl (hTm b' hb').1))))
 refine up_call hX hop hrun (h1 C.imm (blksOf C ns ins) C.w (osOf C ns) xs C.l.l J C.l.S (fun b hb=>(h.imm b hb).2) (fun b hb=>(hTm b hb).2)
  (RVs.down (C:=C) (C0:=⟨C.imm,blksOf C ns ins,osOf C ns,C.w,lnl C.l.l⟩) (k:=ns.length) (π :=pick ns 0) rfl (fun b hb=>⟨hb,rfl⟩) (fun j hj=>hosp j hj) args' xs ha2 (by rw[ha1];exact e1)) hPt h.pin.2.2 (fun b hb ht=>((hX.kS _ _ _ _ _ h.keep).1 b hb).2 (hTm b ht).1) hJ ⟨hkeep,fun b hb=>(hTm b hb).2,Nat.le_refl _⟩) fun e w' hbk=>?_
 obtain⟨v,r,outs,imm',T',os',k',st',S',rfl,hr,hv',hP',hos,hj',hwr,hT1,hT2,hi1,hi2,hSh⟩:=hbk
 refine⟨v,rfl,?_⟩
 obtain⟨c1,c3,c4,c5⟩:=h2 r outs k' st' hr
 have hK2:=hX.kadd _ _ _ _ _ (fun b=>T' b/\C.w.heap.size<=b) hj'.1 fun b hb=>by
  rcases hT2 b hb.1 with q|q
  ·have:=(hTm b q).2.lt;omega
  ·exact⟨Nat.le_trans hlo hb.2,q.2⟩
 have hT2':∀b,T' b->C.T b\/(T' b/\C.w.heap.size<=b):=fun b hb=>(hT2 b hb).imp (fun q=>(hTm b q).1) fun q=>⟨hb,q.1⟩
 obtain⟨hrel,hrho⟩:=h.writeG (nm:=0) (ct:=0) (imm2:=imm') (l2:=⟨C.l.l,S'⟩) (T2:=fun b=>C.T b\/(T' b/\C.w.heap.size<=b)) (k':=k') (st':=st') hlen hnd hh hlive rfl (by omega) (by omega) hP' hos
  (fun b hb hc=>hwr.same b hb (hc.imp id fun q=>⟨q.2,fun hs=>((hX.kS _ _ _ _ _ h.keep).1 b hs).2 q.1⟩)) hT1 (fun b hb=>(hT2 b hb).imp id fun q=>⟨q.1,q.2.1⟩) hi1 hi2 rfl hSh (fun b hb=>.inl hb) hT2'
  (fun b hb=>hb.elim (fun q=>Nat.lt_of_lt_of_le (h.T b q) hwr.size) fun q=>by
   rcases hT2 b q.1 with q'|q'
   ·have:=(hTm b q').2.lt;have:=hwr.size;omega
   ·exact q'.2.1) hK2 (fun j hj hrho=>ResOk.up (k:=outs.length) (π :=pick ns 0) (C:=⟨imm',fun b=>C.T b\/(T' b/\C.w.heap.size<=b),rho2 C ns 0 outs.length os',w',⟨C.l.l,S'⟩⟩) (C0:=⟨imm',T',os',w',lnl C.l.l⟩) rfl rfl (fun b hb=>hb) (fun i hi=>hrho i hi) (resBelow_get c3 j hj) (fun b hb=>⟨hT2' b (Res.blk_lt (hP'.sg j) hb).1,fun hb=>hb⟩) (hP'.sg j))
 have hval:=RV.up (C:=⟨imm',fun b=>C.T b\/(T' b/\C.w.heap.size<=b),rho2 C ns 0 outs.length os',w',⟨C.l.l,S'⟩⟩) (C0:=⟨imm',T',os',w',lnl C.l.l⟩) (k:=outs.length) (π :=pick ns 0) rfl (fun b hb=>⟨hb,rfl⟩) (fun i hi=>hrho i hi) r v c4 hv'
 exact hk _ _ _ (hrel.put hval o.dst hd) c5
theorem callx_ok(hX:SessOk X E)(hk:Nx X k next)(h:Rel X C s a)(hd:∀i,o.dst=some i->i<X.N){c:Call}{g:Operand}{pg:Opd}{ps:List Opd}(hop:o.op = .call c)(hc:c.callee = .value g)(hg:opd g=some pg)(hp:opds c.args.toList=some ps)
  (hE:evO E o.dst (.callx pg ps) s k):o.wpIn X.F X.n X.P a C.w next Q:=by
 simp only[evO,evX]at hE
 split at hE
 ·rename_i gv vs hgv hv
  have e1:=evl_ok h hp hv
  have e2:=ev_ok h hg hgv
  split at hE
  ·rename_i hyl
   have hyl':=hyl
   cases gv<;>simp only[isYld]at hyl<;>try cases hyl
   simp only[RV]at e2
   rcases hE with hE|hE
   rotate_left
   ·exact yldl_at hX hk h hd hop hc e2 e1 hE
   obtain⟨h0,v,z,k',h1,hz,h3,h4⟩:=hE
   rcases hz with⟨rfl,rfl,hf⟩|⟨hz,hf⟩
   ·exact yld_at hX hk h hd hop hc e2 (RV0s.mono (imm:=fun _=>False) (fun b hb=>hb.elim) _ _ (RVs.flat0 hf e1)) h0 h1 h3 h4
   ·have hI:=h.ice (reachL_iced vs z hz)
    have hv0:=FrzZ.ok h (.inl hf) hz e1
    exact yld_at (C:=⟨immZ C s z,C.T,C.rho,C.w,C.l⟩) (s:={ s with sg:=setL s.sg z }) hX hk hI hd hop hc e2 hv0 h0 h1 h3 h4
  ·rename_i hyl
   rcases hE with(hE|⟨f,caps,lend,rfl,hb,hE⟩)|hE
   ·refine callv_ok hX hk h hd hop hc hg hp ?_
    simp only[evO,evX,hgv,hv]
    have e:∀r,app o.dst s (.big [] r)=app o.dst s (.val r):=fun r=>by cases o.dst<;>rfl
    rw[hyl]
    rcases hE with⟨g',args',R,q0,q1,q2,q3,q4,q5⟩|⟨g',args',R,q2,q3,q4,q5⟩
    ·exact .inl ⟨g',args',R,q0,q1,q2,q3,q4,fun r hr=>by have:=q5 r hr;show k (app o.dst s (.val r));rw[<- e];exact this⟩
    ·exact .inr ⟨g',args',R,q2,q3,q4,fun r hr=>⟨(q5 r hr).1,by have:=(q5 r hr).2;show k (app o.dst s (.val r));rw[<- e];exact this⟩⟩
   ·simp only[RV]at e2
    obtain⟨cs,h4,h5⟩:=e2
    have hargs:c.args.map a.eval=(c.args.toList.map a.eval).toArray:=by apply Array.ext';simp
    rw[<- hX.P]at hb hE
    have hrun:(execOp a.eval o).run X.P C.w = .ok (.enter f (c.args.toList.map a.eval++cs).toArray) C.w:=by
     simp[execOp,hop,resolve,hc,h4,Deferred.ofValue,invoke,callFunc_run hb,Sem.run_pure]
    exact callwi_at hX hk h hd (fun c=>by simp[hop]) hrun (e1.append h5) rfl hE
   ·obtain⟨h0,f,caps,ns,args',ins,R,rfl,hb,h1,hlen,hnd,hh,hib,hlive,ha1,ha2,h2⟩:=hE.out
    simp only[RV]at e2
    obtain⟨cs,h4,h5⟩:=e2
    have hargs:c.args.map a.eval=(c.args.toList.map a.eval).toArray:=by apply Array.ext';simp
    rw[<- hX.P]at hb h1
    have hrun:(execOp a.eval o).run X.P C.w = .ok (.enter f (c.args.toList.map a.eval++cs).toArray) C.w:=by
     simp[execOp,hop,resolve,hc,h4,Deferred.ofValue,invoke,callFunc_run hb,Sem.run_pure]
    exact cally_at hX hk h hd (fun c=>by simp[hop]) hrun (e1.append h5) h0 h1 hlen hnd hh hib hlive ha1 ha2 h2
 ·exact hE.elim
theorem ldC_eq:∀(ag:Bool) (n:Nat) (cs:List AV),ldC1 ag n cs=evX.ldC ag n cs:=fun ag n cs=>by cases ag<;>rfl
theorem aidx_ok(hX:SessOk X E)(hk:Nx X k next)(h:Rel X C s a)(hd:∀i,o.dst=some i->i<X.N){t e:TypeId}{x y:Operand}{p q:Opd}{m n:Nat}{ag:Bool}(hop:o.op = .index t x y)(ht:X.P.underlying t=some (.array m e))(hag:aggOf X.P e=some ag)(hsz:szOf X.P e=some n)(hp:opd x=some p)(hq:opd y=some q)
  (hE:evO E o.dst (.aidx ag n m p q) s k):o.wpIn X.F X.n X.P a C.w next Q:=by
 simp only[evO,evX,app]at hE
 split at hE
 ·rename_i cs kd i h1 h2
  have e1:=ev_ok h hp h1
  have e2:=ev_ok h hq h2
  simp only[RV]at e1 e2
  obtain⟨vs,e1,hvs⟩:=e1
  obtain⟨v,h0,hlt,hl,hE⟩:=hE.out
  rw[ldC_eq]at hl
  obtain⟨z,h5,h6⟩:=part_run hag hsz hvs hl C.w
  exact up_pure hX hk h hd (fun c=>by simp[hop]) (by simp[execOp,hop,e1,e2,Instr.index,asIntOf,run_underlying ht,sz_run hsz,h0,hlt,h5,Sem.run_pure]) h6 hE
 ·exact hE.elim
theorem paddr_ok(hX:SessOk X E)(hk:Nx X k next)(h:Rel X C s a)(hd:∀i,o.dst=some i->i<X.N){t e:TypeId}{x y:Operand}{p q:Opd}{m n:Nat}(hop:o.op = .indexAddr t x y)(ht:X.P.underlying t=some (.array m e))(hsz:szOf X.P e=some n)(hp:opd x=some p)(hq:opd y=some q)
  (hE:evO E o.dst (.paddr n m p q) s k):o.wpIn X.F X.n X.P a C.w next Q:=by
 simp only[evO,evX,app]at hE
 split at hE
 ·rename_i j off kd i h1 h2
  have e1:=ev_ok h hp h1
  have e2:=ev_ok h hq h2
  simp only[RV]at e1 e2
  obtain⟨ow,ho,e1⟩:=e1
  obtain⟨⟨h0,hlt⟩,hE⟩:=hE
  refine up_pure hX hk h hd (v:=.own j (off+i.toNat*n)) (x:=.pointer (some ⟨ow.blk,off+i.toNat*n,none⟩)) (fun c=>by simp[hop]) ?_ (by simp only[RV];exact⟨_,ho,rfl⟩) hE
  simp[execOp,hop,e1,e2,Instr.indexAt,Instr.sureAddr,asIntOf,run_underlying ht,sz_run hsz,h0,hlt,Sem.run_pure,add_off]
 ·rename_i cs kd i h1 h2
  have e1:=ev_ok h hp h1
  have e2:=ev_ok h hq h2
  simp only[RV,RV0]at e1 e2
  obtain⟨b,off,e1,hi,hc⟩:=e1
  obtain⟨⟨h0,hlt⟩,hE⟩:=hE
  refine up_pure hX hk h hd (v:=.ipt (cs.drop (i.toNat*n))) (x:=.pointer (some ⟨b,off+i.toNat*n,none⟩)) (fun c=>by simp[hop]) ?_ (by simp only[RV,RV0];exact⟨b,_,rfl,hi,hc.drop _⟩) hE
  simp[execOp,hop,e1,e2,Instr.indexAt,Instr.sureAddr,asIntOf,run_underlying ht,sz_run hsz,h0,hlt,Sem.run_pure,add_off]
 ·exact hE.elim
theorem sidx_ok(hX:SessOk X E)(hk:Nx X k next)(h:Rel X C s a)(hd:∀i,o.dst=some i->i<X.N){t:TypeId}{x y:Operand}{p q:Opd}(hop:o.op = .index t x y)(ht:X.P.underlying t=some .string)(hp:opd x=some p)(hq:opd y=some q)
  (hE:evO E o.dst (.sidx p q) s k):o.wpIn X.F X.n X.P a C.w next Q:=by
 simp only[evO,evX,app]at hE
 split at hE
 ·rename_i b kd i h1 h2
  have e1:=ev_ok h hp h1
  have e2:=ev_ok h hq h2
  simp only[RV]at e1 e2
  obtain⟨h0,hlt,hE⟩:=hE.out
  have hlt':i.toNat<b.length:=by omega
  have hg:(⟨b.toArray⟩:ByteArray)[i.toNat]?=some (b.getD i.toNat 0):=by
   have hs:i.toNat<(ByteArray.mk b.toArray).size:=by simpa[ByteArray.size]using hlt'
   rw[getElem?_pos (ByteArray.mk b.toArray) i.toNat hs]
   congr 1
   show b.toArray[i.toNat]=_
   simp[List.getD_eq_getElem?_getD,hlt']
  refine up_pure hX hk h hd (v:=.int .u8 (b.getD i.toNat 0).toNat) (x:=.int .u8 (b.getD i.toNat 0).toNat) (fun c=>by simp[hop]) ?_ (by simp[RV]) hE
  simp only[execOp,hop,e1,e2,Instr.index,asIntOf,Sem.run_bind,Sem.run_pure,run_underlying ht,Result.andThen_ok,h0,if_true,hg,Sem.run_map]
  try rfl
 ·exact hE.elim
theorem sub_str(b:List UInt8)(l h:Nat):(ByteArray.mk b.toArray).extract l h=⟨((b.take h).drop l).toArray⟩:=by
 apply ByteArray.ext
 apply Array.ext'
 simp[ByteArray.data_extract,List.extract_eq_take_drop]
 try rw[List.drop_take]
theorem size_str(b:List UInt8):(ByteArray.mk b.toArray).size=b.length:=rfl
theorem evl2{s:St}{p q:Opd}{vs:List AV}(h:s.evl [p,q]=some vs):∃v u,s.ev p=some v/\s.ev q=some u/\vs=[v,u]:=by
 simp only[St.evl]at h
 split at h
 ·rename_i v vs' h1 h2
  cases h
  split at h2
  ·rename_i u us h3 h4
   cases h4;cases h2
   exact⟨v,u,h1,h3,rfl⟩
  ·cases h2
 ·cases h
theorem evl1{s:St}{p:Opd}{vs:List AV}(h:s.evl [p]=some vs):∃v,s.ev p=some v/\vs=[v]:=by
 simp only[St.evl]at h
 split at h
 ·rename_i v vs' h1 h2
  cases h;cases h2
  exact⟨v,h1,rfl⟩
 ·cases h
theorem evl3{s:St}{p q r:Opd}{vs:List AV}(h:s.evl [p,q,r]=some vs):∃v u x,s.ev p=some v/\s.ev q=some u/\s.ev r=some x/\vs=[v,u,x]:=by
 rw[St.evl]at h
 split at h
 ·rename_i v vs' h1 h2
  cases h
  obtain⟨u,x,h3,h4,rfl⟩:=evl2 h2
  exact⟨v,u,x,h1,h3,h4,rfl⟩
 ·cases h
theorem cat_ok(hX:SessOk X E)(hk:Nx X k next)(h:Rel X C s a)(hd:∀i,o.dst=some i->i<X.N){t u:TypeId}{x y:Operand}{p q:Opd}(hop:o.op = .binOp .add t x y u)(ht:X.P.underlying t=some .string)(hp:opd x=some p)(hq:opd y=some q)
  (hE:evO E o.dst (.pur .cat [p,q]) s k):o.wpIn X.F X.n X.P a C.w next Q:=by
 simp only[evO,evX,app]at hE
 split at hE
 ·rename_i vs hvs
  obtain⟨v,u',h1,h2,rfl⟩:=evl2 hvs
  have e1:=ev_ok h hp h1
  have e2:=ev_ok h hq h2
  unfold purE at hE
  simp only at hE
  split at hE
  ·rename_i a1 b1 heq
   cases heq
   simp only[RV]at e1 e2
   obtain⟨hlen,hE⟩:=hE
   refine up_pure hX hk h hd (v:=.str (a1++b1)) (x:=.string ⟨(a1++b1).toArray⟩) (fun c=>by simp[hop]) ?_ (by simp[RV]) hE
   have:=run_string_add_sum (P:=X.P) C.w ⟨a1.toArray⟩ ⟨b1.toArray⟩ (by simpa[size_str]using hlen)
   rw[ByteArray.mk_append_mk]at this
   simp[execOp,hop,e1,e2,eqGuard,Sem.run_pure,binOp,this]
  ·exact hE.elim
 ·exact hE.elim
theorem scmp_ok(hX:SessOk X E)(hk:Nx X k next)(h:Rel X C s a)(hd:∀i,o.dst=some i->i<X.N){op:BinOp}{t u:TypeId}{x y:Operand}{p q:Opd}(hop:o.op = .binOp op t x y u)(ht:X.P.underlying t=some .string)(hop2:op = .eql\/op = .neq\/op = .lss\/op = .leq\/op = .gtr\/op = .geq)(hp:opd x=some p)(hq:opd y=some q)
  (hE:evO E o.dst (.pur (.cmp op) [p,q]) s k):o.wpIn X.F X.n X.P a C.w next Q:=by
 simp only[evO,evX,app]at hE
 split at hE
 ·rename_i vs hvs
  obtain⟨v,u',h1,h2,rfl⟩:=evl2 hvs
  have e1:=ev_ok h hp h1
  have e2:=ev_ok h hq h2
  unfold purE at hE
  simp only at hE
  split at hE
  ·rename_i a1 b1 heq
   cases heq
   simp only[RV]at e1 e2
   refine up_pure hX hk h hd (v:=.bool (strC op a1 b1)) (x:=.bool (strC op a1 b1)) (fun c=>by simp[hop]) ?_ (by simp[RV]) hE
   have hbe:(a1==b1)=decide (a1=b1):=by rw[Bool.eq_iff_iff];simp
   rcases hop2 with rfl|rfl|rfl|rfl|rfl|rfl<;>
    simp[execOp,hop,e1,e2,eqGuard,Sem.run_pure,binOp,Op.stringOp,ByteArray.toList_mk,strC,hbe]
  ·exact hE.elim
 ·exact hE.elim
theorem sls_ok(hX:SessOk X E)(hk:Nx X k next)(h:Rel X C s a)(hd:∀i,o.dst=some i->i<X.N){t:TypeId}{x:Operand}{p:Opd}{lo hi:Option Operand}{pl ph:Option Opd}(hop:o.op = .slice t x lo hi none)(ht:X.P.underlying t=some .string)(hp:opd x=some p)
  (hl:opdo lo=some pl) (hh:opdo hi=some ph) (hE:evO E o.dst (.pur (.sls pl.isSome ph.isSome) (p::(pl.toList++ph.toList))) s k):o.wpIn X.F X.n X.P a C.w next Q:=by
 have hdo:∀ {x:Option Operand} {q:Opd},opdo x=some (some q)->∃y,x=some y/\opd y=some q:=fun {x q} e=>by
  cases x with
  |none=>cases e
  |some y=>
   simp only[opdo,Option.map_eq_some_iff]at e
   obtain⟨z,e1,e2⟩:=e
   cases e2
   exact⟨y,rfl,e1⟩
 have hno:∀ {x:Option Operand},opdo x=some none->x=none:=fun {x} e=>by
  cases x with
  |none=>rfl
  |some y=>
   simp only[opdo,Option.map_eq_some_iff]at e
   obtain⟨z,e1,e2⟩:=e
   cases e2
 have hb:∀ {y:Nat} {kd:IntKind} {n:Int} {cd:BoundsCode} (w:World),0<=n->n<=y->(Instr.sliceBound (.int kd n) y cd).run X.P w = .ok n.toNat w:=fun {y kd n cd} w h0 h1=>by
  simp[Instr.sliceBound,asIntOf,h0,h1,Sem.run_pure]
 simp only[evO,evX,app]at hE
 split at hE
 ·rename_i vs hvs
  cases pl with
  |none=>
   have el:=hno hl
   subst el
   cases ph with
   |none=>
    have eh:=hno hh
    subst eh
    obtain⟨v,h1,rfl⟩:=evl1 (by simpa using hvs)
    have e1:=ev_ok h hp h1
    simp only[Option.isSome,purE]at hE
    split at hE
    ·rename_i b heq
     cases heq
     simp only[RV]at e1
     obtain⟨⟨_,_,_⟩,hE⟩:=hE
     refine up_pure hX hk h hd (x:=.string ⟨((b.take ((b.length:Int)).toNat).drop (0:Int).toNat).toArray⟩) (fun c=>by simp[hop]) ?_ (by simp only[RV]) hE
     simp[execOp,hop,e1,run_sliceAt_string C.w t _ _ _ _ ht,Instr.slice,run_underlying ht,Instr.sliceBounds,Sem.run_pure,sub_str,size_str]
    ·exact hE.elim
   |some ph=>
    obtain⟨y,rfl,hy⟩:=hdo hh
    obtain⟨v,u,h1,h2,rfl⟩:=evl2 (by simpa using hvs)
    have e1:=ev_ok h hp h1
    have e2:=ev_ok h hy h2
    simp only[Option.isSome,purE]at hE
    split at hE
    ·rename_i b kd n heq
     cases heq
     simp only[RV]at e1 e2
     obtain⟨⟨q0,q1,q2⟩,hE⟩:=hE
     refine up_pure hX hk h hd (x:=.string ⟨((b.take n.toNat).drop (0:Int).toNat).toArray⟩) (fun c=>by simp[hop]) ?_ (by simp only[RV]) hE
     simp[execOp,hop,e1,e2,run_sliceAt_string C.w t _ _ _ _ ht,Instr.slice,run_underlying ht,Instr.sliceBounds,Sem.run_pure,sub_str,size_str,hb C.w q1 q2]
    ·exact hE.elim
  |some pl=>
   obtain⟨z,rfl,hz⟩:=hdo hl
   cases ph with
   |none=>
    have eh:=hno hh
    subst eh
    obtain⟨v,u,h1,h2,rfl⟩:=evl2 (by simpa using hvs)
    have e1:=ev_ok h hp h1
    have e2:=ev_ok h hz h2
    simp only[Option.isSome,purE]at hE
    split at hE
    ·rename_i b kd n heq
     cases heq
     simp only[RV]at e1 e2
     obtain⟨⟨q0,q1,q2⟩,hE⟩:=hE
     refine up_pure hX hk h hd (x:=.string ⟨((b.take ((b.length:Int)).toNat).drop n.toNat).toArray⟩) (fun c=>by simp[hop]) ?_ (by simp only[RV]) hE
     simp[execOp,hop,e1,e2,run_sliceAt_string C.w t _ _ _ _ ht,Instr.slice,run_underlying ht,Instr.sliceBounds,Sem.run_pure,sub_str,size_str,hb C.w q0 q1]
    ·exact hE.elim
   |some ph=>
    obtain⟨y,rfl,hy⟩:=hdo hh
    obtain⟨v,u,r,h1,h2,h3,rfl⟩:=evl3 (by simpa using hvs)
    have e1:=ev_ok h hp h1
    have e2:=ev_ok h hz h2
    have e3:=ev_ok h hy h3
    simp only[Option.isSome,purE]at hE
    split at hE
    ·rename_i b kd n kd2 m heq
     cases heq
     simp only[RV]at e1 e2 e3
     obtain⟨⟨q0,q1,q2⟩,hE⟩:=hE
     have q3:0<=m:=by omega
     have q4:n<=(m.toNat:Int):=by omega
     refine up_pure hX hk h hd (x:=.string ⟨((b.take m.toNat).drop n.toNat).toArray⟩) (fun c=>by simp[hop]) ?_ (by simp only[RV]) hE
     simp[execOp,hop,e1,e2,e3,run_sliceAt_string C.w t _ _ _ _ ht,Instr.slice,run_underlying ht,Instr.sliceBounds,Sem.run_pure,sub_str,size_str,hb C.w q3 q2,hb C.w q0 q4]
    ·exact hE.elim
 ·exact hE.elim
theorem bytO_ok{imm:Nat->Prop}{w:World}{b:Nat}:∀ {es:List (List AV)} {l:List UInt8} {off:Nat},bytO es=some l->RV0r imm w b 1 off es->∃ns:List Int,l=ns.map (fun n=>UInt8.ofNat n.toNat)/\ns.length=es.length/\∀i,i<es.length->w.cell? ⟨b,off+i,none⟩=some (.int .u8 (ns.getD i 0))
 | [],l,off,h,_=>by
  simp only[bytO,Option.some.injEq]at h;subst h
  exact⟨[],rfl,rfl,fun i hi=>by cases hi⟩
 |e::es,l,off,h,hr=>by
  unfold bytO at h
  split at h
  ·rename_i heq;cases heq
  ·rename_i n es' heq
   cases heq
   split at h
   ·rename_i l' hl
    cases h
    simp only[RV0r,RV0c,RV0]at hr
    obtain⟨_,⟨⟨u,hu,rfl⟩,_⟩,hr⟩:=hr
    obtain⟨ns,q1,q2,q3⟩:=bytO_ok hl hr
    refine⟨n::ns,by simp[q1],by simp[q2],fun i hi=>?_⟩
    cases i with
    |zero=>simpa using hu
    |succ i=>
     have:=q3 i (by simpa using hi)
     rw[show off+(i+1)=off+1+i from by omega]
     simpa using this
   ·cases h
  ·cases h
theorem b2s_ok(hX:SessOk X E)(hk:Nx X k next)(h:Rel X C s a)(hd:∀i,o.dst=some i->i<X.N){t u e:TypeId}{x:Operand}{p:Opd}(hop:o.op = .convert t u x)(ht:X.P.underlying t=some (.slice e))(hu:X.P.underlying u=some .string)(he:X.P.underlying e=some (.int .u8))(hp:opd x=some p)
  (hE:evO E o.dst (.b2s p) s k):o.wpIn X.F X.n X.P a C.w next Q:=by
 have fin:∀(ns:List Int) (b off len cap:Nat),a.eval x = .slice (some ⟨b,off,none⟩) len cap->ns.length=len->(∀i,i<len->C.w.cell? ⟨b,off+i,none⟩=some (.int .u8 (ns.getD i 0)))->k (s.put o.dst (.str (ns.map fun n=>UInt8.ofNat n.toNat)))->o.wpIn X.F X.n X.P a C.w next Q:=fun ns b off len cap e1 hl hc hk'=>by
  refine up_pure hX hk h hd (x:=.string ⟨(ns.map fun n=>UInt8.ofNat n.toNat).toArray⟩) (fun c=>by simp[hop]) ?_ (by simp only[RV]) hk'
  have:=run_convert_bytes_arg (P:=X.P) C.w t e ht he b off len cap ns hl hc u hu
  simp only[strOfNums]at this
  simp[execOp,hop,e1,this]
 have fin0:∀(l c:Nat),a.eval x = .slice none l c->k (s.put o.dst (.str []))->o.wpIn X.F X.n X.P a C.w next Q:=fun l c e1 hk'=>by
  refine up_pure hX hk h hd (x:=.string ⟨[].toArray⟩) (fun c=>by simp[hop]) ?_ (by simp only[RV]) hk'
  have:=run_convert_bytes_nil (P:=X.P) C.w t e ht he l c u hu
  simp[execOp,hop,e1,this]
  rfl
 have finI:∀(imm:Nat->Prop) (es:List (List AV)),RV0 imm C.w (.isl es) (a.eval x)->B2sE es (fun v=>k (s.put o.dst v))->o.wpIn X.F X.n X.P a C.w next Q:=fun imm es e1 hE=>by
  replace hE:=hE.out
  obtain⟨l,hl,hE⟩:=hE
  simp only[RV0]at e1
  rcases e1 with⟨⟨ad,e1⟩,rfl⟩|⟨sz,b,off,cap,e1,hc,hi,hr⟩
  ·simp only[bytO,Option.some.injEq]at hl;subst hl
   cases ad with
   |none=>exact fin0 _ _ e1 hE
   |some ad=>
    refine up_pure hX hk h hd (x:=.string ⟨[].toArray⟩) (fun c=>by simp[hop]) ?_ (by simp only[RV]) hE
    have h3:(loadCells ad 0).run X.P C.w = .ok (([]:List Int).map (Value.int .u8)).toArray C.w:=by simp[loadCells,loadCellsFrom,Sem.run_pure]
    have h4:=run_bytesToString (P:=X.P) C.w ad 0 0 [] h3
    simp[execOp,hop,e1,run_convert_bytes_string C.w t u e _ _ _ ht he hu,h4]
    rfl
  ·cases es with
   |nil=>
    simp only[bytO,Option.some.injEq]at hl;subst hl
    exact fin [] b off 0 cap e1 rfl (fun i hi=>by cases hi) hE
   |cons e0 es0=>
    have hsz:sz=1:=by
     have h5:=hr
     unfold bytO at hl
     split at hl
     ·rename_i heq;cases heq
     ·rename_i n es' heq
      cases heq
      simp only[RV0r]at h5
      exact h5.1.symm
     ·cases hl
    subst hsz
    obtain⟨ns,q1,q2,q3⟩:=bytO_ok hl hr
    subst q1
    exact fin ns b off _ cap e1 q2 q3 hE
 simp only[evO,evX,app]at hE
 split at hE
 ·rename_i es h1
  have e1:=ev_ok h hp h1
  simp only[RV]at e1
  exact finI _ es e1 hE
 ·rename_i h1
  have e1:=ev_ok h hp h1
  simp only[RV]at e1
  exact fin0 _ _ e1 hE
 ·rename_i i h1
  have e1:=ev_ok h hp h1
  simp only[RV]at e1
  obtain⟨ow,ho,e1⟩:=e1
  split at hE
  ·rename_i ice el sz es hr
   obtain⟨hf,_⟩:=getD_dead hr (by simp)
   have hs:=h.sg i
   rw[hf,ho]at hs
   obtain⟨b,v,xs,e2,hown,hv,hlen,_⟩:=hs
   cases e2
   have:=isl_of_row (imm:=fun b'=>C.imm b'\/v.ownBlock=some b') hown (RV0s.mono (fun b hb=>⟨.inl hb,rfl⟩) _ _ hv) hlen (fun b hb=>.inr hb)
   exact finI _ es (by rw[e1];exact this) hE
  ·exact hE.elim
 ·exact hE.elim
theorem aparts_ok(h:Rel X C s a){n:Nat}:∀(ps:List (Nat × Operand)) (qs:List (Nat × Nat × Opd)),aparts n ps=some qs->∀(zs cs:List AV) (us:List Value),RVs C zs us->evX.evBuild s zs qs=some cs ->
   ∃vs,Instr.fill (fun i=>some (i*n,n)) us.toArray (ps.map fun p=>(p.1,a.eval p.2))=some vs.toArray/\RVs C cs vs
 | [],qs,hq,zs,cs,us,hz,he=>by
  simp only[aparts,Option.some.injEq]at hq;subst hq
  simp only[evX.evBuild,Option.some.injEq]at he;subst he
  exact⟨us,by simp[Instr.fill],hz⟩
 |(f,x)::ps,qs,hq,zs,cs,us,hz,he=>by
  simp only[aparts]at hq
  split at hq
  ·rename_i p r h2 h3
   cases hq
   have fin:∀(ws:List AV) (x':Value),RVs C ws x'.cells.toList->ws.length=n->f*n+n<=zs.length->a.eval x=x'->evX.evBuild s (splice zs (f*n) ws) r=some cs ->
     ∃vs,Instr.fill (fun i=>some (i*n,n)) us.toArray (((f,x)::ps).map fun p=>(p.1,a.eval p.2))=some vs.toArray/\RVs C cs vs:=fun ws x' hw hl hle e1 hb=>by
    have hul:=hz.length
    have hxl:=hw.length
    obtain⟨vs,h4,h5⟩:=aparts_ok h ps r h3 _ cs _ (hz.splice hw (n:=f*n) (by omega)) hb
    refine⟨vs,?_,h5⟩
    simp only[List.map_cons,Instr.fill,e1]
    have hxl':x'.cells.size=n:=by simp at hxl;omega
    rw[if_neg (by simp[hxl'];omega)]
    have h6:=foldl_set x'.cells.toList 0 (f*n) us (by simp[hxl'];omega)
    simp only[Array.toArray_toList,Nat.add_zero]at h6
    rw[h6]
    exact h4
   simp only[evX.evBuild]at he
   split at he
   ·rename_i ws hv
    have e1:=ev_ok h h2 hv
    simp only[RV]at e1
    obtain⟨xs,e1,hxs⟩:=e1
    split at he
    ·rename_i hle
     exact fin ws _ (by simpa[Value.cells]using hxs) hle.1 hle.2 e1 he
    ·cases he
   ·rename_i v hna hv
    split at he
    ·rename_i hle
     obtain⟨hn1,hone,hle⟩:=hle
     have e1:=ev_ok h h2 hv
     refine fin [v] (a.eval x) (by rw[cells_one (RV.one h hone e1)];simp[RVs,e1]) (by simp[hn1]) (by omega) rfl he
    ·cases he
   ·cases he
  ·cases hq
theorem abuild_ok(hX:SessOk X E)(hk:Nx X k next)(h:Rel X C s a)(hd:∀i,o.dst=some i->i<X.N){t e:TypeId}{m n:Nat}{ps:Array (Nat × Operand)}{zs:List AV}{qs:List (Nat × Nat × Opd)}(hop:o.op = .build t ps)(ht:X.P.underlying t=some (.array m e))
  (hsz:szOf X.P e=some n) (hz:zsOf X.P t=some zs) (hq:aparts n ps.toList=some qs) (hE:evO E o.dst (.build zs qs) s k):o.wpIn X.F X.n X.P a C.w next Q:=by
 simp only[evO,evX,app]at hE
 split at hE
 ·rename_i cs hc
  obtain⟨z,h1,h2⟩:=zs_ok' (C:=C) hz
  obtain⟨vs,h3,h4⟩:=aparts_ok h ps.toList qs hq zs cs _ h2 hc
  refine up_pure hX hk h hd (v:=.agg cs) (x:=.agg vs.toArray) (fun c=>by simp[hop]) ?_ (by simp only[RV];exact⟨vs,rfl,h4⟩) hE
  simp only[Array.toArray_toList]at h3
  simp[execOp,hop,Instr.build,h1,run_underlying ht,sz_run hsz,h3,Sem.run_pure,Sem.run_map]
 ·exact hE.elim
end
section
variable {X:Sess} {E:Env} {o:Oper} {C:Ctx} {s:St} {a:Act} {next:Act->World->Prop} {Q:Exit->Act->World->Prop} {k:St->Prop}
theorem compO_ok(hX:SessOk X E)(hk:Nx X k next)(h:Rel X C s a)(hd:∀i,o.dst=some i->i<X.N){nm:Nat}{io:Ixo}(hc:compO X.P nm o.op=some io)
  (hs:stOk io o.dst=true) {ne:List Opd} (hE:evO E o.dst (io.withNe ne) s k):o.wpIn X.F X.n X.P a C.w next Q:=by
 cases hop:o.op with
 |move x=>
  rw[hop]at hc;simp only[compO,Option.map_eq_some_iff]at hc;obtain⟨p,h1,rfl⟩:=hc
  exact mv_ok hX hk h hd (.inl hop) h1 hE
 |assign x=>
  rw[hop]at hc;simp only[compO,Option.map_eq_some_iff]at hc;obtain⟨p,h1,rfl⟩:=hc
  exact mv_ok hX hk h hd (.inr hop) h1 hE
 |pick c x y=>
  rw[hop]at hc;simp only[compO]at hc
  split at hc<;>cases hc
  rename_i h1 h2 h3
  exact pick_ok hX hk h hd hop h1 h2 h3 hE
 |alloc t=>
  rw[hop]at hc;simp only[compO]at hc
  split at hc<;>cases hc
  rename_i h1
  exact alloc_ok hX hk h hd hop h1 hE
 |makeSlice t l c=>
  rw[hop]at hc;simp only[compO]at hc
  split at hc<;>try cases hc
  rename_i h1 h2 h3
  split at hc<;>try cases hc
  rename_i h4 h5
  split at hc<;>cases hc
  rename_i h6
  exact mks_ok hX hk h hd hop h1 h4 h5 h2 h3 h6.1 h6.2.1 h6.2.2.1 h6.2.2.2 hE
 |box t x=>
  rw[hop]at hc;simp only[compO]at hc
  split at hc<;>cases hc
  rename_i h1 h2
  exact box_ok hX hk h hd hop h2 hE
 |build t ps=>
  rw[hop]at hc;simp only[compO]at hc
  split at hc<;>try cases hc
  ·rename_i h1
   split at hc<;>try cases hc
   rename_i h2 h3
   split at hc<;>cases hc
   rename_i h4
   exact build_ok hX hk h hd hop h1 h4 h2 h3 hE
  ·rename_i h1
   split at hc<;>try cases hc
   rename_i h2 h3
   split at hc<;>try cases hc
   rename_i h4
   split at hc<;>cases hc
   exact abuild_ok hX hk h hd hop h1 h3 h2 h4 hE
 |index t x y=>
  rw[hop]at hc;simp only[compO]at hc
  split at hc<;>try cases hc
  ·rename_i h1 h2 h3
   split at hc<;>try cases hc
   rename_i h4 h5
   split at hc<;>cases hc
   exact aidx_ok hX hk h hd hop h1 h4 h5 h2 h3 hE
  ·rename_i h1 h2 h3
   exact sidx_ok hX hk h hd hop h1 h2 h3 hE
 |load t x=>
  rw[hop]at hc;simp only[compO]at hc
  split at hc<;>cases hc
  rename_i h1 h2 h3
  exact load_ok hX hk h hd hop h1 h2 h3 hE
 |store t x y=>
  rw[hop]at hc;simp only[compO]at hc
  split at hc<;>cases hc
  rename_i h1 h2 h3 h4
  by_cases hfl:flatT X.P 8 t=true
  ·rw[if_pos hfl]at hE hs
   exact store_ok hX hk h hop h2 h3 h4 (by simpa[stOk]using hs) hE
  ·rw[if_neg hfl]at hE hs
   exact stz_ok hX hk h hop h2 h3 h4 (by simpa[stOk]using hs) hE
 |binOp op t x y u=>
  rw[hop]at hc;simp only[compO]at hc
  split at hc<;>try cases hc
  rename_i h1 h2 h3
  split at hc<;>try cases hc
  ·exact bin_ok hX hk h hd hop h1 h2 hE
  ·rename_i ht
   split at hc<;>cases hc
   ·exact eqb_ok hX hk h hd hop ht (.inl ⟨rfl,rfl⟩) h1 h2 hE
   ·exact eqb_ok hX hk h hd hop ht (.inr ⟨rfl,rfl⟩) h1 h2 hE
  ·rename_i ht
   split at hc<;>cases hc
   ·exact cat_ok hX hk h hd hop ht h1 h2 hE
   all_goals exact scmp_ok hX hk h hd hop ht (by decide) h1 h2 hE
  ·rename_i el ht
   split at hc<;>cases hc
   ·exact eqn_ok hX hk h hd hop ht (.inl ⟨rfl,rfl⟩) h1 h2 hE
   ·exact eqn_ok hX hk h hd hop ht (.inr ⟨rfl,rfl⟩) h1 h2 hE
  ·rename_i fs ht
   split at hc<;>try cases hc
   rename_i hg
   have hg':X.P.eqGuardType X.P.depth t=false:=by simpa using hg
   split at hc<;>cases hc
   ·rename_i hT
    exact eqs_ok hX hk h hd hop ht hg' hT (.inl ⟨rfl,rfl⟩) h1 h2 hE
   ·rename_i hT
    exact eqs_ok hX hk h hd hop ht hg' hT (.inr ⟨rfl,rfl⟩) h1 h2 hE
 |unOp op t x=>
  rw[hop]at hc;simp only[compO,Option.map_eq_some_iff]at hc;obtain⟨p,h1,rfl⟩:=hc
  exact un_ok hX hk h hd hop h1 hE
 |convert t u x=>
  rw[hop]at hc;simp only[compO]at hc
  split at hc<;>try cases hc
  ·rename_i h1 h2 h3
   exact conv_ok hX hk h hd hop h1 h2 h3 hE
  ·rename_i h1 h2 h3
   split at hc<;>cases hc
   rename_i h4
   exact b2s_ok hX hk h hd hop h1 h2 h4 h3 hE
 |fieldAddr t x f=>
  rw[hop]at hc;simp only[compO]at hc
  split at hc<;>cases hc
  rename_i h1 h2
  exact faddr_ok hX hk h hd hop h1 h2 hE
 |field t x f=>
  rw[hop]at hc;simp only[compO]at hc
  split at hc<;>try cases hc
  rename_i h1 h2
  split at hc<;>cases hc
  rename_i h3
  exact field_ok hX hk h hd hop h1 h3 h2 hE
 |indexAddr t x i=>
  rw[hop]at hc;simp only[compO]at hc
  split at hc<;>try cases hc
  ·rename_i h1 h2 h3
   split at hc<;>cases hc
   rename_i h4
   exact iaddr_ok hX hk h hd hop h1 h4 h2 h3 hE
  ·rename_i h1 h2 h3
   split at hc<;>cases hc
   rename_i h4
   exact paddr_ok hX hk h hd hop h1 h4 h2 h3 hE
 |makeFunc f first caps=>
  rw[hop]at hc
  cases f<;>simp only[compO]at hc<;>try cases hc
  split at hc
  ·cases hc
   rename_i h1 h2
   exact mkfn_ok hX hk h hd hop h1 h2 hE
  ·rename_i h2 _
   obtain⟨ps,h1,rfl⟩:=Option.map_eq_some_iff.1 hc
   exact mkmt_ok hX hk h hd hop h1 h2 hE
  ·cases hc
 |extract x i=>
  rw[hop]at hc;simp only[compO,Option.map_eq_some_iff]at hc;obtain⟨p,h1,rfl⟩:=hc
  exact extract_ok hX hk h hd hop h1 hE
 |nilCheck x=>
  rw[hop]at hc;simp only[compO,Option.map_eq_some_iff]at hc;obtain⟨p,h1,rfl⟩:=hc
  exact nilck_ok hX hk h hd hop h1 hE
 |call c=>
  rw[hop]at hc;simp only[compO]at hc
  split at hc
  ·rename_i f hcal
   split at hc<;>try cases hc
   rename_i h1 h2
   split at hc
   ·cases hc;exact callw_ok hX hk h hd hop hcal h2 h1 hE
   split at hc<;>cases hc
   ·exact call_ok hX hk h hd hop hcal h2 h1 hE
   ·exact callz_ok hX hk h hd hop hcal h2 h1 hE
  ·rename_i hcal
   split at hc<;>try cases hc
   rename_i x y t t' h1 h2
   by_cases htt:t≠t'
   ·rw[if_neg htt]at hc;cases hc
   have htt:=Classical.not_not.1 htt
   rw[if_pos htt]at hc
   subst htt
   split at hc<;>try cases hc
   rename_i e p q h3 h4 h5
   split at hc<;>try cases hc
   rename_i i h6
   split at hc<;>cases hc
   rename_i h7
   simp only[Bool.and_eq_true,decide_eq_true_eq]at h7
   exact apd_ok hX hk h hd hop hcal h1 h2 h3 h6 h4 h5 h7.1.1 h7.1.2 h7.2 hE
  ·rename_i g hng hcal
   split at hc<;>cases hc
   rename_i h1 h2
   exact callv_ok hX hk h hd hop hcal h1 h2 hE
  ·rename_i hcal
   split at hc<;>try cases hc
   rename_i x t h1 h2
   split at hc<;>cases hc
   ·rename_i h3 h4
    exact len_ok hX hk h hd hop hcal h1 h2 h3 h4 hE
   ·rename_i h3 h4
    exact slen_ok hX hk h hd hop hcal h1 h2 h3 h4 hE
   ·rename_i h3 h4
    exact mlen_ok hX hk h hd hop hcal h1 h2 h3 h4 hE
  ·rename_i hcal
   split at hc<;>try cases hc
   rename_i x y t t2 h1 h2
   split at hc<;>try cases hc
   rename_i h3 h4 h5
   split at hc<;>cases hc
   rename_i h6
   exact mde_ok hX hk h (by simpa[stOk]using hs) hop hcal h1 h2 h3 h6 h4 h5 hE
  ·rename_i hcal
   split at hc<;>cases hc
   rename_i h1 h2
   exact mm_ok hX hk h hd hop (mx:=true) hcal h2 hE
  ·rename_i hcal
   split at hc<;>cases hc
   rename_i h1 h2
   exact mm_ok hX hk h hd hop (mx:=false) hcal h2 hE
  ·cases hc
 |buildSlice t n ps=>
  rw[hop]at hc;simp only[compO]at hc
  split at hc<;>try cases hc
  rename_i e qs h1 h2 h3
  split at hc<;>try cases hc
  rename_i sz h4 h5
  split at hc<;>cases hc
  rename_i h6
  simp only[Bool.and_eq_true,decide_eq_true_eq,beq_iff_eq]at h6
  exact bsl_ok hX hk h hd hop h1 h2 h3 h4 h5 h6.1.1 h6.1.2 h6.2 hE
 |slice t x lo hi mx=>
  rw[hop]at hc
  cases mx with
  |some m=>
   cases lo with
   |some l=>simp only[compO]at hc;cases hc
   |none=>
    cases hi with
    |none=>simp only[compO]at hc;cases hc
    |some hi=>
     simp only[compO]at hc
     split at hc<;>try cases hc
     rename_i h1 h2 h3 h4
     split at hc<;>cases hc
     rename_i h5
     exact sl3_ok hX hk h hd hop h1 h5 h2 h3 h4 hE
  |none=>
   simp only[compO]at hc
   split at hc<;>try cases hc
   ·rename_i h1 h2 h3 h4
    split at hc<;>cases hc
    rename_i h5
    exact sli_ok hX hk h hd hop h1 h5 h2 h3 h4 hE
   ·rename_i h1 h2 h3 h4
    split at hc<;>cases hc
    rename_i h5
    exact sls_ok hX hk h hd hop (by rw[h1,isStr_ok h5]) h2 h3 h4 hE
 |makeMap t r=>
  rw[hop]at hc
  cases r with
  |some m=>simp only[compO]at hc;cases hc
  |none=>
   simp only[compO]at hc
   split at hc<;>cases hc
   split at hE
   ·exact mko_ok hX hk h hd hop hE
   ·exact mkm_ok hX hk h hd hop hE
 |mapUpdate t m x v=>
  rw[hop]at hc;simp only[compO]at hc
  split at hc<;>try cases hc
  rename_i h1 h2 h3 h4
  split at hc<;>cases hc
  rename_i h5
  exact mpu_ok hX hk h (by simpa[stOk]using hs) (.inl hop) h1 h5 h2 h3 h4 hE
 |insert t m x v=>
  rw[hop]at hc;simp only[compO]at hc
  split at hc<;>try cases hc
  rename_i h1 h2 h3 h4
  split at hc<;>cases hc
  rename_i h5
  exact mpu_ok hX hk h (by simpa[stOk]using hs) (.inr hop) h1 h5 h2 h3 h4 hE
 |range t x=>
  rw[hop]at hc;simp only[compO]at hc
  split at hc
  ·rename_i p h2
   split at hc
   ·rename_i h1
    cases hc
    exact srg_ok hX hk h hd hop (isStrT_ok h1) h2 hE
   ·split at hc<;>cases hc
    rename_i h1
    obtain⟨k,e,h1⟩:=isMapT_ok h1
    exact mrg_ok hX hk h hd hop h1 h2 hE
  ·cases hc
 |next x b=>
  rw[hop]at hc
  cases b with
  |true=>
   simp only[compO,Option.map_eq_some_iff]at hc;obtain⟨p,h1,rfl⟩:=hc
   exact snx_ok hX hk h hd hop h1 hE
  |false=>
   simp only[compO,Option.map_eq_some_iff]at hc;obtain⟨p,h1,rfl⟩:=hc
   exact mnx_ok hX hk h hd hop h1 hE
 |entry x=>
  rw[hop]at hc;simp only[compO,Option.map_eq_some_iff]at hc;obtain⟨p,h1,rfl⟩:=hc
  exact men_ok hX hk h hd hop h1 hE
 |mapEntry t m x=>
  rw[hop]at hc;simp only[compO]at hc
  split at hc<;>try cases hc
  rename_i h1 h2 h3
  split at hc<;>cases hc
  rename_i h4 h5
  exact mpe_ok hX hk h hd hop h1 h4 h5 h2 h3 hE
 |entryStore t m st v=>
  rw[hop]at hc;simp only[compO]at hc
  split at hc<;>cases hc
  rename_i h1 h2 h3
  exact mes_ok hX hk h (by simpa[stOk]using hs) hop h1 h2 h3 hE
 |lookup t m x ok=>
  rw[hop]at hc;simp only[compO]at hc
  split at hc<;>try cases hc
  rename_i h1 h2 h3
  split at hc<;>cases hc
  rename_i h4 h5
  exact lkp_ok hX hk h hd hop h1 h4 h5 h2 h3 hE
 |_=>rw[hop]at hc;simp only[compO]at hc;cases hc
end
end Go.Eng
