import Derived.Test.YtgmlkfgfjjggnaaGreatDoorSAL
import Derived.Test.YtgmlkfgfjjggnaaGreatDoorSAV
set_option linter.unusedVariables false
set_option linter.unusedSimpArgs false
set_option maxHeartbeats 40000000
set_option maxRecDepth 100000
namespace Go.Proofs.YtgmlkfgfjjggnaaGreatDoor
section
open Go.RowKit Go.Shelf
attribute [local go_sem] run_store_float run_equalIn_float Oper.semAt_some
theorem own_at{w w':World}{B e s n:Nat}{v:Value}{xs:List Value}(h:w.ownsRow B e s v n xs)(hb:∀q,v.ownBlock=some q->w'.heap[q]?=w.heap[q]?):w'.ownsRow B e s v n xs:=by
 obtain⟨hl,h|⟨g,cap,cur,h1,h2,h3,h4⟩⟩:=h
 ·exact⟨hl,.inl h⟩
 ·exact⟨hl,.inr ⟨g,cap,cur,h1,h2,(hb g (by rw[h1];rfl)).trans h3,h4⟩⟩
noncomputable def hlP(d:Dc)(pre:List (Liv d)):List Nat:=(pre.map (·.1)).filter (fun i=>!tells (smallK d.m (d.L i).key))
theorem hlP_no{d:Dc}{pre:List (Liv d)}{x:Liv d}(h:smallK d.m (d.L x.1).key):hlP d (pre++[x])=hlP d pre:=by
 unfold hlP
 rw[List.map_append,List.filter_append]
 simp[tells_yes h]
theorem hlP_yes{d:Dc}{pre:List (Liv d)}{x:Liv d}(h:¬smallK d.m (d.L x.1).key):hlP d (pre++[x])=hlP d pre++[x.1]:=by
 unfold hlP
 rw[List.map_append,List.filter_append]
 simp[tells_no h]
theorem hlP_all{d:Dc}{pre:List (Liv d)}(h:pre.map (·.1)=livL d d.n):hlP d pre=hldL d d.n:=by
 unfold hlP hldL
 rw[h]
theorem hlP_le{d:Dc}(pre:List (Liv d)):(hlP d pre).length<=pre.length:=by
 have:=List.length_filter_le (fun i=>!tells (smallK d.m (d.L i).key)) (pre.map (·.1))
 rwa [List.length_map]at this
def eP(E:Nat->Nat)(l:List Nat)(j:Nat):Option Addr:=some ⟨E (l.getD j 0),0,none⟩
theorem eP_snoc(E:Nat->Nat)(l:List Nat)(i:Nat):ptL (eP E l) l.length++[.pointer (some ⟨E i,0,none⟩)]=ptL (eP E (l++[i])) (l.length+1):=by
 rw[ptL_snoc]
 refine ptL_congr (fun j hj=>?_)
 unfold eP
 by_cases e:j=l.length
 ·subst e
  rw[upd_same]
  simp[List.getD]
 ·rw[upd_other _ _ e]
  rw[List.getD_eq_getElem?_getD,List.getD_eq_getElem?_getD,List.getElem?_append_left (by omega)]
def HdI(w u:World)(p n0:Nat)(E:Nat->Nat)(d:Dc)(pre:List (Liv d))(W:World):Prop:=
 ∃v,W.rowIs p 324 1 (fun _=>v)/\Rw W n0 tEnt v (hlP d pre).length (eP E (hlP d pre))/\KpB p n0 u W/\Below w.heap.size w W
theorem HdI.own(w u:World)(p n0 D:Nat)(E:Nat->Nat)(d:Dc)(hn:n0<=D)(hu:n0<=u.heap.size)(hw:w.heap.size<=D):OwnFrom D (HdI w u p n0 E d):=by
 rintro pre A B row ⟨v,h1,h2,h3,h4⟩ hg hr
 refine⟨v,?_,own_keptO h2 hg hr,⟨Nat.le_trans h3.size hg.size,fun b hb hp=>?_⟩,h4.grown hg h4.size (fun k e=>Nat.le_trans hw (hr k e).1)⟩
 ·obtain⟨c,hb,hc⟩:=h1
  exact World.rowIs.of_block ⟨c,hb,hc⟩ (kept_cells hb hg hr)
 ·have hl:b<A.heap.size:=Nat.lt_of_lt_of_le hb (Nat.le_trans hu h3.size)
  exact(hg.block b hl (fun e=>by have:=(hr b e.symm).1;omega)).trans (h3.block b hb hp)
theorem HdI.below{w u W W2:World}{p n0:Nat}{E:Nat->Nat}{d:Dc}{pre pre':List (Liv d)}(h:HdI w u p n0 E d pre W)(h2:Below W.heap.size W W2)(e:hlP d pre'=hlP d pre)(hpn:p<n0)(hnu:n0<=u.heap.size):KeepsOthers W W2/\KpB p n0 W W2/\HdI w u p n0 E d pre' W2:=by
 obtain⟨v,hp,hown,hkp,hbw⟩:=h
 have hk2:KpB p n0 W W2:=⟨h2.size,fun b hb _=>h2.block b (Nat.lt_of_lt_of_le hb (Nat.le_trans hnu hkp.size))⟩
 refine⟨⟨h2.size,fun k o hk _=>(h2.block k (Array.getElem?_eq_some_iff.1 hk).1).trans hk⟩,hk2,v,hp.of_block (h2.block p hp.lt),?_,hkp.trans hk2,hbw.trans (h2.mono hbw.size)⟩
 rw[e]
 exact own_block hown h2.size (fun q _ hq=>h2.block q hq)
theorem HdI.add{w u W W2 w3:World}{p n0:Nat}{E:Nat->Nat}{d:Dc}{pre:List (Liv d)}{x:Liv d}{v:Value}{o:Obj}{g3 cp3:Nat}(hp:W.rowIs p 324 1 (fun _=>v))(hown:Rw W n0 tEnt v (hlP d pre).length (eP E (hlP d pre)))(hkp:KpB p n0 u W)(hbw:Below w.heap.size w W)(h2:Below W.heap.size W W2)
  (h1:w3.ownsRow n0 tEnt 1 (.slice (some ⟨g3,0,none⟩) ((hlP d pre).length+1) cp3) ((hlP d pre).length+1) (ptL (eP E (hlP d pre)) (hlP d pre).length++[.pointer (some ⟨E x.1,0,none⟩)])) (hg:(W2.alloc o).grownBy w3 v.ownBlock) (hpn:p<n0) (hnu:n0<=u.heap.size) (hwp:w.heap.size<=p) (hs:¬smallK d.m (d.L x.1).key):
  (w3.cell? ⟨p,0,none⟩=some v/\w3.frozen? ⟨p,0,none⟩=false)/\KeepsOthers W (w3.setCell ⟨p,0,none⟩ (.slice (some ⟨g3,0,none⟩) ((hlP d pre).length+1) cp3))/\KpB p n0 W (w3.setCell ⟨p,0,none⟩ (.slice (some ⟨g3,0,none⟩) ((hlP d pre).length+1) cp3))/\HdI w u p n0 E d (pre++[x]) (w3.setCell ⟨p,0,none⟩ (.slice (some ⟨g3,0,none⟩) ((hlP d pre).length+1) cp3)):=by
 have zW:=hkp.size
 have z2:=h2.size
 have z3:W.heap.size<=w3.heap.size:=by have:=hg.size;simp at this;omega
 have hB:∀b,b<W.heap.size->v.ownBlock≠some b->w3.heap[b]?=W.heap[b]?:=fun b hb he=>(hg.block b (by simp;omega) (fun e=>he e.symm)).trans ((Deep.blk_alloc_lt _ _ _ (by omega)).trans (h2.block b hb))
 have hrow:∀b,b<n0->v.ownBlock≠some b:=fun b hb e=>by have:=(hown.lt b e).1;omega
 have hp1:w3.rowIs p 324 1 (fun _=>v):=hp.of_block (hB p hp.lt (hrow p hpn))
 have hg3:=(World.ownsRow.lt h1 g3 rfl).1
 have os:∀b,b≠p->(w3.setCell ⟨p,0,none⟩ (.slice (some ⟨g3,0,none⟩) ((hlP d pre).length+1) cp3)).heap[b]?=w3.heap[b]?:=fun b hb=>Deep.blk_setCell_other _ _ _ _ (by exact hb)
 have hk:KpB p n0 W (w3.setCell ⟨p,0,none⟩ (.slice (some ⟨g3,0,none⟩) ((hlP d pre).length+1) cp3)):=⟨by simpa using z3,fun b h1 h2'=>(os b h2').trans (hB b (by omega) (hrow b h1))⟩
 refine⟨⟨hp1.cell (i:=0) (by omega),hp1.frozen 0⟩,?_,hk,.slice (some ⟨g3,0,none⟩) ((hlP d pre).length+1) cp3,(hp1.set 0 _).congr (fun q hq=>by simp[show q=0 by omega]),?_,hkp.trans hk,?_⟩
 ·have hko:KeepsOthers W w3:=⟨z3,fun k o' hk' hc=>(hB k (Array.getElem?_eq_some_iff.1 hk').1 (fun e=>by
   obtain⟨c,hb⟩:=Rw.block hown e
   rw[hb]at hk'
   cases hk'
   cases hc)).trans hk'⟩
  exact hko.trans (KeepsOthers.setCell _ _ _)
 ·rw[hlP_yes hs]
  have hl:(hlP d pre++[x.1]).length=(hlP d pre).length+1:=by simp
  rw[hl]
  refine own_at ?_ (fun q e=>os q (by
   have e':g3=q:=by simpa[Value.ownBlock]using e
   omega))
  rw[eP_snoc]at h1
  exact h1
 ·exact(((hbw.trans (h2.mono hbw.size)).alloc (by have:=hbw.size;omega) _).grown hg (by have:=hbw.size;simp;omega) (fun k e=>by have:=(hown.lt k e).1;omega)).setCell (by show w.heap.size<=p;omega) _
def sizeX(n:Nat):Nat:=if n=0 then 0 else sizeFor n
theorem sizeX_le{n:Nat}(h:n<=500):sizeX n<=4000:=by
 unfold sizeX
 split
 ·omega
 ·exact(sizeFor_says h).2.2.1
theorem sizeX_room{n:Nat}(h:n<=500):4*n<=sizeX n:=by
 unfold sizeX
 split
 ·omega
 ·exact(sizeFor_says h).1
def HeldR(n0 bk p:Nat)(v:Value)(W:World):Prop:=W.cell? ⟨n0,0,none⟩=some (.pointer (some ⟨bk,0,none⟩))/\W.cell? ⟨p,0,none⟩=some v
def HeldK(n0 bk e:Nat)(k:Vl)(W:World):Prop:=W.cell? ⟨n0,0,none⟩=some (.pointer (some ⟨bk,0,none⟩))/\W.cell? ⟨e,0,none⟩=some (.int .i64 k.kind)/\W.cell? ⟨e,1,none⟩=some (.int .i64 k.num)/\W.cell? ⟨e,2,none⟩=some (.float .f64 k.flt)/\W.cell? ⟨e,3,none⟩=some (.string k.str)/\W.cell? ⟨e,4,none⟩=some (.int .i64 k.ref)
theorem indexEmpty_kx(bk:Nat)(r0 r1:Value)(R2:Nat)(E S:Nat->Nat)(d:Dc)(x:Nat)(w:World)(hM:BMut w bk r0 r1 R2 E S d)(hx:x<=4194304):
  Calls Tryz.prog 314 #[.pointer (some ⟨bk,2,none⟩),.int .i64 (x:Int)] w fun e w'=>((∃u,e=.returned u)/\BMut w' bk r0 r1 w.heap.size E S {d with x:=x,X:=fun _=>0,used:=0})/\KX (fun b=>b=bk) bk w w':=by
 have hlt:=hM.lt
 have c3:=hM.c3
 have c4:=hM.c4
 have f3:=hM.fz 3
 have f4:=hM.fz 4
 have mk:=make_ptrs Tryz.underlying326 infoSlot x hx
 have hP:Ptrs (w.alloc (.cells (madeCells (Value.pointer none).cells x) tSlt)) w.heap.size x tSlt (fun _=>none):=Ptrs.fresh w x tSlt
 have hN:=((hM.below ((Below.refl _ _).alloc (Nat.le_refl _) (.cells (madeCells (Value.pointer none).cells x) tSlt))).setSlots (Q2:=w.heap.size) (x:=x) (X:=fun _=>0) ((hP.own (B:=bk+1) (by omega) hx).congr (fun j hj=>by simp[sltP])) (fun j hj=>⟨fun h=>absurd h (Int.lt_irrefl 0),fun h=>absurd h (Int.lt_irrefl 0)⟩) (fun j hj h=>absurd rfl h)).setUsed 0
 rw[World.setCell_alloc_past _ _ _ _ hlt,World.setCell_alloc_past _ _ _ _ (by simpa using hlt)]at hN
 have HN:=uy hN
 have HB:Hid (∀o,KX (fun b=>b=bk) bk w (((w.setCell ⟨bk,3,none⟩ (.slice (some ⟨w.heap.size,0,none⟩) x x)).setCell ⟨bk,4,none⟩ (.int .i64 0)).alloc o)):=uy (fun o=>KX.alloc (n:=bk) (A:=w) (((KX.refl (fun b=>b=bk) _ _).setCell (Nat.le_refl _) (fun _=>rfl) _).setCell (Nat.le_refl _) (fun _=>rfl) _) (by omega) _)
 clear hM hP hN
 go_enter Tryz.func314,Tryz.ntmps314
 go_wp2
 go_end0
 exact⟨⟨⟨_,rfl⟩,uh HN⟩,uh HB _⟩
theorem remakeIndex_any(T:World->Prop)(hTl:Lasts T)(hf:Vl->Nat)(bk:Nat)(hTb:∀w w',T w->Below bk w w'->T w')(r0 r1:Value)(R2:Nat)(E S:Nat->Nat)(d:Dc)(g:Nat)(w:World)(hT:T w)(hM:BMut w bk r0 r1 R2 E S d)(hS:Small d)
  (hH:∀i,i<d.n->(d.L i).turn≠0->HsI T (d.L i).key (hf (d.L i).key)) (hlen:(hldL d d.n).length+g<=500):
  Calls Tryz.prog 306 #[.pointer (some ⟨bk,0,none⟩),.int .i64 (g:Int)] w fun e w'=>((∃u,e=.returned u)/\∃R2' S',BMut w' bk r0 r1 R2' E S' (fillL hf d (sizeX ((hldL d d.n).length+g)) (hldL d d.n))/\w.heap.size<=R2')/\KX (fun b=>b=bk) bk w w':=by
 obtain⟨i0,hi0,hz0,hz1,hz2⟩:=info_parts infoEnt
 have hdm:=hS.m
 have hdn:=hS.n
 have hbkw:=hM.lt
 refine(callsIn_wide (n:=20)).1 ?_
 refine callsIn_of_wp_marks Tryz.func306 rfl trivial ?_ rfl
 simp only[Tryz.ntmps306,List.size_toArray,List.length_cons,List.length_nil,Nat.reduceAdd,Nat.reduceSub,Array.replicate_succ,Array.replicate_zero,List.push_toArray,List.append_toArray,List.nil_append,List.cons_append]
 have HM:=uy hM
 have HS:=uy hS
 have HH:=uy hH
 have HL:=uy hlen
 have HT:=uy hT
 clear hM hS hH hlen hT
 gi_wp2_with fail
 refine⟨trivial,?_⟩
 refine(callsIn_wide.2 (living_any bk _)).mono ?_
 rintro e w4 ⟨rfl,rfl⟩
 gi_wp2_with fail
 obtain⟨u,hu⟩:∃u,u=((w.alloc (.cells #[.pointer (some ⟨bk,0,none⟩)] 289)).alloc (.cells #[.slice none 0 0] 324)).alloc (.cells #[.pointer (some ⟨bk,0,none⟩)] 289):=⟨_,rfl⟩
 try simp only[World.size_alloc]
 rw[<-hu]
 have zu:u.heap.size=w.heap.size+1+1+1:=by rw[hu];simp
 have bu:Below w.heap.size w u:=by rw[hu];exact(((Below.refl _ _).alloc (Nat.le_refl _) _).alloc (by simp) _).alloc (by simp;omega) _
 have mb0:u.cell? ⟨w.heap.size+1+1,0,none⟩=some (.pointer (some ⟨bk,0,none⟩)):=by rw[hu];simp[go_sem]
 have b0:u.cell? ⟨w.heap.size,0,none⟩=some (.pointer (some ⟨bk,0,none⟩)):=by rw[hu];simp[go_sem]
 have hpu:u.rowIs (w.heap.size+1) 324 1 (fun _=>.slice none 0 0):=by
  have h1:=World.rowIs_alloc (w.alloc (.cells #[.pointer (some ⟨bk,0,none⟩)] 289)) #[.slice none 0 0] 324 (fun _=>.slice none 0 0) (fun i hi=>by
   have:i=0:=by simpa using hi
   subst this
   rfl)
  rw[World.size_alloc]at h1
  refine World.rowIs.of_block h1 ?_
  rw[hu]
  exact Deep.blk_alloc_lt _ _ _ (by simp)
 clear hu
 have hMu:=(uh HM).below bu
 obtain⟨R0,R1,hBu⟩:=hMu.book
 have c0u:u.cell? ⟨w.heap.size+1,0,none⟩=some (.slice none 0 0):=hpu.cell (i:=0) (by omega)
 have hRp:0<d.n->R0<u.heap.size/\R0≠w.heap.size+1:=fun h0=>⟨hBu.l0,fun e=>by
  have:=hBu.r0 0 h0
  rw[e,c0u]at this
  cases this⟩
 have hEp:∀i,i<d.n->E i<u.heap.size/\E i≠w.heap.size+1:=fun i hi=>⟨(hBu.ent i hi).lt,fun e=>by
  have:=(hBu.ent i hi).k0
  rw[e,c0u]at this
  cases this⟩
 obtain⟨Q1,k1,e1⟩:=hMu.rf
 have c1u:u.cell? ⟨bk,1,none⟩=some (.slice (some ⟨Q1,0,none⟩) d.m k1):=by rw[hMu.c1,e1]
 clear c0u
 refine wpIn_rangeFunc_ownF rfl (by decide) (gf:=248) (lb:=#[.pointer (some ⟨w.heap.size+1+1,0,none⟩)]) rfl trivial (enters_of Tryz.func248 (by kernel_rfl) rfl)
  (living_stopsP 19 (by decide) bk R0 R1 R2 (w.heap.size+1+1) (w.heap.size+1) u.heap.size E S d u hBu (uh HS) hRp hEp mb0) KpB.trans (KpB.put (Nat.le_refl _)) (Below.refl _ _) (fun _=>rfl)
  (HdI w u (w.heap.size+1) u.heap.size E d)
  (fun c pre W=>False)
  (HdI.own w u (w.heap.size+1) u.heap.size u.heap.size E d (Nat.le_refl _) (Nat.le_refl _) (by omega))
  (fun c _ _ _ _ h=>h.elim)
  ⟨.slice none 0 0,hpu,World.ownsRow_nil _ _ _ _,KpB.refl _ _ _,bu⟩
  ?a1 ?assign ?body ?done ?stop
 case assign=>
  intro l x W K hK
  gi_wp2
  exact hK
 case stop=>
  rintro D c pre W hD hpre h hK
  exact h.elim
 case body=>
  rintro l pre ⟨i,hi,ht⟩ W ⟨v,hp,hown,hkp,hbw⟩ hlen
  have hblk:=hkp.block (E i) (hEp i hi).1 (hEp i hi).2
  obtain⟨hel,q0,q1,q2,q3,q4,_⟩:=(hBu.ent i hi).keep hkp.size hblk
  have cb:W.cell? ⟨w.heap.size,0,none⟩=some (.pointer (some ⟨bk,0,none⟩)):=(World.cell?_of_block (a:=⟨w.heap.size,0,none⟩) (hkp.block w.heap.size (by omega) (by omega))).trans b0
  have c1:W.cell? ⟨bk,1,none⟩=some (.slice (some ⟨Q1,0,none⟩) d.m k1):=(World.cell?_of_block (a:=⟨bk,1,none⟩) (hkp.block bk (by omega) (by omega))).trans c1u
  have zW:=hkp.size
  have lW:w.heap.size<W.heap.size:=by omega
  have lb:bk<W.heap.size:=by omega
  have HOW:=uy hown
  have HKP:=uy hkp
  have HBW:=uy hbw
  have HP:=uy hp
  have hpl:=hp.lt
  have HLE:=uy (hlP_le pre)
  clear hblk hown hkp hbw hp mb0
  by_cases hs:smallK d.m (d.L i).key
  ·have HSM:=uy (tells_yes hs)
   have HL':=uy (hlP_no (pre:=pre) (x:=⟨i,hi,ht⟩) hs)
   clear hs
   gi_wp2_with fail
   refine wpIn_region_quiet (C:=fun w'=>Below W.heap.size W w') (by kernel_rfl) (by kernel_rfl) (by kernel_rfl) ((Below.refl _ _).drew) ?_
   show wpQuiet _ _ _ _ [_,_,_,_,_,_,_,_,_,_,_,_] _
   iterate 4 (refine wpQuiet_step (fun K hK=>?_);go_simp;refine⟨_,fun w' hw'=>rfl,hK _ ?_⟩;clear hK K)
   iterate 2 (refine wpQuiet_step (fun K hK=>?_);go_simp;refine Exists.intro ?_ (And.intro (fun w' hw'=>?_) (hK _ ?_));rotate_left;obtain⟨hc',hf'⟩:=bcell hw';go_simp;first|rfl|exact⟨rfl,rfl⟩|exact⟨rfl⟩;clear hK K)
   iterate 2 (refine wpQuiet_step (fun K hK=>?_);go_simp;refine⟨_,fun w' hw'=>rfl,hK _ ?_⟩;clear hK K)
   (refine wpQuiet_step (fun K hK=>?_);go_simp;refine Exists.intro ?_ (And.intro (fun w' hw'=>?_) (hK _ ?_));rotate_left;obtain⟨hc',hf'⟩:=bcell hw';go_simp;first|rfl|exact⟨rfl,rfl⟩|exact⟨rfl⟩;clear hK K)
   (refine wpQuiet_step (fun K hK=>?_);go_simp;refine⟨_,fun w' hw'=>rfl,hK _ ?_⟩;clear hK K)
   refine wpQuiet_step (fun K hK=>?_)
   go_simp
   apply Exists.intro
   refine And.intro (fun w' hw'=>?_) (hK _ ?_)
   ·refine(((uh HSM)▸hasPlace_any (d.L i).key d.m _ hdm)).mono ?_
    rintro e w'' ⟨rfl,hb⟩
    exact⟨rfl,hw'.trans (hb.mono hw'.size)⟩
   clear hK K
   (refine wpQuiet_step (fun K hK=>?_);go_simp;refine⟨_,fun w' hw'=>rfl,hK _ ?_⟩;clear hK K)
   refine wpQuiet_nil ?_
   intro w2 hw2
   gi_wp2
   exact HdI.below ⟨v,uh HP,uh HOW,uh HKP,uh HBW⟩ hw2 (uh HL') (by omega) (Nat.le_refl _)
  ·have HSM:=uy (tells_no hs)
   have HNS:=uy hs
   clear hs
   gi_wp2_with fail
   refine wpIn_region_quiet (C:=fun w'=>Below W.heap.size W w') (by kernel_rfl) (by kernel_rfl) (by kernel_rfl) ((Below.refl _ _).drew) ?_
   show wpQuiet _ _ _ _ [_,_,_,_,_,_,_,_,_,_,_,_] _
   iterate 4 (refine wpQuiet_step (fun K hK=>?_);go_simp;refine⟨_,fun w' hw'=>rfl,hK _ ?_⟩;clear hK K)
   iterate 2 (refine wpQuiet_step (fun K hK=>?_);go_simp;refine Exists.intro ?_ (And.intro (fun w' hw'=>?_) (hK _ ?_));rotate_left;obtain⟨hc',hf'⟩:=bcell hw';go_simp;first|rfl|exact⟨rfl,rfl⟩|exact⟨rfl⟩;clear hK K)
   iterate 2 (refine wpQuiet_step (fun K hK=>?_);go_simp;refine⟨_,fun w' hw'=>rfl,hK _ ?_⟩;clear hK K)
   (refine wpQuiet_step (fun K hK=>?_);go_simp;refine Exists.intro ?_ (And.intro (fun w' hw'=>?_) (hK _ ?_));rotate_left;obtain⟨hc',hf'⟩:=bcell hw';go_simp;first|rfl|exact⟨rfl,rfl⟩|exact⟨rfl⟩;clear hK K)
   (refine wpQuiet_step (fun K hK=>?_);go_simp;refine⟨_,fun w' hw'=>rfl,hK _ ?_⟩;clear hK K)
   refine wpQuiet_step (fun K hK=>?_)
   go_simp
   apply Exists.intro
   refine And.intro (fun w' hw'=>?_) (hK _ ?_)
   ·refine(((uh HSM)▸hasPlace_any (d.L i).key d.m _ hdm)).mono ?_
    rintro e w'' ⟨rfl,hb⟩
    exact⟨rfl,hw'.trans (hb.mono hw'.size)⟩
   clear hK K
   (refine wpQuiet_step (fun K hK=>?_);go_simp;refine⟨_,fun w' hw'=>rfl,hK _ ?_⟩;clear hK K)
   refine wpQuiet_nil ?_
   intro w2 hw2
   have x2:w2.cell? ⟨w.heap.size+1,0,none⟩=some v:=(hw2.cell (p:=⟨w.heap.size+1,0,none⟩) hpl).trans ((uh HP).cell (i:=0) (by omega))
   have hown2:Rw w2 u.heap.size tEnt v (hlP d pre).length (eP E (hlP d pre)):=own_block (uh HOW) hw2.size (fun q _ hq=>hw2.block q hq)
   have z2:=hw2.size
   have hpl2:w.heap.size+1<w2.heap.size:=by omega
   have hle:=uh HLE
   have HAPP:Hid (∀(o:Obj) (v3:Value) (w3:World),w3.ownsRow u.heap.size tEnt 1 v3 ((hlP d pre).length+1) (ptL (eP E (hlP d pre)) (hlP d pre).length++[.pointer (some ⟨E i,0,none⟩)])->(w2.alloc o).grownBy w3 v.ownBlock->∃g3 cp3,v3=.slice (some ⟨g3,0,none⟩) ((hlP d pre).length+1) cp3/\(w3.cell? ⟨w.heap.size+1,0,none⟩=some v/\w3.frozen? ⟨w.heap.size+1,0,none⟩=false)/\KeepsOthers W (w3.setCell ⟨w.heap.size+1,0,none⟩ (.slice (some ⟨g3,0,none⟩) ((hlP d pre).length+1) cp3))/\KpB (w.heap.size+1) u.heap.size W (w3.setCell ⟨w.heap.size+1,0,none⟩ (.slice (some ⟨g3,0,none⟩) ((hlP d pre).length+1) cp3))/\HdI w u (w.heap.size+1) u.heap.size E d (pre++[⟨i,hi,ht⟩]) (w3.setCell ⟨w.heap.size+1,0,none⟩ (.slice (some ⟨g3,0,none⟩) ((hlP d pre).length+1) cp3))):=uy (fun o v3 w3 hown3 hgr3=>by
    obtain⟨g3,cp3,rfl⟩:∃g3 cp3,v3=.slice (some ⟨g3,0,none⟩) ((hlP d pre).length+1) cp3:=by
     obtain⟨_,⟨_,h0⟩|⟨g,cap,cur,hv,_⟩⟩:=hown3
     ·omega
     ·exact⟨g,cap,hv⟩
    exact⟨g3,cp3,rfl,HdI.add (x:=⟨i,hi,ht⟩) (uh HP) (uh HOW) (uh HKP) (uh HBW) hw2 hown3 hgr3 (by omega) (Nat.le_refl _) (by omega) (uh HNS)⟩)
   have HOW2:=uy hown2
   clear hown2 hw2
   gi_wp2_with (gi_at_builtin;refine wpListIn_append_own _ rfl _ _ 324 rfl u.heap.size tEnt i0 (.pointer none) 1 8 Tryz.underlying324 hi0 hz0 hz1 hz2 rfl (by decide) v (hlP d pre).length (ptL (eP E (hlP d pre)) (hlP d pre).length) rfl (World.ownsRow.alloc (uh HOW2) _) ⟨w2.heap.size,0,none⟩ 1 1 [.pointer (some ⟨E i,0,none⟩)] rfl rfl (World.news_of_block (Deep.blk_alloc_new _ _)) (by simp[Value.oneCell']) (by unfold maxLen;omega) (by omega) (by simp;omega) ?_;intro v3 w3 hown3 hgr3 _;obtain⟨g3,cp3,rfl,⟨x3,f3⟩,HN3⟩:=uh HAPP _ v3 w3 hown3 hgr3;clear hown3 hgr3)
   exact HN3
 case done=>
  rintro D ys W hD hlv ⟨v,hp,hown,hkp,hbw⟩ hK
  have hlv':ys.map (·.1)=livL d d.n:=hlv
  rw[hlP_all hlv']at hown
  obtain⟨va,vc,rfl⟩:=hown.slice
  have x0:=hp.cell (i:=0) (by omega)
  have zW:=hkp.size
  have cb:W.cell? ⟨w.heap.size,0,none⟩=some (.pointer (some ⟨bk,0,none⟩)):=(World.cell?_of_block (a:=⟨w.heap.size,0,none⟩) (hkp.block w.heap.size (by omega) (by omega))).trans b0
  have hln:=uh HL
  have hmem:∀q∈hldL d d.n,q<d.n/\(d.L q).turn≠0/\¬smallK d.m (d.L q).key:=fun q hq=>mem_hldL hq
  have HMEM:=uy hmem
  have HMW:=uy ((uh HM).below hbw)
  have HBW:=uy hbw
  have HOW:=uy hown
  have hsl:=sizeX_le hln
  have hsr:=sizeX_room hln
  have lW:w.heap.size<W.heap.size:=by omega
  have lW1:w.heap.size+1<W.heap.size:=by omega
  have lb:bk<W.heap.size:=by omega
  have hrow:∀q,(Value.slice va (hldL d d.n).length vc).ownBlock=some q->u.heap.size<=q/\q<W.heap.size:=fun q e=>hown.lt q e
  have HROW:=uy hrow
  generalize hHH:hldL d d.n=H at*
  have HHH:=uy hHH
  clear hHH
  have hw1:IntKind.i64.wrap ((H.length:Int)+(g:Int))=(H.length:Int)+(g:Int):=by rw[IntKind.wrap_i64];omega
  clear hlv hlv' hp hown hkp hbw hmem hrow mb0 b0 c1u hMu hBu hpu hRp hEp bu
  have HIS:Hid (∀W',Calls Tryz.prog 315 #[.int .i64 ((H.length:Int)+(g:Int))] W' fun e w'=>e=.returned (.int .i64 (sizeX (H.length+g):Nat))/\Below W'.heap.size W' w'):=uy (fun W'=>by
   have h1:=indexSize_any (H.length+g) W' hln
   rw[Int.natCast_add]at h1
   exact h1)
  gi_wp2_with fail
  refine wpInW_held (HeldR w.heap.size bk (w.heap.size+1) (.slice va H.length vc)) (by kernel_rfl) ?_
  change wpAnyH _ _ _ _ _ _ _ _ (World.drew _)
  have hS0:HeldR w.heap.size bk (w.heap.size+1) (.slice va H.length vc) W.drew:=⟨cb,x0⟩
  refine tq 0 (v:=?_) ?_ ?_;rotate_left;intro w' ⟨s0,s1⟩;go_simp;try with_reducible rfl
  simp only[Act.put,sA,sB,sC]
  refine tq 1 (v:=?_) ?_ ?_;rotate_left;intro w' ⟨s0,s1⟩;go_simp;try with_reducible rfl
  simp only[Act.put,sA,sB,sC]
  refine tq 2 (v:=?_) ?_ ?_;rotate_left;intro w' ⟨s0,s1⟩;go_simp;try with_reducible rfl
  simp only[Act.put,sA,sB,sC]
  refine tq 3 (v:=?_) ?_ ?_;rotate_left;intro w' ⟨s0,s1⟩;go_simp;try with_reducible rfl
  simp only[Act.put,sA,sB,sC]
  refine tq 4 (v:=?_) ?_ ?_;rotate_left;intro w' ⟨s0,s1⟩;go_simp;try with_reducible rfl
  simp only[Act.put,sA,sB,sC]
  refine tq 5 (v:=?_) ?_ ?_;rotate_left;intro w' ⟨s0,s1⟩;go_simp;try with_reducible rfl
  simp only[Act.put,sA,sB,sC]
  refine tq 6 (v:=?_) ?_ ?_;rotate_left;intro w' ⟨s0,s1⟩;go_simp;try with_reducible rfl
  simp only[Act.put,sA,sB,sC]
  refine wpAnyH_ready (rs:=[7]) (by kernel_rfl) (by simp) ?_
  refine AllReadyH.cons rfl (fun K hK=>?_) AllReadyH.nil
  go_simp
  refine(uh HIS _).mono ?_
  rintro e w1 ⟨rfl,hb1⟩
  have hb1:Below W.heap.size W w1:=(Below.refl W.heap.size W).drew.trans hb1
  have cb1:=(hb1.cell (p:=⟨w.heap.size,0,none⟩) lW).trans cb
  have x1:=(hb1.cell (p:=⟨w.heap.size+1,0,none⟩) lW1).trans x0
  refine hK.out _ _ ⟨cb1,x1⟩ (fun hS1=>?_)
  clear hK K hS0
  have z1:=hb1.size
  generalize hsx:sizeX (H.length+g)=sx at*
  have HSX:=uy hsx
  clear hsx
  refine wpAnyH_ready (rs:=[8]) (by kernel_rfl) (by simp) ?_
  refine AllReadyH.cons rfl (fun K hK=>?_) AllReadyH.nil
  go_simp
  refine(indexEmpty_kx bk r0 r1 R2 E S d sx w1 ((uh HMW).below hb1) (by omega)).mono ?_
  rintro e w2 ⟨⟨⟨uu,rfl⟩,hM2⟩,hkx⟩
  have z2:=hkx.bel.size
  have cb2:=(World.cell?_of_block (a:=⟨w.heap.size,0,none⟩) (hkx.blk w.heap.size (by omega) (by omega))).trans cb1
  have x2:=(World.cell?_of_block (a:=⟨w.heap.size+1,0,none⟩) (hkx.blk (w.heap.size+1) (by omega) (by omega))).trans x1
  refine hK.out _ _ ⟨cb2,x2⟩ (fun hS2=>?_)
  clear hK K hS1 cb1 x1 cb x0
  refine wpAnyH_done (by kernel_rfl) ?_ _
  refine QN.normal ?_
  have HKX:Hid (KX (fun b=>b=bk) bk w w2):=uy (((KX.of_below (uh HBW) (by omega)).trans (KX.of_below hb1 (by omega))).trans hkx)
  have HBLK:Hid (∀b,b<W.heap.size->b≠bk->w2.heap[b]?=W.heap[b]?):=uy (fun b hb hne=>(hkx.blk b (by omega) hne).trans (hb1.block b hb))
  have hDW:D<W.heap.size:=(Array.getElem?_eq_some_iff.1 hK).1
  have hK2:w2.heap[D]?=some (.deferred (some [])):=(uh HBLK D (Array.getElem?_eq_some_iff.1 hK).1 (by omega)).trans hK
  have HM2:=uy hM2
  clear hb1 hM2 hkx hS2 hK
  gi_wp2
  gi_loopw [38] (fun i wr=>∃(j:Nat) (S':Nat->Nat),j<=H.length/\i=.int .i64 (j:Int)/\BMut wr bk r0 r1 w1.heap.size E S' (fillL hf d sx (H.take j))/\KX (fun b=>b=bk\/b=w1.heap.size) bk w2 wr) (fun i _=>H.length-(intOf i).toNat)
  case atStart=>exact⟨0,S,by omega,rfl,uh HM2,KX.refl _ _ _⟩
  case round=>
   obtain⟨j,S',hj,rfl,hMr,hkr⟩:=hrel
   by_cases hjn:j<H.length
   ·obtain⟨p,hp⟩:∃p,p=H[j]:=⟨_,rfl⟩
    obtain⟨hp1,hp2,hp3⟩:=uh HMEM H[j] (List.getElem_mem hjn)
    rw[<-hp]at hp1 hp2
    have hfo:=fillL_ok (hf:=hf) (d:=d) (x:=sx) (l:=H.take j) (by simp;omega) (fun p hp=>(uh HMEM p (List.mem_of_mem_take hp)).1)
    rw[List.length_take,Nat.min_eq_left (by omega)]at hfo
    have hnx:fillL hf d sx (H.take (j+1))=enterD hf (fillL hf d sx (H.take j)) (d.L p).key p:=by rw[<-List.take_append_getElem hjn,fillL_snoc,<-hp]
    obtain⟨gq,cq,eq,g1,g2,_,hqc,_⟩:=(uh HOW).form (by omega)
    cases eq
    have hb:=fun b (h:b<W.heap.size) (h':b≠bk)=>(hkr.blk b (by omega) (by rintro(e|e)<;>omega)).trans (uh HBLK b h h')
    have rc:wr.cell? ⟨gq,j,none⟩=some (.pointer (some ⟨E p,0,none⟩)):=(World.cell?_of_block (a:=⟨gq,j,none⟩) (hb gq g2 (by omega))).trans (by rw[hqc j hjn,hp];simp[eP,List.getD,hjn])
    have cbr:wr.cell? ⟨w.heap.size,0,none⟩=some (.pointer (some ⟨bk,0,none⟩)):=(World.cell?_of_block (a:=⟨w.heap.size,0,none⟩) (hkr.blk w.heap.size (by omega) (by rintro(e|e)<;>omega))).trans cb2
    have hen:=hMr.ent p (by rw[hfo.n];exact hp1)
    rw[hfo.L]at hen
    have hzr:=hkr.bel.size
    have hlr:=hen.lt
    have lgr:gq<wr.heap.size:=by omega
    have lwr:w.heap.size<wr.heap.size:=by omega
    have lbr:bk<wr.heap.size:=by omega
    have HADD:Hid (Calls Tryz.prog 307 #[.pointer (some ⟨bk,2,none⟩),V (d.L p).key.kind (d.L p).key.num (d.L p).key.flt (d.L p).key.str (d.L p).key.ref,.pointer (some ⟨E p,0,none⟩)] wr.drew fun e w5=>(∃u,e=.returned u)/\(∃S5,BMut w5 bk r0 r1 w1.heap.size E S5 (fillL hf d sx (H.take (j+1))))/\KX (fun b=>b=bk\/b=w1.heap.size) bk w2 w5/\HeldK w.heap.size bk (E p) (d.L p).key w5):=uy (by
     have hux:=hfo.use
     have huu:=hfo.used
     refine(indexAdd_any T hTl bk r0 r1 w1.heap.size E S' _ (d.L p).key p (hf (d.L p).key) (uh HH p hp1 hp2) wr.drew (hTb _ _ (uh HT) (((uh HKX).bel.trans hkr.bel).drew)) (hMr.below (Below.refl _ _).drew) ⟨by rw[hfo.n];omega,by rw[hfo.m];omega,by rw[hfo.x];omega⟩ (fun q hq=>by rw[hfo.x]at hq;have:=hfo.pos q hq;omega) (by rw[hfo.L]) (by rw[hfo.x];omega) (by omega) (by omega)).mono ?_
     rintro e w5 ⟨⟨hu,a5,S5,hfs,hN5⟩,hkx5⟩
     rw[<-enterD_some hfs,<-hnx]at hN5
     have hk5:KX (fun b=>b=bk\/b=w1.heap.size) bk w2 w5:=hkr.trans (KX.trans ((KX.refl _ _ _).drew) hkx5)
     have hfo5:=fillL_ok (hf:=hf) (d:=d) (x:=sx) (l:=H.take (j+1)) (by simp;omega) (fun p hp=>(uh HMEM p (List.mem_of_mem_take hp)).1)
     have hen5:=hN5.ent p (by rw[hfo5.n];exact hp1)
     rw[hfo5.L]at hen5
     exact⟨hu,⟨S5,hN5⟩,hk5,(World.cell?_of_block (a:=⟨w.heap.size,0,none⟩) (hk5.blk w.heap.size (by omega) (by rintro(e|e)<;>omega))).trans cb2,hen5.k0,hen5.k1,hen5.k2,hen5.k3,hen5.k4⟩)
    have hS0:HeldK w.heap.size bk (E p) (d.L p).key wr.drew:=⟨cbr,hen.k0,hen.k1,hen.k2,hen.k3,hen.k4⟩
    clear hfo hnx hqc hb hen hMr hkr cbr hp
    gi_wp2_with fail
    refine wpInW_held (HeldK w.heap.size bk (E p) (d.L p).key) (by kernel_rfl) ?_
    change wpAnyH _ _ _ _ _ _ _ _ (World.drew _)
    refine tq 0 (v:=?_) ?_ ?_;rotate_left;intro w' ⟨s0,s1,s2,s3,s4,s5⟩;go_simp;try with_reducible rfl
    simp only[Act.put,sA,sB,sC]
    refine tq 1 (v:=?_) ?_ ?_;rotate_left;intro w' ⟨s0,s1,s2,s3,s4,s5⟩;go_simp;try with_reducible rfl
    simp only[Act.put,sA,sB,sC]
    refine tq 2 (v:=?_) ?_ ?_;rotate_left;intro w' ⟨s0,s1,s2,s3,s4,s5⟩;go_simp;try with_reducible rfl
    simp only[Act.put,sA,sB,sC]
    refine tq 3 (v:=?_) ?_ ?_;rotate_left;intro w' ⟨s0,s1,s2,s3,s4,s5⟩;go_simp;try with_reducible rfl
    simp only[Act.put,sA,sB,sC]
    refine tq 4 (v:=?_) ?_ ?_;rotate_left;intro w' ⟨s0,s1,s2,s3,s4,s5⟩;go_simp;try with_reducible rfl
    simp only[Act.put,sA,sB,sC]
    refine tq 5 (v:=?_) ?_ ?_;rotate_left;intro w' ⟨s0,s1,s2,s3,s4,s5⟩;go_simp;try with_reducible rfl
    simp only[Act.put,sA,sB,sC]
    refine tq 6 (v:=?_) ?_ ?_;rotate_left;intro w' ⟨s0,s1,s2,s3,s4,s5⟩;go_simp;try with_reducible rfl
    simp only[Act.put,sA,sB,sC]
    refine tq 7 (v:=?_) ?_ ?_;rotate_left;intro w' ⟨s0,s1,s2,s3,s4,s5⟩;go_simp;try with_reducible rfl
    simp only[Act.put,sA,sB,sC]
    refine tq 8 (v:=?_) ?_ ?_;rotate_left;intro w' ⟨s0,s1,s2,s3,s4,s5⟩;go_simp;try with_reducible rfl
    simp only[Act.put,sA,sB,sC]
    refine wpAnyH_ready (rs:=[9]) (by kernel_rfl) (by simp) ?_
    refine AllReadyH.cons rfl (fun K hK=>?_) AllReadyH.nil
    go_simp
    refine(uh HADD).mono ?_
    rintro e w5 ⟨⟨uu5,rfl⟩,⟨S5,hM5⟩,hk5,hS5⟩
    refine hK.out _ _ hS5 (fun _=>?_)
    clear hK K hS0 HADD hS5
    refine wpAnyH_done (by kernel_rfl) ?_ _
    refine QN.normal ?_
    have HM5:=uy hM5
    have HK5:=uy hk5
    clear hM5 hk5
    gi_wp2
    go_roundw
    case rel=>exact⟨j+1,S5,by omega,by go_num,uh HM5,uh HK5⟩
    case measure=>simp[intOf];omega
   ·have hj':j=H.length:=by omega
    subst hj'
    rw[List.take_length]at hMr
    have hKr:wr.heap[D]?=some (.deferred (some [])):=(hkr.blk D (by omega) (by rintro(e|e)<;>omega)).trans hK2
    have HMr:=uy hMr
    have HKr:Hid (KX (fun b=>b=bk) bk w wr):=uy ⟨(uh HKX).bel.trans hkr.bel,fun b hb hm=>(hkr.blk b (by have:=(uh HKX).bel.size;omega) (by rintro(e|e);exact hm e;omega)).trans ((uh HKX).blk b hb hm)⟩
    clear hMr hkr
    gi_wp2
    refine⟨by simp,.inl ⟨_,_,rfl,run_takeDeferred hKr,?_⟩⟩
    have hg:=grownBy_putObj' wr D (.deferred none)
    exact⟨_,results_none rfl _ _ _,⟨⟨_,rfl⟩,w1.heap.size,S',by rw[uh HHH,uh HSX];exact(uh HMr).grown hg (fun r e=>by cases e;exact⟨_,hKr,rfl⟩),by omega⟩,(uh HKr).grown hg (by omega) (fun k e=>by cases e;exact .inl (by omega))⟩
end
section
open Go.RowKit Go.Shelf
attribute [local go_sem] run_store_float run_equalIn_float Oper.semAt_some
theorem ECell.of_ob{w:World}{b:Nat}{p:Pr}{i:Nat}(h:w.heap[b]?=some (.cells (entA p i) 294 (0,0))):ECell w b p i:=
 ⟨(Array.getElem?_eq_some_iff.1 h).1,by simp[World.cell?,h,entA],by simp[World.cell?,h,entA],by simp[World.cell?,h,entA],by simp[World.cell?,h,entA],by simp[World.cell?,h,entA],by simp[World.cell?,h,entA],by simp[World.cell?,h,entA],by simp[World.cell?,h,entA],by simp[World.cell?,h,entA],by simp[World.cell?,h,entA],by simp[World.cell?,h,entA],by simp[World.cell?,h,entA],h⟩
theorem ECell.setPlace{w:World}{b:Nat}{p:Pr}{i:Nat}(h:ECell w b p i)(j:Nat):ECell (w.setCell ⟨b,11,none⟩ (.int .i64 (j:Int))) b p j:=
 ECell.of_ob ((heap_setCell_same w b 11 _ _ _ h.ob).trans (by simp[entA]))
structure KpE (p n0:Nat) (E:Nat->Nat) (n:Nat) (A B:World):Prop where
 size:A.heap.size<=B.heap.size
 block:∀b,b<n0->b≠p->(∀i,i<n->E i≠b)->B.heap[b]?=A.heap[b]?
 ent:∀i q,i<n->q≠11->B.cell? ⟨E i,q,none⟩=A.cell? ⟨E i,q,none⟩
theorem KpE.refl(p n0:Nat)(E:Nat->Nat)(n:Nat)(A:World):KpE p n0 E n A A:=⟨Nat.le_refl _,fun _ _ _ _=>rfl,fun _ _ _ _=>rfl⟩
theorem KpE.trans{p n0:Nat}{E:Nat->Nat}{n:Nat}{A B C:World}(h:KpE p n0 E n A B)(k:KpE p n0 E n B C):KpE p n0 E n A C:=⟨Nat.le_trans h.size k.size,fun b h1 h2 h3=>(k.block b h1 h2 h3).trans (h.block b h1 h2 h3),fun i q h1 h2=>(k.ent i q h1 h2).trans (h.ent i q h1 h2)⟩
theorem KpE.of_below{p n0:Nat}{E:Nat->Nat}{n:Nat}{A B:World}(h:Below n0 A B)(hE:∀i,i<n->E i<n0):KpE p n0 E n A B:=⟨h.size,fun b h1 _ _=>h.block b h1,fun i q h1 _=>h.cell (p:=⟨E i,q,none⟩) (hE i h1)⟩
theorem KpE.put{p n0:Nat}{E:Nat->Nat}{n:Nat}{w:World}(hn:n0<=w.heap.size)(hE:∀i,i<n->E i<n0)(W:World)(l:Nat)(o o':Obj)(hl:w.heap.size<=l)(h:W.heap[l]?=some o)(_:o.isCells=false)(_:o.isWalk=false):KpE p n0 E n W (W.putObj l o'):=
 KpE.of_below ((Below.refl n0 W).grown (grownBy_putObj' W l o') (by have:=(Array.getElem?_eq_some_iff.1 h).1;omega) (fun k e=>by cases e;omega)) hE
theorem living_stopsE(n:Nat)(hn:1<=n)(bk R0 R1 R2 mb p n0:Nat)(E S:Nat->Nat)(d:Dc)(w:World)(hB:Book w bk R0 R1 R2 E S d)(hS:Small d)(hR:0<d.n->R0<n0/\R0≠p/\∀i,i<d.n->E i≠R0)
  (m0:w.cell? ⟨mb,0,none⟩=some (.pointer (some ⟨bk,0,none⟩))):
  SeqStopsK Fence.wide n Tryz.prog 248 #[.pointer (some ⟨mb,0,none⟩)] (fun a:Liv d=>#[.pointer (some ⟨E a.1,0,none⟩)]) (KpE p n0 E d.n)
   (LvAll d) (LvPre d) d.n w:=fun l J Jx W hW hJ hJx hY h0=>by
 have lm:=World.block_lt_of_cell? _ _ m0
 have m0:=(hW.cell (p:=⟨mb,0,none⟩) lm).trans m0
 have hBk:=hB.below hW
 obtain⟨a0,k0,c0,ha0⟩:=hBk.c0
 have HA0:=uy ha0
 clear ha0
 have lb:=hBk.lt
 have hnn:=hS.n
 have HY:=uy hY
 have H0:=uy h0
 have HBk:=uy hBk
 clear hJx hJ hY hW h0 hBk hB hS
 refine callsIn_of_wp Tryz.func248 rfl trivial ?_ rfl
 simp only[Tryz.ntmps248,List.size_toArray,List.length_cons,List.length_nil,Nat.reduceAdd,Nat.reduceSub,Array.replicate_succ,Array.replicate_zero,List.push_toArray,List.append_toArray,List.nil_append,List.cons_append]
 gi_wp2
 gi_loopw [10] (fun i wr=>∃(k:Nat) (pre:List (Liv d)),k<=d.n/\i=.int .i64 (k:Int)/\LvTo d k pre/\J pre wr/\KpE p n0 E d.n W wr) (fun i _=>d.n-(intOf i).toNat)
 case atStart=>exact⟨0,[],by omega,rfl,rfl,uh H0,KpE.refl _ _ _ _ _⟩
 case round=>
  obtain⟨k,pre,hk,rfl,hlv,hJp,hbw⟩:=hrel
  by_cases hkn:k<d.n
  ·obtain rfl:=uh HA0 (by omega)
   have hR':=hR (by omega)
   have p0:=(World.cell?_of_block (a:=⟨R0,k,none⟩) (hbw.block _ hR'.1 hR'.2.1 hR'.2.2)).trans ((uh HBk).r0 k hkn)
   have t0:=(hbw.ent k 10 hkn (by decide)).trans ((uh HBk).ent k hkn).tn
   have HLV:=uy hlv
   have HBW:=uy hbw
   clear hlv hbw hR'
   by_cases ht:(d.L k).turn=0
   ·have HN:Hid (LvTo d (k+1) pre):=uy (by unfold LvTo;rw[livL_dead ht];exact uh HLV)
    rw[ht]at t0
    clear ht
    gi_wp2
    refine⟨fun _ h=>(by cases h),?_⟩
    gi_wp2
    go_roundw
    case rel=>exact⟨k+1,pre,by omega,by go_num,uh HN,hJp,uh HBW⟩
    case measure=>simp[intOf];omega
   ·have ht':((d.L k).turn !=0)=true:=by simp[ht]
    obtain⟨fn,tmps,assign,body,hy,hRR⟩:=uh HY pre ⟨k,hkn,ht⟩ wr hJp (by
     have h1:(pre.map (·.1)).length=(livL d k).length:=congrArg List.length (uh HLV)
     rw[List.length_map]at h1
     have:=livL_le d k
     omega)
    have HN:Hid (LvTo d (k+1) (pre++[⟨k,hkn,ht⟩])):=uy (by
     unfold LvTo
     rw[livL_live ht,List.map_append,show pre.map (·.1)=livL d k from uh HLV]
     rfl)
    have HR:=uy hRR
    clear hRR hJp
    dsimp only at hy
    gi_wp2
    refine(uh HR).mono ?_
    rintro e W3 (⟨rfl,hJ3,hk3⟩|⟨rfl,hJx3⟩)
    ·clear HR hy
     gi_wp2
     go_roundw
     case rel=>exact⟨k+1,_,by omega,by go_num,uh HN,hJ3,(uh HBW).trans hk3⟩
     case measure=>simp[intOf];omega
    ·clear HR hy
     gi_wp2
     refine bodyPost_ret (results_none rfl _ _ _) rfl ?_
     exact⟨⟨_,rfl⟩,.inr ⟨_,(uh HN).pre (by omega),hJx3⟩⟩
  ·have hkn':k=d.n:=by omega
   subst hkn'
   have HS:=uy hlv
   clear hlv
   gi_wp2
   go_end0
   exact⟨⟨_,rfl⟩,.inl ⟨pre,uh HS,hJp⟩⟩
end
section
open Go.RowKit
attribute [local go_sem] run_store_float run_equalIn_float
noncomputable def roomB(hf:Vl->Nat)(d:Dc):Dc:=if(d.x:Int)<2*(d.used+1)then fillL hf d (sizeX ((hldL d d.n).length+1)) (hldL d d.n)else d
def HeldE(e:Nat)(k:Vl)(W:World):Prop:=W.cell? ⟨e,0,none⟩=some (.int .i64 k.kind)/\W.cell? ⟨e,1,none⟩=some (.int .i64 k.num)/\W.cell? ⟨e,2,none⟩=some (.float .f64 k.flt)/\W.cell? ⟨e,3,none⟩=some (.string k.str)/\W.cell? ⟨e,4,none⟩=some (.int .i64 k.ref)
theorem addToIndex_any(T:World->Prop)(hTl:Lasts T)(hf:Vl->Nat)(bk:Nat)(hTb:∀w w',T w->Below bk w w'->T w')(r0 r1:Value)(R2:Nat)(E S:Nat->Nat)(d:Dc)(w:World)(hT:T w)(hM:BMut w bk r0 r1 R2 E S d)(hS:Small d)
  (hH:∀i,i<d.n->(d.L i).turn≠0->HsI T (d.L i).key (hf (d.L i).key)) (hlen:(hldL d d.n).length+1<=500) (he:ECell w (E d.n) (d.L d.n) d.n) (heb:bk<E d.n) (hk:HsI T (d.L d.n).key (hf (d.L d.n).key))
  (hX:∀j,j<d.x->d.X j=0\/d.X j=-1\/0<d.X j) (hu:(useN d.X d.x:Int)=d.used):
  Calls Tryz.prog 296 #[.pointer (some ⟨bk,0,none⟩),.pointer (some ⟨E d.n,0,none⟩)] w fun e w'=>((∃u,e=.returned u)/\∃R2' S',BMut w' bk r0 r1 R2' E S' (enterD hf (roomB hf d) (d.L d.n).key d.n))/\KX (fun b=>b=bk\/b=R2) bk w w':=by
 have hlt:=hM.lt
 have c3:=hM.c3
 have c4:=hM.c4
 have hx:=hS.x
 have hul:useN d.X d.x<=d.x:=useN_le _ _
 have hw1:IntKind.i64.wrap (d.used+1)=d.used+1:=by rw[IntKind.wrap_i64];omega
 have hw2:IntKind.i64.wrap (2*(d.used+1))=2*(d.used+1):=by rw[IntKind.wrap_i64];omega
 obtain⟨c2,hbR⟩:=hM.slots.block (b:=R2) rfl
 have heR:E d.n≠R2:=fun e=>type_apart (e▸he.ob) hbR (by decide)
 have hR2:=hM.r2_lt
 have ADD:∀(W:World) (Q2:Nat) (S2:Nat->Nat) (c:Dc),BMut W bk r0 r1 Q2 E S2 c->Small c->T W->ECell W (E d.n) (d.L d.n) d.n->c.n=d.n->c.L=d.L->(∀j,j<c.x->c.X j=0\/c.X j=-1\/0<c.X j)->useN c.X c.x<c.x->0<=c.used->c.used<=4194304->
   Calls Tryz.prog 307 #[.pointer (some ⟨bk,2,none⟩),V (d.L d.n).key.kind (d.L d.n).key.num (d.L d.n).key.flt (d.L d.n).key.str (d.L d.n).key.ref,.pointer (some ⟨E d.n,0,none⟩)] W fun e w'=>((∃u,e=.returned u)/\∃S',BMut w' bk r0 r1 Q2 E S' (enterD hf c (d.L d.n).key d.n))/\KX (fun b=>b=bk\/b=Q2) bk W w':=fun W Q2 S2 c h1 h2 h3 h4 h5 h6 h7 h8 h9 h10=>by
  refine(indexAdd_any T hTl bk r0 r1 Q2 E S2 c (d.L d.n).key d.n (hf (d.L d.n).key) hk W h3 h1 h2 h7 (by rw[h6]) h8 h9 h10).mono ?_
  rintro e w' ⟨⟨hr,a,S',hfs,hN⟩,hkx⟩
  refine⟨⟨hr,S',?_⟩,hkx⟩
  rw[enterD_some hfs]
  exact hN
 by_cases hr:(d.x:Int)<2*(d.used+1)
 ·have hd:decide ((d.x:Int)<2*(d.used+1))=true:=by simpa using hr
  have HR:Hid (roomB hf d=fillL hf d (sizeX ((hldL d d.n).length+1)) (hldL d d.n)):=uy (if_pos hr)
  have hsl:=sizeX_le hlen
  have hsr:=sizeX_room hlen
  have hfl:=fillL_ok (hf:=hf) (d:=d) (x:=sizeX ((hldL d d.n).length+1)) (l:=hldL d d.n) (by omega) (fun p hp=>(mem_hldL hp).1)
  have HREM:Hid (∀W,Below w.heap.size w W->Calls Tryz.prog 306 #[.pointer (some ⟨bk,0,none⟩),.int .i64 1] W fun e w'=>((∃u,e=.returned u)/\∃R2' S',BMut w' bk r0 r1 R2' E S' (fillL hf d (sizeX ((hldL d d.n).length+1)) (hldL d d.n))/\W.heap.size<=R2')/\KX (fun b=>b=bk) bk W w'):=uy (fun W hW=>remakeIndex_any T hTl hf bk hTb r0 r1 R2 E S d 1 W (hTl _ _ hT hW) (hM.below hW) hS hH hlen)
  generalize fillL hf d (sizeX ((hldL d d.n).length+1)) (hldL d d.n)=c at*
  have HADD:=uy ADD
  have HE:=uy he
  have HT:=uy hT
  have HFL:=uy hfl
  have HS:=uy hS
  have HH:=uy hH
  have hel:=he.lt
  clear ADD he hM hT hfl hS hH hX hu hul hbR hr
  go_enter Tryz.func296,Tryz.ntmps296
  go_wp2_with fail
  go_region
  go_wp2_with fail
  refine(uh HREM _ (Below.refl _ _).drew).mono ?_
  rintro e w1 ⟨⟨⟨uu,rfl⟩,Q2,S1,hM1,hQ2⟩,hkx1⟩
  have hkx1:KX (fun b=>b=bk) bk w w1:=(KX.refl _ _ _).drew.trans hkx1
  have hQ2:w.heap.size<=Q2:=hQ2
  have z1:=hkx1.bel.size
  have hE1:ECell w1 (E d.n) (d.L d.n) d.n:=(uh HE).keep z1 (hkx1.blk _ hel (by omega))
  have hS0:HeldE (E d.n) (d.L d.n).key w1.drew:=⟨hE1.k0,hE1.k1,hE1.k2,hE1.k3,hE1.k4⟩
  have HADD1:Hid (Calls Tryz.prog 307 #[.pointer (some ⟨bk,2,none⟩),V (d.L d.n).key.kind (d.L d.n).key.num (d.L d.n).key.flt (d.L d.n).key.str (d.L d.n).key.ref,.pointer (some ⟨E d.n,0,none⟩)] w1.drew fun e w'=>((∃u,e=.returned u)/\∃S',BMut w' bk r0 r1 Q2 E S' (enterD hf c (d.L d.n).key d.n))/\HeldE (E d.n) (d.L d.n).key w'/\KX (fun b=>b=bk\/b=R2) bk w w'):=uy (by
   have hfo:=uh HFL
   have hux:=hfo.use
   have huu:=hfo.used
   have hSm:=uh HS
   refine(uh HADD w1.drew Q2 S1 c (hM1.below (Below.refl _ _).drew) ⟨by rw[hfo.n];exact hSm.n,by rw[hfo.m];exact hSm.m,by rw[hfo.x];omega⟩ (hTb _ _ (uh HT) hkx1.bel.drew) (hE1.keep (Nat.le_refl _) rfl) hfo.n hfo.L (fun j hj=>by rw[hfo.x]at hj;have:=hfo.pos j hj;omega) (by rw[hfo.x];omega) (by omega) (by omega)).mono ?_
   rintro e w' ⟨h1,h2⟩
   have h3:=h2.blk (E d.n) hE1.lt (by rintro(e|e)<;>omega)
   have hE2:=hE1.keep h2.bel.size h3
   exact⟨h1,⟨hE2.k0,hE2.k1,hE2.k2,hE2.k3,hE2.k4⟩,hkx1.bel.trans (Below.trans (Below.refl _ _).drew h2.bel),fun b hb hm=>(h2.blk b (by show b<w1.heap.size;omega) (by rintro(e|e);exact hm (.inl e);omega)).trans (hkx1.blk b hb (fun e=>hm (.inl e)))⟩)
  clear hM1 hkx1 hE1 HREM
  go_wp2_with fail
  refine wpN_held (HeldE (E d.n) (d.L d.n).key) (by kernel_rfl) ?_
  change wpAnyH _ _ _ _ _ _ _ _ (World.drew _)
  refine tq 0 (v:=?_) ?_ ?_;rotate_left;intro w' ⟨s0,s1,s2,s3,s4⟩;go_simp;try with_reducible rfl
  simp only[Act.put,sA,sB,sC]
  refine tq 1 (v:=?_) ?_ ?_;rotate_left;intro w' ⟨s0,s1,s2,s3,s4⟩;go_simp;try with_reducible rfl
  simp only[Act.put,sA,sB,sC]
  refine tq 2 (v:=?_) ?_ ?_;rotate_left;intro w' ⟨s0,s1,s2,s3,s4⟩;go_simp;try with_reducible rfl
  simp only[Act.put,sA,sB,sC]
  refine tq 3 (v:=?_) ?_ ?_;rotate_left;intro w' ⟨s0,s1,s2,s3,s4⟩;go_simp;try with_reducible rfl
  simp only[Act.put,sA,sB,sC]
  refine tq 4 (v:=?_) ?_ ?_;rotate_left;intro w' ⟨s0,s1,s2,s3,s4⟩;go_simp;try with_reducible rfl
  simp only[Act.put,sA,sB,sC]
  refine tq 5 (v:=?_) ?_ ?_;rotate_left;intro w' ⟨s0,s1,s2,s3,s4⟩;go_simp;try with_reducible rfl
  simp only[Act.put,sA,sB,sC]
  refine tq 6 (v:=?_) ?_ ?_;rotate_left;intro w' ⟨s0,s1,s2,s3,s4⟩;go_simp;try with_reducible rfl
  simp only[Act.put,sA,sB,sC]
  refine tq 7 (v:=?_) ?_ ?_;rotate_left;intro w' ⟨s0,s1,s2,s3,s4⟩;go_simp;try with_reducible rfl
  simp only[Act.put,sA,sB,sC]
  refine tq 8 (v:=?_) ?_ ?_;rotate_left;intro w' ⟨s0,s1,s2,s3,s4⟩;go_simp;try with_reducible rfl
  simp only[Act.put,sA,sB,sC]
  refine wpAnyH_ready (rs:=[9]) (by kernel_rfl) (by simp) ?_
  refine AllReadyH.cons rfl (fun K hK=>?_) AllReadyH.nil
  go_simp
  refine(uh HADD1).mono ?_
  rintro e w2 ⟨⟨⟨uu2,rfl⟩,S2,hM2⟩,hS2,hkx2⟩
  refine hK.out _ _ hS2 (fun _=>?_)
  clear hK K hS0 HADD1 hS2
  refine wpAnyH_done (by kernel_rfl) ?_ _
  refine QN.normal ?_
  go_wp2
  go_end0
  exact⟨⟨⟨_,rfl⟩,Q2,S2,by rw[uh HR];exact hM2⟩,hkx2⟩
 ·have hd:decide ((d.x:Int)<2*(d.used+1))=false:=by simpa using hr
  have HR:Hid (roomB hf d=d):=uy (if_neg hr)
  have hel:=he.lt
  have hS0:HeldE (E d.n) (d.L d.n).key w.drew.drew:=⟨he.k0,he.k1,he.k2,he.k3,he.k4⟩
  have HADD1:Hid (Calls Tryz.prog 307 #[.pointer (some ⟨bk,2,none⟩),V (d.L d.n).key.kind (d.L d.n).key.num (d.L d.n).key.flt (d.L d.n).key.str (d.L d.n).key.ref,.pointer (some ⟨E d.n,0,none⟩)] w.drew.drew fun e w'=>((∃u,e=.returned u)/\∃S',BMut w' bk r0 r1 R2 E S' (enterD hf d (d.L d.n).key d.n))/\HeldE (E d.n) (d.L d.n).key w'/\KX (fun b=>b=bk\/b=R2) bk w w'):=uy (by
   refine(ADD w.drew.drew R2 S d (hM.below (Below.refl _ _).drew.drew) hS (hTb _ _ hT (Below.refl _ _).drew.drew) (he.keep (Nat.le_refl _) rfl) rfl rfl hX (by omega) (by omega) (by omega)).mono ?_
   rintro e w' ⟨h1,h2⟩
   have h3:=h2.blk (E d.n) hel (by rintro(e|e)<;>omega)
   have hE2:=he.keep h2.bel.size h3
   exact⟨h1,⟨hE2.k0,hE2.k1,hE2.k2,hE2.k3,hE2.k4⟩,KX.trans ((KX.refl _ _ _).drew.drew) h2⟩)
  clear hM hS hT hH he ADD hk hX hu hul hbR hr
  go_enter Tryz.func296,Tryz.ntmps296
  go_wp2_with fail
  go_region
  go_wp2_with fail
  refine wpN_held (HeldE (E d.n) (d.L d.n).key) (by kernel_rfl) ?_
  change wpAnyH _ _ _ _ _ _ _ _ (World.drew _)
  refine tq 0 (v:=?_) ?_ ?_;rotate_left;intro w' ⟨s0,s1,s2,s3,s4⟩;go_simp;try with_reducible rfl
  simp only[Act.put,sA,sB,sC]
  refine tq 1 (v:=?_) ?_ ?_;rotate_left;intro w' ⟨s0,s1,s2,s3,s4⟩;go_simp;try with_reducible rfl
  simp only[Act.put,sA,sB,sC]
  refine tq 2 (v:=?_) ?_ ?_;rotate_left;intro w' ⟨s0,s1,s2,s3,s4⟩;go_simp;try with_reducible rfl
  simp only[Act.put,sA,sB,sC]
  refine tq 3 (v:=?_) ?_ ?_;rotate_left;intro w' ⟨s0,s1,s2,s3,s4⟩;go_simp;try with_reducible rfl
  simp only[Act.put,sA,sB,sC]
  refine tq 4 (v:=?_) ?_ ?_;rotate_left;intro w' ⟨s0,s1,s2,s3,s4⟩;go_simp;try with_reducible rfl
  simp only[Act.put,sA,sB,sC]
  refine tq 5 (v:=?_) ?_ ?_;rotate_left;intro w' ⟨s0,s1,s2,s3,s4⟩;go_simp;try with_reducible rfl
  simp only[Act.put,sA,sB,sC]
  refine tq 6 (v:=?_) ?_ ?_;rotate_left;intro w' ⟨s0,s1,s2,s3,s4⟩;go_simp;try with_reducible rfl
  simp only[Act.put,sA,sB,sC]
  refine tq 7 (v:=?_) ?_ ?_;rotate_left;intro w' ⟨s0,s1,s2,s3,s4⟩;go_simp;try with_reducible rfl
  simp only[Act.put,sA,sB,sC]
  refine tq 8 (v:=?_) ?_ ?_;rotate_left;intro w' ⟨s0,s1,s2,s3,s4⟩;go_simp;try with_reducible rfl
  simp only[Act.put,sA,sB,sC]
  refine wpAnyH_ready (rs:=[9]) (by kernel_rfl) (by simp) ?_
  refine AllReadyH.cons rfl (fun K hK=>?_) AllReadyH.nil
  go_simp
  refine(uh HADD1).mono ?_
  rintro e w2 ⟨⟨⟨uu2,rfl⟩,S2,hM2⟩,hS2,hkx2⟩
  refine hK.out _ _ hS2 (fun _=>?_)
  clear hK K hS0 HADD1 hS2
  refine wpAnyH_done (by kernel_rfl) ?_ _
  refine QN.normal ?_
  go_wp2
  go_end0
  exact⟨⟨⟨_,rfl⟩,R2,S2,by rw[uh HR];exact hM2⟩,hkx2⟩
end
section
open Go.RowKit Go.Shelf
attribute [local go_sem] run_store_float run_equalIn_float Oper.semAt_some
theorem livL_nodup(d:Dc)(k:Nat):(livL d k).Nodup:=List.Nodup.sublist List.filter_sublist List.nodup_range
theorem livL_rank{d:Dc}{i:Nat}(hi:i<d.n)(ht:(d.L i).turn≠0):(livL d d.n)[rank d i]?=some i:=by
 obtain⟨r,hr⟩:=livL_prefix (d:=d) (k:=i+1) (n:=d.n) (by omega)
 rw[livL_live ht]at hr
 rw[<-hr]
 unfold rank
 rw[List.append_assoc,List.getElem?_append_right (Nat.le_refl _)]
 simp
def pkX(d:Dc)(j:Nat):Int:=if 0<d.X j then(rank d (d.X j-1).toNat:Int)+1 else d.X j
def packX(d:Dc):Dc:={packD d with X:=pkX d}
def E'(E:Nat->Nat)(d:Dc)(j:Nat):Nat:=E ((livL d d.n).getD j 0)
theorem E'_rank{E:Nat->Nat}{d:Dc}{i:Nat}(hi:i<d.n)(ht:(d.L i).turn≠0):E' E d (rank d i)=E i:=by
 unfold E'
 rw[List.getD_eq_getElem?_getD,livL_rank hi ht]
 rfl
theorem packed{w W:World}{bk p n0:Nat}{r0 r1 v:Value}{R2:Nat}{E S f:Nat->Nat}{d:Dc}(h:BMut w bk r0 r1 R2 E S d)(hsz:w.heap.size<=W.heap.size)(hb:∀b,b<w.heap.size->(∀i,i<d.n->E i≠b)->W.heap[b]?=w.heap[b]?)(hn0:bk<n0)
  (hI:∀j,j<d.m->d.I j=0\/(0<d.I j/\d.I j<=d.n/\(d.L (d.I j-1).toNat).turn≠0)) (hX:∀j,j<d.x->0<d.X j->d.X j<=d.n/\(d.L (d.X j-1).toNat).turn≠0)
  (he:∀i,i<d.n->ECell W (E i) (d.L i) (f i)) (hf:∀j (hj:j<(livL d d.n).length),f (livL d d.n)[j]=j) (hv:Rw W n0 tEnt v (livL d d.n).length (eP E (livL d d.n))) (hl0:w.heap.size<=n0):
  BMut (W.setCell ⟨bk,0,none⟩ v) bk v r1 R2 (E' E d) S (packX d):=by
 have hE:∀i,i<d.n->E i≠bk:=fun i hi e=>by have:=h.eb i hi;omega
 have hbk:W.heap[bk]?=w.heap[bk]?:=hb bk h.lt hE
 have hc:∀q,W.cell? ⟨bk,q,none⟩=w.cell? ⟨bk,q,none⟩:=fun q=>World.cell?_of_block (a:=⟨bk,q,none⟩) hbk
 have ob:∀b,b≠bk->(W.setCell ⟨bk,0,none⟩ v).heap[b]?=W.heap[b]?:=fun b hb=>Deep.blk_setCell_other _ _ _ _ (by exact hb)
 have ho:∀q,q≠0->(W.setCell ⟨bk,0,none⟩ v).cell? ⟨bk,q,none⟩=w.cell? ⟨bk,q,none⟩:=fun q hq=>(cell_set_other (fun e=>hq e.symm)).trans (hc q)
 have tE:∀{t:TypeId} {c:Array Value} {b:Nat},w.heap[b]?=some (.cells c t (0,0))->t≠294->∀i,i<d.n->E i≠b:=fun{t c b} hb ht i hi e=>type_apart (e▸(h.ent i hi).ob) hb (fun e=>ht e.symm)
 have kr:∀{t:TypeId} {u:Value} {n:Nat} {g:Nat->Option Addr},Rw w (bk+1) t u n g->t≠294->Rw (W.setCell ⟨bk,0,none⟩ v) (bk+1) t u n g:=fun{t u n g} hh ht=>own_at hh (fun q e=>by
  have:=hh.lt q e
  obtain⟨c,hq⟩:=hh.block e
  exact(ob q (by omega)).trans (hb q this.2 (tE hq ht)))
 have lv:∀j,j<lvN d->∃i,i<d.n/\(d.L i).turn≠0/\rank d i=j/\(livL d d.n)[j]?=some i:=fun j hj=>by
  obtain⟨i,h1,h2,h3⟩:=rank_surj d.n hj
  exact⟨i,h1,h2,h3,by rw[<-h3];exact livL_rank h1 h2⟩
 have eI:∀x:Int,x=0\/(0<x/\x<=d.n/\(d.L (x-1).toNat).turn≠0)->entP (E' E d) (if 0<x then(rank d (x-1).toNat:Int)+1 else x)=entP E x:=fun x hx=>by
  rcases hx with rfl|⟨h1,h2,h3⟩
  ·rfl
  ·rw[if_pos h1]
   unfold entP
   rw[if_pos h1,if_pos (by omega),show((rank d (x-1).toNat:Int)+1-1).toNat=rank d (x-1).toNat by omega,E'_rank (by omega) h3]
 refine⟨by simpa using Nat.lt_of_lt_of_le h.lt hsz,World.cell?_setCell_same' _ _ _ (by rw[hc,h.c0];rfl),(ho 1 (by decide)).trans h.c1,(ho 2 (by decide)).trans h.c2,(ho 3 (by decide)).trans h.c3,(ho 4 (by decide)).trans h.c4,(ho 5 (by decide)).trans h.c5,(ho 6 (by decide)).trans h.c6,fun q=>by rw[World.frozen?_setCell];exact(World.frozen?_of_block (a:=⟨bk,q,none⟩) hbk).trans (h.fz q),?_,?_,h.rf,?_,?_,?_,?_,?_,?_,?_⟩
 ·have h1:Rw (W.setCell ⟨bk,0,none⟩ v) n0 tEnt v (livL d d.n).length (eP E (livL d d.n)):=own_at hv (fun q e=>ob q (by have:=(hv.lt q e).1;omega))
  exact own_mono h1 (by omega)
 ·refine(kr h.ints (by decide)).congr (fun j hj=>?_)
  exact eI (d.I j) (hI j hj)
 ·refine(kr h.slots (by decide)).congr (fun j hj=>?_)
  show sltP S j (pkX d j)=sltP S j (d.X j)
  unfold sltP pkX
  by_cases e:0<d.X j
  ·rw[if_pos e,if_neg (by omega),if_neg (by omega)]
  ·rw[if_neg e]
 ·intro q e e'
  have h1:=(hv.lt q e).1
  have h2:=(h.ints.lt q e').2
  omega
 ·intro j hj
  obtain⟨i,h1,h2,h3,h4⟩:=lv j hj
  have hLj:(packX d).L j=d.L i:=by
   show lvF d j=_
   unfold lvF
   rw[List.getD_eq_getElem?_getD,h4]
   rfl
  have hEj:E' E d j=E i:=by rw[<-h3];exact E'_rank h1 h2
  obtain⟨hjl,hge⟩:=List.getElem?_eq_some_iff.1 h4
  have hfi:f i=j:=by have:=hf j hjl;rwa [hge]at this
  rw[hLj,hEj]
  have h5:=he i h1
  rw[hfi]at h5
  exact h5.keep (by simp) (ob _ (by have:=h.eb i h1;omega))
 ·intro j hj
  obtain⟨i,h1,h2,h3,h4⟩:=lv j hj
  rw[show E' E d j=E i by rw[<-h3];exact E'_rank h1 h2]
  exact h.eb i h1
 ·intro j j' hj hj' e
  obtain⟨i,h1,h2,h3,h4⟩:=lv j hj
  obtain⟨i',h1',h2',h3',h4'⟩:=lv j' hj'
  rw[show E' E d j=E i by rw[<-h3];exact E'_rank h1 h2,show E' E d j'=E i' by rw[<-h3'];exact E'_rank h1' h2']at e
  have:=h.inj i i' h1 h1' e
  subst this
  omega
 ·intro j hj
  have hj':j<d.x:=hj
  have hs:=h.sl j hj'
  have hk:∀c,w.heap[S j]?=some (.cells c 333 (0,0))->d.X j≠0->(W.setCell ⟨bk,0,none⟩ v).heap[S j]?=w.heap[S j]?:=fun c hc' h0=>(ob _ (by have:=h.sg j hj' h0;omega)).trans (hb _ (Array.getElem?_eq_some_iff.1 hc').1 (tE hc' (by decide)))
  unfold SlotIs
  show(0<pkX d j->SCell _ (S j) ((packX d).L (pkX d j-1).toNat).key (E' E d (pkX d j-1).toNat))/\(pkX d j<0->GCell _ (S j))
  by_cases e:0<d.X j
  ·have hx:pkX d j=(rank d (d.X j-1).toNat:Int)+1:=if_pos e
   obtain⟨g1,g2⟩:=hX j hj' e
   refine⟨fun _=>?_,fun h0=>by omega⟩
   rw[hx,show((rank d (d.X j-1).toNat:Int)+1-1).toNat=rank d (d.X j-1).toNat by omega,E'_rank (by omega) g2,show(packX d).L (rank d (d.X j-1).toNat)=d.L (d.X j-1).toNat from lvF_at (by omega) g2]
   have h1:=hs.1 e
   exact h1.keep (by simpa using hsz) (hk _ h1.ob (by omega))
  ·have hx:pkX d j=d.X j:=if_neg e
   rw[hx]
   refine⟨fun h0=>absurd h0 e,fun h0=>?_⟩
   have h1:=hs.2 h0
   exact h1.keep (by simpa using hsz) (hk _ h1.ob (by omega))
 ·intro j hj h0
  refine h.sg j hj (fun e=>h0 ?_)
  show pkX d j=0
  unfold pkX
  rw[if_neg (by omega),e]
end
end Go.Proofs.YtgmlkfgfjjggnaaGreatDoor
