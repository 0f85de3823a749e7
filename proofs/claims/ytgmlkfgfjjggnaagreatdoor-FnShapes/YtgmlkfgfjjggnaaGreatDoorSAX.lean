import Derived.Test.YtgmlkfgfjjggnaaGreatDoorSAW
import Derived.Deep.AppendLies
set_option linter.unusedVariables false
set_option linter.unusedSimpArgs false
set_option maxHeartbeats 40000000
set_option maxRecDepth 100000
namespace Go.Proofs.YtgmlkfgfjjggnaaGreatDoor
section
open Go.RowKit Go.Shelf
attribute [local go_sem] run_store_float run_equalIn_float Oper.semAt_some
def TgI(w u:World)(bk p n0:Nat)(E:Nat->Nat)(d:Dc)(pre:List (Liv d))(W:World):Prop:=
 ∃(v:Value) (f:Nat->Nat),W.rowIs p 324 1 (fun _=>v)/\Rw W n0 tEnt v pre.length (eP E (pre.map (·.1)))/\(∀i,i<d.n->ECell W (E i) (d.L i) (f i))/\((pre.map (·.1)).Nodup->∀j i,(pre.map (·.1))[j]?=some i->f i=j)/\KpE p n0 E d.n u W/\Below bk w W
theorem TgI.own(w u:World)(bk p n0 D:Nat)(E:Nat->Nat)(d:Dc)(hn:n0<=D)(hu:n0<=u.heap.size)(hw:bk<=w.heap.size)(hb:bk<=D)(hE:∀i,i<d.n->E i<D):OwnFrom D (TgI w u bk p n0 E d):=by
 rintro pre A B row ⟨v,f,h1,h2,h3,h4,h5,h6⟩ hg hr
 have hEs:∀i,i<d.n->B.heap[E i]?=A.heap[E i]?:=fun i hi=>hg.block _ (h3 i hi).lt (fun e=>by have:=(hr _ e.symm).1;have:=hE i hi;omega)
 refine⟨v,f,?_,own_keptO h2 hg hr,fun i hi=>(h3 i hi).keep hg.size (hEs i hi),h4,⟨Nat.le_trans h5.size hg.size,fun b hb hp he=>?_,fun i q hi hq=>(World.cell?_of_block (a:=⟨E i,q,none⟩) (hEs i hi)).trans (h5.ent i q hi hq)⟩,h6.grown hg (Nat.le_trans hw h6.size) (fun k e=>Nat.le_trans hb (hr k e).1)⟩
 ·obtain⟨c,hb,hc⟩:=h1
  exact World.rowIs.of_block ⟨c,hb,hc⟩ (kept_cells hb hg hr)
 ·have hl:b<A.heap.size:=Nat.lt_of_lt_of_le hb (Nat.le_trans hu h5.size)
  exact(hg.block b hl (fun e=>by have:=(hr b e.symm).1;omega)).trans (h5.block b hb hp he)
theorem tighten_any(T:World->Prop)(hTl:Lasts T)(hf:Vl->Nat)(bk:Nat)(hTb:∀w w',T w->Below bk w w'->T w')(r0 r1:Value)(R2:Nat)(E S:Nat->Nat)(d:Dc)(w:World)(hT:T w)(hM:BMut w bk r0 r1 R2 E S d)(hS:Small d)
  (hH:∀i,i<d.n->(d.L i).turn≠0->HsI T (d.L i).key (hf (d.L i).key)) (hlen:lvN d<=500)
  (hI:∀j,j<d.m->d.I j=0\/(0<d.I j/\d.I j<=d.n/\(d.L (d.I j-1).toNat).turn≠0)) (hX:∀j,j<d.x->0<d.X j->d.X j<=d.n/\(d.L (d.X j-1).toNat).turn≠0):
  Calls Tryz.prog 294 #[.pointer (some ⟨bk,0,none⟩)] w fun e w'=>((∃u,e=.returned u)/\∃r0' R2' E2 S',BMut w' bk r0' r1 R2' E2 S' (fillL hf (packX d) (sizeX (hldL (packX d) (packX d).n).length) (hldL (packX d) (packX d).n)))/\KX (fun b=>b=bk\/∃i,i<d.n/\E i=b) bk w w':=by
 obtain⟨i0,hi0,hz0,hz1,hz2⟩:=info_parts infoEnt
 have hdn:=hS.n
 have hbkw:=hM.lt
 refine(callsIn_wide (n:=20)).1 ?_
 refine callsIn_of_wp_marks Tryz.func294 rfl trivial ?_ rfl
 simp only[Tryz.ntmps294,List.size_toArray,List.length_cons,List.length_nil,Nat.reduceAdd,Nat.reduceSub,Array.replicate_succ,Array.replicate_zero,List.push_toArray,List.append_toArray,List.nil_append,List.cons_append]
 have HM:=uy hM
 have HS:=uy hS
 have HH:=uy hH
 have HL:=uy hlen
 have HT:=uy hT
 have HI:=uy hI
 have HX:=uy hX
 clear hM hS hH hlen hT hI hX
 gi_wp2_with fail
 refine⟨trivial,?_⟩
 refine(callsIn_wide.2 (living_any bk _)).mono ?_
 rintro e w4 ⟨rfl,rfl⟩
 gi_wp2_with fail
 obtain⟨u,hu⟩:∃u,u=(w.alloc (.cells #[.slice none 0 0] 324)).alloc (.cells #[.pointer (some ⟨bk,0,none⟩)] 289):=⟨_,rfl⟩
 try simp only[World.size_alloc]
 rw[<-hu]
 have zu:u.heap.size=w.heap.size+1+1:=by rw[hu];simp
 have bu:Below w.heap.size w u:=by rw[hu];exact((Below.refl _ _).alloc (Nat.le_refl _) _).alloc (by simp) _
 have mb0:u.cell? ⟨w.heap.size+1,0,none⟩=some (.pointer (some ⟨bk,0,none⟩)):=by rw[hu];simp[go_sem]
 have hpu:u.rowIs w.heap.size 324 1 (fun _=>.slice none 0 0):=by
  have h1:=World.rowIs_alloc w #[.slice none 0 0] 324 (fun _=>.slice none 0 0) (fun i hi=>by
   have:i=0:=by simpa using hi
   subst this
   rfl)
  refine World.rowIs.of_block h1 ?_
  rw[hu]
  exact Deep.blk_alloc_lt _ _ _ (by simp)
 clear hu
 have hMu:=(uh HM).below bu
 obtain⟨R0,R1,hBu⟩:=hMu.book
 have c0u:u.cell? ⟨w.heap.size,0,none⟩=some (.slice none 0 0):=hpu.cell (i:=0) (by omega)
 have hEp:∀i,i<d.n->E i<u.heap.size/\E i≠w.heap.size:=fun i hi=>⟨(hBu.ent i hi).lt,fun e=>by
  have:=(hBu.ent i hi).k0
  rw[e,c0u]at this
  cases this⟩
 have hRp:0<d.n->R0<u.heap.size/\R0≠w.heap.size/\∀i,i<d.n->E i≠R0:=fun h0=>by
  refine⟨hBu.l0,fun e=>?_,fun i hi e=>?_⟩
  ·have:=hBu.r0 0 h0
   rw[e,c0u]at this
   cases this
  ·have h1:=hBu.r0 0 h0
   have h2:=(hBu.ent i hi).k0
   rw[<-e,h2]at h1
   cases h1
 clear c0u
 refine wpIn_rangeFunc_ownF rfl (by decide) (gf:=248) (lb:=#[.pointer (some ⟨w.heap.size+1,0,none⟩)]) rfl trivial (enters_of Tryz.func248 (by kernel_rfl) rfl)
  (living_stopsE 19 (by decide) bk R0 R1 R2 (w.heap.size+1) w.heap.size u.heap.size E S d u hBu (uh HS) hRp mb0) KpE.trans (KpE.put (Nat.le_refl _) (fun i hi=>(hEp i hi).1)) (Below.refl _ _) (fun _=>rfl)
  (TgI w u bk w.heap.size u.heap.size E d)
  (fun c pre W=>False)
  (TgI.own w u bk w.heap.size u.heap.size u.heap.size E d (Nat.le_refl _) (Nat.le_refl _) (by omega) (by omega) (fun i hi=>(hEp i hi).1))
  (fun c _ _ _ _ h=>h.elim)
  ⟨.slice none 0 0,id,hpu,World.ownsRow_nil _ _ _ _,hBu.ent,fun _ j i h=>by simp at h,KpE.refl _ _ _ _ _,bu.mono (by omega)⟩
  ?a1 ?assign ?body ?done ?stop
 case assign=>
  intro l x W K hK
  gi_wp2
  exact hK
 case stop=>
  rintro D c pre W hD hpre h hK
  exact h.elim
 case body=>
  rintro l pre ⟨i,hi,ht⟩ W ⟨v,f,hp,hown,hec,hfi,hkp,hbw⟩ hlen
  obtain⟨va,vc,rfl⟩:=hown.slice
  have heb:=(hec i hi).ob
  have p11:=(hec i hi).pl
  have hEi:=(hec i hi).lt
  have fE:W.frozen? ⟨E i,11,none⟩=false:=by simp[World.frozen?,heb]
  have x0:=hp.cell (i:=0) (by omega)
  have fx:=hp.frozen 0
  have hpl:=hp.lt
  have hne:E i≠w.heap.size:=(hEp i hi).2
  have zW:=hkp.size
  have hEu:=(hEp i hi).1
  have hpre:pre.length<=d.n:=by omega
  have HOW1:Hid (∀o,((W.setCell ⟨E i,11,none⟩ (.int .i64 (pre.length:Int))).alloc o).ownsRow u.heap.size tEnt 1 (.slice va pre.length vc) pre.length (ptL (eP E (pre.map (·.1))) pre.length)):=uy (fun o=>World.ownsRow.alloc (own_at hown (fun q e=>Deep.blk_setCell_other _ _ _ _ (by have:=(hown.lt q e).1;show q≠E i;omega))) _)
  have HAPP:Hid (∀(o:Obj) (g3 cp3:Nat) (w3:World),w3.ownsRow u.heap.size tEnt 1 (.slice (some ⟨g3,0,none⟩) (pre.length+1) cp3) (pre.length+1) (ptL (eP E (pre.map (·.1))) pre.length++[.pointer (some ⟨E i,0,none⟩)])->((W.setCell ⟨E i,11,none⟩ (.int .i64 (pre.length:Int))).alloc o).grownBy w3 (Value.slice va pre.length vc).ownBlock->
    (w3.cell? ⟨w.heap.size,0,none⟩=some (.slice va pre.length vc)/\w3.frozen? ⟨w.heap.size,0,none⟩=false)/\KeepsOthers W (w3.setCell ⟨w.heap.size,0,none⟩ (.slice (some ⟨g3,0,none⟩) (pre.length+1) cp3))/\KpE w.heap.size u.heap.size E d.n W (w3.setCell ⟨w.heap.size,0,none⟩ (.slice (some ⟨g3,0,none⟩) (pre.length+1) cp3))/\TgI w u bk w.heap.size u.heap.size E d (pre++[⟨i,hi,ht⟩]) (w3.setCell ⟨w.heap.size,0,none⟩ (.slice (some ⟨g3,0,none⟩) (pre.length+1) cp3))):=uy (fun o g3 cp3 w3 h1 h2=>by
   have hrow:∀b,b<u.heap.size->(Value.slice va pre.length vc).ownBlock≠some b:=fun b hb e=>by have:=(hown.lt b e).1;omega
   have hB:∀b,b<u.heap.size->b≠E i->w3.heap[b]?=W.heap[b]?:=fun b hb he=>(h2.block b (by simp;omega) (fun e=>hrow b hb e.symm)).trans ((Deep.blk_alloc_lt _ _ _ (by simp;omega)).trans (Deep.blk_setCell_other _ _ _ _ (by exact he)))
   have hBi:w3.heap[E i]?=(W.setCell ⟨E i,11,none⟩ (.int .i64 (pre.length:Int))).heap[E i]?:=(h2.block (E i) (by simp;omega) (fun e=>hrow _ hEu e.symm)).trans (Deep.blk_alloc_lt _ _ _ (by simpa using hEi))
   have hzz:W.heap.size<=w3.heap.size:=by have:=h2.size;simp at this;omega
   have hp1:w3.rowIs w.heap.size 324 1 (fun _=>.slice va pre.length vc):=hp.of_block (hB _ (by omega) (fun e=>hne e.symm))
   have hg3:=(World.ownsRow.lt h1 g3 rfl).1
   have os:∀b,b≠w.heap.size->(w3.setCell ⟨w.heap.size,0,none⟩ (.slice (some ⟨g3,0,none⟩) (pre.length+1) cp3)).heap[b]?=w3.heap[b]?:=fun b hb=>Deep.blk_setCell_other _ _ _ _ (by exact hb)
   have hei:ECell (w3.setCell ⟨w.heap.size,0,none⟩ (.slice (some ⟨g3,0,none⟩) (pre.length+1) cp3)) (E i) (d.L i) pre.length:=((hec i hi).setPlace pre.length).keep (by simpa using hzz) ((os _ hne).trans hBi)
   have hecs:∀j,j<d.n->j≠i->ECell (w3.setCell ⟨w.heap.size,0,none⟩ (.slice (some ⟨g3,0,none⟩) (pre.length+1) cp3)) (E j) (d.L j) (f j):=fun j hj hji=>(hec j hj).keep (by simpa using hzz) ((os _ (hEp j hj).2).trans (hB _ (hEp j hj).1 (fun e=>hji (hBu.inj j i hj hi e))))
   have hkE:KpE w.heap.size u.heap.size E d.n W (w3.setCell ⟨w.heap.size,0,none⟩ (.slice (some ⟨g3,0,none⟩) (pre.length+1) cp3)):=⟨by simpa using hzz,fun b h1 h2' h3=>(os b h2').trans (hB b h1 (fun e=>h3 i hi e.symm)),fun j q hj hq=>by
    by_cases e:j=i
    ·subst e
     refine(World.cell?_of_block (a:=⟨E j,q,none⟩) ((os _ hne).trans hBi)).trans ?_
     exact cell_set_other (fun e=>hq e.symm)
    ·exact World.cell?_of_block (a:=⟨E j,q,none⟩) ((os _ (hEp j hj).2).trans (hB _ (hEp j hj).1 (fun e'=>e (hBu.inj j i hj hi e'))))⟩
   refine⟨⟨hp1.cell (i:=0) (by omega),hp1.frozen 0⟩,?_,hkE,.slice (some ⟨g3,0,none⟩) (pre.length+1) cp3,upd f i pre.length,(hp1.set 0 _).congr (fun q hq=>by simp[show q=0 by omega]),?_,fun j hj=>?_,fun hnd j q hq=>?_,hkp.trans hkE,?_⟩
   ·have hko:KeepsOthers ((W.setCell ⟨E i,11,none⟩ (.int .i64 (pre.length:Int))).alloc o) w3:=KeepsOthers.of_grownBy h2 (fun j o' e ho=>by
     obtain⟨c,hb⟩:=Rw.block hown e
     have hj:=(hown.lt j e)
     rw[Deep.blk_alloc_lt _ _ _ (by simpa using hj.2),Deep.blk_setCell_other _ _ _ _ (by show j≠E i;omega),hb]at ho
     cases ho
     rfl)
    exact(((KeepsOthers.setCell W _ _).trans (KeepsOthers.alloc _ _)).trans hko).trans (KeepsOthers.setCell _ _ _)
   ·have hl:(pre++[⟨i,hi,ht⟩]:List (Liv d)).length=pre.length+1:=by simp
    have e1:ptL (eP E (pre.map (·.1))) pre.length++[.pointer (some ⟨E i,0,none⟩)]=ptL (eP E ((pre++[⟨i,hi,ht⟩]:List (Liv d)).map (·.1))) (pre.length+1):=by
     have:=eP_snoc E (pre.map (·.1)) i
     rw[List.length_map]at this
     rw[this,List.map_append]
     rfl
    rw[hl]
    refine own_at ?_ (fun q e=>os q (by
     have e':g3=q:=by simpa[Value.ownBlock]using e
     omega))
    rw[e1]at h1
    exact h1
   ·by_cases e:j=i
    ·subst e;rw[upd_same];exact hei
    ·rw[upd_other _ _ e];exact hecs j hj e
   ·rw[List.map_append]at hnd hq
    have hnd':=List.nodup_append.1 hnd
    by_cases e:j<(pre.map (·.1)).length
    ·rw[List.getElem?_append_left e]at hq
     have hne':q≠i:=fun e'=>hnd'.2.2 q (List.mem_of_getElem? hq) i (by simp) e'
     rw[upd_other _ _ hne']
     exact hfi hnd'.1 j q hq
    ·rw[List.getElem?_append_right (by omega)]at hq
     have hj0:j-(pre.map (·.1)).length=0:=by
      have h3:=(List.getElem?_eq_some_iff.1 hq).1
      simp at h3
      simp
      omega
     rw[hj0]at hq
     have hqi:i=q:=by simpa using hq
     subst hqi
     rw[upd_same]
     rw[List.length_map]at e hj0
     omega
   ·exact(((hbw.setCell (by have:=hBu.ent i hi;have:=(uh HM).eb i hi;show bk<=E i;omega) _).alloc (by simp;omega) _).grown h2 (by simp;omega) (fun k e=>by have:=(hown.lt k e).1;omega)).setCell (by show bk<=w.heap.size;omega) _)
  clear hown hkp hbw hp mb0 hec hfi heb
  gi_wp2_with (gi_at_builtin;refine wpListIn_append_own _ rfl _ _ 324 rfl u.heap.size tEnt i0 (.pointer none) 1 8 Tryz.underlying324 hi0 hz0 hz1 hz2 rfl (by decide) (.slice va pre.length vc) pre.length (ptL (eP E (pre.map (·.1))) pre.length) rfl (uh HOW1 _) ⟨W.heap.size,0,none⟩ 1 1 [.pointer (some ⟨E i,0,none⟩)] rfl rfl (World.news_of_block (by rw[show W.heap.size=(W.setCell ⟨E i,11,none⟩ (.int .i64 (pre.length:Int))).heap.size by simp];exact Deep.blk_alloc_new _ _)) (by simp[Value.oneCell']) (by unfold maxLen;omega) (by omega) (by simp;omega) ?_;intro v3 w3 hown3 hgr3 _;obtain⟨g3,cp3,rfl,_,_⟩:=World.ownsRow.form hown3 (by omega);obtain⟨⟨x3,f3⟩,HN3⟩:=uh HAPP _ g3 cp3 w3 hown3 hgr3;clear hown3 hgr3)
  exact HN3
 case done=>
  rintro D ys W hD hlv ⟨v,f,hp,hown,hec,hfi,hkp,hbw⟩ hK
  have hlv':ys.map (·.1)=livL d d.n:=hlv
  have hyl:ys.length=(livL d d.n).length:=by rw[<-hlv',List.length_map]
  rw[hyl,hlv']at hown
  rw[hlv']at hfi
  obtain⟨va,vc,rfl⟩:=hown.slice
  have x0:=hp.cell (i:=0) (by omega)
  have zW:=hkp.size
  have hEb:∀i,i<d.n->E i≠bk:=fun i hi e=>by have:=(uh HM).eb i hi;omega
  have hbk:W.heap[bk]?=w.heap[bk]?:=(hkp.block bk (by omega) (by omega) hEb).trans (bu.block bk hbkw)
  have c0:W.cell? ⟨bk,0,none⟩=some r0:=(World.cell?_of_block (a:=⟨bk,0,none⟩) hbk).trans (uh HM).c0
  have f0:W.frozen? ⟨bk,0,none⟩=false:=(World.frozen?_of_block (a:=⟨bk,0,none⟩) hbk).trans ((uh HM).fz 0)
  have lW:w.heap.size<W.heap.size:=by omega
  have lb:bk<W.heap.size:=by omega
  have hDW:D<W.heap.size:=(Array.getElem?_eq_some_iff.1 hK).1
  have hMp:=packed (uh HM) (by omega) (fun b hb he=>(hkp.block b (by omega) (by omega) he).trans (bu.block b hb)) (n0:=u.heap.size) (p:=0) (by omega) (uh HI) (uh HX) hec (fun j hj=>hfi (livL_nodup _ _) j _ (List.getElem?_eq_getElem hj)) hown (by omega)
  have hBp:Below bk w (W.setCell ⟨bk,0,none⟩ (.slice va (livL d d.n).length vc)):=hbw.setCell (by exact Nat.le_refl _) _
  have hPn:∀i,i<lvN d->∃i',i'<d.n/\(d.L i').turn≠0/\lvF d i=d.L i':=fun j hj=>by
   obtain⟨i,h1,h2,h3⟩:=rank_surj d.n hj
   exact⟨i,h1,h2,by rw[<-h3];exact lvF_at h1 h2⟩
  have HREM:Hid (Calls Tryz.prog 306 #[.pointer (some ⟨bk,0,none⟩),.int .i64 0] (W.setCell ⟨bk,0,none⟩ (.slice va (livL d d.n).length vc)) fun e w'=>((∃u,e=.returned u)/\∃R2' S',BMut w' bk (.slice va (livL d d.n).length vc) r1 R2' (E' E d) S' (fillL hf (packX d) (sizeX (hldL (packX d) (packX d).n).length) (hldL (packX d) (packX d).n))/\(W.setCell ⟨bk,0,none⟩ (.slice va (livL d d.n).length vc)).heap.size<=R2')/\KX (fun b=>b=bk) bk (W.setCell ⟨bk,0,none⟩ (.slice va (livL d d.n).length vc)) w'):=uy (by
   have hSm:=uh HS
   have h1:=livL_le d d.n
   have h2:=uh HL
   have h3:lvN d=(livL d d.n).length:=rfl
   exact remakeIndex_any T hTl hf bk hTb _ r1 R2 (E' E d) S (packX d) 0 _ (hTb _ _ (uh HT) hBp) hMp ⟨by show lvN d<=_;omega,hSm.m,hSm.x⟩ (fun i hi ht=>by
    obtain⟨i',g1,g2,g3⟩:=hPn i hi
    have e:(packX d).L i=d.L i':=g3
    rw[e]
    exact uh HH i' g1 g2) (by
    have g1:=hldL_le (packX d) (packX d).n
    have g2:=livL_le (packX d) (packX d).n
    have g3:(packX d).n=lvN d:=rfl
    omega))
  have HBP:Hid (KX (fun b=>b=bk\/∃i,i<d.n/\E i=b) bk w (W.setCell ⟨bk,0,none⟩ (.slice va (livL d d.n).length vc))):=uy ⟨hBp,fun b hb hm=>(Deep.blk_setCell_other _ _ _ _ (by intro e;exact hm (.inl e))).trans ((hkp.block b (by omega) (by omega) (fun i hi e=>hm (.inr ⟨i,hi,e⟩))).trans (bu.block b hb))⟩
  clear hlv hlv' hyl hp hown hec hfi hkp hbw hMp hPn hBp hEb hbk mb0 hpu hBu hMu hEp hRp bu
  generalize (livL d d.n).length=nl at*
  gi_wp2_with fail
  refine⟨trivial,?_⟩
  refine(callsIn_wide.2 (uh HREM)).mono ?_
  rintro e w5 ⟨⟨⟨uu,rfl⟩,R2',S',hM5,_⟩,hkx⟩
  have hK5:w5.heap[D]?=some (.deferred (some [])):=(hkx.blk D (by simpa using hDW) (by omega)).trans ((Deep.blk_setCell_other _ _ _ _ (by show D≠bk;omega)).trans hK)
  have HM5:=uy hM5
  have HB5:=uy ((uh HBP).trans (hkx.mono (fun b _ e=>.inl e)))
  clear hM5 hkx HREM
  gi_wp2
  refine⟨by simp,.inl ⟨_,_,rfl,run_takeDeferred hK5,?_⟩⟩
  have hg:=grownBy_putObj' w5 D (.deferred none)
  have z5:=(uh HB5).bel.size
  exact⟨_,results_none rfl _ _ _,⟨⟨_,rfl⟩,_,R2',_,S',(uh HM5).grown hg (fun r e=>by cases e;exact⟨_,hK5,rfl⟩)⟩,(uh HB5).grown hg (by omega) (fun k e=>by cases e;exact .inl (by omega))⟩
end
section
open Go.RowKit
section
variable {w w3:World} {bk:Nat} {r0 r1:Value} {R2:Nat} {E S:Nat->Nat} {d:Dc}
theorem BMut.pushL(h:BMut w bk r0 r1 R2 E S d){W:World}(hW:Below w.heap.size w W){g3 cp3:Nat}(he:ECell w (E d.n) (d.L d.n) d.n)(heb:bk<E d.n)(hin:∀i,i<d.n->E i≠E d.n)(h1:w3.ownsRow (bk+1) tEnt 1 (.slice (some ⟨g3,0,none⟩) (d.n+1) cp3) (d.n+1) (ptL (fun i=>some ⟨E i,0,none⟩) d.n++[.pointer (some ⟨E d.n,0,none⟩)]))(hg:W.grownBy w3 r0.ownBlock)(hl:r0.ownBlock=some g3\/w.heap.size<=g3):
  BMut (w3.setCell ⟨bk,0,none⟩ (.slice (some ⟨g3,0,none⟩) (d.n+1) cp3)) bk (.slice (some ⟨g3,0,none⟩) (d.n+1) cp3) r1 R2 E S {d with n:=d.n+1}/\Below bk w (w3.setCell ⟨bk,0,none⟩ (.slice (some ⟨g3,0,none⟩) (d.n+1) cp3)):=by
 have hlt:=h.lt
 have hwz:=hW.size
 have hz:w.heap.size<=w3.heap.size:=Nat.le_trans hwz hg.size
 have hB:∀b,b<w.heap.size->r0.ownBlock≠some b->w3.heap[b]?=w.heap[b]?:=fun b hb he=>(hg.block b (by omega) (fun e=>he e.symm)).trans (hW.block b hb)
 have hbk:r0.ownBlock≠some bk:=fun e=>by have:=(h.log.lt bk e).1;omega
 have os:∀b,b≠bk->(w3.setCell ⟨bk,0,none⟩ (.slice (some ⟨g3,0,none⟩) (d.n+1) cp3)).heap[b]?=w3.heap[b]?:=fun b hb=>Deep.blk_setCell_other _ _ _ _ (by exact hb)
 have hc:∀q,w3.cell? ⟨bk,q,none⟩=w.cell? ⟨bk,q,none⟩:=fun q=>World.cell?_of_block (a:=⟨bk,q,none⟩) (hB bk hlt hbk)
 have ho:∀q,q≠0->(w3.setCell ⟨bk,0,none⟩ (.slice (some ⟨g3,0,none⟩) (d.n+1) cp3)).cell? ⟨bk,q,none⟩=w.cell? ⟨bk,q,none⟩:=fun q hq=>(cell_set_other (fun e=>hq e.symm)).trans (hc q)
 have ty:∀{t:TypeId} {c:Array Value} {b:Nat},w.heap[b]?=some (.cells c t (0,0))->t≠tEnt->r0.ownBlock≠some b:=fun{t c b} hb ht e=>by
  obtain⟨c',hb'⟩:=h.log.block e
  exact type_apart hb hb' ht
 have hg3:=(World.ownsRow.lt h1 g3 rfl).1
 have kE:∀{b:Nat} {p:Pr} {i:Nat},ECell w b p i->bk<b->ECell (w3.setCell ⟨bk,0,none⟩ (.slice (some ⟨g3,0,none⟩) (d.n+1) cp3)) b p i:=fun{b p i} hh hb=>hh.keep (by simpa using hz) ((os _ (by omega)).trans (hB _ hh.lt (ty hh.ob (by decide))))
 refine⟨⟨by simpa using Nat.lt_of_lt_of_le hlt hz,World.cell?_setCell_same' _ _ _ (by rw[hc,h.c0];rfl),(ho 1 (by decide)).trans h.c1,(ho 2 (by decide)).trans h.c2,(ho 3 (by decide)).trans h.c3,(ho 4 (by decide)).trans h.c4,(ho 5 (by decide)).trans h.c5,(ho 6 (by decide)).trans h.c6,fun q=>by rw[World.frozen?_setCell];exact(World.frozen?_of_block (a:=⟨bk,q,none⟩) (hB bk hlt hbk)).trans (h.fz q),?_,?_,h.rf,?_,?_,fun i hi=>?_,fun i hi=>?_,fun i j hi hj e=>?_,fun j hj=>?_,h.sg⟩,?_⟩
 ·have h2:(w3.setCell ⟨bk,0,none⟩ (.slice (some ⟨g3,0,none⟩) (d.n+1) cp3)).ownsRow (bk+1) tEnt 1 (.slice (some ⟨g3,0,none⟩) (d.n+1) cp3) (d.n+1) (ptL (fun i=>some ⟨E i,0,none⟩) d.n++[.pointer (some ⟨E d.n,0,none⟩)]):=own_at h1 (fun q e=>os q (by
   have e':g3=q:=by simpa[Value.ownBlock]using e
   omega))
  exact h2
 ·exact own_at h.ints (fun q e=>(os q (by have:=(h.ints.lt q e).1;omega)).trans (hB q (h.ints.lt q e).2 (fun e'=>h.ap q e' e)))
 ·exact own_at h.slots (fun q e=>by
   obtain⟨c,hb⟩:=h.slots.block e
   exact(os q (by have:=(h.slots.lt q e).1;omega)).trans (hB q (h.slots.lt q e).2 (ty hb (by decide))))
 ·intro q e e'
  have e2:g3=q:=by simpa[Value.ownBlock]using e
  subst e2
  rcases hl with hl|hl
  ·exact h.ap g3 hl e'
  ·have:=(h.ints.lt g3 e').2;omega
 ·have hi':i<d.n+1:=hi
  by_cases e:i=d.n
  ·subst e;exact kE he heb
  ·exact kE (h.ent i (by omega)) (h.eb i (by omega))
 ·have hi':i<d.n+1:=hi
  by_cases e:i=d.n
  ·subst e;exact heb
  ·exact h.eb i (by omega)
 ·have hi':i<d.n+1:=hi
  have hj':j<d.n+1:=hj
  by_cases ei:i=d.n
  ·by_cases ej:j=d.n
   ·omega
   ·subst ei;exact absurd e.symm (hin j (by omega))
  ·by_cases ej:j=d.n
   ·subst ej;exact absurd e (hin i (by omega))
   ·exact h.inj i j (by omega) (by omega) e
 ·by_cases h0:d.X j=0
  ·exact⟨fun hp=>absurd hp (by show¬0<d.X j;omega),fun hp=>absurd hp (by show¬d.X j<0;omega)⟩
  ·exact SlotIs.keep (d:={d with n:=d.n+1}) (w:=w) (h.sl j hj) (by simpa using hz) (fun c hc=>(os _ (by have:=h.sg j hj h0;omega)).trans (hB _ (Array.getElem?_eq_some_iff.1 hc).1 (ty hc (by decide))))
 ·exact((hW.mono (by omega)).grown hg (by omega) (fun k e=>by have:=(h.log.lt k e).1;omega)).setCell (by exact Nat.le_refl _) _
end
theorem BMut.compact{K:Vl->Prop}{hf:Vl->Nat}{w:World}{bk:Nat}{r0 r1:Value}{R2:Nat}{E S:Nat->Nat}{d:Dc}(hc:Core K d)(hl:¬((d.n:Int)<8\/(d.n:Int)<=2*d.live))(h:BMut w bk r0 r1 R2 E S (fillL hf (packX d) (sizeX (hldL (packX d) (packX d).n).length) (hldL (packX d) (packX d).n))):BMut w bk r0 r1 R2 E S (compactD hf d):=by
 have hp:=packD_core hc
 have h:BMut w bk r0 r1 R2 E S (fillL hf (packD d) (sizeX (hldL (packD d) (packD d).n).length) (hldL (packD d) (packD d).n)):=h
 have e1:compactD hf d=reindexD hf (packD d) 0:=if_neg hl
 have rf:=fun x=>refill_fill (hf:=hf) (d:=packD d) (x:=x) (fun i hi ht=>hp.pos hi ht) (packD d).n (Nat.le_refl _)
 rw[e1]
 by_cases h0:(hldL (packD d) (packD d).n).length=0
 ·rw[reindexD_none (by rw[(rf 0).2];omega)]
  have hn:hldL (packD d) (packD d).n=[]:=List.eq_nil_of_length_eq_zero h0
  rw[h0,hn]at h
  have h:BMut w bk r0 r1 R2 E S {packD d with x:=0,X:=fun _=>0,used:=0}:=h
  exact h.of_same rfl rfl rfl rfl rfl rfl (fun _ _=>rfl) (fun j hj=>absurd hj (Nat.not_lt_zero _)) (fun _ _=>rfl) (fun _ _=>rfl) (fun i hi=>by
   rcases hp.ints i hi with e|e
   ·show(packD d).I i<=((packD d).n:Int);omega
   ·exact e.2.1) (fun j hj=>absurd hj (Nat.not_lt_zero _))
 ·rw[reindexD_some (by rw[(rf 0).2];omega),(rf _).1,(rf 0).2]
  have e2:sizeX (hldL (packD d) (packD d).n).length=sizeFor ((hldL (packD d) (packD d).n).length+0):=if_neg h0
  rw[e2]at h
  exact h
def onW(c:Dc)(k v:Vl):Dc:={addL c k v with n:=c.n}
theorem onW_L(c:Dc)(k v:Vl):(onW c k v).L c.n=⟨k,v,c.turns+1⟩:=upd_same _ _ _
theorem onW_old(c:Dc)(k v:Vl){i:Nat}(hi:i<c.n):(onW c k v).L i=c.L i:=upd_other _ _ (by omega)
theorem enter_onW(hf:Vl->Nat)(c:Dc)(k v k':Vl)(p:Nat):enterD hf (onW c k v) k' p=onW (enterD hf c k' p) k v:=by
 unfold enterD
 show(match freeSlot c.x c.X (hf k'%c.x)with|none=>_|some s=>_)=_
 cases freeSlot c.x c.X (hf k'%c.x)<;>rfl
theorem enter_cut(hf:Vl->Nat)(c:Dc)(k':Vl)(p n:Nat):enterD hf {c with n:=n} k' p={enterD hf c k' p with n:=n}:=by
 unfold enterD
 show(match freeSlot c.x c.X (hf k'%c.x)with|none=>_|some s=>_)=_
 cases freeSlot c.x c.X (hf k'%c.x)<;>rfl
theorem fill_onW(hf:Vl->Nat)(c:Dc)(k v:Vl)(x:Nat)(l:List Nat)(hl:∀p∈l,p<c.n):fillL hf (onW c k v) x l=onW (fillL hf c x l) k v:=by
 suffices h:∀(l:List Nat),(∀p∈l,p<c.n)->∀b:Dc,l.foldl (fun e p=>enterD hf e ((onW c k v).L p).key p) (onW b k v)=onW (l.foldl (fun e p=>enterD hf e (c.L p).key p) b) k v from h l hl {c with x:=x,X:=fun _=>0,used:=0}
 intro l
 induction l with
 |nil=>intro _ b;rfl
 |cons p l ih=>
  intro hl b
  show l.foldl _ (enterD hf (onW b k v) ((onW c k v).L p).key p)=_
  rw[onW_old c k v (hl p (by simp)),enter_onW]
  exact ih (fun q hq=>hl q (by simp[hq])) _
theorem hld_onW(c:Dc)(k v:Vl):hldL (onW c k v) (onW c k v).n=hldL c c.n:=by
 unfold hldL
 have e:livL (onW c k v) (onW c k v).n=livL c c.n:=livL_congr c.n (fun i hi=>by rw[onW_old c k v hi])
 rw[e]
 refine List.filter_congr (fun i hi=>?_)
 rw[onW_old c k v (mem_livL.1 hi).1]
 rfl
theorem room_onW{K:Vl->Prop}{hf:Vl->Nat}{c:Dc}{k v:Vl}(hc:Core K c):roomB hf (onW c k v)=onW (roomD hf c) k v:=by
 have rf:=fun x=>refill_fill (hf:=hf) (d:=c) (x:=x) (fun i hi ht=>hc.pos hi ht) c.n (Nat.le_refl _)
 unfold roomB roomD
 rw[hld_onW]
 by_cases h:(c.x:Int)<2*(c.used+1)
 ·rw[if_pos h,if_pos (show((onW c k v).x:Int)<2*((onW c k v).used+1)from h),reindexD_some (by omega),(rf _).1,(rf 0).2,fill_onW hf c k v _ _ (fun p hp=>(mem_hldL hp).1)]
  have e:sizeX ((hldL c c.n).length+1)=sizeFor ((hldL c c.n).length+1):=if_neg (by omega)
  rw[e]
 ·rw[if_neg h,if_neg (show¬((onW c k v).x:Int)<2*((onW c k v).used+1)from h)]
theorem onW_addL{c:Dc}{k v:Vl}{n:Nat}(h:c.n=n):onW c k v={addL c k v with n:=n}:=by subst h;rfl
end
end Go.Proofs.YtgmlkfgfjjggnaaGreatDoor
