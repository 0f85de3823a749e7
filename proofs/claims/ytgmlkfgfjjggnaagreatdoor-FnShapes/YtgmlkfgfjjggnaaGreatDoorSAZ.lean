import Derived.Test.YtgmlkfgfjjggnaaGreatDoorSAY
import Derived.Test.YtgmlkfgfjjggnaaGreatDoorSAN
import Derived.Test.YtgmlkfgfjjggnaaGreatDoorSAO
import Derived.Test.YtgmlkfgfjjggnaaGreatDoorSAR
import Derived.Test.YtgmlkfgfjjggnaaGreatDoorSAS
import Derived.Test.YtgmlkfgfjjggnaaGreatDoorSAV
import Derived.Test.YtgmlkfgfjjggnaaGreatDoorSAP
set_option linter.unusedVariables false
set_option linter.unusedSimpArgs false
set_option maxHeartbeats 40000000
set_option maxRecDepth 100000
namespace Go.Proofs.YtgmlkfgfjjggnaaGreatDoor
section
open Go.RowKit
attribute [local go_sem] run_store_float run_equalIn_float
structure DWay (w wr:World) (v0 v1 v2:Value) (d:Dc):Prop where
 b0:wr.heap[w.heap.size]?=some (.cells #[.slice none 0 0,.slice none 0 0,.slice none 0 0,.int .i64 0,.int .i64 0,.int .i64 0] 92 (0,0))
 b1:wr.heap[w.heap.size+1]?=some (.cells #[v0,v1,v2,.int .i64 d.used,.int .i64 d.live,.int .i64 d.turns] 92 (0,0))
 bel:Below w.heap.size w wr
theorem DWay.size{w wr:World}{v0 v1 v2:Value}{d:Dc}(h:DWay w wr v0 v1 v2 d):w.heap.size+1<wr.heap.size:=(Array.getElem?_eq_some_iff.1 h.b1).1
theorem DWay.cells{w wr:World}{v0 v1 v2:Value}{d:Dc}(h:DWay w wr v0 v1 v2 d):wr.cell? ⟨w.heap.size+1,0,none⟩=some v0/\wr.cell? ⟨w.heap.size+1,1,none⟩=some v1/\wr.cell? ⟨w.heap.size+1,2,none⟩=some v2/\wr.cell? ⟨w.heap.size+1,3,none⟩=some (.int .i64 d.used)/\wr.cell? ⟨w.heap.size+1,4,none⟩=some (.int .i64 d.live)/\wr.cell? ⟨w.heap.size+1,5,none⟩=some (.int .i64 d.turns)/\∀q,wr.frozen? ⟨w.heap.size+1,q,none⟩=false:=
 ⟨by simp[World.cell?,h.b1],by simp[World.cell?,h.b1],by simp[World.cell?,h.b1],by simp[World.cell?,h.b1],by simp[World.cell?,h.b1],by simp[World.cell?,h.b1],fun q=>by simp[World.frozen?,h.b1]⟩
theorem DWay.keep{w wr w':World}{v0 v1 v2:Value}{d:Dc}(h:DWay w wr v0 v1 v2 d)(h0:w'.heap[w.heap.size]?=wr.heap[w.heap.size]?)(h1:w'.heap[w.heap.size+1]?=wr.heap[w.heap.size+1]?)(hb:Below w.heap.size w w'):DWay w w' v0 v1 v2 d:=⟨h0.trans h.b0,h1.trans h.b1,hb⟩
theorem DWay.set0{w wr:World}{v0 v1 v2 u:Value}{d:Dc}(h:DWay w wr v0 v1 v2 d):DWay w (wr.setCell ⟨w.heap.size+1,0,none⟩ u) u v1 v2 d:=
 ⟨(Deep.blk_setCell_other _ _ _ _ (by show w.heap.size≠w.heap.size+1;omega)).trans h.b0,(heap_setCell_same _ _ _ _ _ _ h.b1).trans (by simp),h.bel.setCell (by show w.heap.size<=w.heap.size+1;omega) _⟩
theorem DWay.set1{w wr:World}{v0 v1 v2 u:Value}{d:Dc}(h:DWay w wr v0 v1 v2 d):DWay w (wr.setCell ⟨w.heap.size+1,1,none⟩ u) v0 u v2 d:=
 ⟨(Deep.blk_setCell_other _ _ _ _ (by show w.heap.size≠w.heap.size+1;omega)).trans h.b0,(heap_setCell_same _ _ _ _ _ _ h.b1).trans (by simp),h.bel.setCell (by show w.heap.size<=w.heap.size+1;omega) _⟩
theorem DWay.set2{w wr:World}{v0 v1 v2 u:Value}{d:Dc}(h:DWay w wr v0 v1 v2 d):DWay w (wr.setCell ⟨w.heap.size+1,2,none⟩ u) v0 v1 u d:=
 ⟨(Deep.blk_setCell_other _ _ _ _ (by show w.heap.size≠w.heap.size+1;omega)).trans h.b0,(heap_setCell_same _ _ _ _ _ _ h.b1).trans (by simp),h.bel.setCell (by show w.heap.size<=w.heap.size+1;omega) _⟩
def upTo(f:Nat->Int)(k j:Nat):Int:=if j<k then f j else 0
theorem upTo_step(f:Nat->Int)(k:Nat):upd (upTo f k) k (f k)=upTo f (k+1):=by
 funext j
 unfold upTo
 by_cases e:j=k
 ·subst e;rw[upd_same,if_pos (by omega)]
 ·rw[upd_other _ _ e]
  by_cases h:j<k
  ·rw[if_pos h,if_pos (by omega)]
  ·rw[if_neg h,if_neg (by omega)]
theorem upTo_zero(f:Nat->Int)(k:Nat)(h:f k=0):upTo f k=upTo f (k+1):=by
 rw[<-upTo_step,h]
 funext j
 by_cases e:j=k
 ·subst e;rw[upd_same];exact if_neg (by omega)
 ·rw[upd_other _ _ e]
theorem IOwn.congr{w:World}{B:Nat}{v:Value}{n:Nat}{f g:Nat->Int}(h:IOwn w B v n f)(e:∀i,i<n->g i=f i):IOwn w B v n g:=by
 have hl:iL g n=iL f n:=by
  apply List.ext_getElem?
  intro q
  by_cases hq:q<n
  ·rw[iL_get hq,iL_get hq,e q hq]
  ·rw[List.getElem?_eq_none (by rw[iL_length];omega),List.getElem?_eq_none (by rw[iL_length];omega)]
 show w.ownsRow _ _ _ _ _ (iL g n)
 rw[hl]
 exact h
def HeldP(e:Nat)(p:Pr)(W:World):Prop:=W.cell? ⟨e,0,none⟩=some (.int .i64 p.key.kind)/\W.cell? ⟨e,1,none⟩=some (.int .i64 p.key.num)/\W.cell? ⟨e,2,none⟩=some (.float .f64 p.key.flt)/\W.cell? ⟨e,3,none⟩=some (.string p.key.str)/\W.cell? ⟨e,4,none⟩=some (.int .i64 p.key.ref)/\W.cell? ⟨e,5,none⟩=some (.int .i64 p.val.kind)/\W.cell? ⟨e,6,none⟩=some (.int .i64 p.val.num)/\W.cell? ⟨e,7,none⟩=some (.float .f64 p.val.flt)/\W.cell? ⟨e,8,none⟩=some (.string p.val.str)/\W.cell? ⟨e,9,none⟩=some (.int .i64 p.val.ref)/\W.cell? ⟨e,10,none⟩=some (.int .i64 p.turn)
theorem ECell.held{w:World}{b:Nat}{p:Pr}{i:Nat}(h:ECell w b p i):HeldP b p w:=⟨h.k0,h.k1,h.k2,h.k3,h.k4,h.v0,h.v1,h.v2,h.v3,h.v4,h.tn⟩
def HeldB(bk:Nat)(a b c:Int)(W:World):Prop:=W.cell? ⟨bk,4,none⟩=some (.int .i64 a)/\W.cell? ⟨bk,5,none⟩=some (.int .i64 b)/\W.cell? ⟨bk,6,none⟩=some (.int .i64 c)
def HeldI(c g m e:Nat)(x:Int)(W:World):Prop:=W.cell? ⟨c,1,none⟩=some (.slice (some ⟨g,0,none⟩) m m)/\W.cell? ⟨e,11,none⟩=some (.int .i64 x)
def HeldX(c g m s e:Nat)(x:Int)(W:World):Prop:=W.cell? ⟨c,2,none⟩=some (.slice (some ⟨g,0,none⟩) m m)/\W.cell? ⟨s,5,none⟩=some (.pointer (some ⟨e,0,none⟩))/\W.cell? ⟨e,11,none⟩=some (.int .i64 x)
theorem dict_any(bk:Nat)(r0 r1:Value)(R2:Nat)(E S:Nat->Nat)(d:Dc)(w:World)(hM:BMut w bk r0 r1 R2 E S d)(hS:Small d)(hI:∀j,j<d.m->0<=d.I j/\d.I j<=d.n)(hX:∀j,j<d.x->d.X j=0\/d.X j=-1\/(0<d.X j/\d.X j<=d.n)):
  Calls Tryz.prog 262 #[.pointer (some ⟨bk,0,none⟩)] w fun e w'=>(∃v0 v1 v2,e=.returned (DvV v0 v1 v2 d)/\DV d w' v0 v1 v2 w.heap.size w'.heap.size)/\Below w.heap.size w w':=by
 obtain⟨i0,hi0,hz0,hz1,hz2⟩:=info_parts infoPair
 have hn:=hS.n
 have hm:=hS.m
 have hx:=hS.x
 obtain⟨a0,l0,e0⟩:=hM.log.slice
 obtain⟨Q1,l1,e1⟩:=hM.rf
 subst e0 e1
 have hlt:=hM.lt
 have c0:=hM.c0
 have c4:=hM.c4
 have c5:=hM.c5
 have c6:=hM.c6
 have mk1:=make_intsO d.m hm
 have mk2:=make_intsO d.x hx
 have HM:=uy hM
 have HI:=uy hI
 have HX:=uy hX
 clear hM hS hI hX
 go_enter Tryz.func262,Tryz.ntmps262
 go_wp2_with fail
 refine wpN_held (HeldB bk d.used d.live d.turns) (by kernel_rfl) ?_
 change wpAnyH _ _ _ _ _ _ _ _ (World.drew _)
 have hB0:∀o,Below w.heap.size w (w.alloc o):=fun o=>(Below.refl _ _).alloc (Nat.le_refl _) _
 have hB0':∀o,Below w.heap.size w (w.alloc o).drew:=fun o=>(hB0 o).drew
 have hS0:∀o,HeldB bk d.used d.live d.turns (w.alloc o).drew:=fun o=>⟨((hB0' o).cell (p:=⟨bk,4,none⟩) hlt).trans c4,((hB0' o).cell (p:=⟨bk,5,none⟩) hlt).trans c5,((hB0' o).cell (p:=⟨bk,6,none⟩) hlt).trans c6⟩
 have hS0':=hS0 (.cells #[.slice none 0 0,.slice none 0 0,.slice none 0 0,.int .i64 0,.int .i64 0,.int .i64 0] 92)
 refine tq 0 (v:=?_) ?_ ?_;rotate_left;intro w' ⟨s0,s1,s2⟩;go_simp;try with_reducible rfl
 simp only[Act.put,sA,sB,sC]
 refine tq 1 (v:=?_) ?_ ?_;rotate_left;intro w' ⟨s0,s1,s2⟩;go_simp;try with_reducible rfl
 simp only[Act.put,sA,sB,sC]
 refine tq 2 (v:=?_) ?_ ?_;rotate_left;intro w' ⟨s0,s1,s2⟩;go_simp;try with_reducible rfl
 simp only[Act.put,sA,sB,sC]
 refine tq 3 (v:=?_) ?_ ?_;rotate_left;intro w' ⟨s0,s1,s2⟩;go_simp;try with_reducible rfl
 simp only[Act.put,sA,sB,sC]
 refine tq 4 (v:=?_) ?_ ?_;rotate_left;intro w' ⟨s0,s1,s2⟩;go_simp;try with_reducible rfl
 simp only[Act.put,sA,sB,sC]
 refine tq 5 (v:=?_) ?_ ?_;rotate_left;intro w' ⟨s0,s1,s2⟩;go_simp;try with_reducible rfl
 simp only[Act.put,sA,sB,sC]
 refine tq 6 (v:=?_) ?_ ?_;rotate_left;intro w' ⟨s0,s1,s2⟩;go_simp;try with_reducible rfl
 simp only[Act.put,sA,sB,sC]
 refine tq 7 (v:=?_) ?_ ?_;rotate_left;intro w' ⟨s0,s1,s2⟩;go_simp;try with_reducible rfl
 simp only[Act.put,sA,sB,sC]
 refine tq 8 (v:=?_) ?_ ?_;rotate_left;intro w' ⟨s0,s1,s2⟩;go_simp;try with_reducible rfl
 simp only[Act.put,sA,sB,sC]
 refine tq 9 (v:=?_) ?_ ?_;rotate_left;intro w' ⟨s0,s1,s2⟩;go_simp;try with_reducible rfl
 simp only[Act.put,sA,sB,sC]
 refine tq 10 (v:=?_) ?_ ?_;rotate_left;intro w' ⟨s0,s1,s2⟩;go_simp;try with_reducible rfl
 simp only[Act.put,sA,sB,sC]
 refine tq 11 (v:=?_) ?_ ?_;rotate_left;intro w' ⟨s0,s1,s2⟩;go_simp;try with_reducible rfl
 simp only[Act.put,sA,sB,sC]
 refine tq 12 (v:=?_) ?_ ?_;rotate_left;intro w' ⟨s0,s1,s2⟩;go_simp;try with_reducible rfl
 simp only[Act.put,sA,sB,sC]
 refine tq 13 (v:=?_) ?_ ?_;rotate_left;intro w' ⟨s0,s1,s2⟩;go_simp;try with_reducible rfl
 simp only[Act.put,sA,sB,sC]
 refine wpAnyH_ready (rs:=[14]) (by kernel_rfl) (by simp) ?_
 refine AllReadyH.cons rfl (fun K hK=>?_) AllReadyH.nil
 go_simp
 refine hK.out _ _ ⟨(((hB0 _).alloc (by simp) _).drew.cell (p:=⟨bk,4,none⟩) hlt).trans c4,(((hB0 _).alloc (by simp) _).drew.cell (p:=⟨bk,5,none⟩) hlt).trans c5,(((hB0 _).alloc (by simp) _).drew.cell (p:=⟨bk,6,none⟩) hlt).trans c6⟩ (fun hS1=>?_)
 clear hK K
 refine wpAnyH_ready (rs:=[15]) (by kernel_rfl) (by simp) ?_
 refine AllReadyH.cons rfl (fun K hK=>?_) AllReadyH.nil
 go_simp
 refine hK.out _ _ ⟨(((hB0 _).alloc (by simp) _).drew.cell (p:=⟨bk,4,none⟩) hlt).trans c4,(((hB0 _).alloc (by simp) _).drew.cell (p:=⟨bk,5,none⟩) hlt).trans c5,(((hB0 _).alloc (by simp) _).drew.cell (p:=⟨bk,6,none⟩) hlt).trans c6⟩ (fun _=>?_)
 clear hK K hS1 hS0 hS0'
 refine wpAnyH_done (by kernel_rfl) ?_ _
 refine QN.normal ?_
 obtain⟨W1,hW1⟩:∃W1,W1=((w.alloc (.cells #[.slice none 0 0,.slice none 0 0,.slice none 0 0,.int .i64 0,.int .i64 0,.int .i64 0] 92)).alloc (.cells #[.slice none 0 0,.slice none 0 0,.slice none 0 0,.int .i64 d.used,.int .i64 d.live,.int .i64 d.turns] 92)).drew:=⟨_,rfl⟩
 rw[<-hW1]
 have hD1:DWay w W1 (.slice none 0 0) (.slice none 0 0) (.slice none 0 0) d:=by
  rw[hW1]
  refine⟨(Deep.blk_alloc_lt _ _ _ (by simp)).trans (Deep.blk_alloc_new _ _),?_,((hB0 _).alloc (by simp) _).drew⟩
  have h1:=Deep.blk_alloc_new (w.alloc (.cells #[.slice none 0 0,.slice none 0 0,.slice none 0 0,.int .i64 0,.int .i64 0,.int .i64 0] 92)) (.cells #[.slice none 0 0,.slice none 0 0,.slice none 0 0,.int .i64 d.used,.int .i64 d.live,.int .i64 d.turns] 92)
  rw[World.size_alloc]at h1
  exact h1
 have c0':=(hD1.bel.cell (p:=⟨bk,0,none⟩) hlt).trans c0
 have lb1:=Nat.lt_of_lt_of_le hlt hD1.bel.size
 have HD1:=uy hD1
 clear hD1 hW1 hB0 hB0' c0 c4 c5 c6
 go_wp2_with fail
 clear c0'
 go_loopw [29] (fun i wr=>∃(k:Nat) (v0:Value),k<=d.n/\i=.int .i64 (k:Int)/\POwn wr (w.heap.size+2) v0 k d.L/\DWay w wr v0 (.slice none 0 0) (.slice none 0 0) d) (fun i _=>d.n-(intOf i).toNat)
 case atStart=>exact⟨0,.slice none 0 0,by omega,rfl,World.ownsRow_nil _ _ _ _,uh HD1⟩
 case round=>
  clear HD1
  obtain⟨k,v0,hk,rfl,hown,hW⟩:=hrel
  have hMr:=(uh HM).below hW.bel
  have hzr:=hW.size
  by_cases hkn:k<d.n
  ·obtain⟨g0,cp0,e0,_,g0l,_,hg0,_⟩:=hMr.log.form (by omega)
   cases e0
   have rk:=hg0 k hkn
   have he:=hMr.ent k hkn
   have hel:=he.lt
   have heb:=((uh HM).ent k hkn).lt
   obtain⟨x0,_,_,_,_,_,hfz⟩:=hW.cells
   have fx:=hfz 0
   have hS0:HeldP (E k) (d.L k) wr.drew:=he.drew.held
   have HOW:Hid (POwn wr.drew (w.heap.size+2) v0 k d.L):=uy hown.drew
   have HAPP:Hid (∀(o:Obj) (g3 cp3:Nat) (w3:World),w3.ownsRow (w.heap.size+2) 96 11 (.slice (some ⟨g3,0,none⟩) (k+1) cp3) (k+1) (pL d.L k++prL (d.L k))->(wr.drew.alloc o).grownBy w3 v0.ownBlock->HeldP (E k) (d.L k) w3/\w3.cell? ⟨w.heap.size+1,0,none⟩=some v0/\w3.frozen? ⟨w.heap.size+1,0,none⟩=false/\w.heap.size+1<w3.heap.size/\HeldP (E k) (d.L k) (w3.setCell ⟨w.heap.size+1,0,none⟩ (.slice (some ⟨g3,0,none⟩) (k+1) cp3))/\
     (POwn (w3.setCell ⟨w.heap.size+1,0,none⟩ (.slice (some ⟨g3,0,none⟩) (k+1) cp3)) (w.heap.size+2) (.slice (some ⟨g3,0,none⟩) (k+1) cp3) (k+1) d.L/\DWay w (w3.setCell ⟨w.heap.size+1,0,none⟩ (.slice (some ⟨g3,0,none⟩) (k+1) cp3)) (.slice (some ⟨g3,0,none⟩) (k+1) cp3) (.slice none 0 0) (.slice none 0 0) d)):=uy (fun o g3 cp3 w3 h1 h2=>by
    have hB:∀b,b<w.heap.size+2->w3.heap[b]?=wr.heap[b]?:=fun b hb=>(h2.block b (by simp;omega) (fun e=>by have:=(hown.lt b e.symm).1;omega)).trans (Deep.blk_alloc_lt _ _ _ (by show b<wr.heap.size;omega))
    have hz3:wr.heap.size<=w3.heap.size:=by have:=h2.size;simp at this;omega
    have hW3:DWay w w3 v0 (.slice none 0 0) (.slice none 0 0) d:=hW.keep (hB _ (by omega)) (hB _ (by omega)) (((hW.bel.drew).alloc (by show w.heap.size<=wr.heap.size;omega) o).grown h2 (by simp;omega) (fun q e=>by have:=(hown.lt q e).1;omega))
    have he3:=he.keep hz3 (hB _ (by omega))
    obtain⟨y0,_,_,_,_,_,yf⟩:=hW3.cells
    have hg3:=(World.ownsRow.lt h1 g3 rfl).1
    refine⟨he3.held,y0,yf 0,by omega,(he3.keep (by simp) (Deep.blk_setCell_other _ _ _ _ (by show E k≠w.heap.size+1;omega))).held,own_at h1 (fun q e=>Deep.blk_setCell_other _ _ _ _ (by
     have e':g3=q:=by simpa[Value.ownBlock]using e
     show q≠w.heap.size+1
     omega)),hW3.set0⟩)
   clear hown hMr hg0 he hW hfz
   go_wp2_with fail
   refine wpN_held (HeldP (E k) (d.L k)) (by kernel_rfl) ?_
   change wpAnyH _ _ _ _ _ _ _ _ (World.drew _)
   refine tq 0 (v:=?_) ?_ ?_;rotate_left;intro w' ⟨s0,s1,s2,s3,s4,s5,s6,s7,s8,s9,s10⟩;go_simp;try with_reducible rfl
   simp only[Act.put,sA,sB,sC]
   refine tq 2 (v:=?_) ?_ ?_;rotate_left;intro w' ⟨s0,s1,s2,s3,s4,s5,s6,s7,s8,s9,s10⟩;go_simp;try with_reducible rfl
   simp only[Act.put,sA,sB,sC]
   refine tq 3 (v:=?_) ?_ ?_;rotate_left;intro w' ⟨s0,s1,s2,s3,s4,s5,s6,s7,s8,s9,s10⟩;go_simp;try with_reducible rfl
   simp only[Act.put,sA,sB,sC]
   refine tq 4 (v:=?_) ?_ ?_;rotate_left;intro w' ⟨s0,s1,s2,s3,s4,s5,s6,s7,s8,s9,s10⟩;go_simp;try with_reducible rfl
   simp only[Act.put,sA,sB,sC]
   refine tq 5 (v:=?_) ?_ ?_;rotate_left;intro w' ⟨s0,s1,s2,s3,s4,s5,s6,s7,s8,s9,s10⟩;go_simp;try with_reducible rfl
   simp only[Act.put,sA,sB,sC]
   refine wpAnyH_ready (rs:=[1,6]) (by kernel_rfl) (by simp) ?_
   refine AllReadyH.cons rfl (fun K hK=>?_) (AllReadyH.cons rfl (fun K hK=>?_) AllReadyH.nil)
   ·go_simp
    refine hK.out _ _ hS0 (fun _=>?_)
    clear hK K
    refine wpAnyH_ready (rs:=[6]) (by kernel_rfl) (by simp) ?_
    refine AllReadyH.cons rfl (fun K hK=>?_) AllReadyH.nil
    go_simp
    refine hK.out _ _ (by obtain⟨s0,s1,s2,s3,s4,s5,s6,s7,s8,s9,s10⟩:=hS0;exact(fun(hb:Below wr.heap.size wr _)=>(⟨(hb.cell (p:=⟨E k,0,none⟩) hel).trans s0,(hb.cell (p:=⟨E k,1,none⟩) hel).trans s1,(hb.cell (p:=⟨E k,2,none⟩) hel).trans s2,(hb.cell (p:=⟨E k,3,none⟩) hel).trans s3,(hb.cell (p:=⟨E k,4,none⟩) hel).trans s4,(hb.cell (p:=⟨E k,5,none⟩) hel).trans s5,(hb.cell (p:=⟨E k,6,none⟩) hel).trans s6,(hb.cell (p:=⟨E k,7,none⟩) hel).trans s7,(hb.cell (p:=⟨E k,8,none⟩) hel).trans s8,(hb.cell (p:=⟨E k,9,none⟩) hel).trans s9,(hb.cell (p:=⟨E k,10,none⟩) hel).trans s10⟩:HeldP (E k) (d.L k) _)) ((Below.refl wr.heap.size wr).drew.alloc (Nat.le_refl _) _)) (fun hS1=>?_)
    clear hK K
    refine wpAnyH_ready (rs:=[7]) (by kernel_rfl) (by simp) ?_
    refine AllReadyH.cons rfl (fun K hK=>?_) AllReadyH.nil
    refine step_append_lies _ rfl (.tmp 34) (.tmp 39) 85 rfl (w.heap.size+2) 96 i0 PZ 11 104 Tryz.underlying85 hi0 hz0 hz1 hz2 rfl (by decide) v0 k (pL d.L k) (by simp[Act.eval]) (World.ownsRow.alloc (uh HOW) _) ⟨wr.heap.size,0,none⟩ 1 1 (prL (d.L k)) (by simp[Act.eval]) rfl (World.news_of_block (Deep.blk_alloc_new _ _)) (prL_one _) (by decide) (by unfold maxLen;omega) (by omega) (by simp;omega) _ rfl ?_
    intro g3 cp3 w3 hown3 hgr3 hloc3 hlt3
    obtain⟨hS3,x3,f3,l3,hS4,HN3⟩:=uh HAPP _ g3 cp3 w3 hown3 hgr3
    clear hown3 hgr3 hloc3
    refine hK.out _ _ hS3 (fun hS3'=>?_)
    clear hK K
    refine tq 8 (v:=?_) ?_ ?_;rotate_left;intro w' ⟨s0,s1,s2,s3,s4,s5,s6,s7,s8,s9,s10⟩;go_simp;try with_reducible rfl
    (try simp only[Act.put]);(try simp only[List.setIfInBounds_toArray]);(try simp only[List.set_cons_succ]);try simp only[List.set_cons_zero]
    refine wpAnyH_ready (rs:=[9]) (by kernel_rfl) (by simp) ?_
    refine AllReadyH.cons rfl (fun K hK=>?_) AllReadyH.nil
    go_simp
    refine hK.out _ _ hS4 (fun _=>?_)
    clear hK K hS0 hS3 hS3' hS4
    refine wpAnyH_done (by kernel_rfl) ?_ _
    refine QN.normal ?_
    have HN:=uy HN3
    clear HN3 x3 f3
    go_wp2
    go_roundw
    case rel=>exact⟨k+1,_,by omega,by go_num,(uh HN).1,(uh HN).2⟩
    case measure=>simp[intOf];omega
   ·go_simp
    refine hK.out _ _ (by obtain⟨s0,s1,s2,s3,s4,s5,s6,s7,s8,s9,s10⟩:=hS0;exact(fun(hb:Below wr.heap.size wr _)=>(⟨(hb.cell (p:=⟨E k,0,none⟩) hel).trans s0,(hb.cell (p:=⟨E k,1,none⟩) hel).trans s1,(hb.cell (p:=⟨E k,2,none⟩) hel).trans s2,(hb.cell (p:=⟨E k,3,none⟩) hel).trans s3,(hb.cell (p:=⟨E k,4,none⟩) hel).trans s4,(hb.cell (p:=⟨E k,5,none⟩) hel).trans s5,(hb.cell (p:=⟨E k,6,none⟩) hel).trans s6,(hb.cell (p:=⟨E k,7,none⟩) hel).trans s7,(hb.cell (p:=⟨E k,8,none⟩) hel).trans s8,(hb.cell (p:=⟨E k,9,none⟩) hel).trans s9,(hb.cell (p:=⟨E k,10,none⟩) hel).trans s10⟩:HeldP (E k) (d.L k) _)) ((Below.refl wr.heap.size wr).drew.alloc (Nat.le_refl _) _)) (fun hS1=>?_)
    clear hK K
    refine wpAnyH_ready (rs:=[1]) (by kernel_rfl) (by simp) ?_
    refine AllReadyH.cons rfl (fun K hK=>?_) AllReadyH.nil
    go_simp
    refine hK.out _ _ hS1 (fun _=>?_)
    clear hK K
    refine wpAnyH_ready (rs:=[7]) (by kernel_rfl) (by simp) ?_
    refine AllReadyH.cons rfl (fun K hK=>?_) AllReadyH.nil
    refine step_append_lies _ rfl (.tmp 34) (.tmp 39) 85 rfl (w.heap.size+2) 96 i0 PZ 11 104 Tryz.underlying85 hi0 hz0 hz1 hz2 rfl (by decide) v0 k (pL d.L k) (by simp[Act.eval]) (World.ownsRow.alloc (uh HOW) _) ⟨wr.heap.size,0,none⟩ 1 1 (prL (d.L k)) (by simp[Act.eval]) rfl (World.news_of_block (Deep.blk_alloc_new _ _)) (prL_one _) (by decide) (by unfold maxLen;omega) (by omega) (by simp;omega) _ rfl ?_
    intro g3 cp3 w3 hown3 hgr3 hloc3 hlt3
    obtain⟨hS3,x3,f3,l3,hS4,HN3⟩:=uh HAPP _ g3 cp3 w3 hown3 hgr3
    clear hown3 hgr3 hloc3
    refine hK.out _ _ hS3 (fun hS3'=>?_)
    clear hK K
    refine tq 8 (v:=?_) ?_ ?_;rotate_left;intro w' ⟨s0,s1,s2,s3,s4,s5,s6,s7,s8,s9,s10⟩;go_simp;try with_reducible rfl
    (try simp only[Act.put]);(try simp only[List.setIfInBounds_toArray]);(try simp only[List.set_cons_succ]);try simp only[List.set_cons_zero]
    refine wpAnyH_ready (rs:=[9]) (by kernel_rfl) (by simp) ?_
    refine AllReadyH.cons rfl (fun K hK=>?_) AllReadyH.nil
    go_simp
    refine hK.out _ _ hS4 (fun _=>?_)
    clear hK K hS0 hS3 hS3' hS4
    refine wpAnyH_done (by kernel_rfl) ?_ _
    refine QN.normal ?_
    have HN:=uy HN3
    clear HN3 x3 f3
    go_wp2
    go_roundw
    case rel=>exact⟨k+1,_,by omega,by go_num,(uh HN).1,(uh HN).2⟩
    case measure=>simp[intOf];omega
  ·have hk':k=d.n:=by omega
   subst hk'
   have HMr:=uy hMr
   have HOW:=uy hown
   have c1:=hMr.c1
   have lb:=hMr.lt
   obtain⟨x0,x1,x2,x3,x4,x5,hfz⟩:=hW.cells
   have fx1:=hfz 1
   have HW:=uy hW
   clear hMr hown hW hfz
   go_wp2_with fail
   obtain⟨g1,hg1⟩:∃g1,g1=wr.heap.size:=⟨_,rfl⟩
   obtain⟨W2,hW2⟩:∃W2,W2=(wr.setCell ⟨w.heap.size+1,1,none⟩ (.slice (some ⟨wr.heap.size,0,none⟩) d.m d.m)).alloc (.cells (madeCells #[Value.int .i64 0] d.m) 3):=⟨_,rfl⟩
   rw[<-hW2]
   have hP2:IOwn W2 (w.heap.size+2) (.slice (some ⟨g1,0,none⟩) d.m d.m) d.m (upTo d.I 0):=by
    have h1:=IOwn.made (wr.setCell ⟨w.heap.size+1,1,none⟩ (.slice (some ⟨wr.heap.size,0,none⟩) d.m d.m)) (w.heap.size+2) d.m (by simp;omega) hm
    rw[show(wr.setCell ⟨w.heap.size+1,1,none⟩ (.slice (some ⟨wr.heap.size,0,none⟩) d.m d.m)).heap.size=g1 by rw[hg1];simp]at h1
    rw[hW2]
    exact h1.congr (fun i _=>if_neg (by omega))
   have hkp:∀b,b<g1->b≠w.heap.size+1->W2.heap[b]?=wr.heap[b]?:=fun b hb hne=>by
    rw[hW2]
    exact(Deep.blk_alloc_lt _ _ _ (by simp;omega)).trans (Deep.blk_setCell_other _ _ _ _ (by exact hne))
   have hv0:∀q,v0.ownBlock=some q->w.heap.size+2<=q/\q<g1:=fun q e=>by have:=(uh HOW).lt q e;omega
   have hO2:POwn W2 (w.heap.size+2) v0 d.n d.L:=own_at (uh HOW) (fun q e=>hkp q (hv0 q e).2 (by have:=(hv0 q e).1;omega))
   have hD2:DWay w W2 v0 (.slice (some ⟨g1,0,none⟩) d.m d.m) (.slice none 0 0) d:=by
    have h1:=(uh HW).set1 (u:=.slice (some ⟨g1,0,none⟩) d.m d.m)
    rw[hg1]at h1 ⊢
    rw[hW2]
    exact h1.keep (Deep.blk_alloc_lt _ _ _ (by simp;omega)) (Deep.blk_alloc_lt _ _ _ (by simp;omega)) (h1.bel.alloc (by simp;omega) _)
   have hg1n:w.heap.size+2<=g1:=by omega
   have HL2:=uy (show IOwn W2 (w.heap.size+2) (.slice (some ⟨g1,0,none⟩) d.m d.m) d.m (upTo d.I 0)/\POwn W2 (w.heap.size+2) v0 d.n d.L/\DWay w W2 v0 (.slice (some ⟨g1,0,none⟩) d.m d.m) (.slice none 0 0) d from⟨hP2,hO2,hD2⟩)
   rw[<-hg1]
   have HV0:=uy hv0
   clear HMr HOW HW hP2 hkp hv0 hO2 hD2 hW2 hg1 x0 x1 x2 x3 x4 x5 fx1 c1 lb hzr hkn hk lb1
   go_loopw [55] (fun i wr=>∃k:Nat,k<=d.m/\i=.int .i64 (k:Int)/\IOwn wr (w.heap.size+2) (.slice (some ⟨g1,0,none⟩) d.m d.m) d.m (upTo d.I k)/\POwn wr (w.heap.size+2) v0 d.n d.L/\DWay w wr v0 (.slice (some ⟨g1,0,none⟩) d.m d.m) (.slice none 0 0) d) (fun i _=>d.m-(intOf i).toNat)
   case atStart=>exact⟨0,by omega,rfl,(uh HL2).1,(uh HL2).2.1,(uh HL2).2.2⟩
   case round=>
    clear HL2
    obtain⟨k,hk,rfl,hP,hO,hW⟩:=hrel
    have hMr:=(uh HM).below hW.bel
    have hzr:=hW.size
    by_cases hkn:k<d.m
    ·obtain⟨_,_,e1,_,_,_,hc1,_⟩:=hMr.ints.form (by omega)
     cases e1
     have rk:wr.cell? ⟨Q1,k,none⟩=some (.pointer (entP E (d.I k))):=hc1 k hkn
     obtain⟨_,_,e2,hgl,hgs,_,hgc,hgf⟩:=hP.form (by omega)
     cases e2
     have gk:=hgc k hkn
     have gf:=hgf k
     have hQl:=World.block_lt_of_cell? _ _ rk
     dsimp only at hQl
     obtain⟨hI1,hI2⟩:=uh HI k hkn
     obtain⟨x0,x1,_,_,_,_,hfz⟩:=hW.cells
     by_cases h0:d.I k=0
     ·rw[h0,show entP E 0=none from if_neg (by decide)]at rk
      have HN:Hid (IOwn wr (w.heap.size+2) (.slice (some ⟨g1,0,none⟩) d.m d.m) d.m (upTo d.I (k+1))/\POwn wr (w.heap.size+2) v0 d.n d.L/\DWay w wr v0 (.slice (some ⟨g1,0,none⟩) d.m d.m) (.slice none 0 0) d):=uy ⟨by rw[<-upTo_zero d.I k h0];exact hP,hO,hW⟩
      clear hP hO hW hMr hc1 hgc hgf hfz h0 hI1 hI2
      go_wp2
      go_roundw
      case rel=>exact⟨k+1,by omega,by go_num,(uh HN).1,(uh HN).2.1,(uh HN).2.2⟩
      case measure=>simp[intOf];omega
     ·obtain⟨q,hq⟩:∃q:Nat,d.I k=(q:Int)+1:=⟨(d.I k-1).toNat,by omega⟩
      have hqn:q<d.n:=by omega
      rw[hq,show entP E ((q:Int)+1)=some ⟨E q,0,none⟩ by unfold entP;rw[if_pos (by omega),show((q:Int)+1-1).toNat=q by omega]]at rk
      have he:=hMr.ent q hqn
      have hel:=he.lt
      have heb:=((uh HM).ent q hqn).lt
      have hwq:IntKind.i64.wrap ((q:Int)+1)=(q:Int)+1:=by rw[IntKind.wrap_i64];omega
      have hS0:HeldI (w.heap.size+1) g1 d.m (E q) q wr.drew:=⟨x1,he.pl⟩
      have hS1:HeldI (w.heap.size+1) g1 d.m (E q) q (wr.setCell ⟨g1,k,none⟩ (.int .i64 ((q:Int)+1))).drew:=⟨(cell_set_block (by omega)).trans x1,(cell_set_block (by omega)).trans he.pl⟩
      have HN:Hid (IOwn (wr.setCell ⟨g1,k,none⟩ (.int .i64 ((q:Int)+1))).drew (w.heap.size+2) (.slice (some ⟨g1,0,none⟩) d.m d.m) d.m (upTo d.I (k+1))/\POwn (wr.setCell ⟨g1,k,none⟩ (.int .i64 ((q:Int)+1))).drew (w.heap.size+2) v0 d.n d.L/\DWay w (wr.setCell ⟨g1,k,none⟩ (.int .i64 ((q:Int)+1))).drew v0 (.slice (some ⟨g1,0,none⟩) d.m d.m) (.slice none 0 0) d):=uy (by
       refine⟨?_,own_at hO (fun b e=>Deep.blk_setCell_other _ _ _ _ (by have:=uh HV0 b e;show b≠g1;omega)),hW.keep (Deep.blk_setCell_other _ _ _ _ (by show w.heap.size≠g1;omega)) (Deep.blk_setCell_other _ _ _ _ (by show w.heap.size+1≠g1;omega)) (hW.bel.setCell (by show w.heap.size<=g1;omega) _).drew⟩
       have h1:=(hP.set hkn ((q:Int)+1)).drew
       rw[<-hq,upTo_step]at h1
       rw[<-hq]
       exact h1)
      clear hP hO hW hMr hc1 hgc hgf hfz h0 hI1 hI2 he hq
      go_wp2_with fail
      refine wpN_held (HeldI (w.heap.size+1) g1 d.m (E q) q) (by kernel_rfl) ?_
      change wpAnyH _ _ _ _ _ _ _ _ (World.drew _)
      refine tq 0 (v:=?_) ?_ ?_;rotate_left;intro w' ⟨s0,s1⟩;go_simp;try with_reducible rfl
      simp only[Act.put,sA,sB,sC]
      refine tq 1 (v:=?_) ?_ ?_;rotate_left;intro w' ⟨s0,s1⟩;go_simp;try with_reducible rfl
      simp only[Act.put,sA,sB,sC]
      refine tq 2 (v:=?_) ?_ ?_;rotate_left;intro w' ⟨s0,s1⟩;go_simp;try with_reducible rfl
      simp only[Act.put,sA,sB,sC]
      refine tq 3 (v:=?_) ?_ ?_;rotate_left;intro w' ⟨s0,s1⟩;go_simp;try with_reducible rfl
      simp only[Act.put,sA,sB,sC]
      refine tq 4 (v:=?_) ?_ ?_;rotate_left;intro w' ⟨s0,s1⟩;go_simp;try with_reducible rfl
      simp only[Act.put,sA,sB,sC]
      refine tq 5 (v:=?_) ?_ ?_;rotate_left;intro w' ⟨s0,s1⟩;go_simp;try with_reducible rfl
      simp only[Act.put,sA,sB,sC]
      refine tq 6 (v:=?_) ?_ ?_;rotate_left;intro w' ⟨s0,s1⟩;go_simp;try with_reducible rfl
      simp only[Act.put,sA,sB,sC]
      refine tq 7 (v:=?_) ?_ ?_;rotate_left;intro w' ⟨s0,s1⟩;go_simp;try with_reducible rfl
      simp only[Act.put,sA,sB,sC]
      refine tq 8 (v:=?_) ?_ ?_;rotate_left;intro w' ⟨s0,s1⟩;go_simp;try with_reducible rfl
      simp only[Act.put,sA,sB,sC]
      refine wpAnyH_ready (rs:=[9]) (by kernel_rfl) (by simp) ?_
      refine AllReadyH.cons rfl (fun K hK=>?_) AllReadyH.nil
      go_simp
      refine hK.out _ _ hS1 (fun _=>?_)
      clear hK K hS0 hS1
      refine wpAnyH_done (by kernel_rfl) ?_ _
      refine QN.normal ?_
      go_wp2
      go_roundw
      case rel=>exact⟨k+1,by omega,by go_num,(uh HN).1,(uh HN).2.1,(uh HN).2.2⟩
      case measure=>simp[intOf];omega
    ·have hk':k=d.m:=by omega
     subst hk'
     have hP':IOwn wr (w.heap.size+2) (.slice (some ⟨g1,0,none⟩) d.m d.m) d.m d.I:=hP.congr (fun i hi=>(if_pos hi).symm)
     have c3:=hMr.c3
     have lb:=hMr.lt
     obtain⟨x0,x1,x2,x3,x4,x5,hfz⟩:=hW.cells
     have fx2:=hfz 2
     have hg1l:=(hP'.lt g1 rfl).2
     have HP:=uy hP'
     have HO:=uy hO
     have HW:=uy hW
     clear hMr hP hP' hO hW hfz
     go_wp2_with fail
     obtain⟨g2,hg2⟩:∃g2,g2=wr.heap.size:=⟨_,rfl⟩
     obtain⟨W3,hW3⟩:∃W3,W3=(wr.setCell ⟨w.heap.size+1,2,none⟩ (.slice (some ⟨wr.heap.size,0,none⟩) d.x d.x)).alloc (.cells (madeCells #[Value.int .i64 0] d.x) 3):=⟨_,rfl⟩
     rw[<-hW3]
     have hX3:IOwn W3 (w.heap.size+2) (.slice (some ⟨g2,0,none⟩) d.x d.x) d.x (upTo d.X 0):=by
      have h1:=IOwn.made (wr.setCell ⟨w.heap.size+1,2,none⟩ (.slice (some ⟨wr.heap.size,0,none⟩) d.x d.x)) (w.heap.size+2) d.x (by simp;omega) hx
      rw[show(wr.setCell ⟨w.heap.size+1,2,none⟩ (.slice (some ⟨wr.heap.size,0,none⟩) d.x d.x)).heap.size=g2 by rw[hg2];simp]at h1
      rw[hW3]
      exact h1.congr (fun i _=>if_neg (by omega))
     have hkp:∀b,b<g2->b≠w.heap.size+1->W3.heap[b]?=wr.heap[b]?:=fun b hb hne=>by
      rw[hW3]
      exact(Deep.blk_alloc_lt _ _ _ (by simp;omega)).trans (Deep.blk_setCell_other _ _ _ _ (by exact hne))
     have hO3:POwn W3 (w.heap.size+2) v0 d.n d.L:=own_at (uh HO) (fun q e=>hkp q (by have:=uh HV0 q e;omega) (by have:=uh HV0 q e;omega))
     have hP3:IOwn W3 (w.heap.size+2) (.slice (some ⟨g1,0,none⟩) d.m d.m) d.m d.I:=own_at (uh HP) (fun q e=>by
      have e':g1=q:=by simpa[Value.ownBlock]using e
      exact hkp q (by omega) (by omega))
     have hD3:DWay w W3 v0 (.slice (some ⟨g1,0,none⟩) d.m d.m) (.slice (some ⟨g2,0,none⟩) d.x d.x) d:=by
      have h1:=(uh HW).set2 (u:=.slice (some ⟨g2,0,none⟩) d.x d.x)
      rw[hg2]at h1 ⊢
      rw[hW3]
      exact h1.keep (Deep.blk_alloc_lt _ _ _ (by simp;omega)) (Deep.blk_alloc_lt _ _ _ (by simp;omega)) (h1.bel.alloc (by simp;omega) _)
     have hg12:g1<g2:=by omega
     have HL3:=uy (show IOwn W3 (w.heap.size+2) (.slice (some ⟨g2,0,none⟩) d.x d.x) d.x (upTo d.X 0)/\IOwn W3 (w.heap.size+2) (.slice (some ⟨g1,0,none⟩) d.m d.m) d.m d.I/\POwn W3 (w.heap.size+2) v0 d.n d.L/\DWay w W3 v0 (.slice (some ⟨g1,0,none⟩) d.m d.m) (.slice (some ⟨g2,0,none⟩) d.x d.x) d from⟨hX3,hP3,hO3,hD3⟩)
     rw[<-hg2]
     clear HP HO HW hX3 hP3 hO3 hD3 hkp hW3 hg2 x0 x1 x2 x3 x4 x5 fx2 c3 lb hzr hkn hk hg1l
     go_loopw [86] (fun i wr=>∃k:Nat,k<=d.x/\i=.int .i64 (k:Int)/\IOwn wr (w.heap.size+2) (.slice (some ⟨g2,0,none⟩) d.x d.x) d.x (upTo d.X k)/\IOwn wr (w.heap.size+2) (.slice (some ⟨g1,0,none⟩) d.m d.m) d.m d.I/\POwn wr (w.heap.size+2) v0 d.n d.L/\DWay w wr v0 (.slice (some ⟨g1,0,none⟩) d.m d.m) (.slice (some ⟨g2,0,none⟩) d.x d.x) d) (fun i _=>d.x-(intOf i).toNat)
     case atStart=>exact⟨0,by omega,rfl,(uh HL3).1,(uh HL3).2.1,(uh HL3).2.2.1,(uh HL3).2.2.2⟩
     case round=>
      clear HL3
      obtain⟨k,hk,rfl,hX',hP,hO,hW⟩:=hrel
      have hMr:=(uh HM).below hW.bel
      have hzr:=hW.size
      obtain⟨x0,x1,x2,x3,x4,x5,hfz⟩:=hW.cells
      by_cases hkn:k<d.x
      ·obtain⟨_,_,e1,_,_,_,hc1,_⟩:=hMr.slots.form (by omega)
       cases e1
       have rk:wr.cell? ⟨R2,k,none⟩=some (.pointer (sltP S k (d.X k))):=hc1 k hkn
       obtain⟨_,_,e2,hgl,hgs,_,hgc,hgf⟩:=hX'.form (by omega)
       cases e2
       have gk:=hgc k hkn
       have gf:=hgf k
       have hQl:=World.block_lt_of_cell? _ _ rk
       dsimp only at hQl
       have hsl:=hMr.sl k hkn
       have SETX:∀x:Int,d.X k=x->IOwn (wr.setCell ⟨g2,k,none⟩ (.int .i64 x)) (w.heap.size+2) (.slice (some ⟨g2,0,none⟩) d.x d.x) d.x (upTo d.X (k+1))/\IOwn (wr.setCell ⟨g2,k,none⟩ (.int .i64 x)) (w.heap.size+2) (.slice (some ⟨g1,0,none⟩) d.m d.m) d.m d.I/\POwn (wr.setCell ⟨g2,k,none⟩ (.int .i64 x)) (w.heap.size+2) v0 d.n d.L/\DWay w (wr.setCell ⟨g2,k,none⟩ (.int .i64 x)) v0 (.slice (some ⟨g1,0,none⟩) d.m d.m) (.slice (some ⟨g2,0,none⟩) d.x d.x) d:=fun x hx'=>by
        refine⟨?_,own_at hP (fun b e=>Deep.blk_setCell_other _ _ _ _ (by
         have e':g1=b:=by simpa[Value.ownBlock]using e
         show b≠g2
         omega)),own_at hO (fun b e=>Deep.blk_setCell_other _ _ _ _ (by have:=uh HV0 b e;show b≠g2;omega)),hW.keep (Deep.blk_setCell_other _ _ _ _ (by show w.heap.size≠g2;omega)) (Deep.blk_setCell_other _ _ _ _ (by show w.heap.size+1≠g2;omega)) (hW.bel.setCell (by show w.heap.size<=g2;omega) _)⟩
        have h1:=hX'.set hkn x
        rw[<-hx',upTo_step]at h1
        rw[<-hx']
        exact h1
       have HSETX:=uy SETX
       rcases uh HX k hkn with h0|h0|⟨h0,h0'⟩
       ·rw[h0,show sltP S k 0=none from if_pos rfl]at rk
        have HN:Hid (IOwn wr (w.heap.size+2) (.slice (some ⟨g2,0,none⟩) d.x d.x) d.x (upTo d.X (k+1))/\IOwn wr (w.heap.size+2) (.slice (some ⟨g1,0,none⟩) d.m d.m) d.m d.I/\POwn wr (w.heap.size+2) v0 d.n d.L/\DWay w wr v0 (.slice (some ⟨g1,0,none⟩) d.m d.m) (.slice (some ⟨g2,0,none⟩) d.x d.x) d):=uy ⟨by rw[<-upTo_zero d.X k h0];exact hX',hP,hO,hW⟩
        clear hX' hP hO hW hMr hc1 hgc hgf hfz h0 hsl SETX HSETX
        go_wp2
        go_roundw
        case rel=>exact⟨k+1,by omega,by go_num,(uh HN).1,(uh HN).2.1,(uh HN).2.2.1,(uh HN).2.2.2⟩
        case measure=>simp[intOf];omega
       ·rw[h0,show sltP S k (-1)=some ⟨S k,0,none⟩from if_neg (by decide)]at rk
        have hgc':=hsl.2 (by omega)
        have gg:=hgc'.gn
        have hsz:=hgc'.lt
        have HN:=uy (SETX (-1) h0)
        clear hX' hP hO hW hMr hc1 hgc hgf hfz h0 hsl SETX HSETX hgc'
        go_wp2
        go_roundw
        case rel=>exact⟨k+1,by omega,by go_num,(uh HN).1,(uh HN).2.1,(uh HN).2.2.1,(uh HN).2.2.2⟩
        case measure=>simp[intOf];omega
       ·obtain⟨q,hq⟩:∃q:Nat,d.X k=(q:Int)+1:=⟨(d.X k-1).toNat,by omega⟩
        have hqn:q<d.n:=by omega
        rw[show sltP S k (d.X k)=some ⟨S k,0,none⟩from if_neg (by omega)]at rk
        have hsc:SCell wr (S k) (d.at (d.X k)).key (E (d.X k-1).toNat):=hsl.1 h0
        rw[show(d.X k-1).toNat=q by omega]at hsc
        have gg:=hsc.gn
        have gp:=hsc.pt
        have hsz:=hsc.lt
        have he:=hMr.ent q hqn
        have hel:=he.lt
        have heb:=((uh HM).ent q hqn).lt
        have hsb:S k≠g2:=fun e=>by
         obtain⟨cc,hcc⟩:∃cc,wr.heap[g2]?=some (.cells cc 3 (0,0)):=by
          obtain⟨_,⟨hv,_⟩|⟨g,cap,cur,hv,_,hblk,_⟩⟩:=hX'
          ·cases hv
          ·cases hv
           exact⟨cur,hblk⟩
         exact type_apart (e▸hsc.ob) hcc (by decide)
        have hwq:IntKind.i64.wrap ((q:Int)+1)=(q:Int)+1:=by rw[IntKind.wrap_i64];omega
        have hS0:HeldX (w.heap.size+1) g2 d.x (S k) (E q) q wr.drew:=⟨x2,gp,he.pl⟩
        have hS1:HeldX (w.heap.size+1) g2 d.x (S k) (E q) q (wr.setCell ⟨g2,k,none⟩ (.int .i64 ((q:Int)+1))).drew:=⟨(cell_set_block (by omega)).trans x2,(cell_set_block (fun e=>hsb e.symm)).trans gp,(cell_set_block (by omega)).trans he.pl⟩
        have HN:=uy (SETX ((q:Int)+1) hq)
        clear hX' hP hO hW hMr hc1 hgc hgf hfz h0 h0' hsl SETX HSETX he hsc hq
        go_wp2_with fail
        refine wpN_held (HeldX (w.heap.size+1) g2 d.x (S k) (E q) q) (by kernel_rfl) ?_
        change wpAnyH _ _ _ _ _ _ _ _ (World.drew _)
        refine tq 0 (v:=?_) ?_ ?_;rotate_left;intro w' ⟨s0,s1,s2⟩;go_simp;try with_reducible rfl
        simp only[Act.put,sA,sB,sC]
        refine tq 1 (v:=?_) ?_ ?_;rotate_left;intro w' ⟨s0,s1,s2⟩;go_simp;try with_reducible rfl
        simp only[Act.put,sA,sB,sC]
        refine tq 2 (v:=?_) ?_ ?_;rotate_left;intro w' ⟨s0,s1,s2⟩;go_simp;try with_reducible rfl
        simp only[Act.put,sA,sB,sC]
        refine tq 3 (v:=?_) ?_ ?_;rotate_left;intro w' ⟨s0,s1,s2⟩;go_simp;try with_reducible rfl
        simp only[Act.put,sA,sB,sC]
        refine tq 4 (v:=?_) ?_ ?_;rotate_left;intro w' ⟨s0,s1,s2⟩;go_simp;try with_reducible rfl
        simp only[Act.put,sA,sB,sC]
        refine tq 5 (v:=?_) ?_ ?_;rotate_left;intro w' ⟨s0,s1,s2⟩;go_simp;try with_reducible rfl
        simp only[Act.put,sA,sB,sC]
        refine tq 6 (v:=?_) ?_ ?_;rotate_left;intro w' ⟨s0,s1,s2⟩;go_simp;try with_reducible rfl
        simp only[Act.put,sA,sB,sC]
        refine tq 7 (v:=?_) ?_ ?_;rotate_left;intro w' ⟨s0,s1,s2⟩;go_simp;try with_reducible rfl
        simp only[Act.put,sA,sB,sC]
        refine tq 8 (v:=?_) ?_ ?_;rotate_left;intro w' ⟨s0,s1,s2⟩;go_simp;try with_reducible rfl
        simp only[Act.put,sA,sB,sC]
        refine tq 9 (v:=?_) ?_ ?_;rotate_left;intro w' ⟨s0,s1,s2⟩;go_simp;try with_reducible rfl
        simp only[Act.put,sA,sB,sC]
        refine tq 10 (v:=?_) ?_ ?_;rotate_left;intro w' ⟨s0,s1,s2⟩;go_simp;try with_reducible rfl
        simp only[Act.put,sA,sB,sC]
        refine tq 11 (v:=?_) ?_ ?_;rotate_left;intro w' ⟨s0,s1,s2⟩;go_simp;try with_reducible rfl
        simp only[Act.put,sA,sB,sC]
        refine wpAnyH_ready (rs:=[12]) (by kernel_rfl) (by simp) ?_
        refine AllReadyH.cons rfl (fun K hK=>?_) AllReadyH.nil
        go_simp
        refine hK.out _ _ hS1 (fun _=>?_)
        clear hK K hS0 hS1
        refine wpAnyH_done (by kernel_rfl) ?_ _
        refine QN.normal ?_
        go_wp2
        go_roundw
        case rel=>exact⟨k+1,by omega,by go_num,(uh HN).1.drew,(uh HN).2.1.drew,(uh HN).2.2.1.drew,(uh HN).2.2.2.keep rfl rfl (uh HN).2.2.2.bel.drew⟩
        case measure=>simp[intOf];omega
      ·have hk':k=d.x:=by omega
       subst hk'
       have y0:wr.cell? ⟨w.heap.size,0,none⟩=some (.slice none 0 0):=by simp[World.cell?,hW.b0]
       have y1:wr.cell? ⟨w.heap.size,1,none⟩=some (.slice none 0 0):=by simp[World.cell?,hW.b0]
       have y2:wr.cell? ⟨w.heap.size,2,none⟩=some (.slice none 0 0):=by simp[World.cell?,hW.b0]
       have y3:wr.cell? ⟨w.heap.size,3,none⟩=some (.int .i64 0):=by simp[World.cell?,hW.b0]
       have y4:wr.cell? ⟨w.heap.size,4,none⟩=some (.int .i64 0):=by simp[World.cell?,hW.b0]
       have y5:wr.cell? ⟨w.heap.size,5,none⟩=some (.int .i64 0):=by simp[World.cell?,hW.b0]
       have yf:∀q,wr.frozen? ⟨w.heap.size,q,none⟩=false:=fun q=>by simp[World.frozen?,hW.b0]
       have hyl:w.heap.size<wr.heap.size:=by omega
       have hX'':IOwn wr (w.heap.size+2) (.slice (some ⟨g2,0,none⟩) d.x d.x) d.x d.X:=hX'.congr (fun i hi=>(if_pos hi).symm)
       obtain⟨va,vc,ev⟩:∃va vc,v0=.slice va d.n vc:=by
        obtain⟨_,⟨hv,h0⟩|⟨g,cap,cur,hv,_⟩⟩:=hO
        ·exact⟨none,0,by rw[hv,h0]⟩
        ·exact⟨_,_,hv⟩
       subst ev
       have HFIN:Hid (∀W':World,Below (w.heap.size) w W'->wr.heap.size<=W'.heap.size->(∀b,w.heap.size+2<=b->W'.heap[b]?=wr.heap[b]?)->DV d W' (.slice va d.n vc) (.slice (some ⟨g1,0,none⟩) d.m d.m) (.slice (some ⟨g2,0,none⟩) d.x d.x) w.heap.size W'.heap.size):=uy (fun W' hB hz hb=>by
        have o0:POwn W' w.heap.size (.slice va d.n vc) d.n d.L:=own_mono (own_at hO (fun q e=>hb q (hO.lt q e).1)) (by omega)
        have o1:IOwn W' w.heap.size (.slice (some ⟨g1,0,none⟩) d.m d.m) d.m d.I:=own_mono (own_at hP (fun q e=>hb q (hP.lt q e).1)) (by omega)
        have o2:IOwn W' w.heap.size (.slice (some ⟨g2,0,none⟩) d.x d.x) d.x d.X:=own_mono (own_at hX'' (fun q e=>hb q (hX''.lt q e).1)) (by omega)
        refine⟨PrV.of o0,InV.of o1,InV.of o2,fun q e e'=>?_,fun q e e'=>?_,fun q e e'=>?_⟩
        ·have:=(uh HV0 q e).2
         have e2:g1=q:=by simpa[Value.ownBlock]using e'
         omega
        ·have:=(uh HV0 q e).2
         have e2:g2=q:=by simpa[Value.ownBlock]using e'
         omega
        ·have e1:g1=q:=by simpa[Value.ownBlock]using e
         have e2:g2=q:=by simpa[Value.ownBlock]using e'
         omega)
       have HBW:=uy hW.bel
       clear hX' hX'' hP hO hW hMr hfz
       go_wp2
       refine bodyPost_ret (v:=DvV (.slice va d.n vc) (.slice (some ⟨g1,0,none⟩) d.m d.m) (.slice (some ⟨g2,0,none⟩) d.x d.x) d) (by simp[results,Tryz.results262,go_sem,y0,y1,y2,y3,y4,y5]) rfl ?_
       have hbel:Below w.heap.size w ((((((wr.setCell ⟨w.heap.size,0,none⟩ (.slice va d.n vc)).setCell ⟨w.heap.size,1,none⟩ (.slice (some ⟨g1,0,none⟩) d.m d.m)).setCell ⟨w.heap.size,2,none⟩ (.slice (some ⟨g2,0,none⟩) d.x d.x)).setCell ⟨w.heap.size,3,none⟩ (.int .i64 d.used)).setCell ⟨w.heap.size,4,none⟩ (.int .i64 d.live)).setCell ⟨w.heap.size,5,none⟩ (.int .i64 d.turns)):=by
        iterate 6 (refine Below.setCell ?_ (by exact Nat.le_refl _) _)
        exact uh HBW
       refine⟨⟨_,_,_,rfl,uh HFIN _ hbel (by simp) (fun b hb=>?_)⟩,hbel⟩
       iterate 6 (refine(Deep.blk_setCell_other _ _ _ _ (by show b≠w.heap.size;omega)).trans ?_)
       rfl
end
section
open Go.RowKit
theorem noD_at(w:World):DAt w none none none noD:=⟨.inl rfl,.inl rfl,.inl rfl⟩
end
section
open Go.RowKit
attribute [local go_sem] run_store_float run_equalIn_float
section
variable {w W W':World} {la ia xa:Option Addr} {lc ic xc:Nat} {d:Dc} {v:Vl}
end
theorem PrV.wide{f:Nat->Pr}{n:Nat}{w:World}{v:Value}{lo hi lo' hi':Nat}(h:PrV f n w v lo hi)(h1:lo'<=lo)(h2:hi<=hi'):PrV f n w v lo' hi':=by
 rcases h with h|⟨b,cp,N,g,e1,e2,e3,e4⟩
 ·exact .inl h
 ·exact .inr ⟨b,cp,N,g,e1,by omega,by omega,e4⟩
theorem InV.wide{f:Nat->Int}{n:Nat}{w:World}{v:Value}{lo hi lo' hi':Nat}(h:InV f n w v lo hi)(h1:lo'<=lo)(h2:hi<=hi'):InV f n w v lo' hi':=by
 rcases h with h|⟨b,cp,N,g,e1,e2,e3,e4⟩
 ·exact .inl h
 ·exact .inr ⟨b,cp,N,g,e1,by omega,by omega,e4⟩
theorem DV.wide{d:Dc}{w:World}{v0 v1 v2:Value}{lo hi lo' hi':Nat}(h:DV d w v0 v1 v2 lo hi)(h1:lo'<=lo)(h2:hi<=hi'):DV d w v0 v1 v2 lo' hi':=⟨h.log.wide h1 h2,h.ints.wide h1 h2,h.index.wide h1 h2,h.a01,h.a02,h.a12⟩
end
section
open Go.RowKit
attribute [local go_sem] run_store_float run_equalIn_float run_store_func
abbrev D0:Array Value:=#[.slice none 0 0,.slice none 0 0,.slice none 0 0,.int .i64 0,.int .i64 0,.int .i64 0]
theorem sz_dict(w:World):(sizeOf 92).run Tryz.prog w=.ok 6 w:=by kernel_rfl
theorem st_dictA{w:World}{b:Nat}(hb:w.heap[b]?=some (.cells D0 92 (0,0)))(a0 a1 a2:Option Addr)(n0 n1 n2 c0 c1 c2:Nat)(d:Dc):∃w',(Instr.storeAt 92 (.pointer (some ⟨b,0,none⟩)) (DvV (.slice a0 n0 c0) (.slice a1 n1 c1) (.slice a2 n2 c2) d)).run Tryz.prog w=.ok () w'/\Stored w w' b #[.slice a0 n0 c0,.slice a1 n1 c1,.slice a2 n2 c2,.int .i64 d.used,.int .i64 d.live,.int .i64 d.turns] 92:=
 storeAt_any (old:=D0.toList) (vs:=[.slice a0 n0 c0,.slice a1 n1 c1,.slice a2 n2 c2,.int .i64 d.used,.int .i64 d.live,.int .i64 d.turns]) sz_dict hb rfl rfl (by simp[Value.oneCell']) rfl
theorem small0:Small noD:=⟨by decide,by decide,by decide⟩
theorem BMut.norow{w:World}{bk:Nat}{r0 r1:Value}{R2:Nat}{E S:Nat->Nat}{d:Dc}(h:BMut w bk r0 r1 R2 E S d){q:Nat}{cs:Array Value}(hq:w.heap[q]?=some (.cells cs 96 (0,0)))(hb:bk<q):¬mM bk r0 R2 q:=by
 rintro(e|e|e)
 ·omega
 ·obtain⟨cur,hc,_⟩:=own_blk h.log e
  rw[hc]at hq
  cases hq
 ·obtain⟨cur,hc,_⟩:=own_blk h.slots (show(Value.slice (some ⟨R2,0,none⟩) d.x d.x).ownBlock=some q by rw[e];rfl)
  rw[hc]at hq
  cases hq
theorem asDict_any(A:Ad)(t:Tb)(s:Sto)(b0:Nat)(B:Nat->Nat)(j:Nat)(w:World)(hT:Tabs w)(hN:NdS w s b0 B)(hf:forestOk s.nf s.F=0)(hj:j<s.nf)(hnv:t.nv=nf s.F j)(hV:VAt w A.va t.nv t.V)(hok:∀i,i<t.nv->okV (t.V i)=true):
  Calls Tryz.prog 235 #[ShdA (B j) A t] w fun e w'=>(∃v0 v1 v2,e=.returned (DvV v0 v1 v2 (looseD s.F j t.V t.nv))/\DV (looseD s.F j t.V t.nv) w' v0 v1 v2 w.heap.size w'.heap.size)/\Below w.heap.size w w':=by
 obtain⟨W,hW⟩:∃W,W=(w.alloc (.cells #[.slice A.va t.nv A.vc,.slice A.la t.d.n A.lc,.slice A.ia t.d.m A.ic,.slice A.xa t.d.x A.xc,.int .i64 t.d.used,.int .i64 t.d.live,.int .i64 t.d.turns,.pointer (some ⟨B j,0,none⟩)] 236)).alloc (.cells D0 92):=⟨_,rfl⟩
 have hbW:Below w.heap.size w W:=by rw[hW];exact((Below.refl _ _).alloc (Nat.le_refl _) _).alloc (by simp) _
 have hzW:W.heap.size=w.heap.size+1+1:=by rw[hW];simp
 have b0':W.heap[w.heap.size]?=some (.cells #[.slice A.va t.nv A.vc,.slice A.la t.d.n A.lc,.slice A.ia t.d.m A.ic,.slice A.xa t.d.x A.xc,.int .i64 t.d.used,.int .i64 t.d.live,.int .i64 t.d.turns,.pointer (some ⟨B j,0,none⟩)] 236 (0,0)):=by
  rw[hW]
  exact(Deep.blk_alloc_lt _ _ _ (by simp)).trans (Deep.blk_alloc_new _ _)
 have b1:W.heap[w.heap.size+1]?=some (.cells D0 92 (0,0)):=by
  rw[hW]
  have h1:=Deep.blk_alloc_new (w.alloc (.cells #[.slice A.va t.nv A.vc,.slice A.la t.d.n A.lc,.slice A.ia t.d.m A.ic,.slice A.xa t.d.x A.xc,.int .i64 t.d.used,.int .i64 t.d.live,.int .i64 t.d.turns,.pointer (some ⟨B j,0,none⟩)] 236)) (.cells D0 92)
  simpa using h1
 obtain⟨N,M,hN1,hN2⟩:=hN
 have HC:Hid (∀w2,Below W.heap.size W w2->Calls Tryz.prog 157 #[ShdA (B j) A t] w2 fun e w'=>(∃v,e=.returned v/\POwn w' w2.heap.size v t.nv (tabF s j t))/\Below w2.heap.size w2 w'):=uy (fun w2 h2=>by
  have hb2:=hbW.trans (h2.mono (by omega))
  rw[hnv]
  exact shapedPairs_nd s b0 B N M A t j w2 (hN1.below hb2) hN2 hf hj (hV.below hb2 rfl) hnv)
 have hn12:t.nv<=12:=by rw[hnv];exact nf_le hf hj
 have HLL:Hid (∀i,i<=t.nv->LooseL s.F j t.V i (looseD s.F j t.V i)):=uy (fun i hi=>loose_log hf hj (fun q hq=>hok q (by omega)) i (by omega))
 have HPUT:Hid (∀k,k<t.nv->likeB (strV (fld s.F j k)) (strV (fld s.F j k))=true/\Ky (strV (fld s.F j k))/\(t.V k).ok=true/\(t.V k).kind≠0/\(∀i,i<(looseD s.F j t.V k).n->((looseD s.F j t.V k).L i).turn≠0->likeB ((looseD s.F j t.V k).L i).key (strV (fld s.F j k))=false)/\placeI (looseD s.F j t.V k) (strV (fld s.F j k)) (hN (strV (fld s.F j k)))=-1):=uy (fun k hk=>by
  have hl:=(uh HLL k (by omega)).ls
  have hky:=ky_str (fld_size hf hj (show k<nf s.F j by omega))
  have hv':(t.V k).ok=true/\(t.V k).kind≠0:=by simpa[okV]using hok k hk
  refine⟨keyLaw.refl _ hky,hky,hv'.1,hv'.2,hl.no hf hj (by omega),?_⟩
  rcases hl.inv.i0.place keyLaw hky with⟨q,h1,h2,h3,h4⟩|⟨h1,h2⟩
  ·have:=hl.place hf hj (show k<nf s.F j by omega)
   omega
  ·exact h2)
 have hT2:Tabs W:=lastsT _ _ hT hbW
 have HTW:=uy hT2
 have hNG:5<=w.heap.size:=hT.sz
 have HBW:=uy hbW
 have HB0:=uy b0'
 have HB1:=uy b1
 obtain⟨P,hP⟩:∃P,P=tabF s j t:=⟨_,rfl⟩
 rw[<-hP]at HC
 have HP:=uy hP
 clear hN1 hN2 hf hj hnv hV hbW hP b0' b1 hok hT hT2
 go_enter Tryz.func235,Tryz.ntmps235
 go_wp2_with fail
 rw[<-hW]
 clear hW
 go_wp2_with fail
 refine(openBook_own none 0 none 0 none 0 noD W (noD_at W) small0 (noD_inv (K:=Ky) (hf:=hN)).i0.d3 (noD_inv (K:=Ky) (hf:=hN)).i0.d4).mono ?_
 rintro e w2 ⟨⟨bk,R0,R1,R2,E,S,rfl,hBk,hSt⟩,hb2⟩
 have hM2:=BMut.of_open hBk hSt small0
 have hbk:=hSt.gb
 have HM2:=uy hM2
 have HB2:=uy hb2
 have HX0:=uy ((hb2.block _ (by omega)).trans (uh HB0))
 have z2:=hb2.size
 have hbl:=hM2.lt
 clear hBk hSt hM2 hb2 HB0
 go_wp2_with (first|(refine wpList_load_row rfl 236 _ rfl w.heap.size rfl _ _ _ _ (uh HX0) Tryz.underlying236 rfl info8 ?_))
 refine(uh HC _ (uh HB2)).mono ?_
 rintro e w3 ⟨⟨v,rfl,hown⟩,hb3⟩
 obtain⟨va,vc,rfl⟩:=own_slice hown
 have HM3:=uy ((uh HM2).below hb3)
 have HBW3:=uy ((uh HBW).trans (((uh HB2).trans (hb3.mono (by omega))).mono (by omega)))
 have HBW3':=uy ((uh HB2).trans (hb3.mono (by omega)))
 have z3:=hb3.size
 have HO:=uy hown
 have HLT:=uy hown.lt
 clear hb3 hown HC HX0 HM2 HB2
 go_wp2_with fail
 go_loopw [11] (fun i wr=>∃(k:Nat) (r0 r1:Value) (R2:Nat) (E S:Nat->Nat),k<=t.nv/\i=.int .i64 k/\BMut wr bk r0 r1 R2 E S (looseD s.F j t.V k)/\Below bk w3 wr/\∀q,(Value.slice va t.nv vc).ownBlock=some q->wr.heap[q]?=w3.heap[q]?) (fun i _=>t.nv-(intOf i).toNat)
 case atStart=>exact⟨0,_,_,_,_,_,by omega,rfl,uh HM3,Below.refl _ _,fun _ _=>rfl⟩
 case round=>
  obtain⟨k,r0,r1,R2k,Ek,Sk,hk,rfl,hMk,hb,hrow⟩:=hrel
  have hzr:=hb.size
  by_cases hkn:k<t.nv
  case neg=>
   have hke:k=t.nv:=by omega
   have hLL:=uh HLL k hk
   have hI:=hLL.ls.inv
   have hsm:Small (looseD s.F j t.V k):=hI.small (by rw[hLL.m];omega)
   have HFr:=uy ((hb.block (w.heap.size+1) (by omega)).trans (((uh HBW3').block _ (by omega)).trans (uh HB1)))
   have HBr:=uy ((uh HBW3).trans (hb.mono (by omega)))
   have HMk:=uy hMk
   have HI:=uy hI
   have HSM:=uy hsm
   clear hb hrow hMk hLL hI hsm hkn
   obtain⟨D,hD⟩:∃D,D=looseD s.F j t.V k:=⟨_,rfl⟩
   rw[<-hD]at HMk HI HSM
   have HD:Hid (looseD s.F j t.V t.nv=D):=uy (by rw[hD,hke])
   rw[hke]
   clear hD
   go_wp2_with fail
   refine(dict_any bk r0 r1 R2k Ek Sk D wr (uh HMk) (uh HSM) (fun j hj=>by
    rcases(uh HI).i0.ints j hj with e|e<;>omega) (fun j hj=>by
    rcases(uh HI).i0.idx.range j hj with e|e|⟨e1,e2,_⟩
    ·exact .inl e
    ·exact .inr (.inl e)
    ·exact .inr (.inr ⟨e1,by omega⟩))).mono ?_
   rintro e w6 ⟨⟨u0,u1,u2,rfl,hDV⟩,hb6⟩
   obtain⟨ua,uc,ub,ud,ue,uf,e0,e1,e2,-⟩:=hDV.at
   subst e0 e1 e2
   obtain⟨w7,hst,hS7⟩:=st_dictA ((hb6.block _ (by omega)).trans (uh HFr)) ua ub ue D.n D.m D.x uc ud uf D
   have HST:=uy hst
   have c0:=st_cells hS7 0 _ rfl
   have c1:=st_cells hS7 1 _ rfl
   have c2:=st_cells hS7 2 _ rfl
   have c3:=st_cells hS7 3 _ rfl
   have c4:=st_cells hS7 4 _ rfl
   have c5:=st_cells hS7 5 _ rfl
   have HS7:=uy hS7
   have HDV:=uy hDV
   have HB6:=uy ((uh HBr).trans (hb6.mono (by omega)))
   have z6:=hb6.size
   clear hDV hb6 hst hS7
   go_wp2_with (refine wpList_store rfl rfl _ (uh HST) ?_)
   refine bodyPost_ret (v:=DvV (.slice ua D.n uc) (.slice ub D.m ud) (.slice ue D.x uf) D) (by simp[results,Tryz.results235,go_sem,c0,c1,c2,c3,c4,c5]) rfl ⟨⟨_,_,_,by rw[uh HD],?_⟩,?_⟩
   ·rw[uh HD]
    refine DV.wide (DV.keep (uh HDV) (fun b hb _=>(uh HS7).other b (by omega))) (by omega) (by rw[(uh HS7).size];exact Nat.le_refl _)
   ·exact(uh HS7).below (uh HB6) (by omega)
  obtain⟨g,cp,hv,hg1,hg2,_,hpc,_⟩:=POwn.form (uh HO) (by omega)
  cases hv
  have hgr0:=hrow g rfl
  obtain⟨curg,hcurg,_⟩:=own_blk (uh HO) rfl
  have hgk:wr.heap[g]?=some (.cells curg 96 (0,0)):=hgr0.trans hcurg
  have hgr:=blk_lt hgk
  have HRG:=uy (pair_mid ((hpc k hkn).keep (fun q=>World.cell?_of_block (a:=⟨g,q,none⟩) hgr0)))
  obtain⟨p,hp⟩:∃p,p=P k:=⟨_,rfl⟩
  rw[<-hp]at HRG
  have HPK:Hid (p.key=strV (fld s.F j k)/\p.val=t.V k):=uy (by rw[hp,uh HP];exact⟨rfl,rfl⟩)
  have HBb:=uy hb
  have HMk:=uy hMk
  have HROW:=uy hrow
  have HGK:=uy hgk
  have hlk:=hMk.lt
  clear hb hrow hpc hp hMk hgr0 hgk hcurg
  go_upto_region 5 with(first|(refine wpList_load_mid rfl 96 _ rfl g (k*11) rfl (prL p) _ (uh HRG) Tryz.underlying96 rfl info11 ?_)|(refine wpList_store rfl rfl _ (st_pairN wr p) ?_))
  obtain⟨w4,hw4⟩:∃w4,w4=wr.alloc (.cells (prL p).toArray 96):=⟨_,rfl⟩
  rw[<-hw4]
  have hb4:Below wr.heap.size wr w4:=by rw[hw4];exact(Below.refl _ _).alloc (Nat.le_refl _) _
  have hx4:w4.heap[wr.heap.size]?=some (.cells (prL p).toArray 96 (0,0)):=by rw[hw4];exact Deep.blk_alloc_new _ _
  have l4:=blk_lt hx4
  have q0:w4.cell? ⟨wr.heap.size,0,none⟩=some (.int .i64 p.key.kind):=by rw[cell_of_row w4 _ _ _ _ _ hx4];rfl
  have q1:w4.cell? ⟨wr.heap.size,1,none⟩=some (.int .i64 p.key.num):=by rw[cell_of_row w4 _ _ _ _ _ hx4];rfl
  have q2:w4.cell? ⟨wr.heap.size,2,none⟩=some (.float .f64 p.key.flt):=by rw[cell_of_row w4 _ _ _ _ _ hx4];rfl
  have q3:w4.cell? ⟨wr.heap.size,3,none⟩=some (.string p.key.str):=by rw[cell_of_row w4 _ _ _ _ _ hx4];rfl
  have q4:w4.cell? ⟨wr.heap.size,4,none⟩=some (.int .i64 p.key.ref):=by rw[cell_of_row w4 _ _ _ _ _ hx4];rfl
  have q5:w4.cell? ⟨wr.heap.size,5,none⟩=some (.int .i64 p.val.kind):=by rw[cell_of_row w4 _ _ _ _ _ hx4];rfl
  have q6:w4.cell? ⟨wr.heap.size,6,none⟩=some (.int .i64 p.val.num):=by rw[cell_of_row w4 _ _ _ _ _ hx4];rfl
  have q7:w4.cell? ⟨wr.heap.size,7,none⟩=some (.float .f64 p.val.flt):=by rw[cell_of_row w4 _ _ _ _ _ hx4];rfl
  have q8:w4.cell? ⟨wr.heap.size,8,none⟩=some (.string p.val.str):=by rw[cell_of_row w4 _ _ _ _ _ hx4];rfl
  have q9:w4.cell? ⟨wr.heap.size,9,none⟩=some (.int .i64 p.val.ref):=by rw[cell_of_row w4 _ _ _ _ _ hx4];rfl
  have HB4:=uy hb4
  clear hw4 hb4 hx4 HRG
  have HCALL:Hid (Calls Tryz.prog 261 #[.pointer (some ⟨bk,0,none⟩),V p.key.kind p.key.num p.key.flt p.key.str p.key.ref,V p.val.kind p.val.num p.val.flt p.val.str p.val.ref] w4 fun e w'=>((∃u,e=.returned u)/\∃r0' r1' R2' E2 S',BMut w' bk r0' r1' R2' E2 S' (looseD s.F j t.V (k+1)))/\KX (mM bk r0 R2k) bk w4 w'):=uy (by
   obtain⟨p1,p2,p3,p4,p5,p6⟩:=uh HPUT k hkn
   have hLL:=uh HLL k hk
   have hTk:Tabs w4:=by
    have h1:Below 5 W w4:=(((uh HBW3').mono (by omega)).trans ((uh HBb).mono (by omega))).trans ((uh HB4).mono (by omega))
    exact(uh HTW).below h1 (Nat.le_refl _)
   have h:=put_any Tabs lastsT hN Ky keyLaw hsI_all bk (fun a b ha hb=>ha.below hb (by omega)) r0 r1 R2k Ek Sk (looseD s.F j t.V k) (strV (fld s.F j k)) (t.V k) w4 hTk ((uh HMk).below (uh HB4)) (hLL.ls.inv.small (by rw[hLL.m];omega)) (by rw[hLL.m];omega) hLL.ls.inv p2 p2.1 p3 ⟨fun e=>absurd e p4,fun e=>absurd e.1 (show¬(4:Int)=2 by decide)⟩
   rw[(uh HPK).1,(uh HPK).2]
   exact h.mono fun e w' q=>⟨q.1,q.2.mono fun b _ h=>h p6 (fun h=>by obtain⟨h1,h2⟩:=h;rw[hLL.live,hLL.n]at h2;omega) rfl⟩)
  go_wp2_with fail
  refine(uh HCALL).mono ?_
  rintro e w5 ⟨⟨⟨uu,rfl⟩,r0',r1',R2',E2,S2,hM5⟩,hkx⟩
  have HM5:=uy hM5
  have HB5:Hid (Below bk w3 w5):=uy (((uh HBb).trans ((uh HB4).mono (by omega))).trans hkx.bel)
  have HR5:Hid (∀q,(Value.slice (some ⟨g,0,none⟩) t.nv vc).ownBlock=some q->w5.heap[q]?=w3.heap[q]?):=uy (fun q e=>by
   cases e
   have h4:=(uh HB4).block g hgr
   have hg4:w4.heap[g]?=some (.cells curg 96 (0,0)):=h4.trans (uh HGK)
   exact(hkx.blk g (blk_lt hg4) (((uh HMk).below (uh HB4)).norow hg4 (by have:=uh HLT;omega))).trans (h4.trans (uh HROW g rfl)))
  clear hM5 hkx q0 q1 q2 q3 q4 q5 q6 q7 q8 q9 HCALL
  go_wp2
  go_roundw
  case rel=>exact⟨k+1,r0',r1',R2',E2,S2,by omega,by go_num,uh HM5,uh HB5,uh HR5⟩
  case measure=>simp[intOf];omega
end
section
open Go.RowKit
attribute [local go_sem] run_store_float run_equalIn_float run_store_func
theorem infoFunc:(Tryz.prog.info? 1).map (fun i=>(i.zero,i.size,i.bytes))=some (some .nilFunc,1,8):=by kernel_rfl
theorem onFailure_any(Z:Nat->Prop)(c B0:Nat)(vN vT vS:Value)(Bk:Nat->Nat)(A:Nat->Ad)(s:Sto)(fn:Nat)(cs:Array Value)(w:World)(hM:WkM Z w c B0 vN vT vS (.slice none 0 0) Bk A s):
  Calls Tryz.prog 201 #[.pointer (some ⟨c,0,none⟩),.func (.func fn) #[] cs] w fun e w'=>(∃u,e=.returned u)/\∃g cp,w.heap.size<=g/\w'.ownsRow w.heap.size 1 1 (.slice (some ⟨g,0,none⟩) 1 cp) 1 [.func (.func fn) #[] cs]/\WkM Z w' c B0 vN vT vS (.slice (some ⟨g,0,none⟩) 1 cp) Bk A s/\Dst (OwnW B0 c vN vT vS w) w (OwnW B0 c vN vT vS w') w'/\∀k,k<w.heap.size->k≠c->w'.heap[k]?=w.heap[k]?:=by
 obtain⟨i0,hi0,hz0,hz1,hz2⟩:=info_parts infoFunc
 obtain⟨c0,c1,c2,c3,cf⟩:=hM.cells
 have hcl:=hM.lt
 have HF:Hid (∀g3 cp3 w3,w3.ownsRow w.heap.size 1 1 (.slice (some ⟨g3,0,none⟩) 1 cp3) 1 ([]++[.func (.func fn) #[] cs])->(w.alloc (.cells #[.func (.func fn) #[] cs] 1)).grownBy w3 none->g3=w.heap.size+1->
   w3.cell? ⟨c,3,none⟩=some (.slice none 0 0)/\w3.frozen? ⟨c,3,none⟩=false/\c<w3.heap.size/\((w3.setCell ⟨c,3,none⟩ (.slice (some ⟨g3,0,none⟩) 1 cp3)).ownsRow w.heap.size 1 1 (.slice (some ⟨g3,0,none⟩) 1 cp3) 1 [.func (.func fn) #[] cs]/\WkM Z (w3.setCell ⟨c,3,none⟩ (.slice (some ⟨g3,0,none⟩) 1 cp3)) c B0 vN vT vS (.slice (some ⟨g3,0,none⟩) 1 cp3) Bk A s/\Dst (OwnW B0 c vN vT vS w) w (OwnW B0 c vN vT vS (w3.setCell ⟨c,3,none⟩ (.slice (some ⟨g3,0,none⟩) 1 cp3))) (w3.setCell ⟨c,3,none⟩ (.slice (some ⟨g3,0,none⟩) 1 cp3))/\∀k,k<w.heap.size->k≠c->(w3.setCell ⟨c,3,none⟩ (.slice (some ⟨g3,0,none⟩) 1 cp3)).heap[k]?=w.heap[k]?)):=uy (by
  intro g3 cp3 w3 h1 h2 h3
  have hb3:Below w.heap.size w w3:=⟨h2.os,h2.tape,h2.output,Nat.le_trans (by simp) h2.size,fun k hk=>(h2.block k (by simp;omega) (by simp)).trans (Deep.blk_alloc_lt _ _ _ hk)⟩
  obtain⟨m3,d3⟩:=hM.below hb3
  obtain⟨_,_,_,e3,ef⟩:=m3.cells
  obtain⟨m4,d4⟩:=m3.setU (ua:=some ⟨g3,0,none⟩) (un:=1) (uc:=cp3)
  refine⟨e3,ef 3,m3.lt,own_keep h1 (fun q e=>Deep.blk_setCell_other _ _ _ _ (by cases e;show g3≠c;omega)),m4,d3.trans d4,fun k hk hkc=>(Deep.blk_setCell_other _ _ _ _ (by exact hkc)).trans (hb3.block k hk)⟩)
 clear hM c0 c1 c2
 go_enter Tryz.func201,Tryz.ntmps201
 go_wp2_with (at_builtin;refine wpList_append_lies _ rfl _ _ 196 rfl w.heap.size 1 i0 .nilFunc 1 8 Tryz.underlying196 hi0 hz0 hz1 hz2 rfl (by decide) (.slice none 0 0) 0 [] rfl (World.ownsRow_nil _ _ _ _) ⟨w.heap.size,0,none⟩ 1 1 [.func (.func fn) #[] cs] rfl rfl (World.news_of_block (Deep.blk_alloc_new _ _)) (by simp[Value.oneCell']) (by decide) (by decide) (by decide) (by simp) (w.heap.size+1) (by simp) ?_;intro g3 cp3 w3 hown3 hgr3 hloc3 hlt3;obtain⟨e3,ef,hl3,HM3⟩:=uh HF g3 cp3 w3 hown3 hgr3 (hloc3.resolve_left (by simp[Value.ownBlock]));have HM3:=uy HM3;have hg3:w.heap.size<=g3:=(by have:=hloc3.resolve_left (by simp[Value.ownBlock]);omega);clear hown3 hgr3 hloc3)
 go_end0
 exact⟨⟨_,rfl⟩,g3,cp3,hg3,(uh HM3).1,(uh HM3).2.1,(uh HM3).2.2.1,(uh HM3).2.2.2⟩
end
end Go.Proofs.YtgmlkfgfjjggnaaGreatDoor
