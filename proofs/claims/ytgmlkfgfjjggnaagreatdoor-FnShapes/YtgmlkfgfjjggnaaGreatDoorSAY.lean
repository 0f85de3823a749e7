import Derived.Test.YtgmlkfgfjjggnaaGreatDoorSAX
import Derived.Test.YtgmlkfgfjjggnaaGreatDoorSAR
import Derived.Test.YtgmlkfgfjjggnaaGreatDoorSAK
set_option linter.unusedVariables false
set_option linter.unusedSimpArgs false
set_option maxHeartbeats 40000000
set_option maxRecDepth 100000
namespace Go.Proofs.YtgmlkfgfjjggnaaGreatDoor
section
open Go.RowKit
attribute [local go_sem] run_store_float run_equalIn_float
structure VBox (W:World) (b:Nat) (k:Vl):Prop where
 lt:b<W.heap.size
 k0:W.cell? ⟨b,0,none⟩=some (.int .i64 k.kind)
 k1:W.cell? ⟨b,1,none⟩=some (.int .i64 k.num)
 k2:W.cell? ⟨b,2,none⟩=some (.float .f64 k.flt)
 k3:W.cell? ⟨b,3,none⟩=some (.string k.str)
 k4:W.cell? ⟨b,4,none⟩=some (.int .i64 k.ref)
theorem VBox.keep{W W':World}{b:Nat}{k:Vl}(h:VBox W b k)(hz:W.heap.size<=W'.heap.size)(e:W'.heap[b]?=W.heap[b]?):VBox W' b k:=
 ⟨Nat.lt_of_lt_of_le h.lt hz,(World.cell?_of_block e).trans h.k0,(World.cell?_of_block e).trans h.k1,(World.cell?_of_block e).trans h.k2,(World.cell?_of_block e).trans h.k3,(World.cell?_of_block e).trans h.k4⟩
def HeldN(n0 bk:Nat)(k v:Vl)(t:Int)(a:Option Addr)(n c:Nat)(W:World):Prop:=W.cell? ⟨n0,0,none⟩=some (.int .i64 k.kind)/\W.cell? ⟨n0,1,none⟩=some (.int .i64 k.num)/\W.cell? ⟨n0,2,none⟩=some (.float .f64 k.flt)/\W.cell? ⟨n0,3,none⟩=some (.string k.str)/\W.cell? ⟨n0,4,none⟩=some (.int .i64 k.ref)/\W.cell? ⟨n0+1,0,none⟩=some (.int .i64 v.kind)/\W.cell? ⟨n0+1,1,none⟩=some (.int .i64 v.num)/\W.cell? ⟨n0+1,2,none⟩=some (.float .f64 v.flt)/\W.cell? ⟨n0+1,3,none⟩=some (.string v.str)/\W.cell? ⟨n0+1,4,none⟩=some (.int .i64 v.ref)/\W.cell? ⟨bk,6,none⟩=some (.int .i64 t)/\W.cell? ⟨bk,0,none⟩=some (.slice a n c)
def HeldT(bk n0 R1 m k1 q:Nat)(W:World):Prop:=W.cell? ⟨bk,1,none⟩=some (.slice (some ⟨R1,0,none⟩) m k1)/\W.cell? ⟨n0,1,none⟩=some (.int .i64 ((q:Int)+1))
theorem livN_hld{K:Vl->Prop}{c:Dc}(h:Core K c)(hl:c.live<500):(hldL c c.n).length+1<=500:=by
 have h1:=hldL_le c c.n
 have h2:=h.live_n
 have h3:lvN c=(livL c c.n).length:=rfl
 omega
structure AEnd (W:World) (bk:Nat) (r0 r1:Value) (R2:Nat) (E S:Nat->Nat) (D:Dc):Prop where
 bm:BMut W bk r0 r1 R2 E S D
 e:ECell W (E D.n) (D.L D.n) D.n
 eb:bk<E D.n
 ne:∀i,i<D.n->E i≠E D.n
theorem AEnd.fin{Wx w3:World}{bk:Nat}{r0 r1:Value}{R2:Nat}{E S:Nat->Nat}{D:Dc}(h:AEnd Wx bk r0 r1 R2 E S D){o:Obj}{g3 cp3:Nat}(h1:w3.ownsRow (bk+1) tEnt 1 (.slice (some ⟨g3,0,none⟩) (D.n+1) cp3) (D.n+1) (ptL (fun i=>some ⟨E i,0,none⟩) D.n++[.pointer (some ⟨E D.n,0,none⟩)]))(hg:(Wx.alloc o).grownBy w3 r0.ownBlock)(hl:r0.ownBlock=some g3\/g3=Wx.heap.size+1):
  w3.cell? ⟨bk,0,none⟩=some r0/\w3.frozen? ⟨bk,0,none⟩=false/\bk<w3.heap.size/\BMut (w3.setCell ⟨bk,0,none⟩ (.slice (some ⟨g3,0,none⟩) (D.n+1) cp3)) bk (.slice (some ⟨g3,0,none⟩) (D.n+1) cp3) r1 R2 E S {D with n:=D.n+1}/\Below bk Wx (w3.setCell ⟨bk,0,none⟩ (.slice (some ⟨g3,0,none⟩) (D.n+1) cp3)):=by
 have hlt:=h.bm.lt
 have hn:r0.ownBlock≠some bk:=fun e=>by have:=(h.bm.log.lt bk e).1;omega
 have hb:w3.heap[bk]?=Wx.heap[bk]?:=(hg.block bk (by simp;omega) (fun e=>hn e.symm)).trans (Deep.blk_alloc_lt _ _ _ hlt)
 have hz:Wx.heap.size+1<=w3.heap.size:=by have:=hg.size;simpa using this
 obtain⟨p1,p2⟩:=h.bm.pushL ((Below.refl _ _).alloc (Nat.le_refl _) o) h.e h.eb h.ne h1 hg (by rcases hl with hl|hl;exact .inl hl;exact .inr (by omega))
 exact⟨(World.cell?_of_block (a:=⟨bk,0,none⟩) hb).trans h.bm.c0,(World.frozen?_of_block (a:=⟨bk,0,none⟩) hb).trans (h.bm.fz 0),by omega,p1,p2⟩
theorem HeldN.below{n0 bk:Nat}{k v:Vl}{t:Int}{a:Option Addr}{n c:Nat}{W W':World}(h:HeldN n0 bk k v t a n c W)(hb:Below W.heap.size W W')(h0:n0+1<W.heap.size)(h1:bk<W.heap.size):HeldN n0 bk k v t a n c W':=by
 obtain⟨s0,s1,s2,s3,s4,s5,s6,s7,s8,s9,s10,s11⟩:=h
 have e:∀{b q:Nat},b<W.heap.size->W'.cell? ⟨b,q,none⟩=W.cell? ⟨b,q,none⟩:=fun{b q} hh=>hb.cell (p:=⟨b,q,none⟩) hh
 exact⟨(e (by omega)).trans s0,(e (by omega)).trans s1,(e (by omega)).trans s2,(e (by omega)).trans s3,(e (by omega)).trans s4,(e h0).trans s5,(e h0).trans s6,(e h0).trans s7,(e h0).trans s8,(e h0).trans s9,(e h1).trans s10,(e h1).trans s11⟩
def mM(bk:Nat)(r0:Value)(R2 b:Nat):Prop:=b=bk\/r0.ownBlock=some b\/b=R2
def aM(d:Dc)(k:Vl)(bk:Nat)(r0:Value)(R2 b:Nat):Prop:=¬looseK d->k.kind=4->mM bk r0 R2 b
def NxtC:Prop:=∀(T:World->Prop) (hTl:Lasts T) (hf:Vl->Nat) (K:Vl->Prop) (KL:KeyLaw K hf) (hHs:∀v,K v->HsI T v (hf v)) (bk:Nat) (hTb:∀w w',T w->Below bk w w'->T w') (r0 r1:Value) (R2:Nat) (E S:Nat->Nat) (d:Dc) (w:World) (hT:T w) (hM:BMut w bk r0 r1 R2 E S d) (hS:Small d) (hm4:d.m<=4000000)
  (hk1:(d.L d.n).key.kind=2) (hk2:(d.L d.n).key.num=(d.m:Int)+1) (hI:Inv0 K hf {d with n:=d.n+1,m:=d.m+1,I:=upd d.I d.m ((d.n:Int)+1)}),
  Calls Tryz.prog 295 #[.pointer (some ⟨bk,0,none⟩),.pointer (some ⟨E d.n,0,none⟩)] w fun e w'=>((∃u,e=.returned u)/\∃r1' S',BMut w' bk r0 r1' R2 E S' {moveD hf (d.x+1) {d with n:=d.n+1,m:=d.m+1,I:=upd d.I d.m ((d.n:Int)+1)}with n:=d.n})/\KX (fun b=>b=bk\/r1.ownBlock=some b\/b=R2) bk w w'
theorem add_any(T:World->Prop)(hTl:Lasts T)(hf:Vl->Nat)(K:Vl->Prop)(KL:KeyLaw K hf)(hHs:∀v,K v->HsI T v (hf v))(bk:Nat)(hTb:∀w w',T w->Below bk w w'->T w')(r0 r1:Value)(R2:Nat)(E S:Nat->Nat)(d:Dc)(k v:Vl)(w:World)(hT:T w)(hM:BMut w bk r0 r1 R2 E S d)(hS:Small d)(hm4:d.m<=4000000)
  (hI:Inv K hf d) (hk:K k) (hkb:keyB k=true) (hv:v.ok=true) (hv0:v.kind≠0) (hno:∀i,i<d.n->(d.L i).turn≠0->likeB (d.L i).key k=false) (hl:d.live<500) (ht:d.turns<1000000000000) (hX:k.kind=2/\0<k.num->NxtC):
  Calls Tryz.prog 279 #[.pointer (some ⟨bk,0,none⟩),V k.kind k.num k.flt k.str k.ref,V v.kind v.num v.flt v.str v.ref] w fun e w'=>((∃u,e=.returned u)/\∃r0' r1' R2' E2 S',BMut w' bk r0' r1' R2' E2 S' (comeD hf d k v))/\KX (aM d k bk r0 R2) bk w w':=by
 have hm1:looseK d->∀b,aM d k bk r0 R2 b:=fun h b h'=>absurd h h'
 have hm2:k.kind=2->∀b,aM d k bk r0 R2 b:=fun h b _ h'=>by omega
 have hm3:∀b,mM bk r0 R2 b->aM d k bk r0 R2 b:=fun b h _ _=>h
 generalize aM d k bk r0 R2=Mq at*
 have HU1:=uy hm1
 have HU2:=uy hm2
 have HU3:=uy hm3
 clear hm1 hm2 hm3
 have HXX:=uy hX
 clear hX
 obtain⟨i0,hi0,hz0,hz1,hz2⟩:=info_parts infoEnt
 have hlt:=hM.lt
 have hcnt:0<=d.live:=by have:=hI.i0.log.cnt;omega
 have hb0:Below w.heap.size w ((w.alloc (.cells #[.int .i64 k.kind,.int .i64 k.num,.float .f64 k.flt,.string k.str,.int .i64 k.ref] 43)).alloc (.cells #[.int .i64 v.kind,.int .i64 v.num,.float .f64 v.flt,.string v.str,.int .i64 v.ref] 43)):=((Below.refl _ _).alloc (Nat.le_refl _) _).alloc (by simp) _
 obtain⟨cl1,cl2,cl3,cl4⟩:=compactD_live (hf:=hf) hI.i0.core
 have hci:=compactD_inv hI.i0
 have hcn:=compactD_next (hf:=hf) hI.i0.core hI.next
 have hcno:∀i,i<(compactD hf d).n->((compactD hf d).L i).turn≠0->likeB ((compactD hf d).L i).key k=false:=fun i hi hti=>by
  cases e:likeB ((compactD hf d).L i).key k
  ·rfl
  ·obtain⟨j,h1,h2,h3⟩:=(compactD_pairs (hf:=hf) hI.i0.core (fun p=>likeB p.key k=true)).1 ⟨i,hi,hti,e⟩
   have h4:=hno j h1 h2
   rw[h3]at h4
   cases h4
 have hcx:(compactD hf d).x<=4000:=by
  rcases hci.sz with h|h
  ·omega
  ·exact h.2.1
 have hcn':(compactD hf d).n<=4194304:=by
  rcases cl4 with h|h<;>omega
 have hcI:∀i,i<(compactD hf d).m->(compactD hf d).I i<=(compactD hf d).n:=fun i hi=>by
  rcases hci.ints i hi with e|e
  ·omega
  ·exact e.2.1
 have hcX:∀j,j<(compactD hf d).x->(compactD hf d).X j<=(compactD hf d).n:=fun j hj=>by
  rcases hci.idx.range j hj with e|e|⟨e1,e2,_⟩<;>omega
 have HRES:Hid (comeD hf d k v=comeC hf (compactD hf d) k v):=uy rfl
 have TIGHT:∀W,Below w.heap.size w W->looseK d->Calls Tryz.prog 294 #[.pointer (some ⟨bk,0,none⟩)] W fun e w'=>((∃u,e=.returned u)/\∃r0' R2' E2 S',BMut w' bk r0' r1 R2' E2 S' (compactD hf d))/\KX (fun b=>b=bk\/∃i,i<d.n/\E i=b) bk W w':=fun W hW hlo=>by
  refine(tighten_any T hTl hf bk hTb r0 r1 R2 E S d W (hTl _ _ hT hW) (hM.below hW) hS (fun i hi ht=>hHs _ (hI.i0.keys i hi ht)) (by have:=hI.i0.core.live_n;omega) (fun j hj=>by
   rcases hI.i0.ints j hj with e|e
   ·exact .inl e
   ·exact .inr ⟨e.1,e.2.1,e.2.2.1⟩) (fun j hj h0=>by
   rcases hI.i0.idx.range j hj with e|e|⟨e1,e2,e3,_⟩
   ·omega
   ·omega
   ·exact⟨by omega,e3⟩)).mono ?_
  rintro e w' ⟨⟨hu,r0',R2',E2,S',hN⟩,hkx⟩
  exact⟨⟨hu,r0',R2',E2,S',hN.compact hI.i0.core (by have:=hlo.1;have:=hlo.2;omega)⟩,hkx⟩
 have HTIGHT:=uy TIGHT
 have HE:Hid (∀i,i<d.n->E i<w.heap.size):=uy (fun i hi=>(hM.ent i hi).lt)
 have HC:Hid (¬looseK d->compactD hf d=d):=uy (fun h=>if_pos (by
  by_cases h8:(d.n:Int)<8
  ·exact .inl h8
  ·exact .inr (by
    refine Classical.byContradiction fun h2=>h ⟨by omega,by omega⟩)))
 have HM:=uy hM
 have HLO:Hid (∀W,Below w.heap.size w W->Calls Tryz.prog 293 #[.pointer (some ⟨bk,0,none⟩)] W fun e w'=>e=.returned (.bool (tells (looseK d)))/\Below W.heap.size W w'):=uy (fun W hW=>isLoose_any bk r0 r1 R2 E S d W (hM.below hW) hS hcnt (by omega))
 have HB0:=uy hb0
 have HT:=uy hT
 rw[uh HRES]
 have hclive:(compactD hf d).live<500:=by omega
 have hcturn:(compactD hf d).turns<1000000000000:=by omega
 have hcm:(compactD hf d).m<=4000000:=by omega
 clear cl1 cl2 cl3 cl4 HRES TIGHT hM hS hT hb0 hI hno hl ht hcnt
 generalize compactD hf d=c at*
 have HV0:Hid (VBox ((w.alloc (.cells #[.int .i64 k.kind,.int .i64 k.num,.float .f64 k.flt,.string k.str,.int .i64 k.ref] 43)).alloc (.cells #[.int .i64 v.kind,.int .i64 v.num,.float .f64 v.flt,.string v.str,.int .i64 v.ref] 43)) w.heap.size k/\VBox ((w.alloc (.cells #[.int .i64 k.kind,.int .i64 k.num,.float .f64 k.flt,.string k.str,.int .i64 k.ref] 43)).alloc (.cells #[.int .i64 v.kind,.int .i64 v.num,.float .f64 v.flt,.string v.str,.int .i64 v.ref] 43)) (w.heap.size+1) v):=uy ⟨⟨by simp;omega,by simp[go_sem],by simp[go_sem],by simp[go_sem],by simp[go_sem],by simp[go_sem]⟩,⟨by simp,by simp[go_sem],by simp[go_sem],by simp[go_sem],by simp[go_sem],by simp[go_sem]⟩⟩
 by_cases hlo:looseK d
 case' pos=>
  have HLT:=uy (tells_yes hlo)
  have HT2:=uy (fun W hW=>uh HTIGHT W hW hlo)
  have HU4:=uy (uh HU1 hlo)
  clear hlo HC
  go_enter Tryz.func279,Tryz.ntmps279
  go_wp2_with fail
  refine(uh HLO _ (uh HB0)).mono ?_
  rintro e w1 ⟨rfl,hb1⟩
  rw[uh HLT]
  have HB1:=uy ((uh HB0).trans (hb1.mono (uh HB0).size))
  have HK1:=uy ((uh HV0).1.keep hb1.size (hb1.block _ (uh HV0).1.lt))
  have HV1:=uy ((uh HV0).2.keep hb1.size (hb1.block _ (uh HV0).2.lt))
  clear hb1
  go_wp2_with fail
  refine(uh HT2 _ (uh HB1)).mono ?_
  rintro e W ⟨⟨⟨uu,rfl⟩,r0c,R2c,Ec,Sc,hMc⟩,hkx⟩
  have vk:VBox W w.heap.size k:=(uh HK1).keep hkx.bel.size (hkx.blk _ (uh HK1).lt (by
   rintro(e|⟨i,hi,e⟩)
   ·omega
   ·have:=uh HE i hi;omega))
  have vv:VBox W (w.heap.size+1) v:=(uh HV1).keep hkx.bel.size (hkx.blk _ (uh HV1).lt (by
   rintro(e|⟨i,hi,e⟩)
   ·omega
   ·have:=uh HE i hi;omega))
  have hBW:KX Mq bk w W:=⟨((uh HB1).mono (by omega)).trans hkx.bel,fun b _ h=>absurd (uh HU4 b) h⟩
  have hU:∀b,mM bk r0c R2c b->Mq b:=fun b _=>uh HU4 b
  clear hkx HT2 HK1 HV1 HB1 HV0 HB0 HLO HTIGHT
 case' neg=>
  have HLT:=uy (tells_no hlo)
  have hcd:=uh HC hlo
  subst hcd
  clear hlo HC HTIGHT
  go_enter Tryz.func279,Tryz.ntmps279
  go_wp2_with fail
  refine(uh HLO _ (uh HB0)).mono ?_
  rintro e W ⟨rfl,hb1⟩
  rw[uh HLT]
  have hMc:=(uh HM).below ((uh HB0).trans (hb1.mono (uh HB0).size))
  have vk:VBox W w.heap.size k:=(uh HV0).1.keep hb1.size (hb1.block _ (uh HV0).1.lt)
  have vv:VBox W (w.heap.size+1) v:=(uh HV0).2.keep hb1.size (hb1.block _ (uh HV0).2.lt)
  have hBW:KX Mq bk w W:=KX.of_below ((uh HB0).trans (hb1.mono (uh HB0).size)) (by omega)
  obtain⟨r0c,R2c,Ec,Sc,hMc,hU⟩:∃r0c R2c Ec Sc,BMut W bk r0c r1 R2c Ec Sc c/\∀b,mM bk r0c R2c b->Mq b:=⟨_,_,_,_,hMc,uh HU3⟩
  clear hb1 HV0 HB0 HLO
 all_goals
  obtain⟨la,lc,e0⟩:=hMc.log.slice
  subst e0
  have c6:=hMc.c6
  have c5:=hMc.c5
  have f5:=hMc.fz 5
  have f6:=hMc.fz 6
  have hlW:=hMc.lt
  have tp:=hci.turns.1
  have cp0:0<=c.live:=by have:=hci.log.cnt;omega
  have hw6:IntKind.i64.wrap (c.turns+1)=c.turns+1:=by rw[IntKind.wrap_i64];omega
  have hw5:IntKind.i64.wrap (c.live+1)=c.live+1:=by rw[IntKind.wrap_i64];omega
  have HM2:=uy ((hMc.setTurns (c.turns+1)).setLive (c.live+1))
  have HVK:=uy vk
  have HVV:=uy vv
  have HBW:=uy hBW
  have HU:=uy hU
  clear hMc vk vv hBW hU
  go_wp2_with fail
  generalize hW2:(W.setCell ⟨bk,6,none⟩ (.int .i64 (c.turns+1))).setCell ⟨bk,5,none⟩ (.int .i64 (c.live+1))=W2 at*
  have vk2:VBox W2 w.heap.size k:=(uh HVK).keep (by rw[<-hW2];simp) (by rw[<-hW2];exact(Deep.blk_setCell_other _ _ _ _ (by show w.heap.size≠bk;omega)).trans (Deep.blk_setCell_other _ _ _ _ (by show w.heap.size≠bk;omega)))
  have vv2:VBox W2 (w.heap.size+1) v:=(uh HVV).keep (by rw[<-hW2];simp) (by rw[<-hW2];exact(Deep.blk_setCell_other _ _ _ _ (by show w.heap.size+1≠bk;omega)).trans (Deep.blk_setCell_other _ _ _ _ (by show w.heap.size+1≠bk;omega)))
  have HB2:Hid (KX Mq bk w W2):=uy (by rw[<-hW2];exact((uh HBW).setCell (Nat.le_refl _) (fun _=>uh HU _ (.inl rfl)) _).setCell (Nat.le_refl _) (fun _=>uh HU _ (.inl rfl)) _)
  have hM2:=uh HM2
  have hl2:bk<W2.heap.size:=hM2.lt
  have c6':W2.cell? ⟨bk,6,none⟩=some (.int .i64 (c.turns+1)):=hM2.c6
  have c0':W2.cell? ⟨bk,0,none⟩=some (.slice la c.n lc):=hM2.c0
  have lk2:=vk2.lt
  have lv2:=vv2.lt
  have hS0:HeldN w.heap.size bk k v (c.turns+1) la c.n lc W2.drew:=⟨vk2.k0,vk2.k1,vk2.k2,vk2.k3,vk2.k4,vv2.k0,vv2.k1,vv2.k2,vv2.k3,vv2.k4,c6',c0'⟩
  have HVK2:=uy vk2
  clear HVK HVV HBW hM2 vk2 vv2 c6 c5 f5 f6 c6' c0' hW2 hw5 hw6
  refine wpN_held (HeldN w.heap.size bk k v (c.turns+1) la c.n lc) (by kernel_rfl) ?_
  change wpAnyH _ _ _ _ _ _ _ _ (World.drew _)
  refine tq 0 (v:=?_) ?_ ?_;rotate_left;intro w' ⟨s0,s1,s2,s3,s4,s5,s6,s7,s8,s9,s10,s11⟩;go_simp;try with_reducible rfl
  simp only[Act.put,sA,sB,sC]
  refine tq 1 (v:=?_) ?_ ?_;rotate_left;intro w' ⟨s0,s1,s2,s3,s4,s5,s6,s7,s8,s9,s10,s11⟩;go_simp;try with_reducible rfl
  simp only[Act.put,sA,sB,sC]
  refine tq 2 (v:=?_) ?_ ?_;rotate_left;intro w' ⟨s0,s1,s2,s3,s4,s5,s6,s7,s8,s9,s10,s11⟩;go_simp;try with_reducible rfl
  simp only[Act.put,sA,sB,sC]
  refine tq 3 (v:=?_) ?_ ?_;rotate_left;intro w' ⟨s0,s1,s2,s3,s4,s5,s6,s7,s8,s9,s10,s11⟩;go_simp;try with_reducible rfl
  simp only[Act.put,sA,sB,sC]
  refine tq 4 (v:=?_) ?_ ?_;rotate_left;intro w' ⟨s0,s1,s2,s3,s4,s5,s6,s7,s8,s9,s10,s11⟩;go_simp;try with_reducible rfl
  simp only[Act.put,sA,sB,sC]
  refine tq 5 (v:=?_) ?_ ?_;rotate_left;intro w' ⟨s0,s1,s2,s3,s4,s5,s6,s7,s8,s9,s10,s11⟩;go_simp;try with_reducible rfl
  simp only[Act.put,sA,sB,sC]
  refine tq 6 (v:=?_) ?_ ?_;rotate_left;intro w' ⟨s0,s1,s2,s3,s4,s5,s6,s7,s8,s9,s10,s11⟩;go_simp;try with_reducible rfl
  simp only[Act.put,sA,sB,sC]
  refine tq 7 (v:=?_) ?_ ?_;rotate_left;intro w' ⟨s0,s1,s2,s3,s4,s5,s6,s7,s8,s9,s10,s11⟩;go_simp;try with_reducible rfl
  simp only[Act.put,sA,sB,sC]
  refine tq 8 (v:=?_) ?_ ?_;rotate_left;intro w' ⟨s0,s1,s2,s3,s4,s5,s6,s7,s8,s9,s10,s11⟩;go_simp;try with_reducible rfl
  simp only[Act.put,sA,sB,sC]
  refine tq 9 (v:=?_) ?_ ?_;rotate_left;intro w' ⟨s0,s1,s2,s3,s4,s5,s6,s7,s8,s9,s10,s11⟩;go_simp;try with_reducible rfl
  simp only[Act.put,sA,sB,sC]
  refine tq 10 (v:=?_) ?_ ?_;rotate_left;intro w' ⟨s0,s1,s2,s3,s4,s5,s6,s7,s8,s9,s10,s11⟩;go_simp;try with_reducible rfl
  simp only[Act.put,sA,sB,sC]
  refine tq 11 (v:=?_) ?_ ?_;rotate_left;intro w' ⟨s0,s1,s2,s3,s4,s5,s6,s7,s8,s9,s10,s11⟩;go_simp;try with_reducible rfl
  simp only[Act.put,sA,sB,sC]
  refine tq 12 (v:=?_) ?_ ?_;rotate_left;intro w' ⟨s0,s1,s2,s3,s4,s5,s6,s7,s8,s9,s10,s11⟩;go_simp;try with_reducible rfl
  simp only[Act.put,sA,sB,sC]
  refine wpAnyH_ready (rs:=[13]) (by kernel_rfl) (by simp) ?_
  refine AllReadyH.cons rfl (fun K hK=>?_) AllReadyH.nil
  go_simp
  refine hK.out _ _ (hS0.below ((Below.refl _ _).alloc (Nat.le_refl _) _) lv2 hl2) (fun hS1=>?_)
  clear hK K
  refine tq 14 (v:=?_) ?_ ?_;rotate_left;intro w' ⟨s0,s1,s2,s3,s4,s5,s6,s7,s8,s9,s10,s11⟩;go_simp;try with_reducible rfl
  simp only[Act.put,sA,sB,sC]
  try simp only[List.getElem_toArray]
  try simp only[List.getElem_cons_succ]
  try simp only[List.getElem_cons_zero]
  try simp only[List.setIfInBounds_toArray]
  try simp only[List.set_cons_succ]
  try simp only[List.set_cons_zero]
  refine wpAnyH_done (by kernel_rfl) ?_ _
  refine QN.normal ?_
  clear hS0 hS1
  obtain⟨W3,hW3⟩:∃W3,W3=(W2.alloc (.cells (entA ⟨k,v,c.turns+1⟩ c.n) 294)).drew:=⟨_,rfl⟩
  try simp only[World.alloc_drew]
  rw[<-hW3]
  have z3:W3.heap.size=W2.heap.size+1:=by rw[hW3];simp
  have hb3:Below W2.heap.size W2 W3:=by rw[hW3];exact((Below.refl _ _).alloc (Nat.le_refl _) _).drew
  have ob3:W3.heap[W2.heap.size]?=some (.cells (entA ⟨k,v,c.turns+1⟩ c.n) 294 (0,0)):=by rw[hW3];exact Deep.blk_alloc_new _ _
  have vk3:VBox W3 w.heap.size k:=(uh HVK2).keep hb3.size (hb3.block _ lk2)
  have HB3:=uy ((uh HB2).trans (KX.of_below hb3 (by omega)))
  obtain⟨E1,hE1⟩:∃E1,E1=upd Ec c.n W2.heap.size:=⟨_,rfl⟩
  have hE1n:E1 c.n=W2.heap.size:=by rw[hE1];exact upd_same _ _ _
  have hA:AEnd W3 bk (.slice la c.n lc) r1 R2c E1 Sc (onW c k v):=by
   have hM3:=(uh HM2).below hb3
   refine⟨hM3.of_same rfl rfl rfl rfl rfl rfl (fun _ _=>rfl) (fun _ _=>rfl) (fun i hi=>upd_other _ _ (by have hi':i<c.n:=hi;omega)) (fun i hi=>by rw[hE1];exact upd_other _ _ (by have hi':i<c.n:=hi;omega)) hcI hcX,?_,?_,fun i hi=>?_⟩
   ·show ECell W3 (E1 c.n) ((onW c k v).L c.n) c.n
    rw[hE1n,onW_L]
    exact ECell.of_ob ob3
   ·show bk<E1 c.n
    omega
   ·have hi':i<c.n:=hi
    show E1 i≠E1 c.n
    rw[hE1n,hE1,upd_other _ _ (by omega)]
    have:=((uh HM2).ent i hi').lt
    omega
  have l3:=vk3.lt
  have lb3:=hA.bm.lt
  obtain⟨R1,k1,e1⟩:=hA.bm.rf
  have e1:r1=.slice (some ⟨R1,0,none⟩) c.m k1:=e1
  have c1:W3.cell? ⟨bk,1,none⟩=some (.slice (some ⟨R1,0,none⟩) c.m k1):=by rw[<-e1];exact hA.bm.c1
  have hR1:=(hA.bm.ints.lt R1 (by rw[e1];rfl)).1
  have hR1l:=(hA.bm.ints.lt R1 (by rw[e1];rfl)).2
  have q0:=vk3.k0
  have q1:=vk3.k1
  have q2:=vk3.k2
  have q3:=vk3.k3
  have q4:=vk3.k4
  have HA:=uy hA
  have HVK3:=uy vk3
  have HE1:=uy hE1n
  have HE1r:=uy e1
  rw[<-hE1n]
  clear hA vk3 hE1 hE1n e1 ob3 hb3 hW3 HM2 HB2 HVK2 z3
  by_cases hs:smallK c.m k
  ·have HSM:=uy (tells_yes hs)
   obtain⟨a1,a2,a3⟩:=hs
   obtain⟨q,hq⟩:∃q:Nat,k.num=(q:Int)+1:=⟨(k.num-1).toNat,by omega⟩
   have hqm:q<c.m:=by omega
   have HRES:Hid ({onW c k v with I:=upd (onW c k v).I q ((c.n:Int)+1),n:=c.n+1}=comeC hf c k v):=uy (by
    have e:comeC hf c k v=addSmall c k v:=if_pos ⟨a1,a2,a3⟩
    rw[e]
    unfold addSmall
    rw[show(k.num-1).toNat=q by omega]
    rfl)
   have hwq:IntKind.i64.wrap (q:Int)=q:=by rw[IntKind.wrap_i64];omega
   have HQ:=uy hq
   have HU5:=uy (uh HU2 a1)
   clear a1 a2 a3 hq
   go_wp2_with fail
   refine wp_region_quiet (C:=fun w'=>Below W3.heap.size W3 w') (by kernel_rfl) (by kernel_rfl) ((Below.refl _ _).drew) ?_
   show wpQuiet _ _ _ _ [_,_,_,_,_,_,_] _
   (refine wpQuiet_step (fun K hK=>?_);go_simp;refine Exists.intro ?_ (And.intro (fun w' hw'=>?_) (hK _ ?_));rotate_left;obtain⟨hc',hf'⟩:=bcell hw';go_simp;(first|rfl|exact⟨rfl,rfl⟩|exact⟨rfl⟩);clear hK K)
   iterate 3 (refine wpQuiet_step (fun K hK=>?_);go_simp;refine⟨_,fun w' hw'=>rfl,hK _ ?_⟩;clear hK K)
   (refine wpQuiet_step (fun K hK=>?_);go_simp;refine Exists.intro ?_ (And.intro (fun w' hw'=>?_) (hK _ ?_));rotate_left;obtain⟨hc',hf'⟩:=bcell hw';go_simp;(first|rfl|exact⟨rfl,rfl⟩|exact⟨rfl⟩);clear hK K)
   (refine wpQuiet_step (fun K hK=>?_);go_simp;refine⟨_,fun w' hw'=>rfl,hK _ ?_⟩;clear hK K)
   refine wpQuiet_step (fun K hK=>?_)
   go_simp
   apply Exists.intro
   refine And.intro (fun w' hw'=>?_) (hK _ ?_)
   ·refine(((uh HSM)▸hasPlace_any k c.m _ (by omega))).mono ?_
    rintro e w'' ⟨rfl,hb⟩
    exact⟨rfl,hw'.trans (hb.mono hw'.size)⟩
   clear hK K
   refine wpQuiet_nil ?_
   intro w4 hw4
   have l4:=Nat.lt_of_lt_of_le l3 hw4.size
   have lb4:=Nat.lt_of_lt_of_le lb3 hw4.size
   have c14:=(hw4.cell (p:=⟨bk,1,none⟩) lb3).trans c1
   have q14:=(hw4.cell (p:=⟨w.heap.size,1,none⟩) l3).trans q1
   rw[uh HQ]at q14
   have hR1l4:=Nat.lt_of_lt_of_le hR1l hw4.size
   have hA4:AEnd w4 bk (.slice la c.n lc) r1 R2c E1 Sc (onW c k v):=⟨(uh HA).bm.below hw4,(uh HA).e.keep hw4.size (hw4.block _ (uh HA).e.lt),(uh HA).eb,(uh HA).ne⟩
   have hbm4:BMut w4 bk (.slice la c.n lc) (.slice (some ⟨R1,0,none⟩) c.m k1) R2c E1 Sc (onW c k v):=by rw[<-uh HE1r];exact hA4.bm
   obtain⟨_,_,e5,_,_,_,hc5,hf5⟩:=hbm4.ints.form (by show 0<c.m;omega)
   cases e5
   have d5:=hc5 q (by show q<c.m;exact hqm)
   have f5:=hf5 q
   obtain⟨cR1,hbR1⟩:=hbm4.ints.block (b:=R1) rfl
   have hp:=BMut.putI (d:=onW c k v) hbm4 (i:=q) (by show q<c.m;exact hqm) ((c.n:Int)+1)
   rw[show entP E1 ((c.n:Int)+1)=some ⟨E1 c.n,0,none⟩ by unfold entP;rw[if_pos (by omega),show((c.n:Int)+1-1).toNat=c.n by omega]]at hp
   have HA5:Hid (AEnd (w4.setCell ⟨R1,q,none⟩ (.pointer (some ⟨E1 c.n,0,none⟩))).drew bk (.slice la c.n lc) (.slice (some ⟨R1,0,none⟩) c.m k1) R2c E1 Sc {onW c k v with I:=upd (onW c k v).I q ((c.n:Int)+1)}):=uy ⟨hp.below (Below.refl _ _).drew,hA4.e.keep (by simp) (Deep.blk_setCell_other _ _ _ _ (by show E1 c.n≠R1;exact fun e=>type_apart (e▸hA4.e.ob) hbR1 (by decide))),hA4.eb,hA4.ne⟩
   have HB4:=uy (((uh HB3).trans (KX.of_below hw4 (by omega))).setCell (g:=R1) (q:=q) (by omega) (fun _=>uh HU5 _) (.pointer (some ⟨E1 c.n,0,none⟩))).drew
   have hS0:HeldT bk w.heap.size R1 c.m k1 q w4.drew:=⟨c14,q14⟩
   have hne:R1≠w.heap.size:=fun e=>by
    have h1:=(uh HVK3).keep hw4.size (hw4.block _ l3)
    have h2:=h1.k0
    rw[<-e]at h2
    rw[hc5 0 (by show 0<c.m;omega)]at h2
    cases h2
   clear hbm4 hA4 hp hbR1 hw4 HA hc5 hf5 q0 q1 q2 q3 q4 c1
   go_wp2_with fail
   refine wpN_held (HeldT bk w.heap.size R1 c.m k1 q) (by kernel_rfl) ?_
   change wpAnyH _ _ _ _ _ _ _ _ (World.drew _)
   refine tq 0 (v:=?_) ?_ ?_;rotate_left;intro w' ⟨s0,s1⟩;go_simp;try with_reducible rfl
   simp only[Act.put,sA,sB,sC]
   refine tq 1 (v:=?_) ?_ ?_;rotate_left;intro w' ⟨s0,s1⟩;go_simp;try with_reducible rfl
   simp only[Act.put,sA,sB,sC]
   refine tq 2 (v:=?_) ?_ ?_;rotate_left;intro w' ⟨s0,s1⟩;go_simp;try with_reducible rfl
   simp only[Act.put,sA,sB,sC]
   refine tq 3 (v:=?_) ?_ ?_;rotate_left;intro w' ⟨s0,s1⟩;go_simp;try with_reducible rfl
   simp only[Act.put,sA,sB,sC]
   refine tq 4 (v:=?_) ?_ ?_;rotate_left;intro w' ⟨s0,s1⟩;go_simp;try with_reducible rfl
   simp only[Act.put,sA,sB,sC]
   refine tq 5 (v:=?_) ?_ ?_;rotate_left;intro w' ⟨s0,s1⟩;go_simp;try with_reducible rfl
   simp only[Act.put,sA,sB,sC]
   refine tq 6 (v:=?_) ?_ ?_;rotate_left;intro w' ⟨s0,s1⟩;go_simp;try with_reducible rfl
   simp only[Act.put,sA,sB,sC]
   refine tq 7 (v:=?_) ?_ ?_;rotate_left;intro w' ⟨s0,s1⟩;go_simp;try with_reducible rfl
   simp only[Act.put,sA,sB,sC]
   refine tq 8 (v:=?_) ?_ ?_;rotate_left;intro w' ⟨s0,s1⟩;go_simp;try with_reducible rfl
   simp only[Act.put,sA,sB,sC]
   refine wpAnyH_ready (rs:=[9]) (by kernel_rfl) (by simp) ?_
   refine AllReadyH.cons rfl (fun K hK=>?_) AllReadyH.nil
   go_simp
   refine hK.out _ _ ⟨(cell_set_block (by omega)).trans hS0.1,(cell_set_block hne).trans hS0.2⟩ (fun _=>?_)
   clear hK K hS0
   refine wpAnyH_done (by kernel_rfl) ?_ _
   refine QN.normal ?_
   generalize hW5:(w4.setCell ⟨R1,q,none⟩ (.pointer (some ⟨E1 c.n,0,none⟩))).drew=W5 at*
   have HA6:Hid (AEnd (W5) bk (.slice la c.n lc) (.slice (some ⟨R1,0,none⟩) c.m k1) R2c E1 Sc {onW c k v with I:=upd (onW c k v).I q ((c.n:Int)+1)}):=uy (uh HA5)
   have HB6:Hid (KX Mq bk w (W5)):=uy (uh HB4)
   have HLOG:Hid (Rw (W5) (bk+1) tEnt (.slice la c.n lc) c.n (fun i=>some ⟨E1 i,0,none⟩)):=uy ((uh HA6).bm.log)
   have c0x:(W5).cell? ⟨bk,0,none⟩=some (.slice la c.n lc):=(uh HA6).bm.c0
   have lbx:bk<(W5).heap.size:=(uh HA6).bm.lt
   have HFIN:Hid (∀(o:Obj) (g3 cp3:Nat) (w3:World),w3.ownsRow (bk+1) tEnt 1 (.slice (some ⟨g3,0,none⟩) (c.n+1) cp3) (c.n+1) (ptL (fun i=>some ⟨E1 i,0,none⟩) c.n++[.pointer (some ⟨E1 c.n,0,none⟩)])->((W5).alloc o).grownBy w3 (Value.slice la c.n lc).ownBlock->((Value.slice la c.n lc).ownBlock=some g3\/g3=(W5).heap.size+1)->
     w3.cell? ⟨bk,0,none⟩=some (.slice la c.n lc)/\w3.frozen? ⟨bk,0,none⟩=false/\bk<w3.heap.size/\(∃r1' R2' S',BMut (w3.setCell ⟨bk,0,none⟩ (.slice (some ⟨g3,0,none⟩) (c.n+1) cp3)) bk (.slice (some ⟨g3,0,none⟩) (c.n+1) cp3) r1' R2' E1 S' (comeC hf c k v))/\KX Mq bk w (w3.setCell ⟨bk,0,none⟩ (.slice (some ⟨g3,0,none⟩) (c.n+1) cp3))):=uy (fun o g3 cp3 w3 h1 h2 h3=>by
    obtain⟨p1,p2,p3,p4,p5⟩:=(uh HA6).fin h1 h2 h3
    exact⟨p1,p2,p3,⟨_,_,_,by rw[<-uh HRES];exact p4⟩,(((uh HB6).alloc (by omega) o).grown h2 (by omega) (fun r e=>.inr ⟨by have:=((uh HA6).bm.log.lt r e).1;omega,uh HU _ (.inr (.inl e))⟩)).setCell (Nat.le_refl _) (fun _=>uh HU _ (.inl rfl)) _⟩)
   clear HA6 HB6
   go_wp2_with (at_builtin;refine wpList_append_lies _ rfl _ _ 324 rfl (bk+1) tEnt i0 (.pointer none) 1 8 Tryz.underlying324 hi0 hz0 hz1 hz2 rfl (by decide) (.slice la c.n lc) c.n (ptL (fun i=>some ⟨E1 i,0,none⟩) c.n) rfl (World.ownsRow.alloc (uh HLOG) _) ⟨(W5).heap.size,0,none⟩ 1 1 [.pointer (some ⟨E1 c.n,0,none⟩)] rfl rfl (World.news_of_block (Deep.blk_alloc_new _ _)) (by simp[Value.oneCell']) (by decide) (by unfold maxLen;omega) (by omega) (by simp;omega) ((W5).heap.size+1) (by simp) ?_;intro g3 cp3 w3 hown3 hgr3 hloc3 hlt3;obtain⟨x3,f3,lx3,hN3,hB3⟩:=uh HFIN _ g3 cp3 w3 hown3 hgr3 hloc3;have HN3:=uy hN3;have HBB:=uy hB3;clear hown3 hgr3 hloc3 hN3 hB3)
   go_end0
   obtain⟨r1',R2',S',hN⟩:=uh HN3
   exact⟨⟨⟨_,rfl⟩,_,r1',R2',E1,S',hN⟩,uh HBB⟩
  ·have HSM:=uy (tells_no hs)
   have HNS:=uy hs
   have hci':=comeC_inv KL hci hcn hk hkb hv hv0 hcno hclive hcturn
   have HMn:=uy hci'.2.2.1
   have HML:=uy hci'.2.2.2.1
   clear hs hci'
   go_wp2_with fail
   refine wp_region_quiet (C:=fun w'=>Below W3.heap.size W3 w') (by kernel_rfl) (by kernel_rfl) ((Below.refl _ _).drew) ?_
   show wpQuiet _ _ _ _ [_,_,_,_,_,_,_] _
   (refine wpQuiet_step (fun K hK=>?_);go_simp;refine Exists.intro ?_ (And.intro (fun w' hw'=>?_) (hK _ ?_));rotate_left;obtain⟨hc',hf'⟩:=bcell hw';go_simp;(first|rfl|exact⟨rfl,rfl⟩|exact⟨rfl⟩);clear hK K)
   iterate 3 (refine wpQuiet_step (fun K hK=>?_);go_simp;refine⟨_,fun w' hw'=>rfl,hK _ ?_⟩;clear hK K)
   (refine wpQuiet_step (fun K hK=>?_);go_simp;refine Exists.intro ?_ (And.intro (fun w' hw'=>?_) (hK _ ?_));rotate_left;obtain⟨hc',hf'⟩:=bcell hw';go_simp;(first|rfl|exact⟨rfl,rfl⟩|exact⟨rfl⟩);clear hK K)
   (refine wpQuiet_step (fun K hK=>?_);go_simp;refine⟨_,fun w' hw'=>rfl,hK _ ?_⟩;clear hK K)
   refine wpQuiet_step (fun K hK=>?_)
   go_simp
   apply Exists.intro
   refine And.intro (fun w' hw'=>?_) (hK _ ?_)
   ·refine(((uh HSM)▸hasPlace_any k c.m _ (by omega))).mono ?_
    rintro e w'' ⟨rfl,hb⟩
    exact⟨rfl,hw'.trans (hb.mono hw'.size)⟩
   clear hK K
   refine wpQuiet_nil ?_
   intro w4 hw4
   have l4:=Nat.lt_of_lt_of_le l3 hw4.size
   have lb4:=Nat.lt_of_lt_of_le lb3 hw4.size
   have vk4:=(uh HVK3).keep hw4.size (hw4.block _ l3)
   have q04:=vk4.k0
   have q14:=vk4.k1
   have q24:=vk4.k2
   have q34:=vk4.k3
   have q44:=vk4.k4
   have hA4:AEnd w4 bk (.slice la c.n lc) r1 R2c E1 Sc (onW c k v):=⟨(uh HA).bm.below hw4,(uh HA).e.keep hw4.size (hw4.block _ (uh HA).e.lt),(uh HA).eb,(uh HA).ne⟩
   have HB4:=uy ((uh HB3).trans (KX.of_below hw4 (by omega)))
   have HSm:Hid (Small (onW c k v)):=uy ⟨hcn',by show c.m<=_;omega,by show c.x<=_;omega⟩
   have HNXI:Hid (∀w',Below w4.heap.size w4 w'->Calls Tryz.prog 270 #[.pointer (some ⟨bk,0,none⟩)] w' fun e w''=>e=.returned (V 2 ((c.m:Int)+1) 0 ⟨#[]⟩ 0)/\Below w'.heap.size w' w''):=uy (fun w' hw'=>by
    obtain⟨R0',R1',hB'⟩:=(hA4.bm.below hw').book
    exact nextInt_any bk R0' R1' R2c E1 Sc (onW c k v) w' hB' (uh HSm))
   have HA4:=uy hA4
   clear hw4 HA vk4 hA4 q0 q1 q2 q3 q4 c1
   by_cases hnx:k.kind=2/\k.num=(c.m:Int)+1
   ·have HNX:=uy hnx
    have HF:=uy (int_key hkb hnx.1)
    clear hnx
    go_wp2_with fail
    refine wp_region_quiet (C:=fun w'=>Below w4.heap.size w4 w') (by kernel_rfl) (by kernel_rfl) ((Below.refl _ _).drew) ?_
    show wpQuiet _ _ _ _ [_,_,_,_] _
    (refine wpQuiet_step (fun K hK=>?_);go_simp;refine Exists.intro ?_ (And.intro (fun w' hw'=>?_) (hK _ ?_));rotate_left;obtain⟨hc',hf'⟩:=bcell hw';go_simp;(first|rfl|exact⟨rfl,rfl⟩|exact⟨rfl⟩);clear hK K)
    (refine wpQuiet_step (fun K hK=>?_);go_simp;refine⟨_,fun w' hw'=>rfl,hK _ ?_⟩;clear hK K)
    refine wpQuiet_step (fun K hK=>?_)
    go_simp
    apply Exists.intro
    refine And.intro (fun w' hw'=>?_) (hK _ ?_)
    ·refine((uh HNXI _ hw')).mono ?_
     rintro e w'' ⟨rfl,hb⟩
     exact⟨rfl,hw'.trans (hb.mono hw'.size)⟩
    clear hK K
    refine wpQuiet_step (fun K hK=>?_)
    go_simp
    refine⟨.bool true,fun w' hw'=>?_,hK _ ?_⟩
    ·obtain⟨x1,x2⟩:=uh HNX
     obtain⟨x3,x4,x5⟩:=uh HF
     have x3':FloatKind.f64.format.order k.flt 0=some Ordering.eq:=by simpa using x3
     have x4':k.str.toList=[]:=List.isEmpty_iff.1 x4
     simp only[x1,x2,x5,x3',x4',if_true]
     exact⟨trivial,trivial⟩
    clear hK K
    refine wpQuiet_nil ?_
    intro w5 hw5
    have hA5:AEnd w5 bk (.slice la c.n lc) r1 R2c E1 Sc (onW c k v):=⟨(uh HA4).bm.below hw5,(uh HA4).e.keep hw5.size (hw5.block _ (uh HA4).e.lt),(uh HA4).eb,(uh HA4).ne⟩
    have HB5:=uy ((uh HB4).trans (KX.of_below hw5 (by omega)))
    have HCALL:Hid (Calls Tryz.prog 295 #[.pointer (some ⟨bk,0,none⟩),.pointer (some ⟨E1 c.n,0,none⟩)] w5 fun e w'=>(∃u,e=.returned u)/\(∃r1' S',AEnd w' bk (.slice la c.n lc) r1' R2c E1 S' {comeC hf c k v with n:=c.n})/\KX Mq bk w w'):=uy (by
     obtain⟨x1,x2⟩:=uh HNX
     have hT5:T w5:=hTb _ _ (uh HT) (uh HB5).bel
     have hLn:((onW c k v).L (onW c k v).n)=⟨k,v,c.turns+1⟩:=onW_L c k v
     have hcome:comeC hf c k v=moveD hf (c.x+1) (addNext c k v):=by unfold comeC;rw[if_neg (uh HNS),if_pos ⟨x1,x2⟩]
     obtain⟨cR1,hbR1⟩:=hA5.bm.ints.block (b:=R1) (by rw[uh HE1r];rfl)
     obtain⟨cR2,hbR2⟩:=hA5.bm.slots.block (b:=R2c) rfl
     have hae:=hA5.e
     refine((uh HXX) ⟨x1,by omega⟩ T hTl hf K KL hHs bk hTb (.slice la c.n lc) r1 R2c E1 Sc (onW c k v) w5 hT5 hA5.bm (uh HSm) hcm (by rw[hLn];exact x1) (by rw[hLn];exact x2) (addNext_inv KL hci hk hkb hv hv0 hcno x1 x2 hclive hcturn)).mono ?_
     rintro e w' ⟨⟨hu,r1',S',hN⟩,hkx⟩
     have hN:BMut w' bk (.slice la c.n lc) r1' R2c E1 S' {moveD hf (c.x+1) (addNext c k v)with n:=c.n}:=hN
     rw[<-hcome]at hN
     have hblk:=hkx.blk (E1 c.n) hae.lt (by
      rintro(e|e|e)
      ·have:=hA5.eb
       have h':bk<E1 c.n:=this
       omega
      ·rw[uh HE1r]at e
       have e':R1=E1 c.n:=by simpa[Value.ownBlock]using e
       exact type_apart (e'▸hae.ob) hbR1 (by decide)
      ·exact type_apart (e▸hae.ob) hbR2 (by decide))
     refine⟨hu,⟨r1',S',hN,?_,hA5.eb,hA5.ne⟩,(uh HB5).trans (hkx.mono (fun b _ _=>uh HU2 x1 b))⟩
     have h1:(comeC hf c k v).L c.n=(onW c k v).L c.n:=by rw[uh HML];rfl
     show ECell w' (E1 c.n) ((comeC hf c k v).L c.n) c.n
     rw[h1]
     exact hae.keep hkx.bel.size hblk)
    clear hA5 HB5 hw5 HA4 HB4 HNXI q04 q14 q24 q34 q44
    go_wp2_with fail
    refine(uh HCALL).mono ?_
    rintro e w6 ⟨⟨uu6,rfl⟩,⟨r1x,Sx,hA6x⟩,hB6x⟩
    have HRES:Hid ({{comeC hf c k v with n:=c.n}with n:=c.n+1}=comeC hf c k v):=uy (by
     have h1:=uh HMn
     generalize comeC hf c k v=M at h1
     cases M
     simp only at h1
     subst h1
     rfl)
    have HA6x:=uy hA6x
    have HB6x:=uy hB6x
    clear hA6x hB6x HCALL
    have HA6:Hid (AEnd (w6) bk (.slice la c.n lc) r1x R2c E1 Sx {comeC hf c k v with n:=c.n}):=uy (uh HA6x)
    have HB6:Hid (KX Mq bk w (w6)):=uy (uh HB6x)
    have HLOG:Hid (Rw (w6) (bk+1) tEnt (.slice la c.n lc) c.n (fun i=>some ⟨E1 i,0,none⟩)):=uy ((uh HA6).bm.log)
    have c0x:(w6).cell? ⟨bk,0,none⟩=some (.slice la c.n lc):=(uh HA6).bm.c0
    have lbx:bk<(w6).heap.size:=(uh HA6).bm.lt
    have HFIN:Hid (∀(o:Obj) (g3 cp3:Nat) (w3:World),w3.ownsRow (bk+1) tEnt 1 (.slice (some ⟨g3,0,none⟩) (c.n+1) cp3) (c.n+1) (ptL (fun i=>some ⟨E1 i,0,none⟩) c.n++[.pointer (some ⟨E1 c.n,0,none⟩)])->((w6).alloc o).grownBy w3 (Value.slice la c.n lc).ownBlock->((Value.slice la c.n lc).ownBlock=some g3\/g3=(w6).heap.size+1)->
      w3.cell? ⟨bk,0,none⟩=some (.slice la c.n lc)/\w3.frozen? ⟨bk,0,none⟩=false/\bk<w3.heap.size/\(∃r1' R2' S',BMut (w3.setCell ⟨bk,0,none⟩ (.slice (some ⟨g3,0,none⟩) (c.n+1) cp3)) bk (.slice (some ⟨g3,0,none⟩) (c.n+1) cp3) r1' R2' E1 S' (comeC hf c k v))/\KX Mq bk w (w3.setCell ⟨bk,0,none⟩ (.slice (some ⟨g3,0,none⟩) (c.n+1) cp3))):=uy (fun o g3 cp3 w3 h1 h2 h3=>by
     obtain⟨p1,p2,p3,p4,p5⟩:=(uh HA6).fin h1 h2 h3
     exact⟨p1,p2,p3,⟨_,_,_,by rw[<-uh HRES];exact p4⟩,(((uh HB6).alloc (by omega) o).grown h2 (by omega) (fun r e=>.inr ⟨by have:=((uh HA6).bm.log.lt r e).1;omega,uh HU _ (.inr (.inl e))⟩)).setCell (Nat.le_refl _) (fun _=>uh HU _ (.inl rfl)) _⟩)
    clear HA6 HB6
    go_wp2_with (at_builtin;refine wpList_append_lies _ rfl _ _ 324 rfl (bk+1) tEnt i0 (.pointer none) 1 8 Tryz.underlying324 hi0 hz0 hz1 hz2 rfl (by decide) (.slice la c.n lc) c.n (ptL (fun i=>some ⟨E1 i,0,none⟩) c.n) rfl (World.ownsRow.alloc (uh HLOG) _) ⟨(w6).heap.size,0,none⟩ 1 1 [.pointer (some ⟨E1 c.n,0,none⟩)] rfl rfl (World.news_of_block (Deep.blk_alloc_new _ _)) (by simp[Value.oneCell']) (by decide) (by unfold maxLen;omega) (by omega) (by simp;omega) ((w6).heap.size+1) (by simp) ?_;intro g3 cp3 w3 hown3 hgr3 hloc3 hlt3;obtain⟨x3,f3,lx3,hN3,hB3⟩:=uh HFIN _ g3 cp3 w3 hown3 hgr3 hloc3;have HN3:=uy hN3;have HBB:=uy hB3;clear hown3 hgr3 hloc3 hN3 hB3)
    go_end0
    obtain⟨r1',R2',S',hN⟩:=uh HN3
    exact⟨⟨⟨_,rfl⟩,_,r1',R2',E1,S',hN⟩,uh HBB⟩
   ·have HNX:=uy hnx
    clear hnx
    go_wp2_with fail
    refine wp_region_quiet (C:=fun w'=>Below w4.heap.size w4 w') (by kernel_rfl) (by kernel_rfl) ((Below.refl _ _).drew) ?_
    show wpQuiet _ _ _ _ [_,_,_,_] _
    (refine wpQuiet_step (fun K hK=>?_);go_simp;refine Exists.intro ?_ (And.intro (fun w' hw'=>?_) (hK _ ?_));rotate_left;obtain⟨hc',hf'⟩:=bcell hw';go_simp;(first|rfl|exact⟨rfl,rfl⟩|exact⟨rfl⟩);clear hK K)
    (refine wpQuiet_step (fun K hK=>?_);go_simp;refine⟨_,fun w' hw'=>rfl,hK _ ?_⟩;clear hK K)
    refine wpQuiet_step (fun K hK=>?_)
    go_simp
    apply Exists.intro
    refine And.intro (fun w' hw'=>?_) (hK _ ?_)
    ·refine((uh HNXI _ hw')).mono ?_
     rintro e w'' ⟨rfl,hb⟩
     exact⟨rfl,hw'.trans (hb.mono hw'.size)⟩
    clear hK K
    refine wpQuiet_step (fun K hK=>?_)
    go_simp
    refine⟨.bool false,fun w' hw'=>?_,hK _ ?_⟩
    ·have hno':=uh HNX
     by_cases x1:k.kind=2
     ·have x2:¬k.num=(c.m:Int)+1:=fun h=>hno' ⟨x1,h⟩
      simp only[x1,x2,if_true,if_false]
      exact⟨trivial,trivial⟩
     ·simp only[x1,if_false]
      exact⟨trivial,trivial⟩
    clear hK K
    refine wpQuiet_nil ?_
    intro w5 hw5
    have hA5:AEnd w5 bk (.slice la c.n lc) r1 R2c E1 Sc (onW c k v):=⟨(uh HA4).bm.below hw5,(uh HA4).e.keep hw5.size (hw5.block _ (uh HA4).e.lt),(uh HA4).eb,(uh HA4).ne⟩
    have HB5:=uy ((uh HB4).trans (KX.of_below hw5 (by omega)))
    have HCALL:Hid (Calls Tryz.prog 296 #[.pointer (some ⟨bk,0,none⟩),.pointer (some ⟨E1 c.n,0,none⟩)] w5 fun e w'=>(∃u,e=.returned u)/\(∃R2' S',AEnd w' bk (.slice la c.n lc) r1 R2' E1 S' {comeC hf c k v with n:=c.n})/\KX Mq bk w w'):=uy (by
     have hT5:T w5:=hTb _ _ (uh HT) (uh HB5).bel
     have hLn:((onW c k v).L (onW c k v).n)=⟨k,v,c.turns+1⟩:=onW_L c k v
     have hrn:(roomD hf c).n=c.n:=(roomD_inv hci hclive).2.2.n
     have hcome:enterD hf (roomB hf (onW c k v)) ((onW c k v).L (onW c k v).n).key (onW c k v).n={comeC hf c k v with n:=c.n}:=by
      have e1:comeC hf c k v=enterD hf (addL (roomD hf c) k v) k c.n:=by unfold comeC;rw[if_neg (uh HNS),if_neg (uh HNX)]
      rw[e1,hLn,room_onW hci.core,onW_addL hrn]
      exact enter_cut hf (addL (roomD hf c) k v) k c.n c.n
     obtain⟨cR2,hbR2⟩:=hA5.bm.slots.block (b:=R2c) rfl
     have hae:=hA5.e
     refine(addToIndex_any T hTl hf bk hTb (.slice la c.n lc) r1 R2c E1 Sc (onW c k v) w5 hT5 hA5.bm (uh HSm) (fun i hi ht=>by
      have hi':i<c.n:=hi
      rw[onW_old c k v hi']at ht ⊢
      exact hHs _ (hci.keys i hi' ht)) (by rw[hld_onW];exact livN_hld hci.core hclive) hae hA5.eb (by rw[hLn];exact hHs k hk) (fun j hj=>by
      rcases hci.idx.range j hj with e|e|e
      ·exact .inl e
      ·exact .inr (.inl e)
      ·exact .inr (.inr e.1)) hci.used).mono ?_
     rintro e w' ⟨⟨hu,R2',S',hN⟩,hkx⟩
     rw[hcome]at hN
     have hblk:=hkx.blk (E1 c.n) hae.lt (by
      rintro(e|e)
      ·have h':bk<E1 c.n:=hA5.eb
       omega
      ·exact type_apart (e▸hae.ob) hbR2 (by decide))
     refine⟨hu,⟨R2',S',hN,?_,hA5.eb,hA5.ne⟩,(uh HB5).trans (hkx.mono (fun b _ h=>uh HU _ (h.elim .inl (fun e=>.inr (.inr e)))))⟩
     have h1:(comeC hf c k v).L c.n=(onW c k v).L c.n:=by rw[uh HML];rfl
     show ECell w' (E1 c.n) ((comeC hf c k v).L c.n) c.n
     rw[h1]
     exact hae.keep hkx.bel.size hblk)
    clear hA5 HB5 hw5 HA4 HB4 HNXI q04 q14 q24 q34 q44
    go_wp2_with fail
    refine(uh HCALL).mono ?_
    rintro e w6 ⟨⟨uu6,rfl⟩,⟨R2x,Sx,hA6x⟩,hB6x⟩
    have HRES:Hid ({{comeC hf c k v with n:=c.n}with n:=c.n+1}=comeC hf c k v):=uy (by
     have h1:=uh HMn
     generalize comeC hf c k v=M at h1
     cases M
     simp only at h1
     subst h1
     rfl)
    have HA6x:=uy hA6x
    have HB6x:=uy hB6x
    clear hA6x hB6x HCALL
    have HA6:Hid (AEnd (w6) bk (.slice la c.n lc) r1 R2x E1 Sx {comeC hf c k v with n:=c.n}):=uy (uh HA6x)
    have HB6:Hid (KX Mq bk w (w6)):=uy (uh HB6x)
    have HLOG:Hid (Rw (w6) (bk+1) tEnt (.slice la c.n lc) c.n (fun i=>some ⟨E1 i,0,none⟩)):=uy ((uh HA6).bm.log)
    have c0x:(w6).cell? ⟨bk,0,none⟩=some (.slice la c.n lc):=(uh HA6).bm.c0
    have lbx:bk<(w6).heap.size:=(uh HA6).bm.lt
    have HFIN:Hid (∀(o:Obj) (g3 cp3:Nat) (w3:World),w3.ownsRow (bk+1) tEnt 1 (.slice (some ⟨g3,0,none⟩) (c.n+1) cp3) (c.n+1) (ptL (fun i=>some ⟨E1 i,0,none⟩) c.n++[.pointer (some ⟨E1 c.n,0,none⟩)])->((w6).alloc o).grownBy w3 (Value.slice la c.n lc).ownBlock->((Value.slice la c.n lc).ownBlock=some g3\/g3=(w6).heap.size+1)->
      w3.cell? ⟨bk,0,none⟩=some (.slice la c.n lc)/\w3.frozen? ⟨bk,0,none⟩=false/\bk<w3.heap.size/\(∃r1' R2' S',BMut (w3.setCell ⟨bk,0,none⟩ (.slice (some ⟨g3,0,none⟩) (c.n+1) cp3)) bk (.slice (some ⟨g3,0,none⟩) (c.n+1) cp3) r1' R2' E1 S' (comeC hf c k v))/\KX Mq bk w (w3.setCell ⟨bk,0,none⟩ (.slice (some ⟨g3,0,none⟩) (c.n+1) cp3))):=uy (fun o g3 cp3 w3 h1 h2 h3=>by
     obtain⟨p1,p2,p3,p4,p5⟩:=(uh HA6).fin h1 h2 h3
     exact⟨p1,p2,p3,⟨_,_,_,by rw[<-uh HRES];exact p4⟩,(((uh HB6).alloc (by omega) o).grown h2 (by omega) (fun r e=>.inr ⟨by have:=((uh HA6).bm.log.lt r e).1;omega,uh HU _ (.inr (.inl e))⟩)).setCell (Nat.le_refl _) (fun _=>uh HU _ (.inl rfl)) _⟩)
    clear HA6 HB6
    go_wp2_with (at_builtin;refine wpList_append_lies _ rfl _ _ 324 rfl (bk+1) tEnt i0 (.pointer none) 1 8 Tryz.underlying324 hi0 hz0 hz1 hz2 rfl (by decide) (.slice la c.n lc) c.n (ptL (fun i=>some ⟨E1 i,0,none⟩) c.n) rfl (World.ownsRow.alloc (uh HLOG) _) ⟨(w6).heap.size,0,none⟩ 1 1 [.pointer (some ⟨E1 c.n,0,none⟩)] rfl rfl (World.news_of_block (Deep.blk_alloc_new _ _)) (by simp[Value.oneCell']) (by decide) (by unfold maxLen;omega) (by omega) (by simp;omega) ((w6).heap.size+1) (by simp) ?_;intro g3 cp3 w3 hown3 hgr3 hloc3 hlt3;obtain⟨x3,f3,lx3,hN3,hB3⟩:=uh HFIN _ g3 cp3 w3 hown3 hgr3 hloc3;have HN3:=uy hN3;have HBB:=uy hB3;clear hown3 hgr3 hloc3 hN3 hB3)
    go_end0
    obtain⟨r1',R2',S',hN⟩:=uh HN3
    exact⟨⟨⟨_,rfl⟩,_,r1',R2',E1,S',hN⟩,uh HBB⟩
end
section
open Go.RowKit
attribute [local go_sem] run_store_float run_equalIn_float
theorem BMut.setE{w w':World}{bk:Nat}{r0 r1:Value}{R2:Nat}{E S:Nat->Nat}{d:Dc}(h:BMut w bk r0 r1 R2 E S d){p:Nat}(hp:p<d.n){q:Pr}(hz:w'.heap.size=w.heap.size)(hb:∀b,b≠E p->w'.heap[b]?=w.heap[b]?)(he:w'.heap[E p]?=some (.cells (entA q p) 294 (0,0)))(hk:q.key=(d.L p).key\/∀j,j<d.x->d.X j≠(p:Int)+1):BMut w' bk r0 r1 R2 E S {d with L:=upd d.L p q}:=by
 have hep:=h.ent p hp
 have hbk:E p≠bk:=by have:=h.eb p hp;omega
 have hc:∀q,w'.cell? ⟨bk,q,none⟩=w.cell? ⟨bk,q,none⟩:=fun q=>World.cell?_of_block (a:=⟨bk,q,none⟩) (hb bk (fun e=>hbk e.symm))
 have kr:∀{t:TypeId} {v:Value} {n:Nat} {f:Nat->Option Addr},Rw w (bk+1) t v n f->t≠294->Rw w' (bk+1) t v n f:=fun{t v n f} hh ht=>own_at hh (fun b e=>hb b (fun e'=>by
  obtain⟨c,hb'⟩:=hh.block e
  rw[e']at hb'
  exact type_apart hb' hep.ob ht))
 refine⟨by rw[hz];exact h.lt,(hc _).trans h.c0,(hc _).trans h.c1,(hc _).trans h.c2,(hc _).trans h.c3,(hc _).trans h.c4,(hc _).trans h.c5,(hc _).trans h.c6,fun q=>(World.frozen?_of_block (a:=⟨bk,q,none⟩) (hb bk (fun e=>hbk e.symm))).trans (h.fz q),kr h.log (by decide),kr h.ints (by decide),h.rf,kr h.slots (by decide),h.ap,fun i hi=>?_,h.eb,h.inj,fun j hj=>?_,h.sg⟩
 ·show ECell w' (E i) (upd d.L p q i) i
  by_cases e:i=p
  ·subst e;rw[upd_same];exact ECell.of_ob he
  ·rw[upd_other _ _ e]
   exact(h.ent i hi).keep (by omega) (hb _ (fun e'=>e (h.inj i p hi hp e')))
 ·have hs:=(h.sl j hj).keep (w':=w') (by omega) (fun c hc'=>hb _ (fun e=>by
   rw[e]at hc'
   exact type_apart hc' hep.ob (by decide)))
  refine⟨fun h0=>?_,hs.2⟩
  have h1:=hs.1 h0
  show SCell w' (S j) (upd d.L p q (d.X j-1).toNat).key (E (d.X j-1).toNat)
  by_cases e:(d.X j-1).toNat=p
  ·rw[e,upd_same]
   rcases hk with hk|hk
   ·rw[hk]
    have h2:SCell w' (S j) (d.L (d.X j-1).toNat).key (E (d.X j-1).toNat):=h1
    rw[e]at h2
    exact h2
   ·have h0':0<d.X j:=h0
    exact absurd (show d.X j=(p:Int)+1 by omega) (hk j hj)
  ·rw[upd_other _ _ e]
   exact h1
def valSet(w:World)(b:Nat)(v:Vl):World:=((((w.setCell ⟨b,5,none⟩ (.int .i64 v.kind)).setCell ⟨b,6,none⟩ (.int .i64 v.num)).setCell ⟨b,7,none⟩ (.float .f64 v.flt)).setCell ⟨b,8,none⟩ (.string v.str)).setCell ⟨b,9,none⟩ (.int .i64 v.ref)
theorem valSet_other{w:World}{b b':Nat}{v:Vl}(h:b'≠b):(valSet w b v).heap[b']?=w.heap[b']?:=by
 unfold valSet
 iterate 5 (refine(Deep.blk_setCell_other _ _ _ _ (by exact h)).trans ?_)
 rfl
theorem valSet_same{w:World}{b:Nat}{p:Pr}{i:Nat}{v:Vl}(h:ECell w b p i):(valSet w b v).heap[b]?=some (.cells (entA ⟨p.key,v,p.turn⟩ i) 294 (0,0)):=by
 have h1:=heap_setCell_same w b 5 _ _ (.int .i64 v.kind) h.ob
 have h2:=heap_setCell_same _ b 6 _ _ (.int .i64 v.num) h1
 have h3:=heap_setCell_same _ b 7 _ _ (.float .f64 v.flt) h2
 have h4:=heap_setCell_same _ b 8 _ _ (.string v.str) h3
 have h5:=heap_setCell_same _ b 9 _ _ (.int .i64 v.ref) h4
 exact h5.trans (by simp[entA])
theorem valSet_below{w:World}{bk b:Nat}{v:Vl}(h:bk<=b):Below bk w (valSet w b v):=by
 unfold valSet
 iterate 5 (refine Below.setCell ?_ (by exact h) _)
 exact Below.refl _ _
theorem valSet_size{w:World}{b:Nat}{v:Vl}:(valSet w b v).heap.size=w.heap.size:=by unfold valSet;simp
end
section
open Go.RowKit
attribute [local go_sem] run_store_float run_equalIn_float
def RemC:Prop:=∀(T:World->Prop) (hTl:Lasts T) (hf:Vl->Nat) (K:Vl->Prop) (KL:KeyLaw K hf) (hHs:∀v,K v->HsI T v (hf v)) (bk:Nat) (hTb:∀w w',T w->Below bk w w'->T w') (r0 r1:Value) (R2:Nat) (E S:Nat->Nat) (d:Dc) (p:Nat) (w:World) (hT:T w) (hM:BMut w bk r0 r1 R2 E S d) (hS:Small d)
  (hI:Inv K hf d) (hp:p<d.n) (ht:(d.L p).turn≠0),
  Calls Tryz.prog 278 #[.pointer (some ⟨bk,0,none⟩),.pointer (some ⟨E p,0,none⟩)] w fun e w'=>((∃u,e=.returned u)/\∃r0' r1' R2' E2 S',BMut w' bk r0' r1' R2' E2 S' (goD hf d p))/\Below bk w w'
def RareC(k v:Vl):Prop:=(v.kind=0->RemC)/\(k.kind=2/\0<k.num->NxtC)
def pM(p:Int)(d:Dc)(k:Vl)(bk:Nat)(r0:Value)(R2 b:Nat):Prop:=p=-1->aM d k bk r0 R2 b
theorem put_any(T:World->Prop)(hTl:Lasts T)(hf:Vl->Nat)(K:Vl->Prop)(KL:KeyLaw K hf)(hHs:∀v,K v->HsI T v (hf v))(bk:Nat)(hTb:∀w w',T w->Below bk w w'->T w')(r0 r1:Value)(R2:Nat)(E S:Nat->Nat)(d:Dc)(k v:Vl)(w:World)(hT:T w)(hM:BMut w bk r0 r1 R2 E S d)(hS:Small d)(hm4:d.m<=4000000)
  (hI:Inv K hf d) (hk:K k) (hkb:keyB k=true) (hv:v.ok=true) (hR:RareC k v):
  Calls Tryz.prog 261 #[.pointer (some ⟨bk,0,none⟩),V k.kind k.num k.flt k.str k.ref,V v.kind v.num v.flt v.str v.ref] w fun e w'=>((∃u,e=.returned u)/\∃r0' r1' R2' E2 S',BMut w' bk r0' r1' R2' E2 S' (putD hf d k v))/\KX (pM (placeI d k (hf k)) d k bk r0 R2) bk w w':=by
 have hn1:0<=placeI d k (hf k)->∀b,pM (placeI d k (hf k)) d k bk r0 R2 b:=fun h b h'=>by omega
 have hn2:∀b,aM d k bk r0 R2 b->pM (placeI d k (hf k)) d k bk r0 R2 b:=fun b h _=>h
 generalize pM (placeI d k (hf k)) d k bk r0 R2=Mq at*
 have HU1:=uy hn1
 have HU2:=uy hn2
 clear hn1 hn2
 have HRR:=uy hR
 clear hR
 have hlt:=hM.lt
 have hb0:Below w.heap.size w ((w.alloc (.cells #[.int .i64 k.kind,.int .i64 k.num,.float .f64 k.flt,.string k.str,.int .i64 k.ref] 43)).alloc (.cells #[.int .i64 v.kind,.int .i64 v.num,.float .f64 v.flt,.string v.str,.int .i64 v.ref] 43)):=((Below.refl _ _).alloc (Nat.le_refl _) _).alloc (by simp) _
 have HV0:Hid (VBox ((w.alloc (.cells #[.int .i64 k.kind,.int .i64 k.num,.float .f64 k.flt,.string k.str,.int .i64 k.ref] 43)).alloc (.cells #[.int .i64 v.kind,.int .i64 v.num,.float .f64 v.flt,.string v.str,.int .i64 v.ref] 43)) w.heap.size k/\VBox ((w.alloc (.cells #[.int .i64 k.kind,.int .i64 k.num,.float .f64 k.flt,.string k.str,.int .i64 k.ref] 43)).alloc (.cells #[.int .i64 v.kind,.int .i64 v.num,.float .f64 v.flt,.string v.str,.int .i64 v.ref] 43)) (w.heap.size+1) v):=uy ⟨⟨by simp;omega,by simp[go_sem],by simp[go_sem],by simp[go_sem],by simp[go_sem],by simp[go_sem]⟩,⟨by simp,by simp[go_sem],by simp[go_sem],by simp[go_sem],by simp[go_sem],by simp[go_sem]⟩⟩
 have HB0:=uy hb0
 have FND:∀W,Below w.heap.size w W->Calls Tryz.prog 263 #[.pointer (some ⟨bk,0,none⟩),V k.kind k.num k.flt k.str k.ref] W fun e w'=>e=.returned (.pointer (placeP E (placeI d k (hf k))))/\Below W.heap.size W w':=fun W hW=>by
  obtain⟨R0',R1',hB⟩:=(hM.below hW).book
  exact bfind_any T hTl bk R0' R1' R2 E S d k (hf k) (hHs k hk) W (hTl _ _ hT hW) hB hS hI.i0.d3 hI.i0.d4
 rcases hI.i0.place KL hk with⟨i,h1,h2,h3,h4⟩|⟨h1,h2⟩
 ·have hp:0<=placeI d k (hf k):=by omega
  have HU:=uy (uh HU1 hp)
  have hi:(placeI d k (hf k)).toNat=i:=by omega
  have hpp:placeP E (placeI d k (hf k))=some ⟨E i,0,none⟩:=by unfold placeP;rw[if_pos hp,hi]
  rw[hpp]at FND
  have HFND:=uy FND
  have hEb:=hM.eb i h1
  by_cases hv0:v.kind=0
  ·have HRES:Hid (putD hf d k v=goD hf d i):=uy (by rw[putD_go hp hv0,hi])
   have HREM:Hid (∀W,Below w.heap.size w W->Calls Tryz.prog 278 #[.pointer (some ⟨bk,0,none⟩),.pointer (some ⟨E i,0,none⟩)] W fun e w'=>((∃u,e=.returned u)/\∃r0' r1' R2' E2 S',BMut w' bk r0' r1' R2' E2 S' (goD hf d i))/\Below bk W w'):=uy (fun W hW=>(uh HRR).1 hv0 T hTl hf K KL hHs bk hTb r0 r1 R2 E S d i W (hTl _ _ hT hW) (hM.below hW) hS hI h1 h2)
   have HV:=uy hv0
   rw[uh HRES]
   clear hM hT hS hI h2 h3 h4 hp hi hpp FND hb0 hv0
   go_enter Tryz.func261,Tryz.ntmps261
   go_wp2_with fail
   refine(uh HFND _ (uh HB0)).mono ?_
   rintro e w1 ⟨rfl,hb1⟩
   have vv:=(uh HV0).2.keep hb1.size (hb1.block _ (uh HV0).2.lt)
   have v0:=vv.k0
   rw[uh HV]at v0
   have lv:=vv.lt
   have HB1:=uy ((uh HB0).trans (hb1.mono (uh HB0).size))
   clear hb1 vv
   go_wp2_with fail
   refine(uh HREM _ (uh HB1)).mono ?_
   rintro e w2 ⟨⟨⟨uu,rfl⟩,r0',r1',R2',E2,S',hM2⟩,hb2⟩
   have HM2:=uy hM2
   have HB2:=uy (((uh HB1).mono (Nat.le_of_lt hlt)).trans hb2)
   clear hM2 hb2
   go_wp2
   go_end0
   exact⟨⟨⟨_,rfl⟩,r0',r1',R2',E2,S',uh HM2⟩,uh HB2,fun b _ h=>absurd (uh HU b) h⟩
  ·have HRES:Hid (putD hf d k v=setV d i v):=uy (by rw[putD_set hp hv0,hi])
   have hv0':(v.kind !=0)=true:=by simp[hv0]
   have HSET:Hid (∀W,Below w.heap.size w W->ECell W (E i) (d.L i) i/\BMut (valSet W (E i) v) bk r0 r1 R2 E S (setV d i v)):=uy (fun W hW=>by
    have he:=(hM.below hW).ent i h1
    exact⟨he,(hM.below hW).setE h1 valSet_size (fun b hb=>valSet_other hb) (valSet_same he) (.inl rfl)⟩)
   rw[uh HRES]
   clear hM hT hS hI h2 h3 h4 hp hi hpp FND hb0 hv0
   go_enter Tryz.func261,Tryz.ntmps261
   go_wp2_with fail
   refine(uh HFND _ (uh HB0)).mono ?_
   rintro e w1 ⟨rfl,hb1⟩
   have vv:=(uh HV0).2.keep hb1.size (hb1.block _ (uh HV0).2.lt)
   have v0:=vv.k0
   have v1:=vv.k1
   have v2:=vv.k2
   have v3:=vv.k3
   have v4:=vv.k4
   have lv:=vv.lt
   have hB1:=(uh HB0).trans (hb1.mono (uh HB0).size)
   obtain⟨he,hN⟩:=uh HSET _ hB1
   have hff:∀q,w1.frozen? ⟨E i,q,none⟩=false:=fun q=>by simp[World.frozen?,he.ob]
   have z5:=he.v0
   have z6:=he.v1
   have z7:=he.v2
   have z8:=he.v3
   have z9:=he.v4
   have hel:=he.lt
   have HB2:Hid (Below bk w (valSet w1 (E i) v)):=uy ((hB1.mono (Nat.le_of_lt hlt)).trans (valSet_below (bk:=bk) (w:=w1) (b:=E i) (v:=v) (Nat.le_of_lt hEb)))
   have HN:=uy hN
   clear hb1 vv hB1 he hN HSET HV0 HFND HB0
   go_wp2
   go_end0
   exact⟨⟨⟨_,rfl⟩,_,_,_,_,_,uh HN⟩,uh HB2,fun b _ h=>absurd (uh HU b) h⟩
 ·have hp:¬0<=placeI d k (hf k):=by omega
  have hpp:placeP E (placeI d k (hf k))=none:=by unfold placeP;rw[if_neg hp]
  rw[hpp]at FND
  have HFND:=uy FND
  have hcnt:=hI.i0.log.cnt
  have hle:=hI.i0.le
  have htn:=hI.i0.turns
  by_cases hc:v.kind≠0/\d.live<500/\d.turns<1000000000000
  ·have HRES:Hid (putD hf d k v=comeD hf d k v):=uy (putD_come hp hc)
   obtain⟨hc1,hc2,hc3⟩:=hc
   have hc1':(v.kind !=0)=true:=by simp[hc1]
   have hc2':decide (d.live<500)=true:=by simp[hc2]
   have hc3':decide (d.turns<1000000000000)=true:=by simp[hc3]
   have HADD:Hid (∀W,Below w.heap.size w W->Calls Tryz.prog 279 #[.pointer (some ⟨bk,0,none⟩),V k.kind k.num k.flt k.str k.ref,V v.kind v.num v.flt v.str v.ref] W fun e w'=>((∃u,e=.returned u)/\∃r0' r1' R2' E2 S',BMut w' bk r0' r1' R2' E2 S' (comeD hf d k v))/\KX Mq bk W w'):=uy (fun W hW=>add_any T hTl hf K KL hHs bk hTb r0 r1 R2 E S d k v W (hTl _ _ hT hW) (hM.below hW) hS hm4 hI hk hkb hv hc1 h1 hc2 hc3 (uh HRR).2 |>.mono fun e w' h=>⟨h.1,h.2.mono fun b _=>uh HU2 b⟩)
   have HM:=uy hM
   rw[uh HRES]
   clear hM hT hS hI h1 h2 hp hpp FND hb0 hc1 hc2 hc3
   go_enter Tryz.func261,Tryz.ntmps261
   go_wp2_with fail
   refine(uh HFND _ (uh HB0)).mono ?_
   rintro e w1 ⟨rfl,hb1⟩
   have hB1:=(uh HB0).trans (hb1.mono (uh HB0).size)
   have vv:=(uh HV0).2.keep hb1.size (hb1.block _ (uh HV0).2.lt)
   have vk:=(uh HV0).1.keep hb1.size (hb1.block _ (uh HV0).1.lt)
   have v0:=vv.k0
   have v1:=vv.k1
   have v2:=vv.k2
   have v3:=vv.k3
   have v4:=vv.k4
   have lv:=vv.lt
   have y0:=vk.k0
   have y1:=vk.k1
   have y2:=vk.k2
   have y3:=vk.k3
   have y4:=vk.k4
   have lk:=vk.lt
   have c5:=((uh HM).below hB1).c5
   have c6:=((uh HM).below hB1).c6
   have lb:=((uh HM).below hB1).lt
   have HB1:=uy hB1
   clear hb1 vv vk hB1
   go_wp2_with fail
   refine(uh HADD _ (uh HB1)).mono ?_
   rintro e w2 ⟨⟨⟨uu,rfl⟩,r0',r1',R2',E2,S',hM2⟩,hb2⟩
   have HM2:=uy hM2
   have HB2:=uy ((KX.of_below (uh HB1) (Nat.le_of_lt hlt)).trans hb2)
   clear hM2 hb2
   go_wp2
   go_end0
   exact⟨⟨⟨_,rfl⟩,r0',r1',R2',E2,S',uh HM2⟩,uh HB2⟩
  ·have HRES:Hid (putD hf d k v=d):=uy (putD_not hp hc)
   have HM:=uy hM
   rw[uh HRES]
   have hcc:v.kind=0\/(v.kind≠0/\¬d.live<500)\/(v.kind≠0/\d.live<500/\¬d.turns<1000000000000):=by
    by_cases e1:v.kind=0
    ·exact .inl e1
    ·by_cases e2:d.live<500
     ·exact .inr (.inr ⟨e1,e2,fun e3=>hc ⟨e1,e2,e3⟩⟩)
     ·exact .inr (.inl ⟨e1,e2⟩)
   clear hM hT hS hI h1 h2 hp hpp FND hb0 hc
   go_enter Tryz.func261,Tryz.ntmps261
   go_wp2_with fail
   refine(uh HFND _ (uh HB0)).mono ?_
   rintro e w1 ⟨rfl,hb1⟩
   have hB1:=(uh HB0).trans (hb1.mono (uh HB0).size)
   have vv:=(uh HV0).2.keep hb1.size (hb1.block _ (uh HV0).2.lt)
   have v0:=vv.k0
   have lv:=vv.lt
   have hM1:=(uh HM).below hB1
   have c5:=hM1.c5
   have c6:=hM1.c6
   have lb:=hM1.lt
   have HM1:=uy hM1
   have HB1:Hid (KX Mq bk w w1):=uy (KX.of_below hB1 (Nat.le_of_lt hlt))
   clear hb1 vv hB1 hM1
   rcases hcc with e1|⟨e1,e2⟩|⟨e1,e2,e3⟩
   ·rw[e1]at v0
    clear e1
    go_wp2
    go_end0
    exact⟨⟨⟨_,rfl⟩,_,_,_,_,_,uh HM1⟩,uh HB1⟩
   ·have e1':(v.kind !=0)=true:=by simp[e1]
    have e2':decide (d.live<500)=false:=by simp[e2]
    clear e1 e2
    go_wp2
    go_end0
    exact⟨⟨⟨_,rfl⟩,_,_,_,_,_,uh HM1⟩,uh HB1⟩
   ·have e1':(v.kind !=0)=true:=by simp[e1]
    have e2':decide (d.live<500)=true:=by simp[e2]
    have e3':decide (d.turns<1000000000000)=false:=by simp[e3]
    clear e1 e2 e3
    go_wp2
    go_end0
    exact⟨⟨⟨_,rfl⟩,_,_,_,_,_,uh HM1⟩,uh HB1⟩
end
section
open Go.RowKit
attribute [local go_sem] run_store_float run_equalIn_float
theorem make_intsO(n:Nat)(hn:n<=4194304)(w:World):
  (Instr.makeSlice 90 (.int .i64 (n:Int)) (.int .i64 (n:Int))).run Tryz.prog w=.ok (.slice (some ⟨w.heap.size,0,none⟩) n n) (w.alloc (.cells (madeCells #[Value.int .i64 0] n) 3)):=by
 have:=make_ints n hn w
 simpa[Value.cells]using this
end
section
open Go.RowKit
attribute [local go_sem] run_store_float run_equalIn_float
def InV(f:Nat->Int)(n:Nat)(w:World)(v:Value)(lo hi:Nat):Prop:=
 (n=0/\v=.slice none 0 0)\/∃b cp N g,v=.slice (some ⟨b,0,none⟩) n cp/\lo<=b/\b<hi/\w.rowIs b 3 N g/\n<=N/\∀j,j<n->g j=.int .i64 (f j)
theorem InV.keep{f:Nat->Int}{n:Nat}{w w':World}{v:Value}{lo hi:Nat}(h:InV f n w v lo hi)(hk:∀b,v.ownBlock=some b->lo<=b->b<hi->w'.heap[b]?=w.heap[b]?):InV f n w' v lo hi:=by
 rcases h with h|⟨b,cp,N,g,h1,h2,h3,h4,h5,h6⟩
 ·exact .inl h
 ·exact .inr ⟨b,cp,N,g,h1,h2,h3,World.rowIs.of_block h4 (hk b (by rw[h1];rfl) h2 h3),h5,h6⟩
theorem InV.of{f:Nat->Int}{n B:Nat}{w:World}{v:Value}(h:IOwn w B v n f):InV f n w v B w.heap.size:=by
 have hlt:=h.lt
 obtain⟨hl,⟨hv,h0⟩|⟨g',cap,cur,hv,hb,hblk,h1,h2,h3,h4⟩⟩:=h
 ·exact .inl ⟨h0,hv⟩
 ·subst hv
  refine .inr ⟨g',cap,cap,fun j=>(cur[j]?).getD undef,rfl,hb,(hlt g' rfl).2,⟨cur,hblk,by omega,fun i hi=>by simp[Array.getElem?_eq_getElem (show i<cur.size by omega)]⟩,h1,fun j hj=>?_⟩
  have h5:=iL_get (f:=f) (n:=n) (i:=j) hj
  rw[<-h4,List.getElem?_take,if_pos (by omega),Array.getElem?_toList]at h5
  show(cur[j]?).getD undef=_
  rw[h5]
  rfl
theorem InV.at{f:Nat->Int}{n:Nat}{w:World}{v:Value}{lo hi:Nat}(h:InV f n w v lo hi):∃a cp,v=.slice a n cp/\IAt w a n f:=by
 rcases h with⟨h0,rfl⟩|⟨b,cp,N,g,h1,h2,h3,h4,h5,h6⟩
 ·subst h0;exact⟨_,_,rfl,.inl rfl⟩
 ·exact⟨_,_,h1,.inr ⟨b,0,rfl,World.rowIs.lt h4,fun i hi=>by rw[Nat.zero_add,h4.cell (by omega),h6 i hi]⟩⟩
end
section
open Go.RowKit
attribute [local go_sem] run_store_float run_equalIn_float
structure DV (d:Dc) (w:World) (v0 v1 v2:Value) (lo hi:Nat):Prop where
 log:PrV d.L d.n w v0 lo hi
 ints:InV d.I d.m w v1 lo hi
 index:InV d.X d.x w v2 lo hi
 a01:∀q,v0.ownBlock=some q->v1.ownBlock≠some q
 a02:∀q,v0.ownBlock=some q->v2.ownBlock≠some q
 a12:∀q,v1.ownBlock=some q->v2.ownBlock≠some q
abbrev DvV(v0 v1 v2:Value)(d:Dc):Value:=.agg #[v0,v1,v2,.int .i64 d.used,.int .i64 d.live,.int .i64 d.turns]
theorem DV.keep{d:Dc}{w w':World}{v0 v1 v2:Value}{lo hi:Nat}(h:DV d w v0 v1 v2 lo hi)(hk:∀b,lo<=b->b<hi->w'.heap[b]?=w.heap[b]?):DV d w' v0 v1 v2 lo hi:=
 ⟨h.log.keep hk,h.ints.keep (fun b _=>hk b),h.index.keep (fun b _=>hk b),h.a01,h.a02,h.a12⟩
theorem DV.at{d:Dc}{w:World}{v0 v1 v2:Value}{lo hi:Nat}(h:DV d w v0 v1 v2 lo hi):∃la lc ia ic xa xc,v0=.slice la d.n lc/\v1=.slice ia d.m ic/\v2=.slice xa d.x xc/\DAt w la ia xa d:=by
 obtain⟨la,lc,rfl,h0⟩:=h.log.at
 obtain⟨ia,ic,rfl,h1⟩:=h.ints.at
 obtain⟨xa,xc,rfl,h2⟩:=h.index.at
 exact⟨la,lc,ia,ic,xa,xc,rfl,rfl,rfl,h0,h1,h2⟩
theorem PrV.own{f:Nat->Pr}{n:Nat}{w:World}{v:Value}{lo hi:Nat}(h:PrV f n w v lo hi){b:Nat}(e:v.ownBlock=some b):lo<=b/\b<hi/\b<w.heap.size:=by
 rcases h with⟨h0,rfl⟩|⟨b',cp,N,g,rfl,h2,h3,h4,h5,h6⟩
 ·cases e
 ·have e':b'=b:=by simpa[Value.ownBlock]using e
  subst e'
  exact⟨h2,h3,World.rowIs.lt h4⟩
end
end Go.Proofs.YtgmlkfgfjjggnaaGreatDoor
