import Derived.Test.YtgmlkfgfjjggnaaGreatDoorSAR
import Derived.Test.YtgmlkfgfjjggnaaGreatDoorSAZ
import Derived.Test.YtgmlkfgfjjggnaaGreatDoorSAO
import Derived.Test.YtgmlkfgfjjggnaaGreatDoorSAP
set_option linter.unusedVariables false
set_option linter.unusedSimpArgs false
set_option maxHeartbeats 40000000
set_option maxRecDepth 100000
namespace Go.Proofs.YtgmlkfgfjjggnaaGreatDoor
instance:Inhabited Si:=⟨⟨⟨#[]⟩,0,0,0,0⟩⟩
instance:Inhabited Tb:=⟨⟨0,0,fun _=>default,⟨0,fun _=>default,0,fun _=>0,0,fun _=>0,0,0,0⟩⟩⟩
instance:Inhabited Ad:=⟨⟨none,0,none,0,none,0,none,0⟩⟩
section
open Go.RowKit
attribute [local go_sem] run_store_float run_equalIn_float run_store_func
structure UndoR (w:World) (c:Nat) (vU:Value) (t:Nat) (kv:Value) (gu cu bb bw bn:Nat):Prop where
 v:vU=.slice (some ⟨gu,0,none⟩) 1 cu
 u:w.ownsRow 0 1 1 (.slice (some ⟨gu,0,none⟩) 1 cu) 1 [.func (.func 240) #[] #[.pointer (some ⟨bb,0,none⟩),.pointer (some ⟨bw,0,none⟩),.pointer (some ⟨bn,0,none⟩)]]
 k:w.heap[bb]?=some (.cells #[kv] 162 (0,0))
 b:w.heap[bw]?=some (.cells #[.pointer (some ⟨c,0,none⟩)] 121 (0,0))
 n:w.heap[bn]?=some (.cells #[.int .i64 (t:Int)] 3 (0,0))
theorem UndoR.keep{w w':World}{c:Nat}{vU:Value}{t:Nat}{kv:Value}{gu cu bb bw bn:Nat}(h:UndoR w c vU t kv gu cu bb bw bn)(h1:w'.heap[gu]?=w.heap[gu]?)(h0:w'.heap[bb]?=w.heap[bb]?)(h2:w'.heap[bw]?=w.heap[bw]?)(h3:w'.heap[bn]?=w.heap[bn]?):UndoR w' c vU t kv gu cu bb bw bn:=
 ⟨h.v,own_keep h.u (fun g e=>by cases e;exact h1),h0.trans h.k,h2.trans h.b,h3.trans h.n⟩
def HeldRw(bw bn c g t:Nat)(vT kv:Value)(W:World):Prop:=W.cell? ⟨bw,0,none⟩=some (.pointer (some ⟨c,0,none⟩))/\W.cell? ⟨bn,0,none⟩=some (.int .i64 (t:Int))/\W.cell? ⟨c,1,none⟩=some vT/\W.cell? ⟨g,t,none⟩=some kv
def HeldSw(bw bn c t:Nat)(vT:Value)(W:World):Prop:=W.cell? ⟨bw,0,none⟩=some (.pointer (some ⟨c,0,none⟩))/\W.cell? ⟨bn,0,none⟩=some (.int .i64 (t:Int))/\W.cell? ⟨c,1,none⟩=some vT
theorem kind_form(Bk:Nat->Nat)(a:Ad)(x:Tb):∃ty v,kindV Bk a x=.iface ty v:=by
 unfold kindV
 split
 ·exact⟨_,_,rfl⟩
 ·exact⟨_,_,rfl⟩
theorem replace_any(Z:Nat->Prop)(c B0:Nat)(vN vT vS:Value)(Bk:Nat->Nat)(A:Nat->Ad)(s:Sto)(t:Nat)(a':Ad)(x':Tb)(w:World)(hM:WkM Z w c B0 vN vT vS (.slice none 0 0) Bk A s)(ht:t<s.nt)(hnt:s.nt<=100)(hr:Rd (OZ Z B0 c vN vT vS w) w a' x'):
  Calls Tryz.prog 208 #[.pointer (some ⟨c,0,none⟩),.int .i64 (t:Int),kindV Bk a' x'] w fun e w'=>(∃u,e=.returned u)/\∃vU',WkM Z w' c B0 vN vT vS vU' Bk (up1 A t a') (setT s t x')/\Dst (OwnW B0 c vN vT vS w) w (OwnW B0 c vN vT vS w') w'/\(∀k,k<w.heap.size->k≠c->vT.ownBlock≠some k->w'.heap[k]?=w.heap[k]?)/\∃gu cu bb bw bn,UndoR w' c vU' t (kindV Bk (A t) (s.T t)) gu cu bb bw bn/\vT.ownBlock≠some bb:=by
 obtain⟨g,cp,hv,hgl,hBg,hgt,hgf⟩:=hM.tform ht
 subst hv
 obtain⟨ty,kv,hkv⟩:=kind_form Bk (A t) (s.T t)
 obtain⟨ty',kv',hkv'⟩:=kind_form Bk a' x'
 obtain⟨W,hW⟩:∃W,W=(w.alloc (.cells #[.pointer (some ⟨c,0,none⟩)] 121)).alloc (.cells #[.int .i64 (t:Int)] 3):=⟨_,rfl⟩
 have hbW:Below w.heap.size w W:=by rw[hW];exact((Below.refl _ _).alloc (Nat.le_refl _) _).alloc (by simp) _
 have hzW:W.heap.size=w.heap.size+1+1:=by rw[hW];simp
 have b0:W.heap[w.heap.size]?=some (.cells #[.pointer (some ⟨c,0,none⟩)] 121 (0,0)):=by
  rw[hW]
  exact(Deep.blk_alloc_lt _ _ _ (by simp)).trans (Deep.blk_alloc_new _ _)
 have b1:W.heap[w.heap.size+1]?=some (.cells #[.int .i64 (t:Int)] 3 (0,0)):=by
  rw[hW]
  have h1:=Deep.blk_alloc_new (w.alloc (.cells #[.pointer (some ⟨c,0,none⟩)] 121)) (.cells #[.int .i64 (t:Int)] 3)
  simpa using h1
 have hcl:=hM.lt
 have hcg:c≠g:=fun e=>hM.notrow hM.t (by decide) (by rw[e];rfl)
 obtain⟨X,hX⟩:∃X,X=(W.alloc (.cells #[.iface ty kv] 162)).drew:=⟨_,rfl⟩
 have hbX:Below w.heap.size w X:=by rw[hX];exact(hbW.alloc hbW.size _).drew
 have hbWX:Below W.heap.size W X:=by rw[hX];exact((Below.refl _ _).alloc (Nat.le_refl _) _).drew
 have hzX:X.heap.size=w.heap.size+1+1+1:=by rw[hX];simp;omega
 have x2:X.heap[w.heap.size+1+1]?=some (.cells #[.iface ty kv] 162 (0,0)):=by
  rw[hX,<-hzW]
  exact Deep.blk_alloc_new W _
 have hS0:HeldRw w.heap.size (w.heap.size+1) c g t (.slice (some ⟨g,0,none⟩) s.nt cp) (.iface ty kv) W.drew:=⟨by show W.cell? _=_;simp[World.cell?,b0],by show W.cell? _=_;simp[World.cell?,b1],(hbW.cell (p:=⟨c,1,none⟩) hcl).trans hM.cells.2.1,(hbW.cell (p:=⟨g,t,none⟩) hgl).trans (hgt.trans (by rw[hkv]))⟩
 obtain⟨hE,hDE⟩:=hM.enter hbX
 have HFin:Hid (∀w1 gu cu,W.heap.size<w1.heap.size->(∀k,k<X.heap.size->k≠c->w1.heap[k]?=X.heap[k]?)->X.heap.size<=gu->w1.ownsRow X.heap.size 1 1 (.slice (some ⟨gu,0,none⟩) 1 cu) 1 [.func (.func 240) #[] #[.pointer (some ⟨w.heap.size+1+1,0,none⟩),.pointer (some ⟨w.heap.size,0,none⟩),.pointer (some ⟨w.heap.size+1,0,none⟩)]]->
   WkM (ZB Z w.heap.size X.heap.size) w1 c B0 vN (.slice (some ⟨g,0,none⟩) s.nt cp) vS (.slice (some ⟨gu,0,none⟩) 1 cu) Bk A s->Dst (OwnW B0 c vN (.slice (some ⟨g,0,none⟩) s.nt cp) vS X) X (OwnW B0 c vN (.slice (some ⟨g,0,none⟩) s.nt cp) vS w1) w1->
   HeldSw w.heap.size (w.heap.size+1) c t (.slice (some ⟨g,0,none⟩) s.nt cp) w1.drew/\HeldSw w.heap.size (w.heap.size+1) c t (.slice (some ⟨g,0,none⟩) s.nt cp) ((w1.setCell ⟨g,t,none⟩ (.iface ty' kv')).drew)/\g<w1.heap.size/\(∃u,w1.cell? ⟨g,t,none⟩=some u)/\w1.frozen? ⟨g,t,none⟩=false/\
   (WkM Z (w1.setCell ⟨g,t,none⟩ (.iface ty' kv')).drew c B0 vN (.slice (some ⟨g,0,none⟩) s.nt cp) vS (.slice (some ⟨gu,0,none⟩) 1 cu) Bk (up1 A t a') (setT s t x')/\Dst (OwnW B0 c vN (.slice (some ⟨g,0,none⟩) s.nt cp) vS w) w (OwnW B0 c vN (.slice (some ⟨g,0,none⟩) s.nt cp) vS (w1.setCell ⟨g,t,none⟩ (.iface ty' kv')).drew) (w1.setCell ⟨g,t,none⟩ (.iface ty' kv')).drew/\(∀k,k<w.heap.size->k≠c->(Value.slice (some ⟨g,0,none⟩) s.nt cp).ownBlock≠some k->(w1.setCell ⟨g,t,none⟩ (.iface ty' kv')).drew.heap[k]?=w.heap[k]?)/\
    UndoR (w1.setCell ⟨g,t,none⟩ (.iface ty' kv')).drew c (.slice (some ⟨gu,0,none⟩) 1 cu) t (kindV Bk (A t) (s.T t)) gu cu (w.heap.size+1+1) w.heap.size (w.heap.size+1))):=uy (by
  intro w1 gu cu hz1 hk1 hgu hou m1 d1
  have y0:=(hk1 _ (by omega) (by omega)).trans ((hbWX.block _ (by omega)).trans b0)
  have y1:=(hk1 _ (by omega) (by omega)).trans ((hbWX.block _ (by omega)).trans b1)
  have y2:=(hk1 _ (by omega) (by omega)).trans x2
  have hr1:Rd (OZ (ZB Z w.heap.size X.heap.size) B0 c vN (.slice (some ⟨g,0,none⟩) s.nt cp) vS w1) w1 a' x':=by
   intro w'' hs hk
   refine hr w'' (Nat.le_trans hbX.size (Nat.le_trans d1.size hs)) (fun k k1 k2=>?_)
   have hd:=hDE.trans d1
   refine(hk k (Nat.lt_of_lt_of_le k1 hd.size) (fun e=>?_)).trans (hd.block k k1 (fun e=>k2 (.inl e)))
   rcases e with e|e|e
   ·exact(hd.own k e).elim (fun e=>k2 (.inl e)) (fun e=>by omega)
   ·exact k2 (.inr e)
   ·omega
  have hgl1:g<w1.heap.size:=Nat.lt_of_lt_of_le (by omega) d1.size
  have hgt1:w1.cell? ⟨g,t,none⟩=some (kindV Bk (A t) (s.T t)):=by rw[World.ownsRow.cellAt m1.t t (by omega),kL_get ht]
  have hgf1:∀q,w1.frozen? ⟨g,q,none⟩=false:=fun q=>by obtain⟨cur,hb,_⟩:=own_blk m1.t rfl;simp[World.frozen?,hb]
  obtain⟨m2,d2⟩:=m1.setTab rfl ht hr1
  rw[hkv']at m2 d2
  have st:∀q,q≠g->(w1.setCell ⟨g,t,none⟩ (.iface ty' kv')).heap[q]?=w1.heap[q]?:=fun q hq=>Deep.blk_setCell_other _ _ _ _ (by exact hq)
  have hc1:=m1.cells.2.1
  have hd:=(hDE.trans d1).trans d2
  refine⟨⟨by show w1.cell? _=_;simp[World.cell?,y0],by show w1.cell? _=_;simp[World.cell?,y1],hc1⟩,⟨?_,?_,(World.cell?_of_block (a:=⟨c,1,none⟩) (st c hcg)).trans hc1⟩,hgl1,⟨_,hgt1⟩,hgf1 t,(m2.leave (fun k e=>.inl e)).drew,hd.drewW,fun k hk hkc hkT=>?_,⟨rfl,own_lo (own_keep hou (fun q e=>st q (by cases e;show gu≠g;omega))) (Nat.zero_le _),?_,(st _ (by omega)).trans y0,(st _ (by omega)).trans y1⟩⟩
  ·exact(World.cell?_of_block (a:=⟨w.heap.size,0,none⟩) (st w.heap.size (by omega))).trans (by simp[World.cell?,y0])
  ·exact(World.cell?_of_block (a:=⟨w.heap.size+1,0,none⟩) (st (w.heap.size+1) (by omega))).trans (by simp[World.cell?,y1])
  ·exact(st k (fun e=>hkT (by rw[e];rfl))).trans ((hk1 k (by omega) hkc).trans (hbX.block k hk))
  ·exact((st _ (by omega)).trans y2).trans (by rw[hkv]))
 have HE:=uy hE
 have hSX:HeldRw w.heap.size (w.heap.size+1) c g t (.slice (some ⟨g,0,none⟩) s.nt cp) (.iface ty kv) X:=⟨(hbWX.cell (p:=⟨w.heap.size,0,none⟩) (by show w.heap.size<_;omega)).trans hS0.1,(hbWX.cell (p:=⟨w.heap.size+1,0,none⟩) (by show w.heap.size+1<_;omega)).trans hS0.2.1,(hbWX.cell (p:=⟨c,1,none⟩) (by show c<_;omega)).trans hS0.2.2.1,(hbWX.cell (p:=⟨g,t,none⟩) (by show g<_;omega)).trans hS0.2.2.2⟩
 have hSY:∀cs,HeldRw w.heap.size (w.heap.size+1) c g t (.slice (some ⟨g,0,none⟩) s.nt cp) (.iface ty kv) (W.alloc (.cells cs 162)).drew:=fun cs=>by
  have hb:Below W.heap.size W (W.alloc (.cells cs 162)).drew:=((Below.refl _ _).alloc (Nat.le_refl _) _).drew
  exact⟨(hb.cell (p:=⟨w.heap.size,0,none⟩) (by show w.heap.size<_;omega)).trans hS0.1,(hb.cell (p:=⟨w.heap.size+1,0,none⟩) (by show w.heap.size+1<_;omega)).trans hS0.2.1,(hb.cell (p:=⟨c,1,none⟩) (by show c<_;omega)).trans hS0.2.2.1,(hb.cell (p:=⟨g,t,none⟩) (by show g<_;omega)).trans hS0.2.2.2⟩
 have hzX':W.heap.size<X.heap.size:=by omega
 have x0:X.cell? ⟨w.heap.size,0,none⟩=some (.pointer (some ⟨c,0,none⟩)):=hSX.1
 have lx0:w.heap.size<X.heap.size:=by omega
 rw[hkv']
 clear hM hE hDE hbW hbX hbWX x2 b0 b1 hr hgt hgf hkv hkv'
 go_enter Tryz.func208,Tryz.ntmps208
 go_wp2_with fail
 rw[<-hW]
 clear hW
 refine wpN_held (HeldRw w.heap.size (w.heap.size+1) c g t (.slice (some ⟨g,0,none⟩) s.nt cp) (.iface ty kv)) (by kernel_rfl) ?_
 change wpAnyH _ _ _ _ _ _ _ _ (World.drew _)
 refine tq 0 (v:=?_) ?_ ?_;rotate_left;intro w' ⟨s0,s1,s2,s3⟩;go_simp;try with_reducible rfl
 simp only[Act.put,sA,sB,sC]
 refine tq 1 (v:=?_) ?_ ?_;rotate_left;intro w' ⟨s0,s1,s2,s3⟩;go_simp;try with_reducible rfl
 simp only[Act.put,sA,sB,sC]
 refine tq 2 (v:=?_) ?_ ?_;rotate_left;intro w' ⟨s0,s1,s2,s3⟩;go_simp;try with_reducible rfl
 simp only[Act.put,sA,sB,sC]
 refine tq 3 (v:=?_) ?_ ?_;rotate_left;intro w' ⟨s0,s1,s2,s3⟩;go_simp;try with_reducible rfl
 simp only[Act.put,sA,sB,sC]
 refine tq 4 (v:=?_) ?_ ?_;rotate_left;intro w' ⟨s0,s1,s2,s3⟩;go_simp;try with_reducible rfl
 simp only[Act.put,sA,sB,sC]
 refine tq 5 (v:=?_) ?_ ?_;rotate_left;intro w' ⟨s0,s1,s2,s3⟩;go_simp;try with_reducible rfl
 simp only[Act.put,sA,sB,sC]
 refine tq 6 (v:=?_) ?_ ?_;rotate_left;intro w' ⟨s0,s1,s2,s3⟩;go_simp;try with_reducible rfl
 simp only[Act.put,sA,sB,sC]
 refine tq 7 (v:=?_) ?_ ?_;rotate_left;intro w' ⟨s0,s1,s2,s3⟩;go_simp;try with_reducible rfl
 simp only[Act.put,sA,sB,sC]
 refine wpAnyH_ready (rs:=[8]) (by kernel_rfl) (by simp) ?_
 refine AllReadyH.cons rfl (fun K hK=>?_) AllReadyH.nil
 go_simp
 refine hK.out _ _ (hSY _) (fun _=>?_)
 clear hK K
 refine wpAnyH_ready (rs:=[9]) (by kernel_rfl) (by simp) ?_
 refine AllReadyH.cons rfl (fun K hK=>?_) AllReadyH.nil
 go_simp
 refine hK.out _ _ (hSY _) (fun _=>?_)
 clear hK K
 refine wpAnyH_done (by kernel_rfl) ?_ _
 refine QN.normal ?_
 rw[<-hX]
 clear hX hS0 hSX hSY
 go_wp2_with fail
 refine(onFailure_any _ c B0 _ _ _ Bk A s 240 #[.pointer (some ⟨w.heap.size+1+1,0,none⟩),.pointer (some ⟨w.heap.size,0,none⟩),.pointer (some ⟨w.heap.size+1,0,none⟩)] X (uh HE)).mono ?_
 rintro e w1 ⟨⟨uu,rfl⟩,gu,cu,hgu,hou,m1,d1,hk1⟩
 obtain⟨hS1,hS2,hg1,⟨u0,hu0⟩,hf1,hfin⟩:=uh HFin w1 gu cu (by have:=d1.size;omega) hk1 hgu hou m1 d1
 have HFN:=uy hfin
 clear m1 d1 hk1 hou hfin HFin HE x0
 go_wp2_with fail
 refine wpN_held (HeldSw w.heap.size (w.heap.size+1) c t (.slice (some ⟨g,0,none⟩) s.nt cp)) (by kernel_rfl) ?_
 change wpAnyH _ _ _ _ _ _ _ _ (World.drew _)
 refine tq 0 (v:=?_) ?_ ?_;rotate_left;intro w' ⟨s0,s1,s2⟩;go_simp;try with_reducible rfl
 simp only[Act.put,sA,sB,sC]
 refine tq 1 (v:=?_) ?_ ?_;rotate_left;intro w' ⟨s0,s1,s2⟩;go_simp;try with_reducible rfl
 simp only[Act.put,sA,sB,sC]
 refine tq 2 (v:=?_) ?_ ?_;rotate_left;intro w' ⟨s0,s1,s2⟩;go_simp;try with_reducible rfl
 simp only[Act.put,sA,sB,sC]
 refine tq 3 (v:=?_) ?_ ?_;rotate_left;intro w' ⟨s0,s1,s2⟩;go_simp;try with_reducible rfl
 simp only[Act.put,sA,sB,sC]
 refine tq 4 (v:=?_) ?_ ?_;rotate_left;intro w' ⟨s0,s1,s2⟩;go_simp;try with_reducible rfl
 simp only[Act.put,sA,sB,sC]
 refine tq 5 (v:=?_) ?_ ?_;rotate_left;intro w' ⟨s0,s1,s2⟩;go_simp;try with_reducible rfl
 simp only[Act.put,sA,sB,sC]
 refine tq 6 (v:=?_) ?_ ?_;rotate_left;intro w' ⟨s0,s1,s2⟩;go_simp;try with_reducible rfl
 simp only[Act.put,sA,sB,sC]
 refine tq 7 (v:=?_) ?_ ?_;rotate_left;intro w' ⟨s0,s1,s2⟩;go_simp;try with_reducible rfl
 simp only[Act.put,sA,sB,sC]
 refine wpAnyH_ready (rs:=[8]) (by kernel_rfl) (by simp) ?_
 refine AllReadyH.cons rfl (fun K hK=>?_) AllReadyH.nil
 go_simp
 refine hK.out _ _ hS2 (fun _=>?_)
 clear hK K
 refine wpAnyH_done (by kernel_rfl) ?_ _
 refine QN.normal ?_
 go_wp2_with fail
 go_end0
 obtain⟨f1,f2,f3,f4⟩:=uh HFN
 exact⟨⟨_,rfl⟩,_,f1,f2,f3,gu,cu,w.heap.size+1+1,w.heap.size,w.heap.size+1,f4,fun e=>by have e:g=w.heap.size+1+1:=Option.some.inj e;omega⟩
end
section
open Go.RowKit
theorem place_has{d:Dc}{k:Vl}(h:Inv Ky hN d)(hk:Ky k){p:Pr}(hp:Has d p)(hl:likeB p.key k=true):0<=placeI d k (hN k):=by
 rcases h.i0.place keyLaw hk with⟨i,h1,h2,h3,h4⟩|⟨h1,h2⟩
 ·omega
 ·obtain⟨i,a1,a2,rfl⟩:=hp
  rw[h1 i a1 a2]at hl
  cases hl
theorem full_find{d:Dc}{k v:Vl}(h:Inv Ky hN d)(hk:Ky k)(hv:v.ok=true):fullB d k v=(decide (v.kind≠0)&&decide (placeI (putD hN d k v) k (hN k)<0)):=by
 have hi:=putD_inv keyLaw h hk hk.1 hv
 have hle:=h.i0.le
 have htn:=h.i0.turns
 unfold fullB
 rcases put_says keyLaw h hk hk.1 hv with⟨q,a1,a2,a3,_⟩|⟨q,a1,a2,a3,a4,_⟩|⟨a1,a2,a3,a4,a5⟩|⟨a1,a2,a3⟩
 ·simp[a3]
 ·have h1:=place_has h hk a1 a2
  have h2:=place_has hi hk ((a4 ⟨q.key,v,q.turn⟩).2 (.inr rfl)) a2
  rw[decide_eq_false (p:=placeI d k (hN k)<0) (by omega),decide_eq_false (p:=placeI (putD hN d k v) k (hN k)<0) (by omega)]
  simp
 ·have h2:=place_has hi hk ((a3 ⟨k,v,d.turns+1⟩).2 (.inr rfl)) (keyLaw.refl _ hk)
  have hle2:=hi.i0.le
  have htn2:=hi.i0.turns
  rw[decide_eq_false (p:=placeI (putD hN d k v) k (hN k)<0) (by omega),decide_eq_false (p:=d.live=500) (by omega),decide_eq_false (p:=d.turns=1000000000000) (by omega)]
  simp
 ·rw[a3]
  have h1:placeI d k (hN k)<0:=by
   rcases h.i0.place keyLaw hk with⟨i,b1,b2,b3,b4⟩|⟨b1,b2⟩
   ·rw[a1 _ (has_at b1 b2)]at b3
    cases b3
   ·omega
  by_cases hv0:v.kind=0
  ·simp[hv0]
  ·have:d.live=500\/d.turns=1000000000000:=by
    by_cases e:d.live<500
    ·right
     have:¬d.turns<1000000000000:=fun e'=>a2 ⟨hv0,e,e'⟩
     omega
    ·left;omega
   rw[decide_eq_true h1]
   rcases this with e|e<;>simp[hv0,e]
end
section
open Go.RowKit
attribute [local go_sem] run_store_float run_equalIn_float run_store_func
theorem BMut.keepFrom{w w':World}{bk:Nat}{r0 r1:Value}{R2:Nat}{E S:Nat->Nat}{d:Dc}(h:BMut w bk r0 r1 R2 E S d)(hs:w.heap.size<=w'.heap.size)(hk:∀k,bk<=k->k<w.heap.size->w'.heap[k]?=w.heap[k]?):BMut w' bk r0 r1 R2 E S d:=by
 have hb:=hk bk (Nat.le_refl _) h.lt
 have e:∀q,w'.cell? ⟨bk,q,none⟩=w.cell? ⟨bk,q,none⟩:=fun q=>World.cell?_of_block (a:=⟨bk,q,none⟩) hb
 have ho:∀{t:TypeId} {v:Value} {n:Nat} {f:Nat->Option Addr},Rw w (bk+1) t v n f->Rw w' (bk+1) t v n f:=fun hr=>own_keep hr (fun q hq=>hk q (by have:=(hr.lt q hq).1;omega) (hr.lt q hq).2)
 refine⟨Nat.lt_of_lt_of_le h.lt hs,(e _).trans h.c0,(e _).trans h.c1,(e _).trans h.c2,(e _).trans h.c3,(e _).trans h.c4,(e _).trans h.c5,(e _).trans h.c6,fun q=>(World.frozen?_of_block (a:=⟨bk,q,none⟩) hb).trans (h.fz q),ho h.log,ho h.ints,h.rf,ho h.slots,h.ap,fun i hi=>(h.ent i hi).keep hs (hk _ (Nat.le_of_lt (h.eb i hi)) (h.ent i hi).lt),h.eb,h.inj,fun j hj=>⟨fun hp=>((h.sl j hj).1 hp).keep hs (hk _ (Nat.le_of_lt (h.sg j hj (by omega))) (blk_lt ((h.sl j hj).1 hp).ob)),fun hp=>((h.sl j hj).2 hp).keep hs (hk _ (Nat.le_of_lt (h.sg j hj (by omega))) (blk_lt ((h.sl j hj).2 hp).ob))⟩,h.sg⟩
theorem Rd.dict{O:Nat->Prop}{w:World}{A:Ad}{t:Tb}{lo hi:Nat}{c0 c1 c2:Nat}(h:DV t.d w (.slice A.la t.d.n c0) (.slice A.ia t.d.m c1) (.slice A.xa t.d.x c2) lo hi)(hn:t.nv=0)(hO:∀b cs ty,w.heap[b]?=some (.cells cs ty (0,0))->(ty=96\/ty=3)->lo<=b->¬O b):Rd O w A t:=fun w' hs hk=>by
 have hl:PrV t.d.L t.d.n w' (.slice A.la t.d.n c0) lo hi:=by
  rcases h.log with h|⟨b,cp,N,g,h1,h2,h3,h4,h5,h6⟩
  ·exact .inl h
  ·obtain⟨c,hc,_,_⟩:=id h4
   exact .inr ⟨b,cp,N,g,h1,h2,h3,World.rowIs.of_block h4 (hk b (blk_lt hc) (hO b _ _ hc (.inl rfl) h2)),h5,h6⟩
 have hi':∀{f:Nat->Int} {n:Nat} {v:Value},InV f n w v lo hi->InV f n w' v lo hi:=fun hv=>by
  rcases hv with h|⟨b,cp,N,g,h1,h2,h3,h4,h5,h6⟩
  ·exact .inl h
  ·obtain⟨c,hc,_,_⟩:=id h4
   exact .inr ⟨b,cp,N,g,h1,h2,h3,World.rowIs.of_block h4 (hk b (blk_lt hc) (hO b _ _ hc (.inr rfl) h2)),h5,h6⟩
 obtain⟨la,lc,ia,ic,xa,xc,e0,e1,e2,hd⟩:=DV.at (⟨hl,hi' h.ints,hi' h.index,h.a01,h.a02,h.a12⟩:DV t.d w' _ _ _ lo hi)
 cases e0;cases e1;cases e2
 exact⟨.inl hn,hd⟩
theorem kind_dict(Bk:Nat->Nat)(x:Tb)(d:Dc)(k v:Vl)(la ia xa:Option Addr)(lc ic xc:Nat):kindV Bk ⟨none,0,la,lc,ia,ic,xa,xc⟩ (dictT x d k v)=.iface 239 (.agg #[.slice none 0 0,.slice la (putD hN d k v).n lc,.slice ia (putD hN d k v).m ic,.slice xa (putD hN d k v).x xc,.int .i64 (putD hN d k v).used,.int .i64 (putD hN d k v).live,.int .i64 (putD hN d k v).turns]):=if_pos rfl
def WrD(Z:Nat->Prop)(c B0:Nat)(vN vT vS:Value)(Bk:Nat->Nat)(A:Nat->Ad)(s:Sto)(t:Nat)(d:Dc)(k v:Vl)(w:World)(e:Ending)(w':World):Prop:=
 e=.returned (errV (if fullB d k v=true then 5 else 0))/\∃vU' a',WkM Z w' c B0 vN vT vS vU' Bk (up1 A t a') (setT s t (dictT (s.T t) d k v))/\Dst (OwnW B0 c vN vT vS w) w (OwnW B0 c vN vT vS w') w'/\∃gu cu bb bw bn,UndoR w' c vU' t (kindV Bk (A t) (s.T t)) gu cu bb bw bn/\vT.ownBlock≠some bb
theorem wWriteDict_any(Z:Nat->Prop)(c B0:Nat)(vN vT vS:Value)(Bk:Nat->Nat)(A:Nat->Ad)(s:Sto)(t:Nat)(la:Option Addr)(lc:Nat)(ia:Option Addr)(ic:Nat)(xa:Option Addr)(xc:Nat)(d:Dc)(k v:Vl)(w:World)(hM:WkM Z w c B0 vN vT vS (.slice none 0 0) Bk A s)(ht:t<s.nt)(hnt:s.nt<=100)(hT:Tabs w)(hD:DAt w la ia xa d)(hI:Inv Ky hN d)(hm:d.m<=4000000)(hk:Ky k)(hv:v.ok=true)(hR:RareC k v)(hB0:5<=B0):
  Calls Tryz.prog 234 #[.pointer (some ⟨c,0,none⟩),.int .i64 (t:Int),Dv la lc ia ic xa xc d,VVa k,VVa v] w fun e w'=>WrD Z c B0 vN vT vS Bk A s t d k v w e w':=by
 have HRR:=uy hR
 clear hR
 obtain⟨W,hW⟩:∃W,W=((w.alloc (.cells #[.slice la d.n lc,.slice ia d.m ic,.slice xa d.x xc,.int .i64 d.used,.int .i64 d.live,.int .i64 d.turns] 92)).alloc (.cells #[.int .i64 k.kind,.int .i64 k.num,.float .f64 k.flt,.string k.str,.int .i64 k.ref] 43)).alloc (.cells #[.int .i64 v.kind,.int .i64 v.num,.float .f64 v.flt,.string v.str,.int .i64 v.ref] 43):=⟨_,rfl⟩
 have hbW:Below w.heap.size w W:=by rw[hW];exact(((Below.refl _ _).alloc (Nat.le_refl _) _).alloc (by simp) _).alloc (by simp;omega) _
 have hzW:W.heap.size=w.heap.size+1+1+1:=by rw[hW];simp
 have b0:W.heap[w.heap.size]?=some (.cells #[.slice la d.n lc,.slice ia d.m ic,.slice xa d.x xc,.int .i64 d.used,.int .i64 d.live,.int .i64 d.turns] 92 (0,0)):=by
  rw[hW]
  iterate 2 (refine(Deep.blk_alloc_lt _ _ _ (by simp;try omega)).trans ?_)
  exact Deep.blk_alloc_new _ _
 have b1:W.heap[w.heap.size+1]?=some (.cells #[.int .i64 k.kind,.int .i64 k.num,.float .f64 k.flt,.string k.str,.int .i64 k.ref] 43 (0,0)):=by
  rw[hW]
  refine(Deep.blk_alloc_lt _ _ _ (by simp)).trans ?_
  have h1:=Deep.blk_alloc_new (w.alloc (.cells #[.slice la d.n lc,.slice ia d.m ic,.slice xa d.x xc,.int .i64 d.used,.int .i64 d.live,.int .i64 d.turns] 92)) (.cells #[.int .i64 k.kind,.int .i64 k.num,.float .f64 k.flt,.string k.str,.int .i64 k.ref] 43)
  simpa using h1
 have b2:W.heap[w.heap.size+1+1]?=some (.cells #[.int .i64 v.kind,.int .i64 v.num,.float .f64 v.flt,.string v.str,.int .i64 v.ref] 43 (0,0)):=by
  rw[hW]
  have h1:=Deep.blk_alloc_new ((w.alloc (.cells #[.slice la d.n lc,.slice ia d.m ic,.slice xa d.x xc,.int .i64 d.used,.int .i64 d.live,.int .i64 d.turns] 92)).alloc (.cells #[.int .i64 k.kind,.int .i64 k.num,.float .f64 k.flt,.string k.str,.int .i64 k.ref] 43)) (.cells #[.int .i64 v.kind,.int .i64 v.num,.float .f64 v.flt,.string v.str,.int .i64 v.ref] 43)
  simpa using h1
 have hS:Small d:=hI.small (by omega)
 have hSd:=hI.sound keyLaw
 have hPI:=putD_inv keyLaw hI hk hk.1 hv
 have hpm:=putD_m (v:=v) keyLaw hI hk
 have HFF:=uy (full_find hI hk hv)
 have hcl:=hM.lt
 have hTl:=(hM.t.lt)
 have hBw:=hM.base
 have x0:W.cell? ⟨w.heap.size,0,none⟩=some (.slice la d.n lc):=by simp[World.cell?,b0]
 have x1:W.cell? ⟨w.heap.size,1,none⟩=some (.slice ia d.m ic):=by simp[World.cell?,b0]
 have x2:W.cell? ⟨w.heap.size,2,none⟩=some (.slice xa d.x xc):=by simp[World.cell?,b0]
 have x3:W.cell? ⟨w.heap.size,3,none⟩=some (.int .i64 d.used):=by simp[World.cell?,b0]
 have x4:W.cell? ⟨w.heap.size,4,none⟩=some (.int .i64 d.live):=by simp[World.cell?,b0]
 have x5:W.cell? ⟨w.heap.size,5,none⟩=some (.int .i64 d.turns):=by simp[World.cell?,b0]
 have lW:w.heap.size<W.heap.size:=by omega
 have HM:=uy hM
 have HBW:=uy hbW
 have HBB:=uy (And.intro b1 b2)
 have HDW:=uy (hD.below hbW)
 have HT:=uy hT
 have HI:=uy hI
 have HS:=uy hS
 have HSd:=uy hSd
 have HPI:=uy hPI
 have HV:=uy hv
 have HK:=uy hk
 have HTL:=uy hTl
 clear hM hbW b0 b1 b2 hD hT hI hS hSd hPI hv hk hTl
 go_enter Tryz.func234,Tryz.ntmps234
 go_wp2_with fail
 rw[<-hW]
 clear hW
 refine(openBook_own la lc ia ic xa xc d _ (uh HDW) (uh HS) (uh HSd).d3 (uh HSd).d4).mono ?_
 rintro e w1 ⟨⟨bk,R0,R1,R2,E,S,rfl,hBk,hSt⟩,hb1⟩
 have hM1:=BMut.of_open hBk hSt (uh HS)
 have hbk:=hSt.gb
 have z1:=hb1.size
 obtain⟨b1,b2⟩:=uh HBB
 have b1:=(hb1.block _ (by omega)).trans b1
 have b2:=(hb1.block _ (by omega)).trans b2
 have k0:w1.cell? ⟨w.heap.size+1,0,none⟩=some (.int .i64 k.kind):=by simp[World.cell?,b1]
 have k1:w1.cell? ⟨w.heap.size+1,1,none⟩=some (.int .i64 k.num):=by simp[World.cell?,b1]
 have k2:w1.cell? ⟨w.heap.size+1,2,none⟩=some (.float .f64 k.flt):=by simp[World.cell?,b1]
 have k3:w1.cell? ⟨w.heap.size+1,3,none⟩=some (.string k.str):=by simp[World.cell?,b1]
 have k4:w1.cell? ⟨w.heap.size+1,4,none⟩=some (.int .i64 k.ref):=by simp[World.cell?,b1]
 have v0:w1.cell? ⟨w.heap.size+1+1,0,none⟩=some (.int .i64 v.kind):=by simp[World.cell?,b2]
 have v1:w1.cell? ⟨w.heap.size+1+1,1,none⟩=some (.int .i64 v.num):=by simp[World.cell?,b2]
 have v2:w1.cell? ⟨w.heap.size+1+1,2,none⟩=some (.float .f64 v.flt):=by simp[World.cell?,b2]
 have v3:w1.cell? ⟨w.heap.size+1+1,3,none⟩=some (.string v.str):=by simp[World.cell?,b2]
 have v4:w1.cell? ⟨w.heap.size+1+1,4,none⟩=some (.int .i64 v.ref):=by simp[World.cell?,b2]
 have l1:=blk_lt b1
 have l2:=blk_lt b2
 have HBB1:=uy (And.intro b1 b2)
 have HM1:=uy hM1
 have HB1:=uy ((uh HBW).trans (hb1.mono (by omega)))
 clear hBk hSt hM1 hb1 b1 b2 x0 x1 x2 x3 x4 x5 HDW HBB
 go_wp2_with fail
 refine(put_any Tabs lastsT hN Ky keyLaw hsI_all bk (fun a b ha hb=>ha.below hb (by omega)) _ _ R2 E S d k v w1 (lastsT _ _ (uh HT) (uh HB1)) (uh HM1) (uh HS) hm (uh HI) (uh HK) (uh HK).1 (uh HV) (uh HRR)).mono ?_
 rintro e w2 ⟨⟨⟨uu,rfl⟩,r0,r1,R2',E2,S2,hM2⟩,⟨hb2,_⟩⟩
 have HM2:=uy hM2
 have z2:=hb2.size
 have HB2:=uy ((uh HB1).trans (hb2.mono (by omega)))
 have HBB2:=uy (And.intro ((hb2.block _ (by omega)).trans (uh HBB1).1) ((hb2.block _ (by omega)).trans (uh HBB1).2))
 have hbl2:=hM2.lt
 clear hM2 hb2 k0 k1 k2 k3 k4 v0 v1 v2 v3 v4 l1 l2 HBB1 HM1
 obtain⟨D,hDD⟩:∃D,D=putD hN d k v:=⟨_,rfl⟩
 rw[<-hDD]at HM2 HPI hpm HFF
 have HDD:=uy hDD
 clear hDD
 go_wp2_with fail
 refine(dict_any bk r0 r1 R2' E2 S2 D w2 (uh HM2) ((uh HPI).small (by omega)) (fun j hj=>by
  rcases(uh HPI).i0.ints j hj with e|e<;>omega) (fun j hj=>by
  rcases(uh HPI).i0.idx.range j hj with e|e|⟨e1,e2,_⟩
  ·exact .inl e
  ·exact .inr (.inl e)
  ·exact .inr (.inr ⟨e1,by omega⟩))).mono ?_
 rintro e w3 ⟨⟨u0,u1,u2,rfl,hDV⟩,hb3⟩
 obtain⟨ua,uc,ub,ud,ue,uf,e0,e1,e2,-⟩:=hDV.at
 subst e0 e1 e2
 have z3:=hb3.size
 have hB3:=(uh HB2).trans (hb3.mono (by omega))
 obtain⟨m3,d3⟩:=(uh HM).below hB3
 have HM3:=uy m3
 have HD3:=uy d3
 have HR3:Hid (Rd (OZ Z B0 c vN vT vS w3) w3 ⟨none,0,ua,uc,ub,ud,ue,uf⟩ (dictT (s.T t) d k v)):=uy (by
  have hDV':DV (dictT (s.T t) d k v).d w3 (.slice ua (dictT (s.T t) d k v).d.n uc) (.slice ub (dictT (s.T t) d k v).d.m ud) (.slice ue (dictT (s.T t) d k v).d.x uf) w2.heap.size w3.heap.size:=by
   show DV (putD hN d k v) w3 (.slice ua (putD hN d k v).n uc) (.slice ub (putD hN d k v).m ud) (.slice ue (putD hN d k v).x uf) _ _
   rw[<-uh HDD]
   exact hDV
  refine Rd.dict (A:=⟨none,0,ua,uc,ub,ud,ue,uf⟩) hDV' rfl (fun b cs ty hb hty hlo=>?_)
  rintro(e|e)
  ·rcases hty with rfl|rfl
   ·exact m3.notbox hb (by decide) (by decide) (by decide) (by decide) (by decide) e
   ·exact m3.notbox hb (by decide) (by decide) (by decide) (by decide) (by decide) e
  ·have:=(uh HM).z b e
   omega)
 have HBB3:=uy (And.intro ((hb3.block _ (by omega)).trans (uh HBB2).1) ((hb3.block _ (by omega)).trans (uh HBB2).2))
 have HMB3:=uy ((uh HM2).below hb3)
 have HT3:=uy (lastsT _ _ (uh HT) hB3)
 have HKV:Hid (kindV Bk ⟨none,0,ua,uc,ub,ud,ue,uf⟩ (dictT (s.T t) d k v)=.iface 239 (.agg #[.slice none 0 0,.slice ua D.n uc,.slice ub D.m ud,.slice ue D.x uf,.int .i64 D.used,.int .i64 D.live,.int .i64 D.turns])):=uy (by rw[kind_dict,uh HDD])
 have HRP:=uy (replace_any Z c B0 vN vT vS Bk A s t ⟨none,0,ua,uc,ub,ud,ue,uf⟩ (dictT (s.T t) d k v) w3 m3 ht hnt (uh HR3))
 rw[uh HKV]at HRP
 clear hDV hb3 hB3 m3 d3 HM2 HB2 HBB2 HR3
 go_wp2_with fail
 refine(uh HRP).mono ?_
 rintro e w4 ⟨⟨uu4,rfl⟩,vU',hm4,hd4,hk4,gu,cu,bb,bw,bn,hU4,hnb4⟩
 have z4:=hd4.size
 have hkk:∀q,w.heap.size<=q->q<w3.heap.size->w4.heap[q]?=w3.heap[q]?:=fun q h1 h2=>hk4 q h2 (by omega) (fun e=>by have:=(uh HTL q e).2;omega)
 have HMB4:=uy ((uh HMB3).keepFrom z4 (fun q h1 h2=>hkk q (by omega) h2))
 have b1:=(hkk _ (by omega) (by omega)).trans (uh HBB3).1
 have b2:=(hkk _ (by omega) (by omega)).trans (uh HBB3).2
 have k0:w4.cell? ⟨w.heap.size+1,0,none⟩=some (.int .i64 k.kind):=by simp[World.cell?,b1]
 have k1:w4.cell? ⟨w.heap.size+1,1,none⟩=some (.int .i64 k.num):=by simp[World.cell?,b1]
 have k2:w4.cell? ⟨w.heap.size+1,2,none⟩=some (.float .f64 k.flt):=by simp[World.cell?,b1]
 have k3:w4.cell? ⟨w.heap.size+1,3,none⟩=some (.string k.str):=by simp[World.cell?,b1]
 have k4:w4.cell? ⟨w.heap.size+1,4,none⟩=some (.int .i64 k.ref):=by simp[World.cell?,b1]
 have v0:w4.cell? ⟨w.heap.size+1+1,0,none⟩=some (.int .i64 v.kind):=by simp[World.cell?,b2]
 have l1:=blk_lt b1
 have l2:=blk_lt b2
 have hT4:Tabs w4:=(uh HT3).below (B:=B0) ⟨hd4.os,hd4.tape,hd4.output,hd4.size,fun q hq=>hd4.block q (by omega) (fun e=>by have:=((uh HM3).rng e).1;omega)⟩ (by omega)
 have HFN:Hid (Calls Tryz.prog 263 #[.pointer (some ⟨bk,0,none⟩),V k.kind k.num k.flt k.str k.ref] w4 fun e w'=>e=.returned (.pointer (placeP E2 (placeI D k (hN k))))/\Below w4.heap.size w4 w'):=uy (by
  obtain⟨R0',R1',hB⟩:=(uh HMB4).book
  exact bfind_any Tabs lastsT bk R0' R1' R2' E2 S2 D k (hN k) (hsI_all k (uh HK)) w4 hT4 hB ((uh HPI).small (by omega)) (uh HPI).i0.d3 (uh HPI).i0.d4)
 have HE4:Hid (∀w5,Below w4.heap.size w4 w5->∃vU' a',WkM Z w5 c B0 vN vT vS vU' Bk (up1 A t a') (setT s t (dictT (s.T t) d k v))/\Dst (OwnW B0 c vN vT vS w) w (OwnW B0 c vN vT vS w5) w5/\∃gu cu bb bw bn,UndoR w5 c vU' t (kindV Bk (A t) (s.T t)) gu cu bb bw bn/\vT.ownBlock≠some bb):=uy (fun w5 hb5=>by
  obtain⟨m5,d5⟩:=hm4.below hb5
  refine⟨vU',_,m5,((uh HD3).trans hd4).trans d5,gu,cu,bb,bw,bn,hU4.keep (hb5.block _ ?_) (hb5.block _ (blk_lt hU4.k)) (hb5.block _ (blk_lt hU4.b)) (hb5.block _ (blk_lt hU4.n)),hnb4⟩
  exact(hU4.u.lt gu rfl).2)
 clear hm4 hd4 hk4 hU4 hnb4 hkk b1 b2 hT4 HRP HMB3 HBB3
 by_cases hv0:v.kind=0
 ·have dv:(v.kind !=0)=false:=by simp[hv0]
  have HR:Hid (fullB d k v=false):=uy (by rw[uh HFF];simp[hv0])
  clear hv0
  go_wp2
  refine bodyPost_ret (v:=errV 0) (by simp[results,Tryz.results234,go_sem,errV]) rfl ⟨by rw[uh HR];rfl,uh HE4 _ (Below.refl _ _)⟩
 ·have dv:(v.kind !=0)=true:=by simp[hv0]
  by_cases hp:placeI D k (hN k)<0
  ·have HR:Hid (fullB d k v=true):=uy (by rw[uh HFF];simp[hv0,hp])
   have hpp:placeP E2 (placeI D k (hN k))=none:=by unfold placeP;rw[if_neg (by omega)]
   rw[hpp]at HFN
   clear hv0 hp hpp
   go_wp2_with fail
   refine(uh HFN).mono ?_
   rintro e w5 ⟨rfl,hb5⟩
   have HE5:=uy (uh HE4 w5 hb5)
   clear hb5
   go_wp2
   refine bodyPost_ret (v:=errV 5) (by simp[results,Tryz.results234,go_sem,errV]) rfl ⟨by rw[uh HR];rfl,uh HE5⟩
  ·have HR:Hid (fullB d k v=false):=uy (by rw[uh HFF];simp[hp])
   have hpp:placeP E2 (placeI D k (hN k))=some ⟨E2 (placeI D k (hN k)).toNat,0,none⟩:=by unfold placeP;rw[if_pos (by omega)]
   rw[hpp]at HFN
   obtain⟨eb,heb⟩:∃eb,eb=E2 (placeI D k (hN k)).toNat:=⟨_,rfl⟩
   rw[<-heb]at HFN
   clear hv0 hp hpp heb
   go_wp2_with fail
   refine(uh HFN).mono ?_
   rintro e w5 ⟨rfl,hb5⟩
   have HE5:=uy (uh HE4 w5 hb5)
   clear hb5
   go_wp2
   refine bodyPost_ret (v:=errV 0) (by simp[results,Tryz.results234,go_sem,errV]) rfl ⟨by rw[uh HR];rfl,uh HE5⟩
end
section
open Go.RowKit
attribute [local go_sem] run_store_float run_equalIn_float run_store_func
structure UndoT (fn:Nat) (w:World) (c:Nat) (vU:Value) (n gu cu bw bn:Nat):Prop where
 v:vU=.slice (some ⟨gu,0,none⟩) 1 cu
 u:w.ownsRow 0 1 1 (.slice (some ⟨gu,0,none⟩) 1 cu) 1 [.func (.func fn) #[] #[.pointer (some ⟨bw,0,none⟩),.pointer (some ⟨bn,0,none⟩)]]
 b:w.heap[bw]?=some (.cells #[.pointer (some ⟨c,0,none⟩)] 121 (0,0))
 n:w.heap[bn]?=some (.cells #[.int .i64 (n:Int)] 3 (0,0))
theorem UndoT.keep{fn:Nat}{w w':World}{c:Nat}{vU:Value}{n gu cu bw bn:Nat}(h:UndoT fn w c vU n gu cu bw bn)(h1:w'.heap[gu]?=w.heap[gu]?)(h2:w'.heap[bw]?=w.heap[bw]?)(h3:w'.heap[bn]?=w.heap[bn]?):UndoT fn w' c vU n gu cu bw bn:=
 ⟨h.v,own_keep h.u (fun g e=>by cases e;exact h1),h2.trans h.b,h3.trans h.n⟩
def HeldAw(bw c g:Nat)(vN:Value)(p:Nat)(W:World):Prop:=W.cell? ⟨bw,0,none⟩=some (.pointer (some ⟨c,0,none⟩))/\W.cell? ⟨c,0,none⟩=some vN/\W.cell? ⟨g,0,none⟩=some (.pointer (some ⟨p,0,none⟩))
theorem HeldAw.keep{bw c g p:Nat}{vN:Value}{w w':World}(h:HeldAw bw c g vN p w)(h1:w'.heap[bw]?=w.heap[bw]?)(h2:w'.heap[c]?=w.heap[c]?)(h3:w'.heap[g]?=w.heap[g]?):HeldAw bw c g vN p w':=
 ⟨(World.cell?_of_block (a:=⟨bw,0,none⟩) h1).trans h.1,(World.cell?_of_block (a:=⟨c,0,none⟩) h2).trans h.2.1,(World.cell?_of_block (a:=⟨g,0,none⟩) h3).trans h.2.2⟩
theorem kind0(Bk:Nat->Nat):kindV Bk default tb0=.iface 236 (.agg #[.slice none 0 0,.slice none 0 0,.slice none 0 0,.slice none 0 0,.int .i64 0,.int .i64 0,.int .i64 0,.pointer (some ⟨Bk 0,0,none⟩)]):=by
 unfold kindV
 rw[if_neg (by decide)]
 rfl
theorem wAddTable_any(Z:Nat->Prop)(c B0:Nat)(vN vT vS:Value)(Bk:Nat->Nat)(A:Nat->Ad)(s:Sto)(a:Ac)(w:World)(hM:WkM Z w c B0 vN vT vS (.slice none 0 0) Bk A s)(hnt:s.nt<=100)(hnf:0<s.nf):
  Calls Tryz.prog 141 #[.pointer (some ⟨c,0,none⟩),AcV a] w fun e w'=>(∃vT' vU' A',WkM Z w' c B0 vN vT' vS vU' Bk A' {s with nt:=s.nt+1,T:=up1 s.T s.nt tb0}/\Dst (OwnW B0 c vN vT vS w) w (OwnW B0 c vN vT' vS w') w'/\
   (s.nt≠100->e=.returned (.tuple #[AnV (ansN s.nt),errV 0]))/\(s.nt=100->e=.returned (.tuple #[AnV (ansC 0),errV 5])/\∃gu cu bw bn,UndoT 202 w' c vU' s.nt gu cu bw bn)):=by
 obtain⟨ta,tc,rfl⟩:=own_slice hM.t
 obtain⟨na,nc,rfl⟩:=own_slice hM.n
 obtain⟨gN,egN,hgN,hN0⟩:∃gN,na=some ⟨gN,0,none⟩/\gN<w.heap.size/\w.cell? ⟨gN,0,none⟩=some (.pointer (some ⟨Bk 0,0,none⟩)):=by
  obtain⟨hl,⟨hv,h0⟩|⟨g,cap,cur,hv,hb,hblk,h1,h2,h3,h4⟩⟩:=hM.n
  ·omega
  ·cases hv
   exact⟨g,rfl,(Array.getElem?_eq_some_iff.1 hblk).1,by rw[World.ownsRow.cellAt hM.n 0 (by omega),ptrs_get hnf]⟩
 subst egN
 obtain⟨i0,hi0,hz0,hz1,hz2⟩:=info_parts infoKept
 obtain⟨W,hW⟩:∃W,W=(((w.alloc (.cells #[.pointer (some ⟨c,0,none⟩)] 121)).alloc (.cells (ActBx a) 51)).alloc (.cells An0 45)).alloc (.cells #[.int .i64 (s.nt:Int)] 3):=⟨_,rfl⟩
 have hbW:Below w.heap.size w W:=by rw[hW];exact((((Below.refl _ _).alloc (Nat.le_refl _) _).alloc (by simp) _).alloc (by simp;omega) _).alloc (by simp;omega) _
 have hzW:W.heap.size=w.heap.size+1+1+1+1:=by rw[hW];simp
 have b0:W.heap[w.heap.size]?=some (.cells #[.pointer (some ⟨c,0,none⟩)] 121 (0,0)):=by
  rw[hW]
  iterate 3 (refine(Deep.blk_alloc_lt _ _ _ (by simp;try omega)).trans ?_)
  exact Deep.blk_alloc_new _ _
 have b2:RBx W (w.heap.size+1+1):=by
  rw[hW]
  refine(Deep.blk_alloc_lt _ _ _ (by simp)).trans ?_
  have h1:=Deep.blk_alloc_new ((w.alloc (.cells #[.pointer (some ⟨c,0,none⟩)] 121)).alloc (.cells (ActBx a) 51)) (.cells An0 45)
  simpa using h1
 have b3:W.heap[w.heap.size+1+1+1]?=some (.cells #[.int .i64 (s.nt:Int)] 3 (0,0)):=by
  rw[hW]
  have h1:=Deep.blk_alloc_new (((w.alloc (.cells #[.pointer (some ⟨c,0,none⟩)] 121)).alloc (.cells (ActBx a) 51)).alloc (.cells An0 45)) (.cells #[.int .i64 (s.nt:Int)] 3)
  simpa using h1
 obtain⟨hE,hDE⟩:=hM.enter hbW
 have hcl:=hM.lt
 have hbase:=hM.base
 obtain⟨c0,c1,c2,c3,cf⟩:=hM.cells
 have hcg:c≠gN:=fun e=>hM.notrow hM.n (by decide) (by rw[e];rfl)
 have HE:=uy hE
 have HDE:=uy hDE
 have HBB:=uy (And.intro b0 (And.intro b2 b3))
 have HZ:=uy hzW
 have HN0:=uy ((hbW.cell (p:=⟨gN,0,none⟩) hgN).trans hN0)
 have hc1:c<w.heap.size+1:=by omega
 have hc2:c<w.heap.size+1+1:=by omega
 have hc3:c<w.heap.size+1+1+1:=by omega
 clear hM hE hDE b0 b2 b3 c0 c2 c3 cf hbW hzW hN0
 go_enter Tryz.func141,Tryz.ntmps141
 go_wp2_with fail
 rw[<-hW]
 clear hW c1
 refine(onFailure_any _ c B0 _ _ _ Bk A s 202 #[.pointer (some ⟨w.heap.size,0,none⟩),.pointer (some ⟨w.heap.size+1+1+1,0,none⟩)] W (uh HE)).mono ?_
 rintro e w1 ⟨⟨uu,rfl⟩,gu,cu,hgu,hou,hM1,hD1,hk1⟩
 have zW:=uh HZ
 have hz1':=hD1.size
 obtain⟨b0,b2,b3⟩:=uh HBB
 have b0:=(hk1 _ (by omega) (by omega)).trans b0
 have b2:RBx w1 (w.heap.size+1+1):=(hk1 _ (by omega) (by omega)).trans b2
 have b3:=(hk1 _ (by omega) (by omega)).trans b3
 have hN1:w1.cell? ⟨gN,0,none⟩=some (.pointer (some ⟨Bk 0,0,none⟩)):=(World.cell?_of_block (a:=⟨gN,0,none⟩) (hk1 gN (by omega) (fun e=>hcg e.symm))).trans (uh HN0)
 obtain⟨c0,c1,c2,c3,cf⟩:=hM1.cells
 obtain⟨KV,hKV⟩:∃KV,KV=Value.iface 236 (.agg #[.slice none 0 0,.slice none 0 0,.slice none 0 0,.slice none 0 0,.int .i64 0,.int .i64 0,.int .i64 0,.pointer (some ⟨Bk 0,0,none⟩)]):=⟨_,rfl⟩
 have hbX:Below w1.heap.size w1 ((w1.alloc (.cells #[KV] 162)).drew):=((Below.refl _ _).alloc (Nat.le_refl _) _).drew
 have hS0:HeldAw w.heap.size c gN (.slice (some ⟨gN,0,none⟩) s.nf nc) (Bk 0) w1.drew:=⟨by show w1.cell? _=_;simp[World.cell?,b0],c0,hN1⟩
 have hS1':HeldAw w.heap.size c gN (.slice (some ⟨gN,0,none⟩) s.nf nc) (Bk 0) (w1.alloc (.cells #[KV] 162)).drew:=HeldAw.keep (w:=w1) hS0 (hbX.block w.heap.size (by omega)) (hbX.block c (by omega)) (hbX.block gN (by omega))
 have xX:(w1.alloc (.cells #[KV] 162)).drew.cell? ⟨c,1,none⟩=some (.slice ta s.nt tc):=(hbX.cell (p:=⟨c,1,none⟩) (by show c<_;omega)).trans c1
 have xY:(w1.alloc (.cells #[KV] 162)).cell? ⟨c,1,none⟩=some (.slice ta s.nt tc):=xX
 have HOW:=uy hM1.t
 have hB1:B0<=w1.heap.size:=hM1.base
 have HF:Hid (∀g3 cp3 w3,w3.ownsRow B0 162 1 (.slice (some ⟨g3,0,none⟩) (s.nt+1) cp3) (s.nt+1) (kL Bk A s s.nt++[KV])->(w1.alloc (.cells #[KV] 162)).drew.grownBy w3 (Value.ownBlock (.slice ta s.nt tc))->(Value.ownBlock (.slice ta s.nt tc)=some g3\/g3=(w1.alloc (.cells #[KV] 162)).drew.heap.size)->
   HeldAw w.heap.size c gN (.slice (some ⟨gN,0,none⟩) s.nf nc) (Bk 0) w3/\HeldAw w.heap.size c gN (.slice (some ⟨gN,0,none⟩) s.nf nc) (Bk 0) (w3.setCell ⟨c,1,none⟩ (.slice (some ⟨g3,0,none⟩) (s.nt+1) cp3))/\w3.cell? ⟨c,1,none⟩=some (.slice ta s.nt tc)/\w3.frozen? ⟨c,1,none⟩=false/\c<w3.heap.size/\
   (w3.setCell ⟨c,1,none⟩ (.slice (some ⟨g3,0,none⟩) (s.nt+1) cp3)).heap[w.heap.size]?=some (.cells #[.pointer (some ⟨c,0,none⟩)] 121 (0,0))/\RBx (w3.setCell ⟨c,1,none⟩ (.slice (some ⟨g3,0,none⟩) (s.nt+1) cp3)) (w.heap.size+1+1)/\(w3.setCell ⟨c,1,none⟩ (.slice (some ⟨g3,0,none⟩) (s.nt+1) cp3)).heap[w.heap.size+1+1+1]?=some (.cells #[.int .i64 (s.nt:Int)] 3 (0,0))/\(w3.setCell ⟨c,1,none⟩ (.slice (some ⟨g3,0,none⟩) (s.nt+1) cp3)).heap[gu]?=w1.heap[gu]?/\
   WkM (ZB Z w.heap.size W.heap.size) (w3.setCell ⟨c,1,none⟩ (.slice (some ⟨g3,0,none⟩) (s.nt+1) cp3)) c B0 (.slice (some ⟨gN,0,none⟩) s.nf nc) (.slice (some ⟨g3,0,none⟩) (s.nt+1) cp3) vS (.slice (some ⟨gu,0,none⟩) 1 cu) Bk (up1 A s.nt default) {s with nt:=s.nt+1,T:=up1 s.T s.nt tb0}/\Dst (OwnW B0 c (.slice (some ⟨gN,0,none⟩) s.nf nc) (.slice ta s.nt tc) vS w) w (OwnW B0 c (.slice (some ⟨gN,0,none⟩) s.nf nc) (.slice (some ⟨g3,0,none⟩) (s.nt+1) cp3) vS (w3.setCell ⟨c,1,none⟩ (.slice (some ⟨g3,0,none⟩) (s.nt+1) cp3))) (w3.setCell ⟨c,1,none⟩ (.slice (some ⟨g3,0,none⟩) (s.nt+1) cp3))):=uy (by
  intro g3 cp3 w3 h1 h2 h3
  have h1':w3.ownsRow B0 162 1 (.slice (some ⟨g3,0,none⟩) (s.nt+1) cp3) (s.nt+1) (kL Bk A s s.nt++[kindV Bk default tb0]):=by rw[kind0,<-hKV];exact h1
  obtain⟨k1,k2,k3⟩:=hM1.pushT hbX h2 h1' (h3.imp id (fun e=>by rw[e];exact hbX.size)) (Rd.empty rfl rfl rfl rfl)
  have hrow:∀(q:Nat) (cs:Array Value) (ty:TypeId),w1.heap[q]?=some (Obj.cells cs ty (0,0))->ty≠162->w3.heap[q]?=w1.heap[q]?:=fun q cs ty hq ht=>by
   have hql:=blk_lt hq
   refine(h2.block q (Nat.lt_of_lt_of_le hql hbX.size) (fun e=>?_)).trans (hbX.block q hql)
   obtain⟨cur,hb,_⟩:=own_blk hM1.t e.symm
   rw[hb]at hq
   cases hq
   exact ht rfl
  have q0:=hrow _ _ _ b0 (by decide)
  have q2:=hrow _ _ _ b2 (by decide)
  have q3:=hrow _ _ _ b3 (by decide)
  obtain⟨curu,hbu,_⟩:=own_blk hou rfl
  have qu:=hrow gu _ _ hbu (by decide)
  have qc:=hrow c _ _ hM1.blk (by decide)
  obtain⟨curn,hbn,_⟩:=own_blk hM1.n rfl
  have qn:=hrow gN _ _ hbn (by decide)
  have hS3:HeldAw w.heap.size c gN (.slice (some ⟨gN,0,none⟩) s.nf nc) (Bk 0) w3:=HeldAw.keep (w:=w1) hS0 q0 qc qn
  have st:∀q,q≠c->(w3.setCell ⟨c,1,none⟩ (.slice (some ⟨g3,0,none⟩) (s.nt+1) cp3)).heap[q]?=w3.heap[q]?:=fun q hq=>Deep.blk_setCell_other _ _ _ _ (by exact hq)
  refine⟨hS3,⟨(World.cell?_of_block (a:=⟨w.heap.size,0,none⟩) (st w.heap.size (by omega))).trans hS3.1,k2.cells.1,(World.cell?_of_block (a:=⟨gN,0,none⟩) (st gN (fun e=>hcg e.symm))).trans hS3.2.2⟩,(World.cell?_of_block (a:=⟨c,1,none⟩) qc).trans c1,(World.frozen?_of_block (a:=⟨c,1,none⟩) qc).trans (cf 1),blk_lt k1,(st _ (by omega)).trans (q0.trans b0),(st _ (by omega)).trans (q2.trans b2),(st _ (by omega)).trans (q3.trans b3),(st _ (by omega)).trans qu,k2,((uh HDE).trans hD1).trans k3⟩)
 have HOU:=uy hou
 have HK1:Hid (w1.heap[gu]?=w1.heap[gu]?):=uy rfl
 clear hM1 hD1 hk1 hou b0 b2 b3 c0 c2 c3 cf hN1 HE HDE HBB HN0 hbX
 subst hKV
 go_wp2_with fail
 refine wpN_held (HeldAw w.heap.size c gN (.slice (some ⟨gN,0,none⟩) s.nf nc) (Bk 0)) (by kernel_rfl) ?_
 change wpAnyH _ _ _ _ _ _ _ _ (World.drew _)
 refine tq 0 (v:=?_) ?_ ?_;rotate_left;intro w' ⟨s0,s1,s2⟩;go_simp;try with_reducible rfl
 simp only[Act.put,sA,sB,sC]
 refine tq 1 (v:=?_) ?_ ?_;rotate_left;intro w' ⟨s0,s1,s2⟩;go_simp;try with_reducible rfl
 simp only[Act.put,sA,sB,sC]
 refine tq 2 (v:=?_) ?_ ?_;rotate_left;intro w' ⟨s0,s1,s2⟩;go_simp;try with_reducible rfl
 simp only[Act.put,sA,sB,sC]
 refine tq 3 (v:=?_) ?_ ?_;rotate_left;intro w' ⟨s0,s1,s2⟩;go_simp;try with_reducible rfl
 simp only[Act.put,sA,sB,sC]
 refine tq 4 (v:=?_) ?_ ?_;rotate_left;intro w' ⟨s0,s1,s2⟩;go_simp;try with_reducible rfl
 simp only[Act.put,sA,sB,sC]
 refine tq 6 (v:=?_) ?_ ?_;rotate_left;intro w' ⟨s0,s1,s2⟩;go_simp;try with_reducible rfl
 simp only[Act.put,sA,sB,sC]
 refine tq 7 (v:=?_) ?_ ?_;rotate_left;intro w' ⟨s0,s1,s2⟩;go_simp;try with_reducible rfl
 simp only[Act.put,sA,sB,sC]
 refine tq 8 (v:=?_) ?_ ?_;rotate_left;intro w' ⟨s0,s1,s2⟩;go_simp;try with_reducible rfl
 simp only[Act.put,sA,sB,sC]
 refine tq 9 (v:=?_) ?_ ?_;rotate_left;intro w' ⟨s0,s1,s2⟩;go_simp;try with_reducible rfl
 simp only[Act.put,sA,sB,sC]
 refine tq 10 (v:=?_) ?_ ?_;rotate_left;intro w' ⟨s0,s1,s2⟩;go_simp;try with_reducible rfl
 simp only[Act.put,sA,sB,sC]
 refine tq 11 (v:=?_) ?_ ?_;rotate_left;intro w' ⟨s0,s1,s2⟩;go_simp;try with_reducible rfl
 simp only[Act.put,sA,sB,sC]
 refine tq 12 (v:=?_) ?_ ?_;rotate_left;intro w' ⟨s0,s1,s2⟩;go_simp;try with_reducible rfl
 simp only[Act.put,sA,sB,sC]
 refine tq 13 (v:=?_) ?_ ?_;rotate_left;intro w' ⟨s0,s1,s2⟩;go_simp;try with_reducible rfl
 simp only[Act.put,sA,sB,sC]
 refine tq 14 (v:=?_) ?_ ?_;rotate_left;intro w' ⟨s0,s1,s2⟩;go_simp;try with_reducible rfl
 simp only[Act.put,sA,sB,sC]
 refine wpAnyH_ready (rs:=[5,15]) (by kernel_rfl) (by simp) ?_
 refine AllReadyH.cons rfl (fun K hK=>?armA) (AllReadyH.cons rfl (fun K hK=>?armB) AllReadyH.nil)
 case' armA=>
  go_simp
  refine hK.out _ _ hS0 (fun _=>?_)
  clear hK K
  refine wpAnyH_ready (rs:=[15]) (by kernel_rfl) (by simp) ?_
  refine AllReadyH.cons rfl (fun K hK=>?_) AllReadyH.nil
  go_simp
  refine hK.out _ _ hS1' (fun hS1=>?_)
  clear hK K
 case' armB=>
  go_simp
  refine hK.out _ _ hS1' (fun hS1=>?_)
  clear hK K
  refine wpAnyH_ready (rs:=[5]) (by kernel_rfl) (by simp) ?_
  refine AllReadyH.cons rfl (fun K hK=>?_) AllReadyH.nil
  go_simp
  refine hK.out _ _ hS1' (fun _=>?_)
  clear hK K
 all_goals
  refine wpAnyH_ready (rs:=[16]) (by kernel_rfl) (by simp) ?_
  refine AllReadyH.cons rfl (fun K hK=>?_) AllReadyH.nil
  refine step_append_lies _ rfl (.tmp 21) (.tmp 31) 116 rfl B0 162 i0 .nilIface 1 16 Tryz.underlying116 hi0 hz0 hz1 hz2 rfl (by decide) (.slice ta s.nt tc) s.nt (kL Bk A s s.nt) (by simp[Act.eval]) (World.ownsRow.drew (World.ownsRow.alloc (uh HOW) _)) ⟨w1.heap.size,0,none⟩ 1 1 [(.iface 236 (.agg #[.slice none 0 0,.slice none 0 0,.slice none 0 0,.slice none 0 0,.int .i64 0,.int .i64 0,.int .i64 0,.pointer (some ⟨Bk 0,0,none⟩)]))] (by simp[Act.eval]) rfl (World.news_of_block (w:=(w1.alloc (.cells #[(.iface 236 (.agg #[.slice none 0 0,.slice none 0 0,.slice none 0 0,.slice none 0 0,.int .i64 0,.int .i64 0,.int .i64 0,.pointer (some ⟨Bk 0,0,none⟩)]))] 162)).drew) (Deep.blk_alloc_new w1 _)) (by simp[Value.oneCell']) (by decide) (by unfold maxLen;omega) (by omega) (by simp;omega) _ rfl ?_
  intro g3 cp3 w3 hown3 hgr3 hloc3 hlt3
  obtain⟨hS3,hS4,x3,f3,hl3,d0,d2,d3,du,m4,dd⟩:=uh HF g3 cp3 w3 hown3 hgr3 hloc3
  have HX:=uy (And.intro d0 (And.intro d2 (And.intro d3 (And.intro du (And.intro m4 dd)))))
  clear hown3 hgr3 hloc3 d0 d2 d3 du m4 dd
  refine hK.out _ _ hS3 (fun hS3'=>?_)
  clear hK K
  refine tq 17 (v:=?_) ?_ ?_;rotate_left;intro w' ⟨s0,s1,s2⟩;go_simp;try with_reducible rfl
  (try simp only[Act.put]);(try simp only[List.setIfInBounds_toArray]);(try simp only[List.set_cons_succ]);try simp only[List.set_cons_zero]
  refine tq 18 (v:=?_) ?_ ?_;rotate_left;intro w' ⟨s0,s1,s2⟩;go_simp;try with_reducible rfl
  (try simp only[Act.put]);(try simp only[List.setIfInBounds_toArray]);(try simp only[List.set_cons_succ]);try simp only[List.set_cons_zero]
  refine tq 19 (v:=?_) ?_ ?_;rotate_left;intro w' ⟨s0,s1,s2⟩;go_simp;try with_reducible rfl
  (try simp only[Act.put]);(try simp only[List.setIfInBounds_toArray]);(try simp only[List.set_cons_succ]);try simp only[List.set_cons_zero]
  refine wpAnyH_ready (rs:=[20]) (by kernel_rfl) (by simp) ?_
  refine AllReadyH.cons rfl (fun K hK=>?_) AllReadyH.nil
  go_simp
  refine hK.out _ _ hS4 (fun _=>?_)
  clear hK K
  refine wpAnyH_done (by kernel_rfl) ?_ _
  refine QN.normal ?_
  clear hS3 hS4 hS3' x3 f3
  obtain⟨w4,hw4⟩:∃w4,w4=w3.setCell ⟨c,1,none⟩ (.slice (some ⟨g3,0,none⟩) (s.nt+1) cp3):=⟨_,rfl⟩
  rw[<-hw4]at HX ⊢
  clear hw4
  obtain⟨d0,d2,d3,du,m4,dd⟩:=uh HX
  obtain⟨_,y1,_,_,_⟩:=m4.cells
  have hl4:=m4.lt
  have l0:=blk_lt d0
  have l2:=d2.lt
  have l3:=blk_lt d3
  have y0:w4.cell? ⟨w.heap.size,0,none⟩=some (.pointer (some ⟨c,0,none⟩)):=by simp[World.cell?,d0]
  have y3:w4.cell? ⟨w.heap.size+1+1+1,0,none⟩=some (.int .i64 (s.nt:Int)):=by simp[World.cell?,d3]
  obtain⟨w5,hst5,hS5⟩:=st_ansW d2 (ansC 0)
  obtain⟨w6,hst6,hS6⟩:=st_ansW d2 (ansN s.nt)
  have HST5:=uy hst5
  have HST6:=uy hst6
  have HS5:=uy hS5
  have HS6:=uy hS6
  clear d0 d2 d3 du m4 dd hst5 hst6 hS5 hS6
  by_cases hf:s.nt=100
  ·have d:decide ((100:Int)<(s.nt:Int)+1)=true:=by simp;omega
   have HFU:=uy hf
   clear hf
   go_wp2_with (refine wpList_store rfl rfl _ (uh HST5) ?_)
   obtain⟨r0,r1,r2,r3,r4,r5,r6,r7,r8,r9,r10,r11⟩:=An.read (uh HS5).blk
   refine bodyPost_ret (v:=.tuple #[AnV (ansC 0),errV 5]) (by simp[results,Tryz.results141,go_sem,r0,r1,r2,r3,r4,r5,r6,r7,r8,r9,r10,r11,errV]) rfl ?_
   obtain⟨d0,d2,d3,du,m4,dd⟩:=uh HX
   obtain⟨mm,ddd⟩:=m4.finA dd hbase (by omega) (by omega) d2 (uh HS5)
   refine⟨_,_,_,mm,ddd,fun h=>absurd (uh HFU) h,fun _=>⟨rfl,gu,cu,w.heap.size,w.heap.size+1+1+1,rfl,own_lo (own_keep (uh HOU) (fun q e=>?_)) (Nat.zero_le _),?_,?_⟩⟩
   ·cases e
    exact((uh HS5).other _ (by show gu≠w.heap.size+1+1;omega)).trans du
   ·exact((uh HS5).other _ (by omega)).trans d0
   ·exact((uh HS5).other _ (by omega)).trans d3
  ·have d:decide ((100:Int)<(s.nt:Int)+1)=false:=by simp;omega
   have HFU:=uy hf
   clear hf
   go_wp2_with (refine wpList_store rfl rfl _ (uh HST6) ?_)
   obtain⟨r0,r1,r2,r3,r4,r5,r6,r7,r8,r9,r10,r11⟩:=An.read (uh HS6).blk
   refine bodyPost_ret (v:=.tuple #[AnV (ansN s.nt),errV 0]) (by simp[results,Tryz.results141,go_sem,r0,r1,r2,r3,r4,r5,r6,r7,r8,r9,r10,r11,errV]) rfl ?_
   obtain⟨d0,d2,d3,du,m4,dd⟩:=uh HX
   obtain⟨mm,ddd⟩:=m4.finA dd hbase (by omega) (by omega) d2 (uh HS6)
   exact⟨_,_,_,mm,ddd,fun _=>rfl,fun h=>absurd h (uh HFU)⟩
end
end Go.Proofs.YtgmlkfgfjjggnaaGreatDoor
