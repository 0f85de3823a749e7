import Derived.Test.YtgmlkfgfjjggnaaGreatDoorSAO
import Derived.Test.YtgmlkfgfjjggnaaGreatDoorSAK
import Derived.Test.YtgmlkfgfjjggnaaGreatDoorSAL
set_option linter.unusedVariables false
set_option linter.unusedSimpArgs false
set_option maxHeartbeats 40000000
set_option maxRecDepth 100000
namespace Go.Proofs.YtgmlkfgfjjggnaaGreatDoor
section
open Go.RowKit
theorem kL_length(Bk:Nat->Nat)(A:Nat->Ad)(s:Sto)(n:Nat):(kL Bk A s n).length=n:=by simp[kL]
theorem kL_congr{Bk Bk':Nat->Nat}{A A':Nat->Ad}{s s':Sto}{n:Nat}(h:∀i,i<n->kindV Bk (A i) (s.T i)=kindV Bk' (A' i) (s'.T i)):kL Bk A s n=kL Bk' A' s' n:=by
 unfold kL
 exact List.map_congr_left (fun i hi=>h i (List.mem_range.1 hi))
theorem kL_set{Bk:Nat->Nat}{A:Nat->Ad}{s:Sto}{n t:Nat}(ht:t<n)(a':Ad)(x':Tb):(kL Bk A s n).set t (kindV Bk a' x')=kL Bk (up1 A t a') (setT s t x') n:=by
 apply List.ext_getElem?
 intro q
 rw[List.getElem?_set]
 by_cases hq:q<n
 ·by_cases e:t=q
  ·subst e
   rw[if_pos rfl,if_pos (by rw[kL_length];exact hq),kL_get hq]
   show _=some (kindV Bk (up1 A t a' t) (up1 s.T t x' t))
   rw[up1_self,up1_self]
  ·rw[if_neg e,kL_get hq,kL_get hq]
   show _=some (kindV Bk (up1 A t a' q) (up1 s.T t x' q))
   rw[up1_other _ _ (fun e'=>e e'.symm),up1_other _ _ (fun e'=>e e'.symm)]
 ·rw[List.getElem?_eq_none (by rw[kL_length];omega),if_neg (by omega),List.getElem?_eq_none (by rw[kL_length];omega)]
section
variable {Z:Nat->Prop} {w w' X w3:World} {c B0:Nat} {vN vT vS vU:Value} {Bk:Nat->Nat} {A:Nat->Ad} {s:Sto}
theorem WkM.tform(h:WkM Z w c B0 vN vT vS vU Bk A s){t:Nat}(ht:t<s.nt):∃g cp,vT=.slice (some ⟨g,0,none⟩) s.nt cp/\g<w.heap.size/\B0<=g/\w.cell? ⟨g,t,none⟩=some (kindV Bk (A t) (s.T t))/\∀q,w.frozen? ⟨g,q,none⟩=false:=by
 obtain⟨hl,⟨hv,h0⟩|⟨g,cap,cur,hv,hb,hblk,h1,h2,h3,h4⟩⟩:=h.t
 ·omega
 ·refine⟨g,cap,hv,(Array.getElem?_eq_some_iff.1 hblk).1,hb,?_,fun q=>by simp[World.frozen?,hblk]⟩
  rw[World.ownsRow.cellAt (hv▸h.t) t (by omega),kL_get ht]
theorem WkM.setTab(h:WkM Z w c B0 vN vT vS vU Bk A s){g cp t:Nat}(hv:vT=.slice (some ⟨g,0,none⟩) s.nt cp)(ht:t<s.nt){a':Ad}{x':Tb}(hr:Rd (OZ Z B0 c vN vT vS w) w a' x'):
  WkM Z (w.setCell ⟨g,t,none⟩ (kindV Bk a' x')) c B0 vN vT vS vU Bk (up1 A t a') (setT s t x')/\Dst (OwnW B0 c vN vT vS w) w (OwnW B0 c vN vT vS (w.setCell ⟨g,t,none⟩ (kindV Bk a' x'))) (w.setCell ⟨g,t,none⟩ (kindV Bk a' x')):=by
 obtain⟨N,M,hN,hid⟩:=h.nd
 have hg:vT.ownBlock=some g:=by rw[hv];rfl
 have ho:∀k,k≠g->(w.setCell ⟨g,t,none⟩ (kindV Bk a' x')).heap[k]?=w.heap[k]?:=fun k hk=>Deep.blk_setCell_other _ _ _ _ (by exact hk)
 have hcg:c≠g:=fun e=>h.notrow h.t (by decide) (e▸hg)
 refine h.next ⟨rfl,rfl,rfl⟩ (by simp) (fun k _ hk=>ho k (fun e=>hk (.inr (.inr (.inl (e▸hg)))))) (fun _ e=>.inl e) (fun _ e=>.inl e) (fun _ e=>.inl e) ((ho c hcg).trans h.blk) (own_keep h.n (fun q e=>ho q (fun e'=>own_ne h.t h.n (by decide) hg (e'▸e)))) ⟨N,M,hN.keep (fun b hn=>ho b (fun e=>own_nodal h.t (by decide) hg (e▸hn))),hid⟩ ?_
  (own_keep h.si (fun q e=>ho q (fun e'=>own_ne h.t h.si (by decide) hg (e'▸e)))) h.u (fun i hi=>?_)
 ·have h1:=(World.ownsRow.stored (hv▸h.t:w.ownsRow B0 162 1 (.slice (some ⟨g,0,none⟩) s.nt cp) s.nt (kL Bk A s s.nt)) t (kindV Bk a' x')).1
  rw[kL_set ht]at h1
  rw[<-hv]at h1
  exact h1
 ·show Rd _ _ (up1 A t a' i) (up1 s.T t x' i)\/_
  by_cases e:i=t
  ·subst e;rw[up1_self,up1_self];exact .inl hr
  ·rw[up1_other _ _ e,up1_other _ _ e];exact .inl (h.rd i hi)
theorem WkM.more(h:WkM Z w c B0 vN vT vS vU Bk A s)(hX:Below w.heap.size w X){row:Option Nat}(hgr:X.grownBy w3 row)(hr:∀k,row=some k->k≠c):w3.heap[c]?=some (.cells #[vN,vT,vS,vU] 198 (0,0))/\∀q,q<w.heap.size->row≠some q->w3.heap[q]?=w.heap[q]?:=by
 have hk3:∀q,q<w.heap.size->row≠some q->w3.heap[q]?=w.heap[q]?:=fun q hq h1=>(hgr.block q (Nat.lt_of_lt_of_le hq hX.size) (fun e=>h1 e.symm)).trans (hX.block q hq)
 exact⟨(hk3 c h.lt (fun e=>hr c e rfl)).trans h.blk,hk3⟩
theorem Rd.empty{O:Nat->Prop}{w:World}{a:Ad}{t:Tb}(h1:t.nv=0)(h2:t.d.n=0)(h3:t.d.m=0)(h4:t.d.x=0):Rd O w a t:=fun w' _ _=>⟨.inl h1,.inl h2,.inl h3,.inl h4⟩
theorem WkM.pushT(h:WkM Z w c B0 vN vT vS vU Bk A s){g3 cp3:Nat}{a':Ad}{x':Tb}(hX:Below w.heap.size w X)(hgr:X.grownBy w3 vT.ownBlock)
  (hown:w3.ownsRow B0 162 1 (.slice (some ⟨g3,0,none⟩) (s.nt+1) cp3) (s.nt+1) (kL Bk A s s.nt++[kindV Bk a' x'])) (hloc:vT.ownBlock=some g3\/w.heap.size<=g3) (hr:Rd (OZ Z B0 c vN vT vS w) w a' x'):
  w3.heap[c]?=some (.cells #[vN,vT,vS,vU] 198 (0,0))/\WkM Z (w3.setCell ⟨c,1,none⟩ (.slice (some ⟨g3,0,none⟩) (s.nt+1) cp3)) c B0 vN (.slice (some ⟨g3,0,none⟩) (s.nt+1) cp3) vS vU Bk (up1 A s.nt a') {s with nt:=s.nt+1,T:=up1 s.T s.nt x'}/\Dst (OwnW B0 c vN vT vS w) w (OwnW B0 c vN (.slice (some ⟨g3,0,none⟩) (s.nt+1) cp3) vS (w3.setCell ⟨c,1,none⟩ (.slice (some ⟨g3,0,none⟩) (s.nt+1) cp3))) (w3.setCell ⟨c,1,none⟩ (.slice (some ⟨g3,0,none⟩) (s.nt+1) cp3)):=by
 obtain⟨N,M,hN,hid⟩:=h.nd
 obtain⟨hc3,hk3⟩:=h.more hX hgr (fun k e e'=>h.notrow h.t (by decide) (e'▸e))
 have ho:∀k,k≠c->(w3.setCell ⟨c,1,none⟩ (.slice (some ⟨g3,0,none⟩) (s.nt+1) cp3)).heap[k]?=w3.heap[k]?:=fun k hk=>Deep.blk_setCell_other _ _ _ _ (by exact hk)
 have hgc:g3≠c:=fun e=>by
  rcases hloc with h1|h1
  ·exact h.notrow h.t (by decide) (e▸h1)
  ·have:=h.lt;omega
 refine⟨hc3,h.next ⟨hgr.os.trans hX.os,hgr.tape.trans hX.tape,hgr.output.trans hX.output⟩ (by have:=hX.size;have:=hgr.size;simp;omega) (fun k hk1 hk=>(ho k (fun e=>hk (.inl e))).trans (hk3 k hk1 (fun e=>hk (.inr (.inr (.inl e)))))) (fun _ e=>.inl e) (fun k e=>by cases e;exact hloc) (fun _ e=>.inl e) ((heap_setCell_same _ _ _ _ _ _ hc3).trans (by simp))
  (own_keep h.n (fun q e=>(ho q (fun e'=>h.notrow h.n (by decide) (e'▸e))).trans (hk3 q (h.n.lt q e).2 (own_ne h.n h.t (by decide) e)))) ⟨N,M,hN.keep (fun b hn=>(ho b (fun e=>h.notnode (e▸hn))).trans (hk3 b (nodal_lt hn) (fun e=>own_nodal h.t (by decide) e hn))),hid⟩ ?_
  (own_keep h.si (fun q e=>(ho q (fun e'=>h.notrow h.si (by decide) (e'▸e))).trans (hk3 q (h.si.lt q e).2 (own_ne h.si h.t (by decide) e)))) h.u (fun i hi=>?_)⟩
 ·refine own_keep ?_ (fun q e=>ho q (by cases e;exact hgc))
  have e:kL Bk (up1 A s.nt a') {s with nt:=s.nt+1,T:=up1 s.T s.nt x'} (s.nt+1)=kL Bk A s s.nt++[kindV Bk a' x']:=by
   rw[<-kL_snoc]
   show kL _ _ _ _++[kindV Bk (up1 A s.nt a' s.nt) (up1 s.T s.nt x' s.nt)]=_
   rw[up1_self,up1_self,kL_congr (s':=s) (A':=A) (Bk':=Bk) (fun i hi=>by show kindV Bk (up1 A s.nt a' i) (up1 s.T s.nt x' i)=_;rw[up1_other _ _ (by omega),up1_other _ _ (by omega)])]
  show w3.ownsRow _ _ _ _ _ _
  rw[e]
  exact hown
 ·have hi:i<s.nt+1:=hi
  show Rd _ _ (up1 A s.nt a' i) (up1 s.T s.nt x' i)\/_
  by_cases e:i=s.nt
  ·subst e;rw[up1_self,up1_self];exact .inl hr
  ·rw[up1_other _ _ e,up1_other _ _ e];exact .inl (h.rd i (by omega))
theorem own_cut{e B g n cp m z:Nat}{xs ys:List Value}(h:w.ownsRow B e z (.slice (some ⟨g,0,none⟩) n cp) n xs)(hm:m<=n)(hl:ys.length=m*z)(hp:ys<+:xs):w.ownsRow B e z (.slice (some ⟨g,0,none⟩) m cp) m ys:=by
 obtain⟨hl',⟨hv,h0⟩|⟨g',cap,cur,hv,hb,hblk,h1,h2,h3,h4⟩⟩:=h
 ·cases hv
 ·cases hv
  refine⟨hl,.inr ⟨g,cp,cur,rfl,hb,hblk,by omega,h2,h3,?_⟩⟩
  obtain⟨r,hr⟩:=hp
  have h5:(cur.toList.take (n*z)).take (m*z)=ys:=by rw[h4,<-hr,<-hl];exact List.take_left
  rw[List.take_take,Nat.min_eq_left (Nat.mul_le_mul_right z hm)]at h5
  exact h5
theorem WkM.cutT(h:WkM Z w c B0 vN vT vS vU Bk A s){g cp m:Nat}(hv:vT=.slice (some ⟨g,0,none⟩) s.nt cp)(hm:m<=s.nt):
  WkM Z (w.setCell ⟨c,1,none⟩ (.slice (some ⟨g,0,none⟩) m cp)) c B0 vN (.slice (some ⟨g,0,none⟩) m cp) vS vU Bk A {s with nt:=m}/\Dst (OwnW B0 c vN vT vS w) w (OwnW B0 c vN (.slice (some ⟨g,0,none⟩) m cp) vS (w.setCell ⟨c,1,none⟩ (.slice (some ⟨g,0,none⟩) m cp))) (w.setCell ⟨c,1,none⟩ (.slice (some ⟨g,0,none⟩) m cp)):=by
 obtain⟨N,M,hN,hid⟩:=h.nd
 have hg:vT.ownBlock=some g:=by rw[hv];rfl
 have ho:∀k,k≠c->(w.setCell ⟨c,1,none⟩ (.slice (some ⟨g,0,none⟩) m cp)).heap[k]?=w.heap[k]?:=fun k hk=>Deep.blk_setCell_other _ _ _ _ (by exact hk)
 have hgc:g≠c:=fun e=>h.notrow h.t (by decide) (e▸hg)
 refine h.next ⟨rfl,rfl,rfl⟩ (by simp) (fun k _ hk=>ho k (fun e=>hk (.inl e))) (fun _ e=>.inl e) (fun k e=>by cases e;exact .inl hg) (fun _ e=>.inl e) ((heap_setCell_same _ _ _ _ _ _ h.blk).trans (by simp)) (own_keep h.n (fun q e=>ho q (fun e'=>h.notrow h.n (by decide) (e'▸e)))) ⟨N,M,hN.keep (fun b hn=>ho b (fun e=>h.notnode (e▸hn))),hid⟩ ?_
  (own_keep h.si (fun q e=>ho q (fun e'=>h.notrow h.si (by decide) (e'▸e)))) h.u (fun i hi=>.inl (h.rd i (by have hi:i<m:=hi;omega)))
 refine own_keep (own_cut (hv▸h.t:w.ownsRow B0 162 1 (.slice (some ⟨g,0,none⟩) s.nt cp) s.nt (kL Bk A s s.nt)) hm (by rw[kL_length];exact(Nat.mul_one m).symm) ?_) (fun q e=>ho q (by cases e;exact hgc))
 show kL Bk A s m<+:kL Bk A s s.nt
 unfold kL
 refine List.IsPrefix.map _ ?_
 obtain⟨j,hj⟩:∃j,s.nt=m+j:=⟨s.nt-m,by omega⟩
 rw[hj]
 exact⟨(List.range j).map (m+·),by rw[List.range_add]⟩
theorem WkM.pushS(h:WkM Z w c B0 vN vT vS vU Bk A s){g3 cp3:Nat}{x':Si}(hX:Below w.heap.size w X)(hgr:X.grownBy w3 vS.ownBlock)
  (hown:w3.ownsRow B0 103 5 (.slice (some ⟨g3,0,none⟩) (s.ns+1) cp3) (s.ns+1) (siR s.S s.ns++siL x')) (hloc:vS.ownBlock=some g3\/w.heap.size<=g3):
  w3.heap[c]?=some (.cells #[vN,vT,vS,vU] 198 (0,0))/\WkM Z (w3.setCell ⟨c,2,none⟩ (.slice (some ⟨g3,0,none⟩) (s.ns+1) cp3)) c B0 vN vT (.slice (some ⟨g3,0,none⟩) (s.ns+1) cp3) vU Bk A {s with ns:=s.ns+1,S:=up1 s.S s.ns x'}/\Dst (OwnW B0 c vN vT vS w) w (OwnW B0 c vN vT (.slice (some ⟨g3,0,none⟩) (s.ns+1) cp3) (w3.setCell ⟨c,2,none⟩ (.slice (some ⟨g3,0,none⟩) (s.ns+1) cp3))) (w3.setCell ⟨c,2,none⟩ (.slice (some ⟨g3,0,none⟩) (s.ns+1) cp3)):=by
 obtain⟨N,M,hN,hid⟩:=h.nd
 obtain⟨hc3,hk3⟩:=h.more hX hgr (fun k e e'=>h.notrow h.si (by decide) (e'▸e))
 have ho:∀k,k≠c->(w3.setCell ⟨c,2,none⟩ (.slice (some ⟨g3,0,none⟩) (s.ns+1) cp3)).heap[k]?=w3.heap[k]?:=fun k hk=>Deep.blk_setCell_other _ _ _ _ (by exact hk)
 have hgc:g3≠c:=fun e=>by
  rcases hloc with h1|h1
  ·exact h.notrow h.si (by decide) (e▸h1)
  ·have:=h.lt;omega
 refine⟨hc3,h.next ⟨hgr.os.trans hX.os,hgr.tape.trans hX.tape,hgr.output.trans hX.output⟩ (by have:=hX.size;have:=hgr.size;simp;omega) (fun k hk1 hk=>(ho k (fun e=>hk (.inl e))).trans (hk3 k hk1 (fun e=>hk (.inr (.inr (.inr (.inl e))))))) (fun _ e=>.inl e) (fun _ e=>.inl e) (fun k e=>by cases e;exact hloc) ((heap_setCell_same _ _ _ _ _ _ hc3).trans (by simp))
  (own_keep h.n (fun q e=>(ho q (fun e'=>h.notrow h.n (by decide) (e'▸e))).trans (hk3 q (h.n.lt q e).2 (own_ne h.n h.si (by decide) e)))) ⟨N,M,hN.keep (fun b hn=>(ho b (fun e=>h.notnode (e▸hn))).trans (hk3 b (nodal_lt hn) (fun e=>own_nodal h.si (by decide) e hn))),hid⟩
  (own_keep h.t (fun q e=>(ho q (fun e'=>h.notrow h.t (by decide) (e'▸e))).trans (hk3 q (h.t.lt q e).2 (own_ne h.t h.si (by decide) e)))) ?_ h.u (fun i hi=>.inl (h.rd i hi))⟩
 refine own_keep ?_ (fun q e=>ho q (by cases e;exact hgc))
 show w3.ownsRow _ _ _ _ _ (siR (up1 s.S s.ns x') (s.ns+1))
 rw[<-siR_snoc]
 exact hown
theorem WkM.cutS(h:WkM Z w c B0 vN vT vS vU Bk A s){g cp m:Nat}(hv:vS=.slice (some ⟨g,0,none⟩) s.ns cp)(hm:m<=s.ns):
  WkM Z (w.setCell ⟨c,2,none⟩ (.slice (some ⟨g,0,none⟩) m cp)) c B0 vN vT (.slice (some ⟨g,0,none⟩) m cp) vU Bk A {s with ns:=m}/\Dst (OwnW B0 c vN vT vS w) w (OwnW B0 c vN vT (.slice (some ⟨g,0,none⟩) m cp) (w.setCell ⟨c,2,none⟩ (.slice (some ⟨g,0,none⟩) m cp))) (w.setCell ⟨c,2,none⟩ (.slice (some ⟨g,0,none⟩) m cp)):=by
 obtain⟨N,M,hN,hid⟩:=h.nd
 have hg:vS.ownBlock=some g:=by rw[hv];rfl
 have ho:∀k,k≠c->(w.setCell ⟨c,2,none⟩ (.slice (some ⟨g,0,none⟩) m cp)).heap[k]?=w.heap[k]?:=fun k hk=>Deep.blk_setCell_other _ _ _ _ (by exact hk)
 have hgc:g≠c:=fun e=>h.notrow h.si (by decide) (e▸hg)
 refine h.next ⟨rfl,rfl,rfl⟩ (by simp) (fun k _ hk=>ho k (fun e=>hk (.inl e))) (fun _ e=>.inl e) (fun _ e=>.inl e) (fun k e=>by cases e;exact .inl hg) ((heap_setCell_same _ _ _ _ _ _ h.blk).trans (by simp)) (own_keep h.n (fun q e=>ho q (fun e'=>h.notrow h.n (by decide) (e'▸e)))) ⟨N,M,hN.keep (fun b hn=>ho b (fun e=>h.notnode (e▸hn))),hid⟩
  (own_keep h.t (fun q e=>ho q (fun e'=>h.notrow h.t (by decide) (e'▸e)))) ?_ h.u (fun i hi=>.inl (h.rd i hi))
 refine own_keep (own_cut (hv▸h.si:w.ownsRow B0 103 5 (.slice (some ⟨g,0,none⟩) s.ns cp) s.ns (siR s.S s.ns)) hm (siR_length _ _) ?_) (fun q e=>ho q (by cases e;exact hgc))
 obtain⟨j,hj⟩:∃j,s.ns=m+j:=⟨s.ns-m,by omega⟩
 show siR s.S m<+:siR s.S s.ns
 rw[hj]
 clear hj
 induction j with
 |zero=>exact List.prefix_refl _
 |succ j ih=>exact ih.trans (List.prefix_append _ _)
theorem WkM.sform(h:WkM Z w c B0 vN vT vS vU Bk A s){i:Nat}(hi:i<s.ns):∃g cp,vS=.slice (some ⟨g,0,none⟩) s.ns cp/\g<w.heap.size/\B0<=g/\(∀j u,(siL (s.S i))[j]?=some u->w.cell? ⟨g,i*5+j,none⟩=some u)/\∀q,w.frozen? ⟨g,q,none⟩=false:=by
 obtain⟨hl,⟨hv,h0⟩|⟨g,cap,cur,hv,hb,hblk,h1,h2,h3,h4⟩⟩:=h.si
 ·omega
 ·refine⟨g,cap,hv,(Array.getElem?_eq_some_iff.1 hblk).1,hb,fun j u hu=>?_,fun q=>by simp[World.frozen?,hblk]⟩
  have hj:j<5:=by have:=(List.getElem?_eq_some_iff.1 hu).1;exact this
  rw[World.ownsRow.cellAt (hv▸h.si) (i*5+j) (by omega),siR_get hi hj,hu]
theorem WkM.setSite(h:WkM Z w c B0 vN vT vS vU Bk A s){g cp i j:Nat}(hv:vS=.slice (some ⟨g,0,none⟩) s.ns cp)(hi:i<s.ns)(hj:j<5){u:Value}{x':Si}(hx:siL x'=(siL (s.S i)).set j u):
  WkM Z (w.setCell ⟨g,i*5+j,none⟩ u) c B0 vN vT vS vU Bk A {s with S:=up1 s.S i x'}/\Dst (OwnW B0 c vN vT vS w) w (OwnW B0 c vN vT vS (w.setCell ⟨g,i*5+j,none⟩ u)) (w.setCell ⟨g,i*5+j,none⟩ u):=by
 obtain⟨N,M,hN,hid⟩:=h.nd
 have hg:vS.ownBlock=some g:=by rw[hv];rfl
 have ho:∀k,k≠g->(w.setCell ⟨g,i*5+j,none⟩ u).heap[k]?=w.heap[k]?:=fun k hk=>Deep.blk_setCell_other _ _ _ _ (by exact hk)
 have hcg:c≠g:=fun e=>h.notrow h.si (by decide) (e▸hg)
 refine h.next ⟨rfl,rfl,rfl⟩ (by simp) (fun k _ hk=>ho k (fun e=>hk (.inr (.inr (.inr (.inl (e▸hg))))))) (fun _ e=>.inl e) (fun _ e=>.inl e) (fun _ e=>.inl e) ((ho c hcg).trans h.blk) (own_keep h.n (fun q e=>ho q (fun e'=>own_ne h.si h.n (by decide) hg (e'▸e)))) ⟨N,M,hN.keep (fun b hn=>ho b (fun e=>own_nodal h.si (by decide) hg (e▸hn))),hid⟩
  (own_keep h.t (fun q e=>ho q (fun e'=>own_ne h.si h.t (by decide) hg (e'▸e)))) ?_ h.u (fun i hi=>.inl (h.rd i hi))
 have h1:=(World.ownsRow.stored (hv▸h.si:w.ownsRow B0 103 5 (.slice (some ⟨g,0,none⟩) s.ns cp) s.ns (siR s.S s.ns)) (i*5+j) u).1
 rw[siR_set hi hj hx,<-hv]at h1
 exact h1
theorem WkM.notbox(h:WkM Z w c B0 vN vT vS vU Bk A s){b:Nat}{cs:Array Value}{ty:TypeId}(hb:w.heap[b]?=some (.cells cs ty (0,0)))(h1:ty≠198)(h2:ty≠163)(h3:ty≠162)(h4:ty≠103)(h5:ty≠208):¬OwnW B0 c vN vT vS w b:=by
 rintro(rfl|e|e|e|⟨_,e⟩)
 ·rw[h.blk]at hb;cases hb;exact h1 rfl
 ·obtain⟨cur,hc,_⟩:=own_blk h.n e;rw[hc]at hb;cases hb;exact h2 rfl
 ·obtain⟨cur,hc,_⟩:=own_blk h.t e;rw[hc]at hb;cases hb;exact h3 rfl
 ·obtain⟨cur,hc,_⟩:=own_blk h.si e;rw[hc]at hb;cases hb;exact h4 rfl
 ·rcases e with⟨x,hx⟩|⟨es,x,hx⟩
  ·rw[hx]at hb;cases hb;exact h5 rfl
  ·rw[hx]at hb;cases hb
theorem WkM.base(h:WkM Z w c B0 vN vT vS vU Bk A s):B0<=w.heap.size:=Nat.le_trans h.ge (Nat.le_of_lt h.lt)
end
end
section
open Go.RowKit
attribute [local go_sem] run_store_float run_equalIn_float
def vlR(f:Nat->Vl)(n:Nat):List Value:=rwL (fun i=>vlL (f i)) n
theorem vlR_length(f:Nat->Vl)(n:Nat):(vlR f n).length=n*5:=rwL_length (m:=5) (f:=fun i=>vlL (f i)) (fun _=>rfl) n
theorem vlR_get{f:Nat->Vl}{n i j:Nat}(hi:i<n)(hj:j<5):(vlR f n)[i*5+j]?=(vlL (f i))[j]?:=rwL_get (m:=5) (fun _=>rfl) hi hj
theorem vlR_snoc(f:Nat->Vl)(n:Nat)(x:Vl):vlR f n++vlL x=vlR (up1 f n x) (n+1):=by
 unfold vlR
 rw[rwL,up1_self,rwL_congr (f:=fun i=>vlL (f i)) (g:=fun i=>vlL (up1 f n x i)) (fun i hi=>by rw[up1_other _ _ (by omega)])]
theorem vlR_one(f:Nat->Vl):∀n,∀u∈vlR f n,u.oneCell'=true
 |0,u,h=>by cases h
 |n+1,u,h=>by
  rcases List.mem_append.1 h with h|h
  ·exact vlR_one f n u h
  ·simp only[vlL,List.mem_cons,List.not_mem_nil,or_false]at h
   rcases h with h|h|h|h|h<;>(rw[h];rfl)
abbrev VlOwn(w:World)(B:Nat)(v:Value)(n:Nat)(f:Nat->Vl):Prop:=w.ownsRow B 43 5 v n (vlR f n)
theorem VAt.news{w:World}{b off n:Nat}{f:Nat->Vl}(h:∀i,i<n->VCell w b (off+i*5) (f i)):∀j u,(vlR f n)[j]?=some u->w.cell? ((⟨b,off,none⟩:Addr).add j)=some u:=fun j u hu=>by
 have hadd:(⟨b,off,none⟩:Addr).add j=⟨b,off+j,none⟩:=by unfold Addr.add;split<;>simp_all
 rw[hadd]
 have hj:j<n*5:=by
  have:=(List.getElem?_eq_some_iff.1 hu).1
  rwa [vlR_length]at this
 obtain⟨i,r,hi,hr,e⟩:∃i r,i<n/\r<5/\j=i*5+r:=⟨j/5,j%5,by omega,by omega,by omega⟩
 subst e
 rw[vlR_get hi hr]at hu
 obtain⟨c0,c1,c2,c3,c4⟩:=h i hi
 rw[<-Nat.add_assoc]
 rcases(by omega:r=0\/r=1\/r=2\/r=3\/r=4)with rfl|rfl|rfl|rfl|rfl
 ·simp[vlL]at hu;rw[<-hu];exact c0
 ·simp[vlL]at hu;rw[<-hu];exact c1
 ·simp[vlL]at hu;rw[<-hu];exact c2
 ·simp[vlL]at hu;rw[<-hu];exact c3
 ·simp[vlL]at hu;rw[<-hu];exact c4
theorem VlOwn.at{w:World}{B g cp n:Nat}{f:Nat->Vl}(h:VlOwn w B (.slice (some ⟨g,0,none⟩) n cp) n f){i:Nat}(hi:i<n):VCell w g (i*5) (f i):=by
 refine VCell.of (fun j u hu=>?_)
 have hj:j<5:=by have:=(List.getElem?_eq_some_iff.1 hu).1;exact this
 rw[World.ownsRow.cellAt h (i*5+j) (by omega),vlR_get hi hj,hu]
theorem VlOwn.set5{w:World}{B g cp n:Nat}{f:Nat->Vl}(h:VlOwn w B (.slice (some ⟨g,0,none⟩) n cp) n f){i:Nat}(hi:i<n)(v:Vl):VlOwn (set5 w g (i*5) v) B (.slice (some ⟨g,0,none⟩) n cp) n (up1 f i v):=by
 have h0:=(World.ownsRow.stored h (i*5+0) (.int .i64 v.kind)).1
 have h1:=(World.ownsRow.stored h0 (i*5+1) (.int .i64 v.num)).1
 have h2:=(World.ownsRow.stored h1 (i*5+2) (.float .f64 v.flt)).1
 have h3:=(World.ownsRow.stored h2 (i*5+3) (.string v.str)).1
 have h4:=(World.ownsRow.stored h3 (i*5+4) (.int .i64 v.ref)).1
 have hl:∀(q:Nat->List Value) (a:List Value),(∀j,(q j).length=5)->a.length=5->∀j,(up1 q i a j).length=5:=fun q a hq ha j=>by
  unfold up1;split
  ·exact ha
  ·exact hq j
 have e:((((((vlR f n).set (i*5+0) (.int .i64 v.kind)).set (i*5+1) (.int .i64 v.num)).set (i*5+2) (.float .f64 v.flt)).set (i*5+3) (.string v.str)).set (i*5+4) (.int .i64 v.ref))=vlR (up1 f i v) n:=by
  unfold vlR
  rw[rwL_set (m:=5) (fun _=>rfl) hi (by omega)]
  rw[rwL_set (m:=5) (hl _ _ (fun _=>rfl) rfl) hi (by omega),up1_self,up1_up1]
  rw[rwL_set (m:=5) (hl _ _ (fun _=>rfl) rfl) hi (by omega),up1_self,up1_up1]
  rw[rwL_set (m:=5) (hl _ _ (fun _=>rfl) rfl) hi (by omega),up1_self,up1_up1]
  rw[rwL_set (m:=5) (hl _ _ (fun _=>rfl) rfl) hi (by omega),up1_self,up1_up1]
  refine rwL_congr (fun q hq=>?_)
  by_cases eq:q=i
  ·subst eq;rw[up1_self,up1_self];rfl
  ·rw[up1_other _ _ eq,up1_other _ _ eq]
 rw[e]at h4
 exact h4
theorem Rd.vals{O:Nat->Prop}{w:World}{A:Ad}{t:Tb}{B g cp:Nat}(h:VlOwn w B (.slice (some ⟨g,0,none⟩) t.nv cp) t.nv t.V)(hva:A.va=some ⟨g,0,none⟩)(hg:¬O g)(hd:bare t.d):Rd O w A t:=fun w' hs hk=>by
 obtain⟨d1,d2,d3,_⟩:=hd
 obtain⟨cur,hb,_⟩:=own_blk h rfl
 have hgl:=blk_lt hb
 have h':=own_keep h (fun q e=>by cases e;exact hk g hgl hg)
 refine⟨.inr ⟨g,0,hva,Nat.lt_of_lt_of_le hgl hs,fun i hi=>?_⟩,.inl d1,.inl d2,.inl d3⟩
 rw[Nat.zero_add]
 exact VlOwn.at h' hi
end
section
open Go.RowKit
theorem store_new{P:Program}(w:World)(cs:List Value)(t:TypeId)(i:Nat)(v u:Value)(hv:v.oneCell'=true)(hi:cs[i]?=some u):(store ⟨w.heap.size,i,none⟩ v).run P (w.alloc (.cells cs.toArray t))=.ok () (w.alloc (.cells (cs.set i v).toArray t)):=by
 have h:=run_store P (w.alloc (.cells cs.toArray t)) ⟨w.heap.size,i,none⟩ v .plain hv
 rw[h]
 have h1:(w.alloc (.cells cs.toArray t)).cell? ⟨w.heap.size,i,none⟩=some u:=by simp[go_sem,hi]
 have h2:(w.alloc (.cells cs.toArray t)).frozen? ⟨w.heap.size,i,none⟩=false:=by simp[go_sem]
 have h3:(w.alloc (.cells cs.toArray t)).setCell ⟨w.heap.size,i,none⟩ v=w.alloc (.cells (cs.set i v).toArray t):=by simp[go_sem]
 rw[h1,h2,h3]
 rfl
theorem storeCells_new{P:Program}(w:World)(t:TypeId):∀(vs pre old:List Value),vs.length=old.length->(∀v∈vs,v.oneCell'=true)->
  (storeCells ⟨w.heap.size,0,none⟩ vs pre.length).run P (w.alloc (.cells (pre++old).toArray t))=.ok () (w.alloc (.cells (pre++vs).toArray t))
 |[],pre,[],_,_=>by simp[storeCells]
 |v::vs,pre,o::old,hl,hv=>by
  have h:=store_new (P:=P) w (pre++o::old) t pre.length v o (hv v (by simp)) (by simp)
  have h2:=storeCells_new w t vs (pre++[v]) old (by simpa using hl) (fun x hx=>hv x (by simp[hx])) (P:=P)
  have e1:(pre++o::old).set pre.length v=(pre++[v])++old:=by simp
  rw[e1]at h
  have e2:(⟨w.heap.size,0,none⟩:Addr).add pre.length=⟨w.heap.size,pre.length,none⟩:=by
   cases pre<;>simp[Addr.add]
  unfold storeCells
  rw[e2]
  simp only[List.length_append,List.length_cons,List.length_nil,Nat.zero_add,List.append_assoc,List.cons_append,List.nil_append]at h h2 ⊢
  simp[go_sem,h,h2]
def deedsV:Value:=.agg #[.int .i64 0,.nilFunc,.int .i64 0,.func (.func 141) #[] #[],.int .i64 25,.func (.func 142) #[] #[],.int .i64 9,.func (.func 143) #[] #[],.int .i64 5,.func (.func 144) #[] #[],.int .i64 1,.func (.func 145) #[] #[],.int .i64 1,.func (.func 146) #[] #[],.int .i64 8,.func (.func 147) #[] #[],.int .i64 3,.func (.func 148) #[] #[],.int .i64 19,.func (.func 149) #[] #[]]
theorem sz_deeds(w:World):(sizeOf 149).run Tryz.prog w=.ok 20 w:=by kernel_rfl
theorem st_deeds(w:World):(Instr.storeAt 149 (.pointer (some ⟨w.heap.size,0,none⟩)) deedsV).run Tryz.prog (w.alloc (.cells #[.int .i64 0,.nilFunc,.int .i64 0,.nilFunc,.int .i64 0,.nilFunc,.int .i64 0,.nilFunc,.int .i64 0,.nilFunc,.int .i64 0,.nilFunc,.int .i64 0,.nilFunc,.int .i64 0,.nilFunc,.int .i64 0,.nilFunc,.int .i64 0,.nilFunc] 149))=.ok () (w.alloc (.cells deedsV.cells 149)):=by
 have h:=storeCells_new (P:=Tryz.prog) w 149 deedsV.cells.toList [] [.int .i64 0,.nilFunc,.int .i64 0,.nilFunc,.int .i64 0,.nilFunc,.int .i64 0,.nilFunc,.int .i64 0,.nilFunc,.int .i64 0,.nilFunc,.int .i64 0,.nilFunc,.int .i64 0,.nilFunc,.int .i64 0,.nilFunc,.int .i64 0,.nilFunc] rfl (by unfold deedsV;intro v hv;simp[Value.cells]at hv;rcases hv with rfl|rfl|rfl|rfl|rfl|rfl|rfl|rfl|rfl|rfl|rfl|rfl|rfl|rfl|rfl|rfl|rfl|rfl|rfl|rfl<;>rfl)
 have hs:=sz_deeds (w.alloc (.cells #[.int .i64 0,.nilFunc,.int .i64 0,.nilFunc,.int .i64 0,.nilFunc,.int .i64 0,.nilFunc,.int .i64 0,.nilFunc,.int .i64 0,.nilFunc,.int .i64 0,.nilFunc,.int .i64 0,.nilFunc,.int .i64 0,.nilFunc,.int .i64 0,.nilFunc] 149))
 unfold Instr.storeAt storeVar
 simp only[List.nil_append,List.length_nil]at h
 have hn:¬(deedsV.cells.size≠20):=by decide
 simp only[Sem.run_bind]
 have hsa:∀w',(Instr.sureAddr (.pointer (some ⟨w.heap.size,0,none⟩))).run Tryz.prog w'=.ok ⟨w.heap.size,0,none⟩ w':=fun w'=>by simp[go_sem]
 simp[hsa,hn,h]
theorem load_new{P:Program}(w:World)(cs:List Value)(t:TypeId)(i:Nat)(u:Value)(hi:cs[i]?=some u):(load ⟨w.heap.size,i,none⟩).run P (w.alloc (.cells cs.toArray t))=.ok u (w.alloc (.cells cs.toArray t)):=by
 simp[go_sem,hi]
theorem loadCells_new{P:Program}(w:World)(cs:List Value)(t:TypeId):∀(n i:Nat) (acc:Array Value),i+n=cs.length->
  (loadCellsFrom ⟨w.heap.size,0,none⟩ i n acc).run P (w.alloc (.cells cs.toArray t))=.ok (acc++(cs.drop i).toArray) (w.alloc (.cells cs.toArray t))
 |0,i,acc,h=>by
  have:cs.drop i=[]:=by simp;omega
  simp[loadCellsFrom,this]
 |n+1,i,acc,h=>by
  have hi:i<cs.length:=by omega
  have hl:=load_new (P:=P) w cs t i cs[i] (by simp[hi])
  have h2:=loadCells_new w cs t n (i+1) (acc.push cs[i]) (by omega) (P:=P)
  have e2:(⟨w.heap.size,0,none⟩:Addr).add i=⟨w.heap.size,i,none⟩:=by
   cases i<;>simp[Addr.add]
  have e3:acc++(cs.drop i).toArray=acc.push cs[i]++(cs.drop (i+1)).toArray:=by
   rw[List.drop_eq_getElem_cons hi]
   simp
  unfold loadCellsFrom
  rw[e2,e3]
  simp only[Sem.run_bind]
  rw[hl]
  simp[h2]
theorem wpList_store{P:Program}{ops:Array Oper}{Q:Exit->Act->World->Prop}{rest:List Oper}{o:Oper}{a:Act}{w:World}{t:TypeId}{x y:Operand}(hgd:o.guard=none)(ho:o.op=.store t x y)(w':World)(hr:(Instr.storeAt t (a.eval x) (a.eval y)).run P w=.ok () w')(h:wpList P ops Q rest (a.put o.dst undef) w'):wpList P ops Q (o::rest) a w:=
 wpList_plain hgd fun K hK=>by
  have e:(execOp a.eval o).run P w=.ok .skip w':=by
   unfold execOp
   rw[ho]
   simp only[Sem.run_bind]
   rw[hr]
   rfl
  unfold Oper.wp
  rw[e]
  exact hK _ _ h
theorem deeds_any(w:World):
  Calls Tryz.prog 82 #[] w fun e w'=>e=.returned deedsV/\Below w.heap.size w w':=by
 go_enter Tryz.func82,Tryz.ntmps82
 go_wp2_with (first|(refine wpList_store rfl rfl _ (st_deeds w) ?_)|go_in)
 have hag:∀w',(isAgg 149).run Tryz.prog w'=.ok true w':=fun w'=>by kernel_rfl
 have hs:=sz_deeds
 have hlc:(loadCells ⟨w.heap.size,0,none⟩ 20).run Tryz.prog (w.alloc (.cells deedsV.cells 149))=.ok deedsV.cells (w.alloc (.cells deedsV.cells 149)):=by
  have h:=loadCells_new (P:=Tryz.prog) w deedsV.cells.toList 149 20 0 #[] (by decide)
  simpa[loadCells]using h
 refine bodyPost_ret (v:=deedsV) ?_ rfl ⟨rfl,(Below.refl _ _).alloc (Nat.le_refl _) _⟩
 have hdc:Value.agg deedsV.cells=deedsV:=rfl
 simp[results,Tryz.results82,Act.put,loadVar,hag,hs,hlc,asAddr,hdc]
end
section
open Go.RowKit
structure Stored (w w':World) (b:Nat) (cs:Array Value) (ty:TypeId):Prop where
 blk:w'.heap[b]?=some (.cells cs ty (0,0))
 other:∀k,k≠b->w'.heap[k]?=w.heap[k]?
 os:w'.os=w.os
 tape:w'.tape=w.tape
 output:w'.output=w.output
 size:w'.heap.size=w.heap.size
theorem Stored.below{w0 w w':World}{b:Nat}{cs:Array Value}{ty:TypeId}(h:Stored w w' b cs ty){B:Nat}(hb:Below B w0 w)(hB:B<=b):Below B w0 w':=
 ⟨h.os.trans hb.os,h.tape.trans hb.tape,h.output.trans hb.output,by rw[h.size];exact hb.size,fun k hk=>(h.other k (by omega)).trans (hb.block k hk)⟩
theorem store_at{P:Program}(w:World)(b:Nat)(cs:List Value)(t:TypeId)(i:Nat)(v u:Value)(hb:w.heap[b]?=some (.cells cs.toArray t (0,0)))(hv:v.oneCell'=true)(hi:cs[i]?=some u):(store ⟨b,i,none⟩ v).run P w=.ok () (w.setCell ⟨b,i,none⟩ v)/\(w.setCell ⟨b,i,none⟩ v).heap[b]?=some (.cells (cs.set i v).toArray t (0,0)):=by
 have h:=run_store P w ⟨b,i,none⟩ v .plain hv
 have h1:w.cell? ⟨b,i,none⟩=some u:=by simp[World.cell?,hb,hi]
 have h2:w.frozen? ⟨b,i,none⟩=false:=by simp[World.frozen?,hb]
 refine⟨?_,(blk_set_same hb v).trans (by simp)⟩
 rw[h,h1,h2]
 rfl
theorem storeCells_at{P:Program}(b:Nat)(t:TypeId):∀(vs pre old:List Value) (w:World),w.heap[b]?=some (.cells (pre++old).toArray t (0,0))->vs.length=old.length->(∀v∈vs,v.oneCell'=true)->
  ∃w',(storeCells ⟨b,0,none⟩ vs pre.length).run P w=.ok () w'/\Stored w w' b (pre++vs).toArray t
 |[],pre,[],w,hb,_,_=>⟨w,by simp[storeCells],hb,fun _ _=>rfl,rfl,rfl,rfl,rfl⟩
 |v::vs,pre,o::old,w,hb,hl,hv=>by
  obtain⟨h,hb1⟩:=store_at (P:=P) w b (pre++o::old) t pre.length v o hb (hv v (by simp)) (by simp)
  have e1:(pre++o::old).set pre.length v=(pre++[v])++old:=by simp
  rw[e1]at hb1
  obtain⟨w',h2,h3⟩:=storeCells_at b t vs (pre++[v]) old (w.setCell ⟨b,pre.length,none⟩ v) hb1 (by simpa using hl) (fun x hx=>hv x (by simp[hx])) (P:=P)
  have e2:(⟨b,0,none⟩:Addr).add pre.length=⟨b,pre.length,none⟩:=by
   cases pre<;>simp[Addr.add]
  have so:=set_os w ⟨b,pre.length,none⟩ v
  refine⟨w',?_,⟨by simpa using h3.blk,fun k hk=>(h3.other k hk).trans (Deep.blk_setCell_other _ _ _ _ (by exact hk)),h3.os.trans so.1,h3.tape.trans so.2.1,h3.output.trans so.2.2.1,h3.size.trans so.2.2.2⟩⟩
  unfold storeCells
  rw[e2]
  simp only[List.length_append,List.length_cons,List.length_nil,Nat.zero_add]at h2 ⊢
  simp[go_sem,h,h2]
theorem storeAt_any{t:TypeId}{n:Nat}(hs:∀w,(sizeOf t).run Tryz.prog w=.ok n w){w:World}{b:Nat}{old vs:List Value}{ty:TypeId}(hb:w.heap[b]?=some (.cells old.toArray ty (0,0)))(hl:vs.length=old.length)(hn:vs.length=n)(h1:∀v∈vs,v.oneCell'=true){v:Value}(hv:v.cells=vs.toArray):
  ∃w',(Instr.storeAt t (.pointer (some ⟨b,0,none⟩)) v).run Tryz.prog w=.ok () w'/\Stored w w' b vs.toArray ty:=by
 obtain⟨w',h,h3⟩:=storeCells_at (P:=Tryz.prog) b ty vs [] old w hb hl h1
 refine⟨w',?_,by simpa using h3⟩
 unfold Instr.storeAt storeVar
 simp only[List.length_nil]at h
 have hsa:∀w',(Instr.sureAddr (.pointer (some ⟨b,0,none⟩))).run Tryz.prog w'=.ok ⟨b,0,none⟩ w':=fun w'=>by simp[go_sem]
 simp only[Sem.run_bind]
 simp[hsa,hs,hv,hn]
 exact h
theorem sz_shaped(w:World):(sizeOf 236).run Tryz.prog w=.ok 8 w:=by kernel_rfl
theorem sz_value(w:World):(sizeOf 43).run Tryz.prog w=.ok 5 w:=by kernel_rfl
theorem sz_ansW(w:World):(sizeOf 45).run Tryz.prog w=.ok 12 w:=by kernel_rfl
theorem anL_oneW(x:An):∀u∈anL x,u.oneCell'=true:=by
 intro u h
 simp only[anL,List.mem_cons,List.not_mem_nil,or_false]at h
 rcases h with rfl|rfl|rfl|rfl|rfl|rfl|rfl|rfl|rfl|rfl|rfl|rfl<;>rfl
theorem st_ansW{w:World}{b:Nat}(h:RBx w b)(x:An):∃w',(Instr.storeAt 45 (.pointer (some ⟨b,0,none⟩)) (AnV x)).run Tryz.prog w=.ok () w'/\Stored w w' b (anL x).toArray 45:=
 storeAt_any (old:=An0.toList) (vs:=anL x) sz_ansW h rfl rfl (anL_oneW x) rfl
theorem st_cells{w w':World}{b:Nat}{vs:List Value}{ty:TypeId}(h:Stored w w' b vs.toArray ty):∀j u,vs[j]?=some u->w'.cell? ⟨b,j,none⟩=some u:=fun j u hu=>by
 rw[cell_of_row w' b j _ _ _ h.blk];simpa using hu
section
variable {Z:Nat->Prop} {w:World} {c B0:Nat} {vN vT vS:Value}
theorem WkM.finA{w1 w'':World}{vN' vT' vS' vU':Value}{Bk':Nat->Nat}{A':Nat->Ad}{s':Sto}{rb z1:Nat}{x:An}(h:WkM (ZB Z w.heap.size z1) w1 c B0 vN' vT' vS' vU' Bk' A' s')(hd:Dst (OwnW B0 c vN vT vS w) w (OwnW B0 c vN' vT' vS' w1) w1)(hcw:B0<=w.heap.size)(hwb:w.heap.size<=rb)(hz:rb<z1)(hr:RBx w1 rb)(hst:Stored w1 w'' rb (anL x).toArray 45):
  WkM Z w'' c B0 vN' vT' vS' vU' Bk' A' s'/\Dst (OwnW B0 c vN vT vS w) w (OwnW B0 c vN' vT' vS' w'') w'':=
 h.fin hd hcw (.inr ⟨hwb,hz⟩) hwb (h.notbox hr (by decide) (by decide) (by decide) (by decide) (by decide)) (fun k e=>.inl e) ⟨hst.os,hst.tape,hst.output,hst.size⟩ hst.other hst.blk (by decide)
end
theorem An.read{w:World}{b:Nat}{x:An}(h:w.heap[b]?=some (.cells (anL x).toArray 45 (0,0))):w.cell? ⟨b,0,none⟩=some (.int .i64 x.code)/\w.cell? ⟨b,1,none⟩=some (.int .i64 x.num)/\w.cell? ⟨b,2,none⟩=some (.int .i64 x.key.kind)/\w.cell? ⟨b,3,none⟩=some (.int .i64 x.key.num)/\w.cell? ⟨b,4,none⟩=some (.float .f64 x.key.flt)/\w.cell? ⟨b,5,none⟩=some (.string x.key.str)/\w.cell? ⟨b,6,none⟩=some (.int .i64 x.key.ref)/\w.cell? ⟨b,7,none⟩=some (.int .i64 x.val.kind)/\w.cell? ⟨b,8,none⟩=some (.int .i64 x.val.num)/\w.cell? ⟨b,9,none⟩=some (.float .f64 x.val.flt)/\w.cell? ⟨b,10,none⟩=some (.string x.val.str)/\w.cell? ⟨b,11,none⟩=some (.int .i64 x.val.ref):=by
 refine⟨?_,?_,?_,?_,?_,?_,?_,?_,?_,?_,?_,?_⟩<;>(rw[cell_of_row w b _ _ _ _ h];rfl)
theorem step_store{P:Program}{ops:Array Oper}{o:Oper}{a:Act}{w:World}{K:Act->World->Prop}{Q:Exit->Act->World->Prop}{E:Prop}{t:TypeId}{x y:Operand}(hgd:o.guard=none)(ho:o.op=.store t x y)(w':World)(hr:(Instr.storeAt t (a.eval x) (a.eval y)).run P w=.ok () w')(h:K (a.put o.dst undef) w'):
  if Region.wanted o (yielded ops a.tmps)=true then Oper.wp P o a w K Q else E:=by
 have hw:Region.wanted o (yielded ops a.tmps)=true:=by simp[Region.wanted,hgd]
 rw[if_pos hw]
 have e:(execOp a.eval o).run P w=.ok .skip w':=by
  unfold execOp
  rw[ho]
  simp only[Sem.run_bind]
  rw[hr]
  rfl
 unfold Oper.wp
 rw[e]
 exact h
end
section
open Go.RowKit Go.Shelf
attribute [local go_sem] run_store_float run_equalIn_float
theorem implGet(la:Option Addr)(lc:Nat)(ia:Option Addr)(ic:Nat)(xa:Option Addr)(xc:Nat)(d:Dc)(v:Vl)(c:Int)(kv:Vl)(w:World)(hA:DAt w la ia xa d)(hS:Small d)(hW:WfD d)(hk:keyV v.kind v.num v.flt v.str v.ref=KV c kv.kind kv.num kv.flt kv.str kv.ref)(hh:c=0->HsI Tabs kv (hN kv))(hT:Tabs w):
  Calls Tryz.prog 354 #[Dv la lc ia ic xa xc d,VV v] w fun e w'=>e=.returned (VV (getV d c kv))/\Below w.heap.size w w':=by
 have HA:=uy hA
 have HS:=uy hS
 have HW:=uy hW
 have HKV:=uy hk
 have HH:=uy hh
 have HT:=uy hT
 clear hA hS hW hk hh hT
 have hb0:Below w.heap.size w (((w.alloc (.cells #[.slice la d.n lc,.slice ia d.m ic,.slice xa d.x xc,.int .i64 d.used,.int .i64 d.live,.int .i64 d.turns] 92)).alloc (.cells #[.int .i64 v.kind,.int .i64 v.num,.float .f64 v.flt,.string v.str,.int .i64 v.ref] 43)).alloc (.cells #[.int .i64 0,.int .i64 0,.float .f64 0,.string ⟨#[]⟩,.int .i64 0] 43)):=(((Below.refl _ _).alloc (Nat.le_refl _) _).alloc (by simp) _).alloc (by simp;omega) _
 have HB0:=uy hb0
 clear hb0
 go_enter Tryz.func354,Tryz.ntmps354
 go_wp2_with fail
 refine(ikey_any v.kind v.num v.flt v.str v.ref _).mono ?_
 rintro e w1 ⟨rfl,hb1⟩
 rw[uh HKV]
 obtain⟨hc1,hf1⟩:=bcell hb1
 have hz1:=hb1.size
 simp at hz1
 have y0:w.heap.size<w1.heap.size:=by omega
 have y2:w.heap.size+1+1<w1.heap.size:=by omega
 have q0:w1.cell? ⟨w.heap.size,0,none⟩=some (.slice la d.n lc):=by rw[hc1 _ _ (by simp;omega)];simp[go_sem]
 have q1:w1.cell? ⟨w.heap.size,1,none⟩=some (.slice ia d.m ic):=by rw[hc1 _ _ (by simp;omega)];simp[go_sem]
 have q2:w1.cell? ⟨w.heap.size,2,none⟩=some (.slice xa d.x xc):=by rw[hc1 _ _ (by simp;omega)];simp[go_sem]
 have q3:w1.cell? ⟨w.heap.size,3,none⟩=some (.int .i64 d.used):=by rw[hc1 _ _ (by simp;omega)];simp[go_sem]
 have q4:w1.cell? ⟨w.heap.size,4,none⟩=some (.int .i64 d.live):=by rw[hc1 _ _ (by simp;omega)];simp[go_sem]
 have q5:w1.cell? ⟨w.heap.size,5,none⟩=some (.int .i64 d.turns):=by rw[hc1 _ _ (by simp;omega)];simp[go_sem]
 have r0:w1.cell? ⟨w.heap.size+1+1,0,none⟩=some (.int .i64 0):=by rw[hc1 _ _ (by simp)];simp[go_sem]
 have r1:w1.cell? ⟨w.heap.size+1+1,1,none⟩=some (.int .i64 0):=by rw[hc1 _ _ (by simp)];simp[go_sem]
 have r2:w1.cell? ⟨w.heap.size+1+1,2,none⟩=some (.float .f64 0):=by rw[hc1 _ _ (by simp)];simp[go_sem]
 have r3:w1.cell? ⟨w.heap.size+1+1,3,none⟩=some (.string ⟨#[]⟩):=by rw[hc1 _ _ (by simp)];simp[go_sem]
 have r4:w1.cell? ⟨w.heap.size+1+1,4,none⟩=some (.int .i64 0):=by rw[hc1 _ _ (by simp)];simp[go_sem]
 have fr:∀o,w1.frozen? ⟨w.heap.size+1+1,o,none⟩=false:=fun o=>by rw[hf1 _ _ (by simp)];simp[go_sem]
 have HB1:=uy ((uh HB0).trans (hb1.mono (uh HB0).size))
 have HBs1:Hid (∀o,Below w.heap.size w (w1.alloc o)):=uy (fun o=>(uh HB1).alloc (by omega) _)
 clear hb1 hc1 hf1
 by_cases hc:c=0
 case neg=>
  have HR:Hid (getV d c kv=default):=uy (if_neg (fun h=>hc h.2))
  have hc':(c !=0)=true:=by simp[hc]
  clear hc
  go_wp2
  refine bodyPost_ret (v:=.agg #[.int .i64 0,.int .i64 0,.float .f64 0,.string ⟨#[]⟩,.int .i64 0]) (by simp[results,Tryz.results354,go_sem,World.cell?_alloc_lt,y2,r0,r1,r2,r3,r4]) rfl ⟨by rw[uh HR];rfl,?_⟩
  refine Below.alloc ?_ (by simp;omega) _
  iterate 5 (refine Below.setCell ?_ (by show w.heap.size<=w.heap.size+1+1;omega) _)
  exact uh HB1
 have HHs:=uy (uh HH hc)
 subst hc
 go_wp2_with fail
 refine(implOk la lc ia ic xa xc d _ (lastsT _ _ (uh HT) (uh HBs1 _)) ((uh HA).below (uh HBs1 _)) (uh HS) (uh HW)).mono ?_
 rintro e w2 ⟨rfl,hb2⟩
 obtain⟨hc2,hf2⟩:=bcell hb2
 have hz2:=hb2.size
 simp at hz2
 have z0:w.heap.size<w2.heap.size:=by omega
 have z2:w.heap.size+1+1<w2.heap.size:=by omega
 have z3:w1.heap.size<w2.heap.size:=by omega
 have q0':w2.cell? ⟨w.heap.size,0,none⟩=some (.slice la d.n lc):=by rw[hc2 _ _ (by simp;omega),World.cell?_alloc_lt _ _ _ (by exact y0)];exact q0
 have q1':w2.cell? ⟨w.heap.size,1,none⟩=some (.slice ia d.m ic):=by rw[hc2 _ _ (by simp;omega),World.cell?_alloc_lt _ _ _ (by exact y0)];exact q1
 have q2':w2.cell? ⟨w.heap.size,2,none⟩=some (.slice xa d.x xc):=by rw[hc2 _ _ (by simp;omega),World.cell?_alloc_lt _ _ _ (by exact y0)];exact q2
 have q3':w2.cell? ⟨w.heap.size,3,none⟩=some (.int .i64 d.used):=by rw[hc2 _ _ (by simp;omega),World.cell?_alloc_lt _ _ _ (by exact y0)];exact q3
 have q4':w2.cell? ⟨w.heap.size,4,none⟩=some (.int .i64 d.live):=by rw[hc2 _ _ (by simp;omega),World.cell?_alloc_lt _ _ _ (by exact y0)];exact q4
 have q5':w2.cell? ⟨w.heap.size,5,none⟩=some (.int .i64 d.turns):=by rw[hc2 _ _ (by simp;omega),World.cell?_alloc_lt _ _ _ (by exact y0)];exact q5
 have r0':w2.cell? ⟨w.heap.size+1+1,0,none⟩=some (.int .i64 0):=by rw[hc2 _ _ (by simp;omega),World.cell?_alloc_lt _ _ _ (by exact y2)];exact r0
 have r1':w2.cell? ⟨w.heap.size+1+1,1,none⟩=some (.int .i64 0):=by rw[hc2 _ _ (by simp;omega),World.cell?_alloc_lt _ _ _ (by exact y2)];exact r1
 have r2':w2.cell? ⟨w.heap.size+1+1,2,none⟩=some (.float .f64 0):=by rw[hc2 _ _ (by simp;omega),World.cell?_alloc_lt _ _ _ (by exact y2)];exact r2
 have r3':w2.cell? ⟨w.heap.size+1+1,3,none⟩=some (.string ⟨#[]⟩):=by rw[hc2 _ _ (by simp;omega),World.cell?_alloc_lt _ _ _ (by exact y2)];exact r3
 have r4':w2.cell? ⟨w.heap.size+1+1,4,none⟩=some (.int .i64 0):=by rw[hc2 _ _ (by simp;omega),World.cell?_alloc_lt _ _ _ (by exact y2)];exact r4
 have k0:w2.cell? ⟨w1.heap.size,0,none⟩=some (.int .i64 0):=by rw[hc2 _ _ (by simp)];simp[go_sem]
 have k1:w2.cell? ⟨w1.heap.size,1,none⟩=some (.int .i64 kv.kind):=by rw[hc2 _ _ (by simp)];simp[go_sem]
 have k2:w2.cell? ⟨w1.heap.size,2,none⟩=some (.int .i64 kv.num):=by rw[hc2 _ _ (by simp)];simp[go_sem]
 have k3:w2.cell? ⟨w1.heap.size,3,none⟩=some (.float .f64 kv.flt):=by rw[hc2 _ _ (by simp)];simp[go_sem]
 have k4:w2.cell? ⟨w1.heap.size,4,none⟩=some (.string kv.str):=by rw[hc2 _ _ (by simp)];simp[go_sem]
 have k5:w2.cell? ⟨w1.heap.size,5,none⟩=some (.int .i64 kv.ref):=by rw[hc2 _ _ (by simp)];simp[go_sem]
 have fr2:∀o,w2.frozen? ⟨w.heap.size+1+1,o,none⟩=false:=fun o=>by rw[hf2 _ _ (by simp;omega)];exact(((Below.refl w1.heap.size w1).alloc (Nat.le_refl _) _).frozen (p:=⟨w.heap.size+1+1,o,none⟩) y2).trans (fr o)
 have HB2:=uy ((uh HBs1 _).trans (hb2.mono (uh HBs1 _).size))
 clear hb2 hc2 hf2 fr q0 q1 q2 q3 q4 q5 r0 r1 r2 r3 r4
 by_cases hok:dictOk d (hD d)=0
 case neg=>
  have HR:Hid (getV d 0 kv=default):=uy (if_neg (fun h=>hok h.1))
  have hk':(dictOk d (hD d)!=0)=true:=by simp[hok]
  clear hok
  generalize dictOk d (hD d)=ok at hk'
  go_wp2
  refine bodyPost_ret (v:=.agg #[.int .i64 0,.int .i64 0,.float .f64 0,.string ⟨#[]⟩,.int .i64 0]) (by simp[results,Tryz.results354,go_sem,r0',r1',r2',r3',r4']) rfl ⟨by rw[uh HR];rfl,?_⟩
  iterate 5 (refine Below.setCell ?_ (by show w.heap.size<=w.heap.size+1+1;omega) _)
  exact uh HB2
 have HR:Hid (getV d 0 kv=atPlace d (placeI d kv (hN kv))):=uy (if_pos ⟨hok,rfl⟩)
 have HSd:=uy (sound_of hok)
 rw[hok]
 clear hok
 have HAd:=uy ((uh HA).below (uh HB2).drew)
 have HTd:=uy (lastsT _ _ (uh HT) (uh HB2).drew)
 have HB2d:=uy (uh HB2).drew
 go_wp2_with fail
 go_region_law (first
  |(go_simp;go_at_call 213;refine(openBook_any la lc ia ic xa xc d _ (uh HAd) (uh HS) (uh HSd).d3 (uh HSd).d4).mono ?_;rintro e w3 ⟨⟨bk,R0,R1,R2,E,S,rfl,hBk⟩,hb3⟩;have n1:=(hb3.cell (p:=⟨w1.heap.size,1,none⟩) z3).trans k1;have n2:=(hb3.cell (p:=⟨w1.heap.size,2,none⟩) z3).trans k2;have n3:=(hb3.cell (p:=⟨w1.heap.size,3,none⟩) z3).trans k3;have n4:=(hb3.cell (p:=⟨w1.heap.size,4,none⟩) z3).trans k4;have n5:=(hb3.cell (p:=⟨w1.heap.size,5,none⟩) z3).trans k5;have m0:=(hb3.cell (p:=⟨w.heap.size+1+1,0,none⟩) z2).trans r0';have m1:=(hb3.cell (p:=⟨w.heap.size+1+1,1,none⟩) z2).trans r1';have m2:=(hb3.cell (p:=⟨w.heap.size+1+1,2,none⟩) z2).trans r2';have m3:=(hb3.cell (p:=⟨w.heap.size+1+1,3,none⟩) z2).trans r3';have m4:=(hb3.cell (p:=⟨w.heap.size+1+1,4,none⟩) z2).trans r4';have mf:∀o,w3.frozen? ⟨w.heap.size+1+1,o,none⟩=false:=fun o=>(hb3.frozen (p:=⟨w.heap.size+1+1,o,none⟩) z2).trans (fr2 o);have x2:=Nat.lt_of_lt_of_le z2 hb3.size;have x3:=Nat.lt_of_lt_of_le z3 hb3.size;have HT3:=uy (lastsT _ _ (uh HTd) hb3);have HBk:=uy hBk;have HB3:=uy ((uh HB2d).trans (hb3.mono (uh HB2d).size));clear hb3 hBk)
  |(go_simp;go_at_call 263;refine(bfind_any Tabs lastsT bk R0 R1 R2 E S d kv (hN kv) (uh HHs) _ (uh HT3) (uh HBk) (uh HS) (uh HSd).d3 (uh HSd).d4).mono ?_;rintro e w4 ⟨rfl,hb4⟩;have s0:=(hb4.cell (p:=⟨w.heap.size+1+1,0,none⟩) x2).trans m0;have s1:=(hb4.cell (p:=⟨w.heap.size+1+1,1,none⟩) x2).trans m1;have s2:=(hb4.cell (p:=⟨w.heap.size+1+1,2,none⟩) x2).trans m2;have s3:=(hb4.cell (p:=⟨w.heap.size+1+1,3,none⟩) x2).trans m3;have s4:=(hb4.cell (p:=⟨w.heap.size+1+1,4,none⟩) x2).trans m4;have sf:∀o,w4.frozen? ⟨w.heap.size+1+1,o,none⟩=false:=fun o=>(hb4.frozen (p:=⟨w.heap.size+1+1,o,none⟩) x2).trans (mf o);have x4:=Nat.lt_of_lt_of_le x2 hb4.size;have HBk4:=uy ((uh HBk).below hb4);have HB4:=uy ((uh HB3).trans (hb4.mono (uh HB3).size));clear hb4))
 all_goals
  clear HBk HB3 HT3 HAd HTd HB2d m0 m1 m2 m3 m4 n1 n2 n3 n4 n5 mf x2 x3
  obtain⟨hp1,hp2⟩:=place_range (uh HSd).d3 (uh HSd).d4 kv (hN kv)
  generalize hpl:placeI d kv (hN kv)=pl at HR hp1 hp2 ⊢
  clear hpl
  have hn:=(uh HS).n
  by_cases hneg:pl<0
  ·have HR2:Hid (getV d 0 kv=default):=uy ((uh HR).trans (if_neg (by omega)))
   have hpp:placeP E pl=none:=if_neg (by omega)
   rw[hpp]
   clear hpp
   go_wp2
   refine bodyPost_ret (v:=.agg #[.int .i64 0,.int .i64 0,.float .f64 0,.string ⟨#[]⟩,.int .i64 0]) (by simp[results,Tryz.results354,go_sem,s0,s1,s2,s3,s4]) rfl ⟨by rw[uh HR2];rfl,?_⟩
   iterate 5 (refine Below.setCell ?_ (by show w.heap.size<=w.heap.size+1+1;omega) _)
   exact uh HB4
  ·obtain⟨q,hq⟩:∃q:Nat,pl=(q:Int):=⟨pl.toNat,by omega⟩
   subst hq
   have hqn:q<d.n:=by omega
   have HR2:Hid (getV d 0 kv=(d.L q).val):=uy ((uh HR).trans (by unfold atPlace;rw[if_pos (by omega)];rfl))
   have hpp:placeP E (q:Int)=some ⟨E q,0,none⟩:=by unfold placeP;rw[if_pos (by omega)];rfl
   rw[hpp]
   have hE:=(uh HBk4).ent q hqn
   have e0:=hE.v0
   have e1:=hE.v1
   have e2:=hE.v2
   have e3:=hE.v3
   have e4:=hE.v4
   have el:=hE.lt
   clear hpp hE hp1 hp2 hneg
   go_wp2
   refine bodyPost_ret (v:=VV (d.L q).val) (by simp[results,Tryz.results354,go_sem,s0,s1,s2,s3,s4]) rfl ⟨by rw[uh HR2],?_⟩
   iterate 5 (refine Below.setCell ?_ (by show w.heap.size<=w.heap.size+1+1;omega) _)
   exact uh HB4
end
section
open Go.RowKit
attribute [local go_sem] run_store_float run_equalIn_float
def NdS(w:World)(s:Sto)(b0:Nat)(B:Nat->Nat):Prop:=∃N M,NodesP w s.F b0 s.nf B N M/\∀i,i<s.nf->N i=i
theorem NdS.below{w w':World}{s:Sto}{b0:Nat}{B:Nat->Nat}(h:NdS w s b0 B)(hb:Below w.heap.size w w'):NdS w' s b0 B:=by
 obtain⟨N,M,h1,h2⟩:=h
 exact⟨N,M,h1.below hb,h2⟩
theorem NdS.place{w:World}{s:Sto}{b0:Nat}{B:Nat->Nat}(h:NdS w s b0 B)(h0:forestOk s.nf s.F=0){j:Nat}(hj:j<s.nf)(key:ByteArray):
  Calls Tryz.prog 181 #[.pointer (some ⟨B j,0,none⟩),.string key] w fun e w'=>e=.returned (.int .i64 (plcI s.F j key))/\Below w.heap.size w w':=by
 obtain⟨N,M,h1,h2⟩:=h
 refine(placeOf_any w s.F b0 s.nf B N M h1 h2 (forestOk_zero h0).2.1 (forestOk_zero h0).2.2.1 j hj key).mono ?_
 rintro e w' ⟨⟨q1,_⟩,rfl⟩
 exact⟨q1,Below.refl _ _⟩
theorem NdS.cell{w:World}{s:Sto}{b0:Nat}{B:Nat->Nat}(h:NdS w s b0 B){j:Nat}(hj:j<s.nf):B j<w.heap.size/\w.cell? ⟨B j,0,none⟩=some (.int .i64 (j:Int))/\b0<=B j:=by
 obtain⟨N,M,h1,h2⟩:=h
 have:=node_cells h1 h2 hj
 exact⟨by have:=World.block_lt_of_cell? _ _ this.1;exact this,this.1,h1.base j hj⟩
theorem shapedGet_any(A:Ad)(t:Tb)(s:Sto)(b0:Nat)(B:Nat->Nat)(j:Nat)(k:Vl)(w:World)(hN:NdS w s b0 B)(hf:forestOk s.nf s.F=0)(hj:j<s.nf)(hs:t.shape=j)(hnv:t.nv=nf s.F j)(hV:VAt w A.va t.nv t.V):
  Calls Tryz.prog 342 #[ShdA (B j) A t,VVa k] w fun e w'=>e=.returned (VVa (tget s.F t k))/\Below w.heap.size w w':=by
 obtain⟨W,hW⟩:∃W,W=((w.alloc (.cells #[.slice A.va t.nv A.vc,.slice A.la t.d.n A.lc,.slice A.ia t.d.m A.ic,.slice A.xa t.d.x A.xc,.int .i64 t.d.used,.int .i64 t.d.live,.int .i64 t.d.turns,.pointer (some ⟨B j,0,none⟩)] 236)).alloc (.cells #[.int .i64 k.kind,.int .i64 k.num,.float .f64 k.flt,.string k.str,.int .i64 k.ref] 43)).alloc (.cells #[.int .i64 0,.int .i64 0,.float .f64 0,.string ⟨#[]⟩,.int .i64 0] 43):=⟨_,rfl⟩
 have hbW:Below w.heap.size w W:=by rw[hW];exact(((Below.refl _ _).alloc (Nat.le_refl _) _).alloc (by simp) _).alloc (by simp;omega) _
 have hzW:W.heap.size=w.heap.size+1+1+1:=by rw[hW];simp
 have x0:W.cell? ⟨w.heap.size,0,none⟩=some (.slice A.va t.nv A.vc):=by rw[hW];simp[go_sem]
 have x7:W.cell? ⟨w.heap.size,7,none⟩=some (.pointer (some ⟨B j,0,none⟩)):=by rw[hW];simp[go_sem]
 have k0:W.cell? ⟨w.heap.size+1,0,none⟩=some (.int .i64 k.kind):=by rw[hW];simp[go_sem]
 have k3:W.cell? ⟨w.heap.size+1,3,none⟩=some (.string k.str):=by rw[hW];simp[go_sem]
 have hrb:W.heap[w.heap.size+1+1]?=some (.cells #[.int .i64 0,.int .i64 0,.float .f64 0,.string ⟨#[]⟩,.int .i64 0] 43 (0,0)):=by
  rw[hW]
  have h1:=Deep.blk_alloc_new ((w.alloc (.cells #[.slice A.va t.nv A.vc,.slice A.la t.d.n A.lc,.slice A.ia t.d.m A.ic,.slice A.xa t.d.x A.xc,.int .i64 t.d.used,.int .i64 t.d.live,.int .i64 t.d.turns,.pointer (some ⟨B j,0,none⟩)] 236)).alloc (.cells #[.int .i64 k.kind,.int .i64 k.num,.float .f64 k.flt,.string k.str,.int .i64 k.ref] 43)) (.cells #[.int .i64 0,.int .i64 0,.float .f64 0,.string ⟨#[]⟩,.int .i64 0] 43)
  simpa using h1
 have HV:=uy (hV.below hbW rfl)
 have HN:=uy (hN.below hbW)
 have HF:=uy hf
 have HS:=uy (And.intro hs hnv)
 have HBW:=uy hbW
 have l0:w.heap.size<W.heap.size:=by omega
 have l1:w.heap.size+1<W.heap.size:=by omega
 have l2:w.heap.size+1+1<W.heap.size:=by omega
 clear hV hN hf hs hnv hbW hzW
 by_cases hk:k.kind=4
 case neg=>
  have hd:(k.kind !=4)=true:=by simpa using hk
  have HR:Hid (tget s.F t k=nov):=uy (by unfold tget;rw[if_neg (by rw[(uh HS).1];omega),if_neg (fun h=>hk h.1)])
  have HRB:=uy hrb
  have r0:W.cell? ⟨w.heap.size+1+1,0,none⟩=some (.int .i64 0):=by simp[World.cell?,hrb]
  have r1:W.cell? ⟨w.heap.size+1+1,1,none⟩=some (.int .i64 0):=by simp[World.cell?,hrb]
  have r2:W.cell? ⟨w.heap.size+1+1,2,none⟩=some (.float .f64 0):=by simp[World.cell?,hrb]
  have r3:W.cell? ⟨w.heap.size+1+1,3,none⟩=some (.string ⟨#[]⟩):=by simp[World.cell?,hrb]
  have r4:W.cell? ⟨w.heap.size+1+1,4,none⟩=some (.int .i64 0):=by simp[World.cell?,hrb]
  have rf:∀o,W.frozen? ⟨w.heap.size+1+1,o,none⟩=false:=fun o=>by simp[World.frozen?,hrb]
  clear hrb hk
  go_enter Tryz.func342,Tryz.ntmps342
  go_wp2_with fail
  rw[<-hW]
  clear hW
  go_wp2
  refine bodyPost_ret (v:=VVa nov) (by simp[results,Tryz.results342,go_sem,r0,r1,r2,r3,r4]) rfl ⟨by rw[uh HR],?_⟩
  exact uh HBW
 have hd:(k.kind !=4)=false:=by simpa using hk
 have HK:=uy hk
 have HRB:=uy hrb
 clear hk hrb
 go_enter Tryz.func342,Tryz.ntmps342
 go_wp2_with fail
 rw[<-hW]
 clear hW
 go_wp2_with fail
 refine((uh HN).place (uh HF) hj k.str).mono ?_
 rintro e w1 ⟨rfl,hb1⟩
 have y0:=(hb1.cell (p:=⟨w.heap.size,0,none⟩) l0).trans x0
 have hrb:=(hb1.block _ l2).trans (uh HRB)
 have r0:w1.cell? ⟨w.heap.size+1+1,0,none⟩=some (.int .i64 0):=by simp[World.cell?,hrb]
 have r1:w1.cell? ⟨w.heap.size+1+1,1,none⟩=some (.int .i64 0):=by simp[World.cell?,hrb]
 have r2:w1.cell? ⟨w.heap.size+1+1,2,none⟩=some (.float .f64 0):=by simp[World.cell?,hrb]
 have r3:w1.cell? ⟨w.heap.size+1+1,3,none⟩=some (.string ⟨#[]⟩):=by simp[World.cell?,hrb]
 have r4:w1.cell? ⟨w.heap.size+1+1,4,none⟩=some (.int .i64 0):=by simp[World.cell?,hrb]
 have rf:∀o,w1.frozen? ⟨w.heap.size+1+1,o,none⟩=false:=fun o=>by simp[World.frozen?,hrb]
 have HB1:=uy ((uh HBW).trans (hb1.mono (uh HBW).size))
 have HV1:=uy ((uh HV).below hb1 rfl)
 clear hb1 hrb x0 x7 k0 k3 hd
 rcases plc_rng (uh HF) hj k.str with hp|⟨i,hp,hi⟩
 ·have HR:Hid (tget s.F t k=nov):=uy (by unfold tget;rw[if_neg (by rw[(uh HS).1];omega),if_neg (fun h=>by rw[(uh HS).1]at h;have h2:=h.2;rw[show((j:Int)).toNat=j by omega,hp]at h2;omega)])
  rw[hp]
  clear hp
  go_wp2
  refine bodyPost_ret (v:=VVa nov) (by simp[results,Tryz.results342,go_sem,r0,r1,r2,r3,r4]) rfl ⟨by rw[uh HR],?_⟩
  iterate 5 (refine Below.setCell ?_ (by show w.heap.size<=w.heap.size+1+1;omega) _)
  exact uh HB1
 ·have HR:Hid (tget s.F t k=t.V i):=uy (by unfold tget;rw[if_neg (by rw[(uh HS).1];omega),(uh HS).1,show((j:Int)).toNat=j by omega,hp,if_pos ⟨uh HK,by omega⟩]<;>first|rfl|(congr 1<;>omega))
  rw[hp]
  have hin:i<t.nv:=by rw[(uh HS).2];exact hi
  obtain⟨vb,off,eva,hvl,hvc⟩:=(uh HV1).resolve_left (by omega)
  obtain⟨v0,v1,v2,v3,v4⟩:=hvc i hin
  rw[eva]at y0
  clear hp hvc eva hi
  go_wp2
  refine bodyPost_ret (v:=VVa (t.V i)) (by simp[results,Tryz.results342,go_sem,r0,r1,r2,r3,r4]) rfl ⟨by rw[uh HR],?_⟩
  iterate 5 (refine Below.setCell ?_ (by show w.heap.size<=w.heap.size+1+1;omega) _)
  exact uh HB1
theorem unshapedGet_any(A:Ad)(t:Tb)(F:Nat->Shp)(k:Vl)(w:World)(hT:Tabs w)(hs:t.shape=-1)(hI:Inv Ky hN t.d)(hW':WfD t.d)(hS:Small t.d)(hk:Ky k)(hA:DAt w A.la A.ia A.xa t.d):
  Calls Tryz.prog 349 #[HdA A t,VVa k] w fun e w'=>e=.returned (VVa (tget F t k))/\Below w.heap.size w w':=by
 obtain⟨W,hW⟩:∃W,W=((w.alloc (.cells #[.slice A.va t.nv A.vc,.slice A.la t.d.n A.lc,.slice A.ia t.d.m A.ic,.slice A.xa t.d.x A.xc,.int .i64 t.d.used,.int .i64 t.d.live,.int .i64 t.d.turns] 239)).alloc (.cells #[.int .i64 k.kind,.int .i64 k.num,.float .f64 k.flt,.string k.str,.int .i64 k.ref] 43)).alloc (.cells #[.int .i64 0,.int .i64 0,.float .f64 0,.string ⟨#[]⟩,.int .i64 0] 43):=⟨_,rfl⟩
 have hbW:Below w.heap.size w W:=by rw[hW];exact(((Below.refl _ _).alloc (Nat.le_refl _) _).alloc (by simp) _).alloc (by simp;omega) _
 have hzW:W.heap.size=w.heap.size+1+1+1:=by rw[hW];simp
 have hrb:W.heap[w.heap.size+1+1]?=some (.cells #[.int .i64 0,.int .i64 0,.float .f64 0,.string ⟨#[]⟩,.int .i64 0] 43 (0,0)):=by
  rw[hW]
  have h1:=Deep.blk_alloc_new ((w.alloc (.cells #[.slice A.va t.nv A.vc,.slice A.la t.d.n A.lc,.slice A.ia t.d.m A.ic,.slice A.xa t.d.x A.xc,.int .i64 t.d.used,.int .i64 t.d.live,.int .i64 t.d.turns] 239)).alloc (.cells #[.int .i64 k.kind,.int .i64 k.num,.float .f64 k.flt,.string k.str,.int .i64 k.ref] 43)) (.cells #[.int .i64 0,.int .i64 0,.float .f64 0,.string ⟨#[]⟩,.int .i64 0] 43)
  simpa using h1
 have l2:w.heap.size+1+1<W.heap.size:=by omega
 have HR:Hid (tget F t k=getV t.d 0 k):=uy (by unfold tget getV;rw[if_pos (by omega),if_pos ⟨inv_ok' hI,rfl⟩])
 have HC:=uy (implGet A.la A.lc A.ia A.ic A.xa A.xc t.d k 0 k W (hA.below hbW) hS hW' (keyV_self hk) (fun _=>hsI_all k hk) (lastsT _ _ hT hbW))
 have HBW:=uy hbW
 clear hA hT hs hI hW' hS hk hbW hzW
 go_enter Tryz.func349,Tryz.ntmps349
 go_wp2_with fail
 rw[<-hW]
 clear hW
 refine(uh HC).mono ?_
 rintro e w1 ⟨rfl,hb1⟩
 have hrb:=(hb1.block _ l2).trans hrb
 have r0:w1.cell? ⟨w.heap.size+1+1,0,none⟩=some (.int .i64 0):=by simp[World.cell?,hrb]
 have r1:w1.cell? ⟨w.heap.size+1+1,1,none⟩=some (.int .i64 0):=by simp[World.cell?,hrb]
 have r2:w1.cell? ⟨w.heap.size+1+1,2,none⟩=some (.float .f64 0):=by simp[World.cell?,hrb]
 have r3:w1.cell? ⟨w.heap.size+1+1,3,none⟩=some (.string ⟨#[]⟩):=by simp[World.cell?,hrb]
 have r4:w1.cell? ⟨w.heap.size+1+1,4,none⟩=some (.int .i64 0):=by simp[World.cell?,hrb]
 have rf:∀o,w1.frozen? ⟨w.heap.size+1+1,o,none⟩=false:=fun o=>by simp[World.frozen?,hrb]
 have HB1:=uy ((uh HBW).trans (hb1.mono (uh HBW).size))
 clear hb1 hrb HC
 generalize getV t.d 0 k=g at*
 go_wp2
 refine bodyPost_ret (v:=VVa g) (by simp[results,Tryz.results349,go_sem,r0,r1,r2,r3,r4]) rfl ⟨by rw[uh HR],?_⟩
 iterate 5 (refine Below.setCell ?_ (by show w.heap.size<=w.heap.size+1+1;omega) _)
 exact uh HB1
end
end Go.Proofs.YtgmlkfgfjjggnaaGreatDoor
