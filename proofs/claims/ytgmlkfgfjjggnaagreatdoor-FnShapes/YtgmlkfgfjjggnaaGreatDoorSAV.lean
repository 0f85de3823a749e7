import Derived.Test.YtgmlkfgfjjggnaaGreatDoorSAO
import Derived.OrdersHeld
import Derived.Deep.RegionHeld
import Derived.Test.YtgmlkfgfjjggnaaGreatDoorSAD
import Derived.Test.YtgmlkfgfjjggnaaGreatDoorSAR
import Derived.Laws.OwnMore
import Derived.Test.YtgmlkfgfjjggnaaGreatDoorSAN
import Derived.Test.YtgmlkfgfjjggnaaGreatDoorSAM
set_option linter.unusedVariables false
set_option linter.unusedSimpArgs false
set_option maxHeartbeats 40000000
set_option maxRecDepth 100000
namespace Go.Proofs.YtgmlkfgfjjggnaaGreatDoor
section
open Go.RowKit
theorem fld_size{n:Nat}{f:Nat->Shp}(h:forestOk n f=0){j:Nat}(hj:j<n){i:Nat}(hi:i<nf f j):(fld f j i).size<=4000:=by
 obtain⟨h1,h2,h3,h4,h5⟩:=forestOk_zero h
 have hp:=anc_pos h2 h3 hj (t:=nf f j-1-i) (by omega)
 have hb:=(anc_bound h2 h3 hj (nf f j-1-i) (by omega)).1
 exact(h3 _ hp hb).2.2.2.2
theorem fld_apart{n:Nat}{f:Nat->Shp}(h:forestOk n f=0){j:Nat}(hj:j<n){q i:Nat}(hq:q<i)(hi:i<nf f j):(fld f j q).toList≠(fld f j i).toList:=by
 obtain⟨h1,h2,h3,h4,h5⟩:=forestOk_zero h
 exact fun e=>anc_apart h2 h3 h5 hj (t:=nf f j-1-i) (u:=nf f j-1-q) (by omega) (by omega) e.symm
structure Loose (F:Nat->Shp) (j i:Nat) (d:Dc):Prop where
 inv:Inv Ky hN d
 keys:∀p,Has d p->∃q,q<i/\p.key=strV (fld F j q)
 live:0<=d.live/\d.live<=i
 turns:0<=d.turns/\d.turns<=i
theorem Loose.no{n:Nat}{F:Nat->Shp}(h:forestOk n F=0){j:Nat}(hj:j<n){i:Nat}{d:Dc}(hd:Loose F j i d)(hi:i<nf F j):∀q,q<d.n->(d.L q).turn≠0->likeB (d.L q).key (strV (fld F j i))=false:=by
 intro q h1 h2
 obtain⟨r,hr,e⟩:=hd.keys _ (has_at h1 h2)
 cases hl:likeB (d.L q).key (strV (fld F j i))
 ·rfl
 ·have:=(like_flt hl).2.1
  rw[e]at this
  exact absurd this (fld_apart h hj hr hi)
theorem Loose.place{n:Nat}{F:Nat->Shp}(h:forestOk n F=0){j:Nat}(hj:j<n){i:Nat}{d:Dc}(hd:Loose F j i d)(hi:i<nf F j):placeI d (strV (fld F j i)) (hN (strV (fld F j i)))<0:=by
 rcases hd.inv.i0.place keyLaw (ky_str (fld_size h hj hi))with⟨q,h1,h2,h3,h4⟩|⟨h1,h2⟩
 ·rw[hd.no h hj hi q h1 h2]at h3
  cases h3
 ·omega
theorem loose_step{n:Nat}{F:Nat->Shp}(h:forestOk n F=0){j:Nat}(hj:j<n){i:Nat}{d:Dc}(hd:Loose F j i d)(hi:i<nf F j){v:Vl}(hv:okV v=true):
  putD hN d (strV (fld F j i)) v=comeD hN d (strV (fld F j i)) v/\Loose F j (i+1) (putD hN d (strV (fld F j i)) v):=by
 have hky:=ky_str (fld_size h hj hi)
 have hv':v.ok=true/\v.kind≠0:=by simpa[okV]using hv
 have hn:=nf_le h hj
 have h1:=hd.live
 have h2:=hd.turns
 refine⟨putD_come (by have:=hd.place h hj hi;omega) ⟨hv'.2,by omega,by omega⟩,putD_inv keyLaw hd.inv hky hky.1 hv'.1,fun p hp=>?_,?_,?_⟩
 ·rcases put_says keyLaw hd.inv hky hky.1 hv'.1 with⟨q,a1,a2,a3,_⟩|⟨q,a1,a2,a3,_⟩|⟨a1,a2,a3,_⟩|⟨a1,a2,a3⟩
  ·exact absurd a3 hv'.2
  ·obtain⟨k,k1,k2,rfl⟩:=a1
   rw[hd.no h hj hi k k1 k2]at a2
   cases a2
  ·rcases(a3 p).1 hp with e|e
   ·obtain⟨q,q1,q2⟩:=hd.keys p e
    exact⟨q,by omega,q2⟩
   ·exact⟨i,by omega,by rw[e]⟩
  ·exact absurd ⟨hv'.2,by omega,by omega⟩ a2
 ·rcases put_says keyLaw hd.inv hky hky.1 hv'.1 with⟨q,a1,a2,a3,_⟩|⟨q,a1,a2,a3,_⟩|⟨a1,a2,a3,a4,a5⟩|⟨a1,a2,a3⟩
  ·exact absurd a3 hv'.2
  ·obtain⟨k,k1,k2,rfl⟩:=a1
   rw[hd.no h hj hi k k1 k2]at a2
   cases a2
  ·rw[a4];exact⟨by omega,by push_cast;omega⟩
  ·exact absurd ⟨hv'.2,by omega,by omega⟩ a2
 ·rcases put_says keyLaw hd.inv hky hky.1 hv'.1 with⟨q,a1,a2,a3,_⟩|⟨q,a1,a2,a3,_⟩|⟨a1,a2,a3,a4,a5⟩|⟨a1,a2,a3⟩
  ·exact absurd a3 hv'.2
  ·obtain⟨k,k1,k2,rfl⟩:=a1
   rw[hd.no h hj hi k k1 k2]at a2
   cases a2
  ·rw[a5];exact⟨by omega,by push_cast;omega⟩
  ·exact absurd ⟨hv'.2,by omega,by omega⟩ a2
theorem loose_all{n:Nat}{F:Nat->Shp}(h:forestOk n F=0){j:Nat}(hj:j<n){W:Nat->Vl}(hv:∀i,i<nf F j->okV (W i)=true):∀i,i<=nf F j->Loose F j i (looseD F j W i)
 |0,_=>⟨noD_inv,fun p hp=>by obtain⟨q,h1,_⟩:=hp;exact absurd h1 (Nat.not_lt_zero _),⟨Int.le_refl _,Int.le_refl _⟩,⟨Int.le_refl _,Int.le_refl _⟩⟩
 |i+1,hi=>(loose_step h hj (loose_all h hj hv i (by omega)) (by omega) (hv i (by omega))).2
end
section
open Go.RowKit
theorem comeC_str{c:Dc}{k v:Vl}(h:Inv0 Ky hN c)(hk4:k.kind=4)(hl:c.live<500):(comeC hN c k v).m=c.m:=by
 unfold comeC
 rw[if_neg (fun h=>by have h1:k.kind=2:=h.1;omega),if_neg (fun h=>by have h1:k.kind=2:=h.1;omega),enter_m]
 exact(roomD_inv h hl).2.2.m
structure LooseL (F:Nat->Shp) (j:Nat) (W:Nat->Vl) (i:Nat) (d:Dc):Prop where
 ls:Loose F j i d
 n:d.n=i
 live:d.live=i
 turns:d.turns=i
 m:d.m=0
 L:∀q,q<i->d.L q=⟨strV (fld F j q),W q,(q:Int)+1⟩
theorem loose_log{n:Nat}{F:Nat->Shp}(h:forestOk n F=0){j:Nat}(hj:j<n){W:Nat->Vl}(hv:∀i,i<nf F j->okV (W i)=true):∀i,i<=nf F j->LooseL F j W i (looseD F j W i)
 |0,hi=>⟨loose_all h hj hv 0 hi,rfl,rfl,rfl,rfl,fun q hq=>absurd hq (Nat.not_lt_zero _)⟩
 |i+1,hi=>by
  have ih:=loose_log h hj hv i (by omega)
  have hn:=nf_le h hj
  obtain⟨e1,e2⟩:=loose_step h hj ih.ls (by omega) (hv i (by omega))
  have hky:=ky_str (fld_size h hj (show i<nf F j by omega))
  have hv':(W i).ok=true/\(W i).kind≠0:=by simpa[okV]using hv i (by omega)
  have hc:compactD hN (looseD F j W i)=looseD F j W i:=if_pos (.inr (by rw[ih.n,ih.live];omega))
  have e3:looseD F j W (i+1)=comeC hN (looseD F j W i) (strV (fld F j i)) (W i):=by
   show putD hN _ _ _=_
   rw[e1]
   show comeC hN (compactD hN (looseD F j W i)) _ _=_
   rw[hc]
  have hl:(looseD F j W i).live<500:=by rw[ih.live];omega
  obtain⟨_,_,c3,c4,c5,c6⟩:=comeC_inv keyLaw ih.ls.inv.i0 ih.ls.inv.next hky hky.1 hv'.1 hv'.2 (ih.ls.no h hj (show i<nf F j by omega)) hl (by rw[ih.turns];omega)
  refine⟨e2,by rw[e3,c3,ih.n],by rw[e3,c5,ih.live];push_cast;rfl,by rw[e3,c6,ih.turns];push_cast;rfl,by rw[e3,comeC_str ih.ls.inv.i0 rfl hl,ih.m],fun q hq=>?_⟩
  rw[e3,c4,ih.n,ih.turns]
  by_cases e:q=i
  ·subst e;exact upd_same _ _ _
  ·rw[upd_other _ _ e];exact ih.L q (by omega)
end
section
open Go.RowKit Go.Shelf
section
variable {P:Program} {ops:Array Oper} {md:Region.Mode}
theorem wpInR_of_wp{l n:Nat}{o:Oper}{a:Act}{K K':Act->World->Prop}{Q:Exit->Act->World->Prop}{w:World}(hd:∀c,o.op≠.defer c)(h:∀a w,K a w->K' a w)(hh:o.wp P a w K (QN Q)):o.wpIn (Fence.wide.inRound l) n P a w K' Q:=by
 unfold Oper.wp at hh
 refine⟨fun _ _=>trivial,?_⟩
 show o.uponIn (Fence.wide.inRound l) n P a K' Q ((o.semAt (some l) a.eval).run P w)
 rw[Oper.semAt_some l _ _ hd]
 generalize (execOp a.eval o).run P w=r at*
 cases r with
 |ok x w'=>
  cases x<;>simp only[Oper.upon]at hh<;>simp only[Oper.uponIn]
  case value u=>exact h _ _ hh
  case skip=>exact h _ _ hh
  case defer d=>exact h _ _ hh
  case enter f args=>
   refine⟨fun hh=>(by cases hh),CallsIn.inRound l (callsIn_wide.2 (hh.mono fun e w'' he=>?_))⟩
   cases e with
   |returned v=>exact h _ _ he
   |panicked c=>exact False.elim he
   |outgrown=>exact absurd he QN.no
  case row row args=>
   refine⟨fun hh=>(by cases hh),fun c cs hr=>?_⟩
   obtain⟨v,w'',r,s⟩:=hh c cs
   exact⟨v,w'',h _ _ r,stepsIn_wide.2 s⟩
 |halt x w'=>cases x<;>simp only[Oper.upon]at hh<;>exact False.elim hh
theorem wpOpInR_of_wpOp{l n i:Nat}{a:Act}{K K':Act->World->Prop}{Q:Exit->Act->World->Prop}{w:World}(hd:noDefer ops=true)(h:∀a w,K a w->K' a w)(hh:wpOp P ops (QN Q) i K a w):wpOpIn (Fence.wide.inRound l) n P ops Q i K' a w:=by
 unfold wpOp at hh
 unfold wpOpIn
 split
 ·rename_i ho;simp only[ho]at hh;exact h _ _ hh
 ·rename_i o ho
  simp only[ho]at hh
  split
  ·rename_i hw
   simp only[hw,if_true]at hh
   rcases hh with hh|hh
   ·exact wpInR_of_wp (noDefer_spec hd ho) h hh
   ·exact absurd hh.2 QN.no
  ·rename_i hw;simp only[hw]at hh;exact⟨fun _ _=>trivial,h _ _ hh⟩
theorem wpAnyInR_of_any{l n:Nat}{Q:Exit->Act->World->Prop}(hd:noDefer ops=true):∀(fuel:Nat) (listed:Array Bool) (a:Act) (w:World),wpAny P md ops (QN Q) fuel listed a w->wpAnyIn (Fence.wide.inRound l) n P md ops Q fuel listed a w
 |0,_,_,_,h=>h
 |fuel+1,_,_,_,h=>⟨h.1,fun i hi=>wpOpInR_of_wpOp hd (fun a' w' h'=>wpAnyInR_of_any hd fuel _ a' w' h') (h.2 i hi)⟩
theorem wpInR_held{l n id:Nat}{Q:Exit->Act->World->Prop}{a:Act}{w:World}(S:World->Prop)(hm:P.follows .mixedOrders=true)(hd:noDefer ops=true)(h:wpAnyH P .any ops (QN Q) S ops.size (Array.replicate ops.size false) a {w with drawn:=w.drawn+1}):(Code.region id ops true).wpIn (Fence.wide.inRound l) n P Q a w:=
 wpIn_region_any hm (wpAnyInR_of_any hd _ _ _ _ (wpAny_of_held _ _ _ _ h))
theorem wpInW_held{n id:Nat}{Q:Exit->Act->World->Prop}{a:Act}{w:World}(S:World->Prop)(hm:P.follows .mixedOrders=true)(h:wpAnyH P .any ops (QN Q) S ops.size (Array.replicate ops.size false) a {w with drawn:=w.drawn+1}):(Code.region id ops true).wpIn Fence.wide n P Q a w:=
 wpIn_wide.2 (wpN_held S hm h)
end
end
section
open Go.RowKit
def ptL(f:Nat->Option Addr):Nat->List Value
 |0=>[]
 |k+1=>ptL f k++[.pointer (f k)]
theorem ptL_length(f:Nat->Option Addr)(n:Nat):(ptL f n).length=n:=by
 induction n with
 |zero=>rfl
 |succ n ih=>simp[ptL,ih]
theorem ptL_get{f:Nat->Option Addr}{n i:Nat}(hi:i<n):(ptL f n)[i]?=some (.pointer (f i)):=by
 induction n with
 |zero=>omega
 |succ n ih=>
  show(ptL f n++[.pointer (f n)])[i]?=_
  by_cases h:i<n
  ·rw[List.getElem?_append_left (by rw[ptL_length];omega),ih h]
  ·have:i=n:=by omega
   subst this
   rw[List.getElem?_append_right (by rw[ptL_length];omega),ptL_length]
   simp
theorem ptL_ext{f:Nat->Option Addr}{n:Nat}{xs:List Value}(hl:xs.length=n)(h:∀i,i<n->xs[i]?=some (.pointer (f i))):xs=ptL f n:=by
 apply List.ext_getElem?
 intro q
 by_cases hq:q<n
 ·rw[h q hq,ptL_get hq]
 ·rw[List.getElem?_eq_none (by omega),List.getElem?_eq_none (by rw[ptL_length];omega)]
theorem ptL_congr{f g:Nat->Option Addr}{n:Nat}(h:∀i,i<n->f i=g i):ptL f n=ptL g n:=ptL_ext (ptL_length f n) (fun i hi=>by rw[ptL_get hi,h i hi])
theorem ptL_set(f:Nat->Option Addr)(n i:Nat)(a:Option Addr)(hi:i<n):(ptL f n).set i (.pointer a)=ptL (upd f i a) n:=by
 refine ptL_ext (by rw[List.length_set,ptL_length]) (fun q hq=>?_)
 rw[List.getElem?_set]
 by_cases e:i=q
 ·subst e;rw[if_pos rfl,if_pos (by rw[ptL_length];omega),upd_same]
 ·rw[if_neg e,ptL_get hq,upd_other _ _ (fun e'=>e e'.symm)]
theorem ptL_snoc(f:Nat->Option Addr)(n:Nat)(a:Option Addr):ptL f n++[.pointer a]=ptL (upd f n a) (n+1):=by
 show _=ptL (upd f n a) n++[.pointer (upd f n a n)]
 rw[upd_same,ptL_congr (f:=upd f n a) (g:=f) (fun i hi=>upd_other _ _ (by omega))]
abbrev tEnt:TypeId:=292
abbrev tSlt:TypeId:=331
abbrev Rw(w:World)(B:Nat)(t:TypeId)(v:Value)(n:Nat)(f:Nat->Option Addr):Prop:=w.ownsRow B t 1 v n (ptL f n)
theorem Rw.form{w:World}{B n:Nat}{t:TypeId}{v:Value}{f:Nat->Option Addr}(h:Rw w B t v n f)(hn:0<n):∃g cp,v=.slice (some ⟨g,0,none⟩) n cp/\B<=g/\g<w.heap.size/\n<=cp/\(∀i,i<n->w.cell? ⟨g,i,none⟩=some (.pointer (f i)))/\∀q,w.frozen? ⟨g,q,none⟩=false:=by
 have h':=h
 obtain⟨hl,⟨hv,h0⟩|⟨g,cap,cur,hv,hb,hblk,h1,h2,h3,h4⟩⟩:=h'
 ·omega
 ·subst hv
  exact⟨g,cap,rfl,hb,(h.lt g rfl).2,h1,fun i hi=>by rw[World.ownsRow.cellAt h _ (by omega),ptL_get hi],fun q=>World.ownsRow.frozenAt h q⟩
theorem Rw.slice{w:World}{B n:Nat}{t:TypeId}{v:Value}{f:Nat->Option Addr}(h:Rw w B t v n f):∃a cp,v=.slice a n cp:=by
 obtain⟨hl,⟨hv,h0⟩|⟨g,cap,cur,hv,_⟩⟩:=h
 ·subst h0;exact⟨none,0,hv⟩
 ·exact⟨_,_,hv⟩
theorem Rw.set{w:World}{B g n cp:Nat}{t:TypeId}{f:Nat->Option Addr}(h:Rw w B t (.slice (some ⟨g,0,none⟩) n cp) n f){i:Nat}(hi:i<n)(a:Option Addr):Rw (w.setCell ⟨g,i,none⟩ (.pointer a)) B t (.slice (some ⟨g,0,none⟩) n cp) n (upd f i a):=by
 have h1:=(World.ownsRow.stored h i (.pointer a)).1
 rw[ptL_set f n i a hi]at h1
 exact h1
theorem Rw.congr{w:World}{B n:Nat}{t:TypeId}{v:Value}{f g:Nat->Option Addr}(h:Rw w B t v n f)(e:∀i,i<n->g i=f i):Rw w B t v n g:=by
 show w.ownsRow _ _ _ _ _ (ptL g n)
 rw[ptL_congr e]
 exact h
theorem Ptrs.own{w:World}{R n B:Nat}{t:TypeId}{f:Nat->Option Addr}(h:Ptrs w R n t f)(hB:B<=R)(hn:n<=4194304):Rw w B t (.slice (some ⟨R,0,none⟩) n n) n f:=by
 obtain⟨g,⟨c,hb,hs,hc⟩,hg⟩:=h
 refine⟨by rw[ptL_length];omega,.inr ⟨R,n,c,rfl,hB,hb,Nat.le_refl _,by unfold maxLen;omega,by omega,?_⟩⟩
 refine ptL_ext (by rw[List.length_take,Array.length_toList];omega) (fun i hi=>?_)
 rw[List.getElem?_take,if_pos (by omega),Array.getElem?_toList,hc i hi,hg i hi]
theorem type_apart{w:World}{b:Nat}{c c':Array Value}{t t':TypeId}{fr fr':Nat×Nat}(h:w.heap[b]?=some (.cells c t fr))(h':w.heap[b]?=some (.cells c' t' fr'))(hne:t≠t'):False:=by
 rw[h]at h'
 cases h'
 exact hne rfl
theorem Rw.block{w:World}{B n b:Nat}{t:TypeId}{v:Value}{f:Nat->Option Addr}(h:Rw w B t v n f)(e:v.ownBlock=some b):∃c,w.heap[b]?=some (.cells c t (0,0)):=by
 obtain⟨hl,⟨hv,h0⟩|⟨g,cap,cur,hv,hb,hblk,_⟩⟩:=h
 ·subst hv;cases e
 ·subst hv
  have e':g=b:=by simpa[Value.ownBlock]using e
  subst e'
  exact⟨cur,hblk⟩
theorem kept_ne'{w w3:World}{B e size n:Nat}{v:Value}{xs:List Value}{row:Option Nat}(h:w.ownsRow B e size v n xs)(hg:w.grownBy w3 row)(hr:∀b,row=some b->v.ownBlock≠some b):w3.ownsRow B e size v n xs:=by
 cases hv:v.ownBlock with
 |none=>exact h.kept hg (.inl hv)
 |some b=>exact h.kept hg (.inr (by rw[hv];intro e;exact hr b e.symm hv))
structure BMut (w:World) (bk:Nat) (r0 r1:Value) (R2:Nat) (E S:Nat->Nat) (d:Dc):Prop where
 lt:bk<w.heap.size
 c0:w.cell? ⟨bk,0,none⟩=some r0
 c1:w.cell? ⟨bk,1,none⟩=some r1
 c2:w.cell? ⟨bk,2,none⟩=some hashF
 c3:w.cell? ⟨bk,3,none⟩=some (.slice (some ⟨R2,0,none⟩) d.x d.x)
 c4:w.cell? ⟨bk,4,none⟩=some (.int .i64 d.used)
 c5:w.cell? ⟨bk,5,none⟩=some (.int .i64 d.live)
 c6:w.cell? ⟨bk,6,none⟩=some (.int .i64 d.turns)
 fz:∀q,w.frozen? ⟨bk,q,none⟩=false
 log:Rw w (bk+1) tEnt r0 d.n (fun i=>some ⟨E i,0,none⟩)
 ints:Rw w (bk+1) tEnt r1 d.m (fun i=>entP E (d.I i))
 rf:∃R1 k1,r1=.slice (some ⟨R1,0,none⟩) d.m k1
 slots:Rw w (bk+1) tSlt (.slice (some ⟨R2,0,none⟩) d.x d.x) d.x (fun j=>sltP S j (d.X j))
 ap:∀q,r0.ownBlock=some q->r1.ownBlock≠some q
 ent:∀i,i<d.n->ECell w (E i) (d.L i) i
 eb:∀i,i<d.n->bk<E i
 inj:∀i j,i<d.n->j<d.n->E i=E j->i=j
 sl:∀j,j<d.x->SlotIs w E S d j
 sg:∀j,j<d.x->d.X j≠0->bk<S j
theorem BMut.of_open{w:World}{B bk R0 R1 R2:Nat}{E S:Nat->Nat}{d:Dc}(h:Book w bk R0 R1 R2 E S d)(s:Strong w B bk R0 R1 R2 E S d)(hS:Small d):BMut w bk (.slice (some ⟨R0,0,none⟩) d.n d.n) (.slice (some ⟨R1,0,none⟩) d.m d.m) R2 E S d:=
 ⟨h.lt,s.e0,s.e1,h.c2,h.c3,h.c4,h.c5,h.c6,s.fz,s.o0.own s.g0 hS.n,s.o1.own s.g1 hS.m,⟨_,_,rfl⟩,s.o2.own s.g2 hS.x,fun q e e'=>by
  have e1:R0=q:=by simpa[Value.ownBlock]using e
  have e2:R1=q:=by simpa[Value.ownBlock]using e'
  exact s.r01 (e1.trans e2.symm),h.ent,s.gE,h.inj,h.sl,fun j hj h0=>Nat.lt_trans s.g2 (s.gS j hj h0)⟩
theorem BMut.r2_lt{w:World}{bk:Nat}{r0 r1:Value}{R2:Nat}{E S:Nat->Nat}{d:Dc}(h:BMut w bk r0 r1 R2 E S d):bk<R2/\R2<w.heap.size:=h.slots.lt R2 rfl
theorem BMut.book{w:World}{bk:Nat}{r0 r1:Value}{R2:Nat}{E S:Nat->Nat}{d:Dc}(h:BMut w bk r0 r1 R2 E S d):∃R0 R1,Book w bk R0 R1 R2 E S d:=by
 obtain⟨R1,k1,e1⟩:=h.rf
 have h1l:=h.ints.lt R1 (by rw[e1];rfl)
 have hi:∀i,i<d.m->w.cell? ⟨R1,i,none⟩=some (.pointer (entP E (d.I i))):=fun i hi=>by
  obtain⟨g,cp,e,_,_,_,hc,_⟩:=h.ints.form (by omega)
  rw[e1]at e
  cases e
  exact hc i hi
 have hx:∀j,j<d.x->w.cell? ⟨R2,j,none⟩=some (.pointer (sltP S j (d.X j))):=fun j hj=>by
  obtain⟨g,cp,e,_,_,_,hc,_⟩:=h.slots.form (by omega)
  cases e
  exact hc j hj
 by_cases hn:0<d.n
 ·obtain⟨g,cp,e,hB,hl,_,hc,_⟩:=h.log.form hn
  refine⟨g,R1,h.lt,⟨_,_,by rw[h.c0,e],fun _=>rfl⟩,⟨k1,by rw[h.c1,e1]⟩,h.c2,h.c3,h.c4,h.c5,h.c6,hc,h.ent,h.inj,hi,hx,h.sl,hl,h1l.2,h.r2_lt.2⟩
 ·obtain⟨a,cp,e⟩:=h.log.slice
  exact⟨bk,R1,h.lt,⟨_,_,by rw[h.c0,e],fun h'=>absurd h' hn⟩,⟨k1,by rw[h.c1,e1]⟩,h.c2,h.c3,h.c4,h.c5,h.c6,fun i hi=>by omega,h.ent,h.inj,hi,hx,h.sl,h.lt,h1l.2,h.r2_lt.2⟩
theorem SlotIs.keep{w w':World}{E S:Nat->Nat}{d:Dc}{j:Nat}(h:SlotIs w E S d j)(hs:w.heap.size<=w'.heap.size)(e:∀c,w.heap[S j]?=some (.cells c 333 (0,0))->w'.heap[S j]?=w.heap[S j]?):SlotIs w' E S d j:=
 ⟨fun hp=>(h.1 hp).keep hs (e _ (h.1 hp).ob),fun hp=>(h.2 hp).keep hs (e _ (h.2 hp).ob)⟩
theorem BMut.below{w w':World}{bk:Nat}{r0 r1:Value}{R2:Nat}{E S:Nat->Nat}{d:Dc}(h:BMut w bk r0 r1 R2 E S d)(hb:Below w.heap.size w w'):BMut w' bk r0 r1 R2 E S d:=by
 have e:∀q,w'.cell? ⟨bk,q,none⟩=w.cell? ⟨bk,q,none⟩:=fun q=>hb.cell (p:=⟨bk,q,none⟩) h.lt
 exact⟨Nat.lt_of_lt_of_le h.lt hb.size,(e _).trans h.c0,(e _).trans h.c1,(e _).trans h.c2,(e _).trans h.c3,(e _).trans h.c4,(e _).trans h.c5,(e _).trans h.c6,fun q=>(hb.frozen (p:=⟨bk,q,none⟩) h.lt).trans (h.fz q),own_block h.log hb.size (fun q _ hq=>hb.block q hq),own_block h.ints hb.size (fun q _ hq=>hb.block q hq),h.rf,own_block h.slots hb.size (fun q _ hq=>hb.block q hq),h.ap,fun i hi=>(h.ent i hi).keep hb.size (hb.block _ (h.ent i hi).lt),h.eb,h.inj,fun j hj=>(h.sl j hj).keep hb.size (fun c hc=>hb.block _ (Array.getElem?_eq_some_iff.1 hc).1),h.sg⟩
theorem BMut.of_same{w:World}{bk:Nat}{r0 r1:Value}{R2:Nat}{E S E':Nat->Nat}{d e:Dc}(h:BMut w bk r0 r1 R2 E S d)(n:e.n=d.n)(m:e.m=d.m)(x:e.x=d.x)(u:e.used=d.used)(l:e.live=d.live)(t:e.turns=d.turns)(I:∀i,i<d.m->e.I i=d.I i)(X:∀j,j<d.x->e.X j=d.X j)
  (L:∀i,i<d.n->e.L i=d.L i) (hE:∀i,i<d.n->E' i=E i) (hI:∀i,i<d.m->d.I i<=d.n) (hX:∀j,j<d.x->d.X j<=d.n):BMut w bk r0 r1 R2 E' S e:=by
 have eP:∀p:Int,p<=d.n->entP E' p=entP E p:=fun p hp=>by
  unfold entP
  by_cases h0:0<p
  ·rw[if_pos h0,if_pos h0,hE _ (by omega)]
  ·rw[if_neg h0,if_neg h0]
 refine⟨h.lt,h.c0,h.c1,h.c2,by rw[x];exact h.c3,by rw[u];exact h.c4,by rw[l];exact h.c5,by rw[t];exact h.c6,h.fz,?_,?_,by rw[m];exact h.rf,?_,h.ap,fun i hi=>?_,fun i hi=>?_,fun i j hi hj=>?_,fun j hj=>?_,fun j hj h0=>h.sg j (by omega) (by rw[<-X j (by omega)];exact h0)⟩
 ·show w.ownsRow _ _ _ _ e.n (ptL _ e.n)
  rw[n]
  exact h.log.congr (fun i hi=>by rw[hE i hi])
 ·show w.ownsRow _ _ _ _ e.m (ptL _ e.m)
  rw[m]
  exact h.ints.congr (fun i hi=>by rw[I i hi,eP _ (hI i hi)])
 ·rw[x]
  exact h.slots.congr (fun j hj=>by rw[X j hj])
 ·rw[n]at hi;rw[hE i hi,L i hi];exact h.ent i hi
 ·rw[n]at hi;rw[hE i hi];exact h.eb i hi
 ·rw[n]at hi hj;rw[hE i hi,hE j hj];exact h.inj i j hi hj
 ·rw[x]at hj
  have hs:=h.sl j hj
  unfold SlotIs at hs ⊢
  rw[X j hj]
  refine⟨fun hp=>?_,hs.2⟩
  have hl:=hX j hj
  have:e.at (d.X j)=d.at (d.X j):=L _ (by omega)
  rw[this,hE _ (by omega)]
  exact hs.1 hp
section
variable {w:World} {bk:Nat} {r0 r1:Value} {R2:Nat} {E S:Nat->Nat} {d:Dc}
theorem BMut.fld(h:BMut w bk r0 r1 R2 E S d){q:Nat}{u:Value}{s0 s1:Value}{Q2:Nat}{S':Nat->Nat}{e:Dc}
  (g0:(w.setCell ⟨bk,q,none⟩ u).cell? ⟨bk,0,none⟩=some s0) (g1:(w.setCell ⟨bk,q,none⟩ u).cell? ⟨bk,1,none⟩=some s1) (g2:(w.setCell ⟨bk,q,none⟩ u).cell? ⟨bk,2,none⟩=some hashF) (g3:(w.setCell ⟨bk,q,none⟩ u).cell? ⟨bk,3,none⟩=some (.slice (some ⟨Q2,0,none⟩) e.x e.x))
  (g4:(w.setCell ⟨bk,q,none⟩ u).cell? ⟨bk,4,none⟩=some (.int .i64 e.used)) (g5:(w.setCell ⟨bk,q,none⟩ u).cell? ⟨bk,5,none⟩=some (.int .i64 e.live)) (g6:(w.setCell ⟨bk,q,none⟩ u).cell? ⟨bk,6,none⟩=some (.int .i64 e.turns))
  (l:Rw w (bk+1) tEnt s0 e.n (fun i=>some ⟨E i,0,none⟩)) (i:Rw w (bk+1) tEnt s1 e.m (fun i=>entP E (e.I i))) (rf:∃R1 k1,s1=.slice (some ⟨R1,0,none⟩) e.m k1) (x:Rw w (bk+1) tSlt (.slice (some ⟨Q2,0,none⟩) e.x e.x) e.x (fun j=>sltP S' j (e.X j))) (ap:∀q,s0.ownBlock=some q->s1.ownBlock≠some q)
  (en:∀i,i<e.n->ECell w (E i) (e.L i) i) (eb:∀i,i<e.n->bk<E i) (inj:∀i j,i<e.n->j<e.n->E i=E j->i=j) (sl:∀j,j<e.x->SlotIs w E S' e j) (sb:∀j,j<e.x->e.X j≠0->bk<S' j):BMut (w.setCell ⟨bk,q,none⟩ u) bk s0 s1 Q2 E S' e:=by
 have ob:∀b,b≠bk->(w.setCell ⟨bk,q,none⟩ u).heap[b]?=w.heap[b]?:=fun b hb=>Deep.blk_setCell_other _ _ _ _ (by exact hb)
 have nb:∀{v:Value} {n:Nat} {f:Nat->Option Addr} {t:TypeId},Rw w (bk+1) t v n f->v.ownBlock≠some bk:=fun hh e=>by have:=(hh.lt bk e).1;omega
 have hsz:w.heap.size<=(w.setCell ⟨bk,q,none⟩ u).heap.size:=by simp
 refine⟨by simpa using h.lt,g0,g1,g2,g3,g4,g5,g6,fun p=>by rw[World.frozen?_setCell];exact h.fz p,World.ownsRow.kept l (grown_setCell w _ _) (.inr (nb l)),World.ownsRow.kept i (grown_setCell w _ _) (.inr (nb i)),rf,World.ownsRow.kept x (grown_setCell w _ _) (.inr (nb x)),ap,fun i hi=>(en i hi).keep hsz (ob _ (by have:=eb i hi;omega)),eb,inj,fun j hj=>?_,sb⟩
 by_cases h0:e.X j=0
 ·exact⟨fun hp=>by omega,fun hp=>by omega⟩
 ·exact(sl j hj).keep hsz (fun c _=>ob _ (by have:=sb j hj h0;omega))
theorem BMut.setUsed(h:BMut w bk r0 r1 R2 E S d)(u:Int):BMut (w.setCell ⟨bk,4,none⟩ (.int .i64 u)) bk r0 r1 R2 E S {d with used:=u}:=
 h.fld ((cell_set_other (by decide)).trans h.c0) ((cell_set_other (by decide)).trans h.c1) ((cell_set_other (by decide)).trans h.c2) ((cell_set_other (by decide)).trans h.c3) (World.cell?_setCell_same' _ _ _ (by rw[h.c4];rfl)) ((cell_set_other (by decide)).trans h.c5) ((cell_set_other (by decide)).trans h.c6) h.log h.ints h.rf h.slots h.ap h.ent h.eb h.inj h.sl h.sg
theorem BMut.setLive(h:BMut w bk r0 r1 R2 E S d)(u:Int):BMut (w.setCell ⟨bk,5,none⟩ (.int .i64 u)) bk r0 r1 R2 E S {d with live:=u}:=
 h.fld ((cell_set_other (by decide)).trans h.c0) ((cell_set_other (by decide)).trans h.c1) ((cell_set_other (by decide)).trans h.c2) ((cell_set_other (by decide)).trans h.c3) ((cell_set_other (by decide)).trans h.c4) (World.cell?_setCell_same' _ _ _ (by rw[h.c5];rfl)) ((cell_set_other (by decide)).trans h.c6) h.log h.ints h.rf h.slots h.ap h.ent h.eb h.inj h.sl h.sg
theorem BMut.setTurns(h:BMut w bk r0 r1 R2 E S d)(u:Int):BMut (w.setCell ⟨bk,6,none⟩ (.int .i64 u)) bk r0 r1 R2 E S {d with turns:=u}:=
 h.fld ((cell_set_other (by decide)).trans h.c0) ((cell_set_other (by decide)).trans h.c1) ((cell_set_other (by decide)).trans h.c2) ((cell_set_other (by decide)).trans h.c3) ((cell_set_other (by decide)).trans h.c4) ((cell_set_other (by decide)).trans h.c5) (World.cell?_setCell_same' _ _ _ (by rw[h.c6];rfl)) h.log h.ints h.rf h.slots h.ap h.ent h.eb h.inj h.sl h.sg
theorem BMut.setSlots(h:BMut w bk r0 r1 R2 E S d){Q2 x:Nat}{X:Nat->Int}(i:Rw w (bk+1) tSlt (.slice (some ⟨Q2,0,none⟩) x x) x (fun j=>sltP S j (X j)))(sl:∀j,j<x->SlotIs w E S {d with x:=x,X:=X} j)(sg:∀j,j<x->X j≠0->bk<S j):BMut (w.setCell ⟨bk,3,none⟩ (.slice (some ⟨Q2,0,none⟩) x x)) bk r0 r1 Q2 E S {d with x:=x,X:=X}:=
 h.fld ((cell_set_other (by decide)).trans h.c0) ((cell_set_other (by decide)).trans h.c1) ((cell_set_other (by decide)).trans h.c2) (World.cell?_setCell_same' _ _ _ (by rw[h.c3];rfl)) ((cell_set_other (by decide)).trans h.c4) ((cell_set_other (by decide)).trans h.c5) ((cell_set_other (by decide)).trans h.c6) h.log h.ints h.rf i h.ap h.ent h.eb h.inj sl sg
theorem BMut.row(h:BMut w bk r0 r1 R2 E S d){g q:Nat}{u:Value}(hg:bk<g){e:Dc}(hx:e.x=d.x)(hu:e.used=d.used)(hl:e.live=d.live)(ht:e.turns=d.turns)(hm:e.m=d.m)
  (l:Rw (w.setCell ⟨g,q,none⟩ u) (bk+1) tEnt r0 e.n (fun i=>some ⟨E i,0,none⟩)) (i:Rw (w.setCell ⟨g,q,none⟩ u) (bk+1) tEnt r1 e.m (fun i=>entP E (e.I i))) (x:Rw (w.setCell ⟨g,q,none⟩ u) (bk+1) tSlt (.slice (some ⟨R2,0,none⟩) e.x e.x) e.x (fun j=>sltP S j (e.X j)))
  (en:∀i,i<e.n->ECell (w.setCell ⟨g,q,none⟩ u) (E i) (e.L i) i) (eb:∀i,i<e.n->bk<E i) (inj:∀i j,i<e.n->j<e.n->E i=E j->i=j) (sl:∀j,j<e.x->SlotIs (w.setCell ⟨g,q,none⟩ u) E S e j) (sg:∀j,j<e.x->e.X j≠0->bk<S j):BMut (w.setCell ⟨g,q,none⟩ u) bk r0 r1 R2 E S e:=by
 have hc:∀p,(w.setCell ⟨g,q,none⟩ u).cell? ⟨bk,p,none⟩=w.cell? ⟨bk,p,none⟩:=fun p=>cell_set_block (by omega)
 exact⟨by simpa using h.lt,(hc _).trans h.c0,(hc _).trans h.c1,(hc _).trans h.c2,by rw[hx];exact(hc _).trans h.c3,by rw[hu];exact(hc _).trans h.c4,by rw[hl];exact(hc _).trans h.c5,by rw[ht];exact(hc _).trans h.c6,fun p=>by rw[World.frozen?_setCell];exact h.fz p,l,i,by rw[hm];exact h.rf,x,h.ap,en,eb,inj,sl,sg⟩
theorem kept_row{w:World}{B n g q:Nat}{t:TypeId}{v u:Value}{f:Nat->Option Addr}(h:Rw w B t v n f)(hne:v.ownBlock≠some g):Rw (w.setCell ⟨g,q,none⟩ u) B t v n f:=World.ownsRow.kept h (grown_setCell w _ _) (.inr hne)
theorem BMut.putI{R1 k1:Nat}(h:BMut w bk r0 (.slice (some ⟨R1,0,none⟩) d.m k1) R2 E S d){i:Nat}(hi:i<d.m)(x:Int):BMut (w.setCell ⟨R1,i,none⟩ (.pointer (entP E x))) bk r0 (.slice (some ⟨R1,0,none⟩) d.m k1) R2 E S {d with I:=upd d.I i x}:=by
 have hR:=h.ints.lt R1 rfl
 obtain⟨c1,hb1⟩:=h.ints.block (b:=R1) rfl
 obtain⟨c2,hb2⟩:=h.slots.block (b:=R2) rfl
 have hE:∀i,i<d.n->E i≠R1:=fun j hj e=>type_apart ((e▸(h.ent j hj).ob)) hb1 (by decide)
 have ob:∀b,b≠R1->(w.setCell ⟨R1,i,none⟩ (.pointer (entP E x))).heap[b]?=w.heap[b]?:=fun b hb=>Deep.blk_setCell_other _ _ _ _ (by exact hb)
 refine h.row hR.1 rfl rfl rfl rfl rfl (kept_row h.log (fun e=>h.ap R1 e rfl)) ?_ (kept_row h.slots (fun e=>?_)) (fun j hj=>(h.ent j hj).keep (by simp) (ob _ (hE j hj))) h.eb h.inj (fun j hj=>?_) h.sg
 ·refine(h.ints.set hi (entP E x)).congr (fun j hj=>?_)
  show entP E (upd d.I i x j)=upd (fun i=>entP E (d.I i)) i (entP E x) j
  by_cases e:j=i
  ·subst e;rw[upd_same,upd_same]
  ·rw[upd_other _ _ e,upd_other _ _ e]
 ·have e':R2=R1:=by simpa[Value.ownBlock]using e
  subst e'
  exact type_apart hb2 hb1 (by decide)
 ·refine(h.sl j hj).keep (by simp) (fun c hc=>ob _ (fun e=>?_))
  rw[e]at hc
  exact type_apart hc hb1 (by decide)
theorem BMut.putX(h:BMut w bk r0 r1 R2 E S d){j:Nat}(hj:j<d.x){x:Int}(hx:x≠0){A:Array Value}(hS:(0<x->A=sltA (d.L (x-1).toNat).key (E (x-1).toNat))/\(x<0->A=goneA)):
  BMut ((w.setCell ⟨R2,j,none⟩ (.pointer (some ⟨w.heap.size,0,none⟩))).alloc (.cells A 333)) bk r0 r1 R2 E (upd S j w.heap.size) {d with X:=upd d.X j x}:=by
 have hR:=h.r2_lt
 obtain⟨c2,hb2⟩:=h.slots.block (b:=R2) rfl
 have hsz:=h.lt
 obtain⟨W,hW⟩:∃W,W=(w.setCell ⟨R2,j,none⟩ (.pointer (some ⟨w.heap.size,0,none⟩))).alloc (.cells A 333):=⟨_,rfl⟩
 rw[<-hW]
 have hzW:W.heap.size=w.heap.size+1:=by rw[hW];simp
 have ob:∀b,b<w.heap.size->b≠R2->W.heap[b]?=w.heap[b]?:=fun b hb hb'=>by rw[hW];exact(Deep.blk_alloc_lt _ _ _ (by simpa using hb)).trans (Deep.blk_setCell_other _ _ _ _ (by exact hb'))
 have hnew:W.heap[w.heap.size]?=some (.cells A 333 (0,0)):=by
  rw[hW]
  have hg:=Deep.blk_alloc_new (w.setCell ⟨R2,j,none⟩ (.pointer (some ⟨w.heap.size,0,none⟩))) (.cells A 333)
  simpa using hg
 have gr:w.grownBy W (some R2):=⟨by rw[hW];rfl,by rw[hW];rfl,by rw[hW];rfl,by omega,fun k hk hne=>ob k hk (fun e=>hne (by rw[e]))⟩
 have hc:∀p,W.cell? ⟨bk,p,none⟩=w.cell? ⟨bk,p,none⟩:=fun p=>World.cell?_of_block (ob bk hsz (by omega))
 have kr:∀{v:Value} {n:Nat} {f:Nat->Option Addr},Rw w (bk+1) tEnt v n f->Rw W (bk+1) tEnt v n f:=fun{v n f} hh=>kept_ne' hh gr (fun b e e'=>by
  cases e
  obtain⟨c,hb⟩:=hh.block e'
  exact type_apart hb2 hb (by decide))
 have hE:∀i,i<d.n->E i≠R2:=fun i hi e=>type_apart (e▸(h.ent i hi).ob) hb2 (by decide)
 refine⟨by omega,(hc _).trans h.c0,(hc _).trans h.c1,(hc _).trans h.c2,(hc _).trans h.c3,(hc _).trans h.c4,(hc _).trans h.c5,(hc _).trans h.c6,fun q=>(World.frozen?_of_block (ob bk hsz (by omega))).trans (h.fz q),kr h.log,kr h.ints,h.rf,?_,h.ap,fun i hi=>(h.ent i hi).keep (by omega) (ob _ (h.ent i hi).lt (hE i hi)),h.eb,h.inj,fun i hi=>?_,fun i hi h0=>?_⟩
 ·have hs:=(h.slots.set hj (some ⟨w.heap.size,0,none⟩)).alloc (.cells A 333)
  rw[<-hW]at hs
  refine Rw.congr hs (fun i hi=>?_)
  show sltP (upd S j w.heap.size) i (upd d.X j x i)=upd (fun j=>sltP S j (d.X j)) j (some ⟨w.heap.size,0,none⟩) i
  by_cases e:i=j
  ·subst e
   rw[upd_same,upd_same]
   unfold sltP
   rw[if_neg hx,upd_same]
  ·rw[upd_other _ _ e,upd_other _ _ e]
   unfold sltP
   rw[upd_other _ _ e]
 ·unfold SlotIs
  show(0<upd d.X j x i->SCell W (upd S j w.heap.size i) (d.L (upd d.X j x i-1).toNat).key (E (upd d.X j x i-1).toNat))/\(upd d.X j x i<0->GCell W (upd S j w.heap.size i))
  by_cases e:i=j
  ·subst e
   rw[upd_same,upd_same]
   refine⟨fun hp=>?_,fun hp=>?_⟩
   ·have hA:=hS.1 hp
    subst hA
    exact⟨by omega,by simp[World.cell?,hnew],by simp[World.cell?,hnew],by simp[World.cell?,hnew],by simp[World.cell?,hnew],by simp[World.cell?,hnew],by simp[World.cell?,hnew],by simp[World.cell?,hnew],hnew⟩
   ·have hA:=hS.2 hp
    subst hA
    exact⟨by omega,by simp[World.cell?,hnew],hnew⟩
  ·rw[upd_other _ _ e,upd_other _ _ e]
   have hk:=(h.sl i hi).keep (w':=W) (by omega) (fun c hc=>ob _ (Array.getElem?_eq_some_iff.1 hc).1 (fun e'=>by rw[e']at hc;exact type_apart hc hb2 (by decide)))
   exact hk
 ·by_cases e:i=j
  ·subst e;rw[upd_same];exact hsz
  ·rw[upd_other _ _ e]
   exact h.sg i hi (by have h0':upd d.X j x i≠0:=h0;rwa [upd_other _ _ e]at h0')
end
end
section
open Go.RowKit
attribute [local go_sem] run_store_float run_equalIn_float
def looseK(d:Dc):Prop:=8<=d.n/\2*d.live<(d.n:Int)
theorem isLoose_any(bk:Nat)(r0 r1:Value)(R2:Nat)(E S:Nat->Nat)(d:Dc)(w:World)(hM:BMut w bk r0 r1 R2 E S d)(hS:Small d)(hl:0<=d.live)(hl':d.live<=500):
  Calls Tryz.prog 293 #[.pointer (some ⟨bk,0,none⟩)] w fun e w'=>e=.returned (.bool (tells (looseK d)))/\Below w.heap.size w w':=by
 obtain⟨a,cp,rfl⟩:=hM.log.slice
 have c0:=hM.c0
 have c5:=hM.c5
 have hlt:=hM.lt
 have hn:=hS.n
 clear hM hS
 by_cases h8:(8:Int)<=d.n
 case neg=>
  have HT:=uy (tells_no (p:=looseK d) (fun h=>h8 (by have:=h.1;omega)))
  have h8':decide ((8:Int)<=d.n)=false:=by simp;omega
  go_enter Tryz.func293,Tryz.ntmps293
  go_wp2
  go_region
  go_wp2
  go_ret
  exact⟨by rw[uh HT];rfl,(Below.refl _ _).drew⟩
 have h8':decide ((8:Int)<=d.n)=true:=by simp;omega
 by_cases h2:2*d.live<(d.n:Int)
 ·have HT:=uy (tells_yes (p:=looseK d) ⟨by omega,h2⟩)
  have h2':decide (2*d.live<(d.n:Int))=true:=by simp;omega
  go_enter Tryz.func293,Tryz.ntmps293
  go_wp2
  go_region
  go_wp2
  go_ret
  exact⟨by rw[uh HT];rfl,(Below.refl _ _).drew⟩
 ·have HT:=uy (tells_no (p:=looseK d) (fun h=>h2 h.2))
  have h2':decide (2*d.live<(d.n:Int))=false:=by simp;omega
  go_enter Tryz.func293,Tryz.ntmps293
  go_wp2
  go_region
  go_wp2
  go_ret
  exact⟨by rw[uh HT];rfl,(Below.refl _ _).drew⟩
theorem indexSize_any(n:Nat)(w:World)(hn:n<=500):
  Calls Tryz.prog 315 #[.int .i64 (n:Int)] w fun e w'=>e=.returned (.int .i64 ((if n=0 then 0 else sizeFor n:Nat):Int))/\Below w.heap.size w w':=by
 by_cases h0:n=0
 ·subst h0
  go_enter Tryz.func315,Tryz.ntmps315
  go_wp2
  go_ret
  exact⟨rfl,Below.refl _ _⟩
 have HR:Hid ((if n=0 then 0 else sizeFor n:Nat)=sizeGo 9 8 (4*n)):=uy (if_neg h0)
 have h0':((n:Int)==0)=false:=by simp;omega
 go_enter Tryz.func315,Tryz.ntmps315
 go_wp2
 go_loopw [3] (fun i wr=>∃(k s:Nat),k<=9/\i=.int .i64 (s:Int)/\s<=4000/\8<=s/\2000<=s*2^k/\sizeGo 9 8 (4*n)=sizeGo k s (4*n)/\Below w.heap.size w wr) (fun i _=>4000-(intOf i).toNat)
 case atStart=>exact⟨9,8,by omega,rfl,by omega,by omega,by decide,rfl,Below.refl _ _⟩
 case round=>
  obtain⟨k,s,hk,rfl,hs,hs8,h2,hg,hb⟩:=hrel
  by_cases hlt:s<4*n
  ·obtain⟨k',rfl⟩:∃k',k=k'+1:=⟨k-1,by
    cases k with
    |zero=>simp at h2;omega
    |succ k=>omega⟩
   have HG:Hid (sizeGo 9 8 (4*n)=sizeGo k' (2*s) (4*n)):=uy (hg.trans (if_pos hlt))
   have H2:Hid (2000<=2*s*2^k'):=uy (by rw[Nat.pow_succ]at h2;calc 2000<=s*(2^k'*2):=h2
    _=2*s*2^k':=by rw[Nat.mul_comm (2^k') 2,<-Nat.mul_assoc,Nat.mul_comm s 2])
   have HB:=uy hb
   clear hg h2 hb
   go_wp2
   go_roundw
   case rel=>exact⟨k',2*s,by omega,by go_num,by omega,by omega,uh H2,uh HG,uh HB⟩
   case measure=>simp[intOf];omega
  ·have HG:Hid (sizeGo 9 8 (4*n)=s):=uy (hg.trans (by cases k with
    |zero=>rfl
    |succ k=>exact if_neg hlt))
   have HB:=uy hb
   clear hg h2 hb
   go_wp2
   go_ret
   exact⟨by rw[show sizeFor n=s from uh HG];rfl,uh HB⟩
end
section
open Go.RowKit Go.Shelf
attribute [local go_sem] run_store_float run_equalIn_float Oper.semAt_some
theorem BMut.grown{w w':World}{bk:Nat}{r0 r1:Value}{R2:Nat}{E S:Nat->Nat}{d:Dc}{row:Option Nat}(h:BMut w bk r0 r1 R2 E S d)(hg:w.grownBy w' row)(hr:∀r,row=some r->∃o:Obj,w.heap[r]?=some o/\o.isCells=false):BMut w' bk r0 r1 R2 E S d:=by
 have ne:∀{b:Nat} {c:Array Value} {t:TypeId} {fr:Nat×Nat},w.heap[b]?=some (.cells c t fr)->w'.heap[b]?=w.heap[b]?:=fun{b c t fr} hb=>hg.block b (Array.getElem?_eq_some_iff.1 hb).1 (fun e=>by
  obtain⟨o,ho,hc⟩:=hr b e.symm
  rw[hb]at ho
  cases ho
  cases hc)
 have kr:∀{t:TypeId} {v:Value} {n:Nat} {f:Nat->Option Addr},Rw w (bk+1) t v n f->Rw w' (bk+1) t v n f:=fun{t v n f} hh=>kept_ne' hh hg (fun b e e'=>by
  obtain⟨c,hb⟩:=hh.block e'
  obtain⟨o,ho,hc⟩:=hr b e
  rw[hb]at ho
  cases ho
  cases hc)
 exact⟨Nat.lt_of_lt_of_le h.lt hg.size,cell_kept h.c0 hg hr,cell_kept h.c1 hg hr,cell_kept h.c2 hg hr,cell_kept h.c3 hg hr,cell_kept h.c4 hg hr,cell_kept h.c5 hg hr,cell_kept h.c6 hg hr,fun q=>(World.frozen?_of_block (a:=⟨bk,q,none⟩) (by
  have hc:=h.c0
  unfold World.cell? at hc
  cases hb:w.heap[bk]? with
  |none=>simp[hb]at hc
  |some o=>
   cases o with
   |cells c t fr=>rw[<-hb];exact ne hb
   |_=>simp[hb]at hc)).trans (h.fz q),kr h.log,kr h.ints,h.rf,kr h.slots,h.ap,fun i hi=>(h.ent i hi).keep hg.size (ne (h.ent i hi).ob),h.eb,h.inj,fun j hj=>(h.sl j hj).keep hg.size (fun c hc=>ne hc),h.sg⟩
end
section
open Go.RowKit Go.Shelf
attribute [local go_sem] run_store_float run_equalIn_float Oper.semAt_some
structure KX (M:Nat->Prop) (n:Nat) (A B:World):Prop where
 bel:Below n A B
 blk:∀b,b<A.heap.size->¬M b->B.heap[b]?=A.heap[b]?
theorem KX.refl(M:Nat->Prop)(n:Nat)(A:World):KX M n A A:=⟨Below.refl _ _,fun _ _ _=>rfl⟩
theorem KX.trans{M:Nat->Prop}{n:Nat}{A B C:World}(h:KX M n A B)(k:KX M n B C):KX M n A C:=⟨h.bel.trans k.bel,fun b hb hm=>(k.blk b (Nat.lt_of_lt_of_le hb h.bel.size) hm).trans (h.blk b hb hm)⟩
theorem KX.mono{M M':Nat->Prop}{n:Nat}{A B:World}(h:KX M n A B)(e:∀b,b<A.heap.size->M b->M' b):KX M' n A B:=⟨h.bel,fun b hb hm=>h.blk b hb (fun hM=>hm (e b hb hM))⟩
theorem KX.of_below{M:Nat->Prop}{n:Nat}{A B:World}(h:Below A.heap.size A B)(hn:n<=A.heap.size):KX M n A B:=⟨h.mono hn,fun b hb _=>h.block b hb⟩
theorem KX.setCell{M:Nat->Prop}{n:Nat}{A B:World}(h:KX M n A B){g q:Nat}(hg:n<=g)(hM:g<A.heap.size->M g)(u:Value):KX M n A (B.setCell ⟨g,q,none⟩ u):=
 ⟨h.bel.setCell (by exact hg) _,fun b hb hm=>(Deep.blk_setCell_other _ _ _ _ (by intro e;have e:b=g:=e;subst e;exact hm (hM hb))).trans (h.blk b hb hm)⟩
theorem KX.alloc{M:Nat->Prop}{n:Nat}{A B:World}(h:KX M n A B)(hn:n<=A.heap.size)(o:Obj):KX M n A (B.alloc o):=
 ⟨h.bel.alloc (Nat.le_trans hn h.bel.size) _,fun b hb hm=>(Deep.blk_alloc_lt _ _ _ (Nat.lt_of_lt_of_le hb h.bel.size)).trans (h.blk b hb hm)⟩
theorem KX.drew{M:Nat->Prop}{n:Nat}{A B:World}(h:KX M n A B):KX M n A B.drew:=⟨h.bel.drew,h.blk⟩
theorem KX.grown{M:Nat->Prop}{n:Nat}{A B C:World}{row:Option Nat}(h:KX M n A B)(hg:B.grownBy C row)(hn:n<=A.heap.size)(hr:∀r,row=some r->A.heap.size<=r\/(n<=r/\M r)):KX M n A C:=
 ⟨h.bel.grown hg (Nat.le_trans hn h.bel.size) (fun k e=>by rcases hr k e with h'|h'<;>omega),fun b hb hm=>(hg.block b (Nat.lt_of_lt_of_le hb h.bel.size) (fun e=>by
  rcases hr b e.symm with h'|h'
  ·omega
  ·exact hm h'.2)).trans (h.blk b hb hm)⟩
def HeldA(n0 bk R2 x:Nat)(k:Vl)(e:Nat)(W:World):Prop:=
 W.cell? ⟨n0,0,none⟩=some (.pointer (some ⟨bk,2,none⟩))/\W.cell? ⟨bk,3,none⟩=some (.slice (some ⟨R2,0,none⟩) x x)/\W.cell? ⟨n0+1,0,none⟩=some (.int .i64 k.kind)/\W.cell? ⟨n0+1,1,none⟩=some (.int .i64 k.num)/\W.cell? ⟨n0+1,2,none⟩=some (.float .f64 k.flt)/\W.cell? ⟨n0+1,3,none⟩=some (.string k.str)/\W.cell? ⟨n0+1,4,none⟩=some (.int .i64 k.ref)/\W.cell? ⟨n0+1+1,0,none⟩=some (.pointer (some ⟨e,0,none⟩))
theorem HeldA.block{n0 bk R2 x e:Nat}{k:Vl}{W W':World}(h:HeldA n0 bk R2 x k e W)(hb:∀b,b<n0+3->b=n0\/b=n0+1\/b=n0+1+1\/b=bk->W'.heap[b]?=W.heap[b]?)(hl:bk<n0):HeldA n0 bk R2 x k e W':=by
 obtain⟨s0,s1,s2,s3,s4,s5,s6,s7⟩:=h
 have k0:=hb n0 (by omega) (by omega)
 have k1:=hb (n0+1) (by omega) (by omega)
 have k2:=hb (n0+1+1) (by omega) (by omega)
 have k3:=hb bk (by omega) (by omega)
 exact⟨(World.cell?_of_block k0).trans s0,(World.cell?_of_block k3).trans s1,(World.cell?_of_block k1).trans s2,(World.cell?_of_block k1).trans s3,(World.cell?_of_block k1).trans s4,(World.cell?_of_block k1).trans s5,(World.cell?_of_block k1).trans s6,(World.cell?_of_block k2).trans s7⟩
theorem indexAdd_any(T:World->Prop)(hTl:Lasts T)(bk:Nat)(r0 r1:Value)(R2:Nat)(E S:Nat->Nat)(d:Dc)(k:Vl)(p h:Nat)(hh:HsI T k h)(w:World)(hT:T w)(hM:BMut w bk r0 r1 R2 E S d)(hS:Small d)(hX:∀j,j<d.x->d.X j=0\/d.X j=-1\/0<d.X j)(hk:(d.L p).key=k)(hu:useN d.X d.x<d.x)(hu0:0<=d.used)(hu1:d.used<=4194304):
  Calls Tryz.prog 307 #[.pointer (some ⟨bk,2,none⟩),V k.kind k.num k.flt k.str k.ref,.pointer (some ⟨E p,0,none⟩)] w fun e w'=>((∃u,e=.returned u)/\∃a S',freeSlot d.x d.X (h%d.x)=some a/\BMut w' bk r0 r1 R2 E S' {d with X:=upd d.X a ((p:Int)+1),used:=if d.X a=0 then d.used+1 else d.used})/\KX (fun b=>b=bk\/b=R2) bk w w':=by
 have hx:=hS.x
 refine(callsIn_wide (n:=10)).1 ?_
 refine callsIn_of_wp_marks Tryz.func307 rfl trivial ?_ rfl
 simp only[Tryz.ntmps307,List.size_toArray,List.length_cons,List.length_nil,Nat.reduceAdd,Nat.reduceSub,Array.replicate_succ,Array.replicate_zero,List.push_toArray,List.append_toArray,List.nil_append,List.cons_append]
 gi_wp2_with (refine⟨trivial,?_⟩;gi_at_call 297;refine(callsIn_wide.2 (from_any (some ⟨bk,2,none⟩) k _)).mono ?_;rintro e w' ⟨rfl,rfl⟩)
 obtain⟨u,hu'⟩:∃u,u=((((w.alloc (.cells #[.pointer (some ⟨bk,2,none⟩)] 377)).alloc (.cells #[.int .i64 k.kind,.int .i64 k.num,.float .f64 k.flt,.string k.str,.int .i64 k.ref] 43)).alloc (.cells #[.pointer (some ⟨E p,0,none⟩)] 292)).alloc (.cells #[.pointer (some ⟨bk,2,none⟩)] 377)).alloc (.cells #[.int .i64 k.kind,.int .i64 k.num,.float .f64 k.flt,.string k.str,.int .i64 k.ref] 43):=⟨_,rfl⟩
 rw[<-hu']
 have zu:u.heap.size=w.heap.size+5:=by rw[hu'];simp
 have bu:Below w.heap.size w u:=by rw[hu'];exact(((((Below.refl _ _).alloc (Nat.le_refl _) _).alloc (by simp) _).alloc (by simp;omega) _).alloc (by simp;omega) _).alloc (by simp;omega) _
 have n0:u.cell? ⟨w.heap.size,0,none⟩=some (.pointer (some ⟨bk,2,none⟩)):=by rw[hu'];simp[go_sem]
 have i0:u.cell? ⟨w.heap.size+1,0,none⟩=some (.int .i64 k.kind):=by rw[hu'];simp[go_sem]
 have i1:u.cell? ⟨w.heap.size+1,1,none⟩=some (.int .i64 k.num):=by rw[hu'];simp[go_sem]
 have i2:u.cell? ⟨w.heap.size+1,2,none⟩=some (.float .f64 k.flt):=by rw[hu'];simp[go_sem]
 have i3:u.cell? ⟨w.heap.size+1,3,none⟩=some (.string k.str):=by rw[hu'];simp[go_sem]
 have i4:u.cell? ⟨w.heap.size+1,4,none⟩=some (.int .i64 k.ref):=by rw[hu'];simp[go_sem]
 have r0':u.cell? ⟨w.heap.size+1+1,0,none⟩=some (.pointer (some ⟨E p,0,none⟩)):=by rw[hu'];simp[go_sem]
 have m0:u.cell? ⟨w.heap.size+1+1+1,0,none⟩=some (.pointer (some ⟨bk,2,none⟩)):=by rw[hu'];simp[go_sem]
 have j0:u.cell? ⟨w.heap.size+1+1+1+1,0,none⟩=some (.int .i64 k.kind):=by rw[hu'];simp[go_sem]
 have j1:u.cell? ⟨w.heap.size+1+1+1+1,1,none⟩=some (.int .i64 k.num):=by rw[hu'];simp[go_sem]
 have j2:u.cell? ⟨w.heap.size+1+1+1+1,2,none⟩=some (.float .f64 k.flt):=by rw[hu'];simp[go_sem]
 have j3:u.cell? ⟨w.heap.size+1+1+1+1,3,none⟩=some (.string k.str):=by rw[hu'];simp[go_sem]
 have j4:u.cell? ⟨w.heap.size+1+1+1+1,4,none⟩=some (.int .i64 k.ref):=by rw[hu'];simp[go_sem]
 have hMu:=hM.below bu
 have hTu:=hTl _ _ hT bu
 have hbkw:=hM.lt
 have hR2w:=hM.r2_lt
 have hbs:∀(W:World),Below w.heap.size w W->bk<W.heap.size:=fun W h=>Nat.lt_of_lt_of_le hbkw h.size
 clear hu'
 refine wpIn_rangeFunc_ownF rfl (by decide) (gf:=308) (lb:=#[.pointer (some ⟨w.heap.size+1+1+1,0,none⟩),.pointer (some ⟨w.heap.size+1+1+1+1,0,none⟩)]) rfl trivial (enters_of Tryz.func308 (by kernel_rfl) rfl)
  (from_stops 9 (by decide) T hTl bk R2 (w.heap.size+1+1+1) (w.heap.size+1+1+1+1) d k h w.heap.size hh u hTu hx m0 hMu.c2 hMu.c3 j0 j1 j2 j3 j4) belowK_t (belowK_b (by omega)) (Below.refl _ _) (fun _=>rfl)
  (fun pre W=>((∀y∈pre,0<d.X y.1)/\W.cell? ⟨w.heap.size,0,none⟩=some (.pointer (some ⟨bk,2,none⟩))/\W.cell? ⟨w.heap.size+1,0,none⟩=some (.int .i64 k.kind)/\W.cell? ⟨w.heap.size+1,1,none⟩=some (.int .i64 k.num)/\W.cell? ⟨w.heap.size+1,2,none⟩=some (.float .f64 k.flt)/\W.cell? ⟨w.heap.size+1,3,none⟩=some (.string k.str)/\W.cell? ⟨w.heap.size+1,4,none⟩=some (.int .i64 k.ref)/\W.cell? ⟨w.heap.size+1+1,0,none⟩=some (.pointer (some ⟨E p,0,none⟩)))/\Below w.heap.size w W)
  (fun c pre W=>(c=.ret/\(∃pre' a,pre=pre'++[a]/\(∀y∈pre',0<d.X y.1)/\d.X a.1<=0/\∃S',BMut W bk r0 r1 R2 E S' {d with X:=upd d.X a.1 ((p:Int)+1),used:=if d.X a.1=0 then d.used+1 else d.used}))/\KX (fun b=>b=bk\/b=R2) bk w W)
  (OwnFrom.and (Own.from (fun s A B row hs hg hr=>⟨hs.1,cell_kept hs.2.1 hg hr,cell_kept hs.2.2.1 hg hr,cell_kept hs.2.2.2.1 hg hr,cell_kept hs.2.2.2.2.1 hg hr,cell_kept hs.2.2.2.2.2.1 hg hr,cell_kept hs.2.2.2.2.2.2.1 hg hr,cell_kept hs.2.2.2.2.2.2.2 hg hr⟩) _) (ownFrom_below (Nat.le_refl _) (by omega)))
  (fun c=>OwnFrom.and (Own.from (fun s A B row hs hg hr=>⟨hs.1,by obtain⟨pre',a,h1,h2,h3,S',h4⟩:=hs.2;exact⟨pre',a,h1,h2,h3,S',h4.grown hg hr⟩⟩) _) (fun s W W' row hs hg hr=>hs.grown hg (by omega) (fun k e=>.inl (by have:=(hr k e).1;omega))))
  ⟨⟨by simp,n0,i0,i1,i2,i3,i4,r0'⟩,bu⟩
  ?a1 ?assign ?body ?done ?stop
 case assign=>
  intro l x W K hK
  gi_wp2
  exact hK
 case body=>
  rintro l pre ⟨a,ha⟩ W ⟨⟨hp,g0,e0,e1,e2,e3,e4,s0⟩,hBW⟩ _
  have hMW:=hM.below hBW
  have c3:=hMW.c3
  have c4:=hMW.c4
  have f4:=hMW.fz 4
  obtain⟨g',cp',e',_,lR,_,hpc,hpf⟩:=hMW.slots.form (by omega)
  cases e'
  have p0:=hpc a ha
  have q0:=hpf a
  have hsl:=hMW.sl a ha
  have lW:bk<W.heap.size:=hMW.lt
  have nR:R2≠bk:=by have:=hMW.r2_lt.1;omega
  have nR':bk≠R2:=fun e=>nR e.symm
  have z0:=World.block_lt_of_cell? _ _ g0
  have z1:=World.block_lt_of_cell? _ _ e0
  have z2:=World.block_lt_of_cell? _ _ s0
  dsimp only at z0 z1 z2
  have HP:=uy hp
  have HBW:=uy hBW
  have HMW:=uy hMW
  have HK:=uy hk
  have bR2:=hMW.r2_lt.1
  clear hp hBW n0 i0 i1 i2 i3 i4 r0' m0 j0 j1 j2 j3 j4 hMu hTu bu zu hM hT hh hTl hpc hpf hMW
  have hxa:=hX a ha
  clear hX
  rcases hxa with hs|hs|hs
  ·rw[show sltP S a (d.X a)=none from if_pos hs]at p0
   have hN0:=(((uh HMW).setUsed (d.used+1)).putX (x:=(p:Int)+1) ha (by omega) (A:=sltA k (E p)) ⟨fun _=>by show _=sltA (d.L ((p:Int)+1-1).toNat).key _;rw[show((p:Int)+1-1).toNat=p by omega,uh HK],fun h=>by omega⟩)
   rw[show(W.setCell ⟨bk,4,none⟩ (.int .i64 (d.used+1))).heap.size=W.heap.size by simp]at hN0
   have HN:=uy hN0
   clear hN0
   have HX:Hid (d.X a=0):=uy hs
   clear hsl hs
   gi_wp2
   refine wpInR_held (HeldA w.heap.size bk R2 d.x k (E p)) (by kernel_rfl) (by kernel_rfl) ?_
   change wpAnyH _ _ _ _ _ _ _ _ (World.drew _)
   have hz:∀b q,bk≠b->(W.setCell ⟨bk,4,none⟩ (.int .i64 (d.used+1))).cell? ⟨b,q,none⟩=W.cell? ⟨b,q,none⟩:=fun b q h=>cell_set_block h
   have hS0:HeldA w.heap.size bk R2 d.x k (E p) (W.setCell ⟨bk,4,none⟩ (.int .i64 (d.used+1))).drew:=⟨(hz _ _ (by omega)).trans g0,(cell_set_other (by decide)).trans c3,(hz _ _ (by omega)).trans e0,(hz _ _ (by omega)).trans e1,(hz _ _ (by omega)).trans e2,(hz _ _ (by omega)).trans e3,(hz _ _ (by omega)).trans e4,(hz _ _ (by omega)).trans s0⟩
   clear hz
   refine tq 0 (v:=?_) ?_ ?_;rotate_left;intro w' ⟨s0,s1,s2,s3,s4,s5,s6,s7⟩;go_simp;try with_reducible rfl
   simp only[Act.put,sA,sB,sC]
   refine tq 1 (v:=?_) ?_ ?_;rotate_left;intro w' ⟨s0,s1,s2,s3,s4,s5,s6,s7⟩;go_simp;try with_reducible rfl
   simp only[Act.put,sA,sB,sC]
   refine tq 2 (v:=?_) ?_ ?_;rotate_left;intro w' ⟨s0,s1,s2,s3,s4,s5,s6,s7⟩;go_simp;try with_reducible rfl
   simp only[Act.put,sA,sB,sC]
   refine tq 3 (v:=?_) ?_ ?_;rotate_left;intro w' ⟨s0,s1,s2,s3,s4,s5,s6,s7⟩;go_simp;try with_reducible rfl
   simp only[Act.put,sA,sB,sC]
   refine tq 4 (v:=?_) ?_ ?_;rotate_left;intro w' ⟨s0,s1,s2,s3,s4,s5,s6,s7⟩;go_simp;try with_reducible rfl
   simp only[Act.put,sA,sB,sC]
   refine tq 5 (v:=?_) ?_ ?_;rotate_left;intro w' ⟨s0,s1,s2,s3,s4,s5,s6,s7⟩;go_simp;try with_reducible rfl
   simp only[Act.put,sA,sB,sC]
   refine tq 6 (v:=?_) ?_ ?_;rotate_left;intro w' ⟨s0,s1,s2,s3,s4,s5,s6,s7⟩;go_simp;try with_reducible rfl
   simp only[Act.put,sA,sB,sC]
   refine tq 7 (v:=?_) ?_ ?_;rotate_left;intro w' ⟨s0,s1,s2,s3,s4,s5,s6,s7⟩;go_simp;try with_reducible rfl
   simp only[Act.put,sA,sB,sC]
   refine wpAnyH_ready (rs:=[8]) (by kernel_rfl) (by simp) ?_
   refine AllReadyH.cons rfl (fun K hK=>?_) AllReadyH.nil
   go_simp
   refine hK.out _ _ ?_ (fun hS1=>?_)
   ·exact hS0.block (fun b hb _=>Deep.blk_alloc_lt _ _ _ (by show b<(W.setCell _ _).heap.size;simp;omega)) hbkw
   clear hK K
   refine tq 9 (v:=?_) ?_ ?_;rotate_left;intro w' ⟨s0,s1,s2,s3,s4,s5,s6,s7⟩;go_simp;try with_reducible rfl
   simp only[Act.put,sA,sB,sC]
   refine wpAnyH_ready (rs:=[10]) (by kernel_rfl) (by simp) ?_
   refine AllReadyH.cons rfl (fun K hK=>?_) AllReadyH.nil
   go_simp
   refine hK.out _ _ ?_ (fun hS2=>?_)
   ·exact hS0.block (fun b hb h=>(Deep.blk_alloc_lt _ _ _ (by simp;omega)).trans (Deep.blk_setCell_other _ _ _ _ (by show b≠R2;omega))) hbkw
   clear hK K
   refine wpAnyH_done (by kernel_rfl) ?_ _
   refine QN.normal ?_
   gi_wp2
   exact⟨(((KeepsOthers.setCell _ _ _).trans (KeepsOthers.setCell _ _ _)).trans (KeepsOthers.alloc _ _)).trans (KeepsOthers.drew _),⟨rfl,pre,⟨a,ha⟩,rfl,uh HP,by have:=uh HX;show d.X a<=0;omega,_,by rw[if_pos (uh HX)];exact(uh HN).below (Below.refl _ _).drew⟩,(((((KX.of_below (uh HBW) (by omega)).setCell (Nat.le_refl _) (fun _=>.inl rfl) _).setCell (by omega) (fun _=>.inr rfl) _).alloc (by omega) _).drew)⟩
  ·rw[show sltP S a (d.X a)=some ⟨S a,0,none⟩from if_neg (by omega)]at p0
   obtain⟨hsz,hgn⟩:=hsl.2 (by omega)
   have HN:=uy ((uh HMW).putX (x:=(p:Int)+1) ha (by omega) (A:=sltA k (E p)) ⟨fun _=>by show _=sltA (d.L ((p:Int)+1-1).toNat).key _;rw[show((p:Int)+1-1).toNat=p by omega,uh HK],fun h=>by omega⟩)
   have HX:Hid (d.X a≠0/\d.X a<=0):=uy (by omega)
   clear hsl hs
   gi_wp2
   refine wpInR_held (HeldA w.heap.size bk R2 d.x k (E p)) (by kernel_rfl) (by kernel_rfl) ?_
   change wpAnyH _ _ _ _ _ _ _ _ (World.drew _)
   have hS0:HeldA w.heap.size bk R2 d.x k (E p) W.drew:=⟨g0,c3,e0,e1,e2,e3,e4,s0⟩
   refine tq 0 (v:=?_) ?_ ?_;rotate_left;intro w' ⟨s0,s1,s2,s3,s4,s5,s6,s7⟩;go_simp;try with_reducible rfl
   simp only[Act.put,sA,sB,sC]
   refine tq 1 (v:=?_) ?_ ?_;rotate_left;intro w' ⟨s0,s1,s2,s3,s4,s5,s6,s7⟩;go_simp;try with_reducible rfl
   simp only[Act.put,sA,sB,sC]
   refine tq 2 (v:=?_) ?_ ?_;rotate_left;intro w' ⟨s0,s1,s2,s3,s4,s5,s6,s7⟩;go_simp;try with_reducible rfl
   simp only[Act.put,sA,sB,sC]
   refine tq 3 (v:=?_) ?_ ?_;rotate_left;intro w' ⟨s0,s1,s2,s3,s4,s5,s6,s7⟩;go_simp;try with_reducible rfl
   simp only[Act.put,sA,sB,sC]
   refine tq 4 (v:=?_) ?_ ?_;rotate_left;intro w' ⟨s0,s1,s2,s3,s4,s5,s6,s7⟩;go_simp;try with_reducible rfl
   simp only[Act.put,sA,sB,sC]
   refine tq 5 (v:=?_) ?_ ?_;rotate_left;intro w' ⟨s0,s1,s2,s3,s4,s5,s6,s7⟩;go_simp;try with_reducible rfl
   simp only[Act.put,sA,sB,sC]
   refine tq 6 (v:=?_) ?_ ?_;rotate_left;intro w' ⟨s0,s1,s2,s3,s4,s5,s6,s7⟩;go_simp;try with_reducible rfl
   simp only[Act.put,sA,sB,sC]
   refine tq 7 (v:=?_) ?_ ?_;rotate_left;intro w' ⟨s0,s1,s2,s3,s4,s5,s6,s7⟩;go_simp;try with_reducible rfl
   simp only[Act.put,sA,sB,sC]
   refine wpAnyH_ready (rs:=[8]) (by kernel_rfl) (by simp) ?_
   refine AllReadyH.cons rfl (fun K hK=>?_) AllReadyH.nil
   go_simp
   refine hK.out _ _ ?_ (fun hS1=>?_)
   ·exact hS0.block (fun b hb _=>Deep.blk_alloc_lt _ _ _ (by show b<W.heap.size;omega)) hbkw
   clear hK K
   refine tq 9 (v:=?_) ?_ ?_;rotate_left;intro w' ⟨s0,s1,s2,s3,s4,s5,s6,s7⟩;go_simp;try with_reducible rfl
   simp only[Act.put,sA,sB,sC]
   refine wpAnyH_ready (rs:=[10]) (by kernel_rfl) (by simp) ?_
   refine AllReadyH.cons rfl (fun K hK=>?_) AllReadyH.nil
   go_simp
   refine hK.out _ _ ?_ (fun hS2=>?_)
   ·exact hS0.block (fun b hb h=>(Deep.blk_alloc_lt _ _ _ (by simp;omega)).trans (Deep.blk_setCell_other _ _ _ _ (by show b≠R2;omega))) hbkw
   clear hK K
   refine wpAnyH_done (by kernel_rfl) ?_ _
   refine QN.normal ?_
   gi_wp2
   exact⟨((KeepsOthers.setCell _ _ _).trans (KeepsOthers.alloc _ _)).trans (KeepsOthers.drew _),⟨rfl,pre,⟨a,ha⟩,rfl,uh HP,by have:=uh HX;show d.X a<=0;omega,_,by rw[if_neg (uh HX).1];exact(uh HN).below (Below.refl _ _).drew⟩,((((KX.of_below (uh HBW) (by omega)).setCell (by omega) (fun _=>.inr rfl) _).alloc (by omega) _).drew)⟩
  ·rw[show sltP S a (d.X a)=some ⟨S a,0,none⟩from if_neg (by omega)]at p0
   obtain⟨hsz,f0,f1,f2,f3,f4',f5,f6⟩:=hsl.1 hs
   have HX:=uy hs
   clear hsl hs
   gi_wp2
   exact⟨KeepsOthers.refl _,Below.refl _ _,⟨fun y hy=>(List.mem_append.1 hy).elim (uh HP y) (fun e=>by simp at e;subst e;exact uh HX),g0,e0,e1,e2,e3,e4,s0⟩,uh HBW⟩
 case done=>
  rintro D ys W hD hsq ⟨⟨hp,_⟩,hBW⟩ hK
  exfalso
  obtain⟨t,ht,hf,hle,hbef⟩:=freeSlot_some (x:=d.x) (a:=h%d.x) (X:=d.X) (Nat.mod_lt _ (by omega)) hu
  have hm:(h%d.x+t)%d.x∈ys.map (·.1):=by
   rw[show ys.map (·.1)=seqL d.x (h%d.x) d.x from hsq]
   unfold seqL
   exact List.mem_map.2 ⟨t,List.mem_range.2 ht,rfl⟩
  obtain⟨y,hy,e⟩:=List.mem_map.1 hm
  have:=hp y hy
  rw[e]at this
  omega
 case stop=>
  rintro D c pre W hD hpre ⟨⟨rfl,pre',a,rfl,h1,h2,S',hN⟩,hBW⟩ hK
  have HF:Hid (freeSlot d.x d.X (h%d.x)=some a.1):=uy (by
   have hp:(pre'++[a]).map (·.1)<+:seqL d.x (h%d.x) d.x:=hpre
   have hlen:=hp.length_le
   rw[List.length_map,List.length_append,seqL_length]at hlen
   have hlen:pre'.length+1<=d.x:=hlen
   have hget:∀j,j<pre'.length+1->((pre'++[a]).map (·.1))[j]?=some ((h%d.x+j)%d.x):=fun j hj=>by
    obtain⟨r,hr⟩:=hp
    have e:(seqL d.x (h%d.x) d.x)[j]?=((pre'++[a]).map (·.1))[j]?:=by rw[<-hr,List.getElem?_append_left (by simp;omega)]
    rw[<-e]
    unfold seqL
    rw[List.getElem?_map,List.getElem?_range (show j<d.x by omega)]
    rfl
   have ha:=hget pre'.length (by omega)
   rw[List.getElem?_map,List.getElem?_append_right (Nat.le_refl _)]at ha
   have ha:a.1=(h%d.x+pre'.length)%d.x:=by simpa using ha
   rw[ha]
   refine freeSlot_at (by omega) (fun j hj=>?_) (by rw[<-ha];exact h2)
   have hb:=hget j (by omega)
   rw[List.getElem?_map,List.getElem?_append_left hj]at hb
   obtain⟨y,hy,e⟩:=Option.map_eq_some_iff.1 hb
   rw[<-e]
   exact h1 y (List.mem_of_getElem? hy))
  clear hpre h1 h2 hh hM hMu
  gi_wp2
  refine⟨by simp,.inl ⟨_,_,rfl,run_takeDeferred hK,?_⟩⟩
  have hg:=grownBy_putObj' W D (.deferred none)
  refine⟨_,results_none rfl _ _ _,⟨⟨_,rfl⟩,a.1,S',uh HF,hN.grown hg (fun r e=>by cases e;exact⟨_,hK,rfl⟩)⟩,hBW.grown hg (by omega) (fun k e=>by cases e;exact .inl (by omega))⟩
end
section
open Go.RowKit
def fillL(hf:Vl->Nat)(d:Dc)(x:Nat)(l:List Nat):Dc:=l.foldl (fun c p=>enterD hf c (d.L p).key p) {d with x:=x,X:=fun _=>0,used:=0}
theorem fillL_snoc(hf:Vl->Nat)(d:Dc)(x:Nat)(l:List Nat)(p:Nat):fillL hf d x (l++[p])=enterD hf (fillL hf d x l) (d.L p).key p:=by
 unfold fillL
 rw[List.foldl_append]
 rfl
structure FillOk (d:Dc) (sx N:Nat) (c:Dc):Prop where
 x:c.x=sx
 n:c.n=d.n
 L:c.L=d.L
 m:c.m=d.m
 I:c.I=d.I
 live:c.live=d.live
 turns:c.turns=d.turns
 use:useN c.X sx<=N
 used:(useN c.X sx:Int)=c.used
 pos:∀j,j<sx->0<=c.X j
 up:∀j,j<sx->c.X j<=d.n
theorem FillOk.step{hf:Vl->Nat}{d c:Dc}{x N p:Nat}{k:Vl}(h:FillOk d x N c)(hN:N<x)(hp:p<d.n):FillOk d x (N+1) (enterD hf c k p):=by
 obtain⟨t,ht,hf',hle,_⟩:=freeSlot_some (x:=x) (a:=hf k%x) (X:=c.X) (Nat.mod_lt _ (by omega)) (by have:=h.use;omega)
 have hs:(hf k%x+t)%x<x:=Nat.mod_lt _ (by omega)
 have h0:c.X ((hf k%x+t)%x)=0:=by have:=h.pos _ hs;omega
 generalize (hf k%x+t)%x=a at*
 have e:=enterD_some (hf:=hf) (d:=c) (k:=k) (p:=p) (a:=a) (by rw[h.x];exact hf')
 rw[e]
 have hu:=useN_put (v:=(p:Int)+1) (by omega) h0 x
 rw[if_pos hs]at hu
 refine⟨h.x,h.n,h.L,h.m,h.I,h.live,h.turns,?_,?_,fun j hj=>?_,fun j hj=>?_⟩
 ·show useN (upd c.X a ((p:Int)+1)) x<=N+1
  rw[hu];have:=h.use;omega
 ·show((useN (upd c.X a ((p:Int)+1)) x:Nat):Int)=if c.X a=0 then c.used+1 else c.used
  rw[hu,if_pos h0];have:=h.used;omega
 ·show 0<=upd c.X a ((p:Int)+1) j
  by_cases ej:j=a
  ·subst ej;rw[upd_same];omega
  ·rw[upd_other _ _ ej];exact h.pos j hj
 ·show upd c.X a ((p:Int)+1) j<=d.n
  by_cases ej:j=a
  ·subst ej;rw[upd_same];omega
  ·rw[upd_other _ _ ej];exact h.up j hj
theorem FillOk.start(d:Dc)(x:Nat):FillOk d x 0 {d with x:=x,X:=fun _=>0,used:=0}:=
 ⟨rfl,rfl,rfl,rfl,rfl,rfl,rfl,by show useN (fun _=>0) x<=0;rw[useN_zero];exact Nat.le_refl _,by show((useN (fun _=>0) x:Nat):Int)=0;rw[useN_zero];rfl,fun j hj=>Int.le_refl _,fun j hj=>by show(0:Int)<=d.n;omega⟩
theorem fillL_ok{hf:Vl->Nat}{d:Dc}{x:Nat}{l:List Nat}(hl:l.length<=x)(hn:∀p∈l,p<d.n):FillOk d x l.length (fillL hf d x l):=by
 suffices h:∀(k:Nat),k<=l.length->FillOk d x k (fillL hf d x (l.take k)) by
  have:=h l.length (Nat.le_refl _)
  rwa [List.take_length]at this
 intro k
 induction k with
 |zero=>intro _;exact FillOk.start d x
 |succ k ih=>
  intro hk
  have e:l.take (k+1)=l.take k++[l[k]]:=(List.take_append_getElem (by omega)).symm
  rw[e,fillL_snoc]
  exact(ih (by omega)).step (by omega) (hn _ (List.getElem_mem _))
noncomputable def hldL(d:Dc)(k:Nat):List Nat:=(livL d k).filter (fun i=>!tells (smallK d.m (d.L i).key))
theorem hldL_no{d:Dc}{k:Nat}(h:(d.L k).turn=0\/smallK d.m (d.L k).key):hldL d (k+1)=hldL d k:=by
 unfold hldL
 by_cases ht:(d.L k).turn=0
 ·rw[livL_dead ht]
 ·rw[livL_live ht,List.filter_append]
  simp[tells_yes (h.resolve_left ht)]
theorem hldL_yes{d:Dc}{k:Nat}(ht:(d.L k).turn≠0)(h:¬smallK d.m (d.L k).key):hldL d (k+1)=hldL d k++[k]:=by
 unfold hldL
 rw[livL_live ht,List.filter_append]
 simp[tells_no h]
theorem hldL_le(d:Dc)(k:Nat):(hldL d k).length<=(livL d k).length:=List.length_filter_le _ _
theorem mem_hldL{d:Dc}{k i:Nat}(h:i∈hldL d k):i<k/\(d.L i).turn≠0/\¬smallK d.m (d.L i).key:=by
 unfold hldL at h
 obtain⟨h1,h2⟩:=List.mem_filter.1 h
 obtain⟨h3,h4⟩:=mem_livL.1 h1
 refine⟨h3,h4,fun hs=>?_⟩
 rw[tells_yes hs]at h2
 exact absurd h2 (by decide)
theorem refill_fill{hf:Vl->Nat}{d:Dc}{x:Nat}(hp:∀i,i<d.n->(d.L i).turn≠0->0<(d.L i).turn):∀k,k<=d.n->refill hf d x k=fillL hf d x (hldL d k)/\idxN d k=(hldL d k).length:=by
 intro k
 induction k with
 |zero=>intro _;exact⟨rfl,rfl⟩
 |succ k ih=>
  intro hk
  obtain⟨h1,h2⟩:=ih (by omega)
  by_cases h:indexedK d k
  ·have ht:(d.L k).turn≠0:=by have:=h.1;omega
   rw[refill_yes h,idxN_yes h,hldL_yes ht h.2,fillL_snoc,h1,h2,List.length_append]
   exact⟨rfl,rfl⟩
  ·rw[refill_no h,idxN_no h,hldL_no (by
    by_cases ht:(d.L k).turn=0
    ·exact .inl ht
    ·refine .inr (Classical.byContradiction fun hs=>h ⟨hp k (by omega) ht,hs⟩))]
   exact⟨h1,h2⟩
end
end Go.Proofs.YtgmlkfgfjjggnaaGreatDoor
