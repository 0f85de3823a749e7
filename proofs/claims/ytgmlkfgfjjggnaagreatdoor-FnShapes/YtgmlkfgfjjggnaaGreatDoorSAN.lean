import Derived.Test.YtgmlkfgfjjggnaaGreatDoorSAM
import Derived.Laws.Strings
set_option linter.unusedVariables false
set_option linter.unusedSimpArgs false
set_option maxHeartbeats 40000000
set_option maxRecDepth 100000
namespace Go.Proofs.YtgmlkfgfjjggnaaGreatDoor
section
open Go.RowKit
structure Core (K:Vl->Prop) (d:Dc):Prop where
 log:LogOk d
 keys:∀i,i<d.n->(d.L i).turn≠0->K (d.L i).key
 dist:∀i j,i<d.n->j<d.n->(d.L i).turn≠0->(d.L j).turn≠0->likeB (d.L i).key (d.L j).key=true->i=j
 ints:∀j,j<d.m->okInt d j
 last:d.m=0\/0<d.I (d.m-1)
 small:∀i,i<d.n->(d.L i).turn≠0->smallK d.m (d.L i).key->d.I ((d.L i).key.num-1).toNat=i+1
 turns:0<=d.turns/\d.turns<=1000000000000
 le:d.live<=500
structure Ix (hf:Vl->Nat) (d:Dc):Prop where
 sz:SizeX d.x
 idx:Idx hf d.L d.x d.X (inX d)
 used:(useN d.X d.x:Int)=d.used
 half:2*useN d.X d.x<=d.x
theorem Inv0.core{K:Vl->Prop}{hf:Vl->Nat}{d:Dc}(h:Inv0 K hf d):Core K d:=⟨h.log,h.keys,h.dist,h.ints,h.last,h.small,h.turns,h.le⟩
theorem Core.inv0{K:Vl->Prop}{hf:Vl->Nat}{d:Dc}(h:Core K d)(g:Ix hf d):Inv0 K hf d:=⟨h.log,h.keys,h.dist,h.ints,h.last,h.small,g.sz,g.idx,g.used,g.half,h.turns,h.le⟩
theorem Core.pos{K:Vl->Prop}{d:Dc}(h:Core K d){i:Nat}(hi:i<d.n)(ht:(d.L i).turn≠0):0<(d.L i).turn:=by
 rcases h.log.ent i hi with e|e
 ·exact absurd e.1 ht
 ·exact e.1
open Classical in
noncomputable def idxN(d:Dc):Nat->Nat
 |0=>0
 |k+1=>if indexedK d k then idxN d k+1 else idxN d k
theorem idxN_yes{d:Dc}{k:Nat}(h:indexedK d k):idxN d (k+1)=idxN d k+1:=if_pos h
theorem idxN_no{d:Dc}{k:Nat}(h:¬indexedK d k):idxN d (k+1)=idxN d k:=if_neg h
theorem idxN_le(d:Dc)(k:Nat):idxN d k<=(livL d k).length:=by
 induction k with
 |zero=>exact Nat.le_refl _
 |succ k ih=>
  by_cases h:indexedK d k
  ·have:=h.1
   rw[idxN_yes h,livL_live (by omega),List.length_append,List.length_singleton]
   omega
  ·rw[idxN_no h]
   refine Nat.le_trans ih ?_
   exact(livL_prefix (d:=d) (k:=k) (n:=k+1) (by omega)).length_le
theorem idxN_mono(d:Dc){k n:Nat}(h:k<=n):idxN d k<=idxN d n:=by
 obtain⟨j,rfl⟩:∃j,n=k+j:=⟨n-k,by omega⟩
 clear h
 induction j with
 |zero=>exact Nat.le_refl _
 |succ j ih=>
  refine Nat.le_trans ih ?_
  by_cases h:indexedK d (k+j)
  ·rw[show k+(j+1)=k+j+1 by omega,idxN_yes h];omega
  ·rw[show k+(j+1)=k+j+1 by omega,idxN_no h];exact Nat.le_refl _
def sizeGo:Nat->Nat->Nat->Nat
 |0,s,_=>s
 |f+1,s,q=>if s<q then sizeGo f (2*s) q else s
def sizeFor(n:Nat):Nat:=sizeGo 9 8 (4*n)
theorem sizeGo_says:∀(f s q:Nat),q<=2000->Pow2 s->8<=s->s<=4000->2000<=s*2^f->q<=sizeGo f s q/\8<=sizeGo f s q/\sizeGo f s q<=4000/\Pow2 (sizeGo f s q):=by
 intro f
 induction f with
 |zero=>
  intro s q h1 h2 h3 h4 h5
  exact⟨by show q<=s;omega,h3,h4,h2⟩
 |succ f ih=>
  intro s q h1 h2 h3 h4 h5
  show q<=(if s<q then sizeGo f (2*s) q else s)/\_<=(if s<q then sizeGo f (2*s) q else s)/\(if s<q then sizeGo f (2*s) q else s)<=_/\Pow2 (if s<q then sizeGo f (2*s) q else s)
  by_cases e:s<q
  ·rw[if_pos e]
   obtain⟨k,rfl⟩:=h2
   refine ih _ _ h1 ⟨k+1,by rw[Nat.pow_succ];omega⟩ (by omega) (by omega) ?_
   rw[Nat.pow_succ,<-Nat.mul_assoc,Nat.mul_comm (2^k*2^f) 2,<-Nat.mul_assoc]at h5
   exact h5
  ·rw[if_neg e]
   exact⟨by omega,h3,h4,h2⟩
theorem sizeFor_says{n:Nat}(h:n<=500):4*n<=sizeFor n/\8<=sizeFor n/\sizeFor n<=4000/\Pow2 (sizeFor n):=
 sizeGo_says 9 8 (4*n) (by omega) ⟨3,rfl⟩ (by omega) (by omega) (by decide)
open Classical in
noncomputable def refill(hf:Vl->Nat)(d:Dc)(x:Nat):Nat->Dc
 |0=>{d with x:=x,X:=fun _=>0,used:=0}
 |k+1=>if indexedK d k then enterD hf (refill hf d x k) (d.L k).key k else refill hf d x k
theorem refill_yes{hf:Vl->Nat}{d:Dc}{x k:Nat}(h:indexedK d k):refill hf d x (k+1)=enterD hf (refill hf d x k) (d.L k).key k:=if_pos h
theorem refill_no{hf:Vl->Nat}{d:Dc}{x k:Nat}(h:¬indexedK d k):refill hf d x (k+1)=refill hf d x k:=if_neg h
theorem refill_says{hf:Vl->Nat}{d:Dc}{x:Nat}:∀k,idxN d k<x->
  Idx hf d.L x (refill hf d x k).X (fun i=>i<k/\indexedK d i)/\(useN (refill hf d x k).X x:Int)=(refill hf d x k).used/\useN (refill hf d x k).X x<=idxN d k/\(refill hf d x k).x=x/\(refill hf d x k).n=d.n/\(refill hf d x k).L=d.L/\(refill hf d x k).m=d.m/\(refill hf d x k).I=d.I/\(refill hf d x k).live=d.live/\(refill hf d x k).turns=d.turns:=by
 intro k
 induction k with
 |zero=>
  intro _
  exact⟨Idx.empty _ _ _ _ (fun i h=>by omega),by show(useN (fun _=>0) x:Int)=0;rw[useN_zero];rfl,by show useN (fun _=>0) x<=0;rw[useN_zero];exact Nat.le_refl _,rfl,rfl,rfl,rfl,rfl,rfl,rfl⟩
 |succ k ih=>
  intro hlt
  by_cases h:indexedK d k
  ·rw[idxN_yes h]at hlt
   obtain⟨h1,h2,h3,h4,h5,h6,h7,h8,h9,h10⟩:=ih (by omega)
   rw[refill_yes h,idxN_yes h]
   obtain⟨g1,g2,g3,g4,g5,g6,g7,g8,g9,g10⟩:=enterD_idx (d:=refill hf d x k) (L:=d.L) (k:=(d.L k).key) (p:=k) (by rw[h4];exact h1) (fun e=>by omega) rfl (by rw[h4];omega) (by rw[h4];exact h2)
   rw[h4]at g3
   rw[g3]at g1 g2
   rw[h4]at g10
   refine⟨g1.congr (fun i=>?_) (fun _ _=>rfl),g2,by omega,g3,g4.trans h5,g5.trans h6,g6.trans h7,g7.trans h8,g8.trans h9,g9.trans h10⟩
   constructor
   ·rintro⟨e1,e2⟩
    by_cases e:i=k
    ·exact .inr e
    ·exact .inl ⟨by omega,e2⟩
   ·rintro(⟨e1,e2⟩|rfl)
    ·exact⟨by omega,e2⟩
    ·exact⟨by omega,h⟩
  ·rw[idxN_no h]at hlt ⊢
   obtain⟨h1,h2,h3⟩:=ih hlt
   rw[refill_no h]
   refine⟨h1.congr (fun i=>?_) (fun _ _=>rfl),h2,h3⟩
   constructor
   ·rintro⟨e1,e2⟩
    exact⟨by
     have:i≠k:=fun e=>h (e▸e2)
     omega,e2⟩
   ·rintro⟨e1,e2⟩
    exact⟨by omega,e2⟩
noncomputable def reindexD(hf:Vl->Nat)(d:Dc)(more:Nat):Dc:=
 if idxN d d.n+more=0 then{d with x:=0,used:=0}else refill hf d (sizeFor (idxN d d.n+more)) d.n
theorem reindexD_none{hf:Vl->Nat}{d:Dc}{more:Nat}(h:idxN d d.n+more=0):reindexD hf d more={d with x:=0,used:=0}:=if_pos h
theorem reindexD_some{hf:Vl->Nat}{d:Dc}{more:Nat}(h:idxN d d.n+more≠0):reindexD hf d more=refill hf d (sizeFor (idxN d d.n+more)) d.n:=if_neg h
structure SameLog (d c:Dc):Prop where
 n:d.n=c.n
 L:d.L=c.L
 m:d.m=c.m
 I:d.I=c.I
 live:d.live=c.live
 turns:d.turns=c.turns
theorem Core.of_same{K:Vl->Prop}{d c:Dc}(h:Core K c)(e:SameLog d c):Core K d:=by
 obtain⟨n,L,m,I,x,X,used,live,turns⟩:=d
 obtain⟨n',L',m',I',x',X',used',live',turns'⟩:=c
 obtain⟨rfl,rfl,rfl,rfl,rfl,rfl⟩:=e
 exact⟨⟨h.log.ent,h.log.ord,h.log.cnt⟩,h.keys,h.dist,h.ints,h.last,h.small,h.turns,h.le⟩
theorem reindexD_same{K:Vl->Prop}{hf:Vl->Nat}{d:Dc}{more:Nat}(h:Core K d)(hm:idxN d d.n+more<=500):SameLog (reindexD hf d more) d:=by
 by_cases e:idxN d d.n+more=0
 ·rw[reindexD_none e];exact⟨rfl,rfl,rfl,rfl,rfl,rfl⟩
 ·rw[reindexD_some e]
  obtain⟨s1,s2,s3,s4⟩:=sizeFor_says hm
  obtain⟨h1,h2,h3,h4,h5,h6,h7,h8,h9,h10⟩:=refill_says (hf:=hf) (d:=d) (x:=sizeFor (idxN d d.n+more)) d.n (by omega)
  exact⟨h5,h6,h7,h8,h9,h10⟩
theorem reindexD_ix{K:Vl->Prop}{hf:Vl->Nat}{d:Dc}{more:Nat}(h:Core K d)(hm:idxN d d.n+more<=500):Ix hf (reindexD hf d more)/\(0<more->2*(useN (reindexD hf d more).X (reindexD hf d more).x+1)<=(reindexD hf d more).x):=by
 by_cases e:idxN d d.n+more=0
 ·rw[reindexD_none e]
  refine⟨⟨.inl rfl,⟨fun s hs=>absurd hs (by simp),fun i hi=>?_,fun s s' hs=>absurd hs (by simp)⟩,rfl,Nat.le_refl _⟩,fun h=>by omega⟩
  exfalso
  have hi:i<d.n/\(d.L i).turn≠0/\¬smallK d.m (d.L i).key:=hi
  have h1:indexedK d i:=⟨h.pos hi.1 hi.2.1,hi.2.2⟩
  have h2:=idxN_mono d (k:=i+1) (n:=d.n) (by omega)
  rw[idxN_yes h1]at h2
  omega
 ·rw[reindexD_some e]
  obtain⟨s1,s2,s3,s4⟩:=sizeFor_says hm
  obtain⟨h1,h2,h3,h4,h5,h6,h7,h8,h9,h10⟩:=refill_says (hf:=hf) (d:=d) (x:=sizeFor (idxN d d.n+more)) d.n (by omega)
  refine⟨⟨by rw[h4];exact .inr ⟨s2,s3,s4⟩,?_,by rw[h4];exact h2,by rw[h4];omega⟩,fun hp=>by rw[h4];omega⟩
  rw[h4,h6]
  refine h1.congr (fun i=>?_) (fun _ _=>rfl)
  unfold inX indexedK
  rw[h5,h6,h7]
  constructor
  ·rintro⟨e1,e2,e3⟩;exact⟨e1,h.pos e1 e2,e3⟩
  ·rintro⟨e1,e2,e3⟩;exact⟨e1,by omega,e3⟩
theorem reindexD_inv{K:Vl->Prop}{hf:Vl->Nat}{d:Dc}{more:Nat}(h:Core K d)(hm:idxN d d.n+more<=500):Inv0 K hf (reindexD hf d more):=
 (h.of_same (reindexD_same h hm)).inv0 (reindexD_ix h hm).1
def rank(d:Dc)(i:Nat):Nat:=(livL d i).length
theorem rank_lt{d:Dc}{i j:Nat}(hij:i<j)(ht:(d.L i).turn≠0):rank d i<rank d j:=by
 have h:=(livL_prefix (d:=d) (k:=i+1) (n:=j) (by omega)).length_le
 rw[livL_live ht,List.length_append,List.length_singleton]at h
 exact h
theorem rank_surj{d:Dc}:∀(k:Nat) {j:Nat},j<(livL d k).length->∃i,i<k/\(d.L i).turn≠0/\rank d i=j:=by
 intro k
 induction k with
 |zero=>intro j h;exact absurd h (by simp[livL])
 |succ k ih=>
  intro j h
  by_cases ht:(d.L k).turn=0
  ·rw[livL_dead ht]at h
   obtain⟨i,h1,h2⟩:=ih h
   exact⟨i,by omega,h2⟩
  ·by_cases e:j<(livL d k).length
   ·obtain⟨i,h1,h2⟩:=ih e
    exact⟨i,by omega,h2⟩
   ·rw[livL_live ht,List.length_append,List.length_singleton]at h
    exact⟨k,by omega,ht,by unfold rank;omega⟩
def packD(d:Dc):Dc:={d with n:=lvN d,L:=lvF d,I:=fun j=>if 0<d.I j then(rank d (d.I j-1).toNat:Int)+1 else d.I j}
noncomputable def compactD(hf:Vl->Nat)(d:Dc):Dc:=if(d.n:Int)<8\/(d.n:Int)<=2*d.live then d else reindexD hf (packD d) 0
theorem livL_all{d:Dc}:∀k,(∀i,i<k->(d.L i).turn≠0)->(livL d k).length=k:=by
 intro k
 induction k with
 |zero=>intro _;rfl
 |succ k ih=>
  intro h
  rw[livL_live (h k (by omega)),List.length_append,List.length_singleton,ih (fun i hi=>h i (by omega))]
theorem packD_core{K:Vl->Prop}{d:Dc}(h:Core K d):Core K (packD d):=by
 have hs:∀j,j<lvN d->∃i,i<d.n/\(d.L i).turn≠0/\rank d i=j/\lvF d j=d.L i:=fun j hj=>by
  obtain⟨i,h1,h2,h3⟩:=rank_surj d.n hj
  exact⟨i,h1,h2,h3,by rw[<-h3];exact lvF_at h1 h2⟩
 have hr:∀i,i<d.n->(d.L i).turn≠0->rank d i<lvN d/\lvF d (rank d i)=d.L i:=fun i hi ht=>⟨rank_lt hi ht,lvF_at hi ht⟩
 have hor:∀i j,i<d.n->j<d.n->(d.L i).turn≠0->(d.L j).turn≠0->rank d i<rank d j->i<j:=by
  intro i j hi hj ti tj hlt
  by_cases e:i<j
  ·exact e
  ·by_cases e':i=j
   ·subst e';omega
   ·have:=rank_lt (d:=d) (i:=j) (j:=i) (by omega) tj
    omega
 refine⟨⟨fun j hj=>?_,fun i j hij hj ti tj=>?_,?_⟩,fun j hj ht=>?_,fun i j hi hj ti tj hl=>?_,fun j hj=>?_,?_,fun j hj ht hsm=>?_,h.turns,h.le⟩
 ·obtain⟨i,h1,h2,h3,h4⟩:=hs j hj
  have:=h.log.ent i h1
  unfold Entry at this ⊢
  show(lvF d j).turn=0/\_\/_
  show((lvF d j).turn=0/\noneB (lvF d j).key=true/\noneB (lvF d j).val=true)\/(0<(lvF d j).turn/\(lvF d j).turn<=d.turns/\keyB (lvF d j).key=true/\(lvF d j).val.ok=true/\(lvF d j).val.kind≠0)
  rw[h4]
  exact this
 ·have hj':j<lvN d:=hj
  obtain⟨a,a1,a2,a3,a4⟩:=hs i (by omega)
  obtain⟨b,b1,b2,b3,b4⟩:=hs j hj'
  show(lvF d i).turn<(lvF d j).turn
  rw[a4,b4]
  exact h.log.ord a b (hor a b a1 b1 a2 b2 (by omega)) b1 a2 b2
 ·show((livL (packD d) (lvN d)).length:Int)=d.live
  rw[livL_all (d:=packD d) (lvN d) (fun j hj=>?_)]
  ·exact h.log.cnt
  ·obtain⟨i,h1,h2,h3,h4⟩:=hs j hj
   show(lvF d j).turn≠0
   rw[h4];exact h2
 ·obtain⟨i,h1,h2,h3,h4⟩:=hs j hj
  show K (lvF d j).key
  rw[h4]
  exact h.keys i h1 h2
 ·obtain⟨a,a1,a2,a3,a4⟩:=hs i hi
  obtain⟨b,b1,b2,b3,b4⟩:=hs j hj
  have hl:likeB (lvF d i).key (lvF d j).key=true:=hl
  rw[a4,b4]at hl
  have:=h.dist a b a1 b1 a2 b2 hl
  subst this
  omega
 ·rcases h.ints j hj with e|⟨e1,e2,e3,e4,e5⟩
  ·left
   show(if 0<d.I j then(rank d (d.I j-1).toNat:Int)+1 else d.I j)=0
   rw[if_neg (by omega)]
   exact e
  ·right
   have hI:(packD d).I j=(rank d (d.I j-1).toNat:Int)+1:=if_pos e1
   have hr':=hr (d.I j-1).toNat (by omega) e3
   have hat:(packD d).at ((packD d).I j)=d.at (d.I j):=by
    show lvF d ((packD d).I j-1).toNat=d.L (d.I j-1).toNat
    rw[hI,show((rank d (d.I j-1).toNat:Int)+1-1).toNat=rank d (d.I j-1).toNat by omega]
    exact hr'.2
   rw[hat,hI]
   exact⟨by omega,by show _<=((lvN d:Nat):Int);omega,e3,e4,e5⟩
 ·rcases h.last with e|e
  ·exact .inl e
  ·right
   show 0<(if 0<d.I (d.m-1)then(rank d (d.I (d.m-1)-1).toNat:Int)+1 else d.I (d.m-1))
   rw[if_pos e]
   omega
 ·obtain⟨i,h1,h2,h3,h4⟩:=hs j hj
  have hsm:smallK d.m (lvF d j).key:=hsm
  show(if 0<d.I ((lvF d j).key.num-1).toNat then(rank d (d.I ((lvF d j).key.num-1).toNat-1).toNat:Int)+1 else _)=_
  rw[h4]at hsm ⊢
  have:=h.small i h1 h2 hsm
  rw[this,if_pos (by omega),show((i:Int)+1-1).toNat=i by omega,h3]
theorem Core.live_n{K:Vl->Prop}{d:Dc}(h:Core K d):(lvN d:Int)=d.live:=h.log.cnt
theorem packD_idx{K:Vl->Prop}{d:Dc}(h:Core K d):idxN (packD d) (packD d).n+0<=500:=by
 have h1:=idxN_le (packD d) (packD d).n
 have h2:=livL_le (packD d) (packD d).n
 have h3:(packD d).n=lvN d:=rfl
 have h4:=h.live_n
 have h5:=h.le
 omega
theorem compactD_inv{K:Vl->Prop}{hf:Vl->Nat}{d:Dc}(h:Inv0 K hf d):Inv0 K hf (compactD hf d):=by
 unfold compactD
 split
 ·exact h
 ·exact reindexD_inv (packD_core h.core) (packD_idx h.core)
theorem compactD_live{K:Vl->Prop}{hf:Vl->Nat}{d:Dc}(h:Core K d):(compactD hf d).live=d.live/\(compactD hf d).turns=d.turns/\(compactD hf d).m=d.m/\(((compactD hf d).n:Int)<8\/((compactD hf d).n:Int)<=2*d.live):=by
 unfold compactD
 split
 ·next e=>exact⟨rfl,rfl,rfl,e⟩
 ·have:=reindexD_same (hf:=hf) (packD_core h) (packD_idx h)
  refine⟨this.live,this.turns,this.m,.inr ?_⟩
  rw[this.n]
  have h4:=h.live_n
  show((lvN d:Nat):Int)<=_
  omega
theorem compactD_pairs{K:Vl->Prop}{hf:Vl->Nat}{d:Dc}(h:Core K d)(Q:Pr->Prop):(∃i,i<(compactD hf d).n/\((compactD hf d).L i).turn≠0/\Q ((compactD hf d).L i))↔∃i,i<d.n/\(d.L i).turn≠0/\Q (d.L i):=by
 unfold compactD
 split
 ·exact Iff.rfl
 ·have e:=reindexD_same (hf:=hf) (packD_core h) (packD_idx h)
  rw[e.n,e.L]
  constructor
  ·rintro⟨j,hj,ht,hq⟩
   obtain⟨i,h1,h2,h3⟩:=rank_surj d.n (show j<(livL d d.n).length from hj)
   have h4:lvF d j=d.L i:=by rw[<-h3];exact lvF_at h1 h2
   have hq:Q (lvF d j):=hq
   rw[h4]at hq
   exact⟨i,h1,h2,hq⟩
  ·rintro⟨i,hi,ht,hq⟩
   refine⟨rank d i,rank_lt hi ht,?_,?_⟩
   ·show(lvF d (rank d i)).turn≠0
    rw[show lvF d (rank d i)=d.L i from lvF_at hi ht];exact ht
   ·show Q (lvF d (rank d i))
    rw[show lvF d (rank d i)=d.L i from lvF_at hi ht];exact hq
theorem compactD_next{K:Vl->Prop}{hf:Vl->Nat}{d:Dc}(h:Core K d)(hn:Next d):Next (compactD hf d):=by
 intro i hi ht hc
 rw[(compactD_live (hf:=hf) h).2.2.1]at hc
 obtain⟨j,h1,h2,h3⟩:=(compactD_pairs (hf:=hf) h (fun p=>p.key.kind=2/\p.key.num=(d.m:Int)+1)).1 ⟨i,hi,ht,hc⟩
 exact hn j h1 h2 h3
theorem livL_congr{d c:Dc}:∀(k:Nat),(∀i,i<k->((d.L i).turn=0↔(c.L i).turn=0))->livL d k=livL c k:=by
 intro k
 induction k with
 |zero=>intro _;rfl
 |succ k ih=>
  intro h
  have:=h k (by omega)
  by_cases e:(d.L k).turn=0
  ·rw[livL_dead e,livL_dead (this.1 e),ih (fun i hi=>h i (by omega))]
  ·rw[livL_live e,livL_live (fun e'=>e (this.2 e')),ih (fun i hi=>h i (by omega))]
def addL(c:Dc)(k v:Vl):Dc:={c with n:=c.n+1,L:=upd c.L c.n ⟨k,v,c.turns+1⟩,live:=c.live+1,turns:=c.turns+1}
section
variable {K:Vl->Prop} {hf:Vl->Nat} {c:Dc} {k v:Vl}
theorem addL_old{i:Nat}(h:i<c.n):(addL c k v).L i=c.L i:=upd_other _ _ (by omega)
theorem addL_new:(addL c k v).L c.n=⟨k,v,c.turns+1⟩:=upd_same _ _ _
theorem addL_log(h:LogOk c)(ht:0<=c.turns)(hk:keyB k=true)(hv:v.ok=true)(hv0:v.kind≠0):LogOk (addL c k v):=by
 refine⟨fun i hi=>?_,fun i j hij hj ti tj=>?_,?_⟩
 ·have hi:i<c.n+1:=hi
  by_cases e:i=c.n
  ·subst e
   right
   rw[addL_new]
   exact⟨by show 0<c.turns+1;omega,Int.le_refl _,hk,hv,hv0⟩
  ·have:=h.ent i (by omega)
   unfold Entry at this ⊢
   rw[addL_old (by omega)]
   refine this.imp id (fun g=>⟨g.1,?_,g.2.2⟩)
   show _<=c.turns+1
   omega
 ·have hj:j<c.n+1:=hj
  by_cases e:j=c.n
  ·subst e
   rw[addL_old hij]at ti ⊢
   rw[addL_new]
   rcases h.ent i hij with g|g
   ·exact absurd g.1 ti
   ·show _<c.turns+1
    omega
  ·rw[addL_old (by omega)]at ti ⊢
   rw[addL_old (by omega)]at tj ⊢
   exact h.ord i j hij (by omega) ti tj
 ·show((livL (addL c k v) (c.n+1)).length:Int)=c.live+1
  rw[livL_live (by rw[addL_new];show c.turns+1≠0;omega),List.length_append,List.length_singleton,livL_congr (d:=addL c k v) (c:=c) c.n (fun i hi=>by rw[addL_old hi])]
  have:((livL c c.n).length:Int)=c.live:=h.cnt
  omega
theorem addL_keys(h:Core K c)(hk:K k):∀i,i<(addL c k v).n->((addL c k v).L i).turn≠0->K ((addL c k v).L i).key:=by
 intro i hi ht
 have hi:i<c.n+1:=hi
 by_cases e:i=c.n
 ·subst e;rw[addL_new];exact hk
 ·rw[addL_old (by omega)]at ht ⊢;exact h.keys i (by omega) ht
theorem addL_dist(KL:KeyLaw K hf)(h:Core K c)(hk:K k)(hno:∀i,i<c.n->(c.L i).turn≠0->likeB (c.L i).key k=false):∀i j,i<(addL c k v).n->j<(addL c k v).n->((addL c k v).L i).turn≠0->((addL c k v).L j).turn≠0->likeB ((addL c k v).L i).key ((addL c k v).L j).key=true->i=j:=by
 intro i j hi hj ti tj hl
 have hi:i<c.n+1:=hi
 have hj:j<c.n+1:=hj
 by_cases e:i=c.n
 ·by_cases e':j=c.n
  ·omega
  ·subst e
   rw[addL_new,addL_old (by omega)]at hl
   rw[addL_old (by omega)]at tj
   have:=KL.symm _ _ hk (h.keys j (by omega) tj) hl
   rw[hno j (by omega) tj]at this
   cases this
 ·by_cases e':j=c.n
  ·subst e'
   rw[addL_new,addL_old (by omega)]at hl
   rw[addL_old (by omega)]at ti
   rw[hno i (by omega) ti]at hl
   cases hl
  ·rw[addL_old (by omega)]at ti
   rw[addL_old (by omega)]at tj
   rw[addL_old (i:=i) (by omega),addL_old (i:=j) (by omega)]at hl
   exact h.dist i j (by omega) (by omega) ti tj hl
def addSmall(c:Dc)(k v:Vl):Dc:={addL c k v with I:=upd c.I (k.num-1).toNat ((c.n:Int)+1)}
theorem okInt_add{j:Nat}(h:okInt c j){d:Dc}(hn:d.n=c.n+1)(hL:∀i,i<c.n->d.L i=c.L i)(hI:d.I j=c.I j):okInt d j:=by
 unfold okInt at*
 rw[hI,hn]
 rcases h with e|⟨e1,e2,e3,e4,e5⟩
 ·exact .inl e
 ·right
  have:d.at (c.I j)=c.at (c.I j):=hL _ (by omega)
  rw[this]
  exact⟨e1,by omega,e3,e4,e5⟩
theorem addSmall_inv(KL:KeyLaw K hf)(h:Inv0 K hf c)(hk:K k)(hkb:keyB k=true)(hv:v.ok=true)(hv0:v.kind≠0)(hno:∀i,i<c.n->(c.L i).turn≠0->likeB (c.L i).key k=false)(hs:smallK c.m k)(hl:c.live<500)(ht:c.turns<1000000000000):Inv0 K hf (addSmall c k v):=by
 have hlog:=addL_log h.log h.turns.1 hkb hv hv0
 obtain⟨k1,k2,k3⟩:=hs
 refine(Core.inv0 ⟨⟨hlog.ent,hlog.ord,hlog.cnt⟩,addL_keys h.core hk,addL_dist KL h.core hk hno,fun j hj=>?_,?_,fun i hi hti hsm=>?_,⟨by show 0<=c.turns+1;have:=h.turns.1;omega,by show c.turns+1<=_;omega⟩,by show c.live+1<=500;omega⟩ ⟨h.sz,?_,h.used,h.half⟩)
 ·by_cases e:j=(k.num-1).toNat
  ·right
   have hI:(addSmall c k v).I j=(c.n:Int)+1:=by subst e;exact upd_same _ _ _
   have hat:(addSmall c k v).at ((addSmall c k v).I j)=⟨k,v,c.turns+1⟩:=by
    show(addSmall c k v).L ((addSmall c k v).I j-1).toNat=_
    rw[hI,show((c.n:Int)+1-1).toNat=c.n by omega]
    exact addL_new
   rw[hat,hI]
   refine⟨by omega,by show _<=((c.n+1:Nat):Int);omega,?_,k1,by show k.num=_;omega⟩
   show c.turns+1≠0
   have:=h.turns.1
   omega
  ·exact okInt_add (h.ints j hj) rfl (fun i hi=>addL_old hi) (upd_other _ _ e)
 ·rcases h.last with e|e
  ·exact .inl e
  ·right
   show 0<upd c.I (k.num-1).toNat ((c.n:Int)+1) (c.m-1)
   by_cases e':c.m-1=(k.num-1).toNat
   ·rw[e',upd_same];omega
   ·rw[upd_other _ _ e'];exact e
 ·have hi:i<c.n+1:=hi
  show upd c.I (k.num-1).toNat ((c.n:Int)+1) _=_
  by_cases e:i=c.n
  ·subst e
   have:(addSmall c k v).L c.n=⟨k,v,c.turns+1⟩:=addL_new
   rw[this,upd_same]
  ·have hLi:(addSmall c k v).L i=c.L i:=addL_old (by omega)
   rw[hLi]at hti hsm ⊢
   have hsm:smallK c.m (c.L i).key:=hsm
   have h1:=h.small i (by omega) hti hsm
   rw[upd_other _ _ (fun e'=>?_)]
   ·exact h1
   ·have h2:(c.L i).key.num=k.num:=by have:=hsm.2.1;omega
    have:=KL.int _ _ (h.keys i (by omega) hti) hk hsm.1 k1 h2
    rw[hno i (by omega) hti]at this
    cases this
 ·refine h.idx.congr (fun i=>?_) (fun i hi=>by rw[show(addSmall c k v).L i=c.L i from addL_old hi.1])
  unfold inX
  show(i<c.n+1/\((addL c k v).L i).turn≠0/\¬smallK c.m ((addL c k v).L i).key)↔_
  by_cases e:i=c.n
  ·subst e
   rw[addL_new]
   constructor
   ·rintro⟨_,_,h3⟩;exact absurd ⟨k1,k2,k3⟩ h3
   ·rintro⟨h3,_⟩;omega
  ·constructor
   ·rintro⟨h1,h2⟩
    rw[addL_old (by omega)]at h2
    exact⟨by omega,h2⟩
   ·rintro⟨h1,h2⟩
    rw[addL_old h1]
    exact⟨by omega,h2⟩
def addNext(c:Dc)(k v:Vl):Dc:={addL c k v with m:=c.m+1,I:=upd c.I c.m ((c.n:Int)+1)}
theorem small_succ{m:Nat}{k:Vl}:smallK (m+1) k↔smallK m k\/(k.kind=2/\k.num=(m:Int)+1):=by
 unfold smallK
 constructor
 ·rintro⟨h1,h2,h3⟩
  by_cases e:k.num=(m:Int)+1
  ·exact .inr ⟨h1,e⟩
  ·exact .inl ⟨h1,h2,by omega⟩
 ·rintro(⟨h1,h2,h3⟩|⟨h1,h2⟩)
  ·exact⟨h1,h2,by omega⟩
  ·exact⟨h1,by omega,by omega⟩
theorem addNext_inv(KL:KeyLaw K hf)(h:Inv0 K hf c)(hk:K k)(hkb:keyB k=true)(hv:v.ok=true)(hv0:v.kind≠0)(hno:∀i,i<c.n->(c.L i).turn≠0->likeB (c.L i).key k=false)(k1:k.kind=2)(k2:k.num=(c.m:Int)+1)(hl:c.live<500)(ht:c.turns<1000000000000):Inv0 K hf (addNext c k v):=by
 have hlog:=addL_log h.log h.turns.1 hkb hv hv0
 have hnx:∀i,i<c.n->(c.L i).turn≠0->¬((c.L i).key.kind=2/\(c.L i).key.num=(c.m:Int)+1):=by
  intro i hi hti hc
  have:=KL.int _ _ (h.keys i hi hti) hk hc.1 k1 (by omega)
  rw[hno i hi hti]at this
  cases this
 refine(Core.inv0 ⟨⟨hlog.ent,hlog.ord,hlog.cnt⟩,addL_keys h.core hk,addL_dist KL h.core hk hno,fun j hj=>?_,?_,fun i hi hti hsm=>?_,⟨by show 0<=c.turns+1;have:=h.turns.1;omega,by show c.turns+1<=_;omega⟩,by show c.live+1<=500;omega⟩ ⟨h.sz,?_,h.used,h.half⟩)
 ·have hj:j<c.m+1:=hj
  by_cases e:j=c.m
  ·right
   have hI:(addNext c k v).I j=(c.n:Int)+1:=by subst e;exact upd_same _ _ _
   have hat:(addNext c k v).at ((addNext c k v).I j)=⟨k,v,c.turns+1⟩:=by
    show(addNext c k v).L ((addNext c k v).I j-1).toNat=_
    rw[hI,show((c.n:Int)+1-1).toNat=c.n by omega]
    exact addL_new
   rw[hat,hI]
   refine⟨by omega,by show _<=((c.n+1:Nat):Int);omega,?_,k1,by show k.num=_;omega⟩
   show c.turns+1≠0
   have:=h.turns.1
   omega
  ·exact okInt_add (h.ints j (by omega)) rfl (fun i hi=>addL_old hi) (upd_other _ _ e)
 ·right
  show 0<upd c.I c.m ((c.n:Int)+1) (c.m+1-1)
  rw[show c.m+1-1=c.m by omega,upd_same]
  omega
 ·have hi:i<c.n+1:=hi
  show upd c.I c.m ((c.n:Int)+1) _=_
  by_cases e:i=c.n
  ·subst e
   have:(addNext c k v).L c.n=⟨k,v,c.turns+1⟩:=addL_new
   rw[this,show((Pr.mk k v (c.turns+1)).key.num-1).toNat=c.m by show(k.num-1).toNat=_;omega,upd_same]
  ·have hLi:(addNext c k v).L i=c.L i:=addL_old (by omega)
   rw[hLi]at hti hsm ⊢
   have hsm:smallK (c.m+1) (c.L i).key:=hsm
   rcases small_succ.1 hsm with hsm|hsm
   ·rw[upd_other _ _ (fun e'=>by have:=hsm.2.1;have:=hsm.2.2;omega)]
    exact h.small i (by omega) hti hsm
   ·exact absurd hsm (hnx i (by omega) hti)
 ·refine h.idx.congr (fun i=>?_) (fun i hi=>by rw[show(addNext c k v).L i=c.L i from addL_old hi.1])
  unfold inX
  show(i<c.n+1/\((addL c k v).L i).turn≠0/\¬smallK (c.m+1) ((addL c k v).L i).key)↔_
  rw[small_succ]
  by_cases e:i=c.n
  ·subst e
   rw[addL_new]
   constructor
   ·rintro⟨_,_,h3⟩;exact absurd (.inr ⟨k1,k2⟩) h3
   ·rintro⟨h3,_⟩;omega
  ·constructor
   ·rintro⟨h1,h2,h3⟩
    rw[addL_old (by omega)]at h2 h3
    exact⟨by omega,h2,fun g=>h3 (.inl g)⟩
   ·rintro⟨h1,h2,h3⟩
    rw[addL_old h1]
    refine⟨by omega,h2,fun g=>?_⟩
    rcases g with g|g
    ·exact h3 g
    ·exact hnx i h1 h2 g
end
def moveS(d:Dc)(s:Nat):Dc:={d with m:=d.m+1,I:=upd d.I d.m (d.X s),X:=upd d.X s (-1)}
def moveD(hf:Vl->Nat):Nat->Dc->Dc
 |0,d=>d
 |f+1,d=>match slotOf d (intV ((d.m:Int)+1)) (hf (intV ((d.m:Int)+1)))with
  |none=>d
  |some s=>moveD hf f (moveS d s)
theorem moveD_none{hf:Vl->Nat}{d:Dc}{f:Nat}(h:slotOf d (intV ((d.m:Int)+1)) (hf (intV ((d.m:Int)+1)))=none):moveD hf f d=d:=by
 cases f with
 |zero=>rfl
 |succ f=>show(match slotOf d (intV ((d.m:Int)+1)) (hf (intV ((d.m:Int)+1)))with|none=>d|some s=>moveD hf f (moveS d s))=d;rw[h]
theorem moveD_some{hf:Vl->Nat}{d:Dc}{f s:Nat}(h:slotOf d (intV ((d.m:Int)+1)) (hf (intV ((d.m:Int)+1)))=some s):moveD hf (f+1) d=moveD hf f (moveS d s):=by
 show(match slotOf d (intV ((d.m:Int)+1)) (hf (intV ((d.m:Int)+1)))with|none=>d|some s=>moveD hf f (moveS d s))=_;rw[h]
def posN(X:Nat->Int):Nat->Nat
 |0=>0
 |k+1=>if 0<X k then posN X k+1 else posN X k
theorem posN_le(X:Nat->Int)(k:Nat):posN X k<=k:=by
 induction k with
 |zero=>exact Nat.le_refl _
 |succ k ih=>
  show(if 0<X k then posN X k+1 else posN X k)<=k+1
  by_cases e:0<X k
  ·rw[if_pos e];omega
  ·rw[if_neg e];omega
theorem posN_leave{X:Nat->Int}{s:Nat}(h0:0<X s):∀k,posN (upd X s (-1)) k+(if s<k then 1 else 0)=posN X k:=by
 intro k
 induction k with
 |zero=>rfl
 |succ k ih=>
  show(if 0<upd X s (-1) k then posN (upd X s (-1)) k+1 else posN (upd X s (-1)) k)+_=(if 0<X k then posN X k+1 else posN X k)
  by_cases e:k=s
  ·subst e
   rw[upd_same,if_neg (by omega),if_pos h0,if_pos (by omega)]
   rw[if_neg (by omega)]at ih
   omega
  ·rw[upd_other _ _ e]
   by_cases e2:s<k
   ·rw[if_pos (show s<k+1 by omega)]
    rw[if_pos e2]at ih
    by_cases e1:0<X k
    ·rw[if_pos e1,if_pos e1];omega
    ·rw[if_neg e1,if_neg e1];omega
   ·rw[if_neg (show¬s<k+1 by omega)]
    rw[if_neg e2]at ih
    by_cases e1:0<X k
    ·rw[if_pos e1,if_pos e1];omega
    ·rw[if_neg e1,if_neg e1];omega
section
variable {K:Vl->Prop} {hf:Vl->Nat} {d:Dc}
theorem Inv0.slot(h:Inv0 K hf d){v:Vl}{a s:Nat}(e:slotOf d v a=some s):s<d.x/\0<d.X s/\inX d (d.X s-1).toNat/\likeB (d.L (d.X s-1).toNat).key v=true:=by
 obtain⟨h1,h2,h3,h4⟩:=slotOf_says e
 rcases h.idx.range s h1 with g|g|g
 ·omega
 ·omega
 ·exact⟨h1,h2,g.2,h3⟩
theorem moveS_inv(KL:KeyLaw K hf)(h:Inv0 K hf d){s:Nat}(e:slotOf d (intV ((d.m:Int)+1)) (hf (intV ((d.m:Int)+1)))=some s):Inv0 K hf (moveS d s):=by
 obtain⟨h1,h2,h3,h4⟩:=h.slot e
 have hkd:(d.L (d.X s-1).toNat).key.kind=2:=like_kind h4
 have hnm:(d.L (d.X s-1).toNat).key.num=(d.m:Int)+1:=like_num h4
 have huniq:∀i,i<d.n->(d.L i).turn≠0->(d.L i).key.kind=2->(d.L i).key.num=(d.m:Int)+1->i=(d.X s-1).toNat:=fun i hi ht g1 g2=>
  h.dist _ _ hi h3.1 ht h3.2.1 (KL.int _ _ (h.keys i hi ht) (h.keys _ h3.1 h3.2.1) g1 hkd (by omega))
 refine Core.inv0 ⟨⟨h.log.ent,h.log.ord,h.log.cnt⟩,h.keys,h.dist,fun j hj=>?_,?_,fun i hi ht hsm=>?_,h.turns,h.le⟩ ⟨h.sz,?_,?_,?_⟩
 ·have hj:j<d.m+1:=hj
  unfold okInt
  by_cases e:j=d.m
  ·right
   have hI:(moveS d s).I j=d.X s:=by subst e;exact upd_same _ _ _
   rw[hI]
   have hat:(moveS d s).at (d.X s)=d.L (d.X s-1).toNat:=rfl
   rw[hat]
   exact⟨h2,by show _<=(d.n:Int);have:=h3.1;omega,h3.2.1,hkd,by omega⟩
  ·have hI:(moveS d s).I j=d.I j:=upd_other _ _ e
   rw[hI]
   exact h.ints j (by omega)
 ·right
  show 0<upd d.I d.m (d.X s) (d.m+1-1)
  rw[show d.m+1-1=d.m by omega,upd_same]
  exact h2
 ·have hsm:smallK (d.m+1) (d.L i).key:=hsm
  show upd d.I d.m (d.X s) ((d.L i).key.num-1).toNat=_
  rcases small_succ.1 hsm with g|⟨g1,g2⟩
  ·have:=g.2.1
   have:=g.2.2
   rw[upd_other _ _ (by omega)]
   exact h.small i hi ht g
  ·have:=huniq i hi ht g1 g2
   rw[g2,show((d.m:Int)+1-1).toNat=d.m by omega,upd_same]
   omega
 ·refine(h.idx.leave h1 h2).congr (fun i=>?_) (fun _ _=>rfl)
  unfold inX
  show(i<d.n/\(d.L i).turn≠0/\¬smallK (d.m+1) (d.L i).key)↔_
  rw[small_succ]
  constructor
  ·rintro⟨g1,g2,g3⟩
   refine⟨⟨g1,g2,fun g=>g3 (.inl g)⟩,fun e=>g3 (.inr ?_)⟩
   have:i=(d.X s-1).toNat:=by omega
   rw[this]
   exact⟨hkd,hnm⟩
  ·rintro⟨⟨g1,g2,g3⟩,g4⟩
   refine⟨g1,g2,fun g=>?_⟩
   rcases g with g|⟨g5,g6⟩
   ·exact g3 g
   ·have:=huniq i g1 g2 g5 g6
    omega
 ·show(useN (upd d.X s (-1)) d.x:Int)=d.used
  rw[<-h.used,useN_congr (X:=upd d.X s (-1)) (Y:=d.X) (fun j hj=>?_)]
  by_cases e:j=s
  ·subst e;rw[upd_same];constructor<;>intro g<;>omega
  ·rw[upd_other _ _ e]
 ·show 2*useN (upd d.X s (-1)) d.x<=d.x
  rw[useN_congr (X:=upd d.X s (-1)) (Y:=d.X) (fun j hj=>?_)]
  ·exact h.half
  ·by_cases e:j=s
   ·subst e;rw[upd_same];constructor<;>intro g<;>omega
   ·rw[upd_other _ _ e]
theorem Inv0.next_of(KL:KeyLaw K hf)(h:Inv0 K hf d)(e:slotOf d (intV ((d.m:Int)+1)) (hf (intV ((d.m:Int)+1)))=none):Next d:=by
 intro i hi ht ⟨h1,h2⟩
 obtain⟨s,_,_,g⟩:=h.found KL (KL.own ((d.m:Int)+1)) ⟨hi,ht,fun g=>by have:=g.2.2;omega⟩ (KL.int _ _ (h.keys i hi ht) (KL.own _) h1 rfl h2)
 rw[e]at g
 cases g
theorem moveD_inv(KL:KeyLaw K hf):∀(f:Nat) (d:Dc),Inv0 K hf d->posN d.X d.x<f->Inv0 K hf (moveD hf f d)/\Next (moveD hf f d)/\(moveD hf f d).n=d.n/\(moveD hf f d).L=d.L/\(moveD hf f d).live=d.live/\(moveD hf f d).turns=d.turns:=by
 intro f
 induction f with
 |zero=>intro d _ h;omega
 |succ f ih=>
  intro d h hp
  cases e:slotOf d (intV ((d.m:Int)+1)) (hf (intV ((d.m:Int)+1)))with
  |none=>rw[moveD_none e];exact⟨h,h.next_of KL e,rfl,rfl,rfl,rfl⟩
  |some s=>
   rw[moveD_some e]
   obtain⟨h1,h2,h3,h4⟩:=h.slot e
   have:=posN_leave (X:=d.X) h2 d.x
   rw[if_pos h1]at this
   exact ih _ (moveS_inv KL h e) (by show posN (upd d.X s (-1)) d.x<f;omega)
end
noncomputable def roomD(hf:Vl->Nat)(c:Dc):Dc:=if(c.x:Int)<2*(c.used+1)then reindexD hf c 1 else c
open Classical in
noncomputable def comeC(hf:Vl->Nat)(c:Dc)(k v:Vl):Dc:=
 if smallK c.m k then addSmall c k v
 else if k.kind=2/\k.num=(c.m:Int)+1 then moveD hf (c.x+1) (addNext c k v)
 else enterD hf (addL (roomD hf c) k v) k c.n
noncomputable def comeD(hf:Vl->Nat)(d:Dc)(k v:Vl):Dc:=comeC hf (compactD hf d) k v
section
variable {K:Vl->Prop} {hf:Vl->Nat} {c d:Dc} {k v:Vl}
theorem Core.idx_le(h:Core K c):(idxN c c.n:Int)<=c.live:=by
 have h1:=idxN_le c c.n
 have h2:(lvN c:Int)=c.live:=h.live_n
 unfold lvN at h2
 omega
theorem roomD_inv(h:Inv0 K hf c)(hl:c.live<500):Inv0 K hf (roomD hf c)/\2*(useN (roomD hf c).X (roomD hf c).x+1)<=(roomD hf c).x/\SameLog (roomD hf c) c:=by
 unfold roomD
 split
 ·have h1:=h.core.idx_le
  have hm:idxN c c.n+1<=500:=by omega
  exact⟨reindexD_inv h.core hm,(reindexD_ix h.core hm).2 (by omega),reindexD_same h.core hm⟩
 ·next e=>
  have:=h.used
  exact⟨h,by omega,rfl,rfl,rfl,rfl,rfl,rfl⟩
theorem comeC_inv(KL:KeyLaw K hf)(h:Inv0 K hf c)(hn:Next c)(hk:K k)(hkb:keyB k=true)(hv:v.ok=true)(hv0:v.kind≠0)(hno:∀i,i<c.n->(c.L i).turn≠0->likeB (c.L i).key k=false)(hl:c.live<500)(ht:c.turns<1000000000000):
  Inv0 K hf (comeC hf c k v)/\Next (comeC hf c k v)/\(comeC hf c k v).n=c.n+1/\(comeC hf c k v).L=upd c.L c.n ⟨k,v,c.turns+1⟩/\(comeC hf c k v).live=c.live+1/\(comeC hf c k v).turns=c.turns+1:=by
 unfold comeC
 by_cases hs:smallK c.m k
 ·rw[if_pos hs]
  refine⟨addSmall_inv KL h hk hkb hv hv0 hno hs hl ht,fun i hi hti=>?_,rfl,rfl,rfl,rfl⟩
  have hi:i<c.n+1:=hi
  by_cases e:i=c.n
  ·subst e
   rw[show(addSmall c k v).L c.n=⟨k,v,c.turns+1⟩from addL_new]
   rintro⟨_,g⟩
   have:=hs.2.2
   have g:k.num=(c.m:Int)+1:=g
   omega
  ·rw[show(addSmall c k v).L i=c.L i from addL_old (by omega)]at hti ⊢
   exact hn i (by omega) hti
 ·rw[if_neg hs]
  by_cases hx:k.kind=2/\k.num=(c.m:Int)+1
  ·rw[if_pos hx]
   have h1:=addNext_inv KL h hk hkb hv hv0 hno hx.1 hx.2 hl ht
   obtain⟨g1,g2,g3,g4,g5,g6⟩:=moveD_inv KL (c.x+1) (addNext c k v) h1 (by have:=posN_le c.X c.x;show posN c.X c.x<_;omega)
   exact⟨g1,g2,g3,g4,g5,g6⟩
  ·rw[if_neg hx]
   obtain⟨r1,r2,r3⟩:=roomD_inv (hf:=hf) h hl
   generalize hc':roomD hf c=c' at r1 r2 r3
   have hno':∀i,i<c'.n->(c'.L i).turn≠0->likeB (c'.L i).key k=false:=by rw[r3.n,r3.L];exact hno
   have hlog:=addL_log r1.log r1.turns.1 hkb hv hv0
   have hP:¬inX c' c.n:=by rintro⟨g,_⟩;have:=r3.n;omega
   have hcn:(addL c' k v).L c.n=⟨k,v,c'.turns+1⟩:=by rw[<-r3.n];exact addL_new
   have hidx:Idx hf (addL c' k v).L c'.x c'.X (inX c'):=r1.idx.congr (fun _=>Iff.rfl) (fun i hi=>by rw[addL_old hi.1])
   obtain⟨g1,g2,g3,g4,g5,g6,g7,g8,g9,g10⟩:=enterD_idx (hf:=hf) (d:=addL c' k v) (L:=(addL c' k v).L) (k:=k) (p:=c.n) (P:=inX c') hidx hP (by rw[hcn]) (by show useN c'.X c'.x<c'.x;omega) r1.used
   have hgx:(addL c' k v).x=c'.x:=rfl
   have hgX:(addL c' k v).X=c'.X:=rfl
   rw[hgx]at g3 g10
   rw[hgX]at g10
   have core':Core K (enterD hf (addL c' k v) k c.n):=Core.of_same (c:=addL c' k v) ⟨⟨hlog.ent,hlog.ord,hlog.cnt⟩,addL_keys r1.core hk,addL_dist KL r1.core hk hno',fun j hj=>okInt_add (r1.ints j hj) rfl (fun i hi=>addL_old hi) rfl,r1.last,fun i hi hti hsm=>by
     have hi:i<c'.n+1:=hi
     by_cases e:i=c'.n
     ·subst e
      rw[addL_new]at hsm
      have hsm:smallK c'.m k:=hsm
      rw[r3.m]at hsm
      exact absurd hsm hs
     ·rw[addL_old (by omega)]at hti hsm ⊢
      exact r1.small i (by omega) hti hsm,⟨by show 0<=c'.turns+1;have:=r1.turns.1;omega,by show c'.turns+1<=_;rw[r3.turns];omega⟩,by show c'.live+1<=500;rw[r3.live];omega⟩ ⟨g4,g5,g6,g7,g8,g9⟩
   refine⟨core'.inv0 ⟨by rw[g3];exact r1.sz,?_,g2,by rw[g3];omega⟩,fun i hi hti=>?_,?_,?_,?_,?_⟩
   ·rw[g5]
    refine g1.congr (fun i=>?_) (fun _ _=>rfl)
    unfold inX
    rw[g4,g5,g6]
    show(i<c'.n+1/\((addL c' k v).L i).turn≠0/\¬smallK c'.m ((addL c' k v).L i).key)↔_
    by_cases e:i=c'.n
    ·subst e
     rw[addL_new]
     constructor
     ·rintro _;exact .inr r3.n
     ·rintro _
      refine⟨by omega,?_,?_⟩
      ·show c'.turns+1≠0
       have:=r1.turns.1
       omega
      ·show¬smallK c'.m k
       rw[r3.m];exact hs
    ·constructor
     ·rintro⟨e1,e2⟩
      rw[addL_old (by omega)]at e2
      exact .inl ⟨by omega,e2⟩
     ·rintro(⟨e1,e2⟩|e1)
      ·rw[addL_old e1];exact⟨by omega,e2⟩
      ·rw[<-r3.n]at e1;exact absurd e1 e
   ·rw[g4]at hi
    rw[g5]at hti ⊢
    rw[g6]
    have hi:i<c'.n+1:=hi
    show¬(_/\_=(c'.m:Int)+1)
    rw[r3.m]
    by_cases e:i=c'.n
    ·subst e
     rw[addL_new]
     exact hx
    ·rw[addL_old (by omega)]at hti ⊢
     rw[r3.L]at hti ⊢
     exact hn i (by rw[<-r3.n];omega) hti
   ·rw[g4];show c'.n+1=_;rw[r3.n]
   ·rw[g5];show upd c'.L c'.n ⟨k,v,c'.turns+1⟩=_;rw[r3.L,r3.n,r3.turns]
   ·rw[g8];show c'.live+1=_;rw[r3.live]
   ·rw[g9];show c'.turns+1=_;rw[r3.turns]
theorem comeD_inv(KL:KeyLaw K hf)(h:Inv K hf d)(hk:K k)(hkb:keyB k=true)(hv:v.ok=true)(hv0:v.kind≠0)(hno:∀i,i<d.n->(d.L i).turn≠0->likeB (d.L i).key k=false)(hl:d.live<500)(ht:d.turns<1000000000000):Inv K hf (comeD hf d k v):=by
 obtain⟨c1,c2,c3,c4⟩:=compactD_live (hf:=hf) h.i0.core
 have hno':∀i,i<(compactD hf d).n->((compactD hf d).L i).turn≠0->likeB ((compactD hf d).L i).key k=false:=by
  intro i hi hti
  cases e:likeB ((compactD hf d).L i).key k
  ·rfl
  ·obtain⟨j,g1,g2,g3⟩:=(compactD_pairs (hf:=hf) h.i0.core (fun p=>likeB p.key k=true)).1 ⟨i,hi,hti,e⟩
   rw[hno j g1 g2]at g3
   cases g3
 obtain⟨g1,g2,g3,g4,g5,g6⟩:=comeC_inv KL (compactD_inv h.i0) (compactD_next h.i0.core h.next) hk hkb hv hv0 hno' (by omega) (by omega)
 refine⟨g1,g2,?_⟩
 unfold Tight
 show((comeC hf (compactD hf d) k v).n:Int)<=8\/((comeC hf (compactD hf d) k v).n:Int)<=2*(comeC hf (compactD hf d) k v).live
 rw[g3,g5]
 omega
end
def shrink(I:Nat->Int):Nat->Nat
 |0=>0
 |m+1=>if I m=0 then shrink I m else m+1
theorem shrink_zero{I:Nat->Int}{m:Nat}(h:I m=0):shrink I (m+1)=shrink I m:=if_pos h
theorem shrink_stop{I:Nat->Int}{m:Nat}(h:I m≠0):shrink I (m+1)=m+1:=if_neg h
theorem shrink_says(I:Nat->Int)(m:Nat):shrink I m<=m/\(shrink I m=0\/I (shrink I m-1)≠0)/\∀j,shrink I m<=j->j<m->I j=0:=by
 induction m with
 |zero=>exact⟨Nat.le_refl _,.inl rfl,fun j _ h=>by omega⟩
 |succ m ih=>
  by_cases e:I m=0
  ·rw[shrink_zero e]
   refine⟨by omega,ih.2.1,fun j h1 h2=>?_⟩
   by_cases e':j=m
   ·subst e';exact e
   ·exact ih.2.2 j h1 (by omega)
  ·rw[shrink_stop e]
   exact⟨Nat.le_refl _,.inr (by rw[show m+1-1=m by omega];exact e),fun j h1 h2=>by omega⟩
def deadL(d:Dc)(p:Nat):Dc:={d with L:=upd d.L p default,live:=d.live-1}
section
variable {K:Vl->Prop} {hf:Vl->Nat} {d:Dc} {p:Nat}
theorem deadL_other{i:Nat}(h:i≠p):(deadL d p).L i=d.L i:=upd_other _ _ h
theorem deadL_same:(deadL d p).L p=default:=upd_same _ _ _
theorem dead_turn:(default:Pr).turn=0:=rfl
theorem deadL_live{i:Nat}(h:((deadL d p).L i).turn≠0):i≠p/\(deadL d p).L i=d.L i:=by
 by_cases e:i=p
 ·subst e;rw[deadL_same]at h;exact absurd dead_turn h
 ·exact⟨e,deadL_other e⟩
theorem deadL_count(ht:(d.L p).turn≠0):∀k,(livL (deadL d p) k).length+(if p<k then 1 else 0)=(livL d k).length:=by
 intro k
 induction k with
 |zero=>rfl
 |succ k ih=>
  by_cases e:k=p
  ·subst e
   rw[livL_dead (by rw[deadL_same];rfl),livL_live ht,List.length_append,List.length_singleton,if_pos (by omega)]
   rw[if_neg (by omega)]at ih
   omega
  ·have hL:(deadL d p).L k=d.L k:=deadL_other e
   by_cases e0:(d.L k).turn=0
   ·rw[livL_dead (by rw[hL];exact e0),livL_dead e0,<-ih]
    congr 1
    by_cases e2:p<k
    ·rw[if_pos e2,if_pos (show p<k+1 by omega)]
    ·rw[if_neg e2,if_neg (show¬p<k+1 by omega)]
   ·rw[livL_live (by rw[hL];exact e0),livL_live e0,List.length_append,List.length_append,List.length_singleton,<-ih]
    by_cases e2:p<k
    ·rw[if_pos e2,if_pos (show p<k+1 by omega)]
    ·rw[if_neg e2,if_neg (show¬p<k+1 by omega)]
theorem deadL_log(KL:KeyLaw K hf)(h:LogOk d)(hp:p<d.n)(ht:(d.L p).turn≠0):LogOk (deadL d p):=by
 refine⟨fun i hi=>?_,fun i j hij hj ti tj=>?_,?_⟩
 ·by_cases e:i=p
  ·subst e
   left
   rw[deadL_same]
   exact⟨rfl,KL.none,KL.none⟩
  ·have:=h.ent i hi
   unfold Entry at this ⊢
   rw[deadL_other e]
   exact this
 ·obtain⟨_,e1⟩:=deadL_live ti
  obtain⟨_,e2⟩:=deadL_live tj
  rw[e1]at ti ⊢
  rw[e2]at tj ⊢
  exact h.ord i j hij hj ti tj
 ·have h1:=deadL_count (d:=d) ht d.n
  rw[if_pos hp]at h1
  have h2:((livL d d.n).length:Int)=d.live:=h.cnt
  show((livL (deadL d p) d.n).length:Int)=d.live-1
  omega
def goSmall(d:Dc)(p:Nat):Dc:={deadL d p with m:=shrink (upd d.I ((d.L p).key.num-1).toNat 0) d.m,I:=upd d.I ((d.L p).key.num-1).toNat 0}
theorem goSmall_inv(KL:KeyLaw K hf)(h:Inv0 K hf d)(hn:Next d)(hp:p<d.n)(ht:(d.L p).turn≠0)(hs:smallK d.m (d.L p).key):Inv0 K hf (goSmall d p)/\Next (goSmall d p):=by
 have hlog:=deadL_log KL h.log hp ht
 have hI:=h.small p hp ht hs
 obtain⟨k1,k2,k3⟩:=hs
 obtain⟨q,hq⟩:∃q,q=((d.L p).key.num-1).toNat:=⟨_,rfl⟩
 have hqm:q<d.m:=by omega
 obtain⟨s1,s2,s3⟩:=shrink_says (upd d.I q 0) d.m
 have hm:(goSmall d p).m=shrink (upd d.I q 0) d.m:=by rw[hq];rfl
 have hII:(goSmall d p).I=upd d.I q 0:=by rw[hq];rfl
 rw[<-hq]at hI
 have still:∀i,i<d.n->(d.L i).turn≠0->i≠p->smallK d.m (d.L i).key->((d.L i).key.num-1).toNat≠q/\smallK (goSmall d p).m (d.L i).key:=by
  intro i hi hti hip hsm
  have h1:=h.small i hi hti hsm
  have hne:((d.L i).key.num-1).toNat≠q:=fun e=>by rw[e]at h1;omega
  refine⟨hne,hsm.1,hsm.2.1,?_⟩
  have a1:=hsm.2.1
  have a2:=hsm.2.2
  rw[hm]
  by_cases e:(d.L i).key.num<=((shrink (upd d.I q 0) d.m:Nat):Int)
  ·exact e
  ·have:=s3 ((d.L i).key.num-1).toNat (by omega) (by omega)
   rw[upd_other _ _ hne]at this
   omega
 have smaller:∀k:Vl,smallK (goSmall d p).m k->smallK d.m k:=fun k g=>⟨g.1,g.2.1,by have:=g.2.2;rw[hm]at this;omega⟩
 refine⟨Core.inv0 ⟨⟨hlog.ent,hlog.ord,hlog.cnt⟩,fun i hi hti=>?_,fun i j hi hj ti tj hl=>?_,fun j hj=>?_,?_,fun i hi hti hsm=>?_,h.turns,by show d.live-1<=500;have:=h.le;omega⟩ ⟨h.sz,?_,h.used,h.half⟩,fun i hi hti hc=>?_⟩
 ·obtain⟨_,e1⟩:=deadL_live hti
  have e1:(goSmall d p).L i=d.L i:=e1
  rw[e1]at hti ⊢
  exact h.keys i hi hti
 ·obtain⟨_,e1⟩:=deadL_live ti
  obtain⟨_,e2⟩:=deadL_live tj
  have e1:(goSmall d p).L i=d.L i:=e1
  have e2:(goSmall d p).L j=d.L j:=e2
  rw[e1]at ti hl
  rw[e2]at tj hl
  exact h.dist i j hi hj ti tj hl
 ·unfold okInt
  rw[hII]
  rw[hm]at hj
  by_cases e:j=q
  ·left;subst e;exact upd_same _ _ _
  ·rw[upd_other _ _ e]
   rcases h.ints j (by omega)with g|⟨g1,g2,g3,g4,g5⟩
   ·exact .inl g
   ·right
    have hne:(d.I j-1).toNat≠p:=fun e'=>by
     have g5:(d.L (d.I j-1).toNat).key.num=j+1:=g5
     rw[e']at g5
     omega
    have hat:(goSmall d p).at (d.I j)=d.at (d.I j):=deadL_other hne
    rw[hat]
    exact⟨g1,g2,g3,g4,g5⟩
 ·rw[hm,hII]
  rcases s2 with e|e
  ·exact .inl e
  ·right
   by_cases e0:shrink (upd d.I q 0) d.m=0
   ·have hj:shrink (upd d.I q 0) d.m-1<d.m:=by omega
    by_cases e1:shrink (upd d.I q 0) d.m-1=q
    ·rw[e1,upd_same]at e;exact absurd rfl e
    ·rw[upd_other _ _ e1]at e ⊢
     rcases h.ints _ hj with g|g
     ·exact absurd g e
     ·exact g.1
   ·have hj:shrink (upd d.I q 0) d.m-1<d.m:=by omega
    by_cases e1:shrink (upd d.I q 0) d.m-1=q
    ·rw[e1,upd_same]at e;exact absurd rfl e
    ·rw[upd_other _ _ e1]at e ⊢
     rcases h.ints _ hj with g|g
     ·exact absurd g e
     ·exact g.1
 ·obtain⟨e0,e1⟩:=deadL_live hti
  have e1:(goSmall d p).L i=d.L i:=e1
  rw[e1]at hti hsm ⊢
  have hsm':=smaller _ hsm
  rw[hII,upd_other _ _ (still i hi hti e0 hsm').1]
  exact h.small i hi hti hsm'
 ·refine h.idx.congr (fun i=>?_) (fun i hi=>?_)
  ·unfold inX
   constructor
   ·rintro⟨g1,g2,g3⟩
    obtain⟨e0,e1⟩:=deadL_live g2
    have e1:(goSmall d p).L i=d.L i:=e1
    rw[e1]at g2 g3
    exact⟨g1,g2,fun g=>g3 (still i g1 g2 e0 g).2⟩
   ·rintro⟨g1,g2,g3⟩
    have hne:i≠p:=fun e=>by subst e;exact g3 ⟨k1,k2,k3⟩
    have e1:(goSmall d p).L i=d.L i:=deadL_other hne
    rw[e1]
    exact⟨g1,g2,fun g=>g3 (smaller _ g)⟩
  ·have hne:i≠p:=fun e=>by subst e;exact hi.2.2 ⟨k1,k2,k3⟩
   rw[show(goSmall d p).L i=d.L i from deadL_other hne]
 ·obtain⟨e0,e1⟩:=deadL_live hti
  have e1:(goSmall d p).L i=d.L i:=e1
  rw[e1]at hti hc
  rw[hm]at hc
  by_cases e:shrink (upd d.I q 0) d.m=d.m
  ·rw[e]at hc
   exact hn i hi hti hc
  ·have hsm:smallK d.m (d.L i).key:=⟨hc.1,by omega,by omega⟩
   have:=(still i hi hti e0 hsm).2.2.2
   rw[hm]at this
   omega
def goSlot(d:Dc)(p s:Nat):Dc:={deadL d p with X:=upd d.X s (-1)}
theorem goSlot_inv(KL:KeyLaw K hf)(h:Inv0 K hf d)(hn:Next d)(hp:p<d.n)(ht:(d.L p).turn≠0)(hs:¬smallK d.m (d.L p).key){s:Nat}(hs1:s<d.x)(hs2:d.X s=p+1):Inv0 K hf (goSlot d p s)/\Next (goSlot d p s):=by
 have hlog:=deadL_log KL h.log hp ht
 have huse:useN (upd d.X s (-1)) d.x=useN d.X d.x:=useN_congr (fun j hj=>by
  by_cases e:j=s
  ·subst e;rw[upd_same];constructor<;>intro g<;>omega
  ·rw[upd_other _ _ e])
 refine⟨Core.inv0 ⟨⟨hlog.ent,hlog.ord,hlog.cnt⟩,fun i hi hti=>?_,fun i j hi hj ti tj hl=>?_,fun j hj=>?_,h.last,fun i hi hti hsm=>?_,h.turns,by show d.live-1<=500;have:=h.le;omega⟩ ⟨h.sz,?_,?_,?_⟩,fun i hi hti hc=>?_⟩
 ·obtain⟨_,e1⟩:=deadL_live hti
  have e1:(goSlot d p s).L i=d.L i:=e1
  rw[e1]at hti ⊢
  exact h.keys i hi hti
 ·obtain⟨_,e1⟩:=deadL_live ti
  obtain⟨_,e2⟩:=deadL_live tj
  have e1:(goSlot d p s).L i=d.L i:=e1
  have e2:(goSlot d p s).L j=d.L j:=e2
  rw[e1]at ti hl
  rw[e2]at tj hl
  exact h.dist i j hi hj ti tj hl
 ·rcases h.ints j hj with g|⟨g1,g2,g3,g4,g5⟩
  ·exact .inl g
  ·right
   have hj:j<d.m:=hj
   have hne:(d.I j-1).toNat≠p:=fun e'=>by
    have g4:(d.L (d.I j-1).toNat).key.kind=2:=g4
    have g5:(d.L (d.I j-1).toNat).key.num=j+1:=g5
    rw[e']at g4 g5
    exact hs ⟨g4,by omega,by omega⟩
   have hat:(goSlot d p s).at (d.I j)=d.at (d.I j):=deadL_other hne
   show 0<d.I j/\d.I j<=d.n/\((goSlot d p s).at (d.I j)).turn≠0/\((goSlot d p s).at (d.I j)).key.kind=2/\((goSlot d p s).at (d.I j)).key.num=j+1
   rw[hat]
   exact⟨g1,g2,g3,g4,g5⟩
 ·obtain⟨e0,e1⟩:=deadL_live hti
  have e1:(goSlot d p s).L i=d.L i:=e1
  rw[e1]at hti hsm ⊢
  exact h.small i hi hti hsm
 ·refine(h.idx.leave hs1 (by omega)).congr (fun i=>?_) (fun i hi=>?_)
  ·unfold inX
   constructor
   ·rintro⟨g1,g2,g3⟩
    obtain⟨e0,e1⟩:=deadL_live g2
    have e1:(goSlot d p s).L i=d.L i:=e1
    rw[e1]at g2 g3
    exact⟨⟨g1,g2,g3⟩,by omega⟩
   ·rintro⟨⟨g1,g2,g3⟩,g4⟩
    have e1:(goSlot d p s).L i=d.L i:=deadL_other (by omega)
    rw[e1]
    exact⟨g1,g2,g3⟩
  ·rw[show(goSlot d p s).L i=d.L i from deadL_other (by have:=hi.2;omega)]
 ·show(useN (upd d.X s (-1)) d.x:Int)=d.used
  rw[huse];exact h.used
 ·show 2*useN (upd d.X s (-1)) d.x<=d.x
  rw[huse];exact h.half
 ·obtain⟨e0,e1⟩:=deadL_live hti
  have e1:(goSlot d p s).L i=d.L i:=e1
  rw[e1]at hti hc
  exact hn i hi hti hc
end
open Classical in
noncomputable def goC(hf:Vl->Nat)(d:Dc)(p:Nat):Dc:=
 if smallK d.m (d.L p).key then goSmall d p
 else match slotOf d (d.L p).key (hf (d.L p).key)with
  |none=>d
  |some s=>goSlot d p s
noncomputable def goD(hf:Vl->Nat)(d:Dc)(p:Nat):Dc:=compactD hf (goC hf d p)
theorem goC_small{hf:Vl->Nat}{d:Dc}{p:Nat}(h:smallK d.m (d.L p).key):goC hf d p=goSmall d p:=if_pos h
theorem goC_slot{hf:Vl->Nat}{d:Dc}{p s:Nat}(h:¬smallK d.m (d.L p).key)(e:slotOf d (d.L p).key (hf (d.L p).key)=some s):goC hf d p=goSlot d p s:=by
 unfold goC;rw[if_neg h,e]
section
variable {K:Vl->Prop} {hf:Vl->Nat} {d:Dc} {p:Nat}
theorem goC_inv(KL:KeyLaw K hf)(h:Inv0 K hf d)(hn:Next d)(hp:p<d.n)(ht:(d.L p).turn≠0):Inv0 K hf (goC hf d p)/\Next (goC hf d p)/\(goC hf d p).n=d.n/\(goC hf d p).L=upd d.L p default/\(goC hf d p).live=d.live-1/\(goC hf d p).turns=d.turns:=by
 by_cases hs:smallK d.m (d.L p).key
 ·rw[goC_small hs]
  obtain⟨g1,g2⟩:=goSmall_inv KL h hn hp ht hs
  exact⟨g1,g2,rfl,rfl,rfl,rfl⟩
 ·obtain⟨s,h1,h2,h3⟩:=h.found KL (h.keys p hp ht) ⟨hp,ht,hs⟩ (KL.refl _ (h.keys p hp ht))
  rw[goC_slot hs h3]
  obtain⟨g1,g2⟩:=goSlot_inv KL h hn hp ht hs h1 h2
  exact⟨g1,g2,rfl,rfl,rfl,rfl⟩
theorem goD_inv(KL:KeyLaw K hf)(h:Inv K hf d)(hp:p<d.n)(ht:(d.L p).turn≠0):Inv K hf (goD hf d p):=by
 obtain⟨g1,g2,g3,g4,g5,g6⟩:=goC_inv KL h.i0 h.next hp ht
 obtain⟨c1,c2,c3,c4⟩:=compactD_live (hf:=hf) g1.core
 refine⟨compactD_inv g1,compactD_next g1.core g2,?_⟩
 unfold Tight goD
 rw[c1]
 omega
end
def setV(d:Dc)(p:Nat)(v:Vl):Dc:={d with L:=upd d.L p ⟨(d.L p).key,v,(d.L p).turn⟩}
section
variable {K:Vl->Prop} {hf:Vl->Nat} {d:Dc} {p:Nat} {v:Vl}
theorem setV_key(i:Nat):((setV d p v).L i).key=(d.L i).key:=by
 show(upd d.L p _ i).key=_
 by_cases e:i=p
 ·subst e;rw[upd_same]
 ·rw[upd_other _ _ e]
theorem setV_turn(i:Nat):((setV d p v).L i).turn=(d.L i).turn:=by
 show(upd d.L p _ i).turn=_
 by_cases e:i=p
 ·subst e;rw[upd_same]
 ·rw[upd_other _ _ e]
theorem setV_inv(h:Inv K hf d)(hp:p<d.n)(ht:(d.L p).turn≠0)(hv:v.ok=true)(hv0:v.kind≠0):Inv K hf (setV d p v):=by
 have h0:=h.i0
 refine⟨Core.inv0 ⟨⟨fun i hi=>?_,fun i j hij hj ti tj=>?_,?_⟩,fun i hi hti=>?_,fun i j hi hj ti tj hl=>?_,fun j hj=>?_,h0.last,fun i hi hti hsm=>?_,h0.turns,h0.le⟩ ⟨h0.sz,?_,h0.used,h0.half⟩,fun i hi hti hc=>?_,h.tight⟩
 ·by_cases e:i=p
  ·subst e
   rcases h0.log.ent i hi with g|g
   ·exact absurd g.1 ht
   ·right
    rw[show(setV d i v).L i=⟨(d.L i).key,v,(d.L i).turn⟩from upd_same _ _ _]
    exact⟨g.1,g.2.1,g.2.2.1,hv,hv0⟩
  ·have:=h0.log.ent i hi
   unfold Entry at this ⊢
   rw[show(setV d p v).L i=d.L i from upd_other _ _ e]
   exact this
 ·rw[setV_turn]at ti tj ⊢
  rw[setV_turn]
  exact h0.log.ord i j hij hj ti tj
 ·show((livL (setV d p v) d.n).length:Int)=d.live
  rw[livL_congr (d:=setV d p v) (c:=d) d.n (fun i _=>by rw[setV_turn])]
  exact h0.log.cnt
 ·rw[setV_turn]at hti
  rw[setV_key]
  exact h0.keys i hi hti
 ·rw[setV_turn]at ti tj
  rw[setV_key,setV_key]at hl
  exact h0.dist i j hi hj ti tj hl
 ·have:=h0.ints j hj
  unfold okInt Dc.at at this ⊢
  rw[setV_turn,setV_key]
  exact this
 ·rw[setV_turn]at hti
  rw[setV_key]at hsm ⊢
  exact h0.small i hi hti hsm
 ·refine h0.idx.congr (fun i=>?_) (fun i _=>setV_key i)
  unfold inX
  rw[setV_turn,setV_key]
  exact Iff.rfl
 ·rw[setV_turn]at hti
  rw[setV_key]at hc
  exact h.next i hi hti hc
end
open Classical in
noncomputable def putD(hf:Vl->Nat)(d:Dc)(k v:Vl):Dc:=
 if 0<=placeI d k (hf k)then(if v.kind=0 then goD hf d (placeI d k (hf k)).toNat else setV d (placeI d k (hf k)).toNat v)
 else if v.kind≠0/\d.live<500/\d.turns<1000000000000 then comeD hf d k v else d
theorem putD_go{hf:Vl->Nat}{d:Dc}{k v:Vl}(h:0<=placeI d k (hf k))(hv:v.kind=0):putD hf d k v=goD hf d (placeI d k (hf k)).toNat:=by
 unfold putD;rw[if_pos h,if_pos hv]
theorem putD_set{hf:Vl->Nat}{d:Dc}{k v:Vl}(h:0<=placeI d k (hf k))(hv:v.kind≠0):putD hf d k v=setV d (placeI d k (hf k)).toNat v:=by
 unfold putD;rw[if_pos h,if_neg hv]
theorem putD_come{hf:Vl->Nat}{d:Dc}{k v:Vl}(h:¬0<=placeI d k (hf k))(hv:v.kind≠0/\d.live<500/\d.turns<1000000000000):putD hf d k v=comeD hf d k v:=by
 unfold putD;rw[if_neg h,if_pos hv]
theorem putD_not{hf:Vl->Nat}{d:Dc}{k v:Vl}(h:¬0<=placeI d k (hf k))(hv:¬(v.kind≠0/\d.live<500/\d.turns<1000000000000)):putD hf d k v=d:=by
 unfold putD;rw[if_neg h,if_neg hv]
theorem putD_inv{K:Vl->Prop}{hf:Vl->Nat}{d:Dc}{k v:Vl}(KL:KeyLaw K hf)(h:Inv K hf d)(hk:K k)(hkb:keyB k=true)(hv:v.ok=true):Inv K hf (putD hf d k v):=by
 rcases h.i0.place KL hk with⟨i,h1,h2,h3,h4⟩|⟨h1,h2⟩
 ·have hp:0<=placeI d k (hf k):=by omega
  have hi:(placeI d k (hf k)).toNat=i:=by omega
  by_cases hv0:v.kind=0
  ·rw[putD_go hp hv0,hi];exact goD_inv KL h h1 h2
  ·rw[putD_set hp hv0,hi];exact setV_inv h h1 h2 hv hv0
 ·have hp:¬0<=placeI d k (hf k):=by omega
  by_cases hc:v.kind≠0/\d.live<500/\d.turns<1000000000000
  ·rw[putD_come hp hc];exact comeD_inv KL h hk hkb hv hc.1 h1 hc.2.1 hc.2.2
  ·rw[putD_not hp hc];exact h
end
section
open Go.RowKit
theorem feq_cases{x y:Nat}(h:feq x y=true):(∃s m i t n j,Ieee.double.read x=.number s m i/\Ieee.double.read y=.number t n j/\-1074<=i/\-1074<=j/\m<2^53/\n<2^53/\(i=-1074\/2^52<=m)/\(j=-1074\/2^52<=n)/\Fl.sc s m i=Fl.sc t n j)\/∃s,Ieee.double.read x=.infinity s/\Ieee.double.read y=.infinity s:=by
 have h':(Ieee.double.order x y==some .eq)=true:=h
 rcases Fl.read_cases x with⟨s,m,i,hr,hi,hi2,hm,hc⟩|⟨s,hr⟩|⟨s,t,hr⟩
 ·rcases Fl.read_cases y with⟨t,n,j,hr',hj,hj2,hn,hc'⟩|⟨t,hr'⟩|⟨t,u,hr'⟩
  ·left
   rw[Fl.ord_of hr hr' hi hj,Fl.cmp_eq]at h'
   exact⟨s,m,i,t,n,j,hr,hr',hi,hj,hm,hn,hc,hc',of_decide_eq_true h'⟩
  ·exfalso
   unfold Ieee.Format.order at h'
   rw[hr,hr']at h'
   cases t<;>simp[Ieee.Datum.order]at h'
  ·exfalso
   unfold Ieee.Format.order at h'
   rw[hr,hr']at h'
   simp[Ieee.Datum.order]at h'
 ·rcases Fl.read_cases y with⟨t,n,j,hr',hj,hj2,hn,hc'⟩|⟨t,hr'⟩|⟨t,u,hr'⟩
  ·exfalso
   unfold Ieee.Format.order at h'
   rw[hr,hr']at h'
   cases s<;>simp[Ieee.Datum.order]at h'
  ·right
   unfold Ieee.Format.order at h'
   rw[hr,hr']at h'
   cases s<;>cases t<;>simp[Ieee.Datum.order]at h'
   ·exact⟨false,hr,hr'⟩
   ·exact⟨true,hr,hr'⟩
  ·exfalso
   unfold Ieee.Format.order at h'
   rw[hr,hr']at h'
   simp[Ieee.Datum.order]at h'
 ·exfalso
  unfold Ieee.Format.order at h'
  rw[hr]at h'
  simp[Ieee.Datum.order]at h'
theorem feq_number{x y:Nat}{s t:Bool}{m n:Nat}{i j:Int}(hx:Ieee.double.read x=.number s m i)(hy:Ieee.double.read y=.number t n j)(hi:-1074<=i)(hj:-1074<=j)(e:Fl.sc s m i=Fl.sc t n j):feq x y=true:=by
 show(Ieee.double.order x y==some .eq)=true
 rw[Fl.ord_of hx hy hi hj,Fl.cmp_eq]
 exact decide_eq_true e
theorem feq_inf{x y:Nat}{s:Bool}(hx:Ieee.double.read x=.infinity s)(hy:Ieee.double.read y=.infinity s):feq x y=true:=by
 show(Ieee.double.order x y==some .eq)=true
 unfold Ieee.Format.order
 rw[hx,hy]
 cases s<;>simp[Ieee.Datum.order]
theorem feq_symm{x y:Nat}(h:feq x y=true):feq y x=true:=by
 rcases feq_cases h with⟨s,m,i,t,n,j,h1,h2,h3,h4,_,_,_,_,e⟩|⟨s,h1,h2⟩
 ·exact feq_number h2 h1 h4 h3 e.symm
 ·exact feq_inf h2 h1
theorem feq_trans{x y z:Nat}(h:feq x y=true)(h':feq y z=true):feq x z=true:=by
 rcases feq_cases h with⟨s,m,i,t,n,j,h1,h2,h3,h4,_,_,_,_,e⟩|⟨s,h1,h2⟩
 ·rcases feq_cases h' with⟨s',m',i',t',n',j',g1,g2,g3,g4,_,_,_,_,e'⟩|⟨s',g1,g2⟩
  ·rw[h2]at g1
   cases g1
   exact feq_number h1 g2 h3 g4 (e.trans e')
  ·rw[h2]at g1;cases g1
 ·rcases feq_cases h' with⟨s',m',i',t',n',j',g1,g2,g3,g4,_,_,_,_,e'⟩|⟨s',g1,g2⟩
  ·rw[h2]at g1;cases g1
  ·rw[h2]at g1
   cases g1
   exact feq_inf h1 g2
theorem form_one{s t:Bool}{m n:Nat}{i j:Int}(hi:-1074<=i)(hj:-1074<=j)(hm:m<2^53)(hn:n<2^53)(hc:i=-1074\/2^52<=m)(hc':j=-1074\/2^52<=n)(e:Fl.sc s m i=Fl.sc t n j)(h0:Fl.sc s m i≠0):s=t/\m=n/\i=j:=by
 have pos:∀(m:Nat) (i:Int),0<=Fl.sc false m i/\Fl.sc false m i=((m*2^(i+1074).toNat:Nat):Int):=by
  intro m i
  have:Fl.sc false m i=((m*2^(i+1074).toNat:Nat):Int):=by
   unfold Fl.sc
   rw[Fl.signed_eq]
   simp
  exact⟨by rw[this];omega,this⟩
 have core:∀{m n:Nat} {i j:Int},-1074<=i->-1074<=j->m<2^53->n<2^53->(i=-1074\/2^52<=m)->(j=-1074\/2^52<=n)->Fl.sc false m i=Fl.sc false n j->Fl.sc false m i≠0->m=n/\i=j:=by
  intro m n i j hi hj hm hn hc hc' e h0
  rw[(pos m i).2,(pos n j).2]at e
  have e':m*2^(i+1074).toNat=n*2^(j+1074).toNat:=by omega
  have le:∀{m n:Nat} {i j:Int},-1074<=i->m<2^53->(j=-1074\/2^52<=n)->m*2^(i+1074).toNat=n*2^(j+1074).toNat->¬i<j:=by
   intro m n i j hi hm hc' e hlt
   have hn:2^52<=n:=hc'.resolve_left (by omega)
   obtain⟨q,hq⟩:∃q:Nat,(j+1074).toNat=(i+1074).toNat+(q+1):=⟨(j+1074).toNat-(i+1074).toNat-1,by omega⟩
   rw[hq,Nat.pow_add,Nat.mul_comm (2^(i+1074).toNat),<-Nat.mul_assoc]at e
   have hm':m=n*2^(q+1):=Nat.eq_of_mul_eq_mul_right (Nat.two_pow_pos _) e
   have h1:2<=2^(q+1):=by rw[Nat.pow_succ];have:=Nat.two_pow_pos q;omega
   have h2:n*2<=n*2^(q+1):=Nat.mul_le_mul_left n h1
   omega
  have hij:i=j:=by
   have h1:=le hi hm hc' e'
   have h2:=le hj hn hc e'.symm
   omega
  subst hij
  exact⟨Nat.eq_of_mul_eq_mul_right (Nat.two_pow_pos _) e',rfl⟩
 cases s<;>cases t
 ·exact⟨rfl,core hi hj hm hn hc hc' e h0⟩
 ·exfalso
  have e1:Fl.sc true n j=-Fl.sc false n j:=Fl.sc_neg n j
  have h1:=(pos m i).1
  have h2:=(pos n j).1
  omega
 ·exfalso
  have e1:Fl.sc true m i=-Fl.sc false m i:=Fl.sc_neg m i
  have h1:=(pos m i).1
  have h2:=(pos n j).1
  omega
 ·have e1:Fl.sc true m i=-Fl.sc false m i:=Fl.sc_neg m i
  have e2:Fl.sc true n j=-Fl.sc false n j:=Fl.sc_neg n j
  exact⟨rfl,core hi hj hm hn hc hc' (by omega) (by omega)⟩
def Ky(v:Vl):Prop:=keyB v=true/\Wf v
theorem fz_feq{x y:Nat}(h:fz x=true)(h':fz y=true):feq x y=true:=by
 have h1:feq x 0=true:=h
 have h2:feq y 0=true:=h'
 exact feq_trans h1 (feq_symm h2)
theorem like_flt{a b:Vl}(h:likeB a b=true):feq a.flt b.flt=true/\a.str.toList=b.str.toList/\a.ref=b.ref:=by
 unfold likeB at h
 simp only[Bool.and_eq_true,beq_iff_eq]at h
 exact⟨h.2.2.1,h.2.2.2.1,h.2.2.2.2⟩
theorem like_mk{a b:Vl}(h1:a.kind=b.kind)(h2:a.num=b.num)(h3:feq a.flt b.flt=true)(h4:a.str.toList=b.str.toList)(h5:a.ref=b.ref):likeB a b=true:=by
 unfold likeB
 simp[h1,h2,h3,h4,h5]
theorem key_float{v:Vl}(h:Ky v)(h3:v.kind=3):fnan v.flt=false/\fz v.flt=false:=(hk_of h.1 h.2).flt h3 |>.2
theorem toList_inj{a b:ByteArray}(h:a.toList=b.toList):a.data.toList=b.data.toList:=by
 rw[<-ByteArray.toList_eq,<-ByteArray.toList_eq]
 exact h
theorem keyLaw:KeyLaw Ky hN:=by
 refine⟨fun a h=>like_mk rfl rfl (key_feq h.1) rfl rfl,fun a b _ _ h=>?_,fun a b c _ _ _ h h'=>?_,fun a b ha hb h=>?_,fun a b ha hb k1 k2 k3=>?_,fun n=>?_,?_⟩
 ·obtain⟨h1,h2,h3⟩:=like_flt h
  exact like_mk (like_kind h).symm (like_num h).symm (feq_symm h1) h2.symm h3.symm
 ·obtain⟨h1,h2,h3⟩:=like_flt h
  obtain⟨g1,g2,g3⟩:=like_flt h'
  exact like_mk ((like_kind h).trans (like_kind h')) ((like_num h).trans (like_num h')) (feq_trans h1 g1) (h2.trans g2) (h3.trans g3)
 ·obtain⟨h1,h2,h3⟩:=like_flt h
  unfold hN
  congr 1
  unfold hashI
  rw[like_kind h,like_num h,h3]
  by_cases e4:b.kind=4
  ·rw[if_pos e4,if_pos e4,toList_inj h2]
  ·rw[if_neg e4,if_neg e4]
   by_cases e3:b.kind=3
   ·rw[if_pos e3,if_pos e3]
    congr 1
    have hz:=(key_float ha ((like_kind h).trans e3)).2
    unfold ftOf
    rcases feq_cases h1 with⟨s,m,i,t,n,j,g1,g2,g3,g4,g5,g6,g7,g8,e⟩|⟨s,g1,g2⟩
    ·have h0:Fl.sc s m i≠0:=by
      intro e0
      have:feq a.flt 0=true:=feq_number g1 Fl.read_nil g3 (by omega) (by rw[e0,Fl.sc_zero])
      have hz':feq a.flt 0=false:=hz
      rw[this]at hz'
      cases hz'
     obtain⟨r1,r2,r3⟩:=form_one g3 g4 g5 g6 g7 g8 e h0
     rw[g1,g2,r1,r2,r3]
    ·rw[g1,g2]
   ·rw[if_neg e3,if_neg e3]
 ·have hv:∀v:Vl,Ky v->v.kind=2->fz v.flt=true/\v.str.toList.isEmpty=true/\v.ref=0:=by
   intro v h k
   have h1:=h.1
   unfold keyB Vl.ok at h1
   simp only[Bool.and_eq_true]at h1
   have h2:=h1.1.1
   unfold validB at h2
   simp[k]at h2
   exact⟨h2.1.1,by simpa using h2.1.2,h2.2⟩
  obtain⟨a1,a2,a3⟩:=hv a ha k1
  obtain⟨b1,b2,b3⟩:=hv b hb k2
  exact like_mk (k1.trans k2.symm) k3 (fz_feq a1 b1) ((List.isEmpty_iff.1 a2).trans (List.isEmpty_iff.1 b2).symm) (a3.trans b3.symm)
 ·refine⟨?_,⟨by show 0<18446744073709551616;omega,by show(0:Nat)<=maxLen;omega⟩⟩
  have hz:fz 0=true:=feq_number Fl.read_nil Fl.read_nil (by omega) (by omega) rfl
  unfold keyB Vl.ok validB intV
  simp[hz]
 ·have hz:fz 0=true:=feq_number Fl.read_nil Fl.read_nil (by omega) (by omega) rfl
  show noneB (⟨0,0,0,⟨#[]⟩,0⟩:Vl)=true
  unfold noneB Vl.ok validB
  simp[hz]
theorem hsI_all:∀v,Ky v->HsI Tabs v (hN v):=fun v h=>hsI h.1 h.2
end
end Go.Proofs.YtgmlkfgfjjggnaaGreatDoor
