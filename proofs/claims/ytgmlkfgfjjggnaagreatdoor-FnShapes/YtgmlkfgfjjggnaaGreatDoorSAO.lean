import Derived.Test.YtgmlkfgfjjggnaaGreatDoorSAN
import Derived.Test.YtgmlkfgfjjggnaaGreatDoorSAJ
import Derived.Test.YtgmlkfgfjjggnaaGreatDoorSAL
import Derived.Test.YtgmlkfgfjjggnaaGreatDoorSAB
import Derived.Test.YtgmlkfgfjjggnaaGreatDoorSAK
set_option linter.unusedVariables false
set_option linter.unusedSimpArgs false
set_option maxHeartbeats 40000000
set_option maxRecDepth 100000
namespace Go.Proofs.YtgmlkfgfjjggnaaGreatDoor
section
open Go.RowKit
theorem fz_nil:fz 0=true:=by decide
theorem keyedK(v:Vl)(hw:Wf v):∃(c:Int) (kv:Vl),keyV v.kind v.num v.flt v.str v.ref=KV c kv.kind kv.num kv.flt kv.str kv.ref/\(c=0->Ky kv):=by
 unfold keyV
 by_cases hv:validB v.kind v.num v.flt v.str v.ref=true
 ·rw[if_pos hv]
  by_cases h0:v.kind=0
  ·rw[if_pos h0];exact⟨1,⟨0,0,0,⟨#[]⟩,0⟩,rfl,fun h=>by omega⟩
  ·rw[if_neg h0]
   by_cases h3:v.kind=3
   ·rw[if_pos h3]
    by_cases hn:fnan v.flt=true
    ·rw[if_pos hn];exact⟨1,⟨0,0,0,⟨#[]⟩,0⟩,rfl,fun h=>by omega⟩
    ·rw[if_neg hn]
     by_cases hwh:wholeB v.flt=true
     ·rw[if_pos hwh]
      refine⟨0,⟨2,fint v.flt,0,⟨#[]⟩,0⟩,rfl,fun _=>⟨?_,⟨by show(0:Nat)<_;decide,Nat.zero_le _⟩⟩⟩
      unfold keyB Vl.ok validB
      simp[fz_nil]
     ·rw[if_neg hwh]
      refine⟨0,v,rfl,fun _=>⟨?_,hw⟩⟩
      unfold keyB Vl.ok
      rw[hv]
      simp[h0,hn,hwh]
   ·rw[if_neg h3]
    refine⟨0,v,rfl,fun _=>⟨?_,hw⟩⟩
    unfold keyB Vl.ok
    rw[hv]
    simp[h0,h3]
 ·rw[if_neg hv];exact⟨2,⟨0,0,0,⟨#[]⟩,0⟩,rfl,fun h=>by omega⟩
def noD:Dc:=⟨0,fun _=>default,0,fun _=>0,0,fun _=>0,0,0,0⟩
theorem moveD_m(hf:Vl->Nat):∀(f:Nat) (d:Dc),(moveD hf f d).m<=d.m+f:=by
 intro f
 induction f with
 |zero=>intro d;exact Nat.le_refl _
 |succ f ih=>
  intro d
  cases e:slotOf d (intV ((d.m:Int)+1)) (hf (intV ((d.m:Int)+1)))with
  |none=>rw[moveD_none e];omega
  |some s=>
   rw[moveD_some e]
   have:=ih (moveS d s)
   have h2:(moveS d s).m=d.m+1:=rfl
   omega
theorem enter_m(hf:Vl->Nat)(c:Dc)(k':Vl)(p:Nat):(enterD hf c k' p).m=c.m:=by
 unfold enterD
 cases freeSlot c.x c.X (hf k'%c.x)<;>rfl
theorem putD_m{K:Vl->Prop}{hf:Vl->Nat}{d:Dc}{k v:Vl}(KL:KeyLaw K hf)(h:Inv K hf d)(hk:K k):(putD hf d k v).m<=d.m+4002:=by
 rcases h.i0.place KL hk with⟨i,h1,h2,h3,h4⟩|⟨h1,h2⟩
 ·have hp:0<=placeI d k (hf k):=by omega
  have hi:(placeI d k (hf k)).toNat=i:=by omega
  by_cases hv0:v.kind=0
  ·rw[putD_go hp hv0,hi]
   have g:=goC_inv KL h.i0 h.next h1 h2
   have e:=(compactD_live (hf:=hf) g.1.core).2.2.1
   show(compactD hf (goC hf d i)).m<=_
   rw[e]
   by_cases hs:smallK d.m (d.L i).key
   ·rw[goC_small hs]
    have:=(shrink_says (upd d.I ((d.L i).key.num-1).toNat 0) d.m).1
    show shrink (upd d.I ((d.L i).key.num-1).toNat 0) d.m<=_
    omega
   ·obtain⟨s,_,_,hs3⟩:=h.i0.found KL (h.i0.keys i h1 h2) ⟨h1,h2,hs⟩ (KL.refl _ (h.i0.keys i h1 h2))
    rw[goC_slot hs hs3]
    show d.m<=_
    omega
  ·rw[putD_set hp hv0,hi]
   show d.m<=_
   omega
 ·have hp:¬0<=placeI d k (hf k):=by omega
  by_cases hc:v.kind≠0/\d.live<500/\d.turns<1000000000000
  ·rw[putD_come hp hc]
   have e:=(compactD_live (hf:=hf) h.i0.core).2.2.1
   have hcl:=(compactD_live (hf:=hf) h.i0.core).1
   have hci:=compactD_inv h.i0
   show(comeC hf (compactD hf d) k v).m<=_
   generalize compactD hf d=c at e hci hcl
   have hcl:c.live<500:=by rw[hcl];exact hc.2.1
   have hcx:c.x<=4000:=by
    rcases hci.sz with h|h
    ·omega
    ·exact h.2.1
   unfold comeC
   split
   ·show c.m<=_
    omega
   ·split
    ·have:=moveD_m hf (c.x+1) (addNext c k v)
     have h2:(addNext c k v).m=c.m+1:=rfl
     omega
    ·rw[enter_m]
     have hr:=(roomD_inv hci hcl).2.2.m
     show(roomD hf c).m<=_
     omega
  ·rw[putD_not hp hc];omega
theorem Inv.small{K:Vl->Prop}{hf:Vl->Nat}{d:Dc}(h:Inv K hf d)(hm:d.m<=4194304):Small d:=by
 refine⟨?_,hm,?_⟩
 ·have:=h.i0.le
  have:=h.i0.log.cnt
  rcases h.tight with h|h<;>omega
 ·rcases h.i0.sz with h|h
  ·omega
  ·have:=h.2.1;omega
end
section
open Go.RowKit
def LogQ(Q:Pr->Prop)(d:Dc):Prop:=∀i,i<d.n->Q (d.L i)
section
variable {Q:Pr->Prop} {hf:Vl->Nat} {d c:Dc} {k v:Vl}
theorem LogQ.same(h:LogQ Q d)(hn:c.n=d.n)(hL:c.L=d.L):LogQ Q c:=fun i hi=>by rw[hL];exact h i (by omega)
theorem LogQ.updq(h:LogQ Q d){p:Nat}{x:Pr}(hx:Q x){n:Nat}(hn:∀i,i<n->i=p\/i<d.n){c:Dc}(hc:c.n=n)(hL:c.L=upd d.L p x):LogQ Q c:=fun i hi=>by
 rw[hL]
 by_cases e:i=p
 ·subst e;rw[upd_same];exact hx
 ·rw[upd_other _ _ e]
  rcases hn i (by omega)with e'|e'
  ·exact absurd e' e
  ·exact h i e'
theorem enterD_log(p:Nat):(enterD hf d k p).n=d.n/\(enterD hf d k p).L=d.L:=by
 unfold enterD
 split<;>exact⟨rfl,rfl⟩
theorem refill_log(x:Nat):∀k,(refill hf d x k).n=d.n/\(refill hf d x k).L=d.L
 |0=>⟨rfl,rfl⟩
 |k+1=>by
  by_cases h:indexedK d k
  ·rw[refill_yes h]
   have h1:=enterD_log (hf:=hf) (d:=refill hf d x k) (k:=(d.L k).key) k
   have h2:=refill_log x k
   exact⟨h1.1.trans h2.1,h1.2.trans h2.2⟩
  ·rw[refill_no h];exact refill_log x k
theorem reindexD_log(more:Nat):(reindexD hf d more).n=d.n/\(reindexD hf d more).L=d.L:=by
 by_cases h:idxN d d.n+more=0
 ·rw[reindexD_none h];exact⟨rfl,rfl⟩
 ·rw[reindexD_some h];exact refill_log _ _
theorem moveD_log:∀(f:Nat) (d:Dc),(moveD hf f d).n=d.n/\(moveD hf f d).L=d.L
 |0,d=>⟨rfl,rfl⟩
 |f+1,d=>by
  cases h:slotOf d (intV ((d.m:Int)+1)) (hf (intV ((d.m:Int)+1)))with
  |none=>rw[moveD_none h];exact⟨rfl,rfl⟩
  |some s=>rw[moveD_some h];exact moveD_log f (moveS d s)
theorem LogQ.pack(h:LogQ Q d):LogQ Q (packD d):=fun j hj=>by
 obtain⟨i,h1,h2,h3⟩:=rank_surj d.n hj
 have e:lvF d j=d.L i:=by rw[<-h3];exact lvF_at h1 h2
 show Q (lvF d j)
 rw[e]
 exact h i h1
theorem LogQ.compact(h:LogQ Q d):LogQ Q (compactD hf d):=by
 unfold compactD
 split
 ·exact h
 ·exact h.pack.same (reindexD_log _).1 (reindexD_log _).2
theorem LogQ.add(h:LogQ Q c)(hx:Q ⟨k,v,c.turns+1⟩):LogQ Q (addL c k v):=h.updq hx (n:=c.n+1) (fun i hi=>by omega) rfl rfl
theorem roomD_log:(roomD hf c).n=c.n/\(roomD hf c).L=c.L:=by
 unfold roomD
 split
 ·exact reindexD_log _
 ·exact⟨rfl,rfl⟩
theorem LogQ.comeq(h:LogQ Q c)(hx:∀t,Q ⟨k,v,t⟩):LogQ Q (comeC hf c k v):=by
 unfold comeC
 split
 ·exact(h.add (k:=k) (v:=v) (hx _)).same rfl rfl
 ·split
  ·exact(h.add (k:=k) (v:=v) (hx _)).same (moveD_log _ _).1 (moveD_log _ _).2
  ·exact((h.same roomD_log.1 roomD_log.2).add (c:=roomD hf c) (k:=k) (v:=v) (hx _)).same (enterD_log _).1 (enterD_log _).2
theorem LogQ.goq(h:LogQ Q d)(h0:Q default)(p:Nat):LogQ Q (goC hf d p):=by
 have hd:LogQ Q (deadL d p):=fun i hi=>by
  show Q (upd d.L p default i)
  by_cases e:i=p
  ·subst e;rw[upd_same];exact h0
  ·rw[upd_other _ _ e];exact h i hi
 unfold goC
 split
 ·exact hd.same rfl rfl
 ·split
  ·exact h
  ·exact hd.same rfl rfl
theorem LogQ.put(h:LogQ Q d)(hx:∀t,Q ⟨k,v,t⟩)(h0:Q default)(hs:∀x:Pr,Q x->Q ⟨x.key,v,x.turn⟩):LogQ Q (putD hf d k v):=by
 unfold putD
 split
 ·split
  ·exact(h.goq h0 _).compact
  ·intro i hi
   show Q (upd d.L _ _ i)
   by_cases e:i=(placeI d k (hf k)).toNat
   ·subst e;rw[upd_same];exact hs _ (h _ hi)
   ·rw[upd_other _ _ e];exact h i hi
 ·split
  ·exact h.compact.comeq hx
  ·exact h
end
theorem WfD.put{hf:Vl->Nat}{d:Dc}{k v:Vl}(h:WfD d)(hk:Wf k)(hv:Wf v):WfD (putD hf d k v):=
 LogQ.put (Q:=fun p=>Wf p.key/\Wf p.val) h (fun _=>⟨hk,hv⟩) ⟨⟨by decide,by decide⟩,⟨by decide,by decide⟩⟩ (fun x hx=>⟨hx.1,hv⟩)
theorem noD_inv{K:Vl->Prop}{hf:Vl->Nat}:Inv K hf noD:=
 ⟨⟨⟨fun i hi=>(by cases hi),fun i j _ hj=>(by cases hj),rfl⟩,fun i hi=>(by cases hi),fun i j hi=>(by cases hi),fun j hj=>(by cases hj),.inl rfl,fun i hi=>(by cases hi),.inl rfl,
  Idx.empty _ _ _ _ (fun i h=>by cases h.1),rfl,Nat.le_refl _,⟨by decide,by decide⟩,by decide⟩,fun i hi=>(by cases hi),.inl (by decide)⟩
end
section
open Go.RowKit
def Has(d:Dc)(p:Pr):Prop:=∃i,i<d.n/\(d.L i).turn≠0/\d.L i=p
theorem has_at{d:Dc}{i:Nat}(h1:i<d.n)(h2:(d.L i).turn≠0):Has d (d.L i):=⟨i,h1,h2,rfl⟩
section
variable {K:Vl->Prop} {hf:Vl->Nat} {d:Dc} {k v:Vl}
theorem compact_has(h:Core K d)(p:Pr):Has (compactD hf d) p↔Has d p:=compactD_pairs h (fun q=>q=p)
def PutSays(d e:Dc)(k v:Vl):Prop:=
 (∃q,Has d q/\likeB q.key k=true/\v.kind=0/\(∀p,Has e p↔Has d p/\likeB p.key k=false)/\e.live=d.live-1/\e.turns=d.turns)\/
 (∃q,Has d q/\likeB q.key k=true/\v.kind≠0/\(∀p,Has e p↔(Has d p/\likeB p.key k=false)\/p=⟨q.key,v,q.turn⟩)/\e.live=d.live/\e.turns=d.turns)\/
 ((∀p,Has d p->likeB p.key k=false)/\v.kind≠0/\(∀p,Has e p↔Has d p\/p=⟨k,v,d.turns+1⟩)/\e.live=d.live+1/\e.turns=d.turns+1)\/
 ((∀p,Has d p->likeB p.key k=false)/\¬(v.kind≠0/\d.live<500/\d.turns<1000000000000)/\e=d)
theorem like_iff(KL:KeyLaw K hf)(h:Inv0 K hf d)(hk:K k){i:Nat}(h1:i<d.n)(h2:(d.L i).turn≠0)(h3:likeB (d.L i).key k=true){j:Nat}(g1:j<d.n)(g2:(d.L j).turn≠0):likeB (d.L j).key k=false↔j≠i:=by
 constructor
 ·intro e he
  subst he
  rw[h3]at e
  exact absurd e (by decide)
 ·intro e
  by_cases hl:likeB (d.L j).key k=true
  ·refine absurd (h.dist j i g1 h1 g2 h2 ?_) e
   exact KL.trans _ _ _ (h.keys j g1 g2) hk (h.keys i h1 h2) hl (KL.symm _ _ (h.keys i h1 h2) hk h3)
  ·simpa using hl
theorem put_says(KL:KeyLaw K hf)(h:Inv K hf d)(hk:K k)(hkb:keyB k=true)(hv:v.ok=true):PutSays d (putD hf d k v) k v:=by
 rcases h.i0.place KL hk with⟨i,h1,h2,h3,h4⟩|⟨h1,h2⟩
 ·have hp:0<=placeI d k (hf k):=by omega
  have hi:(placeI d k (hf k)).toNat=i:=by omega
  by_cases hv0:v.kind=0
  ·rw[putD_go hp hv0,hi]
   obtain⟨g1,g2,g3,g4,g5,g6⟩:=goC_inv KL h.i0 h.next h1 h2
   have c:=compactD_live (hf:=hf) g1.core
   refine .inl ⟨d.L i,has_at h1 h2,h3,hv0,fun p=>?_,c.1.trans g5,c.2.1.trans g6⟩
   refine(compact_has g1.core p).trans ?_
   constructor
   ·rintro⟨j,j1,j2,rfl⟩
    rw[g4]at j2 ⊢
    by_cases e:j=i
    ·subst e;rw[upd_same]at j2;exact absurd rfl j2
    ·rw[upd_other _ _ e]at j2 ⊢
     exact⟨has_at (by omega) j2,(like_iff KL h.i0 hk h1 h2 h3 (by omega) j2).2 e⟩
   ·rintro⟨⟨j,j1,j2,rfl⟩,hl⟩
    have e:=(like_iff KL h.i0 hk h1 h2 h3 j1 j2).1 hl
    refine⟨j,by omega,?_,?_⟩
    ·rw[g4,upd_other _ _ e];exact j2
    ·rw[g4,upd_other _ _ e]
  ·rw[putD_set hp hv0,hi]
   refine .inr (.inl ⟨d.L i,has_at h1 h2,h3,hv0,fun p=>?_,rfl,rfl⟩)
   constructor
   ·rintro⟨j,j1,j2,rfl⟩
    by_cases e:j=i
    ·subst e;right;exact upd_same _ _ _
    ·left
     have e2:(setV d i v).L j=d.L j:=upd_other _ _ e
     rw[e2]at j2 ⊢
     exact⟨has_at j1 j2,(like_iff KL h.i0 hk h1 h2 h3 j1 j2).2 e⟩
   ·rintro(⟨⟨j,j1,j2,rfl⟩,hl⟩|rfl)
    ·have e:=(like_iff KL h.i0 hk h1 h2 h3 j1 j2).1 hl
     have e2:(setV d i v).L j=d.L j:=upd_other _ _ e
     exact⟨j,j1,by rw[e2];exact j2,e2⟩
    ·have e2:(setV d i v).L i=⟨(d.L i).key,v,(d.L i).turn⟩:=upd_same _ _ _
     exact⟨i,h1,by rw[e2];exact h2,e2⟩
 ·have hp:¬0<=placeI d k (hf k):=by omega
  have hno:∀p,Has d p->likeB p.key k=false:=by
   rintro p ⟨i,i1,i2,rfl⟩
   exact h1 i i1 i2
  by_cases hc:v.kind≠0/\d.live<500/\d.turns<1000000000000
  ·rw[putD_come hp hc]
   have c:=compactD_live (hf:=hf) h.i0.core
   have hci:=compactD_inv h.i0
   have hcn:=compactD_next (hf:=hf) h.i0.core h.next
   have hch:=fun p=>compact_has (hf:=hf) h.i0.core p
   have hcno:∀i,i<(compactD hf d).n->((compactD hf d).L i).turn≠0->likeB ((compactD hf d).L i).key k=false:=fun i i1 i2=>hno _ ((hch _).1 (has_at i1 i2))
   obtain⟨g1,g2,g3,g4,g5,g6⟩:=comeC_inv KL hci hcn hk hkb hv hc.1 hcno (by rw[c.1];exact hc.2.1) (by rw[c.2.1];exact hc.2.2)
   have et:(compactD hf d).turns=d.turns:=c.2.1
   refine .inr (.inr (.inl ⟨hno,hc.1,fun p=>?_,by rw[<-c.1];exact g5,by rw[<-et];exact g6⟩))
   show Has (comeC hf (compactD hf d) k v) p↔_
   rw[<-et]
   constructor
   ·rintro⟨j,j1,j2,rfl⟩
    rw[g4]at j2 ⊢
    by_cases e:j=(compactD hf d).n
    ·subst e;right;exact upd_same _ _ _
    ·left
     rw[upd_other _ _ e]at j2 ⊢
     exact(hch _).1 (has_at (by omega) j2)
   ·rintro(hp|rfl)
    ·obtain⟨j,j1,j2,rfl⟩:=(hch p).2 hp
     refine⟨j,by omega,?_,?_⟩
     ·rw[g4,upd_other _ _ (by omega)];exact j2
     ·rw[g4,upd_other _ _ (by omega)]
    ·refine⟨(compactD hf d).n,by omega,?_,?_⟩
     ·rw[g4,upd_same];show(compactD hf d).turns+1≠0;have:=hci.turns.1;omega
     ·rw[g4,upd_same]
  ·rw[putD_not hp hc]
   exact .inr (.inr (.inr ⟨hno,hc,rfl⟩))
end
end
section
open Go.RowKit
attribute [local go_sem] run_store_float run_equalIn_float
abbrev VV(v:Vl):Value:=V v.kind v.num v.flt v.str v.ref
def atPlace(d:Dc)(p:Int):Vl:=if 0<=p then(d.L p.toNat).val else default
open Classical in
noncomputable def getV(d:Dc)(c:Int)(kv:Vl):Vl:=if dictOk d (hD d)=0/\c=0 then atPlace d (placeI d kv (hN kv))else default
end
section
open Go.RowKit
noncomputable def tget(F:Nat->Shp)(x:Tb)(k:Vl):Vl:=
 if x.shape<0 then atPlace x.d (placeI x.d k (hN k))
 else if k.kind=4/\0<=plcI F x.shape.toNat k.str then x.V (plcI F x.shape.toNat k.str).toNat else nov
def kidI(n:Nat)(f:Nat->Shp)(i:Nat)(key:ByteArray):Int:=at1 (fun j=>decide (0<j)&&(decide ((f j).parent=(i:Int))&&((f j).key.toList==key.toList))) n
def growR(n:Nat)(f:Nat->Shp)(i:Nat)(key:ByteArray):Int:=if 0<=kidI n f i key then kidI n f i key else if(f i).count=12\/n=200 then -1 else n
def growN(n:Nat)(f:Nat->Shp)(i:Nat)(key:ByteArray):Nat:=if 0<=kidI n f i key then n else if(f i).count=12\/n=200 then n else n+1
def growF(n:Nat)(f:Nat->Shp)(i:Nat)(key:ByteArray):Nat->Shp:=if 0<=kidI n f i key then f else if(f i).count=12\/n=200 then f else grown f n i key
theorem kid_hit{n:Nat}{f:Nat->Shp}{i:Nat}{key:ByteArray}{j:Nat}:Kid n f i key j↔j<n/\(decide (0<j)&&(decide ((f j).parent=(i:Int))&&((f j).key.toList==key.toList)))=true:=by
 simp only[Bool.and_eq_true,decide_eq_true_eq,beq_iff_eq]
 constructor
 ·rintro⟨a,b,c,d⟩;exact⟨b,a,c,d⟩
 ·rintro⟨b,a,c,d⟩;exact⟨a,b,c,d⟩
theorem grow_res(n:Nat)(f:Nat->Shp)(i:Nat)(key:ByteArray):GRes n f i key (growN n f i key) (growF n f i key) (growR n f i key):=by
 unfold growN growF growR
 rcases atF_rng (fun j=>decide (0<j)&&(decide ((f j).parent=(i:Int))&&((f j).key.toList==key.toList))) n 0 with h|⟨j,h1,h2,h3,h4,h5⟩
 ·have hk:kidI n f i key=-1:=h
  have hno:∀j,¬Kid n f i key j:=fun j hj=>by
   obtain⟨a,b⟩:=kid_hit.1 hj
   have:=atF_none h j (Nat.zero_le _) (by omega)
   rw[this]at b
   cases b
  have h0:¬(0:Int)<=-1:=by decide
  simp only[hk,if_neg h0]
  by_cases hc:(f i).count=12\/n=200
  ·simp only[if_pos hc]
   exact .inr (.inl ⟨hno,hc,rfl,rfl,rfl⟩)
  ·simp only[if_neg hc]
   exact .inr (.inr ⟨hno,fun e=>hc (.inl e),fun e=>hc (.inr e),rfl,rfl,rfl⟩)
 ·have hk:kidI n f i key=j:=h1
  have h0:(0:Int)<=(j:Int):=by omega
  simp only[hk,if_pos h0]
  exact .inl ⟨j,kid_hit.2 ⟨by omega,h4⟩,rfl,rfl,rfl⟩
theorem grow_eq{n:Nat}{f:Nat->Shp}{i:Nat}{key:ByteArray}{n':Nat}{f':Nat->Shp}{r:Int}(h4:Rule4 n f)(h:GRes n f i key n' f' r):n'=growN n f i key/\f'=growF n f i key/\r=growR n f i key:=h.unique h4 (grow_res n f i key)
noncomputable def looseD(F:Nat->Shp)(j:Nat)(W:Nat->Vl):Nat->Dc
 |0=>noD
 |i+1=>putD hN (looseD F j W i) (strV (fld F j i)) (W i)
noncomputable def fullB(d:Dc)(k v:Vl):Bool:=decide (v.kind≠0)&&(decide (placeI d k (hN k)<0)&&(decide (d.live=500)||decide (d.turns=1000000000000)))
noncomputable def dictT(x:Tb)(d:Dc)(k v:Vl):Tb:=⟨-1,0,x.V,putD hN d k v⟩
def setT(s:Sto)(t:Nat)(x:Tb):Sto:={s with T:=up1 s.T t x}
def valT(x:Tb)(i:Nat)(v:Vl):Tb:={x with V:=up1 x.V i v}
def growT(x:Tb)(r:Int)(v:Vl):Tb:={x with shape:=r,nv:=x.nv+1,V:=up1 x.V x.nv v}
inductive Way where
 |no|fld|grow|loose|dict|full
 deriving DecidableEq
noncomputable def wayOf(s:Sto)(x:Tb)(k v:Vl):Way:=
 if v.kind=0/\(tget s.F x k).kind=0 then .no
 else if 0<=x.shape then
  (if k.kind=4/\v.kind≠0 then
   (if 0<=plcI s.F x.shape.toNat k.str then .fld
    else if 0<=growR s.nf s.F x.shape.toNat k.str then .grow else .loose)
   else .loose)
 else if fullB x.d k v=true then .full else .dict
noncomputable def putS(s:Sto)(t:Nat)(k v:Vl):Sto:=
 match wayOf s (s.T t) k v with
 |.no=>s
 |.fld=>setT s t (valT (s.T t) (plcI s.F (s.T t).shape.toNat k.str).toNat v)
 |.grow=>{setT s t (growT (s.T t) (growR s.nf s.F (s.T t).shape.toNat k.str) v)with nf:=growN s.nf s.F (s.T t).shape.toNat k.str,F:=growF s.nf s.F (s.T t).shape.toNat k.str}
 |.loose=>setT s t (dictT (s.T t) (looseD s.F (s.T t).shape.toNat (s.T t).V (s.T t).nv) k v)
 |.dict=>setT s t (dictT (s.T t) (s.T t).d k v)
 |.full=>s
noncomputable def putC(s:Sto)(t:Nat)(k v:Vl):Int:=if wayOf s (s.T t) k v=.full then 5 else 0
def oneM(n:Int):Int:=if n<1000000000000 then n+1 else 1000000000000
def hitB(s:Sto)(i t:Nat):Bool:=decide (0<=(s.T t).shape)&&decide ((s.T t).shape=(s.S i).shape)
noncomputable def findX(s:Sto)(i t:Nat):Si:=
 if hitB s i t=true then{s.S i with hits:=oneM (s.S i).hits}
 else if 0<=(s.T t).shape/\0<=plcI s.F (s.T t).shape.toNat (s.S i).key then⟨(s.S i).key,(s.T t).shape,plcI s.F (s.T t).shape.toNat (s.S i).key,(s.S i).hits,oneM (s.S i).misses⟩
 else{s.S i with misses:=oneM (s.S i).misses}
noncomputable def findI(s:Sto)(i t:Nat):Int:=
 if hitB s i t=true then(s.S i).place else if 0<=(s.T t).shape then plcI s.F (s.T t).shape.toNat (s.S i).key else -1
noncomputable def findS(s:Sto)(i t:Nat):Sto:={s with S:=up1 s.S i (findX s i t)}
def tb0:Tb:=⟨0,0,fun _=>default,noD⟩
noncomputable def plS(s:Sto)(t:Nat):Pl:=⟨tnN s (s.T t),tnF s (s.T t),0⟩
noncomputable def stepC(s:Sto)(a:Ac):Sto:=
 if a.op=1 then(if s.nt=100 then s else{s with nt:=s.nt+1,T:=up1 s.T s.nt tb0})
 else if a.op=7 then(if s.ns=50 then s else{s with ns:=s.ns+1,S:=up1 s.S s.ns ⟨a.k.str,-1,0,0,0⟩})
 else if a.op=2 then putS s a.t.toNat (kval a.k) a.v
 else if a.op=8 then findS s a.site.toNat a.t.toNat
 else if a.op=9 then
  (if 0<=findI s a.site.toNat a.t.toNat/\a.v.kind≠0 then setT (findS s a.site.toNat a.t.toNat) a.t.toNat (valT (s.T a.t.toNat) (findI s a.site.toNat a.t.toNat).toNat a.v)
   else putS (findS s a.site.toNat a.t.toNat) a.t.toNat (strV (s.S a.site.toNat).key) a.v)
 else s
noncomputable def ansS(s:Sto)(a:Ac):An:=
 if a.op=1 then(if s.nt=100 then ansC 5 else ansN s.nt)
 else if a.op=7 then(if s.ns=50 then ansC 5 else ansN s.ns)
 else if a.op=2 then ansC (putC s a.t.toNat (kval a.k) a.v)
 else if a.op=9 then
  (if 0<=findI s a.site.toNat a.t.toNat/\a.v.kind≠0 then ansC 0
   else ansC (putC (findS s a.site.toNat a.t.toNat) a.t.toNat (strV (s.S a.site.toNat).key) a.v))
 else if a.op=3 then ansV (tget s.F (s.T a.t.toNat) (kval a.k))
 else if a.op=8 then ansV (if 0<=findI s a.site.toNat a.t.toNat then(s.T a.t.toNat).V (findI s a.site.toNat a.t.toNat).toNat else tget s.F (s.T a.t.toNat) (strV (s.S a.site.toNat).key))
 else(plS s a.t.toNat).ask a
noncomputable def stepS(s:Sto)(a:Ac):Sto:=if chk a s.nt s.ns=0 then stepC s a else s
noncomputable def ansD(s:Sto)(a:Ac):An:=if chk a s.nt s.ns=0 then ansS s a else ansC (chk a s.nt s.ns)
structure TGm (M:Nat) (s:Sto) (t:Tb):Prop where
 way:(t.shape=-1/\t.nv=0/\Inv Ky hN t.d)\/∃j:Nat,t.shape=j/\j<s.nf/\t.nv=nf s.F j/\bare t.d/\∀i,i<t.nv->okV (t.V i)=true/\Wf (t.V i)
 wf:WfD t.d
 m:t.d.m<=M
abbrev TGd(s:Sto)(t:Tb):Prop:=TGm 4000000 s t
structure SGm (M:Nat) (s:Sto):Prop where
 f:forestOk s.nf s.F=0
 nt:s.nt<=100
 ns:s.ns<=50
 t:∀i,i<s.nt->TGm M s (s.T i)
 si:∀i,i<s.ns->okS s (s.S i)
abbrev SGd(s:Sto):Prop:=SGm 4000000 s
theorem TGm.mono{M M':Nat}{s:Sto}{t:Tb}(h:TGm M s t)(hM:M<=M'):TGm M' s t:=⟨h.way,h.wf,Nat.le_trans h.m hM⟩
theorem SGm.mono{M M':Nat}{s:Sto}(h:SGm M s)(hM:M<=M'):SGm M' s:=⟨h.f,h.nt,h.ns,fun i hi=>(h.t i hi).mono hM,h.si⟩
theorem TGd.small{s:Sto}{t:Tb}(h:TGd s t):Small t.d:=by
 have hm:=h.m
 rcases h.way with⟨_,_,hI⟩|⟨j,_,_,_,hb,_⟩
 ·exact hI.small (by omega)
 ·obtain⟨b1,b2,b3,_⟩:=hb
  exact⟨by omega,by omega,by omega⟩
theorem nf_le{n:Nat}{f:Nat->Shp}(h:forestOk n f=0){j:Nat}(hj:j<n):nf f j<=12:=by
 obtain⟨h1,h2,h3,h4,h5⟩:=forestOk_zero h
 have:=(count_bound (k:=n) h2 (fun j a b=>h3 j a b) j hj).2
 unfold nf;omega
theorem TGd.nv{s:Sto}{t:Tb}(h:TGd s t)(hf:forestOk s.nf s.F=0):t.nv<=12:=by
 rcases h.way with⟨_,h1,_⟩|⟨j,_,h1,h2,_,_⟩
 ·omega
 ·have:=nf_le hf h1;omega
theorem plc_rng{n:Nat}{f:Nat->Shp}(h:forestOk n f=0){j:Nat}(hj:j<n)(key:ByteArray):plcI f j key=-1\/∃i:Nat,plcI f j key=i/\i<nf f j:=by
 obtain⟨h1,h2,h3,h4,h5⟩:=forestOk_zero h
 by_cases hn:∀i,i<nf f j->(fld f j i).toList≠key.toList
 ·exact .inl (plc_none h2 h3 hj key hn)
 ·obtain⟨i,hi⟩:=Classical.not_forall.1 hn
  obtain⟨hi1,hi2⟩:=Classical.not_imp.1 hi
  exact .inr ⟨i,plc_at h2 h3 h5 hj key hi1 (Classical.not_not.1 hi2),hi1⟩
theorem inv_ok'{d:Dc}(h:Inv Ky hN d):dictOk d (hD d)=0:=(h.sound keyLaw).zero
theorem keyV_self{k:Vl}(hk:Ky k):keyV k.kind k.num k.flt k.str k.ref=KV 0 k.kind k.num k.flt k.str k.ref:=by
 have h:=hk.1
 unfold keyB Vl.ok at h
 unfold keyV
 by_cases h3:k.kind=3
 ·simp[h3]at h ⊢
  simp[h]
 ·simp[h3]at h ⊢
  simp[h]
theorem ky_str{s:ByteArray}(h:s.size<=4000):Ky (strV s):=by
 refine⟨?_,⟨by show 0<_;omega,by show s.size<=_;unfold maxLen;omega⟩⟩
 unfold keyB
 rw[strV_ok h]
 rfl
end
section
open Go.RowKit
open Go.Maps (Keyed)
theorem kid_look{w:World}{f:Nat->Shp}{b0 n:Nat}{B N:Nat->Nat}{M:Nat->Option Nat}(h:NodesP w f b0 n B N M)(hid:∀i,i<n->N i=i)(h1:Rule1 n)(h2:Rule2 f)(h3:Rule3 n f){k:Nat}(hk:k<n){key:ByteArray}(hks:key.size<=4000):
  ∃v,(∀q,(Instr.lookup 206 (.map (M k)) (Sh k key ((f k).count+1)) false).run Tryz.prog (w.drewN q)=.ok v (w.drewN q))/\((∃j,Kid n f k key j/\v=.pointer (some ⟨B j,0,none⟩))\/(v=.pointer none/\∀j,¬Kid n f k key j)):=by
 have hcb:=count_bound (k:=n) h2 (fun j a b=>h3 j a b) k hk
 have hn2:=h1.2
 have w1:(Lit.int .i64 (k:Int)).wf=true:=wf64 (by omega) (by omega)
 have w3:(Lit.int .i64 ((f k).count+1)).wf=true:=wf64 (by omega) (by omega)
 have w2:key.size<=maxLen:=by unfold maxLen;omega
 cases hM:M k with
 |none=>
  refine⟨.pointer none,look_none (s:=⟨k,key,(f k).count+1⟩) w1 w2 w3,.inr ⟨rfl,fun j hK=>?_⟩⟩
  refine h.bare k hk (hid k hk) hM j hK.1 hK.2.1 (hid j hK.2.1) ?_
  have hp:shPar f j=k:=by unfold shPar;rw[hK.2.2.1];rfl
  rw[hp];exact hid k hk
 |some m=>
  obtain⟨g,hg,hK⟩:=h.kids k m hk (hid k hk) hM
  refine⟨g (ShV ⟨k,key,(f k).count+1⟩),look_kid hg (s:=⟨k,key,(f k).count+1⟩) w1 w2 w3,?_⟩
  rcases hK (ShV ⟨k,key,(f k).count+1⟩)with⟨j,j0,jn,_,_,jv,jg⟩|⟨jg,jno⟩
  ·refine .inl ⟨j,⟨j0,jn,?_,?_⟩,jg⟩
   ·have:=ShV_inj jv
    rw[<-this]
   ·have:=ShV_inj jv
    rw[<-this]
  ·refine .inr ⟨jg,fun j hK=>jno j hK.1 hK.2.1 (hid j hK.2.1) ?_ ?_⟩
   ·have hp:shPar f j=k:=by unfold shPar;rw[hK.2.2.1];rfl
    rw[hp];exact hid k hk
   ·have ek:(f j).key=key:=WideShapes.bytes_inj (by rw[<-ByteArray.toList_eq,<-ByteArray.toList_eq];exact hK.2.2.2)
    have ec:(f j).count=(f k).count+1:=by rw[(h3 j hK.1 hK.2.1).2.2.1,hK.2.2.1];rfl
    show Sh (f j).parent (f j).key (f j).count=_
    rw[ek,ec,hK.2.2.1]
theorem Nodes.congr{P:Program}{K Tn:TypeId}{w:World}{f f':Nat->Shp}{b0 k:Nat}{B N:Nat->Nat}{M:Nat->Option Nat}(h:Nodes P K Tn w f b0 k B N M)(e:∀i,i<k->f' i=f i):Nodes P K Tn w f' b0 k B N M where
 pos:=h.pos
 n0:=h.n0
 le:=h.le
 own:=h.own
 same:=fun i hi=>by rw[e i hi,e _ (Nat.lt_of_le_of_lt (h.le i hi) hi)];exact h.same i hi
 one:=fun i j hi hj e2=>h.one i j hi hj (by rw[<-e i hi,<-e j hj];exact e2)
 blk:=h.blk
 base:=h.base
 node:=fun i hi hn=>by
  have h0:=h.node i hi hn
  have hp:parOf f' B i=parOf f B i:=by unfold parOf shPar;rw[e i hi]
  rw[e i hi,hp]
  exact h0
 apart:=h.apart
 mbase:=h.mbase
 mapart:=h.mapart
 bare:=fun i hi hn hm j h0 hj hnj=>by
  have h1:=h.bare i hi hn hm j h0 hj hnj
  unfold shPar at*
  rw[e j hj]
  exact h1
 kids:=fun i m hi hn hm=>by
  obtain⟨g,hg,hK⟩:=h.kids i m hi hn hm
  refine⟨g,hg,fun v=>?_⟩
  rcases hK v with⟨j,a1,a2,a3,a4,a5,a6⟩|⟨a1,a2⟩
  ·exact .inl ⟨j,a1,a2,a3,by unfold shPar at*;rw[e j a2];exact a4,by rw[e j a2];exact a5,a6⟩
  ·exact .inr ⟨a1,fun j b1 b2 b3 b4=>by rw[e j b2];exact a2 j b1 b2 b3 (by unfold shPar at*;rw[<-e j b2];exact b4)⟩
def NGrown(n:Nat)(f:Nat->Shp)(k:Nat)(key:ByteArray)(b0:Nat)(B:Nat->Nat)(w:World)(e:Ending)(w':World):Prop:=
 (∃j,Kid n f k key j/\e=.returned (.pointer (some ⟨B j,0,none⟩))/\Below w.heap.size w w')\/
 ((∀j,¬Kid n f k key j)/\((f k).count=12\/n=200)/\e=.returned (.pointer none)/\Below w.heap.size w w')\/
 ((∀j,¬Kid n f k key j)/\(f k).count≠12/\n≠200/\∃r B' N' M',e=.returned (.pointer (some ⟨r,0,none⟩))/\NodesP w' (grown f n k key) b0 (n+1) B' N' M'/\(∀i,i<n+1->N' i=i)/\B' n=r/\(∀i,i<n->B' i=B i)/\GrownP b0 w w')
theorem Grown.after{Tn b0:Nat}{w w1 w2:World}(h:Below w.heap.size w w1)(h2:Grown Tn b0 w1 w2):Grown Tn b0 w w2:=
 ⟨h2.os.trans h.os,h2.tape.trans h.tape,h2.output.trans h.output,Nat.le_trans h.size h2.size,fun b hb hc=>(h2.block b (Nat.lt_of_lt_of_le hb h.size) (by
  rcases hc with hc|hc
  ·exact .inl hc
  ·refine .inr (fun hN=>hc ?_)
   unfold Nodal at*
   rw[h.block b hb]at hN
   exact hN)).trans (h.block b hb)⟩
theorem grown_rules{n:Nat}{f:Nat->Shp}{k:Nat}{key:ByteArray}(h1:Rule1 n)(h2:Rule2 f)(h3:Rule3 n f)(hk:k<n)(hks:key.size<=4000)(h12:(f k).count≠12):
  Rule2 (grown f n k key)/\(∀i,1<=i->i<=n->Ok3 (grown f n k key) i)/\(∀i,i<n->grown f n k key i=f i)/\grown f n k key n=⟨k,key,(f k).count+1⟩:=by
 have hcb:=count_bound (k:=n) h2 (fun j a b=>h3 j a b) k hk
 have e:∀i,i<n->grown f n k key i=f i:=fun i hi=>by unfold grown;rw[if_neg (by omega)]
 have en:grown f n k key n=⟨k,key,(f k).count+1⟩:=by unfold grown;rw[if_pos rfl]
 have hn0:0<n:=by omega
 refine⟨by unfold Rule2;rw[e 0 hn0];exact h2,fun i a b=>?_,e,en⟩
 by_cases hi:i=n
 ·subst hi
  unfold Ok3
  rw[en]
  refine⟨by simp,by simpa using hk,?_,by show(f k).count+1<=12;omega,hks⟩
  show(f k).count+1=(grown f i k key ((k:Int)).toNat).count+1
  rw[show((k:Int)).toNat=k from by simp,e k hk]
 ·have hi':i<n:=by omega
  obtain⟨a1,a2,a3,a4,a5⟩:=h3 i a hi'
  unfold Ok3
  rw[e i hi',e _ (by omega)]
  exact⟨a1,a2,a3,a4,a5⟩
theorem nid_grown{w:World}{f:Nat->Shp}{b0 n k:Nat}{key:ByteArray}{B N:Nat->Nat}{M:Nat->Option Nat}(h:NodesP w (grown f n k key) b0 (n+1) B N M)(e:∀i,i<n->grown f n k key i=f i)(en:grown f n k key n=⟨k,key,(f k).count+1⟩)(h2:Rule2 f)(h4:Rule4 n f)(h3:Rule3 n f)(hno:∀j,¬Kid n f k key j):∀i,i<n+1->N i=i:=by
 intro i hi
 have hle:=h.le i hi
 rcases Nat.lt_or_eq_of_le hle with hlt|heq
 ·exfalso
  have hs:=h.same i hi
  have hjn:N i<n:=by omega
  rw[e _ hjn]at hs
  have h0:0<N i:=by
   rcases Nat.eq_zero_or_pos (N i)with z|z
   ·exfalso
    rw[z]at hs
    have hp:=h2.1
    rw[hs]at hp
    by_cases hin:i=n
    ·rw[hin,en]at hp
     have hp:(k:Int)=-1:=hp
     omega
    ·rw[e i (by omega)]at hp
     have:=(h3 i (by omega) (by omega)).1
     omega
   ·exact z
  by_cases hin:i=n
  ·rw[hin,en]at hs
   subst hin
   exact hno (N i) ⟨h0,hjn,by rw[hs],by rw[hs]⟩
  ·rw[e i (by omega)]at hs
   exact h4 i (N i) h0 hlt (by omega) ⟨by rw[hs],by rw[hs]⟩
 ·exact heq
theorem nodeGrow_any(w:World)(f:Nat->Shp)(b0 n:Nat)(B N:Nat->Nat)(M:Nat->Option Nat)(h:NodesP w f b0 n B N M)(hid:∀i,i<n->N i=i)(h1:Rule1 n)(h2:Rule2 f)(h3:Rule3 n f)(h4:Rule4 n f)(k:Nat)(hk:k<n)(key:ByteArray)(hks:key.size<=4000):
  Calls Tryz.prog 277 #[.pointer (some ⟨B k,0,none⟩),.string key,.int .i64 n] w fun e w'=>NGrown n f k key b0 B w e w':=by
 have hn200:n<=200:=h1.2
 obtain⟨hc0,hc1⟩:=count_bound (k:=n) h2 (fun j a b=>h3 j a b) k hk
 obtain⟨n0,_,n3,_,n5⟩:=node_cells h hid hk
 have hBk:B k<w.heap.size:=h.lt hk
 have hw:IntKind.i64.wrap ((f k).count+1)=(f k).count+1:=by rw[IntKind.wrap_i64];omega
 obtain⟨W,hW⟩:∃W,W=(w.alloc (.cells #[.int .i64 (k:Int),.string key,.int .i64 ((f k).count+1)] 205)).drew:=⟨_,rfl⟩
 have hbW:Below w.heap.size w W:=by rw[hW];exact((Below.refl _ _).alloc (Nat.le_refl _) _).drew
 have hzW:W.heap.size=w.heap.size+1:=by rw[hW];simp
 have S0:W.cell? ⟨w.heap.size,0,none⟩=some (.int .i64 (k:Int)):=by rw[hW];simp[go_sem]
 have S1:W.cell? ⟨w.heap.size,1,none⟩=some (.string key):=by rw[hW];simp[go_sem]
 have S2:W.cell? ⟨w.heap.size,2,none⟩=some (.int .i64 ((f k).count+1)):=by rw[hW];simp[go_sem]
 have m5:=(hbW.cell (p:=⟨B k,5,none⟩) (by exact hBk)).trans n5
 have hNW:=h.below hbW
 obtain⟨v,hlk,hv⟩:=kid_look hNW hid h1 h2 h3 hk (key:=key) hks
 have HNW:=uy hNW
 have HR:=uy (And.intro h1 (And.intro h2 (And.intro h3 h4)))
 have HB:=uy hbW
 clear h h1 h2 h3 h4 hbW hNW
 go_enter Tryz.func277,Tryz.ntmps277
 go_wp2
 go_region
 rw[<-hW]
 clear hW n0 n3 n5
 rcases hv with⟨j,hKid,rfl⟩|⟨rfl,hno⟩
 ·have HK:=uy hKid
  clear hKid
  go_wp2
  go_quiet (fail)
  go_wp2
  go_ret
  exact .inl ⟨j,uh HK,rfl,below_drewN (uh HB) _⟩
 ·have HNO:=uy hno
  clear hno
  by_cases h12:12<(f k).count+1
  ·have hd12:decide (12<(f k).count+1)=true:=by simp[h12]
   have H12:Hid ((f k).count=12):=uy (by omega)
   clear h12
   go_wp2
   go_quiet (fail)
   go_wp2
   go_ret
   exact .inr (.inl ⟨uh HNO,.inl (uh H12),rfl,below_drewN (uh HB) _⟩)
  have hd12:decide (12<(f k).count+1)=false:=by simp;omega
  have H12:Hid ((f k).count≠12):=uy (by omega)
  clear h12
  by_cases h200:200<=n
  ·have hd200:decide ((200:Int)<=n)=true:=by simp;omega
   have H200:Hid (n=200):=uy (by omega)
   clear h200
   go_wp2
   go_quiet (fail)
   go_wp2
   go_ret
   exact .inr (.inl ⟨uh HNO,.inr (uh H200),rfl,below_drewN (uh HB) _⟩)
  have hd200:decide ((200:Int)<=n)=false:=by simp;omega
  have H200:Hid (n≠200):=uy (by omega)
  clear h200
  obtain⟨r2,r3,e,en⟩:=grown_rules (uh HR).1 (uh HR).2.1 (uh HR).2.2.1 hk hks (uh H12)
  have hcall:∀q,Calls Tryz.prog 223 #[.pointer (some ⟨B k,0,none⟩),Sh k key ((f k).count+1),.int .i64 n] (W.drewN q) fun e w'=>∃r B' N' M',e=.returned (.pointer (some ⟨r,0,none⟩))/\NodesP w' (grown f n k key) b0 (n+1) B' N' M'/\B' n=r/\(∀i,i<n->B' i=B i)/\GrownP b0 (W.drewN q) w':=by
   intro q
   have h0:=intern_any (W.drewN q) (grown f n k key) b0 n B N M (((uh HNW).congr e).keep (fun b _=>rfl)) hn200 r2 r3
   rw[show shPar (grown f n k key) n=k from by unfold shPar;rw[en];simp,en]at h0
   exact h0
  have HC:=uy hcall
  have HE:=uy (And.intro e en)
  clear hcall r2 r3 e en
  go_wp2
  go_quiet (fail)
  go_wp2_with (fail)
  refine(uh HC _).mono ?_
  rintro e w3 ⟨r,B',N',M',rfl,hN',hB',hBB,hG⟩
  have hid':=nid_grown hN' (uh HE).1 (uh HE).2 (uh HR).2.1 (uh HR).2.2.2 (uh HR).2.2.1 (uh HNO)
  have HF:=uy (And.intro hN' (And.intro hid' (And.intro hB' (And.intro hBB hG))))
  clear hN' hid' hB' hBB hG
  go_wp2
  go_ret
  obtain⟨a1,a2,a3,a4,a5⟩:=uh HF
  exact .inr (.inr ⟨uh HNO,uh H12,uh H200,r,B',N',M',rfl,a1,a2,a3,a4,Grown.after (uh HB) ⟨a5.os,a5.tape,a5.output,a5.size,a5.block⟩⟩)
end
section
open Go.RowKit
theorem own_keep{w w':World}{B:Nat}{e:TypeId}{size:Nat}{v:Value}{n:Nat}{xs:List Value}(h:w.ownsRow B e size v n xs)(hk:∀g,v.ownBlock=some g->w'.heap[g]?=w.heap[g]?):w'.ownsRow B e size v n xs:=by
 refine⟨h.1,?_⟩
 rcases h.2 with hn|⟨g,cap,cur,hv,hb,hg,rest⟩
 ·exact .inl hn
 ·exact .inr ⟨g,cap,cur,hv,hb,(hk g (by rw[hv];rfl)).trans hg,rest⟩
structure Dst (O:Nat->Prop) (w:World) (O':Nat->Prop) (w':World):Prop where
 os:w'.os=w.os
 tape:w'.tape=w.tape
 output:w'.output=w.output
 size:w.heap.size<=w'.heap.size
 block:∀k,k<w.heap.size->¬O k->w'.heap[k]?=w.heap[k]?
 own:∀k,O' k->O k\/w.heap.size<=k
theorem Dst.refl(O:Nat->Prop)(w:World):Dst O w O w:=⟨rfl,rfl,rfl,Nat.le_refl _,fun _ _ _=>rfl,fun _ h=>.inl h⟩
theorem Dst.trans{O O' O'':Nat->Prop}{w w' w'':World}(h:Dst O w O' w')(g:Dst O' w' O'' w''):Dst O w O'' w'':=
 ⟨g.os.trans h.os,g.tape.trans h.tape,g.output.trans h.output,Nat.le_trans h.size g.size,
  fun k hk hn=>(g.block k (Nat.lt_of_lt_of_le hk h.size) (fun e=>by
   rcases h.own k e with e|e
   ·exact hn e
   ·omega)).trans (h.block k hk hn),
  fun k e=>by
   rcases g.own k e with e|e
   ·exact h.own k e
   ·exact .inr (Nat.le_trans h.size e)⟩
end
section
open Go.RowKit
theorem up1_up1{α:Type}(f:Nat->α)(i:Nat)(a b:α):up1 (up1 f i a) i b=up1 f i b:=by
 funext j
 by_cases e:j=i
 ·subst e;rw[up1_self,up1_self]
 ·rw[up1_other _ _ e,up1_other _ _ e,up1_other _ _ e]
abbrev set5(w:World)(g o:Nat)(v:Vl):World:=((((w.setCell ⟨g,o,none⟩ (.int .i64 v.kind)).setCell ⟨g,o+1,none⟩ (.int .i64 v.num)).setCell ⟨g,o+2,none⟩ (.float .f64 v.flt)).setCell ⟨g,o+3,none⟩ (.string v.str)).setCell ⟨g,o+4,none⟩ (.int .i64 v.ref)
theorem set5_blk(w:World)(g o:Nat)(v:Vl){k:Nat}(hk:k≠g):(set5 w g o v).heap[k]?=w.heap[k]?:=by
 unfold set5
 iterate 5 rw[Deep.blk_setCell_other _ _ _ _ (by exact hk)]
end
section
open Go.RowKit
theorem set_os(w:World)(a:Addr)(v:Value):(w.setCell a v).os=w.os/\(w.setCell a v).tape=w.tape/\(w.setCell a v).output=w.output/\(w.setCell a v).heap.size=w.heap.size:=by
 have hb:Below 0 w (w.setCell a v):=(Below.refl _ _).setCell (Nat.zero_le _) _
 exact⟨hb.os,hb.tape,hb.output,by simp⟩
theorem own_mono1{w:World}{B B':Nat}{e:TypeId}{size:Nat}{v:Value}{n:Nat}{xs:List Value}(h:w.ownsRow B e size v n xs)(hb:B'<=B):w.ownsRow B' e size v n xs:=by
 refine⟨h.1,?_⟩
 rcases h.2 with hn|⟨g,cap,cur,hv,hb',rest⟩
 ·exact .inl hn
 ·exact .inr ⟨g,cap,cur,hv,Nat.le_trans hb hb',rest⟩
theorem grown_below1{B:Nat}{w w':World}{row:Option Nat}(h:w.grownBy w' row)(hr:∀q,row=some q->B<=q)(hB:B<=w.heap.size):Below B w w':=
 ⟨h.os,h.tape,h.output,h.size,fun k hk=>h.block k (by omega) (fun e=>by have:=hr k e.symm;omega)⟩
end
section
open Go.RowKit
def ABx(w:World)(b:Nat)(a:Ac):Prop:=w.heap[b]?=some (.cells (ActBx a) 51 (0,0))
def RBx(w:World)(b:Nat):Prop:=w.heap[b]?=some (.cells An0 45 (0,0))
theorem blk_lt{w:World}{b:Nat}{o:Obj}(h:w.heap[b]?=some o):b<w.heap.size:=by
 rcases Nat.lt_or_ge b w.heap.size with h1|h1
 ·exact h1
 ·rw[Array.getElem?_eq_none h1]at h;cases h
theorem RBx.lt{w:World}{b:Nat}(h:RBx w b):b<w.heap.size:=blk_lt h
theorem ABx.below{w w':World}{b B:Nat}{a:Ac}(h:ABx w b a)(hb:Below B w w')(hB:b<B):ABx w' b a:=(hb.block b hB).trans h
theorem RBx.below{w w':World}{b B:Nat}(h:RBx w b)(hb:Below B w w')(hB:b<B):RBx w' b:=(hb.block b hB).trans h
theorem ABx.all{w:World}{b:Nat}{a:Ac}(h:ABx w b a):w.cell? ⟨b,0,none⟩=some (.int .i64 a.op)/\w.cell? ⟨b,1,none⟩=some (.int .i64 a.t)/\w.cell? ⟨b,2,none⟩=some (.int .i64 a.site)/\w.cell? ⟨b,3,none⟩=some (.int .i64 a.n)/\w.cell? ⟨b,4,none⟩=some (.int .i64 a.k.kind)/\w.cell? ⟨b,5,none⟩=some (.int .i64 a.k.num)/\w.cell? ⟨b,6,none⟩=some (.float .f64 a.k.flt)/\w.cell? ⟨b,7,none⟩=some (.string a.k.str)/\w.cell? ⟨b,8,none⟩=some (.int .i64 a.k.ref)/\w.cell? ⟨b,9,none⟩=some (.int .i64 a.v.kind)/\w.cell? ⟨b,10,none⟩=some (.int .i64 a.v.num)/\w.cell? ⟨b,11,none⟩=some (.float .f64 a.v.flt)/\w.cell? ⟨b,12,none⟩=some (.string a.v.str)/\w.cell? ⟨b,13,none⟩=some (.int .i64 a.v.ref):=by
 unfold ABx at h
 refine⟨?_,?_,?_,?_,?_,?_,?_,?_,?_,?_,?_,?_,?_,?_⟩
 all_goals(rw[cell_of_row w b _ _ _ _ h];rfl)
theorem boxes(w:World)(a:Ac):∃W,W=(w.alloc (.cells (ActBx a) 51)).alloc (.cells An0 45)/\Below w.heap.size w W/\ABx W w.heap.size a/\RBx W (w.heap.size+1)/\w.heap.size+1<W.heap.size:=by
 refine⟨_,rfl,((Below.refl _ _).alloc (Nat.le_refl _) _).alloc (by simp) _,?_,?_,by simp⟩
 ·refine((Below.refl (w.alloc (.cells (ActBx a) 51)).heap.size _).alloc (Nat.le_refl _) _).block _ (by simp) |>.trans (Deep.blk_alloc_new w _)
 ·have h:=Deep.blk_alloc_new (w.alloc (.cells (ActBx a) 51)) (.cells An0 45)
  rw[show(w.alloc (.cells (ActBx a) 51)).heap.size=w.heap.size+1 by simp]at h
  exact h
theorem own_slice{w:World}{B:Nat}{e:TypeId}{size:Nat}{v:Value}{n:Nat}{xs:List Value}(h:w.ownsRow B e size v n xs):∃a cp,v=.slice a n cp:=by
 rcases h.2 with hn|⟨g,cap,cur,hv,hb,hg,rest⟩
 ·obtain⟨h1,h2⟩:=hn
  subst h1 h2
  exact⟨_,_,rfl⟩
 ·exact⟨_,_,hv⟩
theorem blk_set_same{w:World}{c j:Nat}{cs:Array Value}{ty:TypeId}(h:w.heap[c]?=some (.cells cs ty (0,0)))(u:Value):(w.setCell ⟨c,j,none⟩ u).heap[c]?=some (.cells (cs.setIfInBounds j u) ty (0,0)):=by
 simp[World.setCell,Array.getElem?_modify,h]
theorem infoAns:(Tryz.prog.info? 45).map (fun i=>(i.zero,i.size,i.bytes))=some (some (.agg An0),12,112):=by kernel_rfl
end
section
open Go.RowKit
def rwL(f:Nat->List Value):Nat->List Value
 |0=>[]
 |n+1=>rwL f n++f n
theorem rwL_length{f:Nat->List Value}{m:Nat}(hf:∀i,(f i).length=m):∀n,(rwL f n).length=n*m
 |0=>by simp[rwL]
 |n+1=>by rw[rwL,List.length_append,rwL_length hf n,hf,Nat.succ_mul]
theorem rwL_get{f:Nat->List Value}{m:Nat}(hf:∀i,(f i).length=m):∀{n i j:Nat},i<n->j<m->(rwL f n)[i*m+j]?=(f i)[j]?
 |0,i,j,hi,_=>by omega
 |n+1,i,j,hi,hj=>by
  rw[rwL]
  rcases Nat.lt_or_eq_of_le (Nat.le_of_lt_succ hi)with h|h
  ·rw[List.getElem?_append_left (by rw[rwL_length hf];calc i*m+j<i*m+m:=by omega
     _=(i+1)*m:=(Nat.succ_mul i m).symm
     _<=n*m:=Nat.mul_le_mul_right m h)]
   exact rwL_get hf h hj
  ·subst h
   rw[List.getElem?_append_right (by rw[rwL_length hf];omega),rwL_length hf]
   congr 1
   omega
theorem rwL_congr{f g:Nat->List Value}:∀{n:Nat},(∀i,i<n->f i=g i)->rwL f n=rwL g n
 |0,_=>rfl
 |n+1,h=>by rw[rwL,rwL,rwL_congr (fun i hi=>h i (by omega)),h n (by omega)]
theorem rwL_set{f:Nat->List Value}{m:Nat}(hf:∀i,(f i).length=m){u:Value}:∀{n i j:Nat},i<n->j<m->(rwL f n).set (i*m+j) u=rwL (up1 f i ((f i).set j u)) n
 |0,i,j,hi,_=>by omega
 |n+1,i,j,hi,hj=>by
  rw[rwL,rwL]
  rcases Nat.lt_or_eq_of_le (Nat.le_of_lt_succ hi)with h|h
  ·rw[List.set_append_left _ _ (by rw[rwL_length hf];calc i*m+j<i*m+m:=by omega
     _=(i+1)*m:=(Nat.succ_mul i m).symm
     _<=n*m:=Nat.mul_le_mul_right m h),rwL_set hf h hj,up1_other _ _ (by omega)]
  ·subst h
   rw[List.set_append_right _ _ (by rw[rwL_length hf];omega),rwL_length hf,show i*m+j-i*m=j by omega,up1_self]
   rw[rwL_congr (f:=f) (g:=up1 f i ((f i).set j u)) (fun q hq=>(up1_other _ _ (by omega)).symm)]
def siR(f:Nat->Si)(n:Nat):List Value:=rwL (fun i=>siL (f i)) n
theorem siR_length(f:Nat->Si)(n:Nat):(siR f n).length=n*5:=rwL_length (m:=5) (f:=fun i=>siL (f i)) (fun _=>rfl) n
theorem siR_get{f:Nat->Si}{n i j:Nat}(hi:i<n)(hj:j<5):(siR f n)[i*5+j]?=(siL (f i))[j]?:=rwL_get (m:=5) (fun _=>rfl) hi hj
theorem siR_congr{f g:Nat->Si}{n:Nat}(h:∀i,i<n->f i=g i):siR f n=siR g n:=rwL_congr (fun i hi=>by rw[h i hi])
theorem siR_snoc(f:Nat->Si)(n:Nat)(x:Si):siR f n++siL x=siR (up1 f n x) (n+1):=by
 unfold siR
 rw[rwL,up1_self,rwL_congr (f:=fun i=>siL (f i)) (g:=fun i=>siL (up1 f n x i)) (fun i hi=>by rw[up1_other _ _ (by omega)])]
theorem siR_set{f:Nat->Si}{n i j:Nat}(hi:i<n)(hj:j<5){u:Value}{x:Si}(hx:siL x=(siL (f i)).set j u):(siR f n).set (i*5+j) u=siR (up1 f i x) n:=by
 unfold siR
 rw[rwL_set (m:=5) (fun _=>rfl) hi hj]
 refine rwL_congr (fun q hq=>?_)
 by_cases e:q=i
 ·subst e;rw[up1_self,up1_self];exact hx.symm
 ·rw[up1_other _ _ e,up1_other _ _ e]
abbrev SiOwn(w:World)(B:Nat)(v:Value)(n:Nat)(f:Nat->Si):Prop:=w.ownsRow B 103 5 v n (siR f n)
abbrev NdOwn(w:World)(B:Nat)(v:Value)(n:Nat)(Bk:Nat->Nat):Prop:=w.ownsRow B 163 1 v n (ptrs Bk n)
abbrev TbOwn(w:World)(B:Nat)(v:Value)(n:Nat)(Bk:Nat->Nat)(A:Nat->Ad)(s:Sto):Prop:=w.ownsRow B 162 1 v n (kL Bk A s n)
def OwnW(B0 c:Nat)(vN vT vS:Value)(w:World)(k:Nat):Prop:=k=c\/vN.ownBlock=some k\/vT.ownBlock=some k\/vS.ownBlock=some k\/(B0<=k/\Nodal 208 w k)
def OZ(Z:Nat->Prop)(B0 c:Nat)(vN vT vS:Value)(w:World)(k:Nat):Prop:=OwnW B0 c vN vT vS w k\/Z k
def Rd(O:Nat->Prop)(w:World)(A:Ad)(t:Tb):Prop:=
 ∀w',w.heap.size<=w'.heap.size->(∀k,k<w.heap.size->¬O k->w'.heap[k]?=w.heap[k]?)->VAt w' A.va t.nv t.V/\DAt w' A.la A.ia A.xa t.d
theorem Rd.now{O:Nat->Prop}{w:World}{A:Ad}{t:Tb}(h:Rd O w A t):VAt w A.va t.nv t.V/\DAt w A.la A.ia A.xa t.d:=h w (Nat.le_refl _) (fun _ _ _=>rfl)
theorem Rd.step{O O':Nat->Prop}{w w':World}{A:Ad}{t:Tb}(h:Rd O w A t)(hd:Dst O w O' w'):Rd O' w' A t:=fun w'' hs hk=>
 h w'' (Nat.le_trans hd.size hs) (fun k h1 h2=>(hk k (Nat.lt_of_lt_of_le h1 hd.size) (fun e=>(hd.own k e).elim h2 (fun e'=>absurd h1 (by omega)))).trans (hd.block k h1 h2))
structure WkM (Z:Nat->Prop) (w:World) (c B0:Nat) (vN vT vS vU:Value) (Bk:Nat->Nat) (A:Nat->Ad) (s:Sto):Prop where
 blk:w.heap[c]?=some (.cells #[vN,vT,vS,vU] 198 (0,0))
 ge:B0<=c
 n:NdOwn w B0 vN s.nf Bk
 nd:∃N M,NodesP w s.F B0 s.nf Bk N M/\∀i,i<s.nf->N i=i
 t:TbOwn w B0 vT s.nt Bk A s
 si:SiOwn w B0 vS s.ns s.S
 u:∃ua un uc,vU=.slice ua un uc
 z:∀k,Z k->k<w.heap.size
 rd:∀i,i<s.nt->Rd (OZ Z B0 c vN vT vS w) w (A i) (s.T i)
section
variable {Z:Nat->Prop} {w w':World} {c B0:Nat} {vN vT vS vU:Value} {Bk:Nat->Nat} {A:Nat->Ad} {s:Sto}
theorem WkM.lt(h:WkM Z w c B0 vN vT vS vU Bk A s):c<w.heap.size:=blk_lt h.blk
theorem WkM.cells(h:WkM Z w c B0 vN vT vS vU Bk A s):w.cell? ⟨c,0,none⟩=some vN/\w.cell? ⟨c,1,none⟩=some vT/\w.cell? ⟨c,2,none⟩=some vS/\w.cell? ⟨c,3,none⟩=some vU/\∀q,w.frozen? ⟨c,q,none⟩=false:=
 ⟨by simp[World.cell?,h.blk],by simp[World.cell?,h.blk],by simp[World.cell?,h.blk],by simp[World.cell?,h.blk],fun q=>by simp[World.frozen?,h.blk]⟩
theorem own_ne{e e' b b' z z' n n':Nat}{v v':Value}{xs xs':List Value}(h:w.ownsRow b e z v n xs)(h':w.ownsRow b' e' z' v' n' xs')(he:e≠e'){q:Nat}(hq:v.ownBlock=some q):v'.ownBlock≠some q:=by
 intro hq'
 obtain⟨_,⟨hv,_⟩|⟨g,cap,cur,hv,_,hb,_⟩⟩:=h
 ·rw[hv]at hq;cases hq
 ·obtain⟨_,⟨hv',_⟩|⟨g',cap',cur',hv',_,hb',_⟩⟩:=h'
  ·rw[hv']at hq';cases hq'
  ·rw[hv]at hq;rw[hv']at hq'
   cases hq;cases hq'
   rw[hb]at hb'
   cases hb'
   exact he rfl
theorem own_blk{e b z n:Nat}{v:Value}{xs:List Value}(h:w.ownsRow b e z v n xs){q:Nat}(hq:v.ownBlock=some q):∃cur,w.heap[q]?=some (.cells cur e (0,0))/\b<=q:=by
 obtain⟨_,⟨hv,_⟩|⟨g,cap,cur,hv,hb,hg,_⟩⟩:=h
 ·rw[hv]at hq;cases hq
 ·rw[hv]at hq;cases hq;exact⟨cur,hg,hb⟩
theorem own_nodal{e b z n:Nat}{v:Value}{xs:List Value}(h:w.ownsRow b e z v n xs)(he:e≠208){q:Nat}(hq:v.ownBlock=some q):¬Nodal 208 w q:=by
 obtain⟨cur,hb,_⟩:=own_blk h hq
 rintro(⟨c,hc⟩|⟨es,c,hc⟩)
 ·rw[hb]at hc;cases hc;exact he rfl
 ·rw[hb]at hc;cases hc
theorem WkM.notrow(h:WkM Z w c B0 vN vT vS vU Bk A s){e b z n:Nat}{v:Value}{xs:List Value}(h':w.ownsRow b e z v n xs)(he:e≠198):v.ownBlock≠some c:=by
 intro hq
 obtain⟨cur,hb,_⟩:=own_blk h' hq
 rw[h.blk]at hb
 cases hb
 exact he rfl
theorem WkM.notnode(h:WkM Z w c B0 vN vT vS vU Bk A s):¬Nodal 208 w c:=by
 rintro(⟨x,hc⟩|⟨es,x,hc⟩)
 ·rw[h.blk]at hc;cases hc
 ·rw[h.blk]at hc;cases hc
theorem WkM.rng(h:WkM Z w c B0 vN vT vS vU Bk A s){k:Nat}(hk:OwnW B0 c vN vT vS w k):B0<=k/\k<w.heap.size:=by
 rcases hk with rfl|e|e|e|⟨e1,e2⟩
 ·exact⟨h.ge,h.lt⟩
 ·exact h.n.lt k e
 ·exact h.t.lt k e
 ·exact h.si.lt k e
 ·refine⟨e1,?_⟩
  rcases e2 with⟨x,hx⟩|⟨es,x,hx⟩
  ·exact(Array.getElem?_eq_some_iff.1 hx).1
  ·exact(Array.getElem?_eq_some_iff.1 hx).1
theorem WkM.next(h:WkM Z w c B0 vN vT vS vU Bk A s){vN' vT' vS' vU':Value}{Bk':Nat->Nat}{A':Nat->Ad}{s':Sto}
  (hos:w'.os=w.os/\w'.tape=w.tape/\w'.output=w.output) (hz:w.heap.size<=w'.heap.size) (hb:∀k,k<w.heap.size->¬OwnW B0 c vN vT vS w k->w'.heap[k]?=w.heap[k]?)
  (oN:∀k,vN'.ownBlock=some k->vN.ownBlock=some k\/w.heap.size<=k) (oT:∀k,vT'.ownBlock=some k->vT.ownBlock=some k\/w.heap.size<=k) (oS:∀k,vS'.ownBlock=some k->vS.ownBlock=some k\/w.heap.size<=k)
  (hc:w'.heap[c]?=some (.cells #[vN',vT',vS',vU'] 198 (0,0))) (n':NdOwn w' B0 vN' s'.nf Bk') (nd':∃N M,NodesP w' s'.F B0 s'.nf Bk' N M/\∀i,i<s'.nf->N i=i)
  (t':TbOwn w' B0 vT' s'.nt Bk' A' s') (si':SiOwn w' B0 vS' s'.ns s'.S) (u':∃ua un uc,vU'=.slice ua un uc)
  (rd':∀i,i<s'.nt->Rd (OZ Z B0 c vN vT vS w) w (A' i) (s'.T i)\/Rd (OZ Z B0 c vN' vT' vS' w') w' (A' i) (s'.T i)):
  WkM Z w' c B0 vN' vT' vS' vU' Bk' A' s'/\Dst (OwnW B0 c vN vT vS w) w (OwnW B0 c vN' vT' vS' w') w':=by
 have hd:Dst (OwnW B0 c vN vT vS w) w (OwnW B0 c vN' vT' vS' w') w':=by
  refine⟨hos.1,hos.2.1,hos.2.2,hz,hb,fun k hk=>?_⟩
  by_cases hk1:k<w.heap.size
  ·by_cases hk2:OwnW B0 c vN vT vS w k
   ·exact .inl hk2
   ·rcases hk with e|e|e|e|⟨e1,e2⟩
    ·exact .inl (.inl e)
    ·exact(oN k e).elim (fun e=>.inl (.inr (.inl e))) .inr
    ·exact(oT k e).elim (fun e=>.inl (.inr (.inr (.inl e)))) .inr
    ·exact(oS k e).elim (fun e=>.inl (.inr (.inr (.inr (.inl e))))) .inr
    ·refine .inl (.inr (.inr (.inr (.inr ⟨e1,?_⟩))))
     unfold Nodal at*
     rw[hb k hk1 hk2]at e2
     exact e2
  ·exact .inr (by omega)
 have hd2:Dst (OZ Z B0 c vN vT vS w) w (OZ Z B0 c vN' vT' vS' w') w':=⟨hd.os,hd.tape,hd.output,hd.size,fun k h1 h2=>hd.block k h1 (fun e=>h2 (.inl e)),fun k e=>e.elim (fun e=>(hd.own k e).imp .inl id) (fun e=>.inl (.inr e))⟩
 exact⟨⟨hc,h.ge,n',nd',t',si',u',fun k e=>Nat.lt_of_lt_of_le (h.z k e) hz,fun i hi=>(rd' i hi).elim (fun r=>r.step hd2) (fun r=>r)⟩,hd⟩
theorem nodal_lt{Tn k:Nat}(h:Nodal Tn w k):k<w.heap.size:=by
 rcases h with⟨x,hx⟩|⟨es,x,hx⟩
 ·exact(Array.getElem?_eq_some_iff.1 hx).1
 ·exact(Array.getElem?_eq_some_iff.1 hx).1
theorem WkM.below(h:WkM Z w c B0 vN vT vS vU Bk A s)(hb:Below w.heap.size w w'):WkM Z w' c B0 vN vT vS vU Bk A s/\Dst (OwnW B0 c vN vT vS w) w (OwnW B0 c vN vT vS w') w':=by
 obtain⟨N,M,hN,hid⟩:=h.nd
 exact h.next ⟨hb.os,hb.tape,hb.output⟩ hb.size (fun k hk _=>hb.block k hk) (fun _ e=>.inl e) (fun _ e=>.inl e) (fun _ e=>.inl e) ((hb.block c h.lt).trans h.blk) (own_belowK h.n hb) ⟨N,M,hN.keep (fun b hn=>hb.block b (nodal_lt hn)),hid⟩ (own_belowK h.t hb) (own_belowK h.si hb) h.u (fun i hi=>.inl (h.rd i hi))
theorem Rd.mono{O O':Nat->Prop}{A:Ad}{t:Tb}(h:Rd O w A t)(ho:∀k,O' k->O k):Rd O' w A t:=fun w' hs hk=>h w' hs (fun k h1 h2=>hk k h1 (fun e=>h2 (ho k e)))
def ZB(Z:Nat->Prop)(a b k:Nat):Prop:=Z k\/(a<=k/\k<b)
theorem WkM.enter(h:WkM Z w c B0 vN vT vS vU Bk A s)(hb:Below w.heap.size w w'):WkM (ZB Z w.heap.size w'.heap.size) w' c B0 vN vT vS vU Bk A s/\Dst (OwnW B0 c vN vT vS w) w (OwnW B0 c vN vT vS w') w':=by
 obtain⟨h1,hd⟩:=h.below hb
 refine⟨⟨h1.blk,h1.ge,h1.n,h1.nd,h1.t,h1.si,h1.u,fun k e=>e.elim (fun e=>h1.z k e) (fun e=>e.2),fun i hi w'' hs hk=>?_⟩,hd⟩
 refine h.rd i hi w'' (Nat.le_trans hb.size hs) (fun k k1 k2=>(hk k (Nat.lt_of_lt_of_le k1 hb.size) (fun e=>?_)).trans (hb.block k k1))
 rcases e with e|e|e
 ·exact(hd.own k e).elim (fun e=>k2 (.inl e)) (fun e=>by omega)
 ·exact k2 (.inr e)
 ·omega
theorem WkM.leave{Z':Nat->Prop}(h:WkM Z w c B0 vN vT vS vU Bk A s)(hz:∀k,Z' k->Z k):WkM Z' w c B0 vN vT vS vU Bk A s:=
 ⟨h.blk,h.ge,h.n,h.nd,h.t,h.si,h.u,fun k e=>h.z k (hz k e),fun i hi=>(h.rd i hi).mono (fun k e=>e.imp id (hz k))⟩
theorem WkM.box(h:WkM Z w c B0 vN vT vS vU Bk A s){b:Nat}{cs:Array Value}{ty:TypeId}(hb:Z b)(hge:B0<=b)(hn:¬OwnW B0 c vN vT vS w b)(hos:w'.os=w.os/\w'.tape=w.tape/\w'.output=w.output/\w'.heap.size=w.heap.size)(hk:∀k,k≠b->w'.heap[k]?=w.heap[k]?)(hc:w'.heap[b]?=some (.cells cs ty (0,0)))(ht:ty≠208):
  WkM Z w' c B0 vN vT vS vU Bk A s/\∀k,OwnW B0 c vN vT vS w' k->OwnW B0 c vN vT vS w k:=by
 have ho:∀k,OwnW B0 c vN vT vS w' k->OwnW B0 c vN vT vS w k:=fun k e=>by
  rcases e with e|e|e|e|⟨e1,e2⟩
  ·exact .inl e
  ·exact .inr (.inl e)
  ·exact .inr (.inr (.inl e))
  ·exact .inr (.inr (.inr (.inl e)))
  ·by_cases hkb:k=b
   ·subst hkb
    rcases e2 with⟨x,hx⟩|⟨es,x,hx⟩
    ·rw[hc]at hx;cases hx;exact absurd rfl ht
    ·rw[hc]at hx;cases hx
   ·refine .inr (.inr (.inr (.inr ⟨e1,?_⟩)))
    unfold Nodal at*
    rw[hk k hkb]at e2
    exact e2
 have hw:∀k,OwnW B0 c vN vT vS w k->w'.heap[k]?=w.heap[k]?:=fun k e=>hk k (fun e'=>hn (e'▸e))
 obtain⟨N,M,hN,hid⟩:=h.nd
 refine⟨⟨(hw c (.inl rfl)).trans h.blk,h.ge,own_keep h.n (fun g e=>hw g (.inr (.inl e))),⟨N,M,hN.keep (fun b' hn'=>?_),hid⟩,own_keep h.t (fun g e=>hw g (.inr (.inr (.inl e)))),own_keep h.si (fun g e=>hw g (.inr (.inr (.inr (.inl e))))),h.u,fun k e=>by rw[hos.2.2.2];exact h.z k e,fun i hi w'' hs hk'=>?_⟩,ho⟩
 ·by_cases hbb:b'=b
  ·subst hbb
   exact absurd (.inr (.inr (.inr (.inr ⟨hge,hn'⟩)))) hn
  ·exact hk b' hbb
 ·refine h.rd i hi w'' (by rw[<-hos.2.2.2];exact hs) (fun k k1 k2=>(hk' k (by rw[hos.2.2.2];exact k1) (fun e=>k2 (e.imp (ho k) id))).trans (hk k (fun e=>k2 (.inr (e▸hb)))))
theorem WkM.fin{Z':Nat->Prop}{w'':World}{vN' vT' vS' vU':Value}{Bk':Nat->Nat}{A':Nat->Ad}{s':Sto}(h:WkM Z' w' c B0 vN' vT' vS' vU' Bk' A' s')(hd:Dst (OwnW B0 c vN vT vS w) w (OwnW B0 c vN' vT' vS' w') w')(hcw:B0<=w.heap.size)
  {b:Nat} {cs:Array Value} {ty:TypeId} (hb:Z' b) (hwb:w.heap.size<=b) (hn:¬OwnW B0 c vN' vT' vS' w' b) (hZ:∀k,Z k->Z' k) (hos:w''.os=w'.os/\w''.tape=w'.tape/\w''.output=w'.output/\w''.heap.size=w'.heap.size) (hk:∀k,k≠b->w''.heap[k]?=w'.heap[k]?) (hc:w''.heap[b]?=some (.cells cs ty (0,0))) (ht:ty≠208):
  WkM Z w'' c B0 vN' vT' vS' vU' Bk' A' s'/\Dst (OwnW B0 c vN vT vS w) w (OwnW B0 c vN' vT' vS' w'') w'':=by
 obtain⟨h1,ho⟩:=h.box hb (Nat.le_trans hcw hwb) hn hos hk hc ht
 exact⟨h1.leave hZ,⟨hos.1.trans hd.os,hos.2.1.trans hd.tape,hos.2.2.1.trans hd.output,by rw[hos.2.2.2];exact hd.size,fun k k1 k2=>(hk k (by omega)).trans (hd.block k k1 k2),fun k e=>hd.own k (ho k e)⟩⟩
theorem WkM.setU(h:WkM Z w c B0 vN vT vS vU Bk A s){ua:Option Addr}{un uc:Nat}:WkM Z (w.setCell ⟨c,3,none⟩ (.slice ua un uc)) c B0 vN vT vS (.slice ua un uc) Bk A s/\Dst (OwnW B0 c vN vT vS w) w (OwnW B0 c vN vT vS (w.setCell ⟨c,3,none⟩ (.slice ua un uc))) (w.setCell ⟨c,3,none⟩ (.slice ua un uc)):=by
 obtain⟨N,M,hN,hid⟩:=h.nd
 have ho:∀k,k≠c->(w.setCell ⟨c,3,none⟩ (.slice ua un uc)).heap[k]?=w.heap[k]?:=fun k hk=>Deep.blk_setCell_other _ _ _ _ (by exact hk)
 refine h.next ⟨rfl,rfl,rfl⟩ (by simp) (fun k _ hk=>ho k (fun e=>hk (.inl e))) (fun _ e=>.inl e) (fun _ e=>.inl e) (fun _ e=>.inl e) ?_ (own_keep h.n (fun g e=>ho g (fun e'=>h.notrow h.n (by decide) (e'▸e)))) ⟨N,M,hN.keep (fun b hn=>ho b (fun e=>h.notnode (e▸hn))),hid⟩
  (own_keep h.t (fun g e=>ho g (fun e'=>h.notrow h.t (by decide) (e'▸e)))) (own_keep h.si (fun g e=>ho g (fun e'=>h.notrow h.si (by decide) (e'▸e)))) ⟨_,_,_,rfl⟩ (fun i hi=>.inl (h.rd i hi))
 exact(heap_setCell_same _ _ _ _ _ _ h.blk).trans (by simp)
theorem WkM.drew(h:WkM Z w c B0 vN vT vS vU Bk A s):WkM Z w.drew c B0 vN vT vS vU Bk A s:=(h.below (Below.refl _ _).drew).1
theorem Dst.drewW{O:Nat->Prop}(h:Dst O w (OwnW B0 c vN vT vS w') w'):Dst O w (OwnW B0 c vN vT vS w'.drew) w'.drew:=⟨h.os,h.tape,h.output,h.size,h.block,fun k e=>h.own k e⟩
end
end
end Go.Proofs.YtgmlkfgfjjggnaaGreatDoor
