import Derived.Test.YtgmlkfgfjjggnaaGreatDoorSAK
set_option linter.unusedVariables false
set_option linter.unusedSimpArgs false
set_option maxHeartbeats 40000000
set_option maxRecDepth 100000
namespace Go.Proofs.YtgmlkfgfjjggnaaGreatDoor
section
open Go.RowKit
def intV(n:Int):Vl:=⟨2,n,0,⟨#[]⟩,0⟩
def upd{α:Type}(f:Nat->α)(i:Nat)(v:α):Nat->α:=fun j=>if j=i then v else f j
theorem upd_same{α:Type}(f:Nat->α)(i:Nat)(v:α):upd f i v i=v:=if_pos rfl
theorem upd_other{α:Type}(f:Nat->α){i j:Nat}(v:α)(h:j≠i):upd f i v j=f j:=if_neg h
structure KeyLaw (K:Vl->Prop) (hf:Vl->Nat):Prop where
 refl:∀a,K a->likeB a a=true
 symm:∀a b,K a->K b->likeB a b=true->likeB b a=true
 trans:∀a b c,K a->K b->K c->likeB a b=true->likeB b c=true->likeB a c=true
 hash:∀a b,K a->K b->likeB a b=true->hf a=hf b
 int:∀a b,K a->K b->a.kind=2->b.kind=2->a.num=b.num->likeB a b=true
 own:∀n:Int,K (intV n)
 none:noneB (default:Vl)=true
theorem like_kind{a b:Vl}(h:likeB a b=true):a.kind=b.kind:=by
 unfold likeB at h;simp only[Bool.and_eq_true,beq_iff_eq]at h;exact h.1
theorem like_num{a b:Vl}(h:likeB a b=true):a.num=b.num:=by
 unfold likeB at h;simp only[Bool.and_eq_true,beq_iff_eq]at h;exact h.2.1
theorem like_small{a b:Vl}{m:Nat}(h:likeB a b=true):smallK m a↔smallK m b:=by
 unfold smallK;rw[like_kind h,like_num h]
def Reach(x:Nat)(X:Nat->Int)(a s:Nat):Prop:=∃t,t<x/\s=(a+t)%x/\∀j,j<t->X ((a+j)%x)≠0
theorem Reach.mono{x:Nat}{X Y:Nat->Int}{a s:Nat}(h:Reach x X a s)(e:∀j,j<x->X j≠0->Y j≠0):Reach x Y a s:=by
 obtain⟨t,h1,h2,h3⟩:=h
 exact⟨t,h1,h2,fun j hj=>e _ (Nat.mod_lt _ (by omega)) (h3 j hj)⟩
structure Idx (hf:Vl->Nat) (L:Nat->Pr) (x:Nat) (X:Nat->Int) (P:Nat->Prop):Prop where
 range:∀s,s<x->X s=0\/X s=-1\/(0<X s/\P (X s-1).toNat)
 has:∀i,P i->∃s,s<x/\X s=i+1/\Reach x X (hf (L i).key%x) s
 uniq:∀s s',s<x->s'<x->0<X s->X s=X s'->s=s'
theorem Idx.congr{hf:Vl->Nat}{L L':Nat->Pr}{x:Nat}{X:Nat->Int}{P P':Nat->Prop}(h:Idx hf L x X P)(hP:∀i,P' i↔P i)(hL:∀i,P i->(L' i).key=(L i).key):Idx hf L' x X P':=
 ⟨fun s hs=>(h.range s hs).imp id (Or.imp id (fun e=>⟨e.1,(hP _).2 e.2⟩)),fun i hi=>by rw[hL i ((hP i).1 hi)];exact h.has i ((hP i).1 hi),h.uniq⟩
theorem Idx.empty(hf:Vl->Nat)(L:Nat->Pr)(x:Nat)(P:Nat->Prop)(hP:∀i,¬P i):Idx hf L x (fun _=>0) P:=
 ⟨fun s _=>.inl rfl,fun i hi=>absurd hi (hP i),fun s s' _ _ h=>absurd h (by simp)⟩
theorem Idx.put{hf:Vl->Nat}{L:Nat->Pr}{x:Nat}{X:Nat->Int}{P:Nat->Prop}(h:Idx hf L x X P){p s:Nat}(hp:¬P p)(hs:s<x)(h0:X s<=0)(hr:Reach x X (hf (L p).key%x) s):Idx hf L x (upd X s ((p:Int)+1)) (fun i=>P i\/i=p):=by
 have hne:∀j,j<x->X j≠0->upd X s ((p:Int)+1) j≠0:=by
  intro j _ hj
  by_cases e:j=s
  ·subst e;rw[upd_same];omega
  ·rw[upd_other _ _ e];exact hj
 have hno:∀t,t<x->X t≠(p:Int)+1:=by
  intro t ht e
  rcases h.range t ht with h1|h1|h1
  ·omega
  ·omega
  ·rw[e]at h1
   exact hp (by simpa using h1.2)
 refine⟨fun t ht=>?_,fun i hi=>?_,fun t t' ht ht' h1 h2=>?_⟩
 ·by_cases e:t=s
  ·subst e;rw[upd_same];exact .inr (.inr ⟨by omega,.inr (by omega)⟩)
  ·rw[upd_other _ _ e];exact(h.range t ht).imp id (Or.imp id (fun e=>⟨e.1,.inl e.2⟩))
 ·by_cases e:i=p
  ·subst e;exact⟨s,hs,upd_same _ _ _,hr.mono hne⟩
  ·obtain⟨t,h1,h2,h3⟩:=h.has i (hi.resolve_right e)
   exact⟨t,h1,by rw[upd_other _ _ (fun e'=>by subst e';omega)];exact h2,h3.mono hne⟩
 ·by_cases e:t=s
  ·by_cases e':t'=s
   ·rw[e,e']
   ·subst e;rw[upd_same,upd_other _ _ e']at h2;exact absurd h2.symm (hno t' ht')
  ·by_cases e':t'=s
   ·subst e';rw[upd_same,upd_other _ _ e]at h2;exact absurd h2 (hno t ht)
   ·rw[upd_other _ _ e,upd_other _ _ e']at h2
    rw[upd_other _ _ e]at h1
    exact h.uniq t t' ht ht' h1 h2
theorem Idx.leave{hf:Vl->Nat}{L:Nat->Pr}{x:Nat}{X:Nat->Int}{P:Nat->Prop}(h:Idx hf L x X P){s:Nat}(hs:s<x)(h0:0<X s):Idx hf L x (upd X s (-1)) (fun i=>P i/\(i:Int)+1≠X s):=by
 have hne:∀j,j<x->X j≠0->upd X s (-1) j≠0:=by
  intro j _ hj
  by_cases e:j=s
  ·subst e;rw[upd_same];omega
  ·rw[upd_other _ _ e];exact hj
 refine⟨fun t ht=>?_,fun i hi=>?_,fun t t' ht ht' h1 h2=>?_⟩
 ·by_cases e:t=s
  ·subst e;rw[upd_same];exact .inr (.inl rfl)
  ·rw[upd_other _ _ e]
   refine(h.range t ht).imp id (Or.imp id (fun e'=>⟨e'.1,e'.2,fun e''=>e (h.uniq t s ht hs e'.1 (by omega))⟩))
 ·obtain⟨t,h1,h2,h3⟩:=h.has i hi.1
  refine⟨t,h1,?_,h3.mono hne⟩
  rw[upd_other _ _ (fun e'=>by subst e';exact hi.2 h2.symm)]
  exact h2
 ·by_cases e:t=s
  ·subst e;rw[upd_same]at h1;omega
  ·by_cases e':t'=s
   ·subst e';rw[upd_same,upd_other _ _ e]at h2;rw[upd_other _ _ e]at h1;omega
   ·rw[upd_other _ _ e,upd_other _ _ e']at h2
    rw[upd_other _ _ e]at h1
    exact h.uniq t t' ht ht' h1 h2
def useN(X:Nat->Int):Nat->Nat
 |0=>0
 |k+1=>if X k=0 then useN X k else useN X k+1
theorem usedTo_useN(d:Dc)(k:Nat):usedTo d k=useN d.X k:=by
 induction k with
 |zero=>rfl
 |succ k ih=>show(if _ then _ else _)=(if _ then _ else _);rw[ih]
theorem useN_le(X:Nat->Int)(k:Nat):useN X k<=k:=by
 induction k with
 |zero=>exact Nat.le_refl _
 |succ k ih=>
  show(if X k=0 then useN X k else useN X k+1)<=k+1
  by_cases e:X k=0
  ·rw[if_pos e];omega
  ·rw[if_neg e];omega
theorem useN_congr{X Y:Nat->Int}{k:Nat}(h:∀j,j<k->(X j=0↔Y j=0)):useN X k=useN Y k:=by
 induction k with
 |zero=>rfl
 |succ k ih=>
  show(if _ then _ else _)=(if _ then _ else _)
  rw[ih (fun j hj=>h j (by omega))]
  by_cases e:X k=0
  ·rw[if_pos e,if_pos ((h k (by omega)).1 e)]
  ·rw[if_neg e,if_neg (fun e'=>e ((h k (by omega)).2 e'))]
theorem useN_zero(k:Nat):useN (fun _=>0) k=0:=by
 induction k with
 |zero=>rfl
 |succ k ih=>show(if _ then _ else _)=_;rw[if_pos rfl];exact ih
theorem useN_put{X:Nat->Int}{s:Nat}{v:Int}(hv:v≠0)(h0:X s=0):∀k,useN (upd X s v) k=useN X k+(if s<k then 1 else 0):=by
 intro k
 induction k with
 |zero=>rfl
 |succ k ih=>
  show(if _ then _ else _)=(if _ then _ else _)+_
  rw[ih]
  by_cases e:k=s
  ·subst e
   rw[upd_same,if_neg hv,if_pos h0,if_neg (by omega),if_pos (by omega)]
  ·rw[upd_other _ _ e]
   by_cases e1:X k=0
   ·rw[if_pos e1,if_pos e1]
    by_cases e2:s<k
    ·rw[if_pos e2,if_pos (by omega)]
    ·rw[if_neg e2,if_neg (by omega)]
   ·rw[if_neg e1,if_neg e1]
    by_cases e2:s<k
    ·rw[if_pos e2,if_pos (by omega)]
    ·rw[if_neg e2,if_neg (by omega)]
theorem useN_free{X:Nat->Int}{k:Nat}(h:useN X k<k):∃j,j<k/\X j=0:=by
 induction k with
 |zero=>omega
 |succ k ih=>
  by_cases e:X k=0
  ·exact⟨k,by omega,e⟩
  ·have h':(if X k=0 then useN X k else useN X k+1)<k+1:=h
   rw[if_neg e]at h'
   obtain⟨j,h1,h2⟩:=ih (by omega)
   exact⟨j,by omega,h2⟩
theorem round_mod{x a s:Nat}(ha:a<x)(hs:s<x):∃t,t<x/\s=(a+t)%x:=by
 by_cases h:a<=s
 ·exact⟨s-a,by omega,by rw[show a+(s-a)=s by omega,Nat.mod_eq_of_lt hs]⟩
 ·refine⟨s+x-a,by omega,?_⟩
  rw[show a+(s+x-a)=s+x by omega,Nat.add_mod_right,Nat.mod_eq_of_lt hs]
def freeSlot(x:Nat)(X:Nat->Int)(a:Nat):Option Nat:=(seqL x a x).find? (fun s=>decide (X s<=0))
theorem seqL_split{x a f t:Nat}(h:t<f):seqL x a f=seqL x a t++((a+t)%x)::(List.range' (t+1) (f-t-1)).map (fun j=>(a+j)%x):=by
 unfold seqL
 have:List.range f=List.range t++t::List.range' (t+1) (f-t-1):=by
  rw[List.range_eq_range',List.range_eq_range',show f=t+(f-t) by omega,<-List.range'_append_1,show t+(f-t)-t-1=f-t-1 by omega]
  congr 1
  obtain⟨g,hg⟩:∃g,f-t=g+1:=⟨f-t-1,by omega⟩
  rw[hg,List.range'_succ]
  simp
 rw[this]
 simp
theorem freeSlot_at{x a t:Nat}{X:Nat->Int}(ht:t<x)(h:∀j,j<t->0<X ((a+j)%x))(h0:X ((a+t)%x)<=0):freeSlot x X a=some ((a+t)%x):=by
 unfold freeSlot
 rw[seqL_split ht,List.find?_append]
 have:(seqL x a t).find? (fun s=>decide (X s<=0))=none:=by
  rw[List.find?_eq_none]
  intro s hs
  unfold seqL at hs
  obtain⟨j,hj,rfl⟩:=List.mem_map.1 hs
  have:=h j (List.mem_range.1 hj)
  simp;omega
 rw[this]
 simp[h0]
theorem least{P:Nat->Prop}:∀n,(∃t,t<n/\P t)->∃t,t<n/\P t/\∀j,j<t->¬P j:=by
 intro n
 induction n with
 |zero=>rintro⟨t,h,_⟩;omega
 |succ n ih=>
  rintro⟨t,h,hp⟩
  by_cases e:∃t,t<n/\P t
  ·obtain⟨t,h1,h2,h3⟩:=ih e
   exact⟨t,by omega,h2,h3⟩
  ·exact⟨t,h,hp,fun j hj hpj=>e ⟨j,by omega,hpj⟩⟩
theorem freeSlot_some{x a:Nat}{X:Nat->Int}(ha:a<x)(hu:useN X x<x):∃t,t<x/\freeSlot x X a=some ((a+t)%x)/\X ((a+t)%x)<=0/\∀j,j<t->0<X ((a+j)%x):=by
 obtain⟨s,hs,h0⟩:=useN_free hu
 obtain⟨t,ht,e⟩:=round_mod ha hs
 obtain⟨t,h1,h2,h3⟩:=least (P:=fun t=>X ((a+t)%x)<=0) x ⟨t,ht,by rw[<-e];omega⟩
 have h3':∀j,j<t->0<X ((a+j)%x):=fun j hj=>by have:=h3 j hj;omega
 exact⟨t,h1,freeSlot_at h1 h3' h2,h2,h3'⟩
def enterD(hf:Vl->Nat)(d:Dc)(k:Vl)(p:Nat):Dc:=
 match freeSlot d.x d.X (hf k%d.x)with
 |none=>d
 |some a=>{d with X:=upd d.X a ((p:Int)+1),used:=if d.X a=0 then d.used+1 else d.used}
theorem enterD_some{hf:Vl->Nat}{d:Dc}{k:Vl}{p a:Nat}(h:freeSlot d.x d.X (hf k%d.x)=some a):enterD hf d k p={d with X:=upd d.X a ((p:Int)+1),used:=if d.X a=0 then d.used+1 else d.used}:=by
 unfold enterD;rw[h]
theorem enterD_idx{hf:Vl->Nat}{d:Dc}{L:Nat->Pr}{k:Vl}{p:Nat}{P:Nat->Prop}(h:Idx hf L d.x d.X P)(hp:¬P p)(hk:hf (L p).key=hf k)(hx:useN d.X d.x<d.x)(hu:(useN d.X d.x:Int)=d.used):
  Idx hf L (enterD hf d k p).x (enterD hf d k p).X (fun i=>P i\/i=p)/\(useN (enterD hf d k p).X (enterD hf d k p).x:Int)=(enterD hf d k p).used/\(enterD hf d k p).x=d.x/\(enterD hf d k p).n=d.n/\(enterD hf d k p).L=d.L/\(enterD hf d k p).m=d.m/\(enterD hf d k p).I=d.I/\(enterD hf d k p).live=d.live/\(enterD hf d k p).turns=d.turns/\useN (enterD hf d k p).X d.x<=useN d.X d.x+1:=by
 have hx0:0<d.x:=by omega
 obtain⟨t,h1,h2,h3,h4⟩:=freeSlot_some (a:=hf k%d.x) (Nat.mod_lt _ hx0) hx
 rw[enterD_some h2]
 have hs:(hf k%d.x+t)%d.x<d.x:=Nat.mod_lt _ hx0
 refine⟨h.put hp hs h3 ⟨t,h1,by rw[hk],fun j hj=>by rw[hk];have:=h4 j hj;omega⟩,?_,rfl,rfl,rfl,rfl,rfl,rfl,rfl,?_⟩
 ·show(useN (upd d.X ((hf k%d.x+t)%d.x) ((p:Int)+1)) d.x:Int)=if d.X ((hf k%d.x+t)%d.x)=0 then d.used+1 else d.used
  by_cases e:d.X ((hf k%d.x+t)%d.x)=0
  ·rw[if_pos e,useN_put (by omega) e,if_pos hs];omega
  ·rw[if_neg e,<-hu,useN_congr (X:=upd d.X _ _) (Y:=d.X) (fun j hj=>?_)]
   by_cases e':j=(hf k%d.x+t)%d.x
   ·subst e';rw[upd_same];constructor<;>intro h<;>omega
   ·rw[upd_other _ _ e']
 ·show useN (upd d.X ((hf k%d.x+t)%d.x) ((p:Int)+1)) d.x<=_
  by_cases e:d.X ((hf k%d.x+t)%d.x)=0
  ·rw[useN_put (by omega) e,if_pos hs];omega
  ·rw[useN_congr (X:=upd d.X _ _) (Y:=d.X) (fun j hj=>?_)]
   ·omega
   ·by_cases e':j=(hf k%d.x+t)%d.x
    ·subst e';rw[upd_same];constructor<;>intro h<;>omega
    ·rw[upd_other _ _ e']
structure LogOk (d:Dc):Prop where
 ent:∀i,i<d.n->Entry d i
 ord:∀i j,i<j->j<d.n->(d.L i).turn≠0->(d.L j).turn≠0->(d.L i).turn<(d.L j).turn
 cnt:(lvN d:Int)=d.live
theorem LogOk.d2{d:Dc}(h:LogOk d):D2 d:=by
 have main:∀k,k<=d.n->∃last,logTo d k=some (((livL d k).length:Int),last)/\(last=0\/∃i,i<k/\(d.L i).turn≠0/\(d.L i).turn=last):=by
  intro k
  induction k with
  |zero=>intro _;exact⟨0,rfl,.inl rfl⟩
  |succ k ih=>
   intro hk
   obtain⟨last,e,hl⟩:=ih (by omega)
   rcases h.ent k (by omega)with⟨ht,hn1,hn2⟩|⟨ht,h1,h2,h3,h4⟩
   ·refine⟨last,?_,?_⟩
    ·rw[logTo_dead e ht,hn1,hn2,livL_dead ht];rfl
    ·rcases hl with hl|⟨i,h1,h2⟩
     ·exact .inl hl
     ·exact .inr ⟨i,by omega,h2⟩
   ·have ht':(d.L k).turn≠0:=by omega
    have hlt:last<(d.L k).turn:=by
     rcases hl with hl|⟨i,g1,g2,g3⟩
     ·omega
     ·have:=h.ord i k g1 (by omega) g2 ht'
      omega
    refine⟨(d.L k).turn,?_,.inr ⟨k,by omega,ht',rfl⟩⟩
    have hp:pairB d.turns last (d.L k)=true:=by unfold pairB;simp[hlt,h1,h2,h3,h4]
    rw[logTo_live e ht',if_pos hp,livL_live ht',List.length_append,List.length_singleton]
    congr 1
 obtain⟨last,e,_⟩:=main d.n (Nat.le_refl _)
 exact⟨last,by rw[e];congr 1;rw[<-h.cnt];rfl⟩
def inX(d:Dc)(i:Nat):Prop:=i<d.n/\(d.L i).turn≠0/\¬smallK d.m (d.L i).key
structure Inv0 (K:Vl->Prop) (hf:Vl->Nat) (d:Dc):Prop where
 log:LogOk d
 keys:∀i,i<d.n->(d.L i).turn≠0->K (d.L i).key
 dist:∀i j,i<d.n->j<d.n->(d.L i).turn≠0->(d.L j).turn≠0->likeB (d.L i).key (d.L j).key=true->i=j
 ints:∀j,j<d.m->okInt d j
 last:d.m=0\/0<d.I (d.m-1)
 small:∀i,i<d.n->(d.L i).turn≠0->smallK d.m (d.L i).key->d.I ((d.L i).key.num-1).toNat=i+1
 sz:SizeX d.x
 idx:Idx hf d.L d.x d.X (inX d)
 used:(useN d.X d.x:Int)=d.used
 half:2*useN d.X d.x<=d.x
 turns:0<=d.turns/\d.turns<=1000000000000
 le:d.live<=500
def Next(d:Dc):Prop:=∀i,i<d.n->(d.L i).turn≠0->¬((d.L i).key.kind=2/\(d.L i).key.num=(d.m:Int)+1)
def Tight(d:Dc):Prop:=(d.n:Int)<=8\/(d.n:Int)<=2*d.live
structure Inv (K:Vl->Prop) (hf:Vl->Nat) (d:Dc):Prop where
 i0:Inv0 K hf d
 next:Next d
 tight:Tight d
theorem Inv0.d3{K:Vl->Prop}{hf:Vl->Nat}{d:Dc}(h:Inv0 K hf d):D3 d:=⟨h.ints,h.last⟩
theorem Inv0.d4{K:Vl->Prop}{hf:Vl->Nat}{d:Dc}(h:Inv0 K hf d):D4 d:=by
 refine⟨h.sz,fun j hj=>?_,by rw[usedTo_useN];exact h.used,by rw[usedTo_useN];exact h.half⟩
 rcases h.idx.range j hj with e|e|⟨e,h1,h2,h3⟩
 ·exact .inl e
 ·exact .inr (.inl e)
 ·exact .inr (.inr ⟨e,by omega,h2,h3⟩)
theorem Inv.d1{K:Vl->Prop}{hf:Vl->Nat}{d:Dc}(h:Inv K hf d):D1 d:=⟨by have:=h.i0.log.cnt;omega,h.i0.le,h.i0.turns.1,h.i0.turns.2,h.tight⟩
theorem probe_some{d:Dc}{v:Vl}(hx:0<d.x):∀(f a s:Nat),a<d.x->f<=d.x->probe d v a f=some s->0<d.X s/\likeB (d.at (d.X s)).key v=true/\∃t,t<f/\s=(a+t)%d.x/\∀j,j<t->d.X ((a+j)%d.x)≠0:=by
 intro f
 induction f with
 |zero=>intro a s _ _ h;cases h
 |succ f ih=>
  intro a s ha hf h
  by_cases h0:d.X a=0
  ·rw[probe_zero h0]at h;cases h
  ·by_cases hl:0<d.X a/\likeB (d.at (d.X a)).key v=true
   ·rw[probe_hit hl.1 hl.2]at h
    cases h
    exact⟨hl.1,hl.2,0,by omega,by rw[Nat.add_zero,Nat.mod_eq_of_lt ha],fun j hj=>by omega⟩
   ·rw[probe_next h0 hl]at h
    obtain⟨h1,h2,t,h3,h4,h5⟩:=ih _ _ (Nat.mod_lt _ hx) (by omega) h
    refine⟨h1,h2,t+1,by omega,?_,fun j hj=>?_⟩
    ·rw[h4,Nat.mod_add_mod];congr 1;omega
    ·cases j with
     |zero=>rw[Nat.add_zero,Nat.mod_eq_of_lt ha];exact h0
     |succ j=>
      have:=h5 j (by omega)
      rw[Nat.mod_add_mod]at this
      rwa [show a+(j+1)=a+1+j by omega]
theorem probe_at{d:Dc}{v:Vl}(hx:0<d.x):∀(t a f:Nat),a<d.x->t<f->(∀j,j<t->d.X ((a+j)%d.x)≠0/\¬(0<d.X ((a+j)%d.x)/\likeB (d.at (d.X ((a+j)%d.x))).key v=true))->0<d.X ((a+t)%d.x)->likeB (d.at (d.X ((a+t)%d.x))).key v=true->probe d v a f=some ((a+t)%d.x):=by
 intro t
 induction t with
 |zero=>
  intro a f ha hf _ h1 h2
  obtain⟨g,rfl⟩:∃g,f=g+1:=⟨f-1,by omega⟩
  have e:(a+0)%d.x=a:=Nat.mod_eq_of_lt ha
  rw[e]at h1 h2 ⊢
  exact probe_hit h1 h2
 |succ t ih=>
  intro a f ha hf h h1 h2
  obtain⟨g,rfl⟩:∃g,f=g+1:=⟨f-1,by omega⟩
  have h0:=h 0 (by omega)
  rw[Nat.add_zero,Nat.mod_eq_of_lt ha]at h0
  rw[probe_next h0.1 h0.2]
  have e:∀j,((a+1)%d.x+j)%d.x=(a+(j+1))%d.x:=fun j=>by rw[Nat.mod_add_mod];congr 1;omega
  have:=ih ((a+1)%d.x) g (Nat.mod_lt _ hx) (by omega) (fun j hj=>by rw[e];exact h (j+1) (by omega)) (by rw[e];exact h1) (by rw[e];exact h2)
  rw[this,e]
theorem probe_none{d:Dc}{v:Vl}(hx:0<d.x)(h:∀s,s<d.x->¬(0<d.X s/\likeB (d.at (d.X s)).key v=true)):∀(f a:Nat),a<d.x->probe d v a f=none:=by
 intro f
 induction f with
 |zero=>intro a _;rfl
 |succ f ih=>
  intro a ha
  by_cases h0:d.X a=0
  ·exact probe_zero h0
  ·rw[probe_next h0 (h a ha)]
   exact ih _ (Nat.mod_lt _ hx)
section
variable {K:Vl->Prop} {hf:Vl->Nat} {d:Dc}
theorem Inv0.found(h:Inv0 K hf d)(KL:KeyLaw K hf){v:Vl}(hv:K v){i:Nat}(hi:inX d i)(hl:likeB (d.L i).key v=true):∃s,s<d.x/\d.X s=i+1/\slotOf d v (hf v)=some s:=by
 obtain⟨s,hs,hX,t,ht,rfl,hne⟩:=h.idx.has i hi
 have hki:=h.keys i hi.1 hi.2.1
 have hx:0<d.x:=by omega
 rw[KL.hash _ _ hki hv hl]at hs hX hne
 refine⟨_,hs,hX,?_⟩
 unfold slotOf
 rw[if_neg (by omega)]
 have hat:(d.at ((i:Int)+1))=d.L i:=by unfold Dc.at;congr 1;omega
 refine probe_at hx t _ _ (Nat.mod_lt _ hx) ht (fun j hj=>⟨hne j hj,fun hc=>?_⟩) (by rw[hX];omega) (by rw[hX,hat];exact hl)
 have hj1:(hf v%d.x+j)%d.x<d.x:=Nat.mod_lt _ hx
 rcases h.idx.range _ hj1 with e|e|⟨e,hP⟩
 ·exact hne j hj e
 ·omega
 ·have hkj:=h.keys _ hP.1 hP.2.1
  have hlk:likeB (d.L (d.X ((hf v%d.x+j)%d.x)-1).toNat).key (d.L i).key=true:=KL.trans _ _ _ hkj hv hki hc.2 (KL.symm _ _ hki hv hl)
  have:=h.dist _ _ hP.1 hi.1 hP.2.1 hi.2.1 hlk
  have hXX:d.X ((hf v%d.x+j)%d.x)=d.X ((hf v%d.x+t)%d.x):=by rw[hX];omega
  have hss:=h.idx.uniq _ _ hj1 hs e hXX
  have:j=t:=by
   have h1:(hf v%d.x)<d.x:=Nat.mod_lt _ hx
   have e1:∀q,q<d.x->(hf v%d.x+q)%d.x=if hf v%d.x+q<d.x then hf v%d.x+q else hf v%d.x+q-d.x:=by
    intro q hq
    by_cases e:hf v%d.x+q<d.x
    ·rw[if_pos e,Nat.mod_eq_of_lt e]
    ·rw[if_neg e,Nat.mod_eq_sub_mod (by omega),Nat.mod_eq_of_lt (by omega)]
   rw[e1 j (by omega),e1 t ht]at hss
   split at hss<;>split at hss<;>omega
  omega
theorem Inv0.lost(h:Inv0 K hf d){v:Vl}{a:Nat}(hno:∀i,inX d i->likeB (d.L i).key v=false):slotOf d v a=none:=by
 unfold slotOf
 by_cases hx:d.x=0
 ·rw[if_pos hx]
 ·rw[if_neg hx]
  refine probe_none (by omega) (fun s hs hc=>?_) _ _ (Nat.mod_lt _ (by omega))
  rcases h.idx.range s hs with e|e|⟨e,hP⟩
  ·omega
  ·omega
  ·have:=hno _ hP
   rw[hc.2]at this
   cases this
theorem slotOf_says{v:Vl}{a s:Nat}(e:slotOf d v a=some s):s<d.x/\0<d.X s/\likeB (d.at (d.X s)).key v=true/\Reach d.x d.X (a%d.x) s:=by
 unfold slotOf at e
 split at e
 ·cases e
 ·next hx=>
  obtain⟨h1,h2,t,h3,h4,h5⟩:=probe_some (by omega) _ _ _ (Nat.mod_lt _ (by omega)) (Nat.le_refl _) e
  exact⟨by rw[h4];exact Nat.mod_lt _ (by omega),h1,h2,t,h3,h4,h5⟩
theorem Inv0.place(h:Inv0 K hf d)(KL:KeyLaw K hf){v:Vl}(hv:K v):
  (∃i,i<d.n/\(d.L i).turn≠0/\likeB (d.L i).key v=true/\placeI d v (hf v)=i)\/((∀i,i<d.n->(d.L i).turn≠0->likeB (d.L i).key v=false)/\placeI d v (hf v)=-1):=by
 unfold placeI
 by_cases hs:smallK d.m v
 ·rw[if_pos hs]
  obtain⟨k1,k2,k3⟩:=hs
  have hq:(v.num-1).toNat<d.m:=by omega
  rcases h.ints _ hq with e|⟨e1,e2,e3,e4,e5⟩
  ·right
   refine⟨fun i hi ht=>?_,by omega⟩
   cases hl:likeB (d.L i).key v
   ·rfl
   ·have:=h.small i hi ht ((like_small hl).2 ⟨k1,k2,k3⟩)
    rw[like_num hl]at this
    omega
  ·left
   refine⟨(d.I (v.num-1).toNat-1).toNat,by omega,e3,?_,by omega⟩
   exact KL.int _ _ (h.keys _ (by omega) e3) hv e4 k1 (by rw[e5];omega)
 ·rw[if_neg hs]
  by_cases hex:∃i,i<d.n/\(d.L i).turn≠0/\likeB (d.L i).key v=true
  ·obtain⟨i,h1,h2,h3⟩:=hex
   obtain⟨s,g1,g2,g3⟩:=h.found KL hv ⟨h1,h2,fun hh=>hs ((like_small h3).1 hh)⟩ h3
   left
   refine⟨i,h1,h2,h3,?_⟩
   rw[g3]
   show d.X s-1=_
   omega
  ·have hno:∀i,i<d.n->(d.L i).turn≠0->likeB (d.L i).key v=false:=fun i h1 h2=>by
    cases hl:likeB (d.L i).key v
    ·rfl
    ·exact absurd ⟨i,h1,h2,hl⟩ hex
   right
   refine⟨hno,?_⟩
   rw[h.lost (fun i hi=>hno i hi.1 hi.2.1)]
   rfl
end
theorem cnt_zero{f:Nat->Int}{i:Nat}{k:Nat}(h:∀j,j<k->f j≠(i:Int)+1):cnt f i k=0:=by
 induction k with
 |zero=>rfl
 |succ k ih=>
  show(if _ then _ else _)=0
  rw[if_neg (h k (by omega))]
  exact ih (fun j hj=>h j (by omega))
theorem cnt_one{f:Nat->Int}{i s:Nat}:∀{k:Nat},s<k->f s=(i:Int)+1->(∀j,j<k->f j=(i:Int)+1->j=s)->cnt f i k=1:=by
 intro k
 induction k with
 |zero=>intro h;omega
 |succ k ih=>
  intro hs h1 h2
  show(if _ then _ else _)=1
  by_cases e:k=s
  ·subst e
   rw[if_pos h1,cnt_zero (fun j hj e'=>by have:=h2 j (by omega) e';omega)]
  ·rw[if_neg (fun e'=>e (h2 k (by omega) e'))]
   exact ih (by omega) h1 (fun j hj=>h2 j (by omega))
theorem Inv.sound{K:Vl->Prop}{hf:Vl->Nat}{d:Dc}(h:Inv K hf d)(KL:KeyLaw K hf):Sound d (fun i=>hf (d.L i).key):=by
 refine⟨h.d1,h.i0.log.d2,h.i0.d3,h.i0.d4,fun i hi ht=>⟨?_,?_,h.next i hi ht⟩⟩
 ·by_cases hs:smallK d.m (d.L i).key
  ·have h1:=h.i0.small i hi ht hs
   obtain⟨k1,k2,k3⟩:=hs
   have hq:((d.L i).key.num-1).toNat<d.m:=by omega
   rw[cnt_one (s:=((d.L i).key.num-1).toNat) hq h1 (fun j hj e=>?_),cnt_zero (fun j hj e=>?_)]
   ·rcases h.i0.idx.range j hj with e'|e'|⟨e',hP⟩
    ·omega
    ·omega
    ·rw[e,show(((i:Int)+1-1).toNat)=i by omega]at hP
     exact hP.2.2 ⟨k1,k2,k3⟩
   ·rcases h.i0.ints j hj with e'|⟨e1,e2,e3,e4,e5⟩
    ·omega
    ·unfold Dc.at at e5
     rw[e,show(((i:Int)+1-1).toNat)=i by omega]at e5
     omega
  ·obtain⟨s,h1,h2,h3⟩:=h.i0.idx.has i ⟨hi,ht,hs⟩
   rw[cnt_one (f:=d.X) (s:=s) h1 h2 (fun j hj e=>h.i0.idx.uniq j s hj h1 (by omega) (by omega)),cnt_zero (fun j hj e=>?_)]
   rcases h.i0.ints j hj with e'|⟨e1,e2,e3,e4,e5⟩
   ·omega
   ·unfold Dc.at at e4 e5
    rw[e,show(((i:Int)+1-1).toNat)=i by omega]at e4 e5
    exact hs ⟨e4,by omega,by omega⟩
 ·rcases h.i0.place KL (h.i0.keys i hi ht)with⟨j,h1,h2,h3,h4⟩|⟨h1,_⟩
  ·rw[h4,h.i0.dist j i h1 hi h2 ht h3]
  ·have:=h1 i hi ht
   rw[KL.refl _ (h.i0.keys i hi ht)]at this
   cases this
end
end Go.Proofs.YtgmlkfgfjjggnaaGreatDoor
