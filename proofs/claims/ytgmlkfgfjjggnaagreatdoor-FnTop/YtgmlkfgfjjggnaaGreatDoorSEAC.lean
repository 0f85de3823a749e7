import Derived.Test.YtgmlkfgfjjggnaaGreatDoorSEAB
set_option linter.all false
set_option maxHeartbeats 40000000
set_option maxRecDepth 100000
namespace Go.Proofs.YtgmlkfgfjjggnaaGreatDoor
open Go.Proofs.Tryz
open Go.RowKit
attribute [local go_sem] AA Aw Cl
section
structure Core (K:Vl->Prop) (d:Dc):Prop where
 log:KG d
 keys:∀i,i<d.n->(d.L i).turn≠0->K (d.L i).key
 Ja:∀i j,i<d.n->j<d.n->(d.L i).turn≠0->(d.L j).turn≠0->Ap (d.L i).key (d.L j).key=true->i=j
 ints:∀j,j<d.m->Hr d j
 last:d.m=0\/0<d.I (d.m-1)
 small:∀i,i<d.n->(d.L i).turn≠0->AH d.m (d.L i).key->d.I ((d.L i).key.num-1).toNat=i+1
 turns:0<=d.turns/\d.turns<=1000000000000
 le:d.live<=500
structure Ix (hf:Vl->Nat) (d:Dc):Prop where
 sz:aA d.x
 idx:Idx hf d.L d.x d.X (Rq d)
 used:(Cd d.X d.x:Int)=d.used
 half:2*Cd d.X d.x<=d.x
theorem Co.core{K:Vl->Prop}{hf:Vl->Nat}{d:Dc}(h:Co K hf d):Core K d:=⟨h.log,h.keys,h.Ja,h.ints,h.last,h.small,h.turns,h.le⟩
theorem Core.Qz{K:Vl->Prop}{hf:Vl->Nat}{d:Dc}(h:Core K d)(g:Ix hf d):Co K hf d:=⟨h.log,h.keys,h.Ja,h.ints,h.last,h.small,g.sz,g.idx,g.used,g.half,h.turns,h.le⟩
theorem Core.pos{K:Vl->Prop}{d:Dc}(h:Core K d){i:Nat}(hi:i<d.n)(a:(d.L i).turn≠0):0<(d.L i).turn:=by
 rcases h.log.Ca i hi with e|e
 ·exact absurd e.1 a
 ·exact e.1
open Classical in
noncomputable def Ew(d:Dc):Nat->Nat
 |0=>0
 |k+1=>if Cz d k then Ew d k+1 else Ew d k
theorem Gh{d:Dc}{k:Nat}(h:Cz d k):Ew d (k+1)=Ew d k+1:=C3 h
theorem LG{d:Dc}{k:Nat}(h:¬Cz d k):Ew d (k+1)=Ew d k:=Cs h
theorem TD(d:Dc)(k:Nat):Ew d k<=(AU d k).length:=by
 induction k with
 |zero=>exact A0 _
 |succ k ih=>
  by_cases h:Cz d k
  ·have:=h.1;rw[Gh h,Br (by omega),To,Aax];omega
  ·rw[LG h];refine FZ ih ?_;exact(ER (d:=d) (k:=k) (n:=k+1) (by omega)).length_le
theorem UN(d:Dc){k n:Nat}(h:k<=n):Ew d k<=Ew d n:=by
 obtain⟨j,rfl⟩:∃j,n=k+j:=⟨n-k,by omega⟩;clear h
 induction j with
 |zero=>exact A0 _
 |succ j ih=>
  refine FZ ih ?_;by_cases h:Cz d (k+j)
  ·rw[show k+(j+1)=k+j+1 by omega,Gh h];omega
  ·rw[show k+(j+1)=k+j+1 by omega,LG h];exact A0 _
def DE:Nat->Nat->Nat->Nat
 |0,s,_=>s
 |f+1,s,q=>if s<q then DE f (2*s) q else s
def De(n:Nat):Nat:=DE 9 8 (4*n)
theorem Q0:∀(f s q:Nat),q<=2000->Rv s->8<=s->s<=4000->2000<=s*2^f->q<=DE f s q/\8<=DE f s q/\DE f s q<=4000/\Rv (DE f s q):=by
 intro f
 induction f with
 |zero=>
  intro s q h1 h2 h3 h4 h5;exact⟨by show q<=s;omega,h3,h4,h2⟩
 |succ f ih=>
  intro s q h1 h2 h3 h4 h5;show q<=(if s<q then DE f (2*s) q else s)/\_<=(if s<q then DE f (2*s) q else s)/\(if s<q then DE f (2*s) q else s)<=_/\Rv (if s<q then DE f (2*s) q else s);by_cases e:s<q
  ·rw[C3 e];obtain⟨k,rfl⟩:=h2;refine ih _ _ h1 ⟨k+1,by rw[AaN];omega⟩ (by omega) (by omega) ?_;rw[AaN,<-XN,Aav (2^k*2^f) 2,<-XN]at h5;exact h5
  ·rw[Cs e];exact⟨by omega,h3,h4,h2⟩
theorem Fc{n:Nat}(h:n<=500):4*n<=De n/\8<=De n/\De n<=4000/\Rv (De n):=
 Q0 9 8 (4*n) (by omega) ⟨3,rfl⟩ (by omega) (by omega) (by decide)
open Classical in
noncomputable def Cc(hf:Vl->Nat)(d:Dc)(x:Nat):Nat->Dc
 |0=>{d with x:=x,X:=fun _=>0,used:=0}
 |k+1=>if Cz d k then A6 hf (Cc hf d x k) (d.L k).key k else Cc hf d x k
theorem Jl{hf:Vl->Nat}{d:Dc}{x k:Nat}(h:Cz d k):Cc hf d x (k+1)=A6 hf (Cc hf d x k) (d.L k).key k:=C3 h
theorem Ku{hf:Vl->Nat}{d:Dc}{x k:Nat}(h:¬Cz d k):Cc hf d x (k+1)=Cc hf d x k:=Cs h
theorem La{hf:Vl->Nat}{d:Dc}{x:Nat}:∀k,Ew d k<x->
  Idx hf d.L x (Cc hf d x k).X (fun i=>i<k/\Cz d i)/\(Cd (Cc hf d x k).X x:Int)=(Cc hf d x k).used/\Cd (Cc hf d x k).X x<=Ew d k/\(Cc hf d x k).x=x/\(Cc hf d x k).n=d.n/\(Cc hf d x k).L=d.L/\(Cc hf d x k).m=d.m/\(Cc hf d x k).I=d.I/\(Cc hf d x k).live=d.live/\(Cc hf d x k).turns=d.turns:=by
 intro k
 induction k with
 |zero=>
  intro _;exact⟨Idx.empty _ _ _ _ (fun i h=>by omega),by show(Cd (fun _=>0) x:Int)=0;rw[IA];rfl,by show Cd (fun _=>0) x<=0;rw[IA];exact A0 _,rfl,rfl,rfl,rfl,rfl,rfl,rfl⟩
 |succ k ih=>
  intro a;by_cases h:Cz d k
  ·rw[Gh h]at a;obtain⟨h1,h2,h3,h4,h5,c,f,g,j,b⟩:=ih (by omega);rw[Jl h,Gh h];obtain⟨g1,g2,g3,g4,g5,g6,g7,g8,g9,g10⟩:=Mo (d:=Cc hf d x k) (L:=d.L) (k:=(d.L k).key) (p:=k) (by rw[h4];exact h1) (fun e=>by omega) rfl (by rw[h4];omega) (by rw[h4];exact h2);rw[h4]at g3;rw[g3]at g1 g2;rw[h4]at g10;refine⟨g1.congr (fun i=>?_) (fun _ _=>rfl),g2,by omega,g3,g4.trans h5,g5.trans c,g6.trans f,g7.trans g,g8.trans j,g9.trans b⟩;constructor
   ·rintro⟨e1,e2⟩;by_cases e:i=k
    ·exact .inr e
    ·exact .inl ⟨by omega,e2⟩
   ·rintro(⟨e1,e2⟩|rfl)
    ·exact⟨by omega,e2⟩
    ·exact⟨by omega,h⟩
  ·rw[LG h]at a ⊢;obtain⟨h1,h2,h3⟩:=ih a;rw[Ku h];refine⟨h1.congr (fun i=>?_) (fun _ _=>rfl),h2,h3⟩;constructor
   ·rintro⟨e1,e2⟩;exact⟨by
     have:i≠k:=fun e=>h (e▸e2)
     omega,e2⟩
   ·rintro⟨e1,e2⟩;exact⟨by omega,e2⟩
noncomputable def CQ(hf:Vl->Nat)(d:Dc)(more:Nat):Dc:=
 if Ew d d.n+more=0 then{d with x:=0,used:=0}else Cc hf d (De (Ew d d.n+more)) d.n
theorem EG{hf:Vl->Nat}{d:Dc}{more:Nat}(h:Ew d d.n+more=0):CQ hf d more={d with x:=0,used:=0}:=C3 h
theorem DL{hf:Vl->Nat}{d:Dc}{more:Nat}(h:Ew d d.n+more≠0):CQ hf d more=Cc hf d (De (Ew d d.n+more)) d.n:=Cs h
structure O2 (d c:Dc):Prop where
 n:d.n=c.n
 L:d.L=c.L
 m:d.m=c.m
 I:d.I=c.I
 live:d.live=c.live
 turns:d.turns=c.turns
theorem Core.of_same{K:Vl->Prop}{d c:Dc}(h:Core K c)(e:O2 d c):Core K d:=by
 obtain⟨n,L,m,I,x,X,used,live,turns⟩:=d;obtain⟨n',L',g,i,x',X',b,f,a⟩:=c;obtain⟨rfl,rfl,rfl,rfl,rfl,rfl⟩:=e;exact⟨⟨h.log.Ca,h.log.ord,h.log.EM⟩,h.keys,h.Ja,h.ints,h.last,h.small,h.turns,h.le⟩
theorem EH{K:Vl->Prop}{hf:Vl->Nat}{d:Dc}{more:Nat}(h:Core K d)(b:Ew d d.n+more<=500):O2 (CQ hf d more) d:=by
 by_cases e:Ew d d.n+more=0
 ·rw[EG e];exact⟨rfl,rfl,rfl,rfl,rfl,rfl⟩
 ·rw[DL e];obtain⟨s1,s2,j,k⟩:=Fc b;obtain⟨h1,h2,h3,h4,h5,c,f,g,i,a⟩:=La (hf:=hf) (d:=d) (x:=De (Ew d d.n+more)) d.n (by omega);exact⟨h5,c,f,g,i,a⟩
theorem Lb{K:Vl->Prop}{hf:Vl->Nat}{d:Dc}{more:Nat}(h:Core K d)(b:Ew d d.n+more<=500):Ix hf (CQ hf d more)/\(0<more->2*(Cd (CQ hf d more).X (CQ hf d more).x+1)<=(CQ hf d more).x):=by
 by_cases e:Ew d d.n+more=0
 ·rw[EG e];refine⟨⟨.inl rfl,⟨fun s hs=>absurd hs (by simp),fun i hi=>?_,fun s s' hs=>absurd hs (by simp)⟩,rfl,A0 _⟩,fun h=>by omega⟩;exfalso;have hi:i<d.n/\(d.L i).turn≠0/\¬AH d.m (d.L i).key:=hi;have h1:Cz d i:=⟨h.pos hi.1 hi.2.1,hi.2.2⟩;have h2:=UN d (k:=i+1) (n:=d.n) (by omega);rw[Gh h1]at h2;omega
 ·rw[DL e];obtain⟨s1,s2,c,f⟩:=Fc b;obtain⟨h1,h2,h3,h4,h5,a,g,l,o,j⟩:=La (hf:=hf) (d:=d) (x:=De (Ew d d.n+more)) d.n (by omega);refine⟨⟨by rw[h4];exact .inr ⟨s2,c,f⟩,?_,by rw[h4];exact h2,by rw[h4];omega⟩,fun p=>by rw[h4];omega⟩;rw[h4,a];refine h1.congr (fun i=>?_) (fun _ _=>rfl);unfold Rq Cz;rw[h5,a,g];constructor
  ·rintro⟨e1,e2,e3⟩;exact⟨e1,h.pos e1 e2,e3⟩
  ·rintro⟨e1,e2,e3⟩;exact⟨e1,by omega,e3⟩
theorem JR{K:Vl->Prop}{hf:Vl->Nat}{d:Dc}{more:Nat}(h:Core K d)(a:Ew d d.n+more<=500):Co K hf (CQ hf d more):=
 (h.of_same (EH h a)).Qz (Lb h a).1
def Dq(d:Dc)(i:Nat):Nat:=(AU d i).length
theorem JQ{d:Dc}{i j:Nat}(a:i<j)(b:(d.L i).turn≠0):Dq d i<Dq d j:=by
 have h:=(ER (d:=d) (k:=i+1) (n:=j) (by omega)).length_le;rw[Br b,To,Aax]at h;exact h
theorem Fk{d:Dc}:∀(k:Nat) {j:Nat},j<(AU d k).length->∃i,i<k/\(d.L i).turn≠0/\Dq d i=j:=by
 intro k
 induction k with
 |zero=>intro j h;exact absurd h (by simp[AU])
 |succ k ih=>
  intro j h;by_cases a:(d.L k).turn=0
  ·rw[Ct a]at h;obtain⟨i,h1,h2⟩:=ih h;exact⟨i,by omega,h2⟩
  ·by_cases e:j<(AU d k).length
   ·obtain⟨i,h1,h2⟩:=ih e;exact⟨i,by omega,h2⟩
   ·rw[Br a,To,Aax]at h;exact⟨k,by omega,a,by unfold Dq;omega⟩
def BU(d:Dc):Dc:={d with n:=II d,L:=DX d,I:=fun j=>if 0<d.I j then(Dq d (d.I j-1).toNat:Int)+1 else d.I j}
noncomputable def Am(hf:Vl->Nat)(d:Dc):Dc:=if(d.n:Int)<8\/(d.n:Int)<=2*d.live then d else CQ hf (BU d) 0
theorem Xm{d:Dc}:∀k,(∀i,i<k->(d.L i).turn≠0)->(AU d k).length=k:=by
 intro k
 induction k with
 |zero=>intro _;rfl
 |succ k ih=>
  intro h;rw[Br (h k (by omega)),To,Aax,ih (fun i hi=>h i (by omega))]
theorem GN{K:Vl->Prop}{d:Dc}(h:Core K d):Core K (BU d):=by
 have hs:∀j,j<II d->∃i,i<d.n/\(d.L i).turn≠0/\Dq d i=j/\DX d j=d.L i:=fun j hj=>by
  obtain⟨i,h1,h2,h3⟩:=Fk d.n hj;exact⟨i,h1,h2,h3,by rw[<-h3];exact F6 h1 h2⟩
 have r:∀i,i<d.n->(d.L i).turn≠0->Dq d i<II d/\DX d (Dq d i)=d.L i:=fun i hi f=>⟨JQ hi f,F6 hi f⟩
 have g:∀i j,i<d.n->j<d.n->(d.L i).turn≠0->(d.L j).turn≠0->Dq d i<Dq d j->i<j:=by
  intro i j hi hj ti k s;by_cases e:i<j
  ·exact e
  ·by_cases e':i=j
   ·subst e';omega
   ·have:=JQ (d:=d) (i:=j) (j:=i) (by omega) k;omega
 refine⟨⟨fun j hj=>?_,fun i j t hj ti k=>?_,?_⟩,fun j hj f=>?_,fun i j hi hj ti k hl=>?_,fun j hj=>?_,?_,fun j hj f c=>?_,h.turns,h.le⟩
 ·obtain⟨i,h1,h2,h3,h4⟩:=hs j hj;have:=h.log.Ca i h1;unfold Entry at this ⊢;show(DX d j).turn=0/\_\/_;show((DX d j).turn=0/\Gl (DX d j).key=true/\Gl (DX d j).val=true)\/(0<(DX d j).turn/\(DX d j).turn<=d.turns/\Db (DX d j).key=true/\(DX d j).val.ok=true/\(DX d j).val.kind≠0);rw[h4];exact this
 ·have l:j<II d:=hj;obtain⟨a,a1,a2,a3,a4⟩:=hs i (by omega);obtain⟨b,b1,b2,b3,b4⟩:=hs j l;show(DX d i).turn<(DX d j).turn;rw[a4,b4];exact h.log.ord a b (g a b a1 b1 a2 b2 (by omega)) b1 a2 b2
 ·show((AU (BU d) (II d)).length:Int)=d.live;rw[Xm (d:=BU d) (II d) (fun j hj=>?_)]
  ·exact h.log.EM
  ·obtain⟨i,h1,h2,h3,h4⟩:=hs j hj;show(DX d j).turn≠0;rw[h4];exact h2
 ·obtain⟨i,h1,h2,h3,h4⟩:=hs j hj;show K (DX d j).key;rw[h4];exact h.keys i h1 h2
 ·obtain⟨a,a1,a2,a3,a4⟩:=hs i hi;obtain⟨b,b1,b2,b3,b4⟩:=hs j hj;have hl:Ap (DX d i).key (DX d j).key=true:=hl;rw[a4,b4]at hl;have:=h.Ja a b a1 b1 a2 b2 hl;subst this;omega
 ·rcases h.ints j hj with e|⟨e1,e2,e3,u,v⟩
  ·left;show(if 0<d.I j then(Dq d (d.I j-1).toNat:Int)+1 else d.I j)=0;rw[Cs (by omega)];exact e
  ·right;have q:(BU d).I j=(Dq d (d.I j-1).toNat:Int)+1:=C3 e1;have o:=r (d.I j-1).toNat (by omega) e3;have p:(BU d).at ((BU d).I j)=d.at (d.I j):=by
    show DX d ((BU d).I j-1).toNat=d.L (d.I j-1).toNat;rw[q,show((Dq d (d.I j-1).toNat:Int)+1-1).toNat=Dq d (d.I j-1).toNat by omega];exact o.2
   rw[p,q];exact⟨by omega,by show _<=((II d:Nat):Int);omega,e3,u,v⟩
 ·rcases h.last with e|e
  ·exact .inl e
  ·right;show 0<(if 0<d.I (d.m-1)then(Dq d (d.I (d.m-1)-1).toNat:Int)+1 else d.I (d.m-1));rw[C3 e];omega
 ·obtain⟨i,h1,h2,h3,h4⟩:=hs j hj;have c:AH d.m (DX d j).key:=c;show(if 0<d.I ((DX d j).key.num-1).toNat then(Dq d (d.I ((DX d j).key.num-1).toNat-1).toNat:Int)+1 else _)=_;rw[h4]at c ⊢;have:=h.small i h1 h2 c;rw[this,C3 (by omega),show((i:Int)+1-1).toNat=i by omega,h3]
theorem Core.Kl{K:Vl->Prop}{d:Dc}(h:Core K d):(II d:Int)=d.live:=h.log.EM
theorem Kr{K:Vl->Prop}{d:Dc}(h:Core K d):Ew (BU d) (BU d).n+0<=500:=by
 have h1:=TD (BU d) (BU d).n;have h2:=Iq (BU d) (BU d).n;have h3:(BU d).n=II d:=rfl;have h4:=h.Kl;have h5:=h.le;omega
theorem Eh{K:Vl->Prop}{hf:Vl->Nat}{d:Dc}(h:Co K hf d):Co K hf (Am hf d):=by
 unfold Am
 split
 ·exact h
 ·exact JR (GN h.core) (Kr h.core)
theorem BV{K:Vl->Prop}{hf:Vl->Nat}{d:Dc}(h:Core K d):(Am hf d).live=d.live/\(Am hf d).turns=d.turns/\(Am hf d).m=d.m/\(((Am hf d).n:Int)<8\/((Am hf d).n:Int)<=2*d.live):=by
 unfold Am
 split
 ·next e=>exact⟨rfl,rfl,rfl,e⟩
 ·have:=EH (hf:=hf) (GN h) (Kr h);refine⟨this.live,this.turns,this.m,.inr ?_⟩;rw[this.n];have h4:=h.Kl;show((II d:Nat):Int)<=_;omega
theorem Ei{K:Vl->Prop}{hf:Vl->Nat}{d:Dc}(h:Core K d)(Q:Pr->Prop):(∃i,i<(Am hf d).n/\((Am hf d).L i).turn≠0/\Q ((Am hf d).L i))↔∃i,i<d.n/\(d.L i).turn≠0/\Q (d.L i):=by
 unfold Am
 split
 ·exact Iff.rfl
 ·have e:=EH (hf:=hf) (GN h) (Kr h);rw[e.n,e.L];constructor
  ·rintro⟨j,hj,a,hq⟩;obtain⟨i,h1,h2,h3⟩:=Fk d.n (show j<(AU d d.n).length from hj);have h4:DX d j=d.L i:=by rw[<-h3];exact F6 h1 h2
   have hq:Q (DX d j):=hq;rw[h4]at hq;exact⟨i,h1,h2,hq⟩
  ·rintro⟨i,hi,a,hq⟩;refine⟨Dq d i,JQ hi a,?_,?_⟩
   ·show(DX d (Dq d i)).turn≠0;rw[show DX d (Dq d i)=d.L i from F6 hi a];exact a
   ·show Q (DX d (Dq d i));rw[show DX d (Dq d i)=d.L i from F6 hi a];exact hq
theorem EF{K:Vl->Prop}{hf:Vl->Nat}{d:Dc}(h:Core K d)(hn:Next d):Next (Am hf d):=by
 intro i hi a hc;rw[(BV (hf:=hf) h).2.2.1]at hc;obtain⟨j,h1,h2,h3⟩:=(Ei (hf:=hf) h (fun p=>p.key.kind=2/\p.key.num=(d.m:Int)+1)).1 ⟨i,hi,a,hc⟩;exact hn j h1 h2 h3
theorem Jf{d c:Dc}:∀(k:Nat),(∀i,i<k->((d.L i).turn=0↔(c.L i).turn=0))->AU d k=AU c k:=by
 intro k
 induction k with
 |zero=>intro _;rfl
 |succ k ih=>
  intro h;have:=h k (by omega);by_cases e:(d.L k).turn=0
  ·rw[Ct e,Ct (this.1 e),ih (fun i hi=>h i (by omega))]
  ·rw[Br e,Br (fun e'=>e (this.2 e')),ih (fun i hi=>h i (by omega))]
def Dg(c:Dc)(k v:Vl):Dc:={c with n:=c.n+1,L:=Bm c.L c.n ⟨k,v,c.turns+1⟩,live:=c.live+1,turns:=c.turns+1}
section
variable {K:Vl->Prop} {hf:Vl->Nat} {c:Dc} {k v:Vl}
theorem AW{i:Nat}(h:i<c.n):(Dg c k v).L i=c.L i:=Af _ _ (by omega)
theorem BZ:(Dg c k v).L c.n=⟨k,v,c.turns+1⟩:=Al _ _ _
theorem Mc(h:KG c)(m:0<=c.turns)(hk:Db k=true)(l:v.ok=true)(b:v.kind≠0):KG (Dg c k v):=by
 refine⟨fun i hi=>?_,fun i j a hj ti f=>?_,?_⟩
 ·have hi:i<c.n+1:=hi;by_cases e:i=c.n
  ·subst e;right;rw[BZ];exact⟨by show 0<c.turns+1;omega,AaC _,hk,l,b⟩
  ·have:=h.Ca i (by omega);unfold Entry at this ⊢;rw[AW (by omega)];refine this.imp id (fun g=>⟨g.1,?_,g.2.2⟩);show _<=c.turns+1;omega
 ·have hj:j<c.n+1:=hj;by_cases e:j=c.n
  ·subst e;rw[AW a]at ti ⊢;rw[BZ];rcases h.Ca i a with g|g
   ·exact absurd g.1 ti
   ·show _<c.turns+1;omega
  ·rw[AW (by omega)]at ti ⊢;rw[AW (by omega)]at f ⊢;exact h.ord i j a (by omega) ti f
 ·show((AU (Dg c k v) (c.n+1)).length:Int)=c.live+1;rw[Br (by rw[BZ];show c.turns+1≠0;omega),To,Aax,Jf (d:=Dg c k v) (c:=c) c.n (fun i hi=>by rw[AW hi])];have:((AU c c.n).length:Int)=c.live:=h.EM;omega
theorem J8(h:Core K c)(hk:K k):∀i,i<(Dg c k v).n->((Dg c k v).L i).turn≠0->K ((Dg c k v).L i).key:=by
 intro i hi a;have hi:i<c.n+1:=hi;by_cases e:i=c.n
 ·subst e;rw[BZ];exact hk
 ·rw[AW (by omega)]at a ⊢;exact h.keys i (by omega) a
theorem J7(d:KeyLaw K hf)(h:Core K c)(hk:K k)(a:∀i,i<c.n->(c.L i).turn≠0->Ap (c.L i).key k=false):∀i j,i<(Dg c k v).n->j<(Dg c k v).n->((Dg c k v).L i).turn≠0->((Dg c k v).L j).turn≠0->Ap ((Dg c k v).L i).key ((Dg c k v).L j).key=true->i=j:=by
 intro i j hi hj ti b hl;have hi:i<c.n+1:=hi;have hj:j<c.n+1:=hj;by_cases e:i=c.n
 ·by_cases e':j=c.n
  ·omega
  ·subst e;rw[BZ,AW (by omega)]at hl;rw[AW (by omega)]at b;have:=d.symm _ _ hk (h.keys j (by omega) b) hl;rw[a j (by omega) b]at this;cases this
 ·by_cases e':j=c.n
  ·subst e';rw[BZ,AW (by omega)]at hl;rw[AW (by omega)]at ti;rw[a i (by omega) ti]at hl;cases hl
  ·rw[AW (by omega)]at ti;rw[AW (by omega)]at b;rw[AW (i:=i) (by omega),AW (i:=j) (by omega)]at hl;exact h.Ja i j (by omega) (by omega) ti b hl
def Cw(c:Dc)(k v:Vl):Dc:={Dg c k v with I:=Bm c.I (k.num-1).toNat ((c.n:Int)+1)}
theorem Ko{j:Nat}(h:Hr c j){d:Dc}(hn:d.n=c.n+1)(a:∀i,i<c.n->d.L i=c.L i)(b:d.I j=c.I j):Hr d j:=by
 unfold Hr at*;rw[b,hn];rcases h with e|⟨e1,e2,e3,f,g⟩
 ·exact .inl e
 ·right;have:d.at (c.I j)=c.at (c.I j):=a _ (by omega);rw[this];exact⟨e1,by omega,e3,f,g⟩
theorem O8(q:KeyLaw K hf)(h:Co K hf c)(hk:K k)(g:Db k=true)(s:v.ok=true)(l:v.kind≠0)(f:∀i,i<c.n->(c.L i).turn≠0->Ap (c.L i).key k=false)(hs:AH c.m k)(hl:c.live<500)(t:c.turns<1000000000000):Co K hf (Cw c k v):=by
 have b:=Mc h.log h.turns.1 g s l;obtain⟨k1,k2,k3⟩:=hs;refine(Core.Qz ⟨⟨b.Ca,b.ord,b.EM⟩,J8 h.core hk,J7 q h.core hk f,fun j hj=>?_,?_,fun i hi d a=>?_,⟨by show 0<=c.turns+1;have:=h.turns.1;omega,by show c.turns+1<=_;omega⟩,by show c.live+1<=500;omega⟩ ⟨h.sz,?_,h.used,h.half⟩)
 ·by_cases e:j=(k.num-1).toNat
  ·right;have r:(Cw c k v).I j=(c.n:Int)+1:=by subst e;exact Al _ _ _
   have o:(Cw c k v).at ((Cw c k v).I j)=⟨k,v,c.turns+1⟩:=by
    show(Cw c k v).L ((Cw c k v).I j-1).toNat=_;rw[r,show((c.n:Int)+1-1).toNat=c.n by omega];exact BZ
   rw[o,r];refine⟨by omega,by show _<=((c.n+1:Nat):Int);omega,?_,k1,by show k.num=_;omega⟩;show c.turns+1≠0;have:=h.turns.1;omega
  ·exact Ko (h.ints j hj) rfl (fun i hi=>AW hi) (Af _ _ e)
 ·rcases h.last with e|e
  ·exact .inl e
  ·right;show 0<Bm c.I (k.num-1).toNat ((c.n:Int)+1) (c.m-1);by_cases e':c.m-1=(k.num-1).toNat
   ·rw[e',Al];omega
   ·rw[Af _ _ e'];exact e
 ·have hi:i<c.n+1:=hi;show Bm c.I (k.num-1).toNat ((c.n:Int)+1) _=_;by_cases e:i=c.n
  ·subst e;have:(Cw c k v).L c.n=⟨k,v,c.turns+1⟩:=BZ;rw[this,Al]
  ·have p:(Cw c k v).L i=c.L i:=AW (by omega);rw[p]at d a ⊢;have a:AH c.m (c.L i).key:=a;have h1:=h.small i (by omega) d a;rw[Af _ _ (fun e'=>?_)]
   ·exact h1
   ·have h2:(c.L i).key.num=k.num:=by have:=a.2.1;omega
    have:=q.int _ _ (h.keys i (by omega) d) hk a.1 k1 h2;rw[f i (by omega) d]at this;cases this
 ·refine h.idx.congr (fun i=>?_) (fun i hi=>by rw[show(Cw c k v).L i=c.L i from AW hi.1]);unfold Rq;show(i<c.n+1/\((Dg c k v).L i).turn≠0/\¬AH c.m ((Dg c k v).L i).key)↔_;by_cases e:i=c.n
  ·subst e;rw[BZ];constructor
   ·rintro⟨_,_,h3⟩;exact absurd ⟨k1,k2,k3⟩ h3
   ·rintro⟨h3,_⟩;omega
  ·constructor
   ·rintro⟨h1,h2⟩;rw[AW (by omega)]at h2;exact⟨by omega,h2⟩
   ·rintro⟨h1,h2⟩;rw[AW h1];exact⟨by omega,h2⟩
def CZ(c:Dc)(k v:Vl):Dc:={Dg c k v with m:=c.m+1,I:=Bm c.I c.m ((c.n:Int)+1)}
theorem GX{m:Nat}{k:Vl}:AH (m+1) k↔AH m k\/(k.kind=2/\k.num=(m:Int)+1):=by
 unfold AH;constructor
 ·rintro⟨h1,h2,h3⟩;by_cases e:k.num=(m:Int)+1
  ·exact .inr ⟨h1,e⟩
  ·exact .inl ⟨h1,h2,by omega⟩
 ·rintro(⟨h1,h2,h3⟩|⟨h1,h2⟩)
  ·exact⟨h1,h2,by omega⟩
  ·exact⟨h1,by omega,by omega⟩
theorem KM(r:KeyLaw K hf)(h:Co K hf c)(hk:K k)(l:Db k=true)(t:v.ok=true)(o:v.kind≠0)(d:∀i,i<c.n->(c.L i).turn≠0->Ap (c.L i).key k=false)(k1:k.kind=2)(k2:k.num=(c.m:Int)+1)(hl:c.live<500)(u:c.turns<1000000000000):Co K hf (CZ c k v):=by
 have b:=Mc h.log h.turns.1 l t o;have f:∀i,i<c.n->(c.L i).turn≠0->¬((c.L i).key.kind=2/\(c.L i).key.num=(c.m:Int)+1):=by
  intro i hi a hc;have:=r.int _ _ (h.keys i hi a) hk hc.1 k1 (by omega);rw[d i hi a]at this;cases this
 refine(Core.Qz ⟨⟨b.Ca,b.ord,b.EM⟩,J8 h.core hk,J7 r h.core hk d,fun j hj=>?_,?_,fun i hi a hsm=>?_,⟨by show 0<=c.turns+1;have:=h.turns.1;omega,by show c.turns+1<=_;omega⟩,by show c.live+1<=500;omega⟩ ⟨h.sz,?_,h.used,h.half⟩)
 ·have hj:j<c.m+1:=hj;by_cases e:j=c.m
  ·right;have s:(CZ c k v).I j=(c.n:Int)+1:=by subst e;exact Al _ _ _
   have p:(CZ c k v).at ((CZ c k v).I j)=⟨k,v,c.turns+1⟩:=by
    show(CZ c k v).L ((CZ c k v).I j-1).toNat=_;rw[s,show((c.n:Int)+1-1).toNat=c.n by omega];exact BZ
   rw[p,s];refine⟨by omega,by show _<=((c.n+1:Nat):Int);omega,?_,k1,by show k.num=_;omega⟩;show c.turns+1≠0;have:=h.turns.1;omega
  ·exact Ko (h.ints j (by omega)) rfl (fun i hi=>AW hi) (Af _ _ e)
 ·right;show 0<Bm c.I c.m ((c.n:Int)+1) (c.m+1-1);rw[show c.m+1-1=c.m by omega,Al];omega
 ·have hi:i<c.n+1:=hi;show Bm c.I c.m ((c.n:Int)+1) _=_;by_cases e:i=c.n
  ·subst e;have:(CZ c k v).L c.n=⟨k,v,c.turns+1⟩:=BZ;rw[this,show((Pr.mk k v (c.turns+1)).key.num-1).toNat=c.m by show(k.num-1).toNat=_;omega,Al]
  ·have q:(CZ c k v).L i=c.L i:=AW (by omega);rw[q]at a hsm ⊢;have hsm:AH (c.m+1) (c.L i).key:=hsm;rcases GX.1 hsm with hsm|hsm
   ·rw[Af _ _ (fun e'=>by have:=hsm.2.1;have:=hsm.2.2;omega)];exact h.small i (by omega) a hsm
   ·exact absurd hsm (f i (by omega) a)
 ·refine h.idx.congr (fun i=>?_) (fun i hi=>by rw[show(CZ c k v).L i=c.L i from AW hi.1]);unfold Rq;show(i<c.n+1/\((Dg c k v).L i).turn≠0/\¬AH (c.m+1) ((Dg c k v).L i).key)↔_;rw[GX];by_cases e:i=c.n
  ·subst e;rw[BZ];constructor
   ·rintro⟨_,_,h3⟩;exact absurd (.inr ⟨k1,k2⟩) h3
   ·rintro⟨h3,_⟩;omega
  ·constructor
   ·rintro⟨h1,h2,h3⟩;rw[AW (by omega)]at h2 h3;exact⟨by omega,h2,fun g=>h3 (.inl g)⟩
   ·rintro⟨h1,h2,h3⟩;rw[AW h1];refine⟨by omega,h2,fun g=>?_⟩;rcases g with g|g
    ·exact h3 g
    ·exact f i h1 h2 g
end
def FA(d:Dc)(s:Nat):Dc:={d with m:=d.m+1,I:=Bm d.I d.m (d.X s),X:=Bm d.X s (-1)}
def Dl(hf:Vl->Nat):Nat->Dc->Dc
 |0,d=>d
 |f+1,d=>match Bi d (DA ((d.m:Int)+1)) (hf (DA ((d.m:Int)+1)))with
  |none=>d
  |some s=>Dl hf f (FA d s)
theorem GJ{hf:Vl->Nat}{d:Dc}{f:Nat}(h:Bi d (DA ((d.m:Int)+1)) (hf (DA ((d.m:Int)+1)))=none):Dl hf f d=d:=by
 cases f with
 |zero=>rfl
 |succ f=>show(match Bi d (DA ((d.m:Int)+1)) (hf (DA ((d.m:Int)+1)))with|none=>d|some s=>Dl hf f (FA d s))=d;rw[h]
theorem GK{hf:Vl->Nat}{d:Dc}{f s:Nat}(h:Bi d (DA ((d.m:Int)+1)) (hf (DA ((d.m:Int)+1)))=some s):Dl hf (f+1) d=Dl hf f (FA d s):=by
 show(match Bi d (DA ((d.m:Int)+1)) (hf (DA ((d.m:Int)+1)))with|none=>d|some s=>Dl hf f (FA d s))=_;rw[h]
def Gp(X:Nat->Int):Nat->Nat
 |0=>0
 |k+1=>if 0<X k then Gp X k+1 else Gp X k
theorem PH(X:Nat->Int)(k:Nat):Gp X k<=k:=by
 induction k with
 |zero=>exact A0 _
 |succ k ih=>
  show(if 0<X k then Gp X k+1 else Gp X k)<=k+1;by_cases e:0<X k
  ·rw[C3 e];omega
  ·rw[Cs e];omega
theorem MW{X:Nat->Int}{s:Nat}(a:0<X s):∀k,Gp (Bm X s (-1)) k+(if s<k then 1 else 0)=Gp X k:=by
 intro k
 induction k with
 |zero=>rfl
 |succ k ih=>
  show(if 0<Bm X s (-1) k then Gp (Bm X s (-1)) k+1 else Gp (Bm X s (-1)) k)+_=(if 0<X k then Gp X k+1 else Gp X k);by_cases e:k=s
  ·subst e;rw[Al,Cs (by omega),C3 a,C3 (by omega)];rw[Cs (by omega)]at ih;omega
  ·rw[Af _ _ e];by_cases e2:s<k
   focus
    rw[C3 (show s<k+1 by omega)];rw[C3 e2]at ih
   rotate_left
   focus
    rw[Cs (show¬s<k+1 by omega)];rw[Cs e2]at ih
   rotate_left;all_goals
    by_cases e1:0<X k
    ·rw[C3 e1,C3 e1];omega
    ·rw[Cs e1,Cs e1];omega
section
variable {K:Vl->Prop} {hf:Vl->Nat} {d:Dc}
theorem Co.slot(h:Co K hf d){v:Vl}{a s:Nat}(e:Bi d v a=some s):s<d.x/\0<d.X s/\Rq d (d.X s-1).toNat/\Ap (d.L (d.X s-1).toNat).key v=true:=by
 obtain⟨h1,h2,h3,h4⟩:=Q4 e;rcases h.idx.range s h1 with g|g|g
 ·omega
 ·omega
 ·exact⟨h1,h2,g.2,h3⟩
theorem Ox(p:KeyLaw K hf)(h:Co K hf d){s:Nat}(e:Bi d (DA ((d.m:Int)+1)) (hf (DA ((d.m:Int)+1)))=some s):Co K hf (FA d s):=by
 obtain⟨h1,h2,h3,h4⟩:=h.slot e;have b:(d.L (d.X s-1).toNat).key.kind=2:=EC h4;have k:(d.L (d.X s-1).toNat).key.num=(d.m:Int)+1:=Fy h4;have a:∀i,i<d.n->(d.L i).turn≠0->(d.L i).key.kind=2->(d.L i).key.num=(d.m:Int)+1->i=(d.X s-1).toNat:=fun i hi f g1 g2=>
  h.Ja _ _ hi h3.1 f h3.2.1 (p.int _ _ (h.keys i hi f) (h.keys _ h3.1 h3.2.1) g1 b (by omega))
 refine Core.Qz ⟨⟨h.log.Ca,h.log.ord,h.log.EM⟩,h.keys,h.Ja,fun j hj=>?_,?_,fun i hi f c=>?_,h.turns,h.le⟩ ⟨h.sz,?_,?_,?_⟩
 ·have hj:j<d.m+1:=hj;unfold Hr;by_cases e:j=d.m
  ·right;have l:(FA d s).I j=d.X s:=by subst e;exact Al _ _ _
   rw[l];have o:(FA d s).at (d.X s)=d.L (d.X s-1).toNat:=rfl;rw[o];exact⟨h2,by show _<=(d.n:Int);have:=h3.1;omega,h3.2.1,b,by omega⟩
  ·have l:(FA d s).I j=d.I j:=Af _ _ e;rw[l];exact h.ints j (by omega)
 ·right;show 0<Bm d.I d.m (d.X s) (d.m+1-1);rw[show d.m+1-1=d.m by omega,Al];exact h2
 ·have c:AH (d.m+1) (d.L i).key:=c;show Bm d.I d.m (d.X s) ((d.L i).key.num-1).toNat=_;rcases GX.1 c with g|⟨g1,g2⟩
  ·have:=g.2.1;have:=g.2.2;rw[Af _ _ (by omega)];exact h.small i hi f g
  ·have:=a i hi f g1 g2;rw[g2,show((d.m:Int)+1-1).toNat=d.m by omega,Al];omega
 ·refine(h.idx.leave h1 h2).congr (fun i=>?_) (fun _ _=>rfl);unfold Rq;show(i<d.n/\(d.L i).turn≠0/\¬AH (d.m+1) (d.L i).key)↔_;rw[GX];constructor
  ·rintro⟨g1,g2,g3⟩;refine⟨⟨g1,g2,fun g=>g3 (.inl g)⟩,fun e=>g3 (.inr ?_)⟩;have:i=(d.X s-1).toNat:=by omega
   rw[this];exact⟨b,k⟩
  ·rintro⟨⟨g1,g2,g3⟩,g4⟩;refine⟨g1,g2,fun g=>?_⟩;rcases g with g|⟨g5,g6⟩
   ·exact g3 g
   ·have:=a i g1 g2 g5 g6;omega
 ·show(Cd (Bm d.X s (-1)) d.x:Int)=d.used;rw[<-h.used,FJ (X:=Bm d.X s (-1)) (X':=d.X) (fun j hj=>?_)];by_cases e:j=s
  ·subst e;rw[Al];constructor<;>intro g<;>omega
  ·rw[Af _ _ e]
 ·show 2*Cd (Bm d.X s (-1)) d.x<=d.x;rw[FJ (X:=Bm d.X s (-1)) (X':=d.X) (fun j hj=>?_)]
  ·exact h.half
  ·by_cases e:j=s
   ·subst e;rw[Al];constructor<;>intro g<;>omega
   ·rw[Af _ _ e]
theorem Co.Zr(a:KeyLaw K hf)(h:Co K hf d)(e:Bi d (DA ((d.m:Int)+1)) (hf (DA ((d.m:Int)+1)))=none):Next d:=by
 intro i hi b ⟨h1,h2⟩;obtain⟨s,_,_,g⟩:=h.found a (a.own ((d.m:Int)+1)) ⟨hi,b,fun g=>by have:=g.2.2;omega⟩ (a.int _ _ (h.keys i hi b) (a.own _) h1 rfl h2);rw[e]at g;cases g
theorem Vf(a:KeyLaw K hf):∀(f:Nat) (d:Dc),Co K hf d->Gp d.X d.x<f->Co K hf (Dl hf f d)/\Next (Dl hf f d)/\(Dl hf f d).n=d.n/\(Dl hf f d).L=d.L/\(Dl hf f d).live=d.live/\(Dl hf f d).turns=d.turns:=by
 intro f
 induction f with
 |zero=>intro d _ h;omega
 |succ f ih=>
  intro d h b;cases e:Bi d (DA ((d.m:Int)+1)) (hf (DA ((d.m:Int)+1)))with
  |none=>rw[GJ e];exact⟨h,h.Zr a e,rfl,rfl,rfl,rfl⟩
  |some s=>
   rw[GK e];obtain⟨h1,h2,h3,h4⟩:=h.slot e;have:=MW (X:=d.X) h2 d.x;rw[C3 h1]at this;exact ih _ (Ox a h e) (by show Gp (Bm d.X s (-1)) d.x<f;omega)
end
noncomputable def Ez(hf:Vl->Nat)(c:Dc):Dc:=if(c.x:Int)<2*(c.used+1)then CQ hf c 1 else c
open Classical in
noncomputable def Bu(hf:Vl->Nat)(c:Dc)(k v:Vl):Dc:=
 if AH c.m k then Cw c k v
 else if k.kind=2/\k.num=(c.m:Int)+1 then Dl hf (c.x+1) (CZ c k v)
 else A6 hf (Dg (Ez hf c) k v) k c.n
noncomputable def KQ(hf:Vl->Nat)(d:Dc)(k v:Vl):Dc:=Bu hf (Am hf d) k v
section
variable {K:Vl->Prop} {hf:Vl->Nat} {c d:Dc} {k v:Vl}
theorem Core.bW(h:Core K c):(Ew c c.n:Int)<=c.live:=by
 have h1:=TD c c.n;have h2:(II c:Int)=c.live:=h.Kl;unfold II at h2;omega
theorem Iy(h:Co K hf c)(hl:c.live<500):Co K hf (Ez hf c)/\2*(Cd (Ez hf c).X (Ez hf c).x+1)<=(Ez hf c).x/\O2 (Ez hf c) c:=by
 unfold Ez
 split
 ·have h1:=h.core.bW;have a:Ew c c.n+1<=500:=by omega
  exact⟨JR h.core a,(Lb h.core a).2 (by omega),EH h.core a⟩
 ·next e=>
  have:=h.used;exact⟨h,by omega,rfl,rfl,rfl,rfl,rfl,rfl⟩
theorem Ih(A:KeyLaw K hf)(h:Co K hf c)(hn:Next c)(hk:K k)(q:Db k=true)(B:v.ok=true)(r:v.kind≠0)(s:∀i,i<c.n->(c.L i).turn≠0->Ap (c.L i).key k=false)(hl:c.live<500)(F:c.turns<1000000000000):
  Co K hf (Bu hf c k v)/\Next (Bu hf c k v)/\(Bu hf c k v).n=c.n+1/\(Bu hf c k v).L=Bm c.L c.n ⟨k,v,c.turns+1⟩/\(Bu hf c k v).live=c.live+1/\(Bu hf c k v).turns=c.turns+1:=by
 unfold Bu;by_cases hs:AH c.m k
 ·rw[C3 hs];refine⟨O8 A h hk q B r s hs hl F,fun i hi b=>?_,rfl,rfl,rfl,rfl⟩;have hi:i<c.n+1:=hi;by_cases e:i=c.n
  ·subst e;rw[show(Cw c k v).L c.n=⟨k,v,c.turns+1⟩from BZ];rintro⟨_,g⟩;have:=hs.2.2;have g:k.num=(c.m:Int)+1:=g;omega
  ·rw[show(Cw c k v).L i=c.L i from AW (by omega)]at b ⊢;exact hn i (by omega) b
 ·rw[Cs hs];by_cases hx:k.kind=2/\k.num=(c.m:Int)+1
  ·rw[C3 hx];have h1:=KM A h hk q B r s hx.1 hx.2 hl F;obtain⟨g1,g2,g3,g4,g5,g6⟩:=Vf A (c.x+1) (CZ c k v) h1 (by have:=PH c.X c.x;show Gp c.X c.x<_;omega);exact⟨g1,g2,g3,g4,g5,g6⟩
  ·rw[Cs hx];obtain⟨r1,r2,f⟩:=Iy (hf:=hf) h hl;generalize H:Ez hf c=a at r1 r2 f;have u:∀i,i<a.n->(a.L i).turn≠0->Ap (a.L i).key k=false:=by rw[f.n,f.L];exact s
   have o:=Mc r1.log r1.turns.1 q B r;have I:¬Rq a c.n:=by rintro⟨g,_⟩;have:=f.n;omega
   have C:(Dg a k v).L c.n=⟨k,v,a.turns+1⟩:=by rw[<-f.n];exact BZ
   have w:Idx hf (Dg a k v).L a.x a.X (Rq a):=r1.idx.congr (fun _=>Iff.rfl) (fun i hi=>by rw[AW hi.1]);obtain⟨g1,g2,g3,g4,g5,g6,g7,g8,g9,g10⟩:=Mo (hf:=hf) (d:=Dg a k v) (L:=(Dg a k v).L) (k:=k) (p:=c.n) (P:=Rq a) w I (by rw[C]) (by show Cd a.X a.x<a.x;omega) r1.used;have D:(Dg a k v).x=a.x:=rfl;have E:(Dg a k v).X=a.X:=rfl;rw[D]at g3 g10;rw[E]at g10;have t:Core K (A6 hf (Dg a k v) k c.n):=Core.of_same (c:=Dg a k v) ⟨⟨o.Ca,o.ord,o.EM⟩,J8 r1.core hk,J7 A r1.core hk u,fun j hj=>Ko (r1.ints j hj) rfl (fun i hi=>AW hi) rfl,r1.last,fun i hi b l=>by
     have hi:i<a.n+1:=hi;by_cases e:i=a.n
     ·subst e;rw[BZ]at l;have l:AH a.m k:=l;rw[f.m]at l;exact absurd l hs
     ·rw[AW (by omega)]at b l ⊢;exact r1.small i (by omega) b l,⟨by show 0<=a.turns+1;have:=r1.turns.1;omega,by show a.turns+1<=_;rw[f.turns];omega⟩,by show a.live+1<=500;rw[f.live];omega⟩ ⟨g4,g5,g6,g7,g8,g9⟩
   refine⟨t.Qz ⟨by rw[g3];exact r1.sz,?_,g2,by rw[g3];omega⟩,fun i hi b=>?_,?_,?_,?_,?_⟩
   ·rw[g5];refine g1.congr (fun i=>?_) (fun _ _=>rfl);unfold Rq;rw[g4,g5,g6];show(i<a.n+1/\((Dg a k v).L i).turn≠0/\¬AH a.m ((Dg a k v).L i).key)↔_;by_cases e:i=a.n
    ·subst e;rw[BZ];constructor
     ·rintro _;exact .inr f.n
     ·rintro _;refine⟨by omega,?_,?_⟩
      ·show a.turns+1≠0;have:=r1.turns.1;omega
      ·show¬AH a.m k;rw[f.m];exact hs
    ·constructor
     ·rintro⟨e1,e2⟩;rw[AW (by omega)]at e2;exact .inl ⟨by omega,e2⟩
     ·rintro(⟨e1,e2⟩|e1)
      ·rw[AW e1];exact⟨by omega,e2⟩
      ·rw[<-f.n]at e1;exact absurd e1 e
   ·rw[g4]at hi;rw[g5]at b ⊢;rw[g6];have hi:i<a.n+1:=hi;show¬(_/\_=(a.m:Int)+1);rw[f.m];by_cases e:i=a.n
    ·subst e;rw[BZ];exact hx
    ·rw[AW (by omega)]at b ⊢;rw[f.L]at b ⊢;exact hn i (by rw[<-f.n];omega) b
   ·rw[g4];show a.n+1=_;rw[f.n]
   ·rw[g5];show Bm a.L a.n ⟨k,v,a.turns+1⟩=_;rw[f.L,f.n,f.turns]
   ·rw[g8];show a.live+1=_;rw[f.live]
   ·rw[g9];show a.turns+1=_;rw[f.turns]
theorem Uk(l:KeyLaw K hf)(h:Inv K hf d)(hk:K k)(b:Db k=true)(m:v.ok=true)(c:v.kind≠0)(f:∀i,i<d.n->(d.L i).turn≠0->Ap (d.L i).key k=false)(hl:d.live<500)(o:d.turns<1000000000000):Inv K hf (KQ hf d k v):=by
 obtain⟨c1,c2,c3,c4⟩:=BV (hf:=hf) h.i0.core;have a:∀i,i<(Am hf d).n->((Am hf d).L i).turn≠0->Ap ((Am hf d).L i).key k=false:=by
  intro i hi g;cases e:Ap ((Am hf d).L i).key k
  ·rfl
  ·obtain⟨j,g1,g2,g3⟩:=(Ei (hf:=hf) h.i0.core (fun p=>Ap p.key k=true)).1 ⟨i,hi,g,e⟩;rw[f j g1 g2]at g3;cases g3
 obtain⟨g1,g2,g3,g4,g5,g6⟩:=Ih l (Eh h.i0) (EF h.i0.core h.next) hk b m c a (by omega) (by omega);refine⟨g1,g2,?_⟩;unfold Wg;show((Bu hf (Am hf d) k v).n:Int)<=8\/((Bu hf (Am hf d) k v).n:Int)<=2*(Bu hf (Am hf d) k v).live;rw[g3,g5];omega
end
def shrink(I:Nat->Int):Nat->Nat
 |0=>0
 |m+1=>if I m=0 then shrink I m else m+1
theorem Lg{I:Nat->Int}{m:Nat}(h:I m=0):shrink I (m+1)=shrink I m:=C3 h
theorem Lf{I:Nat->Int}{m:Nat}(h:I m≠0):shrink I (m+1)=m+1:=Cs h
theorem Hy(I:Nat->Int)(m:Nat):shrink I m<=m/\(shrink I m=0\/I (shrink I m-1)≠0)/\∀j,shrink I m<=j->j<m->I j=0:=by
 induction m with
 |zero=>exact⟨A0 _,.inl rfl,fun j _ h=>by omega⟩
 |succ m ih=>
  by_cases e:I m=0
  ·rw[Lg e];refine⟨by omega,ih.2.1,fun j h1 h2=>?_⟩;by_cases e':j=m
   ·subst e';exact e
   ·exact ih.2.2 j h1 (by omega)
  ·rw[Lf e];exact⟨A0 _,.inr (by rw[show m+1-1=m by omega];exact e),fun j h1 h2=>by omega⟩
def Hj(d:Dc)(p:Nat):Dc:={d with L:=Bm d.L p default,live:=d.live-1}
section
variable {K:Vl->Prop} {hf:Vl->Nat} {d:Dc} {p:Nat}
theorem Cx{i:Nat}(h:i≠p):(Hj d p).L i=d.L i:=Af _ _ h
theorem I8:(Hj d p).L p=default:=Al _ _ _
theorem Un:(default:Pr).turn=0:=rfl
theorem BH{i:Nat}(h:((Hj d p).L i).turn≠0):i≠p/\(Hj d p).L i=d.L i:=by
 by_cases e:i=p
 ·subst e;rw[I8]at h;exact absurd Un h
 ·exact⟨e,Cx e⟩
theorem Qb(b:(d.L p).turn≠0):∀k,(AU (Hj d p) k).length+(if p<k then 1 else 0)=(AU d k).length:=by
 intro k
 induction k with
 |zero=>rfl
 |succ k ih=>
  by_cases e:k=p
  ·subst e;rw[Ct (by rw[I8];rfl),Br b,To,Aax,C3 (by omega)];rw[Cs (by omega)]at ih;omega
  ·have a:(Hj d p).L k=d.L k:=Cx e;by_cases e0:(d.L k).turn=0
   focus
    rw[Ct (by rw[a];exact e0),Ct e0,<-ih]
    congr 1
   rotate_left
   focus
    rw[Br (by rw[a];exact e0),Br e0,To,To,Aax,<-ih]
   rotate_left;all_goals
    by_cases e2:p<k
    ·rw[C3 e2,C3 (show p<k+1 by omega)]
    ·rw[Cs e2,Cs (show¬p<k+1 by omega)]
theorem N7(c:KeyLaw K hf)(h:KG d)(f:p<d.n)(g:(d.L p).turn≠0):KG (Hj d p):=by
 refine⟨fun i hi=>?_,fun i j a hj ti b=>?_,?_⟩
 ·by_cases e:i=p
  ·subst e;left;rw[I8];exact⟨rfl,c.none,c.none⟩
  ·have:=h.Ca i hi;unfold Entry at this ⊢;rw[Cx e];exact this
 ·obtain⟨_,e1⟩:=BH ti;obtain⟨_,e2⟩:=BH b;rw[e1]at ti ⊢;rw[e2]at b ⊢;exact h.ord i j a hj ti b
 ·have h1:=Qb (d:=d) g d.n;rw[C3 f]at h1;have h2:((AU d d.n).length:Int)=d.live:=h.EM;show((AU (Hj d p) d.n).length:Int)=d.live-1;omega
def goSmall(d:Dc)(p:Nat):Dc:={Hj d p with m:=shrink (Bm d.I ((d.L p).key.num-1).toNat 0) d.m,I:=Bm d.I ((d.L p).key.num-1).toNat 0}
theorem Qp(w:KeyLaw K hf)(h:Co K hf d)(hn:Next d)(u:p<d.n)(v:(d.L p).turn≠0)(hs:AH d.m (d.L p).key):Co K hf (goSmall d p)/\Next (goSmall d p):=by
 have f:=N7 w h.log u v;have x:=h.small p u v hs;obtain⟨k1,k2,k3⟩:=hs;obtain⟨q,hq⟩:∃q,q=((d.L p).key.num-1).toNat:=⟨_,rfl⟩;have A:q<d.m:=by omega
 obtain⟨s1,s2,B⟩:=Hy (Bm d.I q 0) d.m;have r:(goSmall d p).m=shrink (Bm d.I q 0) d.m:=by rw[hq];rfl
 have o:(goSmall d p).I=Bm d.I q 0:=by rw[hq];rfl
 rw[<-hq]at x;have still:∀i,i<d.n->(d.L i).turn≠0->i≠p->AH d.m (d.L i).key->((d.L i).key.num-1).toNat≠q/\AH (goSmall d p).m (d.L i).key:=by
  intro i hi a C b;have h1:=h.small i hi a b;have Cy:((d.L i).key.num-1).toNat≠q:=fun e=>by rw[e]at h1;omega
  refine⟨Cy,b.1,b.2.1,?_⟩;have a1:=b.2.1;have a2:=b.2.2;rw[r];by_cases e:(d.L i).key.num<=((shrink (Bm d.I q 0) d.m:Nat):Int)
  ·exact e
  ·have:=B ((d.L i).key.num-1).toNat (by omega) (by omega);rw[Af _ _ Cy]at this;omega
 have c:∀k:Vl,AH (goSmall d p).m k->AH d.m k:=fun k g=>⟨g.1,g.2.1,by have:=g.2.2;rw[r]at this;omega⟩
 refine⟨Core.Qz ⟨⟨f.Ca,f.ord,f.EM⟩,fun i hi a=>?_,fun i j hi hj ti s hl=>?_,fun j hj=>?_,?_,fun i hi a b=>?_,h.turns,by show d.live-1<=500;have:=h.le;omega⟩ ⟨h.sz,?_,h.used,h.half⟩,fun i hi a hc=>?_⟩
 ·obtain⟨_,e1⟩:=BH a;have e1:(goSmall d p).L i=d.L i:=e1;rw[e1]at a ⊢;exact h.keys i hi a
 ·obtain⟨_,e1⟩:=BH ti;obtain⟨_,e2⟩:=BH s;have e1:(goSmall d p).L i=d.L i:=e1;have e2:(goSmall d p).L j=d.L j:=e2;rw[e1]at ti hl;rw[e2]at s hl;exact h.Ja i j hi hj ti s hl
 ·unfold Hr;rw[o];rw[r]at hj;by_cases e:j=q
  ·left;subst e;exact Al _ _ _
  ·rw[Af _ _ e];rcases h.ints j (by omega)with g|⟨g1,g2,g3,g4,g5⟩
   ·exact .inl g
   ·right;have Cy:(d.I j-1).toNat≠p:=fun e'=>by
     have g5:(d.L (d.I j-1).toNat).key.num=j+1:=g5;rw[e']at g5;omega
    have t:(goSmall d p).at (d.I j)=d.at (d.I j):=Cx Cy;rw[t];exact⟨g1,g2,g3,g4,g5⟩
 ·rw[r,o];rcases s2 with e|e
  ·exact .inl e
  ·right;by_cases e0:shrink (Bm d.I q 0) d.m=0
   focus
    have hj:shrink (Bm d.I q 0) d.m-1<d.m:=by omega
   rotate_left
   focus
    have hj:shrink (Bm d.I q 0) d.m-1<d.m:=by omega
   rotate_left;all_goals
    by_cases e1:shrink (Bm d.I q 0) d.m-1=q
    ·rw[e1,Al]at e;exact absurd rfl e
    ·rw[Af _ _ e1]at e ⊢;rcases h.ints _ hj with g|g
     ·exact absurd g e
     ·exact g.1
 ·obtain⟨e0,e1⟩:=BH a;have e1:(goSmall d p).L i=d.L i:=e1;rw[e1]at a b ⊢;have l:=c _ b;rw[o,Af _ _ (still i hi a e0 l).1];exact h.small i hi a l
 ·refine h.idx.congr (fun i=>?_) (fun i hi=>?_)
  ·unfold Rq;constructor
   ·rintro⟨g1,g2,g3⟩;obtain⟨e0,e1⟩:=BH g2;have e1:(goSmall d p).L i=d.L i:=e1;rw[e1]at g2 g3;exact⟨g1,g2,fun g=>g3 (still i g1 g2 e0 g).2⟩
   ·rintro⟨g1,g2,g3⟩;have Cy:i≠p:=fun e=>by subst e;exact g3 ⟨k1,k2,k3⟩
    have e1:(goSmall d p).L i=d.L i:=Cx Cy;rw[e1];exact⟨g1,g2,fun g=>g3 (c _ g)⟩
  ·have Cy:i≠p:=fun e=>by subst e;exact hi.2.2 ⟨k1,k2,k3⟩
   rw[show(goSmall d p).L i=d.L i from Cx Cy]
 ·obtain⟨e0,e1⟩:=BH a;have e1:(goSmall d p).L i=d.L i:=e1;rw[e1]at a hc;rw[r]at hc;by_cases e:shrink (Bm d.I q 0) d.m=d.m
  ·rw[e]at hc;exact hn i hi a hc
  ·have b:AH d.m (d.L i).key:=⟨hc.1,by omega,by omega⟩;have:=(still i hi a e0 b).2.2.2;rw[r]at this;omega
def Dy(d:Dc)(p s:Nat):Dc:={Hj d p with X:=Bm d.X s (-1)}
theorem RU(q:KeyLaw K hf)(h:Co K hf d)(hn:Next d)(r:p<d.n)(t:(d.L p).turn≠0)(hs:¬AH d.m (d.L p).key){s:Nat}(k:s<d.x)(u:d.X s=p+1):Co K hf (Dy d p s)/\Next (Dy d p s):=by
 have b:=N7 q h.log r t;have c:Cd (Bm d.X s (-1)) d.x=Cd d.X d.x:=FJ (fun j hj=>by
  by_cases e:j=s
  ·subst e;rw[Al];constructor<;>intro g<;>omega
  ·rw[Af _ _ e])
 refine⟨Core.Qz ⟨⟨b.Ca,b.ord,b.EM⟩,fun i hi a=>?_,fun i j hi hj ti l hl=>?_,fun j hj=>?_,h.last,fun i hi a f=>?_,h.turns,by show d.live-1<=500;have:=h.le;omega⟩ ⟨h.sz,?_,?_,?_⟩,fun i hi a hc=>?_⟩
 ·obtain⟨_,e1⟩:=BH a;have e1:(Dy d p s).L i=d.L i:=e1;rw[e1]at a ⊢;exact h.keys i hi a
 ·obtain⟨_,e1⟩:=BH ti;obtain⟨_,e2⟩:=BH l;have e1:(Dy d p s).L i=d.L i:=e1;have e2:(Dy d p s).L j=d.L j:=e2;rw[e1]at ti hl;rw[e2]at l hl;exact h.Ja i j hi hj ti l hl
 ·rcases h.ints j hj with g|⟨g1,g2,g3,g4,g5⟩
  ·exact .inl g
  ·right;have hj:j<d.m:=hj;have Cy:(d.I j-1).toNat≠p:=fun e'=>by
    have g4:(d.L (d.I j-1).toNat).key.kind=2:=g4;have g5:(d.L (d.I j-1).toNat).key.num=j+1:=g5;rw[e']at g4 g5;exact hs ⟨g4,by omega,by omega⟩
   have o:(Dy d p s).at (d.I j)=d.at (d.I j):=Cx Cy;show 0<d.I j/\d.I j<=d.n/\((Dy d p s).at (d.I j)).turn≠0/\((Dy d p s).at (d.I j)).key.kind=2/\((Dy d p s).at (d.I j)).key.num=j+1;rw[o];exact⟨g1,g2,g3,g4,g5⟩
 ·obtain⟨e0,e1⟩:=BH a;have e1:(Dy d p s).L i=d.L i:=e1;rw[e1]at a f ⊢;exact h.small i hi a f
 ·refine(h.idx.leave k (by omega)).congr (fun i=>?_) (fun i hi=>?_)
  ·unfold Rq;constructor
   ·rintro⟨g1,g2,g3⟩;obtain⟨e0,e1⟩:=BH g2;have e1:(Dy d p s).L i=d.L i:=e1;rw[e1]at g2 g3;exact⟨⟨g1,g2,g3⟩,by omega⟩
   ·rintro⟨⟨g1,g2,g3⟩,g4⟩;have e1:(Dy d p s).L i=d.L i:=Cx (by omega);rw[e1];exact⟨g1,g2,g3⟩
  ·rw[show(Dy d p s).L i=d.L i from Cx (by have:=hi.2;omega)]
 ·show(Cd (Bm d.X s (-1)) d.x:Int)=d.used;rw[c];exact h.used
 ·show 2*Cd (Bm d.X s (-1)) d.x<=d.x;rw[c];exact h.half
 ·obtain⟨e0,e1⟩:=BH a;have e1:(Dy d p s).L i=d.L i:=e1;rw[e1]at a hc;exact hn i hi a hc
end
open Classical in
noncomputable def J2(hf:Vl->Nat)(d:Dc)(p:Nat):Dc:=
 if AH d.m (d.L p).key then goSmall d p
 else match Bi d (d.L p).key (hf (d.L p).key)with
  |none=>d
  |some s=>Dy d p s
noncomputable def YD(hf:Vl->Nat)(d:Dc)(p:Nat):Dc:=Am hf (J2 hf d p)
theorem Kh{hf:Vl->Nat}{d:Dc}{p:Nat}(h:AH d.m (d.L p).key):J2 hf d p=goSmall d p:=C3 h
theorem Mw{hf:Vl->Nat}{d:Dc}{p s:Nat}(h:¬AH d.m (d.L p).key)(e:Bi d (d.L p).key (hf (d.L p).key)=some s):J2 hf d p=Dy d p s:=by
 unfold J2;rw[Cs h,e]
section
variable {K:Vl->Prop} {hf:Vl->Nat} {d:Dc} {p:Nat}
theorem LC(c:KeyLaw K hf)(h:Co K hf d)(hn:Next d)(a:p<d.n)(b:(d.L p).turn≠0):Co K hf (J2 hf d p)/\Next (J2 hf d p)/\(J2 hf d p).n=d.n/\(J2 hf d p).L=Bm d.L p default/\(J2 hf d p).live=d.live-1/\(J2 hf d p).turns=d.turns:=by
 by_cases hs:AH d.m (d.L p).key
 ·rw[Kh hs];obtain⟨g1,g2⟩:=Qp c h hn a b hs;exact⟨g1,g2,rfl,rfl,rfl,rfl⟩
 ·obtain⟨s,h1,h2,h3⟩:=h.found c (h.keys p a b) ⟨a,b,hs⟩ (c.refl _ (h.keys p a b));rw[Mw hs h3];obtain⟨g1,g2⟩:=RU c h hn a b hs h1 h2;exact⟨g1,g2,rfl,rfl,rfl,rfl⟩
theorem Y5(a:KeyLaw K hf)(h:Inv K hf d)(b:p<d.n)(c:(d.L p).turn≠0):Inv K hf (YD hf d p):=by
 obtain⟨g1,g2,g3,g4,g5,g6⟩:=LC a h.i0 h.next b c;obtain⟨c1,c2,c3,c4⟩:=BV (hf:=hf) g1.core;refine⟨Eh g1,EF g1.core g2,?_⟩;unfold Wg YD;rw[c1];omega
end
def EE(d:Dc)(p:Nat)(v:Vl):Dc:={d with L:=Bm d.L p ⟨(d.L p).key,v,(d.L p).turn⟩}
section
variable {K:Vl->Prop} {hf:Vl->Nat} {d:Dc} {p:Nat} {v:Vl}
theorem EV(i:Nat):((EE d p v).L i).key=(d.L i).key:=by
 show(Bm d.L p _ i).key=_;by_cases e:i=p
 ·subst e;rw[Al]
 ·rw[Af _ _ e]
theorem Dr(i:Nat):((EE d p v).L i).turn=(d.L i).turn:=by
 show(Bm d.L p _ i).turn=_;by_cases e:i=p
 ·subst e;rw[Al]
 ·rw[Af _ _ e]
theorem XZ(h:Inv K hf d)(r:p<d.n)(o:(d.L p).turn≠0)(q:v.ok=true)(l:v.kind≠0):Inv K hf (EE d p v):=by
 have b:=h.i0;refine⟨Core.Qz ⟨⟨fun i hi=>?_,fun i j m hj ti f=>?_,?_⟩,fun i hi a=>?_,fun i j hi hj ti f hl=>?_,fun j hj=>?_,b.last,fun i hi a k=>?_,b.turns,b.le⟩ ⟨b.sz,?_,b.used,b.half⟩,fun i hi a hc=>?_,h.tight⟩
 ·by_cases e:i=p
  ·subst e;rcases b.log.Ca i hi with g|g
   ·exact absurd g.1 o
   ·right;rw[show(EE d i v).L i=⟨(d.L i).key,v,(d.L i).turn⟩from Al _ _ _];exact⟨g.1,g.2.1,g.2.2.1,q,l⟩
  ·have:=b.log.Ca i hi;unfold Entry at this ⊢;rw[show(EE d p v).L i=d.L i from Af _ _ e];exact this
 ·rw[Dr]at ti f ⊢;rw[Dr];exact b.log.ord i j m hj ti f
 ·show((AU (EE d p v) d.n).length:Int)=d.live;rw[Jf (d:=EE d p v) (c:=d) d.n (fun i _=>by rw[Dr])];exact b.log.EM
 ·rw[Dr]at a;rw[EV];exact b.keys i hi a
 ·rw[Dr]at ti f;rw[EV,EV]at hl;exact b.Ja i j hi hj ti f hl
 ·have:=b.ints j hj;unfold Hr Dc.at at this ⊢;rw[Dr,EV];exact this
 ·rw[Dr]at a;rw[EV]at k ⊢;exact b.small i hi a k
 ·refine b.idx.congr (fun i=>?_) (fun i _=>EV i);unfold Rq;rw[Dr,EV];exact Iff.rfl
 ·rw[Dr]at a;rw[EV]at hc;exact h.next i hi a hc
end
open Classical in
noncomputable def CB(hf:Vl->Nat)(d:Dc)(k v:Vl):Dc:=
 if 0<=AE d k (hf k)then(if v.kind=0 then YD hf d (AE d k (hf k)).toNat else EE d (AE d k (hf k)).toNat v)
 else if v.kind≠0/\d.live<500/\d.turns<1000000000000 then KQ hf d k v else d
theorem LL{hf:Vl->Nat}{d:Dc}{k v:Vl}(h:0<=AE d k (hf k))(a:v.kind=0):CB hf d k v=YD hf d (AE d k (hf k)).toNat:=by
 unfold CB;rw[C3 h,C3 a]
theorem JO{hf:Vl->Nat}{d:Dc}{k v:Vl}(h:0<=AE d k (hf k))(a:v.kind≠0):CB hf d k v=EE d (AE d k (hf k)).toNat v:=by
 unfold CB;rw[C3 h,Cs a]
theorem Gq{hf:Vl->Nat}{d:Dc}{k v:Vl}(h:¬0<=AE d k (hf k))(a:v.kind≠0/\d.live<500/\d.turns<1000000000000):CB hf d k v=KQ hf d k v:=by
 unfold CB;rw[Cs h,C3 a]
theorem JN{hf:Vl->Nat}{d:Dc}{k v:Vl}(h:¬0<=AE d k (hf k))(a:¬(v.kind≠0/\d.live<500/\d.turns<1000000000000)):CB hf d k v=d:=by
 unfold CB;rw[Cs h,Cs a]
theorem Gs{K:Vl->Prop}{hf:Vl->Nat}{d:Dc}{k v:Vl}(c:KeyLaw K hf)(h:Inv K hf d)(hk:K k)(e:Db k=true)(f:v.ok=true):Inv K hf (CB hf d k v):=by
 rcases h.i0.place c hk with⟨i,h1,h2,h3,h4⟩|⟨h1,h2⟩
 ·have b:0<=AE d k (hf k):=by omega
  have hi:(AE d k (hf k)).toNat=i:=by omega
  by_cases a:v.kind=0
  ·rw[LL b a,hi];exact Y5 c h h1 h2
  ·rw[JO b a,hi];exact XZ h h1 h2 f a
 ·have b:¬0<=AE d k (hf k):=by omega
  by_cases hc:v.kind≠0/\d.live<500/\d.turns<1000000000000
  ·rw[Gq b hc];exact Uk c h hk e f hc.1 h1 hc.2.1 hc.2.2
  ·rw[JN b hc];exact h
end
section
theorem Fi{x Z:Nat}(h:Nx x Z=true):(∃s m i t n j,Ieee.double.read x=.number s m i/\Ieee.double.read Z=.number t n j/\-1074<=i/\-1074<=j/\m<2^53/\n<2^53/\(i=-1074\/2^52<=m)/\(j=-1074\/2^52<=n)/\Fl.sc s m i=Fl.sc t n j)\/∃s,Ieee.double.read x=.infinity s/\Ieee.double.read Z=.infinity s:=by
 have h':(Ieee.double.order x Z==some .eq)=true:=h;rcases Fl.CG x with⟨s,m,i,b,hi,e,f,hc⟩|⟨s,b⟩|⟨s,t,b⟩
 ·rcases Fl.CG Z with⟨t,n,j,a,hj,d,hn,c⟩|⟨t,a⟩|⟨t,u,a⟩
  ·left;rw[Fl.B6 b a hi hj,Fl.C0]at h';exact⟨s,m,i,t,n,j,b,a,hi,hj,f,hn,hc,c,of_decide_eq_true h'⟩
  ·exfalso;unfold Ieee.Format.order at h';rw[b,a]at h';cases t<;>simp[Ieee.Datum.order]at h'
  ·exfalso;unfold Ieee.Format.order at h';rw[b,a]at h';simp[Ieee.Datum.order]at h'
 ·rcases Fl.CG Z with⟨t,n,j,a,hj,d,hn,c⟩|⟨t,a⟩|⟨t,u,a⟩
  ·exfalso;unfold Ieee.Format.order at h';rw[b,a]at h';cases s<;>simp[Ieee.Datum.order]at h'
  ·right;unfold Ieee.Format.order at h';rw[b,a]at h';cases s<;>cases t<;>simp[Ieee.Datum.order]at h'
   ·exact⟨false,b,a⟩
   ·exact⟨true,b,a⟩
  ·exfalso;unfold Ieee.Format.order at h';rw[b,a]at h';simp[Ieee.Datum.order]at h'
 ·exfalso;unfold Ieee.Format.order at h';rw[b]at h';simp[Ieee.Datum.order]at h'
theorem Fv{x Z:Nat}{s t:Bool}{m n:Nat}{i j:Int}(hx:Ieee.double.read x=.number s m i)(hy:Ieee.double.read Z=.number t n j)(hi:-1074<=i)(hj:-1074<=j)(e:Fl.sc s m i=Fl.sc t n j):Nx x Z=true:=by
 show(Ieee.double.order x Z==some .eq)=true;rw[Fl.B6 hx hy hi hj,Fl.C0];exact decide_eq_true e
theorem Tw{x Z:Nat}{s:Bool}(hx:Ieee.double.read x=.infinity s)(hy:Ieee.double.read Z=.infinity s):Nx x Z=true:=by
 show(Ieee.double.order x Z==some .eq)=true;unfold Ieee.Format.order;rw[hx,hy];cases s<;>simp[Ieee.Datum.order]
theorem Qh{x Z:Nat}(h:Nx x Z=true):Nx Z x=true:=by
 rcases Fi h with⟨s,m,i,t,n,j,h1,h2,h3,h4,_,_,_,_,e⟩|⟨s,h1,h2⟩
 ·exact Fv h2 h1 h4 h3 e.symm
 ·exact Tw h2 h1
theorem Oa{x Z X:Nat}(h:Nx x Z=true)(h':Nx Z X=true):Nx x X=true:=by
 rcases Fi h with⟨s,m,i,t,n,j,h1,h2,h3,h4,_,_,_,_,e⟩|⟨s,h1,h2⟩
 ·rcases Fi h' with⟨s',a,b,t',n',j',g1,g2,g3,g4,_,_,_,_,e'⟩|⟨s',g1,g2⟩
  ·rw[h2]at g1;cases g1;exact Fv h1 g2 h3 g4 (e.trans e')
  ·rw[h2]at g1;cases g1
 ·rcases Fi h' with⟨s',a,b,t',n',j',g1,g2,g3,g4,_,_,_,_,e'⟩|⟨s',g1,g2⟩
  ·rw[h2]at g1;cases g1
  ·rw[h2]at g1;cases g1;exact Tw h1 g2
theorem Qk{s t:Bool}{m n:Nat}{i j:Int}(hi:-1074<=i)(hj:-1074<=j)(b:m<2^53)(hn:n<2^53)(hc:i=-1074\/2^52<=m)(a:j=-1074\/2^52<=n)(e:Fl.sc s m i=Fl.sc t n j)(d:Fl.sc s m i≠0):s=t/\m=n/\i=j:=by
 have pos:∀(m:Nat) (i:Int),0<=Fl.sc false m i/\Fl.sc false m i=((m*2^(i+1074).toNat:Nat):Int):=by
  intro m i;have:Fl.sc false m i=((m*2^(i+1074).toNat:Nat):Int):=by
   unfold Fl.sc;rw[Fl.Cv];simp
  exact⟨by rw[this];omega,this⟩
 have core:∀{m n:Nat} {i j:Int},-1074<=i->-1074<=j->m<2^53->n<2^53->(i=-1074\/2^52<=m)->(j=-1074\/2^52<=n)->Fl.sc false m i=Fl.sc false n j->Fl.sc false m i≠0->m=n/\i=j:=by
  intro m n i j hi hj b hn hc a e d;rw[(pos m i).2,(pos n j).2]at e;have e':m*2^(i+1074).toNat=n*2^(j+1074).toNat:=by omega
  have le:∀{m n:Nat} {i j:Int},-1074<=i->m<2^53->(j=-1074\/2^52<=n)->m*2^(i+1074).toNat=n*2^(j+1074).toNat->¬i<j:=by
   intro m n i j hi b a e f;have hn:2^52<=n:=a.resolve_left (by omega);obtain⟨q,hq⟩:∃q:Nat,(j+1074).toNat=(i+1074).toNat+(q+1):=⟨(j+1074).toNat-(i+1074).toNat-1,by omega⟩;rw[hq,Nat.pow_add,Aav (2^(i+1074).toNat),<-XN]at e;have g:m=n*2^(q+1):=Nat.eq_of_mul_eq_mul_right (Aao _) e;have h1:2<=2^(q+1):=by rw[AaN];have:=Aao q;omega
   have h2:n*2<=n*2^(q+1):=Nat.mul_le_mul_left n h1;omega
  have c:i=j:=by
   have h1:=le hi b a e';have h2:=le hj hn hc e'.symm;omega
  subst c;exact⟨Nat.eq_of_mul_eq_mul_right (Aao _) e',rfl⟩
 cases s<;>cases t
 ·exact⟨rfl,core hi hj b hn hc a e d⟩
 ·exfalso;have e1:Fl.sc true n j=-Fl.sc false n j:=Fl.Es n j;have h1:=(pos m i).1;have h2:=(pos n j).1;omega
 ·exfalso;have e1:Fl.sc true m i=-Fl.sc false m i:=Fl.Es m i;have h1:=(pos m i).1;have h2:=(pos n j).1;omega
 ·have e1:Fl.sc true m i=-Fl.sc false m i:=Fl.Es m i;have e2:Fl.sc true n j=-Fl.sc false n j:=Fl.Es n j;exact⟨rfl,core hi hj b hn hc a (by omega) (by omega)⟩
def Ky(v:Vl):Prop:=Db v=true/\Wf v
theorem WU{x Z:Nat}(h:fz x=true)(h':fz Z=true):Nx x Z=true:=by
 have h1:Nx x 0=true:=h;have h2:Nx Z 0=true:=h';exact Oa h1 (Qh h2)
theorem Gj{a b:Vl}(h:Ap a b=true):Nx a.Ae b.Ae=true/\a.str.toList=b.str.toList/\a.ref=b.ref:=by
 unfold Ap at h;simp only[OR,beq_iff_eq]at h;exact⟨h.2.2.1,h.2.2.2.1,h.2.2.2.2⟩
theorem LI{a b:Vl}(h1:a.kind=b.kind)(h2:a.num=b.num)(h3:Nx a.Ae b.Ae=true)(h4:a.str.toList=b.str.toList)(h5:a.ref=b.ref):Ap a b=true:=by
 unfold Ap;simp[h1,h2,h3,h4,h5]
theorem U0{v:Vl}(h:Ky v)(h3:v.kind=3):Ea v.Ae=false/\fz v.Ae=false:=(aG h.1 h.2).Ae h3 |>.2
theorem toList_inj{a b:ByteArray}(h:a.toList=b.toList):a.data.toList=b.data.toList:=by
 rw[<-AaQ,<-AaQ];exact h
theorem BA:KeyLaw Ky hN:=by
 refine⟨fun a h=>LI rfl rfl (TL h.1) rfl rfl,fun a b _ _ h=>?_,fun a b c _ _ _ h h'=>?_,fun a b g hb h=>?_,fun a b g hb k1 k2 k3=>?_,fun n=>?_,?_⟩
 ·obtain⟨h1,h2,h3⟩:=Gj h;exact LI (EC h).symm (Fy h).symm (Qh h1) h2.symm h3.symm
 ·obtain⟨h1,h2,h3⟩:=Gj h;obtain⟨g1,g2,g3⟩:=Gj h';exact LI ((EC h).trans (EC h')) ((Fy h).trans (Fy h')) (Oa h1 g1) (h2.trans g2) (h3.trans g3)
 ·obtain⟨h1,h2,h3⟩:=Gj h;unfold hN
  congr 1
  unfold Fw;rw[EC h,Fy h,h3];by_cases f:b.kind=4
  ·rw[C3 f,C3 f,toList_inj h2]
  ·rw[Cs f,Cs f];by_cases e3:b.kind=3
   ·rw[C3 e3,C3 e3]
    congr 1
    have hz:=(U0 g ((EC h).trans e3)).2;unfold Hl;rcases Fi h1 with⟨s,m,i,t,n,j,g1,g2,g3,g4,g5,g6,g7,g8,e⟩|⟨s,g1,g2⟩
    ·have o:Fl.sc s m i≠0:=by
      intro e0;have:Nx a.Ae 0=true:=Fv g1 Fl.CP g3 (by omega) (by rw[e0,Fl.Fa]);have d:Nx a.Ae 0=false:=hz;rw[this]at d;cases d
     obtain⟨r1,r2,p⟩:=Qk g3 g4 g5 g6 g7 g8 e o;rw[g1,g2,r1,r2,p]
    ·rw[g1,g2]
   ·rw[Cs e3,Cs e3]
 ·have l:∀v:Vl,Ky v->v.kind=2->fz v.Ae=true/\v.str.toList.isEmpty=true/\v.ref=0:=by
   intro v h k;have h1:=h.1;unfold Db Vl.ok at h1;simp only[OR]at h1;have h2:=h1.1.1;unfold AB at h2;simp[k]at h2;exact⟨h2.1.1,by simpa using h2.1.2,h2.2⟩
  obtain⟨a1,a2,a3⟩:=l a g k1;obtain⟨b1,b2,b3⟩:=l b hb k2;exact LI (k1.trans k2.symm) k3 (WU a1 b1) ((List.isEmpty_iff.1 a2).trans (List.isEmpty_iff.1 b2).symm) (a3.trans b3.symm)
 ·refine⟨?_,⟨by show 0<18446744073709551616;omega,by show(0:Nat)<=maxLen;omega⟩⟩;have hz:fz 0=true:=Fv Fl.CP Fl.CP (by omega) (by omega) rfl;unfold Db Vl.ok AB DA;simp[hz]
 ·have hz:fz 0=true:=Fv Fl.CP Fl.CP (by omega) (by omega) rfl;show Gl (⟨0,0,0,⟨#[]⟩,0⟩:Vl)=true;unfold Gl Vl.ok AB;simp[hz]
theorem LF:∀v,Ky v->NV A8 v (hN v):=fun v h=>dN h.1 h.2
theorem WV:fz 0=true:=by decide
theorem cI(v:Vl)(f:Wf v):∃(c:Int) (b:Vl),JD v.kind v.num v.Ae v.str v.ref=KV c b.kind b.num b.Ae b.str b.ref/\(c=0->Ky b):=by
 unfold JD;by_cases d:AB v.kind v.num v.Ae v.str v.ref=true
 ·rw[C3 d];by_cases e:v.kind=0
  ·rw[C3 e];exact⟨1,⟨0,0,0,⟨#[]⟩,0⟩,rfl,fun h=>by omega⟩
  ·rw[Cs e];by_cases h3:v.kind=3
   ·rw[C3 h3];by_cases hn:Ea v.Ae=true
    ·rw[C3 hn];exact⟨1,⟨0,0,0,⟨#[]⟩,0⟩,rfl,fun h=>by omega⟩
    ·rw[Cs hn];by_cases a:B2 v.Ae=true
     ·rw[C3 a];refine⟨0,⟨2,Lm v.Ae,0,⟨#[]⟩,0⟩,rfl,fun _=>⟨?_,⟨by show(0:Nat)<_;decide,P9 _⟩⟩⟩;unfold Db Vl.ok AB;simp[WV]
     ·rw[Cs a];refine⟨0,v,rfl,fun _=>⟨?_,f⟩⟩;unfold Db Vl.ok;rw[d];simp[e,hn,a]
   ·rw[Cs h3];refine⟨0,v,rfl,fun _=>⟨?_,f⟩⟩;unfold Db Vl.ok;rw[d];simp[e,h3]
 ·rw[Cs d];exact⟨2,⟨0,0,0,⟨#[]⟩,0⟩,rfl,fun h=>by omega⟩
def dP:Dc:=⟨0,fun _=>default,0,fun _=>0,0,fun _=>0,0,0,0⟩
theorem Zl(hf:Vl->Nat):∀(f:Nat) (d:Dc),(Dl hf f d).m<=d.m+f:=by
 intro f
 induction f with
 |zero=>intro d;exact A0 _
 |succ f ih=>
  intro d;cases e:Bi d (DA ((d.m:Int)+1)) (hf (DA ((d.m:Int)+1)))with
  |none=>rw[GJ e];omega
  |some s=>
   rw[GK e];have:=ih (FA d s);have h2:(FA d s).m=d.m+1:=rfl;omega
theorem Tr(hf:Vl->Nat)(c:Dc)(k':Vl)(p:Nat):(A6 hf c k' p).m=c.m:=by
 unfold A6;cases C5 c.x c.X (hf k'%c.x)<;>rfl
theorem Sz{K:Vl->Prop}{hf:Vl->Nat}{d:Dc}{k v:Vl}(l:KeyLaw K hf)(h:Inv K hf d)(hk:K k):(CB hf d k v).m<=d.m+4002:=by
 rcases h.i0.place l hk with⟨i,h1,h2,h3,h4⟩|⟨h1,h2⟩
 ·have f:0<=AE d k (hf k):=by omega
  have hi:(AE d k (hf k)).toNat=i:=by omega
  by_cases j:v.kind=0
  ·rw[LL f j,hi];have g:=LC l h.i0 h.next h1 h2;have e:=(BV (hf:=hf) g.1.core).2.2.1;show(Am hf (J2 hf d i)).m<=_;rw[e];by_cases hs:AH d.m (d.L i).key
   ·rw[Kh hs];have:=(Hy (Bm d.I ((d.L i).key.num-1).toNat 0) d.m).1;show shrink (Bm d.I ((d.L i).key.num-1).toNat 0) d.m<=_;omega
   ·obtain⟨s,_,_,n⟩:=h.i0.found l (h.i0.keys i h1 h2) ⟨h1,h2,hs⟩ (l.refl _ (h.i0.keys i h1 h2));rw[Mw hs n];show d.m<=_;omega
  ·rw[JO f j,hi];show d.m<=_;omega
 ·have f:¬0<=AE d k (hf k):=by omega
  by_cases hc:v.kind≠0/\d.live<500/\d.turns<1000000000000
  ·rw[Gq f hc];have e:=(BV (hf:=hf) h.i0.core).2.2.1;have a:=(BV (hf:=hf) h.i0.core).1;have b:=Eh h.i0;show(Bu hf (Am hf d) k v).m<=_;generalize Am hf d=c at e b a;have a:c.live<500:=by rw[a];exact hc.2.1
   have o:c.x<=4000:=by
    rcases b.sz with h|h
    ·omega
    ·exact h.2.1
   unfold Bu
   split
   ·show c.m<=_;omega
   ·split
    ·have:=Zl hf (c.x+1) (CZ c k v);have h2:(CZ c k v).m=c.m+1:=rfl;omega
    ·rw[Tr];have p:=(Iy b a).2.2.m;show(Ez hf c).m<=_;omega
  ·rw[JN f hc];omega
theorem Inv.small{K:Vl->Prop}{hf:Vl->Nat}{d:Dc}(h:Inv K hf d)(a:d.m<=4194304):Small d:=by
 refine⟨?_,a,?_⟩
 ·have:=h.i0.le;have:=h.i0.log.EM;rcases h.tight with h|h<;>omega
 ·rcases h.i0.sz with h|h
  ·omega
  ·have:=h.2.1;omega
def EK(Q:Pr->Prop)(d:Dc):Prop:=∀i,i<d.n->Q (d.L i)
section
variable {Q:Pr->Prop} {hf:Vl->Nat} {d c:Dc} {k v:Vl}
theorem EK.same(h:EK Q d)(hn:c.n=d.n)(a:c.L=d.L):EK Q c:=fun i hi=>by rw[a];exact h i (by omega)
theorem EK.jU(h:EK Q d){p:Nat}{x:Pr}(hx:Q x){n:Nat}(hn:∀i,i<n->i=p\/i<d.n){c:Dc}(hc:c.n=n)(a:c.L=Bm d.L p x):EK Q c:=fun i hi=>by
 rw[a];by_cases e:i=p
 ·subst e;rw[Al];exact hx
 ·rw[Af _ _ e];rcases hn i (by omega)with e'|e'
  ·exact absurd e' e
  ·exact h i e'
theorem Jb(p:Nat):(A6 hf d k p).n=d.n/\(A6 hf d k p).L=d.L:=by
 unfold A6
 split<;>exact⟨rfl,rfl⟩
theorem Jk(x:Nat):∀k,(Cc hf d x k).n=d.n/\(Cc hf d x k).L=d.L
 |0=>⟨rfl,rfl⟩
 |k+1=>by
  by_cases h:Cz d k
  ·rw[Jl h];have h1:=Jb (hf:=hf) (d:=Cc hf d x k) (k:=(d.L k).key) k;have h2:=Jk x k;exact⟨h1.1.trans h2.1,h1.2.trans h2.2⟩
  ·rw[Ku h];exact Jk x k
theorem GR(more:Nat):(CQ hf d more).n=d.n/\(CQ hf d more).L=d.L:=by
 by_cases h:Ew d d.n+more=0
 ·rw[EG h];exact⟨rfl,rfl⟩
 ·rw[DL h];exact Jk _ _
theorem Kn:∀(f:Nat) (d:Dc),(Dl hf f d).n=d.n/\(Dl hf f d).L=d.L
 |0,d=>⟨rfl,rfl⟩
 |f+1,d=>by
  cases h:Bi d (DA ((d.m:Int)+1)) (hf (DA ((d.m:Int)+1)))with
  |none=>rw[GJ h];exact⟨rfl,rfl⟩
  |some s=>rw[GK h];exact Kn f (FA d s)
theorem EK.pack(h:EK Q d):EK Q (BU d):=fun j hj=>by
 obtain⟨i,h1,h2,h3⟩:=Fk d.n hj;have e:DX d j=d.L i:=by rw[<-h3];exact F6 h1 h2
 show Q (DX d j);rw[e];exact h i h1
theorem EK.Jv(h:EK Q d):EK Q (Am hf d):=by
 unfold Am
 split
 ·exact h
 ·exact h.pack.same (GR _).1 (GR _).2
theorem EK.add(h:EK Q c)(hx:Q ⟨k,v,c.turns+1⟩):EK Q (Dg c k v):=h.jU hx (n:=c.n+1) (fun i hi=>by omega) rfl rfl
theorem OI:(Ez hf c).n=c.n/\(Ez hf c).L=c.L:=by
 unfold Ez
 split
 ·exact GR _
 ·exact⟨rfl,rfl⟩
theorem EK.eO(h:EK Q c)(hx:∀t,Q ⟨k,v,t⟩):EK Q (Bu hf c k v):=by
 unfold Bu
 split
 ·exact(h.add (k:=k) (v:=v) (hx _)).same rfl rfl
 ·split
  ·exact(h.add (k:=k) (v:=v) (hx _)).same (Kn _ _).1 (Kn _ _).2
  ·exact((h.same OI.1 OI.2).add (c:=Ez hf c) (k:=k) (v:=v) (hx _)).same (Jb _).1 (Jb _).2
theorem EK.kN(h:EK Q d)(b:Q default)(p:Nat):EK Q (J2 hf d p):=by
 have a:EK Q (Hj d p):=fun i hi=>by
  show Q (Bm d.L p default i);by_cases e:i=p
  ·subst e;rw[Al];exact b
  ·rw[Af _ _ e];exact h i hi
 unfold J2
 split
 ·exact a.same rfl rfl
 ·split
  ·exact h
  ·exact a.same rfl rfl
theorem EK.put(h:EK Q d)(hx:∀t,Q ⟨k,v,t⟩)(a:Q default)(hs:∀x:Pr,Q x->Q ⟨x.key,v,x.turn⟩):EK Q (CB hf d k v):=by
 unfold CB
 split
 ·split
  ·exact(h.kN a _).Jv
  ·intro i hi;show Q (Bm d.L _ _ i);by_cases e:i=(AE d k (hf k)).toNat
   ·subst e;rw[Al];exact hs _ (h _ hi)
   ·rw[Af _ _ e];exact h i hi
 ·split
  ·exact h.Jv.eO hx
  ·exact h
end
theorem Rp.put{hf:Vl->Nat}{d:Dc}{k v:Vl}(h:Rp d)(hk:Wf k)(a:Wf v):Rp (CB hf d k v):=
 EK.put (Q:=fun p=>Wf p.key/\Wf p.val) h (fun _=>⟨hk,a⟩) ⟨⟨by decide,by decide⟩,⟨by decide,by decide⟩⟩ (fun x hx=>⟨hx.1,a⟩)
theorem Px{K:Vl->Prop}{hf:Vl->Nat}:Inv K hf dP:=
 ⟨⟨⟨fun i hi=>(by cases hi),fun i j _ hj=>(by cases hj),rfl⟩,fun i hi=>(by cases hi),fun i j hi=>(by cases hi),fun j hj=>(by cases hj),.inl rfl,fun i hi=>(by cases hi),.inl rfl,
  Idx.empty _ _ _ _ (fun i h=>by cases h.1),rfl,A0 _,⟨by decide,by decide⟩,by decide⟩,fun i hi=>(by cases hi),.inl (by decide)⟩
end
section
def Has(d:Dc)(p:Pr):Prop:=∃i,i<d.n/\(d.L i).turn≠0/\d.L i=p
theorem EY{d:Dc}{i:Nat}(h1:i<d.n)(h2:(d.L i).turn≠0):Has d (d.L i):=⟨i,h1,h2,rfl⟩
section
variable {K:Vl->Prop} {hf:Vl->Nat} {d:Dc} {k v:Vl}
theorem Inv.uniq(h:Inv K hf d){p q:Pr}(a:Has d p)(hq:Has d q)(e:Ap p.key q.key=true):p=q:=by
 obtain⟨i,h1,h2,rfl⟩:=a;obtain⟨j,g1,g2,rfl⟩:=hq;rw[h.i0.Ja i j h1 g1 h2 g2 e]
theorem Inv.keyOf(h:Inv K hf d){p:Pr}(a:Has d p):K p.key:=by
 obtain⟨i,h1,h2,rfl⟩:=a;exact h.i0.keys i h1 h2
theorem Inv.entry(h:Inv K hf d){p:Pr}(a:Has d p):0<p.turn/\p.turn<=d.turns/\p.val.ok=true/\p.val.kind≠0:=by
 obtain⟨i,h1,h2,rfl⟩:=a;rcases h.i0.log.Ca i h1 with e|e
 ·exact absurd e.1 h2
 ·exact⟨e.1,e.2.1,e.2.2.2⟩
theorem KR(h:Core K d)(p:Pr):Has (Am hf d) p↔Has d p:=Ei h (fun q=>q=p)
def YF(d e:Dc)(k v:Vl):Prop:=
 (∃q,Has d q/\Ap q.key k=true/\v.kind=0/\(∀p,Has e p↔Has d p/\Ap p.key k=false)/\e.live=d.live-1/\e.turns=d.turns)\/
 (∃q,Has d q/\Ap q.key k=true/\v.kind≠0/\(∀p,Has e p↔(Has d p/\Ap p.key k=false)\/p=⟨q.key,v,q.turn⟩)/\e.live=d.live/\e.turns=d.turns)\/
 ((∀p,Has d p->Ap p.key k=false)/\v.kind≠0/\(∀p,Has e p↔Has d p\/p=⟨k,v,d.turns+1⟩)/\e.live=d.live+1/\e.turns=d.turns+1)\/
 ((∀p,Has d p->Ap p.key k=false)/\¬(v.kind≠0/\d.live<500/\d.turns<1000000000000)/\e=d)
theorem Ho(a:KeyLaw K hf)(h:Co K hf d)(hk:K k){i:Nat}(h1:i<d.n)(h2:(d.L i).turn≠0)(h3:Ap (d.L i).key k=true){j:Nat}(g1:j<d.n)(g2:(d.L j).turn≠0):Ap (d.L j).key k=false↔j≠i:=by
 constructor
 ·intro e b;subst b;rw[h3]at e;exact absurd e (by decide)
 ·intro e;by_cases hl:Ap (d.L j).key k=true
  ·refine absurd (h.Ja j i g1 h1 g2 h2 ?_) e;exact a.trans _ _ _ (h.keys j g1 g2) hk (h.keys i h1 h2) hl (a.symm _ _ (h.keys i h1 h2) hk h3)
  ·simpa using hl
theorem Hu(g:KeyLaw K hf)(h:Inv K hf d)(hk:K k)(s:Db k=true)(w:v.ok=true):YF d (CB hf d k v) k v:=by
 rcases h.i0.place g hk with⟨i,h1,h2,h3,h4⟩|⟨h1,h2⟩
 ·have l:0<=AE d k (hf k):=by omega
  have hi:(AE d k (hf k)).toNat=i:=by omega
  by_cases f:v.kind=0
  ·rw[LL l f,hi];obtain⟨g1,g2,g3,g4,g5,g6⟩:=LC g h.i0 h.next h1 h2;have c:=BV (hf:=hf) g1.core;refine .inl ⟨d.L i,EY h1 h2,h3,f,fun p=>?_,c.1.trans g5,c.2.1.trans g6⟩;refine(KR g1.core p).trans ?_;constructor
   ·rintro⟨j,b,a,rfl⟩;rw[g4]at a ⊢;by_cases e:j=i
    ·subst e;rw[Al]at a;exact absurd rfl a
    ·rw[Af _ _ e]at a ⊢;exact⟨EY (by omega) a,(Ho g h.i0 hk h1 h2 h3 (by omega) a).2 e⟩
   ·rintro⟨⟨j,b,a,rfl⟩,hl⟩;have e:=(Ho g h.i0 hk h1 h2 h3 b a).1 hl;refine⟨j,by omega,?_,?_⟩
    ·rw[g4,Af _ _ e];exact a
    ·rw[g4,Af _ _ e]
  ·rw[JO l f,hi];refine .inr (.inl ⟨d.L i,EY h1 h2,h3,f,fun p=>?_,rfl,rfl⟩);constructor
   ·rintro⟨j,b,a,rfl⟩;by_cases e:j=i
    ·subst e;right;exact Al _ _ _
    ·left;have e2:(EE d i v).L j=d.L j:=Af _ _ e;rw[e2]at a ⊢;exact⟨EY b a,(Ho g h.i0 hk h1 h2 h3 b a).2 e⟩
   ·rintro(⟨⟨j,b,a,rfl⟩,hl⟩|rfl)
    ·have e:=(Ho g h.i0 hk h1 h2 h3 b a).1 hl;have e2:(EE d i v).L j=d.L j:=Af _ _ e;exact⟨j,b,by rw[e2];exact a,e2⟩
    ·have e2:(EE d i v).L i=⟨(d.L i).key,v,(d.L i).turn⟩:=Al _ _ _;exact⟨i,h1,by rw[e2];exact h2,e2⟩
 ·have l:¬0<=AE d k (hf k):=by omega
  have m:∀p,Has d p->Ap p.key k=false:=by
   rintro p ⟨i,t,i2,rfl⟩;exact h1 i t i2
  by_cases hc:v.kind≠0/\d.live<500/\d.turns<1000000000000
  ·rw[Gq l hc];have c:=BV (hf:=hf) h.i0.core;have q:=Eh h.i0;have u:=EF (hf:=hf) h.i0.core h.next;have o:=fun p=>KR (hf:=hf) h.i0.core p
   have r:∀i,i<(Am hf d).n->((Am hf d).L i).turn≠0->Ap ((Am hf d).L i).key k=false:=fun i t i2=>m _ ((o _).1 (EY t i2))
   obtain⟨g1,g2,g3,g4,g5,g6⟩:=Ih g q u hk s w hc.1 r (by rw[c.1];exact hc.2.1) (by rw[c.2.1];exact hc.2.2);have et:(Am hf d).turns=d.turns:=c.2.1;refine .inr (.inr (.inl ⟨m,hc.1,fun p=>?_,by rw[<-c.1];exact g5,by rw[<-et];exact g6⟩));show Has (Bu hf (Am hf d) k v) p↔_;rw[<-et];constructor
   ·rintro⟨j,b,a,rfl⟩;rw[g4]at a ⊢;by_cases e:j=(Am hf d).n
    ·subst e;right;exact Al _ _ _
    ·left;rw[Af _ _ e]at a ⊢;exact(o _).1 (EY (by omega) a)
   ·rintro(l|rfl)
    ·obtain⟨j,b,a,rfl⟩:=(o p).2 l;refine⟨j,by omega,?_,?_⟩
     ·rw[g4,Af _ _ (by omega)];exact a
     ·rw[g4,Af _ _ (by omega)]
    ·refine⟨(Am hf d).n,by omega,?_,?_⟩
     ·rw[g4,Al];show(Am hf d).turns+1≠0;have:=q.turns.1;omega
     ·rw[g4,Al]
  ·rw[JN l hc];exact .inr (.inr (.inr ⟨m,hc,rfl⟩))
end
end
abbrev VV(v:Vl):Value:=V v.kind v.num v.Ae v.str v.ref
def GB(d:Dc)(p:Int):Vl:=if 0<=p then(d.L p.toNat).val else default
open Classical in
noncomputable def RT(d:Dc)(c:Int)(a:Vl):Vl:=if CE d (hD d)=0/\c=0 then GB d (AE d a (hN a))else default
section
open Go.Maps (Keyed)
theorem Xe{w:Y}{f:Nat->Bf}{b0 n:Nat}{B Z:Nat->Nat}{M:Nat->Option Nat}(h:B8 w f b0 n B Z M)(hid:∀i,i<n->Z i=i)(h1:EL n)(h2:Bz f)(h3:BB n f){k:Nat}(hk:k<n){key:ByteArray}(p:key.size<=4000):
  ∃v,(∀q,(Instr.lookup 206 (.map (M k)) (Sh k key ((f k).count+1)) false).run prog (w.drewN q)=.ok v (w.drewN q))/\((∃j,NY n f k key j/\v=Q9 (B j))\/(v=.pointer none/\∀j,¬NY n f k key j)):=by
 have r:=BC (k:=n) h2 (fun j a b=>h3 j a b) k hk;have t:=h1.2;have w1:(Lit.int .i64 (k:Int)).wf=true:=ZZ (by omega) (by omega);have w3:(Lit.int .i64 ((f k).count+1)).wf=true:=ZZ (by omega) (by omega);have w2:key.size<=maxLen:=by unfold maxLen;omega
 cases l:M k with
 |none=>
  refine⟨.pointer none,Ot (s:=⟨k,key,(f k).count+1⟩) w1 w2 w3,.inr ⟨rfl,fun j hK=>?_⟩⟩;refine h.bare k hk (hid k hk) l j hK.1 hK.2.1 (hid j hK.2.1) ?_;have c:Az f j=k:=by unfold Az;rw[hK.2.2.1];rfl
  rw[c];exact hid k hk
 |some m=>
  obtain⟨g,hg,hK⟩:=h.kids k m hk (hid k hk) l;refine⟨g (I4 ⟨k,key,(f k).count+1⟩),MI hg (s:=⟨k,key,(f k).count+1⟩) w1 w2 w3,?_⟩;rcases hK (I4 ⟨k,key,(f k).count+1⟩)with⟨j,u,x,_,_,o,d⟩|⟨d,e⟩
  ·refine .inl ⟨j,⟨u,x,?_,?_⟩,d⟩
   ·have:=O3 o;rw[<-this]
   ·have:=O3 o;rw[<-this]
  ·refine .inr ⟨d,fun j hK=>e j hK.1 hK.2.1 (hid j hK.2.1) ?_ ?_⟩
   ·have c:Az f j=k:=by unfold Az;rw[hK.2.2.1];rfl
    rw[c];exact hid k hk
   ·have A:(f j).key=key:=WideShapes.bytes_inj (by rw[<-AaQ,<-AaQ];exact hK.2.2.2);have C:(f j).count=(f k).count+1:=by rw[(h3 j hK.1 hK.2.1).2.2.1,hK.2.2.1];rfl
    show Sh (f j).parent (f j).key (f j).count=_;rw[A,C,hK.2.2.1]
theorem Nodes.congr{P:Program}{K d:TypeId}{w:Y}{f f':Nat->Bf}{b0 k:Nat}{B Z:Nat->Nat}{M:Nat->Option Nat}(h:Nodes P K d w f b0 k B Z M)(e:∀i,i<k->f' i=f i):Nodes P K d w f' b0 k B Z M where
 pos:=h.pos
 n0:=h.n0
 le:=h.le
 own:=h.own
 same:=fun i hi=>by rw[e i hi,e _ (Aay (h.le i hi) hi)];exact h.same i hi
 one:=fun i j hi hj e2=>h.one i j hi hj (by rw[<-e i hi,<-e j hj];exact e2)
 BR:=h.BR
 base:=h.base
 node:=fun i hi hn=>by
  have a:=h.node i hi hn;have l:CJ f' B i=CJ f B i:=by unfold CJ Az;rw[e i hi]
  rw[e i hi,l];exact a
 apart:=h.apart
 mbase:=h.mbase
 Km:=h.Km
 bare:=fun i hi hn b j a hj c=>by
  have h1:=h.bare i hi hn b j a hj c;unfold Az at*;rw[e j hj];exact h1
 kids:=fun i m hi hn b=>by
  obtain⟨g,hg,hK⟩:=h.kids i m hi hn b;refine⟨g,hg,fun v=>?_⟩;rcases hK v with⟨j,a1,a2,a3,a4,a5,n⟩|⟨a1,a2⟩
  ·exact .inl ⟨j,a1,a2,a3,by unfold Az at*;rw[e j a2];exact a4,by rw[e j a2];exact a5,n⟩
  ·exact .inr ⟨a1,fun j b1 b2 b3 b4=>by rw[e j b2];exact a2 j b1 b2 b3 (by unfold Az at*;rw[<-e j b2];exact b4)⟩
def aR(n:Nat)(f:Nat->Bf)(k:Nat)(key:ByteArray)(b0:Nat)(B:Nat->Nat)(w:Y)(e:Ending)(w':Y):Prop:=
 (∃j,NY n f k key j/\e=.returned (Q9 (B j))/\B9 w w')\/
 ((∀j,¬NY n f k key j)/\((f k).count=12\/n=200)/\e=.returned (.pointer none)/\B9 w w')\/
 ((∀j,¬NY n f k key j)/\(f k).count≠12/\n≠200/\∃r B' a M',e=.returned (Q9 r)/\B8 w' (grown f n k key) b0 (n+1) B' a M'/\(∀i,i<n+1->a i=i)/\B' n=r/\(∀i,i<n->B' i=B i)/\OX b0 w w')
theorem Grown.after{a b0:Nat}{w w1 w2:Y}(h:B9 w w1)(h2:Grown a b0 w1 w2):Grown a b0 w w2:=
 ⟨h2.os.trans h.os,h2.tape.trans h.tape,h2.output.trans h.output,FZ h.size h2.size,fun b hb hc=>(h2.block b (Be hb h.size) (by
  rcases hc with hc|hc
  ·exact .inl hc
  ·refine .inr (fun hN=>hc ?_);unfold DU at*;rw[h.block b hb]at hN;exact hN)).trans (h.block b hb)⟩
theorem Qs{n:Nat}{f:Nat->Bf}{k:Nat}{key:ByteArray}(h1:EL n)(h2:Bz f)(h3:BB n f)(hk:k<n)(d:key.size<=4000)(h:(f k).count≠12):
  Bz (grown f n k key)/\(∀i,1<=i->i<=n->YA (grown f n k key) i)/\(∀i,i<n->grown f n k key i=f i)/\grown f n k key n=⟨k,key,(f k).count+1⟩:=by
 have l:=BC (k:=n) h2 (fun j a b=>h3 j a b) k hk;have e:∀i,i<n->grown f n k key i=f i:=fun i hi=>by unfold grown;rw[Cs (by omega)]
 have en:grown f n k key n=⟨k,key,(f k).count+1⟩:=by unfold grown;rw[C3 rfl]
 have g:0<n:=by omega
 refine⟨by unfold Bz;rw[e 0 g];exact h2,fun i a b=>?_,e,en⟩;by_cases hi:i=n
 ·subst hi;unfold YA;rw[en];refine⟨by simp,by simpa using hk,?_,by show(f k).count+1<=12;omega,d⟩;show(f k).count+1=(grown f i k key ((k:Int)).toNat).count+1;rw[show((k:Int)).toNat=k from by simp,e k hk]
 ·have c:i<n:=by omega
  obtain⟨a1,a2,a3,a4,a5⟩:=h3 i a c;unfold YA;rw[e i c,e _ (by omega)];exact⟨a1,a2,a3,a4,a5⟩
theorem Vg{w:Y}{f:Nat->Bf}{b0 n k:Nat}{key:ByteArray}{B Z:Nat->Nat}{M:Nat->Option Nat}(h:B8 w (grown f n k key) b0 (n+1) B Z M)(e:∀i,i<n->grown f n k key i=f i)(en:grown f n k key n=⟨k,key,(f k).count+1⟩)(h2:Bz f)(h4:Gd n f)(h3:BB n f)(c:∀j,¬NY n f k key j):∀i,i<n+1->Z i=i:=by
 intro i hi;have d:=h.le i hi;rcases Nat.lt_or_eq_of_le d with g|heq
 ·exfalso;have hs:=h.same i hi;have a:Z i<n:=by omega
  rw[e _ a]at hs;have l:0<Z i:=by
   rcases AaH (Z i)with X|X
   ·exfalso;rw[X]at hs;have b:=h2.1;rw[hs]at b;by_cases Nr:i=n
    ·rw[Nr,en]at b;have b:(k:Int)=-1:=b;omega
    ·rw[e i (by omega)]at b;have:=(h3 i (by omega) (by omega)).1;omega
   ·exact X
  by_cases Nr:i=n
  ·rw[Nr,en]at hs;subst Nr;exact c (Z i) ⟨l,a,by rw[hs],by rw[hs]⟩
  ·rw[e i (by omega)]at hs;exact h4 i (Z i) l g (by omega) ⟨by rw[hs],by rw[hs]⟩
 ·exact heq
theorem Pz(w:Y)(f:Nat->Bf)(b0 n:Nat)(B Z:Nat->Nat)(M:Nat->Option Nat)(h:B8 w f b0 n B Z M)(hid:∀i,i<n->Z i=i)(h1:EL n)(h2:Bz f)(h3:BB n f)(h4:Gd n f)(k:Nat)(hk:k<n)(key:ByteArray)(H:key.size<=4000):
  C9 277 #[Q9 (B k),.string key,J n] w fun e w'=>aR n f k key b0 B w e w':=by
 have u:n<=200:=h1.2;obtain⟨ad,ae⟩:=BC (k:=n) h2 (fun j a b=>h3 j a b) k hk;obtain⟨n0,_,n3,_,U⟩:=C1 h hid hk;have R:B k<w.heap.size:=h.lt hk;have hw:IntKind.i64.wrap ((f k).count+1)=(f k).count+1:=by rw[It];omega
 obtain⟨W,x⟩:∃W,W=(w.alloc (.cells #[J (k:Int),.string key,J ((f k).count+1)] 205)).drew:=⟨_,rfl⟩;have g:B9 w W:=by rw[x];exact(n9).drew
 have af:W.heap.size=w.heap.size+1:=by rw[x];simp
 have S0:W.cell? (y w 0)=some (J (k:Int)):=by rw[x];simp[go_sem]
 have S1:W.cell? (y w 1)=some (.string key):=by rw[x];simp[go_sem]
 have S2:W.cell? (y w 2)=some (J ((f k).count+1)):=by rw[x];simp[go_sem]
 have m5:=(g.cell (p:=(G (B k) 5)) (by exact R)).trans U;have A:=h.below g;obtain⟨v,ag,hv⟩:=Xe A hid h1 h2 h3 hk (key:=key) H;have S:=O A;have F:=O (And.intro h1 (And.intro h2 (And.intro h3 h4)));have Q:=O g;clear h h1 h2 h3 h4 g A
 go_enter func277,ntmps277
 go_wp2
 go_region
 rw[<-x];clear x n0 n3 U;rcases hv with⟨j,o,rfl⟩|⟨rfl,I⟩
 ·have HK:=O o;clear o;go_wp2
  go_quiet (fail)
  go_wp2;go_ret;exact .inl ⟨j,HK,rfl,below_drewN Q _⟩
 ·have l:=O I;clear I;by_cases C:12<(f k).count+1
  ·have K:decide (12<(f k).count+1)=true:=by simp[C]
   have m:Hid ((f k).count=12):=O (by omega);clear C;go_wp2
   go_quiet (fail)
   go_wp2;go_ret;exact .inr (.inl ⟨l,.inl m,rfl,below_drewN Q _⟩)
  have K:decide (12<(f k).count+1)=false:=by simp;omega
  have m:Hid ((f k).count≠12):=O (by omega);clear C;by_cases s:200<=n
  ·have D:decide ((200:Int)<=n)=true:=by simp;omega
   have c:Hid (n=200):=O (by omega);clear s;go_wp2
   go_quiet (fail)
   go_wp2;go_ret;exact .inr (.inl ⟨l,.inr c,rfl,below_drewN Q _⟩)
  have D:decide ((200:Int)<=n)=false:=by simp;omega
  have c:Hid (n≠200):=O (by omega);clear s;obtain⟨r2,V,e,en⟩:=Qs F.1 F.2.1 F.2.2.1 hk H m;have d:∀q,C9 223 #[Q9 (B k),Sh k key ((f k).count+1),J n] (W.drewN q) fun e w'=>∃r B' T M',e=.returned (Q9 r)/\B8 w' (grown f n k key) b0 (n+1) B' T M'/\B' n=r/\(∀i,i<n->B' i=B i)/\OX b0 (W.drewN q) w':=by
   intro q;have X:=MC (W.drewN q) (grown f n k key) b0 n B Z M ((S.congr e).keep (fun b _=>rfl)) u r2 V;rw[show Az (grown f n k key) n=k from by unfold Az;rw[en];simp,en]at X;exact X
  have HC:=O d;have HE:=O (And.intro e en);clear d r2 V e en;go_wp2
  go_quiet (fail)
  go_wp2_with (fail)
  refine(HC _).mono ?_;rintro e w3 ⟨r,B',T,M',rfl,E,L,P,hG⟩;have t:=Vg E HE.1 HE.2 F.2.1 F.2.2.2 F.2.2.1 l;have HF:=O (And.intro E (And.intro t (And.intro L (And.intro P hG))));clear E t L P hG;go_wp2;go_ret;obtain⟨a1,a2,a3,a4,a5⟩:=z HF;exact .inr (.inr ⟨l,m,c,r,B',T,M',rfl,a1,a2,a3,a4,Grown.after Q ⟨a5.os,a5.tape,a5.output,a5.size,a5.block⟩⟩)
end
def tL(U:Nat->Value)(T:Nat->Pl):Nat->List Value
 |0=>[]
 |k+1=>tL U T k++[U k,J (T k).turns]
theorem Dt(U:Nat->Value)(T:Nat->Pl)(n:Nat):(tL U T n).length=n*2:=by
 induction n with
 |zero=>rfl
 |succ n ih=>simp[tL,ih];omega
theorem KB{U:Nat->Value}{T:Nat->Pl}{n i j:Nat}(hi:i<n)(hj:j<2):(tL U T n)[i*2+j]?=[U i,J (T i).turns][j]?:=by
 induction n with
 |zero=>omega
 |succ n ih=>
  show(tL U T n++[U n,J (T n).turns])[i*2+j]?=_;by_cases h:i<n
  ·rw[PC (by rw[Dt];omega),ih h]
  ·have:i=n:=by omega
   subst this;rw[TO (by rw[Dt];omega),Dt,show i*2+j-i*2=j by omega]
theorem JY{U U':Nat->Value}{T T':Nat->Pl}:∀{n:Nat},(∀i,i<n->U i=U' i/\(T i).turns=(T' i).turns)->tL U T n=tL U' T' n
 |0,_=>rfl
 |n+1,h=>by
  show tL U T n++_=tL U' T' n++_;rw[JY fun i hi=>h i (by omega),(h n (by omega)).1,(h n (by omega)).2]
theorem T8{U:Nat->Value}{T:Nat->Pl}{n i:Nat}(hi:i<n)(u:V9):(tL U T n).set (i*2) u=tL (AM U i u) T n:=by
 apply List.ext_getElem?;intro q;rw[List.getElem?_set];by_cases hq:q<n*2
 ·obtain⟨k,j,rfl,hj,hk⟩:∃k j,q=k*2+j/\j<2/\k<n:=⟨q/2,q%2,by omega,by omega,by omega⟩;rw[KB hk hj,KB hk hj,Dt];by_cases e:i*2=k*2+j
  ·have e1:k=i:=by omega
   have e2:j=0:=by omega
   subst e1 e2;rw[C3 (by omega),C3 (by omega),Ah];rfl
  ·rw[Cs e];by_cases e1:k=i
   ·have e2:j=1:=by omega
    subst e1 e2;rfl
   ·rw[Ag _ _ e1]
 ·rw[Cs (by omega),SO (by rw[Dt];omega),SO (by rw[Dt];omega)]
theorem ZR{U:Nat->Value}{T:Nat->Pl}{n i:Nat}(hi:i<n)(t':Pl):(tL U T n).set (i*2+1) (J t'.turns)=tL U (AM T i t') n:=by
 apply List.ext_getElem?;intro q;rw[List.getElem?_set];by_cases hq:q<n*2
 ·obtain⟨k,j,rfl,hj,hk⟩:∃k j,q=k*2+j/\j<2/\k<n:=⟨q/2,q%2,by omega,by omega,by omega⟩;rw[KB hk hj,KB hk hj,Dt];by_cases e:i*2+1=k*2+j
  ·have e1:k=i:=by omega
   have e2:j=1:=by omega
   subst e1 e2;rw[C3 (by omega),C3 (by omega),Ah];rfl
  ·rw[Cs e];by_cases e1:k=i
   ·have e2:j=0:=by omega
    subst e1 e2;rfl
   ·rw[Ag _ _ e1]
 ·rw[Cs (by omega),SO (by rw[Dt];omega),SO (by rw[Dt];omega)]
def sL(S:Nat->ByteArray):Nat->List Value
 |0=>[]
 |k+1=>sL S k++[.string (S k)]
theorem Kw(S:Nat->ByteArray)(n:Nat):(sL S n).length=n:=by
 induction n with
 |zero=>rfl
 |succ n ih=>simp[sL,ih]
theorem dA{S:Nat->ByteArray}{n i:Nat}(hi:i<n):(sL S n)[i]?=some (.string (S i)):=by
 induction n with
 |zero=>omega
 |succ n ih=>
  show(sL S n++[.string (S n)])[i]?=_;by_cases h:i<n
  ·rw[PC (by rw[Kw];omega),ih h]
  ·have:i=n:=by omega
   subst this;rw[TO (by rw[Kw];omega),Kw];simp
theorem QV{S S':Nat->ByteArray}:∀{n:Nat},(∀i,i<n->S i=S' i)->sL S n=sL S' n
 |0,_=>rfl
 |n+1,h=>by
  show sL S n++_=sL S' n++_;rw[QV fun i hi=>h i (by omega),h n (by omega)]
abbrev aU(w:Y)(B:Nat)(v:V9)(n:Nat)(U:Nat->Value)(T:Nat->Pl):Prop:=w.ownsRow B 88 2 v n (tL U T n)
abbrev dV(w:Y)(B:Nat)(v:V9)(n:Nat)(S:Nat->ByteArray):Prop:=w.ownsRow B 9 1 v n (sL S n)
theorem Ai{w w':Y}{B:Nat}{e:TypeId}{size:Nat}{v:V9}{n:Nat}{xs:List Value}(h:w.ownsRow B e size v n xs)(hk:∀g,v.ownBlock=some g->w'.heap[g]?=w.heap[g]?):w'.ownsRow B e size v n xs:=by
 refine⟨h.1,?_⟩;rcases h.2 with hn|⟨g,cap,cur,a,hb,hg,rest⟩
 ·exact .inl hn
 ·exact .inr ⟨g,cap,cur,a,hb,(hk g (by rw[a];rfl)).trans hg,rest⟩
def Bs(c:Nat)(vT vS:V9)(U:Nat->Value)(n k:Nat):Prop:=k=c\/vT.ownBlock=some k\/vS.ownBlock=some k\/∃i,i<n/\(U i).ownBlock=some k
structure BG (O:Nat->Prop) (w:Y) (O':Nat->Prop) (w':Y):Prop where
 os:w'.os=w.os
 tape:w'.tape=w.tape
 output:w'.output=w.output
 size:w.heap.size<=w'.heap.size
 block:∀k,k<w.heap.size->¬O k->w'.heap[k]?=w.heap[k]?
 own:∀k,O' k->O k\/w.heap.size<=k
theorem BG.refl(Z:Nat->Prop)(w:Y):BG Z w Z w:=⟨rfl,rfl,rfl,A0 _,fun _ _ _=>rfl,fun _ h=>.inl h⟩
theorem BG.trans{Z O' a:Nat->Prop}{w w' b:Y}(h:BG Z w O' w')(g:BG O' w' a b):BG Z w a b:=
 ⟨g.os.trans h.os,g.tape.trans h.tape,g.output.trans h.output,FZ h.size g.size,
  fun k hk hn=>(g.block k (Be hk h.size) (fun e=>by
   rcases h.own k e with e|e
   ·exact hn e
   ·omega)).trans (h.block k hk hn),
  fun k e=>by
   rcases g.own k e with e|e
   ·exact h.own k e
   ·exact .inr (FZ h.size e)⟩
theorem BG.below{Z O':Nat->Prop}{w w' a:Y}(h:BG Z w O' w')(hb:B9 w' a):BG Z w O' a:=
 h.trans ⟨hb.os,hb.tape,hb.output,hb.size,fun k hk _=>hb.block k hk,fun _ h=>.inl h⟩
theorem BG.Ay{Z:Nat->Prop}{w w':Y}(hb:B9 w w'):BG Z w Z w':=(BG.refl Z w).below hb
structure AQ (ty:TypeId) (w:Y) (c B:Nat) (vT vS:V9) (U:Nat->Value) (D:Ds):Prop where
 base:B<=c
 BR:w.heap[c]?=some (.cells #[vT,vS] ty (0,0))
 tb:aU w B vT D.nt U D.T
 pr:∀i,i<D.nt->Ci w B (U i) (D.T i).n (D.T i).P
 st:dV w B vS D.ns D.S
 tc:vT.ownBlock≠some c
 sc:vS.ownBlock≠some c
 uc:∀i,i<D.nt->(U i).ownBlock≠some c
 ts:∀g,vT.ownBlock=some g->vS.ownBlock≠some g
 tu:∀g i,vT.ownBlock=some g->i<D.nt->(U i).ownBlock≠some g
 su:∀g i,vS.ownBlock=some g->i<D.nt->(U i).ownBlock≠some g
 uu:∀g i j,i<D.nt->j<D.nt->i≠j->(U i).ownBlock=some g->(U j).ownBlock≠some g
theorem AQ.lt{ty:TypeId}{w:Y}{c B:Nat}{vT vS:V9}{U:Nat->Value}{D:Ds}(h:AQ ty w c B vT vS U D):c<w.heap.size:=by
 rcases Nat.lt_or_ge c w.heap.size with h1|h1
 ·exact h1
 ·have:=h.BR;rw[Array.getElem?_eq_none h1]at this;cases this
theorem AQ.Lc{ty:TypeId}{w:Y}{c B:Nat}{vT vS:V9}{U:Nat->Value}{D:Ds}(h:AQ ty w c B vT vS U D){k:Nat}(hk:Bs c vT vS U D.nt k):B<=k/\k<w.heap.size:=by
 rcases hk with rfl|e|e|⟨i,hi,e⟩
 ·exact⟨h.base,h.lt⟩
 ·exact h.tb.lt k e
 ·exact h.st.lt k e
 ·exact(h.pr i hi).lt k e
theorem AQ.keep{ty:TypeId}{w w':Y}{c B:Nat}{vT vS:V9}{U:Nat->Value}{D:Ds}(h:AQ ty w c B vT vS U D)(hk:∀k,Bs c vT vS U D.nt k->w'.heap[k]?=w.heap[k]?):AQ ty w' c B vT vS U D:=
 ⟨h.base,(hk c (.inl rfl)).trans h.BR,Ai h.tb fun g e=>hk g (.inr (.inl e)),fun i hi=>Ai (h.pr i hi) fun g e=>hk g (.inr (.inr (.inr ⟨i,hi,e⟩))),Ai h.st fun g e=>hk g (.inr (.inr (.inl e))),h.tc,h.sc,h.uc,h.ts,h.tu,h.su,h.uu⟩
theorem AQ.below{ty:TypeId}{w w':Y}{c B:Nat}{vT vS:V9}{U:Nat->Value}{D:Ds}(h:AQ ty w c B vT vS U D)(hb:B9 w w'):AQ ty w' c B vT vS U D:=h.keep fun k hk=>hb.block k (h.Lc hk).2
theorem AQ.table{ty:TypeId}{w w':Y}{c B:Nat}{vT vS:V9}{U:Nat->Value}{D:Ds}(h:AQ ty w c B vT vS U D){i:Nat}(hi:i<D.nt){u':V9}{t':Pl}
  (a:w'.os=w.os/\w'.tape=w.tape/\w'.output=w.output/\w.heap.size<=w'.heap.size)
  (hk:∀k,k<w.heap.size->vT.ownBlock≠some k->(U i).ownBlock≠some k->w'.heap[k]?=w.heap[k]?)
  (d:aU w' B vT D.nt (AM U i u') (AM D.T i t')) (f:Ci w' B u' t'.n t'.P) (hu:∀g,u'.ownBlock=some g->(U i).ownBlock=some g\/w.heap.size<=g):
  AQ ty w' c B vT vS (AM U i u') {D with T:=AM D.T i t'}/\BG (Bs c vT vS U D.nt) w (Bs c vT vS (AM U i u') D.nt) w':=by
 have new:∀g,u'.ownBlock=some g->g<w.heap.size->(U i).ownBlock=some g:=fun g e hg=>by
  rcases hu g e with e|e
  ·exact e
  ·omega
 refine⟨⟨h.base,(hk c h.lt h.tc (h.uc i hi)).trans h.BR,d,fun j hj=>?_,Ai h.st fun g e=>hk g (h.st.lt g e).2 (fun e2=>h.ts g e2 e) (h.su g i e hi),h.tc,h.sc,fun j hj=>?_,h.ts,fun g j e hj=>?_,fun g j e hj=>?_,fun g j q hj hq Cy e=>?_⟩,⟨a.1,a.2.1,a.2.2.1,a.2.2.2,fun k b hn=>hk k b (fun e=>hn (.inr (.inl e))) (fun e=>hn (.inr (.inr (.inr ⟨i,hi,e⟩)))),fun k l=>?_⟩⟩
 ·show Ci w' B (AM U i u' j) (AM D.T i t' j).n (AM D.T i t' j).P;by_cases e:j=i
  ·subst e;rw[Ah,Ah];exact f
  ·rw[Ag _ _ e,Ag _ _ e];have hj:j<D.nt:=hj;exact Ai (h.pr j hj) fun g e2=>hk g ((h.pr j hj).lt g e2).2 (fun e3=>h.tu g j e3 hj e2) (fun e3=>h.uu g j i hj hi e e2 e3)
 ·have hj:j<D.nt:=hj;by_cases e:j=i
  ·subst e;rw[Ah];exact fun e2=>h.uc j hj (new c e2 h.lt)
  ·rw[Ag _ _ e];exact h.uc j hj
 ·have hj:j<D.nt:=hj;by_cases e1:j=i
  ·subst e1;rw[Ah];exact fun e2=>h.tu g j e hj (new g e2 (h.tb.lt g e).2)
  ·rw[Ag _ _ e1];exact h.tu g j e hj
 ·have hj:j<D.nt:=hj;by_cases e1:j=i
  ·subst e1;rw[Ah];exact fun e2=>h.su g j e hj (new g e2 (h.st.lt g e).2)
  ·rw[Ag _ _ e1];exact h.su g j e hj
 ·have hj:j<D.nt:=hj;have hq:q<D.nt:=hq;by_cases e1:j=i
  ·subst e1;rw[Ah]at e;rw[Ag _ _ (fun e=>Cy e.symm)];exact fun e2=>h.uu g q j hq hj (fun e=>Cy e.symm) e2 (new g e ((h.pr q hq).lt g e2).2)
  ·rw[Ag _ _ e1]at e;by_cases e2:q=i
   ·subst e2;rw[Ah];exact fun e3=>h.uu g j q hj hq e1 e (new g e3 ((h.pr j hj).lt g e).2)
   ·rw[Ag _ _ e2];exact h.uu g j q hj hq Cy e
 ·rcases l with e|e|e|⟨j,hj,e⟩
  ·exact .inl (.inl e)
  ·exact .inl (.inr (.inl e))
  ·exact .inl (.inr (.inr (.inl e)))
  ·by_cases e1:j=i
   ·subst e1;rw[Ah]at e;rcases hu k e with e|e
    ·exact .inl (.inr (.inr (.inr ⟨j,hj,e⟩)))
    ·exact .inr e
   ·rw[Ag _ _ e1]at e;exact .inl (.inr (.inr (.inr ⟨j,hj,e⟩)))
theorem AQ.XL{ty:TypeId}{w w':Y}{c B:Nat}{vT vS:V9}{U:Nat->Value}{D:Ds}(h:AQ ty w c B vT vS U D){v':V9}{t':Pl}(o:t'.n=0)
  (l:w'.os=w.os/\w'.tape=w.tape/\w'.output=w.output/\w.heap.size<=w'.heap.size)
  (hk:∀k,k<w.heap.size->k≠c->vT.ownBlock≠some k->w'.heap[k]?=w.heap[k]?) (hc:w'.heap[c]?=some (.cells #[v',vS] ty (0,0)))
  (p:aU w' B v' (D.nt+1) (AM U D.nt (N9)) (AM D.T D.nt t')) (hu:∀g,v'.ownBlock=some g->vT.ownBlock=some g\/w.heap.size<=g):
  AQ ty w' c B v' vS (AM U D.nt (N9)) {D with nt:=D.nt+1,T:=AM D.T D.nt t'}/\BG (Bs c vT vS U D.nt) w (Bs c v' vS (AM U D.nt (N9)) (D.nt+1)) w':=by
 have new:∀g,v'.ownBlock=some g->g<w.heap.size->vT.ownBlock=some g:=fun g e hg=>by
  rcases hu g e with e|e
  ·exact e
  ·omega
 have f:∀i g,i<D.nt+1->(AM U D.nt (N9) i).ownBlock=some g->i<D.nt/\(U i).ownBlock=some g:=fun i g hi e=>by
  by_cases e1:i=D.nt
  ·subst e1;rw[Ah]at e;cases e
  ·rw[Ag _ _ e1]at e;exact⟨by omega,e⟩
 refine⟨⟨h.base,hc,p,fun j hj=>?_,Ai h.st fun g e=>hk g (h.st.lt g e).2 (fun e2=>h.sc (e2▸e)) (fun e2=>h.ts g e2 e),fun e=>h.tc (new c e h.lt),h.sc,fun j hj e=>?_,fun g e e2=>h.ts g (new g e (h.st.lt g e2).2) e2,fun g j e hj e2=>?_,fun g j e hj e2=>?_,fun g j q hj hq Cy e e2=>?_⟩,⟨l.1,l.2.1,l.2.2.1,l.2.2.2,fun k m hn=>hk k m (fun e=>hn (.inl e)) (fun e=>hn (.inr (.inl e))),fun k r=>?_⟩⟩
 ·have hj:j<D.nt+1:=hj;show Ci w' B (AM U D.nt (N9) j) (AM D.T D.nt t' j).n (AM D.T D.nt t' j).P;by_cases e:j=D.nt
  ·subst e;rw[Ah,Ah,o];exact⟨rfl,.inl ⟨rfl,rfl⟩⟩
  ·rw[Ag _ _ e,Ag _ _ e];have d:j<D.nt:=by omega
   exact Ai (h.pr j d) fun g e2=>hk g ((h.pr j d).lt g e2).2 (fun e3=>h.uc j d (e3▸e2)) (fun e3=>h.tu g j e3 d e2)
 ·obtain⟨a,b⟩:=f j c hj e;exact h.uc j a b
 ·obtain⟨a,b⟩:=f j g hj e2;exact h.tu g j (new g e ((h.pr j a).lt g b).2) a b
 ·obtain⟨a,b⟩:=f j g hj e2;exact h.su g j e a b
 ·obtain⟨a,b⟩:=f j g hj e;obtain⟨a2,b2⟩:=f q g hq e2;exact h.uu g j q a a2 Cy b b2
 ·rcases r with e|e|e|⟨j,hj,e⟩
  ·exact .inl (.inl e)
  ·rcases hu k e with e|e
   ·exact .inl (.inr (.inl e))
   ·exact .inr e
  ·exact .inl (.inr (.inr (.inl e)))
  ·obtain⟨a,b⟩:=f j k hj e;exact .inl (.inr (.inr (.inr ⟨j,a,b⟩)))
theorem AQ.XK{ty:TypeId}{w w':Y}{c B:Nat}{vT vS:V9}{U:Nat->Value}{D:Ds}(h:AQ ty w c B vT vS U D){v':V9}{S':Nat->ByteArray}
  (a:w'.os=w.os/\w'.tape=w.tape/\w'.output=w.output/\w.heap.size<=w'.heap.size)
  (hk:∀k,k<w.heap.size->k≠c->vS.ownBlock≠some k->w'.heap[k]?=w.heap[k]?) (hc:w'.heap[c]?=some (.cells #[vT,v'] ty (0,0)))
  (d:dV w' B v' (D.ns+1) S') (hu:∀g,v'.ownBlock=some g->vS.ownBlock=some g\/w.heap.size<=g):
  AQ ty w' c B vT v' U {D with ns:=D.ns+1,S:=S'}/\BG (Bs c vT vS U D.nt) w (Bs c vT v' U D.nt) w':=by
 have new:∀g,v'.ownBlock=some g->g<w.heap.size->vS.ownBlock=some g:=fun g e hg=>by
  rcases hu g e with e|e
  ·exact e
  ·omega
 refine⟨⟨h.base,hc,Ai h.tb fun g e=>hk g (h.tb.lt g e).2 (fun e2=>h.tc (e2▸e)) (h.ts g e),fun j hj=>Ai (h.pr j hj) fun g e=>hk g ((h.pr j hj).lt g e).2 (fun e3=>h.uc j hj (e3▸e)) (fun e3=>h.su g j e3 hj e),d,h.tc,fun e=>h.sc (new c e h.lt),h.uc,fun g e e2=>h.ts g e (new g e2 (h.tb.lt g e).2),h.tu,fun g j e hj e2=>h.su g j (new g e ((h.pr j hj).lt g e2).2) hj e2,h.uu⟩,⟨a.1,a.2.1,a.2.2.1,a.2.2.2,fun k b hn=>hk k b (fun e=>hn (.inl e)) (fun e=>hn (.inr (.inr (.inl e)))),fun k f=>?_⟩⟩;rcases f with e|e|e|⟨j,hj,e⟩
 ·exact .inl (.inl e)
 ·exact .inl (.inr (.inl e))
 ·rcases hu k e with e|e
  ·exact .inl (.inr (.inr (.inl e)))
  ·exact .inr e
 ·exact .inl (.inr (.inr (.inr ⟨j,hj,e⟩)))
theorem AQ.look{ty:TypeId}{w:Y}{c B:Nat}{vT vS:V9}{U:Nat->Value}{D:Ds}(h:AQ ty w c B vT vS U D){i:Nat}(hi:i<D.nt):
  ∃g b a ac,vT=.slice (some (G g 0)) D.nt b/\g<w.heap.size/\U i=.slice a (D.T i).n ac/\w.cell? (G g (i*2))=some (.slice a (D.T i).n ac)/\w.cell? (G g (i*2+1))=some (J (D.T i).turns)/\O0 w a (D.T i).n (D.T i).P:=by
 obtain⟨g,b,d,hb,hg⟩:=h.tb.form (by omega);obtain⟨a,ac,hu,e⟩:=(h.pr i hi).at;refine⟨g,b,a,ac,d,hg,hu,?_,?_,e⟩
 ·rw[I9 (d▸h.tb) (i*2) (by omega)];have:=KB (U:=U) (T:=D.T) hi (j:=0) (by omega);rw[Nat.add_zero]at this;rw[this,hu];rfl
 ·rw[I9 (d▸h.tb) (i*2+1) (by omega),KB hi (by omega)];rfl
theorem AQ.cells{ty:TypeId}{w:Y}{c B:Nat}{vT vS:V9}{U:Nat->Value}{D:Ds}(h:AQ ty w c B vT vS U D):w.cell? (G c 0)=some vT/\w.cell? (G c 1)=some vS:=by
 constructor
 ·rw[NB w c 0 _ _ _ h.BR];rfl
 ·rw[NB w c 1 _ _ _ h.BR];rfl
theorem EI{α:Type}(f:Nat->α)(i:Nat)(a b:α):AM (AM f i a) i b=AM f i b:=by
 funext j
 by_cases e:j=i
 ·subst e;rw[Ah,Ah]
 ·rw[Ag _ _ e,Ag _ _ e,Ag _ _ e]
theorem PS{α:Type}(f:Nat->α)(i:Nat):AM f i (f i)=f:=by
 funext j
 by_cases e:j=i
 ·subst e;rw[Ah]
 ·rw[Ag _ _ e]
theorem Zw(f:Nat->Pr)(n i j:Nat)(u:V9)(p:Pr)(hi:i<n)(hj:j<11)(a:Eb p=(Eb (f i)).set j u):(pL f n).set (i*11+j) u=pL (AM f i p) n:=by
 apply List.ext_getElem?;intro q;rw[List.getElem?_set];by_cases hq:q<n*11
 ·have e1:q=q/11*11+q%11:=by omega
  have h1:q/11<n:=by omega
  have h2:q%11<11:=Aae _ (by omega);have g1:(pL f n)[q]?=(Eb (f (q/11)))[q%11]?:=by have:=Kq (f:=f) h1 h2;rwa [<-e1]at this
  have g2:(pL (AM f i p) n)[q]?=(Eb (AM f i p (q/11)))[q%11]?:=by have:=Kq (f:=AM f i p) h1 h2;rwa [<-e1]at this
  rw[g1,g2];by_cases e:q/11=i
  ·rw[e,Ah,a,List.getElem?_set];by_cases e2:i*11+j=q
   ·rw[C3 e2,C3 (by rw[DZ];omega),C3 (by omega),C3 (by simp[Eb];omega)]
   ·rw[Cs e2,Cs (by omega)]
  ·rw[Ag _ _ e,Cs (by omega)]
 ·rw[Cs (by omega),SO (by rw[DZ];omega),SO (by rw[DZ];omega)]
theorem Ci.QY{w:Y}{B g n a:Nat}{f:Nat->Pr}(h:Ci w B (S9 g n a) n f){i:Nat}(hi:i<n)(j:Nat)(hj:j<11)(u:V9)(p:Pr)(b:Eb p=(Eb (f i)).set j u):Ci (w.setCell (G g (i*11+j)) u) B (S9 g n a) n (AM f i p):=by
 have h1:=(Wx h (i*11+j) u).1;rw[Zw f n i j u p hi hj b]at h1;exact h1
abbrev Hx(w:Y)(g o:Nat)(v:Vl):World:=((((w.setCell (G g o) (J v.kind)).setCell (G g (o+1)) (J v.num)).setCell (G g (o+2)) (F9 v.Ae)).setCell (G g (o+3)) (.string v.str)).setCell (G g (o+4)) (J v.ref)
theorem Ci.EE{w:Y}{B g n a:Nat}{f:Nat->Pr}(h:Ci w B (S9 g n a) n f){i:Nat}(hi:i<n)(v:Vl):Ci (Hx w g (i*11+5) v) B (S9 g n a) n (AM f i ⟨(f i).key,v,(f i).turn⟩):=by
 have h1:=h.QY hi 5 (by omega) (J v.kind) ⟨(f i).key,⟨v.kind,(f i).val.num,(f i).val.Ae,(f i).val.str,(f i).val.ref⟩,(f i).turn⟩ rfl;have h2:=h1.QY hi 6 (by omega) (J v.num) ⟨(f i).key,⟨v.kind,v.num,(f i).val.Ae,(f i).val.str,(f i).val.ref⟩,(f i).turn⟩ (by rw[Ah];rfl);have h3:=h2.QY hi 7 (by omega) (F9 v.Ae) ⟨(f i).key,⟨v.kind,v.num,v.Ae,(f i).val.str,(f i).val.ref⟩,(f i).turn⟩ (by rw[Ah];rfl);have h4:=h3.QY hi 8 (by omega) (.string v.str) ⟨(f i).key,⟨v.kind,v.num,v.Ae,v.str,(f i).val.ref⟩,(f i).turn⟩ (by rw[Ah];rfl);have h5:=h4.QY hi 9 (by omega) (J v.ref) ⟨(f i).key,⟨v.kind,v.num,v.Ae,v.str,v.ref⟩,(f i).turn⟩ (by rw[Ah];rfl);rw[EI,EI,EI,EI]at h5;exact h5
theorem M5(w:Y)(g o:Nat)(v:Vl){k:Nat}(hk:k≠g):(Hx w g o v).heap[k]?=w.heap[k]?:=by
 unfold Hx;iterate 5 rw[At _ _ _ _ (by exact hk)]
theorem ZH(w:Y)(g o:Nat)(v:Vl):(Hx w g o v).os=w.os/\(Hx w g o v).tape=w.tape/\(Hx w g o v).output=w.output/\(Hx w g o v).heap.size=w.heap.size:=by
 have hb:Below 0 w (Hx w g o v):=by
  unfold Hx;iterate 5 (refine W0 ?_ (P9 _) _)
  exact DD _ _
 exact⟨hb.os,hb.tape,hb.output,by simp[Hx]⟩
theorem AQ.EE{ty:TypeId}{w:Y}{c B:Nat}{vT vS:V9}{U:Nat->Value}{D:Ds}(h:AQ ty w c B vT vS U D){i:Nat}(hi:i<D.nt){g d:Nat}(hu:U i=S9 g (D.T i).n d){j:Nat}(hj:j<(D.T i).n)(v:Vl):
  AQ ty (Hx w g (j*11+5) v) c B vT vS U {D with T:=AM D.T i ((D.T i).EE j v)}/\BG (Bs c vT vS U D.nt) w (Bs c vT vS U D.nt) (Hx w g (j*11+5) v):=by
 have b:=h.pr i hi;rw[hu]at b;have a:=ZH w g (j*11+5) v;have hg:(U i).ownBlock=some g:=by rw[hu];rfl
 have h1:=h.table (w':=Hx w g (j*11+5) v) hi (u':=U i) (t':=(D.T i).EE j v) ⟨a.1,a.2.1,a.2.2.1,Nat.le_of_eq a.2.2.2.symm⟩ (fun k _ _ hk=>M5 _ _ _ _ (fun e=>hk (by rw[hg,e])))
  (by
    rw[PS];have e:tL U (AM D.T i ((D.T i).EE j v)) D.nt=tL U D.T D.nt:=JY fun q hq=>⟨rfl,by
      by_cases e:q=i
      ·subst e;rw[Ah];rfl
      ·rw[Ag _ _ e]⟩
    show World.ownsRow _ _ _ _ _ _ (tL U (AM D.T i ((D.T i).EE j v)) D.nt);rw[e];exact Ai h.tb fun q e2=>M5 _ _ _ _ (fun e3=>h.tu q i e2 hi (by rw[hg,e3])))
  (by rw[hu];exact b.EE hj v) (fun q e=>.inl e)
 rw[PS]at h1;exact h1
theorem cW(f:Nat->Pr)(n:Nat)(p:Pr):pL f n++Eb p=pL (AM f n p) (n+1):=by
 have h:∀m,m<=n->pL (AM f n p) m=pL f m:=fun m=>by
  induction m with
  |zero=>intro _;rfl
  |succ m ih=>
   intro a;show pL (AM f n p) m++Eb (AM f n p m)=pL f m++Eb (f m);rw[ih (by omega),Ag _ _ (by omega)]
 show _=pL (AM f n p) n++Eb (AM f n p n);rw[h n (A0 _),Ah]
theorem FE(w:Y)(a:Addr)(v:V9):(w.setCell a v).os=w.os/\(w.setCell a v).tape=w.tape/\(w.setCell a v).output=w.output/\(w.setCell a v).heap.size=w.heap.size:=by
 have hb:Below 0 w (w.setCell a v):=(DD _ _).setCell (P9 _) _;exact⟨hb.os,hb.tape,hb.output,by simp⟩
theorem AQ.iR{ty:TypeId}{w X w3:Y}{c B g f:Nat}{vS u':V9}{U:Nat->Value}{D:Ds}(h:AQ ty w c B (.slice (some (G g 0)) D.nt f) vS U D){i:Nat}(hi:i<D.nt){k v:Vl}
  (j:Below w.heap.size (w.setCell (G g (i*2+1)) (J ((D.T i).turns+1))) X) (a:X.grownBy w3 (U i).ownBlock)
  (b:w3.ownsRow B 96 11 u' ((D.T i).n+1) (pL (D.T i).P (D.T i).n++Eb ⟨k,v,(D.T i).turns+1⟩)) (d:∀q,u'.ownBlock=some q->(U i).ownBlock=some q\/w.heap.size<=q):
  AQ ty (w3.setCell (G g (i*2)) u') c B (.slice (some (G g 0)) D.nt f) vS (AM U i u') {D with T:=AM D.T i ((D.T i).add k v)}/\BG (Bs c (.slice (some (G g 0)) D.nt f) vS U D.nt) w (Bs c (.slice (some (G g 0)) D.nt f) vS (AM U i u') D.nt) (w3.setCell (G g (i*2)) u'):=by
 have m:g<w.heap.size:=(h.tb.lt g rfl).2;have l:(U i).ownBlock≠some g:=h.tu g i rfl hi;have s1:=FE w (G g (i*2+1)) (J ((D.T i).turns+1));have s2:=FE w3 (G g (i*2)) u';have r:w.heap.size<=X.heap.size:=by have:=j.size;omega
 have t1:(w.setCell (G g (i*2+1)) (J ((D.T i).turns+1))).ownsRow B 88 2 (.slice (some (G g 0)) D.nt f) D.nt (tL U (AM D.T i ((D.T i).add k v)) D.nt):=by
  have:=(Wx h.tb (i*2+1) (J ((D.T i).add k v).turns)).1;rw[ZR hi]at this;exact this
 have t2:X.ownsRow B 88 2 (.slice (some (G g 0)) D.nt f) D.nt (tL U (AM D.T i ((D.T i).add k v)) D.nt):=Ai t1 fun q e=>by cases e;exact j.block g m
 have t3:=t2.kept a (.inr (fun e=>l e.symm));have t4:=(Wx t3 (i*2) u').1;rw[T8 hi]at t4;have o:∀q,u'.ownBlock=some q->q≠g:=fun q e e2=>by
  rcases d q e with e3|e3
  ·exact l (e2▸e3)
  ·omega
 rw[cW]at b;have p:∀q,q<w.heap.size->(U i).ownBlock≠some q->q≠g->w3.heap[q]?=w.heap[q]?:=fun q hq h1 h2=>((a.block q (by omega) (fun e=>h1 e.symm)).trans (j.block q hq)).trans (At _ _ _ _ (by exact h2))
 refine h.table (w':=w3.setCell (G g (i*2)) u') hi (u':=u') (t':=(D.T i).add k v) ⟨?_,?_,?_,?_⟩ (fun q hq h1 h2=>?_) t4 (Ai b fun q e=>At _ _ _ _ (by exact o q e)) d
 ·exact s2.1.trans (a.os.trans (j.os.trans s1.1))
 ·exact s2.2.1.trans (a.tape.trans (j.tape.trans s1.2.1))
 ·exact s2.2.2.1.trans (a.output.trans (j.output.trans s1.2.2.1))
 ·rw[s2.2.2.2];have:=a.size;omega
 ·have Cy:q≠g:=fun e=>h1 (by rw[e];rfl)
  exact(At _ _ _ _ (by exact Cy)).trans (p q hq h2 Cy)
theorem AQ.swap{ty:TypeId}{w X:Y}{c B g b:Nat}{vS u':V9}{U:Nat->Value}{D:Ds}(h:AQ ty w c B (.slice (some (G g 0)) D.nt b) vS U D){i:Nat}(hi:i<D.nt){t':Pl}(m:t'.turns=(D.T i).turns)
  (j:X.os=w.os/\X.tape=w.tape/\X.output=w.output/\w.heap.size<=X.heap.size) (hk:∀q,q<w.heap.size->(U i).ownBlock≠some q->X.heap[q]?=w.heap[q]?)
  (d:Ci X B u' t'.n t'.P) (a:∀q,u'.ownBlock=some q->(U i).ownBlock=some q\/w.heap.size<=q):
  AQ ty (X.setCell (G g (i*2)) u') c B (.slice (some (G g 0)) D.nt b) vS (AM U i u') {D with T:=AM D.T i t'}/\BG (Bs c (.slice (some (G g 0)) D.nt b) vS U D.nt) w (Bs c (.slice (some (G g 0)) D.nt b) vS (AM U i u') D.nt) (X.setCell (G g (i*2)) u'):=by
 have k:g<w.heap.size:=(h.tb.lt g rfl).2;have f:(U i).ownBlock≠some g:=h.tu g i rfl hi;have s2:=FE X (G g (i*2)) u';have t1:tL U D.T D.nt=tL U (AM D.T i t') D.nt:=JY fun q hq=>⟨rfl,by
  by_cases e:q=i
  ·subst e;rw[Ah,m]
  ·rw[Ag _ _ e]⟩
 have t2:X.ownsRow B 88 2 (.slice (some (G g 0)) D.nt b) D.nt (tL U D.T D.nt):=Ai h.tb fun q e=>by cases e;exact hk g k f
 have t4:=(Wx t2 (i*2) u').1;rw[t1,T8 hi]at t4;have l:∀q,u'.ownBlock=some q->q≠g:=fun q e e2=>by
  rcases a q e with e3|e3
  ·exact f (e2▸e3)
  ·omega
 refine h.table (w':=X.setCell (G g (i*2)) u') hi (u':=u') (t':=t') ⟨s2.1.trans j.1,s2.2.1.trans j.2.1,s2.2.2.1.trans j.2.2.1,by rw[s2.2.2.2];exact j.2.2.2⟩ (fun q hq h1 h2=>?_) t4 (Ai d fun q e=>At _ _ _ _ (by exact l q e)) a;have Cy:q≠g:=fun e=>h1 (by rw[e];rfl)
 exact(At _ _ _ _ (by exact Cy)).trans (hk q hq h2)
theorem OC{w:Y}{B B':Nat}{e:TypeId}{size:Nat}{v:V9}{n:Nat}{xs:List Value}(h:w.ownsRow B e size v n xs)(hb:B'<=B):w.ownsRow B' e size v n xs:=by
 refine⟨h.1,?_⟩;rcases h.2 with hn|⟨g,cap,cur,b,a,rest⟩
 ·exact .inl hn
 ·exact .inr ⟨g,cap,cur,b,FZ hb a,rest⟩
def FP(j q:Nat):Nat:=if q<=j then q else q-1
theorem bL(t:Pl){j q:Nat}(h:q≠j):(t.del j).P (FP j q)=t.P q:=by
 show(if FP j q<j then t.P (FP j q)else t.P (FP j q+1))=t.P q;unfold FP;by_cases h1:q<=j
 ·rw[C3 h1,C3 (by omega)]
 ·rw[Cs h1,Cs (by omega),show q-1+1=q by omega]
theorem Um{j q:Nat}(h:q≠j):FP j (q+1)=FP j q+1:=by
 unfold FP;by_cases h1:q+1<=j
 ·rw[C3 h1,C3 (by omega)]
 ·rw[Cs h1,Cs (by omega)];omega
theorem Ul(j:Nat):FP j (j+1)=FP j j:=by
 unfold FP;rw[Cs (by omega),C3 (A0 _)];omega
theorem YP(j q:Nat):FP j q<=q:=by
 unfold FP;split<;>omega
theorem Jw{B:Nat}{w w':Y}{row:Option Nat}(h:w.grownBy w' row)(a:∀q,row=some q->B<=q)(b:B<=w.heap.size):Below B w w':=
 ⟨h.os,h.tape,h.output,h.size,fun k hk=>h.block k (by omega) (fun e=>by have:=a k e.symm;omega)⟩
theorem K7(wr:Y)(o1:Obj)(cs:List Value)(t:TypeId):∀j u,cs[j]?=some u->((wr.alloc o1).alloc (.cells cs.toArray t)).cell? (((Y9 wr 0):Addr).add j)=some u:=by
 have hb:=BE (wr.alloc o1) (.cells cs.toArray t);have hz:(wr.alloc o1).heap.size=wr.heap.size+1:=by simp
 rw[hz]at hb;exact GP hb
def OW(w:Y)(b:Nat)(a:Ac):Prop:=w.heap[b]?=some (.cells (Bn a) 51 (0,0))
def FK(w:Y)(b:Nat):Prop:=w.heap[b]?=some (.cells Ns 45 (0,0))
theorem Aj{w:Y}{b:Nat}{o:Obj}(h:w.heap[b]?=some o):b<w.heap.size:=by
 rcases Nat.lt_or_ge b w.heap.size with h1|h1
 ·exact h1
 ·rw[Array.getElem?_eq_none h1]at h;cases h
theorem OW.lt{w:Y}{b:Nat}{a:Ac}(h:OW w b a):b<w.heap.size:=Aj h
theorem FK.lt{w:Y}{b:Nat}(h:FK w b):b<w.heap.size:=Aj h
theorem OW.below{w w':Y}{b B:Nat}{a:Ac}(h:OW w b a)(hb:Below B w w')(c:b<B):OW w' b a:=(hb.block b c).trans h
theorem FK.below{w w':Y}{b B:Nat}(h:FK w b)(hb:Below B w w')(a:b<B):FK w' b:=(hb.block b a).trans h
theorem FK.dst{Z O':Nat->Prop}{w w':Y}{b:Nat}(h:FK w b)(a:BG Z w O' w')(c:¬Z b):FK w' b:=(a.block b h.lt c).trans h
theorem OW.all{w:Y}{b:Nat}{a:Ac}(h:OW w b a):w.cell? (G b 0)=some (J a.op)/\w.cell? (G b 1)=some (J a.t)/\w.cell? (G b 2)=some (J a.site)/\w.cell? (G b 3)=some (J a.n)/\w.cell? (G b 4)=some (J a.k.kind)/\w.cell? (G b 5)=some (J a.k.num)/\w.cell? (G b 6)=some (F9 a.k.Ae)/\w.cell? (G b 7)=some (.string a.k.str)/\w.cell? (G b 8)=some (J a.k.ref)/\w.cell? (G b 9)=some (J a.v.kind)/\w.cell? (G b 10)=some (J a.v.num)/\w.cell? (G b 11)=some (F9 a.v.Ae)/\w.cell? (G b 12)=some (.string a.v.str)/\w.cell? (G b 13)=some (J a.v.ref):=by
 unfold OW at h;refine⟨?_,?_,?_,?_,?_,?_,?_,?_,?_,?_,?_,?_,?_,?_⟩;all_goals(rw[NB w b _ _ _ _ h];rfl)
theorem FK.all{w:Y}{b:Nat}(h:FK w b):w.cell? (G b 0)=some (J 0)/\w.cell? (G b 1)=some (J 0)/\w.cell? (G b 2)=some (J 0)/\w.cell? (G b 3)=some (J 0)/\w.cell? (G b 4)=some (F9 0)/\w.cell? (G b 5)=some (E9)/\w.cell? (G b 6)=some (J 0)/\w.cell? (G b 7)=some (J 0)/\w.cell? (G b 8)=some (J 0)/\w.cell? (G b 9)=some (F9 0)/\w.cell? (G b 10)=some (E9)/\w.cell? (G b 11)=some (J 0):=by
 unfold FK at h;refine⟨?_,?_,?_,?_,?_,?_,?_,?_,?_,?_,?_,?_⟩;all_goals(rw[NB w b _ _ _ _ h];rfl)
theorem FK.frozen{w:Y}{b:Nat}(h:FK w b)(j:Nat):w.frozen? (G b j)=false:=by
 unfold FK at h;simp[World.frozen?,h]
theorem boxes(w:Y)(a:Ac):∃W,W=(w.alloc (.cells (Bn a) 51)).alloc (.cells Ns 45)/\B9 w W/\OW W w.heap.size a/\FK W (w.heap.size+1)/\w.heap.size+1<W.heap.size:=by
 refine⟨_,rfl,(n9).alloc (by simp) _,?_,?_,by simp⟩
 ·refine((DD (w.alloc (.cells (Bn a) 51)).heap.size _).alloc (A0 _) _).block _ (by simp) |>.trans (BE w _)
 ·have h:=BE (w.alloc (.cells (Bn a) 51)) (.cells Ns 45);rw[show(w.alloc (.cells (Bn a) 51)).heap.size=w.heap.size+1 by simp]at h;exact h
abbrev JS(w:Y)(b:Nat)(x:An):World:=((((((((((((w.setCell (G b 0) (J x.code)).setCell (G b 1) (J x.num)).setCell (G b 2) (J x.key.kind)).setCell (G b 3) (J x.key.num)).setCell (G b 4) (F9 x.key.Ae)).setCell (G b 5) (.string x.key.str)).setCell (G b 6) (J x.key.ref)).setCell (G b 7) (J x.val.kind)).setCell (G b 8) (J x.val.num)).setCell (G b 9) (F9 x.val.Ae)).setCell (G b 10) (.string x.val.str)).setCell (G b 11) (J x.val.ref))
theorem CR(w:Y)(b:Nat)(x:An){k:Nat}(hk:k≠b):(JS w b x).heap[k]?=w.heap[k]?:=by
 unfold JS;iterate 12 rw[At _ _ _ _ (by exact hk)]
theorem XV(w:Y)(b:Nat)(x:An):(JS w b x).os=w.os/\(JS w b x).tape=w.tape/\(JS w b x).output=w.output/\(JS w b x).heap.size=w.heap.size:=by
 unfold JS;refine⟨?_,?_,?_,?_⟩
 ·iterate 12 rw[(FE _ _ _).1]
 ·iterate 12 rw[(FE _ _ _).2.1]
 ·iterate 12 rw[(FE _ _ _).2.2.1]
 ·iterate 12 rw[(FE _ _ _).2.2.2]
theorem Gf{ty:TypeId}{w W w1:Y}{c B rb:Nat}{vT vS a b:V9}{U U':Nat->Value}{D f:Ds}{n':Nat}(hn:n'=f.nt)(x:An)(hb:B9 w W)(i:∀k,Bs c vT vS U D.nt k->k<w.heap.size)(l:w.heap.size<=rb)(j:rb<W.heap.size)(h:AQ ty w1 c B a b U' f)(d:BG (Bs c vT vS U D.nt) W (Bs c a b U' n') w1):
  AQ ty (JS w1 rb x) c B a b U' f/\BG (Bs c vT vS U D.nt) w (Bs c a b U' f.nt) (JS w1 rb x):=by
 subst hn;have hs:=XV w1 rb x;have g:∀k,Bs c a b U' f.nt k->k≠rb:=fun k hk e=>by
  rcases d.own k hk with h1|h1
  ·have:=i k h1;omega
  ·omega
 refine⟨h.keep fun k hk=>CR _ _ _ (g k hk),⟨?_,?_,?_,?_,fun k hk hn=>?_,fun k hk=>?_⟩⟩
 ·rw[hs.1,d.os,hb.os]
 ·rw[hs.2.1,d.tape,hb.tape]
 ·rw[hs.2.2.1,d.output,hb.output]
 ·rw[hs.2.2.2];exact FZ hb.size d.size
 ·rw[CR _ _ _ (by omega),d.block k (Be hk hb.size) hn,hb.block k hk]
 ·rcases d.own k hk with h1|h1
  ·exact .inl h1
  ·exact .inr (FZ hb.size h1)
theorem Ao{w:Y}{B:Nat}{e:TypeId}{size:Nat}{v:V9}{n:Nat}{xs:List Value}(h:w.ownsRow B e size v n xs):∃a b,v=.slice a n b:=by
 rcases h.2 with hn|⟨g,cap,cur,c,hb,hg,rest⟩
 ·obtain⟨h1,h2⟩:=hn;subst h1 h2;exact⟨_,_,rfl⟩
 ·exact⟨_,_,c⟩
theorem E5{w:Y}{c j:Nat}{cs:Array Value}{ty:TypeId}(h:w.heap[c]?=some (.cells cs ty (0,0)))(u:V9):(w.setCell (G c j) u).heap[c]?=some (.cells (cs.setIfInBounds j u) ty (0,0)):=by
 simp[World.setCell,Array.getElem?_modify,h]
abbrev jV:Value:=.agg #[N9,J 0]
theorem UR:(prog.info? 88).map (fun i=>(i.zero,i.size,i.bytes))=some (some jV,2,32):=by kernel_rfl
theorem Xc:(prog.info? 9).map (fun i=>(i.zero,i.size,i.bytes))=some (some (E9),1,16):=by kernel_rfl
theorem TF:(prog.info? 45).map (fun i=>(i.zero,i.size,i.bytes))=some (some (.agg Ns),12,112):=by kernel_rfl
theorem AQ.fP{ty:TypeId}{w X w3:Y}{c B g3 a:Nat}{vT vS:V9}{U:Nat->Value}{D:Ds}(h:AQ ty w c B vT vS U D)(f:B9 w X)(b:X.grownBy w3 vT.ownBlock)
  (g:w3.ownsRow B 88 2 (.slice (some (G g3 0)) (D.nt+1) a) (D.nt+1) (tL U D.T D.nt++[N9,J 0])) (d:vT.ownBlock=some g3\/w.heap.size<=g3):
  w3.heap[c]?=some (.cells #[vT,vS] ty (0,0))/\AQ ty (w3.setCell (G c 0) (.slice (some (G g3 0)) (D.nt+1) a)) c B (.slice (some (G g3 0)) (D.nt+1) a) vS (AM U D.nt (N9)) {D with nt:=D.nt+1,T:=AM D.T D.nt ⟨0,fun _=>default,0⟩}/\BG (Bs c vT vS U D.nt) w (Bs c (.slice (some (G g3 0)) (D.nt+1) a) vS (AM U D.nt (N9)) (D.nt+1)) (w3.setCell (G c 0) (.slice (some (G g3 0)) (D.nt+1) a)):=by
 have hl:=h.lt;have s2:=FE w3 (G c 0) (.slice (some (G g3 0)) (D.nt+1) a);have m:=f.size;have n:=b.size;have j:∀q,q<w.heap.size->vT.ownBlock≠some q->w3.heap[q]?=w.heap[q]?:=fun q hq h1=>(b.block q (by omega) (fun e=>h1 e.symm)).trans (f.block q hq)
 have k:=(j c hl h.tc).trans h.BR;have l:g3≠c:=fun e=>by
  rcases d with h1|h1
  ·exact h.tc (e▸h1)
  ·omega
 refine⟨k,h.XL (t':=⟨0,fun _=>default,0⟩) rfl ⟨s2.1.trans (b.os.trans f.os),s2.2.1.trans (b.tape.trans f.tape),s2.2.2.1.trans (b.output.trans f.output),by rw[s2.2.2.2];omega⟩ (fun q hq h1 h2=>(At _ _ _ _ (by exact h1)).trans (j q hq h2)) (E5 k _) ?_ (fun q e=>?_)⟩
 ·refine Ai ?_ (fun q e=>At _ _ _ _ (by intro e2;have e2:q=c:=e2;cases e;exact l e2));have e:tL (AM U D.nt (N9)) (AM D.T D.nt ⟨0,fun _=>default,0⟩) (D.nt+1)=tL U D.T D.nt++[N9,J 0]:=by
   show tL _ _ D.nt++_=_;rw[Ah,Ah,JY (U':=U) (T':=D.T) fun i hi=>⟨Ag _ _ (by omega),by rw[Ag _ _ (by omega)]⟩]
  show w3.ownsRow _ _ _ _ _ _;rw[e];exact g
 ·cases e;exact d
theorem AQ.fO{ty:TypeId}{w X w3:Y}{c B g3 a:Nat}{vT vS:V9}{U:Nat->Value}{D:Ds}(s:ByteArray)(h:AQ ty w c B vT vS U D)(f:B9 w X)(b:X.grownBy w3 vS.ownBlock)
  (g:w3.ownsRow B 9 1 (.slice (some (G g3 0)) (D.ns+1) a) (D.ns+1) (sL D.S D.ns++[.string s])) (d:vS.ownBlock=some g3\/w.heap.size<=g3):
  w3.heap[c]?=some (.cells #[vT,vS] ty (0,0))/\AQ ty (w3.setCell (G c 1) (.slice (some (G g3 0)) (D.ns+1) a)) c B vT (.slice (some (G g3 0)) (D.ns+1) a) U {D with ns:=D.ns+1,S:=AM D.S D.ns s}/\BG (Bs c vT vS U D.nt) w (Bs c vT (.slice (some (G g3 0)) (D.ns+1) a) U D.nt) (w3.setCell (G c 1) (.slice (some (G g3 0)) (D.ns+1) a)):=by
 have hl:=h.lt;have s2:=FE w3 (G c 1) (.slice (some (G g3 0)) (D.ns+1) a);have m:=f.size;have n:=b.size;have j:∀q,q<w.heap.size->vS.ownBlock≠some q->w3.heap[q]?=w.heap[q]?:=fun q hq h1=>(b.block q (by omega) (fun e=>h1 e.symm)).trans (f.block q hq)
 have k:=(j c hl h.sc).trans h.BR;have l:g3≠c:=fun e=>by
  rcases d with h1|h1
  ·exact h.sc (e▸h1)
  ·omega
 refine⟨k,h.XK (S':=AM D.S D.ns s) ⟨s2.1.trans (b.os.trans f.os),s2.2.1.trans (b.tape.trans f.tape),s2.2.2.1.trans (b.output.trans f.output),by rw[s2.2.2.2];omega⟩ (fun q hq h1 h2=>(At _ _ _ _ (by exact h1)).trans (j q hq h2)) (E5 k _) ?_ (fun q e=>?_)⟩
 ·refine Ai ?_ (fun q e=>At _ _ _ _ (by intro e2;have e2:q=c:=e2;cases e;exact l e2));have e:sL (AM D.S D.ns s) (D.ns+1)=sL D.S D.ns++[.string s]:=by
   show sL _ D.ns++_=_;rw[Ah,QV (S':=D.S) fun i hi=>Ag _ _ (by omega)]
  show w3.ownsRow _ _ _ _ _ _;rw[e];exact g
 ·cases e;exact d
theorem AQ.site{ty:TypeId}{w:Y}{c B:Nat}{vT vS:V9}{U:Nat->Value}{D:Ds}(h:AQ ty w c B vT vS U D){i:Nat}(hi:i<D.ns):∃g a,vS=.slice (some (G g 0)) D.ns a/\g<w.heap.size/\w.cell? (G g i)=some (.string (D.S i)):=by
 obtain⟨g,a,b,hb,hg⟩:=h.st.form (by omega);exact⟨g,a,b,hg,by rw[I9 (b▸h.st) i (by omega),dA hi]⟩
theorem Ch(a:Ac)(w:Y):
  C9 33 #[IC a] w (R9 (.bool (AY a)) w):=by
 have s:B9 w (w.alloc (.cells #[J a.op,J a.t,J a.site,J a.n,J a.k.kind,J a.k.num,F9 a.k.Ae,.string a.k.str,J a.k.ref,J a.v.kind,J a.v.num,F9 a.v.Ae,.string a.v.str,J a.v.ref] 51)):=n9;have b:=O s;clear s;cases t0:decide (a.t<0)
 case true=>
  have c:Hid (AY a=false):=O (by unfold AY E8;rw[t0];simp)
  go_enter func33,ntmps33
  go_wp2;go_ret;exact⟨by rw[z c];rfl,b⟩
 cases t1:decide (100<=a.t)
 case true=>
  have c:Hid (AY a=false):=O (by unfold AY E8;rw[t0,t1];simp)
  go_enter func33,ntmps33
  go_wp2;go_ret;exact⟨by rw[z c];rfl,b⟩
 cases t2:decide (a.site<0)
 case true=>
  have c:Hid (AY a=false):=O (by unfold AY E8;rw[t0,t1,t2];simp)
  go_enter func33,ntmps33
  go_wp2;go_ret;exact⟨by rw[z c];rfl,b⟩
 cases t3:decide (50<=a.site)
 case true=>
  have c:Hid (AY a=false):=O (by unfold AY E8;rw[t0,t1,t2,t3];simp)
  go_enter func33,ntmps33
  go_wp2;go_ret;exact⟨by rw[z c];rfl,b⟩
 cases t4:decide (a.n<0)
 case true=>
  have c:Hid (AY a=false):=O (by unfold AY E8;rw[t0,t1,t2,t3,t4];simp)
  go_enter func33,ntmps33
  go_wp2;go_ret;exact⟨by rw[z c];rfl,b⟩
 cases t5:decide (1000000000000<a.n)
 case true=>
  have c:Hid (AY a=false):=O (by unfold AY E8;rw[t0,t1,t2,t3,t4,t5];simp)
  go_enter func33,ntmps33
  go_wp2;go_ret;exact⟨by rw[z c];rfl,b⟩
 cases t6:a.k.ok
 case false=>
  have c:Hid (AY a=false):=O (by unfold AY E8;rw[t0,t1,t2,t3,t4,t5,t6];simp)
  go_enter func33,ntmps33
  go_wp2_with fail
  refine((show AB a.k.kind a.k.num a.k.Ae a.k.str a.k.ref=_ from t6)▸BF a.k.kind a.k.num a.k.Ae a.k.str a.k.ref _).mono ?_;rintro e u ⟨rfl,hb⟩;obtain⟨x,A⟩:=AJ hb;have i:=hb.size;try simp at i
  have L:w.heap.size<u.heap.size:=by omega
  have b:=O (b.trans (hb.mono b.size));clear hb;go_wp2_with fail
  go_ret;exact⟨by rw[z c];rfl,b⟩
 cases t7:a.v.ok
 case false=>
  have c:Hid (AY a=false):=O (by unfold AY E8;rw[t0,t1,t2,t3,t4,t5,t6,t7];simp)
  go_enter func33,ntmps33
  go_wp2_with fail
  refine((show AB a.k.kind a.k.num a.k.Ae a.k.str a.k.ref=_ from t6)▸BF a.k.kind a.k.num a.k.Ae a.k.str a.k.ref _).mono ?_;rintro e u ⟨rfl,hb⟩;obtain⟨x,A⟩:=AJ hb;have i:=hb.size;try simp at i
  have L:w.heap.size<u.heap.size:=by omega
  have b:=O (b.trans (hb.mono b.size));clear hb;go_wp2_with fail
  refine((show AB a.v.kind a.v.num a.v.Ae a.v.str a.v.ref=_ from t7)▸BF a.v.kind a.v.num a.v.Ae a.v.str a.v.ref _).mono ?_;rintro e D ⟨rfl,hb⟩;obtain⟨E,F⟩:=AJ hb;have p:=hb.size;try simp at p
  have Q:w.heap.size<D.heap.size:=by omega
  have b:=O (b.trans (hb.mono b.size));clear hb;go_wp2_with fail
  go_ret;exact⟨by rw[z c];rfl,b⟩
 have M:E8 a=true:=by unfold E8;rw[t0,t1,t2,t3,t4,t5,t6,t7];rfl
 have l:=O M;clear M
 go_enter func33,ntmps33
 go_wp2_with fail
 refine((show AB a.k.kind a.k.num a.k.Ae a.k.str a.k.ref=_ from t6)▸BF a.k.kind a.k.num a.k.Ae a.k.str a.k.ref _).mono ?_;rintro e u ⟨rfl,hb⟩;obtain⟨x,A⟩:=AJ hb;have i:=hb.size;try simp at i
 have L:w.heap.size<u.heap.size:=by omega
 have b:=O (b.trans (hb.mono b.size));clear hb;go_wp2_with fail
 refine((show AB a.v.kind a.v.num a.v.Ae a.v.str a.v.ref=_ from t7)▸BF a.v.kind a.v.num a.v.Ae a.v.str a.v.ref _).mono ?_;rintro e D ⟨rfl,hb⟩;obtain⟨E,F⟩:=AJ hb;have p:=hb.size;try simp at p
 have Q:w.heap.size<D.heap.size:=by omega
 have b:=O (b.trans (hb.mono b.size));clear hb;have R:=O (AJ b);clear t0 t1 t2 t3 t4 t5 t6 t7;by_cases o1:a.op=1
 ·have c:Hid (AY a=(Av a false false false false false)):=O (by unfold AY;rw[z l];simp[o1]);have e1:(a.op==1)=true:=by simp[o1]
  clear o1;go_wp2_with fail
  refine m9 (eH a _) fun m hb=>?_
  go_wp2_with fail
  go_ret;exact⟨by rw[z c];rfl,b.trans (hb.mono b.size)⟩
 by_cases o2:a.op=2
 ·have c:Hid (AY a=(Av a true false false true true)):=O (by unfold AY;rw[z l];simp[o2]);have e1:(a.op==1)=false:=by simp[o1]
  have e2:(a.op==2)=true:=by simp[o2]
  clear o1 o2;go_wp2_with fail
  refine m9 (eJ a _) fun m hb=>?_
  go_wp2_with fail
  go_ret;exact⟨by rw[z c];rfl,b.trans (hb.mono b.size)⟩
 by_cases d:a.op=3
 ·have c:Hid (AY a=(Av a true false false true false)):=O (by unfold AY;rw[z l];simp[d]);have e1:(a.op==1)=false:=by simp[o1]
  have e2:(a.op==2)=false:=by simp[o2]
  have e3:(a.op==3)=true:=by simp[d]
  clear o1 o2 d;go_wp2_with fail
  refine m9 (eK a _) fun m hb=>?_
  go_wp2_with fail
  go_ret;exact⟨by rw[z c];rfl,b.trans (hb.mono b.size)⟩
 by_cases f:a.op=4
 ·have c:Hid (AY a=(Av a true false true false false)):=O (by unfold AY;rw[z l];simp[f]);have e1:(a.op==1)=false:=by simp[o1]
  have e2:(a.op==2)=false:=by simp[o2]
  have e3:(a.op==3)=false:=by simp[d]
  have q:(a.op==4)=true:=by simp[f]
  clear o1 o2 d f;go_wp2_with fail
  refine m9 (eL a _) fun m hb=>?_
  go_wp2_with fail
  go_ret;exact⟨by rw[z c];rfl,b.trans (hb.mono b.size)⟩
 by_cases g:a.op=5
 ·have c:Hid (AY a=(Av a true false false false false)):=O (by unfold AY;rw[z l];simp[g]);have e1:(a.op==1)=false:=by simp[o1]
  have e2:(a.op==2)=false:=by simp[o2]
  have e3:(a.op==3)=false:=by simp[d]
  have q:(a.op==4)=false:=by simp[f]
  have B:(a.op==5)=true:=by simp[g]
  clear o1 o2 d f g;go_wp2_with fail
  refine m9 (aD a _) fun m hb=>?_
  go_wp2_with fail
  go_ret;exact⟨by rw[z c];rfl,b.trans (hb.mono b.size)⟩
 by_cases h:a.op=6
 ·have c:Hid (AY a=(Av a true false false false false)):=O (by unfold AY;rw[z l];simp[h]);have e1:(a.op==1)=false:=by simp[o1]
  have e2:(a.op==2)=false:=by simp[o2]
  have e3:(a.op==3)=false:=by simp[d]
  have q:(a.op==4)=false:=by simp[f]
  have B:(a.op==5)=false:=by simp[g]
  have C:(a.op==6)=true:=by simp[h]
  clear o1 o2 d f g h;go_wp2_with fail
  refine m9 (aD a _) fun m hb=>?_
  go_wp2_with fail
  go_ret;exact⟨by rw[z c];rfl,b.trans (hb.mono b.size)⟩
 by_cases j:a.op=7
 ·have c:Hid (AY a=(Av a false false false true false&&a.k.kind==4)):=O (by unfold AY;rw[z l];simp[j]);have e1:(a.op==1)=false:=by simp[o1]
  have e2:(a.op==2)=false:=by simp[o2]
  have e3:(a.op==3)=false:=by simp[d]
  have q:(a.op==4)=false:=by simp[f]
  have B:(a.op==5)=false:=by simp[g]
  have C:(a.op==6)=false:=by simp[h]
  have H:(a.op==7)=true:=by simp[j]
  clear o1 o2 d f g h j;cases tb:Av a false false false true false
  case false=>
   go_wp2_with fail
   refine(tb▸aE a _).mono ?_;rintro e m ⟨rfl,hb⟩;obtain⟨I,K⟩:=AJ hb;have b:=O (b.trans (hb.mono b.size));clear hb;go_wp2_with fail
   go_ret;exact⟨by rw[z c,tb];rfl,b⟩
  case true=>
   go_wp2_with fail
   refine(tb▸aE a _).mono ?_;rintro e m ⟨rfl,hb⟩;obtain⟨I,K⟩:=AJ hb;have b:=O (b.trans (hb.mono b.size));clear hb;go_wp2_with fail
   go_ret;exact⟨by rw[z c,tb];rfl,b⟩
 by_cases o:a.op=8
 ·have c:Hid (AY a=(Av a true true false false false)):=O (by unfold AY;rw[z l];simp[o]);have e1:(a.op==1)=false:=by simp[o1]
  have e2:(a.op==2)=false:=by simp[o2]
  have e3:(a.op==3)=false:=by simp[d]
  have q:(a.op==4)=false:=by simp[f]
  have B:(a.op==5)=false:=by simp[g]
  have C:(a.op==6)=false:=by simp[h]
  have H:(a.op==7)=false:=by simp[j]
  have P:(a.op==8)=true:=by simp[o]
  clear o1 o2 d f g h j o;go_wp2_with fail
  refine m9 (eM a _) fun m hb=>?_
  go_wp2_with fail
  go_ret;exact⟨by rw[z c];rfl,b.trans (hb.mono b.size)⟩
 by_cases r:a.op=9
 ·have c:Hid (AY a=(Av a true true false false true)):=O (by unfold AY;rw[z l];simp[r]);have e1:(a.op==1)=false:=by simp[o1]
  have e2:(a.op==2)=false:=by simp[o2]
  have e3:(a.op==3)=false:=by simp[d]
  have q:(a.op==4)=false:=by simp[f]
  have B:(a.op==5)=false:=by simp[g]
  have C:(a.op==6)=false:=by simp[h]
  have H:(a.op==7)=false:=by simp[j]
  have P:(a.op==8)=false:=by simp[o]
  have S:(a.op==9)=true:=by simp[r]
  clear o1 o2 d f g h j o r;go_wp2_with fail
  refine m9 (bare9 a _) fun m hb=>?_
  go_wp2_with fail
  go_ret;exact⟨by rw[z c];rfl,b.trans (hb.mono b.size)⟩
 have e1:(a.op==1)=false:=by simp[o1]
 have e2:(a.op==2)=false:=by simp[o2]
 have e3:(a.op==3)=false:=by simp[d]
 have q:(a.op==4)=false:=by simp[f]
 have B:(a.op==5)=false:=by simp[g]
 have C:(a.op==6)=false:=by simp[h]
 have H:(a.op==7)=false:=by simp[j]
 have P:(a.op==8)=false:=by simp[o]
 have S:(a.op==9)=false:=by simp[r]
 have c:Hid (AY a=false):=O (by unfold AY;simp[o1,o2,d,f,g,h,j,o,r]);clear o1 o2 d f g h j o r;go_wp2_with fail
 go_ret;exact⟨by rw[z c];rfl,b⟩
theorem Vv{P:Program}(w:Y)(cs:List Value)(t:TypeId)(i:Nat)(v u:V9)(a:v.oneCell'=true)(hi:cs[i]?=some u):(store (y w i) v).run P (w.alloc (.cells cs.toArray t))=.ok () (w.alloc (.cells (cs.set i v).toArray t)):=by
 have h:=run_store P (w.alloc (.cells cs.toArray t)) (y w i) v .plain a;rw[h];have h1:(w.alloc (.cells cs.toArray t)).cell? (y w i)=some u:=by simp[go_sem,hi]
 have h2:(w.alloc (.cells cs.toArray t)).frozen? (y w i)=false:=by simp[go_sem]
 have h3:(w.alloc (.cells cs.toArray t)).setCell (y w i) v=w.alloc (.cells (cs.set i v).toArray t):=by simp[go_sem]
 rw[h1,h2,h3];rfl
theorem Dm{P:Program}(w:Y)(t:TypeId):∀(vs pre old:List Value),vs.length=old.length->(∀v∈vs,v.oneCell'=true)->
  (storeCells (y w 0) vs pre.length).run P (w.alloc (.cells (pre++old).toArray t))=.ok () (w.alloc (.cells (pre++vs).toArray t))
 |[],pre,[],_,_=>by simp[storeCells]
 |v::vs,pre,o::old,hl,a=>by
  have h:=Vv (P:=P) w (pre++o::old) t pre.length v o (a v (by simp)) (by simp);have h2:=Dm w t vs (pre++[v]) old (by simpa using hl) (fun x hx=>a x (by simp[hx])) (P:=P);have e1:(pre++o::old).set pre.length v=(pre++[v])++old:=by simp
  rw[e1]at h;have e2:((y w 0):Addr).add pre.length=(y w pre.length):=by
   cases pre<;>simp[Addr.add]
  unfold storeCells;rw[e2];simp only[To,Aad,UP,Aaa,List.append_assoc,Aal,So]at h h2 ⊢;simp[go_sem,h,h2]
def DP:Value:=.agg #[J 0,.nilFunc,J 0,.func (.func 141) #[] #[],J 25,.func (.func 142) #[] #[],J 9,.func (.func 143) #[] #[],J 5,.func (.func 144) #[] #[],J 1,.func (.func 145) #[] #[],J 1,.func (.func 146) #[] #[],J 8,.func (.func 147) #[] #[],J 3,.func (.func 148) #[] #[],J 19,.func (.func 149) #[] #[]]
theorem Q6(w:Y):(sizeOf 149).run prog w=.ok 20 w:=by kernel_rfl
theorem Ya(w:Y):(Instr.storeAt 149 (Q9 w.heap.size) DP).run prog (w.alloc (.cells #[J 0,.nilFunc,J 0,.nilFunc,J 0,.nilFunc,J 0,.nilFunc,J 0,.nilFunc,J 0,.nilFunc,J 0,.nilFunc,J 0,.nilFunc,J 0,.nilFunc,J 0,.nilFunc] 149))=.ok () (w.alloc (.cells DP.cells 149)):=by
 have h:=Dm (P:=prog) w 149 DP.cells.toList [] [J 0,.nilFunc,J 0,.nilFunc,J 0,.nilFunc,J 0,.nilFunc,J 0,.nilFunc,J 0,.nilFunc,J 0,.nilFunc,J 0,.nilFunc,J 0,.nilFunc,J 0,.nilFunc] rfl (by unfold DP;intro v b;simp[Value.cells]at b;rcases b with rfl|rfl|rfl|rfl|rfl|rfl|rfl|rfl|rfl|rfl|rfl|rfl|rfl|rfl|rfl|rfl|rfl|rfl|rfl|rfl<;>rfl);have hs:=Q6 (w.alloc (.cells #[J 0,.nilFunc,J 0,.nilFunc,J 0,.nilFunc,J 0,.nilFunc,J 0,.nilFunc,J 0,.nilFunc,J 0,.nilFunc,J 0,.nilFunc,J 0,.nilFunc,J 0,.nilFunc] 149));unfold Instr.storeAt storeVar;simp only[So,UP]at h;have hn:¬(DP.cells.size≠20):=by decide
 simp only[AaA];have a:∀w',(Instr.sureAddr (Q9 w.heap.size)).run prog w'=.ok (y w 0) w':=fun w'=>by simp[go_sem]
 simp[a,hn,h]
theorem Xo{P:Program}(w:Y)(cs:List Value)(t:TypeId)(i:Nat)(u:V9)(hi:cs[i]?=some u):(load (y w i)).run P (w.alloc (.cells cs.toArray t))=.ok u (w.alloc (.cells cs.toArray t)):=by
 simp[go_sem,hi]
theorem IQ{P:Program}(w:Y)(cs:List Value)(t:TypeId):∀(n i:Nat) (acc:Array Value),i+n=cs.length->
  (loadCellsFrom (y w 0) i n acc).run P (w.alloc (.cells cs.toArray t))=.ok (acc++(cs.drop i).toArray) (w.alloc (.cells cs.toArray t))
 |0,i,acc,h=>by
  have:cs.drop i=[]:=by simp;omega
  simp[loadCellsFrom,this]
 |n+1,i,acc,h=>by
  have hi:i<cs.length:=by omega
  have hl:=Xo (P:=P) w cs t i cs[i] (by simp[hi]);have h2:=IQ w cs t n (i+1) (acc.push cs[i]) (by omega) (P:=P);have e2:((y w 0):Addr).add i=(y w i):=by
   cases i<;>simp[Addr.add]
  have e3:acc++(cs.drop i).toArray=acc.push cs[i]++(cs.drop (i+1)).toArray:=by
   rw[List.drop_eq_getElem_cons hi];simp
  unfold loadCellsFrom;rw[e2,e3];simp only[AaA];rw[hl];simp[h2]
theorem Ak{P:Program}{ops:Array Oper}{Q:Exit->Act->World->Prop}{rest:List Oper}{o:Oper}{a:Act}{w:Y}{t:TypeId}{x Z:Operand}(b:o.guard=none)(c:o.op=.store t x Z)(w':Y)(d:(Instr.storeAt t (a.eval x) (a.eval Z)).run P w=.ok () w')(h:wpList P ops Q rest (a.put o.dst undef) w'):wpList P ops Q (o::rest) a w:=
 wpList_plain b fun K hK=>by
  have e:(execOp a.eval o).run P w=.ok .skip w':=by
   unfold execOp;rw[c];simp only[AaA];rw[d];rfl
  unfold Oper.wp;rw[e];exact hK _ _ h
theorem Ke(w:Y):
  C9 82 #[] w (R9 DP w):=by
 go_enter func82,ntmps82
 go_wp2_with (first|(refine Ak rfl rfl _ (Ya w) ?_)|go_in)
 have a:∀w',(isAgg 149).run prog w'=.ok true w':=fun w'=>by kernel_rfl
 have hs:=Q6;have b:(loadCells (y w 0) 20).run prog (w.alloc (.cells DP.cells 149))=.ok DP.cells (w.alloc (.cells DP.cells 149)):=by
  have h:=IQ (P:=prog) w DP.cells.toList 149 20 0 #[] (by decide);simpa[loadCells]using h
 refine DO (v:=DP) ?_ rfl ⟨rfl,n9⟩;have c:Value.agg DP.cells=DP:=rfl;simp[results,results82,Act.put,loadVar,a,hs,b,asAddr,c]
theorem cG(v:Vl)(hk:Db v=true)(w:Y):
  C9 265 #[V v.kind v.num v.Ae v.str v.ref] w (R9 (.bool true) w):=by
 obtain⟨_,a⟩:=(R8 v).resolve_right (fun⟨h,_⟩=>by rw[hk]at h;cases h);have b:=O a;have c:(O9 v.Ae v.Ae==some .eq)=true:=TL hk;clear hk a
 go_enter func265,ntmps265
 go_wp2_with (go_at_call 204;refine m9 (Hm v.kind v.num v.Ae v.str v.ref _) fun w1 hb=>?_;rw[z b];obtain⟨hc,hf⟩:=AJ hb;have hz:=hb.size;simp at hz;have d:w.heap.size<w1.heap.size:=by omega)
 go_ret;exact⟨by simp,((n9).trans (hb.mono (by simp))).alloc (by omega) _⟩
theorem D2.step{d:Dc}(h:D2 d){k:Nat}(hk:k<d.n){p:Prop}[Decidable p]{x:Option (Int×Int)}(hN:Dw d (k+1)=if p then x else none):p:=
 Decidable.byContradiction fun a=>by have:=cP hk (hN.trans (Cs a));rw[Bl h]at this;cases this
theorem Vc(la:T9)(lc:Nat)(ia:T9)(ic:Nat)(xa:T9)(xc:Nat)(d:Dc)(w:Y)(hD:Gy w la ia xa d)(T:Small d)(h2:D2 d):
  C9 243 #[Dv la lc ia ic xa xc d] w (R9 (.bool true) w):=by
 have hn:=T.n;have HD:=O hD;have H:=O h2;clear hD T h2
 go_enter func243,ntmps243
 go_wp2;go_loopw [3,4,11] (fun li l i wr=>∃(k:Nat) (live last:Int),k<=d.n/\i=J k/\l=J last/\li=J live/\Dw d k=some (live,last)/\0<=live/\live<=k/\w.heap.size<wr.heap.size/\wr.cell? (y w 4)=some (J d.live)/\wr.cell? (y w 5)=some (J d.turns)/\B9 w wr) (fun _ _ i _=>d.n-(intOf i).toNat)
 case atStart=>exact⟨0,0,0,by omega,rfl,rfl,rfl,rfl,by omega,by omega,by simp,by simp[go_sem],by simp[go_sem],n9⟩
 case round=>
  obtain⟨k,live,last,hk,rfl,rfl,rfl,j,ad,ae,h,c4,c5,hb⟩:=hrel;have m:=O j;clear j;by_cases o:k<d.n
  case neg=>
   have u:k=d.n:=by omega
   subst u;have s:=O hb;clear hb;have af:(live==d.live)=true:=by obtain⟨l,e⟩:=z H;rw[z m]at e;simp only[Option.some.injEq,Prod.mk.injEq]at e;simp[e.1]
   go_wp2;go_ret;exact⟨rfl,s⟩
  obtain⟨b,off,rfl,I,hcs⟩:=HD.log.resolve_left (by omega);obtain⟨e0,e1,e2,e3,U,V,X,e7,e8,Z,v⟩:=(hcs k o).keep (fun q=>hb.cell (p:=(G b q)) I);have s:=O hb;clear hcs hb;by_cases t:(d.L k).turn=0
  ·have x:=O (Jg m t);rw[t]at v;clear t;have hz:=H.step o x;have K:Hid (Dw d (k+1)=some (live,last)):=O (x.trans (C3 hz));rw[TP,TP]at hz;simp only[OR,beq_iff_eq]at hz;obtain⟨⟨a0,a1,a2,a3,a4⟩,b0,b1,b2,b3,b4⟩:=hz;rw[a0]at e0;rw[a1]at e1;rw[a4]at U;rw[b0]at V;rw[b1]at X;rw[b4]at Z;have ag:(O9 (d.L k).key.Ae 0==some .eq)=true:=a2;have ah:(O9 (d.L k).val.Ae 0==some .eq)=true:=b2;clear a0 a1 a4 b0 b1 b4 a2 b2;go_wp2;go_roundw
   case rel=>exact⟨k+1,live,last,by omega,by go_num,rfl,rfl,K,by omega,by omega,by simp;omega,(GC _ _ _ (by exact h)).trans c4,(GC _ _ _ (by exact h)).trans c5,s.alloc s.size _⟩
   case measure=>simp[intOf];omega
  ·have x:=O (Jh m t);have ai:((d.L k).turn==0)=false:=by simp[t]
   clear t;have M:=H.step o x;have K:Hid (Dw d (k+1)=some (live+1,(d.L k).turn)):=O (x.trans (C3 M));simp only[OD,OR,AaJ,bne_iff_ne,ne_eq]at M;obtain⟨⟨⟨⟨t0,t2⟩,t3⟩,t4⟩,t5⟩:=M;have t1:¬(d.L k).turn<=last:=by omega
   have P:¬d.turns<(d.L k).turn:=by omega
   have H3:=O t3;clear t0 t2 t3;obtain⟨W,g⟩:∃W,W=wr.alloc (.cells #[J (d.L k).key.kind,J (d.L k).key.num,F9 (d.L k).key.Ae,.string (d.L k).key.str,J (d.L k).key.ref,J (d.L k).val.kind,J (d.L k).val.num,F9 (d.L k).val.Ae,.string (d.L k).val.str,J (d.L k).val.ref,J (d.L k).turn] 96):=⟨_,rfl⟩;have A:Hid (B9 w W):=O (by rw[g];exact s.alloc s.size _);have c:wr.heap.size<W.heap.size:=by rw[g];simp
   have y5:W.cell? (y wr 5)=some (J (d.L k).val.kind):=by rw[g];simp[go_sem]
   have y6:W.cell? (y wr 6)=some (J (d.L k).val.num):=by rw[g];simp[go_sem]
   have y7:W.cell? (y wr 7)=some (F9 (d.L k).val.Ae):=by rw[g];simp[go_sem]
   have y8:W.cell? (y wr 8)=some (.string (d.L k).val.str):=by rw[g];simp[go_sem]
   have y9:W.cell? (y wr 9)=some (J (d.L k).val.ref):=by rw[g];simp[go_sem]
   have B:W.cell? (y wr 10)=some (J (d.L k).turn):=by rw[g];simp[go_sem]
   have z4:W.cell? (y w 4)=some (J d.live):=by rw[g];exact(GC _ _ _ (by exact h)).trans c4
   have z5:W.cell? (y w 5)=some (J d.turns):=by rw[g];exact(GC _ _ _ (by exact h)).trans c5
   go_wp2_with fail
   rw[<-g];clear g;refine m9 (cG (d.L k).key H3 _) fun w1 a=>?_
   have C:=O (A.trans (a.mono A.size));have x5:=(a.cell (p:=(y wr 5)) c).trans y5;have x6:=(a.cell (p:=(y wr 6)) c).trans y6;have x7:=(a.cell (p:=(y wr 7)) c).trans y7;have x8:=(a.cell (p:=(y wr 8)) c).trans y8;have x9:=(a.cell (p:=(y wr 9)) c).trans y9;have D:=(a.cell (p:=(y wr 10)) c).trans B;have E:w.heap.size<W.heap.size:=by omega
   have u4:=(a.cell (p:=(y w 4)) E).trans z4;have u5:=(a.cell (p:=(y w 5)) E).trans z5;have F:wr.heap.size<w1.heap.size:=Be c a.size;clear a y5 y6 y7 y8 y9 B z4 z5 e0 e1 e2 e3 U V X e7 e8 Z v c4 c5;go_wp2_with fail
   refine m9 (BK (d.L k).val.kind (d.L k).val.num (d.L k).val.Ae (d.L k).val.str (d.L k).val.ref _) fun w2 f=>?_
   have Q:=O (C.trans (f.mono C.size));have v5:=(f.cell (p:=(y wr 5)) F).trans x5;have aj:=(f.cell (p:=(y wr 10)) F).trans D;have r:w.heap.size<w1.heap.size:=by omega
   have s4:=(f.cell (p:=(y w 4)) r).trans u4;have s5:=(f.cell (p:=(y w 5)) r).trans u5;have R:w.heap.size<w2.heap.size:=Be r f.size;clear f x5 x6 x7 x8 x9 D u4 u5;have S:AB (d.L k).val.kind (d.L k).val.num (d.L k).val.Ae (d.L k).val.str (d.L k).val.ref=true:=t4;rw[S];have ak:((d.L k).val.kind==0)=false:=by simp[t5]
   clear t1 P t5;go_wp2;go_roundw
   case rel=>exact⟨k+1,live+1,(d.L k).turn,by omega,by go_num,rfl,by go_num,K,by omega,by omega,R,s4,s5,Q⟩
   case measure=>simp[intOf];omega
structure Bx (w:Y) (b:Nat) (la:T9) (lc:Nat) (ia:T9) (ic:Nat) (xa:T9) (xc:Nat) (d:Dc):Prop where
 lt:b<w.heap.size
 c0:w.cell? (G b 0)=some (.slice la d.n lc)
 c1:w.cell? (G b 1)=some (.slice ia d.m ic)
 c2:w.cell? (G b 2)=some (.slice xa d.x xc)
 c3:w.cell? (G b 3)=some (J d.used)
 c4:w.cell? (G b 4)=some (J d.live)
 c5:w.cell? (G b 5)=some (J d.turns)
theorem Bx.below{w w':Y}{b:Nat}{la:Option Addr}{lc:Nat}{ia:Option Addr}{ic:Nat}{xa:Option Addr}{xc:Nat}{d:Dc}(h:Bx w b la lc ia ic xa xc d)(hb:B9 w w'):Bx w' b la lc ia ic xa xc d:=
 have e:∀j,w'.cell? (G b j)=w.cell? (G b j):=fun j=>hb.cell (p:=(G b j)) h.lt
 ⟨Be h.lt hb.size,(e 0).trans h.c0,(e 1).trans h.c1,(e 2).trans h.c2,(e 3).trans h.c3,(e 4).trans h.c4,(e 5).trans h.c5⟩
theorem Oi(la:T9)(lc:Nat)(ia:T9)(ic:Nat)(xa:T9)(xc:Nat)(d:Dc)(q:Nat)(w:Y)(hD:Gy w la ia xa d)(c:Small d)(a:q<d.n)(e:(d.L q).turn≠0):
  C9 266 #[Dv la lc ia ic xa xc d,J ((q:Int)+1)] w (R9 (.bool true) w):=by
 have hn:=c.n;have h1:(1:Int)<=(q:Int)+1:=by omega
 have h2:(q:Int)+1<=d.n:=by omega
 obtain⟨b,off,rfl,f,hcs⟩:=hD.log.resolve_left (by omega);have e0:=(hcs q a).tn;have g:((d.L q).turn !=0)=true:=by simp[e]
 clear hD c hcs e
 go_enter func266,ntmps266
 go_wp2;go_ret;exact⟨by simp,n9⟩
theorem Hr.at{d:Dc}{k:Nat}(h:Hr d k)(a:d.I k≠0):∃q:Nat,q<d.n/\d.I k=(q:Int)+1/\(d.L q).turn≠0/\(d.L q).key.kind=2/\(d.L q).key.num=(k:Int)+1:=by
 rcases h with h|⟨h1,h2,h3,h4,h5⟩
 ·exact absurd h a
 ·have e:d.at (d.I k)=d.L (d.I k-1).toNat:=rfl;exact⟨(d.I k-1).toNat,by omega,by omega,h3,h4,h5⟩
theorem UU(la:T9)(lc:Nat)(ia:T9)(ic:Nat)(xa:T9)(xc:Nat)(d:Dc)(w:Y)(hD:Gy w la ia xa d)(A:Small d)(h2:D2 d)(h3:D3 d):
  C9 244 #[Dv la lc ia ic xa xc d] w (R9 (.bool true) w):=by
 have hn:=A.n;have hm:=A.m;have B:=O hD;have Q:=O A;have R:=O h2;have M:=O h3;clear hD A h2 h3
 go_enter func244,ntmps244
 go_wp2;go_loopw [10] (fun i wr=>∃(k:Nat),k<=d.m/\i=J k/\Bx wr w.heap.size la lc ia ic xa xc d/\B9 w wr) (fun i _=>d.m-(intOf i).toNat)
 case atStart=>exact⟨0,by omega,rfl,⟨by simp,by simp[go_sem],by simp[go_sem],by simp[go_sem],by simp[go_sem],by simp[go_sem],by simp[go_sem]⟩,n9⟩
 case round=>
  obtain⟨k,hk,rfl,hx,hb⟩:=hrel;obtain⟨S,c0,c1,c2,c3,c4,c5⟩:=id hx;have P:=O hx;have t:=O hb;have f:=hb.size;clear hx;by_cases c:k<d.m
  case neg=>
   have u:k=d.m:=by omega
   subst u;by_cases a:d.m=0
   ·have j:((d.m:Int)==0)=true:=by simp[a]
    clear hb a;go_wp2;go_ret;exact⟨rfl,t⟩
   have j:((d.m:Int)==0)=false:=by simp;omega
   obtain⟨q,hq⟩:∃q,d.m=q+1:=⟨d.m-1,by omega⟩;obtain⟨b,off,rfl,l,hcs⟩:=B.ints.resolve_left a;have e0:=(hb.cell (p:=(G b (off+q))) l).trans (hcs q (by omega));have T:IntKind.i64.wrap ((d.m:Int)-1)=(q:Int):=by rw[It];omega
   have U:q<d.m:=by omega
   have hd:(d.I q !=0)=true:=by have:=M.2.resolve_left a;rw[hq]at this;simp at this ⊢;omega
   have HQ:=O hq;clear hq a hcs hb;go_wp2;go_ret;exact⟨by simp,t⟩
  obtain⟨b,off,C,l,hcs⟩:=B.ints.resolve_left (by omega);subst C;have e0:=(hb.cell (p:=(G b (off+k))) l).trans (hcs k c);have D:=O (B.below hb);clear hcs hb;by_cases a:d.I k=0
  ·rw[a]at e0;clear a;go_wp2;go_roundw
   case rel=>exact⟨k+1,c,by go_num,P,t⟩
   case measure=>simp[intOf];omega
  have j:(d.I k==0)=false:=by simp[a]
  obtain⟨q,o,hq,r,k1,k2⟩:=(M.1 k c).at a;have g:=(R.pos o r).2;obtain⟨lb,lo,E,v,x⟩:=B.log.resolve_left (by omega);subst E;obtain⟨e1,e2,e3,e4,V,_,_,_,_,_,_⟩:=(x q o).keep (fun q=>t.cell (p:=(G lb q)) v);have W:lb<wr.heap.size:=Be v f;rw[hq]at e0 j;have X:IntKind.i64.wrap (q:Int)=q:=by rw[It];omega
  have Z:IntKind.i64.wrap ((k:Int)+1)=(k:Int)+1:=by rw[It];omega
  have F:=O r;obtain⟨f1,f2,f3⟩:=TI g k1;rw[k1]at e1;rw[k2]at e2;rw[f3]at V;clear x a hq g r k1 k2 f3;go_wp2_with fail
  refine qr wr ?_;refine N (h:=N (h:=?_));refine GS (fun K hK=>?_);go_simp;refine⟨_,fun w' e=>qk e (Oi (some (G lb lo)) lc (some (G b off)) ic xa xc d q _ (D.below e) Q o F),hK _ ?_⟩;clear hK K;refine N (h:=N (h:=N (h:=N (h:=N (h:=N (h:=N (h:=N (h:=N (h:=N (h:=N (h:=N (h:=?_))))))))))));refine GS (fun K hK=>?_);go_simp;refine⟨_,fun w' e=>qk e (GG ((k:Int)+1) _),hK _ ?_⟩;clear hK K;refine N (h:=N (h:=?_));refine GO ?_;intro w2 s;have H:=O (t.trans (s.mono f));have L:=O (P.below s);clear s c0 c1 c2 c3 c4 c5;go_wp2;go_roundw
  case rel=>exact⟨k+1,c,by go_num,L,H⟩
  case measure=>simp[intOf];omega
theorem RK(la:T9)(lc:Nat)(ia:T9)(ic:Nat)(xa:T9)(xc:Nat)(d:Dc)(w:Y)(a:Small d)(h:D1 d):
  C9 242 #[Dv la lc ia ic xa xc d] w (R9 (.bool true) w):=by
 have hn:=a.n;obtain⟨h1,h2,h3,h4,h5⟩:=h;have b:IntKind.i64.wrap (2*d.live)=2*d.live:=by rw[It];omega
 have d1:¬d.live<0:=by omega
 have d2:¬500<d.live:=by omega
 have d3:¬d.turns<0:=by omega
 have d4:¬1000000000000<d.turns:=by omega
 by_cases c:(d.n:Int)<=8
 case' neg=>have d6:decide ((d.n:Int)<=2*d.live)=true:=by simp;omega
 all_goals
  clear a h1 h2 h3 h4 h5
  go_enter func242,ntmps242
  go_wp2;go_ret;exact⟨by simp,(n9).alloc (by simp) _⟩
theorem Sr.at{d:Dc}{k:Nat}(h:Sr d k)(a:d.X k≠0)(h1:d.X k≠-1):∃q:Nat,q<d.n/\d.X k=(q:Int)+1/\(d.L q).turn≠0/\¬AH d.m (d.L q).key:=by
 rcases h with h|h|⟨g1,g2,g3,g4⟩
 ·exact absurd h a
 ·exact absurd h h1
 ·exact⟨(d.X k-1).toNat,by omega,by omega,g3,g4⟩
theorem Qw(la:T9)(lc:Nat)(ia:T9)(ic:Nat)(xa:T9)(xc:Nat)(d:Dc)(w:Y)(hD:Gy w la ia xa d)(l:Small d)(h4:D4 d):
  C9 245 #[Dv la lc ia ic xa xc d] w (R9 (.bool true) w):=by
 have hn:=l.n;have hm:=l.m;have hx:=l.x;have E:=O hD;have HS:=O l;have F:=O h4;have hsz:=h4.1;clear hD l h4
 go_enter func245,ntmps245
 rcases hsz with h0|hsz
 case' inl=>
  have H:((d.x:Int)!=0)=false:=by simp[h0]
  clear h0;go_wp2_with fail
 case' inr=>
  have H:((d.x:Int)!=0)=true:=by simp;omega
  have I:¬(d.x:Int)<8:=by omega
  have M:=hsz.2.1;have ag:¬(4000:Int)<d.x:=by omega
  have P:=O ((ZA hsz.2.1).2 hsz.2.2);clear hsz;go_wp2_with (go_at_call 267;refine(NI d.x M _).mono ?_;rintro e w1 ⟨rfl,rfl⟩;rw[z P])
 all_goals
  go_loopw [4,31] (fun u i wr=>∃k:Nat,k<=d.x/\i=J k/\u=J (Ev d k)/\Bx wr w.heap.size la lc ia ic xa xc d/\B9 w wr) (fun _ i _=>d.x-(intOf i).toNat)
  case atStart=>exact⟨0,by omega,rfl,rfl,⟨by simp,by simp[go_sem],by simp[go_sem],by simp[go_sem],by simp[go_sem],by simp[go_sem],by simp[go_sem]⟩,n9⟩
  case round=>
   obtain⟨k,hk,rfl,rfl,hx,hb⟩:=hrel;obtain⟨ah,c0,c1,c2,c3,c4,c5⟩:=id hx;have Q:=O hx;have o:=O hb;have f:=hb.size;have ai:=VK d k;clear hx;by_cases a:k<d.x
   case neg=>
    have r:k=d.x:=by omega
    subst r;have I:((Ev d d.x:Int)==d.used)=true:=by simp;exact F.2.2.1
    have aj:decide (2*(Ev d d.x:Int)<=d.x)=true:=by have:=F.2.2.2;simp;omega
    clear hb;go_wp2;go_ret;exact⟨by simp,o⟩
   obtain⟨b,off,R,S,hcs⟩:=E.index.resolve_left (by omega);subst R;have e0:=(hb.cell (p:=(G b (off+k))) S).trans (hcs k a);have T:=O (E.below hb);clear hcs hb;by_cases g:d.X k=0
   ·have D:Hid (Ev d (k+1)=Ev d k):=O (by show(if d.X k=0 then _ else _)=_;rw[C3 g]);rw[g]at e0;clear g;go_wp2;go_roundw
    case rel=>exact⟨k+1,a,by go_num,by rw[z D],Q,o⟩
    case measure=>simp[intOf];omega
   have D:Hid (Ev d (k+1)=Ev d k+1):=O (by show(if d.X k=0 then _ else _)=_;rw[Cs g]);by_cases s:d.X k=-1
   ·rw[s]at e0;clear g s;go_wp2;go_roundw
    case rel=>exact⟨k+1,a,by go_num,by rw[z D];go_num,Q,o⟩
    case measure=>simp[intOf];omega
   have U:(d.X k==0)=false:=by simp[g]
   have V:(d.X k==-1)=false:=by simp[s]
   obtain⟨q,t,hq,v,A⟩:=(F.2.1 k a).at g s;obtain⟨lb,lo,W,B,C⟩:=E.log.resolve_left (by omega);subst W;obtain⟨e1,e2,e3,e4,e5,_,_,_,_,_,_⟩:=(C q t).keep (fun q=>o.cell (p:=(G lb q)) B);have ak:lb<wr.heap.size:=Be B f;rw[hq]at e0 U V;have ao:IntKind.i64.wrap (q:Int)=q:=by rw[It];omega
   have Z:=O v;have ad:=O (Bj A);clear C g s hq v A;go_wp2_with fail
   refine qr wr ?_;refine N (h:=N (h:=?_));refine GS (fun K hK=>?_);go_simp;refine⟨_,fun w' c=>qk c (Oi (some (G lb lo)) lc ia ic (some (G b off)) xc d q _ (T.below c) HS t Z),hK _ ?_⟩;clear hK K;refine N (h:=N (h:=N (h:=N (h:=N (h:=N (h:=N (h:=N (h:=N (h:=N (h:=N (h:=N (h:=?_))))))))))));refine N (h:=N (h:=?_));refine GS (fun K hK=>?_);go_simp;apply Exists.intro;refine And.intro (fun w' c=>?_) (hK _ ?_)
   ·refine(((z ad)▸Cb (d.L q).key d.m _ hm)).mono ?_;rintro e aq ⟨rfl,hb⟩;exact⟨rfl,c.trans (hb.mono c.size)⟩
   clear hK K;refine N (h:=?_);refine GO ?_;intro w2 j;have ae:=O (o.trans (j.mono f));have af:=O (Q.below j);clear j c0 c1 c2 c3 c4 c5;go_wp2;go_roundw
   case rel=>exact⟨k+1,a,by go_num,by rw[z D];go_num,af,ae⟩
   case measure=>simp[intOf];omega
section
open Go.RowKit Go.Shelf
attribute [local go_sem] Oper.semAt_some
theorem Pb(T:World->Prop)(aq:DT T)(la:T9)(lc:Nat)(ia:T9)(ic:Nat)(xa:T9)(xc:Nat)(d:Dc)(H:Nat->Nat)(w:Y)(hT:T w)(hD:Gy w la ia xa d)(hS:Small d)(h2:D2 d)(h3:D3 d)(h4:D4 d)(hH:∀i,i<d.n->(d.L i).turn≠0->NV T (d.L i).key (H i))(h5:D5 d H):
  C9 246 #[Dv la lc ia ic xa xc d] w fun e w'=>e=.returned (.bool true)/\Below w.heap.size w w':=by
 have hm:=hS.m;have ar:Below w.heap.size w ((w.alloc (.cells #[.slice la d.n lc,.slice ia d.m ic,.slice xa d.x xc,J d.used,J d.live,J d.turns] 322)).alloc (.cells #[.bool false] 4)):=(n9).alloc (by simp) _;have F:=O ar;clear ar;refine(VC (n:=20)).1 ?_;refine AaP func246 rfl trivial ?_ rfl;simp only[ntmps246,Aas,Aad,UP,Nat.reduceAdd,Nat.reduceSub,Aag,Aaf,Aat,Aak,So,Aal];have af:=O aq;have HT:=O hT;have HD:=O hD;have HS:=O hS;have H2:=O h2;have H3:=O h3;have H4:=O h4;have HH:=O hH;have H5:=O h5;clear aq hT hD hS h2 h3 h4 hH h5
 gi_wp2_with fail
 refine⟨trivial,?_⟩;refine(VC.2 (E7 la lc ia ic xa xc d _ (HD.below F) HS H3 H4)).mono ?_;rintro e w1 ⟨⟨bk,R0,R1,R2,E,S,rfl,k⟩,M⟩;obtain⟨b,au⟩:=AJ M;have bf:w.heap.size+2<=w1.heap.size:=by have:=M.size;simp at this;omega
 have y0:w.heap.size<w1.heap.size:=by omega
 have y1:w.heap.size+1<w1.heap.size:=by omega
 have a0:w1.cell? (G w.heap.size 0)=some (.slice la d.n lc):=by rw[b _ _ (by simp;omega)];simp[go_sem]
 have a1:w1.cell? (G w.heap.size 1)=some (.slice ia d.m ic):=by rw[b _ _ (by simp;omega)];simp[go_sem]
 have a2:w1.cell? (G w.heap.size 2)=some (.slice xa d.x xc):=by rw[b _ _ (by simp;omega)];simp[go_sem]
 have a3:w1.cell? (G w.heap.size 3)=some (J d.used):=by rw[b _ _ (by simp;omega)];simp[go_sem]
 have a4:w1.cell? (G w.heap.size 4)=some (J d.live):=by rw[b _ _ (by simp;omega)];simp[go_sem]
 have a5:w1.cell? (G w.heap.size 5)=some (J d.turns):=by rw[b _ _ (by simp;omega)];simp[go_sem]
 have b0:w1.cell? (G (w.heap.size+1) 0)=some (.bool false):=by rw[b _ _ (by simp)];simp[go_sem]
 have b1:w1.frozen? (G (w.heap.size+1) 0)=false:=by rw[au _ _ (by simp)];simp[go_sem]
 have ag:=O (F.trans (M.mono F.size));have o:=O k;clear M b au k
 gi_wp2_with fail
 refine⟨trivial,?_⟩;refine(VC.2 (Nh la lc ia ic xa xc d _ (HD.below (ag.alloc (by omega) _)) HS H3 H4)).mono ?_;rintro e w2 ⟨⟨st,rfl,av⟩,P⟩;have aw:w1.heap.size<w2.heap.size:=by have:=P.size;simp at this;omega
 have ah:=O (((DD w1.heap.size w1).alloc (A0 _) _).trans (P.mono (by simp)));have m2:w2.cell? (G w1.heap.size 0)=some (Q9 bk):=by rw[(AJ P).1 _ _ (by simp)];simp[go_sem]
 have ax:=O av;clear av P a0 a1 a2 a3 a4 a5
 gi_wp2_with fail
 refine⟨trivial,?_⟩;refine(VC.2 (Hp bk R0 R1 R2 E S d _ (o.below (ah.alloc (by omega) _)) HS)).mono ?_;rintro e w3 ⟨rfl,Q⟩;have ay:w2.heap.size<w3.heap.size:=by have:=Q.size;simp at this;omega
 have V:w1.heap.size<w3.heap.size:=by omega
 have ai:=O (((DD w2.heap.size w2).alloc (A0 _) _).trans (Q.mono (by simp)));have m3:w3.cell? (G w1.heap.size 0)=some (Q9 bk):=(ai.cell (p:=(G w1.heap.size 0)) aw).trans m2;have s3:w3.cell? (G w2.heap.size 0)=some (S9 st d.n d.n):=by rw[(AJ Q).1 _ _ (by simp)];simp[go_sem]
 clear Q m2
 gi_wp2_with fail
 refine⟨trivial,?_⟩;refine(VC.2 (Fz bk _)).mono ?_;rintro e w4 ⟨rfl,rfl⟩
 gi_wp2_with fail
 obtain⟨u,hu⟩:∃u,u=(w3.alloc (.cells #[J 2,J ((d.m:Int)+1),F9 0,E9,J 0] 43)).alloc (.cells #[Q9 bk] 289):=⟨_,rfl⟩;rw[<-hu];have zu:u.heap.size=w3.heap.size+2:=by rw[hu];simp
 have R:Below w3.heap.size w3 u:=by rw[hu];exact(n9).alloc (by simp) _
 have n0:u.cell? (G w3.heap.size 0)=some (J 2):=by rw[hu];simp[go_sem]
 have n1:u.cell? (G w3.heap.size 1)=some (J ((d.m:Int)+1)):=by rw[hu];simp[go_sem]
 have n2:u.cell? (G w3.heap.size 2)=some (F9 0):=by rw[hu];simp[go_sem]
 have n3:u.cell? (G w3.heap.size 3)=some (E9):=by rw[hu];simp[go_sem]
 have n4:u.cell? (G w3.heap.size 4)=some (J 0):=by rw[hu];simp[go_sem]
 have az:u.cell? (G (w3.heap.size+1) 0)=some (Q9 bk):=by rw[hu];simp[go_sem]
 clear hu;have aj:Below w2.heap.size w2 u:=ai.trans (R.mono (by omega));have t:Below w1.heap.size w1 u:=ah.trans (aj.mono (by omega));have aM:Below w.heap.size w u:=ag.trans (t.mono (by omega));have mu:=(R.cell (p:=(G w1.heap.size 0)) V).trans m3;have su:=(R.cell (p:=(G w2.heap.size 0)) ay).trans s3;have ru:=(t.cell (p:=(G (w.heap.size+1) 0)) y1).trans b0;have fu:=(t.frozen (p:=(G (w.heap.size+1) 0)) y1).trans b1;have U:=o.below t;have bg:BP u st d.n (fun j=>EM d.I j d.m+EM d.X j d.x):=ax.below aj;have Z:w1.heap.size<u.heap.size:=by omega
 have ad:w2.heap.size<u.heap.size:=by omega
 have f:w3.heap.size<u.heap.size:=by omega
 have v:w.heap.size+1<u.heap.size:=by omega
 clear aj t R m3 s3 b0 b1 o ax ah ai ag F HD bf y0 y1 aw ay V;generalize w1.heap.size=M1 at*;generalize w2.heap.size=M2 at*;refine AaO rfl (by decide) (gf:=248) (lb:=#[Q9 (w3.heap.size+1)]) rfl trivial (enters_of func248 (by kernel_rfl) rfl)
  (JF 19 (by decide) bk R0 R1 R2 (w3.heap.size+1) u.heap.size E S d u U HS U.l0 (fun i hi=>(U.Ca i hi).lt) az) belowK_t (belowK_b (A0 _)) (DD _ _) (fun _=>rfl)
  (fun pre W=>Below u.heap.size u W)
  (fun c pre W=>False)
  (ownFrom_below (A0 _) (A0 _))
  (fun c=>Own.from (fun s A B row hs hg hr=>hs) _)
  (DD _ _)
  ?a1 ?assign ?body ?done ?stop
 case assign=>
  intro l x W K hK
  gi_wp2
  exact hK
 case body=>
  rintro l pre ⟨i,hi,ht⟩ W a _;have k:=U.below a;have m0:=(a.cell (p:=(G M1 0)) Z).trans mu;have s0:=(a.cell (p:=(G M2 0)) ad).trans su;have g0:=(a.cell (p:=(G w3.heap.size 0)) f).trans n0;have g1:=(a.cell (p:=(G w3.heap.size 1)) f).trans n1;have g2:=(a.cell (p:=(G w3.heap.size 2)) f).trans n2;have g3:=(a.cell (p:=(G w3.heap.size 3)) f).trans n3;have g4:=(a.cell (p:=(G w3.heap.size 4)) f).trans n4;have ak:=bg.below a;have r0:=ak.cell hi;have b2:=ak.lt;obtain⟨b3,k0,k1,k2,k3,k4,_,_,_,_,_,_,pl⟩:=k.Ca i hi;have b4:M1<W.heap.size:=Be Z a.size;have b5:M2<W.heap.size:=Be ad a.size;have b6:w3.heap.size<W.heap.size:=Be f a.size;have b7:w.heap.size+1<W.heap.size:=Be v a.size;have a6:=(a.cell (p:=(G (w.heap.size+1) 0)) v).trans ru;have bh:=(a.frozen (p:=(G (w.heap.size+1) 0)) v).trans fu;have b8:=HS.n;have o:=O k;have bj:=O (af _ _ HT (aM.trans (a.mono (by omega))));have bm:=O (HH i hi ht);have bw:=(H2.pos hi ht).2;clear k ak mu su n0 n1 n2 n3 n4 az;obtain⟨b,a7,a8⟩:=z H5 i hi ht;rw[b]at r0;have bx:(((1:Nat):Int)!=1)=false:=rfl;obtain⟨bb,bc⟩:=K8 H3 H4 (d.L i).key (H i);have g:=fun W' bn bp=>Ig T af bk R0 R1 R2 E S d (d.L i).key (H i) bm W' bn bp HS H3 H4
  rw[a7]at bb bc g;have ae:=O g;clear g b a7;have bq:=O a8;clear a8
  gi_wp2
  refine wpIn_region_quiet (C:=fun w'=>Below W.heap.size W w') (by kernel_rfl) (by kernel_rfl) (by kernel_rfl) ((DD _ _).drew) ?_;show wpQuiet _ _ _ _ [_,_,_,_,_,_,_,_,_,_,_,_,_,_,_,_,_,_,_,_,_,_,_,_,_,_,_,_] _;refine N (h:=N (h:=N (h:=N (h:=N (h:=N (h:=N (h:=N (h:=N (h:=N (h:=N (h:=N (h:=?_))))))))))));refine N (h:=N (h:=N (h:=?_)));refine GS (fun K hK=>?_);go_simp;refine⟨_,fun w' q=>qk q ((ae _ (af _ _ bj q) (o.below q))),hK _ ?_⟩;clear hK K;refine N (h:=?_);refine GS (fun K hK=>?_);go_simp;refine⟨.bool false,fun w' q=>?_,hK _ ?_⟩
  ·rw[Zn ((z o).below q) bb bc hi];simp
  clear hK K;refine N (h:=N (h:=N (h:=N (h:=N (h:=N (h:=N (h:=N (h:=?_))))))));refine GS (fun K hK=>?_);go_simp;refine⟨.bool false,fun w' q=>?_,hK _ ?_⟩
  ·have br:=z bq;by_cases q1:(d.L i).key.kind=2
   ·have q2:¬(d.L i).key.num=(d.m:Int)+1:=fun h=>br ⟨q1,h⟩
    simp only[q1,q2,Aaz,X9];exact⟨trivial,trivial⟩
   ·simp only[q1,X9];exact⟨trivial,trivial⟩
  clear hK K;refine N (h:=?_);refine GO ?_;intro w5 ao;have HK:=O (CN ao);have bd:=O ao;clear ao
  gi_wp2
  exact⟨HK,bd.mono a.size,a.trans (bd.mono a.size)⟩
 case done=>
  rintro D ys W hD bt a hK;have a6:=(a.cell (p:=(G (w.heap.size+1) 0)) v).trans ru;have bh:=(a.frozen (p:=(G (w.heap.size+1) 0)) v).trans fu;clear bt
  gi_wp2
  have hK':=(TC W (G (w.heap.size+1) 0) (.bool true)).same D _ hK rfl;refine⟨by simp,.inl ⟨_,_,rfl,AaE hK',?_⟩⟩;have bu:=IF (NX W (G (w.heap.size+1) 0) (.bool true) (by rw[a6];rfl)) (ID _ D (.deferred none)) (fun r e=>by cases e;exact⟨_,hK',rfl⟩);refine⟨.bool true,?_,rfl,((aM.trans (a.mono (by omega))).setCell (p:=(G (w.heap.size+1) 0)) (by show w.heap.size<=w.heap.size+1;omega) _).trans (belowK_b (w:=w) (A0 _) _ D _ _ (by omega) hK' rfl rfl)⟩;simp[results,f246,go_sem,bu]
 case stop=>exact fun D c pre W hD bz h hK=>h.elim
end
section
open Go.RowKit Go.Shelf
theorem EP(T:World->Prop)(b:DT T)(la:T9)(lc:Nat)(ia:T9)(ic:Nat)(xa:T9)(xc:Nat)(d:Dc)(H:Nat->Nat)(w:Y)(p:T w)(hD:Gy w la ia xa d)(q:Small d)(r:∀i,i<d.n->Db (d.L i).key=true->NV T (d.L i).key (H i))(s:CE d H=0):
  C9 212 #[Dv la lc ia ic xa xc d] w (R9 (J 0) w):=by
 have c:=O b;have B:=O p;have C:=O hD;have f:=O q;have D:=O r;obtain⟨h1,h2,h3,h4,h5⟩:=JW s;have E:=O h1;have j:=O h2;have t:=O h3;have v:=O h4;have F:=O h5;clear b p hD q r s h1 h2 h3 h4 h5
 go_enter func212,ntmps212
 go_wp2_with fail
 obtain⟨u,hu⟩:∃u,u=(((w.alloc (.cells #[.slice la d.n lc,.slice ia d.m ic,.slice xa d.x xc,J d.used,J d.live,J d.turns] 92)).alloc (.cells #[.slice la d.n lc,.slice ia d.m ic,.slice xa d.x xc,J d.used,J d.live,J d.turns] 322)).alloc (.cells #[.func (.func 242) #[Dv la lc ia ic xa xc d] #[],.func (.func 243) #[Dv la lc ia ic xa xc d] #[],.func (.func 244) #[Dv la lc ia ic xa xc d] #[],.func (.func 245) #[Dv la lc ia ic xa xc d] #[],.func (.func 246) #[Dv la lc ia ic xa xc d] #[]] 323)):=⟨_,rfl⟩;rw[<-hu];have g:Hid (B9 w u):=O (by rw[hu];exact((n9).alloc (by simp) _).alloc (by simp;omega) _);clear hu;have i0:=kP (Dv la lc ia ic xa xc d);have K:=kQ (Dv la lc ia ic xa xc d);have i2:=kR (Dv la lc ia ic xa xc d);have i3:=kS (Dv la lc ia ic xa xc d);have i4:=kT (Dv la lc ia ic xa xc d);go_loopw [21] (fun i wr=>∃k:Nat,k<=5/\i=J k/\B9 w wr) (fun i _=>5-(intOf i).toNat)
 case atStart=>exact⟨0,by omega,rfl,g⟩
 case round=>
  clear g;obtain⟨k,hk,rfl,hb⟩:=hrel;have l:=O hb;have hD:=C.below hb;obtain rfl|rfl|rfl|rfl|rfl|rfl:k=5\/k=0\/k=1\/k=2\/k=3\/k=4:=by omega
  ·clear hb hD;go_wp2_with fail
   go_ret;exact⟨rfl,l⟩
  case' inr.inl=>have a:=RK la lc ia ic xa xc d wr f E
  case' inr.inr.inl=>have a:=Vc la lc ia ic xa xc d wr hD f j
  case' inr.inr.inr.inl=>have a:=UU la lc ia ic xa xc d wr hD f j t
  case' inr.inr.inr.inr.inl=>have a:=Qw la lc ia ic xa xc d wr hD f v
  case' inr.inr.inr.inr.inr=>have a:=Pb T c la lc ia ic xa xc d H wr (c _ _ B hb) hD f j t v (fun i hi I=>D i hi (j.pos hi I).2) F
  all_goals
   have A:=O a;clear a hb hD;go_wp2_with fail
   refine A.mono ?_;rintro e w2 ⟨rfl,h⟩;have o:=O (l.trans (h.mono l.size));clear h A;go_wp2_with fail
   go_roundw
   case rel=>exact⟨_,by decide,rfl,o⟩
   case measure=>simp[intOf]
end
section
open Go.RowKit Go.Shelf
theorem W7(la:T9)(lc:Nat)(ia:T9)(ic:Nat)(xa:T9)(xc:Nat)(d:Dc)(v:Vl)(f:Vl)(w:Y)(hA:Gy w la ia xa d)(hS:Small d)(hW:Rp d)(hk:JD v.kind v.num v.Ae v.str v.ref=KV 0 f.kind f.num f.Ae f.str f.ref)(hh:NV A8 f (hN f))(l:CE d (hD d)=0)(hT:A8 w):
  C9 354 #[Dv la lc ia ic xa xc d,VV v] w (R9 (VV (RT d 0 f)) w):=by
 have HA:=O hA;have Z:=O hS;have HW:=O hW;have ad:=O hk;have ae:=O hh;have HT:=O hT;have HR:Hid (RT d 0 f=GB d (AE d f (hN f))):=O (C3 ⟨l,rfl⟩);have i:=O (JW l);have af:=O l;clear hA hS hW hk hh hT l;have H:B9 w (((w.alloc (.cells #[.slice la d.n lc,.slice ia d.m ic,.slice xa d.x xc,J d.used,J d.live,J d.turns] 92)).alloc (.cells #[J v.kind,J v.num,F9 v.Ae,.string v.str,J v.ref] 43)).alloc (.cells #[J 0,J 0,F9 0,E9,J 0] 43)):=((n9).alloc (by simp) _).alloc (by simp;omega) _;have I:=O H;clear H
 go_enter func354,ntmps354
 go_wp2_with fail
 refine m9 (Hm v.kind v.num v.Ae v.str v.ref _) fun w1 r=>?_
 rw[z ad];obtain⟨c,K⟩:=AJ r;have ag:=r.size;simp at ag;have D:w.heap.size<w1.heap.size:=by omega
 have F:w.heap.size+1+1<w1.heap.size:=by omega
 have q0:w1.cell? (y w 0)=some (.slice la d.n lc):=by rw[c _ _ (by simp;omega)];simp[go_sem]
 have q1:w1.cell? (y w 1)=some (.slice ia d.m ic):=by rw[c _ _ (by simp;omega)];simp[go_sem]
 have q2:w1.cell? (y w 2)=some (.slice xa d.x xc):=by rw[c _ _ (by simp;omega)];simp[go_sem]
 have q3:w1.cell? (y w 3)=some (J d.used):=by rw[c _ _ (by simp;omega)];simp[go_sem]
 have q4:w1.cell? (y w 4)=some (J d.live):=by rw[c _ _ (by simp;omega)];simp[go_sem]
 have q5:w1.cell? (y w 5)=some (J d.turns):=by rw[c _ _ (by simp;omega)];simp[go_sem]
 have r0:w1.cell? (Z9 w 0)=some (J 0):=by rw[c _ _ (by simp)];simp[go_sem]
 have r1:w1.cell? (Z9 w 1)=some (J 0):=by rw[c _ _ (by simp)];simp[go_sem]
 have r2:w1.cell? (Z9 w 2)=some (F9 0):=by rw[c _ _ (by simp)];simp[go_sem]
 have r3:w1.cell? (Z9 w 3)=some (E9):=by rw[c _ _ (by simp)];simp[go_sem]
 have r4:w1.cell? (Z9 w 4)=some (J 0):=by rw[c _ _ (by simp)];simp[go_sem]
 have fr:∀o,w1.frozen? (Z9 w o)=false:=fun o=>by rw[K _ _ (by simp)];simp[go_sem]
 have ah:=O (I.trans (r.mono I.size));have h:Hid (∀o,B9 w (w1.alloc o)):=O (fun o=>ah.alloc (by omega) _);clear r c K;go_wp2_with fail
 refine m9 (EP A8 AL la lc ia ic xa xc d (hD d) _ (AL _ _ HT (h _)) (HA.below (h _)) Z (fun q hq hk=>dN hk (HW q hq).1) af) fun w2 s=>?_
 obtain⟨a,M⟩:=AJ s;have ai:=s.size;simp at ai;have z0:w.heap.size<w2.heap.size:=by omega
 have z2:w.heap.size+1+1<w2.heap.size:=by omega
 have z3:w1.heap.size<w2.heap.size:=by omega
 have ay:w2.cell? (y w 0)=some (.slice la d.n lc):=by rw[a _ _ (by simp;omega),GC _ _ _ (by exact D)];exact q0
 have az:w2.cell? (y w 1)=some (.slice ia d.m ic):=by rw[a _ _ (by simp;omega),GC _ _ _ (by exact D)];exact q1
 have aM:w2.cell? (y w 2)=some (.slice xa d.x xc):=by rw[a _ _ (by simp;omega),GC _ _ _ (by exact D)];exact q2
 have a6:w2.cell? (y w 3)=some (J d.used):=by rw[a _ _ (by simp;omega),GC _ _ _ (by exact D)];exact q3
 have a7:w2.cell? (y w 4)=some (J d.live):=by rw[a _ _ (by simp;omega),GC _ _ _ (by exact D)];exact q4
 have a8:w2.cell? (y w 5)=some (J d.turns):=by rw[a _ _ (by simp;omega),GC _ _ _ (by exact D)];exact q5
 have aj:w2.cell? (Z9 w 0)=some (J 0):=by rw[a _ _ (by simp;omega),GC _ _ _ (by exact F)];exact r0
 have ak:w2.cell? (Z9 w 1)=some (J 0):=by rw[a _ _ (by simp;omega),GC _ _ _ (by exact F)];exact r1
 have ao:w2.cell? (Z9 w 2)=some (F9 0):=by rw[a _ _ (by simp;omega),GC _ _ _ (by exact F)];exact r2
 have aq:w2.cell? (Z9 w 3)=some (E9):=by rw[a _ _ (by simp;omega),GC _ _ _ (by exact F)];exact r3
 have ar:w2.cell? (Z9 w 4)=some (J 0):=by rw[a _ _ (by simp;omega),GC _ _ _ (by exact F)];exact r4
 have k0:w2.cell? (y w1 0)=some (J 0):=by rw[a _ _ (by simp)];simp[go_sem]
 have k1:w2.cell? (y w1 1)=some (J f.kind):=by rw[a _ _ (by simp)];simp[go_sem]
 have k2:w2.cell? (y w1 2)=some (J f.num):=by rw[a _ _ (by simp)];simp[go_sem]
 have k3:w2.cell? (y w1 3)=some (F9 f.Ae):=by rw[a _ _ (by simp)];simp[go_sem]
 have k4:w2.cell? (y w1 4)=some (.string f.str):=by rw[a _ _ (by simp)];simp[go_sem]
 have k5:w2.cell? (y w1 5)=some (J f.ref):=by rw[a _ _ (by simp)];simp[go_sem]
 have au:∀o,w2.frozen? (Z9 w o)=false:=fun o=>by rw[M _ _ (by simp;omega)];exact(((DD w1.heap.size w1).alloc (A0 _) _).frozen (p:=(Z9 w o)) F).trans (fr o)
 have t:=O ((h _).trans (s.mono (h _).size));clear s a M fr q0 q1 q2 q3 q4 q5 r0 r1 r2 r3 r4;have P:=O (HA.below t.drew);have Q:=O (AL _ _ HT t.drew);have j:=O t.drew;go_wp2_with fail
 go_region_law (first
  |(go_simp;go_at_call 213;refine(E7 la lc ia ic xa xc d _ P Z i.d3 i.d4).mono ?_;rintro e w3 ⟨⟨bk,R0,R1,R2,E,S,rfl,R⟩,b⟩;have n1:=(b.cell (p:=(y w1 1)) z3).trans k1;have n2:=(b.cell (p:=(y w1 2)) z3).trans k2;have n3:=(b.cell (p:=(y w1 3)) z3).trans k3;have n4:=(b.cell (p:=(y w1 4)) z3).trans k4;have n5:=(b.cell (p:=(y w1 5)) z3).trans k5;have m0:=(b.cell (p:=(Z9 w 0)) z2).trans aj;have m1:=(b.cell (p:=(Z9 w 1)) z2).trans ak;have m2:=(b.cell (p:=(Z9 w 2)) z2).trans ao;have m3:=(b.cell (p:=(Z9 w 3)) z2).trans aq;have m4:=(b.cell (p:=(Z9 w 4)) z2).trans ar;have mf:∀o,w3.frozen? (Z9 w o)=false:=fun o=>(b.frozen (p:=(Z9 w o)) z2).trans (au o);have x2:=Be z2 b.size;have x3:=Be z3 b.size;have T:=O (AL _ _ Q b);have u:=O R;have A:=O (j.trans (b.mono j.size));clear b R)
  |(go_simp;go_at_call 263;refine m9 (Ig A8 AL bk R0 R1 R2 E S d f (hN f) ae _ T u Z i.d3 i.d4) fun w4 g=>?_;have s0:=(g.cell (p:=(Z9 w 0)) x2).trans m0;have s1:=(g.cell (p:=(Z9 w 1)) x2).trans m1;have s2:=(g.cell (p:=(Z9 w 2)) x2).trans m2;have s3:=(g.cell (p:=(Z9 w 3)) x2).trans m3;have s4:=(g.cell (p:=(Z9 w 4)) x2).trans m4;have sf:∀o,w4.frozen? (Z9 w o)=false:=fun o=>(g.frozen (p:=(Z9 w o)) x2).trans (mf o);have x4:=Be x2 g.size;have U:=O (u.below g);have av:=O (A.trans (g.mono A.size));clear g))
 all_goals
  clear u A T P Q j m0 m1 m2 m3 m4 n1 n2 n3 n4 n5 mf x2 x3;obtain⟨V,W⟩:=K8 i.d3 i.d4 f (hN f);generalize aw:AE d f (hN f)=pl at HR V W ⊢;clear aw;have hn:=Z.n;by_cases X:pl<0
  focus
   have B:Hid (RT d 0 f=default):=O (HR.trans (Cs (by omega)));have k:CO E pl=none:=Cs (by omega);rw[k];clear k;go_wp2;refine DO (v:=.agg #[J 0,J 0,F9 0,E9,J 0]) (by simp[results,results354,go_sem,s0,s1,s2,s3,s4]) rfl ⟨by rw[z B];rfl,?_⟩
  rotate_left
  focus
   obtain⟨q,hq⟩:∃q:Nat,pl=(q:Int):=⟨pl.toNat,by omega⟩;subst hq;have ax:q<d.n:=by omega
   have B:Hid (RT d 0 f=(d.L q).val):=O (HR.trans (by unfold GB;rw[C3 (by omega)];rfl));have k:CO E (q:Int)=some (G (E q) 0):=by unfold CO;rw[C3 (by omega)];rfl
   rw[k];have C:=U.Ca q ax;have e0:=C.v0;have e1:=C.v1;have e2:=C.v2;have e3:=C.v3;have e4:=C.v4;have el:=C.lt;clear k C V W X;go_wp2;refine DO (v:=VV (d.L q).val) (by simp[results,results354,go_sem,s0,s1,s2,s3,s4]) rfl ⟨by rw[z B],?_⟩
  rotate_left;all_goals
   iterate 5 (refine W0 ?_ (by show w.heap.size<=w.heap.size+1+1;omega) _)
   exact av
end
theorem Bq(n a nm:Int)(w:Y):
  C9 83 #[J n,J a,J nm] w fun e w'=>e=.returned (.bool (CM n a nm))/\w'=w:=by
 by_cases h:nm=0
 focus
  have c:(nm==0)=true:=by simp[h]
  have b:Hid (CM n a nm=(decide (0<=n)&&decide (n<1))):=O (by unfold CM;rw[C3 h])
 rotate_left
 focus
  have c:(nm==0)=false:=by simp[h]
  have b:Hid (CM n a nm=(decide (0<=n)&&decide (n<a))):=O (by unfold CM;rw[Cs h])
 rotate_left;all_goals
  clear h;cases t:decide (0<=n)
  ·go_enter func83,ntmps83
   go_wp2;go_ret;exact⟨by rw[z b,t];rfl,rfl⟩
  ·go_enter func83,ntmps83
   go_wp2;go_ret;exact⟨by rw[z b,t];rfl,rfl⟩
theorem DJ(v:Vl)(nm:Int)(w:Y):
  C9 84 #[V v.kind v.num v.Ae v.str v.ref,J nm] w (R9 (.bool (DY v nm)) w):=by
 have c:B9 w (w.alloc (.cells #[J v.kind,J v.num,F9 v.Ae,.string v.str,J v.ref] 43)):=n9;have b:=O c;clear c;cases t0:v.ok
 ·have d:Hid (DY v nm=false):=O (by unfold DY;rw[t0];rfl)
  go_enter func84,ntmps84
  go_wp2_with fail
  refine((show AB v.kind v.num v.Ae v.str v.ref=_ from t0)▸BK v.kind v.num v.Ae v.str v.ref _).mono ?_;rintro e w1 ⟨rfl,hb⟩;go_wp2_with fail
  go_ret;exact⟨by rw[z d];rfl,b.trans (hb.mono b.size)⟩
 ·by_cases h:nm=0
  focus
   have f:(nm==0)=true:=by simp[h]
   have a:(nm !=0)=false:=by simp[h]
   have d:Hid (DY v nm=(v.kind==0)):=O (by unfold DY;rw[t0,a];rfl)
  rotate_left
  focus
   have f:(nm==0)=false:=by simp[h]
   have a:(nm !=0)=true:=by simp[h]
   have d:Hid (DY v nm=true):=O (by unfold DY;rw[t0,a];rfl)
  rotate_left;all_goals
   clear h
   go_enter func84,ntmps84
   go_wp2_with fail
   refine((show AB v.kind v.num v.Ae v.str v.ref=_ from t0)▸BK v.kind v.num v.Ae v.str v.ref _).mono ?_;rintro e w1 ⟨rfl,hb⟩;obtain⟨hc,hf⟩:=AJ hb;have b:=O (b.trans (hb.mono b.size));clear hb;go_wp2_with fail
   go_ret;exact⟨by rw[z d];rfl,b⟩
theorem QA(op:Int)(h1:1<=op)(a:op<=9):∃fn,∀w,(Instr.index 149 DP (J op)).run prog w=.ok (.agg #[J (jE op),fn]) w:=by
 rcases(by omega:op=1\/op=2\/op=3\/op=4\/op=5\/op=6\/op=7\/op=8\/op=9)with rfl|rfl|rfl|rfl|rfl|rfl|rfl|rfl|rfl
 ·exact⟨.func (.func 141) #[] #[],fun w=>by kernel_rfl⟩
 ·exact⟨.func (.func 142) #[] #[],fun w=>by kernel_rfl⟩
 ·exact⟨.func (.func 143) #[] #[],fun w=>by kernel_rfl⟩
 ·exact⟨.func (.func 144) #[] #[],fun w=>by kernel_rfl⟩
 ·exact⟨.func (.func 145) #[] #[],fun w=>by kernel_rfl⟩
 ·exact⟨.func (.func 146) #[] #[],fun w=>by kernel_rfl⟩
 ·exact⟨.func (.func 147) #[] #[],fun w=>by kernel_rfl⟩
 ·exact⟨.func (.func 148) #[] #[],fun w=>by kernel_rfl⟩
 ·exact⟨.func (.func 149) #[] #[],fun w=>by kernel_rfl⟩
theorem Tt(x:Int)(fn:V9)(w:Y):(Instr.field 148 (.agg #[J x,fn]) 0).run prog w=.ok (J x) w:=by kernel_rfl
theorem UO(a:Ac)(w:Y):
  C9 32 #[IC a] w (R9 (.bool (AY a)) w):=by
 obtain⟨W,m⟩:∃W,W=w.alloc (.cells #[J a.op,J a.t,J a.site,J a.n,J a.k.kind,J a.k.num,F9 a.k.Ae,.string a.k.str,J a.k.ref,J a.v.kind,J a.v.num,F9 a.v.Ae,.string a.v.str,J a.v.ref] 51):=⟨_,rfl⟩;have D:B9 w W:=by rw[m];exact(DD _ _).alloc (A0 _) _
 have c0:W.cell? (y w 0)=some (J a.op):=by rw[m];simp[go_sem]
 have c1:W.cell? (y w 1)=some (J a.t):=by rw[m];simp[go_sem]
 have c2:W.cell? (y w 2)=some (J a.site):=by rw[m];simp[go_sem]
 have c3:W.cell? (y w 3)=some (J a.n):=by rw[m];simp[go_sem]
 have c4:W.cell? (y w 4)=some (J a.k.kind):=by rw[m];simp[go_sem]
 have c5:W.cell? (y w 5)=some (J a.k.num):=by rw[m];simp[go_sem]
 have c6:W.cell? (y w 6)=some (F9 a.k.Ae):=by rw[m];simp[go_sem]
 have c7:W.cell? (y w 7)=some (.string a.k.str):=by rw[m];simp[go_sem]
 have S:W.cell? (y w 8)=some (J a.k.ref):=by rw[m];simp[go_sem]
 have T:W.cell? (y w 9)=some (J a.v.kind):=by rw[m];simp[go_sem]
 have E:W.cell? (y w 10)=some (J a.v.num):=by rw[m];simp[go_sem]
 have RG:W.cell? (y w 11)=some (F9 a.v.Ae):=by rw[m];simp[go_sem]
 have F:W.cell? (y w 12)=some (.string a.v.str):=by rw[m];simp[go_sem]
 have H:W.cell? (y w 13)=some (J a.v.ref):=by rw[m];simp[go_sem]
 have c:w.heap.size<W.heap.size:=by rw[m];simp
 have f:=O D;clear D;by_cases h1:a.op<1
 ·have U:decide (a.op<1)=true:=by simp[h1]
  have o:Hid (AY a=false):=O (by unfold AY;simp[show a.op≠1 by omega,show a.op≠2 by omega,show a.op≠3 by omega,show a.op≠4 by omega,show a.op≠5 by omega,show a.op≠6 by omega,show a.op≠7 by omega,show a.op≠8 by omega,show a.op≠9 by omega]);clear h1
  go_enter func32,ntmps32
  go_wp2_with fail
  go_ret;exact⟨by rw[z o];rfl,by rw[<-m];exact f⟩
 have U:decide (a.op<1)=false:=by simp[h1]
 by_cases M:9<a.op
 ·have I:decide (9<a.op)=true:=by simp[M]
  have o:Hid (AY a=false):=O (by unfold AY;simp[show a.op≠1 by omega,show a.op≠2 by omega,show a.op≠3 by omega,show a.op≠4 by omega,show a.op≠5 by omega,show a.op≠6 by omega,show a.op≠7 by omega,show a.op≠8 by omega,show a.op≠9 by omega]);clear h1 M
  go_enter func32,ntmps32
  go_wp2_with fail
  go_ret;exact⟨by rw[z o];rfl,by rw[<-m];exact f⟩
 have I:decide (9<a.op)=false:=by simp[M]
 obtain⟨fn,P⟩:=QA a.op (by omega) (by omega);have Q:=Tt;have V:Hid (1<=a.op/\a.op<=9):=O ⟨by omega,by omega⟩;clear h1 M
 go_enter func32,ntmps32
 go_wp2_with fail
 rw[<-m];clear m;refine qr W ?_;refine GS (fun K hK=>?_);go_simp;refine⟨_,fun w' B=>qk B (Ke _),hK _ ?_⟩;clear hK K;refine N (h:=N (h:=?_));refine GS (fun K hK=>?_);go_simp;apply Exists.intro;refine And.intro (fun w' B=>?_) (hK _ ?_)
 ·rfl
 clear hK K;refine GS (fun K hK=>?_);go_simp;apply Exists.intro;refine And.intro (fun w' B=>?_) (hK _ ?_)
 ·rfl
 clear hK K;refine N (h:=?_);refine GO ?_;intro w1 A;obtain⟨d,R⟩:=AJ A;have e0:=(d _ _ c).trans c0;have e1:=(d _ _ c).trans c1;have e2:=(d _ _ c).trans c2;have e3:=(d _ _ c).trans c3;have p:=(d _ _ c).trans c4;have q:=(d _ _ c).trans c5;have r:=(d _ _ c).trans c6;have s:=(d _ _ c).trans c7;have u:=(d _ _ c).trans S;have x:=(d _ _ c).trans T;have g:=(d _ _ c).trans E;have i:=(d _ _ c).trans RG;have j:=(d _ _ c).trans F;have l:=(d _ _ c).trans H;have b:w.heap.size<w1.heap.size:=Be c A.size;have f:=O (f.trans (A.mono f.size));clear A d R c0 c1 c2 c3 c4 c5 c6 c7 S T E RG F H c U I P Q;have C:=O (W6 a V.1 V.2);cases t0:CM a.t 100 (bt a.op 1)
 case false=>
  have o:Hid (AY a=false):=O (by rw[<-z C];unfold C8;simp[t0]);go_wp2_with fail
  refine(t0▸Bq a.t 100 (bt a.op 1) _).mono ?_;rintro e w2 ⟨rfl,rfl⟩;go_wp2_with fail
  go_ret;exact⟨by rw[z o];rfl,f⟩
 cases t1:CM a.site 50 (bt a.op 2)
 case false=>
  have o:Hid (AY a=false):=O (by rw[<-z C];unfold C8;simp[t1]);go_wp2_with fail
  refine(t0▸Bq a.t 100 (bt a.op 1) _).mono ?_;rintro e w2 ⟨rfl,rfl⟩;go_wp2_with fail
  refine(t1▸Bq a.site 50 (bt a.op 2) _).mono ?_;rintro e w3 ⟨rfl,rfl⟩;go_wp2_with fail
  go_ret;exact⟨by rw[z o];rfl,f⟩
 cases t2:CM a.n 1000000000001 (bt a.op 4)
 case false=>
  have o:Hid (AY a=false):=O (by rw[<-z C];unfold C8;simp[t2]);go_wp2_with fail
  refine(t0▸Bq a.t 100 (bt a.op 1) _).mono ?_;rintro e w2 ⟨rfl,rfl⟩;go_wp2_with fail
  refine(t1▸Bq a.site 50 (bt a.op 2) _).mono ?_;rintro e w3 ⟨rfl,rfl⟩;go_wp2_with fail
  refine(t2▸Bq a.n 1000000000001 (bt a.op 4) _).mono ?_;rintro e w4 ⟨rfl,rfl⟩;go_wp2_with fail
  go_ret;exact⟨by rw[z o];rfl,f⟩
 cases t3:DY a.k (bt a.op 8)
 case false=>
  have o:Hid (AY a=false):=O (by rw[<-z C];unfold C8;simp[t3]);go_wp2_with fail
  refine(t0▸Bq a.t 100 (bt a.op 1) _).mono ?_;rintro e w2 ⟨rfl,rfl⟩;go_wp2_with fail
  refine(t1▸Bq a.site 50 (bt a.op 2) _).mono ?_;rintro e w3 ⟨rfl,rfl⟩;go_wp2_with fail
  refine(t2▸Bq a.n 1000000000001 (bt a.op 4) _).mono ?_;rintro e w4 ⟨rfl,rfl⟩;go_wp2_with fail
  refine(t3▸DJ a.k (bt a.op 8) _).mono ?_;rintro e X ⟨rfl,hb⟩;obtain⟨hc,hf⟩:=AJ hb;have e0:=(hc _ _ b).trans e0;have e1:=(hc _ _ b).trans e1;have e2:=(hc _ _ b).trans e2;have e3:=(hc _ _ b).trans e3;have p:=(hc _ _ b).trans p;have q:=(hc _ _ b).trans q;have r:=(hc _ _ b).trans r;have s:=(hc _ _ b).trans s;have u:=(hc _ _ b).trans u;have x:=(hc _ _ b).trans x;have g:=(hc _ _ b).trans g;have i:=(hc _ _ b).trans i;have j:=(hc _ _ b).trans j;have l:=(hc _ _ b).trans l;have b:=Be b hb.size;have f:=O (f.trans (hb.mono f.size));clear hb hc hf;go_wp2_with fail
  go_ret;exact⟨by rw[z o];rfl,f⟩
 cases t4:DY a.v (bt a.op 16)
 case false=>
  have o:Hid (AY a=false):=O (by rw[<-z C];unfold C8;simp[t4]);go_wp2_with fail
  refine(t0▸Bq a.t 100 (bt a.op 1) _).mono ?_;rintro e w2 ⟨rfl,rfl⟩;go_wp2_with fail
  refine(t1▸Bq a.site 50 (bt a.op 2) _).mono ?_;rintro e w3 ⟨rfl,rfl⟩;go_wp2_with fail
  refine(t2▸Bq a.n 1000000000001 (bt a.op 4) _).mono ?_;rintro e w4 ⟨rfl,rfl⟩;go_wp2_with fail
  refine(t3▸DJ a.k (bt a.op 8) _).mono ?_;rintro e X ⟨rfl,hb⟩;obtain⟨hc,hf⟩:=AJ hb;have e0:=(hc _ _ b).trans e0;have e1:=(hc _ _ b).trans e1;have e2:=(hc _ _ b).trans e2;have e3:=(hc _ _ b).trans e3;have p:=(hc _ _ b).trans p;have q:=(hc _ _ b).trans q;have r:=(hc _ _ b).trans r;have s:=(hc _ _ b).trans s;have u:=(hc _ _ b).trans u;have x:=(hc _ _ b).trans x;have g:=(hc _ _ b).trans g;have i:=(hc _ _ b).trans i;have j:=(hc _ _ b).trans j;have l:=(hc _ _ b).trans l;have b:=Be b hb.size;have f:=O (f.trans (hb.mono f.size));clear hb hc hf;go_wp2_with fail
  refine(t4▸DJ a.v (bt a.op 16) _).mono ?_;rintro e Z ⟨rfl,hb⟩;obtain⟨hc,hf⟩:=AJ hb;have e0:=(hc _ _ b).trans e0;have e1:=(hc _ _ b).trans e1;have e2:=(hc _ _ b).trans e2;have e3:=(hc _ _ b).trans e3;have p:=(hc _ _ b).trans p;have q:=(hc _ _ b).trans q;have r:=(hc _ _ b).trans r;have s:=(hc _ _ b).trans s;have u:=(hc _ _ b).trans u;have x:=(hc _ _ b).trans x;have g:=(hc _ _ b).trans g;have i:=(hc _ _ b).trans i;have j:=(hc _ _ b).trans j;have l:=(hc _ _ b).trans l;have b:=Be b hb.size;have f:=O (f.trans (hb.mono f.size));clear hb hc hf;go_wp2_with fail
  go_ret;exact⟨by rw[z o];rfl,f⟩
 have o:Hid (AY a=(a.op !=7||a.k.kind==4)):=O (by rw[<-z C];unfold C8;rw[t0,t1,t2,t3,t4];rfl);by_cases L:a.op=7
 focus
  have o1:(a.op==7)=true:=by simp[L]
  have o2:(a.op !=7)=false:=by simp[L]
  have o:Hid (AY a=(a.k.kind==4)):=O (by rw[z o,o2];rfl)
 rotate_left
 focus
  have o1:(a.op==7)=false:=by simp[L]
  have o2:(a.op !=7)=true:=by simp[L]
  have o:Hid (AY a=true):=O (by rw[z o,o2];rfl)
 rotate_left;all_goals
  clear L;go_wp2_with fail
  refine(t0▸Bq a.t 100 (bt a.op 1) _).mono ?_;rintro e w2 ⟨rfl,rfl⟩;go_wp2_with fail
  refine(t1▸Bq a.site 50 (bt a.op 2) _).mono ?_;rintro e w3 ⟨rfl,rfl⟩;go_wp2_with fail
  refine(t2▸Bq a.n 1000000000001 (bt a.op 4) _).mono ?_;rintro e w4 ⟨rfl,rfl⟩;go_wp2_with fail
  refine(t3▸DJ a.k (bt a.op 8) _).mono ?_;rintro e X ⟨rfl,hb⟩;obtain⟨hc,hf⟩:=AJ hb;have e0:=(hc _ _ b).trans e0;have e1:=(hc _ _ b).trans e1;have e2:=(hc _ _ b).trans e2;have e3:=(hc _ _ b).trans e3;have p:=(hc _ _ b).trans p;have q:=(hc _ _ b).trans q;have r:=(hc _ _ b).trans r;have s:=(hc _ _ b).trans s;have u:=(hc _ _ b).trans u;have x:=(hc _ _ b).trans x;have g:=(hc _ _ b).trans g;have i:=(hc _ _ b).trans i;have j:=(hc _ _ b).trans j;have l:=(hc _ _ b).trans l;have b:=Be b hb.size;have f:=O (f.trans (hb.mono f.size));clear hb hc hf;go_wp2_with fail
  refine(t4▸DJ a.v (bt a.op 16) _).mono ?_;rintro e Z ⟨rfl,hb⟩;obtain⟨hc,hf⟩:=AJ hb;have e0:=(hc _ _ b).trans e0;have e1:=(hc _ _ b).trans e1;have e2:=(hc _ _ b).trans e2;have e3:=(hc _ _ b).trans e3;have p:=(hc _ _ b).trans p;have q:=(hc _ _ b).trans q;have r:=(hc _ _ b).trans r;have s:=(hc _ _ b).trans s;have u:=(hc _ _ b).trans u;have x:=(hc _ _ b).trans x;have g:=(hc _ _ b).trans g;have i:=(hc _ _ b).trans i;have j:=(hc _ _ b).trans j;have l:=(hc _ _ b).trans l;have b:=Be b hb.size;have f:=O (f.trans (hb.mono f.size));clear hb hc hf;go_wp2_with fail
  go_ret;exact⟨by rw[z o];rfl,f⟩
section
def QN(Q:Exit->Act->World->Prop):Exit->Act->World->Prop
 |.normal,a,w=>Q .normal a w
 |_,_,_=>False
theorem QN.no{Q:Exit->Act->World->Prop}:¬LetsOut (QN Q):=fun⟨a,w,h⟩=>h
theorem QN.normal{Q:Exit->Act->World->Prop}{a:Act}{w:Y}(h:Q .normal a w):QN Q .normal a w:=h
section
variable {P:Program} {ops:Array Oper} {md:Region.Mode}
theorem tk{Q:Exit->Act->World->Prop}{S:World->Prop}{l rest:List Oper}(i:Nat){oi:Oper}{v:V9}{fuel:Nat}{listed:Array Bool}{a:Act}{w:Y}(b:l.drop i=oi::rest)(hc:(Region.noSelect l.toArray&&Region.free md l.toArray listed i&&(Region.ready md l.toArray listed).contains i)=true)
  (c:Region.wanted oi (yielded l.toArray a.tmps)=true) (hy:∀w,S w->(execOp a.eval oi).run P w=.ok (.value v) w) (d:S w) (h:wpAnyH P md l.toArray (QN Q) S fuel (listed.setIfInBounds i true) (a.put oi.dst v) w):wpAnyH P md l.toArray (QN Q) S (fuel+1) listed a w:=by
 simp only[OR]at hc;have hi:l.toArray[i]?=some oi:=by
  have h1:(l.drop i)[0]?=some oi:=by rw[b];rfl
  rw[List.getElem?_drop]at h1;simpa using h1
 exact wpAnyH_take hi hc.1.1 hc.1.2 hc.2 (fun _ _ _ h=>h) (Or.inl ⟨c,hy⟩) d h
theorem QN.imp{Q:Exit->Act->World->Prop}:∀(e:Exit) (a:Act) (w:Y),QN Q e a w->Q e a w:=fun e a w h=>by
 cases e<;>first|exact h|exact False.elim h
theorem Da{id:Nat}{Q:Exit->Act->World->Prop}{a:Act}{w:Y}(S:World->Prop)(b:P.follows .mixedOrders=true)(h:wpAnyH P .any ops (QN Q) S ops.size (Array.replicate ops.size false) a {w with drawn:=w.drawn+1}):(Code.region id ops true).wp P Q a w:=
 Code.wp_mono QN.imp (wp_region_held b h)
end
end
theorem tz{P:Program}{md:Region.Mode}{Q:Exit->Act->World->Prop}{S:World->Prop}{l rest:List Oper}(i:Nat){oi:Oper}{v:V9}{fuel:Nat}{listed:Array Bool}{a b:Act}{w:Y}(c:l.drop i=oi::rest:=by rfl)(hc:(Region.noSelect l.toArray&&Region.free md l.toArray listed i&&(Region.ready md l.toArray listed).contains i)=true:=by kernel_rfl)(d:Region.wanted oi (yielded l.toArray a.tmps)=true:=by rfl)(hy:∀w,S w->(execOp a.eval oi).run P w=.ok (.value v) w:=by(intro w' hs;(repeat(obtain⟨_,hs⟩:=hs));go_simp;try with_reducible rfl))(e:S w:=by assumption)(hb:a.put oi.dst v=b:=by(simp only[pS];rfl))(h:wpAnyH P md l.toArray (QN Q) S fuel (listed.setIfInBounds i true) b w):wpAnyH P md l.toArray (QN Q) S (fuel+1) listed a w:=tk i c hc d hy e (hb▸h)
theorem ry{P:Program}{md:Region.Mode}{ops:Array Oper}{Q:Exit->Act->World->Prop}{S:World->Prop}(i:Nat){fuel:Nat}{listed:Array Bool}{a:Act}{w:Y}{o:Oper}(h:∀b:Act->World->Prop,Shut (∀a w,S w->(S w->wpAnyH P md ops Q S fuel (listed.setIfInBounds i true) a w)->b a w)->if Region.wanted o (yielded ops a.tmps)=true then Oper.wp P o a w b Q else b (a.put o.dst undef) w)(c:ops[i]?=some o:=by rfl)(d:Region.ready md ops listed=[i]:=by kernel_rfl):wpAnyH P md ops Q S (fuel+1) listed a w:=AaG d (by simp) (.cons c h .nil)
theorem H9{P:Program}{ops:Array Oper}{id:Nat}{Q:Exit->Act->World->Prop}{a:Act}{w:Y}(S:World->Prop)(h:wpAnyH P .any ops (QN Q) S ops.size (Array.replicate ops.size false) a (World.drew w))(b:P.follows .mixedOrders=true:=by kernel_rfl):(Code.region id ops true).wp P Q a w:=Da S b h
theorem FM{P:Program}{md:Region.Mode}{ops:Array Oper}{S:World->Prop}{fuel:Nat}{Q:Exit->Act->World->Prop}{listed:Array Bool}{a:Act}{w:Y}(h:Q .normal a w)(b:Region.ready md ops listed=[]:=by kernel_rfl):wpAnyH P md ops (QN Q) S fuel listed a w:=wpAnyH_done b (QN.normal h) fuel
section
open Go.RowKit Go.Shelf
attribute [local go_sem] Oper.semAt_some
abbrev FV(b:Bool)(p:Pr):Value:=.agg #[.bool b,J p.key.kind,J p.key.num,F9 p.key.Ae,.string p.key.str,J p.key.ref,J p.val.kind,J p.val.num,F9 p.val.Ae,.string p.val.str,J p.val.ref,J p.turn]
def Pa(d:Dc)(t:Int)(l:List Nat):Option Nat:=l.find? (fun i=>decide (t<(d.L i).turn))
theorem J9{d:Dc}{t:Int}{l:List Nat}(h:∀i∈l,¬t<(d.L i).turn):Pa d t l=none:=by
 unfold Pa;rw[List.find?_eq_none];intro i hi;simpa using h i hi
theorem P7{d:Dc}{t:Int}{l a:List Nat}{i:Nat}(h:∀j∈l,¬t<(d.L j).turn)(b:l++[i]<+:a)(hi:t<(d.L i).turn):Pa d t a=some i:=by
 obtain⟨r,rfl⟩:=b;have h1:(l++[i]).find? (fun i=>decide (t<(d.L i).turn))=some i:=by
  rw[List.find?_append,show l.find? (fun i=>decide (t<(d.L i).turn))=none from J9 h];simp[hi]
 unfold Pa;rw[List.find?_append,h1];rfl
def jH(d:Dc):Option Nat->Bool×Pr
 |none=>(false,default)
 |some i=>(true,d.L i)
open Classical in
noncomputable def JJ(d:Dc)(t:Int):Bool×Pr:=if CE d (hD d)=0 then jH d (Pa d t (AU d d.n))else(false,default)
theorem OA{d:Dc}{t:Int}(h:CE d (hD d)=0)(e:Pa d t (AU d d.n)=none):JJ d t=(false,default):=by unfold JJ;rw[C3 h,e];rfl
theorem OB{d:Dc}{t:Int}{i:Nat}(h:CE d (hD d)=0)(e:Pa d t (AU d d.n)=some i):JJ d t=(true,d.L i):=by unfold JJ;rw[C3 h,e];rfl
def aV(d:Dc)(t:Int)(pre:List (He d)):Prop:=∀Z∈pre,¬t<(d.L Z.1).turn
def kI(d:Dc)(t:Int)(b:Nat)(pre:List (He d))(W:Y):Prop:=∃(a:List (He d)) (Z:He d),pre=a++[Z]/\aV d t a/\t<(d.L Z.1).turn/\W.cell? (G b 0)=some (.bool true)/\W.cell? (G b 1)=some (J (d.L Z.1).key.kind)/\W.cell? (G b 2)=some (J (d.L Z.1).key.num)/\W.cell? (G b 3)=some (F9 (d.L Z.1).key.Ae)/\W.cell? (G b 4)=some (.string (d.L Z.1).key.str)/\W.cell? (G b 5)=some (J (d.L Z.1).key.ref)/\W.cell? (G b 6)=some (J (d.L Z.1).val.kind)/\W.cell? (G b 7)=some (J (d.L Z.1).val.num)/\W.cell? (G b 8)=some (F9 (d.L Z.1).val.Ae)/\W.cell? (G b 9)=some (.string (d.L Z.1).val.str)/\W.cell? (G b 10)=some (J (d.L Z.1).val.ref)/\W.cell? (G b 11)=some (J (d.L Z.1).turn)
end
def Pm(f:Nat->Int)(m:Nat):Nat->Nat->Nat
 |k,0=>k
 |k,g+1=>if f k=0 then k else Pm f m (k+1) g
def Lp(d:Dc):Nat:=Pm d.I d.m 0 d.m
theorem WT{f:Nat->Int}{m k:Nat}(h:f k=0)(hk:k<m):Pm f m k (m-k)=k:=by
 obtain⟨g,hg⟩:∃g,m-k=g+1:=⟨m-k-1,by omega⟩;rw[hg];exact C3 h
theorem WS{f:Nat->Int}{m k:Nat}(h:f k≠0)(hk:k<m):Pm f m k (m-k)=Pm f m (k+1) (m-(k+1)):=by
 obtain⟨g,hg⟩:∃g,m-k=g+1:=⟨m-k-1,by omega⟩;rw[hg,show m-(k+1)=g by omega];exact Cs h
open Classical in
noncomputable def Fx(d:Dc):Int:=if CE d (hD d)=0 then(Lp d:Int)else 0
section
open Go.RowKit Go.Shelf
attribute [local go_sem] Oper.semAt_some
theorem RY(la:T9)(lc:Nat)(ia:T9)(ic:Nat)(xa:T9)(xc:Nat)(d:Dc)(t:Int)(w:Y)(hT:A8 w)(hA:Gy w la ia xa d)(hS:Small d)(hW:Rp d)(hk:CE d (hD d)=0):
  C9 353 #[Dv la lc ia ic xa xc d,J t] w (R9 (FV (JJ d t).1 (JJ d t).2) w):=by
 have HA:=O hA;have HS:=O hS;have HW:=O hW;have HT:=O hT;have ak:=O hk;have aM:=O (JW hk);clear hA hS hW hT hk;have bb:B9 w (((w.alloc (.cells #[.slice la d.n lc,.slice ia d.m ic,.slice xa d.x xc,J d.used,J d.live,J d.turns] 92)).alloc (.cells #[J t] 3)).alloc (.cells #[.bool false,J 0,J 0,F9 0,E9,J 0,J 0,J 0,F9 0,E9,J 0,J 0] 254)):=((n9).alloc (by simp) _).alloc (by simp;omega) _;have ae:=O bb;clear bb;refine(VC (n:=20)).1 ?_;refine AaP func353 rfl trivial ?_ rfl;simp only[ntmps353,Aas,Aad,UP,Nat.reduceAdd,Nat.reduceSub,Aag,Aaf,Aat,Aak,So,Aal]
 gi_wp2_with fail
 refine⟨trivial,?_⟩;refine(VC.2 (EP A8 AL la lc ia ic xa xc d (hD d) _ (AL _ _ HT ae) (HA.below ae) HS (fun q hq hk=>dN hk (HW q hq).1) ak)).mono ?_;rintro e w1 ⟨rfl,af⟩;obtain⟨j,bc⟩:=AJ af;have bp:=af.size;simp at bp;have y0:w.heap.size<w1.heap.size:=by omega
 have y1:w.heap.size+1<w1.heap.size:=by omega
 have I:w.heap.size+1+1<w1.heap.size:=by omega
 have q0:w1.cell? (y w 0)=some (.slice la d.n lc):=by rw[j _ _ (by simp;omega)];simp[go_sem]
 have q1:w1.cell? (y w 1)=some (.slice ia d.m ic):=by rw[j _ _ (by simp;omega)];simp[go_sem]
 have q2:w1.cell? (y w 2)=some (.slice xa d.x xc):=by rw[j _ _ (by simp;omega)];simp[go_sem]
 have q3:w1.cell? (y w 3)=some (J d.used):=by rw[j _ _ (by simp;omega)];simp[go_sem]
 have q4:w1.cell? (y w 4)=some (J d.live):=by rw[j _ _ (by simp;omega)];simp[go_sem]
 have q5:w1.cell? (y w 5)=some (J d.turns):=by rw[j _ _ (by simp;omega)];simp[go_sem]
 have tq:w1.cell? (Y9 w 0)=some (J t):=by rw[j _ _ (by simp)];simp[go_sem]
 have r0:w1.cell? (Z9 w 0)=some (.bool false):=by rw[j _ _ (by simp)];simp[go_sem]
 have r1:w1.cell? (Z9 w 1)=some (J 0):=by rw[j _ _ (by simp)];simp[go_sem]
 have r2:w1.cell? (Z9 w 2)=some (J 0):=by rw[j _ _ (by simp)];simp[go_sem]
 have r3:w1.cell? (Z9 w 3)=some (F9 0):=by rw[j _ _ (by simp)];simp[go_sem]
 have r4:w1.cell? (Z9 w 4)=some (E9):=by rw[j _ _ (by simp)];simp[go_sem]
 have r5:w1.cell? (Z9 w 5)=some (J 0):=by rw[j _ _ (by simp)];simp[go_sem]
 have r6:w1.cell? (Z9 w 6)=some (J 0):=by rw[j _ _ (by simp)];simp[go_sem]
 have r7:w1.cell? (Z9 w 7)=some (J 0):=by rw[j _ _ (by simp)];simp[go_sem]
 have r8:w1.cell? (Z9 w 8)=some (F9 0):=by rw[j _ _ (by simp)];simp[go_sem]
 have r9:w1.cell? (Z9 w 9)=some (E9):=by rw[j _ _ (by simp)];simp[go_sem]
 have bd:w1.cell? (Z9 w 10)=some (J 0):=by rw[j _ _ (by simp)];simp[go_sem]
 have bf:w1.cell? (Z9 w 11)=some (J 0):=by rw[j _ _ (by simp)];simp[go_sem]
 have fr:∀o,w1.frozen? (Z9 w o)=false:=fun o=>by rw[bc _ _ (by simp)];simp[go_sem]
 have R:=O (ae.trans (af.mono ae.size));clear af j bc
 gi_wp2_with fail
 refine⟨trivial,?_⟩;refine(VC.2 (E7 la lc ia ic xa xc d _ (HA.below R) HS aM.d3 aM.d4)).mono ?_;rintro e w2 ⟨⟨bk,R0,R1,R2,E,S,rfl,T⟩,ao⟩;have b8:=O (R.trans (ao.mono R.size));have aq:=O ao;have bg:=O T;clear ao T
 gi_wp2_with fail
 refine⟨trivial,?_⟩;refine(VC.2 (Fz bk _)).mono ?_;rintro e w4 ⟨rfl,rfl⟩
 gi_wp2_with fail
 obtain⟨u,hu⟩:∃u,u=w2.alloc (.cells #[Q9 bk] 289):=⟨_,rfl⟩;rw[<-hu];have zu:u.heap.size=w2.heap.size+1:=by rw[hu];simp
 have ar:B9 w2 u:=by rw[hu];exact(DD _ _).alloc (A0 _) _
 have bh:u.cell? (y w2 0)=some (Q9 bk):=by rw[hu];simp[go_sem]
 clear hu;have ag:=bg.below ar;have k:B9 w1 u:=aq.trans (ar.mono aq.size);have M:B9 w u:=R.trans (k.mono R.size);have tu:=(k.cell (p:=(Y9 w 0)) y1).trans tq;have x0:=(k.cell (p:=(Z9 w 0)) I).trans r0;have x1:=(k.cell (p:=(Z9 w 1)) I).trans r1;have x2:=(k.cell (p:=(Z9 w 2)) I).trans r2;have x3:=(k.cell (p:=(Z9 w 3)) I).trans r3;have x4:=(k.cell (p:=(Z9 w 4)) I).trans r4;have x5:=(k.cell (p:=(Z9 w 5)) I).trans r5;have x6:=(k.cell (p:=(Z9 w 6)) I).trans r6;have x7:=(k.cell (p:=(Z9 w 7)) I).trans r7;have x8:=(k.cell (p:=(Z9 w 8)) I).trans r8;have x9:=(k.cell (p:=(Z9 w 9)) I).trans r9;have ah:=(k.cell (p:=(Z9 w 10)) I).trans bd;have ai:=(k.cell (p:=(Z9 w 11)) I).trans bf;have fu:∀o,u.frozen? (Z9 w o)=false:=fun o=>(k.frozen (p:=(Z9 w o)) I).trans (fr o)
 have au:w.heap.size+1<u.heap.size:=Be y1 k.size;have g:w.heap.size+1+1<u.heap.size:=Be I k.size;have bq:=O (FZ (Aar au) (A0 _));clear zu;clear bg aq k ar q0 q1 q2 q3 q4 q5 tq r0 r1 r2 r3 r4 r5 r6 r7 r8 r9 bd bf fr;refine AaO rfl (by decide) (gf:=248) (lb:=#[Q9 w2.heap.size]) rfl trivial (enters_of func248 (by kernel_rfl) rfl)
  (JF 19 (by decide) bk R0 R1 R2 w2.heap.size u.heap.size E S d u ag HS ag.l0 (fun i hi=>(ag.Ca i hi).lt) bh) belowK_t (belowK_b (A0 _)) (DD _ _) (fun _=>rfl)
  (fun pre W=>aV d t pre/\B9 u W)
  (fun c pre W=>(c=.ret/\kI d t (w.heap.size+1+1) pre W)/\B9 w W)
  (OwnFrom.and (ownFrom_pure _ (fun pre:List (He d)=>aV d t pre)) (ownFrom_below (A0 _) (A0 _)))
  (fun c=>OwnFrom.and (Own.from (fun s A B row hs hg Q=>⟨hs.1,by obtain⟨U,Z,h1,h2,h3,c0,c1,c2,c3,c4,c5,c6,c7,c8,c9,V,RG⟩:=hs.2;exact⟨U,Z,h1,h2,h3,IF c0 hg Q,IF c1 hg Q,IF c2 hg Q,IF c3 hg Q,IF c4 hg Q,IF c5 hg Q,IF c6 hg Q,IF c7 hg Q,IF c8 hg Q,IF c9 hg Q,IF V hg Q,IF RG hg Q⟩⟩) _) (ownFrom_below (A0 _) (by have:=z bq;have:=y1;omega)))
  ⟨fun Z hy=>(by cases hy),DD _ _⟩
  ?a1 ?assign ?body ?done ?stop
 case assign=>
  intro l x W K hK
  gi_wp2
  exact hK
 case body=>
  rintro l pre ⟨i,hi,ht⟩ W ⟨hp,a⟩ _;have T:=ag.below a;obtain⟨H,k0,k1,k2,k3,k4,v0,v1,v2,v3,v4,tn,_,_⟩:=T.Ca i hi;have tW:=(a.cell (p:=(Y9 w 0)) au).trans tu;have b9:w.heap.size+1<W.heap.size:=Be au a.size;have F:w.heap.size+1+1<W.heap.size:=Be g a.size;have a0:=(a.cell (p:=(Z9 w 0)) g).trans x0;have a1:=(a.cell (p:=(Z9 w 1)) g).trans x1;have a2:=(a.cell (p:=(Z9 w 2)) g).trans x2;have a3:=(a.cell (p:=(Z9 w 3)) g).trans x3;have a4:=(a.cell (p:=(Z9 w 4)) g).trans x4;have a5:=(a.cell (p:=(Z9 w 5)) g).trans x5;have a6:=(a.cell (p:=(Z9 w 6)) g).trans x6;have a7:=(a.cell (p:=(Z9 w 7)) g).trans x7;have a8:=(a.cell (p:=(Z9 w 8)) g).trans x8;have a9:=(a.cell (p:=(Z9 w 9)) g).trans x9;have bj:=(a.cell (p:=(Z9 w 10)) g).trans ah;have bm:=(a.cell (p:=(Z9 w 11)) g).trans ai;have fW:∀o,W.frozen? (Z9 w o)=false:=fun o=>(a.frozen (p:=(Z9 w o)) g).trans (fu o)
  have HP:=O hp;clear hp T bh x0 x1 x2 x3 x4 x5 x6 x7 x8 x9 ah ai tu;by_cases P:t<(d.L i).turn
  ·have HL:=O P;have ax:decide (t<(d.L i).turn)=true:=by simp[P]
   clear P
   gi_wp2
   refine wpIn_region_quiet (C:=fun w'=>B9 W w') (by kernel_rfl) (by kernel_rfl) (by kernel_rfl) ((DD _ _).drew) ?_;show wpQuiet _ _ _ _ [_,_,_,_,_,_,_] _;refine N (h:=N (h:=N (h:=N (h:=N (h:=N (h:=N (h:=?_)))))));refine GO ?_;intro w5 f;have HK:=O (CN f);have aj:=O (M.trans ((a.trans (f.mono a.size)).mono M.size));have ca:=(f.cell (p:=(G (E i) 0)) H).trans k0;have cb:=(f.cell (p:=(G (E i) 1)) H).trans k1;have cc:=(f.cell (p:=(G (E i) 2)) H).trans k2;have cd:=(f.cell (p:=(G (E i) 3)) H).trans k3;have cg:=(f.cell (p:=(G (E i) 4)) H).trans k4;have ch:=(f.cell (p:=(G (E i) 5)) H).trans v0;have cj:=(f.cell (p:=(G (E i) 6)) H).trans v1;have ck:=(f.cell (p:=(G (E i) 7)) H).trans v2;have cl:=(f.cell (p:=(G (E i) 8)) H).trans v3;have cm:=(f.cell (p:=(G (E i) 9)) H).trans v4;have b6:=(f.cell (p:=(G (E i) 10)) H).trans tn;have br:=(f.cell (p:=(Z9 w 0)) F).trans a0;have bt:=(f.cell (p:=(Z9 w 1)) F).trans a1;have bu:=(f.cell (p:=(Z9 w 2)) F).trans a2;have bw:=(f.cell (p:=(Z9 w 3)) F).trans a3;have bx:=(f.cell (p:=(Z9 w 4)) F).trans a4;have bz:=(f.cell (p:=(Z9 w 5)) F).trans a5;have b0:=(f.cell (p:=(Z9 w 6)) F).trans a6;have b1:=(f.cell (p:=(Z9 w 7)) F).trans a7;have b2:=(f.cell (p:=(Z9 w 8)) F).trans a8;have b3:=(f.cell (p:=(Z9 w 9)) F).trans a9;have ay:=(f.cell (p:=(Z9 w 10)) F).trans bj;have az:=(f.cell (p:=(Z9 w 11)) F).trans bm;have f5:∀o,w5.frozen? (Z9 w o)=false:=fun o=>(f.frozen (p:=(Z9 w o)) F).trans (fW o)
   have b7:E i<w5.heap.size:=Be H f.size;have cn:w.heap.size+1+1<w5.heap.size:=Be F f.size;clear f k0 k1 k2 k3 k4 v0 v1 v2 v3 v4 tn a0 a1 a2 a3 a4 a5 a6 a7 a8 a9 bj bm fW
   gi_wp2
   refine⟨?_,⟨rfl,pre,⟨i,hi,ht⟩,rfl,HP,HL,?_⟩,?_⟩
   ·refine HK.trans ?_;iterate 11 (refine KeepsOthers.trans ?_ (TC _ _ _))
    exact TC _ _ _
   ·refine⟨?_,?_,?_,?_,?_,?_,?_,?_,?_,?_,?_,?_⟩<;>simp[go_sem,br,bt,bu,bw,bx,bz,b0,b1,b2,b3,ay,az]
   ·iterate 12 (refine W0 ?_ (by show w.heap.size<=w.heap.size+1+1;omega) _)
    exact aj
  ·have HL:=O P;have ax:decide (t<(d.L i).turn)=false:=by simp[P]
   clear P
   gi_wp2
   refine wpIn_region_quiet (C:=fun w'=>B9 W w') (by kernel_rfl) (by kernel_rfl) (by kernel_rfl) ((DD _ _).drew) ?_;show wpQuiet _ _ _ _ [_,_,_,_,_,_,_] _;refine N (h:=N (h:=N (h:=N (h:=N (h:=N (h:=N (h:=?_)))))));refine GO ?_;intro w5 f;have HK:=O (CN f);have aj:=O f;clear f
   gi_wp2
   exact⟨HK,aj.mono a.size,fun Z hy=>(AaM.1 hy).elim (HP Z) (fun e=>by rw[MM]at e;subst e;exact Int.not_lt.2 HL),a.trans (aj.mono a.size)⟩
 case done=>
  rintro D ys W hD bn ⟨hp,a⟩ hK;have HR:Hid (JJ d t=(false,default)):=O (OA ak (J9 (fun i hi=>by
   rw[<-show ys.map (·.1)=AU d d.n from bn]at hi;obtain⟨Z,hy,rfl⟩:=List.mem_map.1 hi;exact hp Z hy)))
  have c0:=(a.cell (p:=(Z9 w 0)) g).trans x0;have c1:=(a.cell (p:=(Z9 w 1)) g).trans x1;have c2:=(a.cell (p:=(Z9 w 2)) g).trans x2;have c3:=(a.cell (p:=(Z9 w 3)) g).trans x3;have c4:=(a.cell (p:=(Z9 w 4)) g).trans x4;have c5:=(a.cell (p:=(Z9 w 5)) g).trans x5;have c6:=(a.cell (p:=(Z9 w 6)) g).trans x6;have c7:=(a.cell (p:=(Z9 w 7)) g).trans x7;have c8:=(a.cell (p:=(Z9 w 8)) g).trans x8;have c9:=(a.cell (p:=(Z9 w 9)) g).trans x9;have V:=(a.cell (p:=(Z9 w 10)) g).trans ah;have RG:=(a.cell (p:=(Z9 w 11)) g).trans ai;have fW:∀o,W.frozen? (Z9 w o)=false:=fun o=>(a.frozen (p:=(Z9 w o)) g).trans (fu o)
  clear bn hp x0 x1 x2 x3 x4 x5 x6 x7 x8 x9 ah ai
  gi_wp2
  obtain⟨Y,v⟩:∃Y,Y=((((((((((((W.setCell (Z9 w 0) (.bool false)).setCell (Z9 w 1) (J 0)).setCell (Z9 w 2) (J 0)).setCell (Z9 w 3) (F9 0)).setCell (Z9 w 4) (E9)).setCell (Z9 w 5) (J 0)).setCell (Z9 w 6) (J 0)).setCell (Z9 w 7) (J 0)).setCell (Z9 w 8) (F9 0)).setCell (Z9 w 9) (E9)).setCell (Z9 w 10) (J 0)).setCell (Z9 w 11) (J 0)):=⟨_,rfl⟩;rw[<-v];have b4:KeepsOthers W Y:=by
   rw[v];iterate 11 (refine KeepsOthers.trans ?_ (TC _ _ _))
   exact TC _ _ _
  have hK':=b4.same D _ hK rfl;have b5:B9 w Y:=by
   rw[v];iterate 12 (refine W0 ?_ (by show w.heap.size<=w.heap.size+1+1;omega) _)
   exact M.trans (a.mono M.size)
  have d0:Y.cell? (Z9 w 0)=some (.bool false):=by rw[v];simp[go_sem,c0]
  have d1:Y.cell? (Z9 w 1)=some (J 0):=by rw[v];simp[go_sem,c1]
  have d2:Y.cell? (Z9 w 2)=some (J 0):=by rw[v];simp[go_sem,c2]
  have d3:Y.cell? (Z9 w 3)=some (F9 0):=by rw[v];simp[go_sem,c3]
  have d4:Y.cell? (Z9 w 4)=some (E9):=by rw[v];simp[go_sem,c4]
  have d5:Y.cell? (Z9 w 5)=some (J 0):=by rw[v];simp[go_sem,c5]
  have d6:Y.cell? (Z9 w 6)=some (J 0):=by rw[v];simp[go_sem,c6]
  have d7:Y.cell? (Z9 w 7)=some (J 0):=by rw[v];simp[go_sem,c7]
  have d8:Y.cell? (Z9 w 8)=some (F9 0):=by rw[v];simp[go_sem,c8]
  have d9:Y.cell? (Z9 w 9)=some (E9):=by rw[v];simp[go_sem,c9]
  have d10:Y.cell? (Z9 w 10)=some (J 0):=by rw[v];simp[go_sem,V]
  have d11:Y.cell? (Z9 w 11)=some (J 0):=by rw[v];simp[go_sem,RG]
  refine⟨by simp,.inl ⟨_,_,rfl,AaE hK',?_⟩⟩;have e0:=IF d0 (ID _ D (.deferred none)) (fun r e=>by cases e;exact⟨_,hK',rfl⟩);have e1:=IF d1 (ID _ D (.deferred none)) (fun r e=>by cases e;exact⟨_,hK',rfl⟩);have e2:=IF d2 (ID _ D (.deferred none)) (fun r e=>by cases e;exact⟨_,hK',rfl⟩);have e3:=IF d3 (ID _ D (.deferred none)) (fun r e=>by cases e;exact⟨_,hK',rfl⟩);have e4:=IF d4 (ID _ D (.deferred none)) (fun r e=>by cases e;exact⟨_,hK',rfl⟩);have e5:=IF d5 (ID _ D (.deferred none)) (fun r e=>by cases e;exact⟨_,hK',rfl⟩);have e6:=IF d6 (ID _ D (.deferred none)) (fun r e=>by cases e;exact⟨_,hK',rfl⟩);have e7:=IF d7 (ID _ D (.deferred none)) (fun r e=>by cases e;exact⟨_,hK',rfl⟩);have e8:=IF d8 (ID _ D (.deferred none)) (fun r e=>by cases e;exact⟨_,hK',rfl⟩);have e9:=IF d9 (ID _ D (.deferred none)) (fun r e=>by cases e;exact⟨_,hK',rfl⟩);have av:=IF d10 (ID _ D (.deferred none)) (fun r e=>by cases e;exact⟨_,hK',rfl⟩);have aw:=IF d11 (ID _ D (.deferred none)) (fun r e=>by cases e;exact⟨_,hK',rfl⟩);refine⟨.agg #[.bool false,J 0,J 0,F9 0,E9,J 0,J 0,J 0,F9 0,E9,J 0,J 0],?_,by rw[z HR];rfl,b5.trans (belowK_b (w:=w) (A0 _) _ D _ _ (FZ M.size hD) hK' rfl rfl)⟩;simp[results,f353,go_sem,e0,e1,e2,e3,e4,e5,e6,e7,e8,e9,av,aw]
 case stop=>
  rintro D c pre W hD ad ⟨⟨rfl,U,Z,rfl,h1,h2,c0,c1,c2,c3,c4,c5,c6,c7,c8,c9,V,RG⟩,a⟩ hK;have hp:(U++[Z]).map (·.1)<+:AU d d.n:=ad;rw[Aac]at hp;have HR:Hid (JJ d t=(true,d.L Z.1)):=O (OB ak (P7 (fun b hb=>by obtain⟨X,hz,rfl⟩:=List.mem_map.1 hb;exact h1 X hz) hp h2));clear ad h1 h2 hp
  gi_wp2
  refine⟨by simp,.inl ⟨_,_,rfl,AaE hK,?_⟩⟩;have e0:=IF c0 (ID _ D (.deferred none)) (fun r e=>by cases e;exact⟨_,hK,rfl⟩);have e1:=IF c1 (ID _ D (.deferred none)) (fun r e=>by cases e;exact⟨_,hK,rfl⟩);have e2:=IF c2 (ID _ D (.deferred none)) (fun r e=>by cases e;exact⟨_,hK,rfl⟩);have e3:=IF c3 (ID _ D (.deferred none)) (fun r e=>by cases e;exact⟨_,hK,rfl⟩);have e4:=IF c4 (ID _ D (.deferred none)) (fun r e=>by cases e;exact⟨_,hK,rfl⟩);have e5:=IF c5 (ID _ D (.deferred none)) (fun r e=>by cases e;exact⟨_,hK,rfl⟩);have e6:=IF c6 (ID _ D (.deferred none)) (fun r e=>by cases e;exact⟨_,hK,rfl⟩);have e7:=IF c7 (ID _ D (.deferred none)) (fun r e=>by cases e;exact⟨_,hK,rfl⟩);have e8:=IF c8 (ID _ D (.deferred none)) (fun r e=>by cases e;exact⟨_,hK,rfl⟩);have e9:=IF c9 (ID _ D (.deferred none)) (fun r e=>by cases e;exact⟨_,hK,rfl⟩);have av:=IF V (ID _ D (.deferred none)) (fun r e=>by cases e;exact⟨_,hK,rfl⟩);have aw:=IF RG (ID _ D (.deferred none)) (fun r e=>by cases e;exact⟨_,hK,rfl⟩);refine⟨FV true (d.L Z.1),?_,by rw[z HR],a.trans (belowK_b (w:=w) (A0 _) W D _ _ (FZ M.size hD) hK rfl rfl)⟩;simp[results,f353,go_sem,e0,e1,e2,e3,e4,e5,e6,e7,e8,e9,av,aw]
end
theorem KP{B:Nat}{a w:Y}(h:Below B a w)(b:Nat)(hb:B<=b)(v0 v1 v2 v3 v4:V9):
  Below B a (((((w.setCell (G b 0) v0).setCell (G b 1) v1).setCell (G b 2) v2).setCell (G b 3) v3).setCell (G b 4) v4):=
 ((((h.setCell (p:=(G b 0)) hb v0).setCell (p:=(G b 1)) hb v1).setCell (p:=(G b 2)) hb v2).setCell (p:=(G b 3)) hb v3).setCell (p:=(G b 4)) hb v4
structure YC (w:Y) (b:Nat) (k:Vl):Prop where
 lt:b<w.heap.size
 c0:w.cell? (G b 0)=some (J k.kind)
 c1:w.cell? (G b 1)=some (J k.num)
 c2:w.cell? (G b 2)=some (F9 k.Ae)
 c3:w.cell? (G b 3)=some (.string k.str)
 c4:w.cell? (G b 4)=some (J k.ref)
theorem YC.keep{w w':Y}{b:Nat}{k:Vl}(h:YC w b k)(hl:w.heap.size<=w'.heap.size)(hk:w'.heap[b]?=w.heap[b]?):YC w' b k:=
 ⟨by have:=h.lt;omega,(As (a:=(G b 0)) hk).trans h.c0,(As (a:=(G b 1)) hk).trans h.c1,(As (a:=(G b 2)) hk).trans h.c2,(As (a:=(G b 3)) hk).trans h.c3,(As (a:=(G b 4)) hk).trans h.c4⟩
theorem YC.below{B:Nat}{w w':Y}{b:Nat}{k:Vl}(h:YC w b k)(hb:Below B w w')(a:b<B):YC w' b k:=h.keep hb.size (hb.block _ a)
theorem BL(op:Int)(w:Y):
  C9 100 #[J op] w fun e w'=>e=.returned (.tuple #[.bool (B7 op),.bool (Cp op)])/\w'=w:=by
 by_cases h1:op=1
 ·subst h1
  go_enter func100,ntmps100
  go_wp2;exact DO (v:=.tuple #[.bool false,.bool false]) (by simp[results,results100,go_sem]) rfl ⟨rfl,rfl⟩
 ·by_cases a:op=7
  ·subst a
   go_enter func100,ntmps100
   go_wp2;exact DO (v:=.tuple #[.bool false,.bool false]) (by simp[results,results100,go_sem]) rfl ⟨rfl,rfl⟩
  ·by_cases b:op=8
   ·subst b
    go_enter func100,ntmps100
    go_wp2;exact DO (v:=.tuple #[.bool true,.bool true]) (by simp[results,results100,go_sem]) rfl ⟨rfl,rfl⟩
   ·have c:Hid (B7 op=true):=O (by simp[B7,h1,a]);have d:Hid (Cp op=(op==9)):=O (by simp[Cp,b]);have d1:(op !=1)=true:=by simp[h1]
    have d7:(op !=7)=true:=by simp[a]
    have d8:(op==8)=false:=by simp[b]
    clear h1 a b
    go_enter func100,ntmps100
    go_wp2;exact DO (v:=.tuple #[.bool true,.bool (op==9)]) (by simp[results,results100,go_sem]) rfl ⟨by rw[z c,z d],rfl⟩
theorem MF(s:ByteArray)(w:Y):
  C9 130 #[.string s] w (R9 (V (A7 s).kind (A7 s).num (A7 s).Ae (A7 s).str (A7 s).ref) w):=by
 go_enter func130,ntmps130
 go_wp2;exact DO (v:=V 4 0 0 s 0) (by simp[results,results130,go_sem]) rfl ⟨rfl,n9⟩
theorem Xy(f:Nat->Pr):∀n,∀u∈pL f n,u.oneCell'=true
 |0,u,h=>by cases h
 |n+1,u,h=>by
  rcases AaM.1 h with h|h
  ·exact Xy f n u h
  ·exact Er _ u h
abbrev aT:List Value:=[J 0,J 0,F9 0,E9,J 0,J 0,J 0,F9 0,E9,J 0,J 0]
section
theorem DG.form{w:Y}{B n:Nat}{v:V9}{f:Nat->Int}(h:DG w B v n f)(hn:0<n):∃g a,v=S9 g n a/\B<=g/\g<w.heap.size/\n<=a/\(∀i,i<n->w.cell? (G g i)=some (J (f i)))/\∀q,w.frozen? (G g q)=false:=by
 have h':=h;obtain⟨hl,⟨b,d⟩|⟨g,cap,cur,b,hb,c,h1,h2,h3,h4⟩⟩:=h'
 ·omega
 ·subst b;exact⟨g,cap,rfl,hb,(h.lt g rfl).2,h1,fun i hi=>by rw[I9 h _ (by omega),GF hi],fun q=>W9 h q⟩
theorem Ci.form{w:Y}{B n:Nat}{v:V9}{f:Nat->Pr}(h:Ci w B v n f)(hn:0<n):∃g a,v=S9 g n a/\B<=g/\g<w.heap.size/\n<=a/\(∀i,i<n->Hf w g (i*11) (f i))/\∀q,w.frozen? (G g q)=false:=by
 have h':=h;obtain⟨hl,⟨b,d⟩|⟨g,cap,cur,b,hb,c,h1,h2,h3,h4⟩⟩:=h'
 ·omega
 ·subst b;refine⟨g,cap,rfl,hb,(h.lt g rfl).2,h1,fun i hi=>Hf.of fun j u hu=>?_,fun q=>W9 h q⟩;have hj:j<11:=by
   have:=(On.1 hu).1;simpa[Eb]using this
  rw[I9 h _ (by omega),Kq hi hj,hu]
theorem bV(f:Nat->Int)(n i:Nat)(x:Int)(hi:i<n):(iL f n).set i (J x)=iL (Bm f i x) n:=by
 apply List.ext_getElem?;intro q;rw[List.getElem?_set];by_cases hq:q<n
 ·by_cases e:i=q
  ·subst e;rw[C3 rfl,C3 (by rw[Cr];omega),GF hq,Al]
  ·rw[Cs e,GF hq,GF hq,Af _ _ (fun e'=>e e'.symm)]
 ·rw[Cs (by omega),SO (by rw[Cr];omega),SO (by rw[Cr];omega)]
theorem DG.set{w:Y}{B g n a:Nat}{f:Nat->Int}(h:DG w B (S9 g n a) n f){i:Nat}(hi:i<n)(x:Int):DG (w.setCell (G g i) (J x)) B (S9 g n a) n (Bm f i x):=by
 have h1:=(Wx h i (J x)).1;rw[bV f n i x hi]at h1;exact h1
section
variable {w:Y} {c o B:Nat} {v0 v1 v2:V9} {d:Dc}
end
theorem Zd(n:Nat):(madeCells #[Value.int .i64 0] n).toList=iL (fun _=>0) n:=by
 rw[toList_madeCells_one]
 induction n with
 |zero=>rfl
 |succ n ih=>rw[List.replicate_succ'];show _=iL (fun _=>0) n++[J 0];rw[<-ih]
theorem DG.made(w:Y)(B n:Nat)(hb:B<=w.heap.size)(hn:n<=4194304):DG (w.alloc (.cells (madeCells #[Value.int .i64 0] n) 3)) B (S9 w.heap.size n n) n (fun _=>0):=by
 have h:=World.ownsRow_lit (base:=B) (e:=3) (size:=1) w (madeCells #[Value.int .i64 0] n) n hb (by unfold maxLen;omega) (by rw[size_madeCells];omega);rw[Zd]at h;exact h
end
theorem Lt{P:Program}(w:Y)(t ty e:TypeId)(i:TypeInfo)(b:P.underlying t=some (.slice e))(hi:P.info? e=some i)(a:T9)(c:Nat):
  (Builtin.append_ #[t,t] ty #[N9,.slice a 0 c]).run P w=.ok (N9) w:=by
 cases a<;>simp[Builtin.append_,run_underlying b,sizeOf,typeInfo,hi,Builtin.lenOf,Builtin.firstCells,loadCells,loadCellsFrom]
theorem RW(w:Y):w.grownBy w none:=⟨rfl,rfl,rfl,A0 _,fun _ _ _=>rfl⟩
theorem Ls{P:Program}(w:Y)(t ty:TypeId)(base:Nat)(e:TypeId)(i:TypeInfo)(Z:V9)(size bytes:Nat)(p:P.underlying t=some (.slice e))(hi:P.info? e=some i)(hz:i.zero=some Z)
  (b:i.size=size) (k:i.bytes=bytes) (l:Z.cells.size=size) (n:0<size)
  (o:T9) (m c:Nat) (news:List Value) (hl:news.length=m*size) (d:m=0\/∃h,o=some h/\∀j u,news[j]?=some u->w.cell? (h.add j)=some u) (h1:∀u∈news,u.oneCell'=true)
  (s:m<=maxLen) (a:m*bytes<=140737488355328) (f:base<=w.heap.size) (H:Nat) (v:w.heap.size=H):
  ∃a' cap w',(Builtin.append_ #[t,t] ty #[N9,.slice o m c]).run P w=.ok (.slice a' m cap) w'/\
   w'.ownsRow base e size (.slice a' m cap) m news/\w.grownBy w' none/\(∀q,(Value.slice a' m cap).ownBlock=some q->q=H):=by
 rcases AaH m with h0|h0
 ·subst h0;have hn:news=[]:=List.eq_nil_of_length_eq_zero (by rw[hl];simp);subst hn;exact⟨none,0,w,Lt w t ty e i p hi o c,ON _ _ _ _,RW w,fun q e=>by cases e⟩
 ·obtain⟨h,rfl,hn⟩:=d.resolve_left (by omega);obtain⟨g,cap,w',r,h2,h3,h4,h5⟩:=run_append_lies (P:=P) w t ty base e i Z size bytes p hi hz b k l n (N9) 0 [] (ON _ _ _ _) h m c news hl hn h1 h0 (by omega) (by simpa using a) f H v;simp only[Aaa,So]at r h2;exact⟨some (G g 0),cap,w',r,h2,h3,fun q e=>by cases e;exact h4.resolve_left (by simp[Value.ownBlock])⟩
theorem Ib{P:Program}(w:Y){o:Oper}{a:Act}{K:Act->World->Prop}{Q:Exit->Act->World->Prop}(s x:Operand)(t:TypeId)
  (A:o.op=.call {callee:=.builtin .append,args:=#[s,x],argTypes:=#[t,t]})
  (base:Nat) (e:TypeId) (i:TypeInfo) (Z:V9) (size bytes:Nat) (B:P.underlying t=some (.slice e)) (hi:P.info? e=some i) (hz:i.zero=some Z)
  (d:i.size=size) (k:i.bytes=bytes) (l:Z.cells.size=size) (n:0<size) (hs:a.eval s=N9)
  (p:T9) (m c:Nat) (news:List Value) (hx:a.eval x=.slice p m c) (hl:news.length=m*size) (f:m=0\/∃v,p=some v/\∀j u,news[j]?=some u->w.cell? (v.add j)=some u) (h1:∀u∈news,u.oneCell'=true)
  (r:m<=maxLen) (b:m*bytes<=140737488355328) (g:base<=w.heap.size) (H:Nat) (C:w.heap.size=H)
  (h:∀a' cap w',w'.ownsRow base e size (.slice a' m cap) m news->w.grownBy w' none->(∀q,(Value.slice a' m cap).ownBlock=some q->q=H)->K (a.put o.dst (.slice a' m cap)) w'):o.wp P a w K Q:=by
 obtain⟨a',cap,w',D,h2,h3,h4⟩:=Ls (P:=P) w t o.type base e i Z size bytes B hi hz d k l n p m c news hl f h1 r b g H C;unfold Oper.wp execOp;simp only[A,resolve,invoke,builtin,AaA,Sem.run_pure,Result.andThen_ok,List.map_toArray,List.map_cons,List.map_nil,hs,hx,D];exact h a' cap w' h2 h3 h4
theorem Cn{P:Program}{w:Y}{ops:Array Oper}{rest:List Oper}{o:Oper}{a:Act}{Q:Exit->Act->World->Prop}(k:o.guard=none)(s x:Operand)(t:TypeId)
  (B:o.op=.call {callee:=.builtin .append,args:=#[s,x],argTypes:=#[t,t]})
  (base:Nat) (e:TypeId) (i:TypeInfo) (Z:V9) (size bytes:Nat) (C:P.underlying t=some (.slice e)) (hi:P.info? e=some i) (hz:i.zero=some Z)
  (d:i.size=size) (l:i.bytes=bytes) (n:Z.cells.size=size) (p:0<size) (hs:a.eval s=N9)
  (r:T9) (m c:Nat) (news:List Value) (hx:a.eval x=.slice r m c) (hl:news.length=m*size) (f:m=0\/∃A,r=some A/\∀j u,news[j]?=some u->w.cell? (A.add j)=some u) (h1:∀u∈news,u.oneCell'=true)
  (v:m<=maxLen) (b:m*bytes<=140737488355328) (g:base<=w.heap.size) (H:Nat) (D:w.heap.size=H)
  (h:∀a' cap w',w'.ownsRow base e size (.slice a' m cap) m news->w.grownBy w' none->(∀q,(Value.slice a' m cap).ownBlock=some q->q=H)->wpList P ops Q rest (a.put o.dst (.slice a' m cap)) w'):wpList P ops Q (o::rest) a w:=
 wpList_plain k fun _ hK=>Ib w s x t B base e i Z size bytes C hi hz d l n p hs r m c news hx hl f h1 v b g H D fun a' cap w' h2 h3 h4=>hK _ _ (h a' cap w' h2 h3 h4)
theorem Gw{P:Program}(w:Y){ops:Array Oper}{o:Oper}{a:Act}{K:Act->World->Prop}{Q:Exit->Act->World->Prop}{E:Prop}(k:o.guard=none)(s x:Operand)(t:TypeId)
  (B:o.op=.call {callee:=.builtin .append,args:=#[s,x],argTypes:=#[t,t]})
  (base:Nat) (e:TypeId) (i:TypeInfo) (Z:V9) (size bytes:Nat) (C:P.underlying t=some (.slice e)) (hi:P.info? e=some i) (hz:i.zero=some Z)
  (d:i.size=size) (l:i.bytes=bytes) (n:Z.cells.size=size) (p:0<size) (hs:a.eval s=N9)
  (r:T9) (m c:Nat) (news:List Value) (hx:a.eval x=.slice r m c) (hl:news.length=m*size) (f:m=0\/∃A,r=some A/\∀j u,news[j]?=some u->w.cell? (A.add j)=some u) (h1:∀u∈news,u.oneCell'=true)
  (v:m<=maxLen) (b:m*bytes<=140737488355328) (g:base<=w.heap.size) (H:Nat) (D:w.heap.size=H)
  (h:∀a' cap w',w'.ownsRow base e size (.slice a' m cap) m news->w.grownBy w' none->(∀q,(Value.slice a' m cap).ownBlock=some q->q=H)->K (a.put o.dst (.slice a' m cap)) w'):
  if Region.wanted o (yielded ops a.tmps)=true then Oper.wp P o a w K Q else E:=by
 have F:Region.wanted o (yielded ops a.tmps)=true:=by simp[Region.wanted,k]
 rw[C3 F];exact Ib w s x t B base e i Z size bytes C hi hz d l n p hs r m c news hx hl f h1 v b g H D h
section
open Go.RowKit Go.Shelf
section
variable {P:Program} {ops:Array Oper} {md:Region.Mode}
theorem Rm{l n:Nat}{o:Oper}{a:Act}{K i:Act->World->Prop}{Q:Exit->Act->World->Prop}{w:Y}(k:∀c,o.op≠.defer c)(h:∀a w,K a w->i a w)(b:o.wp P a w K (QN Q)):o.wpIn (Fence.wide.inRound l) n P a w i Q:=by
 unfold Oper.wp at b;refine⟨fun _ _=>trivial,?_⟩;show o.uponIn (Fence.wide.inRound l) n P a i Q ((o.semAt (some l) a.eval).run P w);rw[Oper.semAt_some l _ _ k];generalize (execOp a.eval o).run P w=r at*;cases r with
 |ok x w'=>
  cases x<;>simp only[Oper.upon]at b<;>simp only[Oper.uponIn]
  case value u=>exact h _ _ b
  case skip=>exact h _ _ b
  case defer d=>exact h _ _ b
  case enter f args=>
   refine⟨fun b=>(by cases b),CallsIn.inRound l (VC.2 (b.mono fun e g j=>?_))⟩;cases e with
   |returned v=>exact h _ _ j
   |panicked c=>exact False.elim j
   |outgrown=>exact absurd j QN.no
  case row row args=>
   refine⟨fun b=>(by cases b),fun c cs m=>?_⟩;obtain⟨v,g,r,s⟩:=b c cs;exact⟨v,g,h _ _ r,stepsIn_wide.2 s⟩
 |halt x w'=>cases x<;>simp only[Oper.upon]at b<;>exact False.elim b
theorem LA{l n i:Nat}{a:Act}{K d:Act->World->Prop}{Q:Exit->Act->World->Prop}{w:Y}(e:FY ops=true)(h:∀a w,K a w->d a w)(hh:wpOp P ops (QN Q) i K a w):wpOpIn (Fence.wide.inRound l) n P ops Q i d a w:=by
 unfold wpOp at hh;unfold wpOpIn
 split
 ·rename_i b;simp only[b]at hh;exact h _ _ hh
 ·rename_i o b
  simp only[b]at hh
  split
  ·rename_i c
   simp only[c,Aaz]at hh;rcases hh with hh|hh
   ·exact Rm (JH e b) h hh
   ·exact absurd hh.2 QN.no
  ·rename_i c;simp only[c]at hh;exact⟨fun _ _=>trivial,h _ _ hh⟩
theorem G7{l n:Nat}{Q:Exit->Act->World->Prop}(b:FY ops=true):∀(fuel:Nat) (listed:Array Bool) (a:Act) (w:Y),wpAny P md ops (QN Q) fuel listed a w->wpAnyIn (Fence.wide.inRound l) n P md ops Q fuel listed a w
 |0,_,_,_,h=>h
 |fuel+1,_,_,_,h=>⟨h.1,fun i hi=>LA b (fun a' w' h'=>G7 b fuel _ a' w' h') (h.2 i hi)⟩
theorem Np{l n id:Nat}{Q:Exit->Act->World->Prop}{a:Act}{w:Y}(S:World->Prop)(b:P.follows .mixedOrders=true)(c:FY ops=true)(h:wpAnyH P .any ops (QN Q) S ops.size (Array.replicate ops.size false) a {w with drawn:=w.drawn+1}):(Code.region id ops true).wpIn (Fence.wide.inRound l) n P Q a w:=
 wpIn_region_any b (G7 c _ _ _ _ (wpAny_of_held _ _ _ _ h))
theorem Nq{n id:Nat}{Q:Exit->Act->World->Prop}{a:Act}{w:Y}(S:World->Prop)(b:P.follows .mixedOrders=true)(h:wpAnyH P .any ops (QN Q) S ops.size (Array.replicate ops.size false) a {w with drawn:=w.drawn+1}):(Code.region id ops true).wpIn Fence.wide n P Q a w:=
 wpIn_wide.2 (Da S b h)
end
end
section
def Gb(f:Nat->Option Addr):Nat->List Value
 |0=>[]
 |k+1=>Gb f k++[.pointer (f k)]
theorem CF(f:Nat->Option Addr)(n:Nat):(Gb f n).length=n:=by
 induction n with
 |zero=>rfl
 |succ n ih=>simp[Gb,ih]
theorem JL{f:Nat->Option Addr}{n i:Nat}(hi:i<n):(Gb f n)[i]?=some (.pointer (f i)):=by
 induction n with
 |zero=>omega
 |succ n ih=>
  show(Gb f n++[.pointer (f n)])[i]?=_;by_cases h:i<n
  ·rw[PC (by rw[CF];omega),ih h]
  ·have:i=n:=by omega
   subst this;rw[TO (by rw[CF];omega),CF];simp
theorem LK{f:Nat->Option Addr}{n:Nat}{xs:List Value}(hl:xs.length=n)(h:∀i,i<n->xs[i]?=some (.pointer (f i))):xs=Gb f n:=by
 apply List.ext_getElem?;intro q;by_cases hq:q<n
 ·rw[h q hq,JL hq]
 ·rw[SO (by omega),SO (by rw[CF];omega)]
theorem Kt{f g:Nat->Option Addr}{n:Nat}(h:∀i,i<n->f i=g i):Gb f n=Gb g n:=LK (CF f n) (fun i hi=>by rw[JL hi,h i hi])
theorem ZE(f:Nat->Option Addr)(n i:Nat)(a:T9)(hi:i<n):(Gb f n).set i (.pointer a)=Gb (Bm f i a) n:=by
 refine LK (by rw[List.length_set,CF]) (fun q hq=>?_);rw[List.getElem?_set];by_cases e:i=q
 ·subst e;rw[C3 rfl,C3 (by rw[CF];omega),Al]
 ·rw[Cs e,JL hq,Af _ _ (fun e'=>e e'.symm)]
theorem QR(f:Nat->Option Addr)(n:Nat)(a:T9):Gb f n++[.pointer a]=Gb (Bm f n a) (n+1):=by
 show _=Gb (Bm f n a) n++[.pointer (Bm f n a n)];rw[Al,Kt (f:=Bm f n a) (g:=f) (fun i hi=>Af _ _ (by omega))]
theorem XJ(f:Nat->Option Addr)(n j:Nat)(h:j<=n):(Gb f n).take j=Gb f j:=by
 refine LK (by rw[List.length_take,CF];omega) (fun q hq=>?_);rw[AaU,C3 hq,JL (by omega)]
abbrev CW:TypeId:=292
abbrev Q8:TypeId:=331
abbrev Rw(w:Y)(B:Nat)(t:TypeId)(v:V9)(n:Nat)(f:Nat->Option Addr):Prop:=w.ownsRow B t 1 v n (Gb f n)
theorem Rw.form{w:Y}{B n:Nat}{t:TypeId}{v:V9}{f:Nat->Option Addr}(h:Rw w B t v n f)(hn:0<n):∃g a,v=S9 g n a/\B<=g/\g<w.heap.size/\n<=a/\(∀i,i<n->w.cell? (G g i)=some (.pointer (f i)))/\∀q,w.frozen? (G g q)=false:=by
 have h':=h;obtain⟨hl,⟨b,d⟩|⟨g,cap,cur,b,hb,c,h1,h2,h3,h4⟩⟩:=h'
 ·omega
 ·subst b;exact⟨g,cap,rfl,hb,(h.lt g rfl).2,h1,fun i hi=>by rw[I9 h _ (by omega),JL hi],fun q=>W9 h q⟩
theorem Rw.slice{w:Y}{B n:Nat}{t:TypeId}{v:V9}{f:Nat->Option Addr}(h:Rw w B t v n f):∃a c,v=.slice a n c:=by
 obtain⟨hl,⟨b,d⟩|⟨g,cap,cur,b,_⟩⟩:=h
 ·subst d;exact⟨none,0,b⟩
 ·exact⟨_,_,b⟩
theorem Rw.set{w:Y}{B g n b:Nat}{t:TypeId}{f:Nat->Option Addr}(h:Rw w B t (S9 g n b) n f){i:Nat}(hi:i<n)(a:T9):Rw (w.setCell (G g i) (.pointer a)) B t (S9 g n b) n (Bm f i a):=by
 have h1:=(Wx h i (.pointer a)).1;rw[ZE f n i a hi]at h1;exact h1
theorem Rw.cut{w:Y}{B g n b:Nat}{t:TypeId}{f:Nat->Option Addr}(h:Rw w B t (S9 g n b) n f){j:Nat}(hj:j<=n):Rw w B t (S9 g j b) j f:=by
 obtain⟨hl,⟨c,d⟩|⟨g',cap,cur,c,hb,a,h1,h2,h3,h4⟩⟩:=h
 ·cases c
 ·cases c;refine⟨by rw[CF];omega,.inr ⟨g,b,cur,rfl,hb,a,by omega,h2,h3,?_⟩⟩;have:cur.toList.take (j*1)=(cur.toList.take (n*1)).take j:=by rw[List.take_take];congr 1;omega
  rw[this,h4,XJ f n j hj]
theorem Rw.congr{w:Y}{B n:Nat}{t:TypeId}{v:V9}{f g:Nat->Option Addr}(h:Rw w B t v n f)(e:∀i,i<n->g i=f i):Rw w B t v n g:=by
 show w.ownsRow _ _ _ _ _ (Gb g n);rw[Kt e];exact h
theorem CD.own{w:Y}{R n B:Nat}{t:TypeId}{f:Nat->Option Addr}(h:CD w R n t f)(a:B<=R)(hn:n<=4194304):Rw w B t (S9 R n n) n f:=by
 obtain⟨g,⟨c,hb,hs,hc⟩,hg⟩:=h;refine⟨by rw[CF];omega,.inr ⟨R,n,c,rfl,a,hb,A0 _,by unfold maxLen;omega,by omega,?_⟩⟩;refine LK (by rw[List.length_take,Array.length_toList];omega) (fun i hi=>?_);rw[AaU,C3 (by omega),Array.getElem?_toList,hc i hi,hg i hi]
theorem A9{w:Y}{b:Nat}{c d:Array Value}{t t':TypeId}{fr a:Nat×Nat}(h:w.heap[b]?=some (.cells c t fr))(h':w.heap[b]?=some (.cells d t' a))(Cy:t≠t'):False:=by
 rw[h]at h';cases h';exact Cy rfl
theorem Rw.block{w:Y}{B n b:Nat}{t:TypeId}{v:V9}{f:Nat->Option Addr}(h:Rw w B t v n f)(e:v.ownBlock=some b):∃c,w.heap[b]?=some (.cells c t (0,0)):=by
 obtain⟨hl,⟨d,i⟩|⟨g,cap,cur,d,hb,a,_⟩⟩:=h
 ·subst d;cases e
 ·subst d;have e':g=b:=by simpa[Value.ownBlock]using e
  subst e';exact⟨cur,a⟩
theorem QB{w w3:Y}{B e size n:Nat}{v:V9}{xs:List Value}{row:Option Nat}(h:w.ownsRow B e size v n xs)(hg:w.grownBy w3 row)(c:∀b,row=some b->v.ownBlock≠some b):w3.ownsRow B e size v n xs:=by
 cases a:v.ownBlock with
 |none=>exact h.kept hg (.inl a)
 |some b=>exact h.kept hg (.inr (by rw[a];intro e;exact c b e.symm a))
structure AD (w:Y) (bk:Nat) (r0 r1:V9) (R2:Nat) (E S:Nat->Nat) (d:Dc):Prop where
 lt:bk<w.heap.size
 c0:w.cell? (G bk 0)=some r0
 c1:w.cell? (G bk 1)=some r1
 c2:w.cell? (G bk 2)=some KY
 c3:w.cell? (G bk 3)=some (S9 R2 d.x d.x)
 c4:w.cell? (G bk 4)=some (J d.used)
 c5:w.cell? (G bk 5)=some (J d.live)
 c6:w.cell? (G bk 6)=some (J d.turns)
 fz:∀q,w.frozen? (G bk q)=false
 log:Rw w (bk+1) CW r0 d.n (fun i=>some (G (E i) 0))
 ints:Rw w (bk+1) CW r1 d.m (fun i=>B1 E (d.I i))
 rf:∃a k1,r1=S9 a d.m k1
 slots:Rw w (bk+1) Q8 (S9 R2 d.x d.x) d.x (fun j=>Dd S j (d.X j))
 ap:∀q,r0.ownBlock=some q->r1.ownBlock≠some q
 Ca:∀i,i<d.n->Bo w (E i) (d.L i) i
 eb:∀i,i<d.n->bk<E i
 inj:∀i j,i<d.n->j<d.n->E i=E j->i=j
 sl:∀j,j<d.x->Dj w E S d j
 sg:∀j,j<d.x->d.X j≠0->bk<S j
theorem AD.TR{w:Y}{B bk a b R2:Nat}{E S:Nat->Nat}{d:Dc}(h:I0 w bk a b R2 E S d)(s:Ry w B bk a b R2 E S d)(c:Small d):AD w bk (S9 a d.n d.n) (S9 b d.m d.m) R2 E S d:=
 ⟨h.lt,s.e0,s.e1,h.c2,h.c3,h.c4,h.c5,h.c6,s.fz,s.o0.own s.g0 c.n,s.o1.own s.g1 c.m,⟨_,_,rfl⟩,s.o2.own s.g2 c.x,fun q e e'=>by
  have e1:a=q:=by simpa[Value.ownBlock]using e
  have e2:b=q:=by simpa[Value.ownBlock]using e'
  exact s.kX (e1.trans e2.symm),h.Ca,s.gE,h.inj,h.sl,fun j hj f=>Nat.lt_trans s.g2 (s.gS j hj f)⟩
theorem AD.JP{w:Y}{bk:Nat}{r0 r1:V9}{R2:Nat}{E S:Nat->Nat}{d:Dc}(h:AD w bk r0 r1 R2 E S d):bk<R2/\R2<w.heap.size:=h.slots.lt R2 rfl
theorem AD.book{w:Y}{bk:Nat}{r0 r1:V9}{R2:Nat}{E S:Nat->Nat}{d:Dc}(h:AD w bk r0 r1 R2 E S d):∃k b,I0 w bk k b R2 E S d:=by
 obtain⟨b,k1,e1⟩:=h.rf;have c:=h.ints.lt b (by rw[e1];rfl);have hi:∀i,i<d.m->w.cell? (G b i)=some (.pointer (B1 E (d.I i))):=fun i hi=>by
  obtain⟨g,f,e,_,_,_,hc,_⟩:=h.ints.form (by omega);rw[e1]at e;cases e;exact hc i hi
 have hx:∀j,j<d.x->w.cell? (G R2 j)=some (.pointer (Dd S j (d.X j))):=fun j hj=>by
  obtain⟨g,f,e,_,_,_,hc,_⟩:=h.slots.form (by omega);cases e;exact hc j hj
 by_cases hn:0<d.n
 ·obtain⟨g,f,e,l,hl,_,hc,_⟩:=h.log.form hn;refine⟨g,b,h.lt,⟨_,_,by rw[h.c0,e],fun _=>rfl⟩,⟨k1,by rw[h.c1,e1]⟩,h.c2,h.c3,h.c4,h.c5,h.c6,hc,h.Ca,h.inj,hi,hx,h.sl,hl,c.2,h.JP.2⟩
 ·obtain⟨a,f,e⟩:=h.log.slice;exact⟨bk,b,h.lt,⟨_,_,by rw[h.c0,e],fun h'=>absurd h' hn⟩,⟨k1,by rw[h.c1,e1]⟩,h.c2,h.c3,h.c4,h.c5,h.c6,fun i hi=>by omega,h.Ca,h.inj,hi,hx,h.sl,h.lt,c.2,h.JP.2⟩
theorem Dj.keep{w w':Y}{E S:Nat->Nat}{d:Dc}{j:Nat}(h:Dj w E S d j)(hs:w.heap.size<=w'.heap.size)(e:∀c,w.heap[S j]?=some (.cells c 333 (0,0))->w'.heap[S j]?=w.heap[S j]?):Dj w' E S d j:=
 ⟨fun a=>(h.1 a).keep hs (e _ (h.1 a).ob),fun a=>(h.2 a).keep hs (e _ (h.2 a).ob)⟩
theorem AD.below{w w':Y}{bk:Nat}{r0 r1:V9}{R2:Nat}{E S:Nat->Nat}{d:Dc}(h:AD w bk r0 r1 R2 E S d)(hb:B9 w w'):AD w' bk r0 r1 R2 E S d:=by
 have e:∀q,w'.cell? (G bk q)=w.cell? (G bk q):=fun q=>hb.cell (p:=(G bk q)) h.lt
 exact⟨Be h.lt hb.size,(e _).trans h.c0,(e _).trans h.c1,(e _).trans h.c2,(e _).trans h.c3,(e _).trans h.c4,(e _).trans h.c5,(e _).trans h.c6,fun q=>(hb.frozen (p:=(G bk q)) h.lt).trans (h.fz q),Gm h.log hb.size (fun q _ hq=>hb.block q hq),Gm h.ints hb.size (fun q _ hq=>hb.block q hq),h.rf,Gm h.slots hb.size (fun q _ hq=>hb.block q hq),h.ap,fun i hi=>(h.Ca i hi).keep hb.size (hb.block _ (h.Ca i hi).lt),h.eb,h.inj,fun j hj=>(h.sl j hj).keep hb.size (fun c hc=>hb.block _ (E1.1 hc).1),h.sg⟩
theorem AD.of_same{w:Y}{bk:Nat}{r0 r1:V9}{R2:Nat}{E S E':Nat->Nat}{d e:Dc}(h:AD w bk r0 r1 R2 E S d)(n:e.n=d.n)(m:e.m=d.m)(x:e.x=d.x)(u:e.used=d.used)(l:e.live=d.live)(t:e.turns=d.turns)(I:∀i,i<d.m->e.I i=d.I i)(X:∀j,j<d.x->e.X j=d.X j)
  (L:∀i,i<d.n->e.L i=d.L i) (a:∀i,i<d.n->E' i=E i) (f:∀i,i<d.m->d.I i<=d.n) (g:∀j,j<d.x->d.X j<=d.n):AD w bk r0 r1 R2 E' S e:=by
 have eP:∀p:Int,p<=d.n->B1 E' p=B1 E p:=fun p c=>by
  unfold B1;by_cases b:0<p
  ·rw[C3 b,C3 b,a _ (by omega)]
  ·rw[Cs b,Cs b]
 refine⟨h.lt,h.c0,h.c1,h.c2,by rw[x];exact h.c3,by rw[u];exact h.c4,by rw[l];exact h.c5,by rw[t];exact h.c6,h.fz,?_,?_,by rw[m];exact h.rf,?_,h.ap,fun i hi=>?_,fun i hi=>?_,fun i j hi hj=>?_,fun j hj=>?_,fun j hj b=>h.sg j (by omega) (by rw[<-X j (by omega)];exact b)⟩
 ·show w.ownsRow _ _ _ _ e.n (Gb _ e.n);rw[n];exact h.log.congr (fun i hi=>by rw[a i hi])
 ·show w.ownsRow _ _ _ _ e.m (Gb _ e.m);rw[m];exact h.ints.congr (fun i hi=>by rw[I i hi,eP _ (f i hi)])
 ·rw[x];exact h.slots.congr (fun j hj=>by rw[X j hj])
 ·rw[n]at hi;rw[a i hi,L i hi];exact h.Ca i hi
 ·rw[n]at hi;rw[a i hi];exact h.eb i hi
 ·rw[n]at hi hj;rw[a i hi,a j hj];exact h.inj i j hi hj
 ·rw[x]at hj;have hs:=h.sl j hj;unfold Dj at hs ⊢;rw[X j hj];refine⟨fun c=>?_,hs.2⟩;have hl:=g j hj;have:e.at (d.X j)=d.at (d.X j):=L _ (by omega);rw[this,a _ (by omega)];exact hs.1 c
section
variable {w:Y} {bk:Nat} {r0 r1:V9} {R2:Nat} {E S:Nat->Nat} {d:Dc}
theorem AD.DF(h:AD w bk r0 r1 R2 E S d){q:Nat}{u:V9}{g s1:V9}{Q2:Nat}{S':Nat->Nat}{e:Dc}
  (g0:(w.setCell (G bk q) u).cell? (G bk 0)=some g) (g1:(w.setCell (G bk q) u).cell? (G bk 1)=some s1) (g2:(w.setCell (G bk q) u).cell? (G bk 2)=some KY) (g3:(w.setCell (G bk q) u).cell? (G bk 3)=some (S9 Q2 e.x e.x))
  (g4:(w.setCell (G bk q) u).cell? (G bk 4)=some (J e.used)) (g5:(w.setCell (G bk q) u).cell? (G bk 5)=some (J e.live)) (g6:(w.setCell (G bk q) u).cell? (G bk 6)=some (J e.turns))
  (l:Rw w (bk+1) CW g e.n (fun i=>some (G (E i) 0))) (i:Rw w (bk+1) CW s1 e.m (fun i=>B1 E (e.I i))) (rf:∃o k1,s1=S9 o e.m k1) (x:Rw w (bk+1) Q8 (S9 Q2 e.x e.x) e.x (fun j=>Dd S' j (e.X j))) (ap:∀q,g.ownBlock=some q->s1.ownBlock≠some q)
  (en:∀i,i<e.n->Bo w (E i) (e.L i) i) (eb:∀i,i<e.n->bk<E i) (inj:∀i j,i<e.n->j<e.n->E i=E j->i=j) (sl:∀j,j<e.x->Dj w E S' e j) (k:∀j,j<e.x->e.X j≠0->bk<S' j):AD (w.setCell (G bk q) u) bk g s1 Q2 E S' e:=by
 have ob:∀b,b≠bk->(w.setCell (G bk q) u).heap[b]?=w.heap[b]?:=fun b hb=>At _ _ _ _ (by exact hb)
 have nb:∀{v:V9} {n:Nat} {f:Nat->Option Addr} {t:TypeId},Rw w (bk+1) t v n f->v.ownBlock≠some bk:=fun r e=>by have:=(r.lt bk e).1;omega
 have a:w.heap.size<=(w.setCell (G bk q) u).heap.size:=by simp
 refine⟨by simpa using h.lt,g0,g1,g2,g3,g4,g5,g6,fun p=>by rw[World.frozen?_setCell];exact h.fz p,World.ownsRow.kept l (DI w _ _) (.inr (nb l)),World.ownsRow.kept i (DI w _ _) (.inr (nb i)),rf,World.ownsRow.kept x (DI w _ _) (.inr (nb x)),ap,fun i hi=>(en i hi).keep a (ob _ (by have:=eb i hi;omega)),eb,inj,fun j hj=>?_,k⟩;by_cases s:e.X j=0
 ·exact⟨fun A=>by omega,fun A=>by omega⟩
 ·exact(sl j hj).keep a (fun c _=>ob _ (by have:=k j hj s;omega))
theorem AD.T1(h:AD w bk r0 r1 R2 E S d)(u:Int):AD (w.setCell (G bk 4) (J u)) bk r0 r1 R2 E S {d with used:=u}:=
 h.DF ((Ab (by decide)).trans h.c0) ((Ab (by decide)).trans h.c1) ((Ab (by decide)).trans h.c2) ((Ab (by decide)).trans h.c3) (NX _ _ _ (by rw[h.c4];rfl)) ((Ab (by decide)).trans h.c5) ((Ab (by decide)).trans h.c6) h.log h.ints h.rf h.slots h.ap h.Ca h.eb h.inj h.sl h.sg
theorem AD.T0(h:AD w bk r0 r1 R2 E S d)(u:Int):AD (w.setCell (G bk 5) (J u)) bk r0 r1 R2 E S {d with live:=u}:=
 h.DF ((Ab (by decide)).trans h.c0) ((Ab (by decide)).trans h.c1) ((Ab (by decide)).trans h.c2) ((Ab (by decide)).trans h.c3) ((Ab (by decide)).trans h.c4) (NX _ _ _ (by rw[h.c5];rfl)) ((Ab (by decide)).trans h.c6) h.log h.ints h.rf h.slots h.ap h.Ca h.eb h.inj h.sl h.sg
theorem AD.XY(h:AD w bk r0 r1 R2 E S d)(u:Int):AD (w.setCell (G bk 6) (J u)) bk r0 r1 R2 E S {d with turns:=u}:=
 h.DF ((Ab (by decide)).trans h.c0) ((Ab (by decide)).trans h.c1) ((Ab (by decide)).trans h.c2) ((Ab (by decide)).trans h.c3) ((Ab (by decide)).trans h.c4) ((Ab (by decide)).trans h.c5) (NX _ _ _ (by rw[h.c6];rfl)) h.log h.ints h.rf h.slots h.ap h.Ca h.eb h.inj h.sl h.sg
theorem AD.ZI(h:AD w bk r0 r1 R2 E S d){u:V9}{m:Nat}{I:Nat->Int}(i:Rw w (bk+1) CW u m (fun i=>B1 E (I i)))(rf:∃a k1,u=S9 a m k1)(ap:∀q,r0.ownBlock=some q->u.ownBlock≠some q):AD (w.setCell (G bk 1) u) bk r0 u R2 E S {d with m:=m,I:=I}:=
 h.DF ((Ab (by decide)).trans h.c0) (NX _ _ _ (by rw[h.c1];rfl)) ((Ab (by decide)).trans h.c2) ((Ab (by decide)).trans h.c3) ((Ab (by decide)).trans h.c4) ((Ab (by decide)).trans h.c5) ((Ab (by decide)).trans h.c6) h.log i rf h.slots ap h.Ca h.eb h.inj h.sl h.sg
theorem AD.XX(h:AD w bk r0 r1 R2 E S d){Q2 x:Nat}{X:Nat->Int}(i:Rw w (bk+1) Q8 (S9 Q2 x x) x (fun j=>Dd S j (X j)))(sl:∀j,j<x->Dj w E S {d with x:=x,X:=X} j)(sg:∀j,j<x->X j≠0->bk<S j):AD (w.setCell (G bk 3) (S9 Q2 x x)) bk r0 r1 Q2 E S {d with x:=x,X:=X}:=
 h.DF ((Ab (by decide)).trans h.c0) ((Ab (by decide)).trans h.c1) ((Ab (by decide)).trans h.c2) (NX _ _ _ (by rw[h.c3];rfl)) ((Ab (by decide)).trans h.c4) ((Ab (by decide)).trans h.c5) ((Ab (by decide)).trans h.c6) h.log h.ints h.rf i h.ap h.Ca h.eb h.inj sl sg
theorem AD.row(h:AD w bk r0 r1 R2 E S d){g q:Nat}{u:V9}(hg:bk<g){e:Dc}(hx:e.x=d.x)(hu:e.used=d.used)(hl:e.live=d.live)(a:e.turns=d.turns)(b:e.m=d.m)
  (l:Rw (w.setCell (G g q) u) (bk+1) CW r0 e.n (fun i=>some (G (E i) 0))) (i:Rw (w.setCell (G g q) u) (bk+1) CW r1 e.m (fun i=>B1 E (e.I i))) (x:Rw (w.setCell (G g q) u) (bk+1) Q8 (S9 R2 e.x e.x) e.x (fun j=>Dd S j (e.X j)))
  (en:∀i,i<e.n->Bo (w.setCell (G g q) u) (E i) (e.L i) i) (eb:∀i,i<e.n->bk<E i) (inj:∀i j,i<e.n->j<e.n->E i=E j->i=j) (sl:∀j,j<e.x->Dj (w.setCell (G g q) u) E S e j) (sg:∀j,j<e.x->e.X j≠0->bk<S j):AD (w.setCell (G g q) u) bk r0 r1 R2 E S e:=by
 have hc:∀p,(w.setCell (G g q) u).cell? (G bk p)=w.cell? (G bk p):=fun p=>AX (by omega)
 exact⟨by simpa using h.lt,(hc _).trans h.c0,(hc _).trans h.c1,(hc _).trans h.c2,by rw[hx];exact(hc _).trans h.c3,by rw[hu];exact(hc _).trans h.c4,by rw[hl];exact(hc _).trans h.c5,by rw[a];exact(hc _).trans h.c6,fun p=>by rw[World.frozen?_setCell];exact h.fz p,l,i,by rw[b];exact h.rf,x,h.ap,en,eb,inj,sl,sg⟩
theorem QC{w:Y}{B n g q:Nat}{t:TypeId}{v u:V9}{f:Nat->Option Addr}(h:Rw w B t v n f)(Cy:v.ownBlock≠some g):Rw (w.setCell (G g q) u) B t v n f:=World.ownsRow.kept h (DI w _ _) (.inr Cy)
theorem AD.gA{a k1:Nat}(h:AD w bk r0 (.slice (some (G a 0)) d.m k1) R2 E S d){i:Nat}(hi:i<d.m)(x:Int):AD (w.setCell (G a i) (.pointer (B1 E x))) bk r0 (.slice (some (G a 0)) d.m k1) R2 E S {d with I:=Bm d.I i x}:=by
 have k:=h.ints.lt a rfl;obtain⟨c1,f⟩:=h.ints.block (b:=a) rfl;obtain⟨c2,g⟩:=h.slots.block (b:=R2) rfl;have l:∀i,i<d.n->E i≠a:=fun j hj e=>A9 ((e▸(h.Ca j hj).ob)) f (by decide)
 have ob:∀b,b≠a->(w.setCell (G a i) (.pointer (B1 E x))).heap[b]?=w.heap[b]?:=fun b hb=>At _ _ _ _ (by exact hb)
 refine h.row k.1 rfl rfl rfl rfl rfl (QC h.log (fun e=>h.ap a e rfl)) ?_ (QC h.slots (fun e=>?_)) (fun j hj=>(h.Ca j hj).keep (by simp) (ob _ (l j hj))) h.eb h.inj (fun j hj=>?_) h.sg
 ·refine(h.ints.set hi (B1 E x)).congr (fun j hj=>?_);show B1 E (Bm d.I i x j)=Bm (fun i=>B1 E (d.I i)) i (B1 E x) j;by_cases e:j=i
  ·subst e;rw[Al,Al]
  ·rw[Af _ _ e,Af _ _ e]
 ·have e':R2=a:=by simpa[Value.ownBlock]using e
  subst e';exact A9 g f (by decide)
 ·refine(h.sl j hj).keep (by simp) (fun c hc=>ob _ (fun e=>?_));rw[e]at hc;exact A9 hc f (by decide)
theorem AD.cY(h:AD w bk r0 r1 R2 E S d){j:Nat}(hj:j<d.x){x:Int}(hx:x≠0){A:Array Value}(t:(0<x->A=SH (d.L (x-1).toNat).key (E (x-1).toNat))/\(x<0->A=Qq)):
  AD ((w.setCell (G R2 j) (.pointer (some (G w.heap.size 0)))).alloc (.cells A 333)) bk r0 r1 R2 E (Bm S j w.heap.size) {d with X:=Bm d.X j x}:=by
 have H:=h.JP;obtain⟨c2,l⟩:=h.slots.block (b:=R2) rfl;have m:=h.lt;obtain⟨W,g⟩:∃W,W=(w.setCell (G R2 j) (.pointer (some (G w.heap.size 0)))).alloc (.cells A 333):=⟨_,rfl⟩;rw[<-g];have C:W.heap.size=w.heap.size+1:=by rw[g];simp
 have ob:∀b,b<w.heap.size->b≠R2->W.heap[b]?=w.heap[b]?:=fun b hb o=>by rw[g];exact(Fs _ _ _ (by simpa using hb)).trans (At _ _ _ _ (by exact o))
 have a:W.heap[w.heap.size]?=some (.cells A 333 (0,0)):=by
  rw[g];have hg:=BE (w.setCell (G R2 j) (.pointer (some (G w.heap.size 0)))) (.cells A 333);simpa using hg
 have gr:w.grownBy W (some R2):=⟨by rw[g];rfl,by rw[g];rfl,by rw[g];rfl,by omega,fun k hk Cy=>ob k hk (fun e=>Cy (by rw[e]))⟩;have hc:∀p,W.cell? (G bk p)=w.cell? (G bk p):=fun p=>As (ob bk m (by omega))
 have u:∀{v:V9} {n:Nat} {f:Nat->Option Addr},Rw w (bk+1) CW v n f->Rw W (bk+1) CW v n f:=fun{v n f} B=>QB B gr (fun b e e'=>by
  cases e;obtain⟨c,hb⟩:=B.block e';exact A9 l hb (by decide))
 have D:∀i,i<d.n->E i≠R2:=fun i hi e=>A9 (e▸(h.Ca i hi).ob) l (by decide)
 refine⟨by omega,(hc _).trans h.c0,(hc _).trans h.c1,(hc _).trans h.c2,(hc _).trans h.c3,(hc _).trans h.c4,(hc _).trans h.c5,(hc _).trans h.c6,fun q=>(OK (ob bk m (by omega))).trans (h.fz q),u h.log,u h.ints,h.rf,?_,h.ap,fun i hi=>(h.Ca i hi).keep (by omega) (ob _ (h.Ca i hi).lt (D i hi)),h.eb,h.inj,fun i hi=>?_,fun i hi F=>?_⟩
 ·have hs:=(h.slots.set hj (some (G w.heap.size 0))).alloc (.cells A 333);rw[<-g]at hs;refine Rw.congr hs (fun i hi=>?_);show Dd (Bm S j w.heap.size) i (Bm d.X j x i)=Bm (fun j=>Dd S j (d.X j)) j (some (G w.heap.size 0)) i;by_cases e:i=j
  ·subst e;rw[Al,Al];unfold Dd;rw[Cs hx,Al]
  ·rw[Af _ _ e,Af _ _ e];unfold Dd;rw[Af _ _ e]
 ·unfold Dj;show(0<Bm d.X j x i->Ge W (Bm S j w.heap.size i) (d.L (Bm d.X j x i-1).toNat).key (E (Bm d.X j x i-1).toNat))/\(Bm d.X j x i<0->NT W (Bm S j w.heap.size i));by_cases e:i=j
  ·subst e;rw[Al,Al];refine⟨fun r=>?_,fun r=>?_⟩
   ·have hA:=t.1 r;subst hA;exact⟨by omega,by simp[World.cell?,a],by simp[World.cell?,a],by simp[World.cell?,a],by simp[World.cell?,a],by simp[World.cell?,a],by simp[World.cell?,a],by simp[World.cell?,a],a⟩
   ·have hA:=t.2 r;subst hA;exact⟨by omega,by simp[World.cell?,a],a⟩
  ·rw[Af _ _ e,Af _ _ e];have hk:=(h.sl i hi).keep (w':=W) (by omega) (fun c hc=>ob _ (E1.1 hc).1 (fun e'=>by rw[e']at hc;exact A9 hc l (by decide)));exact hk
 ·by_cases e:i=j
  ·subst e;rw[Al];exact m
  ·rw[Af _ _ e];exact h.sg i hi (by have s:Bm d.X j x i≠0:=F;rwa [Af _ _ e]at s)
end
end
def SD(g:Nat):World->Nat->List Value->World
 |w,_,[]=>w
 |w,q,u::us=>SD g (w.setCell (G g q) u) (q+1) us
def DB(d:Dc):Prop:=8<=d.n/\2*d.live<(d.n:Int)
theorem K1(bk:Nat)(r0 r1:V9)(R2:Nat)(E S:Nat->Nat)(d:Dc)(w:Y)(b:AD w bk r0 r1 R2 E S d)(g:Small d)(hl:0<=d.live)(i:d.live<=500):
  C9 293 #[Q9 bk] w (R9 (.bool (tells (DB d))) w):=by
 obtain⟨a,l,rfl⟩:=b.log.slice;have c0:=b.c0;have c5:=b.c5;have j:=b.lt;have hn:=g.n;clear b g;by_cases k:(8:Int)<=d.n
 case neg=>
  have c:=O (Bj (p:=DB d) (fun h=>k (by have:=h.1;omega)));have e:decide ((8:Int)<=d.n)=false:=by simp;omega
  go_enter func293,ntmps293
  go_wp2
  go_region
  go_wp2;go_ret;exact⟨by rw[z c];rfl,(DD _ _).drew⟩
 have e:decide ((8:Int)<=d.n)=true:=by simp;omega
 by_cases h2:2*d.live<(d.n:Int)
 focus
  have c:=O (Bl (p:=DB d) ⟨by omega,h2⟩);have f:decide (2*d.live<(d.n:Int))=true:=by simp;omega
 rotate_left
 focus
  have c:=O (Bj (p:=DB d) (fun h=>h2 h.2));have f:decide (2*d.live<(d.n:Int))=false:=by simp;omega
 rotate_left;all_goals
  go_enter func293,ntmps293
  go_wp2
  go_region
  go_wp2;go_ret;exact⟨by rw[z c];rfl,(DD _ _).drew⟩
theorem NC(n:Nat)(w:Y)(hn:n<=500):
  C9 315 #[J (n:Int)] w (R9 (J ((if n=0 then 0 else De n:Nat):Int)) w):=by
 by_cases d:n=0
 ·subst d
  go_enter func315,ntmps315
  go_wp2;go_ret;exact⟨rfl,DD _ _⟩
 have h:Hid ((if n=0 then 0 else De n:Nat)=DE 9 8 (4*n)):=O (Cs d);have e:((n:Int)==0)=false:=by simp;omega
 go_enter func315,ntmps315
 go_wp2;go_loopw [3] (fun i wr=>∃(k s:Nat),k<=9/\i=J (s:Int)/\s<=4000/\8<=s/\2000<=s*2^k/\DE 9 8 (4*n)=DE k s (4*n)/\B9 w wr) (fun i _=>4000-(intOf i).toNat)
 case atStart=>exact⟨9,8,by omega,rfl,by omega,by omega,by decide,rfl,DD _ _⟩
 case round=>
  obtain⟨k,s,hk,rfl,hs,f,h2,hg,hb⟩:=hrel;by_cases a:s<4*n
  ·obtain⟨k',rfl⟩:∃k',k=k'+1:=⟨k-1,by
    cases k with
    |zero=>simp at h2;omega
    |succ k=>omega⟩
   have b:Hid (DE 9 8 (4*n)=DE k' (2*s) (4*n)):=O (hg.trans (C3 a));have g:Hid (2000<=2*s*2^k'):=O (by rw[AaN]at h2;calc 2000<=s*(2^k'*2):=h2
    _=2*s*2^k':=by rw[Aav (2^k') 2,<-XN,Aav s 2])
   have c:=O hb;clear hg h2 hb;go_wp2;go_roundw
   case rel=>exact⟨k',2*s,by omega,by go_num,by omega,by omega,g,b,c⟩
   case measure=>simp[intOf];omega
  ·have b:Hid (DE 9 8 (4*n)=s):=O (hg.trans (by cases k with
    |zero=>rfl
    |succ k=>exact Cs a))
   have c:=O hb;clear hg h2 hb;go_wp2;go_ret;exact⟨by rw[show De n=s from z b];rfl,c⟩
def MG(w:Y)(b q:Nat):Nat:=match w.cell? (G b q)with
 |some (.slice _ n _)=>n
 |_=>0
theorem LH{w:Y}{b q n c:Nat}{a:Option Addr}(h:w.cell? (G b q)=some (.slice a n c)):MG w b q=n:=by unfold MG;rw[h]
theorem NL(bk:Nat)(r0 r1:V9)(R2:Nat)(E S:Nat->Nat)(d:Dc)(q:Nat)(w:Y)(a:AD w bk r0 r1 R2 E S d)(v:Small d)(hq:q<d.m)(x:∀j,j<d.m->0<=d.I j):
  C9 291 #[Q9 bk,J ((q:Int)+1)] w fun e w'=>((∃u,e=.returned u)/\∃r,AD w' bk r0 r R2 E S {d with m:=shrink (Bm d.I q 0) d.m,I:=Bm d.I q 0})/\Below bk w w':=by
 obtain⟨c,k1,rfl⟩:=a.rf;have F:=v.m;have H:=a.lt;have c1:=a.c1;have A:=a.ints.lt c rfl;have K:=A.2;obtain⟨g,R,e,_,_,L,hc,hf⟩:=a.ints.form (by omega);cases e;have d0:=hc q hq;have f0:=hf q;have l:∀j,j<d.m->0<=Bm d.I q 0 j:=fun j hj=>by
  by_cases e:j=q
  ·subst e;rw[Al];exact AaC _
  ·rw[Af _ _ e];exact x j hj
 have f:=a.gA hq 0;have bS:B1 E 0=none:=Cs (by decide);rw[bS]at f;have s:=O f;have t:Hid (Below bk w (w.setCell (G c q) (.pointer none))):=O ((DD _ _).setCell (by show bk<=c;omega) _);have M:=O l;clear a v hc hf A f x l bS
 go_enter func291,ntmps291
 go_wp2;clear c1 d0 f0;go_loopw [11] (fun _ wr=>∃k:Nat,k<=d.m/\AD wr bk r0 (S9 c k k1) R2 E S {d with m:=k,I:=Bm d.I q 0}/\Below bk w wr/\shrink (Bm d.I q 0) d.m=shrink (Bm d.I q 0) k) (fun _ wr=>MG wr bk 1)
 case atStart=>exact⟨d.m,A0 _,s,t,rfl⟩
 case round=>
  obtain⟨k,hk,a,h,b⟩:=hrel;have c1:=a.c1;have f1:=a.fz 1;have B:=a.lt;have n:=LH c1;cases k with
  |zero=>
   have o:Hid (shrink (Bm d.I q 0) d.m=0):=O b;have i:=O a;have p:=O h;clear a h b;go_wp2
   go_region
   go_wp2;go_end0;exact⟨⟨⟨_,rfl⟩,_,by rw[z o];exact i.below (DD _ _).drew⟩,p.drew⟩
  |succ k=>
   obtain⟨g',P,e',_,Q,C,hc,_⟩:=a.ints.form (by show 0<k+1;omega);cases e';have e0:wr.cell? (G c k)=some (.pointer (B1 E (Bm d.I q 0 k))):=hc k (by show k<k+1;omega);by_cases hz:Bm d.I q 0 k=0
   ·rw[hz,show B1 E 0=none from Cs (by decide)]at e0;have o:Hid (shrink (Bm d.I q 0) d.m=shrink (Bm d.I q 0) k):=O (b.trans (Lg hz));have i:=O (AD.ZI (u:=S9 c k k1) (I:=Bm d.I q 0) (m:=k) a (Rw.cut a.ints (j:=k) (by show k<=k+1;omega)) ⟨_,_,rfl⟩ a.ap);have p:=O h;clear a h b hz hc;go_wp2
    go_region
    go_wp2
    go_region
    go_wp2;go_roundw
    case rel=>exact⟨k,by omega,i.below (DD _ _).drew.drew,(p.setCell (by exact A0 _) _).drew.drew,o⟩
    case measure=>
     rw[show MG (wr.setCell (G bk 1) (S9 c k k1)).drew.drew bk 1=k from LH (z i).c1,n];omega
   ·have D:B1 E (Bm d.I q 0 k)=some (G (E (Bm d.I q 0 k-1).toNat) 0):=C3 (by have:=z M k (by omega);omega);rw[D]at e0;have o:Hid (shrink (Bm d.I q 0) d.m=k+1):=O (b.trans (Lf hz));have i:=O a;have p:=O h;clear a h b hz hc D;go_wp2
    go_region
    go_wp2;go_end0;exact⟨⟨⟨_,rfl⟩,_,by rw[z o];exact i.below (DD _ _).drew⟩,p.drew⟩
section
open Go.RowKit Go.Shelf
attribute [local go_sem] Oper.semAt_some
theorem AD.grown{w w':Y}{bk:Nat}{r0 r1:V9}{R2:Nat}{E S:Nat->Nat}{d:Dc}{row:Option Nat}(h:AD w bk r0 r1 R2 E S d)(hg:w.grownBy w' row)(g:∀r,row=some r->∃o:Obj,w.heap[r]?=some o/\o.isCells=false):AD w' bk r0 r1 R2 E S d:=by
 have ne:∀{b:Nat} {c:Array Value} {t:TypeId} {fr:Nat×Nat},w.heap[b]?=some (.cells c t fr)->w'.heap[b]?=w.heap[b]?:=fun{b c t fr} hb=>hg.block b (E1.1 hb).1 (fun e=>by
  obtain⟨o,k,hc⟩:=g b e.symm;rw[hb]at k;cases k;cases hc)
 have l:∀{t:TypeId} {v:V9} {n:Nat} {f:Nat->Option Addr},Rw w (bk+1) t v n f->Rw w' (bk+1) t v n f:=fun{t v n f} m=>QB m hg (fun b e e'=>by
  obtain⟨c,hb⟩:=m.block e';obtain⟨o,k,hc⟩:=g b e;rw[hb]at k;cases k;cases hc)
 exact⟨Be h.lt hg.size,IF h.c0 hg g,IF h.c1 hg g,IF h.c2 hg g,IF h.c3 hg g,IF h.c4 hg g,IF h.c5 hg g,IF h.c6 hg g,fun q=>(OK (a:=(G bk q)) (by
  have hc:=h.c0;unfold World.cell? at hc;cases hb:w.heap[bk]? with
  |none=>simp[hb]at hc
  |some o=>
   cases o with
   |cells c t fr=>rw[<-hb];exact ne hb
   |_=>simp[hb]at hc)).trans (h.fz q),l h.log,l h.ints,h.rf,l h.slots,h.ap,fun i hi=>(h.Ca i hi).keep hg.size (ne (h.Ca i hi).ob),h.eb,h.inj,fun j hj=>(h.sl j hj).keep hg.size (fun c hc=>ne hc),h.sg⟩
end
end Go.Proofs.YtgmlkfgfjjggnaaGreatDoor
