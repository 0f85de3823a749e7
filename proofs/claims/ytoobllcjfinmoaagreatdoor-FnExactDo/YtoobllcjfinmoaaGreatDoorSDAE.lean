import Derived.Test.YtoobllcjfinmoaaGreatDoorSDAD
set_option linter.all false
set_option maxHeartbeats 40000000
set_option maxRecDepth 100000
namespace Go.Proofs.YtoobllcjfinmoaaGreatDoor
open Go.Proofs.Tryz
open Go.RowKit
attribute [local go_sem] Ar Am
variable {x Z m n i j b k n' b0 B e o c g l p q bk R2 n0:Nat}{s s':AK}{t ty:TypeId}{a:Act}{v v' v0 v1 v2 u0 u1 u2 u r0 r1:V9}{K:Vl->Prop}{hf:Vl->Nat}{d:Dc}{f:Nat->Option Addr}{key:ByteArray}{f' F:Nat->A9}{M O':Nat->Prop}{w w1 w' A w3 C W:Y}{P:Program}{xs:List Value}{α:Type}{cs:Array Value}{A':Nat->Ad}{T:World->Prop}{la:Option Addr}{ops:Array Oper}{Q:Exit->Act->World->Prop}{rest:List Oper}{E S:Nat->Nat}{fn:Func}{R:Ending->World->Prop}{md:Region.Mode}
theorem LR(h:PS x Z=true):(∃s m i t n j,Ieee.double.read x=.number s m i/\Ieee.double.read Z=.number t n j/\-1074<=i/\-1074<=j/\m<2^53/\n<2^53/\(i=-1074\/2^52<=m)/\(j=-1074\/2^52<=n)/\Fl.sc s m i=Fl.sc t n j)\/∃s,Ieee.double.read x=.infinity s/\Ieee.double.read Z=.infinity s:=by
 have h':(Ieee.double.order x Z==some .eq)=true:=h;rcases Fl.Cl x with⟨s,m,i,b,hi,e,f,hc⟩|⟨s,b⟩|⟨s,t,b⟩
 .rcases Fl.Cl Z with⟨t,n,j,a,hj,c,hn,d⟩|⟨t,a⟩|⟨t,u,a⟩
  .rw[Fl.BG b a hi hj]at h';all_goals grind
  .unfold Ieee.Format.order at h';rw[b,a]at h';cases t<;>simp[Ieee.Datum.order]at h'
  unfold Ieee.Format.order at h';rw[b,a]at h';simp[Ieee.Datum.order]at h'
 .rcases Fl.Cl Z with⟨t,n,j,a,hj,c,hn,d⟩|⟨t,a⟩|⟨t,u,a⟩
  .unfold Ieee.Format.order at h';rw[b,a]at h';cases s<;>simp[Ieee.Datum.order]at h'
  .unfold Ieee.Format.order at h';cases s<;>cases t<;>simp[Ieee.Datum.order]at h'
   all_goals grind
  unfold Ieee.Format.order at h';rw[b,a]at h';simp[Ieee.Datum.order]at h'
 unfold Ieee.Format.order at h';rw[b]at h';simp[Ieee.Datum.order]at h'
theorem F0{s t}{i j}(a:Ieee.double.read x=.number s m i)(hy:Ieee.double.read Z=.number t n j)(hi:-1074<=i)(hj:-1074<=j)(e:Fl.sc s m i=Fl.sc t n j):PS x Z=true:=by
 show(Ieee.double.order x Z==some .eq)=true;rw[Fl.BG a hy hi hj,Fl.Hw];exact decide_eq_true e
theorem XH{s}(a:Ieee.double.read x=.infinity s)(hy:Ieee.double.read Z=.infinity s):PS x Z=true:=by
 show(Ieee.double.order x Z==some .eq)=true;rw[Ieee.Format.order,a,hy];cases s<;>simp[Ieee.Datum.order]
theorem TA(h:PS x Z=true):PS Z x=true:=by
 grind [LR,F0,XH]
theorem QJ{X}(h:PS x Z=true)(h':PS Z X=true):PS x X=true:=by
 grind [LR,F0,XH]
theorem bU{s t}{i j}(hi:-1074<=i)(hj:-1074<=j)(c:m<2^53)(hn:n<2^53)(hc:i=-1074\/2^52<=m)(a:j=-1074\/2^52<=n)(e:Fl.sc s m i=Fl.sc t n j)(d:Fl.sc s m i≠0):s=t/\m=n/\i=j:=by
 have pos:∀(m:Nat) (i:Int),0<=Fl.sc false m i/\Fl.sc false m i=((m*2^(i+1074).toNat:Nat):Int):=by
  intro m i;have:Fl.sc false m i=((m*2^(i+1074).toNat:Nat):Int):=by
   rw[Fl.sc,Fl.Du];simp
  omega
 have core:∀{m n:Nat} {i j:Int},-1074<=i->-1074<=j->m<2^53->n<2^53->(i=-1074\/2^52<=m)->(j=-1074\/2^52<=n)->Fl.sc false m i=Fl.sc false n j->Fl.sc false m i≠0->m=n/\i=j:=by
  intro m n i j hi hj c hn hc a e d;rw[(pos m i).2,(pos n j).2]at e;have e':m*2^(i+1074).toNat=n*2^(j+1074).toNat:=om;have le:∀{m n:Nat} {i j:Int},-1074<=i->m<2^53->(j=-1074\/2^52<=n)->m*2^(i+1074).toNat=n*2^(j+1074).toNat->¬i<j:=by
   intro m n i j hi c a e f;obtain⟨q,hq⟩:∃q:Nat,(j+1074).toNat=(i+1074).toNat+(q+1):=⟨(j+1074).toNat-(i+1074).toNat-1,om⟩;rw[hq,Aam,AaL (2^(i+1074).toNat),<-Re]at e;have g:=Aab (OK _) e;have h1:2<=2^(q+1):=by rw[Aax];have:=OK q;omega
   have h2:=Nat.mul_le_mul_left n h1;omega
  have b:i=j:=by grind
  subst b;exact⟨Aab (OK _) e',rfl⟩
 cases s<;>cases t
 .grind
 .have e1:=Fl.Ej n j;grind
 .have e1:=Fl.Ej m i;grind
 have e1:=Fl.Ej m i;have e2:=Fl.Ej n j;grind
def Ky(v:Vl):Prop:=Cc v=true/\Wf v
theorem nP(h:fz x=true)(h':fz Z=true):PS x Z=true:=by
 have h1:PS x 0=true:=h;grind [fz,PS,QJ,TA]
theorem OQ{a b}(h:AF a b=true):PS a.Af b.Af=true/\a.str.toList=b.str.toList/\a.ref=b.ref:=by
 grind [AF,PS]
theorem Ns{a b}(h1:a.kind=b.kind)(h2:a.num=b.num)(h3:PS a.Af b.Af=true)(h4:a.str.toList=b.str.toList)(h5:a.ref=b.ref):AF a b=true:=by
 unfold AF;simp[h1,h2,h3,h4,h5]
def Y2{v}(h:Ky v)(h3:v.kind=3):DU v.Af=false/\fz v.Af=false:=(cC h.1 h.2).Af h3 |>.2
theorem toList_inj{a b:ByteArray}(h:a.toList=b.toList):a.data.toList=b.data.toList:=by
 rw[<-AaW,<-AaW];exact h
theorem B6:KeyLaw Ky hN:=by
 refine⟨λa h=>Ns rfl rfl (XU h.1) rfl rfl,λa b _ _ h=>?_,λa b c _ _ _ h h'=>?_,λa b f hb h=>?_,λa b f hb k1 k2 k3=>?_,λn=>?_,?_⟩
 .grind [hN,OQ,Ns,FP,F4,TA]
 .grind [hN,OQ,Ns,FP,F4,QJ]
 .obtain⟨h1,h2,h3⟩:=OQ h;unfold hN;simp only[Dy,FP h,F4 h,h3];by_cases g:b.kind=4
  .grind [hN,toList_inj]
  rw[Cs g,Cs g];by_cases e3:b.kind=3
  .congr 1
   have hz:=(Y2 f<|(FP h).trans e3).2;unfold EN;rcases LR h1 with⟨s,m,i,t,n,j,g1,g2,g3,g4,g5,g6,g7,g8,e⟩|⟨s,g1,g2⟩
   .have k:Fl.sc s m i≠0:=by
     intro e0;have:PS a.Af 0=true:=F0 g1 Fl.Cq g3 om (by rw[e0,Fl.Ef]);have d:PS a.Af 0=false:=hz;rw[this]at d;cases d
    grind [hN,bU]
   rw[g1,g2]
  rw[Cs e3,Cs e3]
 .grind [Ky,fz,Cc,Vl.ok,A8,Ns,nP,KeyLaw.symm,Wf.str]
 .refine⟨?_,⟨by show 0<18446744073709551616;omega,by show(0:Nat)<=maxLen;omega⟩⟩;have hz:fz 0=true:=F0 Fl.Cq Fl.Cq om om rfl;simp[Cc,Vl.ok,A8,Dq,hz]
 have hz:fz 0=true:=F0 Fl.Cq Fl.Cq om om rfl;show DH (⟨0,0,0,⟨#[]⟩,0⟩:Vl)=true;simp[DH,Vl.ok,A8,hz]
def XP:∀v,Ky v->Yo v (hN v):=λv h=>tJ h.1 h.2
def Nn:∀v,Ky v->PW B2 v (hN v):=λv h=>qV h.1 h.2
def nQ:fz 0=true:=oo
def oI{v}(f:Wf v):∃(c:Int) (a:Vl),KQ v.kind v.num v.Af v.str v.ref=KV c a.kind a.num a.Af a.str a.ref/\(c=0->Ky a):=by
 rw[KQ];by_cases d:A8 v.kind v.num v.Af v.str v.ref=true
 .rw[C3 d];by_cases e:v.kind=0
  .rw[C3 e];exact⟨1,⟨0,0,0,⟨#[]⟩,0⟩,rfl,λh=>om⟩
  rw[Cs e];by_cases h3:v.kind=3
  .rw[C3 h3];by_cases hn:DU v.Af=true
   .rw[C3 hn];exact⟨1,⟨0,0,0,⟨#[]⟩,0⟩,rfl,λh=>om⟩
   rw[Cs hn];by_cases b:Cn v.Af=true
   .rw[C3 b];refine⟨0,⟨2,MU v.Af,0,⟨#[]⟩,0⟩,rfl,λ_=>⟨?_,⟨by show(0:Nat)<_;decide,W9 _⟩⟩⟩;simp[Cc,Vl.ok,A8,nQ]
   rw[Cs b];grind [Ky,Cc,Vl.ok]
  rw[Cs h3];grind [Ky,Cc,Vl.ok]
 rw[Cs d];exact⟨2,⟨0,0,0,⟨#[]⟩,0⟩,rfl,λh=>om⟩
def kD:Dc:=⟨0,λ_=>default,0,λ_=>0,0,λ_=>0,0,0,0⟩
theorem jZ hf:∀(f) (d),(CP hf f d).m<=d.m+f:=by
 intro f
 induction f with
 |zero=>intro d;exact Be _
 |succ f ih=>
  intro d;cases e:A5 d (Dq<|(d.m:Int)+1) (hf<|Dq<|(d.m:Int)+1)with
  |none=>rw[F7 e];omega
  |some s=>
   rw[F8 e];have:=ih<|DT d s;have h2:(DT d s).m=d.m+1:=rfl;omega
def XC hf c k' p:(AR hf c k' p).m=c.m:=by
 grind [AR,Dp,Small.x]
def Ww{k v}(j:KeyLaw K hf)(h:Inv K hf d)(hk:K k):(Ce hf d k v).m<=d.m+4002:=by
 rcases h.i0.place j hk with⟨i,h1,h2,h3,h4⟩|⟨h1,h2⟩
 .have hp:0<=Aw d k (hf k):=om;have hi:(Aw d k<|hf k).toNat=i:=om;by_cases f:v.kind=0
  .rw[Nz hp f,hi];have g:=E7 j h.i0 h.next h1 h2;have e:=(BO (hf:=hf) g.1.core).2.2.1;show(Ap hf<|Hj hf d i).m<=_;rw[e];by_cases hs:Ay d.m (d.L i).key
   .rw[Ju hs];have:=(Jh (AU d.I ((d.L i).key.num-1).toNat 0) d.m).1;show shrink (AU d.I ((d.L i).key.num-1).toNat 0) d.m<=_;omega
   obtain⟨s,_,_,l⟩:=h.i0.found j (h.i0.keys i h1 h2) ⟨h1,h2,hs⟩<|j.refl _<|h.i0.keys i h1 h2;rw[KK hs l];show d.m<=_;omega
  rw[K8 hp f];show d.m<=_;omega
 have hp:¬0<=Aw d k (hf k):=om;by_cases hc:v.kind≠0/\d.live<500/\d.turns<1000000000000
 .rw[G8 hp hc];rcases (BO (hf:=hf) h.i0.core).2.2.1,(BO (hf:=hf) h.i0.core).1,DJ h.i0 with⟨e,a,b⟩;show(Bx hf (Ap hf d) k v).m<=_;generalize Ap hf d=c at e b a;have a:c.live<500:=by rw[a];exact hc.2.1
  have n:c.x<=4000:=by
   rcases b.sz with h|h
   .omega
   exact h.2.1
  rw[Bx];split
  .show c.m<=_;omega
  split
  .grind [jZ,Ch,Small.x]
  rw[XC];have o:=(Hb b a).2.2.m;show(C4 hf c).m<=_;omega
 rw[G9 hp hc];omega
theorem Inv.small(h:Inv K hf d)(a:d.m<=4194304):Small d:=by
 refine⟨?_,a,?_⟩
 .have:=h.i0.le;rcases h.tight with h|h<;>omega
 rcases h.i0.sz with h|h;all_goals omega
def Fk(Q:Pr->Prop)(d:Dc):Prop:=∀i,i<d.n->Q (d.L i)
section
variable {Q:Pr->Prop} {hf:Vl->Nat} {d c:Dc} {k v:Vl}
theorem Fk.same(h:Fk Q d)(hn:c.n=d.n)(a:c.L=d.L):Fk Q c:=λi hi=>by rw[a];exact h i om
def Fk.uH(h:Fk Q d){p}{x}(a:Q x){n}(hn:∀i,i<n->i=p\/i<d.n){c}(hc:c.n=n)(b:c.L=AU d.L p x):Fk Q c:=λi hi=>by
 rw[b];by_cases e:i=p
 .subst e;rw[Au];exact a
 rw[Ao _ _ e];rcases hn i om with e'|e'
 .exact absurd e' e
 exact h i e'
def Kg p:(AR hf d k p).n=d.n/\(AR hf d k p).L=d.L:=by
 rw[AR];split<;>exact⟨rfl,rfl⟩
theorem Kv(x:Nat):∀k,(Bl hf d x k).n=d.n/\(Bl hf d x k).L=d.L
 |0=>⟨rfl,rfl⟩
 |k+1=>by
  by_cases h:AP d k
  .rw[E3 h];have h1:=Kg (hf:=hf) (d:=Bl hf d x k) (k:=(d.L k).key) k;have h2:=Kv x k;exact⟨h1.1.trans h2.1,h1.2.trans h2.2⟩
  rw[E0 h];exact Kv x k
theorem Ij more:(A3 hf d more).n=d.n/\(A3 hf d more).L=d.L:=by
 grind [A3,BV,Cy,Kv]
theorem LZ:∀(f:Nat) (d:Dc),(CP hf f d).n=d.n/\(CP hf f d).L=d.L
 |0,d=>⟨rfl,rfl⟩
 |f+1,d=>by
  cases h:A5 d (Dq<|(d.m:Int)+1) (hf<|Dq<|(d.m:Int)+1)with
  |none=>rw[F7 h];exact⟨rfl,rfl⟩
  |some s=>rw[F8 h];exact LZ f<|DT d s
def Fk.pack(h:Fk Q d):Fk Q<|Cj d:=λj hj=>by
 obtain⟨i,h1,h2,h3⟩:=FT d.n hj;have e:Ev d j=d.L i:=by rw[<-h3];exact FB h1 h2
 show Q (Ev d j);rw[e];exact h i h1
def Fk.KI(h:Fk Q d):Fk Q<|Ap hf d:=by
 rw[Ap];split
 .exact h
 exact h.pack.same (Ij _).1 (Ij _).2
def Fk.add(h:Fk Q c)(a:Q ⟨k,v,c.turns+1⟩):Fk Q<|B3 c k v:=h.uH a (n:=c.n+1) (λi hi=>om) rfl rfl
def Rg:(C4 hf c).n=c.n/\(C4 hf c).L=c.L:=by
 grind [C4,Ij]
def Fk.qO(h:Fk Q c)(a:∀t,Q ⟨k,v,t⟩):Fk Q<|Bx hf c k v:=by
 rw[Bx];split
 .exact(h.add<|a _).same rfl rfl
 split
 .exact(h.add<|a _).same (LZ _ _).1 (LZ _ _).2
 exact((h.same Rg.1 Rg.2).add<|a _).same (Kg _).1 (Kg _).2
def Fk.vP(h:Fk Q d)(b:Q default)p:Fk Q<|Hj hf d p:=by
 have a:Fk Q<|Iz d p:=λi hi=>by
  show Q (AU d.L p default i);by_cases e:i=p
  .subst e;rw[Au];exact b
  rw[Ao _ _ e];exact h i hi
 rw[Hj];split
 .exact a.same rfl rfl
 split
 .exact h
 exact a.same rfl rfl
def Fk.put(h:Fk Q d)(a:∀t,Q ⟨k,v,t⟩)(b:Q default)(hs:∀x,Q x->Q ⟨x.key,v,x.turn⟩):Fk Q<|Ce hf d k v:=by
 rw[Ce];split
 .split
  .exact(h.vP b _).KI
  intro i hi;show Q (AU d.L _ _ i);by_cases e:i=(Aw d k<|hf k).toNat
  .subst e;rw[Au];exact hs _<|h _ hi
  rw[Ao _ _ e];exact h i hi
 split
 .exact h.KI.qO a
 exact h
end
def S4.put{hf}{d}{k v}(h:S4 d)(hk:Wf k)(a:Wf v):S4<|Ce hf d k v:=
 Fk.put (Q:=λp=>Wf p.key/\Wf p.val) h (λ_=>⟨hk,a⟩) ⟨⟨oo,oo⟩,⟨oo,oo⟩⟩ λx b=>⟨b.1,a⟩
def Sq:Inv K hf kD:=
 ⟨⟨⟨λi hi=>(by cases hi),λi j _ hj=>(by cases hj),rfl⟩,λi hi=>(by cases hi),λi j hi=>(by cases hi),λj hj=>(by cases hj),.inl rfl,λi hi=>(by cases hi),.inl rfl,
  Idx.empty _ _ _ _ (λi h=>by cases h.1),rfl,Be _,⟨oo,oo⟩,oo⟩,λi hi=>(by cases hi),.inl oo⟩
def Has(d:Dc)(p:Pr):Prop:=∃i,i<d.n/\(d.L i).turn≠0/\d.L i=p
theorem Hy(h1:i<d.n)(h2:(d.L i).turn≠0):Has d<|d.L i:=⟨i,h1,h2,rfl⟩
section
variable {K:Vl->Prop} {hf:Vl->Nat} {d:Dc} {k v:Vl}
def Inv.entry(h:Inv K hf d){p}(hp:Has d p):0<p.turn/\p.turn<=d.turns/\p.val.ok=true/\p.val.kind≠0:=by
 obtain⟨i,h1,h2,rfl⟩:=hp;rcases h.i0.log.Cw i h1 with e|e;all_goals grind
def Mt(h:Core K d)p:Has (Ap hf d) p↔Has d p:=DE h λq=>q=p
def Xh(d e:Dc)(k v:Vl):Prop:=
 (∃q,Has d q/\AF q.key k=true/\v.kind=0/\(∀p,Has e p↔Has d p/\AF p.key k=false)/\e.live=d.live-1/\e.turns=d.turns)\/
 (∃q,Has d q/\AF q.key k=true/\v.kind≠0/\(∀p,Has e p↔(Has d p/\AF p.key k=false)\/p=⟨q.key,v,q.turn⟩)/\e.live=d.live/\e.turns=d.turns)\/
 ((∀p,Has d p->AF p.key k=false)/\v.kind≠0/\(∀p,Has e p↔Has d p\/p=⟨k,v,d.turns+1⟩)/\e.live=d.live+1/\e.turns=d.turns+1)\/
 ((∀p,Has d p->AF p.key k=false)/\¬(v.kind≠0/\d.live<500/\d.turns<1000000000000)/\e=d)
theorem KT(a:KeyLaw K hf)(h:BN K hf d)(hk:K k){i}(h1:i<d.n)(h2:(d.L i).turn≠0)(h3:AF (d.L i).key k=true){j}(g1:j<d.n)(g2:(d.L j).turn≠0):AF (d.L j).key k=false↔j≠i:=by
 grind [KeyLaw.symm,KeyLaw.trans,BN.keys,BN.JR,Core.JR]
def K9(g:KeyLaw K hf)(h:Inv K hf d)(hk:K k)(r:Cc k=true)(u:v.ok=true):Xh d (Ce hf d k v) k v:=by
 rcases h.i0.place g hk with⟨i,h1,h2,h3,h4⟩|⟨h1,h2⟩
 .have hp:0<=Aw d k (hf k):=om;have hi:(Aw d k<|hf k).toNat=i:=om;by_cases f:v.kind=0
  .rw[Nz hp f,hi];obtain⟨g1,g2,g3,g4,g5,g6⟩:=E7 g h.i0 h.next h1 h2;have c:=BO (hf:=hf) g1.core;refine .inl ⟨d.L i,Hy h1 h2,h3,f,λp=>?_,c.1.trans g5,c.2.1.trans g6⟩;refine(Mt g1.core p).trans ?_;constructor
   .rintro⟨j,b,a,rfl⟩;rw[g4]at a ⊢;by_cases e:j=i
    .subst e;rw[Au]at a;exact absurd rfl a
    grind [Cc,Ce,Ao,Hy,KT,Inv.i0]
   rintro⟨⟨j,b,a,rfl⟩,hl⟩;have e:=(KT g h.i0 hk h1 h2 h3 b a).1 hl;refine⟨j,om,?_,?_⟩
   .rw[g4,Ao _ _ e];exact a
   rw[g4,Ao _ _ e]
  rw[K8 hp f,hi];refine .inr<|.inl ⟨d.L i,Hy h1 h2,h3,f,λp=>?_,rfl,rfl⟩;constructor
  .rintro⟨j,b,a,rfl⟩;by_cases e:j=i
   .subst e;right;exact Au _ _ _
   left;have e2:(Jf d i v).L j=d.L j:=Ao _ _ e;rw[e2]at a ⊢;exact⟨Hy b a,(KT g h.i0 hk h1 h2 h3 b a).2 e⟩
  rintro(⟨⟨j,b,a,rfl⟩,hl⟩|rfl)
  .have e:=(KT g h.i0 hk h1 h2 h3 b a).1 hl;have e2:(Jf d i v).L j=d.L j:=Ao _ _ e;exact⟨j,b,by rw[e2];exact a,e2⟩
  have e2:(Jf d i v).L i=⟨(d.L i).key,v,(d.L i).turn⟩:=Au _ _ _;exact⟨i,h1,by rw[e2];exact h2,e2⟩
 have hp:¬0<=Aw d k (hf k):=om;have l:∀p,Has d p->AF p.key k=false:=by
  rintro p ⟨i,s,i2,rfl⟩;exact h1 i s i2
 by_cases hc:v.kind≠0/\d.live<500/\d.turns<1000000000000
 .rw[G8 hp hc];rcases BO (hf:=hf) h.i0.core,DJ h.i0,DZ (hf:=hf) h.i0.core h.next with⟨c,m,t⟩;have o:=λp=>Mt (hf:=hf) h.i0.core p;have q:∀i,i<(Ap hf d).n->((Ap hf d).L i).turn≠0->AF ((Ap hf d).L i).key k=false:=λi s i2=>l _<|(o _).1<|Hy s i2;obtain⟨g1,g2,g3,g4,g5,g6⟩:=Jr g m t hk r u hc.1 q (by rw[c.1];exact hc.2.1) (by rw[c.2.1];exact hc.2.2);have et:=c.2.1;refine .inr<|.inr<|.inl ⟨l,hc.1,λp=>?_,by rw[<-c.1];exact g5,by rw[<-et];exact g6⟩;show Has (Bx hf (Ap hf d) k v) p↔_;rw[<-et];constructor
  .rintro⟨j,b,a,rfl⟩;rw[g4]at a ⊢;grind [Cc,Ce,Au,Ao,Hy]
  rintro(hp|rfl)
  .obtain⟨j,b,a,rfl⟩:=(o p).2 hp;refine⟨j,om,?_,?_⟩
   .rw[g4,Ao _ _ om];exact a
   rw[g4,Ao _ _ om]
  refine⟨(Ap hf d).n,om,?_,?_⟩
  .rw[g4,Au];show(Ap hf d).turns+1≠0;have:=m.turns.1;omega
  rw[g4,Au]
 grind [Xh,Ce]
end
def FG(d:Dc)(p:Int):Vl:=if 0<=p then(d.L p.toNat).val else default
open Classical in
noncomputable def YR(d:Dc)(c:Int)(a:Vl):Vl:=if BI d (hD d)=0/\c=0 then FG d (Aw d a<|hN a)else default
noncomputable def Cg(F:Nat->A9)(x:Tb)(k:Vl):Vl:=
 if x.shape<0 then FG x.d (Aw x.d k<|hN k)
 else if k.kind=4/\0<=Bc F x.shape.toNat k.str then x.V (Bc F x.shape.toNat k.str).toNat else M8
def Y3(n:Nat)(f:Nat->A9)(i:Nat)(key:ByteArray):Int:=Yv (λj=>decide (0<j)&&(decide ((f j).parent=(i:Int))&&((f j).key.toList==key.toList))) n
def Er(n:Nat)(f:Nat->A9)(i:Nat)(key:ByteArray):Int:=if 0<=Y3 n f i key then Y3 n f i key else if(f i).count=12\/n=200 then -1 else n
def EU(n:Nat)(f:Nat->A9)(i:Nat)(key:ByteArray):Nat:=if 0<=Y3 n f i key then n else if(f i).count=12\/n=200 then n else n+1
def ER(n:Nat)(f:Nat->A9)(i:Nat)(key:ByteArray):Nat->A9:=if 0<=Y3 n f i key then f else if(f i).count=12\/n=200 then f else grown f n i key
def XV{f}:MQ n f i key j↔j<n/\(decide (0<j)&&(decide ((f j).parent=(i:Int))&&((f j).key.toList==key.toList)))=true:=by
 grind [MQ]
def TM n f i key:NK n f i key (EU n f i key) (ER n f i key)<|Er n f i key:=by
 unfold EU ER Er;rcases KH (λj=>decide (0<j)&&(decide ((f j).parent=(i:Int))&&((f j).key.toList==key.toList))) n 0 with h|⟨j,h1,h2,h3,h4,h5⟩
 .have hk:Y3 n f i key=-1:=h;have c:∀j,¬MQ n f i key j:=λj hj=>by
   obtain⟨a,b⟩:=XV.1 hj;have:=GZ h j (W9 _) om;rw[this]at b;cases b
  grind [NK,ER]
 have hk:Y3 n f i key=j:=h1;have d:(0:Int)<=(j:Int):=om;simp only[hk];exact .inl ⟨j,XV.2 ⟨om,h4⟩,rfl,rfl,rfl⟩
def KM{f}{r}(h4:FW n f)(h:NK n f i key n' f' r):n'=EU n f i key/\f'=ER n f i key/\r=Er n f i key:=h.unique h4<|TM n f i key
noncomputable def AA(F:Nat->A9)(j:Nat)(W:Nat->Vl):Nat->Dc
 |0=>kD
 |i+1=>Ce hN (AA F j W i) (BL<|DK F j i)<|W i
noncomputable def Ep(d:Dc)(k v:Vl):Bool:=decide (v.kind≠0)&&(decide (Aw d k (hN k)<0)&&(decide (d.live=500)||decide (d.turns=1000000000000)))
noncomputable def Eo(x:Tb)(d:Dc)(k v:Vl):Tb:=⟨-1,0,x.V,Ce hN d k v⟩
def BJ(s:AK)(t:Nat)(x:Tb):AK:={s with T:=AX s.T t x}
def Gn(x:Tb)(i:Nat)(v:Vl):Tb:={x with V:=AX x.V i v}
def IZ(x:Tb)(r:Int)(v:Vl):Tb:={x with shape:=r,nv:=x.nv+1,V:=AX x.V x.nv v}
inductive Way where
 |no|DK|grow|loose|IY|full
 deriving DecidableEq
noncomputable def B8(s:AK)(x:Tb)(k v:Vl):Way:=
 if v.kind=0/\(Cg s.F x k).kind=0 then .no
 else if 0<=x.shape then
  (if k.kind=4/\v.kind≠0 then
   (if 0<=Bc s.F x.shape.toNat k.str then .DK
    else if 0<=Er s.nf s.F x.shape.toNat k.str then .grow else .loose)
   else .loose)
 else if Ep x.d k v=true then .full else .IY
noncomputable def Ct(s:AK)(t:Nat)(k v:Vl):AK:=
 match B8 s (s.T t) k v with
 |.no=>s
 |.DK=>BJ s t (Gn (s.T t) (Bc s.F (s.T t).shape.toNat k.str).toNat v)
 |.grow=>{BJ s t (IZ (s.T t) (Er s.nf s.F (s.T t).shape.toNat k.str) v)with nf:=EU s.nf s.F (s.T t).shape.toNat k.str,F:=ER s.nf s.F (s.T t).shape.toNat k.str}
 |.loose=>BJ s t (Eo (s.T t) (AA s.F (s.T t).shape.toNat (s.T t).V (s.T t).nv) k v)
 |.IY=>BJ s t (Eo (s.T t) (s.T t).d k v)
 |.full=>s
noncomputable def CE(s:AK)(t:Nat)(k v:Vl):Int:=if B8 s (s.T t) k v=.full then 5 else 0
def D6(n:Int):Int:=if n<1000000000000 then n+1 else 1000000000000
def KO(s:AK)(i t:Nat):Bool:=decide (0<=(s.T t).shape)&&decide ((s.T t).shape=(s.S i).shape)
noncomputable def DS(s:AK)(i t:Nat):Si:=
 if KO s i t=true then{s.S i with BZ:=D6 (s.S i).BZ}
 else if 0<=(s.T t).shape/\0<=Bc s.F (s.T t).shape.toNat (s.S i).key then⟨(s.S i).key,(s.T t).shape,Bc s.F (s.T t).shape.toNat (s.S i).key,(s.S i).BZ,D6 (s.S i).AB⟩
 else{s.S i with AB:=D6 (s.S i).AB}
noncomputable def Bh(s:AK)(i t:Nat):Int:=
 if KO s i t=true then(s.S i).place else if 0<=(s.T t).shape then Bc s.F (s.T t).shape.toNat (s.S i).key else -1
noncomputable def AY(s:AK)(i t:Nat):AK:={s with S:=AX s.S i (DS s i t)}
def Lv:Tb:=⟨0,0,λ_=>default,kD⟩
noncomputable def Uv(s:AK)(t:Nat):Pl:=⟨gI s<|s.T t,mI s<|s.T t,0⟩
noncomputable def BK(s:AK)(a:Ac):AK:=
 if a.op=1 then(if s.nt=100 then s else{s with nt:=s.nt+1,T:=AX s.T s.nt Lv})
 else if a.op=7 then(if s.ns=50 then s else{s with ns:=s.ns+1,S:=AX s.S s.ns ⟨a.k.str,-1,0,0,0⟩})
 else if a.op=2 then Ct s a.t.toNat (DA a.k) a.v
 else if a.op=8 then AY s a.site.toNat a.t.toNat
 else if a.op=9 then
  (if 0<=Bh s a.site.toNat a.t.toNat/\a.v.kind≠0 then BJ (AY s a.site.toNat a.t.toNat) a.t.toNat (Gn (s.T a.t.toNat) (Bh s a.site.toNat a.t.toNat).toNat a.v)
   else Ct (AY s a.site.toNat a.t.toNat) a.t.toNat (BL (s.S a.site.toNat).key) a.v)
 else s
noncomputable def Dk(s:AK)(a:Ac):An:=
 if a.op=1 then(if s.nt=100 then BH 5 else DI s.nt)
 else if a.op=7 then(if s.ns=50 then BH 5 else DI s.ns)
 else if a.op=2 then BH (CE s a.t.toNat (DA a.k) a.v)
 else if a.op=9 then
  (if 0<=Bh s a.site.toNat a.t.toNat/\a.v.kind≠0 then BH 0
   else BH (CE (AY s a.site.toNat a.t.toNat) a.t.toNat (BL (s.S a.site.toNat).key) a.v))
 else if a.op=3 then GI (Cg s.F (s.T a.t.toNat)<|DA a.k)
 else if a.op=8 then GI (if 0<=Bh s a.site.toNat a.t.toNat then(s.T a.t.toNat).V (Bh s a.site.toNat a.t.toNat).toNat else Cg s.F (s.T a.t.toNat) (BL (s.S a.site.toNat).key))
 else(Uv s a.t.toNat).ask a
noncomputable def AO(s:AK)(a:Ac):AK:=if IV a s.nt s.ns=0 then BK s a else s
noncomputable def Dd(s:AK)(a:Ac):An:=if IV a s.nt s.ns=0 then Dk s a else BH (IV a s.nt s.ns)
structure Xk (M:Nat) (s:AK) (t:Tb):Prop where
 way:(t.shape=-1/\t.nv=0/\Inv Ky hN t.d)\/∃j:Nat,t.shape=j/\j<s.nf/\t.nv=nf s.F j/\bare t.d/\∀i,i<t.nv->J2 (t.V i)=true/\Wf (t.V i)
 wf:S4 t.d
 m:t.d.m<=M
abbrev PO(s:AK)(t:Tb):Prop:=Xk 4000000 s t
structure Lt (M:Nat) (s:AK):Prop where
 f:Aq s.nf s.F=0
 nt:s.nt<=100
 ns:s.ns<=50
 t:∀i,i<s.nt->Xk M s (s.T i)
 si:∀i,i<s.ns->Pb s (s.S i)
abbrev Ls(s:AK):Prop:=Lt 4000000 s
def Xk.mono{M a}{t}(h:Xk M s t)(b:M<=a):Xk a s t:=⟨h.way,h.wf,GP h.m b⟩
def Lt.mono{M a}(h:Lt M s)(b:M<=a):Lt a s:=⟨h.f,h.nt,h.ns,λi hi=>(h.t i hi).mono b,h.si⟩
theorem PO.small{t}(h:PO s t):Small t.d:=by
 have b:=h.m;rcases h.way with⟨_,_,a⟩|⟨j,_,_,_,hb,_⟩
 .exact a.small om
 obtain⟨b1,b2,b3,_⟩:=hb;exact⟨om,om,om⟩
theorem IB{f}(h:Aq n f=0){j}(hj:j<n):nf f j<=12:=by
 obtain⟨h1,h2,h3,h4,h5⟩:=Av h;have:=(A7 h2 (λj a b=>h3 j a b) j hj).2;unfold nf;omega
def PO.nv{t}(h:PO s t)(hf:Aq s.nf s.F=0):t.nv<=12:=by
 rcases h.way with⟨_,h1,_⟩|⟨j,_,h1,h2,_,_⟩;all_goals grind [IB]
def JK{f}(h:Aq n f=0){j}(hj:j<n)key:Bc f j key=-1\/∃i:Nat,Bc f j key=i/\i<nf f j:=by
 grind [Aq,nf,Av,Uw,dS]
def Gv(h:Inv Ky hN d):BI d (hD d)=0:=(h.sound B6).zero
def Y1{k}(hk:Ky k):KQ k.kind k.num k.Af k.str k.ref=KV 0 k.kind k.num k.Af k.str k.ref:=by
 grind [Ky,KQ,Cc,Vl.ok]
def GK{s}(h:s.size<=4000):Ky<|BL s:=by
 refine⟨?_,⟨by show 0<_;omega,by show s.size<=_;unfold maxLen;omega⟩⟩;rw[Cc,kU h];rfl
section
open Go.Maps Keyed
def cO{f}{B Z}{M}(h:Cr w f b0 n B Z M)(hid:∀i,i<n->Z i=i)(h1:Dw n)(h2:Bp f)(h3:Bf n f){k}(hk:k<n){key}(o:key.size<=4000):
  ∃v,(∀q,(Instr.lookup 143 (.map<|M k) (Sh k key<|(f k).count+1) false).run prog (w.drewN q)=.ok v (w.drewN q))/\((∃j,MQ n f k key j/\v=Q9 (B j))\/(v=.pointer none/\∀j,¬MQ n f k key j)):=by
 have p:=A7 h2 (λj a b=>h3 j a b) k hk;have r:=h1.2;have w1:(Lit.int .i64 (k:Int)).wf=true:=lH om om;have w3:(Lit.int .i64<|(f k).count+1).wf=true:=lH om om;have w2:key.size<=maxLen:=od;cases e:M k with
 |none=>
  refine⟨.pointer none,Q0 (s:=⟨k,key,(f k).count+1⟩) w1 w2 w3,.inr ⟨rfl,λj hK=>?_⟩⟩;refine h.bare k hk (hid k hk) e j hK.1 hK.2.1 (hid j hK.2.1) ?_;have hp:AD f j=k:=by unfold AD;rw[hK.2.2.1];rfl
  rw[hp];exact hid k hk
 |some m=>
  obtain⟨g,t,hK⟩:=h.kids k m hk (hid k hk) e;refine⟨g<|Ka ⟨k,key,(f k).count+1⟩,OS t (s:=⟨k,key,(f k).count+1⟩) w1 w2 w3,?_⟩;rcases hK (Ka ⟨k,key,(f k).count+1⟩)with⟨j,u,x,_,_,l,c⟩|⟨c,d⟩
  .refine .inl ⟨j,⟨u,x,?_,?_⟩,c⟩
   .have:=RG l;rw[<-this]
   have:=RG l;rw[<-this]
  refine .inr ⟨c,λj hK=>d j hK.1 hK.2.1 (hid j hK.2.1) ?_ ?_⟩
  .have hp:AD f j=k:=by unfold AD;rw[hK.2.2.1];rfl
   rw[hp];exact hid k hk
  have A:(f j).key=key:=WideShapes.bytes_inj (by rw[<-AaW,<-AaW];exact hK.2.2.2);have C:(f j).count=(f k).count+1:=by rw[(h3 j hK.1 hK.2.1).2.2.1,hK.2.2.1];rfl
  show Sh (f j).parent (f j).key (f j).count=_;rw[A,C,hK.2.2.1]
theorem Nodes.congr{K d:TypeId}{f:Nat->A9}{B Z:Nat->Nat}{M:Nat->Option Nat}(h:Nodes P K d w f b0 k B Z M)(e:∀i,i<k->f' i=f i):Nodes P K d w f' b0 k B Z M where
 pos:=h.pos
 n0:=h.n0
 le:=h.le
 own:=h.own
 same:=λi hi=>by rw[e i hi,e _ (Aan (h.le i hi) hi)];exact h.same i hi
 one:=λi j hi hj e2=>h.one i j hi hj<|by rw[<-e i hi,<-e j hj];exact e2
 Bw:=h.Bw
 base:=h.base
 node:=λi hi hn=>by
  have a:=h.node i hi hn;have hp:CT f' B i=CT f B i:=by unfold CT AD;rw[e i hi]
  rw[e i hi,hp];exact a
 apart:=h.apart
 mbase:=h.mbase
 LY:=h.LY
 bare:=λi hi hn b j a hj c=>by
  have h1:=h.bare i hi hn b j a hj c;unfold AD at*;rw[e j hj];exact h1
 kids:=λi m hi hn b=>by
  obtain⟨g,l,hK⟩:=h.kids i m hi hn b;refine⟨g,l,λv=>?_⟩;rcases hK v with⟨j,a1,a2,a3,a4,a5,n⟩|⟨a1,a2⟩
  .exact .inl ⟨j,a1,a2,a3,by unfold AD at*;rw[e j a2];exact a4,by rw[e j a2];exact a5,n⟩
  exact .inr ⟨a1,λj b1 b2 b3 b4=>by rw[e j b2];exact a2 j b1 b2 b3<|by unfold AD at*;rw[<-e j b2];exact b4⟩
def mO(n:Nat)(f:Nat->A9)(k:Nat)(key:ByteArray)(b0:Nat)(B:Nat->Nat)(w:Y)(e:Ending)(w':Y):Prop:=
 (∃j,MQ n f k key j/\e=.returned (Q9<|B j)/\B9 w w')\/
 ((∀j,¬MQ n f k key j)/\((f k).count=12\/n=200)/\e=.returned (.pointer none)/\B9 w w')\/
 ((∀j,¬MQ n f k key j)/\(f k).count≠12/\n≠200/\∃r B' a b,e=.returned (Q9 r)/\Cr w' (grown f n k key) b0 (n+1) B' a b/\(∀i,i<n+1->a i=i)/\B' n=r/\(∀i,i<n->B' i=B i)/\Rx b0 w w')
def Grown.after{a:Nat}{w2}(h:B9 w w1)(h2:Grown a b0 w1 w2):Grown a b0 w w2:=
 ⟨h2.os.trans h.os,h2.tape.trans h.tape,h2.output.trans h.output,GP h.size h2.size,λb hb hc=>(h2.block b (A0 hb h.size) (by
  rcases hc with hc|hc
  .exact .inl hc
  refine .inr (λhN=>hc ?_);unfold DQ at*;rw[h.block b hb]at hN;exact hN)).trans (h.block b hb)⟩
def TP{f}(h1:Dw n)(h2:Bp f)(h3:Bf n f)(hk:k<n)(d:key.size<=4000)(g:(f k).count≠12):
  Bp (grown f n k key)/\(∀i,1<=i->i<=n->Yp (grown f n k key) i)/\(∀i,i<n->grown f n k key i=f i)/\grown f n k key n=⟨k,key,(f k).count+1⟩:=by
 have h:=A7 h2 (λj a b=>h3 j a b) k hk;have e:∀i,i<n->grown f n k key i=f i:=λi hi=>by unfold grown;rw[Cs om]
 have en:grown f n k key n=⟨k,key,(f k).count+1⟩:=by unfold grown;rw[C3 rfl]
 have c:0<n:=om;refine⟨by unfold Bp;rw[e 0 c];exact h2,λi a b=>?_,e,en⟩;by_cases hi:i=n
 .grind [Yp]
 grind [Bp,Bf,grown,Yp]
def Zg{f}{B Z}{M}(h:Cr w (grown f n k key) b0 (n+1) B Z M)(e:∀i,i<n->grown f n k key i=f i)(en:grown f n k key n=⟨k,key,(f k).count+1⟩)(h2:Bp f)(h4:FW n f)(h3:Bf n f)(b:∀j,¬MQ n f k key j):∀i,i<n+1->Z i=i:=by
 intro i hi;have c:=h.le i hi;rcases Nat.lt_or_eq_of_le c with d|heq
 .exfalso;have hs:=h.same i hi;have a:Z i<n:=om;rw[e _ a]at hs;have g:0<Z i:=by
   rcases Aav (Z i)with X|X
   .rw[X]at hs;have hp:=h2.1;rw[hs]at hp;by_cases JS:i=n
    .grind [Bp,Bf]
    rw[e i om]at hp;have:=(h3 i om om).1;omega
   exact X
  by_cases JS:i=n
  .rw[JS,en]at hs;subst JS;exact b (Z i) ⟨g,a,by rw[hs],by rw[hs]⟩
  rw[e i om]at hs;exact h4 i (Z i) g d om ⟨by rw[hs],by rw[hs]⟩
 exact heq
def Ss w{f}b0{n}B Z M(h:Cr w f b0 n B Z M)(hid:∀i,i<n->Z i=i)(h1:Dw n)(h2:Bp f)(h3:Bf n f)(h4:FW n f)k(hk:k<n)key(F:key.size<=4000):
  C9 202 #[Q9 (B k),.string key,J n] w λe w'=>mO n f k key b0 B w e w':=by
 rcases h1.2,A7 h2 (λj a b=>h3 j a b) k hk,Dm h hid hk,h.lt hk with⟨t,⟨ad,ae⟩,⟨n0,_,n3,_,U⟩,Q⟩;have hw:IntKind.i64.wrap ((f k).count+1)=(f k).count+1:=oj;obtain⟨W,u⟩:=o9<|(w.alloc<|.cells #[J (k:Int),.string key,J ((f k).count+1)] 142).drew;have g:B9 w W:=by rw[u];exact(n9).drew
 have af:W.heap.size=w.heap.size+1:=by rw[u];simp
 obtain⟨S0,S1,S2⟩:W.cell? (y w 0)=some (J (k:Int))/\W.cell? (y w 1)=some (.string key)/\W.cell? (y w 2)=some (J<|(f k).count+1):=by rw[u];simp[go_sem]
 have m5:=(g.cell<|by exact Q).trans U;have x:=h.below g;rcases cO x hid h1 h2 h3 hk F,O x,O<|qj h1<|qj h2<|qj h3 h4,O g with⟨⟨v,ag,hv⟩,R,E,P⟩;clear h h1 h2 h3 h4 g x;go_enter func202,ntmps202;go_wp2
 go_region
 rw[<-u];clear u n0 n3 U;rcases hv with⟨j,o,rfl⟩|⟨rfl,H⟩
 .have HK:=O o;clear o;go_wp2;go_quiet (fail);go_wp2;go_ret;exact .inl ⟨j,HK,rfl,below_drewN P _⟩
 have l:=O H;clear H;by_cases A:12<(f k).count+1
 .have I:decide (12<(f k).count+1)=true:=by simp[A]
  have m:Hid<|(f k).count=12:=O om;clear A;go_wp2;go_quiet (fail);go_wp2;go_ret;exact .inr<|.inl ⟨l,.inl m,rfl,below_drewN P _⟩
 have I:decide (12<(f k).count+1)=false:=ot;have m:Hid<|(f k).count≠12:=O om;clear A;by_cases p:200<=n
 .have C:decide ((200:Int)<=n)=true:=ot;have c:Hid<|n=200:=O om;clear p;go_wp2;go_quiet (fail);go_wp2;go_ret;exact .inr<|.inl ⟨l,.inr c,rfl,below_drewN P _⟩
 have C:decide ((200:Int)<=n)=false:=ot;have c:Hid<|n≠200:=O om;clear p;obtain⟨r2,r3,e,en⟩:=TP E.1 E.2.1 E.2.2.1 hk F m;have d:∀q,C9 133 #[Q9 (B k),Sh k key<|(f k).count+1,J n] (W.drewN q) λe w'=>∃r B' S T,e=.returned (Q9 r)/\Cr w' (grown f n k key) b0 (n+1) B' S T/\B' n=r/\(∀i,i<n->B' i=B i)/\Rx b0 (W.drewN q) w':=by
  intro q;have V:=OA (W.drewN q) b0 n B Z M ((R.congr e).keep λb _=>rfl) t r2 r3;rw[show AD (grown f n k key) n=k from by unfold AD;rw[en];simp,en]at V;exact V
 have HC:=O d;have X:=O<|qj e en;clear d r2 r3 e en;go_wp2;go_quiet (fail);go_wp2_with (fail);refine(HC _).mono ?_;rintro e w3 ⟨r,B',S,T,rfl,D,K,L,hG⟩;have s:=Zg D X.1 X.2 E.2.1 E.2.2.2 E.2.2.1 l;have HF:=O<|qj D<|qj s<|qj K<|qj L hG;clear D s K L hG;go_wp2;go_ret;obtain⟨a1,a2,a3,a4,a5⟩:=z HF;exact .inr<|.inr ⟨l,m,c,r,B',S,T,rfl,a1,a2,a3,a4,Grown.after P ⟨a5.os,a5.tape,a5.output,a5.size,a5.block⟩⟩
end
def tL(U:Nat->Value)(T:Nat->Pl):Nat->List Value
 |0=>[]
 |k+1=>tL U T k++[U k,J (T k).turns]
def Ab{e}{size}(h:w.ownsRow B e size v n xs)(hk:∀g,v.ownBlock=some g->w'.heap[g]?=w.heap[g]?):w'.ownsRow B e size v n xs:=by
 refine⟨h.1,?_⟩;rcases h.2 with hn|⟨g,cap,cur,a,hb,b,rest⟩
 .exact .inl hn
 exact .inr ⟨g,cap,cur,a,hb,(hk g<|qh a).trans b,rest⟩
structure BF (O:Nat->Prop) (w:Y) (O':Nat->Prop) (w':Y):Prop where
 os:w'.os=w.os
 tape:w'.tape=w.tape
 output:w'.output=w.output
 size:w.heap.size<=w'.heap.size
 block:∀k,k<w.heap.size->¬O k->w'.heap[k]?=w.heap[k]?
 own:∀k,O' k->O k\/w.heap.size<=k
def BF.refl Z w:BF Z w Z w:=⟨rfl,rfl,rfl,Be _,λ_ _ _=>rfl,λ_ h=>.inl h⟩
theorem BF.trans{Z a}{b}(h:BF Z w O' w')(g:BF O' w' a b):BF Z w a b:=
 ⟨g.os.trans h.os,g.tape.trans h.tape,g.output.trans h.output,GP h.size g.size,
  λk hk hn=>(g.block k (A0 hk h.size) (λe=>by
   rcases h.own k e with e|e
   .exact hn e
   omega)).trans (h.block k hk hn),
  λk e=>by
   rcases g.own k e with e|e
   .exact h.own k e
   exact .inr (GP h.size e)⟩
def BF.below{Z}{a:Y}(h:BF Z w O' w')(hb:B9 w' a):BF Z w O' a:=
 h.trans ⟨hb.os,hb.tape,hb.output,hb.size,λk hk _=>hb.block k hk,λ_ h=>.inl h⟩
def BF.Ax{Z}(hb:B9 w w'):BF Z w Z w':=(BF.refl Z w).below hb
def GG{α}f i(a b:α):AX (AX f i a) i b=AX f i b:=by
 grind [AX,Ai,Ak]
def Iq{α}(f:Nat->α)i:AX f i (f i)=f:=by
 grind [AX,Ai,Ak]
abbrev Hd(w:Y)(g o:Nat)(v:Vl):World:=((((w.setCell (G g o)<|J v.kind).setCell (G g<|o+1)<|J v.num).setCell (G g<|o+2)<|F9 v.Af).setCell (G g<|o+3)<|.string v.str).setCell (G g<|o+4)<|J v.ref
def D9 w g o v{k}(hk:k≠g):(Hd w g o v).heap[k]?=w.heap[k]?:=by
 iterate 5 rw[At _ _ _ _ (by exact hk)]
def kR w g o v:(Hd w g o v).os=w.os/\(Hd w g o v).tape=w.tape/\(Hd w g o v).output=w.output/\(Hd w g o v).heap.size=w.heap.size:=by
 have hb:Below 0 w<|Hd w g o v:=by
  iterate 5 (refine NO ?_ (W9 _) _)
  exact BE _ _
 exact⟨hb.os,hb.tape,hb.output,oq⟩
def Mb(w:Y)a v:(w.setCell a v).os=w.os/\(w.setCell a v).tape=w.tape/\(w.setCell a v).output=w.output/\(w.setCell a v).heap.size=w.heap.size:=by
 have hb:Below 0 w<|w.setCell a v:=(BE _ _).setCell (W9 _) _;exact⟨hb.os,hb.tape,hb.output,oq⟩
def PU(w:Y)(b:Nat)(a:Ac):Prop:=w.heap[b]?=some (.cells (GU a) 51 (0,0))
def Iw(w:Y)(b:Nat):Prop:=w.heap[b]?=some (.cells aF 45 (0,0))
theorem Ah{o}(h:w.heap[b]?=some o):b<w.heap.size:=by
 grind [BF.size]
def PU.lt{a}(h:PU w b a):b<w.heap.size:=Ah h
def Iw.lt(h:Iw w b):b<w.heap.size:=Ah h
def PU.below{a}(h:PU w b a)(hb:Below B w w')(c:b<B):PU w' b a:=(hb.block b c).trans h
def Iw.below(h:Iw w b)(hb:Below B w w')(a:b<B):Iw w' b:=(hb.block b a).trans h
def PU.all{a}(h:PU w b a):w.cell? (G b 0)=some (J a.op)/\w.cell? (G b 1)=some (J a.t)/\w.cell? (G b 2)=some (J a.site)/\w.cell? (G b 3)=some (J a.n)/\w.cell? (G b 4)=some (J a.k.kind)/\w.cell? (G b 5)=some (J a.k.num)/\w.cell? (G b 6)=some (F9 a.k.Af)/\w.cell? (G b 7)=some (.string a.k.str)/\w.cell? (G b 8)=some (J a.k.ref)/\w.cell? (G b 9)=some (J a.v.kind)/\w.cell? (G b 10)=some (J a.v.num)/\w.cell? (G b 11)=some (F9 a.v.Af)/\w.cell? (G b 12)=some (.string a.v.str)/\w.cell? (G b 13)=some (J a.v.ref):=by
 refine⟨?_,?_,?_,?_,?_,?_,?_,?_,?_,?_,?_,?_,?_,?_⟩;all_goals(rw[MM w b _ _ _ _ h];rfl)
def boxes w a:∃W,W=(w.alloc<|.cells (GU a) 51).alloc (.cells aF 45)/\B9 w W/\PU W w.heap.size a/\Iw W (w.heap.size+1)/\w.heap.size+1<W.heap.size:=by
 refine⟨_,rfl,(n9).alloc oq _,?_,?_,oq⟩
 .refine((BE (w.alloc<|.cells (GU a) 51).heap.size _).alloc (Be _) _).block _ oq |>.trans (DD w _)
 have h:=DD (w.alloc<|.cells (GU a) 51)<|.cells aF 45;rw[show(w.alloc (.cells (GU a) 51)).heap.size=w.heap.size+1 by simp]at h;exact h
theorem AE{e}{size}(h:w.ownsRow B e size v n xs):∃a b,v=.slice a n b:=by
 rcases h.2 with hn|⟨g,cap,cur,c,hb,d,rest⟩;all_goals grind
def CM(h:w.heap[c]?=some (.cells cs ty (0,0)))u:(w.setCell (G c j) u).heap[c]?=some (.cells (cs.setIfInBounds j u) ty (0,0)):=by
 simp[World.setCell,Array.getElem?_modify,h]
def Je(f:Nat->List Value):Nat->List Value
 |0=>[]
 |n+1=>Je f n++f n
theorem Cm{f:Nat->List Value}(hf:∀i,(f i).length=m):∀n,(Je f n).length=n*m
 |0=>by simp[Je]
 |n+1=>by rw[Je,P9,Cm hf n,hf,Nat.succ_mul]
theorem Ik{f:Nat->List Value}(hf:∀i,(f i).length=m):∀{n i j:Nat},i<n->j<m->(Je f n)[i*m+j]?=(f i)[j]?
 |0,i,j,hi,_=>om
 |n+1,i,j,hi,hj=>by
  rw[Je];rcases Nat.lt_or_eq_of_le (Nat.le_of_lt_succ hi)with h|h
  .rw[Aat (by rw[Cm hf];calc i*m+j<i*m+m:=om
     _=(i+1)*m:=(Nat.succ_mul i m).symm
     _<=n*m:=Aap m h)]
   exact Ik hf h hj
  subst h;rw[AaG (by rw[Cm hf];omega),Cm hf];congr 1;omega
theorem C6{f g:Nat->List Value}:∀{n:Nat},(∀i,i<n->f i=g i)->Je f n=Je g n
 |0,_=>rfl
 |n+1,h=>by rw[Je,Je,C6 (λi hi=>h i om),h n om]
theorem Il{f:Nat->List Value}(hf:∀i,(f i).length=m){u:V9}:∀{n i j:Nat},i<n->j<m->(Je f n).set (i*m+j) u=Je (AX f i<|(f i).set j u) n
 |0,i,j,hi,_=>om
 |n+1,i,j,hi,hj=>by
  rw[Je,Je];rcases Nat.lt_or_eq_of_le (Nat.le_of_lt_succ hi)with h|h
  .rw[List.set_append_left _ _ (by rw[Cm hf];calc i*m+j<i*m+m:=om
     _=(i+1)*m:=(Nat.succ_mul i m).symm
     _<=n*m:=Aap m h),Il hf h hj,Ak _ _ om]
  subst h;rw[List.set_append_right _ _ (by rw[Cm hf];omega),Cm hf,show i*m+j-i*m=j by omega,Ai];rw[C6 (f:=f) (g:=AX f i ((f i).set j u)) (λq hq=>(Ak _ _ om).symm)]
def Jk(f:Nat->Si)(n:Nat):List Value:=Je (λi=>GD<|f i) n
theorem Gk f n:(Jk f n).length=n*5:=Cm (m:=5) (λ_=>rfl) n
def NF{f}(hi:i<n)(hj:j<5):(Jk f n)[i*5+j]?=(GD<|f i)[j]?:=Ik (m:=5) (λ_=>rfl) hi hj
theorem ZI{f g}(h:∀i,i<n->f i=g i):Jk f n=Jk g n:=C6 λi hi=>by rw[h i hi]
theorem UQ f n x:Jk f n++GD x=Jk (AX f n x) (n+1):=by
 grind [Jk,AX,Je,C6]
def Yg{f}(hi:i<n)(hj:j<5){u:V9}{x}(a:GD x=(GD<|f i).set j u):(Jk f n).set (i*5+j) u=Jk (AX f i x) n:=by
 rw[Jk,Il (m:=5) (λ_=>rfl) hi hj];grind [Jk,AX,C6,Ai]
abbrev Mn(w:Y)(B:Nat)(v:V9)(n:Nat)(f:Nat->Si):Prop:=w.ownsRow B 107 5 v n<|Jk f n
abbrev aT(w:Y)(B:Nat)(v:V9)(n:Nat)(Bk:Nat->Nat):Prop:=w.ownsRow B 140 1 v n<|ptrs Bk n
abbrev aW(w:Y)(B:Nat)(v:V9)(n:Nat)(Bk:Nat->Nat)(A:Nat->Ad)(s:AK):Prop:=w.ownsRow B 128 1 v n<|kL Bk A s n
def Az(B0 c:Nat)(vN vT vS:V9)(w:Y)(k:Nat):Prop:=k=c\/vN.ownBlock=some k\/vT.ownBlock=some k\/vS.ownBlock=some k\/(B0<=k/\DQ 145 w k)
def OZ(Z:Nat->Prop)(B0 c:Nat)(vN vT vS:V9)(w:Y)(k:Nat):Prop:=Az B0 c vN vT vS w k\/Z k
def Rd(Z:Nat->Prop)(w:Y)(A:Ad)(t:Tb):Prop:=
 ∀w',w.heap.size<=w'.heap.size->(∀k,k<w.heap.size->¬Z k->w'.heap[k]?=w.heap[k]?)->FA w' A.va t.nv t.V/\Ea w' A.la A.ia A.xa t.d
def Rd.now{Z}{A}{t}(h:Rd Z w A t):FA w A.va t.nv t.V/\Ea w A.la A.ia A.xa t.d:=h w (Be _) λ_ _ _=>rfl
def Rd.step{Z}{A}{t}(h:Rd Z w A t)(a:BF Z w O' w'):Rd O' w' A t:=λb hs hk=>
 h b (GP a.size hs) λk h1 h2=>(hk k (A0 h1 a.size) λe=>(a.own k e).elim h2 λe'=>absurd h1 om).trans<|a.block k h1 h2
structure A6 (Z:Nat->Prop) (w:Y) (c B0:Nat) (vN vT vS vU:V9) (Bk:Nat->Nat) (A:Nat->Ad) (s:AK):Prop where
 Bw:w.heap[c]?=some (.cells #[vN,vT,vS,vU] 134 (0,0))
 ge:B0<=c
 n:aT w B0 vN s.nf Bk
 nd:∃N M,Cr w s.F B0 s.nf Bk N M/\∀i,i<s.nf->N i=i
 t:aW w B0 vT s.nt Bk A s
 si:Mn w B0 vS s.ns s.S
 u:∃ua un uc,vU=.slice ua un uc
 z:∀k,Z k->k<w.heap.size
 rd:∀i,i<s.nt->Rd (OZ Z B0 c vN vT vS w) w (A i) (s.T i)
section
variable {Z:Nat->Prop} {w w':Y} {c B0:Nat} {vN vT vS vU:V9} {Bk:Nat->Nat} {A:Nat->Ad} {s:AK}
def A6.lt(h:A6 Z w c B0 vN vT vS vU Bk A s):c<w.heap.size:=Ah h.Bw
def A6.cells(h:A6 Z w c B0 vN vT vS vU Bk A s):w.cell? (G c 0)=some vN/\w.cell? (G c 1)=some vT/\w.cell? (G c 2)=some vS/\w.cell? (G c 3)=some vU/\∀q,w.frozen? (G c q)=false:=
 ⟨by simp[World.cell?,h.Bw],by simp[World.cell?,h.Bw],by simp[World.cell?,h.Bw],by simp[World.cell?,h.Bw],λq=>by simp[World.frozen?,h.Bw]⟩
def Cd{e' b' Z:Nat}{xs'}(h:w.ownsRow b e Z v n xs)(h':w.ownsRow b' e' i v' n' xs')(k:e≠e'){q}(hq:v.ownBlock=some q):v'.ownBlock≠some q:=by
 intro a;obtain⟨_,⟨c,_⟩|⟨g,cap,cur,c,_,hb,_⟩⟩:=h
 .rw[c]at hq;cases hq
 obtain⟨_,⟨hv',_⟩|⟨g',d,f,hv',_,j,_⟩⟩:=h'
 .rw[hv']at a;cases a
 rw[c]at hq;rw[hv']at a;cases hq;cases a;grind
def AV{Z}(h:w.ownsRow b e Z v n xs){q}(hq:v.ownBlock=some q):∃cur,w.heap[q]?=some (.cells cur e (0,0))/\b<=q:=by
 obtain⟨_,⟨a,_⟩|⟨g,cap,cur,a,hb,c,_⟩⟩:=h
 .rw[a]at hq;cases hq
 rw[a]at hq;cases hq;exact⟨cur,c,hb⟩
def Et{Z}(h:w.ownsRow b e Z v n xs)(a:e≠145){q}(hq:v.ownBlock=some q):¬DQ 145 w q:=by
 obtain⟨cur,hb,_⟩:=AV h hq;grind [DQ]
def A6.Ba(h:A6 Z w c B0 vN vT vS vU Bk A s){e b X n:Nat}{v:V9}{xs}(h':w.ownsRow b e X v n xs)(a:e≠134):v.ownBlock≠some c:=by
 intro hq;obtain⟨cur,hb,_⟩:=AV h' hq;rw[h.Bw]at hb;cases hb;exact a rfl
def A6.Gy(h:A6 Z w c B0 vN vT vS vU Bk A s):¬DQ 145 w c:=by
 rintro(⟨x,hc⟩|⟨es,x,hc⟩)
 .rw[h.Bw]at hc;cases hc
 rw[h.Bw]at hc;cases hc
def A6.Pm(h:A6 Z w c B0 vN vT vS vU Bk A s){k}(hk:Az B0 c vN vT vS w k):B0<=k/\k<w.heap.size:=by
 rcases hk with rfl|e|e|e|⟨e1,e2⟩
 .exact⟨h.ge,h.lt⟩
 .exact h.n.lt k e
 .exact h.t.lt k e
 .exact h.si.lt k e
 rcases e2 with⟨x,a⟩|⟨es,x,a⟩;all_goals grind
theorem A6.next(h:A6 Z w c B0 vN vT vS vU Bk A s){a b d g:V9}{f}{A'}{s'}
  (j:w'.os=w.os/\w'.tape=w.tape/\w'.output=w.output) (hz:w.heap.size<=w'.heap.size) (hb:∀k,k<w.heap.size->¬Az B0 c vN vT vS w k->w'.heap[k]?=w.heap[k]?)
  (q:∀k,a.ownBlock=some k->vN.ownBlock=some k\/w.heap.size<=k) (t:∀k,b.ownBlock=some k->vT.ownBlock=some k\/w.heap.size<=k) (u:∀k,d.ownBlock=some k->vS.ownBlock=some k\/w.heap.size<=k)
  (hc:w'.heap[c]?=some (.cells #[a,b,d,g] 134 (0,0))) (n':aT w' B0 a s'.nf f) (m:∃X M,Cr w' s'.F B0 s'.nf f X M/\∀i,i<s'.nf->X i=i)
  (t':aW w' B0 b s'.nt f A' s') (n:Mn w' B0 d s'.ns s'.S) (u':∃ua un uc,g=.slice ua un uc)
  (o:∀i,i<s'.nt->Rd (OZ Z B0 c vN vT vS w) w (A' i) (s'.T i)\/Rd (OZ Z B0 c a b d w') w' (A' i) (s'.T i)):
  A6 Z w' c B0 a b d g f A' s'/\BF (Az B0 c vN vT vS w) w (Az B0 c a b d w') w':=by
 have l:BF (Az B0 c vN vT vS w) w (Az B0 c a b d w') w':=by
  refine⟨j.1,j.2.1,j.2.2,hz,hb,λk hk=>?_⟩;by_cases v:k<w.heap.size
  .by_cases Dt:Az B0 c vN vT vS w k
   .exact .inl Dt
   rcases hk with e|e|e|e|⟨e1,e2⟩
   .exact .inl (.inl e)
   .exact(q k e).elim (λe=>.inl<|.inr<|.inl e) .inr
   .exact(t k e).elim (λe=>.inl<|.inr<|.inr<|.inl e) .inr
   .exact(u k e).elim (λe=>.inl<|.inr<|.inr<|.inr<|.inl e) .inr
   refine .inl<|.inr<|.inr<|.inr<|.inr ⟨e1,?_⟩;unfold DQ at*;grind
  exact .inr om
 have p:BF (OZ Z B0 c vN vT vS w) w (OZ Z B0 c a b d w') w':=⟨l.os,l.tape,l.output,l.size,λk h1 h2=>l.block k h1 λe=>h2<|.inl e,λk e=>e.elim (λe=>(l.own k e).imp .inl id) λe=>.inl<|.inr e⟩;exact⟨⟨hc,h.ge,n',m,t',n,u',λk e=>A0 (h.z k e) hz,λi hi=>(o i hi).elim (λr=>r.step p) λr=>r⟩,l⟩
def KZ{a:Nat}(h:DQ a w k):k<w.heap.size:=by
 grind [DQ]
def A6.below(h:A6 Z w c B0 vN vT vS vU Bk A s)(hb:B9 w w'):A6 Z w' c B0 vN vT vS vU Bk A s/\BF (Az B0 c vN vT vS w) w (Az B0 c vN vT vS w') w':=by
 obtain⟨X,M,hN,hid⟩:=h.nd;exact h.next ⟨hb.os,hb.tape,hb.output⟩ hb.size (λk hk _=>hb.block k hk) (λ_ e=>.inl e) (λ_ e=>.inl e) (λ_ e=>.inl e) ((hb.block c h.lt).trans h.Bw) (Wo h.n hb) ⟨X,M,hN.keep λb hn=>hb.block b<|KZ hn,hid⟩ (Wo h.t hb) (Wo h.si hb) h.u λi hi=>.inl<|h.rd i hi
def Rd.mono{Z}{A}{t}(h:Rd Z w A t)(a:∀k,O' k->Z k):Rd O' w A t:=λw' hs hk=>h w' hs λk h1 h2=>hk k h1 λe=>h2<|a k e
def ZB(Z:Nat->Prop)(a b k:Nat):Prop:=Z k\/(a<=k/\k<b)
def A6.enter(h:A6 Z w c B0 vN vT vS vU Bk A s)(hb:B9 w w'):A6 (ZB Z w.heap.size w'.heap.size) w' c B0 vN vT vS vU Bk A s/\BF (Az B0 c vN vT vS w) w (Az B0 c vN vT vS w') w':=by
 obtain⟨h1,b⟩:=h.below hb;refine⟨⟨h1.Bw,h1.ge,h1.n,h1.nd,h1.t,h1.si,h1.u,λk e=>e.elim (λe=>h1.z k e) λe=>e.2,λi hi a hs hk=>?_⟩,b⟩;refine h.rd i hi a (GP hb.size hs) λk k1 k2=>(hk k (A0 k1 hb.size) λe=>?_).trans<|hb.block k k1;rcases e with e|e|e
 .exact(b.own k e).elim (λe=>k2<|.inl e) λe=>om
 .exact k2 (.inr e)
 omega
def A6.leave{a}(h:A6 Z w c B0 vN vT vS vU Bk A s)(hz:∀k,a k->Z k):A6 a w c B0 vN vT vS vU Bk A s:=
 ⟨h.Bw,h.ge,h.n,h.nd,h.t,h.si,h.u,λk e=>h.z k<|hz k e,λi hi=>(h.rd i hi).mono λk e=>e.imp id<|hz k⟩
theorem A6.box(h:A6 Z w c B0 vN vT vS vU Bk A s){b}{cs}{ty}(hb:Z b)(p:B0<=b)(hn:¬Az B0 c vN vT vS w b)(a:w'.os=w.os/\w'.tape=w.tape/\w'.output=w.output/\w'.heap.size=w.heap.size)(hk:∀k,k≠b->w'.heap[k]?=w.heap[k]?)(hc:w'.heap[b]?=some (.cells cs ty (0,0)))(q:ty≠145):
  A6 Z w' c B0 vN vT vS vU Bk A s/\∀k,Az B0 c vN vT vS w' k->Az B0 c vN vT vS w k:=by
 have o:∀k,Az B0 c vN vT vS w' k->Az B0 c vN vT vS w k:=λk e=>by
  rcases e with e|e|e|e|⟨e1,e2⟩
  .exact .inl e
  .exact .inr (.inl e)
  .exact .inr (.inr<|.inl e)
  .exact .inr (.inr<|.inr<|.inl e)
  by_cases d:k=b
  .subst d;rcases e2 with⟨x,f⟩|⟨es,x,f⟩
   .rw[hc]at f;cases f;exact absurd rfl q
   rw[hc]at f;cases f
  refine .inr<|.inr<|.inr<|.inr ⟨e1,?_⟩;unfold DQ at*;rw[hk k d]at e2;exact e2
 have j:∀k,Az B0 c vN vT vS w k->w'.heap[k]?=w.heap[k]?:=λk e=>hk k λe'=>hn<|e'▸e;obtain⟨X,M,hN,hid⟩:=h.nd;refine⟨⟨(j c<|.inl rfl).trans h.Bw,h.ge,Ab h.n λg e=>j g<|.inr<|.inl e,⟨X,M,hN.keep λb' r=>?_,hid⟩,Ab h.t λg e=>j g<|.inr<|.inr<|.inl e,Ab h.si λg e=>j g<|.inr<|.inr<|.inr<|.inl e,h.u,λk e=>by rw[a.2.2.2];exact h.z k e,λi hi l hs m=>?_⟩,o⟩
 .grind [Az]
 refine h.rd i hi l (by rw[<-a.2.2.2];exact hs) λk k1 k2=>(m k (by rw[a.2.2.2];exact k1) λe=>k2<|e.imp (o k) id).trans<|hk k λe=>k2<|.inr<|e▸hb
def A6.fin{n}{a}{d f g l}{m}(h:A6 n w' c B0 d f g l m A' s')(j:BF (Az B0 c vN vT vS w) w (Az B0 c d f g w') w')(o:B0<=w.heap.size)
  {b} {cs} {ty} (hb:n b) (p:w.heap.size<=b) (hn:¬Az B0 c d f g w' b) (q:∀k,Z k->n k) (i:a.os=w'.os/\a.tape=w'.tape/\a.output=w'.output/\a.heap.size=w'.heap.size) (hk:∀k,k≠b->a.heap[k]?=w'.heap[k]?) (hc:a.heap[b]?=some (.cells cs ty (0,0))) (r:ty≠145):
  A6 Z a c B0 d f g l m A' s'/\BF (Az B0 c vN vT vS w) w (Az B0 c d f g a) a:=by
 obtain⟨h1,s⟩:=h.box hb (GP o p) hn i hk hc r;exact⟨h1.leave q,⟨i.1.trans j.os,i.2.1.trans j.tape,i.2.2.1.trans j.output,by rw[i.2.2.2];exact j.size,λk k1 k2=>(hk k om).trans<|j.block k k1 k2,λk e=>j.own k<|s k e⟩⟩
def A6.rX(h:A6 Z w c B0 vN vT vS vU Bk A s){ua}{un uc}:A6 Z (w.setCell (G c 3)<|.slice ua un uc) c B0 vN vT vS (.slice ua un uc) Bk A s/\BF (Az B0 c vN vT vS w) w (Az B0 c vN vT vS<|w.setCell (G c 3)<|.slice ua un uc) (w.setCell (G c 3)<|.slice ua un uc):=by
 obtain⟨X,M,hN,hid⟩:=h.nd;have a:∀k,k≠c->(w.setCell (G c 3)<|.slice ua un uc).heap[k]?=w.heap[k]?:=λk hk=>At _ _ _ _ (by exact hk);refine h.next ⟨rfl,rfl,rfl⟩ oq (λk _ hk=>a k λe=>hk<|.inl e) (λ_ e=>.inl e) (λ_ e=>.inl e) (λ_ e=>.inl e) ?_ (Ab h.n λg e=>a g λe'=>h.Ba h.n oo<|e'▸e) ⟨X,M,hN.keep λb hn=>a b λe=>h.Gy<|e▸hn,hid⟩
  (Ab h.t λg e=>a g λe'=>h.Ba h.t oo<|e'▸e) (Ab h.si λg e=>a g λe'=>h.Ba h.si oo<|e'▸e) ⟨_,_,_,rfl⟩ λi hi=>.inl<|h.rd i hi
 exact(Lo _ _ _ _ _ _ h.Bw).trans oq
def A6.drew(h:A6 Z w c B0 vN vT vS vU Bk A s):A6 Z w.drew c B0 vN vT vS vU Bk A s:=(h.below (BE _ _).drew).1
def BF.Ts{Z}(h:BF Z w (Az B0 c vN vT vS w') w'):BF Z w (Az B0 c vN vT vS w'.drew) w'.drew:=⟨h.os,h.tape,h.output,h.size,h.block,λk e=>h.own k e⟩
end
def QV Bk A s n:(kL Bk A s n).length=n:=by simp[kL]
theorem OC{Bk a}{A}(h:∀i,i<n->AL Bk (A i) (s.T i)=AL a (A' i) (s'.T i)):kL Bk A s n=kL a A' s' n:=by
 exact List.map_congr_left λi hi=>h i<|List.mem_range.1 hi
def oH{Bk}{A}{t}(a:t<n)a' x':(kL Bk A s n).set t (AL Bk a' x')=kL Bk (AX A t a') (BJ s t x') n:=by
 apply AaS;intro q;rw[List.getElem?_set];by_cases hq:q<n
 .by_cases e:t=q
  .subst e;rw[C3 rfl,C3 (by rw[QV];exact hq),LV hq];show _=some (AL Bk (AX A t a' t)<|AX s.T t x' t);rw[Ai,Ai]
  rw[LV hq,LV hq];show _=some (AL Bk (AX A t a' q)<|AX s.T t x' q);grind [kL,AX,BJ]
 grind [kL,AX,BJ]
section
variable {Z:Nat->Prop} {w w' X w3:Y} {c B0:Nat} {vN vT vS vU:V9} {Bk:Nat->Nat} {A:Nat->Ad} {s:AK}
def A6.CU(h:A6 Z w c B0 vN vT vS vU Bk A s){t}(d:t<s.nt):∃g e,vT=.slice (some<|G g 0) s.nt e/\g<w.heap.size/\B0<=g/\w.cell? (G g t)=some (AL Bk (A t)<|s.T t)/\∀q,w.frozen? (G g q)=false:=by
 obtain⟨hl,⟨b,f⟩|⟨g,cap,cur,b,hb,a,h1,h2,h3,h4⟩⟩:=h.t
 .omega
 refine⟨g,cap,b,(E1.1 a).1,hb,?_,λq=>by simp[World.frozen?,a]⟩;rw[Ok (b▸h.t) t om,LV d]
def A6.Gi(h:A6 Z w c B0 vN vT vS vU Bk A s){g l t}(f:vT=.slice (some<|G g 0) s.nt l)(m:t<s.nt){a'}{x'}(o:Rd (OZ Z B0 c vN vT vS w) w a' x'):
  A6 Z (w.setCell (G g t)<|AL Bk a' x') c B0 vN vT vS vU Bk (AX A t a') (BJ s t x')/\BF (Az B0 c vN vT vS w) w (Az B0 c vN vT vS<|w.setCell (G g t)<|AL Bk a' x') (w.setCell (G g t)<|AL Bk a' x'):=by
 obtain⟨X,M,hN,hid⟩:=h.nd;have a:vT.ownBlock=some g:=qh f
 have d:∀k,k≠g->(w.setCell (G g t)<|AL Bk a' x').heap[k]?=w.heap[k]?:=λk hk=>At _ _ _ _ (by exact hk);have j:c≠g:=λe=>h.Ba h.t oo<|e▸a;refine h.next ⟨rfl,rfl,rfl⟩ oq (λk _ hk=>d k λe=>hk<|.inr<|.inr<|.inl<|e▸a) (λ_ e=>.inl e) (λ_ e=>.inl e) (λ_ e=>.inl e) ((d c j).trans h.Bw) (Ab h.n λq e=>d q λe'=>Cd h.t h.n oo a<|e'▸e) ⟨X,M,hN.keep λb hn=>d b λe=>Et h.t oo a<|e▸hn,hid⟩ ?_
  (Ab h.si λq e=>d q λe'=>Cd h.t h.si oo a<|e'▸e) h.u λi hi=>?_
 .have h1:=(X0 (f▸h.t:w.ownsRow B0 128 1 (.slice (some<|G g 0) s.nt l) s.nt<|kL Bk A s s.nt) t<|AL Bk a' x').1;rw[oH m]at h1;rw[<-f]at h1;exact h1
 show Rd _ _ (AX A t a' i) (AX s.T t x' i)\/_;grind [OZ,AX,BJ,Ai,A6.rd]
def A6.more(h:A6 Z w c B0 vN vT vS vU Bk A s)(b:B9 w X){row}(a:X.grownBy w3 row)(f:∀k,row=some k->k≠c):w3.heap[c]?=some (.cells #[vN,vT,vS,vU] 134 (0,0))/\∀q,q<w.heap.size->row≠some q->w3.heap[q]?=w.heap[q]?:=by
 have d:∀q,q<w.heap.size->row≠some q->w3.heap[q]?=w.heap[q]?:=λq hq h1=>(a.block q (A0 hq b.size) λe=>h1 e.symm).trans<|b.block q hq;grind [A6.Bw]
def Rd.empty{Z}{a}{t}(h1:t.nv=0)(h2:t.d.n=0)(h3:t.d.m=0)(h4:t.d.x=0):Rd Z w a t:=λw' _ _=>⟨.inl h1,.inl h2,.inl h3,.inl h4⟩
def A6.rS(h:A6 Z w c B0 vN vT vS vU Bk A s){g3 a}{a'}{x'}(j:B9 w X)(d:X.grownBy w3 vT.ownBlock)
  (r:w3.ownsRow B0 128 1 (.slice (some<|G g3 0) (s.nt+1) a) (s.nt+1)<|kL Bk A s s.nt++[AL Bk a' x']) (g:vT.ownBlock=some g3\/w.heap.size<=g3) (v:Rd (OZ Z B0 c vN vT vS w) w a' x'):
  w3.heap[c]?=some (.cells #[vN,vT,vS,vU] 134 (0,0))/\A6 Z (w3.setCell (G c 1)<|.slice (some<|G g3 0) (s.nt+1) a) c B0 vN (.slice (some<|G g3 0) (s.nt+1) a) vS vU Bk (AX A s.nt a') {s with nt:=s.nt+1,T:=AX s.T s.nt x'}/\BF (Az B0 c vN vT vS w) w (Az B0 c vN (.slice (some<|G g3 0) (s.nt+1) a) vS<|w3.setCell (G c 1)<|.slice (some<|G g3 0) (s.nt+1) a) (w3.setCell (G c 1)<|.slice (some<|G g3 0) (s.nt+1) a):=by
 obtain⟨W,M,hN,hid⟩:=h.nd;obtain⟨l,f⟩:=h.more j d λk e e'=>h.Ba h.t oo<|e'▸e;have m:∀k,k≠c->(w3.setCell (G c 1)<|.slice (some<|G g3 0) (s.nt+1) a).heap[k]?=w3.heap[k]?:=λk hk=>At _ _ _ _ (by exact hk);have o:g3≠c:=λe=>by
  rcases g with h1|h1
  .exact h.Ba h.t oo (e▸h1)
  have:=h.lt;omega
 refine⟨l,h.next ⟨d.os.trans j.os,d.tape.trans j.tape,d.output.trans j.output⟩ (by have:=j.size;have:=d.size;simp;omega) (λk p hk=>(m k λe=>hk<|.inl e).trans<|f k p λe=>hk<|.inr<|.inr<|.inl e) (λ_ e=>.inl e) (λk e=>by cases e;exact g) (λ_ e=>.inl e) ((Lo _ _ _ _ _ _ l).trans oq)
  (Ab h.n λq e=>(m q λe'=>h.Ba h.n oo<|e'▸e).trans<|f q (h.n.lt q e).2<|Cd h.n h.t oo e) ⟨W,M,hN.keep λb hn=>(m b λe=>h.Gy<|e▸hn).trans<|f b (KZ hn) λe=>Et h.t oo e hn,hid⟩ ?_
  (Ab h.si (λq e=>(m q (λe'=>h.Ba h.si oo (e'▸e))).trans (f q (h.si.lt q e).2 (Cd h.si h.t oo e)))) h.u (λi hi=>?_)⟩
 .refine Ab ?_ λq e=>m q (by cases e;exact o);have e:kL Bk (AX A s.nt a') {s with nt:=s.nt+1,T:=AX s.T s.nt x'} (s.nt+1)=kL Bk A s s.nt++[AL Bk a' x']:=by
   rw[<-Sa];grind [kL,Rd,OZ,AX,Az,OC]
  grind
 grind [kL,Rd,AX,Ai,A6.rd]
def X7{Z}{ys}(h:w.ownsRow B e Z (S9 g n b) n xs)(i:m<=n)(hl:ys.length=m*Z)(hp:ys<+:xs):w.ownsRow B e Z (S9 g m b) m ys:=by
 obtain⟨d,⟨c,j⟩|⟨g',cap,cur,c,hb,a,h1,h2,h3,h4⟩⟩:=h
 .cases c
 cases c;refine⟨hl,.inr ⟨g,b,cur,rfl,hb,a,om,h2,h3,?_⟩⟩;obtain⟨r,f⟩:=hp;have h5:(cur.toList.take<|n*Z).take (m*Z)=ys:=by rw[h4,<-f,<-hl];exact List.take_left
 grind
def A6.sZ(h:A6 Z w c B0 vN vT vS vU Bk A s){g a m}(l:vT=.slice (some<|G g 0) s.nt a)(p:m<=s.nt):
  A6 Z (w.setCell (G c 1)<|.slice (some<|G g 0) m a) c B0 vN (.slice (some<|G g 0) m a) vS vU Bk A {s with nt:=m}/\BF (Az B0 c vN vT vS w) w (Az B0 c vN (.slice (some<|G g 0) m a) vS<|w.setCell (G c 1)<|.slice (some<|G g 0) m a) (w.setCell (G c 1)<|.slice (some<|G g 0) m a):=by
 obtain⟨X,M,hN,hid⟩:=h.nd;have o:vT.ownBlock=some g:=qh l
 have d:∀k,k≠c->(w.setCell (G c 1)<|.slice (some<|G g 0) m a).heap[k]?=w.heap[k]?:=λk hk=>At _ _ _ _ (by exact hk);have f:g≠c:=λe=>h.Ba h.t oo<|e▸o;refine h.next ⟨rfl,rfl,rfl⟩ oq (λk _ hk=>d k λe=>hk<|.inl e) (λ_ e=>.inl e) (λk e=>by cases e;exact .inl o) (λ_ e=>.inl e) ((Lo _ _ _ _ _ _ h.Bw).trans oq) (Ab h.n λq e=>d q λe'=>h.Ba h.n oo<|e'▸e) ⟨X,M,hN.keep λb hn=>d b λe=>h.Gy<|e▸hn,hid⟩ ?_
  (Ab h.si λq e=>d q λe'=>h.Ba h.si oo<|e'▸e) h.u λi hi=>.inl<|h.rd i (by have hi:i<m:=hi;omega)
 refine Ab (X7 (l▸h.t:w.ownsRow B0 128 1 (.slice (some<|G g 0) s.nt a) s.nt<|kL Bk A s s.nt) p (by rw[QV];exact(Nat.mul_one m).symm) ?_) λq e=>d q (by cases e;exact f);refine List.IsPrefix.map _ ?_;obtain⟨j,hj⟩:∃j,s.nt=m+j:=⟨s.nt-m,om⟩;rw[hj];exact⟨(List.range j).map (m+·),by rw[List.range_add]⟩
def A6.rR(h:A6 Z w c B0 vN vT vS vU Bk A s){g3 a}{x'}(j:B9 w X)(d:X.grownBy w3 vS.ownBlock)
  (r:w3.ownsRow B0 107 5 (.slice (some<|G g3 0) (s.ns+1) a) (s.ns+1)<|Jk s.S s.ns++GD x') (g:vS.ownBlock=some g3\/w.heap.size<=g3):
  w3.heap[c]?=some (.cells #[vN,vT,vS,vU] 134 (0,0))/\A6 Z (w3.setCell (G c 2)<|.slice (some<|G g3 0) (s.ns+1) a) c B0 vN vT (.slice (some<|G g3 0) (s.ns+1) a) vU Bk A {s with ns:=s.ns+1,S:=AX s.S s.ns x'}/\BF (Az B0 c vN vT vS w) w (Az B0 c vN vT (.slice (some<|G g3 0) (s.ns+1) a)<|w3.setCell (G c 2)<|.slice (some<|G g3 0) (s.ns+1) a) (w3.setCell (G c 2)<|.slice (some<|G g3 0) (s.ns+1) a):=by
 obtain⟨W,M,hN,hid⟩:=h.nd;obtain⟨l,f⟩:=h.more j d λk e e'=>h.Ba h.si oo<|e'▸e;have m:∀k,k≠c->(w3.setCell (G c 2)<|.slice (some<|G g3 0) (s.ns+1) a).heap[k]?=w3.heap[k]?:=λk hk=>At _ _ _ _ (by exact hk);have o:g3≠c:=λe=>by
  rcases g with h1|h1
  .exact h.Ba h.si oo (e▸h1)
  have:=h.lt;omega
 refine⟨l,h.next ⟨d.os.trans j.os,d.tape.trans j.tape,d.output.trans j.output⟩ (by have:=j.size;have:=d.size;simp;omega) (λk p hk=>(m k λe=>hk<|.inl e).trans<|f k p λe=>hk<|.inr<|.inr<|.inr<|.inl e) (λ_ e=>.inl e) (λ_ e=>.inl e) (λk e=>by cases e;exact g) ((Lo _ _ _ _ _ _ l).trans oq)
  (Ab h.n λq e=>(m q λe'=>h.Ba h.n oo<|e'▸e).trans<|f q (h.n.lt q e).2<|Cd h.n h.si oo e) ⟨W,M,hN.keep λb hn=>(m b λe=>h.Gy<|e▸hn).trans<|f b (KZ hn) λe=>Et h.si oo e hn,hid⟩
  (Ab h.t (λq e=>(m q (λe'=>h.Ba h.t oo (e'▸e))).trans (f q (h.t.lt q e).2 (Cd h.t h.si oo e)))) ?_ h.u (λi hi=>.inl (h.rd i hi))⟩
 refine Ab ?_ λq e=>m q (by cases e;exact o);grind [GD,AX,UQ]
def A6.sY(h:A6 Z w c B0 vN vT vS vU Bk A s){g a m}(l:vS=.slice (some<|G g 0) s.ns a)(p:m<=s.ns):
  A6 Z (w.setCell (G c 2)<|.slice (some<|G g 0) m a) c B0 vN vT (.slice (some<|G g 0) m a) vU Bk A {s with ns:=m}/\BF (Az B0 c vN vT vS w) w (Az B0 c vN vT (.slice (some<|G g 0) m a)<|w.setCell (G c 2)<|.slice (some<|G g 0) m a) (w.setCell (G c 2)<|.slice (some<|G g 0) m a):=by
 obtain⟨X,M,hN,hid⟩:=h.nd;have o:vS.ownBlock=some g:=qh l
 have d:∀k,k≠c->(w.setCell (G c 2)<|.slice (some<|G g 0) m a).heap[k]?=w.heap[k]?:=λk hk=>At _ _ _ _ (by exact hk);have f:g≠c:=λe=>h.Ba h.si oo<|e▸o;refine h.next ⟨rfl,rfl,rfl⟩ oq (λk _ hk=>d k λe=>hk<|.inl e) (λ_ e=>.inl e) (λ_ e=>.inl e) (λk e=>by cases e;exact .inl o) ((Lo _ _ _ _ _ _ h.Bw).trans oq) (Ab h.n λq e=>d q λe'=>h.Ba h.n oo<|e'▸e) ⟨X,M,hN.keep λb hn=>d b λe=>h.Gy<|e▸hn,hid⟩
  (Ab h.t λq e=>d q λe'=>h.Ba h.t oo<|e'▸e) ?_ h.u λi hi=>.inl<|h.rd i hi
 refine Ab (X7 (l▸h.si:w.ownsRow B0 107 5 (.slice (some<|G g 0) s.ns a) s.ns<|Jk s.S s.ns) p (Gk _ _) ?_) λq e=>d q (by cases e;exact f);obtain⟨j,hj⟩:∃j,s.ns=m+j:=⟨s.ns-m,om⟩;rw[hj];clear hj
 induction j with
 |zero=>exact List.prefix_refl _
 |succ j ih=>exact ih.trans<|List.prefix_append _ _
def A6.GB(h:A6 Z w c B0 vN vT vS vU Bk A s){i}(hi:i<s.ns):∃g d,vS=.slice (some<|G g 0) s.ns d/\g<w.heap.size/\B0<=g/\(∀j u,(GD<|s.S i)[j]?=some u->w.cell? (G g<|i*5+j)=some u)/\∀q,w.frozen? (G g q)=false:=by
 obtain⟨hl,⟨b,e⟩|⟨g,cap,cur,b,hb,a,h1,h2,h3,h4⟩⟩:=h.si
 .omega
 refine⟨g,cap,b,(E1.1 a).1,hb,λj u hu=>?_,λq=>by simp[World.frozen?,a]⟩;have hj:j<5:=by have:=(So.1 hu).1;exact this
 rw[Ok (b▸h.si) (i*5+j) om,NF hi hj,hu]
def A6.Fh(h:A6 Z w c B0 vN vT vS vU Bk A s){g m i j}(f:vS=.slice (some<|G g 0) s.ns m)(hi:i<s.ns)(hj:j<5){u:V9}{x'}(o:GD x'=(GD<|s.S i).set j u):
  A6 Z (w.setCell (G g<|i*5+j) u) c B0 vN vT vS vU Bk A {s with S:=AX s.S i x'}/\BF (Az B0 c vN vT vS w) w (Az B0 c vN vT vS<|w.setCell (G g<|i*5+j) u) (w.setCell (G g<|i*5+j) u):=by
 obtain⟨X,M,hN,hid⟩:=h.nd;have a:vS.ownBlock=some g:=qh f
 have d:∀k,k≠g->(w.setCell (G g<|i*5+j) u).heap[k]?=w.heap[k]?:=λk hk=>At _ _ _ _ (by exact hk);have l:c≠g:=λe=>h.Ba h.si oo<|e▸a;refine h.next ⟨rfl,rfl,rfl⟩ oq (λk _ hk=>d k λe=>hk<|.inr<|.inr<|.inr<|.inl<|e▸a) (λ_ e=>.inl e) (λ_ e=>.inl e) (λ_ e=>.inl e) ((d c l).trans h.Bw) (Ab h.n λq e=>d q λe'=>Cd h.si h.n oo a<|e'▸e) ⟨X,M,hN.keep λb hn=>d b λe=>Et h.si oo a<|e▸hn,hid⟩
  (Ab h.t λq e=>d q λe'=>Cd h.si h.t oo a<|e'▸e) ?_ h.u λi hi=>.inl<|h.rd i hi
 have h1:=(X0 (f▸h.si:w.ownsRow B0 107 5 (.slice (some<|G g 0) s.ns m) s.ns<|Jk s.S s.ns) (i*5+j) u).1;rw[Yg hi hj o,<-f]at h1;exact h1
def A6.EH(h:A6 Z w c B0 vN vT vS vU Bk A s){b}{cs}{ty}(hb:w.heap[b]?=some (.cells cs ty (0,0)))(h1:ty≠134)(h2:ty≠140)(h3:ty≠128)(h4:ty≠107)(h5:ty≠145):¬Az B0 c vN vT vS w b:=by
 rintro(rfl|e|e|e|⟨_,e⟩)
 .rw[h.Bw]at hb;cases hb;exact h1 rfl
 .obtain⟨cur,hc,_⟩:=AV h.n e;rw[hc]at hb;cases hb;exact h2 rfl
 .obtain⟨cur,hc,_⟩:=AV h.t e;rw[hc]at hb;cases hb;exact h3 rfl
 .obtain⟨cur,hc,_⟩:=AV h.si e;rw[hc]at hb;cases hb;exact h4 rfl
 rcases e with⟨x,a⟩|⟨es,x,a⟩;all_goals grind
theorem A6.base(h:A6 Z w c B0 vN vT vS vU Bk A s):B0<=w.heap.size:=GP h.ge<|AaM h.lt
end
def MO(f:Nat->Vl)(n:Nat):List Value:=Je (λi=>Hh<|f i) n
def Ir f n:(MO f n).length=n*5:=Cm (m:=5) (f:=λi=>Hh<|f i) (λ_=>rfl) n
def SZ{f}(hi:i<n)(hj:j<5):(MO f n)[i*5+j]?=(Hh<|f i)[j]?:=Ik (m:=5) (λ_=>rfl) hi hj
def PJ f n x:MO f n++Hh x=MO (AX f n x) (n+1):=by
 grind [MO,Hh,AX,Je,Ai,C6,Ak]
theorem NH(f:Nat->Vl):∀n,∀u∈MO f n,u.oneCell'=true
 |0,u,h=>by cases h
 |n+1,u,h=>by
  rcases List.mem_append.1 h with h|h
  .exact NH f n u h
  simp only[Hh,List.mem_cons,AaI,or_false]at h;rcases h with h|h|h|h|h<;>(rw[h];rfl)
abbrev BW(w:Y)(B:Nat)(v:V9)(n:Nat)(f:Nat->Vl):Prop:=w.ownsRow B 43 5 v n<|MO f n
def FA.news{off}{f}(h:∀i,i<n->EP w b (off+i*5) (f i)):∀j u,(MO f n)[j]?=some u->w.cell? (((G b off):Addr).add j)=some u:=λj u hu=>by
 have a:((G b off):Addr).add j=(G b<|off+j):=by unfold Addr.add;split<;>simp_all
 rw[a];have hj:j<n*5:=by
  have:=(So.1 hu).1
  rwa [Ir]at this
 obtain⟨i,r,hi,c,e⟩:∃i r,i<n/\r<5/\j=i*5+r:=⟨j/5,j%5,om,om,om⟩;subst e;rw[SZ hi c]at hu;obtain⟨c0,c1,c2,c3,c4⟩:=h i hi;rw[<-Nat.add_assoc];rcases(by omega:r=0\/r=1\/r=2\/r=3\/r=4)with rfl|rfl|rfl|rfl|rfl
 .simp[Hh]at hu;rw[<-hu];exact c0
 .simp[Hh]at hu;rw[<-hu];exact c1
 .simp[Hh]at hu;rw[<-hu];exact c2
 .simp[Hh]at hu;rw[<-hu];exact c3
 simp[Hh]at hu;rw[<-hu];exact c4
theorem BW.at{a}{f}(h:BW w B (S9 g n a) n f){i}(hi:i<n):EP w g (i*5)<|f i:=by
 refine EP.of λj u hu=>?_;have hj:j<5:=by have:=(So.1 hu).1;exact this
 rw[Ok h (i*5+j) om,SZ hi hj,hu]
def BW.Hd{f:Nat->Vl}(h:BW w B (S9 g n b) n f){i:Nat}(hi:i<n)(v:Vl):BW (Hd w g (i*5) v) B (S9 g n b) n<|AX f i v:=by
 have c:=(X0 h (i*5+0)<|J v.kind).1;have h1:=(X0 c (i*5+1)<|J v.num).1;have h2:=(X0 h1 (i*5+2)<|F9 v.Af).1;have h3:=(X0 h2 (i*5+3)<|.string v.str).1;have h4:=(X0 h3 (i*5+4)<|J v.ref).1;have hl:∀(q:Nat->List Value) (a:List Value),(∀j,(q j).length=5)->a.length=5->∀j,(AX q i a j).length=5:=λq a hq d j=>by
  unfold AX;split
  .exact d
  exact hq j
 have e:((((((MO f n).set (i*5+0)<|J v.kind).set (i*5+1)<|J v.num).set (i*5+2)<|F9 v.Af).set (i*5+3)<|.string v.str).set (i*5+4)<|J v.ref)=MO (AX f i v) n:=by
  unfold MO;rw[Il (m:=5) (λ_=>rfl) hi om];rw[Il (m:=5) (hl _ _ (λ_=>rfl) rfl) hi om,Ai,GG];rw[Il (m:=5) (hl _ _ (λ_=>rfl) rfl) hi om,Ai,GG];rw[Il (m:=5) (hl _ _ (λ_=>rfl) rfl) hi om,Ai,GG];rw[Il (m:=5) (hl _ _ (λ_=>rfl) rfl) hi om,Ai,GG];refine C6 λq hq=>?_;by_cases eq:q=i
  .subst eq;rw[Ai,Ai];rfl
  grind [AX,Ak]
 rw[e]at h4;exact h4
def Rd.pZ{Z}{A}{t}(h:BW w B (S9 g t.nv c) t.nv t.V)(b:A.va=some (G g 0))(f:¬Z g)(j:bare t.d):Rd Z w A t:=λw' hs hk=>by
 obtain⟨d1,d2,d3,_⟩:=j;obtain⟨cur,hb,_⟩:=AV h rfl;have a:=Ah hb;have h':=Ab h (λq e=>by cases e;exact hk g a f);refine⟨.inr ⟨g,0,b,A0 a hs,λi hi=>?_⟩,.inl d1,.inl d2,.inl d3⟩;rw[We];exact BW.at h' hi
section
open Go.RowKit Go.Shelf
def I3(a:En T){la:Option Addr}lc{ia:Option Addr}ic{xa:Option Addr}xc{d}{H}{w:Y}(b:T w)(hD:Ea w la ia xa d)(c:Small d)(e:∀i,i<d.n->Cc (d.L i).key=true->PW T (d.L i).key (H i))(f:BI d H=0):
  C9 274 #[Dv la lc ia ic xa xc d] w (R9 (J 0) w):=by
 have h:=Ox a lc ic xc H b hD c e;rw[f]at h;exact h
end
section
open Go.RowKit Go.Shelf
def cI lc{ia:Option Addr}ic{xa:Option Addr}xc{d}v{f}{w}(hA:Ea w la ia xa d)(X:Small d)(hW:S4 d)(hk:KQ v.kind v.num v.Af v.str v.ref=KV 0 f.kind f.num f.Af f.str f.ref)(hh:PW B2 f<|hN f)(l:BI d (hD d)=0)(hT:B2 w):
  C9 272 #[Dv la lc ia ic xa xc d,GR v] w (R9 (GR<|YR d 0 f) w):=by
 have Z:=O hk;have HR:Hid<|YR d 0 f=FG d (Aw d f<|hN f):=O<|C3 ⟨l,rfl⟩;have i:=Lg l;have ad:=O l;clear hk l;have H:B9 w<|((w.alloc<|.cells #[.slice la d.n lc,.slice ia d.m ic,.slice xa d.x xc,J d.used,J d.live,J d.turns] 103).alloc<|.cells (qe v) 43).alloc<|.cells #[J 0,J 0,F9 0,E9,J 0] 43:=((n9).alloc oq _).alloc ot _;go_enter func272,ntmps272;go_wp2_with fail;refine m9 (F2 v.kind v.num v.Af v.str v.ref _) λw1 r=>?_;rw[z Z];obtain⟨c,I⟩:=AM r;have ae:=r.size;simp at ae;have C:w.heap.size<w1.heap.size:=om;have D:w.heap.size+1+1<w1.heap.size:=om;have q0:w1.cell? (y w 0)=some (.slice la d.n lc):=by rw[c _ _ ot];simp[go_sem]
 have q1:w1.cell? (y w 1)=some (.slice ia d.m ic):=by rw[c _ _ ot];simp[go_sem]
 have q2:w1.cell? (y w 2)=some (.slice xa d.x xc):=by rw[c _ _ ot];simp[go_sem]
 have q3:w1.cell? (y w 3)=some (J d.used):=by rw[c _ _ ot];simp[go_sem]
 have q4:w1.cell? (y w 4)=some (J d.live):=by rw[c _ _ ot];simp[go_sem]
 have q5:w1.cell? (y w 5)=some (J d.turns):=by rw[c _ _ ot];simp[go_sem]
 have r0:w1.cell? (Z9 w 0)=some (J 0):=by rw[c _ _ oq];simp[go_sem]
 have r1:w1.cell? (Z9 w 1)=some (J 0):=by rw[c _ _ oq];simp[go_sem]
 have r2:w1.cell? (Z9 w 2)=some (F9 0):=by rw[c _ _ oq];simp[go_sem]
 have r3:w1.cell? (Z9 w 3)=some (E9):=by rw[c _ _ oq];simp[go_sem]
 have r4:w1.cell? (Z9 w 4)=some (J 0):=by rw[c _ _ oq];simp[go_sem]
 have fr:∀o,w1.frozen? (Z9 w o)=false:=λo=>by rw[I _ _ oq];simp[go_sem]
 have af:=o8 H r;have h:Hid<|∀o,B9 w<|w1.alloc o:=O λo=>af.alloc om _;clear r c I;go_wp2_with fail;refine m9 (I3 A1 lc ic xc (A1 _ _ hT<|h _) (hA.below<|h _) X (λq hq hk=>qV hk ((hW) q hq).1) ad) λw2 s=>?_;obtain⟨a,K⟩:=AM s;have ag:=s.size;simp at ag;have z0:w.heap.size<w2.heap.size:=om;have z2:w.heap.size+1+1<w2.heap.size:=om;have z3:w1.heap.size<w2.heap.size:=om;have aw:w2.cell? (y w 0)=some (.slice la d.n lc):=by rw[a _ _ ot,Hi _ _ _ (by exact C)];exact q0
 have ax:w2.cell? (y w 1)=some (.slice ia d.m ic):=by rw[a _ _ ot,Hi _ _ _ (by exact C)];exact q1
 have ay:w2.cell? (y w 2)=some (.slice xa d.x xc):=by rw[a _ _ ot,Hi _ _ _ (by exact C)];exact q2
 have az:w2.cell? (y w 3)=some (J d.used):=by rw[a _ _ ot,Hi _ _ _ (by exact C)];exact q3
 have aM:w2.cell? (y w 4)=some (J d.live):=by rw[a _ _ ot,Hi _ _ _ (by exact C)];exact q4
 have a6:w2.cell? (y w 5)=some (J d.turns):=by rw[a _ _ ot,Hi _ _ _ (by exact C)];exact q5
 have ah:w2.cell? (Z9 w 0)=some (J 0):=by rw[a _ _ ot,Hi _ _ _ (by exact D)];exact r0
 have ai:w2.cell? (Z9 w 1)=some (J 0):=by rw[a _ _ ot,Hi _ _ _ (by exact D)];exact r1
 have aj:w2.cell? (Z9 w 2)=some (F9 0):=by rw[a _ _ ot,Hi _ _ _ (by exact D)];exact r2
 have ak:w2.cell? (Z9 w 3)=some (E9):=by rw[a _ _ ot,Hi _ _ _ (by exact D)];exact r3
 have ao:w2.cell? (Z9 w 4)=some (J 0):=by rw[a _ _ ot,Hi _ _ _ (by exact D)];exact r4
 have k1:w2.cell? (y w1 1)=some (J f.kind):=by rw[a _ _ oq];simp[go_sem]
 have k2:w2.cell? (y w1 2)=some (J f.num):=by rw[a _ _ oq];simp[go_sem]
 have k3:w2.cell? (y w1 3)=some (F9 f.Af):=by rw[a _ _ oq];simp[go_sem]
 have k4:w2.cell? (y w1 4)=some (.string f.str):=by rw[a _ _ oq];simp[go_sem]
 have k5:w2.cell? (y w1 5)=some (J f.ref):=by rw[a _ _ oq];simp[go_sem]
 have aq:∀o,w2.frozen? (Z9 w o)=false:=λo=>by rw[K _ _ ot];exact o7 ((BE w1.heap.size w1).alloc (Be _) _) D<|fr o
 have t:=o8 (h _) s;clear s a K fr q0 q1 q2 q3 q4 q5 r0 r1 r2 r3 r4;rcases hA.below t.drew,A1 _ _ hT t.drew,O t.drew with⟨M,P,j⟩;go_wp2_with fail
 go_region_law (first
  |(go_simp;go_at_call 193;refine(Ih lc ic xc M X i.d3 i.d4).mono ?_;rintro e w3 ⟨⟨bk,R0,R1,R2,E,S,rfl,Q⟩,b⟩;have n1:=oT b z3 k1;have n2:=oT b z3 k2;have n3:=oT b z3 k3;have n4:=oT b z3 k4;have n5:=oT b z3 k5;have m0:=oT b z2 ah;have m1:=oT b z2 ai;have m2:=oT b z2 aj;have m3:=oT b z2 ak;have m4:=oT b z2 ao;have mf:∀o,w3.frozen? (Z9 w o)=false:=λo=>o7 b z2<|aq o;have x2:=A0 z2 b.size;have x3:=A0 z3 b.size;have R:=O<|A1 _ _ P b;have u:=O Q;have A:=O<|o8 j b;clear b Q)
  |(go_simp;go_at_call 196;refine m9 (Jq A1 hh R u X i.d3 i.d4) λw4 g=>?_;have s0:=oT g x2 m0;have s1:=oT g x2 m1;have s2:=oT g x2 m2;have s3:=oT g x2 m3;have s4:=oT g x2 m4;have sf:∀o,w4.frozen? (Z9 w o)=false:=λo=>o7 g x2 (mf o);have x4:=A0 x2 g.size;have T:=O (u.below g);have ar:=O (o8 A g);clear g))
 all_goals
  clear u A R M P j m0 m1 m2 m3 m4 n1 n2 n3 n4 n5 mf x2 x3;obtain⟨U,V⟩:=Ja i.d3 i.d4 f<|hN f;generalize au:Aw d f (hN f)=pl at HR U V ⊢;clear au;by_cases W:pl<0
  focus
   have B:=O<|HR.trans<|Cs om;have k:C2 E pl=none:=Cs om;rw[k];clear k;go_wp2;refine GO (v:=.agg #[J 0,J 0,F9 0,E9,J 0]) (by simp[results,results272,go_sem,s0,s1,s2,s3,s4]) rfl ⟨qg B,?_⟩
  rotate_left
  focus
   obtain⟨q,hq⟩:∃q:Nat,pl=(q:Int):=⟨pl.toNat,om⟩;subst hq;have av:q<d.n:=om;have B:Hid<|YR d 0 f=(d.L q).val:=O<|HR.trans (by unfold FG;rw[C3 om];rfl);have k:C2 E (q:Int)=some (G (E q) 0):=by unfold C2;rw[C3 om];rfl
   rw[k];have F:=T.Cw q av;rcases F.v0,F.v1,F.v2,F.v3,F.v4 with⟨e0,e1,e2,e3,e4⟩;clear k F U V W;go_wp2;refine GO (v:=GR (d.L q).val) (by simp[results,results272,go_sem,s0,s1,s2,s3,s4]) rfl ⟨qg B,?_⟩
  all_goals
   iterate 5 (refine NO ?_ oy _)
   exact ar
end
def KA(w:Y)(s:AK)(b0:Nat)(B:Nat->Nat):Prop:=∃Z M,Cr w s.F b0 s.nf B Z M/\∀i,i<s.nf->Z i=i
def KA.below{B}(h:KA w s b0 B)(hb:B9 w w'):KA w' s b0 B:=by
 obtain⟨Z,M,h1,h2⟩:=h;exact⟨Z,M,h1.below hb,h2⟩
def KA.place{B}(h:KA w s b0 B)(a:Aq s.nf s.F=0){j}(hj:j<s.nf)key:
  C9 106 #[Q9 (B j),.string key] w (R9 (J<|Bc s.F j key) w):=by
 obtain⟨Z,M,h1,h2⟩:=h;refine(Gz w b0 B Z M h1 h2 (Av a).2.1 (Av a).2.2.1 j hj key).mono ?_;rintro e w' ⟨⟨b,_⟩,rfl⟩;exact⟨b,BE _ _⟩
def KA.cell{B}(h:KA w s b0 B){j}(hj:j<s.nf):B j<w.heap.size/\w.cell? (G (B j) 0)=some (J<|j)/\b0<=B j:=by
 obtain⟨Z,M,h1,h2⟩:=h;have:=Dm h1 h2 hj;exact⟨by have:=IF _ _ this.1;exact this,this.1,h1.base j hj⟩
def J6 A(t:Tb){s}{b0}{B}j k{w}(hN:KA w s b0 B)(hf:Aq s.nf s.F=0)(hj:j<s.nf)(hs:t.shape=j)(g:t.nv=nf s.F j)(H:FA w A.va t.nv t.V):
  C9 290 #[Cz (B j) A t,GR k] w (R9 (GR<|Cg s.F t k) w):=by
 obtain⟨W,r,b,u,_,_,a⟩:=gW w (.cells #[.slice A.va t.nv A.vc,.slice A.la t.d.n A.lc,.slice A.ia t.d.m A.ic,.slice A.xa t.d.x A.xc,J t.d.used,J t.d.live,J t.d.turns,Q9 (B j)] 197) (.cells (qe k) 43)<|.cells #[J 0,J 0,F9 0,E9,J 0] 43;have x0:W.cell? (y w 0)=some (.slice A.va t.nv A.vc):=by rw[r];simp[go_sem]
 rcases O (H.below b rfl),O<|hN.below b,O hf,O (qj hs g) with⟨K,L,I,f⟩;have l0:w.heap.size<W.heap.size:=om;have l2:w.heap.size+1+1<W.heap.size:=om;clear H hN hf hs g u;by_cases hk:k.kind=4
 case neg=>
  have M:(k.kind !=4)=true:=by simpa using hk
  have l:Hid<|Cg s.F t k=M8:=O (by unfold Cg;rw[Cs (by rw[(z f).1];omega),Cs (λh=>hk h.1)]);have p:=O a;obtain⟨r0,r1,r2,r3,q⟩:=v5 a;have rf:∀o,W.frozen? (Z9 w o)=false:=λo=>by simp[World.frozen?,a]
  go_enter func290,ntmps290;go_wp2_with fail;rw[<-r];go_wp2;refine GO (v:=GR M8) (by simp[results,results290,go_sem,r0,r1,r2,r3,q]) rfl ⟨qg l,?_⟩;exact b
 have M:(k.kind !=4)=false:=by simpa using hk
 have HK:=O hk;have p:=O a;clear hk a;go_enter func290,ntmps290;go_wp2_with fail;rw[<-r];go_wp2_with fail;refine(L.place I hj k.str).mono ?_;rintro e w1 ⟨rfl,c⟩;have P:=(c.cell l0).trans x0;have a:=(c.block _ l2).trans p;obtain⟨r0,r1,r2,r3,q⟩:=v5 a;have rf:∀o,w1.frozen? (Z9 w o)=false:=λo=>by simp[World.frozen?,a]
 have C:=o8 b c;rcases JK I hj k.str with hp|⟨i,hp,hi⟩
 focus
  have l:Hid<|Cg s.F t k=M8:=O (by unfold Cg;rw[Cs (by rw[(z f).1];omega),Cs (λh=>by rw[(z f).1]at h;have h2:=h.2;rw[show(j:Int).toNat=j by omega,hp]at h2;omega)]);rw[hp];go_wp2;refine GO (v:=GR M8) (by simp[results,results290,go_sem,r0,r1,r2,r3,q]) rfl ⟨qg l,?_⟩
 rotate_left
 focus
  have l:Hid<|Cg s.F t k=t.V i:=O (by unfold Cg;rw[Cs (by rw[(z f).1];omega),(z f).1,show(j:Int).toNat=j by omega,hp,C3 ⟨z HK,om⟩]<;>first|rfl|(congr 1<;>omega));rw[hp];have JS:i<t.nv:=by rw[(z f).2];exact hi
  obtain⟨R,off,D,Q,E⟩:=(z<|K.below c rfl).resolve_left om;obtain⟨v0,v1,v2,v3,v4⟩:=E i JS;rw[D]at P;go_wp2;refine GO (v:=GR<|t.V i) (by simp[results,results290,go_sem,r0,r1,r2,r3,q]) rfl ⟨qg l,?_⟩
 all_goals
  iterate 5 (refine NO ?_ oy _)
  exact C
def IE A t F{k}{w}(p:B2 w)(hs:t.shape=-1)(i:Inv Ky hN t.d)(f:S4 t.d)(q:Small t.d)(hk:Ky k)(hA:Ea w A.la A.ia A.xa t.d):
  C9 267 #[KC A t,GR k] w (R9 (GR<|Cg F t k) w):=by
 obtain⟨W,r,b,j,_,_,a⟩:=gW w (.cells #[.slice A.va t.nv A.vc,.slice A.la t.d.n A.lc,.slice A.ia t.d.m A.ic,.slice A.xa t.d.x A.xc,J t.d.used,J t.d.live,J t.d.turns] 194) (.cells (qe k) 43)<|.cells #[J 0,J 0,F9 0,E9,J 0] 43;have l2:w.heap.size+1+1<W.heap.size:=om;have u:Hid<|Cg F t k=YR t.d 0 k:=O (by unfold Cg YR;rw[C3 om,C3 ⟨Gv i,rfl⟩]);have s:=O<|cI A.lc A.ic A.xc k (hA.below b) q f (Y1 hk) (Nn k hk) (Gv i)<|A1 _ _ p b;have h:=O b;clear hA p hs i f q hk b j;go_enter func267,ntmps267;go_wp2_with fail;rw[<-r];clear r;refine s.mono ?_;rintro e w1 ⟨rfl,c⟩;have a:=(c.block _ l2).trans a;obtain⟨r0,r1,r2,r3,B⟩:=v5 a;have rf:∀o,w1.frozen? (Z9 w o)=false:=λo=>by simp[World.frozen?,a]
 have l:=O<|o8 h c;clear c a s;generalize YR t.d 0 k=g at*;go_wp2;refine GO (v:=GR g) (by simp[results,results267,go_sem,r0,r1,r2,r3,B]) rfl ⟨qg u,?_⟩;iterate 5 (refine NO ?_ oy _)
 exact l
def FU a w:
  C9 46 #[Kz a] w (R9 (.bool<|CA a) w):=by
 obtain⟨W,d,c,hk⟩:=Vv a w;have e:=O c;have HK:=O hk;have b:Hid<|B9 W W:=O<|BE _ _;obtain⟨l0,k0,k1,k2,k3,k4,f,g,i,j,v4,v5,v6,k,v8⟩:=hk W<|BE _ _;clear hk c;go_enter func46,ntmps46;go_upto_region 1 with fail
 rw[<-d];clear d;go_wp2_with (first|(go_at_call 81;refine m9 (Bq _ _ _ _ _ _) λw3 hb=>?_;have b:=O<|show B9 W w3 from o8 b hb;obtain⟨l0,k0,k1,k2,k3,k4,f,g,i,j,v4,v5,v6,k,v8⟩:=z HK w3 b;clear hb)|(go_at_call 83;refine m9 (bC a _ _ _ _ _ _) λw3 hb=>?_;have b:=O<|show B9 W w3 from o8 b hb;obtain⟨l0,k0,k1,k2,k3,k4,f,g,i,j,v4,v5,v6,k,v8⟩:=z HK w3 b;clear hb));all_goals
  go_ret;refine⟨?_,o8 e<|z (by assumption:Hid<|B9 W _)⟩;clear HK;unfold CA JT Vl.ok;first
   |(simp_all;done)
   |(rename_i h;rcases h with(((((h|h)|h)|h)|h)|h)|h<;>simp_all<;>omega)
def ZN(w:Y)(cs:List Value)t i v u(a:v.oneCell'=true)(hi:cs[i]?=some u):(store (y w i) v).run P (w.alloc<|.cells cs.toArray t)=.ok () (w.alloc<|.cells (cs.set i v).toArray t):=by
 have h:=run_store P (w.alloc<|.cells cs.toArray t) (y w i) v .plain a;rw[h];have h1:(w.alloc<|.cells cs.toArray t).cell? (y w i)=some u:=by simp[hi]
 have h2:(w.alloc<|.cells cs.toArray t).frozen? (y w i)=false:=oq;have h3:(w.alloc<|.cells cs.toArray t).setCell (y w i) v=w.alloc (.cells (cs.set i v).toArray t):=oe;rw[h1,h2,h3];rfl
def EK{P:Program}(w:Y)(t:TypeId):∀(vs pre old:List Value),vs.length=old.length->(∀v∈vs,v.oneCell'=true)->
  (storeCells (y w 0) vs pre.length).run P (w.alloc<|.cells (pre++old).toArray t)=.ok () (w.alloc<|.cells (pre++vs).toArray t)
 |[],pre,[],_,_=>by simp[storeCells]
 |v::vs,pre,o::old,hl,a=>by
  have h:=ZN (P:=P) w (pre++o::old) t pre.length v o (a v oq) oq;have h2:=EK w t vs (pre++[v]) old (by simpa using hl) (λx b=>a x<|by simp[b]) (P:=P);have e1:(pre++o::old).set pre.length v=(pre++[v])++old:=oq;rw[e1]at h;have e2:((y w 0):Addr).add pre.length=(y w pre.length):=by
   cases pre<;>simp[Addr.add]
  unfold storeCells;rw[e2];simp only[P9,Aae,X9,We,List.append_assoc,Aaq,Aad]at h h2 ⊢;simp[go_sem,h,h2]
def Eh:Value:=.agg #[J 0,.nilFunc,J 0,.func (.func 136) #[] #[],J 25,.func (.func 137) #[] #[],J 9,.func (.func 138) #[] #[],J 5,.func (.func 139) #[] #[],J 1,.func (.func 140) #[] #[],J 1,.func (.func 141) #[] #[],J 8,.func (.func 142) #[] #[],J 3,.func (.func 143) #[] #[],J 19,.func (.func 144) #[] #[]]
def U0 w:(sizeOf 204).run prog w=.ok 20 w:=ou
def fN(w:Y):(Instr.storeAt 204 (Q9 w.heap.size) Eh).run prog (w.alloc<|.cells #[J 0,.nilFunc,J 0,.nilFunc,J 0,.nilFunc,J 0,.nilFunc,J 0,.nilFunc,J 0,.nilFunc,J 0,.nilFunc,J 0,.nilFunc,J 0,.nilFunc,J 0,.nilFunc] 204)=.ok () (w.alloc<|.cells Eh.cells 204):=by
 have h:=EK (P:=prog) w 204 Eh.cells.toList [] [J 0,.nilFunc,J 0,.nilFunc,J 0,.nilFunc,J 0,.nilFunc,J 0,.nilFunc,J 0,.nilFunc,J 0,.nilFunc,J 0,.nilFunc,J 0,.nilFunc,J 0,.nilFunc] rfl (by unfold Eh;intro v b;simp[Value.cells]at b;rcases b with rfl|rfl|rfl|rfl|rfl|rfl|rfl|rfl|rfl|rfl|rfl|rfl|rfl|rfl|rfl|rfl|rfl|rfl|rfl|rfl<;>rfl);have hs:=U0<|w.alloc<|.cells #[J 0,.nilFunc,J 0,.nilFunc,J 0,.nilFunc,J 0,.nilFunc,J 0,.nilFunc,J 0,.nilFunc,J 0,.nilFunc,J 0,.nilFunc,J 0,.nilFunc,J 0,.nilFunc] 204;unfold Instr.storeAt storeVar;simp only[Aad,X9]at h;have hn:¬(Eh.cells.size≠20):=oo;simp only[AaU];have a:∀w',(Instr.sureAddr<|Q9 w.heap.size).run prog w'=.ok (y w 0) w':=λw'=>oe;simp[a,hn,h]
def dB(w:Y)(cs:List Value)t i u(hi:cs[i]?=some u):(load<|y w i).run P (w.alloc<|.cells cs.toArray t)=.ok u (w.alloc<|.cells cs.toArray t):=by
 simp[go_sem,hi]
def J0{P:Program}(w:Y)(cs:List Value)(t:TypeId):∀(n i:Nat) (acc:Array Value),i+n=cs.length->
  (loadCellsFrom (y w 0) i n acc).run P (w.alloc<|.cells cs.toArray t)=.ok (acc++(cs.drop i).toArray) (w.alloc<|.cells cs.toArray t)
 |0,i,acc,h=>by
  have:cs.drop i=[]:=ot;simp[loadCellsFrom,this]
 |n+1,i,acc,h=>by
  have hi:i<cs.length:=om;have hl:=dB (P:=P) w cs t i cs[i] (by simp[hi]);have h2:=J0 w cs t n (i+1) (acc.push cs[i]) om (P:=P);have e2:((y w 0):Addr).add i=(y w i):=by
   cases i<;>simp[Addr.add]
  have e3:acc++(cs.drop i).toArray=acc.push cs[i]++(cs.drop<|i+1).toArray:=by
   rw[List.drop_eq_getElem_cons hi];simp
  unfold loadCellsFrom;rw[e2,e3];simp only[AaU];rw[hl];simp[h2]
def Ag{o}{x Z}(b:o.guard=none)(c:o.op=.store t x Z)w'(d:(Instr.storeAt t (a.eval x)<|a.eval Z).run P w=.ok () w')(h:wpList P ops Q rest (a.put o.dst undef) w'):wpList P ops Q (o::rest) a w:=
 wpList_plain b λK hK=>by
  have e:(execOp a.eval o).run P w=.ok .skip w':=by
   rw[execOp,c];simp only[AaU];rw[d];rfl
  rw[Oper.wp,e];exact hK _ _ h
def LP w:
  C9 108 #[] w (R9 Eh w):=by
 go_enter func108,ntmps108;go_wp2_with (first|(refine Ag rfl rfl _ (fN w) ?_)|go_in);have a:∀w',(isAgg 204).run prog w'=.ok true w':=λw'=>ou;have hs:=U0;have b:(loadCells (y w 0) 20).run prog (w.alloc<|.cells Eh.cells 204)=.ok Eh.cells (w.alloc<|.cells Eh.cells 204):=by
  have h:=J0 (P:=prog) w Eh.cells.toList 204 20 0 #[] oo;simpa[loadCells]using h
 refine GO (v:=Eh) ?_ rfl ⟨rfl,n9⟩;have c:Value.agg Eh.cells=Eh:=rfl;simp[results,results108,Act.put,loadVar,a,hs,b,asAddr,c]
structure Bj (w w':Y) (b:Nat) (cs:Array Value) (ty:TypeId):Prop where
 Bw:w'.heap[b]?=some (.cells cs ty (0,0))
 other:∀k,k≠b->w'.heap[k]?=w.heap[k]?
 os:w'.os=w.os
 tape:w'.tape=w.tape
 output:w'.output=w.output
 size:w'.heap.size=w.heap.size
def Bj.below{w0:Y}(h:Bj w w' b cs ty){B}(hb:Below B w0 w)(a:B<=b):Below B w0 w':=
 ⟨h.os.trans hb.os,h.tape.trans hb.tape,h.output.trans hb.output,by rw[h.size];exact hb.size,λk hk=>(h.other k om).trans<|hb.block k hk⟩
def fY w b(cs:List Value)t i v u(hb:w.heap[b]?=some (.cells cs.toArray t (0,0)))(a:v.oneCell'=true)(hi:cs[i]?=some u):(store (G b i) v).run P w=.ok () (w.setCell (G b i) v)/\(w.setCell (G b i) v).heap[b]?=some (.cells (cs.set i v).toArray t (0,0)):=by
 have h:=run_store P w (G b i) v .plain a;have h1:w.cell? (G b i)=some u:=by simp[World.cell?,hb,hi]
 have h2:w.frozen? (G b i)=false:=by simp[World.frozen?,hb]
 refine⟨?_,(CM hb v).trans oq⟩;rw[h,h1,h2];rfl
def J7{P:Program}(b:Nat)(t:TypeId):∀(vs pre old:List Value) (w:Y),w.heap[b]?=some (.cells (pre++old).toArray t (0,0))->vs.length=old.length->(∀v∈vs,v.oneCell'=true)->
  ∃w',(storeCells (G b 0) vs pre.length).run P w=.ok () w'/\Bj w w' b (pre++vs).toArray t
 |[],pre,[],w,hb,_,_=>⟨w,by simp[storeCells],hb,λ_ _=>rfl,rfl,rfl,rfl,rfl⟩
 |v::vs,pre,o::old,w,hb,hl,c=>by
  obtain⟨h,a⟩:=fY (P:=P) w b (pre++o::old) t pre.length v o hb (c v oq) oq;have e1:(pre++o::old).set pre.length v=(pre++[v])++old:=oq;rw[e1]at a;obtain⟨w',h2,h3⟩:=J7 b t vs (pre++[v]) old (w.setCell (G b pre.length) v) a (by simpa using hl) (λx d=>c x<|by simp[d]) (P:=P);have e2:((G b 0):Addr).add pre.length=(G b pre.length):=by
   cases pre<;>simp[Addr.add]
  have so:=Mb w (G b pre.length) v;refine⟨w',?_,⟨by simpa using h3.Bw,λk hk=>(h3.other k hk).trans<|At _ _ _ _<|by exact hk,h3.os.trans so.1,h3.tape.trans so.2.1,h3.output.trans so.2.2.1,h3.size.trans so.2.2.2⟩⟩;unfold storeCells;rw[e2];simp only[P9,Aae,X9,We]at h2 ⊢;simp[go_sem,h,h2]
def BM(hs:∀w,(sizeOf t).run prog w=.ok n w){w:Y}{b}{old vs:List Value}{ty}(hb:w.heap[b]?=some (.cells old.toArray ty (0,0)))(hl:vs.length=old.length)(hn:vs.length=n)(h1:∀v∈vs,v.oneCell'=true){v:V9}(c:v.cells=vs.toArray):
  ∃w',(Instr.storeAt t (Q9 b) v).run prog w=.ok () w'/\Bj w w' b vs.toArray ty:=by
 obtain⟨w',h,h3⟩:=J7 (P:=prog) b ty vs [] old w hb hl h1;refine⟨w',?_,by simpa using h3⟩;unfold Instr.storeAt storeVar;simp only[X9]at h;have a:∀w',(Instr.sureAddr<|Q9 b).run prog w'=.ok (G b 0) w':=λw'=>oe;simp only[AaU];simp[a,hs,c,hn];exact h
def Eu w:(sizeOf 197).run prog w=.ok 8 w:=ou
def gD w:(sizeOf 43).run prog w=.ok 5 w:=ou
def kV w:(sizeOf 45).run prog w=.ok 12 w:=ou
def aY x:∀u∈LL x,u.oneCell'=true:=by
 intro u h;simp only[LL,List.mem_cons,AaI,or_false]at h;rcases h with rfl|rfl|rfl|rfl|rfl|rfl|rfl|rfl|rfl|rfl|rfl|rfl<;>rfl
def BB(h:Iw w b)x:∃w',(Instr.storeAt 45 (Q9 b)<|Hk x).run prog w=.ok () w'/\Bj w w' b (LL x).toArray 45:=
 BM (vs:=LL x) kV h rfl rfl (aY x) rfl
def AZ{vs:List Value}(h:Bj w w' b vs.toArray ty):∀j u,vs[j]?=some u->w'.cell? (G b j)=some u:=λj u hu=>by
 rw[MM w' b j _ _ _ h.Bw];simpa using hu
section
variable {Z:Nat->Prop} {w:Y} {c B0:Nat} {vN vT vS:V9}
def A6.Ki{b}{d f g i}{j}{x}(h:A6 (ZB Z w.heap.size o) w1 c B0 d f g i j A' s')(p:BF (Az B0 c vN vT vS w) w (Az B0 c d f g w1) w1)(n:B0<=w.heap.size)(l:w.heap.size<=m)(hz:m<o)(q:Iw w1 m)(a:Bj w1 b m (LL x).toArray 45):
  A6 Z b c B0 d f g i j A' s'/\BF (Az B0 c vN vT vS w) w (Az B0 c d f g b) b:=
 h.fin p n (.inr ⟨l,hz⟩) l (h.EH q oo oo oo oo oo) (λk e=>.inl e) ⟨a.os,a.tape,a.output,a.size⟩ a.other a.Bw oo
end
def An.read{x}(h:w.heap[b]?=some (.cells (LL x).toArray 45 (0,0))):w.cell? (G b 0)=some (J x.code)/\w.cell? (G b 1)=some (J x.num)/\w.cell? (G b 2)=some (J x.key.kind)/\w.cell? (G b 3)=some (J x.key.num)/\w.cell? (G b 4)=some (F9 x.key.Af)/\w.cell? (G b 5)=some (.string x.key.str)/\w.cell? (G b 6)=some (J x.key.ref)/\w.cell? (G b 7)=some (J x.val.kind)/\w.cell? (G b 8)=some (J x.val.num)/\w.cell? (G b 9)=some (F9 x.val.Af)/\w.cell? (G b 10)=some (.string x.val.str)/\w.cell? (G b 11)=some (J x.val.ref):=by
 refine⟨?_,?_,?_,?_,?_,?_,?_,?_,?_,?_,?_,?_⟩<;>(rw[MM w b _ _ _ _ h];rfl)
def Bd{o}{K}{E}{x Z}(b:o.guard=none)(c:o.op=.store t x Z)w'(d:(Instr.storeAt t (a.eval x)<|a.eval Z).run P w=.ok () w')(h:K (a.put o.dst undef) w'):
  if Region.wanted o (yielded ops a.tmps)=true then Oper.wp P o a w K Q else E:=by
 have f:Region.wanted o (yielded ops a.tmps)=true:=by simp[Region.wanted,b]
 rw[C3 f];have e:(execOp a.eval o).run P w=.ok .skip w':=by
  rw[execOp,c];simp only[AaU];rw[d];rfl
 rw[Oper.wp,e];exact h
def FD{P:Program}{fn:Func}{R:Ending->World->Prop}{a:Act}{w:Y}{p:Tmp}{ty t:TypeId}{g:Nat}{cs:Array Value}{fr:Nat×Nat}{d:TypeDesc}(h:fn.results=#[.cell p ty])(hu:P.underlying ty=some d)(b:w.heap[g]?=some (.cells cs t fr))(c:R (.returned<|.agg cs) w)(hp:a.tmps.getD p undef=Q9 g:=by rfl)(e:(match d with|.struct _|.array _ _=>true|_=>false)=true:=by rfl)(hi:(P.info? ty).map (·.size)=some cs.size:=by kernel_rfl)(hf:a.defers=[]:=by rfl):bodyPost P fn R .ret a w:=
 GO (results_cell_row h a.tmps w g t cs fr d hp b hu e hi) hf c
def GQ{P:Program}{fn:Func}{R:Ending->World->Prop}{a:Act}{w:Y}{p q:Tmp}{ty t:TypeId}{g:Nat}{cs:Array Value}{fr:Nat×Nat}{d:TypeDesc}{v:V9}(h:fn.results=#[.cell p ty,.tmp q])(hu:P.underlying ty=some d)(e:w.heap[g]?=some (.cells cs t fr))(f:R (.returned<|.tuple #[.agg cs,v]) w)(hp:a.tmps.getD p undef=Q9 g:=by rfl)(hq:a.tmps.getD q undef=v:=by rfl)(i:(match d with|.struct _|.array _ _=>true|_=>false)=true:=by rfl)(hi:(P.info? ty).map (·.size)=some cs.size:=by kernel_rfl)(hf:a.defers=[]:=by rfl):bodyPost P fn R .ret a w:=by
 refine GO ?_ hf f;have b:a.tmps[p]?.getD undef=Q9 g:=by simpa using hp
 have c:a.tmps[q]?.getD undef=v:=by simpa using hq
 simp[results,h,b,c,asAddr,run_loadVar_row w g t ty cs fr d e hu i hi]
def T1 n a nm w:
  C9 160 #[J n,J a,J nm] w λe w'=>e=.returned (.bool<|EA n a nm)/\w'=w:=by
 go_enter func160,ntmps160;go_wp2;all_goals
  go_ret;exact⟨by simp_all [EA]<;>omega,rfl⟩
def Qc v nm w:
  C9 161 #[V v.kind v.num v.Af v.str v.ref,J nm] w (R9 (.bool<|G7 v nm) w):=by
 have a:B9 w<|w.alloc<|.cells (qe v) 43:=n9;have b:=O a;clear a;go_enter func161,ntmps161;go_wp2_with fail;refine m9 (Cb v.kind v.num v.Af v.str v.ref _) λw1 hb=>?_;obtain⟨hc,hf⟩:=AM hb;have b:=O<|o8 b hb;clear hb;go_wp2;all_goals
  go_ret;exact⟨by clear hc hf;simp_all [G7,Vl.ok],b⟩
def T2 op(h1:1<=op)(a:op<=9):∃fn,∀w,(Instr.index 204 Eh<|J op).run prog w=.ok (.agg #[J (tN op),fn]) w:=by
 rcases(by omega:op=1\/op=2\/op=3\/op=4\/op=5\/op=6\/op=7\/op=8\/op=9)with rfl|rfl|rfl|rfl|rfl|rfl|rfl|rfl|rfl
 .exact⟨.func (.func 136) #[] #[],λw=>ou⟩
 .exact⟨.func (.func 137) #[] #[],λw=>ou⟩
 .exact⟨.func (.func 138) #[] #[],λw=>ou⟩
 .exact⟨.func (.func 139) #[] #[],λw=>ou⟩
 .exact⟨.func (.func 140) #[] #[],λw=>ou⟩
 .exact⟨.func (.func 141) #[] #[],λw=>ou⟩
 .exact⟨.func (.func 142) #[] #[],λw=>ou⟩
 .exact⟨.func (.func 143) #[] #[],λw=>ou⟩
 exact⟨.func (.func 144) #[] #[],λw=>ou⟩
def XE x fn w:(Instr.field 203 (.agg #[J x,fn]) 0).run prog w=.ok (J x) w:=ou
def YV a w:
  C9 134 #[Kz a] w (R9 (.bool<|CA a) w):=by
 obtain⟨W,i,d,hk⟩:=Vv a w;have j:=O d;have HK:=O hk;have c:Hid<|B9 W W:=O<|BE _ _;obtain⟨l0,k0,k1,k2,k3,k4,l,m,n,o,v4,v5,v6,p,v8⟩:=hk W<|BE _ _;clear hk d;by_cases h1:a.op<1
 .have t:decide (a.op<1)=true:=by simp[h1]
  have q:Hid<|CA a=false:=O (by unfold CA;(iterate 9 rw[Cs om]);exact Bool.and_false _);clear h1;go_enter func134,ntmps134;go_wp2_with fail;go_ret;exact⟨qg q,by rw[<-i];exact j⟩
 have t:decide (a.op<1)=false:=by simp[h1]
 by_cases k:9<a.op
 .have f:decide (9<a.op)=true:=by simp[k]
  have q:Hid<|CA a=false:=O (by unfold CA;(iterate 9 rw[Cs om]);exact Bool.and_false _);clear h1 k;go_enter func134,ntmps134;go_wp2_with fail;go_ret;exact⟨qg q,by rw[<-i];exact j⟩
 have f:decide (9<a.op)=false:=by simp[k]
 obtain⟨fn,r⟩:=T2 a.op om om;have s:=XE;have u:Hid<|1<=a.op/\a.op<=9:=O ⟨om,om⟩;clear h1 k;go_enter func134,ntmps134;go_wp2_with fail;rw[<-i];clear i;refine qr W ?_;refine GC λK hK=>?_;go_simp;refine⟨_,λw' b=>qk b<|LP _,hK _ ?_⟩;clear hK K;refine N (h:=N (h:=?_));refine GC λK hK=>?_;go_simp;apply Exists.intro;refine qj (λw' b=>?_)<|hK _ ?_
 .rfl
 clear hK K;refine GC λK hK=>?_;go_simp;apply Exists.intro;refine qj (λw' b=>?_)<|hK _ ?_
 .rfl
 clear hK K;refine N (h:=?_);refine GS ?_;intro w1 g;have c:=O g;have v:=O<|cH a u.1 u.2;clear g l0 k0 k1 k2 k3 k4 l m n o v4 v5 v6 p v8 t f r s;obtain⟨l0,k0,k1,k2,k3,k4,l,m,n,o,v4,v5,v6,p,v8⟩:=z HK w1 c;go_wp2_with (first|(go_at_call 160;refine(T1 _ _ _ _).mono ?_;rintro e w2 ⟨rfl,x⟩;rw[x];clear x)|(go_at_call 161;refine m9 (Qc _ _ _) λw3 hb=>?_;have c:=O<|show B9 W w3 from o8 c hb;obtain⟨l0,k0,k1,k2,k3,k4,l,m,n,o,v4,v5,v6,p,v8⟩:=z HK w3 c;clear hb));all_goals
  go_ret;refine⟨?_,o8 j<|z (by assumption:Hid<|B9 W _)⟩;rw[<-z v];clear HK v;unfold Es
  simp_all
def QN(Q:Exit->Act->World->Prop):Exit->Act->World->Prop
 |.normal,a,w=>Q .normal a w
 |_,_,_=>False
theorem QN.no:¬LetsOut (QN Q):=λ⟨a,w,h⟩=>h
def QN.normal(h:Q .normal a w):QN Q .normal a w:=h
section
variable {P:Program} {ops:Array Oper} {md:Region.Mode}
def tk{S}{l:List Oper}(i){oi}{v:V9}{fuel}{listed}{a}{w:Y}(b:l.drop i=oi::rest)(hc:(Region.noSelect l.toArray&&Region.free md l.toArray listed i&&(Region.ready md l.toArray listed).contains i)=true)
  (c:Region.wanted oi (yielded l.toArray a.tmps)=true) (hy:∀w,S w->(execOp a.eval oi).run P w=.ok (.value v) w) (d:S w) (h:wpAnyH P md l.toArray (QN Q) S fuel (listed.setIfInBounds i true) (a.put oi.dst v) w):wpAnyH P md l.toArray (QN Q) S (fuel+1) listed a w:=by
 simp only[AaJ]at hc;have hi:l.toArray[i]?=some oi:=by
  have h1:(l.drop i)[0]?=some oi:=qh b
  rw[List.getElem?_drop]at h1;simpa using h1
 exact wpAnyH_take hi hc.1.1 hc.1.2 hc.2 (λ_ _ _ h=>h) (Or.inl ⟨c,hy⟩) d h
def QN.imp:∀(e) (a) (w),QN Q e a w->Q e a w:=λe a w h=>by
 cases e<;>first|exact h|exact False.elim h
def Dr{id}S(b:P.follows .mixedOrders=true)(h:wpAnyH P .any ops (QN Q) S ops.size (Array.replicate ops.size false) a {w with drawn:=w.drawn+1}):(Code.region id ops true).wp P Q a w:=
 Code.wp_mono QN.imp (wp_region_held b h)
end
def tz{S:World->Prop}{l:List Oper}(i:Nat){oi:Oper}{v:V9}{fuel:Nat}{listed:Array Bool}{a b:Act}{w:Y}(c:l.drop i=oi::rest:=by rfl)(hc:(Region.noSelect l.toArray&&Region.free md l.toArray listed i&&(Region.ready md l.toArray listed).contains i)=true:=by kernel_rfl)(d:Region.wanted oi (yielded l.toArray a.tmps)=true:=by rfl)(hy:∀w,S w->(execOp a.eval oi).run P w=.ok (.value v) w:=by(intro w' hs;(repeat(obtain⟨_,hs⟩:=hs));go_simp;try with_reducible rfl))(e:S w:=by assumption)(hb:a.put oi.dst v=b:=by(simp only[pS];rfl))(h:wpAnyH P md l.toArray (QN Q) S fuel (listed.setIfInBounds i true) b w):wpAnyH P md l.toArray (QN Q) S (fuel+1) listed a w:=tk i c hc d hy e<|hb▸h
def ry{S:World->Prop}(i:Nat){fuel:Nat}{listed:Array Bool}{a:Act}{w:Y}{o:Oper}(h:∀b:Act->World->Prop,Shut (∀a w,S w->(S w->wpAnyH P md ops Q S fuel (listed.setIfInBounds i true) a w)->b a w)->if Region.wanted o (yielded ops a.tmps)=true then Oper.wp P o a w b Q else b (a.put o.dst undef) w)(c:ops[i]?=some o:=by rfl)(d:Region.ready md ops listed=[i]:=by kernel_rfl):wpAnyH P md ops Q S (fuel+1) listed a w:=TO d oq<|.cons c h .nil
def Gq{id:Nat}(S:World->Prop)(h:wpAnyH P .any ops (QN Q) S ops.size (Array.replicate ops.size false) a<|World.drew w)(b:P.follows .mixedOrders=true:=by kernel_rfl):(Code.region id ops true).wp P Q a w:=Dr S b h
def Fj{S:World->Prop}{fuel:Nat}{listed:Array Bool}(h:Q .normal a w)(b:Region.ready md ops listed=[]:=by kernel_rfl):wpAnyH P md ops (QN Q) S fuel listed a w:=wpAnyH_done b (QN.normal h) fuel
section
open Go.RowKit Go.Shelf
attribute [local go_sem] Oper.semAt_some
def RL(d:Dc)(t:Int)(l:List Nat):Option Nat:=l.find? λi=>decide (t<(d.L i).turn)
theorem LK{t}{l}(h:∀i∈l,¬t<(d.L i).turn):RL d t l=none:=by
 grind [RL]
def Tj{t}{l a}(h:∀j∈l,¬t<(d.L j).turn)(hp:l++[i]<+:a)(hi:t<(d.L i).turn):RL d t a=some i:=by
 grind [RL,LK]
def tR(d:Dc):Option Nat->Bool×Pr
 |none=>(false,default)
 |some i=>(true,d.L i)
open Classical in
noncomputable def K5(d:Dc)(t:Int):Bool×Pr:=if BI d (hD d)=0 then tR d (RL d t<|AW d d.n)else(false,default)
def Q6{t}(h:BI d (hD d)=0)(e:RL d t (AW d d.n)=none):K5 d t=(false,default):=by unfold K5;rw[C3 h,e];rfl
def Q7{t}(h:BI d (hD d)=0)(e:RL d t (AW d d.n)=some i):K5 d t=(true,d.L i):=by unfold K5;rw[C3 h,e];rfl
def mR(d:Dc)(t:Int)(pre:List<|Ml d):Prop:=∀Z∈pre,¬t<(d.L Z.1).turn
def vG(d:Dc)(t:Int)(b:Nat)(pre:List<|Ml d)(W:Y):Prop:=∃(a:List<|Ml d) (Z:Ml d),pre=a++[Z]/\mR d t a/\t<(d.L Z.1).turn/\W.cell? (G b 0)=some (.bool true)/\W.cell? (G b 1)=some (J (d.L Z.1).key.kind)/\W.cell? (G b 2)=some (J (d.L Z.1).key.num)/\W.cell? (G b 3)=some (F9 (d.L Z.1).key.Af)/\W.cell? (G b 4)=some (.string (d.L Z.1).key.str)/\W.cell? (G b 5)=some (J (d.L Z.1).key.ref)/\W.cell? (G b 6)=some (J (d.L Z.1).val.kind)/\W.cell? (G b 7)=some (J (d.L Z.1).val.num)/\W.cell? (G b 8)=some (F9 (d.L Z.1).val.Af)/\W.cell? (G b 9)=some (.string (d.L Z.1).val.str)/\W.cell? (G b 10)=some (J (d.L Z.1).val.ref)/\W.cell? (G b 11)=some (J (d.L Z.1).turn)
end
def S8(f:Nat->Int)(m:Nat):Nat->Nat->Nat
 |k,0=>k
 |k,g+1=>if f k=0 then k else S8 f m (k+1) g
def Qf(d:Dc):Nat:=S8 d.I d.m 0 d.m
def bZ{f}(h:f k=0)(hk:k<m):S8 f m k (m-k)=k:=by
 obtain⟨g,a⟩:∃g,m-k=g+1:=⟨m-k-1,om⟩;rw[a];exact C3 h
def bY{f}(h:f k≠0)(hk:k<m):S8 f m k (m-k)=S8 f m (k+1) (m-(k+1)):=by
 obtain⟨g,a⟩:∃g,m-k=g+1:=⟨m-k-1,om⟩;grind [S8]
open Classical in
noncomputable def F3(d:Dc):Int:=if BI d (hD d)=0 then(Qf d:Int)else 0
def rF(hj:j<Kq d):∃i,i<d.n/\(d.L i).turn≠0/\Ev d j=d.L i:=by
 obtain⟨i,h1,h2,h3⟩:=FT d.n hj;exact⟨i,h1,h2,by rw[<-h3];exact FB h1 h2⟩
def lV(hi:i<d.n)(a:(d.L i).turn≠0):(AW d i).length<Kq d/\Ev d (AW d i).length=d.L i:=⟨La hi a,FB hi a⟩
theorem Xq{p}:0<=Yv p n↔∃j,j<n/\p j=true:=by
 constructor
 .grind [Jp]
 rintro⟨j,h1,h2⟩;rcases Jp p n with e|⟨i,e,_⟩
 .have:=GZ e j (W9 _) om;rw[this]at h2;cases h2
 rw[e];omega
def Vn(d:Dc):Pl:=⟨Kq d,Ev d,0⟩
def Ya{m}:(Vn d).has m=true↔∃i,i<d.n/\(d.L i).turn≠0/\(d.L i).key.kind=2/\(d.L i).key.num=m:=by
 rw[Pl.has,decide_eq_true_iff,Xq];constructor
 .rintro⟨j,h1,h2⟩;obtain⟨i,a,i2,i3⟩:=rF h1;have h2:((Ev d j).key.kind==2&&(Ev d j).key.num==m)=true:=h2;grind
 rintro⟨i,a,i2,i3,i4⟩;obtain⟨h1,h2⟩:=lV a i2;refine⟨_,h1,?_⟩;show((Ev d _).key.kind==2&&(Ev d _).key.num==m)=true;simp[h2,i3,i4]
theorem TK(f:Nat->Int)(m:Nat):∀g k,k+g=m->S8 f m k g<=m/\(∀j,k<=j->j<S8 f m k g->f j≠0)/\k<=S8 f m k g/\(S8 f m k g=m\/(S8 f m k g<m/\f (S8 f m k g)=0))
 |0,k,h=>⟨by show k<=m;omega,λj h1 h2=>by have h2:j<k:=h2;omega,Be _,.inl<|by show k=m;omega⟩
 |g+1,k,h=>by
  show(if f k=0 then k else S8 f m (k+1) g)<=m/\_;by_cases e:f k=0
  .have e2:S8 f m k (g+1)=k:=C3 e;rw[e2,C3 e];exact⟨om,λj h1 h2=>om,Be _,.inr ⟨om,e⟩⟩
  have e2:S8 f m k (g+1)=S8 f m (k+1) g:=Cs e;obtain⟨h1,h2,h3,h4⟩:=TK f m g (k+1) om;rw[e2,Cs e];refine⟨h1,λj c a=>?_,om,h4⟩;by_cases b:j=k
  .subst b;exact e
  exact h2 j om a
def kJ(h:Inv Ky hN d):((Vn d).len:Int)=F3 d:=by
 obtain⟨l1,l2,_,l3⟩:=TK d.I d.m d.m 0 om;have e:F3 d=(Qf d:Int):=C3<|Gv h;rw[e];have l2:∀j,0<=j->j<Qf d->d.I j≠0:=l2;have l3:Qf d=d.m\/(Qf d<d.m/\d.I (Qf d)=0):=l3;have:(Vn d).len=Qf d:=by
  refine Pl.V5 (λj hj=>?_) ?_
  .rw[Ya];rcases h.i0.ints j om with e|⟨e1,e2,e3,c,f⟩;all_goals grind [hN,Vn]
  cases b:(Vn d).has<|(Qf d:Int)+1
  .rfl
  obtain⟨i,a,i2,i3,i4⟩:=Ya.1 b;exfalso;rcases l3 with l3|⟨l3,g⟩
  .exact h.next i a i2 ⟨i3,by rw[i4,l3]⟩
  have:=h.i0.small i a i2 ⟨i3,om,om⟩;all_goals grind [hN,Vn,Qf]
 rw[this]
def dP(h:Inv Ky hN d)n:(Vn d).next n=(K5 d n).2:=by
 rw[Pl.next,Pl.G6];rcases KH (λj=>decide (n<((Vn d).P j).turn)) (Vn d).n 0 with e|⟨j,e,h1,h2,h3,h4⟩
 .have e':Yv (λj=>decide (n<((Vn d).P j).turn)) (Vn d).n=-1:=e;rw[e'];have a:RL d n (AW d d.n)=none:=LK (λi hi=>by
   obtain⟨c,i2⟩:i<d.n/\(d.L i).turn≠0:=by simpa[AW]using hi
   obtain⟨k1,k2⟩:=lV c i2;have:=GZ e (AW d i).length (W9 _) (by rw[We];exact k1);have:decide (n<(Ev d (AW d i).length).turn)=false:=this;rw[k2]at this;simpa using this)
  rw[Q6 (Gv h) a];rfl
 have e':Yv (λj=>decide (n<((Vn d).P j).turn)) (Vn d).n=j:=e;rw[e',Cs om];have hj:j<(AW d d.n).length:=by rw[We]at h2;exact h2
 have f:∀q (hq:q<(AW d d.n).length),Ev d q=d.L (AW d d.n)[q]:=λq hq=>by
  rw[Ev,List.getD_eq_getElem?_getD,List.getElem?_eq_getElem hq];rfl
 have a:RL d n (AW d d.n)=some (AW d d.n)[j]:=by
  refine Tj (l:=(AW d d.n).take j) (λx b=>?_) ⟨(AW d d.n).drop<|j+1,?_⟩ ?_
  .obtain⟨q,hq,b⟩:=List.getElem_of_mem b;rw[List.length_take]at hq;have:=h4 q (W9 _) om;have:decide (n<(Ev d q).turn)=false:=this;grind [hN,Vn]
  .rw[List.append_assoc,List.singleton_append,List.getElem_cons_drop,List.take_append_drop]
  have:decide (n<(Ev d j).turn)=true:=h3;grind
 rw[Q7 (Gv h) a];exact f j hj
section
open Go.RowKit Go.Shelf
attribute [local go_sem] Oper.semAt_some
def VO lc{ia:Option Addr}ic{xa:Option Addr}xc{d}t{w}(hT:B2 w)(hA:Ea w la ia xa d)(hS:Small d)(hW:S4 d)(hk:BI d (hD d)=0):
  C9 271 #[Dv la lc ia ic xa xc d,J t] w (R9 (mK (K5 d t).1 (K5 d t).2) w):=by
 have af:=O hk;have av:=Lg hk;have U:B9 w<|((w.alloc<|.cells #[.slice la d.n lc,.slice ia d.m ic,.slice xa d.x xc,J d.used,J d.live,J d.turns] 103).alloc<|.cells #[J t] 3).alloc<|.cells #[.bool false,J 0,J 0,F9 0,E9,J 0,J 0,J 0,F9 0,E9,J 0,J 0] 179:=((n9).alloc oq _).alloc ot _;refine(Aaa (n:=20)).1 ?_;refine callsIn_of_wp_marks func271 rfl trivial ?_ rfl;simp only[ntmps271,Aar,Aae,X9,Nat.reduceAdd,Nat.reduceSub,Aag,Aaf,Aas,Aai,Aad,Aaq];gi_wp2_with fail;refine⟨trivial,?_⟩;refine(Aaa.2<|I3 A1 lc ic xc (A1 _ _ hT U) (hA.below U) hS (λq hq hk=>qV hk ((hW) q hq).1) af).mono ?_;rintro e w1 ⟨rfl,ag⟩;obtain⟨j,aM⟩:=AM ag;have bb:=ag.size;simp at bb;have y1:w.heap.size+1<w1.heap.size:=om;have I:w.heap.size+1+1<w1.heap.size:=om;have q0:w1.cell? (y w 0)=some (.slice la d.n lc):=by rw[j _ _ ot];simp[go_sem]
 have q1:w1.cell? (y w 1)=some (.slice ia d.m ic):=by rw[j _ _ ot];simp[go_sem]
 have q2:w1.cell? (y w 2)=some (.slice xa d.x xc):=by rw[j _ _ ot];simp[go_sem]
 have q3:w1.cell? (y w 3)=some (J d.used):=by rw[j _ _ ot];simp[go_sem]
 have q4:w1.cell? (y w 4)=some (J d.live):=by rw[j _ _ ot];simp[go_sem]
 have q5:w1.cell? (y w 5)=some (J d.turns):=by rw[j _ _ ot];simp[go_sem]
 have tq:w1.cell? (Y9 w 0)=some (J t):=by rw[j _ _ oq];simp[go_sem]
 have r0:w1.cell? (Z9 w 0)=some (.bool false):=by rw[j _ _ oq];simp[go_sem]
 have r1:w1.cell? (Z9 w 1)=some (J 0):=by rw[j _ _ oq];simp[go_sem]
 have r2:w1.cell? (Z9 w 2)=some (J 0):=by rw[j _ _ oq];simp[go_sem]
 have r3:w1.cell? (Z9 w 3)=some (F9 0):=by rw[j _ _ oq];simp[go_sem]
 have r4:w1.cell? (Z9 w 4)=some (E9):=by rw[j _ _ oq];simp[go_sem]
 have r5:w1.cell? (Z9 w 5)=some (J 0):=by rw[j _ _ oq];simp[go_sem]
 have r6:w1.cell? (Z9 w 6)=some (J 0):=by rw[j _ _ oq];simp[go_sem]
 have r7:w1.cell? (Z9 w 7)=some (J 0):=by rw[j _ _ oq];simp[go_sem]
 have r8:w1.cell? (Z9 w 8)=some (F9 0):=by rw[j _ _ oq];simp[go_sem]
 have r9:w1.cell? (Z9 w 9)=some (E9):=by rw[j _ _ oq];simp[go_sem]
 have bc:w1.cell? (Z9 w 10)=some (J 0):=by rw[j _ _ oq];simp[go_sem]
 have bd:w1.cell? (Z9 w 11)=some (J 0):=by rw[j _ _ oq];simp[go_sem]
 have fr:∀o,w1.frozen? (Z9 w o)=false:=λo=>by rw[aM _ _ oq];simp[go_sem]
 have ah:=o8 U ag;gi_wp2_with fail;refine⟨trivial,?_⟩;refine(Aaa.2<|Ih lc ic xc (hA.below ah) hS av.d3 av.d4).mono ?_;rintro e w2 ⟨⟨bk,R0,R1,R2,E,S,rfl,bf⟩,aw⟩;gi_wp2_with fail;refine⟨trivial,?_⟩;refine(Aaa.2<|Ia bk _).mono ?_;rintro e w4 ⟨rfl,rfl⟩;gi_wp2_with fail;obtain⟨u,hu⟩:=o9<|w2.alloc<|.cells #[Q9 bk] 286;rw[<-hu];have ax:B9 w2 u:=by rw[hu];exact(BE _ _).alloc (Be _) _
 have bg:u.cell? (y w2 0)=some (Q9 bk):=by rw[hu];simp[go_sem]
 have V:=(z<|O bf).below ax;have k:=o8 aw ax;rcases o8 ah k,(k.cell y1).trans tq,(k.cell I).trans r0,(k.cell I).trans r1,(k.cell I).trans r2,(k.cell I).trans r3,(k.cell I).trans r4,(k.cell I).trans r5,(k.cell I).trans r6,(k.cell I).trans r7,(k.cell I).trans r8,(k.cell I).trans r9,(k.cell I).trans bc,(k.cell I).trans bd with⟨M,tu,x0,x1,x2,x3,x4,x5,x6,x7,x8,x9,ay,az⟩;have fu:∀o,u.frozen? (Z9 w o)=false:=λo=>o7 k I<|fr o;have ai:=A0 y1 k.size;have g:=A0 I k.size;have bh:=O<|GP (AaM ai)<|Be _;refine wpIn_rangeFunc_ownF rfl oo (gf:=233) (lb:=#[Q9 w2.heap.size]) rfl trivial (enters_of func233 ou rfl)
  (KU 19 oo w2.heap.size u.heap.size V hS V.l0 (λi hi=>(V.Cw i hi).lt) bg) belowK_t (belowK_b<|Be _) (BE _ _) (λ_=>rfl)
  (λpre W=>mR d t pre/\B9 u W)
  (λc pre W=>(c=.ret/\vG d t (w.heap.size+1+1) pre W)/\B9 w W)
  (OwnFrom.and (ownFrom_pure _ λpre:List (Ml d)=>mR d t pre)<|ownFrom_below (Be _)<|Be _)
  (λc=>OwnFrom.and (Own.from (λs A B row hs P Q=>⟨hs.1,by obtain⟨R,Z,h1,h2,h3,c0,c1,c2,c3,c4,c5,c6,c7,c8,c9,T,Xr⟩:=hs.2;exact⟨R,Z,h1,h2,h3,Of c0 P Q,Of c1 P Q,Of c2 P Q,Of c3 P Q,Of c4 P Q,Of c5 P Q,Of c6 P Q,Of c7 P Q,Of c8 P Q,Of c9 P Q,Of T P Q,Of Xr P Q⟩⟩) _)<|ownFrom_below (Be _)<|by have:=z bh;have:=y1;omega)
  ⟨λZ hy=>(by cases hy),BE _ _⟩
  ?a1 ?assign ?body ?done ?stop
 case assign=>
  intro l x W K hK;gi_wp2;exact hK
 case body=>
  rintro l pre ⟨i,hi,ht⟩ W ⟨hp,a⟩ _;rcases (V.below a).Cw i hi,(a.cell ai).trans tu,A0 ai a.size,A0 g a.size,(a.cell g).trans x0,(a.cell g).trans x1,(a.cell g).trans x2,(a.cell g).trans x3,(a.cell g).trans x4,(a.cell g).trans x5,(a.cell g).trans x6,(a.cell g).trans x7,(a.cell g).trans x8,(a.cell g).trans x9,(a.cell g).trans ay,(a.cell g).trans az with⟨⟨H,k0,k1,k2,k3,k4,v0,v1,v2,v3,v4,tn,_,_⟩,tW,b5,F,a0,a1,a2,a3,a4,a5,a6,a7,a8,a9,bj,bm⟩;have fW:∀o,W.frozen? (Z9 w o)=false:=λo=>o7 a g<|fu o;have HP:=O hp;by_cases ad:t<(d.L i).turn
  .have HL:=O ad;have ao:decide (t<(d.L i).turn)=true:=by simp[ad]
   gi_wp2;refine wpIn_region_quiet (C:=λw'=>B9 W w') ou ou ou ((BE _ _).drew) ?_;show wpQuiet _ _ _ _ [_,_,_,_,_,_,_] _;(iterate 7 refine N (h:=?_));refine GS ?_;intro w5 f;rcases BR f,o8 M<|a.trans<|f.mono a.size,(f.cell H).trans k0,(f.cell H).trans k1,(f.cell H).trans k2,(f.cell H).trans k3,(f.cell H).trans k4,(f.cell H).trans v0,(f.cell H).trans v1,(f.cell H).trans v2,(f.cell H).trans v3,(f.cell H).trans v4,(f.cell H).trans tn,(f.cell F).trans a0,(f.cell F).trans a1,(f.cell F).trans a2,(f.cell F).trans a3,(f.cell F).trans a4,(f.cell F).trans a5,(f.cell F).trans a6,(f.cell F).trans a7,(f.cell F).trans a8,(f.cell F).trans a9,(f.cell F).trans bj,(f.cell F).trans bm with⟨HK,ae,b6,b7,b8,b9,ca,cb,cc,cd,cg,ch,b4,bn,bp,bq,br,bt,bu,bw,bx,bz,b0,aq,ar⟩;have f5:∀o,w5.frozen? (Z9 w o)=false:=λo=>o7 f F<|fW o;gi_wp2;refine⟨?_,⟨rfl,pre,⟨i,hi,ht⟩,rfl,HP,HL,?_⟩,?_⟩
   .refine HK.trans ?_;iterate 11 (refine KeepsOthers.trans ?_<|Q2 _ _ _)
    exact Q2 _ _ _
   .refine⟨?_,?_,?_,?_,?_,?_,?_,?_,?_,?_,?_,?_⟩<;>simp[go_sem,bn,bp,bq,br,bt,bu,bw,bx,bz,b0,aq,ar]
   iterate 12 (refine NO ?_ oy _)
   exact ae
  have HL:=O ad;have ao:decide (t<(d.L i).turn)=false:=by simp[ad]
  gi_wp2;refine wpIn_region_quiet (C:=λw'=>B9 W w') ou ou ou ((BE _ _).drew) ?_;show wpQuiet _ _ _ _ [_,_,_,_,_,_,_] _;(iterate 7 refine N (h:=?_));refine GS ?_;intro w5 f;have ae:=O f;gi_wp2;exact⟨z<|BR f,ae.mono a.size,λZ hy=>(List.mem_append.1 hy).elim (HP Z) (λe=>by rw[List.mem_singleton]at e;subst e;exact Int.not_lt.2 HL),o8 a ae⟩
 case done=>
  rintro D ys W hD b1 ⟨hp,a⟩ hK;have HR:Hid<|K5 d t=(false,default):=O (Q6 af (LK (λi hi=>by
   rw[<-show ys.map (·.1)=AW d d.n from b1]at hi;obtain⟨Z,hy,rfl⟩:=List.mem_map.1 hi;exact hp Z hy)))
  rcases (a.cell g).trans x0,(a.cell g).trans x1,(a.cell g).trans x2,(a.cell g).trans x3,(a.cell g).trans x4,(a.cell g).trans x5,(a.cell g).trans x6,(a.cell g).trans x7,(a.cell g).trans x8,(a.cell g).trans x9,(a.cell g).trans ay,(a.cell g).trans az with⟨c0,c1,c2,c3,c4,c5,c6,c7,c8,c9,T,Xr⟩;have fW:∀o,W.frozen? (Z9 w o)=false:=λo=>o7 a g<|fu o;gi_wp2;obtain⟨Y,v⟩:=o9<|(((((((((((W.setCell (Z9 w 0)<|.bool false).setCell (Z9 w 1)<|J 0).setCell (Z9 w 2)<|J 0).setCell (Z9 w 3)<|F9 0).setCell (Z9 w 4) E9).setCell (Z9 w 5)<|J 0).setCell (Z9 w 6)<|J 0).setCell (Z9 w 7)<|J 0).setCell (Z9 w 8)<|F9 0).setCell (Z9 w 9) E9).setCell (Z9 w 10)<|J 0).setCell (Z9 w 11)<|J 0;rw[<-v];have b2:KeepsOthers W Y:=by
   rw[v];iterate 11 (refine KeepsOthers.trans ?_<|Q2 _ _ _)
   exact Q2 _ _ _
  have hK':=b2.same D _ hK rfl;have b3:B9 w Y:=by
   rw[v];iterate 12 (refine NO ?_ oy _)
   exact o8 M a
  have d0:Y.cell? (Z9 w 0)=some (.bool false):=by rw[v];simp[go_sem,c0]
  have d1:Y.cell? (Z9 w 1)=some (J 0):=by rw[v];simp[go_sem,c1]
  have d2:Y.cell? (Z9 w 2)=some (J 0):=by rw[v];simp[go_sem,c2]
  have d3:Y.cell? (Z9 w 3)=some (F9 0):=by rw[v];simp[go_sem,c3]
  have d4:Y.cell? (Z9 w 4)=some (E9):=by rw[v];simp[go_sem,c4]
  have d5:Y.cell? (Z9 w 5)=some (J 0):=by rw[v];simp[go_sem,c5]
  have d6:Y.cell? (Z9 w 6)=some (J 0):=by rw[v];simp[go_sem,c6]
  have d7:Y.cell? (Z9 w 7)=some (J 0):=by rw[v];simp[go_sem,c7]
  have d8:Y.cell? (Z9 w 8)=some (F9 0):=by rw[v];simp[go_sem,c8]
  have d9:Y.cell? (Z9 w 9)=some (E9):=by rw[v];simp[go_sem,c9]
  have d10:Y.cell? (Z9 w 10)=some (J 0):=by rw[v];simp[go_sem,T]
  have d11:Y.cell? (Z9 w 11)=some (J 0):=by rw[v];simp[go_sem,Xr]
  refine⟨oq,.inl ⟨_,_,rfl,AaH hK',?_⟩⟩;have e0:=Of d0 (NX _ D<|.deferred none) (λr e=>by cases e;exact⟨_,hK',rfl⟩);have e1:=Of d1 (NX _ D<|.deferred none) (λr e=>by cases e;exact⟨_,hK',rfl⟩);have e2:=Of d2 (NX _ D<|.deferred none) (λr e=>by cases e;exact⟨_,hK',rfl⟩);have e3:=Of d3 (NX _ D<|.deferred none) (λr e=>by cases e;exact⟨_,hK',rfl⟩);have e4:=Of d4 (NX _ D<|.deferred none) (λr e=>by cases e;exact⟨_,hK',rfl⟩);have e5:=Of d5 (NX _ D<|.deferred none) (λr e=>by cases e;exact⟨_,hK',rfl⟩);have e6:=Of d6 (NX _ D<|.deferred none) (λr e=>by cases e;exact⟨_,hK',rfl⟩);have e7:=Of d7 (NX _ D<|.deferred none) (λr e=>by cases e;exact⟨_,hK',rfl⟩);have e8:=Of d8 (NX _ D<|.deferred none) (λr e=>by cases e;exact⟨_,hK',rfl⟩);have e9:=Of d9 (NX _ D<|.deferred none) (λr e=>by cases e;exact⟨_,hK',rfl⟩);have aj:=Of d10 (NX _ D<|.deferred none) (λr e=>by cases e;exact⟨_,hK',rfl⟩);have ak:=Of d11 (NX _ D<|.deferred none) (λr e=>by cases e;exact⟨_,hK',rfl⟩);refine⟨.agg #[.bool false,J 0,J 0,F9 0,E9,J 0,J 0,J 0,F9 0,E9,J 0,J 0],?_,qg HR,b3.trans<|belowK_b (w:=w) (Be _) _ D _ _ (GP M.size hD) hK' rfl rfl⟩;simp[results,f271,go_sem,e0,e1,e2,e3,e4,e5,e6,e7,e8,e9,aj,ak]
 case stop=>
  rintro D c pre W hD au ⟨⟨rfl,R,Z,rfl,h1,h2,c0,c1,c2,c3,c4,c5,c6,c7,c8,c9,T,Xr⟩,a⟩ hK;have hp:(R++[Z]).map (·.1)<+:AW d d.n:=au;rw[AaA]at hp;have HR:Hid<|K5 d t=(true,d.L Z.1):=O<|Q7 af<|Tj (λb hb=>by obtain⟨X,hz,rfl⟩:=List.mem_map.1 hb;exact h1 X hz) hp h2;gi_wp2;refine⟨oq,.inl ⟨_,_,rfl,AaH hK,?_⟩⟩;have e0:=Of c0 (NX _ D<|.deferred none) (λr e=>by cases e;exact⟨_,hK,rfl⟩);have e1:=Of c1 (NX _ D<|.deferred none) (λr e=>by cases e;exact⟨_,hK,rfl⟩);have e2:=Of c2 (NX _ D<|.deferred none) (λr e=>by cases e;exact⟨_,hK,rfl⟩);have e3:=Of c3 (NX _ D<|.deferred none) (λr e=>by cases e;exact⟨_,hK,rfl⟩);have e4:=Of c4 (NX _ D<|.deferred none) (λr e=>by cases e;exact⟨_,hK,rfl⟩);have e5:=Of c5 (NX _ D<|.deferred none) (λr e=>by cases e;exact⟨_,hK,rfl⟩);have e6:=Of c6 (NX _ D<|.deferred none) (λr e=>by cases e;exact⟨_,hK,rfl⟩);have e7:=Of c7 (NX _ D<|.deferred none) (λr e=>by cases e;exact⟨_,hK,rfl⟩);have e8:=Of c8 (NX _ D<|.deferred none) (λr e=>by cases e;exact⟨_,hK,rfl⟩);have e9:=Of c9 (NX _ D<|.deferred none) (λr e=>by cases e;exact⟨_,hK,rfl⟩);have aj:=Of T (NX _ D<|.deferred none) (λr e=>by cases e;exact⟨_,hK,rfl⟩);have ak:=Of Xr (NX _ D<|.deferred none) (λr e=>by cases e;exact⟨_,hK,rfl⟩);refine⟨mK true<|d.L Z.1,?_,qg HR,a.trans<|belowK_b (w:=w) (Be _) W D _ _ (GP M.size hD) hK rfl rfl⟩;simp[results,f271,go_sem,e0,e1,e2,e3,e4,e5,e6,e7,e8,e9,aj,ak]
end
def Pg{t}(h:(s.T t).shape=-1):Uv s t=Vn (s.T t).d:=by
 rw[Uv,Vn,gI,mI,C3 h,C3 h]
theorem Wt{t}(h:(s.T t).shape=j):Uv s t=⟨nf s.F j,Gl s j<|s.T t,0⟩:=by
 grind [Uv,nf,Gl,gI,mI]
def kM{t}(h:PO s<|s.T t):((Uv s t).len:Int)=if(s.T t).shape=-1 then F3 (s.T t).d else 0:=by
 rcases h.way with⟨h1,h2,h3⟩|⟨j,h1,_⟩
 .rw[C3 h1,Pg h1];exact kJ h3
 rw[Cs om,Wt h1];have:(⟨nf s.F j,Gl s j<|s.T t,0⟩:Pl).len=0:=by
  refine Pl.V5 (λq hq=>om) ?_;grind [Uv,nf,Gl,Pl.has,Xq]
 rw[this];rfl
def kK{t}(h:PO s<|s.T t):((Uv s t).n:Int)=if(s.T t).shape=-1 then(s.T t).d.live else((s.T t).nv:Int):=by
 rcases h.way with⟨h1,h2,h3⟩|⟨j,h1,_,h2,_⟩
 .rw[C3 h1,Pg h1];exact h3.i0.log.CI
 grind [Wt]
def dQ{t}(h1:(s.T t).shape=-1)(h3:Inv Ky hN (s.T t).d)n:(Uv s t).next n=(K5 (s.T t).d n).2:=by
 rw[Pg h1];exact dP h3 n
structure Xm (w:Y) (b:Nat) (k:Vl):Prop where
 lt:b<w.heap.size
 c0:w.cell? (G b 0)=some (J k.kind)
 c1:w.cell? (G b 1)=some (J k.num)
 c2:w.cell? (G b 2)=some (F9 k.Af)
 c3:w.cell? (G b 3)=some (.string k.str)
 c4:w.cell? (G b 4)=some (J k.ref)
def Xm.keep{k}(h:Xm w b k)(hl:w.heap.size<=w'.heap.size)(hk:w'.heap[b]?=w.heap[b]?):Xm w' b k:=
 ⟨oS h.lt,(As hk).trans h.c0,(As hk).trans h.c1,(As hk).trans h.c2,(As hk).trans h.c3,(As hk).trans h.c4⟩
def Xm.below{k}(h:Xm w b k)(hb:Below B w w')(a:b<B):Xm w' b k:=h.keep hb.size<|hb.block _ a
def Fq op w:
  C9 47 #[J op] w λe w'=>e=.returned (.tuple #[.bool (CV op),.bool (El op)])/\w'=w:=by
 go_enter func47,ntmps47;go_wp2;all_goals exact GO (v:=.tuple #[.bool (CV op),.bool (El op)]) (by simp_all [results,results47,go_sem,CV,El]) rfl ⟨rfl,rfl⟩
def OO s w:
  C9 91 #[.string s] w (R9 (V (BL s).kind (BL s).num (BL s).Af (BL s).str (BL s).ref) w):=by
 go_enter func91,ntmps91;go_wp2;exact GO (v:=V 4 0 0 s 0) (by simp[results,results91,go_sem]) rfl ⟨rfl,n9⟩
theorem dL(f:Nat->Pr):∀n,∀u∈pL f n,u.oneCell'=true
 |0,u,h=>by cases h
 |n+1,u,h=>by
  rcases List.mem_append.1 h with h|h
  .exact dL f n u h
  exact Ff _ u h
abbrev qE:List Value:=[J 0,J 0,F9 0,E9,J 0,J 0,J 0,F9 0,E9,J 0,J 0]
def GX(v0 v1 v2:V9)(b:Nat):Prop:=v0.ownBlock=some b\/v1.ownBlock=some b\/v2.ownBlock=some b
structure AQ (w:Y) (c o B:Nat) (v0 v1 v2:V9) (d:Dc):Prop where
 lt:c<w.heap.size
 c0:w.cell? (G c o)=some v0
 c1:w.cell? (G c<|o+1)=some v1
 c2:w.cell? (G c<|o+2)=some v2
 c3:w.cell? (G c<|o+3)=some (J d.used)
 c4:w.cell? (G c<|o+4)=some (J d.live)
 c5:w.cell? (G c<|o+5)=some (J d.turns)
 fz:∀q,w.frozen? (G c q)=false
 log:BP w B v0 d.n d.L
 ints:Bo w B v1 d.m d.I
 index:Bo w B v2 d.x d.X
 ap:∀q,v1.ownBlock=some q->v2.ownBlock≠some q
 nc:¬GX v0 v1 v2 c
 base:B<=w.heap.size
def Yn(w w':Y)(c:Nat):Prop:=∀cs ty,w.heap[c]?=some (.cells cs ty (0,0))->∃a,w'.heap[c]?=some (.cells a ty (0,0))/\a.size=cs.size
theorem Yn.same(h:w'.heap[c]?=w.heap[c]?):Yn w w' c:=λcs ty e=>⟨cs,h.trans e,rfl⟩
theorem Yn.trans{a}(h:Yn w w' c)(k:Yn w' a c):Yn w a c:=λcs ty e=>by
 obtain⟨d,h1,h2⟩:=h cs ty e;obtain⟨b,k1,k2⟩:=k d ty h1;exact⟨b,k1,k2.trans h2⟩
def Yn.set w c a u:Yn w (w.setCell a u) c:=λcs ty e=>by
 by_cases h:c=a.block
 .subst h;exact⟨if a.spot.isSome=true then cs else cs.setIfInBounds a.off u,by simp[World.setCell,Array.getElem?_modify,e],by split<;>simp⟩
 exact⟨cs,(At _ _ _ _ h).trans e,rfl⟩
structure CW (c o:Nat) (v0 v1 v2:V9) (w:Y) (u0 u1 u2:V9) (w':Y):Prop where
 os:w'.os=w.os
 tape:w'.tape=w.tape
 output:w'.output=w.output
 size:w.heap.size<=w'.heap.size
 block:∀b,b<w.heap.size->b≠c->¬GX v0 v1 v2 b->w'.heap[b]?=w.heap[b]?
 cell:∀q,(q<o\/o+6<=q)->w'.cell? (G c q)=w.cell? (G c q)
 sub:∀b,GX u0 u1 u2 b->GX v0 v1 v2 b\/w.heap.size<=b
 ty:Yn w w' c
def CW.refl c o v0 v1 v2 w:CW c o v0 v1 v2 w v0 v1 v2 w:=⟨rfl,rfl,rfl,Be _,λ_ _ _ _=>rfl,λ_ _=>rfl,λ_ h=>.inl h,.same rfl⟩
theorem CW.trans{t0 t1 t2}{a}(h:CW c o v0 v1 v2 w u0 u1 u2 w')(k:CW c o u0 u1 u2 w' t0 t1 t2 a):CW c o v0 v1 v2 w t0 t1 t2 a:=
 ⟨k.os.trans h.os,k.tape.trans h.tape,k.output.trans h.output,GP h.size k.size,λb hb hc d=>(k.block b (A0 hb h.size) hc λe=>(h.sub b e).elim d λe'=>absurd hb om).trans<|h.block b hb hc d,λq hq=>(k.cell q hq).trans<|h.cell q hq,λb hb=>(k.sub b hb).elim (h.sub b) λe=>.inr<|GP h.size e,h.ty.trans k.ty⟩
def CW.Ax(h:B9 w w')(hc:c<w.heap.size):CW c o v0 v1 v2 w v0 v1 v2 w':=
 ⟨h.os,h.tape,h.output,h.size,λb hb _ _=>h.block b hb,λq _=>h.cell hc,λ_ e=>.inl e,.same<|h.block c hc⟩
def AQ.Wn(h:AQ w c o B v0 v1 v2 d){b}(e:GX v0 v1 v2 b):B<=b/\b<w.heap.size:=by
 rcases e with e|e|e
 .exact h.log.lt b e
 .exact h.ints.lt b e
 exact h.index.lt b e
def AQ.below(h:AQ w c o B v0 v1 v2 d)(hb:B9 w w'):AQ w' c o B v0 v1 v2 d:=by
 have e:∀q,w'.cell? (G c q)=w.cell? (G c q):=λq=>hb.cell h.lt;exact⟨A0 h.lt hb.size,(e _).trans h.c0,(e _).trans h.c1,(e _).trans h.c2,(e _).trans h.c3,(e _).trans h.c4,(e _).trans h.c5,λq=>(hb.frozen h.lt).trans<|h.fz q,C0 h.log hb.size λq _ hq=>hb.block q hq,C0 h.ints hb.size λq _ hq=>hb.block q hq,C0 h.index hb.size λq _ hq=>hb.block q hq,h.ap,h.nc,GP h.base hb.size⟩
def AQ.ptr(h:AQ w c o B v0 v1 v2 d):∃la lc ia ic xa xc,v0=.slice la d.n lc/\v1=.slice ia d.m ic/\v2=.slice xa d.x xc/\Hl w c o la lc ia ic xa xc d:=by
 rcases h.log.at,h.ints.at,h.index.at with⟨⟨la,lc,e0,a⟩,⟨ia,ic,e1,b⟩,⟨xa,xc,e2,e⟩⟩;subst e0 e1 e2;exact⟨la,lc,ia,ic,xa,xc,rfl,rfl,rfl,h.lt,h.c0,h.c1,h.c2,h.c3,h.c4,h.c5,a,b,e⟩
def AQ.of_same{e}(h:AQ w c o B v0 v1 v2 d)(n:e.n=d.n)(L:∀i,i<d.n->e.L i=d.L i)(m:e.m=d.m)(I:∀i,i<d.m->e.I i=d.I i)(x:e.x=d.x)(X:∀i,i<d.x->e.X i=d.X i)(hu:e.used=d.used)(hl:e.live=d.live)(b:e.turns=d.turns):AQ w c o B v0 v1 v2 e:=by
 have hp:∀(f g:Nat->Pr) (n:Nat),(∀i,i<n->f i=g i)->pL f n=pL g n:=by
  intro f g n a
  induction n with
  |zero=>rfl
  |succ n ih=>show pL f n++De (f n)=pL g n++De (g n);rw[ih (λj hj=>a j om),a n om]
 have hi:∀(f g:Nat->Int) (n:Nat),(∀i,i<n->f i=g i)->iL f n=iL g n:=by
  intro f g n a
  induction n with
  |zero=>rfl
  |succ n ih=>show iL f n++[_]=iL g n++[_];rw[ih (λj hj=>a j om),a n om]
 refine⟨h.lt,h.c0,h.c1,h.c2,by rw[hu];exact h.c3,by rw[hl];exact h.c4,by rw[b];exact h.c5,h.fz,?_,?_,?_,h.ap,h.nc,h.base⟩
 .show w.ownsRow _ _ _ _ e.n (pL e.L e.n);rw[n,hp e.L d.L d.n L];exact h.log
 .show w.ownsRow _ _ _ _ e.m (iL e.I e.m);rw[m,hi e.I d.I d.m I];exact h.ints
 show w.ownsRow _ _ _ _ e.x (iL e.X e.x);rw[x,hi e.X d.X d.x X];exact h.index
def Bo.form{f}(h:Bo w B v n f)(hn:0<n):∃g a,v=S9 g n a/\B<=g/\g<w.heap.size/\n<=a/\(∀i,i<n->w.cell? (G g i)=some (J<|f i))/\∀q,w.frozen? (G g q)=false:=by
 have h':=h;obtain⟨hl,⟨b,d⟩|⟨g,cap,cur,b,hb,c,h1,h2,h3,h4⟩⟩:=h'
 .omega
 subst b;exact⟨g,cap,rfl,hb,(h.lt g rfl).2,h1,λi hi=>by rw[Ok h _ om,Kk hi],λq=>World.ownsRow.frozenAt h q⟩
def BP.form{f}(h:BP w B v n f)(hn:0<n):∃g a,v=S9 g n a/\B<=g/\g<w.heap.size/\n<=a/\(∀i,i<n->Ex w g (i*11) (f i))/\∀q,w.frozen? (G g q)=false:=by
 have h':=h;obtain⟨hl,⟨b,d⟩|⟨g,cap,cur,b,hb,c,h1,h2,h3,h4⟩⟩:=h'
 .omega
 subst b;refine⟨g,cap,rfl,hb,(h.lt g rfl).2,h1,λi hi=>Ex.of λj u hu=>?_,λq=>World.ownsRow.frozenAt h q⟩;have hj:j<11:=by
  have:=(So.1 hu).1;simpa[De]using this
 rw[Ok h _ om,L5 hi hj,hu]
theorem nU f n i x(hi:i<n):(iL f n).set i (J x)=iL (AU f i x) n:=by
 apply AaS;grind [iL,AU,CK,Kk,Au]
def Bo.set{a}{f}(h:Bo w B (S9 g n a) n f){i}(hi:i<n)x:Bo (w.setCell (G g i)<|J x) B (S9 g n a) n<|AU f i x:=by
 have h1:=(X0 h i<|J x).1;grind [nU]
def Bb{size}(h:w.ownsRow B e size v n xs){a}u(b:v.ownBlock≠some a.block):(w.setCell a u).ownsRow B e size v n xs:=
 AaK h (Cx w a u) (.inr b)
def DM{B'}{f}{f'}(h:BP w B v n f)(h':Bo w B' v' n' f'){q}(e:v.ownBlock=some q):v'.ownBlock≠some q:=by
 intro e';obtain⟨_,⟨rfl,_⟩|⟨g,cap,cur,rfl,hb,b,_⟩⟩:=h
 .cases e
 obtain⟨_,⟨rfl,_⟩|⟨g',c,d,rfl,i,a,_⟩⟩:=h'
 .cases e'
 simp[Value.ownBlock]at e e';grind
def Cv(h:w.cell? (G b o)=some u):(w.setCell (G b o) v).cell? (G b o)=some v:=I9 _ _ _<|qh h
def C7 u(hq:o<=q/\q<o+6)(hs:∀b,GX u0 u1 u2 b->GX v0 v1 v2 b\/w.heap.size<=b):CW c o v0 v1 v2 w u0 u1 u2<|w.setCell (G c q) u:=
 ⟨rfl,rfl,rfl,oq,λb _ hc _=>At _ _ _ _<|by exact hc,λp hp=>Aa om,hs,.set _ _ _ _⟩
def Fi u(a:GX v0 v1 v2 g)(hc:g≠c):CW c o v0 v1 v2 w v0 v1 v2<|w.setCell (G g q) u:=
 ⟨rfl,rfl,rfl,oq,λb _ _ d=>At _ _ _ _ λe=>d (by have e:b=g:=e;rw[e];exact a),λp _=>Al hc,λb e=>.inl e,.set _ _ _ _⟩
section
variable {w:Y} {c o B:Nat} {v0 v1 v2:V9} {d:Dc}
theorem AQ.DK(h:AQ w c o B v0 v1 v2 d){q}{u:V9}{u0 u1 u2:V9}{e}
  (g0:(w.setCell (G c q) u).cell? (G c o)=some u0) (g1:(w.setCell (G c q) u).cell? (G c<|o+1)=some u1) (g2:(w.setCell (G c q) u).cell? (G c<|o+2)=some u2)
  (g3:(w.setCell (G c q) u).cell? (G c<|o+3)=some (J e.used)) (g4:(w.setCell (G c q) u).cell? (G c<|o+4)=some (J e.live)) (g5:(w.setCell (G c q) u).cell? (G c<|o+5)=some (J e.turns))
  (l:BP w B u0 e.n e.L) (i:Bo w B u1 e.m e.I) (x:Bo w B u2 e.x e.X) (ap:∀q,u1.ownBlock=some q->u2.ownBlock≠some q) (nc:¬GX u0 u1 u2 c):AQ (w.setCell (G c q) u) c o B u0 u1 u2 e:=
 ⟨by simpa using h.lt,g0,g1,g2,g3,g4,g5,λp=>by rw[PC];exact h.fz p,Bb l _ λe=>nc<|.inl e,Bb i _ λe=>nc<|.inr<|.inl e,Bb x _ λe=>nc<|.inr<|.inr e,ap,nc,by simpa using h.base⟩
def AQ.pJ(h:AQ w c o B v0 v1 v2 d){u}{n}{L}(l:BP w B u n L)(nc:u.ownBlock≠some c):AQ (w.setCell (G c o) u) c o B u v1 v2 {d with n:=n,L:=L}:=
 h.DK (Cv h.c0) ((Aa om).trans h.c1) ((Aa om).trans h.c2) ((Aa om).trans h.c3) ((Aa om).trans h.c4) ((Aa om).trans h.c5) l h.ints h.index h.ap λe=>e.elim nc λe=>h.nc<|.inr e
def AQ.SC(h:AQ w c o B v0 v1 v2 d){u}{m}{I}(l:Bo w B u m I)(nc:u.ownBlock≠some c)(ap:∀q,u.ownBlock=some q->v2.ownBlock≠some q):AQ (w.setCell (G c<|o+1) u) c o B v0 u v2 {d with m:=m,I:=I}:=
 h.DK ((Aa om).trans h.c0) (Cv h.c1) ((Aa om).trans h.c2) ((Aa om).trans h.c3) ((Aa om).trans h.c4) ((Aa om).trans h.c5) h.log l h.index ap λe=>e.elim (λe=>h.nc<|.inl e) λe=>e.elim nc λe=>h.nc<|.inr<|.inr e
def AQ.setIndex(h:AQ w c o B v0 v1 v2 d){u}{x}{X}(l:Bo w B u x X)(nc:u.ownBlock≠some c)(ap:∀q,v1.ownBlock=some q->u.ownBlock≠some q):AQ (w.setCell (G c<|o+2) u) c o B v0 v1 u {d with x:=x,X:=X}:=
 h.DK ((Aa om).trans h.c0) ((Aa om).trans h.c1) (Cv h.c2) ((Aa om).trans h.c3) ((Aa om).trans h.c4) ((Aa om).trans h.c5) h.log h.ints l ap λe=>e.elim (λe=>h.nc<|.inl e) λe=>e.elim (λe=>h.nc<|.inr<|.inl e) nc
def AQ.Ld(h:AQ w c o B v0 v1 v2 d)u:AQ (w.setCell (G c<|o+3)<|J u) c o B v0 v1 v2 {d with used:=u}:=
 h.DK ((Aa om).trans h.c0) ((Aa om).trans h.c1) ((Aa om).trans h.c2) (Cv h.c3) ((Aa om).trans h.c4) ((Aa om).trans h.c5) h.log h.ints h.index h.ap h.nc
def AQ.Im(h:AQ w c o B v0 v1 v2 d)u:AQ (w.setCell (G c<|o+4)<|J u) c o B v0 v1 v2 {d with live:=u}:=
 h.DK ((Aa om).trans h.c0) ((Aa om).trans h.c1) ((Aa om).trans h.c2) ((Aa om).trans h.c3) (Cv h.c4) ((Aa om).trans h.c5) h.log h.ints h.index h.ap h.nc
def AQ.Pt(h:AQ w c o B v0 v1 v2 d)u:AQ (w.setCell (G c<|o+5)<|J u) c o B v0 v1 v2 {d with turns:=u}:=
 h.DK ((Aa om).trans h.c0) ((Aa om).trans h.c1) ((Aa om).trans h.c2) ((Aa om).trans h.c3) ((Aa om).trans h.c4) (Cv h.c5) h.log h.ints h.index h.ap h.nc
def AQ.oZ(h:AQ w c o B v0 v1 v2 d){g q}{u:V9}(a:GX v0 v1 v2 g){e}(hu:e.used=d.used)(hl:e.live=d.live)(b:e.turns=d.turns)
  (l:BP (w.setCell (G g q) u) B v0 e.n e.L) (i:Bo (w.setCell (G g q) u) B v1 e.m e.I) (x:Bo (w.setCell (G g q) u) B v2 e.x e.X):AQ (w.setCell (G g q) u) c o B v0 v1 v2 e:=by
 have hc:g≠c:=λe=>h.nc<|e▸a;exact⟨by simpa using h.lt,(Al hc).trans h.c0,(Al hc).trans h.c1,(Al hc).trans h.c2,by rw[hu];exact(Al hc).trans h.c3,by rw[hl];exact(Al hc).trans h.c4,by rw[b];exact(Al hc).trans h.c5,λp=>by rw[PC];exact h.fz p,l,i,x,h.ap,h.nc,by simpa using h.base⟩
end
def AQ.Uz{a}(h:AQ w c o B v0 v1 (S9 g d.x a) d){i}(hi:i<d.x)x:AQ (w.setCell (G g i)<|J x) c o B v0 v1 (S9 g d.x a) {d with X:=AU d.X i x}:=
 h.oZ (.inr<|.inr rfl) rfl rfl rfl (Bb h.log _ λe=>DM h.log h.index e rfl) (Bb h.ints _ λe=>h.ap _ e rfl) (h.index.set hi x)
def AQ.Zr{a}(h:AQ w c o B v0 (S9 g d.m a) v2 d){i}(hi:i<d.m)x:AQ (w.setCell (G g i)<|J x) c o B v0 (S9 g d.m a) v2 {d with I:=AU d.I i x}:=
 h.oZ (.inr<|.inl rfl) rfl rfl rfl (Bb h.log _ λe=>DM h.log h.ints e rfl) (h.ints.set hi x) (Bb h.index _ λe=>h.ap _ rfl e)
def kT ob u(hc:c<w.heap.size)(hq:o<=q/\q<o+6)(hs:∀b,GX u0 u1 u2 b->GX v0 v1 v2 b\/w.heap.size<=b):CW c o v0 v1 v2 w u0 u1 u2<|(w.alloc ob).setCell (G c q) u:=
 ⟨rfl,rfl,rfl,oq,λb hb hc _=>(At _ _ _ _<|by exact hc).trans<|DO _ _ _ hb,λp hp=>(Aa om).trans<|Hi _ _ _<|by exact hc,hs,(Yn.same<|DO _ _ _ hc).trans<|.set _ _ _ _⟩
def Mf{row}u(a:w.grownBy w3 row)(d:∀b,row=some b->GX v0 v1 v2 b\/w.heap.size<=b)(hc:c<w.heap.size)(hn:row≠some c)(hq:o<=q/\q<o+6)(hs:∀b,GX u0 u1 u2 b->GX v0 v1 v2 b\/w.heap.size<=b):CW c o v0 v1 v2 w u0 u1 u2<|w3.setCell (G c q) u:=
 ⟨a.os,a.tape,a.output,by simpa using a.size,λb hb hc f=>(At _ _ _ _<|by exact hc).trans<|a.block b hb λe=>(d b e.symm).elim f λe'=>om,λp hp=>(Aa om).trans<|As<|a.block c hc λe=>hn e.symm,hs,(Yn.same<|a.block c hc λe=>hn e.symm).trans<|.set _ _ _ _⟩
def jM n:(madeCells #[Value.int .i64 0] n).toList=iL (λ_=>0) n:=by
 rw[toList_madeCells_one]
 induction n with
 |zero=>rfl
 |succ n ih=>rw[List.replicate_succ'];show _=iL (λ_=>0) n++[J 0];rw[<-ih]
def Bo.made(w:Y)B n(hb:B<=w.heap.size)(hn:n<=4194304):Bo (w.alloc<|.cells (madeCells #[Value.int .i64 0] n) 3) B (S9 w.heap.size n n) n λ_=>0:=by
 have h:=World.ownsRow_lit (e:=3) (size:=1) w (madeCells #[Value.int .i64 0] n) n hb od (by rw[AaN];omega);rw[jM]at h;exact h
def Bo.cut{I}(h:Bo w B (S9 g m b) m I){n}(hn:n<=m):Bo w B (S9 g n b) n I:=by
 obtain⟨hl,⟨c,d⟩|⟨g',cap,cur,c,hb,a,h1,h2,h3,h4⟩⟩:=h
 .cases c
 cases c;refine⟨by rw[CK];omega,.inr ⟨g,b,cur,rfl,hb,a,om,h2,h3,?_⟩⟩;have e:∀j,iL I (n+j)=iL I n++(iL I<|n+j).drop n:=by
  intro j;have hp:iL I n<+:iL I (n+j):=by
   induction j with
   |zero=>exact List.prefix_refl _
   |succ j ih=>exact ih.trans<|List.prefix_append _ _
  obtain⟨t,f⟩:=hp;grind [CK]
 have e':=e<|m-n;have:cur.toList.take (n*1)=(cur.toList.take<|m*1).take n:=by rw[List.take_take];congr 1;omega
 grind [CK]
def G3{f}(h:Aq n f=0){j}(hj:j<n){i}(hi:i<nf f j):(DK f j i).size<=4000:=by
 obtain⟨h1,h2,h3,h4,h5⟩:=Av h;have hp:=RN h2 h3 hj (t:=nf f j-1-i) om;have hb:=(EX h2 h3 hj (nf f j-1-i) om).1;exact(h3 _ hp hb).2.2.2.2
theorem YM{f}(h:Aq n f=0){j}(hj:j<n){q i}(hq:q<i)(hi:i<nf f j):(DK f j q).toList≠(DK f j i).toList:=by
 grind [Aq,DK,QF]
structure JW (F:Nat->A9) (j i:Nat) (d:Dc):Prop where
 inv:Inv Ky hN d
 keys:∀p,Has d p->∃q,q<i/\p.key=BL (DK F j q)
 live:0<=d.live/\d.live<=i
 turns:0<=d.turns/\d.turns<=i
theorem JW.no(h:Aq n F=0){j}(hj:j<n){i}{d}(a:JW F j i d)(hi:i<nf F j):∀q,q<d.n->(d.L q).turn≠0->AF (d.L q).key (BL<|DK F j i)=false:=by
 grind [AF,BL,Hy,YM,JW.keys]
def JW.place(h:Aq n F=0){j}(hj:j<n){i}{d}(a:JW F j i d)(hi:i<nf F j):Aw d (BL<|DK F j i) (hN<|BL<|DK F j i)<0:=by
 rcases a.inv.i0.place B6 (GK<|G3 h hj hi)with⟨q,h1,h2,h3,h4⟩|⟨h1,h2⟩
 .rw[a.no h hj hi q h1 h2]at h3;cases h3
 omega
def Kp(h:Aq n F=0){j}(hj:j<n){i}{d}(a:JW F j i d)(hi:i<nf F j){v}(b:J2 v=true):
  Ce hN d (BL<|DK F j i) v=IX hN d (BL<|DK F j i) v/\JW F j (i+1) (Ce hN d (BL<|DK F j i) v):=by
 have hky:=GK<|G3 h hj hi;have hv':v.ok=true/\v.kind≠0:=by simpa[J2]using b
 rcases IB h hj,a.live,a.turns with⟨hn,h1,h2⟩;refine⟨G8 (oS<|a.place h hj hi) ⟨hv'.2,om,om⟩,Jb B6 a.inv hky hky.1 hv'.1,λp hp=>?_,?_,?_⟩
 .rcases K9 B6 a.inv hky hky.1 hv'.1 with⟨q,a1,a2,a3,_⟩|⟨q,a1,a2,a3,_⟩|⟨a1,a2,a3,_⟩|⟨a1,a2,a3⟩
  all_goals grind [nf,hN,JW.keys]
 .rcases K9 B6 a.inv hky hky.1 hv'.1 with⟨q,a1,a2,a3,_⟩|⟨q,a1,a2,a3,_⟩|⟨a1,a2,a3,a4,a5⟩|⟨a1,a2,a3⟩
  all_goals omega
 rcases K9 B6 a.inv hky hky.1 hv'.1 with⟨q,a1,a2,a3,_⟩|⟨q,a1,a2,a3,_⟩|⟨a1,a2,a3,a4,a5⟩|⟨a1,a2,a3⟩
 all_goals omega
theorem Q3(h:Aq n F=0){j:Nat}(hj:j<n){W:Nat->Vl}(a:∀i,i<nf F j->J2 (W i)=true):∀i,i<=nf F j->JW F j i (AA F j W i)
 |0,_=>⟨Sq,λp hp=>by obtain⟨q,h1,_⟩:=hp;exact absurd h1<|Tn _,⟨AaC _,AaC _⟩,⟨AaC _,AaC _⟩⟩
 |i+1,hi=>(Kp h hj (Q3 h hj a i om) om<|a i om).2
def comeC_str{c}{k v}(h:BN Ky hN c)(a:k.kind=4)(hl:c.live<500):(Bx hN c k v).m=c.m:=by
 rw[Bx,Cs (λh=>by have h1:k.kind=2:=h.1;omega),Cs (λh=>by have h1:k.kind=2:=h.1;omega),XC];exact(Hb h hl).2.2.m
structure RB (F:Nat->A9) (j:Nat) (W:Nat->Vl) (i:Nat) (d:Dc):Prop where
 ls:JW F j i d
 n:d.n=i
 live:d.live=i
 turns:d.turns=i
 m:d.m=0
 L:∀q,q<i->d.L q=⟨BL<|DK F j q,W q,(q:Int)+1⟩
theorem FQ(h:Aq n F=0){j:Nat}(hj:j<n){W:Nat->Vl}(a:∀i,i<nf F j->J2 (W i)=true):∀i,i<=nf F j->RB F j W i (AA F j W i)
 |0,hi=>⟨Q3 h hj a 0 hi,rfl,rfl,rfl,rfl,λq hq=>absurd hq<|Tn _⟩
 |i+1,hi=>by
  have ih:=FQ h hj a i om;have hn:=IB h hj;obtain⟨e1,e2⟩:=Kp h hj ih.ls om<|a i om;have hky:=GK<|G3 h hj (show i<nf F j by omega);have hv':(W i).ok=true/\(W i).kind≠0:=by simpa[J2]using a i om
  have hc:Ap hN (AA F j W i)=AA F j W i:=C3<|.inr (by rw[ih.n,ih.live];omega);have e3:AA F j W (i+1)=Bx hN (AA F j W i) (BL<|DK F j i) (W i):=by
   show Ce hN _ _ _=_;rw[e1];show Bx hN (Ap hN<|AA F j W i) _ _=_;rw[hc]
  have hl:(AA F j W i).live<500:=by rw[ih.live];omega
  obtain⟨_,_,c3,c4,c5,c6⟩:=Jr B6 ih.ls.inv.i0 ih.ls.inv.next hky hky.1 hv'.1 hv'.2 (ih.ls.no h hj<|show i<nf F j by omega) hl (by rw[ih.turns];omega);refine⟨e2,by rw[e3,c3,ih.n],by rw[e3,c5,ih.live];push_cast;rfl,by rw[e3,c6,ih.turns];push_cast;rfl,by rw[e3,comeC_str ih.ls.inv.i0 rfl hl,ih.m],λq hq=>?_⟩;rw[e3,c4,ih.n,ih.turns];by_cases e:q=i
  .subst e;exact Au _ _ _
  rw[Ao _ _ e];exact ih.L q om
def MA:(prog.info? 197).map (·.size)=some 8:=ou
abbrev EM:Array Value:=#[N9,N9,N9,N9,J 0,J 0,J 0,.pointer none]
def Vg p A t(i:Nat)v{w}(hV:FA w A.va t.nv t.V)(hi:i<t.nv)(hn:t.nv<=12):
  C9 173 #[Cz p A t,J i,GR v] w λe w'=>(∃g cp,e=.returned (Cz p {A with va:=some (G g 0),vc:=cp}<|Gn t i v)/\BW w' w.heap.size (S9 g t.nv cp) t.nv (AX t.V i v))/\B9 w w':=by
 obtain⟨i0,L,M,P,Q⟩:=ON FO;obtain⟨C,off,r,R,S⟩:=hV.resolve_left om;obtain⟨va,vc,la,lc,ia,ic,xa,xc⟩:=A;have r:va=some (G C off):=r;subst r;show C9 173 #[iC p (some<|G C off) vc la lc ia ic xa xc t,J (i:Int),GR v] w _;obtain⟨W,hW,D,T,b0,b1,b2⟩:=gW w (.cells #[.slice (some<|G C off) t.nv vc,.slice la t.d.n lc,.slice ia t.d.m ic,.slice xa t.d.x xc,J t.d.used,J t.d.live,J t.d.turns,Q9 p] 197) (.cells (qe v) 43)<|.cells EM 197;have x0:W.cell? (y w 0)=some (.slice (some<|G C off) t.nv vc):=by simp[World.cell?,b0]
 have U:=O<|FA.news λi hi=>(S i hi).keep λq=>D.cell R;have E:=O<|qj b0<|qj b1 b2;have HF:Hid (∀g3 a w3,w3.ownsRow w.heap.size 43 5 (S9 g3 (0+t.nv) a) (0+t.nv) ([]++MO t.V t.nv)->W.grownBy w3 none->g3=w.heap.size+1+1+1->w3.heap[w.heap.size]?=W.heap[w.heap.size]?/\w.heap.size<w3.heap.size/\
   (BW (w3.setCell (y w 0)<|S9 g3 t.nv a) w.heap.size (S9 g3 t.nv a) t.nv t.V/\B9 w (w3.setCell (y w 0)<|S9 g3 t.nv a)/\
   (w3.setCell (y w 0)<|S9 g3 t.nv a).heap[w.heap.size]?=some (.cells #[S9 g3 t.nv a,.slice la t.d.n lc,.slice ia t.d.m ic,.slice xa t.d.x xc,J t.d.used,J t.d.live,J t.d.turns,Q9 p] 197 (0,0))/\
   (w3.setCell (y w 0)<|S9 g3 t.nv a).heap[w.heap.size+1]?=some (.cells (qe v) 43 (0,0))/\
   (w3.setCell (y w 0) (S9 g3 t.nv a)).heap[w.heap.size+1+1]?=some (.cells EM 197 (0,0)))):=O (by
  intro g3 a w3 h1 h2 h3;obtain⟨b0,b1,b2⟩:=z E;have hk:∀k,k<W.heap.size->w3.heap[k]?=W.heap[k]?:=λk hk=>h2.block k hk oq;have hz:=h2.size;have hb:=D;rw[We,Aad]at h1;have X:B9 w w3:=⟨h2.os.trans hb.os,h2.tape.trans hb.tape,h2.output.trans hb.output,GP hb.size h2.size,λk hk=>(h2.block k (A0 hk hb.size) oq).trans (hb.block k hk)⟩;refine⟨hk _ om,om,Ab h1 (λq e=>At _ _ _ _ (by cases e;show g3≠w.heap.size;omega)),X.setCell (Be _) _,(Lo _ _ _ _ _ _ ((hk _ om).trans b0)).trans oq,(At _ _ _ _ (by show w.heap.size+1≠w.heap.size;omega)).trans ((hk _ om).trans b1),(At _ _ _ _ (by show w.heap.size+1+1≠w.heap.size;omega)).trans ((hk _ om).trans b2)⟩)
 go_enter func173,ntmps173;go_upto_region 2 with(at_builtin;rw[<-hW];refine RC _ rfl _ _ 100 rfl w.heap.size 43 i0 (V 0 0 0 ⟨#[]⟩ 0) 5 48 underlying100 L M P Q rfl oo N9 0 [] rfl (NB _ _ _ _) (G C off) t.nv vc (MO t.V t.nv) rfl (Ir _ _) U (NH _ _) om od om om (w.heap.size+1+1+1) T ?_;intro g3 a w3 c o f ag;simp only[We];have s:g3=w.heap.size+1+1+1:=f.resolve_left (by simp[Value.ownBlock]);obtain⟨F,l0,h⟩:=z HF g3 a w3 c o s;have u:=O h;have j:=O s;clear c o f h s;have b0:=F.trans E.1;have x0:w3.cell? (y w 0)=some (.slice (some<|G C off) t.nv vc):=(by simp[World.cell?,b0]);have xf:w3.frozen? (y w 0)=false:=(by simp[World.frozen?,b0]);clear F b0)
 obtain⟨w4,H⟩:=o9<|w3.setCell (y w 0)<|S9 g3 t.nv a;rw[<-H]at u ⊢;clear H x0 xf;obtain⟨l,I,c0,c1,c2⟩:=z u;have x0:w4.cell? (y w 0)=some (S9 g3 t.nv a):=by simp[World.cell?,c0]
 have y0:w4.cell? (Y9 w 0)=some (J v.kind):=by simp[World.cell?,c1]
 have y1:w4.cell? (Y9 w 1)=some (J v.num):=by simp[World.cell?,c1]
 have y2:w4.cell? (Y9 w 2)=some (F9 v.Af):=by simp[World.cell?,c1]
 have y3:w4.cell? (Y9 w 3)=some (.string v.str):=by simp[World.cell?,c1]
 have y4:w4.cell? (Y9 w 4)=some (J v.ref):=by simp[World.cell?,c1]
 obtain⟨v0,v1,v2,v3,v4⟩:=BW.at l hi;have ah:∀q,w4.frozen? (G g3 q)=false:=λq=>by obtain⟨cur,hb,_⟩:=AV l rfl;simp[World.frozen?,hb]
 go_upto_region 3 with fail
 obtain⟨w5,b⟩:=o9<|((((w4.setCell (G g3<|i*5)<|J v.kind).setCell (G g3<|i*5+1)<|J v.num).setCell (G g3<|i*5+2)<|F9 v.Af).setCell (G g3<|i*5+3)<|.string v.str).setCell (G g3<|i*5+4)<|J v.ref;rw[<-b];have b:w5=Hd w4 g3 (i*5) v:=b;obtain⟨l,I,c0,c1,c2⟩:=z u;have Z:BW w5 w.heap.size (S9 g3 t.nv a) t.nv<|AX t.V i v:=by rw[b];exact BW.Hd l hi v
 have K:∀k,k≠g3->w5.heap[k]?=w4.heap[k]?:=λk hk=>by rw[b];exact D9 _ _ _ _ hk
 have ad:B9 w w5:=by
  rw[b];iterate 5 (refine NO ?_ (by show w.heap.size<=g3;have:=z j;omega) _)
  exact I
 have c0:=(K _<|oS<|z j).trans c0;have c2:=(K _<|oS<|z j).trans c2;have x0:w5.cell? (y w 0)=some (S9 g3 t.nv a):=by simp[World.cell?,c0]
 obtain⟨w6,ae,B⟩:=BM (v:=iC p (some<|G g3 0) a la lc ia ic xa xc t) (vs:=[S9 g3 t.nv a,.slice la t.d.n lc,.slice ia t.d.m ic,.slice xa t.d.x xc,J t.d.used,J t.d.live,J t.d.turns,Q9 p]) (old:=EM.toList) Eu c2 rfl rfl oh rfl;have af:g3≠w.heap.size+1+1:=oS<|z j;go_wp2_with (first|(refine Aal rfl 197 _ rfl w.heap.size rfl _ _ _ _ (z<|O c0) underlying197 rfl MA ?_)|(refine Ag rfl rfl _ (z<|O ae) ?_))
 refine FD results173 underlying197 B.Bw ⟨⟨g3,a,rfl,?_⟩,?_⟩
 .exact Ab Z λq e=>B.other q<|by cases e;exact af
 exact B.below ad om
section
open Go.RowKit Go.Shelf
section
variable {P:Program} {ops:Array Oper} {md:Region.Mode}
theorem Vh{o:Oper}{K i}(k:∀c,o.op≠.defer c)(h:∀a w,K a w->i a w)(b:o.wp P a w K<|QN Q):o.wpIn (Fence.wide.inRound l) n P a w i Q:=by
 unfold Oper.wp at b;refine⟨λ_ _=>trivial,?_⟩;show o.uponIn (Fence.wide.inRound l) n P a i Q ((o.semAt (some l) a.eval).run P w);rw[Oper.semAt_some l _ _ k];generalize (execOp a.eval o).run P w=r at*;cases r with
 |ok x w'=>
  cases x<;>simp only[Oper.upon]at b<;>simp only[Oper.uponIn]
  case value u=>exact h _ _ b
  case skip=>exact h _ _ b
  case defer d=>exact h _ _ b
  case enter f args=>
   refine⟨λb=>(by cases b),CallsIn.inRound l<|Aaa.2<|b.mono λe g j=>?_⟩;cases e with
   |returned v=>exact h _ _ j
   |panicked c=>exact False.elim j
   |outgrown=>exact absurd j QN.no
  case row row args=>
   refine⟨λb=>(by cases b),λc cs m=>?_⟩;obtain⟨v,g,r,s⟩:=b c cs;exact⟨v,g,h _ _ r,stepsIn_wide.2 s⟩
 |halt x w'=>cases x<;>simp only[Oper.upon]at b<;>exact False.elim b
def Nj{K c}(f:Fe ops=true)(h:∀a w,K a w->c a w)(b:wpOp P ops (QN Q) i K a w):wpOpIn (Fence.wide.inRound l) n P ops Q i c a w:=by
 unfold wpOp at b;rw[wpOpIn];split
 .grind [QN]
 rename_i o d
 simp only[d]at b;split
 .grind [Fe,QN,Vh,QN.no]
 rename_i e;simp only[e]at b;exact⟨λ_ _=>trivial,h _ _ b⟩
theorem IG(b:Fe ops=true):∀(fuel:Nat) (listed:Array Bool) (a:Act) (w:Y),wpAny P md ops (QN Q) fuel listed a w->wpAnyIn (Fence.wide.inRound l) n P md ops Q fuel listed a w
 |0,_,_,_,h=>h
 |fuel+1,_,_,_,h=>⟨h.1,λi hi=>Nj b (λa' w' h'=>IG b fuel _ a' w' h')<|h.2 i hi⟩
def PM{id}S(b:P.follows .mixedOrders=true)(c:Fe ops=true)(h:wpAnyH P .any ops (QN Q) S ops.size (Array.replicate ops.size false) a {w with drawn:=w.drawn+1}):(Code.region id ops true).wpIn (Fence.wide.inRound l) n P Q a w:=
 wpIn_region_any b (IG c _ _ _ _<|wpAny_of_held _ _ _ _ h)
def PN{id}S(b:P.follows .mixedOrders=true)(h:wpAnyH P .any ops (QN Q) S ops.size (Array.replicate ops.size false) a {w with drawn:=w.drawn+1}):(Code.region id ops true).wpIn Fence.wide n P Q a w:=
 wpIn_wide.2 (Dr S b h)
end
end
def GN(f:Nat->Option Addr):Nat->List Value
 |0=>[]
 |k+1=>GN f k++[.pointer (f k)]
theorem CR f n:(GN f n).length=n:=by
 induction n with
 |zero=>rfl
 |succ n ih=>simp[GN,ih]
theorem K6(hi:i<n):(GN f n)[i]?=some (.pointer<|f i):=by
 induction n with
 |zero=>omega
 |succ n ih=>
  show(GN f n++[.pointer (f n)])[i]?=_;by_cases h:i<n
  .rw[Aat (by rw[CR];omega),ih h]
  have:i=n:=om;subst this;rw[AaG (by rw[CR];omega),CR];simp
def Ny(hl:xs.length=n)(h:∀i,i<n->xs[i]?=some (.pointer<|f i)):xs=GN f n:=by
 apply AaS;grind [K6,CR]
theorem L7{g}(h:∀i,i<n->f i=g i):GN f n=GN g n:=Ny (CR f n) λi hi=>by rw[K6 hi,h i hi]
theorem kP f n i a(hi:i<n):(GN f n).set i (.pointer a)=GN (AU f i a) n:=by
 refine Ny (by rw[List.length_set,CR]) λq hq=>?_;grind [AU,CR,K6]
theorem Uy f n a:GN f n++[.pointer a]=GN (AU f n a) (n+1):=by
 grind [GN,AU,L7]
theorem dZ f n j(h:j<=n):(GN f n).take j=GN f j:=by
 refine Ny (by rw[List.length_take,CR];omega) λq hq=>?_;grind [K6]
abbrev Df:TypeId:=289
abbrev U2:TypeId:=304
abbrev Rw(w:Y)(B:Nat)(t:TypeId)(v:V9)(n:Nat)(f:Nat->Option Addr):Prop:=w.ownsRow B t 1 v n<|GN f n
def Rw.form(h:Rw w B t v n f)(hn:0<n):∃g a,v=S9 g n a/\B<=g/\g<w.heap.size/\n<=a/\(∀i,i<n->w.cell? (G g i)=some (.pointer<|f i))/\∀q,w.frozen? (G g q)=false:=by
 have h':=h;obtain⟨hl,⟨b,d⟩|⟨g,cap,cur,b,hb,c,h1,h2,h3,h4⟩⟩:=h'
 .omega
 subst b;exact⟨g,cap,rfl,hb,(h.lt g rfl).2,h1,λi hi=>by rw[Ok h _ om,K6 hi],λq=>World.ownsRow.frozenAt h q⟩
def Rw.slice(h:Rw w B t v n f):∃a b,v=.slice a n b:=by
 obtain⟨hl,⟨c,d⟩|⟨g,cap,cur,c,_⟩⟩:=h;all_goals grind
def Rw.set(h:Rw w B t (S9 g n b) n f){i}(hi:i<n)a:Rw (w.setCell (G g i)<|.pointer a) B t (S9 g n b) n<|AU f i a:=by
 have h1:=(X0 h i<|.pointer a).1;grind [kP]
def Rw.cut(h:Rw w B t (S9 g n b) n f){j}(hj:j<=n):Rw w B t (S9 g j b) j f:=by
 obtain⟨hl,⟨c,d⟩|⟨g',cap,cur,c,hb,a,h1,h2,h3,h4⟩⟩:=h
 .cases c
 cases c;refine⟨by rw[CR];omega,.inr ⟨g,b,cur,rfl,hb,a,om,h2,h3,?_⟩⟩;have:cur.toList.take (j*1)=(cur.toList.take<|n*1).take j:=by rw[List.take_take];congr 1;omega
 grind [dZ]
theorem Rw.congr{g}(h:Rw w B t v n f)(e:∀i,i<n->g i=f i):Rw w B t v n g:=by
 grind [GN,L7]
theorem Db.own{R}(h:Db w R n t f)(a:B<=R)(hn:n<=4194304):Rw w B t (S9 R n n) n f:=by
 obtain⟨g,⟨c,hb,hs,hc⟩,b⟩:=h;refine⟨by rw[CR];omega,.inr ⟨R,n,c,rfl,a,hb,Be _,od,om,?_⟩⟩;refine Ny (by rw[List.length_take,Array.length_toList];omega) λi hi=>?_;grind
def Br{c e}{t'}{fr a}(h:w.heap[b]?=some (.cells c t fr))(h':w.heap[b]?=some (.cells e t' a))(d:t≠t'):False:=by
 rw[h]at h';cases h';exact d rfl
def Rw.block(h:Rw w B t v n f)(e:v.ownBlock=some b):∃c,w.heap[b]?=some (.cells c t (0,0)):=by
 obtain⟨hl,⟨d,i⟩|⟨g,cap,cur,d,hb,a,_⟩⟩:=h
 .subst d;cases e
 subst d;have e':g=b:=oF e;subst e';exact⟨cur,a⟩
def T3{size}{row}(h:w.ownsRow B e size v n xs)(c:w.grownBy w3 row)(d:∀b,row=some b->v.ownBlock≠some b):w3.ownsRow B e size v n xs:=by
 cases a:v.ownBlock with
 |none=>exact h.kept c<|.inl a
 |some b=>exact h.kept c<|.inr<|by rw[a];intro e;exact d b e.symm a
structure AG (w:Y) (bk:Nat) (r0 r1:V9) (R2:Nat) (E S:Nat->Nat) (d:Dc):Prop where
 lt:bk<w.heap.size
 c0:w.cell? (G bk 0)=some r0
 c1:w.cell? (G bk 1)=some r1
 c2:w.cell? (G bk 2)=some Oq
 c3:w.cell? (G bk 3)=some (S9 R2 d.x d.x)
 c4:w.cell? (G bk 4)=some (J d.used)
 c5:w.cell? (G bk 5)=some (J d.live)
 c6:w.cell? (G bk 6)=some (J d.turns)
 fz:∀q,w.frozen? (G bk q)=false
 log:Rw w (bk+1) Df r0 d.n λi=>some<|G (E i) 0
 ints:Rw w (bk+1) Df r1 d.m λi=>CG E<|d.I i
 rf:∃a k1,r1=S9 a d.m k1
 slots:Rw w (bk+1) U2 (S9 R2 d.x d.x) d.x λj=>DB S j<|d.X j
 ap:∀q,r0.ownBlock=some q->r1.ownBlock≠some q
 Cw:∀i,i<d.n->BC w (E i) (d.L i) i
 eb:∀i,i<d.n->bk<E i
 inj:∀i j,i<d.n->j<d.n->E i=E j->i=j
 sl:∀j,j<d.x->DC w E S d j
 sg:∀j,j<d.x->d.X j≠0->bk<S j
def AG.X1{a}(h:JN w bk a b R2 E S d)(s:Vu w B bk a b R2 E S d)(c:Small d):AG w bk (S9 a d.n d.n) (S9 b d.m d.m) R2 E S d:=
 ⟨h.lt,s.e0,s.e1,h.c2,h.c3,h.c4,h.c5,h.c6,s.fz,s.o0.own s.g0 c.n,s.o1.own s.g1 c.m,⟨_,_,rfl⟩,s.o2.own s.g2 c.x,λq e e'=>by
  have e1:a=q:=oF e;have e2:b=q:=oF e';exact s.wE (e1.trans e2.symm),h.Cw,s.gE,h.inj,h.sl,λj hj f=>Nat.lt_trans s.g2 (s.gS j hj f)⟩
def AG.Ph(h:AG w bk r0 r1 R2 E S d):bk<R2/\R2<w.heap.size:=h.slots.lt R2 rfl
def AG.book(h:AG w bk r0 r1 R2 E S d):∃l b,JN w bk l b R2 E S d:=by
 obtain⟨b,k1,e1⟩:=h.rf;have c:=h.ints.lt b<|qh e1;have hi:∀i,i<d.m->w.cell? (G b i)=some (.pointer<|CG E<|d.I i):=λi hi=>by
  obtain⟨g,f,e,_,_,_,hc,_⟩:=h.ints.form om;rw[e1]at e;cases e;exact hc i hi
 have k:∀j,j<d.x->w.cell? (G R2 j)=some (.pointer<|DB S j<|d.X j):=λj hj=>by
  obtain⟨g,f,e,_,_,_,hc,_⟩:=h.slots.form om;cases e;exact hc j hj
 by_cases hn:0<d.n
 .obtain⟨g,f,e,o,hl,_,hc,_⟩:=h.log.form hn;refine⟨g,b,h.lt,⟨_,_,by rw[h.c0,e],λ_=>rfl⟩,⟨k1,by rw[h.c1,e1]⟩,h.c2,h.c3,h.c4,h.c5,h.c6,hc,h.Cw,h.inj,hi,k,h.sl,hl,c.2,h.Ph.2⟩
 obtain⟨a,f,e⟩:=h.log.slice;exact⟨bk,b,h.lt,⟨_,_,by rw[h.c0,e],λh'=>absurd h' hn⟩,⟨k1,by rw[h.c1,e1]⟩,h.c2,h.c3,h.c4,h.c5,h.c6,λi hi=>om,h.Cw,h.inj,hi,k,h.sl,h.lt,c.2,h.Ph.2⟩
def DC.keep(h:DC w E S d j)(hs:w.heap.size<=w'.heap.size)(e:∀c,w.heap[S j]?=some (.cells c 306 (0,0))->w'.heap[S j]?=w.heap[S j]?):DC w' E S d j:=
 ⟨λhp=>(h.1 hp).keep hs<|e _ (h.1 hp).ob,λhp=>(h.2 hp).keep hs<|e _ (h.2 hp).ob⟩
def AG.below(h:AG w bk r0 r1 R2 E S d)(hb:B9 w w'):AG w' bk r0 r1 R2 E S d:=by
 have e:∀q,w'.cell? (G bk q)=w.cell? (G bk q):=λq=>hb.cell h.lt;exact⟨A0 h.lt hb.size,(e _).trans h.c0,(e _).trans h.c1,(e _).trans h.c2,(e _).trans h.c3,(e _).trans h.c4,(e _).trans h.c5,(e _).trans h.c6,λq=>(hb.frozen h.lt).trans<|h.fz q,C0 h.log hb.size λq _ hq=>hb.block q hq,C0 h.ints hb.size λq _ hq=>hb.block q hq,h.rf,C0 h.slots hb.size λq _ hq=>hb.block q hq,h.ap,λi hi=>(h.Cw i hi).keep hb.size<|hb.block _ (h.Cw i hi).lt,h.eb,h.inj,λj hj=>(h.sl j hj).keep hb.size λc hc=>hb.block _ (E1.1 hc).1,h.sg⟩
def AG.of_same{E'}{e}(h:AG w bk r0 r1 R2 E S d)(n:e.n=d.n)(m:e.m=d.m)(x:e.x=d.x)(u:e.used=d.used)(l:e.live=d.live)(t:e.turns=d.turns)(I:∀i,i<d.m->e.I i=d.I i)(X:∀j,j<d.x->e.X j=d.X j)
  (L:∀i,i<d.n->e.L i=d.L i) (a:∀i,i<d.n->E' i=E i) (c:∀i,i<d.m->d.I i<=d.n) (f:∀j,j<d.x->d.X j<=d.n):AG w bk r0 r1 R2 E' S e:=by
 have eP:∀p:Int,p<=d.n->CG E' p=CG E p:=λp hp=>by
  unfold CG;by_cases b:0<p
  .rw[C3 b,C3 b,a _ om]
  rw[Cs b,Cs b]
 refine⟨h.lt,h.c0,h.c1,h.c2,by rw[x];exact h.c3,by rw[u];exact h.c4,by rw[l];exact h.c5,by rw[t];exact h.c6,h.fz,?_,?_,by rw[m];exact h.rf,?_,h.ap,λi hi=>?_,λi hi=>?_,λi j hi hj=>?_,λj hj=>?_,λj hj b=>h.sg j om<|by rw[<-X j om];exact b⟩
 .rw[n];exact h.log.congr λi hi=>by rw[a i hi]
 .rw[m];exact h.ints.congr λi hi=>by rw[I i hi,eP _ (c i hi)]
 .rw[x];exact h.slots.congr λj hj=>by rw[X j hj]
 .rw[n]at hi;rw[a i hi,L i hi];exact h.Cw i hi
 .rw[n]at hi;rw[a i hi];exact h.eb i hi
 .rw[n]at hi hj;rw[a i hi,a j hj];exact h.inj i j hi hj
 rw[x]at hj;have hs:=h.sl j hj;unfold DC at hs ⊢;grind
section
variable {w:Y} {bk:Nat} {r0 r1:V9} {R2:Nat} {E S:Nat->Nat} {d:Dc}
theorem AG.DK(h:AG w bk r0 r1 R2 E S d){q}{u:V9}{g s1:V9}{k}{S'}{e}
  (g0:(w.setCell (G bk q) u).cell? (G bk 0)=some g) (g1:(w.setCell (G bk q) u).cell? (G bk 1)=some s1) (g2:(w.setCell (G bk q) u).cell? (G bk 2)=some Oq) (g3:(w.setCell (G bk q) u).cell? (G bk 3)=some (S9 k e.x e.x))
  (g4:(w.setCell (G bk q) u).cell? (G bk 4)=some (J e.used)) (g5:(w.setCell (G bk q) u).cell? (G bk 5)=some (J e.live)) (g6:(w.setCell (G bk q) u).cell? (G bk 6)=some (J e.turns))
  (l:Rw w (bk+1) Df g e.n λi=>some<|G (E i) 0) (i:Rw w (bk+1) Df s1 e.m λi=>CG E<|e.I i) (rf:∃r k1,s1=S9 r e.m k1) (x:Rw w (bk+1) U2 (S9 k e.x e.x) e.x λj=>DB S' j<|e.X j) (ap:∀q,g.ownBlock=some q->s1.ownBlock≠some q)
  (en:∀i,i<e.n->BC w (E i) (e.L i) i) (eb:∀i,i<e.n->bk<E i) (inj:∀i j,i<e.n->j<e.n->E i=E j->i=j) (sl:∀j,j<e.x->DC w E S' e j) (o:∀j,j<e.x->e.X j≠0->bk<S' j):AG (w.setCell (G bk q) u) bk g s1 k E S' e:=by
 have ob:∀b,b≠bk->(w.setCell (G bk q) u).heap[b]?=w.heap[b]?:=λb hb=>At _ _ _ _ (by exact hb);have nb:∀{v:V9} {n:Nat} {f:Nat->Option Addr} {t:TypeId},Rw w (bk+1) t v n f->v.ownBlock≠some bk:=λs e=>oS (s.lt bk e).1;have a:w.heap.size<=(w.setCell (G bk q) u).heap.size:=oq;refine⟨by simpa using h.lt,g0,g1,g2,g3,g4,g5,g6,λp=>by rw[PC];exact h.fz p,AaK l (Cx w _ _)<|.inr<|nb l,AaK i (Cx w _ _)<|.inr<|nb i,rf,AaK x (Cx w _ _)<|.inr<|nb x,ap,λi hi=>(en i hi).keep a<|ob _<|oS<|eb i hi,eb,inj,λj hj=>?_,o⟩;by_cases A:e.X j=0
 .grind [DB,DC]
 exact(sl j hj).keep a λc _=>ob _<|oS<|o j hj A
def AG.Ld(h:AG w bk r0 r1 R2 E S d)u:AG (w.setCell (G bk 4)<|J u) bk r0 r1 R2 E S {d with used:=u}:=
 h.DK ((Aa oo).trans h.c0) ((Aa oo).trans h.c1) ((Aa oo).trans h.c2) ((Aa oo).trans h.c3) (I9 _ _ _<|by rw[h.c4];rfl) ((Aa oo).trans h.c5) ((Aa oo).trans h.c6) h.log h.ints h.rf h.slots h.ap h.Cw h.eb h.inj h.sl h.sg
def AG.Im(h:AG w bk r0 r1 R2 E S d)u:AG (w.setCell (G bk 5)<|J u) bk r0 r1 R2 E S {d with live:=u}:=
 h.DK ((Aa oo).trans h.c0) ((Aa oo).trans h.c1) ((Aa oo).trans h.c2) ((Aa oo).trans h.c3) ((Aa oo).trans h.c4) (I9 _ _ _<|by rw[h.c5];rfl) ((Aa oo).trans h.c6) h.log h.ints h.rf h.slots h.ap h.Cw h.eb h.inj h.sl h.sg
def AG.Pt(h:AG w bk r0 r1 R2 E S d)u:AG (w.setCell (G bk 6)<|J u) bk r0 r1 R2 E S {d with turns:=u}:=
 h.DK ((Aa oo).trans h.c0) ((Aa oo).trans h.c1) ((Aa oo).trans h.c2) ((Aa oo).trans h.c3) ((Aa oo).trans h.c4) ((Aa oo).trans h.c5) (I9 _ _ _<|by rw[h.c6];rfl) h.log h.ints h.rf h.slots h.ap h.Cw h.eb h.inj h.sl h.sg
def AG.SC(h:AG w bk r0 r1 R2 E S d){u}{m}{I}(i:Rw w (bk+1) Df u m λi=>CG E<|I i)(rf:∃a k1,u=S9 a m k1)(ap:∀q,r0.ownBlock=some q->u.ownBlock≠some q):AG (w.setCell (G bk 1) u) bk r0 u R2 E S {d with m:=m,I:=I}:=
 h.DK ((Aa oo).trans h.c0) (I9 _ _ _<|by rw[h.c1];rfl) ((Aa oo).trans h.c2) ((Aa oo).trans h.c3) ((Aa oo).trans h.c4) ((Aa oo).trans h.c5) ((Aa oo).trans h.c6) h.log i rf h.slots ap h.Cw h.eb h.inj h.sl h.sg
def AG.eV(h:AG w bk r0 r1 R2 E S d){a x}{X}(i:Rw w (bk+1) U2 (S9 a x x) x λj=>DB S j<|X j)(sl:∀j,j<x->DC w E S {d with x:=x,X:=X} j)(sg:∀j,j<x->X j≠0->bk<S j):AG (w.setCell (G bk 3)<|S9 a x x) bk r0 r1 a E S {d with x:=x,X:=X}:=
 h.DK ((Aa oo).trans h.c0) ((Aa oo).trans h.c1) ((Aa oo).trans h.c2) (I9 _ _ _<|by rw[h.c3];rfl) ((Aa oo).trans h.c4) ((Aa oo).trans h.c5) ((Aa oo).trans h.c6) h.log h.ints h.rf i h.ap h.Cw h.eb h.inj sl sg
theorem AG.row(h:AG w bk r0 r1 R2 E S d){g q}{u:V9}(f:bk<g){e}(a:e.x=d.x)(hu:e.used=d.used)(hl:e.live=d.live)(b:e.turns=d.turns)(c:e.m=d.m)
  (l:Rw (w.setCell (G g q) u) (bk+1) Df r0 e.n λi=>some<|G (E i) 0) (i:Rw (w.setCell (G g q) u) (bk+1) Df r1 e.m λi=>CG E<|e.I i) (x:Rw (w.setCell (G g q) u) (bk+1) U2 (S9 R2 e.x e.x) e.x λj=>DB S j<|e.X j)
  (en:∀i,i<e.n->BC (w.setCell (G g q) u) (E i) (e.L i) i) (eb:∀i,i<e.n->bk<E i) (inj:∀i j,i<e.n->j<e.n->E i=E j->i=j) (sl:∀j,j<e.x->DC (w.setCell (G g q) u) E S e j) (sg:∀j,j<e.x->e.X j≠0->bk<S j):AG (w.setCell (G g q) u) bk r0 r1 R2 E S e:=by
 have hc:∀p,(w.setCell (G g q) u).cell? (G bk p)=w.cell? (G bk p):=λp=>Al om;exact⟨by simpa using h.lt,(hc _).trans h.c0,(hc _).trans h.c1,(hc _).trans h.c2,by rw[a];exact(hc _).trans h.c3,by rw[hu];exact(hc _).trans h.c4,by rw[hl];exact(hc _).trans h.c5,by rw[b];exact(hc _).trans h.c6,λp=>by rw[PC];exact h.fz p,l,i,by rw[c];exact h.rf,x,h.ap,en,eb,inj,sl,sg⟩
def T4(h:Rw w B t v n f)(a:v.ownBlock≠some g):Rw (w.setCell (G g q) u) B t v n f:=AaK h (Cx w _ _)<|.inr a
def AG.Zr{a k1}(h:AG w bk r0 (.slice (some<|G a 0) d.m k1) R2 E S d){i}(hi:i<d.m)x:AG (w.setCell (G a i)<|.pointer<|CG E x) bk r0 (.slice (some<|G a 0) d.m k1) R2 E S {d with I:=AU d.I i x}:=by
 rcases h.ints.lt a rfl,h.ints.block rfl,h.slots.block rfl with⟨g,⟨c1,f⟩,⟨c2,k⟩⟩;have l:∀i,i<d.n->E i≠a:=λj hj e=>Br (e▸(h.Cw j hj).ob) f oo;have ob:∀b,b≠a->(w.setCell (G a i)<|.pointer<|CG E x).heap[b]?=w.heap[b]?:=λb hb=>At _ _ _ _ (by exact hb);refine h.row g.1 rfl rfl rfl rfl rfl (T4 h.log λe=>h.ap a e rfl) ?_ (T4 h.slots λe=>?_) (λj hj=>(h.Cw j hj).keep oq<|ob _<|l j hj) h.eb h.inj (λj hj=>?_) h.sg
 .refine(h.ints.set hi<|CG E x).congr λj hj=>?_;grind [AU,Au]
 .have e':R2=a:=oF e;grind [AU]
 refine(h.sl j hj).keep oq λc hc=>ob _ λe=>?_;grind [AU]
def AG.Uz(h:AG w bk r0 r1 R2 E S d){j}(hj:j<d.x){x}(C:x≠0){A}(t:(0<x->A=fK (d.L (x-1).toNat).key (E (x-1).toNat))/\(x<0->A=XI)):
  AG ((w.setCell (G R2 j)<|.pointer<|some<|G w.heap.size 0).alloc<|.cells A 306) bk r0 r1 R2 E (AU S j w.heap.size) {d with X:=AU d.X j x}:=by
 rcases h.Ph,h.slots.block rfl,h.lt,o9 ((w.setCell (G R2 j)<|.pointer<|some<|G w.heap.size 0).alloc<|.cells A 306) with⟨I,⟨c2,l⟩,m,⟨W,g⟩⟩;rw[<-g];have D:W.heap.size=w.heap.size+1:=by rw[g];simp
 have ob:∀b,b<w.heap.size->b≠R2->W.heap[b]?=w.heap[b]?:=λb hb o=>by rw[g];exact(DO _ _ _<|by simpa using hb).trans (At _ _ _ _<|by exact o)
 have a:W.heap[w.heap.size]?=some (.cells A 306 (0,0)):=by
  rw[g];simpa using (DD (w.setCell (G R2 j)<|.pointer<|some<|G w.heap.size 0)<|.cells A 306)
 have gr:w.grownBy W<|some R2:=⟨qh g,qh g,qh g,om,λk hk r=>ob k hk λe=>r<|by rw[e]⟩;have hc:∀p,W.cell? (G bk p)=w.cell? (G bk p):=λp=>As<|ob bk m om;have u:∀{v:V9} {n:Nat} {f:Nat->Option Addr},Rw w (bk+1) Df v n f->Rw W (bk+1) Df v n f:=λ{v n f} B=>T3 B gr (λb e e'=>by
  cases e;obtain⟨c,hb⟩:=B.block e';exact Br l hb oo)
 have F:∀i,i<d.n->E i≠R2:=λi hi e=>Br (e▸(h.Cw i hi).ob) l oo;refine⟨om,(hc _).trans h.c0,(hc _).trans h.c1,(hc _).trans h.c2,(hc _).trans h.c3,(hc _).trans h.c4,(hc _).trans h.c5,(hc _).trans h.c6,λq=>(ID<|ob bk m om).trans<|h.fz q,u h.log,u h.ints,h.rf,?_,h.ap,λi hi=>(h.Cw i hi).keep om<|ob _ (h.Cw i hi).lt<|F i hi,h.eb,h.inj,λi hi=>?_,λi hi H=>?_⟩
 .have hs:=(h.slots.set hj<|some<|G w.heap.size 0).alloc<|.cells A 306;rw[<-g]at hs;refine Rw.congr hs λi hi=>?_;show DB (AU S j w.heap.size) i (AU d.X j x i)=AU (λj=>DB S j<|d.X j) j (some<|G w.heap.size 0) i;by_cases e:i=j
  .subst e;rw[Au,Au];rw[DB,Cs C,Au]
  rw[Ao _ _ e,Ao _ _ e];simp only[DB,Ao _ _ e]
 .show(0<AU d.X j x i->Iy W (AU S j w.heap.size i) (d.L (AU d.X j x i-1).toNat).key (E (AU d.X j x i-1).toNat))/\(AU d.X j x i<0->Qy W (AU S j w.heap.size i));by_cases e:i=j
  .subst e;rw[Au,Au];refine⟨λhp=>?_,λhp=>?_⟩
   .have hA:=t.1 hp;subst hA;exact⟨om,by simp[World.cell?,a],by simp[World.cell?,a],by simp[World.cell?,a],by simp[World.cell?,a],by simp[World.cell?,a],by simp[World.cell?,a],by simp[World.cell?,a],a⟩
   have hA:=t.2 hp;subst hA;exact⟨om,by simp[World.cell?,a],a⟩
  rw[Ao _ _ e,Ao _ _ e];have hk:=(h.sl i hi).keep om λc hc=>ob _ (E1.1 hc).1 (λe'=>by rw[e']at hc;exact Br hc l oo);exact hk
 by_cases e:i=j
 .subst e;rw[Au];exact m
 rw[Ao _ _ e];exact h.sg i hi (by have s:AU d.X j x i≠0:=H;rwa [Ao _ _ e]at s)
end
def Ma:List Value->Nat->List Value->List Value
 |xs,_,[]=>xs
 |xs,q,u::us=>Ma (xs.set q u) (q+1) us
def He(g:Nat):World->Nat->List Value->World
 |w,_,[]=>w
 |w,q,u::us=>He g (w.setCell (G g q) u) (q+1) us
def UN:∀(us xs) (q j),q+us.length<=xs.length->(Ma xs q us)[j]?=if q<=j/\j<q+us.length then us[j-q]? else xs[j]?:=by
 intro us
 induction us with
 |nil=>intro xs q j _;rw[Cs oq];rfl
 |cons u us ih=>
  intro xs q j h;simp only[Aae]at h ⊢;show(Ma (xs.set q u) (q+1) us)[j]?=_;rw[ih _ _ _ ot,List.getElem?_set];by_cases e:j=q
  .subst e;rw[Cs om,C3 rfl,C3 om,C3 om,Nat.sub_self];rfl
  by_cases e2:q+1<=j/\j<q+1+us.length
  .rw[C3 e2,C3 om];obtain⟨i,hi⟩:∃i,j-q=i+1:=⟨j-q-1,om⟩;rw[hi,show j-(q+1)=i by omega];rfl
  rw[Cs e2,Cs (λe'=>e e'.symm),Cs om]
def Us{size cap}:∀(us) (w) (q) (xs),w.ownsRow B e size (S9 g n cap) n xs->(He g w q us).ownsRow B e size (S9 g n cap) n (Ma xs q us):=by
 intro us
 induction us with
 |nil=>intro w q xs h;exact h
 |cons u us ih=>intro w q xs h;exact ih _ _ _ (X0 h q u).1
def Pu:∀(us) (w) (q b),b≠g->(He g w q us).heap[b]?=w.heap[b]?:=by
 intro us
 induction us with
 |nil=>intro w q b _;rfl
 |cons u us ih=>intro w q b hb;exact(ih _ _ _ hb).trans (At _ _ _ _<|by exact hb)
def Rl:∀(us) (w) (q),(He g w q us).heap.size=w.heap.size/\(He g w q us).os=w.os/\(He g w q us).tape=w.tape/\(He g w q us).output=w.output:=by
 intro us
 induction us with
 |nil=>intro w q;exact⟨rfl,rfl,rfl,rfl⟩
 |cons u us ih=>intro w q;obtain⟨h1,h2,h3,h4⟩:=ih (w.setCell (G g q) u)<|q+1;exact⟨h1.trans oq,h2,h3,h4⟩
def kH f{n}i a us p(hi:i<n)(b:a+us.length<=11)(hp:∀j,(De p)[j]?=if a<=j/\j<a+us.length then us[j-a]? else(De<|f i)[j]?):Ma (pL f n) (i*11+a) us=pL (AU f i p) n:=by
 apply AaS;intro q;rw[UN _ _ _ _ (by rw[DN];omega)];by_cases hq:q<n*11
 .have e1:q=q/11*11+q%11:=om;grind [De,Ma,pL,AU,L5,Au,Ao]
 grind [De,Ma,pL,AU,DN]
def DX(d:Dc):Prop:=8<=d.n/\2*d.live<(d.n:Int)
def MB(b:AG w bk r0 r1 R2 E S d)(g:Small d)(hl:0<=d.live)(i:d.live<=500):
  C9 214 #[Q9 bk] w (R9 (.bool<|tells<|DX d) w):=by
 obtain⟨a,l,rfl⟩:=b.log.slice;rcases b.c0,b.c5,b.lt,g.n with⟨c0,c5,j,hn⟩;clear b g;by_cases k:(8:Int)<=d.n
 case neg=>
  have c:=O<|Ae (p:=DX d) λh=>k<|oS h.1;have e:decide ((8:Int)<=d.n)=false:=ot;go_enter func214,ntmps214;go_wp2
  go_region
  go_wp2;go_ret;exact⟨qg c,(BE _ _).drew⟩
 have e:decide ((8:Int)<=d.n)=true:=ot;by_cases h2:2*d.live<(d.n:Int)
 focus
  have c:=O<|Aj (p:=DX d) ⟨om,h2⟩;have f:decide (2*d.live<(d.n:Int))=true:=ot
 rotate_left
 focus
  have c:=O<|Ae (p:=DX d) λh=>h2 h.2;have f:decide (2*d.live<(d.n:Int))=false:=ot
 all_goals
  go_enter func214,ntmps214;go_wp2
  go_region
  go_wp2;go_ret;exact⟨qg c,(BE _ _).drew⟩
def Qb(n:Nat)w(hn:n<=500):
  C9 235 #[J n] w (R9 (J ((if n=0 then 0 else Ck n:Nat):Int)) w):=by
 by_cases e:n=0
 .subst e;go_enter func235,ntmps235;go_wp2;go_ret;exact⟨rfl,BE _ _⟩
 have j:Hid<|(if n=0 then 0 else Ck n:Nat)=CS 9 8 (4*n):=O<|Cs e;have f:((n:Int)==0)=false:=ot;go_enter func235,ntmps235;go_wp2;go_loopw [3] (λi wr=>∃(k s:Nat),k<=9/\i=J (s:Int)/\s<=4000/\8<=s/\2000<=s*2^k/\CS 9 8 (4*n)=CS k s (4*n)/\B9 w wr) λi _=>4000-(intOf i).toNat
 .exact⟨9,8,om,rfl,om,om,oo,rfl,BE _ _⟩
 obtain⟨k,s,hk,rfl,hs,g,h2,b,hb⟩:=hrel;by_cases a:s<4*n
 .obtain⟨k',rfl⟩:∃k',k=k'+1:=⟨k-1,by
   cases k with
   |zero=>simp at h2;omega
   |succ k=>omega⟩
  have c:=O<|b.trans<|C3 a;have h:Hid<|2000<=2*s*2^k':=O (by rw[Aax]at h2;calc 2000<=s*(2^k'*2):=h2
   _=2*s*2^k':=by rw[AaL (2^k') 2,<-Re,AaL s 2])
  have d:=O hb;clear b h2 hb;go_wp2;go_roundw
  .exact⟨k',2*s,om,ov,om,om,h,c,d⟩
  exact ow
 have c:Hid<|CS 9 8 (4*n)=s:=O (b.trans (by cases k with
  |zero=>rfl
  |succ k=>exact Cs a))
 have d:=O hb;clear b h2 hb;go_wp2;go_ret;exact⟨by rw[show Ck n=s from z c];rfl,d⟩
def Qe(w:Y)(b q:Nat):Nat:=match w.cell? (G b q)with
 |some (.slice _ n _)=>n
 |_=>0
def Nr{a}(h:w.cell? (G b q)=some (.slice a n c)):Qe w b q=n:=by unfold Qe;rw[h]
def Qq q{w}(a:AG w bk r0 r1 R2 E S d)(t:Small d)(hq:q<d.m)(v:∀j,j<d.m->0<=d.I j):
  C9 212 #[Q9 bk,J ((q)+1)] w λe w'=>((∃u,e=.returned u)/\∃l,AG w' bk r0 l R2 E S {d with m:=shrink (AU d.I q 0) d.m,I:=AU d.I q 0})/\Below bk w w':=by
 obtain⟨c,k1,rfl⟩:=a.rf;rcases t.m,a.c1,a.ints.lt c rfl with⟨x,c1,D⟩;obtain⟨g,F,e,_,_,A,hc,hf⟩:=a.ints.form om;cases e;have d0:=hc q hq;have f0:=hf q;have n:∀j,j<d.m->0<=AU d.I q 0 j:=λj hj=>by
  by_cases e:j=q
  .subst e;rw[Au];exact AaC _
  rw[Ao _ _ e];exact v j hj
 have f:=a.Zr hq 0;have qG:CG E 0=none:=Cs oo;rw[qG]at f;have o:Below bk w<|w.setCell (G c q)<|.pointer none:=(BE _ _).setCell (by show bk<=c;omega) _;go_enter func212,ntmps212;go_wp2;go_loopw [11] (λ_ wr=>∃k:Nat,k<=d.m/\AG wr bk r0 (S9 c k k1) R2 E S {d with m:=k,I:=AU d.I q 0}/\Below bk w wr/\shrink (AU d.I q 0) d.m=shrink (AU d.I q 0) k) λ_ wr=>Qe wr bk 1
 .exact⟨d.m,Be _,f,o,rfl⟩
 obtain⟨k,hk,a,p,b⟩:=hrel;have c1:=a.c1;have f1:=a.fz 1;cases k with
 |zero=>
  have h:Hid<|shrink (AU d.I q 0) d.m=0:=O b;have i:=O a;have r:=O p;go_wp2
  go_region
  go_wp2;go_end0;exact⟨⟨⟨_,rfl⟩,_,by rw[z h];exact i.below (BE _ _).drew⟩,r.drew⟩
 |succ k=>
  obtain⟨g',B,e',_,C,s,hc,_⟩:=a.ints.form (by show 0<k+1;omega);cases e';have e0:wr.cell? (G c k)=some (.pointer<|CG E<|AU d.I q 0 k):=hc k (by show k<k+1;omega);by_cases hz:AU d.I q 0 k=0
  .rw[hz,show CG E 0=none from Cs oo]at e0;have h:=O<|b.trans<|Jj hz;have i:=AG.SC (I:=AU d.I q 0) (m:=k) a (Rw.cut a.ints (j:=k)<|by show k<=k+1;omega) ⟨_,_,rfl⟩ a.ap;have r:=O p;go_wp2
   go_region
   go_wp2
   go_region
   go_wp2;go_roundw
   .exact⟨k,om,i.below (BE _ _).drew.drew,(r.setCell (by exact Be _) _).drew.drew,h⟩
   rw[show Qe (wr.setCell (G bk 1) (S9 c k k1)).drew.drew bk 1=k from Nr (z i).c1,Nr c1];omega
  have hp:CG E (AU d.I q 0 k)=some (G (E (AU d.I q 0 k-1).toNat) 0):=C3<|oS<|z (O n) k om;rw[hp]at e0;have h:=O<|b.trans<|Ji hz;go_wp2
  go_region
  go_wp2;go_end0;exact⟨⟨⟨_,rfl⟩,_,by rw[z h];exact(z<|O a).below (BE _ _).drew⟩,(z<|O p).drew⟩
section
open Go.RowKit Go.Shelf
attribute [local go_sem] Oper.semAt_some
theorem AG.grown{row}(h:AG w bk r0 r1 R2 E S d)(g:w.grownBy w' row)(k:∀r,row=some r->∃o,w.heap[r]?=some o/\o.isCells=false):AG w' bk r0 r1 R2 E S d:=by
 have ne:∀{b:Nat} {c:Array Value} {t:TypeId} {fr:Nat×Nat},w.heap[b]?=some (.cells c t fr)->w'.heap[b]?=w.heap[b]?:=λ{b c t fr} hb=>g.block b (E1.1 hb).1 (λe=>by
  obtain⟨o,l,hc⟩:=k b e.symm;rw[hb]at l;cases l;cases hc)
 have m:∀{t:TypeId} {v:V9} {n:Nat} {f:Nat->Option Addr},Rw w (bk+1) t v n f->Rw w' (bk+1) t v n f:=λ{t v n f} p=>T3 p g (λb e e'=>by
  obtain⟨c,hb⟩:=p.block e';obtain⟨o,l,hc⟩:=k b e;rw[hb]at l;cases l;cases hc)
 exact⟨A0 h.lt g.size,Of h.c0 g k,Of h.c1 g k,Of h.c2 g k,Of h.c3 g k,Of h.c4 g k,Of h.c5 g k,Of h.c6 g k,λq=>(ID (a:=G bk q) (by
  have hc:=h.c0;unfold World.cell? at hc;cases hb:w.heap[bk]? with
  |none=>simp[hb]at hc
  |some o=>
   cases o with
   |cells c t fr=>rw[<-hb];exact ne hb
   |_=>simp[hb]at hc)).trans (h.fz q),m h.log,m h.ints,h.rf,m h.slots,h.ap,λi hi=>(h.Cw i hi).keep g.size (ne (h.Cw i hi).ob),h.eb,h.inj,λj hj=>(h.sl j hj).keep g.size (λc hc=>ne hc),h.sg⟩
structure KX (M:Nat->Prop) (n:Nat) (A B:Y):Prop where
 CX:Below n A B
 Bw:∀b,b<A.heap.size->¬M b->B.heap[b]?=A.heap[b]?
def KX.refl M n A:KX M n A A:=⟨BE _ _,λ_ _ _=>rfl⟩
theorem KX.trans{B}(h:KX M n A B)(k:KX M n B C):KX M n A C:=⟨h.CX.trans k.CX,λb hb a=>(k.Bw b (A0 hb h.CX.size) a).trans<|h.Bw b hb a⟩
def KX.mono{a}{B}(h:KX M n A B)(e:∀b,b<A.heap.size->M b->a b):KX a n A B:=⟨h.CX,λb hb c=>h.Bw b hb λd=>c<|e b hb d⟩
def KX.Ax{B:Y}(h:B9 A B)(hn:n<=A.heap.size):KX M n A B:=⟨h.mono hn,λb hb _=>h.block b hb⟩
def KX.setCell{B}(h:KX M n A B){g q}(c:n<=g)(d:g<A.heap.size->M g)u:KX M n A<|B.setCell (G g q) u:=
 ⟨h.CX.setCell (by exact c) _,λb hb a=>(At _ _ _ _ (by intro e;have e:b=g:=e;subst e;exact a<|d hb)).trans<|h.Bw b hb a⟩
def KX.alloc{B}(h:KX M n A B)(hn:n<=A.heap.size)o:KX M n A<|B.alloc o:=
 ⟨h.CX.alloc (GP hn h.CX.size) _,λb hb a=>(DO _ _ _<|A0 hb h.CX.size).trans<|h.Bw b hb a⟩
def KX.drew{B}(h:KX M n A B):KX M n A B.drew:=⟨h.CX.drew,h.Bw⟩
theorem KX.grown{B}{row}(h:KX M n A B)(a:B.grownBy C row)(hn:n<=A.heap.size)(c:∀r,row=some r->A.heap.size<=r\/(n<=r/\M r)):KX M n A C:=
 ⟨h.CX.grown a (GP hn h.CX.size) (λk e=>by rcases c k e with h'|h'<;>omega),λb hb d=>(a.block b (A0 hb h.CX.size) (λe=>by
  rcases c b e.symm with h'|h'
  .omega
  exact d h'.2)).trans (h.Bw b hb d)⟩
def NL(n0 bk R2 x:Nat)(k:Vl)(e:Nat)(W:Y):Prop:=
 W.cell? (G n0 0)=some (.pointer<|some<|G bk 2)/\W.cell? (G bk 3)=some (S9 R2 x x)/\W.cell? (G (n0+1) 0)=some (J k.kind)/\W.cell? (G (n0+1) 1)=some (J k.num)/\W.cell? (G (n0+1) 2)=some (F9 k.Af)/\W.cell? (G (n0+1) 3)=some (.string k.str)/\W.cell? (G (n0+1) 4)=some (J k.ref)/\W.cell? (G (n0+1+1) 0)=some (Q9 e)
def NL.block{k}{W'}(h:NL n0 bk R2 x k e W)(hb:∀b,b<n0+3->b=n0\/b=n0+1\/b=n0+1+1\/b=bk->W'.heap[b]?=W.heap[b]?)(hl:bk<n0):NL n0 bk R2 x k e W':=by
 obtain⟨a,s1,s2,c,d,f,g,i⟩:=h;have k0:=hb n0 om om;have k1:=hb (n0+1) om om;have k2:=hb (n0+1+1) om om;have k3:=hb bk om om;exact⟨(As k0).trans a,(As k3).trans s1,(As k1).trans s2,(As k1).trans c,(As k1).trans d,(As k1).trans f,(As k1).trans g,(As k2).trans i⟩
def KP(U:En T){bk}{r0 r1}{R2}{E S}{d}{k}p{h}(hh:PW T k h){w:Y}(hT:T w)(hM:AG w bk r0 r1 R2 E S d)(hS:Small d)(hX:∀j,j<d.x->d.X j=0\/d.X j=-1\/0<d.X j)(hk:(d.L p).key=k)(hu:B1 d.X d.x<d.x)(aw:0<=d.used)(ax:d.used<=4194304):
  C9 227 #[.pointer (some<|G bk 2),V k.kind k.num k.Af k.str k.ref,Q9 (E p)] w λe w'=>((∃u,e=.returned u)/\∃a S',Dp d.x d.X (h%d.x)=some a/\AG w' bk r0 r1 R2 E S' {d with X:=AU d.X a ((p:Int)+1),used:=if d.X a=0 then d.used+1 else d.used})/\KX (λb=>b=bk\/b=R2) bk w w':=by
 have hx:=hS.x;refine(Aaa (n:=10)).1 ?_;refine callsIn_of_wp_marks func227 rfl trivial ?_ rfl;simp only[ntmps227,Aar,Aae,X9,Nat.reduceAdd,Nat.reduceSub,Aag,Aaf,Aas,Aai,Aad,Aaq];gi_wp2_with (refine⟨trivial,?_⟩;gi_at_call 219;refine(Aaa.2<|TH (some<|G bk 2) k _).mono ?_;rintro e w' ⟨rfl,rfl⟩);obtain⟨u,g⟩:=o9<|((((w.alloc<|.cells #[.pointer (some<|G bk 2)] 313).alloc<|.cells (qe k) 43).alloc<|.cells #[Q9 (E p)] 289).alloc<|.cells #[.pointer (some<|G bk 2)] 313).alloc<|.cells (qe k) 43;rw[<-g];have zu:u.heap.size=w.heap.size+5:=by rw[g];simp
 have bu:B9 w u:=by rw[g];exact((((n9).alloc oq _).alloc ot _).alloc ot _).alloc ot _
 obtain⟨n0,i0,i1,i2,i3,i4,af,m0,j0,j1,j2,j3,j4⟩:u.cell? (y w 0)=some (.pointer<|some<|G bk 2)/\u.cell? (Y9 w 0)=some (J k.kind)/\u.cell? (Y9 w 1)=some (J k.num)/\u.cell? (Y9 w 2)=some (F9 k.Af)/\u.cell? (Y9 w 3)=some (.string k.str)/\u.cell? (Y9 w 4)=some (J k.ref)/\u.cell? (Z9 w 0)=some (Q9<|E p)/\u.cell? (G (w.heap.size+1+1+1) 0)=some (.pointer<|some<|G bk 2)/\u.cell? (G (w.heap.size+1+1+1+1) 0)=some (J k.kind)/\u.cell? (G (w.heap.size+1+1+1+1) 1)=some (J k.num)/\u.cell? (G (w.heap.size+1+1+1+1) 2)=some (F9 k.Af)/\u.cell? (G (w.heap.size+1+1+1+1) 3)=some (.string k.str)/\u.cell? (G (w.heap.size+1+1+1+1) 4)=some (J k.ref):=by rw[g];simp[go_sem]
 rcases hM.below bu,U _ _ hT bu,hM.lt,hM.Ph with⟨P,ag,m,au⟩;clear g;refine wpIn_rangeFunc_ownF rfl oo (gf:=228) (lb:=#[Q9 (w.heap.size+1+1+1),Q9 (w.heap.size+1+1+1+1)]) rfl trivial (enters_of func228 ou rfl)
  (Ol 9 oo U bk R2 (w.heap.size+1+1+1) (w.heap.size+1+1+1+1) d w.heap.size hh u ag hx m0 P.c2 P.c3 j0 j1 j2 j3 j4) belowK_t (belowK_b om) (BE _ _) (λ_=>rfl)
  (λpre W=>((∀Z∈pre,0<d.X Z.1)/\W.cell? (y w 0)=some (.pointer<|some<|G bk 2)/\W.cell? (Y9 w 0)=some (J k.kind)/\W.cell? (Y9 w 1)=some (J k.num)/\W.cell? (Y9 w 2)=some (F9 k.Af)/\W.cell? (Y9 w 3)=some (.string k.str)/\W.cell? (Y9 w 4)=some (J k.ref)/\W.cell? (Z9 w 0)=some (Q9<|E p))/\B9 w W)
  (λc pre W=>(c=.ret/\(∃f a,pre=f++[a]/\(∀Z∈f,0<d.X Z.1)/\d.X a.1<=0/\∃S',AG W bk r0 r1 R2 E S' {d with X:=AU d.X a.1 ((p:Int)+1),used:=if d.X a.1=0 then d.used+1 else d.used}))/\KX (λb=>b=bk\/b=R2) bk w W)
  (OwnFrom.and (Own.from (λs A B row hs o v=>⟨hs.1,Of hs.2.1 o v,Of hs.2.2.1 o v,Of hs.2.2.2.1 o v,Of hs.2.2.2.2.1 o v,Of hs.2.2.2.2.2.1 o v,Of hs.2.2.2.2.2.2.1 o v,Of hs.2.2.2.2.2.2.2 o v⟩) _)<|ownFrom_below (Be _) om)
  (λc=>OwnFrom.and (Own.from (λs A B row hs o v=>⟨hs.1,by obtain⟨f,a,h1,h2,h3,S',h4⟩:=hs.2;exact⟨f,a,h1,h2,h3,S',h4.grown o v⟩⟩) _) λs W W' row hs o v=>hs.grown o om λk e=>.inl<|oS (v k e).1)
  ⟨⟨oq,n0,i0,i1,i2,i3,i4,af⟩,bu⟩
  ?a1 ?assign ?body ?done ?stop
 case assign=>
  intro l x W K hK;gi_wp2;exact hK
 case body=>
  rintro l pre ⟨a,C⟩ W ⟨⟨hp,g0,e0,e1,e2,e3,e4,s0⟩,F⟩ _;have i:=hM.below F;rcases i.c3,i.c4,i.fz 4 with⟨c3,c4,f4⟩;obtain⟨g',ay,e',_,lR,_,ah,ai⟩:=i.slots.form om;cases e';rcases ah a C,ai a,i.sl a C with⟨p0,q0,H⟩;have nR:R2≠bk:=oS i.Ph.1;have az:bk≠R2:=λe=>nR e.symm;rcases IF _ _ g0,IF _ _ e0,IF _ _ s0 with⟨z0,z1,z2⟩;dsimp only at z0 z1 z2;rcases O hp,O F,O hk with⟨HP,ad,HK⟩;clear hp F n0 i0 i1 i2 i3 i4 af m0 j0 j1 j2 j3 j4 P ag bu zu hM hT hh U ah ai;have aj:=hX a C;clear hX;rcases aj with hs|hs|hs
  .rw[show DB S a (d.X a)=none from C3 hs]at p0;have ae:=(i.Ld<|d.used+1).Uz (x:=(p:Int)+1) C om ⟨λ_=>by show _=fK (d.L ((p:Int)+1-1).toNat).key _;rw[show((p:Int)+1-1).toNat=p by omega,z HK],λh=>om⟩;rw[show(W.setCell (G bk 4) (J (d.used+1))).heap.size=W.heap.size by simp]at ae;have HN:=O ae;clear ae;have HX:=O hs;clear H hs;gi_wp2;refine PM (NL w.heap.size bk R2 d.x k<|E p) ou ou ?_;change wpAnyH _ _ _ _ _ _ _ _ (World.drew _);have hz:∀b q,bk≠b->(W.setCell (G bk 4)<|J<|d.used+1).cell? (G b q)=W.cell? (G b q):=λb q h=>Al h;have I:NL w.heap.size bk R2 d.x k (E p) (W.setCell (G bk 4)<|J<|d.used+1).drew:=⟨(hz _ _ om).trans g0,(Aa oo).trans c3,(hz _ _ om).trans e0,(hz _ _ om).trans e1,(hz _ _ om).trans e2,(hz _ _ om).trans e3,(hz _ _ om).trans e4,(hz _ _ om).trans s0⟩;clear hz;refine tz 0 (h:=tz 1 (h:=tz 2 (h:=tz 3 (h:=tz 4 (h:=tz 5 (h:=tz 6 (h:=tz 7 (h:=?_))))))));refine ry 8 λK hK=>?_;go_simp;refine hK.out _ _ ?_ λak=>?_
   .exact I.block (λb hb _=>DO _ _ _<|by show b<(W.setCell _ _).heap.size;simp;omega) m
   clear hK K;refine tz 9 (h:=?_);refine ry 10 λK hK=>?_;go_simp;refine hK.out _ _ ?_ λao=>?_
   .exact I.block (λb hb h=>(DO _ _ _ ot).trans<|At _ _ _ _<|by show b≠R2;omega) m
   clear hK K;refine Fj ?_;gi_wp2;exact⟨(((Q2 _ _ _).trans<|Q2 _ _ _).trans<|KeepsOthers.alloc _ _).trans<|KeepsOthers.drew _,⟨rfl,pre,⟨a,C⟩,rfl,HP,by have:=z HX;show d.X a<=0;omega,_,by rw[C3 (z HX)];exact HN.below (BE _ _).drew⟩,((((KX.Ax ad om).setCell (Be _) (λ_=>.inl rfl) _).setCell om (λ_=>.inr rfl) _).alloc om _).drew⟩
  .rw[show DB S a (d.X a)=some (G (S a) 0)from Cs om]at p0;obtain⟨aq,aM⟩:=H.2 om;have HN:=i.Uz (x:=(p:Int)+1) C om ⟨λ_=>by show _=fK (d.L ((p:Int)+1-1).toNat).key _;rw[show((p:Int)+1-1).toNat=p by omega,z HK],λh=>om⟩;have HX:Hid<|d.X a≠0/\d.X a<=0:=O om;clear H hs;gi_wp2;refine PM (NL w.heap.size bk R2 d.x k<|E p) ou ou ?_;change wpAnyH _ _ _ _ _ _ _ _ (World.drew _);have I:NL w.heap.size bk R2 d.x k (E p) W.drew:=⟨g0,c3,e0,e1,e2,e3,e4,s0⟩;refine tz 0 (h:=tz 1 (h:=tz 2 (h:=tz 3 (h:=tz 4 (h:=tz 5 (h:=tz 6 (h:=tz 7 (h:=?_))))))));refine ry 8 λK hK=>?_;go_simp;refine hK.out _ _ ?_ λak=>?_
   .exact I.block (λb hb _=>DO _ _ _<|by show b<W.heap.size;omega) m
   clear hK K;refine tz 9 (h:=?_);refine ry 10 λK hK=>?_;go_simp;refine hK.out _ _ ?_ λao=>?_
   .exact I.block (λb hb h=>(DO _ _ _ ot).trans<|At _ _ _ _<|by show b≠R2;omega) m
   clear hK K;refine Fj ?_;gi_wp2;exact⟨((Q2 _ _ _).trans<|KeepsOthers.alloc _ _).trans<|KeepsOthers.drew _,⟨rfl,pre,⟨a,C⟩,rfl,HP,by have:=z HX;show d.X a<=0;omega,_,by rw[Cs (z HX).1];exact HN.below (BE _ _).drew⟩,(((KX.Ax ad om).setCell om (λ_=>.inr rfl) _).alloc om _).drew⟩
  rw[show DB S a (d.X a)=some (G (S a) 0)from Cs om]at p0;obtain⟨aq,f0,f1,f2,f3,a6,f5,f6⟩:=H.1 hs;have HX:=O hs;clear H hs;gi_wp2;exact⟨KeepsOthers.refl _,BE _ _,⟨λZ hy=>(List.mem_append.1 hy).elim (HP Z) (λe=>by simp at e;subst e;exact HX),g0,e0,e1,e2,e3,e4,s0⟩,ad⟩
 case done=>
  rintro D ys W hD ar ⟨⟨hp,_⟩,F⟩ hK;exfalso;obtain⟨t,ht,hf,a7,av⟩:=E5 (a:=h%d.x) (X:=d.X) (VC _ om) hu;have hm:(h%d.x+t)%d.x∈ys.map (·.1):=by
   rw[show ys.map (·.1)=E4 d.x (h%d.x) d.x from ar];unfold E4;exact List.mem_map.2 ⟨t,List.mem_range.2 ht,rfl⟩
  obtain⟨Z,hy,e⟩:=List.mem_map.1 hm;have:=hp Z hy;rw[e]at this;omega
 case stop=>
  rintro D c pre W hD Q ⟨⟨rfl,f,a,rfl,h1,h2,S',hN⟩,F⟩ hK;have HF:Hid<|Dp d.x d.X (h%d.x)=some a.1:=O (by
   have hp:(f++[a]).map (·.1)<+:E4 d.x (h%d.x) d.x:=Q;have M:=hp.length_le;rw[List.length_map,P9,MJ]at M;have M:f.length+1<=d.x:=M;have R:∀j,j<f.length+1->((f++[a]).map (·.1))[j]?=some ((h%d.x+j)%d.x):=λj hj=>by
    obtain⟨r,v⟩:=hp;have e:(E4 d.x (h%d.x) d.x)[j]?=((f++[a]).map (·.1))[j]?:=by rw[<-v,Aat ot]
    rw[<-e];unfold E4;rw[List.getElem?_map,List.getElem?_range (show j<d.x by omega)];rfl
   have C:=R f.length om;rw[List.getElem?_map,AaG (Be _)]at C;have C:a.1=(h%d.x+f.length)%d.x:=by simpa using C
   rw[C];refine Mx om (λj hj=>?_) (by rw[<-C];exact h2);have hb:=R j om;rw[List.getElem?_map,Aat hj]at hb;obtain⟨Z,hy,e⟩:=Option.map_eq_some_iff.1 hb;rw[<-e];exact h1 Z (List.mem_of_getElem? hy))
  clear Q h1 h2 hh hM P;gi_wp2;refine⟨oq,.inl ⟨_,_,rfl,AaH hK,?_⟩⟩;have o:=NX W D<|.deferred none;refine⟨_,Aaw rfl _ _ _,⟨⟨_,rfl⟩,a.1,S',HF,hN.grown o λr e=>by cases e;exact⟨_,hK,rfl⟩⟩,F.grown o om λk e=>by cases e;exact .inl om⟩
end
def DR(hf:Vl->Nat)(d:Dc)(x:Nat)(l:List Nat):Dc:=l.foldl (λc p=>AR hf c (d.L p).key p) {d with x:=x,X:=λ_=>0,used:=0}
def Kh hf d x l p:DR hf d x (l++[p])=AR hf (DR hf d x l) (d.L p).key p:=by
 unfold DR;rw[List.foldl_append];rfl
structure GH (d:Dc) (a N:Nat) (c:Dc):Prop where
 x:c.x=a
 n:c.n=d.n
 L:c.L=d.L
 m:c.m=d.m
 I:c.I=d.I
 live:c.live=d.live
 turns:c.turns=d.turns
 use:B1 c.X a<=N
 used:(B1 c.X a:Int)=c.used
 pos:∀j,j<a->0<=c.X j
 up:∀j,j<a->c.X j<=d.n
def GH.step{c}{k}(h:GH d x Z c)(hN:Z<x)(hp:p<d.n):GH d x (Z+1)<|AR hf c k p:=by
 obtain⟨t,l,f,g,_⟩:=E5 (a:=hf k%x) (X:=c.X) (VC _ om)<|oS h.use;have hs:(hf k%x+t)%x<x:=VC _ om;have i:c.X ((hf k%x+t)%x)=0:=oS<|h.pos _ hs;generalize (hf k%x+t)%x=a at*;have e:=Fm (d:=c) (k:=k) (p:=p) (a:=a) (by rw[h.x];exact f);rw[e];have hu:=PI (v:=(p:Int)+1) om i x;rw[C3 hs]at hu;refine⟨h.x,h.n,h.L,h.m,h.I,h.live,h.turns,?_,?_,λj hj=>?_,λj hj=>?_⟩
 .show B1 (AU c.X a<|(p:Int)+1) x<=Z+1;rw[hu];have:=h.use;omega
 .grind [hN,AR,B1,AU,GH.used]
 .show 0<=AU c.X a ((p:Int)+1) j;by_cases b:j=a
  .subst b;rw[Au];omega
  rw[Ao _ _ b];exact h.pos j hj
 show AU c.X a ((p:Int)+1) j<=d.n;by_cases b:j=a
 .subst b;rw[Au];omega
 rw[Ao _ _ b];exact h.up j hj
def GH.start d x:GH d x 0 {d with x:=x,X:=λ_=>0,used:=0}:=
 ⟨rfl,rfl,rfl,rfl,rfl,rfl,rfl,by show B1 (λ_=>0) x<=0;rw[JM];exact Be _,by show((B1 (λ_=>0) x:Nat):Int)=0;rw[JM];rfl,λj hj=>AaC _,λj hj=>by show(0:Int)<=d.n;omega⟩
def Oc{l}(hl:l.length<=x)(hn:∀p∈l,p<d.n):GH d x l.length<|DR hf d x l:=by
 suffices h:∀(k:Nat),k<=l.length->GH d x k (DR hf d x<|l.take k) by
  have:=h l.length<|Be _
  rwa [List.take_length]at this
 intro k
 induction k with
 |zero=>intro _;exact GH.start d x
 |succ k ih=>
  intro hk;have e:l.take (k+1)=l.take k++[l[k]]:=(List.take_append_getElem om).symm;rw[e,Kh];exact(ih om).step om (hn _<|List.getElem_mem _)
noncomputable def CC(d:Dc)(k:Nat):List Nat:=(AW d k).filter λi=>!tells (Ay d.m (d.L i).key)
def jL(h:(d.L k).turn=0\/Ay d.m (d.L k).key):CC d (k+1)=CC d k:=by
 grind [Ay,CC,B7,Bi,Aj,GH.L]
def cE(a:(d.L k).turn≠0)(h:¬Ay d.m (d.L k).key):CC d (k+1)=CC d k++[k]:=by
 grind [Ay,CC,Bi,Ae]
def XL d k:(CC d k).length<=(AW d k).length:=List.length_filter_le _ _
def O3(h:i∈CC d k):i<k/\(d.L i).turn≠0/\¬Ay d.m (d.L i).key:=by
 unfold CC at h;obtain⟨h1,h2⟩:=List.mem_filter.1 h;obtain⟨h3,h4⟩:=O4.1 h1;grind [CC,Ay,Aj]
def MH(hp:∀i,i<d.n->(d.L i).turn≠0->0<(d.L i).turn):∀k,k<=d.n->Bl hf d x k=DR hf d x (CC d k)/\BV d k=(CC d k).length:=by
 intro k
 induction k with
 |zero=>intro _;exact⟨rfl,rfl⟩
 |succ k ih=>
  intro hk;obtain⟨h1,h2⟩:=ih om;by_cases h:AP d k
  .have a:(d.L k).turn≠0:=oS h.1;rw[E3 h,EE h,cE a h.2,Kh,h1,h2,P9];exact⟨rfl,rfl⟩
  rw[E0 h,Gu h,jL (by
   by_cases a:(d.L k).turn=0
   .exact .inl a
   refine .inr (AaO λhs=>h ⟨hp k om a,hs⟩))]
  exact⟨h1,h2⟩
section
open Go.RowKit Go.Shelf
attribute [local go_sem] Oper.semAt_some
def CD{s}(h:w.ownsRow B e s v n xs)(hb:∀q,v.ownBlock=some q->w'.heap[q]?=w.heap[q]?):w'.ownsRow B e s v n xs:=by
 obtain⟨hl,h|⟨g,cap,cur,h1,h2,h3,h4⟩⟩:=h
 .exact⟨hl,.inl h⟩
 exact⟨hl,.inr ⟨g,cap,cur,h1,h2,(hb g<|qh h1).trans h3,h4⟩⟩
noncomputable def G4(d:Dc)(pre:List<|Ml d):List Nat:=(pre.map (·.1)).filter λi=>!tells (Ay d.m (d.L i).key)
def nT{pre}{x}(h:Ay d.m (d.L x.1).key):G4 d (pre++[x])=G4 d pre:=by
 grind [Ay,G4,Aj]
def jK{pre}{x}(h:¬Ay d.m (d.L x.1).key):G4 d (pre++[x])=G4 d pre++[x.1]:=by
 grind [Ay,G4,Ae]
def jJ{pre}(h:pre.map (·.1)=AW d d.n):G4 d pre=CC d d.n:=by
 unfold G4 CC;rw[h]
def nS pre:(G4 d pre).length<=pre.length:=by
 grind [G4,tells,Ay,Small.m]
def eP(E:Nat->Nat)(l:List Nat)(j:Nat):Option Addr:=some<|G (E<|l.getD j 0) 0
def XB E l i:GN (eP E l) l.length++[Q9 (E i)]=GN (eP E<|l++[i]) (l.length+1):=by
 grind [GN,eP,Uy,L7,Au,Ao]
def Z7(w u:Y)(p n0:Nat)(E:Nat->Nat)(d:Dc)(pre:List<|Ml d)(W:Y):Prop:=
 ∃v,W.rowIs p 296 1 (λ_=>v)/\Rw W n0 Df v (G4 d pre).length (eP E<|G4 d pre)/\PX p n0 u W/\B9 w W
theorem Z7.own w u p n0 D E d(hn:n0<=D)(hu:n0<=u.heap.size)(g:w.heap.size<=D):OwnFrom D<|Z7 w u p n0 E d:=by
 rintro pre A B row ⟨v,h1,h2,h3,h4⟩ a f;refine⟨v,?_,Q8 h2 a f,⟨GP h3.size a.size,λb hb hp=>?_⟩,h4.grown a h4.size λk e=>GP g (f k e).1⟩
 .obtain⟨c,hb,hc⟩:=h1;exact GW ⟨c,hb,hc⟩<|Kl hb a f
 have hl:=A0 hb<|GP hu h3.size;exact(a.block b hl λe=>oS (f b e.symm).1).trans (h3.block b hb hp)
def Z7.below{u c:Y}{pre a}(h:Z7 w u p n0 E d pre W)(h2:B9 W c)(e:G4 d a=G4 d pre)(l:p<n0)(j:n0<=u.heap.size):KeepsOthers W c/\PX p n0 W c/\Z7 w u p n0 E d a c:=by
 obtain⟨v,hp,f,g,i⟩:=h;have Dt:PX p n0 W c:=⟨h2.size,λb hb _=>h2.block b<|A0 hb<|GP j g.size⟩;refine⟨⟨h2.size,λk o hk _=>(h2.block k (E1.1 hk).1).trans hk⟩,Dt,v,hp.of_block<|h2.block p hp.lt,?_,g.trans Dt,o8 i h2⟩;rw[e];exact C0 f h2.size λq _ hq=>h2.block q hq
def Z7.add{u}{pre}{x}{o}{g3 a}(hp:W.rowIs p 296 1 λ_=>v)(f:Rw W n0 Df v (G4 d pre).length<|eP E<|G4 d pre)(n:PX p n0 u W)(g:B9 w W)(h2:B9 W C)
  (h1:w3.ownsRow n0 Df 1 (S9 g3 ((G4 d pre).length+1) a) ((G4 d pre).length+1)<|GN (eP E<|G4 d pre) (G4 d pre).length++[Q9 (E x.1)]) (r:(C.alloc o).grownBy w3 v.ownBlock) (s:p<n0) (D:n0<=u.heap.size) (F:w.heap.size<=p) (hs:¬Ay d.m (d.L x.1).key):
  (w3.cell? (G p 0)=some v/\w3.frozen? (G p 0)=false)/\KeepsOthers W (w3.setCell (G p 0)<|S9 g3 ((G4 d pre).length+1) a)/\PX p n0 W (w3.setCell (G p 0)<|S9 g3 ((G4 d pre).length+1) a)/\Z7 w u p n0 E d (pre++[x]) (w3.setCell (G p 0)<|S9 g3 ((G4 d pre).length+1) a):=by
 have K:=n.size;have z2:=h2.size;have z3:W.heap.size<=w3.heap.size:=by have:=r.size;simp at this;omega
 have t:∀b,b<W.heap.size->v.ownBlock≠some b->w3.heap[b]?=W.heap[b]?:=λb hb H=>(r.block b ot λe=>H e.symm).trans<|(DO _ _ _ om).trans<|h2.block b hb;have j:∀b,b<n0->v.ownBlock≠some b:=λb hb e=>oS (f.lt b e).1;have l:=hp.of_block<|t p hp.lt<|j p s;have I:=(World.ownsRow.lt h1 g3 rfl).1;have os:∀b,b≠p->(w3.setCell (G p 0)<|S9 g3 ((G4 d pre).length+1) a).heap[b]?=w3.heap[b]?:=λb hb=>At _ _ _ _ (by exact hb);have hk:PX p n0 W<|w3.setCell (G p 0)<|S9 g3 ((G4 d pre).length+1) a:=⟨by simpa using z3,λb h1 A=>(os b A).trans<|t b om<|j b h1⟩;refine⟨⟨l.cell (i:=0) om,l.frozen 0⟩,?_,hk,S9 g3 ((G4 d pre).length+1) a,(l.set 0 _).congr λq hq=>by simp[show q=0 by omega],?_,n.trans hk,?_⟩
 .have B:KeepsOthers W w3:=⟨z3,λk o' h hc=>(t k (E1.1 h).1 (λe=>by
   obtain⟨c,hb⟩:=Rw.block f e;rw[hb]at h;cases h;cases hc)).trans h⟩
  exact B.trans<|Q2 _ _ _
 .rw[jK hs];have hl:(G4 d pre++[x.1]).length=(G4 d pre).length+1:=oq;rw[hl];refine CD ?_ (λq e=>os q (by
   have e':g3=q:=oF e;omega))
  rw[XB]at h1;exact h1
 exact(((o8 g h2).alloc (oS g.size) _).grown r (by have:=g.size;simp;omega) λk e=>oS (f.lt k e).1).setCell (by show w.heap.size<=p;omega) _
def EV(n:Nat):Nat:=if n=0 then 0 else Ck n
def US(h:n<=500):EV n<=4000:=by
 grind [EV,Dn]
def Py(h:n<=500):4*n<=EV n:=by
 unfold EV;split
 .omega
 exact(Dn h).1
def lL(n0 bk p:Nat)(v:V9)(W:Y):Prop:=W.cell? (G n0 0)=some (Q9 bk)/\W.cell? (G p 0)=some v
def aL(n0 bk e:Nat)(k:Vl)(W:Y):Prop:=W.cell? (G n0 0)=some (Q9 bk)/\W.cell? (G e 0)=some (J k.kind)/\W.cell? (G e 1)=some (J k.num)/\W.cell? (G e 2)=some (F9 k.Af)/\W.cell? (G e 3)=some (.string k.str)/\W.cell? (G e 4)=some (J k.ref)
def Qa(x:Nat){w}(a:AG w bk r0 r1 R2 E S d)(f:x<=4194304):
  C9 234 #[.pointer (some<|G bk 2),J x] w λe w'=>((∃u,e=.returned u)/\AG w' bk r0 r1 w.heap.size E S {d with x:=x,X:=λ_=>0,used:=0})/\KX (λb=>b=bk) bk w w':=by
 rcases a.lt,a.c3,a.c4,a.fz 3,a.fz 4,JF underlying297 TY x f with⟨c,c3,c4,f3,f4,mk⟩;have g:Db (w.alloc<|.cells (madeCells (Value.pointer none).cells x) U2) w.heap.size x U2 λ_=>none:=Db.fresh w x U2;have hN:=((a.below<|(BE _ _).alloc (Be _)<|.cells (madeCells (Value.pointer none).cells x) U2).eV ((g.own om f).congr λj hj=>by simp[DB]) (λj hj=>⟨λh=>absurd h<|Int.lt_irrefl 0,λh=>absurd h<|Int.lt_irrefl 0⟩) λj hj h=>absurd rfl h).Ld 0;rw[World.setCell_alloc_past _ _ _ _ c,World.setCell_alloc_past _ _ _ _ (by simpa using c)]at hN;have i:=O hN;have k:Hid<|∀o,KX (λb=>b=bk) bk w<|((w.setCell (G bk 3)<|S9 w.heap.size x x).setCell (G bk 4)<|J 0).alloc o:=O λo=>KX.alloc (n:=bk) (A:=w) (((KX.refl (λb=>b=bk) _ _).setCell (Be _) (λ_=>rfl) _).setCell (Be _) (λ_=>rfl) _) om _;clear a g hN;go_enter func234,ntmps234;go_wp2;go_end0;exact⟨⟨⟨_,rfl⟩,i⟩,k _⟩
def IC(b9:En T)(hf){bk}(ca:∀w w',T w->Below bk w w'->T w'){r0 r1}{R2}{E S}{d}(g){w:Y}(hT:T w)(hM:AG w bk r0 r1 R2 E S d)(hS:Small d)
  (hH:∀i,i<d.n->(d.L i).turn≠0->PW T (d.L i).key (hf (d.L i).key)) (ad:(CC d d.n).length+g<=500):
  C9 226 #[.pointer (some<|G bk 0),J g] w λe w'=>((∃u,e=.returned u)/\∃bq S',AG w' bk r0 r1 bq E S' (DR hf d (EV<|(CC d d.n).length+g)<|CC d d.n)/\w.heap.size<=bq)/\KX (λb=>b=bk) bk w w':=by
 rcases ON Jz,hS.m,hS.n,hM.lt with⟨⟨i0,cc,cd,cg,ch⟩,br,da,c6⟩;refine(Aaa (n:=20)).1 ?_;refine callsIn_of_wp_marks func226 rfl trivial ?_ rfl;simp only[ntmps226,Aar,Aae,X9,Nat.reduceAdd,Nat.reduceSub,Aag,Aaf,Aas,Aai,Aad,Aaq];rcases O hH,O ad,O hT with⟨HH,HL,HT⟩;clear hH ad hT;gi_wp2_with fail;refine⟨trivial,?_⟩;refine(Aaa.2<|Ia bk _).mono ?_;rintro e w4 ⟨rfl,rfl⟩;gi_wp2_with fail;obtain⟨u,hu⟩:=o9<|((w.alloc<|.cells #[.pointer (some<|G bk 0)] 286).alloc<|.cells #[N9] 296).alloc<|.cells #[.pointer (some<|G bk 0)] 286;try simp only[World.size_alloc]
 rw[<-hu];have zu:u.heap.size=w.heap.size+1+1+1:=by rw[hu];simp
 have bu:B9 w u:=by rw[hu];exact((n9).alloc oq _).alloc ot _
 obtain⟨a8,b0⟩:u.cell? (Z9 w 0)=some (.pointer<|some<|G bk 0)/\u.cell? (y w 0)=some (.pointer<|some<|G bk 0):=by rw[hu];simp[go_sem]
 have bb:u.rowIs (w.heap.size+1) 296 1 λ_=>N9:=by
  have h1:=Aaj (w.alloc<|.cells #[.pointer (some<|G bk 0)] 286) #[N9] 296 (λ_=>N9) (λi hi=>by
   have:i=0:=by simpa using hi
   subst this;rfl)
  rw[World.size_alloc]at h1;refine GW h1 ?_;rw[hu];exact DO _ _ _ oq
 clear hu;have aw:=hM.below bu;obtain⟨R0,R1,Q⟩:=aw.book;have bc:=bb.cell (i:=0) om;have bt:0<d.n->R0<u.heap.size/\R0≠w.heap.size+1:=λh0=>⟨Q.l0,λe=>by
  have:=Q.r0 0 h0;rw[e,bc]at this;cases this⟩
 have ax:∀i,i<d.n->E i<u.heap.size/\E i≠w.heap.size+1:=λi hi=>⟨(Q.Cw i hi).lt,λe=>by
  have:=(Q.Cw i hi).k0;rw[e,bc]at this;cases this⟩
 obtain⟨Q1,k1,e1⟩:=aw.rf;have bw:u.cell? (G bk 1)=some (.slice (some<|G Q1 0) d.m k1):=by rw[aw.c1,e1]
 clear bc;refine wpIn_rangeFunc_ownF rfl oo (gf:=233) (lb:=#[.pointer (some<|G (w.heap.size+1+1) 0)]) rfl trivial (enters_of func233 ou rfl)
  (Qh 19 oo (w.heap.size+1+1) (w.heap.size+1) u.heap.size Q hS bt ax a8) PX.trans (PX.put<|Be _) (BE _ _) (λ_=>rfl)
  (Z7 w u (w.heap.size+1) u.heap.size E d)
  (λc pre W=>False)
  (Z7.own w u (w.heap.size+1) u.heap.size u.heap.size E d (Be _) (Be _) om)
  (λc _ _ _ _ h=>h.elim)
  ⟨N9,bb,NB _ _ _ _,PX.refl _ _ _,bu⟩
  ?a1 ?assign ?body ?done ?stop
 case assign=>
  intro l x W K hK;gi_wp2;exact hK
 case stop=>
  rintro D c pre W hD c7 h hK;exact h.elim
 case body=>
  rintro l pre ⟨i,hi,ht⟩ W ⟨v,hp,s,t,X⟩ ad;have ai:=t.block (E i) (ax i hi).1 (ax i hi).2;obtain⟨dc,q0,q1,q2,q3,q4,_⟩:=(Q.Cw i hi).keep t.size ai;have cb:W.cell? (y w 0)=some (.pointer<|some<|G bk 0):=(As (a:=y w 0)<|t.block w.heap.size om om).trans b0;have c1:W.cell? (G bk 1)=some (.slice (some<|G Q1 0) d.m k1):=(As (a:=G bk 1)<|t.block bk om om).trans bw;have zW:=t.size;have lW:w.heap.size<W.heap.size:=om;have lb:bk<W.heap.size:=om;rcases O s,O t,O X,O hp,hp.lt,O (nS pre) with⟨af,bx,ay,HP,cj,ck⟩;clear ai s t X hp a8;by_cases hs:Ay d.m (d.L i).key
  .have bd:=O<|Aj hs;have cl:=O<|nT (pre:=pre) (x:=⟨i,hi,ht⟩) hs;clear hs;gi_wp2_with fail;refine wpIn_region_quiet (C:=λw'=>B9 W w') ou ou ou ((BE _ _).drew) ?_;show wpQuiet _ _ _ _ [_,_,_,_,_,_,_,_,_,_,_,_] _;(iterate 10 refine N (h:=?_));refine GC λK hK=>?_;go_simp;apply Exists.intro;refine qj (λw' ag=>?_)<|hK _ ?_
   .refine((z bd)▸Ca (d.L i).key d.m _ br).mono ?_;rintro e cm ⟨rfl,hb⟩;exact⟨rfl,o8 ag hb⟩
   clear hK K;refine N (h:=?_);refine GS ?_;intro w2 P;gi_wp2;exact Z7.below ⟨v,HP,af,bx,ay⟩ P cl om<|Be _
  have bd:=O<|Ae hs;have cn:=O hs;clear hs;gi_wp2_with fail;refine wpIn_region_quiet (C:=λw'=>B9 W w') ou ou ou ((BE _ _).drew) ?_;show wpQuiet _ _ _ _ [_,_,_,_,_,_,_,_,_,_,_,_] _;(iterate 10 refine N (h:=?_));refine GC λK hK=>?_;go_simp;apply Exists.intro;refine qj (λw' ag=>?_)<|hK _ ?_
  .refine((z bd)▸Ca (d.L i).key d.m _ br).mono ?_;rintro e cm ⟨rfl,hb⟩;exact⟨rfl,o8 ag hb⟩
  clear hK K;refine N (h:=?_);refine GS ?_;intro w2 P;have x2:=oT P cj<|HP.cell (i:=0) om;have av:Rw w2 u.heap.size Df v (G4 d pre).length<|eP E<|G4 d pre:=C0 af P.size λq _ hq=>P.block q hq;have z2:=P.size;have c8:w.heap.size+1<w2.heap.size:=om;have dd:=z ck;have bn:Hid<|∀(o:Obj) (v3:V9) (w3:Y),w3.ownsRow u.heap.size Df 1 v3 ((G4 d pre).length+1) (GN (eP E<|G4 d pre) (G4 d pre).length++[.pointer (some (G (E i) 0))])->(w2.alloc o).grownBy w3 v.ownBlock->∃g3 I,v3=.slice (some<|G g3 0) ((G4 d pre).length+1) I/\(w3.cell? (Y9 w 0)=some v/\w3.frozen? (Y9 w 0)=false)/\KeepsOthers W (w3.setCell (Y9 w 0)<|.slice (some<|G g3 0) ((G4 d pre).length+1) I)/\PX (w.heap.size+1) u.heap.size W (w3.setCell (Y9 w 0)<|.slice (some<|G g3 0) ((G4 d pre).length+1) I)/\Z7 w u (w.heap.size+1) u.heap.size E d (pre++[⟨i,hi,ht⟩]) (w3.setCell (Y9 w 0)<|.slice (some<|G g3 0) ((G4 d pre).length+1) I):=O (λo v3 w3 A U=>by
   obtain⟨g3,I,rfl⟩:∃g3 I,v3=.slice (some<|G g3 0) ((G4 d pre).length+1) I:=by
    obtain⟨_,⟨_,h0⟩|⟨g,cap,cur,hv,_⟩⟩:=A
    .omega
    exact⟨g,cap,hv⟩
   exact⟨g3,I,rfl,Z7.add (x:=⟨i,hi,ht⟩) HP af bx ay P A U om (Be _) om cn⟩)
  clear P;gi_wp2_with (gi_at_builtin;refine wpListIn_append_own _ rfl _ _ 296 rfl u.heap.size Df i0 (.pointer none) 1 8 underlying296 cc cd cg ch rfl oo v (G4 d pre).length (GN (eP E<|G4 d pre) (G4 d pre).length) rfl (OR av _) (y w2 0) 1 1 [.pointer (some (G (E i) 0))] rfl rfl (Is<|DD _ _) oh od om ot ?_;intro v3 w3 A U _;obtain⟨g3,I,rfl,⟨x3,f3⟩,cp⟩:=z bn _ v3 w3 A U;clear A U);exact cp
 case done=>
  rintro D ys W hD bz ⟨v,hp,s,t,X⟩ hK;have aj:ys.map (·.1)=AW d d.n:=bz;rw[jJ aj]at s;obtain⟨va,vc,rfl⟩:=s.slice;have x0:=hp.cell (i:=0) om;have zW:=t.size;have cb:W.cell? (y w 0)=some (.pointer<|some<|G bk 0):=(As (a:=y w 0)<|t.block w.heap.size om om).trans b0;have bf:=z HL;have ak:∀q∈CC d d.n,q<d.n/\(d.L q).turn≠0/\¬Ay d.m (d.L q).key:=λq hq=>O3 hq;rcases O ak,hM.below X,O X,O s,US bf,Py bf with⟨ae,cr,ay,af,df,dh⟩;have lW:w.heap.size<W.heap.size:=om;have ct:w.heap.size+1<W.heap.size:=om;have lb:bk<W.heap.size:=om;have ao:∀q,(Value.slice va (CC d d.n).length vc).ownBlock=some q->u.heap.size<=q/\q<W.heap.size:=λq e=>s.lt q e;have c9:=O ao;generalize b1:CC d d.n=H at*;have cu:=O b1;clear b1;have di:IntKind.i64.wrap ((H.length:Int)+(g:Int))=(H.length:Int)+(g:Int):=oj;clear bz aj hp s t X ak ao a8 b0 bw aw Q bb bt ax bu;have cv:Hid<|∀W',C9 235 #[J ((H.length:Int)+(g:Int))] W'<|R9 (J (EV (H.length+g):Nat)) W':=O (λW'=>by
   have h1:=Qb (H.length+g) W' bf;rw[Int.natCast_add]at h1;exact h1)
  gi_wp2_with fail
  refine PN (lL w.heap.size bk (w.heap.size+1)<|.slice va H.length vc) ou ?_;change wpAnyH _ _ _ _ _ _ _ _ (World.drew _);have bg:lL w.heap.size bk (w.heap.size+1) (.slice va H.length vc) W.drew:=⟨cb,x0⟩;refine tz 0 (h:=tz 1 (h:=tz 2 (h:=tz 3 (h:=tz 4 (h:=tz 5 (h:=tz 6 (h:=?_)))))));refine ry 7 λK hK=>?_;go_simp;refine(cv _).mono ?_;rintro e w1 ⟨rfl,M⟩;have M:=(BE W.heap.size W).drew.trans M;have bh:=(M.cell lW).trans cb;have x1:=(M.cell ct).trans x0;refine hK.out _ _ ⟨bh,x1⟩ λcw=>?_;clear hK K bg;have z1:=M.size;generalize b2:EV (H.length+g)=sx at*;have cx:=O b2;clear b2;refine ry 8 λK hK=>?_;go_simp;refine(Qa sx (cr.below M) om).mono ?_;rintro e w2 ⟨⟨⟨uu,rfl⟩,cy⟩,Z⟩;have z2:=Z.CX.size;have bj:=(As (a:=y w 0)<|Z.Bw w.heap.size om om).trans bh;have x2:=(As (a:=Y9 w 0)<|Z.Bw (w.heap.size+1) om om).trans x1;refine hK.out _ _ ⟨bj,x2⟩ λcz=>?_;clear hK K cw bh x1 cb x0;refine Fj ?_;have az:=((KX.Ax ay om).trans<|KX.Ax M om).trans Z;have aq:Hid<|∀b,b<W.heap.size->b≠bk->w2.heap[b]?=W.heap[b]?:=O λb hb cD=>(Z.Bw b om cD).trans<|M.block b hb;have dj:D<W.heap.size:=(E1.1 hK).1;have cN:w2.heap[D]?=some (.deferred<|some []):=(aq D (E1.1 hK).1 om).trans hK;clear M Z cz hK;gi_wp2
  gi_loopw [38] (λi wr=>∃(j:Nat) (S':Nat->Nat),j<=H.length/\i=J (j:Int)/\AG wr bk r0 r1 w1.heap.size E S' (DR hf d sx<|H.take j)/\KX (λb=>b=bk\/b=w1.heap.size) bk w2 wr) λi _=>H.length-(intOf i).toNat
  case atStart=>exact⟨0,S,om,rfl,cy,KX.refl _ _ _⟩
  case round=>
   obtain⟨j,S',hj,rfl,ah,B⟩:=hrel;by_cases aM:j<H.length
   .obtain⟨p,hp⟩:=o9<|H[j];obtain⟨a6,b3,dk⟩:=z ae H[j]<|List.getElem_mem aM;rw[<-hp]at a6 b3;have f:=Oc (hf:=hf) (x:=sx) (l:=H.take j) ot λp hp=>(ae p<|List.mem_of_mem_take hp).1;rw[List.length_take,Nat.min_eq_left om]at f;have b4:DR hf d sx (H.take<|j+1)=AR hf (DR hf d sx<|H.take j) (d.L p).key p:=by rw[<-List.take_append_getElem aM,Kh,<-hp]
    obtain⟨gq,cq,eq,g1,g2,_,b5,_⟩:=af.form om;cases eq;have hb:=λb (h:b<W.heap.size) (h':b≠bk)=>(B.Bw b om<|by rintro(e|e)<;>omega).trans<|aq b h h';have rc:wr.cell? (G gq j)=some (.pointer<|some<|G (E p) 0):=(As (a:=G gq j)<|hb gq g2 om).trans (by rw[b5 j aM,hp];simp[eP,List.getD,aM]);have b6:wr.cell? (y w 0)=some (.pointer<|some<|G bk 0):=(As (a:=y w 0)<|B.Bw w.heap.size om<|by rintro(e|e)<;>omega).trans bj;have R:=ah.Cw p (by rw[f.n];exact a6);rw[f.L]at R;have dm:=B.CX.size;have ar:Hid<|C9 227 #[.pointer (some<|G bk 2),V (d.L p).key.kind (d.L p).key.num (d.L p).key.Af (d.L p).key.str (d.L p).key.ref,.pointer (some<|G (E p) 0)] wr.drew λe w5=>(∃u,e=.returned u)/\(∃S5,AG w5 bk r0 r1 w1.heap.size E S5<|DR hf d sx<|H.take<|j+1)/\KX (λb=>b=bk\/b=w1.heap.size) bk w2 w5/\aL w.heap.size bk (E p) (d.L p).key w5:=O (by
     have dn:=f.use;have dp:=f.used;refine(KP b9 p (HH p a6 b3) (ca _ _ HT ((az.CX.trans B.CX).drew)) (ah.below (BE _ _).drew) ⟨by rw[f.n];omega,by rw[f.m];omega,by rw[f.x];omega⟩ (λq hq=>by rw[f.x]at hq;have:=f.pos q hq;omega) (by rw[f.L]) (by rw[f.x];omega) om om).mono ?_;rintro e w5 ⟨⟨hu,a5,S5,c0,bm⟩,bp⟩;rw[<-Fm c0,<-b4]at bm;have a7:=B.trans (KX.trans ((KX.refl _ _ _).drew) bp);have au:=Oc (hf:=hf) (x:=sx) (l:=H.take (j+1)) ot (λp hp=>(ae p (List.mem_of_mem_take hp)).1);have F:=bm.Cw p (by rw[au.n];exact a6);rw[au.L]at F;exact⟨hu,⟨S5,bm⟩,a7,(As (a:=(y w 0)) (a7.Bw w.heap.size om (by rintro(e|e)<;>omega))).trans bj,F.k0,F.k1,F.k2,F.k3,F.k4⟩)
    have bg:aL w.heap.size bk (E p) (d.L p).key wr.drew:=⟨b6,R.k0,R.k1,R.k2,R.k3,R.k4⟩;clear f b4 b5 hb R ah B b6 hp;gi_wp2_with fail;refine PN (aL w.heap.size bk (E p) (d.L p).key) ou ?_;change wpAnyH _ _ _ _ _ _ _ _ (World.drew _);refine tz 0 (h:=tz 1 (h:=tz 2 (h:=tz 3 (h:=tz 4 (h:=tz 5 (h:=tz 6 (h:=tz 7 (h:=tz 8 (h:=?_)))))))));refine ry 9 λK hK=>?_;go_simp;refine ar.mono ?_;rintro e w5 ⟨⟨dq,rfl⟩,⟨S5,c3⟩,a7,b7⟩;refine hK.out _ _ b7 λ_=>?_;clear hK K bg ar b7;refine Fj ?_;gi_wp2;go_roundw
    .exact⟨j+1,S5,om,ov,c3,a7⟩
    exact ow
   have c4:j=H.length:=om;subst c4;rw[List.take_length]at ah;have b8:=(B.Bw D om<|by rintro(e|e)<;>omega).trans cN;have c5:Hid<|KX (λb=>b=bk) bk w wr:=O ⟨az.CX.trans B.CX,λb hb hm=>(B.Bw b (oS az.CX.size)<|by rintro(e|e);exact hm e;omega).trans<|az.Bw b hb hm⟩;clear B;gi_wp2;refine⟨oq,.inl ⟨_,_,rfl,AaH b8,?_⟩⟩;have hg:=NX wr D<|.deferred none;exact⟨_,Aaw rfl _ _ _,⟨⟨_,rfl⟩,w1.heap.size,S',by rw[z cu,z cx];exact ah.grown hg (λr e=>by cases e;exact⟨_,b8,rfl⟩),om⟩,c5.grown hg om λk e=>by cases e;exact .inl om⟩
def BC.XZ{p}(h:w.heap[b]?=some (.cells (FZ p i) 303 (0,0))):BC w b p i:=
 ⟨(E1.1 h).1,by simp[World.cell?,h,FZ],by simp[World.cell?,h,FZ],by simp[World.cell?,h,FZ],by simp[World.cell?,h,FZ],by simp[World.cell?,h,FZ],by simp[World.cell?,h,FZ],by simp[World.cell?,h,FZ],by simp[World.cell?,h,FZ],by simp[World.cell?,h,FZ],by simp[World.cell?,h,FZ],by simp[World.cell?,h,FZ],by simp[World.cell?,h,FZ],h⟩
def BC.eR{p}(h:BC w b p i)(j:Nat):BC (w.setCell (G b 11)<|J<|j) b p j:=
 BC.XZ ((Lo w b 11 _ _ _ h.ob).trans<|by simp[FZ])
structure QD (p n0:Nat) (E:Nat->Nat) (n:Nat) (A B:Y):Prop where
 size:A.heap.size<=B.heap.size
 block:∀b,b<n0->b≠p->(∀i,i<n->E i≠b)->B.heap[b]?=A.heap[b]?
 Cw:∀i q,i<n->q≠11->B.cell? (G (E i) q)=A.cell? (G (E i) q)
def QD.refl p n0 E n A:QD p n0 E n A A:=⟨Be _,λ_ _ _ _=>rfl,λ_ _ _ _=>rfl⟩
theorem QD.trans{B}(h:QD p n0 E n A B)(k:QD p n0 E n B C):QD p n0 E n A C:=⟨GP h.size k.size,λb h1 h2 h3=>(k.block b h1 h2 h3).trans<|h.block b h1 h2 h3,λi q h1 h2=>(k.Cw i q h1 h2).trans<|h.Cw i q h1 h2⟩
def QD.Ax{B:Y}(h:Below n0 A B)(a:∀i,i<n->E i<n0):QD p n0 E n A B:=⟨h.size,λb h1 _ _=>h.block b h1,λi q h1 _=>h.cell (p:=G (E i) q)<|a i h1⟩
def QD.put(hn:n0<=w.heap.size)(a:∀i,i<n->E i<n0)W l o o'(hl:w.heap.size<=l)(h:W.heap[l]?=some o)(_:o.isCells=false)(_:o.isWalk=false):QD p n0 E n W<|W.putObj l o':=
 QD.Ax ((BE n0 W).grown (NX W l o') (oS (E1.1 h).1) λk e=>by cases e;omega) a
def Qg(n)(hn:1<=n){bk r D R2}(B p n0){E S}{d}{w}(F:JN w bk r D R2 E S d)(H:Small d)(I:0<d.n->r<n0/\r≠p/\∀i,i<d.n->E i≠r)
  (m0:w.cell? (G B 0)=some (Q9 bk)):
  SeqStopsK Fence.wide n prog 233 #[Q9 B] (λa=>#[Q9 (E a.1)]) (QD p n0 E d.n)
   (aR d) (Te d) d.n w:=λl Z T W C U K M P=>by
 have m0:=(C.cell<|IF _ _ m0).trans m0;have g:=F.below C;obtain⟨a0,k0,c0,v⟩:=g.c0;have Q:=H.n;refine callsIn_of_wp func233 rfl trivial ?_ rfl;simp only[ntmps233,Aar,Aae,X9,Nat.reduceAdd,Nat.reduceSub,Aag,Aaf,Aas,Aai,Aad,Aaq];gi_wp2
 gi_loopw [10] (λi wr=>∃(k:Nat) (pre:List<|Ml d),k<=d.n/\i=J (k:Int)/\II d k pre/\Z pre wr/\QD p n0 E d.n W wr) λi _=>d.n-(intOf i).toNat
 case atStart=>exact⟨0,[],om,rfl,rfl,z<|O P,QD.refl _ _ _ _ _⟩
 case round=>
  obtain⟨k,pre,hk,rfl,c,j,f⟩:=hrel;by_cases b:k<d.n
  .obtain rfl:=z (O v) om;have m:=I om;have V:=(As (a:=G r k)<|f.block _ m.1 m.2.1 m.2.2).trans<|g.r0 k b;have t0:=(f.Cw k 10 b oo).trans (g.Cw k b).tn;by_cases q:(d.L k).turn=0
   .have u:II d (k+1) pre:=by unfold II;rw[B7 q];exact c
    rw[q]at t0;gi_wp2;refine⟨λ_ h=>(by cases h),?_⟩;gi_wp2;go_roundw
    .exact⟨k+1,pre,om,ov,u,j,f⟩
    exact ow
   have R:((d.L k).turn !=0)=true:=by simp[q]
   obtain⟨fn,tmps,assign,body,hy,o⟩:=z (O M) pre ⟨k,b,q⟩ wr j (by
    have h1:=congrArg List.length c;rw[List.length_map]at h1;have:=FI d k;omega)
   have u:Hid<|II d (k+1)<|pre++[⟨k,b,q⟩]:=O (by
    unfold II;rw[Bi q,AaA,show pre.map (·.1)=AW d k from c];rfl)
   dsimp only at hy;gi_wp2;refine o.mono ?_;rintro e X (⟨rfl,x,A⟩|⟨rfl,s⟩)
   .clear hy o;gi_wp2;go_roundw
    .exact⟨k+1,_,om,ov,u,x,f.trans A⟩
    exact ow
   clear hy o;gi_wp2;refine GO (Aaw rfl _ _ _) rfl ?_;exact⟨⟨_,rfl⟩,.inr ⟨_,u.pre om,s⟩⟩
  have t:k=d.n:=om;subst t;gi_wp2;go_end0;exact⟨⟨_,rfl⟩,.inl ⟨pre,c,j⟩⟩
end
noncomputable def Pn(hf:Vl->Nat)(d:Dc):Dc:=if(d.x:Int)<2*(d.used+1)then DR hf d (EV<|(CC d d.n).length+1) (CC d d.n)else d
def KD(e:Nat)(k:Vl)(W:Y):Prop:=W.cell? (G e 0)=some (J k.kind)/\W.cell? (G e 1)=some (J k.num)/\W.cell? (G e 2)=some (F9 k.Af)/\W.cell? (G e 3)=some (.string k.str)/\W.cell? (G e 4)=some (J k.ref)
def NY(C:En T)(hf){bk}(D:∀w w',T w->Below bk w w'->T w'){r0 r1}{R2}{E S}{d}{w:Y}(hT:T w)(P:AG w bk r0 r1 R2 E S d)(hS:Small d)
  (hH:∀i,i<d.n->(d.L i).turn≠0->PW T (d.L i).key (hf (d.L i).key)) (r:(CC d d.n).length+1<=500) (s:BC w (E d.n) (d.L d.n) d.n) (ao:bk<E d.n) (hk:PW T (d.L d.n).key<|hf (d.L d.n).key)
  (hX:∀j,j<d.x->d.X j=0\/d.X j=-1\/0<d.X j) (hu:(B1 d.X d.x:Int)=d.used):
  C9 218 #[.pointer (some<|G bk 0),.pointer (some<|G (E d.n) 0)] w λe w'=>((∃u,e=.returned u)/\∃A S',AG w' bk r0 r1 A E S'<|AR hf (Pn hf d) (d.L d.n).key d.n)/\KX (λb=>b=bk\/b=R2) bk w w':=by
 rcases P.c3,P.c4,hS.x with⟨c3,c4,hx⟩;have aq:B1 d.X d.x<=d.x:=Yl _ _;have ar:IntKind.i64.wrap (d.used+1)=d.used+1:=oj;have au:IntKind.i64.wrap (2*(d.used+1))=2*(d.used+1):=oj;obtain⟨c2,ad⟩:=P.slots.block (b:=R2) rfl;have av:E d.n≠R2:=λe=>Br (e▸s.ob) ad oo;have Q:∀(W:Y) (B:Nat) (I:Nat->Nat) (c:Dc),AG W bk r0 r1 B E I c->Small c->T W->BC W (E d.n) (d.L d.n) d.n->c.n=d.n->c.L=d.L->(∀j,j<c.x->c.X j=0\/c.X j=-1\/0<c.X j)->B1 c.X c.x<c.x->0<=c.used->c.used<=4194304->
   C9 227 #[.pointer (some<|G bk 2),V (d.L d.n).key.kind (d.L d.n).key.num (d.L d.n).key.Af (d.L d.n).key.str (d.L d.n).key.ref,.pointer (some<|G (E d.n) 0)] W λe w'=>((∃u,e=.returned u)/\∃S',AG w' bk r0 r1 B E S'<|AR hf c (d.L d.n).key d.n)/\KX (λb=>b=bk\/b=B) bk W w':=λW B I c h1 h2 h3 h4 h5 h6 h7 h8 h9 ae=>by
  refine(KP C d.n hk h3 h1 h2 h7 (by rw[h6]) h8 h9 ae).mono ?_;rintro e w' ⟨⟨M,a,S',af,hN⟩,ag⟩;refine⟨⟨M,S',?_⟩,ag⟩;rw[Fm af];exact hN
 by_cases M:(d.x:Int)<2*(d.used+1)
 .have hd:decide ((d.x:Int)<2*(d.used+1))=true:=by simpa using M
  have HR:Hid<|Pn hf d=DR hf d (EV<|(CC d d.n).length+1) (CC d d.n):=O<|C3 M;have aw:=US r;have ax:=Py r;have ah:=Oc (hf:=hf) (x:=EV<|(CC d d.n).length+1) (l:=CC d d.n) om λp hp=>(O3 hp).1;have R:Hid<|∀W,B9 w W->C9 226 #[.pointer (some<|G bk 0),J 1] W λe w'=>((∃u,e=.returned u)/\∃A S',AG w' bk r0 r1 A E S' (DR hf d (EV<|(CC d d.n).length+1)<|CC d d.n)/\W.heap.size<=A)/\KX (λb=>b=bk) bk W w':=O λW hW=>IC C hf D 1 (C _ _ hT hW) (P.below hW) hS hH r;generalize DR hf d (EV<|(CC d d.n).length+1) (CC d d.n)=c at*;have ai:=s.lt;go_enter func218,ntmps218;go_wp2_with fail
  go_region
  go_wp2_with fail
  refine(R _ (BE _ _).drew).mono ?_;rintro e w1 ⟨⟨⟨uu,rfl⟩,B,S1,aj,U⟩,f⟩;have f:=(KX.refl _ _ _).drew.trans f;have U:w.heap.size<=B:=U;have z1:=f.CX.size;have q:=s.keep z1<|f.Bw _ ai om;have F:KD (E d.n) (d.L d.n).key w1.drew:=⟨q.k0,q.k1,q.k2,q.k3,q.k4⟩;have g:Hid<|C9 227 #[.pointer (some<|G bk 2),V (d.L d.n).key.kind (d.L d.n).key.num (d.L d.n).key.Af (d.L d.n).key.str (d.L d.n).key.ref,.pointer (some<|G (E d.n) 0)] w1.drew λe w'=>((∃u,e=.returned u)/\∃S',AG w' bk r0 r1 B E S'<|AR hf c (d.L d.n).key d.n)/\KD (E d.n) (d.L d.n).key w'/\KX (λb=>b=bk\/b=R2) bk w w':=O (by
   have o:=ah;have ay:=o.use;have az:=o.used;have Z:=hS;refine(z (O Q) w1.drew B S1 c (aj.below (BE _ _).drew) ⟨by rw[o.n];exact Z.n,by rw[o.m];exact Z.m,by rw[o.x];omega⟩ (D _ _ (z (O hT)) f.CX.drew) (q.keep (Be _) rfl) o.n o.L (λj hj=>by rw[o.x]at hj;have:=o.pos j hj;omega) (by rw[o.x];omega) om om).mono ?_;rintro e w' ⟨h1,h2⟩;have h3:=h2.Bw (E d.n) q.lt (by rintro(e|e)<;>omega);have k:=q.keep h2.CX.size h3;exact⟨h1,⟨k.k0,k.k1,k.k2,k.k3,k.k4⟩,f.CX.trans (AaD (BE _ _).drew h2.CX),λb hb hm=>(h2.Bw b (by show b<w1.heap.size;omega) (by rintro(e|e);exact hm (.inl e);omega)).trans (f.Bw b hb (λe=>hm (.inl e)))⟩)
  go_wp2_with fail
  refine Gq (KD (E d.n) (d.L d.n).key) ?_;refine tz 0 (h:=tz 1 (h:=tz 2 (h:=tz 3 (h:=tz 4 (h:=tz 5 (h:=tz 6 (h:=tz 7 (h:=tz 8 (h:=?_)))))))));refine ry 9 λK hK=>?_;go_simp;refine g.mono ?_;rintro e w2 ⟨⟨⟨ak,rfl⟩,I,H⟩,t,v⟩;refine hK.out _ _ t λ_=>?_;clear hK K F g t;refine Fj ?_;go_wp2;go_end0;exact⟨⟨⟨_,rfl⟩,B,I,by rw[z HR];exact H⟩,v⟩
 have hd:decide ((d.x:Int)<2*(d.used+1))=false:=by simpa using M
 have HR:Hid<|Pn hf d=d:=O<|Cs M;have F:KD (E d.n) (d.L d.n).key w.drew.drew:=⟨s.k0,s.k1,s.k2,s.k3,s.k4⟩;have g:Hid<|C9 227 #[.pointer (some<|G bk 2),V (d.L d.n).key.kind (d.L d.n).key.num (d.L d.n).key.Af (d.L d.n).key.str (d.L d.n).key.ref,.pointer (some<|G (E d.n) 0)] w.drew.drew λe w'=>((∃u,e=.returned u)/\∃S',AG w' bk r0 r1 R2 E S'<|AR hf d (d.L d.n).key d.n)/\KD (E d.n) (d.L d.n).key w'/\KX (λb=>b=bk\/b=R2) bk w w':=O (by
  refine(Q w.drew.drew R2 S d (P.below (BE _ _).drew.drew) hS (D _ _ hT (BE _ _).drew.drew) (s.keep (Be _) rfl) rfl rfl hX om om om).mono ?_;rintro e w' ⟨h1,h2⟩;have h3:=h2.Bw (E d.n) s.lt (by rintro(e|e)<;>omega);have k:=s.keep h2.CX.size h3;exact⟨h1,⟨k.k0,k.k1,k.k2,k.k3,k.k4⟩,KX.trans ((KX.refl _ _ _).drew.drew) h2⟩)
 go_enter func218,ntmps218;go_wp2_with fail
 go_region
 go_wp2_with fail
 refine Gq (KD (E d.n) (d.L d.n).key) ?_;refine tz 0 (h:=tz 1 (h:=tz 2 (h:=tz 3 (h:=tz 4 (h:=tz 5 (h:=tz 6 (h:=tz 7 (h:=tz 8 (h:=?_)))))))));refine ry 9 λK hK=>?_;go_simp;refine g.mono ?_;rintro e w2 ⟨⟨⟨ak,rfl⟩,I,H⟩,t,v⟩;refine hK.out _ _ t λ_=>?_;clear hK K F g t;refine Fj ?_;go_wp2;go_end0;exact⟨⟨⟨_,rfl⟩,R2,I,by rw[z HR];exact H⟩,v⟩
section
variable {w w3:Y} {bk:Nat} {r0 r1:V9} {R2:Nat} {E S:Nat->Nat} {d:Dc}
def AG.mD(h:AG w bk r0 r1 R2 E S d){W:Y}(r:B9 w W){o:Obj}{g3 f}{x}{a}(H:a=CG E x)(h1:w3.ownsRow (bk+1) Df 1 (S9 g3 (d.m+1) f) (d.m+1)<|GN (λi=>CG E<|d.I i) d.m++[.pointer a])(s:W.grownBy w3 r1.ownBlock)(hl:r1.ownBlock=some g3\/w.heap.size<=g3):
  AG (w3.setCell (G bk 1)<|S9 g3 (d.m+1) f) bk r0 (S9 g3 (d.m+1) f) R2 E S {d with m:=d.m+1,I:=AU d.I d.m x}/\KX (λb=>b=bk\/r1.ownBlock=some b) bk w (w3.setCell (G bk 1)<|S9 g3 (d.m+1) f):=by
 have g:=h.lt;have u:=r.size;have hz:=GP u s.size;have l:∀b,b<w.heap.size->r1.ownBlock≠some b->w3.heap[b]?=w.heap[b]?:=λb hb B=>(s.block b om λe=>B e.symm).trans<|r.block b hb;have p:r1.ownBlock≠some bk:=λe=>oS (h.ints.lt bk e).1;have os:∀b,b≠bk->(w3.setCell (G bk 1)<|S9 g3 (d.m+1) f).heap[b]?=w3.heap[b]?:=λb hb=>At _ _ _ _ (by exact hb);have hc:∀q,w3.cell? (G bk q)=w.cell? (G bk q):=λq=>As (a:=G bk q)<|l bk g p;have n:∀q,q≠1->(w3.setCell (G bk 1)<|S9 g3 (d.m+1) f).cell? (G bk q)=w.cell? (G bk q):=λq hq=>(Aa λe=>hq e.symm).trans<|hc q;have ty:∀{t:TypeId} {c:Array Value} {b:Nat},w.heap[b]?=some (.cells c t (0,0))->t≠Df->r1.ownBlock≠some b:=λ{t c b} hb C e=>by
  obtain⟨K,v⟩:=h.ints.block e;exact Br hb v C
 have D:=(World.ownsRow.lt h1 g3 rfl).1;refine⟨⟨by simpa using A0 g hz,(n 0 oo).trans h.c0,I9 _ _ _<|by rw[hc,h.c1];rfl,(n 2 oo).trans h.c2,(n 3 oo).trans h.c3,(n 4 oo).trans h.c4,(n 5 oo).trans h.c5,(n 6 oo).trans h.c6,λq=>by rw[PC];exact(ID (a:=G bk q)<|l bk g p).trans (h.fz q),?_,?_,⟨_,_,rfl⟩,?_,?_,λi hi=>?_,h.eb,h.inj,λj hj=>?_,h.sg⟩,?_⟩
 .exact CD h.log λq e=>(os q<|oS (h.log.lt q e).1).trans<|l q (h.log.lt q e).2 λe'=>h.ap q e e'
 .have h2:(w3.setCell (G bk 1)<|S9 g3 (d.m+1) f).ownsRow (bk+1) Df 1 (S9 g3 (d.m+1) f) (d.m+1)<|GN (λi=>CG E<|d.I i) d.m++[.pointer a]:=CD h1 (λq e=>os q (by
   have e':g3=q:=oF e;omega))
  grind [CG,GN,AU,Uy,Rw.congr,Au,Ao]
 .exact CD h.slots (λq e=>by
   obtain⟨c,hb⟩:=h.slots.block e;exact(os q (oS (h.slots.lt q e).1)).trans (l q (h.slots.lt q e).2 (ty hb oo)))
 .intro q e e';have e2:g3=q:=oF e';subst e2;rcases hl with hl|hl
  .exact h.ap g3 e hl
  have:=(h.log.lt g3 e).2;omega
 .exact(h.Cw i hi).keep (by simpa using hz) ((os _<|oS<|h.eb i hi).trans<|l _ (h.Cw i hi).lt<|ty (h.Cw i hi).ob oo)
 .by_cases F:d.X j=0
  .exact⟨λhp=>absurd hp<|by show¬0<d.X j;omega,λhp=>absurd hp<|by show¬d.X j<0;omega⟩
  exact DC.keep (d:={d with m:=d.m+1,I:=AU d.I d.m x}) (w:=w) (h.sl j hj) (by simpa using hz) λc hc=>(os _<|oS<|h.sg j hj F).trans<|l _ (E1.1 hc).1<|ty hc oo
 refine⟨((r.mono om).grown s om λk e=>oS (h.ints.lt k e).1).setCell (by exact Be _) _,λb hb A=>(os b λe=>A<|.inl e).trans<|l b hb λe=>A<|.inr e⟩
end
end Go.Proofs.YtoobllcjfinmoaaGreatDoor
