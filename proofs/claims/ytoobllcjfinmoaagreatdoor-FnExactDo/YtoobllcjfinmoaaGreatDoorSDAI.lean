import Derived.Test.YtoobllcjfinmoaaGreatDoorSDAH
set_option linter.all false
set_option maxHeartbeats 40000000
set_option maxRecDepth 100000
namespace Go.Proofs.YtoobllcjfinmoaaGreatDoor
open Go.Proofs.Tryz
open Go.RowKit
attribute [local go_sem] Ar Am
variable {w W:Y}{c B n tc g3 b lo hi:Nat}{vF vT vS v:V9}{H:Nat->Hs}{s:AK}{f:Nat->A9}{ta sa a':Option Addr}{a:Ac}
abbrev Vo(c B:Nat)(vF vT vS:V9)(H:Nat->Hs)(s:AK)(a:Ac)(w:Y):Prop:=
 C9 21 #[Q9 c,Kz a] w λe w'=>e=.returned (Hk<|Dd s a)/\∃b d f H',SM w' c B b d f H' (AO s a)/\BF (Bn c vF vT vS H s.nt) w (Bn c b d f H' (AO s a).nt) w'
def SM.ends{w1:Y}(hb:B9 w W)(a:∀k,Bn c vF vT vS H s.nt k->k<w.heap.size)(hz:w.heap.size+1<W.heap.size)(b:SM W c B vF vT vS H s)(d:Iw W<|w.heap.size+1)(h1:B9 W w1)x:
  ∃w2,(Instr.storeAt 45 (Q9<|w.heap.size+1)<|Hk x).run prog w1=.ok () w2/\w2.heap[w.heap.size+1]?=some (.cells (LL x).toArray 45 (0,0))/\SM w2 c B vF vT vS H s/\BF (Bn c vF vT vS H s.nt) w (Bn c vF vT vS H s.nt) w2:=by
 obtain⟨w2,h2,h3⟩:=BB (d.below h1 hz) x;exact⟨w2,h2,h3.Bw,SM.fin hb a om hz (b.below h1) rfl (BF.Ax h1) h3⟩
theorem pC c B vF vT vS H s a w(hD:SM w c B vF vT vS H s)(m:Ls s)(b:CA a=false):Vo c B vF vT vS H s a w:=by
 have d:Hid<|Dd s a=BH 1/\AO s a=s:=O (by simp[Dd,AO,IV,b]);obtain⟨ta,tc,rfl⟩:=AE hD.t;obtain⟨sa,sc,rfl⟩:=AE hD.si;rcases m.nt,m.ns,boxes w a with⟨v,x,⟨W,q,g,hA,r,hz⟩⟩;have A:Hid<|∀k,Bn c vF (.slice ta s.nt tc) (.slice sa s.ns sc) H s.nt k->k<w.heap.size:=O λk h=>(hD.Pm h).2;rcases hD.lt,O<|hD.below g,O g,O hA,O r,O m with⟨C,D,E,I,F,K⟩;clear hD g hA r m;go_enter func21,ntmps21;go_wp2_with fail;rw[<-q];clear q;refine(FU a _).mono ?_;rw[b];rintro e w1 ⟨rfl,i⟩;have u:=O i;clear i;have L:=u.size;have M:w.heap.size<w1.heap.size:=om;have P:w.heap.size+1<w1.heap.size:=om;have Q:c<w1.heap.size:=om;obtain⟨R,j,l,f⟩:=SM.ends E A hz D F u<|BH 1;rcases O j,O f,O l with⟨n,o,p⟩;clear j f l;go_wp2_with (refine Ag rfl rfl _ n ?_);refine FD results21 underlying45 p ?_;rw[(z d).1,(z d).2];exact⟨rfl,_,_,_,_,o⟩
theorem pE c B vF vT vS H s a w(hD:SM w c B vF vT vS H s)(o:Ls s)(b:CA a=true)(A:CV a.op=true)(h2:(s.nt:Int)<=a.t):Vo c B vF vT vS H s a w:=by
 have d:Hid<|Dd s a=BH 2/\AO s a=s:=O (by simp[Dd,AO,IV,b,A,h2]);have e2:decide ((s.nt:Int)<=a.t)=true:=by simpa using h2
 clear h2;generalize P:El a.op=sB;obtain⟨ta,tc,rfl⟩:=AE hD.t;obtain⟨sa,sc,rfl⟩:=AE hD.si;rcases o.nt,o.ns,boxes w a with⟨Q,R,⟨W,C,i,hA,D,hz⟩⟩;have S:Hid<|∀k,Bn c vF (.slice ta s.nt tc) (.slice sa s.ns sc) H s.nt k->k<w.heap.size:=O λk h=>(hD.Pm h).2;rcases hD.lt,O<|hD.below i,O i,O hA,O D,O o with⟨T,E,U,V,X,HG⟩;clear hD i hA D o;go_enter func21,ntmps21;go_wp2_with fail;rw[<-C];clear C;refine(FU a _).mono ?_;rw[b];rintro e w1 ⟨rfl,j⟩;have f:=O j;clear j;have F:=f.size;have I:w.heap.size<w1.heap.size:=om;have K:w.heap.size+1<w1.heap.size:=om;have L:c<w1.heap.size:=om;obtain⟨a0,a1,a2,a3,a4,a5,Z,a7,a8,a9,p,q,a12,r⟩:=(V.below f om).all;obtain⟨_,c1,c2,_⟩:=(E.below f).cells;go_wp2_with fail;refine(Fq a.op _).mono ?_;rw[A,P];rintro e w2 ⟨rfl,M⟩;rw[M];clear M w2;go_wp2_with fail;refine qr w1 ?_;(iterate 11 refine N (h:=?_));refine GS ?_;intro w2 l;clear F I K L a0 a1 a2 a3 a4 a5 Z a7 a8 a9 p q a12 r c1 c2;have f:=O<|o8 f l;clear l;have F:=f.size;have I:w.heap.size<w2.heap.size:=om;have K:w.heap.size+1<w2.heap.size:=om;have L:c<w2.heap.size:=om;obtain⟨w9,m,n,g⟩:=SM.ends U S hz E X f<|BH 2;rcases O m,O g,O n with⟨u,v,x⟩;clear m g n;go_wp2_with (refine Ag rfl rfl _ u ?_);refine FD results21 underlying45 x ?_;rw[(z d).1,(z d).2];exact⟨rfl,_,_,_,_,v⟩
theorem pG c B vF vT vS H s a w(hD:SM w c B vF vT vS H s)(R:Ls s)(d:CA a=true)(u:CV a.op=true)(v:El a.op=true)(h2:a.t<(s.nt:Int))(h3:(s.ns:Int)<=a.site):Vo c B vF vT vS H s a w:=by
 have f:Hid<|Dd s a=BH 3/\AO s a=s:=O (by simp[Dd,AO,IV,d,u,v,h3,show¬(s.nt:Int)<=a.t by omega]);have e2:decide ((s.nt:Int)<=a.t)=false:=by simpa using h2
 have e3:decide ((s.ns:Int)<=a.site)=true:=by simpa using h3
 obtain⟨ta,tc,rfl⟩:=AE hD.t;obtain⟨sa,sc,rfl⟩:=AE hD.si;obtain⟨W,E,i,hA,F,hz⟩:=boxes w a;have I:Hid<|∀k,Bn c vF (.slice ta s.nt tc) (.slice sa s.ns sc) H s.nt k->k<w.heap.size:=O λk h=>(hD.Pm h).2;have K:=hD.lt;have l:=hD.below i;go_enter func21,ntmps21;go_wp2_with fail;rw[<-E];refine(FU a _).mono ?_;rw[d];rintro e w1 ⟨rfl,m⟩;have b:=O m;have x:=b.size;have A:w.heap.size<w1.heap.size:=om;have C:w.heap.size+1<w1.heap.size:=om;have D:c<w1.heap.size:=om;obtain⟨a0,a1,a2,a3,a4,a5,L,M,P,a9,n,o,a12,p⟩:=(hA.below b om).all;obtain⟨_,c1,c2,_⟩:=(l.below b).cells;go_wp2_with fail;refine(Fq a.op _).mono ?_;rw[u,v];rintro e w2 ⟨rfl,Q⟩;rw[Q];go_wp2_with fail;refine qr w1 ?_;(iterate 11 refine N (h:=?_));refine GS ?_;intro w2 g;have b:=o8 b g;have x:=b.size;have A:w.heap.size<w2.heap.size:=om;have C:w.heap.size+1<w2.heap.size:=om;have D:c<w2.heap.size:=om;obtain⟨a0,a1,a2,a3,a4,a5,L,M,P,a9,n,o,a12,p⟩:=(hA.below b om).all;obtain⟨_,c1,c2,_⟩:=(l.below b).cells;go_wp2_with fail;refine qr w2 ?_;(iterate 11 refine N (h:=?_));refine GS ?_;intro w3 g;have b:=o8 b g;have x:=b.size;have A:w.heap.size<w3.heap.size:=om;have C:w.heap.size+1<w3.heap.size:=om;have D:c<w3.heap.size:=om;obtain⟨S,q,r,j⟩:=SM.ends i I hz l F b<|BH 3;go_wp2_with (refine Ag rfl rfl _ (z<|O q) ?_);refine FD results21 underlying45 (z<|O r) ?_;rw[(z f).1,(z f).2];exact⟨rfl,_,_,_,_,z<|O j⟩
def BW.wH{f}(h:BW w B v n f):∃a c,v=.slice a n c/\FA w a n f:=by
 obtain⟨hl,⟨d,e⟩|⟨g,cap,cur,d,hb,b,_⟩⟩:=id h;all_goals grind [FA,AE,Ah,BW.at]
def SM.vE(h:SM w c B vF (.slice ta s.nt tc) vS H s):RH w ta s.nt s.T:=by
 rcases Aav s.nt with e|e
 .exact .inl e
 obtain⟨g,A,j,k,_,_,_⟩:=h.CU e;cases j;refine .inr ⟨g,0,rfl,k,λi hi=>?_⟩;obtain⟨g',m,hv',_,_,hc,_⟩:=h.CU hi;cases hv';rcases (h.v i hi).wH,(h.l i hi).at,(h.i i hi).at,(h.x i hi).at,hc 0 _ rfl,hc 1 _ rfl,hc 2 _ rfl,hc 3 _ rfl,hc 4 _ rfl with⟨⟨va,vc,n,o⟩,⟨la,lc,el,p⟩,⟨ia,ic,q,r⟩,⟨xa,xc,ex,t⟩,u,a,b,d,f⟩;rw[n]at a;rw[el]at b;rw[q]at d;rw[ex]at f;rw[We];exact⟨va,vc,la,lc,ia,ic,xa,xc,⟨u,a,b,d,f,hc 5 _ rfl,hc 6 _ rfl,hc 7 _ rfl⟩,o,p,r,t⟩
def pU(h:Ls s){t}(a:t<s.nt):gI s (s.T t)<=500:=by
 unfold gI;split
 .rcases(h.t t a).way with⟨_,_,b⟩|⟨j,e,_⟩
  .have h1:=b.i0.log.CI;have h2:=b.i0.le;omega
  omega
 rcases(h.t t a).way with⟨e,_⟩|⟨j,e,hj,_⟩
 .omega
 have:=IB h.f hj;grind [gI]
def Lx(ab:Nat)(a:Ac)(W:Y):Prop:=W.cell? (G ab 0)=some (J a.op)/\W.cell? (G ab 1)=some (J a.t)/\W.cell? (G ab 2)=some (J a.site)/\W.cell? (G ab 3)=some (J a.n)/\W.cell? (G ab 4)=some (J a.k.kind)/\W.cell? (G ab 5)=some (J a.k.num)/\W.cell? (G ab 6)=some (F9 a.k.Af)/\W.cell? (G ab 7)=some (.string a.k.str)/\W.cell? (G ab 8)=some (J a.k.ref)/\W.cell? (G ab 9)=some (J a.v.kind)/\W.cell? (G ab 10)=some (J a.v.num)/\W.cell? (G ab 11)=some (F9 a.v.Af)/\W.cell? (G ab 12)=some (.string a.v.str)/\W.cell? (G ab 13)=some (J a.v.ref)
def Lu:Hs:=⟨N9,N9,N9,N9⟩
def R4{q}:¬Lu.own q:=by
 rintro(e|e|e|e)<;>cases e
section
variable {W X w3:Y} {c B:Nat} {vF vS:V9} {H:Nat->Hs} {s:AK}
def SM.rI(h:SM W c B vF (.slice ta s.nt tc) vS H s)(hb:B9 W X)(g:X.grownBy w3 (Value.slice ta s.nt tc).ownBlock)(r:w3.ownsRow B 105 8 (S9 g3 (s.nt+1) b) (s.nt+1)<|Ro H s.T s.nt++Ip Lu Lv)(hl:(Value.slice ta s.nt tc).ownBlock=some g3\/X.heap.size<=g3):
  w3.heap[c]?=some (.cells #[vF,.slice ta s.nt tc,vS] 42 (0,0))/\SM (w3.setCell (G c 1)<|S9 g3 (s.nt+1) b) c B vF (S9 g3 (s.nt+1) b) vS (AX H s.nt Lu) {s with nt:=s.nt+1,T:=AX s.T s.nt Lv}/\
  BF (Bn c vF (.slice ta s.nt tc) vS H s.nt) W (Bn c vF (S9 g3 (s.nt+1) b) vS (AX H s.nt Lu)<|s.nt+1) (w3.setCell (G c 1)<|S9 g3 (s.nt+1) b):=by
 have hk:∀k,k<W.heap.size->(Value.slice ta s.nt tc).ownBlock≠some k->w3.heap[k]?=W.heap[k]?:=λk h1 h2=>(g.block k (oS hb.size) λe=>h2 e.symm).trans<|hb.block k h1;have w:=(hk c h.lt<|h.Ba h.t oo).trans h.Bw;have st:∀k,k≠c->(w3.setCell (G c 1)<|S9 g3 (s.nt+1) b).heap[k]?=w3.heap[k]?:=λk hk=>At _ _ _ _ (by exact hk);have row:∀{e Z n:Nat} {u:V9} {xs:List Value},W.ownsRow B e Z u n xs->e≠42->e≠105->∀q,u.ownBlock=some q->(w3.setCell (G c 1)<|S9 g3 (s.nt+1) b).heap[q]?=W.heap[q]?:=λp h1 h2 q e=>(st q λe'=>h.Ba p h1<|by rw[<-e'];exact e).trans<|hk q (p.lt q e).2<|Cd p h.t h2 e;have A:g3≠c:=by
  rcases hl with e|e
  .exactλe'=>h.Ba h.t oo<|by rw[<-e'];exact e
  have:=h.lt;have:=hb.size;omega
 refine⟨w,⟨h.base,?_,Ab h.f<|row h.f oo oo,?_,Ab h.si<|row h.si oo oo,λj hj=>?_,λj hj=>?_,λj hj=>?_,λj hj=>?_,λj hj=>?_,λj k q hj o e e'=>?_⟩,⟨g.os.trans hb.os,g.tape.trans hb.tape,g.output.trans hb.output,by have:=g.size;have:=hb.size;simp;omega,λk k1 k2=>?_,λk e=>?_⟩⟩
 .simp[World.setCell,Array.getElem?_modify,w]
 .rw[U3]at r;exact Ab r λq e=>by
   have:g3=q:=oF e;exact st q om
 .show BW _ B (AX H s.nt Lu j).v (AX s.T s.nt Lv j).nv (AX s.T s.nt Lv j).V;by_cases e:j=s.nt
  .subst e;rw[Ai,Ai];exact NB _ _ _ _
  have a:j<s.nt:=by have:j<s.nt+1:=hj;omega
  rw[Ak _ _ e,Ak _ _ e];exact Ab (h.v j a)<|row (h.v j a) oo oo
 .show BP _ B (AX H s.nt Lu j).l (AX s.T s.nt Lv j).d.n (AX s.T s.nt Lv j).d.L;by_cases e:j=s.nt
  .subst e;rw[Ai,Ai];exact NB _ _ _ _
  have a:j<s.nt:=by have:j<s.nt+1:=hj;omega
  rw[Ak _ _ e,Ak _ _ e];exact Ab (h.l j a)<|row (h.l j a) oo oo
 .show Bo _ B (AX H s.nt Lu j).i (AX s.T s.nt Lv j).d.m (AX s.T s.nt Lv j).d.I;by_cases e:j=s.nt
  .subst e;rw[Ai,Ai];exact NB _ _ _ _
  have a:j<s.nt:=by have:j<s.nt+1:=hj;omega
  rw[Ak _ _ e,Ak _ _ e];exact Ab (h.i j a)<|row (h.i j a) oo oo
 .show Bo _ B (AX H s.nt Lu j).x (AX s.T s.nt Lv j).d.x (AX s.T s.nt Lv j).d.X;by_cases e:j=s.nt
  .subst e;rw[Ai,Ai];exact NB _ _ _ _
  have a:j<s.nt:=by have:j<s.nt+1:=hj;omega
  rw[Ak _ _ e,Ak _ _ e];exact Ab (h.x j a)<|row (h.x j a) oo oo
 .show∀q,(AX H s.nt Lu j).i.ownBlock=some q->(AX H s.nt Lu j).x.ownBlock≠some q;by_cases e:j=s.nt
  .subst e;rw[Ai];intro q e;cases e
  have a:j<s.nt:=by have:j<s.nt+1:=hj;omega
  rw[Ak _ _ e];exact h.ap j a
 .have hj:j<s.nt+1:=hj;have o:k<s.nt+1:=o;by_cases e1:j=s.nt
  .subst e1;rw[Ai]at e;exact absurd e R4
  by_cases e2:k=s.nt
  .subst e2;rw[Ai]at e';exact absurd e' R4
  rw[Ak _ _ e1]at e;rw[Ak _ _ e2]at e';exact h.ij j k q om om e e'
 .exact(st k λe=>k2<|.inl e).trans (hk k k1 λe=>k2<|.inr<|.inr<|.inl e)
 rcases e with e|e|e|e|⟨j,hj,e⟩
 .exact .inl (.inl e)
 .exact .inl (.inr<|.inl e)
 .have e':g3=k:=oF e;rcases hl with h1|h1
  .exact .inl (.inr<|.inr<|.inl<|by rw[<-e'];exact h1)
  exact .inr<|oS hb.size
 .exact .inl (.inr<|.inr<|.inr<|.inl e)
 by_cases e1:j=s.nt
 .subst e1;rw[Ai]at e;exact absurd e R4
 rw[Ak _ _ e1]at e;exact .inl<|.inr<|.inr<|.inr<|.inr ⟨j,om,e⟩
def SM.lZ{sc a}(h:SM W c B vF vT (.slice sa s.ns sc) H s)x(hb:B9 W X)(b:X.grownBy w3 (Value.slice sa s.ns sc).ownBlock)(g:w3.ownsRow B 107 5 (S9 g3 (s.ns+1) a) (s.ns+1)<|Jk s.S s.ns++GD x)(hl:(Value.slice sa s.ns sc).ownBlock=some g3\/X.heap.size<=g3):
  w3.heap[c]?=some (.cells #[vF,vT,.slice sa s.ns sc] 42 (0,0))/\SM (w3.setCell (G c 2)<|S9 g3 (s.ns+1) a) c B vF vT (S9 g3 (s.ns+1) a) H {s with ns:=s.ns+1,S:=AX s.S s.ns x}/\
  BF (Bn c vF vT (.slice sa s.ns sc) H s.nt) W (Bn c vF vT (S9 g3 (s.ns+1) a) H s.nt) (w3.setCell (G c 2)<|S9 g3 (s.ns+1) a):=by
 have hk:∀k,k<W.heap.size->(Value.slice sa s.ns sc).ownBlock≠some k->w3.heap[k]?=W.heap[k]?:=λk h1 h2=>(b.block k (oS hb.size) λe=>h2 e.symm).trans<|hb.block k h1;have m:=(hk c h.lt<|h.Ba h.si oo).trans h.Bw;have st:∀k,k≠c->(w3.setCell (G c 2)<|S9 g3 (s.ns+1) a).heap[k]?=w3.heap[k]?:=λk hk=>At _ _ _ _ (by exact hk);have row:∀{e Z n:Nat} {u:V9} {xs:List Value},W.ownsRow B e Z u n xs->e≠42->e≠107->∀q,u.ownBlock=some q->(w3.setCell (G c 2)<|S9 g3 (s.ns+1) a).heap[q]?=W.heap[q]?:=λd h1 h2 q e=>(st q λe'=>h.Ba d h1<|by rw[<-e'];exact e).trans<|hk q (d.lt q e).2<|Cd d h.si h2 e;have o:g3≠c:=by
  rcases hl with e|e
  .exactλe'=>h.Ba h.si oo<|by rw[<-e'];exact e
  have:=h.lt;have:=hb.size;omega
 refine⟨m,⟨h.base,?_,Ab h.f<|row h.f oo oo,Ab h.t<|row h.t oo oo,?_,λj hj=>Ab (h.v j hj)<|row (h.v j hj) oo oo,λj hj=>Ab (h.l j hj)<|row (h.l j hj) oo oo,λj hj=>Ab (h.i j hj)<|row (h.i j hj) oo oo,λj hj=>Ab (h.x j hj)<|row (h.x j hj) oo oo,h.ap,h.ij⟩,⟨b.os.trans hb.os,b.tape.trans hb.tape,b.output.trans hb.output,by have:=b.size;have:=hb.size;simp;omega,λk k1 k2=>?_,λk e=>?_⟩⟩
 .simp[World.setCell,Array.getElem?_modify,m]
 .rw[UQ]at g;exact Ab g λq e=>by
   have:g3=q:=oF e;exact st q om
 .exact(st k λe=>k2<|.inl e).trans (hk k k1 λe=>k2<|.inr<|.inr<|.inr<|.inl e)
 rcases e with e|e|e|e|e
 .exact .inl (.inl e)
 .exact .inl (.inr<|.inl e)
 .exact .inl (.inr<|.inr<|.inl e)
 .have e':g3=k:=oF e;rcases hl with h1|h1
  .exact .inl (.inr<|.inr<|.inr<|.inl<|by rw[<-e'];exact h1)
  exact .inr<|oS hb.size
 exact .inl<|.inr<|.inr<|.inr<|.inr e
end
section
variable {W X w3:Y} {c B:Nat} {vF vS:V9} {H:Nat->Hs} {s:AK}
def SM.rH{b}{t0}{g}(h:SM W c B vF (.slice ta s.nt tc) vS H s)(hb:B9 W X)(p:X.grownBy w3 (Value.slice ta s.nt tc).ownBlock)(D:w3.ownsRow B 105 8 (S9 g3 (s.nt+1) g) (s.nt+1)<|Ro H s.T s.nt++Ip b t0)(hl:(Value.slice ta s.nt tc).ownBlock=some g3\/X.heap.size<=g3)
  (nv:BW X B b.v t0.nv t0.V) (E:BP X B b.l t0.d.n t0.d.L) (F:Bo X B b.i t0.d.m t0.d.I) (K:Bo X B b.x t0.d.x t0.d.X) (C:∀q,b.i.ownBlock=some q->b.x.ownBlock≠some q) (r:∀q,b.own q->W.heap.size<=q):
  w3.heap[c]?=some (.cells #[vF,.slice ta s.nt tc,vS] 42 (0,0))/\SM (w3.setCell (G c 1)<|S9 g3 (s.nt+1) g) c B vF (S9 g3 (s.nt+1) g) vS (AX H s.nt b) {s with nt:=s.nt+1,T:=AX s.T s.nt t0}/\
  BF (Bn c vF (.slice ta s.nt tc) vS H s.nt) W (Bn c vF (S9 g3 (s.nt+1) g) vS (AX H s.nt b)<|s.nt+1) (w3.setCell (G c 1)<|S9 g3 (s.nt+1) g):=by
 have hk:∀k,k<W.heap.size->(Value.slice ta s.nt tc).ownBlock≠some k->w3.heap[k]?=W.heap[k]?:=λk h1 h2=>(p.block k (oS hb.size) λe=>h2 e.symm).trans<|hb.block k h1;have M:=(hk c h.lt<|h.Ba h.t oo).trans h.Bw;have st:∀k,k≠c->(w3.setCell (G c 1)<|S9 g3 (s.nt+1) g).heap[k]?=w3.heap[k]?:=λk hk=>At _ _ _ _ (by exact hk);have row:∀{e Z n:Nat} {u:V9} {xs:List Value},W.ownsRow B e Z u n xs->e≠42->e≠105->∀q,u.ownBlock=some q->(w3.setCell (G c 1)<|S9 g3 (s.nt+1) g).heap[q]?=W.heap[q]?:=λw h1 h2 q e=>(st q λe'=>h.Ba w h1<|by rw[<-e'];exact e).trans<|hk q (w.lt q e).2<|Cd w h.t h2 e;have o:∀{e Z n:Nat} {u:V9} {xs:List Value},X.ownsRow B e Z u n xs->(∀q,u.ownBlock=some q->b.own q)->e≠105->∀q,u.ownBlock=some q->(w3.setCell (G c 1)<|S9 g3 (s.nt+1) g).heap[q]?=X.heap[q]?:=λw h1 h2 q e=>(st q λe'=>by have:=r q<|h1 q e;have:=h.lt;omega).trans<|p.block q (w.lt q e).2 (λe'=>by have:=r q<|h1 q e;have:=(h.t.lt q e'.symm).2;omega);have P:g3≠c:=by
  rcases hl with e|e
  .exactλe'=>h.Ba h.t oo<|by rw[<-e'];exact e
  have:=h.lt;have:=hb.size;omega
 refine⟨M,⟨h.base,?_,Ab h.f<|row h.f oo oo,?_,Ab h.si<|row h.si oo oo,λj hj=>?_,λj hj=>?_,λj hj=>?_,λj hj=>?_,λj hj=>?_,λj k q hj A e e'=>?_⟩,⟨p.os.trans hb.os,p.tape.trans hb.tape,p.output.trans hb.output,by have:=p.size;have:=hb.size;simp;omega,λk k1 k2=>?_,λk e=>?_⟩⟩
 .simp[World.setCell,Array.getElem?_modify,M]
 .rw[U3]at D;exact Ab D λq e=>by
   have:g3=q:=oF e;exact st q om
 .show BW _ B (AX H s.nt b j).v (AX s.T s.nt t0 j).nv (AX s.T s.nt t0 j).V;by_cases e:j=s.nt
  .subst e;rw[Ai,Ai];exact Ab nv<|o nv (λq e=>.inl e) oo
  have a:j<s.nt:=by have:j<s.nt+1:=hj;omega
  rw[Ak _ _ e,Ak _ _ e];exact Ab (h.v j a)<|row (h.v j a) oo oo
 .show BP _ B (AX H s.nt b j).l (AX s.T s.nt t0 j).d.n (AX s.T s.nt t0 j).d.L;by_cases e:j=s.nt
  .subst e;rw[Ai,Ai];exact Ab E<|o E (λq e=>.inr<|.inl e) oo
  have a:j<s.nt:=by have:j<s.nt+1:=hj;omega
  rw[Ak _ _ e,Ak _ _ e];exact Ab (h.l j a)<|row (h.l j a) oo oo
 .show Bo _ B (AX H s.nt b j).i (AX s.T s.nt t0 j).d.m (AX s.T s.nt t0 j).d.I;by_cases e:j=s.nt
  .subst e;rw[Ai,Ai];exact Ab F<|o F (λq e=>.inr<|.inr<|.inl e) oo
  have a:j<s.nt:=by have:j<s.nt+1:=hj;omega
  rw[Ak _ _ e,Ak _ _ e];exact Ab (h.i j a)<|row (h.i j a) oo oo
 .show Bo _ B (AX H s.nt b j).x (AX s.T s.nt t0 j).d.x (AX s.T s.nt t0 j).d.X;by_cases e:j=s.nt
  .subst e;rw[Ai,Ai];exact Ab K<|o K (λq e=>.inr<|.inr<|.inr e) oo
  have a:j<s.nt:=by have:j<s.nt+1:=hj;omega
  rw[Ak _ _ e,Ak _ _ e];exact Ab (h.x j a)<|row (h.x j a) oo oo
 .show∀q,(AX H s.nt b j).i.ownBlock=some q->(AX H s.nt b j).x.ownBlock≠some q;by_cases e:j=s.nt
  .subst e;rw[Ai];exact C
  have a:j<s.nt:=by have:j<s.nt+1:=hj;omega
  rw[Ak _ _ e];exact h.ap j a
 .have hj:j<s.nt+1:=hj;have A:k<s.nt+1:=A;by_cases e1:j=s.nt
  .by_cases e2:k=s.nt
   .omega
   subst e1;rw[Ai]at e;rw[Ak _ _ e2]at e';have:=r q e;have:=(h.row (i:=k) om e').2.1;omega
  by_cases e2:k=s.nt
  .subst e2;rw[Ai]at e';rw[Ak _ _ e1]at e;have:=r q e';have:=(h.row (i:=j) om e).2.1;omega
  rw[Ak _ _ e1]at e;rw[Ak _ _ e2]at e';exact h.ij j k q om om e e'
 .exact(st k λe=>k2<|.inl e).trans (hk k k1 λe=>k2<|.inr<|.inr<|.inl e)
 rcases e with e|e|e|e|⟨j,hj,e⟩
 .exact .inl (.inl e)
 .exact .inl (.inr<|.inl e)
 .have e':g3=k:=oF e;rcases hl with h1|h1
  .exact .inl (.inr<|.inr<|.inl<|by rw[<-e'];exact h1)
  exact .inr<|oS hb.size
 .exact .inl (.inr<|.inr<|.inr<|.inl e)
 by_cases e1:j=s.nt
 .subst e1;rw[Ai]at e;exact .inr<|r k e
 rw[Ak _ _ e1]at e;exact .inl<|.inr<|.inr<|.inr<|.inr ⟨j,om,e⟩
end
structure Td (wr:Y) (va:T9) (vc:Nat) (la:T9) (lc:Nat) (ia:T9) (ic:Nat) (xa:T9) (xc:Nat) (t:Tb) (q:Nat) (vV:V9) (wj:Y):Prop where
 b5:wj.heap[wr.heap.size]?=some (.cells #[J t.shape,.slice va t.nv vc,.slice la t.d.n lc,.slice ia t.d.m ic,.slice xa t.d.x xc,J t.d.used,J t.d.live,J t.d.turns] 105 (0,0))
 b6:wj.heap[wr.heap.size+1]?=some (.cells #[J t.shape,vV,N9,N9,N9,J 0,J 0,J 0] 105 (0,0))
 row:BW wj (wr.heap.size+2) vV q t.V
 below:B9 wr wj
section
variable {wr wj X w5:Y} {va:Option Addr} {vc:Nat} {la:Option Addr} {lc:Nat} {ia:Option Addr} {ic:Nat} {xa:Option Addr} {xc:Nat} {t:Tb} {q:Nat} {vV:V9}
def Td.step(h:Td wr va vc la lc ia ic xa xc t q vV wj){g3 a}(hb:B9 wj X)(c:X.grownBy w5 vV.ownBlock)(d:w5.ownsRow (wr.heap.size+2) 43 5 (S9 g3 (q+1) a) (q+1)<|MO t.V q++Hh (t.V q))(hl:vV.ownBlock=some g3\/X.heap.size<=g3):
  w5.heap[wr.heap.size+1]?=some (.cells #[J t.shape,vV,N9,N9,N9,J 0,J 0,J 0] 105 (0,0))/\Td wr va vc la lc ia ic xa xc t (q+1) (S9 g3 (q+1) a) (w5.setCell (Y9 wr 1)<|S9 g3 (q+1) a):=by
 have g:=Ah h.b6;have b:∀k,vV.ownBlock=some k->wr.heap.size+2<=k:=λk e=>(h.row.lt k e).1;have hk:∀k,k<wj.heap.size->vV.ownBlock≠some k->w5.heap[k]?=wj.heap[k]?:=λk h1 h2=>(c.block k (oS hb.size) λe=>h2 e.symm).trans<|hb.block k h1;have st:∀k,k≠wr.heap.size+1->(w5.setCell (Y9 wr 1)<|S9 g3 (q+1) a).heap[k]?=w5.heap[k]?:=λk hk=>At _ _ _ _ (by exact hk);have f:=(hk (wr.heap.size+1) g λe=>oS<|b _ e).trans h.b6;have i:g3≠wr.heap.size+1:=by
  rcases hl with e|e
  .have:=b _ e;omega
  have:=hb.size;omega
 rcases hb.size,c.size,h.below.size with⟨j,z2,z3⟩;refine⟨f,(st _ om).trans<|(hk _ om λe=>oS<|b _ e).trans h.b5,CM f _,?_,?_⟩
 .rw[PJ,Iq]at d;exact Ab d λk e=>by
   have:g3=k:=oF e;exact st k om
 have hs:=Mb w5 (Y9 wr 1)<|S9 g3 (q+1) a;exact⟨by rw[hs.1,c.os,hb.os,h.below.os],by rw[hs.2.1,c.tape,hb.tape,h.below.tape],by rw[hs.2.2.1,c.output,hb.output,h.below.output],by rw[hs.2.2.2];omega,λk k1=>(st k om).trans<|(hk k om λe=>oS<|b _ e).trans<|h.below.block k k1⟩
def Td.IY(h:Td wr va vc la lc ia ic xa xc t t.nv vV wj){w4:Y}{v0 v1 v2}(hb:B9 wj w4)(b:iA w4 (wj.heap.size+1) v0 v1 v2 t.d){a:Y}(c:a=(((((w4.setCell (G (wr.heap.size+1) 2) v0).setCell (G (wr.heap.size+1) 3) v1).setCell (G (wr.heap.size+1) 4) v2).setCell (G (wr.heap.size+1) 5)<|J t.d.used).setCell (G (wr.heap.size+1) 6)<|J t.d.live).setCell (G (wr.heap.size+1) 7) (J t.d.turns)):
  a.heap[wr.heap.size+1]?=some (.cells (Ip ⟨vV,v0,v1,v2⟩ t).toArray 105 (0,0))/\BW a (wr.heap.size+2) vV t.nv t.V/\BP a (wr.heap.size+2) v0 t.d.n t.d.L/\Bo a (wr.heap.size+2) v1 t.d.m t.d.I/\Bo a (wr.heap.size+2) v2 t.d.x t.d.X/\B9 wr a:=by
 have f:=Ah h.b6;have g:=(hb.block _ f).trans h.b6;have st:∀k,k≠wr.heap.size+1->a.heap[k]?=w4.heap[k]?:=λk hk=>by
  rw[c];iterate 6 rw[At _ _ _ _ (by exact hk)]
 have hs:a.os=w4.os/\a.tape=w4.tape/\a.output=w4.output/\a.heap.size=w4.heap.size:=by
  rw[c];refine⟨?_,?_,?_,?_⟩
  .iterate 6 rw[(Mb _ _ _).1]
  .iterate 6 rw[(Mb _ _ _).2.1]
  .iterate 6 rw[(Mb _ _ _).2.2.1]
  iterate 6 rw[(Mb _ _ _).2.2.2]
 have i:=hb.size;have z3:=h.below.size;refine⟨?_,Ab h.row λk e=>?_,Ab (D7 b.log om) λk e=>st k<|oS (b.log.lt k e).1,Ab (D7 b.ints om) λk e=>st k<|oS (b.ints.lt k e).1,Ab (D7 b.index om) λk e=>st k<|oS (b.index.lt k e).1,⟨by rw[hs.1,hb.os,h.below.os],by rw[hs.2.1,hb.tape,h.below.tape],by rw[hs.2.2.1,hb.output,h.below.output],by rw[hs.2.2.2];omega,λk k1=>(st k om).trans<|(hb.block k om).trans<|h.below.block k k1⟩⟩
 .rw[c];exact CM (CM (CM (CM (CM (CM g _) _) _) _) _) _
 have:=h.row.lt k e;exact(st k om).trans (hb.block k this.2)
end
def RA(b:Nat)(h:Hs)(t:Tb)(W:Y):Prop:=W.cell? (G b 0)=some (J t.shape)/\W.cell? (G b 1)=some h.v/\W.cell? (G b 2)=some h.l/\W.cell? (G b 3)=some h.i/\W.cell? (G b 4)=some h.x/\W.cell? (G b 5)=some (J t.d.used)/\W.cell? (G b 6)=some (J t.d.live)/\W.cell? (G b 7)=some (J t.d.turns)
def Jy{h}{t}(hb:W.heap[b]?=some (.cells (Ip h t).toArray 105 (0,0))):RA b h t W:=by
 refine⟨?_,?_,?_,?_,?_,?_,?_,?_⟩;all_goals(rw[MM W b _ _ _ _ hb];rfl)
def Rz(b:Nat)(x:Si)(W:Y):Prop:=W.cell? (G b 0)=some (.string x.key)/\W.cell? (G b 1)=some (J x.shape)/\W.cell? (G b 2)=some (J x.place)/\W.cell? (G b 3)=some (J x.BZ)/\W.cell? (G b 4)=some (J x.AB)
def Jw{x}(hb:W.heap[b]?=some (.cells (GD x).toArray 107 (0,0))):Rz b x W:=by
 refine⟨?_,?_,?_,?_,?_⟩;all_goals(rw[MM W b _ _ _ _ hb];rfl)
def fU(h:a.op=8\/a.op=9):(BK s a).nt=s.nt:=by
 unfold BK;rcases h with h|h
 .simp[h,AY]
 simp only[h];simp only[show¬((9:Int)=1) by decide,show¬((9:Int)=7) by decide,show¬((9:Int)=2) by decide,show¬((9:Int)=8) by decide,XN,if_true];split
 .rfl
 exact NA _ _ _ _
def Rj(hD:SM w c B vF vT vS H s)(Z:Ls s)(m:CA a=true)(hop:a.op=8\/a.op=9)(t:Nat)(et:a.t=t)(h2:t<s.nt)(i:Nat)(es:a.site=i)(h3:i<s.ns)(hv:a.v.ok=true):Vo c B vF vT vS H s a w:=by
 rcases hop with hop|hop
 case' inl=>
  have d8:(a.op==8)=true:=by simp[hop]
  have d9:(a.op==9)=false:=by simp[hop]
 case' inr=>
  have d8:(a.op==8)=false:=by simp[hop]
  have d9:(a.op==9)=true:=by simp[hop]
 all_goals
  have hT:CV a.op=true:=by rw[hop];decide
  have hS:El a.op=true:=by rw[hop];decide
  obtain⟨kc,M⟩:=qa<|Dg a.k;obtain⟨q,P⟩:=qa<|DA a.k;have n:Hid<|Dd s a=Dk s a/\AO s a=BK s a:=O (by
   have h0:IV a s.nt s.ns=0:=by
    have x1:¬(s.nt:Int)<=a.t:=om;have x2:¬(s.ns:Int)<=a.site:=om;simp[IV,m,CV,El,hop,x1,x2]
   rw[Dd,AO,C3 h0,C3 h0];exact⟨rfl,rfl⟩)
  have e2:decide ((s.nt:Int)<=a.t)=false:=ot;have e3:decide ((s.ns:Int)<=a.site)=false:=ot;have ES:=O es;have o:Hid<|a.op=8\/a.op=9:=O om;clear es;have ad:=O M;have ae:=O P;clear M P;have d1:(a.op==1)=false:=by simp[hop]
  have d2:(a.op==2)=false:=by simp[hop]
  have d3:(a.op==3)=false:=by simp[hop]
  have d7:(a.op==7)=false:=by simp[hop]
  have aj:=O hop;clear hop;have ET:=O et;clear et;obtain⟨ta,tc,rfl⟩:=AE hD.t;obtain⟨sa,sc,rfl⟩:=AE hD.si;rcases Z.nt,Z.ns,boxes w a with⟨ak,ao,⟨W,hW,r,hA,hR,hz⟩⟩;have HO:Hid<|∀k,Bn c vF (.slice ta s.nt tc) (.slice sa s.ns sc) H s.nt k->k<w.heap.size:=O λk h=>(hD.Pm h).2;rcases hD.lt,O<|hD.below r,O r,O hA,O hR,O Z with⟨aq,Q,HB,HA,HQ,HG⟩;clear hD r hA hR Z;go_enter func21,ntmps21;go_wp2_with fail;rw[<-hW];clear hW;refine(FU a _).mono ?_;rw[m];rintro e w1 ⟨rfl,R⟩;have b:=O R;clear R;have u:=b.size;have A:w.heap.size<w1.heap.size:=om;have C:w.heap.size+1<w1.heap.size:=om;have D:c<w1.heap.size:=om;obtain⟨a0,a1,a2,a3,a4,a5,E,F,I,a9,d,f,a12,g⟩:=(HA.below b om).all;obtain⟨_,c1,c2,_⟩:=(Q.below b).cells;go_wp2_with fail;refine(Fq a.op _).mono ?_;rw[hT,hS];rintro e w2 ⟨rfl,ew⟩;rw[ew];clear ew w2;go_wp2_with fail;refine qr w1 ?_;(iterate 11 refine N (h:=?_));refine GS ?_;intro w2 j;clear u A C D a0 a1 a2 a3 a4 a5 E F I a9 d f a12 g c1 c2;have b:=O<|o8 b j;clear j;have u:=b.size;have A:w.heap.size<w2.heap.size:=om;have C:w.heap.size+1<w2.heap.size:=om;have D:c<w2.heap.size:=om;obtain⟨a0,a1,a2,a3,a4,a5,E,F,I,a9,d,f,a12,g⟩:=(HA.below b om).all;obtain⟨_,c1,c2,_⟩:=(Q.below b).cells;go_wp2_with fail;refine qr w2 ?_;(iterate 11 refine N (h:=?_));refine GS ?_;intro w3 j;clear u A C D a0 a1 a2 a3 a4 a5 E F I a9 d f a12 g c1 c2;have b:=O<|o8 b j;clear j;have u:=b.size;have A:w.heap.size<w3.heap.size:=om;have C:w.heap.size+1<w3.heap.size:=om;have D:c<w3.heap.size:=om;obtain⟨a0,a1,a2,a3,a4,a5,E,F,I,a9,d,f,a12,g⟩:=(HA.below b om).all;obtain⟨_,c1,c2,_⟩:=(Q.below b).cells;go_wp2_with fail;refine(Hf a.k.kind a.k.num a.k.Af a.k.str a.k.ref _).mono ?_;rw[Ei,z ad,z ae];rintro e w4 ⟨rfl,S⟩;clear u A C D a0 a1 a2 a3 a4 a5 E F I a9 d f a12 g c1 c2;have b:=O<|o8 b S;clear S;have u:=b.size;have A:w.heap.size<w4.heap.size:=om;have C:w.heap.size+1<w4.heap.size:=om;have D:c<w4.heap.size:=om;obtain⟨a0,a1,a2,a3,a4,a5,E,F,I,a9,d,f,a12,g⟩:=(HA.below b om).all;obtain⟨_,c1,c2,_⟩:=(Q.below b).cells;have l:Hid<|B9 W<|w4.alloc<|.cells #[J kc,J q.kind,J q.num,F9 q.Af,.string q.str,J q.ref] 116:=O<|b.alloc b.size _;have T:=O<|Ug a t i (Q.below l) HG ET h2 ES h3 o hv;go_wp2_with fail;refine T.mono ?_;rintro e w5 ⟨rfl,ar,H5,U,K⟩;obtain⟨x,hx⟩:=o9<|Dk s a;rw[<-hx];have af:=O hx;clear hx T;clear u A C D a0 a1 a2 a3 a4 a5 E F I a9 d f a12 g c1 c2;have p:(BK s a).nt=s.nt:=fU o;have V:Iw w5<|w.heap.size+1:=(K.block _ (oS l.size) λe=>oS<|z HO _ e).trans<|HQ.below l om;obtain⟨w9,X,L⟩:=BB V x;have ag:=O X;have ah:=O<|SM.fin HB HO om hz U p ((BF.Ax l).trans K) L;have ai:=O<|L.Bw;clear V X L U K;go_wp2_with (refine Ag rfl rfl _ ag ?_);refine FD results21 underlying45 ai ?_;rw[(z n).1,(z n).2,<-z af,p];exact⟨rfl,_,_,_,_,ah⟩
theorem UH c B vF vT vS H s a w(hD:SM w c B vF vT vS H s)(hG:Ls s)(r:CA a=true)(h:(a.op=1/\s.nt=100)\/(a.op=7/\s.ns=50)\/(a.op=1/\s.nt≠100)\/(a.op=7/\s.ns≠50)):Vo c B vF vT vS H s a w:=by
 rcases h with⟨d,hf⟩|⟨d,hf⟩|⟨d,hf⟩|⟨d,hf⟩
 case' inl=>
  have g:Hid<|Dd s a=BH 5/\AO s a=s:=O (by
   have L:IV a s.nt s.ns=0:=by simp[IV,r,CV,El,d]
   rw[Dd,AO,C3 L,C3 L];simp[Dk,BK,d,hf])
  have e5:((s.nt:Int)==100)=true:=ot;have d1:(a.op==1)=true:=by simp[d]
  have d7:(a.op==7)=false:=by simp[d]
 case' inr.inl=>
  have g:Hid<|Dd s a=BH 5/\AO s a=s:=O (by
   have L:IV a s.nt s.ns=0:=by simp[IV,r,CV,El,d]
   rw[Dd,AO,C3 L,C3 L];simp[Dk,BK,d,hf])
  have e5:((s.ns:Int)==50)=true:=ot;have d1:(a.op==1)=false:=by simp[d]
  have d7:(a.op==7)=true:=by simp[d]
 case' inr.inr.inl=>
  have g:Hid<|Dd s a=DI s.nt/\AO s a={s with nt:=s.nt+1,T:=AX s.T s.nt Lv}:=O (by
   have L:IV a s.nt s.ns=0:=by simp[IV,r,CV,El,d]
   rw[Dd,AO,C3 L,C3 L];simp[Dk,BK,d,hf])
  have e5:((s.nt:Int)==100)=false:=ot;have d1:(a.op==1)=true:=by simp[d]
  have d7:(a.op==7)=false:=by simp[d]
 case' inr.inr.inr=>
  have g:Hid<|Dd s a=DI s.ns/\AO s a={s with ns:=s.ns+1,S:=AX s.S s.ns ⟨a.k.str,-1,0,0,0⟩}:=O (by
   have L:IV a s.nt s.ns=0:=by simp[IV,r,CV,El,d]
   rw[Dd,AO,C3 L,C3 L];simp[Dk,BK,d,hf])
  have e5:((s.ns:Int)==50)=false:=ot;have d1:(a.op==1)=false:=by simp[d]
  have d7:(a.op==7)=true:=by simp[d]
 all_goals
  have hT:CV a.op=false:=by rw[d];decide
  have hS:El a.op=false:=by rw[d];decide
  have d2:(a.op==2)=false:=by simp[d]
  have d3:(a.op==3)=false:=by simp[d]
  clear d;obtain⟨kc,az⟩:=qa<|Dg a.k;obtain⟨l,aM⟩:=qa<|DA a.k;have bj:=O az;have bk:=O aM;clear az aM;clear hf;obtain⟨ta,tc,rfl⟩:=AE hD.t;obtain⟨sa,sc,rfl⟩:=AE hD.si;rcases hG.nt,hG.ns,boxes w a with⟨bt,bu,⟨W,hW,ag,hA,hR,hz⟩⟩;have HO:Hid<|∀k,Bn c vF (.slice ta s.nt tc) (.slice sa s.ns sc) H s.nt k->k<w.heap.size:=O λk h=>(hD.Pm h).2;rcases hD.lt,hD.below ag,O hA with⟨bw,M,HA⟩;clear hD hA hG;go_enter func21,ntmps21;go_wp2_with fail;rw[<-hW];clear hW;refine(FU a _).mono ?_;rw[r];rintro e w1 ⟨rfl,bb⟩;have i:=O bb;clear bb;have zz:=i.size;have za:w.heap.size<w1.heap.size:=om;have zr:w.heap.size+1<w1.heap.size:=om;have zc:c<w1.heap.size:=om;obtain⟨a0,a1,a2,a3,a4,a5,a6,a7,a8,a9,C,D,a12,E⟩:=(HA.below i om).all;obtain⟨_,c1,c2,_⟩:=(M.below i).cells;go_wp2_with fail;refine(Fq a.op _).mono ?_;rw[hT,hS];rintro e w2 ⟨rfl,ew⟩;rw[ew];clear ew w2;go_wp2_with fail;refine qr w1 ?_;refine N (h:=N (h:=?_));iterate 8 (go_big_quiet_step (fail))
  refine N (h:=?_);refine GS ?_;intro w2 P;clear zz za zr zc a0 a1 a2 a3 a4 a5 a6 a7 a8 a9 C D a12 E c1 c2;have i:=o8 i P;clear P;have zz:=i.size;have za:w.heap.size<w2.heap.size:=om;have zr:w.heap.size+1<w2.heap.size:=om;have zc:c<w2.heap.size:=om;obtain⟨a0,a1,a2,a3,a4,a5,a6,a7,a8,a9,C,D,a12,E⟩:=(HA.below i om).all;obtain⟨_,c1,c2,_⟩:=(M.below i).cells;go_wp2_with fail;refine qr w2 ?_;refine N (h:=N (h:=?_));iterate 8 (go_big_quiet_step (fail))
  refine N (h:=?_);refine GS ?_;intro w3 P;clear zz za zr zc a0 a1 a2 a3 a4 a5 a6 a7 a8 a9 C D a12 E c1 c2;have i:=o8 i P;clear P;have zz:=i.size;have za:w.heap.size<w3.heap.size:=om;have zr:w.heap.size+1<w3.heap.size:=om;have zc:c<w3.heap.size:=om;obtain⟨a0,a1,a2,a3,a4,a5,a6,a7,a8,a9,C,D,a12,E⟩:=(HA.below i om).all;obtain⟨_,c1,c2,_⟩:=(M.below i).cells;go_wp2_with fail;refine(Hf a.k.kind a.k.num a.k.Af a.k.str a.k.ref _).mono ?_;rw[Ei,z bj,z bk];rintro e w4 ⟨rfl,F⟩;clear zz za zr zc a0 a1 a2 a3 a4 a5 a6 a7 a8 a9 C D a12 E c1 c2;have i:=o8 i F;clear F;have zz:=i.size;have za:w.heap.size<w4.heap.size:=om;have zr:w.heap.size+1<w4.heap.size:=om;have zc:c<w4.heap.size:=om;obtain⟨a0,a1,a2,a3,a4,a5,a6,a7,a8,a9,C,D,a12,E⟩:=(HA.below i om).all;obtain⟨_,c1,c2,_⟩:=(M.below i).cells
 .obtain⟨i0,aj,ak,ao,aq⟩:=ON G5;obtain⟨X,hX,F,_⟩:=JQ w4<|.cells #[J kc,J l.kind,J l.num,F9 l.Af,.string l.str,J l.ref] 116;have bc:B9 W X:=o8 i F;obtain⟨Z,hY⟩:=o9<|(X.alloc<|.cells #[.string a.k.str,J (-1),J 0,J 0,J 0] 107).drew;have ah:B9 X Z:=by rw[hY];exact(n9).drew
  have zX:=bc.size;have zY:Z.heap.size=X.heap.size+1:=by rw[hY];simp
  have o:B9 W Z:=bc.trans<|ah.mono zX;have ar:Z.ownsRow B 107 5 (.slice sa s.ns sc) s.ns<|Jk s.S s.ns:=Wo (M.si) o;have bm:Hid<|∀j u,(GD ⟨a.k.str,-1,0,0,0⟩)[j]?=some u->Z.cell? (((y X 0):Addr).add j)=some u:=O (by rw[hY];exact Is (w:=(X.alloc _).drew)<|DD X _);have bd:B<=Z.heap.size:=oS M.base;have au:X.drew.cell? (y w 7)=some (.string a.k.str):=(F.cell (p:=y w 7) za).trans a7;have ai:Z.cell? (y w 7)=some (.string a.k.str):=oT ah (by show w.heap.size<X.heap.size;omega) au;have xc:X.cell? (G c 2)=some (.slice sa s.ns sc):=oT F zc c2;have yc:Z.cell? (G c 2)=some (.slice sa s.ns sc):=oT ah (by show c<X.heap.size;omega) xc;have HF:Hid (∀g3 f w3,w3.ownsRow B 107 5 (S9 g3 (s.ns+1) f) (s.ns+1) (Jk s.S s.ns++GD ⟨a.k.str,-1,0,0,0⟩)->Z.grownBy w3 (Value.slice sa s.ns sc).ownBlock->((Value.slice sa s.ns sc).ownBlock=some g3\/g3=Z.heap.size)->
    w3.cell? (y w 7)=some (.string a.k.str)/\(w3.setCell (G c 2) (S9 g3 (s.ns+1) f)).cell? (y w 7)=some (.string a.k.str)/\w3.cell? (G c 2)=some (.slice sa s.ns sc)/\w3.frozen? (G c 2)=false/\c<w3.heap.size/\∃A,Hid ((Instr.storeAt 45 (Q9 (w.heap.size+1)) (Hk (DI s.ns))).run prog (w3.setCell (G c 2) (S9 g3 (s.ns+1) f))=.ok () A)/\A.heap[w.heap.size+1]?=some (.cells (LL (DI s.ns)).toArray 45 (0,0))/\Hid (∃Q R U H',SM A c B Q R U H' {s with ns:=s.ns+1,S:=AX s.S s.ns ⟨a.k.str,-1,0,0,0⟩}/\BF (Bn c vF (.slice ta s.nt tc) (.slice sa s.ns sc) H s.nt) w (Bn c Q R U H' s.nt) A)):=O (λg3 f w3 h1 h2 h3=>by
   obtain⟨k1,k2,k3⟩:=M.lZ ⟨a.k.str,-1,0,0,0⟩ o h2 h1 (h3.imp id (λe=>om));have hq:=hR.below o om;have hA:=HA.below o om;have no:∀b,w.heap.size<=b->b<Z.heap.size->w3.heap[b]?=Z.heap[b]?:=λb h4 h5=>h2.block b h5 (λe=>oS (z HO b (.inr (.inr (.inr (.inl e.symm))))));have bf:PU w3 w.heap.size a:=(no _ (Be _) hA.lt).trans hA;have st:∀k,k≠c->(w3.setCell (G c 2) (S9 g3 (s.ns+1) f)).heap[k]?=w3.heap[k]?:=λk hk=>At _ _ _ _ (by exact hk);have av:Iw (w3.setCell (G c 2) (S9 g3 (s.ns+1) f)) (w.heap.size+1):=(st _ om).trans ((no _ om hq.lt).trans hq);have bn:PU (w3.setCell (G c 2) (S9 g3 (s.ns+1) f)) w.heap.size a:=(st _ om).trans bf;obtain⟨A,I,V⟩:=BB av (DI s.ns);exact⟨bf.all.2.2.2.2.2.2.2.1,bn.all.2.2.2.2.2.2.2.1,by rw[MM w3 c 2 _ _ _ k1];rfl,by simp[World.frozen?,k1],Ah k1,A,O I,V.Bw,O ⟨_,_,_,_,SM.fin ag HO om hz k2 rfl k3 V⟩⟩)
  have bp:IntKind.i64.wrap (((s.ns+1:Nat):Int)-1)=(s.ns:Int):=oj;have HY:=O hY;go_wp2_with fail;rw[<-hX];clear zz za zr zc a0 a1 a2 a3 a4 a5 a6 a7 a8 a9 C D a12 E c1 c2;clear hX o F hY ah zY;refine Gq (λW'=>W'.cell? (y w 7)=some (.string a.k.str)) ?_;refine tz 0 (h:=tz 1 (h:=tz 2 (h:=tz 3 (h:=tz 5 (h:=tz 6 (h:=tz 7 (h:=tz 8 (h:=?_))))))));refine TO (rs:=[4,9]) ou oq ?_;refine IH rfl (λK hK=>?armA) (IH rfl (λK hK=>?armB) SO)
  case' armA=>
   go_simp;refine hK.out _ _ au λ_=>?_;clear hK K;refine ry 9 λK hK=>?_;go_simp;rw[<-z HY];refine hK.out _ _ ai λ_=>?_;clear hK K
  case' armB=>
   go_simp;rw[<-z HY];refine hK.out _ _ ai λ_=>?_;clear hK K;refine ry 4 λK hK=>?_;go_simp;refine hK.out _ _ ai λ_=>?_;clear hK K
  all_goals
   refine ry 10 λK hK=>?_;refine To _ rfl (.tmp 100) (.tmp 105) 40 rfl B 107 i0 (.agg #[E9,J 0,J 0,J 0,J 0]) 5 48 underlying40 aj ak ao aq rfl oo (.slice sa s.ns sc) s.ns (Jk s.S s.ns) og ar (y X 0) 1 1 (GD ⟨a.k.str,-1,0,0,0⟩) (by simp[Act.eval];omega) rfl bm (by simp[GD,Value.oneCell']) oo od om bd _ rfl ?_;intro g3 f w3 m x q ay;obtain⟨bg,bh,x0,x1,x2,A,ad,n,ae⟩:=z HF g3 f w3 m x q;obtain⟨r0,r1,r2,r3,r4,r5,r6,r7,r8,r9,aw,ax⟩:=An.read n;have l9:=Ah n;clear m x q n;refine hK.out _ _ bg λ_=>?_;clear hK K;refine tz 11 (h:=tz 12 (h:=?_));refine ry 13 λK hK=>?_;go_simp;refine hK.out _ _ bh λ_=>?_;clear hK K;refine Fj ?_;clear bg bh au ai xc yc;go_wp2_with (refine Ag rfl rfl _ ad ?_);refine GO (v:=Hk<|DI s.ns) (by simp[results,results21,go_sem,l9,r0,r1,r2,r3,r4,r5,r6,r7,r8,r9,aw,ax]) rfl ?_;rw[(z g).1,(z g).2];exact⟨rfl,ae⟩
 .obtain⟨i0,aj,ak,ao,aq⟩:=ON JB;have o:B9 W<|(w4.alloc<|.cells #[J kc,J l.kind,J l.num,F9 l.Af,.string l.str,J l.ref] 116).alloc<|.cells (Ip Lu Lv).toArray 105:=(i.alloc i.size _).alloc (by have:=i.size;simp;omega) _;have ar:=OR (OR (M.below i).t<|.cells #[J kc,J l.kind,J l.num,F9 l.Af,.string l.str,J l.ref] 116)<|.cells (Ip Lu Lv).toArray 105;have bd:B<=w4.heap.size+1+1:=oS M.base;have HF:Hid (∀g3 f w3,w3.ownsRow B 105 8 (S9 g3 (s.nt+1) f) (s.nt+1) (Ro H s.T s.nt++Ip Lu Lv)->((w4.alloc<|.cells #[J kc,J l.kind,J l.num,F9 l.Af,.string l.str,J l.ref] 116).alloc<|.cells (Ip Lu Lv).toArray 105).grownBy w3 (Value.slice ta s.nt tc).ownBlock->((Value.slice ta s.nt tc).ownBlock=some g3\/g3=w4.heap.size+1+1)->
    w3.cell? (G c 1)=some (.slice ta s.nt tc)/\w3.frozen? (G c 1)=false/\c<w3.heap.size/\∃A,Hid ((Instr.storeAt 45 (Q9 (w.heap.size+1)) (Hk (DI s.nt))).run prog (w3.setCell (G c 1) (S9 g3 (s.nt+1) f))=.ok () A)/\A.heap[w.heap.size+1]?=some (.cells (LL (DI s.nt)).toArray 45 (0,0))/\Hid (∃Q R U H',SM A c B Q R U H' {s with nt:=s.nt+1,T:=AX s.T s.nt Lv}/\BF (Bn c vF (.slice ta s.nt tc) (.slice sa s.ns sc) H s.nt) w (Bn c Q R U H' (s.nt+1)) A)):=O (λg3 f w3 h1 h2 h3=>by
   obtain⟨k1,k2,k3⟩:=M.rI o h2 h1 (h3.imp id (λe=>ot));have hq:=hR.below o om;have av:Iw (w3.setCell (G c 1) (S9 g3 (s.nt+1) f)) (w.heap.size+1):=(At _ _ _ _ (by show w.heap.size+1≠c;omega)).trans ((h2.block _ hq.lt (λe=>oS (z HO _ (.inr (.inr (.inl e.symm)))))).trans hq);obtain⟨A,I,V⟩:=BB av (DI s.nt);exact⟨by rw[MM w3 c 1 _ _ _ k1];rfl,by simp[World.frozen?,k1],Ah k1,A,O I,V.Bw,O ⟨_,_,_,_,SM.fin ag HO om hz k2 rfl k3 V⟩⟩)
  have bp:IntKind.i64.wrap (((s.nt+1:Nat):Int)-1)=(s.nt:Int):=oj;clear o;go_wp2_with (first|(at_builtin;refine RC _ rfl _ _ 39 rfl B 105 i0 (.agg (Ip Lu Lv).toArray) 8 128 underlying39 aj ak ao aq rfl oo (.slice ta s.nt tc) s.nt (Ro H s.T s.nt) rfl ar (Y9 w4 0) 1 1 (Ip Lu Lv) rfl rfl (O8 w4 _ (Ip Lu Lv) _) (by simp[Ip,Lu,Value.oneCell']) oo od om ot (w4.heap.size+1+1) oq ?_;intro g3 f w3 m x q ay;obtain⟨x0,x1,x2,A,ad,n,ae⟩:=z HF g3 f w3 m x q;obtain⟨r0,r1,r2,r3,r4,r5,r6,r7,r8,r9,aw,ax⟩:=An.read n;have l9:=Ah n;clear m x n)|(refine Ag rfl rfl _ ad ?_));refine GO (v:=Hk<|DI s.nt) (by simp[results,results21,go_sem,l9,r0,r1,r2,r3,r4,r5,r6,r7,r8,r9,aw,ax]) rfl ?_;rw[(z g).1,(z g).2];exact⟨rfl,ae⟩
 all_goals
  have bq:B9 W<|w4.alloc<|.cells #[J kc,J l.kind,J l.num,F9 l.Af,.string l.str,J l.ref] 116:=i.alloc i.size _;obtain⟨A,I,n,af⟩:=SM.ends ag HO hz M hR bq<|BH 5;rcases O I,O af,O n with⟨ad,ae,br⟩;clear I af n;go_wp2_with (refine Ag rfl rfl _ ad ?_);refine FD results21 underlying45 br ?_;rw[(z g).1,(z g).2];exact⟨rfl,_,_,_,_,ae⟩
def kQ(hD:SM w c B vF vT vS H s)(hG:Ls s)(D:CA a=true)(t:Nat)(et:a.t=t)(h2:t<s.nt)(aw:Wf a.k)(hv:a.v.ok=true)(hm:0<=a.n)(h:(a.op=2/\Dg a.k=0)\/(a.op=3/\Dg a.k=0)\/(a.op=4\/a.op=5\/a.op=6)\/((a.op=2\/a.op=3)/\Dg a.k≠0)):Vo c B vF vT vS H s a w:=by
 rcases h with⟨hop,h4⟩|⟨hop,h4⟩|hop|⟨hop,h4⟩
 case' inl=>
  have hT:CV a.op=true:=by rw[hop];decide
  have hS:El a.op=false:=by rw[hop];decide
  rcases KR aw h4,qa<|Dg a.k,qa (DA a.k) with⟨S,⟨p,l⟩,⟨b,j⟩⟩;rw[j]at S;have d:Hid<|Dd s a=BH (CE s t b a.v)/\AO s a=Ct s t b a.v:=O (by
   have h0:IV a s.nt s.ns=0:=by
    have x1:¬(s.nt:Int)<=a.t:=om;simp[IV,D,CV,El,hop,x1,h4]
   rw[Dd,AO,C3 h0,C3 h0];simp[Dk,BK,hop,et,j])
  have e2:decide ((s.nt:Int)<=a.t)=false:=ot;have e4:(p !=0)=false:=by rw[<-l];simp[h4]
  clear h4;have ag:=O l;have ah:=O j;clear l j;have d1:(a.op==1)=false:=by simp[hop]
  have d2:(a.op==2)=true:=by simp[hop]
  have d3:(a.op==3)=false:=by simp[hop]
  have d7:(a.op==7)=false:=by simp[hop]
  have d8:(a.op==8)=false:=by simp[hop]
  have d9:(a.op==9)=false:=by simp[hop]
  clear hop;have ET:=O et;clear et
 case' inr.inl=>
  have hT:CV a.op=true:=by rw[hop];decide
  have hS:El a.op=false:=by rw[hop];decide
  rcases KR aw h4,qa<|Dg a.k,qa (DA a.k) with⟨S,⟨p,l⟩,⟨b,j⟩⟩;rw[j]at S;have d:Hid<|Dd s a=GI (Cg s.F (s.T t) b)/\AO s a=s:=O (by
   have h0:IV a s.nt s.ns=0:=by
    have x1:¬(s.nt:Int)<=a.t:=om;simp[IV,D,CV,El,hop,x1,h4]
   rw[Dd,AO,C3 h0,C3 h0];simp[Dk,BK,hop,et,j])
  have e2:decide ((s.nt:Int)<=a.t)=false:=ot;have e4:(p !=0)=false:=by rw[<-l];simp[h4]
  clear h4;have ag:=O l;have ah:=O j;clear l j;have d1:(a.op==1)=false:=by simp[hop]
  have d2:(a.op==2)=false:=by simp[hop]
  have d3:(a.op==3)=true:=by simp[hop]
  have d7:(a.op==7)=false:=by simp[hop]
  have d8:(a.op==8)=false:=by simp[hop]
  have d9:(a.op==9)=false:=by simp[hop]
  clear hop;have ET:=O et;clear et
 case' inr.inr.inl=>
  have hT:CV a.op=true:=by rcases hop with h|h|h<;>rw[h]<;>decide
  have hS:El a.op=false:=by rcases hop with h|h|h<;>rw[h]<;>decide
  obtain⟨p,l⟩:=qa<|Dg a.k;obtain⟨b,j⟩:=qa<|DA a.k;have d:Hid<|Dd s a=(Uv s t).ask a/\AO s a=s:=O (by
   have h0:IV a s.nt s.ns=0:=by
    have x1:¬(s.nt:Int)<=a.t:=om;rcases hop with h|h|h<;>simp[IV,D,CV,El,h,x1]
   rw[Dd,AO,C3 h0,C3 h0];rcases hop with h|h|h<;>simp[Dk,BK,h,et])
  have e2:decide ((s.nt:Int)<=a.t)=false:=ot;have ag:=O l;have ah:=O j;clear l j;have d1:(a.op==1)=false:=by rcases hop with h|h|h<;>simp[h]
  have d2:(a.op==2)=false:=by rcases hop with h|h|h<;>simp[h]
  have d3:(a.op==3)=false:=by rcases hop with h|h|h<;>simp[h]
  have d7:(a.op==7)=false:=by rcases hop with h|h|h<;>simp[h]
  have d8:(a.op==8)=false:=by rcases hop with h|h|h<;>simp[h]
  have d9:(a.op==9)=false:=by rcases hop with h|h|h<;>simp[h]
  have ET:=O et;clear hop et
 case' inr.inr.inr=>
  have hT:CV a.op=true:=by rcases hop with h|h<;>rw[h]<;>decide
  have hS:El a.op=false:=by rcases hop with h|h<;>rw[h]<;>decide
  have d:Hid<|Dd s a=BH 4/\AO s a=s:=O (by simp[Dd,AO,IV,D,hT,hS,h4,hop,show¬(s.nt:Int)<=a.t by omega]);have e2:decide ((s.nt:Int)<=a.t)=false:=ot;obtain⟨p,l⟩:=qa<|Dg a.k;obtain⟨b,j⟩:=qa<|DA a.k;have e4:(p !=0)=true:=by rw[<-l];simpa using h4
  have ag:=O l;have ah:=O j;clear l j;have d23:((a.op==2)=true)\/((a.op==2)=false/\(a.op==3)=true):=by rcases hop with h|h<;>simp[h]
  have bk:=O d23;clear h4 hop d23;have ET:=O et;clear et
 all_goals
  obtain⟨ta,tc,rfl⟩:=AE hD.t;obtain⟨sa,sc,rfl⟩:=AE hD.si;obtain⟨W,hW,U,hA,hR,hz⟩:=boxes w a;have HO:Hid<|∀k,Bn c vF (.slice ta s.nt tc) (.slice sa s.ns sc) H s.nt k->k<w.heap.size:=O λk h=>(hD.Pm h).2;rcases hD.lt,hD.below U,O hA with⟨bu,R,HA⟩;clear hD hA;go_enter func21,ntmps21;go_wp2_with fail;rw[<-hW];clear hW;refine(FU a _).mono ?_;rw[D];rintro e w1 ⟨rfl,ax⟩;have g:=O ax;clear ax;have zz:=g.size;have za:w.heap.size<w1.heap.size:=om;have zr:w.heap.size+1<w1.heap.size:=om;have zc:c<w1.heap.size:=om;obtain⟨a0,a1,a2,a3,a4,a5,a6,a7,a8,a9,q,r,a12,u⟩:=(HA.below g om).all;obtain⟨_,c1,c2,_⟩:=(R.below g).cells;go_wp2_with fail;refine(Fq a.op _).mono ?_;rw[hT,hS];rintro e w2 ⟨rfl,ew⟩;rw[ew];clear ew w2;go_wp2_with fail;refine qr w1 ?_;(iterate 11 refine N (h:=?_));refine GS ?_;intro w2 V;clear zz za zr zc a0 a1 a2 a3 a4 a5 a6 a7 a8 a9 q r a12 u c1 c2;have g:=o8 g V;clear V;have zz:=g.size;have za:w.heap.size<w2.heap.size:=om;have zr:w.heap.size+1<w2.heap.size:=om;have zc:c<w2.heap.size:=om;obtain⟨a0,a1,a2,a3,a4,a5,a6,a7,a8,a9,q,r,a12,u⟩:=(HA.below g om).all;obtain⟨_,c1,c2,_⟩:=(R.below g).cells;go_wp2_with fail;refine qr w2 ?_;refine N (h:=N (h:=?_));iterate 8 (go_big_quiet_step (fail))
  refine N (h:=?_);refine GS ?_;intro w3 V;clear zz za zr zc a0 a1 a2 a3 a4 a5 a6 a7 a8 a9 q r a12 u c1 c2;have g:=o8 g V;clear V;have zz:=g.size;have za:w.heap.size<w3.heap.size:=om;have zr:w.heap.size+1<w3.heap.size:=om;have zc:c<w3.heap.size:=om;obtain⟨a0,a1,a2,a3,a4,a5,a6,a7,a8,a9,q,r,a12,u⟩:=(HA.below g om).all;obtain⟨_,c1,c2,_⟩:=(R.below g).cells;go_wp2_with fail;refine(Hf a.k.kind a.k.num a.k.Af a.k.str a.k.ref _).mono ?_;rw[Ei,z ag,z ah];rintro e w4 ⟨rfl,ay⟩;clear zz za zr zc a0 a1 a2 a3 a4 a5 a6 a7 a8 a9 q r a12 u c1 c2;have g:=o8 g ay;clear ay;have zz:=g.size;have za:w.heap.size<w4.heap.size:=om;have zr:w.heap.size+1<w4.heap.size:=om;have zc:c<w4.heap.size:=om;obtain⟨a0,a1,a2,a3,a4,a5,a6,a7,a8,a9,q,r,a12,u⟩:=(HA.below g om).all
 .have i:B9 W<|w4.alloc<|.cells #[J p,J b.kind,J b.num,F9 b.Af,.string b.str,J b.ref] 116:=g.alloc g.size _;rcases z bk with d2|⟨d2,d3⟩;all_goals
   obtain⟨w9,o,E,m⟩:=SM.ends U HO hz R hR i<|BH 4;rcases O o,O m,O E with⟨Z,I,L⟩;clear o m E;go_wp2_with (refine Ag rfl rfl _ Z ?_);refine FD results21 underlying45 L ?_;rw[(z d).1,(z d).2];exact⟨rfl,_,_,_,_,I⟩
 .obtain⟨_,c1,c2,_⟩:=(R.below g).cells;have i:Hid<|B9 W<|w4.alloc<|.cells #[J p,J b.kind,J b.num,F9 b.Af,.string b.str,J b.ref] 116:=O<|g.alloc g.size _;obtain⟨X,hX⟩:=o9<|w4.alloc<|.cells #[J p,J b.kind,J b.num,F9 b.Af,.string b.str,J b.ref] 116;rw[<-hX]at i;have az:=R.below i;have ak:=HA.below i om;have aM:Hid<|C9 53 #[Q9 c,J a.t] X.drew λe w'=>(∃v,e=.returned v/\BP w' X.drew.heap.size v (gI s<|s.T t) (mI s<|s.T t))/\Below X.drew.heap.size X.drew w':=O (by
   rw[z ET];have bm:0<s.nf:=oS (Av hG.f).1.1;have ai:SM X.drew c B vF (.slice ta s.nt tc) (.slice sa s.ns sc) H s:=az.keep (λ_ _=>rfl);rcases ai.Ob bm,ai.vE.addr,ai.cells with⟨⟨fb,fc,bn,_,_,hF⟩,⟨A,hA⟩,ao⟩;rw[bn]at ao;exact Ud c fc tc t ao.1 ao.2.1 ai.lt hF hA (Lt.vC hG) (Lt.ok hG) h2)
  have bp:Lx w.heap.size a X.drew:=ak.all;have hn:gI s (s.T t)<=500:=pU hG h2;have bq:=O ak;go_wp2_with fail;rw[<-hX];clear zz za zr zc a0 a1 a2 a3 a4 a5 a6 a7 a8 a9 q r a12 u c1 c2;clear hX az ak;refine Gq (Lx w.heap.size a) ?_;refine tz 0 (h:=tz 1 (h:=tz 2 (h:=tz 4 (h:=?_))));refine ry 3 λK hK=>?_;go_simp;refine aM.mono ?_;rintro e w5 ⟨⟨v,rfl,bb⟩,C⟩;obtain⟨la,lc,rfl,bc⟩:=bb.at;have M:B9 X w5:=⟨C.os,C.tape,C.output,C.size,λk hk=>C.block k hk⟩;have zX:=i.size;have z5:=M.size;have aq:=bq.below M om;have bd:Lx w.heap.size a w5:=aq.all;rcases O aq,O<|i.trans<|M.mono zX,O (Zb lc (Uv s t) a bc hn hm) with⟨br,bf,ad⟩;refine hK.out _ _ bd λ_=>?_;clear hK K bb bc C M bp aq;refine ry 5 λK hK=>?_;go_simp;refine ad.mono ?_;rintro e w6 ⟨rfl,ar⟩;obtain⟨x,hx⟩:=o9<|(Uv s t).ask a;rw[<-hx];rw[<-hx]at d;have au:=br.below ar om;have bg:Lx w.heap.size a w6:=au.all;refine hK.out _ _ bg λ_=>?_;clear hK K;have aj:=o8 bf ar;obtain⟨w9,o,P⟩:=BB (hR.below aj hz) x;have Q:Lx w.heap.size a w9:=(show PU w9 w.heap.size a from(P.other _ om).trans au).all;have E:=P.Bw;have m:=SM.fin U HO om hz (R.below aj) rfl (BF.Ax aj) P;refine ry 6 λK hK=>?_;refine Bd rfl rfl w9 o ?_;refine hK.out _ _ Q λ_=>?_;clear hK K;refine Fj ?_;have L:=O E;have I:=O m;clear o P aj E m bd bg au Q ar ad aM hx;go_wp2_with fail;refine FD results21 underlying45 L ?_;rw[(z d).1,(z d).2];exact⟨rfl,_,_,_,_,I⟩
 .obtain⟨_,c1,c2,_⟩:=(R.below g).cells;rw[z ET]at a1;have i:Hid<|B9 W<|w4.alloc<|.cells #[J p,J b.kind,J b.num,F9 b.Af,.string b.str,J b.ref] 116:=O<|g.alloc g.size _;have ae:=O<|LX t (R.below i) hG h2 S;go_wp2_with fail;refine ae.mono ?_;rintro e w5 ⟨rfl,C⟩;obtain⟨x,hx⟩:=o9<|Cg s.F (s.T t) b;rw[<-hx];rw[<-hx]at d;clear hx ae;clear zz za zr zc a0 a1 a2 a3 a4 a5 a6 a7 a8 a9 q r a12 u c1 c2;have g:=O<|o8 i C;clear C;obtain⟨w9,o,E,m⟩:=SM.ends U HO hz R hR g<|GI x;rcases O o,O m,O E with⟨Z,I,L⟩;clear o m E;go_wp2_with (refine Ag rfl rfl _ Z ?_);refine FD results21 underlying45 L ?_;rw[(z d).1,(z d).2];exact⟨rfl,_,_,_,_,I⟩
 obtain⟨_,c1,c2,_⟩:=(R.below g).cells;rw[z ET]at a1;have i:Hid<|B9 W<|w4.alloc<|.cells #[J p,J b.kind,J b.num,F9 b.Af,.string b.str,J b.ref] 116:=O<|g.alloc g.size _;have af:=O<|QY t a.v (R.below i) hG h2 S hv;go_wp2_with fail;refine af.mono ?_;rintro e w5 ⟨rfl,bw,H5,bh,av⟩;obtain⟨x,hx⟩:=o9<|CE s t b a.v;rw[<-hx];have bt:=O hx;clear hx af;clear zz za zr zc a0 a1 a2 a3 a4 a5 a6 a7 a8 a9 q r a12 u c1 c2;have bj:Iw w5<|w.heap.size+1:=(av.block _ (oS i.size) λe=>oS<|z HO _ e).trans<|hR.below i om;obtain⟨w9,o,Q⟩:=BB bj<|BH x;have Z:=O o;have I:=O<|SM.fin U HO om hz bh (NA _ _ _ _) ((BF.Ax i).trans av) Q;have L:=O<|Q.Bw;clear bj o Q bh av;go_wp2_with (refine Ag rfl rfl _ Z ?_);refine FD results21 underlying45 L ?_;rw[(z d).1,(z d).2,<-z bt,NA];exact⟨rfl,_,_,_,_,I⟩
def iE(h:CA a=true):a.v.ok=true:=by
 grind [CA,JT]
def cT a{w}(hD:SM w c B vF vT vS H s)(g:Ls s)(i:Wf a.k):Vo c B vF vT vS H s a w:=by
 by_cases b:CA a=true
 .obtain⟨⟨o1,q⟩,n,_,Lu,_,j⟩:=iD b;have l:=iE b;by_cases h1:a.op=1
  .grind [hD,UH]
  by_cases o:a.op=7
  .grind [hD,UH]
  have r:CV a.op=true:=by simp[CV,h1,o]
  by_cases h2:(s.nt:Int)<=a.t
  .grind [hD,pE]
  have p:a.t<(s.nt:Int):=om;have d:a.t.toNat<s.nt:=om;have et:a.t=(a.t.toNat:Int):=om;by_cases m:El a.op=true
  .by_cases h3:(s.ns:Int)<=a.site
   .grind [hD,pG]
   have e:a.site.toNat<s.ns:=om;have es:a.site=(a.site.toNat:Int):=om;have f:a.op=8\/a.op=9:=by simpa[El]using m
   rcases f with h|h
   .exact Rj hD g b (.inl h) _ et d _ es e l
   exact Rj hD g b (.inr h) _ et d _ es e l
  have f:a.op≠8/\a.op≠9:=by simpa[El]using m
  exact kQ hD g b _ et d i l j (by
   by_cases h4:Dg a.k=0
   .rcases(by omega:a.op=2\/a.op=3\/(a.op=4\/a.op=5\/a.op=6))with h|h|h
    .exact .inl ⟨h,h4⟩
    .exact .inr (.inl ⟨h,h4⟩)
    exact .inr<|.inr<|.inl h
   rcases(by omega:(a.op=2\/a.op=3)\/(a.op=4\/a.op=5\/a.op=6))with h|h
   .exact .inr (.inr<|.inr ⟨h,h4⟩)
   exact .inr (.inr (.inl h)))
 grind [hD,pC]
def SM.JY{B'}(h:SM w c B vF vT vS H s)(hb:B'<=B):SM w c B' vF vT vS H s:=
 ⟨oS h.base,h.Bw,D7 h.f hb,D7 h.t hb,D7 h.si hb,λi hi=>D7 (h.v i hi) hb,λi hi=>D7 (h.l i hi) hb,λi hi=>D7 (h.i i hi) hb,λi hi=>D7 (h.x i hi) hb,h.ap,h.ij⟩
def VY{m}fc{ta:Option Addr}tc{sa:Option Addr}sc{s}{w}(hF:Bg w m s.nf s.F)(cb:s.nf<=200)(hT:RH w ta s.nt s.T)(hS:FX w sa s.ns s.S)(bu:J9 s)(dh:s.nt<=100)(di:s.ns<=50):
  C9 20 #[PY (some<|G m 0) fc ta tc sa sc s] w λe w'=>(∃c vF vT vS H,e=.returned (Q9 c)/\SM w' c w.heap.size vF vT vS H s)/\B9 w w':=by
 have hl:=hF.lt;obtain⟨W,hW,hb,hz,o0⟩:=JQ w<|.cells #[S9 m s.nf fc,.slice ta s.nt tc,.slice sa s.ns sc] 42;rcases v3 o0,O<|VX fc (hF.below hb hl) cb,hT.below hb rfl,hS.below hb rfl,ON JB,ON G5,ON FO with⟨⟨_,s1,s2⟩,HC,HT,HS,⟨i0,cc,cd,cg,ch⟩,⟨j0,cj,ck,cl,cm⟩,⟨v0,cn,cp,cq,cr⟩⟩;clear hF hT hS;go_enter func20,ntmps20;go_wp2_with fail;rw[<-hW];refine HC.mono ?_;rintro e w1 ⟨⟨vF,rfl,hO⟩,aw⟩;have z1:=aw.size;have t1:=(aw.cell<|by show w.heap.size<W.heap.size;omega).trans s1;have l1:w.heap.size<w1.heap.size:=om;clear hW s1 HC;obtain⟨w2,bw,ax,_,ar⟩:=JQ w1<|.cells #[vF,N9,N9] 42;have u1:=(ax.cell l1).trans t1;have bx:Hid<|SM w2 w1.heap.size W.heap.size vF N9 N9 (λ_=>Lu) {s with nt:=0,ns:=0}:=O ⟨om,ar,Wo hO ax,NB _ _ _ _,NB _ _ _ _,λi hi=>absurd hi<|Tn _,λi hi=>absurd hi<|Tn _,λi hi=>absurd hi<|Tn _,λi hi=>absurd hi<|Tn _,λi hi=>absurd hi<|Tn _,λi j q hi=>absurd hi<|Tn _⟩;have ct:=aw.trans<|ax.mono z1;clear ax ar;obtain⟨c,hc⟩:=o9 w1.heap.size;rw[<-hc]at bx;go_wp2_with fail;rw[<-bw,<-hc];clear bw t1 hc hO aw;go_loopw [19] (λi wr=>∃(k:Nat) (vT:V9) (H:Nat->Hs),k<=s.nt/\i=J k/\SM wr c W.heap.size vF vT N9 H {s with nt:=k,ns:=0}/\B9 W wr) λi _=>s.nt-(intOf i).toNat
 .exact⟨0,_,_,W9 _,rfl,bx,ct⟩
 obtain⟨k,vT,H,hk,rfl,hM,o⟩:=hrel;obtain⟨w0,cu⟩:=o9 wr;subst cu;by_cases aM:k<s.nt
 case pos=>
  obtain⟨b,off,rfl,a6,hcs⟩:=HT.resolve_left om;obtain⟨va,vc,la,lc,ia,ic,xa,xc,cv,hv,hd⟩:=(hcs k aM).below o a6;obtain⟨e0,e1,e2,e3,e4,e5,e6,e7⟩:=cv;have bz:=o.size;have cw:=hM.lt;obtain⟨ua,uc,rfl⟩:=AE hM.t;rcases O hM,O o,qa<|s.T k,O (qj (bu.nv aM)<|bu.IY aM) with⟨R,B,⟨t,ht⟩,a7⟩;rw[ht]at e0 e1 e2 e3 e4 e5 e6 e7 hv hd a7;rcases O ht,a7.1,o9 ((w0.alloc<|.cells #[J t.shape,.slice va t.nv vc,.slice la t.d.n lc,.slice ia t.d.m ic,.slice xa t.d.x xc,J t.d.used,J t.d.live,J t.d.turns] 105).alloc<|.cells #[J t.shape,N9,N9,N9,N9,J 0,J 0,J 0] 105) with⟨a8,dj,⟨X6,E⟩⟩;have H6:Hid<|Td w0 va vc la lc ia ic xa xc t 0 N9 X6:=O (by
   rw[E];refine⟨(DO _ _ _ oq).trans (DD _ _),?_,NB _ _ _ _,(n9).alloc oq _⟩;have h:=DD (w0.alloc (.cells #[J t.shape,.slice va t.nv vc,.slice la t.d.n lc,.slice ia t.d.m ic,.slice xa t.d.x xc,J t.d.used,J t.d.live,J t.d.turns] 105)) (.cells #[J t.shape,N9,N9,N9,N9,J 0,J 0,J 0] 105);rw[show(w0.alloc (.cells #[J t.shape,.slice va t.nv vc,.slice la t.d.n lc,.slice ia t.d.m ic,.slice xa t.d.x xc,J t.d.used,J t.d.live,J t.d.turns] 105)).heap.size=w0.heap.size+1 by simp]at h;exact h)
  have x1:X6.cell? (y w0 1)=some (.slice va t.nv vc):=by rw[E];simp[go_sem]
  clear hM o hcs ht HT;go_wp2_with fail;rw[<-E];clear E e0 e1 e2 e3 e4 e5 e6 e7;go_loopw [29] (λj wj=>∃(q:Nat) (vV:V9),q<=t.nv/\j=J q/\Td w0 va vc la lc ia ic xa xc t q vV wj) λj _=>t.nv-(intOf j).toNat
  .exact⟨0,_,W9 _,rfl,H6⟩
  obtain⟨q,vV,hq,rfl,Q⟩:=hrel;obtain⟨oa,oc,rfl⟩:=AE Q.row;have b0:=Ah Q.b6;by_cases bb:q<t.nv
  case pos=>
   obtain⟨b',bq,rfl,br,au⟩:=hv.resolve_left om;obtain⟨f0,f1,f2,f3,f4⟩:=(au q bb).keep λp=>Q.below.cell br;have y1:wr.cell? (Y9 w0 1)=some (.slice oa q oc):=by rw[MM wr _ 1 _ _ _ Q.b6];rfl
   obtain⟨x,hx⟩:=qa<|t.V q;rw[hx]at f0 f1 f2 f3 f4;obtain⟨X8,bc,bd,z8,_⟩:=JQ wr<|.cells (Hh x).toArray 43;have bf:B9 wr<|X8.alloc<|.cells (Hh x).toArray 43:=bd.alloc om _;have af:=Wo Q.row bf;have cx:Hid (∀g3 a w5,w5.ownsRow (w0.heap.size+2) 43 5 (S9 g3 (q+1) a) (q+1) (MO t.V q++Hh x)->(X8.alloc<|.cells (Hh x).toArray 43).grownBy w5 (Value.slice oa q oc).ownBlock->((Value.slice oa q oc).ownBlock=some g3\/g3=X8.heap.size+1)->
     w5.heap[w0.heap.size+1]?=some (.cells #[J t.shape,.slice oa q oc,N9,N9,N9,J 0,J 0,J 0] 105 (0,0))/\Td w0 (some (G b' bq)) vc la lc ia ic xa xc t (q+1) (S9 g3 (q+1) a) (w5.setCell (Y9 w0 1) (S9 g3 (q+1) a))):=O (λg3 a w5 k1 k2 k3=>Q.step bf k2 (by rw[hx];exact k1) (k3.imp id (λe=>by rw[e];simp)))
   have HX:=O bc;have x5:∀j u,(Hh x)[j]?=some u->X8.cell? (y wr j)=some u:=λj u hu=>by
    have cy:X8.heap[wr.heap.size]?=some (.cells (Hh x).toArray 43 (0,0)):=by rw[bc];exact DD _ _
    rw[MM X8 _ j _ _ _ cy];simpa using hu
   rcases x5 0 _ rfl,x5 1 _ rfl,x5 2 _ rfl,x5 3 _ rfl,x5 4 _ rfl,oT bd b0 y1 with⟨p0,p1,p2,p3,p4,y8⟩;have zz:w0.heap.size+1<X8.heap.size:=om;clear Q au bd bf hx x5 bc z8;go_upto_region 9 with fail
   rw[show wr.alloc (.cells (qe x) 43)=X8 from(z HX).symm];clear HX y1;go_wp2_with (first|(at_builtin;refine RC _ rfl _ _ 100 rfl (w0.heap.size+2) 43 v0 (V 0 0 0 ⟨#[]⟩ 0) 5 48 underlying100 cn cp cq cr rfl oo (.slice oa q oc) q (MO t.V q) rfl af (y X8 0) 1 1 (Hh x) rfl rfl (Is<|DD X8 _) (by simp[Hh,Value.oneCell']) oo od om ot (X8.heap.size+1) oq ?_;intro g3 a w5 f A g av;obtain⟨o5,b1⟩:=z cx g3 a w5 f A g;have cz:=O b1;have dk:=Ah o5;have dm:w5.cell? (Y9 w0 1)=some (.slice oa q oc):=(by rw[MM w5 _ 1 _ _ _ o5];rfl);have dn:w5.frozen? (Y9 w0 1)=false:=(by simp[World.frozen?,o5]);clear f A g b1 o5)|go_in);go_roundw
   .exact⟨q+1,_,om,ov,cz⟩
   exact ow
  case neg=>
   have bg:q=t.nv:=om;subst bg;have y2:wr.cell? (y w0 2)=some (.slice la t.d.n lc):=by rw[MM wr _ 2 _ _ _ Q.b5];rfl
   have y3:wr.cell? (y w0 3)=some (.slice ia t.d.m ic):=by rw[MM wr _ 3 _ _ _ Q.b5];rfl
   have y4:wr.cell? (y w0 4)=some (.slice xa t.d.x xc):=by rw[MM wr _ 4 _ _ _ Q.b5];rfl
   have y5:wr.cell? (y w0 5)=some (J t.d.used):=by rw[MM wr _ 5 _ _ _ Q.b5];rfl
   have y6:wr.cell? (y w0 6)=some (J t.d.live):=by rw[MM wr _ 6 _ _ _ Q.b5];rfl
   have y7:wr.cell? (y w0 7)=some (J t.d.turns):=by rw[MM wr _ 7 _ _ _ Q.b5];rfl
   have HC:=O Q;have b2:=O<|OI lc ic xc (hd.below Q.below) a7.2;clear Q;go_wp2_with fail;refine b2.mono ?_;rintro e w4 ⟨⟨c4,d0,d1,d2,rfl,cD,D⟩,bh⟩;subst cD;obtain⟨b3,b4,b7,b8,b9,ca,rfl,rfl,rfl,cN⟩:=D.ptr;rcases D.c0,D.c1,D.c2,D.c3,D.c4,D.c5,(bh.block _ b0).trans HC.b6 with⟨n0,n1,n2,n3,n4,n5,k6⟩;have m2:w4.cell? (Y9 w0 2)=some (N9):=by rw[MM w4 _ 2 _ _ _ k6];rfl
   have m3:w4.cell? (Y9 w0 3)=some (N9):=by rw[MM w4 _ 3 _ _ _ k6];rfl
   have m4:w4.cell? (Y9 w0 4)=some (N9):=by rw[MM w4 _ 4 _ _ _ k6];rfl
   have m5:w4.cell? (Y9 w0 5)=some (J 0):=by rw[MM w4 _ 5 _ _ _ k6];rfl
   have m6:w4.cell? (Y9 w0 6)=some (J 0):=by rw[MM w4 _ 6 _ _ _ k6];rfl
   have m7:w4.cell? (Y9 w0 7)=some (J 0):=by rw[MM w4 _ 7 _ _ _ k6];rfl
   have c6:∀j,w4.frozen? (Y9 w0 j)=false:=λj=>by simp[World.frozen?,k6]
   obtain⟨X,hX⟩:=o9<|(((((w4.setCell (Y9 w0 2)<|.slice b3 t.d.n b4).setCell (Y9 w0 3)<|.slice b7 t.d.m b8).setCell (Y9 w0 4)<|.slice b9 t.d.x ca).setCell (Y9 w0 5)<|J t.d.used).setCell (Y9 w0 6)<|J t.d.live).setCell (Y9 w0 7)<|J t.d.turns;have c7:=O<|HC.IY bh D hX;have c8:=O D.ap;obtain⟨r,ay⟩:∃r:Hs,r=⟨.slice oa t.nv oc,.slice b3 t.d.n b4,.slice b7 t.d.m b8,.slice b9 t.d.x ca⟩:=⟨_,rfl⟩;have U:Hid<|X.heap[w0.heap.size+1]?=some (.cells (Ip r t).toArray 105 (0,0))/\BW X (w0.heap.size+2) r.v t.nv t.V/\BP X (w0.heap.size+2) r.l t.d.n t.d.L/\Bo X (w0.heap.size+2) r.i t.d.m t.d.I/\Bo X (w0.heap.size+2) r.x t.d.x t.d.X/\B9 w0 X:=O (by rw[ay];exact c7);have c9:Hid<|∀q,r.i.ownBlock=some q->r.x.ownBlock≠some q:=O (by rw[ay];exact c8);obtain⟨Z,hY⟩:=o9<|(X.alloc<|.cells (Ip r t).toArray 105).drew;have C:B9 X Z:=by rw[hY];exact(n9).drew
   have zY:Z.heap.size=X.heap.size+1:=by rw[hY];simp
   have zX:=U.2.2.2.2.2.size;have bj:=Ah U.1;have M:=U.2.2.2.2.2.trans<|C.mono zX;have af:Z.ownsRow W.heap.size 105 8 (.slice ua k uc) k<|Ro H s.T k:=Wo (R.t) M;have bk:Hid<|∀j u,(Ip r t)[j]?=some u->Z.cell? (((y X 0):Addr).add j)=some u:=O (by rw[hY];exact Is (w:=(X.alloc _).drew)<|DD X _);have bt:Hid<|∀u∈Ip r t,u.oneCell'=true:=O (by rw[ay];simp[Ip,Value.oneCell']);have bm:W.heap.size<=Z.heap.size:=om;have ag:=Jy (W:=X.drew) U.1;have ae:=(C.block _ bj).trans U.1;rcases Jy ae,(R.below U.2.2.2.2.2).cells.2.1,(R.below M).cells.2.1 with⟨P,bn,bp⟩;have HF:Hid (∀g3 a w3,w3.ownsRow W.heap.size 105 8 (S9 g3 (k+1) a) (k+1) (Ro H s.T k++Ip r t)->Z.grownBy w3 (Value.slice ua k uc).ownBlock->((Value.slice ua k uc).ownBlock=some g3\/g3=Z.heap.size)->
     RA (w0.heap.size+1) r t w3/\RA (w0.heap.size+1) r t (w3.setCell (G c 1) (S9 g3 (k+1) a))/\w3.cell? (G c 1)=some (.slice ua k uc)/\w3.frozen? (G c 1)=false/\c<w3.heap.size/\Hid (SM (w3.setCell (G c 1) (S9 g3 (k+1) a)) c W.heap.size vF (S9 g3 (k+1) a) N9 (AX H k r) {s with nt:=k+1,ns:=0}/\B9 W (w3.setCell (G c 1) (S9 g3 (k+1) a)))):=O (λg3 a w3 h1 h2 h3=>by
    obtain⟨_,q1,q2,q3,q4,q5⟩:=z U;have da:∀q,r.own q->w0.heap.size<=q:=λq e=>by
     rcases e with e|e|e|e
     .have:=(q1.lt q e).1;omega
     .have:=(q2.lt q e).1;omega
     .have:=(q3.lt q e).1;omega
     have:=(q4.lt q e).1;omega
    have az:W.heap.size<=w0.heap.size+2:=om;obtain⟨k1,k2,k3⟩:=SM.rH (s:={s with nt:=k,ns:=0}) (t0:=t) R M h2 h1 (h3.imp id λe=>Nat.le_of_eq e.symm) (D7 (Wo q1 C) az) (D7 (Wo q2 C) az) (D7 (Wo q3 C) az) (D7 (Wo q4 C) az) c9 da;have eT:=Iq s.T k;rw[z a8]at eT;have ah:=(h2.block _ om λe=>oS (R.t.lt _ e.symm).2).trans ae;refine⟨Jy ah,Jy<|(At _ _ _ _<|by show w0.heap.size+1≠c;omega).trans ah,by rw[MM w3 c 1 _ _ _ k1];rfl,by simp[World.frozen?,k1],Ah k1,O ⟨?_,?_⟩⟩
    .have ai:SM _ c W.heap.size vF (S9 g3 (k+1) a) N9 (AX H k r) {s with nt:=k+1,ns:=0,T:=AX s.T k t}:=k2;rw[eT]at ai;exact ai
    exact⟨k3.os.trans B.os,k3.tape.trans B.tape,k3.output.trans B.output,GP bz k3.size,λq hq=>(k3.block q om (λe=>oS (R.Pm e).1)).trans (B.block q hq)⟩)
   have HY:=O hY;have aj:=O hX;clear D bh cN k6 y2 y3 y4 y5 y6 y7 b2 hX hY C zY M ae;go_upto_region 12 with fail
   rw[<-z aj];clear aj m2 m3 m4 m5 m6 m7 c6 n0 n1 n2 n3 n4 n5;clear ay;refine Gq (RA (w0.heap.size+1) r t) ?_;refine tz 0 (h:=tz 1 (h:=tz 2 (h:=tz 3 (h:=tz 5 (h:=?_)))));refine TO (rs:=[4,6]) ou oq ?_;refine IH rfl (λK hK=>?armA) (IH rfl (λK hK=>?armB) SO)
   case' armA=>
    go_simp;refine hK.out _ _ ag λ_=>?_;clear hK K;refine ry 6 λK hK=>?_;go_simp;rw[show(World.drew (X.alloc (.cells #[J t.shape,r.v,r.l,r.i,r.x,J t.d.used,J t.d.live,J t.d.turns] 105)))=Z from(z HY).symm];refine hK.out _ _ P λ_=>?_;clear hK K
   case' armB=>
    go_simp;rw[show(World.drew (X.alloc (.cells #[J t.shape,r.v,r.l,r.i,r.x,J t.d.used,J t.d.live,J t.d.turns] 105)))=Z from(z HY).symm];refine hK.out _ _ P λ_=>?_;clear hK K;refine ry 4 λK hK=>?_;go_simp;refine hK.out _ _ P λ_=>?_;clear hK K
   all_goals
    refine ry 7 λK hK=>?_;refine To _ rfl (.tmp 50) (.tmp 52) 39 rfl W.heap.size 105 i0 (.agg #[J 0,N9,N9,N9,N9,J 0,J 0,J 0]) 8 128 underlying39 cc cd cg ch rfl oo (.slice ua k uc) k (Ro H s.T k) og af (y X 0) 1 1 (Ip r t) og rfl bk bt oo od om bm _ rfl ?_;intro g3 a w3 f A g av;obtain⟨ak,ao,x0,dc,x2,aq⟩:=z HF g3 a w3 f A g;clear f A g;refine hK.out _ _ ak λ_=>?_;clear hK K;refine tz 8 (h:=tz 9 (h:=?_));refine ry 10 λK hK=>?_;go_simp;refine hK.out _ _ ao λ_=>?_;clear hK K;refine Fj ?_;clear ak ao ag P bn bp;go_wp2_with fail;go_roundw
    .exact⟨k+1,_,_,om,ov,aq.1,aq.2⟩
    exact ow
 case neg=>
  have dd:k=s.nt:=om;subst dd;have bz:=o.size;rcases oT o (by show w.heap.size<W.heap.size;omega) s2,O hM,O o with⟨u2,R,B⟩;clear hM o;go_wp2_with fail;go_loopw [60] (λi wr=>∃(q:Nat) (vS:V9),q<=s.ns/\i=J q/\SM wr c W.heap.size vF vT vS H {s with ns:=q}/\B9 W wr) λi _=>s.ns-(intOf i).toNat
  .exact⟨0,_,W9 _,rfl,R,B⟩
  obtain⟨q,vS,hq,rfl,hM,o⟩:=hrel;by_cases bb:q<s.ns
  case neg=>
   have bg:q=s.ns:=om;subst bg;have HE:Hid<|(∃c' vF vT vS H,Ending.returned (Q9 c)=.returned (Q9 c')/\SM wr c' w.heap.size vF vT vS H s)/\B9 w wr:=O ⟨⟨c,vF,vT,vS,H,rfl,hM.JY om⟩,o8 hb o⟩;clear hM o;go_wp2;go_ret;exact HE
  case pos=>
   obtain⟨b,off,rfl,a6,hcs⟩:=HS.resolve_left om;rcases (hcs q bb).keep (λp=>o.cell a6),o.size,hM.lt with⟨⟨f0,f1,f2,f3,f4⟩,df,cw⟩;obtain⟨ua,uc,rfl⟩:=AE hM.si;obtain⟨x,hx⟩:=qa<|s.S q;rw[hx]at f0 f1 f2 f3 f4;rcases O hx,O hM,O o,JQ wr (.cells (GD x).toArray 107) with⟨a8,R,B,⟨X,hX,ad,_,E⟩⟩;obtain⟨Z,hY⟩:=o9<|(X.alloc<|.cells (GD x).toArray 107).drew;have C:B9 X Z:=by rw[hY];exact(n9).drew
   have zY:Z.heap.size=X.heap.size+1:=by rw[hY];simp
   have zX:=ad.size;have bj:=Ah E;have M:=ad.trans<|C.mono zX;have af:Z.ownsRow W.heap.size 107 5 (.slice ua q uc) q<|Jk s.S q:=Wo (R.si) M;have bk:Hid<|∀j u,(GD x)[j]?=some u->Z.cell? (((y X 0):Addr).add j)=some u:=O (by rw[hY];exact Is (w:=(X.alloc _).drew)<|DD X _);have bm:W.heap.size<=Z.heap.size:=om;have ag:=Jw (W:=X.drew) E;have ae:=(C.block _ bj).trans E;have P:=Jw ae;have bn:X.cell? (G c 2)=some (.slice ua q uc):=(R.below ad).cells.2.2.1;have bp:Z.cell? (G c 2)=some (.slice ua q uc):=(R.below M).cells.2.2.1;have HF:Hid (∀g3 a w3,w3.ownsRow W.heap.size 107 5 (S9 g3 (q+1) a) (q+1) (Jk s.S q++GD x)->Z.grownBy w3 (Value.slice ua q uc).ownBlock->((Value.slice ua q uc).ownBlock=some g3\/g3=Z.heap.size)->
     Rz wr.heap.size x w3/\Rz wr.heap.size x (w3.setCell (G c 2) (S9 g3 (q+1) a))/\w3.cell? (G c 2)=some (.slice ua q uc)/\w3.frozen? (G c 2)=false/\c<w3.heap.size/\Hid (SM (w3.setCell (G c 2) (S9 g3 (q+1) a)) c W.heap.size vF vT (S9 g3 (q+1) a) H {s with ns:=q+1}/\B9 W (w3.setCell (G c 2) (S9 g3 (q+1) a)))):=O (λg3 a w3 h1 h2 h3=>by
    obtain⟨k1,k2,k3⟩:=SM.lZ R x M h2 h1<|h3.imp id λe=>Nat.le_of_eq e.symm;have eT:=Iq s.S q;rw[z a8]at eT;have ah:=(h2.block _ om λe=>oS (R.si.lt _ e.symm).2).trans ae;refine⟨Jw ah,Jw<|(At _ _ _ _<|by show wr.heap.size≠c;omega).trans ah,by rw[MM w3 c 2 _ _ _ k1];rfl,by simp[World.frozen?,k1],Ah k1,O ⟨?_,?_⟩⟩
    .have ai:SM _ c W.heap.size vF vT (S9 g3 (q+1) a) H {s with ns:=q+1,S:=AX s.S q x}:=k2;rw[eT]at ai;exact ai
    exact⟨k3.os.trans B.os,k3.tape.trans B.tape,k3.output.trans B.output,GP df k3.size,λq hq=>(k3.block q om (λe=>oS (R.Pm e).1)).trans (B.block q hq)⟩)
   have HY:=O hY;have aj:=O hX;clear hM o hX hY C zY M ad E ae hcs hx;go_upto_region 17 with fail
   rw[show wr.alloc (.cells #[.string x.key,J x.shape,J x.place,J x.BZ,J x.AB] 107)=X from(z aj).symm];clear aj f0 f1 f2 f3 f4;refine Gq (Rz wr.heap.size x) ?_;refine tz 0 (h:=tz 1 (h:=tz 2 (h:=tz 3 (h:=tz 5 (h:=?_)))));refine TO (rs:=[4,6]) ou oq ?_;refine IH rfl (λK hK=>?armC) (IH rfl (λK hK=>?armD) SO)
   case' armC=>
    go_simp;refine hK.out _ _ ag λ_=>?_;clear hK K;refine ry 6 λK hK=>?_;go_simp;rw[show(World.drew (X.alloc (.cells #[.string x.key,J x.shape,J x.place,J x.BZ,J x.AB] 107)))=Z from(z HY).symm];refine hK.out _ _ P λ_=>?_;clear hK K
   case' armD=>
    go_simp;rw[show(World.drew (X.alloc (.cells #[.string x.key,J x.shape,J x.place,J x.BZ,J x.AB] 107)))=Z from(z HY).symm];refine hK.out _ _ P λ_=>?_;clear hK K;refine ry 4 λK hK=>?_;go_simp;refine hK.out _ _ P λ_=>?_;clear hK K
   all_goals
    refine ry 7 λK hK=>?_;refine To _ rfl (.tmp 68) (.tmp 70) 40 rfl W.heap.size 107 j0 (.agg #[E9,J 0,J 0,J 0,J 0]) 5 48 underlying40 cj ck cl cm rfl oo (.slice ua q uc) q (Jk s.S q) og af (y X 0) 1 1 (GD x) (by simp[Act.eval];omega) rfl bk (by simp[GD,Value.oneCell']) oo od om bm _ rfl ?_;intro g3 a w3 f A g av;obtain⟨ak,ao,x0,dc,x2,aq⟩:=z HF g3 a w3 f A g;clear f A g;refine hK.out _ _ ak λ_=>?_;clear hK K;refine tz 8 (h:=tz 9 (h:=?_));refine ry 10 λK hK=>?_;go_simp;refine hK.out _ _ ao λ_=>?_;clear hK K;refine Fj ?_;clear ak ao ag P bn bp;go_wp2_with fail;go_roundw
    .exact⟨q+1,_,om,ov,aq.1,aq.2⟩
    exact ow
def Tt p w:
  C9 30 #[Hk p,Hk p] w (R9 (.bool true) w):=by
 go_enter func30,ntmps30;go_wp2_with fail;refine m9 (EB p.key.kind p.key.num p.key.Af p.key.str p.key.ref _) λw1 a=>?_;obtain⟨f,g⟩:=AM a;have d:=a.size;simp at d;have j:w.heap.size<w1.heap.size:=om;have k:w.heap.size+1<w1.heap.size:=om;have c:=O<|((n9).alloc oq _).trans<|a.mono ot;clear a;go_wp2_with fail;refine m9 (EB p.val.kind p.val.num p.val.Af p.val.str p.val.ref _) λw2 b=>?_;obtain⟨h,i⟩:=AM b;have e:=O<|o8 c b;clear b;go_wp2;go_ret;exact⟨rfl,e⟩
def JG(s i:Nat):List Value:=[J ((s:Int)+3*(i:Int)),.string (mark (s+3*i+1)),J ((s:Int)+3*(i:Int)+1+1)]
def KW(s j:Nat):Value:=((JG s<|j/3)[j%3]?).getD undef
def O2 s k i(hi:i<3):KW s (k*3+i)=((JG s k)[i]?).getD undef:=by
 grind [KW,JG]
def Wi(b n cap Z s:Nat)g w(hA:w.rowIs b 142 Z g)(hN:n*3<=Z)(hn:n<=4194304)(hs:s<=100000000000000):
  C9 67 #[S9 b n cap,J s] w λe w'=>(e=.returned (J<|(s)+3*(n))/\∃g',w'.rowIs b 142 Z g'/\∀j,j<n*3->g' j=KW s j)/\Bt b w w':=by
 go_enter func67,ntmps67;go_wp2;go_loopw [1,5] (λq i wr=>∃(k:Nat) (g:Nat->Value),k<=n/\i=J (k:Int)/\q=J ((s:Int)+3*(k:Int))/\Bt b w wr/\wr.rowIs b 142 Z g/\∀j,j<k*3->g j=KW s j) λ_ i _=>n-(intOf i).toNat
 .exact⟨0,g,om,rfl,oq,Bt.refl _ _,hA,λj hj=>om⟩
 obtain⟨k,g,hk,rfl,rfl,hb,c,p⟩:=hrel;by_cases t:k<n
 .have m:=c.lt;have d:∀w:World,_:=λw=>BA (s+3*k+1) om w;rw[show((s+3*k+1:Nat):Int)=(s:Int)+3*(k:Int)+1 by omega]at d;have d0:=c.cell (i:=k*3) om;have e0:=c.frozen<|k*3;have d1:=c.cell (i:=k*3+1) om;have e1:=c.frozen<|k*3+1;have d2:=c.cell (i:=k*3+2) om;have e2:=c.frozen<|k*3+2;go_wp2_with fail;refine(z (O d) _).mono ?_;rintro e w1 ⟨rfl,f⟩;have a:=((z<|O c).set (k*3)<|J<|(s:Int)+3*(k:Int)).of_block<|f.block b (by simpa using m);have d1:=a.cell (i:=k*3+1) om;have e1:=a.frozen<|k*3+1;have d2:=a.cell (i:=k*3+2) om;have e2:=a.frozen<|k*3+2;go_wp2;go_roundw
  .refine⟨k+1,_,om,ov,ov,((z<|(hb.trans<|Bt.set b (k*3) _<|J<|(s:Int)+3*(k:Int)).trans<|Bt.of f).trans<|Bt.set b (k*3+1) _<|.string<|mark<|s+3*k+1).trans<|Bt.set b (k*3+2) _<|J<|(s:Int)+3*(k:Int)+1+1,(a.set (k*3+1)<|.string<|mark<|s+3*k+1).set (k*3+2)<|J<|(s:Int)+3*(k:Int)+1+1,λj hj=>?_⟩;by_cases o:j<k*3
   .have h:∀i,i<3->j≠k*3+i:=λi _=>om;simp only[show j≠k*3 by omega,h 1 om,h 2 om,XN];exact z (O p) j o
   obtain⟨i,hi,rfl⟩:∃i,i<3/\j=k*3+i:=⟨j-k*3,om,om⟩;rw[O2 _ k i hi];rcases(by omega:i=0\/i=1\/i=2)with rfl|rfl|rfl<;>simp[JG]
  exact ow
 have l:k=n:=om;subst l;have r:=O<|qj c p;go_wp2;go_ret;exact⟨⟨rfl,_,r.1,r.2⟩,hb⟩
def VN b n cap s w(hl:b<w.heap.size)(hA:∀i,i<n->∀j u,(JG s i)[j]?=some u->w.cell? (G b<|i*3+j)=some u)(hn:n<=4194304)(hs:s<=100000000000000):
  C9 114 #[S9 b n cap,J s] w (R9 (J<|(s:Int)+3*(n:Int)) w):=by
 have o:=O hA;clear hA;go_enter func114,ntmps114;go_wp2;go_loopw [1,5] (λq i wr=>∃(k:Nat),k<=n/\i=J k/\q=J ((s:Int)+3*(k:Int))/\B9 w wr) λ_ i _=>n-(intOf i).toNat
 .exact⟨0,om,rfl,oq,BE _ _⟩
 obtain⟨k,hk,rfl,rfl,hb⟩:=hrel;have c:=A0 hl hb.size;by_cases g:k<n
 .have hc:∀j u,(JG s k)[j]?=some u->wr.cell? (G b<|k*3+j)=some u:=λj u hu=>oT hb hl<|o k g j u hu;have d0:wr.cell? (G b<|k*3)=some (J<|(s:Int)+3*(k:Int)):=hc 0 _ rfl;have d1:=hc 1 _ rfl;have d2:=hc 2 _ rfl;have d:∀w:World,_:=λw=>BA (s+3*k+1) om w;rw[show((s+3*k+1:Nat):Int)=(s:Int)+3*(k:Int)+1 by omega]at d;have r:=O d;have e:=O hb;clear hb hc d;go_wp2;refine qr wr ?_;(iterate 6 refine N (h:=?_));refine GC λK hK=>?_;go_simp;refine⟨_,λw' l=>qk l<|r _,hK _ ?_⟩;clear hK K;refine N (h:=?_);refine GS ?_;intro w1 a;have m:=O<|o8 e a;have t:=A0 c a.size;replace d1:=(a.cell c).trans d1;replace d2:=(a.cell c).trans d2;clear a e d0;go_wp2;go_roundw
  .exact⟨k+1,om,ov,ov,m⟩
  exact ow
 have f:k=n:=om;subst f;have v:=O hb;clear hb;go_wp2;go_ret;exact⟨rfl,v⟩
def Tx{a:Option Addr}cap l{f}{w}(hA:IM w a n f)(s:IM w a' n f)(hn:n<=1048576):
  C9 64 #[.slice a n cap,.slice a' n l] w (R9 (.bool true) w):=by
 have u:=O hA;have v:=O s;clear hA s;go_enter func64,ntmps64;go_wp2;go_loopw [5] (λi wr=>∃(k:Nat),k<=n/\i=J k/\B9 w wr) λi _=>n-(intOf i).toNat
 .exact⟨0,om,rfl,BE _ _⟩
 obtain⟨k,hk,rfl,hb⟩:=hrel;by_cases m:k<n
 .obtain⟨b,off,rfl,d,hcs⟩:=u.resolve_left om;obtain⟨b',t,rfl,c,g⟩:=v.resolve_left om;obtain⟨e0,e1,e2⟩:=hcs k m;obtain⟨d0,d1,d2⟩:=g k m;rcases (hb.cell d).trans e0,(hb.cell d).trans e1,(hb.cell d).trans e2,(hb.cell c).trans d0,(hb.cell c).trans d1,(hb.cell c).trans d2,A0 d hb.size,A0 c hb.size,O hb with⟨e0,e1,e2,d0,d1,d2,A,x,o⟩;clear hb hcs g;have q:Hid<|∀w,C9 111 #[Sh (f k).parent (f k).key (f k).count,Sh (f k).parent (f k).key (f k).count] w<|R9 (.bool true) w:=O λw=>(Ty _ _ _ _ _ _ w).mono λe w' h=>⟨by rw[h.1];simp,h.2⟩;go_wp2_with fail;refine qr wr ?_;(iterate 8 refine N (h:=?_));refine GC λK hK=>?_;go_simp;refine⟨_,λw' r=>qk r<|q _,hK _ ?_⟩;clear hK K;refine N (h:=?_);refine GS ?_;intro w2 p;have j:=O<|o8 o p;clear p e0 e1 e2 d0 d1 d2;go_wp2;go_roundw
  .exact⟨k+1,om,ov,j⟩
  exact ow
 have:k=n:=om;subst this;have j:=O hb;clear hb;go_wp2;go_ret;exact⟨rfl,j⟩
def Tv{a:Option Addr}cap b{f}{w}(hA:IM w a n f)(h:IM w a' n f)(hn:n<=1048576):
  C9 31 #[.agg #[.slice a n cap],.agg #[.slice a' n b]] w (R9 (.bool true) w):=by
 have c:B9 w<|(w.alloc<|.cells #[.slice a n cap] 38).alloc<|.cells #[.slice a' n b] 38:=(n9).alloc oq _;have j:=O<|Tx cap b (hA.below c rfl) (h.below c rfl) hn;have i:=O c;clear hA h c;go_enter func31,ntmps31;go_wp2_with fail;refine j.mono ?_;rintro e w1 ⟨rfl,d⟩;have g:=O<|o8 i d;clear d;go_wp2;go_ret;exact⟨rfl,g⟩
structure aC (w:Y) (a ta sa:T9) (s:AK):Prop where
 f:IM w a s.nf s.F
 t:RH w ta s.nt s.T
 si:FX w sa s.ns s.S
def aC.below{w':Y}{a:Option Addr}(h:aC w a ta sa s)(hb:B9 w w'):aC w' a ta sa s:=⟨h.f.below hb rfl,h.t.below hb rfl,h.si.below hb rfl⟩
def Oa{v e g j:Option Addr}x k tc l sc m{s}{w}(h:aC w v ta sa s)(h':aC w e g j s)(hs:J9 s):
  C9 11 #[PY v x ta tc sa sc s,PY e k g l j m s] w (R9 (.bool true) w):=by
 have d:B9 w<|(w.alloc<|.cells #[.slice v s.nf x,.slice ta s.nt tc,.slice sa s.ns sc] 42).alloc<|.cells #[.slice e s.nf k,.slice g s.nt l,.slice j s.ns m] 42:=(n9).alloc oq _;rcases O (qj (h.below d)<|h'.below d),O hs,O d with⟨c,o,p⟩;clear d h h' hs;go_enter func11,ntmps11;go_wp2_with fail;refine m9 (Tv x k c.1.f c.2.f o.f.1) λw1 b=>?_;obtain⟨A,B⟩:=AM b;have C:=b.size;simp at C;have H:w.heap.size<w1.heap.size:=om;have I:w.heap.size+1<w1.heap.size:=om;have q:=O<|o8 p b;have c:=O<|qj (c.1.below b)<|c.2.below b;clear b;go_wp2_with fail;refine m9 (P3 tc l c.1.t c.2.t o.nt λi hi=>⟨o.nv hi,o.IY hi⟩) λw2 a=>?_;rcases AM a,A0 H a.size,A0 I a.size,O<|o8 q a,O (qj (c.1.below a)<|c.2.below a) with⟨⟨D,E⟩,z0,K,r,c⟩;clear a;go_wp2_with fail;refine m9 (RU sc m c.1.si c.2.si o.n) λw3 u=>?_;have F:=O<|o8 r u;clear u A B D E;go_wp2;go_ret;exact⟨rfl,F⟩
def oO(s i:Nat):A9:=⟨(s:Int)+3*(i:Int),mark<|s+3*i+1,(s:Int)+3*(i:Int)+1+1⟩
def wC s j:KW s j=cellOf (oO s) j:=by
 obtain⟨k,i,hi,rfl⟩:∃k i,i<3/\j=k*3+i:=⟨j/3,j%3,om,om⟩;rw[O2 s k i hi];unfold cellOf;rw[show(k*3+i)%3=i by omega,show(k*3+i)/3=k by omega];rcases(by omega:i=0\/i=1\/i=2)with rfl|rfl|rfl<;>rfl
def Qk(s:Nat)w:C9 67 #[N9,J (s)] w λe w'=>e=.returned (J (s:Int))/\w'=w:=by
 go_enter func67,ntmps67;go_wp2;go_loopw [1,5] (λq i wr=>i=J 0/\q=J (s:Int)/\wr=w) λ_ _ _=>0
 .exact⟨rfl,rfl,rfl⟩
 obtain⟨rfl,rfl,rfl⟩:=hrel;go_wp2;go_ret;exact⟨rfl,rfl⟩
def P8(s:Nat)w:C9 114 #[N9,J (s)] w λe w'=>e=.returned (J (s:Int))/\w'=w:=by
 go_enter func114,ntmps114;go_wp2;go_loopw [1,5] (λq i wr=>i=J 0/\q=J (s:Int)/\wr=w) λ_ _ _=>0
 .exact⟨rfl,rfl,rfl⟩
 obtain⟨rfl,rfl,rfl⟩:=hrel;go_wp2;go_ret;exact⟨rfl,rfl⟩
def jT{s:Nat}(h:GV f n w v lo hi)(hn:n<=1048576)(hs:s<=10000000000000):
  C9 67 #[v,J s] w λe w'=>(e=.returned (J<|(s)+3*(n))/\GV (oO s) n w' v lo hi)/\Bv v w w':=by
 rcases h with⟨c,rfl⟩|⟨c,b,l,rfl,h2,h3,Z,g,hN,m,_⟩
 .subst c;refine(Qk s w).mono ?_;rintro e w' ⟨rfl,rfl⟩;exact⟨⟨oq,.inl ⟨rfl,rfl⟩⟩,Bv.same _ _⟩
 refine(Wi b n l Z s g w m hN om om).mono ?_;rintro e w' ⟨⟨rfl,g',d,i⟩,a⟩;exact⟨⟨rfl,.inr ⟨c,b,l,rfl,h2,h3,Z,g',hN,d,λj hj=>(i j hj).trans<|wC s j⟩⟩,⟨a.os,a.tape,a.output,a.size,λk hk hn=>a.block k hk λe=>hn<|qh e⟩⟩
def jF{s}(h:GV (oO s) n w v lo hi)(hn:n<=1048576)(hs:s<=10000000000000):
  C9 114 #[v,J s] w (R9 (J<|(s:Int)+3*(n:Int)) w):=by
 rcases h with⟨a,rfl⟩|⟨a,b,c,rfl,h2,h3,h4⟩
 .subst a;refine(P8 s w).mono ?_;rintro e w' ⟨rfl,rfl⟩;exact⟨oq,BE _ _⟩
 refine VN b n c s w h4.lt (λi hi j u hu=>?_) om om;have hj:j<3:=(So.1 hu).1;obtain⟨c0,c1,c2⟩:=h4.cells hi;rcases(by omega:j=0\/j=1\/j=2)with rfl|rfl|rfl<;>cases hu
 .exact c0
 .exact c1
 exact c2
def jR{s:Nat}(h:GV f n w v lo hi)(hn:n<=1048576)(hs:s<=10000000000000):
  C9 34 #[.agg #[v],J s] w λe w'=>(e=.returned (J<|(s)+3*(n))/\GV (oO s) n w' v lo hi)/\Bv v w w':=by
 obtain⟨a,i,rfl⟩:=h.form;have g:B9 w<|w.alloc<|.cells #[.slice a n i] 38:=n9;have j:∀k,(Value.slice a n i).ownBlock=some k->k<w.heap.size:=λk e=>by
  rcases h with⟨p,e'⟩|⟨p,b,r,e',h2,h3,h4⟩
  .cases e';cases e
  cases e';cases e;exact h4.lt
 have q:=O<|jT (h.CH λb e=>g.block b<|j b e) hn hs;have c:=O g;clear h g;go_enter func34,ntmps34;go_wp2_with fail;refine q.mono ?_;rintro e w1 ⟨⟨rfl,o⟩,d⟩;have l:=O o;have m:Hid<|Bv (.slice a n i) w w1:=O ⟨d.os.trans c.os,d.tape.trans c.tape,d.output.trans c.output,GP c.size d.size,λk hk hn=>(d.block k (A0 hk c.size) hn).trans<|c.block k hk⟩;clear o d;go_wp2;go_ret;exact⟨⟨rfl,l⟩,m⟩
def jD{s}(h:GV (oO s) n w v lo hi)(hn:n<=1048576)(hs:s<=10000000000000)(g:hi<=w.heap.size):
  C9 72 #[.agg #[v],J s] w (R9 (J<|(s:Int)+3*(n:Int)) w):=by
 obtain⟨a,i,rfl⟩:=h.form;have b:B9 w<|w.alloc<|.cells #[.slice a n i] 38:=n9;have j:=O<|jF (h.below b g) hn hs;have c:=O b;clear h b;go_enter func72,ntmps72;go_wp2_with fail;refine j.mono ?_;rintro e w1 ⟨rfl,d⟩;have f:=O<|o8 c d;clear d;have hq:¬(s:Int)+3*(n:Int)<0:=om;go_wp2;go_ret;exact⟨rfl,f⟩
def Ul(s:AK)(k:Nat):AK:=⟨s.nf,oO k,s.nt,λi=>mkT (s.T i)<|KB s.T (k+3*s.nf) i,s.ns,jY<|KB s.T (k+3*s.nf) s.nt⟩
def IA(s:AK)(k:Nat):Nat:=KB s.T (k+3*s.nf) s.nt+5*s.ns
structure aS (s:AK):Prop where
 f:s.nf<=1048576
 t:Em s.T s.nt<=2000000000
 n:s.ns<=1048576
def M0 s w:
  C9 35 #[N9,J s] w λe w'=>e=.returned (J s)/\w'=w:=by
 go_enter func35,ntmps35;go_wp2;go_loopw [1,5] (λq i wr=>q=J s/\i=J 0/\wr=w) λ_ _ _=>0
 .exact⟨rfl,rfl,rfl⟩
 obtain⟨rfl,rfl,rfl⟩:=hrel;go_wp2;go_ret;exact⟨rfl,rfl⟩
def MW s w:
  C9 73 #[N9,J s] w λe w'=>e=.returned (J s)/\w'=w:=by
 go_enter func73,ntmps73;go_wp2;go_loopw [1,5] (λq i wr=>q=J s/\i=J 0/\wr=w) λ_ _ _=>0
 .exact⟨rfl,rfl,rfl⟩
 obtain⟨rfl,rfl,rfl⟩:=hrel;go_wp2;go_ret;exact⟨rfl,rfl⟩
def jV{s:Nat}{f}(h:Xl lo hi w v n f H)(d:Em f n<=2000000000)(hs:s<=10000000000000):
  C9 35 #[v,J s] w λe w'=>(e=.returned (J<|KB f s n)/\Xl lo hi w' v n (λi=>mkT (f i)<|KB f s i) H)/\(w'.os=w.os/\w'.tape=w.tape/\w'.output=w.output/\w.heap.size<=w'.heap.size/\∀k,k<w.heap.size->v.ownBlock≠some k->(∀i,i<n->¬(H i).own k)->w'.heap[k]?=w.heap[k]?):=by
 rcases h with⟨j,rfl⟩|⟨b,a,Z,g,rfl,h2,h3,h4,h5,l,c⟩
 .subst j;refine(M0 s w).mono λe w' h=>?_;rw[h.2];exact⟨⟨by rw[h.1];rfl,.inl ⟨rfl,rfl⟩⟩,rfl,rfl,rfl,Be _,λ_ _ _ _=>rfl⟩
 refine(MZ a Z lo hi s g w h4 h5 l c d hs).mono λe w' h=>?_;obtain⟨⟨rfl,⟨g',m⟩,o⟩,hb⟩:=h;exact⟨⟨rfl,.inr ⟨b,a,Z,g',rfl,h2,h3,m,h5,o,c⟩⟩,hb.os,hb.tape,hb.output,hb.size,λk hk h1 h2=>hb.block k hk (λe=>h1<|qh e) h2⟩
def jH{s}{f}(h:Xl lo hi w v n (λi=>mkT (f i)<|KB f s i) H)(a:Em f n<=2000000000)(hs:s<=10000000000000):
  C9 73 #[v,J s] w (R9 (J (KB f s n:Int)) w):=by
 rcases h with⟨c,rfl⟩|⟨b,d,Z,g,rfl,h2,h3,h4,h5,j,k⟩
 .subst c;refine(MW s w).mono λe w' h=>?_;rw[h.2];exact⟨by rw[h.1];rfl,BE _ _⟩
 exact MV b d lo hi s H w (H8 h4) j a hs
def jS(h:MR lo hi w vF vT vS s H)(hs:aS s)(k:Nat)(ae:k<=1000000000000)(hh:hi<=w.heap.size):
  C9 12 #[.agg #[vF,vT,vS],J k] w λe w'=>(e=.returned (J<|IA s k)/\MR lo hi w' vF vT vS (Ul s k) H)/\Ou lo hi w w':=by
 rcases hs.f,hs.t,hs.n,SS s.T (k+3*s.nf) s.nt,JQ w (.cells #[vF,vT,vS] 42) with⟨hf,ht,hn,P,⟨W,M,l,_⟩⟩;have Q:w.heap.size<W.heap.size:=by rw[M];simp
 have b:=h.below l hh;rcases b.f.at,b.t.at,b.si.at with⟨⟨fa,fc,eF,_⟩,⟨ta,tc,R,_⟩,⟨sa,sc,S,_⟩⟩;have x1:W.cell? (y w 1)=some vT:=by rw[M,R];simp[go_sem]
 have x2:W.cell? (y w 2)=some vS:=by rw[M,S];simp[go_sem]
 have HE:=O<|qj eF<|qj R S;subst eF R S;go_enter func12,ntmps12;go_wp2_with fail;rw[<-M];refine(jR (s:=k) b.f hf om).mono ?_;rintro e w1 ⟨⟨rfl,u⟩,d⟩;have l1:=A0 Q d.size;have v:(Value.slice fa s.nf fc).ownBlock≠some w.heap.size:=λe=>oS (b.f.own e).2.1;have U:(Value.slice ta s.nt tc).ownBlock≠some w.heap.size:=λe=>oS (b.t.own e).2.1;have V:∀i,i<s.nt->¬(H i).own w.heap.size:=λi hi e=>oS (b.t.row hi e).2.1;rcases (As (a:=y w 1)<|d.block _ Q v).trans x1,(As (a:=y w 2)<|d.block _ Q v).trans x2,O<|b.t.keep (λq e=>d.block q (b.t.own e).2.2 λc=>b.ft q c e) λi q hi e=>d.block q (b.t.row hi e).2.2 λc=>b.fr q i c hi e,O (b.si.keep λq e=>d.block q (b.si.own e).2.2 λc=>b.fs q c e) with⟨y1,y2,o,x⟩;have A:Hid<|Ou lo hi w w1:=O ⟨d.os.trans l.os,d.tape.trans l.tape,d.output.trans l.output,om,λj hk hn=>(d.block j om λe=>oS<|b.f.own e).trans<|l.block j hk⟩;go_wp2_with fail;have hA:=jV (s:=k+3*s.nf) o ht om;rw[show((k+3*s.nf:Nat):Int)=(k:Int)+3*(s.nf:Int) by omega]at hA;refine hA.mono ?_;rintro e w2 ⟨⟨rfl,p⟩,B,C,D,E,m⟩;rcases (As (a:=y w 2)<|m _ l1 (z<|O U)<|z<|O V).trans y2,O<|x.keep λq e=>m q (x.own e).2.2 (b.st q e) λi hi=>b.sr q i e hi,O (u.CH λq e=>m q (u.own e).2.2 (b.ft q e) λi hi=>b.fr q i e hi) with⟨af,F,I⟩;have K:=A.trans ⟨B,C,D,E,λj hk hn=>m j hk (λe=>oS<|o.own e) λi hi e=>oS<|o.row hi e⟩;obtain⟨r,X⟩:=o9<|KB s.T (k+3*s.nf) s.nt;rw[<-X];have ag:r<=60000000000000:=om;have HR:=O X;clear hA B C D E m y1 y2 X P;go_wp2_with fail;refine(jU (s:=r) F hn om).mono ?_;rintro e w3 ⟨⟨rfl,Z⟩,g⟩;have ad:Hid<|MR lo hi w3 (.slice fa s.nf fc) (.slice ta s.nt tc) (.slice sa s.ns sc) (Ul s k) H:=O (by
  refine⟨I.CH (λq e=>g.block q (I.own e).2.2 (b.fs q e)),p.keep (λq e=>g.block q (p.own e).2.2 (λc=>b.st q c e)) (λi q hi e=>g.block q (p.row hi e).2.2 (λc=>b.sr q i c hi e)),?_,b.ft,b.fs,b.fr,b.st,b.sr⟩;show Vk (jY (KB s.T (k+3*s.nf) s.nt)) s.ns w3 _ lo hi;rw[<-(z HR)];exact Z)
 have L:=K.trans ⟨g.os,g.tape,g.output,g.size,λj hk hn=>g.block j hk λe=>oS<|F.own e⟩;have HN:Hid<|r+5*s.ns=IA s k:=O (by unfold IA;rw[z HR]);go_wp2;go_ret;exact⟨⟨by rw[<-z HN]<;>rfl,ad⟩,L⟩
def jE{k}(h:MR lo hi w vF vT vS (Ul s k) H)(hs:aS s)(K:k<=1000000000000)(L:hi<=w.heap.size):
  C9 37 #[.agg #[vF,vT,vS],J k] w (R9 (J (IA s k:Int)) w):=by
 rcases hs.f,hs.t,SS s.T (k+3*s.nf) s.nt,JQ w (.cells #[vF,vT,vS] 42) with⟨hf,M,p,⟨W,m,c,_⟩⟩;have u:w.heap.size<W.heap.size:=by rw[m];simp
 have v:=h.below c L;have D:GV (oO k) s.nf W vF lo hi:=v.f;have o:Xl lo hi W vT s.nt (λi=>mkT (s.T i)<|KB s.T (k+3*s.nf) i) H:=v.t;have x:Vk (jY<|KB s.T (k+3*s.nf) s.nt) s.ns W vS lo hi:=v.si;rcases D.at,o.at,x.at with⟨⟨V,X,P,_⟩,⟨ta,tc,E,_⟩,⟨sa,sc,F,_⟩⟩;have x1:W.cell? (y w 1)=some vT:=by rw[m,E];simp[go_sem]
 have x2:W.cell? (y w 2)=some vS:=by rw[m,F];simp[go_sem]
 have A:hi<=W.heap.size:=om;subst P E F;go_enter func37,ntmps37;go_wp2_with fail;rw[<-m];refine m9 (jD (s:=k) D hf om A) λw1 a=>?_;rcases (a.cell u).trans x1,(a.cell u).trans x2,O<|x.keep λq e=>a.block q (x.own e).2.2,o8 c a with⟨Q,I,d,g⟩;go_wp2_with fail;have hA:=jH (z<|o.keep (λq e=>a.block q (o.own e).2.2) λi q hi e=>a.block q (o.row hi e).2.2) M om;rw[show((k+3*s.nf:Nat):Int)=(k:Int)+3*(s.nf:Int) by omega]at hA;refine hA.mono ?_;rintro e w2 ⟨rfl,b⟩;rcases (b.cell<|A0 u a.size).trans I,d.keep λq e=>b.block q (d.own e).2.2,o8 g b,o9 (KB s.T (k+3*s.nf) s.nt) with⟨R,j,l,⟨r,B⟩⟩;rw[<-B]at j ⊢;have S:r<=60000000000000:=om;have U:Hid<|r+5*s.ns=IA s k:=O (by unfold IA;rw[B]);clear hA b Q I B p;go_wp2_with fail;refine m9 (jG (s:=r) j hs.n om) λw3 C=>?_;go_wp2;go_ret;exact⟨by rw[<-z U]<;>rfl,z<|o8 l C⟩
section
open Go.ChangeShapes Go.WideShapes Go.ChangeAt Go.RowKit
def Mh a w:
  C9 8 #[Kz a] w (R9 (Kz a) w):=by
 go_enter func8,ntmps8;go_wp2_with fail;refine m9 (Fx a.k.kind a.k.num a.k.Af a.k.str a.k.ref _) λw1 b=>?_;obtain⟨d,l⟩:=AM b;have e:=b.size;simp at e;have o:w.heap.size<w1.heap.size:=om;have m:w.heap.size+1<w1.heap.size:=om;have p:w.heap.size+1+1<w1.heap.size:=om;have f:Hid<|B9 w w1:=O (by
  refine AaD ?_<|b.mono ot;repeat(refine NO ?_ oy _)
  exact((n9).alloc oq _).alloc ot _)
 clear b;go_wp2_with fail;refine m9 (Fx a.v.kind a.v.num a.v.Af a.v.str a.v.ref _) λw2 c=>?_;obtain⟨g,n⟩:=AM c;have h:=c.size;simp at h;have z0:w.heap.size<w2.heap.size:=om;have q:w.heap.size+1<w2.heap.size:=om;have z2:w.heap.size+1+1<w2.heap.size:=om;have i:=O c;clear c;go_wp2;refine GO (v:=Kz a) (by simp[results,results8,go_sem,d,g,m]) rfl ⟨rfl,?_⟩;have j:B9 w w2:=by
  refine AaD ?_<|i.mono ot;repeat(refine NO ?_ oy _)
  exact f
 repeat(refine NO ?_ (by first|(show w.heap.size<=w.heap.size+1;omega)|(show w.heap.size<=w.heap.size+1+1;omega)) _)
 exact j
def mH(a:Ac)(left:Int):Int:=if left<a.k.str.size then -1 else if left-a.k.str.size<a.v.str.size then -1 else left-a.k.str.size-a.v.str.size
def ZO a left w(hk:a.k.str.size<=maxLen)(g:a.v.str.size<=maxLen)(e:0<=left)(h1:left<=1048576):
  C9 5 #[Kz a,J left] w (R9 (J<|mH a left) w):=by
 have d:B9 w<|w.alloc<|.cells (qf a) 33:=n9;have b:=O d;clear d;by_cases t0:left<a.k.str.size
 .have c:Hid<|mH a left=-1:=O (by unfold mH;rw[C3 t0]);go_enter func5,ntmps5;go_wp2_with fail;refine m9 (Mg a.k.kind a.k.num a.k.Af a.k.str a.k.ref left _ hk e h1) λw1 hb=>?_;rw[C3 t0];have b:=O<|o8 b hb;clear hb;go_wp2_with fail;go_ret;exact⟨qg c,b⟩
 have h:¬(left-a.k.str.size<0):=om;have c:Hid<|mH a left=if left-a.k.str.size<a.v.str.size then -1 else left-a.k.str.size-a.v.str.size:=O (by unfold mH;rw[Cs t0]);go_enter func5,ntmps5;go_wp2_with fail;refine m9 (Mg a.k.kind a.k.num a.k.Af a.k.str a.k.ref left _ hk e h1) λw1 hb=>?_;rw[Cs (show¬left<(a.k.str.size:Int) by omega)];obtain⟨hc,hf⟩:=AM hb;have b:=O<|o8 b hb;clear hb;go_wp2_with fail;refine m9 (Mg a.v.kind a.v.num a.v.Af a.v.str a.v.ref (left-a.k.str.size) _ g om om) λw2 hb=>?_;have b:=O<|o8 b hb;clear hb hc hf;by_cases t1:left-a.k.str.size<a.v.str.size
 .rw[C3 t1]at c;rw[C3 t1];go_wp2_with fail;go_ret;exact⟨qg c,b⟩
 rw[Cs t1]at c;rw[Cs t1];have f:¬(left-a.k.str.size-a.v.str.size<0):=om;go_wp2_with fail
 go_ret;exact⟨qg c,b⟩
section
variable {H:Type} {enc:TypeId×Value->H} {P:Program} {w:Y} {base:Nat} {spare:Nat->Bool} {held:Bool}
structure Fa (P:Program) (t ti a:TypeId):Prop where
 st:∃f0 f1 f2 f3 f4 f5:Field,P.underlying t=some (.struct #[f0,f1,f2,f3,f4,f5])/\f0.type=ti/\f1.type=ti/\f2.type=ti/\f3.type=ti/\f4.type=a/\f5.type=a/\f0.offset=0/\f1.offset=1/\f2.offset=2/\f3.offset=3/\f4.offset=4/\f5.offset=9
 ci:P.cellsOf ti=1
 cv:P.cellsOf a=5
 ct:P.cellsOf t=14
 ui:P.underlying ti=some (.int .i64)
theorem oL{α:Type}:∀{cs:List α},cs.length=14->∃c0 c1 c2 c3 c4 c5 c6 c7 d e a Xr b c,cs=[c0,c1,c2,c3,c4,c5,c6,c7,d,e,a,Xr,b,c]
 |[c0,c1,c2,c3,c4,c5,c6,c7,d,e,a,Xr,b,c],_=>⟨c0,c1,c2,c3,c4,c5,c6,c7,d,e,a,Xr,b,c,rfl⟩
def Zs{t ti c tn g ts}(F:Fa P t ti c)(Z:Fs P c ti tn g ts){fuel}{cs}{x}(h:DataW.trod enc P w base spare held fuel t cs=some x):
  ∃a,cs=(Kz a).cells.toList/\Wf a.k/\Wf a.v:=by
 obtain⟨f0,f1,f2,f3,f4,f5,hu,t0,t1,t2,t3,t4,t5,o0,o1,o2,i,j,l⟩:=F.st;obtain⟨xs,n,_,rfl,hl,b,hf⟩:=Aay hu h;rw[F.ct]at hl;obtain⟨c0,c1,c2,c3,c4,c5,c6,c7,r,s,m,Xr,o,p,rfl⟩:=oL hl
 match xs,b with
 |[u,A,B,C,D,E],_=>
  rcases hf 0 f0 rfl,hf 1 f1 rfl,hf 2 f2 rfl,hf 3 f3 rfl,hf 4 f4 rfl,hf 5 f5 rfl with⟨d,h1,h2,h3,h4,h5⟩;simp only[t0,t1,t2,t3,t4,t5,o0,o1,o2,i,j,l,F.ci,F.cv,List.drop_zero,AaB,Aaz,List.take_zero,List.getElem?_cons_zero,Aao]at d h1 h2 h3 h4 h5;rcases Wx F.ui d,Wx F.ui h1,Wx F.ui h2,Wx F.ui h3,Gg Z h4,Gg Z h5 with⟨⟨a0,e0,r0,w0⟩,⟨a1,e1,r1,w1⟩,⟨a2,e2,r2,w2⟩,⟨a3,e3,r3,w3⟩,⟨k0,k1,k2,k3,k4,e,_,_,fk,sk,_,_⟩,⟨v0,v1,v2,v3,v4,f,_,_,fv,q,_,_⟩⟩;simp only[AaT,and_true]at e0 e1 e2 e3 e f;obtain⟨rfl,rfl,rfl,rfl,rfl⟩:=e;obtain⟨rfl,rfl,rfl,rfl,rfl⟩:=f;subst e0 e1 e2 e3;exact⟨⟨a0,a1,a2,a3,⟨k0,k1,k2,k3,k4⟩,⟨v0,v1,v2,v3,v4⟩⟩,rfl,⟨Oi fk,sk⟩,⟨Oi fv,q⟩⟩
end
end
end Go.Proofs.YtoobllcjfinmoaaGreatDoor
