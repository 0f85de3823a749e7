import Derived.Test.YtoobllcjfinmoaaGreatDoorSDAE
set_option linter.all false
set_option maxHeartbeats 40000000
set_option maxRecDepth 100000
namespace Go.Proofs.YtoobllcjfinmoaaGreatDoor
open Go.Proofs.Tryz
open Go.RowKit
attribute [local go_sem] Aw Ar Dd
variable {f:Nat->Si}{n lo hi b a o c B0 g B j i:Nat}{w w' u:Y}{v vN vT vS vU vF:V9}{s:AL}{t:Tb}{Z:Nat->Prop}{A:Nat->Ad}{d:Dc}{k:Vl}{la a':Option Addr}{T:Nat->Tb}{hf:Vl->Nat}
def Om(f:Nat->Vl)(n:Nat)(w:Y)(v:V9)(lo hi:Nat):Prop:=
 (n=0/\v=N9)\/∃b a Z g,v=S9 b n a/\lo<=b/\b<hi/\w.rowIs b 43 Z g/\n*5<=Z/\∀j,j<n*5->g j=RL f j
def Om.keep{f}(h:Om f n w v lo hi)(hk:∀b,v.ownBlock=some b->w'.heap[b]?=w.heap[b]?):Om f n w' v lo hi:=by
 rcases h with h|⟨b,a,Z,g,rfl,h2,h3,h4,h5,c⟩
 .exact .inl h
 exact .inr ⟨b,a,Z,g,rfl,h2,h3,GW h4<|hk b rfl,h5,c⟩
theorem Om.at{f}(h:Om f n w v lo hi):∃a c,v=.slice a n c/\Fq w a n f:=by
 rcases h with⟨d,rfl⟩|⟨b,c,Z,g,h1,h2,h3,h4,h5,e⟩
 .subst d;exact⟨_,_,rfl,.inl rfl⟩
 exact⟨_,_,h1,.inr ⟨b,0,rfl,H8 h4,λi hi=>by rw[VC];exact qA h4 h5 e hi⟩⟩
def KR.CQ{f}(h:KR f n w v lo hi)(hk:∀b,v.ownBlock=some b->w'.heap[b]?=w.heap[b]?):KR f n w' v lo hi:=by
 rcases h with h|⟨b,a,Z,g,rfl,h2,h3,h4,h5,c⟩
 .exact .inl h
 exact .inr ⟨b,a,Z,g,rfl,h2,h3,GW h4<|hk b rfl,h5,c⟩
def Hy.CQ{f}(h:Hy f n w v lo hi)(hk:∀b,v.ownBlock=some b->w'.heap[b]?=w.heap[b]?):Hy f n w' v lo hi:=by
 rcases h with h|⟨b,a,Z,g,rfl,h2,h3,h4,h5,c⟩
 .exact .inl h
 exact .inr ⟨b,a,Z,g,rfl,h2,h3,GW h4<|hk b rfl,h5,c⟩
def Hy.YG{f}(h:Hy f n w v lo hi):∃a c,v=.slice a n c/\JX w a n f:=by
 rcases h with⟨d,rfl⟩|⟨b,c,Z,g,h1,h2,h3,h4,h5,e⟩
 .subst d;exact⟨_,_,rfl,.inl rfl⟩
 exact⟨_,_,h1,.inr ⟨b,0,rfl,H8 h4,λi hi=>by rw[VC,h4.cell om,e i hi]⟩⟩
structure Bv (v:V9) (w w':Y):Prop where
 os:w'.os=w.os
 tape:w'.tape=w.tape
 output:w'.output=w.output
 size:w.heap.size<=w'.heap.size
 block:∀k,k<w.heap.size->v.ownBlock≠some k->w'.heap[k]?=w.heap[k]?
def Bv.Yc(h:Bt b w w'):Bv (S9 b n a) w w':=⟨h.os,h.tape,h.output,h.size,λk hk hn=>h.block k hk λe=>hn<|qi e⟩
theorem Bv.same v w:Bv v w w:=⟨rfl,rfl,rfl,Be _,λ_ _ _=>rfl⟩
def Pt s w:
  C9 68 #[N9,J s] w λe w'=>e=.returned (J s)/\w'=w:=by
 go_enter func68,ntmps68;go_wp2;go_loopw [1,5] (λq i wr=>q=J s/\i=J 0/\wr=w) λ_ _ _=>0
 .exact⟨rfl,rfl,rfl⟩
 obtain⟨rfl,rfl,rfl⟩:=hrel;go_wp2;go_ret;exact⟨rfl,rfl⟩
def Pm s w:
  C9 69 #[N9,J s] w λe w'=>e=.returned (J s)/\w'=w:=by
 go_enter func69,ntmps69;go_wp2;go_loopw [1,5] (λq i wr=>q=J s/\i=J 0/\wr=w) λ_ _ _=>0
 .exact⟨rfl,rfl,rfl⟩
 obtain⟨rfl,rfl,rfl⟩:=hrel;go_wp2;go_ret;exact⟨rfl,rfl⟩
def kA{f}{s:Nat}(h:Om f n w v lo hi)(hn:n<=2000000000)(hs:s<=100000000000000):
  C9 68 #[v,J s] w λe w'=>(e=.returned (J ((s+5*n:Nat):Int))/\Om (lZ s) n w' v lo hi)/\Bv v w w':=by
 rcases h with⟨c,rfl⟩|⟨b,a,Z,g,rfl,h2,h3,h4,h5,j⟩
 .subst c;refine(Pt s w).mono λe w' h=>?_;rw[h.2];exact⟨⟨by rw[h.1];rfl,.inl ⟨rfl,rfl⟩⟩,Bv.same _ _⟩
 refine(Nu b n a Z s g w h4 h5 om hs).mono λe w' h=>?_;obtain⟨⟨rfl,g',d,i⟩,hb⟩:=h;exact⟨⟨oq,.inr ⟨b,a,Z,g',rfl,h2,h3,d,h5,i⟩⟩,Bv.Yc hb⟩
def dL{f}{s:Nat}(h:KR f n w v lo hi)(hn:n<=2000000000)(hs:s<=100000000000000):
  C9 69 #[v,J s] w λe w'=>(e=.returned (J ((s+11*n:Nat):Int))/\KR (lY s) n w' v lo hi)/\Bv v w w':=by
 rcases h with⟨c,rfl⟩|⟨b,a,Z,g,rfl,h2,h3,h4,h5,j⟩
 .subst c;refine(Pm s w).mono λe w' h=>?_;rw[h.2];exact⟨⟨by rw[h.1];rfl,.inl ⟨rfl,rfl⟩⟩,Bv.same _ _⟩
 refine(J8 b n a Z s g w h4 h5 om hs).mono λe w' h=>?_;obtain⟨⟨rfl,g',d,i⟩,hb⟩:=h;exact⟨⟨oq,.inr ⟨b,a,Z,g',rfl,h2,h3,d,h5,i⟩⟩,Bv.Yc hb⟩
def Ux{f}{s:Nat}(h:Hy f n w v lo hi)(hn:n<=2000000000)(hs:s<=100000000000000):
  C9 70 #[v,J s] w λe w'=>(e=.returned (J ((s+n:Nat):Int))/\Hy (λj=>((s+j:Nat):Int)) n w' v lo hi)/\Bv v w w':=by
 rcases h with⟨c,rfl⟩|⟨b,a,Z,g,rfl,h2,h3,h4,h5,k⟩
 .subst c;refine(SB s w).mono λe w' h=>?_;rw[h.2];exact⟨⟨by rw[h.1];rfl,.inl ⟨rfl,rfl⟩⟩,Bv.same _ _⟩
 refine(Iu b n a Z s g w h4 h5 om hs).mono λe w' h=>?_;obtain⟨⟨rfl,g',d,i⟩,hb⟩:=h;exact⟨⟨rfl,.inr ⟨b,a,Z,g',rfl,h2,h3,d,h5,i⟩⟩,Bv.Yc hb⟩
def jM{s}(h:Om (lZ s) n w v lo hi)(hn:n<=2000000000)(hs:s<=100000000000000):
  C9 115 #[v,J s] w (R9 (J ((s+5*n:Nat):Int)) w):=by
 obtain⟨a,b,rfl,hA⟩:=h.at;refine(Nq b s hA om hs).mono λe w' h=>?_;exact⟨by rw[h.1];simp,h.2⟩
def OV s w:
  C9 116 #[N9,J s] w λe w'=>e=.returned (J s)/\w'=w:=by
 go_enter func116,ntmps116;go_wp2;go_loopw [1,5] (λq i wr=>q=J s/\i=J 0/\wr=w) λ_ _ _=>0
 .exact⟨rfl,rfl,rfl⟩
 obtain⟨rfl,rfl,rfl⟩:=hrel;go_wp2;go_ret;exact⟨rfl,rfl⟩
def cJ{s}(h:KR (lY s) n w v lo hi)(hn:n<=2000000000)(hs:s<=100000000000000):
  C9 116 #[v,J s] w (R9 (J ((s+11*n:Nat):Int)) w):=by
 rcases h with⟨a,rfl⟩|⟨b,c,Z,g,rfl,h2,h3,h4,h5,d⟩
 .subst a;refine(OV s w).mono λe w' h=>?_;rw[h.2];exact⟨by rw[h.1];rfl,BE _ _⟩
 refine(Qs b n c s w (H8 h4) (λi hi=>dV h4 h5 d hi) om hs).mono λe w' h=>?_;exact⟨by rw[h.1];simp,h.2⟩
def T6{s}(h:Hy (λj=>((s+j:Nat):Int)) n w v lo hi)(hn:n<=2000000000)(hs:s<=100000000000000):
  C9 117 #[v,J s] w (R9 (J ((s+n:Nat):Int)) w):=by
 rcases h with⟨a,rfl⟩|⟨b,c,Z,g,rfl,h2,h3,h4,h5,d⟩
 .subst a;refine(Sg s w).mono λe w' h=>?_;rw[h.2];exact⟨by rw[h.1];rfl,BE _ _⟩
 exact Sf b n c s w (H8 h4) (λi hi=>by rw[h4.cell om,d i hi]) om hs
structure Hs where
 v:Value
 l:Value
 i:Value
 x:Value
def Hs.own(h:Hs)(q:Nat):Prop:=h.v.ownBlock=some q\/h.l.ownBlock=some q\/h.i.ownBlock=some q\/h.x.ownBlock=some q
structure aN (lo hi:Nat) (w:Y) (b o:Nat) (h:Hs) (t:Tb):Prop where
 c0:w.cell? (G b o)=some (J t.shape)
 c1:w.cell? (G b<|o+1)=some h.v
 c2:w.cell? (G b<|o+2)=some h.l
 c3:w.cell? (G b<|o+3)=some h.i
 c4:w.cell? (G b<|o+4)=some h.x
 c5:w.cell? (G b<|o+5)=some (J t.d.used)
 c6:w.cell? (G b<|o+6)=some (J t.d.live)
 c7:w.cell? (G b<|o+7)=some (J t.d.turns)
 v:Om t.V t.nv w h.v lo hi
 l:KR t.d.L t.d.n w h.l lo hi
 i:Hy t.d.I t.d.m w h.i lo hi
 x:Hy t.d.X t.d.x w h.x lo hi
def aN.keep{h}(H:aN lo hi w b o h t)(hk:∀q,h.own q->w'.heap[q]?=w.heap[q]?)(hc:∀j,j<8->w'.cell? (G b<|o+j)=w.cell? (G b<|o+j)):aN lo hi w' b o h t:=
 ⟨(hc 0 om).trans H.c0,(hc 1 om).trans H.c1,(hc 2 om).trans H.c2,(hc 3 om).trans H.c3,(hc 4 om).trans H.c4,(hc 5 om).trans H.c5,(hc 6 om).trans H.c6,(hc 7 om).trans H.c7,
  H.v.keep (λq e=>hk q (.inl e)),H.l.CQ (λq e=>hk q (.inr (.inl e))),H.i.CQ (λq e=>hk q (.inr (.inr (.inl e)))),H.x.CQ (λq e=>hk q (.inr (.inr (.inr e))))⟩
def aN.lt{h}(H:aN lo hi w b o h t){q}(hq:h.own q):q<w.heap.size/\lo<=q/\q<hi:=by
 rcases hq with e|e|e|e
 .rcases H.v with⟨_,h1⟩|⟨b,a,Z,g,h1,h2,h3,h4,h5,c⟩
  .rw[h1]at e;cases e
  rw[h1]at e;cases e;exact⟨H8 h4,h2,h3⟩
 .rcases H.l with⟨_,h1⟩|⟨b,a,Z,g,h1,h2,h3,h4,h5,c⟩
  .rw[h1]at e;cases e
  rw[h1]at e;cases e;exact⟨H8 h4,h2,h3⟩
 .rcases H.i with⟨_,h1⟩|⟨b,a,Z,g,h1,h2,h3,h4,h5,c⟩
  .rw[h1]at e;cases e
  rw[h1]at e;cases e;exact⟨H8 h4,h2,h3⟩
 rcases H.x with⟨_,h1⟩|⟨b,a,Z,g,h1,h2,h3,h4,h5,c⟩
 .rw[h1]at e;cases e
 rw[h1]at e;cases e;exact⟨H8 h4,h2,h3⟩
theorem aN.at{h}(H:aN lo hi w b o h t):YE w b o t:=by
 rcases H.v.at,H.l.at,H.i.YG,H.x.YG with⟨⟨va,vc,e0,r0⟩,⟨la,lc,e1,r1⟩,⟨ia,ic,e2,r2⟩,⟨xa,xc,e3,r3⟩⟩;exact⟨va,vc,la,lc,ia,ic,xa,xc,⟨H.c0,H.c1.trans<|by rw[e0],H.c2.trans<|by rw[e1],H.c3.trans<|by rw[e2],H.c4.trans<|by rw[e3],H.c5,H.c6,H.c7⟩,r0,⟨r1,r2,r3⟩⟩
structure lJ (b n:Nat) (H:Nat->Hs):Prop where
 nb:∀i,i<n->¬(H i).own b
 ij:∀i j q,i<n->j<n->(H i).own q->(H j).own q->i=j
 vl:∀i q,i<n->(H i).v.ownBlock=some q->(H i).l.ownBlock≠some q
 vi:∀i q,i<n->(H i).v.ownBlock=some q->(H i).i.ownBlock≠some q
 vx:∀i q,i<n->(H i).v.ownBlock=some q->(H i).x.ownBlock≠some q
 li:∀i q,i<n->(H i).l.ownBlock=some q->(H i).i.ownBlock≠some q
 lx:∀i q,i<n->(H i).l.ownBlock=some q->(H i).x.ownBlock≠some q
 ix:∀i q,i<n->(H i).i.ownBlock=some q->(H i).x.ownBlock≠some q
structure Bm (b n:Nat) (H:Nat->Hs) (w w':Y):Prop where
 os:w'.os=w.os
 tape:w'.tape=w.tape
 output:w'.output=w.output
 size:w.heap.size<=w'.heap.size
 block:∀k,k<w.heap.size->k≠b->(∀i,i<n->¬(H i).own k)->w'.heap[k]?=w.heap[k]?
def Bm.refl b n H w:Bm b n H w w:=⟨rfl,rfl,rfl,Be _,λ_ _ _ _=>rfl⟩
theorem Bm.trans{H}{v}(h:Bm b n H u v)(k:Bm b n H v w):Bm b n H u w:=
 ⟨k.os.trans h.os,k.tape.trans h.tape,k.output.trans h.output,GP h.size k.size,λi hi h1 h2=>(k.block i (A0 hi h.size) h1 h2).trans<|h.block i hi h1 h2⟩
def tl(t:Tb):Nat:=1+5*t.nv+11*t.d.n+t.d.m+t.d.x+3
def KM(f:Nat->Tb)(s:Nat):Nat->Nat
 |0=>s
 |i+1=>KM f s i+tl (f i)
def mkT(t:Tb)(s:Nat):Tb:=
 ⟨(s:Int),t.nv,lZ<|s+1,⟨t.d.n,lY<|s+1+5*t.nv,t.d.m,λj=>((s+1+5*t.nv+11*t.d.n+j:Nat):Int),t.d.x,λj=>((s+1+5*t.nv+11*t.d.n+t.d.m+j:Nat):Int),
  ((s+1+5*t.nv+11*t.d.n+t.d.m+t.d.x:Nat):Int),((s+1+5*t.nv+11*t.d.n+t.d.m+t.d.x+1:Nat):Int),((s+1+5*t.nv+11*t.d.n+t.d.m+t.d.x+1+1:Nat):Int)⟩⟩
def Td f s k:KM f s k<=s+11*Eu f k:=by
 induction k with
 |zero=>exact Be _
 |succ k ih=>
  show KM f s k+tl (f k)<=s+11*(Eu f k+tw (f k));unfold tl tw dw;omega
def Ns(cap Z lo hi s:Nat)g0{f}{H}w(hr:w.rowIs b 105 Z g0)(hN:n*8<=Z)(hT:∀i,i<n->aN lo hi w b (i*8) (H i) (f i))(hA:lJ b n H)(hw:Eu f n<=2000000000)(hs:s<=10000000000000):
  C9 35 #[.slice (some<|G b 0) n cap,J s] w λe w'=>(e=.returned (J<|KM f s n)/\(∃g,w'.rowIs b 105 Z g)/\∀i,i<n->aN lo hi w' b (i*8) (H i) (mkT (f i)<|KM f s i))/\Bm b n H w w':=by
 have b4:=Te f n;have HT:=O hT;clear hT;go_enter func35,ntmps35;go_wp2;go_loopw [1,5] (λq i wr=>∃(k:Nat),k<=n/\i=J (k:Int)/\q=J (KM f s k:Int)/\(∃g,wr.rowIs b 105 Z g)/\(∀i,i<n->aN lo hi wr b (i*8) (H i) (if i<k then mkT (f i) (KM f s i)else f i))/\Bm b n H w wr) λ_ i _=>n-(intOf i).toNat
 .exact⟨0,om,rfl,rfl,⟨_,hr⟩,λi hi=>by rw[Cs om];exact HT i hi,Bm.refl _ _ _ _⟩
 obtain⟨k,hk,rfl,rfl,⟨g,C⟩,I,hM⟩:=hrel;by_cases a:k<n
 case neg=>
  have bj:k=n:=om;rcases O I,O C,O hM with⟨D,U,HM⟩;clear I C hM a;subst bj;go_wp2;go_ret;exact⟨⟨rfl,⟨_,U⟩,λi hi=>by have:=z D i hi;rwa [C3 hi]at this⟩,HM⟩
 have E:=I k a;rw[Cs (Nat.lt_irrefl k)]at E;have Fu:=N7 f a;have bk:tw (f k)=(f k).nv+((f k).d.n+(f k).d.m+(f k).d.x)+1:=rfl;have V:KM f s (k+1)=KM f s k+(1+5*(f k).nv+11*(f k).d.n+(f k).d.m+(f k).d.x+3):=rfl;have bm:=Td f s k;obtain⟨r,W⟩:=o9<|KM f s k;rw[<-W]at V bm ⊢;have b5:r<=60000000000000:=om;have bn:(f k).nv<=2000000000:=om;have bp:(f k).d.n<=2000000000:=om;have bq:(f k).d.m<=2000000000:=om;have br:(f k).d.x<=2000000000:=om;rcases O V,O W,hA.nb k a with⟨bt,bu,A⟩;rcases C.cell (i:=k*8) om,C.frozen<|k*8,E.c1,E.c2,E.c3,E.c4,H8 C with⟨d0,e0,d1,d2,d3,d4,X⟩;have B0:∀q,q≠b->(wr.setCell (G b<|k*8)<|J (r:Int)).heap[q]?=wr.heap[q]?:=λq hq=>At _ _ _ _ (by exact hq);rcases E.v.keep (λq e=>B0 q λc=>A<|.inl<|c▸e),O<|E.l.CQ λq e=>B0 q λc=>A<|.inr<|.inl<|c▸e,O<|E.i.CQ λq e=>B0 q λc=>A<|.inr<|.inr<|.inl<|c▸e,O (E.x.CQ λq e=>B0 q λc=>A<|.inr<|.inr<|.inr<|c▸e) with⟨af,ag,ah,ai⟩;have aj:Hid<|∀q,(H k).own q->q<wr.heap.size:=O λq hq=>(E.lt hq).1;rcases O I,O C,O hM,O B0 with⟨D,U,HM,bw⟩;clear I C hM E Fu bk V W B0;go_wp2_with fail;have B:=kA (s:=r+1) af bn om;rw[show((r+1:Nat):Int)=(r:Int)+1 by omega]at B;refine B.mono ?_;rintro e w1 ⟨⟨rfl,hv⟩,L⟩;have l1:=A0 (by simpa using X) L.size;have ak:=L.block b (by simpa using X) λc=>A<|.inl c;have ad:Hid<|∀q,w1.cell? (G b q)=(wr.setCell (G b<|k*8)<|J (r:Int)).cell? (G b q):=O λq=>As ak;have p2:=(ad _).trans<|(Aa om).trans d2;have p3:=(ad _).trans<|(Aa om).trans d3;have p4:=(ad _).trans<|(Aa om).trans d4;have ao:Hid<|∀q,(H k).own q->q<w1.heap.size:=O λq hq=>A0 (by simpa using z aj q hq) L.size;have K1:∀q,(H k).own q->(H k).v.ownBlock≠some q->w1.heap[q]?=(wr.setCell (G b<|k*8)<|J (r:Int)).heap[q]?:=λq hq hn=>L.block q (by simpa using z aj q hq) hn;rcases O (ag.CQ λq e=>K1 q (.inr<|.inl e) λc=>hA.vl k q a c e),O<|ah.CQ λq e=>K1 q (.inr<|.inr<|.inl e) λc=>hA.vi k q a c e,O<|ai.CQ λq e=>K1 q (.inr<|.inr<|.inr e) λc=>hA.vx k q a c e,O L with⟨aq,ar,au,o⟩;clear B L ak K1 af ag ah ai d0 e0 d1 d2 d3 d4;go_wp2_with fail;have B:=dL (s:=r+1+5*(f k).nv) aq bp om;refine B.mono ?_;rintro e w2 ⟨⟨rfl,hl⟩,M⟩;have l2:=A0 l1 M.size;have av:=M.block b l1 λc=>A<|.inr<|.inl c;have aw:Hid<|∀q,w2.cell? (G b q)=w1.cell? (G b q):=O λq=>As av;have q3:=(aw _).trans p3;have q4:=(aw _).trans p4;have ax:Hid<|∀q,(H k).own q->q<w2.heap.size:=O λq hq=>A0 (ao q hq) M.size;have K2:∀q,(H k).own q->(H k).l.ownBlock≠some q->w2.heap[q]?=w1.heap[q]?:=λq hq hn=>M.block q (ao q hq) hn;rcases O (hv.keep λq e=>K2 q (.inl e) λc=>hA.vl k q a e c),O hl,ar.CQ λq e=>K2 q (.inr<|.inr<|.inl e) λc=>hA.li k q a c e,O<|au.CQ λq e=>K2 q (.inr<|.inr<|.inr e) λc=>hA.lx k q a c e,O M with⟨ay,az,aM,a6,t⟩;clear B M hl av K2 aq ar au p2 p3 p4 hv;go_wp2_with fail;have B:=Ux (s:=r+1+5*(f k).nv+11*(f k).d.n) aM bq om;refine B.mono ?_;rintro e w3 ⟨⟨rfl,hi⟩,P⟩;have l3:=A0 l2 P.size;have a7:=P.block b l2 λc=>A<|.inr<|.inr<|.inl c;have bx:Hid<|∀q,w3.cell? (G b q)=w2.cell? (G b q):=O λq=>As a7;have t4:=(bx _).trans q4;have bz:Hid<|∀q,(H k).own q->q<w3.heap.size:=O λq hq=>A0 (ax q hq) P.size;have K3:∀q,(H k).own q->(H k).i.ownBlock≠some q->w3.heap[q]?=w2.heap[q]?:=λq hq hn=>P.block q (ax q hq) hn;rcases O (ay.keep λq e=>K3 q (.inl e) λc=>hA.vi k q a e c),O<|az.CQ λq e=>K3 q (.inr<|.inl e) λc=>hA.li k q a e c,O hi,a6.CQ λq e=>K3 q (.inr<|.inr<|.inr e) λc=>hA.ix k q a c e,O P with⟨a8,bb,bc,bd,u⟩;clear B P hi a7 K3 ay az aM a6 q3 q4;go_wp2_with fail;have B:=Ux (s:=r+1+5*(f k).nv+11*(f k).d.n+(f k).d.m) bd br om;refine B.mono ?_;rintro e w4 ⟨⟨rfl,hx⟩,K⟩;have bf:=K.block b l3 λc=>A<|.inr<|.inr<|.inr c;have K4:∀q,(H k).own q->(H k).x.ownBlock≠some q->w4.heap[q]?=w3.heap[q]?:=λq hq hn=>K.block q (bz q hq) hn;rcases O (a8.keep λq e=>K4 q (.inl e) λc=>hA.vx k q a e c),O<|bb.CQ λq e=>K4 q (.inr<|.inl e) λc=>hA.lx k q a e c,O (bc.CQ λq e=>K4 q (.inr<|.inr<|.inl e) λc=>hA.ix k q a e c) with⟨b0,b1,b2⟩;have eb:=bf.trans<|(O (p:=True) trivial |> λ_=>u.block b l2 λc=>A<|.inr<|.inr<|.inl c).trans<|(t.block b l1 λc=>A<|.inr<|.inl c).trans<|o.block b (by simpa using X) λc=>A<|.inl c;have re:=GW (U.set (k*8)<|J (r:Int)) eb;have HO:Hid<|∀q,q<wr.heap.size->q≠b->¬(H k).own q->w4.heap[q]?=wr.heap[q]?:=O (λq hq h1 h2=>by
  have z1:=o.size;simp at z1;have z2:=t.size;have z3:=u.size;exact(K.block q om (λc=>h2 (.inr (.inr (.inr c))))).trans ((u.block q om (λc=>h2 (.inr (.inr (.inl c))))).trans ((t.block q om (λc=>h2 (.inr (.inl c)))).trans ((o.block q (by simpa using hq) (λc=>h2 (.inl c))).trans (bw q h1)))))
 have Q:Hid<|∀q,q≠k*8->w4.cell? (G b q)=wr.cell? (G b q):=O λq hq=>(As eb).trans<|Aa<|Ne.symm hq;have b3:Hid<|w4.cell? (G b<|k*8)=some (J (r:Int)):=O (by rw[re.cell om];simp);have R:Hid<|w4.os=wr.os/\w4.tape=wr.tape/\w4.output=wr.output/\wr.heap.size<=w4.heap.size:=O (by
  have z1:=o.size;simp at z1;have z2:=t.size;have z3:=u.size;exact⟨K.os.trans (u.os.trans (t.os.trans o.os)),K.tape.trans (u.tape.trans (t.tape.trans o.tape)),K.output.trans (u.output.trans (t.output.trans o.output)),oS K.size⟩)
 have d5:=re.cell (i:=k*8+5) om;have e5:=re.frozen<|k*8+5;have d6:=re.cell (i:=k*8+6) om;have e6:=re.frozen<|k*8+6;have d7:=re.cell (i:=k*8+7) om;have e7:=re.frozen<|k*8+7;obtain⟨x,ae⟩:∃x:Nat,x=r+1+5*(f k).nv+11*(f k).d.n+(f k).d.m+(f k).d.x:=⟨_,rfl⟩;have b6:x<=100000000000000:=om;rw[<-ae];have S:=O ae;clear B K bf K4 a8 bb bc bd t4 eb ae o t u;go_wp2;go_roundw
 .have hS:∀q,q≠b->(((w4.setCell (G b<|k*8+5)<|J (x:Int)).setCell (G b<|k*8+6)<|J<|(x:Int)+1).setCell (G b<|k*8+7)<|J<|(x:Int)+1+1).heap[q]?=w4.heap[q]?:=λq hq=>
   (At _ _ _ _<|by exact hq).trans ((At _ _ _ _<|by exact hq).trans<|At _ _ _ _<|by exact hq)
  have hC:∀q,q≠k*8+5->q≠k*8+6->q≠k*8+7->(((w4.setCell (G b<|k*8+5)<|J (x:Int)).setCell (G b<|k*8+6)<|J<|(x:Int)+1).setCell (G b<|k*8+7)<|J<|(x:Int)+1+1).cell? (G b q)=w4.cell? (G b q):=λq h5 h6 h7=>
   (Aa<|Ne.symm h7).trans ((Aa<|Ne.symm h6).trans<|Aa<|Ne.symm h5)
  have F:=((re.set (k*8+5)<|J (x:Int)).set (k*8+6)<|J<|(x:Int)+1).set (k*8+7)<|J<|(x:Int)+1+1;have T:∀q,(H k).own q->q≠b:=λq hq e=>A<|e▸hq;refine⟨k+1,om,ov,?_,⟨_,F⟩,λi hi=>?_,?_⟩
  .rw[z bt];have:=z S;congr 1;omega
  .by_cases e:i=k
   .subst e;rw[C3 (Nat.lt_succ_self _),<-z bu];refine⟨(hC _ om om om).trans b3,(hC _ om om om).trans<|(Q _ om).trans ?_,(hC _ om om om).trans<|(Q _ om).trans ?_,(hC _ om om om).trans<|(Q _ om).trans ?_,(hC _ om om om).trans<|(Q _ om).trans ?_,?_,?_,?_,b0.keep λq h=>hS q<|T q<|.inl h,b1.CQ λq h=>hS q<|T q<|.inr<|.inl h,b2.CQ λq h=>hS q<|T q<|.inr<|.inr<|.inl h,hx.CQ λq h=>hS q<|T q<|.inr<|.inr<|.inr h⟩
    .exact(D i hi).c1
    .exact(D i hi).c2
    .exact(D i hi).c3
    .exact(D i hi).c4
    .rw[F.cell om];simp[mkT,z S]
    .rw[F.cell om];simp[mkT,z S]
    rw[F.cell om];simp[mkT,z S]
   have bg:=z D i hi;have e2:(if i<k+1 then mkT (f i) (KM f s i)else f i)=(if i<k then mkT (f i) (KM f s i)else f i):=by
    by_cases h:i<k
    .rw[C3 h,C3 om]
    rw[Cs h,Cs om]
   rw[e2];refine bg.keep (λq hq=>?_) λj hj=>(hC _ om om om).trans<|Q _ om;have bh:q≠b:=λc=>hA.nb i hi<|c▸hq;exact(hS q bh).trans (HO q (bg.lt hq).1 bh λc=>e<|hA.ij i k q hi a hq c)
  refine HM.trans ⟨R.1,R.2.1,R.2.2.1,by simpa using R.2.2.2,λq hq h1 h2=>(hS q h1).trans<|HO q hq h1<|h2 k a⟩
 exact ow
def Ji n w(c:0<=n)(h1:n<=1000000000000):
  C9 185 #[J n] w λe w'=>e=.returned (J<|Ef n)/\w'=w:=by
 have d:IntKind.i64.wrap (n+1)=n+1:=oj;by_cases hn:n<1000000000000
 focus
  have a:Hid<|Ef n=n+1:=O<|C3 hn;have b:min (n+1) 1000000000000=n+1:=om
 rotate_left
 focus
  have a:Hid<|Ef n=1000000000000:=O<|Cs hn;have b:min (n+1) 1000000000000=1000000000000:=om
 all_goals
  go_enter func185,ntmps185;go_wp2;go_ret;exact⟨by rw[z a];simp[b],rfl⟩
def M9 Z c B0 vN vT vS vU Bk A s i w(h:A6 Z w c B0 vN vT vS vU Bk A s)(hi:i<s.ns)(p:s.ns<=50):
  C9 171 #[Q9 c,J i] w (R9 (Hc<|BH (s.S i).key) w):=by
 obtain⟨g,B,q,r,t,d,j⟩:=h.GY hi;subst q;have u:=h.lt;obtain⟨W,n,e,_,a⟩:=JZ w<|.cells #[J 0,J 0,F9 0,E9,J 0] 43;have k:=Ah a;have c2:=h.cells.2.2.1;have k0:w.cell? (G g<|i*5)=some (.string (s.S i).key):=d 0 _ rfl;have f:=O e;have l:=O a;clear h d j e a;go_enter func171,ntmps171;go_wp2_with fail;rw[<-n];clear n c2 k0;refine m9 (P3 (s.S i).key _) λw1 b=>?_;have a:=(b.block _ k).trans l;have l1:=Ah a;obtain⟨r0,r1,r2,r3,x⟩:=v5 a;have rf:∀o,w1.frozen? (y w o)=false:=λo=>by simp[World.frozen?,a]
 have m:=O<|o8 f b;clear b a;go_wp2;refine GO (v:=Hc<|BH (s.S i).key) (by simp[results,results171,go_sem,r0,r1,r2,r3,x,BH]) rfl ⟨rfl,?_⟩;repeat(refine NO ?_ (by show w.heap.size<=w.heap.size;omega) _)
 exact m
abbrev tB(g a:Nat):Ad:=⟨some<|G g 0,a,none,0,none,0,none,0⟩
def Y4(hb:bare t.d)a g b r v:CH a (tB g b) (I7 t r v)=.agg #[S9 g (t.nv+1) b,N9,N9,N9,J 0,J 0,J 0,Q9 a]:=by
 obtain⟨h1,h2,h3,h4,h5,c⟩:=hb;show Value.agg #[S9 g (t.nv+1) b,.slice none t.d.n 0,.slice none t.d.m 0,.slice none t.d.x 0,J t.d.used,J t.d.live,J t.d.turns,Q9 a]=_;rw[h1,h2,h3,h4,h5,c]
def Y3 p f A t r v{w}(hV:Fq w A.va t.nv t.V)(hn:t.nv<=12)(hb:bare t.d):
  C9 192 #[CH p A t,Q9 f,Hc v] w λe w'=>(∃g cp,w.heap.size<=g/\e=.returned (CH f (tB g cp)<|I7 t r v)/\Cc w' w.heap.size (S9 g (t.nv+1) cp) (t.nv+1) (AX t.V t.nv v))/\B9 w w':=by
 obtain⟨i0,I,K,L,M⟩:=ON FZ;obtain⟨W,hW,P,Z,_,b1,b2⟩:=gZ w (.cells #[.slice A.va t.nv A.vc,.slice A.la t.d.n A.lc,.slice A.ia t.d.m A.ic,.slice A.xa t.d.x A.xc,J t.d.used,J t.d.live,J t.d.turns,Q9 p] 197) (.cells (qf v) 43)<|.cells EF 197;have ae:Hid (t.nv=0\/∃ad,A.va=some ad/\∀j u,(MA t.V t.nv)[j]?=some u->W.cell? (ad.add j)=some u):=O (by
  rcases hV with h|⟨vb,off,af,ag,ah⟩
  .exact .inl h
  exact .inr ⟨_,af,Fq.news (w:=W) (λi hi=>(ah i hi).keep (λq=>P.cell (p:=(G vb q)) ag))⟩)
 have Q:=O<|ql b1 b2;have ai:=O hb;go_enter func192,ntmps192;go_upto_region 2 with(at_builtin;rw[<-hW];refine CN rfl _ _ 100 rfl w.heap.size 43 i0 (V 0 0 0 ⟨#[]⟩ 0) 5 48 underlying100 I K L M rfl oo rfl A.va t.nv A.vc (MA t.V t.nv) rfl (IJ _ _) ae (N8 _ _) od om om (w.heap.size+1+1+1) Z ?_;intro a3 s w3 E a F)
 have hb:=P;have c:B9 w w3:=⟨a.os.trans hb.os,a.tape.trans hb.tape,a.output.trans hb.output,GP hb.size a.size,λk hk=>(a.block k (A0 hk hb.size) oq).trans<|hb.block k hk⟩;have z3:=a.size;have c1:=(a.block (w.heap.size+1) om oq).trans Q.1;have c2:=(a.block (w.heap.size+1+1) om oq).trans Q.2;have l1:=Ah c1;have y0:w3.cell? (Y9 w 0)=some (J v.kind):=by simp[World.cell?,c1]
 have y1:w3.cell? (Y9 w 1)=some (J v.num):=by simp[World.cell?,c1]
 have y2:w3.cell? (Y9 w 2)=some (F9 v.Af):=by simp[World.cell?,c1]
 have y3:w3.cell? (Y9 w 3)=some (.string v.str):=by simp[World.cell?,c1]
 have y4:w3.cell? (Y9 w 4)=some (J v.ref):=by simp[World.cell?,c1]
 have aj:∀q,(Value.slice a3 t.nv s).ownBlock=some q->w.heap.size+1+1<q:=λq e=>by rw[F q e];omega
 have H:=O aj;have R:Hid (∀g4 b w4,w4.ownsRow w.heap.size 43 5 (S9 g4 (t.nv+1) b) (t.nv+1) (MA t.V t.nv++Hd v)->(w3.alloc<|.cells (Hd v).toArray 43).grownBy w4 (Value.ownBlock<|.slice a3 t.nv s)->(Value.ownBlock (.slice a3 t.nv s)=some g4\/g4=w3.heap.size+1)->
   (∃w5,(Instr.storeAt 197 (Q9<|w.heap.size+1+1)<|.agg #[S9 g4 (t.nv+1) b,N9,N9,N9,J 0,J 0,J 0,Q9 f]).run prog w4=.ok () w5/\Br w4 w5 (w.heap.size+1+1) #[S9 g4 (t.nv+1) b,N9,N9,N9,J 0,J 0,J 0,Q9 f] 197/\
   w.heap.size<=g4/\Cc w5 w.heap.size (S9 g4 (t.nv+1) b) (t.nv+1) (AX t.V t.nv v)/\B9 w w5)):=O (by
  intro g4 b w4 h1 h2 h3;have S:=h3.elim (λe=>H g4 e) λe=>om;have c2:=(h2.block _ ot λe=>oS<|z H _ e.symm).trans<|(DO _ _ _<|Ah c2).trans<|z<|O c2;obtain⟨w5,k1,k2⟩:=BQ (v:=.agg #[S9 g4 (t.nv+1) b,N9,N9,N9,J 0,J 0,J 0,Q9 f]) (vs:=[S9 g4 (t.nv+1) b,N9,N9,N9,J 0,J 0,J 0,Q9 f]) (old:=EF.toList) Ez c2 rfl rfl oh rfl;refine⟨w5,k1,k2,om,?_,?_⟩
  .rw[P7]at h1;exact Ab h1 λq e=>k2.other q<|by cases e;show g4≠_;omega
  have c:=z (O c);refine k2.below (B:=w.heap.size) ⟨h2.os.trans c.os,h2.tape.trans c.tape,h2.output.trans c.output,GP c.size (GP oq h2.size),λk hk=>?_⟩ om;exact(h2.block k ot (λe=>oS (z H _ e.symm))).trans ((DO _ _ _ om).trans (c.block k hk)))
 go_wp2_with (first|(at_builtin;refine So _ rfl _ _ 100 rfl w.heap.size 43 i0 (V 0 0 0 ⟨#[]⟩ 0) 5 48 underlying100 I K L M rfl oo (.slice a3 t.nv s) t.nv (MA t.V t.nv) rfl (PC E _) (y w3 0) 1 1 (Hd v) rfl rfl (ID<|DD w3 _) (by simp[Hd,Value.oneCell']) oo od om ot (w3.heap.size+1) oq ?_;intro g4 b w4 l C o au;obtain⟨w5,D,T,S,U,X⟩:=z R g4 b w4 l C o;have ak:=O D;have ao:=O T;have aq:=O U;have ar:=O X;clear l C o D T U X)|(refine Ag rfl rfl _ ak ?_)|go_in)
 refine FJ results192 underlying197 ao.BB ⟨⟨g4,b,S,by rw[Y4 (z ai)],aq⟩,ar⟩
theorem A6.EJ{w1 X w3:Y}{Bk B'}{F'}{r g3}(h:A6 Z w c B0 vN vT vS vU Bk A s)
  (m:RP B0 w w1) (D:∃W M,CA w1 F' B0 (s.nf+1) B' W M/\∀i,i<s.nf+1->W i=i) (P:B' s.nf=r) (L:∀i,i<s.nf->B' i=Bk i) (o:B9 w1 X) (d:X.grownBy w3 vN.ownBlock)
  (g:w3.ownsRow B0 140 1 (.slice (some<|G g3 0) (s.nf+1) a) (s.nf+1)<|ptrs Bk s.nf++[.pointer (some (G r 0))]) (l:vN.ownBlock=some g3\/w.heap.size<=g3) (E:∀i,i<s.nt->(s.T i).shape=-1\/∃j:Nat,(s.T i).shape=j/\j<s.nf):
  w3.heap[c]?=some (.cells #[vN,vT,vS,vU] 134 (0,0))/\A6 Z (w3.setCell (G c 0)<|.slice (some<|G g3 0) (s.nf+1) a) c B0 (.slice (some<|G g3 0) (s.nf+1) a) vT vS vU B' A {s with nf:=s.nf+1,F:=F'}/\BI (Az B0 c vN vT vS w) w (Az B0 c (.slice (some<|G g3 0) (s.nf+1) a) vT vS<|w3.setCell (G c 0)<|.slice (some<|G g3 0) (s.nf+1) a) (w3.setCell (G c 0)<|.slice (some<|G g3 0) (s.nf+1) a):=by
 obtain⟨W,M,hN,hid⟩:=D;have k1:∀q,q<w.heap.size->(q<B0\/¬DZ 145 w q)->w1.heap[q]?=w.heap[q]?:=λq hq hn=>m.block q hq hn;have k3:∀q,q<w1.heap.size->vN.ownBlock≠some q->w3.heap[q]?=w1.heap[q]?:=λq hq hn=>(d.block q (A0 hq o.size) λe=>hn e.symm).trans<|o.block q hq;have f:∀q,q<w.heap.size->(q<B0\/¬DZ 145 w q)->vN.ownBlock≠some q->w3.heap[q]?=w.heap[q]?:=λq hq hn Q=>(k3 q (A0 hq m.size) Q).trans<|k1 q hq hn;have p:=(f c h.lt (.inr h.GR)<|h.Bg h.n oo).trans h.BB;have v:=(k1 c h.lt<|.inr h.GR).trans h.BB;have B:∀k,k≠c->(w3.setCell (G c 0)<|.slice (some<|G g3 0) (s.nf+1) a).heap[k]?=w3.heap[k]?:=λk hk=>At _ _ _ _ (by exact hk);have H:g3≠c:=λe=>by
  rcases l with h1|h1
  .exact h.Bg h.n oo (e▸h1)
  have:=h.lt;omega
 refine⟨p,h.next ⟨d.os.trans<|o.os.trans m.os,d.tape.trans<|o.tape.trans m.tape,d.output.trans<|o.output.trans m.output⟩ (by have:=o.size;have:=d.size;have:=m.size;simp;omega)
  (λk I hk=>(B k λe=>hk<|.inl e).trans<|f k I ?_ λe=>hk<|.inr<|.inl e) (λk e=>by cases e;exact l) (λ_ e=>.inl e) (λ_ e=>.inl e) ((Lo _ _ _ _ _ _ p).trans oq) ?_ ⟨W,M,hN.keep λb hn=>?_,hid⟩ ?_
  (Ab h.si (λq e=>(B q (λe'=>h.Bg h.si oo (e'▸e))).trans (f q (h.si.lt q e).2 (.inr (Ey h.si oo e)) (Cm h.si h.n oo e)))) h.u (λi hi=>.inl (h.rd i hi))⟩
 .grind [ptrs,nf,Az]
 .rw[Ru L P]at g;exact Ab g λq e=>B q<|by cases e;exact H
 .have hbc:b≠c:=λe=>by
   subst e;rcases hn with⟨x,C⟩|⟨es,x,C⟩
   .rw[v]at C;cases C
   rw[v]at C;cases C
  refine(B b hbc).trans (k3 b (Lh hn) λe=>?_);have K:=Ey h.n oo e;have e1:=k1 b (h.n.lt b e).2<|.inr K;grind [ptrs,nf,Az,DZ]
 have e:kL B' A {s with nf:=s.nf+1,F:=F'} s.nt=kL Bk A s s.nt:=O4 (λi hi=>by
  show AH B' (A i) (s.T i)=AH Bk (A i) (s.T i);unfold AH;rcases E i hi with e|⟨j,e,hj⟩
  .rw[C3 e,C3 e]
  rw[Cs om,Cs om,e,show((j:Int)).toNat=j by omega,L j hj])
 show World.ownsRow _ _ _ _ _ _ (kL B' A {s with nf:=s.nf+1,F:=F'} s.nt);rw[e];exact Ab h.t λq e=>(B q λe'=>h.Bg h.t oo<|e'▸e).trans<|f q (h.t.lt q e).2 (.inr<|Ey h.t oo e)<|Cm h.t h.n oo e
def Xq(Z:Nat->Prop)(c B0:Nat)(vN vT vS vU:V9)(Bk:Nat->Nat)(A:Nat->Ad)(s:AL)(k:Nat)(key:ByteArray)(w:Y)(e:Ending)(w':Y):Prop:=
 (Ed s.nf s.F k key=-1/\e=.returned (.pointer none)/\A6 Z w' c B0 vN vT vS vU Bk A s/\BI (Az B0 c vN vT vS w) w (Az B0 c vN vT vS w') w')\/
 (∃r:Nat,Ed s.nf s.F k key=r/\∃a B',e=.returned (Q9<|B' r)/\A6 Z w' c B0 a vT vS vU B' A {s with nf:=EJ s.nf s.F k key,F:=E0 s.nf s.F k key}/\BI (Az B0 c vN vT vS w) w (Az B0 c a vT vS w') w')
def aC{Bk}k key{w}(p:A6 Z w c B0 vN vT vS vU Bk A s)(hf:Am s.nf s.F=0)(hk:k<s.nf)(K:key.size<=4000)(L:∀i,i<s.nt->(s.T i).shape=-1\/∃j:Nat,(s.T i).shape=j/\j<s.nf):
  C9 191 #[Q9 c,Q9<|Bk k,.string key] w λe w'=>Xq Z c B0 vN vT vS vU Bk A s k key w e w':=by
 obtain⟨h1,h2,h3,h4,h5⟩:=Au hf;obtain⟨l,nc,rfl⟩:=AF p.n;rcases p.nd,p.cells.1,h1.2 with⟨⟨X,M,hN,hid⟩,c0,ah⟩;go_enter func191,ntmps191;go_wp2_with fail;refine(z<|O<|SF w B0 Bk X M hN hid h1 h2 h3 h4 k hk key K).mono ?_;rintro e w1 (⟨j,hj,rfl,hb⟩|⟨m,B,rfl,hb⟩|⟨m,t,D,r,B',N',M',rfl,E,u,C,P,H⟩)
 .have Q:Hid<|∀q,Xq Z c B0 (.slice l s.nf nc) vT vS vU Bk A s k key w (.returned<|Q9<|Bk j)<|w1.drewN q:=O (λq=>by
   obtain⟨e1,e2,e3⟩:=K6 h4 (.inl ⟨j,hj,rfl,rfl,rfl⟩);obtain⟨m1,d1⟩:=p.below (w':=w1.drewN q) ⟨hb.os,hb.tape,hb.output,hb.size,hb.block⟩;refine .inr ⟨j,e3.symm,_,Bk,rfl,?_,d1⟩;rw[<-e1,<-e2];exact m1)
  have R:=hj.2.1;obtain⟨m1,d1⟩:=p.below hb;obtain⟨l1,n1,_⟩:=KK.cell m1.nd R;have y0:=m1.cells.1;have d0:((j:Int)==(s.nf:Int))=false:=ot;go_wp2_with fail
  go_quiet (fail);go_wp2;exact GO (v:=Q9<|Bk j) (by simp[results,results191,go_sem]) rfl (Q _)
 .have Q:Hid<|∀q,Xq Z c B0 (.slice l s.nf nc) vT vS vU Bk A s k key w (.returned<|.pointer none)<|w1.drewN q:=O (λq=>by
   obtain⟨e1,e2,e3⟩:=K6 h4 (.inr (.inl ⟨m,B,rfl,rfl,rfl⟩));obtain⟨m1,d1⟩:=p.below (w':=w1.drewN q) ⟨hb.os,hb.tape,hb.output,hb.size,hb.block⟩;exact .inl ⟨e3.symm,rfl,m1,d1⟩)
  go_wp2_with fail
  go_quiet (fail);go_wp2;exact GO (v:=.pointer none) (by simp[results,results191,go_sem]) rfl (Q _)
 obtain⟨i0,S,U,V,W⟩:=ON X4;have b:=p;have ad:=H.block c p.lt<|.inr b.GR;have y0:w1.cell? (G c 0)=some (.slice l s.nf nc):=by simp[World.cell?,ad.trans b.BB]
 obtain⟨l1,n1,_,_⟩:=Dt E u (show s.nf<s.nf+1 by omega);rw[C]at l1 n1;have d0:((s.nf:Int)==(s.nf:Int))=true:=oq;have ai:=GP b.base H.size;have ae:Hid<|∀q o,((w1.drewN q).alloc o).ownsRow B0 140 1 (.slice l s.nf nc) s.nf<|ptrs Bk s.nf:=O (λq o=>by
  have h1:=Ab b.n (λg e=>H.block g (b.n.lt g e).2 (.inr (Ey b.n oo e)));exact PC (Ab h1 (w':=w1.drewN q) (λ_ _=>rfl)) o)
 have HF:Hid (∀q g3 d w3,w3.ownsRow B0 140 1 (S9 g3 (s.nf+1) d) (s.nf+1) (ptrs Bk s.nf++[Q9 r])->((w1.drewN q).alloc<|.cells #[Q9 r] 140).grownBy w3 (Value.ownBlock<|.slice l s.nf nc)->(Value.ownBlock (.slice l s.nf nc)=some g3\/g3=w1.heap.size+1)->
   w3.cell? (G c 0)=some (.slice l s.nf nc)/\w3.frozen? (G c 0)=false/\c<w3.heap.size/\Xq Z c B0 (.slice l s.nf nc) vT vS vU Bk A s k key w (.returned (Q9 r)) (w3.setCell (G c 0) (S9 g3 (s.nf+1) d))):=O (by
  intro q g3 d w3 a1 a2 a3;have hX:B9 w1<|(w1.drewN q).alloc<|.cells #[Q9 r] 140:=Below.alloc (a:=w1) (w:=w1.drewN q) ⟨rfl,rfl,rfl,Be _,λ_ _=>rfl⟩ (Be _) _;obtain⟨b1,b2,b3⟩:=b.EJ H ⟨N',M',E,u⟩ C P hX a2 a1 (a3.imp id λe=>oS H.size)<|z<|O L;refine⟨by simp[World.cell?,b1],by simp[World.frozen?,b1],Ah b1,.inr ⟨s.nf,?_,_,B',by rw[C],?_,b3⟩⟩
  .obtain⟨e1,e2,e3⟩:=K6 h4<|.inr<|.inr ⟨m,t,D,rfl,rfl,rfl⟩;exact e3.symm
  obtain⟨e1,e2,e3⟩:=K6 h4 (.inr (.inr ⟨m,t,D,rfl,rfl,rfl⟩));rw[<-e1,<-e2];exact b2)
 go_wp2_with fail
 go_quiet (fail);go_wp2_with (at_builtin;refine So _ rfl _ _ 70 rfl B0 140 i0 (.pointer none) 1 8 underlying70 S U V W rfl oo (.slice l s.nf nc) s.nf (ptrs Bk s.nf) rfl (ae _ _) (y w1 0) 1 1 [Q9 r] rfl rfl (ID<|DD _ _) oh oo od om ot (w1.heap.size+1) oq ?_;intro g3 d w3 f x h ag;obtain⟨x3,f3,l3,I⟩:=z HF _ g3 d w3 f x h;have af:=O I;clear f x h I);exact GO (v:=Q9 r) (by simp[results,results191,go_sem]) rfl af
def Ml(h:Inv Ky hN d)(hk:Ky k){p}(hp:Has d p)(hl:AB p.key k=true):0<=Av d k (hN k):=by
 rcases h.i0.place Ch hk with⟨i,h1,h2,h3,h4⟩|⟨h1,h2⟩;all_goals grind [Ky,hN,Has,AB,Av]
def Y1{v}(h:Inv Ky hN d)(hk:Ky k)(a:v.ok=true):Ex d k v=(decide (v.kind≠0)&&decide (Av (B2 hN d k v) k (hN k)<0)):=by
 rcases Jk Ch h hk hk.1 a,h.i0.le,h.i0.turns with⟨hi,b,c⟩;unfold Ex;rcases Lm Ch h hk hk.1 a with⟨q,a1,a2,a3,_⟩|⟨q,a1,a2,a3,a4,_⟩|⟨a1,a2,a3,a4,a5⟩|⟨a1,a2,a3⟩
 .simp[a3]
 .have h1:=Ml h hk a1 a2;have h2:=Ml hi hk ((a4 ⟨q.key,v,q.turn⟩).2<|.inr rfl) a2;grind [Ky,hN,Ex,Av,B2]
 .have h2:=Ml hi hk ((a3 ⟨k,v,d.turns+1⟩).2<|.inr rfl)<|Ch.refl _ hk;grind [Ky,hN,Ex,Av,B2,Inv.i0]
 grind [Ky,hN,Ex,Av,B2,Ch,Ij,Inv.i0]
section
variable {M:Nat} {s:AL}
def UE{n}(a:0<=n)(h1:n<=1000000000000):0<=Ef n/\Ef n<=1000000000000:=by
 unfold Ef;split<;>omega
def JA(b:LI M s){i t}(hi:i<s.ns)(c:t<s.nt)(h:0<=A8 s i t):∃j q:Nat,(s.T t).shape=j/\j<s.nf/\A8 s i t=q/\q<(s.T t).nv/\Bf s.F j (s.S i).key=q:=by
 obtain⟨_,_,_,_,_,hs⟩:=b.si i hi;unfold A8 at h ⊢;rcases(b.t t c).way with⟨e,_⟩|⟨j,e,hj,d,_⟩
 .all_goals grind [A8,Bf,K8]
 by_cases a:K8 s i t=true
 focus
  rw[C3 a]at h ⊢;have h2:(s.T t).shape=(s.S i).shape:=by unfold K8 at a;simp at a;exact a.2
  rcases hs with⟨h3,_⟩|⟨h3,h4,h5,g⟩
  .omega
  rw[<-h2,e,show(j:Int).toNat=j by omega]at g
 rotate_left
 focus
  rw[Cs a,C3 om,e,show(j:Int).toNat=j by omega]at h ⊢
 all_goals
  rcases JT b.f hj (s.S i).key with k|⟨q,k,l⟩;all_goals grind [A8,Bf]
def Xw.rF{S'}(h:Xw M s t):Xw M {s with ns:=a,S:=S'} t:=⟨h.way,h.wf,h.m⟩
theorem JB(a:LI M s){i t}(hi:i<s.ns)(d:t<s.nt):LI M<|AY s i t:=by
 refine⟨a.f,a.nt,a.ns,λq hq=>(a.t q hq).rF,λq hq=>?_⟩;show Nw _ (AX s.S i (D7 s i t) q);by_cases e:q=i
 .subst e;rw[Ak];obtain⟨h1,h2,h3,h4,h5,b⟩:=a.si q hi;have o1:=UE h2 h4;have o2:=UE h3 h5;unfold D7;split
  .exact⟨h1,o1.1,h3,o1.2,h5,b⟩
  split
  .rename_i g c
   refine⟨h1,h2,o2.1,h4,o2.2,.inr ⟨c.1,?_,c.2,rfl⟩⟩;rcases(a.t t d).way with⟨e,_⟩|⟨j,e,hj,_⟩;all_goals grind [AY]
  exact⟨h1,h2,o2.1,h4,o2.2,b⟩
 rw[Aj _ _ e];exact a.si q hq
def JU(a:LI M s){t}{x}(b:Xw M s x):LI M<|BM s t x:=by
 refine⟨a.f,a.nt,a.ns,λq hq=>?_,a.si⟩;show Xw M _ (AX s.T t x q);by_cases e:q=t
 .subst e;rw[Ak];exact⟨b.way,b.wf,b.m⟩
 rw[Aj _ _ e];have h:=a.t q hq;exact⟨h.way,h.wf,h.m⟩
def Y2(b:LI M s){j}(hj:j<s.nf){key}(hk:key.size<=4000)(hp:Bf s.F j key<0){r:Nat}(c:Ed s.nf s.F j key=r):Am (EJ s.nf s.F j key) (E0 s.nf s.F j key)=0/\s.nf<=EJ s.nf s.F j key/\(∀i,i<s.nf->E0 s.nf s.F j key i=s.F i)/\r<EJ s.nf s.F j key/\KJ (EJ s.nf s.F j key) (E0 s.nf s.F j key) j key r:=by
 rcases T1 s.nf s.F j key with⟨q,h1,h2,h3,h4⟩|⟨h1,h2,h3,h4,h5⟩|⟨h1,h2,h3,h4,h5,a⟩
 .rw[h3,h4];grind [Bf,Ed,Am,EJ,E0,KJ,LI.f]
 .omega
 rw[h5,a];have:r=s.nf:=om;grind [Bf,Ed,Am,EJ,E0,KJ,VZ,DL,JE,LI.f]
def aE s x k v:
  (B5 s x k v=.no)\/
  (B5 s x k v=.DG/\0<=x.shape/\k.kind=4/\v.kind≠0/\0<=Bf s.F x.shape.toNat k.str)\/
  (B5 s x k v=.grow/\0<=x.shape/\k.kind=4/\v.kind≠0/\Bf s.F x.shape.toNat k.str<0/\0<=Ed s.nf s.F x.shape.toNat k.str)\/
  (B5 s x k v=.loose/\0<=x.shape)\/(B5 s x k v=.I5/\x.shape<0/\Ex x.d k v=false)\/(B5 s x k v=.full/\x.shape<0/\Ex x.d k v=true):=by
 unfold B5;split
 .exact .inl rfl
 split
 all_goals grind [B5,DG,Bf,Ed,Ex]
theorem Rv(c:LI M s){t}(I:t<s.nt){k v}(hk:Ky k)(C:v.ok=true)(D:Wf v):LI (M+4002)<|Cv s t k v:=by
 have a:=c.mono<|Nat.le_add_right M 4002;have g:=c.t t I;have p:k.kind=4->k.str.size<=4000:=λh=>by
  have h1:=hk.1;unfold BP Vl.ok A7 at h1;simp[h]at h1;omega
 unfold Cv;rcases aE s (s.T t) k v with h|⟨h,o,h1,h2,h3⟩|⟨h,o,h1,h2,h3,h4⟩|⟨h,o⟩|⟨h,o,h1⟩|⟨h,o,h1⟩
 .rw[h];exact a
 .rw[h];rcases g.way with⟨e,_⟩|⟨j,e,hj,l,hb,b⟩
  .omega
  refine JU a ⟨.inr ⟨j,e,hj,l,hb,λi hi=>?_⟩,g.wf,GP g.m<|Nat.le_add_right _ _⟩;show J2 (AX (s.T t).V _ v i)=true/\Wf (AX (s.T t).V _ v i);by_cases e2:i=(Bf s.F (s.T t).shape.toNat k.str).toNat
  .grind [Ky,Cv,Ak,J2]
  rw[Aj _ _ e2];exact b i hi
 .rw[h];rcases g.way with⟨e,_⟩|⟨j,e,hj,l,hb,b⟩
  .omega
  have n:(s.T t).shape.toNat=j:=om;rw[n]at h3 h4 ⊢;obtain⟨r,E⟩:∃r:Nat,Ed s.nf s.F j k.str=r:=⟨(Ed s.nf s.F j k.str).toNat,om⟩;obtain⟨g1,g2,g3,g4,g5⟩:=Y2 c hj (p h1) h3 E;rw[E];obtain⟨_,K,L,_,_⟩:=Au c.f;obtain⟨_,p2,P,_,_⟩:=Au g1;have u:∀q,q<s.nf->nf (E0 s.nf s.F j k.str) q=nf s.F q:=λq hq=>dN g3 hq;refine⟨g1,c.nt,c.ns,λq hq=>?_,λq hq=>?_⟩
  .show Xw _ _ (AX s.T t (I7 (s.T t) (r:Int) v) q);by_cases e2:q=t
   .subst e2;rw[Ak];refine⟨.inr ⟨r,rfl,g4,?_,hb,λi hi=>?_⟩,g.wf,GP g.m<|Nat.le_add_right _ _⟩
    .show(s.T q).nv+1=nf (E0 s.nf s.F j k.str) r;rw[oQ p2 P g5,u j hj,l]
    show J2 (AX (s.T q).V (s.T q).nv v i)=true/\Wf (AX (s.T q).V (s.T q).nv v i);have hi:i<(s.T q).nv+1:=hi;grind [Ky,Cv,Ak,J2,Aj]
   rw[Aj _ _ e2];have h5:=c.t q hq;refine⟨?_,h5.wf,GP h5.m<|Nat.le_add_right _ _⟩;grind [Ky,Cv,Xw.way]
  obtain⟨a1,a2,a3,a4,a5,w⟩:=c.si q hq;refine⟨a1,a2,a3,a4,a5,?_⟩;rcases w with w|⟨b1,b2,b3,b4⟩
  .exact .inl w
  have x:(s.S q).shape.toNat<s.nf:=om;refine .inr ⟨b1,by show(s.S q).shape<((EJ s.nf s.F j k.str:Nat):Int);omega,b3,?_⟩;show Bf (E0 s.nf s.F j k.str) (s.S q).shape.toNat (s.S q).key=(s.S q).place;rw[KC K L g3 x];exact b4
 .rw[h];rcases g.way with⟨e,_⟩|⟨j,e,hj,l,hb,b⟩
  .omega
  have n:(s.T t).shape.toNat=j:=om;have A:=F1 c.f hj (λq hq=>(b q om).1) (s.T t).nv om;have B:∀i,i<=(s.T t).nv->Tj (AA s.F j (s.T t).V i):=λi=>by
   induction i with
   |zero=>exactλ_ q hq=>absurd hq<|To _
   |succ i ih=>exactλhi=>(ih om).put (G7<|Hk c.f hj<|show i<nf s.F j by omega).2 (b i om).2
  refine JU a ⟨.inl ⟨rfl,rfl,?_⟩,?_,?_⟩
  .show Inv Ky hN (B2 hN (AA s.F (s.T t).shape.toNat (s.T t).V (s.T t).nv) k v);rw[n];exact Jk Ch A.ls.inv hk hk.1 C
  .show Tj (B2 hN (AA s.F (s.T t).shape.toNat (s.T t).V (s.T t).nv) k v);rw[n];exact(B _<|Be _).put hk.2 D
  show(B2 hN (AA s.F (s.T t).shape.toNat (s.T t).V (s.T t).nv) k v).m<=_;rw[n];have:=WN (v:=v) Ch A.ls.inv hk;rw[A.m]at this;omega
 .rw[h];rcases g.way with⟨e,e2,H⟩|⟨j,e,_⟩
  .refine JU a ⟨.inl ⟨rfl,rfl,Jk Ch H hk hk.1 C⟩,g.wf.put hk.2 D,?_⟩;have:=WN (v:=v) Ch H hk;have:=g.m;show(B2 hN (s.T t).d k v).m<=_;omega
  omega
 rw[h];exact a
def gL(a:LI M s):Xw M s Ly:=by
 obtain⟨h1,h2,_⟩:=Au a.f;refine⟨.inr ⟨0,rfl,oS h1.1,?_,⟨rfl,rfl,rfl,rfl,rfl,rfl⟩,λi hi=>absurd hi<|To _⟩,λq hq=>absurd hq<|To _,W9 _⟩;show 0=(s.F 0).count.toNat;rw[h2.2.2];rfl
theorem Ik{v}(b:Wf v)(h:C2 v=0):Ky<|Dk v:=by
 obtain⟨c,a,h1,h2⟩:=oI b;rw[Er]at h1;have e:C2 v=c/\(Dk v).kind=a.kind/\(Dk v).num=a.num/\(Dk v).Af=a.Af/\(Dk v).str=a.str/\(Dk v).ref=a.ref:=by
  simp[KV]at h1;exact h1
 obtain⟨e0,e1,e2,e3,f,g⟩:=e;have d:Dk v=a:=by
  generalize Dk v=x at*;cases x;cases a;grind [C2,Ky,Dk]
 rw[d];exact h2 om
def RG(c:LI M s)a(w:Wf a.k)(g:Wf a.v):LI (M+4002)<|AP s a:=by
 have b:=c.mono<|Nat.le_add_right M 4002;unfold AP;split
 .rename_i hc
  obtain⟨c1,c2,c3,c4⟩:=FG hc;obtain⟨r1,r2,C,x,D,_,_⟩:=CJ c1;unfold A9;split
  .split
   .exact b
   rename_i h1 h2
   refine⟨c.f,by show s.nt+1<=100;have:=c.nt;omega,c.ns,λi hi=>?_,c.si⟩;show Xw _ _ (AX s.T s.nt Ly i);have hi:i<s.nt+1:=hi;by_cases e:i=s.nt
   .rw[e,Ak];have:=gL b;exact⟨this.way,this.wf,this.m⟩
   rw[Aj _ _ e];have:=b.t i om;exact⟨this.way,this.wf,this.m⟩
  split
  .split
   .exact b
   rename_i h1 p h2
   have A:=QV c1 p;refine⟨c.f,c.nt,by show s.ns+1<=50;have:=c.ns;omega,λi hi=>(b.t i hi).rF,λi hi=>?_⟩;grind [AP,Nw,AX,Ak,pO,Aj,LI.ns,LI.si]
  split
  .grind [AP,Cz,Rv,Ik]
  split
  .grind [AP,Cz,DQ,JB]
  split
  .rename_i h1 p h2 E r
   have F:=c2 (by simp[Cz,r]);have hs:=c3 (by simp[DQ,r]);have hi:a.site.toNat<s.ns:=om;have d:a.t.toNat<s.nt:=om;have u:=JB c hi d;split
   .rename_i h
    obtain⟨j,q,e1,e2,e3,H,I⟩:=JA c hi d h.1;refine JU (u.mono<|Nat.le_add_right M 4002) ?_;have l:=b.t a.t.toNat d;rcases l.way with⟨e,_⟩|⟨j',e,hj,n,hb,o⟩
    .omega
    refine⟨.inr ⟨j',e,hj,n,hb,λi hi=>?_⟩,l.wf,l.m⟩;show J2 (AX (s.T a.t.toNat).V _ a.v i)=true/\Wf (AX (s.T a.t.toNat).V _ a.v i);by_cases B:i=(A8 s a.site.toNat a.t.toNat).toNat
    .grind [AP,Ak,J2]
    rw[Aj _ _ B];exact o i hi
   exact Rv u d (G7 (c.si _ hi).1) x g
  exact b
 exact b
end
open Classical in
def cR lc{ia:Option Addr}ic{xa:Option Addr}xc{d}{w}(t:BO w)(hA:Ei w la ia xa d)(r:Small d)(u:Tj d)(hk:BN d (hD d)=0):
  C9 275 #[Dv la lc ia ic xa xc d] w (R9 (J<|EO d) w):=by
 have D:=r.m;have s:Hid<|EO d=(Ph d:Int):=O<|C3 hk;have a:B9 w<|w.alloc<|.cells #[.slice la d.n lc,.slice ia d.m ic,.slice xa d.x xc,J d.used,J d.live,J d.turns] 103:=n9;go_enter func275,ntmps275;go_wp2_with fail;refine m9 (Jc A5 lc ic xc (A5 _ _ t a) (hA.below a) r (λq hq hk=>qU hk ((u) q hq).1)<|z<|O hk) λw1 g=>?_;obtain⟨l,v⟩:=AO g;have E:w1.cell? (y w 1)=some (.slice ia d.m ic):=by rw[l _ _ oq];simp[go_sem]
 have c:=o8 a g;go_wp2_with fail;go_loopw [11] (λi wr=>∃k:Nat,k<=d.m/\i=J k/\Rb d.I d.m 0 d.m=Rb d.I d.m k (d.m-k)/\wr=w1) λi _=>d.m-(intOf i).toNat
 .exact⟨0,om,rfl,rfl,rfl⟩
 obtain⟨k,hk,rfl,hz,o⟩:=hrel;rw[o];have p:=O hz;by_cases e:k<d.m
 .obtain⟨b,off,rfl,A,hcs⟩:=(z<|O (hA.below c).ints).resolve_left om;have e0:=hcs k e;by_cases j:d.I k=0
  .have f:Hid<|EO d=(k:Int):=O<|s.trans<|congrArg Int.ofNat<|p.trans<|cH j e;rw[j]at e0;go_wp2;go_ret;exact⟨qh f,c⟩
  have B:=O<|p.trans<|cG j e;have C:(d.I k==0)=false:=by simp[j]
  go_wp2;go_roundw
  .exact⟨k+1,om,ov,B,trivial⟩
  exact ow
 have h:k=d.m:=om;have f:Hid<|EO d=(d.m:Int):=O<|s.trans<|congrArg Int.ofNat<|p.trans (by rw[h,Nat.sub_self];rfl);go_wp2;go_ret;exact⟨qh f,c⟩
def VA(f:Nat->Si)(n:Nat)(w:Y)(v:V9)(lo hi:Nat):Prop:=
 (n=0/\v=N9)\/∃b a Z g,v=S9 b n a/\lo<=b/\b<hi/\w.rowIs b 107 Z g/\n*5<=Z/\∀j,j<n*5->g j=RA f j
def VA.keep(h:VA f n w v lo hi)(hk:∀b,v.ownBlock=some b->w'.heap[b]?=w.heap[b]?):VA f n w' v lo hi:=by
 rcases h with h|⟨b,a,Z,g,rfl,h2,h3,h4,h5,c⟩
 .exact .inl h
 exact .inr ⟨b,a,Z,g,rfl,h2,h3,GW h4<|hk b rfl,h5,c⟩
theorem VA.at(h:VA f n w v lo hi):∃a c,v=.slice a n c/\FM w a n f:=by
 rcases h with⟨d,rfl⟩|⟨b,c,Z,g,h1,h2,h3,h4,h5,e⟩
 .subst d;exact⟨_,_,rfl,.inl rfl⟩
 exact⟨_,_,h1,.inr ⟨b,0,rfl,H8 h4,λi hi=>by rw[VC];exact pB h4 h5 e hi⟩⟩
def Pp s w:
  C9 36 #[N9,J s] w λe w'=>e=.returned (J s)/\w'=w:=by
 go_enter func36,ntmps36;go_wp2;go_loopw [1,5] (λq i wr=>q=J s/\i=J 0/\wr=w) λ_ _ _=>0
 .exact⟨rfl,rfl,rfl⟩
 obtain⟨rfl,rfl,rfl⟩:=hrel;go_wp2;go_ret;exact⟨rfl,rfl⟩
def jY{s:Nat}(h:VA f n w v lo hi)(hn:n<=1048576)(hs:s<=100000000000000):
  C9 36 #[v,J s] w λe w'=>(e=.returned (J ((s+5*n:Nat):Int))/\VA (kC s) n w' v lo hi)/\Bv v w w':=by
 rcases h with⟨c,rfl⟩|⟨b,a,Z,g,rfl,h2,h3,h4,h5,j⟩
 .subst c;refine(Pp s w).mono λe w' h=>?_;rw[h.2];exact⟨⟨by rw[h.1];rfl,.inl ⟨rfl,rfl⟩⟩,Bv.same _ _⟩
 refine(Po b n a Z s g w h4 h5 om hs).mono λe w' h=>?_;obtain⟨⟨rfl,g',d,i⟩,hb⟩:=h;exact⟨⟨oq,.inr ⟨b,a,Z,g',rfl,h2,h3,d,h5,i⟩⟩,Bv.Yc hb⟩
def jK{s}(h:VA (kC s) n w v lo hi)(hn:n<=1048576)(hs:s<=100000000000000):
  C9 74 #[v,J s] w (R9 (J ((s+5*n:Nat):Int)) w):=by
 obtain⟨a,b,rfl,hA⟩:=h.at;refine(OW b s hA om hs).mono λe w' h=>?_;exact⟨by rw[h.1];simp,h.2⟩
def GV.CQ{f}(h:GV f n w v lo hi)(hk:∀b,v.ownBlock=some b->w'.heap[b]?=w.heap[b]?):GV f n w' v lo hi:=by
 rcases h with h|⟨a,b,c,rfl,h2,h3,h4⟩
 .exact .inl h
 exact .inr ⟨a,b,c,rfl,h2,h3,h4.of_block<|hk b rfl⟩
def Nn b{n}cap lo hi s{f}(H:Nat->Hs)w(E:b<w.heap.size)(hT:∀i,i<n->aN lo hi w b (i*8) (H i) (mkT (f i)<|KM f s i))(hw:Eu f n<=2000000000)(hs:s<=10000000000000):
  C9 73 #[S9 b n cap,J s] w (R9 (J (KM f s n:Int)) w):=by
 have ad:=Te f n;have HT:=O hT;go_enter func73,ntmps73;go_wp2;go_loopw [1,5] (λq i wr=>∃(k:Nat),k<=n/\i=J (k:Int)/\q=J (KM f s k:Int)/\B9 w wr) λ_ i _=>n-(intOf i).toNat
 .exact⟨0,om,rfl,rfl,BE _ _⟩
 obtain⟨k,hk,rfl,rfl,hb⟩:=hrel;by_cases t:k<n
 case neg=>
  have L:k=n:=om;have K:=O hb;clear hb t;subst L;go_wp2;go_ret;exact⟨rfl,K⟩
 have a:=(HT k t).keep (λq hq=>hb.block q ((HT k t).lt hq).1) λj _=>hb.cell E;have Fu:=N7 f t;have M:tw (f k)=(f k).nv+((f k).d.n+(f k).d.m+(f k).d.x)+1:=rfl;have A:KM f s (k+1)=KM f s k+(1+5*(f k).nv+11*(f k).d.n+(f k).d.m+(f k).d.x+3):=rfl;have P:=Td f s k;obtain⟨r,F⟩:=o9<|KM f s k;rw[<-F]at A P a ⊢;have ae:r<=60000000000000:=om;have Q:(f k).nv<=2000000000:=om;have R:(f k).d.n<=2000000000:=om;have S:(f k).d.m<=2000000000:=om;have T:(f k).d.x<=2000000000:=om;have U:=O A;have lb:=A0 E hb.size;have d0:wr.cell? (G b<|k*8)=some (J (r:Int)):=a.c0;rcases a.c1,a.c2,a.c3,a.c4 with⟨d1,d2,d3,d4⟩;obtain⟨x,p⟩:∃x:Nat,x=r+1+5*(f k).nv+11*(f k).d.n+(f k).d.m+(f k).d.x:=⟨_,rfl⟩;have d5:wr.cell? (G b<|k*8+5)=some (J (x:Int)):=by rw[p];exact a.c5
 have d6:wr.cell? (G b<|k*8+6)=some (J<|(x:Int)+1):=by rw[show((x:Int)+1)=((x+1:Nat):Int) by omega,p];exact a.c6
 have d7:wr.cell? (G b<|k*8+7)=some (J<|(x:Int)+1+1):=by rw[show((x:Int)+1+1)=((x+1+1:Nat):Int) by omega,p];exact a.c7
 have af:x<=100000000000000:=om;have HV:Hid<|Om (lZ<|r+1) (f k).nv wr (H k).v lo hi:=O a.v;have HL:Hid<|KR (lY<|r+1+5*(f k).nv) (f k).d.n wr (H k).l lo hi:=O a.l;have HI:Hid<|Hy (λj=>((r+1+5*(f k).nv+11*(f k).d.n+j:Nat):Int)) (f k).d.m wr (H k).i lo hi:=O a.i;have HX:Hid<|Hy (λj=>((r+1+5*(f k).nv+11*(f k).d.n+(f k).d.m+j:Nat):Int)) (f k).d.x wr (H k).x lo hi:=O a.x;have B:Hid<|∀q,(H k).own q->q<wr.heap.size:=O λq hq=>(a.lt hq).1;have K:=O hb;have I:=O p;clear hb a Fu M A F p;go_wp2_with fail;have g:=jM HV Q om;rw[show((r+1:Nat):Int)=(r:Int)+1 by omega]at g;refine g.mono ?_;rintro e w1 ⟨rfl,c⟩;rcases A0 lb c.size,(c.cell lb).trans d2,(c.cell lb).trans d3,(c.cell lb).trans d4,(c.cell lb).trans d5,(c.cell lb).trans d6,(c.cell lb).trans d7 with⟨l1,p2,p3,p4,V,W,X⟩;have n1:¬((r+1+5*(f k).nv:Nat):Int)<0:=om;go_wp2_with fail
 have g:=cJ (HL.CQ λq e=>c.block q<|B q<|.inr<|.inl e) R om;refine g.mono ?_;rintro e w2 ⟨rfl,h⟩;rcases A0 l1 h.size,(h.cell l1).trans p3,(h.cell l1).trans p4,(h.cell l1).trans V,(h.cell l1).trans W,(h.cell l1).trans X,o8 c h with⟨l2,d3,d4,d5,d6,d7,C⟩;have n2:¬((r+1+5*(f k).nv+11*(f k).d.n:Nat):Int)<0:=om;go_wp2_with fail
 have g:=T6 (HI.CQ λq e=>C.block q<|B q<|.inr<|.inr<|.inl e) S om;refine g.mono ?_;rintro e w3 ⟨rfl,o⟩;rcases A0 l2 o.size,(o.cell l2).trans d4,(o.cell l2).trans d5,(o.cell l2).trans d6,(o.cell l2).trans d7,o8 C o with⟨l3,p4,V,W,X,D⟩;go_wp2_with fail;have g:=T6 (HX.CQ λq e=>D.block q<|B q<|.inr<|.inr<|.inr e) T om;rw[<-z I]at g;refine g.mono ?_;rintro e w4 ⟨rfl,u⟩;rcases (u.cell l3).trans V,(u.cell l3).trans W,(u.cell l3).trans X,o8 K (D.trans<|u.mono D.size) with⟨d5,d6,d7,Z⟩;go_wp2;go_roundw
 .refine⟨k+1,om,ov,?_,Z⟩;rw[z U];have:=z I;congr 1;omega
 exact ow
def Qp{a:Option Addr}cap g{f}{w}(hA:Fq w a n f)(r:Fq w a' n f)(hn:n<=1048576):
  C9 112 #[.slice a n cap,.slice a' n g] w (R9 (.bool true) w):=by
 have t:=O hA;have u:=O r;clear hA r;go_enter func112,ntmps112;go_wp2;go_loopw [5] (λi wr=>∃(k:Nat),k<=n/\i=J k/\B9 w wr) λi _=>n-(intOf i).toNat
 .exact⟨0,om,rfl,BE _ _⟩
 obtain⟨k,hk,rfl,hb⟩:=hrel;by_cases j:k<n
 .obtain⟨b,off,rfl,l,hcs⟩:=t.resolve_left om;obtain⟨b',s,rfl,c,d⟩:=u.resolve_left om;rcases (hcs k j).keep (λq=>hb.cell l),(d k j).keep λq=>hb.cell c,A0 l hb.size,A0 c hb.size,O hb with⟨⟨e0,e1,e2,e3,v⟩,⟨d0,d1,d2,d3,d4⟩,A,x,m⟩;clear hb hcs d;go_wp2_with fail;refine qr wr ?_;(iterate 8 refine N (h:=?_));refine GC λK hK=>?_;go_simp;refine⟨_,λw' p=>qk p<|EI (f k).kind (f k).num (f k).Af (f k).str (f k).ref _,hK _ ?_⟩;clear hK K;refine N (h:=?_);refine GS ?_;intro w2 o;have e:=O<|o8 m o;clear o e0 e1 e2 e3 v d0 d1 d2 d3 d4;go_wp2;go_roundw
  .exact⟨k+1,om,ov,e⟩
  exact ow
 have:k=n:=om;subst this;have e:=O hb;clear hb;go_wp2;go_ret;exact⟨rfl,e⟩
def TM s w:
  C9 66 #[SV s,SV s] w (R9 (.bool true) w):=by
 go_enter func66,ntmps66;go_wp2;go_ret;exact⟨rfl,(n9).alloc oq _⟩
def R8{a:Option Addr}cap g{f}{w}(hA:FM w a n f)(r:FM w a' n f)(hn:n<=1048576):
  C9 33 #[.slice a n cap,.slice a' n g] w (R9 (.bool true) w):=by
 have t:=O hA;have u:=O r;clear hA r;go_enter func33,ntmps33;go_wp2;go_loopw [5] (λi wr=>∃(k:Nat),k<=n/\i=J k/\B9 w wr) λi _=>n-(intOf i).toNat
 .exact⟨0,om,rfl,BE _ _⟩
 obtain⟨k,hk,rfl,hb⟩:=hrel;by_cases j:k<n
 .obtain⟨b,off,rfl,l,hcs⟩:=t.resolve_left om;obtain⟨b',s,rfl,c,d⟩:=u.resolve_left om;rcases (hcs k j).keep (λq=>hb.cell l),(d k j).keep λq=>hb.cell c,A0 l hb.size,A0 c hb.size,O hb with⟨⟨e0,e1,e2,e3,v⟩,⟨d0,d1,d2,d3,d4⟩,A,x,m⟩;clear hb hcs d;go_wp2_with fail;refine qr wr ?_;(iterate 8 refine N (h:=?_));refine GC λK hK=>?_;go_simp;refine⟨_,λw' p=>qk p<|TM (f k) _,hK _ ?_⟩;clear hK K;refine N (h:=?_);refine GS ?_;intro w2 o;have e:=O<|o8 m o;clear o e0 e1 e2 e3 v d0 d1 d2 d3 d4;go_wp2;go_roundw
  .exact⟨k+1,om,ov,e⟩
  exact ow
 have:k=n:=om;subst this;have e:=O hb;clear hb;go_wp2;go_ret;exact⟨rfl,e⟩
def Sa{va e f ia g xa h:Option Addr}vc i lc j ic k xc l t{w}(B:Fq w va t.nv t.V)(o:Fq w e t.nv t.V)(hA:Ei w la ia xa t.d)(C:Ei w f g h t.d)(hn:t.nv<=1048576)(D:Small t.d):
  C9 65 #[TV va vc la lc ia ic xa xc t,TV e i f j g k h l t] w (R9 (.bool true) w):=by
 rcases O B,O o,O hA,O C,O D with⟨E,r,F,H,I⟩;clear B o hA C D;have p:B9 w<|(w.alloc<|.cells #[J t.shape,.slice va t.nv vc,.slice la t.d.n lc,.slice ia t.d.m ic,.slice xa t.d.x xc,J t.d.used,J t.d.live,J t.d.turns] 105).alloc<|.cells #[J t.shape,.slice e t.nv i,.slice f t.d.n j,.slice g t.d.m k,.slice h t.d.x l,J t.d.used,J t.d.live,J t.d.turns] 105:=(n9).alloc oq _;have a:=O p;clear p;go_enter func65,ntmps65;go_wp2_with fail;refine m9 (Qp vc i (E.below a rfl) (r.below a rfl) hn) λw1 b=>?_;obtain⟨s,u⟩:=AO b;have v:=b.size;simp at v;have K:w.heap.size<w1.heap.size:=om;have L:w.heap.size+1<w1.heap.size:=om;have c:=O<|o8 a b;clear b;go_wp2_with fail;refine m9 (TG lc j ic k xc l (F.below c) (H.below c) I) λw2 q=>?_;have A:=O<|o8 c q;clear q s u;go_wp2;go_ret;exact⟨rfl,A⟩
def Qo{a:Option Addr}cap o{f}{w}(hA:RV w a n f)(B:RV w a' n f)(hn:n<=1048576)(hs:∀i,i<n->(f i).nv<=1048576/\Small (f i).d):
  C9 32 #[.slice a n cap,.slice a' n o] w (R9 (.bool true) w):=by
 rcases O hA,O B,O hs with⟨H,I,C⟩;clear hA B hs;go_enter func32,ntmps32;go_wp2;go_loopw [5] (λi wr=>∃(k:Nat),k<=n/\i=J k/\B9 w wr) λi _=>n-(intOf i).toNat
 .exact⟨0,om,rfl,BE _ _⟩
 obtain⟨k,hk,rfl,hb⟩:=hrel;by_cases e:k<n
 .obtain⟨b,off,rfl,p,hcs⟩:=H.resolve_left om;obtain⟨b',D,rfl,j,l⟩:=I.resolve_left om;obtain⟨va,vc,la,lc,ia,ic,xa,xc,hc,E,F⟩:=(hcs k e).below hb p;obtain⟨L,t,M,u,P,v,Q,x,A,hv',q⟩:=(l k e).below hb j;obtain⟨e0,e1,e2,e3,R,S,T,U⟩:=hc;obtain⟨d0,d1,d2,d3,d4,d5,d6,d7⟩:=A;rcases O (ql E<|ql hv'<|ql F q),A0 p hb.size,A0 j hb.size,O hb with⟨g,W,V,r⟩;clear hb hcs l E hv' F q;go_wp2_with fail;refine qr wr ?_;(iterate 8 refine N (h:=?_));refine GC λK hK=>?_;go_simp;refine⟨_,λw' c=>qk c<|Sa vc t lc u ic v xc x (f k) (g.1.below c rfl) (g.2.1.below c rfl) (g.2.2.1.below c) (g.2.2.2.below c) (C k e).1 (C k e).2,hK _ ?_⟩;clear hK K;refine N (h:=?_);refine GS ?_;intro w2 s;have m:=O<|o8 r s;clear s e0 e1 e2 e3 R S T U d0 d1 d2 d3 d4 d5 d6 d7;go_wp2;go_roundw
  .exact⟨k+1,om,ov,m⟩
  exact ow
 have:k=n:=om;subst this;have m:=O hb;clear hb;go_wp2;go_ret;exact⟨rfl,m⟩
structure Ou (lo H:Nat) (w w':Y):Prop where
 os:w'.os=w.os
 tape:w'.tape=w.tape
 output:w'.output=w.output
 size:w.heap.size<=w'.heap.size
 block:∀k,k<w.heap.size->(k<lo\/H<=k)->w'.heap[k]?=w.heap[k]?
theorem Ou.trans{H}{v}(h:Ou lo H u v)(k:Ou lo H v w):Ou lo H u w:=
 ⟨k.os.trans h.os,k.tape.trans h.tape,k.output.trans h.output,GP h.size k.size,λi hi hn=>(k.block i (A0 hi h.size) hn).trans<|h.block i hi hn⟩
def Ou.below{H}(h:Ou lo H w w')(hl:lo<=w.heap.size):Below lo w w':=⟨h.os,h.tape,h.output,h.size,λk hk=>h.block k om<|.inl hk⟩
def QF{H m tb}(l:I2 B H w m tb j s)(hs:EE s)(M:H<=w.heap.size):
  C9 12 #[Qk (some<|G m 0) s.nf (some<|G tb 0) s.nt (some<|G j 0) s.ns s,J 1] w λe w'=>(∃r:Nat,e=.returned (J (r:Int)))/\Ou B H w w':=by
 obtain⟨W,K,d,_,o0⟩:=JZ w<|.cells #[S9 m s.nf s.nf,S9 tb s.nt s.nt,S9 j s.ns s.ns] 42;have L:w.heap.size<W.heap.size:=by rw[K];simp
 rcases v3 o0,l.bm,l.mt,l.ts,l.sh,hs.f.1,hs.t,hs.n,l.below d with⟨⟨_,x1,x2⟩,h1,h2,h3,h4,hf,P,hn,o⟩;go_enter func12,ntmps12;go_wp2_with fail;rw[<-K];refine(Pk s.nf o.fo hf).mono ?_;rintro e w1 ⟨rfl,b⟩;have v:=A0 L b.size;have p:=b.block w.heap.size L om;have X:=(As (a:=y w 1) p).trans x1;have Q:=(As (a:=y w 2) p).trans x2;have u:=b.block tb o.ta.lt om;have x:∀i,i<s.nt->∃R S s1 s2,tH tb H w1 (i*8) (s.T i) R S s1 s2:=λi hi=>Ej.mk<|(o.tr i hi).keep (Be _) (λq hq _ A=>b.block q A om) λq _=>As u;have C:I1 w1 tb 105<|s.nt*8:=by obtain⟨⟨g,r⟩,_⟩:=o.ta;exact⟨g,GW r u⟩
 have D:I1 w1 j 107<|s.ns*5:=by obtain⟨⟨g,r⟩,_⟩:=o.si;exact⟨g,GW r<|b.block j (H8 r) om⟩
 have E:Hid<|Ou B H w w1:=O ⟨b.os.trans d.os,b.tape.trans d.tape,b.output.trans d.output,om,λk hk hn=>(b.block k om om).trans<|d.block k hk⟩;go_wp2_with fail;have hA:=Pq s.nt H (1+3*s.nf) C om (z<|O x) P om;rw[show((1+3*s.nf:Nat):Int)=1+3*(s.nf:Int) by omega]at hA;refine hA.mono ?_;rintro e w2 ⟨⟨r,rfl,Z⟩,c⟩;have U:=(As (a:=y w 2)<|c.block w.heap.size v<|.inr M).trans Q;have F:=E.trans ⟨c.os,c.tape,c.output,c.size,λk hk hn=>c.block k hk om⟩;obtain⟨gs,rs⟩:=c.rows _ _ _ D;have V:r<=20000000:=om;go_wp2_with fail
 refine(QE j s.ns s.ns (s.ns*5) r gs w2 rs (Be _) om om).mono ?_;rintro e w3 ⟨⟨rfl,g3,r3⟩,h⟩;have I:=F.trans ⟨h.os,h.tape,h.output,h.size,λk hk hn=>h.block k hk om⟩;go_wp2;go_ret;exact⟨⟨r+5*s.ns,oq⟩,I⟩
def Xx(lo hi:Nat)(w:Y)(v:V9)(n:Nat)(f:Nat->Tb)(H:Nat->Hs):Prop:=
 (n=0/\v=N9)\/∃b a Z g,v=S9 b n a/\lo<=b/\b<hi/\w.rowIs b 105 Z g/\n*8<=Z/\(∀i,i<n->aN lo hi w b (i*8) (H i) (f i))/\lJ b n H
def Xx.keep{f}{H}(h:Xx lo hi w v n f H)(hk:∀b,v.ownBlock=some b->w'.heap[b]?=w.heap[b]?)(a:∀i q,i<n->(H i).own q->w'.heap[q]?=w.heap[q]?):Xx lo hi w' v n f H:=by
 rcases h with h|⟨b,c,Z,g,rfl,h2,h3,h4,h5,d,e⟩
 .exact .inl h
 exact .inr ⟨b,c,Z,g,rfl,h2,h3,GW h4<|hk b rfl,h5,λi hi=>(d i hi).keep (λq hq=>a i q hi hq) λj _=>As<|hk b rfl,e⟩
theorem Xx.at{f}{H}(h:Xx lo hi w v n f H):∃a c,v=.slice a n c/\RV w a n f:=by
 rcases h with⟨d,rfl⟩|⟨b,c,Z,g,rfl,h2,h3,h4,h5,e,j⟩
 .subst d;exact⟨_,_,rfl,.inl rfl⟩
 exact⟨_,_,rfl,.inr ⟨b,0,rfl,H8 h4,λi hi=>by rw[VC];exact(e i hi).at⟩⟩
theorem GV.at{f}(h:GV f n w v lo hi):∃a c,v=.slice a n c/\IY w a n f:=by
 rcases h with⟨d,rfl⟩|⟨d,b,c,rfl,h2,h3,h4⟩
 .subst d;exact⟨_,_,rfl,.inl rfl⟩
 exact⟨_,_,rfl,h4.at⟩
theorem GV.own{f}(h:GV f n w v lo hi){q}(e:v.ownBlock=some q):lo<=q/\q<hi/\q<w.heap.size:=by
 rcases h with⟨a,rfl⟩|⟨a,b,c,rfl,h2,h3,h4⟩
 .cases e
 cases e;exact⟨h2,h3,h4.lt⟩
theorem VA.own(h:VA f n w v lo hi){q}(e:v.ownBlock=some q):lo<=q/\q<hi/\q<w.heap.size:=by
 rcases h with⟨a,rfl⟩|⟨b,c,Z,g,rfl,h2,h3,h4,h5,d⟩
 .cases e
 cases e;exact⟨h2,h3,H8 h4⟩
theorem Xx.own{f}{H}(h:Xx lo hi w v n f H){q}(e:v.ownBlock=some q):lo<=q/\q<hi/\q<w.heap.size:=by
 rcases h with⟨a,rfl⟩|⟨b,c,Z,g,rfl,h2,h3,h4,h5,d,i⟩
 .cases e
 cases e;exact⟨h2,h3,H8 h4⟩
theorem Xx.row{f}{H}(h:Xx lo hi w v n f H){i q}(a:i<n)(e:(H i).own q):lo<=q/\q<hi/\q<w.heap.size:=by
 rcases h with⟨d,rfl⟩|⟨b,j,Z,g,rfl,h2,h3,h4,h5,c,k⟩
 .omega
 have:=(c i a).lt e;exact⟨this.2.1,this.2.2,this.1⟩
structure Nh (lo hi:Nat) (w:Y) (vF vT vS:V9) (s:AL) (H:Nat->Hs):Prop where
 f:GV s.F s.nf w vF lo hi
 t:Xx lo hi w vT s.nt s.T H
 si:VA s.S s.ns w vS lo hi
 ft:∀q,vF.ownBlock=some q->vT.ownBlock≠some q
 fs:∀q,vF.ownBlock=some q->vS.ownBlock≠some q
 fr:∀q i,vF.ownBlock=some q->i<s.nt->¬(H i).own q
 st:∀q,vS.ownBlock=some q->vT.ownBlock≠some q
 sr:∀q i,vS.ownBlock=some q->i<s.nt->¬(H i).own q
def Nh.keep{H}(h:Nh lo hi w vF vT vS s H)(hk:∀q,lo<=q->q<hi->q<w.heap.size->w'.heap[q]?=w.heap[q]?):Nh lo hi w' vF vT vS s H:=
 ⟨h.f.CQ λq e=>hk q (h.f.own e).1 (h.f.own e).2.1 (h.f.own e).2.2,h.t.keep (λq e=>hk q (h.t.own e).1 (h.t.own e).2.1 (h.t.own e).2.2) λi q hi e=>hk q (h.t.row hi e).1 (h.t.row hi e).2.1 (h.t.row hi e).2.2,h.si.keep λq e=>hk q (h.si.own e).1 (h.si.own e).2.1 (h.si.own e).2.2,h.ft,h.fs,h.fr,h.st,h.sr⟩
def Nh.below{H}(h:Nh lo hi w vF vT vS s H)(hb:Below B w w')(a:hi<=B):Nh lo hi w' vF vT vS s H:=h.keep λq _ h2 _=>hb.block q om
def iG{a}(h:Co a=true):(1<=a.op/\a.op<=9)/\0<=a.t/\a.t<100/\0<=a.site/\a.site<50/\0<=a.n:=by
 unfold Co at h
 revert h
 unfold J3 Ea;intro h;by_cases h1:a.op=1<;>by_cases h2:a.op=2<;>by_cases h3:a.op=3<;>by_cases h4:a.op=4<;>by_cases h5:a.op=5<;>by_cases b:a.op=6<;>by_cases c:a.op=7<;>by_cases d:a.op=8<;>by_cases e:a.op=9<;>simp_all<;>omega
def vJ:Ds:=⟨0,λ_=>default,0,λ_=>⟨#[]⟩⟩
def qF(x:An):Value:=H7 x
def W7(w:Y)x:(Instr.storeAt 45 (Q9 w.heap.size)<|qF x).run prog (w.alloc<|.cells Xp 45)=.ok () (w.alloc<|.cells (LJ x).toArray 45):=by
 have h:=EV (P:=prog) w 45 (LJ x) [] Xp.toList rfl (bG x);have hs:=kW;unfold Instr.storeAt storeVar;simp only[X9,Aaa]at h;have hc:(qF x).cells.toList=LJ x:=rfl;have hn:(qF x).cells.size=12:=rfl;simp only[AaX];have a:∀w',(Instr.sureAddr<|Q9 w.heap.size).run prog w'=.ok (y w 0) w':=λw'=>oe;simp[a,hs,hc,hn];exact h
abbrev f1:Nat->Bh:=λ_=>⟨-1,⟨#[]⟩,0⟩
abbrev ES(v:V9):Value:=.agg #[v,N9,N9]
theorem LI.ok{M}(h:LI M s):BC s (Dz s)=0:=by
 refine P2 h.f ⟨h.nt,h.ns⟩ (λi hi=>?_) h.si;rcases(h.t i hi).way with⟨h1,h2,h3⟩|⟨j,h1,h2,h3,h4,h5⟩
 .exact .inl ⟨h1,h2,GN h3⟩
 obtain⟨r1,r2,r3,_,_⟩:=Au h.f;have hc:=(Bb r2 (λq h1 h2=>r3 q h1 h2) j h2).1;refine .inr ⟨om,om,?_⟩;rw[h1,Ok];refine⟨?_,h4,λq hq=>(h5 q hq).1⟩;rw[h3];unfold nf;omega
def LI.vD(h:LH s):Kh s:=by
 obtain⟨r1,r2,r3,_,_⟩:=Au h.f;refine⟨⟨oS r1.2,λi hi=>?_⟩,oS h.nt,λ{i} hi=>?_,λ{i} hi=>Qf.small<|h.t i hi,oS h.ns⟩
 .by_cases a:i=0
  .subst a;have:=r2.2.1;have e:=congrArg List.length<|toList_inj (b:=⟨#[]⟩)<|this.trans ou;have e2:(s.F 0).key.size=0:=by show(s.F 0).key.data.size=0;rw[<-Array.length_toList];exact e
   omega
  have:=(r3 i om hi).2.2.2.2;omega
 rcases(h.t i hi).way with⟨_,h2,_⟩|⟨j,_,h2,h3,_⟩
 .omega
 rw[h3];have:=Hn h.f h2;omega
def Hx(h:Hs)(t:Tb):List Value:=[J t.shape,h.v,h.l,h.i,h.x,J t.d.used,J t.d.live,J t.d.turns]
def RH(H:Nat->Hs)(T:Nat->Tb)(n:Nat):List Value:=Jo (λi=>Hx (H i)<|T i) n
def Xg H T n:(RH H T n).length=n*8:=Cx (m:=8) (f:=λi=>Hx (H i)<|T i) (λ_=>rfl) n
def Lz{H}(hi:i<n)(hj:j<8):(RH H T n)[i*8+j]?=(Hx (H i)<|T i)[j]?:=IA (m:=8) (λ_=>rfl) hi hj
def Z4{H H'}{T'}(h:∀i,i<n->Hx (H i) (T i)=Hx (H' i) (T' i)):RH H T n=RH H' T' n:=De h
def Vh H T n h t:RH H T n++Hx h t=RH (AX H n h) (AX T n t) (n+1):=by
 grind [RH,Hx,AX,Jo,Ak,De,Aj]
abbrev Tt(w:Y)(B:Nat)(v:V9)(n:Nat)(H:Nat->Hs)(T:Nat->Tb):Prop:=w.ownsRow B 105 8 v n<|RH H T n
def Bo(c:Nat)(vF vT vS:V9)(H:Nat->Hs)(n k:Nat):Prop:=k=c\/vF.ownBlock=some k\/vT.ownBlock=some k\/vS.ownBlock=some k\/∃i,i<n/\(H i).own k
structure SM (w:Y) (c B:Nat) (vF vT vS:V9) (H:Nat->Hs) (s:AL):Prop where
 base:B<=c
 BB:w.heap[c]?=some (.cells #[vF,vT,vS] 42 (0,0))
 f:EY w B vF s.nf s.F
 t:Tt w B vT s.nt H s.T
 si:ME w B vS s.ns s.S
 v:∀i,i<s.nt->Cc w B (H i).v (s.T i).nv (s.T i).V
 l:∀i,i<s.nt->BT w B (H i).l (s.T i).d.n (s.T i).d.L
 i:∀i,i<s.nt->Bq w B (H i).i (s.T i).d.m (s.T i).d.I
 x:∀i,i<s.nt->Bq w B (H i).x (s.T i).d.x (s.T i).d.X
 ap:∀i,i<s.nt->∀q,(H i).i.ownBlock=some q->(H i).x.ownBlock≠some q
 ij:∀i j q,i<s.nt->j<s.nt->(H i).own q->(H j).own q->i=j
section
variable {w w' X w3:Y} {c B:Nat} {vF vT vS:V9} {H:Nat->Hs} {s:AL}
def SM.lt(h:SM w c B vF vT vS H s):c<w.heap.size:=Ah h.BB
theorem SM.row(h:SM w c B vF vT vS H s){i q}(hi:i<s.nt)(e:(H i).own q):B<=q/\q<w.heap.size/\∃cur ty,w.heap[q]?=some (.cells cur ty (0,0))/\(ty=43\/ty=166\/ty=3):=by
 rcases e with e|e|e|e
 .obtain⟨cur,h1,h2⟩:=AZ (h.v i hi) e;grind [Ah]
 .obtain⟨cur,h1,h2⟩:=AZ (h.l i hi) e;grind [Ah]
 .obtain⟨cur,h1,h2⟩:=AZ (h.i i hi) e;grind [Ah]
 obtain⟨cur,h1,h2⟩:=AZ (h.x i hi) e;grind [Ah]
def SM.PK(h:SM w c B vF vT vS H s){k}(hk:Bo c vF vT vS H s.nt k):B<=k/\k<w.heap.size:=by
 rcases hk with rfl|e|e|e|⟨i,hi,e⟩
 .exact⟨h.base,h.lt⟩
 .exact h.f.lt k e
 .exact h.t.lt k e
 .exact h.si.lt k e
 exact⟨(h.row hi e).1,(h.row hi e).2.1⟩
def SM.keep(h:SM w c B vF vT vS H s)(hk:∀k,Bo c vF vT vS H s.nt k->w'.heap[k]?=w.heap[k]?):SM w' c B vF vT vS H s:=
 ⟨h.base,(hk c<|.inl rfl).trans h.BB,Ab h.f λg e=>hk g<|.inr<|.inl e,Ab h.t λg e=>hk g<|.inr<|.inr<|.inl e,Ab h.si λg e=>hk g<|.inr<|.inr<|.inr<|.inl e,
  λi hi=>Ab (h.v i hi) λg e=>hk g<|.inr<|.inr<|.inr<|.inr ⟨i,hi,.inl e⟩,λi hi=>Ab (h.l i hi) λg e=>hk g<|.inr<|.inr<|.inr<|.inr ⟨i,hi,.inr<|.inl e⟩,
  λi hi=>Ab (h.i i hi) λg e=>hk g (.inr (.inr (.inr (.inr ⟨i,hi,.inr (.inr (.inl e))⟩)))),λi hi=>Ab (h.x i hi) λg e=>hk g (.inr (.inr (.inr (.inr ⟨i,hi,.inr (.inr (.inr e))⟩)))),h.ap,h.ij⟩
def SM.below(h:SM w c B vF vT vS H s)(hb:B9 w w'):SM w' c B vF vT vS H s:=h.keep λk hk=>hb.block k (h.PK hk).2
def SM.apart(h:SM w c B vF vT vS H s){i q}(hi:i<s.nt)(e:(H i).own q):q≠c/\vF.ownBlock≠some q/\vT.ownBlock≠some q/\vS.ownBlock≠some q:=by
 obtain⟨_,_,cur,ty,hb,a⟩:=h.row hi e;refine⟨λe=>?_,λe=>?_,λe=>?_,λe=>?_⟩
 .subst e;rw[h.BB]at hb;cases hb;revert a;decide
 .obtain⟨b,hc,_⟩:=AZ h.f e;rw[hc]at hb;cases hb;revert a;decide
 .obtain⟨b,hc,_⟩:=AZ h.t e;rw[hc]at hb;cases hb;revert a;decide
 obtain⟨b,hc,_⟩:=AZ h.si e;rw[hc]at hb;cases hb;revert a;decide
def SM.Bg(h:SM w c B vF vT vS H s){e b Z n:Nat}{v:V9}{xs}(h':w.ownsRow b e Z v n xs)(a:e≠42):v.ownBlock≠some c:=by
 intro hq;obtain⟨cur,hb,_⟩:=AZ h' hq;rw[h.BB]at hb;cases hb;exact a rfl
def SM.table(h:SM w c B vF vT vS H s){i}(hi:i<s.nt){h'}{t'}
  (a:w'.os=w.os/\w'.tape=w.tape/\w'.output=w.output/\w.heap.size<=w'.heap.size)
  (hk:∀k,k<w.heap.size->vT.ownBlock≠some k->¬(H i).own k->w'.heap[k]?=w.heap[k]?)
  (A:Tt w' B vT s.nt (AX H i h')<|AX s.T i t') (C:Cc w' B h'.v t'.nv t'.V) (hl:BT w' B h'.l t'.d.n t'.d.L) (r:Bq w' B h'.i t'.d.m t'.d.I) (D:Bq w' B h'.x t'.d.x t'.d.X) (E:∀q,h'.i.ownBlock=some q->h'.x.ownBlock≠some q)
  (u:∀q,h'.own q->(H i).own q\/w.heap.size<=q):
  SM w' c B vF vT vS (AX H i h') (BM s i t')/\BI (Bo c vF vT vS H s.nt) w (Bo c vF vT vS (AX H i h') s.nt) w':=by
 have F:=hk c h.lt (h.Bg h.t oo) λe=>(h.apart hi e).1 rfl;have K:∀g,vF.ownBlock=some g->w'.heap[g]?=w.heap[g]?:=λg e=>hk g (h.f.lt g e).2 (Cm h.f h.t oo e) λe'=>(h.apart hi e').2.1 e;have ks:∀g,vS.ownBlock=some g->w'.heap[g]?=w.heap[g]?:=λg e=>hk g (h.si.lt g e).2 (Cm h.si h.t oo e) λe'=>(h.apart hi e').2.2.2 e;have p:∀j g,j<s.nt->j≠i->(H j).own g->w'.heap[g]?=w.heap[g]?:=λj g hj b e=>hk g (h.row hj e).2.1 (h.apart hj e).2.2.1 λe'=>b<|h.ij j i g hj hi e e';refine⟨⟨h.base,F.trans h.BB,Ab h.f K,A,Ab h.si ks,λj hj=>?_,λj hj=>?_,λj hj=>?_,λj hj=>?_,λj hj=>?_,λj k q hj o e e'=>?_⟩,⟨a.1,a.2.1,a.2.2.1,a.2.2.2,λk k1 k2=>hk k k1 (λe=>k2<|.inr<|.inr<|.inl e) λe=>k2<|.inr<|.inr<|.inr<|.inr ⟨i,hi,e⟩,λk e=>?_⟩⟩
 .show Cc w' B (AX H i h' j).v (AX s.T i t' j).nv (AX s.T i t' j).V;by_cases e:j=i
  .subst e;rw[Ak,Ak];exact C
  rw[Aj _ _ e,Aj _ _ e];exact Ab (h.v j hj) λg e2=>p j g hj e<|.inl e2
 .show BT w' B (AX H i h' j).l (AX s.T i t' j).d.n (AX s.T i t' j).d.L;by_cases e:j=i
  .subst e;rw[Ak,Ak];exact hl
  rw[Aj _ _ e,Aj _ _ e];exact Ab (h.l j hj) λg e2=>p j g hj e<|.inr<|.inl e2
 .show Bq w' B (AX H i h' j).i (AX s.T i t' j).d.m (AX s.T i t' j).d.I;by_cases e:j=i
  .subst e;rw[Ak,Ak];exact r
  rw[Aj _ _ e,Aj _ _ e];exact Ab (h.i j hj) λg e2=>p j g hj e<|.inr<|.inr<|.inl e2
 .show Bq w' B (AX H i h' j).x (AX s.T i t' j).d.x (AX s.T i t' j).d.X;by_cases e:j=i
  .subst e;rw[Ak,Ak];exact D
  rw[Aj _ _ e,Aj _ _ e];exact Ab (h.x j hj) λg e2=>p j g hj e<|.inr<|.inr<|.inr e2
 .show∀q,(AX H i h' j).i.ownBlock=some q->(AX H i h' j).x.ownBlock≠some q;by_cases e:j=i
  .subst e;rw[Ak];exact E
  rw[Aj _ _ e];exact h.ap j hj
 .have new:∀j q,j<s.nt->j≠i->(H j).own q->¬h'.own q:=λj q hj b e e'=>by
   rcases u q e' with e2|e2
   .exact b (h.ij j i q hj hi e e2)
   have:=(h.row hj e).2.1;omega
  by_cases e1:j=i
  .subst e1;rw[Ak]at e;by_cases e2:k=j
   .exact e2.symm
   rw[Aj _ _ e2]at e';exact absurd e<|new k q o e2 e'
  rw[Aj _ _ e1]at e;by_cases e2:k=i
  .subst e2;rw[Ak]at e';exact absurd e'<|new j q hj e1 e
  rw[Aj _ _ e2]at e';exact h.ij j k q hj o e e'
 rcases e with e|e|e|e|⟨j,hj,e⟩
 .exact .inl (.inl e)
 .exact .inl (.inr<|.inl e)
 .exact .inl (.inr<|.inr<|.inl e)
 .exact .inl (.inr<|.inr<|.inr<|.inl e)
 by_cases e1:j=i
 .subst e1;rw[Ak]at e;exact(u k e).elim (λe=>.inl<|.inr<|.inr<|.inr<|.inr ⟨j,hj,e⟩) .inr
 rw[Aj _ _ e1]at e;exact .inl<|.inr<|.inr<|.inr<|.inr ⟨j,hj,e⟩
end
def Zw{Z}{e}{xs ys}(h:w.ownsRow B e Z (S9 g n c) n xs)(hc:Yz w w' g)(hl:ys.length=n*Z)(hy:∀j,j<n*Z->w'.cell? (G g j)=ys[j]?):w'.ownsRow B e Z (S9 g n c) n ys:=by
 obtain⟨_,⟨d,i⟩|⟨g',cap,cur,d,hb,a,h1,h2,h3,h4⟩⟩:=h
 .cases d
 cases d;obtain⟨b,k1,k2⟩:=hc cur e a;refine⟨hl,.inr ⟨g,c,b,rfl,hb,k1,h1,h2,k2.trans h3,?_⟩⟩;have f:n*Z<=b.size:=by rw[k2,h3];exact Aaq _ h1
 refine AaV λj=>?_;rw[List.getElem?_take];by_cases hj:j<n*Z
 .rw[C3 hj,<-hy j hj,MM w' g j _ _ _ k1];simp
 grind [Yz]
section
variable {w w':Y} {c B:Nat} {vF vT vS:V9} {H:Nat->Hs} {s:AL}
def SM.cells(h:SM w c B vF vT vS H s):w.cell? (G c 0)=some vF/\w.cell? (G c 1)=some vT/\w.cell? (G c 2)=some vS/\∀q,w.frozen? (G c q)=false:=
 ⟨by simp[World.cell?,h.BB],by simp[World.cell?,h.BB],by simp[World.cell?,h.BB],λq=>by simp[World.frozen?,h.BB]⟩
def SM.C5(h:SM w c B vF vT vS H s){t}(d:t<s.nt):∃g e,vT=.slice (some<|G g 0) s.nt e/\g<w.heap.size/\B<=g/\(∀j u,(Hx (H t)<|s.T t)[j]?=some u->w.cell? (G g<|t*8+j)=some u)/\∀q,w.frozen? (G g q)=false:=by
 obtain⟨hl,⟨b,f⟩|⟨g,cap,cur,b,hb,a,h1,h2,h3,h4⟩⟩:=id h.t
 .omega
 refine⟨g,cap,b,Ah a,hb,λj u hu=>?_,λq=>by simp[World.frozen?,a]⟩;have hj:j<8:=(SO.1 hu).1;rw[On (b▸h.t) (t*8+j) om,Lz d hj,hu]
def SM.pR(h:SM w c B vF vT vS H s){g a}(b:vT=.slice (some<|G g 0) s.nt a){j}(hj:j<s.nt*8):w.cell? (G g j)=(RH H s.T s.nt)[j]?:=by
 rw[On (b▸h.t) j hj]
def SM.GY(h:SM w c B vF vT vS H s){i}(hi:i<s.ns):∃g d,vS=.slice (some<|G g 0) s.ns d/\g<w.heap.size/\B<=g/\(∀j u,(FT<|s.S i)[j]?=some u->w.cell? (G g<|i*5+j)=some u)/\∀q,w.frozen? (G g q)=false:=by
 obtain⟨hl,⟨b,e⟩|⟨g,cap,cur,b,hb,a,h1,h2,h3,h4⟩⟩:=id h.si
 .omega
 refine⟨g,cap,b,Ah a,hb,λj u hu=>?_,λq=>by simp[World.frozen?,a]⟩;have hj:j<5:=(SO.1 hu).1;rw[On (b▸h.si) (i*5+j) om,N6 hi hj,hu]
def SM.OH(h:SM w c B vF vT vS H s)(hn:0<s.nf):∃g b,vF=S9 g s.nf b/\g<w.heap.size/\B<=g/\Bd w g s.nf s.F:=by
 obtain⟨hl,⟨d,e⟩|⟨g,cap,cur,d,hb,a,h1,h2,h3,h4⟩⟩:=id h.f;all_goals grind [Bd,Ah,EY.in,SM.f]
def SM.qP(h:SM w c B vF vT vS H s){t}(a:t<s.nt){g f}(b:vT=S9 g s.nt f):AR w g (t*8+2) B (H t).l (H t).i (H t).x (s.T t).d:=by
 obtain⟨g',j,hv',k,hb,hc,hf⟩:=h.C5 a;rw[b]at hv';cases hv';refine⟨k,hc 2 _ rfl,hc 3 _ rfl,hc 4 _ rfl,hc 5 _ rfl,hc 6 _ rfl,hc 7 _ rfl,hf,h.l t a,h.i t a,h.x t a,h.ap t a,?_,by have:=h.base;have:=h.lt;omega⟩;rintro(e|e|e)
 .exact(h.apart a<|.inr<|.inl e).2.2.1 (qi b)
 .exact(h.apart a<|.inr<|.inr<|.inl e).2.2.1 (qi b)
 exact(h.apart a<|.inr<|.inr<|.inr e).2.2.1 (qi b)
def SM.tR(h:SM w c B vF vT vS H s){t}(a:t<s.nt){g D}(m:vT=S9 g s.nt D){u0 u1 u2}{u}(f:AR w' g (t*8+2) B u0 u1 u2 u)(b:C6 g (t*8+2) (H t).l (H t).i (H t).x w u0 u1 u2 w'):
  SM w' c B vF vT vS (AX H t ⟨(H t).v,u0,u1,u2⟩) (BM s t {s.T t with d:=u})/\BI (Bo c vF vT vS H s.nt) w (Bo c vF vT vS (AX H t ⟨(H t).v,u0,u1,u2⟩) s.nt) w':=by
 have hD:=h.qP a m;have n:∀q,He (H t).l (H t).i (H t).x q->(H t).own q:=λq e=>.inr e;have o:∀q,(H t).v.ownBlock=some q->w'.heap[q]?=w.heap[q]?:=λq e=>by
  obtain⟨cur,hc,_⟩:=AZ (h.v t a) e;refine b.block q (Ah hc) (λe'=>(h.apart a<|.inl e).2.2.1<|by rw[m,e'];rfl) ?_;rintro(e'|e'|e')
  .exact Cm (h.v t a) (h.l t a) oo e e'
  .exact Cm (h.v t a) (h.i t a) oo e e'
  exact Cm (h.v t a) (h.x t a) oo e e'
 refine h.table a ⟨b.os,b.tape,b.output,b.size⟩ (λk k1 k2 k3=>b.block k k1 (λe=>k2<|by rw[m,e];rfl) λe=>k3<|n k e) ?_ (Ab (h.v t a) o) f.log f.ints f.index f.ap λq e=>?_
 .have A:=h.t;rw[m]at A ⊢;refine Zw A b.ty (Xg _ _ _) λj hj=>?_;obtain⟨i,r,C,p⟩:∃i r,r<8/\j=i*8+r:=⟨j/8,j%8,UP _ oo,om⟩;subst p;have hi:i<s.nt:=om;rw[Lz hi C];by_cases e:i=t
  .subst e;rw[Ak,Ak];rcases(by omega:r=0\/r=1\/r=2\/r=3\/r=4\/r=5\/r=6\/r=7)with rfl|rfl|rfl|rfl|rfl|rfl|rfl|rfl
   .rw[b.cell _ (.inl om),h.pR m hj,Lz hi oo];rfl
   .rw[b.cell _ (.inl om),h.pR m hj,Lz hi oo];rfl
   .exact f.c0
   .exact f.c1
   .exact f.c2
   .exact f.c3
   .exact f.c4
   exact f.c5
  rw[Aj _ _ e,Aj _ _ e,b.cell _ om,h.pR m hj,Lz hi C]
 rcases e with e|e
 .exact .inl (.inl e)
 rcases b.sub q e with e'|e';all_goals grind [AX,BM,Bo]
end
def Me{H}t{k}{w}(D:SM w c B vF vT vS H s)(hG:LH s)(E:t<s.nt)(hk:Ky k):
  C9 50 #[Q9 c,J t,Hc k] w (R9 (Hc<|Cb s.F (s.T t) k) w):=by
 obtain⟨I,R,S,_,U⟩:=Au hG.f;have av:0<s.nf:=oS I.1;obtain⟨g,cp,rfl,hg,_,hc,_⟩:=D.C5 E;obtain⟨fb,fc,rfl,aw,_,hF⟩:=D.OH av;rcases D.cells,D.lt,hG.t t E,AF<|D.v t E,(D.l t E).at,(D.i t E).at,(D.x t E).at,D.v t E with⟨⟨c0,c1,c2,_⟩,ax,hx,⟨va,vc,ev⟩,⟨la,lc,el,X⟩,⟨ia,ic,ei,Z⟩,⟨xa,xc,ex,af⟩,ag⟩;rw[ev]at ag;obtain⟨y0,y1,y2,y3,y4,y5,y6,y7⟩:=qd hc;rw[ev]at y1;rw[el]at y2;rw[ei]at y3;rw[ex]at y4;simp only[Aaw]at y0;have HR:=O<|ql I<|ql R<|ql S U;have ay:Hid<|Ei w la ia xa (s.T t).d:=O ⟨X,Z,af⟩;obtain⟨W,M,r,az,o0,o1,o2⟩:=gZ w (.cells (qf k) 43) (.cells #[J 0,J 0,F9 0,E9,J 0] 43)<|.cells #[J (s.T t).shape,.slice va (s.T t).nv vc,.slice la (s.T t).d.n lc,.slice ia (s.T t).d.m ic,.slice xa (s.T t).d.x xc,J (s.T t).d.used,J (s.T t).d.live,J (s.T t).d.turns] 105;obtain⟨k0,k1,k2,k3,k4⟩:=v5 o0;obtain⟨r0,r1,r2,r3,r4⟩:=v5 o1;have fr:∀o,W.frozen? (Y9 w o)=false:=λo=>by rw[M];simp[go_sem]
 obtain⟨x0,x1,x2,x3,x4,x5,x6,x7⟩:=v8 o2;have C:w.heap.size+1<W.heap.size:=om;have lx:w.heap.size+1+1<W.heap.size:=om;have lk:w.heap.size<W.heap.size:=om;have ah:Hid<|H9 W (w.heap.size+1+1) 2 la lc ia ic xa xc (s.T t).d:=O ⟨om,x2,x3,x4,x5,x6,x7,ay.below r⟩;have ai:=(r.cell ax).trans c0;have bg:c<W.heap.size:=om;clear az;clear D I R S U X Z af hc;rcases hx.way with⟨e,e2,hI⟩|⟨j,e,hj,aj,e2,e3⟩
 .have hd:decide ((s.T t).shape<0)=true:=ot;have A:Hid<|Cb s.F (s.T t) k=FN (s.T t).d (Av (s.T t).d k<|hN k):=O (by unfold Cb;rw[C3 om]);have aM:=Qf.small hx;clear e e2;go_enter func50,ntmps50;go_upto_region 2 with fail
  rw[<-M];clear M;go_wp2_with fail;refine m9 (Jg ah aM hI.i0.d3 hI.i0.d4<|tZ hk.1 hk.2) λw1 a=>?_;obtain⟨ak,ao⟩:=Jj hI.i0.d3 hI.i0.d4 k<|hN k;generalize a6:Av (s.T t).d k (hN k)=pl at A ak ao;clear a6;have z1:=a.size;have l1:w.heap.size+1<w1.heap.size:=om;rcases (a.cell C).trans r0,(a.cell C).trans r1,(a.cell C).trans r2,(a.cell C).trans r3,(a.cell C).trans r4 with⟨s0,s1,s2,s3,s4⟩;have a7:∀o,w1.frozen? (Y9 w o)=false:=λo=>o7 a C<|fr o;rcases (a.cell lx).trans x2,o8 r a,O ((ah.below a).rows.log) with⟨q2,P,a8⟩;clear a r0 r1 r2 r3 r4 fr k0 k1 k2 k3 k4 x0 x1 x2 x3 x4 x5 x6 x7 y0 y1 y2 y3 y4 y5 y6 y7 c0 c1 c2 ai;by_cases ad:pl<0
  focus
   have u:=O<|A.trans<|Cs om;go_wp2;refine GO (v:=.agg #[J 0,J 0,F9 0,E9,J 0]) (by simp[results,results50,go_sem,s0,s1,s2,s3,s4]) rfl ⟨qh u,?_⟩
  rotate_left
  focus
   obtain⟨q,hq⟩:∃q:Nat,pl=(q:Int):=⟨pl.toNat,om⟩;subst hq;have bb:q<(s.T t).d.n:=om;have u:Hid<|Cb s.F (s.T t) k=((s.T t).d.L q).val:=O<|A.trans (by unfold FN;rw[C3 om];rfl);obtain⟨b,off,rfl,bh,hcs⟩:=a8.resolve_left om;obtain⟨_,_,_,_,_,e5,e6,e7,e8,e9,_⟩:=hcs q bb;clear hcs ak ao ad;go_wp2;refine GO (v:=Hc ((s.T t).d.L q).val) (by simp[results,results50,go_sem,s0,s1,s2,s3,s4]) rfl ⟨qh u,?_⟩
  all_goals
   iterate 5 (refine NO ?_ ox _)
   exact P
 have hd:decide ((s.T t).shape<0)=false:=ot;have Q:=O<|ql e<|ql hj aj;clear e e2 e3 hj aj;by_cases h4:k.kind=4
 .have bc:(k.kind==4)=true:=by simp[h4]
  have A:Hid<|Cb s.F (s.T t) k=if 0<=Bf s.F j k.str then(s.T t).V (Bf s.F j k.str).toNat else MY:=O (by
   unfold Cb;rw[Cs (oS (z Q).1),(z Q).1,Ok];by_cases hp:0<=Bf s.F j k.str
   .rw[C3 ⟨h4,hp⟩,C3 hp]
   rw[Cs (λh=>hp h.2),Cs hp])
  have bd:Hid<|∀w',Bd w' fb s.nf s.F->C9 82 #[.agg #[S9 fb s.nf fc],J (s.T t).shape,.string k.str] w' λe bf=>e=.returned (J<|Bf s.F j k.str)/\B9 w' bf:=O (λw' hS=>by
   rw[(z Q).1];exact La fc j k.str hS HR.1 HR.2.1 HR.2.2.1 HR.2.2.2 Q.2.1)
  have aq:=O<|hF.below r aw;clear h4;go_enter func50,ntmps50;go_upto_region 2 with fail
  rw[<-M];clear M;go_upto_region 8 with fail
  clear y0 y1 y2 y3 y4 y5 y6 y7 c0 c1 c2;refine qr W ?_;(iterate 8 refine N (h:=?_));refine GC λK hK=>?_;go_simp;refine⟨_,λw' ar=>qk ar<|bd _<|aq.below ar aq.lt,hK _ ?_⟩;clear hK K;refine N (h:=?_);refine GS ?_;intro w1 a;have z1:=a.size;have l1:w.heap.size+1<w1.heap.size:=om;rcases (a.cell C).trans r0,(a.cell C).trans r1,(a.cell C).trans r2,(a.cell C).trans r3,(a.cell C).trans r4 with⟨s0,s1,s2,s3,s4⟩;have a7:∀o,w1.frozen? (Y9 w o)=false:=λo=>o7 a C<|fr o;rcases (a.cell lx).trans x1,o8 r a,WD ag (o8 r a) with⟨q1,P,au⟩;clear a r0 r1 r2 r3 r4 fr k0 k1 k2 k3 k4 x0 x1 x2 x3 x4 x5 x6 x7 ai;rcases JT hG.f Q.2.1 k.str with hp|⟨i,hp,hi⟩
  focus
   have u:=O<|A.trans<|Cs om;rw[hp];clear hp;go_wp2;refine GO (v:=.agg #[J 0,J 0,F9 0,E9,J 0]) (by simp[results,results50,go_sem,s0,s1,s2,s3,s4]) rfl ⟨qh u,?_⟩
  rotate_left
  focus
   have u:=O<|A.trans (by rw[C3 om,hp,Ok]);have J0:i<(s.T t).nv:=by rw[(z Q).2.2];exact hi
   rw[hp];obtain⟨vb,rfl,bj⟩:∃vb,va=some (G vb 0)/\vb<w1.heap.size:=by
    obtain⟨hl,⟨hv,h0⟩|⟨g,cp,cur,hv,_,ae,_⟩⟩:=id au
    .omega
    cases hv;exact⟨_,rfl,Ah ae⟩
   obtain⟨e0,e1,e2,e3,e4⟩:=Cc.at au J0;clear hp hi;go_wp2;refine GO (v:=Hc<|(s.T t).V i) (by simp[results,results50,go_sem,s0,s1,s2,s3,s4]) rfl ⟨qh u,?_⟩
  all_goals
   iterate 5 (refine NO ?_ ox _)
   exact P
 have bc:(k.kind==4)=false:=by simp[h4]
 have u:Hid<|Cb s.F (s.T t) k=MY:=O (by
  unfold Cb;rw[Cs (oS (z Q).1),Cs (λh=>h4 h.1)])
 clear h4;go_enter func50,ntmps50;go_upto_region 2 with fail
 rw[<-M];clear M;clear y0 y1 y2 y3 y4 y5 y6 y7 c0 c1 c2;go_wp2;refine GO (v:=.agg #[J 0,J 0,F9 0,E9,J 0]) (by simp[results,results50,go_sem,r0,r1,r2,r3,r4]) rfl ⟨qh u,?_⟩;iterate 5 (refine NO ?_ ox _)
 exact r
section
variable {w w':Y} {c B:Nat} {vF vT vS:V9} {H:Nat->Hs} {s:AL}
def SM.Fm(h:SM w c B vF vT vS H s){g n i j}(d:vS=.slice (some<|G g 0) s.ns n)(hi:i<s.ns)(hj:j<5){u:V9}{x'}(o:FT x'=(FT<|s.S i).set j u):
  SM (w.setCell (G g<|i*5+j) u) c B vF vT vS H {s with S:=AX s.S i x'}/\BI (Bo c vF vT vS H s.nt) w (Bo c vF vT vS H s.nt) (w.setCell (G g<|i*5+j) u):=by
 have a:vS.ownBlock=some g:=qi d
 have hk:∀k,k≠g->(w.setCell (G g<|i*5+j) u).heap[k]?=w.heap[k]?:=λk hk=>At _ _ _ _ (by exact hk);have p:=hk c λe=>h.Bg h.si oo (by rw[e];exact a);have r:∀q,vF.ownBlock=some q->(w.setCell (G g<|i*5+j) u).heap[q]?=w.heap[q]?:=λq e=>hk q λe'=>Cm h.f h.si oo e (by rw[e'];exact a);have A:∀q,vT.ownBlock=some q->(w.setCell (G g<|i*5+j) u).heap[q]?=w.heap[q]?:=λq e=>hk q λe'=>Cm h.t h.si oo e (by rw[e'];exact a);have b:∀j' q,j'<s.nt->(H j').own q->(w.setCell (G g<|i*5+j) u).heap[q]?=w.heap[q]?:=λj' q m e=>hk q λe'=>(h.apart m e).2.2.2 (by rw[e'];exact a);refine⟨⟨h.base,p.trans h.BB,Ab h.f r,Ab h.t A,?_,λj hj=>Ab (h.v j hj) λq e=>b j q hj<|.inl e,λj hj=>Ab (h.l j hj) λq e=>b j q hj<|.inr<|.inl e,λj hj=>Ab (h.i j hj) λq e=>b j q hj<|.inr<|.inr<|.inl e,λj hj=>Ab (h.x j hj) λq e=>b j q hj<|.inr<|.inr<|.inr e,h.ap,h.ij⟩,⟨rfl,rfl,rfl,oq,λk k1 k2=>hk k λe=>k2<|.inr<|.inr<|.inr<|.inl<|by rw[e];exact a,λk e=>.inl e⟩⟩;have h1:=(X0 (d▸h.si:w.ownsRow B 107 5 (.slice (some<|G g 0) s.ns n) s.ns<|IQ s.S s.ns) (i*5+j) u).1;rw[Ys hi hj o,<-d]at h1;exact h1
end
def Yi{n}(h:n<1000000000000):Ef n=n+1:=C3 h
def Yh{n}(h:¬n<1000000000000)(h2:n<=1000000000000):Ef n=n:=by unfold Ef;rw[Cs h];omega
def Wk{H}i t{w}(D:SM w c B vF vT vS H s)(hG:LH s)(hi:i<s.ns)(ht:t<s.nt):
  C9 92 #[Q9 c,J i,J t] w λe w'=>e=.returned (J<|A8 s i t)/\SM w' c B vF vT vS H (AY s i t)/\BI (Bo c vF vT vS H s.nt) w (Bo c vF vT vS H s.nt) w':=by
 obtain⟨E,U,V,_,X⟩:=Au hG.f;have Z:0<s.nf:=oS E.1;obtain⟨g,cp,rfl,hg,_,hc,_⟩:=D.C5 ht;obtain⟨sb,sp,rfl,bb,_,m,bc⟩:=D.GY hi;obtain⟨fb,fc,rfl,bd,_,hF⟩:=D.OH Z;rcases D.cells,D.lt,hG.si i hi,hc 0 _ rfl with⟨⟨c0,c1,c2,_⟩,bf,⟨o1,o2,o3,o4,o5,_⟩,y0⟩;simp only[Aaw]at y0;obtain⟨s0,s1,s2,s3,s4⟩:=qe m;simp only[Aaw]at s0;rcases O D,O hG,O (ql E<|ql U<|ql V X) with⟨HM,HG,HR⟩;clear hG E U V X hc m D;by_cases p:K8 s i t=true
 .have e0:0<=(s.T t).shape/\(s.T t).shape=(s.S i).shape:=by unfold K8 at p;simpa using p
  have d1:decide (0<=(s.T t).shape)=true:=by simp[e0.1]
  have d2:((s.T t).shape==(s.S i).shape)=true:=by simp[e0.2]
  have b:Hid<|A8 s i t=(s.S i).place:=O (by unfold A8;rw[C3 p]);have d:Hid<|D7 s i t={s.S i with Ce:=Ef (s.S i).Ce}:=O (by unfold D7;rw[C3 p]);clear p e0;by_cases hl:(s.S i).Ce<1000000000000
  .have d3:decide ((s.S i).Ce<1000000000000)=true:=by simp[hl]
   have HS:=O<|SM.Fm (j:=3) (u:=J<|(s.S i).Ce+1) (x':=D7 s i t) HM rfl hi oo (by rw[z d,Yi hl];rfl);go_enter func92,ntmps92;go_wp2;go_ret;exact⟨qh b,HS.1,HS.2⟩
  have d3:decide ((s.S i).Ce<1000000000000)=false:=ot;have HS:Hid<|AY s i t=s:=O (by
   unfold AY;rw[z d,Yh hl o4,show({s.S i with Ce:=(s.S i).Ce}:Si)=s.S i from rfl,IG])
  go_enter func92,ntmps92;go_wp2;go_ret;rw[z HS];exact⟨qh b,HM,BI.refl _ _⟩
 .have b:Hid<|A8 s i t=if 0<=(s.T t).shape then Bf s.F (s.T t).shape.toNat (s.S i).key else -1:=O (by unfold A8;rw[Cs p]);have d:Hid<|D7 s i t=if 0<=(s.T t).shape/\0<=Bf s.F (s.T t).shape.toNat (s.S i).key then⟨(s.S i).key,(s.T t).shape,Bf s.F (s.T t).shape.toNat (s.S i).key,(s.S i).Ce,Ef (s.S i).AD⟩else{s.S i with AD:=Ef (s.S i).AD}:=O (by unfold D7;rw[Cs p]);have ar:(decide (0<=(s.T t).shape)=false)\/(decide (0<=(s.T t).shape)=true/\((s.T t).shape==(s.S i).shape)=false):=by
   unfold K8 at p;by_cases h0:0<=(s.T t).shape
   .right;simp[h0]at p ⊢;exact p
   left;simp[h0]
  clear p;obtain⟨x1,n⟩:∃x1:Si,x1={s.S i with AD:=Ef (s.S i).AD}:=⟨_,rfl⟩;have au:∃W,(((s.S i).AD<1000000000000/\W=w.setCell (G sb<|i*5+4) (J<|(s.S i).AD+1))\/(¬(s.S i).AD<1000000000000/\W=w))/\SM W c B (S9 fb s.nf fc) (S9 g s.nt cp) (S9 sb s.ns sp) H {s with S:=AX s.S i x1}/\BI (Bo c (S9 fb s.nf fc) (S9 g s.nt cp) (S9 sb s.ns sp) H s.nt) w (Bo c (S9 fb s.nf fc) (S9 g s.nt cp) (S9 sb s.ns sp) H s.nt) W:=by
   by_cases hl:(s.S i).AD<1000000000000
   .have hS:=SM.Fm (j:=4) (u:=J<|(s.S i).AD+1) (x':=x1) HM rfl hi oo (by rw[n,Yi hl];rfl);exact⟨_,.inl ⟨hl,rfl⟩,hS.1,hS.2⟩
   refine⟨w,.inr ⟨hl,rfl⟩,?_,BI.refl _ _⟩;rw[n,Yh hl o5,show({s.S i with AD:=(s.S i).AD}:Si)=s.S i from rfl,IG];exact HM
  obtain⟨W,o,k,ae⟩:=au;have af:=O ae;obtain⟨g',bg,e1,bh,_,av,_⟩:=k.C5 ht;cases e1;obtain⟨aw,ax,e2,ad,_,a,a6⟩:=k.GY hi;cases e2;rcases k.cells,k.lt,k.OH Z with⟨⟨I,L,M,_⟩,a7,⟨bj,bk,e3,a8,_,ag⟩⟩;cases e3;obtain⟨u0,u1,u2,u3,u4⟩:=qe a;simp only[Aaw,Ak]at u0 u1 u2 u3 u4;have ah:x1.key=(s.S i).key:=by rw[n]
  rw[ah]at u0;rw[show x1.shape=(s.S i).shape by rw[n]]at u1;clear u2 u3 u4;have ai:=O ag;have P:=O n;clear ae av a ag n ah;go_enter func92,ntmps92;rcases ar with d1|⟨d1,d2⟩
  .have l:Hid<|A8 s i t=-1:=O (by
    have:¬0<=(s.T t).shape:=by simpa using d1
    rw[z b,Cs this])
   have r:Hid<|AY s i t={s with S:=AX s.S i x1}:=O (by
    have:¬0<=(s.T t).shape:=by simpa using d1
    unfold AY;rw[z d,Cs (λh=>this h.1),z P])
   have d4:decide ((s.T t).shape<0)=true:=by
    have:¬0<=(s.T t).shape:=by simpa using d1
    simp;omega
   clear b d;rcases o with⟨hl,o⟩|⟨hl,o⟩
   focus
    have d3:decide ((s.S i).AD<1000000000000)=true:=by simp[hl]
    clear hl u0 u1 I L M;go_upto_region 9 with fail
    rw[<-o];clear o s0 s1 s2 s3 s4
   rotate_left
   focus
    have d3:decide ((s.S i).AD<1000000000000)=false:=ot;clear hl u0 u1 I L M;subst o
   all_goals
    go_wp2;go_ret;rw[z r];exact⟨qh l,k,af⟩
  have h0:0<=(s.T t).shape:=by simpa using d1
  obtain⟨j,hj⟩:∃j:Nat,(s.T t).shape=j:=⟨(s.T t).shape.toNat,om⟩;have Q:j<s.nf:=by
   rcases(HG.t t ht).way with⟨e,_⟩|⟨j',e,bm,_⟩
   .omega
   omega
  have l:Hid<|A8 s i t=Bf s.F j (s.S i).key:=O (by rw[z b,C3 h0,hj,Ok]);have A:Hid<|D7 s i t=if 0<=Bf s.F j (s.S i).key then⟨(s.S i).key,(s.T t).shape,Bf s.F j (s.S i).key,(s.S i).Ce,Ef (s.S i).AD⟩else{s.S i with AD:=Ef (s.S i).AD}:=O (by
   rw[z d,hj,Ok];by_cases hp:0<=Bf s.F j (s.S i).key
   .rw[C3 ⟨om,hp⟩,C3 hp]
   rw[Cs (λh=>hp h.2),Cs hp])
  have ay:Hid<|∀w',Bd w' fb s.nf s.F->C9 82 #[.agg #[S9 fb s.nf fc],J (s.T t).shape,.string (s.S i).key] w' λe az=>e=.returned (J<|Bf s.F j (s.S i).key)/\B9 w' az:=O (λw' hS=>by
   rw[hj];exact La fc j (s.S i).key hS HR.1 HR.2.1 HR.2.2.1 HR.2.2.2 Q)
  have d4:decide ((s.T t).shape<0)=false:=ot;have aM:=O Q;clear h0 hj b d Q;rcases o with⟨hl,o⟩|⟨hl,o⟩
  case' inl=>
   have d3:decide ((s.S i).AD<1000000000000)=true:=by simp[hl]
   clear hl;go_upto_region 9 with fail
   rw[<-o];clear o s0 s1 s2 s3 s4 c0 c1 c2
  case' inr=>
   have d3:decide ((s.S i).AD<1000000000000)=false:=ot;clear hl;subst o;go_upto_region 9 with fail
   clear s0 s1 s2 s3 s4 c0 c1 c2
  all_goals
   go_upto_region 11 with fail
   refine qr W ?_;(iterate 9 refine N (h:=?_));refine GC λK hK=>?_;go_simp;refine⟨_,λw' aj=>qk aj<|ay _<|ai.below aj ai.lt,hK _ ?_⟩;clear hK K;refine N (h:=?_);refine GS ?_;intro w1 x;rcases O (k.below x),O<|af.below x,(x.cell ad).trans u1 with⟨R,ak,v1⟩;obtain⟨aw,ax,e4,_,_,C,v⟩:=R.GY hi;cases e4;rcases C 2 _ rfl,v<|i*5+1,v (i*5+2) with⟨v2,f1,f2⟩;clear x C v u0 u1 I L M;rcases JT HG.f aM (s.S i).key with hp|⟨q,hp,hq⟩
   .have r:Hid<|AY s i t={s with S:=AX s.S i x1}:=O (by
     unfold AY;rw[z A,Cs om,z P])
    rw[hp];have HP:=O hp;clear hp;go_wp2;go_ret;rw[z r];exact⟨by rw[z l,z HP];rfl,R,ak⟩
   have ao:=O<|SM.Fm (j:=1) (u:=J (s.T t).shape) (x':={x1 with shape:=(s.T t).shape}) R rfl hi oo (by show _=(FT<|AX s.S i x1 i).set 1 _;rw[Ak];rfl);have aq:=O<|SM.Fm (j:=2) (u:=J (q:Int)) (x':={x1 with shape:=(s.T t).shape,place:=(q:Int)}) ao.1 rfl hi oo (by show _=(FT<|AX (AX s.S i x1) i _ i).set 2 _;rw[Ak];rfl);have r:Hid<|AY s i t={s with S:=AX (AX (AX s.S i x1) i {x1 with shape:=(s.T t).shape}) i {x1 with shape:=(s.T t).shape,place:=(q:Int)}}:=O (by
    unfold AY;rw[G0,G0,z A,C3 om,hp,z P])
   rw[hp];have HP:=O hp;clear hp;go_wp2;go_ret;rw[z r];exact⟨by rw[z l,z HP];rfl,aq.1,ak.trans<|ao.2.trans aq.2⟩
def Yw{α}f i(a b:α):AV (AV f i a) i b=AV f i b:=by
 grind [AV,Ao,Ai]
theorem oY f n i j u p(hi:i<n)(hj:j<11)(hp:Dl p=(Dl<|f i).set j u):(pL f n).set (i*11+j) u=pL (AV f i p) n:=by
 apply AaV;intro q;rw[List.getElem?_set];by_cases hq:q<n*11
 .have e1:q=q/11*11+q%11:=om;grind [Dl,pL,AV,Mj,Ao,DX,Ai]
 grind [Dl,pL,AV,DX]
def BT.uR{f}(h:BT w B (S9 g n a) n f){i}(hi:i<n)j(hj:j<11)u p(hp:Dl p=(Dl<|f i).set j u):BT (w.setCell (G g<|i*11+j) u) B (S9 g n a) n<|AV f i p:=by
 have h1:=(X0 h (i*11+j) u).1;grind [Dl,AV,oY]
def AR.rS{v1 v2}(h:AR w c o B (S9 g d.n a) v1 v2 d){i}(hi:i<d.n)j(hj:j<11)u p(hp:Dl p=(Dl<|d.L i).set j u):AR (w.setCell (G g<|i*11+j) u) c o B (S9 g d.n a) v1 v2 {d with L:=AV d.L i p}:=
 h.oZ (.inl rfl) rfl rfl rfl (h.log.uR hi j hj u p hp) (Bi h.ints _ λe=>DW h.log h.ints rfl e) (Bi h.index _ λe=>DW h.log h.index rfl e)
def bO{a b}{p}(c:a.x=b.x)(d:a.X=b.X)(hu:a.used=b.used):(AW hf a k p).X=(AW hf b k p).X/\(AW hf a k p).used=(AW hf b k p).used:=by
 grind [AW,CV]
theorem eR{a b}{x}:∀k,BX a k<x->BX b k<x->(∀i,i<k->(AU a i↔AU b i))->(∀i,i<k->(a.L i).key=(b.L i).key)->(Bn hf a x k).X=(Bn hf b x k).X/\(Bn hf a x k).used=(Bn hf b x k).used:=by
 intro k
 induction k with
 |zero=>intro _ _ _ _;exact⟨rfl,rfl⟩
 |succ k ih=>
  intro f hb hi hk;have c:=Aao (FY a (k:=k) om) f;have d:=Aao (FY b (k:=k) om) hb;obtain⟨e,i2⟩:=ih c d (λi h=>hi i om) λi h=>hk i om;by_cases h:AU a k
  .rw[Fb h,Fb ((hi k om).1 h),hk k om];exact bO ((Dq k c).2.2.2.1.trans (Dq k d).2.2.2.1.symm) e i2
  rw[E8 h,E8 (λh'=>h ((hi k om).2 h'))];exact⟨e,i2⟩
theorem OX{a b}:∀k,(∀i,i<k->(AU a i↔AU b i))->BX a k=BX b k:=by
 intro k
 induction k with
 |zero=>intro _;rfl
 |succ k ih=>
  intro h;have e:=ih λi hi=>h i om;by_cases c:AU a k
  .rw[EL c,EL ((h k om).1 c),e]
  rw[GM c,GM (λh'=>c ((h k om).2 h')),e]
def Eo(c:Dc)(k v:Vl):Dc:={BR c k v with L:=AV c.L c.n ⟨k,v,0⟩}
theorem Ow{c}{v}(h:i<c.n):(Eo c k v).L i=c.L i:=Ai _ _ om
theorem Ig{c}{v}(h:i<c.n):AU (Eo c k v) i↔AU c i:=by
 unfold AU;rw[Ow h];exact Iff.rfl
theorem LZ{c}{v}:¬AU (Eo c k v) c.n:=by
 unfold AU;rw[show(Eo c k v).L c.n=⟨k,v,0⟩from Ao _ _ _];grind [AU,Eo]
theorem LY{c}{v}:BX (Eo c k v) (Eo c k v).n=BX c c.n:=by
 show BX (Eo c k v) (c.n+1)=_;rw[GM LZ];exact OX _ λi hi=>Ig hi
def RY{c}{v}(a:BX c c.n+1<=500):{A1 hf (Eo c k v) 1 with L:=AV c.L c.n ⟨k,v,c.turns+1⟩}=BR (A1 hf c 1) k v:=by
 grind [BX,A1,Eo,AV,BR,LY,CG,Du,Dq,Ct,Bn,E8,LZ,eR,Ig,Ow,OX,Dc.lT]
end Go.Proofs.YtoobllcjfinmoaaGreatDoor
