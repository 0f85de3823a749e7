import Derived.Test.YtkpfgniijbgkoaaGreatDoorSSAG
set_option linter.all false
set_option maxHeartbeats 40000000
set_option maxRecDepth 100000
namespace Go.Proofs.YtkpfgniijbgkoaaGreatDoor
open Go.Proofs.Tryz
open Go.RowKit
attribute [local go_sem] AB Aw CU
variable {Z:Nat->Prop}{w w':Y}{c B0 n lo hi x:Nat}{vN vT vS vU v:V9}{A:Nat->Ad}{s:AE}{f:Nat->Tb}{H:Nat->Hs}
theorem Bg.Fc{w1 X w3:Y}{Bk B'}{F'}{r g3 a}(h:Bg Z w c B0 vN vT vS vU Bk A s)
  (m:Sa B0 w w1) (D:∃W M,CE w1 F' B0 (s.nf+1) B' W M/\∀i,i<s.nf+1->W i=i) (P:B' s.nf=r) (L:∀i,i<s.nf->B' i=Bk i) (o:B9 w1 X) (d:X.grownBy w3 vN.ownBlock)
  (g:w3.ownsRow B0 122 1 (.slice (some<|G g3 0) (s.nf+1) a) (s.nf+1)<|ptrs Bk s.nf++[.pointer (some (G r 0))]) (l:vN.ownBlock=some g3\/w.heap.size<=g3) (E:∀i,i<s.nt->(s.T i).shape=-1\/∃j:Nat,(s.T i).shape=j/\j<s.nf):
  w3.heap[c]?=some (.cells #[vN,vT,vS,vU] 117 (0,0))/\Bg Z (w3.setCell (G c 0)<|.slice (some<|G g3 0) (s.nf+1) a) c B0 (.slice (some<|G g3 0) (s.nf+1) a) vT vS vU B' A {s with nf:=s.nf+1,F:=F'}/\BB (AD B0 c vN vT vS w) w (AD B0 c (.slice (some<|G g3 0) (s.nf+1) a) vT vS<|w3.setCell (G c 0)<|.slice (some<|G g3 0) (s.nf+1) a) (w3.setCell (G c 0)<|.slice (some<|G g3 0) (s.nf+1) a):=by
 obtain⟨W,M,hN,hid⟩:=D;have k1:∀q,q<w.heap.size->(q<B0\/¬Ej 125 w q)->w1.heap[q]?=w.heap[q]?:=λq hq hn=>m.block q hq hn;have k3:∀q,q<w1.heap.size->vN.ownBlock≠some q->w3.heap[q]?=w1.heap[q]?:=λq hq hn=>(d.block q (A0 hq o.size) λe=>hn e.symm).trans<|o.block q hq;have f:∀q,q<w.heap.size->(q<B0\/¬Ej 125 w q)->vN.ownBlock≠some q->w3.heap[q]?=w.heap[q]?:=λq hq hn Q=>(k3 q (A0 hq m.size) Q).trans<|k1 q hq hn;have p:=(f c h.lt (.inr h.GL)<|h.Bc h.n oo).trans h.BH;have v:=(k1 c h.lt<|.inr h.GL).trans h.BH;have B:∀k,k≠c->(w3.setCell (G c 0)<|.slice (some<|G g3 0) (s.nf+1) a).heap[k]?=w3.heap[k]?:=λk hk=>At _ _ _ _ (by exact hk);have H:g3≠c:=λe=>by
  rcases l with h1|h1
  .exact h.Bc h.n oo (e▸h1)
  have:=h.lt;omega
 refine⟨p,h.next ⟨d.os.trans<|o.os.trans m.os,d.tape.trans<|o.tape.trans m.tape,d.output.trans<|o.output.trans m.output⟩ (by have:=o.size;have:=d.size;have:=m.size;simp;omega)
  (λk I hk=>(B k λe=>hk<|.inl e).trans<|f k I ?_ λe=>hk<|.inr<|.inl e) (λk e=>by cases e;exact l) (λ_ e=>.inl e) (λ_ e=>.inl e) ((IH _ _ _ _ _ _ p).trans oq) ?_ ⟨W,M,hN.keep λb hn=>?_,hid⟩ ?_
  (Ae h.si (λq e=>(B q (λe'=>h.Bc h.si oo (e'▸e))).trans (f q (h.si.lt q e).2 (.inr (EM h.si oo e)) (Cv h.si h.n oo e)))) h.u (λi hi=>.inl (h.rd i hi))⟩
 .grind [ptrs,nf,AD]
 .rw[RN L P]at g;exact Ae g λq e=>B q<|by cases e;exact H
 .have hbc:b≠c:=λe=>by
   subst e;rcases hn with⟨x,C⟩|⟨es,x,C⟩
   .rw[v]at C;cases C
   rw[v]at C;cases C
  refine(B b hbc).trans (k3 b (LJ hn) λe=>?_);have K:=EM h.n oo e;have e1:=k1 b (h.n.lt b e).2<|.inr K;grind [ptrs,nf,AD,Ej]
 have e:kL B' A {s with nf:=s.nf+1,F:=F'} s.nt=kL Bk A s s.nt:=Pn (λi hi=>by
  show AX B' (A i) (s.T i)=AX Bk (A i) (s.T i);unfold AX;rcases E i hi with e|⟨j,e,hj⟩
  .rw[DD e,DD e]
  rw[C3 om,C3 om,e,show((j:Int)).toNat=j by omega,L j hj])
 show World.ownsRow _ _ _ _ _ _ (kL B' A {s with nf:=s.nf+1,F:=F'} s.nt);rw[e];exact Ae h.t λq e=>(B q λe'=>h.Bc h.t oo<|e'▸e).trans<|f q (h.t.lt q e).2 (.inr<|EM h.t oo e)<|Cv h.t h.n oo e
def XO(Z:Nat->Prop)(c B0:Nat)(vN vT vS vU:V9)(Bk:Nat->Nat)(A:Nat->Ad)(s:AE)(k:Nat)(key:ByteArray)(w:Y)(e:Ending)(w':Y):Prop:=
 (Es s.nf s.F k key=-1/\e=.returned (.pointer none)/\Bg Z w' c B0 vN vT vS vU Bk A s/\BB (AD B0 c vN vT vS w) w (AD B0 c vN vT vS w') w')\/
 (∃r:Nat,Es s.nf s.F k key=r/\∃a B',e=.returned (Q9<|B' r)/\Bg Z w' c B0 a vT vS vU B' A {s with nf:=Fc s.nf s.F k key,F:=Fb s.nf s.F k key}/\BB (AD B0 c vN vT vS w) w (AD B0 c a vT vS w') w')
def bI{Bk}k key{w}(p:Bg Z w c B0 vN vT vS vU Bk A s)(hf:Ar s.nf s.F=0)(hk:k<s.nf)(K:key.size<=4000)(L:∀i,i<s.nt->(s.T i).shape=-1\/∃j:Nat,(s.T i).shape=j/\j<s.nf):
  C9 137 #[Q9 c,Q9<|Bk k,.string key] w λe w'=>XO Z c B0 vN vT vS vU Bk A s k key w e w':=by
 obtain⟨h1,h2,h3,h4,h5⟩:=Av hf;obtain⟨l,nc,rfl⟩:=Au p.n;rcases p.nd,p.cells.1,h1.2 with⟨⟨X,M,hN,hid⟩,c0,ah⟩;go_enter func137,ntmps137;go_wp2_with fail;refine(z<|O<|Tf w B0 Bk X M hN hid h1 h2 h3 h4 k hk key K).mono ?_;rintro e w1 (⟨j,hj,rfl,hb⟩|⟨m,B,rfl,hb⟩|⟨m,t,D,r,B',N',M',rfl,E,u,C,P,H⟩)
 .have Q:Hid<|∀q,XO Z c B0 (.slice l s.nf nc) vT vS vU Bk A s k key w (.returned<|Q9<|Bk j)<|w1.drewN q:=O (λq=>by
   obtain⟨e1,e2,e3⟩:=Lv h4 (.inl ⟨j,hj,rfl,rfl,rfl⟩);obtain⟨m1,d1⟩:=p.below (w':=w1.drewN q) ⟨hb.os,hb.tape,hb.output,hb.size,hb.block⟩;refine .inr ⟨j,e3.symm,_,Bk,rfl,?_,d1⟩;rw[<-e1,<-e2];exact m1)
  have R:=hj.2.1;obtain⟨m1,d1⟩:=p.below hb;obtain⟨l1,n1,_⟩:=Lc.cell m1.nd R;have y0:=m1.cells.1;have d0:((j:Int)==(s.nf:Int))=false:=ot;go_wp2_with fail
  go_quiet (fail);go_wp2;exact Fs (v:=Q9<|Bk j) (by simp[results,results137,go_sem]) rfl (Q _)
 .have Q:Hid<|∀q,XO Z c B0 (.slice l s.nf nc) vT vS vU Bk A s k key w (.returned<|.pointer none)<|w1.drewN q:=O (λq=>by
   obtain⟨e1,e2,e3⟩:=Lv h4 (.inr (.inl ⟨m,B,rfl,rfl,rfl⟩));obtain⟨m1,d1⟩:=p.below (w':=w1.drewN q) ⟨hb.os,hb.tape,hb.output,hb.size,hb.block⟩;exact .inl ⟨e3.symm,rfl,m1,d1⟩)
  go_wp2_with fail
  go_quiet (fail);go_wp2;exact Fs (v:=.pointer none) (by simp[results,results137,go_sem]) rfl (Q _)
 obtain⟨i0,S,U,V,W⟩:=Ok Yr;have b:=p;have ad:=H.block c p.lt<|.inr b.GL;have y0:w1.cell? (G c 0)=some (.slice l s.nf nc):=by simp[World.cell?,ad.trans b.BH]
 obtain⟨l1,n1,_,_⟩:=DH E u (show s.nf<s.nf+1 by omega);rw[C]at l1 n1;have d0:((s.nf:Int)==(s.nf:Int))=true:=oq;have ai:=GO b.base H.size;have ae:Hid<|∀q o,((w1.drewN q).alloc o).ownsRow B0 122 1 (.slice l s.nf nc) s.nf<|ptrs Bk s.nf:=O (λq o=>by
  have h1:=Ae b.n (λg e=>H.block g (b.n.lt g e).2 (.inr (EM b.n oo e)));exact NX (Ae h1 (w':=w1.drewN q) (λ_ _=>rfl)) o)
 have HF:Hid (∀q g3 d w3,w3.ownsRow B0 122 1 (S9 g3 (s.nf+1) d) (s.nf+1) (ptrs Bk s.nf++[Q9 r])->((w1.drewN q).alloc<|.cells #[Q9 r] 122).grownBy w3 (Value.ownBlock<|.slice l s.nf nc)->(Value.ownBlock (.slice l s.nf nc)=some g3\/g3=w1.heap.size+1)->
   w3.cell? (G c 0)=some (.slice l s.nf nc)/\w3.frozen? (G c 0)=false/\c<w3.heap.size/\XO Z c B0 (.slice l s.nf nc) vT vS vU Bk A s k key w (.returned (Q9 r)) (w3.setCell (G c 0) (S9 g3 (s.nf+1) d))):=O (by
  intro q g3 d w3 a1 a2 a3;have hX:B9 w1<|(w1.drewN q).alloc<|.cells #[Q9 r] 122:=Below.alloc (a:=w1) (w:=w1.drewN q) ⟨rfl,rfl,rfl,Be _,λ_ _=>rfl⟩ (Be _) _;obtain⟨b1,b2,b3⟩:=b.Fc H ⟨N',M',E,u⟩ C P hX a2 a1 (a3.imp id λe=>oT H.size)<|z<|O L;refine⟨by simp[World.cell?,b1],by simp[World.frozen?,b1],Ai b1,.inr ⟨s.nf,?_,_,B',by rw[C],?_,b3⟩⟩
  .obtain⟨e1,e2,e3⟩:=Lv h4<|.inr<|.inr ⟨m,t,D,rfl,rfl,rfl⟩;exact e3.symm
  obtain⟨e1,e2,e3⟩:=Lv h4 (.inr (.inr ⟨m,t,D,rfl,rfl,rfl⟩));rw[<-e1,<-e2];exact b2)
 go_wp2_with fail
 go_quiet (fail);go_wp2_with (at_builtin;refine ON _ rfl _ _ 58 rfl B0 122 i0 (.pointer none) 1 8 underlying58 S U V W rfl oo (.slice l s.nf nc) s.nf (ptrs Bk s.nf) rfl (ae _ _) (y w1 0) 1 1 [Q9 r] rfl rfl (Is<|DO _ _) oh oo od om ot (w1.heap.size+1) oq ?_;intro g3 d w3 f x h ag;obtain⟨x3,f3,l3,I⟩:=z HF _ g3 d w3 f x h;have af:=O I;clear f x h I);exact Fs (v:=Q9 r) (by simp[results,results137,go_sem]) rfl af
open Classical in
def eZ{la:Option Addr}lc{ia:Option Addr}ic{xa:Option Addr}xc{d}{w}(t:BZ w)(hA:FJ w la ia xa d)(r:Small d)(u:M9 d)(hk:BI d (hD d)=0):
  C9 236 #[Dv la lc ia ic xa xc d] w (R9 (J<|Ge d) w):=by
 have D:=r.m;have s:Hid<|Ge d=(QG d:Int):=O<|DD hk;have a:B9 w<|w.alloc<|.cells #[.slice la d.n lc,.slice ia d.m ic,.slice xa d.x xc,J d.used,J d.live,J d.turns] 69:=n9;go_enter func236,ntmps236;go_wp2_with fail;refine m9 (Jm Bb lc ic xc (Bb _ _ t a) (hA.below a) r (λq hq hk=>vE hk ((u) q hq).1)<|z<|O hk) λw1 g=>?_;obtain⟨l,v⟩:=BF g;have E:w1.cell? (y w 1)=some (.slice ia d.m ic):=by rw[l _ _ oq];simp[go_sem]
 have c:=o9 a g;go_wp2_with fail;go_loopw [11] (λi wr=>∃k:Nat,k<=d.m/\i=J k/\TN d.I d.m 0 d.m=TN d.I d.m k (d.m-k)/\wr=w1) λi _=>d.m-(intOf i).toNat
 .exact⟨0,om,rfl,rfl,rfl⟩
 obtain⟨k,hk,rfl,hz,o⟩:=hrel;rw[o];have p:=O hz;by_cases e:k<d.m
 .obtain⟨b,off,rfl,A,hcs⟩:=(z<|O (hA.below c).ints).resolve_left om;have e0:=hcs k e;by_cases j:d.I k=0
  .have f:Hid<|Ge d=(k:Int):=O<|s.trans<|congrArg Int.ofNat<|p.trans<|eM j e;rw[j]at e0;go_wp2;go_ret;exact⟨ql f,c⟩
  have B:=O<|p.trans<|eL j e;have C:(d.I k==0)=false:=by simp[j]
  go_wp2;go_roundw
  .exact⟨k+1,om,ov,B,trivial⟩
  exact ow
 have h:k=d.m:=om;have f:Hid<|Ge d=(d.m:Int):=O<|s.trans<|congrArg Int.ofNat<|p.trans (by rw[h,Nat.sub_self];rfl);go_wp2;go_ret;exact⟨ql f,c⟩
def cO(f:Nat->Si)(n:Nat)(w:Y)(v:V9)(lo hi:Nat):Prop:=
 (n=0/\v=N9)\/∃b cp Z g,v=S9 b n cp/\lo<=b/\b<hi/\w.rowIs b 57 Z g/\n*5<=Z/\∀j,j<n*5->g j=YN f j
def cO.keep{f}(h:cO f n w v lo hi)(hk:∀b,v.ownBlock=some b->w'.heap[b]?=w.heap[b]?):cO f n w' v lo hi:=by
 rcases h with h|⟨b,cp,Z,g,rfl,h2,h3,h4,h5,a⟩
 .exact .inl h
 exact .inr ⟨b,cp,Z,g,rfl,h2,h3,TO h4<|hk b rfl,h5,a⟩
theorem cO.at{f}(h:cO f n w v lo hi):∃a cp,v=.slice a n cp/\Lh w a n f:=by
 rcases h with⟨c,rfl⟩|⟨b,cp,Z,g,h1,h2,h3,h4,h5,d⟩
 .subst c;exact⟨_,_,rfl,.inl rfl⟩
 exact⟨_,_,h1,.inr ⟨b,0,rfl,RC h4,λi hi=>by rw[X9];exact sZ h4 h5 d hi⟩⟩
def GV.LB{f}(h:GV f n w v lo hi)(hk:∀b,v.ownBlock=some b->w'.heap[b]?=w.heap[b]?):GV f n w' v lo hi:=by
 rcases h with h|⟨a,b,cp,rfl,h2,h3,h4⟩
 .exact .inl h
 exact .inr ⟨a,b,cp,rfl,h2,h3,h4.of_block<|hk b rfl⟩
def kQ(lo hi:Nat)(w:Y)(v:V9)(n:Nat)(f:Nat->Tb)(H:Nat->Hs):Prop:=
 (n=0/\v=N9)\/∃b cp Z g,v=S9 b n cp/\lo<=b/\b<hi/\w.rowIs b 71 Z g/\n*8<=Z/\(∀i,i<n->pF lo hi w b (i*8) (H i) (f i))/\uI b n H
def kQ.keep(h:kQ lo hi w v n f H)(hk:∀b,v.ownBlock=some b->w'.heap[b]?=w.heap[b]?)(a:∀i q,i<n->(H i).own q->w'.heap[q]?=w.heap[q]?):kQ lo hi w' v n f H:=by
 rcases h with h|⟨b,cp,Z,g,rfl,h2,h3,h4,h5,c,d⟩
 .exact .inl h
 exact .inr ⟨b,cp,Z,g,rfl,h2,h3,TO h4<|hk b rfl,h5,λi hi=>(c i hi).keep (λq hq=>a i q hi hq) λj _=>As<|hk b rfl,d⟩
theorem kQ.at(h:kQ lo hi w v n f H):∃a cp,v=.slice a n cp/\cR w a n f:=by
 rcases h with⟨c,rfl⟩|⟨b,cp,Z,g,rfl,h2,h3,h4,h5,d,e⟩
 .subst c;exact⟨_,_,rfl,.inl rfl⟩
 exact⟨_,_,rfl,.inr ⟨b,0,rfl,RC h4,λi hi=>by rw[X9];exact(d i hi).at⟩⟩
theorem GV.at{f}(h:GV f n w v lo hi):∃a cp,v=.slice a n cp/\TX w a n f:=by
 rcases h with⟨c,rfl⟩|⟨c,b,cp,rfl,h2,h3,h4⟩
 .subst c;exact⟨_,_,rfl,.inl rfl⟩
 exact⟨_,_,rfl,h4.at⟩
theorem GV.own{f}(h:GV f n w v lo hi){q}(e:v.ownBlock=some q):lo<=q/\q<hi/\q<w.heap.size:=by
 rcases h with⟨a,rfl⟩|⟨a,b,cp,rfl,h2,h3,h4⟩
 .cases e
 cases e;exact⟨h2,h3,h4.lt⟩
theorem cO.own{f}(h:cO f n w v lo hi){q}(e:v.ownBlock=some q):lo<=q/\q<hi/\q<w.heap.size:=by
 rcases h with⟨a,rfl⟩|⟨b,cp,Z,g,rfl,h2,h3,h4,h5,c⟩
 .cases e
 cases e;exact⟨h2,h3,RC h4⟩
theorem kQ.own(h:kQ lo hi w v n f H){q}(e:v.ownBlock=some q):lo<=q/\q<hi/\q<w.heap.size:=by
 rcases h with⟨a,rfl⟩|⟨b,cp,Z,g,rfl,h2,h3,h4,h5,c,d⟩
 .cases e
 cases e;exact⟨h2,h3,RC h4⟩
theorem kQ.row(h:kQ lo hi w v n f H){i q}(a:i<n)(e:(H i).own q):lo<=q/\q<hi/\q<w.heap.size:=by
 rcases h with⟨d,rfl⟩|⟨b,cp,Z,g,rfl,h2,h3,h4,h5,c,j⟩
 .omega
 have:=(c i a).lt e;exact⟨this.2.1,this.2.2,this.1⟩
structure XS (lo hi:Nat) (w:Y) (vF vT vS:V9) (s:AE) (H:Nat->Hs):Prop where
 f:GV s.F s.nf w vF lo hi
 t:kQ lo hi w vT s.nt s.T H
 si:cO s.S s.ns w vS lo hi
 ft:∀q,vF.ownBlock=some q->vT.ownBlock≠some q
 fs:∀q,vF.ownBlock=some q->vS.ownBlock≠some q
 fr:∀q i,vF.ownBlock=some q->i<s.nt->¬(H i).own q
 st:∀q,vS.ownBlock=some q->vT.ownBlock≠some q
 sr:∀q i,vS.ownBlock=some q->i<s.nt->¬(H i).own q
def XS.keep{vF}(h:XS lo hi w vF vT vS s H)(hk:∀q,lo<=q->q<hi->q<w.heap.size->w'.heap[q]?=w.heap[q]?):XS lo hi w' vF vT vS s H:=
 ⟨h.f.LB λq e=>hk q (h.f.own e).1 (h.f.own e).2.1 (h.f.own e).2.2,h.t.keep (λq e=>hk q (h.t.own e).1 (h.t.own e).2.1 (h.t.own e).2.2) λi q hi e=>hk q (h.t.row hi e).1 (h.t.row hi e).2.1 (h.t.row hi e).2.2,h.si.keep λq e=>hk q (h.si.own e).1 (h.si.own e).2.1 (h.si.own e).2.2,h.ft,h.fs,h.fr,h.st,h.sr⟩
structure kO (w:Y) (a ta sa:T9) (s:AE):Prop where
 f:TX w a s.nf s.F
 t:cR w ta s.nt s.T
 si:Lh w sa s.ns s.S
def kO.below{a ta sa:Option Addr}(h:kO w a ta sa s)(hb:B9 w w'):kO w' a ta sa s:=⟨h.f.below hb rfl,h.t.below hb rfl,h.si.below hb rfl⟩
def bP(h:fz x=true):∃s i,Ieee.double.read x=.number s 0 i:=by
 have h':(Ieee.double.order x 0==some .eq)=true:=h;rcases Fl.CB x with⟨s,m,i,a,hi,c,d,_⟩|⟨s,a⟩|⟨s,t,a⟩
 .rw[Fl.BR a Fl.CD hi om,Fl.G0,Fl.EA]at h';have b:Fl.sc s m i=0:=by simpa using h'
  unfold Fl.sc at b;rw[Fl.DN]at b;have hp:=Fl.Gp (i+1074).toNat;have:m=0:=by
   generalize (2:Int)^(i+1074).toNat=u at b hp;have h1:(m:Int)*u=0:=by
    cases s
    .simpa using b
    simpa using b
   rcases Int.mul_eq_zero.1 h1 with h|h<;>omega
  subst this;exact⟨s,i,a⟩
 .exfalso;unfold Ieee.Format.order at h';rw[a,Fl.CD]at h';cases s<;>simp[Ieee.Datum.order]at h'
 exfalso;unfold Ieee.Format.order at h';rw[a]at h';simp[Ieee.Datum.order]at h'
def aF(h:fz x=true):∃r,floatBits .quo .f64 4607182418800017408 x=some r/\(O9 r r==some .eq)=true:=by
 obtain⟨s,i,a⟩:=bP h;refine⟨Ieee.double.write<|.infinity<|false^^s,?_,?_⟩
 .show((Ieee.double.read 4607182418800017408).quotient _<|Ieee.double.read x).map Ieee.double.write=_;rw[a,Fl.Vi];simp[Ieee.Datum.quotient]
 cases s<;>decide
def bL(kind num)(Ah)(s)(ref)(w:Y):
  C9 33 #[V kind num Ah s ref,V kind num Ah s ref] w (R9 (.bool true) w):=by
 by_cases h1:C1 Ah=true
 .have g1:(O9 Ah Ah !=some .eq)=true:=h1;clear h1;go_enter func33,ntmps33;go_wp2;go_ret;exact⟨rfl,(n9).alloc oq _⟩
 have g1:(O9 Ah Ah !=some .eq)=false:=(by simpa using h1:C1 Ah=false);have g2:(O9 Ah Ah==some .eq)=true:=by simpa using g1
 by_cases h2:fz Ah=true
 focus
  have g3:(O9 Ah 0!=some .eq)=false:=by
   have:(O9 Ah 0==some .eq)=true:=h2;simpa using this
  obtain⟨r,a,g4⟩:=aF h2;have hq:∀w:World,(binOp .quo 30 (F9 4607182418800017408)<|F9 Ah).run prog w=.ok (F9 r) w:=λw=>AaA w .quo 30 .f64 _ _ r a;clear h1 h2 a
 rotate_left
 focus
  have g3:(O9 Ah 0!=some .eq)=true:=by
   have:(O9 Ah 0==some .eq)=false:=(by simpa using h2:fz Ah=false);simpa using this
  clear h1 h2
 all_goals
  go_enter func33,ntmps33;go_wp2;go_ret;exact⟨rfl,(n9).alloc oq _⟩
end Go.Proofs.YtkpfgniijbgkoaaGreatDoor
