import Derived.Test.YtoobllcjfinmoaaGreatDoorSDAE
set_option linter.all false
set_option maxHeartbeats 40000000
set_option maxRecDepth 100000
namespace Go.Proofs.YtoobllcjfinmoaaGreatDoor
open Go.Proofs.Tryz
open Go.RowKit
attribute [local go_sem] Ar Am C5
variable {c d:Dc}{n bk R2 a i n0 k b b' x j lo hi B Z H o s B0:Nat}{v r0 r1 v0 v1 v2 u vN vT vS vU:V9}{K:Vl->Prop}{hf:Vl->Nat}{E S:Nat->Nat}{w W W' w3 w' wr:Y}{f:Nat->Int}{p:Pr}{T:World->Prop}{t:Tb}{g:Nat->Value}{A:Nat->Ad}{la a':Option Addr}
def kO{v}:∀(f a),probe {c with n:=n} v a f=probe c v a f:=by
 intro f
 induction f with
 |zero=>intro a;rfl
 |succ f ih=>intro a;unfold probe;rw[ih]
def fG c n v a:A5 {c with n:=n} v a=A5 c v a:=by
 unfold A5;show _=_;simp only[kO]
def D4.cut(h:BN K hf c)(hn:c.n=n+1)(hs:Ay c.m (c.L n).key):D4 {c with n:=n}:=by
 obtain⟨h1,h2,h3,h4⟩:=h.d4;refine⟨h1,λj hj=>?_,?_,?_⟩
 .rcases h.idx.range j hj with e|e|⟨e1,e2,e3,a⟩
  .exact .inl e
  .exact .inr (.inl e)
  have b:(c.X j-1).toNat≠n:=λe=>a (by rw[e];exact hs);exact .inr<|.inr ⟨e1,by show c.X j<=(n:Int);omega,e3,a⟩
 all_goals grind [Ay,D4,Fy]
def aN(bk R2 x s b e:Nat)(W:Y):Prop:=W.cell? (G bk 3)=some (S9 R2 x x)/\W.cell? (G R2 s)=some (Q9 b)/\W.cell? (G b 5)=some (Q9 e)
def I4 s{w}(a:AG w bk r0 r1 R2 E S d)(c:Small d)(hs:s<d.x):
  C9 213 #[.pointer (some<|G bk 2),J s] w λe w'=>((∃u,e=.returned u)/\∃S',AG w' bk r0 r1 R2 E S' {d with X:=AU d.X s (-1)})/\KX (λb=>b=R2) bk w w':=by
 rcases c.x,a.lt,a.c3,a.Ph with⟨m,i,c3,f⟩;have j:=f.2;obtain⟨g,o,e,_,_,_,hc,hf⟩:=a.slots.form om;cases e;have d0:=hc s hs;have f0:=hf s;have k:=O<|a.Uz hs (x:=-1) oo ⟨λh=>om,λ_=>rfl⟩;have l:Hid<|KX (λb=>b=R2) bk w<|(w.setCell (G R2 s)<|Q9 w.heap.size).alloc<|.cells XI 306:=O<|KX.alloc (n:=bk) (A:=w) ((KX.refl (λb=>b=R2) _ _).setCell om (λ_=>rfl) _) om _;clear a c hc hf f;go_enter func213,ntmps213;go_wp2;go_end0;exact⟨⟨⟨_,rfl⟩,_,k⟩,l⟩
structure aA (K:Vl->Prop) (hf:Vl->Nat) (w:Y) (bk:Nat) (r0 r1:V9) (R2:Nat) (E:Nat->Nat) (d D1:Dc) (c:Dc) (f:Nat) (a:V9) (S:Nat->Nat) (W:Y):Prop where
 inv:BN K hf c
 n:c.n=d.n+1
 L:c.L=d.L
 x:c.x=d.x
 m:d.m+1<=c.m
 pos:FJ c.X c.x<f
 mv:CP hf f c=CP hf (d.x+1) D1
 sum:c.m+FJ c.X c.x<=d.m+1+d.x
 bm:AG W bk r0 a R2 E S {c with n:=d.n}
 kx:KX (λb=>b=bk\/r1.ownBlock=some b\/b=R2) bk w W
 row:∀b,a.ownBlock=some b->r1.ownBlock=some b\/w.heap.size<=b
def aA.below{D1}{f}{a}(h:aA K hf w bk r0 r1 R2 E d D1 c f a S W)(hb:B9 W W')(b:bk<w.heap.size):aA K hf w bk r0 r1 R2 E d D1 c f a S W':=
 ⟨h.inv,h.n,h.L,h.x,h.m,h.pos,h.mv,h.sum,h.bm.below hb,h.kx.trans<|KX.Ax hb<|oS h.bm.lt,h.row⟩
def aA.step(p:KeyLaw K hf){w}{bk}{r0 r1}{R2}{E}{d D1 c}{f}{a g}{S S'}{W k j}{s}(h:aA K hf w bk r0 r1 R2 E d D1 c f a S W)(e:A5 c (Dq<|(c.m:Int)+1) (hf<|Dq<|(c.m:Int)+1)=some s)
  (k1:KX (λb=>b=bk\/a.ownBlock=some b) bk W k) (u:∀b,g.ownBlock=some b->a.ownBlock=some b\/W.heap.size<=b) (k2:KX (λb=>b=R2) bk k j) (q:AG j bk r0 g R2 E S' {c with m:=c.m+1,I:=AU c.I c.m (c.X s),X:=AU c.X s (-1),n:=d.n}) (r:bk<w.heap.size):∃f',aA K hf w bk r0 r1 R2 E d D1 (DT c s) f' g S' j:=by
 obtain⟨s1,s2,v,A⟩:=h.inv.slot e;obtain⟨f',rfl⟩:∃f',f=f'+1:=⟨f-1,oS h.pos⟩;have hp:=Ku s2 c.x;rw[C3 s1]at hp;rcases h.pos,h.sum,h.m,h.kx.CX.size,k1.CX.size with⟨l,o,B,hz,t⟩;refine⟨f',L0 p h.inv e,h.n,h.L,h.x,by show d.m+1<=c.m+1;omega,by show FJ (AU c.X s (-1)) c.x<f';omega,by rw[<-h.mv,F8 e],by show c.m+1+FJ (AU c.X s (-1)) c.x<=_;omega,q,⟨h.kx.CX.trans<|k1.CX.trans k2.CX,λb hb i=>?_⟩,λb hb=>?_⟩
 .refine(k2.Bw b om λe=>i<|.inr<|.inr e).trans ((k1.Bw b om λe=>?_).trans<|h.kx.Bw b hb i);grind [A5,Dq,AU,DT,aA.row,AG.row]
 grind [A5,Dq,AU,DT,aA.row,AG.row]
def NW(T)(b0:En T)(hf)(K)(KL:KeyLaw K hf)(b1:∀v,K v->PW T v (hf v))(bk)(b2:∀w w',T w->Below bk w w'->T w')(r0 r1)(R2)(E S)(d)(w)(hT:T w)(hM:AG w bk r0 r1 R2 E S d)(hS:Small d)(cg:d.m<=4000000)
  (b3:(d.L d.n).key.kind=2) (Dt:(d.L d.n).key.num=(d.m:Int)+1) (hI:BN K hf {d with n:=d.n+1,m:=d.m+1,I:=AU d.I d.m ((d.n:Int)+1)}):
  C9 217 #[.pointer (some<|G bk 0),.pointer (some<|G (E d.n) 0)] w λe w'=>((∃u,e=.returned u)/\∃b4 S',AG w' bk r0 b4 R2 E S' {CP hf (d.x+1) {d with n:=d.n+1,m:=d.m+1,I:=AU d.I d.m ((d.n:Int)+1)}with n:=d.n})/\KX (λb=>b=bk\/r1.ownBlock=some b\/b=R2) bk w w':=by
 obtain⟨i0,a6,a7,a8,bb⟩:=ON Jz;obtain⟨D1,C⟩:∃D1:Dc,D1={d with n:=d.n+1,m:=d.m+1,I:=AU d.I d.m ((d.n:Int)+1)}:=⟨_,rfl⟩;rw[<-C]at hI ⊢;have ch:d.x<=4000:=by
  have:=hI.sz;rw[C]at this;rcases this with h|h
  .have h:d.x=0:=h;omega
  exact h.2.1
 obtain⟨Q1,q1,rfl⟩:=hM.rf;rcases hM.lt,hM.c1,hM.fz 1,O hM.ints,(hM.ints.lt Q1 rfl).1 with⟨ar,c1,f1,bg,cj⟩;have aw:∀(W:Y) (c:Dc) (f:Nat) (Q:V9) (S':Nat->Nat),aA K hf w bk r0 (.slice (some<|G Q1 0) d.m q1) R2 E d D1 c f Q S' W->(∀w',B9 W w'->C9 216 #[.pointer (some<|G bk 0)] w' λe bc=>e=.returned (V 2 ((c.m:Int)+1) 0 ⟨#[]⟩ 0)/\B9 w' bc)/\
   (∀w',B9 W w'->C9 207 #[.pointer (some<|G bk 2),V 2 ((c.m:Int)+1) 0 ⟨#[]⟩ 0] w' λe bc=>e=.returned (J<|FF<|A5 c (Dq<|(c.m:Int)+1)<|hf<|Dq<|(c.m:Int)+1)/\B9 w' bc):=λW c f Q S' h=>by
  have bh:Small {c with n:=d.n}:=⟨hS.n,by show c.m<=_;have:=h.sum;omega,by show c.x<=_;rw[h.x];omega⟩;refine⟨λw' j=>?_,λw' j=>?_⟩
  .obtain⟨R0,D,hB⟩:=(h.bm.below j).book;exact I7 bk R0 D R2 E S' {c with n:=d.n} w' hB bh
  obtain⟨R0,D,hB⟩:=(h.bm.below j).book;have h4:=D4.cut h.inv h.n ⟨by rw[h.L];exact b3,by rw[h.L,Dt];omega,by rw[h.L,Dt];have:=h.m;omega⟩;have:=Od T b0 bk R0 D R2 E S' {c with n:=d.n} (Dq<|(c.m:Int)+1) (hf<|Dq<|(c.m:Int)+1) (b1 _<|KL.own _) w' (b2 _ _ hT<|h.kx.CX.trans<|j.mono<|oS h.bm.lt) hB bh h4;rw[fG]at this;exact this
 have t:=O aw;have START:∀(o:Obj) (g3 g:Nat) (w3:Y),w3.ownsRow (bk+1) Df 1 (.slice (some<|G g3 0) (d.m+1) g) (d.m+1) (GN (λi=>CG E<|d.I i) d.m++[.pointer (some (G (E d.n) 0))])->(w.alloc o).grownBy w3 (Value.slice (some<|G Q1 0) d.m q1).ownBlock->((Value.slice (some<|G Q1 0) d.m q1).ownBlock=some g3\/g3=w.heap.size+1)->
   w3.cell? (G bk 1)=some (.slice (some<|G Q1 0) d.m q1)/\w3.frozen? (G bk 1)=false/\bk<w3.heap.size/\aA K hf w bk r0 (.slice (some<|G Q1 0) d.m q1) R2 E d D1 D1 (d.x+1) (.slice (some<|G g3 0) (d.m+1) g) S (w3.setCell (G bk 1)<|.slice (some<|G g3 0) (d.m+1) g):=λo g3 g w3 h1 h2 h3=>by
  have hn:(Value.slice (some<|G Q1 0) d.m q1).ownBlock≠some bk:=λe=>by
   have e':Q1=bk:=oF e;omega
  have hb:=(h2.block bk ot λe=>hn e.symm).trans<|DO _ _ _ ar;obtain⟨p1,p2⟩:=hM.mD ((BE _ _).alloc (Be _) o) (o:=o) (x:=(d.n:Int)+1) (by unfold CG;rw[C3 om,show((d.n:Int)+1-1).toNat=d.n by omega]) h1 h2 (by rcases h3 with h3|h3;exact .inl h3;exact .inr om);have hz:w.heap.size+1<=w3.heap.size:=by have:=h2.size;simpa using this
  refine⟨(As (a:=G bk 1) hb).trans c1,(ID (a:=G bk 1) hb).trans f1,om,hI,by rw[C],by rw[C],by rw[C],by rw[C];exact Be _,?_,rfl,?_,?_,p2.mono λb _ e=>e.elim .inl λe=>.inr<|.inl e,λb e=>?_⟩
  .rw[C];have:=Nx d.X d.x;show FJ d.X d.x<d.x+1;omega
  .rw[C];have:=Nx d.X d.x;show d.m+1+FJ d.X d.x<=d.m+1+d.x;omega
  .rw[C];exact p1
  rcases h3 with h3|h3
  .have e':g3=b:=oF e;rw[<-e'];exact .inl h3
  have e':g3=b:=oF e;exact .inr om
 have aq:=O START;clear hM hT START aw hI C;go_enter func217,ntmps217;go_wp2_with (at_builtin;refine RC _ rfl _ _ 296 rfl (bk+1) Df i0 (.pointer none) 1 8 underlying296 a6 a7 a8 bb rfl oo (.slice (some<|G Q1 0) d.m q1) d.m (GN (λi=>CG E<|d.I i) d.m) rfl (OR bg _) (y w 0) 1 1 [.pointer (some (G (E d.n) 0))] rfl rfl (Is<|DD _ _) oh oo od om ot (w.heap.size+1) oq ?_;intro g3 g w3 k A l ah;obtain⟨x3,f3,l3,bj⟩:=z aq _ g3 g w3 k A l;have F:=O bj;clear k A l bj);generalize hW:w3.setCell (G bk 1) (.slice (some<|G g3 0) (d.m+1) g)=W at*;have b5:bk<W.heap.size:=by rw[<-hW];simpa using l3
 have M:=O<|(t _ _ _ _ _ F).1;have P:=O<|(t _ _ _ _ _ F).2;clear hW x3 f3 l3 c1 f1 ah;refine qr W ?_;(iterate 4 refine N (h:=?_));refine GC λK hK=>?_;go_simp;refine⟨_,λw' j=>qk j<|M _ j,hK _ ?_⟩;clear hK K;refine GC λK hK=>?_;go_simp;refine⟨_,λw' j=>qk j<|P _ j,hK _ ?_⟩;clear hK K;refine N (h:=?_);refine GS ?_;intro w4 bn;have bp:=F.below bn ar;clear bn M P F b5;go_wp2_with fail;go_loopw [4] (λi wr=>∃(c:Dc) (f:Nat) (Q:V9) (S':Nat->Nat),i=J (FF<|A5 c (Dq<|(c.m:Int)+1)<|hf<|Dq<|(c.m:Int)+1)/\aA K hf w bk r0 (.slice (some<|G Q1 0) d.m q1) R2 E d D1 c f Q S' wr) λ_ wr=>d.m+2+d.x-Qe wr bk 1
 .exact⟨D1,d.x+1,_,S,rfl,bp⟩
 clear bp;obtain⟨c,f,Q,S',rfl,hN⟩:=hrel;cases au:A5 c (Dq<|(c.m:Int)+1) (hf<|Dq<|(c.m:Int)+1)with
 |none=>
  have HR:Hid<|{CP hf (d.x+1) D1 with n:=d.n}={c with n:=d.n}:=O (by rw[<-hN.mv,F7 au]);clear au;rw[show FF none=-1 from rfl];go_wp2;go_end0;exact⟨⟨⟨_,rfl⟩,Q,S',by rw[z HR];exact hN.bm⟩,hN.kx⟩
 |some s=>
  obtain⟨s1,s2,s3,s4⟩:=hN.inv.slot au;obtain⟨D,k1,e1⟩:=hN.bm.rf;have e1:Q=.slice (some<|G D 0) c.m k1:=e1;subst e1;have r:=hN.bm;have bq:=r.c1;have b6:=r.fz 1;have bd:wr.cell? (G bk 3)=some (.slice (some<|G R2 0) c.x c.x):=r.c3;rcases r.lt,Nr bq,r.ints.lt D rfl,r.Ph with⟨av,az,b7,br⟩;obtain⟨_,_,es,_,_,_,bt,_⟩:=r.slots.form (by show 0<c.x;omega);cases es;rcases (bt s s1).trans (by show some (Value.pointer<|DB S' s<|c.X s)=_;rw[show DB S' s (c.X s)=some (G (S' s) 0)from Cs om]),(r.sl s s1).1 s2,o9 ((c.X s-1).toNat) with⟨p0,ax,⟨q,hq⟩⟩;have ad:Iy wr (S' s) (c.L q).key<|E q:=by rw[hq];exact ax
  have p5:=ad.pt;have bf:=ad.lt;rcases r.sg s s1 (by show c.X s≠0;omega),r.ints.block (b:=D) rfl,r.slots.block (b:=R2) rfl with⟨ck,⟨cl,ai⟩,⟨cm,ay⟩⟩;have n1:D≠R2:=λe=>Br (e▸ai) ay oo;have n2:D≠S' s:=λe=>Br (e▸ai) ad.ob oo;rcases br.2,hN.sum,hN.x with⟨aj,cd,b8⟩;have bu:Rw wr.drew (bk+1) Df (.slice (some<|G D 0) c.m k1) c.m λi=>CG E<|c.I i:=CD r.ints λ_ _=>rfl;have R:aN bk R2 c.x s (S' s) (E q) wr.drew:=⟨bd,p0,p5⟩;have ae:Hid (∀(o:Obj) (g3 g:Nat) (w3:Y),w3.ownsRow (bk+1) Df 1 (.slice (some<|G g3 0) (c.m+1) g) (c.m+1) (GN (λi=>CG E<|c.I i) c.m++[.pointer (some (G (E q) 0))])->(wr.drew.alloc o).grownBy w3 (Value.slice (some<|G D 0) c.m k1).ownBlock->((Value.slice (some<|G D 0) c.m k1).ownBlock=some g3\/g3=(wr.drew.alloc o).heap.size)->
    aN bk R2 c.x s (S' s) (E q) w3/\w3.cell? (G bk 1)=some (.slice (some (G D 0)) c.m k1)/\w3.frozen? (G bk 1)=false/\bk<w3.heap.size/\(AG (w3.setCell (G bk 1) (.slice (some (G g3 0)) (c.m+1) g)) bk r0 (.slice (some (G g3 0)) (c.m+1) g) R2 E S' {c with n:=d.n,m:=c.m+1,I:=AU c.I c.m (c.X s)}/\KX (λb=>b=bk\/(Value.slice (some (G D 0)) c.m k1).ownBlock=some b) bk wr (w3.setCell (G bk 1) (.slice (some (G g3 0)) (c.m+1) g))/\∀b,(Value.slice (some (G g3 0)) (c.m+1) g).ownBlock=some b->(Value.slice (some (G D 0)) c.m k1).ownBlock=some b\/wr.heap.size<=b)):=O (λo g3 g w3 h1 h2 h3=>by
   have hB:∀b,b<wr.heap.size->D≠b->w3.heap[b]?=wr.heap[b]?:=λb hb b9=>(h2.block b ot (λe=>b9 (by
    have e':b=D:=oF e;exact e'.symm))).trans (DO _ _ _ hb)
   have hz:wr.heap.size+1<=w3.heap.size:=by have:=h2.size;simpa using this
   obtain⟨p1,p2⟩:=r.mD ((BE _ _).drew.alloc (Be _) o) (o:=o) (x:=c.X s) (a:=some<|G (E q) 0) (by unfold CG;rw[C3 s2,hq]) h1 h2 (by rcases h3 with h3|h3;exact .inl h3;exact .inr<|by rw[h3];simp);refine⟨⟨(As (a:=G bk 3)<|hB bk av om).trans bd,(As (a:=G R2 s)<|hB R2 aj n1).trans p0,(As (a:=G (S' s) 5)<|hB _ bf n2).trans p5⟩,(As (a:=G bk 1)<|hB bk av om).trans bq,(ID (a:=G bk 1)<|hB bk av om).trans b6,om,p1,p2,λb e=>?_⟩;have e':g3=b:=oF e;rcases h3 with h3|h3
   .rw[<-e'];exact .inl h3
   exact .inr (by rw[<-e',h3];simp))
  have af:Hid (∀(g3 g:Nat) (w3:Y),(AG (w3.setCell (G bk 1)<|.slice (some<|G g3 0) (c.m+1) g) bk r0 (.slice (some<|G g3 0) (c.m+1) g) R2 E S' {c with n:=d.n,m:=c.m+1,I:=AU c.I c.m (c.X s)}/\KX (λb=>b=bk\/(Value.slice (some<|G D 0) c.m k1).ownBlock=some b) bk wr (w3.setCell (G bk 1)<|.slice (some<|G g3 0) (c.m+1) g)/\∀b,(Value.slice (some<|G g3 0) (c.m+1) g).ownBlock=some b->(Value.slice (some<|G D 0) c.m k1).ownBlock=some b\/wr.heap.size<=b)->
    C9 213 #[.pointer (some (G bk 2)),J (s:Int)] (w3.setCell (G bk 1) (.slice (some (G g3 0)) (c.m+1) g)) λe w6=>(∃u,e=.returned u)/\∃f6 S6,aA K hf w bk r0 (.slice (some (G Q1 0)) d.m q1) R2 E d D1 (DT c s) f6 (.slice (some (G g3 0)) (c.m+1) g) S6 w6/\Qe w6 bk 1=c.m+1):=O (λg3 g w3 h=>by
   refine(I4 s h.1 ⟨hS.n,by show c.m+1<=_;omega,by show c.x<=_;omega⟩ s1).mono ?_;rintro e w6 ⟨⟨hu,S6,bw⟩,ca⟩;obtain⟨f6,cb⟩:=hN.step KL au h.2.1 h.2.2 ca bw ar;exact⟨hu,f6,S6,cb,Nr bw.c1⟩)
  clear r au bt ax ad hq s2 s3 s4 b7 br ai ay p0 p5 bd b8;rw[show FF (some s)=(s:Int)from rfl];go_wp2_with fail;refine Gq (aN bk R2 c.x s (S' s)<|E q) ?_;refine tz 0 (h:=tz 1 (h:=tz 2 (h:=tz 3 (h:=tz 5 (h:=tz 6 (h:=tz 7 (h:=tz 8 (h:=tz 9 (h:=tz 10 (h:=tz 11 (h:=tz 12 (h:=?_))))))))))));refine tz 13 (h:=tz 14 (h:=tz 15 (h:=?_)));refine TO (rs:=[4,16]) ou oq ?_;refine IH rfl (λK hK=>?_) (IH rfl (λK hK=>?_) SO)
  focus
   go_simp;refine hK.out _ _ R λ_=>?_;clear hK K;refine ry 16 λK hK=>?_;go_simp;refine hK.out _ _ ⟨(BE wr.heap.size wr).drew.alloc (Be _) _ |>.cell (p:=G bk 3) av |>.trans R.1,(BE wr.heap.size wr).drew.alloc (Be _) _ |>.cell (p:=G R2 s) aj |>.trans R.2.1,(BE wr.heap.size wr).drew.alloc (Be _) _ |>.cell (p:=G (S' s) 5) bf |>.trans R.2.2⟩ λbx=>?_;clear hK K;refine ry 17 λK hK=>?_;refine To _ rfl (.tmp 33) (.tmp 45) 296 rfl (bk+1) Df i0 (.pointer none) 1 8 underlying296 a6 a7 a8 bb rfl oo (.slice (some<|G D 0) c.m k1) c.m (GN (λi=>CG E<|c.I i) c.m) og (OR bu _) (y wr 0) 1 1 [.pointer (some (G (E q) 0))] og rfl (Is<|DD _ _) oh oo od om ot _ rfl ?_;intro g3 g w3 k A l ah;obtain⟨U,x3,f3,aM,F⟩:=z ae _ g3 g w3 k A l;clear k A l;refine hK.out _ _ U λak=>?_;clear hK K;refine tz 18 (h:=tz 19 (h:=?_));refine ry 20 λK hK=>?_;go_simp;refine hK.out _ _ ?_ (λ_=>?_)
   .obtain⟨a1,a2,a3⟩:=U;exact⟨(Aa oo).trans a1,(Al om).trans a2,(Al om).trans a3⟩
   clear hK K;refine Fj ?_;go_wp2_with fail;refine(af g3 g w3 F).mono ?_;rintro e w6 ⟨⟨cc,rfl⟩,f6,S6,H,B⟩;rcases O ((t _ _ _ _ _ H).1),O<|(t _ _ _ _ _ H).2,O H with⟨M,P,ao⟩;clear H F x3 f3 U ak;go_wp2_with fail;refine qr w6 ?_;(iterate 4 refine N (h:=?_));refine GC λK hK=>?_;go_simp;refine⟨_,λw' j=>qk j<|M _ j,hK _ ?_⟩;clear hK K;refine GC λK hK=>?_;go_simp;refine⟨_,λw' j=>qk j<|P _ j,hK _ ?_⟩;clear hK K;refine N (h:=?_);refine GS ?_;intro w7 Z;have bz:=ao.below Z ar;have ag:Qe w7 bk 1=c.m+1:=by rw[<-B];unfold Qe;rw[Z.cell (p:=G bk 1) (z ao).bm.lt]
   clear Z M P ao B
  rotate_left
  focus
   go_simp;refine hK.out _ _ ⟨(BE wr.heap.size wr).drew.alloc (Be _) _ |>.cell (p:=G bk 3) av |>.trans R.1,(BE wr.heap.size wr).drew.alloc (Be _) _ |>.cell (p:=G R2 s) aj |>.trans R.2.1,(BE wr.heap.size wr).drew.alloc (Be _) _ |>.cell (p:=G (S' s) 5) bf |>.trans R.2.2⟩ λbx=>?_;clear hK K;refine ry 4 λK hK=>?_;go_simp;refine hK.out _ _ bx λ_=>?_;clear hK K;refine ry 17 λK hK=>?_;refine To _ rfl (.tmp 33) (.tmp 45) 296 rfl (bk+1) Df i0 (.pointer none) 1 8 underlying296 a6 a7 a8 bb rfl oo (.slice (some<|G D 0) c.m k1) c.m (GN (λi=>CG E<|c.I i) c.m) og (OR bu _) (y wr 0) 1 1 [.pointer (some (G (E q) 0))] og rfl (Is<|DD _ _) oh oo od om ot _ rfl ?_;intro g3 g w3 k A l ah;obtain⟨U,x3,f3,aM,F⟩:=z ae _ g3 g w3 k A l;clear k A l;refine hK.out _ _ U λak=>?_;clear hK K;refine tz 18 (h:=tz 19 (h:=?_));refine ry 20 λK hK=>?_;go_simp;refine hK.out _ _ ?_ (λ_=>?_)
   .obtain⟨a1,a2,a3⟩:=U;exact⟨(Aa oo).trans a1,(Al om).trans a2,(Al om).trans a3⟩
   clear hK K;refine Fj ?_;go_wp2_with fail;refine(af g3 g w3 F).mono ?_;rintro e w6 ⟨⟨cc,rfl⟩,f6,S6,H,B⟩;have M:=O<|(t _ _ _ _ _ H).1;have P:=O<|(t _ _ _ _ _ H).2;clear F x3 f3 U ak;go_wp2_with fail;refine qr w6 ?_;(iterate 4 refine N (h:=?_));refine GC λK hK=>?_;go_simp;refine⟨_,λw' j=>qk j<|M _ j,hK _ ?_⟩;clear hK K;refine GC λK hK=>?_;go_simp;refine⟨_,λw' j=>qk j<|P _ j,hK _ ?_⟩;clear hK K;refine N (h:=?_);refine GS ?_;intro w7 Z;have bz:=H.below Z ar;have ag:Qe w7 bk 1=c.m+1:=by rw[<-B];unfold Qe;rw[Z.cell (p:=G bk 1) (z H).bm.lt]
   clear Z M P B H
  all_goals
   go_wp2;go_roundw
   .exact⟨DT c s,f6,_,S6,rfl,bz⟩
   rw[ag,az];omega
section
open Go.RowKit Go.Shelf
attribute [local go_sem] Oper.semAt_some
def V6 d k:(AW d k).Nodup:=List.Nodup.sublist List.filter_sublist List.nodup_range
theorem QZ(hi:i<d.n)(a:(d.L i).turn≠0):(AW d d.n)[Cu d i]?=some i:=by
 obtain⟨r,b⟩:=Ft (d:=d) (k:=i+1) (n:=d.n) om;grind [AW,Cu,Bi]
def dO(d:Dc)(j:Nat):Int:=if 0<d.X j then(Cu d (d.X j-1).toNat:Int)+1 else d.X j
def Dh(d:Dc):Dc:={Cj d with X:=dO d}
def E'(E:Nat->Nat)(d:Dc)(j:Nat):Nat:=E<|(AW d d.n).getD j 0
def Jo(hi:i<d.n)(a:(d.L i).turn≠0):E' E d (Cu d i)=E i:=by
 grind [E',Cu,QZ]
def packed{p:Nat}{f:Nat->Nat}(h:AG w bk r0 r1 R2 E S d)(o:w.heap.size<=W.heap.size)(hb:∀b,b<w.heap.size->(∀i,i<d.n->E i≠b)->W.heap[b]?=w.heap[b]?)(ad:bk<n0)
  (hI:∀j,j<d.m->d.I j=0\/(0<d.I j/\d.I j<=d.n/\(d.L (d.I j-1).toNat).turn≠0)) (hX:∀j,j<d.x->0<d.X j->d.X j<=d.n/\(d.L (d.X j-1).toNat).turn≠0)
  (he:∀i,i<d.n->BC W (E i) (d.L i) (f i)) (hf:∀j (hj:j<(AW d d.n).length),f (AW d d.n)[j]=j) (F:Rw W n0 Df v (AW d d.n).length<|eP E<|AW d d.n) (ae:w.heap.size<=n0):
  AG (W.setCell (G bk 0) v) bk v r1 R2 (E' E d) S (Dh d):=by
 have hE:∀i,i<d.n->E i≠bk:=λi hi e=>oS<|h.eb i hi;have s:=hb bk h.lt hE;have hc:∀q,W.cell? (G bk q)=w.cell? (G bk q):=λq=>As (a:=G bk q) s;have ob:∀b,b≠bk->(W.setCell (G bk 0) v).heap[b]?=W.heap[b]?:=λb hb=>At _ _ _ _ (by exact hb);have r:∀q,q≠0->(W.setCell (G bk 0) v).cell? (G bk q)=w.cell? (G bk q):=λq hq=>(Aa λe=>hq e.symm).trans<|hc q;have Z:∀{t:TypeId} {c:Array Value} {b:Nat},w.heap[b]?=some (.cells c t (0,0))->t≠303->∀i,i<d.n->E i≠b:=λ{t c b} hb H i hi e=>Br (e▸(h.Cw i hi).ob) hb λe=>H e.symm;have kr:∀{t:TypeId} {u:V9} {n:Nat} {g:Nat->Option Addr},Rw w (bk+1) t u n g->t≠303->Rw (W.setCell (G bk 0) v) (bk+1) t u n g:=λ{t u n g} K H=>CD K (λq e=>by
  have:=K.lt q e;obtain⟨c,hq⟩:=K.block e;exact(ob q om).trans (hb q this.2 (Z hq H)))
 have D:∀j,j<Kq d->∃i,i<d.n/\(d.L i).turn≠0/\Cu d i=j/\(AW d d.n)[j]?=some i:=λj hj=>by
  obtain⟨i,h1,h2,h3⟩:=FT d.n hj;exact⟨i,h1,h2,h3,by rw[<-h3];exact QZ h1 h2⟩
 have eI:∀x:Int,x=0\/(0<x/\x<=d.n/\(d.L (x-1).toNat).turn≠0)->CG (E' E d) (if 0<x then(Cu d (x-1).toNat:Int)+1 else x)=CG E x:=λx A=>by
  rcases A with rfl|⟨h1,h2,h3⟩
  .rfl
  rw[C3 h1];unfold CG;rw[C3 h1,C3 om,show((Cu d (x-1).toNat:Int)+1-1).toNat=Cu d (x-1).toNat by omega,Jo om h3]
 refine⟨by simpa using A0 h.lt o,I9 _ _ _<|by rw[hc,h.c0];rfl,(r 1 oo).trans h.c1,(r 2 oo).trans h.c2,(r 3 oo).trans h.c3,(r 4 oo).trans h.c4,(r 5 oo).trans h.c5,(r 6 oo).trans h.c6,λq=>by rw[PC];exact(ID (a:=G bk q) s).trans (h.fz q),?_,?_,h.rf,?_,?_,?_,?_,?_,?_,?_⟩
 .have h1:Rw (W.setCell (G bk 0) v) n0 Df v (AW d d.n).length<|eP E<|AW d d.n:=CD F λq e=>ob q<|oS (F.lt q e).1;exact D7 h1 om
 .refine(kr h.ints oo).congr λj hj=>?_;exact eI (d.I j)<|hI j hj
 .refine(kr h.slots oo).congr λj hj=>?_;show DB S j (dO d j)=DB S j (d.X j);unfold DB dO;by_cases e:0<d.X j
  .rw[C3 e,Cs om,Cs om]
  rw[Cs e]
 .intro q e e';have h1:=(F.lt q e).1;have h2:=(h.ints.lt q e').2;omega
 .intro j hj;obtain⟨i,h1,h2,h3,h4⟩:=D j hj;have M:(Dh d).L j=d.L i:=by
   show Ev d j=_;unfold Ev;rw[List.getD_eq_getElem?_getD,h4];rfl
  have P:E' E d j=E i:=by rw[<-h3];exact Jo h1 h2
  obtain⟨Q,R⟩:=So.1 h4;have T:f i=j:=by have:=hf j Q;rwa [R]at this
  rw[M,P];have h5:=he i h1;rw[T]at h5;exact h5.keep oq<|ob _<|oS<|h.eb i h1
 .intro j hj;obtain⟨i,h1,h2,h3,h4⟩:=D j hj;rw[show E' E d j=E i by rw[<-h3];exact Jo h1 h2];exact h.eb i h1
 .intro j j' hj k e;obtain⟨i,h1,h2,h3,h4⟩:=D j hj;obtain⟨i',B,U,V,af⟩:=D j' k;rw[show E' E d j=E i by rw[<-h3];exact Jo h1 h2,show E' E d j'=E i' by rw[<-V];exact Jo B U]at e;have:=h.inj i i' h1 B e;subst this;omega
 .intro j hj;have k:j<d.x:=hj;have hs:=h.sl j k;have hk:∀c,w.heap[S j]?=some (.cells c 306 (0,0))->d.X j≠0->(W.setCell (G bk 0) v).heap[S j]?=w.heap[S j]?:=λc C l=>(ob _<|oS<|h.sg j k l).trans<|hb _ (E1.1 C).1<|Z C oo;unfold DC;show(0<dO d j->Iy _ (S j) ((Dh d).L (dO d j-1).toNat).key (E' E d (dO d j-1).toNat))/\(dO d j<0->Qy _ (S j));by_cases e:0<d.X j
  .have A:dO d j=(Cu d (d.X j-1).toNat:Int)+1:=C3 e;obtain⟨g1,g2⟩:=hX j k e;refine⟨λ_=>?_,λl=>om⟩;rw[A,show((Cu d (d.X j-1).toNat:Int)+1-1).toNat=Cu d (d.X j-1).toNat by omega,Jo om g2,show(Dh d).L (Cu d (d.X j-1).toNat)=d.L (d.X j-1).toNat from FB om g2];have h1:=hs.1 e;exact h1.keep (by simpa using o)<|hk _ h1.ob om
  have A:dO d j=d.X j:=Cs e;rw[A];refine⟨λl=>absurd l e,λl=>?_⟩;have h1:=hs.2 l;exact h1.keep (by simpa using o)<|hk _ h1.ob om
 intro j hj l;refine h.sg j hj λe=>l ?_;show dO d j=0;unfold dO;rw[Cs om,e]
def qK(w u:Y)(bk p n0:Nat)(E:Nat->Nat)(d:Dc)(pre:List<|Ml d)(W:Y):Prop:=
 ∃(v:V9) (f:Nat->Nat),W.rowIs p 296 1 (λ_=>v)/\Rw W n0 Df v pre.length (eP E (pre.map (·.1)))/\(∀i,i<d.n->BC W (E i) (d.L i) (f i))/\((pre.map (·.1)).Nodup->∀j i,(pre.map (·.1))[j]?=some i->f i=j)/\QD p n0 E d.n u W/\Below bk w W
theorem qK.own w u bk p n0 D E d(hn:n0<=D)(hu:n0<=u.heap.size)(m:bk<=w.heap.size)(hb:bk<=D)(o:∀i,i<d.n->E i<D):OwnFrom D<|qK w u bk p n0 E d:=by
 rintro pre A B row ⟨v,f,h1,h2,h3,h4,h5,l⟩ g h;have j:∀i,i<d.n->B.heap[E i]?=A.heap[E i]?:=λi hi=>g.block _ (h3 i hi).lt (λe=>by have:=(h _ e.symm).1;have:=o i hi;omega);refine⟨v,f,?_,Q8 h2 g h,λi hi=>(h3 i hi).keep g.size<|j i hi,h4,⟨GP h5.size g.size,λb hb hp r=>?_,λi q hi hq=>(As (a:=G (E i) q)<|j i hi).trans<|h5.Cw i q hi hq⟩,l.grown g (GP m l.size) λk e=>GP hb (h k e).1⟩
 .obtain⟨c,hb,hc⟩:=h1;exact GW ⟨c,hb,hc⟩<|Kl hb g h
 have hl:=A0 hb<|GP hu h5.size;exact(g.block b hl λe=>oS (h b e.symm).1).trans (h5.block b hb hp r)
def MN(bp:En T)(hf){bk}(ay:∀w w',T w->Below bk w w'->T w'){r0 r1}{R2}{E S}{d}{w:Y}(hT:T w)(hM:AG w bk r0 r1 R2 E S d)(hS:Small d)
  (hH:∀i,i<d.n->(d.L i).turn≠0->PW T (d.L i).key (hf (d.L i).key)) (Q:Kq d<=500)
  (hI:∀j,j<d.m->d.I j=0\/(0<d.I j/\d.I j<=d.n/\(d.L (d.I j-1).toNat).turn≠0)) (hX:∀j,j<d.x->0<d.X j->d.X j<=d.n/\(d.L (d.X j-1).toNat).turn≠0):
  C9 215 #[Q9 bk] w λe w'=>((∃u,e=.returned u)/\∃bq M E2 S',AG w' bk bq r1 M E2 S'<|DR hf (Dh d) (EV (CC (Dh d) (Dh d).n).length)<|CC (Dh d) (Dh d).n)/\KX (λb=>b=bk\/∃i,i<d.n/\E i=b) bk w w':=by
 rcases ON Jz,hS.n,hM.lt with⟨⟨i0,br,bt,bw,bx⟩,cc,ar⟩;refine(Aaa (n:=20)).1 ?_;refine callsIn_of_wp_marks func215 rfl trivial ?_ rfl;simp only[ntmps215,Aar,Aae,X9,Nat.reduceAdd,Nat.reduceSub,Aag,Aaf,Aas,Aai,Aad,Aaq];rcases O hH,O Q,O hT,O hI,O hX with⟨HH,HL,HT,HI,HX⟩;clear hH Q hT hI hX;gi_wp2_with fail;refine⟨trivial,?_⟩;refine(Aaa.2<|Ia bk _).mono ?_;rintro e w4 ⟨rfl,rfl⟩;gi_wp2_with fail;obtain⟨u,hu⟩:=o9<|(w.alloc<|.cells #[N9] 296).alloc<|.cells #[Q9 bk] 286;try simp only[World.size_alloc]
 rw[<-hu];have zu:u.heap.size=w.heap.size+1+1:=by rw[hu];simp
 have bu:B9 w u:=by rw[hu];exact(n9).alloc oq _
 have ae:u.cell? (Y9 w 0)=some (Q9 bk):=by rw[hu];simp[go_sem]
 have af:u.rowIs w.heap.size 296 1 λ_=>N9:=by
  have h1:=Aaj w #[N9] 296 (λ_=>N9) (λi hi=>by
   have:i=0:=by simpa using hi
   subst this;rfl)
  refine GW h1 ?_;rw[hu];exact DO _ _ _ oq
 clear hu;have az:=hM.below bu;obtain⟨R0,R1,s⟩:=az.book;have ag:=af.cell (i:=0) om;have A:∀i,i<d.n->E i<u.heap.size/\E i≠w.heap.size:=λi hi=>⟨(s.Cw i hi).lt,λe=>by
  have:=(s.Cw i hi).k0;rw[e,ag]at this;cases this⟩
 have aM:0<d.n->R0<u.heap.size/\R0≠w.heap.size/\∀i,i<d.n->E i≠R0:=λh0=>by
  refine⟨s.l0,λe=>?_,λi hi e=>?_⟩
  .have:=s.r0 0 h0;rw[e,ag]at this;cases this
  have h1:=s.r0 0 h0;have h2:=(s.Cw i hi).k0;rw[<-e,h2]at h1;cases h1
 clear ag;refine wpIn_rangeFunc_ownF rfl oo (gf:=233) (lb:=#[Q9 (w.heap.size+1)]) rfl trivial (enters_of func233 ou rfl)
  (Qg 19 oo (w.heap.size+1) w.heap.size u.heap.size s hS aM ae) QD.trans (QD.put (Be _) λi hi=>(A i hi).1) (BE _ _) (λ_=>rfl)
  (qK w u bk w.heap.size u.heap.size E d)
  (λc pre W=>False)
  (qK.own w u bk w.heap.size u.heap.size u.heap.size E d (Be _) (Be _) om om λi hi=>(A i hi).1)
  (λc _ _ _ _ h=>h.elim)
  ⟨N9,id,af,NB _ _ _ _,s.Cw,λ_ j i h=>by simp at h,QD.refl _ _ _ _ _,bu.mono om⟩
  ?a1 ?assign ?body ?done ?stop
 case assign=>
  intro l x W K hK;gi_wp2;exact hK
 case stop=>
  rintro D c pre W hD cb h hK;exact h.elim
 case body=>
  rintro l pre ⟨i,hi,ht⟩ W ⟨v,f,hp,g,B,P,C,R⟩ Q;obtain⟨va,vc,rfl⟩:=g.slice;rcases (B i hi).ob,(B i hi).pl,(B i hi).lt with⟨a6,cd,bz⟩;have fE:W.frozen? (G (E i) 11)=false:=by simp[World.frozen?,a6]
  rcases hp.cell (i:=0) om,(A i hi).2,C.size,(A i hi).1 with⟨x0,ah,zW,b0⟩;have au:Hid (∀o,((W.setCell (G (E i) 11)<|J (pre.length:Int)).alloc o).ownsRow u.heap.size Df 1 (.slice va pre.length vc) pre.length (GN (eP E (pre.map (·.1))) pre.length)):=O λo=>OR (CD g λq e=>At _ _ _ _<|by have:=(g.lt q e).1;show q≠E i;omega) _;have av:Hid (∀(o:Obj) (g3 t:Nat) (w3:Y),w3.ownsRow u.heap.size Df 1 (S9 g3 (pre.length+1) t) (pre.length+1) (GN (eP E (pre.map (·.1))) pre.length++[Q9 (E i)])->((W.setCell (G (E i) 11)<|J (pre.length:Int)).alloc o).grownBy w3 (Value.slice va pre.length vc).ownBlock->
    (w3.cell? (y w 0)=some (.slice va pre.length vc)/\w3.frozen? (y w 0)=false)/\KeepsOthers W (w3.setCell (y w 0) (S9 g3 (pre.length+1) t))/\QD w.heap.size u.heap.size E d.n W (w3.setCell (y w 0) (S9 g3 (pre.length+1) t))/\qK w u bk w.heap.size u.heap.size E d (pre++[⟨i,hi,ht⟩]) (w3.setCell (y w 0) (S9 g3 (pre.length+1) t))):=O (λo g3 t w3 h1 h2=>by
   have U:∀b,b<u.heap.size->(Value.slice va pre.length vc).ownBlock≠some b:=λb hb e=>oS (g.lt b e).1;have hB:∀b,b<u.heap.size->b≠E i->w3.heap[b]?=W.heap[b]?:=λb hb he=>(h2.block b ot λe=>U b hb e.symm).trans<|(DO _ _ _ ot).trans<|At _ _ _ _ (by exact he);have a7:=(h2.block (E i) ot λe=>U _ b0 e.symm).trans<|DO _ _ _ (by simpa using bz);have ai:W.heap.size<=w3.heap.size:=by have:=h2.size;simp at this;omega
   have aj:=hp.of_block<|hB _ om λe=>ah e.symm;have cg:=(World.ownsRow.lt h1 g3 rfl).1;have os:∀b,b≠w.heap.size->(w3.setCell (y w 0)<|S9 g3 (pre.length+1) t).heap[b]?=w3.heap[b]?:=λb hb=>At _ _ _ _ (by exact hb);have b1:=((B i hi).eR pre.length).keep (by simpa using ai)<|(os _ ah).trans a7;have aw:∀j,j<d.n->j≠i->BC (w3.setCell (y w 0)<|S9 g3 (pre.length+1) t) (E j) (d.L j) (f j):=λj hj b2=>(B j hj).keep (by simpa using ai)<|(os _ (A j hj).2).trans<|hB _ (A j hj).1 λe=>b2<|s.inj j i hj hi e;have a8:QD w.heap.size u.heap.size E d.n W<|w3.setCell (y w 0)<|S9 g3 (pre.length+1) t:=⟨by simpa using ai,λb h1 b3 h3=>(os b b3).trans<|hB b h1 λe=>h3 i hi e.symm,λj q hj hq=>by
    by_cases e:j=i
    .subst e;refine(As (a:=G (E j) q)<|(os _ ah).trans a7).trans ?_;exact Aa λe=>hq e.symm
    exact As (a:=(G (E j) q)) ((os _ (A j hj).2).trans (hB _ (A j hj).1 (λe'=>e (s.inj j i hj hi e'))))⟩
   refine⟨⟨aj.cell (i:=0) om,aj.frozen 0⟩,?_,a8,S9 g3 (pre.length+1) t,AU f i pre.length,(aj.set 0 _).congr λq hq=>by simp[show q=0 by omega],?_,λj hj=>?_,λbb j q hq=>?_,C.trans a8,?_⟩
   .have b4:KeepsOthers ((W.setCell (G (E i) 11)<|J (pre.length:Int)).alloc o) w3:=KeepsOthers.of_grownBy h2 (λj o' e ho=>by
     obtain⟨c,hb⟩:=Rw.block g e;have hj:=(g.lt j e);rw[DO _ _ _ (by simpa using hj.2),At _ _ _ _ (by show j≠E i;omega),hb]at ho;cases ho;rfl)
    exact(((Q2 W _ _).trans<|KeepsOthers.alloc _ _).trans b4).trans (Q2 _ _ _)
   .have hl:(pre++[⟨i,hi,ht⟩]:List<|Ml d).length=pre.length+1:=oq;have e1:GN (eP E (pre.map (·.1))) pre.length++[Q9 (E i)]=GN (eP E ((pre++[⟨i,hi,ht⟩]:List<|Ml d).map (·.1))) (pre.length+1):=by
     have:=XB E (pre.map (·.1)) i;rw[List.length_map]at this;rw[this,AaA];rfl
    rw[hl];refine CD ?_ (λq e=>os q (by
     have e':g3=q:=oF e;omega))
    rw[e1]at h1;exact h1
   .by_cases e:j=i
    .subst e;rw[Au];exact b1
    rw[Ao _ _ e];exact aw j hj e
   .rw[AaA]at bb hq;have V:=List.nodup_append.1 bb;by_cases e:j<(pre.map (·.1)).length
    .rw[Aat e]at hq;have ax:q≠i:=λe'=>V.2.2 q (List.mem_of_getElem? hq) i oq e';rw[Ao _ _ ax];exact P V.1 j q hq
    rw[AaG om]at hq;have bc:j-(pre.map (·.1)).length=0:=by
     have h3:=(So.1 hq).1;simp at h3;simp;omega
    rw[bc]at hq;have b5:i=q:=by simpa using hq
    subst b5;rw[Au];rw[List.length_map]at e bc;omega
   exact(((R.setCell (by have:=s.Cw i hi;have:=hM.eb i hi;show bk<=E i;omega) _).alloc ot _).grown h2 ot (λk e=>oS (g.lt k e).1)).setCell (by show bk<=w.heap.size;omega) _)
  clear g C R hp ae B P a6;gi_wp2_with (gi_at_builtin;refine wpListIn_append_own _ rfl _ _ 296 rfl u.heap.size Df i0 (.pointer none) 1 8 underlying296 br bt bw bx rfl oo (.slice va pre.length vc) pre.length (GN (eP E (pre.map (·.1))) pre.length) rfl (au _) (y W 0) 1 1 [Q9 (E i)] rfl rfl (Is<|by rw[show W.heap.size=(W.setCell (G (E i) 11) (J (pre.length:Int))).heap.size by simp];exact DD _ _) oh od om ot ?_;intro v3 w3 F Z _;obtain⟨g3,t,rfl,_,_⟩:=World.ownsRow.form F om;obtain⟨⟨x3,f3⟩,b6⟩:=z av _ g3 t w3 F Z;clear F Z);exact b6
 case done=>
  rintro D ys W hD bd ⟨v,f,hp,g,B,P,C,R⟩ hK;have H:ys.map (·.1)=AW d d.n:=bd;have bf:ys.length=(AW d d.n).length:=by rw[<-H,List.length_map]
  rw[bf,H]at g;rw[H]at P;obtain⟨va,vc,rfl⟩:=g.slice;have x0:=hp.cell (i:=0) om;have zW:=C.size;have bg:∀i,i<d.n->E i≠bk:=λi hi e=>oS<|hM.eb i hi;have ak:=(C.block bk om om bg).trans<|bu.block bk ar;have c0:W.cell? (G bk 0)=some r0:=(As (a:=G bk 0) ak).trans hM.c0;have f0:W.frozen? (G bk 0)=false:=(ID (a:=G bk 0) ak).trans<|hM.fz 0;have b7:D<W.heap.size:=(E1.1 hK).1;have bh:=packed hM om (λb hb he=>(C.block b om om he).trans<|bu.block b hb) (n0:=u.heap.size) (p:=0) om HI HX B (λj hj=>P (V6 _ _) j _<|List.getElem?_eq_getElem hj) g om;have ao:Below bk w<|W.setCell (G bk 0)<|.slice va (AW d d.n).length vc:=R.setCell (by exact Be _) _;have bj:∀i,i<Kq d->∃i',i'<d.n/\(d.L i').turn≠0/\Ev d i=d.L i':=λj hj=>by
   obtain⟨i,h1,h2,h3⟩:=FT d.n hj;exact⟨i,h1,h2,by rw[<-h3];exact FB h1 h2⟩
  have ad:Hid<|C9 226 #[Q9 bk,J 0] (W.setCell (G bk 0)<|.slice va (AW d d.n).length vc) λe w'=>((∃u,e=.returned u)/\∃M S',AG w' bk (.slice va (AW d d.n).length vc) r1 M (E' E d) S' (DR hf (Dh d) (EV (CC (Dh d) (Dh d).n).length)<|CC (Dh d) (Dh d).n)/\(W.setCell (G bk 0)<|.slice va (AW d d.n).length vc).heap.size<=M)/\KX (λb=>b=bk) bk (W.setCell (G bk 0)<|.slice va (AW d d.n).length vc) w':=O (by
   have bm:=hS;have h1:=FI d d.n;have h2:=z HL;have h3:Kq d=(AW d d.n).length:=rfl;exact IC bp hf ay 0 (ay _ _ HT ao) bh ⟨by show Kq d<=_;omega,bm.m,bm.x⟩ (λi hi ht=>by
    obtain⟨i',g1,g2,g3⟩:=bj i hi;have e:(Dh d).L i=d.L i':=g3;rw[e];exact HH i' g1 g2) (by
    have g1:=XL (Dh d) (Dh d).n;have g2:=FI (Dh d) (Dh d).n;have g3:(Dh d).n=Kq d:=rfl;omega))
  have b8:Hid<|KX (λb=>b=bk\/∃i,i<d.n/\E i=b) bk w<|W.setCell (G bk 0)<|.slice va (AW d d.n).length vc:=O ⟨ao,λb hb hm=>(At _ _ _ _<|by intro e;exact hm<|.inl e).trans<|(C.block b om om λi hi e=>hm<|.inr ⟨i,hi,e⟩).trans<|bu.block b hb⟩;clear bd H bf hp g B P C R bh bj ao bg ak ae af s az A aM bu;generalize (AW d d.n).length=nl at*;gi_wp2_with fail;refine⟨trivial,?_⟩;refine(Aaa.2 ad).mono ?_;rintro e w5 ⟨⟨⟨uu,rfl⟩,M,S',b9,_⟩,aq⟩;have bn:=(aq.Bw D (by simpa using b7) om).trans<|(At _ _ _ _<|by show D≠bk;omega).trans hK;have ca:=b8.trans<|aq.mono λb _ e=>.inl e;clear aq ad;gi_wp2;refine⟨oq,.inl ⟨_,_,rfl,AaH bn,?_⟩⟩;have hg:=NX w5 D<|.deferred none;exact⟨_,Aaw rfl _ _ _,⟨⟨_,rfl⟩,_,M,_,S',b9.grown hg λr e=>by cases e;exact⟨_,bn,rfl⟩⟩,ca.grown hg om λk e=>by cases e;exact .inl om⟩
end
section
variable {w w3:Y} {bk:Nat} {r0 r1:V9} {R2:Nat} {E S:Nat->Nat} {d:Dc}
def AG.rQ(h:AG w bk r0 r1 R2 E S d){W:Y}(u:B9 w W){g3 f}(v:BC w (E d.n) (d.L d.n) d.n)(o:bk<E d.n)(JS:∀i,i<d.n->E i≠E d.n)(h1:w3.ownsRow (bk+1) Df 1 (S9 g3 (d.n+1) f) (d.n+1)<|GN (λi=>some<|G (E i) 0) d.n++[Q9 (E d.n)])(x:W.grownBy w3 r0.ownBlock)(hl:r0.ownBlock=some g3\/w.heap.size<=g3):
  AG (w3.setCell (G bk 0)<|S9 g3 (d.n+1) f) bk (S9 g3 (d.n+1) f) r1 R2 E S {d with n:=d.n+1}/\Below bk w (w3.setCell (G bk 0)<|S9 g3 (d.n+1) f):=by
 have g:=h.lt;have A:=u.size;have hz:=GP A x.size;have l:∀b,b<w.heap.size->r0.ownBlock≠some b->w3.heap[b]?=w.heap[b]?:=λb hb v=>(x.block b om λe=>v e.symm).trans<|u.block b hb;have r:r0.ownBlock≠some bk:=λe=>oS (h.log.lt bk e).1;have os:∀b,b≠bk->(w3.setCell (G bk 0)<|S9 g3 (d.n+1) f).heap[b]?=w3.heap[b]?:=λb hb=>At _ _ _ _ (by exact hb);have hc:∀q,w3.cell? (G bk q)=w.cell? (G bk q):=λq=>As (a:=G bk q)<|l bk g r;have m:∀q,q≠0->(w3.setCell (G bk 0)<|S9 g3 (d.n+1) f).cell? (G bk q)=w.cell? (G bk q):=λq hq=>(Aa λe=>hq e.symm).trans<|hc q;have ty:∀{t:TypeId} {c:Array Value} {b:Nat},w.heap[b]?=some (.cells c t (0,0))->t≠Df->r0.ownBlock≠some b:=λ{t c b} hb H e=>by
  obtain⟨Q,B⟩:=h.log.block e;exact Br hb B H
 have I:=(World.ownsRow.lt h1 g3 rfl).1;have D:∀{b:Nat} {p:Pr} {i:Nat},BC w b p i->bk<b->BC (w3.setCell (G bk 0)<|S9 g3 (d.n+1) f) b p i:=λ{b p i} C hb=>C.keep (by simpa using hz)<|(os _ om).trans<|l _ C.lt<|ty C.ob oo;refine⟨⟨by simpa using A0 g hz,I9 _ _ _<|by rw[hc,h.c0];rfl,(m 1 oo).trans h.c1,(m 2 oo).trans h.c2,(m 3 oo).trans h.c3,(m 4 oo).trans h.c4,(m 5 oo).trans h.c5,(m 6 oo).trans h.c6,λq=>by rw[PC];exact(ID (a:=G bk q)<|l bk g r).trans (h.fz q),?_,?_,h.rf,?_,?_,λi hi=>?_,λi hi=>?_,λi j hi hj e=>?_,λj hj=>?_,h.sg⟩,?_⟩
 .have h2:(w3.setCell (G bk 0)<|S9 g3 (d.n+1) f).ownsRow (bk+1) Df 1 (S9 g3 (d.n+1) f) (d.n+1)<|GN (λi=>some<|G (E i) 0) d.n++[Q9 (E d.n)]:=CD h1 (λq e=>os q (by
   have e':g3=q:=oF e;omega))
  exact h2
 .exact CD h.ints λq e=>(os q<|oS (h.ints.lt q e).1).trans<|l q (h.ints.lt q e).2 λe'=>h.ap q e' e
 .exact CD h.slots (λq e=>by
   obtain⟨c,hb⟩:=h.slots.block e;exact(os q (oS (h.slots.lt q e).1)).trans (l q (h.slots.lt q e).2 (ty hb oo)))
 .intro q e e';have e2:g3=q:=oF e;subst e2;rcases hl with hl|hl
  .exact h.ap g3 hl e'
  have:=(h.ints.lt g3 e').2;omega
 .have s:i<d.n+1:=hi;by_cases e:i=d.n
  .subst e;exact D v o
  exact D (h.Cw i om)<|h.eb i om
 .have s:i<d.n+1:=hi;by_cases e:i=d.n
  .subst e;exact o
  exact h.eb i om
 .have s:i<d.n+1:=hi;have K:j<d.n+1:=hj;by_cases M:i=d.n
  .by_cases F:j=d.n
   .omega
   subst M;exact absurd e.symm<|JS j om
  by_cases F:j=d.n
  .subst F;exact absurd e<|JS i om
  exact h.inj i j om om e
 .by_cases P:d.X j=0
  .exact⟨λhp=>absurd hp<|by show¬0<d.X j;omega,λhp=>absurd hp<|by show¬d.X j<0;omega⟩
  exact DC.keep (d:={d with n:=d.n+1}) (w:=w) (h.sl j hj) (by simpa using hz) λc hc=>(os _<|oS<|h.sg j hj P).trans<|l _ (E1.1 hc).1<|ty hc oo
 exact((u.mono om).grown x om λk e=>oS (h.log.lt k e).1).setCell (by exact Be _) _
end
def AG.KI(hc:Core K d)(hl:¬((d.n:Int)<8\/(d.n:Int)<=2*d.live))(h:AG w bk r0 r1 R2 E S<|DR hf (Dh d) (EV (CC (Dh d) (Dh d).n).length)<|CC (Dh d) (Dh d).n):AG w bk r0 r1 R2 E S<|Ap hf d:=by
 have hp:=Gb hc;have h:AG w bk r0 r1 R2 E S<|DR hf (Cj d) (EV (CC (Cj d) (Cj d).n).length)<|CC (Cj d) (Cj d).n:=h;have e1:Ap hf d=A3 hf (Cj d) 0:=Cs hl;have rf:=λx=>MH (hf:=hf) (x:=x) (λi hi b=>hp.pos hi b) (Cj d).n<|Be _;rw[e1];by_cases a:(CC (Cj d) (Cj d).n).length=0
 .rw[D8 (by rw[(rf 0).2];omega)];have hn:=List.eq_nil_of_length_eq_zero a;rw[a,hn]at h;have h:AG w bk r0 r1 R2 E S {Cj d with x:=0,X:=λ_=>0,used:=0}:=h;exact h.of_same rfl rfl rfl rfl rfl rfl (λ_ _=>rfl) (λj hj=>absurd hj<|Tn _) (λ_ _=>rfl) (λ_ _=>rfl) (λi hi=>by
   rcases hp.ints i hi with e|e
   .show(Cj d).I i<=((Cj d).n:Int);omega
   exact e.2.1) (λj hj=>absurd hj (Tn _))
 rw[Cy (by rw[(rf 0).2];omega),(rf _).1,(rf 0).2];grind [DR,Dh,EV,CC,Ap,Cj,Ck]
def FE(c:Dc)(k v:Vl):Dc:={B3 c k v with n:=c.n}
def dJ c k v:(FE c k v).L c.n=⟨k,v,c.turns+1⟩:=Au _ _ _
def Nw c k v{i}(hi:i<c.n):(FE c k v).L i=c.L i:=Ao _ _ om
def YB hf c k v k' p:AR hf (FE c k v) k' p=FE (AR hf c k' p) k v:=by
 unfold AR;show(match Dp c.x c.X (hf k'%c.x)with|none=>_|some s=>_)=_;cases Dp c.x c.X (hf k'%c.x)<;>rfl
def YA hf c k' p n:AR hf {c with n:=n} k' p={AR hf c k' p with n:=n}:=by
 grind [AR,Dp]
def bP hf c k v x l(hl:∀p∈l,p<c.n):DR hf (FE c k v) x l=FE (DR hf c x l) k v:=by
 suffices h:∀(l:List Nat),(∀p∈l,p<c.n)->∀b:Dc,l.foldl (λe p=>AR hf e ((FE c k v).L p).key p) (FE b k v)=FE (l.foldl (λe p=>AR hf e (c.L p).key p) b) k v from h l hl {c with x:=x,X:=λ_=>0,used:=0}
 intro l
 induction l with
 |nil=>intro _ b;rfl
 |cons p l ih=>
  intro hl b;show l.foldl _ (AR hf (FE b k v) ((FE c k v).L p).key p)=_;rw[Nw c k v (hl p oq),YB];exact ih (λq hq=>hl q<|by simp[hq]) _
def XM c k v:CC (FE c k v) (FE c k v).n=CC c c.n:=by
 unfold CC;have e:AW (FE c k v) (FE c k v).n=AW c c.n:=Kn c.n (λi hi=>by rw[Nw c k v hi]);rw[e];refine List.filter_congr λi hi=>?_;rw[Nw c k v (O4.1 hi).1];rfl
def eK{k v}(hc:Core K c):Pn hf (FE c k v)=FE (C4 hf c) k v:=by
 have rf:=λx=>MH (hf:=hf) (x:=x) (λi hi a=>hc.pos hi a) c.n<|Be _;unfold Pn C4;rw[XM];by_cases h:(c.x:Int)<2*(c.used+1)
 .rw[C3 h,C3 (show((FE c k v).x:Int)<2*((FE c k v).used+1)from h),Cy om,(rf _).1,(rf 0).2,bP hf c k v _ _ (λp hp=>(O3 hp).1)];grind [Pn,FE,C4,EV,CC,Ck]
 rw[Cs h,Cs (show¬((FE c k v).x:Int)<2*((FE c k v).used+1)from h)]
def dK{k v}(h:c.n=n):FE c k v={B3 c k v with n:=n}:=by subst h;rfl
structure NS (W:Y) (b:Nat) (k:Vl):Prop where
 lt:b<W.heap.size
 k0:W.cell? (G b 0)=some (J k.kind)
 k1:W.cell? (G b 1)=some (J k.num)
 k2:W.cell? (G b 2)=some (F9 k.Af)
 k3:W.cell? (G b 3)=some (.string k.str)
 k4:W.cell? (G b 4)=some (J k.ref)
def NS.keep{k}(h:NS W b k)(hz:W.heap.size<=W'.heap.size)(e:W'.heap[b]?=W.heap[b]?):NS W' b k:=
 ⟨A0 h.lt hz,(As e).trans h.k0,(As e).trans h.k1,(As e).trans h.k2,(As e).trans h.k3,(As e).trans h.k4⟩
def QA(n0 bk:Nat)(k v:Vl)(t:Int)(a:T9)(n c:Nat)(W:Y):Prop:=W.cell? (G n0 0)=some (J k.kind)/\W.cell? (G n0 1)=some (J k.num)/\W.cell? (G n0 2)=some (F9 k.Af)/\W.cell? (G n0 3)=some (.string k.str)/\W.cell? (G n0 4)=some (J k.ref)/\W.cell? (G (n0+1) 0)=some (J v.kind)/\W.cell? (G (n0+1) 1)=some (J v.num)/\W.cell? (G (n0+1) 2)=some (F9 v.Af)/\W.cell? (G (n0+1) 3)=some (.string v.str)/\W.cell? (G (n0+1) 4)=some (J v.ref)/\W.cell? (G bk 6)=some (J t)/\W.cell? (G bk 0)=some (.slice a n c)
def lM(bk n0 a m k1 q:Nat)(W:Y):Prop:=W.cell? (G bk 1)=some (S9 a m k1)/\W.cell? (G n0 1)=some (J<|(q:Int)+1)
def dA(h:Core K c)(hl:c.live<500):(CC c c.n).length+1<=500:=by
 have h1:=XL c c.n;have h2:=h.Ko;grind [CC,Kq,AW,Small.n]
structure Lw (W:Y) (bk:Nat) (r0 r1:V9) (R2:Nat) (E S:Nat->Nat) (D:Dc):Prop where
 bm:AG W bk r0 r1 R2 E S D
 e:BC W (E D.n) (D.L D.n) D.n
 eb:bk<E D.n
 ne:∀i,i<D.n->E i≠E D.n
def Lw.fin{c}{D}(h:Lw c bk r0 r1 R2 E S D){o}{g3 b}(h1:w3.ownsRow (bk+1) Df 1 (S9 g3 (D.n+1) b) (D.n+1)<|GN (λi=>some<|G (E i) 0) D.n++[Q9 (E D.n)])(d:(c.alloc o).grownBy w3 r0.ownBlock)(hl:r0.ownBlock=some g3\/g3=c.heap.size+1):
  w3.cell? (G bk 0)=some r0/\w3.frozen? (G bk 0)=false/\bk<w3.heap.size/\AG (w3.setCell (G bk 0)<|S9 g3 (D.n+1) b) bk (S9 g3 (D.n+1) b) r1 R2 E S {D with n:=D.n+1}/\Below bk c (w3.setCell (G bk 0)<|S9 g3 (D.n+1) b):=by
 have f:=h.bm.lt;have hn:r0.ownBlock≠some bk:=λe=>oS (h.bm.log.lt bk e).1;have hb:=(d.block bk ot λe=>hn e.symm).trans<|DO _ _ _ f;have hz:c.heap.size+1<=w3.heap.size:=by have:=d.size;simpa using this
 obtain⟨p1,p2⟩:=h.bm.rQ ((BE _ _).alloc (Be _) o) h.e h.eb h.ne h1 d (by rcases hl with hl|hl;exact .inl hl;exact .inr om);exact⟨(As (a:=G bk 0) hb).trans h.bm.c0,(ID (a:=G bk 0) hb).trans<|h.bm.fz 0,om,p1,p2⟩
def QA.below{k v}{t}{a:Option Addr}{c}(h:QA n0 bk k v t a n c W)(hb:B9 W W')(i:n0+1<W.heap.size)(h1:bk<W.heap.size):QA n0 bk k v t a n c W':=by
 obtain⟨j,s1,s2,l,m,o,r,s,u,w,d,f⟩:=h;have e:∀{b q:Nat},b<W.heap.size->W'.cell? (G b q)=W.cell? (G b q):=λ{b q} g=>hb.cell (p:=G b q) g;grind [QA,KeyLaw.trans]
def mM(bk:Nat)(r0:V9)(R2 b:Nat):Prop:=b=bk\/r0.ownBlock=some b\/b=R2
def aM(d:Dc)(k:Vl)(bk:Nat)(r0:V9)(R2 b:Nat):Prop:=¬DX d->k.kind=4->mM bk r0 R2 b
def mP:Prop:=∀(T:World->Prop) (c:En T) (hf:Vl->Nat) (K:Vl->Prop) (j:KeyLaw K hf) (f:∀v,K v->PW T v (hf v)) (bk:Nat) (g:∀w w',T w->Below bk w w'->T w') (r0 r1:V9) (R2:Nat) (E S:Nat->Nat) (d:Dc) (w:Y) (k:T w) (l:AG w bk r0 r1 R2 E S d) (o:Small d) (h:d.m<=4000000)
  (i:(d.L d.n).key.kind=2) (Dt:(d.L d.n).key.num=(d.m:Int)+1) (p:BN K hf {d with n:=d.n+1,m:=d.m+1,I:=AU d.I d.m ((d.n:Int)+1)}),
  C9 217 #[Q9 bk,Q9 (E d.n)] w λe w'=>((∃u,e=.returned u)/\∃a S',AG w' bk r0 a R2 E S' {CP hf (d.x+1) {d with n:=d.n+1,m:=d.m+1,I:=AU d.I d.m ((d.n:Int)+1)}with n:=d.n})/\KX (λb=>b=bk\/r1.ownBlock=some b\/b=R2) bk w w'
def tQ:mP:=NW
def iF(cg:En T){hf}{K}(KL:KeyLaw K hf)(ch:∀v,K v->PW T v (hf v)){bk}(bz:∀w w',T w->Below bk w w'->T w'){r0 r1}{R2}{E S}{d}{k}(v){w:Y}(hT:T w)(hM:AG w bk r0 r1 R2 E S d)(hS:Small d)(ft:d.m<=4000000)
  (hI:Inv K hf d) (hk:K k) (cn:Cc k=true) (hv:v.ok=true) (c9:v.kind≠0) (da:∀i,i<d.n->(d.L i).turn≠0->AF (d.L i).key k=false) (hl:d.live<500) (ht:d.turns<1000000000000) (hX:k.kind=2/\0<k.num->mP):
  C9 205 #[.pointer (some<|G bk 0),V k.kind k.num k.Af k.str k.ref,V v.kind v.num v.Af v.str v.ref] w λe w'=>((∃u,e=.returned u)/\∃b0 F t E2 S',AG w' bk b0 F t E2 S'<|IX hf d k v)/\KX (aM d k bk r0 R2) bk w w':=by
 have dc:DX d->∀b,aM d k bk r0 R2 b:=λh b h'=>absurd h h';have dd:k.kind=2->∀b,aM d k bk r0 R2 b:=λh b _ h'=>om;have df:∀b,mM bk r0 R2 b->aM d k bk r0 R2 b:=λb h _ _=>h;generalize aM d k bk r0 R2=Mq at*;rcases O dc,O dd,O df with⟨ei,dh,ej⟩;clear dc dd df;have ek:=O hX;clear hX;obtain⟨i0,di,dj,dk,dm⟩:=ON Jz;have fu:=hM.lt;have cb:0<=d.live:=oS hI.i0.log.CI;have aq:B9 w<|(w.alloc<|.cells (qe k) 43).alloc<|.cells (qe v) 43:=(n9).alloc oq _;rcases BO (hf:=hf) hI.i0.core,DJ hI.i0,DZ (hf:=hf) hI.i0.core hI.next with⟨⟨eo,ep,eu,dn⟩,Q,ev⟩;have cc:∀i,i<(Ap hf d).n->((Ap hf d).L i).turn≠0->AF ((Ap hf d).L i).key k=false:=λi hi ew=>by
  cases e:AF ((Ap hf d).L i).key k
  .rfl
  obtain⟨j,h1,h2,h3⟩:=(DE hI.i0.core λp=>AF p.key k=true).1 ⟨i,hi,ew,e⟩;have h4:=da j h1 h2;rw[h3]at h4;cases h4
 have fw:(Ap hf d).x<=4000:=by
  rcases Q.sz with h|h
  .omega
  exact h.2.1
 have c4:(Ap hf d).n<=4194304:=by
  rcases dn with h|h<;>omega
 have ey:∀i,i<(Ap hf d).m->(Ap hf d).I i<=(Ap hf d).n:=λi hi=>by
  rcases Q.ints i hi with e|e
  .omega
  exact e.2.1
 have ez:∀j,j<(Ap hf d).x->(Ap hf d).X j<=(Ap hf d).n:=λj hj=>by
  rcases Q.idx.range j hj with e|e|⟨e1,e2,_⟩<;>omega
 have Z:Hid<|IX hf d k v=Bx hf (Ap hf d) k v:=O rfl;have bb:∀W,B9 w W->DX d->C9 215 #[.pointer (some<|G bk 0)] W λe w'=>((∃u,e=.returned u)/\∃b0 t E2 S',AG w' bk b0 r1 t E2 S'<|Ap hf d)/\KX (λb=>b=bk\/∃i,i<d.n/\E i=b) bk W w':=λW hW ar=>by
  refine(MN cg hf bz (cg _ _ hT hW) (hM.below hW) hS (λi hi ht=>ch _<|hI.i0.keys i hi ht) (oS hI.i0.core.Ko) (λj hj=>by
   rcases hI.i0.ints j hj with e|e
   .exact .inl e
   .exact .inr ⟨e.1,e.2.1,e.2.2.1⟩) (λj hj h0=>by
   rcases hI.i0.idx.range j hj with e|e|⟨e1,e2,e3,_⟩
   .omega
   .omega
   exact⟨om,e3⟩)).mono ?_
  rintro e w' ⟨⟨hu,b0,t,E2,S',hN⟩,B⟩;exact⟨⟨hu,b0,t,E2,S',hN.KI hI.i0.core<|by have:=ar.1;have:=ar.2;omega⟩,B⟩
 have ag:=O bb;have HE:Hid<|∀i,i<d.n->E i<w.heap.size:=O λi hi=>(hM.Cw i hi).lt;have HC:Hid<|¬DX d->Ap hf d=d:=O (λh=>C3 (by
  by_cases h8:(d.n:Int)<8
  .exact .inl h8
  exact .inr (by
   refine AaO λh2=>h ⟨om,om⟩)))
 have cj:Hid<|∀W,B9 w W->C9 214 #[.pointer (some<|G bk 0)] W (R9 (.bool<|tells<|DX d) W):=O λW hW=>MB (hM.below hW) hS cb om;have HT:=O hT;rw[z Z];have U:(Ap hf d).live<500:=om;have ao:(Ap hf d).turns<1000000000000:=om;have eA:(Ap hf d).m<=4000000:=om;clear eo ep eu dn Z bb hS hT hI da hl ht cb;generalize Ap hf d=c at*;have au:Hid<|NS ((w.alloc<|.cells (qe k) 43).alloc<|.cells (qe v) 43) w.heap.size k/\NS ((w.alloc<|.cells (qe k) 43).alloc<|.cells (qe v) 43) (w.heap.size+1) v:=O ⟨⟨ot,oe,oe,oe,oe,oe⟩,⟨oq,oe,oe,oe,oe,oe⟩⟩;by_cases ar:DX d
 case' pos=>
  rcases O (Aj ar),O λW hW=>ag W hW ar,O (ei ar) with⟨cp,dp,dq⟩;clear ar HC;go_enter func205,ntmps205;go_wp2_with fail;refine(cj _ aq).mono ?_;rintro e w1 ⟨rfl,H⟩;rw[z cp];rcases o8 aq H,au.1.keep H.size<|H.block _ au.1.lt,au.2.keep H.size (H.block _ au.2.lt) with⟨cq,cr,ct⟩;clear H;go_wp2_with fail;refine(dp _ cq).mono ?_;rintro e W ⟨⟨⟨uu,rfl⟩,b1,l,Ec,Sc,av⟩,B⟩;have vk:NS W w.heap.size k:=cr.keep B.CX.size (B.Bw _ cr.lt (by
   rintro(e|⟨i,hi,e⟩)
   .omega
   have:=z HE i hi;omega))
  have vv:NS W (w.heap.size+1) v:=ct.keep B.CX.size (B.Bw _ ct.lt (by
   rintro(e|⟨i,hi,e⟩)
   .omega
   have:=z HE i hi;omega))
  have cu:KX Mq bk w W:=⟨(cq.mono om).trans B.CX,λb _ h=>absurd (dq b) h⟩;have hU:∀b,mM bk b1 l b->Mq b:=λb _=>dq b;clear B dp cr ct cq au cj ag aq
 case' neg=>
  have cp:=O<|Ae ar;have eB:=z HC ar;subst eB;clear ar HC ag;go_enter func205,ntmps205;go_wp2_with fail;refine(cj _ aq).mono ?_;rintro e W ⟨rfl,H⟩;rw[z cp];rcases hM.below (o8 aq H),au.1.keep H.size<|H.block _ au.1.lt,au.2.keep H.size (H.block _ au.2.lt) with⟨av,vk,vv⟩;have cu:KX Mq bk w W:=KX.Ax (o8 aq H) om;obtain⟨b1,l,Ec,Sc,av,hU⟩:∃b1 l Ec Sc,AG W bk b1 r1 l Ec Sc c/\∀b,mM bk b1 l b->Mq b:=⟨_,_,_,_,av,ej⟩;clear H au cj aq
 all_goals
  obtain⟨la,lc,e0⟩:=av.log.slice;subst e0;rcases av.c6,av.c5,av.fz 5,av.fz 6,Q.turns.1 with⟨c6,c5,f5,f6,tp⟩;have fx:0<=c.live:=oS Q.log.CI;have eF:IntKind.i64.wrap (c.turns+1)=c.turns+1:=oj;have R:IntKind.i64.wrap (c.live+1)=c.live+1:=oj;have ck:=(av.Pt<|c.turns+1).Im<|c.live+1;have HU:=O hU;clear av hU;go_wp2_with fail;generalize br:(W.setCell (G bk 6)<|J<|c.turns+1).setCell (G bk 5) (J<|c.live+1)=W2 at*;have a7:NS W2 w.heap.size k:=vk.keep (by rw[<-br];simp) (by rw[<-br];exact(At _ _ _ _<|by show w.heap.size≠bk;omega).trans (At _ _ _ _<|by show w.heap.size≠bk;omega));have bc:NS W2 (w.heap.size+1) v:=vv.keep (by rw[<-br];simp) (by rw[<-br];exact(At _ _ _ _<|by show w.heap.size+1≠bk;omega).trans (At _ _ _ _<|by show w.heap.size+1≠bk;omega));have dr:KX Mq bk w W2:=by rw[<-br];exact(cu.setCell (Be _) (λ_=>HU _<|.inl rfl) _).setCell (Be _) (λ_=>HU _<|.inl rfl) _
  have cl:=z ck;have eI:=cl.lt;have dt:W2.cell? (G bk 6)=some (J<|c.turns+1):=cl.c6;rcases cl.c0,a7.lt,bc.lt with⟨du,eP,eS⟩;have bt:QA w.heap.size bk k v (c.turns+1) la c.n lc W2.drew:=⟨a7.k0,a7.k1,a7.k2,a7.k3,a7.k4,bc.k0,bc.k1,bc.k2,bc.k3,bc.k4,dt,du⟩;clear cl bc c6 c5 f5 f6 dt du br R eF vk vv cu;refine Gq (QA w.heap.size bk k v (c.turns+1) la c.n lc) ?_;refine tz 0 (h:=tz 1 (h:=tz 2 (h:=tz 3 (h:=tz 4 (h:=tz 5 (h:=tz 6 (h:=tz 7 (h:=tz 8 (h:=tz 9 (h:=tz 10 (h:=tz 11 (h:=?_))))))))))));refine tz 12 (h:=?_);refine ry 13 λK hK=>?_;go_simp;refine hK.out _ _ (bt.below n9 eS eI) λeT=>?_;clear hK K;refine tz 14 (h:=?_);try simp only[AaQ]
  try simp only[AaF]
  try simp only[AaE]
  try simp only[Aac]
  try simp only[AaY]
  try simp only[AaX]
  refine Fj ?_;clear bt eT;obtain⟨W3,b2⟩:=o9<|(W2.alloc<|.cells (FZ ⟨k,v,c.turns+1⟩ c.n) 303).drew;try simp only[World.alloc_drew]
  rw[<-b2];have z3:W3.heap.size=W2.heap.size+1:=by rw[b2];simp
  have b3:B9 W2 W3:=by rw[b2];exact(n9).drew
  have dv:W3.heap[W2.heap.size]?=some (.cells (FZ ⟨k,v,c.turns+1⟩ c.n) 303 (0,0)):=by rw[b2];exact DD _ _
  have a8:=a7.keep b3.size<|b3.block _ eP;have dw:=dr.trans<|KX.Ax b3 om;obtain⟨a,cm⟩:=o9<|AU Ec c.n W2.heap.size;have ax:a c.n=W2.heap.size:=by rw[cm];exact Au _ _ _
  have hA:Lw W3 bk (.slice la c.n lc) r1 l a Sc<|FE c k v:=by
   have eX:=ck.below b3;refine⟨eX.of_same rfl rfl rfl rfl rfl rfl (λ_ _=>rfl) (λ_ _=>rfl) (λi hi=>Ao _ _ (by have bu:i<c.n:=hi;omega)) (λi hi=>by rw[cm];exact Ao _ _ (by have bu:i<c.n:=hi;omega)) ey ez,?_,?_,λi hi=>?_⟩
   .show BC W3 (a c.n) ((FE c k v).L c.n) c.n;rw[ax,dJ];exact BC.XZ dv
   .show bk<a c.n;omega
   have bu:i<c.n:=hi;show a i≠a c.n;rw[ax,cm,Ao _ _ om];have:=(ck.Cw i bu).lt;omega
  rcases a8.lt,hA.bm.lt,hA.bm.rf with⟨l3,cv,⟨R1,k1,e1⟩⟩;have e1:r1=.slice (some<|G R1 0) c.m k1:=e1;have c1:W3.cell? (G bk 1)=some (.slice (some<|G R1 0) c.m k1):=by rw[<-e1];exact hA.bm.c1
  rcases (hA.bm.ints.lt R1<|qh e1).1,a8.k0,a8.k1,a8.k2,a8.k3,a8.k4,O e1 with⟨fy,q0,q1,q2,q3,q4,bf⟩;rw[<-ax];clear cm ax e1 dv b3 b2 ck dr z3 a7;by_cases hs:Ay c.m k
  .have cw:=O<|Aj hs;obtain⟨a1,a2,a3⟩:=hs;obtain⟨q,hq⟩:∃q:Nat,k.num=(q:Int)+1:=⟨(k.num-1).toNat,om⟩;have dx:q<c.m:=om;have Z:Hid<|{FE c k v with I:=AU (FE c k v).I q ((c.n:Int)+1),n:=c.n+1}=Bx hf c k v:=O (by
    have e:Bx hf c k v=Co c k v:=C3 ⟨a1,a2,a3⟩;rw[e];unfold Co;rw[show(k.num-1).toNat=q by omega];rfl)
   have fE:IntKind.i64.wrap (q:Int)=q:=oj;have HQ:=O hq;have e4:=O<|dh a1;clear a1 a2 a3 hq;go_wp2_with fail;refine qr W3 ?_;(iterate 6 refine N (h:=?_));refine GC λK hK=>?_;go_simp;apply Exists.intro;refine qj (λw' C=>?_) (hK _ ?_)
   .refine((z cw)▸Ca k c.m _ om).mono ?_;rintro e cx ⟨rfl,hb⟩;exact⟨rfl,o8 C hb⟩
   clear hK K;refine GS ?_;intro w4 f;rcases A0 l3 f.size,A0 cv f.size,(f.cell cv).trans c1,(f.cell l3).trans q1 with⟨l4,e6,e7,b4⟩;rw[z HQ]at b4;have s:Lw w4 bk (.slice la c.n lc) r1 l a Sc<|FE c k v:=⟨hA.bm.below f,hA.e.keep f.size<|f.block _ hA.e.lt,hA.eb,hA.ne⟩;have ay:AG w4 bk (.slice la c.n lc) (.slice (some<|G R1 0) c.m k1) l a Sc<|FE c k v:=by rw[<-z bf];exact s.bm
   obtain⟨_,_,e5,_,_,_,cy,dy⟩:=ay.ints.form (by show 0<c.m;omega);cases e5;rcases cy q (by show q<c.m;exact dx),dy q,ay.ints.block (b:=R1) rfl with⟨d5,f5,⟨e8,az⟩⟩;have hp:=AG.Zr (d:=FE c k v) ay (by show q<c.m;exact dx)<|(c.n:Int)+1;rw[show CG a ((c.n:Int)+1)=some (G (a c.n) 0) by unfold CG;rw[C3 om,show((c.n:Int)+1-1).toNat=c.n by omega]]at hp;have e9:Hid<|Lw (w4.setCell (G R1 q)<|.pointer<|some<|G (a c.n) 0).drew bk (.slice la c.n lc) (.slice (some<|G R1 0) c.m k1) l a Sc {FE c k v with I:=AU (FE c k v).I q ((c.n:Int)+1)}:=O ⟨hp.below (BE _ _).drew,s.e.keep oq<|At _ _ _ _<|by show a c.n≠R1;exactλe=>Br (e▸s.e.ob) az oo,s.eb,s.ne⟩;have bw:=O ((dw.trans<|KX.Ax f om).setCell (g:=R1) (q:=q) om (λ_=>e4 _)<|.pointer<|some<|G (a c.n) 0).drew;have bt:lM bk w.heap.size R1 c.m k1 q w4.drew:=⟨e7,b4⟩;have fa:R1≠w.heap.size:=λe=>by
    have h1:=a8.keep f.size<|f.block _ l3;have h2:=h1.k0;rw[<-e]at h2;rw[cy 0 (by show 0<c.m;omega)]at h2;cases h2
   clear ay s hp az f cy dy q0 q1 q2 q3 q4 c1 hA;go_wp2_with fail;refine Gq (lM bk w.heap.size R1 c.m k1 q) ?_;refine tz 0 (h:=tz 1 (h:=tz 2 (h:=tz 3 (h:=tz 4 (h:=tz 5 (h:=tz 6 (h:=tz 7 (h:=tz 8 (h:=?_)))))))));refine ry 9 λK hK=>?_;go_simp;refine hK.out _ _ ⟨(Al om).trans bt.1,(Al fa).trans bt.2⟩ λ_=>?_;clear hK K bt;refine Fj ?_;generalize fF:(w4.setCell (G R1 q)<|.pointer<|some<|G (a c.n) 0).drew=W5 at*;have P:Lw W5 bk (.slice la c.n lc) (.slice (some<|G R1 0) c.m k1) l a Sc {FE c k v with I:=AU (FE c k v).I q ((c.n:Int)+1)}:=e9;have b5:=z bw;have bg:Rw W5 (bk+1) Df (.slice la c.n lc) c.n λi=>some<|G (a i) 0:=P.bm.log;have fb:=P.bm.c0;have fc:=P.bm.lt;have bh:Hid (∀(o:Obj) (g3 D:Nat) (w3:Y),w3.ownsRow (bk+1) Df 1 (.slice (some<|G g3 0) (c.n+1) D) (c.n+1) (GN (λi=>some<|G (a i) 0) c.n++[.pointer (some (G (a c.n) 0))])->((W5).alloc o).grownBy w3 (Value.slice la c.n lc).ownBlock->((Value.slice la c.n lc).ownBlock=some g3\/g3=(W5).heap.size+1)->
     w3.cell? (G bk 0)=some (.slice la c.n lc)/\w3.frozen? (G bk 0)=false/\bk<w3.heap.size/\(∃F t S',AG (w3.setCell (G bk 0) (.slice (some (G g3 0)) (c.n+1) D)) bk (.slice (some (G g3 0)) (c.n+1) D) F t a S' (Bx hf c k v))/\KX Mq bk w (w3.setCell (G bk 0) (.slice (some (G g3 0)) (c.n+1) D))):=O (λo g3 D w3 h1 h2 h3=>by
    obtain⟨p1,p2,p3,p4,p5⟩:=P.fin h1 h2 h3;exact⟨p1,p2,p3,⟨_,_,_,by rw[<-z Z];exact p4⟩,((b5.alloc om o).grown h2 om (λr e=>.inr ⟨oS (P.bm.log.lt r e).1,HU _ (.inr (.inl e))⟩)).setCell (Be _) (λ_=>HU _ (.inl rfl)) _⟩)
   clear P b5;go_wp2_with (at_builtin;refine RC _ rfl _ _ 296 rfl (bk+1) Df i0 (.pointer none) 1 8 underlying296 di dj dk dm rfl oo (.slice la c.n lc) c.n (GN (λi=>some<|G (a i) 0) c.n) rfl (OR bg _) (G ((W5).heap.size) 0) 1 1 [.pointer (some (G (a c.n) 0))] rfl rfl (Is<|DD _ _) oh oo od om ot ((W5).heap.size+1) oq ?_;intro g3 D w3 ad ah ae c7;obtain⟨x3,f3,fe,b6,b7⟩:=z bh _ g3 D w3 ad ah ae;have cz:=O b6;have cD:=O b7;clear ad ah ae b6 b7);go_end0;obtain⟨F,t,S',hN⟩:=z cz;exact⟨⟨⟨_,rfl⟩,_,F,t,a,S',hN⟩,cD⟩
  rcases O (Ae hs),O hs,Jr KL Q ev hk cn hv c9 cc U ao with⟨cw,dz,bj⟩;have dC:=O bj.2.2.1;have dU:=O bj.2.2.2.1;clear hs bj;go_wp2_with fail;refine qr W3 ?_;(iterate 6 refine N (h:=?_));refine GC λK hK=>?_;go_simp;apply Exists.intro;refine qj (λw' C=>?_) (hK _ ?_)
  .refine((z cw)▸Ca k c.m _ om).mono ?_;rintro e cx ⟨rfl,hb⟩;exact⟨rfl,o8 C hb⟩
  clear hK K;refine GS ?_;intro w4 f;rcases A0 l3 f.size,A0 cv f.size,a8.keep f.size (f.block _ l3) with⟨l4,e6,bx⟩;rcases bx.k0,bx.k1,bx.k2,bx.k3,bx.k4 with⟨ea,b4,ec,ef,eh⟩;have s:Lw w4 bk (.slice la c.n lc) r1 l a Sc<|FE c k v:=⟨hA.bm.below f,hA.e.keep f.size<|f.block _ hA.e.lt,hA.eb,hA.ne⟩;have bw:=dw.trans<|KX.Ax f om;have cN:Hid<|Small<|FE c k v:=O ⟨c4,by show c.m<=_;omega,by show c.x<=_;omega⟩;have a6:Hid<|∀w',B9 w4 w'->C9 216 #[.pointer (some<|G bk 0)] w' λe cx=>e=.returned (V 2 ((c.m:Int)+1) 0 ⟨#[]⟩ 0)/\B9 w' cx:=O (λw' C=>by
   obtain⟨ff,fg,fh⟩:=(s.bm.below C).book;exact I7 bk ff fg l a Sc (FE c k v) w' fh cN)
  clear f bx q0 q1 q2 q3 q4 c1 hA;by_cases b8:k.kind=2/\k.num=(c.m:Int)+1
  focus
   have b9:=O b8;have HF:=O<|Nq cn b8.1;clear b8;go_wp2_with fail;refine qr w4 ?_;refine N (h:=N (h:=?_));refine GC λK hK=>?_;go_simp;refine⟨_,λw' C=>qk C<|a6 _ C,hK _ ?_⟩;clear hK K;refine GC λK hK=>?_;go_simp;refine⟨.bool true,λw' C=>?_,hK _ ?_⟩
   .obtain⟨x1,x2⟩:=z b9;obtain⟨x3,x4,x5⟩:=z HF;have fj:O9 k.Af 0=some Ordering.eq:=by simpa using x3
    have fk:=List.isEmpty_iff.1 x4;simp only[x1,x2,x5,fj,fk,if_true];exact⟨trivial,trivial⟩
   clear hK K;refine GS ?_;intro w5 R;have A:Lw w5 bk (.slice la c.n lc) r1 l a Sc<|FE c k v:=⟨s.bm.below R,s.e.keep R.size<|R.block _ s.e.lt,s.eb,s.ne⟩;have bd:=bw.trans<|KX.Ax R om;have af:Hid<|C9 217 #[.pointer (some<|G bk 0),.pointer (some<|G (a c.n) 0)] w5 λe w'=>(∃u,e=.returned u)/\(∃F S',Lw w' bk (.slice la c.n lc) F l a S' {Bx hf c k v with n:=c.n})/\KX Mq bk w w':=O (by
    obtain⟨x1,x2⟩:=z b9;have c3:=bz _ _ HT bd.CX;have ca:((FE c k v).L (FE c k v).n)=⟨k,v,c.turns+1⟩:=dJ c k v;have ak:Bx hf c k v=CP hf (c.x+1) (Ch c k v):=by unfold Bx;rw[Cs (z dz),C3 ⟨x1,x2⟩]
    rcases A.bm.ints.block (b:=R1) (qg bf),A.bm.slots.block (b:=l) rfl,A.e with⟨⟨e8,az⟩,⟨fl,bn⟩,aw⟩;refine(ek ⟨x1,om⟩ T cg hf K KL ch bk bz (.slice la c.n lc) r1 l a Sc (FE c k v) w5 c3 A.bm cN eA (by rw[ca];exact x1) (by rw[ca];exact x2)<|IU KL Q hk cn hv c9 cc x1 x2 U ao).mono ?_;rintro e w' ⟨⟨hu,F,S',hN⟩,B⟩;have hN:AG w' bk (.slice la c.n lc) F l a S' {CP hf (c.x+1) (Ch c k v)with n:=c.n}:=hN;rw[<-ak]at hN;have bp:=B.Bw (a c.n) aw.lt (by
     rintro(e|e|e)
     .have:=A.eb;have h':bk<a c.n:=this;omega
     .rw[z bf]at e;have e':R1=a c.n:=oF e;exact Br (e'▸aw.ob) az oo
     exact Br (e▸aw.ob) bn oo)
    refine⟨hu,⟨F,S',hN,?_,A.eb,A.ne⟩,bd.trans<|B.mono λb _ _=>dh x1 b⟩;have h1:(Bx hf c k v).L c.n=(FE c k v).L c.n:=qg dU
    show BC w' (a c.n) ((Bx hf c k v).L c.n) c.n;rw[h1];exact aw.keep B.CX.size bp)
   clear A bd R bw a6 ea b4 ec ef eh s;go_wp2_with fail;refine af.mono ?_;rintro e w6 ⟨⟨fm,rfl⟩,⟨fo,Sx,ai⟩,aj⟩;have Z:Hid<|{{Bx hf c k v with n:=c.n}with n:=c.n+1}=Bx hf c k v:=O (by
    have h1:=z dC;generalize Bx hf c k v=M at h1;cases M;simp only at h1;subst h1;rfl)
   have bq:=O ai;have cd:=O aj;clear ai aj af;have P:Lw w6 bk (.slice la c.n lc) fo l a Sx {Bx hf c k v with n:=c.n}:=bq
  rotate_left
  focus
   have b9:=O b8;clear b8;go_wp2_with fail;refine qr w4 ?_;refine N (h:=N (h:=?_));refine GC λK hK=>?_;go_simp;refine⟨_,λw' C=>qk C<|a6 _ C,hK _ ?_⟩;clear hK K;refine GC λK hK=>?_;go_simp;refine⟨.bool false,λw' C=>?_,hK _ ?_⟩
   .have c8:=z b9;by_cases x1:k.kind=2
    .have x2:¬k.num=(c.m:Int)+1:=λh=>c8 ⟨x1,h⟩;simp only[x1,x2,if_true,XN];exact⟨trivial,trivial⟩
    simp only[x1,XN];exact⟨trivial,trivial⟩
   clear hK K;refine GS ?_;intro w5 R;have A:Lw w5 bk (.slice la c.n lc) r1 l a Sc<|FE c k v:=⟨s.bm.below R,s.e.keep R.size<|R.block _ s.e.lt,s.eb,s.ne⟩;have bd:=bw.trans<|KX.Ax R om;have af:Hid<|C9 218 #[.pointer (some<|G bk 0),.pointer (some<|G (a c.n) 0)] w5 λe w'=>(∃u,e=.returned u)/\(∃t S',Lw w' bk (.slice la c.n lc) r1 t a S' {Bx hf c k v with n:=c.n})/\KX Mq bk w w':=O (by
    have c3:=bz _ _ HT bd.CX;have ca:((FE c k v).L (FE c k v).n)=⟨k,v,c.turns+1⟩:=dJ c k v;have fq:=(Hb Q U).2.2.n;have ak:AR hf (Pn hf<|FE c k v) ((FE c k v).L (FE c k v).n).key (FE c k v).n={Bx hf c k v with n:=c.n}:=by
     have e1:Bx hf c k v=AR hf (B3 (C4 hf c) k v) k c.n:=by unfold Bx;rw[Cs (z dz),Cs (z b9)]
     rw[e1,ca,eK Q.core,dK fq];exact YA hf (B3 (C4 hf c) k v) k c.n c.n
    obtain⟨fl,bn⟩:=A.bm.slots.block (b:=l) rfl;have aw:=A.e;refine(NY cg hf bz c3 A.bm cN (λi hi ht=>by
     have bu:i<c.n:=hi;rw[Nw c k v bu]at ht ⊢;exact ch _ (Q.keys i bu ht)) (by rw[XM];exact dA Q.core U) aw A.eb (by rw[ca];exact ch k hk) (λj hj=>by
     rcases Q.idx.range j hj with e|e|e
     .exact .inl e
     .exact .inr (.inl e)
     exact .inr (.inr e.1)) Q.used).mono ?_
    rintro e w' ⟨⟨hu,t,S',hN⟩,B⟩;rw[ak]at hN;have bp:=B.Bw (a c.n) aw.lt (by
     rintro(e|e)
     .have h':bk<a c.n:=A.eb;omega
     exact Br (e▸aw.ob) bn oo)
    refine⟨hu,⟨t,S',hN,?_,A.eb,A.ne⟩,bd.trans<|B.mono λb _ h=>HU _<|h.elim .inl λe=>.inr<|.inr e⟩;have h1:(Bx hf c k v).L c.n=(FE c k v).L c.n:=qg dU
    show BC w' (a c.n) ((Bx hf c k v).L c.n) c.n;rw[h1];exact aw.keep B.CX.size bp)
   clear A bd R bw a6 ea b4 ec ef eh s;go_wp2_with fail;refine af.mono ?_;rintro e w6 ⟨⟨fm,rfl⟩,⟨fr,Sx,ai⟩,aj⟩;have Z:Hid<|{{Bx hf c k v with n:=c.n}with n:=c.n+1}=Bx hf c k v:=O (by
    have h1:=z dC;generalize Bx hf c k v=M at h1;cases M;simp only at h1;subst h1;rfl)
   have bq:=O ai;have cd:=O aj;clear ai aj af;have P:Lw w6 bk (.slice la c.n lc) r1 fr a Sx {Bx hf c k v with n:=c.n}:=bq
  all_goals
   have b5:=z cd;have bg:Rw w6 (bk+1) Df (.slice la c.n lc) c.n λi=>some<|G (a i) 0:=P.bm.log;have fb:=P.bm.c0;have fc:=P.bm.lt;have bh:Hid (∀(o:Obj) (g3 D:Nat) (w3:Y),w3.ownsRow (bk+1) Df 1 (.slice (some<|G g3 0) (c.n+1) D) (c.n+1) (GN (λi=>some<|G (a i) 0) c.n++[.pointer (some (G (a c.n) 0))])->((w6).alloc o).grownBy w3 (Value.slice la c.n lc).ownBlock->((Value.slice la c.n lc).ownBlock=some g3\/g3=(w6).heap.size+1)->
     w3.cell? (G bk 0)=some (.slice la c.n lc)/\w3.frozen? (G bk 0)=false/\bk<w3.heap.size/\(∃F t S',AG (w3.setCell (G bk 0) (.slice (some (G g3 0)) (c.n+1) D)) bk (.slice (some (G g3 0)) (c.n+1) D) F t a S' (Bx hf c k v))/\KX Mq bk w (w3.setCell (G bk 0) (.slice (some (G g3 0)) (c.n+1) D))):=O (λo g3 D w3 h1 h2 h3=>by
    obtain⟨p1,p2,p3,p4,p5⟩:=P.fin h1 h2 h3;exact⟨p1,p2,p3,⟨_,_,_,by rw[<-z Z];exact p4⟩,((b5.alloc om o).grown h2 om (λr e=>.inr ⟨oS (P.bm.log.lt r e).1,HU _ (.inr (.inl e))⟩)).setCell (Be _) (λ_=>HU _ (.inl rfl)) _⟩)
   clear P b5;go_wp2_with (at_builtin;refine RC _ rfl _ _ 296 rfl (bk+1) Df i0 (.pointer none) 1 8 underlying296 di dj dk dm rfl oo (.slice la c.n lc) c.n (GN (λi=>some<|G (a i) 0) c.n) rfl (OR bg _) (G ((w6).heap.size) 0) 1 1 [.pointer (some (G (a c.n) 0))] rfl rfl (Is<|DD _ _) oh oo od om ot ((w6).heap.size+1) oq ?_;intro g3 D w3 ad ah ae c7;obtain⟨x3,f3,fe,b6,b7⟩:=z bh _ g3 D w3 ad ah ae;have cz:=O b6;have cD:=O b7;clear ad ah ae b6 b7);go_end0;obtain⟨F,t,S',hN⟩:=z cz;exact⟨⟨⟨_,rfl⟩,_,F,t,a,S',hN⟩,cD⟩
def AG.rW(h:AG w bk r0 r1 R2 E S d){p}(hp:p<d.n){q}(hz:w'.heap.size=w.heap.size)(hb:∀b,b≠E p->w'.heap[b]?=w.heap[b]?)(u:w'.heap[E p]?=some (.cells (FZ q p) 303 (0,0)))(hk:q.key=(d.L p).key\/∀j,j<d.x->d.X j≠(p)+1):AG w' bk r0 r1 R2 E S {d with L:=AU d.L p q}:=by
 have g:=h.Cw p hp;have k:E p≠bk:=oS<|h.eb p hp;have hc:∀q,w'.cell? (G bk q)=w.cell? (G bk q):=λq=>As (a:=G bk q)<|hb bk λe=>k e.symm;have o:∀{t:TypeId} {v:V9} {n:Nat} {f:Nat->Option Addr},Rw w (bk+1) t v n f->t≠303->Rw w' (bk+1) t v n f:=λ{t v n f} r A=>CD r (λb e=>hb b (λe'=>by
  obtain⟨c,l⟩:=r.block e;rw[e']at l;exact Br l g.ob A))
 refine⟨by rw[hz];exact h.lt,(hc _).trans h.c0,(hc _).trans h.c1,(hc _).trans h.c2,(hc _).trans h.c3,(hc _).trans h.c4,(hc _).trans h.c5,(hc _).trans h.c6,λq=>(ID (a:=G bk q)<|hb bk λe=>k e.symm).trans<|h.fz q,o h.log oo,o h.ints oo,h.rf,o h.slots oo,h.ap,λi hi=>?_,h.eb,h.inj,λj hj=>?_,h.sg⟩
 .show BC w' (E i) (AU d.L p q i) i;by_cases e:i=p
  .subst e;rw[Au];exact BC.XZ u
  rw[Ao _ _ e];exact(h.Cw i hi).keep om (hb _ λe'=>e<|h.inj i p hi hp e')
 have hs:=(h.sl j hj).keep (w':=w') om (λc m=>hb _ (λe=>by
  rw[e]at m;exact Br m g.ob oo))
 refine⟨λs=>?_,hs.2⟩;have h1:=hs.1 s;show Iy w' (S j) (AU d.L p q (d.X j-1).toNat).key (E (d.X j-1).toNat);by_cases e:(d.X j-1).toNat=p
 .rw[e,Au];rcases hk with hk|hk
  .rw[hk];have h2:Iy w' (S j) (d.L (d.X j-1).toNat).key<|E (d.X j-1).toNat:=h1;rw[e]at h2;exact h2
  have B:0<d.X j:=s;exact absurd (show d.X j=(p:Int)+1 by omega)<|hk j hj
 rw[Ao _ _ e];exact h1
def Jl(w:Y)(b:Nat)(v:Vl):World:=((((w.setCell (G b 5)<|J v.kind).setCell (G b 6)<|J v.num).setCell (G b 7)<|F9 v.Af).setCell (G b 8)<|.string v.str).setCell (G b 9)<|J v.ref
def C1(w:Y)(b:Nat):World:=((((((((((w.setCell (G b 0)<|J 0).setCell (G b 1)<|J 0).setCell (G b 2)<|F9 0).setCell (G b 3)<|E9).setCell (G b 4)<|J 0).setCell (G b 5)<|J 0).setCell (G b 6)<|J 0).setCell (G b 7)<|F9 0).setCell (G b 8)<|E9).setCell (G b 9)<|J 0).setCell (G b 10)<|J 0
def SY{v}(h:b'≠b):(Jl w b v).heap[b']?=w.heap[b']?:=by
 unfold Jl;iterate 5 (refine(At _ _ _ _<|by exact h).trans ?_)
 rfl
def Pf(h:b'≠b):(C1 w b).heap[b']?=w.heap[b']?:=by
 unfold C1;iterate 11 (refine(At _ _ _ _<|by exact h).trans ?_)
 rfl
def Vb{v}(h:BC w b p i):(Jl w b v).heap[b]?=some (.cells (FZ ⟨p.key,v,p.turn⟩ i) 303 (0,0)):=by
 have h1:=Lo w b 5 _ _ (J v.kind) h.ob;have h2:=Lo _ b 6 _ _ (J v.num) h1;have h3:=Lo _ b 7 _ _ (F9 v.Af) h2;have h4:=Lo _ b 8 _ _ (.string v.str) h3;have h5:=Lo _ b 9 _ _ (J v.ref) h4;exact h5.trans<|by simp[FZ]
def J4(h:BC w b p i):(C1 w b).heap[b]?=some (.cells (FZ default i) 303 (0,0)):=by
 have h1:=Lo w b 0 _ _ (J 0) h.ob;have h2:=Lo _ b 1 _ _ (J 0) h1;have h3:=Lo _ b 2 _ _ (F9 0) h2;have h4:=Lo _ b 3 _ _ E9 h3;have h5:=Lo _ b 4 _ _ (J 0) h4;have d:=Lo _ b 5 _ _ (J 0) h5;have e:=Lo _ b 6 _ _ (J 0) d;have f:=Lo _ b 7 _ _ (F9 0) e;have g:=Lo _ b 8 _ _ E9 f;have a:=Lo _ b 9 _ _ (J 0) g;have c:=Lo _ b 10 _ _ (J 0) a;exact c.trans<|by simp[FZ];exact⟨rfl,rfl,rfl,rfl,rfl,rfl,rfl,rfl,rfl,rfl,rfl⟩
def SX{v}(h:bk<=b):Below bk w<|Jl w b v:=by
 unfold Jl;iterate 5 (refine NO ?_ (by exact h) _)
 exact BE _ _
def Pe(h:bk<=b):Below bk w<|C1 w b:=by
 unfold C1;iterate 11 (refine NO ?_ (by exact h) _)
 exact BE _ _
def Vc{v}:(Jl w b v).heap.size=w.heap.size:=by unfold Jl;simp
def Qp:(C1 w b).heap.size=w.heap.size:=by unfold C1;simp
def ZW(g:En T){hf}{K}(h:∀v,K v->PW T v (hf v)){bk}(k:∀w w',T w->Below bk w w'->T w'){r0 r1}{R2}{E S}{d}{W:Y}(n:T W)(o:AG W bk r0 r1 R2 E S d)(p:Small d)(c:BN K hf d)(f:DX d):
  C9 215 #[Q9 bk] W λe w'=>((∃u,e=.returned u)/\∃a b l S',AG w' bk a r1 b l S'<|Ap hf d)/\Below bk W w':=by
 refine(MN g hf k n o p (λi hi q=>h _<|c.keys i hi q) (by have:=c.core.Ko;have:=c.le;omega) (λj hj=>by
  rcases c.ints j hj with e|e
  .exact .inl e
  .exact .inr ⟨e.1,e.2.1,e.2.2.1⟩) (λj hj r=>by
  rcases c.idx.range j hj with e|e|⟨e1,e2,e3,_⟩
  .omega
  .omega
  exact⟨om,e3⟩)).mono ?_
 rintro e w' ⟨⟨hu,a,b,l,S',hN⟩,m⟩;exact⟨⟨hu,a,b,l,S',hN.KI c.core<|by have:=f.1;have:=f.2;omega⟩,m.CX⟩
def Zc(h:¬DX d):Ap hf d=d:=C3 (by
 by_cases a:(d.n:Int)<8
 .exact .inl a
 exact .inr (by
  refine AaO λh2=>h ⟨om,om⟩))
def WE(T)(aq:En T)(hf)(K)(KL:KeyLaw K hf)(bg:∀v,K v->PW T v (hf v))(bk)(bh:∀w w',T w->Below bk w w'->T w')(r0 r1)(R2)(E S)(d)(p)(w)(hT:T w)(Q:AG w bk r0 r1 R2 E S d)(D:Small d)
  (F:Inv K hf d) (hp:p<d.n) (ht:(d.L p).turn≠0):
  C9 204 #[.pointer (some<|G bk 0),.pointer (some<|G (E p) 0)] w λe w'=>((∃u,e=.returned u)/\∃ar f au E2 S',AG w' bk ar f au E2 S'<|aE hf d p)/\Below bk w w':=by
 rcases E7 KL F.i0 F.next hp ht,Q.lt,Q.Cw p hp with⟨⟨g1,g2,g3,g4,g5,g6⟩,cc,t⟩;rcases t.k0,t.k1,t.k2,t.k3,t.k4,t.lt,Q.eb p hp,Q.rf,Q.c1 with⟨k0,k1,k2,k3,k4,av,cd,⟨R1,q1,e1⟩,c1⟩;rw[e1]at c1;rcases D.m,F.i0.log.CI,F.i0.le with⟨bj,cb,cg⟩;have ch:1<=d.live:=by
  have h1:=La hp ht;have h3:Cu d d.n=Kq d:=rfl;omega
 have cj:IntKind.i64.wrap (d.live-1)=d.live-1:=oj;have END:∀(W:Y) (f:V9) (S':Nat->Nat) (c:Dc),Below bk w W->AG W bk r0 f R2 E S' c->c.n=d.n->c.L=d.L->(∀j,j<c.x->c.X j≠(p:Int)+1)->{c with L:=AU c.L p default,live:=d.live-1}=Hj hf d p->c.live=d.live->Small c->
   (W.frozen? (G (E p) 0)=false/\∀q,W.frozen? (G (E p) q)=false)/\E p<W.heap.size/\BC W (E p) (d.L p) p/\BC (C1 W<|E p) (E p) default p/\AG (C1 W<|E p) bk r0 f R2 E S' {c with L:=AU c.L p default}/\AG ((C1 W<|E p).setCell (G bk 5)<|J<|d.live-1) bk r0 f R2 E S' (Hj hf d p)/\Below bk w ((C1 W<|E p).setCell (G bk 5)<|J<|d.live-1):=λW f S' c hB B hn hL hx hg hl hs=>by
  have he:BC W (E p) (d.L p) p:=by have:=B.Cw p om;rwa [hL]at this
  have g:=B.rW om Qp (λb hb=>Pf hb) (J4 he)<|.inr hx;have ak:=g.Im<|d.live-1;have ak:AG ((C1 W<|E p).setCell (G bk 5)<|J<|d.live-1) bk r0 f R2 E S' {c with L:=AU c.L p default,live:=d.live-1}:=ak;rw[hg]at ak;have bm:∀q,W.frozen? (G (E p) q)=false:=λq=>by simp[World.frozen?,he.ob]
  exact⟨⟨bm 0,bm⟩,he.lt,he,BC.XZ<|J4 he,g,ak,(hB.trans<|Pe om).setCell (by exact Be _) _⟩
 have ag:=O END;have R:∀(W:Y) (f:V9) (S':Nat->Nat),Below bk w W->AG W bk r0 f R2 E S' (Hj hf d p)->Small (Hj hf d p)->(C9 214 #[.pointer (some<|G bk 0)] W<|R9 (.bool<|tells<|DX<|Hj hf d p) W)/\(∀W',B9 W W'->DX (Hj hf d p)->C9 215 #[.pointer (some<|G bk 0)] W' λe w'=>((∃u,e=.returned u)/\∃ar au E2 S',AG w' bk ar f au E2 S'<|aE hf d p)/\Below bk W' w')/\(∀W',B9 W W'->¬DX (Hj hf d p)->AG W' bk r0 f R2 E S' (aE hf d p)):=λW f S' hB B hs=>by
  refine⟨MB B hs (by rw[g5];omega)<|by rw[g5];omega,λW' A k=>?_,λW' A k=>?_⟩
  .exact ZW aq bg bh (bh _ _ hT<|hB.trans<|A.mono<|oS B.lt) (B.below A) hs g1 k
  show AG W' bk r0 f R2 E S' (Ap hf<|Hj hf d p);rw[Zc k];exact B.below A
 have ai:=O R;by_cases hs:Ay d.m (d.L p).key
 focus
  have aw:=O<|Aj hs;obtain⟨a1,a2,a3⟩:=hs;obtain⟨q,hq⟩:∃q:Nat,(d.L p).key.num=(q:Int)+1:=⟨((d.L p).key.num-1).toNat,om⟩;have bz:q<d.m:=om;have HG:Hid<|{{d with m:=shrink (AU d.I q 0) d.m,I:=AU d.I q 0}with L:=AU d.L p default,live:=d.live-1}=Hj hf d p:=O (by
   rw[Ju ⟨a1,a2,a3⟩];unfold goSmall;rw[show((d.L p).key.num-1).toNat=q by omega];rfl)
  have U:∀j,j<d.x->d.X j≠(p:Int)+1:=λj hj e=>by
   rcases F.i0.idx.range j hj with h|h|⟨h1,h2,h3,h4⟩
   .omega
   .omega
   rw[show(d.X j-1).toNat=p by omega]at h4;exact h4 ⟨a1,a2,a3⟩
  have ck:=(Jh (AU d.I q 0) d.m).1;have Z:Hid<|∀W,B9 w W->C9 212 #[.pointer (some<|G bk 0),J ((q:Int)+1)] W λe w'=>((∃u,e=.returned u)/\∃f,AG w' bk r0 f R2 E S {d with m:=shrink (AU d.I q 0) d.m,I:=AU d.I q 0})/\Below bk W w':=O (λW hW=>Qq q (Q.below hW) D bz (λj hj=>by
   rcases F.i0.ints j hj with e|e<;>omega))
  have HQ:=O hq;have ax:=O U;clear a1 a2 a3 hq U Q hT F END R g1 g2 g3 g4 g5 g6;go_enter func204,ntmps204;go_wp2_with fail;refine qr w ?_;(iterate 10 refine N (h:=?_));refine GC λK hK=>?_;go_simp;apply Exists.intro;refine qj (λw' ae=>?_) (hK _ ?_)
  .refine((z aw)▸Ca (d.L p).key d.m _ bj).mono ?_;rintro e b0 ⟨rfl,hb⟩;exact⟨rfl,o8 ae hb⟩
  clear hK K;refine GS ?_;intro w1 l;have b1:=(l.cell av).trans k1;rw[z HQ]at b1;have r:=A0 av l.size;have af:=O l;clear l k0 k1 k2 k3 k4 c1;go_wp2_with fail;refine(Z _ af).mono ?_;rintro e w2 ⟨⟨⟨uu,rfl⟩,f,g⟩,ao⟩;rcases z ag w2 f S _ (af.mono om |>.trans ao) g rfl rfl ax HG rfl ⟨D.n,by show shrink (AU d.I q 0) d.m<=_;omega,D.x⟩,g.c5,g.fz 5,g.lt with⟨⟨⟨b2,ff⟩,l2,e2,bn,m2,m3,b3⟩,c5,f5,b4⟩;rcases e2.k0,e2.k1,e2.k2,e2.k3,e2.k4,e2.v0,e2.v1,e2.v2,e2.v3,e2.v4,e2.tn with⟨z0,z1,z2,z3,z4,z5,z6,z7,z8,z9,b5⟩;have bp:Small<|Hj hf d p:=by rw[<-z HG];exact⟨D.n,by show shrink (AU d.I q 0) d.m<=_;omega,D.x⟩
 rotate_left
 focus
  have aw:=O<|Ae hs;obtain⟨s,bq,b6,ay⟩:=F.i0.found KL (F.i0.keys p hp ht) ⟨hp,ht,hs⟩<|KL.refl _<|F.i0.keys p hp ht;have HG:Hid<|{{d with X:=AU d.X s (-1)}with L:=AU d.L p default,live:=d.live-1}=Hj hf d p:=O (by rw[KK hs ay];rfl);have U:∀j,j<d.x->AU d.X s (-1) j≠(p:Int)+1:=λj hj e=>by
   by_cases ej:j=s
   .rw[ej,Au]at e;omega
   rw[Ao _ _ ej]at e;exact ej (F.i0.idx.uniq j s hj bq om om)
  have aj:Hid<|∀W,B9 w W->C9 207 #[.pointer (some<|G bk 2),V (d.L p).key.kind (d.L p).key.num (d.L p).key.Af (d.L p).key.str (d.L p).key.ref] W (R9 (J (s:Int)) W):=O (λW hW=>by
   obtain⟨b7,b8,hB⟩:=(Q.below hW).book;have:=Od T aq bk b7 b8 R2 E S d (d.L p).key (hf (d.L p).key) (bg _ (F.i0.keys p hp ht)) W (aq _ _ hT hW) hB D F.i0.d4;rw[ay]at this;exact this)
  have Z:Hid<|∀W,B9 w W->C9 213 #[.pointer (some<|G bk 2),J (s:Int)] W λe w'=>((∃u,e=.returned u)/\∃S',AG w' bk r0 r1 R2 E S' {d with X:=AU d.X s (-1)})/\KX (λb=>b=R2) bk W w':=O λW hW=>I4 s (Q.below hW) D bq;obtain⟨cl,ah⟩:=Q.slots.block (b:=R2) rfl;have bc:E p≠R2:=λe=>Br (e▸t.ob) ah oo;have ax:=O U;clear hs U Q hT F END R g1 g2 g3 g4 g5 g6 b6 ay ah;go_enter func204,ntmps204;go_wp2_with fail;refine qr w ?_;(iterate 10 refine N (h:=?_));refine GC λK hK=>?_;go_simp;apply Exists.intro;refine qj (λw' ae=>?_) (hK _ ?_)
  .refine((z aw)▸Ca (d.L p).key d.m _ bj).mono ?_;rintro e b0 ⟨rfl,hb⟩;exact⟨rfl,o8 ae hb⟩
  clear hK K;refine GS ?_;intro w1 l;have i:=t.keep l.size<|l.block _ av;have H:KD (E p) (d.L p).key w1.drew:=⟨i.k0,i.k1,i.k2,i.k3,i.k4⟩;rcases i.lt,l.size,O l with⟨r,cm,af⟩;clear l k0 k1 k2 k3 k4 c1 i;go_wp2_with fail;refine Gq (KD (E p) (d.L p).key) ?_;refine tz 0 (h:=tz 1 (h:=tz 2 (h:=tz 3 (h:=tz 4 (h:=tz 5 (h:=tz 6 (h:=tz 7 (h:=tz 8 (h:=tz 9 (h:=tz 10 (h:=?_)))))))))));refine ry 11 λK hK=>?_;go_simp;refine(aj _ af.drew).mono ?_;rintro e wf ⟨rfl,o⟩;have o:=(BE w1.heap.size w1).drew.trans o;have C:KD (E p) (d.L p).key wf:=⟨(o.cell (p:=G (E p) 0) r).trans H.1,(o.cell (p:=G (E p) 1) r).trans H.2.1,(o.cell (p:=G (E p) 2) r).trans H.2.2.1,(o.cell (p:=G (E p) 3) r).trans H.2.2.2.1,(o.cell (p:=G (E p) 4) r).trans H.2.2.2.2⟩;refine hK.out _ _ C λ_=>?_;clear hK K H;have cn:=o.size;have br:=af.trans<|o.mono om;clear o;refine ry 12 λK hK=>?_;go_simp;refine(Z _ br).mono ?_;rintro e w2 ⟨⟨⟨uu,rfl⟩,S2,g⟩,ad⟩;have ao:=ad.CX;have M:=ad.Bw (E p) om bc;refine hK.out _ _ ⟨(As (a:=G (E p) 0) M).trans C.1,(As (a:=G (E p) 1) M).trans C.2.1,(As (a:=G (E p) 2) M).trans C.2.2.1,(As (a:=G (E p) 3) M).trans C.2.2.2.1,(As (a:=G (E p) 4) M).trans C.2.2.2.2⟩ λ_=>?_;clear hK K C ad M;refine Fj ?_;rcases z ag w2 r1 S2 _ (br.mono om |>.trans ao) g rfl rfl ax HG rfl ⟨D.n,D.m,D.x⟩,g.c5,g.fz 5,g.lt with⟨⟨⟨b2,ff⟩,l2,e2,bn,m2,m3,b3⟩,c5,f5,b4⟩;rcases e2.k0,e2.k1,e2.k2,e2.k3,e2.k4,e2.v0,e2.v1,e2.v2,e2.v3,e2.v4,e2.tn with⟨z0,z1,z2,z3,z4,z5,z6,z7,z8,z9,b5⟩;have bp:Small<|Hj hf d p:=by rw[<-z HG];exact⟨D.n,D.m,D.x⟩
 all_goals
  obtain⟨L1,L2,L3⟩:=z ai _ _ _ b3 m3 bp;unfold C1 at L1 L2 L3 b3;rcases O L1,O L2,O L3,O b3 with⟨az,aM,a6,bt⟩;clear g ao e2 bn m2 m3 b3 L1 L2 L3;go_wp2_with fail;by_cases k:DX (Hj hf d p)
  .have a7:=O<|Aj k;have bd:=O λW' A=>aM W' A k;clear k aM a6;refine az.mono ?_;rintro e w5 ⟨rfl,P⟩;rw[z a7];have bu:=O P;clear P;go_wp2_with fail;refine(bd _ bu).mono ?_;rintro e w6 ⟨⟨⟨cp,rfl⟩,b9,ca,E6,S6,bw⟩,bx⟩;have a8:=bt.trans<|(bu.mono ot).trans bx;have bb:=O bw;clear bw bx;go_wp2;go_end0;exact⟨⟨⟨_,rfl⟩,b9,_,ca,E6,S6,bb⟩,a8⟩
  have a7:=O<|Ae k;have bf:=O λW' A=>a6 W' A k;clear k aM a6;refine az.mono ?_;rintro e w5 ⟨rfl,P⟩;rw[z a7];have a8:=bt.trans<|P.mono ot;have bb:=z bf _ P;clear P az;go_wp2;go_end0;exact⟨⟨⟨_,rfl⟩,_,_,_,_,_,bb⟩,a8⟩
def qH:Prop:=∀(T:World->Prop) (f:En T) (hf:Vl->Nat) (K:Vl->Prop) (j:KeyLaw K hf) (g:∀v,K v->PW T v (hf v)) (bk:Nat) (h:∀w w',T w->Below bk w w'->T w') (r0 r1:V9) (R2:Nat) (E S:Nat->Nat) (d:Dc) (p:Nat) (w:Y) (k:T w) (l:AG w bk r0 r1 R2 E S d) (m:Small d)
  (o:Inv K hf d) (hp:p<d.n) (q:(d.L p).turn≠0),
  C9 204 #[Q9 bk,Q9 (E p)] w λe w'=>((∃u,e=.returned u)/\∃a b c i S',AG w' bk a b c i S'<|aE hf d p)/\Below bk w w'
def uB:qH:=WE
def Mm(k v:Vl):Prop:=(v.kind=0->qH)/\(k.kind=2/\0<k.num->mP)
theorem mF k v:Mm k v:=⟨λ_=>uB,λ_=>tQ⟩
def pM(p:Int)(d:Dc)(k:Vl)(bk:Nat)(r0:V9)(R2 b:Nat):Prop:=p=-1->aM d k bk r0 R2 b
def Yc(B:En T){hf}{K}(KL:KeyLaw K hf)(Z:∀v,K v->PW T v (hf v)){bk}(aj:∀w w',T w->Below bk w w'->T w'){r0 r1}{R2}{E S}{d}{k}(v){w:Y}(hT:T w)(C:AG w bk r0 r1 R2 E S d)(hS:Small d)(aq:d.m<=4000000)
  (Q:Inv K hf d) (hk:K k) (ar:Cc k=true) (hv:v.ok=true) (hR:Mm k v):
  C9 194 #[Q9 bk,V k.kind k.num k.Af k.str k.ref,V v.kind v.num v.Af v.str v.ref] w λe w'=>((∃u,e=.returned u)/\∃n o p R S',AG w' bk n o p R S'<|Ce hf d k v)/\KX (pM (Aw d k<|hf k) d k bk r0 R2) bk w w':=by
 have ak:0<=Aw d k (hf k)->∀b,pM (Aw d k<|hf k) d k bk r0 R2 b:=λh b h'=>om;have ao:∀b,aM d k bk r0 R2 b->pM (Aw d k<|hf k) d k bk r0 R2 b:=λb h _=>h;generalize pM (Aw d k<|hf k) d k bk r0 R2=Mq at*;have au:=O ak;have av:=O ao;clear ak ao;have U:=C.lt;have c:B9 w<|(w.alloc<|.cells (qe k) 43).alloc<|.cells (qe v) 43:=(n9).alloc oq _;have g:Hid<|NS ((w.alloc<|.cells (qe k) 43).alloc<|.cells (qe v) 43) w.heap.size k/\NS ((w.alloc<|.cells (qe k) 43).alloc<|.cells (qe v) 43) (w.heap.size+1) v:=O ⟨⟨ot,oe,oe,oe,oe,oe⟩,⟨oq,oe,oe,oe,oe,oe⟩⟩;have t:∀W,B9 w W->C9 196 #[Q9 bk,V k.kind k.num k.Af k.str k.ref] W (R9 (.pointer<|C2 E<|Aw d k<|hf k) W):=λW D=>by
  obtain⟨bc,bd,hB⟩:=(C.below D).book;exact Jq B (Z k hk) (B _ _ hT D) hB hS Q.i0.d3 Q.i0.d4
 rcases Q.i0.place KL hk with⟨i,h1,h2,h3,h4⟩|⟨h1,h2⟩
 .have hp:0<=Aw d k (hf k):=om;have HU:=O<|au hp;have hi:(Aw d k<|hf k).toNat=i:=om;have x:C2 E (Aw d k<|hf k)=some (G (E i) 0):=by unfold C2;rw[C3 hp,hi]
  rw[x]at t;have l:=O t;have aw:=C.eb i h1;by_cases A:v.kind=0
  .have j:Hid<|Ce hf d k v=aE hf d i:=O (by rw[Nz hp A,hi]);have ah:Hid<|∀W,B9 w W->C9 204 #[Q9 bk,Q9 (E i)] W λe w'=>((∃u,e=.returned u)/\∃n o p R S',AG w' bk n o p R S'<|aE hf d i)/\Below bk W w':=O λW D=>hR.1 A T B hf K KL Z bk aj r0 r1 R2 E S d i W (B _ _ hT D) (C.below D) hS Q h1 h2;have HV:=O A;rw[z j];clear C hT hS Q h2 h3 h4 hp hi x t A;go_enter func194,ntmps194;go_wp2_with fail;refine(l _ c).mono ?_;rintro e w1 ⟨rfl,a⟩;have r:=g.2.keep a.size<|a.block _ g.2.lt;have v0:=r.k0;rw[z HV]at v0;have s:=o8 c a;clear a r;go_wp2_with fail;refine(ah _ s).mono ?_;rintro e w2 ⟨⟨⟨uu,rfl⟩,n,o,p,R,S',F⟩,H⟩;have ad:=O F;have I:=(s.mono<|AaM U).trans H;clear F H;go_wp2;go_end0;exact⟨⟨⟨_,rfl⟩,n,o,p,R,S',ad⟩,I,λb _ h=>absurd (HU b) h⟩
  have j:Hid<|Ce hf d k v=Jf d i v:=O (by rw[K8 hp A,hi]);have a6:(v.kind !=0)=true:=by simp[A]
  have X:Hid<|∀W,B9 w W->BC W (E i) (d.L i) i/\AG (Jl W (E i) v) bk r0 r1 R2 E S (Jf d i v):=O (λW D=>by
   have P:=(C.below D).Cw i h1;exact⟨P,(C.below D).rW h1 Vc (λb hb=>SY hb) (Vb P) (.inl rfl)⟩)
  rw[z j];clear C hT hS Q h2 h3 h4 hp hi x t A;go_enter func194,ntmps194;go_wp2_with fail;refine(l _ c).mono ?_;rintro e w1 ⟨rfl,a⟩;have r:=g.2.keep a.size<|a.block _ g.2.lt;rcases r.k0,r.k1,r.k2,r.k3,r.k4,o8 c a with⟨v0,v1,v2,v3,v4,f⟩;obtain⟨P,hN⟩:=z X _ f;have bf:∀q,w1.frozen? (G (E i) q)=false:=λq=>by simp[World.frozen?,P.ob]
  rcases P.v0,P.v1,P.v2,P.v3,P.v4,(f.mono<|AaM U).trans (SX (bk:=bk) (w:=w1) (b:=E i) (v:=v)<|AaM aw) with⟨z5,z6,z7,z8,z9,I⟩;clear a r f P X g l c;go_wp2;go_end0;exact⟨⟨⟨_,rfl⟩,_,_,_,_,_,hN⟩,I,λb _ h=>absurd (HU b) h⟩
 have hp:¬0<=Aw d k (hf k):=om;have x:C2 E (Aw d k<|hf k)=none:=by unfold C2;rw[Cs hp]
 rw[x]at t;have l:=O t;by_cases hc:v.kind≠0/\d.live<500/\d.turns<1000000000000
 .have j:=O<|G8 hp hc;obtain⟨ae,af,ag⟩:=hc;have a7:(v.kind !=0)=true:=by simp[ae]
  have a8:decide (d.live<500)=true:=by simp[af]
  have bb:decide (d.turns<1000000000000)=true:=by simp[ag]
  have ai:Hid<|∀W,B9 w W->C9 205 #[Q9 bk,V k.kind k.num k.Af k.str k.ref,V v.kind v.num v.Af v.str v.ref] W λe w'=>((∃u,e=.returned u)/\∃n o p R S',AG w' bk n o p R S'<|IX hf d k v)/\KX Mq bk W w':=O λW D=>iF B KL Z aj v (B _ _ hT D) (C.below D) hS aq Q hk ar hv ae h1 af ag hR.2 |>.mono λe w' h=>⟨h.1,h.2.mono λb _=>av b⟩;have HM:=O C;rw[z j];clear C hT hS Q h1 h2 hp x t ae af ag;go_enter func194,ntmps194;go_wp2_with fail;refine(l _ c).mono ?_;rintro e w1 ⟨rfl,a⟩;rcases o8 c a,g.2.keep a.size<|a.block _ g.2.lt,g.1.keep a.size (a.block _ g.1.lt) with⟨f,r,vk⟩;rcases r.k0,r.k1,r.k2,r.k3,r.k4,vk.k0,vk.k1,vk.k2,vk.k3,vk.k4,(HM.below f).c5,(HM.below f).c6,O f with⟨v0,v1,v2,v3,v4,y0,y1,y2,y3,y4,c5,c6,s⟩;clear a r vk f;go_wp2_with fail;refine(ai _ s).mono ?_;rintro e w2 ⟨⟨⟨uu,rfl⟩,n,o,p,R,S',F⟩,H⟩;have ad:=O F;have I:=(KX.Ax s<|AaM U).trans H;clear F H;go_wp2;go_end0;exact⟨⟨⟨_,rfl⟩,n,o,p,R,S',ad⟩,I⟩
 have j:=O<|G9 hp hc;have HM:=O C;rw[z j];have ax:v.kind=0\/(v.kind≠0/\¬d.live<500)\/(v.kind≠0/\d.live<500/\¬d.turns<1000000000000):=by
  by_cases e1:v.kind=0
  .exact .inl e1
  by_cases e2:d.live<500
  .exact .inr (.inr ⟨e1,e2,λe3=>hc ⟨e1,e2,e3⟩⟩)
  exact .inr<|.inl ⟨e1,e2⟩
 clear C hT hS Q h1 h2 hp x t hc;go_enter func194,ntmps194;go_wp2_with fail;refine(l _ c).mono ?_;rintro e w1 ⟨rfl,a⟩;have f:=o8 c a;have r:=g.2.keep a.size<|a.block _ g.2.lt;have v0:=r.k0;have M:=HM.below f;have c5:=M.c5;have c6:=M.c6;have s:KX Mq bk w w1:=KX.Ax f<|AaM U;clear a r f;rcases ax with e1|⟨e1,e2⟩|⟨e1,e2,e3⟩
 .rw[e1]at v0;clear e1;go_wp2;go_end0;exact⟨⟨⟨_,rfl⟩,_,_,_,_,_,M⟩,s⟩
 .have ay:(v.kind !=0)=true:=by simp[e1]
  have az:decide (d.live<500)=false:=by simp[e2]
  clear e1 e2;go_wp2;go_end0;exact⟨⟨⟨_,rfl⟩,_,_,_,_,_,M⟩,s⟩
 have ay:(v.kind !=0)=true:=by simp[e1]
 have az:decide (d.live<500)=true:=by simp[e2]
 have bg:decide (d.turns<1000000000000)=false:=by simp[e3]
 clear e1 e2 e3;go_wp2;go_end0;exact⟨⟨⟨_,rfl⟩,_,_,_,_,_,M⟩,s⟩
def N1{t}(c:a<x)(b:t<x):((a+t)%x+x-a)%x=t:=by
 by_cases h:a+t<x
 .rw[TC h,show a+t+x-a=t+x by omega,Nat.add_mod_right,TC b]
 have e:(a+t)%x=a+t-x:=by rw[Nat.mod_eq_sub_mod om,TC om]
 rw[e,show a+t-x+x-a=t by omega,TC b]
def dF{t}(b:0<x):((a+t)%x+1)%x=(a+(t+1))%x:=by
 rw[Nat.mod_add_mod];rfl
def I5 hf c o B v0 v1 v2 d k(p:Nat)w(D:AQ w c o B v0 v1 v2 d)(F:8<=d.x/\d.x<=4000/\GY d.x)(hu:B1 d.X d.x<d.x)(ar:0<=d.used/\d.used<=4000)(hp:p<=4194304)(hh:Yo k<|hf k):
  C9 156 #[Pc c o,V k.kind k.num k.Af k.str k.ref,J p] w λe w'=>((∃u,e=.returned u)/\AQ w' c o B v0 v1 v2 (AR hf d k p))/\CW c o v0 v1 v2 w v0 v1 v2 w':=by
 obtain⟨T,hT,H,m,n⟩:=E5 (a:=hf k%d.x) (VC _ om) hu;have U:=O<|Fm (p:=p) H;obtain⟨g,W,rfl,au,I,av,hcs,K⟩:=D.index.form om;have hand:=Tk (h:=hf k) F.2.2 F.2.1 hh.lt;have f:hf k%d.x<d.x:=VC _ om;obtain⟨a0,L⟩:=o9<|hf k%d.x;rw[<-L]at hand f m n U;rcases F.1,F.2.1,D.c2,D.lt with⟨aw,ax,c2,M⟩;have r:g≠c:=λe=>D.nc<|.inr<|.inr (by rw[<-e];rfl);have ay:c≠g:=λe=>r e.symm;rcases O m,O n,O hcs,O K with⟨ad,ae,af,ag⟩;have P:B9 w<|w.alloc<|.cells (qe k) 43:=n9;clear F m n hcs K L H;go_enter func156,ntmps156;go_wp2_with fail;refine(hh.call _).mono ?_;rintro e w1 ⟨rfl,ah⟩;have i:=o8 P ah;go_wp2_with fail;go_loopw [7] (λa wr=>∃t:Nat,a=J (((a0+t)%d.x:Nat):Int)/\t<=T/\wr=w1) λa _=>d.x-(((intOf a).toNat+d.x-a0)%d.x)
 .exact⟨0,by rw[Aau,TC f],om,rfl⟩
 obtain⟨t,rfl,az,rfl⟩:=hrel;have c2:=(i.cell M).trans D.c2;obtain⟨a,E⟩:=o9<|(a0+t)%d.x;have s:a<d.x:=by rw[E];exact VC _ om
 have e0:=(i.cell I).trans<|af a s;have HA:=O E;have HN:Hid<|(a+1)%d.x=(a0+(t+1))%d.x:=O (by rw[E];exact dF om);have HK:Hid<|(a+d.x-a0)%d.x=t:=O (by rw[E];exact N1 f om);rw[<-E];clear E;by_cases ai:t<T
 .have Q:0<d.X a:=by rw[z HA];exact ae t ai
  have v:decide (0<d.X a)=true:=by simp[Q]
  by_cases hw:a+1=d.x
  .have aj:((a:Int)+1==d.x)=true:=ot;have l:Hid<|(a0+(t+1))%d.x=0:=O (by rw[<-z HN,hw];exact Nat.mod_self _);go_wp2;go_roundw
   .exact⟨t+1,qg l,om,by first|rfl|trivial⟩
   have h1:=N1 (a:=a0) (t:=t+1) f om;rw[z l]at h1;have h2:=z HK;have e0:((0:Int).toNat+d.x-a0)%d.x=t+1:=h1;simp only[intOf,On];rw[h2,e0];omega
  have aj:((a:Int)+1==d.x)=false:=ot;have l:Hid<|(a0+(t+1))%d.x=a+1:=O (by rw[<-z HN];exact TC om);have aq:a+1<d.x:=om;go_wp2;go_roundw
  .exact⟨t+1,by rw[z l];go_num,om,by first|rfl|trivial⟩
  have h1:=N1 (a:=a0) (t:=t+1) f om;rw[z l]at h1;have e1:((a:Int)+1).toNat=a+1:=om;simp only[intOf,On];rw[z HK,e1,h1];omega
 have R:t=T:=om;subst R;have aM:d.X a<=0:=by rw[z HA];exact ad
 have v:decide (0<d.X a)=false:=ot;have j:=D.below i;have f0:=o7 i I<|ag a;have f3:=j.fz<|o+3;have c3:=j.c3;rw[<-z HA]at U;have S:CW c o v0 v1 (S9 g d.x W) w v0 v1 (S9 g d.x W) wr:=CW.Ax i M;by_cases Z:d.X a=0
 focus
  have l:Hid<|AR hf d k p={d with X:=AU d.X a ((p:Int)+1),used:=d.used+1}:=O (by rw[z U,C3 Z]);rw[Z]at e0;have ak:AQ (wr.setCell (G c<|o+3)<|J<|d.used+1) c o B v0 v1 (S9 g d.x W) {d with used:=d.used+1}:=j.Ld _;have A:=AQ.Uz (d:={d with used:=d.used+1}) ak s<|(p:Int)+1;have ao:=(S.trans<|C7 (o:=o) (v0:=v0) (v1:=v1) (v2:=S9 g d.x W) (q:=o+3) (J<|d.used+1) om λb e=>.inl e).trans<|Fi (q:=a) (J<|(p:Int)+1) (.inr<|.inr rfl) r;have C:=O<|qj A ao
 rotate_left
 focus
  have l:Hid<|AR hf d k p={d with X:=AU d.X a ((p:Int)+1)}:=O (by rw[z U,Cs Z]);have a6:(d.X a==0)=false:=by simp[Z]
  have A:=j.Uz s<|(p:Int)+1;have C:=O<|qj A<|S.trans<|Fi (q:=a) (J<|(p:Int)+1) (.inr<|.inr rfl) r
 all_goals
  go_wp2;go_end0;exact⟨⟨⟨_,rfl⟩,by rw[z l];exact C.1⟩,C.2⟩
def Ic(n:Nat)(hn:n<=4194304)w:
  (Instr.makeSlice 91 (J n)<|J n).run prog w=.ok (S9 w.heap.size n n) (w.alloc<|.cells (madeCells #[Value.int .i64 0] n) 3):=by
 have:=JE n hn w;simpa[Value.cells]using this
def ownB{g}(h:(Value.slice (some<|G g 0) n a).ownBlock=some b):g=b:=oF h
theorem Dc.lS{a b:Dc}(n:a.n=b.n)(L:a.L=b.L)(m:a.m=b.m)(I:a.I=b.I)(x:a.x=b.x)(X:a.X=b.X)(u:a.used=b.used)(l:a.live=b.live)(t:a.turns=b.turns):a=b:=by
 obtain⟨⟩:=a;obtain⟨⟩:=b;grind
def Zx(h:BV d k<x):{d with x:=x,X:=(Bl hf d x k).X,used:=(Bl hf d x k).used}=Bl hf d x k:=by
 obtain⟨f1,f2,f3,f4,f5,f6,f7,f8,f9,f10⟩:=Dj (hf:=hf) (x:=x) k h;exact Dc.lS f5.symm f6.symm f7.symm f8.symm f4.symm rfl rfl f9.symm f10.symm
def JZ hf{c o B}{v0 v1 v2}{d}more{w}(hM:AQ w c o B v0 v1 v2 d)(hS:Small d)(hm:BV d d.n+more<=500)(hh:∀i,i<d.n->AP d i->Yo (d.L i).key (hf (d.L i).key)):
  C9 155 #[Pc c o,J more] w λe w'=>((∃u,e=.returned u)/\∃u2,AQ w' c o B v0 v1 u2 (A3 hf d more)/\CW c o v0 v1 v2 w v0 v1 u2 w'):=by
 rcases hS.n,hM.c0,hM.lt,hM.log.at with⟨hn,c0,a7,⟨la,lc,e0,_⟩⟩;subst e0;have HH:=O hh;clear hh;go_enter func155,ntmps155;go_wp2_with fail;go_loopw [14,4] (λi q wr=>∃k:Nat,i=J (k:Int)/\k<=d.n/\q=J ((BV d k+more:Nat):Int)/\B9 w wr) λi _ _=>d.n-(intOf i).toNat
 .exact⟨0,rfl,om,by simp[BV],BE _ _⟩
 obtain⟨k,rfl,hk,rfl,hb⟩:=hrel;by_cases l:k<d.n
 .have g:=hM.below hb;obtain⟨a8,bb,ia,ic,xa,xc,R,rfl,rfl,hP⟩:=g.ptr;cases R;have bx:=GP (FN d om) (show BV d d.n<=500 by omega);have HP:=O hP;clear g hP;go_wp2_with fail;refine m9 (Fb k HP hS l) λw1 p=>?_;have ai:=o8 hb p;clear p;by_cases t:AP d k
  .rw[Aj t];have H:=O<|EE t;clear t;go_wp2;go_roundw
   .exact⟨k+1,ov,om,by rw[z H];go_num,ai⟩
   exact ow
  rw[Ae t];have H:=O<|Gu t;clear t;go_wp2;go_roundw
  .exact⟨k+1,ov,om,by rw[z H,Int.natCast_add],ai⟩
  exact ow
 have v:k=d.n:=om;subst v;have g:=hM.below hb;have aj:CW c o (.slice la d.n lc) v1 v2 w (.slice la d.n lc) v1 v2 wr:=CW.Ax hb a7;rcases g.lt,g.c2,g.c3,g.fz<|o+2,g.fz (o+3) with⟨j,c2,c3,f2,f3⟩;have h:=(g.setIndex (x:=0) (X:=λ_=>0) (NB _ _ _ _) (λe=>by cases e) λq _ e=>by cases e).Ld 0;have S:=(aj.trans<|C7 (u2:=N9) (q:=o+2) N9 om λb e=>.inl<|e.elim .inl λe=>e.elim (λe=>.inr<|.inl e) λe=>by cases e).trans<|C7 (q:=o+3) (J 0) om λb e=>.inl e;clear g aj hk l;by_cases hz:BV d d.n+more=0
 .have HR:=O<|D8 (hf:=hf) hz;have T:(((BV d d.n+more:Nat):Int)==0)=true:=qh hz
  generalize BV d d.n+more=W at hz T hm;clear hz;go_wp2;refine GO (Aaw rfl _ _ _) rfl ?_;refine⟨⟨_,rfl⟩,_,?_,S⟩;rw[z HR];exact h.of_same rfl (λ_ _=>rfl) rfl (λ_ _=>rfl) rfl (λi hi=>by cases hi) rfl rfl rfl
 have HR:=O<|Cy (hf:=hf) hz;have A:=O<|Dn hm;have I:BV d d.n<=BV d d.n+more:=om;have T:(((BV d d.n+more:Nat):Int)==0)=false:=ot;have U:Hid<|BV d d.n<Ck (BV d d.n+more):=O<|oS A.1;generalize bc:BV d d.n+more=W at hz T hm HR A U I;clear bc I;obtain⟨W1,V⟩:=o9<|(wr.setCell (G c<|o+2) N9).setCell (G c<|o+3)<|J 0;go_wp2_with fail;rw[<-V];rw[<-V]at h S;clear V c2 c3 f2 f3 j;go_loopw [6] (λa wr=>∃f s:Nat,a=J (s:Int)/\CS f s (4*W)=Ck W/\8<=s/\s<=4000/\wr=W1) λa _=>4*W-(intOf a).toNat
 .exact⟨9,8,rfl,rfl,om,om,rfl⟩
 obtain⟨f,s,rfl,r,bd,bf,rfl⟩:=hrel;by_cases ak:s<4*W
 .obtain⟨f',rfl⟩:∃f',f=f'+1:=by
   cases f with
   |zero=>
    exfalso;have h1:=A.1;have h2:CS 0 s (4*W)=s:=rfl;omega
   |succ f=>exact⟨f,rfl⟩
  have HG:Hid<|CS f' (2*s) (4*W)=Ck W:=O (by
   have h1:CS (f'+1) s (4*W)=if s<4*W then CS f' (2*s) (4*W)else s:=rfl
   rw[h1,C3 ak]at r;exact r)
  clear r;go_wp2;go_roundw
  .exact⟨f',2*s,ov,HG,om,om,by first|rfl|trivial⟩
  exact ow
 have HG:Hid<|s=Ck W:=O (by
  cases f with
  |zero=>exact r
  |succ f=>
   have h1:CS (f+1) s (4*W)=if s<4*W then CS f (2*s) (4*W)else s:=rfl
   rw[h1,Cs ak]at r;exact r)
 clear r;rcases Ic s om,h.c2,h.fz<|o+2,h.c0,h.lt,o9 ((wr.setCell (G c<|o+2)<|.slice (some<|G wr.heap.size 0) s s).alloc<|.cells (madeCells #[Value.int .i64 0] s) 3) with⟨mk,c2,f2,c0,j,⟨WA,ad⟩⟩;have C:=(h.below<|(BE _ _).alloc (Be _)<|.cells (madeCells #[Value.int .i64 0] s) 3).setIndex (Bo.made wr B s h.base om) (λe=>Nat.ne_of_gt j<|ownB e) (λq e e'=>by
   have e1:=h.Wn (.inr (.inl e));have e2:=ownB e';omega)
 have ae:=S.trans<|kT (u1:=v1) (u2:=.slice (some<|G wr.heap.size 0) s s) (q:=o+2) (.cells (madeCells #[Value.int .i64 0] s) 3) (.slice (some<|G wr.heap.size 0) s s) j om λb e=>e.elim (λe=>.inl<|.inl e) λe=>e.elim (λe=>.inl<|.inr<|.inl e) λe=>.inr<|Nat.le_of_eq<|ownB e;rw[World.setCell_alloc_past _ _ _ _ j,<-ad]at C ae;have af:AQ WA c o B (.slice la d.n lc) v1 (.slice (some<|G wr.heap.size 0) s s)<|Bl hf d s 0:=C.of_same rfl (λ_ _=>rfl) rfl (λ_ _=>rfl) rfl (λ_ _=>rfl) rfl rfl rfl;have ao:=O C.c0;have bg:=O C.lt;clear C;obtain⟨Z,ag⟩:=o9 wr.heap.size;rw[<-ag]at af ae;go_wp2_with fail;rw[<-ad,<-ag];clear ag;have c0:=z ao;clear ad mk c2 f2;go_wp2_with fail;have aq:=A.2.2.2;rw[<-z HG]at aq;have ar:BV d d.n<s:=by have:=z U;rw[<-z HG]at this;exact this
 have K:=O ar;have bh:Hid<|A3 hf d more=Bl hf d s d.n:=O (by rw[z HR,z HG]);clear ar HG U HR A;go_loopw [47] (λi wz=>∃(k:Nat) (X':Nat->Int) (u':Int),i=J (k:Int)/\k<=d.n/\{d with x:=s,X:=X',used:=u'}=Bl hf d s k/\AQ wz c o B (.slice la d.n lc) v1 (.slice (some<|G Z 0) s s) {d with x:=s,X:=X',used:=u'}/\CW c o (.slice la d.n lc) v1 (.slice (some<|G Z 0) s s) WA (.slice la d.n lc) v1 (.slice (some<|G Z 0) s s) wz) λi _=>d.n-(intOf i).toNat
 .exact⟨0,_,_,rfl,om,rfl,af,CW.refl _ _ _ _ _ _⟩
 clear af c0 ao bg;obtain⟨k,X',u',rfl,hk,heq,hd,F⟩:=hrel;by_cases l:k<d.n
 .have bj:BV d k<s:=by have h1:=FN d (k:=k) (n:=d.n) om;have h2:=z K;omega
  obtain⟨f1,f2,f3,f4,f5,f6,f7,f8,f9,f10⟩:=Dj (hf:=hf) (x:=s) k bj;rw[<-heq]at f2 f3;have f2:(B1 X' s:Int)=u':=f2;have f3:B1 X' s<=BV d k:=f3;have au:0<=u'/\u'<=4000:=om;have av:B1 X' s<s:=om;have aw:=O<|qj au av;have ax:=O heq;have bk:Small {d with x:=s,X:=X',used:=u'}:=⟨hS.n,hS.m,by show s<=_;omega⟩;rcases O F,O hd,hd.ptr with⟨bm,bn,⟨a8,bb,ia,ic,xa,xc,R,bp,bq,hP⟩⟩;cases R;cases bq;subst bp;rcases hd.lt,o9 la,hP.rows.log,O hP with⟨br,⟨lb,bt⟩,ay,HP⟩;clear hd hP F heq au av f1 f2 f3 f4 f5 f6 f7 f8 f9 f10 bt lb;go_wp2_with fail;refine m9 (Fb k HP bk l) λw1 p=>?_;rcases bn.below p,bm.trans<|CW.Ax p br,ay.below p rfl with⟨D,M,E⟩;have az:=D.c0;clear p ay;by_cases t:AP d k
  .rw[show tells (AP {d with x:=s,X:=X',used:=u'} k)=true from Aj t];have bu:=z HH k l t;have H:Hid<|{d with x:=s,X:=(Bl hf d s (k+1)).X,used:=(Bl hf d s (k+1)).used}=Bl hf d s (k+1):=O<|Zx (by have h1:=FN d (k:=k+1) (n:=d.n) om;have h2:=z K;omega);have bw:Hid<|Bl hf d s (k+1)=AR hf {d with x:=s,X:=X',used:=u'} (d.L k).key k:=O (by rw[E3 t,z ax]);obtain⟨pb,off,rfl,bz,aM⟩:=E.resolve_left (by show d.n≠0;omega);obtain⟨p0,p1,p2,p3,p4,_,_,_,_,_,_⟩:=aM k l;clear t aM E;go_wp2_with fail;refine(I5 hf c o B _ _ (.slice (some<|G Z 0) s s) {d with x:=s,X:=X',used:=u'} (d.L k).key k _ D ⟨bd,bf,aq⟩ aw.2 aw.1 om bu).mono ?_;rintro e w2 ⟨⟨⟨u,rfl⟩,a6⟩,P⟩;rw[<-z bw,<-z H]at a6;have ah:=M.trans P;clear P p0 p1 p2 p3 p4 az;go_wp2;go_roundw
   .exact⟨k+1,_,_,ov,om,H,a6,ah⟩
   exact ow
  rw[show tells (AP {d with x:=s,X:=X',used:=u'} k)=false from Ae t];have H:Hid<|{d with x:=s,X:=X',used:=u'}=Bl hf d s (k+1):=O (by rw[E0 t,z ax]);clear t E az;go_wp2;go_roundw
  .exact⟨k+1,X',u',ov,om,H,D,M⟩
  exact ow
 have v:k=d.n:=om;subst v;have Q:=O<|qj (heq▸hd)<|ae.trans F;clear hd F heq hk l;go_wp2;go_end0;exact⟨⟨_,rfl⟩,_,by rw[z bh];exact Q.1,Q.2⟩
def NU(w:Y)(b:Nat)(d:Dc)(k:Nat):Prop:=∃g,w.rowIs b 3 d.n g/\∀j,j<k->(d.L j).turn≠0->g j=J ((Cu d j:Int)+1)
def NU.keep(h:NU w b d k)(e:w'.heap[b]?=w.heap[b]?):NU w' b d k:=by
 obtain⟨g,h1,h2⟩:=h;exact⟨g,h1.of_block e,h2⟩
def NU.lt(h:NU w b d k):b<w.heap.size:=by
 obtain⟨g,h1,h2⟩:=h;exact h1.lt
def NU.cell(h:NU w b d k){j}(hj:j<k)(hn:j<d.n)(a:(d.L j).turn≠0):w.cell? (G b j)=some (J<|(Cu d j:Int)+1):=by
 obtain⟨g,h1,h2⟩:=h;rw[h1.cell hn,h2 j hj a]
def NU.any(h:NU w b d k){j}(hn:j<d.n):∃u,w.cell? (G b j)=some u:=by
 obtain⟨g,h1,h2⟩:=h;exact⟨_,h1.cell hn⟩
def NU.frozen(h:NU w b d k)j:w.frozen? (G b j)=false:=by
 obtain⟨g,h1,h2⟩:=h;exact h1.frozen j
def NU.put(h:NU w b d k):NU (w.setCell (G b k)<|J<|(Cu d k)+1) b d<|k+1:=by
 obtain⟨g,h1,h2⟩:=h;refine⟨_,h1.set k _,λj hj a=>?_⟩;grind [NU,Cu]
def NU.skip(h:NU w b d k)(a:(d.L k).turn=0):NU w b d<|k+1:=by
 grind [NU]
def Gc(d:Dc)(k:Nat):Nat->Int:=λj=>if j<k then(Cj d).I j else d.I j
def Ws d j:Gc d 0 j=d.I j:=Cs om
def dM d k:Gc d k k=d.I k:=Cs om
def Zo(h:j<k):Gc d k j=(Cj d).I j:=C3 h
def Wq(h:¬0<d.I k)j:Gc d (k+1) j=Gc d k j:=by
 unfold Gc;by_cases e:j=k
 .subst e;rw[C3 om,Cs om];show(if 0<d.I j then _ else d.I j)=_;rw[Cs h]
 omega
def Wr{q:Nat}(h:d.I k=(q)+1)j:Gc d (k+1) j=AU (Gc d k) k ((Cu d q:Int)+1) j:=by
 unfold Gc;by_cases e:j=k
 .subst e;rw[C3 om,Au];show(if 0<d.I j then(Cu d (d.I j-1).toNat:Int)+1 else d.I j)=_;grind [Gc,AU,Cu]
 grind [Gc,AU,Cu,Ao]
def KJ(h:(d.n:Int)<8\/(d.n:Int)<=2*d.live):Ap hf d=d:=C3 h
def RQ(h:¬((d.n:Int)<8\/(d.n:Int)<=2*d.live)):Ap hf d=A3 hf (Cj d) 0:=Cs h
def E8 hf{K}{c o B}{v0 v1 v2}{d}{w}(hM:AQ w c o B v0 v1 v2 d)(hS:Small d)(hC:Core K d)(hh:∀v,K v->Yo v (hf v)):
  C9 154 #[Pc c o] w λe w'=>((∃u,e=.returned u)/\∃u0 u2,AQ w' c o B u0 v1 u2 (Ap hf d)/\CW c o v0 v1 v2 w u0 v1 u2 w'):=by
 rcases ON EF,hS.n,hS.m,hC.Ko,hC.le,hM.c0,hM.c4,hM.lt,hM.log.at with⟨⟨i0,hi,bf,bg,bh⟩,hn,hm,cb,cc,c0,c4,E,⟨la,lc,e0,ar⟩⟩;subst e0;have HH:=O hh;have cd:IntKind.i64.wrap (2*d.live)=2*d.live:=oj;clear hh;by_cases h1:(d.n:Int)<8
 .have HR:=O<|KJ (hf:=hf)<|.inl h1;have R:decide ((d.n:Int)<8)=true:=ot;clear h1;go_enter func154,ntmps154;go_wp2_with fail;go_quiet (fail);go_wp2;refine GO (Aaw rfl _ _ _) rfl ?_;exact⟨⟨_,rfl⟩,_,_,by rw[z HR];exact hM.below<|AH (BE _ _) _,CW.Ax (AH (BE _ _) _) E⟩
 have R:decide ((d.n:Int)<8)=false:=ot;by_cases h2:(d.n:Int)<=2*d.live
 .have HR:=O<|KJ (hf:=hf)<|.inr h2;have bj:decide ((d.n:Int)<=2*d.live)=true:=ot;clear h1 h2;go_enter func154,ntmps154;go_wp2_with fail;go_quiet (fail);go_wp2;refine GO (Aaw rfl _ _ _) rfl ?_;exact⟨⟨_,rfl⟩,_,_,by rw[z HR];exact hM.below<|AH (BE _ _) _,CW.Ax (AH (BE _ _) _) E⟩
 have bj:decide ((d.n:Int)<=2*d.live)=false:=ot;have HR:=O<|RQ (hf:=hf) (d:=d) om;have mk:=Ic d.n hn;clear h1 h2;go_enter func154,ntmps154;go_wp2_with fail;go_quiet (fail);obtain⟨l,S⟩:=o9<|w.drewN nq;rw[<-S];have ad:B9 w l:=by rw[S];exact AH (BE _ _) _
 have au:l.heap.size=w.heap.size:=qh S
 have ae:=O au;clear au;clear S;have H:=hM.below ad;rcases H.c0,H.lt,ar.below ad rfl,H.base with⟨c0,E,ai,cg⟩;clear c4 ar;go_wp2_with fail;obtain⟨W,hW⟩:=o9<|l.alloc<|.cells (madeCells #[Value.int .i64 0] d.n) 3;rw[<-hW];have av:B9 l W:=by rw[hW];exact(BE _ _).alloc (Be _) _
 have b8:l.heap.size<W.heap.size:=by rw[hW];simp
 have p:Hid<|NU W l.heap.size d 0:=O ⟨_,by rw[hW];have h:=Ib l d.n;simpa[Value.cells]using h,λj hj=>om⟩;clear hW mk;go_loopw [38,2] (λi q wr=>∃(k:Nat) (v:V9),i=J (k:Int)/\k<=d.n/\v=q/\BP wr W.heap.size v (AW d k).length (Ev d)/\NU wr l.heap.size d k/\B9 l wr/\W.heap.size<=wr.heap.size) λi _ _=>d.n-(intOf i).toNat
 .exact⟨0,_,rfl,om,rfl,NB _ _ _ _,p,av,Be _⟩
 clear p av;obtain⟨k,v,rfl,hk,rfl,f,r,F,ch⟩:=hrel;by_cases M:k<d.n
 .obtain⟨pb,off,rfl,bk,aw⟩:=ai.resolve_left om;rcases (aw k M).keep (λq=>F.cell bk),F.size,FI d k,O r with⟨⟨e0,e1,e2,e3,e4,e5,e6,e7,e8,e9,bm⟩,bn,cj,p⟩;clear aw r;by_cases hp:0<(d.L k).turn
  .have af:(d.L k).turn≠0:=om;have HF:=O<|FB M af;have HN:=O<|Bi af;have ax:decide (0<(d.L k).turn)=true:=by simp[hp]
   have U:=O f.lt;have ay:=p.lt;clear af hp;go_wp2_with (first|(at_builtin;refine RC _ rfl _ _ 101 rfl W.heap.size 166 i0 PZ 11 104 underlying101 hi bf bg bh rfl oo v (AW d k).length (pL (Ev d) (AW d k).length) rfl ((f.alloc _).alloc _) (G (wr.heap.size+1) 0) 1 1 (De<|d.L k) rfl rfl (O8 wr _ (De<|d.L k) _) (Ff _) oo od om ot _ rfl ?_;intro g3 ck w3 s C bd b9;have V:w3.heap[l.heap.size]?=wr.heap[l.heap.size]?:=((C.block l.heap.size ot λe=>oS (U _ e.symm).1).trans<|DO _ _ _ ot).trans<|DO _ _ _ ay;have t:=O<|p.keep V;have bp:W.heap.size<=w3.heap.size:=(by have:=C.size;simp at this;omega);obtain⟨wu,r0⟩:=t.any M;have r1:=t.frozen k;have ca:=t.lt;have bq:=O<|((F.alloc om _).alloc ot _).trans<|CO C (λq e=>GP om (U q e).1) ot;have cl:=(s.lt g3 rfl).1;have br:=O s;clear s C V)|go_in);go_roundw
   .refine⟨k+1,_,ov,om,rfl,?_,?_,bq.setCell (by exact Be _) _,by simpa using bp⟩
    .have h:=Bb (a:=G l.heap.size k) br (J<|(Cu d k:Int)+1) (λe=>by have e':g3=l.heap.size:=ownB e;omega);rw[z HN,P9,Aak];show World.ownsRow _ W.heap.size _ 11 _ _ (pL (Ev d) (AW d k).length++De (Ev d (AW d k).length));rw[z HF];exact h
    exact t.put
   exact ow
  have D:(d.L k).turn=0:=by
   rcases hC.log.Cw k M with h|h
   .exact h.1
   exact absurd h.1 hp
  have HN:=O<|B7 D;have t:=O<|p.skip D;clear hp;rw[D]at bm;clear D;go_wp2;go_roundw
  .refine⟨k+1,_,ov,om,rfl,?_,t.keep<|DO _ _ _ t.lt,F.alloc bn _,ot⟩;rw[z HN];exact f.alloc _
  exact ow
 have aj:k=d.n:=om;subst aj;have A:=H.below F;have R:=A.pJ (D7 f om) λe=>oS<|f.lt c e;have az:CW c o (.slice la d.n lc) v1 v2 w v v1 v2<|wr.setCell (G c o) v:=by
  refine Mf (row:=none) v (I0<|ad.trans<|F.mono<|Nat.le_of_eq ae.symm) (λb e=>by cases e) (by rw[<-z ae];exact E) (λe=>by cases e) om λb e=>?_;rcases e with e|e
  .right;have h1:=(f.lt b e).1;have h2:=z ae;omega
  exact .inl<|.inr e
 have P:NU (wr.setCell (G c o) v) l.heap.size d d.n:=r.keep<|At _ _ _ _ (by show l.heap.size≠c;omega);rcases A.c0,A.fz o,A.c1 with⟨bt,bu,bw⟩;have aM:∀b,GX v v1 v2 b->b≠l.heap.size:=λb e=>by
  rcases e with e|e
  .have:=(f.lt b e).1;omega
  have:=(H.Wn<|.inr e).2;omega
 obtain⟨ia,ic,e1,_⟩:=A.ints.at;have bx:Hid (0<d.m->∃g cp,v1=S9 g d.m cp):=O (λh=>by obtain⟨g,cp,h,_⟩:=A.ints.form h;exact⟨g,cp,h⟩);subst e1;rcases O aM,O R,o9 (wr.setCell (G c o) v) with⟨bz,Q,⟨W1,ag⟩⟩;have Xr:=Q.c1;have X:=Q.lt;rw[<-ag]at Q az P Xr X;obtain⟨va,vc,ev,_⟩:=f.at;subst ev;clear A R r aM hk M;go_wp2_with fail;rw[<-ag];clear ag bt bu bw;go_loopw [65] (λi wz=>∃(k:Nat),i=J (k:Int)/\k<=d.m/\AQ wz c o B (.slice va (AW d d.n).length vc) (.slice ia d.m ic) v2 {d with n:=Kq d,L:=Ev d,I:=Gc d k}/\NU wz l.heap.size d d.n/\CW c o (.slice va (AW d d.n).length vc) (.slice ia d.m ic) v2 W1 (.slice va (AW d d.n).length vc) (.slice ia d.m ic) v2 wz) λi _=>d.m-(intOf i).toNat
 .exact⟨0,rfl,om,Q.of_same rfl (λ_ _=>rfl) rfl (λj _=>Ws d j) rfl (λ_ _=>rfl) rfl rfl rfl,P,CW.refl _ _ _ _ _ _⟩
 clear Q Xr X P;obtain⟨k,rfl,hk,hd,r,ah⟩:=hrel;by_cases T:k<d.m
 .obtain⟨g,cp,eg⟩:=z bx om;cases eg;obtain⟨g',cm,b0,cn,cq,a6,hcs,a7⟩:=hd.ints.form (by show 0<d.m;omega);cases b0;have e0:=hcs k T;rw[show({d with n:=Kq d,L:=Ev d,I:=Gc d k}:Dc).I k=d.I k from dM d k]at e0;have f0:=a7 k;have b1:=z bz g<|.inr<|.inl rfl;have b2:l.heap.size≠g:=λe=>b1 e.symm;have b3:g≠c:=λe=>hd.nc<|.inr<|.inl (by rw[<-e];rfl);rcases hd.c1,hd.lt,O r,r.lt with⟨c1,E,p,ay⟩;clear hcs a7 r;rcases hC.ints k T with hz|⟨g1,g2,g3,g4,g5⟩
  .rw[hz]at e0;go_wp2;go_roundw
   .exact⟨k+1,ov,om,hd.of_same rfl (λ_ _=>rfl) rfl (λj _=>Wq om j) rfl (λ_ _=>rfl) rfl rfl rfl,p,ah⟩
   exact ow
  obtain⟨q,hq⟩:∃q:Nat,d.I k=(q:Int)+1:=⟨(d.I k-1).toNat,om⟩;have a8:q<d.n:=om;have bb:(d.L q).turn≠0:=by have h:=g3;unfold Dc.at at h;rw[hq,show((q:Int)+1-1).toNat=q by omega]at h;exact h
  have r0:=p.cell a8 a8 bb;have HN:Hid<|AQ (wr.setCell (G g k)<|J<|(Cu d q:Int)+1) c o B (.slice va (AW d d.n).length vc) (S9 g d.m ic) v2 {d with n:=Kq d,L:=Ev d,I:=Gc d (k+1)}:=O (by
   have h:=AQ.Zr (d:={d with n:=Kq d,L:=Ev d,I:=Gc d k}) hd T ((Cu d q:Int)+1);exact h.of_same rfl (λ_ _=>rfl) rfl (λj _=>Wr hq j) rfl (λ_ _=>rfl) rfl rfl rfl)
  have Z:=ah.trans<|Fi (o:=o) (v0:=.slice va (AW d d.n).length vc) (v1:=S9 g d.m ic) (v2:=v2) (w:=wr) (g:=g) (q:=k) (J<|(Cu d q:Int)+1) (.inr<|.inl rfl) b3;have ak:=O Z;have b4:=O<|p.keep (w':=wr.setCell (G g k)<|J<|(Cu d q:Int)+1)<|At _ _ _ _ (by exact b2);have cr:IntKind.i64.wrap (q:Int)=q:=oj;rw[hq]at e0;clear hq g1 g2 g3 g4 g5 Z bb;go_wp2_with fail
  go_region
  go_wp2;go_roundw
  .exact⟨k+1,ov,om,HN.below (BE _ _).drew,b4.keep rfl,ak.trans<|CW.Ax (BE _ _).drew<|by simpa using E⟩
  exact ow
 have ao:k=d.m:=om;subst ao;have ax:AQ wr c o B (.slice va (AW d d.n).length vc) (.slice ia d.m ic) v2<|Cj d:=hd.of_same rfl (λ_ _=>rfl) rfl (λj hj=>(Zo hj).symm) rfl (λ_ _=>rfl) rfl rfl rfl;have b5:Small<|Cj d:=⟨GP (oM d) hn,hm,hS.x⟩;have a6:=Gb hC;have aq:=az.trans ah;clear r hk T;go_wp2_with fail;refine(JZ hf 0 ax b5 (JI hC) λi hi hx=>HH _<|a6.keys i hi<|oS hx.1).mono ?_;rintro e w9 ⟨⟨u,rfl⟩,u2,b6,bc⟩;have b7:=aq.trans bc;clear bc;go_wp2;go_end0;exact⟨⟨_,rfl⟩,_,_,by rw[z HR];exact b6,b7⟩
def RZ b n cap s(w:Y)(hl:b<w.heap.size)(hA:∀i,i<n->w.cell? (G b i)=some (J ((s+i:Nat):Int)))(hn:n<=2000000000)(hs:s<=100000000000000):
  C9 117 #[S9 b n cap,J s] w (R9 (J ((s+n:Nat):Int)) w):=by
 have e:=O hA;clear hA;go_enter func117,ntmps117;go_wp2;go_loopw [1,5] (λq i wr=>∃(k:Nat),k<=n/\i=J (k:Int)/\q=J ((s+k:Nat):Int)/\B9 w wr) λ_ i _=>n-(intOf i).toNat
 .exact⟨0,om,rfl,rfl,BE _ _⟩
 obtain⟨k,hk,rfl,rfl,hb⟩:=hrel;have f:=A0 hl hb.size;by_cases c:k<n
 .have d0:=(hb.cell hl).trans<|e k c;have d:=O hb;clear hb;go_wp2;go_roundw
  .exact⟨k+1,om,ov,ov,d⟩
  exact ow
 have a:k=n:=om;subst a;have d:=O hb;clear hb;go_wp2;go_ret;exact⟨rfl,d⟩
def Sn s w:
  C9 70 #[N9,J s] w λe w'=>e=.returned (J s)/\w'=w:=by
 go_enter func70,ntmps70;go_wp2;go_loopw [1,5] (λq i wr=>q=J s/\i=J 0/\wr=w) λ_ _ _=>0
 .exact⟨rfl,rfl,rfl⟩
 obtain⟨rfl,rfl,rfl⟩:=hrel;go_wp2;go_ret;exact⟨rfl,rfl⟩
def R3 s w:
  C9 117 #[N9,J s] w λe w'=>e=.returned (J s)/\w'=w:=by
 go_enter func117,ntmps117;go_wp2;go_loopw [1,5] (λq i wr=>q=J s/\i=J 0/\wr=w) λ_ _ _=>0
 .exact⟨rfl,rfl,rfl⟩
 obtain⟨rfl,rfl,rfl⟩:=hrel;go_wp2;go_ret;exact⟨rfl,rfl⟩
def Iv(f:Nat->Int)(n:Nat)(w:Y)(v:V9)(lo hi:Nat):Prop:=
 (n=0/\v=N9)\/∃b a Z g,v=S9 b n a/\lo<=b/\b<hi/\w.rowIs b 3 Z g/\n<=Z/\∀j,j<n->g j=J (f j)
def Iv.keep(h:Iv f n w v lo hi)(hk:∀b,v.ownBlock=some b->lo<=b->b<hi->w'.heap[b]?=w.heap[b]?):Iv f n w' v lo hi:=by
 rcases h with h|⟨b,a,Z,g,h1,h2,h3,h4,h5,c⟩
 .exact .inl h
 exact .inr ⟨b,a,Z,g,h1,h2,h3,GW h4<|hk b (qh h1) h2 h3,h5,c⟩
def Iv.of(h:Bo w B v n f):Iv f n w v B w.heap.size:=by
 have b:=h.lt;obtain⟨hl,⟨c,d⟩|⟨g',cap,cur,c,hb,a,h1,h2,h3,h4⟩⟩:=h
 .exact .inl ⟨d,c⟩
 subst c;refine .inr ⟨g',cap,cap,λj=>(cur[j]?).getD undef,rfl,hb,(b g' rfl).2,⟨cur,a,om,λi hi=>by simp[UP (show i<cur.size by omega)]⟩,h1,λj hj=>?_⟩;have h5:=Kk (f:=f) (i:=j) hj;grind [Iv]
theorem Iv.at(h:Iv f n w v lo hi):∃a c,v=.slice a n c/\JP w a n f:=by
 rcases h with⟨d,rfl⟩|⟨b,c,Z,g,h1,h2,h3,h4,h5,e⟩
 .subst d;exact⟨_,_,rfl,.inl rfl⟩
 exact⟨_,_,h1,.inr ⟨b,0,rfl,H8 h4,λi hi=>by rw[We,h4.cell om,e i hi]⟩⟩
structure DV (d:Dc) (w:Y) (v0 v1 v2:V9) (lo hi:Nat):Prop where
 log:Lr d.L d.n w v0 lo hi
 ints:Iv d.I d.m w v1 lo hi
 index:Iv d.X d.x w v2 lo hi
 sM:∀q,v0.ownBlock=some q->v1.ownBlock≠some q
 sN:∀q,v0.ownBlock=some q->v2.ownBlock≠some q
 a12:∀q,v1.ownBlock=some q->v2.ownBlock≠some q
abbrev lJ(v0 v1 v2:V9)(d:Dc):Value:=.agg #[v0,v1,v2,J d.used,J d.live,J d.turns]
def DV.keep(h:DV d w v0 v1 v2 lo hi)(hk:∀b,lo<=b->b<hi->w'.heap[b]?=w.heap[b]?):DV d w' v0 v1 v2 lo hi:=
 ⟨h.log.keep hk,h.ints.keep λb _=>hk b,h.index.keep λb _=>hk b,h.sM,h.sN,h.a12⟩
theorem DV.at(h:DV d w v0 v1 v2 lo hi):∃la lc ia ic xa xc,v0=.slice la d.n lc/\v1=.slice ia d.m ic/\v2=.slice xa d.x xc/\Ea w la ia xa d:=by
 obtain⟨la,lc,rfl,a⟩:=h.log.at;obtain⟨ia,ic,rfl,h1⟩:=h.ints.at;obtain⟨xa,xc,rfl,h2⟩:=h.index.at;exact⟨la,lc,ia,ic,xa,xc,rfl,rfl,rfl,a,h1,h2⟩
theorem Lr.own{f}(h:Lr f n w v lo hi){b}(e:v.ownBlock=some b):lo<=b/\b<hi/\b<w.heap.size:=by
 rcases h with⟨a,rfl⟩|⟨b',c,Z,g,rfl,h2,h3,h4,h5,d⟩
 .cases e
 have e':b'=b:=oF e;subst e';exact⟨h2,h3,H8 h4⟩
structure Ew (w wr:Y) (v0 v1 v2:V9) (d:Dc):Prop where
 b0:wr.heap[w.heap.size]?=some (.cells #[N9,N9,N9,J 0,J 0,J 0] 103 (0,0))
 b1:wr.heap[w.heap.size+1]?=some (.cells #[v0,v1,v2,J d.used,J d.live,J d.turns] 103 (0,0))
 CX:B9 w wr
theorem Ew.size(h:Ew w wr v0 v1 v2 d):w.heap.size+1<wr.heap.size:=(E1.1 h.b1).1
def Ew.cells(h:Ew w wr v0 v1 v2 d):wr.cell? (Y9 w 0)=some v0/\wr.cell? (Y9 w 1)=some v1/\wr.cell? (Y9 w 2)=some v2/\wr.cell? (Y9 w 3)=some (J d.used)/\wr.cell? (Y9 w 4)=some (J d.live)/\wr.cell? (Y9 w 5)=some (J d.turns)/\∀q,wr.frozen? (Y9 w q)=false:=
 ⟨by simp[World.cell?,h.b1],by simp[World.cell?,h.b1],by simp[World.cell?,h.b1],by simp[World.cell?,h.b1],by simp[World.cell?,h.b1],by simp[World.cell?,h.b1],λq=>by simp[World.frozen?,h.b1]⟩
def Ew.keep(h:Ew w wr v0 v1 v2 d)(a:w'.heap[w.heap.size]?=wr.heap[w.heap.size]?)(h1:w'.heap[w.heap.size+1]?=wr.heap[w.heap.size+1]?)(hb:B9 w w'):Ew w w' v0 v1 v2 d:=⟨a.trans h.b0,h1.trans h.b1,hb⟩
def Ew.pH(h:Ew w wr v0 v1 v2 d):Ew w (wr.setCell (Y9 w 0) u) u v1 v2 d:=
 ⟨(At _ _ _ _<|by show w.heap.size≠w.heap.size+1;omega).trans h.b0,(Lo _ _ _ _ _ _ h.b1).trans oq,h.CX.setCell ox _⟩
def Ew.eO(h:Ew w wr v0 v1 v2 d):Ew w (wr.setCell (Y9 w 1) u) v0 u v2 d:=
 ⟨(At _ _ _ _<|by show w.heap.size≠w.heap.size+1;omega).trans h.b0,(Lo _ _ _ _ _ _ h.b1).trans oq,h.CX.setCell ox _⟩
def Ew.eQ(h:Ew w wr v0 v1 v2 d):Ew w (wr.setCell (Y9 w 2) u) v0 v1 u d:=
 ⟨(At _ _ _ _<|by show w.heap.size≠w.heap.size+1;omega).trans h.b0,(Lo _ _ _ _ _ _ h.b1).trans oq,h.CX.setCell ox _⟩
def JU(f:Nat->Int)(k j:Nat):Int:=if j<k then f j else 0
theorem Mi f k:AU (JU f k) k (f k)=JU f (k+1):=by
 grind [AU,JU,Au,Ao]
def Rq f k(h:f k=0):JU f k=JU f (k+1):=by
 grind [JU,Mi,Au,Ao]
theorem Bo.congr{g}(h:Bo w B v n f)(e:∀i,i<n->g i=f i):Bo w B v n g:=by
 have hl:iL g n=iL f n:=by
  apply AaS;grind [Kk,CK]
 grind [iL]
def QB(e:Nat)(p:Pr)(W:Y):Prop:=W.cell? (G e 0)=some (J p.key.kind)/\W.cell? (G e 1)=some (J p.key.num)/\W.cell? (G e 2)=some (F9 p.key.Af)/\W.cell? (G e 3)=some (.string p.key.str)/\W.cell? (G e 4)=some (J p.key.ref)/\W.cell? (G e 5)=some (J p.val.kind)/\W.cell? (G e 6)=some (J p.val.num)/\W.cell? (G e 7)=some (F9 p.val.Af)/\W.cell? (G e 8)=some (.string p.val.str)/\W.cell? (G e 9)=some (J p.val.ref)/\W.cell? (G e 10)=some (J p.turn)
def BC.held(h:BC w b p i):QB b p w:=⟨h.k0,h.k1,h.k2,h.k3,h.k4,h.v0,h.v1,h.v2,h.v3,h.v4,h.tn⟩
def lK(bk:Nat)(a b c:Int)(W:Y):Prop:=W.cell? (G bk 4)=some (J a)/\W.cell? (G bk 5)=some (J b)/\W.cell? (G bk 6)=some (J c)
def aK(c g m e:Nat)(x:Int)(W:Y):Prop:=W.cell? (G c 1)=some (S9 g m m)/\W.cell? (G e 11)=some (J x)
def aP(c g m s e:Nat)(x:Int)(W:Y):Prop:=W.cell? (G c 2)=some (S9 g m m)/\W.cell? (G s 5)=some (Q9 e)/\W.cell? (G e 11)=some (J x)
def Tq(hM:AG w bk r0 r1 R2 E S d)(hS:Small d)(hI:∀j,j<d.m->0<=d.I j/\d.I j<=d.n)(hX:∀j,j<d.x->d.X j=0\/d.X j=-1\/(0<d.X j/\d.X j<=d.n)):
  C9 195 #[.pointer (some<|G bk 0)] w λe w'=>(∃v0 v1 v2,e=.returned (lJ v0 v1 v2 d)/\DV d w' v0 v1 v2 w.heap.size w'.heap.size)/\B9 w w':=by
 rcases ON EF,hS.n,hS.m,hS.x,hM.log.slice,hM.rf with⟨⟨i0,ca,cb,cd,cg⟩,hn,hm,hx,⟨a0,l0,e0⟩,⟨Q1,l1,e1⟩⟩;subst e0 e1;rcases hM.lt,hM.c0,hM.c4,hM.c5,hM.c6,Ic d.m hm,Ic d.x hx,O hI,O hX with⟨A,c0,c4,c5,c6,cz,cD,HI,HX⟩;clear hS hI hX;go_enter func195,ntmps195;go_wp2_with fail;refine Gq (lK bk d.used d.live d.turns) ?_;have C:∀o,B9 w<|w.alloc o:=λo=>n9;have W:∀o,B9 w (w.alloc o).drew:=λo=>(C o).drew;have s:∀o,lK bk d.used d.live d.turns (w.alloc o).drew:=λo=>⟨((W o).cell (p:=G bk 4) A).trans c4,((W o).cell (p:=G bk 5) A).trans c5,((W o).cell (p:=G bk 6) A).trans c6⟩;have bf:=s<|.cells #[N9,N9,N9,J 0,J 0,J 0] 103;refine tz 0 (h:=tz 1 (h:=tz 2 (h:=tz 3 (h:=tz 4 (h:=tz 5 (h:=tz 6 (h:=tz 7 (h:=tz 8 (h:=tz 9 (h:=tz 10 (h:=tz 11 (h:=?_))))))))))));refine tz 12 (h:=tz 13 (h:=?_));refine ry 14 λK hK=>?_;go_simp;refine hK.out _ _ ⟨(((C _).alloc oq _).drew.cell (p:=G bk 4) A).trans c4,(((C _).alloc oq _).drew.cell (p:=G bk 5) A).trans c5,(((C _).alloc oq _).drew.cell (p:=G bk 6) A).trans c6⟩ λB=>?_;clear hK K;refine ry 15 λK hK=>?_;go_simp;refine hK.out _ _ ⟨(((C _).alloc oq _).drew.cell (p:=G bk 4) A).trans c4,(((C _).alloc oq _).drew.cell (p:=G bk 5) A).trans c5,(((C _).alloc oq _).drew.cell (p:=G bk 6) A).trans c6⟩ λ_=>?_;clear hK K B s bf;refine Fj ?_;obtain⟨W1,a6⟩:=o9<|((w.alloc<|.cells #[N9,N9,N9,J 0,J 0,J 0] 103).alloc<|.cells #[N9,N9,N9,J d.used,J d.live,J d.turns] 103).drew;rw[<-a6];have a7:Ew w W1 N9 N9 N9 d:=by
  rw[a6];refine⟨(DO _ _ _ oq).trans<|DD _ _,?_,((C _).alloc oq _).drew⟩;have h1:=DD (w.alloc<|.cells #[N9,N9,N9,J 0,J 0,J 0] 103)<|.cells #[N9,N9,N9,J d.used,J d.live,J d.turns] 103;rw[World.size_alloc]at h1;exact h1
 have ch:=(a7.CX.cell A).trans c0;clear a6 C W c0 c4 c5 c6;go_wp2_with fail;clear ch;go_loopw [29] (λi wr=>∃(k:Nat) (v0:V9),k<=d.n/\i=J (k:Int)/\BP wr (w.heap.size+2) v0 k d.L/\Ew w wr v0 N9 N9 d) λi _=>d.n-(intOf i).toNat
 .exact⟨0,N9,om,rfl,NB _ _ _ _,a7⟩
 clear a7;obtain⟨k,v0,hk,rfl,H,f⟩:=hrel;have c:=hM.below f.CX;have aw:=f.size;by_cases l:k<d.n
 .obtain⟨g0,cN,e0,_,c7,_,bq,_⟩:=c.log.form om;cases e0;have rk:=bq k l;have Z:=c.Cw k l;rcases Z.lt,(hM.Cw k l).lt,f.cells,Z.drew.held with⟨a,br,⟨x0,_,_,_,_,_,r⟩,s⟩;have ag:Hid<|BP wr.drew (w.heap.size+2) v0 k d.L:=O H.drew;have bg:Hid (∀(o:Obj) (g3 D:Nat) (w3:Y),w3.ownsRow (w.heap.size+2) 166 11 (.slice (some<|G g3 0) (k+1) D) (k+1) (pL d.L k++De (d.L k))->(wr.drew.alloc o).grownBy w3 v0.ownBlock->QB (E k) (d.L k) w3/\w3.cell? (Y9 w 0)=some v0/\w3.frozen? (Y9 w 0)=false/\w.heap.size+1<w3.heap.size/\QB (E k) (d.L k) (w3.setCell (Y9 w 0)<|.slice (some<|G g3 0) (k+1) D)/\
    (BP (w3.setCell (Y9 w 0) (.slice (some (G g3 0)) (k+1) D)) (w.heap.size+2) (.slice (some (G g3 0)) (k+1) D) (k+1) d.L/\Ew w (w3.setCell (Y9 w 0) (.slice (some (G g3 0)) (k+1) D)) (.slice (some (G g3 0)) (k+1) D) N9 N9 d)):=O (λo g3 D w3 h1 h2=>by
   have hB:∀b,b<w.heap.size+2->w3.heap[b]?=wr.heap[b]?:=λb hb=>(h2.block b ot λe=>oS (H.lt b e.symm).1).trans<|DO _ _ _ (by show b<wr.heap.size;omega);have cj:wr.heap.size<=w3.heap.size:=by have:=h2.size;simp at this;omega
   have M:=f.keep (hB _ om) (hB _ om)<|((f.CX.drew).alloc (by show w.heap.size<=wr.heap.size;omega) o).grown h2 ot λq e=>oS (H.lt q e).1;rcases Z.keep cj (hB _ om),M.cells,(World.ownsRow.lt h1 g3 rfl).1 with⟨bt,⟨y0,_,_,_,_,_,yf⟩,c8⟩;refine⟨bt.held,y0,yf 0,om,(bt.keep oq<|At _ _ _ _<|by show E k≠w.heap.size+1;omega).held,CD h1 (λq e=>At _ _ _ _ (by
    have e':g3=q:=oF e;show q≠w.heap.size+1;omega)),M.pH⟩)
  clear H c bq Z f r;go_wp2_with fail;refine Gq (QB (E k)<|d.L k) ?_;refine tz 0 (h:=tz 2 (h:=tz 3 (h:=tz 4 (h:=tz 5 (h:=?_)))));refine TO (rs:=[1,6]) ou oq ?_;refine IH rfl (λK hK=>?_) (IH rfl (λK hK=>?_) SO)
  focus
   go_simp;refine hK.out _ _ s λ_=>?_;clear hK K;refine ry 6 λK hK=>?_;go_simp;refine hK.out _ _ (by obtain⟨s0,s1,s2,s3,s4,s5,s6,s7,s8,s9,a8⟩:=s;exact(λ(hb:B9 wr _)=>(⟨(hb.cell (p:=G (E k) 0) a).trans s0,(hb.cell (p:=G (E k) 1) a).trans s1,(hb.cell (p:=G (E k) 2) a).trans s2,(hb.cell (p:=G (E k) 3) a).trans s3,(hb.cell (p:=G (E k) 4) a).trans s4,(hb.cell (p:=G (E k) 5) a).trans s5,(hb.cell (p:=G (E k) 6) a).trans s6,(hb.cell (p:=G (E k) 7) a).trans s7,(hb.cell (p:=G (E k) 8) a).trans s8,(hb.cell (p:=G (E k) 9) a).trans s9,(hb.cell (p:=G (E k) 10) a).trans a8⟩:QB (E k) (d.L k) _)) ((BE wr.heap.size wr).drew.alloc (Be _) _)) λB=>?_
  rotate_left
  focus
   go_simp;refine hK.out _ _ (by obtain⟨s0,s1,s2,s3,s4,s5,s6,s7,s8,s9,a8⟩:=s;exact(λ(hb:B9 wr _)=>(⟨(hb.cell (p:=G (E k) 0) a).trans s0,(hb.cell (p:=G (E k) 1) a).trans s1,(hb.cell (p:=G (E k) 2) a).trans s2,(hb.cell (p:=G (E k) 3) a).trans s3,(hb.cell (p:=G (E k) 4) a).trans s4,(hb.cell (p:=G (E k) 5) a).trans s5,(hb.cell (p:=G (E k) 6) a).trans s6,(hb.cell (p:=G (E k) 7) a).trans s7,(hb.cell (p:=G (E k) 8) a).trans s8,(hb.cell (p:=G (E k) 9) a).trans s9,(hb.cell (p:=G (E k) 10) a).trans a8⟩:QB (E k) (d.L k) _)) ((BE wr.heap.size wr).drew.alloc (Be _) _)) λB=>?_;clear hK K;refine ry 1 λK hK=>?_;go_simp;refine hK.out _ _ B λ_=>?_
  all_goals
   clear hK K;refine ry 7 λK hK=>?_;refine To _ rfl (.tmp 34) (.tmp 39) 101 rfl (w.heap.size+2) 166 i0 PZ 11 104 underlying101 ca cb cd cg rfl oo v0 k (pL d.L k) og (OR ag _) (y wr 0) 1 1 (De<|d.L k) og rfl (Is<|DD _ _) (Ff _) oo od om ot _ rfl ?_;intro g3 D w3 av bh b9 cw;obtain⟨bu,x3,f3,l3,bw,ck⟩:=z bg _ g3 D w3 av bh;refine hK.out _ _ bu λbj=>?_;clear hK K;refine tz 8 (h:=?_);refine ry 9 λK hK=>?_;go_simp;refine hK.out _ _ bw λ_=>?_;clear hK K s bu bj bw;refine Fj ?_;have t:=O ck;go_wp2;go_roundw
   .exact⟨k+1,_,om,ov,t.1,t.2⟩
   exact ow
 have ah:k=d.n:=om;subst ah;rcases O H,c.c1,c.lt,f.cells with⟨ag,c1,lb,⟨x0,x1,x2,x3,x4,x5,r⟩⟩;have cl:=r 1;have HW:=O f;go_wp2_with fail;obtain⟨g1,ax⟩:=o9 wr.heap.size;obtain⟨W2,ai⟩:=o9<|(wr.setCell (Y9 w 1)<|.slice (some<|G wr.heap.size 0) d.m d.m).alloc<|.cells (madeCells #[Value.int .i64 0] d.m) 3;rw[<-ai];have bx:Bo W2 (w.heap.size+2) (.slice (some<|G g1 0) d.m d.m) d.m<|JU d.I 0:=by
  have h1:=Bo.made (wr.setCell (Y9 w 1)<|.slice (some<|G wr.heap.size 0) d.m d.m) (w.heap.size+2) d.m ot hm;rw[show(wr.setCell (Y9 w 1) (.slice (some (G wr.heap.size 0)) d.m d.m)).heap.size=g1 by rw[ax];simp]at h1;rw[ai];exact h1.congr λi _=>Cs om
 have ae:∀b,b<g1->b≠w.heap.size+1->W2.heap[b]?=wr.heap[b]?:=λb hb bb=>by
  rw[ai];exact(DO _ _ _ ot).trans (At _ _ _ _<|by exact bb)
 have ay:∀q,v0.ownBlock=some q->w.heap.size+2<=q/\q<g1:=λq e=>oS<|ag.lt q e;have bz:BP W2 (w.heap.size+2) v0 d.n d.L:=CD ag λq e=>ae q (ay q e).2<|oS (ay q e).1;have b1:Ew w W2 v0 (.slice (some<|G g1 0) d.m d.m) N9 d:=by
  have h1:=HW.eO (u:=.slice (some<|G g1 0) d.m d.m);rw[ax]at h1 ⊢;rw[ai];exact h1.keep (DO _ _ _ ot) (DO _ _ _ ot)<|h1.CX.alloc ot _
 have cx:w.heap.size+2<=g1:=om;have az:=O<|show Bo W2 (w.heap.size+2) (.slice (some<|G g1 0) d.m d.m) d.m (JU d.I 0)/\BP W2 (w.heap.size+2) v0 d.n d.L/\Ew w W2 v0 (.slice (some<|G g1 0) d.m d.m) N9 d from⟨bx,bz,b1⟩;rw[<-ax];have af:=O ay;clear ag HW bx ae ay bz b1 ai ax x0 x1 x2 x3 x4 x5 cl c1 lb aw l hk;go_loopw [55] (λi wr=>∃k:Nat,k<=d.m/\i=J (k:Int)/\Bo wr (w.heap.size+2) (.slice (some<|G g1 0) d.m d.m) d.m (JU d.I k)/\BP wr (w.heap.size+2) v0 d.n d.L/\Ew w wr v0 (.slice (some<|G g1 0) d.m d.m) N9 d) λi _=>d.m-(intOf i).toNat
 .exact⟨0,om,rfl,az.1,az.2.1,az.2.2⟩
 clear az;obtain⟨k,hk,rfl,U,V,f⟩:=hrel;have c:=hM.below f.CX;have aw:=f.size;by_cases l:k<d.m
 .obtain⟨_,_,e1,_,_,_,P,_⟩:=c.ints.form om;cases e1;have rk:=P k l;obtain⟨_,_,e2,cm,cn,_,Q,R⟩:=U.form om;cases e2;rcases Q k l,R k,IF _ _ rk with⟨gk,gf,bc⟩;dsimp only at bc;obtain⟨b2,b3⟩:=z HI k l;obtain⟨x0,x1,_,_,_,_,r⟩:=f.cells;by_cases h0:d.I k=0
  focus
   rw[h0,show CG E 0=none from Cs oo]at rk;have t:Hid<|Bo wr (w.heap.size+2) (.slice (some<|G g1 0) d.m d.m) d.m (JU d.I<|k+1)/\BP wr (w.heap.size+2) v0 d.n d.L/\Ew w wr v0 (.slice (some<|G g1 0) d.m d.m) N9 d:=O ⟨by rw[<-Rq d.I k h0];exact U,V,f⟩;clear U V f c P Q R r h0 b2 b3
  rotate_left
  focus
   obtain⟨q,hq⟩:∃q:Nat,d.I k=(q:Int)+1:=⟨(d.I k-1).toNat,om⟩;have aj:q<d.n:=om;rw[hq,show CG E ((q:Int)+1)=some (G (E q) 0) by unfold CG;rw[C3 om,show((q:Int)+1-1).toNat=q by omega]]at rk;have Z:=c.Cw q aj;have a:=Z.lt;have br:=(hM.Cw q aj).lt;have cp:IntKind.i64.wrap ((q:Int)+1)=(q:Int)+1:=oj;have s:aK (w.heap.size+1) g1 d.m (E q) q wr.drew:=⟨x1,Z.pl⟩;have B:aK (w.heap.size+1) g1 d.m (E q) q (wr.setCell (G g1 k)<|J<|(q:Int)+1).drew:=⟨(Al om).trans x1,(Al om).trans Z.pl⟩;have t:Hid<|Bo (wr.setCell (G g1 k)<|J<|(q:Int)+1).drew (w.heap.size+2) (.slice (some<|G g1 0) d.m d.m) d.m (JU d.I<|k+1)/\BP (wr.setCell (G g1 k)<|J<|(q:Int)+1).drew (w.heap.size+2) v0 d.n d.L/\Ew w (wr.setCell (G g1 k)<|J<|(q:Int)+1).drew v0 (.slice (some<|G g1 0) d.m d.m) N9 d:=O (by
    refine⟨?_,CD V (λb e=>At _ _ _ _ (by have:=z af b e;show b≠g1;omega)),f.keep (At _ _ _ _ (by show w.heap.size≠g1;omega)) (At _ _ _ _ (by show w.heap.size+1≠g1;omega)) (f.CX.setCell (by show w.heap.size<=g1;omega) _).drew⟩;have h1:=(U.set l ((q:Int)+1)).drew;rw[<-hq,Mi]at h1;rw[<-hq];exact h1)
   clear U V f c P Q R r h0 b2 b3 Z hq;go_wp2_with fail;refine Gq (aK (w.heap.size+1) g1 d.m (E q) q) ?_;refine tz 0 (h:=tz 1 (h:=tz 2 (h:=tz 3 (h:=tz 4 (h:=tz 5 (h:=tz 6 (h:=tz 7 (h:=tz 8 (h:=?_)))))))));refine ry 9 λK hK=>?_;go_simp;refine hK.out _ _ B λ_=>?_;clear hK K s B;refine Fj ?_
  all_goals
   go_wp2;go_roundw
   .exact⟨k+1,om,ov,t.1,t.2.1,t.2.2⟩
   exact ow
 have ah:k=d.m:=om;subst ah;rcases U.congr (λi hi=>(C3 hi).symm),c.c3,c.lt,f.cells with⟨bd,c3,lb,⟨x0,x1,x2,x3,x4,x5,r⟩⟩;rcases r 2,(bd.lt g1 rfl).2,O V,O f with⟨cq,bm,HO,HW⟩;clear c U V f r;go_wp2_with fail;obtain⟨g2,aM⟩:=o9 wr.heap.size;obtain⟨W3,M⟩:=o9<|(wr.setCell (Y9 w 2)<|.slice (some<|G wr.heap.size 0) d.x d.x).alloc<|.cells (madeCells #[Value.int .i64 0] d.x) 3;rw[<-M];have b4:Bo W3 (w.heap.size+2) (.slice (some<|G g2 0) d.x d.x) d.x<|JU d.X 0:=by
  have h1:=Bo.made (wr.setCell (Y9 w 2)<|.slice (some<|G wr.heap.size 0) d.x d.x) (w.heap.size+2) d.x ot hx;rw[show(wr.setCell (Y9 w 2) (.slice (some (G wr.heap.size 0)) d.x d.x)).heap.size=g2 by rw[aM];simp]at h1;rw[M];exact h1.congr λi _=>Cs om
 have ae:∀b,b<g2->b≠w.heap.size+1->W3.heap[b]?=wr.heap[b]?:=λb hb bb=>by
  rw[M];exact(DO _ _ _ ot).trans (At _ _ _ _<|by exact bb)
 have b5:BP W3 (w.heap.size+2) v0 d.n d.L:=CD HO λq e=>ae q (oS<|z af q e)<|oS<|z af q e;have b6:Bo W3 (w.heap.size+2) (.slice (some<|G g1 0) d.m d.m) d.m d.I:=CD bd (λq e=>by
  have e':g1=q:=oF e;exact ae q om om)
 have b7:Ew w W3 v0 (.slice (some<|G g1 0) d.m d.m) (.slice (some<|G g2 0) d.x d.x) d:=by
  have h1:=HW.eQ (u:=.slice (some<|G g2 0) d.x d.x);rw[aM]at h1 ⊢;rw[M];exact h1.keep (DO _ _ _ ot) (DO _ _ _ ot)<|h1.CX.alloc ot _
 have cy:g1<g2:=om;have ak:=O<|show Bo W3 (w.heap.size+2) (.slice (some<|G g2 0) d.x d.x) d.x (JU d.X 0)/\Bo W3 (w.heap.size+2) (.slice (some<|G g1 0) d.m d.m) d.m d.I/\BP W3 (w.heap.size+2) v0 d.n d.L/\Ew w W3 v0 (.slice (some<|G g1 0) d.m d.m) (.slice (some<|G g2 0) d.x d.x) d from⟨b4,b6,b5,b7⟩;rw[<-aM];clear HO HW b4 b6 b5 b7 ae M aM x0 x1 x2 x3 x4 x5 cq c3 lb aw l hk bm bd;go_loopw [86] (λi wr=>∃k:Nat,k<=d.x/\i=J (k:Int)/\Bo wr (w.heap.size+2) (.slice (some<|G g2 0) d.x d.x) d.x (JU d.X k)/\Bo wr (w.heap.size+2) (.slice (some<|G g1 0) d.m d.m) d.m d.I/\BP wr (w.heap.size+2) v0 d.n d.L/\Ew w wr v0 (.slice (some<|G g1 0) d.m d.m) (.slice (some<|G g2 0) d.x d.x) d) λi _=>d.x-(intOf i).toNat
 .exact⟨0,om,rfl,ak.1,ak.2.1,ak.2.2.1,ak.2.2.2⟩
 clear ak;obtain⟨k,hk,rfl,F,U,V,f⟩:=hrel;rcases hM.below f.CX,f.size,f.cells with⟨c,aw,⟨x0,x1,x2,x3,x4,x5,r⟩⟩;by_cases l:k<d.x
 .obtain⟨_,_,e1,_,_,_,P,_⟩:=c.slots.form om;cases e1;have rk:=P k l;obtain⟨_,_,e2,cm,cn,_,Q,R⟩:=F.form om;cases e2;rcases Q k l,R k,IF _ _ rk with⟨gk,gf,bc⟩;dsimp only at bc;have ao:=c.sl k l;have T:∀x:Int,d.X k=x->Bo (wr.setCell (G g2 k)<|J x) (w.heap.size+2) (.slice (some<|G g2 0) d.x d.x) d.x (JU d.X<|k+1)/\Bo (wr.setCell (G g2 k)<|J x) (w.heap.size+2) (.slice (some<|G g1 0) d.m d.m) d.m d.I/\BP (wr.setCell (G g2 k)<|J x) (w.heap.size+2) v0 d.n d.L/\Ew w (wr.setCell (G g2 k)<|J x) v0 (.slice (some<|G g1 0) d.m d.m) (.slice (some<|G g2 0) d.x d.x) d:=λx b8=>by
   refine⟨?_,CD U (λb e=>At _ _ _ _ (by
    have e':g1=b:=oF e;show b≠g2;omega)),CD V (λb e=>At _ _ _ _ (by have:=z af b e;show b≠g2;omega)),f.keep (At _ _ _ _ (by show w.heap.size≠g2;omega)) (At _ _ _ _ (by show w.heap.size+1≠g2;omega)) (f.CX.setCell (by show w.heap.size<=g2;omega) _)⟩
   have h1:=F.set l x;rw[<-b8,Mi]at h1;rw[<-b8];exact h1
  rcases z HX k l with h0|h0|⟨h0,cr⟩
  .rw[h0,show DB S k 0=none from C3 rfl]at rk;have t:Hid<|Bo wr (w.heap.size+2) (.slice (some<|G g2 0) d.x d.x) d.x (JU d.X<|k+1)/\Bo wr (w.heap.size+2) (.slice (some<|G g1 0) d.m d.m) d.m d.I/\BP wr (w.heap.size+2) v0 d.n d.L/\Ew w wr v0 (.slice (some<|G g1 0) d.m d.m) (.slice (some<|G g2 0) d.x d.x) d:=O ⟨by rw[<-Rq d.X k h0];exact F,U,V,f⟩;clear F U V f c P Q R r h0 ao T;go_wp2;go_roundw
   .exact⟨k+1,om,ov,t.1,t.2.1,t.2.2.1,t.2.2.2⟩
   exact ow
  .rw[h0,show DB S k (-1)=some (G (S k) 0)from Cs oo]at rk;have ar:=ao.2 om;have gg:=ar.gn;have t:=O<|T (-1) h0;clear F U V f c P Q R r h0 ao T ar;go_wp2;go_roundw
   .exact⟨k+1,om,ov,t.1,t.2.1,t.2.2.1,t.2.2.2⟩
   exact ow
  obtain⟨q,hq⟩:∃q:Nat,d.X k=(q:Int)+1:=⟨(d.X k-1).toNat,om⟩;have aj:q<d.n:=om;rw[show DB S k (d.X k)=some (G (S k) 0)from Cs om]at rk;have aq:=ao.1 h0;rw[show(d.X k-1).toNat=q by omega]at aq;rcases aq.gn,aq.pt,c.Cw q aj with⟨gg,gp,Z⟩;have a:=Z.lt;have br:=(hM.Cw q aj).lt;have ct:S k≠g2:=λe=>by
   obtain⟨cc,cu⟩:∃cc,wr.heap[g2]?=some (.cells cc 3 (0,0)):=by
    obtain⟨_,⟨hv,_⟩|⟨g,cap,cur,hv,_,bn,_⟩⟩:=F
    .cases hv
    cases hv;exact⟨cur,bn⟩
   exact Br (e▸aq.ob) cu oo
  have cp:IntKind.i64.wrap ((q:Int)+1)=(q:Int)+1:=oj;have s:aP (w.heap.size+1) g2 d.x (S k) (E q) q wr.drew:=⟨x2,gp,Z.pl⟩;have B:aP (w.heap.size+1) g2 d.x (S k) (E q) q (wr.setCell (G g2 k)<|J<|(q:Int)+1).drew:=⟨(Al om).trans x2,(Al λe=>ct e.symm).trans gp,(Al om).trans Z.pl⟩;have t:=O<|T ((q:Int)+1) hq;clear F U V f c P Q R r h0 cr ao T Z aq hq;go_wp2_with fail;refine Gq (aP (w.heap.size+1) g2 d.x (S k) (E q) q) ?_;refine tz 0 (h:=tz 1 (h:=tz 2 (h:=tz 3 (h:=tz 4 (h:=tz 5 (h:=tz 6 (h:=tz 7 (h:=tz 8 (h:=tz 9 (h:=tz 10 (h:=tz 11 (h:=?_))))))))))));refine ry 12 λK hK=>?_;go_simp;refine hK.out _ _ B λ_=>?_;clear hK K s B;refine Fj ?_;go_wp2;go_roundw
  .exact⟨k+1,om,ov,t.1.drew,t.2.1.drew,t.2.2.1.drew,t.2.2.2.keep rfl rfl t.2.2.2.CX.drew⟩
  exact ow
 have ah:k=d.x:=om;subst ah;have y0:wr.cell? (y w 0)=some (N9):=by simp[World.cell?,f.b0]
 have y1:wr.cell? (y w 1)=some (N9):=by simp[World.cell?,f.b0]
 have y2:wr.cell? (y w 2)=some (N9):=by simp[World.cell?,f.b0]
 have y3:wr.cell? (y w 3)=some (J 0):=by simp[World.cell?,f.b0]
 have y4:wr.cell? (y w 4)=some (J 0):=by simp[World.cell?,f.b0]
 have y5:wr.cell? (y w 5)=some (J 0):=by simp[World.cell?,f.b0]
 have yf:∀q,wr.frozen? (y w q)=false:=λq=>by simp[World.frozen?,f.b0]
 have ad:=F.congr λi hi=>(C3 hi).symm;obtain⟨va,vc,ev⟩:∃va vc,v0=.slice va d.n vc:=by
  obtain⟨_,⟨hv,h0⟩|⟨g,cap,cur,hv,_⟩⟩:=V
  .exact⟨none,0,by rw[hv,h0]⟩
  exact⟨_,_,hv⟩
 subst ev;have bp:Hid (∀W':World,Below (w.heap.size) w W'->wr.heap.size<=W'.heap.size->(∀b,w.heap.size+2<=b->W'.heap[b]?=wr.heap[b]?)->DV d W' (.slice va d.n vc) (.slice (some<|G g1 0) d.m d.m) (.slice (some<|G g2 0) d.x d.x) w.heap.size W'.heap.size):=O (λW' hB hz hb=>by
  have o0:BP W' w.heap.size (.slice va d.n vc) d.n d.L:=D7 (CD V λq e=>hb q (V.lt q e).1) om;have o1:Bo W' w.heap.size (.slice (some<|G g1 0) d.m d.m) d.m d.I:=D7 (CD U λq e=>hb q (U.lt q e).1) om;have o2:Bo W' w.heap.size (.slice (some<|G g2 0) d.x d.x) d.x d.X:=D7 (CD ad λq e=>hb q (ad.lt q e).1) om;refine⟨Lr.of o0,Iv.of o1,Iv.of o2,λq e e'=>?_,λq e e'=>?_,λq e e'=>?_⟩
  .have:=(af q e).2;have e2:g1=q:=oF e';omega
  .have:=(af q e).2;have e2:g2=q:=oF e';omega
  have e1:g1=q:=oF e;have e2:g2=q:=oF e';omega)
 have cv:=O f.CX;clear F ad U V f c r;go_wp2;refine GO (v:=lJ (.slice va d.n vc) (.slice (some<|G g1 0) d.m d.m) (.slice (some<|G g2 0) d.x d.x) d) (by simp[results,results195,go_sem,y0,y1,y2,y3,y4,y5]) rfl ?_;have au:B9 w<|(((((wr.setCell (y w 0)<|.slice va d.n vc).setCell (y w 1)<|.slice (some<|G g1 0) d.m d.m).setCell (y w 2)<|.slice (some<|G g2 0) d.x d.x).setCell (y w 3)<|J d.used).setCell (y w 4)<|J d.live).setCell (y w 5)<|J d.turns:=by
  iterate 6 (refine NO ?_ (by exact Be _) _)
  exact cv
 refine⟨⟨_,_,_,rfl,bp _ au oq λb hb=>?_⟩,au⟩;iterate 6 (refine(At _ _ _ _<|by show b≠w.heap.size;omega).trans ?_)
 rfl
def jO(h:Entry d i)(a:(d.L i).turn≠0):Cc (d.L i).key=true:=by
 grind [Entry,Cc]
def oR w:Ea w none none none kD:=⟨.inl rfl,.inl rfl,.inl rfl⟩
def ZJ(h:Sound d<|hD d)(a:S4 d):Inv Ky hN d:=
 Sound.inv (hf:=hN) (K:=Ky) h B6 λi hi b=>⟨jO (h.d2.lU.Cw i hi) b,(a i hi).1⟩
section
variable {w W W':Y} {la ia xa:Option Addr} {lc ic xc:Nat} {d:Dc} {v:Vl}
end
theorem Lr.wide{f}(h:Lr f n w v lo hi)(h1:a<=lo)(h2:hi<=b):Lr f n w v a b:=by
 grind [Lr]
theorem Iv.wide(h:Iv f n w v lo hi)(h1:a<=lo)(h2:hi<=b):Iv f n w v a b:=by
 grind [Iv]
theorem DV.wide(h:DV d w v0 v1 v2 lo hi)(h1:a<=lo)(h2:hi<=b):DV d w v0 v1 v2 a b:=⟨h.log.wide h1 h2,h.ints.wide h1 h2,h.index.wide h1 h2,h.sM,h.sN,h.a12⟩
def IK(w:Y)(b:Nat)(t:TypeId)(Z:Nat):Prop:=∃g,w.rowIs b t Z g
theorem IK.uniq{t t'}(h:IK w b t Z)(h':IK w b t' a):t=t'/\Z=a:=by
 obtain⟨g,c,h1,h2,_⟩:=h;obtain⟨g',f,d,e,_⟩:=h';grind [IK]
structure Mk (lo H:Nat) (w w':Y):Prop where
 os:w'.os=w.os
 tape:w'.tape=w.tape
 output:w'.output=w.output
 size:w.heap.size<=w'.heap.size
 block:∀k,k<w.heap.size->(k<lo\/H<=k)->w'.heap[k]?=w.heap[k]?
 rows:∀k t N,IK w k t N->IK w' k t N
def Mk.refl lo H w:Mk lo H w w:=⟨rfl,rfl,rfl,Be _,λ_ _ _=>rfl,λ_ _ _ h=>h⟩
theorem Mk.trans{u v}(h:Mk lo H u v)(k:Mk lo H v w):Mk lo H u w:=
 ⟨k.os.trans h.os,k.tape.trans h.tape,k.output.trans h.output,GP h.size k.size,λi hi hn=>(k.block i (A0 hi h.size) hn).trans<|h.block i hi hn,λi t Z r=>k.rows i t Z<|h.rows i t Z r⟩
def Mk.bt{t}(h:Bt b w w')(h1:lo<=b)(h2:b<H)(r:IK w b t Z)(r':IK w' b t Z):Mk lo H w w':=
 ⟨h.os,h.tape,h.output,h.size,λk hk hn=>h.block k hk om,λk t' c q=>by
  by_cases e:k=b
  .subst e;obtain⟨rfl,rfl⟩:=IK.uniq r q;exact r'
  obtain⟨g,a⟩:=q;exact⟨g,GW a (h.block k (H8 a) e)⟩⟩
def Mk.set{t}v(h1:lo<=b)(h2:b<H)(r:IK w b t Z):Mk lo H w<|w.setCell (G b o) v:=
 Mk.bt (Bt.set b o w v) h1 h2 r (by obtain⟨g,q⟩:=r;exact⟨_,q.set o v⟩)
def O0(b n cap Z s:Nat)g w(hA:w.rowIs b 43 Z g)(hN:n*5<=Z)(hn:n<=4194304)(hs:s<=100000000):
  C9 68 #[S9 b n cap,J s] w λe w'=>(e=.returned (J<|(s:Int)+5*(n:Int))/\∃g',w'.rowIs b 43 Z g')/\Bt b w w':=by
 go_enter func68,ntmps68;go_wp2;go_loopw [1,5] (λq i wr=>∃(k:Nat) (g:Nat->Value),k<=n/\i=J (k:Int)/\q=J ((s:Int)+5*(k:Int))/\Bt b w wr/\wr.rowIs b 43 Z g) λ_ i _=>n-(intOf i).toNat
 .exact⟨0,g,om,rfl,oq,Bt.refl _ _,hA⟩
 obtain⟨k,g,hk,rfl,rfl,hb,a⟩:=hrel;by_cases l:k<n
 .have h:=a.lt;have d0:=a.cell (i:=k*5) om;have e0:=a.frozen<|k*5;have d1:=a.cell (i:=k*5+1) om;have e1:=a.frozen<|k*5+1;have d2:=a.cell (i:=k*5+2) om;have e2:=a.frozen<|k*5+2;have d3:=a.cell (i:=k*5+3) om;have e3:=a.frozen<|k*5+3;have d4:=a.cell (i:=k*5+4) om;have m:=a.frozen<|k*5+4;have j:∀w:World,_:=λw=>BA (s+5*k+3) om w;rw[show((s+5*k+3:Nat):Int)=(s:Int)+5*(k:Int)+1+1+1 by omega]at j;have o:=O hb;have p:=O a;go_wp2_with fail;refine(z (O j) _).mono ?_;rintro e w1 ⟨rfl,d⟩;have c:=(((p.set (k*5)<|J<|(s:Int)+5*(k:Int)).set (k*5+1)<|J<|(s:Int)+5*(k:Int)+1).set (k*5+2)<|F9<|floatOfInt .f64<|(s:Int)+5*(k:Int)+1+1).of_block<|d.block b (by simpa using h);have d3:=c.cell (i:=k*5+3) om;have e3:=c.frozen<|k*5+3;have d4:=c.cell (i:=k*5+4) om;have m:=c.frozen<|k*5+4;go_wp2;go_roundw
  .exact⟨k+1,_,om,ov,ov,((z<|(((o.trans<|Bt.set b (k*5) _<|J<|(s:Int)+5*(k:Int)).trans<|Bt.set b (k*5+1) _<|J<|(s:Int)+5*(k:Int)+1).trans<|Bt.set b (k*5+2) _<|F9<|floatOfInt .f64<|(s:Int)+5*(k:Int)+1+1).trans<|Bt.of d).trans<|Bt.set b (k*5+3) _<|.string<|mark<|s+5*k+3).trans<|Bt.set b (k*5+4) _<|J<|(s:Int)+5*(k:Int)+1+1+1+1,(c.set (k*5+3)<|.string<|mark<|s+5*k+3).set (k*5+4)<|J<|(s:Int)+5*(k:Int)+1+1+1+1⟩
  exact ow
 have f:k=n:=om;subst f;go_wp2;go_ret;exact⟨⟨rfl,_,z<|O a⟩,z<|O hb⟩
def Ql(b n cap Z s:Nat)g w(hA:w.rowIs b 107 Z g)(hN:n*5<=Z)(hn:n<=4194304)(hs:s<=100000000):
  C9 36 #[S9 b n cap,J s] w λe w'=>(e=.returned (J<|(s:Int)+5*(n:Int))/\∃g',w'.rowIs b 107 Z g')/\Bt b w w':=by
 go_enter func36,ntmps36;go_wp2;go_loopw [1,5] (λq i wr=>∃(k:Nat) (g:Nat->Value),k<=n/\i=J (k:Int)/\q=J ((s:Int)+5*(k:Int))/\Bt b w wr/\wr.rowIs b 107 Z g) λ_ i _=>n-(intOf i).toNat
 .exact⟨0,g,om,rfl,oq,Bt.refl _ _,hA⟩
 obtain⟨k,g,hk,rfl,rfl,hb,c⟩:=hrel;by_cases l:k<n
 .have h:=c.lt;have d0:=c.cell (i:=k*5) om;have e0:=c.frozen<|k*5;have d1:=c.cell (i:=k*5+1) om;have e1:=c.frozen<|k*5+1;have d2:=c.cell (i:=k*5+2) om;have e2:=c.frozen<|k*5+2;have d3:=c.cell (i:=k*5+3) om;have e3:=c.frozen<|k*5+3;have d4:=c.cell (i:=k*5+4) om;have m:=c.frozen<|k*5+4;have j:∀w:World,_:=λw=>BA (s+5*k) om w;rw[show((s+5*k:Nat):Int)=(s:Int)+5*(k:Int) by omega]at j;have o:=O hb;have p:=O c;go_wp2_with fail;refine(z (O j) _).mono ?_;rintro e w1 ⟨rfl,d⟩;have a:=(p).of_block<|d.block b (by simpa using h);have d0:=a.cell (i:=k*5) om;have e0:=a.frozen<|k*5;have d1:=a.cell (i:=k*5+1) om;have e1:=a.frozen<|k*5+1;have d2:=a.cell (i:=k*5+2) om;have e2:=a.frozen<|k*5+2;have d3:=a.cell (i:=k*5+3) om;have e3:=a.frozen<|k*5+3;have d4:=a.cell (i:=k*5+4) om;have m:=a.frozen<|k*5+4;go_wp2;go_roundw
  .exact⟨k+1,_,om,ov,ov,(((((z<|o.trans<|Bt.of d).trans<|Bt.set b (k*5) _<|.string<|mark<|s+5*k).trans<|Bt.set b (k*5+1) _<|J<|(s:Int)+5*(k:Int)+1).trans<|Bt.set b (k*5+2) _<|J<|(s:Int)+5*(k:Int)+1+1).trans<|Bt.set b (k*5+3) _<|J<|(s:Int)+5*(k:Int)+1+1+1).trans<|Bt.set b (k*5+4) _<|J<|(s:Int)+5*(k:Int)+1+1+1+1,((((a.set (k*5)<|.string<|mark<|s+5*k).set (k*5+1)<|J<|(s:Int)+5*(k:Int)+1).set (k*5+2)<|J<|(s:Int)+5*(k:Int)+1+1).set (k*5+3)<|J<|(s:Int)+5*(k:Int)+1+1+1).set (k*5+4)<|J<|(s:Int)+5*(k:Int)+1+1+1+1⟩
  exact ow
 have f:k=n:=om;subst f;go_wp2;go_ret;exact⟨⟨rfl,_,z<|O c⟩,z<|O hb⟩
structure sW (b H:Nat) (w:Y) (o:Nat) (t:Tb) (a c s1 s2:Nat):Prop where
 c1:w.cell? (G b<|o+1)=some (S9 a t.nv t.nv)
 c2:w.cell? (G b<|o+2)=some (S9 c t.d.n t.d.n)
 c3:w.cell? (G b<|o+3)=some (S9 s1 t.d.m t.d.m)
 c4:w.cell? (G b<|o+4)=some (S9 s2 t.d.x t.d.x)
 l0:b<a/\a<H
 l1:b<c/\c<H
 l2:b<s1/\s1<H
 l3:b<s2/\s2<H
 r0:IK w a 43<|t.nv*5
 r1:IK w c 166<|t.d.n*11
 r2:IK w s1 3 t.d.m
 r3:IK w s2 3 t.d.x
def Eb.mk(h:Eb (b+1) H w b o t):∃c d s1 s2,sW b H w o t c d s1 s2:=by
 obtain⟨c,d,s1,s2,h1,⟨h2,h3,h4,h5,e⟩,f,g,a⟩:=h;rcases a.b0,a.b1,a.b2 with⟨i,j,k⟩;exact⟨c,d,s1,s2,h1.c1,h1.c2,h1.c3,h1.c4,⟨om,h3⟩,⟨om,h4⟩,⟨om,h5⟩,⟨om,e⟩,f.1,a.r0,a.r1,a.r2⟩
def OY(cap H s:Nat){f}{w}(C:IK w b 105<|n*8)(L:b<H)(c:∀i,i<n->∃Q M s1 s2,sW b H w (i*8) (f i) Q M s1 s2)(hw:Em f n<=1048576)(hs:s<=10000000):
  C9 35 #[S9 b n cap,J s] w λe w'=>(∃r:Nat,e=.returned (J r)/\r<=s+11*Em f n)/\Mk b H w w':=by
 have ao:=SU f n;have HT:=O c;go_enter func35,ntmps35;go_wp2;go_loopw [1,5] (λq i wr=>∃(k r:Nat),k<=n/\i=J (k:Int)/\q=J (r:Int)/\r<=s+11*Em f k/\Mk b H w wr/\∀j,k*8<=j->wr.cell? (G b j)=w.cell? (G b j)) λ_ i _=>n-(intOf i).toNat
 .exact⟨0,s,om,rfl,rfl,om,Mk.refl _ _ _,λ_ _=>rfl⟩
 obtain⟨k,r,hk,rfl,rfl,R,P,hc⟩:=hrel;by_cases D:k<n
 case neg=>
  have S:k=n:=om;have HR:=O R;subst S;go_wp2;go_ret;exact⟨⟨r,rfl,HR⟩,P⟩
 obtain⟨Q,M,s1,s2,c⟩:=z HT k D;have Fo:=NG f D;have p:Em f (k+1)=Em f k+tw (f k):=rfl;have E:tw (f k)=(f k).nv+((f k).d.n+(f k).d.m+(f k).d.x)+1:=rfl;have HR:=O R;have aq:r<=30000000:=om;have HQ:Hid (∀x:Nat,x<=r+11*tw (f k)->x<=s+11*Em f (k+1)):=O λx T=>om;have ar:(f k).nv<=1048576:=om;have au:(f k).d.n<=1048576:=om;have av:(f k).d.m<=1048576:=om;have aw:(f k).d.x<=1048576:=om;have U:=O E;obtain⟨g,h⟩:=P.rows _ _ _ C;have d0:=h.cell (i:=k*8) om;have e0:=h.frozen<|k*8;have d1:=(hc (k*8+1) om).trans c.c1;have d2:=(hc (k*8+2) om).trans c.c2;have d3:=(hc (k*8+3) om).trans c.c3;rcases (hc (k*8+4) om).trans c.c4,qj c.l0<|qj c.l1<|qj c.l2 c.l3,H8 h with⟨d4,⟨⟨m0,n0⟩,⟨m1,n1⟩,⟨m2,n2⟩,⟨m3,n3⟩⟩,V⟩;have W:Mk b H wr<|wr.setCell (G b<|k*8)<|J (r:Int):=Mk.set _ (Be _) L ⟨g,h⟩;rcases W.rows _ _ _ (P.rows _ _ _ c.r0),P.trans W,O hc with⟨⟨ga,ra⟩,X,HC⟩;clear W hc Fo p E R;go_wp2_with fail;have hA:=O0 Q (f k).nv (f k).nv ((f k).nv*5) (r+1) ga _ ra (Be _) om om;rw[show((r+1:Nat):Int)=(r:Int)+1 by omega]at hA;refine hA.mono ?_;rintro e w1 ⟨⟨rfl,g1,Z⟩,t⟩;have ad:=t.size;simp at ad;have l1:b<w1.heap.size:=om;have l:=t.block b (by simpa using V) om;have p2:w1.cell? (G b<|k*8+2)=some (S9 M (f k).d.n (f k).d.n):=(As l).trans<|(Aa om).trans d2;have p3:w1.cell? (G b<|k*8+3)=some (S9 s1 (f k).d.m (f k).d.m):=(As l).trans<|(Aa om).trans d3;have p4:w1.cell? (G b<|k*8+4)=some (S9 s2 (f k).d.x (f k).d.x):=(As l).trans<|(Aa om).trans d4;have ae:Hid<|∀j,(k+1)*8<=j->w1.cell? (G b j)=w.cell? (G b j):=O λj hj=>(As l).trans<|(Aa om).trans<|HC j om;have M2:=X.trans<|Mk.bt t om n0 ⟨_,ra⟩ ⟨_,Z⟩;obtain⟨gb,rb⟩:=M2.rows _ _ _ c.r1;go_wp2_with fail;have hA:=J1 M (f k).d.n (f k).d.n ((f k).d.n*11) (r+1+5*(f k).nv) gb _ rb (Be _) om om;rw[show((r+1+5*(f k).nv:Nat):Int)=(r:Int)+1+5*((f k).nv:Int) by omega]at hA;refine hA.mono ?_;rintro e w2 ⟨⟨rfl,g2,af,_⟩,u⟩;have l2:=A0 l1 u.size;have v:=u.block b l1 om;have q3:=(As (a:=G b<|k*8+3) v).trans p3;have q4:=(As (a:=G b<|k*8+4) v).trans p4;have ag:Hid<|∀j,(k+1)*8<=j->w2.cell? (G b j)=w.cell? (G b j):=O λj hj=>(As v).trans<|ae j hj;have M3:=M2.trans<|Mk.bt u om n1 ⟨_,rb⟩ ⟨_,af⟩;obtain⟨gc,rc⟩:=M3.rows _ _ _ c.r2;go_wp2_with fail;have hA:=Ie s1 (f k).d.m (f k).d.m (f k).d.m (r+1+5*(f k).nv+11*(f k).d.n) gc _ rc (Be _) om om;rw[show((r+1+5*(f k).nv+11*(f k).d.n:Nat):Int)=(r:Int)+1+5*((f k).nv:Int)+11*((f k).d.n:Int) by omega]at hA;refine hA.mono ?_;rintro e w3 ⟨⟨rfl,g3,ah,_⟩,A⟩;have l3:=A0 l2 A.size;have F:=A.block b l2 om;have t4:=(As (a:=G b<|k*8+4) F).trans q4;have ai:Hid<|∀j,(k+1)*8<=j->w3.cell? (G b j)=w.cell? (G b j):=O λj hj=>(As F).trans<|ag j hj;have M4:=M3.trans<|Mk.bt A om n2 ⟨_,rc⟩ ⟨_,ah⟩;obtain⟨gd,rd⟩:=M4.rows _ _ _ c.r3;go_wp2_with fail;have hA:=Ie s2 (f k).d.x (f k).d.x (f k).d.x (r+1+5*(f k).nv+11*(f k).d.n+(f k).d.m) gd _ rd (Be _) om om;refine hA.mono ?_;rintro e w4 ⟨⟨rfl,g4,I,_⟩,B⟩;have K:=B.block b l3 om;have aj:Hid<|∀j,(k+1)*8<=j->w4.cell? (G b j)=w.cell? (G b j):=O λj hj=>(As K).trans<|ai j hj;have M5:=M4.trans<|Mk.bt B om n3 ⟨_,rd⟩ ⟨_,I⟩;obtain⟨ge,re⟩:=M5.rows _ _ _ C;have d5:=re.cell (i:=k*8+5) om;have e5:=re.frozen<|k*8+5;have d6:=re.cell (i:=k*8+6) om;have e6:=re.frozen<|k*8+6;have d7:=re.cell (i:=k*8+7) om;have e7:=re.frozen<|k*8+7;obtain⟨x,T⟩:∃x:Nat,x=r+1+5*(f k).nv+11*(f k).d.n+(f k).d.m+(f k).d.x:=⟨_,rfl⟩;have ax:x<=100000000:=om;rw[<-T];have ak:Hid<|x+1+1+1<=s+11*Em f (k+1):=O<|HQ _ (by rw[z U];omega);clear hA B I t4 K T;go_wp2;go_roundw
 .refine⟨k+1,x+1+1+1,om,ov,oq,ak,?_,λj hj=>?_⟩
  .have a1:Mk b H w4<|w4.setCell (G b<|k*8+5)<|J (x:Int):=Mk.set _ (Be _) L ⟨_,re⟩;have a2:=Mk.set (H:=H) (o:=k*8+6) (J<|(x:Int)+1) (Be _) L<|a1.rows _ _ _ ⟨_,re⟩;have a3:=Mk.set (H:=H) (o:=k*8+7) (J<|(x:Int)+1+1) (Be _) L<|a2.rows _ _ _<|a1.rows _ _ _ ⟨_,re⟩;exact((M5.trans a1).trans a2).trans a3
  exact(Aa om).trans ((Aa om).trans<|(Aa om).trans<|aj j hj)
 exact ow
def lY(s k:Nat):Vl:=⟨(s:Int)+5*(k:Int),(s:Int)+5*(k:Int)+1,floatOfInt .f64<|(s:Int)+5*(k:Int)+1+1,mark<|s+5*k+3,(s:Int)+5*(k:Int)+1+1+1+1⟩
def jY(s k:Nat):Si:=⟨mark<|s+5*k,(s:Int)+5*(k:Int)+1,(s:Int)+5*(k:Int)+1+1,(s:Int)+5*(k:Int)+1+1+1,(s:Int)+5*(k:Int)+1+1+1+1⟩
def Rs(f:Nat->Vl)(j:Nat):Value:=((Hh<|f<|j/5)[j%5]?).getD undef
def Ri(f:Nat->Si)(j:Nat):Value:=((GD<|f<|j/5)[j%5]?).getD undef
def Vd f k i(hi:i<5):Rs f (k*5+i)=((Hh<|f k)[i]?).getD undef:=by
 grind [Rs,Hh]
def UG f k i(hi:i<5):Ri f (k*5+i)=((GD<|f k)[i]?).getD undef:=by
 grind [Ri,GD]
def qA{t}{f}(h:w.rowIs b t Z g)(hN:n*5<=Z)(a:∀j,j<n*5->g j=Rs f j){i}(hi:i<n):EP w b (i*5)<|f i:=by
 have e:∀j,j<5->w.cell? (G b<|i*5+j)=some (((Hh<|f i)[j]?).getD undef):=λj hj=>by
  rw[h.cell (i:=i*5+j) om,a _ om,Vd f i j hj]
 exact⟨e 0 om,e 1 om,e 2 om,e 3 om,e 4 om⟩
def pB{t}{f}(h:w.rowIs b t Z g)(hN:n*5<=Z)(a:∀j,j<n*5->g j=Ri f j){i}(hi:i<n):Vt w b (i*5)<|f i:=by
 have e:∀j,j<5->w.cell? (G b<|i*5+j)=some (((GD<|f i)[j]?).getD undef):=λj hj=>by
  rw[h.cell (i:=i*5+j) om,a _ om,UG f i j hj]
 exact⟨e 0 om,e 1 om,e 2 om,e 3 om,e 4 om⟩
def M6(b n cap Z s:Nat)g w(hA:w.rowIs b 43 Z g)(hN:n*5<=Z)(hn:n<=2000000000)(hs:s<=100000000000000):
  C9 68 #[S9 b n cap,J s] w λe w'=>(e=.returned (J<|(s)+5*(n))/\∃g',w'.rowIs b 43 Z g'/\∀j,j<n*5->g' j=Rs (lY s) j)/\Bt b w w':=by
 go_enter func68,ntmps68;go_wp2;go_loopw [1,5] (λq i wr=>∃(k:Nat) (g:Nat->Value),k<=n/\i=J (k:Int)/\q=J ((s:Int)+5*(k:Int))/\Bt b w wr/\wr.rowIs b 43 Z g/\∀j,j<k*5->g j=Rs (lY s) j) λ_ i _=>n-(intOf i).toNat
 .exact⟨0,g,om,rfl,oq,Bt.refl _ _,hA,λj hj=>om⟩
 obtain⟨k,g,hk,rfl,rfl,hb,a,p⟩:=hrel;by_cases t:k<n
 .have m:=a.lt;have d0:=a.cell (i:=k*5) om;have e0:=a.frozen<|k*5;have d1:=a.cell (i:=k*5+1) om;have e1:=a.frozen<|k*5+1;have d2:=a.cell (i:=k*5+2) om;have e2:=a.frozen<|k*5+2;have d3:=a.cell (i:=k*5+3) om;have e3:=a.frozen<|k*5+3;have d4:=a.cell (i:=k*5+4) om;have u:=a.frozen<|k*5+4;have r:∀w:World,_:=λw=>BA (s+5*k+3) om w;rw[show((s+5*k+3:Nat):Int)=(s:Int)+5*(k:Int)+1+1+1 by omega]at r;have v:=O hb;have l:=O a;go_wp2_with fail;refine(z (O r) _).mono ?_;rintro e w1 ⟨rfl,f⟩;have c:=(((l.set (k*5)<|J<|(s:Int)+5*(k:Int)).set (k*5+1)<|J<|(s:Int)+5*(k:Int)+1).set (k*5+2)<|F9<|floatOfInt .f64<|(s:Int)+5*(k:Int)+1+1).of_block<|f.block b (by simpa using m);have d3:=c.cell (i:=k*5+3) om;have e3:=c.frozen<|k*5+3;have d4:=c.cell (i:=k*5+4) om;have u:=c.frozen<|k*5+4;go_wp2;go_roundw
  .refine⟨k+1,_,om,ov,ov,((z<|(((v.trans<|Bt.set b (k*5) _<|J<|(s:Int)+5*(k:Int)).trans<|Bt.set b (k*5+1) _<|J<|(s:Int)+5*(k:Int)+1).trans<|Bt.set b (k*5+2) _<|F9<|floatOfInt .f64<|(s:Int)+5*(k:Int)+1+1).trans<|Bt.of f).trans<|Bt.set b (k*5+3) _<|.string<|mark<|s+5*k+3).trans<|Bt.set b (k*5+4) _<|J<|(s:Int)+5*(k:Int)+1+1+1+1,(c.set (k*5+3)<|.string<|mark<|s+5*k+3).set (k*5+4)<|J<|(s:Int)+5*(k:Int)+1+1+1+1,λj hj=>?_⟩;by_cases o:j<k*5
   .have d:∀i,i<5->j≠k*5+i:=λi _=>om;simp only[show j≠k*5 by omega,d 1 om,d 2 om,d 3 om,d 4 om,XN];exact z (O p) j o
   obtain⟨i,hi,rfl⟩:∃i,i<5/\j=k*5+i:=⟨j-k*5,om,om⟩;rw[Vd _ k i hi];rcases(by omega:i=0\/i=1\/i=2\/i=3\/i=4)with rfl|rfl|rfl|rfl|rfl<;>simp[Hh,lY]
  exact ow
 have h:k=n:=om;have l:=O<|qj a p;subst h;go_wp2;go_ret;exact⟨⟨rfl,_,l.1,l.2⟩,z<|O hb⟩
def OW(b n cap Z s:Nat)g w(hA:w.rowIs b 107 Z g)(hN:n*5<=Z)(hn:n<=2000000000)(hs:s<=100000000000000):
  C9 36 #[S9 b n cap,J s] w λe w'=>(e=.returned (J<|(s)+5*(n))/\∃g',w'.rowIs b 107 Z g'/\∀j,j<n*5->g' j=Ri (jY s) j)/\Bt b w w':=by
 go_enter func36,ntmps36;go_wp2;go_loopw [1,5] (λq i wr=>∃(k:Nat) (g:Nat->Value),k<=n/\i=J (k:Int)/\q=J ((s:Int)+5*(k:Int))/\Bt b w wr/\wr.rowIs b 107 Z g/\∀j,j<k*5->g j=Ri (jY s) j) λ_ i _=>n-(intOf i).toNat
 .exact⟨0,g,om,rfl,oq,Bt.refl _ _,hA,λj hj=>om⟩
 obtain⟨k,g,hk,rfl,rfl,hb,c,p⟩:=hrel;by_cases t:k<n
 .have m:=c.lt;have d0:=c.cell (i:=k*5) om;have e0:=c.frozen<|k*5;have d1:=c.cell (i:=k*5+1) om;have e1:=c.frozen<|k*5+1;have d2:=c.cell (i:=k*5+2) om;have e2:=c.frozen<|k*5+2;have d3:=c.cell (i:=k*5+3) om;have e3:=c.frozen<|k*5+3;have d4:=c.cell (i:=k*5+4) om;have u:=c.frozen<|k*5+4;have r:∀w:World,_:=λw=>BA (s+5*k) om w;rw[show((s+5*k:Nat):Int)=(s:Int)+5*(k:Int) by omega]at r;have v:=O hb;have l:=O c;go_wp2_with fail;refine(z (O r) _).mono ?_;rintro e w1 ⟨rfl,f⟩;have a:=(l).of_block<|f.block b (by simpa using m);have d0:=a.cell (i:=k*5) om;have e0:=a.frozen<|k*5;have d1:=a.cell (i:=k*5+1) om;have e1:=a.frozen<|k*5+1;have d2:=a.cell (i:=k*5+2) om;have e2:=a.frozen<|k*5+2;have d3:=a.cell (i:=k*5+3) om;have e3:=a.frozen<|k*5+3;have d4:=a.cell (i:=k*5+4) om;have u:=a.frozen<|k*5+4;go_wp2;go_roundw
  .refine⟨k+1,_,om,ov,ov,(((((z<|v.trans<|Bt.of f).trans<|Bt.set b (k*5) _<|.string<|mark<|s+5*k).trans<|Bt.set b (k*5+1) _<|J<|(s:Int)+5*(k:Int)+1).trans<|Bt.set b (k*5+2) _<|J<|(s:Int)+5*(k:Int)+1+1).trans<|Bt.set b (k*5+3) _<|J<|(s:Int)+5*(k:Int)+1+1+1).trans<|Bt.set b (k*5+4) _<|J<|(s:Int)+5*(k:Int)+1+1+1+1,((((a.set (k*5)<|.string<|mark<|s+5*k).set (k*5+1)<|J<|(s:Int)+5*(k:Int)+1).set (k*5+2)<|J<|(s:Int)+5*(k:Int)+1+1).set (k*5+3)<|J<|(s:Int)+5*(k:Int)+1+1+1).set (k*5+4)<|J<|(s:Int)+5*(k:Int)+1+1+1+1,λj hj=>?_⟩;by_cases o:j<k*5
   .have d:∀i,i<5->j≠k*5+i:=λi _=>om;simp only[show j≠k*5 by omega,d 1 om,d 2 om,d 3 om,d 4 om,XN];exact z (O p) j o
   obtain⟨i,hi,rfl⟩:∃i,i<5/\j=k*5+i:=⟨j-k*5,om,om⟩;rw[UG _ k i hi];rcases(by omega:i=0\/i=1\/i=2\/i=3\/i=4)with rfl|rfl|rfl|rfl|rfl<;>simp[GD,jY]
  exact ow
 have h:k=n:=om;have l:=O<|qj c p;subst h;go_wp2;go_ret;exact⟨⟨rfl,_,l.1,l.2⟩,z<|O hb⟩
def MX{a:Option Addr}cap s{w}(hA:FA w a n<|lY s)(hn:n<=2000000000)(hs:s<=100000000000000):
  C9 115 #[.slice a n cap,J s] w (R9 (J<|(s:Int)+5*(n:Int)) w):=by
 have m:=O hA;clear hA;go_enter func115,ntmps115;go_wp2;go_loopw [1,5] (λq i wr=>∃(k:Nat),k<=n/\i=J k/\q=J ((s:Int)+5*(k:Int))/\B9 w wr) λ_ i _=>n-(intOf i).toNat
 .exact⟨0,om,rfl,oq,BE _ _⟩
 obtain⟨k,hk,rfl,rfl,hb⟩:=hrel;by_cases d:k<n
 .obtain⟨b,off,rfl,hl,hcs⟩:=m.resolve_left om;have o:=A0 hl hb.size;have hc:=(hcs k d).keep λq=>hb.cell hl;have d0:wr.cell? (G b<|off+k*5)=some (J<|(s:Int)+5*(k:Int)):=hc.c0;have d1:wr.cell? (G b<|off+k*5+1)=some (J<|(s:Int)+5*(k:Int)+1):=hc.c1;have d2:wr.cell? (G b<|off+k*5+2)=some (F9<|floatOfInt .f64<|(s:Int)+5*(k:Int)+1+1):=hc.c2;have d3:wr.cell? (G b<|off+k*5+3)=some (.string<|mark<|s+5*k+3):=hc.c3;have d4:wr.cell? (G b<|off+k*5+4)=some (J<|(s:Int)+5*(k:Int)+1+1+1+1):=hc.c4;have g2:=bW ((s:Int)+5*(k:Int)+1+1) om om;have f:∀w:World,_:=λw=>BA (s+5*k+3) om w;rw[show((s+5*k+3:Nat):Int)=(s:Int)+5*(k:Int)+1+1+1 by omega]at f;have p:=O f;have e:=O hb;clear hb hc f hcs;go_wp2;refine qr wr ?_;(iterate 6 refine N (h:=?_));refine GC λK hK=>?_;go_simp;refine⟨_,λw' g=>qk g<|p _,hK _ ?_⟩;clear hK K;refine N (h:=?_);refine GS ?_;intro w2 c;have j:=O<|o8 e c;have c4:=(c.cell o).trans d4;clear c e d0 d1 d2 d3 d4;go_wp2;go_roundw
  .exact⟨k+1,om,ov,ov,j⟩
  exact ow
 have l:k=n:=om;have e:=O hb;clear hb d;subst l;go_wp2;go_ret;exact⟨rfl,e⟩
def Ov{a:Option Addr}cap s{w}(hA:FX w a n<|jY s)(hn:n<=2000000000)(hs:s<=100000000000000):
  C9 74 #[.slice a n cap,J s] w (R9 (J<|(s:Int)+5*(n:Int)) w):=by
 have o:=O hA;clear hA;go_enter func74,ntmps74;go_wp2;go_loopw [1,5] (λq i wr=>∃(k:Nat),k<=n/\i=J k/\q=J ((s:Int)+5*(k:Int))/\B9 w wr) λ_ i _=>n-(intOf i).toNat
 .exact⟨0,om,rfl,oq,BE _ _⟩
 obtain⟨k,hk,rfl,rfl,hb⟩:=hrel;by_cases d:k<n
 .obtain⟨b,off,rfl,hl,hcs⟩:=o.resolve_left om;have f:=A0 hl hb.size;have hc:=(hcs k d).keep λq=>hb.cell hl;have d0:wr.cell? (G b<|off+k*5)=some (.string<|mark<|s+5*k):=hc.c0;have d1:wr.cell? (G b<|off+k*5+1)=some (J<|(s:Int)+5*(k:Int)+1):=hc.c1;have d2:wr.cell? (G b<|off+k*5+2)=some (J<|(s:Int)+5*(k:Int)+1+1):=hc.c2;have d3:wr.cell? (G b<|off+k*5+3)=some (J<|(s:Int)+5*(k:Int)+1+1+1):=hc.c3;have d4:wr.cell? (G b<|off+k*5+4)=some (J<|(s:Int)+5*(k:Int)+1+1+1+1):=hc.c4;have g:∀w:World,_:=λw=>BA (s+5*k) om w;rw[show((s+5*k:Nat):Int)=(s:Int)+5*(k:Int) by omega]at g;have p:=O g;have e:=O hb;clear hb hc g hcs;go_wp2;refine qr wr ?_;(iterate 6 refine N (h:=?_));refine GC λK hK=>?_;go_simp;refine⟨_,λw' j=>qk j<|p _,hK _ ?_⟩;clear hK K;refine N (h:=?_);refine GS ?_;intro w2 c;rcases O (o8 e c),(c.cell f).trans d1,(c.cell f).trans d2,(c.cell f).trans d3,(c.cell f).trans d4 with⟨l,c1,c2,c3,c4⟩;clear c e d0 d1 d2 d3 d4;go_wp2;go_roundw
  .exact⟨k+1,om,ov,ov,l⟩
  exact ow
 have m:k=n:=om;have e:=O hb;clear hb d;subst m;go_wp2;go_ret;exact⟨rfl,e⟩
def PR(f:Nat->Vl)(n:Nat)(w:Y)(v:V9)(lo hi:Nat):Prop:=
 (n=0/\v=N9)\/∃b a Z g,v=S9 b n a/\lo<=b/\b<hi/\w.rowIs b 43 Z g/\n*5<=Z/\∀j,j<n*5->g j=Rs f j
def PR.keep{f}(h:PR f n w v lo hi)(hk:∀b,v.ownBlock=some b->w'.heap[b]?=w.heap[b]?):PR f n w' v lo hi:=by
 rcases h with h|⟨b,a,Z,g,rfl,h2,h3,h4,h5,c⟩
 .exact .inl h
 exact .inr ⟨b,a,Z,g,rfl,h2,h3,GW h4<|hk b rfl,h5,c⟩
theorem PR.at{f}(h:PR f n w v lo hi):∃a c,v=.slice a n c/\FA w a n f:=by
 rcases h with⟨d,rfl⟩|⟨b,c,Z,g,h1,h2,h3,h4,h5,e⟩
 .subst d;exact⟨_,_,rfl,.inl rfl⟩
 exact⟨_,_,h1,.inr ⟨b,0,rfl,H8 h4,λi hi=>by rw[We];exact qA h4 h5 e hi⟩⟩
def Lr.CH{f}(h:Lr f n w v lo hi)(hk:∀b,v.ownBlock=some b->w'.heap[b]?=w.heap[b]?):Lr f n w' v lo hi:=by
 rcases h with h|⟨b,a,Z,g,rfl,h2,h3,h4,h5,c⟩
 .exact .inl h
 exact .inr ⟨b,a,Z,g,rfl,h2,h3,GW h4<|hk b rfl,h5,c⟩
def Iv.CH(h:Iv f n w v lo hi)(hk:∀b,v.ownBlock=some b->w'.heap[b]?=w.heap[b]?):Iv f n w' v lo hi:=by
 rcases h with h|⟨b,a,Z,g,rfl,h2,h3,h4,h5,c⟩
 .exact .inl h
 exact .inr ⟨b,a,Z,g,rfl,h2,h3,GW h4<|hk b rfl,h5,c⟩
def Iv.Yv(h:Iv f n w v lo hi):∃a c,v=.slice a n c/\JP w a n f:=by
 rcases h with⟨d,rfl⟩|⟨b,c,Z,g,h1,h2,h3,h4,h5,e⟩
 .subst d;exact⟨_,_,rfl,.inl rfl⟩
 exact⟨_,_,h1,.inr ⟨b,0,rfl,H8 h4,λi hi=>by rw[We,h4.cell om,e i hi]⟩⟩
structure Bv (v:V9) (w w':Y):Prop where
 os:w'.os=w.os
 tape:w'.tape=w.tape
 output:w'.output=w.output
 size:w.heap.size<=w'.heap.size
 block:∀k,k<w.heap.size->v.ownBlock≠some k->w'.heap[k]?=w.heap[k]?
def Bv.XY(h:Bt b w w'):Bv (S9 b n a) w w':=⟨h.os,h.tape,h.output,h.size,λk hk hn=>h.block k hk λe=>hn<|qh e⟩
theorem Bv.same v w:Bv v w w:=⟨rfl,rfl,rfl,Be _,λ_ _ _=>rfl⟩
def O1 s w:
  C9 68 #[N9,J s] w λe w'=>e=.returned (J s)/\w'=w:=by
 go_enter func68,ntmps68;go_wp2;go_loopw [1,5] (λq i wr=>q=J s/\i=J 0/\wr=w) λ_ _ _=>0
 .exact⟨rfl,rfl,rfl⟩
 obtain⟨rfl,rfl,rfl⟩:=hrel;go_wp2;go_ret;exact⟨rfl,rfl⟩
def OU s w:
  C9 69 #[N9,J s] w λe w'=>e=.returned (J s)/\w'=w:=by
 go_enter func69,ntmps69;go_wp2;go_loopw [1,5] (λq i wr=>q=J s/\i=J 0/\wr=w) λ_ _ _=>0
 .exact⟨rfl,rfl,rfl⟩
 obtain⟨rfl,rfl,rfl⟩:=hrel;go_wp2;go_ret;exact⟨rfl,rfl⟩
def jW{f}(h:PR f n w v lo hi)(hn:n<=2000000000)(hs:s<=100000000000000):
  C9 68 #[v,J s] w λe w'=>(e=.returned (J ((s+5*n:Nat):Int))/\PR (lY s) n w' v lo hi)/\Bv v w w':=by
 rcases h with⟨c,rfl⟩|⟨b,a,Z,g,rfl,h2,h3,h4,h5,j⟩
 .subst c;refine(O1 s w).mono λe w' h=>?_;rw[h.2];exact⟨⟨by rw[h.1];rfl,.inl ⟨rfl,rfl⟩⟩,Bv.same _ _⟩
 refine(M6 b n a Z s g w h4 h5 om hs).mono λe w' h=>?_;obtain⟨⟨rfl,g',d,i⟩,hb⟩:=h;exact⟨⟨oq,.inr ⟨b,a,Z,g',rfl,h2,h3,d,h5,i⟩⟩,Bv.XY hb⟩
def dE{f}(h:Lr f n w v lo hi)(hn:n<=2000000000)(hs:s<=100000000000000):
  C9 69 #[v,J s] w λe w'=>(e=.returned (J ((s+11*n:Nat):Int))/\Lr (lX s) n w' v lo hi)/\Bv v w w':=by
 rcases h with⟨c,rfl⟩|⟨b,a,Z,g,rfl,h2,h3,h4,h5,j⟩
 .subst c;refine(OU s w).mono λe w' h=>?_;rw[h.2];exact⟨⟨by rw[h.1];rfl,.inl ⟨rfl,rfl⟩⟩,Bv.same _ _⟩
 refine(J1 b n a Z s g w h4 h5 om hs).mono λe w' h=>?_;obtain⟨⟨rfl,g',d,i⟩,hb⟩:=h;exact⟨⟨oq,.inr ⟨b,a,Z,g',rfl,h2,h3,d,h5,i⟩⟩,Bv.XY hb⟩
def Uk(h:Iv f n w v lo hi)(hn:n<=2000000000)(hs:s<=100000000000000):
  C9 70 #[v,J s] w λe w'=>(e=.returned (J ((s+n:Nat):Int))/\Iv (λj=>((s+j:Nat):Int)) n w' v lo hi)/\Bv v w w':=by
 rcases h with⟨c,rfl⟩|⟨b,a,Z,g,rfl,h2,h3,h4,h5,k⟩
 .subst c;refine(Sn s w).mono λe w' h=>?_;rw[h.2];exact⟨⟨by rw[h.1];rfl,.inl ⟨rfl,rfl⟩⟩,Bv.same _ _⟩
 refine(Ie b n a Z s g w h4 h5 om hs).mono λe w' h=>?_;obtain⟨⟨rfl,g',d,i⟩,hb⟩:=h;exact⟨⟨rfl,.inr ⟨b,a,Z,g',rfl,h2,h3,d,h5,i⟩⟩,Bv.XY hb⟩
def jI(h:PR (lY s) n w v lo hi)(hn:n<=2000000000)(hs:s<=100000000000000):
  C9 115 #[v,J s] w (R9 (J ((s+5*n:Nat):Int)) w):=by
 obtain⟨a,b,rfl,hA⟩:=h.at;refine(MX b s hA om hs).mono λe w' h=>?_;exact⟨by rw[h.1];simp,h.2⟩
def Ot s w:
  C9 116 #[N9,J s] w λe w'=>e=.returned (J s)/\w'=w:=by
 go_enter func116,ntmps116;go_wp2;go_loopw [1,5] (λq i wr=>q=J s/\i=J 0/\wr=w) λ_ _ _=>0
 .exact⟨rfl,rfl,rfl⟩
 obtain⟨rfl,rfl,rfl⟩:=hrel;go_wp2;go_ret;exact⟨rfl,rfl⟩
def cB(h:Lr (lX s) n w v lo hi)(hn:n<=2000000000)(hs:s<=100000000000000):
  C9 116 #[v,J s] w (R9 (J ((s+11*n:Nat):Int)) w):=by
 rcases h with⟨a,rfl⟩|⟨b,c,Z,g,rfl,h2,h3,h4,h5,d⟩
 .subst a;refine(Ot s w).mono λe w' h=>?_;rw[h.2];exact⟨by rw[h.1];rfl,BE _ _⟩
 refine(P7 b n c s w (H8 h4) (λi hi=>dN h4 h5 d hi) om hs).mono λe w' h=>?_;exact⟨by rw[h.1];simp,h.2⟩
def TS(h:Iv (λj=>((s+j:Nat):Int)) n w v lo hi)(hn:n<=2000000000)(hs:s<=100000000000000):
  C9 117 #[v,J s] w (R9 (J ((s+n:Nat):Int)) w):=by
 rcases h with⟨a,rfl⟩|⟨b,c,Z,g,rfl,h2,h3,h4,h5,d⟩
 .subst a;refine(R3 s w).mono λe w' h=>?_;rw[h.2];exact⟨by rw[h.1];rfl,BE _ _⟩
 exact RZ b n c s w (H8 h4) (λi hi=>by rw[h4.cell om,d i hi]) om hs
structure Hs where
 v:Value
 l:Value
 i:Value
 x:Value
def Hs.own(h:Hs)(q:Nat):Prop:=h.v.ownBlock=some q\/h.l.ownBlock=some q\/h.i.ownBlock=some q\/h.x.ownBlock=some q
structure aD (lo hi:Nat) (w:Y) (b o:Nat) (h:Hs) (t:Tb):Prop where
 c0:w.cell? (G b o)=some (J t.shape)
 c1:w.cell? (G b<|o+1)=some h.v
 c2:w.cell? (G b<|o+2)=some h.l
 c3:w.cell? (G b<|o+3)=some h.i
 c4:w.cell? (G b<|o+4)=some h.x
 c5:w.cell? (G b<|o+5)=some (J t.d.used)
 c6:w.cell? (G b<|o+6)=some (J t.d.live)
 c7:w.cell? (G b<|o+7)=some (J t.d.turns)
 v:PR t.V t.nv w h.v lo hi
 l:Lr t.d.L t.d.n w h.l lo hi
 i:Iv t.d.I t.d.m w h.i lo hi
 x:Iv t.d.X t.d.x w h.x lo hi
def aD.keep{h}(H:aD lo hi w b o h t)(hk:∀q,h.own q->w'.heap[q]?=w.heap[q]?)(hc:∀j,j<8->w'.cell? (G b<|o+j)=w.cell? (G b<|o+j)):aD lo hi w' b o h t:=
 ⟨(hc 0 om).trans H.c0,(hc 1 om).trans H.c1,(hc 2 om).trans H.c2,(hc 3 om).trans H.c3,(hc 4 om).trans H.c4,(hc 5 om).trans H.c5,(hc 6 om).trans H.c6,(hc 7 om).trans H.c7,
  H.v.keep (λq e=>hk q (.inl e)),H.l.CH (λq e=>hk q (.inr (.inl e))),H.i.CH (λq e=>hk q (.inr (.inr (.inl e)))),H.x.CH (λq e=>hk q (.inr (.inr (.inr e))))⟩
def aD.lt{h}(H:aD lo hi w b o h t){q}(hq:h.own q):q<w.heap.size/\lo<=q/\q<hi:=by
 rcases hq with e|e|e|e
 .rcases H.v with⟨_,h1⟩|⟨b,a,Z,g,h1,h2,h3,h4,h5,c⟩
  .rw[h1]at e;cases e
  rw[h1]at e;cases e;exact⟨H8 h4,h2,h3⟩
 .rcases H.l with⟨_,h1⟩|⟨b,a,Z,g,h1,h2,h3,h4,h5,c⟩
  .rw[h1]at e;cases e
  rw[h1]at e;cases e;exact⟨H8 h4,h2,h3⟩
 .rcases H.i with⟨_,h1⟩|⟨b,a,Z,g,h1,h2,h3,h4,h5,c⟩
  .rw[h1]at e;cases e
  rw[h1]at e;cases e;exact⟨H8 h4,h2,h3⟩
 rcases H.x with⟨_,h1⟩|⟨b,a,Z,g,h1,h2,h3,h4,h5,c⟩
 .rw[h1]at e;cases e
 rw[h1]at e;cases e;exact⟨H8 h4,h2,h3⟩
theorem aD.at{h}(H:aD lo hi w b o h t):Ys w b o t:=by
 rcases H.v.at,H.l.at,H.i.Yv,H.x.Yv with⟨⟨va,vc,e0,r0⟩,⟨la,lc,e1,r1⟩,⟨ia,ic,e2,r2⟩,⟨xa,xc,e3,r3⟩⟩;exact⟨va,vc,la,lc,ia,ic,xa,xc,⟨H.c0,H.c1.trans<|by rw[e0],H.c2.trans<|by rw[e1],H.c3.trans<|by rw[e2],H.c4.trans<|by rw[e3],H.c5,H.c6,H.c7⟩,r0,⟨r1,r2,r3⟩⟩
structure lI (b n:Nat) (H:Nat->Hs):Prop where
 nb:∀i,i<n->¬(H i).own b
 ij:∀i j q,i<n->j<n->(H i).own q->(H j).own q->i=j
 vl:∀i q,i<n->(H i).v.ownBlock=some q->(H i).l.ownBlock≠some q
 vi:∀i q,i<n->(H i).v.ownBlock=some q->(H i).i.ownBlock≠some q
 vx:∀i q,i<n->(H i).v.ownBlock=some q->(H i).x.ownBlock≠some q
 li:∀i q,i<n->(H i).l.ownBlock=some q->(H i).i.ownBlock≠some q
 lx:∀i q,i<n->(H i).l.ownBlock=some q->(H i).x.ownBlock≠some q
 ix:∀i q,i<n->(H i).i.ownBlock=some q->(H i).x.ownBlock≠some q
structure Bm (b n:Nat) (H:Nat->Hs) (w w':Y):Prop where
 os:w'.os=w.os
 tape:w'.tape=w.tape
 output:w'.output=w.output
 size:w.heap.size<=w'.heap.size
 block:∀k,k<w.heap.size->k≠b->(∀i,i<n->¬(H i).own k)->w'.heap[k]?=w.heap[k]?
def Bm.refl b n H w:Bm b n H w w:=⟨rfl,rfl,rfl,Be _,λ_ _ _ _=>rfl⟩
theorem Bm.trans{H}{u v}(h:Bm b n H u v)(k:Bm b n H v w):Bm b n H u w:=
 ⟨k.os.trans h.os,k.tape.trans h.tape,k.output.trans h.output,GP h.size k.size,λi hi h1 h2=>(k.block i (A0 hi h.size) h1 h2).trans<|h.block i hi h1 h2⟩
def tl(t:Tb):Nat:=1+5*t.nv+11*t.d.n+t.d.m+t.d.x+3
def KB(f:Nat->Tb)(s:Nat):Nat->Nat
 |0=>s
 |i+1=>KB f s i+tl (f i)
def mkT(t:Tb)(s:Nat):Tb:=
 ⟨(s:Int),t.nv,lY<|s+1,⟨t.d.n,lX<|s+1+5*t.nv,t.d.m,λj=>((s+1+5*t.nv+11*t.d.n+j:Nat):Int),t.d.x,λj=>((s+1+5*t.nv+11*t.d.n+t.d.m+j:Nat):Int),
  ((s+1+5*t.nv+11*t.d.n+t.d.m+t.d.x:Nat):Int),((s+1+5*t.nv+11*t.d.n+t.d.m+t.d.x+1:Nat):Int),((s+1+5*t.nv+11*t.d.n+t.d.m+t.d.x+1+1:Nat):Int)⟩⟩
def SS f s k:KB f s k<=s+11*Em f k:=by
 induction k with
 |zero=>exact Be _
 |succ k ih=>
  show KB f s k+tl (f k)<=s+11*(Em f k+tw (f k));unfold tl tw dw;omega
def MZ(cap Z lo hi s:Nat)g0{f}{H}w(hr:w.rowIs b 105 Z g0)(hN:n*8<=Z)(hT:∀i,i<n->aD lo hi w b (i*8) (H i) (f i))(hA:lI b n H)(hw:Em f n<=2000000000)(hs:s<=10000000000000):
  C9 35 #[.slice (some<|G b 0) n cap,J s] w λe w'=>(e=.returned (J<|KB f s n)/\(∃g,w'.rowIs b 105 Z g)/\∀i,i<n->aD lo hi w' b (i*8) (H i) (mkT (f i)<|KB f s i))/\Bm b n H w w':=by
 have b4:=SU f n;have HT:=O hT;clear hT;go_enter func35,ntmps35;go_wp2;go_loopw [1,5] (λq i wr=>∃(k:Nat),k<=n/\i=J (k:Int)/\q=J (KB f s k:Int)/\(∃g,wr.rowIs b 105 Z g)/\(∀i,i<n->aD lo hi wr b (i*8) (H i) (if i<k then mkT (f i) (KB f s i)else f i))/\Bm b n H w wr) λ_ i _=>n-(intOf i).toNat
 .exact⟨0,om,rfl,rfl,⟨_,hr⟩,λi hi=>by rw[Cs om];exact HT i hi,Bm.refl _ _ _ _⟩
 obtain⟨k,hk,rfl,rfl,⟨g,C⟩,I,hM⟩:=hrel;by_cases a:k<n
 case neg=>
  have bj:k=n:=om;rcases O I,O C,O hM with⟨D,U,HM⟩;clear I C hM a;subst bj;go_wp2;go_ret;exact⟨⟨rfl,⟨_,U⟩,λi hi=>by have:=z D i hi;rwa [C3 hi]at this⟩,HM⟩
 have E:=I k a;rw[Cs (Nat.lt_irrefl k)]at E;have Fo:=NG f a;have bk:tw (f k)=(f k).nv+((f k).d.n+(f k).d.m+(f k).d.x)+1:=rfl;have V:KB f s (k+1)=KB f s k+(1+5*(f k).nv+11*(f k).d.n+(f k).d.m+(f k).d.x+3):=rfl;have bm:=SS f s k;obtain⟨r,W⟩:=o9<|KB f s k;rw[<-W]at V bm ⊢;have b5:r<=60000000000000:=om;have bn:(f k).nv<=2000000000:=om;have bp:(f k).d.n<=2000000000:=om;have bq:(f k).d.m<=2000000000:=om;have br:(f k).d.x<=2000000000:=om;rcases O V,O W,hA.nb k a with⟨bt,bu,A⟩;rcases C.cell (i:=k*8) om,C.frozen<|k*8,E.c1,E.c2,E.c3,E.c4,H8 C with⟨d0,e0,d1,d2,d3,d4,X⟩;have B0:∀q,q≠b->(wr.setCell (G b<|k*8)<|J (r:Int)).heap[q]?=wr.heap[q]?:=λq hq=>At _ _ _ _ (by exact hq);rcases E.v.keep (λq e=>B0 q λc=>A<|.inl<|c▸e),O<|E.l.CH λq e=>B0 q λc=>A<|.inr<|.inl<|c▸e,O<|E.i.CH λq e=>B0 q λc=>A<|.inr<|.inr<|.inl<|c▸e,O (E.x.CH λq e=>B0 q λc=>A<|.inr<|.inr<|.inr<|c▸e) with⟨af,ag,ah,ai⟩;have aj:Hid<|∀q,(H k).own q->q<wr.heap.size:=O λq hq=>(E.lt hq).1;rcases O I,O C,O hM,O B0 with⟨D,U,HM,bw⟩;clear I C hM E Fo bk V W B0;go_wp2_with fail;have B:=jW (s:=r+1) af bn om;rw[show((r+1:Nat):Int)=(r:Int)+1 by omega]at B;refine B.mono ?_;rintro e w1 ⟨⟨rfl,hv⟩,L⟩;have l1:=A0 (by simpa using X) L.size;have ak:=L.block b (by simpa using X) λc=>A<|.inl c;have ad:Hid<|∀q,w1.cell? (G b q)=(wr.setCell (G b<|k*8)<|J (r:Int)).cell? (G b q):=O λq=>As ak;have p2:=(ad _).trans<|(Aa om).trans d2;have p3:=(ad _).trans<|(Aa om).trans d3;have p4:=(ad _).trans<|(Aa om).trans d4;have ao:Hid<|∀q,(H k).own q->q<w1.heap.size:=O λq hq=>A0 (by simpa using z aj q hq) L.size;have K1:∀q,(H k).own q->(H k).v.ownBlock≠some q->w1.heap[q]?=(wr.setCell (G b<|k*8)<|J (r:Int)).heap[q]?:=λq hq hn=>L.block q (by simpa using z aj q hq) hn;rcases O (ag.CH λq e=>K1 q (.inr<|.inl e) λc=>hA.vl k q a c e),O<|ah.CH λq e=>K1 q (.inr<|.inr<|.inl e) λc=>hA.vi k q a c e,O<|ai.CH λq e=>K1 q (.inr<|.inr<|.inr e) λc=>hA.vx k q a c e,O L with⟨aq,ar,au,o⟩;clear B L ak K1 af ag ah ai d0 e0 d1 d2 d3 d4;go_wp2_with fail;have B:=dE (s:=r+1+5*(f k).nv) aq bp om;refine B.mono ?_;rintro e w2 ⟨⟨rfl,hl⟩,M⟩;have l2:=A0 l1 M.size;have av:=M.block b l1 λc=>A<|.inr<|.inl c;have aw:Hid<|∀q,w2.cell? (G b q)=w1.cell? (G b q):=O λq=>As av;have q3:=(aw _).trans p3;have q4:=(aw _).trans p4;have ax:Hid<|∀q,(H k).own q->q<w2.heap.size:=O λq hq=>A0 (ao q hq) M.size;have K2:∀q,(H k).own q->(H k).l.ownBlock≠some q->w2.heap[q]?=w1.heap[q]?:=λq hq hn=>M.block q (ao q hq) hn;rcases O (hv.keep λq e=>K2 q (.inl e) λc=>hA.vl k q a e c),O hl,ar.CH λq e=>K2 q (.inr<|.inr<|.inl e) λc=>hA.li k q a c e,O<|au.CH λq e=>K2 q (.inr<|.inr<|.inr e) λc=>hA.lx k q a c e,O M with⟨ay,az,aM,a6,t⟩;clear B M hl av K2 aq ar au p2 p3 p4 hv;go_wp2_with fail;have B:=Uk (s:=r+1+5*(f k).nv+11*(f k).d.n) aM bq om;refine B.mono ?_;rintro e w3 ⟨⟨rfl,hi⟩,P⟩;have l3:=A0 l2 P.size;have a7:=P.block b l2 λc=>A<|.inr<|.inr<|.inl c;have bx:Hid<|∀q,w3.cell? (G b q)=w2.cell? (G b q):=O λq=>As a7;have t4:=(bx _).trans q4;have bz:Hid<|∀q,(H k).own q->q<w3.heap.size:=O λq hq=>A0 (ax q hq) P.size;have K3:∀q,(H k).own q->(H k).i.ownBlock≠some q->w3.heap[q]?=w2.heap[q]?:=λq hq hn=>P.block q (ax q hq) hn;rcases O (ay.keep λq e=>K3 q (.inl e) λc=>hA.vi k q a e c),O<|az.CH λq e=>K3 q (.inr<|.inl e) λc=>hA.li k q a e c,O hi,a6.CH λq e=>K3 q (.inr<|.inr<|.inr e) λc=>hA.ix k q a c e,O P with⟨a8,bb,bc,bd,u⟩;clear B P hi a7 K3 ay az aM a6 q3 q4;go_wp2_with fail;have B:=Uk (s:=r+1+5*(f k).nv+11*(f k).d.n+(f k).d.m) bd br om;refine B.mono ?_;rintro e w4 ⟨⟨rfl,hx⟩,K⟩;have bf:=K.block b l3 λc=>A<|.inr<|.inr<|.inr c;have K4:∀q,(H k).own q->(H k).x.ownBlock≠some q->w4.heap[q]?=w3.heap[q]?:=λq hq hn=>K.block q (bz q hq) hn;rcases O (a8.keep λq e=>K4 q (.inl e) λc=>hA.vx k q a e c),O<|bb.CH λq e=>K4 q (.inr<|.inl e) λc=>hA.lx k q a e c,O (bc.CH λq e=>K4 q (.inr<|.inr<|.inl e) λc=>hA.ix k q a e c) with⟨b0,b1,b2⟩;have eb:=bf.trans<|(O (p:=True) trivial |> λ_=>u.block b l2 λc=>A<|.inr<|.inr<|.inl c).trans<|(t.block b l1 λc=>A<|.inr<|.inl c).trans<|o.block b (by simpa using X) λc=>A<|.inl c;have re:=GW (U.set (k*8)<|J (r:Int)) eb;have HO:Hid<|∀q,q<wr.heap.size->q≠b->¬(H k).own q->w4.heap[q]?=wr.heap[q]?:=O (λq hq h1 h2=>by
  have z1:=o.size;simp at z1;have z2:=t.size;have z3:=u.size;exact(K.block q om (λc=>h2 (.inr (.inr (.inr c))))).trans ((u.block q om (λc=>h2 (.inr (.inr (.inl c))))).trans ((t.block q om (λc=>h2 (.inr (.inl c)))).trans ((o.block q (by simpa using hq) (λc=>h2 (.inl c))).trans (bw q h1)))))
 have Q:Hid<|∀q,q≠k*8->w4.cell? (G b q)=wr.cell? (G b q):=O λq hq=>(As eb).trans<|Aa<|Ne.symm hq;have b3:Hid<|w4.cell? (G b<|k*8)=some (J (r:Int)):=O (by rw[re.cell om];simp);have R:Hid<|w4.os=wr.os/\w4.tape=wr.tape/\w4.output=wr.output/\wr.heap.size<=w4.heap.size:=O (by
  have z1:=o.size;simp at z1;have z2:=t.size;have z3:=u.size;exact⟨K.os.trans (u.os.trans (t.os.trans o.os)),K.tape.trans (u.tape.trans (t.tape.trans o.tape)),K.output.trans (u.output.trans (t.output.trans o.output)),oS K.size⟩)
 have d5:=re.cell (i:=k*8+5) om;have e5:=re.frozen<|k*8+5;have d6:=re.cell (i:=k*8+6) om;have e6:=re.frozen<|k*8+6;have d7:=re.cell (i:=k*8+7) om;have e7:=re.frozen<|k*8+7;obtain⟨x,ae⟩:∃x:Nat,x=r+1+5*(f k).nv+11*(f k).d.n+(f k).d.m+(f k).d.x:=⟨_,rfl⟩;have b6:x<=100000000000000:=om;rw[<-ae];have S:=O ae;clear B K bf K4 a8 bb bc bd t4 eb ae o t u;go_wp2;go_roundw
 .have hS:∀q,q≠b->(((w4.setCell (G b<|k*8+5)<|J (x:Int)).setCell (G b<|k*8+6)<|J<|(x:Int)+1).setCell (G b<|k*8+7)<|J<|(x:Int)+1+1).heap[q]?=w4.heap[q]?:=λq hq=>
   (At _ _ _ _<|by exact hq).trans ((At _ _ _ _<|by exact hq).trans<|At _ _ _ _<|by exact hq)
  have hC:∀q,q≠k*8+5->q≠k*8+6->q≠k*8+7->(((w4.setCell (G b<|k*8+5)<|J (x:Int)).setCell (G b<|k*8+6)<|J<|(x:Int)+1).setCell (G b<|k*8+7)<|J<|(x:Int)+1+1).cell? (G b q)=w4.cell? (G b q):=λq h5 h6 h7=>
   (Aa<|Ne.symm h7).trans ((Aa<|Ne.symm h6).trans<|Aa<|Ne.symm h5)
  have F:=((re.set (k*8+5)<|J (x:Int)).set (k*8+6)<|J<|(x:Int)+1).set (k*8+7)<|J<|(x:Int)+1+1;have T:∀q,(H k).own q->q≠b:=λq hq e=>A<|e▸hq;refine⟨k+1,om,ov,?_,⟨_,F⟩,λi hi=>?_,?_⟩
  .rw[z bt];have:=z S;congr 1;omega
  .by_cases e:i=k
   .subst e;rw[C3 (Nat.lt_succ_self _),<-z bu];refine⟨(hC _ om om om).trans b3,(hC _ om om om).trans<|(Q _ om).trans ?_,(hC _ om om om).trans<|(Q _ om).trans ?_,(hC _ om om om).trans<|(Q _ om).trans ?_,(hC _ om om om).trans<|(Q _ om).trans ?_,?_,?_,?_,b0.keep λq h=>hS q<|T q<|.inl h,b1.CH λq h=>hS q<|T q<|.inr<|.inl h,b2.CH λq h=>hS q<|T q<|.inr<|.inr<|.inl h,hx.CH λq h=>hS q<|T q<|.inr<|.inr<|.inr h⟩
    .exact(D i hi).c1
    .exact(D i hi).c2
    .exact(D i hi).c3
    .exact(D i hi).c4
    .rw[F.cell om];simp[mkT,z S]
    .rw[F.cell om];simp[mkT,z S]
    rw[F.cell om];simp[mkT,z S]
   have bg:=z D i hi;have e2:(if i<k+1 then mkT (f i) (KB f s i)else f i)=(if i<k then mkT (f i) (KB f s i)else f i):=by
    by_cases h:i<k
    .rw[C3 h,C3 om]
    rw[Cs h,Cs om]
   rw[e2];refine bg.keep (λq hq=>?_) λj hj=>(hC _ om om om).trans<|Q _ om;have bh:q≠b:=λc=>hA.nb i hi<|c▸hq;exact(hS q bh).trans (HO q (bg.lt hq).1 bh λc=>e<|hA.ij i k q hi a hq c)
  refine HM.trans ⟨R.1,R.2.1,R.2.2.1,by simpa using R.2.2.2,λq hq h1 h2=>(hS q h1).trans<|HO q hq h1<|h2 k a⟩
 exact ow
def I8 n w(c:0<=n)(h1:n<=1000000000000):
  C9 185 #[J n] w λe w'=>e=.returned (J<|D6 n)/\w'=w:=by
 have d:IntKind.i64.wrap (n+1)=n+1:=oj;by_cases hn:n<1000000000000
 focus
  have a:Hid<|D6 n=n+1:=O<|C3 hn;have b:min (n+1) 1000000000000=n+1:=om
 rotate_left
 focus
  have a:Hid<|D6 n=1000000000000:=O<|Cs hn;have b:min (n+1) 1000000000000=1000000000000:=om
 all_goals
  go_enter func185,ntmps185;go_wp2;go_ret;exact⟨by rw[z a];simp[b],rfl⟩
def MK Z c B0 vN vT vS vU Bk A s i w(h:A6 Z w c B0 vN vT vS vU Bk A s)(hi:i<s.ns)(p:s.ns<=50):
  C9 171 #[Q9 c,J i] w (R9 (GR<|BL (s.S i).key) w):=by
 obtain⟨g,B,q,r,t,d,j⟩:=h.GB hi;subst q;have u:=h.lt;obtain⟨W,n,e,_,a⟩:=JQ w<|.cells #[J 0,J 0,F9 0,E9,J 0] 43;have k:=Ah a;have c2:=h.cells.2.2.1;have k0:w.cell? (G g<|i*5)=some (.string (s.S i).key):=d 0 _ rfl;have f:=O e;have l:=O a;clear h d j e a;go_enter func171,ntmps171;go_wp2_with fail;rw[<-n];clear n c2 k0;refine m9 (PF (s.S i).key _) λw1 b=>?_;have a:=(b.block _ k).trans l;have l1:=Ah a;obtain⟨r0,r1,r2,r3,x⟩:=v5 a;have rf:∀o,w1.frozen? (y w o)=false:=λo=>by simp[World.frozen?,a]
 have m:=O<|o8 f b;clear b a;go_wp2;refine GO (v:=GR<|BL (s.S i).key) (by simp[results,results171,go_sem,r0,r1,r2,r3,x,BL]) rfl ⟨rfl,?_⟩;repeat(refine NO ?_ (by show w.heap.size<=w.heap.size;omega) _)
 exact m
abbrev sS(g a:Nat):Ad:=⟨some<|G g 0,a,none,0,none,0,none,0⟩
def YU(hb:bare t.d)a g b r v:Cz a (sS g b) (IZ t r v)=.agg #[S9 g (t.nv+1) b,N9,N9,N9,J 0,J 0,J 0,Q9 a]:=by
 obtain⟨h1,h2,h3,h4,h5,c⟩:=hb;show Value.agg #[S9 g (t.nv+1) b,.slice none t.d.n 0,.slice none t.d.m 0,.slice none t.d.x 0,J t.d.used,J t.d.live,J t.d.turns,Q9 a]=_;rw[h1,h2,h3,h4,h5,c]
def YT p f A t r v{w}(hV:FA w A.va t.nv t.V)(hn:t.nv<=12)(hb:bare t.d):
  C9 192 #[Cz p A t,Q9 f,GR v] w λe w'=>(∃g cp,w.heap.size<=g/\e=.returned (Cz f (sS g cp)<|IZ t r v)/\BW w' w.heap.size (S9 g (t.nv+1) cp) (t.nv+1) (AX t.V t.nv v))/\B9 w w':=by
 obtain⟨i0,I,K,L,M⟩:=ON FO;obtain⟨W,hW,P,Z,_,b1,b2⟩:=gW w (.cells #[.slice A.va t.nv A.vc,.slice A.la t.d.n A.lc,.slice A.ia t.d.m A.ic,.slice A.xa t.d.x A.xc,J t.d.used,J t.d.live,J t.d.turns,Q9 p] 197) (.cells (qe v) 43)<|.cells EM 197;have ae:Hid (t.nv=0\/∃ad,A.va=some ad/\∀j u,(MO t.V t.nv)[j]?=some u->W.cell? (ad.add j)=some u):=O (by
  rcases hV with h|⟨vb,off,af,ag,ah⟩
  .exact .inl h
  exact .inr ⟨_,af,FA.news (w:=W) (λi hi=>(ah i hi).keep (λq=>P.cell (p:=(G vb q)) ag))⟩)
 have Q:=O<|qj b1 b2;have ai:=O hb;go_enter func192,ntmps192;go_upto_region 2 with(at_builtin;rw[<-hW];refine CF rfl _ _ 100 rfl w.heap.size 43 i0 (V 0 0 0 ⟨#[]⟩ 0) 5 48 underlying100 I K L M rfl oo rfl A.va t.nv A.vc (MO t.V t.nv) rfl (Ir _ _) ae (NH _ _) od om om (w.heap.size+1+1+1) Z ?_;intro a3 s w3 E a F)
 have hb:=P;have c:B9 w w3:=⟨a.os.trans hb.os,a.tape.trans hb.tape,a.output.trans hb.output,GP hb.size a.size,λk hk=>(a.block k (A0 hk hb.size) oq).trans<|hb.block k hk⟩;have z3:=a.size;have c1:=(a.block (w.heap.size+1) om oq).trans Q.1;have c2:=(a.block (w.heap.size+1+1) om oq).trans Q.2;have l1:=Ah c1;have y0:w3.cell? (Y9 w 0)=some (J v.kind):=by simp[World.cell?,c1]
 have y1:w3.cell? (Y9 w 1)=some (J v.num):=by simp[World.cell?,c1]
 have y2:w3.cell? (Y9 w 2)=some (F9 v.Af):=by simp[World.cell?,c1]
 have y3:w3.cell? (Y9 w 3)=some (.string v.str):=by simp[World.cell?,c1]
 have y4:w3.cell? (Y9 w 4)=some (J v.ref):=by simp[World.cell?,c1]
 have aj:∀q,(Value.slice a3 t.nv s).ownBlock=some q->w.heap.size+1+1<q:=λq e=>by rw[F q e];omega
 have H:=O aj;have R:Hid (∀g4 b w4,w4.ownsRow w.heap.size 43 5 (S9 g4 (t.nv+1) b) (t.nv+1) (MO t.V t.nv++Hh v)->(w3.alloc<|.cells (Hh v).toArray 43).grownBy w4 (Value.ownBlock<|.slice a3 t.nv s)->(Value.ownBlock (.slice a3 t.nv s)=some g4\/g4=w3.heap.size+1)->
   (∃w5,(Instr.storeAt 197 (Q9<|w.heap.size+1+1)<|.agg #[S9 g4 (t.nv+1) b,N9,N9,N9,J 0,J 0,J 0,Q9 f]).run prog w4=.ok () w5/\Bj w4 w5 (w.heap.size+1+1) #[S9 g4 (t.nv+1) b,N9,N9,N9,J 0,J 0,J 0,Q9 f] 197/\
   w.heap.size<=g4/\BW w5 w.heap.size (S9 g4 (t.nv+1) b) (t.nv+1) (AX t.V t.nv v)/\B9 w w5)):=O (by
  intro g4 b w4 h1 h2 h3;have S:=h3.elim (λe=>H g4 e) λe=>om;have c2:=(h2.block _ ot λe=>oS<|z H _ e.symm).trans<|(DO _ _ _<|Ah c2).trans<|z<|O c2;obtain⟨w5,k1,k2⟩:=BM (v:=.agg #[S9 g4 (t.nv+1) b,N9,N9,N9,J 0,J 0,J 0,Q9 f]) (vs:=[S9 g4 (t.nv+1) b,N9,N9,N9,J 0,J 0,J 0,Q9 f]) (old:=EM.toList) Eu c2 rfl rfl oh rfl;refine⟨w5,k1,k2,om,?_,?_⟩
  .rw[PJ]at h1;exact Ab h1 λq e=>k2.other q<|by cases e;show g4≠_;omega
  have c:=z (O c);refine k2.below (B:=w.heap.size) ⟨h2.os.trans c.os,h2.tape.trans c.tape,h2.output.trans c.output,GP c.size (GP oq h2.size),λk hk=>?_⟩ om;exact(h2.block k ot (λe=>oS (z H _ e.symm))).trans ((DO _ _ _ om).trans (c.block k hk)))
 go_wp2_with (first|(at_builtin;refine RC _ rfl _ _ 100 rfl w.heap.size 43 i0 (V 0 0 0 ⟨#[]⟩ 0) 5 48 underlying100 I K L M rfl oo (.slice a3 t.nv s) t.nv (MO t.V t.nv) rfl (OR E _) (y w3 0) 1 1 (Hh v) rfl rfl (Is<|DD w3 _) (by simp[Hh,Value.oneCell']) oo od om ot (w3.heap.size+1) oq ?_;intro g4 b w4 l C o au;obtain⟨w5,D,T,S,U,X⟩:=z R g4 b w4 l C o;have ak:=O D;have ao:=O T;have aq:=O U;have ar:=O X;clear l C o D T U X)|(refine Ag rfl rfl _ ak ?_)|go_in)
 refine FD results192 underlying197 ao.Bw ⟨⟨g4,b,S,by rw[YU (z ai)],aq⟩,ar⟩
theorem A6.EU{Z}{w1 X:Y}{c}{Bk B'}{s}{F'}{r g3}(h:A6 Z w c B0 vN vT vS vU Bk A s)
  (m:Rx B0 w w1) (D:∃W M,Cr w1 F' B0 (s.nf+1) B' W M/\∀i,i<s.nf+1->W i=i) (P:B' s.nf=r) (L:∀i,i<s.nf->B' i=Bk i) (o:B9 w1 X) (d:X.grownBy w3 vN.ownBlock)
  (g:w3.ownsRow B0 140 1 (.slice (some<|G g3 0) (s.nf+1) a) (s.nf+1)<|ptrs Bk s.nf++[.pointer (some (G r 0))]) (l:vN.ownBlock=some g3\/w.heap.size<=g3) (E:∀i,i<s.nt->(s.T i).shape=-1\/∃j:Nat,(s.T i).shape=j/\j<s.nf):
  w3.heap[c]?=some (.cells #[vN,vT,vS,vU] 134 (0,0))/\A6 Z (w3.setCell (G c 0)<|.slice (some<|G g3 0) (s.nf+1) a) c B0 (.slice (some<|G g3 0) (s.nf+1) a) vT vS vU B' A {s with nf:=s.nf+1,F:=F'}/\BF (Az B0 c vN vT vS w) w (Az B0 c (.slice (some<|G g3 0) (s.nf+1) a) vT vS<|w3.setCell (G c 0)<|.slice (some<|G g3 0) (s.nf+1) a) (w3.setCell (G c 0)<|.slice (some<|G g3 0) (s.nf+1) a):=by
 obtain⟨W,M,hN,hid⟩:=D;have k1:∀q,q<w.heap.size->(q<B0\/¬DQ 145 w q)->w1.heap[q]?=w.heap[q]?:=λq hq hn=>m.block q hq hn;have k3:∀q,q<w1.heap.size->vN.ownBlock≠some q->w3.heap[q]?=w1.heap[q]?:=λq hq hn=>(d.block q (A0 hq o.size) λe=>hn e.symm).trans<|o.block q hq;have f:∀q,q<w.heap.size->(q<B0\/¬DQ 145 w q)->vN.ownBlock≠some q->w3.heap[q]?=w.heap[q]?:=λq hq hn Q=>(k3 q (A0 hq m.size) Q).trans<|k1 q hq hn;have p:=(f c h.lt (.inr h.Gy)<|h.Ba h.n oo).trans h.Bw;have v:=(k1 c h.lt<|.inr h.Gy).trans h.Bw;have B:∀k,k≠c->(w3.setCell (G c 0)<|.slice (some<|G g3 0) (s.nf+1) a).heap[k]?=w3.heap[k]?:=λk hk=>At _ _ _ _ (by exact hk);have H:g3≠c:=λe=>by
  rcases l with h1|h1
  .exact h.Ba h.n oo (e▸h1)
  have:=h.lt;omega
 refine⟨p,h.next ⟨d.os.trans<|o.os.trans m.os,d.tape.trans<|o.tape.trans m.tape,d.output.trans<|o.output.trans m.output⟩ (by have:=o.size;have:=d.size;have:=m.size;simp;omega)
  (λk I hk=>(B k λe=>hk<|.inl e).trans<|f k I ?_ λe=>hk<|.inr<|.inl e) (λk e=>by cases e;exact l) (λ_ e=>.inl e) (λ_ e=>.inl e) ((Lo _ _ _ _ _ _ p).trans oq) ?_ ⟨W,M,hN.keep λb hn=>?_,hid⟩ ?_
  (Ab h.si (λq e=>(B q (λe'=>h.Ba h.si oo (e'▸e))).trans (f q (h.si.lt q e).2 (.inr (Et h.si oo e)) (Cd h.si h.n oo e)))) h.u (λi hi=>.inl (h.rd i hi))⟩
 .grind [ptrs,nf,Az]
 .rw[Rb L P]at g;exact Ab g λq e=>B q<|by cases e;exact H
 .have hbc:b≠c:=λe=>by
   subst e;rcases hn with⟨x,C⟩|⟨es,x,C⟩
   .rw[v]at C;cases C
   rw[v]at C;cases C
  refine(B b hbc).trans (k3 b (KZ hn) λe=>?_);have K:=Et h.n oo e;have e1:=k1 b (h.n.lt b e).2<|.inr K;grind [ptrs,nf,Az,DQ]
 have e:kL B' A {s with nf:=s.nf+1,F:=F'} s.nt=kL Bk A s s.nt:=OC (λi hi=>by
  show AL B' (A i) (s.T i)=AL Bk (A i) (s.T i);unfold AL;rcases E i hi with e|⟨j,e,hj⟩
  .rw[C3 e,C3 e]
  rw[Cs om,Cs om,e,show((j:Int)).toNat=j by omega,L j hj])
 show World.ownsRow _ _ _ _ _ _ (kL B' A {s with nf:=s.nf+1,F:=F'} s.nt);rw[e];exact Ab h.t λq e=>(B q λe'=>h.Ba h.t oo<|e'▸e).trans<|f q (h.t.lt q e).2 (.inr<|Et h.t oo e)<|Cd h.t h.n oo e
def Xd(Z:Nat->Prop)(c B0:Nat)(vN vT vS vU:V9)(Bk:Nat->Nat)(A:Nat->Ad)(s:AK)(k:Nat)(key:ByteArray)(w:Y)(e:Ending)(w':Y):Prop:=
 (Er s.nf s.F k key=-1/\e=.returned (.pointer none)/\A6 Z w' c B0 vN vT vS vU Bk A s/\BF (Az B0 c vN vT vS w) w (Az B0 c vN vT vS w') w')\/
 (∃r:Nat,Er s.nf s.F k key=r/\∃a B',e=.returned (Q9<|B' r)/\A6 Z w' c B0 a vT vS vU B' A {s with nf:=EU s.nf s.F k key,F:=ER s.nf s.F k key}/\BF (Az B0 c vN vT vS w) w (Az B0 c a vT vS w') w')
def Z2{Z}{c}{Bk}{s}k key{w}(p:A6 Z w c B0 vN vT vS vU Bk A s)(hf:Aq s.nf s.F=0)(hk:k<s.nf)(K:key.size<=4000)(L:∀i,i<s.nt->(s.T i).shape=-1\/∃j:Nat,(s.T i).shape=j/\j<s.nf):
  C9 191 #[Q9 c,Q9<|Bk k,.string key] w λe w'=>Xd Z c B0 vN vT vS vU Bk A s k key w e w':=by
 obtain⟨h1,h2,h3,h4,h5⟩:=Av hf;obtain⟨l,nc,rfl⟩:=AE p.n;rcases p.nd,p.cells.1,h1.2 with⟨⟨X,M,hN,hid⟩,c0,ah⟩;go_enter func191,ntmps191;go_wp2_with fail;refine(z<|O<|Ss w B0 Bk X M hN hid h1 h2 h3 h4 k hk key K).mono ?_;rintro e w1 (⟨j,hj,rfl,hb⟩|⟨m,B,rfl,hb⟩|⟨m,t,D,r,B',N',M',rfl,E,u,C,P,H⟩)
 .have Q:Hid<|∀q,Xd Z c B0 (.slice l s.nf nc) vT vS vU Bk A s k key w (.returned<|Q9<|Bk j)<|w1.drewN q:=O (λq=>by
   obtain⟨e1,e2,e3⟩:=KM h4 (.inl ⟨j,hj,rfl,rfl,rfl⟩);obtain⟨m1,d1⟩:=p.below (w':=w1.drewN q) ⟨hb.os,hb.tape,hb.output,hb.size,hb.block⟩;refine .inr ⟨j,e3.symm,_,Bk,rfl,?_,d1⟩;rw[<-e1,<-e2];exact m1)
  have R:=hj.2.1;obtain⟨m1,d1⟩:=p.below hb;obtain⟨l1,n1,_⟩:=KA.cell m1.nd R;have y0:=m1.cells.1;have d0:((j:Int)==(s.nf:Int))=false:=ot;go_wp2_with fail
  go_quiet (fail);go_wp2;exact GO (v:=Q9<|Bk j) (by simp[results,results191,go_sem]) rfl (Q _)
 .have Q:Hid<|∀q,Xd Z c B0 (.slice l s.nf nc) vT vS vU Bk A s k key w (.returned<|.pointer none)<|w1.drewN q:=O (λq=>by
   obtain⟨e1,e2,e3⟩:=KM h4 (.inr (.inl ⟨m,B,rfl,rfl,rfl⟩));obtain⟨m1,d1⟩:=p.below (w':=w1.drewN q) ⟨hb.os,hb.tape,hb.output,hb.size,hb.block⟩;exact .inl ⟨e3.symm,rfl,m1,d1⟩)
  go_wp2_with fail
  go_quiet (fail);go_wp2;exact GO (v:=.pointer none) (by simp[results,results191,go_sem]) rfl (Q _)
 obtain⟨i0,S,U,V,W⟩:=ON XS;have b:=p;have ad:=H.block c p.lt<|.inr b.Gy;have y0:w1.cell? (G c 0)=some (.slice l s.nf nc):=by simp[World.cell?,ad.trans b.Bw]
 obtain⟨l1,n1,_,_⟩:=Dm E u (show s.nf<s.nf+1 by omega);rw[C]at l1 n1;have d0:((s.nf:Int)==(s.nf:Int))=true:=oq;have ai:=GP b.base H.size;have ae:Hid<|∀q o,((w1.drewN q).alloc o).ownsRow B0 140 1 (.slice l s.nf nc) s.nf<|ptrs Bk s.nf:=O (λq o=>by
  have h1:=Ab b.n (λg e=>H.block g (b.n.lt g e).2 (.inr (Et b.n oo e)));exact OR (Ab h1 (w':=w1.drewN q) (λ_ _=>rfl)) o)
 have HF:Hid (∀q g3 d w3,w3.ownsRow B0 140 1 (S9 g3 (s.nf+1) d) (s.nf+1) (ptrs Bk s.nf++[Q9 r])->((w1.drewN q).alloc<|.cells #[Q9 r] 140).grownBy w3 (Value.ownBlock<|.slice l s.nf nc)->(Value.ownBlock (.slice l s.nf nc)=some g3\/g3=w1.heap.size+1)->
   w3.cell? (G c 0)=some (.slice l s.nf nc)/\w3.frozen? (G c 0)=false/\c<w3.heap.size/\Xd Z c B0 (.slice l s.nf nc) vT vS vU Bk A s k key w (.returned (Q9 r)) (w3.setCell (G c 0) (S9 g3 (s.nf+1) d))):=O (by
  intro q g3 d w3 a1 a2 a3;have hX:B9 w1<|(w1.drewN q).alloc<|.cells #[Q9 r] 140:=Below.alloc (a:=w1) (w:=w1.drewN q) ⟨rfl,rfl,rfl,Be _,λ_ _=>rfl⟩ (Be _) _;obtain⟨b1,b2,b3⟩:=b.EU H ⟨N',M',E,u⟩ C P hX a2 a1 (a3.imp id λe=>oS H.size)<|z<|O L;refine⟨by simp[World.cell?,b1],by simp[World.frozen?,b1],Ah b1,.inr ⟨s.nf,?_,_,B',by rw[C],?_,b3⟩⟩
  .obtain⟨e1,e2,e3⟩:=KM h4<|.inr<|.inr ⟨m,t,D,rfl,rfl,rfl⟩;exact e3.symm
  obtain⟨e1,e2,e3⟩:=KM h4 (.inr (.inr ⟨m,t,D,rfl,rfl,rfl⟩));rw[<-e1,<-e2];exact b2)
 go_wp2_with fail
 go_quiet (fail);go_wp2_with (at_builtin;refine RC _ rfl _ _ 70 rfl B0 140 i0 (.pointer none) 1 8 underlying70 S U V W rfl oo (.slice l s.nf nc) s.nf (ptrs Bk s.nf) rfl (ae _ _) (y w1 0) 1 1 [Q9 r] rfl rfl (Is<|DD _ _) oh oo od om ot (w1.heap.size+1) oq ?_;intro g3 d w3 f x h ag;obtain⟨x3,f3,l3,I⟩:=z HF _ g3 d w3 f x h;have af:=O I;clear f x h I);exact GO (v:=Q9 r) (by simp[results,results191,go_sem]) rfl af
def L6{k}(h:Inv Ky hN d)(hk:Ky k){p}(hp:Has d p)(hl:AF p.key k=true):0<=Aw d k (hN k):=by
 rcases h.i0.place B6 hk with⟨i,h1,h2,h3,h4⟩|⟨h1,h2⟩;all_goals grind [Ky,hN,Has,AF,Aw]
def YQ{k v}(h:Inv Ky hN d)(hk:Ky k)(a:v.ok=true):Ep d k v=(decide (v.kind≠0)&&decide (Aw (Ce hN d k v) k (hN k)<0)):=by
 rcases Jb B6 h hk hk.1 a,h.i0.le,h.i0.turns with⟨hi,b,c⟩;unfold Ep;rcases K9 B6 h hk hk.1 a with⟨q,a1,a2,a3,_⟩|⟨q,a1,a2,a3,a4,_⟩|⟨a1,a2,a3,a4,a5⟩|⟨a1,a2,a3⟩
 .simp[a3]
 .have h1:=L6 h hk a1 a2;have h2:=L6 hi hk ((a4 ⟨q.key,v,q.turn⟩).2<|.inr rfl) a2;grind [Ky,hN,Ep,Aw,Ce]
 .have h2:=L6 hi hk ((a3 ⟨k,v,d.turns+1⟩).2<|.inr rfl)<|B6.refl _ hk;grind [Ky,hN,Ep,Aw,Ce,Inv.i0]
 grind [Ky,hN,Ep,Aw,Ce,B6,Hy,Inv.i0]
section
variable {M:Nat} {s:AK}
def Ur{n}(a:0<=n)(h1:n<=1000000000000):0<=D6 n/\D6 n<=1000000000000:=by
 unfold D6;split<;>omega
def Js(b:Lt M s){i t}(hi:i<s.ns)(c:t<s.nt)(h:0<=Bh s i t):∃j q:Nat,(s.T t).shape=j/\j<s.nf/\Bh s i t=q/\q<(s.T t).nv/\Bc s.F j (s.S i).key=q:=by
 obtain⟨_,_,_,_,_,hs⟩:=b.si i hi;unfold Bh at h ⊢;rcases(b.t t c).way with⟨e,_⟩|⟨j,e,hj,d,_⟩
 .all_goals grind [Bh,Bc,KO]
 by_cases a:KO s i t=true
 focus
  rw[C3 a]at h ⊢;have h2:(s.T t).shape=(s.S i).shape:=by unfold KO at a;simp at a;exact a.2
  rcases hs with⟨h3,_⟩|⟨h3,h4,h5,g⟩
  .omega
  rw[<-h2,e,show(j:Int).toNat=j by omega]at g
 rotate_left
 focus
  rw[Cs a,C3 om,e,show(j:Int).toNat=j by omega]at h ⊢
 all_goals
  rcases JK b.f hj (s.S i).key with k|⟨q,k,l⟩;all_goals grind [Bh,Bc]
def Xk.rG{S'}(h:Xk M s t):Xk M {s with ns:=a,S:=S'} t:=⟨h.way,h.wf,h.m⟩
theorem Jt(a:Lt M s){i t}(hi:i<s.ns)(d:t<s.nt):Lt M<|AY s i t:=by
 refine⟨a.f,a.nt,a.ns,λq hq=>(a.t q hq).rG,λq hq=>?_⟩;show Pb _ (AX s.S i (DS s i t) q);by_cases e:q=i
 .subst e;rw[Ai];obtain⟨h1,h2,h3,h4,h5,b⟩:=a.si q hi;have o1:=Ur h2 h4;have o2:=Ur h3 h5;unfold DS;split
  .exact⟨h1,o1.1,h3,o1.2,h5,b⟩
  split
  .rename_i g c
   refine⟨h1,h2,o2.1,h4,o2.2,.inr ⟨c.1,?_,c.2,rfl⟩⟩;rcases(a.t t d).way with⟨e,_⟩|⟨j,e,hj,_⟩;all_goals grind [AY]
  exact⟨h1,h2,o2.1,h4,o2.2,b⟩
 rw[Ak _ _ e];exact a.si q hq
def JL(a:Lt M s){t}{x}(b:Xk M s x):Lt M<|BJ s t x:=by
 refine⟨a.f,a.nt,a.ns,λq hq=>?_,a.si⟩;show Xk M _ (AX s.T t x q);by_cases e:q=t
 .subst e;rw[Ai];exact⟨b.way,b.wf,b.m⟩
 rw[Ak _ _ e];have h:=a.t q hq;exact⟨h.way,h.wf,h.m⟩
def YS(b:Lt M s){j}(hj:j<s.nf){key}(hk:key.size<=4000)(hp:Bc s.F j key<0){r:Nat}(c:Er s.nf s.F j key=r):Aq (EU s.nf s.F j key) (ER s.nf s.F j key)=0/\s.nf<=EU s.nf s.F j key/\(∀i,i<s.nf->ER s.nf s.F j key i=s.F i)/\r<EU s.nf s.F j key/\MQ (EU s.nf s.F j key) (ER s.nf s.F j key) j key r:=by
 rcases TM s.nf s.F j key with⟨q,h1,h2,h3,h4⟩|⟨h1,h2,h3,h4,h5⟩|⟨h1,h2,h3,h4,h5,a⟩
 .rw[h3,h4];grind [Bc,Er,Aq,EU,ER,MQ,Lt.f]
 .omega
 rw[h5,a];have:r=s.nf:=om;grind [Bc,Er,Aq,EU,ER,MQ,VK,EC,QS,Lt.f]
def Z4 s x k v:
  (B8 s x k v=.no)\/
  (B8 s x k v=.DK/\0<=x.shape/\k.kind=4/\v.kind≠0/\0<=Bc s.F x.shape.toNat k.str)\/
  (B8 s x k v=.grow/\0<=x.shape/\k.kind=4/\v.kind≠0/\Bc s.F x.shape.toNat k.str<0/\0<=Er s.nf s.F x.shape.toNat k.str)\/
  (B8 s x k v=.loose/\0<=x.shape)\/(B8 s x k v=.IY/\x.shape<0/\Ep x.d k v=false)\/(B8 s x k v=.full/\x.shape<0/\Ep x.d k v=true):=by
 unfold B8;split
 .exact .inl rfl
 split
 all_goals grind [B8,DK,Bc,Er,Ep]
theorem Rc(c:Lt M s){t}(I:t<s.nt){k v}(hk:Ky k)(C:v.ok=true)(D:Wf v):Lt (M+4002)<|Ct s t k v:=by
 have a:=c.mono<|Nat.le_add_right M 4002;have g:=c.t t I;have p:k.kind=4->k.str.size<=4000:=λh=>by
  have h1:=hk.1;unfold Cc Vl.ok A8 at h1;simp[h]at h1;omega
 unfold Ct;rcases Z4 s (s.T t) k v with h|⟨h,o,h1,h2,h3⟩|⟨h,o,h1,h2,h3,h4⟩|⟨h,o⟩|⟨h,o,h1⟩|⟨h,o,h1⟩
 .rw[h];exact a
 .rw[h];rcases g.way with⟨e,_⟩|⟨j,e,hj,l,hb,b⟩
  .omega
  refine JL a ⟨.inr ⟨j,e,hj,l,hb,λi hi=>?_⟩,g.wf,GP g.m<|Nat.le_add_right _ _⟩;show J2 (AX (s.T t).V _ v i)=true/\Wf (AX (s.T t).V _ v i);by_cases e2:i=(Bc s.F (s.T t).shape.toNat k.str).toNat
  .grind [Ky,Ct,Ai,J2]
  rw[Ak _ _ e2];exact b i hi
 .rw[h];rcases g.way with⟨e,_⟩|⟨j,e,hj,l,hb,b⟩
  .omega
  have n:(s.T t).shape.toNat=j:=om;rw[n]at h3 h4 ⊢;obtain⟨r,E⟩:∃r:Nat,Er s.nf s.F j k.str=r:=⟨(Er s.nf s.F j k.str).toNat,om⟩;obtain⟨g1,g2,g3,g4,g5⟩:=YS c hj (p h1) h3 E;rw[E];obtain⟨_,K,L,_,_⟩:=Av c.f;obtain⟨_,p2,P,_,_⟩:=Av g1;have u:∀q,q<s.nf->nf (ER s.nf s.F j k.str) q=nf s.F q:=λq hq=>dG g3 hq;refine⟨g1,c.nt,c.ns,λq hq=>?_,λq hq=>?_⟩
  .show Xk _ _ (AX s.T t (IZ (s.T t) (r:Int) v) q);by_cases e2:q=t
   .subst e2;rw[Ai];refine⟨.inr ⟨r,rfl,g4,?_,hb,λi hi=>?_⟩,g.wf,GP g.m<|Nat.le_add_right _ _⟩
    .show(s.T q).nv+1=nf (ER s.nf s.F j k.str) r;rw[oQ p2 P g5,u j hj,l]
    show J2 (AX (s.T q).V (s.T q).nv v i)=true/\Wf (AX (s.T q).V (s.T q).nv v i);have hi:i<(s.T q).nv+1:=hi;grind [Ky,Ct,Ai,J2,Ak]
   rw[Ak _ _ e2];have h5:=c.t q hq;refine⟨?_,h5.wf,GP h5.m<|Nat.le_add_right _ _⟩;grind [Ky,Ct,Xk.way]
  obtain⟨a1,a2,a3,a4,a5,w⟩:=c.si q hq;refine⟨a1,a2,a3,a4,a5,?_⟩;rcases w with w|⟨b1,b2,b3,b4⟩
  .exact .inl w
  have x:(s.S q).shape.toNat<s.nf:=om;refine .inr ⟨b1,by show(s.S q).shape<((EU s.nf s.F j k.str:Nat):Int);omega,b3,?_⟩;show Bc (ER s.nf s.F j k.str) (s.S q).shape.toNat (s.S q).key=(s.S q).place;rw[Kt K L g3 x];exact b4
 .rw[h];rcases g.way with⟨e,_⟩|⟨j,e,hj,l,hb,b⟩
  .omega
  have n:(s.T t).shape.toNat=j:=om;have A:=FQ c.f hj (λq hq=>(b q om).1) (s.T t).nv om;have B:∀i,i<=(s.T t).nv->S4 (AA s.F j (s.T t).V i):=λi=>by
   induction i with
   |zero=>exactλ_ q hq=>absurd hq<|Tn _
   |succ i ih=>exactλhi=>(ih om).put (GK<|G3 c.f hj<|show i<nf s.F j by omega).2 (b i om).2
  refine JL a ⟨.inl ⟨rfl,rfl,?_⟩,?_,?_⟩
  .show Inv Ky hN (Ce hN (AA s.F (s.T t).shape.toNat (s.T t).V (s.T t).nv) k v);rw[n];exact Jb B6 A.ls.inv hk hk.1 C
  .show S4 (Ce hN (AA s.F (s.T t).shape.toNat (s.T t).V (s.T t).nv) k v);rw[n];exact(B _<|Be _).put hk.2 D
  show(Ce hN (AA s.F (s.T t).shape.toNat (s.T t).V (s.T t).nv) k v).m<=_;rw[n];have:=Ww (v:=v) B6 A.ls.inv hk;rw[A.m]at this;omega
 .rw[h];rcases g.way with⟨e,e2,H⟩|⟨j,e,_⟩
  .refine JL a ⟨.inl ⟨rfl,rfl,Jb B6 H hk hk.1 C⟩,g.wf.put hk.2 D,?_⟩;have:=Ww (v:=v) B6 H hk;have:=g.m;show(Ce hN (s.T t).d k v).m<=_;omega
  omega
 rw[h];exact a
def gG(a:Lt M s):Xk M s Lv:=by
 obtain⟨h1,h2,_⟩:=Av a.f;refine⟨.inr ⟨0,rfl,oS h1.1,?_,⟨rfl,rfl,rfl,rfl,rfl,rfl⟩,λi hi=>absurd hi<|Tn _⟩,λq hq=>absurd hq<|Tn _,W9 _⟩;show 0=(s.F 0).count.toNat;rw[h2.2.2];rfl
theorem KR{v}(b:Wf v)(h:Dg v=0):Ky<|DA v:=by
 obtain⟨c,a,h1,h2⟩:=oI b;rw[Ei]at h1;have e:Dg v=c/\(DA v).kind=a.kind/\(DA v).num=a.num/\(DA v).Af=a.Af/\(DA v).str=a.str/\(DA v).ref=a.ref:=by
  simp[KV]at h1;exact h1
 obtain⟨e0,e1,e2,e3,f,g⟩:=e;have d:DA v=a:=by
  generalize DA v=x at*;cases x;cases a;grind [Dg,Ky,DA]
 rw[d];exact h2 om
def Rn(c:Lt M s)a(w:Wf a.k)(g:Wf a.v):Lt (M+4002)<|AO s a:=by
 have b:=c.mono<|Nat.le_add_right M 4002;unfold AO;split
 .rename_i hc
  obtain⟨c1,c2,c3,c4⟩:=FY hc;obtain⟨r1,r2,C,x,D,_,_⟩:=CL c1;unfold BK;split
  .split
   .exact b
   rename_i h1 h2
   refine⟨c.f,by show s.nt+1<=100;have:=c.nt;omega,c.ns,λi hi=>?_,c.si⟩;show Xk _ _ (AX s.T s.nt Lv i);have hi:i<s.nt+1:=hi;by_cases e:i=s.nt
   .rw[e,Ai];have:=gG b;exact⟨this.way,this.wf,this.m⟩
   rw[Ak _ _ e];have:=b.t i om;exact⟨this.way,this.wf,this.m⟩
  split
  .split
   .exact b
   rename_i h1 p h2
   have A:=Yt c1 p;refine⟨c.f,c.nt,by show s.ns+1<=50;have:=c.ns;omega,λi hi=>(b.t i hi).rG,λi hi=>?_⟩;grind [AO,Pb,AX,Ai,pO,Ak,Lt.ns,Lt.si]
  split
  .grind [AO,CV,Rc,KR]
  split
  .grind [AO,CV,El,Jt]
  split
  .rename_i h1 p h2 E r
   have F:=c2 (by simp[CV,r]);have hs:=c3 (by simp[El,r]);have hi:a.site.toNat<s.ns:=om;have d:a.t.toNat<s.nt:=om;have u:=Jt c hi d;split
   .rename_i h
    obtain⟨j,q,e1,e2,e3,H,I⟩:=Js c hi d h.1;refine JL (u.mono<|Nat.le_add_right M 4002) ?_;have l:=b.t a.t.toNat d;rcases l.way with⟨e,_⟩|⟨j',e,hj,n,hb,o⟩
    .omega
    refine⟨.inr ⟨j',e,hj,n,hb,λi hi=>?_⟩,l.wf,l.m⟩;show J2 (AX (s.T a.t.toNat).V _ a.v i)=true/\Wf (AX (s.T a.t.toNat).V _ a.v i);by_cases B:i=(Bh s a.site.toNat a.t.toNat).toNat
    .grind [AO,Ai,J2]
    rw[Ak _ _ B];exact o i hi
   exact Rc u d (GK (c.si _ hi).1) x g
  exact b
 exact b
end
open Classical in
def cJ lc{ia:Option Addr}ic{xa:Option Addr}xc{d}{w}(t:B2 w)(hA:Ea w la ia xa d)(r:Small d)(u:S4 d)(hk:BI d (hD d)=0):
  C9 275 #[Dv la lc ia ic xa xc d] w (R9 (J<|F3 d) w):=by
 have D:=r.m;have s:Hid<|F3 d=(Qf d:Int):=O<|C3 hk;have a:B9 w<|w.alloc<|.cells #[.slice la d.n lc,.slice ia d.m ic,.slice xa d.x xc,J d.used,J d.live,J d.turns] 103:=n9;go_enter func275,ntmps275;go_wp2_with fail;refine m9 (I3 A1 lc ic xc (A1 _ _ t a) (hA.below a) r (λq hq hk=>qV hk ((u) q hq).1)<|z<|O hk) λw1 g=>?_;obtain⟨l,v⟩:=AM g;have E:w1.cell? (y w 1)=some (.slice ia d.m ic):=by rw[l _ _ oq];simp[go_sem]
 have c:=o8 a g;go_wp2_with fail;go_loopw [11] (λi wr=>∃k:Nat,k<=d.m/\i=J k/\S8 d.I d.m 0 d.m=S8 d.I d.m k (d.m-k)/\wr=w1) λi _=>d.m-(intOf i).toNat
 .exact⟨0,om,rfl,rfl,rfl⟩
 obtain⟨k,hk,rfl,hz,o⟩:=hrel;rw[o];have p:=O hz;by_cases e:k<d.m
 .obtain⟨b,off,rfl,A,hcs⟩:=(z<|O (hA.below c).ints).resolve_left om;have e0:=hcs k e;by_cases j:d.I k=0
  .have f:Hid<|F3 d=(k:Int):=O<|s.trans<|congrArg Int.ofNat<|p.trans<|bZ j e;rw[j]at e0;go_wp2;go_ret;exact⟨qg f,c⟩
  have B:=O<|p.trans<|bY j e;have C:(d.I k==0)=false:=by simp[j]
  go_wp2;go_roundw
  .exact⟨k+1,om,ov,B,trivial⟩
  exact ow
 have h:k=d.m:=om;have f:Hid<|F3 d=(d.m:Int):=O<|s.trans<|congrArg Int.ofNat<|p.trans (by rw[h,Nat.sub_self];rfl);go_wp2;go_ret;exact⟨qg f,c⟩
def Vk(f:Nat->Si)(n:Nat)(w:Y)(v:V9)(lo hi:Nat):Prop:=
 (n=0/\v=N9)\/∃b a Z g,v=S9 b n a/\lo<=b/\b<hi/\w.rowIs b 107 Z g/\n*5<=Z/\∀j,j<n*5->g j=Ri f j
def Vk.keep{f}(h:Vk f n w v lo hi)(hk:∀b,v.ownBlock=some b->w'.heap[b]?=w.heap[b]?):Vk f n w' v lo hi:=by
 rcases h with h|⟨b,a,Z,g,rfl,h2,h3,h4,h5,c⟩
 .exact .inl h
 exact .inr ⟨b,a,Z,g,rfl,h2,h3,GW h4<|hk b rfl,h5,c⟩
theorem Vk.at{f}(h:Vk f n w v lo hi):∃a c,v=.slice a n c/\FX w a n f:=by
 rcases h with⟨d,rfl⟩|⟨b,c,Z,g,h1,h2,h3,h4,h5,e⟩
 .subst d;exact⟨_,_,rfl,.inl rfl⟩
 exact⟨_,_,h1,.inr ⟨b,0,rfl,H8 h4,λi hi=>by rw[We];exact pB h4 h5 e hi⟩⟩
def OX s w:
  C9 36 #[N9,J s] w λe w'=>e=.returned (J s)/\w'=w:=by
 go_enter func36,ntmps36;go_wp2;go_loopw [1,5] (λq i wr=>q=J s/\i=J 0/\wr=w) λ_ _ _=>0
 .exact⟨rfl,rfl,rfl⟩
 obtain⟨rfl,rfl,rfl⟩:=hrel;go_wp2;go_ret;exact⟨rfl,rfl⟩
def jU{f}(h:Vk f n w v lo hi)(hn:n<=1048576)(hs:s<=100000000000000):
  C9 36 #[v,J s] w λe w'=>(e=.returned (J ((s+5*n:Nat):Int))/\Vk (jY s) n w' v lo hi)/\Bv v w w':=by
 rcases h with⟨c,rfl⟩|⟨b,a,Z,g,rfl,h2,h3,h4,h5,j⟩
 .subst c;refine(OX s w).mono λe w' h=>?_;rw[h.2];exact⟨⟨by rw[h.1];rfl,.inl ⟨rfl,rfl⟩⟩,Bv.same _ _⟩
 refine(OW b n a Z s g w h4 h5 om hs).mono λe w' h=>?_;obtain⟨⟨rfl,g',d,i⟩,hb⟩:=h;exact⟨⟨oq,.inr ⟨b,a,Z,g',rfl,h2,h3,d,h5,i⟩⟩,Bv.XY hb⟩
def jG(h:Vk (jY s) n w v lo hi)(hn:n<=1048576)(hs:s<=100000000000000):
  C9 74 #[v,J s] w (R9 (J ((s+5*n:Nat):Int)) w):=by
 obtain⟨a,b,rfl,hA⟩:=h.at;refine(Ov b s hA om hs).mono λe w' h=>?_;exact⟨by rw[h.1];simp,h.2⟩
def GV.CH{f}(h:GV f n w v lo hi)(hk:∀b,v.ownBlock=some b->w'.heap[b]?=w.heap[b]?):GV f n w' v lo hi:=by
 rcases h with h|⟨a,b,c,rfl,h2,h3,h4⟩
 .exact .inl h
 exact .inr ⟨a,b,c,rfl,h2,h3,h4.of_block<|hk b rfl⟩
def MV b{n}cap lo hi s{f}(H:Nat->Hs)w(E:b<w.heap.size)(hT:∀i,i<n->aD lo hi w b (i*8) (H i) (mkT (f i)<|KB f s i))(hw:Em f n<=2000000000)(hs:s<=10000000000000):
  C9 73 #[S9 b n cap,J s] w (R9 (J (KB f s n:Int)) w):=by
 have ad:=SU f n;have HT:=O hT;go_enter func73,ntmps73;go_wp2;go_loopw [1,5] (λq i wr=>∃(k:Nat),k<=n/\i=J (k:Int)/\q=J (KB f s k:Int)/\B9 w wr) λ_ i _=>n-(intOf i).toNat
 .exact⟨0,om,rfl,rfl,BE _ _⟩
 obtain⟨k,hk,rfl,rfl,hb⟩:=hrel;by_cases t:k<n
 case neg=>
  have L:k=n:=om;have K:=O hb;clear hb t;subst L;go_wp2;go_ret;exact⟨rfl,K⟩
 have a:=(HT k t).keep (λq hq=>hb.block q ((HT k t).lt hq).1) λj _=>hb.cell E;have Fo:=NG f t;have M:tw (f k)=(f k).nv+((f k).d.n+(f k).d.m+(f k).d.x)+1:=rfl;have A:KB f s (k+1)=KB f s k+(1+5*(f k).nv+11*(f k).d.n+(f k).d.m+(f k).d.x+3):=rfl;have P:=SS f s k;obtain⟨r,F⟩:=o9<|KB f s k;rw[<-F]at A P a ⊢;have ae:r<=60000000000000:=om;have Q:(f k).nv<=2000000000:=om;have R:(f k).d.n<=2000000000:=om;have S:(f k).d.m<=2000000000:=om;have T:(f k).d.x<=2000000000:=om;have U:=O A;have lb:=A0 E hb.size;have d0:wr.cell? (G b<|k*8)=some (J (r:Int)):=a.c0;rcases a.c1,a.c2,a.c3,a.c4 with⟨d1,d2,d3,d4⟩;obtain⟨x,p⟩:∃x:Nat,x=r+1+5*(f k).nv+11*(f k).d.n+(f k).d.m+(f k).d.x:=⟨_,rfl⟩;have d5:wr.cell? (G b<|k*8+5)=some (J (x:Int)):=by rw[p];exact a.c5
 have d6:wr.cell? (G b<|k*8+6)=some (J<|(x:Int)+1):=by rw[show((x:Int)+1)=((x+1:Nat):Int) by omega,p];exact a.c6
 have d7:wr.cell? (G b<|k*8+7)=some (J<|(x:Int)+1+1):=by rw[show((x:Int)+1+1)=((x+1+1:Nat):Int) by omega,p];exact a.c7
 have af:x<=100000000000000:=om;have HV:Hid<|PR (lY<|r+1) (f k).nv wr (H k).v lo hi:=O a.v;have HL:Hid<|Lr (lX<|r+1+5*(f k).nv) (f k).d.n wr (H k).l lo hi:=O a.l;have HI:Hid<|Iv (λj=>((r+1+5*(f k).nv+11*(f k).d.n+j:Nat):Int)) (f k).d.m wr (H k).i lo hi:=O a.i;have HX:Hid<|Iv (λj=>((r+1+5*(f k).nv+11*(f k).d.n+(f k).d.m+j:Nat):Int)) (f k).d.x wr (H k).x lo hi:=O a.x;have B:Hid<|∀q,(H k).own q->q<wr.heap.size:=O λq hq=>(a.lt hq).1;have K:=O hb;have I:=O p;clear hb a Fo M A F p;go_wp2_with fail;have g:=jI HV Q om;rw[show((r+1:Nat):Int)=(r:Int)+1 by omega]at g;refine g.mono ?_;rintro e w1 ⟨rfl,c⟩;rcases A0 lb c.size,(c.cell lb).trans d2,(c.cell lb).trans d3,(c.cell lb).trans d4,(c.cell lb).trans d5,(c.cell lb).trans d6,(c.cell lb).trans d7 with⟨l1,p2,p3,p4,V,W,X⟩;have n1:¬((r+1+5*(f k).nv:Nat):Int)<0:=om;go_wp2_with fail
 have g:=cB (HL.CH λq e=>c.block q<|B q<|.inr<|.inl e) R om;refine g.mono ?_;rintro e w2 ⟨rfl,h⟩;rcases A0 l1 h.size,(h.cell l1).trans p3,(h.cell l1).trans p4,(h.cell l1).trans V,(h.cell l1).trans W,(h.cell l1).trans X,o8 c h with⟨l2,d3,d4,d5,d6,d7,C⟩;have n2:¬((r+1+5*(f k).nv+11*(f k).d.n:Nat):Int)<0:=om;go_wp2_with fail
 have g:=TS (HI.CH λq e=>C.block q<|B q<|.inr<|.inr<|.inl e) S om;refine g.mono ?_;rintro e w3 ⟨rfl,o⟩;rcases A0 l2 o.size,(o.cell l2).trans d4,(o.cell l2).trans d5,(o.cell l2).trans d6,(o.cell l2).trans d7,o8 C o with⟨l3,p4,V,W,X,D⟩;go_wp2_with fail;have g:=TS (HX.CH λq e=>D.block q<|B q<|.inr<|.inr<|.inr e) T om;rw[<-z I]at g;refine g.mono ?_;rintro e w4 ⟨rfl,u⟩;rcases (u.cell l3).trans V,(u.cell l3).trans W,(u.cell l3).trans X,o8 K (D.trans<|u.mono D.size) with⟨d5,d6,d7,Z⟩;go_wp2;go_roundw
 .refine⟨k+1,om,ov,?_,Z⟩;rw[z U];have:=z I;congr 1;omega
 exact ow
def P4{a:Option Addr}cap g{f}{w}(hA:FA w a n f)(r:FA w a' n f)(hn:n<=1048576):
  C9 112 #[.slice a n cap,.slice a' n g] w (R9 (.bool true) w):=by
 have t:=O hA;have u:=O r;clear hA r;go_enter func112,ntmps112;go_wp2;go_loopw [5] (λi wr=>∃(k:Nat),k<=n/\i=J k/\B9 w wr) λi _=>n-(intOf i).toNat
 .exact⟨0,om,rfl,BE _ _⟩
 obtain⟨k,hk,rfl,hb⟩:=hrel;by_cases j:k<n
 .obtain⟨b,off,rfl,l,hcs⟩:=t.resolve_left om;obtain⟨b',s,rfl,c,d⟩:=u.resolve_left om;rcases (hcs k j).keep (λq=>hb.cell l),(d k j).keep λq=>hb.cell c,A0 l hb.size,A0 c hb.size,O hb with⟨⟨e0,e1,e2,e3,v⟩,⟨d0,d1,d2,d3,d4⟩,A,x,m⟩;clear hb hcs d;go_wp2_with fail;refine qr wr ?_;(iterate 8 refine N (h:=?_));refine GC λK hK=>?_;go_simp;refine⟨_,λw' p=>qk p<|EB (f k).kind (f k).num (f k).Af (f k).str (f k).ref _,hK _ ?_⟩;clear hK K;refine N (h:=?_);refine GS ?_;intro w2 o;have e:=O<|o8 m o;clear o e0 e1 e2 e3 v d0 d1 d2 d3 d4;go_wp2;go_roundw
  .exact⟨k+1,om,ov,e⟩
  exact ow
 have:k=n:=om;subst this;have e:=O hb;clear hb;go_wp2;go_ret;exact⟨rfl,e⟩
def Tz s w:
  C9 66 #[SV s,SV s] w (R9 (.bool true) w):=by
 go_enter func66,ntmps66;go_wp2;go_ret;exact⟨rfl,(n9).alloc oq _⟩
def RU{a:Option Addr}cap g{f}{w}(hA:FX w a n f)(r:FX w a' n f)(hn:n<=1048576):
  C9 33 #[.slice a n cap,.slice a' n g] w (R9 (.bool true) w):=by
 have t:=O hA;have u:=O r;clear hA r;go_enter func33,ntmps33;go_wp2;go_loopw [5] (λi wr=>∃(k:Nat),k<=n/\i=J k/\B9 w wr) λi _=>n-(intOf i).toNat
 .exact⟨0,om,rfl,BE _ _⟩
 obtain⟨k,hk,rfl,hb⟩:=hrel;by_cases j:k<n
 .obtain⟨b,off,rfl,l,hcs⟩:=t.resolve_left om;obtain⟨b',s,rfl,c,d⟩:=u.resolve_left om;rcases (hcs k j).keep (λq=>hb.cell l),(d k j).keep λq=>hb.cell c,A0 l hb.size,A0 c hb.size,O hb with⟨⟨e0,e1,e2,e3,v⟩,⟨d0,d1,d2,d3,d4⟩,A,x,m⟩;clear hb hcs d;go_wp2_with fail;refine qr wr ?_;(iterate 8 refine N (h:=?_));refine GC λK hK=>?_;go_simp;refine⟨_,λw' p=>qk p<|Tz (f k) _,hK _ ?_⟩;clear hK K;refine N (h:=?_);refine GS ?_;intro w2 o;have e:=O<|o8 m o;clear o e0 e1 e2 e3 v d0 d1 d2 d3 d4;go_wp2;go_roundw
  .exact⟨k+1,om,ov,e⟩
  exact ow
 have:k=n:=om;subst this;have e:=O hb;clear hb;go_wp2;go_ret;exact⟨rfl,e⟩
def RV{va e f ia g xa h:Option Addr}vc i lc j ic k xc l t{w}(B:FA w va t.nv t.V)(o:FA w e t.nv t.V)(hA:Ea w la ia xa t.d)(C:Ea w f g h t.d)(hn:t.nv<=1048576)(D:Small t.d):
  C9 65 #[TV va vc la lc ia ic xa xc t,TV e i f j g k h l t] w (R9 (.bool true) w):=by
 rcases O B,O o,O hA,O C,O D with⟨E,r,F,H,I⟩;clear B o hA C D;have p:B9 w<|(w.alloc<|.cells #[J t.shape,.slice va t.nv vc,.slice la t.d.n lc,.slice ia t.d.m ic,.slice xa t.d.x xc,J t.d.used,J t.d.live,J t.d.turns] 105).alloc<|.cells #[J t.shape,.slice e t.nv i,.slice f t.d.n j,.slice g t.d.m k,.slice h t.d.x l,J t.d.used,J t.d.live,J t.d.turns] 105:=(n9).alloc oq _;have a:=O p;clear p;go_enter func65,ntmps65;go_wp2_with fail;refine m9 (P4 vc i (E.below a rfl) (r.below a rfl) hn) λw1 b=>?_;obtain⟨s,u⟩:=AM b;have v:=b.size;simp at v;have K:w.heap.size<w1.heap.size:=om;have L:w.heap.size+1<w1.heap.size:=om;have c:=O<|o8 a b;clear b;go_wp2_with fail;refine m9 (Tu lc j ic k xc l (F.below c) (H.below c) I) λw2 q=>?_;have A:=O<|o8 c q;clear q s u;go_wp2;go_ret;exact⟨rfl,A⟩
def P3{a:Option Addr}cap o{f}{w}(hA:RH w a n f)(B:RH w a' n f)(hn:n<=1048576)(hs:∀i,i<n->(f i).nv<=1048576/\Small (f i).d):
  C9 32 #[.slice a n cap,.slice a' n o] w (R9 (.bool true) w):=by
 rcases O hA,O B,O hs with⟨H,I,C⟩;clear hA B hs;go_enter func32,ntmps32;go_wp2;go_loopw [5] (λi wr=>∃(k:Nat),k<=n/\i=J k/\B9 w wr) λi _=>n-(intOf i).toNat
 .exact⟨0,om,rfl,BE _ _⟩
 obtain⟨k,hk,rfl,hb⟩:=hrel;by_cases e:k<n
 .obtain⟨b,off,rfl,p,hcs⟩:=H.resolve_left om;obtain⟨b',D,rfl,j,l⟩:=I.resolve_left om;obtain⟨va,vc,la,lc,ia,ic,xa,xc,hc,E,F⟩:=(hcs k e).below hb p;obtain⟨L,t,M,u,P,v,Q,x,A,hv',q⟩:=(l k e).below hb j;obtain⟨e0,e1,e2,e3,R,S,T,U⟩:=hc;obtain⟨d0,d1,d2,d3,d4,d5,d6,d7⟩:=A;rcases O (qj E<|qj hv'<|qj F q),A0 p hb.size,A0 j hb.size,O hb with⟨g,W,V,r⟩;clear hb hcs l E hv' F q;go_wp2_with fail;refine qr wr ?_;(iterate 8 refine N (h:=?_));refine GC λK hK=>?_;go_simp;refine⟨_,λw' c=>qk c<|RV vc t lc u ic v xc x (f k) (g.1.below c rfl) (g.2.1.below c rfl) (g.2.2.1.below c) (g.2.2.2.below c) (C k e).1 (C k e).2,hK _ ?_⟩;clear hK K;refine N (h:=?_);refine GS ?_;intro w2 s;have m:=O<|o8 r s;clear s e0 e1 e2 e3 R S T U d0 d1 d2 d3 d4 d5 d6 d7;go_wp2;go_roundw
  .exact⟨k+1,om,ov,m⟩
  exact ow
 have:k=n:=om;subst this;have m:=O hb;clear hb;go_wp2;go_ret;exact⟨rfl,m⟩
structure Ou (lo H:Nat) (w w':Y):Prop where
 os:w'.os=w.os
 tape:w'.tape=w.tape
 output:w'.output=w.output
 size:w.heap.size<=w'.heap.size
 block:∀k,k<w.heap.size->(k<lo\/H<=k)->w'.heap[k]?=w.heap[k]?
theorem Ou.trans{u v}(h:Ou lo H u v)(k:Ou lo H v w):Ou lo H u w:=
 ⟨k.os.trans h.os,k.tape.trans h.tape,k.output.trans h.output,GP h.size k.size,λi hi hn=>(k.block i (A0 hi h.size) hn).trans<|h.block i hi hn⟩
def Ou.below(h:Ou lo H w w')(hl:lo<=w.heap.size):Below lo w w':=⟨h.os,h.tape,h.output,h.size,λk hk=>h.block k om<|.inl hk⟩
def Qm{m tb}{s}(l:IP B H w m tb j s)(hs:Ey s)(M:H<=w.heap.size):
  C9 12 #[PY (some<|G m 0) s.nf (some<|G tb 0) s.nt (some<|G j 0) s.ns s,J 1] w λe w'=>(∃r:Nat,e=.returned (J (r:Int)))/\Ou B H w w':=by
 obtain⟨W,K,d,_,o0⟩:=JQ w<|.cells #[S9 m s.nf s.nf,S9 tb s.nt s.nt,S9 j s.ns s.ns] 42;have L:w.heap.size<W.heap.size:=by rw[K];simp
 rcases v3 o0,l.bm,l.mt,l.ts,l.sh,hs.f.1,hs.t,hs.n,l.below d with⟨⟨_,x1,x2⟩,h1,h2,h3,h4,hf,P,hn,o⟩;go_enter func12,ntmps12;go_wp2_with fail;rw[<-K];refine(OT s.nf o.fo hf).mono ?_;rintro e w1 ⟨rfl,b⟩;have v:=A0 L b.size;have p:=b.block w.heap.size L om;have X:=(As (a:=y w 1) p).trans x1;have Q:=(As (a:=y w 2) p).trans x2;have u:=b.block tb o.ta.lt om;have x:∀i,i<s.nt->∃R S s1 s2,sW tb H w1 (i*8) (s.T i) R S s1 s2:=λi hi=>Eb.mk<|(o.tr i hi).keep (Be _) (λq hq _ A=>b.block q A om) λq _=>As u;have C:IK w1 tb 105<|s.nt*8:=by obtain⟨⟨g,r⟩,_⟩:=o.ta;exact⟨g,GW r u⟩
 have D:IK w1 j 107<|s.ns*5:=by obtain⟨⟨g,r⟩,_⟩:=o.si;exact⟨g,GW r<|b.block j (H8 r) om⟩
 have E:Hid<|Ou B H w w1:=O ⟨b.os.trans d.os,b.tape.trans d.tape,b.output.trans d.output,om,λk hk hn=>(b.block k om om).trans<|d.block k hk⟩;go_wp2_with fail;have hA:=OY s.nt H (1+3*s.nf) C om (z<|O x) P om;rw[show((1+3*s.nf:Nat):Int)=1+3*(s.nf:Int) by omega]at hA;refine hA.mono ?_;rintro e w2 ⟨⟨r,rfl,Z⟩,c⟩;have U:=(As (a:=y w 2)<|c.block w.heap.size v<|.inr M).trans Q;have F:=E.trans ⟨c.os,c.tape,c.output,c.size,λk hk hn=>c.block k hk om⟩;obtain⟨gs,rs⟩:=c.rows _ _ _ D;have V:r<=20000000:=om;go_wp2_with fail
 refine(Ql j s.ns s.ns (s.ns*5) r gs w2 rs (Be _) om om).mono ?_;rintro e w3 ⟨⟨rfl,g3,r3⟩,h⟩;have I:=F.trans ⟨h.os,h.tape,h.output,h.size,λk hk hn=>h.block k hk om⟩;go_wp2;go_ret;exact⟨⟨r+5*s.ns,oq⟩,I⟩
end Go.Proofs.YtoobllcjfinmoaaGreatDoor
