import Derived.Test.YtoobllcjfinmoaaGreatDoorSDAE
set_option linter.all false
set_option maxHeartbeats 40000000
set_option maxRecDepth 100000
namespace Go.Proofs.YtoobllcjfinmoaaGreatDoor
open Go.Proofs.Tryz
open Go.RowKit
attribute [local go_sem] Aw Ar Dd
variable {c d:Dc}{n bk R2 a i n0 k b b' x j lo hi B Z H o s B0:Nat}{v r0 r1 v0 v1 v2 u vN vT vS vU:V9}{K:Vl->Prop}{hf:Vl->Nat}{E S:Nat->Nat}{w W W' w3 w' wr:Y}{f:Nat->Int}{p:Pr}{T:World->Prop}{t:Tb}{g:Nat->Value}{A:Nat->Ad}{la a':Option Addr}
def kP{v}:∀(f a),probe {c with n:=n} v a f=probe c v a f:=by
 intro f
 induction f with
 |zero=>intro a;rfl
 |succ f ih=>intro a;unfold probe;rw[ih]
def fO c n v a:AM {c with n:=n} v a=AM c v a:=by
 unfold AM;show _=_;simp only[kP]
def D4.cut(h:BK K hf c)(hn:c.n=n+1)(hs:Ay c.m (c.L n).key):D4 {c with n:=n}:=by
 obtain⟨h1,h2,h3,h4⟩:=h.d4;refine⟨h1,λj hj=>?_,?_,?_⟩
 .rcases h.idx.range j hj with e|e|⟨e1,e2,e3,a⟩
  .exact .inl e
  .exact .inr (.inl e)
  have b:(c.X j-1).toNat≠n:=λe=>a (by rw[e];exact hs);exact .inr<|.inr ⟨e1,by show c.X j<=(n:Int);omega,e3,a⟩
 all_goals grind [Ay,D4,FD]
def aV(bk R2 x s b e:Nat)(W:Y):Prop:=W.cell? (G bk 3)=some (S9 R2 x x)/\W.cell? (G R2 s)=some (Q9 b)/\W.cell? (G b 5)=some (Q9 e)
def Jd s{w}(a:AG w bk r0 r1 R2 E S d)(c:Small d)(hs:s<d.x):
  C9 213 #[.pointer (some<|G bk 2),J s] w λe w'=>((∃u,e=.returned u)/\∃S',AG w' bk r0 r1 R2 E S' {d with X:=AV d.X s (-1)})/\KX (λb=>b=R2) bk w w':=by
 rcases c.x,a.lt,a.c3,a.M0 with⟨m,i,c3,f⟩;have j:=f.2;obtain⟨g,o,e,_,_,_,hc,hf⟩:=a.slots.form om;cases e;have d0:=hc s hs;have f0:=hf s;have k:=O<|a.UM hs (x:=-1) oo ⟨λh=>om,λ_=>rfl⟩;have l:Hid<|KX (λb=>b=R2) bk w<|(w.setCell (G R2 s)<|Q9 w.heap.size).alloc<|.cells T0 306:=O<|KX.alloc (n:=bk) (A:=w) ((KX.refl (λb=>b=R2) _ _).setCell om (λ_=>rfl) _) om _;clear a c hc hf f;go_enter func213,ntmps213;go_wp2;go_end0;exact⟨⟨⟨_,rfl⟩,_,k⟩,l⟩
structure aJ (K:Vl->Prop) (hf:Vl->Nat) (w:Y) (bk:Nat) (r0 r1:V9) (R2:Nat) (E:Nat->Nat) (d D1:Dc) (c:Dc) (f:Nat) (a:V9) (S:Nat->Nat) (W:Y):Prop where
 inv:BK K hf c
 n:c.n=d.n+1
 L:c.L=d.L
 x:c.x=d.x
 m:d.m+1<=c.m
 pos:FQ c.X c.x<f
 mv:CY hf f c=CY hf (d.x+1) D1
 sum:c.m+FQ c.X c.x<=d.m+1+d.x
 bm:AG W bk r0 a R2 E S {c with n:=d.n}
 kx:KX (λb=>b=bk\/r1.ownBlock=some b\/b=R2) bk w W
 row:∀b,a.ownBlock=some b->r1.ownBlock=some b\/w.heap.size<=b
def aJ.below{D1}{f}{a}(h:aJ K hf w bk r0 r1 R2 E d D1 c f a S W)(hb:B9 W W')(b:bk<w.heap.size):aJ K hf w bk r0 r1 R2 E d D1 c f a S W':=
 ⟨h.inv,h.n,h.L,h.x,h.m,h.pos,h.mv,h.sum,h.bm.below hb,h.kx.trans<|KX.Ax hb<|oS h.bm.lt,h.row⟩
def aJ.step(p:KeyLaw K hf){w}{bk}{r0 r1}{R2}{E}{d D1 c}{f}{a g}{S S'}{W k j}{s}(h:aJ K hf w bk r0 r1 R2 E d D1 c f a S W)(e:AM c (Dx<|(c.m:Int)+1) (hf<|Dx<|(c.m:Int)+1)=some s)
  (k1:KX (λb=>b=bk\/a.ownBlock=some b) bk W k) (u:∀b,g.ownBlock=some b->a.ownBlock=some b\/W.heap.size<=b) (k2:KX (λb=>b=R2) bk k j) (q:AG j bk r0 g R2 E S' {c with m:=c.m+1,I:=AV c.I c.m (c.X s),X:=AV c.X s (-1),n:=d.n}) (r:bk<w.heap.size):∃f',aJ K hf w bk r0 r1 R2 E d D1 (DI c s) f' g S' j:=by
 obtain⟨s1,s2,v,A⟩:=h.inv.slot e;obtain⟨f',rfl⟩:∃f',f=f'+1:=⟨f-1,oS h.pos⟩;have hp:=KD s2 c.x;rw[C3 s1]at hp;rcases h.pos,h.sum,h.m,h.kx.C7.size,k1.C7.size with⟨l,o,B,hz,t⟩;refine⟨f',Mh p h.inv e,h.n,h.L,h.x,by show d.m+1<=c.m+1;omega,by show FQ (AV c.X s (-1)) c.x<f';omega,by rw[<-h.mv,Gl e],by show c.m+1+FQ (AV c.X s (-1)) c.x<=_;omega,q,⟨h.kx.C7.trans<|k1.C7.trans k2.C7,λb hb i=>?_⟩,λb hb=>?_⟩
 .refine(k2.BB b om λe=>i<|.inr<|.inr e).trans ((k1.BB b om λe=>?_).trans<|h.kx.BB b hb i);grind [AM,Dx,AV,DI,aJ.row,AG.row]
 grind [AM,Dx,AV,DI,aJ.row,AG.row]
def Ot(T)(b0:Ev T)(hf)(K)(KL:KeyLaw K hf)(b1:∀v,K v->Qi T v (hf v))(bk)(b2:∀w w',T w->Below bk w w'->T w')(r0 r1)(R2)(E S)(d)(w)(hT:T w)(hM:AG w bk r0 r1 R2 E S d)(hS:Small d)(cg:d.m<=4000000)
  (b3:(d.L d.n).key.kind=2) (DB:(d.L d.n).key.num=(d.m:Int)+1) (hI:BK K hf {d with n:=d.n+1,m:=d.m+1,I:=AV d.I d.m ((d.n:Int)+1)}):
  C9 217 #[.pointer (some<|G bk 0),.pointer (some<|G (E d.n) 0)] w λe w'=>((∃u,e=.returned u)/\∃b4 S',AG w' bk r0 b4 R2 E S' {CY hf (d.x+1) {d with n:=d.n+1,m:=d.m+1,I:=AV d.I d.m ((d.n:Int)+1)}with n:=d.n})/\KX (λb=>b=bk\/r1.ownBlock=some b\/b=R2) bk w w':=by
 obtain⟨i0,a6,a7,a8,bb⟩:=ON JH;obtain⟨D1,C⟩:∃D1:Dc,D1={d with n:=d.n+1,m:=d.m+1,I:=AV d.I d.m ((d.n:Int)+1)}:=⟨_,rfl⟩;rw[<-C]at hI ⊢;have ch:d.x<=4000:=by
  have:=hI.sz;rw[C]at this;rcases this with h|h
  .have h:d.x=0:=h;omega
  exact h.2.1
 obtain⟨Q1,q1,rfl⟩:=hM.rf;rcases hM.lt,hM.c1,hM.fz 1,O hM.ints,(hM.ints.lt Q1 rfl).1 with⟨ar,c1,f1,bg,cj⟩;have aw:∀(W:Y) (c:Dc) (f:Nat) (Q:V9) (S':Nat->Nat),aJ K hf w bk r0 (.slice (some<|G Q1 0) d.m q1) R2 E d D1 c f Q S' W->(∀w',B9 W w'->C9 216 #[.pointer (some<|G bk 0)] w' λe bc=>e=.returned (V 2 ((c.m:Int)+1) 0 ⟨#[]⟩ 0)/\B9 w' bc)/\
   (∀w',B9 W w'->C9 207 #[.pointer (some<|G bk 2),V 2 ((c.m:Int)+1) 0 ⟨#[]⟩ 0] w' λe bc=>e=.returned (J<|FL<|AM c (Dx<|(c.m:Int)+1)<|hf<|Dx<|(c.m:Int)+1)/\B9 w' bc):=λW c f Q S' h=>by
  have bh:Small {c with n:=d.n}:=⟨hS.n,by show c.m<=_;have:=h.sum;omega,by show c.x<=_;rw[h.x];omega⟩;refine⟨λw' j=>?_,λw' j=>?_⟩
  .obtain⟨R0,D,hB⟩:=(h.bm.below j).book;exact Jh bk R0 D R2 E S' {c with n:=d.n} w' hB bh
  obtain⟨R0,D,hB⟩:=(h.bm.below j).book;have h4:=D4.cut h.inv h.n ⟨by rw[h.L];exact b3,by rw[h.L,DB];omega,by rw[h.L,DB];have:=h.m;omega⟩;have:=OJ T b0 bk R0 D R2 E S' {c with n:=d.n} (Dx<|(c.m:Int)+1) (hf<|Dx<|(c.m:Int)+1) (b1 _<|KL.own _) w' (b2 _ _ hT<|h.kx.C7.trans<|j.mono<|oS h.bm.lt) hB bh h4;rw[fO]at this;exact this
 have t:=O aw;have START:∀(o:Obj) (g3 g:Nat) (w3:Y),w3.ownsRow (bk+1) Dw 1 (.slice (some<|G g3 0) (d.m+1) g) (d.m+1) (Gr (λi=>Cq E<|d.I i) d.m++[.pointer (some (G (E d.n) 0))])->(w.alloc o).grownBy w3 (Value.slice (some<|G Q1 0) d.m q1).ownBlock->((Value.slice (some<|G Q1 0) d.m q1).ownBlock=some g3\/g3=w.heap.size+1)->
   w3.cell? (G bk 1)=some (.slice (some<|G Q1 0) d.m q1)/\w3.frozen? (G bk 1)=false/\bk<w3.heap.size/\aJ K hf w bk r0 (.slice (some<|G Q1 0) d.m q1) R2 E d D1 D1 (d.x+1) (.slice (some<|G g3 0) (d.m+1) g) S (w3.setCell (G bk 1)<|.slice (some<|G g3 0) (d.m+1) g):=λo g3 g w3 h1 h2 h3=>by
  have hn:(Value.slice (some<|G Q1 0) d.m q1).ownBlock≠some bk:=λe=>by
   have e':Q1=bk:=oF e;omega
  have hb:=(h2.block bk ot λe=>hn e.symm).trans<|DO _ _ _ ar;obtain⟨p1,p2⟩:=hM.mE ((BE _ _).alloc (Be _) o) (o:=o) (x:=(d.n:Int)+1) (by unfold Cq;rw[C3 om,show((d.n:Int)+1-1).toNat=d.n by omega]) h1 h2 (by rcases h3 with h3|h3;exact .inl h3;exact .inr om);have hz:w.heap.size+1<=w3.heap.size:=by have:=h2.size;simpa using this
  refine⟨(As (a:=G bk 1) hb).trans c1,(It (a:=G bk 1) hb).trans f1,om,hI,by rw[C],by rw[C],by rw[C],by rw[C];exact Be _,?_,rfl,?_,?_,p2.mono λb _ e=>e.elim .inl λe=>.inr<|.inl e,λb e=>?_⟩
  .rw[C];have:=N1 d.X d.x;show FQ d.X d.x<d.x+1;omega
  .rw[C];have:=N1 d.X d.x;show d.m+1+FQ d.X d.x<=d.m+1+d.x;omega
  .rw[C];exact p1
  rcases h3 with h3|h3
  .have e':g3=b:=oF e;rw[<-e'];exact .inl h3
  have e':g3=b:=oF e;exact .inr om
 have aq:=O START;clear hM hT START aw hI C;go_enter func217,ntmps217;go_wp2_with (at_builtin;refine So _ rfl _ _ 296 rfl (bk+1) Dw i0 (.pointer none) 1 8 underlying296 a6 a7 a8 bb rfl oo (.slice (some<|G Q1 0) d.m q1) d.m (Gr (λi=>Cq E<|d.I i) d.m) rfl (PC bg _) (y w 0) 1 1 [.pointer (some (G (E d.n) 0))] rfl rfl (ID<|DD _ _) oh oo od om ot (w.heap.size+1) oq ?_;intro g3 g w3 k A l ah;obtain⟨x3,f3,l3,bj⟩:=z aq _ g3 g w3 k A l;have F:=O bj;clear k A l bj);generalize hW:w3.setCell (G bk 1) (.slice (some<|G g3 0) (d.m+1) g)=W at*;have b5:bk<W.heap.size:=by rw[<-hW];simpa using l3
 have M:=O<|(t _ _ _ _ _ F).1;have P:=O<|(t _ _ _ _ _ F).2;clear hW x3 f3 l3 c1 f1 ah;refine qr W ?_;(iterate 4 refine N (h:=?_));refine GC λK hK=>?_;go_simp;refine⟨_,λw' j=>qk j<|M _ j,hK _ ?_⟩;clear hK K;refine GC λK hK=>?_;go_simp;refine⟨_,λw' j=>qk j<|P _ j,hK _ ?_⟩;clear hK K;refine N (h:=?_);refine GS ?_;intro w4 bn;have bp:=F.below bn ar;clear bn M P F b5;go_wp2_with fail;go_loopw [4] (λi wr=>∃(c:Dc) (f:Nat) (Q:V9) (S':Nat->Nat),i=J (FL<|AM c (Dx<|(c.m:Int)+1)<|hf<|Dx<|(c.m:Int)+1)/\aJ K hf w bk r0 (.slice (some<|G Q1 0) d.m q1) R2 E d D1 c f Q S' wr) λ_ wr=>d.m+2+d.x-Sy wr bk 1
 .exact⟨D1,d.x+1,_,S,rfl,bp⟩
 clear bp;obtain⟨c,f,Q,S',rfl,hN⟩:=hrel;cases au:AM c (Dx<|(c.m:Int)+1) (hf<|Dx<|(c.m:Int)+1)with
 |none=>
  have HR:Hid<|{CY hf (d.x+1) D1 with n:=d.n}={c with n:=d.n}:=O (by rw[<-hN.mv,Gk au]);clear au;rw[show FL none=-1 from rfl];go_wp2;go_end0;exact⟨⟨⟨_,rfl⟩,Q,S',by rw[z HR];exact hN.bm⟩,hN.kx⟩
 |some s=>
  obtain⟨s1,s2,s3,s4⟩:=hN.inv.slot au;obtain⟨D,k1,e1⟩:=hN.bm.rf;have e1:Q=.slice (some<|G D 0) c.m k1:=e1;subst e1;have r:=hN.bm;have bq:=r.c1;have b6:=r.fz 1;have bd:wr.cell? (G bk 3)=some (.slice (some<|G R2 0) c.x c.x):=r.c3;rcases r.lt,NT bq,r.ints.lt D rfl,r.M0 with⟨av,az,b7,br⟩;obtain⟨_,_,es,_,_,_,bt,_⟩:=r.slots.form (by show 0<c.x;omega);cases es;rcases (bt s s1).trans (by show some (Value.pointer<|Dy S' s<|c.X s)=_;rw[show Dy S' s (c.X s)=some (G (S' s) 0)from Cs om]),(r.sl s s1).1 s2,o9 ((c.X s-1).toNat) with⟨p0,ax,⟨q,hq⟩⟩;have ad:Hf wr (S' s) (c.L q).key<|E q:=by rw[hq];exact ax
  have p5:=ad.pt;have bf:=ad.lt;rcases r.sg s s1 (by show c.X s≠0;omega),r.ints.block (b:=D) rfl,r.slots.block (b:=R2) rfl with⟨ck,⟨cl,ai⟩,⟨cm,ay⟩⟩;have n1:D≠R2:=λe=>Bl (e▸ai) ay oo;have n2:D≠S' s:=λe=>Bl (e▸ai) ad.ob oo;rcases br.2,hN.sum,hN.x with⟨aj,cd,b8⟩;have bu:Rw wr.drew (bk+1) Dw (.slice (some<|G D 0) c.m k1) c.m λi=>Cq E<|c.I i:=CL r.ints λ_ _=>rfl;have R:aV bk R2 c.x s (S' s) (E q) wr.drew:=⟨bd,p0,p5⟩;have ae:Hid (∀(o:Obj) (g3 g:Nat) (w3:Y),w3.ownsRow (bk+1) Dw 1 (.slice (some<|G g3 0) (c.m+1) g) (c.m+1) (Gr (λi=>Cq E<|c.I i) c.m++[.pointer (some (G (E q) 0))])->(wr.drew.alloc o).grownBy w3 (Value.slice (some<|G D 0) c.m k1).ownBlock->((Value.slice (some<|G D 0) c.m k1).ownBlock=some g3\/g3=(wr.drew.alloc o).heap.size)->
    aV bk R2 c.x s (S' s) (E q) w3/\w3.cell? (G bk 1)=some (.slice (some (G D 0)) c.m k1)/\w3.frozen? (G bk 1)=false/\bk<w3.heap.size/\(AG (w3.setCell (G bk 1) (.slice (some (G g3 0)) (c.m+1) g)) bk r0 (.slice (some (G g3 0)) (c.m+1) g) R2 E S' {c with n:=d.n,m:=c.m+1,I:=AV c.I c.m (c.X s)}/\KX (λb=>b=bk\/(Value.slice (some (G D 0)) c.m k1).ownBlock=some b) bk wr (w3.setCell (G bk 1) (.slice (some (G g3 0)) (c.m+1) g))/\∀b,(Value.slice (some (G g3 0)) (c.m+1) g).ownBlock=some b->(Value.slice (some (G D 0)) c.m k1).ownBlock=some b\/wr.heap.size<=b)):=O (λo g3 g w3 h1 h2 h3=>by
   have hB:∀b,b<wr.heap.size->D≠b->w3.heap[b]?=wr.heap[b]?:=λb hb b9=>(h2.block b ot (λe=>b9 (by
    have e':b=D:=oF e;exact e'.symm))).trans (DO _ _ _ hb)
   have hz:wr.heap.size+1<=w3.heap.size:=by have:=h2.size;simpa using this
   obtain⟨p1,p2⟩:=r.mE ((BE _ _).drew.alloc (Be _) o) (o:=o) (x:=c.X s) (a:=some<|G (E q) 0) (by unfold Cq;rw[C3 s2,hq]) h1 h2 (by rcases h3 with h3|h3;exact .inl h3;exact .inr<|by rw[h3];simp);refine⟨⟨(As (a:=G bk 3)<|hB bk av om).trans bd,(As (a:=G R2 s)<|hB R2 aj n1).trans p0,(As (a:=G (S' s) 5)<|hB _ bf n2).trans p5⟩,(As (a:=G bk 1)<|hB bk av om).trans bq,(It (a:=G bk 1)<|hB bk av om).trans b6,om,p1,p2,λb e=>?_⟩;have e':g3=b:=oF e;rcases h3 with h3|h3
   .rw[<-e'];exact .inl h3
   exact .inr (by rw[<-e',h3];simp))
  have af:Hid (∀(g3 g:Nat) (w3:Y),(AG (w3.setCell (G bk 1)<|.slice (some<|G g3 0) (c.m+1) g) bk r0 (.slice (some<|G g3 0) (c.m+1) g) R2 E S' {c with n:=d.n,m:=c.m+1,I:=AV c.I c.m (c.X s)}/\KX (λb=>b=bk\/(Value.slice (some<|G D 0) c.m k1).ownBlock=some b) bk wr (w3.setCell (G bk 1)<|.slice (some<|G g3 0) (c.m+1) g)/\∀b,(Value.slice (some<|G g3 0) (c.m+1) g).ownBlock=some b->(Value.slice (some<|G D 0) c.m k1).ownBlock=some b\/wr.heap.size<=b)->
    C9 213 #[.pointer (some (G bk 2)),J (s:Int)] (w3.setCell (G bk 1) (.slice (some (G g3 0)) (c.m+1) g)) λe w6=>(∃u,e=.returned u)/\∃f6 S6,aJ K hf w bk r0 (.slice (some (G Q1 0)) d.m q1) R2 E d D1 (DI c s) f6 (.slice (some (G g3 0)) (c.m+1) g) S6 w6/\Sy w6 bk 1=c.m+1):=O (λg3 g w3 h=>by
   refine(Jd s h.1 ⟨hS.n,by show c.m+1<=_;omega,by show c.x<=_;omega⟩ s1).mono ?_;rintro e w6 ⟨⟨hu,S6,bw⟩,ca⟩;obtain⟨f6,cb⟩:=hN.step KL au h.2.1 h.2.2 ca bw ar;exact⟨hu,f6,S6,cb,NT bw.c1⟩)
  clear r au bt ax ad hq s2 s3 s4 b7 br ai ay p0 p5 bd b8;rw[show FL (some s)=(s:Int)from rfl];go_wp2_with fail;refine GH (aV bk R2 c.x s (S' s)<|E q) ?_;refine tz 0 (h:=tz 1 (h:=tz 2 (h:=tz 3 (h:=tz 5 (h:=tz 6 (h:=tz 7 (h:=tz 8 (h:=tz 9 (h:=tz 10 (h:=tz 11 (h:=tz 12 (h:=?_))))))))))));refine tz 13 (h:=tz 14 (h:=tz 15 (h:=?_)));refine TO (rs:=[4,16]) ou oq ?_;refine IH rfl (λK hK=>?_) (IH rfl (λK hK=>?_) Tn)
  focus
   go_simp;refine hK.out _ _ R λ_=>?_;clear hK K;refine ry 16 λK hK=>?_;go_simp;refine hK.out _ _ ⟨(BE wr.heap.size wr).drew.alloc (Be _) _ |>.cell (p:=G bk 3) av |>.trans R.1,(BE wr.heap.size wr).drew.alloc (Be _) _ |>.cell (p:=G R2 s) aj |>.trans R.2.1,(BE wr.heap.size wr).drew.alloc (Be _) _ |>.cell (p:=G (S' s) 5) bf |>.trans R.2.2⟩ λbx=>?_;clear hK K;refine ry 17 λK hK=>?_;refine Wx _ rfl (.tmp 33) (.tmp 45) 296 rfl (bk+1) Dw i0 (.pointer none) 1 8 underlying296 a6 a7 a8 bb rfl oo (.slice (some<|G D 0) c.m k1) c.m (Gr (λi=>Cq E<|c.I i) c.m) og (PC bu _) (y wr 0) 1 1 [.pointer (some (G (E q) 0))] og rfl (ID<|DD _ _) oh oo od om ot _ rfl ?_;intro g3 g w3 k A l ah;obtain⟨U,x3,f3,aM,F⟩:=z ae _ g3 g w3 k A l;clear k A l;refine hK.out _ _ U λak=>?_;clear hK K;refine tz 18 (h:=tz 19 (h:=?_));refine ry 20 λK hK=>?_;go_simp;refine hK.out _ _ ?_ (λ_=>?_)
   .obtain⟨a1,a2,a3⟩:=U;exact⟨(Aa oo).trans a1,(Ap om).trans a2,(Ap om).trans a3⟩
   clear hK K;refine FE ?_;go_wp2_with fail;refine(af g3 g w3 F).mono ?_;rintro e w6 ⟨⟨cc,rfl⟩,f6,S6,H,B⟩;rcases O ((t _ _ _ _ _ H).1),O<|(t _ _ _ _ _ H).2,O H with⟨M,P,ao⟩;clear H F x3 f3 U ak;go_wp2_with fail;refine qr w6 ?_;(iterate 4 refine N (h:=?_));refine GC λK hK=>?_;go_simp;refine⟨_,λw' j=>qk j<|M _ j,hK _ ?_⟩;clear hK K;refine GC λK hK=>?_;go_simp;refine⟨_,λw' j=>qk j<|P _ j,hK _ ?_⟩;clear hK K;refine N (h:=?_);refine GS ?_;intro w7 Z;have bz:=ao.below Z ar;have ag:Sy w7 bk 1=c.m+1:=by rw[<-B];unfold Sy;rw[Z.cell (p:=G bk 1) (z ao).bm.lt]
   clear Z M P ao B
  rotate_left
  focus
   go_simp;refine hK.out _ _ ⟨(BE wr.heap.size wr).drew.alloc (Be _) _ |>.cell (p:=G bk 3) av |>.trans R.1,(BE wr.heap.size wr).drew.alloc (Be _) _ |>.cell (p:=G R2 s) aj |>.trans R.2.1,(BE wr.heap.size wr).drew.alloc (Be _) _ |>.cell (p:=G (S' s) 5) bf |>.trans R.2.2⟩ λbx=>?_;clear hK K;refine ry 4 λK hK=>?_;go_simp;refine hK.out _ _ bx λ_=>?_;clear hK K;refine ry 17 λK hK=>?_;refine Wx _ rfl (.tmp 33) (.tmp 45) 296 rfl (bk+1) Dw i0 (.pointer none) 1 8 underlying296 a6 a7 a8 bb rfl oo (.slice (some<|G D 0) c.m k1) c.m (Gr (λi=>Cq E<|c.I i) c.m) og (PC bu _) (y wr 0) 1 1 [.pointer (some (G (E q) 0))] og rfl (ID<|DD _ _) oh oo od om ot _ rfl ?_;intro g3 g w3 k A l ah;obtain⟨U,x3,f3,aM,F⟩:=z ae _ g3 g w3 k A l;clear k A l;refine hK.out _ _ U λak=>?_;clear hK K;refine tz 18 (h:=tz 19 (h:=?_));refine ry 20 λK hK=>?_;go_simp;refine hK.out _ _ ?_ (λ_=>?_)
   .obtain⟨a1,a2,a3⟩:=U;exact⟨(Aa oo).trans a1,(Ap om).trans a2,(Ap om).trans a3⟩
   clear hK K;refine FE ?_;go_wp2_with fail;refine(af g3 g w3 F).mono ?_;rintro e w6 ⟨⟨cc,rfl⟩,f6,S6,H,B⟩;have M:=O<|(t _ _ _ _ _ H).1;have P:=O<|(t _ _ _ _ _ H).2;clear F x3 f3 U ak;go_wp2_with fail;refine qr w6 ?_;(iterate 4 refine N (h:=?_));refine GC λK hK=>?_;go_simp;refine⟨_,λw' j=>qk j<|M _ j,hK _ ?_⟩;clear hK K;refine GC λK hK=>?_;go_simp;refine⟨_,λw' j=>qk j<|P _ j,hK _ ?_⟩;clear hK K;refine N (h:=?_);refine GS ?_;intro w7 Z;have bz:=H.below Z ar;have ag:Sy w7 bk 1=c.m+1:=by rw[<-B];unfold Sy;rw[Z.cell (p:=G bk 1) (z H).bm.lt]
   clear Z M P B H
  all_goals
   go_wp2;go_roundw
   .exact⟨DI c s,f6,_,S6,rfl,bz⟩
   rw[ag,az];omega
section
open Go.RowKit Go.Shelf
attribute [local go_sem] Oper.semAt_some
def Wm d k:(AQ d k).Nodup:=List.Nodup.sublist List.filter_sublist List.nodup_range
theorem Rk(hi:i<d.n)(a:(d.L i).turn≠0):(AQ d d.n)[CC d i]?=some i:=by
 obtain⟨r,b⟩:=Fx (d:=d) (k:=i+1) (n:=d.n) om;grind [AQ,CC,Bp]
def dW(d:Dc)(j:Nat):Int:=if 0<d.X j then(CC d (d.X j-1).toNat:Int)+1 else d.X j
def Dn(d:Dc):Dc:={B8 d with X:=dW d}
def E'(E:Nat->Nat)(d:Dc)(j:Nat):Nat:=E<|(AQ d d.n).getD j 0
def Jv(hi:i<d.n)(a:(d.L i).turn≠0):E' E d (CC d i)=E i:=by
 grind [E',CC,Rk]
def packed{p:Nat}{f:Nat->Nat}(h:AG w bk r0 r1 R2 E S d)(o:w.heap.size<=W.heap.size)(hb:∀b,b<w.heap.size->(∀i,i<d.n->E i≠b)->W.heap[b]?=w.heap[b]?)(ad:bk<n0)
  (hI:∀j,j<d.m->d.I j=0\/(0<d.I j/\d.I j<=d.n/\(d.L (d.I j-1).toNat).turn≠0)) (hX:∀j,j<d.x->0<d.X j->d.X j<=d.n/\(d.L (d.X j-1).toNat).turn≠0)
  (he:∀i,i<d.n->BD W (E i) (d.L i) (f i)) (hf:∀j (hj:j<(AQ d d.n).length),f (AQ d d.n)[j]=j) (F:Rw W n0 Dw v (AQ d d.n).length<|eP E<|AQ d d.n) (ae:w.heap.size<=n0):
  AG (W.setCell (G bk 0) v) bk v r1 R2 (E' E d) S (Dn d):=by
 have hE:∀i,i<d.n->E i≠bk:=λi hi e=>oS<|h.eb i hi;have s:=hb bk h.lt hE;have hc:∀q,W.cell? (G bk q)=w.cell? (G bk q):=λq=>As (a:=G bk q) s;have ob:∀b,b≠bk->(W.setCell (G bk 0) v).heap[b]?=W.heap[b]?:=λb hb=>At _ _ _ _ (by exact hb);have r:∀q,q≠0->(W.setCell (G bk 0) v).cell? (G bk q)=w.cell? (G bk q):=λq hq=>(Aa λe=>hq e.symm).trans<|hc q;have Z:∀{t:TypeId} {c:Array Value} {b:Nat},w.heap[b]?=some (.cells c t (0,0))->t≠303->∀i,i<d.n->E i≠b:=λ{t c b} hb H i hi e=>Bl (e▸(h.CE i hi).ob) hb λe=>H e.symm;have kr:∀{t:TypeId} {u:V9} {n:Nat} {g:Nat->Option Addr},Rw w (bk+1) t u n g->t≠303->Rw (W.setCell (G bk 0) v) (bk+1) t u n g:=λ{t u n g} K H=>CL K (λq e=>by
  have:=K.lt q e;obtain⟨c,hq⟩:=K.block e;exact(ob q om).trans (hb q this.2 (Z hq H)))
 have D:∀j,j<JM d->∃i,i<d.n/\(d.L i).turn≠0/\CC d i=j/\(AQ d d.n)[j]?=some i:=λj hj=>by
  obtain⟨i,h1,h2,h3⟩:=F4 d.n hj;exact⟨i,h1,h2,h3,by rw[<-h3];exact Rk h1 h2⟩
 have eI:∀x:Int,x=0\/(0<x/\x<=d.n/\(d.L (x-1).toNat).turn≠0)->Cq (E' E d) (if 0<x then(CC d (x-1).toNat:Int)+1 else x)=Cq E x:=λx A=>by
  rcases A with rfl|⟨h1,h2,h3⟩
  .rfl
  rw[C3 h1];unfold Cq;rw[C3 h1,C3 om,show((CC d (x-1).toNat:Int)+1-1).toNat=CC d (x-1).toNat by omega,Jv om h3]
 refine⟨by simpa using A0 h.lt o,I9 _ _ _<|by rw[hc,h.c0];rfl,(r 1 oo).trans h.c1,(r 2 oo).trans h.c2,(r 3 oo).trans h.c3,(r 4 oo).trans h.c4,(r 5 oo).trans h.c5,(r 6 oo).trans h.c6,λq=>by rw[OR];exact(It (a:=G bk q) s).trans (h.fz q),?_,?_,h.rf,?_,?_,?_,?_,?_,?_,?_⟩
 .have h1:Rw (W.setCell (G bk 0) v) n0 Dw v (AQ d d.n).length<|eP E<|AQ d d.n:=CL F λq e=>ob q<|oS (F.lt q e).1;exact Eg h1 om
 .refine(kr h.ints oo).congr λj hj=>?_;exact eI (d.I j)<|hI j hj
 .refine(kr h.slots oo).congr λj hj=>?_;show Dy S j (dW d j)=Dy S j (d.X j);unfold Dy dW;by_cases e:0<d.X j
  .rw[C3 e,Cs om,Cs om]
  rw[Cs e]
 .intro q e e';have h1:=(F.lt q e).1;have h2:=(h.ints.lt q e').2;omega
 .intro j hj;obtain⟨i,h1,h2,h3,h4⟩:=D j hj;have M:(Dn d).L j=d.L i:=by
   show Es d j=_;unfold Es;rw[List.getD_eq_getElem?_getD,h4];rfl
  have P:E' E d j=E i:=by rw[<-h3];exact Jv h1 h2
  obtain⟨Q,R⟩:=SO.1 h4;have T:f i=j:=by have:=hf j Q;rwa [R]at this
  rw[M,P];have h5:=he i h1;rw[T]at h5;exact h5.keep oq<|ob _<|oS<|h.eb i h1
 .intro j hj;obtain⟨i,h1,h2,h3,h4⟩:=D j hj;rw[show E' E d j=E i by rw[<-h3];exact Jv h1 h2];exact h.eb i h1
 .intro j j' hj k e;obtain⟨i,h1,h2,h3,h4⟩:=D j hj;obtain⟨i',B,U,V,af⟩:=D j' k;rw[show E' E d j=E i by rw[<-h3];exact Jv h1 h2,show E' E d j'=E i' by rw[<-V];exact Jv B U]at e;have:=h.inj i i' h1 B e;subst this;omega
 .intro j hj;have k:j<d.x:=hj;have hs:=h.sl j k;have hk:∀c,w.heap[S j]?=some (.cells c 306 (0,0))->d.X j≠0->(W.setCell (G bk 0) v).heap[S j]?=w.heap[S j]?:=λc C l=>(ob _<|oS<|h.sg j k l).trans<|hb _ (E1.1 C).1<|Z C oo;unfold DF;show(0<dW d j->Hf _ (S j) ((Dn d).L (dW d j-1).toNat).key (E' E d (dW d j-1).toNat))/\(dW d j<0->QQ _ (S j));by_cases e:0<d.X j
  .have A:dW d j=(CC d (d.X j-1).toNat:Int)+1:=C3 e;obtain⟨g1,g2⟩:=hX j k e;refine⟨λ_=>?_,λl=>om⟩;rw[A,show((CC d (d.X j-1).toNat:Int)+1-1).toNat=CC d (d.X j-1).toNat by omega,Jv om g2,show(Dn d).L (CC d (d.X j-1).toNat)=d.L (d.X j-1).toNat from FH om g2];have h1:=hs.1 e;exact h1.keep (by simpa using o)<|hk _ h1.ob om
  have A:dW d j=d.X j:=Cs e;rw[A];refine⟨λl=>absurd l e,λl=>?_⟩;have h1:=hs.2 l;exact h1.keep (by simpa using o)<|hk _ h1.ob om
 intro j hj l;refine h.sg j hj λe=>l ?_;show dW d j=0;unfold dW;rw[Cs om,e]
def qJ(w u:Y)(bk p n0:Nat)(E:Nat->Nat)(d:Dc)(pre:List<|MC d)(W:Y):Prop:=
 ∃(v:V9) (f:Nat->Nat),W.rowIs p 296 1 (λ_=>v)/\Rw W n0 Dw v pre.length (eP E (pre.map (·.1)))/\(∀i,i<d.n->BD W (E i) (d.L i) (f i))/\((pre.map (·.1)).Nodup->∀j i,(pre.map (·.1))[j]?=some i->f i=j)/\QT p n0 E d.n u W/\Below bk w W
theorem qJ.own w u bk p n0 D E d(hn:n0<=D)(hu:n0<=u.heap.size)(m:bk<=w.heap.size)(hb:bk<=D)(o:∀i,i<d.n->E i<D):OwnFrom D<|qJ w u bk p n0 E d:=by
 rintro pre A B row ⟨v,f,h1,h2,h3,h4,h5,l⟩ g h;have j:∀i,i<d.n->B.heap[E i]?=A.heap[E i]?:=λi hi=>g.block _ (h3 i hi).lt (λe=>by have:=(h _ e.symm).1;have:=o i hi;omega);refine⟨v,f,?_,Rs h2 g h,λi hi=>(h3 i hi).keep g.size<|j i hi,h4,⟨GP h5.size g.size,λb hb hp r=>?_,λi q hi hq=>(As (a:=G (E i) q)<|j i hi).trans<|h5.CE i q hi hq⟩,l.grown g (GP m l.size) λk e=>GP hb (h k e).1⟩
 .obtain⟨c,hb,hc⟩:=h1;exact GW ⟨c,hb,hc⟩<|Ku hb g h
 have hl:=A0 hb<|GP hu h5.size;exact(g.block b hl λe=>oS (h b e.symm).1).trans (h5.block b hb hp r)
def Nb(bp:Ev T)(hf){bk}(ay:∀w w',T w->Below bk w w'->T w'){r0 r1}{R2}{E S}{d}{w:Y}(hT:T w)(hM:AG w bk r0 r1 R2 E S d)(hS:Small d)
  (hH:∀i,i<d.n->(d.L i).turn≠0->Qi T (d.L i).key (hf (d.L i).key)) (Q:JM d<=500)
  (hI:∀j,j<d.m->d.I j=0\/(0<d.I j/\d.I j<=d.n/\(d.L (d.I j-1).toNat).turn≠0)) (hX:∀j,j<d.x->0<d.X j->d.X j<=d.n/\(d.L (d.X j-1).toNat).turn≠0):
  C9 215 #[Q9 bk] w λe w'=>((∃u,e=.returned u)/\∃bq M E2 S',AG w' bk bq r1 M E2 S'<|D6 hf (Dn d) (E3 (CI (Dn d) (Dn d).n).length)<|CI (Dn d) (Dn d).n)/\KX (λb=>b=bk\/∃i,i<d.n/\E i=b) bk w w':=by
 rcases ON JH,hS.n,hM.lt with⟨⟨i0,br,bt,bw,bx⟩,cc,ar⟩;refine(Aab (n:=20)).1 ?_;refine callsIn_of_wp_marks func215 rfl trivial ?_ rfl;simp only[ntmps215,Aas,Aaf,Aaa,Nat.reduceAdd,Nat.reduceSub,Aai,Aah,Aat,Aak,X9,Aar];rcases O hH,O Q,O hT,O hI,O hX with⟨HH,HL,HT,HI,HX⟩;clear hH Q hT hI hX;gi_wp2_with fail;refine⟨trivial,?_⟩;refine(Aab.2<|Ip bk _).mono ?_;rintro e w4 ⟨rfl,rfl⟩;gi_wp2_with fail;obtain⟨u,hu⟩:=o9<|(w.alloc<|.cells #[N9] 296).alloc<|.cells #[Q9 bk] 286;try simp only[World.size_alloc]
 rw[<-hu];have zu:u.heap.size=w.heap.size+1+1:=by rw[hu];simp
 have bu:B9 w u:=by rw[hu];exact(n9).alloc oq _
 have ae:u.cell? (Y9 w 0)=some (Q9 bk):=by rw[hu];simp[go_sem]
 have af:u.rowIs w.heap.size 296 1 λ_=>N9:=by
  have h1:=Aal w #[N9] 296 (λ_=>N9) (λi hi=>by
   have:i=0:=by simpa using hi
   subst this;rfl)
  refine GW h1 ?_;rw[hu];exact DO _ _ _ oq
 clear hu;have az:=hM.below bu;obtain⟨R0,R1,s⟩:=az.book;have ag:=af.cell (i:=0) om;have A:∀i,i<d.n->E i<u.heap.size/\E i≠w.heap.size:=λi hi=>⟨(s.CE i hi).lt,λe=>by
  have:=(s.CE i hi).k0;rw[e,ag]at this;cases this⟩
 have aM:0<d.n->R0<u.heap.size/\R0≠w.heap.size/\∀i,i<d.n->E i≠R0:=λh0=>by
  refine⟨s.l0,λe=>?_,λi hi e=>?_⟩
  .have:=s.r0 0 h0;rw[e,ag]at this;cases this
  have h1:=s.r0 0 h0;have h2:=(s.CE i hi).k0;rw[<-e,h2]at h1;cases h1
 clear ag;refine wpIn_rangeFunc_ownF rfl oo (gf:=233) (lb:=#[Q9 (w.heap.size+1)]) rfl trivial (enters_of func233 ou rfl)
  (Qz 19 oo (w.heap.size+1) w.heap.size u.heap.size s hS aM ae) QT.trans (QT.put (Be _) λi hi=>(A i hi).1) (BE _ _) (λ_=>rfl)
  (qJ w u bk w.heap.size u.heap.size E d)
  (λc pre W=>False)
  (qJ.own w u bk w.heap.size u.heap.size u.heap.size E d (Be _) (Be _) om om λi hi=>(A i hi).1)
  (λc _ _ _ _ h=>h.elim)
  ⟨N9,id,af,NB _ _ _ _,s.CE,λ_ j i h=>by simp at h,QT.refl _ _ _ _ _,bu.mono om⟩
  ?a1 ?assign ?body ?done ?stop
 case assign=>
  intro l x W K hK;gi_wp2;exact hK
 case stop=>
  rintro D c pre W hD cb h hK;exact h.elim
 case body=>
  rintro l pre ⟨i,hi,ht⟩ W ⟨v,f,hp,g,B,P,C,R⟩ Q;obtain⟨va,vc,rfl⟩:=g.slice;rcases (B i hi).ob,(B i hi).pl,(B i hi).lt with⟨a6,cd,bz⟩;have fE:W.frozen? (G (E i) 11)=false:=by simp[World.frozen?,a6]
  rcases hp.cell (i:=0) om,(A i hi).2,C.size,(A i hi).1 with⟨x0,ah,zW,b0⟩;have au:Hid (∀o,((W.setCell (G (E i) 11)<|J (pre.length:Int)).alloc o).ownsRow u.heap.size Dw 1 (.slice va pre.length vc) pre.length (Gr (eP E (pre.map (·.1))) pre.length)):=O λo=>PC (CL g λq e=>At _ _ _ _<|by have:=(g.lt q e).1;show q≠E i;omega) _;have av:Hid (∀(o:Obj) (g3 t:Nat) (w3:Y),w3.ownsRow u.heap.size Dw 1 (S9 g3 (pre.length+1) t) (pre.length+1) (Gr (eP E (pre.map (·.1))) pre.length++[Q9 (E i)])->((W.setCell (G (E i) 11)<|J (pre.length:Int)).alloc o).grownBy w3 (Value.slice va pre.length vc).ownBlock->
    (w3.cell? (y w 0)=some (.slice va pre.length vc)/\w3.frozen? (y w 0)=false)/\KeepsOthers W (w3.setCell (y w 0) (S9 g3 (pre.length+1) t))/\QT w.heap.size u.heap.size E d.n W (w3.setCell (y w 0) (S9 g3 (pre.length+1) t))/\qJ w u bk w.heap.size u.heap.size E d (pre++[⟨i,hi,ht⟩]) (w3.setCell (y w 0) (S9 g3 (pre.length+1) t))):=O (λo g3 t w3 h1 h2=>by
   have U:∀b,b<u.heap.size->(Value.slice va pre.length vc).ownBlock≠some b:=λb hb e=>oS (g.lt b e).1;have hB:∀b,b<u.heap.size->b≠E i->w3.heap[b]?=W.heap[b]?:=λb hb he=>(h2.block b ot λe=>U b hb e.symm).trans<|(DO _ _ _ ot).trans<|At _ _ _ _ (by exact he);have a7:=(h2.block (E i) ot λe=>U _ b0 e.symm).trans<|DO _ _ _ (by simpa using bz);have ai:W.heap.size<=w3.heap.size:=by have:=h2.size;simp at this;omega
   have aj:=hp.of_block<|hB _ om λe=>ah e.symm;have cg:=(World.ownsRow.lt h1 g3 rfl).1;have os:∀b,b≠w.heap.size->(w3.setCell (y w 0)<|S9 g3 (pre.length+1) t).heap[b]?=w3.heap[b]?:=λb hb=>At _ _ _ _ (by exact hb);have b1:=((B i hi).fB pre.length).keep (by simpa using ai)<|(os _ ah).trans a7;have aw:∀j,j<d.n->j≠i->BD (w3.setCell (y w 0)<|S9 g3 (pre.length+1) t) (E j) (d.L j) (f j):=λj hj b2=>(B j hj).keep (by simpa using ai)<|(os _ (A j hj).2).trans<|hB _ (A j hj).1 λe=>b2<|s.inj j i hj hi e;have a8:QT w.heap.size u.heap.size E d.n W<|w3.setCell (y w 0)<|S9 g3 (pre.length+1) t:=⟨by simpa using ai,λb h1 b3 h3=>(os b b3).trans<|hB b h1 λe=>h3 i hi e.symm,λj q hj hq=>by
    by_cases e:j=i
    .subst e;refine(As (a:=G (E j) q)<|(os _ ah).trans a7).trans ?_;exact Aa λe=>hq e.symm
    exact As (a:=(G (E j) q)) ((os _ (A j hj).2).trans (hB _ (A j hj).1 (λe'=>e (s.inj j i hj hi e'))))⟩
   refine⟨⟨aj.cell (i:=0) om,aj.frozen 0⟩,?_,a8,S9 g3 (pre.length+1) t,AV f i pre.length,(aj.set 0 _).congr λq hq=>by simp[show q=0 by omega],?_,λj hj=>?_,λbb j q hq=>?_,C.trans a8,?_⟩
   .have b4:KeepsOthers ((W.setCell (G (E i) 11)<|J (pre.length:Int)).alloc o) w3:=KeepsOthers.of_grownBy h2 (λj o' e ho=>by
     obtain⟨c,hb⟩:=Rw.block g e;have hj:=(g.lt j e);rw[DO _ _ _ (by simpa using hj.2),At _ _ _ _ (by show j≠E i;omega),hb]at ho;cases ho;rfl)
    exact(((Re W _ _).trans<|KeepsOthers.alloc _ _).trans b4).trans (Re _ _ _)
   .have hl:(pre++[⟨i,hi,ht⟩]:List<|MC d).length=pre.length+1:=oq;have e1:Gr (eP E (pre.map (·.1))) pre.length++[Q9 (E i)]=Gr (eP E ((pre++[⟨i,hi,ht⟩]:List<|MC d).map (·.1))) (pre.length+1):=by
     have:=XO E (pre.map (·.1)) i;rw[List.length_map]at this;rw[this,AaC];rfl
    rw[hl];refine CL ?_ (λq e=>os q (by
     have e':g3=q:=oF e;omega))
    rw[e1]at h1;exact h1
   .by_cases e:j=i
    .subst e;rw[Ao];exact b1
    rw[Ai _ _ e];exact aw j hj e
   .rw[AaC]at bb hq;have V:=List.nodup_append.1 bb;by_cases e:j<(pre.map (·.1)).length
    .rw[Aau e]at hq;have ax:q≠i:=λe'=>V.2.2 q (List.mem_of_getElem? hq) i oq e';rw[Ai _ _ ax];exact P V.1 j q hq
    rw[AaI om]at hq;have bc:j-(pre.map (·.1)).length=0:=by
     have h3:=(SO.1 hq).1;simp at h3;simp;omega
    rw[bc]at hq;have b5:i=q:=by simpa using hq
    subst b5;rw[Ao];rw[List.length_map]at e bc;omega
   exact(((R.setCell (by have:=s.CE i hi;have:=hM.eb i hi;show bk<=E i;omega) _).alloc ot _).grown h2 ot (λk e=>oS (g.lt k e).1)).setCell (by show bk<=w.heap.size;omega) _)
  clear g C R hp ae B P a6;gi_wp2_with (gi_at_builtin;refine wpListIn_append_own _ rfl _ _ 296 rfl u.heap.size Dw i0 (.pointer none) 1 8 underlying296 br bt bw bx rfl oo (.slice va pre.length vc) pre.length (Gr (eP E (pre.map (·.1))) pre.length) rfl (au _) (y W 0) 1 1 [Q9 (E i)] rfl rfl (ID<|by rw[show W.heap.size=(W.setCell (G (E i) 11) (J (pre.length:Int))).heap.size by simp];exact DD _ _) oh od om ot ?_;intro v3 w3 F Z _;obtain⟨g3,t,rfl,_,_⟩:=World.ownsRow.form F om;obtain⟨⟨x3,f3⟩,b6⟩:=z av _ g3 t w3 F Z;clear F Z);exact b6
 case done=>
  rintro D ys W hD bd ⟨v,f,hp,g,B,P,C,R⟩ hK;have H:ys.map (·.1)=AQ d d.n:=bd;have bf:ys.length=(AQ d d.n).length:=by rw[<-H,List.length_map]
  rw[bf,H]at g;rw[H]at P;obtain⟨va,vc,rfl⟩:=g.slice;have x0:=hp.cell (i:=0) om;have zW:=C.size;have bg:∀i,i<d.n->E i≠bk:=λi hi e=>oS<|hM.eb i hi;have ak:=(C.block bk om om bg).trans<|bu.block bk ar;have c0:W.cell? (G bk 0)=some r0:=(As (a:=G bk 0) ak).trans hM.c0;have f0:W.frozen? (G bk 0)=false:=(It (a:=G bk 0) ak).trans<|hM.fz 0;have b7:D<W.heap.size:=(E1.1 hK).1;have bh:=packed hM om (λb hb he=>(C.block b om om he).trans<|bu.block b hb) (n0:=u.heap.size) (p:=0) om HI HX B (λj hj=>P (Wm _ _) j _<|List.getElem?_eq_getElem hj) g om;have ao:Below bk w<|W.setCell (G bk 0)<|.slice va (AQ d d.n).length vc:=R.setCell (by exact Be _) _;have bj:∀i,i<JM d->∃i',i'<d.n/\(d.L i').turn≠0/\Es d i=d.L i':=λj hj=>by
   obtain⟨i,h1,h2,h3⟩:=F4 d.n hj;exact⟨i,h1,h2,by rw[<-h3];exact FH h1 h2⟩
  have ad:Hid<|C9 226 #[Q9 bk,J 0] (W.setCell (G bk 0)<|.slice va (AQ d d.n).length vc) λe w'=>((∃u,e=.returned u)/\∃M S',AG w' bk (.slice va (AQ d d.n).length vc) r1 M (E' E d) S' (D6 hf (Dn d) (E3 (CI (Dn d) (Dn d).n).length)<|CI (Dn d) (Dn d).n)/\(W.setCell (G bk 0)<|.slice va (AQ d d.n).length vc).heap.size<=M)/\KX (λb=>b=bk) bk (W.setCell (G bk 0)<|.slice va (AQ d d.n).length vc) w':=O (by
   have bm:=hS;have h1:=FP d d.n;have h2:=z HL;have h3:JM d=(AQ d d.n).length:=rfl;exact IP bp hf ay 0 (ay _ _ HT ao) bh ⟨by show JM d<=_;omega,bm.m,bm.x⟩ (λi hi ht=>by
    obtain⟨i',g1,g2,g3⟩:=bj i hi;have e:(Dn d).L i=d.L i':=g3;rw[e];exact HH i' g1 g2) (by
    have g1:=XX (Dn d) (Dn d).n;have g2:=FP (Dn d) (Dn d).n;have g3:(Dn d).n=JM d:=rfl;omega))
  have b8:Hid<|KX (λb=>b=bk\/∃i,i<d.n/\E i=b) bk w<|W.setCell (G bk 0)<|.slice va (AQ d d.n).length vc:=O ⟨ao,λb hb hm=>(At _ _ _ _<|by intro e;exact hm<|.inl e).trans<|(C.block b om om λi hi e=>hm<|.inr ⟨i,hi,e⟩).trans<|bu.block b hb⟩;clear bd H bf hp g B P C R bh bj ao bg ak ae af s az A aM bu;generalize (AQ d d.n).length=nl at*;gi_wp2_with fail;refine⟨trivial,?_⟩;refine(Aab.2 ad).mono ?_;rintro e w5 ⟨⟨⟨uu,rfl⟩,M,S',b9,_⟩,aq⟩;have bn:=(aq.BB D (by simpa using b7) om).trans<|(At _ _ _ _<|by show D≠bk;omega).trans hK;have ca:=b8.trans<|aq.mono λb _ e=>.inl e;clear aq ad;gi_wp2;refine⟨oq,.inl ⟨_,_,rfl,AaJ bn,?_⟩⟩;have hg:=NX w5 D<|.deferred none;exact⟨_,Aay rfl _ _ _,⟨⟨_,rfl⟩,_,M,_,S',b9.grown hg λr e=>by cases e;exact⟨_,bn,rfl⟩⟩,ca.grown hg om λk e=>by cases e;exact .inl om⟩
end
section
variable {w w3:Y} {bk:Nat} {r0 r1:V9} {R2:Nat} {E S:Nat->Nat} {d:Dc}
def AG.rP(h:AG w bk r0 r1 R2 E S d){W:Y}(u:B9 w W){g3 f}(v:BD w (E d.n) (d.L d.n) d.n)(o:bk<E d.n)(J0:∀i,i<d.n->E i≠E d.n)(h1:w3.ownsRow (bk+1) Dw 1 (S9 g3 (d.n+1) f) (d.n+1)<|Gr (λi=>some<|G (E i) 0) d.n++[Q9 (E d.n)])(x:W.grownBy w3 r0.ownBlock)(hl:r0.ownBlock=some g3\/w.heap.size<=g3):
  AG (w3.setCell (G bk 0)<|S9 g3 (d.n+1) f) bk (S9 g3 (d.n+1) f) r1 R2 E S {d with n:=d.n+1}/\Below bk w (w3.setCell (G bk 0)<|S9 g3 (d.n+1) f):=by
 have g:=h.lt;have A:=u.size;have hz:=GP A x.size;have l:∀b,b<w.heap.size->r0.ownBlock≠some b->w3.heap[b]?=w.heap[b]?:=λb hb v=>(x.block b om λe=>v e.symm).trans<|u.block b hb;have r:r0.ownBlock≠some bk:=λe=>oS (h.log.lt bk e).1;have os:∀b,b≠bk->(w3.setCell (G bk 0)<|S9 g3 (d.n+1) f).heap[b]?=w3.heap[b]?:=λb hb=>At _ _ _ _ (by exact hb);have hc:∀q,w3.cell? (G bk q)=w.cell? (G bk q):=λq=>As (a:=G bk q)<|l bk g r;have m:∀q,q≠0->(w3.setCell (G bk 0)<|S9 g3 (d.n+1) f).cell? (G bk q)=w.cell? (G bk q):=λq hq=>(Aa λe=>hq e.symm).trans<|hc q;have ty:∀{t:TypeId} {c:Array Value} {b:Nat},w.heap[b]?=some (.cells c t (0,0))->t≠Dw->r0.ownBlock≠some b:=λ{t c b} hb H e=>by
  obtain⟨Q,B⟩:=h.log.block e;exact Bl hb B H
 have I:=(World.ownsRow.lt h1 g3 rfl).1;have D:∀{b:Nat} {p:Pr} {i:Nat},BD w b p i->bk<b->BD (w3.setCell (G bk 0)<|S9 g3 (d.n+1) f) b p i:=λ{b p i} C hb=>C.keep (by simpa using hz)<|(os _ om).trans<|l _ C.lt<|ty C.ob oo;refine⟨⟨by simpa using A0 g hz,I9 _ _ _<|by rw[hc,h.c0];rfl,(m 1 oo).trans h.c1,(m 2 oo).trans h.c2,(m 3 oo).trans h.c3,(m 4 oo).trans h.c4,(m 5 oo).trans h.c5,(m 6 oo).trans h.c6,λq=>by rw[OR];exact(It (a:=G bk q)<|l bk g r).trans (h.fz q),?_,?_,h.rf,?_,?_,λi hi=>?_,λi hi=>?_,λi j hi hj e=>?_,λj hj=>?_,h.sg⟩,?_⟩
 .have h2:(w3.setCell (G bk 0)<|S9 g3 (d.n+1) f).ownsRow (bk+1) Dw 1 (S9 g3 (d.n+1) f) (d.n+1)<|Gr (λi=>some<|G (E i) 0) d.n++[Q9 (E d.n)]:=CL h1 (λq e=>os q (by
   have e':g3=q:=oF e;omega))
  exact h2
 .exact CL h.ints λq e=>(os q<|oS (h.ints.lt q e).1).trans<|l q (h.ints.lt q e).2 λe'=>h.ap q e' e
 .exact CL h.slots (λq e=>by
   obtain⟨c,hb⟩:=h.slots.block e;exact(os q (oS (h.slots.lt q e).1)).trans (l q (h.slots.lt q e).2 (ty hb oo)))
 .intro q e e';have e2:g3=q:=oF e;subst e2;rcases hl with hl|hl
  .exact h.ap g3 hl e'
  have:=(h.ints.lt g3 e').2;omega
 .have s:i<d.n+1:=hi;by_cases e:i=d.n
  .subst e;exact D v o
  exact D (h.CE i om)<|h.eb i om
 .have s:i<d.n+1:=hi;by_cases e:i=d.n
  .subst e;exact o
  exact h.eb i om
 .have s:i<d.n+1:=hi;have K:j<d.n+1:=hj;by_cases M:i=d.n
  .by_cases F:j=d.n
   .omega
   subst M;exact absurd e.symm<|J0 j om
  by_cases F:j=d.n
  .subst F;exact absurd e<|J0 i om
  exact h.inj i j om om e
 .by_cases P:d.X j=0
  .exact⟨λhp=>absurd hp<|by show¬0<d.X j;omega,λhp=>absurd hp<|by show¬d.X j<0;omega⟩
  exact DF.keep (d:={d with n:=d.n+1}) (w:=w) (h.sl j hj) (by simpa using hz) λc hc=>(os _<|oS<|h.sg j hj P).trans<|l _ (E1.1 hc).1<|ty hc oo
 exact((u.mono om).grown x om λk e=>oS (h.log.lt k e).1).setCell (by exact Be _) _
end
def AG.KZ(hc:Core K d)(hl:¬((d.n:Int)<8\/(d.n:Int)<=2*d.live))(h:AG w bk r0 r1 R2 E S<|D6 hf (Dn d) (E3 (CI (Dn d) (Dn d).n).length)<|CI (Dn d) (Dn d).n):AG w bk r0 r1 R2 E S<|Aq hf d:=by
 have hp:=Gn hc;have h:AG w bk r0 r1 R2 E S<|D6 hf (B8 d) (E3 (CI (B8 d) (B8 d).n).length)<|CI (B8 d) (B8 d).n:=h;have e1:Aq hf d=A1 hf (B8 d) 0:=Cs hl;have rf:=λx=>M6 (hf:=hf) (x:=x) (λi hi b=>hp.pos hi b) (B8 d).n<|Be _;rw[e1];by_cases a:(CI (B8 d) (B8 d).n).length=0
 .rw[DC (by rw[(rf 0).2];omega)];have hn:=List.eq_nil_of_length_eq_zero a;rw[a,hn]at h;have h:AG w bk r0 r1 R2 E S {B8 d with x:=0,X:=λ_=>0,used:=0}:=h;exact h.of_same rfl rfl rfl rfl rfl rfl (λ_ _=>rfl) (λj hj=>absurd hj<|To _) (λ_ _=>rfl) (λ_ _=>rfl) (λi hi=>by
   rcases hp.ints i hi with e|e
   .show(B8 d).I i<=((B8 d).n:Int);omega
   exact e.2.1) (λj hj=>absurd hj (To _))
 rw[CG (by rw[(rf 0).2];omega),(rf _).1,(rf 0).2];grind [D6,Dn,E3,CI,Aq,B8,Ct]
def FK(c:Dc)(k v:Vl):Dc:={BR c k v with n:=c.n}
def dQ c k v:(FK c k v).L c.n=⟨k,v,c.turns+1⟩:=Ao _ _ _
def NZ c k v{i}(hi:i<c.n):(FK c k v).L i=c.L i:=Ai _ _ om
def YM hf c k v k' p:AW hf (FK c k v) k' p=FK (AW hf c k' p) k v:=by
 unfold AW;show(match CV c.x c.X (hf k'%c.x)with|none=>_|some s=>_)=_;cases CV c.x c.X (hf k'%c.x)<;>rfl
def YL hf c k' p n:AW hf {c with n:=n} k' p={AW hf c k' p with n:=n}:=by
 grind [AW,CV]
def bW hf c k v x l(hl:∀p∈l,p<c.n):D6 hf (FK c k v) x l=FK (D6 hf c x l) k v:=by
 suffices h:∀(l:List Nat),(∀p∈l,p<c.n)->∀b:Dc,l.foldl (λe p=>AW hf e ((FK c k v).L p).key p) (FK b k v)=FK (l.foldl (λe p=>AW hf e (c.L p).key p) b) k v from h l hl {c with x:=x,X:=λ_=>0,used:=0}
 intro l
 induction l with
 |nil=>intro _ b;rfl
 |cons p l ih=>
  intro hl b;show l.foldl _ (AW hf (FK b k v) ((FK c k v).L p).key p)=_;rw[NZ c k v (hl p oq),YM];exact ih (λq hq=>hl q<|by simp[hq]) _
def XY c k v:CI (FK c k v) (FK c k v).n=CI c c.n:=by
 unfold CI;have e:AQ (FK c k v) (FK c k v).n=AQ c c.n:=Kw c.n (λi hi=>by rw[NZ c k v hi]);rw[e];refine List.filter_congr λi hi=>?_;rw[NZ c k v (Pw.1 hi).1];rfl
def eU{k v}(hc:Core K c):PL hf (FK c k v)=FK (Cy hf c) k v:=by
 have rf:=λx=>M6 (hf:=hf) (x:=x) (λi hi a=>hc.pos hi a) c.n<|Be _;unfold PL Cy;rw[XY];by_cases h:(c.x:Int)<2*(c.used+1)
 .rw[C3 h,C3 (show((FK c k v).x:Int)<2*((FK c k v).used+1)from h),CG om,(rf _).1,(rf 0).2,bW hf c k v _ _ (λp hp=>(Pv hp).1)];grind [PL,FK,Cy,E3,CI,Ct]
 rw[Cs h,Cs (show¬((FK c k v).x:Int)<2*((FK c k v).used+1)from h)]
def dR{k v}(h:c.n=n):FK c k v={BR c k v with n:=n}:=by subst h;rfl
structure KY (W:Y) (b:Nat) (k:Vl):Prop where
 lt:b<W.heap.size
 k0:W.cell? (G b 0)=some (J k.kind)
 k1:W.cell? (G b 1)=some (J k.num)
 k2:W.cell? (G b 2)=some (F9 k.Af)
 k3:W.cell? (G b 3)=some (.string k.str)
 k4:W.cell? (G b 4)=some (J k.ref)
def KY.keep{k}(h:KY W b k)(hz:W.heap.size<=W'.heap.size)(e:W'.heap[b]?=W.heap[b]?):KY W' b k:=
 ⟨A0 h.lt hz,(As e).trans h.k0,(As e).trans h.k1,(As e).trans h.k2,(As e).trans h.k3,(As e).trans h.k4⟩
def QR(n0 bk:Nat)(k v:Vl)(t:Int)(a:T9)(n c:Nat)(W:Y):Prop:=W.cell? (G n0 0)=some (J k.kind)/\W.cell? (G n0 1)=some (J k.num)/\W.cell? (G n0 2)=some (F9 k.Af)/\W.cell? (G n0 3)=some (.string k.str)/\W.cell? (G n0 4)=some (J k.ref)/\W.cell? (G (n0+1) 0)=some (J v.kind)/\W.cell? (G (n0+1) 1)=some (J v.num)/\W.cell? (G (n0+1) 2)=some (F9 v.Af)/\W.cell? (G (n0+1) 3)=some (.string v.str)/\W.cell? (G (n0+1) 4)=some (J v.ref)/\W.cell? (G bk 6)=some (J t)/\W.cell? (G bk 0)=some (.slice a n c)
def lN(bk n0 a m k1 q:Nat)(W:Y):Prop:=W.cell? (G bk 1)=some (S9 a m k1)/\W.cell? (G n0 1)=some (J<|(q:Int)+1)
def dI(h:Core K c)(hl:c.live<500):(CI c c.n).length+1<=500:=by
 have h1:=XX c c.n;have h2:=h.Kx;grind [CI,JM,AQ,Small.n]
structure LL (W:Y) (bk:Nat) (r0 r1:V9) (R2:Nat) (E S:Nat->Nat) (D:Dc):Prop where
 bm:AG W bk r0 r1 R2 E S D
 e:BD W (E D.n) (D.L D.n) D.n
 eb:bk<E D.n
 ne:∀i,i<D.n->E i≠E D.n
def LL.fin{c}{D}(h:LL c bk r0 r1 R2 E S D){o}{g3 b}(h1:w3.ownsRow (bk+1) Dw 1 (S9 g3 (D.n+1) b) (D.n+1)<|Gr (λi=>some<|G (E i) 0) D.n++[Q9 (E D.n)])(d:(c.alloc o).grownBy w3 r0.ownBlock)(hl:r0.ownBlock=some g3\/g3=c.heap.size+1):
  w3.cell? (G bk 0)=some r0/\w3.frozen? (G bk 0)=false/\bk<w3.heap.size/\AG (w3.setCell (G bk 0)<|S9 g3 (D.n+1) b) bk (S9 g3 (D.n+1) b) r1 R2 E S {D with n:=D.n+1}/\Below bk c (w3.setCell (G bk 0)<|S9 g3 (D.n+1) b):=by
 have f:=h.bm.lt;have hn:r0.ownBlock≠some bk:=λe=>oS (h.bm.log.lt bk e).1;have hb:=(d.block bk ot λe=>hn e.symm).trans<|DO _ _ _ f;have hz:c.heap.size+1<=w3.heap.size:=by have:=d.size;simpa using this
 obtain⟨p1,p2⟩:=h.bm.rP ((BE _ _).alloc (Be _) o) h.e h.eb h.ne h1 d (by rcases hl with hl|hl;exact .inl hl;exact .inr om);exact⟨(As (a:=G bk 0) hb).trans h.bm.c0,(It (a:=G bk 0) hb).trans<|h.bm.fz 0,om,p1,p2⟩
def QR.below{k v}{t}{a:Option Addr}{c}(h:QR n0 bk k v t a n c W)(hb:B9 W W')(i:n0+1<W.heap.size)(h1:bk<W.heap.size):QR n0 bk k v t a n c W':=by
 obtain⟨j,s1,s2,l,m,o,r,s,u,w,d,f⟩:=h;have e:∀{b q:Nat},b<W.heap.size->W'.cell? (G b q)=W.cell? (G b q):=λ{b q} g=>hb.cell (p:=G b q) g;grind [QR,KeyLaw.trans]
def mM(bk:Nat)(r0:V9)(R2 b:Nat):Prop:=b=bk\/r0.ownBlock=some b\/b=R2
def aM(d:Dc)(k:Vl)(bk:Nat)(r0:V9)(R2 b:Nat):Prop:=¬D8 d->k.kind=4->mM bk r0 R2 b
def mP:Prop:=∀(T:World->Prop) (c:Ev T) (hf:Vl->Nat) (K:Vl->Prop) (j:KeyLaw K hf) (f:∀v,K v->Qi T v (hf v)) (bk:Nat) (g:∀w w',T w->Below bk w w'->T w') (r0 r1:V9) (R2:Nat) (E S:Nat->Nat) (d:Dc) (w:Y) (k:T w) (l:AG w bk r0 r1 R2 E S d) (o:Small d) (h:d.m<=4000000)
  (i:(d.L d.n).key.kind=2) (DB:(d.L d.n).key.num=(d.m:Int)+1) (p:BK K hf {d with n:=d.n+1,m:=d.m+1,I:=AV d.I d.m ((d.n:Int)+1)}),
  C9 217 #[Q9 bk,Q9 (E d.n)] w λe w'=>((∃u,e=.returned u)/\∃a S',AG w' bk r0 a R2 E S' {CY hf (d.x+1) {d with n:=d.n+1,m:=d.m+1,I:=AV d.I d.m ((d.n:Int)+1)}with n:=d.n})/\KX (λb=>b=bk\/r1.ownBlock=some b\/b=R2) bk w w'
def uD:mP:=Ot
def iI(cg:Ev T){hf}{K}(KL:KeyLaw K hf)(ch:∀v,K v->Qi T v (hf v)){bk}(bz:∀w w',T w->Below bk w w'->T w'){r0 r1}{R2}{E S}{d}{k}(v){w:Y}(hT:T w)(hM:AG w bk r0 r1 R2 E S d)(hS:Small d)(ft:d.m<=4000000)
  (hI:Inv K hf d) (hk:K k) (cn:BP k=true) (hv:v.ok=true) (c9:v.kind≠0) (da:∀i,i<d.n->(d.L i).turn≠0->AB (d.L i).key k=false) (hl:d.live<500) (ht:d.turns<1000000000000) (hX:k.kind=2/\0<k.num->mP):
  C9 205 #[.pointer (some<|G bk 0),V k.kind k.num k.Af k.str k.ref,V v.kind v.num v.Af v.str v.ref] w λe w'=>((∃u,e=.returned u)/\∃b0 F t E2 S',AG w' bk b0 F t E2 S'<|GK hf d k v)/\KX (aM d k bk r0 R2) bk w w':=by
 have dc:D8 d->∀b,aM d k bk r0 R2 b:=λh b h'=>absurd h h';have dd:k.kind=2->∀b,aM d k bk r0 R2 b:=λh b _ h'=>om;have df:∀b,mM bk r0 R2 b->aM d k bk r0 R2 b:=λb h _ _=>h;generalize aM d k bk r0 R2=Mq at*;rcases O dc,O dd,O df with⟨ei,dh,ej⟩;clear dc dd df;have ek:=O hX;clear hX;obtain⟨i0,di,dj,dk,dm⟩:=ON JH;have fu:=hM.lt;have cb:0<=d.live:=oS hI.i0.log.CP;have aq:B9 w<|(w.alloc<|.cells (qf k) 43).alloc<|.cells (qf v) 43:=(n9).alloc oq _;rcases BS (hf:=hf) hI.i0.core,DS hI.i0,Eb (hf:=hf) hI.i0.core hI.next with⟨⟨eo,ep,eu,dn⟩,Q,ev⟩;have cc:∀i,i<(Aq hf d).n->((Aq hf d).L i).turn≠0->AB ((Aq hf d).L i).key k=false:=λi hi ew=>by
  cases e:AB ((Aq hf d).L i).key k
  .rfl
  obtain⟨j,h1,h2,h3⟩:=(DJ hI.i0.core λp=>AB p.key k=true).1 ⟨i,hi,ew,e⟩;have h4:=da j h1 h2;rw[h3]at h4;cases h4
 have fw:(Aq hf d).x<=4000:=by
  rcases Q.sz with h|h
  .omega
  exact h.2.1
 have c4:(Aq hf d).n<=4194304:=by
  rcases dn with h|h<;>omega
 have ey:∀i,i<(Aq hf d).m->(Aq hf d).I i<=(Aq hf d).n:=λi hi=>by
  rcases Q.ints i hi with e|e
  .omega
  exact e.2.1
 have ez:∀j,j<(Aq hf d).x->(Aq hf d).X j<=(Aq hf d).n:=λj hj=>by
  rcases Q.idx.range j hj with e|e|⟨e1,e2,_⟩<;>omega
 have Z:Hid<|GK hf d k v=Bz hf (Aq hf d) k v:=O rfl;have bb:∀W,B9 w W->D8 d->C9 215 #[.pointer (some<|G bk 0)] W λe w'=>((∃u,e=.returned u)/\∃b0 t E2 S',AG w' bk b0 r1 t E2 S'<|Aq hf d)/\KX (λb=>b=bk\/∃i,i<d.n/\E i=b) bk W w':=λW hW ar=>by
  refine(Nb cg hf bz (cg _ _ hT hW) (hM.below hW) hS (λi hi ht=>ch _<|hI.i0.keys i hi ht) (oS hI.i0.core.Kx) (λj hj=>by
   rcases hI.i0.ints j hj with e|e
   .exact .inl e
   .exact .inr ⟨e.1,e.2.1,e.2.2.1⟩) (λj hj h0=>by
   rcases hI.i0.idx.range j hj with e|e|⟨e1,e2,e3,_⟩
   .omega
   .omega
   exact⟨om,e3⟩)).mono ?_
  rintro e w' ⟨⟨hu,b0,t,E2,S',hN⟩,B⟩;exact⟨⟨hu,b0,t,E2,S',hN.KZ hI.i0.core<|by have:=ar.1;have:=ar.2;omega⟩,B⟩
 have ag:=O bb;have HE:Hid<|∀i,i<d.n->E i<w.heap.size:=O λi hi=>(hM.CE i hi).lt;have HC:Hid<|¬D8 d->Aq hf d=d:=O (λh=>C3 (by
  by_cases h8:(d.n:Int)<8
  .exact .inl h8
  exact .inr (by
   refine AaR λh2=>h ⟨om,om⟩)))
 have cj:Hid<|∀W,B9 w W->C9 214 #[.pointer (some<|G bk 0)] W (R9 (.bool<|tells<|D8 d) W):=O λW hW=>MT (hM.below hW) hS cb om;have HT:=O hT;rw[z Z];have U:(Aq hf d).live<500:=om;have ao:(Aq hf d).turns<1000000000000:=om;have eA:(Aq hf d).m<=4000000:=om;clear eo ep eu dn Z bb hS hT hI da hl ht cb;generalize Aq hf d=c at*;have au:Hid<|KY ((w.alloc<|.cells (qf k) 43).alloc<|.cells (qf v) 43) w.heap.size k/\KY ((w.alloc<|.cells (qf k) 43).alloc<|.cells (qf v) 43) (w.heap.size+1) v:=O ⟨⟨ot,oe,oe,oe,oe,oe⟩,⟨oq,oe,oe,oe,oe,oe⟩⟩;by_cases ar:D8 d
 case' pos=>
  rcases O (Al ar),O λW hW=>ag W hW ar,O (ei ar) with⟨cp,dp,dq⟩;clear ar HC;go_enter func205,ntmps205;go_wp2_with fail;refine(cj _ aq).mono ?_;rintro e w1 ⟨rfl,H⟩;rw[z cp];rcases o8 aq H,au.1.keep H.size<|H.block _ au.1.lt,au.2.keep H.size (H.block _ au.2.lt) with⟨cq,cr,ct⟩;clear H;go_wp2_with fail;refine(dp _ cq).mono ?_;rintro e W ⟨⟨⟨uu,rfl⟩,b1,l,Ec,Sc,av⟩,B⟩;have vk:KY W w.heap.size k:=cr.keep B.C7.size (B.BB _ cr.lt (by
   rintro(e|⟨i,hi,e⟩)
   .omega
   have:=z HE i hi;omega))
  have vv:KY W (w.heap.size+1) v:=ct.keep B.C7.size (B.BB _ ct.lt (by
   rintro(e|⟨i,hi,e⟩)
   .omega
   have:=z HE i hi;omega))
  have cu:KX Mq bk w W:=⟨(cq.mono om).trans B.C7,λb _ h=>absurd (dq b) h⟩;have hU:∀b,mM bk b1 l b->Mq b:=λb _=>dq b;clear B dp cr ct cq au cj ag aq
 case' neg=>
  have cp:=O<|Ae ar;have eB:=z HC ar;subst eB;clear ar HC ag;go_enter func205,ntmps205;go_wp2_with fail;refine(cj _ aq).mono ?_;rintro e W ⟨rfl,H⟩;rw[z cp];rcases hM.below (o8 aq H),au.1.keep H.size<|H.block _ au.1.lt,au.2.keep H.size (H.block _ au.2.lt) with⟨av,vk,vv⟩;have cu:KX Mq bk w W:=KX.Ax (o8 aq H) om;obtain⟨b1,l,Ec,Sc,av,hU⟩:∃b1 l Ec Sc,AG W bk b1 r1 l Ec Sc c/\∀b,mM bk b1 l b->Mq b:=⟨_,_,_,_,av,ej⟩;clear H au cj aq
 all_goals
  obtain⟨la,lc,e0⟩:=av.log.slice;subst e0;rcases av.c6,av.c5,av.fz 5,av.fz 6,Q.turns.1 with⟨c6,c5,f5,f6,tp⟩;have fx:0<=c.live:=oS Q.log.CP;have eF:IntKind.i64.wrap (c.turns+1)=c.turns+1:=oj;have R:IntKind.i64.wrap (c.live+1)=c.live+1:=oj;have ck:=(av.PR<|c.turns+1).IC<|c.live+1;have HU:=O hU;clear av hU;go_wp2_with fail;generalize br:(W.setCell (G bk 6)<|J<|c.turns+1).setCell (G bk 5) (J<|c.live+1)=W2 at*;have a7:KY W2 w.heap.size k:=vk.keep (by rw[<-br];simp) (by rw[<-br];exact(At _ _ _ _<|by show w.heap.size≠bk;omega).trans (At _ _ _ _<|by show w.heap.size≠bk;omega));have bc:KY W2 (w.heap.size+1) v:=vv.keep (by rw[<-br];simp) (by rw[<-br];exact(At _ _ _ _<|by show w.heap.size+1≠bk;omega).trans (At _ _ _ _<|by show w.heap.size+1≠bk;omega));have dr:KX Mq bk w W2:=by rw[<-br];exact(cu.setCell (Be _) (λ_=>HU _<|.inl rfl) _).setCell (Be _) (λ_=>HU _<|.inl rfl) _
  have cl:=z ck;have eI:=cl.lt;have dt:W2.cell? (G bk 6)=some (J<|c.turns+1):=cl.c6;rcases cl.c0,a7.lt,bc.lt with⟨du,eP,eS⟩;have bt:QR w.heap.size bk k v (c.turns+1) la c.n lc W2.drew:=⟨a7.k0,a7.k1,a7.k2,a7.k3,a7.k4,bc.k0,bc.k1,bc.k2,bc.k3,bc.k4,dt,du⟩;clear cl bc c6 c5 f5 f6 dt du br R eF vk vv cu;refine GH (QR w.heap.size bk k v (c.turns+1) la c.n lc) ?_;refine tz 0 (h:=tz 1 (h:=tz 2 (h:=tz 3 (h:=tz 4 (h:=tz 5 (h:=tz 6 (h:=tz 7 (h:=tz 8 (h:=tz 9 (h:=tz 10 (h:=tz 11 (h:=?_))))))))))));refine tz 12 (h:=?_);refine ry 13 λK hK=>?_;go_simp;refine hK.out _ _ (bt.below n9 eS eI) λeT=>?_;clear hK K;refine tz 14 (h:=?_);try simp only[AaT]
  try simp only[AaH]
  try simp only[AaG]
  try simp only[Aad]
  try simp only[Aa1]
  try simp only[Aa0]
  refine FE ?_;clear bt eT;obtain⟨W3,b2⟩:=o9<|(W2.alloc<|.cells (Gc ⟨k,v,c.turns+1⟩ c.n) 303).drew;try simp only[World.alloc_drew]
  rw[<-b2];have z3:W3.heap.size=W2.heap.size+1:=by rw[b2];simp
  have b3:B9 W2 W3:=by rw[b2];exact(n9).drew
  have dv:W3.heap[W2.heap.size]?=some (.cells (Gc ⟨k,v,c.turns+1⟩ c.n) 303 (0,0)):=by rw[b2];exact DD _ _
  have a8:=a7.keep b3.size<|b3.block _ eP;have dw:=dr.trans<|KX.Ax b3 om;obtain⟨a,cm⟩:=o9<|AV Ec c.n W2.heap.size;have ax:a c.n=W2.heap.size:=by rw[cm];exact Ao _ _ _
  have hA:LL W3 bk (.slice la c.n lc) r1 l a Sc<|FK c k v:=by
   have eX:=ck.below b3;refine⟨eX.of_same rfl rfl rfl rfl rfl rfl (λ_ _=>rfl) (λ_ _=>rfl) (λi hi=>Ai _ _ (by have bu:i<c.n:=hi;omega)) (λi hi=>by rw[cm];exact Ai _ _ (by have bu:i<c.n:=hi;omega)) ey ez,?_,?_,λi hi=>?_⟩
   .show BD W3 (a c.n) ((FK c k v).L c.n) c.n;rw[ax,dQ];exact BD.Yd dv
   .show bk<a c.n;omega
   have bu:i<c.n:=hi;show a i≠a c.n;rw[ax,cm,Ai _ _ om];have:=(ck.CE i bu).lt;omega
  rcases a8.lt,hA.bm.lt,hA.bm.rf with⟨l3,cv,⟨R1,k1,e1⟩⟩;have e1:r1=.slice (some<|G R1 0) c.m k1:=e1;have c1:W3.cell? (G bk 1)=some (.slice (some<|G R1 0) c.m k1):=by rw[<-e1];exact hA.bm.c1
  rcases (hA.bm.ints.lt R1<|qi e1).1,a8.k0,a8.k1,a8.k2,a8.k3,a8.k4,O e1 with⟨fy,q0,q1,q2,q3,q4,bf⟩;rw[<-ax];clear cm ax e1 dv b3 b2 ck dr z3 a7;by_cases hs:Ay c.m k
  .have cw:=O<|Al hs;obtain⟨a1,a2,a3⟩:=hs;obtain⟨q,hq⟩:∃q:Nat,k.num=(q:Int)+1:=⟨(k.num-1).toNat,om⟩;have dx:q<c.m:=om;have Z:Hid<|{FK c k v with I:=AV (FK c k v).I q ((c.n:Int)+1),n:=c.n+1}=Bz hf c k v:=O (by
    have e:Bz hf c k v=BV c k v:=C3 ⟨a1,a2,a3⟩;rw[e];unfold BV;rw[show(k.num-1).toNat=q by omega];rfl)
   have fE:IntKind.i64.wrap (q:Int)=q:=oj;have HQ:=O hq;have e4:=O<|dh a1;clear a1 a2 a3 hq;go_wp2_with fail;refine qr W3 ?_;(iterate 6 refine N (h:=?_));refine GC λK hK=>?_;go_simp;apply Exists.intro;refine ql (λw' C=>?_) (hK _ ?_)
   .refine((z cw)▸Ck k c.m _ om).mono ?_;rintro e cx ⟨rfl,hb⟩;exact⟨rfl,o8 C hb⟩
   clear hK K;refine GS ?_;intro w4 f;rcases A0 l3 f.size,A0 cv f.size,(f.cell cv).trans c1,(f.cell l3).trans q1 with⟨l4,e6,e7,b4⟩;rw[z HQ]at b4;have s:LL w4 bk (.slice la c.n lc) r1 l a Sc<|FK c k v:=⟨hA.bm.below f,hA.e.keep f.size<|f.block _ hA.e.lt,hA.eb,hA.ne⟩;have ay:AG w4 bk (.slice la c.n lc) (.slice (some<|G R1 0) c.m k1) l a Sc<|FK c k v:=by rw[<-z bf];exact s.bm
   obtain⟨_,_,e5,_,_,_,cy,dy⟩:=ay.ints.form (by show 0<c.m;omega);cases e5;rcases cy q (by show q<c.m;exact dx),dy q,ay.ints.block (b:=R1) rfl with⟨d5,f5,⟨e8,az⟩⟩;have hp:=AG.ZC (d:=FK c k v) ay (by show q<c.m;exact dx)<|(c.n:Int)+1;rw[show Cq a ((c.n:Int)+1)=some (G (a c.n) 0) by unfold Cq;rw[C3 om,show((c.n:Int)+1-1).toNat=c.n by omega]]at hp;have e9:Hid<|LL (w4.setCell (G R1 q)<|.pointer<|some<|G (a c.n) 0).drew bk (.slice la c.n lc) (.slice (some<|G R1 0) c.m k1) l a Sc {FK c k v with I:=AV (FK c k v).I q ((c.n:Int)+1)}:=O ⟨hp.below (BE _ _).drew,s.e.keep oq<|At _ _ _ _<|by show a c.n≠R1;exactλe=>Bl (e▸s.e.ob) az oo,s.eb,s.ne⟩;have bw:=O ((dw.trans<|KX.Ax f om).setCell (g:=R1) (q:=q) om (λ_=>e4 _)<|.pointer<|some<|G (a c.n) 0).drew;have bt:lN bk w.heap.size R1 c.m k1 q w4.drew:=⟨e7,b4⟩;have fa:R1≠w.heap.size:=λe=>by
    have h1:=a8.keep f.size<|f.block _ l3;have h2:=h1.k0;rw[<-e]at h2;rw[cy 0 (by show 0<c.m;omega)]at h2;cases h2
   clear ay s hp az f cy dy q0 q1 q2 q3 q4 c1 hA;go_wp2_with fail;refine GH (lN bk w.heap.size R1 c.m k1 q) ?_;refine tz 0 (h:=tz 1 (h:=tz 2 (h:=tz 3 (h:=tz 4 (h:=tz 5 (h:=tz 6 (h:=tz 7 (h:=tz 8 (h:=?_)))))))));refine ry 9 λK hK=>?_;go_simp;refine hK.out _ _ ⟨(Ap om).trans bt.1,(Ap fa).trans bt.2⟩ λ_=>?_;clear hK K bt;refine FE ?_;generalize fF:(w4.setCell (G R1 q)<|.pointer<|some<|G (a c.n) 0).drew=W5 at*;have P:LL W5 bk (.slice la c.n lc) (.slice (some<|G R1 0) c.m k1) l a Sc {FK c k v with I:=AV (FK c k v).I q ((c.n:Int)+1)}:=e9;have b5:=z bw;have bg:Rw W5 (bk+1) Dw (.slice la c.n lc) c.n λi=>some<|G (a i) 0:=P.bm.log;have fb:=P.bm.c0;have fc:=P.bm.lt;have bh:Hid (∀(o:Obj) (g3 D:Nat) (w3:Y),w3.ownsRow (bk+1) Dw 1 (.slice (some<|G g3 0) (c.n+1) D) (c.n+1) (Gr (λi=>some<|G (a i) 0) c.n++[.pointer (some (G (a c.n) 0))])->((W5).alloc o).grownBy w3 (Value.slice la c.n lc).ownBlock->((Value.slice la c.n lc).ownBlock=some g3\/g3=(W5).heap.size+1)->
     w3.cell? (G bk 0)=some (.slice la c.n lc)/\w3.frozen? (G bk 0)=false/\bk<w3.heap.size/\(∃F t S',AG (w3.setCell (G bk 0) (.slice (some (G g3 0)) (c.n+1) D)) bk (.slice (some (G g3 0)) (c.n+1) D) F t a S' (Bz hf c k v))/\KX Mq bk w (w3.setCell (G bk 0) (.slice (some (G g3 0)) (c.n+1) D))):=O (λo g3 D w3 h1 h2 h3=>by
    obtain⟨p1,p2,p3,p4,p5⟩:=P.fin h1 h2 h3;exact⟨p1,p2,p3,⟨_,_,_,by rw[<-z Z];exact p4⟩,((b5.alloc om o).grown h2 om (λr e=>.inr ⟨oS (P.bm.log.lt r e).1,HU _ (.inr (.inl e))⟩)).setCell (Be _) (λ_=>HU _ (.inl rfl)) _⟩)
   clear P b5;go_wp2_with (at_builtin;refine So _ rfl _ _ 296 rfl (bk+1) Dw i0 (.pointer none) 1 8 underlying296 di dj dk dm rfl oo (.slice la c.n lc) c.n (Gr (λi=>some<|G (a i) 0) c.n) rfl (PC bg _) (G ((W5).heap.size) 0) 1 1 [.pointer (some (G (a c.n) 0))] rfl rfl (ID<|DD _ _) oh oo od om ot ((W5).heap.size+1) oq ?_;intro g3 D w3 ad ah ae c7;obtain⟨x3,f3,fe,b6,b7⟩:=z bh _ g3 D w3 ad ah ae;have cz:=O b6;have cD:=O b7;clear ad ah ae b6 b7);go_end0;obtain⟨F,t,S',hN⟩:=z cz;exact⟨⟨⟨_,rfl⟩,_,F,t,a,S',hN⟩,cD⟩
  rcases O (Ae hs),O hs,Jz KL Q ev hk cn hv c9 cc U ao with⟨cw,dz,bj⟩;have dC:=O bj.2.2.1;have dU:=O bj.2.2.2.1;clear hs bj;go_wp2_with fail;refine qr W3 ?_;(iterate 6 refine N (h:=?_));refine GC λK hK=>?_;go_simp;apply Exists.intro;refine ql (λw' C=>?_) (hK _ ?_)
  .refine((z cw)▸Ck k c.m _ om).mono ?_;rintro e cx ⟨rfl,hb⟩;exact⟨rfl,o8 C hb⟩
  clear hK K;refine GS ?_;intro w4 f;rcases A0 l3 f.size,A0 cv f.size,a8.keep f.size (f.block _ l3) with⟨l4,e6,bx⟩;rcases bx.k0,bx.k1,bx.k2,bx.k3,bx.k4 with⟨ea,b4,ec,ef,eh⟩;have s:LL w4 bk (.slice la c.n lc) r1 l a Sc<|FK c k v:=⟨hA.bm.below f,hA.e.keep f.size<|f.block _ hA.e.lt,hA.eb,hA.ne⟩;have bw:=dw.trans<|KX.Ax f om;have cN:Hid<|Small<|FK c k v:=O ⟨c4,by show c.m<=_;omega,by show c.x<=_;omega⟩;have a6:Hid<|∀w',B9 w4 w'->C9 216 #[.pointer (some<|G bk 0)] w' λe cx=>e=.returned (V 2 ((c.m:Int)+1) 0 ⟨#[]⟩ 0)/\B9 w' cx:=O (λw' C=>by
   obtain⟨ff,fg,fh⟩:=(s.bm.below C).book;exact Jh bk ff fg l a Sc (FK c k v) w' fh cN)
  clear f bx q0 q1 q2 q3 q4 c1 hA;by_cases b8:k.kind=2/\k.num=(c.m:Int)+1
  focus
   have b9:=O b8;have HF:=O<|NS cn b8.1;clear b8;go_wp2_with fail;refine qr w4 ?_;refine N (h:=N (h:=?_));refine GC λK hK=>?_;go_simp;refine⟨_,λw' C=>qk C<|a6 _ C,hK _ ?_⟩;clear hK K;refine GC λK hK=>?_;go_simp;refine⟨.bool true,λw' C=>?_,hK _ ?_⟩
   .obtain⟨x1,x2⟩:=z b9;obtain⟨x3,x4,x5⟩:=z HF;have fj:O9 k.Af 0=some Ordering.eq:=by simpa using x3
    have fk:=List.isEmpty_iff.1 x4;simp only[x1,x2,x5,fj,fk,if_true];exact⟨trivial,trivial⟩
   clear hK K;refine GS ?_;intro w5 R;have A:LL w5 bk (.slice la c.n lc) r1 l a Sc<|FK c k v:=⟨s.bm.below R,s.e.keep R.size<|R.block _ s.e.lt,s.eb,s.ne⟩;have bd:=bw.trans<|KX.Ax R om;have af:Hid<|C9 217 #[.pointer (some<|G bk 0),.pointer (some<|G (a c.n) 0)] w5 λe w'=>(∃u,e=.returned u)/\(∃F S',LL w' bk (.slice la c.n lc) F l a S' {Bz hf c k v with n:=c.n})/\KX Mq bk w w':=O (by
    obtain⟨x1,x2⟩:=z b9;have c3:=bz _ _ HT bd.C7;have ca:((FK c k v).L (FK c k v).n)=⟨k,v,c.turns+1⟩:=dQ c k v;have ak:Bz hf c k v=CY hf (c.x+1) (BU c k v):=by unfold Bz;rw[Cs (z dz),C3 ⟨x1,x2⟩]
    rcases A.bm.ints.block (b:=R1) (qh bf),A.bm.slots.block (b:=l) rfl,A.e with⟨⟨e8,az⟩,⟨fl,bn⟩,aw⟩;refine(ek ⟨x1,om⟩ T cg hf K KL ch bk bz (.slice la c.n lc) r1 l a Sc (FK c k v) w5 c3 A.bm cN eA (by rw[ca];exact x1) (by rw[ca];exact x2)<|I4 KL Q hk cn hv c9 cc x1 x2 U ao).mono ?_;rintro e w' ⟨⟨hu,F,S',hN⟩,B⟩;have hN:AG w' bk (.slice la c.n lc) F l a S' {CY hf (c.x+1) (BU c k v)with n:=c.n}:=hN;rw[<-ak]at hN;have bp:=B.BB (a c.n) aw.lt (by
     rintro(e|e|e)
     .have:=A.eb;have h':bk<a c.n:=this;omega
     .rw[z bf]at e;have e':R1=a c.n:=oF e;exact Bl (e'▸aw.ob) az oo
     exact Bl (e▸aw.ob) bn oo)
    refine⟨hu,⟨F,S',hN,?_,A.eb,A.ne⟩,bd.trans<|B.mono λb _ _=>dh x1 b⟩;have h1:(Bz hf c k v).L c.n=(FK c k v).L c.n:=qh dU
    show BD w' (a c.n) ((Bz hf c k v).L c.n) c.n;rw[h1];exact aw.keep B.C7.size bp)
   clear A bd R bw a6 ea b4 ec ef eh s;go_wp2_with fail;refine af.mono ?_;rintro e w6 ⟨⟨fm,rfl⟩,⟨fo,Sx,ai⟩,aj⟩;have Z:Hid<|{{Bz hf c k v with n:=c.n}with n:=c.n+1}=Bz hf c k v:=O (by
    have h1:=z dC;generalize Bz hf c k v=M at h1;cases M;simp only at h1;subst h1;rfl)
   have bq:=O ai;have cd:=O aj;clear ai aj af;have P:LL w6 bk (.slice la c.n lc) fo l a Sx {Bz hf c k v with n:=c.n}:=bq
  rotate_left
  focus
   have b9:=O b8;clear b8;go_wp2_with fail;refine qr w4 ?_;refine N (h:=N (h:=?_));refine GC λK hK=>?_;go_simp;refine⟨_,λw' C=>qk C<|a6 _ C,hK _ ?_⟩;clear hK K;refine GC λK hK=>?_;go_simp;refine⟨.bool false,λw' C=>?_,hK _ ?_⟩
   .have c8:=z b9;by_cases x1:k.kind=2
    .have x2:¬k.num=(c.m:Int)+1:=λh=>c8 ⟨x1,h⟩;simp only[x1,x2,if_true,XN];exact⟨trivial,trivial⟩
    simp only[x1,XN];exact⟨trivial,trivial⟩
   clear hK K;refine GS ?_;intro w5 R;have A:LL w5 bk (.slice la c.n lc) r1 l a Sc<|FK c k v:=⟨s.bm.below R,s.e.keep R.size<|R.block _ s.e.lt,s.eb,s.ne⟩;have bd:=bw.trans<|KX.Ax R om;have af:Hid<|C9 218 #[.pointer (some<|G bk 0),.pointer (some<|G (a c.n) 0)] w5 λe w'=>(∃u,e=.returned u)/\(∃t S',LL w' bk (.slice la c.n lc) r1 t a S' {Bz hf c k v with n:=c.n})/\KX Mq bk w w':=O (by
    have c3:=bz _ _ HT bd.C7;have ca:((FK c k v).L (FK c k v).n)=⟨k,v,c.turns+1⟩:=dQ c k v;have fq:=(Hq Q U).2.2.n;have ak:AW hf (PL hf<|FK c k v) ((FK c k v).L (FK c k v).n).key (FK c k v).n={Bz hf c k v with n:=c.n}:=by
     have e1:Bz hf c k v=AW hf (BR (Cy hf c) k v) k c.n:=by unfold Bz;rw[Cs (z dz),Cs (z b9)]
     rw[e1,ca,eU Q.core,dR fq];exact YL hf (BR (Cy hf c) k v) k c.n c.n
    obtain⟨fl,bn⟩:=A.bm.slots.block (b:=l) rfl;have aw:=A.e;refine(Ov cg hf bz c3 A.bm cN (λi hi ht=>by
     have bu:i<c.n:=hi;rw[NZ c k v bu]at ht ⊢;exact ch _ (Q.keys i bu ht)) (by rw[XY];exact dI Q.core U) aw A.eb (by rw[ca];exact ch k hk) (λj hj=>by
     rcases Q.idx.range j hj with e|e|e
     .exact .inl e
     .exact .inr (.inl e)
     exact .inr (.inr e.1)) Q.used).mono ?_
    rintro e w' ⟨⟨hu,t,S',hN⟩,B⟩;rw[ak]at hN;have bp:=B.BB (a c.n) aw.lt (by
     rintro(e|e)
     .have h':bk<a c.n:=A.eb;omega
     exact Bl (e▸aw.ob) bn oo)
    refine⟨hu,⟨t,S',hN,?_,A.eb,A.ne⟩,bd.trans<|B.mono λb _ h=>HU _<|h.elim .inl λe=>.inr<|.inr e⟩;have h1:(Bz hf c k v).L c.n=(FK c k v).L c.n:=qh dU
    show BD w' (a c.n) ((Bz hf c k v).L c.n) c.n;rw[h1];exact aw.keep B.C7.size bp)
   clear A bd R bw a6 ea b4 ec ef eh s;go_wp2_with fail;refine af.mono ?_;rintro e w6 ⟨⟨fm,rfl⟩,⟨fr,Sx,ai⟩,aj⟩;have Z:Hid<|{{Bz hf c k v with n:=c.n}with n:=c.n+1}=Bz hf c k v:=O (by
    have h1:=z dC;generalize Bz hf c k v=M at h1;cases M;simp only at h1;subst h1;rfl)
   have bq:=O ai;have cd:=O aj;clear ai aj af;have P:LL w6 bk (.slice la c.n lc) r1 fr a Sx {Bz hf c k v with n:=c.n}:=bq
  all_goals
   have b5:=z cd;have bg:Rw w6 (bk+1) Dw (.slice la c.n lc) c.n λi=>some<|G (a i) 0:=P.bm.log;have fb:=P.bm.c0;have fc:=P.bm.lt;have bh:Hid (∀(o:Obj) (g3 D:Nat) (w3:Y),w3.ownsRow (bk+1) Dw 1 (.slice (some<|G g3 0) (c.n+1) D) (c.n+1) (Gr (λi=>some<|G (a i) 0) c.n++[.pointer (some (G (a c.n) 0))])->((w6).alloc o).grownBy w3 (Value.slice la c.n lc).ownBlock->((Value.slice la c.n lc).ownBlock=some g3\/g3=(w6).heap.size+1)->
     w3.cell? (G bk 0)=some (.slice la c.n lc)/\w3.frozen? (G bk 0)=false/\bk<w3.heap.size/\(∃F t S',AG (w3.setCell (G bk 0) (.slice (some (G g3 0)) (c.n+1) D)) bk (.slice (some (G g3 0)) (c.n+1) D) F t a S' (Bz hf c k v))/\KX Mq bk w (w3.setCell (G bk 0) (.slice (some (G g3 0)) (c.n+1) D))):=O (λo g3 D w3 h1 h2 h3=>by
    obtain⟨p1,p2,p3,p4,p5⟩:=P.fin h1 h2 h3;exact⟨p1,p2,p3,⟨_,_,_,by rw[<-z Z];exact p4⟩,((b5.alloc om o).grown h2 om (λr e=>.inr ⟨oS (P.bm.log.lt r e).1,HU _ (.inr (.inl e))⟩)).setCell (Be _) (λ_=>HU _ (.inl rfl)) _⟩)
   clear P b5;go_wp2_with (at_builtin;refine So _ rfl _ _ 296 rfl (bk+1) Dw i0 (.pointer none) 1 8 underlying296 di dj dk dm rfl oo (.slice la c.n lc) c.n (Gr (λi=>some<|G (a i) 0) c.n) rfl (PC bg _) (G ((w6).heap.size) 0) 1 1 [.pointer (some (G (a c.n) 0))] rfl rfl (ID<|DD _ _) oh oo od om ot ((w6).heap.size+1) oq ?_;intro g3 D w3 ad ah ae c7;obtain⟨x3,f3,fe,b6,b7⟩:=z bh _ g3 D w3 ad ah ae;have cz:=O b6;have cD:=O b7;clear ad ah ae b6 b7);go_end0;obtain⟨F,t,S',hN⟩:=z cz;exact⟨⟨⟨_,rfl⟩,_,F,t,a,S',hN⟩,cD⟩
def AG.rV(h:AG w bk r0 r1 R2 E S d){p}(hp:p<d.n){q}(hz:w'.heap.size=w.heap.size)(hb:∀b,b≠E p->w'.heap[b]?=w.heap[b]?)(u:w'.heap[E p]?=some (.cells (Gc q p) 303 (0,0)))(hk:q.key=(d.L p).key\/∀j,j<d.x->d.X j≠(p)+1):AG w' bk r0 r1 R2 E S {d with L:=AV d.L p q}:=by
 have g:=h.CE p hp;have k:E p≠bk:=oS<|h.eb p hp;have hc:∀q,w'.cell? (G bk q)=w.cell? (G bk q):=λq=>As (a:=G bk q)<|hb bk λe=>k e.symm;have o:∀{t:TypeId} {v:V9} {n:Nat} {f:Nat->Option Addr},Rw w (bk+1) t v n f->t≠303->Rw w' (bk+1) t v n f:=λ{t v n f} r A=>CL r (λb e=>hb b (λe'=>by
  obtain⟨c,l⟩:=r.block e;rw[e']at l;exact Bl l g.ob A))
 refine⟨by rw[hz];exact h.lt,(hc _).trans h.c0,(hc _).trans h.c1,(hc _).trans h.c2,(hc _).trans h.c3,(hc _).trans h.c4,(hc _).trans h.c5,(hc _).trans h.c6,λq=>(It (a:=G bk q)<|hb bk λe=>k e.symm).trans<|h.fz q,o h.log oo,o h.ints oo,h.rf,o h.slots oo,h.ap,λi hi=>?_,h.eb,h.inj,λj hj=>?_,h.sg⟩
 .show BD w' (E i) (AV d.L p q i) i;by_cases e:i=p
  .subst e;rw[Ao];exact BD.Yd u
  rw[Ai _ _ e];exact(h.CE i hi).keep om (hb _ λe'=>e<|h.inj i p hi hp e')
 have hs:=(h.sl j hj).keep (w':=w') om (λc m=>hb _ (λe=>by
  rw[e]at m;exact Bl m g.ob oo))
 refine⟨λs=>?_,hs.2⟩;have h1:=hs.1 s;show Hf w' (S j) (AV d.L p q (d.X j-1).toNat).key (E (d.X j-1).toNat);by_cases e:(d.X j-1).toNat=p
 .rw[e,Ao];rcases hk with hk|hk
  .rw[hk];have h2:Hf w' (S j) (d.L (d.X j-1).toNat).key<|E (d.X j-1).toNat:=h1;rw[e]at h2;exact h2
  have B:0<d.X j:=s;exact absurd (show d.X j=(p:Int)+1 by omega)<|hk j hj
 rw[Ai _ _ e];exact h1
def II(w:Y)(b:Nat)(v:Vl):World:=((((w.setCell (G b 5)<|J v.kind).setCell (G b 6)<|J v.num).setCell (G b 7)<|F9 v.Af).setCell (G b 8)<|.string v.str).setCell (G b 9)<|J v.ref
def CZ(w:Y)(b:Nat):World:=((((((((((w.setCell (G b 0)<|J 0).setCell (G b 1)<|J 0).setCell (G b 2)<|F9 0).setCell (G b 3)<|E9).setCell (G b 4)<|J 0).setCell (G b 5)<|J 0).setCell (G b 6)<|J 0).setCell (G b 7)<|F9 0).setCell (G b 8)<|E9).setCell (G b 9)<|J 0).setCell (G b 10)<|J 0
def Th{v}(h:b'≠b):(II w b v).heap[b']?=w.heap[b']?:=by
 unfold II;iterate 5 (refine(At _ _ _ _<|by exact h).trans ?_)
 rfl
def PF(h:b'≠b):(CZ w b).heap[b']?=w.heap[b']?:=by
 unfold CZ;iterate 11 (refine(At _ _ _ _<|by exact h).trans ?_)
 rfl
def Vq{v}(h:BD w b p i):(II w b v).heap[b]?=some (.cells (Gc ⟨p.key,v,p.turn⟩ i) 303 (0,0)):=by
 have h1:=Lo w b 5 _ _ (J v.kind) h.ob;have h2:=Lo _ b 6 _ _ (J v.num) h1;have h3:=Lo _ b 7 _ _ (F9 v.Af) h2;have h4:=Lo _ b 8 _ _ (.string v.str) h3;have h5:=Lo _ b 9 _ _ (J v.ref) h4;exact h5.trans<|by simp[Gc]
def Ka(h:BD w b p i):(CZ w b).heap[b]?=some (.cells (Gc default i) 303 (0,0)):=by
 have h1:=Lo w b 0 _ _ (J 0) h.ob;have h2:=Lo _ b 1 _ _ (J 0) h1;have h3:=Lo _ b 2 _ _ (F9 0) h2;have h4:=Lo _ b 3 _ _ E9 h3;have h5:=Lo _ b 4 _ _ (J 0) h4;have d:=Lo _ b 5 _ _ (J 0) h5;have e:=Lo _ b 6 _ _ (J 0) d;have f:=Lo _ b 7 _ _ (F9 0) e;have g:=Lo _ b 8 _ _ E9 f;have a:=Lo _ b 9 _ _ (J 0) g;have c:=Lo _ b 10 _ _ (J 0) a;exact c.trans<|by simp[Gc];exact⟨rfl,rfl,rfl,rfl,rfl,rfl,rfl,rfl,rfl,rfl,rfl⟩
def Tg{v}(h:bk<=b):Below bk w<|II w b v:=by
 unfold II;iterate 5 (refine NO ?_ (by exact h) _)
 exact BE _ _
def PE(h:bk<=b):Below bk w<|CZ w b:=by
 unfold CZ;iterate 11 (refine NO ?_ (by exact h) _)
 exact BE _ _
def Vr{v}:(II w b v).heap.size=w.heap.size:=by unfold II;simp
def QI:(CZ w b).heap.size=w.heap.size:=by unfold CZ;simp
def Z5(g:Ev T){hf}{K}(h:∀v,K v->Qi T v (hf v)){bk}(k:∀w w',T w->Below bk w w'->T w'){r0 r1}{R2}{E S}{d}{W:Y}(n:T W)(o:AG W bk r0 r1 R2 E S d)(p:Small d)(c:BK K hf d)(f:D8 d):
  C9 215 #[Q9 bk] W λe w'=>((∃u,e=.returned u)/\∃a b l S',AG w' bk a r1 b l S'<|Aq hf d)/\Below bk W w':=by
 refine(Nb g hf k n o p (λi hi q=>h _<|c.keys i hi q) (by have:=c.core.Kx;have:=c.le;omega) (λj hj=>by
  rcases c.ints j hj with e|e
  .exact .inl e
  .exact .inr ⟨e.1,e.2.1,e.2.2.1⟩) (λj hj r=>by
  rcases c.idx.range j hj with e|e|⟨e1,e2,e3,_⟩
  .omega
  .omega
  exact⟨om,e3⟩)).mono ?_
 rintro e w' ⟨⟨hu,a,b,l,S',hN⟩,m⟩;exact⟨⟨hu,a,b,l,S',hN.KZ c.core<|by have:=f.1;have:=f.2;omega⟩,m.C7⟩
def Zm(h:¬D8 d):Aq hf d=d:=C3 (by
 by_cases a:(d.n:Int)<8
 .exact .inl a
 exact .inr (by
  refine AaR λh2=>h ⟨om,om⟩))
def WU(T)(aq:Ev T)(hf)(K)(KL:KeyLaw K hf)(bg:∀v,K v->Qi T v (hf v))(bk)(bh:∀w w',T w->Below bk w w'->T w')(r0 r1)(R2)(E S)(d)(p)(w)(hT:T w)(Q:AG w bk r0 r1 R2 E S d)(D:Small d)
  (F:Inv K hf d) (hp:p<d.n) (ht:(d.L p).turn≠0):
  C9 204 #[.pointer (some<|G bk 0),.pointer (some<|G (E p) 0)] w λe w'=>((∃u,e=.returned u)/\∃ar f au E2 S',AG w' bk ar f au E2 S'<|aO hf d p)/\Below bk w w':=by
 rcases Ff KL F.i0 F.next hp ht,Q.lt,Q.CE p hp with⟨⟨g1,g2,g3,g4,g5,g6⟩,cc,t⟩;rcases t.k0,t.k1,t.k2,t.k3,t.k4,t.lt,Q.eb p hp,Q.rf,Q.c1 with⟨k0,k1,k2,k3,k4,av,cd,⟨R1,q1,e1⟩,c1⟩;rw[e1]at c1;rcases D.m,F.i0.log.CP,F.i0.le with⟨bj,cb,cg⟩;have ch:1<=d.live:=by
  have h1:=Ln hp ht;have h3:CC d d.n=JM d:=rfl;omega
 have cj:IntKind.i64.wrap (d.live-1)=d.live-1:=oj;have END:∀(W:Y) (f:V9) (S':Nat->Nat) (c:Dc),Below bk w W->AG W bk r0 f R2 E S' c->c.n=d.n->c.L=d.L->(∀j,j<c.x->c.X j≠(p:Int)+1)->{c with L:=AV c.L p default,live:=d.live-1}=GL hf d p->c.live=d.live->Small c->
   (W.frozen? (G (E p) 0)=false/\∀q,W.frozen? (G (E p) q)=false)/\E p<W.heap.size/\BD W (E p) (d.L p) p/\BD (CZ W<|E p) (E p) default p/\AG (CZ W<|E p) bk r0 f R2 E S' {c with L:=AV c.L p default}/\AG ((CZ W<|E p).setCell (G bk 5)<|J<|d.live-1) bk r0 f R2 E S' (GL hf d p)/\Below bk w ((CZ W<|E p).setCell (G bk 5)<|J<|d.live-1):=λW f S' c hB B hn hL hx hg hl hs=>by
  have he:BD W (E p) (d.L p) p:=by have:=B.CE p om;rwa [hL]at this
  have g:=B.rV om QI (λb hb=>PF hb) (Ka he)<|.inr hx;have ak:=g.IC<|d.live-1;have ak:AG ((CZ W<|E p).setCell (G bk 5)<|J<|d.live-1) bk r0 f R2 E S' {c with L:=AV c.L p default,live:=d.live-1}:=ak;rw[hg]at ak;have bm:∀q,W.frozen? (G (E p) q)=false:=λq=>by simp[World.frozen?,he.ob]
  exact⟨⟨bm 0,bm⟩,he.lt,he,BD.Yd<|Ka he,g,ak,(hB.trans<|PE om).setCell (by exact Be _) _⟩
 have ag:=O END;have R:∀(W:Y) (f:V9) (S':Nat->Nat),Below bk w W->AG W bk r0 f R2 E S' (GL hf d p)->Small (GL hf d p)->(C9 214 #[.pointer (some<|G bk 0)] W<|R9 (.bool<|tells<|D8<|GL hf d p) W)/\(∀W',B9 W W'->D8 (GL hf d p)->C9 215 #[.pointer (some<|G bk 0)] W' λe w'=>((∃u,e=.returned u)/\∃ar au E2 S',AG w' bk ar f au E2 S'<|aO hf d p)/\Below bk W' w')/\(∀W',B9 W W'->¬D8 (GL hf d p)->AG W' bk r0 f R2 E S' (aO hf d p)):=λW f S' hB B hs=>by
  refine⟨MT B hs (by rw[g5];omega)<|by rw[g5];omega,λW' A k=>?_,λW' A k=>?_⟩
  .exact Z5 aq bg bh (bh _ _ hT<|hB.trans<|A.mono<|oS B.lt) (B.below A) hs g1 k
  show AG W' bk r0 f R2 E S' (Aq hf<|GL hf d p);rw[Zm k];exact B.below A
 have ai:=O R;by_cases hs:Ay d.m (d.L p).key
 focus
  have aw:=O<|Al hs;obtain⟨a1,a2,a3⟩:=hs;obtain⟨q,hq⟩:∃q:Nat,(d.L p).key.num=(q:Int)+1:=⟨((d.L p).key.num-1).toNat,om⟩;have bz:q<d.m:=om;have HG:Hid<|{{d with m:=shrink (AV d.I q 0) d.m,I:=AV d.I q 0}with L:=AV d.L p default,live:=d.live-1}=GL hf d p:=O (by
   rw[JC ⟨a1,a2,a3⟩];unfold goSmall;rw[show((d.L p).key.num-1).toNat=q by omega];rfl)
  have U:∀j,j<d.x->d.X j≠(p:Int)+1:=λj hj e=>by
   rcases F.i0.idx.range j hj with h|h|⟨h1,h2,h3,h4⟩
   .omega
   .omega
   rw[show(d.X j-1).toNat=p by omega]at h4;exact h4 ⟨a1,a2,a3⟩
  have ck:=(Jq (AV d.I q 0) d.m).1;have Z:Hid<|∀W,B9 w W->C9 212 #[.pointer (some<|G bk 0),J ((q:Int)+1)] W λe w'=>((∃u,e=.returned u)/\∃f,AG w' bk r0 f R2 E S {d with m:=shrink (AV d.I q 0) d.m,I:=AV d.I q 0})/\Below bk W w':=O (λW hW=>QJ q (Q.below hW) D bz (λj hj=>by
   rcases F.i0.ints j hj with e|e<;>omega))
  have HQ:=O hq;have ax:=O U;clear a1 a2 a3 hq U Q hT F END R g1 g2 g3 g4 g5 g6;go_enter func204,ntmps204;go_wp2_with fail;refine qr w ?_;(iterate 10 refine N (h:=?_));refine GC λK hK=>?_;go_simp;apply Exists.intro;refine ql (λw' ae=>?_) (hK _ ?_)
  .refine((z aw)▸Ck (d.L p).key d.m _ bj).mono ?_;rintro e b0 ⟨rfl,hb⟩;exact⟨rfl,o8 ae hb⟩
  clear hK K;refine GS ?_;intro w1 l;have b1:=(l.cell av).trans k1;rw[z HQ]at b1;have r:=A0 av l.size;have af:=O l;clear l k0 k1 k2 k3 k4 c1;go_wp2_with fail;refine(Z _ af).mono ?_;rintro e w2 ⟨⟨⟨uu,rfl⟩,f,g⟩,ao⟩;rcases z ag w2 f S _ (af.mono om |>.trans ao) g rfl rfl ax HG rfl ⟨D.n,by show shrink (AV d.I q 0) d.m<=_;omega,D.x⟩,g.c5,g.fz 5,g.lt with⟨⟨⟨b2,ff⟩,l2,e2,bn,m2,m3,b3⟩,c5,f5,b4⟩;rcases e2.k0,e2.k1,e2.k2,e2.k3,e2.k4,e2.v0,e2.v1,e2.v2,e2.v3,e2.v4,e2.tn with⟨z0,z1,z2,z3,z4,z5,z6,z7,z8,z9,b5⟩;have bp:Small<|GL hf d p:=by rw[<-z HG];exact⟨D.n,by show shrink (AV d.I q 0) d.m<=_;omega,D.x⟩
 rotate_left
 focus
  have aw:=O<|Ae hs;obtain⟨s,bq,b6,ay⟩:=F.i0.found KL (F.i0.keys p hp ht) ⟨hp,ht,hs⟩<|KL.refl _<|F.i0.keys p hp ht;have HG:Hid<|{{d with X:=AV d.X s (-1)}with L:=AV d.L p default,live:=d.live-1}=GL hf d p:=O (by rw[K5 hs ay];rfl);have U:∀j,j<d.x->AV d.X s (-1) j≠(p:Int)+1:=λj hj e=>by
   by_cases ej:j=s
   .rw[ej,Ao]at e;omega
   rw[Ai _ _ ej]at e;exact ej (F.i0.idx.uniq j s hj bq om om)
  have aj:Hid<|∀W,B9 w W->C9 207 #[.pointer (some<|G bk 2),V (d.L p).key.kind (d.L p).key.num (d.L p).key.Af (d.L p).key.str (d.L p).key.ref] W (R9 (J (s:Int)) W):=O (λW hW=>by
   obtain⟨b7,b8,hB⟩:=(Q.below hW).book;have:=OJ T aq bk b7 b8 R2 E S d (d.L p).key (hf (d.L p).key) (bg _ (F.i0.keys p hp ht)) W (aq _ _ hT hW) hB D F.i0.d4;rw[ay]at this;exact this)
  have Z:Hid<|∀W,B9 w W->C9 213 #[.pointer (some<|G bk 2),J (s:Int)] W λe w'=>((∃u,e=.returned u)/\∃S',AG w' bk r0 r1 R2 E S' {d with X:=AV d.X s (-1)})/\KX (λb=>b=R2) bk W w':=O λW hW=>Jd s (Q.below hW) D bq;obtain⟨cl,ah⟩:=Q.slots.block (b:=R2) rfl;have bc:E p≠R2:=λe=>Bl (e▸t.ob) ah oo;have ax:=O U;clear hs U Q hT F END R g1 g2 g3 g4 g5 g6 b6 ay ah;go_enter func204,ntmps204;go_wp2_with fail;refine qr w ?_;(iterate 10 refine N (h:=?_));refine GC λK hK=>?_;go_simp;apply Exists.intro;refine ql (λw' ae=>?_) (hK _ ?_)
  .refine((z aw)▸Ck (d.L p).key d.m _ bj).mono ?_;rintro e b0 ⟨rfl,hb⟩;exact⟨rfl,o8 ae hb⟩
  clear hK K;refine GS ?_;intro w1 l;have i:=t.keep l.size<|l.block _ av;have H:KP (E p) (d.L p).key w1.drew:=⟨i.k0,i.k1,i.k2,i.k3,i.k4⟩;rcases i.lt,l.size,O l with⟨r,cm,af⟩;clear l k0 k1 k2 k3 k4 c1 i;go_wp2_with fail;refine GH (KP (E p) (d.L p).key) ?_;refine tz 0 (h:=tz 1 (h:=tz 2 (h:=tz 3 (h:=tz 4 (h:=tz 5 (h:=tz 6 (h:=tz 7 (h:=tz 8 (h:=tz 9 (h:=tz 10 (h:=?_)))))))))));refine ry 11 λK hK=>?_;go_simp;refine(aj _ af.drew).mono ?_;rintro e wf ⟨rfl,o⟩;have o:=(BE w1.heap.size w1).drew.trans o;have C:KP (E p) (d.L p).key wf:=⟨(o.cell (p:=G (E p) 0) r).trans H.1,(o.cell (p:=G (E p) 1) r).trans H.2.1,(o.cell (p:=G (E p) 2) r).trans H.2.2.1,(o.cell (p:=G (E p) 3) r).trans H.2.2.2.1,(o.cell (p:=G (E p) 4) r).trans H.2.2.2.2⟩;refine hK.out _ _ C λ_=>?_;clear hK K H;have cn:=o.size;have br:=af.trans<|o.mono om;clear o;refine ry 12 λK hK=>?_;go_simp;refine(Z _ br).mono ?_;rintro e w2 ⟨⟨⟨uu,rfl⟩,S2,g⟩,ad⟩;have ao:=ad.C7;have M:=ad.BB (E p) om bc;refine hK.out _ _ ⟨(As (a:=G (E p) 0) M).trans C.1,(As (a:=G (E p) 1) M).trans C.2.1,(As (a:=G (E p) 2) M).trans C.2.2.1,(As (a:=G (E p) 3) M).trans C.2.2.2.1,(As (a:=G (E p) 4) M).trans C.2.2.2.2⟩ λ_=>?_;clear hK K C ad M;refine FE ?_;rcases z ag w2 r1 S2 _ (br.mono om |>.trans ao) g rfl rfl ax HG rfl ⟨D.n,D.m,D.x⟩,g.c5,g.fz 5,g.lt with⟨⟨⟨b2,ff⟩,l2,e2,bn,m2,m3,b3⟩,c5,f5,b4⟩;rcases e2.k0,e2.k1,e2.k2,e2.k3,e2.k4,e2.v0,e2.v1,e2.v2,e2.v3,e2.v4,e2.tn with⟨z0,z1,z2,z3,z4,z5,z6,z7,z8,z9,b5⟩;have bp:Small<|GL hf d p:=by rw[<-z HG];exact⟨D.n,D.m,D.x⟩
 all_goals
  obtain⟨L1,L2,L3⟩:=z ai _ _ _ b3 m3 bp;unfold CZ at L1 L2 L3 b3;rcases O L1,O L2,O L3,O b3 with⟨az,aM,a6,bt⟩;clear g ao e2 bn m2 m3 b3 L1 L2 L3;go_wp2_with fail;by_cases k:D8 (GL hf d p)
  .have a7:=O<|Al k;have bd:=O λW' A=>aM W' A k;clear k aM a6;refine az.mono ?_;rintro e w5 ⟨rfl,P⟩;rw[z a7];have bu:=O P;clear P;go_wp2_with fail;refine(bd _ bu).mono ?_;rintro e w6 ⟨⟨⟨cp,rfl⟩,b9,ca,E6,S6,bw⟩,bx⟩;have a8:=bt.trans<|(bu.mono ot).trans bx;have bb:=O bw;clear bw bx;go_wp2;go_end0;exact⟨⟨⟨_,rfl⟩,b9,_,ca,E6,S6,bb⟩,a8⟩
  have a7:=O<|Ae k;have bf:=O λW' A=>a6 W' A k;clear k aM a6;refine az.mono ?_;rintro e w5 ⟨rfl,P⟩;rw[z a7];have a8:=bt.trans<|P.mono ot;have bb:=z bf _ P;clear P az;go_wp2;go_end0;exact⟨⟨⟨_,rfl⟩,_,_,_,_,_,bb⟩,a8⟩
def qH:Prop:=∀(T:World->Prop) (f:Ev T) (hf:Vl->Nat) (K:Vl->Prop) (j:KeyLaw K hf) (g:∀v,K v->Qi T v (hf v)) (bk:Nat) (h:∀w w',T w->Below bk w w'->T w') (r0 r1:V9) (R2:Nat) (E S:Nat->Nat) (d:Dc) (p:Nat) (w:Y) (k:T w) (l:AG w bk r0 r1 R2 E S d) (m:Small d)
  (o:Inv K hf d) (hp:p<d.n) (q:(d.L p).turn≠0),
  C9 204 #[Q9 bk,Q9 (E p)] w λe w'=>((∃u,e=.returned u)/\∃a b c i S',AG w' bk a b c i S'<|aO hf d p)/\Below bk w w'
def uO:qH:=WU
def MD(k v:Vl):Prop:=(v.kind=0->qH)/\(k.kind=2/\0<k.num->mP)
theorem eM k v:MD k v:=⟨λ_=>uO,λ_=>uD⟩
def pM(p:Int)(d:Dc)(k:Vl)(bk:Nat)(r0:V9)(R2 b:Nat):Prop:=p=-1->aM d k bk r0 R2 b
def Yo(B:Ev T){hf}{K}(KL:KeyLaw K hf)(Z:∀v,K v->Qi T v (hf v)){bk}(aj:∀w w',T w->Below bk w w'->T w'){r0 r1}{R2}{E S}{d}{k}(v){w:Y}(hT:T w)(C:AG w bk r0 r1 R2 E S d)(hS:Small d)(aq:d.m<=4000000)
  (Q:Inv K hf d) (hk:K k) (ar:BP k=true) (hv:v.ok=true) (hR:MD k v):
  C9 194 #[Q9 bk,V k.kind k.num k.Af k.str k.ref,V v.kind v.num v.Af v.str v.ref] w λe w'=>((∃u,e=.returned u)/\∃n o p R S',AG w' bk n o p R S'<|B2 hf d k v)/\KX (pM (Av d k<|hf k) d k bk r0 R2) bk w w':=by
 have ak:0<=Av d k (hf k)->∀b,pM (Av d k<|hf k) d k bk r0 R2 b:=λh b h'=>om;have ao:∀b,aM d k bk r0 R2 b->pM (Av d k<|hf k) d k bk r0 R2 b:=λb h _=>h;generalize pM (Av d k<|hf k) d k bk r0 R2=Mq at*;have au:=O ak;have av:=O ao;clear ak ao;have U:=C.lt;have c:B9 w<|(w.alloc<|.cells (qf k) 43).alloc<|.cells (qf v) 43:=(n9).alloc oq _;have g:Hid<|KY ((w.alloc<|.cells (qf k) 43).alloc<|.cells (qf v) 43) w.heap.size k/\KY ((w.alloc<|.cells (qf k) 43).alloc<|.cells (qf v) 43) (w.heap.size+1) v:=O ⟨⟨ot,oe,oe,oe,oe,oe⟩,⟨oq,oe,oe,oe,oe,oe⟩⟩;have t:∀W,B9 w W->C9 196 #[Q9 bk,V k.kind k.num k.Af k.str k.ref] W (R9 (.pointer<|Db E<|Av d k<|hf k) W):=λW D=>by
  obtain⟨bc,bd,hB⟩:=(C.below D).book;exact Jy B (Z k hk) (B _ _ hT D) hB hS Q.i0.d3 Q.i0.d4
 rcases Q.i0.place KL hk with⟨i,h1,h2,h3,h4⟩|⟨h1,h2⟩
 .have hp:0<=Av d k (hf k):=om;have HU:=O<|au hp;have hi:(Av d k<|hf k).toNat=i:=om;have x:Db E (Av d k<|hf k)=some (G (E i) 0):=by unfold Db;rw[C3 hp,hi]
  rw[x]at t;have l:=O t;have aw:=C.eb i h1;by_cases A:v.kind=0
  .have j:Hid<|B2 hf d k v=aO hf d i:=O (by rw[Ll hp A,hi]);have ah:Hid<|∀W,B9 w W->C9 204 #[Q9 bk,Q9 (E i)] W λe w'=>((∃u,e=.returned u)/\∃n o p R S',AG w' bk n o p R S'<|aO hf d i)/\Below bk W w':=O λW D=>hR.1 A T B hf K KL Z bk aj r0 r1 R2 E S d i W (B _ _ hT D) (C.below D) hS Q h1 h2;have HV:=O A;rw[z j];clear C hT hS Q h2 h3 h4 hp hi x t A;go_enter func194,ntmps194;go_wp2_with fail;refine(l _ c).mono ?_;rintro e w1 ⟨rfl,a⟩;have r:=g.2.keep a.size<|a.block _ g.2.lt;have v0:=r.k0;rw[z HV]at v0;have s:=o8 c a;clear a r;go_wp2_with fail;refine(ah _ s).mono ?_;rintro e w2 ⟨⟨⟨uu,rfl⟩,n,o,p,R,S',F⟩,H⟩;have ad:=O F;have I:=(s.mono<|AaO U).trans H;clear F H;go_wp2;go_end0;exact⟨⟨⟨_,rfl⟩,n,o,p,R,S',ad⟩,I,λb _ h=>absurd (HU b) h⟩
  have j:Hid<|B2 hf d k v=Ht d i v:=O (by rw[Jl hp A,hi]);have a6:(v.kind !=0)=true:=by simp[A]
  have X:Hid<|∀W,B9 w W->BD W (E i) (d.L i) i/\AG (II W (E i) v) bk r0 r1 R2 E S (Ht d i v):=O (λW D=>by
   have P:=(C.below D).CE i h1;exact⟨P,(C.below D).rV h1 Vr (λb hb=>Th hb) (Vq P) (.inl rfl)⟩)
  rw[z j];clear C hT hS Q h2 h3 h4 hp hi x t A;go_enter func194,ntmps194;go_wp2_with fail;refine(l _ c).mono ?_;rintro e w1 ⟨rfl,a⟩;have r:=g.2.keep a.size<|a.block _ g.2.lt;rcases r.k0,r.k1,r.k2,r.k3,r.k4,o8 c a with⟨v0,v1,v2,v3,v4,f⟩;obtain⟨P,hN⟩:=z X _ f;have bf:∀q,w1.frozen? (G (E i) q)=false:=λq=>by simp[World.frozen?,P.ob]
  rcases P.v0,P.v1,P.v2,P.v3,P.v4,(f.mono<|AaO U).trans (Tg (bk:=bk) (w:=w1) (b:=E i) (v:=v)<|AaO aw) with⟨z5,z6,z7,z8,z9,I⟩;clear a r f P X g l c;go_wp2;go_end0;exact⟨⟨⟨_,rfl⟩,_,_,_,_,_,hN⟩,I,λb _ h=>absurd (HU b) h⟩
 have hp:¬0<=Av d k (hf k):=om;have x:Db E (Av d k<|hf k)=none:=by unfold Db;rw[Cs hp]
 rw[x]at t;have l:=O t;by_cases hc:v.kind≠0/\d.live<500/\d.turns<1000000000000
 .have j:=O<|F3 hp hc;obtain⟨ae,af,ag⟩:=hc;have a7:(v.kind !=0)=true:=by simp[ae]
  have a8:decide (d.live<500)=true:=by simp[af]
  have bb:decide (d.turns<1000000000000)=true:=by simp[ag]
  have ai:Hid<|∀W,B9 w W->C9 205 #[Q9 bk,V k.kind k.num k.Af k.str k.ref,V v.kind v.num v.Af v.str v.ref] W λe w'=>((∃u,e=.returned u)/\∃n o p R S',AG w' bk n o p R S'<|GK hf d k v)/\KX Mq bk W w':=O λW D=>iI B KL Z aj v (B _ _ hT D) (C.below D) hS aq Q hk ar hv ae h1 af ag hR.2 |>.mono λe w' h=>⟨h.1,h.2.mono λb _=>av b⟩;have HM:=O C;rw[z j];clear C hT hS Q h1 h2 hp x t ae af ag;go_enter func194,ntmps194;go_wp2_with fail;refine(l _ c).mono ?_;rintro e w1 ⟨rfl,a⟩;rcases o8 c a,g.2.keep a.size<|a.block _ g.2.lt,g.1.keep a.size (a.block _ g.1.lt) with⟨f,r,vk⟩;rcases r.k0,r.k1,r.k2,r.k3,r.k4,vk.k0,vk.k1,vk.k2,vk.k3,vk.k4,(HM.below f).c5,(HM.below f).c6,O f with⟨v0,v1,v2,v3,v4,y0,y1,y2,y3,y4,c5,c6,s⟩;clear a r vk f;go_wp2_with fail;refine(ai _ s).mono ?_;rintro e w2 ⟨⟨⟨uu,rfl⟩,n,o,p,R,S',F⟩,H⟩;have ad:=O F;have I:=(KX.Ax s<|AaO U).trans H;clear F H;go_wp2;go_end0;exact⟨⟨⟨_,rfl⟩,n,o,p,R,S',ad⟩,I⟩
 have j:=O<|Gu hp hc;have HM:=O C;rw[z j];have ax:v.kind=0\/(v.kind≠0/\¬d.live<500)\/(v.kind≠0/\d.live<500/\¬d.turns<1000000000000):=by
  by_cases e1:v.kind=0
  .exact .inl e1
  by_cases e2:d.live<500
  .exact .inr (.inr ⟨e1,e2,λe3=>hc ⟨e1,e2,e3⟩⟩)
  exact .inr<|.inl ⟨e1,e2⟩
 clear C hT hS Q h1 h2 hp x t hc;go_enter func194,ntmps194;go_wp2_with fail;refine(l _ c).mono ?_;rintro e w1 ⟨rfl,a⟩;have f:=o8 c a;have r:=g.2.keep a.size<|a.block _ g.2.lt;have v0:=r.k0;have M:=HM.below f;have c5:=M.c5;have c6:=M.c6;have s:KX Mq bk w w1:=KX.Ax f<|AaO U;clear a r f;rcases ax with e1|⟨e1,e2⟩|⟨e1,e2,e3⟩
 .rw[e1]at v0;clear e1;go_wp2;go_end0;exact⟨⟨⟨_,rfl⟩,_,_,_,_,_,M⟩,s⟩
 .have ay:(v.kind !=0)=true:=by simp[e1]
  have az:decide (d.live<500)=false:=by simp[e2]
  clear e1 e2;go_wp2;go_end0;exact⟨⟨⟨_,rfl⟩,_,_,_,_,_,M⟩,s⟩
 have ay:(v.kind !=0)=true:=by simp[e1]
 have az:decide (d.live<500)=true:=by simp[e2]
 have bg:decide (d.turns<1000000000000)=false:=by simp[e3]
 clear e1 e2 e3;go_wp2;go_end0;exact⟨⟨⟨_,rfl⟩,_,_,_,_,_,M⟩,s⟩
def Ox{t}(c:a<x)(b:t<x):((a+t)%x+x-a)%x=t:=by
 by_cases h:a+t<x
 .rw[TC h,show a+t+x-a=t+x by omega,Nat.add_mod_right,TC b]
 have e:(a+t)%x=a+t-x:=by rw[Nat.mod_eq_sub_mod om,TC om]
 rw[e,show a+t-x+x-a=t by omega,TC b]
def dM{t}(b:0<x):((a+t)%x+1)%x=(a+(t+1))%x:=by
 rw[Nat.mod_add_mod];rfl
def Jf hf c o B v0 v1 v2 d k(p:Nat)w(D:AR w c o B v0 v1 v2 d)(F:8<=d.x/\d.x<=4000/\Ga d.x)(hu:B7 d.X d.x<d.x)(ar:0<=d.used/\d.used<=4000)(hp:p<=4194304)(hh:YA k<|hf k):
  C9 156 #[Pc c o,V k.kind k.num k.Af k.str k.ref,J p] w λe w'=>((∃u,e=.returned u)/\AR w' c o B v0 v1 v2 (AW hf d k p))/\C6 c o v0 v1 v2 w v0 v1 v2 w':=by
 obtain⟨T,hT,H,m,n⟩:=Fe (a:=hf k%d.x) (UP _ om) hu;have U:=O<|Ft (p:=p) H;obtain⟨g,W,rfl,au,I,av,hcs,K⟩:=D.index.form om;have hand:=Tw (h:=hf k) F.2.2 F.2.1 hh.lt;have f:hf k%d.x<d.x:=UP _ om;obtain⟨a0,L⟩:=o9<|hf k%d.x;rw[<-L]at hand f m n U;rcases F.1,F.2.1,D.c2,D.lt with⟨aw,ax,c2,M⟩;have r:g≠c:=λe=>D.nc<|.inr<|.inr (by rw[<-e];rfl);have ay:c≠g:=λe=>r e.symm;rcases O m,O n,O hcs,O K with⟨ad,ae,af,ag⟩;have P:B9 w<|w.alloc<|.cells (qf k) 43:=n9;clear F m n hcs K L H;go_enter func156,ntmps156;go_wp2_with fail;refine(hh.call _).mono ?_;rintro e w1 ⟨rfl,ah⟩;have i:=o8 P ah;go_wp2_with fail;go_loopw [7] (λa wr=>∃t:Nat,a=J (((a0+t)%d.x:Nat):Int)/\t<=T/\wr=w1) λa _=>d.x-(((intOf a).toNat+d.x-a0)%d.x)
 .exact⟨0,by rw[Aaw,TC f],om,rfl⟩
 obtain⟨t,rfl,az,rfl⟩:=hrel;have c2:=(i.cell M).trans D.c2;obtain⟨a,E⟩:=o9<|(a0+t)%d.x;have s:a<d.x:=by rw[E];exact UP _ om
 have e0:=(i.cell I).trans<|af a s;have HA:=O E;have HN:Hid<|(a+1)%d.x=(a0+(t+1))%d.x:=O (by rw[E];exact dM om);have HK:Hid<|(a+d.x-a0)%d.x=t:=O (by rw[E];exact Ox f om);rw[<-E];clear E;by_cases ai:t<T
 .have Q:0<d.X a:=by rw[z HA];exact ae t ai
  have v:decide (0<d.X a)=true:=by simp[Q]
  by_cases hw:a+1=d.x
  .have aj:((a:Int)+1==d.x)=true:=ot;have l:Hid<|(a0+(t+1))%d.x=0:=O (by rw[<-z HN,hw];exact Nat.mod_self _);go_wp2;go_roundw
   .exact⟨t+1,qh l,om,by first|rfl|trivial⟩
   have h1:=Ox (a:=a0) (t:=t+1) f om;rw[z l]at h1;have h2:=z HK;have e0:((0:Int).toNat+d.x-a0)%d.x=t+1:=h1;simp only[intOf,Ok];rw[h2,e0];omega
  have aj:((a:Int)+1==d.x)=false:=ot;have l:Hid<|(a0+(t+1))%d.x=a+1:=O (by rw[<-z HN];exact TC om);have aq:a+1<d.x:=om;go_wp2;go_roundw
  .exact⟨t+1,by rw[z l];go_num,om,by first|rfl|trivial⟩
  have h1:=Ox (a:=a0) (t:=t+1) f om;rw[z l]at h1;have e1:((a:Int)+1).toNat=a+1:=om;simp only[intOf,Ok];rw[z HK,e1,h1];omega
 have R:t=T:=om;subst R;have aM:d.X a<=0:=by rw[z HA];exact ad
 have v:decide (0<d.X a)=false:=ot;have j:=D.below i;have f0:=o7 i I<|ag a;have f3:=j.fz<|o+3;have c3:=j.c3;rw[<-z HA]at U;have S:C6 c o v0 v1 (S9 g d.x W) w v0 v1 (S9 g d.x W) wr:=C6.Ax i M;by_cases Z:d.X a=0
 focus
  have l:Hid<|AW hf d k p={d with X:=AV d.X a ((p:Int)+1),used:=d.used+1}:=O (by rw[z U,C3 Z]);rw[Z]at e0;have ak:AR (wr.setCell (G c<|o+3)<|J<|d.used+1) c o B v0 v1 (S9 g d.x W) {d with used:=d.used+1}:=j.Lr _;have A:=AR.UM (d:={d with used:=d.used+1}) ak s<|(p:Int)+1;have ao:=(S.trans<|Df (o:=o) (v0:=v0) (v1:=v1) (v2:=S9 g d.x W) (q:=o+3) (J<|d.used+1) om λb e=>.inl e).trans<|Fo (q:=a) (J<|(p:Int)+1) (.inr<|.inr rfl) r;have C:=O<|ql A ao
 rotate_left
 focus
  have l:Hid<|AW hf d k p={d with X:=AV d.X a ((p:Int)+1)}:=O (by rw[z U,Cs Z]);have a6:(d.X a==0)=false:=by simp[Z]
  have A:=j.UM s<|(p:Int)+1;have C:=O<|ql A<|S.trans<|Fo (q:=a) (J<|(p:Int)+1) (.inr<|.inr rfl) r
 all_goals
  go_wp2;go_end0;exact⟨⟨⟨_,rfl⟩,by rw[z l];exact C.1⟩,C.2⟩
def Ir(n:Nat)(hn:n<=4194304)w:
  (Instr.makeSlice 91 (J n)<|J n).run prog w=.ok (S9 w.heap.size n n) (w.alloc<|.cells (madeCells #[Value.int .i64 0] n) 3):=by
 have:=JN n hn w;simpa[Value.cells]using this
def ownB{g}(h:(Value.slice (some<|G g 0) n a).ownBlock=some b):g=b:=oF h
theorem Dc.lT{a b:Dc}(n:a.n=b.n)(L:a.L=b.L)(m:a.m=b.m)(I:a.I=b.I)(x:a.x=b.x)(X:a.X=b.X)(u:a.used=b.used)(l:a.live=b.live)(t:a.turns=b.turns):a=b:=by
 obtain⟨⟩:=a;obtain⟨⟩:=b;grind
def ZH(h:BX d k<x):{d with x:=x,X:=(Bn hf d x k).X,used:=(Bn hf d x k).used}=Bn hf d x k:=by
 obtain⟨f1,f2,f3,f4,f5,f6,f7,f8,f9,f10⟩:=Dq (hf:=hf) (x:=x) k h;exact Dc.lT f5.symm f6.symm f7.symm f8.symm f4.symm rfl rfl f9.symm f10.symm
def J6 hf{c o B}{v0 v1 v2}{d}more{w}(hM:AR w c o B v0 v1 v2 d)(hS:Small d)(hm:BX d d.n+more<=500)(hh:∀i,i<d.n->AU d i->YA (d.L i).key (hf (d.L i).key)):
  C9 155 #[Pc c o,J more] w λe w'=>((∃u,e=.returned u)/\∃u2,AR w' c o B v0 v1 u2 (A1 hf d more)/\C6 c o v0 v1 v2 w v0 v1 u2 w'):=by
 rcases hS.n,hM.c0,hM.lt,hM.log.at with⟨hn,c0,a7,⟨la,lc,e0,_⟩⟩;subst e0;have HH:=O hh;clear hh;go_enter func155,ntmps155;go_wp2_with fail;go_loopw [14,4] (λi q wr=>∃k:Nat,i=J (k:Int)/\k<=d.n/\q=J ((BX d k+more:Nat):Int)/\B9 w wr) λi _ _=>d.n-(intOf i).toNat
 .exact⟨0,rfl,om,by simp[BX],BE _ _⟩
 obtain⟨k,rfl,hk,rfl,hb⟩:=hrel;by_cases l:k<d.n
 .have g:=hM.below hb;obtain⟨a8,bb,ia,ic,xa,xc,R,rfl,rfl,hP⟩:=g.ptr;cases R;have bx:=GP (FY d om) (show BX d d.n<=500 by omega);have HP:=O hP;clear g hP;go_wp2_with fail;refine m9 (Fh k HP hS l) λw1 p=>?_;have ai:=o8 hb p;clear p;by_cases t:AU d k
  .rw[Al t];have H:=O<|EL t;clear t;go_wp2;go_roundw
   .exact⟨k+1,ov,om,by rw[z H];go_num,ai⟩
   exact ow
  rw[Ae t];have H:=O<|GM t;clear t;go_wp2;go_roundw
  .exact⟨k+1,ov,om,by rw[z H,Int.natCast_add],ai⟩
  exact ow
 have v:k=d.n:=om;subst v;have g:=hM.below hb;have aj:C6 c o (.slice la d.n lc) v1 v2 w (.slice la d.n lc) v1 v2 wr:=C6.Ax hb a7;rcases g.lt,g.c2,g.c3,g.fz<|o+2,g.fz (o+3) with⟨j,c2,c3,f2,f3⟩;have h:=(g.setIndex (x:=0) (X:=λ_=>0) (NB _ _ _ _) (λe=>by cases e) λq _ e=>by cases e).Lr 0;have S:=(aj.trans<|Df (u2:=N9) (q:=o+2) N9 om λb e=>.inl<|e.elim .inl λe=>e.elim (λe=>.inr<|.inl e) λe=>by cases e).trans<|Df (q:=o+3) (J 0) om λb e=>.inl e;clear g aj hk l;by_cases hz:BX d d.n+more=0
 .have HR:=O<|DC (hf:=hf) hz;have T:(((BX d d.n+more:Nat):Int)==0)=true:=qi hz
  generalize BX d d.n+more=W at hz T hm;clear hz;go_wp2;refine GO (Aay rfl _ _ _) rfl ?_;refine⟨⟨_,rfl⟩,_,?_,S⟩;rw[z HR];exact h.of_same rfl (λ_ _=>rfl) rfl (λ_ _=>rfl) rfl (λi hi=>by cases hi) rfl rfl rfl
 have HR:=O<|CG (hf:=hf) hz;have A:=O<|Du hm;have I:BX d d.n<=BX d d.n+more:=om;have T:(((BX d d.n+more:Nat):Int)==0)=false:=ot;have U:Hid<|BX d d.n<Ct (BX d d.n+more):=O<|oS A.1;generalize bc:BX d d.n+more=W at hz T hm HR A U I;clear bc I;obtain⟨W1,V⟩:=o9<|(wr.setCell (G c<|o+2) N9).setCell (G c<|o+3)<|J 0;go_wp2_with fail;rw[<-V];rw[<-V]at h S;clear V c2 c3 f2 f3 j;go_loopw [6] (λa wr=>∃f s:Nat,a=J (s:Int)/\CM f s (4*W)=Ct W/\8<=s/\s<=4000/\wr=W1) λa _=>4*W-(intOf a).toNat
 .exact⟨9,8,rfl,rfl,om,om,rfl⟩
 obtain⟨f,s,rfl,r,bd,bf,rfl⟩:=hrel;by_cases ak:s<4*W
 .obtain⟨f',rfl⟩:∃f',f=f'+1:=by
   cases f with
   |zero=>
    exfalso;have h1:=A.1;have h2:CM 0 s (4*W)=s:=rfl;omega
   |succ f=>exact⟨f,rfl⟩
  have HG:Hid<|CM f' (2*s) (4*W)=Ct W:=O (by
   have h1:CM (f'+1) s (4*W)=if s<4*W then CM f' (2*s) (4*W)else s:=rfl
   rw[h1,C3 ak]at r;exact r)
  clear r;go_wp2;go_roundw
  .exact⟨f',2*s,ov,HG,om,om,by first|rfl|trivial⟩
  exact ow
 have HG:Hid<|s=Ct W:=O (by
  cases f with
  |zero=>exact r
  |succ f=>
   have h1:CM (f+1) s (4*W)=if s<4*W then CM f (2*s) (4*W)else s:=rfl
   rw[h1,Cs ak]at r;exact r)
 clear r;rcases Ir s om,h.c2,h.fz<|o+2,h.c0,h.lt,o9 ((wr.setCell (G c<|o+2)<|.slice (some<|G wr.heap.size 0) s s).alloc<|.cells (madeCells #[Value.int .i64 0] s) 3) with⟨mk,c2,f2,c0,j,⟨WA,ad⟩⟩;have C:=(h.below<|(BE _ _).alloc (Be _)<|.cells (madeCells #[Value.int .i64 0] s) 3).setIndex (Bq.made wr B s h.base om) (λe=>Nat.ne_of_gt j<|ownB e) (λq e e'=>by
   have e1:=h.WC (.inr (.inl e));have e2:=ownB e';omega)
 have ae:=S.trans<|kU (u1:=v1) (u2:=.slice (some<|G wr.heap.size 0) s s) (q:=o+2) (.cells (madeCells #[Value.int .i64 0] s) 3) (.slice (some<|G wr.heap.size 0) s s) j om λb e=>e.elim (λe=>.inl<|.inl e) λe=>e.elim (λe=>.inl<|.inr<|.inl e) λe=>.inr<|Nat.le_of_eq<|ownB e;rw[World.setCell_alloc_past _ _ _ _ j,<-ad]at C ae;have af:AR WA c o B (.slice la d.n lc) v1 (.slice (some<|G wr.heap.size 0) s s)<|Bn hf d s 0:=C.of_same rfl (λ_ _=>rfl) rfl (λ_ _=>rfl) rfl (λ_ _=>rfl) rfl rfl rfl;have ao:=O C.c0;have bg:=O C.lt;clear C;obtain⟨Z,ag⟩:=o9 wr.heap.size;rw[<-ag]at af ae;go_wp2_with fail;rw[<-ad,<-ag];clear ag;have c0:=z ao;clear ad mk c2 f2;go_wp2_with fail;have aq:=A.2.2.2;rw[<-z HG]at aq;have ar:BX d d.n<s:=by have:=z U;rw[<-z HG]at this;exact this
 have K:=O ar;have bh:Hid<|A1 hf d more=Bn hf d s d.n:=O (by rw[z HR,z HG]);clear ar HG U HR A;go_loopw [47] (λi wz=>∃(k:Nat) (X':Nat->Int) (u':Int),i=J (k:Int)/\k<=d.n/\{d with x:=s,X:=X',used:=u'}=Bn hf d s k/\AR wz c o B (.slice la d.n lc) v1 (.slice (some<|G Z 0) s s) {d with x:=s,X:=X',used:=u'}/\C6 c o (.slice la d.n lc) v1 (.slice (some<|G Z 0) s s) WA (.slice la d.n lc) v1 (.slice (some<|G Z 0) s s) wz) λi _=>d.n-(intOf i).toNat
 .exact⟨0,_,_,rfl,om,rfl,af,C6.refl _ _ _ _ _ _⟩
 clear af c0 ao bg;obtain⟨k,X',u',rfl,hk,heq,hd,F⟩:=hrel;by_cases l:k<d.n
 .have bj:BX d k<s:=by have h1:=FY d (k:=k) (n:=d.n) om;have h2:=z K;omega
  obtain⟨f1,f2,f3,f4,f5,f6,f7,f8,f9,f10⟩:=Dq (hf:=hf) (x:=s) k bj;rw[<-heq]at f2 f3;have f2:(B7 X' s:Int)=u':=f2;have f3:B7 X' s<=BX d k:=f3;have au:0<=u'/\u'<=4000:=om;have av:B7 X' s<s:=om;have aw:=O<|ql au av;have ax:=O heq;have bk:Small {d with x:=s,X:=X',used:=u'}:=⟨hS.n,hS.m,by show s<=_;omega⟩;rcases O F,O hd,hd.ptr with⟨bm,bn,⟨a8,bb,ia,ic,xa,xc,R,bp,bq,hP⟩⟩;cases R;cases bq;subst bp;rcases hd.lt,o9 la,hP.rows.log,O hP with⟨br,⟨lb,bt⟩,ay,HP⟩;clear hd hP F heq au av f1 f2 f3 f4 f5 f6 f7 f8 f9 f10 bt lb;go_wp2_with fail;refine m9 (Fh k HP bk l) λw1 p=>?_;rcases bn.below p,bm.trans<|C6.Ax p br,ay.below p rfl with⟨D,M,E⟩;have az:=D.c0;clear p ay;by_cases t:AU d k
  .rw[show tells (AU {d with x:=s,X:=X',used:=u'} k)=true from Al t];have bu:=z HH k l t;have H:Hid<|{d with x:=s,X:=(Bn hf d s (k+1)).X,used:=(Bn hf d s (k+1)).used}=Bn hf d s (k+1):=O<|ZH (by have h1:=FY d (k:=k+1) (n:=d.n) om;have h2:=z K;omega);have bw:Hid<|Bn hf d s (k+1)=AW hf {d with x:=s,X:=X',used:=u'} (d.L k).key k:=O (by rw[Fb t,z ax]);obtain⟨pb,off,rfl,bz,aM⟩:=E.resolve_left (by show d.n≠0;omega);obtain⟨p0,p1,p2,p3,p4,_,_,_,_,_,_⟩:=aM k l;clear t aM E;go_wp2_with fail;refine(Jf hf c o B _ _ (.slice (some<|G Z 0) s s) {d with x:=s,X:=X',used:=u'} (d.L k).key k _ D ⟨bd,bf,aq⟩ aw.2 aw.1 om bu).mono ?_;rintro e w2 ⟨⟨⟨u,rfl⟩,a6⟩,P⟩;rw[<-z bw,<-z H]at a6;have ah:=M.trans P;clear P p0 p1 p2 p3 p4 az;go_wp2;go_roundw
   .exact⟨k+1,_,_,ov,om,H,a6,ah⟩
   exact ow
  rw[show tells (AU {d with x:=s,X:=X',used:=u'} k)=false from Ae t];have H:Hid<|{d with x:=s,X:=X',used:=u'}=Bn hf d s (k+1):=O (by rw[E8 t,z ax]);clear t E az;go_wp2;go_roundw
  .exact⟨k+1,X',u',ov,om,H,D,M⟩
  exact ow
 have v:k=d.n:=om;subst v;have Q:=O<|ql (heq▸hd)<|ae.trans F;clear hd F heq hk l;go_wp2;go_end0;exact⟨⟨_,rfl⟩,_,by rw[z bh];exact Q.1,Q.2⟩
def Oo(w:Y)(b:Nat)(d:Dc)(k:Nat):Prop:=∃g,w.rowIs b 3 d.n g/\∀j,j<k->(d.L j).turn≠0->g j=J ((CC d j:Int)+1)
def Oo.keep(h:Oo w b d k)(e:w'.heap[b]?=w.heap[b]?):Oo w' b d k:=by
 obtain⟨g,h1,h2⟩:=h;exact⟨g,h1.of_block e,h2⟩
def Oo.lt(h:Oo w b d k):b<w.heap.size:=by
 obtain⟨g,h1,h2⟩:=h;exact h1.lt
def Oo.cell(h:Oo w b d k){j}(hj:j<k)(hn:j<d.n)(a:(d.L j).turn≠0):w.cell? (G b j)=some (J<|(CC d j:Int)+1):=by
 obtain⟨g,h1,h2⟩:=h;rw[h1.cell hn,h2 j hj a]
def Oo.any(h:Oo w b d k){j}(hn:j<d.n):∃u,w.cell? (G b j)=some u:=by
 obtain⟨g,h1,h2⟩:=h;exact⟨_,h1.cell hn⟩
def Oo.frozen(h:Oo w b d k)j:w.frozen? (G b j)=false:=by
 obtain⟨g,h1,h2⟩:=h;exact h1.frozen j
def Oo.put(h:Oo w b d k):Oo (w.setCell (G b k)<|J<|(CC d k)+1) b d<|k+1:=by
 obtain⟨g,h1,h2⟩:=h;refine⟨_,h1.set k _,λj hj a=>?_⟩;grind [Oo,CC]
def Oo.skip(h:Oo w b d k)(a:(d.L k).turn=0):Oo w b d<|k+1:=by
 grind [Oo]
def Gq(d:Dc)(k:Nat):Nat->Int:=λj=>if j<k then(B8 d).I j else d.I j
def WI d j:Gq d 0 j=d.I j:=Cs om
def dT d k:Gq d k k=d.I k:=Cs om
def Zy(h:j<k):Gq d k j=(B8 d).I j:=C3 h
def WG(h:¬0<d.I k)j:Gq d (k+1) j=Gq d k j:=by
 unfold Gq;by_cases e:j=k
 .subst e;rw[C3 om,Cs om];show(if 0<d.I j then _ else d.I j)=_;rw[Cs h]
 omega
def WH{q:Nat}(h:d.I k=(q)+1)j:Gq d (k+1) j=AV (Gq d k) k ((CC d q:Int)+1) j:=by
 unfold Gq;by_cases e:j=k
 .subst e;rw[C3 om,Ao];show(if 0<d.I j then(CC d (d.I j-1).toNat:Int)+1 else d.I j)=_;grind [Gq,AV,CC]
 grind [Gq,AV,CC,Ai]
def K0(h:(d.n:Int)<8\/(d.n:Int)<=2*d.live):Aq hf d=d:=C3 h
def R4(h:¬((d.n:Int)<8\/(d.n:Int)<=2*d.live)):Aq hf d=A1 hf (B8 d) 0:=Cs h
def Fg hf{K}{c o B}{v0 v1 v2}{d}{w}(hM:AR w c o B v0 v1 v2 d)(hS:Small d)(hC:Core K d)(hh:∀v,K v->YA v (hf v)):
  C9 154 #[Pc c o] w λe w'=>((∃u,e=.returned u)/\∃u0 u2,AR w' c o B u0 v1 u2 (Aq hf d)/\C6 c o v0 v1 v2 w u0 v1 u2 w'):=by
 rcases ON EM,hS.n,hS.m,hC.Kx,hC.le,hM.c0,hM.c4,hM.lt,hM.log.at with⟨⟨i0,hi,bf,bg,bh⟩,hn,hm,cb,cc,c0,c4,E,⟨la,lc,e0,ar⟩⟩;subst e0;have HH:=O hh;have cd:IntKind.i64.wrap (2*d.live)=2*d.live:=oj;clear hh;by_cases h1:(d.n:Int)<8
 .have HR:=O<|K0 (hf:=hf)<|.inl h1;have R:decide ((d.n:Int)<8)=true:=ot;clear h1;go_enter func154,ntmps154;go_wp2_with fail;go_quiet (fail);go_wp2;refine GO (Aay rfl _ _ _) rfl ?_;exact⟨⟨_,rfl⟩,_,_,by rw[z HR];exact hM.below<|AJ (BE _ _) _,C6.Ax (AJ (BE _ _) _) E⟩
 have R:decide ((d.n:Int)<8)=false:=ot;by_cases h2:(d.n:Int)<=2*d.live
 .have HR:=O<|K0 (hf:=hf)<|.inr h2;have bj:decide ((d.n:Int)<=2*d.live)=true:=ot;clear h1 h2;go_enter func154,ntmps154;go_wp2_with fail;go_quiet (fail);go_wp2;refine GO (Aay rfl _ _ _) rfl ?_;exact⟨⟨_,rfl⟩,_,_,by rw[z HR];exact hM.below<|AJ (BE _ _) _,C6.Ax (AJ (BE _ _) _) E⟩
 have bj:decide ((d.n:Int)<=2*d.live)=false:=ot;have HR:=O<|R4 (hf:=hf) (d:=d) om;have mk:=Ir d.n hn;clear h1 h2;go_enter func154,ntmps154;go_wp2_with fail;go_quiet (fail);obtain⟨l,S⟩:=o9<|w.drewN nq;rw[<-S];have ad:B9 w l:=by rw[S];exact AJ (BE _ _) _
 have au:l.heap.size=w.heap.size:=qi S
 have ae:=O au;clear au;clear S;have H:=hM.below ad;rcases H.c0,H.lt,ar.below ad rfl,H.base with⟨c0,E,ai,cg⟩;clear c4 ar;go_wp2_with fail;obtain⟨W,hW⟩:=o9<|l.alloc<|.cells (madeCells #[Value.int .i64 0] d.n) 3;rw[<-hW];have av:B9 l W:=by rw[hW];exact(BE _ _).alloc (Be _) _
 have b8:l.heap.size<W.heap.size:=by rw[hW];simp
 have p:Hid<|Oo W l.heap.size d 0:=O ⟨_,by rw[hW];have h:=Iq l d.n;simpa[Value.cells]using h,λj hj=>om⟩;clear hW mk;go_loopw [38,2] (λi q wr=>∃(k:Nat) (v:V9),i=J (k:Int)/\k<=d.n/\v=q/\BT wr W.heap.size v (AQ d k).length (Es d)/\Oo wr l.heap.size d k/\B9 l wr/\W.heap.size<=wr.heap.size) λi _ _=>d.n-(intOf i).toNat
 .exact⟨0,_,rfl,om,rfl,NB _ _ _ _,p,av,Be _⟩
 clear p av;obtain⟨k,v,rfl,hk,rfl,f,r,F,ch⟩:=hrel;by_cases M:k<d.n
 .obtain⟨pb,off,rfl,bk,aw⟩:=ai.resolve_left om;rcases (aw k M).keep (λq=>F.cell bk),F.size,FP d k,O r with⟨⟨e0,e1,e2,e3,e4,e5,e6,e7,e8,e9,bm⟩,bn,cj,p⟩;clear aw r;by_cases hp:0<(d.L k).turn
  .have af:(d.L k).turn≠0:=om;have HF:=O<|FH M af;have HN:=O<|Bp af;have ax:decide (0<(d.L k).turn)=true:=by simp[hp]
   have U:=O f.lt;have ay:=p.lt;clear af hp;go_wp2_with (first|(at_builtin;refine So _ rfl _ _ 101 rfl W.heap.size 166 i0 PZ 11 104 underlying101 hi bf bg bh rfl oo v (AQ d k).length (pL (Es d) (AQ d k).length) rfl ((f.alloc _).alloc _) (G (wr.heap.size+1) 0) 1 1 (Dl<|d.L k) rfl rfl (PA wr _ (Dl<|d.L k) _) (Fj _) oo od om ot _ rfl ?_;intro g3 ck w3 s C bd b9;have V:w3.heap[l.heap.size]?=wr.heap[l.heap.size]?:=((C.block l.heap.size ot λe=>oS (U _ e.symm).1).trans<|DO _ _ _ ot).trans<|DO _ _ _ ay;have t:=O<|p.keep V;have bp:W.heap.size<=w3.heap.size:=(by have:=C.size;simp at this;omega);obtain⟨wu,r0⟩:=t.any M;have r1:=t.frozen k;have ca:=t.lt;have bq:=O<|((F.alloc om _).alloc ot _).trans<|CW C (λq e=>GP om (U q e).1) ot;have cl:=(s.lt g3 rfl).1;have br:=O s;clear s C V)|go_in);go_roundw
   .refine⟨k+1,_,ov,om,rfl,?_,?_,bq.setCell (by exact Be _) _,by simpa using bp⟩
    .have h:=Bi (a:=G l.heap.size k) br (J<|(CC d k:Int)+1) (λe=>by have e':g3=l.heap.size:=ownB e;omega);rw[z HN,P9,Aae];show World.ownsRow _ W.heap.size _ 11 _ _ (pL (Es d) (AQ d k).length++Dl (Es d (AQ d k).length));rw[z HF];exact h
    exact t.put
   exact ow
  have D:(d.L k).turn=0:=by
   rcases hC.log.CE k M with h|h
   .exact h.1
   exact absurd h.1 hp
  have HN:=O<|Ci D;have t:=O<|p.skip D;clear hp;rw[D]at bm;clear D;go_wp2;go_roundw
  .refine⟨k+1,_,ov,om,rfl,?_,t.keep<|DO _ _ _ t.lt,F.alloc bn _,ot⟩;rw[z HN];exact f.alloc _
  exact ow
 have aj:k=d.n:=om;subst aj;have A:=H.below F;have R:=A.pJ (Eg f om) λe=>oS<|f.lt c e;have az:C6 c o (.slice la d.n lc) v1 v2 w v v1 v2<|wr.setCell (G c o) v:=by
  refine Mw (row:=none) v (I8<|ad.trans<|F.mono<|Nat.le_of_eq ae.symm) (λb e=>by cases e) (by rw[<-z ae];exact E) (λe=>by cases e) om λb e=>?_;rcases e with e|e
  .right;have h1:=(f.lt b e).1;have h2:=z ae;omega
  exact .inl<|.inr e
 have P:Oo (wr.setCell (G c o) v) l.heap.size d d.n:=r.keep<|At _ _ _ _ (by show l.heap.size≠c;omega);rcases A.c0,A.fz o,A.c1 with⟨bt,bu,bw⟩;have aM:∀b,He v v1 v2 b->b≠l.heap.size:=λb e=>by
  rcases e with e|e
  .have:=(f.lt b e).1;omega
  have:=(H.WC<|.inr e).2;omega
 obtain⟨ia,ic,e1,_⟩:=A.ints.at;have bx:Hid (0<d.m->∃g cp,v1=S9 g d.m cp):=O (λh=>by obtain⟨g,cp,h,_⟩:=A.ints.form h;exact⟨g,cp,h⟩);subst e1;rcases O aM,O R,o9 (wr.setCell (G c o) v) with⟨bz,Q,⟨W1,ag⟩⟩;have XC:=Q.c1;have X:=Q.lt;rw[<-ag]at Q az P XC X;obtain⟨va,vc,ev,_⟩:=f.at;subst ev;clear A R r aM hk M;go_wp2_with fail;rw[<-ag];clear ag bt bu bw;go_loopw [65] (λi wz=>∃(k:Nat),i=J (k:Int)/\k<=d.m/\AR wz c o B (.slice va (AQ d d.n).length vc) (.slice ia d.m ic) v2 {d with n:=JM d,L:=Es d,I:=Gq d k}/\Oo wz l.heap.size d d.n/\C6 c o (.slice va (AQ d d.n).length vc) (.slice ia d.m ic) v2 W1 (.slice va (AQ d d.n).length vc) (.slice ia d.m ic) v2 wz) λi _=>d.m-(intOf i).toNat
 .exact⟨0,rfl,om,Q.of_same rfl (λ_ _=>rfl) rfl (λj _=>WI d j) rfl (λ_ _=>rfl) rfl rfl rfl,P,C6.refl _ _ _ _ _ _⟩
 clear Q XC X P;obtain⟨k,rfl,hk,hd,r,ah⟩:=hrel;by_cases T:k<d.m
 .obtain⟨g,cp,eg⟩:=z bx om;cases eg;obtain⟨g',cm,b0,cn,cq,a6,hcs,a7⟩:=hd.ints.form (by show 0<d.m;omega);cases b0;have e0:=hcs k T;rw[show({d with n:=JM d,L:=Es d,I:=Gq d k}:Dc).I k=d.I k from dT d k]at e0;have f0:=a7 k;have b1:=z bz g<|.inr<|.inl rfl;have b2:l.heap.size≠g:=λe=>b1 e.symm;have b3:g≠c:=λe=>hd.nc<|.inr<|.inl (by rw[<-e];rfl);rcases hd.c1,hd.lt,O r,r.lt with⟨c1,E,p,ay⟩;clear hcs a7 r;rcases hC.ints k T with hz|⟨g1,g2,g3,g4,g5⟩
  .rw[hz]at e0;go_wp2;go_roundw
   .exact⟨k+1,ov,om,hd.of_same rfl (λ_ _=>rfl) rfl (λj _=>WG om j) rfl (λ_ _=>rfl) rfl rfl rfl,p,ah⟩
   exact ow
  obtain⟨q,hq⟩:∃q:Nat,d.I k=(q:Int)+1:=⟨(d.I k-1).toNat,om⟩;have a8:q<d.n:=om;have bb:(d.L q).turn≠0:=by have h:=g3;unfold Dc.at at h;rw[hq,show((q:Int)+1-1).toNat=q by omega]at h;exact h
  have r0:=p.cell a8 a8 bb;have HN:Hid<|AR (wr.setCell (G g k)<|J<|(CC d q:Int)+1) c o B (.slice va (AQ d d.n).length vc) (S9 g d.m ic) v2 {d with n:=JM d,L:=Es d,I:=Gq d (k+1)}:=O (by
   have h:=AR.ZC (d:={d with n:=JM d,L:=Es d,I:=Gq d k}) hd T ((CC d q:Int)+1);exact h.of_same rfl (λ_ _=>rfl) rfl (λj _=>WH hq j) rfl (λ_ _=>rfl) rfl rfl rfl)
  have Z:=ah.trans<|Fo (o:=o) (v0:=.slice va (AQ d d.n).length vc) (v1:=S9 g d.m ic) (v2:=v2) (w:=wr) (g:=g) (q:=k) (J<|(CC d q:Int)+1) (.inr<|.inl rfl) b3;have ak:=O Z;have b4:=O<|p.keep (w':=wr.setCell (G g k)<|J<|(CC d q:Int)+1)<|At _ _ _ _ (by exact b2);have cr:IntKind.i64.wrap (q:Int)=q:=oj;rw[hq]at e0;clear hq g1 g2 g3 g4 g5 Z bb;go_wp2_with fail
  go_region
  go_wp2;go_roundw
  .exact⟨k+1,ov,om,HN.below (BE _ _).drew,b4.keep rfl,ak.trans<|C6.Ax (BE _ _).drew<|by simpa using E⟩
  exact ow
 have ao:k=d.m:=om;subst ao;have ax:AR wr c o B (.slice va (AQ d d.n).length vc) (.slice ia d.m ic) v2<|B8 d:=hd.of_same rfl (λ_ _=>rfl) rfl (λj hj=>(Zy hj).symm) rfl (λ_ _=>rfl) rfl rfl rfl;have b5:Small<|B8 d:=⟨GP (oM d) hn,hm,hS.x⟩;have a6:=Gn hC;have aq:=az.trans ah;clear r hk T;go_wp2_with fail;refine(J6 hf 0 ax b5 (JR hC) λi hi hx=>HH _<|a6.keys i hi<|oS hx.1).mono ?_;rintro e w9 ⟨⟨u,rfl⟩,u2,b6,bc⟩;have b7:=aq.trans bc;clear bc;go_wp2;go_end0;exact⟨⟨_,rfl⟩,_,_,by rw[z HR];exact b6,b7⟩
def Sf b n cap s(w:Y)(hl:b<w.heap.size)(hA:∀i,i<n->w.cell? (G b i)=some (J ((s+i:Nat):Int)))(hn:n<=2000000000)(hs:s<=100000000000000):
  C9 117 #[S9 b n cap,J s] w (R9 (J ((s+n:Nat):Int)) w):=by
 have e:=O hA;clear hA;go_enter func117,ntmps117;go_wp2;go_loopw [1,5] (λq i wr=>∃(k:Nat),k<=n/\i=J (k:Int)/\q=J ((s+k:Nat):Int)/\B9 w wr) λ_ i _=>n-(intOf i).toNat
 .exact⟨0,om,rfl,rfl,BE _ _⟩
 obtain⟨k,hk,rfl,rfl,hb⟩:=hrel;have f:=A0 hl hb.size;by_cases c:k<n
 .have d0:=(hb.cell hl).trans<|e k c;have d:=O hb;clear hb;go_wp2;go_roundw
  .exact⟨k+1,om,ov,ov,d⟩
  exact ow
 have a:k=n:=om;subst a;have d:=O hb;clear hb;go_wp2;go_ret;exact⟨rfl,d⟩
def SB s w:
  C9 70 #[N9,J s] w λe w'=>e=.returned (J s)/\w'=w:=by
 go_enter func70,ntmps70;go_wp2;go_loopw [1,5] (λq i wr=>q=J s/\i=J 0/\wr=w) λ_ _ _=>0
 .exact⟨rfl,rfl,rfl⟩
 obtain⟨rfl,rfl,rfl⟩:=hrel;go_wp2;go_ret;exact⟨rfl,rfl⟩
def Sg s w:
  C9 117 #[N9,J s] w λe w'=>e=.returned (J s)/\w'=w:=by
 go_enter func117,ntmps117;go_wp2;go_loopw [1,5] (λq i wr=>q=J s/\i=J 0/\wr=w) λ_ _ _=>0
 .exact⟨rfl,rfl,rfl⟩
 obtain⟨rfl,rfl,rfl⟩:=hrel;go_wp2;go_ret;exact⟨rfl,rfl⟩
def Hy(f:Nat->Int)(n:Nat)(w:Y)(v:V9)(lo hi:Nat):Prop:=
 (n=0/\v=N9)\/∃b a Z g,v=S9 b n a/\lo<=b/\b<hi/\w.rowIs b 3 Z g/\n<=Z/\∀j,j<n->g j=J (f j)
def Hy.keep(h:Hy f n w v lo hi)(hk:∀b,v.ownBlock=some b->lo<=b->b<hi->w'.heap[b]?=w.heap[b]?):Hy f n w' v lo hi:=by
 rcases h with h|⟨b,a,Z,g,h1,h2,h3,h4,h5,c⟩
 .exact .inl h
 exact .inr ⟨b,a,Z,g,h1,h2,h3,GW h4<|hk b (qi h1) h2 h3,h5,c⟩
def Hy.of(h:Bq w B v n f):Hy f n w v B w.heap.size:=by
 have b:=h.lt;obtain⟨hl,⟨c,d⟩|⟨g',cap,cur,c,hb,a,h1,h2,h3,h4⟩⟩:=h
 .exact .inl ⟨d,c⟩
 subst c;refine .inr ⟨g',cap,cap,λj=>(cur[j]?).getD undef,rfl,hb,(b g' rfl).2,⟨cur,a,om,λi hi=>by simp[We (show i<cur.size by omega)]⟩,h1,λj hj=>?_⟩;have h5:=Kt (f:=f) (i:=j) hj;grind [Hy]
theorem Hy.at(h:Hy f n w v lo hi):∃a c,v=.slice a n c/\JX w a n f:=by
 rcases h with⟨d,rfl⟩|⟨b,c,Z,g,h1,h2,h3,h4,h5,e⟩
 .subst d;exact⟨_,_,rfl,.inl rfl⟩
 exact⟨_,_,h1,.inr ⟨b,0,rfl,H8 h4,λi hi=>by rw[VC,h4.cell om,e i hi]⟩⟩
structure DV (d:Dc) (w:Y) (v0 v1 v2:V9) (lo hi:Nat):Prop where
 log:KR d.L d.n w v0 lo hi
 ints:Hy d.I d.m w v1 lo hi
 index:Hy d.X d.x w v2 lo hi
 sM:∀q,v0.ownBlock=some q->v1.ownBlock≠some q
 sN:∀q,v0.ownBlock=some q->v2.ownBlock≠some q
 a12:∀q,v1.ownBlock=some q->v2.ownBlock≠some q
abbrev lK(v0 v1 v2:V9)(d:Dc):Value:=.agg #[v0,v1,v2,J d.used,J d.live,J d.turns]
def DV.keep(h:DV d w v0 v1 v2 lo hi)(hk:∀b,lo<=b->b<hi->w'.heap[b]?=w.heap[b]?):DV d w' v0 v1 v2 lo hi:=
 ⟨h.log.keep hk,h.ints.keep λb _=>hk b,h.index.keep λb _=>hk b,h.sM,h.sN,h.a12⟩
theorem DV.at(h:DV d w v0 v1 v2 lo hi):∃la lc ia ic xa xc,v0=.slice la d.n lc/\v1=.slice ia d.m ic/\v2=.slice xa d.x xc/\Ei w la ia xa d:=by
 obtain⟨la,lc,rfl,a⟩:=h.log.at;obtain⟨ia,ic,rfl,h1⟩:=h.ints.at;obtain⟨xa,xc,rfl,h2⟩:=h.index.at;exact⟨la,lc,ia,ic,xa,xc,rfl,rfl,rfl,a,h1,h2⟩
theorem KR.own{f}(h:KR f n w v lo hi){b}(e:v.ownBlock=some b):lo<=b/\b<hi/\b<w.heap.size:=by
 rcases h with⟨a,rfl⟩|⟨b',c,Z,g,rfl,h2,h3,h4,h5,d⟩
 .cases e
 have e':b'=b:=oF e;subst e';exact⟨h2,h3,H8 h4⟩
structure EA (w wr:Y) (v0 v1 v2:V9) (d:Dc):Prop where
 b0:wr.heap[w.heap.size]?=some (.cells #[N9,N9,N9,J 0,J 0,J 0] 103 (0,0))
 b1:wr.heap[w.heap.size+1]?=some (.cells #[v0,v1,v2,J d.used,J d.live,J d.turns] 103 (0,0))
 C7:B9 w wr
theorem EA.size(h:EA w wr v0 v1 v2 d):w.heap.size+1<wr.heap.size:=(E1.1 h.b1).1
def EA.cells(h:EA w wr v0 v1 v2 d):wr.cell? (Y9 w 0)=some v0/\wr.cell? (Y9 w 1)=some v1/\wr.cell? (Y9 w 2)=some v2/\wr.cell? (Y9 w 3)=some (J d.used)/\wr.cell? (Y9 w 4)=some (J d.live)/\wr.cell? (Y9 w 5)=some (J d.turns)/\∀q,wr.frozen? (Y9 w q)=false:=
 ⟨by simp[World.cell?,h.b1],by simp[World.cell?,h.b1],by simp[World.cell?,h.b1],by simp[World.cell?,h.b1],by simp[World.cell?,h.b1],by simp[World.cell?,h.b1],λq=>by simp[World.frozen?,h.b1]⟩
def EA.keep(h:EA w wr v0 v1 v2 d)(a:w'.heap[w.heap.size]?=wr.heap[w.heap.size]?)(h1:w'.heap[w.heap.size+1]?=wr.heap[w.heap.size+1]?)(hb:B9 w w'):EA w w' v0 v1 v2 d:=⟨a.trans h.b0,h1.trans h.b1,hb⟩
def EA.pH(h:EA w wr v0 v1 v2 d):EA w (wr.setCell (Y9 w 0) u) u v1 v2 d:=
 ⟨(At _ _ _ _<|by show w.heap.size≠w.heap.size+1;omega).trans h.b0,(Lo _ _ _ _ _ _ h.b1).trans oq,h.C7.setCell ox _⟩
def EA.eZ(h:EA w wr v0 v1 v2 d):EA w (wr.setCell (Y9 w 1) u) v0 u v2 d:=
 ⟨(At _ _ _ _<|by show w.heap.size≠w.heap.size+1;omega).trans h.b0,(Lo _ _ _ _ _ _ h.b1).trans oq,h.C7.setCell ox _⟩
def EA.fA(h:EA w wr v0 v1 v2 d):EA w (wr.setCell (Y9 w 2) u) v0 v1 u d:=
 ⟨(At _ _ _ _<|by show w.heap.size≠w.heap.size+1;omega).trans h.b0,(Lo _ _ _ _ _ _ h.b1).trans oq,h.C7.setCell ox _⟩
def J4(f:Nat->Int)(k j:Nat):Int:=if j<k then f j else 0
theorem Mz f k:AV (J4 f k) k (f k)=J4 f (k+1):=by
 grind [AV,J4,Ao,Ai]
def RJ f k(h:f k=0):J4 f k=J4 f (k+1):=by
 grind [J4,Mz,Ao,Ai]
theorem Bq.congr{g}(h:Bq w B v n f)(e:∀i,i<n->g i=f i):Bq w B v n g:=by
 have hl:iL g n=iL f n:=by
  apply AaV;grind [Kt,CS]
 grind [iL]
def Oj(e:Nat)(p:Pr)(W:Y):Prop:=W.cell? (G e 0)=some (J p.key.kind)/\W.cell? (G e 1)=some (J p.key.num)/\W.cell? (G e 2)=some (F9 p.key.Af)/\W.cell? (G e 3)=some (.string p.key.str)/\W.cell? (G e 4)=some (J p.key.ref)/\W.cell? (G e 5)=some (J p.val.kind)/\W.cell? (G e 6)=some (J p.val.num)/\W.cell? (G e 7)=some (F9 p.val.Af)/\W.cell? (G e 8)=some (.string p.val.str)/\W.cell? (G e 9)=some (J p.val.ref)/\W.cell? (G e 10)=some (J p.turn)
def BD.held(h:BD w b p i):Oj b p w:=⟨h.k0,h.k1,h.k2,h.k3,h.k4,h.v0,h.v1,h.v2,h.v3,h.v4,h.tn⟩
def lL(bk:Nat)(a b c:Int)(W:Y):Prop:=W.cell? (G bk 4)=some (J a)/\W.cell? (G bk 5)=some (J b)/\W.cell? (G bk 6)=some (J c)
def aT(c g m e:Nat)(x:Int)(W:Y):Prop:=W.cell? (G c 1)=some (S9 g m m)/\W.cell? (G e 11)=some (J x)
def aX(c g m s e:Nat)(x:Int)(W:Y):Prop:=W.cell? (G c 2)=some (S9 g m m)/\W.cell? (G s 5)=some (Q9 e)/\W.cell? (G e 11)=some (J x)
def TB(hM:AG w bk r0 r1 R2 E S d)(hS:Small d)(hI:∀j,j<d.m->0<=d.I j/\d.I j<=d.n)(hX:∀j,j<d.x->d.X j=0\/d.X j=-1\/(0<d.X j/\d.X j<=d.n)):
  C9 195 #[.pointer (some<|G bk 0)] w λe w'=>(∃v0 v1 v2,e=.returned (lK v0 v1 v2 d)/\DV d w' v0 v1 v2 w.heap.size w'.heap.size)/\B9 w w':=by
 rcases ON EM,hS.n,hS.m,hS.x,hM.log.slice,hM.rf with⟨⟨i0,ca,cb,cd,cg⟩,hn,hm,hx,⟨a0,l0,e0⟩,⟨Q1,l1,e1⟩⟩;subst e0 e1;rcases hM.lt,hM.c0,hM.c4,hM.c5,hM.c6,Ir d.m hm,Ir d.x hx,O hI,O hX with⟨A,c0,c4,c5,c6,cz,cD,HI,HX⟩;clear hS hI hX;go_enter func195,ntmps195;go_wp2_with fail;refine GH (lL bk d.used d.live d.turns) ?_;have C:∀o,B9 w<|w.alloc o:=λo=>n9;have W:∀o,B9 w (w.alloc o).drew:=λo=>(C o).drew;have s:∀o,lL bk d.used d.live d.turns (w.alloc o).drew:=λo=>⟨((W o).cell (p:=G bk 4) A).trans c4,((W o).cell (p:=G bk 5) A).trans c5,((W o).cell (p:=G bk 6) A).trans c6⟩;have bf:=s<|.cells #[N9,N9,N9,J 0,J 0,J 0] 103;refine tz 0 (h:=tz 1 (h:=tz 2 (h:=tz 3 (h:=tz 4 (h:=tz 5 (h:=tz 6 (h:=tz 7 (h:=tz 8 (h:=tz 9 (h:=tz 10 (h:=tz 11 (h:=?_))))))))))));refine tz 12 (h:=tz 13 (h:=?_));refine ry 14 λK hK=>?_;go_simp;refine hK.out _ _ ⟨(((C _).alloc oq _).drew.cell (p:=G bk 4) A).trans c4,(((C _).alloc oq _).drew.cell (p:=G bk 5) A).trans c5,(((C _).alloc oq _).drew.cell (p:=G bk 6) A).trans c6⟩ λB=>?_;clear hK K;refine ry 15 λK hK=>?_;go_simp;refine hK.out _ _ ⟨(((C _).alloc oq _).drew.cell (p:=G bk 4) A).trans c4,(((C _).alloc oq _).drew.cell (p:=G bk 5) A).trans c5,(((C _).alloc oq _).drew.cell (p:=G bk 6) A).trans c6⟩ λ_=>?_;clear hK K B s bf;refine FE ?_;obtain⟨W1,a6⟩:=o9<|((w.alloc<|.cells #[N9,N9,N9,J 0,J 0,J 0] 103).alloc<|.cells #[N9,N9,N9,J d.used,J d.live,J d.turns] 103).drew;rw[<-a6];have a7:EA w W1 N9 N9 N9 d:=by
  rw[a6];refine⟨(DO _ _ _ oq).trans<|DD _ _,?_,((C _).alloc oq _).drew⟩;have h1:=DD (w.alloc<|.cells #[N9,N9,N9,J 0,J 0,J 0] 103)<|.cells #[N9,N9,N9,J d.used,J d.live,J d.turns] 103;rw[World.size_alloc]at h1;exact h1
 have ch:=(a7.C7.cell A).trans c0;clear a6 C W c0 c4 c5 c6;go_wp2_with fail;clear ch;go_loopw [29] (λi wr=>∃(k:Nat) (v0:V9),k<=d.n/\i=J (k:Int)/\BT wr (w.heap.size+2) v0 k d.L/\EA w wr v0 N9 N9 d) λi _=>d.n-(intOf i).toNat
 .exact⟨0,N9,om,rfl,NB _ _ _ _,a7⟩
 clear a7;obtain⟨k,v0,hk,rfl,H,f⟩:=hrel;have c:=hM.below f.C7;have aw:=f.size;by_cases l:k<d.n
 .obtain⟨g0,cN,e0,_,c7,_,bq,_⟩:=c.log.form om;cases e0;have rk:=bq k l;have Z:=c.CE k l;rcases Z.lt,(hM.CE k l).lt,f.cells,Z.drew.held with⟨a,br,⟨x0,_,_,_,_,_,r⟩,s⟩;have ag:Hid<|BT wr.drew (w.heap.size+2) v0 k d.L:=O H.drew;have bg:Hid (∀(o:Obj) (g3 D:Nat) (w3:Y),w3.ownsRow (w.heap.size+2) 166 11 (.slice (some<|G g3 0) (k+1) D) (k+1) (pL d.L k++Dl (d.L k))->(wr.drew.alloc o).grownBy w3 v0.ownBlock->Oj (E k) (d.L k) w3/\w3.cell? (Y9 w 0)=some v0/\w3.frozen? (Y9 w 0)=false/\w.heap.size+1<w3.heap.size/\Oj (E k) (d.L k) (w3.setCell (Y9 w 0)<|.slice (some<|G g3 0) (k+1) D)/\
    (BT (w3.setCell (Y9 w 0) (.slice (some (G g3 0)) (k+1) D)) (w.heap.size+2) (.slice (some (G g3 0)) (k+1) D) (k+1) d.L/\EA w (w3.setCell (Y9 w 0) (.slice (some (G g3 0)) (k+1) D)) (.slice (some (G g3 0)) (k+1) D) N9 N9 d)):=O (λo g3 D w3 h1 h2=>by
   have hB:∀b,b<w.heap.size+2->w3.heap[b]?=wr.heap[b]?:=λb hb=>(h2.block b ot λe=>oS (H.lt b e.symm).1).trans<|DO _ _ _ (by show b<wr.heap.size;omega);have cj:wr.heap.size<=w3.heap.size:=by have:=h2.size;simp at this;omega
   have M:=f.keep (hB _ om) (hB _ om)<|((f.C7.drew).alloc (by show w.heap.size<=wr.heap.size;omega) o).grown h2 ot λq e=>oS (H.lt q e).1;rcases Z.keep cj (hB _ om),M.cells,(World.ownsRow.lt h1 g3 rfl).1 with⟨bt,⟨y0,_,_,_,_,_,yf⟩,c8⟩;refine⟨bt.held,y0,yf 0,om,(bt.keep oq<|At _ _ _ _<|by show E k≠w.heap.size+1;omega).held,CL h1 (λq e=>At _ _ _ _ (by
    have e':g3=q:=oF e;show q≠w.heap.size+1;omega)),M.pH⟩)
  clear H c bq Z f r;go_wp2_with fail;refine GH (Oj (E k)<|d.L k) ?_;refine tz 0 (h:=tz 2 (h:=tz 3 (h:=tz 4 (h:=tz 5 (h:=?_)))));refine TO (rs:=[1,6]) ou oq ?_;refine IH rfl (λK hK=>?_) (IH rfl (λK hK=>?_) Tn)
  focus
   go_simp;refine hK.out _ _ s λ_=>?_;clear hK K;refine ry 6 λK hK=>?_;go_simp;refine hK.out _ _ (by obtain⟨s0,s1,s2,s3,s4,s5,s6,s7,s8,s9,a8⟩:=s;exact(λ(hb:B9 wr _)=>(⟨(hb.cell (p:=G (E k) 0) a).trans s0,(hb.cell (p:=G (E k) 1) a).trans s1,(hb.cell (p:=G (E k) 2) a).trans s2,(hb.cell (p:=G (E k) 3) a).trans s3,(hb.cell (p:=G (E k) 4) a).trans s4,(hb.cell (p:=G (E k) 5) a).trans s5,(hb.cell (p:=G (E k) 6) a).trans s6,(hb.cell (p:=G (E k) 7) a).trans s7,(hb.cell (p:=G (E k) 8) a).trans s8,(hb.cell (p:=G (E k) 9) a).trans s9,(hb.cell (p:=G (E k) 10) a).trans a8⟩:Oj (E k) (d.L k) _)) ((BE wr.heap.size wr).drew.alloc (Be _) _)) λB=>?_
  rotate_left
  focus
   go_simp;refine hK.out _ _ (by obtain⟨s0,s1,s2,s3,s4,s5,s6,s7,s8,s9,a8⟩:=s;exact(λ(hb:B9 wr _)=>(⟨(hb.cell (p:=G (E k) 0) a).trans s0,(hb.cell (p:=G (E k) 1) a).trans s1,(hb.cell (p:=G (E k) 2) a).trans s2,(hb.cell (p:=G (E k) 3) a).trans s3,(hb.cell (p:=G (E k) 4) a).trans s4,(hb.cell (p:=G (E k) 5) a).trans s5,(hb.cell (p:=G (E k) 6) a).trans s6,(hb.cell (p:=G (E k) 7) a).trans s7,(hb.cell (p:=G (E k) 8) a).trans s8,(hb.cell (p:=G (E k) 9) a).trans s9,(hb.cell (p:=G (E k) 10) a).trans a8⟩:Oj (E k) (d.L k) _)) ((BE wr.heap.size wr).drew.alloc (Be _) _)) λB=>?_;clear hK K;refine ry 1 λK hK=>?_;go_simp;refine hK.out _ _ B λ_=>?_
  all_goals
   clear hK K;refine ry 7 λK hK=>?_;refine Wx _ rfl (.tmp 34) (.tmp 39) 101 rfl (w.heap.size+2) 166 i0 PZ 11 104 underlying101 ca cb cd cg rfl oo v0 k (pL d.L k) og (PC ag _) (y wr 0) 1 1 (Dl<|d.L k) og rfl (ID<|DD _ _) (Fj _) oo od om ot _ rfl ?_;intro g3 D w3 av bh b9 cw;obtain⟨bu,x3,f3,l3,bw,ck⟩:=z bg _ g3 D w3 av bh;refine hK.out _ _ bu λbj=>?_;clear hK K;refine tz 8 (h:=?_);refine ry 9 λK hK=>?_;go_simp;refine hK.out _ _ bw λ_=>?_;clear hK K s bu bj bw;refine FE ?_;have t:=O ck;go_wp2;go_roundw
   .exact⟨k+1,_,om,ov,t.1,t.2⟩
   exact ow
 have ah:k=d.n:=om;subst ah;rcases O H,c.c1,c.lt,f.cells with⟨ag,c1,lb,⟨x0,x1,x2,x3,x4,x5,r⟩⟩;have cl:=r 1;have HW:=O f;go_wp2_with fail;obtain⟨g1,ax⟩:=o9 wr.heap.size;obtain⟨W2,ai⟩:=o9<|(wr.setCell (Y9 w 1)<|.slice (some<|G wr.heap.size 0) d.m d.m).alloc<|.cells (madeCells #[Value.int .i64 0] d.m) 3;rw[<-ai];have bx:Bq W2 (w.heap.size+2) (.slice (some<|G g1 0) d.m d.m) d.m<|J4 d.I 0:=by
  have h1:=Bq.made (wr.setCell (Y9 w 1)<|.slice (some<|G wr.heap.size 0) d.m d.m) (w.heap.size+2) d.m ot hm;rw[show(wr.setCell (Y9 w 1) (.slice (some (G wr.heap.size 0)) d.m d.m)).heap.size=g1 by rw[ax];simp]at h1;rw[ai];exact h1.congr λi _=>Cs om
 have ae:∀b,b<g1->b≠w.heap.size+1->W2.heap[b]?=wr.heap[b]?:=λb hb bb=>by
  rw[ai];exact(DO _ _ _ ot).trans (At _ _ _ _<|by exact bb)
 have ay:∀q,v0.ownBlock=some q->w.heap.size+2<=q/\q<g1:=λq e=>oS<|ag.lt q e;have bz:BT W2 (w.heap.size+2) v0 d.n d.L:=CL ag λq e=>ae q (ay q e).2<|oS (ay q e).1;have b1:EA w W2 v0 (.slice (some<|G g1 0) d.m d.m) N9 d:=by
  have h1:=HW.eZ (u:=.slice (some<|G g1 0) d.m d.m);rw[ax]at h1 ⊢;rw[ai];exact h1.keep (DO _ _ _ ot) (DO _ _ _ ot)<|h1.C7.alloc ot _
 have cx:w.heap.size+2<=g1:=om;have az:=O<|show Bq W2 (w.heap.size+2) (.slice (some<|G g1 0) d.m d.m) d.m (J4 d.I 0)/\BT W2 (w.heap.size+2) v0 d.n d.L/\EA w W2 v0 (.slice (some<|G g1 0) d.m d.m) N9 d from⟨bx,bz,b1⟩;rw[<-ax];have af:=O ay;clear ag HW bx ae ay bz b1 ai ax x0 x1 x2 x3 x4 x5 cl c1 lb aw l hk;go_loopw [55] (λi wr=>∃k:Nat,k<=d.m/\i=J (k:Int)/\Bq wr (w.heap.size+2) (.slice (some<|G g1 0) d.m d.m) d.m (J4 d.I k)/\BT wr (w.heap.size+2) v0 d.n d.L/\EA w wr v0 (.slice (some<|G g1 0) d.m d.m) N9 d) λi _=>d.m-(intOf i).toNat
 .exact⟨0,om,rfl,az.1,az.2.1,az.2.2⟩
 clear az;obtain⟨k,hk,rfl,U,V,f⟩:=hrel;have c:=hM.below f.C7;have aw:=f.size;by_cases l:k<d.m
 .obtain⟨_,_,e1,_,_,_,P,_⟩:=c.ints.form om;cases e1;have rk:=P k l;obtain⟨_,_,e2,cm,cn,_,Q,R⟩:=U.form om;cases e2;rcases Q k l,R k,IF _ _ rk with⟨gk,gf,bc⟩;dsimp only at bc;obtain⟨b2,b3⟩:=z HI k l;obtain⟨x0,x1,_,_,_,_,r⟩:=f.cells;by_cases h0:d.I k=0
  focus
   rw[h0,show Cq E 0=none from Cs oo]at rk;have t:Hid<|Bq wr (w.heap.size+2) (.slice (some<|G g1 0) d.m d.m) d.m (J4 d.I<|k+1)/\BT wr (w.heap.size+2) v0 d.n d.L/\EA w wr v0 (.slice (some<|G g1 0) d.m d.m) N9 d:=O ⟨by rw[<-RJ d.I k h0];exact U,V,f⟩;clear U V f c P Q R r h0 b2 b3
  rotate_left
  focus
   obtain⟨q,hq⟩:∃q:Nat,d.I k=(q:Int)+1:=⟨(d.I k-1).toNat,om⟩;have aj:q<d.n:=om;rw[hq,show Cq E ((q:Int)+1)=some (G (E q) 0) by unfold Cq;rw[C3 om,show((q:Int)+1-1).toNat=q by omega]]at rk;have Z:=c.CE q aj;have a:=Z.lt;have br:=(hM.CE q aj).lt;have cp:IntKind.i64.wrap ((q:Int)+1)=(q:Int)+1:=oj;have s:aT (w.heap.size+1) g1 d.m (E q) q wr.drew:=⟨x1,Z.pl⟩;have B:aT (w.heap.size+1) g1 d.m (E q) q (wr.setCell (G g1 k)<|J<|(q:Int)+1).drew:=⟨(Ap om).trans x1,(Ap om).trans Z.pl⟩;have t:Hid<|Bq (wr.setCell (G g1 k)<|J<|(q:Int)+1).drew (w.heap.size+2) (.slice (some<|G g1 0) d.m d.m) d.m (J4 d.I<|k+1)/\BT (wr.setCell (G g1 k)<|J<|(q:Int)+1).drew (w.heap.size+2) v0 d.n d.L/\EA w (wr.setCell (G g1 k)<|J<|(q:Int)+1).drew v0 (.slice (some<|G g1 0) d.m d.m) N9 d:=O (by
    refine⟨?_,CL V (λb e=>At _ _ _ _ (by have:=z af b e;show b≠g1;omega)),f.keep (At _ _ _ _ (by show w.heap.size≠g1;omega)) (At _ _ _ _ (by show w.heap.size+1≠g1;omega)) (f.C7.setCell (by show w.heap.size<=g1;omega) _).drew⟩;have h1:=(U.set l ((q:Int)+1)).drew;rw[<-hq,Mz]at h1;rw[<-hq];exact h1)
   clear U V f c P Q R r h0 b2 b3 Z hq;go_wp2_with fail;refine GH (aT (w.heap.size+1) g1 d.m (E q) q) ?_;refine tz 0 (h:=tz 1 (h:=tz 2 (h:=tz 3 (h:=tz 4 (h:=tz 5 (h:=tz 6 (h:=tz 7 (h:=tz 8 (h:=?_)))))))));refine ry 9 λK hK=>?_;go_simp;refine hK.out _ _ B λ_=>?_;clear hK K s B;refine FE ?_
  all_goals
   go_wp2;go_roundw
   .exact⟨k+1,om,ov,t.1,t.2.1,t.2.2⟩
   exact ow
 have ah:k=d.m:=om;subst ah;rcases U.congr (λi hi=>(C3 hi).symm),c.c3,c.lt,f.cells with⟨bd,c3,lb,⟨x0,x1,x2,x3,x4,x5,r⟩⟩;rcases r 2,(bd.lt g1 rfl).2,O V,O f with⟨cq,bm,HO,HW⟩;clear c U V f r;go_wp2_with fail;obtain⟨g2,aM⟩:=o9 wr.heap.size;obtain⟨W3,M⟩:=o9<|(wr.setCell (Y9 w 2)<|.slice (some<|G wr.heap.size 0) d.x d.x).alloc<|.cells (madeCells #[Value.int .i64 0] d.x) 3;rw[<-M];have b4:Bq W3 (w.heap.size+2) (.slice (some<|G g2 0) d.x d.x) d.x<|J4 d.X 0:=by
  have h1:=Bq.made (wr.setCell (Y9 w 2)<|.slice (some<|G wr.heap.size 0) d.x d.x) (w.heap.size+2) d.x ot hx;rw[show(wr.setCell (Y9 w 2) (.slice (some (G wr.heap.size 0)) d.x d.x)).heap.size=g2 by rw[aM];simp]at h1;rw[M];exact h1.congr λi _=>Cs om
 have ae:∀b,b<g2->b≠w.heap.size+1->W3.heap[b]?=wr.heap[b]?:=λb hb bb=>by
  rw[M];exact(DO _ _ _ ot).trans (At _ _ _ _<|by exact bb)
 have b5:BT W3 (w.heap.size+2) v0 d.n d.L:=CL HO λq e=>ae q (oS<|z af q e)<|oS<|z af q e;have b6:Bq W3 (w.heap.size+2) (.slice (some<|G g1 0) d.m d.m) d.m d.I:=CL bd (λq e=>by
  have e':g1=q:=oF e;exact ae q om om)
 have b7:EA w W3 v0 (.slice (some<|G g1 0) d.m d.m) (.slice (some<|G g2 0) d.x d.x) d:=by
  have h1:=HW.fA (u:=.slice (some<|G g2 0) d.x d.x);rw[aM]at h1 ⊢;rw[M];exact h1.keep (DO _ _ _ ot) (DO _ _ _ ot)<|h1.C7.alloc ot _
 have cy:g1<g2:=om;have ak:=O<|show Bq W3 (w.heap.size+2) (.slice (some<|G g2 0) d.x d.x) d.x (J4 d.X 0)/\Bq W3 (w.heap.size+2) (.slice (some<|G g1 0) d.m d.m) d.m d.I/\BT W3 (w.heap.size+2) v0 d.n d.L/\EA w W3 v0 (.slice (some<|G g1 0) d.m d.m) (.slice (some<|G g2 0) d.x d.x) d from⟨b4,b6,b5,b7⟩;rw[<-aM];clear HO HW b4 b6 b5 b7 ae M aM x0 x1 x2 x3 x4 x5 cq c3 lb aw l hk bm bd;go_loopw [86] (λi wr=>∃k:Nat,k<=d.x/\i=J (k:Int)/\Bq wr (w.heap.size+2) (.slice (some<|G g2 0) d.x d.x) d.x (J4 d.X k)/\Bq wr (w.heap.size+2) (.slice (some<|G g1 0) d.m d.m) d.m d.I/\BT wr (w.heap.size+2) v0 d.n d.L/\EA w wr v0 (.slice (some<|G g1 0) d.m d.m) (.slice (some<|G g2 0) d.x d.x) d) λi _=>d.x-(intOf i).toNat
 .exact⟨0,om,rfl,ak.1,ak.2.1,ak.2.2.1,ak.2.2.2⟩
 clear ak;obtain⟨k,hk,rfl,F,U,V,f⟩:=hrel;rcases hM.below f.C7,f.size,f.cells with⟨c,aw,⟨x0,x1,x2,x3,x4,x5,r⟩⟩;by_cases l:k<d.x
 .obtain⟨_,_,e1,_,_,_,P,_⟩:=c.slots.form om;cases e1;have rk:=P k l;obtain⟨_,_,e2,cm,cn,_,Q,R⟩:=F.form om;cases e2;rcases Q k l,R k,IF _ _ rk with⟨gk,gf,bc⟩;dsimp only at bc;have ao:=c.sl k l;have T:∀x:Int,d.X k=x->Bq (wr.setCell (G g2 k)<|J x) (w.heap.size+2) (.slice (some<|G g2 0) d.x d.x) d.x (J4 d.X<|k+1)/\Bq (wr.setCell (G g2 k)<|J x) (w.heap.size+2) (.slice (some<|G g1 0) d.m d.m) d.m d.I/\BT (wr.setCell (G g2 k)<|J x) (w.heap.size+2) v0 d.n d.L/\EA w (wr.setCell (G g2 k)<|J x) v0 (.slice (some<|G g1 0) d.m d.m) (.slice (some<|G g2 0) d.x d.x) d:=λx b8=>by
   refine⟨?_,CL U (λb e=>At _ _ _ _ (by
    have e':g1=b:=oF e;show b≠g2;omega)),CL V (λb e=>At _ _ _ _ (by have:=z af b e;show b≠g2;omega)),f.keep (At _ _ _ _ (by show w.heap.size≠g2;omega)) (At _ _ _ _ (by show w.heap.size+1≠g2;omega)) (f.C7.setCell (by show w.heap.size<=g2;omega) _)⟩
   have h1:=F.set l x;rw[<-b8,Mz]at h1;rw[<-b8];exact h1
  rcases z HX k l with h0|h0|⟨h0,cr⟩
  .rw[h0,show Dy S k 0=none from C3 rfl]at rk;have t:Hid<|Bq wr (w.heap.size+2) (.slice (some<|G g2 0) d.x d.x) d.x (J4 d.X<|k+1)/\Bq wr (w.heap.size+2) (.slice (some<|G g1 0) d.m d.m) d.m d.I/\BT wr (w.heap.size+2) v0 d.n d.L/\EA w wr v0 (.slice (some<|G g1 0) d.m d.m) (.slice (some<|G g2 0) d.x d.x) d:=O ⟨by rw[<-RJ d.X k h0];exact F,U,V,f⟩;clear F U V f c P Q R r h0 ao T;go_wp2;go_roundw
   .exact⟨k+1,om,ov,t.1,t.2.1,t.2.2.1,t.2.2.2⟩
   exact ow
  .rw[h0,show Dy S k (-1)=some (G (S k) 0)from Cs oo]at rk;have ar:=ao.2 om;have gg:=ar.gn;have t:=O<|T (-1) h0;clear F U V f c P Q R r h0 ao T ar;go_wp2;go_roundw
   .exact⟨k+1,om,ov,t.1,t.2.1,t.2.2.1,t.2.2.2⟩
   exact ow
  obtain⟨q,hq⟩:∃q:Nat,d.X k=(q:Int)+1:=⟨(d.X k-1).toNat,om⟩;have aj:q<d.n:=om;rw[show Dy S k (d.X k)=some (G (S k) 0)from Cs om]at rk;have aq:=ao.1 h0;rw[show(d.X k-1).toNat=q by omega]at aq;rcases aq.gn,aq.pt,c.CE q aj with⟨gg,gp,Z⟩;have a:=Z.lt;have br:=(hM.CE q aj).lt;have ct:S k≠g2:=λe=>by
   obtain⟨cc,cu⟩:∃cc,wr.heap[g2]?=some (.cells cc 3 (0,0)):=by
    obtain⟨_,⟨hv,_⟩|⟨g,cap,cur,hv,_,bn,_⟩⟩:=F
    .cases hv
    cases hv;exact⟨cur,bn⟩
   exact Bl (e▸aq.ob) cu oo
  have cp:IntKind.i64.wrap ((q:Int)+1)=(q:Int)+1:=oj;have s:aX (w.heap.size+1) g2 d.x (S k) (E q) q wr.drew:=⟨x2,gp,Z.pl⟩;have B:aX (w.heap.size+1) g2 d.x (S k) (E q) q (wr.setCell (G g2 k)<|J<|(q:Int)+1).drew:=⟨(Ap om).trans x2,(Ap λe=>ct e.symm).trans gp,(Ap om).trans Z.pl⟩;have t:=O<|T ((q:Int)+1) hq;clear F U V f c P Q R r h0 cr ao T Z aq hq;go_wp2_with fail;refine GH (aX (w.heap.size+1) g2 d.x (S k) (E q) q) ?_;refine tz 0 (h:=tz 1 (h:=tz 2 (h:=tz 3 (h:=tz 4 (h:=tz 5 (h:=tz 6 (h:=tz 7 (h:=tz 8 (h:=tz 9 (h:=tz 10 (h:=tz 11 (h:=?_))))))))))));refine ry 12 λK hK=>?_;go_simp;refine hK.out _ _ B λ_=>?_;clear hK K s B;refine FE ?_;go_wp2;go_roundw
  .exact⟨k+1,om,ov,t.1.drew,t.2.1.drew,t.2.2.1.drew,t.2.2.2.keep rfl rfl t.2.2.2.C7.drew⟩
  exact ow
 have ah:k=d.x:=om;subst ah;have y0:wr.cell? (y w 0)=some (N9):=by simp[World.cell?,f.b0]
 have y1:wr.cell? (y w 1)=some (N9):=by simp[World.cell?,f.b0]
 have y2:wr.cell? (y w 2)=some (N9):=by simp[World.cell?,f.b0]
 have y3:wr.cell? (y w 3)=some (J 0):=by simp[World.cell?,f.b0]
 have y4:wr.cell? (y w 4)=some (J 0):=by simp[World.cell?,f.b0]
 have y5:wr.cell? (y w 5)=some (J 0):=by simp[World.cell?,f.b0]
 have yf:∀q,wr.frozen? (y w q)=false:=λq=>by simp[World.frozen?,f.b0]
 have ad:=F.congr λi hi=>(C3 hi).symm;obtain⟨va,vc,ev⟩:∃va vc,v0=.slice va d.n vc:=by
  obtain⟨_,⟨hv,h0⟩|⟨g,cap,cur,hv,_⟩⟩:=V
  .exact⟨none,0,by rw[hv,h0]⟩
  exact⟨_,_,hv⟩
 subst ev;have bp:Hid (∀W':World,Below (w.heap.size) w W'->wr.heap.size<=W'.heap.size->(∀b,w.heap.size+2<=b->W'.heap[b]?=wr.heap[b]?)->DV d W' (.slice va d.n vc) (.slice (some<|G g1 0) d.m d.m) (.slice (some<|G g2 0) d.x d.x) w.heap.size W'.heap.size):=O (λW' hB hz hb=>by
  have o0:BT W' w.heap.size (.slice va d.n vc) d.n d.L:=Eg (CL V λq e=>hb q (V.lt q e).1) om;have o1:Bq W' w.heap.size (.slice (some<|G g1 0) d.m d.m) d.m d.I:=Eg (CL U λq e=>hb q (U.lt q e).1) om;have o2:Bq W' w.heap.size (.slice (some<|G g2 0) d.x d.x) d.x d.X:=Eg (CL ad λq e=>hb q (ad.lt q e).1) om;refine⟨KR.of o0,Hy.of o1,Hy.of o2,λq e e'=>?_,λq e e'=>?_,λq e e'=>?_⟩
  .have:=(af q e).2;have e2:g1=q:=oF e';omega
  .have:=(af q e).2;have e2:g2=q:=oF e';omega
  have e1:g1=q:=oF e;have e2:g2=q:=oF e';omega)
 have cv:=O f.C7;clear F ad U V f c r;go_wp2;refine GO (v:=lK (.slice va d.n vc) (.slice (some<|G g1 0) d.m d.m) (.slice (some<|G g2 0) d.x d.x) d) (by simp[results,results195,go_sem,y0,y1,y2,y3,y4,y5]) rfl ?_;have au:B9 w<|(((((wr.setCell (y w 0)<|.slice va d.n vc).setCell (y w 1)<|.slice (some<|G g1 0) d.m d.m).setCell (y w 2)<|.slice (some<|G g2 0) d.x d.x).setCell (y w 3)<|J d.used).setCell (y w 4)<|J d.live).setCell (y w 5)<|J d.turns:=by
  iterate 6 (refine NO ?_ (by exact Be _) _)
  exact cv
 refine⟨⟨_,_,_,rfl,bp _ au oq λb hb=>?_⟩,au⟩;iterate 6 (refine(At _ _ _ _<|by show b≠w.heap.size;omega).trans ?_)
 rfl
def jS(h:Entry d i)(a:(d.L i).turn≠0):BP (d.L i).key=true:=by
 grind [Entry,BP]
def oR w:Ei w none none none kI:=⟨.inl rfl,.inl rfl,.inl rfl⟩
def ZS(h:Sound d<|hD d)(a:Tj d):Inv Ky hN d:=
 Sound.inv (hf:=hN) (K:=Ky) h Ch λi hi b=>⟨jS (h.d2.lV.CE i hi) b,(a i hi).1⟩
section
variable {w W W':Y} {la ia xa:Option Addr} {lc ic xc:Nat} {d:Dc} {v:Vl}
end
theorem KR.wide{f}(h:KR f n w v lo hi)(h1:a<=lo)(h2:hi<=b):KR f n w v a b:=by
 grind [KR]
theorem Hy.wide(h:Hy f n w v lo hi)(h1:a<=lo)(h2:hi<=b):Hy f n w v a b:=by
 grind [Hy]
theorem DV.wide(h:DV d w v0 v1 v2 lo hi)(h1:a<=lo)(h2:hi<=b):DV d w v0 v1 v2 a b:=⟨h.log.wide h1 h2,h.ints.wide h1 h2,h.index.wide h1 h2,h.sM,h.sN,h.a12⟩
def I1(w:Y)(b:Nat)(t:TypeId)(Z:Nat):Prop:=∃g,w.rowIs b t Z g
theorem I1.uniq{t t'}(h:I1 w b t Z)(h':I1 w b t' a):t=t'/\Z=a:=by
 obtain⟨g,c,h1,h2,_⟩:=h;obtain⟨g',f,d,e,_⟩:=h';grind [I1]
structure Mk (lo H:Nat) (w w':Y):Prop where
 os:w'.os=w.os
 tape:w'.tape=w.tape
 output:w'.output=w.output
 size:w.heap.size<=w'.heap.size
 block:∀k,k<w.heap.size->(k<lo\/H<=k)->w'.heap[k]?=w.heap[k]?
 rows:∀k t N,I1 w k t N->I1 w' k t N
def Mk.refl lo H w:Mk lo H w w:=⟨rfl,rfl,rfl,Be _,λ_ _ _=>rfl,λ_ _ _ h=>h⟩
theorem Mk.trans{u v}(h:Mk lo H u v)(k:Mk lo H v w):Mk lo H u w:=
 ⟨k.os.trans h.os,k.tape.trans h.tape,k.output.trans h.output,GP h.size k.size,λi hi hn=>(k.block i (A0 hi h.size) hn).trans<|h.block i hi hn,λi t Z r=>k.rows i t Z<|h.rows i t Z r⟩
def Mk.bt{t}(h:Bt b w w')(h1:lo<=b)(h2:b<H)(r:I1 w b t Z)(r':I1 w' b t Z):Mk lo H w w':=
 ⟨h.os,h.tape,h.output,h.size,λk hk hn=>h.block k hk om,λk t' c q=>by
  by_cases e:k=b
  .subst e;obtain⟨rfl,rfl⟩:=I1.uniq r q;exact r'
  obtain⟨g,a⟩:=q;exact⟨g,GW a (h.block k (H8 a) e)⟩⟩
def Mk.set{t}v(h1:lo<=b)(h2:b<H)(r:I1 w b t Z):Mk lo H w<|w.setCell (G b o) v:=
 Mk.bt (Bt.set b o w v) h1 h2 r (by obtain⟨g,q⟩:=r;exact⟨_,q.set o v⟩)
def Ps(b n cap Z s:Nat)g w(hA:w.rowIs b 43 Z g)(hN:n*5<=Z)(hn:n<=4194304)(hs:s<=100000000):
  C9 68 #[S9 b n cap,J s] w λe w'=>(e=.returned (J<|(s:Int)+5*(n:Int))/\∃g',w'.rowIs b 43 Z g')/\Bt b w w':=by
 go_enter func68,ntmps68;go_wp2;go_loopw [1,5] (λq i wr=>∃(k:Nat) (g:Nat->Value),k<=n/\i=J (k:Int)/\q=J ((s:Int)+5*(k:Int))/\Bt b w wr/\wr.rowIs b 43 Z g) λ_ i _=>n-(intOf i).toNat
 .exact⟨0,g,om,rfl,oq,Bt.refl _ _,hA⟩
 obtain⟨k,g,hk,rfl,rfl,hb,a⟩:=hrel;by_cases l:k<n
 .have h:=a.lt;have d0:=a.cell (i:=k*5) om;have e0:=a.frozen<|k*5;have d1:=a.cell (i:=k*5+1) om;have e1:=a.frozen<|k*5+1;have d2:=a.cell (i:=k*5+2) om;have e2:=a.frozen<|k*5+2;have d3:=a.cell (i:=k*5+3) om;have e3:=a.frozen<|k*5+3;have d4:=a.cell (i:=k*5+4) om;have m:=a.frozen<|k*5+4;have j:∀w:World,_:=λw=>BF (s+5*k+3) om w;rw[show((s+5*k+3:Nat):Int)=(s:Int)+5*(k:Int)+1+1+1 by omega]at j;have o:=O hb;have p:=O a;go_wp2_with fail;refine(z (O j) _).mono ?_;rintro e w1 ⟨rfl,d⟩;have c:=(((p.set (k*5)<|J<|(s:Int)+5*(k:Int)).set (k*5+1)<|J<|(s:Int)+5*(k:Int)+1).set (k*5+2)<|F9<|floatOfInt .f64<|(s:Int)+5*(k:Int)+1+1).of_block<|d.block b (by simpa using h);have d3:=c.cell (i:=k*5+3) om;have e3:=c.frozen<|k*5+3;have d4:=c.cell (i:=k*5+4) om;have m:=c.frozen<|k*5+4;go_wp2;go_roundw
  .exact⟨k+1,_,om,ov,ov,((z<|(((o.trans<|Bt.set b (k*5) _<|J<|(s:Int)+5*(k:Int)).trans<|Bt.set b (k*5+1) _<|J<|(s:Int)+5*(k:Int)+1).trans<|Bt.set b (k*5+2) _<|F9<|floatOfInt .f64<|(s:Int)+5*(k:Int)+1+1).trans<|Bt.of d).trans<|Bt.set b (k*5+3) _<|.string<|mark<|s+5*k+3).trans<|Bt.set b (k*5+4) _<|J<|(s:Int)+5*(k:Int)+1+1+1+1,(c.set (k*5+3)<|.string<|mark<|s+5*k+3).set (k*5+4)<|J<|(s:Int)+5*(k:Int)+1+1+1+1⟩
  exact ow
 have f:k=n:=om;subst f;go_wp2;go_ret;exact⟨⟨rfl,_,z<|O a⟩,z<|O hb⟩
def QE(b n cap Z s:Nat)g w(hA:w.rowIs b 107 Z g)(hN:n*5<=Z)(hn:n<=4194304)(hs:s<=100000000):
  C9 36 #[S9 b n cap,J s] w λe w'=>(e=.returned (J<|(s:Int)+5*(n:Int))/\∃g',w'.rowIs b 107 Z g')/\Bt b w w':=by
 go_enter func36,ntmps36;go_wp2;go_loopw [1,5] (λq i wr=>∃(k:Nat) (g:Nat->Value),k<=n/\i=J (k:Int)/\q=J ((s:Int)+5*(k:Int))/\Bt b w wr/\wr.rowIs b 107 Z g) λ_ i _=>n-(intOf i).toNat
 .exact⟨0,g,om,rfl,oq,Bt.refl _ _,hA⟩
 obtain⟨k,g,hk,rfl,rfl,hb,c⟩:=hrel;by_cases l:k<n
 .have h:=c.lt;have d0:=c.cell (i:=k*5) om;have e0:=c.frozen<|k*5;have d1:=c.cell (i:=k*5+1) om;have e1:=c.frozen<|k*5+1;have d2:=c.cell (i:=k*5+2) om;have e2:=c.frozen<|k*5+2;have d3:=c.cell (i:=k*5+3) om;have e3:=c.frozen<|k*5+3;have d4:=c.cell (i:=k*5+4) om;have m:=c.frozen<|k*5+4;have j:∀w:World,_:=λw=>BF (s+5*k) om w;rw[show((s+5*k:Nat):Int)=(s:Int)+5*(k:Int) by omega]at j;have o:=O hb;have p:=O c;go_wp2_with fail;refine(z (O j) _).mono ?_;rintro e w1 ⟨rfl,d⟩;have a:=(p).of_block<|d.block b (by simpa using h);have d0:=a.cell (i:=k*5) om;have e0:=a.frozen<|k*5;have d1:=a.cell (i:=k*5+1) om;have e1:=a.frozen<|k*5+1;have d2:=a.cell (i:=k*5+2) om;have e2:=a.frozen<|k*5+2;have d3:=a.cell (i:=k*5+3) om;have e3:=a.frozen<|k*5+3;have d4:=a.cell (i:=k*5+4) om;have m:=a.frozen<|k*5+4;go_wp2;go_roundw
  .exact⟨k+1,_,om,ov,ov,(((((z<|o.trans<|Bt.of d).trans<|Bt.set b (k*5) _<|.string<|mark<|s+5*k).trans<|Bt.set b (k*5+1) _<|J<|(s:Int)+5*(k:Int)+1).trans<|Bt.set b (k*5+2) _<|J<|(s:Int)+5*(k:Int)+1+1).trans<|Bt.set b (k*5+3) _<|J<|(s:Int)+5*(k:Int)+1+1+1).trans<|Bt.set b (k*5+4) _<|J<|(s:Int)+5*(k:Int)+1+1+1+1,((((a.set (k*5)<|.string<|mark<|s+5*k).set (k*5+1)<|J<|(s:Int)+5*(k:Int)+1).set (k*5+2)<|J<|(s:Int)+5*(k:Int)+1+1).set (k*5+3)<|J<|(s:Int)+5*(k:Int)+1+1+1).set (k*5+4)<|J<|(s:Int)+5*(k:Int)+1+1+1+1⟩
  exact ow
 have f:k=n:=om;subst f;go_wp2;go_ret;exact⟨⟨rfl,_,z<|O c⟩,z<|O hb⟩
structure tH (b H:Nat) (w:Y) (o:Nat) (t:Tb) (a c s1 s2:Nat):Prop where
 c1:w.cell? (G b<|o+1)=some (S9 a t.nv t.nv)
 c2:w.cell? (G b<|o+2)=some (S9 c t.d.n t.d.n)
 c3:w.cell? (G b<|o+3)=some (S9 s1 t.d.m t.d.m)
 c4:w.cell? (G b<|o+4)=some (S9 s2 t.d.x t.d.x)
 l0:b<a/\a<H
 l1:b<c/\c<H
 l2:b<s1/\s1<H
 l3:b<s2/\s2<H
 r0:I1 w a 43<|t.nv*5
 r1:I1 w c 166<|t.d.n*11
 r2:I1 w s1 3 t.d.m
 r3:I1 w s2 3 t.d.x
def Ej.mk(h:Ej (b+1) H w b o t):∃c d s1 s2,tH b H w o t c d s1 s2:=by
 obtain⟨c,d,s1,s2,h1,⟨h2,h3,h4,h5,e⟩,f,g,a⟩:=h;rcases a.b0,a.b1,a.b2 with⟨i,j,k⟩;exact⟨c,d,s1,s2,h1.c1,h1.c2,h1.c3,h1.c4,⟨om,h3⟩,⟨om,h4⟩,⟨om,h5⟩,⟨om,e⟩,f.1,a.r0,a.r1,a.r2⟩
def Pq(cap H s:Nat){f}{w}(C:I1 w b 105<|n*8)(L:b<H)(c:∀i,i<n->∃Q M s1 s2,tH b H w (i*8) (f i) Q M s1 s2)(hw:Eu f n<=1048576)(hs:s<=10000000):
  C9 35 #[S9 b n cap,J s] w λe w'=>(∃r:Nat,e=.returned (J r)/\r<=s+11*Eu f n)/\Mk b H w w':=by
 have ao:=Te f n;have HT:=O c;go_enter func35,ntmps35;go_wp2;go_loopw [1,5] (λq i wr=>∃(k r:Nat),k<=n/\i=J (k:Int)/\q=J (r:Int)/\r<=s+11*Eu f k/\Mk b H w wr/\∀j,k*8<=j->wr.cell? (G b j)=w.cell? (G b j)) λ_ i _=>n-(intOf i).toNat
 .exact⟨0,s,om,rfl,rfl,om,Mk.refl _ _ _,λ_ _=>rfl⟩
 obtain⟨k,r,hk,rfl,rfl,R,P,hc⟩:=hrel;by_cases D:k<n
 case neg=>
  have S:k=n:=om;have HR:=O R;subst S;go_wp2;go_ret;exact⟨⟨r,rfl,HR⟩,P⟩
 obtain⟨Q,M,s1,s2,c⟩:=z HT k D;have Fu:=N7 f D;have p:Eu f (k+1)=Eu f k+tw (f k):=rfl;have E:tw (f k)=(f k).nv+((f k).d.n+(f k).d.m+(f k).d.x)+1:=rfl;have HR:=O R;have aq:r<=30000000:=om;have HQ:Hid (∀x:Nat,x<=r+11*tw (f k)->x<=s+11*Eu f (k+1)):=O λx T=>om;have ar:(f k).nv<=1048576:=om;have au:(f k).d.n<=1048576:=om;have av:(f k).d.m<=1048576:=om;have aw:(f k).d.x<=1048576:=om;have U:=O E;obtain⟨g,h⟩:=P.rows _ _ _ C;have d0:=h.cell (i:=k*8) om;have e0:=h.frozen<|k*8;have d1:=(hc (k*8+1) om).trans c.c1;have d2:=(hc (k*8+2) om).trans c.c2;have d3:=(hc (k*8+3) om).trans c.c3;rcases (hc (k*8+4) om).trans c.c4,ql c.l0<|ql c.l1<|ql c.l2 c.l3,H8 h with⟨d4,⟨⟨m0,n0⟩,⟨m1,n1⟩,⟨m2,n2⟩,⟨m3,n3⟩⟩,V⟩;have W:Mk b H wr<|wr.setCell (G b<|k*8)<|J (r:Int):=Mk.set _ (Be _) L ⟨g,h⟩;rcases W.rows _ _ _ (P.rows _ _ _ c.r0),P.trans W,O hc with⟨⟨ga,ra⟩,X,HC⟩;clear W hc Fu p E R;go_wp2_with fail;have hA:=Ps Q (f k).nv (f k).nv ((f k).nv*5) (r+1) ga _ ra (Be _) om om;rw[show((r+1:Nat):Int)=(r:Int)+1 by omega]at hA;refine hA.mono ?_;rintro e w1 ⟨⟨rfl,g1,Z⟩,t⟩;have ad:=t.size;simp at ad;have l1:b<w1.heap.size:=om;have l:=t.block b (by simpa using V) om;have p2:w1.cell? (G b<|k*8+2)=some (S9 M (f k).d.n (f k).d.n):=(As l).trans<|(Aa om).trans d2;have p3:w1.cell? (G b<|k*8+3)=some (S9 s1 (f k).d.m (f k).d.m):=(As l).trans<|(Aa om).trans d3;have p4:w1.cell? (G b<|k*8+4)=some (S9 s2 (f k).d.x (f k).d.x):=(As l).trans<|(Aa om).trans d4;have ae:Hid<|∀j,(k+1)*8<=j->w1.cell? (G b j)=w.cell? (G b j):=O λj hj=>(As l).trans<|(Aa om).trans<|HC j om;have M2:=X.trans<|Mk.bt t om n0 ⟨_,ra⟩ ⟨_,Z⟩;obtain⟨gb,rb⟩:=M2.rows _ _ _ c.r1;go_wp2_with fail;have hA:=J8 M (f k).d.n (f k).d.n ((f k).d.n*11) (r+1+5*(f k).nv) gb _ rb (Be _) om om;rw[show((r+1+5*(f k).nv:Nat):Int)=(r:Int)+1+5*((f k).nv:Int) by omega]at hA;refine hA.mono ?_;rintro e w2 ⟨⟨rfl,g2,af,_⟩,u⟩;have l2:=A0 l1 u.size;have v:=u.block b l1 om;have q3:=(As (a:=G b<|k*8+3) v).trans p3;have q4:=(As (a:=G b<|k*8+4) v).trans p4;have ag:Hid<|∀j,(k+1)*8<=j->w2.cell? (G b j)=w.cell? (G b j):=O λj hj=>(As v).trans<|ae j hj;have M3:=M2.trans<|Mk.bt u om n1 ⟨_,rb⟩ ⟨_,af⟩;obtain⟨gc,rc⟩:=M3.rows _ _ _ c.r2;go_wp2_with fail;have hA:=Iu s1 (f k).d.m (f k).d.m (f k).d.m (r+1+5*(f k).nv+11*(f k).d.n) gc _ rc (Be _) om om;rw[show((r+1+5*(f k).nv+11*(f k).d.n:Nat):Int)=(r:Int)+1+5*((f k).nv:Int)+11*((f k).d.n:Int) by omega]at hA;refine hA.mono ?_;rintro e w3 ⟨⟨rfl,g3,ah,_⟩,A⟩;have l3:=A0 l2 A.size;have F:=A.block b l2 om;have t4:=(As (a:=G b<|k*8+4) F).trans q4;have ai:Hid<|∀j,(k+1)*8<=j->w3.cell? (G b j)=w.cell? (G b j):=O λj hj=>(As F).trans<|ag j hj;have M4:=M3.trans<|Mk.bt A om n2 ⟨_,rc⟩ ⟨_,ah⟩;obtain⟨gd,rd⟩:=M4.rows _ _ _ c.r3;go_wp2_with fail;have hA:=Iu s2 (f k).d.x (f k).d.x (f k).d.x (r+1+5*(f k).nv+11*(f k).d.n+(f k).d.m) gd _ rd (Be _) om om;refine hA.mono ?_;rintro e w4 ⟨⟨rfl,g4,I,_⟩,B⟩;have K:=B.block b l3 om;have aj:Hid<|∀j,(k+1)*8<=j->w4.cell? (G b j)=w.cell? (G b j):=O λj hj=>(As K).trans<|ai j hj;have M5:=M4.trans<|Mk.bt B om n3 ⟨_,rd⟩ ⟨_,I⟩;obtain⟨ge,re⟩:=M5.rows _ _ _ C;have d5:=re.cell (i:=k*8+5) om;have e5:=re.frozen<|k*8+5;have d6:=re.cell (i:=k*8+6) om;have e6:=re.frozen<|k*8+6;have d7:=re.cell (i:=k*8+7) om;have e7:=re.frozen<|k*8+7;obtain⟨x,T⟩:∃x:Nat,x=r+1+5*(f k).nv+11*(f k).d.n+(f k).d.m+(f k).d.x:=⟨_,rfl⟩;have ax:x<=100000000:=om;rw[<-T];have ak:Hid<|x+1+1+1<=s+11*Eu f (k+1):=O<|HQ _ (by rw[z U];omega);clear hA B I t4 K T;go_wp2;go_roundw
 .refine⟨k+1,x+1+1+1,om,ov,oq,ak,?_,λj hj=>?_⟩
  .have a1:Mk b H w4<|w4.setCell (G b<|k*8+5)<|J (x:Int):=Mk.set _ (Be _) L ⟨_,re⟩;have a2:=Mk.set (H:=H) (o:=k*8+6) (J<|(x:Int)+1) (Be _) L<|a1.rows _ _ _ ⟨_,re⟩;have a3:=Mk.set (H:=H) (o:=k*8+7) (J<|(x:Int)+1+1) (Be _) L<|a2.rows _ _ _<|a1.rows _ _ _ ⟨_,re⟩;exact((M5.trans a1).trans a2).trans a3
  exact(Aa om).trans ((Aa om).trans<|(Aa om).trans<|aj j hj)
 exact ow
def lZ(s k:Nat):Vl:=⟨(s:Int)+5*(k:Int),(s:Int)+5*(k:Int)+1,floatOfInt .f64<|(s:Int)+5*(k:Int)+1+1,mark<|s+5*k+3,(s:Int)+5*(k:Int)+1+1+1+1⟩
def kC(s k:Nat):Si:=⟨mark<|s+5*k,(s:Int)+5*(k:Int)+1,(s:Int)+5*(k:Int)+1+1,(s:Int)+5*(k:Int)+1+1+1,(s:Int)+5*(k:Int)+1+1+1+1⟩
def RL(f:Nat->Vl)(j:Nat):Value:=((Hd<|f<|j/5)[j%5]?).getD undef
def RA(f:Nat->Si)(j:Nat):Value:=((FT<|f<|j/5)[j%5]?).getD undef
def Vs f k i(hi:i<5):RL f (k*5+i)=((Hd<|f k)[i]?).getD undef:=by
 grind [RL,Hd]
def UU f k i(hi:i<5):RA f (k*5+i)=((FT<|f k)[i]?).getD undef:=by
 grind [RA,FT]
def qA{t}{f}(h:w.rowIs b t Z g)(hN:n*5<=Z)(a:∀j,j<n*5->g j=RL f j){i}(hi:i<n):EZ w b (i*5)<|f i:=by
 have e:∀j,j<5->w.cell? (G b<|i*5+j)=some (((Hd<|f i)[j]?).getD undef):=λj hj=>by
  rw[h.cell (i:=i*5+j) om,a _ om,Vs f i j hj]
 exact⟨e 0 om,e 1 om,e 2 om,e 3 om,e 4 om⟩
def pB{t}{f}(h:w.rowIs b t Z g)(hN:n*5<=Z)(a:∀j,j<n*5->g j=RA f j){i}(hi:i<n):VI w b (i*5)<|f i:=by
 have e:∀j,j<5->w.cell? (G b<|i*5+j)=some (((FT<|f i)[j]?).getD undef):=λj hj=>by
  rw[h.cell (i:=i*5+j) om,a _ om,UU f i j hj]
 exact⟨e 0 om,e 1 om,e 2 om,e 3 om,e 4 om⟩
def Nu(b n cap Z s:Nat)g w(hA:w.rowIs b 43 Z g)(hN:n*5<=Z)(hn:n<=2000000000)(hs:s<=100000000000000):
  C9 68 #[S9 b n cap,J s] w λe w'=>(e=.returned (J<|(s)+5*(n))/\∃g',w'.rowIs b 43 Z g'/\∀j,j<n*5->g' j=RL (lZ s) j)/\Bt b w w':=by
 go_enter func68,ntmps68;go_wp2;go_loopw [1,5] (λq i wr=>∃(k:Nat) (g:Nat->Value),k<=n/\i=J (k:Int)/\q=J ((s:Int)+5*(k:Int))/\Bt b w wr/\wr.rowIs b 43 Z g/\∀j,j<k*5->g j=RL (lZ s) j) λ_ i _=>n-(intOf i).toNat
 .exact⟨0,g,om,rfl,oq,Bt.refl _ _,hA,λj hj=>om⟩
 obtain⟨k,g,hk,rfl,rfl,hb,a,p⟩:=hrel;by_cases t:k<n
 .have m:=a.lt;have d0:=a.cell (i:=k*5) om;have e0:=a.frozen<|k*5;have d1:=a.cell (i:=k*5+1) om;have e1:=a.frozen<|k*5+1;have d2:=a.cell (i:=k*5+2) om;have e2:=a.frozen<|k*5+2;have d3:=a.cell (i:=k*5+3) om;have e3:=a.frozen<|k*5+3;have d4:=a.cell (i:=k*5+4) om;have u:=a.frozen<|k*5+4;have r:∀w:World,_:=λw=>BF (s+5*k+3) om w;rw[show((s+5*k+3:Nat):Int)=(s:Int)+5*(k:Int)+1+1+1 by omega]at r;have v:=O hb;have l:=O a;go_wp2_with fail;refine(z (O r) _).mono ?_;rintro e w1 ⟨rfl,f⟩;have c:=(((l.set (k*5)<|J<|(s:Int)+5*(k:Int)).set (k*5+1)<|J<|(s:Int)+5*(k:Int)+1).set (k*5+2)<|F9<|floatOfInt .f64<|(s:Int)+5*(k:Int)+1+1).of_block<|f.block b (by simpa using m);have d3:=c.cell (i:=k*5+3) om;have e3:=c.frozen<|k*5+3;have d4:=c.cell (i:=k*5+4) om;have u:=c.frozen<|k*5+4;go_wp2;go_roundw
  .refine⟨k+1,_,om,ov,ov,((z<|(((v.trans<|Bt.set b (k*5) _<|J<|(s:Int)+5*(k:Int)).trans<|Bt.set b (k*5+1) _<|J<|(s:Int)+5*(k:Int)+1).trans<|Bt.set b (k*5+2) _<|F9<|floatOfInt .f64<|(s:Int)+5*(k:Int)+1+1).trans<|Bt.of f).trans<|Bt.set b (k*5+3) _<|.string<|mark<|s+5*k+3).trans<|Bt.set b (k*5+4) _<|J<|(s:Int)+5*(k:Int)+1+1+1+1,(c.set (k*5+3)<|.string<|mark<|s+5*k+3).set (k*5+4)<|J<|(s:Int)+5*(k:Int)+1+1+1+1,λj hj=>?_⟩;by_cases o:j<k*5
   .have d:∀i,i<5->j≠k*5+i:=λi _=>om;simp only[show j≠k*5 by omega,d 1 om,d 2 om,d 3 om,d 4 om,XN];exact z (O p) j o
   obtain⟨i,hi,rfl⟩:∃i,i<5/\j=k*5+i:=⟨j-k*5,om,om⟩;rw[Vs _ k i hi];rcases(by omega:i=0\/i=1\/i=2\/i=3\/i=4)with rfl|rfl|rfl|rfl|rfl<;>simp[Hd,lZ]
  exact ow
 have h:k=n:=om;have l:=O<|ql a p;subst h;go_wp2;go_ret;exact⟨⟨rfl,_,l.1,l.2⟩,z<|O hb⟩
def Po(b n cap Z s:Nat)g w(hA:w.rowIs b 107 Z g)(hN:n*5<=Z)(hn:n<=2000000000)(hs:s<=100000000000000):
  C9 36 #[S9 b n cap,J s] w λe w'=>(e=.returned (J<|(s)+5*(n))/\∃g',w'.rowIs b 107 Z g'/\∀j,j<n*5->g' j=RA (kC s) j)/\Bt b w w':=by
 go_enter func36,ntmps36;go_wp2;go_loopw [1,5] (λq i wr=>∃(k:Nat) (g:Nat->Value),k<=n/\i=J (k:Int)/\q=J ((s:Int)+5*(k:Int))/\Bt b w wr/\wr.rowIs b 107 Z g/\∀j,j<k*5->g j=RA (kC s) j) λ_ i _=>n-(intOf i).toNat
 .exact⟨0,g,om,rfl,oq,Bt.refl _ _,hA,λj hj=>om⟩
 obtain⟨k,g,hk,rfl,rfl,hb,c,p⟩:=hrel;by_cases t:k<n
 .have m:=c.lt;have d0:=c.cell (i:=k*5) om;have e0:=c.frozen<|k*5;have d1:=c.cell (i:=k*5+1) om;have e1:=c.frozen<|k*5+1;have d2:=c.cell (i:=k*5+2) om;have e2:=c.frozen<|k*5+2;have d3:=c.cell (i:=k*5+3) om;have e3:=c.frozen<|k*5+3;have d4:=c.cell (i:=k*5+4) om;have u:=c.frozen<|k*5+4;have r:∀w:World,_:=λw=>BF (s+5*k) om w;rw[show((s+5*k:Nat):Int)=(s:Int)+5*(k:Int) by omega]at r;have v:=O hb;have l:=O c;go_wp2_with fail;refine(z (O r) _).mono ?_;rintro e w1 ⟨rfl,f⟩;have a:=(l).of_block<|f.block b (by simpa using m);have d0:=a.cell (i:=k*5) om;have e0:=a.frozen<|k*5;have d1:=a.cell (i:=k*5+1) om;have e1:=a.frozen<|k*5+1;have d2:=a.cell (i:=k*5+2) om;have e2:=a.frozen<|k*5+2;have d3:=a.cell (i:=k*5+3) om;have e3:=a.frozen<|k*5+3;have d4:=a.cell (i:=k*5+4) om;have u:=a.frozen<|k*5+4;go_wp2;go_roundw
  .refine⟨k+1,_,om,ov,ov,(((((z<|v.trans<|Bt.of f).trans<|Bt.set b (k*5) _<|.string<|mark<|s+5*k).trans<|Bt.set b (k*5+1) _<|J<|(s:Int)+5*(k:Int)+1).trans<|Bt.set b (k*5+2) _<|J<|(s:Int)+5*(k:Int)+1+1).trans<|Bt.set b (k*5+3) _<|J<|(s:Int)+5*(k:Int)+1+1+1).trans<|Bt.set b (k*5+4) _<|J<|(s:Int)+5*(k:Int)+1+1+1+1,((((a.set (k*5)<|.string<|mark<|s+5*k).set (k*5+1)<|J<|(s:Int)+5*(k:Int)+1).set (k*5+2)<|J<|(s:Int)+5*(k:Int)+1+1).set (k*5+3)<|J<|(s:Int)+5*(k:Int)+1+1+1).set (k*5+4)<|J<|(s:Int)+5*(k:Int)+1+1+1+1,λj hj=>?_⟩;by_cases o:j<k*5
   .have d:∀i,i<5->j≠k*5+i:=λi _=>om;simp only[show j≠k*5 by omega,d 1 om,d 2 om,d 3 om,d 4 om,XN];exact z (O p) j o
   obtain⟨i,hi,rfl⟩:∃i,i<5/\j=k*5+i:=⟨j-k*5,om,om⟩;rw[UU _ k i hi];rcases(by omega:i=0\/i=1\/i=2\/i=3\/i=4)with rfl|rfl|rfl|rfl|rfl<;>simp[FT,kC]
  exact ow
 have h:k=n:=om;have l:=O<|ql c p;subst h;go_wp2;go_ret;exact⟨⟨rfl,_,l.1,l.2⟩,z<|O hb⟩
def Nq{a:Option Addr}cap s{w}(hA:Fq w a n<|lZ s)(hn:n<=2000000000)(hs:s<=100000000000000):
  C9 115 #[.slice a n cap,J s] w (R9 (J<|(s:Int)+5*(n:Int)) w):=by
 have m:=O hA;clear hA;go_enter func115,ntmps115;go_wp2;go_loopw [1,5] (λq i wr=>∃(k:Nat),k<=n/\i=J k/\q=J ((s:Int)+5*(k:Int))/\B9 w wr) λ_ i _=>n-(intOf i).toNat
 .exact⟨0,om,rfl,oq,BE _ _⟩
 obtain⟨k,hk,rfl,rfl,hb⟩:=hrel;by_cases d:k<n
 .obtain⟨b,off,rfl,hl,hcs⟩:=m.resolve_left om;have o:=A0 hl hb.size;have hc:=(hcs k d).keep λq=>hb.cell hl;have d0:wr.cell? (G b<|off+k*5)=some (J<|(s:Int)+5*(k:Int)):=hc.c0;have d1:wr.cell? (G b<|off+k*5+1)=some (J<|(s:Int)+5*(k:Int)+1):=hc.c1;have d2:wr.cell? (G b<|off+k*5+2)=some (F9<|floatOfInt .f64<|(s:Int)+5*(k:Int)+1+1):=hc.c2;have d3:wr.cell? (G b<|off+k*5+3)=some (.string<|mark<|s+5*k+3):=hc.c3;have d4:wr.cell? (G b<|off+k*5+4)=some (J<|(s:Int)+5*(k:Int)+1+1+1+1):=hc.c4;have g2:=cE ((s:Int)+5*(k:Int)+1+1) om om;have f:∀w:World,_:=λw=>BF (s+5*k+3) om w;rw[show((s+5*k+3:Nat):Int)=(s:Int)+5*(k:Int)+1+1+1 by omega]at f;have p:=O f;have e:=O hb;clear hb hc f hcs;go_wp2;refine qr wr ?_;(iterate 6 refine N (h:=?_));refine GC λK hK=>?_;go_simp;refine⟨_,λw' g=>qk g<|p _,hK _ ?_⟩;clear hK K;refine N (h:=?_);refine GS ?_;intro w2 c;have j:=O<|o8 e c;have c4:=(c.cell o).trans d4;clear c e d0 d1 d2 d3 d4;go_wp2;go_roundw
  .exact⟨k+1,om,ov,ov,j⟩
  exact ow
 have l:k=n:=om;have e:=O hb;clear hb d;subst l;go_wp2;go_ret;exact⟨rfl,e⟩
def OW{a:Option Addr}cap s{w}(hA:FM w a n<|kC s)(hn:n<=2000000000)(hs:s<=100000000000000):
  C9 74 #[.slice a n cap,J s] w (R9 (J<|(s:Int)+5*(n:Int)) w):=by
 have o:=O hA;clear hA;go_enter func74,ntmps74;go_wp2;go_loopw [1,5] (λq i wr=>∃(k:Nat),k<=n/\i=J k/\q=J ((s:Int)+5*(k:Int))/\B9 w wr) λ_ i _=>n-(intOf i).toNat
 .exact⟨0,om,rfl,oq,BE _ _⟩
 obtain⟨k,hk,rfl,rfl,hb⟩:=hrel;by_cases d:k<n
 .obtain⟨b,off,rfl,hl,hcs⟩:=o.resolve_left om;have f:=A0 hl hb.size;have hc:=(hcs k d).keep λq=>hb.cell hl;have d0:wr.cell? (G b<|off+k*5)=some (.string<|mark<|s+5*k):=hc.c0;have d1:wr.cell? (G b<|off+k*5+1)=some (J<|(s:Int)+5*(k:Int)+1):=hc.c1;have d2:wr.cell? (G b<|off+k*5+2)=some (J<|(s:Int)+5*(k:Int)+1+1):=hc.c2;have d3:wr.cell? (G b<|off+k*5+3)=some (J<|(s:Int)+5*(k:Int)+1+1+1):=hc.c3;have d4:wr.cell? (G b<|off+k*5+4)=some (J<|(s:Int)+5*(k:Int)+1+1+1+1):=hc.c4;have g:∀w:World,_:=λw=>BF (s+5*k) om w;rw[show((s+5*k:Nat):Int)=(s:Int)+5*(k:Int) by omega]at g;have p:=O g;have e:=O hb;clear hb hc g hcs;go_wp2;refine qr wr ?_;(iterate 6 refine N (h:=?_));refine GC λK hK=>?_;go_simp;refine⟨_,λw' j=>qk j<|p _,hK _ ?_⟩;clear hK K;refine N (h:=?_);refine GS ?_;intro w2 c;rcases O (o8 e c),(c.cell f).trans d1,(c.cell f).trans d2,(c.cell f).trans d3,(c.cell f).trans d4 with⟨l,c1,c2,c3,c4⟩;clear c e d0 d1 d2 d3 d4;go_wp2;go_roundw
  .exact⟨k+1,om,ov,ov,l⟩
  exact ow
 have m:k=n:=om;have e:=O hb;clear hb d;subst m;go_wp2;go_ret;exact⟨rfl,e⟩
def Om(f:Nat->Vl)(n:Nat)(w:Y)(v:V9)(lo hi:Nat):Prop:=
 (n=0/\v=N9)\/∃b a Z g,v=S9 b n a/\lo<=b/\b<hi/\w.rowIs b 43 Z g/\n*5<=Z/\∀j,j<n*5->g j=RL f j
def Om.keep{f}(h:Om f n w v lo hi)(hk:∀b,v.ownBlock=some b->w'.heap[b]?=w.heap[b]?):Om f n w' v lo hi:=by
 rcases h with h|⟨b,a,Z,g,rfl,h2,h3,h4,h5,c⟩
 .exact .inl h
 exact .inr ⟨b,a,Z,g,rfl,h2,h3,GW h4<|hk b rfl,h5,c⟩
theorem Om.at{f}(h:Om f n w v lo hi):∃a c,v=.slice a n c/\Fq w a n f:=by
 rcases h with⟨d,rfl⟩|⟨b,c,Z,g,h1,h2,h3,h4,h5,e⟩
 .subst d;exact⟨_,_,rfl,.inl rfl⟩
 exact⟨_,_,h1,.inr ⟨b,0,rfl,H8 h4,λi hi=>by rw[VC];exact qA h4 h5 e hi⟩⟩
def KR.CQ{f}(h:KR f n w v lo hi)(hk:∀b,v.ownBlock=some b->w'.heap[b]?=w.heap[b]?):KR f n w' v lo hi:=by
 rcases h with h|⟨b,a,Z,g,rfl,h2,h3,h4,h5,c⟩
 .exact .inl h
 exact .inr ⟨b,a,Z,g,rfl,h2,h3,GW h4<|hk b rfl,h5,c⟩
def Hy.CQ(h:Hy f n w v lo hi)(hk:∀b,v.ownBlock=some b->w'.heap[b]?=w.heap[b]?):Hy f n w' v lo hi:=by
 rcases h with h|⟨b,a,Z,g,rfl,h2,h3,h4,h5,c⟩
 .exact .inl h
 exact .inr ⟨b,a,Z,g,rfl,h2,h3,GW h4<|hk b rfl,h5,c⟩
def Hy.YG(h:Hy f n w v lo hi):∃a c,v=.slice a n c/\JX w a n f:=by
 rcases h with⟨d,rfl⟩|⟨b,c,Z,g,h1,h2,h3,h4,h5,e⟩
 .subst d;exact⟨_,_,rfl,.inl rfl⟩
 exact⟨_,_,h1,.inr ⟨b,0,rfl,H8 h4,λi hi=>by rw[VC,h4.cell om,e i hi]⟩⟩
structure Bv (v:V9) (w w':Y):Prop where
 os:w'.os=w.os
 tape:w'.tape=w.tape
 output:w'.output=w.output
 size:w.heap.size<=w'.heap.size
 block:∀k,k<w.heap.size->v.ownBlock≠some k->w'.heap[k]?=w.heap[k]?
def Bv.Yc(h:Bt b w w'):Bv (S9 b n a) w w':=⟨h.os,h.tape,h.output,h.size,λk hk hn=>h.block k hk λe=>hn<|qi e⟩
theorem Bv.same v w:Bv v w w:=⟨rfl,rfl,rfl,Be _,λ_ _ _=>rfl⟩
def Pt s w:
  C9 68 #[N9,J s] w λe w'=>e=.returned (J s)/\w'=w:=by
 go_enter func68,ntmps68;go_wp2;go_loopw [1,5] (λq i wr=>q=J s/\i=J 0/\wr=w) λ_ _ _=>0
 .exact⟨rfl,rfl,rfl⟩
 obtain⟨rfl,rfl,rfl⟩:=hrel;go_wp2;go_ret;exact⟨rfl,rfl⟩
def Pm s w:
  C9 69 #[N9,J s] w λe w'=>e=.returned (J s)/\w'=w:=by
 go_enter func69,ntmps69;go_wp2;go_loopw [1,5] (λq i wr=>q=J s/\i=J 0/\wr=w) λ_ _ _=>0
 .exact⟨rfl,rfl,rfl⟩
 obtain⟨rfl,rfl,rfl⟩:=hrel;go_wp2;go_ret;exact⟨rfl,rfl⟩
def kA{f}(h:Om f n w v lo hi)(hn:n<=2000000000)(hs:s<=100000000000000):
  C9 68 #[v,J s] w λe w'=>(e=.returned (J ((s+5*n:Nat):Int))/\Om (lZ s) n w' v lo hi)/\Bv v w w':=by
 rcases h with⟨c,rfl⟩|⟨b,a,Z,g,rfl,h2,h3,h4,h5,j⟩
 .subst c;refine(Pt s w).mono λe w' h=>?_;rw[h.2];exact⟨⟨by rw[h.1];rfl,.inl ⟨rfl,rfl⟩⟩,Bv.same _ _⟩
 refine(Nu b n a Z s g w h4 h5 om hs).mono λe w' h=>?_;obtain⟨⟨rfl,g',d,i⟩,hb⟩:=h;exact⟨⟨oq,.inr ⟨b,a,Z,g',rfl,h2,h3,d,h5,i⟩⟩,Bv.Yc hb⟩
def dL{f}(h:KR f n w v lo hi)(hn:n<=2000000000)(hs:s<=100000000000000):
  C9 69 #[v,J s] w λe w'=>(e=.returned (J ((s+11*n:Nat):Int))/\KR (lY s) n w' v lo hi)/\Bv v w w':=by
 rcases h with⟨c,rfl⟩|⟨b,a,Z,g,rfl,h2,h3,h4,h5,j⟩
 .subst c;refine(Pm s w).mono λe w' h=>?_;rw[h.2];exact⟨⟨by rw[h.1];rfl,.inl ⟨rfl,rfl⟩⟩,Bv.same _ _⟩
 refine(J8 b n a Z s g w h4 h5 om hs).mono λe w' h=>?_;obtain⟨⟨rfl,g',d,i⟩,hb⟩:=h;exact⟨⟨oq,.inr ⟨b,a,Z,g',rfl,h2,h3,d,h5,i⟩⟩,Bv.Yc hb⟩
def Ux(h:Hy f n w v lo hi)(hn:n<=2000000000)(hs:s<=100000000000000):
  C9 70 #[v,J s] w λe w'=>(e=.returned (J ((s+n:Nat):Int))/\Hy (λj=>((s+j:Nat):Int)) n w' v lo hi)/\Bv v w w':=by
 rcases h with⟨c,rfl⟩|⟨b,a,Z,g,rfl,h2,h3,h4,h5,k⟩
 .subst c;refine(SB s w).mono λe w' h=>?_;rw[h.2];exact⟨⟨by rw[h.1];rfl,.inl ⟨rfl,rfl⟩⟩,Bv.same _ _⟩
 refine(Iu b n a Z s g w h4 h5 om hs).mono λe w' h=>?_;obtain⟨⟨rfl,g',d,i⟩,hb⟩:=h;exact⟨⟨rfl,.inr ⟨b,a,Z,g',rfl,h2,h3,d,h5,i⟩⟩,Bv.Yc hb⟩
def jM(h:Om (lZ s) n w v lo hi)(hn:n<=2000000000)(hs:s<=100000000000000):
  C9 115 #[v,J s] w (R9 (J ((s+5*n:Nat):Int)) w):=by
 obtain⟨a,b,rfl,hA⟩:=h.at;refine(Nq b s hA om hs).mono λe w' h=>?_;exact⟨by rw[h.1];simp,h.2⟩
def OV s w:
  C9 116 #[N9,J s] w λe w'=>e=.returned (J s)/\w'=w:=by
 go_enter func116,ntmps116;go_wp2;go_loopw [1,5] (λq i wr=>q=J s/\i=J 0/\wr=w) λ_ _ _=>0
 .exact⟨rfl,rfl,rfl⟩
 obtain⟨rfl,rfl,rfl⟩:=hrel;go_wp2;go_ret;exact⟨rfl,rfl⟩
def cJ(h:KR (lY s) n w v lo hi)(hn:n<=2000000000)(hs:s<=100000000000000):
  C9 116 #[v,J s] w (R9 (J ((s+11*n:Nat):Int)) w):=by
 rcases h with⟨a,rfl⟩|⟨b,c,Z,g,rfl,h2,h3,h4,h5,d⟩
 .subst a;refine(OV s w).mono λe w' h=>?_;rw[h.2];exact⟨by rw[h.1];rfl,BE _ _⟩
 refine(Qs b n c s w (H8 h4) (λi hi=>dV h4 h5 d hi) om hs).mono λe w' h=>?_;exact⟨by rw[h.1];simp,h.2⟩
def T6(h:Hy (λj=>((s+j:Nat):Int)) n w v lo hi)(hn:n<=2000000000)(hs:s<=100000000000000):
  C9 117 #[v,J s] w (R9 (J ((s+n:Nat):Int)) w):=by
 rcases h with⟨a,rfl⟩|⟨b,c,Z,g,rfl,h2,h3,h4,h5,d⟩
 .subst a;refine(Sg s w).mono λe w' h=>?_;rw[h.2];exact⟨by rw[h.1];rfl,BE _ _⟩
 exact Sf b n c s w (H8 h4) (λi hi=>by rw[h4.cell om,d i hi]) om hs
structure Hs where
 v:Value
 l:Value
 i:Value
 x:Value
def Hs.own(h:Hs)(q:Nat):Prop:=h.v.ownBlock=some q\/h.l.ownBlock=some q\/h.i.ownBlock=some q\/h.x.ownBlock=some q
structure aN (lo hi:Nat) (w:Y) (b o:Nat) (h:Hs) (t:Tb):Prop where
 c0:w.cell? (G b o)=some (J t.shape)
 c1:w.cell? (G b<|o+1)=some h.v
 c2:w.cell? (G b<|o+2)=some h.l
 c3:w.cell? (G b<|o+3)=some h.i
 c4:w.cell? (G b<|o+4)=some h.x
 c5:w.cell? (G b<|o+5)=some (J t.d.used)
 c6:w.cell? (G b<|o+6)=some (J t.d.live)
 c7:w.cell? (G b<|o+7)=some (J t.d.turns)
 v:Om t.V t.nv w h.v lo hi
 l:KR t.d.L t.d.n w h.l lo hi
 i:Hy t.d.I t.d.m w h.i lo hi
 x:Hy t.d.X t.d.x w h.x lo hi
def aN.keep{h}(H:aN lo hi w b o h t)(hk:∀q,h.own q->w'.heap[q]?=w.heap[q]?)(hc:∀j,j<8->w'.cell? (G b<|o+j)=w.cell? (G b<|o+j)):aN lo hi w' b o h t:=
 ⟨(hc 0 om).trans H.c0,(hc 1 om).trans H.c1,(hc 2 om).trans H.c2,(hc 3 om).trans H.c3,(hc 4 om).trans H.c4,(hc 5 om).trans H.c5,(hc 6 om).trans H.c6,(hc 7 om).trans H.c7,
  H.v.keep (λq e=>hk q (.inl e)),H.l.CQ (λq e=>hk q (.inr (.inl e))),H.i.CQ (λq e=>hk q (.inr (.inr (.inl e)))),H.x.CQ (λq e=>hk q (.inr (.inr (.inr e))))⟩
def aN.lt{h}(H:aN lo hi w b o h t){q}(hq:h.own q):q<w.heap.size/\lo<=q/\q<hi:=by
 rcases hq with e|e|e|e
 .rcases H.v with⟨_,h1⟩|⟨b,a,Z,g,h1,h2,h3,h4,h5,c⟩
  .rw[h1]at e;cases e
  rw[h1]at e;cases e;exact⟨H8 h4,h2,h3⟩
 .rcases H.l with⟨_,h1⟩|⟨b,a,Z,g,h1,h2,h3,h4,h5,c⟩
  .rw[h1]at e;cases e
  rw[h1]at e;cases e;exact⟨H8 h4,h2,h3⟩
 .rcases H.i with⟨_,h1⟩|⟨b,a,Z,g,h1,h2,h3,h4,h5,c⟩
  .rw[h1]at e;cases e
  rw[h1]at e;cases e;exact⟨H8 h4,h2,h3⟩
 rcases H.x with⟨_,h1⟩|⟨b,a,Z,g,h1,h2,h3,h4,h5,c⟩
 .rw[h1]at e;cases e
 rw[h1]at e;cases e;exact⟨H8 h4,h2,h3⟩
theorem aN.at{h}(H:aN lo hi w b o h t):YE w b o t:=by
 rcases H.v.at,H.l.at,H.i.YG,H.x.YG with⟨⟨va,vc,e0,r0⟩,⟨la,lc,e1,r1⟩,⟨ia,ic,e2,r2⟩,⟨xa,xc,e3,r3⟩⟩;exact⟨va,vc,la,lc,ia,ic,xa,xc,⟨H.c0,H.c1.trans<|by rw[e0],H.c2.trans<|by rw[e1],H.c3.trans<|by rw[e2],H.c4.trans<|by rw[e3],H.c5,H.c6,H.c7⟩,r0,⟨r1,r2,r3⟩⟩
structure lJ (b n:Nat) (H:Nat->Hs):Prop where
 nb:∀i,i<n->¬(H i).own b
 ij:∀i j q,i<n->j<n->(H i).own q->(H j).own q->i=j
 vl:∀i q,i<n->(H i).v.ownBlock=some q->(H i).l.ownBlock≠some q
 vi:∀i q,i<n->(H i).v.ownBlock=some q->(H i).i.ownBlock≠some q
 vx:∀i q,i<n->(H i).v.ownBlock=some q->(H i).x.ownBlock≠some q
 li:∀i q,i<n->(H i).l.ownBlock=some q->(H i).i.ownBlock≠some q
 lx:∀i q,i<n->(H i).l.ownBlock=some q->(H i).x.ownBlock≠some q
 ix:∀i q,i<n->(H i).i.ownBlock=some q->(H i).x.ownBlock≠some q
structure Bm (b n:Nat) (H:Nat->Hs) (w w':Y):Prop where
 os:w'.os=w.os
 tape:w'.tape=w.tape
 output:w'.output=w.output
 size:w.heap.size<=w'.heap.size
 block:∀k,k<w.heap.size->k≠b->(∀i,i<n->¬(H i).own k)->w'.heap[k]?=w.heap[k]?
def Bm.refl b n H w:Bm b n H w w:=⟨rfl,rfl,rfl,Be _,λ_ _ _ _=>rfl⟩
theorem Bm.trans{H}{u v}(h:Bm b n H u v)(k:Bm b n H v w):Bm b n H u w:=
 ⟨k.os.trans h.os,k.tape.trans h.tape,k.output.trans h.output,GP h.size k.size,λi hi h1 h2=>(k.block i (A0 hi h.size) h1 h2).trans<|h.block i hi h1 h2⟩
def tl(t:Tb):Nat:=1+5*t.nv+11*t.d.n+t.d.m+t.d.x+3
def KM(f:Nat->Tb)(s:Nat):Nat->Nat
 |0=>s
 |i+1=>KM f s i+tl (f i)
def mkT(t:Tb)(s:Nat):Tb:=
 ⟨(s:Int),t.nv,lZ<|s+1,⟨t.d.n,lY<|s+1+5*t.nv,t.d.m,λj=>((s+1+5*t.nv+11*t.d.n+j:Nat):Int),t.d.x,λj=>((s+1+5*t.nv+11*t.d.n+t.d.m+j:Nat):Int),
  ((s+1+5*t.nv+11*t.d.n+t.d.m+t.d.x:Nat):Int),((s+1+5*t.nv+11*t.d.n+t.d.m+t.d.x+1:Nat):Int),((s+1+5*t.nv+11*t.d.n+t.d.m+t.d.x+1+1:Nat):Int)⟩⟩
def Td f s k:KM f s k<=s+11*Eu f k:=by
 induction k with
 |zero=>exact Be _
 |succ k ih=>
  show KM f s k+tl (f k)<=s+11*(Eu f k+tw (f k));unfold tl tw dw;omega
def Ns(cap Z lo hi s:Nat)g0{f}{H}w(hr:w.rowIs b 105 Z g0)(hN:n*8<=Z)(hT:∀i,i<n->aN lo hi w b (i*8) (H i) (f i))(hA:lJ b n H)(hw:Eu f n<=2000000000)(hs:s<=10000000000000):
  C9 35 #[.slice (some<|G b 0) n cap,J s] w λe w'=>(e=.returned (J<|KM f s n)/\(∃g,w'.rowIs b 105 Z g)/\∀i,i<n->aN lo hi w' b (i*8) (H i) (mkT (f i)<|KM f s i))/\Bm b n H w w':=by
 have b4:=Te f n;have HT:=O hT;clear hT;go_enter func35,ntmps35;go_wp2;go_loopw [1,5] (λq i wr=>∃(k:Nat),k<=n/\i=J (k:Int)/\q=J (KM f s k:Int)/\(∃g,wr.rowIs b 105 Z g)/\(∀i,i<n->aN lo hi wr b (i*8) (H i) (if i<k then mkT (f i) (KM f s i)else f i))/\Bm b n H w wr) λ_ i _=>n-(intOf i).toNat
 .exact⟨0,om,rfl,rfl,⟨_,hr⟩,λi hi=>by rw[Cs om];exact HT i hi,Bm.refl _ _ _ _⟩
 obtain⟨k,hk,rfl,rfl,⟨g,C⟩,I,hM⟩:=hrel;by_cases a:k<n
 case neg=>
  have bj:k=n:=om;rcases O I,O C,O hM with⟨D,U,HM⟩;clear I C hM a;subst bj;go_wp2;go_ret;exact⟨⟨rfl,⟨_,U⟩,λi hi=>by have:=z D i hi;rwa [C3 hi]at this⟩,HM⟩
 have E:=I k a;rw[Cs (Nat.lt_irrefl k)]at E;have Fu:=N7 f a;have bk:tw (f k)=(f k).nv+((f k).d.n+(f k).d.m+(f k).d.x)+1:=rfl;have V:KM f s (k+1)=KM f s k+(1+5*(f k).nv+11*(f k).d.n+(f k).d.m+(f k).d.x+3):=rfl;have bm:=Td f s k;obtain⟨r,W⟩:=o9<|KM f s k;rw[<-W]at V bm ⊢;have b5:r<=60000000000000:=om;have bn:(f k).nv<=2000000000:=om;have bp:(f k).d.n<=2000000000:=om;have bq:(f k).d.m<=2000000000:=om;have br:(f k).d.x<=2000000000:=om;rcases O V,O W,hA.nb k a with⟨bt,bu,A⟩;rcases C.cell (i:=k*8) om,C.frozen<|k*8,E.c1,E.c2,E.c3,E.c4,H8 C with⟨d0,e0,d1,d2,d3,d4,X⟩;have B0:∀q,q≠b->(wr.setCell (G b<|k*8)<|J (r:Int)).heap[q]?=wr.heap[q]?:=λq hq=>At _ _ _ _ (by exact hq);rcases E.v.keep (λq e=>B0 q λc=>A<|.inl<|c▸e),O<|E.l.CQ λq e=>B0 q λc=>A<|.inr<|.inl<|c▸e,O<|E.i.CQ λq e=>B0 q λc=>A<|.inr<|.inr<|.inl<|c▸e,O (E.x.CQ λq e=>B0 q λc=>A<|.inr<|.inr<|.inr<|c▸e) with⟨af,ag,ah,ai⟩;have aj:Hid<|∀q,(H k).own q->q<wr.heap.size:=O λq hq=>(E.lt hq).1;rcases O I,O C,O hM,O B0 with⟨D,U,HM,bw⟩;clear I C hM E Fu bk V W B0;go_wp2_with fail;have B:=kA (s:=r+1) af bn om;rw[show((r+1:Nat):Int)=(r:Int)+1 by omega]at B;refine B.mono ?_;rintro e w1 ⟨⟨rfl,hv⟩,L⟩;have l1:=A0 (by simpa using X) L.size;have ak:=L.block b (by simpa using X) λc=>A<|.inl c;have ad:Hid<|∀q,w1.cell? (G b q)=(wr.setCell (G b<|k*8)<|J (r:Int)).cell? (G b q):=O λq=>As ak;have p2:=(ad _).trans<|(Aa om).trans d2;have p3:=(ad _).trans<|(Aa om).trans d3;have p4:=(ad _).trans<|(Aa om).trans d4;have ao:Hid<|∀q,(H k).own q->q<w1.heap.size:=O λq hq=>A0 (by simpa using z aj q hq) L.size;have K1:∀q,(H k).own q->(H k).v.ownBlock≠some q->w1.heap[q]?=(wr.setCell (G b<|k*8)<|J (r:Int)).heap[q]?:=λq hq hn=>L.block q (by simpa using z aj q hq) hn;rcases O (ag.CQ λq e=>K1 q (.inr<|.inl e) λc=>hA.vl k q a c e),O<|ah.CQ λq e=>K1 q (.inr<|.inr<|.inl e) λc=>hA.vi k q a c e,O<|ai.CQ λq e=>K1 q (.inr<|.inr<|.inr e) λc=>hA.vx k q a c e,O L with⟨aq,ar,au,o⟩;clear B L ak K1 af ag ah ai d0 e0 d1 d2 d3 d4;go_wp2_with fail;have B:=dL (s:=r+1+5*(f k).nv) aq bp om;refine B.mono ?_;rintro e w2 ⟨⟨rfl,hl⟩,M⟩;have l2:=A0 l1 M.size;have av:=M.block b l1 λc=>A<|.inr<|.inl c;have aw:Hid<|∀q,w2.cell? (G b q)=w1.cell? (G b q):=O λq=>As av;have q3:=(aw _).trans p3;have q4:=(aw _).trans p4;have ax:Hid<|∀q,(H k).own q->q<w2.heap.size:=O λq hq=>A0 (ao q hq) M.size;have K2:∀q,(H k).own q->(H k).l.ownBlock≠some q->w2.heap[q]?=w1.heap[q]?:=λq hq hn=>M.block q (ao q hq) hn;rcases O (hv.keep λq e=>K2 q (.inl e) λc=>hA.vl k q a e c),O hl,ar.CQ λq e=>K2 q (.inr<|.inr<|.inl e) λc=>hA.li k q a c e,O<|au.CQ λq e=>K2 q (.inr<|.inr<|.inr e) λc=>hA.lx k q a c e,O M with⟨ay,az,aM,a6,t⟩;clear B M hl av K2 aq ar au p2 p3 p4 hv;go_wp2_with fail;have B:=Ux (s:=r+1+5*(f k).nv+11*(f k).d.n) aM bq om;refine B.mono ?_;rintro e w3 ⟨⟨rfl,hi⟩,P⟩;have l3:=A0 l2 P.size;have a7:=P.block b l2 λc=>A<|.inr<|.inr<|.inl c;have bx:Hid<|∀q,w3.cell? (G b q)=w2.cell? (G b q):=O λq=>As a7;have t4:=(bx _).trans q4;have bz:Hid<|∀q,(H k).own q->q<w3.heap.size:=O λq hq=>A0 (ax q hq) P.size;have K3:∀q,(H k).own q->(H k).i.ownBlock≠some q->w3.heap[q]?=w2.heap[q]?:=λq hq hn=>P.block q (ax q hq) hn;rcases O (ay.keep λq e=>K3 q (.inl e) λc=>hA.vi k q a e c),O<|az.CQ λq e=>K3 q (.inr<|.inl e) λc=>hA.li k q a e c,O hi,a6.CQ λq e=>K3 q (.inr<|.inr<|.inr e) λc=>hA.ix k q a c e,O P with⟨a8,bb,bc,bd,u⟩;clear B P hi a7 K3 ay az aM a6 q3 q4;go_wp2_with fail;have B:=Ux (s:=r+1+5*(f k).nv+11*(f k).d.n+(f k).d.m) bd br om;refine B.mono ?_;rintro e w4 ⟨⟨rfl,hx⟩,K⟩;have bf:=K.block b l3 λc=>A<|.inr<|.inr<|.inr c;have K4:∀q,(H k).own q->(H k).x.ownBlock≠some q->w4.heap[q]?=w3.heap[q]?:=λq hq hn=>K.block q (bz q hq) hn;rcases O (a8.keep λq e=>K4 q (.inl e) λc=>hA.vx k q a e c),O<|bb.CQ λq e=>K4 q (.inr<|.inl e) λc=>hA.lx k q a e c,O (bc.CQ λq e=>K4 q (.inr<|.inr<|.inl e) λc=>hA.ix k q a e c) with⟨b0,b1,b2⟩;have eb:=bf.trans<|(O (p:=True) trivial |> λ_=>u.block b l2 λc=>A<|.inr<|.inr<|.inl c).trans<|(t.block b l1 λc=>A<|.inr<|.inl c).trans<|o.block b (by simpa using X) λc=>A<|.inl c;have re:=GW (U.set (k*8)<|J (r:Int)) eb;have HO:Hid<|∀q,q<wr.heap.size->q≠b->¬(H k).own q->w4.heap[q]?=wr.heap[q]?:=O (λq hq h1 h2=>by
  have z1:=o.size;simp at z1;have z2:=t.size;have z3:=u.size;exact(K.block q om (λc=>h2 (.inr (.inr (.inr c))))).trans ((u.block q om (λc=>h2 (.inr (.inr (.inl c))))).trans ((t.block q om (λc=>h2 (.inr (.inl c)))).trans ((o.block q (by simpa using hq) (λc=>h2 (.inl c))).trans (bw q h1)))))
 have Q:Hid<|∀q,q≠k*8->w4.cell? (G b q)=wr.cell? (G b q):=O λq hq=>(As eb).trans<|Aa<|Ne.symm hq;have b3:Hid<|w4.cell? (G b<|k*8)=some (J (r:Int)):=O (by rw[re.cell om];simp);have R:Hid<|w4.os=wr.os/\w4.tape=wr.tape/\w4.output=wr.output/\wr.heap.size<=w4.heap.size:=O (by
  have z1:=o.size;simp at z1;have z2:=t.size;have z3:=u.size;exact⟨K.os.trans (u.os.trans (t.os.trans o.os)),K.tape.trans (u.tape.trans (t.tape.trans o.tape)),K.output.trans (u.output.trans (t.output.trans o.output)),oS K.size⟩)
 have d5:=re.cell (i:=k*8+5) om;have e5:=re.frozen<|k*8+5;have d6:=re.cell (i:=k*8+6) om;have e6:=re.frozen<|k*8+6;have d7:=re.cell (i:=k*8+7) om;have e7:=re.frozen<|k*8+7;obtain⟨x,ae⟩:∃x:Nat,x=r+1+5*(f k).nv+11*(f k).d.n+(f k).d.m+(f k).d.x:=⟨_,rfl⟩;have b6:x<=100000000000000:=om;rw[<-ae];have S:=O ae;clear B K bf K4 a8 bb bc bd t4 eb ae o t u;go_wp2;go_roundw
 .have hS:∀q,q≠b->(((w4.setCell (G b<|k*8+5)<|J (x:Int)).setCell (G b<|k*8+6)<|J<|(x:Int)+1).setCell (G b<|k*8+7)<|J<|(x:Int)+1+1).heap[q]?=w4.heap[q]?:=λq hq=>
   (At _ _ _ _<|by exact hq).trans ((At _ _ _ _<|by exact hq).trans<|At _ _ _ _<|by exact hq)
  have hC:∀q,q≠k*8+5->q≠k*8+6->q≠k*8+7->(((w4.setCell (G b<|k*8+5)<|J (x:Int)).setCell (G b<|k*8+6)<|J<|(x:Int)+1).setCell (G b<|k*8+7)<|J<|(x:Int)+1+1).cell? (G b q)=w4.cell? (G b q):=λq h5 h6 h7=>
   (Aa<|Ne.symm h7).trans ((Aa<|Ne.symm h6).trans<|Aa<|Ne.symm h5)
  have F:=((re.set (k*8+5)<|J (x:Int)).set (k*8+6)<|J<|(x:Int)+1).set (k*8+7)<|J<|(x:Int)+1+1;have T:∀q,(H k).own q->q≠b:=λq hq e=>A<|e▸hq;refine⟨k+1,om,ov,?_,⟨_,F⟩,λi hi=>?_,?_⟩
  .rw[z bt];have:=z S;congr 1;omega
  .by_cases e:i=k
   .subst e;rw[C3 (Nat.lt_succ_self _),<-z bu];refine⟨(hC _ om om om).trans b3,(hC _ om om om).trans<|(Q _ om).trans ?_,(hC _ om om om).trans<|(Q _ om).trans ?_,(hC _ om om om).trans<|(Q _ om).trans ?_,(hC _ om om om).trans<|(Q _ om).trans ?_,?_,?_,?_,b0.keep λq h=>hS q<|T q<|.inl h,b1.CQ λq h=>hS q<|T q<|.inr<|.inl h,b2.CQ λq h=>hS q<|T q<|.inr<|.inr<|.inl h,hx.CQ λq h=>hS q<|T q<|.inr<|.inr<|.inr h⟩
    .exact(D i hi).c1
    .exact(D i hi).c2
    .exact(D i hi).c3
    .exact(D i hi).c4
    .rw[F.cell om];simp[mkT,z S]
    .rw[F.cell om];simp[mkT,z S]
    rw[F.cell om];simp[mkT,z S]
   have bg:=z D i hi;have e2:(if i<k+1 then mkT (f i) (KM f s i)else f i)=(if i<k then mkT (f i) (KM f s i)else f i):=by
    by_cases h:i<k
    .rw[C3 h,C3 om]
    rw[Cs h,Cs om]
   rw[e2];refine bg.keep (λq hq=>?_) λj hj=>(hC _ om om om).trans<|Q _ om;have bh:q≠b:=λc=>hA.nb i hi<|c▸hq;exact(hS q bh).trans (HO q (bg.lt hq).1 bh λc=>e<|hA.ij i k q hi a hq c)
  refine HM.trans ⟨R.1,R.2.1,R.2.2.1,by simpa using R.2.2.2,λq hq h1 h2=>(hS q h1).trans<|HO q hq h1<|h2 k a⟩
 exact ow
def Ji n w(c:0<=n)(h1:n<=1000000000000):
  C9 185 #[J n] w λe w'=>e=.returned (J<|Ef n)/\w'=w:=by
 have d:IntKind.i64.wrap (n+1)=n+1:=oj;by_cases hn:n<1000000000000
 focus
  have a:Hid<|Ef n=n+1:=O<|C3 hn;have b:min (n+1) 1000000000000=n+1:=om
 rotate_left
 focus
  have a:Hid<|Ef n=1000000000000:=O<|Cs hn;have b:min (n+1) 1000000000000=1000000000000:=om
 all_goals
  go_enter func185,ntmps185;go_wp2;go_ret;exact⟨by rw[z a];simp[b],rfl⟩
def M9 Z c B0 vN vT vS vU Bk A s i w(h:A6 Z w c B0 vN vT vS vU Bk A s)(hi:i<s.ns)(p:s.ns<=50):
  C9 171 #[Q9 c,J i] w (R9 (Hc<|BH (s.S i).key) w):=by
 obtain⟨g,B,q,r,t,d,j⟩:=h.GY hi;subst q;have u:=h.lt;obtain⟨W,n,e,_,a⟩:=JZ w<|.cells #[J 0,J 0,F9 0,E9,J 0] 43;have k:=Ah a;have c2:=h.cells.2.2.1;have k0:w.cell? (G g<|i*5)=some (.string (s.S i).key):=d 0 _ rfl;have f:=O e;have l:=O a;clear h d j e a;go_enter func171,ntmps171;go_wp2_with fail;rw[<-n];clear n c2 k0;refine m9 (P3 (s.S i).key _) λw1 b=>?_;have a:=(b.block _ k).trans l;have l1:=Ah a;obtain⟨r0,r1,r2,r3,x⟩:=v5 a;have rf:∀o,w1.frozen? (y w o)=false:=λo=>by simp[World.frozen?,a]
 have m:=O<|o8 f b;clear b a;go_wp2;refine GO (v:=Hc<|BH (s.S i).key) (by simp[results,results171,go_sem,r0,r1,r2,r3,x,BH]) rfl ⟨rfl,?_⟩;repeat(refine NO ?_ (by show w.heap.size<=w.heap.size;omega) _)
 exact m
abbrev tB(g a:Nat):Ad:=⟨some<|G g 0,a,none,0,none,0,none,0⟩
def Y4(hb:bare t.d)a g b r v:CH a (tB g b) (I7 t r v)=.agg #[S9 g (t.nv+1) b,N9,N9,N9,J 0,J 0,J 0,Q9 a]:=by
 obtain⟨h1,h2,h3,h4,h5,c⟩:=hb;show Value.agg #[S9 g (t.nv+1) b,.slice none t.d.n 0,.slice none t.d.m 0,.slice none t.d.x 0,J t.d.used,J t.d.live,J t.d.turns,Q9 a]=_;rw[h1,h2,h3,h4,h5,c]
def Y3 p f A t r v{w}(hV:Fq w A.va t.nv t.V)(hn:t.nv<=12)(hb:bare t.d):
  C9 192 #[CH p A t,Q9 f,Hc v] w λe w'=>(∃g cp,w.heap.size<=g/\e=.returned (CH f (tB g cp)<|I7 t r v)/\Cc w' w.heap.size (S9 g (t.nv+1) cp) (t.nv+1) (AX t.V t.nv v))/\B9 w w':=by
 obtain⟨i0,I,K,L,M⟩:=ON FZ;obtain⟨W,hW,P,Z,_,b1,b2⟩:=gZ w (.cells #[.slice A.va t.nv A.vc,.slice A.la t.d.n A.lc,.slice A.ia t.d.m A.ic,.slice A.xa t.d.x A.xc,J t.d.used,J t.d.live,J t.d.turns,Q9 p] 197) (.cells (qf v) 43)<|.cells EF 197;have ae:Hid (t.nv=0\/∃ad,A.va=some ad/\∀j u,(MA t.V t.nv)[j]?=some u->W.cell? (ad.add j)=some u):=O (by
  rcases hV with h|⟨vb,off,af,ag,ah⟩
  .exact .inl h
  exact .inr ⟨_,af,Fq.news (w:=W) (λi hi=>(ah i hi).keep (λq=>P.cell (p:=(G vb q)) ag))⟩)
 have Q:=O<|ql b1 b2;have ai:=O hb;go_enter func192,ntmps192;go_upto_region 2 with(at_builtin;rw[<-hW];refine CN rfl _ _ 100 rfl w.heap.size 43 i0 (V 0 0 0 ⟨#[]⟩ 0) 5 48 underlying100 I K L M rfl oo rfl A.va t.nv A.vc (MA t.V t.nv) rfl (IJ _ _) ae (N8 _ _) od om om (w.heap.size+1+1+1) Z ?_;intro a3 s w3 E a F)
 have hb:=P;have c:B9 w w3:=⟨a.os.trans hb.os,a.tape.trans hb.tape,a.output.trans hb.output,GP hb.size a.size,λk hk=>(a.block k (A0 hk hb.size) oq).trans<|hb.block k hk⟩;have z3:=a.size;have c1:=(a.block (w.heap.size+1) om oq).trans Q.1;have c2:=(a.block (w.heap.size+1+1) om oq).trans Q.2;have l1:=Ah c1;have y0:w3.cell? (Y9 w 0)=some (J v.kind):=by simp[World.cell?,c1]
 have y1:w3.cell? (Y9 w 1)=some (J v.num):=by simp[World.cell?,c1]
 have y2:w3.cell? (Y9 w 2)=some (F9 v.Af):=by simp[World.cell?,c1]
 have y3:w3.cell? (Y9 w 3)=some (.string v.str):=by simp[World.cell?,c1]
 have y4:w3.cell? (Y9 w 4)=some (J v.ref):=by simp[World.cell?,c1]
 have aj:∀q,(Value.slice a3 t.nv s).ownBlock=some q->w.heap.size+1+1<q:=λq e=>by rw[F q e];omega
 have H:=O aj;have R:Hid (∀g4 b w4,w4.ownsRow w.heap.size 43 5 (S9 g4 (t.nv+1) b) (t.nv+1) (MA t.V t.nv++Hd v)->(w3.alloc<|.cells (Hd v).toArray 43).grownBy w4 (Value.ownBlock<|.slice a3 t.nv s)->(Value.ownBlock (.slice a3 t.nv s)=some g4\/g4=w3.heap.size+1)->
   (∃w5,(Instr.storeAt 197 (Q9<|w.heap.size+1+1)<|.agg #[S9 g4 (t.nv+1) b,N9,N9,N9,J 0,J 0,J 0,Q9 f]).run prog w4=.ok () w5/\Br w4 w5 (w.heap.size+1+1) #[S9 g4 (t.nv+1) b,N9,N9,N9,J 0,J 0,J 0,Q9 f] 197/\
   w.heap.size<=g4/\Cc w5 w.heap.size (S9 g4 (t.nv+1) b) (t.nv+1) (AX t.V t.nv v)/\B9 w w5)):=O (by
  intro g4 b w4 h1 h2 h3;have S:=h3.elim (λe=>H g4 e) λe=>om;have c2:=(h2.block _ ot λe=>oS<|z H _ e.symm).trans<|(DO _ _ _<|Ah c2).trans<|z<|O c2;obtain⟨w5,k1,k2⟩:=BQ (v:=.agg #[S9 g4 (t.nv+1) b,N9,N9,N9,J 0,J 0,J 0,Q9 f]) (vs:=[S9 g4 (t.nv+1) b,N9,N9,N9,J 0,J 0,J 0,Q9 f]) (old:=EF.toList) Ez c2 rfl rfl oh rfl;refine⟨w5,k1,k2,om,?_,?_⟩
  .rw[P7]at h1;exact Ab h1 λq e=>k2.other q<|by cases e;show g4≠_;omega
  have c:=z (O c);refine k2.below (B:=w.heap.size) ⟨h2.os.trans c.os,h2.tape.trans c.tape,h2.output.trans c.output,GP c.size (GP oq h2.size),λk hk=>?_⟩ om;exact(h2.block k ot (λe=>oS (z H _ e.symm))).trans ((DO _ _ _ om).trans (c.block k hk)))
 go_wp2_with (first|(at_builtin;refine So _ rfl _ _ 100 rfl w.heap.size 43 i0 (V 0 0 0 ⟨#[]⟩ 0) 5 48 underlying100 I K L M rfl oo (.slice a3 t.nv s) t.nv (MA t.V t.nv) rfl (PC E _) (y w3 0) 1 1 (Hd v) rfl rfl (ID<|DD w3 _) (by simp[Hd,Value.oneCell']) oo od om ot (w3.heap.size+1) oq ?_;intro g4 b w4 l C o au;obtain⟨w5,D,T,S,U,X⟩:=z R g4 b w4 l C o;have ak:=O D;have ao:=O T;have aq:=O U;have ar:=O X;clear l C o D T U X)|(refine Ag rfl rfl _ ak ?_)|go_in)
 refine FJ results192 underlying197 ao.BB ⟨⟨g4,b,S,by rw[Y4 (z ai)],aq⟩,ar⟩
theorem A6.EJ{Z}{w1 X:Y}{c}{Bk B'}{s}{F'}{r g3}(h:A6 Z w c B0 vN vT vS vU Bk A s)
  (m:RP B0 w w1) (D:∃W M,CA w1 F' B0 (s.nf+1) B' W M/\∀i,i<s.nf+1->W i=i) (P:B' s.nf=r) (L:∀i,i<s.nf->B' i=Bk i) (o:B9 w1 X) (d:X.grownBy w3 vN.ownBlock)
  (g:w3.ownsRow B0 140 1 (.slice (some<|G g3 0) (s.nf+1) a) (s.nf+1)<|ptrs Bk s.nf++[.pointer (some (G r 0))]) (l:vN.ownBlock=some g3\/w.heap.size<=g3) (E:∀i,i<s.nt->(s.T i).shape=-1\/∃j:Nat,(s.T i).shape=j/\j<s.nf):
  w3.heap[c]?=some (.cells #[vN,vT,vS,vU] 134 (0,0))/\A6 Z (w3.setCell (G c 0)<|.slice (some<|G g3 0) (s.nf+1) a) c B0 (.slice (some<|G g3 0) (s.nf+1) a) vT vS vU B' A {s with nf:=s.nf+1,F:=F'}/\BI (Az B0 c vN vT vS w) w (Az B0 c (.slice (some<|G g3 0) (s.nf+1) a) vT vS<|w3.setCell (G c 0)<|.slice (some<|G g3 0) (s.nf+1) a) (w3.setCell (G c 0)<|.slice (some<|G g3 0) (s.nf+1) a):=by
 obtain⟨W,M,hN,hid⟩:=D;have k1:∀q,q<w.heap.size->(q<B0\/¬DZ 145 w q)->w1.heap[q]?=w.heap[q]?:=λq hq hn=>m.block q hq hn;have k3:∀q,q<w1.heap.size->vN.ownBlock≠some q->w3.heap[q]?=w1.heap[q]?:=λq hq hn=>(d.block q (A0 hq o.size) λe=>hn e.symm).trans<|o.block q hq;have f:∀q,q<w.heap.size->(q<B0\/¬DZ 145 w q)->vN.ownBlock≠some q->w3.heap[q]?=w.heap[q]?:=λq hq hn Q=>(k3 q (A0 hq m.size) Q).trans<|k1 q hq hn;have p:=(f c h.lt (.inr h.GR)<|h.Bg h.n oo).trans h.BB;have v:=(k1 c h.lt<|.inr h.GR).trans h.BB;have B:∀k,k≠c->(w3.setCell (G c 0)<|.slice (some<|G g3 0) (s.nf+1) a).heap[k]?=w3.heap[k]?:=λk hk=>At _ _ _ _ (by exact hk);have H:g3≠c:=λe=>by
  rcases l with h1|h1
  .exact h.Bg h.n oo (e▸h1)
  have:=h.lt;omega
 refine⟨p,h.next ⟨d.os.trans<|o.os.trans m.os,d.tape.trans<|o.tape.trans m.tape,d.output.trans<|o.output.trans m.output⟩ (by have:=o.size;have:=d.size;have:=m.size;simp;omega)
  (λk I hk=>(B k λe=>hk<|.inl e).trans<|f k I ?_ λe=>hk<|.inr<|.inl e) (λk e=>by cases e;exact l) (λ_ e=>.inl e) (λ_ e=>.inl e) ((Lo _ _ _ _ _ _ p).trans oq) ?_ ⟨W,M,hN.keep λb hn=>?_,hid⟩ ?_
  (Ab h.si (λq e=>(B q (λe'=>h.Bg h.si oo (e'▸e))).trans (f q (h.si.lt q e).2 (.inr (Ey h.si oo e)) (Cm h.si h.n oo e)))) h.u (λi hi=>.inl (h.rd i hi))⟩
 .grind [ptrs,nf,Az]
 .rw[Ru L P]at g;exact Ab g λq e=>B q<|by cases e;exact H
 .have hbc:b≠c:=λe=>by
   subst e;rcases hn with⟨x,C⟩|⟨es,x,C⟩
   .rw[v]at C;cases C
   rw[v]at C;cases C
  refine(B b hbc).trans (k3 b (Lh hn) λe=>?_);have K:=Ey h.n oo e;have e1:=k1 b (h.n.lt b e).2<|.inr K;grind [ptrs,nf,Az,DZ]
 have e:kL B' A {s with nf:=s.nf+1,F:=F'} s.nt=kL Bk A s s.nt:=O4 (λi hi=>by
  show AH B' (A i) (s.T i)=AH Bk (A i) (s.T i);unfold AH;rcases E i hi with e|⟨j,e,hj⟩
  .rw[C3 e,C3 e]
  rw[Cs om,Cs om,e,show((j:Int)).toNat=j by omega,L j hj])
 show World.ownsRow _ _ _ _ _ _ (kL B' A {s with nf:=s.nf+1,F:=F'} s.nt);rw[e];exact Ab h.t λq e=>(B q λe'=>h.Bg h.t oo<|e'▸e).trans<|f q (h.t.lt q e).2 (.inr<|Ey h.t oo e)<|Cm h.t h.n oo e
def Xq(Z:Nat->Prop)(c B0:Nat)(vN vT vS vU:V9)(Bk:Nat->Nat)(A:Nat->Ad)(s:AL)(k:Nat)(key:ByteArray)(w:Y)(e:Ending)(w':Y):Prop:=
 (Ed s.nf s.F k key=-1/\e=.returned (.pointer none)/\A6 Z w' c B0 vN vT vS vU Bk A s/\BI (Az B0 c vN vT vS w) w (Az B0 c vN vT vS w') w')\/
 (∃r:Nat,Ed s.nf s.F k key=r/\∃a B',e=.returned (Q9<|B' r)/\A6 Z w' c B0 a vT vS vU B' A {s with nf:=EJ s.nf s.F k key,F:=E0 s.nf s.F k key}/\BI (Az B0 c vN vT vS w) w (Az B0 c a vT vS w') w')
def aC{Z}{c}{Bk}{s}k key{w}(p:A6 Z w c B0 vN vT vS vU Bk A s)(hf:Am s.nf s.F=0)(hk:k<s.nf)(K:key.size<=4000)(L:∀i,i<s.nt->(s.T i).shape=-1\/∃j:Nat,(s.T i).shape=j/\j<s.nf):
  C9 191 #[Q9 c,Q9<|Bk k,.string key] w λe w'=>Xq Z c B0 vN vT vS vU Bk A s k key w e w':=by
 obtain⟨h1,h2,h3,h4,h5⟩:=Au hf;obtain⟨l,nc,rfl⟩:=AF p.n;rcases p.nd,p.cells.1,h1.2 with⟨⟨X,M,hN,hid⟩,c0,ah⟩;go_enter func191,ntmps191;go_wp2_with fail;refine(z<|O<|SF w B0 Bk X M hN hid h1 h2 h3 h4 k hk key K).mono ?_;rintro e w1 (⟨j,hj,rfl,hb⟩|⟨m,B,rfl,hb⟩|⟨m,t,D,r,B',N',M',rfl,E,u,C,P,H⟩)
 .have Q:Hid<|∀q,Xq Z c B0 (.slice l s.nf nc) vT vS vU Bk A s k key w (.returned<|Q9<|Bk j)<|w1.drewN q:=O (λq=>by
   obtain⟨e1,e2,e3⟩:=K6 h4 (.inl ⟨j,hj,rfl,rfl,rfl⟩);obtain⟨m1,d1⟩:=p.below (w':=w1.drewN q) ⟨hb.os,hb.tape,hb.output,hb.size,hb.block⟩;refine .inr ⟨j,e3.symm,_,Bk,rfl,?_,d1⟩;rw[<-e1,<-e2];exact m1)
  have R:=hj.2.1;obtain⟨m1,d1⟩:=p.below hb;obtain⟨l1,n1,_⟩:=KK.cell m1.nd R;have y0:=m1.cells.1;have d0:((j:Int)==(s.nf:Int))=false:=ot;go_wp2_with fail
  go_quiet (fail);go_wp2;exact GO (v:=Q9<|Bk j) (by simp[results,results191,go_sem]) rfl (Q _)
 .have Q:Hid<|∀q,Xq Z c B0 (.slice l s.nf nc) vT vS vU Bk A s k key w (.returned<|.pointer none)<|w1.drewN q:=O (λq=>by
   obtain⟨e1,e2,e3⟩:=K6 h4 (.inr (.inl ⟨m,B,rfl,rfl,rfl⟩));obtain⟨m1,d1⟩:=p.below (w':=w1.drewN q) ⟨hb.os,hb.tape,hb.output,hb.size,hb.block⟩;exact .inl ⟨e3.symm,rfl,m1,d1⟩)
  go_wp2_with fail
  go_quiet (fail);go_wp2;exact GO (v:=.pointer none) (by simp[results,results191,go_sem]) rfl (Q _)
 obtain⟨i0,S,U,V,W⟩:=ON X4;have b:=p;have ad:=H.block c p.lt<|.inr b.GR;have y0:w1.cell? (G c 0)=some (.slice l s.nf nc):=by simp[World.cell?,ad.trans b.BB]
 obtain⟨l1,n1,_,_⟩:=Dt E u (show s.nf<s.nf+1 by omega);rw[C]at l1 n1;have d0:((s.nf:Int)==(s.nf:Int))=true:=oq;have ai:=GP b.base H.size;have ae:Hid<|∀q o,((w1.drewN q).alloc o).ownsRow B0 140 1 (.slice l s.nf nc) s.nf<|ptrs Bk s.nf:=O (λq o=>by
  have h1:=Ab b.n (λg e=>H.block g (b.n.lt g e).2 (.inr (Ey b.n oo e)));exact PC (Ab h1 (w':=w1.drewN q) (λ_ _=>rfl)) o)
 have HF:Hid (∀q g3 d w3,w3.ownsRow B0 140 1 (S9 g3 (s.nf+1) d) (s.nf+1) (ptrs Bk s.nf++[Q9 r])->((w1.drewN q).alloc<|.cells #[Q9 r] 140).grownBy w3 (Value.ownBlock<|.slice l s.nf nc)->(Value.ownBlock (.slice l s.nf nc)=some g3\/g3=w1.heap.size+1)->
   w3.cell? (G c 0)=some (.slice l s.nf nc)/\w3.frozen? (G c 0)=false/\c<w3.heap.size/\Xq Z c B0 (.slice l s.nf nc) vT vS vU Bk A s k key w (.returned (Q9 r)) (w3.setCell (G c 0) (S9 g3 (s.nf+1) d))):=O (by
  intro q g3 d w3 a1 a2 a3;have hX:B9 w1<|(w1.drewN q).alloc<|.cells #[Q9 r] 140:=Below.alloc (a:=w1) (w:=w1.drewN q) ⟨rfl,rfl,rfl,Be _,λ_ _=>rfl⟩ (Be _) _;obtain⟨b1,b2,b3⟩:=b.EJ H ⟨N',M',E,u⟩ C P hX a2 a1 (a3.imp id λe=>oS H.size)<|z<|O L;refine⟨by simp[World.cell?,b1],by simp[World.frozen?,b1],Ah b1,.inr ⟨s.nf,?_,_,B',by rw[C],?_,b3⟩⟩
  .obtain⟨e1,e2,e3⟩:=K6 h4<|.inr<|.inr ⟨m,t,D,rfl,rfl,rfl⟩;exact e3.symm
  obtain⟨e1,e2,e3⟩:=K6 h4 (.inr (.inr ⟨m,t,D,rfl,rfl,rfl⟩));rw[<-e1,<-e2];exact b2)
 go_wp2_with fail
 go_quiet (fail);go_wp2_with (at_builtin;refine So _ rfl _ _ 70 rfl B0 140 i0 (.pointer none) 1 8 underlying70 S U V W rfl oo (.slice l s.nf nc) s.nf (ptrs Bk s.nf) rfl (ae _ _) (y w1 0) 1 1 [Q9 r] rfl rfl (ID<|DD _ _) oh oo od om ot (w1.heap.size+1) oq ?_;intro g3 d w3 f x h ag;obtain⟨x3,f3,l3,I⟩:=z HF _ g3 d w3 f x h;have af:=O I;clear f x h I);exact GO (v:=Q9 r) (by simp[results,results191,go_sem]) rfl af
def Ml{k}(h:Inv Ky hN d)(hk:Ky k){p}(hp:Has d p)(hl:AB p.key k=true):0<=Av d k (hN k):=by
 rcases h.i0.place Ch hk with⟨i,h1,h2,h3,h4⟩|⟨h1,h2⟩;all_goals grind [Ky,hN,Has,AB,Av]
def Y1{k v}(h:Inv Ky hN d)(hk:Ky k)(a:v.ok=true):Ex d k v=(decide (v.kind≠0)&&decide (Av (B2 hN d k v) k (hN k)<0)):=by
 rcases Jk Ch h hk hk.1 a,h.i0.le,h.i0.turns with⟨hi,b,c⟩;unfold Ex;rcases Lm Ch h hk hk.1 a with⟨q,a1,a2,a3,_⟩|⟨q,a1,a2,a3,a4,_⟩|⟨a1,a2,a3,a4,a5⟩|⟨a1,a2,a3⟩
 .simp[a3]
 .have h1:=Ml h hk a1 a2;have h2:=Ml hi hk ((a4 ⟨q.key,v,q.turn⟩).2<|.inr rfl) a2;grind [Ky,hN,Ex,Av,B2]
 .have h2:=Ml hi hk ((a3 ⟨k,v,d.turns+1⟩).2<|.inr rfl)<|Ch.refl _ hk;grind [Ky,hN,Ex,Av,B2,Inv.i0]
 grind [Ky,hN,Ex,Av,B2,Ch,Ij,Inv.i0]
section
variable {M:Nat} {s:AL}
def UE{n}(a:0<=n)(h1:n<=1000000000000):0<=Ef n/\Ef n<=1000000000000:=by
 unfold Ef;split<;>omega
def JA(b:LI M s){i t}(hi:i<s.ns)(c:t<s.nt)(h:0<=A8 s i t):∃j q:Nat,(s.T t).shape=j/\j<s.nf/\A8 s i t=q/\q<(s.T t).nv/\Bf s.F j (s.S i).key=q:=by
 obtain⟨_,_,_,_,_,hs⟩:=b.si i hi;unfold A8 at h ⊢;rcases(b.t t c).way with⟨e,_⟩|⟨j,e,hj,d,_⟩
 .all_goals grind [A8,Bf,K8]
 by_cases a:K8 s i t=true
 focus
  rw[C3 a]at h ⊢;have h2:(s.T t).shape=(s.S i).shape:=by unfold K8 at a;simp at a;exact a.2
  rcases hs with⟨h3,_⟩|⟨h3,h4,h5,g⟩
  .omega
  rw[<-h2,e,show(j:Int).toNat=j by omega]at g
 rotate_left
 focus
  rw[Cs a,C3 om,e,show(j:Int).toNat=j by omega]at h ⊢
 all_goals
  rcases JT b.f hj (s.S i).key with k|⟨q,k,l⟩;all_goals grind [A8,Bf]
def Xw.rF{S'}(h:Xw M s t):Xw M {s with ns:=a,S:=S'} t:=⟨h.way,h.wf,h.m⟩
theorem JB(a:LI M s){i t}(hi:i<s.ns)(d:t<s.nt):LI M<|AY s i t:=by
 refine⟨a.f,a.nt,a.ns,λq hq=>(a.t q hq).rF,λq hq=>?_⟩;show Nw _ (AX s.S i (D7 s i t) q);by_cases e:q=i
 .subst e;rw[Ak];obtain⟨h1,h2,h3,h4,h5,b⟩:=a.si q hi;have o1:=UE h2 h4;have o2:=UE h3 h5;unfold D7;split
  .exact⟨h1,o1.1,h3,o1.2,h5,b⟩
  split
  .rename_i g c
   refine⟨h1,h2,o2.1,h4,o2.2,.inr ⟨c.1,?_,c.2,rfl⟩⟩;rcases(a.t t d).way with⟨e,_⟩|⟨j,e,hj,_⟩;all_goals grind [AY]
  exact⟨h1,h2,o2.1,h4,o2.2,b⟩
 rw[Aj _ _ e];exact a.si q hq
def JU(a:LI M s){t}{x}(b:Xw M s x):LI M<|BM s t x:=by
 refine⟨a.f,a.nt,a.ns,λq hq=>?_,a.si⟩;show Xw M _ (AX s.T t x q);by_cases e:q=t
 .subst e;rw[Ak];exact⟨b.way,b.wf,b.m⟩
 rw[Aj _ _ e];have h:=a.t q hq;exact⟨h.way,h.wf,h.m⟩
def Y2(b:LI M s){j}(hj:j<s.nf){key}(hk:key.size<=4000)(hp:Bf s.F j key<0){r:Nat}(c:Ed s.nf s.F j key=r):Am (EJ s.nf s.F j key) (E0 s.nf s.F j key)=0/\s.nf<=EJ s.nf s.F j key/\(∀i,i<s.nf->E0 s.nf s.F j key i=s.F i)/\r<EJ s.nf s.F j key/\KJ (EJ s.nf s.F j key) (E0 s.nf s.F j key) j key r:=by
 rcases T1 s.nf s.F j key with⟨q,h1,h2,h3,h4⟩|⟨h1,h2,h3,h4,h5⟩|⟨h1,h2,h3,h4,h5,a⟩
 .rw[h3,h4];grind [Bf,Ed,Am,EJ,E0,KJ,LI.f]
 .omega
 rw[h5,a];have:r=s.nf:=om;grind [Bf,Ed,Am,EJ,E0,KJ,VZ,DL,JE,LI.f]
def aE s x k v:
  (B5 s x k v=.no)\/
  (B5 s x k v=.DG/\0<=x.shape/\k.kind=4/\v.kind≠0/\0<=Bf s.F x.shape.toNat k.str)\/
  (B5 s x k v=.grow/\0<=x.shape/\k.kind=4/\v.kind≠0/\Bf s.F x.shape.toNat k.str<0/\0<=Ed s.nf s.F x.shape.toNat k.str)\/
  (B5 s x k v=.loose/\0<=x.shape)\/(B5 s x k v=.I5/\x.shape<0/\Ex x.d k v=false)\/(B5 s x k v=.full/\x.shape<0/\Ex x.d k v=true):=by
 unfold B5;split
 .exact .inl rfl
 split
 all_goals grind [B5,DG,Bf,Ed,Ex]
theorem Rv(c:LI M s){t}(I:t<s.nt){k v}(hk:Ky k)(C:v.ok=true)(D:Wf v):LI (M+4002)<|Cv s t k v:=by
 have a:=c.mono<|Nat.le_add_right M 4002;have g:=c.t t I;have p:k.kind=4->k.str.size<=4000:=λh=>by
  have h1:=hk.1;unfold BP Vl.ok A7 at h1;simp[h]at h1;omega
 unfold Cv;rcases aE s (s.T t) k v with h|⟨h,o,h1,h2,h3⟩|⟨h,o,h1,h2,h3,h4⟩|⟨h,o⟩|⟨h,o,h1⟩|⟨h,o,h1⟩
 .rw[h];exact a
 .rw[h];rcases g.way with⟨e,_⟩|⟨j,e,hj,l,hb,b⟩
  .omega
  refine JU a ⟨.inr ⟨j,e,hj,l,hb,λi hi=>?_⟩,g.wf,GP g.m<|Nat.le_add_right _ _⟩;show J2 (AX (s.T t).V _ v i)=true/\Wf (AX (s.T t).V _ v i);by_cases e2:i=(Bf s.F (s.T t).shape.toNat k.str).toNat
  .grind [Ky,Cv,Ak,J2]
  rw[Aj _ _ e2];exact b i hi
 .rw[h];rcases g.way with⟨e,_⟩|⟨j,e,hj,l,hb,b⟩
  .omega
  have n:(s.T t).shape.toNat=j:=om;rw[n]at h3 h4 ⊢;obtain⟨r,E⟩:∃r:Nat,Ed s.nf s.F j k.str=r:=⟨(Ed s.nf s.F j k.str).toNat,om⟩;obtain⟨g1,g2,g3,g4,g5⟩:=Y2 c hj (p h1) h3 E;rw[E];obtain⟨_,K,L,_,_⟩:=Au c.f;obtain⟨_,p2,P,_,_⟩:=Au g1;have u:∀q,q<s.nf->nf (E0 s.nf s.F j k.str) q=nf s.F q:=λq hq=>dN g3 hq;refine⟨g1,c.nt,c.ns,λq hq=>?_,λq hq=>?_⟩
  .show Xw _ _ (AX s.T t (I7 (s.T t) (r:Int) v) q);by_cases e2:q=t
   .subst e2;rw[Ak];refine⟨.inr ⟨r,rfl,g4,?_,hb,λi hi=>?_⟩,g.wf,GP g.m<|Nat.le_add_right _ _⟩
    .show(s.T q).nv+1=nf (E0 s.nf s.F j k.str) r;rw[oQ p2 P g5,u j hj,l]
    show J2 (AX (s.T q).V (s.T q).nv v i)=true/\Wf (AX (s.T q).V (s.T q).nv v i);have hi:i<(s.T q).nv+1:=hi;grind [Ky,Cv,Ak,J2,Aj]
   rw[Aj _ _ e2];have h5:=c.t q hq;refine⟨?_,h5.wf,GP h5.m<|Nat.le_add_right _ _⟩;grind [Ky,Cv,Xw.way]
  obtain⟨a1,a2,a3,a4,a5,w⟩:=c.si q hq;refine⟨a1,a2,a3,a4,a5,?_⟩;rcases w with w|⟨b1,b2,b3,b4⟩
  .exact .inl w
  have x:(s.S q).shape.toNat<s.nf:=om;refine .inr ⟨b1,by show(s.S q).shape<((EJ s.nf s.F j k.str:Nat):Int);omega,b3,?_⟩;show Bf (E0 s.nf s.F j k.str) (s.S q).shape.toNat (s.S q).key=(s.S q).place;rw[KC K L g3 x];exact b4
 .rw[h];rcases g.way with⟨e,_⟩|⟨j,e,hj,l,hb,b⟩
  .omega
  have n:(s.T t).shape.toNat=j:=om;have A:=F1 c.f hj (λq hq=>(b q om).1) (s.T t).nv om;have B:∀i,i<=(s.T t).nv->Tj (AA s.F j (s.T t).V i):=λi=>by
   induction i with
   |zero=>exactλ_ q hq=>absurd hq<|To _
   |succ i ih=>exactλhi=>(ih om).put (G7<|Hk c.f hj<|show i<nf s.F j by omega).2 (b i om).2
  refine JU a ⟨.inl ⟨rfl,rfl,?_⟩,?_,?_⟩
  .show Inv Ky hN (B2 hN (AA s.F (s.T t).shape.toNat (s.T t).V (s.T t).nv) k v);rw[n];exact Jk Ch A.ls.inv hk hk.1 C
  .show Tj (B2 hN (AA s.F (s.T t).shape.toNat (s.T t).V (s.T t).nv) k v);rw[n];exact(B _<|Be _).put hk.2 D
  show(B2 hN (AA s.F (s.T t).shape.toNat (s.T t).V (s.T t).nv) k v).m<=_;rw[n];have:=WN (v:=v) Ch A.ls.inv hk;rw[A.m]at this;omega
 .rw[h];rcases g.way with⟨e,e2,H⟩|⟨j,e,_⟩
  .refine JU a ⟨.inl ⟨rfl,rfl,Jk Ch H hk hk.1 C⟩,g.wf.put hk.2 D,?_⟩;have:=WN (v:=v) Ch H hk;have:=g.m;show(B2 hN (s.T t).d k v).m<=_;omega
  omega
 rw[h];exact a
def gL(a:LI M s):Xw M s Ly:=by
 obtain⟨h1,h2,_⟩:=Au a.f;refine⟨.inr ⟨0,rfl,oS h1.1,?_,⟨rfl,rfl,rfl,rfl,rfl,rfl⟩,λi hi=>absurd hi<|To _⟩,λq hq=>absurd hq<|To _,W9 _⟩;show 0=(s.F 0).count.toNat;rw[h2.2.2];rfl
theorem Ik{v}(b:Wf v)(h:C2 v=0):Ky<|Dk v:=by
 obtain⟨c,a,h1,h2⟩:=oI b;rw[Er]at h1;have e:C2 v=c/\(Dk v).kind=a.kind/\(Dk v).num=a.num/\(Dk v).Af=a.Af/\(Dk v).str=a.str/\(Dk v).ref=a.ref:=by
  simp[KV]at h1;exact h1
 obtain⟨e0,e1,e2,e3,f,g⟩:=e;have d:Dk v=a:=by
  generalize Dk v=x at*;cases x;cases a;grind [C2,Ky,Dk]
 rw[d];exact h2 om
def RG(c:LI M s)a(w:Wf a.k)(g:Wf a.v):LI (M+4002)<|AP s a:=by
 have b:=c.mono<|Nat.le_add_right M 4002;unfold AP;split
 .rename_i hc
  obtain⟨c1,c2,c3,c4⟩:=FG hc;obtain⟨r1,r2,C,x,D,_,_⟩:=CJ c1;unfold A9;split
  .split
   .exact b
   rename_i h1 h2
   refine⟨c.f,by show s.nt+1<=100;have:=c.nt;omega,c.ns,λi hi=>?_,c.si⟩;show Xw _ _ (AX s.T s.nt Ly i);have hi:i<s.nt+1:=hi;by_cases e:i=s.nt
   .rw[e,Ak];have:=gL b;exact⟨this.way,this.wf,this.m⟩
   rw[Aj _ _ e];have:=b.t i om;exact⟨this.way,this.wf,this.m⟩
  split
  .split
   .exact b
   rename_i h1 p h2
   have A:=QV c1 p;refine⟨c.f,c.nt,by show s.ns+1<=50;have:=c.ns;omega,λi hi=>(b.t i hi).rF,λi hi=>?_⟩;grind [AP,Nw,AX,Ak,pO,Aj,LI.ns,LI.si]
  split
  .grind [AP,Cz,Rv,Ik]
  split
  .grind [AP,Cz,DQ,JB]
  split
  .rename_i h1 p h2 E r
   have F:=c2 (by simp[Cz,r]);have hs:=c3 (by simp[DQ,r]);have hi:a.site.toNat<s.ns:=om;have d:a.t.toNat<s.nt:=om;have u:=JB c hi d;split
   .rename_i h
    obtain⟨j,q,e1,e2,e3,H,I⟩:=JA c hi d h.1;refine JU (u.mono<|Nat.le_add_right M 4002) ?_;have l:=b.t a.t.toNat d;rcases l.way with⟨e,_⟩|⟨j',e,hj,n,hb,o⟩
    .omega
    refine⟨.inr ⟨j',e,hj,n,hb,λi hi=>?_⟩,l.wf,l.m⟩;show J2 (AX (s.T a.t.toNat).V _ a.v i)=true/\Wf (AX (s.T a.t.toNat).V _ a.v i);by_cases B:i=(A8 s a.site.toNat a.t.toNat).toNat
    .grind [AP,Ak,J2]
    rw[Aj _ _ B];exact o i hi
   exact Rv u d (G7 (c.si _ hi).1) x g
  exact b
 exact b
end
open Classical in
def cR lc{ia:Option Addr}ic{xa:Option Addr}xc{d}{w}(t:BO w)(hA:Ei w la ia xa d)(r:Small d)(u:Tj d)(hk:BN d (hD d)=0):
  C9 275 #[Dv la lc ia ic xa xc d] w (R9 (J<|EO d) w):=by
 have D:=r.m;have s:Hid<|EO d=(Ph d:Int):=O<|C3 hk;have a:B9 w<|w.alloc<|.cells #[.slice la d.n lc,.slice ia d.m ic,.slice xa d.x xc,J d.used,J d.live,J d.turns] 103:=n9;go_enter func275,ntmps275;go_wp2_with fail;refine m9 (Jc A5 lc ic xc (A5 _ _ t a) (hA.below a) r (λq hq hk=>qU hk ((u) q hq).1)<|z<|O hk) λw1 g=>?_;obtain⟨l,v⟩:=AO g;have E:w1.cell? (y w 1)=some (.slice ia d.m ic):=by rw[l _ _ oq];simp[go_sem]
 have c:=o8 a g;go_wp2_with fail;go_loopw [11] (λi wr=>∃k:Nat,k<=d.m/\i=J k/\Rb d.I d.m 0 d.m=Rb d.I d.m k (d.m-k)/\wr=w1) λi _=>d.m-(intOf i).toNat
 .exact⟨0,om,rfl,rfl,rfl⟩
 obtain⟨k,hk,rfl,hz,o⟩:=hrel;rw[o];have p:=O hz;by_cases e:k<d.m
 .obtain⟨b,off,rfl,A,hcs⟩:=(z<|O (hA.below c).ints).resolve_left om;have e0:=hcs k e;by_cases j:d.I k=0
  .have f:Hid<|EO d=(k:Int):=O<|s.trans<|congrArg Int.ofNat<|p.trans<|cH j e;rw[j]at e0;go_wp2;go_ret;exact⟨qh f,c⟩
  have B:=O<|p.trans<|cG j e;have C:(d.I k==0)=false:=by simp[j]
  go_wp2;go_roundw
  .exact⟨k+1,om,ov,B,trivial⟩
  exact ow
 have h:k=d.m:=om;have f:Hid<|EO d=(d.m:Int):=O<|s.trans<|congrArg Int.ofNat<|p.trans (by rw[h,Nat.sub_self];rfl);go_wp2;go_ret;exact⟨qh f,c⟩
def VA(f:Nat->Si)(n:Nat)(w:Y)(v:V9)(lo hi:Nat):Prop:=
 (n=0/\v=N9)\/∃b a Z g,v=S9 b n a/\lo<=b/\b<hi/\w.rowIs b 107 Z g/\n*5<=Z/\∀j,j<n*5->g j=RA f j
def VA.keep{f}(h:VA f n w v lo hi)(hk:∀b,v.ownBlock=some b->w'.heap[b]?=w.heap[b]?):VA f n w' v lo hi:=by
 rcases h with h|⟨b,a,Z,g,rfl,h2,h3,h4,h5,c⟩
 .exact .inl h
 exact .inr ⟨b,a,Z,g,rfl,h2,h3,GW h4<|hk b rfl,h5,c⟩
theorem VA.at{f}(h:VA f n w v lo hi):∃a c,v=.slice a n c/\FM w a n f:=by
 rcases h with⟨d,rfl⟩|⟨b,c,Z,g,h1,h2,h3,h4,h5,e⟩
 .subst d;exact⟨_,_,rfl,.inl rfl⟩
 exact⟨_,_,h1,.inr ⟨b,0,rfl,H8 h4,λi hi=>by rw[VC];exact pB h4 h5 e hi⟩⟩
def Pp s w:
  C9 36 #[N9,J s] w λe w'=>e=.returned (J s)/\w'=w:=by
 go_enter func36,ntmps36;go_wp2;go_loopw [1,5] (λq i wr=>q=J s/\i=J 0/\wr=w) λ_ _ _=>0
 .exact⟨rfl,rfl,rfl⟩
 obtain⟨rfl,rfl,rfl⟩:=hrel;go_wp2;go_ret;exact⟨rfl,rfl⟩
def jY{f}(h:VA f n w v lo hi)(hn:n<=1048576)(hs:s<=100000000000000):
  C9 36 #[v,J s] w λe w'=>(e=.returned (J ((s+5*n:Nat):Int))/\VA (kC s) n w' v lo hi)/\Bv v w w':=by
 rcases h with⟨c,rfl⟩|⟨b,a,Z,g,rfl,h2,h3,h4,h5,j⟩
 .subst c;refine(Pp s w).mono λe w' h=>?_;rw[h.2];exact⟨⟨by rw[h.1];rfl,.inl ⟨rfl,rfl⟩⟩,Bv.same _ _⟩
 refine(Po b n a Z s g w h4 h5 om hs).mono λe w' h=>?_;obtain⟨⟨rfl,g',d,i⟩,hb⟩:=h;exact⟨⟨oq,.inr ⟨b,a,Z,g',rfl,h2,h3,d,h5,i⟩⟩,Bv.Yc hb⟩
def jK(h:VA (kC s) n w v lo hi)(hn:n<=1048576)(hs:s<=100000000000000):
  C9 74 #[v,J s] w (R9 (J ((s+5*n:Nat):Int)) w):=by
 obtain⟨a,b,rfl,hA⟩:=h.at;refine(OW b s hA om hs).mono λe w' h=>?_;exact⟨by rw[h.1];simp,h.2⟩
def GV.CQ{f}(h:GV f n w v lo hi)(hk:∀b,v.ownBlock=some b->w'.heap[b]?=w.heap[b]?):GV f n w' v lo hi:=by
 rcases h with h|⟨a,b,c,rfl,h2,h3,h4⟩
 .exact .inl h
 exact .inr ⟨a,b,c,rfl,h2,h3,h4.of_block<|hk b rfl⟩
def Nn b{n}cap lo hi s{f}(H:Nat->Hs)w(E:b<w.heap.size)(hT:∀i,i<n->aN lo hi w b (i*8) (H i) (mkT (f i)<|KM f s i))(hw:Eu f n<=2000000000)(hs:s<=10000000000000):
  C9 73 #[S9 b n cap,J s] w (R9 (J (KM f s n:Int)) w):=by
 have ad:=Te f n;have HT:=O hT;go_enter func73,ntmps73;go_wp2;go_loopw [1,5] (λq i wr=>∃(k:Nat),k<=n/\i=J (k:Int)/\q=J (KM f s k:Int)/\B9 w wr) λ_ i _=>n-(intOf i).toNat
 .exact⟨0,om,rfl,rfl,BE _ _⟩
 obtain⟨k,hk,rfl,rfl,hb⟩:=hrel;by_cases t:k<n
 case neg=>
  have L:k=n:=om;have K:=O hb;clear hb t;subst L;go_wp2;go_ret;exact⟨rfl,K⟩
 have a:=(HT k t).keep (λq hq=>hb.block q ((HT k t).lt hq).1) λj _=>hb.cell E;have Fu:=N7 f t;have M:tw (f k)=(f k).nv+((f k).d.n+(f k).d.m+(f k).d.x)+1:=rfl;have A:KM f s (k+1)=KM f s k+(1+5*(f k).nv+11*(f k).d.n+(f k).d.m+(f k).d.x+3):=rfl;have P:=Td f s k;obtain⟨r,F⟩:=o9<|KM f s k;rw[<-F]at A P a ⊢;have ae:r<=60000000000000:=om;have Q:(f k).nv<=2000000000:=om;have R:(f k).d.n<=2000000000:=om;have S:(f k).d.m<=2000000000:=om;have T:(f k).d.x<=2000000000:=om;have U:=O A;have lb:=A0 E hb.size;have d0:wr.cell? (G b<|k*8)=some (J (r:Int)):=a.c0;rcases a.c1,a.c2,a.c3,a.c4 with⟨d1,d2,d3,d4⟩;obtain⟨x,p⟩:∃x:Nat,x=r+1+5*(f k).nv+11*(f k).d.n+(f k).d.m+(f k).d.x:=⟨_,rfl⟩;have d5:wr.cell? (G b<|k*8+5)=some (J (x:Int)):=by rw[p];exact a.c5
 have d6:wr.cell? (G b<|k*8+6)=some (J<|(x:Int)+1):=by rw[show((x:Int)+1)=((x+1:Nat):Int) by omega,p];exact a.c6
 have d7:wr.cell? (G b<|k*8+7)=some (J<|(x:Int)+1+1):=by rw[show((x:Int)+1+1)=((x+1+1:Nat):Int) by omega,p];exact a.c7
 have af:x<=100000000000000:=om;have HV:Hid<|Om (lZ<|r+1) (f k).nv wr (H k).v lo hi:=O a.v;have HL:Hid<|KR (lY<|r+1+5*(f k).nv) (f k).d.n wr (H k).l lo hi:=O a.l;have HI:Hid<|Hy (λj=>((r+1+5*(f k).nv+11*(f k).d.n+j:Nat):Int)) (f k).d.m wr (H k).i lo hi:=O a.i;have HX:Hid<|Hy (λj=>((r+1+5*(f k).nv+11*(f k).d.n+(f k).d.m+j:Nat):Int)) (f k).d.x wr (H k).x lo hi:=O a.x;have B:Hid<|∀q,(H k).own q->q<wr.heap.size:=O λq hq=>(a.lt hq).1;have K:=O hb;have I:=O p;clear hb a Fu M A F p;go_wp2_with fail;have g:=jM HV Q om;rw[show((r+1:Nat):Int)=(r:Int)+1 by omega]at g;refine g.mono ?_;rintro e w1 ⟨rfl,c⟩;rcases A0 lb c.size,(c.cell lb).trans d2,(c.cell lb).trans d3,(c.cell lb).trans d4,(c.cell lb).trans d5,(c.cell lb).trans d6,(c.cell lb).trans d7 with⟨l1,p2,p3,p4,V,W,X⟩;have n1:¬((r+1+5*(f k).nv:Nat):Int)<0:=om;go_wp2_with fail
 have g:=cJ (HL.CQ λq e=>c.block q<|B q<|.inr<|.inl e) R om;refine g.mono ?_;rintro e w2 ⟨rfl,h⟩;rcases A0 l1 h.size,(h.cell l1).trans p3,(h.cell l1).trans p4,(h.cell l1).trans V,(h.cell l1).trans W,(h.cell l1).trans X,o8 c h with⟨l2,d3,d4,d5,d6,d7,C⟩;have n2:¬((r+1+5*(f k).nv+11*(f k).d.n:Nat):Int)<0:=om;go_wp2_with fail
 have g:=T6 (HI.CQ λq e=>C.block q<|B q<|.inr<|.inr<|.inl e) S om;refine g.mono ?_;rintro e w3 ⟨rfl,o⟩;rcases A0 l2 o.size,(o.cell l2).trans d4,(o.cell l2).trans d5,(o.cell l2).trans d6,(o.cell l2).trans d7,o8 C o with⟨l3,p4,V,W,X,D⟩;go_wp2_with fail;have g:=T6 (HX.CQ λq e=>D.block q<|B q<|.inr<|.inr<|.inr e) T om;rw[<-z I]at g;refine g.mono ?_;rintro e w4 ⟨rfl,u⟩;rcases (u.cell l3).trans V,(u.cell l3).trans W,(u.cell l3).trans X,o8 K (D.trans<|u.mono D.size) with⟨d5,d6,d7,Z⟩;go_wp2;go_roundw
 .refine⟨k+1,om,ov,?_,Z⟩;rw[z U];have:=z I;congr 1;omega
 exact ow
def Qp{a:Option Addr}cap g{f}{w}(hA:Fq w a n f)(r:Fq w a' n f)(hn:n<=1048576):
  C9 112 #[.slice a n cap,.slice a' n g] w (R9 (.bool true) w):=by
 have t:=O hA;have u:=O r;clear hA r;go_enter func112,ntmps112;go_wp2;go_loopw [5] (λi wr=>∃(k:Nat),k<=n/\i=J k/\B9 w wr) λi _=>n-(intOf i).toNat
 .exact⟨0,om,rfl,BE _ _⟩
 obtain⟨k,hk,rfl,hb⟩:=hrel;by_cases j:k<n
 .obtain⟨b,off,rfl,l,hcs⟩:=t.resolve_left om;obtain⟨b',s,rfl,c,d⟩:=u.resolve_left om;rcases (hcs k j).keep (λq=>hb.cell l),(d k j).keep λq=>hb.cell c,A0 l hb.size,A0 c hb.size,O hb with⟨⟨e0,e1,e2,e3,v⟩,⟨d0,d1,d2,d3,d4⟩,A,x,m⟩;clear hb hcs d;go_wp2_with fail;refine qr wr ?_;(iterate 8 refine N (h:=?_));refine GC λK hK=>?_;go_simp;refine⟨_,λw' p=>qk p<|EI (f k).kind (f k).num (f k).Af (f k).str (f k).ref _,hK _ ?_⟩;clear hK K;refine N (h:=?_);refine GS ?_;intro w2 o;have e:=O<|o8 m o;clear o e0 e1 e2 e3 v d0 d1 d2 d3 d4;go_wp2;go_roundw
  .exact⟨k+1,om,ov,e⟩
  exact ow
 have:k=n:=om;subst this;have e:=O hb;clear hb;go_wp2;go_ret;exact⟨rfl,e⟩
def TM s w:
  C9 66 #[SV s,SV s] w (R9 (.bool true) w):=by
 go_enter func66,ntmps66;go_wp2;go_ret;exact⟨rfl,(n9).alloc oq _⟩
def R8{a:Option Addr}cap g{f}{w}(hA:FM w a n f)(r:FM w a' n f)(hn:n<=1048576):
  C9 33 #[.slice a n cap,.slice a' n g] w (R9 (.bool true) w):=by
 have t:=O hA;have u:=O r;clear hA r;go_enter func33,ntmps33;go_wp2;go_loopw [5] (λi wr=>∃(k:Nat),k<=n/\i=J k/\B9 w wr) λi _=>n-(intOf i).toNat
 .exact⟨0,om,rfl,BE _ _⟩
 obtain⟨k,hk,rfl,hb⟩:=hrel;by_cases j:k<n
 .obtain⟨b,off,rfl,l,hcs⟩:=t.resolve_left om;obtain⟨b',s,rfl,c,d⟩:=u.resolve_left om;rcases (hcs k j).keep (λq=>hb.cell l),(d k j).keep λq=>hb.cell c,A0 l hb.size,A0 c hb.size,O hb with⟨⟨e0,e1,e2,e3,v⟩,⟨d0,d1,d2,d3,d4⟩,A,x,m⟩;clear hb hcs d;go_wp2_with fail;refine qr wr ?_;(iterate 8 refine N (h:=?_));refine GC λK hK=>?_;go_simp;refine⟨_,λw' p=>qk p<|TM (f k) _,hK _ ?_⟩;clear hK K;refine N (h:=?_);refine GS ?_;intro w2 o;have e:=O<|o8 m o;clear o e0 e1 e2 e3 v d0 d1 d2 d3 d4;go_wp2;go_roundw
  .exact⟨k+1,om,ov,e⟩
  exact ow
 have:k=n:=om;subst this;have e:=O hb;clear hb;go_wp2;go_ret;exact⟨rfl,e⟩
def Sa{va e f ia g xa h:Option Addr}vc i lc j ic k xc l t{w}(B:Fq w va t.nv t.V)(o:Fq w e t.nv t.V)(hA:Ei w la ia xa t.d)(C:Ei w f g h t.d)(hn:t.nv<=1048576)(D:Small t.d):
  C9 65 #[TV va vc la lc ia ic xa xc t,TV e i f j g k h l t] w (R9 (.bool true) w):=by
 rcases O B,O o,O hA,O C,O D with⟨E,r,F,H,I⟩;clear B o hA C D;have p:B9 w<|(w.alloc<|.cells #[J t.shape,.slice va t.nv vc,.slice la t.d.n lc,.slice ia t.d.m ic,.slice xa t.d.x xc,J t.d.used,J t.d.live,J t.d.turns] 105).alloc<|.cells #[J t.shape,.slice e t.nv i,.slice f t.d.n j,.slice g t.d.m k,.slice h t.d.x l,J t.d.used,J t.d.live,J t.d.turns] 105:=(n9).alloc oq _;have a:=O p;clear p;go_enter func65,ntmps65;go_wp2_with fail;refine m9 (Qp vc i (E.below a rfl) (r.below a rfl) hn) λw1 b=>?_;obtain⟨s,u⟩:=AO b;have v:=b.size;simp at v;have K:w.heap.size<w1.heap.size:=om;have L:w.heap.size+1<w1.heap.size:=om;have c:=O<|o8 a b;clear b;go_wp2_with fail;refine m9 (TG lc j ic k xc l (F.below c) (H.below c) I) λw2 q=>?_;have A:=O<|o8 c q;clear q s u;go_wp2;go_ret;exact⟨rfl,A⟩
def Qo{a:Option Addr}cap o{f}{w}(hA:RV w a n f)(B:RV w a' n f)(hn:n<=1048576)(hs:∀i,i<n->(f i).nv<=1048576/\Small (f i).d):
  C9 32 #[.slice a n cap,.slice a' n o] w (R9 (.bool true) w):=by
 rcases O hA,O B,O hs with⟨H,I,C⟩;clear hA B hs;go_enter func32,ntmps32;go_wp2;go_loopw [5] (λi wr=>∃(k:Nat),k<=n/\i=J k/\B9 w wr) λi _=>n-(intOf i).toNat
 .exact⟨0,om,rfl,BE _ _⟩
 obtain⟨k,hk,rfl,hb⟩:=hrel;by_cases e:k<n
 .obtain⟨b,off,rfl,p,hcs⟩:=H.resolve_left om;obtain⟨b',D,rfl,j,l⟩:=I.resolve_left om;obtain⟨va,vc,la,lc,ia,ic,xa,xc,hc,E,F⟩:=(hcs k e).below hb p;obtain⟨L,t,M,u,P,v,Q,x,A,hv',q⟩:=(l k e).below hb j;obtain⟨e0,e1,e2,e3,R,S,T,U⟩:=hc;obtain⟨d0,d1,d2,d3,d4,d5,d6,d7⟩:=A;rcases O (ql E<|ql hv'<|ql F q),A0 p hb.size,A0 j hb.size,O hb with⟨g,W,V,r⟩;clear hb hcs l E hv' F q;go_wp2_with fail;refine qr wr ?_;(iterate 8 refine N (h:=?_));refine GC λK hK=>?_;go_simp;refine⟨_,λw' c=>qk c<|Sa vc t lc u ic v xc x (f k) (g.1.below c rfl) (g.2.1.below c rfl) (g.2.2.1.below c) (g.2.2.2.below c) (C k e).1 (C k e).2,hK _ ?_⟩;clear hK K;refine N (h:=?_);refine GS ?_;intro w2 s;have m:=O<|o8 r s;clear s e0 e1 e2 e3 R S T U d0 d1 d2 d3 d4 d5 d6 d7;go_wp2;go_roundw
  .exact⟨k+1,om,ov,m⟩
  exact ow
 have:k=n:=om;subst this;have m:=O hb;clear hb;go_wp2;go_ret;exact⟨rfl,m⟩
structure Ou (lo H:Nat) (w w':Y):Prop where
 os:w'.os=w.os
 tape:w'.tape=w.tape
 output:w'.output=w.output
 size:w.heap.size<=w'.heap.size
 block:∀k,k<w.heap.size->(k<lo\/H<=k)->w'.heap[k]?=w.heap[k]?
theorem Ou.trans{u v}(h:Ou lo H u v)(k:Ou lo H v w):Ou lo H u w:=
 ⟨k.os.trans h.os,k.tape.trans h.tape,k.output.trans h.output,GP h.size k.size,λi hi hn=>(k.block i (A0 hi h.size) hn).trans<|h.block i hi hn⟩
def Ou.below(h:Ou lo H w w')(hl:lo<=w.heap.size):Below lo w w':=⟨h.os,h.tape,h.output,h.size,λk hk=>h.block k om<|.inl hk⟩
def QF{m tb}{s}(l:I2 B H w m tb j s)(hs:EE s)(M:H<=w.heap.size):
  C9 12 #[Qk (some<|G m 0) s.nf (some<|G tb 0) s.nt (some<|G j 0) s.ns s,J 1] w λe w'=>(∃r:Nat,e=.returned (J (r:Int)))/\Ou B H w w':=by
 obtain⟨W,K,d,_,o0⟩:=JZ w<|.cells #[S9 m s.nf s.nf,S9 tb s.nt s.nt,S9 j s.ns s.ns] 42;have L:w.heap.size<W.heap.size:=by rw[K];simp
 rcases v3 o0,l.bm,l.mt,l.ts,l.sh,hs.f.1,hs.t,hs.n,l.below d with⟨⟨_,x1,x2⟩,h1,h2,h3,h4,hf,P,hn,o⟩;go_enter func12,ntmps12;go_wp2_with fail;rw[<-K];refine(Pk s.nf o.fo hf).mono ?_;rintro e w1 ⟨rfl,b⟩;have v:=A0 L b.size;have p:=b.block w.heap.size L om;have X:=(As (a:=y w 1) p).trans x1;have Q:=(As (a:=y w 2) p).trans x2;have u:=b.block tb o.ta.lt om;have x:∀i,i<s.nt->∃R S s1 s2,tH tb H w1 (i*8) (s.T i) R S s1 s2:=λi hi=>Ej.mk<|(o.tr i hi).keep (Be _) (λq hq _ A=>b.block q A om) λq _=>As u;have C:I1 w1 tb 105<|s.nt*8:=by obtain⟨⟨g,r⟩,_⟩:=o.ta;exact⟨g,GW r u⟩
 have D:I1 w1 j 107<|s.ns*5:=by obtain⟨⟨g,r⟩,_⟩:=o.si;exact⟨g,GW r<|b.block j (H8 r) om⟩
 have E:Hid<|Ou B H w w1:=O ⟨b.os.trans d.os,b.tape.trans d.tape,b.output.trans d.output,om,λk hk hn=>(b.block k om om).trans<|d.block k hk⟩;go_wp2_with fail;have hA:=Pq s.nt H (1+3*s.nf) C om (z<|O x) P om;rw[show((1+3*s.nf:Nat):Int)=1+3*(s.nf:Int) by omega]at hA;refine hA.mono ?_;rintro e w2 ⟨⟨r,rfl,Z⟩,c⟩;have U:=(As (a:=y w 2)<|c.block w.heap.size v<|.inr M).trans Q;have F:=E.trans ⟨c.os,c.tape,c.output,c.size,λk hk hn=>c.block k hk om⟩;obtain⟨gs,rs⟩:=c.rows _ _ _ D;have V:r<=20000000:=om;go_wp2_with fail
 refine(QE j s.ns s.ns (s.ns*5) r gs w2 rs (Be _) om om).mono ?_;rintro e w3 ⟨⟨rfl,g3,r3⟩,h⟩;have I:=F.trans ⟨h.os,h.tape,h.output,h.size,λk hk hn=>h.block k hk om⟩;go_wp2;go_ret;exact⟨⟨r+5*s.ns,oq⟩,I⟩
end Go.Proofs.YtoobllcjfinmoaaGreatDoor
