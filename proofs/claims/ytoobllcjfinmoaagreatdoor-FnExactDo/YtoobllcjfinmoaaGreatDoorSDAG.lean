import Derived.Test.YtoobllcjfinmoaaGreatDoorSDAF
set_option linter.all false
set_option maxHeartbeats 40000000
set_option maxRecDepth 100000
namespace Go.Proofs.YtoobllcjfinmoaaGreatDoor
open Go.Proofs.Tryz
open Go.RowKit
attribute [local go_sem] Aw Ar
variable {c o b n a B g k m vc t i ab q tc g3 lo hi:Nat}{v0 v1 v2 u0 u1 u2 v vF vT vS:V9}{w w' W w3 W' w1:Y}{hf:Vl->Nat}{d:Dc}{K:Vl->Prop}{f:Nat->Bh}{H:Nat->Hs}{s:AL}{x:Vl}{ta sa a':Option Addr}
def C6.far(h:C6 c o v0 v1 v2 w u0 u1 u2 w'){b}(hb:b<w.heap.size)(hc:b≠c)(a:¬He v0 v1 v2 b):w'.heap[b]?=w.heap[b]?/\b<w'.heap.size/\¬He u0 u1 u2 b:=
 ⟨h.block b hb hc a,A0 hb h.size,λe=>(h.sub b e).elim a λe'=>om⟩
structure sG (w:Y) (b:Nat) (v:Vl):Prop where
 lt:b<w.heap.size
 k0:w.cell? (G b 0)=some (J v.kind)
 k1:w.cell? (G b 1)=some (J v.num)
 k2:w.cell? (G b 2)=some (F9 v.Af)
 k3:w.cell? (G b 3)=some (.string v.str)
 k4:w.cell? (G b 4)=some (J v.ref)
def sG.keep{v}(h:sG w b v)(hs:w.heap.size<=w'.heap.size)(e:w'.heap[b]?=w.heap[b]?):sG w' b v:=by
 have e':∀q,w'.cell? (G b q)=w.cell? (G b q):=λq=>As e;exact⟨A0 h.lt hs,(e' _).trans h.k0,(e' _).trans h.k1,(e' _).trans h.k2,(e' _).trans h.k3,(e' _).trans h.k4⟩
def dG(w:Y)(c o:Nat):Nat:=match w.cell? (G c<|o+1)with
 |some (.slice _ n _)=>n
 |_=>0
def Ut{a}(h:w.cell? (G c<|o+1)=some (.slice a n b)):dG w c o=n:=by unfold dG;rw[h]
def PJ{more}(b:BX d d.n+more<=500):Bs (A1 hf d more) d:=by
 by_cases e:BX d d.n+more=0
 .rw[DC e];exact⟨rfl,rfl,rfl,rfl,rfl,rfl⟩
 rw[CG e];obtain⟨s1,s2,i,j⟩:=Du b;obtain⟨h1,h2,h3,h4,h5,c,f,g,h,a⟩:=Dq (hf:=hf) (d:=d) (x:=Ct<|BX d d.n+more) d.n om;exact⟨h5,c,f,g,h,a⟩
structure Tl (w:Y) (c:Nat) (v0 v1 v2:V9) (b:Nat) (v:Vl):Prop where
 box:sG w b v
 nc:b≠c
 no:¬He v0 v1 v2 b
def Tl.step{v}(h:Tl w c v0 v1 v2 b v)(k:C6 c o v0 v1 v2 w u0 u1 u2 w'):Tl w' c u0 u1 u2 b v:=by
 obtain⟨h1,h2,h3⟩:=k.far h.box.lt h.nc h.no;exact⟨h.box.keep k.size h1,h.nc,h3⟩
def OU{o}{row}(h:(W.drew.alloc o).grownBy w3 row):W.grownBy w3 row:=
 ⟨h.os,h.tape,h.output,by have:=h.size;simp at this;omega,λb hb a=>(h.block b ot a).trans<|DO _ _ _ hb⟩
def T2{o}{row}(h:(W.alloc o).grownBy w3 row):W.grownBy w3 row:=
 ⟨h.os,h.tape,h.output,by have:=h.size;simp at this;omega,λb hb a=>(h.block b ot a).trans<|DO _ _ _ hb⟩
def kM f n p:pL f n++Dl p=pL (AV f n p) (n+1):=by
 show _=pL (AV f n p) n++Dl (AV f n p n);rw[Ao];congr 1;have:∀m,m<=n->pL f m=pL (AV f n p) m:=by
  intro m
  induction m with
  |zero=>intro _;rfl
  |succ m ih=>intro a;show pL f m++Dl (f m)=pL (AV f n p) m++Dl (AV f n p m);rw[ih om,Ai _ _ om]
 exact this n<|Be _
def X2 f n x:iL f n++[J x]=iL (AV f n x) (n+1):=by
 show _=iL (AV f n x) n++[J (AV f n x n)];rw[Ao];congr 1;have:∀m,m<=n->iL f m=iL (AV f n x) m:=by
  intro m
  induction m with
  |zero=>intro _;rfl
  |succ m ih=>intro a;show iL f m++[_]=iL (AV f n x) m++[_];rw[ih om,Ai _ _ om]
 exact this n<|Be _
section
variable {w w3:Y} {c o B:Nat} {v0 v1 v2 u:V9} {d:Dc}
def AR.qS(h:AR w c o B v0 v1 v2 d)(a:w.grownBy w3 v0.ownBlock){n}{L}(hu:BT w3 B u n L)(hs:∀b,u.ownBlock=some b->v0.ownBlock=some b\/w.heap.size<=b):
  AR (w3.setCell (G c o) u) c o B u v1 v2 {d with n:=n,L:=L}/\C6 c o v0 v1 v2 w u v1 v2 (w3.setCell (G c o) u):=by
 have hc:v0.ownBlock≠some c:=λe=>h.nc<|.inl e;have e3:=a.block c h.lt λe=>hc e.symm;have f:∀q,w3.cell? (G c q)=w.cell? (G c q):=λq=>As e3;have g:u.ownBlock≠some c:=λe=>(hs c e).elim hc λe'=>oS h.lt;have hi:Bq w3 B v1 d.m d.I:=Ug h.ints a λb e=>DW h.log h.ints e;have i:Bq w3 B v2 d.x d.X:=Ug h.index a λb e=>DW h.log h.index e;refine⟨⟨by simpa using A0 h.lt a.size,CD<|(f _).trans h.c0,(Aa om).trans<|(f _).trans h.c1,(Aa om).trans<|(f _).trans h.c2,(Aa om).trans<|(f _).trans h.c3,(Aa om).trans<|(f _).trans h.c4,(Aa om).trans<|(f _).trans h.c5,λq=>by rw[OR];exact(It e3).trans (h.fz q),Bi hu _ g,Bi hi _ λe=>h.nc<|.inr<|.inl e,Bi i _ λe=>h.nc<|.inr<|.inr e,h.ap,λe=>e.elim g λe=>h.nc<|.inr e,by simpa using GP h.base a.size⟩,?_⟩;exact Mw u a (λb e=>.inl<|.inl e) h.lt hc om λb e=>e.elim (λe=>(hs b e).elim (λe=>.inl<|.inl e) .inr) λe=>.inl<|.inr e
def AR.lU(h:AR w c o B v0 v1 v2 d)(a:w.grownBy w3 v1.ownBlock){m}{I}(hu:Bq w3 B u m I)(hs:∀b,u.ownBlock=some b->v1.ownBlock=some b\/w.heap.size<=b):
  AR (w3.setCell (G c<|o+1) u) c o B v0 u v2 {d with m:=m,I:=I}/\C6 c o v0 v1 v2 w v0 u v2 (w3.setCell (G c<|o+1) u):=by
 have hc:v1.ownBlock≠some c:=λe=>h.nc<|.inr<|.inl e;have e3:=a.block c h.lt λe=>hc e.symm;have f:∀q,w3.cell? (G c q)=w.cell? (G c q):=λq=>As e3;have g:u.ownBlock≠some c:=λe=>(hs c e).elim hc λe'=>oS h.lt;have hl:BT w3 B v0 d.n d.L:=Ug h.log a λb e e'=>DW h.log h.ints e' e;have i:Bq w3 B v2 d.x d.X:=Ug h.index a λb e=>h.ap b e;refine⟨⟨by simpa using A0 h.lt a.size,(Aa om).trans<|(f _).trans h.c0,CD<|(f _).trans h.c1,(Aa om).trans<|(f _).trans h.c2,(Aa om).trans<|(f _).trans h.c3,(Aa om).trans<|(f _).trans h.c4,(Aa om).trans<|(f _).trans h.c5,λq=>by rw[OR];exact(It e3).trans (h.fz q),Bi hl _ λe=>h.nc<|.inl e,Bi hu _ g,Bi i _ λe=>h.nc<|.inr<|.inr e,?_,λe=>e.elim (λe=>h.nc<|.inl e) λe=>e.elim g λe=>h.nc<|.inr<|.inr e,by simpa using GP h.base a.size⟩,?_⟩
 .intro q e e';exact(hs q e).elim (λe1=>h.ap q e1 e') λe1=>oS (h.index.lt q e').2
 exact Mw u a (λb e=>.inl<|.inr<|.inl e) h.lt hc om λb e=>e.elim (λe=>.inl<|.inl e) λe=>e.elim (λe=>(hs b e).elim (λe=>.inl<|.inr<|.inl e) .inr) λe=>.inl<|.inr<|.inr e
end
def O8(KL:KeyLaw K hf){c o B}{v0 v1 v2}{d}{k}(v){w}(hM:AR w c o B v0 v1 v2 d)(hS:Small d)(hI:BK K hf d)(hN:Next d)(hh:∀v,K v->YA v (hf v))
  (hk:K k) (eX:BP k=true) (hv:v.ok=true) (e7:v.kind≠0) (e8:∀i,i<d.n->(d.L i).turn≠0->AB (d.L i).key k=false) (hl:d.live<500) (ht:d.turns<1000000000000) (e9:d.m<=4000000):
  C9 127 #[Pc c o,V k.kind k.num k.Af k.str k.ref,V v.kind v.num v.Af v.str v.ref] w λe w'=>((∃u,e=.returned u)/\∃u0 u1 u2,AR w' c o B u0 u1 u2 (GK hf d k v)/\C6 c o v0 v1 v2 w u0 u1 u2 w'):=by
 obtain⟨i0,hi,fa,fb,fc⟩:=ON EM;obtain⟨j0,ji,dr,dt,du⟩:=ON NR;have df:B9 w<|(w.alloc<|.cells (qf k) 43).alloc<|.cells (qf v) 43:=(n9).alloc oq _;obtain⟨W,hW⟩:=o9<|(w.alloc<|.cells (qf k) 43).alloc<|.cells (qf v) 43;rw[<-hW]at df;have fe:=hM.below df;have bk:Tl W c v0 v1 v2 w.heap.size k:=⟨⟨by rw[hW];simp;omega,by rw[hW];simp[go_sem],by rw[hW];simp[go_sem],by rw[hW];simp[go_sem],by rw[hW];simp[go_sem],by rw[hW];simp[go_sem]⟩,λe=>oS hM.lt,λe=>oS (hM.WC e).2⟩;have bv:Tl W c v0 v1 v2 (w.heap.size+1) v:=⟨⟨by rw[hW];simp,by rw[hW];simp[go_sem],by rw[hW];simp[go_sem],by rw[hW];simp[go_sem],by rw[hW];simp[go_sem],by rw[hW];simp[go_sem]⟩,λe=>oS hM.lt,λe=>oS (hM.WC e).2⟩;have ff:C6 c o v0 v1 v2 w v0 v1 v2 W:=C6.Ax df hM.lt;rcases DS hI,Eb (hf:=hf) hI.core hN,BS (hf:=hf) hI.core with⟨fg,fh,⟨fj,fk,dv,fl⟩⟩;have ct:∀i,i<(Aq hf d).n->((Aq hf d).L i).turn≠0->AB ((Aq hf d).L i).key k=false:=by
  intro i hi gT;cases e:AB ((Aq hf d).L i).key k
  .rfl
  obtain⟨j,g1,g2,g3⟩:=(DJ hI.core λp=>AB p.key k=true).1 ⟨i,hi,gT,e⟩;rw[e8 j g1 g2]at g3;cases g3
 have a6:=hI.core;have hm:=e9;rcases O fg,O fh,O ct,O fe,O bk,O bv,O ff,O hS,O a6,O hh,O KL,O (ql hk<|ql eX<|ql hv e7) with⟨R,fm,dw,fo,fq,fr,ft,HS,fu,HH,dh,HK⟩;have b3:Hid<|GK hf d k v=Bz hf (Aq hf d) k v:=O rfl;clear hM fe bk bv ff hS hI hN hh KL hk eX hv e7 e8 ct fg fh df a6;go_enter func127,ntmps127;go_wp2_with fail;rw[<-hW];clear hW;refine(Fg hf fo HS fu HH).mono ?_;rintro e w1 ⟨⟨u,rfl⟩,t0,t2,S,aw⟩;rcases O (fq.step aw),O<|fr.step aw,O (ft.trans aw) with⟨cu,cv,fw⟩;generalize ha:Aq hf d=l at S R fm dw b3 fj fk dv fl;have h9:l.n<=1000:=om;have hb:0<=l.turns/\l.turns<1000000000000:=⟨R.turns.1,om⟩;have dx:l.live<500/\0<=l.live:=⟨om,oS R.log.CP⟩;have hg:l.m<=4000000:=by rw[dv];exact hm
 obtain⟨la,lc,e0,_⟩:=S.log.at;subst e0;rcases S.c0,S.c4,S.c5,S.fz o,S.fz<|o+4,S.fz<|o+5,S.lt,O S with⟨c0,c4,c5,f0,f4,f5,C,fx⟩;clear aw S ha fq fr ft fo fj fk dv fl hl ht hm e9;obtain⟨W2,dy⟩:=o9<|(w1.setCell (G c<|o+5)<|J<|l.turns+1).setCell (G c<|o+4)<|J<|l.live+1;have dz:=(fx.PR<|l.turns+1).IC<|l.live+1;have bh:=(fw.trans<|Df (o:=o) (v0:=.slice la l.n lc) (v1:=v1) (v2:=t2) (w:=w1) (q:=o+5) (J<|l.turns+1) om λb e=>.inl e).trans<|Df (q:=o+4) (J<|l.live+1) om λb e=>.inl e;have ak:C6 c o (.slice la l.n lc) v1 t2 w1 (.slice la l.n lc) v1 t2<|(w1.setCell (G c<|o+5)<|J<|l.turns+1).setCell (G c<|o+4)<|J<|l.live+1:=(Df (q:=o+5) (J<|l.turns+1) om λb e=>.inl e).trans<|Df (q:=o+4) (J<|l.live+1) om λb e=>.inl e;have ae:=O<|cu.step ak;have af:=O<|cv.step ak;rw[<-dy]at dz bh ae af;have U:=O dz;have dC:=O bh;clear dz bh ak fx fw cu cv;go_wp2_with fail;rw[<-dy];clear dy c0 c4 c5 f0 f4 f5 C;rcases U.c0,U.c5,U.fz o,U.lt,ae.box,af.box with⟨c0,c5,f0,C,⟨bl,k0,k1,k2,k3,k4⟩,⟨hn,q0,q1,q2,q3,q4⟩⟩;have b8:Hid<|BT W2.drew B (.slice la l.n lc) l.n l.L:=O U.log.drew;have ho:=U.base;have HG:Hid (∀(g3 t:Nat) (w3:Y),w3.ownsRow B 166 11 (S9 g3 (l.n+1) t) (l.n+1) (pL l.L l.n++Dl ⟨k,v,l.turns+1⟩)->W2.grownBy w3 (Value.slice la l.n lc).ownBlock->((Value.slice la l.n lc).ownBlock=some g3\/W2.heap.size<=g3)->
   AR (w3.setCell (G c o) (S9 g3 (l.n+1) t)) c o B (S9 g3 (l.n+1) t) v1 t2 (BR l k v)/\C6 c o (.slice la l.n lc) v1 t2 W2 (S9 g3 (l.n+1) t) v1 t2 (w3.setCell (G c o) (S9 g3 (l.n+1) t))):=O (λg3 t w3 h1 h2 h3=>by
  rw[kM]at h1;exact U.qS h2 h1 (λb e=>by rw[<-ownB e];exact h3))
 have ax:(Value.slice la l.n lc).ownBlock≠some c:=λe=>U.nc<|.inl e;have ay:=O ax;clear ax
 go_cut [44] λ_ wx=>∃g3 t:Nat,AR wx c o B (S9 g3 (l.n+1) t) v1 t2 (BR l k v)/\C6 c o (.slice la l.n lc) v1 t2 W2 (S9 g3 (l.n+1) t) v1 t2 wx
 case first=>
  clear R fm dw HS fu HH dh HK b3 dC ae af U dx hg j0 ji dr dt du
  go_region_law (refine Wx _ rfl (.tmp 33) (.tmp 41) 101 rfl B 166 i0 PZ 11 104 underlying101 hi fa fb fc rfl oo (.slice la l.n lc) l.n (pL l.L l.n) og (b8.alloc _) (G W2.heap.size 0) 1 1 (Dl ⟨k,v,l.turns+1⟩) og rfl (ID<|DD _ _) (Fj _) oo od om ot _ rfl ?_;intro g3 t w3 a7 cw a8 ag;have bt:=OU cw;have fy:=z HG g3 t w3 a7 bt<|a8.imp id (λe=>by rw[e];simp);have e3:w3.heap[c]?=W2.heap[c]?:=bt.block c C λe=>ay e.symm;have x3:=(As (a:=G c o) e3).trans c0;have f3:=(It (a:=G c o) e3).trans f0;have fE:=O fy;clear a7 cw bt fy e3 a8 HG b8 hi fa fb fc k0 k1 k2 k3 k4 q0 q1 q2 q3 q4 c0 c5)
  all_goals(go_wp2_with fail;go_meet;exact⟨_,_,fE.1,fE.2⟩)
 case rest=>
 obtain⟨g3,t,F,bj⟩:=hcut;obtain⟨W3,e⟩:=o9 wc;subst e;clear HG b8 ay c0 c5 f0 C k0 k1 k2 k3 k4 q0 q1 q2 q3 q4 bl hn ho;rcases O (ae.step bj),O<|af.step bj,O (dC.trans bj) with⟨bu,cx,fF⟩;have fI:Small<|BR l k v:=⟨by show l.n+1<=_;omega,by show l.m<=_;omega,by show l.x<=_;have h:=R.sz;unfold GJ at h;omega⟩;rcases O fI,F.ints.at,F.index.at with⟨hp,⟨ia,ic,e1,b9⟩,⟨xa,xc,e2,ca⟩⟩;replace e1:v1=.slice ia l.m ic:=e1;replace e2:t2=.slice xa l.x xc:=e2;have di:Hid (0<l.m->∃g cp,v1=S9 g l.m cp):=O (λh=>by obtain⟨g,cp,h,_⟩:=F.ints.form h;exact⟨g,cp,h⟩);have b4:Hid (0<l.x->∃g cp,t2=S9 g l.x cp):=O (λh=>by obtain⟨g,cp,h,_⟩:=F.index.form h;exact⟨g,cp,h⟩);have fL:=O F;obtain⟨bl,k0,k1,k2,k3,k4⟩:=bu.box;have fS:H9 W3 c o (some<|G g3 0) t ia ic xa xc<|BR l k v:=⟨F.lt,F.c0,by rw[F.c1,e1];rfl,by rw[F.c2,e2];rfl,F.c3,F.c4,F.c5,by obtain⟨a,cp,e,h⟩:=F.log.at;cases e;exact h,b9,ca⟩;subst e1 e2;have fT:=O fS;have ag:=F.lt;clear F bj fI b9 ca fS ae af U dC;go_wp2_with fail;refine m9 (GQ k fT hp) λw4 cb=>?_;rcases O (fL.below cb),O<|fF.trans<|C6.Ax cb ag,O<|bu.step<|C6.Ax (o:=o) cb ag,O (cx.step<|C6.Ax (o:=o) cb ag) with⟨H,cc,ar,cy⟩;clear cb fL fF bu cx fT ag bl k0 k1 k2 k3 k4;rcases ar.box,H.lt,H.c1 with⟨⟨bl,k0,k1,k2,k3,k4⟩,C,c1⟩;by_cases hs:Ay l.m k
 .rw[show tells (Ay (BR l k v).m k)=true from Al hs];have HR:Hid<|Bz hf l k v=BV l k v:=O (by unfold Bz;rw[C3 hs]);obtain⟨s1,s2,s3⟩:=hs;obtain⟨q,hq⟩:∃q:Nat,k.num=(q:Int)+1:=⟨(k.num-1).toNat,om⟩;have fV:q<l.m:=om;obtain⟨g,cp,eg⟩:=z di om;cases eg;obtain⟨g',hr,dU,hB,ea,hC,hcs,cd⟩:=H.ints.form (by show 0<l.m;omega);cases dU;have e0:=hcs q fV;have f0:=cd q;have eb:g≠c:=λe=>H.nc<|.inr<|.inl (by rw[<-e];rfl);have ib:IntKind.i64.wrap (q:Int)=q:=oj;have hd:=AR.ZC (d:=BR l k v) H fV<|(l.n:Int)+1;have cg:=cc.trans<|Fo (q:=q) (J<|(l.n:Int)+1) (.inr<|.inl rfl) eb;have HE:Hid<|{BR l k v with I:=AV (BR l k v).I q ((l.n:Int)+1)}=BV l k v:=O (by unfold BV;rw[hq,show((q:Int)+1-1).toNat=q by omega];rfl);have HD:=O hd;have dj:=O cg;rw[hq]at k1;clear hd cg hcs cd hq s1 s2 s3 di b4;go_wp2_with fail
  go_region
  go_wp2;refine GO (Aay rfl _ _ _) rfl ?_;refine⟨⟨_,rfl⟩,_,_,_,?_,dj.trans<|C6.Ax (BE _ _).drew<|by simpa using C⟩;rw[z b3,z HR,<-z HE];exact HD.below (BE _ _).drew
 rw[show tells (Ay (BR l k v).m k)=false from Ae hs];have fW:=O hs;clear hs;have ie:IntKind.i64.wrap ((l.m:Int)+1)=(l.m:Int)+1:=oj;by_cases hx:k.kind=2/\k.num=(l.m:Int)+1
 .have HR:Hid<|Bz hf l k v=CY hf (l.x+1) (BU l k v):=O (by unfold Bz;rw[Cs (z fW),C3 hx]);have fX:=O<|I4 dh R HK.1 HK.2.1 HK.2.2.1 HK.2.2.2 dw hx.1 hx.2 dx.1 hb.2;have au:(k.kind==2)=true:=by simp[hx.1]
  have bw:(k.num==(l.m:Int)+1)=true:=by simp[hx.2]
  clear hx;go_wp2_with fail;go_quiet (fail);obtain⟨W5,bm⟩:=o9<|w4.drewN nq;rw[<-bm];have T:B9 w4 W5:=by rw[bm];exact AJ (BE _ _) _
  clear bm;have E:=O<|H.below T;have bn:=O<|cc.trans<|C6.Ax T C;clear T H cc ar cy c1 C bl k0 k1 k2 k3 k4 au bw;rcases E.c1,E.fz<|o+1,E.lt,E.base with⟨c1,f1,C,hD⟩;have ax:(Value.slice ia l.m ic).ownBlock≠some c:=λe=>E.nc<|.inr<|.inl e;have ay:=O ax;clear ax;have HG:Hid (∀(g4 aq:Nat) (w5:Y),w5.ownsRow B 3 1 (S9 g4 (l.m+1) aq) (l.m+1) (iL l.I l.m++[J ((l.n:Int)+1)])->W5.grownBy w5 (Value.slice ia l.m ic).ownBlock->((Value.slice ia l.m ic).ownBlock=some g4\/W5.heap.size<=g4)->
    AR (w5.setCell (G c (o+1)) (S9 g4 (l.m+1) aq)) c o B (S9 g3 (l.n+1) t) (S9 g4 (l.m+1) aq) (.slice xa l.x xc) (BU l k v)/\C6 c o (S9 g3 (l.n+1) t) (.slice ia l.m ic) (.slice xa l.x xc) W5 (S9 g3 (l.n+1) t) (S9 g4 (l.m+1) aq) (.slice xa l.x xc) (w5.setCell (G c (o+1)) (S9 g4 (l.m+1) aq))):=O (λg4 aq w5 h1 h2 h3=>by
   rw[X2]at h1;exact E.lU h2 h1 (λb e=>by rw[<-ownB e];exact h3))
  have ga:=O E.ints;have hE:Hid<|W5.heap.size=W5.heap.size:=O rfl;go_wp2_with (first|(at_builtin;refine So _ rfl _ _ 91 rfl B 3 j0 (J 0) 1 8 underlying91 ji dr dt du rfl oo (.slice ia l.m ic) l.m (iL l.I l.m) rfl (ga.alloc _) (G W5.heap.size 0) 1 1 [J ((l.n:Int)+1)] rfl rfl (ID<|DD _ _) oh oo od om ot _ rfl ?_;intro g4 aq w5 bb cz bc eA;have dk:=T2 cz;have gb:=z HG g4 aq w5 bb dk<|bc.imp id (λe=>by rw[e];simp);have e4:w5.heap[c]?=W5.heap[c]?:=dk.block c C λe=>ay e.symm;have x4:=(As (a:=G c<|o+1) e4).trans c1;have f4:=(It (a:=G c<|o+1) e4).trans f1;have dm:=O gb;have eB:c<w5.heap.size:=A0 C dk.size;clear bb cz dk gb e4 bc)|go_in);obtain⟨WL,ec⟩:=o9<|w5.setCell (G c<|o+1)<|S9 g4 (l.m+1) aq;rw[<-ec]at dm;rw[<-ec];clear ec;have ch:=O dm.1;have bp:=O<|bn.trans dm.2;clear dm bn E HG ga ay hE x4 f4 eB c1 f1 C hD eA di b4;have hF:l.x<=4000:=by have h:=R.sz;unfold GJ at h;omega
  go_loopw [7] (λ_ wr=>∃(f:Nat) (r:Dc) (u1 u2:V9),CY hf f r=CY hf (l.x+1) (BU l k v)/\FQ r.X r.x<f/\r.m+f=l.m+1+(l.x+1)/\BK K hf r/\r.n=l.n+1/\AR wr c o B (S9 g3 (l.n+1) t) u1 u2 r/\C6 c o v0 (.slice ia l.m ic) v2 w (S9 g3 (l.n+1) t) u1 u2 wr) λ_ wr=>(l.m+1+(l.x+1))-dG wr c o
  .exact⟨l.x+1,BU l k v,_,_,rfl,by have:=N1 l.X l.x;show FQ l.X l.x<_;omega,rfl,fX,rfl,ch,bp⟩
  clear ch bp fX;obtain⟨f,r,u1,u2,gd,hX,ig,bx,dn,hd,cg⟩:=hrel;rcases hd.ints.at,hd.index.at,bx.sz with⟨⟨bq,br,e1,b9⟩,⟨hG,ef,e2,ca⟩,gf⟩;have ih:r.x<=4000:=by unfold GJ at gf;omega
  have b4:Hid (0<r.x->∃g cp,u2=S9 g r.x cp):=O (λh=>by obtain⟨g,cp,h,_⟩:=hd.index.form h;exact⟨g,cp,h⟩);have hP:H9 wr c o (some<|G g3 0) t bq br hG ef r:=⟨hd.lt,by rw[hd.c0,dn],by rw[hd.c1,e1],by rw[hd.c2,e2],hd.c3,hd.c4,hd.c5,by have hl:=hd.log;rw[dn]at hl;obtain⟨a,cp,e,h⟩:=hl.at;cases e;rw[dn];exact h,b9,ca⟩;have gg:Small r:=⟨om,om,om⟩;subst e1 e2;rcases O hP,O gg,O hd,O cg,O bx,O gd,hd.c1,hd.lt,O<|Ut hd.c1,O (HH _<|dh.own<|(r.m:Int)+1) with⟨HP,hH,HD,dj,av,eh,c1,C,eF,hJ⟩;have hY:IntKind.i64.wrap ((r.m:Int)+1)=(r.m:Int)+1:=oj;clear b9 ca hP gg hd cg bx gd gf;go_wp2_with fail;refine m9 (Ri ((r.m:Int)+1) _) λw6 cj=>?_;rcases O (HP.below cj),O<|HD.below cj,O<|dj.trans<|C6.Ax cj C,A0 C cj.size with⟨gh,ch,cN,ah⟩;clear cj HP HD dj c1 C;go_wp2_with fail;refine m9 (Kv gh hH av.d4 hJ) λw7 ei=>?_;have M:=O<|ch.below ei;have bz:=O<|cN.trans<|C6.Ax ei ah;clear ei gh ch cN ah;rcases M.c1,M.c2,M.fz<|o+1,M.lt,M.base with⟨c1,c2,f1,C,ij⟩;cases b5:AM r (Dx<|(r.m:Int)+1) (hf<|Dx<|(r.m:Int)+1)with
  |none=>
   have eI:Hid<|r=CY hf (l.x+1) (BU l k v):=O (by rw[<-z eh,Gk b5]);simp only[FL];clear b5 c1 c2 f1;go_wp2;refine GO (Aay rfl _ _ _) rfl ?_;refine⟨⟨_,rfl⟩,_,_,_,?_,bz⟩;rw[z b3,z HR,<-z eI];exact M
  |some s=>
   obtain⟨aw,bh,bj,hO⟩:=av.slot b5;obtain⟨f',rfl⟩:∃f',f=f'+1:=⟨f-1,om⟩;have eP:Hid<|CY hf f' (DI r s)=CY hf (l.x+1) (BU l k v):=O (by rw[<-z eh,Gl b5]);have dc:=O<|Mh dh av b5;have gi:=KD bh r.x;rw[C3 aw]at gi;have eS:Hid<|FQ (DI r s).X (DI r s).x<f':=O (by show FQ (AV r.X s (-1)) r.x<f';omega);obtain⟨g,cp,eg⟩:=z b4 om;cases eg;obtain⟨g',hr,dU,hB,ea,hC,hcs,cd⟩:=M.index.form om;cases dU;have e0:=hcs s aw;have f0:=cd s;have eb:g≠c:=λe=>M.nc<|.inr<|.inr (by rw[<-e];rfl);have hQ:0<r.X s/\r.X s<=1001:=⟨bh,oS bj.1⟩;simp only[FL];clear b5 bh bj hO hcs cd gi hQ;go_wp2_with fail;have b8:Hid<|Bq w7.drew B (.slice bq r.m br) r.m r.I:=O M.ints.drew;have ax:(Value.slice bq r.m br).ownBlock≠some c:=λe=>M.nc<|.inr<|.inl e;have gj:(Value.slice bq r.m br).ownBlock≠some g:=λe=>M.ap g e rfl;have ay:=O<|ql ax gj;have HG:Hid (∀(g5 az:Nat) (w9:Y),w9.ownsRow B 3 1 (S9 g5 (r.m+1) az) (r.m+1) (iL r.I r.m++[J (r.X s)])->w7.grownBy w9 (Value.slice bq r.m br).ownBlock->((Value.slice bq r.m br).ownBlock=some g5\/w7.heap.size<=g5)->
     AR ((w9.setCell (G c (o+1)) (S9 g5 (r.m+1) az)).setCell (G g s) (J (-1))) c o B (S9 g3 (l.n+1) t) (S9 g5 (r.m+1) az) (S9 g r.x ef) (DI r s)/\C6 c o v0 (.slice ia l.m ic) v2 w (S9 g3 (l.n+1) t) (S9 g5 (r.m+1) az) (S9 g r.x ef) ((w9.setCell (G c (o+1)) (S9 g5 (r.m+1) az)).setCell (G g s) (J (-1)))):=O (λg5 az w9 h1 h2 h3=>by
    rw[X2]at h1;obtain⟨a1,a2⟩:=M.lU h2 h1 (λb e=>by rw[<-ownB e];exact h3);exact⟨AR.UM (d:={r with m:=r.m+1,I:=AV r.I r.m (r.X s)}) a1 (i:=s) aw (-1),(bz.trans a2).trans (Fo (q:=s) (J (-1)) (.inr (.inr rfl)) eb)⟩)
   clear ax gj M bz av eh b4
   go_region_law (refine Wx _ rfl (.tmp 98) (.tmp 106) 91 rfl B 3 j0 (J 0) 1 8 underlying91 ji dr dt du rfl oo (.slice bq r.m br) r.m (iL r.I r.m) og (b8.alloc _) (G w7.heap.size 0) 1 1 [J (r.X s)] og rfl (ID<|DD _ _) oh oo od om ot _ rfl ?_;intro g5 az w9 bd c6 bf hZ;have b6:=OU c6;have gl:=z HG g5 az w9 bd b6<|bf.imp id (λe=>by rw[e];simp);have e5:w9.heap[c]?=w7.heap[c]?:=b6.block c C λe=>ay.1 e.symm;have e6:w9.heap[g]?=w7.heap[g]?:=b6.block g ea λe=>ay.2 e.symm;have x5:=(As (a:=G c<|o+1) e5).trans c1;have x6:=(As (a:=G c<|o+2) e5).trans c2;have y5:=(As (a:=G g s) e6).trans e0;have z5:=(It (a:=G g s) e6).trans f0;have f5:=(It (a:=G c<|o+1) e5).trans f1;have h0:=A0 C b6.size;have h4:=A0 ea b6.size;have ej:=O gl;clear bd c6 b6 gl e5 e6 bf HG)
   all_goals
    go_wp2;go_roundw
    .exact⟨f',DI r s,_,_,eP,eS,by show r.m+1+f'=_;omega,dc,dn,ej.1,ej.2⟩
    rw[Ut (z ej).1.c1,z eF];omega
 have HR:Hid<|Bz hf l k v=AW hf (BR (Cy hf l) k v) k l.n:=O (by unfold Bz;rw[Cs (z fW),Cs hx]);have hF:l.x<=4000:=by have h:=R.sz;unfold GJ at h;omega
 have ik:0<=l.used/\l.used<=4000:=by have h1:=R.used;have h2:=Yx l.X l.x;omega
 have ao:Hid<|∀(Q:Prop),(k.kind≠2->Q)->(k.kind=2->k.num≠(l.m:Int)+1->Q)->Q:=O (λQ h1 h2=>by
  by_cases e:k.kind=2
  .exact h2 e λe'=>hx ⟨e,e'⟩
  exact h1 e)
 clear hx;have c2:=H.c2;have c3:=H.c3;have bg:(BR l k v).used=l.used:=rfl;rw[bg]at c3;obtain⟨lb,hR,ek,hT,gm,eT,ai,aj⟩:=H.log.form (by show 0<l.n+1;omega);cases ek;have ck:=(ai l.n<|by show l.n<l.n+1;omega).tn;have hL:(BR l k v).L l.n=⟨k,v,l.turns+1⟩:=Cd;rw[hL]at ck;have ck:w4.cell? (G g3<|l.n*11+10)=some (J<|l.turns+1):=ck;have gn:=aj<|l.n*11+10;have il:IntKind.i64.wrap (l.used+1)=l.used+1:=oj;have im:IntKind.i64.wrap (2*(l.used+1))=2*(l.used+1):=oj;have c0:=H.c0;have iq:(BR l k v).n=l.n+1:=rfl;have b0:g3≠c:=λe=>H.nc<|.inl (by rw[<-e];rfl);have ad:=O<|Hq R dx.1;clear ai aj hL bg di b4;refine ao _ (λDB=>?_) λDB gp=>?_
 focus
  have au:(k.kind==2)=false:=by simp[DB]
  clear DB ao;go_wp2_with fail;go_quiet (fail)
 rotate_left
 focus
  have au:(k.kind==2)=true:=by simp[DB]
  have bw:(k.num==(l.m:Int)+1)=false:=by simp[gp]
  clear DB gp ao;go_wp2_with fail;go_quiet (fail);clear bw
 all_goals
  obtain⟨W5,bm⟩:=o9<|w4.drewN nq;rw[<-bm];have T:B9 w4 W5:=by rw[bm];exact AJ (BE _ _) _
  clear bm;rcases O (H.below T),O<|cc.trans<|C6.Ax T C,O (ar.step<|C6.Ax (o:=o) T C) with⟨E,bn,b1⟩;have c0:=E.c0;have c2:=E.c2;have c3:W5.cell? (G c<|o+3)=some (J l.used):=E.c3;rcases (T.cell gm).trans ck,(T.frozen gm).trans gn,A0 C T.size with⟨ck,gn,C⟩;clear bl k0 k1 k2 k3 k4;obtain⟨bl,k0,k1,k2,k3,k4⟩:=b1.box;clear T H cc ar cy au;by_cases P:(l.x:Int)<2*(l.used+1)
  .have dp:Hid<|Cy hf l=A1 hf l 1:=O<|C3 P;have hU:decide ((l.x:Int)<2*(l.used+1))=true:=by simp[P]
   have h5:=R.core.cO;have eo:BX l l.n+1<=500:=om;have hz:AR (W5.setCell (G g3<|l.n*11+10)<|J 0) c o B (S9 g3 (l.n+1) t) (.slice ia l.m ic) (.slice xa l.x xc)<|Eo l k v:=by
    have h:=AR.rS E (i:=l.n) (by show l.n<l.n+1;omega) 10 om (J 0) ⟨k,v,0⟩<|qi Cd;refine h.of_same rfl (λi _=>?_) rfl (λ_ _=>rfl) rfl (λ_ _=>rfl) rfl rfl rfl;show AV l.L l.n ⟨k,v,0⟩ i=AV (AV l.L l.n ⟨k,v,l.turns+1⟩) l.n ⟨k,v,0⟩ i;rw[Yw]
   have gq:=bn.trans<|Fo (v2:=.slice xa l.x xc) (q:=l.n*11+10) (J 0) (.inl rfl) b0;have c7:C6 c o (S9 g3 (l.n+1) t) (.slice ia l.m ic) (.slice xa l.x xc) W5 (S9 g3 (l.n+1) t) (.slice ia l.m ic) (.slice xa l.x xc)<|W5.setCell (G g3<|l.n*11+10)<|J 0:=Fo (q:=l.n*11+10) (J 0) (.inl rfl) b0;have HZ:=O<|hz.below (BE _ _).drew;have gu:=O<|gq.trans<|C6.Ax (BE _ _).drew (by simpa using C);have gv:=O<|(b1.step c7).step<|C6.Ax (o:=o) (BE _ _).drew (by simpa using C);have gw:Small<|Eo l k v:=⟨by show l.n+1<=_;omega,by show l.m<=_;omega,by show l.x<=_;omega⟩;have gx:=O gw;have gy:Hid<|∀i,i<(Eo l k v).n->AU (Eo l k v) i->YA ((Eo l k v).L i).key (hf ((Eo l k v).L i).key):=O (λi hi hx=>by
    have hi:i<l.n+1:=hi;by_cases e:i=l.n
    .subst e;exact absurd hx LZ
    have ep:i<l.n:=om;rw[Ow ep];exact HH _ (R.keys i ep (oS ((Ig ep).1 hx).1)))
   clear hz gq c7 gw P E bn b1 bl k0 k1 k2 k3 k4;go_wp2_with fail
   go_region
   go_wp2_with fail
   refine(J6 hf 1 HZ gx (by rw[LY];exact eo) gy).mono ?_;rintro e w6 ⟨⟨u9,rfl⟩,t9,gE,eu⟩;have c8:=O<|gv.step eu;have bp:=O<|gu.trans eu;have A:=PJ (hf:=hf) (d:=Eo l k v) (by rw[LY];exact eo);have iu:(A1 hf (Eo l k v) 1).n=l.n+1:=A.n;have b7:AR w6 c o B (S9 g3 (l.n+1) t) (.slice ia l.m ic) t9 {Eo l k v with x:=(A1 hf (Eo l k v) 1).x,X:=(A1 hf (Eo l k v) 1).X,used:=(A1 hf (Eo l k v) 1).used}:=gE.of_same A.n.symm (λi _=>by rw[A.L]) A.m.symm (λi _=>by rw[A.I]) rfl (λ_ _=>rfl) rfl A.live.symm A.turns.symm;obtain⟨lb,hR,ek,hT,h6,eT,ai,aj⟩:=b7.log.form (by show 0<l.n+1;omega);cases ek;have c9:=(ai l.n<|by show l.n<l.n+1;omega).tn;have h7:=aj<|l.n*11+10;have iv:w6.cell? (G g3<|l.n*11+10)=some (J 0):=by
    have hL:(Eo l k v).L l.n=⟨k,v,0⟩:=Ao _ _ _;have h:=c9;rw[hL]at h;exact h
   have ah:=b7.lt;have iw:=b7.c0;have ix:w6.cell? (G c<|o+5)=some (J<|l.turns+1):=b7.c5;have h8:AR (w6.setCell (G g3<|l.n*11+10)<|J<|l.turns+1) c o B (S9 g3 (l.n+1) t) (.slice ia l.m ic) t9<|BR (Cy hf l) k v:=by
    have h:=AR.rS (d:={Eo l k v with x:=(A1 hf (Eo l k v) 1).x,X:=(A1 hf (Eo l k v) 1).X,used:=(A1 hf (Eo l k v) 1).used}) b7 (by show l.n<l.n+1;omega) 10 om (J<|l.turns+1) ⟨k,v,l.turns+1⟩ (by show _=(Dl<|(Eo l k v).L l.n).set 10 _;rw[show(Eo l k v).L l.n=⟨k,v,0⟩from Ao _ _ _];rfl);rw[z dp,<-RY eo];refine h.of_same A.n (λi _=>?_) A.m (λi _=>by rw[show({A1 hf (Eo l k v) 1 with L:=AV l.L l.n ⟨k,v,l.turns+1⟩}:Dc).I=(A1 hf (Eo l k v) 1).I from rfl,A.I]) rfl (λ_ _=>rfl) rfl A.live A.turns;show AV l.L l.n ⟨k,v,l.turns+1⟩ i=AV (AV l.L l.n ⟨k,v,0⟩) l.n ⟨k,v,l.turns+1⟩ i;rw[Yw]
   have b2:C6 c o (S9 g3 (l.n+1) t) (.slice ia l.m ic) t9 w6 (S9 g3 (l.n+1) t) (.slice ia l.m ic) t9<|w6.setCell (G g3<|l.n*11+10)<|J<|l.turns+1:=Fo (q:=l.n*11+10) (J<|l.turns+1) (.inl rfl) b0;have gN:=O<|h8.below (BE _ _).drew;have gS:=O<|(bp.trans b2).trans<|C6.Ax (BE _ _).drew (by simpa using ah);have da:=O<|(c8.step b2).step<|C6.Ax (o:=o) (BE _ _).drew (by simpa using ah);clear gE eu b7 h8 b2 ai aj c9 A HZ gu gv c8 bp gy gx;go_wp2_with fail
   go_region
   obtain⟨W8,ev⟩:=o9<|(w6.setCell (G g3<|l.n*11+10)<|J<|l.turns+1).drew;rw[<-ev];rw[<-ev]at gN gS da;clear ev;rcases da.box,ad.1,ad.2.1 with⟨⟨bl,k0,k1,k2,k3,k4⟩,aM,dq⟩;have cl:=aM.sz;have ew:=aM.used;have cm:=cl.resolve_left om;have cn:=z HH k HK.1;have D:=O<|ql cm<|ql (show B7 (Cy hf l).X (Cy hf l).x<(Cy hf l).x by omega)<|ql (show 0<=(Cy hf l).used/\(Cy hf l).used<=4000 by omega) cn;clear aM dq cl ew cm cn;go_wp2_with fail;refine(Jf hf c o B _ _ t9 (BR (Cy hf l) k v) k l.n _ gN D.1 D.2.1 D.2.2.1 om D.2.2.2).mono ?_;rintro e w9 ⟨⟨⟨u8,rfl⟩,cq⟩,cr⟩;have ey:=O cq;have ez:=O<|gS.trans cr;clear cq cr;go_wp2;go_end0;exact⟨⟨_,rfl⟩,_,_,_,by rw[z b3,z HR];exact ey,ez⟩
  have dp:Hid<|Cy hf l=l:=O<|Cs P;have hU:decide ((l.x:Int)<2*(l.used+1))=false:=by simp[P]
  have aM:=ad.1;have dq:=ad.2.1;rw[z dp]at aM dq;have cl:=aM.sz;have ew:=aM.used;have cm:=cl.resolve_left om;have cn:=z HH k HK.1;rcases O (ql cm<|ql (show B7 l.X l.x<l.x by omega)<|ql (show 0<=l.used/\l.used<=4000 by omega) cn),O<|E.below (BE _ _).drew,O (bn.trans<|C6.Ax (BE _ _).drew C) with⟨D,hV,bp⟩;clear aM dq cl ew cm cn P E bn;go_wp2_with fail
  go_region
  go_wp2_with fail
  refine(Jf hf c o B _ _ (.slice xa l.x xc) (BR l k v) k l.n _ hV D.1 D.2.1 D.2.2.1 om D.2.2.2).mono ?_;rintro e w9 ⟨⟨⟨u8,rfl⟩,cq⟩,cr⟩;have ey:=O cq;have ez:=O<|bp.trans cr;clear cq cr;go_wp2;go_end0;exact⟨⟨_,rfl⟩,_,_,_,by rw[z b3,z HR,z dp];exact ey,ez⟩
def AR.mF(h:AR w c o B (S9 g d.n k) v1 v2 d){i}(hi:i<d.n)a us p(s:a+us.length<=11)(hp:∀j,(Dl p)[j]?=if a<=j/\j<a+us.length then us[j-a]? else(Dl<|d.L i)[j]?):
  AR (Hu g w (i*11+a) us) c o B (S9 g d.n k) v1 v2 {d with L:=AV d.L i p}/\C6 c o (S9 g d.n k) v1 v2 w (S9 g d.n k) v1 v2 (Hu g w (i*11+a) us):=by
 obtain⟨s1,s2,l,m⟩:=RE (g:=g) us w<|i*11+a;have hc:c≠g:=λe=>h.nc<|.inl<|qi e;have eb:=PS (g:=g) us w<|i*11+a;have f:∀q,(Hu g w (i*11+a) us).cell? (G c q)=w.cell? (G c q):=λq=>As<|eb c hc;have hl:=UF us w (i*11+a) _ h.log;rw[kK d.L i a us p hi s hp]at hl;have r:w.grownBy (Hu g w (i*11+a) us)<|some g:=⟨s2,l,m,Nat.le_of_eq s1.symm,λb _ hb=>eb b λe=>hb<|by rw[e]⟩;have t:=Ug h.ints r (λb e=>by cases e;exact DW h.log h.ints rfl);have kx:=Ug h.index r (λb e=>by cases e;exact DW h.log h.index rfl);exact⟨⟨by rw[s1];exact h.lt,(f _).trans h.c0,(f _).trans h.c1,(f _).trans h.c2,(f _).trans h.c3,(f _).trans h.c4,(f _).trans h.c5,λq=>(It<|eb c hc).trans<|h.fz q,hl,t,kx,h.ap,h.nc,by rw[s1];exact h.base⟩,⟨s2,l,m,Nat.le_of_eq s1.symm,λb _ _ u=>eb b λe=>u<|.inl<|qi e,λq _=>f q,λb e=>.inl e,.same<|eb c hc⟩⟩
def AR.kill(h:AR w c o B (S9 g d.n a) v1 v2 d){i}(hi:i<d.n):
  AR (Hu g w (i*11+0)<|Dl default) c o B (S9 g d.n a) v1 v2 {d with L:=AV d.L i default}/\C6 c o (S9 g d.n a) v1 v2 w (S9 g d.n a) v1 v2 (Hu g w (i*11+0)<|Dl default):=
 h.mF hi 0 (Dl default) default (by simp[Dl]) (λj=>by
  by_cases e:j<11
  .rw[C3 (by simp[Dl];omega),Nat.sub_zero]
  rw[List.getElem?_eq_none (by simp[Dl];omega),Cs (by simp[Dl];omega),List.getElem?_eq_none (by simp[Dl];omega)])
abbrev vL(v:Vl):List Value:=[J v.kind,J v.num,F9 v.Af,.string v.str,J v.ref]
def AR.uN(h:AR w c o B (S9 g d.n a) v1 v2 d){i}(hi:i<d.n)v:
  AR (Hu g w (i*11+5)<|vL v) c o B (S9 g d.n a) v1 v2 (Ht d i v)/\C6 c o (S9 g d.n a) v1 v2 w (S9 g d.n a) v1 v2 (Hu g w (i*11+5)<|vL v):=
 h.mF hi 5 (vL v) ⟨(d.L i).key,v,(d.L i).turn⟩ oq (λj=>by
  match j with
  |0|1|2|3|4|5|6|7|8|9|10=>rfl
  |n+11=>rw[Cs oq,List.getElem?_eq_none (by simp[Dl]),List.getElem?_eq_none (by simp[Dl])])
def eY{f}(hf:∀i,(f i).length=m){n}i a us p(hi:i<n)(l:a+us.length<=m)(hl:p.length=m)(hp:∀j,p[j]?=if a<=j/\j<a+us.length then us[j-a]? else(f i)[j]?):Mr (Jo f n) (i*m+a) us=Jo (AX f i p) n:=by
 have c:∀k,(AX f i p k).length=m:=λk=>by
  by_cases e:k=i
  .rw[e,Ak];exact hl
  rw[Aj _ _ e];exact hf k
 have b:=Cx hf n;have d:i*m+m<=n*m:=by rw[<-Nat.succ_mul];exact Aaq _ hi
 apply AaV;intro q;rw[U2 _ _ _ _ (by rw[b];omega)];by_cases hq:q<n*m
 .have g:0<m:=by grind [Mr,Jo,AX]
  have h2:q%m<m:=UP _ g;have e1:q=q/m*m+q%m:=by have:=Nat.div_add_mod q m;rw[AaN]at this;omega
  have h1:q/m<n:=by
   refine Nat.lt_of_not_le λh=>?_;have:=Aaq m h;omega
  have g1:(Jo f n)[q]?=(f<|q/m)[q%m]?:=by have:=IA hf h1 h2;rwa [<-e1]at this
  have g2:(Jo (AX f i p) n)[q]?=(AX f i p<|q/m)[q%m]?:=by have:=IA c h1 h2;rwa [<-e1]at this
  rw[g2];by_cases e:q/m=i
  .grind [Mr,Jo,AX,Ak]
  rw[Aj _ _ e,g1,Cs];rcases Nat.lt_or_gt_of_ne e with h|h
  .have:=Aaq m h;grind
  have:=Aaq m h;grind
 grind [Mr,Jo,AX,Cx]
def gM H T{n}i h t a us(hi:i<n)(b:a+us.length<=8)(hp:∀j,(Hx h t)[j]?=if a<=j/\j<a+us.length then us[j-a]? else(Hx (H i)<|T i)[j]?):Mr (RH H T n) (i*8+a) us=RH (AX H i h) (AX T i t) n:=by
 unfold RH;rw[eY (m:=8) (λ_=>rfl) i a us (Hx h t) hi b rfl hp];grind [Hx,Mr,RH,AX,De,Ak,Aj]
section
variable {w W:Y} {c B:Nat} {vF vT vS:V9} {H:Nat->Hs} {s:AL}
def SM.GA(h:SM w c B vF vT vS H s){t g E}(o:t<s.nt)(A:vT=S9 g s.nt E)(hb:∀k,k<w.heap.size->¬(H t).own k->W.heap[k]?=w.heap[k]?)(b:W.os=w.os/\W.tape=w.tape/\W.output=w.output/\w.heap.size<=W.heap.size)(a)(us){h'}{t'}(F:a+us.length<=8)(hp:∀j,(Hx h' t')[j]?=if a<=j/\j<a+us.length then us[j-a]? else(Hx (H t)<|s.T t)[j]?)
  (h1:Cc W B h'.v t'.nv t'.V) (h2:BT W B h'.l t'.d.n t'.d.L) (h3:Bq W B h'.i t'.d.m t'.d.I) (h4:Bq W B h'.x t'.d.x t'.d.X) (h5:∀q,h'.i.ownBlock=some q->h'.x.ownBlock≠some q) (C:∀q,h'.own q->(H t).own q\/w.heap.size<=q):
  SM (Hu g W (t*8+a) us) c B vF vT vS (AX H t h') (BM s t t')/\BI (Bo c vF vT vS H s.nt) w (Bo c vF vT vS (AX H t h') s.nt) (Hu g W (t*8+a) us):=by
 obtain⟨s1,s2,K,M⟩:=RE (g:=g) us W<|t*8+a;have eb:=PS (g:=g) us W<|t*8+a;have f:vT.ownBlock=some g:=qi A
 have r:=(h.t.lt g f).2;have p:∀q,h'.own q->q≠g:=λq e e'=>by
  rcases C q e with h7|h7
  .exact(h.apart o h7).2.2.1 (by rw[e'];exact f)
  omega
 have u:¬(H t).own g:=λe=>(h.apart o e).2.2.1 f;refine h.table o ⟨s2.trans b.1,K.trans b.2.1,M.trans b.2.2.1,by rw[s1];exact b.2.2.2⟩ (λk k1 k2 k3=>(eb k λe=>k2<|by rw[e];exact f).trans<|hb k k1 k3) ?_ (Ab h1 λq e=>eb q<|p q<|.inl e) (Ab h2 λq e=>eb q<|p q<|.inr<|.inl e) (Ab h3 λq e=>eb q<|p q<|.inr<|.inr<|.inl e) (Ab h4 λq e=>eb q<|p q<|.inr<|.inr<|.inr e) h5 C;have D:Tt W B vT s.nt H s.T:=Ab h.t λq e=>by
  rw[f]at e;cases e;exact hb g r u
 rw[A]at D ⊢;have:=UF (g:=g) us W (t*8+a) _ D
 rwa [gM H s.T t h' t' a us o F hp]at this
end
def G4(b a nv vc k:Nat)(v:Vl)(W:Y):Prop:=W.cell? (G b 1)=some (S9 a nv vc)/\W.cell? (G a<|k*5)=some (J v.kind)/\W.cell? (G a<|k*5+1)=some (J v.num)/\W.cell? (G a<|k*5+2)=some (F9 v.Af)/\W.cell? (G a<|k*5+3)=some (.string v.str)/\W.cell? (G a<|k*5+4)=some (J v.ref)
def G4.of{nv}{v}(h:G4 a b nv vc k v W)(h1:W'.heap[a]?=W.heap[a]?)(h2:W'.heap[b]?=W.heap[b]?):G4 a b nv vc k v W':=
 ⟨(As h1).trans h.1,(As h2).trans h.2.1,(As h2).trans h.2.2.1,(As h2).trans h.2.2.2.1,(As h2).trans h.2.2.2.2.1,(As h2).trans h.2.2.2.2.2⟩
def VF(c db g nt a:Nat)(u0 u1 u2:V9)(d:Dc)(W:Y):Prop:=W.cell? (G c 1)=some (S9 g nt a)/\W.cell? (G db 0)=some u0/\W.cell? (G db 1)=some u1/\W.cell? (G db 2)=some u2/\W.cell? (G db 3)=some (J d.used)/\W.cell? (G db 4)=some (J d.live)/\W.cell? (G db 5)=some (J d.turns)
def Sr(t j:Nat){w}(hM:SM w c B vF vT vS H s)(hG:LH s)(ht:t<s.nt)(az:(s.T t).shape=j)(hj:j<s.nf)(ao:(s.T t).nv=nf s.F j)(aq:∀i,i<(s.T t).nv->J2 ((s.T t).V i)=true):
  C9 88 #[Q9 c,J t] w λe w'=>(∃u,e=.returned u)/\∃h',SM w' c B vF vT vS (AX H t h') (BM s t ⟨-1,0,(s.T t).V,AA s.F j (s.T t).V (s.T t).nv⟩)/\BI (Bo c vF vT vS H s.nt) w (Bo c vF vT vS (AX H t h') s.nt) w':=by
 obtain⟨aM,bq,br,_,bt⟩:=Au hG.f;have bu:0<s.nf:=oS aM.1;obtain⟨g,cp,rfl,hg,_,hc,a6⟩:=hM.C5 ht;obtain⟨fb,fc,rfl,bw,_,hF⟩:=hM.OH bu;rcases hM.cells,hM.lt,AF<|hM.v t ht,(hM.l t ht).at,(hM.i t ht).at,(hM.x t ht).at,hM.v t ht with⟨⟨c0,c1,c2,_⟩,a7,⟨va,vc,ev⟩,⟨la,lc,el,bx⟩,⟨ia,ic,ei,bz⟩,⟨xa,xc,ex,b0⟩,au⟩;rw[ev]at au;obtain⟨y0,y1,y2,y3,y4,y5,y6,y7⟩:=qd hc;rw[ev]at y1;rw[el]at y2;rw[ei]at y3;rw[ex]at y4;rw[az]at y0;simp only[Aaw]at y0;have cj:(s.T t).nv<=12:=by rw[ao];exact Hn hG.f hj
 have a8:Hid<|∀i,i<=(s.T t).nv->RR s.F j (s.T t).V i (AA s.F j (s.T t).V i):=O λi hi=>F1 hG.f hj (λq hq=>aq q om) i om;have ax:Hid<|∀k,k<(s.T t).nv->AA s.F j (s.T t).V (k+1)=GK hN (AA s.F j (s.T t).V k) (BH<|DG s.F j k) ((s.T t).V k)/\Ky (BH<|DG s.F j k)/\((s.T t).V k).ok=true/\((s.T t).V k).kind≠0/\(∀i,i<(AA s.F j (s.T t).V k).n->((AA s.F j (s.T t).V k).L i).turn≠0->AB ((AA s.F j (s.T t).V k).L i).key (BH<|DG s.F j k)=false):=O (λk hk=>by
  have hl:=(a8 k om).ls;have hky:=G7<|Hk hG.f hj (show k<nf s.F j by omega);have hv':((s.T t).V k).ok=true/\((s.T t).V k).kind≠0:=by simpa[J2]using aq k hk
  exact⟨(Kz hG.f hj hl om (aq k hk)).1,hky,hv'.1,hv'.2,hl.no hG.f hj om⟩)
 obtain⟨W,hW,C,ck,o0,_⟩:=Tk w (.cells #[J (j:Int),.slice va (s.T t).nv vc,.slice la (s.T t).d.n lc,.slice ia (s.T t).d.m ic,.slice xa (s.T t).d.x xc,J (s.T t).d.used,J (s.T t).d.live,J (s.T t).d.turns] 105)<|.cells #[N9,N9,N9,J 0,J 0,J 0] 103;obtain⟨x0,x1,_⟩:=v8 o0;have bb:AR W (w.heap.size+1) 0 B N9 N9 N9 kI:=⟨om,by rw[hW];simp[go_sem],by rw[hW];simp[go_sem],by rw[hW];simp[go_sem],by rw[hW];simp[go_sem,kI],by rw[hW];simp[go_sem,kI],by rw[hW];simp[go_sem,kI],λq=>by rw[hW];simp[go_sem],NB _ _ _ _,NB _ _ _ _,NB _ _ _ _,λq e=>(by cases e),(by rintro(e|e|e)<;>cases e),oS hM.base⟩;have z0:=(C.cell a7).trans c0;have z1:=(C.cell a7).trans c1;have lw:w.heap.size<W.heap.size:=om;have b1:c<W.heap.size:=om;have b2:fb<W.heap.size:=om;rcases O (hF.below C bw),WD au C,O hc,O (λq=>(C.frozen hg).trans<|a6 q) with⟨b3,bc,HY,b4⟩;clear hG bt hF bx bz b0 hc aq az ev el ei ex a6;obtain⟨n,hn⟩:=o9<|nf s.F j;rw[<-hn]at ao;have b5:=O hn;have ai:=O ao;clear ao;go_enter func88,ntmps88;go_upto_region 2 with fail
 rw[<-hW];clear hW y0 y1 y2 y3 y4 y5 y6 y7 c0 c1 c2
 go_region_law (go_simp;go_at_call 95;refine(Il fc j (b3.below (BE _ _).drew b2) aM bq br hj).mono ?_;rintro e w1 ⟨⟨m',rfl,hm,ad⟩,D⟩;rw[<-hn]at ad;have y1:=oT D lw x1;have cl:w.heap.size+1<w1.heap.size:=(by have:W.heap.size<=w1.heap.size:=D.size;omega);have b6:=H8 ad;have ae:B9 W w1:=⟨D.os,D.tape,D.output,D.size,λk hk=>D.block k hk⟩;have b7:=O<|bb.below ae;have b8:=O<|WD bc ae;have ah:=O ae;have b9:=O ad;have cm:W.heap.size<=m':=hm;clear D ae ad hm)
 all_goals
  clear hn x0 x1 z0 bc bb;go_wp2;simp only[Act.put,AaT,AaH,AaG,Aad,Aa1,Aa0];rw[<-z b5];go_loopw [23] (λi wr=>∃(k:Nat) (u0 u1 u2:V9),k<=n/\i=J k/\AR wr (w.heap.size+1) 0 B u0 u1 u2 (AA s.F j (s.T t).V k)/\C6 (w.heap.size+1) 0 N9 N9 N9 w1 u0 u1 u2 wr) (λi _=>n-(intOf i).toNat)
  .exact⟨0,_,_,_,om,rfl,b7,C6.refl _ _ _ _ _ _⟩
  obtain⟨k,u0,u1,u2,hk,rfl,A,o⟩:=hrel;have a:∀b,b<w1.heap.size->b≠w.heap.size+1->wr.heap[b]?=w1.heap[b]?:=λb h1 h2=>o.block b h1 h2 (by rintro(e|e|e)<;>cases e);have cn:=o.size;by_cases ca:k<n
  case neg=>
   have cb:k=n:=om;subst cb;have cq:=O o;obtain⟨E,I,M,P,Q,R,rfl,rfl,rfl,_⟩:=A.ptr;have r:∀b,b<w.heap.size->wr.heap[b]?=w.heap[b]?:=λb h=>(a b om om).trans<|(ah.block b om).trans<|C.block b h;rcases (As<|r g hg).trans (HY 0 _ rfl),(As<|r g hg).trans<|HY 1 _ rfl,(As<|r g hg).trans<|HY 2 _ rfl,(As<|r g hg).trans<|HY 3 _ rfl,(As<|r g hg).trans<|HY 4 _ rfl,(As<|r g hg).trans<|HY 5 _ rfl,(As<|r g hg).trans<|HY 6 _ rfl,(As<|r g hg).trans (HY 7 _ rfl) with⟨y0,y1,y2,y3,y4,y5,y6,y7⟩;simp only[Aaw]at y0;have aj:=O (SM.GA hM (t:=t) (W:=wr) ht rfl (λb h _=>r b h) ⟨o.os.trans<|ah.os.trans C.os,o.tape.trans<|ah.tape.trans C.tape,o.output.trans<|ah.output.trans C.output,om⟩ 0 (Hx ⟨N9,.slice E (AA s.F j (s.T t).V k).n I,.slice M (AA s.F j (s.T t).V k).m P,.slice Q (AA s.F j (s.T t).V k).x R⟩ ⟨-1,0,(s.T t).V,AA s.F j (s.T t).V k⟩) (h':=⟨N9,.slice E (AA s.F j (s.T t).V k).n I,.slice M (AA s.F j (s.T t).V k).m P,.slice Q (AA s.F j (s.T t).V k).x R⟩) (t':=⟨-1,0,(s.T t).V,AA s.F j (s.T t).V k⟩) (by simp[Hx]) (λq=>by
    by_cases e:q<8
    .rw[C3 (by simp[Hx];omega),Nat.sub_zero]
    .rw[Cs (by simp[Hx];omega),List.getElem?_eq_none (by simp[Hx];omega),List.getElem?_eq_none (by simp[Hx];omega)]) (NB _ _ _ _) A.log A.ints A.index A.ap (by
    rintro q (e|e)
    .cases e
    rcases o.sub q e with e'|e'
    .rcases e' with e'|e'|e'<;>cases e'
    exact .inr om))
   have bd:=a g om om;have bf:=a c om om;have Z:VF c (w.heap.size+1) g s.nt cp (.slice E (AA s.F j (s.T t).V k).n I) (.slice M (AA s.F j (s.T t).V k).m P) (.slice Q (AA s.F j (s.T t).V k).x R) (AA s.F j (s.T t).V k) wr.drew:=⟨(As bf).trans<|oT ah b1 z1,A.c0,A.c1,A.c2,A.c3,A.c4,A.c5⟩;have cc:Hid<|∀q,wr.frozen? (G g q)=false:=O λq=>(It bd).trans<|o7 ah (by show g<W.heap.size;omega)<|b4 q;have cr:=z cc;have cd:c≠g:=λe=>hM.Bg hM.t oo<|qi e;obtain⟨W8,ar⟩:∃W8:World,W8=((((((((wr.setCell (G g<|t*8)<|J (-1)).setCell (G g<|t*8+1) N9).setCell (G g<|t*8+2)<|.slice E (AA s.F j (s.T t).V k).n I).setCell (G g<|t*8+3)<|.slice M (AA s.F j (s.T t).V k).m P).setCell (G g<|t*8+4)<|.slice Q (AA s.F j (s.T t).V k).x R).setCell (G g<|t*8+5)<|J (AA s.F j (s.T t).V k).used).setCell (G g<|t*8+6)<|J (AA s.F j (s.T t).V k).live).setCell (G g<|t*8+7)<|J (AA s.F j (s.T t).V k).turns):=⟨_,rfl⟩;have S:∀b,b≠g->W8.heap[b]?=wr.heap[b]?:=λb hb=>by
    rw[ar];iterate 8 rw[At _ _ _ _ (by exact hb)]
   have cg:Hid<|VF c (w.heap.size+1) g s.nt cp (.slice E (AA s.F j (s.T t).V k).n I) (.slice M (AA s.F j (s.T t).V k).m P) (.slice Q (AA s.F j (s.T t).V k).x R) (AA s.F j (s.T t).V k) W8.drew:=O ⟨(As<|S c cd).trans Z.1,(As<|S (w.heap.size+1) om).trans A.c0,(As<|S (w.heap.size+1) om).trans A.c1,(As<|S (w.heap.size+1) om).trans A.c2,(As<|S (w.heap.size+1) om).trans A.c3,(As<|S (w.heap.size+1) om).trans A.c4,(As<|S (w.heap.size+1) om).trans A.c5⟩;have ag:Hid<|SM W8 c B (S9 fb s.nf fc) (S9 g s.nt cp) vS (AX H t ⟨N9,.slice E (AA s.F j (s.T t).V k).n I,.slice M (AA s.F j (s.T t).V k).m P,.slice Q (AA s.F j (s.T t).V k).x R⟩) (BM s t ⟨-1,0,(s.T t).V,AA s.F j (s.T t).V k⟩)/\BI (Bo c (S9 fb s.nf fc) (S9 g s.nt cp) vS H s.nt) w (Bo c (S9 fb s.nf fc) (S9 g s.nt cp) vS (AX H t ⟨N9,.slice E (AA s.F j (s.T t).V k).n I,.slice M (AA s.F j (s.T t).V k).m P,.slice Q (AA s.F j (s.T t).V k).x R⟩) s.nt) W8:=O (by rw[ar];exact aj);have ch:=O ar;clear A o a bd bf r S ar aj;go_wp2_with fail;refine GH (VF c (w.heap.size+1) g s.nt cp (.slice E (AA s.F j (s.T t).V k).n I) (.slice M (AA s.F j (s.T t).V k).m P) (.slice Q (AA s.F j (s.T t).V k).x R)<|AA s.F j (s.T t).V k) ?_;refine tz 0 (h:=tz 1 (h:=tz 2 (h:=tz 3 (h:=tz 4 (h:=tz 5 (h:=tz 6 (h:=tz 7 (h:=?_))))))));refine ry 8 λK hK=>?_;go_simp;rw[<-z ch];refine hK.out _ _ cg λ_=>?_;clear hK K Z;refine FE ?_;go_wp2;go_end0;rw[z ai];exact⟨⟨_,rfl⟩,_,ag.1.keep λ_ _=>rfl,ag.2.os,ag.2.tape,ag.2.output,ag.2.size,ag.2.block,ag.2.own⟩
  have bg:k<(s.T t).nv:=oS<|z ai;obtain⟨f1,f2,f3,f4,f5⟩:=z ax k bg;have U:=z a8 k om;obtain⟨vb,rfl,ct⟩:∃vb,va=some (G vb 0)/\vb<w.heap.size:=by
   obtain⟨hl,⟨hv,h0⟩|⟨g,cp,cur,hv,_,ay,_⟩⟩:=id au
   .omega
   cases hv;exact⟨_,rfl,Ah ay⟩
  obtain⟨e0,e1,e2,e3,e4⟩:=Cc.at b8 bg;have bh:=a w.heap.size om om;have bj:=a vb om om;have Z:=G4.of (W:=w1) ⟨y1,e0,e1,e2,e3,e4⟩ bh bj;have q0:wr.cell? (G m' k)=some (.string<|DG s.F j k):=(As<|a m' b6 om).trans<|World.rowIs.cell b9 ca;have cu:m'<wr.heap.size:=om;have af:Hid<|∀w2,B9 wr w2->C9 127 #[Q9 (w.heap.size+1),V 4 0 0 (DG s.F j k) 0,Hc ((s.T t).V k)] w2 λe w3=>((∃u,e=.returned u)/\∃a0 a1 a2,AR w3 (w.heap.size+1) 0 B a0 a1 a2 (AA s.F j (s.T t).V<|k+1)/\C6 (w.heap.size+1) 0 N9 N9 N9 w1 a0 a1 a2 w3)/\G4 w.heap.size vb (s.T t).nv vc k ((s.T t).V k) w3:=O (λw2 h2=>by
   refine(O8 Ch ((s.T t).V k) (A.below h2) (U.ls.inv.small (by rw[U.m];omega)) U.ls.inv.i0 U.ls.inv.next X1 f2 f2.1 f3 f4 f5 (by rw[U.live];omega) (by rw[U.turns];omega) (by rw[U.m];omega)).mono ?_;rintro e w3 ⟨hu,a0,a1,a2,av,aw⟩;have hS:=(o.trans (C6.Ax h2 om)).trans aw;have bk:∀b,b<w1.heap.size->b≠w.heap.size+1->w3.heap[b]?=w1.heap[b]?:=λb h1 h2=>hS.block b h1 h2 (by rintro(e|e|e)<;>cases e);exact⟨⟨hu,a0,a1,a2,by rw[f1];exact av,hS⟩,G4.of (W:=w1) ⟨y1,e0,e1,e2,e3,e4⟩ (bk _ om om) (bk _ om om)⟩)
  clear A o a U f1 f2 f3 f4 f5 e0 e1 e2 e3 e4 bh bj;go_wp2_with fail;have Z:G4 w.heap.size vb (s.T t).nv vc k ((s.T t).V k) wr.drew:=Z;refine GH (G4 w.heap.size vb (s.T t).nv vc k<|(s.T t).V k) ?_;refine tz 0 (h:=tz 2 (h:=tz 3 (h:=tz 4 (h:=tz 5 (h:=tz 6 (h:=?_))))));refine ry 1 λK hK=>?_;go_simp;refine m9 (cZ (DG s.F j k) _) λw2 X=>?_;have ak:B9 wr w2:=⟨X.os,X.tape,X.output,X.size,λk hk=>X.block k hk⟩;have bm:=Z.of (X.block _<|by show w.heap.size<wr.heap.size;omega)<|X.block _ (by show vb<wr.heap.size;omega);have bn:=O<|af w2 ak;refine hK.out _ _ bm λ_=>?_;clear hK K Z af X ak;refine ry 7 λK hK=>?_;go_simp;refine bn.mono ?_;rintro e w3 ⟨⟨⟨uu,rfl⟩,a0,a1,a2,av,aw⟩,bp⟩;refine hK.out _ _ bp λ_=>?_;clear hK K bp bm bn;refine FE ?_;go_wp2;go_roundw
  .exact⟨k+1,a0,a1,a2,om,ov,av,aw⟩
  exact ow
def cY(KL:KeyLaw K hf){c o B}{v0 v1 v2}{d}p{w}(hM:AR w c o B v0 v1 v2 d)(hS:Small d)(hI:BK K hf d)(hN:Next d)(hh:∀v,K v->YA v (hf v))(hp:p<d.n)(br:(d.L p).turn≠0):
  C9 128 #[Pc c o,J p] w λe w'=>((∃u,e=.returned u)/\∃u0 u1 u2,AR w' c o B u0 u1 u2 (aO hf d p)/\C6 c o v0 v1 v2 w u0 u1 u2 w'):=by
 obtain⟨g,r,rfl,dv,dw,dx,U,ag⟩:=hM.log.form om;rcases U p hp,hS.n,hS.m,hI.le with⟨⟨p0,p1,p2,p3,p4,_,_,_,_,_,_⟩,hn,hm,dq⟩;have dr:0<=d.live:=oS hI.log.CP;have dy:g≠c:=λe=>hM.nc<|.inl (by rw[<-e];rfl);obtain⟨k,hk⟩:=o9<|(d.L p).key;rw[<-hk]at p0 p1 p2 p3 p4;have hK:K k:=by rw[hk];exact hI.keys p hp br
 obtain⟨W,hW,bt,_⟩:=JZ w<|.cells (qf k) 43;have bk:Tl W c (S9 g d.n r) v1 v2 w.heap.size k:=⟨⟨by rw[hW];simp,by rw[hW];simp[go_sem],by rw[hW];simp[go_sem],by rw[hW];simp[go_sem],by rw[hW];simp[go_sem],by rw[hW];simp[go_sem]⟩,λe=>oS hM.lt,λe=>oS (hM.WC e).2⟩;rcases hM.c0,hM.lt,hM.below bt with⟨c0,R,A⟩;have cm:C6 c o (S9 g d.n r) v1 v2 w (S9 g d.n r) v1 v2 W:=C6.Ax bt hM.lt;rcases O hh,O hK,O br,A.ints.at,A.index.at with⟨HH,HK,ah,⟨ia,ic,e1,b7⟩,⟨xa,xc,e2,b8⟩⟩;have cn:Hid (0<d.m->∃g r,v1=S9 g d.m r):=O (λh=>by obtain⟨g,r,h,_⟩:=A.ints.form h;exact⟨g,r,h⟩);have cq:Hid (0<d.x->∃g r,v2=S9 g d.x r):=O (λh=>by obtain⟨g,r,h,_⟩:=A.index.form h;exact⟨g,r,h⟩);have b9:Hid<|H9 W c o (some<|G g 0) r ia ic xa xc d:=O ⟨A.lt,A.c0,by rw[(z A).c1,e1],by rw[(z A).c2,e2],A.c3,A.c4,A.c5,by obtain⟨a,r,e,h⟩:=A.log.at;cases e;exact h,b7,b8⟩;subst e1 e2;have ai:=O hk;clear hM bt hh hK br b7 b8 U ag hk;go_enter func128,ntmps128;go_wp2_with fail;rw[<-hW];obtain⟨bl,k0,k1,k2,k3,k4⟩:=bk.box;refine m9 (GQ k b9 hS) λw1 bu=>?_;have af:C6 c o (S9 g d.n r) (.slice ia d.m ic) (.slice xa d.x xc) W (S9 g d.n r) (.slice ia d.m ic) (.slice xa d.x xc) w1:=C6.Ax bu A.lt;rcases A.below bu,cm.trans af,bk.step af,b9.below bu with⟨S,ca,a8,cr⟩;rcases a8.box,S.lt,S.c1,S.c2 with⟨⟨bl,k0,k1,k2,k3,k4⟩,R,c1,c2⟩;by_cases hs:Ay d.m k
 .rw[Al hs];have HR:Hid<|GL hf d p=goSmall d p:=O<|JC (by rw[<-z ai];exact hs);obtain⟨s1,s2,s3⟩:=hs;obtain⟨q,hq⟩:∃q:Nat,k.num=(q:Int)+1:=⟨(k.num-1).toNat,om⟩;have cb:q<d.m:=om;have ct:((d.L p).key.num-1).toNat=q:=by rw[<-z ai,hq];omega
  obtain⟨C,dz,eg⟩:=z cn om;cases eg;obtain⟨g',ak,D,cu,cv,b2,hcs,ag⟩:=S.ints.form om;cases D;have e0:=hcs q cb;have f0:=ag q;have cc:C≠c:=λe=>S.nc<|.inr<|.inl (by rw[<-e];rfl);have dC:IntKind.i64.wrap (q:Int)=q:=oj;have cw:=S.ZC cb 0;have b3:C6 c o (S9 g d.n r) (S9 C d.m ic) (.slice xa d.x xc) w1 (S9 g d.n r) (S9 C d.m ic) (.slice xa d.x xc)<|w1.setCell (G C q)<|J 0:=Fo (q:=q) (J 0) (.inr<|.inl rfl) cc;obtain⟨W2,bj⟩:=o9<|(w1.setCell (G C q)<|J 0).drew;have cx:AR W2 c o B (S9 g d.n r) (S9 C d.m ic) (.slice xa d.x xc) {d with I:=AV d.I q 0}:=by rw[bj];exact cw.below (BE _ _).drew
  have bw:=ca.trans<|b3.trans<|C6.Ax (BE _ _).drew (by simpa using R);rw[<-bj]at bw;have T:=O cx;have bx:=O bw;rw[hq]at k1;go_wp2_with fail
  go_region
  rw[<-bj];clear bj e0 f0 c1 c2 R bl k0 k1 k2 k3 k4;have c1:=T.c1;have R:=T.lt;obtain⟨g',ak,D,cu,cv,b2,hcs,ag⟩:=T.ints.form (by show 0<d.m;omega);cases D;have hcs:∀i,i<d.m->W2.cell? (G C i)=some (J<|AV d.I q 0 i):=hcs;have bm:=O hcs;clear hcs ag;go_wp2_with fail;go_loopw [5] (λa wr=>∃j:Nat,a=J (j:Int)/\j<=d.m/\shrink (AV d.I q 0) d.m=shrink (AV d.I q 0) j/\wr=W2) λa _=>(intOf a).toNat
  .exact⟨d.m,rfl,Be _,rfl,rfl⟩
  obtain⟨j,rfl,hj,cd,rfl⟩:=hrel;by_cases bz:∃i,j=i+1/\AV d.I q 0 i=0
  .obtain⟨i,rfl,hz⟩:=bz;have e0:=z bm i om;rw[hz]at e0;have ao:=O<|cd.trans<|Js hz;go_wp2;go_roundw
   .exact⟨i,ov,om,ao,by first|rfl|trivial⟩
   simp[intOf]
  have ao:Hid<|shrink (AV d.I q 0) d.m=j:=O (by
   rw[cd];cases j with
   |zero=>rfl
   |succ i=>exact Jr (λe=>bz ⟨i,rfl,e⟩))
  have b0:Hid<|∀(Q:Prop),(j=0->Q)->(∀i,j=i+1->AV d.I q 0 i≠0->Q)->Q:=O (λQ h1 h2=>by
   cases j with
   |zero=>exact h1 rfl
   |succ i=>exact h2 i rfl (λe=>bz ⟨i,rfl,e⟩))
  have cy:=AR.SR T (Bq.cut T.ints hj) (λe=>cc<|ownB e) λq' e e'=>T.ap q' (by rw[<-ownB e];rfl) e';have bn:=bx.trans<|Df (o:=o) (v0:=S9 g d.n r) (v1:=S9 C d.m ic) (v2:=.slice xa d.x xc) (u0:=S9 g d.n r) (u1:=S9 C j ic) (u2:=.slice xa d.x xc) (w:=wr) (q:=o+1) (S9 C j ic) om λb e=>.inl<|e.elim .inl λe=>e.elim (λe=>.inr<|.inl<|by rw[<-ownB e];rfl) λe=>.inr<|.inr e;have l:=O cy;have bp:=O bn;have aj:Hid<|GL hf d p={d with I:=AV d.I q 0,m:=j,L:=AV d.L p default,live:=d.live-1}:=O (by
   rw[z HR];unfold goSmall;rw[ct,z ao];rfl)
  have bq:Hid<|(GL hf d p).m<=d.m:=O (by rw[z aj];exact hj);have dU:=T.fz<|o+1;refine b0 _ (λcz=>?_) λi cD hz=>?_
  .clear b0 ao bm;subst cz;obtain⟨g',ak,D,bb,bc,bd,U,f⟩:=l.log.form (by show 0<d.n;omega);cases D;rcases U p hp,f<|p*11,f<|p*11+1,f<|p*11+2,f<|p*11+3,f<|p*11+4,f<|p*11+5,f<|p*11+6,f<|p*11+7,f<|p*11+8,f<|p*11+9,f<|p*11+10,l.c0 with⟨⟨y0,y1,y2,y3,y4,y5,y6,y7,y8,y9,cg⟩,z0,z1,z2,z3,z4,z5,z6,z7,z8,z9,ch,c0⟩;have c4:(wr.setCell (G c<|o+1)<|S9 C 0 ic).cell? (G c<|o+4)=some (J d.live):=l.c4;rcases l.fz (o+4),l.lt,AR.kill (d:={d with I:=AV d.I q 0,m:=0}) l hp with⟨f4,R,⟨aq,DB⟩⟩;have ar:=AR.IC aq<|d.live-1;have au:=(bp.trans DB).trans<|Df (o:=o) (v0:=S9 g d.n r) (q:=o+4) (J<|d.live-1) om λb e=>.inl e;have Z:AR ((Hu g (wr.setCell (G c<|o+1)<|S9 C 0 ic) (p*11+0)<|Dl default).setCell (G c<|o+4)<|J<|d.live-1) c o B (S9 g d.n r) (S9 C 0 ic) (.slice xa d.x xc)<|GL hf d p:=by rw[z aj];exact ar
   obtain⟨Y,E⟩:=o9<|((((((((((((wr.setCell (G c<|o+1)<|S9 C 0 ic).setCell (G g<|p*11)<|J 0).setCell (G g<|p*11+1)<|J 0).setCell (G g<|p*11+2)<|F9 0).setCell (G g<|p*11+3) E9).setCell (G g<|p*11+4)<|J 0).setCell (G g<|p*11+5)<|J 0).setCell (G g<|p*11+6)<|J 0).setCell (G g<|p*11+7)<|F9 0).setCell (G g<|p*11+8) E9).setCell (G g<|p*11+9)<|J 0).setCell (G g<|p*11+10)<|J 0).setCell (G c<|o+4)<|J<|d.live-1;have av:AR Y c o B (S9 g d.n r) (S9 C 0 ic) (.slice xa d.x xc)<|GL hf d p:=by rw[E];exact Z
   have aw:C6 c o (S9 g d.n r) (S9 C d.m ic) (.slice xa d.x xc) w (S9 g d.n r) (S9 C 0 ic) (.slice xa d.x xc) Y:=by rw[E];exact au
   have t:=(Ff KL hI hN hp ah).1;rcases O t.core,t.sz,(Ff KL hI hN hp ah).2.2.1,z bq with⟨ax,ay,az,cj⟩;have aM:Hid<|Small<|GL hf d p:=O ⟨by rw[az];exact hn,om,by unfold GJ at ay;omega⟩;go_wp2_with fail;rw[<-E];refine(Fg hf av aM ax HH).mono ?_;rintro e ck ⟨⟨u,rfl⟩,t0,t2,H,M⟩;have ad:=O H;have ae:=aw.trans M;clear H M;go_wp2;go_end0;exact⟨⟨_,rfl⟩,_,_,_,ad,ae⟩
  have e0:=z bm i om;have ea:(AV d.I q 0 i==0)=false:=by simp[hz]
  have dt:(j:Int)-1=(i:Int):=om;clear b0 ao bm cD hz;obtain⟨g',ak,D,bb,bc,bd,U,f⟩:=l.log.form (by show 0<d.n;omega);cases D;rcases U p hp,f<|p*11,f<|p*11+1,f<|p*11+2,f<|p*11+3,f<|p*11+4,f<|p*11+5,f<|p*11+6,f<|p*11+7,f<|p*11+8,f<|p*11+9,f<|p*11+10,l.c0 with⟨⟨y0,y1,y2,y3,y4,y5,y6,y7,y8,y9,cg⟩,z0,z1,z2,z3,z4,z5,z6,z7,z8,z9,ch,c0⟩;have c4:(wr.setCell (G c<|o+1)<|S9 C j ic).cell? (G c<|o+4)=some (J d.live):=l.c4;rcases l.fz (o+4),l.lt,AR.kill (d:={d with I:=AV d.I q 0,m:=j}) l hp with⟨f4,R,⟨aq,DB⟩⟩;have ar:=AR.IC aq<|d.live-1;have au:=(bp.trans DB).trans<|Df (o:=o) (v0:=S9 g d.n r) (q:=o+4) (J<|d.live-1) om λb e=>.inl e;have Z:AR ((Hu g (wr.setCell (G c<|o+1)<|S9 C j ic) (p*11+0)<|Dl default).setCell (G c<|o+4)<|J<|d.live-1) c o B (S9 g d.n r) (S9 C j ic) (.slice xa d.x xc)<|GL hf d p:=by rw[z aj];exact ar
  obtain⟨Y,E⟩:=o9<|((((((((((((wr.setCell (G c<|o+1)<|S9 C j ic).setCell (G g<|p*11)<|J 0).setCell (G g<|p*11+1)<|J 0).setCell (G g<|p*11+2)<|F9 0).setCell (G g<|p*11+3) E9).setCell (G g<|p*11+4)<|J 0).setCell (G g<|p*11+5)<|J 0).setCell (G g<|p*11+6)<|J 0).setCell (G g<|p*11+7)<|F9 0).setCell (G g<|p*11+8) E9).setCell (G g<|p*11+9)<|J 0).setCell (G g<|p*11+10)<|J 0).setCell (G c<|o+4)<|J<|d.live-1;have av:AR Y c o B (S9 g d.n r) (S9 C j ic) (.slice xa d.x xc)<|GL hf d p:=by rw[E];exact Z
  have aw:C6 c o (S9 g d.n r) (S9 C d.m ic) (.slice xa d.x xc) w (S9 g d.n r) (S9 C j ic) (.slice xa d.x xc) Y:=by rw[E];exact au
  have t:=(Ff KL hI hN hp ah).1;rcases O t.core,t.sz,(Ff KL hI hN hp ah).2.2.1,z bq with⟨ax,ay,az,cj⟩;have aM:Hid<|Small<|GL hf d p:=O ⟨by rw[az];exact hn,om,by unfold GJ at ay;omega⟩;go_wp2_with fail;rw[<-E];refine(Fg hf av aM ax HH).mono ?_;rintro e ck ⟨⟨u,rfl⟩,t0,t2,H,M⟩;have ad:=O H;have ae:=aw.trans M;go_wp2;go_end0;exact⟨⟨_,rfl⟩,_,_,_,ad,ae⟩
 rw[Ae hs];obtain⟨s,cl,bw,bn⟩:=hI.found KL HK ⟨hp,ah,by rw[<-z ai];exact hs⟩ (by rw[<-z ai];exact KL.refl _ HK);have HR:=O<|K5 (by rw[<-z ai];exact hs) (by rw[<-z ai];exact bn);obtain⟨P,eb,eg⟩:=z cq om;cases eg;obtain⟨g',ak,D,ec,cN,du,hcs,ag⟩:=S.index.form om;cases D;have e0:=hcs s cl;have f0:=ag s;have b1:P≠c:=λe=>S.nc<|.inr<|.inr (by rw[<-e];rfl);have ef:c≠P:=λe=>b1 e.symm;have c6:w.heap.size≠P:=λe=>a8.no<|.inr<|.inr<|qi e;have a6:P≠w.heap.size:=λe=>c6 e.symm;have bh:Hid (∀W:World,H9 W c o (some<|G g 0) r ia ic (some<|G P 0) xc d->C9 130 #[Pc c o,V k.kind k.num k.Af k.str k.ref] W (R9 (J (s:Int)) W)):=O (λW hP=>by
  have h:=Kv hP hS hI.d4 (HH k HK);rw[bn]at h;exact h)
 rcases S.below (BE _ _).drew,ca.trans<|C6.Ax (BE _ _).drew R,cr.below (BE _ _).drew with⟨b4,b5,b6⟩;have c7:w1.drew.cell? (G c<|o+2)=some (S9 P d.x xc):=c2;have c8:w1.drew.cell? (y w 0)=some (J k.kind):=k0;have c9:w1.drew.cell? (y w 1)=some (J k.num):=k1;have da:w1.drew.cell? (y w 2)=some (F9 k.Af):=k2;have dc:w1.drew.cell? (y w 3)=some (.string k.str):=k3;have dd:w1.drew.cell? (y w 4)=some (J k.ref):=k4;have bf:c<w1.drew.heap.size:=R;have a7:w.heap.size<w1.drew.heap.size:=bl;have bg:P<w1.drew.heap.size:=cN;have df:=O<|show w1.drew.cell? (G P s)=some (J<|d.X s)from e0;have dh:=O<|show w1.drew.frozen? (G P s)=false from f0;go_wp2_with fail
 go_region_held3 (λw'=>w'.cell? (G c<|o+2)=some (S9 P d.x xc)/\w'.cell? (y w 0)=some (J k.kind)/\w'.cell? (y w 1)=some (J k.num)/\w'.cell? (y w 2)=some (F9 k.Af)/\w'.cell? (y w 3)=some (.string k.str)/\w'.cell? (y w 4)=some (J k.ref)) (first|(with_reducible exact⟨ol,ol,ol,ol,ol,ol⟩)|(exact⟨(Ap b1).trans di,(Ap a6).trans dj,(Ap a6).trans dk,(Ap a6).trans dm,(Ap a6).trans dn,(Ap a6).trans dp⟩)|go_keep)
  (first|(go_at_call 130;refine(bh _ b6).mono ?_;rintro e w2 ⟨rfl,F⟩;have di:=oT F bf c7;have dj:=oT F a7 c8;have dk:=oT F a7 c9;have dm:=oT F a7 da;have dn:=oT F a7 dc;have dp:=oT F a7 dd;have e0:=oT F bg df;have f0:=o7 F bg dh;have T:=O<|b4.below F;have bx:=O<|b5.trans<|C6.Ax F bf;clear F))
 have l:=T.UM cl (-1);have bp:=bx.trans<|Fo (o:=o) (v0:=S9 g d.n r) (v1:=.slice ia d.m ic) (v2:=S9 P d.x xc) (q:=s) (J (-1)) (.inr<|.inr rfl) b1;have aj:Hid<|GL hf d p={d with X:=AV d.X s (-1),L:=AV d.L p default,live:=d.live-1}:=O<|qh HR;have bq:Hid<|(GL hf d p).m<=d.m:=O (by rw[z aj];exact Be _);obtain⟨g',ak,D,bb,bc,bd,U,f⟩:=l.log.form (by show 0<d.n;omega);cases D;rcases U p hp,f<|p*11,f<|p*11+1,f<|p*11+2,f<|p*11+3,f<|p*11+4,f<|p*11+5,f<|p*11+6,f<|p*11+7,f<|p*11+8,f<|p*11+9,f<|p*11+10,l.c0 with⟨⟨y0,y1,y2,y3,y4,y5,y6,y7,y8,y9,cg⟩,z0,z1,z2,z3,z4,z5,z6,z7,z8,z9,ch,c0⟩;have c4:(w2.setCell (G P s)<|J (-1)).cell? (G c<|o+4)=some (J d.live):=l.c4;rcases l.fz (o+4),l.lt,AR.kill (d:={d with X:=AV d.X s (-1)}) l hp with⟨f4,R,⟨aq,DB⟩⟩;have ar:=AR.IC aq<|d.live-1;have au:=(bp.trans DB).trans<|Df (o:=o) (v0:=S9 g d.n r) (q:=o+4) (J<|d.live-1) om λb e=>.inl e;have Z:AR ((Hu g (w2.setCell (G P s)<|J (-1)) (p*11+0)<|Dl default).setCell (G c<|o+4)<|J<|d.live-1) c o B (S9 g d.n r) (.slice ia d.m ic) (S9 P d.x xc)<|GL hf d p:=by rw[z aj];exact ar
 obtain⟨Y,E⟩:=o9<|((((((((((((w2.setCell (G P s)<|J (-1)).setCell (G g<|p*11)<|J 0).setCell (G g<|p*11+1)<|J 0).setCell (G g<|p*11+2)<|F9 0).setCell (G g<|p*11+3) E9).setCell (G g<|p*11+4)<|J 0).setCell (G g<|p*11+5)<|J 0).setCell (G g<|p*11+6)<|J 0).setCell (G g<|p*11+7)<|F9 0).setCell (G g<|p*11+8) E9).setCell (G g<|p*11+9)<|J 0).setCell (G g<|p*11+10)<|J 0).setCell (G c<|o+4)<|J<|d.live-1;have av:AR Y c o B (S9 g d.n r) (.slice ia d.m ic) (S9 P d.x xc)<|GL hf d p:=by rw[E];exact Z
 have aw:C6 c o (S9 g d.n r) (.slice ia d.m ic) (S9 P d.x xc) w (S9 g d.n r) (.slice ia d.m ic) (S9 P d.x xc) Y:=by rw[E];exact au
 have t:=(Ff KL hI hN hp ah).1;rcases O t.core,t.sz,(Ff KL hI hN hp ah).2.2.1,z bq with⟨ax,ay,az,cj⟩;have aM:Hid<|Small<|GL hf d p:=O ⟨by rw[az];exact hn,om,by unfold GJ at ay;omega⟩;go_wp2_with fail;rw[<-E];refine(Fg hf av aM ax HH).mono ?_;rintro e ck ⟨⟨u,rfl⟩,t0,t2,H,M⟩;have ad:=O H;have ae:=aw.trans M;go_wp2;go_end0;exact⟨⟨_,rfl⟩,_,_,_,ad,ae⟩
def Zj(R:KeyLaw K hf){c o B}{v0 v1 v2}{d}{k}(v){w}(I:AR w c o B v0 v1 v2 d)(P:Small d)(A:Inv K hf d)(hh:∀v,K v->YA v (hf v))
  (hk:K k) (S:BP k=true) (hv:v.ok=true) (T:d.m<=4000000):
  C9 89 #[Pc c o,V k.kind k.num k.Af k.str k.ref,V v.kind v.num v.Af v.str v.ref] w λe w'=>((∃u,e=.returned u)/\∃u0 u1 u2,AR w' c o B u0 u1 u2 (B2 hf d k v)/\C6 c o v0 v1 v2 w u0 u1 u2 w'):=by
 have D:B9 w<|(w.alloc<|.cells (qf k) 43).alloc<|.cells (qf v) 43:=(n9).alloc oq _;obtain⟨W,f⟩:=o9<|(w.alloc<|.cells (qf k) 43).alloc<|.cells (qf v) 43;rw[<-f]at D;have E:=I.below D;have bk:Tl W c v0 v1 v2 w.heap.size k:=⟨⟨by rw[f];simp;omega,by rw[f];simp[go_sem],by rw[f];simp[go_sem],by rw[f];simp[go_sem],by rw[f];simp[go_sem],by rw[f];simp[go_sem]⟩,λe=>oS I.lt,λe=>oS (I.WC e).2⟩;have bv:Tl W c v0 v1 v2 (w.heap.size+1) v:=⟨⟨by rw[f];simp,by rw[f];simp[go_sem],by rw[f];simp[go_sem],by rw[f];simp[go_sem],by rw[f];simp[go_sem],by rw[f];simp[go_sem]⟩,λe=>oS I.lt,λe=>oS (I.WC e).2⟩;have U:C6 c o v0 v1 v2 w v0 v1 v2 W:=C6.Ax D I.lt;obtain⟨la,lc,ia,ic,xa,xc,e0,e1,e2,hP⟩:=E.ptr;subst e0 e1 e2;have hn:=P.n;have aj:=A.i0.le;have ak:0<=d.live:=oS A.i0.log.CP;rcases A.i0.turns,O hh,O (ql hk<|ql S hv) with⟨ao,X,HK⟩;go_enter func89,ntmps89;go_wp2_with fail;rw[<-f];obtain⟨bl,k0,k1,k2,k3,k4⟩:=bk.box;refine m9 (Jg hP P A.i0.d3 A.i0.d4<|X k HK.1) λw1 L=>?_;have p:C6 c o (.slice la d.n lc) (.slice ia d.m ic) (.slice xa d.x xc) W (.slice la d.n lc) (.slice ia d.m ic) (.slice xa d.x xc) w1:=C6.Ax L E.lt;rcases E.below L,U.trans p,bv.step p,(z<|bk.step p).box with⟨a,l,C,⟨bl,k0,k1,k2,k3,k4⟩⟩;rcases C.box,a.c0,a.c4,a.c5 with⟨⟨aq,q0,q1,q2,q3,q4⟩,c0,c4,c5⟩;rcases z (O<|A.i0.place R hk)with⟨i,hi,Z,ar,q⟩|⟨ad,q⟩
 .rw[q];by_cases b:v.kind=0
  .have r:Hid<|B2 hf d k v=aO hf d i:=O (by rw[Ll om b,q];rfl);have s:(v.kind==0)=true:=by simp[b]
   go_wp2_with fail
   refine(cY R i a P A.i0 A.next X hi<|z<|O Z).mono ?_;rintro e w2 ⟨⟨u,rfl⟩,t0,t1,t2,F,H⟩;have ae:=O F;have af:=l.trans H;go_wp2;go_end0;exact⟨⟨_,rfl⟩,_,_,_,by rw[z r];exact ae,af⟩
  have r:Hid<|B2 hf d k v=Ht d i v:=O (by rw[Jl om b,q];rfl);have s:(v.kind==0)=false:=by simp[b]
  obtain⟨g,cp,eg,au,av,aw,ag,t⟩:=a.log.form om;cases eg;rcases ag i hi,t<|i*11+5,t<|i*11+6,t<|i*11+7,t<|i*11+8,t (i*11+9) with⟨⟨_,_,_,_,_,y5,y6,y7,y8,y9,_⟩,z5,z6,z7,z8,z9⟩;have ax:g≠w.heap.size+1:=λe=>C.no<|.inl (by rw[<-e];rfl);obtain⟨h1,h2⟩:=a.uN hi v;go_wp2_with fail
  go_region
  go_wp2;go_end0;exact⟨⟨_,rfl⟩,_,_,_,by rw[z r];exact z<|h1.below (BE _ _).drew,z<|(l.trans h2).trans<|C6.Ax (BE _ _).drew h1.lt⟩
 rw[q];have M:¬0<=Av d k (hf k):=om;have j:=O M;by_cases b:v.kind=0
 .have r:=O<|Gu j λh=>h.1 b;have s:(v.kind !=0)=false:=by simp[b]
  go_wp2;go_end0;exact⟨⟨_,rfl⟩,_,_,_,by rw[z r];exact a,l⟩
 have s:(v.kind !=0)=true:=by simp[b]
 by_cases hl:d.live<500
 case neg=>
  have r:Hid<|B2 hf d k v=d:=O<|Gu j λh=>hl h.2.1;have ah:decide (d.live<500)=false:=ot;go_wp2;go_end0;exact⟨⟨_,rfl⟩,_,_,_,by rw[z r];exact a,l⟩
 have ah:decide (d.live<500)=true:=by simp[hl]
 by_cases Q:d.turns<1000000000000
 case neg=>
  have r:Hid<|B2 hf d k v=d:=O<|Gu j λh=>Q h.2.2;have ai:decide (d.turns<1000000000000)=false:=ot;go_wp2;go_end0;exact⟨⟨_,rfl⟩,_,_,_,by rw[z r];exact a,l⟩
 have ai:decide (d.turns<1000000000000)=true:=by simp[Q]
 have r:=O<|F3 j ⟨b,hl,Q⟩;go_wp2_with fail;refine(O8 R v a P A.i0 A.next X HK.1 HK.2.1 HK.2.2 (z<|O b) (z<|O ad) hl Q T).mono ?_;rintro e w2 ⟨⟨u,rfl⟩,t0,t1,t2,F,H⟩;go_wp2;go_end0;exact⟨⟨_,rfl⟩,_,_,_,by rw[z r];exact z<|O F,z<|l.trans H⟩
section
variable {w w' W:Y} {c B:Nat} {vF vT vS:V9} {H:Nat->Hs} {s:AL}
def SM.fH(h:SM w c B vF vT vS H s){t i a vc}(b:t<s.nt)(d:(H t).v=S9 a (s.T t).nv vc)(hi:i<(s.T t).nv)v:
  SM (Gy w a (i*5) v) c B vF vT vS H (BM s t<|FW (s.T t) i v)/\BI (Bo c vF vT vS H s.nt) w (Bo c vF vT vS H s.nt) (Gy w a (i*5) v):=by
 obtain⟨s1,s2,j,r⟩:=kS w a (i*5) v;have hb:(H t).v.ownBlock=some a:=qi d
 have nb:∀{e Z n:Nat} {u:V9} {xs:List Value},w.ownsRow B e Z u n xs->e≠43->∀g,u.ownBlock=some g->(Gy w a (i*5) v).heap[g]?=w.heap[g]?:=λm o g e=>Eh w a (i*5) v λe'=>Cm m (h.v t b) o e (by rw[e'];exact hb);have f:=h.v t b;rw[d]at f;have:=h.table (w':=Gy w a (i*5) v) b (h':=H t) (t':=FW (s.T t) i v) ⟨s1,s2,j,om⟩ (λk k1 k2 k3=>Eh w a (i*5) v λe=>k3<|.inl<|by rw[e];exact hb) (by
   have p:Tt (Gy w a (i*5) v) B vT s.nt H s.T:=Ab h.t<|nb h.t oo;rw[IG];unfold Tt;rw[Z4 (T':=s.T) (H':=H) (λq hq=>by
    by_cases e:q=t
    .subst e;rw[Ak];rfl
    rw[Aj _ _ e])]
   exact p) (by rw[d];exact Cc.Gy f hi v) (Ab (h.l t b) (nb (h.l t b) oo)) (Ab (h.i t b) (nb (h.i t b) oo)) (Ab (h.x t b) (nb (h.x t b) oo)) (h.ap t b) (λq e=>.inl e)
 rw[IG]at this;exact this
def SM.nO{j}(h:SM w c B (S9 j s.nf o) vT vS H s)(hb:Yy c j w w'){b' b n'}{f'}(hl:b'=j\/w.heap.size<=b')(hc:w'.cell? (G c 0)=some (S9 b' n' b))(p:EY w' B (S9 b' n' b) n' f'):
  SM w' c B (S9 b' n' b) vT vS H {s with nf:=n',F:=f'}/\BI (Bo c (S9 j s.nf o) vT vS H s.nt) w (Bo c (S9 b' n' b) vT vS H s.nt) w':=by
 have d:w'.heap[c]?=some (.cells #[S9 b' n' b,vT,vS] 42 (0,0)):=by
  rcases hb.box with e|⟨u,e⟩
  .have h1:=As (a:=G c 0) e;rw[hc,h.cells.1]at h1;cases h1;exact e.trans h.BB
  have h1:=e _ _ h.BB;have h2:w'.cell? (G c 0)=some u:=by simp[World.cell?,h1]
  grind [nf,Bo]
 have hk:∀{e Z n:Nat} {u:V9} {xs:List Value},w.ownsRow B e Z u n xs->e≠42->e≠142->∀g,u.ownBlock=some g->w'.heap[g]?=w.heap[g]?:=λm h1 h2 g e=>hb.block g (m.lt g e).2 (λe'=>h.Bg m h1<|by rw[<-e'];exact e) λe'=>Cm m h.f h2 e<|qi e';refine⟨⟨h.base,d,p,Ab h.t<|hk h.t oo oo,Ab h.si<|hk h.si oo oo,λi hi=>Ab (h.v i hi)<|hk (h.v i hi) oo oo,λi hi=>Ab (h.l i hi)<|hk (h.l i hi) oo oo,λi hi=>Ab (h.i i hi)<|hk (h.i i hi) oo oo,λi hi=>Ab (h.x i hi)<|hk (h.x i hi) oo oo,h.ap,h.ij⟩,⟨hb.os,hb.tape,hb.output,hb.size,λk k1 k2=>hb.block k k1 (λe=>k2<|.inl e) λe=>k2<|.inr<|.inl<|qi e,?_⟩⟩;rintro k (e|e|e)
 .exact .inl (.inl e)
 .have:b'=k:=oF e;rcases hl with h1|h1
  .exact .inl (.inr<|.inl<|by rw[<-this,h1];rfl)
  exact .inr om
 exact .inl<|.inr<|.inr e
def SM.fC(h:SM w c B vF vT vS H s){t g b}(a:t<s.nt)(d:vT=S9 g s.nt b)r:
  SM (w.setCell (G g<|t*8)<|J r) c B vF vT vS H (BM s t {s.T t with shape:=r})/\BI (Bo c vF vT vS H s.nt) w (Bo c vF vT vS H s.nt) (w.setCell (G g<|t*8)<|J r):=by
 have:=h.GA (W:=w) a d (λ_ _ _=>rfl) ⟨rfl,rfl,rfl,Be _⟩ 0 [J r] (h':=H t) (t':={s.T t with shape:=r}) oq (λj=>by
  rcases j with _|j
  .rfl
  rw[Cs oq];rfl) (h.v t a) (h.l t a) (h.i t a) (h.x t a) (h.ap t a) (λq e=>.inl e)
 rw[IG]at this;exact this
def SM.mR(h:SM w c B vF vT vS H s){t g m}(a:t<s.nt)(o:vT=S9 g s.nt m){x}(p:s.T t=x){u}{v}(hk:∀k,k<w.heap.size->(H t).v.ownBlock≠some k->W.heap[k]?=w.heap[k]?)(d:W.os=w.os/\W.tape=w.tape/\W.output=w.output/\w.heap.size<=W.heap.size)
  (hu:Cc W B u (x.nv+1)<|AX x.V x.nv v) (hq:∀q,u.ownBlock=some q->(H t).v.ownBlock=some q\/w.heap.size<=q):
  SM (W.setCell (G g<|t*8+1) u) c B vF vT vS (AX H t {H t with v:=u}) (BM s t {x with nv:=x.nv+1,V:=AX x.V x.nv v})/\BI (Bo c vF vT vS H s.nt) w (Bo c vF vT vS (AX H t {H t with v:=u}) s.nt) (W.setCell (G g<|t*8+1) u):=by
 subst p;have b:∀{e Z n:Nat} {u:V9} {xs:List Value},w.ownsRow B e Z u n xs->e≠43->∀q,u.ownBlock=some q->W.heap[q]?=w.heap[q]?:=λf r q e=>hk q (f.lt q e).2<|Cm f (h.v t a) r e;exact h.GA (W:=W) a o (λk k1 k2=>hk k k1 λe=>k2<|.inl e) d 1 [u] (h':={H t with v:=u}) (t':={s.T t with nv:=(s.T t).nv+1,V:=AX (s.T t).V (s.T t).nv v}) oq (λj=>by
  rcases j with _|_|j
  .rfl
  .rfl
  .rw[Cs oq];rfl) hu (Ab (h.l t a) (b (h.l t a) oo)) (Ab (h.i t a) (b (h.i t a) oo)) (Ab (h.x t a) (b (h.x t a) oo)) (h.ap t a) (λq e=>by
  rcases e with e|e
  .exact(hq q e).imp .inl id
  exact .inl (.inr e))
end
def mX{k}(h:Inv Ky hN d)(hk:Ky k):(FN d<|Av d k<|hN k).kind=0↔Av d k (hN k)<0:=by
 rcases h.i0.place Ch hk with⟨i,h1,h2,h3,h4⟩|⟨h1,h2⟩
 .have:=(h.entry<|Ij h1 h2).2.2.2;grind [Ky,hN,FN,Av]
 rw[h2];exact⟨λ_=>om,λ_=>rfl⟩
theorem bM{x}(h1:x.shape=-1)(h2:x.nv=0)k v:Ew x x.d k v={x with d:=B2 hN x.d k v}:=by
 grind [Ew,B2,hN]
theorem Yr s t:BM s t (s.T t)=s:=by
 unfold BM;rw[IG]
def U3 s t x Z:BM (BM s t x) t Z=BM s t Z:=by
 unfold BM;have:AX (AX s.T t x) t Z=AX s.T t Z:=by grind [BM,Ak,Aj]
 grind [BM,AX]
structure bC (s:AL) (t:Nat) (k v:Vl) (x:Tb):Prop where
 sh:x.shape=-1
 nv:x.nv=0
 inv:Inv Ky hN x.d
 m:x.d.m<=4000000
 yes:(Cb s.F (s.T t) k).kind=0->(x.d.live=500\/x.d.turns=1000000000000)->CB s t k v=5/\Cv s t k v=BM s t x
 no:¬((Cb s.F (s.T t) k).kind=0/\(x.d.live=500\/x.d.turns=1000000000000))->CB s t k v=0/\Cv s t k v=BM s t {x with d:=B2 hN x.d k v}
section
variable {s:AL} {t:Nat} {k v:Vl}
def Z2(f:LH s)(g:t<s.nt)(hk:Ky k)(hn:¬(v.kind=0/\(Cb s.F (s.T t) k).kind=0))(hs:(s.T t).shape<0):bC s t k v<|s.T t:=by
 have b:=f.t t g;rcases b.way with⟨e1,e2,c⟩|⟨j,e,_⟩
 .have h:Cb s.F (s.T t) k=FN (s.T t).d (Av (s.T t).d k<|hN k):=C3 hs;have a:=mX c hk;rw[<-h]at a;refine⟨e1,e2,c,b.m,λi h1=>?_,λi=>?_⟩;all_goals grind [Ky,Cb,B5,Ex,Av,hN,CB,Cv,Yr,BM,Ew,bM]
 omega
def Xf(c:LH s){j:Nat}(d:(s.T t).shape=j)(hj:j<s.nf)(e:(s.T t).nv=nf s.F j)(b:∀i,i<(s.T t).nv->J2 ((s.T t).V i)=true)(g:B5 s (s.T t) k v=.loose):bC s t k v ⟨-1,0,(s.T t).V,AA s.F j (s.T t).V (s.T t).nv⟩:=by
 have a:=F1 c.f hj (λi hi=>b i om) (s.T t).nv om;have hn:=Hn c.f hj;rcases a.live,a.turns,a.m with⟨h1,h2,h3⟩;refine⟨rfl,rfl,a.ls.inv,?_,λ_ h=>?_,λ_=>?_⟩
 .show(AA s.F j (s.T t).V (s.T t).nv).m<=_;omega
 .have h:(AA s.F j (s.T t).V (s.T t).nv).live=500\/(AA s.F j (s.T t).V (s.T t).nv).turns=1000000000000:=h;omega
 unfold CB Cv;rw[g];refine⟨rfl,?_⟩;show BM s t (Ew (s.T t) (AA s.F (s.T t).shape.toNat (s.T t).V (s.T t).nv) k v)=_;rw[d,Ok];rfl
end
def VG(a b:Nat)(sh:Int)(str:ByteArray)(W:Y):Prop:=W.cell? (G a 0)=some (J sh)/\W.cell? (G b 3)=some (.string str)
def F8(c a:Nat)(vT:V9)(v:Vl)(W:Y):Prop:=W.cell? (G c 1)=some vT/\W.cell? (G a 0)=some (J v.kind)/\W.cell? (G a 1)=some (J v.num)/\W.cell? (G a 2)=some (F9 v.Af)/\W.cell? (G a 3)=some (.string v.str)/\W.cell? (G a 4)=some (J v.ref)
def F8.keep{v}(h:F8 c a vT v W)(h1:W'.heap[c]?=W.heap[c]?)(h3:W'.heap[a]?=W.heap[a]?):F8 c a vT v W':=
 ⟨(As h1).trans h.1,(As h3).trans h.2.1,(As h3).trans h.2.2.1,(As h3).trans h.2.2.2.1,(As h3).trans h.2.2.2.2.1,(As h3).trans h.2.2.2.2.2⟩
def LQ(c g nt b t a:Nat)(u:V9)(v:Vl)(W:Y):Prop:=W.cell? (G c 1)=some (S9 g nt b)/\W.cell? (G g<|t*8+1)=some u/\W.cell? (G a 0)=some (J v.kind)/\W.cell? (G a 1)=some (J v.num)/\W.cell? (G a 2)=some (F9 v.Af)/\W.cell? (G a 3)=some (.string v.str)/\W.cell? (G a 4)=some (J v.ref)
def LQ.keep{nt}{u}{v}(h:LQ c g nt b t a u v W)(h1:W'.heap[c]?=W.heap[c]?)(h2:W'.heap[g]?=W.heap[g]?)(h3:W'.heap[a]?=W.heap[a]?):LQ c g nt b t a u v W':=
 ⟨(As h1).trans h.1,(As h2).trans h.2.1,(As h3).trans h.2.2.1,(As h3).trans h.2.2.2.1,(As h3).trans h.2.2.2.2.1,(As h3).trans h.2.2.2.2.2.1,(As h3).trans h.2.2.2.2.2.2⟩
def Rj t{k}v{w}(hM:SM w c B vF vT vS H s)(hG:LH s)(L:t<s.nt)(hk:Ky k)(hv:v.ok=true):
  C9 49 #[Q9 c,J t,Hc k,Hc v] w λe w'=>e=.returned (J<|CB s t k v)/\∃M H',SM w' c B M vT vS H' (Cv s t k v)/\BI (Bo c vF vT vS H s.nt) w (Bo c M vT vS H' s.nt) w':=by
 obtain⟨cb,df,dh,di,dj⟩:=Au hG.f;have eB:0<s.nf:=oS cb.1;obtain⟨g,P,rfl,hg,fE,hc,fF⟩:=hM.C5 L;obtain⟨fb,fc,rfl,eF,fI,hF⟩:=hM.OH eB;rcases hM.cells,hM.lt,AF<|hM.v t L,(hM.l t L).at,(hM.i t L).at,(hM.x t L).at,qd hc with⟨⟨c0,c1,c2,_⟩,fL,⟨va,vc,ev⟩,⟨la,lc,el,eI⟩,⟨ia,ic,ei,eP⟩,⟨xa,xc,ex,eS⟩,⟨y0,y1,y2,y3,y4,y5,y6,y7⟩⟩;rw[ev]at y1;rw[el]at y2;rw[ei]at y3;rw[ex]at y4;simp only[Aaw]at y0;obtain⟨W,hW,cc,b1,_⟩:=gZ w (.cells (qf k) 43) (.cells (qf v) 43)<|.cells #[J (s.T t).shape,.slice va (s.T t).nv vc,.slice la (s.T t).d.n lc,.slice ia (s.T t).d.m ic,.slice xa (s.T t).d.x xc,J (s.T t).d.used,J (s.T t).d.live,J (s.T t).d.turns] 105;have af:VK W w.heap.size k:=⟨by rw[hW];simp;omega,by rw[hW];simp[go_sem],by rw[hW];simp[go_sem],by rw[hW];simp[go_sem],by rw[hW];simp[go_sem],by rw[hW];simp[go_sem]⟩;have dk:VK W (w.heap.size+1) v:=⟨by rw[hW];simp,by rw[hW];simp[go_sem],by rw[hW];simp[go_sem],by rw[hW];simp[go_sem],by rw[hW];simp[go_sem],by rw[hW];simp[go_sem]⟩;have dm:W.cell? (G (w.heap.size+1+1) 0)=some (J (s.T t).shape):=by rw[hW];simp[go_sem]
 rcases O (Me t (hM.below cc) hG L hk),O hM,O hG,O hk,O<|ql cb<|ql df<|ql dh<|ql dj di,O<|ql af<|ql dk dm,O cc,O b1,O hF,O ev,af.c0,af.c1,af.c2,af.c3,af.c4,af.lt with⟨br,HM,HG,HK,HR,ax,cd,HZ,HF,Q,eX,e5,DB,e6,bc,lk⟩;clear hM hG hk cb df dh di dj af dk dm cc b1 eI eP eS hc hF ev el ei ex;go_enter func49,ntmps49;go_upto_region 2 with fail
 rw[<-hW];clear hW y0 y1 y2 y3 y4 y5 y6 y7 c0 c1 c2;go_wp2_with fail;refine br.mono ?_;rintro e w1 ⟨rfl,b2⟩;clear br;obtain⟨o,ho⟩:=o9<|Cb s.F (s.T t) k;rw[<-ho];have HO:=O ho;clear eX e5 DB e6 bc lk ho;go_upto_region 3 with fail
 obtain⟨X,hX⟩:=o9<|w1.alloc<|.cells (qf o) 43;rw[<-hX];have A:Below W.heap.size W X:=by rw[hX];exact b2.alloc b2.size _
 rcases o8 cd A,z HZ,b2.size with⟨b3,b1,cg⟩;have dn:X.heap.size=w1.heap.size+1:=by rw[hX];simp
 have dp:=ax.1.below A ax.1.lt;have b4:=ax.2.1.below A ax.2.1.lt;have x0:=oT A (by show w.heap.size+1+1<W.heap.size;omega) ax.2.2;have o0:X.cell? (G w1.heap.size 0)=some (J o.kind):=by rw[hX];simp[go_sem]
 have b5:=O<|HM.below b3;have dq:Hid<|∀{O':Nat->Prop} {w':Y},BI (Bo c (S9 fb s.nf fc) (S9 g s.nt P) vS H s.nt) X O' w'->∀b,w.heap.size<=b->b<X.heap.size->w'.heap[b]?=X.heap[b]?:=O λhd b h1 h2=>hd.block b h2 λe=>oS (HM.PK e).2;have bd:Hid<|BI (Bo c (S9 fb s.nf fc) (S9 g s.nt P) vS H s.nt) w (Bo c (S9 fb s.nf fc) (S9 g s.nt P) vS H s.nt) X:=O<|BI.Ax b3;have dr:w1.heap.size<X.heap.size:=om;have e7:w.heap.size+1+1<w1.heap.size:=om;have ch:w.heap.size+1+1<X.heap.size:=om;have fS:c<X.heap.size:=om;generalize w1.heap.size=ob at dn o0 dr e7 hX ⊢;rcases O dp,O b4,b4.c0,b4.lt,O b3 with⟨bf,dt,v0,lv,cz⟩;clear cd ax b2 A hX dn cg b1 HZ dp b4 b3
 go_cut [32] λq wx=>∃bb:Bool,q=.bool bb/\(bb=true↔o.kind=0/\v.kind=0)/\wx=X
 case first=>
  by_cases a:o.kind=0
  .have d0:(o.kind==0)=true:=by simp[a]
   by_cases h1:v.kind=0
   .have d1:(v.kind==0)=true:=by simp[h1]
    have I:=O<|ql a h1;clear a h1;go_wp2_with fail;go_meet
    case rel=>exact⟨true,rfl,⟨λ_=>I,λ_=>rfl⟩,rfl⟩
   have d1:(v.kind==0)=false:=by simp[h1]
   have I:=O h1;clear a h1;go_wp2_with fail;go_meet
   case rel=>exact⟨false,rfl,⟨λe=>(by cases e),λe=>absurd e.2 I⟩,rfl⟩
  have d0:(o.kind==0)=false:=by simp[a]
  have I:=O a;clear a;go_wp2_with fail;go_meet
  case rel=>exact⟨false,rfl,⟨λe=>(by cases e),λe=>absurd e.1 I⟩,rfl⟩
 obtain⟨bb,rfl,C,bg⟩:=hcut;cases bg;cases bb
 case true=>
  have cj:=C.1 rfl;have du:Hid<|CB s t k v=0/\Cv s t k v=s:=O (by
   have hw:B5 s (s.T t) k v=.no:=C3 ⟨cj.2,by rw[<-z HO];exact cj.1⟩;unfold CB Cv;rw[hw];exact⟨rfl,rfl⟩)
  clear cj C;go_wp2_with fail;go_ret;exact⟨by rw[(z du).1];rfl,_,H,by rw[(z du).2];exact b5,bd⟩
 have b6:Hid<|¬(v.kind=0/\(Cb s.F (s.T t) k).kind=0):=O (λh=>by have:=C.2 ⟨by rw[z HO];exact h.2,h.1⟩;cases this);clear C;have k0:=bf.c0;have lk:=bf.lt;go_upto_region 5 with fail
 go_cut [45] λq wx=>∃bb:Bool,q=.bool bb/\(bb=true↔0<=(s.T t).shape/\k.kind=4/\v.kind≠0)/\wx=X
 case first=>
  by_cases a:0<=(s.T t).shape
  .have d0:decide (0<=(s.T t).shape)=true:=by simp[a]
   by_cases h1:k.kind=4
   .have d1:(k.kind==4)=true:=by simp[h1]
    by_cases h2:v.kind=0
    .have d2:(v.kind !=0)=false:=by simp[h2]
     have I:=O h2;clear a h1 h2;go_wp2_with fail;go_meet
     case rel=>exact⟨false,rfl,⟨λe=>(by cases e),λe=>absurd I e.2.2⟩,rfl⟩
    have d2:(v.kind !=0)=true:=by simp[h2]
    have I:=O<|ql a<|ql h1 h2;clear a h1 h2;go_wp2_with fail;go_meet
    case rel=>exact⟨true,rfl,⟨λ_=>I,λ_=>rfl⟩,rfl⟩
   have d1:(k.kind==4)=false:=by simp[h1]
   have I:=O h1;clear a h1;go_wp2_with fail;go_meet
   case rel=>exact⟨false,rfl,⟨λe=>(by cases e),λe=>absurd e.2.1 I⟩,rfl⟩
  have d0:decide (0<=(s.T t).shape)=false:=ot;have I:Hid<|(s.T t).shape<0:=O om;clear a;go_wp2_with fail;go_meet
  case rel=>exact⟨false,rfl,⟨λe=>(by cases e),λe=>absurd e.1<|oS<|z I⟩,rfl⟩
 obtain⟨bb,rfl,C,bg⟩:=hcut;cases bg;have dv:=O C;clear C
 go_upto_if 45 with fail
 go_cut [11,12] λ_ _ wx=>∃M,SM wx c B M (S9 g s.nt P) vS H s/\BI (Bo c (S9 fb s.nf fc) (S9 g s.nt P) vS H s.nt) X (Bo c M (S9 g s.nt P) vS H s.nt) wx/\(0<=(s.T t).shape->B5 s (s.T t) k v=.loose)
 case first=>
  cases bb
  case false=>
   have I:Hid<|0<=(s.T t).shape->B5 s (s.T t) k v=.loose:=O (λa=>by
    unfold B5;rw[Cs (z b6),C3 a,Cs];rintro⟨h1,h2⟩;have:=dv.2 ⟨a,h1,h2⟩;cases this)
   go_wp2_with fail
   go_meet
   case rel=>exact⟨_,b5,BI.refl _ _,I⟩
  obtain⟨LK,bc,ck⟩:=dv.1 rfl;obtain⟨j,he,hj,ar,_,bh⟩:∃j:Nat,(s.T t).shape=j/\j<s.nf/\(s.T t).nv=nf s.F j/\bare (s.T t).d/\∀i,i<(s.T t).nv->J2 ((s.T t).V i)=true/\Wf ((s.T t).V i):=by
   rcases(HG.t t L).way with⟨e,_⟩|h
   .omega
   exact h
  have eA:(s.T t).nv<=12:=by rw[ar];exact Hn HG.f hj
  have HJ:=O<|ql he<|ql hj ar;have dw:Hid<|∀w',Bd w' fb s.nf s.F->C9 82 #[.agg #[S9 fb s.nf fc],J (s.T t).shape,.string k.str] w' λe e8=>e=.returned (J<|Bf s.F j k.str)/\Below w'.heap.size w' e8:=O (λw' hS=>by
   rw[(z HJ).1];exact La fc j k.str hS HR.1 HR.2.1 HR.2.2.1 HR.2.2.2.1 HJ.2.1)
  rcases b5.cells.1,bf.c3,O (HF.below cz eF) with⟨c0,k3,cl⟩;have dx:Hid (∀i:Nat,Bf s.F j k.str=i->B5 s (s.T t) k v=.DG):=O (λi hp=>by
   unfold B5;rw[Cs (z b6),C3 LK,C3 ⟨bc,ck⟩,C3];rw[he,Ok,hp];omega)
  have dy:Hid<|Bf s.F j k.str=-1->B5 s (s.T t) k v=if 0<=Ed s.nf s.F j k.str then .grow else .loose:=O (λhp=>by
   unfold B5;rw[Cs (z b6),C3 LK,C3 ⟨bc,ck⟩,he,Ok,hp,Cs om])
  clear LK bc ck he hj ar bh;go_upto_region 6 with fail
  refine qr X ?_;(iterate 8 refine N (h:=?_));refine GC λK hK=>?_;go_simp;refine⟨_,λw' dz=>qk dz<|dw _<|cl.below dz cl.lt,hK _ ?_⟩;clear hK K;refine N (h:=?_);refine GS ?_;intro w2 A;have D:=O<|b5.below A;have bj:Hid<|BI (Bo c (S9 fb s.nf fc) (S9 g s.nt P) vS H s.nt) X (Bo c (S9 fb s.nf fc) (S9 g s.nt P) vS H s.nt) w2:=O<|BI.Ax A;rcases O (dt.below A lv),O<|bf.below A lk,(A.cell ch).trans x0,A.size,D.cells,D.C5 L with⟨ay,e9,x2,fT,⟨_,c1,_,fa⟩,⟨g',bk,eg,_,_,ag,cD⟩⟩;cases eg;have g1:=ag 1 _ rfl;rw[z Q]at g1;have au:=D.v t L;rw[z Q]at au;have cm:=O au;have fe:c≠g:=λe=>HM.Bg HM.t oo<|qi e;have dC:c<w2.heap.size:=om;clear A ag au v0 x0 o0 k0 k3 c0 cl dw;rcases JT HG.f HJ.2.1 k.str with hp|⟨i,hp,hi⟩
  .have bt:=O<|dy hp;rw[hp];clear hp dy dx;have k3:=e9.c3;have ah:VG (w.heap.size+1+1) w.heap.size (s.T t).shape k.str w2.drew:=⟨x2,k3⟩;have cN:c≠fb:=λe=>HM.Bg HM.f oo<|qi e;have b0:Hid<|C9 87 #[Q9 c,J (s.T t).shape,.string k.str] w2.drew λe w3=>(∃r n' f',e=.returned (J r)/\Oc s.nf s.F j k.str n' f' r/\∃b' bk,c≠b'/\(b'=fb\/w2.drew.heap.size<=b')/\w3.frozen? (G c 0)=false/\w3.cell? (G c 0)=some (S9 b' n' bk)/\EY w3 B (S9 b' n' bk) n' f')/\Yy c fb w2.drew w3:=O (by
    rw[(z HJ).1];exact Uo c fb fc j B k.str w2.drew D.cells.1 (D.cells.2.2.2 0) (World.ownsRow.drew D.f) cN dC (by have:=D.base;show B<=w2.heap.size;omega) HR.1 HR.2.1 HR.2.2.1 HJ.2.1)
   have dU:=O<|ql x2 k3;clear x2 k3 c1 g1 fa cD;go_upto_region 10 with fail
   refine GH (VG (w.heap.size+1+1) w.heap.size (s.T t).shape k.str) ?_;refine tz 0 (h:=tz 1 (h:=tz 2 (h:=tz 3 (h:=tz 4 (h:=tz 5 (h:=tz 6 (h:=?_)))))));refine ry 7 λK hK=>?_;go_simp;refine b0.mono ?_;rintro e w3 ⟨⟨r,n',f',rfl,ae,b',bk,_,a4,_,a6,a7⟩,R⟩;have DB:∀b,w.heap.size<=b->b<X.heap.size->w3.heap[b]?=w2.heap[b]?:=λb h1 h2=>R.block b (by show b<w2.heap.size;omega) om om;have cn:VG (w.heap.size+1+1) w.heap.size (s.T t).shape k.str w3:=⟨(As<|DB (w.heap.size+1+1) om ch).trans dU.1,(As<|DB w.heap.size (Be _) lk).trans dU.2⟩;refine hK.out _ _ cn λbu=>?_;clear hK K ah;refine tz 8 (h:=?_);refine FE ?_;have ai:=(D.keep (w':=w2.drew) λ_ _=>rfl).nO R a4 a6 a7;have b7:=(bj.below (BE _ _).drew).trans ai.2;have cq:=ay.keep R.size<|DB (w.heap.size+1) om lv;obtain⟨e1,e2,e3⟩:=K6 HR.2.2.2.2 ae;have fV:w2.heap.size<=w3.heap.size:=R.size;by_cases hr:0<=r
   .have ff:decide (0<=r)=true:=by simp[hr]
    have ea:Hid<|CB s t k v=0/\Cv s t k v={BM s t (I7 (s.T t) r v)with nf:=n',F:=f'}:=O (by
     have hw:B5 s (s.T t) k v=.grow:=by rw[z bt,C3 (by rw[<-e3];exact hr)]
     unfold CB Cv;rw[hw];refine⟨rfl,?_⟩;show({BM s t (I7 (s.T t) (Ed s.nf s.F (s.T t).shape.toNat k.str) v)with nf:=EJ s.nf s.F (s.T t).shape.toNat k.str,F:=E0 s.nf s.F (s.T t).shape.toNat k.str}:AL)=_;rw[(z HJ).1,Ok,e1,e2,e3])
    rcases ON FZ,O ai.1,O b7,ai.1.cells.2.1,ai.1.C5 L with⟨⟨i0,fg,fh,cg,c6⟩,cr,b8,c1,⟨g',c7,eg,fW,_,ag,c8⟩⟩;cases eg;have g0:=ag 0 _ rfl;simp only[Aaw]at g0;have fX:c<w3.heap.size:=om;obtain⟨w4,az⟩:=o9<|w3.setCell (G g<|t*8)<|J r;have E:=ai.1.fC L rfl r;rw[<-az]at E;have S:VK w4 (w.heap.size+1) v:=cq.keep (by rw[az];simp) (by rw[az];exact At _ _ _ _<|by show w.heap.size+1≠g;omega);have ct:w4.heap.size=w3.heap.size:=by rw[az];simp
    have eb:=O<|ql E<|ql S ct;clear ai b7 ae R a4 a6 a7 E S ct e1 e2 e3 hr ag cq cn bu DB;go_upto_region 13 with fail
    rw[<-az];clear az g0 c1 c8;obtain⟨E,S,ct⟩:=z eb;have c1:=E.1.cells.2.1;obtain⟨g',c7,eg,ga,_,ag,bw⟩:=E.1.C5 L;cases eg;have g1:=ag 1 _ rfl;rw[z Q]at g1;have eT:(BM {s with nf:=n',F:=f'} t {s.T t with shape:=r}).T t={s.T t with shape:=r}:=Ak _ _ _;have au:=E.1.v t L;rw[eT,z Q]at au;have ah:F8 c (w.heap.size+1) (S9 g s.nt P) v w4.drew:=⟨c1,S.c0,S.c1,S.c2,S.c3,S.c4⟩;obtain⟨Z,hY⟩:=o9<|(w4.alloc<|.cells (qf v) 43).drew;have U:Below w4.heap.size w4 Z:=by rw[hY];exact(n9).drew
    have gb:Z.heap.size=w4.heap.size+1:=by rw[hY];simp
    have av:=F8.keep (W:=w4) ah (U.block c om)<|U.block (w.heap.size+1) om;have gd:=(U.cell<|by show g<w4.heap.size;omega).trans g1;have ec:Z.ownsRow B 43 5 (.slice va (s.T t).nv vc) (s.T t).nv<|MA (s.T t).V (s.T t).nv:=WD au U;have ak:∀j u,(Hd v)[j]?=some u->Z.cell? (((G w4.heap.size 0):Addr).add j)=some u:=by rw[hY];exact ID (w:=(w4.alloc _).drew)<|DD w4 _
    have c9:=fe;have HF:Hid (∀g5 ad w5,w5.ownsRow B 43 5 (S9 g5 ((s.T t).nv+1) ad) ((s.T t).nv+1) (MA (s.T t).V (s.T t).nv++Hd v)->Z.grownBy w5 (Value.slice va (s.T t).nv vc).ownBlock->((Value.slice va (s.T t).nv vc).ownBlock=some g5\/g5=Z.heap.size)->
      F8 c (w.heap.size+1) (S9 g s.nt P) v w5/\F8 c (w.heap.size+1) (S9 g s.nt P) v (w5.setCell (G g<|t*8+1)<|S9 g5 ((s.T t).nv+1) ad)/\w5.cell? (G g<|t*8+1)=some (.slice va (s.T t).nv vc)/\w5.frozen? (G g<|t*8+1)=false/\c<w5.heap.size/\g<w5.heap.size/\
      Hid (∃M H',SM (w5.setCell (G g (t*8+1)) (S9 g5 ((s.T t).nv+1) ad)) c B M (S9 g s.nt P) vS H' (Cv s t k v)/\BI (Bo c (S9 fb s.nf fc) (S9 g s.nt P) vS H s.nt) w (Bo c M (S9 g s.nt P) vS H' s.nt) (w5.setCell (G g (t*8+1)) (S9 g5 ((s.T t).nv+1) ad)))):=O (by
     intro g5 ad w5 ef bm fj;have cu:∀q,(Value.slice va (s.T t).nv vc).ownBlock=some q->q<w.heap.size/\q≠c/\q≠g:=λq e=>by
      have e':(H t).v.ownBlock=some q:=by rw[z Q];exact e
      have h1:=HM.apart L<|.inl e';exact⟨(HM.row L (q:=q)<|.inl e').2.1,h1.1,λe2=>h1.2.2.1<|qi e2⟩
     have b9:∀q,q<w4.heap.size->(Value.slice va (s.T t).nv vc).ownBlock≠some q->w5.heap[q]?=w4.heap[q]?:=λq h1 h2=>(bm.block q om λe=>h2 e.symm).trans<|U.block q h1;have kc:=b9 c om λe=>(cu c e).2.1 rfl;have kg:=b9 g om λe=>(cu g e).2.2 rfl;have kv:=b9 (w.heap.size+1) om λe=>oS (cu _ e).1;have gf:=bm.size;have aj:=F8.keep (W:=w4) ah kc kv;have st:∀q,q≠g->(w5.setCell (G g<|t*8+1)<|S9 g5 ((s.T t).nv+1) ad).heap[q]?=w5.heap[q]?:=λq hq=>At _ _ _ _ (by exact hq);refine⟨aj,aj.keep (st c c9)<|st (w.heap.size+1) om,(As kg).trans g1,(It kg).trans<|bw _,om,om,O ?_⟩;rw[P7]at ef;have hA:=E.1.mR L rfl eT (W:=w5) (u:=S9 g5 ((s.T t).nv+1) ad) (v:=v) (λq h1 h2=>b9 q h1<|by rw[<-z Q];exact h2) ⟨bm.os.trans U.os,bm.tape.trans U.tape,bm.output.trans U.output,om⟩ ef (λq e=>by
      have e':g5=q:=oF e;rcases fj with h|h
      .exact .inl (by rw[z Q,<-e'];exact h)
      exact .inr om)
     refine⟨_,_,?_,(bd.trans (b8.trans E.2)).trans hA.2⟩;rw[(z ea).2];have h1:=hA.1;rw[U3]at h1;exact h1)
    have HY:=O hY;have fk:B<=Z.heap.size:=oS HM.base;have fl:=O ec;have fm:=O ak;clear E S au ag eT U ec ak cr b8 eb bw hY;refine GH (F8 c (w.heap.size+1) (S9 g s.nt P) v) ?_;refine tz 0 (h:=tz 1 (h:=tz 2 (h:=tz 3 (h:=tz 4 (h:=tz 5 (h:=tz 6 (h:=tz 7 (h:=tz 8 (h:=tz 9 (h:=tz 10 (h:=tz 11 (h:=?_))))))))))));refine tz 13 (h:=?_);refine TO (rs:=[12,14]) ou oq ?_;refine IH rfl (λK hK=>?armA) (IH rfl (λK hK=>?armB) Tn)
    case' armA=>
     go_simp;refine hK.out _ _ ah λ_=>?_;clear hK K;refine ry 14 λK hK=>?_;go_simp;rw[<-z HY];refine hK.out _ _ av λfo=>?_;clear hK K
    case' armB=>
     go_simp;rw[<-z HY];refine hK.out _ _ av λfo=>?_;clear hK K;refine ry 12 λK hK=>?_;go_simp;refine hK.out _ _ av λ_=>?_;clear hK K
    all_goals
     refine ry 15 λK hK=>?_;refine Wx _ rfl (.tmp 98) (.tmp 100) 100 rfl B 43 i0 (V 0 0 0 ⟨#[]⟩ 0) 5 48 underlying100 fg fh cg c6 rfl oo (.slice va (s.T t).nv vc) (s.T t).nv (MA (s.T t).V (s.T t).nv) (by simp[Act.eval]<;>omega) fl (G w4.heap.size 0) 1 1 (Hd v) (by simp[Act.eval]<;>omega) rfl fm (by simp[Hd,Value.oneCell']) oo od om fk _ rfl ?_;intro g5 ad w5 ao bx aq fz;obtain⟨aj,eh,x5,f5,gg,gh,da⟩:=z HF g5 ad w5 ao bx aq;clear ao bx aq;refine hK.out _ _ aj λdc=>?_;clear hK K;refine tz 16 (h:=tz 17 (h:=?_));refine ry 18 λK hK=>?_;go_simp;refine hK.out _ _ eh λ_=>?_;clear hK K;refine FE ?_;clear aj eh dc x5 f5;go_wp2;go_ret;exact⟨by rw[(z ea).1];rfl,da⟩
   have ff:decide (0<=r)=false:=ot;have HL:Hid<|B5 s (s.T t) k v=.loose:=O (by rw[z bt,Cs (by rw[<-e3];exact hr)]);have cr:Hid<|SM w3 c B (S9 b' n' bk) (S9 g s.nt P) vS H s:=O (by
    have h1:=ai.1;rcases ae with⟨q,_,h2,_⟩|⟨_,_,_,h3,h4⟩|⟨_,_,_,h2,_⟩
    .omega
    .rw[h3,h4]at h1;rw[h3];exact h1
    omega)
   have b8:=O b7;clear ai b7 ae R a4 a6 a7 e1 e2 e3 hr cq cn bu DB;go_wp2_with fail;go_meet
   case rel=>exact⟨_,cr,b8,λ_=>HL⟩
  ·
   have J0:i<(s.T t).nv:=by rw[(z HJ).2.2];exact hi
   have ej:Hid<|CB s t k v=0/\Cv s t k v=BM s t (FW (s.T t) i v):=O (by
    unfold CB Cv;rw[z dx i hp];refine⟨rfl,?_⟩;show BM s t (FW (s.T t) (Bf s.F (s.T t).shape.toNat k.str).toNat v)=_;rw[(z HJ).1,Ok,hp,Ok])
   rw[hp];clear hp hi;obtain⟨vv,rfl,gi⟩:∃vv,va=some (G vv 0)/\vv<w2.heap.size:=by
    obtain⟨hl,⟨hv,a⟩|⟨g,P,cur,hv,_,dd,_⟩⟩:=id cm
    .omega
    cases hv;exact⟨_,rfl,Ah dd⟩
   obtain⟨e0,e1,e2,e3,e4⟩:=Cc.at cm J0;have fv:=λq=>World.ownsRow.frozenAt cm q;have cv:=D.apart L (q:=vv)<|.inl<|qh Q;have gj:=(HM.row L (q:=vv)<|.inl<|qh Q).2.1;have fq:g≠vv:=λe=>cv.2.2.1<|qi e;have ah:LQ c g s.nt P t (w.heap.size+1) (S9 vv (s.T t).nv vc) v w2.drew:=⟨c1,g1,ay.c0,ay.c1,ay.c2,ay.c3,ay.c4⟩;have bz:=O<|D.fH L Q J0 v;have fr:c≠vv:=λe=>cv.1 e.symm;clear cv c1 g1 x2;go_upto_region 8 with fail
   refine GH (LQ c g s.nt P t (w.heap.size+1) (S9 vv (s.T t).nv vc) v) ?_;refine tz 0 (h:=tz 1 (h:=tz 2 (h:=tz 3 (h:=tz 4 (h:=tz 5 (h:=tz 6 (h:=tz 7 (h:=tz 8 (h:=tz 9 (h:=tz 10 (h:=?_)))))))))));refine ry 11 λK hK=>?_;go_simp;refine hK.out _ (World.drew<|Gy w2 vv (i*5) v) (LQ.keep (W:=w2) ah (Eh w2 vv (i*5) v fr) (Eh w2 vv (i*5) v fq)<|Eh w2 vv (i*5) v om) λ_=>?_;clear hK K ah;refine FE ?_;go_wp2;go_ret;exact⟨by rw[(z ej).1];rfl,_,H,by rw[(z ej).2];exact bz.1.keep λ_ _=>rfl,((bd.trans bj).trans bz.2).below (BE _ _).drew⟩
 obtain⟨ft,ek,cw,eo⟩:=hcut;have x1:wc.cell? (G (w.heap.size+1+1) 0)=some (J (s.T t).shape):=(As<|dq cw (w.heap.size+1+1) om ch).trans x0;rcases O ek,O cw,O eo with⟨cx,cy,ep⟩;clear ek cw eo
 go_upto_if 106 with fail
 go_cut [11] λ_ wx=>∃M H' x',SM wx c B M (S9 g s.nt P) vS H' (BM s t x')/\BI (Bo c (S9 fb s.nf fc) (S9 g s.nt P) vS H s.nt) X (Bo c M (S9 g s.nt P) vS H' s.nt) wx/\bC s t k v x'
 case first=>
  by_cases a:0<=(s.T t).shape
  .have fu:¬(s.T t).shape<0:=om;obtain⟨j,he,hj,ar,_,bh⟩:∃j:Nat,(s.T t).shape=j/\j<s.nf/\(s.T t).nv=nf s.F j/\bare (s.T t).d/\∀i,i<(s.T t).nv->J2 ((s.T t).V i)=true/\Wf ((s.T t).V i):=by
    rcases(HG.t t L).way with⟨e,_⟩|h
    .omega
    exact h
   have aM:=O<|Xf HG he hj ar (λi hi=>(bh i hi).1)<|ep a;have eu:=O<|Sr t j cx HG L he hj ar λi hi=>(bh i hi).1;clear a he hj ar bh;go_wp2_with fail;refine eu.mono ?_;rintro e w4 ⟨⟨u,rfl⟩,h',E,ew⟩;have fw:=O E;have fx:=O<|cy.trans ew;clear E ew eu x1;go_wp2_with fail;go_meet
   case rel=>exact⟨_,_,_,fw,fx,aM⟩
  have fu:(s.T t).shape<0:=om;have aM:=O<|Z2 HG L HK b6 om;clear a;go_wp2_with fail;go_meet
  case rel=>exact⟨ft,H,s.T t,by rw[Yr];exact cx,cy,aM⟩
 clear x1 cx cy ep;obtain⟨ey,H2,x2,bn,bp,a8⟩:=hcut;have ca:∀b,w.heap.size<=b->b<X.heap.size->wc.heap[b]?=X.heap[b]?:=λb h1 h2=>dq bp b h1 h2;have o2:wc.cell? (G ob 0)=some (J o.kind):=(As<|ca ob om dr).trans o0;obtain⟨gl,k0,k1,k2,k3,k4⟩:=bf.keep bp.size<|ca w.heap.size (Be _) lk;rcases dt.keep bp.size (ca (w.heap.size+1) om lv),bn.cells.2.1,bn.lt with⟨⟨gm,v0,v1,v2,v3,v4⟩,c1,dC⟩;have eT:(BM s t x2).T t=x2:=Ak _ _ _;have bq:=bn.qP L rfl;rw[eT]at bq;have d4:=bq.c4;have d5:=bq.c5;rcases O (Zj Ch v bq (a8.inv.small<|oS a8.m) a8.inv X1 HK HK.1 hv a8.m),O a8,O bn,O bp,O eT with⟨aw,aM,D,bj,fy⟩;clear ca bq a8 bn bp eT x0 o0;go_upto_region 18 with fail
 go_cut [133] λq wx=>∃bb:Bool,q=.bool bb/\(bb=true↔o.kind=0/\(x2.d.live=500\/x2.d.turns=1000000000000))/\wx=wc
 case first=>
  by_cases a:o.kind=0
  .have e0:(o.kind==0)=true:=by simp[a]
   by_cases h1:x2.d.live=500
   .have e1:(x2.d.live==500)=true:=by simp[h1]
    have I:=O<|ql a h1;clear a h1;go_wp2_with fail;go_meet
    case rel=>exact⟨true,rfl,⟨λ_=>⟨I.1,.inl I.2⟩,λ_=>rfl⟩,rfl⟩
   have e1:(x2.d.live==500)=false:=by simp[h1]
   by_cases h2:x2.d.turns=1000000000000
   .have e2:(x2.d.turns==1000000000000)=true:=by simp[h2]
    have I:=O<|ql a h2;clear a h1 h2;go_wp2_with fail;go_meet
    case rel=>exact⟨true,rfl,⟨λ_=>⟨I.1,.inr I.2⟩,λ_=>rfl⟩,rfl⟩
   have e2:(x2.d.turns==1000000000000)=false:=by simp[h2]
   have I:=O<|ql h1 h2;clear a h1 h2;go_wp2_with fail;go_meet
   case rel=>exact⟨false,rfl,⟨λe=>(by cases e),λe=>e.2.elim (λe=>absurd e I.1) λe=>absurd e I.2⟩,rfl⟩
  have e0:(o.kind==0)=false:=by simp[a]
  have I:=O a;clear a;go_wp2_with fail;go_meet
  case rel=>exact⟨false,rfl,⟨λe=>(by cases e),λe=>absurd e.1 I⟩,rfl⟩
 obtain⟨bb,rfl,C,bg⟩:=hcut;cases bg;cases bb
 case true=>
  have HY:=O<|aM.yes (by rw[<-z HO];exact(C.1 rfl).1) (C.1 rfl).2;clear C aw;go_wp2_with fail;go_ret;exact⟨by rw[(z HY).1];rfl,ey,H2,by rw[(z HY).2];exact D,bd.trans bj⟩
 have HY:=O<|aM.no (λh=>by have:=C.2 ⟨by rw[z HO];exact h.1,h.2⟩;cases this);clear C;go_wp2_with fail;refine aw.mono ?_;rintro e w5 ⟨⟨u,rfl⟩,u0,u1,u2,ez,aj⟩;have hN:=D.tR L rfl ez aj;rw[U3,z fy]at hN;have HN:=O hN;clear hN ez aj aw;go_wp2_with fail;go_ret;exact⟨by rw[(z HY).1];rfl,ey,_,by rw[(z HY).2];exact HN.1,(bd.trans bj).trans HN.2⟩
def SM.fin{w2}{n'}{b d f}{H'}{s'}{cs}{ty}(hb:B9 w W)(l:∀k,Bo c vF vT vS H s.nt k->k<w.heap.size)(n:w.heap.size<=i)(m:i<W.heap.size)(h:SM w1 c B b d f H' s')(hn:s'.nt=n')(g:BI (Bo c vF vT vS H s.nt) W (Bo c b d f H' n') w1)(a:Br w1 w2 i cs ty):
  SM w2 c B b d f H' s'/\BI (Bo c vF vT vS H s.nt) w (Bo c b d f H' n') w2:=by
 have j:∀k,Bo c b d f H' n' k->k≠i:=λk hk e=>by
  rcases g.own k hk with h1|h1
  .have:=l k h1;omega
  omega
 refine⟨h.keep λk hk=>a.other k<|j k<|by rw[<-hn];exact hk,⟨a.os.trans<|g.os.trans hb.os,a.tape.trans<|g.tape.trans hb.tape,a.output.trans<|g.output.trans hb.output,by rw[a.size];exact GP hb.size g.size,λk hk hn=>?_,λk hk=>?_⟩⟩
 .rw[a.other k om,g.block k (A0 hk hb.size) hn,hb.block k hk]
 rcases g.own k hk with h1|h1;all_goals grind [Bo,BI.size,Br.size]
def Yu{old:List Value}(h:w.heap[b]?=some (.cells old.toArray 43 (0,0)))(hl:old.length=5)x:∃w',(Instr.storeAt 43 (Q9 b)<|V x.kind x.num x.Af x.str x.ref).run prog w=.ok () w'/\Br w w' b (Hd x).toArray 43:=
 BQ (old:=old) (vs:=Hd x) gJ h (qi hl) rfl (by simp[Hd,Value.oneCell']) rfl
def VK.stored(h:Br w w' b (Hd x).toArray 43):VK w' b x:=by
 have hc:=A3 h;exact⟨Ah h.BB,hc 0 _ rfl,hc 1 _ rfl,hc 2 _ rfl,hc 3 _ rfl,hc 4 _ rfl⟩
def N3 s t k v:(Cv s t k v).nt=s.nt:=by
 unfold Cv;split<;>rfl
def Og(c ab gs i:Nat)(vS:V9)(key:ByteArray)(W:Y):Prop:=W.cell? (G c 2)=some vS/\W.cell? (G ab 2)=some (J (i:Int))/\W.cell? (G gs<|i*5)=some (.string key)
def Og.keep{gs}{key}(h:Og c ab gs i vS key W)(h1:W'.heap[c]?=W.heap[c]?)(h2:W'.heap[ab]?=W.heap[ab]?)(h3:W'.heap[gs]?=W.heap[gs]?):Og c ab gs i vS key W':=
 ⟨(As h1).trans h.1,(As h2).trans h.2.1,(As h3).trans h.2.2⟩
def Oh(c ab g nt b t a nv vc q:Nat)(x:Vl)(W:Y):Prop:=W.cell? (G c 1)=some (S9 g nt b)/\W.cell? (G ab 1)=some (J (t:Int))/\W.cell? (G g<|t*8+1)=some (S9 a nv vc)/\W.cell? (G a<|q*5)=some (J x.kind)/\W.cell? (G a<|q*5+1)=some (J x.num)/\W.cell? (G a<|q*5+2)=some (F9 x.Af)/\W.cell? (G a<|q*5+3)=some (.string x.str)/\W.cell? (G a<|q*5+4)=some (J x.ref)
def Oh.keep{nt nv}(h:Oh c ab g nt b t a nv vc q x W)(h1:W'.heap[c]?=W.heap[c]?)(h2:W'.heap[ab]?=W.heap[ab]?)(h3:W'.heap[g]?=W.heap[g]?)(h4:W'.heap[a]?=W.heap[a]?):Oh c ab g nt b t a nv vc q x W':=
 ⟨(As h1).trans h.1,(As h2).trans h.2.1,(As h3).trans h.2.2.1,(As h4).trans h.2.2.2.1,(As h4).trans h.2.2.2.2.1,(As h4).trans h.2.2.2.2.2.1,(As h4).trans h.2.2.2.2.2.2.1,(As h4).trans h.2.2.2.2.2.2.2⟩
def LN(c ab g nt a t b nv vc:Nat)(x:Vl)(W:Y):Prop:=W.cell? (G c 1)=some (S9 g nt a)/\W.cell? (G ab 1)=some (J (t:Int))/\W.cell? (G g<|t*8+1)=some (S9 b nv vc)/\W.cell? (G ab 9)=some (J x.kind)/\W.cell? (G ab 10)=some (J x.num)/\W.cell? (G ab 11)=some (F9 x.Af)/\W.cell? (G ab 12)=some (.string x.str)/\W.cell? (G ab 13)=some (J x.ref)
def LN.keep{nt nv}(h:LN c ab g nt a t b nv vc x W)(h1:W'.heap[c]?=W.heap[c]?)(h2:W'.heap[ab]?=W.heap[ab]?)(h3:W'.heap[g]?=W.heap[g]?):LN c ab g nt a t b nv vc x W':=
 ⟨(As h1).trans h.1,(As h2).trans h.2.1,(As h3).trans h.2.2.1,(As h2).trans h.2.2.2.1,(As h2).trans h.2.2.2.2.1,(As h2).trans h.2.2.2.2.2.1,(As h2).trans h.2.2.2.2.2.2.1,(As h2).trans h.2.2.2.2.2.2.2⟩
def Us(a:Ac)(t i:Nat){w}(hM:SM w c B vF vT vS H s)(hG:LH s)(et:a.t=t)(P:t<s.nt)(ei:a.site=i)(hi:i<s.ns)(hop:a.op=8\/a.op=9)(hv:a.v.ok=true):
  C9 51 #[Q9 c,KI a] w λe w'=>e=.returned (H7<|Ca s a)/\∃L H',SM w' c B L vT vS H' (A9 s a)/\BI (Bo c vF vT vS H s.nt) w (Bo c L vT vS H' s.nt) w':=by
 obtain⟨gs,sc,rfl,ch,_,hcs,_⟩:=hM.GY hi;rcases hG.ns,hG.nt,hM.lt,hcs 0 _ rfl with⟨cu,cv,bp,y0⟩;simp only[Aaw]at y0;obtain⟨W,hW,ar,hA,hR,hz⟩:=boxes w a;have HO:Hid<|∀k,Bo c vF vT (S9 gs s.ns sc) H s.nt k->k<w.heap.size:=O λk h=>(hM.PK h).2;obtain⟨a0,a1,a2,a3,a4,a5,a6,a7,a8,a9,A,C,a12,D⟩:=hA.all;have E:Og c w.heap.size gs i (S9 gs s.ns sc) (s.S i).key W.drew:=⟨(ar.cell (p:=G c 2) bp).trans hM.cells.2.2.1,a2.trans<|by rw[ei],(ar.cell (p:=G gs<|i*5) ch).trans y0⟩;rcases O hM,O ar,O hA,O hR,O hG,O (ql et ei) with⟨HM,HB,HA,HR,HG,HE⟩;clear hM ar hA hR hG et ei hcs y0 a0 a1 a2 a3 a4 a5 a6 a7 a8 a9 A C a12 D;go_enter func51,ntmps51;go_upto_region 1 with fail
 rw[<-hW];clear hW
 go_cut [5] λq wx=>∃kb,q=Q9 kb/\W.heap.size<=kb/\VK wx kb (BH (s.S i).key)/\B9 W wx
 case first=>
  have zB:=HB.size;obtain⟨Z,hY⟩:=o9<|(W.alloc<|.cells #[J 0,J 0,F9 0,E9,J 0] 43).drew;have M:B9 W Z:=by rw[hY];exact(n9).drew
  have ae:Z.heap[W.heap.size]?=some (.cells #[J 0,J 0,F9 0,E9,J 0] 43 (0,0)):=by rw[hY];exact DD W _
  have zY:Z.heap.size=W.heap.size+1:=by rw[hY];simp
  have bq:=E.keep (M.block c om) (M.block w.heap.size om)<|M.block gs om;have br:=O<|ql hY<|ql M<|ql ae zY;clear hY M ae zY;refine GH (Og c w.heap.size gs i (S9 gs s.ns sc) (s.S i).key) ?_;refine tz 0 (h:=tz 1 (h:=tz 2 (h:=tz 3 (h:=tz 4 (h:=tz 5 (h:=tz 6 (h:=tz 7 (h:=tz 8 (h:=?_)))))))));refine TO (rs:=[9,10]) ou oq ?_;refine IH rfl (λK hK=>?armA) (IH rfl (λK hK=>?armB) Tn)
  case armA=>
   go_simp;refine m9 (Pf (s.S i).key _) λw1 d=>?_;have z1:=d.size;have af:=E.keep (d.block c<|by show c<W.heap.size;omega) (d.block w.heap.size<|by show w.heap.size<W.heap.size;omega)<|d.block gs (by show gs<W.heap.size;omega);refine hK.out _ _ af λ_=>?_;clear hK K;have bt:B9 W w1:=⟨d.os,d.tape,d.output,d.size,λk hk=>d.block k hk⟩;obtain⟨X,hX,ag,_,o0⟩:=JZ w1<|.cells #[J 0,J 0,F9 0,E9,J 0] 43;have bu:=o0;have z2:W.heap.size<=w1.heap.size:=d.size;have bw:=af.keep (ag.block c om) (ag.block w.heap.size om)<|ag.block gs om;obtain⟨w2,j,l⟩:=Yu bu rfl (BH (s.S i).key);have bb:=bw.keep (l.other c om) (l.other w.heap.size om)<|l.other gs om;have cj:=O hX;have HF:Hid<|W.heap.size<=w1.heap.size/\VK w2 w1.heap.size (BH (s.S i).key)/\B9 W w2:=O ⟨z2,.stored l,l.below (bt.trans<|ag.mono z2) z2⟩;have n:=O j;clear d bt hX ag bu j l;refine ry 10 λK hK=>?_;go_simp;rw[<-z cj];refine hK.out _ _ bw λ_=>?_;clear hK K;refine ry 11 λK hK=>?_;refine Bj rfl rfl w2 n ?_;refine hK.out _ _ bb λ_=>?_;clear hK K;refine FE ?_;go_wp2_with fail;go_meet
   case rel=>exact⟨_,rfl,HF⟩
  case armB=>
   go_simp;rw[<-(z br).1];refine hK.out _ _ bq λ_=>?_;clear hK K;refine ry 9 λK hK=>?_;go_simp;refine m9 (Pf (s.S i).key _) λw1 d=>?_;obtain⟨_,M,ae,zY⟩:=z br;have z1:=d.size;have af:=bq.keep (d.block c om) (d.block w.heap.size om)<|d.block gs om;refine hK.out _ _ af λ_=>?_;clear hK K;obtain⟨w2,j,l⟩:=Yu ((d.block W.heap.size om).trans ae) rfl (BH (s.S i).key);have bb:=af.keep (l.other c om) (l.other w.heap.size om)<|l.other gs om;have HF:Hid<|W.heap.size<=W.heap.size/\VK w2 W.heap.size (BH (s.S i).key)/\B9 W w2:=O ⟨Be _,.stored l,l.below (M.trans<|d.mono om)<|Be _⟩;have n:=O j;clear d M ae zY j l;refine ry 11 λK hK=>?_;refine Bj rfl rfl w2 n ?_;refine hK.out _ _ bb λ_=>?_;clear hK K;refine FE ?_;go_wp2_with fail;go_meet
   case rel=>exact⟨_,rfl,HF⟩
 obtain⟨kb,rfl,cw,bx,hbc⟩:=hcut;clear E;rcases z HE,HB.size,hbc.size with⟨⟨et,ei⟩,zB,zc⟩;have bz:=O<|HM.below<|HB.trans<|hbc.mono zB;have au:=HA.below hbc om;have b0:=HR.below hbc hz;obtain⟨a0,a1,a2,a3,a4,a5,a6,a7,a8,a9,A,C,a12,D⟩:=au.all;rw[et]at a1;rw[ei]at a2;rcases au.lt,O<|Wk i t bz HG hi P,O bx,O au,O b0,O hbc with⟨la,I,bc,b1,b2,b3⟩;clear bx au b0 hbc et ei;go_wp2_with fail;refine I.mono ?_;rintro e w3 ⟨rfl,b4,ah⟩;have av:∀b,w.heap.size<=b->b<wc.heap.size->w3.heap[b]?=wc.heap[b]?:=λb h1 h2=>ah.block b h2 λe=>oS<|z HO b e;have bd:Ng w3 w.heap.size a:=(av w.heap.size (Be _) la).trans b1;have b5:Hb w3<|w.heap.size+1:=(av (w.heap.size+1) om om).trans b2;rcases bc.keep ah.size (av kb om bc.lt),JB HG hi P,O<|(BI.Ax b3).trans ah,o9 (A8 s i t) with⟨b6,b7,aw,⟨fi,bf⟩⟩;rw[<-bf];rcases O bf,O b4,O bd,O b5,O b6,O b7,ah.size,bd.lt with⟨ai,o,ck,ax,b8,b9,z3,cx⟩;clear a0 a1 a2 a3 a4 a5 a6 a7 a8 a9 A C a12 D la b4 ah av bd b5 b6 b7 bf I b1 b2 b3 bz bc;obtain⟨a0,a1,a2,a3,a4,a5,a6,a7,a8,a9,A,C,a12,D⟩:=ck.all;rw[(z HE).1]at a1;rw[(z HE).2]at a2;have ca:=O<|G7 (HG.si i hi).1;have I:Hid (0<=fi->∃q:Nat,fi=q/\q<(s.T t).nv):=O (λh0=>by
  obtain⟨_,q,_,_,hq,hn,_⟩:=JA HG hi P (by rw[<-z ai];exact h0);exact⟨q,ai.trans hq,hn⟩)
 obtain⟨g,cp,bg,lg,_,cb,cy⟩:=o.C5 P;have bg:vT=S9 g s.nt cp:=bg;subst bg;rcases o.cells.2.1,o.lt,cb 1 _ rfl,AF<|o.v t P,o.v t P with⟨c1,cz,g1,⟨va,vc,ev⟩,bh⟩;rw[ev]at bh;have g1:w3.cell? (G g<|t*8+1)=some (.slice va (s.T t).nv vc):=g1.trans<|qi ev;have aj:Hid<|Cc w3 B (.slice va (s.T t).nv vc) (s.T t).nv (s.T t).V:=O bh;have ay:Hid<|(H t).v=.slice va (s.T t).nv vc:=O ev;clear ev bh cb;have cD:=bp;have cN:=z HO g<|.inr<|.inr<|.inl rfl;have U:Hid (∀{w4 w5:Y} {L:V9} {H':Nat->Hs} {s':AL} {cs:Array Value} {ty:TypeId},SM w4 c B L (S9 g s.nt cp) (S9 gs s.ns sc) H' s'->s'.nt=s.nt->BI (Bo c vF (S9 g s.nt cp) (S9 gs s.ns sc) H s.nt) W (Bo c L (S9 g s.nt cp) (S9 gs s.ns sc) H' s.nt) w4->Br w4 w5 (w.heap.size+1) cs ty->
   SM w5 c B L (S9 g s.nt cp) (S9 gs s.ns sc) H' s'/\BI (Bo c vF (S9 g s.nt cp) (S9 gs s.ns sc) H s.nt) w (Bo c L (S9 g s.nt cp) (S9 gs s.ns sc) H' s.nt) w5):=O (λh hn hd j=>SM.fin HB HO om hz h hn hd j)
 rcases hop with hop|hop
 .have d8:(a.op==8)=true:=by simp[hop]
  have u:Hid<|Ca s a=Gb (if 0<=fi then(s.T t).V fi.toNat else Cb s.F (s.T t) (BH (s.S i).key))/\A9 s a=AY s i t:=O (by
   obtain⟨et,ei⟩:=z HE;unfold Ca A9;simp[hop,et,ei,z ai])
  clear hop;by_cases h0:0<=fi
  .obtain⟨q,rfl,az⟩:=z I h0;have r:Hid<|Ca s a=Gb ((s.T t).V q)/\A9 s a=AY s i t:=O (by
    refine⟨u.1.trans ?_,u.2⟩;rw[C3 h0,Ok])
   clear u h0 I;obtain⟨m,rfl,cl⟩:∃m,va=some (G m 0)/\m<w3.heap.size:=by
    obtain⟨hl,⟨hv,h0⟩|⟨g,cp,cur,hv,_,ad,_⟩⟩:=id aj
    .omega
    cases hv;exact⟨_,rfl,Ah ad⟩
   have cm:=z HO m<|.inr<|.inr<|.inr<|.inr ⟨t,P,.inl<|qh ay⟩;obtain⟨e0,e1,e2,e3,e4⟩:=Cc.at aj az;have E:Oh c w.heap.size g s.nt cp t m (s.T t).nv vc q ((s.T t).V q) w3.drew:=⟨c1,a1,g1,e0,e1,e2,e3,e4⟩;have cn:=Qf.nv (HG.t t P) HG.f;generalize (s.T t).V q=x at*;obtain⟨w4,j,l⟩:=BG (w:=w3.drew) ax<|Gb x;rcases E.keep (l.other c om) (l.other w.heap.size om) (l.other g om) (l.other m om),O j,O<|U (o.keep (w':=w3.drew) λ_ _=>rfl) rfl (aw.below (BE _ _).drew) l,O<|l.BB,Ah l.BB with⟨cc,n,Q,R,l4⟩;clear j l c1 a1 g1 e0 e1 e2 e3 e4 a2 a3 a4 a5 a6 a7 a8 a9 A C a12 D;go_upto_region 5 with fail
   have cq:t<(AY s i t).nt:=P;refine GH (Oh c w.heap.size g s.nt cp t m (s.T t).nv vc q x) ?_;refine tz 0 (h:=tz 1 (h:=tz 2 (h:=tz 3 (h:=tz 4 (h:=tz 5 (h:=tz 6 (h:=tz 7 (h:=tz 8 (h:=tz 9 (h:=tz 10 (h:=tz 11 (h:=?_))))))))))));refine tz 12 (h:=?_);refine ry 13 λK hK=>?_;refine Bj rfl rfl w4 n ?_;refine hK.out _ _ cc λ_=>?_;clear hK K E cc;refine FE ?_;go_wp2_with fail;refine FJ results51 underlying45 R ?_;rw[(z r).1,(z r).2];exact⟨rfl,_,_,Q⟩
  have r:Hid<|Ca s a=Gb (Cb s.F (s.T t)<|BH (s.S i).key)/\A9 s a=AY s i t:=O (by
   refine⟨u.1.trans ?_,u.2⟩;rw[Cs h0])
  have hd:decide (0<=fi)=false:=ot;clear u h0 I;have ak:=O<|Me t o b9 P ca;obtain⟨lk,k0,k1,k2,k3,k4⟩:=z b8;clear c1 g1;go_wp2_with fail;refine ak.mono ?_;rintro e w4 ⟨rfl,aM⟩;obtain⟨x,hx⟩:=o9<|Cb s.F (s.T t)<|BH (s.S i).key;rw[show Cb (AY s i t).F ((AY s i t).T t) (BH (s.S i).key)=x from hx.symm];have bj:=O hx;obtain⟨w5,j,l⟩:=BG (ax.below aM om)<|Gb x;rcases O j,O<|U (o.below aM) rfl (aw.below aM) l,O<|l.BB,Ah l.BB with⟨n,Q,R,l4⟩;clear j l hx aM ak a0 a1 a2 a3 a4 a5 a6 a7 a8 a9 A C a12 D k0 k1 k2 k3 k4;go_wp2_with (refine Ag rfl rfl _ n ?_);refine FJ results51 underlying45 R ?_;rw[(z r).1,(z r).2,<-z bj];exact⟨rfl,_,_,Q⟩
 have d8:(a.op==8)=false:=by simp[hop]
 by_cases hc:0<=fi/\a.v.kind≠0
 .obtain⟨q,rfl,az⟩:=z I hc.1;have r:Hid<|Ca s a=BA 0/\A9 s a=BM (AY s i t) t (FW (s.T t) q a.v):=O (by
   obtain⟨et,ei⟩:=z HE;have h1:=ai.symm;unfold Ca A9;simp[hop,et,ei,h1,hc.2])
  have c0:(a.v.kind !=0)=true:=by simp[hc.2]
  clear hc hop I;obtain⟨m,rfl,cl⟩:∃m,va=some (G m 0)/\m<w3.heap.size:=by
   obtain⟨hl,⟨hv,h0⟩|⟨g,cp,cur,hv,_,ad,_⟩⟩:=id aj
   .omega
   cases hv;exact⟨_,rfl,Ah ad⟩
  have cm:=z HO m<|.inr<|.inr<|.inr<|.inr ⟨t,P,.inl<|qh ay⟩;obtain⟨e0,e1,e2,e3,e4⟩:=Cc.at aj az;have fv:=λq=>World.ownsRow.frozenAt aj q;have bk:=o.apart P (q:=m)<|.inl<|qh ay;have cr:c≠m:=λe=>bk.1 e.symm;have ct:g≠m:=λe=>bk.2.2.1<|qi e;have E:LN c w.heap.size g s.nt cp t m (s.T t).nv vc a.v w3.drew:=⟨c1,a1,g1,a9,A,C,a12,D⟩;have cn:=Qf.nv (HG.t t P) HG.f;have bm:=o.fH P ay az a.v;obtain⟨w5,j,l⟩:=BG (w:=(Gy w3 m (q*5) a.v).drew) ((Eh w3 m (q*5) a.v om).trans ax)<|BA 0;rcases O j,O<|U (bm.1.keep (w':=(Gy w3 m (q*5) a.v).drew) λ_ _=>rfl) rfl ((aw.trans bm.2).below (BE _ _).drew) l,O<|l.BB,Ah l.BB with⟨n,Q,R,l4⟩;clear j l bk bm c1 g1 a1 a2 a3 a4 a5 a6 a7 a8 A C a12 D;go_upto_region 8 with fail
  have cq:t<(AY s i t).nt:=P;refine GH (LN c w.heap.size g s.nt cp t m (s.T t).nv vc a.v) ?_;refine tz 0 (h:=tz 1 (h:=tz 2 (h:=tz 3 (h:=tz 4 (h:=tz 5 (h:=tz 6 (h:=tz 7 (h:=tz 8 (h:=tz 9 (h:=tz 10 (h:=tz 11 (h:=?_))))))))))));refine tz 12 (h:=?_);refine ry 13 λK hK=>?_;go_simp;refine hK.out _ (World.drew<|Gy w3 m (q*5) a.v) (LN.keep (W:=w3) E (Eh w3 m (q*5) a.v cr) (Eh w3 m (q*5) a.v om)<|Eh w3 m (q*5) a.v ct) λ_=>?_;clear hK K E;refine FE ?_;clear e0 e1 e2 e3 e4 fv a0 a9;go_wp2_with (refine Ag rfl rfl _ n ?_);refine FJ results51 underlying45 R ?_;rw[(z r).1,(z r).2];exact⟨rfl,_,_,Q⟩
 have r:Hid<|Ca s a=BA (CB (AY s i t) t (BH (s.S i).key) a.v)/\A9 s a=Cv (AY s i t) t (BH (s.S i).key) a.v:=O (by
  obtain⟨et,ei⟩:=z HE;have h1:¬(0<=A8 s i t/\a.v.kind≠0):=by rw[<-z ai];exact hc
  unfold Ca A9;simp only[hop,et,ei,Ok];simp only[Cs h1];exact⟨rfl,rfl⟩)
 have ao:=O<|Rj t a.v o b9 P ca hv;obtain⟨lk,k0,k1,k2,k3,k4⟩:=z b8;have harm:(0<=fi/\a.v.kind=0)\/¬0<=fi:=by
  by_cases h0:0<=fi
  .exact .inl ⟨h0,AaR λh=>hc ⟨h0,h⟩⟩
  exact .inr h0
 clear hc hop I c1 g1;rcases harm with⟨h0,h1⟩|h0
 case' inl=>
  have hd:decide (0<=fi)=true:=by simp[h0]
  have c3:(a.v.kind !=0)=false:=by simp[h1]
  clear h0 h1;go_upto_region 10 with fail
 case' inr=>
  have hd:decide (0<=fi)=false:=ot;clear h0;go_upto_region 10 with fail
 all_goals
  go_wp2_with fail
  refine ao.mono ?_;rintro e w4 ⟨rfl,L,H',cd,bn⟩;have cg:Hb w4<|w.heap.size+1:=(bn.block _ om λe=>oS<|z HO _ e).trans ax;obtain⟨x,hx⟩:=o9<|CB (AY s i t) t (BH (s.S i).key) a.v;rw[<-hx];have bj:=O hx;obtain⟨w5,j,l⟩:=BG cg<|BA x;have n:=O j;have aq:(Cv (AY s i t) t (BH (s.S i).key) a.v).nt=s.nt:=N3 _ _ _ _;have Q:=O<|U cd aq (aw.trans bn) l;have R:=O<|l.BB;clear j l hx cd bn cg aq ao a0 a1 a2 a3 a4 a5 a6 a7 a8 a9 A C a12 D k0 k1 k2 k3 k4 hd;go_wp2_with (refine Ag rfl rfl _ n ?_);refine FJ results51 underlying45 R ?_;rw[(z r).1,(z r).2,<-z bj];exact⟨rfl,_,_,Q⟩
abbrev VD(c B:Nat)(vF vT vS:V9)(H:Nat->Hs)(s:AL)(a:Ac)(w:Y):Prop:=
 C9 21 #[Q9 c,KI a] w λe w'=>e=.returned (H7<|Di s a)/\∃b d f H',SM w' c B b d f H' (AP s a)/\BI (Bo c vF vT vS H s.nt) w (Bo c b d f H' (AP s a).nt) w'
def SM.ends(hb:B9 w W)(a:∀k,Bo c vF vT vS H s.nt k->k<w.heap.size)(hz:w.heap.size+1<W.heap.size)(b:SM W c B vF vT vS H s)(d:Hb W<|w.heap.size+1)(h1:B9 W w1)x:
  ∃w2,(Instr.storeAt 45 (Q9<|w.heap.size+1)<|H7 x).run prog w1=.ok () w2/\w2.heap[w.heap.size+1]?=some (.cells (LJ x).toArray 45 (0,0))/\SM w2 c B vF vT vS H s/\BI (Bo c vF vT vS H s.nt) w (Bo c vF vT vS H s.nt) w2:=by
 obtain⟨w2,h2,h3⟩:=BG (d.below h1 hz) x;exact⟨w2,h2,h3.BB,SM.fin hb a om hz (b.below h1) rfl (BI.Ax h1) h3⟩
theorem pC c B vF vT vS H s a w(hD:SM w c B vF vT vS H s)(m:LH s)(b:Co a=false):VD c B vF vT vS H s a w:=by
 have d:Hid<|Di s a=BA 1/\AP s a=s:=O (by simp[Di,AP,Hz,b]);obtain⟨ta,tc,rfl⟩:=AF hD.t;obtain⟨sa,sc,rfl⟩:=AF hD.si;rcases m.nt,m.ns,boxes w a with⟨v,x,⟨W,q,g,hA,r,hz⟩⟩;have A:Hid<|∀k,Bo c vF (.slice ta s.nt tc) (.slice sa s.ns sc) H s.nt k->k<w.heap.size:=O λk h=>(hD.PK h).2;rcases hD.lt,O<|hD.below g,O g,O hA,O r,O m with⟨C,D,E,I,F,K⟩;clear hD g hA r m;go_enter func21,ntmps21;go_wp2_with fail;rw[<-q];clear q;refine(F5 a _).mono ?_;rw[b];rintro e w1 ⟨rfl,i⟩;have u:=O i;clear i;have L:=u.size;have M:w.heap.size<w1.heap.size:=om;have P:w.heap.size+1<w1.heap.size:=om;have Q:c<w1.heap.size:=om;obtain⟨R,j,l,f⟩:=SM.ends E A hz D F u<|BA 1;rcases O j,O f,O l with⟨n,o,p⟩;clear j f l;go_wp2_with (refine Ag rfl rfl _ n ?_);refine FJ results21 underlying45 p ?_;rw[(z d).1,(z d).2];exact⟨rfl,_,_,_,_,o⟩
theorem pE c B vF vT vS H s a w(hD:SM w c B vF vT vS H s)(o:LH s)(b:Co a=true)(A:Cz a.op=true)(h2:(s.nt:Int)<=a.t):VD c B vF vT vS H s a w:=by
 have d:Hid<|Di s a=BA 2/\AP s a=s:=O (by simp[Di,AP,Hz,b,A,h2]);have e2:decide ((s.nt:Int)<=a.t)=true:=by simpa using h2
 clear h2;generalize P:DQ a.op=sB;obtain⟨ta,tc,rfl⟩:=AF hD.t;obtain⟨sa,sc,rfl⟩:=AF hD.si;rcases o.nt,o.ns,boxes w a with⟨Q,R,⟨W,C,i,hA,D,hz⟩⟩;have S:Hid<|∀k,Bo c vF (.slice ta s.nt tc) (.slice sa s.ns sc) H s.nt k->k<w.heap.size:=O λk h=>(hD.PK h).2;rcases hD.lt,O<|hD.below i,O i,O hA,O D,O o with⟨T,E,U,V,X,HG⟩;clear hD i hA D o;go_enter func21,ntmps21;go_wp2_with fail;rw[<-C];clear C;refine(F5 a _).mono ?_;rw[b];rintro e w1 ⟨rfl,j⟩;have f:=O j;clear j;have F:=f.size;have I:w.heap.size<w1.heap.size:=om;have K:w.heap.size+1<w1.heap.size:=om;have L:c<w1.heap.size:=om;obtain⟨a0,a1,a2,a3,a4,a5,Z,a7,a8,a9,p,q,a12,r⟩:=(V.below f om).all;obtain⟨_,c1,c2,_⟩:=(E.below f).cells;go_wp2_with fail;refine(Fw a.op _).mono ?_;rw[A,P];rintro e w2 ⟨rfl,M⟩;rw[M];clear M w2;go_wp2_with fail;refine qr w1 ?_;(iterate 11 refine N (h:=?_));refine GS ?_;intro w2 l;clear F I K L a0 a1 a2 a3 a4 a5 Z a7 a8 a9 p q a12 r c1 c2;have f:=O<|o8 f l;clear l;have F:=f.size;have I:w.heap.size<w2.heap.size:=om;have K:w.heap.size+1<w2.heap.size:=om;have L:c<w2.heap.size:=om;obtain⟨w9,m,n,g⟩:=SM.ends U S hz E X f<|BA 2;rcases O m,O g,O n with⟨u,v,x⟩;clear m g n;go_wp2_with (refine Ag rfl rfl _ u ?_);refine FJ results21 underlying45 x ?_;rw[(z d).1,(z d).2];exact⟨rfl,_,_,_,_,v⟩
theorem pG c B vF vT vS H s a w(hD:SM w c B vF vT vS H s)(R:LH s)(d:Co a=true)(u:Cz a.op=true)(v:DQ a.op=true)(h2:a.t<(s.nt:Int))(h3:(s.ns:Int)<=a.site):VD c B vF vT vS H s a w:=by
 have f:Hid<|Di s a=BA 3/\AP s a=s:=O (by simp[Di,AP,Hz,d,u,v,h3,show¬(s.nt:Int)<=a.t by omega]);have e2:decide ((s.nt:Int)<=a.t)=false:=by simpa using h2
 have e3:decide ((s.ns:Int)<=a.site)=true:=by simpa using h3
 obtain⟨ta,tc,rfl⟩:=AF hD.t;obtain⟨sa,sc,rfl⟩:=AF hD.si;obtain⟨W,E,i,hA,F,hz⟩:=boxes w a;have I:Hid<|∀k,Bo c vF (.slice ta s.nt tc) (.slice sa s.ns sc) H s.nt k->k<w.heap.size:=O λk h=>(hD.PK h).2;have K:=hD.lt;have l:=hD.below i;go_enter func21,ntmps21;go_wp2_with fail;rw[<-E];refine(F5 a _).mono ?_;rw[d];rintro e w1 ⟨rfl,m⟩;have b:=O m;have x:=b.size;have A:w.heap.size<w1.heap.size:=om;have C:w.heap.size+1<w1.heap.size:=om;have D:c<w1.heap.size:=om;obtain⟨a0,a1,a2,a3,a4,a5,L,M,P,a9,n,o,a12,p⟩:=(hA.below b om).all;obtain⟨_,c1,c2,_⟩:=(l.below b).cells;go_wp2_with fail;refine(Fw a.op _).mono ?_;rw[u,v];rintro e w2 ⟨rfl,Q⟩;rw[Q];go_wp2_with fail;refine qr w1 ?_;(iterate 11 refine N (h:=?_));refine GS ?_;intro w2 g;have b:=o8 b g;have x:=b.size;have A:w.heap.size<w2.heap.size:=om;have C:w.heap.size+1<w2.heap.size:=om;have D:c<w2.heap.size:=om;obtain⟨a0,a1,a2,a3,a4,a5,L,M,P,a9,n,o,a12,p⟩:=(hA.below b om).all;obtain⟨_,c1,c2,_⟩:=(l.below b).cells;go_wp2_with fail;refine qr w2 ?_;(iterate 11 refine N (h:=?_));refine GS ?_;intro w3 g;have b:=o8 b g;have x:=b.size;have A:w.heap.size<w3.heap.size:=om;have C:w.heap.size+1<w3.heap.size:=om;have D:c<w3.heap.size:=om;obtain⟨S,q,r,j⟩:=SM.ends i I hz l F b<|BA 3;go_wp2_with (refine Ag rfl rfl _ (z<|O q) ?_);refine FJ results21 underlying45 (z<|O r) ?_;rw[(z f).1,(z f).2];exact⟨rfl,_,_,_,_,z<|O j⟩
def Cc.wH{f}(h:Cc w B v n f):∃a c,v=.slice a n c/\Fq w a n f:=by
 obtain⟨hl,⟨d,e⟩|⟨g,cap,cur,d,hb,b,_⟩⟩:=id h;all_goals grind [Fq,AF,Ah,Cc.at]
def SM.vG(h:SM w c B vF (.slice ta s.nt tc) vS H s):RV w ta s.nt s.T:=by
 rcases Aax s.nt with e|e
 .exact .inl e
 obtain⟨g,A,j,k,_,_,_⟩:=h.C5 e;cases j;refine .inr ⟨g,0,rfl,k,λi hi=>?_⟩;obtain⟨g',m,hv',_,_,hc,_⟩:=h.C5 hi;cases hv';rcases (h.v i hi).wH,(h.l i hi).at,(h.i i hi).at,(h.x i hi).at,qe hc with⟨⟨va,vc,n,o⟩,⟨la,lc,el,p⟩,⟨ia,ic,q,r⟩,⟨xa,xc,ex,t⟩,⟨u,a,b,d,f⟩⟩;rw[n]at a;rw[el]at b;rw[q]at d;rw[ex]at f;rw[VC];exact⟨va,vc,la,lc,ia,ic,xa,xc,⟨u,a,b,d,f,hc 5 _ rfl,hc 6 _ rfl,hc 7 _ rfl⟩,o,p,r,t⟩
def pU(h:LH s){t}(a:t<s.nt):gO s (s.T t)<=500:=by
 unfold gO;split
 .rcases(h.t t a).way with⟨_,_,b⟩|⟨j,e,_⟩
  .have h1:=b.i0.log.CP;have h2:=b.i0.le;omega
  omega
 rcases(h.t t a).way with⟨e,_⟩|⟨j,e,hj,_⟩
 .omega
 have:=Hn h.f hj;grind [gO]
def LM(ab:Nat)(a:Ac)(W:Y):Prop:=W.cell? (G ab 0)=some (J a.op)/\W.cell? (G ab 1)=some (J a.t)/\W.cell? (G ab 2)=some (J a.site)/\W.cell? (G ab 3)=some (J a.n)/\W.cell? (G ab 4)=some (J a.k.kind)/\W.cell? (G ab 5)=some (J a.k.num)/\W.cell? (G ab 6)=some (F9 a.k.Af)/\W.cell? (G ab 7)=some (.string a.k.str)/\W.cell? (G ab 8)=some (J a.k.ref)/\W.cell? (G ab 9)=some (J a.v.kind)/\W.cell? (G ab 10)=some (J a.v.num)/\W.cell? (G ab 11)=some (F9 a.v.Af)/\W.cell? (G ab 12)=some (.string a.v.str)/\W.cell? (G ab 13)=some (J a.v.ref)
def LK:Hs:=⟨N9,N9,N9,N9⟩
def Sj:¬LK.own q:=by
 rintro(e|e|e|e)<;>cases e
section
variable {W X w3:Y} {c B:Nat} {vF vS:V9} {H:Nat->Hs} {s:AL}
def SM.rH(h:SM W c B vF (.slice ta s.nt tc) vS H s)(hb:B9 W X)(g:X.grownBy w3 (Value.slice ta s.nt tc).ownBlock)(r:w3.ownsRow B 105 8 (S9 g3 (s.nt+1) b) (s.nt+1)<|RH H s.T s.nt++Hx LK Ly)(hl:(Value.slice ta s.nt tc).ownBlock=some g3\/X.heap.size<=g3):
  w3.heap[c]?=some (.cells #[vF,.slice ta s.nt tc,vS] 42 (0,0))/\SM (w3.setCell (G c 1)<|S9 g3 (s.nt+1) b) c B vF (S9 g3 (s.nt+1) b) vS (AX H s.nt LK) {s with nt:=s.nt+1,T:=AX s.T s.nt Ly}/\
  BI (Bo c vF (.slice ta s.nt tc) vS H s.nt) W (Bo c vF (S9 g3 (s.nt+1) b) vS (AX H s.nt LK)<|s.nt+1) (w3.setCell (G c 1)<|S9 g3 (s.nt+1) b):=by
 have hk:∀k,k<W.heap.size->(Value.slice ta s.nt tc).ownBlock≠some k->w3.heap[k]?=W.heap[k]?:=λk h1 h2=>(g.block k (oS hb.size) λe=>h2 e.symm).trans<|hb.block k h1;have w:=(hk c h.lt<|h.Bg h.t oo).trans h.BB;have st:∀k,k≠c->(w3.setCell (G c 1)<|S9 g3 (s.nt+1) b).heap[k]?=w3.heap[k]?:=λk hk=>At _ _ _ _ (by exact hk);have row:∀{e Z n:Nat} {u:V9} {xs:List Value},W.ownsRow B e Z u n xs->e≠42->e≠105->∀q,u.ownBlock=some q->(w3.setCell (G c 1)<|S9 g3 (s.nt+1) b).heap[q]?=W.heap[q]?:=λp h1 h2 q e=>(st q λe'=>h.Bg p h1<|by rw[<-e'];exact e).trans<|hk q (p.lt q e).2<|Cm p h.t h2 e;have A:g3≠c:=by
  rcases hl with e|e
  .exactλe'=>h.Bg h.t oo<|by rw[<-e'];exact e
  have:=h.lt;have:=hb.size;omega
 refine⟨w,⟨h.base,?_,Ab h.f<|row h.f oo oo,?_,Ab h.si<|row h.si oo oo,λj hj=>?_,λj hj=>?_,λj hj=>?_,λj hj=>?_,λj hj=>?_,λj k q hj o e e'=>?_⟩,⟨g.os.trans hb.os,g.tape.trans hb.tape,g.output.trans hb.output,by have:=g.size;have:=hb.size;simp;omega,λk k1 k2=>?_,λk e=>?_⟩⟩
 .simp[World.setCell,Array.getElem?_modify,w]
 .rw[Vh]at r;exact Ab r λq e=>by
   have:g3=q:=oF e;exact st q om
 .show Cc _ B (AX H s.nt LK j).v (AX s.T s.nt Ly j).nv (AX s.T s.nt Ly j).V;by_cases e:j=s.nt
  .subst e;rw[Ak,Ak];exact NB _ _ _ _
  have a:j<s.nt:=by have:j<s.nt+1:=hj;omega
  rw[Aj _ _ e,Aj _ _ e];exact Ab (h.v j a)<|row (h.v j a) oo oo
 .show BT _ B (AX H s.nt LK j).l (AX s.T s.nt Ly j).d.n (AX s.T s.nt Ly j).d.L;by_cases e:j=s.nt
  .subst e;rw[Ak,Ak];exact NB _ _ _ _
  have a:j<s.nt:=by have:j<s.nt+1:=hj;omega
  rw[Aj _ _ e,Aj _ _ e];exact Ab (h.l j a)<|row (h.l j a) oo oo
 .show Bq _ B (AX H s.nt LK j).i (AX s.T s.nt Ly j).d.m (AX s.T s.nt Ly j).d.I;by_cases e:j=s.nt
  .subst e;rw[Ak,Ak];exact NB _ _ _ _
  have a:j<s.nt:=by have:j<s.nt+1:=hj;omega
  rw[Aj _ _ e,Aj _ _ e];exact Ab (h.i j a)<|row (h.i j a) oo oo
 .show Bq _ B (AX H s.nt LK j).x (AX s.T s.nt Ly j).d.x (AX s.T s.nt Ly j).d.X;by_cases e:j=s.nt
  .subst e;rw[Ak,Ak];exact NB _ _ _ _
  have a:j<s.nt:=by have:j<s.nt+1:=hj;omega
  rw[Aj _ _ e,Aj _ _ e];exact Ab (h.x j a)<|row (h.x j a) oo oo
 .show∀q,(AX H s.nt LK j).i.ownBlock=some q->(AX H s.nt LK j).x.ownBlock≠some q;by_cases e:j=s.nt
  .subst e;rw[Ak];intro q e;cases e
  have a:j<s.nt:=by have:j<s.nt+1:=hj;omega
  rw[Aj _ _ e];exact h.ap j a
 .have hj:j<s.nt+1:=hj;have o:k<s.nt+1:=o;by_cases e1:j=s.nt
  .subst e1;rw[Ak]at e;exact absurd e Sj
  by_cases e2:k=s.nt
  .subst e2;rw[Ak]at e';exact absurd e' Sj
  rw[Aj _ _ e1]at e;rw[Aj _ _ e2]at e';exact h.ij j k q om om e e'
 .exact(st k λe=>k2<|.inl e).trans (hk k k1 λe=>k2<|.inr<|.inr<|.inl e)
 rcases e with e|e|e|e|⟨j,hj,e⟩
 .exact .inl (.inl e)
 .exact .inl (.inr<|.inl e)
 .have e':g3=k:=oF e;rcases hl with h1|h1
  .exact .inl (.inr<|.inr<|.inl<|by rw[<-e'];exact h1)
  exact .inr<|oS hb.size
 .exact .inl (.inr<|.inr<|.inr<|.inl e)
 by_cases e1:j=s.nt
 .subst e1;rw[Ak]at e;exact absurd e Sj
 rw[Aj _ _ e1]at e;exact .inl<|.inr<|.inr<|.inr<|.inr ⟨j,om,e⟩
def SM.mA{sc}(h:SM W c B vF vT (.slice sa s.ns sc) H s)x(hb:B9 W X)(b:X.grownBy w3 (Value.slice sa s.ns sc).ownBlock)(g:w3.ownsRow B 107 5 (S9 g3 (s.ns+1) a) (s.ns+1)<|IQ s.S s.ns++FT x)(hl:(Value.slice sa s.ns sc).ownBlock=some g3\/X.heap.size<=g3):
  w3.heap[c]?=some (.cells #[vF,vT,.slice sa s.ns sc] 42 (0,0))/\SM (w3.setCell (G c 2)<|S9 g3 (s.ns+1) a) c B vF vT (S9 g3 (s.ns+1) a) H {s with ns:=s.ns+1,S:=AX s.S s.ns x}/\
  BI (Bo c vF vT (.slice sa s.ns sc) H s.nt) W (Bo c vF vT (S9 g3 (s.ns+1) a) H s.nt) (w3.setCell (G c 2)<|S9 g3 (s.ns+1) a):=by
 have hk:∀k,k<W.heap.size->(Value.slice sa s.ns sc).ownBlock≠some k->w3.heap[k]?=W.heap[k]?:=λk h1 h2=>(b.block k (oS hb.size) λe=>h2 e.symm).trans<|hb.block k h1;have m:=(hk c h.lt<|h.Bg h.si oo).trans h.BB;have st:∀k,k≠c->(w3.setCell (G c 2)<|S9 g3 (s.ns+1) a).heap[k]?=w3.heap[k]?:=λk hk=>At _ _ _ _ (by exact hk);have row:∀{e Z n:Nat} {u:V9} {xs:List Value},W.ownsRow B e Z u n xs->e≠42->e≠107->∀q,u.ownBlock=some q->(w3.setCell (G c 2)<|S9 g3 (s.ns+1) a).heap[q]?=W.heap[q]?:=λd h1 h2 q e=>(st q λe'=>h.Bg d h1<|by rw[<-e'];exact e).trans<|hk q (d.lt q e).2<|Cm d h.si h2 e;have o:g3≠c:=by
  rcases hl with e|e
  .exactλe'=>h.Bg h.si oo<|by rw[<-e'];exact e
  have:=h.lt;have:=hb.size;omega
 refine⟨m,⟨h.base,?_,Ab h.f<|row h.f oo oo,Ab h.t<|row h.t oo oo,?_,λj hj=>Ab (h.v j hj)<|row (h.v j hj) oo oo,λj hj=>Ab (h.l j hj)<|row (h.l j hj) oo oo,λj hj=>Ab (h.i j hj)<|row (h.i j hj) oo oo,λj hj=>Ab (h.x j hj)<|row (h.x j hj) oo oo,h.ap,h.ij⟩,⟨b.os.trans hb.os,b.tape.trans hb.tape,b.output.trans hb.output,by have:=b.size;have:=hb.size;simp;omega,λk k1 k2=>?_,λk e=>?_⟩⟩
 .simp[World.setCell,Array.getElem?_modify,m]
 .rw[U5]at g;exact Ab g λq e=>by
   have:g3=q:=oF e;exact st q om
 .exact(st k λe=>k2<|.inl e).trans (hk k k1 λe=>k2<|.inr<|.inr<|.inr<|.inl e)
 rcases e with e|e|e|e|e
 .exact .inl (.inl e)
 .exact .inl (.inr<|.inl e)
 .exact .inl (.inr<|.inr<|.inl e)
 .have e':g3=k:=oF e;rcases hl with h1|h1
  .exact .inl (.inr<|.inr<|.inr<|.inl<|by rw[<-e'];exact h1)
  exact .inr<|oS hb.size
 exact .inl<|.inr<|.inr<|.inr<|.inr e
end
section
variable {W X w3:Y} {c B:Nat} {vF vS:V9} {H:Nat->Hs} {s:AL}
def SM.rG{b}{t0}(h:SM W c B vF (.slice ta s.nt tc) vS H s)(hb:B9 W X)(p:X.grownBy w3 (Value.slice ta s.nt tc).ownBlock)(D:w3.ownsRow B 105 8 (S9 g3 (s.nt+1) g) (s.nt+1)<|RH H s.T s.nt++Hx b t0)(hl:(Value.slice ta s.nt tc).ownBlock=some g3\/X.heap.size<=g3)
  (nv:Cc X B b.v t0.nv t0.V) (E:BT X B b.l t0.d.n t0.d.L) (F:Bq X B b.i t0.d.m t0.d.I) (K:Bq X B b.x t0.d.x t0.d.X) (C:∀q,b.i.ownBlock=some q->b.x.ownBlock≠some q) (r:∀q,b.own q->W.heap.size<=q):
  w3.heap[c]?=some (.cells #[vF,.slice ta s.nt tc,vS] 42 (0,0))/\SM (w3.setCell (G c 1)<|S9 g3 (s.nt+1) g) c B vF (S9 g3 (s.nt+1) g) vS (AX H s.nt b) {s with nt:=s.nt+1,T:=AX s.T s.nt t0}/\
  BI (Bo c vF (.slice ta s.nt tc) vS H s.nt) W (Bo c vF (S9 g3 (s.nt+1) g) vS (AX H s.nt b)<|s.nt+1) (w3.setCell (G c 1)<|S9 g3 (s.nt+1) g):=by
 have hk:∀k,k<W.heap.size->(Value.slice ta s.nt tc).ownBlock≠some k->w3.heap[k]?=W.heap[k]?:=λk h1 h2=>(p.block k (oS hb.size) λe=>h2 e.symm).trans<|hb.block k h1;have M:=(hk c h.lt<|h.Bg h.t oo).trans h.BB;have st:∀k,k≠c->(w3.setCell (G c 1)<|S9 g3 (s.nt+1) g).heap[k]?=w3.heap[k]?:=λk hk=>At _ _ _ _ (by exact hk);have row:∀{e Z n:Nat} {u:V9} {xs:List Value},W.ownsRow B e Z u n xs->e≠42->e≠105->∀q,u.ownBlock=some q->(w3.setCell (G c 1)<|S9 g3 (s.nt+1) g).heap[q]?=W.heap[q]?:=λw h1 h2 q e=>(st q λe'=>h.Bg w h1<|by rw[<-e'];exact e).trans<|hk q (w.lt q e).2<|Cm w h.t h2 e;have o:∀{e Z n:Nat} {u:V9} {xs:List Value},X.ownsRow B e Z u n xs->(∀q,u.ownBlock=some q->b.own q)->e≠105->∀q,u.ownBlock=some q->(w3.setCell (G c 1)<|S9 g3 (s.nt+1) g).heap[q]?=X.heap[q]?:=λw h1 h2 q e=>(st q λe'=>by have:=r q<|h1 q e;have:=h.lt;omega).trans<|p.block q (w.lt q e).2 (λe'=>by have:=r q<|h1 q e;have:=(h.t.lt q e'.symm).2;omega);have P:g3≠c:=by
  rcases hl with e|e
  .exactλe'=>h.Bg h.t oo<|by rw[<-e'];exact e
  have:=h.lt;have:=hb.size;omega
 refine⟨M,⟨h.base,?_,Ab h.f<|row h.f oo oo,?_,Ab h.si<|row h.si oo oo,λj hj=>?_,λj hj=>?_,λj hj=>?_,λj hj=>?_,λj hj=>?_,λj k q hj A e e'=>?_⟩,⟨p.os.trans hb.os,p.tape.trans hb.tape,p.output.trans hb.output,by have:=p.size;have:=hb.size;simp;omega,λk k1 k2=>?_,λk e=>?_⟩⟩
 .simp[World.setCell,Array.getElem?_modify,M]
 .rw[Vh]at D;exact Ab D λq e=>by
   have:g3=q:=oF e;exact st q om
 .show Cc _ B (AX H s.nt b j).v (AX s.T s.nt t0 j).nv (AX s.T s.nt t0 j).V;by_cases e:j=s.nt
  .subst e;rw[Ak,Ak];exact Ab nv<|o nv (λq e=>.inl e) oo
  have a:j<s.nt:=by have:j<s.nt+1:=hj;omega
  rw[Aj _ _ e,Aj _ _ e];exact Ab (h.v j a)<|row (h.v j a) oo oo
 .show BT _ B (AX H s.nt b j).l (AX s.T s.nt t0 j).d.n (AX s.T s.nt t0 j).d.L;by_cases e:j=s.nt
  .subst e;rw[Ak,Ak];exact Ab E<|o E (λq e=>.inr<|.inl e) oo
  have a:j<s.nt:=by have:j<s.nt+1:=hj;omega
  rw[Aj _ _ e,Aj _ _ e];exact Ab (h.l j a)<|row (h.l j a) oo oo
 .show Bq _ B (AX H s.nt b j).i (AX s.T s.nt t0 j).d.m (AX s.T s.nt t0 j).d.I;by_cases e:j=s.nt
  .subst e;rw[Ak,Ak];exact Ab F<|o F (λq e=>.inr<|.inr<|.inl e) oo
  have a:j<s.nt:=by have:j<s.nt+1:=hj;omega
  rw[Aj _ _ e,Aj _ _ e];exact Ab (h.i j a)<|row (h.i j a) oo oo
 .show Bq _ B (AX H s.nt b j).x (AX s.T s.nt t0 j).d.x (AX s.T s.nt t0 j).d.X;by_cases e:j=s.nt
  .subst e;rw[Ak,Ak];exact Ab K<|o K (λq e=>.inr<|.inr<|.inr e) oo
  have a:j<s.nt:=by have:j<s.nt+1:=hj;omega
  rw[Aj _ _ e,Aj _ _ e];exact Ab (h.x j a)<|row (h.x j a) oo oo
 .show∀q,(AX H s.nt b j).i.ownBlock=some q->(AX H s.nt b j).x.ownBlock≠some q;by_cases e:j=s.nt
  .subst e;rw[Ak];exact C
  have a:j<s.nt:=by have:j<s.nt+1:=hj;omega
  rw[Aj _ _ e];exact h.ap j a
 .have hj:j<s.nt+1:=hj;have A:k<s.nt+1:=A;by_cases e1:j=s.nt
  .by_cases e2:k=s.nt
   .omega
   subst e1;rw[Ak]at e;rw[Aj _ _ e2]at e';have:=r q e;have:=(h.row (i:=k) om e').2.1;omega
  by_cases e2:k=s.nt
  .subst e2;rw[Ak]at e';rw[Aj _ _ e1]at e;have:=r q e';have:=(h.row (i:=j) om e).2.1;omega
  rw[Aj _ _ e1]at e;rw[Aj _ _ e2]at e';exact h.ij j k q om om e e'
 .exact(st k λe=>k2<|.inl e).trans (hk k k1 λe=>k2<|.inr<|.inr<|.inl e)
 rcases e with e|e|e|e|⟨j,hj,e⟩
 .exact .inl (.inl e)
 .exact .inl (.inr<|.inl e)
 .have e':g3=k:=oF e;rcases hl with h1|h1
  .exact .inl (.inr<|.inr<|.inl<|by rw[<-e'];exact h1)
  exact .inr<|oS hb.size
 .exact .inl (.inr<|.inr<|.inr<|.inl e)
 by_cases e1:j=s.nt
 .subst e1;rw[Ak]at e;exact .inr<|r k e
 rw[Aj _ _ e1]at e;exact .inl<|.inr<|.inr<|.inr<|.inr ⟨j,om,e⟩
end
structure Tm (wr:Y) (va:T9) (vc:Nat) (la:T9) (lc:Nat) (ia:T9) (ic:Nat) (xa:T9) (xc:Nat) (t:Tb) (q:Nat) (vV:V9) (wj:Y):Prop where
 b5:wj.heap[wr.heap.size]?=some (.cells #[J t.shape,.slice va t.nv vc,.slice la t.d.n lc,.slice ia t.d.m ic,.slice xa t.d.x xc,J t.d.used,J t.d.live,J t.d.turns] 105 (0,0))
 b6:wj.heap[wr.heap.size+1]?=some (.cells #[J t.shape,vV,N9,N9,N9,J 0,J 0,J 0] 105 (0,0))
 row:Cc wj (wr.heap.size+2) vV q t.V
 below:B9 wr wj
section
variable {wr wj X w5:Y} {va:Option Addr} {vc:Nat} {la:Option Addr} {lc:Nat} {ia:Option Addr} {ic:Nat} {xa:Option Addr} {xc:Nat} {t:Tb} {q:Nat} {vV:V9}
def Tm.step(h:Tm wr va vc la lc ia ic xa xc t q vV wj){g3 a}(hb:B9 wj X)(c:X.grownBy w5 vV.ownBlock)(d:w5.ownsRow (wr.heap.size+2) 43 5 (S9 g3 (q+1) a) (q+1)<|MA t.V q++Hd (t.V q))(hl:vV.ownBlock=some g3\/X.heap.size<=g3):
  w5.heap[wr.heap.size+1]?=some (.cells #[J t.shape,vV,N9,N9,N9,J 0,J 0,J 0] 105 (0,0))/\Tm wr va vc la lc ia ic xa xc t (q+1) (S9 g3 (q+1) a) (w5.setCell (Y9 wr 1)<|S9 g3 (q+1) a):=by
 have g:=Ah h.b6;have b:∀k,vV.ownBlock=some k->wr.heap.size+2<=k:=λk e=>(h.row.lt k e).1;have hk:∀k,k<wj.heap.size->vV.ownBlock≠some k->w5.heap[k]?=wj.heap[k]?:=λk h1 h2=>(c.block k (oS hb.size) λe=>h2 e.symm).trans<|hb.block k h1;have st:∀k,k≠wr.heap.size+1->(w5.setCell (Y9 wr 1)<|S9 g3 (q+1) a).heap[k]?=w5.heap[k]?:=λk hk=>At _ _ _ _ (by exact hk);have f:=(hk (wr.heap.size+1) g λe=>oS<|b _ e).trans h.b6;have i:g3≠wr.heap.size+1:=by
  rcases hl with e|e
  .have:=b _ e;omega
  have:=hb.size;omega
 rcases hb.size,c.size,h.below.size with⟨j,z2,z3⟩;refine⟨f,(st _ om).trans<|(hk _ om λe=>oS<|b _ e).trans h.b5,CT f _,?_,?_⟩
 .rw[P7,IG]at d;exact Ab d λk e=>by
   have:g3=k:=oF e;exact st k om
 have hs:=Ms w5 (Y9 wr 1)<|S9 g3 (q+1) a;exact⟨by rw[hs.1,c.os,hb.os,h.below.os],by rw[hs.2.1,c.tape,hb.tape,h.below.tape],by rw[hs.2.2.1,c.output,hb.output,h.below.output],by rw[hs.2.2.2];omega,λk k1=>(st k om).trans<|(hk k om λe=>oS<|b _ e).trans<|h.below.block k k1⟩
def Tm.I5(h:Tm wr va vc la lc ia ic xa xc t t.nv vV wj){w4:Y}{v0 v1 v2}(hb:B9 wj w4)(b:iD w4 (wj.heap.size+1) v0 v1 v2 t.d){a:Y}(c:a=(((((w4.setCell (G (wr.heap.size+1) 2) v0).setCell (G (wr.heap.size+1) 3) v1).setCell (G (wr.heap.size+1) 4) v2).setCell (G (wr.heap.size+1) 5)<|J t.d.used).setCell (G (wr.heap.size+1) 6)<|J t.d.live).setCell (G (wr.heap.size+1) 7) (J t.d.turns)):
  a.heap[wr.heap.size+1]?=some (.cells (Hx ⟨vV,v0,v1,v2⟩ t).toArray 105 (0,0))/\Cc a (wr.heap.size+2) vV t.nv t.V/\BT a (wr.heap.size+2) v0 t.d.n t.d.L/\Bq a (wr.heap.size+2) v1 t.d.m t.d.I/\Bq a (wr.heap.size+2) v2 t.d.x t.d.X/\B9 wr a:=by
 have f:=Ah h.b6;have g:=(hb.block _ f).trans h.b6;have st:∀k,k≠wr.heap.size+1->a.heap[k]?=w4.heap[k]?:=λk hk=>by
  rw[c];iterate 6 rw[At _ _ _ _ (by exact hk)]
 have hs:a.os=w4.os/\a.tape=w4.tape/\a.output=w4.output/\a.heap.size=w4.heap.size:=by
  rw[c];refine⟨?_,?_,?_,?_⟩
  .iterate 6 rw[(Ms _ _ _).1]
  .iterate 6 rw[(Ms _ _ _).2.1]
  .iterate 6 rw[(Ms _ _ _).2.2.1]
  iterate 6 rw[(Ms _ _ _).2.2.2]
 have i:=hb.size;have z3:=h.below.size;refine⟨?_,Ab h.row λk e=>?_,Ab (Eg b.log om) λk e=>st k<|oS (b.log.lt k e).1,Ab (Eg b.ints om) λk e=>st k<|oS (b.ints.lt k e).1,Ab (Eg b.index om) λk e=>st k<|oS (b.index.lt k e).1,⟨by rw[hs.1,hb.os,h.below.os],by rw[hs.2.1,hb.tape,h.below.tape],by rw[hs.2.2.1,hb.output,h.below.output],by rw[hs.2.2.2];omega,λk k1=>(st k om).trans<|(hb.block k om).trans<|h.below.block k k1⟩⟩
 .rw[c];exact CT (CT (CT (CT (CT (CT g _) _) _) _) _) _
 have:=h.row.lt k e;exact(st k om).trans (hb.block k this.2)
end
def LV(b:Nat)(h:Hs)(t:Tb)(W:Y):Prop:=W.cell? (G b 0)=some (J t.shape)/\W.cell? (G b 1)=some h.v/\W.cell? (G b 2)=some h.l/\W.cell? (G b 3)=some h.i/\W.cell? (G b 4)=some h.x/\W.cell? (G b 5)=some (J t.d.used)/\W.cell? (G b 6)=some (J t.d.live)/\W.cell? (G b 7)=some (J t.d.turns)
def JG{h}{t}(hb:W.heap[b]?=some (.cells (Hx h t).toArray 105 (0,0))):LV b h t W:=by
 refine⟨?_,?_,?_,?_,?_,?_,?_,?_⟩;all_goals(rw[MM W b _ _ _ _ hb];rfl)
def LU(b:Nat)(x:Si)(W:Y):Prop:=W.cell? (G b 0)=some (.string x.key)/\W.cell? (G b 1)=some (J x.shape)/\W.cell? (G b 2)=some (J x.place)/\W.cell? (G b 3)=some (J x.Ce)/\W.cell? (G b 4)=some (J x.AD)
def JF{x}(hb:W.heap[b]?=some (.cells (FT x).toArray 107 (0,0))):LU b x W:=by
 refine⟨?_,?_,?_,?_,?_⟩;all_goals(rw[MM W b _ _ _ _ hb];rfl)
def gC{a}(h:a.op=8\/a.op=9):(A9 s a).nt=s.nt:=by
 unfold A9;rcases h with h|h
 .simp[h,AY]
 simp only[h];simp only[show¬((9:Int)=1) by decide,show¬((9:Int)=7) by decide,show¬((9:Int)=2) by decide,show¬((9:Int)=8) by decide,XN,if_true];split
 .rfl
 exact N3 _ _ _ _
def RB{a}(hD:SM w c B vF vT vS H s)(Z:LH s)(m:Co a=true)(hop:a.op=8\/a.op=9)(t:Nat)(et:a.t=t)(h2:t<s.nt)(i:Nat)(es:a.site=i)(h3:i<s.ns)(hv:a.v.ok=true):VD c B vF vT vS H s a w:=by
 rcases hop with hop|hop
 case' inl=>
  have d8:(a.op==8)=true:=by simp[hop]
  have d9:(a.op==9)=false:=by simp[hop]
 case' inr=>
  have d8:(a.op==8)=false:=by simp[hop]
  have d9:(a.op==9)=true:=by simp[hop]
 all_goals
  have hT:Cz a.op=true:=by rw[hop];decide
  have hS:DQ a.op=true:=by rw[hop];decide
  obtain⟨kc,M⟩:=qa<|C2 a.k;obtain⟨q,P⟩:=qa<|Dk a.k;have n:Hid<|Di s a=Ca s a/\AP s a=A9 s a:=O (by
   have h0:Hz a s.nt s.ns=0:=by
    have x1:¬(s.nt:Int)<=a.t:=om;have x2:¬(s.ns:Int)<=a.site:=om;simp[Hz,m,Cz,DQ,hop,x1,x2]
   rw[Di,AP,C3 h0,C3 h0];exact⟨rfl,rfl⟩)
  have e2:decide ((s.nt:Int)<=a.t)=false:=ot;have e3:decide ((s.ns:Int)<=a.site)=false:=ot;have ES:=O es;have o:Hid<|a.op=8\/a.op=9:=O om;clear es;have ad:=O M;have ae:=O P;clear M P;have d1:(a.op==1)=false:=by simp[hop]
  have d2:(a.op==2)=false:=by simp[hop]
  have d3:(a.op==3)=false:=by simp[hop]
  have d7:(a.op==7)=false:=by simp[hop]
  have aj:=O hop;clear hop;have ET:=O et;clear et;obtain⟨ta,tc,rfl⟩:=AF hD.t;obtain⟨sa,sc,rfl⟩:=AF hD.si;rcases Z.nt,Z.ns,boxes w a with⟨ak,ao,⟨W,hW,r,hA,hR,hz⟩⟩;have HO:Hid<|∀k,Bo c vF (.slice ta s.nt tc) (.slice sa s.ns sc) H s.nt k->k<w.heap.size:=O λk h=>(hD.PK h).2;rcases hD.lt,O<|hD.below r,O r,O hA,O hR,O Z with⟨aq,Q,HB,HA,HQ,HG⟩;clear hD r hA hR Z;go_enter func21,ntmps21;go_wp2_with fail;rw[<-hW];clear hW;refine(F5 a _).mono ?_;rw[m];rintro e w1 ⟨rfl,R⟩;have b:=O R;clear R;have u:=b.size;have A:w.heap.size<w1.heap.size:=om;have C:w.heap.size+1<w1.heap.size:=om;have D:c<w1.heap.size:=om;obtain⟨a0,a1,a2,a3,a4,a5,E,F,I,a9,d,f,a12,g⟩:=(HA.below b om).all;obtain⟨_,c1,c2,_⟩:=(Q.below b).cells;go_wp2_with fail;refine(Fw a.op _).mono ?_;rw[hT,hS];rintro e w2 ⟨rfl,ew⟩;rw[ew];clear ew w2;go_wp2_with fail;refine qr w1 ?_;(iterate 11 refine N (h:=?_));refine GS ?_;intro w2 j;clear u A C D a0 a1 a2 a3 a4 a5 E F I a9 d f a12 g c1 c2;have b:=O<|o8 b j;clear j;have u:=b.size;have A:w.heap.size<w2.heap.size:=om;have C:w.heap.size+1<w2.heap.size:=om;have D:c<w2.heap.size:=om;obtain⟨a0,a1,a2,a3,a4,a5,E,F,I,a9,d,f,a12,g⟩:=(HA.below b om).all;obtain⟨_,c1,c2,_⟩:=(Q.below b).cells;go_wp2_with fail;refine qr w2 ?_;(iterate 11 refine N (h:=?_));refine GS ?_;intro w3 j;clear u A C D a0 a1 a2 a3 a4 a5 E F I a9 d f a12 g c1 c2;have b:=O<|o8 b j;clear j;have u:=b.size;have A:w.heap.size<w3.heap.size:=om;have C:w.heap.size+1<w3.heap.size:=om;have D:c<w3.heap.size:=om;obtain⟨a0,a1,a2,a3,a4,a5,E,F,I,a9,d,f,a12,g⟩:=(HA.below b om).all;obtain⟨_,c1,c2,_⟩:=(Q.below b).cells;go_wp2_with fail;refine(Hv a.k.kind a.k.num a.k.Af a.k.str a.k.ref _).mono ?_;rw[Er,z ad,z ae];rintro e w4 ⟨rfl,S⟩;clear u A C D a0 a1 a2 a3 a4 a5 E F I a9 d f a12 g c1 c2;have b:=O<|o8 b S;clear S;have u:=b.size;have A:w.heap.size<w4.heap.size:=om;have C:w.heap.size+1<w4.heap.size:=om;have D:c<w4.heap.size:=om;obtain⟨a0,a1,a2,a3,a4,a5,E,F,I,a9,d,f,a12,g⟩:=(HA.below b om).all;obtain⟨_,c1,c2,_⟩:=(Q.below b).cells;have l:Hid<|B9 W<|w4.alloc<|.cells #[J kc,J q.kind,J q.num,F9 q.Af,.string q.str,J q.ref] 116:=O<|b.alloc b.size _;have T:=O<|Us a t i (Q.below l) HG ET h2 ES h3 o hv;go_wp2_with fail;refine T.mono ?_;rintro e w5 ⟨rfl,ar,H5,U,K⟩;obtain⟨x,hx⟩:=o9<|Ca s a;rw[<-hx];have af:=O hx;clear hx T;clear u A C D a0 a1 a2 a3 a4 a5 E F I a9 d f a12 g c1 c2;have p:(A9 s a).nt=s.nt:=gC o;have V:Hb w5<|w.heap.size+1:=(K.block _ (oS l.size) λe=>oS<|z HO _ e).trans<|HQ.below l om;obtain⟨w9,X,L⟩:=BG V x;have ag:=O X;have ah:=O<|SM.fin HB HO om hz U p ((BI.Ax l).trans K) L;have ai:=O<|L.BB;clear V X L U K;go_wp2_with (refine Ag rfl rfl _ ag ?_);refine FJ results21 underlying45 ai ?_;rw[(z n).1,(z n).2,<-z af,p];exact⟨rfl,_,_,_,_,ah⟩
theorem UW c B vF vT vS H s a w(hD:SM w c B vF vT vS H s)(hG:LH s)(r:Co a=true)(h:(a.op=1/\s.nt=100)\/(a.op=7/\s.ns=50)\/(a.op=1/\s.nt≠100)\/(a.op=7/\s.ns≠50)):VD c B vF vT vS H s a w:=by
 rcases h with⟨d,hf⟩|⟨d,hf⟩|⟨d,hf⟩|⟨d,hf⟩
 case' inl=>
  have g:Hid<|Di s a=BA 5/\AP s a=s:=O (by
   have L:Hz a s.nt s.ns=0:=by simp[Hz,r,Cz,DQ,d]
   rw[Di,AP,C3 L,C3 L];simp[Ca,A9,d,hf])
  have e5:((s.nt:Int)==100)=true:=ot;have d1:(a.op==1)=true:=by simp[d]
  have d7:(a.op==7)=false:=by simp[d]
 case' inr.inl=>
  have g:Hid<|Di s a=BA 5/\AP s a=s:=O (by
   have L:Hz a s.nt s.ns=0:=by simp[Hz,r,Cz,DQ,d]
   rw[Di,AP,C3 L,C3 L];simp[Ca,A9,d,hf])
  have e5:((s.ns:Int)==50)=true:=ot;have d1:(a.op==1)=false:=by simp[d]
  have d7:(a.op==7)=true:=by simp[d]
 case' inr.inr.inl=>
  have g:Hid<|Di s a=Dj s.nt/\AP s a={s with nt:=s.nt+1,T:=AX s.T s.nt Ly}:=O (by
   have L:Hz a s.nt s.ns=0:=by simp[Hz,r,Cz,DQ,d]
   rw[Di,AP,C3 L,C3 L];simp[Ca,A9,d,hf])
  have e5:((s.nt:Int)==100)=false:=ot;have d1:(a.op==1)=true:=by simp[d]
  have d7:(a.op==7)=false:=by simp[d]
 case' inr.inr.inr=>
  have g:Hid<|Di s a=Dj s.ns/\AP s a={s with ns:=s.ns+1,S:=AX s.S s.ns ⟨a.k.str,-1,0,0,0⟩}:=O (by
   have L:Hz a s.nt s.ns=0:=by simp[Hz,r,Cz,DQ,d]
   rw[Di,AP,C3 L,C3 L];simp[Ca,A9,d,hf])
  have e5:((s.ns:Int)==50)=false:=ot;have d1:(a.op==1)=false:=by simp[d]
  have d7:(a.op==7)=true:=by simp[d]
 all_goals
  have hT:Cz a.op=false:=by rw[d];decide
  have hS:DQ a.op=false:=by rw[d];decide
  have d2:(a.op==2)=false:=by simp[d]
  have d3:(a.op==3)=false:=by simp[d]
  clear d;obtain⟨kc,az⟩:=qa<|C2 a.k;obtain⟨l,aM⟩:=qa<|Dk a.k;have bj:=O az;have bk:=O aM;clear az aM;clear hf;obtain⟨ta,tc,rfl⟩:=AF hD.t;obtain⟨sa,sc,rfl⟩:=AF hD.si;rcases hG.nt,hG.ns,boxes w a with⟨bt,bu,⟨W,hW,ag,hA,hR,hz⟩⟩;have HO:Hid<|∀k,Bo c vF (.slice ta s.nt tc) (.slice sa s.ns sc) H s.nt k->k<w.heap.size:=O λk h=>(hD.PK h).2;rcases hD.lt,hD.below ag,O hA with⟨bw,M,HA⟩;clear hD hA hG;go_enter func21,ntmps21;go_wp2_with fail;rw[<-hW];clear hW;refine(F5 a _).mono ?_;rw[r];rintro e w1 ⟨rfl,bb⟩;have i:=O bb;clear bb;have zz:=i.size;have za:w.heap.size<w1.heap.size:=om;have zr:w.heap.size+1<w1.heap.size:=om;have zc:c<w1.heap.size:=om;obtain⟨a0,a1,a2,a3,a4,a5,a6,a7,a8,a9,C,D,a12,E⟩:=(HA.below i om).all;obtain⟨_,c1,c2,_⟩:=(M.below i).cells;go_wp2_with fail;refine(Fw a.op _).mono ?_;rw[hT,hS];rintro e w2 ⟨rfl,ew⟩;rw[ew];clear ew w2;go_wp2_with fail;refine qr w1 ?_;refine N (h:=N (h:=?_));iterate 8 (go_big_quiet_step (fail))
  refine N (h:=?_);refine GS ?_;intro w2 P;clear zz za zr zc a0 a1 a2 a3 a4 a5 a6 a7 a8 a9 C D a12 E c1 c2;have i:=o8 i P;clear P;have zz:=i.size;have za:w.heap.size<w2.heap.size:=om;have zr:w.heap.size+1<w2.heap.size:=om;have zc:c<w2.heap.size:=om;obtain⟨a0,a1,a2,a3,a4,a5,a6,a7,a8,a9,C,D,a12,E⟩:=(HA.below i om).all;obtain⟨_,c1,c2,_⟩:=(M.below i).cells;go_wp2_with fail;refine qr w2 ?_;refine N (h:=N (h:=?_));iterate 8 (go_big_quiet_step (fail))
  refine N (h:=?_);refine GS ?_;intro w3 P;clear zz za zr zc a0 a1 a2 a3 a4 a5 a6 a7 a8 a9 C D a12 E c1 c2;have i:=o8 i P;clear P;have zz:=i.size;have za:w.heap.size<w3.heap.size:=om;have zr:w.heap.size+1<w3.heap.size:=om;have zc:c<w3.heap.size:=om;obtain⟨a0,a1,a2,a3,a4,a5,a6,a7,a8,a9,C,D,a12,E⟩:=(HA.below i om).all;obtain⟨_,c1,c2,_⟩:=(M.below i).cells;go_wp2_with fail;refine(Hv a.k.kind a.k.num a.k.Af a.k.str a.k.ref _).mono ?_;rw[Er,z bj,z bk];rintro e w4 ⟨rfl,F⟩;clear zz za zr zc a0 a1 a2 a3 a4 a5 a6 a7 a8 a9 C D a12 E c1 c2;have i:=o8 i F;clear F;have zz:=i.size;have za:w.heap.size<w4.heap.size:=om;have zr:w.heap.size+1<w4.heap.size:=om;have zc:c<w4.heap.size:=om;obtain⟨a0,a1,a2,a3,a4,a5,a6,a7,a8,a9,C,D,a12,E⟩:=(HA.below i om).all;obtain⟨_,c1,c2,_⟩:=(M.below i).cells
 .obtain⟨i0,aj,ak,ao,aq⟩:=ON Hm;obtain⟨X,hX,F,_⟩:=JZ w4<|.cells #[J kc,J l.kind,J l.num,F9 l.Af,.string l.str,J l.ref] 116;have bc:B9 W X:=o8 i F;obtain⟨Z,hY⟩:=o9<|(X.alloc<|.cells #[.string a.k.str,J (-1),J 0,J 0,J 0] 107).drew;have ah:B9 X Z:=by rw[hY];exact(n9).drew
  have zX:=bc.size;have zY:Z.heap.size=X.heap.size+1:=by rw[hY];simp
  have o:B9 W Z:=bc.trans<|ah.mono zX;have ar:Z.ownsRow B 107 5 (.slice sa s.ns sc) s.ns<|IQ s.S s.ns:=WD (M.si) o;have bm:Hid<|∀j u,(FT ⟨a.k.str,-1,0,0,0⟩)[j]?=some u->Z.cell? (((y X 0):Addr).add j)=some u:=O (by rw[hY];exact ID (w:=(X.alloc _).drew)<|DD X _);have bd:B<=Z.heap.size:=oS M.base;have au:X.drew.cell? (y w 7)=some (.string a.k.str):=oT F za a7;have ai:Z.cell? (y w 7)=some (.string a.k.str):=oT ah (by show w.heap.size<X.heap.size;omega) au;have xc:X.cell? (G c 2)=some (.slice sa s.ns sc):=oT F zc c2;have yc:Z.cell? (G c 2)=some (.slice sa s.ns sc):=oT ah (by show c<X.heap.size;omega) xc;have HF:Hid (∀g3 f w3,w3.ownsRow B 107 5 (S9 g3 (s.ns+1) f) (s.ns+1) (IQ s.S s.ns++FT ⟨a.k.str,-1,0,0,0⟩)->Z.grownBy w3 (Value.slice sa s.ns sc).ownBlock->((Value.slice sa s.ns sc).ownBlock=some g3\/g3=Z.heap.size)->
    w3.cell? (y w 7)=some (.string a.k.str)/\(w3.setCell (G c 2) (S9 g3 (s.ns+1) f)).cell? (y w 7)=some (.string a.k.str)/\w3.cell? (G c 2)=some (.slice sa s.ns sc)/\w3.frozen? (G c 2)=false/\c<w3.heap.size/\∃A,Hid ((Instr.storeAt 45 (Q9 (w.heap.size+1)) (H7 (Dj s.ns))).run prog (w3.setCell (G c 2) (S9 g3 (s.ns+1) f))=.ok () A)/\A.heap[w.heap.size+1]?=some (.cells (LJ (Dj s.ns)).toArray 45 (0,0))/\Hid (∃Q R U H',SM A c B Q R U H' {s with ns:=s.ns+1,S:=AX s.S s.ns ⟨a.k.str,-1,0,0,0⟩}/\BI (Bo c vF (.slice ta s.nt tc) (.slice sa s.ns sc) H s.nt) w (Bo c Q R U H' s.nt) A)):=O (λg3 f w3 h1 h2 h3=>by
   obtain⟨k1,k2,k3⟩:=M.mA ⟨a.k.str,-1,0,0,0⟩ o h2 h1 (h3.imp id (λe=>om));have hq:=hR.below o om;have hA:=HA.below o om;have no:∀b,w.heap.size<=b->b<Z.heap.size->w3.heap[b]?=Z.heap[b]?:=λb h4 h5=>h2.block b h5 (λe=>oS (z HO b (.inr (.inr (.inr (.inl e.symm))))));have bf:Ng w3 w.heap.size a:=(no _ (Be _) hA.lt).trans hA;have st:∀k,k≠c->(w3.setCell (G c 2) (S9 g3 (s.ns+1) f)).heap[k]?=w3.heap[k]?:=λk hk=>At _ _ _ _ (by exact hk);have av:Hb (w3.setCell (G c 2) (S9 g3 (s.ns+1) f)) (w.heap.size+1):=(st _ om).trans ((no _ om hq.lt).trans hq);have bn:Ng (w3.setCell (G c 2) (S9 g3 (s.ns+1) f)) w.heap.size a:=(st _ om).trans bf;obtain⟨A,I,V⟩:=BG av (Dj s.ns);exact⟨bf.all.2.2.2.2.2.2.2.1,bn.all.2.2.2.2.2.2.2.1,by rw[MM w3 c 2 _ _ _ k1];rfl,by simp[World.frozen?,k1],Ah k1,A,O I,V.BB,O ⟨_,_,_,_,SM.fin ag HO om hz k2 rfl k3 V⟩⟩)
  have bp:IntKind.i64.wrap (((s.ns+1:Nat):Int)-1)=(s.ns:Int):=oj;have HY:=O hY;go_wp2_with fail;rw[<-hX];clear zz za zr zc a0 a1 a2 a3 a4 a5 a6 a7 a8 a9 C D a12 E c1 c2;clear hX o F hY ah zY;refine GH (λW'=>W'.cell? (y w 7)=some (.string a.k.str)) ?_;refine tz 0 (h:=tz 1 (h:=tz 2 (h:=tz 3 (h:=tz 5 (h:=tz 6 (h:=tz 7 (h:=tz 8 (h:=?_))))))));refine TO (rs:=[4,9]) ou oq ?_;refine IH rfl (λK hK=>?armA) (IH rfl (λK hK=>?armB) Tn)
  case' armA=>
   go_simp;refine hK.out _ _ au λ_=>?_;clear hK K;refine ry 9 λK hK=>?_;go_simp;rw[<-z HY];refine hK.out _ _ ai λ_=>?_;clear hK K
  case' armB=>
   go_simp;rw[<-z HY];refine hK.out _ _ ai λ_=>?_;clear hK K;refine ry 4 λK hK=>?_;go_simp;refine hK.out _ _ ai λ_=>?_;clear hK K
  all_goals
   refine ry 10 λK hK=>?_;refine Wx _ rfl (.tmp 100) (.tmp 105) 40 rfl B 107 i0 (.agg #[E9,J 0,J 0,J 0,J 0]) 5 48 underlying40 aj ak ao aq rfl oo (.slice sa s.ns sc) s.ns (IQ s.S s.ns) og ar (y X 0) 1 1 (FT ⟨a.k.str,-1,0,0,0⟩) og rfl bm (by simp[FT,Value.oneCell']) oo od om bd _ rfl ?_;intro g3 f w3 m x q ay;obtain⟨bg,bh,x0,x1,x2,A,ad,n,ae⟩:=z HF g3 f w3 m x q;obtain⟨r0,r1,r2,r3,r4,r5,r6,r7,r8,r9,aw,ax⟩:=An.read n;have l9:=Ah n;clear m x q n;refine hK.out _ _ bg λ_=>?_;clear hK K;refine tz 11 (h:=tz 12 (h:=?_));refine ry 13 λK hK=>?_;go_simp;refine hK.out _ _ bh λ_=>?_;clear hK K;refine FE ?_;clear bg bh au ai xc yc;go_wp2_with (refine Ag rfl rfl _ ad ?_);refine GO (v:=H7<|Dj s.ns) (by simp[results,results21,go_sem,l9,r0,r1,r2,r3,r4,r5,r6,r7,r8,r9,aw,ax]) rfl ?_;rw[(z g).1,(z g).2];exact⟨rfl,ae⟩
 .obtain⟨i0,aj,ak,ao,aq⟩:=ON JJ;have o:B9 W<|(w4.alloc<|.cells #[J kc,J l.kind,J l.num,F9 l.Af,.string l.str,J l.ref] 116).alloc<|.cells (Hx LK Ly).toArray 105:=(i.alloc i.size _).alloc (by have:=i.size;simp;omega) _;have ar:=PC (PC (M.below i).t<|.cells #[J kc,J l.kind,J l.num,F9 l.Af,.string l.str,J l.ref] 116)<|.cells (Hx LK Ly).toArray 105;have bd:B<=w4.heap.size+1+1:=oS M.base;have HF:Hid (∀g3 f w3,w3.ownsRow B 105 8 (S9 g3 (s.nt+1) f) (s.nt+1) (RH H s.T s.nt++Hx LK Ly)->((w4.alloc<|.cells #[J kc,J l.kind,J l.num,F9 l.Af,.string l.str,J l.ref] 116).alloc<|.cells (Hx LK Ly).toArray 105).grownBy w3 (Value.slice ta s.nt tc).ownBlock->((Value.slice ta s.nt tc).ownBlock=some g3\/g3=w4.heap.size+1+1)->
    w3.cell? (G c 1)=some (.slice ta s.nt tc)/\w3.frozen? (G c 1)=false/\c<w3.heap.size/\∃A,Hid ((Instr.storeAt 45 (Q9 (w.heap.size+1)) (H7 (Dj s.nt))).run prog (w3.setCell (G c 1) (S9 g3 (s.nt+1) f))=.ok () A)/\A.heap[w.heap.size+1]?=some (.cells (LJ (Dj s.nt)).toArray 45 (0,0))/\Hid (∃Q R U H',SM A c B Q R U H' {s with nt:=s.nt+1,T:=AX s.T s.nt Ly}/\BI (Bo c vF (.slice ta s.nt tc) (.slice sa s.ns sc) H s.nt) w (Bo c Q R U H' (s.nt+1)) A)):=O (λg3 f w3 h1 h2 h3=>by
   obtain⟨k1,k2,k3⟩:=M.rH o h2 h1 (h3.imp id (λe=>ot));have hq:=hR.below o om;have av:Hb (w3.setCell (G c 1) (S9 g3 (s.nt+1) f)) (w.heap.size+1):=(At _ _ _ _ (by show w.heap.size+1≠c;omega)).trans ((h2.block _ hq.lt (λe=>oS (z HO _ (.inr (.inr (.inl e.symm)))))).trans hq);obtain⟨A,I,V⟩:=BG av (Dj s.nt);exact⟨by rw[MM w3 c 1 _ _ _ k1];rfl,by simp[World.frozen?,k1],Ah k1,A,O I,V.BB,O ⟨_,_,_,_,SM.fin ag HO om hz k2 rfl k3 V⟩⟩)
  have bp:IntKind.i64.wrap (((s.nt+1:Nat):Int)-1)=(s.nt:Int):=oj;clear o;go_wp2_with (first|(at_builtin;refine So _ rfl _ _ 39 rfl B 105 i0 (.agg (Hx LK Ly).toArray) 8 128 underlying39 aj ak ao aq rfl oo (.slice ta s.nt tc) s.nt (RH H s.T s.nt) rfl ar (Y9 w4 0) 1 1 (Hx LK Ly) rfl rfl (PA w4 _ (Hx LK Ly) _) (by simp[Hx,LK,Value.oneCell']) oo od om ot (w4.heap.size+1+1) oq ?_;intro g3 f w3 m x q ay;obtain⟨x0,x1,x2,A,ad,n,ae⟩:=z HF g3 f w3 m x q;obtain⟨r0,r1,r2,r3,r4,r5,r6,r7,r8,r9,aw,ax⟩:=An.read n;have l9:=Ah n;clear m x n)|(refine Ag rfl rfl _ ad ?_));refine GO (v:=H7<|Dj s.nt) (by simp[results,results21,go_sem,l9,r0,r1,r2,r3,r4,r5,r6,r7,r8,r9,aw,ax]) rfl ?_;rw[(z g).1,(z g).2];exact⟨rfl,ae⟩
 all_goals
  have bq:B9 W<|w4.alloc<|.cells #[J kc,J l.kind,J l.num,F9 l.Af,.string l.str,J l.ref] 116:=i.alloc i.size _;obtain⟨A,I,n,af⟩:=SM.ends ag HO hz M hR bq<|BA 5;rcases O I,O af,O n with⟨ad,ae,br⟩;clear I af n;go_wp2_with (refine Ag rfl rfl _ ad ?_);refine FJ results21 underlying45 br ?_;rw[(z g).1,(z g).2];exact⟨rfl,_,_,_,_,ae⟩
def kR{a}(hD:SM w c B vF vT vS H s)(hG:LH s)(D:Co a=true)(t:Nat)(et:a.t=t)(h2:t<s.nt)(aw:Wf a.k)(hv:a.v.ok=true)(hm:0<=a.n)(h:(a.op=2/\C2 a.k=0)\/(a.op=3/\C2 a.k=0)\/(a.op=4\/a.op=5\/a.op=6)\/((a.op=2\/a.op=3)/\C2 a.k≠0)):VD c B vF vT vS H s a w:=by
 rcases h with⟨hop,h4⟩|⟨hop,h4⟩|hop|⟨hop,h4⟩
 case' inl=>
  have hT:Cz a.op=true:=by rw[hop];decide
  have hS:DQ a.op=false:=by rw[hop];decide
  rcases Ik aw h4,qa<|C2 a.k,qa (Dk a.k) with⟨S,⟨p,l⟩,⟨b,j⟩⟩;rw[j]at S;have d:Hid<|Di s a=BA (CB s t b a.v)/\AP s a=Cv s t b a.v:=O (by
   have h0:Hz a s.nt s.ns=0:=by
    have x1:¬(s.nt:Int)<=a.t:=om;simp[Hz,D,Cz,DQ,hop,x1,h4]
   rw[Di,AP,C3 h0,C3 h0];simp[Ca,A9,hop,et,j])
  have e2:decide ((s.nt:Int)<=a.t)=false:=ot;have e4:(p !=0)=false:=by rw[<-l];simp[h4]
  clear h4;have ag:=O l;have ah:=O j;clear l j;have d1:(a.op==1)=false:=by simp[hop]
  have d2:(a.op==2)=true:=by simp[hop]
  have d3:(a.op==3)=false:=by simp[hop]
  have d7:(a.op==7)=false:=by simp[hop]
  have d8:(a.op==8)=false:=by simp[hop]
  have d9:(a.op==9)=false:=by simp[hop]
  clear hop;have ET:=O et;clear et
 case' inr.inl=>
  have hT:Cz a.op=true:=by rw[hop];decide
  have hS:DQ a.op=false:=by rw[hop];decide
  rcases Ik aw h4,qa<|C2 a.k,qa (Dk a.k) with⟨S,⟨p,l⟩,⟨b,j⟩⟩;rw[j]at S;have d:Hid<|Di s a=Gb (Cb s.F (s.T t) b)/\AP s a=s:=O (by
   have h0:Hz a s.nt s.ns=0:=by
    have x1:¬(s.nt:Int)<=a.t:=om;simp[Hz,D,Cz,DQ,hop,x1,h4]
   rw[Di,AP,C3 h0,C3 h0];simp[Ca,A9,hop,et,j])
  have e2:decide ((s.nt:Int)<=a.t)=false:=ot;have e4:(p !=0)=false:=by rw[<-l];simp[h4]
  clear h4;have ag:=O l;have ah:=O j;clear l j;have d1:(a.op==1)=false:=by simp[hop]
  have d2:(a.op==2)=false:=by simp[hop]
  have d3:(a.op==3)=true:=by simp[hop]
  have d7:(a.op==7)=false:=by simp[hop]
  have d8:(a.op==8)=false:=by simp[hop]
  have d9:(a.op==9)=false:=by simp[hop]
  clear hop;have ET:=O et;clear et
 case' inr.inr.inl=>
  have hT:Cz a.op=true:=by rcases hop with h|h|h<;>rw[h]<;>decide
  have hS:DQ a.op=false:=by rcases hop with h|h|h<;>rw[h]<;>decide
  obtain⟨p,l⟩:=qa<|C2 a.k;obtain⟨b,j⟩:=qa<|Dk a.k;have d:Hid<|Di s a=(SL s t).ask a/\AP s a=s:=O (by
   have h0:Hz a s.nt s.ns=0:=by
    have x1:¬(s.nt:Int)<=a.t:=om;rcases hop with h|h|h<;>simp[Hz,D,Cz,DQ,h,x1]
   rw[Di,AP,C3 h0,C3 h0];rcases hop with h|h|h<;>simp[Ca,A9,h,et])
  have e2:decide ((s.nt:Int)<=a.t)=false:=ot;have ag:=O l;have ah:=O j;clear l j;have d1:(a.op==1)=false:=by rcases hop with h|h|h<;>simp[h]
  have d2:(a.op==2)=false:=by rcases hop with h|h|h<;>simp[h]
  have d3:(a.op==3)=false:=by rcases hop with h|h|h<;>simp[h]
  have d7:(a.op==7)=false:=by rcases hop with h|h|h<;>simp[h]
  have d8:(a.op==8)=false:=by rcases hop with h|h|h<;>simp[h]
  have d9:(a.op==9)=false:=by rcases hop with h|h|h<;>simp[h]
  have ET:=O et;clear hop et
 case' inr.inr.inr=>
  have hT:Cz a.op=true:=by rcases hop with h|h<;>rw[h]<;>decide
  have hS:DQ a.op=false:=by rcases hop with h|h<;>rw[h]<;>decide
  have d:Hid<|Di s a=BA 4/\AP s a=s:=O (by simp[Di,AP,Hz,D,hT,hS,h4,hop,show¬(s.nt:Int)<=a.t by omega]);have e2:decide ((s.nt:Int)<=a.t)=false:=ot;obtain⟨p,l⟩:=qa<|C2 a.k;obtain⟨b,j⟩:=qa<|Dk a.k;have e4:(p !=0)=true:=by rw[<-l];simpa using h4
  have ag:=O l;have ah:=O j;clear l j;have d23:((a.op==2)=true)\/((a.op==2)=false/\(a.op==3)=true):=by rcases hop with h|h<;>simp[h]
  have bk:=O d23;clear h4 hop d23;have ET:=O et;clear et
 all_goals
  obtain⟨ta,tc,rfl⟩:=AF hD.t;obtain⟨sa,sc,rfl⟩:=AF hD.si;obtain⟨W,hW,U,hA,hR,hz⟩:=boxes w a;have HO:Hid<|∀k,Bo c vF (.slice ta s.nt tc) (.slice sa s.ns sc) H s.nt k->k<w.heap.size:=O λk h=>(hD.PK h).2;rcases hD.lt,hD.below U,O hA with⟨bu,R,HA⟩;clear hD hA;go_enter func21,ntmps21;go_wp2_with fail;rw[<-hW];clear hW;refine(F5 a _).mono ?_;rw[D];rintro e w1 ⟨rfl,ax⟩;have g:=O ax;clear ax;have zz:=g.size;have za:w.heap.size<w1.heap.size:=om;have zr:w.heap.size+1<w1.heap.size:=om;have zc:c<w1.heap.size:=om;obtain⟨a0,a1,a2,a3,a4,a5,a6,a7,a8,a9,q,r,a12,u⟩:=(HA.below g om).all;obtain⟨_,c1,c2,_⟩:=(R.below g).cells;go_wp2_with fail;refine(Fw a.op _).mono ?_;rw[hT,hS];rintro e w2 ⟨rfl,ew⟩;rw[ew];clear ew w2;go_wp2_with fail;refine qr w1 ?_;(iterate 11 refine N (h:=?_));refine GS ?_;intro w2 V;clear zz za zr zc a0 a1 a2 a3 a4 a5 a6 a7 a8 a9 q r a12 u c1 c2;have g:=o8 g V;clear V;have zz:=g.size;have za:w.heap.size<w2.heap.size:=om;have zr:w.heap.size+1<w2.heap.size:=om;have zc:c<w2.heap.size:=om;obtain⟨a0,a1,a2,a3,a4,a5,a6,a7,a8,a9,q,r,a12,u⟩:=(HA.below g om).all;obtain⟨_,c1,c2,_⟩:=(R.below g).cells;go_wp2_with fail;refine qr w2 ?_;refine N (h:=N (h:=?_));iterate 8 (go_big_quiet_step (fail))
  refine N (h:=?_);refine GS ?_;intro w3 V;clear zz za zr zc a0 a1 a2 a3 a4 a5 a6 a7 a8 a9 q r a12 u c1 c2;have g:=o8 g V;clear V;have zz:=g.size;have za:w.heap.size<w3.heap.size:=om;have zr:w.heap.size+1<w3.heap.size:=om;have zc:c<w3.heap.size:=om;obtain⟨a0,a1,a2,a3,a4,a5,a6,a7,a8,a9,q,r,a12,u⟩:=(HA.below g om).all;obtain⟨_,c1,c2,_⟩:=(R.below g).cells;go_wp2_with fail;refine(Hv a.k.kind a.k.num a.k.Af a.k.str a.k.ref _).mono ?_;rw[Er,z ag,z ah];rintro e w4 ⟨rfl,ay⟩;clear zz za zr zc a0 a1 a2 a3 a4 a5 a6 a7 a8 a9 q r a12 u c1 c2;have g:=o8 g ay;clear ay;have zz:=g.size;have za:w.heap.size<w4.heap.size:=om;have zr:w.heap.size+1<w4.heap.size:=om;have zc:c<w4.heap.size:=om;obtain⟨a0,a1,a2,a3,a4,a5,a6,a7,a8,a9,q,r,a12,u⟩:=(HA.below g om).all
 .have i:B9 W<|w4.alloc<|.cells #[J p,J b.kind,J b.num,F9 b.Af,.string b.str,J b.ref] 116:=g.alloc g.size _;rcases z bk with d2|⟨d2,d3⟩;all_goals
   obtain⟨w9,o,E,m⟩:=SM.ends U HO hz R hR i<|BA 4;rcases O o,O m,O E with⟨Z,I,L⟩;clear o m E;go_wp2_with (refine Ag rfl rfl _ Z ?_);refine FJ results21 underlying45 L ?_;rw[(z d).1,(z d).2];exact⟨rfl,_,_,_,_,I⟩
 .obtain⟨_,c1,c2,_⟩:=(R.below g).cells;have i:Hid<|B9 W<|w4.alloc<|.cells #[J p,J b.kind,J b.num,F9 b.Af,.string b.str,J b.ref] 116:=O<|g.alloc g.size _;obtain⟨X,hX⟩:=o9<|w4.alloc<|.cells #[J p,J b.kind,J b.num,F9 b.Af,.string b.str,J b.ref] 116;rw[<-hX]at i;have az:=R.below i;have ak:=HA.below i om;have aM:Hid<|C9 53 #[Q9 c,J a.t] X.drew λe w'=>(∃v,e=.returned v/\BT w' X.drew.heap.size v (gO s<|s.T t) (mI s<|s.T t))/\Below X.drew.heap.size X.drew w':=O (by
   rw[z ET];have bm:0<s.nf:=oS (Au hG.f).1.1;have ai:SM X.drew c B vF (.slice ta s.nt tc) (.slice sa s.ns sc) H s:=az.keep (λ_ _=>rfl);rcases ai.OH bm,ai.vG.addr,ai.cells with⟨⟨fb,fc,bn,_,_,hF⟩,⟨A,hA⟩,ao⟩;rw[bn]at ao;exact Up c fc tc t ao.1 ao.2.1 ai.lt hF hA (LI.vD hG) (LI.ok hG) h2)
  have bp:LM w.heap.size a X.drew:=ak.all;have hn:gO s (s.T t)<=500:=pU hG h2;have bq:=O ak;go_wp2_with fail;rw[<-hX];clear zz za zr zc a0 a1 a2 a3 a4 a5 a6 a7 a8 a9 q r a12 u c1 c2;clear hX az ak;refine GH (LM w.heap.size a) ?_;refine tz 0 (h:=tz 1 (h:=tz 2 (h:=tz 4 (h:=?_))));refine ry 3 λK hK=>?_;go_simp;refine aM.mono ?_;rintro e w5 ⟨⟨v,rfl,bb⟩,C⟩;obtain⟨la,lc,rfl,bc⟩:=bb.at;have M:B9 X w5:=⟨C.os,C.tape,C.output,C.size,λk hk=>C.block k hk⟩;have zX:=i.size;have z5:=M.size;have aq:=bq.below M om;have bd:LM w.heap.size a w5:=aq.all;rcases O aq,O<|i.trans<|M.mono zX,O (Zl lc (SL s t) a bc hn hm) with⟨br,bf,ad⟩;refine hK.out _ _ bd λ_=>?_;clear hK K bb bc C M bp aq;refine ry 5 λK hK=>?_;go_simp;refine ad.mono ?_;rintro e w6 ⟨rfl,ar⟩;obtain⟨x,hx⟩:=o9<|(SL s t).ask a;rw[<-hx];rw[<-hx]at d;have au:=br.below ar om;have bg:LM w.heap.size a w6:=au.all;refine hK.out _ _ bg λ_=>?_;clear hK K;have aj:=o8 bf ar;obtain⟨w9,o,P⟩:=BG (hR.below aj hz) x;have Q:LM w.heap.size a w9:=(show Ng w9 w.heap.size a from(P.other _ om).trans au).all;have E:=P.BB;have m:=SM.fin U HO om hz (R.below aj) rfl (BI.Ax aj) P;refine ry 6 λK hK=>?_;refine Bj rfl rfl w9 o ?_;refine hK.out _ _ Q λ_=>?_;clear hK K;refine FE ?_;have L:=O E;have I:=O m;clear o P aj E m bd bg au Q ar ad aM hx;go_wp2_with fail;refine FJ results21 underlying45 L ?_;rw[(z d).1,(z d).2];exact⟨rfl,_,_,_,_,I⟩
 .obtain⟨_,c1,c2,_⟩:=(R.below g).cells;rw[z ET]at a1;have i:Hid<|B9 W<|w4.alloc<|.cells #[J p,J b.kind,J b.num,F9 b.Af,.string b.str,J b.ref] 116:=O<|g.alloc g.size _;have ae:=O<|Me t (R.below i) hG h2 S;go_wp2_with fail;refine ae.mono ?_;rintro e w5 ⟨rfl,C⟩;obtain⟨x,hx⟩:=o9<|Cb s.F (s.T t) b;rw[<-hx];rw[<-hx]at d;clear hx ae;clear zz za zr zc a0 a1 a2 a3 a4 a5 a6 a7 a8 a9 q r a12 u c1 c2;have g:=O<|o8 i C;clear C;obtain⟨w9,o,E,m⟩:=SM.ends U HO hz R hR g<|Gb x;rcases O o,O m,O E with⟨Z,I,L⟩;clear o m E;go_wp2_with (refine Ag rfl rfl _ Z ?_);refine FJ results21 underlying45 L ?_;rw[(z d).1,(z d).2];exact⟨rfl,_,_,_,_,I⟩
 obtain⟨_,c1,c2,_⟩:=(R.below g).cells;rw[z ET]at a1;have i:Hid<|B9 W<|w4.alloc<|.cells #[J p,J b.kind,J b.num,F9 b.Af,.string b.str,J b.ref] 116:=O<|g.alloc g.size _;have af:=O<|Rj t a.v (R.below i) hG h2 S hv;go_wp2_with fail;refine af.mono ?_;rintro e w5 ⟨rfl,bw,H5,bh,av⟩;obtain⟨x,hx⟩:=o9<|CB s t b a.v;rw[<-hx];have bt:=O hx;clear hx af;clear zz za zr zc a0 a1 a2 a3 a4 a5 a6 a7 a8 a9 q r a12 u c1 c2;have bj:Hb w5<|w.heap.size+1:=(av.block _ (oS i.size) λe=>oS<|z HO _ e).trans<|hR.below i om;obtain⟨w9,o,Q⟩:=BG bj<|BA x;have Z:=O o;have I:=O<|SM.fin U HO om hz bh (N3 _ _ _ _) ((BI.Ax i).trans av) Q;have L:=O<|Q.BB;clear bj o Q bh av;go_wp2_with (refine Ag rfl rfl _ Z ?_);refine FJ results21 underlying45 L ?_;rw[(z d).1,(z d).2,<-z bt,N3];exact⟨rfl,_,_,_,_,I⟩
def iH{a}(h:Co a=true):a.v.ok=true:=by
 grind [Co,J3]
def dA a{w}(hD:SM w c B vF vT vS H s)(g:LH s)(i:Wf a.k):VD c B vF vT vS H s a w:=by
 by_cases b:Co a=true
 .obtain⟨⟨o1,q⟩,n,_,LK,_,j⟩:=iG b;have l:=iH b;by_cases h1:a.op=1
  .grind [hD,UW]
  by_cases o:a.op=7
  .grind [hD,UW]
  have r:Cz a.op=true:=by simp[Cz,h1,o]
  by_cases h2:(s.nt:Int)<=a.t
  .grind [hD,pE]
  have p:a.t<(s.nt:Int):=om;have d:a.t.toNat<s.nt:=om;have et:a.t=(a.t.toNat:Int):=om;by_cases m:DQ a.op=true
  .by_cases h3:(s.ns:Int)<=a.site
   .grind [hD,pG]
   have e:a.site.toNat<s.ns:=om;have es:a.site=(a.site.toNat:Int):=om;have f:a.op=8\/a.op=9:=by simpa[DQ]using m
   rcases f with h|h
   .exact RB hD g b (.inl h) _ et d _ es e l
   exact RB hD g b (.inr h) _ et d _ es e l
  have f:a.op≠8/\a.op≠9:=by simpa[DQ]using m
  exact kR hD g b _ et d i l j (by
   by_cases h4:C2 a.k=0
   .rcases(by omega:a.op=2\/a.op=3\/(a.op=4\/a.op=5\/a.op=6))with h|h|h
    .exact .inl ⟨h,h4⟩
    .exact .inr (.inl ⟨h,h4⟩)
    exact .inr<|.inr<|.inl h
   rcases(by omega:(a.op=2\/a.op=3)\/(a.op=4\/a.op=5\/a.op=6))with h|h
   .exact .inr (.inr<|.inr ⟨h,h4⟩)
   exact .inr (.inr (.inl h)))
 grind [hD,pC]
def SM.J5{B'}(h:SM w c B vF vT vS H s)(hb:B'<=B):SM w c B' vF vT vS H s:=
 ⟨oS h.base,h.BB,Eg h.f hb,Eg h.t hb,Eg h.si hb,λi hi=>Eg (h.v i hi) hb,λi hi=>Eg (h.l i hi) hb,λi hi=>Eg (h.i i hi) hb,λi hi=>Eg (h.x i hi) hb,h.ap,h.ij⟩
def Wd fc{ta:Option Addr}tc{sa:Option Addr}sc{s}{w}(hF:Bd w m s.nf s.F)(cb:s.nf<=200)(hT:RV w ta s.nt s.T)(hS:FM w sa s.ns s.S)(bu:Kh s)(dh:s.nt<=100)(di:s.ns<=50):
  C9 20 #[Qk (some<|G m 0) fc ta tc sa sc s] w λe w'=>(∃c vF vT vS H,e=.returned (Q9 c)/\SM w' c w.heap.size vF vT vS H s)/\B9 w w':=by
 have hl:=hF.lt;obtain⟨W,hW,hb,hz,o0⟩:=JZ w<|.cells #[S9 m s.nf fc,.slice ta s.nt tc,.slice sa s.ns sc] 42;rcases v3 o0,O<|Wc fc (hF.below hb hl) cb,hT.below hb rfl,hS.below hb rfl,ON JJ,ON Hm,ON FZ with⟨⟨_,s1,s2⟩,HC,HT,HS,⟨i0,cc,cd,cg,ch⟩,⟨j0,cj,ck,cl,cm⟩,⟨v0,cn,cp,cq,cr⟩⟩;clear hF hT hS;go_enter func20,ntmps20;go_wp2_with fail;rw[<-hW];refine HC.mono ?_;rintro e w1 ⟨⟨vF,rfl,hO⟩,aw⟩;have z1:=aw.size;have t1:=(aw.cell<|by show w.heap.size<W.heap.size;omega).trans s1;have l1:w.heap.size<w1.heap.size:=om;clear hW s1 HC;obtain⟨w2,bw,ax,_,ar⟩:=JZ w1<|.cells #[vF,N9,N9] 42;have u1:=(ax.cell l1).trans t1;have bx:Hid<|SM w2 w1.heap.size W.heap.size vF N9 N9 (λ_=>LK) {s with nt:=0,ns:=0}:=O ⟨om,ar,WD hO ax,NB _ _ _ _,NB _ _ _ _,λi hi=>absurd hi<|To _,λi hi=>absurd hi<|To _,λi hi=>absurd hi<|To _,λi hi=>absurd hi<|To _,λi hi=>absurd hi<|To _,λi j q hi=>absurd hi<|To _⟩;have ct:=aw.trans<|ax.mono z1;clear ax ar;obtain⟨c,hc⟩:=o9 w1.heap.size;rw[<-hc]at bx;go_wp2_with fail;rw[<-bw,<-hc];clear bw t1 hc hO aw;go_loopw [19] (λi wr=>∃(k:Nat) (vT:V9) (H:Nat->Hs),k<=s.nt/\i=J k/\SM wr c W.heap.size vF vT N9 H {s with nt:=k,ns:=0}/\B9 W wr) λi _=>s.nt-(intOf i).toNat
 .exact⟨0,_,_,W9 _,rfl,bx,ct⟩
 obtain⟨k,vT,H,hk,rfl,hM,o⟩:=hrel;obtain⟨w0,cu⟩:=o9 wr;subst cu;by_cases aM:k<s.nt
 case pos=>
  obtain⟨b,off,rfl,a6,hcs⟩:=HT.resolve_left om;obtain⟨va,vc,la,lc,ia,ic,xa,xc,cv,hv,hd⟩:=(hcs k aM).below o a6;obtain⟨e0,e1,e2,e3,e4,e5,e6,e7⟩:=cv;have bz:=o.size;have cw:=hM.lt;obtain⟨ua,uc,rfl⟩:=AF hM.t;rcases O hM,O o,qa<|s.T k,O (ql (bu.nv aM)<|bu.I5 aM) with⟨R,B,⟨t,ht⟩,a7⟩;rw[ht]at e0 e1 e2 e3 e4 e5 e6 e7 hv hd a7;rcases O ht,a7.1,o9 ((w0.alloc<|.cells #[J t.shape,.slice va t.nv vc,.slice la t.d.n lc,.slice ia t.d.m ic,.slice xa t.d.x xc,J t.d.used,J t.d.live,J t.d.turns] 105).alloc<|.cells #[J t.shape,N9,N9,N9,N9,J 0,J 0,J 0] 105) with⟨a8,dj,⟨X6,E⟩⟩;have H6:Hid<|Tm w0 va vc la lc ia ic xa xc t 0 N9 X6:=O (by
   rw[E];refine⟨(DO _ _ _ oq).trans (DD _ _),?_,NB _ _ _ _,(n9).alloc oq _⟩;have h:=DD (w0.alloc (.cells #[J t.shape,.slice va t.nv vc,.slice la t.d.n lc,.slice ia t.d.m ic,.slice xa t.d.x xc,J t.d.used,J t.d.live,J t.d.turns] 105)) (.cells #[J t.shape,N9,N9,N9,N9,J 0,J 0,J 0] 105);rw[show(w0.alloc (.cells #[J t.shape,.slice va t.nv vc,.slice la t.d.n lc,.slice ia t.d.m ic,.slice xa t.d.x xc,J t.d.used,J t.d.live,J t.d.turns] 105)).heap.size=w0.heap.size+1 by simp]at h;exact h)
  have x1:X6.cell? (y w0 1)=some (.slice va t.nv vc):=by rw[E];simp[go_sem]
  clear hM o hcs ht HT;go_wp2_with fail;rw[<-E];clear E e0 e1 e2 e3 e4 e5 e6 e7;go_loopw [29] (λj wj=>∃(q:Nat) (vV:V9),q<=t.nv/\j=J q/\Tm w0 va vc la lc ia ic xa xc t q vV wj) λj _=>t.nv-(intOf j).toNat
  .exact⟨0,_,W9 _,rfl,H6⟩
  obtain⟨q,vV,hq,rfl,Q⟩:=hrel;obtain⟨oa,oc,rfl⟩:=AF Q.row;have b0:=Ah Q.b6;by_cases bb:q<t.nv
  case pos=>
   obtain⟨b',bq,rfl,br,au⟩:=hv.resolve_left om;obtain⟨f0,f1,f2,f3,f4⟩:=(au q bb).keep λp=>Q.below.cell br;have y1:wr.cell? (Y9 w0 1)=some (.slice oa q oc):=by rw[MM wr _ 1 _ _ _ Q.b6];rfl
   obtain⟨x,hx⟩:=qa<|t.V q;rw[hx]at f0 f1 f2 f3 f4;obtain⟨X8,bc,bd,z8,_⟩:=JZ wr<|.cells (Hd x).toArray 43;have bf:B9 wr<|X8.alloc<|.cells (Hd x).toArray 43:=bd.alloc om _;have af:=WD Q.row bf;have cx:Hid (∀g3 a w5,w5.ownsRow (w0.heap.size+2) 43 5 (S9 g3 (q+1) a) (q+1) (MA t.V q++Hd x)->(X8.alloc<|.cells (Hd x).toArray 43).grownBy w5 (Value.slice oa q oc).ownBlock->((Value.slice oa q oc).ownBlock=some g3\/g3=X8.heap.size+1)->
     w5.heap[w0.heap.size+1]?=some (.cells #[J t.shape,.slice oa q oc,N9,N9,N9,J 0,J 0,J 0] 105 (0,0))/\Tm w0 (some (G b' bq)) vc la lc ia ic xa xc t (q+1) (S9 g3 (q+1) a) (w5.setCell (Y9 w0 1) (S9 g3 (q+1) a))):=O (λg3 a w5 k1 k2 k3=>Q.step bf k2 (by rw[hx];exact k1) (k3.imp id (λe=>by rw[e];simp)))
   have HX:=O bc;have x5:∀j u,(Hd x)[j]?=some u->X8.cell? (y wr j)=some u:=λj u hu=>by
    have cy:X8.heap[wr.heap.size]?=some (.cells (Hd x).toArray 43 (0,0)):=by rw[bc];exact DD _ _
    rw[MM X8 _ j _ _ _ cy];simpa using hu
   obtain⟨p0,p1,p2,p3,p4⟩:=qe x5;have y8:=oT bd b0 y1;have zz:w0.heap.size+1<X8.heap.size:=om;clear Q au bd bf hx x5 bc z8;go_upto_region 9 with fail
   rw[show wr.alloc (.cells (qf x) 43)=X8 from(z HX).symm];clear HX y1;go_wp2_with (first|(at_builtin;refine So _ rfl _ _ 100 rfl (w0.heap.size+2) 43 v0 (V 0 0 0 ⟨#[]⟩ 0) 5 48 underlying100 cn cp cq cr rfl oo (.slice oa q oc) q (MA t.V q) rfl af (y X8 0) 1 1 (Hd x) rfl rfl (ID<|DD X8 _) (by simp[Hd,Value.oneCell']) oo od om ot (X8.heap.size+1) oq ?_;intro g3 a w5 f A g av;obtain⟨o5,b1⟩:=z cx g3 a w5 f A g;have cz:=O b1;have dk:=Ah o5;have dm:w5.cell? (Y9 w0 1)=some (.slice oa q oc):=(by rw[MM w5 _ 1 _ _ _ o5];rfl);have dn:w5.frozen? (Y9 w0 1)=false:=(by simp[World.frozen?,o5]);clear f A g b1 o5)|go_in);go_roundw
   .exact⟨q+1,_,om,ov,cz⟩
   exact ow
  case neg=>
   have bg:q=t.nv:=om;subst bg;have y2:wr.cell? (y w0 2)=some (.slice la t.d.n lc):=by rw[MM wr _ 2 _ _ _ Q.b5];rfl
   have y3:wr.cell? (y w0 3)=some (.slice ia t.d.m ic):=by rw[MM wr _ 3 _ _ _ Q.b5];rfl
   have y4:wr.cell? (y w0 4)=some (.slice xa t.d.x xc):=by rw[MM wr _ 4 _ _ _ Q.b5];rfl
   have y5:wr.cell? (y w0 5)=some (J t.d.used):=by rw[MM wr _ 5 _ _ _ Q.b5];rfl
   have y6:wr.cell? (y w0 6)=some (J t.d.live):=by rw[MM wr _ 6 _ _ _ Q.b5];rfl
   have y7:wr.cell? (y w0 7)=some (J t.d.turns):=by rw[MM wr _ 7 _ _ _ Q.b5];rfl
   have HC:=O Q;have b2:=O<|Pa lc ic xc (hd.below Q.below) a7.2;clear Q;go_wp2_with fail;refine b2.mono ?_;rintro e w4 ⟨⟨c4,d0,d1,d2,rfl,cD,D⟩,bh⟩;subst cD;obtain⟨b3,b4,b7,b8,b9,ca,rfl,rfl,rfl,cN⟩:=D.ptr;rcases D.c0,D.c1,D.c2,D.c3,D.c4,D.c5,(bh.block _ b0).trans HC.b6 with⟨n0,n1,n2,n3,n4,n5,k6⟩;have m2:w4.cell? (Y9 w0 2)=some (N9):=by rw[MM w4 _ 2 _ _ _ k6];rfl
   have m3:w4.cell? (Y9 w0 3)=some (N9):=by rw[MM w4 _ 3 _ _ _ k6];rfl
   have m4:w4.cell? (Y9 w0 4)=some (N9):=by rw[MM w4 _ 4 _ _ _ k6];rfl
   have m5:w4.cell? (Y9 w0 5)=some (J 0):=by rw[MM w4 _ 5 _ _ _ k6];rfl
   have m6:w4.cell? (Y9 w0 6)=some (J 0):=by rw[MM w4 _ 6 _ _ _ k6];rfl
   have m7:w4.cell? (Y9 w0 7)=some (J 0):=by rw[MM w4 _ 7 _ _ _ k6];rfl
   have c6:∀j,w4.frozen? (Y9 w0 j)=false:=λj=>by simp[World.frozen?,k6]
   obtain⟨X,hX⟩:=o9<|(((((w4.setCell (Y9 w0 2)<|.slice b3 t.d.n b4).setCell (Y9 w0 3)<|.slice b7 t.d.m b8).setCell (Y9 w0 4)<|.slice b9 t.d.x ca).setCell (Y9 w0 5)<|J t.d.used).setCell (Y9 w0 6)<|J t.d.live).setCell (Y9 w0 7)<|J t.d.turns;have c7:=O<|HC.I5 bh D hX;have c8:=O D.ap;obtain⟨r,ay⟩:∃r:Hs,r=⟨.slice oa t.nv oc,.slice b3 t.d.n b4,.slice b7 t.d.m b8,.slice b9 t.d.x ca⟩:=⟨_,rfl⟩;have U:Hid<|X.heap[w0.heap.size+1]?=some (.cells (Hx r t).toArray 105 (0,0))/\Cc X (w0.heap.size+2) r.v t.nv t.V/\BT X (w0.heap.size+2) r.l t.d.n t.d.L/\Bq X (w0.heap.size+2) r.i t.d.m t.d.I/\Bq X (w0.heap.size+2) r.x t.d.x t.d.X/\B9 w0 X:=O (by rw[ay];exact c7);have c9:Hid<|∀q,r.i.ownBlock=some q->r.x.ownBlock≠some q:=O (by rw[ay];exact c8);obtain⟨Z,hY⟩:=o9<|(X.alloc<|.cells (Hx r t).toArray 105).drew;have C:B9 X Z:=by rw[hY];exact(n9).drew
   have zY:Z.heap.size=X.heap.size+1:=by rw[hY];simp
   have zX:=U.2.2.2.2.2.size;have bj:=Ah U.1;have M:=U.2.2.2.2.2.trans<|C.mono zX;have af:Z.ownsRow W.heap.size 105 8 (.slice ua k uc) k<|RH H s.T k:=WD (R.t) M;have bk:Hid<|∀j u,(Hx r t)[j]?=some u->Z.cell? (((y X 0):Addr).add j)=some u:=O (by rw[hY];exact ID (w:=(X.alloc _).drew)<|DD X _);have bt:Hid<|∀u∈Hx r t,u.oneCell'=true:=O (by rw[ay];simp[Hx,Value.oneCell']);have bm:W.heap.size<=Z.heap.size:=om;have ag:=JG (W:=X.drew) U.1;have ae:=(C.block _ bj).trans U.1;rcases JG ae,(R.below U.2.2.2.2.2).cells.2.1,(R.below M).cells.2.1 with⟨P,bn,bp⟩;have HF:Hid (∀g3 a w3,w3.ownsRow W.heap.size 105 8 (S9 g3 (k+1) a) (k+1) (RH H s.T k++Hx r t)->Z.grownBy w3 (Value.slice ua k uc).ownBlock->((Value.slice ua k uc).ownBlock=some g3\/g3=Z.heap.size)->
     LV (w0.heap.size+1) r t w3/\LV (w0.heap.size+1) r t (w3.setCell (G c 1) (S9 g3 (k+1) a))/\w3.cell? (G c 1)=some (.slice ua k uc)/\w3.frozen? (G c 1)=false/\c<w3.heap.size/\Hid (SM (w3.setCell (G c 1) (S9 g3 (k+1) a)) c W.heap.size vF (S9 g3 (k+1) a) N9 (AX H k r) {s with nt:=k+1,ns:=0}/\B9 W (w3.setCell (G c 1) (S9 g3 (k+1) a)))):=O (λg3 a w3 h1 h2 h3=>by
    obtain⟨_,q1,q2,q3,q4,q5⟩:=z U;have da:∀q,r.own q->w0.heap.size<=q:=λq e=>by
     rcases e with e|e|e|e
     .have:=(q1.lt q e).1;omega
     .have:=(q2.lt q e).1;omega
     .have:=(q3.lt q e).1;omega
     have:=(q4.lt q e).1;omega
    have az:W.heap.size<=w0.heap.size+2:=om;obtain⟨k1,k2,k3⟩:=SM.rG (s:={s with nt:=k,ns:=0}) (t0:=t) R M h2 h1 (h3.imp id λe=>Nat.le_of_eq e.symm) (Eg (WD q1 C) az) (Eg (WD q2 C) az) (Eg (WD q3 C) az) (Eg (WD q4 C) az) c9 da;have eT:=IG s.T k;rw[z a8]at eT;have ah:=(h2.block _ om λe=>oS (R.t.lt _ e.symm).2).trans ae;refine⟨JG ah,JG<|(At _ _ _ _<|by show w0.heap.size+1≠c;omega).trans ah,by rw[MM w3 c 1 _ _ _ k1];rfl,by simp[World.frozen?,k1],Ah k1,O ⟨?_,?_⟩⟩
    .have ai:SM _ c W.heap.size vF (S9 g3 (k+1) a) N9 (AX H k r) {s with nt:=k+1,ns:=0,T:=AX s.T k t}:=k2;rw[eT]at ai;exact ai
    exact⟨k3.os.trans B.os,k3.tape.trans B.tape,k3.output.trans B.output,GP bz k3.size,λq hq=>(k3.block q om (λe=>oS (R.PK e).1)).trans (B.block q hq)⟩)
   have HY:=O hY;have aj:=O hX;clear D bh cN k6 y2 y3 y4 y5 y6 y7 b2 hX hY C zY M ae;go_upto_region 12 with fail
   rw[<-z aj];clear aj m2 m3 m4 m5 m6 m7 c6 n0 n1 n2 n3 n4 n5;clear ay;refine GH (LV (w0.heap.size+1) r t) ?_;refine tz 0 (h:=tz 1 (h:=tz 2 (h:=tz 3 (h:=tz 5 (h:=?_)))));refine TO (rs:=[4,6]) ou oq ?_;refine IH rfl (λK hK=>?armA) (IH rfl (λK hK=>?armB) Tn)
   case' armA=>
    go_simp;refine hK.out _ _ ag λ_=>?_;clear hK K;refine ry 6 λK hK=>?_;go_simp;rw[show(World.drew (X.alloc (.cells #[J t.shape,r.v,r.l,r.i,r.x,J t.d.used,J t.d.live,J t.d.turns] 105)))=Z from(z HY).symm];refine hK.out _ _ P λ_=>?_;clear hK K
   case' armB=>
    go_simp;rw[show(World.drew (X.alloc (.cells #[J t.shape,r.v,r.l,r.i,r.x,J t.d.used,J t.d.live,J t.d.turns] 105)))=Z from(z HY).symm];refine hK.out _ _ P λ_=>?_;clear hK K;refine ry 4 λK hK=>?_;go_simp;refine hK.out _ _ P λ_=>?_;clear hK K
   all_goals
    refine ry 7 λK hK=>?_;refine Wx _ rfl (.tmp 50) (.tmp 52) 39 rfl W.heap.size 105 i0 (.agg #[J 0,N9,N9,N9,N9,J 0,J 0,J 0]) 8 128 underlying39 cc cd cg ch rfl oo (.slice ua k uc) k (RH H s.T k) og af (y X 0) 1 1 (Hx r t) og rfl bk bt oo od om bm _ rfl ?_;intro g3 a w3 f A g av;obtain⟨ak,ao,x0,dc,x2,aq⟩:=z HF g3 a w3 f A g;clear f A g;refine hK.out _ _ ak λ_=>?_;clear hK K;refine tz 8 (h:=tz 9 (h:=?_));refine ry 10 λK hK=>?_;go_simp;refine hK.out _ _ ao λ_=>?_;clear hK K;refine FE ?_;clear ak ao ag P bn bp;go_wp2_with fail;go_roundw
    .exact⟨k+1,_,_,om,ov,aq.1,aq.2⟩
    exact ow
 case neg=>
  have dd:k=s.nt:=om;subst dd;have bz:=o.size;rcases oT o (by show w.heap.size<W.heap.size;omega) s2,O hM,O o with⟨u2,R,B⟩;clear hM o;go_wp2_with fail;go_loopw [60] (λi wr=>∃(q:Nat) (vS:V9),q<=s.ns/\i=J q/\SM wr c W.heap.size vF vT vS H {s with ns:=q}/\B9 W wr) λi _=>s.ns-(intOf i).toNat
  .exact⟨0,_,W9 _,rfl,R,B⟩
  obtain⟨q,vS,hq,rfl,hM,o⟩:=hrel;by_cases bb:q<s.ns
  case neg=>
   have bg:q=s.ns:=om;subst bg;have HE:Hid<|(∃c' vF vT vS H,Ending.returned (Q9 c)=.returned (Q9 c')/\SM wr c' w.heap.size vF vT vS H s)/\B9 w wr:=O ⟨⟨c,vF,vT,vS,H,rfl,hM.J5 om⟩,o8 hb o⟩;clear hM o;go_wp2;go_ret;exact HE
  case pos=>
   obtain⟨b,off,rfl,a6,hcs⟩:=HS.resolve_left om;rcases (hcs q bb).keep (λp=>o.cell a6),o.size,hM.lt with⟨⟨f0,f1,f2,f3,f4⟩,df,cw⟩;obtain⟨ua,uc,rfl⟩:=AF hM.si;obtain⟨x,hx⟩:=qa<|s.S q;rw[hx]at f0 f1 f2 f3 f4;rcases O hx,O hM,O o,JZ wr (.cells (FT x).toArray 107) with⟨a8,R,B,⟨X,hX,ad,_,E⟩⟩;obtain⟨Z,hY⟩:=o9<|(X.alloc<|.cells (FT x).toArray 107).drew;have C:B9 X Z:=by rw[hY];exact(n9).drew
   have zY:Z.heap.size=X.heap.size+1:=by rw[hY];simp
   have zX:=ad.size;have bj:=Ah E;have M:=ad.trans<|C.mono zX;have af:Z.ownsRow W.heap.size 107 5 (.slice ua q uc) q<|IQ s.S q:=WD (R.si) M;have bk:Hid<|∀j u,(FT x)[j]?=some u->Z.cell? (((y X 0):Addr).add j)=some u:=O (by rw[hY];exact ID (w:=(X.alloc _).drew)<|DD X _);have bm:W.heap.size<=Z.heap.size:=om;have ag:=JF (W:=X.drew) E;have ae:=(C.block _ bj).trans E;have P:=JF ae;have bn:X.cell? (G c 2)=some (.slice ua q uc):=(R.below ad).cells.2.2.1;have bp:Z.cell? (G c 2)=some (.slice ua q uc):=(R.below M).cells.2.2.1;have HF:Hid (∀g3 a w3,w3.ownsRow W.heap.size 107 5 (S9 g3 (q+1) a) (q+1) (IQ s.S q++FT x)->Z.grownBy w3 (Value.slice ua q uc).ownBlock->((Value.slice ua q uc).ownBlock=some g3\/g3=Z.heap.size)->
     LU wr.heap.size x w3/\LU wr.heap.size x (w3.setCell (G c 2) (S9 g3 (q+1) a))/\w3.cell? (G c 2)=some (.slice ua q uc)/\w3.frozen? (G c 2)=false/\c<w3.heap.size/\Hid (SM (w3.setCell (G c 2) (S9 g3 (q+1) a)) c W.heap.size vF vT (S9 g3 (q+1) a) H {s with ns:=q+1}/\B9 W (w3.setCell (G c 2) (S9 g3 (q+1) a)))):=O (λg3 a w3 h1 h2 h3=>by
    obtain⟨k1,k2,k3⟩:=SM.mA R x M h2 h1<|h3.imp id λe=>Nat.le_of_eq e.symm;have eT:=IG s.S q;rw[z a8]at eT;have ah:=(h2.block _ om λe=>oS (R.si.lt _ e.symm).2).trans ae;refine⟨JF ah,JF<|(At _ _ _ _<|by show wr.heap.size≠c;omega).trans ah,by rw[MM w3 c 2 _ _ _ k1];rfl,by simp[World.frozen?,k1],Ah k1,O ⟨?_,?_⟩⟩
    .have ai:SM _ c W.heap.size vF vT (S9 g3 (q+1) a) H {s with ns:=q+1,S:=AX s.S q x}:=k2;rw[eT]at ai;exact ai
    exact⟨k3.os.trans B.os,k3.tape.trans B.tape,k3.output.trans B.output,GP df k3.size,λq hq=>(k3.block q om (λe=>oS (R.PK e).1)).trans (B.block q hq)⟩)
   have HY:=O hY;have aj:=O hX;clear hM o hX hY C zY M ad E ae hcs hx;go_upto_region 17 with fail
   rw[show wr.alloc (.cells #[.string x.key,J x.shape,J x.place,J x.Ce,J x.AD] 107)=X from(z aj).symm];clear aj f0 f1 f2 f3 f4;refine GH (LU wr.heap.size x) ?_;refine tz 0 (h:=tz 1 (h:=tz 2 (h:=tz 3 (h:=tz 5 (h:=?_)))));refine TO (rs:=[4,6]) ou oq ?_;refine IH rfl (λK hK=>?armC) (IH rfl (λK hK=>?armD) Tn)
   case' armC=>
    go_simp;refine hK.out _ _ ag λ_=>?_;clear hK K;refine ry 6 λK hK=>?_;go_simp;rw[show(World.drew (X.alloc (.cells #[.string x.key,J x.shape,J x.place,J x.Ce,J x.AD] 107)))=Z from(z HY).symm];refine hK.out _ _ P λ_=>?_;clear hK K
   case' armD=>
    go_simp;rw[show(World.drew (X.alloc (.cells #[.string x.key,J x.shape,J x.place,J x.Ce,J x.AD] 107)))=Z from(z HY).symm];refine hK.out _ _ P λ_=>?_;clear hK K;refine ry 4 λK hK=>?_;go_simp;refine hK.out _ _ P λ_=>?_;clear hK K
   all_goals
    refine ry 7 λK hK=>?_;refine Wx _ rfl (.tmp 68) (.tmp 70) 40 rfl W.heap.size 107 j0 (.agg #[E9,J 0,J 0,J 0,J 0]) 5 48 underlying40 cj ck cl cm rfl oo (.slice ua q uc) q (IQ s.S q) og af (y X 0) 1 1 (FT x) og rfl bk (by simp[FT,Value.oneCell']) oo od om bm _ rfl ?_;intro g3 a w3 f A g av;obtain⟨ak,ao,x0,dc,x2,aq⟩:=z HF g3 a w3 f A g;clear f A g;refine hK.out _ _ ak λ_=>?_;clear hK K;refine tz 8 (h:=tz 9 (h:=?_));refine ry 10 λK hK=>?_;go_simp;refine hK.out _ _ ao λ_=>?_;clear hK K;refine FE ?_;clear ak ao ag P bn bp;go_wp2_with fail;go_roundw
    .exact⟨q+1,_,om,ov,aq.1,aq.2⟩
    exact ow
def TF p w:
  C9 30 #[H7 p,H7 p] w (R9 (.bool true) w):=by
 go_enter func30,ntmps30;go_wp2_with fail;refine m9 (EI p.key.kind p.key.num p.key.Af p.key.str p.key.ref _) λw1 a=>?_;obtain⟨f,g⟩:=AO a;have d:=a.size;simp at d;have j:w.heap.size<w1.heap.size:=om;have k:w.heap.size+1<w1.heap.size:=om;have c:=O<|((n9).alloc oq _).trans<|a.mono ot;clear a;go_wp2_with fail;refine m9 (EI p.val.kind p.val.num p.val.Af p.val.str p.val.ref _) λw2 b=>?_;obtain⟨h,i⟩:=AO b;have e:=O<|o8 c b;clear b;go_wp2;go_ret;exact⟨rfl,e⟩
def JP(s i:Nat):List Value:=[J ((s:Int)+3*(i:Int)),.string (mark (s+3*i+1)),J ((s:Int)+3*(i:Int)+1+1)]
def Le(s j:Nat):Value:=((JP s<|j/3)[j%3]?).getD undef
def Pu s k i(hi:i<3):Le s (k*3+i)=((JP s k)[i]?).getD undef:=by
 grind [Le,JP]
def Wv(b n cap Z s:Nat)g w(hA:w.rowIs b 142 Z g)(hN:n*3<=Z)(hn:n<=4194304)(hs:s<=100000000000000):
  C9 67 #[S9 b n cap,J s] w λe w'=>(e=.returned (J<|(s)+3*(n))/\∃g',w'.rowIs b 142 Z g'/\∀j,j<n*3->g' j=Le s j)/\Bt b w w':=by
 go_enter func67,ntmps67;go_wp2;go_loopw [1,5] (λq i wr=>∃(k:Nat) (g:Nat->Value),k<=n/\i=J (k:Int)/\q=J ((s:Int)+3*(k:Int))/\Bt b w wr/\wr.rowIs b 142 Z g/\∀j,j<k*3->g j=Le s j) λ_ i _=>n-(intOf i).toNat
 .exact⟨0,g,om,rfl,oq,Bt.refl _ _,hA,λj hj=>om⟩
 obtain⟨k,g,hk,rfl,rfl,hb,c,p⟩:=hrel;by_cases t:k<n
 .have m:=c.lt;have d:∀w:World,_:=λw=>BF (s+3*k+1) om w;rw[show((s+3*k+1:Nat):Int)=(s:Int)+3*(k:Int)+1 by omega]at d;have d0:=c.cell (i:=k*3) om;have e0:=c.frozen<|k*3;have d1:=c.cell (i:=k*3+1) om;have e1:=c.frozen<|k*3+1;have d2:=c.cell (i:=k*3+2) om;have e2:=c.frozen<|k*3+2;go_wp2_with fail;refine(z (O d) _).mono ?_;rintro e w1 ⟨rfl,f⟩;have a:=((z<|O c).set (k*3)<|J<|(s:Int)+3*(k:Int)).of_block<|f.block b (by simpa using m);have d1:=a.cell (i:=k*3+1) om;have e1:=a.frozen<|k*3+1;have d2:=a.cell (i:=k*3+2) om;have e2:=a.frozen<|k*3+2;go_wp2;go_roundw
  .refine⟨k+1,_,om,ov,ov,((z<|(hb.trans<|Bt.set b (k*3) _<|J<|(s:Int)+3*(k:Int)).trans<|Bt.of f).trans<|Bt.set b (k*3+1) _<|.string<|mark<|s+3*k+1).trans<|Bt.set b (k*3+2) _<|J<|(s:Int)+3*(k:Int)+1+1,(a.set (k*3+1)<|.string<|mark<|s+3*k+1).set (k*3+2)<|J<|(s:Int)+3*(k:Int)+1+1,λj hj=>?_⟩;by_cases o:j<k*3
   .have h:∀i,i<3->j≠k*3+i:=λi _=>om;simp only[show j≠k*3 by omega,h 1 om,h 2 om,XN];exact z (O p) j o
   obtain⟨i,hi,rfl⟩:∃i,i<3/\j=k*3+i:=⟨j-k*3,om,om⟩;rw[Pu _ k i hi];rcases(by omega:i=0\/i=1\/i=2)with rfl|rfl|rfl<;>simp[JP]
  exact ow
 have l:k=n:=om;subst l;have r:=O<|ql c p;go_wp2;go_ret;exact⟨⟨rfl,_,r.1,r.2⟩,hb⟩
def V2 b n cap s w(hl:b<w.heap.size)(hA:∀i,i<n->∀j u,(JP s i)[j]?=some u->w.cell? (G b<|i*3+j)=some u)(hn:n<=4194304)(hs:s<=100000000000000):
  C9 114 #[S9 b n cap,J s] w (R9 (J<|(s:Int)+3*(n:Int)) w):=by
 have o:=O hA;clear hA;go_enter func114,ntmps114;go_wp2;go_loopw [1,5] (λq i wr=>∃(k:Nat),k<=n/\i=J k/\q=J ((s:Int)+3*(k:Int))/\B9 w wr) λ_ i _=>n-(intOf i).toNat
 .exact⟨0,om,rfl,oq,BE _ _⟩
 obtain⟨k,hk,rfl,rfl,hb⟩:=hrel;have c:=A0 hl hb.size;by_cases g:k<n
 .have hc:∀j u,(JP s k)[j]?=some u->wr.cell? (G b<|k*3+j)=some u:=λj u hu=>oT hb hl<|o k g j u hu;have d0:wr.cell? (G b<|k*3)=some (J<|(s:Int)+3*(k:Int)):=hc 0 _ rfl;have d1:=hc 1 _ rfl;have d2:=hc 2 _ rfl;have d:∀w:World,_:=λw=>BF (s+3*k+1) om w;rw[show((s+3*k+1:Nat):Int)=(s:Int)+3*(k:Int)+1 by omega]at d;have r:=O d;have e:=O hb;clear hb hc d;go_wp2;refine qr wr ?_;(iterate 6 refine N (h:=?_));refine GC λK hK=>?_;go_simp;refine⟨_,λw' l=>qk l<|r _,hK _ ?_⟩;clear hK K;refine N (h:=?_);refine GS ?_;intro w1 a;have m:=O<|o8 e a;have t:=A0 c a.size;replace d1:=(a.cell c).trans d1;replace d2:=(a.cell c).trans d2;clear a e d0;go_wp2;go_roundw
  .exact⟨k+1,om,ov,ov,m⟩
  exact ow
 have f:k=n:=om;subst f;have v:=O hb;clear hb;go_wp2;go_ret;exact⟨rfl,v⟩
def TK{a:Option Addr}cap l{f}{w}(hA:IY w a n f)(s:IY w a' n f)(hn:n<=1048576):
  C9 64 #[.slice a n cap,.slice a' n l] w (R9 (.bool true) w):=by
 have u:=O hA;have v:=O s;clear hA s;go_enter func64,ntmps64;go_wp2;go_loopw [5] (λi wr=>∃(k:Nat),k<=n/\i=J k/\B9 w wr) λi _=>n-(intOf i).toNat
 .exact⟨0,om,rfl,BE _ _⟩
 obtain⟨k,hk,rfl,hb⟩:=hrel;by_cases m:k<n
 .obtain⟨b,off,rfl,d,hcs⟩:=u.resolve_left om;obtain⟨b',t,rfl,c,g⟩:=v.resolve_left om;obtain⟨e0,e1,e2⟩:=hcs k m;obtain⟨d0,d1,d2⟩:=g k m;rcases (hb.cell d).trans e0,(hb.cell d).trans e1,(hb.cell d).trans e2,(hb.cell c).trans d0,(hb.cell c).trans d1,(hb.cell c).trans d2,A0 d hb.size,A0 c hb.size,O hb with⟨e0,e1,e2,d0,d1,d2,A,x,o⟩;clear hb hcs g;have q:Hid<|∀w,C9 111 #[Sh (f k).parent (f k).key (f k).count,Sh (f k).parent (f k).key (f k).count] w<|R9 (.bool true) w:=O λw=>(TL _ _ _ _ _ _ w).mono λe w' h=>⟨by rw[h.1];simp,h.2⟩;go_wp2_with fail;refine qr wr ?_;(iterate 8 refine N (h:=?_));refine GC λK hK=>?_;go_simp;refine⟨_,λw' r=>qk r<|q _,hK _ ?_⟩;clear hK K;refine N (h:=?_);refine GS ?_;intro w2 p;have j:=O<|o8 o p;clear p e0 e1 e2 d0 d1 d2;go_wp2;go_roundw
  .exact⟨k+1,om,ov,j⟩
  exact ow
 have:k=n:=om;subst this;have j:=O hb;clear hb;go_wp2;go_ret;exact⟨rfl,j⟩
def TH{a:Option Addr}cap b{f}{w}(hA:IY w a n f)(h:IY w a' n f)(hn:n<=1048576):
  C9 31 #[.agg #[.slice a n cap],.agg #[.slice a' n b]] w (R9 (.bool true) w):=by
 have c:B9 w<|(w.alloc<|.cells #[.slice a n cap] 38).alloc<|.cells #[.slice a' n b] 38:=(n9).alloc oq _;have j:=O<|TK cap b (hA.below c rfl) (h.below c rfl) hn;have i:=O c;clear hA h c;go_enter func31,ntmps31;go_wp2_with fail;refine j.mono ?_;rintro e w1 ⟨rfl,d⟩;have g:=O<|o8 i d;clear d;go_wp2;go_ret;exact⟨rfl,g⟩
structure aL (w:Y) (a ta sa:T9) (s:AL):Prop where
 f:IY w a s.nf s.F
 t:RV w ta s.nt s.T
 si:FM w sa s.ns s.S
def aL.below{a:Option Addr}(h:aL w a ta sa s)(hb:B9 w w'):aL w' a ta sa s:=⟨h.f.below hb rfl,h.t.below hb rfl,h.si.below hb rfl⟩
def OG{v e g j:Option Addr}x k tc l sc m{s}{w}(h:aL w v ta sa s)(h':aL w e g j s)(hs:Kh s):
  C9 11 #[Qk v x ta tc sa sc s,Qk e k g l j m s] w (R9 (.bool true) w):=by
 have d:B9 w<|(w.alloc<|.cells #[.slice v s.nf x,.slice ta s.nt tc,.slice sa s.ns sc] 42).alloc<|.cells #[.slice e s.nf k,.slice g s.nt l,.slice j s.ns m] 42:=(n9).alloc oq _;rcases O (ql (h.below d)<|h'.below d),O hs,O d with⟨c,o,p⟩;clear d h h' hs;go_enter func11,ntmps11;go_wp2_with fail;refine m9 (TH x k c.1.f c.2.f o.f.1) λw1 b=>?_;obtain⟨A,B⟩:=AO b;have C:=b.size;simp at C;have H:w.heap.size<w1.heap.size:=om;have I:w.heap.size+1<w1.heap.size:=om;have q:=O<|o8 p b;have c:=O<|ql (c.1.below b)<|c.2.below b;clear b;go_wp2_with fail;refine m9 (Qo tc l c.1.t c.2.t o.nt λi hi=>⟨o.nv hi,o.I5 hi⟩) λw2 a=>?_;rcases AO a,A0 H a.size,A0 I a.size,O<|o8 q a,O (ql (c.1.below a)<|c.2.below a) with⟨⟨D,E⟩,z0,K,r,c⟩;clear a;go_wp2_with fail;refine m9 (R8 sc m c.1.si c.2.si o.n) λw3 u=>?_;have F:=O<|o8 r u;clear u A B D E;go_wp2;go_ret;exact⟨rfl,F⟩
def oO(s i:Nat):Bh:=⟨(s:Int)+3*(i:Int),mark<|s+3*i+1,(s:Int)+3*(i:Int)+1+1⟩
def wC s j:Le s j=cellOf (oO s) j:=by
 obtain⟨k,i,hi,rfl⟩:∃k i,i<3/\j=k*3+i:=⟨j/3,j%3,om,om⟩;rw[Pu s k i hi];unfold cellOf;rw[show(k*3+i)%3=i by omega,show(k*3+i)/3=k by omega];rcases(by omega:i=0\/i=1\/i=2)with rfl|rfl|rfl<;>rfl
def QD(s:Nat)w:C9 67 #[N9,J (s)] w λe w'=>e=.returned (J (s:Int))/\w'=w:=by
 go_enter func67,ntmps67;go_wp2;go_loopw [1,5] (λq i wr=>i=J 0/\q=J (s:Int)/\wr=w) λ_ _ _=>0
 .exact⟨rfl,rfl,rfl⟩
 obtain⟨rfl,rfl,rfl⟩:=hrel;go_wp2;go_ret;exact⟨rfl,rfl⟩
def Qt(s:Nat)w:C9 114 #[N9,J (s)] w λe w'=>e=.returned (J (s:Int))/\w'=w:=by
 go_enter func114,ntmps114;go_wp2;go_loopw [1,5] (λq i wr=>i=J 0/\q=J (s:Int)/\wr=w) λ_ _ _=>0
 .exact⟨rfl,rfl,rfl⟩
 obtain⟨rfl,rfl,rfl⟩:=hrel;go_wp2;go_ret;exact⟨rfl,rfl⟩
def jX{s:Nat}(h:GV f n w v lo hi)(hn:n<=1048576)(hs:s<=10000000000000):
  C9 67 #[v,J s] w λe w'=>(e=.returned (J<|(s)+3*(n))/\GV (oO s) n w' v lo hi)/\Bv v w w':=by
 rcases h with⟨c,rfl⟩|⟨c,b,l,rfl,h2,h3,Z,g,hN,m,_⟩
 .subst c;refine(QD s w).mono ?_;rintro e w' ⟨rfl,rfl⟩;exact⟨⟨oq,.inl ⟨rfl,rfl⟩⟩,Bv.same _ _⟩
 refine(Wv b n l Z s g w m hN om om).mono ?_;rintro e w' ⟨⟨rfl,g',d,i⟩,a⟩;exact⟨⟨rfl,.inr ⟨c,b,l,rfl,h2,h3,Z,g',hN,d,λj hj=>(i j hj).trans<|wC s j⟩⟩,⟨a.os,a.tape,a.output,a.size,λk hk hn=>a.block k hk λe=>hn<|qi e⟩⟩
def jJ{s}(h:GV (oO s) n w v lo hi)(hn:n<=1048576)(hs:s<=10000000000000):
  C9 114 #[v,J s] w (R9 (J<|(s:Int)+3*(n:Int)) w):=by
 rcases h with⟨a,rfl⟩|⟨a,b,c,rfl,h2,h3,h4⟩
 .subst a;refine(Qt s w).mono ?_;rintro e w' ⟨rfl,rfl⟩;exact⟨oq,BE _ _⟩
 refine V2 b n c s w h4.lt (λi hi j u hu=>?_) om om;have hj:j<3:=(SO.1 hu).1;obtain⟨c0,c1,c2⟩:=h4.cells hi;rcases(by omega:j=0\/j=1\/j=2)with rfl|rfl|rfl<;>cases hu
 .exact c0
 .exact c1
 exact c2
def jV{s:Nat}(h:GV f n w v lo hi)(hn:n<=1048576)(hs:s<=10000000000000):
  C9 34 #[.agg #[v],J s] w λe w'=>(e=.returned (J<|(s)+3*(n))/\GV (oO s) n w' v lo hi)/\Bv v w w':=by
 obtain⟨a,i,rfl⟩:=h.form;have g:B9 w<|w.alloc<|.cells #[.slice a n i] 38:=n9;have j:∀k,(Value.slice a n i).ownBlock=some k->k<w.heap.size:=λk e=>by
  rcases h with⟨p,e'⟩|⟨p,b,r,e',h2,h3,h4⟩
  .cases e';cases e
  cases e';cases e;exact h4.lt
 have q:=O<|jX (h.CQ λb e=>g.block b<|j b e) hn hs;have c:=O g;clear h g;go_enter func34,ntmps34;go_wp2_with fail;refine q.mono ?_;rintro e w1 ⟨⟨rfl,o⟩,d⟩;have l:=O o;have m:Hid<|Bv (.slice a n i) w w1:=O ⟨d.os.trans c.os,d.tape.trans c.tape,d.output.trans c.output,GP c.size d.size,λk hk hn=>(d.block k (A0 hk c.size) hn).trans<|c.block k hk⟩;clear o d;go_wp2;go_ret;exact⟨⟨rfl,l⟩,m⟩
def jH{s}(h:GV (oO s) n w v lo hi)(hn:n<=1048576)(hs:s<=10000000000000)(g:hi<=w.heap.size):
  C9 72 #[.agg #[v],J s] w (R9 (J<|(s:Int)+3*(n:Int)) w):=by
 obtain⟨a,i,rfl⟩:=h.form;have b:B9 w<|w.alloc<|.cells #[.slice a n i] 38:=n9;have j:=O<|jJ (h.below b g) hn hs;have c:=O b;clear h b;go_enter func72,ntmps72;go_wp2_with fail;refine j.mono ?_;rintro e w1 ⟨rfl,d⟩;have f:=O<|o8 c d;clear d;have hq:¬(s:Int)+3*(n:Int)<0:=om;go_wp2;go_ret;exact⟨rfl,f⟩
def Uy(s:AL)(k:Nat):AL:=⟨s.nf,oO k,s.nt,λi=>mkT (s.T i)<|KM s.T (k+3*s.nf) i,s.ns,kC<|KM s.T (k+3*s.nf) s.nt⟩
def IM(s:AL)(k:Nat):Nat:=KM s.T (k+3*s.nf) s.nt+5*s.ns
structure bA (s:AL):Prop where
 f:s.nf<=1048576
 t:Eu s.T s.nt<=2000000000
 n:s.ns<=1048576
def Nt s w:
  C9 35 #[N9,J s] w λe w'=>e=.returned (J s)/\w'=w:=by
 go_enter func35,ntmps35;go_wp2;go_loopw [1,5] (λq i wr=>q=J s/\i=J 0/\wr=w) λ_ _ _=>0
 .exact⟨rfl,rfl,rfl⟩
 obtain⟨rfl,rfl,rfl⟩:=hrel;go_wp2;go_ret;exact⟨rfl,rfl⟩
def Np s w:
  C9 73 #[N9,J s] w λe w'=>e=.returned (J s)/\w'=w:=by
 go_enter func73,ntmps73;go_wp2;go_loopw [1,5] (λq i wr=>q=J s/\i=J 0/\wr=w) λ_ _ _=>0
 .exact⟨rfl,rfl,rfl⟩
 obtain⟨rfl,rfl,rfl⟩:=hrel;go_wp2;go_ret;exact⟨rfl,rfl⟩
def jZ{s:Nat}{f}(h:Xx lo hi w v n f H)(d:Eu f n<=2000000000)(hs:s<=10000000000000):
  C9 35 #[v,J s] w λe w'=>(e=.returned (J<|KM f s n)/\Xx lo hi w' v n (λi=>mkT (f i)<|KM f s i) H)/\(w'.os=w.os/\w'.tape=w.tape/\w'.output=w.output/\w.heap.size<=w'.heap.size/\∀k,k<w.heap.size->v.ownBlock≠some k->(∀i,i<n->¬(H i).own k)->w'.heap[k]?=w.heap[k]?):=by
 rcases h with⟨j,rfl⟩|⟨b,a,Z,g,rfl,h2,h3,h4,h5,l,c⟩
 .subst j;refine(Nt s w).mono λe w' h=>?_;rw[h.2];exact⟨⟨by rw[h.1];rfl,.inl ⟨rfl,rfl⟩⟩,rfl,rfl,rfl,Be _,λ_ _ _ _=>rfl⟩
 refine(Ns a Z lo hi s g w h4 h5 l c d hs).mono λe w' h=>?_;obtain⟨⟨rfl,⟨g',m⟩,o⟩,hb⟩:=h;exact⟨⟨rfl,.inr ⟨b,a,Z,g',rfl,h2,h3,m,h5,o,c⟩⟩,hb.os,hb.tape,hb.output,hb.size,λk hk h1 h2=>hb.block k hk (λe=>h1<|qi e) h2⟩
def jL{s}{f}(h:Xx lo hi w v n (λi=>mkT (f i)<|KM f s i) H)(a:Eu f n<=2000000000)(hs:s<=10000000000000):
  C9 73 #[v,J s] w (R9 (J (KM f s n:Int)) w):=by
 rcases h with⟨c,rfl⟩|⟨b,d,Z,g,rfl,h2,h3,h4,h5,j,k⟩
 .subst c;refine(Np s w).mono λe w' h=>?_;rw[h.2];exact⟨by rw[h.1];rfl,BE _ _⟩
 exact Nn b d lo hi s H w (H8 h4) j a hs
def jW(h:Nh lo hi w vF vT vS s H)(hs:bA s)(k:Nat)(ae:k<=1000000000000)(hh:hi<=w.heap.size):
  C9 12 #[.agg #[vF,vT,vS],J k] w λe w'=>(e=.returned (J<|IM s k)/\Nh lo hi w' vF vT vS (Uy s k) H)/\Ou lo hi w w':=by
 rcases hs.f,hs.t,hs.n,Td s.T (k+3*s.nf) s.nt,JZ w (.cells #[vF,vT,vS] 42) with⟨hf,ht,hn,P,⟨W,M,l,_⟩⟩;have Q:w.heap.size<W.heap.size:=by rw[M];simp
 have b:=h.below l hh;rcases b.f.at,b.t.at,b.si.at with⟨⟨fa,fc,eF,_⟩,⟨ta,tc,R,_⟩,⟨sa,sc,S,_⟩⟩;have x1:W.cell? (y w 1)=some vT:=by rw[M,R];simp[go_sem]
 have x2:W.cell? (y w 2)=some vS:=by rw[M,S];simp[go_sem]
 have HE:=O<|ql eF<|ql R S;subst eF R S;go_enter func12,ntmps12;go_wp2_with fail;rw[<-M];refine(jV (s:=k) b.f hf om).mono ?_;rintro e w1 ⟨⟨rfl,u⟩,d⟩;have l1:=A0 Q d.size;have v:(Value.slice fa s.nf fc).ownBlock≠some w.heap.size:=λe=>oS (b.f.own e).2.1;have U:(Value.slice ta s.nt tc).ownBlock≠some w.heap.size:=λe=>oS (b.t.own e).2.1;have V:∀i,i<s.nt->¬(H i).own w.heap.size:=λi hi e=>oS (b.t.row hi e).2.1;rcases (As (a:=y w 1)<|d.block _ Q v).trans x1,(As (a:=y w 2)<|d.block _ Q v).trans x2,O<|b.t.keep (λq e=>d.block q (b.t.own e).2.2 λc=>b.ft q c e) λi q hi e=>d.block q (b.t.row hi e).2.2 λc=>b.fr q i c hi e,O (b.si.keep λq e=>d.block q (b.si.own e).2.2 λc=>b.fs q c e) with⟨y1,y2,o,x⟩;have A:Hid<|Ou lo hi w w1:=O ⟨d.os.trans l.os,d.tape.trans l.tape,d.output.trans l.output,om,λj hk hn=>(d.block j om λe=>oS<|b.f.own e).trans<|l.block j hk⟩;go_wp2_with fail;have hA:=jZ (s:=k+3*s.nf) o ht om;rw[show((k+3*s.nf:Nat):Int)=(k:Int)+3*(s.nf:Int) by omega]at hA;refine hA.mono ?_;rintro e w2 ⟨⟨rfl,p⟩,B,C,D,E,m⟩;rcases (As (a:=y w 2)<|m _ l1 (z<|O U)<|z<|O V).trans y2,O<|x.keep λq e=>m q (x.own e).2.2 (b.st q e) λi hi=>b.sr q i e hi,O (u.CQ λq e=>m q (u.own e).2.2 (b.ft q e) λi hi=>b.fr q i e hi) with⟨af,F,I⟩;have K:=A.trans ⟨B,C,D,E,λj hk hn=>m j hk (λe=>oS<|o.own e) λi hi e=>oS<|o.row hi e⟩;obtain⟨r,X⟩:=o9<|KM s.T (k+3*s.nf) s.nt;rw[<-X];have ag:r<=60000000000000:=om;have HR:=O X;clear hA B C D E m y1 y2 X P;go_wp2_with fail;refine(jY (s:=r) F hn om).mono ?_;rintro e w3 ⟨⟨rfl,Z⟩,g⟩;have ad:Hid<|Nh lo hi w3 (.slice fa s.nf fc) (.slice ta s.nt tc) (.slice sa s.ns sc) (Uy s k) H:=O (by
  refine⟨I.CQ (λq e=>g.block q (I.own e).2.2 (b.fs q e)),p.keep (λq e=>g.block q (p.own e).2.2 (λc=>b.st q c e)) (λi q hi e=>g.block q (p.row hi e).2.2 (λc=>b.sr q i c hi e)),?_,b.ft,b.fs,b.fr,b.st,b.sr⟩;show VA (kC (KM s.T (k+3*s.nf) s.nt)) s.ns w3 _ lo hi;rw[<-(z HR)];exact Z)
 have L:=K.trans ⟨g.os,g.tape,g.output,g.size,λj hk hn=>g.block j hk λe=>oS<|F.own e⟩;have HN:Hid<|r+5*s.ns=IM s k:=O (by unfold IM;rw[z HR]);go_wp2;go_ret;exact⟨⟨by rw[<-z HN]<;>rfl,ad⟩,L⟩
def jI(h:Nh lo hi w vF vT vS (Uy s k) H)(hs:bA s)(K:k<=1000000000000)(L:hi<=w.heap.size):
  C9 37 #[.agg #[vF,vT,vS],J k] w (R9 (J (IM s k:Int)) w):=by
 rcases hs.f,hs.t,Td s.T (k+3*s.nf) s.nt,JZ w (.cells #[vF,vT,vS] 42) with⟨hf,M,p,⟨W,m,c,_⟩⟩;have u:w.heap.size<W.heap.size:=by rw[m];simp
 have v:=h.below c L;have D:GV (oO k) s.nf W vF lo hi:=v.f;have o:Xx lo hi W vT s.nt (λi=>mkT (s.T i)<|KM s.T (k+3*s.nf) i) H:=v.t;have x:VA (kC<|KM s.T (k+3*s.nf) s.nt) s.ns W vS lo hi:=v.si;rcases D.at,o.at,x.at with⟨⟨V,X,P,_⟩,⟨ta,tc,E,_⟩,⟨sa,sc,F,_⟩⟩;have x1:W.cell? (y w 1)=some vT:=by rw[m,E];simp[go_sem]
 have x2:W.cell? (y w 2)=some vS:=by rw[m,F];simp[go_sem]
 have A:hi<=W.heap.size:=om;subst P E F;go_enter func37,ntmps37;go_wp2_with fail;rw[<-m];refine m9 (jH (s:=k) D hf om A) λw1 a=>?_;rcases (a.cell u).trans x1,(a.cell u).trans x2,O<|x.keep λq e=>a.block q (x.own e).2.2,o8 c a with⟨Q,I,d,g⟩;go_wp2_with fail;have hA:=jL (z<|o.keep (λq e=>a.block q (o.own e).2.2) λi q hi e=>a.block q (o.row hi e).2.2) M om;rw[show((k+3*s.nf:Nat):Int)=(k:Int)+3*(s.nf:Int) by omega]at hA;refine hA.mono ?_;rintro e w2 ⟨rfl,b⟩;rcases (b.cell<|A0 u a.size).trans I,d.keep λq e=>b.block q (d.own e).2.2,o8 g b,o9 (KM s.T (k+3*s.nf) s.nt) with⟨R,j,l,⟨r,B⟩⟩;rw[<-B]at j ⊢;have S:r<=60000000000000:=om;have U:Hid<|r+5*s.ns=IM s k:=O (by unfold IM;rw[B]);clear hA b Q I B p;go_wp2_with fail;refine m9 (jK (s:=r) j hs.n om) λw3 C=>?_;go_wp2;go_ret;exact⟨by rw[<-z U]<;>rfl,z<|o8 l C⟩
section
open Go.ChangeShapes Go.WideShapes Go.ChangeAt Go.RowKit
def My a w:
  C9 8 #[KI a] w (R9 (KI a) w):=by
 go_enter func8,ntmps8;go_wp2_with fail;refine m9 (FC a.k.kind a.k.num a.k.Af a.k.str a.k.ref _) λw1 b=>?_;obtain⟨d,l⟩:=AO b;have e:=b.size;simp at e;have o:w.heap.size<w1.heap.size:=om;have m:w.heap.size+1<w1.heap.size:=om;have p:w.heap.size+1+1<w1.heap.size:=om;have f:Hid<|B9 w w1:=O (by
  refine AaF ?_<|b.mono ot;repeat(refine NO ?_ oy _)
  exact((n9).alloc oq _).alloc ot _)
 clear b;go_wp2_with fail;refine m9 (FC a.v.kind a.v.num a.v.Af a.v.str a.v.ref _) λw2 c=>?_;obtain⟨g,n⟩:=AO c;have h:=c.size;simp at h;have z0:w.heap.size<w2.heap.size:=om;have q:w.heap.size+1<w2.heap.size:=om;have z2:w.heap.size+1+1<w2.heap.size:=om;have i:=O c;clear c;go_wp2;refine GO (v:=KI a) (by simp[results,results8,go_sem,d,g,m]) rfl ⟨rfl,?_⟩;have j:B9 w w2:=by
  refine AaF ?_<|i.mono ot;repeat(refine NO ?_ oy _)
  exact f
 repeat(refine NO ?_ (by first|(show w.heap.size<=w.heap.size+1;omega)|(show w.heap.size<=w.heap.size+1+1;omega)) _)
 exact j
def mH(a:Ac)(left:Int):Int:=if left<a.k.str.size then -1 else if left-a.k.str.size<a.v.str.size then -1 else left-a.k.str.size-a.v.str.size
def ZX a left w(hk:a.k.str.size<=maxLen)(g:a.v.str.size<=maxLen)(e:0<=left)(h1:left<=1048576):
  C9 5 #[KI a,J left] w (R9 (J<|mH a left) w):=by
 have d:B9 w<|w.alloc<|.cells (qg a) 33:=n9;have b:=O d;clear d;by_cases t0:left<a.k.str.size
 .have c:Hid<|mH a left=-1:=O (by unfold mH;rw[C3 t0]);go_enter func5,ntmps5;go_wp2_with fail;refine m9 (Mx a.k.kind a.k.num a.k.Af a.k.str a.k.ref left _ hk e h1) λw1 hb=>?_;rw[C3 t0];have b:=O<|o8 b hb;clear hb;go_wp2_with fail;go_ret;exact⟨qh c,b⟩
 have h:¬(left-a.k.str.size<0):=om;have c:Hid<|mH a left=if left-a.k.str.size<a.v.str.size then -1 else left-a.k.str.size-a.v.str.size:=O (by unfold mH;rw[Cs t0]);go_enter func5,ntmps5;go_wp2_with fail;refine m9 (Mx a.k.kind a.k.num a.k.Af a.k.str a.k.ref left _ hk e h1) λw1 hb=>?_;rw[Cs (show¬left<(a.k.str.size:Int) by omega)];obtain⟨hc,hf⟩:=AO hb;have b:=O<|o8 b hb;clear hb;go_wp2_with fail;refine m9 (Mx a.v.kind a.v.num a.v.Af a.v.str a.v.ref (left-a.k.str.size) _ g om om) λw2 hb=>?_;have b:=O<|o8 b hb;clear hb hc hf;by_cases t1:left-a.k.str.size<a.v.str.size
 .rw[C3 t1]at c;rw[C3 t1];go_wp2_with fail;go_ret;exact⟨qh c,b⟩
 rw[Cs t1]at c;rw[Cs t1];have f:¬(left-a.k.str.size-a.v.str.size<0):=om;go_wp2_with fail
 go_ret;exact⟨qh c,b⟩
section
variable {H:Type} {enc:TypeId×Value->H} {P:Program} {w:Y} {base:Nat} {spare:Nat->Bool} {held:Bool}
structure Fa (P:Program) (t ti a:TypeId):Prop where
 st:∃f0 f1 f2 f3 f4 f5:Field,P.underlying t=some (.struct #[f0,f1,f2,f3,f4,f5])/\f0.type=ti/\f1.type=ti/\f2.type=ti/\f3.type=ti/\f4.type=a/\f5.type=a/\f0.offset=0/\f1.offset=1/\f2.offset=2/\f3.offset=3/\f4.offset=4/\f5.offset=9
 ci:P.cellsOf ti=1
 cv:P.cellsOf a=5
 ct:P.cellsOf t=14
 ui:P.underlying ti=some (.int .i64)
theorem oL{α:Type}:∀{cs:List α},cs.length=14->∃c0 c1 c2 c3 c4 c5 c6 c7 d e a XC b c,cs=[c0,c1,c2,c3,c4,c5,c6,c7,d,e,a,XC,b,c]
 |[c0,c1,c2,c3,c4,c5,c6,c7,d,e,a,XC,b,c],_=>⟨c0,c1,c2,c3,c4,c5,c6,c7,d,e,a,XC,b,c,rfl⟩
def ZD{t ti c tn g ts}(F:Fa P t ti c)(Z:Fs P c ti tn g ts){fuel}{cs}{x}(h:DataW.trod enc P w base spare held fuel t cs=some x):
  ∃a,cs=(KI a).cells.toList/\Wf a.k/\Wf a.v:=by
 obtain⟨f0,f1,f2,f3,f4,f5,hu,t0,t1,t2,t3,t4,t5,o0,o1,o2,i,j,l⟩:=F.st;obtain⟨xs,n,_,rfl,hl,b,hf⟩:=Aaz hu h;rw[F.ct]at hl;obtain⟨c0,c1,c2,c3,c4,c5,c6,c7,r,s,m,XC,o,p,rfl⟩:=oL hl
 match xs,b with
 |[u,A,B,C,D,E],_=>
  rcases hf 0 f0 rfl,hf 1 f1 rfl,hf 2 f2 rfl,hf 3 f3 rfl,hf 4 f4 rfl,hf 5 f5 rfl with⟨d,h1,h2,h3,h4,h5⟩;simp only[t0,t1,t2,t3,t4,t5,o0,o1,o2,i,j,l,F.ci,F.cv,List.drop_zero,AaD,AaB,List.take_zero,List.getElem?_cons_zero,Aap]at d h1 h2 h3 h4 h5;rcases W4 F.ui d,W4 F.ui h1,W4 F.ui h2,W4 F.ui h3,Gw Z h4,Gw Z h5 with⟨⟨a0,e0,r0,w0⟩,⟨a1,e1,r1,w1⟩,⟨a2,e2,r2,w2⟩,⟨a3,e3,r3,w3⟩,⟨k0,k1,k2,k3,k4,e,_,_,fk,sk,_,_⟩,⟨v0,v1,v2,v3,v4,f,_,_,fv,q,_,_⟩⟩;simp only[AaW,and_true]at e0 e1 e2 e3 e f;obtain⟨rfl,rfl,rfl,rfl,rfl⟩:=e;obtain⟨rfl,rfl,rfl,rfl,rfl⟩:=f;subst e0 e1 e2 e3;exact⟨⟨a0,a1,a2,a3,⟨k0,k1,k2,k3,k4⟩,⟨v0,v1,v2,v3,v4⟩⟩,rfl,⟨OP fk,sk⟩,⟨OP fv,q⟩⟩
end
end
end Go.Proofs.YtoobllcjfinmoaaGreatDoor
