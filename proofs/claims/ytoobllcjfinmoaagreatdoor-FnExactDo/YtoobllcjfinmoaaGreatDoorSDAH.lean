import Derived.Test.YtoobllcjfinmoaaGreatDoorSDAG
set_option linter.all false
set_option maxHeartbeats 40000000
set_option maxRecDepth 100000
namespace Go.Proofs.YtoobllcjfinmoaaGreatDoor
open Go.Proofs.Tryz
open Go.RowKit
attribute [local go_sem] Ar Am
variable {x v:Vl}{c a g b t B i ab vc:Nat}{vT vF vS:V9}{W W' w:Y}{H:Nat->Hs}{s:AK}
def mX{d}{k}(h:Inv Ky hN d)(hk:Ky k):(FG d<|Aw d k<|hN k).kind=0↔Aw d k (hN k)<0:=by
 rcases h.i0.place B6 hk with⟨i,h1,h2,h3,h4⟩|⟨h1,h2⟩
 .have:=(h.entry<|Hy h1 h2).2.2.2;grind [Ky,hN,FG,Aw]
 rw[h2];exact⟨λ_=>om,λ_=>rfl⟩
theorem bF{x}(h1:x.shape=-1)(h2:x.nv=0)k v:Eo x x.d k v={x with d:=Ce hN x.d k v}:=by
 grind [Eo,Ce,hN]
theorem Yf s t:BJ s t (s.T t)=s:=by
 unfold BJ;rw[Iq]
def UO s t x Z:BJ (BJ s t x) t Z=BJ s t Z:=by
 unfold BJ;have:AX (AX s.T t x) t Z=AX s.T t Z:=by grind [BJ,Ai,Ak]
 grind [BJ,AX]
structure aU (s:AK) (t:Nat) (k v:Vl) (x:Tb):Prop where
 sh:x.shape=-1
 nv:x.nv=0
 inv:Inv Ky hN x.d
 m:x.d.m<=4000000
 yes:(Cg s.F (s.T t) k).kind=0->(x.d.live=500\/x.d.turns=1000000000000)->CE s t k v=5/\Ct s t k v=BJ s t x
 no:¬((Cg s.F (s.T t) k).kind=0/\(x.d.live=500\/x.d.turns=1000000000000))->CE s t k v=0/\Ct s t k v=BJ s t {x with d:=Ce hN x.d k v}
section
variable {s:AK} {t:Nat} {k v:Vl}
def ZT(f:Ls s)(g:t<s.nt)(hk:Ky k)(hn:¬(v.kind=0/\(Cg s.F (s.T t) k).kind=0))(hs:(s.T t).shape<0):aU s t k v<|s.T t:=by
 have b:=f.t t g;rcases b.way with⟨e1,e2,c⟩|⟨j,e,_⟩
 .have h:Cg s.F (s.T t) k=FG (s.T t).d (Aw (s.T t).d k<|hN k):=C3 hs;have a:=mX c hk;rw[<-h]at a;refine⟨e1,e2,c,b.m,λi h1=>?_,λi=>?_⟩;all_goals grind [Ky,Cg,B8,Ep,Aw,hN,CE,Ct,Yf,BJ,Eo,bF]
 omega
def WT(c:Ls s){j:Nat}(d:(s.T t).shape=j)(hj:j<s.nf)(e:(s.T t).nv=nf s.F j)(b:∀i,i<(s.T t).nv->J2 ((s.T t).V i)=true)(g:B8 s (s.T t) k v=.loose):aU s t k v ⟨-1,0,(s.T t).V,AA s.F j (s.T t).V (s.T t).nv⟩:=by
 have a:=FQ c.f hj (λi hi=>b i om) (s.T t).nv om;have hn:=IB c.f hj;rcases a.live,a.turns,a.m with⟨h1,h2,h3⟩;refine⟨rfl,rfl,a.ls.inv,?_,λ_ h=>?_,λ_=>?_⟩
 .show(AA s.F j (s.T t).V (s.T t).nv).m<=_;omega
 .have h:(AA s.F j (s.T t).V (s.T t).nv).live=500\/(AA s.F j (s.T t).V (s.T t).nv).turns=1000000000000:=h;omega
 unfold CE Ct;rw[g];refine⟨rfl,?_⟩;show BJ s t (Eo (s.T t) (AA s.F (s.T t).shape.toNat (s.T t).V (s.T t).nv) k v)=_;rw[d,On];rfl
end
def Vr(a b:Nat)(sh:Int)(str:ByteArray)(W:Y):Prop:=W.cell? (G a 0)=some (J sh)/\W.cell? (G b 3)=some (.string str)
def Ho(c a:Nat)(vT:V9)(v:Vl)(W:Y):Prop:=W.cell? (G c 1)=some vT/\W.cell? (G a 0)=some (J v.kind)/\W.cell? (G a 1)=some (J v.num)/\W.cell? (G a 2)=some (F9 v.Af)/\W.cell? (G a 3)=some (.string v.str)/\W.cell? (G a 4)=some (J v.ref)
def Ho.keep(h:Ho c a vT v W)(h1:W'.heap[c]?=W.heap[c]?)(h3:W'.heap[a]?=W.heap[a]?):Ho c a vT v W':=
 ⟨(As h1).trans h.1,(As h3).trans h.2.1,(As h3).trans h.2.2.1,(As h3).trans h.2.2.2.1,(As h3).trans h.2.2.2.2.1,(As h3).trans h.2.2.2.2.2⟩
def LB(c g nt b t a:Nat)(u:V9)(v:Vl)(W:Y):Prop:=W.cell? (G c 1)=some (S9 g nt b)/\W.cell? (G g<|t*8+1)=some u/\W.cell? (G a 0)=some (J v.kind)/\W.cell? (G a 1)=some (J v.num)/\W.cell? (G a 2)=some (F9 v.Af)/\W.cell? (G a 3)=some (.string v.str)/\W.cell? (G a 4)=some (J v.ref)
def LB.keep{nt}{u}(h:LB c g nt b t a u v W)(h1:W'.heap[c]?=W.heap[c]?)(h2:W'.heap[g]?=W.heap[g]?)(h3:W'.heap[a]?=W.heap[a]?):LB c g nt b t a u v W':=
 ⟨(As h1).trans h.1,(As h2).trans h.2.1,(As h3).trans h.2.2.1,(As h3).trans h.2.2.2.1,(As h3).trans h.2.2.2.2.1,(As h3).trans h.2.2.2.2.2.1,(As h3).trans h.2.2.2.2.2.2⟩
def QY t{k}v{w}(hM:SM w c B vF vT vS H s)(hG:Ls s)(L:t<s.nt)(hk:Ky k)(hv:v.ok=true):
  C9 49 #[Q9 c,J t,GR k,GR v] w λe w'=>e=.returned (J<|CE s t k v)/\∃M H',SM w' c B M vT vS H' (Ct s t k v)/\BF (Bn c vF vT vS H s.nt) w (Bn c M vT vS H' s.nt) w':=by
 obtain⟨cb,df,dh,di,dj⟩:=Av hG.f;have eB:0<s.nf:=oS cb.1;obtain⟨g,P,rfl,hg,fE,hc,fF⟩:=hM.CU L;obtain⟨fb,fc,rfl,eF,fI,hF⟩:=hM.Ob eB;rcases hM.cells,hM.lt,AE<|hM.v t L,(hM.l t L).at,(hM.i t L).at,(hM.x t L).at,qd hc with⟨⟨c0,c1,c2,_⟩,fL,⟨va,vc,ev⟩,⟨la,lc,el,eI⟩,⟨ia,ic,ei,eP⟩,⟨xa,xc,ex,eS⟩,⟨y0,y1,y2,y3,y4,y5,y6,y7⟩⟩;rw[ev]at y1;rw[el]at y2;rw[ei]at y3;rw[ex]at y4;simp only[Aau]at y0;obtain⟨W,hW,cc,b1,_⟩:=gW w (.cells (qe k) 43) (.cells (qe v) 43)<|.cells #[J (s.T t).shape,.slice va (s.T t).nv vc,.slice la (s.T t).d.n lc,.slice ia (s.T t).d.m ic,.slice xa (s.T t).d.x xc,J (s.T t).d.used,J (s.T t).d.live,J (s.T t).d.turns] 105;have af:Xm W w.heap.size k:=⟨by rw[hW];simp;omega,by rw[hW];simp[go_sem],by rw[hW];simp[go_sem],by rw[hW];simp[go_sem],by rw[hW];simp[go_sem],by rw[hW];simp[go_sem]⟩;have dk:Xm W (w.heap.size+1) v:=⟨by rw[hW];simp,by rw[hW];simp[go_sem],by rw[hW];simp[go_sem],by rw[hW];simp[go_sem],by rw[hW];simp[go_sem],by rw[hW];simp[go_sem]⟩;have dm:W.cell? (G (w.heap.size+1+1) 0)=some (J (s.T t).shape):=by rw[hW];simp[go_sem]
 rcases O (LX t (hM.below cc) hG L hk),O hM,O hG,O hk,O<|qj cb<|qj df<|qj dh<|qj dj di,O<|qj af<|qj dk dm,O cc,O b1,O hF,O ev,af.c0,af.c1,af.c2,af.c3,af.c4,af.lt with⟨br,HM,HG,HK,HR,ax,cd,HZ,HF,Q,eX,e5,Dt,e6,bc,lk⟩;clear hM hG hk cb df dh di dj af dk dm cc b1 eI eP eS hc hF ev el ei ex;go_enter func49,ntmps49;go_upto_region 2 with fail
 rw[<-hW];clear hW y0 y1 y2 y3 y4 y5 y6 y7 c0 c1 c2;go_wp2_with fail;refine br.mono ?_;rintro e w1 ⟨rfl,b2⟩;clear br;obtain⟨o,ho⟩:=o9<|Cg s.F (s.T t) k;rw[<-ho];have HO:=O ho;clear eX e5 Dt e6 bc lk ho;go_upto_region 3 with fail
 obtain⟨X,hX⟩:=o9<|w1.alloc<|.cells (qe o) 43;rw[<-hX];have A:Below W.heap.size W X:=by rw[hX];exact b2.alloc b2.size _
 rcases o8 cd A,z HZ,b2.size with⟨b3,b1,cg⟩;have dn:X.heap.size=w1.heap.size+1:=by rw[hX];simp
 have dp:=ax.1.below A ax.1.lt;have b4:=ax.2.1.below A ax.2.1.lt;have x0:=oT A (by show w.heap.size+1+1<W.heap.size;omega) ax.2.2;have o0:X.cell? (G w1.heap.size 0)=some (J o.kind):=by rw[hX];simp[go_sem]
 have b5:=O<|HM.below b3;have dq:Hid<|∀{O':Nat->Prop} {w':Y},BF (Bn c (S9 fb s.nf fc) (S9 g s.nt P) vS H s.nt) X O' w'->∀b,w.heap.size<=b->b<X.heap.size->w'.heap[b]?=X.heap[b]?:=O λhd b h1 h2=>hd.block b h2 λe=>oS (HM.Pm e).2;have bd:Hid<|BF (Bn c (S9 fb s.nf fc) (S9 g s.nt P) vS H s.nt) w (Bn c (S9 fb s.nf fc) (S9 g s.nt P) vS H s.nt) X:=O<|BF.Ax b3;have dr:w1.heap.size<X.heap.size:=om;have e7:w.heap.size+1+1<w1.heap.size:=om;have ch:w.heap.size+1+1<X.heap.size:=om;have fS:c<X.heap.size:=om;generalize w1.heap.size=ob at dn o0 dr e7 hX ⊢;rcases O dp,O b4,b4.c0,b4.lt,O b3 with⟨bf,dt,v0,lv,cz⟩;clear cd ax b2 A hX dn cg b1 HZ dp b4 b3
 go_cut [32] λq wx=>∃bb:Bool,q=.bool bb/\(bb=true↔o.kind=0/\v.kind=0)/\wx=X
 case first=>
  by_cases a:o.kind=0
  .have d0:(o.kind==0)=true:=by simp[a]
   by_cases h1:v.kind=0
   .have d1:(v.kind==0)=true:=by simp[h1]
    have I:=O<|qj a h1;clear a h1;go_wp2_with fail;go_meet
    case rel=>exact⟨true,rfl,⟨λ_=>I,λ_=>rfl⟩,rfl⟩
   have d1:(v.kind==0)=false:=by simp[h1]
   have I:=O h1;clear a h1;go_wp2_with fail;go_meet
   case rel=>exact⟨false,rfl,⟨λe=>(by cases e),λe=>absurd e.2 I⟩,rfl⟩
  have d0:(o.kind==0)=false:=by simp[a]
  have I:=O a;clear a;go_wp2_with fail;go_meet
  case rel=>exact⟨false,rfl,⟨λe=>(by cases e),λe=>absurd e.1 I⟩,rfl⟩
 obtain⟨bb,rfl,C,bg⟩:=hcut;cases bg;cases bb
 case true=>
  have cj:=C.1 rfl;have du:Hid<|CE s t k v=0/\Ct s t k v=s:=O (by
   have hw:B8 s (s.T t) k v=.no:=C3 ⟨cj.2,by rw[<-z HO];exact cj.1⟩;unfold CE Ct;rw[hw];exact⟨rfl,rfl⟩)
  clear cj C;go_wp2_with fail;go_ret;exact⟨by rw[(z du).1];rfl,_,H,by rw[(z du).2];exact b5,bd⟩
 have b6:Hid<|¬(v.kind=0/\(Cg s.F (s.T t) k).kind=0):=O (λh=>by have:=C.2 ⟨by rw[z HO];exact h.2,h.1⟩;cases this);clear C;have k0:=bf.c0;have lk:=bf.lt;go_upto_region 5 with fail
 go_cut [45] λq wx=>∃bb:Bool,q=.bool bb/\(bb=true↔0<=(s.T t).shape/\k.kind=4/\v.kind≠0)/\wx=X
 case first=>
  by_cases a:0<=(s.T t).shape
  .have d0:decide (0<=(s.T t).shape)=true:=by simp[a]
   by_cases h1:k.kind=4
   .have d1:(k.kind==4)=true:=by simp[h1]
    by_cases h2:v.kind=0
    .have d2:(v.kind !=0)=false:=by simp[h2]
     have I:=O h2;clear a h1 h2;go_wp2_with fail;go_meet
     case rel=>exact⟨false,rfl,⟨λe=>(by cases e),λe=>absurd I e.2.2⟩,rfl⟩
    have d2:(v.kind !=0)=true:=by simp[h2]
    have I:=O<|qj a<|qj h1 h2;clear a h1 h2;go_wp2_with fail;go_meet
    case rel=>exact⟨true,rfl,⟨λ_=>I,λ_=>rfl⟩,rfl⟩
   have d1:(k.kind==4)=false:=by simp[h1]
   have I:=O h1;clear a h1;go_wp2_with fail;go_meet
   case rel=>exact⟨false,rfl,⟨λe=>(by cases e),λe=>absurd e.2.1 I⟩,rfl⟩
  have d0:decide (0<=(s.T t).shape)=false:=ot;have I:Hid<|(s.T t).shape<0:=O om;clear a;go_wp2_with fail;go_meet
  case rel=>exact⟨false,rfl,⟨λe=>(by cases e),λe=>absurd e.1<|oS<|z I⟩,rfl⟩
 obtain⟨bb,rfl,C,bg⟩:=hcut;cases bg;have dv:=O C;clear C
 go_upto_if 45 with fail
 go_cut [11,12] λ_ _ wx=>∃M,SM wx c B M (S9 g s.nt P) vS H s/\BF (Bn c (S9 fb s.nf fc) (S9 g s.nt P) vS H s.nt) X (Bn c M (S9 g s.nt P) vS H s.nt) wx/\(0<=(s.T t).shape->B8 s (s.T t) k v=.loose)
 case first=>
  cases bb
  case false=>
   have I:Hid<|0<=(s.T t).shape->B8 s (s.T t) k v=.loose:=O (λa=>by
    unfold B8;rw[Cs (z b6),C3 a,Cs];rintro⟨h1,h2⟩;have:=dv.2 ⟨a,h1,h2⟩;cases this)
   go_wp2_with fail
   go_meet
   case rel=>exact⟨_,b5,BF.refl _ _,I⟩
  obtain⟨Lu,bc,ck⟩:=dv.1 rfl;obtain⟨j,he,hj,ar,_,bh⟩:∃j:Nat,(s.T t).shape=j/\j<s.nf/\(s.T t).nv=nf s.F j/\bare (s.T t).d/\∀i,i<(s.T t).nv->J2 ((s.T t).V i)=true/\Wf ((s.T t).V i):=by
   rcases(HG.t t L).way with⟨e,_⟩|h
   .omega
   exact h
  have eA:(s.T t).nv<=12:=by rw[ar];exact IB HG.f hj
  have HJ:=O<|qj he<|qj hj ar;have dw:Hid<|∀w',Bg w' fb s.nf s.F->C9 82 #[.agg #[S9 fb s.nf fc],J (s.T t).shape,.string k.str] w' λe e8=>e=.returned (J<|Bc s.F j k.str)/\Below w'.heap.size w' e8:=O (λw' hS=>by
   rw[(z HJ).1];exact KS fc j k.str hS HR.1 HR.2.1 HR.2.2.1 HR.2.2.2.1 HJ.2.1)
  rcases b5.cells.1,bf.c3,O (HF.below cz eF) with⟨c0,k3,cl⟩;have dx:Hid (∀i:Nat,Bc s.F j k.str=i->B8 s (s.T t) k v=.DK):=O (λi hp=>by
   unfold B8;rw[Cs (z b6),C3 Lu,C3 ⟨bc,ck⟩,C3];rw[he,On,hp];omega)
  have dy:Hid<|Bc s.F j k.str=-1->B8 s (s.T t) k v=if 0<=Er s.nf s.F j k.str then .grow else .loose:=O (λhp=>by
   unfold B8;rw[Cs (z b6),C3 Lu,C3 ⟨bc,ck⟩,he,On,hp,Cs om])
  clear Lu bc ck he hj ar bh;go_upto_region 6 with fail
  refine qr X ?_;(iterate 8 refine N (h:=?_));refine GC λK hK=>?_;go_simp;refine⟨_,λw' dz=>qk dz<|dw _<|cl.below dz cl.lt,hK _ ?_⟩;clear hK K;refine N (h:=?_);refine GS ?_;intro w2 A;have D:=O<|b5.below A;have bj:Hid<|BF (Bn c (S9 fb s.nf fc) (S9 g s.nt P) vS H s.nt) X (Bn c (S9 fb s.nf fc) (S9 g s.nt P) vS H s.nt) w2:=O<|BF.Ax A;rcases O (dt.below A lv),O<|bf.below A lk,(A.cell ch).trans x0,A.size,D.cells,D.CU L with⟨ay,e9,x2,fT,⟨_,c1,_,fa⟩,⟨g',bk,eg,_,_,ag,cD⟩⟩;cases eg;have g1:=ag 1 _ rfl;rw[z Q]at g1;have au:=D.v t L;rw[z Q]at au;have cm:=O au;have fe:c≠g:=λe=>HM.Ba HM.t oo<|qh e;have dC:c<w2.heap.size:=om;clear A ag au v0 x0 o0 k0 k3 c0 cl dw;rcases JK HG.f HJ.2.1 k.str with hp|⟨i,hp,hi⟩
  .have bt:=O<|dy hp;rw[hp];clear hp dy dx;have k3:=e9.c3;have ah:Vr (w.heap.size+1+1) w.heap.size (s.T t).shape k.str w2.drew:=⟨x2,k3⟩;have cN:c≠fb:=λe=>HM.Ba HM.f oo<|qh e;have b0:Hid<|C9 87 #[Q9 c,J (s.T t).shape,.string k.str] w2.drew λe w3=>(∃r n' f',e=.returned (J r)/\NK s.nf s.F j k.str n' f' r/\∃b' bk,c≠b'/\(b'=fb\/w2.drew.heap.size<=b')/\w3.frozen? (G c 0)=false/\w3.cell? (G c 0)=some (S9 b' n' bk)/\EO w3 B (S9 b' n' bk) n' f')/\Ym c fb w2.drew w3:=O (by
    rw[(z HJ).1];exact Uc c fb fc j B k.str w2.drew D.cells.1 (D.cells.2.2.2 0) (World.ownsRow.drew D.f) cN dC (by have:=D.base;show B<=w2.heap.size;omega) HR.1 HR.2.1 HR.2.2.1 HJ.2.1)
   have dU:=O<|qj x2 k3;clear x2 k3 c1 g1 fa cD;go_upto_region 10 with fail
   refine Gq (Vr (w.heap.size+1+1) w.heap.size (s.T t).shape k.str) ?_;refine tz 0 (h:=tz 1 (h:=tz 2 (h:=tz 3 (h:=tz 4 (h:=tz 5 (h:=tz 6 (h:=?_)))))));refine ry 7 λK hK=>?_;go_simp;refine b0.mono ?_;rintro e w3 ⟨⟨r,n',f',rfl,ae,b',bk,_,a4,_,a6,a7⟩,R⟩;have Dt:∀b,w.heap.size<=b->b<X.heap.size->w3.heap[b]?=w2.heap[b]?:=λb h1 h2=>R.block b (by show b<w2.heap.size;omega) om om;have cn:Vr (w.heap.size+1+1) w.heap.size (s.T t).shape k.str w3:=⟨(As<|Dt (w.heap.size+1+1) om ch).trans dU.1,(As<|Dt w.heap.size (Be _) lk).trans dU.2⟩;refine hK.out _ _ cn λbu=>?_;clear hK K ah;refine tz 8 (h:=?_);refine Fj ?_;have ai:=(D.keep (w':=w2.drew) λ_ _=>rfl).nO R a4 a6 a7;have b7:=(bj.below (BE _ _).drew).trans ai.2;have cq:=ay.keep R.size<|Dt (w.heap.size+1) om lv;obtain⟨e1,e2,e3⟩:=KM HR.2.2.2.2 ae;have fV:w2.heap.size<=w3.heap.size:=R.size;by_cases hr:0<=r
   .have ff:decide (0<=r)=true:=by simp[hr]
    have ea:Hid<|CE s t k v=0/\Ct s t k v={BJ s t (IZ (s.T t) r v)with nf:=n',F:=f'}:=O (by
     have hw:B8 s (s.T t) k v=.grow:=by rw[z bt,C3 (by rw[<-e3];exact hr)]
     unfold CE Ct;rw[hw];refine⟨rfl,?_⟩;show({BJ s t (IZ (s.T t) (Er s.nf s.F (s.T t).shape.toNat k.str) v)with nf:=EU s.nf s.F (s.T t).shape.toNat k.str,F:=ER s.nf s.F (s.T t).shape.toNat k.str}:AK)=_;rw[(z HJ).1,On,e1,e2,e3])
    rcases ON FO,O ai.1,O b7,ai.1.cells.2.1,ai.1.CU L with⟨⟨i0,fg,fh,cg,c6⟩,cr,b8,c1,⟨g',c7,eg,fW,_,ag,c8⟩⟩;cases eg;have g0:=ag 0 _ rfl;simp only[Aau]at g0;have fX:c<w3.heap.size:=om;obtain⟨w4,az⟩:=o9<|w3.setCell (G g<|t*8)<|J r;have E:=ai.1.eU L rfl r;rw[<-az]at E;have S:Xm w4 (w.heap.size+1) v:=cq.keep (by rw[az];simp) (by rw[az];exact At _ _ _ _<|by show w.heap.size+1≠g;omega);have ct:w4.heap.size=w3.heap.size:=by rw[az];simp
    have eb:=O<|qj E<|qj S ct;clear ai b7 ae R a4 a6 a7 E S ct e1 e2 e3 hr ag cq cn bu Dt;go_upto_region 13 with fail
    rw[<-az];clear az g0 c1 c8;obtain⟨E,S,ct⟩:=z eb;have c1:=E.1.cells.2.1;obtain⟨g',c7,eg,ga,_,ag,bw⟩:=E.1.CU L;cases eg;have g1:=ag 1 _ rfl;rw[z Q]at g1;have eT:(BJ {s with nf:=n',F:=f'} t {s.T t with shape:=r}).T t={s.T t with shape:=r}:=Ai _ _ _;have au:=E.1.v t L;rw[eT,z Q]at au;have ah:Ho c (w.heap.size+1) (S9 g s.nt P) v w4.drew:=⟨c1,S.c0,S.c1,S.c2,S.c3,S.c4⟩;obtain⟨Z,hY⟩:=o9<|(w4.alloc<|.cells (qe v) 43).drew;have U:Below w4.heap.size w4 Z:=by rw[hY];exact(n9).drew
    have gb:Z.heap.size=w4.heap.size+1:=by rw[hY];simp
    have av:=Ho.keep (W:=w4) ah (U.block c om)<|U.block (w.heap.size+1) om;have gd:=(U.cell<|by show g<w4.heap.size;omega).trans g1;have ec:Z.ownsRow B 43 5 (.slice va (s.T t).nv vc) (s.T t).nv<|MO (s.T t).V (s.T t).nv:=Wo au U;have ak:∀j u,(Hh v)[j]?=some u->Z.cell? (((G w4.heap.size 0):Addr).add j)=some u:=by rw[hY];exact Is (w:=(w4.alloc _).drew)<|DD w4 _
    have c9:=fe;have HF:Hid (∀g5 ad w5,w5.ownsRow B 43 5 (S9 g5 ((s.T t).nv+1) ad) ((s.T t).nv+1) (MO (s.T t).V (s.T t).nv++Hh v)->Z.grownBy w5 (Value.slice va (s.T t).nv vc).ownBlock->((Value.slice va (s.T t).nv vc).ownBlock=some g5\/g5=Z.heap.size)->
      Ho c (w.heap.size+1) (S9 g s.nt P) v w5/\Ho c (w.heap.size+1) (S9 g s.nt P) v (w5.setCell (G g<|t*8+1)<|S9 g5 ((s.T t).nv+1) ad)/\w5.cell? (G g<|t*8+1)=some (.slice va (s.T t).nv vc)/\w5.frozen? (G g<|t*8+1)=false/\c<w5.heap.size/\g<w5.heap.size/\
      Hid (∃M H',SM (w5.setCell (G g (t*8+1)) (S9 g5 ((s.T t).nv+1) ad)) c B M (S9 g s.nt P) vS H' (Ct s t k v)/\BF (Bn c (S9 fb s.nf fc) (S9 g s.nt P) vS H s.nt) w (Bn c M (S9 g s.nt P) vS H' s.nt) (w5.setCell (G g (t*8+1)) (S9 g5 ((s.T t).nv+1) ad)))):=O (by
     intro g5 ad w5 ef bm fj;have cu:∀q,(Value.slice va (s.T t).nv vc).ownBlock=some q->q<w.heap.size/\q≠c/\q≠g:=λq e=>by
      have e':(H t).v.ownBlock=some q:=by rw[z Q];exact e
      have h1:=HM.apart L<|.inl e';exact⟨(HM.row L (q:=q)<|.inl e').2.1,h1.1,λe2=>h1.2.2.1<|qh e2⟩
     have b9:∀q,q<w4.heap.size->(Value.slice va (s.T t).nv vc).ownBlock≠some q->w5.heap[q]?=w4.heap[q]?:=λq h1 h2=>(bm.block q om λe=>h2 e.symm).trans<|U.block q h1;have kc:=b9 c om λe=>(cu c e).2.1 rfl;have kg:=b9 g om λe=>(cu g e).2.2 rfl;have kv:=b9 (w.heap.size+1) om λe=>oS (cu _ e).1;have gf:=bm.size;have aj:=Ho.keep (W:=w4) ah kc kv;have st:∀q,q≠g->(w5.setCell (G g<|t*8+1)<|S9 g5 ((s.T t).nv+1) ad).heap[q]?=w5.heap[q]?:=λq hq=>At _ _ _ _ (by exact hq);refine⟨aj,aj.keep (st c c9)<|st (w.heap.size+1) om,(As kg).trans g1,(ID kg).trans<|bw _,om,om,O ?_⟩;rw[PJ]at ef;have hA:=E.1.mQ L rfl eT (W:=w5) (u:=S9 g5 ((s.T t).nv+1) ad) (v:=v) (λq h1 h2=>b9 q h1<|by rw[<-z Q];exact h2) ⟨bm.os.trans U.os,bm.tape.trans U.tape,bm.output.trans U.output,om⟩ ef (λq e=>by
      have e':g5=q:=oF e;rcases fj with h|h
      .exact .inl (by rw[z Q,<-e'];exact h)
      exact .inr om)
     refine⟨_,_,?_,(bd.trans (b8.trans E.2)).trans hA.2⟩;rw[(z ea).2];have h1:=hA.1;rw[UO]at h1;exact h1)
    have HY:=O hY;have fk:B<=Z.heap.size:=oS HM.base;have fl:=O ec;have fm:=O ak;clear E S au ag eT U ec ak cr b8 eb bw hY;refine Gq (Ho c (w.heap.size+1) (S9 g s.nt P) v) ?_;refine tz 0 (h:=tz 1 (h:=tz 2 (h:=tz 3 (h:=tz 4 (h:=tz 5 (h:=tz 6 (h:=tz 7 (h:=tz 8 (h:=tz 9 (h:=tz 10 (h:=tz 11 (h:=?_))))))))))));refine tz 13 (h:=?_);refine TO (rs:=[12,14]) ou oq ?_;refine IH rfl (λK hK=>?armA) (IH rfl (λK hK=>?armB) SO)
    case' armA=>
     go_simp;refine hK.out _ _ ah λ_=>?_;clear hK K;refine ry 14 λK hK=>?_;go_simp;rw[<-z HY];refine hK.out _ _ av λfo=>?_;clear hK K
    case' armB=>
     go_simp;rw[<-z HY];refine hK.out _ _ av λfo=>?_;clear hK K;refine ry 12 λK hK=>?_;go_simp;refine hK.out _ _ av λ_=>?_;clear hK K
    all_goals
     refine ry 15 λK hK=>?_;refine To _ rfl (.tmp 98) (.tmp 100) 100 rfl B 43 i0 (V 0 0 0 ⟨#[]⟩ 0) 5 48 underlying100 fg fh cg c6 rfl oo (.slice va (s.T t).nv vc) (s.T t).nv (MO (s.T t).V (s.T t).nv) (by simp[Act.eval]<;>omega) fl (G w4.heap.size 0) 1 1 (Hh v) (by simp[Act.eval]<;>omega) rfl fm (by simp[Hh,Value.oneCell']) oo od om fk _ rfl ?_;intro g5 ad w5 ao bx aq fz;obtain⟨aj,eh,x5,f5,gg,gh,da⟩:=z HF g5 ad w5 ao bx aq;clear ao bx aq;refine hK.out _ _ aj λdc=>?_;clear hK K;refine tz 16 (h:=tz 17 (h:=?_));refine ry 18 λK hK=>?_;go_simp;refine hK.out _ _ eh λ_=>?_;clear hK K;refine Fj ?_;clear aj eh dc x5 f5;go_wp2;go_ret;exact⟨by rw[(z ea).1];rfl,da⟩
   have ff:decide (0<=r)=false:=ot;have HL:Hid<|B8 s (s.T t) k v=.loose:=O (by rw[z bt,Cs (by rw[<-e3];exact hr)]);have cr:Hid<|SM w3 c B (S9 b' n' bk) (S9 g s.nt P) vS H s:=O (by
    have h1:=ai.1;rcases ae with⟨q,_,h2,_⟩|⟨_,_,_,h3,h4⟩|⟨_,_,_,h2,_⟩
    .omega
    .rw[h3,h4]at h1;rw[h3];exact h1
    omega)
   have b8:=O b7;clear ai b7 ae R a4 a6 a7 e1 e2 e3 hr cq cn bu Dt;go_wp2_with fail;go_meet
   case rel=>exact⟨_,cr,b8,λ_=>HL⟩
  ·
   have JS:i<(s.T t).nv:=by rw[(z HJ).2.2];exact hi
   have ej:Hid<|CE s t k v=0/\Ct s t k v=BJ s t (Gn (s.T t) i v):=O (by
    unfold CE Ct;rw[z dx i hp];refine⟨rfl,?_⟩;show BJ s t (Gn (s.T t) (Bc s.F (s.T t).shape.toNat k.str).toNat v)=_;rw[(z HJ).1,On,hp,On])
   rw[hp];clear hp hi;obtain⟨vv,rfl,gi⟩:∃vv,va=some (G vv 0)/\vv<w2.heap.size:=by
    obtain⟨hl,⟨hv,a⟩|⟨g,P,cur,hv,_,dd,_⟩⟩:=id cm
    .omega
    cases hv;exact⟨_,rfl,Ah dd⟩
   obtain⟨e0,e1,e2,e3,e4⟩:=BW.at cm JS;have fv:=λq=>World.ownsRow.frozenAt cm q;have cv:=D.apart L (q:=vv)<|.inl<|qg Q;have gj:=(HM.row L (q:=vv)<|.inl<|qg Q).2.1;have fq:g≠vv:=λe=>cv.2.2.1<|qh e;have ah:LB c g s.nt P t (w.heap.size+1) (S9 vv (s.T t).nv vc) v w2.drew:=⟨c1,g1,ay.c0,ay.c1,ay.c2,ay.c3,ay.c4⟩;have bz:=O<|D.eY L Q JS v;have fr:c≠vv:=λe=>cv.1 e.symm;clear cv c1 g1 x2;go_upto_region 8 with fail
   refine Gq (LB c g s.nt P t (w.heap.size+1) (S9 vv (s.T t).nv vc) v) ?_;refine tz 0 (h:=tz 1 (h:=tz 2 (h:=tz 3 (h:=tz 4 (h:=tz 5 (h:=tz 6 (h:=tz 7 (h:=tz 8 (h:=tz 9 (h:=tz 10 (h:=?_)))))))))));refine ry 11 λK hK=>?_;go_simp;refine hK.out _ (World.drew<|Hd w2 vv (i*5) v) (LB.keep (W:=w2) ah (D9 w2 vv (i*5) v fr) (D9 w2 vv (i*5) v fq)<|D9 w2 vv (i*5) v om) λ_=>?_;clear hK K ah;refine Fj ?_;go_wp2;go_ret;exact⟨by rw[(z ej).1];rfl,_,H,by rw[(z ej).2];exact bz.1.keep λ_ _=>rfl,((bd.trans bj).trans bz.2).below (BE _ _).drew⟩
 obtain⟨ft,ek,cw,eo⟩:=hcut;have x1:wc.cell? (G (w.heap.size+1+1) 0)=some (J (s.T t).shape):=(As<|dq cw (w.heap.size+1+1) om ch).trans x0;rcases O ek,O cw,O eo with⟨cx,cy,ep⟩;clear ek cw eo
 go_upto_if 106 with fail
 go_cut [11] λ_ wx=>∃M H' x',SM wx c B M (S9 g s.nt P) vS H' (BJ s t x')/\BF (Bn c (S9 fb s.nf fc) (S9 g s.nt P) vS H s.nt) X (Bn c M (S9 g s.nt P) vS H' s.nt) wx/\aU s t k v x'
 case first=>
  by_cases a:0<=(s.T t).shape
  .have fu:¬(s.T t).shape<0:=om;obtain⟨j,he,hj,ar,_,bh⟩:∃j:Nat,(s.T t).shape=j/\j<s.nf/\(s.T t).nv=nf s.F j/\bare (s.T t).d/\∀i,i<(s.T t).nv->J2 ((s.T t).V i)=true/\Wf ((s.T t).V i):=by
    rcases(HG.t t L).way with⟨e,_⟩|h
    .omega
    exact h
   have aM:=O<|WT HG he hj ar (λi hi=>(bh i hi).1)<|ep a;have eu:=O<|Sd t j cx HG L he hj ar λi hi=>(bh i hi).1;clear a he hj ar bh;go_wp2_with fail;refine eu.mono ?_;rintro e w4 ⟨⟨u,rfl⟩,h',E,ew⟩;have fw:=O E;have fx:=O<|cy.trans ew;clear E ew eu x1;go_wp2_with fail;go_meet
   case rel=>exact⟨_,_,_,fw,fx,aM⟩
  have fu:(s.T t).shape<0:=om;have aM:=O<|ZT HG L HK b6 om;clear a;go_wp2_with fail;go_meet
  case rel=>exact⟨ft,H,s.T t,by rw[Yf];exact cx,cy,aM⟩
 clear x1 cx cy ep;obtain⟨ey,H2,x2,bn,bp,a8⟩:=hcut;have ca:∀b,w.heap.size<=b->b<X.heap.size->wc.heap[b]?=X.heap[b]?:=λb h1 h2=>dq bp b h1 h2;have o2:wc.cell? (G ob 0)=some (J o.kind):=(As<|ca ob om dr).trans o0;obtain⟨gl,k0,k1,k2,k3,k4⟩:=bf.keep bp.size<|ca w.heap.size (Be _) lk;rcases dt.keep bp.size (ca (w.heap.size+1) om lv),bn.cells.2.1,bn.lt with⟨⟨gm,v0,v1,v2,v3,v4⟩,c1,dC⟩;have eT:(BJ s t x2).T t=x2:=Ai _ _ _;have bq:=bn.qQ L rfl;rw[eT]at bq;have d4:=bq.c4;have d5:=bq.c5;rcases O (Y8 B6 v bq (a8.inv.small<|oS a8.m) a8.inv XP HK HK.1 hv a8.m),O a8,O bn,O bp,O eT with⟨aw,aM,D,bj,fy⟩;clear ca bq a8 bn bp eT x0 o0;go_upto_region 18 with fail
 go_cut [133] λq wx=>∃bb:Bool,q=.bool bb/\(bb=true↔o.kind=0/\(x2.d.live=500\/x2.d.turns=1000000000000))/\wx=wc
 case first=>
  by_cases a:o.kind=0
  .have e0:(o.kind==0)=true:=by simp[a]
   by_cases h1:x2.d.live=500
   .have e1:(x2.d.live==500)=true:=by simp[h1]
    have I:=O<|qj a h1;clear a h1;go_wp2_with fail;go_meet
    case rel=>exact⟨true,rfl,⟨λ_=>⟨I.1,.inl I.2⟩,λ_=>rfl⟩,rfl⟩
   have e1:(x2.d.live==500)=false:=by simp[h1]
   by_cases h2:x2.d.turns=1000000000000
   .have e2:(x2.d.turns==1000000000000)=true:=by simp[h2]
    have I:=O<|qj a h2;clear a h1 h2;go_wp2_with fail;go_meet
    case rel=>exact⟨true,rfl,⟨λ_=>⟨I.1,.inr I.2⟩,λ_=>rfl⟩,rfl⟩
   have e2:(x2.d.turns==1000000000000)=false:=by simp[h2]
   have I:=O<|qj h1 h2;clear a h1 h2;go_wp2_with fail;go_meet
   case rel=>exact⟨false,rfl,⟨λe=>(by cases e),λe=>e.2.elim (λe=>absurd e I.1) λe=>absurd e I.2⟩,rfl⟩
  have e0:(o.kind==0)=false:=by simp[a]
  have I:=O a;clear a;go_wp2_with fail;go_meet
  case rel=>exact⟨false,rfl,⟨λe=>(by cases e),λe=>absurd e.1 I⟩,rfl⟩
 obtain⟨bb,rfl,C,bg⟩:=hcut;cases bg;cases bb
 case true=>
  have HY:=O<|aM.yes (by rw[<-z HO];exact(C.1 rfl).1) (C.1 rfl).2;clear C aw;go_wp2_with fail;go_ret;exact⟨by rw[(z HY).1];rfl,ey,H2,by rw[(z HY).2];exact D,bd.trans bj⟩
 have HY:=O<|aM.no (λh=>by have:=C.2 ⟨by rw[z HO];exact h.1,h.2⟩;cases this);clear C;go_wp2_with fail;refine aw.mono ?_;rintro e w5 ⟨⟨u,rfl⟩,u0,u1,u2,ez,aj⟩;have hN:=D.tA L rfl ez aj;rw[UO,z fy]at hN;have HN:=O hN;clear hN ez aj aw;go_wp2_with fail;go_ret;exact⟨by rw[(z HY).1];rfl,ey,_,by rw[(z HY).2];exact HN.1,(bd.trans bj).trans HN.2⟩
def SM.fin{w1 w2}{n'}{b d f}{H'}{s'}{cs}{ty}(hb:B9 w W)(l:∀k,Bn c vF vT vS H s.nt k->k<w.heap.size)(n:w.heap.size<=i)(m:i<W.heap.size)(h:SM w1 c B b d f H' s')(hn:s'.nt=n')(g:BF (Bn c vF vT vS H s.nt) W (Bn c b d f H' n') w1)(a:Bj w1 w2 i cs ty):
  SM w2 c B b d f H' s'/\BF (Bn c vF vT vS H s.nt) w (Bn c b d f H' n') w2:=by
 have j:∀k,Bn c b d f H' n' k->k≠i:=λk hk e=>by
  rcases g.own k hk with h1|h1
  .have:=l k h1;omega
  omega
 refine⟨h.keep λk hk=>a.other k<|j k<|by rw[<-hn];exact hk,⟨a.os.trans<|g.os.trans hb.os,a.tape.trans<|g.tape.trans hb.tape,a.output.trans<|g.output.trans hb.output,by rw[a.size];exact GP hb.size g.size,λk hk hn=>?_,λk hk=>?_⟩⟩
 .rw[a.other k om,g.block k (A0 hk hb.size) hn,hb.block k hk]
 rcases g.own k hk with h1|h1;all_goals grind [Bn,BF.size,Bj.size]
def Yi{old:List Value}(h:w.heap[b]?=some (.cells old.toArray 43 (0,0)))(hl:old.length=5)x:∃w',(Instr.storeAt 43 (Q9 b)<|V x.kind x.num x.Af x.str x.ref).run prog w=.ok () w'/\Bj w w' b (Hh x).toArray 43:=
 BM (old:=old) (vs:=Hh x) gD h (qh hl) rfl (by simp[Hh,Value.oneCell']) rfl
def Xm.stored{w'}(h:Bj w w' b (Hh x).toArray 43):Xm w' b x:=by
 have hc:=AZ h;exact⟨Ah h.Bw,hc 0 _ rfl,hc 1 _ rfl,hc 2 _ rfl,hc 3 _ rfl,hc 4 _ rfl⟩
def NA s t k v:(Ct s t k v).nt=s.nt:=by
 unfold Ct;split<;>rfl
def NN(c ab gs i:Nat)(vS:V9)(key:ByteArray)(W:Y):Prop:=W.cell? (G c 2)=some vS/\W.cell? (G ab 2)=some (J (i:Int))/\W.cell? (G gs<|i*5)=some (.string key)
def NN.keep{gs}{key}(h:NN c ab gs i vS key W)(h1:W'.heap[c]?=W.heap[c]?)(h2:W'.heap[ab]?=W.heap[ab]?)(h3:W'.heap[gs]?=W.heap[gs]?):NN c ab gs i vS key W':=
 ⟨(As h1).trans h.1,(As h2).trans h.2.1,(As h3).trans h.2.2⟩
def NP(c ab g nt b t a nv vc q:Nat)(x:Vl)(W:Y):Prop:=W.cell? (G c 1)=some (S9 g nt b)/\W.cell? (G ab 1)=some (J (t:Int))/\W.cell? (G g<|t*8+1)=some (S9 a nv vc)/\W.cell? (G a<|q*5)=some (J x.kind)/\W.cell? (G a<|q*5+1)=some (J x.num)/\W.cell? (G a<|q*5+2)=some (F9 x.Af)/\W.cell? (G a<|q*5+3)=some (.string x.str)/\W.cell? (G a<|q*5+4)=some (J x.ref)
def NP.keep{nt nv q}(h:NP c ab g nt b t a nv vc q x W)(h1:W'.heap[c]?=W.heap[c]?)(h2:W'.heap[ab]?=W.heap[ab]?)(h3:W'.heap[g]?=W.heap[g]?)(h4:W'.heap[a]?=W.heap[a]?):NP c ab g nt b t a nv vc q x W':=
 ⟨(As h1).trans h.1,(As h2).trans h.2.1,(As h3).trans h.2.2.1,(As h4).trans h.2.2.2.1,(As h4).trans h.2.2.2.2.1,(As h4).trans h.2.2.2.2.2.1,(As h4).trans h.2.2.2.2.2.2.1,(As h4).trans h.2.2.2.2.2.2.2⟩
def Ly(c ab g nt a t b nv vc:Nat)(x:Vl)(W:Y):Prop:=W.cell? (G c 1)=some (S9 g nt a)/\W.cell? (G ab 1)=some (J (t:Int))/\W.cell? (G g<|t*8+1)=some (S9 b nv vc)/\W.cell? (G ab 9)=some (J x.kind)/\W.cell? (G ab 10)=some (J x.num)/\W.cell? (G ab 11)=some (F9 x.Af)/\W.cell? (G ab 12)=some (.string x.str)/\W.cell? (G ab 13)=some (J x.ref)
def Ly.keep{nt nv}(h:Ly c ab g nt a t b nv vc x W)(h1:W'.heap[c]?=W.heap[c]?)(h2:W'.heap[ab]?=W.heap[ab]?)(h3:W'.heap[g]?=W.heap[g]?):Ly c ab g nt a t b nv vc x W':=
 ⟨(As h1).trans h.1,(As h2).trans h.2.1,(As h3).trans h.2.2.1,(As h2).trans h.2.2.2.1,(As h2).trans h.2.2.2.2.1,(As h2).trans h.2.2.2.2.2.1,(As h2).trans h.2.2.2.2.2.2.1,(As h2).trans h.2.2.2.2.2.2.2⟩
def Ug(a:Ac)(t i:Nat){w}(hM:SM w c B vF vT vS H s)(hG:Ls s)(et:a.t=t)(P:t<s.nt)(ei:a.site=i)(hi:i<s.ns)(hop:a.op=8\/a.op=9)(hv:a.v.ok=true):
  C9 51 #[Q9 c,Kz a] w λe w'=>e=.returned (Hk<|Dk s a)/\∃L H',SM w' c B L vT vS H' (BK s a)/\BF (Bn c vF vT vS H s.nt) w (Bn c L vT vS H' s.nt) w':=by
 obtain⟨gs,sc,rfl,ch,_,hcs,_⟩:=hM.GB hi;rcases hG.ns,hG.nt,hM.lt,hcs 0 _ rfl with⟨cu,cv,bp,y0⟩;simp only[Aau]at y0;obtain⟨W,hW,ar,hA,hR,hz⟩:=boxes w a;have HO:Hid<|∀k,Bn c vF vT (S9 gs s.ns sc) H s.nt k->k<w.heap.size:=O λk h=>(hM.Pm h).2;obtain⟨a0,a1,a2,a3,a4,a5,a6,a7,a8,a9,A,C,a12,D⟩:=hA.all;have E:NN c w.heap.size gs i (S9 gs s.ns sc) (s.S i).key W.drew:=⟨(ar.cell (p:=G c 2) bp).trans hM.cells.2.2.1,a2.trans<|by rw[ei],(ar.cell (p:=G gs<|i*5) ch).trans y0⟩;rcases O hM,O ar,O hA,O hR,O hG,O (qj et ei) with⟨HM,HB,HA,HR,HG,HE⟩;clear hM ar hA hR hG et ei hcs y0 a0 a1 a2 a3 a4 a5 a6 a7 a8 a9 A C a12 D;go_enter func51,ntmps51;go_upto_region 1 with fail
 rw[<-hW];clear hW
 go_cut [5] λq wx=>∃kb,q=Q9 kb/\W.heap.size<=kb/\Xm wx kb (BL (s.S i).key)/\B9 W wx
 case first=>
  have zB:=HB.size;obtain⟨Z,hY⟩:=o9<|(W.alloc<|.cells #[J 0,J 0,F9 0,E9,J 0] 43).drew;have M:B9 W Z:=by rw[hY];exact(n9).drew
  have ae:Z.heap[W.heap.size]?=some (.cells #[J 0,J 0,F9 0,E9,J 0] 43 (0,0)):=by rw[hY];exact DD W _
  have zY:Z.heap.size=W.heap.size+1:=by rw[hY];simp
  have bq:=E.keep (M.block c om) (M.block w.heap.size om)<|M.block gs om;have br:=O<|qj hY<|qj M<|qj ae zY;clear hY M ae zY;refine Gq (NN c w.heap.size gs i (S9 gs s.ns sc) (s.S i).key) ?_;refine tz 0 (h:=tz 1 (h:=tz 2 (h:=tz 3 (h:=tz 4 (h:=tz 5 (h:=tz 6 (h:=tz 7 (h:=tz 8 (h:=?_)))))))));refine TO (rs:=[9,10]) ou oq ?_;refine IH rfl (λK hK=>?armA) (IH rfl (λK hK=>?armB) SO)
  case armA=>
   go_simp;refine m9 (OO (s.S i).key _) λw1 d=>?_;have z1:=d.size;have af:=E.keep (d.block c<|by show c<W.heap.size;omega) (d.block w.heap.size<|by show w.heap.size<W.heap.size;omega)<|d.block gs (by show gs<W.heap.size;omega);refine hK.out _ _ af λ_=>?_;clear hK K;have bt:B9 W w1:=⟨d.os,d.tape,d.output,d.size,λk hk=>d.block k hk⟩;obtain⟨X,hX,ag,_,o0⟩:=JQ w1<|.cells #[J 0,J 0,F9 0,E9,J 0] 43;have bu:=o0;have z2:W.heap.size<=w1.heap.size:=d.size;have bw:=af.keep (ag.block c om) (ag.block w.heap.size om)<|ag.block gs om;obtain⟨w2,j,l⟩:=Yi bu rfl (BL (s.S i).key);have bb:=bw.keep (l.other c om) (l.other w.heap.size om)<|l.other gs om;have cj:=O hX;have HF:Hid<|W.heap.size<=w1.heap.size/\Xm w2 w1.heap.size (BL (s.S i).key)/\B9 W w2:=O ⟨z2,.stored l,l.below (bt.trans<|ag.mono z2) z2⟩;have n:=O j;clear d bt hX ag bu j l;refine ry 10 λK hK=>?_;go_simp;rw[<-z cj];refine hK.out _ _ bw λ_=>?_;clear hK K;refine ry 11 λK hK=>?_;refine Bd rfl rfl w2 n ?_;refine hK.out _ _ bb λ_=>?_;clear hK K;refine Fj ?_;go_wp2_with fail;go_meet
   case rel=>exact⟨_,rfl,HF⟩
  case armB=>
   go_simp;rw[<-(z br).1];refine hK.out _ _ bq λ_=>?_;clear hK K;refine ry 9 λK hK=>?_;go_simp;refine m9 (OO (s.S i).key _) λw1 d=>?_;obtain⟨_,M,ae,zY⟩:=z br;have z1:=d.size;have af:=bq.keep (d.block c om) (d.block w.heap.size om)<|d.block gs om;refine hK.out _ _ af λ_=>?_;clear hK K;obtain⟨w2,j,l⟩:=Yi ((d.block W.heap.size om).trans ae) rfl (BL (s.S i).key);have bb:=af.keep (l.other c om) (l.other w.heap.size om)<|l.other gs om;have HF:Hid<|W.heap.size<=W.heap.size/\Xm w2 W.heap.size (BL (s.S i).key)/\B9 W w2:=O ⟨Be _,.stored l,l.below (M.trans<|d.mono om)<|Be _⟩;have n:=O j;clear d M ae zY j l;refine ry 11 λK hK=>?_;refine Bd rfl rfl w2 n ?_;refine hK.out _ _ bb λ_=>?_;clear hK K;refine Fj ?_;go_wp2_with fail;go_meet
   case rel=>exact⟨_,rfl,HF⟩
 obtain⟨kb,rfl,cw,bx,hbc⟩:=hcut;clear E;rcases z HE,HB.size,hbc.size with⟨⟨et,ei⟩,zB,zc⟩;have bz:=O<|HM.below<|HB.trans<|hbc.mono zB;have au:=HA.below hbc om;have b0:=HR.below hbc hz;obtain⟨a0,a1,a2,a3,a4,a5,a6,a7,a8,a9,A,C,a12,D⟩:=au.all;rw[et]at a1;rw[ei]at a2;rcases au.lt,O<|V3 i t bz HG hi P,O bx,O au,O b0,O hbc with⟨la,I,bc,b1,b2,b3⟩;clear bx au b0 hbc et ei;go_wp2_with fail;refine I.mono ?_;rintro e w3 ⟨rfl,b4,ah⟩;have av:∀b,w.heap.size<=b->b<wc.heap.size->w3.heap[b]?=wc.heap[b]?:=λb h1 h2=>ah.block b h2 λe=>oS<|z HO b e;have bd:PU w3 w.heap.size a:=(av w.heap.size (Be _) la).trans b1;have b5:Iw w3<|w.heap.size+1:=(av (w.heap.size+1) om om).trans b2;rcases bc.keep ah.size (av kb om bc.lt),Jt HG hi P,O<|(BF.Ax b3).trans ah,o9 (Bh s i t) with⟨b6,b7,aw,⟨fi,bf⟩⟩;rw[<-bf];rcases O bf,O b4,O bd,O b5,O b6,O b7,ah.size,bd.lt with⟨ai,o,ck,ax,b8,b9,z3,cx⟩;clear a0 a1 a2 a3 a4 a5 a6 a7 a8 a9 A C a12 D la b4 ah av bd b5 b6 b7 bf I b1 b2 b3 bz bc;obtain⟨a0,a1,a2,a3,a4,a5,a6,a7,a8,a9,A,C,a12,D⟩:=ck.all;rw[(z HE).1]at a1;rw[(z HE).2]at a2;have ca:=O<|GK (HG.si i hi).1;have I:Hid (0<=fi->∃q:Nat,fi=q/\q<(s.T t).nv):=O (λh0=>by
  obtain⟨_,q,_,_,hq,hn,_⟩:=Js HG hi P (by rw[<-z ai];exact h0);exact⟨q,ai.trans hq,hn⟩)
 obtain⟨g,cp,bg,lg,_,cb,cy⟩:=o.CU P;have bg:vT=S9 g s.nt cp:=bg;subst bg;rcases o.cells.2.1,o.lt,cb 1 _ rfl,AE<|o.v t P,o.v t P with⟨c1,cz,g1,⟨va,vc,ev⟩,bh⟩;rw[ev]at bh;have g1:w3.cell? (G g<|t*8+1)=some (.slice va (s.T t).nv vc):=g1.trans<|qh ev;have aj:Hid<|BW w3 B (.slice va (s.T t).nv vc) (s.T t).nv (s.T t).V:=O bh;have ay:Hid<|(H t).v=.slice va (s.T t).nv vc:=O ev;clear ev bh cb;have cD:=bp;have cN:=z HO g<|.inr<|.inr<|.inl rfl;have U:Hid (∀{w4 w5:Y} {L:V9} {H':Nat->Hs} {s':AK} {cs:Array Value} {ty:TypeId},SM w4 c B L (S9 g s.nt cp) (S9 gs s.ns sc) H' s'->s'.nt=s.nt->BF (Bn c vF (S9 g s.nt cp) (S9 gs s.ns sc) H s.nt) W (Bn c L (S9 g s.nt cp) (S9 gs s.ns sc) H' s.nt) w4->Bj w4 w5 (w.heap.size+1) cs ty->
   SM w5 c B L (S9 g s.nt cp) (S9 gs s.ns sc) H' s'/\BF (Bn c vF (S9 g s.nt cp) (S9 gs s.ns sc) H s.nt) w (Bn c L (S9 g s.nt cp) (S9 gs s.ns sc) H' s.nt) w5):=O (λh hn hd j=>SM.fin HB HO om hz h hn hd j)
 rcases hop with hop|hop
 .have d8:(a.op==8)=true:=by simp[hop]
  have u:Hid<|Dk s a=GI (if 0<=fi then(s.T t).V fi.toNat else Cg s.F (s.T t) (BL (s.S i).key))/\BK s a=AY s i t:=O (by
   obtain⟨et,ei⟩:=z HE;unfold Dk BK;simp[hop,et,ei,z ai])
  clear hop;by_cases h0:0<=fi
  .obtain⟨q,rfl,az⟩:=z I h0;have r:Hid<|Dk s a=GI ((s.T t).V q)/\BK s a=AY s i t:=O (by
    refine⟨u.1.trans ?_,u.2⟩;rw[C3 h0,On])
   clear u h0 I;obtain⟨m,rfl,cl⟩:∃m,va=some (G m 0)/\m<w3.heap.size:=by
    obtain⟨hl,⟨hv,h0⟩|⟨g,cp,cur,hv,_,ad,_⟩⟩:=id aj
    .omega
    cases hv;exact⟨_,rfl,Ah ad⟩
   have cm:=z HO m<|.inr<|.inr<|.inr<|.inr ⟨t,P,.inl<|qg ay⟩;obtain⟨e0,e1,e2,e3,e4⟩:=BW.at aj az;have E:NP c w.heap.size g s.nt cp t m (s.T t).nv vc q ((s.T t).V q) w3.drew:=⟨c1,a1,g1,e0,e1,e2,e3,e4⟩;have cn:=PO.nv (HG.t t P) HG.f;generalize (s.T t).V q=x at*;obtain⟨w4,j,l⟩:=BB (w:=w3.drew) ax<|GI x;rcases E.keep (l.other c om) (l.other w.heap.size om) (l.other g om) (l.other m om),O j,O<|U (o.keep (w':=w3.drew) λ_ _=>rfl) rfl (aw.below (BE _ _).drew) l,O<|l.Bw,Ah l.Bw with⟨cc,n,Q,R,l4⟩;clear j l c1 a1 g1 e0 e1 e2 e3 e4 a2 a3 a4 a5 a6 a7 a8 a9 A C a12 D;go_upto_region 5 with fail
   have cq:t<(AY s i t).nt:=P;refine Gq (NP c w.heap.size g s.nt cp t m (s.T t).nv vc q x) ?_;refine tz 0 (h:=tz 1 (h:=tz 2 (h:=tz 3 (h:=tz 4 (h:=tz 5 (h:=tz 6 (h:=tz 7 (h:=tz 8 (h:=tz 9 (h:=tz 10 (h:=tz 11 (h:=?_))))))))))));refine tz 12 (h:=?_);refine ry 13 λK hK=>?_;refine Bd rfl rfl w4 n ?_;refine hK.out _ _ cc λ_=>?_;clear hK K E cc;refine Fj ?_;go_wp2_with fail;refine FD results51 underlying45 R ?_;rw[(z r).1,(z r).2];exact⟨rfl,_,_,Q⟩
  have r:Hid<|Dk s a=GI (Cg s.F (s.T t)<|BL (s.S i).key)/\BK s a=AY s i t:=O (by
   refine⟨u.1.trans ?_,u.2⟩;rw[Cs h0])
  have hd:decide (0<=fi)=false:=ot;clear u h0 I;have ak:=O<|LX t o b9 P ca;obtain⟨lk,k0,k1,k2,k3,k4⟩:=z b8;clear c1 g1;go_wp2_with fail;refine ak.mono ?_;rintro e w4 ⟨rfl,aM⟩;obtain⟨x,hx⟩:=o9<|Cg s.F (s.T t)<|BL (s.S i).key;rw[show Cg (AY s i t).F ((AY s i t).T t) (BL (s.S i).key)=x from hx.symm];have bj:=O hx;obtain⟨w5,j,l⟩:=BB (ax.below aM om)<|GI x;rcases O j,O<|U (o.below aM) rfl (aw.below aM) l,O<|l.Bw,Ah l.Bw with⟨n,Q,R,l4⟩;clear j l hx aM ak a0 a1 a2 a3 a4 a5 a6 a7 a8 a9 A C a12 D k0 k1 k2 k3 k4;go_wp2_with (refine Ag rfl rfl _ n ?_);refine FD results51 underlying45 R ?_;rw[(z r).1,(z r).2,<-z bj];exact⟨rfl,_,_,Q⟩
 have d8:(a.op==8)=false:=by simp[hop]
 by_cases hc:0<=fi/\a.v.kind≠0
 .obtain⟨q,rfl,az⟩:=z I hc.1;have r:Hid<|Dk s a=BH 0/\BK s a=BJ (AY s i t) t (Gn (s.T t) q a.v):=O (by
   obtain⟨et,ei⟩:=z HE;have h1:=ai.symm;unfold Dk BK;simp[hop,et,ei,h1,hc.2])
  have c0:(a.v.kind !=0)=true:=by simp[hc.2]
  clear hc hop I;obtain⟨m,rfl,cl⟩:∃m,va=some (G m 0)/\m<w3.heap.size:=by
   obtain⟨hl,⟨hv,h0⟩|⟨g,cp,cur,hv,_,ad,_⟩⟩:=id aj
   .omega
   cases hv;exact⟨_,rfl,Ah ad⟩
  have cm:=z HO m<|.inr<|.inr<|.inr<|.inr ⟨t,P,.inl<|qg ay⟩;obtain⟨e0,e1,e2,e3,e4⟩:=BW.at aj az;have fv:=λq=>World.ownsRow.frozenAt aj q;have bk:=o.apart P (q:=m)<|.inl<|qg ay;have cr:c≠m:=λe=>bk.1 e.symm;have ct:g≠m:=λe=>bk.2.2.1<|qh e;have E:Ly c w.heap.size g s.nt cp t m (s.T t).nv vc a.v w3.drew:=⟨c1,a1,g1,a9,A,C,a12,D⟩;have cn:=PO.nv (HG.t t P) HG.f;have bm:=o.eY P ay az a.v;obtain⟨w5,j,l⟩:=BB (w:=(Hd w3 m (q*5) a.v).drew) ((D9 w3 m (q*5) a.v om).trans ax)<|BH 0;rcases O j,O<|U (bm.1.keep (w':=(Hd w3 m (q*5) a.v).drew) λ_ _=>rfl) rfl ((aw.trans bm.2).below (BE _ _).drew) l,O<|l.Bw,Ah l.Bw with⟨n,Q,R,l4⟩;clear j l bk bm c1 g1 a1 a2 a3 a4 a5 a6 a7 a8 A C a12 D;go_upto_region 8 with fail
  have cq:t<(AY s i t).nt:=P;refine Gq (Ly c w.heap.size g s.nt cp t m (s.T t).nv vc a.v) ?_;refine tz 0 (h:=tz 1 (h:=tz 2 (h:=tz 3 (h:=tz 4 (h:=tz 5 (h:=tz 6 (h:=tz 7 (h:=tz 8 (h:=tz 9 (h:=tz 10 (h:=tz 11 (h:=?_))))))))))));refine tz 12 (h:=?_);refine ry 13 λK hK=>?_;go_simp;refine hK.out _ (World.drew<|Hd w3 m (q*5) a.v) (Ly.keep (W:=w3) E (D9 w3 m (q*5) a.v cr) (D9 w3 m (q*5) a.v om)<|D9 w3 m (q*5) a.v ct) λ_=>?_;clear hK K E;refine Fj ?_;clear e0 e1 e2 e3 e4 fv a0 a9;go_wp2_with (refine Ag rfl rfl _ n ?_);refine FD results51 underlying45 R ?_;rw[(z r).1,(z r).2];exact⟨rfl,_,_,Q⟩
 have r:Hid<|Dk s a=BH (CE (AY s i t) t (BL (s.S i).key) a.v)/\BK s a=Ct (AY s i t) t (BL (s.S i).key) a.v:=O (by
  obtain⟨et,ei⟩:=z HE;have h1:¬(0<=Bh s i t/\a.v.kind≠0):=by rw[<-z ai];exact hc
  unfold Dk BK;simp only[hop,et,ei,On];simp only[Cs h1];exact⟨rfl,rfl⟩)
 have ao:=O<|QY t a.v o b9 P ca hv;obtain⟨lk,k0,k1,k2,k3,k4⟩:=z b8;have harm:(0<=fi/\a.v.kind=0)\/¬0<=fi:=by
  by_cases h0:0<=fi
  .exact .inl ⟨h0,AaO λh=>hc ⟨h0,h⟩⟩
  exact .inr h0
 clear hc hop I c1 g1;rcases harm with⟨h0,h1⟩|h0
 case' inl=>
  have hd:decide (0<=fi)=true:=by simp[h0]
  have c3:(a.v.kind !=0)=false:=by simp[h1]
  clear h0 h1;go_upto_region 10 with fail
 case' inr=>
  have hd:decide (0<=fi)=false:=ot;clear h0;go_upto_region 10 with fail
 all_goals
  go_wp2_with fail
  refine ao.mono ?_;rintro e w4 ⟨rfl,L,H',cd,bn⟩;have cg:Iw w4<|w.heap.size+1:=(bn.block _ om λe=>oS<|z HO _ e).trans ax;obtain⟨x,hx⟩:=o9<|CE (AY s i t) t (BL (s.S i).key) a.v;rw[<-hx];have bj:=O hx;obtain⟨w5,j,l⟩:=BB cg<|BH x;have n:=O j;have aq:(Ct (AY s i t) t (BL (s.S i).key) a.v).nt=s.nt:=NA _ _ _ _;have Q:=O<|U cd aq (aw.trans bn) l;have R:=O<|l.Bw;clear j l hx cd bn cg aq ao a0 a1 a2 a3 a4 a5 a6 a7 a8 a9 A C a12 D k0 k1 k2 k3 k4 hd;go_wp2_with (refine Ag rfl rfl _ n ?_);refine FD results51 underlying45 R ?_;rw[(z r).1,(z r).2,<-z bj];exact⟨rfl,_,_,Q⟩
end Go.Proofs.YtoobllcjfinmoaaGreatDoor
