import Derived.Test.YtgmlkfgfjjggnaaGreatDoorSPAD
set_option linter.all false
set_option maxHeartbeats 40000000
set_option maxRecDepth 100000
namespace Go.Proofs.YtgmlkfgfjjggnaaGreatDoor
open Go.Proofs.Tryz
open Go.RowKit
attribute [local go_sem] Am Aj Cx
variable {j k c a g nt b t n i l B ab nv vc q tc g3 M b0 m:Nat}{d:Dc}{v x:Vl}{vT f vF vS:V9}{W W' w w' w1 w2:Y}{cs:Array Value}{ty:TypeId}{P:Program}{s' s:AK}{H H':Nat->Hs}
section
variable {w w' W:Y} {c B:Nat} {vF vT vS:V9} {H:Nat->Hs} {s:AK}
theorem SM.Zw(h:SM w c B vF vT vS H s){t i a vc:Nat}(b:t<s.nt)(d:(H t).v=S9 a (s.T t).nv vc)(hi:i<(s.T t).nv)(v:Vl):
  SM (FL w a (i*5) v) c B vF vT vS H (BW s t (Eh (s.T t) i v))/\Br (A5 c vF vT vS H s.nt) w (A5 c vF vT vS H s.nt) (FL w a (i*5) v):=by
 obtain⟨s1,s2,j,r⟩:=cW w a (i*5) v;have hb:(H t).v.ownBlock=some a:=by rw[d];rfl
 have nb:∀{e Z n:Nat} {u:V9} {xs:List Value},w.ownsRow B e Z u n xs->e≠43->∀g,u.ownBlock=some g->(FL w a (i*5) v).heap[g]?=w.heap[g]?:=fun m o g e=>DR w a (i*5) v (fun e'=>BV m (h.v t b) o e (by rw[e'];exact hb));have f:=h.v t b;rw[d]at f;have:=h.table (w':=FL w a (i*5) v) b (h':=H t) (t':=Eh (s.T t) i v) ⟨s1,s2,j,oa⟩ (fun k k1 k2 k3=>DR w a (i*5) v (fun e=>k3 (.inl (by rw[e];exact hb)))) (by
   have p:Rp (FL w a (i*5) v) B vT s.nt H s.T:=Ae h.t (nb h.t oc);rw[Lj];unfold Rp;rw[Xt (T':=s.T) (H':=H) (fun q hq=>by
    by_cases e:q=t
    ·subst e;rw[Ak];rfl
    ·rw[Al _ _ e])]
   exact p) (by rw[d];exact Cp.FL f hi v) (Ae (h.l t b) (nb (h.l t b) oc)) (Ae (h.i t b) (nb (h.i t b) oc)) (Ae (h.x t b) (nb (h.x t b) oc)) (h.ap t b) (fun q e=>.inl e)
 rw[Lj]at this;exact this
theorem SM.fI{o:Nat}(h:SM w c B (S9 j s.nf o) vT vS H s)(hb:VM c j w w'){b' b n':Nat}{f':Nat->A3}(hl:b'=j\/w.heap.size<=b')(hc:w'.cell? (G c 0)=some (S9 b' n' b))(p:Ev w' B (S9 b' n' b) n' f'):
  SM w' c B (S9 b' n' b) vT vS H {s with nf:=n',F:=f'}/\Br (A5 c (S9 j s.nf o) vT vS H s.nt) w (A5 c (S9 b' n' b) vT vS H s.nt) w':=by
 have d:w'.heap[c]?=some (.cells #[S9 b' n' b,vT,vS] 42 (0,0)):=by
  rcases hb.box with e|⟨u,e⟩
  ·have h1:=As (a:=(G c 0)) e;rw[hc,h.cells.1]at h1;cases h1;exact e.trans h.BB
  ·have h1:=e _ _ h.BB;have h2:w'.cell? (G c 0)=some u:=by simp[World.cell?,h1]
   rw[hc]at h2;cases h2;exact h1
 have hk:∀{e Z n:Nat} {u:V9} {xs:List Value},w.ownsRow B e Z u n xs->e≠42->e≠205->∀g,u.ownBlock=some g->w'.heap[g]?=w.heap[g]?:=fun m h1 h2 g e=>hb.block g (m.lt g e).2 (fun e'=>h.A9 m h1 (by rw[<-e'];exact e)) (fun e'=>BV m h.f h2 e (by rw[e'];rfl));refine⟨⟨h.base,d,p,Ae h.t (hk h.t oc oc),Ae h.si (hk h.si oc oc),fun i hi=>Ae (h.v i hi) (hk (h.v i hi) oc oc),fun i hi=>Ae (h.l i hi) (hk (h.l i hi) oc oc),fun i hi=>Ae (h.i i hi) (hk (h.i i hi) oc oc),fun i hi=>Ae (h.x i hi) (hk (h.x i hi) oc oc),h.ap,h.ij⟩,⟨hb.os,hb.tape,hb.output,hb.size,fun k k1 k2=>hb.block k k1 (fun e=>k2 (.inl e)) (fun e=>k2 (.inr (.inl (by rw[e];rfl)))),?_⟩⟩;rintro k (e|e|e)
 ·exact .inl (.inl e)
 ·have:b'=k:=by simpa[Value.ownBlock]using e
  rcases hl with h1|h1
  ·exact .inl (.inr (.inl (by rw[<-this,h1];rfl)))
  ·exact .inr oa
 ·exact .inl (.inr (.inr e))
theorem SM.Zt(h:SM w c B vF vT vS H s){t g b:Nat}(a:t<s.nt)(d:vT=S9 g s.nt b)(r:Int):
  SM (w.setCell (G g (t*8)) (J r)) c B vF vT vS H (BW s t {s.T t with shape:=r})/\Br (A5 c vF vT vS H s.nt) w (A5 c vF vT vS H s.nt) (w.setCell (G g (t*8)) (J r)):=by
 have:=h.FM (W:=w) a d (fun _ _ _=>rfl) ⟨rfl,rfl,rfl,Be _⟩ 0 [J r] (h':=H t) (t':={s.T t with shape:=r}) od (fun j=>by
  rcases j with _|j
  ·rfl
  ·rw[C3 od];rfl) (h.v t a) (h.l t a) (h.i t a) (h.x t a) (h.ap t a) (fun q e=>.inl e)
 rw[Lj]at this;exact this
theorem SM.eY(h:SM w c B vF vT vS H s){t g m:Nat}(a:t<s.nt)(o:vT=S9 g s.nt m){x:Tb}(hx:s.T t=x){u:V9}{v:Vl}(hk:∀k,k<w.heap.size->(H t).v.ownBlock≠some k->W.heap[k]?=w.heap[k]?)(d:W.os=w.os/\W.tape=w.tape/\W.output=w.output/\w.heap.size<=W.heap.size)
  (hu:Cp W B u (x.nv+1) (AY x.V x.nv v)) (hq:∀q,u.ownBlock=some q->(H t).v.ownBlock=some q\/w.heap.size<=q):
  SM (W.setCell (G g (t*8+1)) u) c B vF vT vS (AY H t {H t with v:=u}) (BW s t {x with nv:=x.nv+1,V:=AY x.V x.nv v})/\Br (A5 c vF vT vS H s.nt) w (A5 c vF vT vS (AY H t {H t with v:=u}) s.nt) (W.setCell (G g (t*8+1)) u):=by
 subst hx;have b:∀{e Z n:Nat} {u:V9} {xs:List Value},w.ownsRow B e Z u n xs->e≠43->∀q,u.ownBlock=some q->W.heap[q]?=w.heap[q]?:=fun f p q e=>hk q (f.lt q e).2 (BV f (h.v t a) p e);exact h.FM (W:=W) a o (fun k k1 k2=>hk k k1 (fun e=>k2 (.inl e))) d 1 [u] (h':={H t with v:=u}) (t':={s.T t with nv:=(s.T t).nv+1,V:=AY (s.T t).V (s.T t).nv v}) od (fun j=>by
  rcases j with _|_|j
  ·rfl
  ·rfl
  ·rw[C3 od];rfl) hu (Ae (h.l t a) (b (h.l t a) oc)) (Ae (h.i t a) (b (h.i t a) oc)) (Ae (h.x t a) (b (h.x t a) oc)) (h.ap t a) (fun q e=>by
  rcases e with e|e
  ·exact(hq q e).imp .inl id
  ·exact .inl (.inr e))
end
theorem K8{k:Vl}(h:Inv Ky hN d)(hk:Ky k){p:Pr}(a:Has d p)(hl:AE p.key k=true):0<=Aw d k (hN k):=by
 rcases h.i0.place Ca hk with⟨i,h1,h2,h3,h4⟩|⟨h1,h2⟩
 ·omega
 ·obtain⟨i,a1,a2,rfl⟩:=a;rw[h1 i a1 a2]at hl;cases hl
theorem Wo{k:Vl}(h:Inv Ky hN d)(hk:Ky k)(b:v.ok=true):EP d k v=(decide (v.kind≠0)&&decide (Aw (Cf hN d k v) k (hN k)<0)):=by
 have hi:=Ij Ca h hk hk.1 b;have g:=h.i0.le;have j:=h.i0.turns;unfold EP;rcases Kg Ca h hk hk.1 b with⟨q,a1,a2,a3,_⟩|⟨q,a1,a2,a3,a4,_⟩|⟨a1,a2,a3,a4,a5⟩|⟨a1,a2,a3⟩
 ·simp[a3]
 ·have h1:=K8 h hk a1 a2;have h2:=K8 hi hk ((a4 ⟨q.key,v,q.turn⟩).2 (.inr rfl)) a2;rw[decide_eq_false (p:=Aw d k (hN k)<0) oa,decide_eq_false (p:=Aw (Cf hN d k v) k (hN k)<0) oa];simp
 ·have h2:=K8 hi hk ((a3 ⟨k,v,d.turns+1⟩).2 (.inr rfl)) (Ca.refl _ hk);have c:=hi.i0.le;have f:=hi.i0.turns;rw[decide_eq_false (p:=Aw (Cf hN d k v) k (hN k)<0) oa,decide_eq_false (p:=d.live=500) oa,decide_eq_false (p:=d.turns=1000000000000) oa];simp
 ·rw[a3];have h1:Aw d k (hN k)<0:=by
   rcases h.i0.place Ca hk with⟨i,b1,b2,b3,b4⟩|⟨b1,b2⟩
   ·rw[a1 _ (GI b1 b2)]at b3;cases b3
   ·omega
  by_cases a:v.kind=0
  ·simp[a]
  ·have:d.live=500\/d.turns=1000000000000:=by
    by_cases e:d.live<500
    ·right;have:¬d.turns<1000000000000:=fun e'=>a2 ⟨a,e,e'⟩;omega
    ·left;omega
   rw[decide_eq_true h1];rcases this with e|e<;>simp[a,e]
theorem fD{k:Vl}(h:Inv Ky hN d)(hk:Ky k):(Fe d (Aw d k (hN k))).kind=0↔Aw d k (hN k)<0:=by
 rcases h.i0.place Ca hk with⟨i,h1,h2,h3,h4⟩|⟨h1,h2⟩
 ·have:=(h.entry (GI h1 h2)).2.2.2;rw[h4];unfold Fe;rw[DD oa,NO];exact⟨fun e=>absurd e this,fun e=>oa⟩
 ·rw[h2];exact⟨fun _=>oa,fun _=>rfl⟩
theorem X8{x:Tb}(h1:x.shape=-1)(h2:x.nv=0)(k v:Vl):Ew x x.d k v={x with d:=Cf hN x.d k v}:=by
 obtain⟨a,b,V,d⟩:=x;simp only at h1 h2;subst h1;subst h2;rfl
theorem VE(s:AK)(t:Nat):BW s t (s.T t)=s:=by
 unfold BW;rw[Lj]
theorem SX(s:AK)(t:Nat)(x Z:Tb):BW (BW s t x) t Z=BW s t Z:=by
 unfold BW;have:AY (AY s.T t x) t Z=AY s.T t Z:=by
  funext q
  by_cases e:q=t
  ·rw[e,Ak,Ak]
  ·rw[Al _ _ e,Al _ _ e,Al _ _ e]
 show({s with T:=AY (AY s.T t x) t Z}:AK)=_;rw[this]
structure XW (s:AK) (t:Nat) (k v:Vl) (x:Tb):Prop where
 sh:x.shape=-1
 nv:x.nv=0
 inv:Inv Ky hN x.d
 m:x.d.m<=4000000
 yes:(Cm s.F (s.T t) k).kind=0->(x.d.live=500\/x.d.turns=1000000000000)->Cv s t k v=5/\CC s t k v=BW s t x
 no:¬((Cm s.F (s.T t) k).kind=0/\(x.d.live=500\/x.d.turns=1000000000000))->Cv s t k v=0/\CC s t k v=BW s t {x with d:=Cf hN x.d k v}
section
variable {s:AK} {t:Nat} {k v:Vl}
theorem Xr(g:KH s)(h:t<s.nt)(hk:Ky k)(hn:¬(v.kind=0/\(Cm s.F (s.T t) k).kind=0))(hs:(s.T t).shape<0):XW s t k v (s.T t):=by
 have hx:=g.t t h;rcases hx.way with⟨e1,e2,f⟩|⟨j,e,_⟩
 ·have i:Cm s.F (s.T t) k=Fe (s.T t).d (Aw (s.T t).d k (hN k)):=DD hs;have a:=fD f hk;rw[<-i]at a;refine⟨e1,e2,f,hx.m,fun b h1=>?_,fun b=>?_⟩
  ·have c:BN s (s.T t) k v=.full:=by
    unfold BN;rw[C3 hn,C3 oa,DD];unfold EP;have l:=a.1 b;rw[decide_eq_true (p:=v.kind≠0) (fun e=>hn ⟨e,b⟩),decide_eq_true (p:=Aw (s.T t).d k (hN k)<0) l];simpa using h1
   unfold Cv CC;rw[c,VE];exact⟨rfl,rfl⟩
  ·have c:BN s (s.T t) k v=.MX:=by
    unfold BN;rw[C3 hn,C3 oa,C3];unfold EP;simp only[To,AaO,Bool.or_eq_true];rintro⟨_,h2,h3⟩;exact b ⟨a.2 h2,h3⟩
   unfold Cv CC;rw[c];refine⟨rfl,?_⟩;show BW s t (Ew (s.T t) (s.T t).d k v)=_;rw[X8 e1 e2]
 ·omega
theorem UJ(c:KH s){j:Nat}(d:(s.T t).shape=j)(hj:j<s.nf)(e:(s.T t).nv=nf s.F j)(b:∀i,i<(s.T t).nv->OV ((s.T t).V i)=true)(g:BN s (s.T t) k v=.loose):XW s t k v ⟨-1,0,(s.T t).V,Av s.F j (s.T t).V (s.T t).nv⟩:=by
 have a:=Fo c.f hj (W:=(s.T t).V) (fun i hi=>b i oa) (s.T t).nv oa;have hn:=Gq c.f hj;have h1:=a.live;have h2:=a.turns;have h3:=a.m;refine⟨rfl,rfl,a.ls.inv,?_,fun _ h=>?_,fun _=>?_⟩
 ·show(Av s.F j (s.T t).V (s.T t).nv).m<=_;omega
 ·have h:(Av s.F j (s.T t).V (s.T t).nv).live=500\/(Av s.F j (s.T t).V (s.T t).nv).turns=1000000000000:=h;omega
 ·unfold Cv CC;rw[g];refine⟨rfl,?_⟩;show BW s t (Ew (s.T t) (Av s.F (s.T t).shape.toNat (s.T t).V (s.T t).nv) k v)=_;rw[d,NO];rfl
end
def Ty(a b:Nat)(sh:Int)(str:ByteArray)(W:Y):Prop:=W.cell? (G a 0)=some (J sh)/\W.cell? (G b 3)=some (.string str)
def Fv(c a:Nat)(vT:V9)(v:Vl)(W:Y):Prop:=W.cell? (G c 1)=some vT/\W.cell? (G a 0)=some (J v.kind)/\W.cell? (G a 1)=some (J v.num)/\W.cell? (G a 2)=some (F9 v.Ag)/\W.cell? (G a 3)=some (.string v.str)/\W.cell? (G a 4)=some (J v.ref)
theorem Fv.keep(h:Fv c a vT v W)(h1:W'.heap[c]?=W.heap[c]?)(h3:W'.heap[a]?=W.heap[a]?):Fv c a vT v W':=
 ⟨(As h1).trans h.1,(As h3).trans h.2.1,(As h3).trans h.2.2.1,(As h3).trans h.2.2.2.1,(As h3).trans h.2.2.2.2.1,(As h3).trans h.2.2.2.2.2⟩
def KG(c g nt b t a:Nat)(u:V9)(v:Vl)(W:Y):Prop:=W.cell? (G c 1)=some (S9 g nt b)/\W.cell? (G g (t*8+1))=some u/\W.cell? (G a 0)=some (J v.kind)/\W.cell? (G a 1)=some (J v.num)/\W.cell? (G a 2)=some (F9 v.Ag)/\W.cell? (G a 3)=some (.string v.str)/\W.cell? (G a 4)=some (J v.ref)
theorem KG.keep{u:V9}(h:KG c g nt b t a u v W)(h1:W'.heap[c]?=W.heap[c]?)(h2:W'.heap[g]?=W.heap[g]?)(h3:W'.heap[a]?=W.heap[a]?):KG c g nt b t a u v W':=
 ⟨(As h1).trans h.1,(As h2).trans h.2.1,(As h3).trans h.2.2.1,(As h3).trans h.2.2.2.1,(As h3).trans h.2.2.2.2.1,(As h3).trans h.2.2.2.2.2.1,(As h3).trans h.2.2.2.2.2.2⟩
theorem Px(c B:Nat)(vF vT vS:V9)(H:Nat->Hs)(s:AK)(t:Nat)(k v:Vl)(w:Y)(hM:SM w c B vF vT vS H s)(hG:KH s)(M:t<s.nt)(hk:Ky k)(hv:v.ok=true):
  C9 102 #[Q9 c,J t,Gf k,Gf v] w fun e w'=>e=.returned (J (Cv s t k v))/\∃P H',SM w' c B P vT vS H' (CC s t k v)/\Br (A5 c vF vT vS H s.nt) w (A5 c P vT vS H' s.nt) w':=by
 obtain⟨cg,dh,di,dj,dk⟩:=AB hG.f;have eP:0<s.nf:=oj cg.1;obtain⟨g,L,rfl,hg,ga,hc,gb⟩:=hM.CP M;obtain⟨fb,fc,rfl,eR,gd,hF⟩:=hM.M0 eP;obtain⟨c0,c1,c2,_⟩:=hM.cells;have gf:=hM.lt;have gg:s.nt<=100:=hG.nt;obtain⟨va,vc,ev⟩:=Ay (hM.v t M);obtain⟨la,lc,el,eS⟩:=(hM.l t M).at;obtain⟨ia,ic,ei,eX⟩:=(hM.i t M).at;obtain⟨xa,xc,ex,e5⟩:=(hM.x t M).at;obtain⟨y0,y1,y2,y3,y4,y5,y6,y7⟩:=ou hc;rw[ev]at y1;rw[el]at y2;rw[ei]at y3;rw[ex]at y4;simp only[W4]at y0;obtain⟨W,hW⟩:∃W,W=((w.alloc (.cells (ow k) 43)).alloc (.cells (ow v) 43)).alloc (.cells #[J (s.T t).shape,.slice va (s.T t).nv vc,.slice la (s.T t).d.n lc,.slice ia (s.T t).d.m ic,.slice xa (s.T t).d.x xc,J (s.T t).d.used,J (s.T t).d.live,J (s.T t).d.turns] 94):=⟨_,rfl⟩;have ch:Below w.heap.size w W:=by rw[hW];exact((n9).alloc od _).alloc oe _
 have b2:W.heap.size=w.heap.size+1+1+1:=by rw[hW];simp
 have af:TD W w.heap.size k:=⟨by rw[hW];simp;omega,by rw[hW];simp[go_sem],by rw[hW];simp[go_sem],by rw[hW];simp[go_sem],by rw[hW];simp[go_sem],by rw[hW];simp[go_sem]⟩;have dm:TD W (w.heap.size+1) v:=⟨by rw[hW];simp,by rw[hW];simp[go_sem],by rw[hW];simp[go_sem],by rw[hW];simp[go_sem],by rw[hW];simp[go_sem],by rw[hW];simp[go_sem]⟩;have dn:W.cell? (G (w.heap.size+1+1) 0)=some (J (s.T t).shape):=by rw[hW];simp[go_sem]
 have br:=O (KZ c B _ _ vS H s t k W (hM.below ch) hG M hk);have HM:=O hM;have HG:=O hG;have HK:=O hk;have HR:=O (And.intro cg (And.intro dh (And.intro di (And.intro dk dj))));have ax:=O (And.intro af (And.intro dm dn));have cj:=O ch;have HZ:=O b2;have HF:=O hF;have Q:=O ev;have e6:=af.c0;have e7:=af.c1;have DI:=af.c2;have e8:=af.c3;have bf:=af.c4;have lk:=af.lt;have e9:c<W.heap.size:=oa;clear hM hG hk cg dh di dj dk af dm dn ch b2 eS eX e5 hc hF ev el ei ex
 go_enter func102,ntmps102
 go_upto_region 2 with fail
 rw[<-hW];clear hW y0 y1 y2 y3 y4 y5 y6 y7 c0 c1 c2;go_wp2_with fail;refine br.mono ?_;rintro e w1 ⟨rfl,b3⟩;clear br;obtain⟨o,ho⟩:∃o,o=Cm s.F (s.T t) k:=⟨_,rfl⟩;rw[<-ho];have HO:=O ho;clear e6 e7 DI e8 bf lk e9 ho;go_upto_region 3 with fail
 obtain⟨X,hX⟩:∃X,X=w1.alloc (.cells (ow o) 43):=⟨_,rfl⟩;rw[<-hX];have A:Below W.heap.size W X:=by rw[hX];exact b3.alloc b3.size _
 have b4:Below w.heap.size w X:=oo cj A;have b2:=z HZ;have ck:=b3.size;have dp:X.heap.size=w1.heap.size+1:=by rw[hX];simp
 have dq:=ax.1.below A ax.1.lt;have b5:=ax.2.1.below A ax.2.1.lt;have x0:X.cell? (G (w.heap.size+1+1) 0)=some (J (s.T t).shape):=ol A (by show w.heap.size+1+1<W.heap.size;omega) ax.2.2;have o0:X.cell? (G w1.heap.size 0)=some (J o.kind):=by rw[hX];simp[go_sem]
 have b6:=O (HM.below b4);have dr:Hid (∀{O':Nat->Prop} {w':Y},Br (A5 c (S9 fb s.nf fc) (S9 g s.nt L) vS H s.nt) X O' w'->∀b,w.heap.size<=b->b<X.heap.size->w'.heap[b]?=X.heap[b]?):=O (fun hd b h1 h2=>hd.block b h2 (fun e=>oj (HM.Ol e).2));have bg:Hid (Br (A5 c (S9 fb s.nf fc) (S9 g s.nt L) vS H s.nt) w (A5 c (S9 fb s.nf fc) (S9 g s.nt L) vS H s.nt) X):=O (Br.Ar b4);have cl:w1.heap.size<X.heap.size:=oa;have fa:w.heap.size+1+1<w1.heap.size:=oa;have b7:w.heap.size+1+1<X.heap.size:=oa;have gh:c<X.heap.size:=oa;have gi:g<X.heap.size:=oa;generalize w1.heap.size=ob at dp o0 cl fa hX ⊢;have bh:=O dq;have dt:=O b5;have v0:=b5.c0;have lv:=b5.lt;have bt:=O b4;have gj:=O (And.intro x0 o0);clear cj ax b3 A hX dp ck b2 HZ dq b5 b4
 go_cut [32] (fun q wx=>∃bb:Bool,q=.bool bb/\(bb=true↔o.kind=0/\v.kind=0)/\wx=X)
 case first=>
  by_cases a:o.kind=0
  ·have d0:(o.kind==0)=true:=by simp[a]
   by_cases h1:v.kind=0
   ·have d1:(v.kind==0)=true:=by simp[h1]
    have I:=O (And.intro a h1);clear a h1;go_wp2_with fail
    go_meet
    case rel=>exact⟨true,rfl,⟨fun _=>I,fun _=>rfl⟩,rfl⟩
   ·have d1:(v.kind==0)=false:=by simp[h1]
    have I:=O h1;clear a h1;go_wp2_with fail
    go_meet
    case rel=>exact⟨false,rfl,⟨fun e=>(by cases e),fun e=>absurd e.2 I⟩,rfl⟩
  ·have d0:(o.kind==0)=false:=by simp[a]
   have I:=O a;clear a;go_wp2_with fail
   go_meet
   case rel=>exact⟨false,rfl,⟨fun e=>(by cases e),fun e=>absurd e.1 I⟩,rfl⟩
 obtain⟨bb,rfl,C,bj⟩:=hcut;cases bj;cases bb
 case true=>
  have cm:=C.1 rfl;have du:Hid (Cv s t k v=0/\CC s t k v=s):=O (by
   have hw:BN s (s.T t) k v=.no:=DD ⟨cm.2,by rw[<-z HO];exact cm.1⟩;unfold Cv CC;rw[hw];exact⟨rfl,rfl⟩)
  clear cm C;go_wp2_with fail;go_ret;exact⟨by rw[(z du).1];rfl,_,H,by rw[(z du).2];exact b6,bg⟩
 have b8:Hid (¬(v.kind=0/\(Cm s.F (s.T t) k).kind=0)):=O (fun h=>by have:=C.2 ⟨by rw[z HO];exact h.2,h.1⟩;cases this);clear C;have k0:=bh.c0;have lk:=bh.lt;go_upto_region 5 with fail
 go_cut [45] (fun q wx=>∃bb:Bool,q=.bool bb/\(bb=true↔0<=(s.T t).shape/\k.kind=4/\v.kind≠0)/\wx=X)
 case first=>
  by_cases a:0<=(s.T t).shape
  ·have d0:decide (0<=(s.T t).shape)=true:=by simp[a]
   by_cases h1:k.kind=4
   ·have d1:(k.kind==4)=true:=by simp[h1]
    by_cases h2:v.kind=0
    ·have d2:(v.kind !=0)=false:=by simp[h2]
     have I:=O h2;clear a h1 h2;go_wp2_with fail
     go_meet
     case rel=>exact⟨false,rfl,⟨fun e=>(by cases e),fun e=>absurd I e.2.2⟩,rfl⟩
    ·have d2:(v.kind !=0)=true:=by simp[h2]
     have I:=O (And.intro a (And.intro h1 h2));clear a h1 h2;go_wp2_with fail
     go_meet
     case rel=>exact⟨true,rfl,⟨fun _=>I,fun _=>rfl⟩,rfl⟩
   ·have d1:(k.kind==4)=false:=by simp[h1]
    have I:=O h1;clear a h1;go_wp2_with fail
    go_meet
    case rel=>exact⟨false,rfl,⟨fun e=>(by cases e),fun e=>absurd e.2.1 I⟩,rfl⟩
  ·have d0:decide (0<=(s.T t).shape)=false:=oe;have I:Hid ((s.T t).shape<0):=O oa;clear a;go_wp2_with fail
   go_meet
   case rel=>exact⟨false,rfl,⟨fun e=>(by cases e),fun e=>absurd e.1 (oj (z I))⟩,rfl⟩
 obtain⟨bb,rfl,C,bj⟩:=hcut;cases bj;have dv:=O C;clear C
 go_upto_if 45 with fail
 go_cut [11,12] (fun _ _ wx=>∃P,SM wx c B P (S9 g s.nt L) vS H s/\Br (A5 c (S9 fb s.nf fc) (S9 g s.nt L) vS H s.nt) X (A5 c P (S9 g s.nt L) vS H s.nt) wx/\(0<=(s.T t).shape->BN s (s.T t) k v=.loose))
 case first=>
  cases bb
  case false=>
   have I:Hid (0<=(s.T t).shape->BN s (s.T t) k v=.loose):=O (fun a=>by
    unfold BN;rw[C3 (z b8),DD a,C3];rintro⟨h1,h2⟩;have:=dv.2 ⟨a,h1,h2⟩;cases this)
   go_wp2_with fail
   go_meet
   case rel=>exact⟨_,b6,Br.refl _ _,I⟩
  obtain⟨KS,bf,cn⟩:=dv.1 rfl;obtain⟨j,he,hj,ar,_,bk⟩:∃j:Nat,(s.T t).shape=j/\j<s.nf/\(s.T t).nv=nf s.F j/\bare (s.T t).d/\∀i,i<(s.T t).nv->OV ((s.T t).V i)=true/\Wf ((s.T t).V i):=by
   rcases(HG.t t M).way with⟨e,_⟩|h
   ·omega
   ·exact h
  have eI:(s.T t).nv<=12:=by rw[ar];exact Gq HG.f hj
  have HJ:=O (And.intro he (And.intro hj ar));have dw:Hid (∀w',Cl w' fb s.nf s.F->C9 140 #[.agg #[S9 fb s.nf fc],J (s.T t).shape,.string k.str] w' fun e fe=>e=.returned (J (BO s.F j k.str))/\Below w'.heap.size w' fe):=O (fun w' hS=>by
   rw[(z HJ).1];exact Nq fb s.nf fc j k.str s.F w' hS HR.1 HR.2.1 HR.2.2.1 HR.2.2.2.1 HJ.2.1)
  have c0:=b6.cells.1;have k3:=bh.c3;have cq:Hid (Cl X fb s.nf s.F):=O (HF.below bt eR);have dx:Hid (∀i:Nat,BO s.F j k.str=i->BN s (s.T t) k v=.Dr):=O (fun i hp=>by
   unfold BN;rw[C3 (z b8),DD KS,DD ⟨bf,cn⟩,DD];rw[he,NO,hp];omega)
  have dy:Hid (BO s.F j k.str=-1->BN s (s.T t) k v=if 0<=ER s.nf s.F j k.str then .grow else .loose):=O (fun hp=>by
   unfold BN;rw[C3 (z b8),DD KS,DD ⟨bf,cn⟩,he,NO,hp,C3 oa])
  clear KS bf cn he hj ar bk;go_upto_region 6 with fail
  refine qr X ?_;refine N (h:=N (h:=N (h:=N (h:=N (h:=N (h:=N (h:=N (h:=?_))))))));refine GS (fun K hK=>?_);go_simp;refine⟨_,fun w' dz=>qk dz (dw _ (cq.below dz cq.lt)),hK _ ?_⟩;clear hK K;refine N (h:=?_);refine H7 ?_;intro w2 A;have D:=O (b6.below A);have bm:Hid (Br (A5 c (S9 fb s.nf fc) (S9 g s.nt L) vS H s.nt) X (A5 c (S9 fb s.nf fc) (S9 g s.nt L) vS H s.nt) w2):=O (Br.Ar A);have ay:=O (dt.below A lv);have ff:=O (bh.below A lk);have x2:=ol A b7 x0;have gl:=A.size;have gm:w.heap.size<=X.heap.size:=bt.size;obtain⟨_,c1,_,fg⟩:=D.cells;obtain⟨g',bn,eg,_,_,ag,cN⟩:=D.CP M;cases eg;have g1:=ag 1 _ rfl;rw[z Q]at g1;have au:=D.v t M;rw[z Q]at au;have cr:=O au;have fh:c≠g:=fun e=>HM.A9 HM.t oc (by rw[e];rfl);have gn:g<w2.heap.size:=oa;have dC:c<w2.heap.size:=oa;clear A ag au v0 x0 o0 k0 k3 c0 cq dw;rcases GU HG.f HJ.2.1 k.str with hp|⟨i,hp,hi⟩
  ·have bu:=O (dy hp);rw[hp];clear hp dy dx;have k3:=ff.c3;have ah:Ty (w.heap.size+1+1) w.heap.size (s.T t).shape k.str w2.drew:=⟨x2,k3⟩;have c6:c≠fb:=fun e=>HM.A9 HM.f oc (by rw[e];rfl);have b1:Hid (C9 164 #[Q9 c,J (s.T t).shape,.string k.str] w2.drew fun e w3=>(∃r n' f',e=.returned (J r)/\Tw s.nf s.F j k.str n' f' r/\∃b' bn,c≠b'/\(b'=fb\/w2.drew.heap.size<=b')/\w3.frozen? (G c 0)=false/\w3.cell? (G c 0)=some (S9 b' n' bn)/\Ev w3 B (S9 b' n' bn) n' f')/\VM c fb w2.drew w3):=O (by
    rw[(z HJ).1];exact Sn c fb s.nf fc j B k.str s.F w2.drew D.cells.1 (D.cells.2.2.2 0) (World.ownsRow.drew D.f) c6 dC (by have:=D.base;show B<=w2.heap.size;omega) HR.1 HR.2.1 HR.2.2.1 HJ.2.1)
   have dU:=O (And.intro x2 k3);clear x2 k3 c1 g1 fg cN;go_upto_region 10 with fail
   refine Hl (Ty (w.heap.size+1+1) w.heap.size (s.T t).shape k.str) ?_;refine tz 0 (h:=tz 1 (h:=tz 2 (h:=tz 3 (h:=tz 4 (h:=tz 5 (h:=tz 6 (h:=?_)))))));refine ry 7 (fun K hK=>?_);go_simp;refine b1.mono ?_;rintro e w3 ⟨⟨r,n',f',rfl,ae,b',bn,_,a4,_,a6,a7⟩,R⟩;have DI:∀b,w.heap.size<=b->b<X.heap.size->w3.heap[b]?=w2.heap[b]?:=fun b h1 h2=>R.block b (by show b<w2.heap.size;omega) oa oa;have ct:Ty (w.heap.size+1+1) w.heap.size (s.T t).shape k.str w3:=⟨(As (DI (w.heap.size+1+1) oa b7)).trans dU.1,(As (DI w.heap.size (Be _) lk)).trans dU.2⟩;refine hK.out _ _ ct (fun bw=>?_);clear hK K ah;refine tz 8 (h:=?_);refine Fj ?_;have ai:=(D.keep (w':=w2.drew) (fun _ _=>rfl)).fI R a4 a6 a7;have b9:=(bm.below (Cs _ _).drew).trans ai.2;have cu:=ay.keep R.size (DI (w.heap.size+1) oa lv);obtain⟨e1,e2,e3⟩:=JY HR.2.2.2.2 ae;have gp:w2.heap.size<=w3.heap.size:=R.size;by_cases hr:0<=r
   ·have fj:decide (0<=r)=true:=by simp[hr]
    have ea:Hid (Cv s t k v=0/\CC s t k v={BW s t (Ej (s.T t) r v)with nf:=n',F:=f'}):=O (by
     have hw:BN s (s.T t) k v=.grow:=by rw[z bu,DD (by rw[<-e3];exact hr)]
     unfold Cv CC;rw[hw];refine⟨rfl,?_⟩;show({BW s t (Ej (s.T t) (ER s.nf s.F (s.T t).shape.toNat k.str) v)with nf:=E7 s.nf s.F (s.T t).shape.toNat k.str,F:=Fz s.nf s.F (s.T t).shape.toNat k.str}:AK)=_;rw[(z HJ).1,NO,e1,e2,e3])
    obtain⟨i0,fk,fl,ck,c7⟩:=P9 IK;have cv:=O ai.1;have ca:=O b9;have c1:=ai.1.cells.2.1;obtain⟨g',c8,eg,gq,_,ag,c9⟩:=ai.1.CP M;cases eg;have g0:=ag 0 _ rfl;simp only[W4]at g0;have gu:c<w3.heap.size:=oa;obtain⟨w4,az⟩:∃w4,w4=w3.setCell (G g (t*8)) (J r):=⟨_,rfl⟩;have E:=ai.1.Zt M rfl r;rw[<-az]at E;have S:TD w4 (w.heap.size+1) v:=cu.keep (by rw[az];simp) (by rw[az];exact A0 _ _ _ _ (by show w.heap.size+1≠g;omega));have cw:w4.heap.size=w3.heap.size:=by rw[az];simp
    have eb:=O (And.intro E (And.intro S cw));clear ai b9 ae R a4 a6 a7 E S cw e1 e2 e3 hr ag cu ct bw DI;go_upto_region 13 with fail
    rw[<-az];clear az g0 c1 c9;obtain⟨E,S,cw⟩:=z eb;have c1:=E.1.cells.2.1;obtain⟨g',c8,eg,gv,_,ag,bx⟩:=E.1.CP M;cases eg;have g1:=ag 1 _ rfl;rw[z Q]at g1;have eT:(BW {s with nf:=n',F:=f'} t {s.T t with shape:=r}).T t={s.T t with shape:=r}:=Ak _ _ _;have au:=E.1.v t M;rw[eT,z Q]at au;have ah:Fv c (w.heap.size+1) (S9 g s.nt L) v w4.drew:=⟨c1,S.c0,S.c1,S.c2,S.c3,S.c4⟩;obtain⟨Z,hY⟩:∃Z,Z=(w4.alloc (.cells (ow v) 43)).drew:=⟨_,rfl⟩;have U:Below w4.heap.size w4 Z:=by rw[hY];exact(n9).drew
    have gw:Z.heap.size=w4.heap.size+1:=by rw[hY];simp
    have av:Fv c (w.heap.size+1) (S9 g s.nt L) v Z:=Fv.keep (W:=w4) ah (U.block c oa) (U.block (w.heap.size+1) oa);have gx:=ol U (by show g<w4.heap.size;omega) g1;have ec:Z.ownsRow B 43 5 (.slice va (s.T t).nv vc) (s.T t).nv (Oa (s.T t).V (s.T t).nv):=Uq au U;have ak:∀j u,(Kx v)[j]?=some u->Z.cell? (((G w4.heap.size 0):Addr).add j)=some u:=by rw[hY];exact H8 (w:=(w4.alloc _).drew) (BE w4 _)
    have da:c≠g:=fh;have HF:Hid (∀g5 ad w5,w5.ownsRow B 43 5 (S9 g5 ((s.T t).nv+1) ad) ((s.T t).nv+1) (Oa (s.T t).V (s.T t).nv++Kx v)->Z.grownBy w5 (Value.slice va (s.T t).nv vc).ownBlock->((Value.slice va (s.T t).nv vc).ownBlock=some g5\/g5=Z.heap.size)->
      Fv c (w.heap.size+1) (S9 g s.nt L) v w5/\Fv c (w.heap.size+1) (S9 g s.nt L) v (w5.setCell (G g (t*8+1)) (S9 g5 ((s.T t).nv+1) ad))/\w5.cell? (G g (t*8+1))=some (.slice va (s.T t).nv vc)/\w5.frozen? (G g (t*8+1))=false/\c<w5.heap.size/\g<w5.heap.size/\
      Hid (∃P H',SM (w5.setCell (G g (t*8+1)) (S9 g5 ((s.T t).nv+1) ad)) c B P (S9 g s.nt L) vS H' (CC s t k v)/\Br (A5 c (S9 fb s.nf fc) (S9 g s.nt L) vS H s.nt) w (A5 c P (S9 g s.nt L) vS H' s.nt) (w5.setCell (G g (t*8+1)) (S9 g5 ((s.T t).nv+1) ad)))):=O (by
     intro g5 ad w5 ef bp fm;have cx:∀q,(Value.slice va (s.T t).nv vc).ownBlock=some q->q<w.heap.size/\q≠c/\q≠g:=fun q e=>by
      have e':(H t).v.ownBlock=some q:=by rw[z Q];exact e
      have h1:=HM.apart M (q:=q) (.inl e');exact⟨(HM.row M (q:=q) (.inl e')).2.1,h1.1,fun e2=>h1.2.2.1 (by rw[e2];rfl)⟩
     have cb:∀q,q<w4.heap.size->(Value.slice va (s.T t).nv vc).ownBlock≠some q->w5.heap[q]?=w4.heap[q]?:=fun q h1 h2=>(bp.block q oa (fun e=>h2 e.symm)).trans (U.block q h1);have kc:=cb c oa (fun e=>(cx c e).2.1 rfl);have kg:=cb g oa (fun e=>(cx g e).2.2 rfl);have kv:=cb (w.heap.size+1) oa (fun e=>oj (cx _ e).1);have gy:=bp.size;have aj:Fv c (w.heap.size+1) (S9 g s.nt L) v w5:=Fv.keep (W:=w4) ah kc kv;have st:∀q,q≠g->(w5.setCell (G g (t*8+1)) (S9 g5 ((s.T t).nv+1) ad)).heap[q]?=w5.heap[q]?:=fun q hq=>A0 _ _ _ _ (by exact hq);refine⟨aj,aj.keep (st c da) (st (w.heap.size+1) oa),(As kg).trans g1,(GW kg).trans (bx _),oa,oa,O ?_⟩;rw[Tk]at ef;have hA:=E.1.eY M rfl eT (W:=w5) (u:=S9 g5 ((s.T t).nv+1) ad) (v:=v) (fun q h1 h2=>cb q h1 (by rw[<-z Q];exact h2)) ⟨bp.os.trans U.os,bp.tape.trans U.tape,bp.output.trans U.output,oa⟩ ef (fun q e=>by
      have e':g5=q:=by simpa[Value.ownBlock]using e
      rcases fm with h|h
      ·exact .inl (by rw[z Q,<-e'];exact h)
      ·exact .inr oa)
     refine⟨_,_,?_,(bg.trans (ca.trans E.2)).trans hA.2⟩;rw[(z ea).2];have h1:=hA.1;rw[SX]at h1;exact h1)
    have HY:=O hY;have fo:B<=Z.heap.size:=oj HM.base;have fq:=O ec;have fr:=O ak;clear E S au ag eT U ec ak cv ca eb bx hY;refine Hl (Fv c (w.heap.size+1) (S9 g s.nt L) v) ?_;refine tz 0 (h:=tz 1 (h:=tz 2 (h:=tz 3 (h:=tz 4 (h:=tz 5 (h:=tz 6 (h:=tz 7 (h:=tz 8 (h:=tz 9 (h:=tz 10 (h:=tz 11 (h:=?_))))))))))));refine tz 13 (h:=?_);refine AaE (rs:=[12,14]) og od ?_;refine SO rfl (fun K hK=>?armA) (SO rfl (fun K hK=>?armB) AaH)
    case' armA=>
     go_simp;refine hK.out _ _ ah (fun _=>?_);clear hK K;refine ry 14 (fun K hK=>?_);go_simp;rw[<-z HY];refine hK.out _ _ av (fun ft=>?_);clear hK K
    case' armB=>
     go_simp;rw[<-z HY];refine hK.out _ _ av (fun ft=>?_);clear hK K;refine ry 12 (fun K hK=>?_);go_simp;refine hK.out _ _ av (fun _=>?_);clear hK K
    all_goals
     refine ry 15 (fun K hK=>?_);refine Aaa _ rfl (.tmp 98) (.tmp 100) 89 rfl B 43 i0 (V 0 0 0 ⟨#[]⟩ 0) 5 48 underlying89 fk fl ck c7 rfl oc (.slice va (s.T t).nv vc) (s.T t).nv (Oa (s.T t).V (s.T t).nv) (by simp[Act.eval]<;>omega) fq (G w4.heap.size 0) 1 1 (Kx v) (by simp[Act.eval]<;>omega) rfl fr (by simp[Kx,Value.oneCell']) oc (by unfold maxLen;omega) oa fo _ rfl ?_;intro g5 ad w5 ao bz aq fW;obtain⟨aj,eh,x5,f5,gE,gN,dc⟩:=z HF g5 ad w5 ao bz aq;clear ao bz aq;refine hK.out _ _ aj (fun dd=>?_);clear hK K;refine tz 16 (h:=tz 17 (h:=?_));refine ry 18 (fun K hK=>?_);go_simp;refine hK.out _ _ eh (fun _=>?_);clear hK K;refine Fj ?_;clear aj eh dd x5 f5;go_wp2;go_ret;exact⟨by rw[(z ea).1];rfl,dc⟩
   ·have fj:decide (0<=r)=false:=oe;have HL:Hid (BN s (s.T t) k v=.loose):=O (by rw[z bu,C3 (by rw[<-e3];exact hr)]);have cv:Hid (SM w3 c B (S9 b' n' bn) (S9 g s.nt L) vS H s):=O (by
     have h1:=ai.1;rcases ae with⟨q,_,h2,_⟩|⟨_,_,_,h3,h4⟩|⟨_,_,_,h2,_⟩
     ·omega
     ·rw[h3,h4]at h1;rw[h3];exact h1
     ·omega)
    have ca:=O b9;clear ai b9 ae R a4 a6 a7 e1 e2 e3 hr cu ct bw DI;go_wp2_with fail
    go_meet
    case rel=>exact⟨_,cv,ca,fun _=>HL⟩
  ·
   have OE:i<(s.T t).nv:=by rw[(z HJ).2.2];exact hi
   have ej:Hid (Cv s t k v=0/\CC s t k v=BW s t (Eh (s.T t) i v)):=O (by
    unfold Cv CC;rw[z dx i hp];refine⟨rfl,?_⟩;show BW s t (Eh (s.T t) (BO s.F (s.T t).shape.toNat k.str).toNat v)=_;rw[(z HJ).1,NO,hp,NO])
   rw[hp];clear hp hi;obtain⟨vv,rfl,gS⟩:∃vv,va=some (G vv 0)/\vv<w2.heap.size:=by
    obtain⟨hl,⟨hv,a⟩|⟨g,L,cur,hv,_,df,_⟩⟩:=id cr
    ·omega
    ·cases hv;exact⟨_,rfl,Ah df⟩
   obtain⟨e0,e1,e2,e3,e4⟩:=Cp.at cr OE;have fv:=fun q=>World.ownsRow.frozenAt cr q;have cy:=D.apart M (q:=vv) (.inl (by rw[z Q];rfl));have gT:vv<w.heap.size:=(HM.row M (q:=vv) (.inl (by rw[z Q];rfl))).2.1;have fu:g≠vv:=fun e=>cy.2.2.1 (by rw[e];rfl);have ah:KG c g s.nt L t (w.heap.size+1) (S9 vv (s.T t).nv vc) v w2.drew:=⟨c1,g1,ay.c0,ay.c1,ay.c2,ay.c3,ay.c4⟩;have b0:=O (D.Zw M Q OE v);have fw:c≠vv:=fun e=>cy.1 e.symm;clear cy c1 g1 x2;go_upto_region 8 with fail
   refine Hl (KG c g s.nt L t (w.heap.size+1) (S9 vv (s.T t).nv vc) v) ?_;refine tz 0 (h:=tz 1 (h:=tz 2 (h:=tz 3 (h:=tz 4 (h:=tz 5 (h:=tz 6 (h:=tz 7 (h:=tz 8 (h:=tz 9 (h:=tz 10 (h:=?_)))))))))));refine ry 11 (fun K hK=>?_);go_simp;refine hK.out _ (World.drew (FL w2 vv (i*5) v)) (KG.keep (W:=w2) ah (DR w2 vv (i*5) v fw) (DR w2 vv (i*5) v fu) (DR w2 vv (i*5) v oa)) (fun _=>?_);clear hK K ah;refine Fj ?_;go_wp2;go_ret;exact⟨by rw[(z ej).1];rfl,_,H,by rw[(z ej).2];exact b0.1.keep (fun _ _=>rfl),((bg.trans bm).trans b0.2).below (Cs _ _).drew⟩
 obtain⟨ek,eo,cc,ep⟩:=hcut;have x1:wc.cell? (G (w.heap.size+1+1) 0)=some (J (s.T t).shape):=(As (dr cc (w.heap.size+1+1) oa b7)).trans x0;have eu:w.heap.size+1+1<wc.heap.size:=At b7 cc.size;have cz:=O eo;have cD:=O cc;have ew:=O ep;clear eo cc ep
 go_upto_if 106 with fail
 go_cut [11] (fun _ wx=>∃P H' x',SM wx c B P (S9 g s.nt L) vS H' (BW s t x')/\Br (A5 c (S9 fb s.nf fc) (S9 g s.nt L) vS H s.nt) X (A5 c P (S9 g s.nt L) vS H' s.nt) wx/\XW s t k v x')
 case first=>
  by_cases a:0<=(s.T t).shape
  ·have fx:¬(s.T t).shape<0:=oa;obtain⟨j,he,hj,ar,_,bk⟩:∃j:Nat,(s.T t).shape=j/\j<s.nf/\(s.T t).nv=nf s.F j/\bare (s.T t).d/\∀i,i<(s.T t).nv->OV ((s.T t).V i)=true/\Wf ((s.T t).V i):=by
    rcases(HG.t t M).way with⟨e,_⟩|h
    ·omega
    ·exact h
   have aM:=O (UJ HG he hj ar (fun i hi=>(bk i hi).1) (ew a));have ey:=O (QL c B ek (S9 g s.nt L) vS H s t j wc cz HG M he hj ar (fun i hi=>(bk i hi).1));clear a he hj ar bk;go_wp2_with fail;refine ey.mono ?_;rintro e w4 ⟨⟨u,rfl⟩,h',E,ez⟩;have fy:=O E;have fz:=O (cD.trans ez);clear E ez ey x1 eu;go_wp2_with fail
   go_meet
   case rel=>exact⟨_,_,_,fy,fz,aM⟩
  ·have fx:(s.T t).shape<0:=oa;have aM:=O (Xr (v:=v) HG M HK b8 oa);clear a;go_wp2_with fail
   go_meet
   case rel=>exact⟨ek,H,s.T t,by rw[VE];exact cz,cD,aM⟩
 clear x1 eu cz cD ew;obtain⟨eA,H2,x2,a8,bc,bd⟩:=hcut;have cd:∀b,w.heap.size<=b->b<X.heap.size->wc.heap[b]?=X.heap[b]?:=fun b h1 h2=>dr bc b h1 h2;have o2:wc.cell? (G ob 0)=some (J o.kind):=(As (cd ob oa cl)).trans o0;have ha:ob<wc.heap.size:=At cl bc.size;obtain⟨hb,k0,k1,k2,k3,k4⟩:=bh.keep bc.size (cd w.heap.size (Be _) lk);obtain⟨hh,v0,v1,v2,v3,v4⟩:=dt.keep bc.size (cd (w.heap.size+1) oa lv);have c1:=a8.cells.2.1;have dC:=a8.lt;have hn:g<wc.heap.size:=by
  have:=(a8.t.lt g rfl).2;exact this
 have eT:(BW s t x2).T t=x2:=Ak _ _ _;have bq:=a8.jH (t:=t) M rfl;rw[eT]at bq;have d4:=bq.c4;have d5:=bq.c5;have aw:=O (WH hN Ky Ca g (t*8+2) B _ _ _ x2.d k v wc bq (bd.inv.small (oj bd.m)) bd.inv Vg HK HK.1 hv bd.m);have aM:=O bd;have D:=O a8;have bm:=O bc;have fE:=O eT;clear cd bq bd a8 bc eT x0 o0;go_upto_region 18 with fail
 go_cut [133] (fun q wx=>∃bb:Bool,q=.bool bb/\(bb=true↔o.kind=0/\(x2.d.live=500\/x2.d.turns=1000000000000))/\wx=wc)
 case first=>
  by_cases a:o.kind=0
  ·have e0:(o.kind==0)=true:=by simp[a]
   by_cases h1:x2.d.live=500
   ·have e1:(x2.d.live==500)=true:=by simp[h1]
    have I:=O (And.intro a h1);clear a h1;go_wp2_with fail
    go_meet
    case rel=>exact⟨true,rfl,⟨fun _=>⟨I.1,.inl I.2⟩,fun _=>rfl⟩,rfl⟩
   ·have e1:(x2.d.live==500)=false:=by simp[h1]
    by_cases h2:x2.d.turns=1000000000000
    ·have e2:(x2.d.turns==1000000000000)=true:=by simp[h2]
     have I:=O (And.intro a h2);clear a h1 h2;go_wp2_with fail
     go_meet
     case rel=>exact⟨true,rfl,⟨fun _=>⟨I.1,.inr I.2⟩,fun _=>rfl⟩,rfl⟩
    ·have e2:(x2.d.turns==1000000000000)=false:=by simp[h2]
     have I:=O (And.intro h1 h2);clear a h1 h2;go_wp2_with fail
     go_meet
     case rel=>exact⟨false,rfl,⟨fun e=>(by cases e),fun e=>e.2.elim (fun e=>absurd e I.1) (fun e=>absurd e I.2)⟩,rfl⟩
  ·have e0:(o.kind==0)=false:=by simp[a]
   have I:=O a;clear a;go_wp2_with fail
   go_meet
   case rel=>exact⟨false,rfl,⟨fun e=>(by cases e),fun e=>absurd e.1 I⟩,rfl⟩
 obtain⟨bb,rfl,C,bj⟩:=hcut;cases bj;cases bb
 case true=>
  have HY:=O (aM.yes (by rw[<-z HO];exact(C.1 rfl).1) (C.1 rfl).2);clear C aw;go_wp2_with fail;go_ret;exact⟨by rw[(z HY).1];rfl,eA,H2,by rw[(z HY).2];exact D,bg.trans bm⟩
 have HY:=O (aM.no (fun h=>by have:=C.2 ⟨by rw[z HO];exact h.1,h.2⟩;cases this));clear C;go_wp2_with fail;refine aw.mono ?_;rintro e w5 ⟨⟨u,rfl⟩,u0,u1,u2,eF,aj⟩;have hN:=D.mF (t:=t) M rfl eF aj;rw[SX,z fE]at hN;have HN:=O hN;clear hN eF aj aw;go_wp2_with fail;go_ret;exact⟨by rw[(z HY).1];rfl,eA,_,by rw[(z HY).2];exact HN.1,(bg.trans bm).trans HN.2⟩
theorem EU(op:Int)(w:Y):
  C9 100 #[J op] w fun e w'=>e=.returned (.tuple #[.bool (Eu op),.bool (EG op)])/\w'=w:=by
 go_enter func100,ntmps100
 go_wp2;all_goals exact E1 (v:=.tuple #[.bool (Eu op),.bool (EG op)]) (by simp_all [results,results100,go_sem,Eu,EG]) rfl ⟨rfl,rfl⟩
theorem Np(s:ByteArray)(w:Y):
  C9 130 #[.string s] w (R9 (V (BA s).kind (BA s).num (BA s).Ag (BA s).str (BA s).ref) w):=by
 go_enter func130,ntmps130
 go_wp2;exact E1 (v:=V 4 0 0 s 0) (by simp[results,results130,go_sem]) rfl ⟨rfl,n9⟩
structure Bn (w w':Y) (b:Nat) (cs:Array Value) (ty:TypeId):Prop where
 BB:w'.heap[b]?=some (.cells cs ty (0,0))
 other:∀k,k≠b->w'.heap[k]?=w.heap[k]?
 os:w'.os=w.os
 tape:w'.tape=w.tape
 output:w'.output=w.output
 size:w'.heap.size=w.heap.size
theorem Bn.below{w0:Y}(h:Bn w w' b cs ty){B:Nat}(hb:Below B w0 w)(a:B<=b):Below B w0 w':=
 ⟨h.os.trans hb.os,h.tape.trans hb.tape,h.output.trans hb.output,by rw[h.size];exact hb.size,fun k hk=>(h.other k oa).trans (hb.block k hk)⟩
theorem ZN(w:Y)(b:Nat)(cs:List Value)(t:TypeId)(i:Nat)(v u:V9)(hb:w.heap[b]?=some (.cells cs.toArray t (0,0)))(a:v.oneCell'=true)(hi:cs[i]?=some u):(store (G b i) v).run P w=.ok () (w.setCell (G b i) v)/\(w.setCell (G b i) v).heap[b]?=some (.cells (cs.set i v).toArray t (0,0)):=by
 have h:=run_store P w (G b i) v .plain a;have h1:w.cell? (G b i)=some u:=by simp[World.cell?,hb,hi]
 have h2:w.frozen? (G b i)=false:=by simp[World.frozen?,hb]
 refine⟨?_,(JT hb v).trans od⟩;rw[h,h1,h2];rfl
theorem Jj{P:Program}(b:Nat)(t:TypeId):∀(vs pre old:List Value) (w:Y),w.heap[b]?=some (.cells (pre++old).toArray t (0,0))->vs.length=old.length->(∀v∈vs,v.oneCell'=true)->
  ∃w',(storeCells (G b 0) vs pre.length).run P w=.ok () w'/\Bn w w' b (pre++vs).toArray t
 |[],pre,[],w,hb,_,_=>⟨w,by simp[storeCells],hb,fun _ _=>rfl,rfl,rfl,rfl,rfl⟩
 |v::vs,pre,o::old,w,hb,hl,c=>by
  obtain⟨h,a⟩:=ZN (P:=P) w b (pre++o::old) t pre.length v o hb (c v od) od;have e1:(pre++o::old).set pre.length v=(pre++[v])++old:=od;rw[e1]at a;obtain⟨w',h2,h3⟩:=Jj b t vs (pre++[v]) old (w.setCell (G b pre.length) v) a (by simpa using hl) (fun x hx=>c x (by simp[hx])) (P:=P);have e2:((G b 0):Addr).add pre.length=(G b pre.length):=by
   cases pre<;>simp[Addr.add]
  have so:=Le w (G b pre.length) v;refine⟨w',?_,⟨by simpa using h3.BB,fun k hk=>(h3.other k hk).trans (A0 _ _ _ _ (by exact hk)),h3.os.trans so.1,h3.tape.trans so.2.1,h3.output.trans so.2.2.1,h3.size.trans so.2.2.2⟩⟩;unfold storeCells;rw[e2];simp only[ON,Aae,XN,Wx]at h2 ⊢;simp[go_sem,h,h2]
theorem BM{t:TypeId}(hs:∀w,(sizeOf t).run prog w=.ok n w){w:Y}{b:Nat}{old vs:List Value}{ty:TypeId}(hb:w.heap[b]?=some (.cells old.toArray ty (0,0)))(hl:vs.length=old.length)(hn:vs.length=n)(h1:∀v∈vs,v.oneCell'=true){v:V9}(c:v.cells=vs.toArray):
  ∃w',(Instr.storeAt t (Q9 b) v).run prog w=.ok () w'/\Bn w w' b vs.toArray ty:=by
 obtain⟨w',h,h3⟩:=Jj (P:=prog) b ty vs [] old w hb hl h1;refine⟨w',?_,by simpa using h3⟩;unfold Instr.storeAt storeVar;simp only[XN]at h;have a:∀w',(Instr.sureAddr (Q9 b)).run prog w'=.ok (G b 0) w':=fun w'=>by simp[go_sem]
 simp only[AaR];simp[a,hs,c,hn];exact h
theorem Ee(w:Y):(sizeOf 236).run prog w=.ok 8 w:=og
theorem ZQ(w:Y):(sizeOf 43).run prog w=.ok 5 w:=og
theorem Bs(h:Ge w b)(x:An):∃w',(Instr.storeAt 45 (Q9 b) (Dw x)).run prog w=.ok () w'/\Bn w w' b (Ey x).toArray 45:=
 BM (old:=Om.toList) (vs:=Ey x) iH h rfl rfl (Qi x) rfl
theorem Ab{vs:List Value}(h:Bn w w' b vs.toArray ty):∀j u,vs[j]?=some u->w'.cell? (G b j)=some u:=fun j u hu=>by
 rw[MM w' b j _ _ _ h.BB];simpa using hu
section
variable {Z:Nat->Prop} {w:Y} {c B0:Nat} {vN vT vS:V9}
theorem AZ.Jt{b:Y}{d g i:V9}{Bk':Nat->Nat}{A':Nat->Ad}{x:An}(h:AZ (ZB Z w.heap.size n) w1 c B0 d f g i Bk' A' s')(o:Br (Au B0 c vN vT vS w) w (Au B0 c d f g w1) w1)(m:B0<=w.heap.size)(j:w.heap.size<=l)(hz:l<n)(p:Ge w1 l)(a:Bn w1 b l (Ey x).toArray 45):
  AZ Z b c B0 d f g i Bk' A' s'/\Br (Au B0 c vN vT vS w) w (Au B0 c d f g b) b:=
 h.fin o m (.inr ⟨j,hz⟩) j (h.Em p oc oc oc oc oc) (fun k e=>.inl e) ⟨a.os,a.tape,a.output,a.size⟩ a.other a.BB oc
end
theorem An.read{x:An}(h:w.heap[b]?=some (.cells (Ey x).toArray 45 (0,0))):w.cell? (G b 0)=some (J x.code)/\w.cell? (G b 1)=some (J x.num)/\w.cell? (G b 2)=some (J x.key.kind)/\w.cell? (G b 3)=some (J x.key.num)/\w.cell? (G b 4)=some (F9 x.key.Ag)/\w.cell? (G b 5)=some (.string x.key.str)/\w.cell? (G b 6)=some (J x.key.ref)/\w.cell? (G b 7)=some (J x.val.kind)/\w.cell? (G b 8)=some (J x.val.num)/\w.cell? (G b 9)=some (F9 x.val.Ag)/\w.cell? (G b 10)=some (.string x.val.str)/\w.cell? (G b 11)=some (J x.val.ref):=by
 refine⟨?_,?_,?_,?_,?_,?_,?_,?_,?_,?_,?_,?_⟩<;>(rw[MM w b _ _ _ _ h];rfl)
theorem BJ{ops:Array Oper}{o:Oper}{a:Act}{K:Act->World->Prop}{Q:Exit->Act->World->Prop}{E:Prop}{t:TypeId}{x Z:Operand}(b:o.guard=none)(c:o.op=.store t x Z)(w':Y)(d:(Instr.storeAt t (a.eval x) (a.eval Z)).run P w=.ok () w')(h:K (a.put o.dst undef) w'):
  if Region.wanted o (yielded ops a.tmps)=true then Oper.wp P o a w K Q else E:=by
 have f:Region.wanted o (yielded ops a.tmps)=true:=by simp[Region.wanted,b]
 rw[DD f];have e:(execOp a.eval o).run P w=.ok .skip w':=by
  unfold execOp;rw[c];simp only[AaR];rw[d];rfl
 unfold Oper.wp;rw[e];exact h
section
variable {M:Nat} {s:AK}
theorem SF{n:Int}(a:0<=n)(h1:n<=1000000000000):0<=DQ n/\DQ n<=1000000000000:=by
 unfold DQ
 split<;>omega
theorem IC(d:KI M s){i t:Nat}(hi:i<s.ns)(k:t<s.nt)(h:0<=Bj s i t):∃j q:Nat,(s.T t).shape=j/\j<s.nf/\Bj s i t=q/\q<(s.T t).nv/\BO s.F j (s.S i).key=q:=by
 obtain⟨_,_,_,_,_,hs⟩:=d.si i hi;unfold Bj at h ⊢;rcases(d.t t k).way with⟨e,_⟩|⟨j,e,hj,b,_⟩
 ·exfalso;rw[C3 (by unfold J0;simp[e]),C3 oa]at h;omega
 ·by_cases c:J0 s i t=true
  ·rw[DD c]at h ⊢;have h2:(s.T t).shape=(s.S i).shape:=by unfold J0 at c;simp at c;exact c.2
   rcases hs with⟨h3,_⟩|⟨h3,h4,h5,l⟩
   ·omega
   ·rw[<-h2,e,show((j:Int)).toNat=j by omega]at l;rcases GU d.f hj (s.S i).key with a|⟨q,a,g⟩
    ·omega
    ·exact⟨j,q,e,hj,oa,by rw[b];exact g,a⟩
  ·rw[C3 c,DD oa,e,show((j:Int)).toNat=j by omega]at h ⊢;rcases GU d.f hj (s.S i).key with a|⟨q,a,g⟩
   ·omega
   ·exact⟨j,q,rfl,hj,a,by rw[b];exact g,a⟩
theorem VO.jV{t:Tb}{S':Nat->Si}(h:VO M s t):VO M {s with ns:=a,S:=S'} t:=⟨h.way,h.wf,h.m⟩
theorem IE(a:KI M s){i t:Nat}(hi:i<s.ns)(d:t<s.nt):KI M (AV s i t):=by
 refine⟨a.f,a.nt,a.ns,fun q hq=>(a.t q hq).jV,fun q hq=>?_⟩;show gP _ (AY s.S i (DE s i t) q);by_cases e:q=i
 ·subst e;rw[Ak];obtain⟨h1,h2,h3,h4,h5,b⟩:=a.si q hi;have o1:=SF h2 h4;have o2:=SF h3 h5;unfold DE
  split
  ·exact⟨h1,o1.1,h3,o1.2,h5,b⟩
  ·split
   ·rename_i g c
    refine⟨h1,h2,o2.1,h4,o2.2,.inr ⟨c.1,?_,c.2,rfl⟩⟩;rcases(a.t t d).way with⟨e,_⟩|⟨j,e,hj,_⟩
    ·omega
    ·show(s.T t).shape<(s.nf:Int);omega
   ·exact⟨h1,h2,o2.1,h4,o2.2,b⟩
 ·rw[Al _ _ e];exact a.si q hq
theorem IY(a:KI M s){t:Nat}{x:Tb}(hx:VO M s x):KI M (BW s t x):=by
 refine⟨a.f,a.nt,a.ns,fun q hq=>?_,a.si⟩;show VO M _ (AY s.T t x q);by_cases e:q=t
 ·subst e;rw[Ak];exact⟨hx.way,hx.wf,hx.m⟩
 ·rw[Al _ _ e];have h:=a.t q hq;exact⟨h.way,h.wf,h.m⟩
theorem Wp(b:KI M s){j:Nat}(hj:j<s.nf){key:ByteArray}(hk:key.size<=4000)(c:BO s.F j key<0){r:Nat}(e:ER s.nf s.F j key=r):Ax (E7 s.nf s.F j key) (Fz s.nf s.F j key)=0/\s.nf<=E7 s.nf s.F j key/\(∀i,i<s.nf->Fz s.nf s.F j key i=s.F i)/\r<E7 s.nf s.F j key/\Oh (E7 s.nf s.F j key) (Fz s.nf s.F j key) j key r:=by
 rcases RV s.nf s.F j key with⟨q,h1,h2,h3,h4⟩|⟨h1,h2,h3,h4,h5⟩|⟨h1,h2,h3,h4,h5,d⟩
 ·rw[h3,h4];have:q=r:=oa;subst this;exact⟨b.f,Be _,fun _ _=>rfl,h1.2.1,h1⟩
 ·omega
 ·rw[h5,d];have:r=s.nf:=oa;subst this;have a:0<s.nf:=oa;refine⟨TY b.f hj hk c h1 h2 h3,oa,fun i hi=>Dd i hi,oa,⟨a,oa,?_,?_⟩⟩
  ·rw[Fk]
  ·rw[Fk]
theorem XF(s:AK)(x:Tb)(k v:Vl):
  (BN s x k v=.no)\/
  (BN s x k v=.Dr/\0<=x.shape/\k.kind=4/\v.kind≠0/\0<=BO s.F x.shape.toNat k.str)\/
  (BN s x k v=.grow/\0<=x.shape/\k.kind=4/\v.kind≠0/\BO s.F x.shape.toNat k.str<0/\0<=ER s.nf s.F x.shape.toNat k.str)\/
  (BN s x k v=.loose/\0<=x.shape)\/(BN s x k v=.MX/\x.shape<0/\EP x.d k v=false)\/(BN s x k v=.full/\x.shape<0/\EP x.d k v=true):=by
 unfold BN
 split
 ·exact .inl rfl
 ·split
  ·rename_i a
   split
   ·rename_i h1
    split
    ·rename_i h2
     exact .inr (.inl ⟨rfl,a,h1.1,h1.2,h2⟩)
    ·rename_i h2
     split
     ·rename_i h3
      exact .inr (.inr (.inl ⟨rfl,a,h1.1,h1.2,oa,h3⟩))
     ·exact .inr (.inr (.inr (.inl ⟨rfl,a⟩)))
   ·exact .inr (.inr (.inr (.inl ⟨rfl,a⟩)))
  ·rename_i a
   split
   ·rename_i h1
    exact .inr (.inr (.inr (.inr (.inr ⟨rfl,oa,h1⟩))))
   ·rename_i h1
    exact .inr (.inr (.inr (.inr (.inl ⟨rfl,oa,by simpa using h1⟩))))
theorem PM(c:KI M s){t:Nat}(H:t<s.nt){k v:Vl}(hk:Ky k)(o:v.ok=true)(p:Wf v):KI (M+4002) (CC s t k v):=by
 have b:=c.mono (Nat.le_add_right M 4002);have hx:=c.t t H;have w:k.kind=4->k.str.size<=4000:=fun h=>by
  have h1:=hk.1;unfold Df Vl.ok Bh at h1;simp[h]at h1;omega
 unfold CC;rcases XF s (s.T t) k v with h|⟨h,u,h1,h2,h3⟩|⟨h,u,h1,h2,h3,h4⟩|⟨h,u⟩|⟨h,u,h1⟩|⟨h,u,h1⟩
 ·rw[h];exact b
 ·rw[h];rcases hx.way with⟨e,_⟩|⟨j,e,hj,g,hb,a⟩
  ·omega
  ·refine IY b ⟨.inr ⟨j,e,hj,g,hb,fun i hi=>?_⟩,hx.wf,GO hx.m (Nat.le_add_right _ _)⟩;show OV (AY (s.T t).V _ v i)=true/\Wf (AY (s.T t).V _ v i);by_cases e2:i=(BO s.F (s.T t).shape.toNat k.str).toNat
   ·rw[e2,Ak];exact⟨by simp[OV,o,h2],p⟩
   ·rw[Al _ _ e2];exact a i hi
 ·rw[h];rcases hx.way with⟨e,_⟩|⟨j,e,hj,g,hb,a⟩
  ·omega
  ·have l:(s.T t).shape.toNat=j:=oa;rw[l]at h3 h4 ⊢;obtain⟨r,D⟩:∃r:Nat,ER s.nf s.F j k.str=r:=⟨(ER s.nf s.F j k.str).toNat,oa⟩;obtain⟨g1,g2,g3,g4,g5⟩:=Wp c hj (w h1) h3 D;rw[D];obtain⟨_,I,K,_,_⟩:=AB c.f;obtain⟨_,p2,L,_,_⟩:=AB g1;have n:∀q,q<s.nf->nf (Fz s.nf s.F j k.str) q=nf s.F q:=fun q hq=>Y1 g3 hq;refine⟨g1,c.nt,c.ns,fun q hq=>?_,fun q hq=>?_⟩
   ·show VO _ _ (AY s.T t (Ej (s.T t) (r:Int) v) q);by_cases e2:q=t
    ·subst e2;rw[Ak];refine⟨.inr ⟨r,rfl,g4,?_,hb,fun i hi=>?_⟩,hx.wf,GO hx.m (Nat.le_add_right _ _)⟩
     ·show(s.T q).nv+1=nf (Fz s.nf s.F j k.str) r;rw[gJ p2 L g5,n j hj,g]
     ·show OV (AY (s.T q).V (s.T q).nv v i)=true/\Wf (AY (s.T q).V (s.T q).nv v i);have hi:i<(s.T q).nv+1:=hi;by_cases e3:i=(s.T q).nv
      ·rw[e3,Ak];exact⟨by simp[OV,o,h2],p⟩
      ·rw[Al _ _ e3];exact a i oa
    ·rw[Al _ _ e2];have h5:=c.t q hq;refine⟨?_,h5.wf,GO h5.m (Nat.le_add_right _ _)⟩;rcases h5.way with P|⟨i,a1,a2,a3,a4,a5⟩
     ·exact .inl P
     ·exact .inr ⟨i,a1,At a2 g2,by rw[a3];exact(n i a2).symm,a4,a5⟩
   ·obtain⟨a1,a2,a3,a4,a5,x⟩:=c.si q hq;refine⟨a1,a2,a3,a4,a5,?_⟩;rcases x with x|⟨b1,b2,b3,b4⟩
    ·exact .inl x
    ·have A:(s.S q).shape.toNat<s.nf:=oa;refine .inr ⟨b1,by show(s.S q).shape<((E7 s.nf s.F j k.str:Nat):Int);omega,b3,?_⟩;show BO (Fz s.nf s.F j k.str) (s.S q).shape.toNat (s.S q).key=(s.S q).place;rw[JC I K g3 A];exact b4
 ·rw[h];rcases hx.way with⟨e,_⟩|⟨j,e,hj,g,hb,a⟩
  ·omega
  ·have l:(s.T t).shape.toNat=j:=oa;have B:=Fo c.f hj (W:=(s.T t).V) (fun q hq=>(a q oa).1) (s.T t).nv oa;have C:∀i,i<=(s.T t).nv->VQ (Av s.F j (s.T t).V i):=fun i=>by
    induction i with
    |zero=>exact fun _ q hq=>absurd hq (OR _)
    |succ i ih=>exact fun hi=>(ih oa).put (F8 (Gp c.f hj (show i<nf s.F j by omega))).2 (a i oa).2
   refine IY b ⟨.inl ⟨rfl,rfl,?_⟩,?_,?_⟩
   ·show Inv Ky hN (Cf hN (Av s.F (s.T t).shape.toNat (s.T t).V (s.T t).nv) k v);rw[l];exact Ij Ca B.ls.inv hk hk.1 o
   ·show VQ (Cf hN (Av s.F (s.T t).shape.toNat (s.T t).V (s.T t).nv) k v);rw[l];exact(C _ (Be _)).put hk.2 p
   ·show(Cf hN (Av s.F (s.T t).shape.toNat (s.T t).V (s.T t).nv) k v).m<=_;rw[l];have:=Uy (v:=v) Ca B.ls.inv hk;rw[B.m]at this;omega
 ·rw[h];rcases hx.way with⟨e,e2,E⟩|⟨j,e,_⟩
  ·refine IY b ⟨.inl ⟨rfl,rfl,Ij Ca E hk hk.1 o⟩,hx.wf.put hk.2 p,?_⟩;have:=Uy (v:=v) Ca E hk;have:=hx.m;show(Cf hN (s.T t).d k v).m<=_;omega
  ·omega
 ·rw[h];exact b
theorem ZS(a:KI M s):VO M s Kq:=by
 obtain⟨h1,h2,_⟩:=AB a.f;refine⟨.inr ⟨0,rfl,oj h1.1,?_,⟨rfl,rfl,rfl,rfl,rfl,rfl⟩,fun i hi=>absurd hi (OR _)⟩,fun q hq=>absurd hq (OR _),Re _⟩;show 0=(s.F 0).count.toNat;rw[h2.2.2];rfl
theorem QK(f:Wf v)(h:De v=0):Ky (DY v):=by
 obtain⟨c,a,h1,h2⟩:=gC v f;rw[DX]at h1;have e:De v=c/\(DY v).kind=a.kind/\(DY v).num=a.num/\(DY v).Ag=a.Ag/\(DY v).str=a.str/\(DY v).ref=a.ref:=by
  simp[KV]at h1;exact h1
 obtain⟨e0,e1,e2,e3,b,d⟩:=e;have g:DY v=a:=by
  generalize DY v=x at*;cases x;cases a;simp only at e1 e2 e3 b d;subst e1 e2 e3 b d;rfl
 rw[g];exact h2 oa
theorem PX(c:KI M s)(a:Ac)(n:Wf a.k)(g:Wf a.v):KI (M+4002) (BU s a):=by
 have b:=c.mono (Nat.le_add_right M 4002);unfold BU
 split
 ·rename_i hc
  obtain⟨c1,c2,c3,c4⟩:=X7 hc;obtain⟨r1,r2,D,o,E,_,_⟩:=Hp c1;unfold Dg
  split
  ·split
   ·exact b
   ·rename_i h1 h2
    refine⟨c.f,by show s.nt+1<=100;have:=c.nt;omega,c.ns,fun i hi=>?_,c.si⟩;show VO _ _ (AY s.T s.nt Kq i);have hi:i<s.nt+1:=hi;by_cases e:i=s.nt
    ·rw[e,Ak];have:=ZS b;exact⟨this.way,this.wf,this.m⟩
    ·rw[Al _ _ e];have:=b.t i oa;exact⟨this.way,this.wf,this.m⟩
  ·split
   ·split
    ·exact b
    ·rename_i h1 l h2
     have p:=Pe c1 l;refine⟨c.f,c.nt,by show s.ns+1<=50;have:=c.ns;omega,fun i hi=>(b.t i hi).jV,fun i hi=>?_⟩;show gP _ (AY s.S s.ns _ i);have hi:i<s.ns+1:=hi;by_cases e:i=s.ns
     ·rw[e,Ak];exact⟨iG D p,AaI _,AaI _,by show(0:Int)<=1000000000000;decide,by show(0:Int)<=1000000000000;decide,.inl ⟨rfl,rfl⟩⟩
     ·rw[Al _ _ e];exact c.si i oa
   ·split
    ·rename_i h1 l h2
     have x:=c2 (by simp[Eu,h2]);exact PM c oa (QK n (c4 (.inl h2))) o g
    ·split
     ·rename_i h1 l h2 r
      have x:=c2 (by simp[Eu,r]);have hs:=c3 (by simp[EG,r]);exact IE b oa oa
     ·split
      ·rename_i h1 l h2 r A
       have x:=c2 (by simp[Eu,A]);have hs:=c3 (by simp[EG,A]);have hi:a.site.toNat<s.ns:=oa;have d:a.t.toNat<s.nt:=oa;have B:=IE c hi d
       split
       ·rename_i h
        obtain⟨j,q,e1,e2,e3,F,H⟩:=IC c hi d h.1;refine IY (B.mono (Nat.le_add_right M 4002)) ?_;have hx:=b.t a.t.toNat d;rcases hx.way with⟨e,_⟩|⟨j',e,hj,u,hb,w⟩
        ·omega
        ·refine⟨.inr ⟨j',e,hj,u,hb,fun i hi=>?_⟩,hx.wf,hx.m⟩;show OV (AY (s.T a.t.toNat).V _ a.v i)=true/\Wf (AY (s.T a.t.toNat).V _ a.v i);by_cases C:i=(Bj s a.site.toNat a.t.toNat).toNat
         ·rw[C,Ak];exact⟨by simp[OV,o,h.2],g⟩
         ·rw[Al _ _ C];exact w i hi
       ·exact PM B d (F8 (c.si _ hi).1) o g
      ·exact b
 ·exact b
end
theorem SM.fin{n':Nat}{b d:V9}(hb:B9 w W)(l:∀k,A5 c vF vT vS H s.nt k->k<w.heap.size)(n:w.heap.size<=i)(m:i<W.heap.size)(h:SM w1 c B b d f H' s')(hn:s'.nt=n')(g:Br (A5 c vF vT vS H s.nt) W (A5 c b d f H' n') w1)(a:Bn w1 w2 i cs ty):
  SM w2 c B b d f H' s'/\Br (A5 c vF vT vS H s.nt) w (A5 c b d f H' n') w2:=by
 have j:∀k,A5 c b d f H' n' k->k≠i:=fun k hk e=>by
  rcases g.own k hk with h1|h1
  ·have:=l k h1;omega
  ·omega
 refine⟨h.keep fun k hk=>a.other k (j k (by rw[<-hn];exact hk)),⟨a.os.trans (g.os.trans hb.os),a.tape.trans (g.tape.trans hb.tape),a.output.trans (g.output.trans hb.output),by rw[a.size];exact GO hb.size g.size,fun k hk hn=>?_,fun k hk=>?_⟩⟩
 ·rw[a.other k oa,g.block k (At hk hb.size) hn,hb.block k hk]
 ·rcases g.own k hk with h1|h1
  ·exact .inl h1
  ·exact .inr (GO hb.size h1)
theorem VH{old:List Value}(h:w.heap[b]?=some (.cells old.toArray 43 (0,0)))(hl:old.length=5)(x:Vl):∃w',(Instr.storeAt 43 (Q9 b) (V x.kind x.num x.Ag x.str x.ref)).run prog w=.ok () w'/\Bn w w' b (Kx x).toArray 43:=
 BM (old:=old) (vs:=Kx x) ZQ h (by rw[hl];rfl) rfl (by simp[Kx,Value.oneCell']) rfl
theorem TD.stored(h:Bn w w' b (Kx x).toArray 43):TD w' b x:=by
 have hc:=Ab h;exact⟨Ah h.BB,hc 0 _ rfl,hc 1 _ rfl,hc 2 _ rfl,hc 3 _ rfl,hc 4 _ rfl⟩
theorem Mp(s:AK)(t:Nat)(k v:Vl):(CC s t k v).nt=s.nt:=by
 unfold CC
 split<;>rfl
def Mz(c ab gs i:Nat)(vS:V9)(key:ByteArray)(W:Y):Prop:=W.cell? (G c 2)=some vS/\W.cell? (G ab 2)=some (J (i:Int))/\W.cell? (G gs (i*5))=some (.string key)
theorem Mz.keep{gs:Nat}{key:ByteArray}(h:Mz c ab gs i vS key W)(h1:W'.heap[c]?=W.heap[c]?)(h2:W'.heap[ab]?=W.heap[ab]?)(h3:W'.heap[gs]?=W.heap[gs]?):Mz c ab gs i vS key W':=
 ⟨(As h1).trans h.1,(As h2).trans h.2.1,(As h3).trans h.2.2⟩
def MA(c ab g nt b t a nv vc q:Nat)(x:Vl)(W:Y):Prop:=W.cell? (G c 1)=some (S9 g nt b)/\W.cell? (G ab 1)=some (J (t:Int))/\W.cell? (G g (t*8+1))=some (S9 a nv vc)/\W.cell? (G a (q*5))=some (J x.kind)/\W.cell? (G a (q*5+1))=some (J x.num)/\W.cell? (G a (q*5+2))=some (F9 x.Ag)/\W.cell? (G a (q*5+3))=some (.string x.str)/\W.cell? (G a (q*5+4))=some (J x.ref)
theorem MA.keep(h:MA c ab g nt b t a nv vc q x W)(h1:W'.heap[c]?=W.heap[c]?)(h2:W'.heap[ab]?=W.heap[ab]?)(h3:W'.heap[g]?=W.heap[g]?)(h4:W'.heap[a]?=W.heap[a]?):MA c ab g nt b t a nv vc q x W':=
 ⟨(As h1).trans h.1,(As h2).trans h.2.1,(As h3).trans h.2.2.1,(As h4).trans h.2.2.2.1,(As h4).trans h.2.2.2.2.1,(As h4).trans h.2.2.2.2.2.1,(As h4).trans h.2.2.2.2.2.2.1,(As h4).trans h.2.2.2.2.2.2.2⟩
def KE(c ab g nt a t b nv vc:Nat)(x:Vl)(W:Y):Prop:=W.cell? (G c 1)=some (S9 g nt a)/\W.cell? (G ab 1)=some (J (t:Int))/\W.cell? (G g (t*8+1))=some (S9 b nv vc)/\W.cell? (G ab 9)=some (J x.kind)/\W.cell? (G ab 10)=some (J x.num)/\W.cell? (G ab 11)=some (F9 x.Ag)/\W.cell? (G ab 12)=some (.string x.str)/\W.cell? (G ab 13)=some (J x.ref)
theorem KE.keep(h:KE c ab g nt a t b nv vc x W)(h1:W'.heap[c]?=W.heap[c]?)(h2:W'.heap[ab]?=W.heap[ab]?)(h3:W'.heap[g]?=W.heap[g]?):KE c ab g nt a t b nv vc x W':=
 ⟨(As h1).trans h.1,(As h2).trans h.2.1,(As h3).trans h.2.2.1,(As h2).trans h.2.2.2.1,(As h2).trans h.2.2.2.2.1,(As h2).trans h.2.2.2.2.2.1,(As h2).trans h.2.2.2.2.2.2.1,(As h2).trans h.2.2.2.2.2.2.2⟩
theorem Sq(c B:Nat)(vF vT vS:V9)(H:Nat->Hs)(s:AK)(a:Ac)(t i:Nat)(w:Y)(hM:SM w c B vF vT vS H s)(hG:KH s)(et:a.t=t)(P:t<s.nt)(ei:a.site=i)(hi:i<s.ns)(hop:a.op=8\/a.op=9)(hv:a.v.ok=true):
  C9 104 #[Q9 c,Lm a] w fun e w'=>e=.returned (Dw (F5 s a))/\∃L H',SM w' c B L vT vS H' (Dg s a)/\Br (A5 c vF vT vS H s.nt) w (A5 c L vT vS H' s.nt) w':=by
 obtain⟨gs,sc,rfl,ck,_,hcs,_⟩:=hM.F1 hi;have cw:s.ns<=50:=hG.ns;have cx:s.nt<=100:=hG.nt;have br:=hM.lt;have y0:=hcs 0 _ rfl;simp only[W4]at y0;obtain⟨W,hW,av,hA,hR,hz⟩:=boxes w a;have HO:Hid (∀k,A5 c vF vT (S9 gs s.ns sc) H s.nt k->k<w.heap.size):=O (fun k h=>(hM.Ol h).2);obtain⟨a0,a1,a2,a3,a4,a5,a6,a7,a8,a9,A,C,a12,D⟩:=hA.all;have E:Mz c w.heap.size gs i (S9 gs s.ns sc) (s.S i).key W.drew:=⟨(av.cell (p:=(G c 2)) br).trans hM.cells.2.2.1,a2.trans (by rw[ei]),(av.cell (p:=(G gs (i*5))) ck).trans y0⟩;have HM:=O hM;have HB:=O av;have HA:=O hA;have HR:=O hR;have HG:=O hG;have HE:=O (And.intro et ei);clear hM av hA hR hG et ei hcs y0 a0 a1 a2 a3 a4 a5 a6 a7 a8 a9 A C a12 D
 go_enter func104,ntmps104
 go_upto_region 1 with fail
 rw[<-hW];clear hW
 go_cut [5] (fun q wx=>∃kb,q=Q9 kb/\W.heap.size<=kb/\TD wx kb (BA (s.S i).key)/\B9 W wx)
 case first=>
  have zB:=HB.size;obtain⟨Z,hY⟩:∃Z,Z=(W.alloc (.cells #[J 0,J 0,F9 0,E9,J 0] 43)).drew:=⟨_,rfl⟩;have M:B9 W Z:=by rw[hY];exact(n9).drew
  have ag:Z.heap[W.heap.size]?=some (.cells #[J 0,J 0,F9 0,E9,J 0] 43 (0,0)):=by rw[hY];exact BE W _
  have zY:Z.heap.size=W.heap.size+1:=by rw[hY];simp
  have bt:=E.keep (W':=Z) (M.block c oa) (M.block w.heap.size oa) (M.block gs oa);have bu:=O (And.intro hY (And.intro M (And.intro ag zY)));clear hY M ag zY;refine Hl (Mz c w.heap.size gs i (S9 gs s.ns sc) (s.S i).key) ?_;refine tz 0 (h:=tz 1 (h:=tz 2 (h:=tz 3 (h:=tz 4 (h:=tz 5 (h:=tz 6 (h:=tz 7 (h:=tz 8 (h:=?_)))))))));refine AaE (rs:=[9,10]) og od ?_;refine SO rfl (fun K hK=>?armA) (SO rfl (fun K hK=>?armB) AaH)
  case armA=>
   go_simp;refine m9 (Np (s.S i).key _) fun w1 d=>?_;have z1:=d.size;have ah:=E.keep (d.block c (by show c<W.heap.size;omega)) (d.block w.heap.size (by show w.heap.size<W.heap.size;omega)) (d.block gs (by show gs<W.heap.size;omega));refine hK.out _ _ ah (fun _=>?_);clear hK K;have bw:B9 W w1:=⟨d.os,d.tape,d.output,d.size,fun k hk=>d.block k hk⟩;obtain⟨X,hX⟩:∃X,X=w1.alloc (.cells #[J 0,J 0,F9 0,E9,J 0] 43):=⟨_,rfl⟩;have ai:B9 w1 X:=by rw[hX];exact(Cs _ _).alloc (Be _) _
   have z2:W.heap.size<=w1.heap.size:=d.size;have bx:=ah.keep (W':=X) (ai.block c oa) (ai.block w.heap.size oa) (ai.block gs oa);have bz:X.heap[w1.heap.size]?=some (.cells [J 0,J 0,F9 0,E9,J 0].toArray 43 (0,0)):=by rw[hX];exact BE w1 _
   obtain⟨w2,j,l⟩:=VH bz rfl (BA (s.S i).key);have bd:=bx.keep (W':=w2) (l.other c oa) (l.other w.heap.size oa) (l.other gs oa);have cl:=O hX;have HF:Hid (W.heap.size<=w1.heap.size/\TD w2 w1.heap.size (BA (s.S i).key)/\B9 W w2):=O ⟨z2,.stored l,l.below (bw.trans (ai.mono z2)) z2⟩;have n:=O j;clear d bw hX ai bz j l;refine ry 10 (fun K hK=>?_);go_simp;rw[<-z cl];refine hK.out _ _ bx (fun _=>?_);clear hK K;refine ry 11 (fun K hK=>?_);refine BJ rfl rfl w2 n ?_;refine hK.out _ _ bd (fun _=>?_);clear hK K;refine Fj ?_;go_wp2_with fail
   go_meet
   case rel=>exact⟨_,rfl,HF⟩
  case armB=>
   go_simp;rw[<-(z bu).1];refine hK.out _ _ bt (fun _=>?_);clear hK K;refine ry 9 (fun K hK=>?_);go_simp;refine m9 (Np (s.S i).key _) fun w1 d=>?_;obtain⟨_,M,ag,zY⟩:=z bu;have z1:=d.size;have ah:=bt.keep (d.block c oa) (d.block w.heap.size oa) (d.block gs oa);refine hK.out _ _ ah (fun _=>?_);clear hK K;obtain⟨w2,j,l⟩:=VH (old:=[J 0,J 0,F9 0,E9,J 0]) ((d.block W.heap.size oa).trans ag) rfl (BA (s.S i).key);have bd:=ah.keep (W':=w2) (l.other c oa) (l.other w.heap.size oa) (l.other gs oa);have HF:Hid (W.heap.size<=W.heap.size/\TD w2 W.heap.size (BA (s.S i).key)/\B9 W w2):=O ⟨Be _,.stored l,l.below (M.trans (d.mono oa)) (Be _)⟩;have n:=O j;clear d M ag zY j l;refine ry 11 (fun K hK=>?_);refine BJ rfl rfl w2 n ?_;refine hK.out _ _ bd (fun _=>?_);clear hK K;refine Fj ?_;go_wp2_with fail
   go_meet
   case rel=>exact⟨_,rfl,HF⟩
 obtain⟨kb,rfl,cy,b0,hbc⟩:=hcut;clear E;obtain⟨et,ei⟩:=z HE;have zB:=HB.size;have zc:=hbc.size;have b1:=O (HM.below (HB.trans (hbc.mono zB)));have aw:=HA.below hbc oa;have b2:=HR.below hbc hz;obtain⟨a0,a1,a2,a3,a4,a5,a6,a7,a8,a9,A,C,a12,D⟩:=aw.all;rw[et]at a1;rw[ei]at a2;have la:=aw.lt;have I:=O (Uf c B vF vT (S9 gs s.ns sc) H s i t wc b1 HG hi P);have bf:=O b0;have b3:=O aw;have b4:=O b2;have b5:=O hbc;clear b0 aw b2 hbc et ei;go_wp2_with fail;refine I.mono ?_;rintro e w3 ⟨rfl,b6,aj⟩;have ax:∀b,w.heap.size<=b->b<wc.heap.size->w3.heap[b]?=wc.heap[b]?:=fun b h1 h2=>aj.block b h2 (fun e=>oj (z HO b e));have bg:Og w3 w.heap.size a:=(ax w.heap.size (Be _) la).trans b3;have b7:Ge w3 (w.heap.size+1):=(ax (w.heap.size+1) oa oa).trans b4;have b8:TD w3 kb (BA (s.S i).key):=bf.keep aj.size (ax kb oa bf.lt);have b9:=IE HG hi P;have ay:Hid (Br (A5 c vF vT (S9 gs s.ns sc) H s.nt) W (A5 c vF vT (S9 gs s.ns sc) H s.nt) w3):=O ((Br.Ar b5).trans aj);obtain⟨fi,bh⟩:∃fi,fi=Bj s i t:=⟨_,rfl⟩;rw[<-bh];have ak:=O bh;have o:=O b6;have cm:=O bg;have az:=O b7;have ca:=O b8;have cb:=O b9;have z3:=aj.size;have cz:=bg.lt;clear a0 a1 a2 a3 a4 a5 a6 a7 a8 a9 A C a12 D la b6 aj ax bg b7 b8 b9 bh I b3 b4 b5 b1 bf;obtain⟨a0,a1,a2,a3,a4,a5,a6,a7,a8,a9,A,C,a12,D⟩:=cm.all;rw[(z HE).1]at a1;rw[(z HE).2]at a2;have cc:Hid (Ky (BA (s.S i).key)):=O (F8 (HG.si i hi).1);have I:Hid (0<=fi->∃q:Nat,fi=q/\q<(s.T t).nv):=O (fun h0=>by
  obtain⟨_,q,_,_,hq,hn,_⟩:=IC HG hi P (by rw[<-z ak];exact h0);exact⟨q,ak.trans hq,hn⟩)
 obtain⟨g,Q,bj,lg,_,cd,cD⟩:=o.CP (t:=t) P;have bj:vT=S9 g s.nt Q:=bj;subst bj;have c1:=o.cells.2.1;have cN:=o.lt;have g1:=cd 1 _ rfl;obtain⟨va,vc,ev⟩:=Ay (o.v t P);have bk:=o.v t P;rw[ev]at bk;have g1:w3.cell? (G g (t*8+1))=some (.slice va (s.T t).nv vc):=g1.trans (by rw[ev];rfl);have ao:Hid (Cp w3 B (.slice va (s.T t).nv vc) (s.T t).nv (s.T t).V):=O bk;have aM:Hid ((H t).v=.slice va (s.T t).nv vc):=O ev;clear ev bk cd;have c0:c<w.heap.size:=br;have c3:g<w.heap.size:=HO g (.inr (.inr (.inl rfl)));have ad:Hid (∀{w4 w5:Y} {L:V9} {H':Nat->Hs} {s':AK} {cs:Array Value} {ty:TypeId},SM w4 c B L (S9 g s.nt Q) (S9 gs s.ns sc) H' s'->s'.nt=s.nt->Br (A5 c vF (S9 g s.nt Q) (S9 gs s.ns sc) H s.nt) W (A5 c L (S9 g s.nt Q) (S9 gs s.ns sc) H' s.nt) w4->Bn w4 w5 (w.heap.size+1) cs ty->
   SM w5 c B L (S9 g s.nt Q) (S9 gs s.ns sc) H' s'/\Br (A5 c vF (S9 g s.nt Q) (S9 gs s.ns sc) H s.nt) w (A5 c L (S9 g s.nt Q) (S9 gs s.ns sc) H' s.nt) w5):=O (fun h hn hd j=>SM.fin HB HO oa hz h hn hd j)
 rcases hop with hop|hop
 ·have d8:(a.op==8)=true:=by simp[hop]
  have u:Hid (F5 s a=E4 (if 0<=fi then(s.T t).V fi.toNat else Cm s.F (s.T t) (BA (s.S i).key))/\Dg s a=AV s i t):=O (by
   obtain⟨et,ei⟩:=z HE;unfold F5 Dg;simp[hop,et,ei,z ak])
  clear hop;by_cases h0:0<=fi
  ·obtain⟨q,rfl,bb⟩:=z I h0;have r:Hid (F5 s a=E4 ((s.T t).V q)/\Dg s a=AV s i t):=O (by
    refine⟨u.1.trans ?_,u.2⟩;rw[DD h0,NO])
   clear u h0 I;obtain⟨m,rfl,cn⟩:∃m,va=some (G m 0)/\m<w3.heap.size:=by
    obtain⟨hl,⟨hv,h0⟩|⟨g,Q,cur,hv,_,af,_⟩⟩:=id ao
    ·omega
    ·cases hv;exact⟨_,rfl,Ah af⟩
   have cq:m<w.heap.size:=HO m (.inr (.inr (.inr (.inr ⟨t,P,.inl (by rw[z aM];rfl)⟩))));obtain⟨e0,e1,e2,e3,e4⟩:=Cp.at ao bb;have E:MA c w.heap.size g s.nt Q t m (s.T t).nv vc q ((s.T t).V q) w3.drew:=⟨c1,a1,g1,e0,e1,e2,e3,e4⟩;have cr:(s.T t).nv<=12:=Oi.nv (HG.t t P) HG.f;generalize (s.T t).V q=x at*;obtain⟨w4,j,l⟩:=Bs (w:=w3.drew) az (E4 x);have cg:=E.keep (l.other c oa) (l.other w.heap.size oa) (l.other g oa) (l.other m oa);have n:=O j;have R:=O (ad (o.keep (w':=w3.drew) (fun _ _=>rfl)) rfl (ay.below (Cs _ _).drew) l);obtain⟨r0,r1,r2,r3,r4,r5,r6,r7,r8,r9,U,ae⟩:=An.read l.BB;have l4:=Ah l.BB;clear j l c1 a1 g1 e0 e1 e2 e3 e4 a2 a3 a4 a5 a6 a7 a8 a9 A C a12 D;go_upto_region 5 with fail
   have ct:t<(AV s i t).nt:=P;refine Hl (MA c w.heap.size g s.nt Q t m (s.T t).nv vc q x) ?_;refine tz 0 (h:=tz 1 (h:=tz 2 (h:=tz 3 (h:=tz 4 (h:=tz 5 (h:=tz 6 (h:=tz 7 (h:=tz 8 (h:=tz 9 (h:=tz 10 (h:=tz 11 (h:=?_))))))))))));refine tz 12 (h:=?_);refine ry 13 (fun K hK=>?_);refine BJ rfl rfl w4 n ?_;refine hK.out _ _ cg (fun _=>?_);clear hK K E cg;refine Fj ?_;go_wp2_with fail;refine E1 (v:=Dw (E4 x)) (by simp[results,results104,go_sem,l4,r0,r1,r2,r3,r4,r5,r6,r7,r8,r9,U,ae]) rfl ?_;rw[(z r).1,(z r).2];exact⟨rfl,_,_,R⟩
  ·have r:Hid (F5 s a=E4 (Cm s.F (s.T t) (BA (s.S i).key))/\Dg s a=AV s i t):=O (by
    refine⟨u.1.trans ?_,u.2⟩;rw[C3 h0])
   have hd:decide (0<=fi)=false:=oe;clear u h0 I;have aq:=O (KZ c B vF (S9 g s.nt Q) (S9 gs s.ns sc) H (AV s i t) t (BA (s.S i).key) w3 o cb P cc);obtain⟨lk,k0,k1,k2,k3,k4⟩:=z ca;clear c1 g1;go_wp2_with fail;refine aq.mono ?_;rintro e w4 ⟨rfl,bc⟩;obtain⟨x,hx⟩:∃x,x=Cm s.F (s.T t) (BA (s.S i).key):=⟨_,rfl⟩;rw[show Cm (AV s i t).F ((AV s i t).T t) (BA (s.S i).key)=x from hx.symm];have bm:=O hx;obtain⟨w5,j,l⟩:=Bs (az.below bc oa) (E4 x);have n:=O j;have R:=O (ad (o.below bc) rfl (ay.below bc) l);obtain⟨r0,r1,r2,r3,r4,r5,r6,r7,r8,r9,U,ae⟩:=An.read l.BB;have l4:=Ah l.BB;clear j l hx bc aq a0 a1 a2 a3 a4 a5 a6 a7 a8 a9 A C a12 D k0 k1 k2 k3 k4;go_wp2_with (refine Ai rfl rfl _ n ?_);refine E1 (v:=Dw (E4 x)) (by simp[results,results104,go_sem,l4,r0,r1,r2,r3,r4,r5,r6,r7,r8,r9,U,ae]) rfl ?_;rw[(z r).1,(z r).2,<-z bm];exact⟨rfl,_,_,R⟩
 ·have d8:(a.op==8)=false:=by simp[hop]
  by_cases hc:0<=fi/\a.v.kind≠0
  ·obtain⟨q,rfl,bb⟩:=z I hc.1;have r:Hid (F5 s a=Bc 0/\Dg s a=BW (AV s i t) t (Eh (s.T t) q a.v)):=O (by
    obtain⟨et,ei⟩:=z HE;have h1:Bj s i t=q:=ak.symm;unfold F5 Dg;simp[hop,et,ei,h1,hc.2])
   have c4:(a.v.kind !=0)=true:=by simp[hc.2]
   clear hc hop I;obtain⟨m,rfl,cn⟩:∃m,va=some (G m 0)/\m<w3.heap.size:=by
    obtain⟨hl,⟨hv,h0⟩|⟨g,Q,cur,hv,_,af,_⟩⟩:=id ao
    ·omega
    ·cases hv;exact⟨_,rfl,Ah af⟩
   have cq:m<w.heap.size:=HO m (.inr (.inr (.inr (.inr ⟨t,P,.inl (by rw[z aM];rfl)⟩))));obtain⟨e0,e1,e2,e3,e4⟩:=Cp.at ao bb;have fv:=fun q=>World.ownsRow.frozenAt ao q;have bn:=o.apart (i:=t) P (q:=m) (.inl (by rw[z aM];rfl));have cu:c≠m:=fun e=>bn.1 e.symm;have cv:g≠m:=fun e=>bn.2.2.1 (by rw[e];rfl);have E:KE c w.heap.size g s.nt Q t m (s.T t).nv vc a.v w3.drew:=⟨c1,a1,g1,a9,A,C,a12,D⟩;have cr:(s.T t).nv<=12:=Oi.nv (HG.t t P) HG.f;have bp:=o.Zw (t:=t) P aM bb a.v;obtain⟨w5,j,l⟩:=Bs (w:=(FL w3 m (q*5) a.v).drew) ((DR w3 m (q*5) a.v oa).trans az) (Bc 0);have n:=O j;have R:=O (ad (bp.1.keep (w':=(FL w3 m (q*5) a.v).drew) (fun _ _=>rfl)) rfl ((ay.trans bp.2).below (Cs _ _).drew) l);obtain⟨r0,r1,r2,r3,r4,r5,r6,r7,r8,r9,U,ae⟩:=An.read l.BB;have l4:=Ah l.BB;clear j l bn bp c1 g1 a1 a2 a3 a4 a5 a6 a7 a8 A C a12 D;go_upto_region 8 with fail
   have ct:t<(AV s i t).nt:=P;refine Hl (KE c w.heap.size g s.nt Q t m (s.T t).nv vc a.v) ?_;refine tz 0 (h:=tz 1 (h:=tz 2 (h:=tz 3 (h:=tz 4 (h:=tz 5 (h:=tz 6 (h:=tz 7 (h:=tz 8 (h:=tz 9 (h:=tz 10 (h:=tz 11 (h:=?_))))))))))));refine tz 12 (h:=?_);refine ry 13 (fun K hK=>?_);go_simp;refine hK.out _ (World.drew (FL w3 m (q*5) a.v)) (KE.keep (W:=w3) E (DR w3 m (q*5) a.v cu) (DR w3 m (q*5) a.v oa) (DR w3 m (q*5) a.v cv)) (fun _=>?_);clear hK K E;refine Fj ?_;clear e0 e1 e2 e3 e4 fv a0 a9;go_wp2_with (refine Ai rfl rfl _ n ?_);refine E1 (v:=Dw (Bc 0)) (by simp[results,results104,go_sem,l4,r0,r1,r2,r3,r4,r5,r6,r7,r8,r9,U,ae]) rfl ?_;rw[(z r).1,(z r).2];exact⟨rfl,_,_,R⟩
  ·have r:Hid (F5 s a=Bc (Cv (AV s i t) t (BA (s.S i).key) a.v)/\Dg s a=CC (AV s i t) t (BA (s.S i).key) a.v):=O (by
    obtain⟨et,ei⟩:=z HE;have h1:¬(0<=Bj s i t/\a.v.kind≠0):=by rw[<-z ak];exact hc
    unfold F5 Dg;simp only[hop,et,ei,NO];simp only[C3 h1];exact⟨rfl,rfl⟩)
   have ar:=O (Px c B vF (S9 g s.nt Q) (S9 gs s.ns sc) H (AV s i t) t (BA (s.S i).key) a.v w3 o cb P cc hv);obtain⟨lk,k0,k1,k2,k3,k4⟩:=z ca;have harm:(0<=fi/\a.v.kind=0)\/¬0<=fi:=by
    by_cases h0:0<=fi
    ·exact .inl ⟨h0,AaJ fun h=>hc ⟨h0,h⟩⟩
    ·exact .inr h0
   clear hc hop I c1 g1;rcases harm with⟨h0,h1⟩|h0
   case' inl=>
    have hd:decide (0<=fi)=true:=by simp[h0]
    have c5:(a.v.kind !=0)=false:=by simp[h1]
    clear h0 h1;go_upto_region 10 with fail
   case' inr=>
    have hd:decide (0<=fi)=false:=oe;clear h0;go_upto_region 10 with fail
   all_goals
    go_wp2_with fail
    refine ar.mono ?_;rintro e w4 ⟨rfl,L,H',ch,bq⟩;have cj:Ge w4 (w.heap.size+1):=(bq.block _ oa (fun e=>oj (z HO _ e))).trans az;obtain⟨x,hx⟩:∃x,x=Cv (AV s i t) t (BA (s.S i).key) a.v:=⟨_,rfl⟩;rw[<-hx];have bm:=O hx;obtain⟨w5,j,l⟩:=Bs cj (Bc x);have n:=O j;have au:(CC (AV s i t) t (BA (s.S i).key) a.v).nt=s.nt:=Mp _ _ _ _;have R:=O (ad ch au (ay.trans bq) l);obtain⟨r0,r1,r2,r3,r4,r5,r6,r7,r8,r9,U,ae⟩:=An.read l.BB;have l4:=Ah l.BB;clear j l hx ch bq cj au ar a0 a1 a2 a3 a4 a5 a6 a7 a8 a9 A C a12 D k0 k1 k2 k3 k4 hd;go_wp2_with (refine Ai rfl rfl _ n ?_);refine E1 (v:=Dw (Bc x)) (by simp[results,results104,go_sem,l4,r0,r1,r2,r3,r4,r5,r6,r7,r8,r9,U,ae]) rfl ?_;rw[(z r).1,(z r).2,<-z bm];exact⟨rfl,_,_,R⟩
abbrev Tv(c B:Nat)(vF vT vS:V9)(H:Nat->Hs)(s:AK)(a:Ac)(w:Y):Prop:=
 C9 50 #[Q9 c,Lm a] w fun e w'=>e=.returned (Dw (Dl s a))/\∃b d f H',SM w' c B b d f H' (BU s a)/\Br (A5 c vF vT vS H s.nt) w (A5 c b d f H' (BU s a).nt) w'
theorem SM.ends(hb:B9 w W)(a:∀k,A5 c vF vT vS H s.nt k->k<w.heap.size)(hz:w.heap.size+1<W.heap.size)(b:SM W c B vF vT vS H s)(d:Ge W (w.heap.size+1))(h1:B9 W w1)(x:An):
  ∃w2,(Instr.storeAt 45 (Q9 (w.heap.size+1)) (Dw x)).run prog w1=.ok () w2/\w2.heap[w.heap.size+1]?=some (.cells (Ey x).toArray 45 (0,0))/\SM w2 c B vF vT vS H s/\Br (A5 c vF vT vS H s.nt) w (A5 c vF vT vS H s.nt) w2:=by
 obtain⟨w2,h2,h3⟩:=Bs (d.below h1 hz) x;exact⟨w2,h2,h3.BB,SM.fin hb a oa hz (b.below h1) rfl (Br.Ar h1) h3⟩
theorem iA(c B:Nat)(vF vT vS:V9)(H:Nat->Hs)(s:AK)(a:Ac)(w:Y)(hD:SM w c B vF vT vS H s)(m:KH s)(b:CB a=false):Tv c B vF vT vS H s a w:=by
 have d:Hid (Dl s a=Bc 1/\BU s a=s):=O (by simp[Dl,BU,GD,b]);obtain⟨A,tc,rfl⟩:=Ay hD.t;obtain⟨sa,sc,rfl⟩:=Ay hD.si;have C:=m.nt;have D:=m.ns;obtain⟨W,r,g,hA,u,hz⟩:=boxes w a;have E:Hid (∀k,A5 c vF (.slice A s.nt tc) (.slice sa s.ns sc) H s.nt k->k<w.heap.size):=O (fun k h=>(hD.Ol h).2);have F:=hD.lt;have I:=O (hD.below g);have K:=O g;have X:=O hA;have L:=O u;have Z:=O m;clear hD g hA u m
 go_enter func50,ntmps50
 go_wp2_with fail
 rw[<-r];clear r;refine(Ft a _).mono ?_;rw[b];rintro e w1 ⟨rfl,j⟩;have x:=O j;clear j;have zz:=x.size;have za:w.heap.size<w1.heap.size:=oa;have zr:w.heap.size+1<w1.heap.size:=oa;have zc:c<w1.heap.size:=oa;obtain⟨w9,l,i,f⟩:=SM.ends K E hz I L x (Bc 1);have n:=O l;have o:=O f;obtain⟨r0,r1,r2,M,P,Q,R,S,T,U,p,q⟩:=An.read i;have V:=Ah i;clear l f i;go_wp2_with (refine Ai rfl rfl _ n ?_);refine E1 (v:=Dw (Bc 1)) (by simp[results,results50,go_sem,V,r0,r1,r2,M,P,Q,R,S,T,U,p,q]) rfl ?_;rw[(z d).1,(z d).2];exact⟨rfl,_,_,_,_,o⟩
theorem iB(c B:Nat)(vF vT vS:V9)(H:Nat->Hs)(s:AK)(a:Ac)(w:Y)(hD:SM w c B vF vT vS H s)(o:KH s)(b:CB a=true)(D:Eu a.op=true)(h2:(s.nt:Int)<=a.t):Tv c B vF vT vS H s a w:=by
 have d:Hid (Dl s a=Bc 2/\BU s a=s):=O (by simp[Dl,BU,GD,b,D,h2]);have e2:decide ((s.nt:Int)<=a.t)=true:=by simpa using h2
 clear h2;generalize R:EG a.op=sB;obtain⟨S,tc,rfl⟩:=Ay hD.t;obtain⟨sa,sc,rfl⟩:=Ay hD.si;have T:=o.nt;have U:=o.ns;obtain⟨W,E,i,hA,F,hz⟩:=boxes w a;have V:Hid (∀k,A5 c vF (.slice S s.nt tc) (.slice sa s.ns sc) H s.nt k->k<w.heap.size):=O (fun k h=>(hD.Ol h).2);have X:=hD.lt;have I:=O (hD.below i);have Z:=O i;have HA:=O hA;have HQ:=O F;have HG:=O o;clear hD i hA F o
 go_enter func50,ntmps50
 go_wp2_with fail
 rw[<-E];clear E;refine(Ft a _).mono ?_;rw[b];rintro e w1 ⟨rfl,l⟩;have f:=O l;clear l;have K:=f.size;have L:w.heap.size<w1.heap.size:=oa;have M:w.heap.size+1<w1.heap.size:=oa;have P:c<w1.heap.size:=oa;obtain⟨a0,a1,a2,a3,a4,a5,a6,a7,a8,a9,p,q,a12,r⟩:=(HA.below f oa).all;obtain⟨_,c1,c2,_⟩:=(I.below f).cells;go_wp2_with fail;refine(EU a.op _).mono ?_;rw[D,R];rintro e w2 ⟨rfl,Q⟩;rw[Q];clear Q w2;go_wp2_with fail;refine qr w1 ?_;refine N (h:=N (h:=N (h:=N (h:=N (h:=N (h:=N (h:=N (h:=N (h:=N (h:=N (h:=?_)))))))))));refine H7 ?_;intro w2 m;clear K L M P a0 a1 a2 a3 a4 a5 a6 a7 a8 a9 p q a12 r c1 c2;have f:=O (oo f m);clear m;have K:=f.size;have L:w.heap.size<w2.heap.size:=oa;have M:w.heap.size+1<w2.heap.size:=oa;have P:c<w2.heap.size:=oa;obtain⟨w9,n,j,g⟩:=SM.ends Z V hz I HQ f (Bc 2);have u:=O n;have x:=O g;obtain⟨r0,r1,r2,r3,r4,r5,r6,r7,r8,r9,A,C⟩:=An.read j;have l9:=Ah j;clear n g j;go_wp2_with (refine Ai rfl rfl _ u ?_);refine E1 (v:=Dw (Bc 2)) (by simp[results,results50,go_sem,l9,r0,r1,r2,r3,r4,r5,r6,r7,r8,r9,A,C]) rfl ?_;rw[(z d).1,(z d).2];exact⟨rfl,_,_,_,_,x⟩
theorem iC(c B:Nat)(vF vT vS:V9)(H:Nat->Hs)(s:AK)(a:Ac)(w:Y)(hD:SM w c B vF vT vS H s)(r:KH s)(f:CB a=true)(Q:Eu a.op=true)(R:EG a.op=true)(h2:a.t<(s.nt:Int))(h3:(s.ns:Int)<=a.site):Tv c B vF vT vS H s a w:=by
 have g:Hid (Dl s a=Bc 3/\BU s a=s):=O (by simp[Dl,BU,GD,f,Q,R,h3,show¬(s.nt:Int)<=a.t by omega]);have e2:decide ((s.nt:Int)<=a.t)=false:=by simpa using h2
 have e3:decide ((s.ns:Int)<=a.site)=true:=by simpa using h3
 clear h2 h3;obtain⟨X,tc,rfl⟩:=Ay hD.t;obtain⟨sa,sc,rfl⟩:=Ay hD.si;have Z:=r.nt;have ad:=r.ns;obtain⟨W,S,j,hA,T,hz⟩:=boxes w a;have HO:Hid (∀k,A5 c vF (.slice X s.nt tc) (.slice sa s.ns sc) H s.nt k->k<w.heap.size):=O (fun k h=>(hD.Ol h).2);have ae:=hD.lt;have D:=O (hD.below j);have HB:=O j;have U:=O hA;have HQ:=O T;have HG:=O r;clear hD j hA T r
 go_enter func50,ntmps50
 go_wp2_with fail
 rw[<-S];clear S;refine(Ft a _).mono ?_;rw[f];rintro e w1 ⟨rfl,p⟩;have b:=O p;clear p;have u:=b.size;have x:w.heap.size<w1.heap.size:=oa;have A:w.heap.size+1<w1.heap.size:=oa;have C:c<w1.heap.size:=oa;obtain⟨a0,a1,a2,a3,a4,a5,E,F,I,a9,l,m,a12,n⟩:=(U.below b oa).all;obtain⟨_,c1,c2,_⟩:=(D.below b).cells;go_wp2_with fail;refine(EU a.op _).mono ?_;rw[Q,R];rintro e w2 ⟨rfl,V⟩;rw[V];clear V w2;go_wp2_with fail;refine qr w1 ?_;refine N (h:=N (h:=N (h:=N (h:=N (h:=N (h:=N (h:=N (h:=N (h:=N (h:=N (h:=?_)))))))))));refine H7 ?_;intro w2 d;clear u x A C a0 a1 a2 a3 a4 a5 E F I a9 l m a12 n c1 c2;have b:=O (oo b d);clear d;have u:=b.size;have x:w.heap.size<w2.heap.size:=oa;have A:w.heap.size+1<w2.heap.size:=oa;have C:c<w2.heap.size:=oa;obtain⟨a0,a1,a2,a3,a4,a5,E,F,I,a9,l,m,a12,n⟩:=(U.below b oa).all;obtain⟨_,c1,c2,_⟩:=(D.below b).cells;go_wp2_with fail;refine qr w2 ?_;refine N (h:=N (h:=N (h:=N (h:=N (h:=N (h:=N (h:=N (h:=N (h:=N (h:=N (h:=?_)))))))))));refine H7 ?_;intro w3 d;clear u x A C a0 a1 a2 a3 a4 a5 E F I a9 l m a12 n c1 c2;have b:=O (oo b d);clear d;have u:=b.size;have x:w.heap.size<w3.heap.size:=oa;have A:w.heap.size+1<w3.heap.size:=oa;have C:c<w3.heap.size:=oa;obtain⟨w9,q,o,i⟩:=SM.ends HB HO hz D HQ b (Bc 3);have K:=O q;have L:=O i;obtain⟨r0,r1,r2,r3,r4,r5,r6,r7,r8,r9,M,P⟩:=An.read o;have l9:=Ah o;clear q i o;go_wp2_with (refine Ai rfl rfl _ K ?_);refine E1 (v:=Dw (Bc 3)) (by simp[results,results50,go_sem,l9,r0,r1,r2,r3,r4,r5,r6,r7,r8,r9,M,P]) rfl ?_;rw[(z g).1,(z g).2];exact⟨rfl,_,_,_,_,L⟩
theorem ZL{a:Ac}(h:a.op=8\/a.op=9):(Dg s a).nt=s.nt:=by
 unfold Dg;rcases h with h|h
 ·simp[h,AV]
 ·simp only[h];simp only[show¬((9:Int)=1) by decide,show¬((9:Int)=7) by decide,show¬((9:Int)=2) by decide,show¬((9:Int)=8) by decide,Tn,Aaw]
  split
  ·rfl
  ·exact Mp _ _ _ _
theorem PS(c B:Nat)(vF vT vS:V9)(H:Nat->Hs)(s:AK)(a:Ac)(w:Y)(hD:SM w c B vF vT vS H s)(Z:KH s)(n:CB a=true)(hop:a.op=8\/a.op=9)(t:Nat)(et:a.t=t)(h2:t<s.nt)(i:Nat)(es:a.site=i)(h3:i<s.ns)(hv:a.v.ok=true):Tv c B vF vT vS H s a w:=by
 rcases hop with hop|hop
 case' inl=>
  have d8:(a.op==8)=true:=by simp[hop]
  have d9:(a.op==9)=false:=by simp[hop]
 case' inr=>
  have d8:(a.op==8)=false:=by simp[hop]
  have d9:(a.op==9)=true:=by simp[hop]
 all_goals
  have hT:Eu a.op=true:=by rw[hop];decide
  have hS:EG a.op=true:=by rw[hop];decide
  obtain⟨kc,M⟩:∃kc,De a.k=kc:=⟨_,rfl⟩;obtain⟨r,P⟩:∃r,DY a.k=r:=⟨_,rfl⟩;have o:Hid (Dl s a=F5 s a/\BU s a=Dg s a):=O (by
   have h0:GD a s.nt s.ns=0:=by
    have x1:¬(s.nt:Int)<=a.t:=oa;have x2:¬(s.ns:Int)<=a.site:=oa;simp[GD,n,Eu,EG,hop,x1,x2]
   rw[Dl,BU,DD h0,DD h0];exact⟨rfl,rfl⟩)
  have e2:decide ((s.nt:Int)<=a.t)=false:=oe;have e3:decide ((s.ns:Int)<=a.site)=false:=oe;have ES:=O es;have p:Hid (a.op=8\/a.op=9):=O oa;clear es;have ad:=O M;have ae:=O P;clear M P;have d1:(a.op==1)=false:=by simp[hop]
  have d2:(a.op==2)=false:=by simp[hop]
  have d3:(a.op==3)=false:=by simp[hop]
  have d7:(a.op==7)=false:=by simp[hop]
  have ak:=O hop;clear hop;have ET:=O et;clear et;obtain⟨ta,tc,rfl⟩:=Ay hD.t;obtain⟨sa,sc,rfl⟩:=Ay hD.si;have ao:=Z.nt;have aq:=Z.ns;obtain⟨W,hW,u,hA,hR,hz⟩:=boxes w a;have HO:Hid (∀k,A5 c vF (.slice ta s.nt tc) (.slice sa s.ns sc) H s.nt k->k<w.heap.size):=O (fun k h=>(hD.Ol h).2);have ar:=hD.lt;have Q:=O (hD.below u);have HB:=O u;have HA:=O hA;have HQ:=O hR;have HG:=O Z;clear hD u hA hR Z
  go_enter func50,ntmps50
  go_wp2_with fail
  rw[<-hW];clear hW;refine(Ft a _).mono ?_;rw[n];rintro e w1 ⟨rfl,R⟩;have b:=O R;clear R;have A:=b.size;have C:w.heap.size<w1.heap.size:=oa;have D:w.heap.size+1<w1.heap.size:=oa;have E:c<w1.heap.size:=oa;obtain⟨a0,a1,a2,a3,a4,a5,F,I,K,a9,d,f,a12,g⟩:=(HA.below b oa).all;obtain⟨_,c1,c2,_⟩:=(Q.below b).cells;go_wp2_with fail;refine(EU a.op _).mono ?_;rw[hT,hS];rintro e w2 ⟨rfl,ew⟩;rw[ew];clear ew w2;go_wp2_with fail;refine qr w1 ?_;refine N (h:=N (h:=N (h:=N (h:=N (h:=N (h:=N (h:=N (h:=N (h:=N (h:=N (h:=?_)))))))))));refine H7 ?_;intro w2 j;clear A C D E a0 a1 a2 a3 a4 a5 F I K a9 d f a12 g c1 c2;have b:=O (oo b j);clear j;have A:=b.size;have C:w.heap.size<w2.heap.size:=oa;have D:w.heap.size+1<w2.heap.size:=oa;have E:c<w2.heap.size:=oa;obtain⟨a0,a1,a2,a3,a4,a5,F,I,K,a9,d,f,a12,g⟩:=(HA.below b oa).all;obtain⟨_,c1,c2,_⟩:=(Q.below b).cells;go_wp2_with fail;refine qr w2 ?_;refine N (h:=N (h:=N (h:=N (h:=N (h:=N (h:=N (h:=N (h:=N (h:=N (h:=N (h:=?_)))))))))));refine H7 ?_;intro w3 j;clear A C D E a0 a1 a2 a3 a4 a5 F I K a9 d f a12 g c1 c2;have b:=O (oo b j);clear j;have A:=b.size;have C:w.heap.size<w3.heap.size:=oa;have D:w.heap.size+1<w3.heap.size:=oa;have E:c<w3.heap.size:=oa;obtain⟨a0,a1,a2,a3,a4,a5,F,I,K,a9,d,f,a12,g⟩:=(HA.below b oa).all;obtain⟨_,c1,c2,_⟩:=(Q.below b).cells;go_wp2_with fail;refine(N2 a.k.kind a.k.num a.k.Ag a.k.str a.k.ref _).mono ?_;rw[DX,z ad,z ae];rintro e w4 ⟨rfl,S⟩;clear A C D E a0 a1 a2 a3 a4 a5 F I K a9 d f a12 g c1 c2;have b:=O (oo b S);clear S;have A:=b.size;have C:w.heap.size<w4.heap.size:=oa;have D:w.heap.size+1<w4.heap.size:=oa;have E:c<w4.heap.size:=oa;obtain⟨a0,a1,a2,a3,a4,a5,F,I,K,a9,d,f,a12,g⟩:=(HA.below b oa).all;obtain⟨_,c1,c2,_⟩:=(Q.below b).cells;have l:Hid (B9 W (w4.alloc (.cells #[J kc,J r.kind,J r.num,F9 r.Ag,.string r.str,J r.ref] 182))):=O (b.alloc b.size _);have T:=O (Sq c B vF _ _ H s a t i _ (Q.below l) HG ET h2 ES h3 p hv);go_wp2_with fail;refine T.mono ?_;rintro e w5 ⟨rfl,au,H5,U,L⟩;obtain⟨x,hx⟩:∃x,x=F5 s a:=⟨_,rfl⟩;rw[<-hx];have af:=O hx;clear hx T;clear A C D E a0 a1 a2 a3 a4 a5 F I K a9 d f a12 g c1 c2;have q:(Dg s a).nt=s.nt:=ZL p;have V:Ge w5 (w.heap.size+1):=(L.block _ (oj l.size) (fun e=>oj (z HO _ e))).trans (HQ.below l oa);obtain⟨w9,X,m⟩:=Bs V (x);have ag:=O X;have ah:=O (SM.fin HB HO oa hz U q ((Br.Ar l).trans L) m);obtain⟨r0,r1,r2,r3,r4,r5,r6,r7,r8,r9,ai,aj⟩:=An.read m.BB;have l9:=Ah m.BB;clear V X m U L;go_wp2_with (refine Ai rfl rfl _ ag ?_);refine E1 (v:=Dw (x)) (by simp[results,results50,go_sem,l9,r0,r1,r2,r3,r4,r5,r6,r7,r8,r9,ai,aj]) rfl ?_;rw[(z o).1,(z o).2,<-z af,q];exact⟨rfl,_,_,_,_,ah⟩
def KS:Hs:=⟨N9,N9,N9,N9⟩
theorem QE:¬KS.own q:=by
 rintro(e|e|e|e)<;>cases e
section
variable {W X w3:Y} {c B:Nat} {vF vS:V9} {H:Nat->Hs} {s:AK}
theorem SM.jX{g:Option Addr}(h:SM W c B vF (.slice g s.nt tc) vS H s)(hb:B9 W X)(o:X.grownBy w3 (Value.slice g s.nt tc).ownBlock)(w:w3.ownsRow B 94 8 (S9 g3 (s.nt+1) b) (s.nt+1) (UK H s.T s.nt++Ks KS Kq))(hl:(Value.slice g s.nt tc).ownBlock=some g3\/X.heap.size<=g3):
  w3.heap[c]?=some (.cells #[vF,.slice g s.nt tc,vS] 42 (0,0))/\SM (w3.setCell (G c 1) (S9 g3 (s.nt+1) b)) c B vF (S9 g3 (s.nt+1) b) vS (AY H s.nt KS) {s with nt:=s.nt+1,T:=AY s.T s.nt Kq}/\
  Br (A5 c vF (.slice g s.nt tc) vS H s.nt) W (A5 c vF (S9 g3 (s.nt+1) b) vS (AY H s.nt KS) (s.nt+1)) (w3.setCell (G c 1) (S9 g3 (s.nt+1) b)):=by
 have hk:∀k,k<W.heap.size->(Value.slice g s.nt tc).ownBlock≠some k->w3.heap[k]?=W.heap[k]?:=fun k h1 h2=>(o.block k (oj hb.size) (fun e=>h2 e.symm)).trans (hb.block k h1);have A:=(hk c h.lt (h.A9 h.t oc)).trans h.BB;have st:∀k,k≠c->(w3.setCell (G c 1) (S9 g3 (s.nt+1) b)).heap[k]?=w3.heap[k]?:=fun k hk=>A0 _ _ _ _ (by exact hk);have row:∀{e Z n:Nat} {u:V9} {xs:List Value},W.ownsRow B e Z u n xs->e≠42->e≠94->∀q,u.ownBlock=some q->(w3.setCell (G c 1) (S9 g3 (s.nt+1) b)).heap[q]?=W.heap[q]?:=fun r h1 h2 q e=>(st q (fun e'=>h.A9 r h1 (by rw[<-e'];exact e))).trans (hk q (r.lt q e).2 (BV r h.t h2 e));have C:g3≠c:=by
  rcases hl with e|e
  ·exact fun e'=>h.A9 h.t oc (by rw[<-e'];exact e)
  ·have:=h.lt;have:=hb.size;omega
 refine⟨A,⟨h.base,?_,Ae h.f (row h.f oc oc),?_,Ae h.si (row h.si oc oc),fun j hj=>?_,fun j hj=>?_,fun j hj=>?_,fun j hj=>?_,fun j hj=>?_,fun j k q hj p e e'=>?_⟩,⟨o.os.trans hb.os,o.tape.trans hb.tape,o.output.trans hb.output,by have:=o.size;have:=hb.size;simp;omega,fun k k1 k2=>?_,fun k e=>?_⟩⟩
 ·simp[World.setCell,Array.getElem?_modify,A]
 ·rw[ZU]at w;exact Ae w fun q e=>by
   have:g3=q:=by simpa[Value.ownBlock]using e
   exact st q oa
 ·show Cp _ B (AY H s.nt KS j).v (AY s.T s.nt Kq j).nv (AY s.T s.nt Kq j).V;by_cases e:j=s.nt
  ·subst e;rw[Ak,Ak];exact IF _ _ _ _
  ·have a:j<s.nt:=by have:j<s.nt+1:=hj;omega
   rw[Al _ _ e,Al _ _ e];exact Ae (h.v j a) (row (h.v j a) oc oc)
 ·show Ck _ B (AY H s.nt KS j).l (AY s.T s.nt Kq j).d.n (AY s.T s.nt Kq j).d.L;by_cases e:j=s.nt
  ·subst e;rw[Ak,Ak];exact IF _ _ _ _
  ·have a:j<s.nt:=by have:j<s.nt+1:=hj;omega
   rw[Al _ _ e,Al _ _ e];exact Ae (h.l j a) (row (h.l j a) oc oc)
 ·show BG _ B (AY H s.nt KS j).i (AY s.T s.nt Kq j).d.m (AY s.T s.nt Kq j).d.I;by_cases e:j=s.nt
  ·subst e;rw[Ak,Ak];exact IF _ _ _ _
  ·have a:j<s.nt:=by have:j<s.nt+1:=hj;omega
   rw[Al _ _ e,Al _ _ e];exact Ae (h.i j a) (row (h.i j a) oc oc)
 ·show BG _ B (AY H s.nt KS j).x (AY s.T s.nt Kq j).d.x (AY s.T s.nt Kq j).d.X;by_cases e:j=s.nt
  ·subst e;rw[Ak,Ak];exact IF _ _ _ _
  ·have a:j<s.nt:=by have:j<s.nt+1:=hj;omega
   rw[Al _ _ e,Al _ _ e];exact Ae (h.x j a) (row (h.x j a) oc oc)
 ·show∀q,(AY H s.nt KS j).i.ownBlock=some q->(AY H s.nt KS j).x.ownBlock≠some q;by_cases e:j=s.nt
  ·subst e;rw[Ak];intro q e;cases e
  ·have a:j<s.nt:=by have:j<s.nt+1:=hj;omega
   rw[Al _ _ e];exact h.ap j a
 ·have hj:j<s.nt+1:=hj;have p:k<s.nt+1:=p;by_cases e1:j=s.nt
  ·subst e1;rw[Ak]at e;exact absurd e QE
  ·by_cases e2:k=s.nt
   ·subst e2;rw[Ak]at e';exact absurd e' QE
   ·rw[Al _ _ e1]at e;rw[Al _ _ e2]at e';exact h.ij j k q oa oa e e'
 ·exact(st k (fun e=>k2 (.inl e))).trans (hk k k1 (fun e=>k2 (.inr (.inr (.inl e)))))
 ·rcases e with e|e|e|e|⟨j,hj,e⟩
  ·exact .inl (.inl e)
  ·exact .inl (.inr (.inl e))
  ·have e':g3=k:=by simpa[Value.ownBlock]using e
   rcases hl with h1|h1
   ·exact .inl (.inr (.inr (.inl (by rw[<-e'];exact h1))))
   ·exact .inr (oj hb.size)
  ·exact .inl (.inr (.inr (.inr (.inl e))))
  ·by_cases e1:j=s.nt
   ·subst e1;rw[Ak]at e;exact absurd e QE
   ·rw[Al _ _ e1]at e;exact .inl (.inr (.inr (.inr (.inr ⟨j,oa,e⟩))))
theorem SM.jW{sa:Option Addr}{sc:Nat}(h:SM W c B vF vT (.slice sa s.ns sc) H s)(x:Si)(hb:B9 W X)(b:X.grownBy w3 (Value.slice sa s.ns sc).ownBlock)(g:w3.ownsRow B 103 5 (S9 g3 (s.ns+1) a) (s.ns+1) (Ji s.S s.ns++IZ x))(hl:(Value.slice sa s.ns sc).ownBlock=some g3\/X.heap.size<=g3):
  w3.heap[c]?=some (.cells #[vF,vT,.slice sa s.ns sc] 42 (0,0))/\SM (w3.setCell (G c 2) (S9 g3 (s.ns+1) a)) c B vF vT (S9 g3 (s.ns+1) a) H {s with ns:=s.ns+1,S:=AY s.S s.ns x}/\
  Br (A5 c vF vT (.slice sa s.ns sc) H s.nt) W (A5 c vF vT (S9 g3 (s.ns+1) a) H s.nt) (w3.setCell (G c 2) (S9 g3 (s.ns+1) a)):=by
 have hk:∀k,k<W.heap.size->(Value.slice sa s.ns sc).ownBlock≠some k->w3.heap[k]?=W.heap[k]?:=fun k h1 h2=>(b.block k (oj hb.size) (fun e=>h2 e.symm)).trans (hb.block k h1);have m:=(hk c h.lt (h.A9 h.si oc)).trans h.BB;have st:∀k,k≠c->(w3.setCell (G c 2) (S9 g3 (s.ns+1) a)).heap[k]?=w3.heap[k]?:=fun k hk=>A0 _ _ _ _ (by exact hk);have row:∀{e Z n:Nat} {u:V9} {xs:List Value},W.ownsRow B e Z u n xs->e≠42->e≠103->∀q,u.ownBlock=some q->(w3.setCell (G c 2) (S9 g3 (s.ns+1) a)).heap[q]?=W.heap[q]?:=fun d h1 h2 q e=>(st q (fun e'=>h.A9 d h1 (by rw[<-e'];exact e))).trans (hk q (d.lt q e).2 (BV d h.si h2 e));have o:g3≠c:=by
  rcases hl with e|e
  ·exact fun e'=>h.A9 h.si oc (by rw[<-e'];exact e)
  ·have:=h.lt;have:=hb.size;omega
 refine⟨m,⟨h.base,?_,Ae h.f (row h.f oc oc),Ae h.t (row h.t oc oc),?_,fun j hj=>Ae (h.v j hj) (row (h.v j hj) oc oc),fun j hj=>Ae (h.l j hj) (row (h.l j hj) oc oc),fun j hj=>Ae (h.i j hj) (row (h.i j hj) oc oc),fun j hj=>Ae (h.x j hj) (row (h.x j hj) oc oc),h.ap,h.ij⟩,⟨b.os.trans hb.os,b.tape.trans hb.tape,b.output.trans hb.output,by have:=b.size;have:=hb.size;simp;omega,fun k k1 k2=>?_,fun k e=>?_⟩⟩
 ·simp[World.setCell,Array.getElem?_modify,m]
 ·rw[S3]at g;exact Ae g fun q e=>by
   have:g3=q:=by simpa[Value.ownBlock]using e
   exact st q oa
 ·exact(st k (fun e=>k2 (.inl e))).trans (hk k k1 (fun e=>k2 (.inr (.inr (.inr (.inl e))))))
 ·rcases e with e|e|e|e|e
  ·exact .inl (.inl e)
  ·exact .inl (.inr (.inl e))
  ·exact .inl (.inr (.inr (.inl e)))
  ·have e':g3=k:=by simpa[Value.ownBlock]using e
   rcases hl with h1|h1
   ·exact .inl (.inr (.inr (.inr (.inl (by rw[<-e'];exact h1)))))
   ·exact .inr (oj hb.size)
  ·exact .inl (.inr (.inr (.inr (.inr e))))
end
theorem Kl(c B:Nat)(vF vT vS:V9)(H:Nat->Hs)(s:AK)(a:Ac)(w:Y)(hD:SM w c B vF vT vS H s)(hG:KH s)(r:CB a=true)(h:(a.op=1/\s.nt=100)\/(a.op=7/\s.ns=50)\/(a.op=1/\s.nt≠100)\/(a.op=7/\s.ns≠50)):Tv c B vF vT vS H s a w:=by
 rcases h with⟨d,hf⟩|⟨d,hf⟩|⟨d,hf⟩|⟨d,hf⟩
 case' inl=>
  have g:Hid (Dl s a=Bc 5/\BU s a=s):=O (by
   have L:GD a s.nt s.ns=0:=by simp[GD,r,Eu,EG,d]
   rw[Dl,BU,DD L,DD L];simp[F5,Dg,d,hf])
  have e5:((s.nt:Int)==100)=true:=oe;have d1:(a.op==1)=true:=by simp[d]
  have d7:(a.op==7)=false:=by simp[d]
 case' inr.inl=>
  have g:Hid (Dl s a=Bc 5/\BU s a=s):=O (by
   have L:GD a s.nt s.ns=0:=by simp[GD,r,Eu,EG,d]
   rw[Dl,BU,DD L,DD L];simp[F5,Dg,d,hf])
  have e5:((s.ns:Int)==50)=true:=oe;have d1:(a.op==1)=false:=by simp[d]
  have d7:(a.op==7)=true:=by simp[d]
 case' inr.inr.inl=>
  have g:Hid (Dl s a=DJ s.nt/\BU s a={s with nt:=s.nt+1,T:=AY s.T s.nt Kq}):=O (by
   have L:GD a s.nt s.ns=0:=by simp[GD,r,Eu,EG,d]
   rw[Dl,BU,DD L,DD L];simp[F5,Dg,d,hf])
  have e5:((s.nt:Int)==100)=false:=oe;have d1:(a.op==1)=true:=by simp[d]
  have d7:(a.op==7)=false:=by simp[d]
 case' inr.inr.inr=>
  have g:Hid (Dl s a=DJ s.ns/\BU s a={s with ns:=s.ns+1,S:=AY s.S s.ns ⟨a.k.str,-1,0,0,0⟩}):=O (by
   have L:GD a s.nt s.ns=0:=by simp[GD,r,Eu,EG,d]
   rw[Dl,BU,DD L,DD L];simp[F5,Dg,d,hf])
  have e5:((s.ns:Int)==50)=false:=oe;have d1:(a.op==1)=false:=by simp[d]
  have d7:(a.op==7)=true:=by simp[d]
 all_goals
  have hT:Eu a.op=false:=by rw[d];decide
  have hS:EG a.op=false:=by rw[d];decide
  have d2:(a.op==2)=false:=by simp[d]
  have d3:(a.op==3)=false:=by simp[d]
  have d8:(a.op==8)=false:=by simp[d]
  have d9:(a.op==9)=false:=by simp[d]
  have br:=O d;clear d;obtain⟨kc,az⟩:∃kc,De a.k=kc:=⟨_,rfl⟩;obtain⟨l,aM⟩:∃l,DY a.k=l:=⟨_,rfl⟩;have bj:=O az;have bk:=O aM;clear az aM;clear hf;obtain⟨ta,tc,rfl⟩:=Ay hD.t;obtain⟨sa,sc,rfl⟩:=Ay hD.si;have bt:=hG.nt;have bu:=hG.ns;obtain⟨W,hW,ak,hA,hR,hz⟩:=boxes w a;have HO:Hid (∀k,A5 c vF (.slice ta s.nt tc) (.slice sa s.ns sc) H s.nt k->k<w.heap.size):=O (fun k h=>(hD.Ol h).2);have bw:=hD.lt;have M:=O (hD.below ak);have HB:=O ak;have HA:=O hA;have HQ:=O hR;have HG:=O hG;clear hD ak hA hR hG
  go_enter func50,ntmps50
  go_wp2_with fail
  rw[<-hW];clear hW;refine(Ft a _).mono ?_;rw[r];rintro e w1 ⟨rfl,bb⟩;have i:=O bb;clear bb;have zz:=i.size;have za:w.heap.size<w1.heap.size:=oa;have zr:w.heap.size+1<w1.heap.size:=oa;have zc:c<w1.heap.size:=oa;obtain⟨a0,a1,a2,a3,a4,a5,a6,a7,a8,a9,C,D,a12,E⟩:=(HA.below i oa).all;obtain⟨_,c1,c2,_⟩:=(M.below i).cells;go_wp2_with fail;refine(EU a.op _).mono ?_;rw[hT,hS];rintro e w2 ⟨rfl,ew⟩;rw[ew];clear ew w2;go_wp2_with fail;refine qr w1 ?_;refine N (h:=N (h:=?_));iterate 8 (go_big_quiet_step (fail))
  refine N (h:=?_);refine H7 ?_;intro w2 P;clear zz za zr zc a0 a1 a2 a3 a4 a5 a6 a7 a8 a9 C D a12 E c1 c2;have i:=O (oo i P);clear P;have zz:=i.size;have za:w.heap.size<w2.heap.size:=oa;have zr:w.heap.size+1<w2.heap.size:=oa;have zc:c<w2.heap.size:=oa;obtain⟨a0,a1,a2,a3,a4,a5,a6,a7,a8,a9,C,D,a12,E⟩:=(HA.below i oa).all;obtain⟨_,c1,c2,_⟩:=(M.below i).cells;go_wp2_with fail;refine qr w2 ?_;refine N (h:=N (h:=?_));iterate 8 (go_big_quiet_step (fail))
  refine N (h:=?_);refine H7 ?_;intro w3 P;clear zz za zr zc a0 a1 a2 a3 a4 a5 a6 a7 a8 a9 C D a12 E c1 c2;have i:=O (oo i P);clear P;have zz:=i.size;have za:w.heap.size<w3.heap.size:=oa;have zr:w.heap.size+1<w3.heap.size:=oa;have zc:c<w3.heap.size:=oa;obtain⟨a0,a1,a2,a3,a4,a5,a6,a7,a8,a9,C,D,a12,E⟩:=(HA.below i oa).all;obtain⟨_,c1,c2,_⟩:=(M.below i).cells;go_wp2_with fail;refine(N2 a.k.kind a.k.num a.k.Ag a.k.str a.k.ref _).mono ?_;rw[DX,z bj,z bk];rintro e w4 ⟨rfl,F⟩;clear zz za zr zc a0 a1 a2 a3 a4 a5 a6 a7 a8 a9 C D a12 E c1 c2;have i:=O (oo i F);clear F;have zz:=i.size;have za:w.heap.size<w4.heap.size:=oa;have zr:w.heap.size+1<w4.heap.size:=oa;have zc:c<w4.heap.size:=oa;obtain⟨a0,a1,a2,a3,a4,a5,a6,a7,a8,a9,C,D,a12,E⟩:=(HA.below i oa).all;obtain⟨_,c1,c2,_⟩:=(M.below i).cells
 ·obtain⟨i0,ao,aq,ar,au⟩:=P9 J2;obtain⟨X,hX⟩:∃X,X=w4.alloc (.cells #[J kc,J l.kind,J l.num,F9 l.Ag,.string l.str,J l.ref] 182):=⟨_,rfl⟩;have F:B9 w4 X:=by rw[hX];exact(Cs _ _).alloc (Be _) _
  have bc:Hid (B9 W X):=O (oo i F);obtain⟨Z,hY⟩:∃Z,Z=(X.alloc (.cells #[.string a.k.str,J (-1),J 0,J 0,J 0] 103)).drew:=⟨_,rfl⟩;have ai:B9 X Z:=by rw[hY];exact(n9).drew
  have zX:=bc.size;have zY:Z.heap.size=X.heap.size+1:=by rw[hY];simp
  have o:B9 W Z:=bc.trans (ai.mono zX);have av:Hid (Z.ownsRow B 103 5 (.slice sa s.ns sc) s.ns (Ji s.S s.ns)):=O (Uq (M.si) o);have bm:Hid (∀j u,(IZ ⟨a.k.str,-1,0,0,0⟩)[j]?=some u->Z.cell? (((y X 0):Addr).add j)=some u):=O (by rw[hY];exact H8 (w:=(X.alloc _).drew) (BE X _));have bd:B<=Z.heap.size:=oj M.base;have aw:X.drew.cell? (y w 7)=some (.string a.k.str):=(F.cell za).trans a7;have aj:Z.cell? (y w 7)=some (.string a.k.str):=ol ai (by show w.heap.size<X.heap.size;omega) aw;have xc:X.cell? (G c 2)=some (.slice sa s.ns sc):=ol F zc c2;have yc:Z.cell? (G c 2)=some (.slice sa s.ns sc):=ol ai (by show c<X.heap.size;omega) xc;have HF:Hid (∀g3 f w3,w3.ownsRow B 103 5 (S9 g3 (s.ns+1) f) (s.ns+1) (Ji s.S s.ns++IZ ⟨a.k.str,-1,0,0,0⟩)->Z.grownBy w3 (Value.slice sa s.ns sc).ownBlock->((Value.slice sa s.ns sc).ownBlock=some g3\/g3=Z.heap.size)->
    w3.cell? (y w 7)=some (.string a.k.str)/\(w3.setCell (G c 2) (S9 g3 (s.ns+1) f)).cell? (y w 7)=some (.string a.k.str)/\w3.cell? (G c 2)=some (.slice sa s.ns sc)/\w3.frozen? (G c 2)=false/\c<w3.heap.size/\∃A,Hid ((Instr.storeAt 45 (Q9 (w.heap.size+1)) (Dw (DJ s.ns))).run prog (w3.setCell (G c 2) (S9 g3 (s.ns+1) f))=.ok () A)/\A.heap[w.heap.size+1]?=some (.cells (Ey (DJ s.ns)).toArray 45 (0,0))/\Hid (∃Q R U H',SM A c B Q R U H' {s with ns:=s.ns+1,S:=AY s.S s.ns ⟨a.k.str,-1,0,0,0⟩}/\Br (A5 c vF (.slice ta s.nt tc) (.slice sa s.ns sc) H s.nt) w (A5 c Q R U H' s.nt) A)):=O (fun g3 f w3 h1 h2 h3=>by
   obtain⟨k1,k2,k3⟩:=M.jW ⟨a.k.str,-1,0,0,0⟩ o h2 h1 (h3.imp id (fun e=>oa));have hq:=HQ.below o oa;have hA:=HA.below o oa;have no:∀b,w.heap.size<=b->b<Z.heap.size->w3.heap[b]?=Z.heap[b]?:=fun b h4 h5=>h2.block b h5 (fun e=>oj (z HO b (.inr (.inr (.inr (.inl e.symm))))));have bf:Og w3 w.heap.size a:=(no _ (Be _) hA.lt).trans hA;have st:∀k,k≠c->(w3.setCell (G c 2) (S9 g3 (s.ns+1) f)).heap[k]?=w3.heap[k]?:=fun k hk=>A0 _ _ _ _ (by exact hk);have ax:Ge (w3.setCell (G c 2) (S9 g3 (s.ns+1) f)) (w.heap.size+1):=(st _ oa).trans ((no _ oa hq.lt).trans hq);have bn:Og (w3.setCell (G c 2) (S9 g3 (s.ns+1) f)) w.heap.size a:=(st _ oa).trans bf;obtain⟨A,I,V⟩:=Bs ax (DJ s.ns);exact⟨bf.all.2.2.2.2.2.2.2.1,bn.all.2.2.2.2.2.2.2.1,by rw[MM w3 c 2 _ _ _ k1];rfl,by simp[World.frozen?,k1],Ah k1,A,O I,V.BB,O ⟨_,_,_,_,SM.fin HB HO oa hz k2 rfl k3 V⟩⟩)
  have bp:IntKind.i64.wrap (((s.ns+1:Nat):Int)-1)=(s.ns:Int):=by rw[Hi];omega
  have bx:c<X.heap.size:=oa;have bz:w.heap.size<X.heap.size:=oa;have b0:c<Z.heap.size:=oa;have HY:=O hY;go_wp2_with fail;rw[<-hX];clear zz za zr zc a0 a1 a2 a3 a4 a5 a6 a7 a8 a9 C D a12 E c1 c2;clear hX o F hY ai zY;refine Hl (fun W'=>W'.cell? (y w 7)=some (.string a.k.str)) ?_;refine tz 0 (h:=tz 1 (h:=tz 2 (h:=tz 3 (h:=tz 5 (h:=tz 6 (h:=tz 7 (h:=tz 8 (h:=?_))))))));refine AaE (rs:=[4,9]) og od ?_;refine SO rfl (fun K hK=>?armA) (SO rfl (fun K hK=>?armB) AaH)
  case' armA=>
   go_simp;refine hK.out _ _ aw (fun _=>?_);clear hK K;refine ry 9 (fun K hK=>?_);go_simp;rw[<-z HY];refine hK.out _ _ aj (fun _=>?_);clear hK K
  case' armB=>
   go_simp;rw[<-z HY];refine hK.out _ _ aj (fun _=>?_);clear hK K;refine ry 4 (fun K hK=>?_);go_simp;refine hK.out _ _ aj (fun _=>?_);clear hK K
  all_goals
   refine ry 10 (fun K hK=>?_);refine Aaa _ rfl (.tmp 100) (.tmp 105) 40 rfl B 103 i0 (.agg #[E9,J 0,J 0,J 0,J 0]) 5 48 underlying40 ao aq ar au rfl oc (.slice sa s.ns sc) s.ns (Ji s.S s.ns) (by simp[Act.eval]) av (y X 0) 1 1 (IZ ⟨a.k.str,-1,0,0,0⟩) (by simp[Act.eval]) rfl bm (by simp[IZ,Value.oneCell']) oc (by unfold maxLen;omega) oa bd _ rfl ?_;intro g3 f w3 m x q ay;obtain⟨bg,bh,x0,x1,x2,A,ad,n,ae⟩:=z HF g3 f w3 m x q;obtain⟨r0,r1,r2,r3,r4,r5,r6,r7,r8,r9,af,ag⟩:=An.read n;have l9:=Ah n;clear m x q n;refine hK.out _ _ bg (fun _=>?_);clear hK K;refine tz 11 (h:=tz 12 (h:=?_));refine ry 13 (fun K hK=>?_);go_simp;refine hK.out _ _ bh (fun _=>?_);clear hK K;refine Fj ?_;clear bg bh aw aj xc yc;go_wp2_with (refine Ai rfl rfl _ ad ?_);refine E1 (v:=Dw (DJ s.ns)) (by simp[results,results50,go_sem,l9,r0,r1,r2,r3,r4,r5,r6,r7,r8,r9,af,ag]) rfl ?_;rw[(z g).1,(z g).2];exact⟨rfl,ae⟩
 ·obtain⟨i0,ao,aq,ar,au⟩:=P9 Pt;have o:B9 W ((w4.alloc (.cells #[J kc,J l.kind,J l.num,F9 l.Ag,.string l.str,J l.ref] 182)).alloc (.cells (Ks KS Kq).toArray 94)):=(i.alloc i.size _).alloc (by have:=i.size;simp;omega) _;have av:=O (On (On (M.below i).t (.cells #[J kc,J l.kind,J l.num,F9 l.Ag,.string l.str,J l.ref] 182)) (.cells (Ks KS Kq).toArray 94));have bd:B<=w4.heap.size+1+1:=oj M.base;have HF:Hid (∀g3 f w3,w3.ownsRow B 94 8 (S9 g3 (s.nt+1) f) (s.nt+1) (UK H s.T s.nt++Ks KS Kq)->((w4.alloc (.cells #[J kc,J l.kind,J l.num,F9 l.Ag,.string l.str,J l.ref] 182)).alloc (.cells (Ks KS Kq).toArray 94)).grownBy w3 (Value.slice ta s.nt tc).ownBlock->((Value.slice ta s.nt tc).ownBlock=some g3\/g3=w4.heap.size+1+1)->
    w3.cell? (G c 1)=some (.slice ta s.nt tc)/\w3.frozen? (G c 1)=false/\c<w3.heap.size/\∃A,Hid ((Instr.storeAt 45 (Q9 (w.heap.size+1)) (Dw (DJ s.nt))).run prog (w3.setCell (G c 1) (S9 g3 (s.nt+1) f))=.ok () A)/\A.heap[w.heap.size+1]?=some (.cells (Ey (DJ s.nt)).toArray 45 (0,0))/\Hid (∃Q R U H',SM A c B Q R U H' {s with nt:=s.nt+1,T:=AY s.T s.nt Kq}/\Br (A5 c vF (.slice ta s.nt tc) (.slice sa s.ns sc) H s.nt) w (A5 c Q R U H' (s.nt+1)) A)):=O (fun g3 f w3 h1 h2 h3=>by
   obtain⟨k1,k2,k3⟩:=M.jX o h2 h1 (h3.imp id (fun e=>oe));have hq:=HQ.below o oa;have ax:Ge (w3.setCell (G c 1) (S9 g3 (s.nt+1) f)) (w.heap.size+1):=(A0 _ _ _ _ (by show w.heap.size+1≠c;omega)).trans ((h2.block _ hq.lt (fun e=>oj (z HO _ (.inr (.inr (.inl e.symm)))))).trans hq);obtain⟨A,I,V⟩:=Bs ax (DJ s.nt);exact⟨by rw[MM w3 c 1 _ _ _ k1];rfl,by simp[World.frozen?,k1],Ah k1,A,O I,V.BB,O ⟨_,_,_,_,SM.fin HB HO oa hz k2 rfl k3 V⟩⟩)
  have bp:IntKind.i64.wrap (((s.nt+1:Nat):Int)-1)=(s.nt:Int):=by rw[Hi];omega
  clear o;go_wp2_with (first|(at_builtin;refine Aab _ rfl _ _ 39 rfl B 94 i0 (.agg (Ks KS Kq).toArray) 8 128 underlying39 ao aq ar au rfl oc (.slice ta s.nt tc) s.nt (UK H s.T s.nt) rfl av (Y9 w4 0) 1 1 (Ks KS Kq) rfl rfl (SC w4 _ (Ks KS Kq) _) (by simp[Ks,KS,Value.oneCell']) oc (by unfold maxLen;omega) oa oe (w4.heap.size+1+1) od ?_;intro g3 f w3 m x q ay;obtain⟨x0,x1,x2,A,ad,n,ae⟩:=z HF g3 f w3 m x q;obtain⟨r0,r1,r2,r3,r4,r5,r6,r7,r8,r9,af,ag⟩:=An.read n;have l9:=Ah n;clear m x n)|(refine Ai rfl rfl _ ad ?_));refine E1 (v:=Dw (DJ s.nt)) (by simp[results,results50,go_sem,l9,r0,r1,r2,r3,r4,r5,r6,r7,r8,r9,af,ag]) rfl ?_;rw[(z g).1,(z g).2];exact⟨rfl,ae⟩
 all_goals
  have bq:Hid (B9 W (w4.alloc (.cells #[J kc,J l.kind,J l.num,F9 l.Ag,.string l.str,J l.ref] 182))):=O (i.alloc i.size _);obtain⟨A,I,n,ah⟩:=SM.ends HB HO hz M HQ bq (Bc 5);have ad:=O I;have ae:=O ah;obtain⟨r0,r1,r2,r3,r4,r5,r6,r7,r8,r9,af,ag⟩:=An.read n;have l9:=Ah n;clear I ah n;go_wp2_with (refine Ai rfl rfl _ ad ?_);refine E1 (v:=Dw (Bc 5)) (by simp[results,results50,go_sem,l9,r0,r1,r2,r3,r4,r5,r6,r7,r8,r9,af,ag]) rfl ?_;rw[(z g).1,(z g).2];exact⟨rfl,_,_,_,_,ae⟩
abbrev f1:Nat->A3:=fun _=>⟨-1,⟨#[]⟩,0⟩
abbrev ES(v:V9):Value:=.agg #[v,N9,N9]
abbrev SB(b:Nat):Value:=S9 b 1 1
theorem oD{lo hi:Nat}(h:w.rowIs b 205 3 (cellOf f1))(h1:lo<=b)(h2:b<hi):GV f1 1 w (SB b) lo hi:=
 .inr ⟨oa,b,1,rfl,h1,h2,3,cellOf f1,oa,h,fun _ _=>rfl⟩
theorem mZ(w:Y):(w.alloc (.cells #[J (-1),E9,J 0] 205)).rowIs w.heap.size 205 3 (cellOf f1):=
 Aaz w #[J (-1),E9,J 0] 205 (cellOf f1) (fun i hi=>by
  have:i<3:=hi
  match i,this with
  |0,_=>rfl
  |1,_=>rfl
  |2,_=>rfl)
theorem Zp(w:Y):C9 127 #[] w (R9 (.agg #[J (-1),E9,J 0]) w):=by
 go_enter func127,ntmps127
 go_wp2;exact E1 (v:=.agg #[J (-1),E9,J 0]) (by simp[results,results127,go_sem]) rfl ⟨rfl,n9⟩
theorem T4(w:Y):C9 68 #[] w fun e w'=>(∃b,e=.returned (ES (SB b))/\GV f1 1 w' (SB b) w.heap.size w'.heap.size)/\B9 w w':=by
 have f:Hid (B9 w (w.alloc (.cells #[N9,N9,N9] 42))):=O (n9)
 go_enter func68,ntmps68
 go_wp2_with fail
 refine m9 (Zp _) fun w1 a=>?_;obtain⟨c,d⟩:=Bo a;have g:=a.size;simp at g;have j:w.heap.size<w1.heap.size:=oa;have c0:w1.cell? (y w 0)=some (N9):=by rw[c _ _ od];simp[go_sem]
 have c1:w1.cell? (y w 1)=some (N9):=by rw[c _ _ od];simp[go_sem]
 have c2:w1.cell? (y w 2)=some (N9):=by rw[c _ _ od];simp[go_sem]
 have fr:∀o,w1.frozen? (y w o)=false:=fun o=>by rw[d _ _ od];simp[go_sem]
 have i:=O (f.trans (a.mono od));clear a c d;go_wp2;have h:=mZ (((w1.setCell (y w 0) (SB w1.heap.size)).setCell (y w 1) (N9)).setCell (y w 2) (N9));simp only[World.size_setCell]at h;refine E1 (v:=ES (SB w1.heap.size)) (by simp[results,results68,go_sem,GP,j,c0,c1,c2]) rfl ⟨⟨w1.heap.size,rfl,oD h oa od⟩,?_⟩;refine Below.alloc ?_ oe _;iterate 3 (refine PC ?_ (by show w.heap.size<=w.heap.size;omega) _)
 exact i
noncomputable def Bz(a:AK)(f:Nat->Ac):Nat->AK
 |0=>a
 |q+1=>BU (Bz a f q) (f q)
noncomputable def EA(a:AK)(f:Nat->Ac)(q:Nat):An:=Dl (Bz a f q) (f q)
theorem UF(j:KI M s)(p:s.nt=0)(a:Ac)(b:Wf a.k)(c:Wf a.v):KI M (BU s a):=by
 have h:=PX j a b c;refine⟨h.f,h.nt,h.ns,fun i hi=>⟨(h.t i hi).way,(h.t i hi).wf,?_⟩,h.si⟩;unfold BU at hi ⊢
 split at hi
 ·rename_i hc
  rw[DD hc];obtain⟨c1,c2,c3,c4⟩:=X7 hc;obtain⟨r1,r2,q,r,u,_,_⟩:=Hp c1;have g:Eu a.op=true->False:=fun e=>oj (c2 e);unfold Dg at hi ⊢
  split at hi
  ·rename_i h1
   rw[DD h1];rw[C3 oa]at hi ⊢;have hi:i<s.nt+1:=hi;show(AY s.T s.nt Kq i).d.m<=M;rw[show i=s.nt by omega,Ak];exact Re _
  ·rename_i h1
   rw[C3 h1]
   split at hi
   ·rename_i o
    rw[C3 (by have:=j.ns;intro e;rw[DD e]at hi;omega)]at hi;have hi:i<s.nt:=hi;omega
   ·rename_i o
    by_cases h2:a.op=2
    ·exact(g (by rw[h2];rfl)).elim
    ·rw[C3 h2]at hi;by_cases l:a.op=8
     ·exact(g (by rw[l];rfl)).elim
     ·rw[C3 l]at hi;by_cases n:a.op=9
      ·exact(g (by rw[n];rfl)).elim
      ·rw[C3 n]at hi;omega
 ·omega
theorem Pf{c:AK}(d:KI 0 c)(b:c.nt=0){f:Nat->Ac}{n:Nat}(a:∀i,i<n->Wf (f i).k/\Wf (f i).v):∀q,q<=n->KI (4002*(q-1)) (Bz c f q)
 |0,_=>d
 |1,h=>UF d b _ (a 0 h).1 (a 0 h).2
 |q+2,h=>by
  have h1:=PX (Pf d b a (q+1) oa) (f (q+1)) (a (q+1) h).1 (a (q+1) h).2;exact h1.mono oe
theorem JR{a:AK}(d:KI 0 a)(b:a.nt=0){f:Nat->Ac}{n:Nat}(c:∀i,i<n->Wf (f i).k/\Wf (f i).v)(hn:n<=1000){q:Nat}(hq:q<=n):KH (Bz a f q):=
 (Pf d b c q hq).mono oa
def E0:AK:=⟨1,f1,0,fun _=>Kq,0,fun _=>default⟩
theorem RA:Ax 1 (fun _=>⟨-1,⟨#[]⟩,0⟩)=0:=KR ⟨oc,oc⟩ ⟨rfl,og,rfl⟩ (fun i h1 h2=>oa) (fun i k h1 h2 h3=>oa) (fun i t h1 h2=>oa)
theorem JJ:KI 0 E0:=⟨RA,Re _,Re _,fun i hi=>absurd hi (OR _),fun i hi=>absurd hi (OR _)⟩
theorem KI.ok(h:KI M s):I0 s (Dz s)=0:=by
 refine ZM h.f ⟨h.nt,h.ns⟩ (fun i hi=>?_) h.si;rcases(h.t i hi).way with⟨h1,h2,h3⟩|⟨j,h1,h2,h3,h4,h5⟩
 ·exact .inl ⟨h1,h2,FW h3⟩
 ·obtain⟨r1,r2,a,_,_⟩:=AB h.f;have hc:=(Ba (k:=s.nf) r2 (fun q h1 h2=>a q h1 h2) j h2).1;refine .inr ⟨oa,oa,?_⟩;rw[h1,NO];refine⟨?_,h4,fun q hq=>(h5 q hq).1⟩;rw[h3];unfold nf;omega
theorem KI.nS(h:KH s):TA s:=by
 obtain⟨r1,r2,a,_,_⟩:=AB h.f;refine⟨⟨oj r1.2,fun i hi=>?_⟩,oj h.nt,fun{i} hi=>?_,fun{i} hi=>Oi.small (h.t i hi),oj h.ns⟩
 ·by_cases c:i=0
  ·subst c;have:=r2.2.1;have e:=congrArg List.length (toList_inj (b:=⟨#[]⟩) (this.trans og));have e2:(s.F 0).key.size=0:=by show(s.F 0).key.data.size=0;rw[<-Array.length_toList];exact e
   omega
  ·have:=(a i oa hi).2.2.2.2;omega
 ·rcases(h.t i hi).way with⟨_,h2,_⟩|⟨j,_,h2,h3,_⟩
  ·omega
  ·rw[h3];have:=Gq h.f h2;omega
theorem Cp.oO{v:V9}{f:Nat->Vl}(h:Cp w B v n f):∃a c,v=.slice a n c/\I4 w a n f:=by
 obtain⟨hl,⟨d,j⟩|⟨g,cap,cur,d,hb,b,_⟩⟩:=id h
 ·subst j;obtain⟨a,c,e⟩:=Ay h;exact⟨a,c,e,.inl rfl⟩
 ·refine⟨_,_,d,.inr ⟨g,0,rfl,Ah b,fun i hi=>?_⟩⟩;rw[Wx];exact Cp.at (d▸h) hi
theorem SM.nU{a:Option Addr}(h:SM w c B vF (.slice a s.nt tc) vS H s):Z7 w a s.nt s.T:=by
 rcases W0 s.nt with e|e
 ·exact .inl e
 ·obtain⟨g,C,k,m,_,_,_⟩:=h.CP e;cases k;refine .inr ⟨g,0,rfl,m,fun i hi=>?_⟩;obtain⟨g',n,hv',_,_,hc,_⟩:=h.CP hi;cases hv';obtain⟨va,vc,o,p⟩:=(h.v i hi).oO;obtain⟨la,lc,el,q⟩:=(h.l i hi).at;obtain⟨ia,ic,r,t⟩:=(h.i i hi).at;obtain⟨xa,xc,ex,u⟩:=(h.x i hi).at;have A:=hc 0 _ rfl;have b:=hc 1 _ rfl;have d:=hc 2 _ rfl;have f:=hc 3 _ rfl;have j:=hc 4 _ rfl;rw[o]at b;rw[el]at d;rw[r]at f;rw[ex]at j;rw[Wx];exact⟨va,vc,la,lc,ia,ic,xa,xc,⟨A,b,d,f,j,hc 5 _ rfl,hc 6 _ rfl,hc 7 _ rfl⟩,p,q,t,u⟩
theorem iK(h:KH s){t:Nat}(a:t<s.nt):aD s (s.T t)<=500:=by
 unfold aD
 split
 ·rcases(h.t t a).way with⟨_,_,b⟩|⟨j,e,_⟩
  ·have h1:=b.i0.log.EH;have h2:=b.i0.le;omega
  ·omega
 ·rcases(h.t t a).way with⟨e,_⟩|⟨j,e,hj,_⟩
  ·omega
  ·have:=Gq h.f hj;rw[e,NO];omega
def My(ab:Nat)(a:Ac)(W:Y):Prop:=W.cell? (G ab 0)=some (J a.op)/\W.cell? (G ab 1)=some (J a.t)/\W.cell? (G ab 2)=some (J a.site)/\W.cell? (G ab 3)=some (J a.n)/\W.cell? (G ab 4)=some (J a.k.kind)/\W.cell? (G ab 5)=some (J a.k.num)/\W.cell? (G ab 6)=some (F9 a.k.Ag)/\W.cell? (G ab 7)=some (.string a.k.str)/\W.cell? (G ab 8)=some (J a.k.ref)/\W.cell? (G ab 9)=some (J a.v.kind)/\W.cell? (G ab 10)=some (J a.v.num)/\W.cell? (G ab 11)=some (F9 a.v.Ag)/\W.cell? (G ab 12)=some (.string a.v.str)/\W.cell? (G ab 13)=some (J a.v.ref)
theorem cV(c B:Nat)(vF vT vS:V9)(H:Nat->Hs)(s:AK)(a:Ac)(w:Y)(hD:SM w c B vF vT vS H s)(hG:KH s)(E:CB a=true)(t:Nat)(et:a.t=t)(h2:t<s.nt)(ax:Wf a.k)(hv:a.v.ok=true)(hm:0<=a.n)(h:(a.op=2/\De a.k=0)\/(a.op=3/\De a.k=0)\/(a.op=4\/a.op=5\/a.op=6)\/((a.op=2\/a.op=3)/\De a.k≠0)):Tv c B vF vT vS H s a w:=by
 rcases h with⟨hop,h4⟩|⟨hop,h4⟩|hop|⟨hop,h4⟩
 case' inl=>
  have hT:Eu a.op=true:=by rw[hop];decide
  have hS:EG a.op=false:=by rw[hop];decide
  have U:=O (QK ax h4);obtain⟨q,l⟩:∃q,De a.k=q:=⟨_,rfl⟩;obtain⟨b,j⟩:∃b,DY a.k=b:=⟨_,rfl⟩;rw[j]at U;have d:Hid (Dl s a=Bc (Cv s t b a.v)/\BU s a=CC s t b a.v):=O (by
   have h0:GD a s.nt s.ns=0:=by
    have x1:¬(s.nt:Int)<=a.t:=oa;simp[GD,E,Eu,EG,hop,x1,h4]
   rw[Dl,BU,DD h0,DD h0];simp[F5,Dg,hop,et,j])
  have e2:decide ((s.nt:Int)<=a.t)=false:=oe;have e4:(q !=0)=false:=by rw[<-l];simp[h4]
  clear h4;have ag:=O l;have ah:=O j;clear l j;have d1:(a.op==1)=false:=by simp[hop]
  have d2:(a.op==2)=true:=by simp[hop]
  have d3:(a.op==3)=false:=by simp[hop]
  have d7:(a.op==7)=false:=by simp[hop]
  have d8:(a.op==8)=false:=by simp[hop]
  have d9:(a.op==9)=false:=by simp[hop]
  have bm:=O hop;clear hop;have ET:=O et;clear et
 case' inr.inl=>
  have hT:Eu a.op=true:=by rw[hop];decide
  have hS:EG a.op=false:=by rw[hop];decide
  have U:=O (QK ax h4);obtain⟨q,l⟩:∃q,De a.k=q:=⟨_,rfl⟩;obtain⟨b,j⟩:∃b,DY a.k=b:=⟨_,rfl⟩;rw[j]at U;have d:Hid (Dl s a=E4 (Cm s.F (s.T t) b)/\BU s a=s):=O (by
   have h0:GD a s.nt s.ns=0:=by
    have x1:¬(s.nt:Int)<=a.t:=oa;simp[GD,E,Eu,EG,hop,x1,h4]
   rw[Dl,BU,DD h0,DD h0];simp[F5,Dg,hop,et,j])
  have e2:decide ((s.nt:Int)<=a.t)=false:=oe;have e4:(q !=0)=false:=by rw[<-l];simp[h4]
  clear h4;have ag:=O l;have ah:=O j;clear l j;have d1:(a.op==1)=false:=by simp[hop]
  have d2:(a.op==2)=false:=by simp[hop]
  have d3:(a.op==3)=true:=by simp[hop]
  have d7:(a.op==7)=false:=by simp[hop]
  have d8:(a.op==8)=false:=by simp[hop]
  have d9:(a.op==9)=false:=by simp[hop]
  have bm:=O hop;clear hop;have ET:=O et;clear et
 case' inr.inr.inl=>
  have hT:Eu a.op=true:=by rcases hop with h|h|h<;>rw[h]<;>decide
  have hS:EG a.op=false:=by rcases hop with h|h|h<;>rw[h]<;>decide
  obtain⟨q,l⟩:∃q,De a.k=q:=⟨_,rfl⟩;obtain⟨b,j⟩:∃b,DY a.k=b:=⟨_,rfl⟩;have d:Hid (Dl s a=(Uu s t).ask a/\BU s a=s):=O (by
   have h0:GD a s.nt s.ns=0:=by
    have x1:¬(s.nt:Int)<=a.t:=oa;rcases hop with h|h|h<;>simp[GD,E,Eu,EG,h,x1]
   rw[Dl,BU,DD h0,DD h0];rcases hop with h|h|h<;>simp[F5,Dg,h,et])
  have e2:decide ((s.nt:Int)<=a.t)=false:=oe;have ag:=O l;have ah:=O j;clear l j;have d1:(a.op==1)=false:=by rcases hop with h|h|h<;>simp[h]
  have d2:(a.op==2)=false:=by rcases hop with h|h|h<;>simp[h]
  have d3:(a.op==3)=false:=by rcases hop with h|h|h<;>simp[h]
  have d7:(a.op==7)=false:=by rcases hop with h|h|h<;>simp[h]
  have d8:(a.op==8)=false:=by rcases hop with h|h|h<;>simp[h]
  have d9:(a.op==9)=false:=by rcases hop with h|h|h<;>simp[h]
  have ET:=O et;clear hop et
 case' inr.inr.inr=>
  have hT:Eu a.op=true:=by rcases hop with h|h<;>rw[h]<;>decide
  have hS:EG a.op=false:=by rcases hop with h|h<;>rw[h]<;>decide
  have d:Hid (Dl s a=Bc 4/\BU s a=s):=O (by simp[Dl,BU,GD,E,hT,hS,h4,hop,show¬(s.nt:Int)<=a.t by omega]);have e2:decide ((s.nt:Int)<=a.t)=false:=oe;obtain⟨q,l⟩:∃q,De a.k=q:=⟨_,rfl⟩;obtain⟨b,j⟩:∃b,DY a.k=b:=⟨_,rfl⟩;have e4:(q !=0)=true:=by rw[<-l];simpa using h4
  have ag:=O l;have ah:=O j;clear l j;have d23:((a.op==2)=true)\/((a.op==2)=false/\(a.op==3)=true):=by rcases hop with h|h<;>simp[h]
  have bn:=O d23;clear h4 hop d23;have ET:=O et;clear et
 all_goals
  obtain⟨ta,tc,rfl⟩:=Ay hD.t;obtain⟨sa,sc,rfl⟩:=Ay hD.si;have bx:=hG.nt;have bz:=hG.ns;obtain⟨W,hW,ao,hA,hR,hz⟩:=boxes w a;have HO:Hid (∀k,A5 c vF (.slice ta s.nt tc) (.slice sa s.ns sc) H s.nt k->k<w.heap.size):=O (fun k h=>(hD.Ol h).2);have b0:=hD.lt;have S:=O (hD.below ao);have HB:=O ao;have HA:=O hA;have HQ:=O hR;have HG:=O hG;clear hD ao hA hR hG
  go_enter func50,ntmps50
  go_wp2_with fail
  rw[<-hW];clear hW;refine(Ft a _).mono ?_;rw[E];rintro e w1 ⟨rfl,ay⟩;have g:=O ay;clear ay;have zz:=g.size;have za:w.heap.size<w1.heap.size:=oa;have zr:w.heap.size+1<w1.heap.size:=oa;have zc:c<w1.heap.size:=oa;obtain⟨a0,a1,a2,a3,a4,a5,a6,a7,a8,a9,r,u,a12,C⟩:=(HA.below g oa).all;obtain⟨_,c1,c2,_⟩:=(S.below g).cells;go_wp2_with fail;refine(EU a.op _).mono ?_;rw[hT,hS];rintro e w2 ⟨rfl,ew⟩;rw[ew];clear ew w2;go_wp2_with fail;refine qr w1 ?_;refine N (h:=N (h:=N (h:=N (h:=N (h:=N (h:=N (h:=N (h:=N (h:=N (h:=N (h:=?_)))))))))));refine H7 ?_;intro w2 V;clear zz za zr zc a0 a1 a2 a3 a4 a5 a6 a7 a8 a9 r u a12 C c1 c2;have g:=O (oo g V);clear V;have zz:=g.size;have za:w.heap.size<w2.heap.size:=oa;have zr:w.heap.size+1<w2.heap.size:=oa;have zc:c<w2.heap.size:=oa;obtain⟨a0,a1,a2,a3,a4,a5,a6,a7,a8,a9,r,u,a12,C⟩:=(HA.below g oa).all;obtain⟨_,c1,c2,_⟩:=(S.below g).cells;go_wp2_with fail;refine qr w2 ?_;refine N (h:=N (h:=?_));iterate 8 (go_big_quiet_step (fail))
  refine N (h:=?_);refine H7 ?_;intro w3 V;clear zz za zr zc a0 a1 a2 a3 a4 a5 a6 a7 a8 a9 r u a12 C c1 c2;have g:=O (oo g V);clear V;have zz:=g.size;have za:w.heap.size<w3.heap.size:=oa;have zr:w.heap.size+1<w3.heap.size:=oa;have zc:c<w3.heap.size:=oa;obtain⟨a0,a1,a2,a3,a4,a5,a6,a7,a8,a9,r,u,a12,C⟩:=(HA.below g oa).all;obtain⟨_,c1,c2,_⟩:=(S.below g).cells;go_wp2_with fail;refine(N2 a.k.kind a.k.num a.k.Ag a.k.str a.k.ref _).mono ?_;rw[DX,z ag,z ah];rintro e w4 ⟨rfl,az⟩;clear zz za zr zc a0 a1 a2 a3 a4 a5 a6 a7 a8 a9 r u a12 C c1 c2;have g:=O (oo g az);clear az;have zz:=g.size;have za:w.heap.size<w4.heap.size:=oa;have zr:w.heap.size+1<w4.heap.size:=oa;have zc:c<w4.heap.size:=oa;obtain⟨a0,a1,a2,a3,a4,a5,a6,a7,a8,a9,r,u,a12,C⟩:=(HA.below g oa).all
 ·have i:Hid (B9 W (w4.alloc (.cells #[J q,J b.kind,J b.num,F9 b.Ag,.string b.str,J b.ref] 182))):=O (g.alloc g.size _);rcases z bn with d2|⟨d2,d3⟩;all_goals
   obtain⟨w9,o,p,m⟩:=SM.ends HB HO hz S HQ i (Bc 4);have Z:=O o;have I:=O m;obtain⟨r0,r1,r2,r3,r4,r5,r6,r7,r8,r9,L,M⟩:=An.read p;have l9:=Ah p;clear o m p;go_wp2_with (refine Ai rfl rfl _ Z ?_);refine E1 (v:=Dw (Bc 4)) (by simp[results,results50,go_sem,l9,r0,r1,r2,r3,r4,r5,r6,r7,r8,r9,L,M]) rfl ?_;rw[(z d).1,(z d).2];exact⟨rfl,_,_,_,_,I⟩
 ·obtain⟨_,c1,c2,_⟩:=(S.below g).cells;have i:Hid (B9 W (w4.alloc (.cells #[J q,J b.kind,J b.num,F9 b.Ag,.string b.str,J b.ref] 182))):=O (g.alloc g.size _);obtain⟨X,hX⟩:∃X,X=w4.alloc (.cells #[J q,J b.kind,J b.num,F9 b.Ag,.string b.str,J b.ref] 182):=⟨_,rfl⟩;rw[<-hX]at i;have aM:=S.below i;have aq:=HA.below i oa;have bb:Hid (C9 106 #[Q9 c,J a.t] X.drew fun e w'=>(∃v,e=.returned v/\Ck w' X.drew.heap.size v (aD s (s.T t)) (iJ s (s.T t)))/\Below X.drew.heap.size X.drew w'):=O (by
   rw[z ET];have bp:0<s.nf:=oj (AB HG.f).1.1;have ai:SM X.drew c B vF (.slice ta s.nt tc) (.slice sa s.ns sc) H s:=aM.keep (fun _ _=>rfl);obtain⟨fb,fc,bq,_,_,hF⟩:=ai.M0 bp;obtain⟨A,hA⟩:=ai.nU.addr;have ar:=ai.cells;rw[bq]at ar;exact Sp c fb fc ta tc s A t X.drew ar.1 ar.2.1 ai.lt hF hA (KI.nS HG) (KI.ok HG) h2)
  have br:My w.heap.size a X.drew:=aq.all;have hn:aD s (s.T t)<=500:=iK HG h2;have bt:=O aq;go_wp2_with fail;rw[<-hX];clear zz za zr zc a0 a1 a2 a3 a4 a5 a6 a7 a8 a9 r u a12 C c1 c2;clear hX aM aq;refine Hl (My w.heap.size a) ?_;refine tz 0 (h:=tz 1 (h:=tz 2 (h:=tz 4 (h:=?_))));refine ry 3 (fun K hK=>?_);go_simp;refine bb.mono ?_;rintro e w5 ⟨⟨v,rfl,bc⟩,D⟩;obtain⟨la,lc,rfl,bd⟩:=bc.at;have Q:B9 X w5:=⟨D.os,D.tape,D.output,D.size,fun k hk=>D.block k hk⟩;have zX:=i.size;have z5:=Q.size;have au:=bt.below Q oa;have bf:My w.heap.size a w5:=au.all;have bu:=O au;have bg:=O (i.trans (Q.mono zX));have ad:=O (WJ la lc (Uu s t) a w5 bd hn hm);refine hK.out _ _ bf (fun _=>?_);clear hK K bc bd D Q br au;refine ry 5 (fun K hK=>?_);go_simp;refine ad.mono ?_;rintro e w6 ⟨rfl,aj⟩;obtain⟨x,hx⟩:∃x,x=(Uu s t).ask a:=⟨_,rfl⟩;rw[<-hx];rw[<-hx]at d;have z6:=aj.size;have av:=bu.below aj oa;have bh:My w.heap.size a w6:=av.all;refine hK.out _ _ bh (fun _=>?_);clear hK K;have ak:=oo bg aj;obtain⟨w9,o,R⟩:=Bs (HQ.below ak hz) x;have P:My w.heap.size a w9:=(show Og w9 w.heap.size a from(R.other _ oa).trans av).all;have p:=R.BB;have m:=SM.fin HB HO oa hz (S.below ak) rfl (Br.Ar ak) R;refine ry 6 (fun K hK=>?_);refine BJ rfl rfl w9 o ?_;refine hK.out _ _ P (fun _=>?_);clear hK K;refine Fj ?_;obtain⟨r0,r1,r2,r3,r4,r5,r6,r7,r8,r9,L,M⟩:=An.read p;have l9:=Ah p;have I:=O m;clear o R ak p m bf bh av P aj ad bb hx;go_wp2_with fail;refine E1 (v:=Dw x) (by simp[results,results50,go_sem,l9,r0,r1,r2,r3,r4,r5,r6,r7,r8,r9,L,M]) rfl ?_;rw[(z d).1,(z d).2];exact⟨rfl,_,_,_,_,I⟩
 ·obtain⟨_,c1,c2,_⟩:=(S.below g).cells;rw[z ET]at a1;have i:Hid (B9 W (w4.alloc (.cells #[J q,J b.kind,J b.num,F9 b.Ag,.string b.str,J b.ref] 182))):=O (g.alloc g.size _);have ae:=O (KZ c B vF _ _ H s t b _ (S.below i) HG h2 U);go_wp2_with fail;refine ae.mono ?_;rintro e w5 ⟨rfl,D⟩;obtain⟨x,hx⟩:∃x,x=Cm s.F (s.T t) b:=⟨_,rfl⟩;rw[<-hx];rw[<-hx]at d;clear hx ae;clear zz za zr zc a0 a1 a2 a3 a4 a5 a6 a7 a8 a9 r u a12 C c1 c2;have g:=O (oo i D);clear D;obtain⟨w9,o,p,m⟩:=SM.ends HB HO hz S HQ g (E4 x);have Z:=O o;have I:=O m;obtain⟨r0,r1,r2,r3,r4,r5,r6,r7,r8,r9,L,M⟩:=An.read p;have l9:=Ah p;clear o m p;go_wp2_with (refine Ai rfl rfl _ Z ?_);refine E1 (v:=Dw (E4 x)) (by simp[results,results50,go_sem,l9,r0,r1,r2,r3,r4,r5,r6,r7,r8,r9,L,M]) rfl ?_;rw[(z d).1,(z d).2];exact⟨rfl,_,_,_,_,I⟩
 ·obtain⟨_,c1,c2,_⟩:=(S.below g).cells;rw[z ET]at a1;have i:Hid (B9 W (w4.alloc (.cells #[J q,J b.kind,J b.num,F9 b.Ag,.string b.str,J b.ref] 182))):=O (g.alloc g.size _);have af:=O (Px c B vF _ _ H s t b a.v _ (S.below i) HG h2 U hv);go_wp2_with fail;refine af.mono ?_;rintro e w5 ⟨rfl,b1,H5,bj,aw⟩;obtain⟨x,hx⟩:∃x,x=Cv s t b a.v:=⟨_,rfl⟩;rw[<-hx];have bw:=O hx;clear hx af;clear zz za zr zc a0 a1 a2 a3 a4 a5 a6 a7 a8 a9 r u a12 C c1 c2;have bk:Ge w5 (w.heap.size+1):=(aw.block _ (oj i.size) (fun e=>oj (z HO _ e))).trans (HQ.below i oa);obtain⟨w9,o,P⟩:=Bs bk (Bc x);have Z:=O o;have I:=O (SM.fin HB HO oa hz bj (Mp _ _ _ _) ((Br.Ar i).trans aw) P);obtain⟨r0,r1,r2,r3,r4,r5,r6,r7,r8,r9,L,M⟩:=An.read P.BB;have l9:=Ah P.BB;clear bk o P bj aw;go_wp2_with (refine Ai rfl rfl _ Z ?_);refine E1 (v:=Dw (Bc x)) (by simp[results,results50,go_sem,l9,r0,r1,r2,r3,r4,r5,r6,r7,r8,r9,L,M]) rfl ?_;rw[(z d).1,(z d).2,<-z bw,Mp];exact⟨rfl,_,_,_,_,I⟩
theorem aK{a:Ac}(h:CB a=true):(1<=a.op/\a.op<=9)/\0<=a.t/\a.t<100/\0<=a.site/\a.site<50/\0<=a.n:=by
 unfold CB at h
 revert h
 unfold I6 DK;intro h;by_cases h1:a.op=1<;>by_cases h2:a.op=2<;>by_cases h3:a.op=3<;>by_cases h4:a.op=4<;>by_cases h5:a.op=5<;>by_cases b:a.op=6<;>by_cases c:a.op=7<;>by_cases d:a.op=8<;>by_cases e:a.op=9<;>simp_all<;>omega
theorem aL{a:Ac}(h:CB a=true):a.v.ok=true:=by
 unfold CB at h
 revert h
 unfold I6;intro h;simp only[To]at h
 simp_all
theorem YN(c B:Nat)(vF vT vS:V9)(H:Nat->Hs)(s:AK)(a:Ac)(w:Y)(hD:SM w c B vF vT vS H s)(d:KH s)(i:Wf a.k):Tv c B vF vT vS H s a w:=by
 by_cases b:CB a=true
 ·obtain⟨⟨o1,r⟩,q,_,KS,_,j⟩:=aK b;have l:=aL b;by_cases h1:a.op=1
  ·by_cases hf:s.nt=100
   ·exact Kl c B vF vT vS H s a w hD d b (.inl ⟨h1,hf⟩)
   ·exact Kl c B vF vT vS H s a w hD d b (.inr (.inr (.inl ⟨h1,hf⟩)))
  by_cases m:a.op=7
  ·by_cases hf:s.ns=50
   ·exact Kl c B vF vT vS H s a w hD d b (.inr (.inl ⟨m,hf⟩))
   ·exact Kl c B vF vT vS H s a w hD d b (.inr (.inr (.inr ⟨m,hf⟩)))
  have p:Eu a.op=true:=by simp[Eu,h1,m]
  by_cases h2:(s.nt:Int)<=a.t
  ·exact iB c B vF vT vS H s a w hD d b p h2
  have n:a.t<(s.nt:Int):=oa;have e:a.t.toNat<s.nt:=oa;have et:a.t=(a.t.toNat:Int):=oa;by_cases o:EG a.op=true
  ·by_cases h3:(s.ns:Int)<=a.site
   ·exact iC c B vF vT vS H s a w hD d b p o n h3
   ·have f:a.site.toNat<s.ns:=oa;have es:a.site=(a.site.toNat:Int):=oa;have g:a.op=8\/a.op=9:=by simpa[EG]using o
    rcases g with h|h
    ·exact PS c B vF vT vS H s a w hD d b (.inl h) _ et e _ es f l
    ·exact PS c B vF vT vS H s a w hD d b (.inr h) _ et e _ es f l
  ·have g:a.op≠8/\a.op≠9:=by simpa[EG]using o
   exact cV c B vF vT vS H s a w hD d b _ et e i l j (by
    by_cases h4:De a.k=0
    ·rcases(by omega:a.op=2\/a.op=3\/(a.op=4\/a.op=5\/a.op=6))with h|h|h
     ·exact .inl ⟨h,h4⟩
     ·exact .inr (.inl ⟨h,h4⟩)
     ·exact .inr (.inr (.inl h))
    ·rcases(by omega:(a.op=2\/a.op=3)\/(a.op=4\/a.op=5\/a.op=6))with h|h
     ·exact .inr (.inr (.inr ⟨h,h4⟩))
     ·exact .inr (.inr (.inl h)))
 ·exact iA c B vF vT vS H s a w hD d (by simpa using b)
theorem O1(w:Y):C9 67 #[] w fun e w'=>e=.returned (.agg #[S9 (w.heap.size+1) 1 1,N9,N9])/\w'.rowIs (w.heap.size+1) 205 3 (cellOf (fun _=>⟨-1,⟨#[]⟩,0⟩))/\B9 w w':=by
 go_enter func67,ntmps67
 go_wp2;refine E1 (v:=.agg #[S9 (w.heap.size+1) 1 1,N9,N9]) (by simp[results,results67,go_sem]) rfl ⟨rfl,?_,(n9).alloc od _⟩;have h:=Aaz (w.alloc (.cells #[S9 (w.heap.size+1) 1 1,N9,N9] 42)) #[J (-1),E9,J 0] 205 (cellOf (fun _=>⟨-1,⟨#[]⟩,0⟩)) (fun i hi=>by
  have:i<3:=hi
  match i,this with
  |0,_=>rfl
  |1,_=>rfl
  |2,_=>rfl)
 rw[Deep.nblk_alloc]at h;exact h
theorem WI(m k:Nat)(w:Y)(l:Cl w m 1 f1):
  C9 49 #[.agg #[S9 m 1 k,N9,N9]] w fun e w'=>(∃c vF,e=.returned (Q9 c)/\SM w' c w.heap.size vF (N9) (N9) (fun _=>KS) E0)/\B9 w w':=by
 have hl:=l.lt;obtain⟨W,h⟩:∃W,W=w.alloc (.cells #[S9 m 1 k,N9,N9] 42):=⟨_,rfl⟩;have hb:B9 w W:=by rw[h];exact(Cs _ _).alloc (Be _) _
 have hz:W.heap.size=w.heap.size+1:=by rw[h];simp
 obtain⟨s1,s2⟩:W.cell? (y w 1)=some (N9)/\W.cell? (y w 2)=some (N9):=by rw[h];simp[go_sem]
 have s:=O (Ud m 1 k f1 W (l.below hb hl) oc);have t:=O hb;clear hb l
 go_enter func49,ntmps49
 go_wp2_with fail
 rw[<-h];refine s.mono ?_;rintro e w1 ⟨⟨v,rfl,u⟩,a⟩;have A:=a.size;have t1:=ol a (by show w.heap.size<W.heap.size;omega) s1;have t2:=ol a (by show w.heap.size<W.heap.size;omega) s2;have l1:w.heap.size<w1.heap.size:=oa;have x:=O u;have n:=O (oo t a);clear h s1 s2 u a s;obtain⟨w2,f⟩:∃w2,w2=w1.alloc (.cells #[v,N9,N9] 42):=⟨_,rfl⟩;have b:B9 w1 w2:=by rw[f];exact(Cs _ _).alloc (Be _) _
 have g:w2.heap[w1.heap.size]?=some (.cells #[v,N9,N9] 42 (0,0)):=by rw[f];exact BE w1 _
 have u2:=ol b l1 t2;have l2:w.heap.size<w2.heap.size:=At l1 b.size;have o:Hid (SM w2 w1.heap.size w.heap.size v (N9) (N9) (fun _=>KS) E0):=O ⟨oa,g,Uq (EW x oa) b,IF _ _ _ _,IF _ _ _ _,fun i hi=>absurd hi (OR _),fun i hi=>absurd hi (OR _),fun i hi=>absurd hi (OR _),fun i hi=>absurd hi (OR _),fun i hi=>absurd hi (OR _),fun i j q hi=>absurd hi (OR _)⟩;have r:=O (n.trans (b.mono oa));clear b g;go_wp2;rw[<-f];clear f t1 t2;go_loopw [19] (fun i wr=>i=J 0/\wr=w2) (fun _ _=>0)
 case atStart=>exact⟨rfl,rfl⟩
 case round=>
  obtain⟨rfl,d⟩:=hrel;rw[d];clear d wr;go_wp2;go_loopw [60] (fun i wr=>i=J 0/\wr=w2) (fun _ _=>0)
  case atStart=>exact⟨rfl,rfl⟩
  case round=>
   obtain⟨rfl,d⟩:=hrel;rw[d];clear d wr;go_wp2;go_ret;exact⟨⟨_,_,rfl,o⟩,r⟩
theorem SM.mono{B':Nat}(h:SM w c B vF vT vS H s)(hb:B'<=B):SM w c B' vF vT vS H s:=
 ⟨oj h.base,h.BB,EW h.f hb,EW h.t hb,EW h.si hb,fun i hi=>EW (h.v i hi) hb,fun i hi=>EW (h.l i hi) hb,fun i hi=>EW (h.i i hi) hb,fun i hi=>EW (h.x i hi) hb,h.ap,h.ij⟩
structure Pa (w:Y) (c ob a:Nat) (f:Nat->Ac) (q:Nat) (va vF vT vS:V9) (H:Nat->Hs) (wr:Y):Prop where
 dm:SM wr c w.heap.size vF vT vS H (Bz E0 f q)
 row:Mv wr w.heap.size va q (EA E0 f)
 apart:∀k,va.ownBlock=some k->¬A5 c vF vT vS H (Bz E0 f q).nt k
 Y3:wr.heap[ob]?=some (.cells #[.bool true,va,N9,N9,N9] 62 (0,0))
 cU:wr.heap[a]?=some (.cells #[.bool false,N9,N9,N9,N9] 62 (0,0))
 kB:∀k,A5 c vF vT vS H (Bz E0 f q).nt k->k≠ob/\k≠a
 vn:∀k,va.ownBlock=some k->k≠ob/\k≠a
 below:B9 w wr
theorem Pa.step{ob d:Nat}{f:Nat->Ac}{va g i j:V9}{wr w3 w4 n:Y}(h:Pa w c ob d f q va vF vT vS H wr)
  (E:w.heap.size<=ob) (B:ob≠d) (h2:B9 wr w2) (F:SM w3 c w.heap.size g i j H' (Bz E0 f (q+1))) (hD:Br (A5 c vF vT vS H (Bz E0 f q).nt) w2 (A5 c g i j H' (Bz E0 f (q+1)).nt) w3)
  (h4:B9 w3 w4) (h5:w4.grownBy n va.ownBlock) (o:n.ownsRow w.heap.size 45 12 (.slice (some (G g3 0)) (q+1) l) (q+1) (Qj (EA E0 f) q++Ey (EA E0 f q))) (b:va.ownBlock=some g3\/g3=w4.heap.size):
  Pa w c ob d f (q+1) (.slice (some (G g3 0)) (q+1) l) g i j H' (n.setCell (G ob 1) (.slice (some (G g3 0)) (q+1) l)):=by
 have p:=Ah h.Y3;have r:=Ah h.cU;have z2:=h2.size;have z3:=hD.size;have z4:=h4.size;have z5:=h5.size;have s:¬A5 c vF vT vS H (Bz E0 f q).nt ob:=fun e=>(h.kB ob e).1 rfl;have t:¬A5 c vF vT vS H (Bz E0 f q).nt d:=fun e=>(h.kB d e).2 rfl;have u:va.ownBlock≠some ob:=fun e=>(h.vn ob e).1 rfl;have v:va.ownBlock≠some d:=fun e=>(h.vn d e).2 rfl;have C:∀k,k<wr.heap.size->¬A5 c vF vT vS H (Bz E0 f q).nt k->va.ownBlock≠some k->n.heap[k]?=wr.heap[k]?:=fun k hk hn D=>(h5.block k oa (fun e=>D e.symm)).trans ((h4.block k oa).trans ((hD.block k oa hn).trans (h2.block k hk)));have I:n.heap[ob]?=some (.cells #[.bool true,va,N9,N9,N9] 62 (0,0)):=(C ob p s u).trans h.Y3;have m:=h.row.lt;have DZ:∀k,A5 c g i j H' (Bz E0 f (q+1)).nt k->k≠ob/\k≠d/\(∀k',va.ownBlock=some k'->k≠k')/\k<w3.heap.size:=fun k hk=>by
  refine⟨?_,?_,?_,(F.Ol hk).2⟩
  ·intro e;subst e;rcases hD.own _ hk with h1|h1
   ·exact s h1
   ·omega
  ·intro e;subst e;rcases hD.own _ hk with h1|h1
   ·exact t h1
   ·omega
  ·intro k' e1 e;subst e;rcases hD.own _ hk with h1|h1
   ·exact h.apart _ e1 h1
   ·have:=(m _ e1).2;omega
 have x:g3≠ob:=fun e=>by
  rcases b with h1|h1
  ·exact u (e▸h1)
  ·omega
 have A:g3≠d:=fun e=>by
  rcases b with h1|h1
  ·exact v (e▸h1)
  ·omega
 refine⟨F.keep fun k hk=>?_,?_,?_,JT I _,?_,fun k hk=>⟨(DZ k hk).1,(DZ k hk).2.1⟩,fun k e=>?_,?_⟩
 ·have a:=DZ k hk;have K:=a.2.2.2;exact(A0 _ _ _ _ (by exact a.1)).trans ((h5.block k oa (fun e=>a.2.2.1 k e.symm rfl)).trans (h4.block k a.2.2.2))
 ·show World.ownsRow _ _ _ _ _ _ (Qj (EA E0 f) q++Ey (EA E0 f q));exact Ae o fun k e=>by cases e;exact A0 _ _ _ _ (by exact x)
 ·intro k e hk;cases e;have a:=DZ _ hk;rcases b with h1|h1
  ·exact a.2.2.1 _ h1 rfl
  ·have h2:g3<w3.heap.size:=a.2.2.2;omega
 ·exact(A0 _ _ _ _ (by exact fun e=>B e.symm)).trans ((C d r t v).trans h.cU)
 ·cases e;exact⟨x,A⟩
 ·have hs:=Le n (G ob 1) (.slice (some (G g3 0)) (q+1) l);have hb:=h.below;refine⟨by rw[hs.1,h5.os,h4.os,hD.os,h2.os,hb.os],by rw[hs.2.1,h5.tape,h4.tape,hD.tape,h2.tape,hb.tape],by rw[hs.2.2.1,h5.output,h4.output,hD.output,h2.output,hb.output],by rw[hs.2.2.2];have:=hb.size;omega,fun k hk=>?_⟩;have hn:¬A5 c vF vT vS H (Bz E0 f q).nt k:=fun e=>oj (h.dm.Ol e).1;have D:va.ownBlock≠some k:=fun e=>oj (m k e).1;exact(A0 _ _ _ _ (by show k≠ob;omega)).trans ((C k (At hk hb.size) hn D).trans (hb.block k hk))
structure dW (w w':Y) (c n:Nat) (f:Nat->Ac) (va vF vT vS:V9) (H:Nat->Hs):Prop where
 dm:SM w' c w.heap.size vF vT vS H (Bz E0 f n)
 row:Mv w' w.heap.size va n (EA E0 f)
 apart:∀k,va.ownBlock=some k->¬A5 c vF vT vS H (Bz E0 f n).nt k
 below:B9 w w'
theorem Q6(v:V9)(n:Nat)(f:Nat->Ac)(w:Y)(hA:Tu w v n f)(hn:n<=1000)(S:∀i,i<n->Wf (f i).k/\Wf (f i).v):
  C9 21 #[v] w fun e w'=>∃c va vF vT vS H,e=.returned (.agg #[.bool true,va,vF,vT,vS])/\dW w w' c n f va vF vT vS H:=by
 obtain⟨W,hW⟩:∃W,W=w.alloc (.cells #[.bool false,N9,N9,N9,N9] 62):=⟨_,rfl⟩;have m:B9 w W:=by rw[hW];exact(Cs _ _).alloc (Be _) _
 have r:W.heap[w.heap.size]?=some (.cells #[.bool false,N9,N9,N9,N9] 62 (0,0)):=by rw[hW];exact BE _ _
 have z0:W.heap.size=w.heap.size+1:=by rw[hW];simp
 obtain⟨ab,ch,rfl,M,hcs⟩:=hA;have a8:=O hcs;have bb:Hid (∀q,q<=n->KH (Bz E0 f q)):=O (fun q hq=>JR JJ rfl S hn hq);have bc:=O S;obtain⟨i0,bd,bf,bg,bh⟩:=P9 Vj;have d0:decide ((1000:Int)<(n:Int))=false:=oe;have au:=O (And.intro m (And.intro r z0));clear hcs m r z0 S
 go_enter func21,ntmps21
 go_wp2_with fail
 rw[<-hW];clear hW;refine(O1 _).mono ?_;rintro e w1 ⟨rfl,P,T⟩;obtain⟨W1,U⟩:∃W1,W1=w1.alloc (.cells #[S9 (W.heap.size+1) 1 1,N9,N9] 42):=⟨_,rfl⟩;have V:B9 w1 W1:=by rw[U];exact(Cs _ _).alloc (Be _) _
 have X:Cl w1 (W.heap.size+1) 1 f1:=⟨3,_,oc,P,fun _ _=>rfl⟩;have HL:=O (WI (W.heap.size+1) 1 W1 (X.below V X.lt));have Z:=O (oo T V);clear P T V X;go_wp2_with fail;rw[<-U];clear U;refine HL.mono ?_;rintro e w2 ⟨⟨c,bj,rfl,E⟩,ad⟩;obtain⟨W2,F⟩:∃W2,W2=w2.alloc (.cells #[.bool true,N9,N9,N9,N9] 62):=⟨_,rfl⟩;have l:B9 w2 W2:=by rw[F];exact(Cs _ _).alloc (Be _) _
 have Q:W2.heap[w2.heap.size]?=some (.cells #[.bool true,N9,N9,N9,N9] 62 (0,0)):=by rw[F];exact BE _ _
 obtain⟨m,r,z0⟩:=z au;have y1:=Z.size;have y3:=ad.size;have ae:B9 W W2:=(Z.trans (ad.mono y1)).trans (l.mono oa);have av:w2.heap.size≠w.heap.size:=oa;have cc:w.heap.size<=w2.heap.size:=oa;have H0:Hid (Pa w c w2.heap.size w.heap.size f 0 (N9) bj (N9) (N9) (fun _=>KS) W2):=O
  ⟨(E.mono oa).below l,IF _ _ _ _,by simp[Value.ownBlock],Q,(ae.block _ oa).trans r,fun k hk=>by
   have h1:=(E.Ol hk).2;have h2:=(E.Ol hk).1;omega,by simp[Value.ownBlock],oo m ae⟩
 clear E ad l Q m r z0 ae au Z HL;go_wp2_with fail;rw[<-F];clear F;go_loopw [19] (fun ix wr=>∃(q:Nat) (va vF vT vS:V9) (H:Nat->Hs),q<=n/\ix=J q/\Pa w c w2.heap.size w.heap.size f q va vF vT vS H wr) (fun ix _=>n-(intOf ix).toNat)
 case atStart=>exact⟨0,_,_,_,_,_,Re _,rfl,H0⟩
 case round=>
  obtain⟨q,va,vF,vT,vS,H,hq,rfl,d⟩:=hrel;have A:=O d;have cd:ab<wr.heap.size:=At M d.below.size;by_cases aw:q<n
  ·have a:∀j u,(Dn (f q)).toList[j]?=some u->wr.cell? (G ab (q*14+j))=some u:=fun j u hu=>ol d.below M (a8 q aw j u hu);obtain⟨b0,b1,b2,b3,b4,b5,b6,b7,b8,b9,bk,bm,bn,bp⟩:=ot a;rw[W4]at b0;clear d a;go_wp2_with fail;have cj:=O (A.below);refine(YN c w.heap.size vF vT vS H (Bz E0 f q) (f q) _ (A.dm.below (n9)) (bb q hq) (bc q aw).1).mono ?_;rintro e w3 ⟨rfl,af,ag,ah,H',ax,ai⟩;have bq:Hid (SM w3 c w.heap.size af ag ah H' (Bz E0 f (q+1))):=O ax;have aj:Hid (Br (A5 c vF vT vS H (Bz E0 f q).nt) (wr.alloc (.cells (Dn (f q)) 51)) (A5 c af ag ah H' (Bz E0 f (q+1)).nt) w3):=O ai;obtain⟨x,hx⟩:∃x,EA E0 f q=x:=⟨_,rfl⟩;rw[show Dl (Bz E0 f q) (f q)=x from hx,show Dw x=jE x from rfl];have br:=O hx;have z3:wr.heap.size+1<=w3.heap.size:=by have:=ai.size;simpa using this
   clear ax ai hx b0 b1 b2 b3 b4 b5 b6 b7 b8 b9 bk bm bn bp;have bt:w2.heap.size<wr.heap.size:=Ah A.Y3;have ay:Hid (∀w4,B9 w3 w4->w4.heap[w2.heap.size]?=some (.cells #[.bool true,va,N9,N9,N9] 62 (0,0))):=O (fun w4 h4=>(h4.block _ oa).trans ((aj.block _ oe (fun e=>(A.kB _ e).1 rfl)).trans ((DO _ _ _ bt).trans A.Y3)));have az:Hid (∀w4,B9 w3 w4->Mv w4 w.heap.size va q (EA E0 f)):=O (fun w4 h4=>Ae A.row fun k e=>by
    have hk:=(A.row.lt k e).2;exact(h4.block _ oa).trans ((aj.block _ oe (fun e2=>A.apart k e e2)).trans (DO _ _ _ hk)))
   have HF:Hid (∀w4,w4=w3.alloc (.cells (Ey x).toArray 45)->B9 w3 w4/\w4.heap[w3.heap.size]?=some (.cells (Ey x).toArray 45 (0,0))):=O (fun w4 h=>by
    exact⟨by rw[h];exact(Cs _ _).alloc (Be _) _,by rw[h];exact BE _ _⟩)
   go_simp
   rename_i bu
   refine bu _ _ ?_;refine wpList_plain rfl fun K hK=>?_;go_simp;refine hK _ _ ?_;clear hK K;refine Ai rfl rfl _ (ZF w3 x) ?_;generalize aM:w3.alloc (.cells (Ey x).toArray 45)=w4;obtain⟨l,ak⟩:=z HF _ aM.symm;have ck:=O l;have z4:=Ah ak;have o4:=z ay w4 l;have ao:w2.heap.size<w4.heap.size:=Ah o4;have o1:w4.cell? (G w2.heap.size 1)=some va:=by rw[MM w4 _ 1 _ _ _ o4];rfl
   have s:=VS ak;obtain⟨s0,s1,s2,s3,s4,s5,s6,s7,s8,s9,cl,cm⟩:=oq s;have bw:Hid ((w4.alloc (.cells (Ey x).toArray 45)).ownsRow w.heap.size 45 12 va q (Qj (EA E0 f) q)):=O (On (az w4 l) _);have zb:w.heap.size<=w4.heap.size+1:=oa;have bx:Hid (∀g3 o D,D.ownsRow w.heap.size 45 12 (S9 g3 (q+1) o) (q+1) (Qj (EA E0 f) q++Ey x)->(w4.alloc (.cells (Ey x).toArray 45)).grownBy D va.ownBlock->(va.ownBlock=some g3\/g3=w4.heap.size+1)->
     D.heap[w2.heap.size]?=some (.cells #[.bool true,va,N9,N9,N9] 62 (0,0))/\Pa w c w2.heap.size w.heap.size f (q+1) (S9 g3 (q+1) o) af ag ah H' (D.setCell (G w2.heap.size 1) (S9 g3 (q+1) o))):=O (fun g3 o D k1 k2 k3=>by
    have bz:B9 w3 (w4.alloc (.cells (Ey x).toArray 45)):=l.alloc oa _;refine⟨(k2.block _ oe (fun e=>(A.vn _ e.symm).1 rfl)).trans ((DO _ _ _ ao).trans o4),?_⟩;exact A.step oa oa ((Cs _ _).alloc (Be _) (.cells (Dn (f q)) 51)) bq aj bz k2 (by rw[z br];exact k1) (k3.imp id (fun e=>by rw[e];simp)))
   clear aM l ak HF ay az s o4;go_wp2_with (first|(at_builtin;refine Aab _ rfl _ _ 60 rfl w.heap.size 45 i0 (.agg Om) 12 112 underlying60 bd bf bg bh rfl oc va q (Qj (EA E0 f) q) rfl bw (G w4.heap.size 0) 1 1 (Ey x) rfl rfl (H8 (BE w4 _)) (Qi x) oc (by unfold maxLen;omega) oa oe (w4.heap.size+1) od ?_;intro g3 o D B R C cg;obtain⟨o5,a6⟩:=z bx g3 o D B R C;have ca:=O a6;have cn:=Ah o5;have cp:D.cell? (G w2.heap.size 1)=some va:=(by rw[MM D _ 1 _ _ _ o5];rfl);have cq:D.frozen? (G w2.heap.size 1)=false:=(by simp[World.frozen?,o5]);clear B R C a6 o5)|go_in);go_roundw
   case rel=>exact⟨q+1,_,_,_,_,_,oa,oh,ca⟩
   case measure=>simp[intOf];omega
  ·have cb:q=n:=oa;subst cb;obtain⟨c0,c1,c2,_⟩:=d.dm.cells;have zc:=d.dm.lt;have zo:=Ah d.Y3;have zr:=Ah d.cU;obtain⟨fa,a7,rfl⟩:=Ay d.dm.f;obtain⟨ta,tcp,rfl⟩:=Ay d.dm.t;obtain⟨sa,scp,rfl⟩:=Ay d.dm.si;obtain⟨I,L,rfl⟩:=Ay d.row;have o0:wr.cell? (G w2.heap.size 0)=some (.bool true):=by rw[MM wr _ 0 _ _ _ d.Y3];rfl
   have o1:wr.cell? (G w2.heap.size 1)=some (.slice I q L):=by rw[MM wr _ 1 _ _ _ d.Y3];rfl
   have o2:wr.cell? (G w2.heap.size 2)=some (N9):=by rw[MM wr _ 2 _ _ _ d.Y3];rfl
   have o3:wr.cell? (G w2.heap.size 3)=some (N9):=by rw[MM wr _ 3 _ _ _ d.Y3];rfl
   have o4:wr.cell? (G w2.heap.size 4)=some (N9):=by rw[MM wr _ 4 _ _ _ d.Y3];rfl
   have p0:wr.cell? (G w.heap.size 0)=some (.bool false):=by rw[MM wr _ 0 _ _ _ d.cU];rfl
   have p1:wr.cell? (G w.heap.size 1)=some (N9):=by rw[MM wr _ 1 _ _ _ d.cU];rfl
   have p2:wr.cell? (G w.heap.size 2)=some (N9):=by rw[MM wr _ 2 _ _ _ d.cU];rfl
   have p3:wr.cell? (G w.heap.size 3)=some (N9):=by rw[MM wr _ 3 _ _ _ d.cU];rfl
   have p4:wr.cell? (G w.heap.size 4)=some (N9):=by rw[MM wr _ 4 _ _ _ d.cU];rfl
   have fo:∀j,wr.frozen? (G w2.heap.size j)=false:=fun j=>by simp[World.frozen?,d.Y3]
   have fp:∀j,wr.frozen? (G w.heap.size j)=false:=fun j=>by simp[World.frozen?,d.cU]
   have av:w.heap.size≠w2.heap.size:=oa;have aq:w2.heap.size≠w.heap.size:=oa;have ar:Hid (∀w',(∀k,k≠w2.heap.size->k≠w.heap.size->w'.heap[k]?=wr.heap[k]?)->w'.os=wr.os->w'.tape=wr.tape->w'.output=wr.output->w'.heap.size=wr.heap.size->dW w w' c q f (.slice I q L) (.slice fa (Bz E0 f q).nf a7) (.slice ta (Bz E0 f q).nt tcp) (.slice sa (Bz E0 f q).ns scp) H):=O (fun w' hk h1 h2 h3 h4=>
    ⟨d.dm.keep fun k DI=>hk k (d.kB k DI).1 (d.kB k DI).2,Ae d.row fun k e=>hk k (d.vn k e).1 (d.vn k e).2,d.apart,⟨by rw[h1,d.below.os],by rw[h2,d.below.tape],by rw[h3,d.below.output],by rw[h4];exact d.below.size,fun k DI=>(hk k oa oa).trans (d.below.block k DI)⟩⟩)
   clear d A;go_wp2_with fail;refine E1 (v:=.agg #[.bool true,.slice I q L,.slice fa (Bz E0 f q).nf a7,.slice ta (Bz E0 f q).nt tcp,.slice sa (Bz E0 f q).ns scp]) (by simp[results,results21,go_sem,p0,p1,p2,p3,p4,o0,o1,o2,o3,o4,av,aq]) rfl ⟨c,.slice I q L,_,_,_,H,rfl,ar _ ?_ ?_ ?_ ?_ ?_⟩
   ·intro k h1 h2;have g:∀(w:Y) b j v,k≠b->(w.setCell (G b j) v).heap[k]?=w.heap[k]?:=fun w b j v h=>A0 _ _ _ _ (by exact h);rw[g _ _ _ _ h2,g _ _ _ _ h2,g _ _ _ _ h2,g _ _ _ _ h2,g _ _ _ _ h2,g _ _ _ _ h1,g _ _ _ _ h1,g _ _ _ _ h1]
   ·iterate 8 rw[(Le _ _ _).1]
   ·iterate 8 rw[(Le _ _ _).2.1]
   ·iterate 8 rw[(Le _ _ _).2.2.1]
   ·iterate 8 rw[(Le _ _ _).2.2.2]
theorem fZ(v:Vl)(hk:Df v=true)(w:Y):
  C9 265 #[V v.kind v.num v.Ag v.str v.ref] w (R9 (.bool true) w):=by
 obtain⟨_,a⟩:=(T8 v).resolve_right (fun⟨h,_⟩=>by rw[hk]at h;cases h);have b:=O a;have c:(O9 v.Ag v.Ag==some .eq)=true:=Vo hk;clear hk a
 go_enter func265,ntmps265
 go_wp2_with (go_at_call 204;refine m9 (Hx v.kind v.num v.Ag v.str v.ref _) fun w1 hb=>?_;rw[z b];obtain⟨hc,hf⟩:=Bo hb;have hz:=hb.size;simp at hz;have d:w.heap.size<w1.heap.size:=oa)
 go_ret;exact⟨od,((n9).trans (hb.mono od)).alloc oa _⟩
theorem D2.step(h:D2 d){k:Nat}(hk:k<d.n){p:Prop}[Decidable p]{x:Option (Int×Int)}(hN:DF d (k+1)=if p then x else none):p:=
 Decidable.byContradiction fun a=>by have:=gL hk (hN.trans (C3 a));rw[Bw h]at this;cases this
theorem WM(la:T9)(lc:Nat)(ia:T9)(ic:Nat)(xa:T9)(xc:Nat)(d:Dc)(w:Y)(hD:G8 w la ia xa d)(T:Small d)(h2:D2 d):
  C9 243 #[Dv la lc ia ic xa xc d] w (R9 (.bool true) w):=by
 have hn:=T.n;have HD:=O hD;have H:=O h2;clear hD T h2
 go_enter func243,ntmps243
 go_wp2;go_loopw [3,4,11] (fun li l i wr=>∃(k:Nat) (live last:Int),k<=d.n/\i=J k/\l=J last/\li=J live/\DF d k=some (live,last)/\0<=live/\live<=k/\w.heap.size<wr.heap.size/\wr.cell? (y w 4)=some (J d.live)/\wr.cell? (y w 5)=some (J d.turns)/\B9 w wr) (fun _ _ i _=>d.n-(intOf i).toNat)
 case atStart=>exact⟨0,0,0,oa,rfl,rfl,rfl,rfl,oa,oa,od,by simp[go_sem],by simp[go_sem],n9⟩
 case round=>
  obtain⟨k,live,last,hk,rfl,rfl,rfl,j,ad,ae,h,c4,c5,hb⟩:=hrel;have m:=O j;clear j;by_cases o:k<d.n
  case neg=>
   have u:k=d.n:=oa;subst u;have s:=O hb;clear hb;have af:(live==d.live)=true:=by obtain⟨l,e⟩:=z H;rw[z m]at e;simp only[Option.some.injEq,Prod.mk.injEq]at e;simp[e.1]
   go_wp2;go_ret;exact⟨rfl,s⟩
  obtain⟨b,off,rfl,I,hcs⟩:=HD.log.resolve_left oa;obtain⟨e0,e1,e2,e3,U,V,X,e7,e8,Z,v⟩:=(hcs k o).keep (fun q=>hb.cell (p:=(G b q)) I);have s:=O hb;clear hcs hb;by_cases t:(d.L k).turn=0
  ·have x:=O (Jz m t);rw[t]at v;clear t;have hz:=H.step o x;have K:Hid (DF d (k+1)=some (live,last)):=O (x.trans (DD hz));rw[Vs,Vs]at hz;simp only[To,beq_iff_eq]at hz;obtain⟨⟨a0,a1,a2,a3,a4⟩,b0,b1,b2,b3,b4⟩:=hz;rw[a0]at e0;rw[a1]at e1;rw[a4]at U;rw[b0]at V;rw[b1]at X;rw[b4]at Z;have ag:(O9 (d.L k).key.Ag 0==some .eq)=true:=a2;have ah:(O9 (d.L k).val.Ag 0==some .eq)=true:=b2;clear a0 a1 a4 b0 b1 b4 a2 b2;go_wp2;go_roundw
   case rel=>exact⟨k+1,live,last,oa,oh,rfl,rfl,K,oa,oa,oe,(GP _ _ _ (by exact h)).trans c4,(GP _ _ _ (by exact h)).trans c5,s.alloc s.size _⟩
   case measure=>simp[intOf];omega
  ·have x:=O (JA m t);have ai:((d.L k).turn==0)=false:=by simp[t]
   clear t;have M:=H.step o x;have K:Hid (DF d (k+1)=some (live+1,(d.L k).turn)):=O (x.trans (DD M));simp only[PJ,To,AaO,bne_iff_ne,ne_eq]at M;obtain⟨⟨⟨⟨t0,t2⟩,t3⟩,t4⟩,t5⟩:=M;have t1:¬(d.L k).turn<=last:=oa;have P:¬d.turns<(d.L k).turn:=oa;have H3:=O t3;clear t0 t2 t3;obtain⟨W,g⟩:∃W,W=wr.alloc (.cells #[J (d.L k).key.kind,J (d.L k).key.num,F9 (d.L k).key.Ag,.string (d.L k).key.str,J (d.L k).key.ref,J (d.L k).val.kind,J (d.L k).val.num,F9 (d.L k).val.Ag,.string (d.L k).val.str,J (d.L k).val.ref,J (d.L k).turn] 96):=⟨_,rfl⟩;have A:Hid (B9 w W):=O (by rw[g];exact s.alloc s.size _);have c:wr.heap.size<W.heap.size:=by rw[g];simp
   obtain⟨y5,y6,y7,y8,y9,B⟩:W.cell? (y wr 5)=some (J (d.L k).val.kind)/\W.cell? (y wr 6)=some (J (d.L k).val.num)/\W.cell? (y wr 7)=some (F9 (d.L k).val.Ag)/\W.cell? (y wr 8)=some (.string (d.L k).val.str)/\W.cell? (y wr 9)=some (J (d.L k).val.ref)/\W.cell? (y wr 10)=some (J (d.L k).turn):=by rw[g];simp[go_sem]
   have z4:W.cell? (y w 4)=some (J d.live):=by rw[g];exact(GP _ _ _ (by exact h)).trans c4
   have z5:W.cell? (y w 5)=some (J d.turns):=by rw[g];exact(GP _ _ _ (by exact h)).trans c5
   go_wp2_with fail
   rw[<-g];clear g;refine m9 (fZ (d.L k).key H3 _) fun w1 a=>?_;have C:=O (oo A a);have x5:=ol a c y5;have x6:=ol a c y6;have x7:=ol a c y7;have x8:=ol a c y8;have x9:=ol a c y9;have D:=ol a c B;have E:w.heap.size<W.heap.size:=oa;have u4:=ol a E z4;have u5:=ol a E z5;have F:wr.heap.size<w1.heap.size:=At c a.size;clear a y5 y6 y7 y8 y9 B z4 z5 e0 e1 e2 e3 U V X e7 e8 Z v c4 c5;go_wp2_with fail;refine m9 (C2 (d.L k).val.kind (d.L k).val.num (d.L k).val.Ag (d.L k).val.str (d.L k).val.ref _) fun w2 f=>?_;have Q:=O (oo C f);have v5:=ol f F x5;have aj:=ol f F D;have r:w.heap.size<w1.heap.size:=oa;have s4:=ol f r u4;have s5:=ol f r u5;have R:w.heap.size<w2.heap.size:=At r f.size;clear f x5 x6 x7 x8 x9 D u4 u5;have S:Bh (d.L k).val.kind (d.L k).val.num (d.L k).val.Ag (d.L k).val.str (d.L k).val.ref=true:=t4;rw[S];have ak:((d.L k).val.kind==0)=false:=by simp[t5]
   clear t1 P t5;go_wp2;go_roundw
   case rel=>exact⟨k+1,live+1,(d.L k).turn,oa,oh,rfl,oh,K,oa,oa,R,s4,s5,Q⟩
   case measure=>simp[intOf];omega
structure Bx (w:Y) (b:Nat) (la:T9) (lc:Nat) (ia:T9) (ic:Nat) (xa:T9) (xc:Nat) (d:Dc):Prop where
 lt:b<w.heap.size
 c0:w.cell? (G b 0)=some (.slice la d.n lc)
 c1:w.cell? (G b 1)=some (.slice ia d.m ic)
 c2:w.cell? (G b 2)=some (.slice xa d.x xc)
 c3:w.cell? (G b 3)=some (J d.used)
 c4:w.cell? (G b 4)=some (J d.live)
 c5:w.cell? (G b 5)=some (J d.turns)
theorem Bx.below{la:Option Addr}{lc:Nat}{ia:Option Addr}{ic:Nat}{xa:Option Addr}{xc:Nat}(h:Bx w b la lc ia ic xa xc d)(hb:B9 w w'):Bx w' b la lc ia ic xa xc d:=
 have e:∀j,w'.cell? (G b j)=w.cell? (G b j):=fun j=>hb.cell (p:=(G b j)) h.lt
 ⟨At h.lt hb.size,(e 0).trans h.c0,(e 1).trans h.c1,(e 2).trans h.c2,(e 3).trans h.c3,(e 4).trans h.c4,(e 5).trans h.c5⟩
theorem Pv(la:T9)(lc:Nat)(ia:T9)(ic:Nat)(xa:T9)(xc:Nat)(d:Dc)(q:Nat)(w:Y)(hD:G8 w la ia xa d)(c:Small d)(a:q<d.n)(e:(d.L q).turn≠0):
  C9 266 #[Dv la lc ia ic xa xc d,J ((q:Int)+1)] w (R9 (.bool true) w):=by
 have hn:=c.n;have h1:(1:Int)<=(q:Int)+1:=oa;have h2:(q:Int)+1<=d.n:=oa;obtain⟨b,off,rfl,f,hcs⟩:=hD.log.resolve_left oa;have e0:=(hcs q a).tn;have g:((d.L q).turn !=0)=true:=by simp[e]
 clear hD c hcs e
 go_enter func266,ntmps266
 go_wp2;go_ret;exact⟨od,n9⟩
theorem Ic.at(h:Ic d k)(a:d.I k≠0):∃q:Nat,q<d.n/\d.I k=(q:Int)+1/\(d.L q).turn≠0/\(d.L q).key.kind=2/\(d.L q).key.num=(k:Int)+1:=by
 rcases h with h|⟨h1,h2,h3,h4,h5⟩
 ·exact absurd h a
 ·have e:d.at (d.I k)=d.L (d.I k-1).toNat:=rfl;exact⟨(d.I k-1).toNat,oa,oa,h3,h4,h5⟩
theorem Wu(la:T9)(lc:Nat)(ia:T9)(ic:Nat)(xa:T9)(xc:Nat)(d:Dc)(w:Y)(hD:G8 w la ia xa d)(A:Small d)(h2:D2 d)(h3:D3 d):
  C9 244 #[Dv la lc ia ic xa xc d] w (R9 (.bool true) w):=by
 have hn:=A.n;have hm:=A.m;have B:=O hD;have Q:=O A;have R:=O h2;have M:=O h3;clear hD A h2 h3
 go_enter func244,ntmps244
 go_wp2;go_loopw [10] (fun i wr=>∃(k:Nat),k<=d.m/\i=J k/\Bx wr w.heap.size la lc ia ic xa xc d/\B9 w wr) (fun i _=>d.m-(intOf i).toNat)
 case atStart=>exact⟨0,oa,rfl,⟨od,by simp[go_sem],by simp[go_sem],by simp[go_sem],by simp[go_sem],by simp[go_sem],by simp[go_sem]⟩,n9⟩
 case round=>
  obtain⟨k,hk,rfl,hx,hb⟩:=hrel;obtain⟨S,c0,c1,c2,c3,c4,c5⟩:=id hx;have P:=O hx;have t:=O hb;have f:=hb.size;clear hx;by_cases c:k<d.m
  case neg=>
   have u:k=d.m:=oa;subst u;by_cases a:d.m=0
   ·have j:((d.m:Int)==0)=true:=by simp[a]
    clear hb a;go_wp2;go_ret;exact⟨rfl,t⟩
   have j:((d.m:Int)==0)=false:=oe;obtain⟨q,hq⟩:∃q,d.m=q+1:=⟨d.m-1,oa⟩;obtain⟨b,off,rfl,l,hcs⟩:=B.ints.resolve_left a;have e0:=ol hb l (hcs q oa);have T:IntKind.i64.wrap ((d.m:Int)-1)=(q:Int):=by rw[Hi];omega
   have U:q<d.m:=oa;have hd:(d.I q !=0)=true:=by have:=M.2.resolve_left a;rw[hq]at this;simp at this ⊢;omega
   have HQ:=O hq;clear hq a hcs hb;go_wp2;go_ret;exact⟨od,t⟩
  obtain⟨b,off,C,l,hcs⟩:=B.ints.resolve_left oa;subst C;have e0:=ol hb l (hcs k c);have D:=O (B.below hb);clear hcs hb;by_cases a:d.I k=0
  ·rw[a]at e0;clear a;go_wp2;go_roundw
   case rel=>exact⟨k+1,c,oh,P,t⟩
   case measure=>simp[intOf];omega
  have j:(d.I k==0)=false:=by simp[a]
  obtain⟨q,o,hq,r,k1,k2⟩:=(M.1 k c).at a;have g:=(R.pos o r).2;obtain⟨lb,lo,E,v,x⟩:=B.log.resolve_left oa;subst E;obtain⟨e1,e2,e3,e4,V,_,_,_,_,_,_⟩:=(x q o).keep (fun q=>t.cell (p:=(G lb q)) v);have W:lb<wr.heap.size:=At v f;rw[hq]at e0 j;have X:IntKind.i64.wrap (q:Int)=q:=by rw[Hi];omega
  have Z:IntKind.i64.wrap ((k:Int)+1)=(k:Int)+1:=by rw[Hi];omega
  have F:=O r;obtain⟨f1,f2,f3⟩:=Vn g k1;rw[k1]at e1;rw[k2]at e2;rw[f3]at V;clear x a hq g r k1 k2 f3;go_wp2_with fail;refine qr wr ?_;refine N (h:=N (h:=?_));refine GS (fun K hK=>?_);go_simp;refine⟨_,fun w' e=>qk e (Pv (some (G lb lo)) lc (some (G b off)) ic xa xc d q _ (D.below e) Q o F),hK _ ?_⟩;clear hK K;refine N (h:=N (h:=N (h:=N (h:=N (h:=N (h:=N (h:=N (h:=N (h:=N (h:=N (h:=N (h:=?_))))))))))));refine GS (fun K hK=>?_);go_simp;refine⟨_,fun w' e=>qk e (GJ ((k:Int)+1) _),hK _ ?_⟩;clear hK K;refine N (h:=N (h:=?_));refine H7 ?_;intro w2 s;have H:=O (t.trans (s.mono f));have L:=O (P.below s);clear s c0 c1 c2 c3 c4 c5;go_wp2;go_roundw
  case rel=>exact⟨k+1,c,oh,L,H⟩
  case measure=>simp[intOf];omega
theorem TL(la:T9)(lc:Nat)(ia:T9)(ic:Nat)(xa:T9)(xc:Nat)(d:Dc)(w:Y)(a:Small d)(h:D1 d):
  C9 242 #[Dv la lc ia ic xa xc d] w (R9 (.bool true) w):=by
 have hn:=a.n;obtain⟨h1,h2,h3,h4,h5⟩:=h;have b:IntKind.i64.wrap (2*d.live)=2*d.live:=by rw[Hi];omega
 have d1:¬d.live<0:=oa;have d2:¬500<d.live:=oa;have d3:¬d.turns<0:=oa;have d4:¬1000000000000<d.turns:=oa;by_cases c:(d.n:Int)<=8
 case' neg=>have d6:decide ((d.n:Int)<=2*d.live)=true:=oe
 all_goals
  clear a h1 h2 h3 h4 h5
  go_enter func242,ntmps242
  go_wp2;go_ret;exact⟨od,(n9).alloc od _⟩
theorem Uo.at(h:Uo d k)(a:d.X k≠0)(h1:d.X k≠-1):∃q:Nat,q<d.n/\d.X k=(q:Int)+1/\(d.L q).turn≠0/\¬AA d.m (d.L q).key:=by
 rcases h with h|h|⟨g1,g2,g3,g4⟩
 ·exact absurd h a
 ·exact absurd h h1
 ·exact⟨(d.X k-1).toNat,oa,oa,g3,g4⟩
theorem R6(la:T9)(lc:Nat)(ia:T9)(ic:Nat)(xa:T9)(xc:Nat)(d:Dc)(w:Y)(hD:G8 w la ia xa d)(l:Small d)(h4:D4 d):
  C9 245 #[Dv la lc ia ic xa xc d] w (R9 (.bool true) w):=by
 have hn:=l.n;have hm:=l.m;have hx:=l.x;have E:=O hD;have HS:=O l;have F:=O h4;have hsz:=h4.1;clear hD l h4
 go_enter func245,ntmps245
 rcases hsz with h0|hsz
 case' inl=>
  have H:((d.x:Int)!=0)=false:=by simp[h0]
  clear h0;go_wp2_with fail
 case' inr=>
  have H:((d.x:Int)!=0)=true:=oe;have I:¬(d.x:Int)<8:=oa;have M:=hsz.2.1;have ag:¬(4000:Int)<d.x:=oa;have P:=O ((cP hsz.2.1).2 hsz.2.2);clear hsz;go_wp2_with (go_at_call 267;refine(OW d.x M _).mono ?_;rintro e w1 ⟨rfl,rfl⟩;rw[z P])
 all_goals
  go_loopw [4,31] (fun u i wr=>∃k:Nat,k<=d.x/\i=J k/\u=J (Ep d k)/\Bx wr w.heap.size la lc ia ic xa xc d/\B9 w wr) (fun _ i _=>d.x-(intOf i).toNat)
  case atStart=>exact⟨0,oa,rfl,rfl,⟨od,by simp[go_sem],by simp[go_sem],by simp[go_sem],by simp[go_sem],by simp[go_sem],by simp[go_sem]⟩,n9⟩
  case round=>
   obtain⟨k,hk,rfl,rfl,hx,hb⟩:=hrel;obtain⟨ah,c0,c1,c2,c3,c4,c5⟩:=id hx;have Q:=O hx;have o:=O hb;have f:=hb.size;have ai:=XB d k;clear hx;by_cases a:k<d.x
   case neg=>
    have r:k=d.x:=oa;subst r;have I:((Ep d d.x:Int)==d.used)=true:=by simp;exact F.2.2.1
    have aj:decide (2*(Ep d d.x:Int)<=d.x)=true:=by have:=F.2.2.2;simp;omega
    clear hb;go_wp2;go_ret;exact⟨od,o⟩
   obtain⟨b,off,R,S,hcs⟩:=E.index.resolve_left oa;subst R;have e0:=ol hb S (hcs k a);have T:=O (E.below hb);clear hcs hb;by_cases g:d.X k=0
   ·have D:Hid (Ep d (k+1)=Ep d k):=O (by show(if d.X k=0 then _ else _)=_;rw[DD g]);rw[g]at e0;clear g;go_wp2;go_roundw
    case rel=>exact⟨k+1,a,oh,by rw[z D],Q,o⟩
    case measure=>simp[intOf];omega
   have D:Hid (Ep d (k+1)=Ep d k+1):=O (by show(if d.X k=0 then _ else _)=_;rw[C3 g]);by_cases s:d.X k=-1
   ·rw[s]at e0;clear g s;go_wp2;go_roundw
    case rel=>exact⟨k+1,a,oh,by rw[z D];go_num,Q,o⟩
    case measure=>simp[intOf];omega
   have U:(d.X k==0)=false:=by simp[g]
   have V:(d.X k==-1)=false:=by simp[s]
   obtain⟨q,t,hq,v,A⟩:=(F.2.1 k a).at g s;obtain⟨lb,lo,W,B,C⟩:=E.log.resolve_left oa;subst W;obtain⟨e1,e2,e3,e4,e5,_,_,_,_,_,_⟩:=(C q t).keep (fun q=>o.cell (p:=(G lb q)) B);have ak:lb<wr.heap.size:=At B f;rw[hq]at e0 U V;have ao:IntKind.i64.wrap (q:Int)=q:=by rw[Hi];omega
   have Z:=O v;have ad:=O (Bq A);clear C g s hq v A;go_wp2_with fail;refine qr wr ?_;refine N (h:=N (h:=?_));refine GS (fun K hK=>?_);go_simp;refine⟨_,fun w' c=>qk c (Pv (some (G lb lo)) lc ia ic (some (G b off)) xc d q _ (T.below c) HS t Z),hK _ ?_⟩;clear hK K;refine N (h:=N (h:=N (h:=N (h:=N (h:=N (h:=N (h:=N (h:=N (h:=N (h:=N (h:=N (h:=?_))))))))))));refine N (h:=N (h:=?_));refine GS (fun K hK=>?_);go_simp;apply Exists.intro;refine And.intro (fun w' c=>?_) (hK _ ?_)
   ·refine(((z ad)▸Co (d.L q).key d.m _ hm)).mono ?_;rintro e aq ⟨rfl,hb⟩;exact⟨rfl,oo c hb⟩
   clear hK K;refine N (h:=?_);refine H7 ?_;intro w2 j;have ae:=O (o.trans (j.mono f));have af:=O (Q.below j);clear j c0 c1 c2 c3 c4 c5;go_wp2;go_roundw
   case rel=>exact⟨k+1,a,oh,by rw[z D];go_num,af,ae⟩
   case measure=>simp[intOf];omega
section
open Go.RowKit Go.Shelf
attribute [local go_sem] Oper.semAt_some
theorem Qh(T:World->Prop)(aq:EM T)(la:T9)(lc:Nat)(ia:T9)(ic:Nat)(xa:T9)(xc:Nat)(d:Dc)(H:Nat->Nat)(w:Y)(hT:T w)(hD:G8 w la ia xa d)(hS:Small d)(h2:D2 d)(h3:D3 d)(h4:D4 d)(hH:∀i,i<d.n->(d.L i).turn≠0->O7 T (d.L i).key (H i))(h5:D5 d H):
  C9 246 #[Dv la lc ia ic xa xc d] w fun e w'=>e=.returned (.bool true)/\Below w.heap.size w w':=by
 have hm:=hS.m;have ar:Below w.heap.size w ((w.alloc (.cells #[.slice la d.n lc,.slice ia d.m ic,.slice xa d.x xc,J d.used,J d.live,J d.turns] 322)).alloc (.cells #[.bool false] 4)):=(n9).alloc od _;have F:=O ar;clear ar;refine(Aac (n:=20)).1 ?_;refine callsIn_of_wp_marks func246 rfl trivial ?_ rfl;simp only[ntmps246,Aau,Aae,XN,Nat.reduceAdd,Nat.reduceSub,Aam,Aal,Aav,Aas,W9,Aar];have af:=O aq;have HT:=O hT;have HD:=O hD;have HS:=O hS;have H2:=O h2;have H3:=O h3;have H4:=O h4;have HH:=O hH;have H5:=O h5;clear aq hT hD hS h2 h3 h4 hH h5
 gi_wp2_with fail
 refine⟨trivial,?_⟩;refine(Aac.2 (GQ la lc ia ic xa xc d _ (HD.below F) HS H3 H4)).mono ?_;rintro e w1 ⟨⟨bk,R0,R1,R2,E,S,rfl,k⟩,M⟩;obtain⟨b,au⟩:=Bo M;have bf:w.heap.size+2<=w1.heap.size:=by have:=M.size;simp at this;omega
 have y0:w.heap.size<w1.heap.size:=oa;have y1:w.heap.size+1<w1.heap.size:=oa;have a0:w1.cell? (G w.heap.size 0)=some (.slice la d.n lc):=by rw[b _ _ oe];simp[go_sem]
 have a1:w1.cell? (G w.heap.size 1)=some (.slice ia d.m ic):=by rw[b _ _ oe];simp[go_sem]
 have a2:w1.cell? (G w.heap.size 2)=some (.slice xa d.x xc):=by rw[b _ _ oe];simp[go_sem]
 have a3:w1.cell? (G w.heap.size 3)=some (J d.used):=by rw[b _ _ oe];simp[go_sem]
 have a4:w1.cell? (G w.heap.size 4)=some (J d.live):=by rw[b _ _ oe];simp[go_sem]
 have a5:w1.cell? (G w.heap.size 5)=some (J d.turns):=by rw[b _ _ oe];simp[go_sem]
 have b0:w1.cell? (G (w.heap.size+1) 0)=some (.bool false):=by rw[b _ _ od];simp[go_sem]
 have b1:w1.frozen? (G (w.heap.size+1) 0)=false:=by rw[au _ _ od];simp[go_sem]
 have ag:=O (oo F M);have o:=O k;clear M b au k
 gi_wp2_with fail
 refine⟨trivial,?_⟩;refine(Aac.2 (N7 la lc ia ic xa xc d _ (HD.below (ag.alloc oa _)) HS H3 H4)).mono ?_;rintro e w2 ⟨⟨st,rfl,av⟩,P⟩;have aw:w1.heap.size<w2.heap.size:=by have:=P.size;simp at this;omega
 have ah:=O (((Cs w1.heap.size w1).alloc (Be _) _).trans (P.mono od));have m2:w2.cell? (G w1.heap.size 0)=some (Q9 bk):=by rw[(Bo P).1 _ _ od];simp[go_sem]
 have ax:=O av;clear av P a0 a1 a2 a3 a4 a5
 gi_wp2_with fail
 refine⟨trivial,?_⟩;refine(Aac.2 (Ia bk R0 R1 R2 E S d _ (o.below (ah.alloc oa _)) HS)).mono ?_;rintro e w3 ⟨rfl,Q⟩;have ay:w2.heap.size<w3.heap.size:=by have:=Q.size;simp at this;omega
 have V:w1.heap.size<w3.heap.size:=oa;have ai:=O (((Cs w2.heap.size w2).alloc (Be _) _).trans (Q.mono od));have m3:w3.cell? (G w1.heap.size 0)=some (Q9 bk):=ol ai aw m2;have s3:w3.cell? (G w2.heap.size 0)=some (S9 st d.n d.n):=by rw[(Bo Q).1 _ _ od];simp[go_sem]
 clear Q m2
 gi_wp2_with fail
 refine⟨trivial,?_⟩;refine(Aac.2 (GL bk _)).mono ?_;rintro e w4 ⟨rfl,rfl⟩
 gi_wp2_with fail
 obtain⟨u,hu⟩:∃u,u=(w3.alloc (.cells #[J 2,J ((d.m:Int)+1),F9 0,E9,J 0] 43)).alloc (.cells #[Q9 bk] 289):=⟨_,rfl⟩;rw[<-hu];have zu:u.heap.size=w3.heap.size+2:=by rw[hu];simp
 have R:Below w3.heap.size w3 u:=by rw[hu];exact(n9).alloc od _
 obtain⟨n0,n1,n2,n3,n4,az⟩:u.cell? (G w3.heap.size 0)=some (J 2)/\u.cell? (G w3.heap.size 1)=some (J ((d.m:Int)+1))/\u.cell? (G w3.heap.size 2)=some (F9 0)/\u.cell? (G w3.heap.size 3)=some (E9)/\u.cell? (G w3.heap.size 4)=some (J 0)/\u.cell? (G (w3.heap.size+1) 0)=some (Q9 bk):=by rw[hu];simp[go_sem]
 clear hu;have aj:Below w2.heap.size w2 u:=ai.trans (R.mono oa);have t:Below w1.heap.size w1 u:=ah.trans (aj.mono oa);have aM:Below w.heap.size w u:=ag.trans (t.mono oa);have mu:=ol R V m3;have su:=ol R ay s3;have ru:=ol t y1 b0;have fu:=om t y1 b1;have U:=o.below t;have bg:B1 u st d.n (fun j=>EH d.I j d.m+EH d.X j d.x):=ax.below aj;have Z:w1.heap.size<u.heap.size:=oa;have ad:w2.heap.size<u.heap.size:=oa;have f:w3.heap.size<u.heap.size:=oa;have v:w.heap.size+1<u.heap.size:=oa;clear aj t R m3 s3 b0 b1 o ax ah ai ag F HD bf y0 y1 aw ay V;generalize w1.heap.size=M1 at*;generalize w2.heap.size=M2 at*;refine wpIn_rangeFunc_ownF rfl oc (gf:=248) (lb:=#[Q9 (w3.heap.size+1)]) rfl trivial (enters_of func248 og rfl)
  (J5 19 oc bk R0 R1 R2 (w3.heap.size+1) u.heap.size E S d u U HS U.l0 (fun i hi=>(U.Cr i hi).lt) az) belowK_t (belowK_b (Be _)) (Cs _ _) (fun _=>rfl)
  (fun pre W=>Below u.heap.size u W)
  (fun c pre W=>False)
  (ownFrom_below (Be _) (Be _))
  (fun c=>Own.from (fun s A B row hs hg hr=>hs) _)
  (Cs _ _)
  ?a1 ?assign ?body ?done ?stop
 case assign=>
  intro l x W K hK
  gi_wp2
  exact hK
 case body=>
  rintro l pre ⟨i,hi,ht⟩ W a _;have k:=U.below a;have m0:=ol a Z mu;have s0:=ol a ad su;have g0:=ol a f n0;have g1:=ol a f n1;have g2:=ol a f n2;have g3:=ol a f n3;have g4:=ol a f n4;have ak:=bg.below a;have r0:=ak.cell hi;have b2:=ak.lt;obtain⟨b3,k0,k1,k2,k3,k4,_,_,_,_,_,_,pl⟩:=k.Cr i hi;have b4:M1<W.heap.size:=At Z a.size;have b5:M2<W.heap.size:=At ad a.size;have b6:w3.heap.size<W.heap.size:=At f a.size;have b7:w.heap.size+1<W.heap.size:=At v a.size;have a6:=ol a v ru;have bh:=om a v fu;have b8:=HS.n;have o:=O k;have bj:=O (af _ _ HT (aM.trans (a.mono oa)));have bm:=O (HH i hi ht);have bw:=(H2.pos hi ht).2;clear k ak mu su n0 n1 n2 n3 n4 az;obtain⟨b,a7,a8⟩:=z H5 i hi ht;rw[b]at r0;have bx:(((1:Nat):Int)!=1)=false:=rfl;obtain⟨bb,bc⟩:=Ii H3 H4 (d.L i).key (H i);have g:=fun W' bn bp=>IA T af bk R0 R1 R2 E S d (d.L i).key (H i) bm W' bn bp HS H3 H4;rw[a7]at bb bc g;have ae:=O g;clear g b a7;have bq:=O a8;clear a8
  gi_wp2
  refine wpIn_region_quiet (C:=fun w'=>Below W.heap.size W w') og og og ((Cs _ _).drew) ?_;show wpQuiet _ _ _ _ [_,_,_,_,_,_,_,_,_,_,_,_,_,_,_,_,_,_,_,_,_,_,_,_,_,_,_,_] _;refine N (h:=N (h:=N (h:=N (h:=N (h:=N (h:=N (h:=N (h:=N (h:=N (h:=N (h:=N (h:=?_))))))))))));refine N (h:=N (h:=N (h:=?_)));refine GS (fun K hK=>?_);go_simp;refine⟨_,fun w' q=>qk q ((ae _ (af _ _ bj q) (o.below q))),hK _ ?_⟩;clear hK K;refine N (h:=?_);refine GS (fun K hK=>?_);go_simp;refine⟨.bool false,fun w' q=>?_,hK _ ?_⟩
  ·rw[cG ((z o).below q) bb bc hi];simp
  clear hK K;refine N (h:=N (h:=N (h:=N (h:=N (h:=N (h:=N (h:=N (h:=?_))))))));refine GS (fun K hK=>?_);go_simp;refine⟨.bool false,fun w' q=>?_,hK _ ?_⟩
  ·have br:=z bq;by_cases q1:(d.L i).key.kind=2
   ·have q2:¬(d.L i).key.num=(d.m:Int)+1:=fun h=>br ⟨q1,h⟩;simp only[q1,q2,Aaw,Tn];exact⟨trivial,trivial⟩
   ·simp only[q1,Tn];exact⟨trivial,trivial⟩
  clear hK K;refine N (h:=?_);refine H7 ?_;intro w5 ao;have HK:=O (CT ao);have bd:=O ao;clear ao
  gi_wp2
  exact⟨HK,bd.mono a.size,oo a bd⟩
 case done=>
  rintro D ys W hD bt a hK;have a6:=ol a v ru;have bh:=om a v fu;clear bt
  gi_wp2
  have hK':=(UP W (G (w.heap.size+1) 0) (.bool true)).same D _ hK rfl;refine⟨od,.inl ⟨_,_,rfl,AaU hK',?_⟩⟩;have bu:=Lo (NX W (G (w.heap.size+1) 0) (.bool true) (by rw[a6];rfl)) (I9 _ D (.deferred none)) (fun r e=>by cases e;exact⟨_,hK',rfl⟩);refine⟨.bool true,?_,rfl,((aM.trans (a.mono oa)).setCell (p:=(G (w.heap.size+1) 0)) (by show w.heap.size<=w.heap.size+1;omega) _).trans (belowK_b (w:=w) (Be _) _ D _ _ oa hK' rfl rfl)⟩;simp[results,f246,go_sem,bu]
 case stop=>exact fun D c pre W hD bz h hK=>h.elim
end
section
open Go.RowKit Go.Shelf
theorem Hy(T:World->Prop)(b:EM T)(la:T9)(lc:Nat)(ia:T9)(ic:Nat)(xa:T9)(xc:Nat)(d:Dc)(H:Nat->Nat)(w:Y)(p:T w)(hD:G8 w la ia xa d)(q:Small d)(r:∀i,i<d.n->Df (d.L i).key=true->O7 T (d.L i).key (H i))(s:C6 d H=0):
  C9 212 #[Dv la lc ia ic xa xc d] w (R9 (J 0) w):=by
 have c:=O b;have B:=O p;have C:=O hD;have f:=O q;have D:=O r;obtain⟨h1,h2,h3,h4,h5⟩:=Kp s;have E:=O h1;have j:=O h2;have t:=O h3;have v:=O h4;have F:=O h5;clear b p hD q r s h1 h2 h3 h4 h5
 go_enter func212,ntmps212
 go_wp2_with fail
 obtain⟨u,hu⟩:∃u,u=(((w.alloc (.cells #[.slice la d.n lc,.slice ia d.m ic,.slice xa d.x xc,J d.used,J d.live,J d.turns] 92)).alloc (.cells #[.slice la d.n lc,.slice ia d.m ic,.slice xa d.x xc,J d.used,J d.live,J d.turns] 322)).alloc (.cells #[.func (.func 242) #[Dv la lc ia ic xa xc d] #[],.func (.func 243) #[Dv la lc ia ic xa xc d] #[],.func (.func 244) #[Dv la lc ia ic xa xc d] #[],.func (.func 245) #[Dv la lc ia ic xa xc d] #[],.func (.func 246) #[Dv la lc ia ic xa xc d] #[]] 323)):=⟨_,rfl⟩;rw[<-hu];have g:Hid (B9 w u):=O (by rw[hu];exact((n9).alloc od _).alloc oe _);clear hu;have i0:=oE (Dv la lc ia ic xa xc d);have K:=oG (Dv la lc ia ic xa xc d);have i2:=oH (Dv la lc ia ic xa xc d);have i3:=oI (Dv la lc ia ic xa xc d);have i4:=oJ (Dv la lc ia ic xa xc d);go_loopw [21] (fun i wr=>∃k:Nat,k<=5/\i=J k/\B9 w wr) (fun i _=>5-(intOf i).toNat)
 case atStart=>exact⟨0,oa,rfl,g⟩
 case round=>
  clear g;obtain⟨k,hk,rfl,hb⟩:=hrel;have l:=O hb;have hD:=C.below hb;obtain rfl|rfl|rfl|rfl|rfl|rfl:k=5\/k=0\/k=1\/k=2\/k=3\/k=4:=oa
  ·clear hb hD;go_wp2_with fail;go_ret;exact⟨rfl,l⟩
  case' inr.inl=>have a:=TL la lc ia ic xa xc d wr f E
  case' inr.inr.inl=>have a:=WM la lc ia ic xa xc d wr hD f j
  case' inr.inr.inr.inl=>have a:=Wu la lc ia ic xa xc d wr hD f j t
  case' inr.inr.inr.inr.inl=>have a:=R6 la lc ia ic xa xc d wr hD f v
  case' inr.inr.inr.inr.inr=>have a:=Qh T c la lc ia ic xa xc d H wr (c _ _ B hb) hD f j t v (fun i hi I=>D i hi (j.pos hi I).2) F
  all_goals
   have A:=O a;clear a hb hD;go_wp2_with fail;refine A.mono ?_;rintro e w2 ⟨rfl,h⟩;have o:=O (oo l h);clear h A;go_wp2_with fail;go_roundw
   case rel=>exact⟨_,oc,rfl,o⟩
   case measure=>simp[intOf]
end
section
open Go.RowKit Go.Shelf
theorem YE(la:T9)(lc:Nat)(ia:T9)(ic:Nat)(xa:T9)(xc:Nat)(d:Dc)(v:Vl)(f:Vl)(w:Y)(hA:G8 w la ia xa d)(hS:Small d)(hW:VQ d)(hk:J3 v.kind v.num v.Ag v.str v.ref=KV 0 f.kind f.num f.Ag f.str f.ref)(hh:O7 BH f (hN f))(l:C6 d (hD d)=0)(hT:BH w):
  C9 354 #[Dv la lc ia ic xa xc d,Gf v] w (R9 (Gf (TW d 0 f)) w):=by
 have HA:=O hA;have Z:=O hS;have HW:=O hW;have ad:=O hk;have ae:=O hh;have HT:=O hT;have HR:Hid (TW d 0 f=Fe d (Aw d f (hN f))):=O (DD ⟨l,rfl⟩);have i:=O (Kp l);have af:=O l;clear hA hS hW hk hh hT l;have H:B9 w (((w.alloc (.cells #[.slice la d.n lc,.slice ia d.m ic,.slice xa d.x xc,J d.used,J d.live,J d.turns] 92)).alloc (.cells (ow v) 43)).alloc (.cells #[J 0,J 0,F9 0,E9,J 0] 43)):=((n9).alloc od _).alloc oe _;have I:=O H;clear H
 go_enter func354,ntmps354
 go_wp2_with fail
 refine m9 (Hx v.kind v.num v.Ag v.str v.ref _) fun w1 r=>?_;rw[z ad];obtain⟨c,K⟩:=Bo r;have ag:=r.size;simp at ag;have D:w.heap.size<w1.heap.size:=oa;have F:w.heap.size+1+1<w1.heap.size:=oa;have q0:w1.cell? (y w 0)=some (.slice la d.n lc):=by rw[c _ _ oe];simp[go_sem]
 have q1:w1.cell? (y w 1)=some (.slice ia d.m ic):=by rw[c _ _ oe];simp[go_sem]
 have q2:w1.cell? (y w 2)=some (.slice xa d.x xc):=by rw[c _ _ oe];simp[go_sem]
 have q3:w1.cell? (y w 3)=some (J d.used):=by rw[c _ _ oe];simp[go_sem]
 have q4:w1.cell? (y w 4)=some (J d.live):=by rw[c _ _ oe];simp[go_sem]
 have q5:w1.cell? (y w 5)=some (J d.turns):=by rw[c _ _ oe];simp[go_sem]
 have r0:w1.cell? (Z9 w 0)=some (J 0):=by rw[c _ _ od];simp[go_sem]
 have r1:w1.cell? (Z9 w 1)=some (J 0):=by rw[c _ _ od];simp[go_sem]
 have r2:w1.cell? (Z9 w 2)=some (F9 0):=by rw[c _ _ od];simp[go_sem]
 have r3:w1.cell? (Z9 w 3)=some (E9):=by rw[c _ _ od];simp[go_sem]
 have r4:w1.cell? (Z9 w 4)=some (J 0):=by rw[c _ _ od];simp[go_sem]
 have fr:∀o,w1.frozen? (Z9 w o)=false:=fun o=>by rw[K _ _ od];simp[go_sem]
 have ah:=O (oo I r);have h:Hid (∀o,B9 w (w1.alloc o)):=O (fun o=>ah.alloc oa _);clear r c K;go_wp2_with fail;refine m9 (Hy BH Bg la lc ia ic xa xc d (hD d) _ (Bg _ _ HT (h _)) (HA.below (h _)) Z (fun q hq hk=>lN hk (HW q hq).1) af) fun w2 s=>?_;obtain⟨a,M⟩:=Bo s;have ai:=s.size;simp at ai;have z0:w.heap.size<w2.heap.size:=oa;have z2:w.heap.size+1+1<w2.heap.size:=oa;have z3:w1.heap.size<w2.heap.size:=oa;have ay:w2.cell? (y w 0)=some (.slice la d.n lc):=by rw[a _ _ oe,GP _ _ _ (by exact D)];exact q0
 have az:w2.cell? (y w 1)=some (.slice ia d.m ic):=by rw[a _ _ oe,GP _ _ _ (by exact D)];exact q1
 have aM:w2.cell? (y w 2)=some (.slice xa d.x xc):=by rw[a _ _ oe,GP _ _ _ (by exact D)];exact q2
 have a6:w2.cell? (y w 3)=some (J d.used):=by rw[a _ _ oe,GP _ _ _ (by exact D)];exact q3
 have a7:w2.cell? (y w 4)=some (J d.live):=by rw[a _ _ oe,GP _ _ _ (by exact D)];exact q4
 have a8:w2.cell? (y w 5)=some (J d.turns):=by rw[a _ _ oe,GP _ _ _ (by exact D)];exact q5
 have aj:w2.cell? (Z9 w 0)=some (J 0):=by rw[a _ _ oe,GP _ _ _ (by exact F)];exact r0
 have ak:w2.cell? (Z9 w 1)=some (J 0):=by rw[a _ _ oe,GP _ _ _ (by exact F)];exact r1
 have ao:w2.cell? (Z9 w 2)=some (F9 0):=by rw[a _ _ oe,GP _ _ _ (by exact F)];exact r2
 have aq:w2.cell? (Z9 w 3)=some (E9):=by rw[a _ _ oe,GP _ _ _ (by exact F)];exact r3
 have ar:w2.cell? (Z9 w 4)=some (J 0):=by rw[a _ _ oe,GP _ _ _ (by exact F)];exact r4
 have k0:w2.cell? (y w1 0)=some (J 0):=by rw[a _ _ od];simp[go_sem]
 have k1:w2.cell? (y w1 1)=some (J f.kind):=by rw[a _ _ od];simp[go_sem]
 have k2:w2.cell? (y w1 2)=some (J f.num):=by rw[a _ _ od];simp[go_sem]
 have k3:w2.cell? (y w1 3)=some (F9 f.Ag):=by rw[a _ _ od];simp[go_sem]
 have k4:w2.cell? (y w1 4)=some (.string f.str):=by rw[a _ _ od];simp[go_sem]
 have k5:w2.cell? (y w1 5)=some (J f.ref):=by rw[a _ _ od];simp[go_sem]
 have au:∀o,w2.frozen? (Z9 w o)=false:=fun o=>by rw[M _ _ oe];exact om ((Cs w1.heap.size w1).alloc (Be _) _) F (fr o)
 have t:=O (oo (h _) s);clear s a M fr q0 q1 q2 q3 q4 q5 r0 r1 r2 r3 r4;have P:=O (HA.below t.drew);have Q:=O (Bg _ _ HT t.drew);have j:=O t.drew;go_wp2_with fail
 go_region_law (first
  |(go_simp;go_at_call 213;refine(GQ la lc ia ic xa xc d _ P Z i.d3 i.d4).mono ?_;rintro e w3 ⟨⟨bk,R0,R1,R2,E,S,rfl,R⟩,b⟩;have n1:=ol b z3 k1;have n2:=ol b z3 k2;have n3:=ol b z3 k3;have n4:=ol b z3 k4;have n5:=ol b z3 k5;have m0:=ol b z2 aj;have m1:=ol b z2 ak;have m2:=ol b z2 ao;have m3:=ol b z2 aq;have m4:=ol b z2 ar;have mf:∀o,w3.frozen? (Z9 w o)=false:=fun o=>om b z2 (au o);have x2:=At z2 b.size;have x3:=At z3 b.size;have T:=O (Bg _ _ Q b);have u:=O R;have A:=O (oo j b);clear b R)
  |(go_simp;go_at_call 263;refine m9 (IA BH Bg bk R0 R1 R2 E S d f (hN f) ae _ T u Z i.d3 i.d4) fun w4 g=>?_;have s0:=ol g x2 m0;have s1:=ol g x2 m1;have s2:=ol g x2 m2;have s3:=ol g x2 m3;have s4:=ol g x2 m4;have sf:∀o,w4.frozen? (Z9 w o)=false:=fun o=>om g x2 (mf o);have x4:=At x2 g.size;have U:=O (u.below g);have av:=O (oo A g);clear g))
 all_goals
  clear u A T P Q j m0 m1 m2 m3 m4 n1 n2 n3 n4 n5 mf x2 x3;obtain⟨V,W⟩:=Ii i.d3 i.d4 f (hN f);generalize aw:Aw d f (hN f)=pl at HR V W ⊢;clear aw;have hn:=Z.n;by_cases X:pl<0
  focus
   have B:Hid (TW d 0 f=default):=O (HR.trans (C3 oa));have k:CV E pl=none:=C3 oa;rw[k];clear k;go_wp2;refine E1 (v:=.agg #[J 0,J 0,F9 0,E9,J 0]) (by simp[results,results354,go_sem,s0,s1,s2,s3,s4]) rfl ⟨by rw[z B];rfl,?_⟩
  rotate_left
  focus
   obtain⟨q,hq⟩:∃q:Nat,pl=(q:Int):=⟨pl.toNat,oa⟩;subst hq;have ax:q<d.n:=oa;have B:Hid (TW d 0 f=(d.L q).val):=O (HR.trans (by unfold Fe;rw[DD oa];rfl));have k:CV E (q:Int)=some (G (E q) 0):=by unfold CV;rw[DD oa];rfl
   rw[k];have C:=U.Cr q ax;have e0:=C.v0;have e1:=C.v1;have e2:=C.v2;have e3:=C.v3;have e4:=C.v4;have el:=C.lt;clear k C V W X;go_wp2;refine E1 (v:=Gf (d.L q).val) (by simp[results,results354,go_sem,s0,s1,s2,s3,s4]) rfl ⟨by rw[z B],?_⟩
  rotate_left;all_goals
   iterate 5 (refine PC ?_ (by show w.heap.size<=w.heap.size+1+1;omega) _)
   exact av
end
def I2(w:Y)(s:AK)(b0:Nat)(B:Nat->Nat):Prop:=∃Z M,Cn w s.F b0 s.nf B Z M/\∀i,i<s.nf->Z i=i
theorem I2.below{B:Nat->Nat}(h:I2 w s b0 B)(hb:B9 w w'):I2 w' s b0 B:=by
 obtain⟨Z,M,h1,h2⟩:=h;exact⟨Z,M,h1.below hb,h2⟩
theorem I2.place{B:Nat->Nat}(h:I2 w s b0 B)(a:Ax s.nf s.F=0){j:Nat}(hj:j<s.nf)(key:ByteArray):
  C9 181 #[Q9 (B j),.string key] w (R9 (J (BO s.F j key)) w):=by
 obtain⟨Z,M,h1,h2⟩:=h;refine(Ih w s.F b0 s.nf B Z M h1 h2 (AB a).2.1 (AB a).2.2.1 j hj key).mono ?_;rintro e w' ⟨⟨b,_⟩,rfl⟩;exact⟨b,Cs _ _⟩
theorem I2.cell{B:Nat->Nat}(h:I2 w s b0 B){j:Nat}(hj:j<s.nf):B j<w.heap.size/\w.cell? (G (B j) 0)=some (J (j:Int))/\b0<=B j:=by
 obtain⟨Z,M,h1,h2⟩:=h;have:=Du h1 h2 hj;exact⟨by have:=ID _ _ this.1;exact this,this.1,h1.base j hj⟩
theorem Jh(A:Ad)(t:Tb)(s:AK)(b0:Nat)(B:Nat->Nat)(j:Nat)(k:Vl)(w:Y)(hN:I2 w s b0 B)(hf:Ax s.nf s.F=0)(hj:j<s.nf)(hs:t.shape=j)(r:t.nv=nf s.F j)(P:I4 w A.va t.nv t.V):
  C9 342 #[CA (B j) A t,Gf k] w (R9 (Gf (Cm s.F t k)) w):=by
 obtain⟨W,b⟩:∃W,W=((w.alloc (.cells #[.slice A.va t.nv A.vc,.slice A.la t.d.n A.lc,.slice A.ia t.d.m A.ic,.slice A.xa t.d.x A.xc,J t.d.used,J t.d.live,J t.d.turns,Q9 (B j)] 236)).alloc (.cells (ow k) 43)).alloc (.cells #[J 0,J 0,F9 0,E9,J 0] 43):=⟨_,rfl⟩;have f:B9 w W:=by rw[b];exact((n9).alloc od _).alloc oe _
 have K:W.heap.size=w.heap.size+1+1+1:=by rw[b];simp
 obtain⟨x0,S,k0,k3⟩:W.cell? (y w 0)=some (.slice A.va t.nv A.vc)/\W.cell? (y w 7)=some (Q9 (B j))/\W.cell? (Y9 w 0)=some (J k.kind)/\W.cell? (Y9 w 3)=some (.string k.str):=by rw[b];simp[go_sem]
 have a:W.heap[w.heap.size+1+1]?=some (.cells #[J 0,J 0,F9 0,E9,J 0] 43 (0,0)):=by
  rw[b];have h1:=BE ((w.alloc (.cells #[.slice A.va t.nv A.vc,.slice A.la t.d.n A.lc,.slice A.ia t.d.m A.ic,.slice A.xa t.d.x A.xc,J t.d.used,J t.d.live,J t.d.turns,Q9 (B j)] 236)).alloc (.cells (ow k) 43)) (.cells #[J 0,J 0,F9 0,E9,J 0] 43);simpa using h1
 have T:=O (P.below f rfl);have U:=O (hN.below f);have Q:=O hf;have q:=O (And.intro hs r);have g:=O f;have l0:w.heap.size<W.heap.size:=oa;have l1:w.heap.size+1<W.heap.size:=oa;have l2:w.heap.size+1+1<W.heap.size:=oa;clear P hN hf hs r f K;by_cases hk:k.kind=4
 case neg=>
  have R:(k.kind !=4)=true:=by simpa using hk
  have u:Hid (Cm s.F t k=KA):=O (by unfold Cm;rw[C3 (by rw[(z q).1];omega),C3 (fun h=>hk h.1)]);have C:=O a;have r0:W.cell? (Z9 w 0)=some (J 0):=by simp[World.cell?,a]
  have r1:W.cell? (Z9 w 1)=some (J 0):=by simp[World.cell?,a]
  have r2:W.cell? (Z9 w 2)=some (F9 0):=by simp[World.cell?,a]
  have H:W.cell? (Z9 w 3)=some (E9):=by simp[World.cell?,a]
  have I:W.cell? (Z9 w 4)=some (J 0):=by simp[World.cell?,a]
  have rf:∀o,W.frozen? (Z9 w o)=false:=fun o=>by simp[World.frozen?,a]
  clear a hk
  go_enter func342,ntmps342
  go_wp2_with fail
  rw[<-b];clear b;go_wp2;refine E1 (v:=Gf KA) (by simp[results,results342,go_sem,r0,r1,r2,H,I]) rfl ⟨by rw[z u],?_⟩;exact g
 have R:(k.kind !=4)=false:=by simpa using hk
 have HK:=O hk;have C:=O a;clear hk a
 go_enter func342,ntmps342
 go_wp2_with fail
 rw[<-b];clear b;go_wp2_with fail;refine(U.place Q hj k.str).mono ?_;rintro e w1 ⟨rfl,c⟩;have X:=ol c l0 x0;have a:=(c.block _ l2).trans C;have r0:w1.cell? (Z9 w 0)=some (J 0):=by simp[World.cell?,a]
 have r1:w1.cell? (Z9 w 1)=some (J 0):=by simp[World.cell?,a]
 have r2:w1.cell? (Z9 w 2)=some (F9 0):=by simp[World.cell?,a]
 have H:w1.cell? (Z9 w 3)=some (E9):=by simp[World.cell?,a]
 have I:w1.cell? (Z9 w 4)=some (J 0):=by simp[World.cell?,a]
 have rf:∀o,w1.frozen? (Z9 w o)=false:=fun o=>by simp[World.frozen?,a]
 have L:=O (oo g c);have M:=O (T.below c rfl);clear c a x0 S k0 k3 R;rcases GU Q hj k.str with l|⟨i,l,hi⟩
 focus
  have u:Hid (Cm s.F t k=KA):=O (by unfold Cm;rw[C3 (by rw[(z q).1];omega),C3 (fun h=>by rw[(z q).1]at h;have h2:=h.2;rw[show((j:Int)).toNat=j by omega,l]at h2;omega)]);rw[l];clear l;go_wp2;refine E1 (v:=Gf KA) (by simp[results,results342,go_sem,r0,r1,r2,H,I]) rfl ⟨by rw[z u],?_⟩
 rotate_left
 focus
  have u:Hid (Cm s.F t k=t.V i):=O (by unfold Cm;rw[C3 (by rw[(z q).1];omega),(z q).1,show((j:Int)).toNat=j by omega,l,DD ⟨z HK,oa⟩]<;>first|rfl|(congr 1<;>omega));rw[l];have OE:i<t.nv:=by rw[(z q).2];exact hi
  obtain⟨vb,off,D,Z,E⟩:=M.resolve_left oa;obtain⟨v0,v1,v2,v3,v4⟩:=E i OE;rw[D]at X;clear l E D hi;go_wp2;refine E1 (v:=Gf (t.V i)) (by simp[results,results342,go_sem,r0,r1,r2,H,I]) rfl ⟨by rw[z u],?_⟩
 rotate_left;all_goals
  iterate 5 (refine PC ?_ (by show w.heap.size<=w.heap.size+1+1;omega) _)
  exact L
theorem Hh(A:Ad)(t:Tb)(F:Nat->A3)(k:Vl)(w:Y)(q:BH w)(hs:t.shape=-1)(j:Inv Ky hN t.d)(f:VQ t.d)(r:Small t.d)(hk:Ky k)(hA:G8 w A.la A.ia A.xa t.d):
  C9 349 #[KD A t,Gf k] w (R9 (Gf (Cm F t k)) w):=by
 obtain⟨W,h⟩:∃W,W=((w.alloc (.cells #[.slice A.va t.nv A.vc,.slice A.la t.d.n A.lc,.slice A.ia t.d.m A.ic,.slice A.xa t.d.x A.xc,J t.d.used,J t.d.live,J t.d.turns] 239)).alloc (.cells (ow k) 43)).alloc (.cells #[J 0,J 0,F9 0,E9,J 0] 43):=⟨_,rfl⟩;have b:B9 w W:=by rw[h];exact((n9).alloc od _).alloc oe _
 have l:W.heap.size=w.heap.size+1+1+1:=by rw[h];simp
 have a:W.heap[w.heap.size+1+1]?=some (.cells #[J 0,J 0,F9 0,E9,J 0] 43 (0,0)):=by
  rw[h];have h1:=BE ((w.alloc (.cells #[.slice A.va t.nv A.vc,.slice A.la t.d.n A.lc,.slice A.ia t.d.m A.ic,.slice A.xa t.d.x A.xc,J t.d.used,J t.d.live,J t.d.turns] 239)).alloc (.cells (ow k) 43)) (.cells #[J 0,J 0,F9 0,E9,J 0] 43);simpa using h1
 have l2:w.heap.size+1+1<W.heap.size:=oa;have u:Hid (Cm F t k=TW t.d 0 k):=O (by unfold Cm TW;rw[DD oa,DD ⟨FW j,rfl⟩]);have s:=O (YE A.la A.lc A.ia A.ic A.xa A.xc t.d k k W (hA.below b) r f (Wz hk) (Mj k hk) (FW j) (Bg _ _ q b));have i:=O b;clear hA q hs j f r hk b l
 go_enter func349,ntmps349
 go_wp2_with fail
 rw[<-h];clear h;refine s.mono ?_;rintro e w1 ⟨rfl,c⟩;have a:=(c.block _ l2).trans a;have r0:w1.cell? (Z9 w 0)=some (J 0):=by simp[World.cell?,a]
 have r1:w1.cell? (Z9 w 1)=some (J 0):=by simp[World.cell?,a]
 have r2:w1.cell? (Z9 w 2)=some (F9 0):=by simp[World.cell?,a]
 have B:w1.cell? (Z9 w 3)=some (E9):=by simp[World.cell?,a]
 have C:w1.cell? (Z9 w 4)=some (J 0):=by simp[World.cell?,a]
 have rf:∀o,w1.frozen? (Z9 w o)=false:=fun o=>by simp[World.frozen?,a]
 have p:=O (oo i c);clear c a s;generalize TW t.d 0 k=g at*;go_wp2;refine E1 (v:=Gf g) (by simp[results,results349,go_sem,r0,r1,r2,B,C]) rfl ⟨by rw[z u],?_⟩;iterate 5 (refine PC ?_ (by show w.heap.size<=w.heap.size+1+1;omega) _)
 exact p
section
open Go.RowKit Go.Shelf
attribute [local go_sem] Oper.semAt_some
def Qf(d:Dc)(t:Int)(l:List Nat):Option Nat:=l.find? (fun i=>decide (t<(d.L i).turn))
theorem KO{t:Int}{l:List Nat}(h:∀i∈l,¬t<(d.L i).turn):Qf d t l=none:=by
 unfold Qf;rw[List.find?_eq_none];intro i hi;simpa using h i hi
theorem Rq{t:Int}{l a:List Nat}(h:∀j∈l,¬t<(d.L j).turn)(b:l++[i]<+:a)(hi:t<(d.L i).turn):Qf d t a=some i:=by
 obtain⟨r,rfl⟩:=b;have h1:(l++[i]).find? (fun i=>decide (t<(d.L i).turn))=some i:=by
  rw[List.find?_append,show l.find? (fun i=>decide (t<(d.L i).turn))=none from KO h];simp[hi]
 unfold Qf;rw[List.find?_append,h1];rfl
def mP(d:Dc):Option Nat->Bool×Pr
 |none=>(false,default)
 |some i=>(true,d.L i)
open Classical in
noncomputable def Kc(d:Dc)(t:Int):Bool×Pr:=if C6 d (hD d)=0 then mP d (Qf d t (AM d d.n))else(false,default)
theorem PG{t:Int}(h:C6 d (hD d)=0)(e:Qf d t (AM d d.n)=none):Kc d t=(false,default):=by unfold Kc;rw[DD h,e];rfl
theorem PH{t:Int}(h:C6 d (hD d)=0)(e:Qf d t (AM d d.n)=some i):Kc d t=(true,d.L i):=by unfold Kc;rw[DD h,e];rfl
def eZ(d:Dc)(t:Int)(pre:List (JL d)):Prop:=∀Z∈pre,¬t<(d.L Z.1).turn
def nW(d:Dc)(t:Int)(b:Nat)(pre:List (JL d))(W:Y):Prop:=∃(a:List (JL d)) (Z:JL d),pre=a++[Z]/\eZ d t a/\t<(d.L Z.1).turn/\W.cell? (G b 0)=some (.bool true)/\W.cell? (G b 1)=some (J (d.L Z.1).key.kind)/\W.cell? (G b 2)=some (J (d.L Z.1).key.num)/\W.cell? (G b 3)=some (F9 (d.L Z.1).key.Ag)/\W.cell? (G b 4)=some (.string (d.L Z.1).key.str)/\W.cell? (G b 5)=some (J (d.L Z.1).key.ref)/\W.cell? (G b 6)=some (J (d.L Z.1).val.kind)/\W.cell? (G b 7)=some (J (d.L Z.1).val.num)/\W.cell? (G b 8)=some (F9 (d.L Z.1).val.Ag)/\W.cell? (G b 9)=some (.string (d.L Z.1).val.str)/\W.cell? (G b 10)=some (J (d.L Z.1).val.ref)/\W.cell? (G b 11)=some (J (d.L Z.1).turn)
end
def Qz(f:Nat->Int)(m:Nat):Nat->Nat->Nat
 |k,0=>k
 |k,g+1=>if f k=0 then k else Qz f m (k+1) g
def LZ(d:Dc):Nat:=Qz d.I d.m 0 d.m
theorem Yv{f:Nat->Int}(h:f k=0)(hk:k<m):Qz f m k (m-k)=k:=by
 obtain⟨g,a⟩:∃g,m-k=g+1:=⟨m-k-1,oa⟩;rw[a];exact DD h
theorem Yu{f:Nat->Int}(h:f k≠0)(hk:k<m):Qz f m k (m-k)=Qz f m (k+1) (m-(k+1)):=by
 obtain⟨g,a⟩:∃g,m-k=g+1:=⟨m-k-1,oa⟩;rw[a,show m-(k+1)=g by omega];exact C3 h
open Classical in
noncomputable def FC(d:Dc):Int:=if C6 d (hD d)=0 then(LZ d:Int)else 0
theorem jU(hj:j<IP d):∃i,i<d.n/\(d.L i).turn≠0/\Ea d j=d.L i:=by
 obtain⟨i,h1,h2,h3⟩:=Fq d.n hj;exact⟨i,h1,h2,by rw[<-h3];exact E5 h1 h2⟩
theorem eC(hi:i<d.n)(a:(d.L i).turn≠0):(AM d i).length<IP d/\Ea d (AM d i).length=d.L i:=⟨Ki hi a,E5 hi a⟩
theorem U2{p:Nat->Bool}:0<=VT p n↔∃j,j<n/\p j=true:=by
 constructor
 ·intro h;rcases Iz p n with e|⟨j,e,h1,h2⟩
  ·rw[e]at h;omega
  ·exact⟨j,h1,h2⟩
 ·rintro⟨j,h1,h2⟩;rcases Iz p n with e|⟨i,e,_⟩
  ·have:=Gl e j (Re _) oa;rw[this]at h2;cases h2
  ·rw[e];omega
def W7(d:Dc):Pl:=⟨IP d,Ea d,0⟩
theorem Vz{m:Int}:(W7 d).has m=true↔∃i,i<d.n/\(d.L i).turn≠0/\(d.L i).key.kind=2/\(d.L i).key.num=m:=by
 unfold Pl.has;rw[decide_eq_true_iff,U2];constructor
 ·rintro⟨j,h1,h2⟩;obtain⟨i,a,i2,i3⟩:=jU (d:=d) h1;have h2:((Ea d j).key.kind==2&&(Ea d j).key.num==m)=true:=h2;rw[i3]at h2;simp at h2;exact⟨i,a,i2,h2.1,h2.2⟩
 ·rintro⟨i,a,i2,i3,i4⟩;obtain⟨h1,h2⟩:=eC a i2;refine⟨_,h1,?_⟩;show((Ea d _).key.kind==2&&(Ea d _).key.num==m)=true;rw[h2];simp[i3,i4]
theorem RS(f:Nat->Int)(m:Nat):∀g k,k+g=m->Qz f m k g<=m/\(∀j,k<=j->j<Qz f m k g->f j≠0)/\k<=Qz f m k g/\(Qz f m k g=m\/(Qz f m k g<m/\f (Qz f m k g)=0))
 |0,k,h=>⟨by show k<=m;omega,fun j h1 h2=>by have h2:j<k:=h2;omega,Be _,.inl (by show k=m;omega)⟩
 |g+1,k,h=>by
  show(if f k=0 then k else Qz f m (k+1) g)<=m/\_;by_cases e:f k=0
  ·have e2:Qz f m k (g+1)=k:=DD e;rw[e2,DD e];exact⟨oa,fun j h1 h2=>oa,Be _,.inr ⟨oa,e⟩⟩
  ·have e2:Qz f m k (g+1)=Qz f m (k+1) g:=C3 e;obtain⟨h1,h2,h3,h4⟩:=RS f m g (k+1) oa;rw[e2,C3 e];refine⟨h1,fun j c a=>?_,oa,h4⟩;by_cases b:j=k
   ·subst b;exact e
   ·exact h2 j oa a
theorem cO(h:Inv Ky hN d):((W7 d).len:Int)=FC d:=by
 obtain⟨l1,l2,_,a⟩:=RS d.I d.m d.m 0 oa;have e:FC d=(LZ d:Int):=DD (FW h);rw[e];have l1:LZ d<=d.m:=l1;have l2:∀j,0<=j->j<LZ d->d.I j≠0:=l2;have a:LZ d=d.m\/(LZ d<d.m/\d.I (LZ d)=0):=a;have:(W7 d).len=LZ d:=by
  refine Pl.Ug (fun j hj=>?_) ?_
  ·rw[Vz];rcases h.i0.ints j oa with e|⟨e1,e2,e3,c,f⟩
   ·exact absurd e (l2 j (Re _) hj)
   ·exact⟨(d.I j-1).toNat,oa,e3,c,f⟩
  ·cases g:(W7 d).has ((LZ d:Int)+1)
   ·rfl
   ·obtain⟨i,b,i2,i3,i4⟩:=Vz.1 g;exfalso;rcases a with a|⟨a,k⟩
    ·exact h.next i b i2 ⟨i3,by rw[i4,a]⟩
    ·have:=h.i0.small i b i2 ⟨i3,oa,oa⟩;rw[i4,show((LZ d:Int)+1-1).toNat=LZ d by omega,k]at this;omega
 rw[this]
theorem Zb(h:Inv Ky hN d)(n:Int):(W7 d).next n=(Kc d n).2:=by
 unfold Pl.next Pl.nextI;rcases atF_rng (fun j=>decide (n<((W7 d).P j).turn)) (W7 d).n 0 with e|⟨j,e,h1,h2,h3,h4⟩
 ·have e':VT (fun j=>decide (n<((W7 d).P j).turn)) (W7 d).n=-1:=e;rw[e',DD oa];have a:Qf d n (AM d d.n)=none:=KO (fun i hi=>by
   obtain⟨c,i2⟩:i<d.n/\(d.L i).turn≠0:=by simpa[AM]using hi
   obtain⟨k1,k2⟩:=eC c i2;have:=Gl e (AM d i).length (Re _) (by rw[Wx];exact k1);have:decide (n<(Ea d (AM d i).length).turn)=false:=this;rw[k2]at this;simpa using this)
  rw[PG (FW h) a];rfl
 ·have e':VT (fun j=>decide (n<((W7 d).P j).turn)) (W7 d).n=j:=e;rw[e',C3 oa,show((j:Int)).toNat=j by omega];have hj:j<(AM d d.n).length:=by rw[Wx]at h2;exact h2
  have b:∀q (hq:q<(AM d d.n).length),Ea d q=d.L (AM d d.n)[q]:=fun q hq=>by
   unfold Ea;rw[List.getD_eq_getElem?_getD,List.getElem?_eq_getElem hq];rfl
  have a:Qf d n (AM d d.n)=some (AM d d.n)[j]:=by
   refine Rq (l:=(AM d d.n).take j) (fun x hx=>?_) ⟨(AM d d.n).drop (j+1),?_⟩ ?_
   ·obtain⟨q,hq,hx⟩:=List.getElem_of_mem hx;rw[List.length_take]at hq;rw[List.getElem_take]at hx;have:=h4 q (Re _) oa;have:decide (n<(Ea d q).turn)=false:=this;rw[b q oa,hx]at this;simpa using this
   ·rw[List.append_assoc,List.singleton_append,List.getElem_cons_drop,List.take_append_drop]
   ·have:decide (n<(Ea d j).turn)=true:=h3;rw[b j hj]at this;simpa using this
  rw[PH (FW h) a];exact b j hj
section
open Go.RowKit Go.Shelf
attribute [local go_sem] Oper.semAt_some
theorem T3(la:T9)(lc:Nat)(ia:T9)(ic:Nat)(xa:T9)(xc:Nat)(d:Dc)(t:Int)(w:Y)(hT:BH w)(hA:G8 w la ia xa d)(hS:Small d)(hW:VQ d)(hk:C6 d (hD d)=0):
  C9 353 #[Dv la lc ia ic xa xc d,J t] w (R9 (eN (Kc d t).1 (Kc d t).2) w):=by
 have HA:=O hA;have HS:=O hS;have HW:=O hW;have HT:=O hT;have ao:=O hk;have bb:=O (Kp hk);clear hA hS hW hT hk;have bc:B9 w (((w.alloc (.cells #[.slice la d.n lc,.slice ia d.m ic,.slice xa d.x xc,J d.used,J d.live,J d.turns] 92)).alloc (.cells #[J t] 3)).alloc (.cells #[.bool false,J 0,J 0,F9 0,E9,J 0,J 0,J 0,F9 0,E9,J 0,J 0] 254)):=((n9).alloc od _).alloc oe _;have af:=O bc;clear bc;refine(Aac (n:=20)).1 ?_;refine callsIn_of_wp_marks func353 rfl trivial ?_ rfl;simp only[ntmps353,Aau,Aae,XN,Nat.reduceAdd,Nat.reduceSub,Aam,Aal,Aav,Aas,W9,Aar]
 gi_wp2_with fail
 refine⟨trivial,?_⟩;refine(Aac.2 (Hy BH Bg la lc ia ic xa xc d (hD d) _ (Bg _ _ HT af) (HA.below af) HS (fun q hq hk=>lN hk (HW q hq).1) ao)).mono ?_;rintro e w1 ⟨rfl,ag⟩;obtain⟨j,bd⟩:=Bo ag;have bq:=ag.size;simp at bq;have y0:w.heap.size<w1.heap.size:=oa;have y1:w.heap.size+1<w1.heap.size:=oa;have I:w.heap.size+1+1<w1.heap.size:=oa;have q0:w1.cell? (y w 0)=some (.slice la d.n lc):=by rw[j _ _ oe];simp[go_sem]
 have q1:w1.cell? (y w 1)=some (.slice ia d.m ic):=by rw[j _ _ oe];simp[go_sem]
 have q2:w1.cell? (y w 2)=some (.slice xa d.x xc):=by rw[j _ _ oe];simp[go_sem]
 have q3:w1.cell? (y w 3)=some (J d.used):=by rw[j _ _ oe];simp[go_sem]
 have q4:w1.cell? (y w 4)=some (J d.live):=by rw[j _ _ oe];simp[go_sem]
 have q5:w1.cell? (y w 5)=some (J d.turns):=by rw[j _ _ oe];simp[go_sem]
 have tq:w1.cell? (Y9 w 0)=some (J t):=by rw[j _ _ od];simp[go_sem]
 have r0:w1.cell? (Z9 w 0)=some (.bool false):=by rw[j _ _ od];simp[go_sem]
 have r1:w1.cell? (Z9 w 1)=some (J 0):=by rw[j _ _ od];simp[go_sem]
 have r2:w1.cell? (Z9 w 2)=some (J 0):=by rw[j _ _ od];simp[go_sem]
 have r3:w1.cell? (Z9 w 3)=some (F9 0):=by rw[j _ _ od];simp[go_sem]
 have r4:w1.cell? (Z9 w 4)=some (E9):=by rw[j _ _ od];simp[go_sem]
 have r5:w1.cell? (Z9 w 5)=some (J 0):=by rw[j _ _ od];simp[go_sem]
 have r6:w1.cell? (Z9 w 6)=some (J 0):=by rw[j _ _ od];simp[go_sem]
 have r7:w1.cell? (Z9 w 7)=some (J 0):=by rw[j _ _ od];simp[go_sem]
 have r8:w1.cell? (Z9 w 8)=some (F9 0):=by rw[j _ _ od];simp[go_sem]
 have r9:w1.cell? (Z9 w 9)=some (E9):=by rw[j _ _ od];simp[go_sem]
 have bf:w1.cell? (Z9 w 10)=some (J 0):=by rw[j _ _ od];simp[go_sem]
 have bg:w1.cell? (Z9 w 11)=some (J 0):=by rw[j _ _ od];simp[go_sem]
 have fr:∀o,w1.frozen? (Z9 w o)=false:=fun o=>by rw[bd _ _ od];simp[go_sem]
 have T:=O (oo af ag);clear ag j bd
 gi_wp2_with fail
 refine⟨trivial,?_⟩;refine(Aac.2 (GQ la lc ia ic xa xc d _ (HA.below T) HS bb.d3 bb.d4)).mono ?_;rintro e w2 ⟨⟨bk,R0,R1,R2,E,S,rfl,U⟩,aq⟩;have b9:=O (oo T aq);have ar:=O aq;have bh:=O U;clear aq U
 gi_wp2_with fail
 refine⟨trivial,?_⟩;refine(Aac.2 (GL bk _)).mono ?_;rintro e w4 ⟨rfl,rfl⟩
 gi_wp2_with fail
 obtain⟨u,hu⟩:∃u,u=w2.alloc (.cells #[Q9 bk] 289):=⟨_,rfl⟩;rw[<-hu];have zu:u.heap.size=w2.heap.size+1:=by rw[hu];simp
 have au:B9 w2 u:=by rw[hu];exact(Cs _ _).alloc (Be _) _
 have bj:u.cell? (y w2 0)=some (Q9 bk):=by rw[hu];simp[go_sem]
 clear hu;have ah:=bh.below au;have k:B9 w1 u:=oo ar au;have M:B9 w u:=oo T k;have tu:=ol k y1 tq;have x0:=ol k I r0;have x1:=ol k I r1;have x2:=ol k I r2;have x3:=ol k I r3;have x4:=ol k I r4;have x5:=ol k I r5;have x6:=ol k I r6;have x7:=ol k I r7;have x8:=ol k I r8;have x9:=ol k I r9;have ai:=ol k I bf;have aj:=ol k I bg;have fu:∀o,u.frozen? (Z9 w o)=false:=fun o=>om k I (fr o);have av:w.heap.size+1<u.heap.size:=At y1 k.size;have g:w.heap.size+1+1<u.heap.size:=At I k.size;have br:=O (GO (Aax av) (Be _));clear zu;clear bh ar k au q0 q1 q2 q3 q4 q5 tq r0 r1 r2 r3 r4 r5 r6 r7 r8 r9 bf bg fr;refine wpIn_rangeFunc_ownF rfl oc (gf:=248) (lb:=#[Q9 w2.heap.size]) rfl trivial (enters_of func248 og rfl)
  (J5 19 oc bk R0 R1 R2 w2.heap.size u.heap.size E S d u ah HS ah.l0 (fun i hi=>(ah.Cr i hi).lt) bj) belowK_t (belowK_b (Be _)) (Cs _ _) (fun _=>rfl)
  (fun pre W=>eZ d t pre/\B9 u W)
  (fun c pre W=>(c=.ret/\nW d t (w.heap.size+1+1) pre W)/\B9 w W)
  (OwnFrom.and (ownFrom_pure _ (fun pre:List (JL d)=>eZ d t pre)) (ownFrom_below (Be _) (Be _)))
  (fun c=>OwnFrom.and (Own.from (fun s A B row hs Q R=>⟨hs.1,by obtain⟨V,Z,h1,h2,h3,c0,c1,c2,c3,c4,c5,c6,c7,c8,c9,ad,Qm⟩:=hs.2;exact⟨V,Z,h1,h2,h3,Lo c0 Q R,Lo c1 Q R,Lo c2 Q R,Lo c3 Q R,Lo c4 Q R,Lo c5 Q R,Lo c6 Q R,Lo c7 Q R,Lo c8 Q R,Lo c9 Q R,Lo ad Q R,Lo Qm Q R⟩⟩) _) (ownFrom_below (Be _) (by have:=z br;have:=y1;omega)))
  ⟨fun Z hy=>(by cases hy),Cs _ _⟩
  ?a1 ?assign ?body ?done ?stop
 case assign=>
  intro l x W K hK
  gi_wp2
  exact hK
 case body=>
  rintro l pre ⟨i,hi,ht⟩ W ⟨hp,a⟩ _;have U:=ah.below a;obtain⟨H,k0,k1,k2,k3,k4,v0,v1,v2,v3,v4,tn,_,_⟩:=U.Cr i hi;have tW:=ol a av tu;have ca:w.heap.size+1<W.heap.size:=At av a.size;have F:w.heap.size+1+1<W.heap.size:=At g a.size;have a0:=ol a g x0;have a1:=ol a g x1;have a2:=ol a g x2;have a3:=ol a g x3;have a4:=ol a g x4;have a5:=ol a g x5;have a6:=ol a g x6;have a7:=ol a g x7;have a8:=ol a g x8;have a9:=ol a g x9;have bm:=ol a g ai;have bn:=ol a g aj;have fW:∀o,W.frozen? (Z9 w o)=false:=fun o=>om a g (fu o);have HP:=O hp;clear hp U bj x0 x1 x2 x3 x4 x5 x6 x7 x8 x9 ai aj tu;by_cases P:t<(d.L i).turn
  ·have HL:=O P;have ay:decide (t<(d.L i).turn)=true:=by simp[P]
   clear P
   gi_wp2
   refine wpIn_region_quiet (C:=fun w'=>B9 W w') og og og ((Cs _ _).drew) ?_;show wpQuiet _ _ _ _ [_,_,_,_,_,_,_] _;refine N (h:=N (h:=N (h:=N (h:=N (h:=N (h:=N (h:=?_)))))));refine H7 ?_;intro w5 f;have HK:=O (CT f);have ak:=O (oo M (a.trans (f.mono a.size)));have cb:=ol f H k0;have cc:=ol f H k1;have cd:=ol f H k2;have cg:=ol f H k3;have ch:=ol f H k4;have cj:=ol f H v0;have ck:=ol f H v1;have cl:=ol f H v2;have cm:=ol f H v3;have cn:=ol f H v4;have b7:=ol f H tn;have bt:=ol f F a0;have bu:=ol f F a1;have bw:=ol f F a2;have bx:=ol f F a3;have bz:=ol f F a4;have b0:=ol f F a5;have b1:=ol f F a6;have b2:=ol f F a7;have b3:=ol f F a8;have b4:=ol f F a9;have az:=ol f F bm;have aM:=ol f F bn;have f5:∀o,w5.frozen? (Z9 w o)=false:=fun o=>om f F (fW o);have b8:E i<w5.heap.size:=At H f.size;have cp:w.heap.size+1+1<w5.heap.size:=At F f.size;clear f k0 k1 k2 k3 k4 v0 v1 v2 v3 v4 tn a0 a1 a2 a3 a4 a5 a6 a7 a8 a9 bm bn fW
   gi_wp2
   refine⟨?_,⟨rfl,pre,⟨i,hi,ht⟩,rfl,HP,HL,?_⟩,?_⟩
   ·refine HK.trans ?_;iterate 11 (refine KeepsOthers.trans ?_ (UP _ _ _))
    exact UP _ _ _
   ·refine⟨?_,?_,?_,?_,?_,?_,?_,?_,?_,?_,?_,?_⟩<;>simp[go_sem,bt,bu,bw,bx,bz,b0,b1,b2,b3,b4,az,aM]
   ·iterate 12 (refine PC ?_ (by show w.heap.size<=w.heap.size+1+1;omega) _)
    exact ak
  ·have HL:=O P;have ay:decide (t<(d.L i).turn)=false:=by simp[P]
   clear P
   gi_wp2
   refine wpIn_region_quiet (C:=fun w'=>B9 W w') og og og ((Cs _ _).drew) ?_;show wpQuiet _ _ _ _ [_,_,_,_,_,_,_] _;refine N (h:=N (h:=N (h:=N (h:=N (h:=N (h:=N (h:=?_)))))));refine H7 ?_;intro w5 f;have HK:=O (CT f);have ak:=O f;clear f
   gi_wp2
   exact⟨HK,ak.mono a.size,fun Z hy=>(List.mem_append.1 hy).elim (HP Z) (fun e=>by rw[List.mem_singleton]at e;subst e;exact Int.not_lt.2 HL),oo a ak⟩
 case done=>
  rintro D ys W hD bp ⟨hp,a⟩ hK;have HR:Hid (Kc d t=(false,default)):=O (PG ao (KO (fun i hi=>by
   rw[<-show ys.map (·.1)=AM d d.n from bp]at hi;obtain⟨Z,hy,rfl⟩:=List.mem_map.1 hi;exact hp Z hy)))
  have c0:=ol a g x0;have c1:=ol a g x1;have c2:=ol a g x2;have c3:=ol a g x3;have c4:=ol a g x4;have c5:=ol a g x5;have c6:=ol a g x6;have c7:=ol a g x7;have c8:=ol a g x8;have c9:=ol a g x9;have ad:=ol a g ai;have Qm:=ol a g aj;have fW:∀o,W.frozen? (Z9 w o)=false:=fun o=>om a g (fu o);clear bp hp x0 x1 x2 x3 x4 x5 x6 x7 x8 x9 ai aj
  gi_wp2
  obtain⟨Y,v⟩:∃Y,Y=((((((((((((W.setCell (Z9 w 0) (.bool false)).setCell (Z9 w 1) (J 0)).setCell (Z9 w 2) (J 0)).setCell (Z9 w 3) (F9 0)).setCell (Z9 w 4) (E9)).setCell (Z9 w 5) (J 0)).setCell (Z9 w 6) (J 0)).setCell (Z9 w 7) (J 0)).setCell (Z9 w 8) (F9 0)).setCell (Z9 w 9) (E9)).setCell (Z9 w 10) (J 0)).setCell (Z9 w 11) (J 0)):=⟨_,rfl⟩;rw[<-v];have b5:KeepsOthers W Y:=by
   rw[v];iterate 11 (refine KeepsOthers.trans ?_ (UP _ _ _))
   exact UP _ _ _
  have hK':=b5.same D _ hK rfl;have b6:B9 w Y:=by
   rw[v];iterate 12 (refine PC ?_ (by show w.heap.size<=w.heap.size+1+1;omega) _)
   exact oo M a
  have d0:Y.cell? (Z9 w 0)=some (.bool false):=by rw[v];simp[go_sem,c0]
  have d1:Y.cell? (Z9 w 1)=some (J 0):=by rw[v];simp[go_sem,c1]
  have d2:Y.cell? (Z9 w 2)=some (J 0):=by rw[v];simp[go_sem,c2]
  have d3:Y.cell? (Z9 w 3)=some (F9 0):=by rw[v];simp[go_sem,c3]
  have d4:Y.cell? (Z9 w 4)=some (E9):=by rw[v];simp[go_sem,c4]
  have d5:Y.cell? (Z9 w 5)=some (J 0):=by rw[v];simp[go_sem,c5]
  have d6:Y.cell? (Z9 w 6)=some (J 0):=by rw[v];simp[go_sem,c6]
  have d7:Y.cell? (Z9 w 7)=some (J 0):=by rw[v];simp[go_sem,c7]
  have d8:Y.cell? (Z9 w 8)=some (F9 0):=by rw[v];simp[go_sem,c8]
  have d9:Y.cell? (Z9 w 9)=some (E9):=by rw[v];simp[go_sem,c9]
  have d10:Y.cell? (Z9 w 10)=some (J 0):=by rw[v];simp[go_sem,ad]
  have d11:Y.cell? (Z9 w 11)=some (J 0):=by rw[v];simp[go_sem,Qm]
  refine⟨od,.inl ⟨_,_,rfl,AaU hK',?_⟩⟩;have e0:=Lo d0 (I9 _ D (.deferred none)) (fun r e=>by cases e;exact⟨_,hK',rfl⟩);have e1:=Lo d1 (I9 _ D (.deferred none)) (fun r e=>by cases e;exact⟨_,hK',rfl⟩);have e2:=Lo d2 (I9 _ D (.deferred none)) (fun r e=>by cases e;exact⟨_,hK',rfl⟩);have e3:=Lo d3 (I9 _ D (.deferred none)) (fun r e=>by cases e;exact⟨_,hK',rfl⟩);have e4:=Lo d4 (I9 _ D (.deferred none)) (fun r e=>by cases e;exact⟨_,hK',rfl⟩);have e5:=Lo d5 (I9 _ D (.deferred none)) (fun r e=>by cases e;exact⟨_,hK',rfl⟩);have e6:=Lo d6 (I9 _ D (.deferred none)) (fun r e=>by cases e;exact⟨_,hK',rfl⟩);have e7:=Lo d7 (I9 _ D (.deferred none)) (fun r e=>by cases e;exact⟨_,hK',rfl⟩);have e8:=Lo d8 (I9 _ D (.deferred none)) (fun r e=>by cases e;exact⟨_,hK',rfl⟩);have e9:=Lo d9 (I9 _ D (.deferred none)) (fun r e=>by cases e;exact⟨_,hK',rfl⟩);have aw:=Lo d10 (I9 _ D (.deferred none)) (fun r e=>by cases e;exact⟨_,hK',rfl⟩);have ax:=Lo d11 (I9 _ D (.deferred none)) (fun r e=>by cases e;exact⟨_,hK',rfl⟩);refine⟨.agg #[.bool false,J 0,J 0,F9 0,E9,J 0,J 0,J 0,F9 0,E9,J 0,J 0],?_,by rw[z HR];rfl,b6.trans (belowK_b (w:=w) (Be _) _ D _ _ (GO M.size hD) hK' rfl rfl)⟩;simp[results,f353,go_sem,e0,e1,e2,e3,e4,e5,e6,e7,e8,e9,aw,ax]
 case stop=>
  rintro D c pre W hD ae ⟨⟨rfl,V,Z,rfl,h1,h2,c0,c1,c2,c3,c4,c5,c6,c7,c8,c9,ad,Qm⟩,a⟩ hK;have hp:(V++[Z]).map (·.1)<+:AM d d.n:=ae;rw[Aaq]at hp;have HR:Hid (Kc d t=(true,d.L Z.1)):=O (PH ao (Rq (fun b hb=>by obtain⟨X,hz,rfl⟩:=List.mem_map.1 hb;exact h1 X hz) hp h2));clear ae h1 h2 hp
  gi_wp2
  refine⟨od,.inl ⟨_,_,rfl,AaU hK,?_⟩⟩;have e0:=Lo c0 (I9 _ D (.deferred none)) (fun r e=>by cases e;exact⟨_,hK,rfl⟩);have e1:=Lo c1 (I9 _ D (.deferred none)) (fun r e=>by cases e;exact⟨_,hK,rfl⟩);have e2:=Lo c2 (I9 _ D (.deferred none)) (fun r e=>by cases e;exact⟨_,hK,rfl⟩);have e3:=Lo c3 (I9 _ D (.deferred none)) (fun r e=>by cases e;exact⟨_,hK,rfl⟩);have e4:=Lo c4 (I9 _ D (.deferred none)) (fun r e=>by cases e;exact⟨_,hK,rfl⟩);have e5:=Lo c5 (I9 _ D (.deferred none)) (fun r e=>by cases e;exact⟨_,hK,rfl⟩);have e6:=Lo c6 (I9 _ D (.deferred none)) (fun r e=>by cases e;exact⟨_,hK,rfl⟩);have e7:=Lo c7 (I9 _ D (.deferred none)) (fun r e=>by cases e;exact⟨_,hK,rfl⟩);have e8:=Lo c8 (I9 _ D (.deferred none)) (fun r e=>by cases e;exact⟨_,hK,rfl⟩);have e9:=Lo c9 (I9 _ D (.deferred none)) (fun r e=>by cases e;exact⟨_,hK,rfl⟩);have aw:=Lo ad (I9 _ D (.deferred none)) (fun r e=>by cases e;exact⟨_,hK,rfl⟩);have ax:=Lo Qm (I9 _ D (.deferred none)) (fun r e=>by cases e;exact⟨_,hK,rfl⟩);refine⟨eN true (d.L Z.1),?_,by rw[z HR],a.trans (belowK_b (w:=w) (Be _) W D _ _ (GO M.size hD) hK rfl rfl)⟩;simp[results,f353,go_sem,e0,e1,e2,e3,e4,e5,e6,e7,e8,e9,aw,ax]
end
theorem NL(h:(s.T t).shape=-1):Uu s t=W7 (s.T t).d:=by
 unfold Uu W7 aD iJ;rw[DD h,DD h]
theorem Uv(h:(s.T t).shape=j):Uu s t=⟨nf s.F j,FQ s j (s.T t),0⟩:=by
 unfold Uu aD iJ;rw[C3 oa,C3 oa,h];rfl
theorem lS(h:Oi s (s.T t)):((Uu s t).len:Int)=if(s.T t).shape=-1 then FC (s.T t).d else 0:=by
 rcases h.way with⟨h1,h2,h3⟩|⟨j,h1,_⟩
 ·rw[DD h1,NL h1];exact cO h3
 ·rw[C3 oa,Uv h1];have:(⟨nf s.F j,FQ s j (s.T t),0⟩:Pl).len=0:=by
   refine Pl.Ug (fun q hq=>oa) ?_;cases a:(⟨nf s.F j,FQ s j (s.T t),0⟩:Pl).has ((0:Nat)+1)
   ·rfl
   ·unfold Pl.has at a;rw[decide_eq_true_iff,U2]at a;obtain⟨q,_,hq⟩:=a;have hq:((4:Int)==2&&(0:Int)==_)=true:=hq;simp at hq
  rw[this];rfl
theorem lQ(h:Oi s (s.T t)):((Uu s t).n:Int)=if(s.T t).shape=-1 then(s.T t).d.live else((s.T t).nv:Int):=by
 rcases h.way with⟨h1,h2,h3⟩|⟨j,h1,_,h2,_⟩
 ·rw[DD h1,NL h1];exact h3.i0.log.EH
 ·rw[C3 oa,Uv h1,h2]
theorem Zc(h1:(s.T t).shape=-1)(h3:Inv Ky hN (s.T t).d)(n:Int):(Uu s t).next n=(Kc (s.T t).d n).2:=by
 rw[NL h1];exact Zb h3 n
theorem Y6(f:Nat->Pr):∀n,∀u∈pL f n,u.oneCell'=true
 |0,u,h=>by cases h
 |n+1,u,h=>by
  rcases List.mem_append.1 h with h|h
  ·exact Y6 f n u h
  ·exact Fh _ u h
abbrev eW:List Value:=[J 0,J 0,F9 0,E9,J 0,J 0,J 0,F9 0,E9,J 0,J 0]
theorem Ie(n:Int)(w:Y)(c:0<=n)(h1:n<=1000000000000):
  C9 239 #[J n] w fun e w'=>e=.returned (J (DQ n))/\w'=w:=by
 have d:IntKind.i64.wrap (n+1)=n+1:=by rw[Hi];omega
 by_cases hn:n<1000000000000
 focus
  have a:Hid (DQ n=n+1):=O (DD hn);have b:min (n+1) 1000000000000=n+1:=oa
 rotate_left
 focus
  have a:Hid (DQ n=1000000000000):=O (C3 hn);have b:min (n+1) 1000000000000=1000000000000:=oa
 rotate_left;all_goals
  go_enter func239,ntmps239
  go_wp2;go_ret;exact⟨by rw[z a];simp[b],rfl⟩
theorem LN(Z:Nat->Prop)(c B0:Nat)(vN vT vS vU:V9)(Bk:Nat->Nat)(A:Nat->Ad)(s:AK)(i:Nat)(w:Y)(h:AZ Z w c B0 vN vT vS vU Bk A s)(hi:i<s.ns)(p:s.ns<=50):
  C9 207 #[Q9 c,J (i:Int)] w (R9 (Gf (BA (s.S i).key)) w):=by
 obtain⟨g,C,q,r,t,d,k⟩:=h.F1 hi;subst q;have u:=h.lt;obtain⟨W,j⟩:∃W,W=w.alloc (.cells #[J 0,J 0,F9 0,E9,J 0] 43):=⟨_,rfl⟩;have e:B9 w W:=by rw[j];exact(Cs _ _).alloc (Be _) _
 have a:W.heap[w.heap.size]?=some (.cells #[J 0,J 0,F9 0,E9,J 0] 43 (0,0)):=by rw[j];exact BE _ _
 have l:w.heap.size<W.heap.size:=Ah a;have c2:=h.cells.2.2.1;have k0:w.cell? (G g (i*5))=some (.string (s.S i).key):=d 0 _ rfl;have f:=O e;have m:=O a;clear h d k e a
 go_enter func207,ntmps207
 go_wp2_with fail
 rw[<-j];clear j c2 k0;refine m9 (N6 (s.S i).key _) fun w1 b=>?_;have a:=(b.block _ l).trans m;have l1:=Ah a;have r0:w1.cell? (y w 0)=some (J 0):=by simp[World.cell?,a]
 have r1:w1.cell? (y w 1)=some (J 0):=by simp[World.cell?,a]
 have r2:w1.cell? (y w 2)=some (F9 0):=by simp[World.cell?,a]
 have x:w1.cell? (y w 3)=some (E9):=by simp[World.cell?,a]
 have B:w1.cell? (y w 4)=some (J 0):=by simp[World.cell?,a]
 have rf:∀o,w1.frozen? (y w o)=false:=fun o=>by simp[World.frozen?,a]
 have n:=O (oo f b);clear b a;go_wp2;refine E1 (v:=Gf (BA (s.S i).key)) (by simp[results,results207,go_sem,r0,r1,r2,x,B,BA]) rfl ⟨rfl,?_⟩;repeat(refine PC ?_ (by show w.heap.size<=w.heap.size;omega) _)
 exact n
theorem LB:(prog.info? 236).map (·.size)=some 8:=og
abbrev Cc:Array Value:=#[N9,N9,N9,N9,J 0,J 0,J 0,.pointer none]
theorem Tm(p:Nat)(A:Ad)(t:Tb)(i:Nat)(v:Vl)(w:Y)(X:I4 w A.va t.nv t.V)(hi:i<t.nv)(hn:t.nv<=12):
  C9 209 #[CA p A t,J (i:Int),Gf v] w fun e w'=>(∃g cp,e=.returned (CA p {A with va:=some (G g 0),vc:=cp} (Eh t i v))/\Cp w' w.heap.size (S9 g t.nv cp) t.nv (AY t.V i v))/\B9 w w':=by
 obtain⟨i0,Z,ad,ae,af⟩:=P9 IK;obtain⟨j,off,D,ag,K⟩:=X.resolve_left oa;obtain⟨va,vc,la,lc,ia,ic,xa,xc⟩:=A;have D:va=some (G j off):=D;subst D;have X:I4 w (some (G j off)) t.nv t.V:=X;show C9 209 #[aI p (some (G j off)) vc la lc ia ic xa xc t,J (i:Int),Gf v] w _;obtain⟨W,I⟩:∃W,W=((w.alloc (.cells #[.slice (some (G j off)) t.nv vc,.slice la t.d.n lc,.slice ia t.d.m ic,.slice xa t.d.x xc,J t.d.used,J t.d.live,J t.d.turns,Q9 p] 236)).alloc (.cells (ow v) 43)).alloc (.cells Cc 236):=⟨_,rfl⟩;have E:B9 w W:=by rw[I];exact((n9).alloc od _).alloc oe _
 have L:W.heap.size=w.heap.size+1+1+1:=by rw[I];simp
 have b0:W.heap[w.heap.size]?=some (.cells #[.slice (some (G j off)) t.nv vc,.slice la t.d.n lc,.slice ia t.d.m ic,.slice xa t.d.x xc,J t.d.used,J t.d.live,J t.d.turns,Q9 p] 236 (0,0)):=by
  rw[I];iterate 2 (refine(DO _ _ _ (by simp;try omega)).trans ?_)
  exact BE _ _
 have b1:W.heap[w.heap.size+1]?=some (.cells (ow v) 43 (0,0)):=by
  rw[I];refine(DO _ _ _ od).trans ?_;have h1:=BE (w.alloc (.cells #[.slice (some (G j off)) t.nv vc,.slice la t.d.n lc,.slice ia t.d.m ic,.slice xa t.d.x xc,J t.d.used,J t.d.live,J t.d.turns,Q9 p] 236)) (.cells (ow v) 43);simpa using h1
 have b2:W.heap[w.heap.size+1+1]?=some (.cells Cc 236 (0,0)):=by
  rw[I];have h1:=BE ((w.alloc (.cells #[.slice (some (G j off)) t.nv vc,.slice la t.d.n lc,.slice ia t.d.m ic,.slice xa t.d.x xc,J t.d.used,J t.d.live,J t.d.turns,Q9 p] 236)).alloc (.cells (ow v) 43)) (.cells Cc 236);simpa using h1
 have x0:W.cell? (y w 0)=some (.slice (some (G j off)) t.nv vc):=by simp[World.cell?,b0]
 have ah:=O (I4.news (w:=W) (fun i hi=>(K i hi).keep (fun q=>E.cell (p:=(G j q)) ag)));have M:=O (And.intro b0 (And.intro b1 b2));have ai:=O E;have HZ:=O L;clear K X b0 b1 b2 E;have HF:Hid (∀g3 a w3,w3.ownsRow w.heap.size 43 5 (S9 g3 (0+t.nv) a) (0+t.nv) ([]++Oa t.V t.nv)->W.grownBy w3 none->g3=w.heap.size+1+1+1->w3.heap[w.heap.size]?=W.heap[w.heap.size]?/\w.heap.size<w3.heap.size/\
   (Cp (w3.setCell (y w 0) (S9 g3 t.nv a)) w.heap.size (S9 g3 t.nv a) t.nv t.V/\B9 w (w3.setCell (y w 0) (S9 g3 t.nv a))/\
   (w3.setCell (y w 0) (S9 g3 t.nv a)).heap[w.heap.size]?=some (.cells #[S9 g3 t.nv a,.slice la t.d.n lc,.slice ia t.d.m ic,.slice xa t.d.x xc,J t.d.used,J t.d.live,J t.d.turns,Q9 p] 236 (0,0))/\
   (w3.setCell (y w 0) (S9 g3 t.nv a)).heap[w.heap.size+1]?=some (.cells (ow v) 43 (0,0))/\
   (w3.setCell (y w 0) (S9 g3 t.nv a)).heap[w.heap.size+1+1]?=some (.cells Cc 236 (0,0)))):=O (by
  intro g3 a w3 h1 h2 h3;obtain⟨b0,b1,b2⟩:=z M;have hk:∀k,k<W.heap.size->w3.heap[k]?=W.heap[k]?:=fun k hk=>h2.block k hk od;have hz:=h2.size;have hb:=z ai;rw[Wx,W9]at h1;have aj:B9 w w3:=⟨h2.os.trans hb.os,h2.tape.trans hb.tape,h2.output.trans hb.output,GO hb.size h2.size,fun k hk=>(h2.block k (At hk hb.size) od).trans (hb.block k hk)⟩;refine⟨hk _ oa,oa,Ae h1 (fun q e=>A0 _ _ _ _ (by cases e;show g3≠w.heap.size;omega)),aj.setCell (Be _) _,(Is _ _ _ _ _ _ ((hk _ oa).trans b0)).trans od,(A0 _ _ _ _ (by show w.heap.size+1≠w.heap.size;omega)).trans ((hk _ oa).trans b1),(A0 _ _ _ _ (by show w.heap.size+1+1≠w.heap.size;omega)).trans ((hk _ oa).trans b2)⟩)
 go_enter func209,ntmps209
 go_upto_region 2 with(at_builtin;rw[<-I];refine Aab _ rfl _ _ 89 rfl w.heap.size 43 i0 (V 0 0 0 ⟨#[]⟩ 0) 5 48 underlying89 Z ad ae af rfl oc (N9) 0 [] rfl (IF _ _ _ _) (G j off) t.nv vc (Oa t.V t.nv) rfl (G7 _ _) ah (Mu _ _) oa (by unfold maxLen;omega) oa oa (w.heap.size+1+1+1) L ?_;intro g3 a w3 l C o ax;simp only[Wx];have F:g3=w.heap.size+1+1+1:=o.resolve_left (by simp[Value.ownBlock]);obtain⟨P,l0,r⟩:=z HF g3 a w3 l C F;have s:=O r;have u:=O F;clear l C o r F;have b0:=P.trans M.1;have x0:w3.cell? (y w 0)=some (.slice (some (G j off)) t.nv vc):=(by simp[World.cell?,b0]);have xf:w3.frozen? (y w 0)=false:=(by simp[World.frozen?,b0]);clear P b0)
 obtain⟨w4,Q⟩:∃w4,w4=w3.setCell (y w 0) (S9 g3 t.nv a):=⟨_,rfl⟩;rw[<-Q]at s ⊢;clear Q x0 xf l0;obtain⟨c,B,c0,c1,c2⟩:=z s;have l0:=Ah c0;have l1:=Ah c1;have x0:w4.cell? (y w 0)=some (S9 g3 t.nv a):=by simp[World.cell?,c0]
 have y0:w4.cell? (Y9 w 0)=some (J v.kind):=by simp[World.cell?,c1]
 have y1:w4.cell? (Y9 w 1)=some (J v.num):=by simp[World.cell?,c1]
 have y2:w4.cell? (Y9 w 2)=some (F9 v.Ag):=by simp[World.cell?,c1]
 have y3:w4.cell? (Y9 w 3)=some (.string v.str):=by simp[World.cell?,c1]
 have y4:w4.cell? (Y9 w 4)=some (J v.ref):=by simp[World.cell?,c1]
 obtain⟨v0,v1,v2,v3,v4⟩:=Cp.at c hi;have ak:∀q,w4.frozen? (G g3 q)=false:=fun q=>by obtain⟨cur,hb,_⟩:=AJ c rfl;simp[World.frozen?,hb]
 have ao:=(c.lt g3 rfl).2;clear c B c0 c1 c2;go_upto_region 3 with fail
 obtain⟨h,f⟩:∃h,h=((((w4.setCell (G g3 (i*5)) (J v.kind)).setCell (G g3 (i*5+1)) (J v.num)).setCell (G g3 (i*5+2)) (F9 v.Ag)).setCell (G g3 (i*5+3)) (.string v.str)).setCell (G g3 (i*5+4)) (J v.ref):=⟨_,rfl⟩;rw[<-f];have f:h=FL w4 g3 (i*5) v:=f;obtain⟨c,B,c0,c1,c2⟩:=z s;have R:Cp h w.heap.size (S9 g3 t.nv a) t.nv (AY t.V i v):=by rw[f];exact Cp.FL c hi v
 have H:∀k,k≠g3->h.heap[k]?=w4.heap[k]?:=fun k hk=>by rw[f];exact DR _ _ _ _ hk
 have S:B9 w h:=by
  rw[f];iterate 5 (refine PC ?_ (by show w.heap.size<=g3;have:=z u;omega) _)
  exact B
 have c0:=(H _ (oj (z u))).trans c0;have c2:=(H _ (oj (z u))).trans c2;clear f H B c s x0 y0 y1 y2 y3 y4 v0 v1 v2 v3 v4 ak ao l0 l1;have l0:=Ah c0;have l2:=Ah c2;have x0:h.cell? (y w 0)=some (S9 g3 t.nv a):=by simp[World.cell?,c0]
 have x1:h.cell? (y w 1)=some (.slice la t.d.n lc):=by simp[World.cell?,c0]
 have x2:h.cell? (y w 2)=some (.slice ia t.d.m ic):=by simp[World.cell?,c0]
 have x3:h.cell? (y w 3)=some (.slice xa t.d.x xc):=by simp[World.cell?,c0]
 have x4:h.cell? (y w 4)=some (J t.d.used):=by simp[World.cell?,c0]
 have x5:h.cell? (y w 5)=some (J t.d.live):=by simp[World.cell?,c0]
 have x6:h.cell? (y w 6)=some (J t.d.turns):=by simp[World.cell?,c0]
 have x7:h.cell? (y w 7)=some (Q9 p):=by simp[World.cell?,c0]
 obtain⟨w6,T,b⟩:=BM (t:=236) (v:=aI p (some (G g3 0)) a la lc ia ic xa xc t) (vs:=[S9 g3 t.nv a,.slice la t.d.n lc,.slice ia t.d.m ic,.slice xa t.d.x xc,J t.d.used,J t.d.live,J t.d.turns,Q9 p]) (old:=Cc.toList) Ee c2 rfl rfl (by simp[Value.oneCell']) rfl;have aq:=O T;have e0:=Ab b 0 _ rfl;have e1:=Ab b 1 _ rfl;have e2:=Ab b 2 _ rfl;have e3:=Ab b 3 _ rfl;have e4:=Ab b 4 _ rfl;have e5:=Ab b 5 _ rfl;have e6:=Ab b 6 _ rfl;have e7:=Ab b 7 _ rfl;have U:=O b;have ar:=O R;have au:=O S;have av:g3≠w.heap.size+1+1:=oj (z u);have aw:=O c0;clear c0 c2 R S T b x0 x1 x2 x3 x4 x5 x6 x7;go_wp2_with (first|(refine Aat rfl 236 _ rfl w.heap.size rfl _ _ _ _ aw underlying236 rfl LB ?_)|(refine Ai rfl rfl _ aq ?_));refine E1 (v:=aI p (some (G g3 0)) a la lc ia ic xa xc t) (by simp[results,results209,go_sem,e0,e1,e2,e3,e4,e5,e6,e7]) rfl ⟨⟨g3,a,rfl,?_⟩,?_⟩
 ·exact Ae ar (fun q e=>U.other q (by cases e;exact av))
 ·exact U.below au oa
end Go.Proofs.YtgmlkfgfjjggnaaGreatDoor
