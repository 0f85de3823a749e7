import Derived.Test.YtgmlkfgfjjggnaaGreatDoorSPAC
set_option linter.all false
set_option maxHeartbeats 40000000
set_option maxRecDepth 100000
namespace Go.Proofs.YtgmlkfgfjjggnaaGreatDoor
open Go.Proofs.Tryz
open Go.RowKit
attribute [local go_sem] Am Aj
variable {n x a t g b k B c o i e size:Nat}{hf:Vl->Nat}{d:Dc}{w w' W w3:Y}{f F:Nat->A3}{v1 v2 v0 u0 u1 u2:V9}{v:Vl}{row:Option Nat}
theorem KZ(c B:Nat)(vF vT vS:V9)(H:Nat->Hs)(s:AK)(t:Nat)(k:Vl)(w:Y)(I:SM w c B vF vT vS H s)(X:KH s)(P:t<s.nt)(hk:Ky k):
  C9 103 #[Q9 c,J t,Gf k] w (R9 (Gf (Cm s.F (s.T t) k)) w):=by
 obtain⟨Q,Z,af,_,ag⟩:=AB X.f;have aM:0<s.nf:=oj Q.1;obtain⟨g,cp,rfl,hg,_,hc,_⟩:=I.CP P;obtain⟨fb,fc,rfl,a6,_,hF⟩:=I.M0 aM;obtain⟨c0,c1,c2,_⟩:=I.cells;have a7:=I.lt;have hx:=X.t t P;obtain⟨va,vc,ev⟩:=Ay (I.v t P);obtain⟨la,lc,el,ah⟩:=(I.l t P).at;obtain⟨ia,ic,ei,ai⟩:=(I.i t P).at;obtain⟨xa,xc,ex,aj⟩:=(I.x t P).at;have R:=I.v t P;rw[ev]at R;obtain⟨y0,y1,y2,y3,y4,y5,y6,y7⟩:=ou hc;rw[ev]at y1;rw[el]at y2;rw[ei]at y3;rw[ex]at y4;simp only[W4]at y0;have bn:s.nt<=100:=X.nt;have HG:=O X;have HX:=O hx;have HK:=O hk;have HR:=O (And.intro Q (And.intro Z (And.intro af ag)));have HF:=O hF;have a8:Hid (G8 w la ia xa (s.T t).d):=O ⟨ah,ai,aj⟩;have bb:=O R;obtain⟨W,r⟩:∃W,W=((w.alloc (.cells (ow k) 43)).alloc (.cells #[J 0,J 0,F9 0,E9,J 0] 43)).alloc (.cells #[J (s.T t).shape,.slice va (s.T t).nv vc,.slice la (s.T t).d.n lc,.slice ia (s.T t).d.m ic,.slice xa (s.T t).d.x xc,J (s.T t).d.used,J (s.T t).d.live,J (s.T t).d.turns] 94):=⟨_,rfl⟩;have A:B9 w W:=by rw[r];exact((n9).alloc od _).alloc oe _
 have bc:W.heap.size=w.heap.size+1+1+1:=by rw[r];simp
 obtain⟨k0,k1,k2,k3,k4,r0,r1,r2,r3,r4⟩:W.cell? (y w 0)=some (J k.kind)/\W.cell? (y w 1)=some (J k.num)/\W.cell? (y w 2)=some (F9 k.Ag)/\W.cell? (y w 3)=some (.string k.str)/\W.cell? (y w 4)=some (J k.ref)/\W.cell? (Y9 w 0)=some (J 0)/\W.cell? (Y9 w 1)=some (J 0)/\W.cell? (Y9 w 2)=some (F9 0)/\W.cell? (Y9 w 3)=some (E9)/\W.cell? (Y9 w 4)=some (J 0):=by rw[r];simp[go_sem]
 have fr:∀o,W.frozen? (Y9 w o)=false:=fun o=>by rw[r];simp[go_sem]
 obtain⟨x0,x1,x2,x3,x4,x5,x6,x7⟩:W.cell? (Z9 w 0)=some (J (s.T t).shape)/\W.cell? (Z9 w 1)=some (.slice va (s.T t).nv vc)/\W.cell? (Z9 w 2)=some (.slice la (s.T t).d.n lc)/\W.cell? (Z9 w 3)=some (.slice ia (s.T t).d.m ic)/\W.cell? (Z9 w 4)=some (.slice xa (s.T t).d.x xc)/\W.cell? (Z9 w 5)=some (J (s.T t).d.used)/\W.cell? (Z9 w 6)=some (J (s.T t).d.live)/\W.cell? (Z9 w 7)=some (J (s.T t).d.turns):=by rw[r];simp[go_sem]
 have D:w.heap.size+1<W.heap.size:=oa;have lx:w.heap.size+1+1<W.heap.size:=oa;have lk:w.heap.size<W.heap.size:=oa;have S:=O A;have ak:Hid (KC W (w.heap.size+1+1) 2 la lc ia ic xa xc (s.T t).d):=O ⟨oa,x2,x3,x4,x5,x6,x7,a8.below A⟩;have ao:=ol A a7 c0;have bp:c<W.heap.size:=oa;clear bc;clear I X hx hk Q Z af ag hF R ah ai aj hc;rcases HX.way with⟨e,e2,hI⟩|⟨j,e,hj,aq,e2,e3⟩
 ·have hd:decide ((s.T t).shape<0)=true:=oe;have HI:=O hI;have C:Hid (Cm s.F (s.T t) k=Fe (s.T t).d (Aw (s.T t).d k (hN k))):=O (by unfold Cm;rw[DD oa]);have ar:=O (Oi.small HX);clear e e2 hI
  go_enter func103,ntmps103
  go_upto_region 2 with fail
  rw[<-r];clear r;go_wp2_with fail;refine m9 (LG (w.heap.size+1+1) 2 la lc ia ic xa xc (s.T t).d k (hN k) _ ak ar HI.i0.d3 HI.i0.d4 (nK HK.1 HK.2)) fun w1 a=>?_;obtain⟨au,av⟩:=Ii HI.i0.d3 HI.i0.d4 k (hN k);generalize bd:Aw (s.T t).d k (hN k)=pl at C au av;clear bd;have z1:=a.size;have l1:w.heap.size+1<w1.heap.size:=oa;have l2:w.heap.size+1+1<w1.heap.size:=oa;have s0:=ol a D r0;have s1:=ol a D r1;have s2:=ol a D r2;have s3:=ol a D r3;have s4:=ol a D r4;have bf:∀o,w1.frozen? (Y9 w o)=false:=fun o=>om a D (fr o);have q2:=ol a lx x2;have U:=O (oo S a);have hn:=ar.n;have bg:=O ((ak.below a).rows.log);clear a r0 r1 r2 r3 r4 fr k0 k1 k2 k3 k4 x0 x1 x2 x3 x4 x5 x6 x7 y0 y1 y2 y3 y4 y5 y6 y7 c0 c1 c2 ao;by_cases ad:pl<0
  focus
   have u:Hid (Cm s.F (s.T t) k=default):=O (C.trans (C3 oa));go_wp2;refine E1 (v:=.agg #[J 0,J 0,F9 0,E9,J 0]) (by simp[results,results103,go_sem,s0,s1,s2,s3,s4]) rfl ⟨by rw[z u];rfl,?_⟩
  rotate_left
  focus
   obtain⟨q,hq⟩:∃q:Nat,pl=(q:Int):=⟨pl.toNat,oa⟩;subst hq;have bh:q<(s.T t).d.n:=oa;have u:Hid (Cm s.F (s.T t) k=((s.T t).d.L q).val):=O (C.trans (by unfold Fe;rw[DD oa];rfl));obtain⟨b,off,rfl,bq,hcs⟩:=bg.resolve_left oa;obtain⟨_,_,_,_,_,e5,e6,e7,e8,e9,_⟩:=hcs q bh;clear hcs au av ad;go_wp2;refine E1 (v:=Gf ((s.T t).d.L q).val) (by simp[results,results103,go_sem,s0,s1,s2,s3,s4]) rfl ⟨by rw[z u],?_⟩
  rotate_left;all_goals
   iterate 5 (refine PC ?_ (by show w.heap.size<=w.heap.size+1;omega) _)
   exact U
 ·have hd:decide ((s.T t).shape<0)=false:=oe;have M:=O (And.intro e (And.intro hj aq));clear e e2 e3 hj aq;by_cases h4:k.kind=4
  ·have bj:(k.kind==4)=true:=by simp[h4]
   have C:Hid (Cm s.F (s.T t) k=if 0<=BO s.F j k.str then(s.T t).V (BO s.F j k.str).toNat else KA):=O (by
    unfold Cm;rw[C3 (oj (z M).1),(z M).1,NO];by_cases E:0<=BO s.F j k.str
    ·rw[DD ⟨h4,E⟩,DD E]
    ·rw[C3 (fun h=>E h.2),C3 E])
   have bk:Hid (∀w',Cl w' fb s.nf s.F->C9 140 #[.agg #[S9 fb s.nf fc],J (s.T t).shape,.string k.str] w' fun e bm=>e=.returned (J (BO s.F j k.str))/\B9 w' bm):=O (fun w' hS=>by
    rw[(z M).1];exact Nq fb s.nf fc j k.str s.F w' hS HR.1 HR.2.1 HR.2.2.1 HR.2.2.2 M.2.1)
   have aw:=O (HF.below A a6);clear h4 A
   go_enter func103,ntmps103
   go_upto_region 2 with fail
   rw[<-r];clear r;go_upto_region 8 with fail
   clear y0 y1 y2 y3 y4 y5 y6 y7 c0 c1 c2;refine qr W ?_;refine N (h:=N (h:=N (h:=N (h:=N (h:=N (h:=N (h:=N (h:=?_))))))));refine GS (fun K hK=>?_);go_simp;refine⟨_,fun w' ax=>qk ax (bk _ (aw.below ax aw.lt)),hK _ ?_⟩;clear hK K;refine N (h:=?_);refine H7 ?_;intro w1 a;have z1:=a.size;have l1:w.heap.size+1<w1.heap.size:=oa;have l2:w.heap.size+1+1<w1.heap.size:=oa;have s0:=ol a D r0;have s1:=ol a D r1;have s2:=ol a D r2;have s3:=ol a D r3;have s4:=ol a D r4;have bf:∀o,w1.frozen? (Y9 w o)=false:=fun o=>om a D (fr o);have q1:=ol a lx x1;have U:=O (oo S a);have ay:=O (Uq bb (oo S a));clear a r0 r1 r2 r3 r4 fr k0 k1 k2 k3 k4 x0 x1 x2 x3 x4 x5 x6 x7 ao;rcases GU HG.f M.2.1 k.str with E|⟨i,E,hi⟩
   focus
    have u:Hid (Cm s.F (s.T t) k=KA):=O (C.trans (C3 oa));rw[E];clear E;go_wp2;refine E1 (v:=.agg #[J 0,J 0,F9 0,E9,J 0]) (by simp[results,results103,go_sem,s0,s1,s2,s3,s4]) rfl ⟨by rw[z u],?_⟩
   rotate_left
   focus
    have u:Hid (Cm s.F (s.T t) k=(s.T t).V i):=O (C.trans (by rw[DD oa,E,NO]));have OE:i<(s.T t).nv:=by rw[(z M).2.2];exact hi
    have az:(s.T t).nv<=12:=by rw[(z M).2.2];exact Gq HG.f M.2.1
    rw[E];obtain⟨vb,rfl,br⟩:∃vb,va=some (G vb 0)/\vb<w1.heap.size:=by
     obtain⟨hl,⟨hv,h0⟩|⟨g,cp,cur,hv,_,ae,_⟩⟩:=id ay
     ·omega
     ·cases hv;exact⟨_,rfl,Ah ae⟩
    obtain⟨e0,e1,e2,e3,e4⟩:=Cp.at ay OE;clear E hi;go_wp2;refine E1 (v:=Gf ((s.T t).V i)) (by simp[results,results103,go_sem,s0,s1,s2,s3,s4]) rfl ⟨by rw[z u],?_⟩
   rotate_left;all_goals
    iterate 5 (refine PC ?_ (by show w.heap.size<=w.heap.size+1;omega) _)
    exact U
  ·have bj:(k.kind==4)=false:=by simp[h4]
   have u:Hid (Cm s.F (s.T t) k=KA):=O (by
    unfold Cm;rw[C3 (oj (z M).1),C3 (fun h=>h4 h.1)])
   clear h4 A
   go_enter func103,ntmps103
   go_upto_region 2 with fail
   rw[<-r];clear r;clear y0 y1 y2 y3 y4 y5 y6 y7 c0 c1 c2;go_wp2;refine E1 (v:=.agg #[J 0,J 0,F9 0,E9,J 0]) (by simp[results,results103,go_sem,r0,r1,r2,r3,r4]) rfl ⟨by rw[z u],?_⟩;iterate 5 (refine PC ?_ (by show w.heap.size<=w.heap.size+1;omega) _)
   exact S
section
variable {w w':Y} {c B:Nat} {vF vT vS:V9} {H:Nat->Hs} {s:AK}
theorem SM.EK(h:SM w c B vF vT vS H s){g n i j:Nat}(d:vS=.slice (some (G g 0)) s.ns n)(hi:i<s.ns)(hj:j<5){u:V9}{x':Si}(hx:IZ x'=(IZ (s.S i)).set j u):
  SM (w.setCell (G g (i*5+j)) u) c B vF vT vS H {s with S:=AY s.S i x'}/\Br (A5 c vF vT vS H s.nt) w (A5 c vF vT vS H s.nt) (w.setCell (G g (i*5+j)) u):=by
 have a:vS.ownBlock=some g:=by rw[d];rfl
 have hk:∀k,k≠g->(w.setCell (G g (i*5+j)) u).heap[k]?=w.heap[k]?:=fun k hk=>A0 _ _ _ _ (by exact hk);have o:=hk c (fun e=>h.A9 h.si oc (by rw[e];exact a));have p:∀q,vF.ownBlock=some q->(w.setCell (G g (i*5+j)) u).heap[q]?=w.heap[q]?:=fun q e=>hk q (fun e'=>BV h.f h.si oc e (by rw[e'];exact a));have r:∀q,vT.ownBlock=some q->(w.setCell (G g (i*5+j)) u).heap[q]?=w.heap[q]?:=fun q e=>hk q (fun e'=>BV h.t h.si oc e (by rw[e'];exact a));have b:∀j' q,j'<s.nt->(H j').own q->(w.setCell (G g (i*5+j)) u).heap[q]?=w.heap[q]?:=fun j' q m e=>hk q (fun e'=>(h.apart m e).2.2.2 (by rw[e'];exact a));refine⟨⟨h.base,o.trans h.BB,Ae h.f p,Ae h.t r,?_,fun j hj=>Ae (h.v j hj) fun q e=>b j q hj (.inl e),fun j hj=>Ae (h.l j hj) fun q e=>b j q hj (.inr (.inl e)),fun j hj=>Ae (h.i j hj) fun q e=>b j q hj (.inr (.inr (.inl e))),fun j hj=>Ae (h.x j hj) fun q e=>b j q hj (.inr (.inr (.inr e))),h.ap,h.ij⟩,⟨rfl,rfl,rfl,od,fun k k1 k2=>hk k (fun e=>k2 (.inr (.inr (.inr (.inl (by rw[e];exact a)))))),fun k e=>.inl e⟩⟩;have h1:=(X9 (d▸h.si:w.ownsRow B 103 5 (.slice (some (G g 0)) s.ns n) s.ns (Ji s.S s.ns)) (i*5+j) u).1;rw[VF hi hj hx,<-d]at h1;exact h1
end
theorem Vx{n:Int}(h:n<1000000000000):DQ n=n+1:=DD h
theorem Vw{n:Int}(h:¬n<1000000000000)(h2:n<=1000000000000):DQ n=n:=by unfold DQ;rw[C3 h];omega
theorem Uf(c B:Nat)(vF vT vS:V9)(H:Nat->Hs)(s:AK)(i t:Nat)(w:Y)(L:SM w c B vF vT vS H s)(Z:KH s)(hi:i<s.ns)(ht:t<s.nt):
  C9 168 #[Q9 c,J i,J t] w fun e w'=>e=.returned (J (Bj s i t))/\SM w' c B vF vT vS H (AV s i t)/\Br (A5 c vF vT vS H s.nt) w (A5 c vF vT vS H s.nt) w':=by
 obtain⟨M,ad,ae,_,af⟩:=AB Z.f;have ag:0<s.nf:=oj M.1;obtain⟨g,cp,rfl,hg,_,hc,_⟩:=L.CP ht;obtain⟨sb,sp,rfl,bh,_,m,bj⟩:=L.F1 hi;obtain⟨fb,fc,rfl,bk,_,hF⟩:=L.M0 ag;obtain⟨c0,c1,c2,_⟩:=L.cells;have bm:=L.lt;have bn:s.nt<=100:=Z.nt;have bp:s.ns<=50:=Z.ns;obtain⟨o1,o2,o3,o4,o5,_⟩:=Z.si i hi;have y0:=hc 0 _ rfl;simp only[W4]at y0;obtain⟨s0,s1,s2,s3,s4⟩:=ov m;simp only[W4]at s0;have HM:=O L;have HG:=O Z;have HR:=O (And.intro M (And.intro ad (And.intro ae af)));have HF:=O hF;clear Z M ad ae af hF hc m L;by_cases v:J0 s i t=true
 ·have e0:0<=(s.T t).shape/\(s.T t).shape=(s.S i).shape:=by unfold J0 at v;simpa using v
  have d1:decide (0<=(s.T t).shape)=true:=by simp[e0.1]
  have d2:((s.T t).shape==(s.S i).shape)=true:=by simp[e0.2]
  have b:Hid (Bj s i t=(s.S i).place):=O (by unfold Bj;rw[DD v]);have d:Hid (DE s i t={s.S i with EB:=DQ (s.S i).EB}):=O (by unfold DE;rw[DD v]);clear v e0;by_cases hl:(s.S i).EB<1000000000000
  ·have d3:decide ((s.S i).EB<1000000000000)=true:=by simp[hl]
   have HS:=O (SM.EK (j:=3) (u:=J ((s.S i).EB+1)) (x':=DE s i t) HM rfl hi oc (by rw[z d,Vx hl];rfl))
   go_enter func168,ntmps168
   go_wp2;go_ret;exact⟨by rw[z b];rfl,HS.1,HS.2⟩
  ·have d3:decide ((s.S i).EB<1000000000000)=false:=oe;have HS:Hid (AV s i t=s):=O (by
    unfold AV;rw[z d,Vw hl o4,show({s.S i with EB:=(s.S i).EB}:Si)=s.S i from rfl,Lj])
   go_enter func168,ntmps168
   go_wp2;go_ret;rw[z HS];exact⟨by rw[z b];rfl,HM,Br.refl _ _⟩
 ·have b:Hid (Bj s i t=if 0<=(s.T t).shape then BO s.F (s.T t).shape.toNat (s.S i).key else -1):=O (by unfold Bj;rw[C3 v]);have d:Hid (DE s i t=if 0<=(s.T t).shape/\0<=BO s.F (s.T t).shape.toNat (s.S i).key then⟨(s.S i).key,(s.T t).shape,BO s.F (s.T t).shape.toNat (s.S i).key,(s.S i).EB,DQ (s.S i).AU⟩else{s.S i with AU:=DQ (s.S i).AU}):=O (by unfold DE;rw[C3 v]);have ax:(decide (0<=(s.T t).shape)=false)\/(decide (0<=(s.T t).shape)=true/\((s.T t).shape==(s.S i).shape)=false):=by
   unfold J0 at v;by_cases h0:0<=(s.T t).shape
   ·right;simp[h0]at v ⊢;exact v
   ·left;simp[h0]
  clear v;obtain⟨x1,n⟩:∃x1:Si,x1={s.S i with AU:=DQ (s.S i).AU}:=⟨_,rfl⟩;have ay:∃W,(((s.S i).AU<1000000000000/\W=w.setCell (G sb (i*5+4)) (J ((s.S i).AU+1)))\/(¬(s.S i).AU<1000000000000/\W=w))/\SM W c B (S9 fb s.nf fc) (S9 g s.nt cp) (S9 sb s.ns sp) H {s with S:=AY s.S i x1}/\Br (A5 c (S9 fb s.nf fc) (S9 g s.nt cp) (S9 sb s.ns sp) H s.nt) w (A5 c (S9 fb s.nf fc) (S9 g s.nt cp) (S9 sb s.ns sp) H s.nt) W:=by
   by_cases hl:(s.S i).AU<1000000000000
   ·have hS:=SM.EK (j:=4) (u:=J ((s.S i).AU+1)) (x':=x1) HM rfl hi oc (by rw[n,Vx hl];rfl);exact⟨_,.inl ⟨hl,rfl⟩,hS.1,hS.2⟩
   ·refine⟨w,.inr ⟨hl,rfl⟩,?_,Br.refl _ _⟩;rw[n,Vw hl o5,show({s.S i with AU:=(s.S i).AU}:Si)=s.S i from rfl,Lj];exact HM
  obtain⟨W,r,k,ah⟩:=ay;have ai:=O k;have aj:=O ah;obtain⟨g',bq,e1,br,_,az,_⟩:=k.CP (t:=t) ht;cases e1;obtain⟨aM,a6,e2,D,_,a,bc⟩:=k.F1 (i:=i) hi;cases e2;obtain⟨P,Q,R,_⟩:=k.cells;have bd:=k.lt;obtain⟨bt,bu,e3,bf,_,ak⟩:=k.M0 ag;cases e3;obtain⟨u0,u1,u2,u3,u4⟩:=ov a;simp only[W4,Ak]at u0 u1 u2 u3 u4;have ao:x1.key=(s.S i).key:=by rw[n]
  rw[ao]at u0;rw[show x1.shape=(s.S i).shape by rw[n]]at u1;clear u2 u3 u4;have aq:=O ak;have U:=O n;clear k ah az a ak n ao
  go_enter func168,ntmps168
  rcases ax with d1|⟨d1,d2⟩
  ·have l:Hid (Bj s i t=-1):=O (by
    have:¬0<=(s.T t).shape:=by simpa using d1
    rw[z b,C3 this])
   have x:Hid (AV s i t={s with S:=AY s.S i x1}):=O (by
    have:¬0<=(s.T t).shape:=by simpa using d1
    unfold AV;rw[z d,C3 (fun h=>this h.1),z U])
   have d4:decide ((s.T t).shape<0)=true:=by
    have:¬0<=(s.T t).shape:=by simpa using d1
    simp;omega
   clear b d;rcases r with⟨hl,r⟩|⟨hl,r⟩
   focus
    have d3:decide ((s.S i).AU<1000000000000)=true:=by simp[hl]
    clear hl u0 u1 P Q R;go_upto_region 9 with fail
    rw[<-r];clear r s0 s1 s2 s3 s4
   rotate_left
   focus
    have d3:decide ((s.S i).AU<1000000000000)=false:=oe;clear hl u0 u1 P Q R;subst r
   rotate_left;all_goals
    go_wp2;go_ret;rw[z x];exact⟨by rw[z l];rfl,ai,aj⟩
  ·have h0:0<=(s.T t).shape:=by simpa using d1
   obtain⟨j,hj⟩:∃j:Nat,(s.T t).shape=j:=⟨(s.T t).shape.toNat,oa⟩;have V:j<s.nf:=by
    rcases(HG.t t ht).way with⟨e,_⟩|⟨j',e,bw,_⟩
    ·omega
    ·omega
   have l:Hid (Bj s i t=BO s.F j (s.S i).key):=O (by rw[z b,DD h0,hj,NO]);have E:Hid (DE s i t=if 0<=BO s.F j (s.S i).key then⟨(s.S i).key,(s.T t).shape,BO s.F j (s.S i).key,(s.S i).EB,DQ (s.S i).AU⟩else{s.S i with AU:=DQ (s.S i).AU}):=O (by
    rw[z d,hj,NO];by_cases o:0<=BO s.F j (s.S i).key
    ·rw[DD ⟨oa,o⟩,DD o]
    ·rw[C3 (fun h=>o h.2),C3 o])
   have a7:Hid (∀w',Cl w' fb s.nf s.F->C9 140 #[.agg #[S9 fb s.nf fc],J (s.T t).shape,.string (s.S i).key] w' fun e a8=>e=.returned (J (BO s.F j (s.S i).key))/\B9 w' a8):=O (fun w' hS=>by
    rw[hj];exact Nq fb s.nf fc j (s.S i).key s.F w' hS HR.1 HR.2.1 HR.2.2.1 HR.2.2.2 V)
   have d4:decide ((s.T t).shape<0)=false:=oe;have bb:=O V;clear h0 hj b d V;rcases r with⟨hl,r⟩|⟨hl,r⟩
   case' inl=>
    have d3:decide ((s.S i).AU<1000000000000)=true:=by simp[hl]
    clear hl;go_upto_region 9 with fail
    rw[<-r];clear r s0 s1 s2 s3 s4 c0 c1 c2
   case' inr=>
    have d3:decide ((s.S i).AU<1000000000000)=false:=oe;clear hl;subst r;go_upto_region 9 with fail
    clear s0 s1 s2 s3 s4 c0 c1 c2
   all_goals
    go_upto_region 11 with fail
    refine qr W ?_;refine N (h:=N (h:=N (h:=N (h:=N (h:=N (h:=N (h:=N (h:=N (h:=?_)))))))));refine GS (fun K hK=>?_);go_simp;refine⟨_,fun w' ar=>qk ar (a7 _ (aq.below ar aq.lt)),hK _ ?_⟩;clear hK K;refine N (h:=?_);refine H7 ?_;intro w1 A;have X:=O (ai.below A);have au:=O (aj.below A);have bg:sb<w1.heap.size:=At D A.size;have v1:=ol A D u1;obtain⟨aM,a6,e4,_,_,I,C⟩:=X.F1 (i:=i) hi;cases e4;have v2:=I 2 _ rfl;have f1:=C (i*5+1);have f2:=C (i*5+2);clear A I C u0 u1 P Q R;rcases GU HG.f bb (s.S i).key with o|⟨q,o,hq⟩
    ·have x:Hid (AV s i t={s with S:=AY s.S i x1}):=O (by
      unfold AV;rw[z E,C3 oa,z U])
     rw[o];have HP:=O o;clear o;go_wp2;go_ret;rw[z x];exact⟨by rw[z l,z HP];rfl,X,au⟩
    ·have av:=O (SM.EK (j:=1) (u:=J (s.T t).shape) (x':={x1 with shape:=(s.T t).shape}) X rfl hi oc (by show _=(IZ (AY s.S i x1 i)).set 1 _;rw[Ak];rfl));have aw:=O (SM.EK (j:=2) (u:=J (q:Int)) (x':={x1 with shape:=(s.T t).shape,place:=(q:Int)}) av.1 rfl hi oc (by show _=(IZ (AY (AY s.S i x1) i _ i)).set 2 _;rw[Ak];rfl));have x:Hid (AV s i t={s with S:=AY (AY (AY s.S i x1) i {x1 with shape:=(s.T t).shape}) i {x1 with shape:=(s.T t).shape,place:=(q:Int)}}):=O (by
      unfold AV;rw[F2,F2,z E,DD oa,o,z U])
     rw[o];have HP:=O o;clear o;go_wp2;go_ret;rw[z x];exact⟨by rw[z l,z HP];rfl,aw.1,au.trans (av.2.trans aw.2)⟩
theorem MR(c:a<x)(b:t<x):((a+t)%x+x-a)%x=t:=by
 by_cases h:a+t<x
 ·rw[So h,show a+t+x-a=t+x by omega,Nat.add_mod_right,So b]
 ·have e:(a+t)%x=a+t-x:=by rw[Nat.mod_eq_sub_mod oa,So oa]
  rw[e,show a+t-x+x-a=t by omega,So b]
theorem Y0(hx:0<x):((a+t)%x+1)%x=(a+(t+1))%x:=by
 rw[Nat.mod_add_mod];rfl
theorem H6(hf:Vl->Nat)(c o B:Nat)(v0 v1 v2:V9)(d:Dc)(k:Vl)(p:Nat)(w:Y)(I:AH w c o B v0 v1 v2 d)(hx:8<=d.x/\d.x<=4000/\LR d.x)(hu:B5 d.X d.x<d.x)(aw:0<=d.used/\d.used<=4000)(hp:p<=4194304)(hh:XT k (hf k)):
  C9 252 #[Pc c o,V k.kind k.num k.Ag k.str k.ref,J (p:Int)] w fun e w'=>((∃u,e=.returned u)/\AH w' c o B v0 v1 v2 (AL hf d k p))/\CQ c o v0 v1 v2 w v0 v1 v2 w':=by
 obtain⟨T,hT,M,s,v⟩:=EI (a:=hf k%d.x) (TO _ oa) hu;have HE:=O (EO (p:=p) M);obtain⟨g,cp,rfl,ax,A,ay,hcs,P⟩:=I.index.form oa;have hand:=Rs (h:=hf k) hx.2.2 hx.2.1 hh.lt;have j:hf k%d.x<d.x:=TO _ oa;obtain⟨a0,Q⟩:∃a0,a0=hf k%d.x:=⟨_,rfl⟩;rw[<-Q]at hand j s v HE;have az:=hx.1;have aM:=hx.2.1;have c2:=I.c2;have C:=I.lt;have D:g≠c:=fun e=>I.nc (.inr (.inr (by rw[<-e];rfl)));have a6:c≠g:=fun e=>D e.symm;have HM:=O I;have HH:=O hh;have ah:=O s;have ai:=O v;have aj:=O hcs;have ak:=O P;have R:B9 w (w.alloc (.cells (ow k) 43)):=n9;have S:=O R;clear I hh hx s v hcs P Q R M
 go_enter func252,ntmps252
 go_wp2_with fail
 refine(HH.call _).mono ?_;rintro e w1 ⟨rfl,U⟩;have f:=O (oo S U);clear U c2;go_wp2_with fail;go_loopw [7] (fun a wr=>∃t:Nat,a=J ((((a0+t)%d.x:Nat)):Int)/\t<=T/\wr=w1) (fun a _=>d.x-(((intOf a).toNat+d.x-a0)%d.x))
 case atStart=>exact⟨0,by rw[W4,So j],oa,rfl⟩
 case round=>
  obtain⟨t,rfl,a7,rfl⟩:=hrel;have c2:=ol f C HM.c2;have ar:=At C f.size;have au:=At A f.size;obtain⟨a,K⟩:∃a,a=(a0+t)%d.x:=⟨_,rfl⟩;have E:a<d.x:=by rw[K];exact TO _ oa
  have e0:=ol f A (aj a E);have HA:=O K;have HN:Hid ((a+1)%d.x=(a0+(t+1))%d.x):=O (by rw[K];exact Y0 oa);have HK:Hid ((a+d.x-a0)%d.x=t):=O (by rw[K];exact MR j oa);rw[<-K];clear K;by_cases ao:t<T
  ·have W:0<d.X a:=by rw[z HA];exact ai t ao
   have F:decide (0<d.X a)=true:=by simp[W]
   by_cases hw:a+1=d.x
   ·have aq:((a:Int)+1==d.x)=true:=oe;have r:Hid ((a0+(t+1))%d.x=0):=O (by rw[<-z HN,hw];exact Nat.mod_self _);clear hw;go_wp2;go_roundw
    case rel=>exact⟨t+1,by rw[z r];rfl,oa,by first|rfl|trivial⟩
    case measure=>
     have h1:=MR (x:=d.x) (a:=a0) (t:=t+1) j oa;rw[z r]at h1;have h2:=z HK;have e0:((0:Int).toNat+d.x-a0)%d.x=t+1:=h1;simp only[intOf,NO];rw[h2,e0];omega
   ·have aq:((a:Int)+1==d.x)=false:=oe;have r:Hid ((a0+(t+1))%d.x=a+1):=O (by rw[<-z HN];exact So oa);have av:a+1<d.x:=oa;clear hw;go_wp2;go_roundw
    case rel=>exact⟨t+1,by rw[z r];go_num,oa,by first|rfl|trivial⟩
    case measure=>
     have h1:=MR (x:=d.x) (a:=a0) (t:=t+1) j oa;rw[z r]at h1;have h2:=z HK;have e1:((a:Int)+1).toNat=a+1:=oa;simp only[intOf,NO];rw[h2,e1,h1];omega
  ·have Z:t=T:=oa;subst Z;have ad:d.X a<=0:=by rw[z HA];exact ah
   have F:decide (0<d.X a)=false:=oe;have n:=O (HM.below f);have f0:wr.frozen? (G g a)=false:=om f A (ak a);have f3:=n.fz (o+3);have c3:=n.c3;rw[<-z HA]at HE;have ae:CQ c o v0 v1 (S9 g d.x cp) w v0 v1 (S9 g d.x cp) wr:=CQ.Ar f C;have af:=O ae;clear ae;by_cases L:d.X a=0
   focus
    have r:Hid (AL hf d k p={d with X:=AP d.X a ((p:Int)+1),used:=d.used+1}):=O (by rw[z HE,DD L]);rw[L]at e0;have ag:AH (wr.setCell (G c (o+3)) (J (d.used+1))) c o B v0 v1 (S9 g d.x cp) {d with used:=d.used+1}:=n.Km _;have l:=AH.SN (d:={d with used:=d.used+1}) ag (i:=a) E ((p:Int)+1);have m:=(af.trans (CY (c:=c) (o:=o) (v0:=v0) (v1:=v1) (v2:=S9 g d.x cp) (q:=o+3) (J (d.used+1)) oa (fun b e=>.inl e))).trans (EL (q:=a) (J ((p:Int)+1)) (.inr (.inr rfl)) D);have H:=O (And.intro l m);clear ag l m L ad
   rotate_left
   focus
    have r:Hid (AL hf d k p={d with X:=AP d.X a ((p:Int)+1)}):=O (by rw[z HE,C3 L]);have a8:(d.X a==0)=false:=by simp[L]
    have l:=n.SN (i:=a) E ((p:Int)+1);have m:=af.trans (EL (q:=a) (J ((p:Int)+1)) (.inr (.inr rfl)) D);have H:=O (And.intro l m);clear l m L ad
   rotate_left;all_goals
    go_wp2;go_end0;exact⟨⟨⟨_,rfl⟩,by rw[z r];exact H.1⟩,H.2⟩
theorem GM(n:Nat)(hn:n<=4194304)(w:Y):
  (Instr.makeSlice 90 (J (n:Int)) (J (n:Int))).run prog w=.ok (S9 w.heap.size n n) (w.alloc (.cells (madeCells #[Value.int .i64 0] n) 3)):=by
 have:=PD n hn w;simpa[Value.cells]using this
theorem ownB(h:(Value.slice (some (G g 0)) n a).ownBlock=some b):g=b:=by simpa[Value.ownBlock]using h
theorem Dc.dZ{a b:Dc}(n:a.n=b.n)(L:a.L=b.L)(m:a.m=b.m)(I:a.I=b.I)(x:a.x=b.x)(X:a.X=b.X)(u:a.used=b.used)(l:a.live=b.live)(t:a.turns=b.turns):a=b:=by
 obtain⟨⟩:=a;obtain⟨⟩:=b;dsimp only at n L m I x X u l t;subst n L m I x X u l t;rfl
theorem Xe(h:BI d k<x):{d with x:=x,X:=(AF hf d x k).X,used:=(AF hf d x k).used}=AF hf d x k:=by
 obtain⟨f1,f2,f3,f4,f5,f6,f7,f8,f9,f10⟩:=CJ (hf:=hf) (d:=d) (x:=x) k h;exact Dc.dZ f5.symm f6.symm f7.symm f8.symm f4.symm rfl rfl f9.symm f10.symm
theorem Jd(hf:Vl->Nat)(c o B:Nat)(v0 v1 v2:V9)(d:Dc)(more:Nat)(w:Y)(hM:AH w c o B v0 v1 v2 d)(hS:Small d)(hm:BI d d.n+more<=500)(hh:∀i,i<d.n->AO d i->XT (d.L i).key (hf (d.L i).key)):
  C9 251 #[Pc c o,J (more:Int)] w fun e w'=>((∃u,e=.returned u)/\∃u2,AH w' c o B v0 v1 u2 (AX hf d more)/\CQ c o v0 v1 v2 w v0 v1 u2 w'):=by
 have hn:=hS.n;have c0:=hM.c0;have bg:=hM.lt;obtain⟨la,lc,e0,_⟩:=hM.log.at;subst e0;have HM:=O hM;have HS:=O hS;have HH:=O hh;clear hM hS hh
 go_enter func251,ntmps251
 go_wp2_with fail
 go_loopw [14,4] (fun i q wr=>∃k:Nat,i=J (k:Int)/\k<=d.n/\q=J (((BI d k+more:Nat)):Int)/\B9 w wr) (fun i _ _=>d.n-(intOf i).toNat)
 case atStart=>exact⟨0,rfl,oa,by simp[BI],Cs _ _⟩
 case round=>
  obtain⟨k,rfl,hk,rfl,hb⟩:=hrel;by_cases l:k<d.n
  ·have g:=HM.below hb;obtain⟨bh,bj,ia,ic,xa,xc,R,rfl,rfl,hP⟩:=g.ptr;cases R;have b6:=GO (Fm d (k:=k) (n:=d.n) oa) (show BI d d.n<=500 by omega);have HB:=O hb;have HP:=O hP;clear hb g hP;go_wp2_with fail;refine m9 (Jc c o la lc ia ic xa xc d k _ HP HS l) fun w1 p=>?_;have ao:=O (oo HB p);clear p;by_cases hx:AO d k
   ·rw[Bw hx];have F:=O (El hx);clear hx;go_wp2;go_roundw
    case rel=>exact⟨k+1,oh,oa,by rw[z F];go_num,ao⟩
    case measure=>simp[intOf];omega
   ·rw[Bq hx];have F:=O (FU hx);clear hx;go_wp2;go_roundw
    case rel=>exact⟨k+1,oh,oa,by rw[z F,Int.natCast_add],ao⟩
    case measure=>simp[intOf];omega
  have v:k=d.n:=oa;subst v;have g:=HM.below hb;have aq:CQ c o (.slice la d.n lc) v1 v2 w (.slice la d.n lc) v1 v2 wr:=CQ.Ar hb bg;have j:=g.lt;have c2:=g.c2;have c3:=g.c3;have f2:=g.fz (o+2);have f3:=g.fz (o+3);have ar:=(g.setIndex (u:=N9) (x:=0) (X:=fun _=>0) (IF _ _ _ _) (fun e=>by cases e) (fun q _ e=>by cases e)).Km 0;have au:=(aq.trans (CY (u2:=N9) (q:=o+2) (N9) oa (fun b e=>.inl (e.elim .inl (fun e=>e.elim (fun e=>.inr (.inl e)) (fun e=>by cases e)))))).trans (CY (q:=o+3) (J 0) oa (fun b e=>.inl e));have h:=O ar;have S:=O au;clear hb g aq ar au hk l;by_cases hz:BI d d.n+more=0
  ·have HR:=O (Di (hf:=hf) hz);have T:(((BI d d.n+more:Nat):Int)==0)=true:=by rw[hz];rfl
   generalize BI d d.n+more=W at hz T hm;clear hz;go_wp2;refine E1 (Aay rfl _ _ _) rfl ?_;refine⟨⟨_,rfl⟩,_,?_,S⟩;rw[z HR];exact h.of_same rfl (fun _ _=>rfl) rfl (fun _ _=>rfl) rfl (fun i hi=>by cases hi) rfl rfl rfl
  have HR:=O (B6 (hf:=hf) hz);have A:=O (Da hm);have H:BI d d.n<=BI d d.n+more:=oa;have T:(((BI d d.n+more:Nat):Int)==0)=false:=oe;have U:Hid (BI d d.n<BC (BI d d.n+more)):=O (oj A.1);generalize bk:BI d d.n+more=W at hz T hm HR A U H;clear bk H;obtain⟨W1,V⟩:∃W1,W1=(wr.setCell (G c (o+2)) (N9)).setCell (G c (o+3)) (J 0):=⟨_,rfl⟩;go_wp2_with fail;rw[<-V];rw[<-V]at h S;clear V c2 c3 f2 f3 j;go_loopw [6] (fun a wr=>∃f s:Nat,a=J (s:Int)/\Cy f s (4*W)=BC W/\8<=s/\s<=4000/\wr=W1) (fun a _=>4*W-(intOf a).toNat)
  case atStart=>exact⟨9,8,rfl,rfl,oa,oa,rfl⟩
  case round=>
   obtain⟨f,s,rfl,r,bm,bn,rfl⟩:=hrel;by_cases av:s<4*W
   ·obtain⟨f',rfl⟩:∃f',f=f'+1:=by
     cases f with
     |zero=>
      exfalso;have h1:=A.1;have h2:Cy 0 s (4*W)=s:=rfl;omega
     |succ f=>exact⟨f,rfl⟩
    have HG:Hid (Cy f' (2*s) (4*W)=BC W):=O (by
     have h1:Cy (f'+1) s (4*W)=if s<4*W then Cy f' (2*s) (4*W)else s:=rfl
     rw[h1,DD av]at r;exact r)
    clear r;go_wp2;go_roundw
    case rel=>exact⟨f',2*s,oh,HG,oa,oa,by first|rfl|trivial⟩
    case measure=>simp[intOf];omega
   ·have HG:Hid (s=BC W):=O (by
     cases f with
     |zero=>exact r
     |succ f=>
      have h1:Cy (f+1) s (4*W)=if s<4*W then Cy f (2*s) (4*W)else s:=rfl
      rw[h1,C3 av]at r;exact r)
    clear r;have mk:=GM s oa;have c2:=h.c2;have f2:=h.fz (o+2);have c0:=h.c0;have j:=h.lt;obtain⟨WA,ad⟩:∃WA,WA=(wr.setCell (G c (o+2)) (.slice (some (G wr.heap.size 0)) s s)).alloc (.cells (madeCells #[Value.int .i64 0] s) 3):=⟨_,rfl⟩;have C:=(h.below ((Cs _ _).alloc (Be _) (.cells (madeCells #[Value.int .i64 0] s) 3))).setIndex (BG.made wr B s h.base oa) (fun e=>Nat.ne_of_gt j (ownB e)) (fun q e e'=>by
      have e1:=h.Up (.inr (.inl e));have e2:=ownB e';omega)
    have ae:=S.trans (cY (u0:=.slice la d.n lc) (u1:=v1) (u2:=.slice (some (G wr.heap.size 0)) s s) (q:=o+2) (.cells (madeCells #[Value.int .i64 0] s) 3) (.slice (some (G wr.heap.size 0)) s s) j oa (fun b e=>e.elim (fun e=>.inl (.inl e)) (fun e=>e.elim (fun e=>.inl (.inr (.inl e))) (fun e=>.inr (Nat.le_of_eq (ownB e))))));rw[World.setCell_alloc_past _ _ _ _ j,<-ad]at C ae;have af:Hid (AH WA c o B (.slice la d.n lc) v1 (.slice (some (G wr.heap.size 0)) s s) (AF hf d s 0)):=O (C.of_same rfl (fun _ _=>rfl) rfl (fun _ _=>rfl) rfl (fun _ _=>rfl) rfl rfl rfl);have aw:=O ae;have ax:=O C.c0;have ay:=O C.lt;clear C ae;obtain⟨Z,ag⟩:∃Z,Z=wr.heap.size:=⟨_,rfl⟩;rw[<-ag]at af aw;go_wp2_with fail;rw[<-ad,<-ag];clear ag;have c0:=z ax;have aj:=z ay;clear ad mk c2 f2;go_wp2_with fail;have ah:=A.2.2.2;rw[<-z HG]at ah;have bp:=O ah;have az:BI d d.n<s:=by have:=z U;rw[<-z HG]at this;exact this
    have I:=O az;have bq:Hid (AX hf d more=AF hf d s d.n):=O (by rw[z HR,z HG]);clear ah az HG U HR A;go_loopw [47] (fun i wz=>∃(k:Nat) (X':Nat->Int) (u':Int),i=J (k:Int)/\k<=d.n/\{d with x:=s,X:=X',used:=u'}=AF hf d s k/\AH wz c o B (.slice la d.n lc) v1 (.slice (some (G Z 0)) s s) {d with x:=s,X:=X',used:=u'}/\CQ c o (.slice la d.n lc) v1 (.slice (some (G Z 0)) s s) WA (.slice la d.n lc) v1 (.slice (some (G Z 0)) s s) wz) (fun i _=>d.n-(intOf i).toNat)
    case atStart=>exact⟨0,_,_,rfl,oa,rfl,af,CQ.refl _ _ _ _ _ _⟩
    case round=>
     clear af c0 aj ax ay;obtain⟨k,X',u',rfl,hk,heq,hd,E⟩:=hrel;by_cases l:k<d.n
     ·have br:BI d k<s:=by have h1:=Fm d (k:=k) (n:=d.n) oa;have h2:=z I;omega
      obtain⟨f1,f2,f3,f4,f5,f6,f7,f8,f9,f10⟩:=CJ (hf:=hf) (d:=d) (x:=s) k br;rw[<-heq]at f2 f3;have f2:(B5 X' s:Int)=u':=f2;have f3:B5 X' s<=BI d k:=f3;have aM:0<=u'/\u'<=4000:=oa;have a6:B5 X' s<s:=oa;have a7:=O (And.intro aM a6);have a8:=O heq;have bb:Small {d with x:=s,X:=X',used:=u'}:=⟨HS.n,HS.m,by show s<=_;omega⟩;have bt:=O bb;have bu:=O E;have bw:=O hd;obtain⟨bh,bj,ia,ic,xa,xc,R,bx,bz,hP⟩:=hd.ptr;cases R;cases bz;subst bx;have b0:=hd.c0;have b1:=hd.lt;obtain⟨lb,b2⟩:∃lb,lb=la:=⟨_,rfl⟩;have bc:=hP.rows.log;have HP:=O hP;clear hd hP E heq aM a6 bb f1 f2 f3 f4 f5 f6 f7 f8 f9 f10 b2 lb;go_wp2_with fail;refine m9 (Jc c o la lc ia ic (some (G Z 0)) s _ k _ HP bt l) fun w1 p=>?_;have t:=bw.below p;have K:=O (bu.trans (CQ.Ar p b1));have D:=bc.below p rfl;have bd:=t.c0;have b7:=t.lt;have M:=O t;clear p t bc b0;by_cases hx:AO d k
      ·rw[show tells (AO {d with x:=s,X:=X',used:=u'} k)=true from Bw hx];have b3:=O (HH k l hx);have F:Hid ({d with x:=s,X:=(AF hf d s (k+1)).X,used:=(AF hf d s (k+1)).used}=AF hf d s (k+1)):=O (Xe (by have h1:=Fm d (k:=k+1) (n:=d.n) oa;have h2:=z I;omega));have b4:Hid (AF hf d s (k+1)=AL hf {d with x:=s,X:=X',used:=u'} (d.L k).key k):=O (by rw[EF hx,z a8]);obtain⟨pb,off,rfl,b8,bf⟩:=D.resolve_left (by show d.n≠0;omega);obtain⟨p0,p1,p2,p3,p4,_,_,_,_,_,_⟩:=bf k l;clear hx bf D;go_wp2_with fail;refine(H6 hf c o B _ _ (.slice (some (G Z 0)) s s) {d with x:=s,X:=X',used:=u'} (d.L k).key k _ M ⟨bm,bn,bp⟩ a7.2 a7.1 oa b3).mono ?_;rintro e w2 ⟨⟨⟨u,rfl⟩,ai⟩,P⟩;rw[<-z b4,<-z F]at ai;have b5:=O ai;have ak:=O (K.trans P);clear ai P p0 p1 p2 p3 p4 bd;go_wp2;go_roundw
       case rel=>exact⟨k+1,_,_,oh,oa,F,b5,ak⟩
       case measure=>simp[intOf];omega
      ·rw[show tells (AO {d with x:=s,X:=X',used:=u'} k)=false from Bq hx];have F:Hid ({d with x:=s,X:=X',used:=u'}=AF hf d s (k+1)):=O (by rw[EE hx,z a8]);clear hx D bd;go_wp2;go_roundw
       case rel=>exact⟨k+1,X',u',oh,oa,F,M,K⟩
       case measure=>simp[intOf];omega
     have v:k=d.n:=oa;subst v;have Q:=O (And.intro (heq▸hd) (aw.trans E));clear hd E heq hk l;go_wp2;go_end0;exact⟨⟨_,rfl⟩,_,by rw[z bq];exact Q.1,Q.2⟩
def Ox(w:Y)(b:Nat)(d:Dc)(k:Nat):Prop:=∃g,w.rowIs b 3 d.n g/\∀j,j<k->(d.L j).turn≠0->g j=J ((CI d j:Int)+1)
theorem Ox.keep(h:Ox w b d k)(e:w'.heap[b]?=w.heap[b]?):Ox w' b d k:=by
 obtain⟨g,h1,h2⟩:=h;exact⟨g,h1.of_block e,h2⟩
theorem Ox.lt(h:Ox w b d k):b<w.heap.size:=by
 obtain⟨g,h1,h2⟩:=h;exact h1.lt
theorem Ox.cell(h:Ox w b d k){j:Nat}(hj:j<k)(hn:j<d.n)(a:(d.L j).turn≠0):w.cell? (G b j)=some (J ((CI d j:Int)+1)):=by
 obtain⟨g,h1,h2⟩:=h;rw[h1.cell hn,h2 j hj a]
theorem Ox.any(h:Ox w b d k){j:Nat}(hn:j<d.n):∃u,w.cell? (G b j)=some u:=by
 obtain⟨g,h1,h2⟩:=h;exact⟨_,h1.cell hn⟩
theorem Ox.frozen(h:Ox w b d k)(j:Nat):w.frozen? (G b j)=false:=by
 obtain⟨g,h1,h2⟩:=h;exact h1.frozen j
theorem Ox.put(h:Ox w b d k):Ox (w.setCell (G b k) (J ((CI d k:Int)+1))) b d (k+1):=by
 obtain⟨g,h1,h2⟩:=h;refine⟨_,h1.set k _,fun j hj a=>?_⟩;by_cases e:j=k
 ·subst e;simp
 ·simp only[e,Tn];exact h2 j oa a
theorem Ox.skip(h:Ox w b d k)(c:(d.L k).turn=0):Ox w b d (k+1):=by
 obtain⟨g,h1,h2⟩:=h;refine⟨g,h1,fun j hj a=>?_⟩;by_cases e:j=k
 ·subst e;exact absurd c a
 ·exact h2 j oa a
def Gt(d:Dc)(k:Nat):Nat->Int:=fun j=>if j<k then(BF d).I j else d.I j
theorem Ut(d:Dc)(j:Nat):Gt d 0 j=d.I j:=C3 oa
theorem Y7(d:Dc)(k:Nat):Gt d k k=d.I k:=C3 oa
theorem W6{j:Nat}(h:j<k):Gt d k j=(BF d).I j:=DD h
theorem Ur(h:¬0<d.I k)(j:Nat):Gt d (k+1) j=Gt d k j:=by
 unfold Gt;by_cases e:j=k
 ·subst e;rw[DD oa,C3 oa];show(if 0<d.I j then _ else d.I j)=_;rw[C3 h]
 ·by_cases e2:j<k
  ·rw[DD oa,DD e2]
  ·rw[C3 oa,C3 e2]
theorem Us{q:Nat}(h:d.I k=(q:Int)+1)(j:Nat):Gt d (k+1) j=AP (Gt d k) k ((CI d q:Int)+1) j:=by
 unfold Gt;by_cases e:j=k
 ·subst e;rw[DD oa,Ao];show(if 0<d.I j then(CI d (d.I j-1).toNat:Int)+1 else d.I j)=_;rw[DD oa,h,show((q:Int)+1-1).toNat=q by omega]
 ·rw[Af _ _ e];by_cases e2:j<k
  ·rw[DD oa,DD e2]
  ·rw[C3 oa,C3 e2]
theorem JV(h:(d.n:Int)<8\/(d.n:Int)<=2*d.live):Ap hf d=d:=DD h
theorem Qq(h:¬((d.n:Int)<8\/(d.n:Int)<=2*d.live)):Ap hf d=AX hf (BF d) 0:=C3 h
theorem Ga(hf:Vl->Nat)(K:Vl->Prop)(c o B:Nat)(v0 v1 v2:V9)(d:Dc)(w:Y)(hM:AH w c o B v0 v1 v2 d)(hS:Small d)(hC:Core K d)(hh:∀v,K v->XT v (hf v)):
  C9 250 #[Pc c o] w fun e w'=>((∃u,e=.returned u)/\∃u0 u2,AH w' c o B u0 v1 u2 (Ap hf d)/\CQ c o v0 v1 v2 w u0 v1 u2 w'):=by
 obtain⟨i0,hi,bu,bw,bx⟩:=P9 FB;have hn:=hS.n;have hm:=hS.m;have cv:(IP d:Int)=d.live:=hC.Jy;have cw:=hC.le;have c0:=hM.c0;have c4:=hM.c4;have H:=hM.lt;have cx:=hM.base;obtain⟨la,lc,e0,az⟩:=hM.log.at;subst e0;have HM:=O hM;have HS:=O hS;have HC:=O hC;have HH:=O hh;have aM:=O az;have cy:IntKind.i64.wrap (2*d.live)=2*d.live:=by rw[Hi];omega
 clear hM hS hC hh az;by_cases h1:(d.n:Int)<8
 ·have HR:=O (JV (hf:=hf) (d:=d) (.inl h1));have S:decide ((d.n:Int)<8)=true:=oe;clear h1
  go_enter func250,ntmps250
  go_wp2_with fail
  go_quiet (fail)
  go_wp2;refine E1 (Aay rfl _ _ _) rfl ?_;exact⟨⟨_,rfl⟩,_,_,by rw[z HR];exact HM.below (AW (Cs _ _) _),CQ.Ar (AW (Cs _ _) _) H⟩
 have S:decide ((d.n:Int)<8)=false:=oe;by_cases h2:(d.n:Int)<=2*d.live
 ·have HR:=O (JV (hf:=hf) (d:=d) (.inr h2));have bz:decide ((d.n:Int)<=2*d.live)=true:=oe;clear h1 h2
  go_enter func250,ntmps250
  go_wp2_with fail
  go_quiet (fail)
  go_wp2;refine E1 (Aay rfl _ _ _) rfl ?_;exact⟨⟨_,rfl⟩,_,_,by rw[z HR];exact HM.below (AW (Cs _ _) _),CQ.Ar (AW (Cs _ _) _) H⟩
 have bz:decide ((d.n:Int)<=2*d.live)=false:=oe;have HR:=O (Qq (hf:=hf) (d:=d) oa);have mk:=GM d.n hn;clear h1 h2
 go_enter func250,ntmps250
 go_wp2_with fail
 go_quiet (fail)
 obtain⟨l,T⟩:∃l,l=w.drewN nq:=⟨_,rfl⟩;rw[<-T];have ai:Hid (B9 w l):=O (by rw[T];exact AW (Cs _ _) _);have a6:l.heap.size=w.heap.size:=by rw[T];rfl
 have aj:=O a6;clear a6;clear T;have M:=HM.below ai;have c0:=M.c0;have H:=M.lt;have Z:=aM.below ai rfl;have a7:=O M;have ar:=O Z;have cz:=M.base;clear M Z aM c4;go_wp2_with fail;obtain⟨W,hW⟩:∃W,W=l.alloc (.cells (madeCells #[Value.int .i64 0] d.n) 3):=⟨_,rfl⟩;rw[<-hW];have a8:Hid (B9 l W):=O (by rw[hW];exact(Cs _ _).alloc (Be _) _);have cq:l.heap.size<W.heap.size:=by rw[hW];simp
 have r:Hid (Ox W l.heap.size d 0):=O ⟨_,by rw[hW];have h:=Nu l d.n;simpa[Value.cells]using h,fun j hj=>oa⟩;clear hW mk;go_loopw [38,2] (fun i q wr=>∃(k:Nat) (v:V9),i=J (k:Int)/\k<=d.n/\v=q/\Ck wr W.heap.size v (AM d k).length (Ea d)/\Ox wr l.heap.size d k/\B9 l wr/\W.heap.size<=wr.heap.size) (fun i _ _=>d.n-(intOf i).toNat)
 case atStart=>exact⟨0,_,rfl,oa,rfl,IF _ _ _ _,r,a8,Be _⟩
 case round=>
  clear r a8;obtain⟨k,v,rfl,hk,rfl,f,s,A,cD⟩:=hrel;by_cases P:k<d.n
  ·obtain⟨pb,off,rfl,b0,bb⟩:=ar.resolve_left oa;obtain⟨e0,e1,e2,e3,e4,e5,e6,e7,e8,e9,b1⟩:=(bb k P).keep (fun q=>A.cell (p:=(G pb q)) b0);have b2:=A.size;have cN:=Ff d k;have HB:=O A;have HO:=O f;have r:=O s;clear bb A f s;by_cases hp:0<(d.L k).turn
   ·have U:(d.L k).turn≠0:=oa;have HF:=O (E5 P U);have HN:=O (Bf U);have ak:decide (0<(d.L k).turn)=true:=by simp[hp]
    have ad:=O HO.lt;have c3:=O U;have bc:=r.lt;clear U hp;go_wp2_with (first|(at_builtin;refine Aab _ rfl _ _ 85 rfl W.heap.size 96 i0 PZ 11 104 underlying85 hi bu bw bx rfl oc v (AM d k).length (pL (Ea d) (AM d k).length) rfl ((HO.alloc _).alloc _) (G (wr.heap.size+1) 0) 1 1 (Db (d.L k)) rfl rfl (SC wr _ (Db (d.L k)) _) (Fh _) oc (by unfold maxLen;omega) oa oe _ rfl ?_;intro g3 c5 w3 C E bt cr;have ae:w3.heap[l.heap.size]?=wr.heap[l.heap.size]?:=((E.block l.heap.size oe (fun e=>oj (ad _ e.symm).1)).trans (DO _ _ _ oe)).trans (DO _ _ _ bc);have D:=O (r.keep ae);have b3:W.heap.size<=w3.heap.size:=(by have:=E.size;simp at this;omega);obtain⟨wu,r0⟩:=D.any P;have r1:=D.frozen k;have ct:=D.lt;have b4:=O (((HB.alloc oa _).alloc oe _).trans (FT E (fun q e=>GO oa (ad q e).1) oe));have c6:=(C.lt g3 rfl).1;have b5:=O C;clear C E ae)|go_in);go_roundw
    case rel=>
     refine⟨k+1,_,oh,oa,rfl,?_,?_,b4.setCell (by exact Be _) _,by simpa using b3⟩
     ·have h:=A7 (a:=(G l.heap.size k)) b5 (J ((CI d k:Int)+1)) (fun e=>by have e':g3=l.heap.size:=ownB e;omega);rw[z HN,ON,Aai];show World.ownsRow _ W.heap.size _ 11 _ _ (pL (Ea d) (AM d k).length++Db (Ea d (AM d k).length));rw[z HF];exact h
     ·exact D.put
    case measure=>simp[intOf];omega
   ·have F:(d.L k).turn=0:=by
     rcases HC.log.Cr k P with h|h
     ·exact h.1
     ·exact absurd h.1 hp
    have HN:Hid (AM d (k+1)=AM d k):=O (Ce F);have D:=O (r.skip F);clear hp;rw[F]at b1;clear F;go_wp2;go_roundw
    case rel=>
     refine⟨k+1,_,oh,oa,rfl,?_,D.keep (DO _ _ _ D.lt),HB.alloc b2 _,oe⟩;rw[z HN];exact HO.alloc _
    case measure=>simp[intOf];omega
  have au:k=d.n:=oa;subst au;have t:=a7.below A;have S:=t.iF (EW f oa) (fun e=>oj (f.lt c e));have bd:CQ c o (.slice la d.n lc) v1 v2 w v v1 v2 (wr.setCell (G c o) v):=by
   refine Li (row:=none) v (Hv (ai.trans (A.mono (Nat.le_of_eq aj.symm)))) (fun b e=>by cases e) (by rw[<-z aj];exact H) (fun e=>by cases e) oa (fun b e=>?_);rcases e with e|e
   ·right;have h1:=(f.lt b e).1;have h2:=z aj;omega
   ·exact .inl (.inr e)
  have af:Ox (wr.setCell (G c o) v) l.heap.size d d.n:=s.keep (A0 _ _ _ _ (by show l.heap.size≠c;omega));have av:=t.lt;have b6:=t.c0;have b7:=t.fz o;have b8:=t.c1;have bf:∀b,Gh v v1 v2 b->b≠l.heap.size:=fun b e=>by
   rcases e with e|e
   ·have:=(f.lt b e).1;omega
   ·have:=(a7.Up (.inr e)).2;omega
  obtain⟨ia,ic,e1,_⟩:=t.ints.at;have b9:Hid (0<d.m->∃g cp,v1=S9 g d.m cp):=O (fun h=>by obtain⟨g,cp,h,_⟩:=t.ints.form h;exact⟨g,cp,h⟩);subst e1;have ca:=O bf;have Q:=O S;have bg:=O bd;have R:=O af;have cu:l.heap.size<wr.heap.size:=oa;obtain⟨W1,ao⟩:∃W1,W1=wr.setCell (G c o) v:=⟨_,rfl⟩;have Qm:=Q.c1;have ag:=Q.lt;rw[<-ao]at Q bg R Qm ag;obtain⟨va,vc,ev,_⟩:=f.at;subst ev;clear t S bd f s A af bf hk P;go_wp2_with fail;rw[<-ao];clear ao b6 b7 av b8;go_loopw [65] (fun i wz=>∃(k:Nat),i=J (k:Int)/\k<=d.m/\AH wz c o B (.slice va (AM d d.n).length vc) (.slice ia d.m ic) v2 {d with n:=IP d,L:=Ea d,I:=Gt d k}/\Ox wz l.heap.size d d.n/\CQ c o (.slice va (AM d d.n).length vc) (.slice ia d.m ic) v2 W1 (.slice va (AM d d.n).length vc) (.slice ia d.m ic) v2 wz) (fun i _=>d.m-(intOf i).toNat)
  case atStart=>exact⟨0,rfl,oa,Q.of_same rfl (fun _ _=>rfl) rfl (fun j _=>Ut d j) rfl (fun _ _=>rfl) rfl rfl rfl,R,CQ.refl _ _ _ _ _ _⟩
  case round=>
   clear Q R Qm ag;obtain⟨k,rfl,hk,hd,s,V⟩:=hrel;by_cases X:k<d.m
   ·obtain⟨g,cp,eg⟩:=z b9 oa;cases eg;obtain⟨g',c7,cb,c8,c9,aq,hcs,bh⟩:=hd.ints.form (by show 0<d.m;omega);cases cb;have e0:=hcs k X;rw[show({d with n:=IP d,L:=Ea d,I:=Gt d k}:Dc).I k=d.I k from Y7 d k]at e0;have f0:=bh k;have cc:g≠l.heap.size:=ca g (.inr (.inl rfl));have cd:l.heap.size≠g:=fun e=>cc e.symm;have cg:g≠c:=fun e=>hd.nc (.inr (.inl (by rw[<-e];rfl)));have c1:=hd.c1;have H:=hd.lt;have bj:=O hd;have bk:=O V;have r:=O s;have bc:=s.lt;clear hcs bh hd V s;rcases HC.ints k X with hz|⟨g1,g2,g3,g4,g5⟩
    ·rw[hz]at e0;go_wp2;go_roundw
     case rel=>exact⟨k+1,oh,oa,bj.of_same rfl (fun _ _=>rfl) rfl (fun j _=>Ur oa j) rfl (fun _ _=>rfl) rfl rfl rfl,r,bk⟩
     case measure=>simp[intOf];omega
    ·obtain⟨q,hq⟩:∃q:Nat,d.I k=(q:Int)+1:=⟨(d.I k-1).toNat,oa⟩;have bm:q<d.n:=oa;have bn:(d.L q).turn≠0:=by have h:=g3;unfold Dc.at at h;rw[hq,show((q:Int)+1-1).toNat=q by omega]at h;exact h
     have r0:=r.cell bm bm bn;have HN:Hid (AH (wr.setCell (G g k) (J ((CI d q:Int)+1))) c o B (.slice va (AM d d.n).length vc) (S9 g d.m ic) v2 {d with n:=IP d,L:=Ea d,I:=Gt d (k+1)}):=O (by
      have h:=AH.Xb (d:={d with n:=IP d,L:=Ea d,I:=Gt d k}) bj (i:=k) X ((CI d q:Int)+1);exact h.of_same rfl (fun _ _=>rfl) rfl (fun j _=>Us hq j) rfl (fun _ _=>rfl) rfl rfl rfl)
     have ah:=bk.trans (EL (c:=c) (o:=o) (v0:=(.slice va (AM d d.n).length vc)) (v1:=S9 g d.m ic) (v2:=v2) (w:=wr) (g:=g) (q:=k) (J ((CI d q:Int)+1)) (.inr (.inl rfl)) cg);have aw:=O ah;have ch:=O (r.keep (w':=wr.setCell (G g k) (J ((CI d q:Int)+1))) (A0 _ _ _ _ (by exact cd)));have da:IntKind.i64.wrap (q:Int)=q:=by rw[Hi];omega
     rw[hq]at e0;clear hq g1 g2 g3 g4 g5 ah bn;go_wp2_with fail
     go_region
     go_wp2;go_roundw
     case rel=>exact⟨k+1,oh,oa,HN.below (Cs _ _).drew,ch.keep rfl,aw.trans (CQ.Ar (Cs _ _).drew (by simpa using H))⟩
     case measure=>simp[intOf];omega
   have ax:k=d.m:=oa;subst ax;have ak:AH wr c o B (.slice va (AM d d.n).length vc) (.slice ia d.m ic) v2 (BF d):=hd.of_same rfl (fun _ _=>rfl) rfl (fun j hj=>(W6 hj).symm) rfl (fun _ _=>rfl) rfl rfl rfl;have bp:Small (BF d):=⟨GO (gG d) hn,hm,HS.x⟩;have aq:=FG HC;have cj:=O ak;have ck:=O bp;have cl:=O aq;have ay:=O (bg.trans V);clear hd V s ak bp aq hk X;go_wp2_with fail;refine(Jd hf c o B _ _ v2 (BF d) 0 _ cj ck (IV HC) (fun i hi hx=>HH _ (cl.keys i hi (oj hx.1)))).mono ?_;rintro e w9 ⟨⟨u,rfl⟩,u2,bq,br⟩;have cm:=O bq;have cn:=O (ay.trans br);clear bq br;go_wp2;go_end0;exact⟨⟨_,rfl⟩,_,_,by rw[z HR];exact cm,cn⟩
theorem VK{α:Type}(f:Nat->α)(i:Nat)(a b:α):AP (AP f i a) i b=AP f i b:=by
 funext j
 by_cases e:j=i
 ·subst e;rw[Ao,Ao]
 ·rw[Af _ _ e,Af _ _ e,Af _ _ e]
theorem gV(f:Nat->Pr)(n i j:Nat)(u:V9)(p:Pr)(hi:i<n)(hj:j<11)(a:Db p=(Db (f i)).set j u):(pL f n).set (i*11+j) u=pL (AP f i p) n:=by
 apply AaQ;intro q;rw[List.getElem?_set];by_cases hq:q<n*11
 ·have e1:q=q/11*11+q%11:=oa;have h1:q/11<n:=oa;have h2:q%11<11:=TO _ oa;have g1:(pL f n)[q]?=(Db (f (q/11)))[q%11]?:=by have:=Ig (f:=f) h1 h2;rwa [<-e1]at this
  have g2:(pL (AP f i p) n)[q]?=(Db (AP f i p (q/11)))[q%11]?:=by have:=Ig (f:=AP f i p) h1 h2;rwa [<-e1]at this
  rw[g1,g2];by_cases e:q/11=i
  ·rw[e,Ao,a,List.getElem?_set];by_cases e2:i*11+j=q
   ·rw[DD e2,DD (by rw[CU];omega),DD oa,DD (by simp[Db];omega)]
   ·rw[C3 e2,C3 oa]
  ·rw[Af _ _ e,C3 oa]
 ·rw[C3 oa,NB (by rw[CU];omega),NB (by rw[CU];omega)]
theorem Ck.nE{f:Nat->Pr}(h:Ck w B (S9 g n a) n f){i:Nat}(hi:i<n)(j:Nat)(hj:j<11)(u:V9)(p:Pr)(b:Db p=(Db (f i)).set j u):Ck (w.setCell (G g (i*11+j)) u) B (S9 g n a) n (AP f i p):=by
 have h1:=(X9 h (i*11+j) u).1;rw[gV f n i j u p hi hj b]at h1;exact h1
theorem AH.kI(h:AH w c o B (S9 g d.n a) v1 v2 d){i:Nat}(hi:i<d.n)(j:Nat)(hj:j<11)(u:V9)(p:Pr)(b:Db p=(Db (d.L i)).set j u):AH (w.setCell (G g (i*11+j)) u) c o B (S9 g d.n a) v1 v2 {d with L:=AP d.L i p}:=
 h.gX (.inl rfl) rfl rfl rfl (h.log.nE hi j hj u p b) (A7 h.ints _ (fun e=>Dy h.log h.ints rfl e)) (A7 h.index _ (fun e=>Dy h.log h.index rfl e))
theorem Yb{a b:Dc}{k:Vl}{p:Nat}(hx:a.x=b.x)(c:a.X=b.X)(hu:a.used=b.used):(AL hf a k p).X=(AL hf b k p).X/\(AL hf a k p).used=(AL hf b k p).used:=by
 unfold AL;rw[hx,c,hu];cases CS b.x b.X (hf k%b.x)with
 |none=>exact⟨c,hu⟩
 |some s=>exact⟨rfl,rfl⟩
theorem Zn{a b:Dc}:∀k,BI a k<x->BI b k<x->(∀i,i<k->(AO a i↔AO b i))->(∀i,i<k->(a.L i).key=(b.L i).key)->(AF hf a x k).X=(AF hf b x k).X/\(AF hf a x k).used=(AF hf b x k).used:=by
 intro k
 induction k with
 |zero=>intro _ _ _ _;exact⟨rfl,rfl⟩
 |succ k ih=>
  intro f hb hi hk;have c:=Aao (Fm a (k:=k) (n:=k+1) oa) f;have d:=Aao (Fm b (k:=k) (n:=k+1) oa) hb;obtain⟨e,i2⟩:=ih c d (fun i h=>hi i oa) (fun i h=>hk i oa);by_cases h:AO a k
  ·rw[EF h,EF ((hi k oa).1 h),hk k oa];exact Yb ((CJ k c).2.2.2.1.trans (CJ k d).2.2.2.1.symm) e i2
  ·rw[EE h,EE (fun h'=>h ((hi k oa).2 h'))];exact⟨e,i2⟩
theorem Nf{a b:Dc}:∀k,(∀i,i<k->(AO a i↔AO b i))->BI a k=BI b k:=by
 intro k
 induction k with
 |zero=>intro _;rfl
 |succ k ih=>
  intro h;have e:=ih (fun i hi=>h i oa);by_cases c:AO a k
  ·rw[El c,El ((h k oa).1 c),e]
  ·rw[FU c,FU (fun h'=>c ((h k oa).2 h')),e]
def CE(c:Dc)(k v:Vl):Dc:={BZ c k v with L:=AP c.L c.n ⟨k,v,0⟩}
theorem MQ{c:Dc}{k:Vl}(h:i<c.n):(CE c k v).L i=c.L i:=Af _ _ oa
theorem Fc{c:Dc}{k:Vl}(h:i<c.n):AO (CE c k v) i↔AO c i:=by
 unfold AO;rw[MQ h];exact Iff.rfl
theorem KN{c:Dc}{k:Vl}:¬AO (CE c k v) c.n:=by
 unfold AO;rw[show(CE c k v).L c.n=⟨k,v,0⟩from Ao _ _ _];intro h;exact absurd h.1 (by show¬(0:Int)<0;omega)
theorem KM{c:Dc}{k:Vl}:BI (CE c k v) (CE c k v).n=BI c c.n:=by
 show BI (CE c k v) (c.n+1)=_;rw[FU KN];exact Nf _ (fun i hi=>Fc hi)
theorem Qe{c:Dc}{k:Vl}(g:BI c c.n+1<=500):{AX hf (CE c k v) 1 with L:=AP c.L c.n ⟨k,v,c.turns+1⟩}=BZ (AX hf c 1) k v:=by
 have e:=KM (c:=c) (k:=k) (v:=v);rw[B6 (d:=c) oa,B6 (d:=CE c k v) oa,e];obtain⟨s1,s2,q,r⟩:=Da g;have hn:(CE c k v).n=c.n+1:=rfl;obtain⟨_,_,_,a4,a5,s,h,j,a9,b⟩:=CJ (hf:=hf) (d:=CE c k v) (x:=BC (BI c c.n+1)) (CE c k v).n oa;obtain⟨_,_,_,b4,b5,b6,l,o,p,a⟩:=CJ (hf:=hf) (d:=c) (x:=BC (BI c c.n+1)) c.n oa;have f:(AF hf (CE c k v) (BC (BI c c.n+1)) (CE c k v).n).X=(AF hf c (BC (BI c c.n+1)) c.n).X/\(AF hf (CE c k v) (BC (BI c c.n+1)) (CE c k v).n).used=(AF hf c (BC (BI c c.n+1)) c.n).used:=by
  rw[hn,EE KN];refine Zn c.n ?_ oa (fun i hi=>Fc hi) (fun i hi=>by rw[MQ hi]);rw[Nf c.n (fun i hi=>Fc hi)];omega
 refine Dc.dZ ?_ ?_ ?_ ?_ ?_ f.1 f.2 ?_ ?_
 ·show(AF hf (CE c k v) _ _).n=(AF hf c _ _).n+1;rw[a5,b5];rfl
 ·show _=AP (AF hf c _ _).L (AF hf c _ _).n ⟨k,v,(AF hf c _ _).turns+1⟩;rw[b5,b6,a]
 ·show(AF hf (CE c k v) _ _).m=(AF hf c _ _).m;rw[h,l];rfl
 ·show(AF hf (CE c k v) _ _).I=(AF hf c _ _).I;rw[j,o];rfl
 ·show(AF hf (CE c k v) _ _).x=(AF hf c _ _).x;rw[a4,b4]
 ·show(AF hf (CE c k v) _ _).live=(AF hf c _ _).live+1;rw[a9,p];rfl
 ·show(AF hf (CE c k v) _ _).turns=(AF hf c _ _).turns+1;rw[b,a];rfl
theorem CQ.far(h:CQ c o v0 v1 v2 w u0 u1 u2 w'){b:Nat}(hb:b<w.heap.size)(hc:b≠c)(a:¬Gh v0 v1 v2 b):w'.heap[b]?=w.heap[b]?/\b<w'.heap.size/\¬Gh u0 u1 u2 b:=
 ⟨h.block b hb hc a,At hb h.size,fun e=>(h.sub b e).elim a (fun e'=>oa)⟩
structure kX (w:Y) (b:Nat) (v:Vl):Prop where
 lt:b<w.heap.size
 k0:w.cell? (G b 0)=some (J v.kind)
 k1:w.cell? (G b 1)=some (J v.num)
 k2:w.cell? (G b 2)=some (F9 v.Ag)
 k3:w.cell? (G b 3)=some (.string v.str)
 k4:w.cell? (G b 4)=some (J v.ref)
theorem kX.keep(h:kX w b v)(hs:w.heap.size<=w'.heap.size)(e:w'.heap[b]?=w.heap[b]?):kX w' b v:=by
 have e':∀q,w'.cell? (G b q)=w.cell? (G b q):=fun q=>As e;exact⟨At h.lt hs,(e' _).trans h.k0,(e' _).trans h.k1,(e' _).trans h.k2,(e' _).trans h.k3,(e' _).trans h.k4⟩
def NQ(R:Act->World->Prop):Exit->Act->World->Prop
 |.normal,a,w=>R a w
 |_,_,_=>False
theorem NQ.intro{R:Act->World->Prop}{Q:Exit->Act->World->Prop}(h:∀a w,R a w->Q .normal a w):∀e a w,NQ R e a w->Q e a w:=by
 intro e a w hq;cases e<;>first|exact h a w hq|exact hq.elim
def YT(w:Y)(c o:Nat):Nat:=match w.cell? (G c (o+1))with
 |some (.slice _ n _)=>n
 |_=>0
theorem Sr{a:Option Addr}(h:w.cell? (G c (o+1))=some (.slice a n b)):YT w c o=n:=by unfold YT;rw[h]
theorem NR{more:Nat}(b:BI d d.n+more<=500):Mh (AX hf d more) d:=by
 by_cases e:BI d d.n+more=0
 ·rw[Di e];exact⟨rfl,rfl,rfl,rfl,rfl,rfl⟩
 ·rw[B6 e];obtain⟨s1,s2,i,j⟩:=Da b;obtain⟨h1,h2,h3,h4,h5,c,f,g,h,a⟩:=CJ (hf:=hf) (d:=d) (x:=BC (BI d d.n+more)) d.n oa;exact⟨h5,c,f,g,h,a⟩
structure Rj (w:Y) (c:Nat) (v0 v1 v2:V9) (b:Nat) (v:Vl):Prop where
 box:kX w b v
 nc:b≠c
 no:¬Gh v0 v1 v2 b
theorem Rj.step(h:Rj w c v0 v1 v2 b v)(k:CQ c o v0 v1 v2 w u0 u1 u2 w'):Rj w' c u0 u1 u2 b v:=by
 obtain⟨h1,h2,h3⟩:=k.far h.box.lt h.nc h.no;exact⟨h.box.keep k.size h1,h.nc,h3⟩
theorem Na{o:Obj}(h:(W.drew.alloc o).grownBy w3 row):W.grownBy w3 row:=
 ⟨h.os,h.tape,h.output,by have:=h.size;simp at this;omega,fun b hb a=>(h.block b oe a).trans (DO _ _ _ hb)⟩
theorem RW{o:Obj}(h:(W.alloc o).grownBy w3 row):W.grownBy w3 row:=
 ⟨h.os,h.tape,h.output,by have:=h.size;simp at this;omega,fun b hb a=>(h.block b oe a).trans (DO _ _ _ hb)⟩
theorem cM(f:Nat->Pr)(n:Nat)(p:Pr):pL f n++Db p=pL (AP f n p) (n+1):=by
 show _=pL (AP f n p) n++Db (AP f n p n);rw[Ao]
 congr 1
 have:∀m,m<=n->pL f m=pL (AP f n p) m:=by
  intro m
  induction m with
  |zero=>intro _;rfl
  |succ m ih=>intro a;show pL f m++Db (f m)=pL (AP f n p) m++Db (AP f n p m);rw[ih oa,Af _ _ oa]
 exact this n (Be _)
theorem Vh(f:Nat->Int)(n:Nat)(x:Int):iL f n++[J x]=iL (AP f n x) (n+1):=by
 show _=iL (AP f n x) n++[J (AP f n x n)];rw[Ao]
 congr 1
 have:∀m,m<=n->iL f m=iL (AP f n x) m:=by
  intro m
  induction m with
  |zero=>intro _;rfl
  |succ m ih=>intro a;show iL f m++[_]=iL (AP f n x) m++[_];rw[ih oa,Af _ _ oa]
 exact this n (Be _)
theorem IM{v:V9}{xs:List Value}(h:w.ownsRow B e size v n xs)(c:w.grownBy w3 row)(d:∀b,row=some b->v.ownBlock≠some b):w3.ownsRow B e size v n xs:=by
 cases a:v.ownBlock with
 |none=>exact h.kept c (.inl a)
 |some b=>exact h.kept c (.inr (by rw[a];intro e;exact d b e.symm a))
section
variable {w w3:Y} {c o B:Nat} {v0 v1 v2 u:V9} {d:Dc}
theorem AH.jK(h:AH w c o B v0 v1 v2 d)(a:w.grownBy w3 v0.ownBlock){n:Nat}{L:Nat->Pr}(hu:Ck w3 B u n L)(hs:∀b,u.ownBlock=some b->v0.ownBlock=some b\/w.heap.size<=b):
  AH (w3.setCell (G c o) u) c o B u v1 v2 {d with n:=n,L:=L}/\CQ c o v0 v1 v2 w u v1 v2 (w3.setCell (G c o) u):=by
 have hc:v0.ownBlock≠some c:=fun e=>h.nc (.inl e);have e3:w3.heap[c]?=w.heap[c]?:=a.block c h.lt (fun e=>hc e.symm);have f:∀q,w3.cell? (G c q)=w.cell? (G c q):=fun q=>As e3;have g:u.ownBlock≠some c:=fun e=>(hs c e).elim hc (fun e'=>oj h.lt);have hi:BG w3 B v1 d.m d.I:=IM h.ints a (fun b e=>Dy h.log h.ints e);have hx:BG w3 B v2 d.x d.X:=IM h.index a (fun b e=>Dy h.log h.index e);refine⟨⟨by simpa using At h.lt a.size,Cq ((f _).trans h.c0),(Aa oa).trans ((f _).trans h.c1),(Aa oa).trans ((f _).trans h.c2),(Aa oa).trans ((f _).trans h.c3),(Aa oa).trans ((f _).trans h.c4),(Aa oa).trans ((f _).trans h.c5),fun q=>by rw[TC];exact(GW e3).trans (h.fz q),A7 hu _ g,A7 hi _ (fun e=>h.nc (.inr (.inl e))),A7 hx _ (fun e=>h.nc (.inr (.inr e))),h.ap,fun e=>e.elim g (fun e=>h.nc (.inr e)),by simpa using GO h.base a.size⟩,?_⟩;exact Li u a (fun b e=>.inl (.inl e)) h.lt hc oa (fun b e=>e.elim (fun e=>(hs b e).elim (fun e=>.inl (.inl e)) .inr) (fun e=>.inl (.inr e)))
theorem AH.eB(h:AH w c o B v0 v1 v2 d)(a:w.grownBy w3 v1.ownBlock){m:Nat}{I:Nat->Int}(hu:BG w3 B u m I)(hs:∀b,u.ownBlock=some b->v1.ownBlock=some b\/w.heap.size<=b):
  AH (w3.setCell (G c (o+1)) u) c o B v0 u v2 {d with m:=m,I:=I}/\CQ c o v0 v1 v2 w v0 u v2 (w3.setCell (G c (o+1)) u):=by
 have hc:v1.ownBlock≠some c:=fun e=>h.nc (.inr (.inl e));have e3:w3.heap[c]?=w.heap[c]?:=a.block c h.lt (fun e=>hc e.symm);have f:∀q,w3.cell? (G c q)=w.cell? (G c q):=fun q=>As e3;have g:u.ownBlock≠some c:=fun e=>(hs c e).elim hc (fun e'=>oj h.lt);have hl:Ck w3 B v0 d.n d.L:=IM h.log a (fun b e e'=>Dy h.log h.ints e' e);have hx:BG w3 B v2 d.x d.X:=IM h.index a (fun b e=>h.ap b e);refine⟨⟨by simpa using At h.lt a.size,(Aa oa).trans ((f _).trans h.c0),Cq ((f _).trans h.c1),(Aa oa).trans ((f _).trans h.c2),(Aa oa).trans ((f _).trans h.c3),(Aa oa).trans ((f _).trans h.c4),(Aa oa).trans ((f _).trans h.c5),fun q=>by rw[TC];exact(GW e3).trans (h.fz q),A7 hl _ (fun e=>h.nc (.inl e)),A7 hu _ g,A7 hx _ (fun e=>h.nc (.inr (.inr e))),?_,fun e=>e.elim (fun e=>h.nc (.inl e)) (fun e=>e.elim g (fun e=>h.nc (.inr (.inr e)))),by simpa using GO h.base a.size⟩,?_⟩
 ·intro q e e';exact(hs q e).elim (fun e1=>h.ap q e1 e') (fun e1=>oj (h.index.lt q e').2)
 ·exact Li u a (fun b e=>.inl (.inr (.inl e))) h.lt hc oa (fun b e=>e.elim (fun e=>.inl (.inl e)) (fun e=>e.elim (fun e=>(hs b e).elim (fun e=>.inl (.inr (.inl e))) .inr) (fun e=>.inl (.inr (.inr e)))))
end
theorem Nk(hf:Vl->Nat)(K:Vl->Prop)(KL:KeyLaw K hf)(c o B:Nat)(v0 v1 v2:V9)(d:Dc)(k v:Vl)(w:Y)(hM:AH w c o B v0 v1 v2 d)(hS:Small d)(hI:Cj K hf d)(hN:Next d)(hh:∀v,K v->XT v (hf v))
  (hk:K k) (e7:Df k=true) (hv:v.ok=true) (e8:v.kind≠0) (e9:∀i,i<d.n->(d.L i).turn≠0->AE (d.L i).key k=false) (hl:d.live<500) (ht:d.turns<1000000000000) (fa:d.m<=4000000):
  C9 217 #[Pc c o,V k.kind k.num k.Ag k.str k.ref,V v.kind v.num v.Ag v.str v.ref] w fun e w'=>((∃u,e=.returned u)/\∃u0 u1 u2,AH w' c o B u0 u1 u2 (Hd hf d k v)/\CQ c o v0 v1 v2 w u0 u1 u2 w'):=by
 obtain⟨i0,hi,fb,fc,fe⟩:=P9 FB;obtain⟨j0,ji,du,dv,dw⟩:=P9 QG;have df:B9 w ((w.alloc (.cells (ow k) 43)).alloc (.cells (ow v) 43)):=(n9).alloc od _;obtain⟨W,hW⟩:∃W,W=(w.alloc (.cells (ow k) 43)).alloc (.cells (ow v) 43):=⟨_,rfl⟩;rw[<-hW]at df;have ff:=hM.below df;have bk:Rj W c v0 v1 v2 w.heap.size k:=⟨⟨by rw[hW];simp;omega,by rw[hW];simp[go_sem],by rw[hW];simp[go_sem],by rw[hW];simp[go_sem],by rw[hW];simp[go_sem],by rw[hW];simp[go_sem]⟩,fun e=>oj hM.lt,fun e=>oj (hM.Up e).2⟩;have bv:Rj W c v0 v1 v2 (w.heap.size+1) v:=⟨⟨by rw[hW];simp,by rw[hW];simp[go_sem],by rw[hW];simp[go_sem],by rw[hW];simp[go_sem],by rw[hW];simp[go_sem],by rw[hW];simp[go_sem]⟩,fun e=>oj hM.lt,fun e=>oj (hM.Up e).2⟩;have fg:CQ c o v0 v1 v2 w v0 v1 v2 W:=CQ.Ar df hM.lt;have fh:=Dx (hf:=hf) hI;have fj:=DL (hf:=hf) hI.core hN;obtain⟨fk,fl,dx,fm⟩:=BP (hf:=hf) hI.core;have cu:∀i,i<(Ap hf d).n->((Ap hf d).L i).turn≠0->AE ((Ap hf d).L i).key k=false:=by
  intro i hi hC;cases e:AE ((Ap hf d).L i).key k
  ·rfl
  ·obtain⟨j,g1,g2,g3⟩:=(Dq (hf:=hf) hI.core (fun p=>AE p.key k=true)).1 ⟨i,hi,hC,e⟩;rw[e9 j g1 g2]at g3;cases g3
 have a8:=hI.core;have hm:=fa;have R:=O fh;have fo:=O fj;have dy:=O cu;have fq:=O ff;have fr:=O bk;have ft:=O bv;have fu:=O fg;have HS:=O hS;have fw:=O a8;have HH:=O hh;have dh:=O KL;have HK:=O (And.intro hk (And.intro e7 (And.intro hv e8)));have b4:Hid (Hd hf d k v=Bd hf (Ap hf d) k v):=O rfl;clear hM ff bk bv fg hS hI hN hh KL hk e7 hv e8 e9 cu fh fj df a8
 go_enter func217,ntmps217
 go_wp2_with fail
 rw[<-hW];clear hW;refine(Ga hf K c o B v0 v1 v2 d _ fq HS fw HH).mono ?_;rintro e w1 ⟨⟨u,rfl⟩,t0,t2,T,aw⟩;have cv:=O (fr.step aw);have cw:=O (ft.step aw);have fx:=O (fu.trans aw);generalize hD:Ap hf d=l at T R fo dy b4 fk fl dx fm;have iq:l.n<=1000:=oa;have hE:0<=l.turns/\l.turns<1000000000000:=⟨R.turns.1,oa⟩;have dz:l.live<500/\0<=l.live:=⟨oa,oj R.log.EH⟩;have hF:l.m<=4000000:=by rw[dx];exact hm
 obtain⟨la,lc,e0,_⟩:=T.log.at;subst e0;have c0:=T.c0;have c4:=T.c4;have c5:=T.c5;have f0:=T.fz o;have f4:=T.fz (o+4);have f5:=T.fz (o+5);have C:=T.lt;have fy:=O T;clear aw T hD fr ft fu fq fk fl dx fm hl ht hm fa;obtain⟨W2,dC⟩:∃W2,W2=(w1.setCell (G c (o+5)) (J (l.turns+1))).setCell (G c (o+4)) (J (l.live+1)):=⟨_,rfl⟩;have dU:=(fy.NV (l.turns+1)).G3 (l.live+1);have bm:=(fx.trans (CY (c:=c) (o:=o) (v0:=.slice la l.n lc) (v1:=v1) (v2:=t2) (w:=w1) (q:=o+5) (J (l.turns+1)) oa (fun b e=>.inl e))).trans (CY (q:=o+4) (J (l.live+1)) oa (fun b e=>.inl e));have ak:CQ c o (.slice la l.n lc) v1 t2 w1 (.slice la l.n lc) v1 t2 ((w1.setCell (G c (o+5)) (J (l.turns+1))).setCell (G c (o+4)) (J (l.live+1))):=(CY (q:=o+5) (J (l.turns+1)) oa (fun b e=>.inl e)).trans (CY (q:=o+4) (J (l.live+1)) oa (fun b e=>.inl e));have ae:=O (cv.step ak);have af:=O (cw.step ak);rw[<-dC]at dU bm ae af;have Z:=O dU;have ea:=O bm;clear dU bm ak fy fx cv cw;go_wp2_with fail;rw[<-dC];clear dC c0 c4 c5 f0 f4 f5 C;have c0:=Z.c0;have c5:=Z.c5;have f0:=Z.fz o;have C:=Z.lt;obtain⟨bl,k0,k1,k2,k3,k4⟩:=ae.box;obtain⟨hG,q0,q1,q2,q3,q4⟩:=af.box;have b9:Hid (Ck W2.drew B (.slice la l.n lc) l.n l.L):=O Z.log.drew;have hH:=Z.base;have HG:Hid (∀(g3 r:Nat) (w3:Y),w3.ownsRow B 96 11 (S9 g3 (l.n+1) r) (l.n+1) (pL l.L l.n++Db ⟨k,v,l.turns+1⟩)->W2.grownBy w3 (Value.slice la l.n lc).ownBlock->((Value.slice la l.n lc).ownBlock=some g3\/W2.heap.size<=g3)->
   AH (w3.setCell (G c o) (S9 g3 (l.n+1) r)) c o B (S9 g3 (l.n+1) r) v1 t2 (BZ l k v)/\CQ c o (.slice la l.n lc) v1 t2 W2 (S9 g3 (l.n+1) r) v1 t2 (w3.setCell (G c o) (S9 g3 (l.n+1) r))):=O (fun g3 r w3 h1 h2 h3=>by
  rw[cM]at h1;exact Z.jK h2 h1 (fun b e=>by rw[<-ownB e];exact h3))
 have ax:(Value.slice la l.n lc).ownBlock≠some c:=fun e=>Z.nc (.inl e);have ay:=O ax;clear ax;refine Code.wp_mono (Q:=NQ fun a' w'=>∃(g3 r:Nat),a'={tmps:=#[Pc c o,V k.kind k.num k.Ag k.str k.ref,V v.kind v.num v.Ag v.str v.ref,undef,Value.pointer (some {block:=w.heap.size,off:=0}),Value.pointer (some {block:=w.heap.size+1,off:=0}),Value.int IntKind.i64 ↑l.n,undef,Pc c o,u,Pc c o,Value.pointer (some {block:=c,off:=o}),Value.pointer (some {block:=c,off:=o}),Value.slice la l.n lc,Value.int IntKind.i64 ↑l.n,Pc c o,Value.pointer (some {block:=c,off:=o}),Value.pointer (some {block:=c,off:=o+5}),Value.int IntKind.i64 l.turns,Value.int IntKind.i64 (l.turns+1),Value.pointer (some {block:=c,off:=o}),Value.pointer (some {block:=c,off:=o+5}),Pc c o,Value.pointer (some {block:=c,off:=o}),Value.pointer (some {block:=c,off:=o+4}),Value.int IntKind.i64 l.live,Value.int IntKind.i64 (l.live+1),Value.pointer (some {block:=c,off:=o}),Value.pointer (some {block:=c,off:=o+4}),Pc c o,Pc c o,Value.pointer (some {block:=c,off:=o}),Value.pointer (some {block:=c,off:=o}),Value.slice la l.n lc,V k.kind k.num k.Ag k.str k.ref,V v.kind v.num v.Ag v.str v.ref,Pc c o,Value.pointer (some {block:=c,off:=o}),Value.pointer (some {block:=c,off:=o+5}),Value.int IntKind.i64 (l.turns+1),PV ⟨k,v,l.turns+1⟩,Value.slice (some {block:=W2.heap.size,off:=0}) 1 1,Value.slice (some {block:=g3,off:=0}) (l.n+1) r,Value.pointer (some {block:=c,off:=o}),Value.pointer (some {block:=c,off:=o}),undef,undef,undef,undef,undef,undef,undef,undef,undef,undef,undef,undef,undef,undef,undef,undef,undef,undef,undef,undef,undef,undef,undef,undef,undef,undef,undef,undef,undef,undef,undef,undef,undef,undef,undef,undef,undef,undef,undef,undef,undef,undef,undef,undef,undef,undef,undef,undef,undef,undef,undef,undef,undef,undef,undef,undef,undef,undef,undef,undef,undef,undef,undef,undef,undef,undef,undef,undef,undef,undef,undef,undef,undef,undef,undef,undef,undef,undef,undef,undef,undef,undef,undef,undef,undef,undef,undef,undef,undef,undef,undef,undef,undef,undef,undef,undef,undef,undef,undef,undef,undef,undef,undef,undef,undef,undef,undef],defers:=[]}/\AH w' c o B (S9 g3 (l.n+1) r) v1 t2 (BZ l k v)/\CQ c o (.slice la l.n lc) v1 t2 W2 (S9 g3 (l.n+1) r) v1 t2 w') ?cont ?reg
 case reg=>
  clear R fo dy HS fw HH dh HK b4 ea ae af Z dz hF j0 ji du dv dw
  go_region_law (refine Aaa _ rfl (.tmp 33) (.tmp 41) 85 rfl B 96 i0 PZ 11 104 underlying85 hi fb fc fe rfl oc (.slice la l.n lc) l.n (pL l.L l.n) (by simp[Act.eval]) (b9.alloc _) (G W2.heap.size 0) 1 1 (Db ⟨k,v,l.turns+1⟩) (by simp[Act.eval]) rfl (H8 (BE _ _)) (Fh _) oc (by unfold maxLen;omega) oa oe _ rfl ?_;intro g3 r w3 bb cx bc ag;have bt:=Na cx;have fE:=z HG g3 r w3 bb bt (bc.imp id (fun e=>by rw[e];simp));have e3:w3.heap[c]?=W2.heap[c]?:=bt.block c C (fun e=>ay e.symm);have x3:=(As (a:=(G c o)) e3).trans c0;have f3:=(GW (a:=(G c o)) e3).trans f0;have fW:=O fE;clear bb cx bt fE e3 bc HG b9 hi fb fc fe k0 k1 k2 k3 k4 q0 q1 q2 q3 q4 c0 c5)
  all_goals exact⟨_,_,rfl,fW.1,fW.2⟩
 case cont=>
 refine NQ.intro ?_;rintro a' W3 ⟨g3,r,rfl,F,bn⟩;clear HG b9 ay c0 c5 f0 C k0 k1 k2 k3 k4 q0 q1 q2 q3 q4 bl hG hH;have bu:=O (ae.step bn);have cy:=O (af.step bn);have ga:=O (ea.trans bn);have gb:Small (BZ l k v):=⟨by show l.n+1<=_;omega,by show l.m<=_;omega,by show l.x<=_;have h:=R.sz;unfold Lr at h;omega⟩;have hJ:=O gb;obtain⟨ia,ic,e1,ca⟩:=F.ints.at;obtain⟨xa,xc,e2,cb⟩:=F.index.at;replace e1:v1=.slice ia l.m ic:=e1;replace e2:t2=.slice xa l.x xc:=e2;have di:Hid (0<l.m->∃g cp,v1=S9 g l.m cp):=O (fun h=>by obtain⟨g,cp,h,_⟩:=F.ints.form h;exact⟨g,cp,h⟩);have b5:Hid (0<l.x->∃g cp,t2=S9 g l.x cp):=O (fun h=>by obtain⟨g,cp,h,_⟩:=F.index.form h;exact⟨g,cp,h⟩);have gd:=O F;obtain⟨bl,k0,k1,k2,k3,k4⟩:=bu.box;have gf:KC W3 c o (some (G g3 0)) r ia ic xa xc (BZ l k v):=⟨F.lt,F.c0,by rw[F.c1,e1];rfl,by rw[F.c2,e2];rfl,F.c3,F.c4,F.c5,by obtain⟨a,cp,e,h⟩:=F.log.at;cases e;exact h,ca,cb⟩;subst e1 e2;have gg:=O gf;have ag:=F.lt;clear F bn gb ca cb gf ae af Z ea;dsimp only;go_wp2_with fail;refine m9 (FX c o (some (G g3 0)) r ia ic xa xc (BZ l k v) k _ gg hJ) fun w4 cc=>?_;have H:=O (gd.below cc);have cd:=O (ga.trans (CQ.Ar cc ag));have ar:=O (bu.step (CQ.Ar (o:=o) cc ag));have cz:=O (cy.step (CQ.Ar (o:=o) cc ag));clear cc gd ga bu cy gg ag bl k0 k1 k2 k3 k4;obtain⟨bl,k0,k1,k2,k3,k4⟩:=ar.box;have C:=H.lt;have c1:=H.c1;by_cases hs:AA l.m k
 ·rw[show tells (AA (BZ l k v).m k)=true from Bw hs];have HR:Hid (Bd hf l k v=B7 l k v):=O (by unfold Bd;rw[DD hs]);obtain⟨s1,s2,s3⟩:=hs;obtain⟨q,hq⟩:∃q:Nat,k.num=(q:Int)+1:=⟨(k.num-1).toNat,oa⟩;have gh:q<l.m:=oa;obtain⟨g,cp,eg⟩:=z di oa;cases eg;obtain⟨g',hO,eb,hQ,ec,hR,hcs,cg⟩:=H.ints.form (by show 0<l.m;omega);cases eb;have e0:=hcs q gh;have f0:=cg q;have ef:g≠c:=fun e=>H.nc (.inr (.inl (by rw[<-e];rfl)));have iu:IntKind.i64.wrap (q:Int)=q:=by rw[Hi];omega
  have hd:=AH.Xb (d:=BZ l k v) H (i:=q) gh ((l.n:Int)+1);have ch:=cd.trans (EL (q:=q) (J ((l.n:Int)+1)) (.inr (.inl rfl)) ef);have HE:Hid ({BZ l k v with I:=AP (BZ l k v).I q ((l.n:Int)+1)}=B7 l k v):=O (by unfold B7;rw[hq,show((q:Int)+1-1).toNat=q by omega];rfl);have HD:=O hd;have dj:=O ch;rw[hq]at k1;clear hd ch hcs cg hq s1 s2 s3 di b5;go_wp2_with fail
  go_region
  go_wp2;refine E1 (Aay rfl _ _ _) rfl ?_;refine⟨⟨_,rfl⟩,_,_,_,?_,dj.trans (CQ.Ar (Cs _ _).drew (by simpa using C))⟩;rw[z b4,z HR,<-z HE];exact HD.below (Cs _ _).drew
 rw[show tells (AA (BZ l k v).m k)=false from Bq hs];have gi:=O hs;clear hs;have iv:IntKind.i64.wrap ((l.m:Int)+1)=(l.m:Int)+1:=by rw[Hi];omega
 by_cases hx:k.kind=2/\k.num=(l.m:Int)+1
 ·have HR:Hid (Bd hf l k v=CG hf (l.x+1) (BX l k v)):=O (by unfold Bd;rw[C3 (z gi),DD hx]);have gj:Hid (Cj K hf (BX l k v)):=O (Hq dh R HK.1 HK.2.1 HK.2.2.1 HK.2.2.2 dy hx.1 hx.2 dz.1 hE.2);have au:(k.kind==2)=true:=by simp[hx.1]
  have bw:(k.num==(l.m:Int)+1)=true:=by simp[hx.2]
  clear hx;go_wp2_with fail
  go_quiet (fail)
  obtain⟨U,bp⟩:∃U,U=w4.drewN nq:=⟨_,rfl⟩;rw[<-bp];have S:B9 w4 U:=by rw[bp];exact AW (Cs _ _) _
  clear bp;have E:=O (H.below S);have bq:=O (cd.trans (CQ.Ar S C));clear S H cd ar cz c1 C bl k0 k1 k2 k3 k4 au bw;have c1:=E.c1;have f1:=E.fz (o+1);have C:=E.lt;have hT:=E.base;have ax:(Value.slice ia l.m ic).ownBlock≠some c:=fun e=>E.nc (.inr (.inl e));have ay:=O ax;clear ax;have HG:Hid (∀(g4 aq:Nat) (w5:Y),w5.ownsRow B 3 1 (S9 g4 (l.m+1) aq) (l.m+1) (iL l.I l.m++[J ((l.n:Int)+1)])->U.grownBy w5 (Value.slice ia l.m ic).ownBlock->((Value.slice ia l.m ic).ownBlock=some g4\/U.heap.size<=g4)->
    AH (w5.setCell (G c (o+1)) (S9 g4 (l.m+1) aq)) c o B (S9 g3 (l.n+1) r) (S9 g4 (l.m+1) aq) (.slice xa l.x xc) (BX l k v)/\CQ c o (S9 g3 (l.n+1) r) (.slice ia l.m ic) (.slice xa l.x xc) U (S9 g3 (l.n+1) r) (S9 g4 (l.m+1) aq) (.slice xa l.x xc) (w5.setCell (G c (o+1)) (S9 g4 (l.m+1) aq))):=O (fun g4 aq w5 h1 h2 h3=>by
   rw[Vh]at h1;exact E.eB h2 h1 (fun b e=>by rw[<-ownB e];exact h3))
  have gl:=O E.ints;have hU:Hid (U.heap.size=U.heap.size):=O rfl;go_wp2_with (first|(at_builtin;refine Aab _ rfl _ _ 90 rfl B 3 j0 (J 0) 1 8 underlying90 ji du dv dw rfl oc (.slice ia l.m ic) l.m (iL l.I l.m) rfl (gl.alloc _) (G U.heap.size 0) 1 1 [J ((l.n:Int)+1)] rfl rfl (H8 (BE _ _)) (by simp[Value.oneCell']) oc (by unfold maxLen;omega) oa oe _ rfl ?_;intro g4 aq w5 bd cN bf eF;have dk:=RW cN;have gm:=z HG g4 aq w5 bd dk (bf.imp id (fun e=>by rw[e];simp));have e4:w5.heap[c]?=U.heap[c]?:=dk.block c C (fun e=>ay e.symm);have x4:=(As (a:=(G c (o+1))) e4).trans c1;have f4:=(GW (a:=(G c (o+1))) e4).trans f1;have dm:=O gm;have eI:c<w5.heap.size:=At C dk.size;clear bd cN dk gm e4 bf)|go_in);obtain⟨WL,eh⟩:∃WL,WL=w5.setCell (G c (o+1)) (S9 g4 (l.m+1) aq):=⟨_,rfl⟩;rw[<-eh]at dm;rw[<-eh];clear eh;have cj:=O dm.1;have br:=O (bq.trans dm.2);clear dm bq E HG gl ay hU x4 f4 eI c1 f1 C hT eF di b5;have hV:l.x<=4000:=by have h:=R.sz;unfold Lr at h;omega
  go_loopw [7] (fun _ wr=>∃(f:Nat) (t:Dc) (u1 u2:V9),CG hf f t=CG hf (l.x+1) (BX l k v)/\Fg t.X t.x<f/\t.m+f=l.m+1+(l.x+1)/\Cj K hf t/\t.n=l.n+1/\AH wr c o B (S9 g3 (l.n+1) r) u1 u2 t/\CQ c o v0 (.slice ia l.m ic) v2 w (S9 g3 (l.n+1) r) u1 u2 wr) (fun _ wr=>(l.m+1+(l.x+1))-YT wr c o)
  case atStart=>exact⟨l.x+1,BX l k v,_,_,rfl,by have:=Mn l.X l.x;show Fg l.X l.x<_;omega,rfl,gj,rfl,cj,br⟩
  case round=>
   clear cj br gj;obtain⟨f,t,u1,u2,gn,h9,iw,bx,dn,hd,ch⟩:=hrel;obtain⟨az,aM,e1,ca⟩:=hd.ints.at;obtain⟨gp,dp,e2,cb⟩:=hd.index.at;have gq:=bx.sz;have ix:t.x<=4000:=by unfold Lr at gq;omega
   have b5:Hid (0<t.x->∃g cp,u2=S9 g t.x cp):=O (fun h=>by obtain⟨g,cp,h,_⟩:=hd.index.form h;exact⟨g,cp,h⟩);have hP:KC wr c o (some (G g3 0)) r az aM gp dp t:=⟨hd.lt,by rw[hd.c0,dn],by rw[hd.c1,e1],by rw[hd.c2,e2],hd.c3,hd.c4,hd.c5,by have hl:=hd.log;rw[dn]at hl;obtain⟨a,cp,e,h⟩:=hl.at;cases e;rw[dn];exact h,ca,cb⟩;have gu:Small t:=⟨oa,oa,oa⟩;subst e1 e2;have HP:=O hP;have hX:=O gu;have HD:=O hd;have dj:=O ch;have av:=O bx;have ei:=O gn;have c1:=hd.c1;have C:=hd.lt;have eP:=O (Sr hd.c1);have hY:=O (HH _ (dh.own ((t.m:Int)+1)));have ib:IntKind.i64.wrap ((t.m:Int)+1)=(t.m:Int)+1:=by rw[Hi];omega
   clear ca cb hP gu hd ch bx gn gq;go_wp2_with fail;refine m9 (Pw ((t.m:Int)+1) _) fun w6 ck=>?_;have gv:=O (HP.below ck);have cj:=O (HD.below ck);have c6:=O (dj.trans (CQ.Ar ck C));have ah:=At C ck.size;clear ck HP HD dj c1 C;go_wp2_with fail;refine m9 (Jv c o (some (G g3 0)) r az aM gp dp t (Dm ((t.m:Int)+1)) (hf (Dm ((t.m:Int)+1))) _ gv hX av.d4 hY) fun w7 ej=>?_;have M:=O (cj.below ej);have bz:=O (c6.trans (CQ.Ar ej ah));clear ej gv cj c6 ah;have c1:=M.c1;have c2:=M.c2;have f1:=M.fz (o+1);have C:=M.lt;have iy:=M.base;cases b6:AQ t (Dm ((t.m:Int)+1)) (hf (Dm ((t.m:Int)+1)))with
   |none=>
    have eR:Hid (t=CG hf (l.x+1) (BX l k v)):=O (by rw[<-z ei,FE b6]);simp only[Fb];clear b6 c1 c2 f1;go_wp2;refine E1 (Aay rfl _ _ _) rfl ?_;refine⟨⟨_,rfl⟩,_,_,_,?_,bz⟩;rw[z b4,z HR,<-z eR];exact M
   |some s=>
    obtain⟨aw,bm,bn,hZ⟩:=av.slot b6;obtain⟨f',rfl⟩:∃f',f=f'+1:=⟨f-1,oa⟩;have eS:Hid (CG hf f' (Eb t s)=CG hf (l.x+1) (BX l k v)):=O (by rw[<-z ei,FF b6]);have dc:=O (K6 dh av b6);have gw:=JD (X:=t.X) bm t.x;rw[DD aw]at gw;have eT:Hid (Fg (Eb t s).X (Eb t s).x<f'):=O (by show Fg (AP t.X s (-1)) t.x<f';omega);obtain⟨g,cp,eg⟩:=z b5 oa;cases eg;obtain⟨g',hO,eb,hQ,ec,hR,hcs,cg⟩:=M.index.form oa;cases eb;have e0:=hcs s aw;have f0:=cg s;have ef:g≠c:=fun e=>M.nc (.inr (.inr (by rw[<-e];rfl)));have gx:0<t.X s/\t.X s<=1001:=⟨bm,oj bn.1⟩;simp only[Fb];have iz:=O gx;clear b6 bm bn hZ hcs cg gw gx;go_wp2_with fail;have b9:Hid (BG w7.drew B (.slice az t.m aM) t.m t.I):=O M.ints.drew;have ax:(Value.slice az t.m aM).ownBlock≠some c:=fun e=>M.nc (.inr (.inl e));have gy:(Value.slice az t.m aM).ownBlock≠some g:=fun e=>M.ap g e rfl;have ay:=O (And.intro ax gy);have HG:Hid (∀(g5 a6:Nat) (w9:Y),w9.ownsRow B 3 1 (S9 g5 (t.m+1) a6) (t.m+1) (iL t.I t.m++[J (t.X s)])->w7.grownBy w9 (Value.slice az t.m aM).ownBlock->((Value.slice az t.m aM).ownBlock=some g5\/w7.heap.size<=g5)->
      AH ((w9.setCell (G c (o+1)) (S9 g5 (t.m+1) a6)).setCell (G g s) (J (-1))) c o B (S9 g3 (l.n+1) r) (S9 g5 (t.m+1) a6) (S9 g t.x dp) (Eb t s)/\CQ c o v0 (.slice ia l.m ic) v2 w (S9 g3 (l.n+1) r) (S9 g5 (t.m+1) a6) (S9 g t.x dp) ((w9.setCell (G c (o+1)) (S9 g5 (t.m+1) a6)).setCell (G g s) (J (-1)))):=O (fun g5 a6 w9 h1 h2 h3=>by
     rw[Vh]at h1;obtain⟨a1,a2⟩:=M.eB h2 h1 (fun b e=>by rw[<-ownB e];exact h3);exact⟨AH.SN (d:={t with m:=t.m+1,I:=AP t.I t.m (t.X s)}) a1 (i:=s) aw (-1),(bz.trans a2).trans (EL (q:=s) (J (-1)) (.inr (.inr rfl)) ef)⟩)
    clear ax gy M bz av ei b5
    go_region_law (refine Aaa _ rfl (.tmp 98) (.tmp 106) 90 rfl B 3 j0 (J 0) 1 8 underlying90 ji du dv dw rfl oc (.slice az t.m aM) t.m (iL t.I t.m) (by simp[Act.eval]) (b9.alloc _) (G w7.heap.size 0) 1 1 [J (t.X s)] (by simp[Act.eval]) rfl (H8 (BE _ _)) (by simp[Value.oneCell']) oc (by unfold maxLen;omega) oa oe _ rfl ?_;intro g5 a6 w9 bg c7 bh ie;have b7:=Na c7;have gE:=z HG g5 a6 w9 bg b7 (bh.imp id (fun e=>by rw[e];simp));have e5:w9.heap[c]?=w7.heap[c]?:=b7.block c C (fun e=>ay.1 e.symm);have e6:w9.heap[g]?=w7.heap[g]?:=b7.block g ec (fun e=>ay.2 e.symm);have x5:=(As (a:=(G c (o+1))) e5).trans c1;have x6:=(As (a:=(G c (o+2))) e5).trans c2;have y5:=(As (a:=(G g s)) e6).trans e0;have z5:=(GW (a:=(G g s)) e6).trans f0;have f5:=(GW (a:=(G c (o+1))) e5).trans f1;have ig:=At C b7.size;have ih:=At ec b7.size;have ek:=O gE;clear bg c7 b7 gE e5 e6 bh HG)
    all_goals
     go_wp2;go_roundw
     case rel=>exact⟨f',Eb t s,_,_,eS,eT,by show t.m+1+f'=_;omega,dc,dn,ek.1,ek.2⟩
     case measure=>
      rw[Sr (z ek).1.c1,z eP];omega
 have HR:Hid (Bd hf l k v=AL hf (BZ (Cw hf l) k v) k l.n):=O (by unfold Bd;rw[C3 (z gi),C3 hx]);have hV:l.x<=4000:=by have h:=R.sz;unfold Lr at h;omega
 have i1:0<=l.used/\l.used<=4000:=by have h1:=R.used;have h2:=VL l.X l.x;omega
 have ao:Hid (∀(Q:Prop),(k.kind≠2->Q)->(k.kind=2->k.num≠(l.m:Int)+1->Q)->Q):=O (fun Q h1 h2=>by
  by_cases e:k.kind=2
  ·exact h2 e (fun e'=>hx ⟨e,e'⟩)
  ·exact h1 e)
 clear hx;have c2:=H.c2;have c3:=H.c3;have bj:(BZ l k v).used=l.used:=rfl;rw[bj]at c3;obtain⟨lb,h0,eo,h4,dq,eX,ai,aj⟩:=H.log.form (by show 0<l.n+1;omega);cases eo;have cl:=(ai l.n (by show l.n<l.n+1;omega)).tn;have hL:(BZ l k v).L l.n=⟨k,v,l.turns+1⟩:=BQ;rw[hL]at cl;have cl:w4.cell? (G g3 (l.n*11+10))=some (J (l.turns+1)):=cl;have gN:=aj (l.n*11+10);have i6:IntKind.i64.wrap (l.used+1)=l.used+1:=by rw[Hi];omega
 have i7:IntKind.i64.wrap (2*(l.used+1))=2*(l.used+1):=by rw[Hi];omega
 have c0:=H.c0;have ja:(BZ l k v).n=l.n+1:=rfl;have b0:g3≠c:=fun e=>H.nc (.inl (by rw[<-e];rfl));have ad:=O (Gu (hf:=hf) R dz.1);have h5:Hid (∀(U:Y),B9 w4 U->True):=O (fun _ _=>trivial);clear h5 ai aj hL bj di b5;refine ao _ (fun DI=>?_) (fun DI gS=>?_)
 focus
  have au:(k.kind==2)=false:=by simp[DI]
  clear DI ao;go_wp2_with fail
  go_quiet (fail)
 rotate_left
 focus
  have au:(k.kind==2)=true:=by simp[DI]
  have bw:(k.num==(l.m:Int)+1)=false:=by simp[gS]
  clear DI gS ao;go_wp2_with fail
  go_quiet (fail)
  clear bw
 rotate_left;all_goals
  obtain⟨U,bp⟩:∃U,U=w4.drewN nq:=⟨_,rfl⟩;rw[<-bp];have S:B9 w4 U:=by rw[bp];exact AW (Cs _ _) _
  clear bp;have E:=O (H.below S);have bq:=O (cd.trans (CQ.Ar S C));have b1:=O (ar.step (CQ.Ar (o:=o) S C));have c0:U.cell? (G c o)=some (S9 g3 (l.n+1) r):=E.c0;have c2:U.cell? (G c (o+2))=some (.slice xa l.x xc):=E.c2;have c3:U.cell? (G c (o+3))=some (J l.used):=E.c3;have cl:=ol S dq cl;have gN:=om S dq gN;have dq:=At dq S.size;have C:=At C S.size;clear bl k0 k1 k2 k3 k4;obtain⟨bl,k0,k1,k2,k3,k4⟩:=b1.box;clear S H cd ar cz au;by_cases P:(l.x:Int)<2*(l.used+1)
  ·have dr:Hid (Cw hf l=AX hf l 1):=O (DD P);have h6:decide ((l.x:Int)<2*(l.used+1))=true:=by simp[P]
   have ij:=R.core.YC;have ep:BI l l.n+1<=500:=oa;have hz:AH (U.setCell (G g3 (l.n*11+10)) (J 0)) c o B (S9 g3 (l.n+1) r) (.slice ia l.m ic) (.slice xa l.x xc) (CE l k v):=by
    have h:=AH.kI (d:=BZ l k v) E (i:=l.n) (by show l.n<l.n+1;omega) 10 oa (J 0) ⟨k,v,0⟩ (by rw[BQ];rfl);refine h.of_same rfl (fun i _=>?_) rfl (fun _ _=>rfl) rfl (fun _ _=>rfl) rfl rfl rfl;show AP l.L l.n ⟨k,v,0⟩ i=AP (AP l.L l.n ⟨k,v,l.turns+1⟩) l.n ⟨k,v,0⟩ i;rw[VK]
   have gT:=bq.trans (EL (v1:=.slice ia l.m ic) (v2:=.slice xa l.x xc) (q:=l.n*11+10) (J 0) (.inl rfl) b0);have c8:CQ c o (S9 g3 (l.n+1) r) (.slice ia l.m ic) (.slice xa l.x xc) U (S9 g3 (l.n+1) r) (.slice ia l.m ic) (.slice xa l.x xc) (U.setCell (G g3 (l.n*11+10)) (J 0)):=EL (q:=l.n*11+10) (J 0) (.inl rfl) b0;have HZ:=O (hz.below (Cs _ _).drew);have ha:=O (gT.trans (CQ.Ar (Cs _ _).drew (by simpa using C)));have hb:=O ((b1.step c8).step (CQ.Ar (o:=o) (Cs _ _).drew (by simpa using C)));have hg:Small (CE l k v):=⟨by show l.n+1<=_;omega,by show l.m<=_;omega,by show l.x<=_;omega⟩;have hn:=O hg;have ho:Hid (∀i,i<(CE l k v).n->AO (CE l k v) i->XT ((CE l k v).L i).key (hf ((CE l k v).L i).key)):=O (fun i hi hx=>by
    have hi:i<l.n+1:=hi;by_cases e:i=l.n
    ·subst e;exact absurd hx KN
    ·have eu:i<l.n:=oa;rw[MQ eu];exact HH _ (R.keys i eu (oj ((Fc eu).1 hx).1)))
   clear hz gT c8 hg P E bq b1 bl k0 k1 k2 k3 k4;go_wp2_with fail
   go_region
   go_wp2_with fail
   refine(Jd hf c o B _ _ _ (CE l k v) 1 _ HZ hn (by rw[KM];exact ep) ho).mono ?_;rintro e w6 ⟨⟨u9,rfl⟩,t9,hp,ev⟩;have b2:=O (hb.step ev);have br:=O (ha.trans ev);have A:=NR (hf:=hf) (d:=CE l k v) (more:=1) (by rw[KM];exact ep);have jb:(AX hf (CE l k v) 1).n=l.n+1:=A.n;have b8:AH w6 c o B (S9 g3 (l.n+1) r) (.slice ia l.m ic) t9 {CE l k v with x:=(AX hf (CE l k v) 1).x,X:=(AX hf (CE l k v) 1).X,used:=(AX hf (CE l k v) 1).used}:=hp.of_same A.n.symm (fun i _=>by rw[A.L]) A.m.symm (fun i _=>by rw[A.I]) rfl (fun _ _=>rfl) rfl A.live.symm A.turns.symm;obtain⟨lb,h0,eo,h4,ik,eX,ai,aj⟩:=b8.log.form (by show 0<l.n+1;omega);cases eo;have c9:=(ai l.n (by show l.n<l.n+1;omega)).tn;have il:=aj (l.n*11+10);have jc:w6.cell? (G g3 (l.n*11+10))=some (J 0):=by
    have hL:(CE l k v).L l.n=⟨k,v,0⟩:=Ao _ _ _;have h:=c9;rw[hL]at h;exact h
   have ah:=b8.lt;have jd:w6.cell? (G c o)=some (S9 g3 (l.n+1) r):=b8.c0;have je:w6.cell? (G c (o+5))=some (J (l.turns+1)):=b8.c5;have h8:AH (w6.setCell (G g3 (l.n*11+10)) (J (l.turns+1))) c o B (S9 g3 (l.n+1) r) (.slice ia l.m ic) t9 (BZ (Cw hf l) k v):=by
    have h:=AH.kI (d:={CE l k v with x:=(AX hf (CE l k v) 1).x,X:=(AX hf (CE l k v) 1).X,used:=(AX hf (CE l k v) 1).used}) b8 (i:=l.n) (by show l.n<l.n+1;omega) 10 oa (J (l.turns+1)) ⟨k,v,l.turns+1⟩ (by show _=(Db ((CE l k v).L l.n)).set 10 _;rw[show(CE l k v).L l.n=⟨k,v,0⟩from Ao _ _ _];rfl);rw[z dr,<-Qe ep];refine h.of_same A.n (fun i _=>?_) A.m (fun i _=>by rw[show({AX hf (CE l k v) 1 with L:=AP l.L l.n ⟨k,v,l.turns+1⟩}:Dc).I=(AX hf (CE l k v) 1).I from rfl,A.I]) rfl (fun _ _=>rfl) rfl A.live A.turns;show AP l.L l.n ⟨k,v,l.turns+1⟩ i=AP (AP l.L l.n ⟨k,v,0⟩) l.n ⟨k,v,l.turns+1⟩ i;rw[VK]
   have b3:CQ c o (S9 g3 (l.n+1) r) (.slice ia l.m ic) t9 w6 (S9 g3 (l.n+1) r) (.slice ia l.m ic) t9 (w6.setCell (G g3 (l.n*11+10)) (J (l.turns+1))):=EL (q:=l.n*11+10) (J (l.turns+1)) (.inl rfl) b0;have hr:=O (h8.below (Cs _ _).drew);have hB:=O ((br.trans b3).trans (CQ.Ar (Cs _ _).drew (by simpa using ah)));have da:=O ((b2.step b3).step (CQ.Ar (o:=o) (Cs _ _).drew (by simpa using ah)));have im:=b2.nc;clear hp ev b8 h8 b3 ai aj c9 A HZ ha hb b2 br ho hn;go_wp2_with fail
   go_region
   obtain⟨W8,ew⟩:∃W8,W8=(w6.setCell (G g3 (l.n*11+10)) (J (l.turns+1))).drew:=⟨_,rfl⟩;rw[<-ew];rw[<-ew]at hr hB da;clear ew;obtain⟨bl,k0,k1,k2,k3,k4⟩:=da.box;have a7:=ad.1;have dt:=ad.2.1;have cm:=a7.sz;have ey:=a7.used;have cn:8<=(Cw hf l).x/\(Cw hf l).x<=4000/\LR (Cw hf l).x:=cm.resolve_left oa;have cq:=z HH k HK.1;have D:=O (And.intro cn (And.intro (show B5 (Cw hf l).X (Cw hf l).x<(Cw hf l).x by omega) (And.intro (show 0<=(Cw hf l).used/\(Cw hf l).used<=4000 by omega) cq)));clear a7 dt cm ey cn cq;go_wp2_with fail;refine(H6 hf c o B _ _ t9 (BZ (Cw hf l) k v) k l.n _ hr D.1 D.2.1 D.2.2.1 oa D.2.2.2).mono ?_;rintro e w9 ⟨⟨⟨u8,rfl⟩,cr⟩,ct⟩;have ez:=O cr;have eA:=O (hB.trans ct);clear cr ct;go_wp2;go_end0;exact⟨⟨_,rfl⟩,_,_,_,by rw[z b4,z HR];exact ez,eA⟩
  ·have dr:Hid (Cw hf l=l):=O (C3 P);have h6:decide ((l.x:Int)<2*(l.used+1))=false:=by simp[P]
   have a7:=ad.1;have dt:=ad.2.1;rw[z dr]at a7 dt;have cm:=a7.sz;have ey:=a7.used;have cn:8<=l.x/\l.x<=4000/\LR l.x:=cm.resolve_left oa;have cq:=z HH k HK.1;have D:=O (And.intro cn (And.intro (show B5 l.X l.x<l.x by omega) (And.intro (show 0<=l.used/\l.used<=4000 by omega) cq)));have h7:=O (E.below (Cs _ _).drew);have br:=O (bq.trans (CQ.Ar (Cs _ _).drew C));clear a7 dt cm ey cn cq P E bq;go_wp2_with fail
   go_region
   go_wp2_with fail
   refine(H6 hf c o B _ _ (.slice xa l.x xc) (BZ l k v) k l.n _ h7 D.1 D.2.1 D.2.2.1 oa D.2.2.2).mono ?_;rintro e w9 ⟨⟨⟨u8,rfl⟩,cr⟩,ct⟩;have ez:=O cr;have eA:=O (br.trans ct);clear cr ct;go_wp2;go_end0;exact⟨⟨_,rfl⟩,_,_,_,by rw[z b4,z HR,z dr];exact ez,eA⟩
def UB:List Value->Nat->List Value->List Value
 |xs,_,[]=>xs
 |xs,q,u::us=>UB (xs.set q u) (q+1) us
def Gw(g:Nat):World->Nat->List Value->World
 |w,_,[]=>w
 |w,q,u::us=>Gw g (w.setCell (G g q) u) (q+1) us
theorem SW:∀(us xs:List Value) (q j:Nat),q+us.length<=xs.length->(UB xs q us)[j]?=if q<=j/\j<q+us.length then us[j-q]? else xs[j]?:=by
 intro us
 induction us with
 |nil=>intro xs q j _;rw[C3 od];rfl
 |cons u us ih=>
  intro xs q j h;simp only[Aae]at h ⊢;show(UB (xs.set q u) (q+1) us)[j]?=_;rw[ih _ _ _ oe,List.getElem?_set];by_cases e:j=q
  ·subst e;rw[C3 oa,DD rfl,DD oa,DD oa,Nat.sub_self];rfl
  ·by_cases e2:q+1<=j/\j<q+1+us.length
   ·rw[DD e2,DD oa];obtain⟨i,hi⟩:∃i,j-q=i+1:=⟨j-q-1,oa⟩;rw[hi,show j-(q+1)=i by omega];rfl
   ·rw[C3 e2,C3 (fun e'=>e e'.symm),C3 oa]
theorem SG{cap:Nat}:∀(us:List Value) (w:Y) (q:Nat) (xs:List Value),w.ownsRow B e size (S9 g n cap) n xs->(Gw g w q us).ownsRow B e size (S9 g n cap) n (UB xs q us):=by
 intro us
 induction us with
 |nil=>intro w q xs h;exact h
 |cons u us ih=>intro w q xs h;exact ih _ _ _ (X9 h q u).1
theorem NW:∀(us:List Value) (w:Y) (q b:Nat),b≠g->(Gw g w q us).heap[b]?=w.heap[b]?:=by
 intro us
 induction us with
 |nil=>intro w q b _;rfl
 |cons u us ih=>intro w q b hb;exact(ih _ _ _ hb).trans (A0 _ _ _ _ (by exact hb))
theorem PU:∀(us:List Value) (w:Y) (q:Nat),(Gw g w q us).heap.size=w.heap.size/\(Gw g w q us).os=w.os/\(Gw g w q us).tape=w.tape/\(Gw g w q us).output=w.output:=by
 intro us
 induction us with
 |nil=>intro w q;exact⟨rfl,rfl,rfl,rfl⟩
 |cons u us ih=>intro w q;obtain⟨h1,h2,h3,h4⟩:=ih (w.setCell (G g q) u) (q+1);exact⟨h1.trans od,h2,h3,h4⟩
theorem cL(f:Nat->Pr)(n i a:Nat)(us:List Value)(p:Pr)(hi:i<n)(c:a+us.length<=11)(b:∀j,(Db p)[j]?=if a<=j/\j<a+us.length then us[j-a]? else(Db (f i))[j]?):UB (pL f n) (i*11+a) us=pL (AP f i p) n:=by
 apply AaQ;intro q;rw[SW _ _ _ _ (by rw[CU];omega)];by_cases hq:q<n*11
 ·have e1:q=q/11*11+q%11:=oa;have h1:q/11<n:=oa;have h2:q%11<11:=TO _ oa;have g1:(pL f n)[q]?=(Db (f (q/11)))[q%11]?:=by have:=Ig (f:=f) h1 h2;rwa [<-e1]at this
  have g2:(pL (AP f i p) n)[q]?=(Db (AP f i p (q/11)))[q%11]?:=by have:=Ig (f:=AP f i p) h1 h2;rwa [<-e1]at this
  rw[g2];by_cases e:q/11=i
  ·rw[e,Ao,b (q%11)];by_cases e2:a<=q%11/\q%11<a+us.length
   ·rw[DD oa,DD e2,show q-(i*11+a)=q%11-a by omega]
   ·rw[C3 oa,C3 e2,g1,e]
  ·rw[Af _ _ e,C3 oa,g1]
 ·rw[C3 oa,NB (by rw[CU];omega),NB (by rw[CU];omega)]
theorem AH.eJ(h:AH w c o B (S9 g d.n k) v1 v2 d){i:Nat}(hi:i<d.n)(a:Nat)(us:List Value)(p:Pr)(s:a+us.length<=11)(t:∀j,(Db p)[j]?=if a<=j/\j<a+us.length then us[j-a]? else(Db (d.L i))[j]?):
  AH (Gw g w (i*11+a) us) c o B (S9 g d.n k) v1 v2 {d with L:=AP d.L i p}/\CQ c o (S9 g d.n k) v1 v2 w (S9 g d.n k) v1 v2 (Gw g w (i*11+a) us):=by
 obtain⟨s1,s2,l,m⟩:=PU (g:=g) us w (i*11+a);have hc:c≠g:=fun e=>h.nc (.inl (by rw[e];rfl));have eb:=NW (g:=g) us w (i*11+a);have f:∀q,(Gw g w (i*11+a) us).cell? (G c q)=w.cell? (G c q):=fun q=>As (eb c hc);have hl:=SG (g:=g) us w (i*11+a) _ h.log;rw[cL d.L d.n i a us p hi s t]at hl;have r:w.grownBy (Gw g w (i*11+a) us) (some g):=⟨s2,l,m,Nat.le_of_eq s1.symm,fun b _ hb=>eb b (fun e=>hb (by rw[e]))⟩;have u:=IM h.ints r (fun b e=>by cases e;exact Dy h.log h.ints rfl);have kx:=IM h.index r (fun b e=>by cases e;exact Dy h.log h.index rfl);exact⟨⟨by rw[s1];exact h.lt,(f _).trans h.c0,(f _).trans h.c1,(f _).trans h.c2,(f _).trans h.c3,(f _).trans h.c4,(f _).trans h.c5,fun q=>(GW (eb c hc)).trans (h.fz q),hl,u,kx,h.ap,h.nc,by rw[s1];exact h.base⟩,⟨s2,l,m,Nat.le_of_eq s1.symm,fun b _ _ v=>eb b (fun e=>v (.inl (by rw[e];rfl))),fun q _=>f q,fun b e=>.inl e,.same (eb c hc)⟩⟩
theorem AH.kill(h:AH w c o B (S9 g d.n a) v1 v2 d){i:Nat}(hi:i<d.n):
  AH (Gw g w (i*11+0) (Db default)) c o B (S9 g d.n a) v1 v2 {d with L:=AP d.L i default}/\CQ c o (S9 g d.n a) v1 v2 w (S9 g d.n a) v1 v2 (Gw g w (i*11+0) (Db default)):=
 h.eJ hi 0 (Db default) default (by simp[Db]) (fun j=>by
  by_cases e:j<11
  ·rw[DD (by simp[Db];omega),Nat.sub_zero]
  ·rw[NB (by simp[Db];omega),C3 (by simp[Db];omega),NB (by simp[Db];omega)])
abbrev vL(v:Vl):List Value:=[J v.kind,J v.num,F9 v.Ag,.string v.str,J v.ref]
theorem AH.mX(h:AH w c o B (S9 g d.n a) v1 v2 d){i:Nat}(hi:i<d.n)(v:Vl):
  AH (Gw g w (i*11+5) (vL v)) c o B (S9 g d.n a) v1 v2 (I7 d i v)/\CQ c o (S9 g d.n a) v1 v2 w (S9 g d.n a) v1 v2 (Gw g w (i*11+5) (vL v)):=
 h.eJ hi 5 (vL v) ⟨(d.L i).key,v,(d.L i).turn⟩ od (fun j=>by
  match j with
  |0|1|2|3|4|5|6|7|8|9|10=>rfl
  |n+11=>rw[C3 od,NB (by simp[Db]),NB (by simp[Db])])
theorem Gp(h:Ax n f=0){j:Nat}(hj:j<n){i:Nat}(hi:i<nf f j):(Dr f j i).size<=4000:=by
 obtain⟨h1,h2,h3,h4,h5⟩:=AB h;have a:=Mi h2 h3 hj (t:=nf f j-1-i) oa;have hb:=(Ez h2 h3 hj (nf f j-1-i) oa).1;exact(h3 _ a hb).2.2.2.2
theorem Wd(h:Ax n f=0){j:Nat}(hj:j<n){q i:Nat}(hq:q<i)(hi:i<nf f j):(Dr f j q).toList≠(Dr f j i).toList:=by
 obtain⟨h1,h2,h3,h4,h5⟩:=AB h;exact fun e=>KP h2 h3 h5 hj (t:=nf f j-1-i) (u:=nf f j-1-q) oa oa e.symm
structure Lp (F:Nat->A3) (j i:Nat) (d:Dc):Prop where
 inv:Inv Ky hN d
 keys:∀p,Has d p->∃q,q<i/\p.key=BA (Dr F j q)
 live:0<=d.live/\d.live<=i
 turns:0<=d.turns/\d.turns<=i
theorem Lp.no(h:Ax n F=0){j:Nat}(hj:j<n){i:Nat}{d:Dc}(a:Lp F j i d)(hi:i<nf F j):∀q,q<d.n->(d.L q).turn≠0->AE (d.L q).key (BA (Dr F j i))=false:=by
 intro q h1 h2;obtain⟨r,b,e⟩:=a.keys _ (GI h1 h2);cases hl:AE (d.L q).key (BA (Dr F j i))
 ·rfl
 ·have:=(H9 hl).2.1;rw[e]at this;exact absurd this (Wd h hj b hi)
theorem Lp.place(h:Ax n F=0){j:Nat}(hj:j<n){i:Nat}{d:Dc}(a:Lp F j i d)(hi:i<nf F j):Aw d (BA (Dr F j i)) (hN (BA (Dr F j i)))<0:=by
 rcases a.inv.i0.place Ca (F8 (Gp h hj hi))with⟨q,h1,h2,h3,h4⟩|⟨h1,h2⟩
 ·rw[a.no h hj hi q h1 h2]at h3;cases h3
 ·omega
theorem JB(h:Ax n F=0){j:Nat}(hj:j<n){i:Nat}{d:Dc}(a:Lp F j i d)(hi:i<nf F j){v:Vl}(b:OV v=true):
  Cf hN d (BA (Dr F j i)) v=Hd hN d (BA (Dr F j i)) v/\Lp F j (i+1) (Cf hN d (BA (Dr F j i)) v):=by
 have hky:=F8 (Gp h hj hi);have hv':v.ok=true/\v.kind≠0:=by simpa[OV]using b
 have hn:=Gq h hj;have h1:=a.live;have h2:=a.turns;refine⟨Fp (oj (a.place h hj hi)) ⟨hv'.2,oa,oa⟩,Ij Ca a.inv hky hky.1 hv'.1,fun p c=>?_,?_,?_⟩
 ·rcases Kg Ca a.inv hky hky.1 hv'.1 with⟨q,a1,a2,a3,_⟩|⟨q,a1,a2,a3,_⟩|⟨a1,a2,a3,_⟩|⟨a1,a2,a3⟩
  ·exact absurd a3 hv'.2
  ·obtain⟨k,k1,k2,rfl⟩:=a1;rw[a.no h hj hi k k1 k2]at a2;cases a2
  ·rcases(a3 p).1 c with e|e
   ·obtain⟨q,g,f⟩:=a.keys p e;exact⟨q,oa,f⟩
   ·exact⟨i,oa,by rw[e]⟩
  ·exact absurd ⟨hv'.2,oa,oa⟩ a2
 ·rcases Kg Ca a.inv hky hky.1 hv'.1 with⟨q,a1,a2,a3,_⟩|⟨q,a1,a2,a3,_⟩|⟨a1,a2,a3,a4,a5⟩|⟨a1,a2,a3⟩
  ·exact absurd a3 hv'.2
  ·obtain⟨k,k1,k2,rfl⟩:=a1;rw[a.no h hj hi k k1 k2]at a2;cases a2
  ·rw[a4];exact⟨oa,by push_cast;omega⟩
  ·exact absurd ⟨hv'.2,oa,oa⟩ a2
 ·rcases Kg Ca a.inv hky hky.1 hv'.1 with⟨q,a1,a2,a3,_⟩|⟨q,a1,a2,a3,_⟩|⟨a1,a2,a3,a4,a5⟩|⟨a1,a2,a3⟩
  ·exact absurd a3 hv'.2
  ·obtain⟨k,k1,k2,rfl⟩:=a1;rw[a.no h hj hi k k1 k2]at a2;cases a2
  ·rw[a5];exact⟨oa,by push_cast;omega⟩
  ·exact absurd ⟨hv'.2,oa,oa⟩ a2
theorem PA(h:Ax n F=0){j:Nat}(hj:j<n){W:Nat->Vl}(a:∀i,i<nf F j->OV (W i)=true):∀i,i<=nf F j->Lp F j i (Av F j W i)
 |0,_=>⟨QS,fun p b=>by obtain⟨q,h1,_⟩:=b;exact absurd h1 (OR _),⟨AaI _,AaI _⟩,⟨AaI _,AaI _⟩⟩
 |i+1,hi=>(JB h hj (PA h hj a i oa) oa (a i oa)).2
theorem comeC_str{c:Dc}{k:Vl}(h:Cj Ky hN c)(a:k.kind=4)(hl:c.live<500):(Bd hN c k v).m=c.m:=by
 unfold Bd;rw[C3 (fun h=>by have h1:k.kind=2:=h.1;omega),C3 (fun h=>by have h1:k.kind=2:=h.1;omega),U5];exact(Gu h hl).2.2.m
structure P6 (F:Nat->A3) (j:Nat) (W:Nat->Vl) (i:Nat) (d:Dc):Prop where
 ls:Lp F j i d
 n:d.n=i
 live:d.live=i
 turns:d.turns=i
 m:d.m=0
 L:∀q,q<i->d.L q=⟨BA (Dr F j q),W q,(q:Int)+1⟩
theorem Fo(h:Ax n F=0){j:Nat}(hj:j<n){W:Nat->Vl}(a:∀i,i<nf F j->OV (W i)=true):∀i,i<=nf F j->P6 F j W i (Av F j W i)
 |0,hi=>⟨PA h hj a 0 hi,rfl,rfl,rfl,rfl,fun q hq=>absurd hq (OR _)⟩
 |i+1,hi=>by
  have ih:=Fo h hj a i oa;have hn:=Gq h hj;obtain⟨e1,e2⟩:=JB h hj ih.ls oa (a i oa);have hky:=F8 (Gp h hj (show i<nf F j by omega));have hv':(W i).ok=true/\(W i).kind≠0:=by simpa[OV]using a i oa
  have hc:Ap hN (Av F j W i)=Av F j W i:=DD (.inr (by rw[ih.n,ih.live];omega));have e3:Av F j W (i+1)=Bd hN (Av F j W i) (BA (Dr F j i)) (W i):=by
   show Cf hN _ _ _=_;rw[e1];show Bd hN (Ap hN (Av F j W i)) _ _=_;rw[hc]
  have hl:(Av F j W i).live<500:=by rw[ih.live];omega
  obtain⟨_,_,c3,c4,c5,c6⟩:=IB Ca ih.ls.inv.i0 ih.ls.inv.next hky hky.1 hv'.1 hv'.2 (ih.ls.no h hj (show i<nf F j by omega)) hl (by rw[ih.turns];omega);refine⟨e2,by rw[e3,c3,ih.n],by rw[e3,c5,ih.live];push_cast;rfl,by rw[e3,c6,ih.turns];push_cast;rfl,by rw[e3,comeC_str ih.ls.inv.i0 rfl hl,ih.m],fun q hq=>?_⟩;rw[e3,c4,ih.n,ih.turns];by_cases e:q=i
  ·subst e;exact Ao _ _ _
  ·rw[Af _ _ e];exact ih.L q oa
theorem Zr{m:Nat}{f:Nat->List Value}(hf:∀i,(f i).length=m)(n i a:Nat)(us p:List Value)(hi:i<n)(o:a+us.length<=m)(hl:p.length=m)(d:∀j,p[j]?=if a<=j/\j<a+us.length then us[j-a]? else(f i)[j]?):UB (JF f n) (i*m+a) us=JF (AY f i p) n:=by
 have c:∀k,(AY f i p k).length=m:=fun k=>by
  by_cases e:k=i
  ·rw[e,Ak];exact hl
  ·rw[Al _ _ e];exact hf k
 have b:=Ch hf n;have g:i*m+m<=n*m:=by rw[<-Nat.succ_mul];exact VC _ hi
 apply AaQ;intro q;rw[SW _ _ _ _ (by rw[b];omega)];by_cases hq:q<n*m
 ·have l:0<m:=by
   rcases W0 m with h|h
   ·subst h;omega
   ·exact h
  have h2:q%m<m:=TO _ l;have e1:q=q/m*m+q%m:=by have:=Nat.div_add_mod q m;rw[Aan]at this;omega
  have h1:q/m<n:=by
   refine Nat.lt_of_not_le fun h=>?_;have:=VC m h;omega
  have g1:(JF f n)[q]?=(f (q/m))[q%m]?:=by have:=GZ hf h1 h2;rwa [<-e1]at this
  have g2:(JF (AY f i p) n)[q]?=(AY f i p (q/m))[q%m]?:=by have:=GZ c h1 h2;rwa [<-e1]at this
  rw[g2];by_cases e:q/m=i
  ·rw[e,Ak,d (q%m)];rw[e]at e1;by_cases e2:a<=q%m/\q%m<a+us.length
   ·rw[DD oa,DD e2,show q-(i*m+a)=q%m-a by omega]
   ·rw[C3 oa,C3 e2,g1,e]
  ·rw[Al _ _ e,g1,C3];rcases Nat.lt_or_gt_of_ne e with h|h
   ·have:=VC m h;rw[Nat.succ_mul]at this;omega
   ·have:=VC m h;rw[Nat.succ_mul]at this;omega
 ·rw[C3 oa,NB (by rw[b];omega),NB (by rw[Ch c n];omega)]
theorem ZT(H:Nat->Hs)(T:Nat->Tb)(n i:Nat)(h:Hs)(t:Tb)(a:Nat)(us:List Value)(hi:i<n)(b:a+us.length<=8)(c:∀j,(Ks h t)[j]?=if a<=j/\j<a+us.length then us[j-a]? else(Ks (H i) (T i))[j]?):UB (UK H T n) (i*8+a) us=UK (AY H i h) (AY T i t) n:=by
 unfold UK;rw[Zr (m:=8) (fun _=>rfl) n i a us (Ks h t) hi b rfl c];refine CW fun k hk=>?_;by_cases e:k=i
 ·rw[e,Ak,Ak,Ak]
 ·rw[Al _ _ e,Al _ _ e,Al _ _ e]
section
variable {w W:Y} {c B:Nat} {vF vT vS:V9} {H:Nat->Hs} {s:AK}
theorem SM.FM(h:SM w c B vF vT vS H s){t g E:Nat}(o:t<s.nt)(A:vT=S9 g s.nt E)(hb:∀k,k<w.heap.size->¬(H t).own k->W.heap[k]?=w.heap[k]?)(b:W.os=w.os/\W.tape=w.tape/\W.output=w.output/\w.heap.size<=W.heap.size)(a:Nat)(us:List Value){h':Hs}{t':Tb}(F:a+us.length<=8)(K:∀j,(Ks h' t')[j]?=if a<=j/\j<a+us.length then us[j-a]? else(Ks (H t) (s.T t))[j]?)
  (h1:Cp W B h'.v t'.nv t'.V) (h2:Ck W B h'.l t'.d.n t'.d.L) (h3:BG W B h'.i t'.d.m t'.d.I) (h4:BG W B h'.x t'.d.x t'.d.X) (h5:∀q,h'.i.ownBlock=some q->h'.x.ownBlock≠some q) (C:∀q,h'.own q->(H t).own q\/w.heap.size<=q):
  SM (Gw g W (t*8+a) us) c B vF vT vS (AY H t h') (BW s t t')/\Br (A5 c vF vT vS H s.nt) w (A5 c vF vT vS (AY H t h') s.nt) (Gw g W (t*8+a) us):=by
 obtain⟨s1,s2,M,P⟩:=PU (g:=g) us W (t*8+a);have eb:=NW (g:=g) us W (t*8+a);have f:vT.ownBlock=some g:=by rw[A];rfl
 have r:=(h.t.lt g f).2;have p:∀q,h'.own q->q≠g:=fun q e e'=>by
  rcases C q e with h7|h7
  ·exact(h.apart o h7).2.2.1 (by rw[e'];exact f)
  ·omega
 have u:¬(H t).own g:=fun e=>(h.apart o e).2.2.1 f;refine h.table o ⟨s2.trans b.1,M.trans b.2.1,P.trans b.2.2.1,by rw[s1];exact b.2.2.2⟩ (fun k k1 k2 k3=>(eb k (fun e=>k2 (by rw[e];exact f))).trans (hb k k1 k3)) ?_ (Ae h1 fun q e=>eb q (p q (.inl e))) (Ae h2 fun q e=>eb q (p q (.inr (.inl e)))) (Ae h3 fun q e=>eb q (p q (.inr (.inr (.inl e))))) (Ae h4 fun q e=>eb q (p q (.inr (.inr (.inr e))))) h5 C;have D:Rp W B vT s.nt H s.T:=Ae h.t fun q e=>by
  rw[f]at e;cases e;exact hb g r u
 rw[A]at D ⊢;have:=SG (g:=g) us W (t*8+a) _ D
 rwa [ZT H s.T s.nt t h' t' a us o F K]at this
end
def F3(b a nv vc k:Nat)(v:Vl)(W:Y):Prop:=W.cell? (G b 1)=some (S9 a nv vc)/\W.cell? (G a (k*5))=some (J v.kind)/\W.cell? (G a (k*5+1))=some (J v.num)/\W.cell? (G a (k*5+2))=some (F9 v.Ag)/\W.cell? (G a (k*5+3))=some (.string v.str)/\W.cell? (G a (k*5+4))=some (J v.ref)
theorem F3.of{nv vc:Nat}{W':Y}(h:F3 a b nv vc k v W)(h1:W'.heap[a]?=W.heap[a]?)(h2:W'.heap[b]?=W.heap[b]?):F3 a b nv vc k v W':=
 ⟨(As h1).trans h.1,(As h2).trans h.2.1,(As h2).trans h.2.2.1,(As h2).trans h.2.2.2.1,(As h2).trans h.2.2.2.2.1,(As h2).trans h.2.2.2.2.2⟩
def Tx(c db g nt a:Nat)(u0 u1 u2:V9)(d:Dc)(W:Y):Prop:=W.cell? (G c 1)=some (S9 g nt a)/\W.cell? (G db 0)=some u0/\W.cell? (G db 1)=some u1/\W.cell? (G db 2)=some u2/\W.cell? (G db 3)=some (J d.used)/\W.cell? (G db 4)=some (J d.live)/\W.cell? (G db 5)=some (J d.turns)
theorem QL(c B:Nat)(vF vT vS:V9)(H:Nat->Hs)(s:AK)(t j:Nat)(w:Y)(hM:SM w c B vF vT vS H s)(hG:KH s)(ht:t<s.nt)(a6:(s.T t).shape=j)(hj:j<s.nf)(ai:(s.T t).nv=nf s.F j)(aq:∀i,i<(s.T t).nv->OV ((s.T t).V i)=true):
  C9 165 #[Q9 c,J t] w fun e w'=>(∃u,e=.returned u)/\∃h',SM w' c B vF vT vS (AY H t h') (BW s t ⟨-1,0,(s.T t).V,Av s.F j (s.T t).V (s.T t).nv⟩)/\Br (A5 c vF vT vS H s.nt) w (A5 c vF vT vS (AY H t h') s.nt) w':=by
 obtain⟨ay,a7,a8,_,bw⟩:=AB hG.f;have bx:0<s.nf:=oj ay.1;obtain⟨g,cp,rfl,hg,_,hc,bb⟩:=hM.CP ht;obtain⟨fb,fc,rfl,bz,_,hF⟩:=hM.M0 bx;obtain⟨c0,c1,c2,_⟩:=hM.cells;have bc:=hM.lt;obtain⟨va,vc,ev⟩:=Ay (hM.v t ht);obtain⟨la,lc,el,b0⟩:=(hM.l t ht).at;obtain⟨ia,ic,ei,b1⟩:=(hM.i t ht).at;obtain⟨xa,xc,ex,b2⟩:=(hM.x t ht).at;have ar:=hM.v t ht;rw[ev]at ar;obtain⟨y0,y1,y2,y3,y4,y5,y6,y7⟩:=ou hc;rw[ev]at y1;rw[el]at y2;rw[ei]at y3;rw[ex]at y4;rw[a6]at y0;simp only[W4]at y0;have cr:s.nt<=100:=hG.nt;have cq:(s.T t).nv<=12:=by rw[ai];exact Gq hG.f hj
 have bd:Hid (∀i,i<=(s.T t).nv->P6 s.F j (s.T t).V i (Av s.F j (s.T t).V i)):=O (fun i hi=>Fo hG.f hj (fun q hq=>aq q oa) i oa);have az:Hid (∀k,k<(s.T t).nv->Av s.F j (s.T t).V (k+1)=Hd hN (Av s.F j (s.T t).V k) (BA (Dr s.F j k)) ((s.T t).V k)/\Ky (BA (Dr s.F j k))/\((s.T t).V k).ok=true/\((s.T t).V k).kind≠0/\(∀i,i<(Av s.F j (s.T t).V k).n->((Av s.F j (s.T t).V k).L i).turn≠0->AE ((Av s.F j (s.T t).V k).L i).key (BA (Dr s.F j k))=false)):=O (fun k hk=>by
  have hl:=(bd k oa).ls;have hky:=F8 (Gp hG.f hj (show k<nf s.F j by omega));have hv':((s.T t).V k).ok=true/\((s.T t).V k).kind≠0:=by simpa[OV]using aq k hk
  exact⟨(JB hG.f hj hl oa (aq k hk)).1,hky,hv'.1,hv'.2,hl.no hG.f hj oa⟩)
 obtain⟨W,hW⟩:∃W,W=(w.alloc (.cells #[J (j:Int),.slice va (s.T t).nv vc,.slice la (s.T t).d.n lc,.slice ia (s.T t).d.m ic,.slice xa (s.T t).d.x xc,J (s.T t).d.used,J (s.T t).d.live,J (s.T t).d.turns] 94)).alloc (.cells #[N9,N9,N9,J 0,J 0,J 0] 92):=⟨_,rfl⟩;have X:B9 w W:=by rw[hW];exact(n9).alloc od _
 have ct:W.heap.size=w.heap.size+1+1:=by rw[hW];simp
 obtain⟨x0,x1⟩:W.cell? (y w 0)=some (J (j:Int))/\W.cell? (y w 1)=some (.slice va (s.T t).nv vc):=by rw[hW];simp[go_sem]
 have bf:AH W (w.heap.size+1) 0 B (N9) (N9) (N9) aB:=⟨oa,by rw[hW];simp[go_sem],by rw[hW];simp[go_sem],by rw[hW];simp[go_sem],by rw[hW];simp[go_sem,aB],by rw[hW];simp[go_sem,aB],by rw[hW];simp[go_sem,aB],fun q=>by rw[hW];simp[go_sem],IF _ _ _ _,IF _ _ _ _,IF _ _ _ _,fun q e=>(by cases e),(by rintro(e|e|e)<;>cases e),(oj hM.base)⟩;have z0:=ol X bc c0;have z1:=ol X bc c1;have lw:w.heap.size<W.heap.size:=oa;have b3:c<W.heap.size:=oa;have b4:fb<W.heap.size:=oa;have bg:=O bf;have HM:=O hM;have au:=O X;have b5:=O (hF.below X bz);have bh:=O (Uq ar X);have b6:=O ar;have H1:=O ay;have H2:=O a7;have H3:=O a8;have cu:=O ai;have cv:Hid (B<=w.heap.size):=O (oj hM.base);have HY:=O hc;have b7:=O (fun q=>om X hg (bb q));clear hM hG ay a7 a8 bw hF ar b0 b1 b2 hc aq X bf a6 ev el ei ex bb;obtain⟨n,hn⟩:∃n,n=nf s.F j:=⟨_,rfl⟩;rw[<-hn]at ai;have b8:=O hn;have aj:=O ai;clear ai
 go_enter func165,ntmps165
 go_upto_region 2 with fail
 rw[<-hW];clear hW y0 y1 y2 y3 y4 y5 y6 y7 c0 c1 c2
 go_region_law (go_simp;go_at_call 171;refine(GK fb s.nf fc j s.F _ (b5.below (Cs _ _).drew b4) H1 H2 H3 hj).mono ?_;rintro e w1 ⟨⟨m',rfl,hm,ad⟩,C⟩;rw[<-hn]at ad;have y1:=ol C lw x1;have cw:w.heap.size+1<w1.heap.size:=(by have:W.heap.size<=w1.heap.size:=C.size;omega);have b9:=Ok ad;have ae:B9 W w1:=⟨C.os,C.tape,C.output,C.size,fun k hk=>C.block k hk⟩;have ca:=O (bg.below ae);have cb:=O (Uq bh ae);have ah:=O ae;have cc:=O ad;have cx:W.heap.size<=m':=hm;clear C ae ad hm)
 all_goals
  clear hn x0 x1 z0 bg bh;go_wp2;simp only[Act.put,AaM,AaC,AaB,Aad,AaX,AaW];rw[<-z b8];go_loopw [23] (fun i wr=>∃(k:Nat) (u0 u1 u2:V9),k<=n/\i=J k/\AH wr (w.heap.size+1) 0 B u0 u1 u2 (Av s.F j (s.T t).V k)/\CQ (w.heap.size+1) 0 (N9) (N9) (N9) w1 u0 u1 u2 wr) (fun i _=>n-(intOf i).toNat)
  case atStart=>exact⟨0,_,_,_,oa,rfl,ca,CQ.refl _ _ _ _ _ _⟩
  case round=>
   obtain⟨k,u0,u1,u2,hk,rfl,o,r⟩:=hrel;have a:∀b,b<w1.heap.size->b≠w.heap.size+1->wr.heap[b]?=w1.heap[b]?:=fun b h1 h2=>r.block b h1 h2 (by rintro(e|e|e)<;>cases e);have cy:=r.size;by_cases cd:k<n
   case neg=>
    have cg:k=n:=oa;subst cg;have cz:=O r;obtain⟨D,E,I,M,P,Q,rfl,rfl,rfl,_⟩:=o.ptr;have A:∀b,b<w.heap.size->wr.heap[b]?=w.heap[b]?:=fun b h=>(a b oa oa).trans ((ah.block b oa).trans (au.block b h));have y0:=(As (A g hg)).trans (HY 0 _ rfl);have y1:=(As (A g hg)).trans (HY 1 _ rfl);have y2:=(As (A g hg)).trans (HY 2 _ rfl);have y3:=(As (A g hg)).trans (HY 3 _ rfl);have y4:=(As (A g hg)).trans (HY 4 _ rfl);have y5:=(As (A g hg)).trans (HY 5 _ rfl);have y6:=(As (A g hg)).trans (HY 6 _ rfl);have y7:=(As (A g hg)).trans (HY 7 _ rfl);simp only[W4]at y0;have ak:=O (SM.FM HM (t:=t) (W:=wr) ht rfl (fun b h _=>A b h) ⟨r.os.trans (ah.os.trans au.os),r.tape.trans (ah.tape.trans au.tape),r.output.trans (ah.output.trans au.output),oa⟩ 0 (Ks ⟨N9,.slice D (Av s.F j (s.T t).V k).n E,.slice I (Av s.F j (s.T t).V k).m M,.slice P (Av s.F j (s.T t).V k).x Q⟩ ⟨-1,0,(s.T t).V,Av s.F j (s.T t).V k⟩) (h':=⟨N9,.slice D (Av s.F j (s.T t).V k).n E,.slice I (Av s.F j (s.T t).V k).m M,.slice P (Av s.F j (s.T t).V k).x Q⟩) (t':=⟨-1,0,(s.T t).V,Av s.F j (s.T t).V k⟩) (by simp[Ks]) (fun q=>by
     by_cases e:q<8
     ·rw[DD (by simp[Ks];omega),Nat.sub_zero]
     ·rw[C3 (by simp[Ks];omega),NB (by simp[Ks];omega),NB (by simp[Ks];omega)]) (IF _ _ _ _) o.log o.ints o.index o.ap (by
     rintro q (e|e)
     ·cases e
     ·rcases r.sub q e with e'|e'
      ·rcases e' with e'|e'|e'<;>cases e'
      ·exact .inr oa))
    have bj:=a g oa oa;have bk:=a c oa oa;have Z:Tx c (w.heap.size+1) g s.nt cp (.slice D (Av s.F j (s.T t).V k).n E) (.slice I (Av s.F j (s.T t).V k).m M) (.slice P (Av s.F j (s.T t).V k).x Q) (Av s.F j (s.T t).V k) wr.drew:=⟨(As bk).trans (ol ah b3 z1),o.c0,o.c1,o.c2,o.c3,o.c4,o.c5⟩;have HD:=O o;have cD:g<wr.heap.size:=oa;have ch:Hid (∀q,wr.frozen? (G g q)=false):=O (fun q=>(GW bj).trans (om ah (by show g<W.heap.size;omega) (b7 q)));have cN:=z ch;have cj:c≠g:=fun e=>HM.A9 HM.t oc (by rw[e];rfl);obtain⟨W8,av⟩:∃W8:World,W8=((((((((wr.setCell (G g (t*8)) (J (-1))).setCell (G g (t*8+1)) (N9)).setCell (G g (t*8+2)) (.slice D (Av s.F j (s.T t).V k).n E)).setCell (G g (t*8+3)) (.slice I (Av s.F j (s.T t).V k).m M)).setCell (G g (t*8+4)) (.slice P (Av s.F j (s.T t).V k).x Q)).setCell (G g (t*8+5)) (J (Av s.F j (s.T t).V k).used)).setCell (G g (t*8+6)) (J (Av s.F j (s.T t).V k).live)).setCell (G g (t*8+7)) (J (Av s.F j (s.T t).V k).turns)):=⟨_,rfl⟩;have R:∀b,b≠g->W8.heap[b]?=wr.heap[b]?:=fun b hb=>by
     rw[av];iterate 8 rw[A0 _ _ _ _ (by exact hb)]
    have ck:Hid (Tx c (w.heap.size+1) g s.nt cp (.slice D (Av s.F j (s.T t).V k).n E) (.slice I (Av s.F j (s.T t).V k).m M) (.slice P (Av s.F j (s.T t).V k).x Q) (Av s.F j (s.T t).V k) W8.drew):=O ⟨(As (R c cj)).trans Z.1,(As (R (w.heap.size+1) oa)).trans o.c0,(As (R (w.heap.size+1) oa)).trans o.c1,(As (R (w.heap.size+1) oa)).trans o.c2,(As (R (w.heap.size+1) oa)).trans o.c3,(As (R (w.heap.size+1) oa)).trans o.c4,(As (R (w.heap.size+1) oa)).trans o.c5⟩;have ag:Hid (SM W8 c B (S9 fb s.nf fc) (S9 g s.nt cp) vS (AY H t ⟨N9,.slice D (Av s.F j (s.T t).V k).n E,.slice I (Av s.F j (s.T t).V k).m M,.slice P (Av s.F j (s.T t).V k).x Q⟩) (BW s t ⟨-1,0,(s.T t).V,(Av s.F j (s.T t).V k)⟩)/\Br (A5 c (S9 fb s.nf fc) (S9 g s.nt cp) vS H s.nt) w (A5 c (S9 fb s.nf fc) (S9 g s.nt cp) vS (AY H t ⟨N9,.slice D (Av s.F j (s.T t).V k).n E,.slice I (Av s.F j (s.T t).V k).m M,.slice P (Av s.F j (s.T t).V k).x Q⟩) s.nt) W8):=O (by rw[av];exact ak);have cl:=O av;clear o r a bj bk A R av ak;go_wp2_with fail;refine Hl (Tx c (w.heap.size+1) g s.nt cp (.slice D (Av s.F j (s.T t).V k).n E) (.slice I (Av s.F j (s.T t).V k).m M) (.slice P (Av s.F j (s.T t).V k).x Q) (Av s.F j (s.T t).V k)) ?_;refine tz 0 (h:=tz 1 (h:=tz 2 (h:=tz 3 (h:=tz 4 (h:=tz 5 (h:=tz 6 (h:=tz 7 (h:=?_))))))));refine ry 8 (fun K hK=>?_);go_simp;rw[<-z cl];refine hK.out _ _ ck (fun _=>?_);clear hK K Z;refine Fj ?_;go_wp2;go_end0;rw[z aj];exact⟨⟨_,rfl⟩,_,ag.1.keep (fun _ _=>rfl),ag.2.os,ag.2.tape,ag.2.output,ag.2.size,ag.2.block,ag.2.own⟩
   have bm:k<(s.T t).nv:=oj (z aj);obtain⟨f1,f2,f3,f4,f5⟩:=z az k bm;have S:=z bd k oa;obtain⟨vb,rfl,c6⟩:∃vb,va=some (G vb 0)/\vb<w.heap.size:=by
    obtain⟨hl,⟨hv,h0⟩|⟨g,cp,cur,hv,_,aM,_⟩⟩:=id b6
    ·omega
    ·cases hv;exact⟨_,rfl,Ah aM⟩
   obtain⟨e0,e1,e2,e3,e4⟩:=Cp.at cb bm;have bn:=a w.heap.size oa oa;have bp:=a vb oa oa;have Z:F3 w.heap.size vb (s.T t).nv vc k ((s.T t).V k) wr:=F3.of (W:=w1) ⟨y1,e0,e1,e2,e3,e4⟩ bn bp;have q0:wr.cell? (G m' k)=some (.string (Dr s.F j k)):=(As (a m' b9 oa)).trans (World.rowIs.cell cc cd);have c7:m'<wr.heap.size:=oa;have af:Hid (∀w2,B9 wr w2->C9 217 #[Q9 (w.heap.size+1),V 4 0 0 (Dr s.F j k) 0,Gf ((s.T t).V k)] w2 fun e w3=>((∃u,e=.returned u)/\∃a0 a1 a2,AH w3 (w.heap.size+1) 0 B a0 a1 a2 (Av s.F j (s.T t).V (k+1))/\CQ (w.heap.size+1) 0 (N9) (N9) (N9) w1 a0 a1 a2 w3)/\F3 w.heap.size vb (s.T t).nv vc k ((s.T t).V k) w3):=O (fun w2 h2=>by
    refine(Nk hN Ky Ca (w.heap.size+1) 0 B u0 u1 u2 (Av s.F j (s.T t).V k) (BA (Dr s.F j k)) ((s.T t).V k) w2 (o.below h2) (S.ls.inv.small (by rw[S.m];omega)) S.ls.inv.i0 S.ls.inv.next Vg f2 f2.1 f3 f4 f5 (by rw[S.live];omega) (by rw[S.turns];omega) (by rw[S.m];omega)).mono ?_;rintro e w3 ⟨hu,a0,a1,a2,aw,ax⟩;have hS:CQ (w.heap.size+1) 0 (N9) (N9) (N9) w1 a0 a1 a2 w3:=(r.trans (CQ.Ar h2 oa)).trans ax;have bq:∀b,b<w1.heap.size->b≠w.heap.size+1->w3.heap[b]?=w1.heap[b]?:=fun b h1 h2=>hS.block b h1 h2 (by rintro(e|e|e)<;>cases e);exact⟨⟨hu,a0,a1,a2,by rw[f1];exact aw,hS⟩,F3.of (W:=w1) ⟨y1,e0,e1,e2,e3,e4⟩ (bq _ oa oa) (bq _ oa oa)⟩)
   clear o r a S f1 f2 f3 f4 f5 e0 e1 e2 e3 e4 bn bp;go_wp2_with fail;have Z:F3 w.heap.size vb (s.T t).nv vc k ((s.T t).V k) wr.drew:=Z;refine Hl (F3 w.heap.size vb (s.T t).nv vc k ((s.T t).V k)) ?_;refine tz 0 (h:=tz 2 (h:=tz 3 (h:=tz 4 (h:=tz 5 (h:=tz 6 (h:=?_))))));refine ry 1 (fun K hK=>?_);go_simp;refine m9 (YM (Dr s.F j k) _) fun w2 U=>?_;have ao:B9 wr w2:=⟨U.os,U.tape,U.output,U.size,fun k hk=>U.block k hk⟩;have br:F3 w.heap.size vb (s.T t).nv vc k ((s.T t).V k) w2:=Z.of (U.block _ (by show w.heap.size<wr.heap.size;omega)) (U.block _ (by show vb<wr.heap.size;omega));have bt:=O (af w2 ao);refine hK.out _ _ br (fun _=>?_);clear hK K Z af U ao;refine ry 7 (fun K hK=>?_);go_simp;refine bt.mono ?_;rintro e w3 ⟨⟨⟨uu,rfl⟩,a0,a1,a2,aw,ax⟩,bu⟩;have cm:=O aw;have cn:=O ax;refine hK.out _ _ bu (fun _=>?_);clear hK K aw ax bu br bt;refine Fj ?_;go_wp2;go_roundw
   case rel=>exact⟨k+1,a0,a1,a2,oa,oh,cm,cn⟩
   case measure=>simp[intOf];omega
theorem YL(hf:Vl->Nat)(K:Vl->Prop)(KL:KeyLaw K hf)(c o B:Nat)(v0 v1 v2:V9)(d:Dc)(p:Nat)(w:Y)(hM:AH w c o B v0 v1 v2 d)(hS:Small d)(hI:Cj K hf d)(hN:Next d)(hh:∀v,K v->XT v (hf v))(hp:p<d.n)(b1:(d.L p).turn≠0):
  C9 218 #[Pc c o,J (p:Int)] w fun e w'=>((∃u,e=.returned u)/\∃u0 u1 u2,AH w' c o B u0 u1 u2 (XL hf d p)/\CQ c o v0 v1 v2 w u0 u1 u2 w'):=by
 obtain⟨g,l,rfl,dz,dC,dU,S,U⟩:=hM.log.form oa;obtain⟨p0,p1,p2,p3,p4,_,_,_,_,_,_⟩:=S p hp;have hn:=hS.n;have hm:=hS.m;have du:=hI.le;have dv:0<=d.live:=oj hI.log.EH;have ea:g≠c:=fun e=>hM.nc (.inl (by rw[<-e];rfl));obtain⟨k,hk⟩:∃k,k=(d.L p).key:=⟨_,rfl⟩;rw[<-hk]at p0 p1 p2 p3 p4;have hK:K k:=by rw[hk];exact hI.keys p hp b1
 obtain⟨W,hW⟩:∃W,W=w.alloc (.cells (ow k) 43):=⟨_,rfl⟩;have b2:B9 w W:=by rw[hW];exact(Cs _ _).alloc (Be _) _
 have bk:Rj W c (S9 g d.n l) v1 v2 w.heap.size k:=⟨⟨by rw[hW];simp,by rw[hW];simp[go_sem],by rw[hW];simp[go_sem],by rw[hW];simp[go_sem],by rw[hW];simp[go_sem],by rw[hW];simp[go_sem]⟩,fun e=>oj hM.lt,fun e=>oj (hM.Up e).2⟩;have c0:=hM.c0;have E:=hM.lt;have t:=O (hM.below b2);have cl:Hid (CQ c o (S9 g d.n l) v1 v2 w (S9 g d.n l) v1 v2 W):=O (CQ.Ar b2 hM.lt);have b3:=O bk;have HS:=O hS;have HI:=O hI;have HN:=O hN;have HH:=O hh;have aq:=O KL;have HK:=O hK;have aw:=O b1;obtain⟨ia,ic,e1,cm⟩:=t.ints.at;obtain⟨xa,xc,e2,cn⟩:=t.index.at;have b4:Hid (0<d.m->∃g l,v1=S9 g d.m l):=O (fun h=>by obtain⟨g,l,h,_⟩:=t.ints.form h;exact⟨g,l,h⟩);have b5:Hid (0<d.x->∃g l,v2=S9 g d.x l):=O (fun h=>by obtain⟨g,l,h,_⟩:=t.index.form h;exact⟨g,l,h⟩);have b6:Hid (KC W c o (some (G g 0)) l ia ic xa xc d):=O ⟨t.lt,t.c0,by rw[(z t).c1,e1],by rw[(z t).c2,e2],t.c3,t.c4,t.c5,by obtain⟨a,l,e,h⟩:=t.log.at;cases e;exact h,cm,cn⟩;subst e1 e2;have ar:=O hk;clear hM b2 bk hS hI hN hh KL hK b1 cm cn S U hk
 go_enter func218,ntmps218
 go_wp2_with fail
 rw[<-hW];clear hW p0 p1 p2 p3 p4 c0 E;obtain⟨bl,k0,k1,k2,k3,k4⟩:=b3.box;refine m9 (FX c o (some (G g 0)) l ia ic xa xc d k _ b6 HS) fun w1 bj=>?_;have af:CQ c o (S9 g d.n l) (.slice ia d.m ic) (.slice xa d.x xc) W (S9 g d.n l) (.slice ia d.m ic) (.slice xa d.x xc) w1:=CQ.Ar bj t.lt;have F:=O (t.below bj);have bm:=O (cl.trans af);have aj:=O (b3.step af);have b7:=O (b6.below bj);clear bj af t cl b3 b6 bl k0 k1 k2 k3 k4;obtain⟨bl,k0,k1,k2,k3,k4⟩:=aj.box;have E:=F.lt;have c1:=F.c1;have c2:=F.c2;by_cases hs:AA d.m k
 ·rw[Bw hs];have HR:Hid (FP hf d p=goSmall d p):=O (IG (by rw[<-z ar];exact hs));obtain⟨s1,s2,s3⟩:=hs;obtain⟨q,hq⟩:∃q:Nat,k.num=(q:Int)+1:=⟨(k.num-1).toNat,oa⟩;have cq:q<d.m:=oa;have di:((d.L p).key.num-1).toNat=q:=by rw[<-z ar,hq];omega
  obtain⟨C,eb,eg⟩:=z b4 oa;cases eg;obtain⟨g',ax,H,dj,dk,cg,hcs,U⟩:=F.ints.form oa;cases H;have e0:=hcs q cq;have f0:=U q;have cr:C≠c:=fun e=>F.nc (.inr (.inl (by rw[<-e];rfl)));have ec:IntKind.i64.wrap (q:Int)=q:=by rw[Hi];omega
  have ct:=F.Xb cq 0;have a8:CQ c o (S9 g d.n l) (S9 C d.m ic) (.slice xa d.x xc) w1 (S9 g d.n l) (S9 C d.m ic) (.slice xa d.x xc) (w1.setCell (G C q) (J 0)):=EL (q:=q) (J 0) (.inr (.inl rfl)) cr;obtain⟨W2,bn⟩:∃W2,W2=(w1.setCell (G C q) (J 0)).drew:=⟨_,rfl⟩;have cu:AH W2 c o B (S9 g d.n l) (S9 C d.m ic) (.slice xa d.x xc) {d with I:=AP d.I q 0}:=by rw[bn];exact ct.below (Cs _ _).drew
  have bp:=bm.trans (a8.trans (CQ.Ar (Cs _ _).drew (by simpa using E)));rw[<-bn]at bp;have T:=O cu;have bq:=O bp;rw[hq]at k1;clear ct a8 cu bp hcs U hq s1 s2 s3 b4 b5 b7 F bm;go_wp2_with fail
  go_region
  rw[<-bn];clear bn e0 f0 c1 c2 E bl k0 k1 k2 k3 k4;have c1:=T.c1;have E:=T.lt;obtain⟨g',ax,H,dj,dk,cg,hcs,U⟩:=T.ints.form (by show 0<d.m;omega);cases H;have hcs:∀i,i<d.m->W2.cell? (G C i)=some (J (AP d.I q 0 i)):=hcs;have br:=O hcs;clear hcs U;go_wp2_with fail;go_loopw [5] (fun a wr=>∃j:Nat,a=J (j:Int)/\j<=d.m/\shrink (AP d.I q 0) d.m=shrink (AP d.I q 0) j/\wr=W2) (fun a _=>(intOf a).toNat)
  case atStart=>exact⟨d.m,rfl,Be _,rfl,rfl⟩
  case round=>
   obtain⟨j,rfl,hj,bt,rfl⟩:=hrel;by_cases bu:∃i,j=i+1/\AP d.I q 0 i=0
   ·obtain⟨i,rfl,hz⟩:=bu;have e0:=z br i oa;rw[hz]at e0;have ay:=O (bt.trans (Ir hz));have dw:decide ((0:Int)<((i+1:Nat):Int))=true:=od;clear hz bt;go_wp2;go_roundw
    case rel=>exact⟨i,oh,oa,ay,by first|rfl|trivial⟩
    case measure=>simp[intOf]
   ·have ay:Hid (shrink (AP d.I q 0) d.m=j):=O (by
     rw[bt];cases j with
     |zero=>rfl
     |succ i=>exact Iq (fun e=>bu ⟨i,rfl,e⟩))
    have b8:Hid (∀(Q:Prop),(j=0->Q)->(∀i,j=i+1->AP d.I q 0 i≠0->Q)->Q):=O (fun Q h1 h2=>by
     cases j with
     |zero=>exact h1 rfl
     |succ i=>exact h2 i rfl (fun e=>bu ⟨i,rfl,e⟩))
    clear bt bu;have cv:=AH.Q4 T (u:=S9 C j ic) (BG.cut T.ints (n:=j) hj) (fun e=>cr (ownB e)) (fun q' e e'=>T.ap q' (by rw[<-ownB e];rfl) e');have au:=bq.trans (CY (c:=c) (o:=o) (v0:=S9 g d.n l) (v1:=S9 C d.m ic) (v2:=.slice xa d.x xc) (u0:=S9 g d.n l) (u1:=S9 C j ic) (u2:=.slice xa d.x xc) (w:=wr) (q:=o+1) (S9 C j ic) oa (fun b e=>.inl (e.elim .inl (fun e=>e.elim (fun e=>.inr (.inl (by rw[<-ownB e];rfl))) (fun e=>.inr (.inr e))))));have r:=O cv;have av:=O au;have Z:Hid (FP hf d p={d with I:=AP d.I q 0,m:=j,L:=AP d.L p default,live:=d.live-1}):=O (by
     rw[z HR];unfold goSmall;rw[di,z ay];rfl)
    have b9:Hid ((FP hf d p).m<=d.m):=O (by rw[z Z];exact hj);have ef:=T.fz (o+1);clear cv au;refine b8 _ (fun dm=>?_) (fun i dn hz=>?_)
    focus
     clear b8 ay br;subst dm;obtain⟨g',ax,H,bb,bc,bd,S,f⟩:=r.log.form (by show 0<d.n;omega);cases H;obtain⟨y0,y1,y2,y3,y4,y5,y6,y7,y8,y9,bw⟩:=S p hp;have z0:=f (p*11);have z1:=f (p*11+1);have z2:=f (p*11+2);have z3:=f (p*11+3);have z4:=f (p*11+4);have z5:=f (p*11+5);have z6:=f (p*11+6);have z7:=f (p*11+7);have z8:=f (p*11+8);have z9:=f (p*11+9);have bx:=f (p*11+10);have c0:(wr.setCell (G c (o+1)) (S9 C 0 ic)).cell? (G c o)=some (S9 g d.n l):=r.c0;have c4:(wr.setCell (G c (o+1)) (S9 C 0 ic)).cell? (G c (o+4))=some (J d.live):=r.c4;have f4:=r.fz (o+4);have E:=r.lt;obtain⟨ag,DI⟩:=AH.kill (d:={d with I:=AP d.I q 0,m:=0}) r (i:=p) hp;have ah:=AH.G3 ag (d.live-1);have ai:=(av.trans DI).trans (CY (c:=c) (o:=o) (v0:=S9 g d.n l) (q:=o+4) (J (d.live-1)) oa (fun b e=>.inl e));have M:AH ((Gw g (wr.setCell (G c (o+1)) (S9 C 0 ic)) (p*11+0) (Db default)).setCell (G c (o+4)) (J (d.live-1))) c o B (S9 g d.n l) (S9 C 0 ic) (.slice xa d.x xc) (FP hf d p):=by rw[z Z];exact ah
     obtain⟨Y,D⟩:∃Y,Y=((((((((((((wr.setCell (G c (o+1)) (S9 C 0 ic)).setCell (G g (p*11)) (J 0)).setCell (G g (p*11+1)) (J 0)).setCell (G g (p*11+2)) (F9 0)).setCell (G g (p*11+3)) (E9)).setCell (G g (p*11+4)) (J 0)).setCell (G g (p*11+5)) (J 0)).setCell (G g (p*11+6)) (J 0)).setCell (G g (p*11+7)) (F9 0)).setCell (G g (p*11+8)) (E9)).setCell (G g (p*11+9)) (J 0)).setCell (G g (p*11+10)) (J 0)).setCell (G c (o+4)) (J (d.live-1)):=⟨_,rfl⟩;have bz:Hid (AH Y c o B (S9 g d.n l) (S9 C 0 ic) (.slice xa d.x xc) (FP hf d p)):=O (by rw[D];exact M);have b0:Hid (CQ c o (S9 g d.n l) (S9 C d.m ic) (.slice xa d.x xc) w (S9 g d.n l) (S9 C 0 ic) (.slice xa d.x xc) Y):=O (by rw[D];exact ai)
    rotate_left
    focus
     have e0:=z br i oa;have eh:(AP d.I q 0 i==0)=false:=by simp[hz]
     have dh:decide ((0:Int)<(j:Int))=true:=oe;have ei:IntKind.i64.wrap ((j:Int)-1)=(i:Int):=by rw[Hi];omega
     have dx:(j:Int)-1=(i:Int):=oa;clear b8 ay br dn hz;obtain⟨g',ax,H,bb,bc,bd,S,f⟩:=r.log.form (by show 0<d.n;omega);cases H;obtain⟨y0,y1,y2,y3,y4,y5,y6,y7,y8,y9,bw⟩:=S p hp;have z0:=f (p*11);have z1:=f (p*11+1);have z2:=f (p*11+2);have z3:=f (p*11+3);have z4:=f (p*11+4);have z5:=f (p*11+5);have z6:=f (p*11+6);have z7:=f (p*11+7);have z8:=f (p*11+8);have z9:=f (p*11+9);have bx:=f (p*11+10);have c0:(wr.setCell (G c (o+1)) (S9 C j ic)).cell? (G c o)=some (S9 g d.n l):=r.c0;have c4:(wr.setCell (G c (o+1)) (S9 C j ic)).cell? (G c (o+4))=some (J d.live):=r.c4;have f4:=r.fz (o+4);have E:=r.lt;obtain⟨ag,DI⟩:=AH.kill (d:={d with I:=AP d.I q 0,m:=j}) r (i:=p) hp;have ah:=AH.G3 ag (d.live-1);have ai:=(av.trans DI).trans (CY (c:=c) (o:=o) (v0:=S9 g d.n l) (q:=o+4) (J (d.live-1)) oa (fun b e=>.inl e));have M:AH ((Gw g (wr.setCell (G c (o+1)) (S9 C j ic)) (p*11+0) (Db default)).setCell (G c (o+4)) (J (d.live-1))) c o B (S9 g d.n l) (S9 C j ic) (.slice xa d.x xc) (FP hf d p):=by rw[z Z];exact ah
     obtain⟨Y,D⟩:∃Y,Y=((((((((((((wr.setCell (G c (o+1)) (S9 C j ic)).setCell (G g (p*11)) (J 0)).setCell (G g (p*11+1)) (J 0)).setCell (G g (p*11+2)) (F9 0)).setCell (G g (p*11+3)) (E9)).setCell (G g (p*11+4)) (J 0)).setCell (G g (p*11+5)) (J 0)).setCell (G g (p*11+6)) (J 0)).setCell (G g (p*11+7)) (F9 0)).setCell (G g (p*11+8)) (E9)).setCell (G g (p*11+9)) (J 0)).setCell (G g (p*11+10)) (J 0)).setCell (G c (o+4)) (J (d.live-1)):=⟨_,rfl⟩;have bz:Hid (AH Y c o B (S9 g d.n l) (S9 C j ic) (.slice xa d.x xc) (FP hf d p)):=O (by rw[D];exact M);have b0:Hid (CQ c o (S9 g d.n l) (S9 C d.m ic) (.slice xa d.x xc) w (S9 g d.n l) (S9 C j ic) (.slice xa d.x xc) Y):=O (by rw[D];exact ai)
    rotate_left;all_goals
     have A:=(FR aq HI HN hp aw).1;have ca:=O A.core;have az:=A.sz;have aM:=(FR aq HI HN hp aw).2.2.1;have cb:(FP hf d p).m<=d.m:=b9;have cc:Hid (Small (FP hf d p)):=O ⟨by rw[aM];exact hn,oa,by unfold Lr at az;omega⟩;clear S f ag DI ah M ai A az aM cb Z av;go_wp2_with fail;rw[<-D];clear D y0 y1 y2 y3 y4 y5 y6 y7 y8 y9 bw z0 z1 z2 z3 z4 z5 z6 z7 z8 z9 bx c0 c4 f4;refine(Ga hf K c o B _ _ _ (FP hf d p) _ bz cc ca HH).mono ?_;rintro e dp ⟨⟨u,rfl⟩,t0,t2,ad,ae⟩;have ak:=O ad;have ao:=O (b0.trans ae);clear ad ae;go_wp2;go_end0;exact⟨⟨_,rfl⟩,_,_,_,ak,ao⟩
 ·rw[Bq hs];obtain⟨s,cw,bp,au⟩:=HI.found aq HK ⟨hp,aw,by rw[<-z ar];exact hs⟩ (by rw[<-z ar];exact aq.refl _ HK);have HR:Hid (FP hf d p=Dt d p s):=O (JX (by rw[<-z ar];exact hs) (by rw[<-z ar];exact au));obtain⟨P,ej,eg⟩:=z b5 oa;cases eg;obtain⟨g',ax,H,ek,cx,dy,hcs,U⟩:=F.index.form oa;cases H;have e0:=hcs s cw;have f0:=U s;have cd:P≠c:=fun e=>F.nc (.inr (.inr (by rw[<-e];rfl)));have eo:c≠P:=fun e=>cd e.symm;have dq:w.heap.size≠P:=fun e=>aj.no (.inr (.inr (by rw[e];rfl)));have a6:P≠w.heap.size:=fun e=>dq e.symm;have bh:Hid (∀W:World,KC W c o (some (G g 0)) l ia ic (some (G P 0)) xc d->C9 220 #[Pc c o,V k.kind k.num k.Ag k.str k.ref] W (R9 (J (s:Int)) W)):=O (fun W hP=>by
   have h:=Jv c o (some (G g 0)) l ia ic (some (G P 0)) xc d k (hf k) W hP HS HI.d4 (HH k HK);rw[au]at h;exact h)
  have ch:Hid (AH w1.drew c o B (S9 g d.n l) (.slice ia d.m ic) (S9 P d.x xc) d):=O (F.below (Cs _ _).drew);have cj:=O (bm.trans (CQ.Ar (Cs _ _).drew E));have ck:=O (b7.below (Cs _ _).drew);have cy:w1.drew.cell? (G c (o+2))=some (S9 P d.x xc):=c2;have cz:w1.drew.cell? (y w 0)=some (J k.kind):=k0;have cD:w1.drew.cell? (y w 1)=some (J k.num):=k1;have cN:w1.drew.cell? (y w 2)=some (F9 k.Ag):=k2;have c6:w1.drew.cell? (y w 3)=some (.string k.str):=k3;have c7:w1.drew.cell? (y w 4)=some (J k.ref):=k4;have bf:c<w1.drew.heap.size:=E;have a7:w.heap.size<w1.drew.heap.size:=bl;have bg:P<w1.drew.heap.size:=cx;have dr:=O (show w1.drew.cell? (G P s)=some (J (d.X s))from e0);have dt:=O (show w1.drew.frozen? (G P s)=false from f0);clear hs au hcs U c1 c2 k0 k1 k2 k3 k4 E bl cx e0 f0 b4 b5 F bm b7 aj;go_wp2_with fail
  go_region_held3 (fun w'=>w'.cell? (G c (o+2))=some (S9 P d.x xc)/\w'.cell? (y w 0)=some (J k.kind)/\w'.cell? (y w 1)=some (J k.num)/\w'.cell? (y w 2)=some (F9 k.Ag)/\w'.cell? (y w 3)=some (.string k.str)/\w'.cell? (y w 4)=some (J k.ref)) (first|(with_reducible exact⟨by assumption,by assumption,by assumption,by assumption,by assumption,by assumption⟩)|(exact⟨(Aq cd).trans c8,(Aq a6).trans c9,(Aq a6).trans da,(Aq a6).trans dc,(Aq a6).trans dd,(Aq a6).trans df⟩)|go_keep)
   (first|(go_at_call 220;refine(bh _ ck).mono ?_;rintro e w2 ⟨rfl,R⟩;have c8:=ol R bf cy;have c9:=ol R a7 cz;have da:=ol R a7 cD;have dc:=ol R a7 cN;have dd:=ol R a7 c6;have df:=ol R a7 c7;have e0:=ol R bg dr;have f0:=om R bg dt;have T:=O (ch.below R);have bq:=O (cj.trans (CQ.Ar R bf));clear R))
  have r:=O (T.SN cw (-1));have av:=O (bq.trans (EL (c:=c) (o:=o) (v0:=S9 g d.n l) (v1:=.slice ia d.m ic) (v2:=S9 P d.x xc) (q:=s) (J (-1)) (.inr (.inr rfl)) cd));have Z:Hid (FP hf d p={d with X:=AP d.X s (-1),L:=AP d.L p default,live:=d.live-1}):=O (by rw[z HR];rfl);have b9:Hid ((FP hf d p).m<=d.m):=O (by rw[z Z];exact Be _);clear T bq e0 f0 cy cz cD cN c6 c7 c8 c9 da dc dd df;obtain⟨g',ax,H,bb,bc,bd,S,f⟩:=r.log.form (by show 0<d.n;omega);cases H;obtain⟨y0,y1,y2,y3,y4,y5,y6,y7,y8,y9,bw⟩:=S p hp;have z0:=f (p*11);have z1:=f (p*11+1);have z2:=f (p*11+2);have z3:=f (p*11+3);have z4:=f (p*11+4);have z5:=f (p*11+5);have z6:=f (p*11+6);have z7:=f (p*11+7);have z8:=f (p*11+8);have z9:=f (p*11+9);have bx:=f (p*11+10);have c0:(w2.setCell (G P s) (J (-1))).cell? (G c o)=some (S9 g d.n l):=r.c0;have c4:(w2.setCell (G P s) (J (-1))).cell? (G c (o+4))=some (J d.live):=r.c4;have f4:=r.fz (o+4);have E:=r.lt;obtain⟨ag,DI⟩:=AH.kill (d:={d with X:=AP d.X s (-1)}) r (i:=p) hp;have ah:=AH.G3 ag (d.live-1);have ai:=(av.trans DI).trans (CY (c:=c) (o:=o) (v0:=S9 g d.n l) (q:=o+4) (J (d.live-1)) oa (fun b e=>.inl e));have M:AH ((Gw g (w2.setCell (G P s) (J (-1))) (p*11+0) (Db default)).setCell (G c (o+4)) (J (d.live-1))) c o B (S9 g d.n l) (.slice ia d.m ic) (S9 P d.x xc) (FP hf d p):=by rw[z Z];exact ah
  obtain⟨Y,D⟩:∃Y,Y=((((((((((((w2.setCell (G P s) (J (-1))).setCell (G g (p*11)) (J 0)).setCell (G g (p*11+1)) (J 0)).setCell (G g (p*11+2)) (F9 0)).setCell (G g (p*11+3)) (E9)).setCell (G g (p*11+4)) (J 0)).setCell (G g (p*11+5)) (J 0)).setCell (G g (p*11+6)) (J 0)).setCell (G g (p*11+7)) (F9 0)).setCell (G g (p*11+8)) (E9)).setCell (G g (p*11+9)) (J 0)).setCell (G g (p*11+10)) (J 0)).setCell (G c (o+4)) (J (d.live-1)):=⟨_,rfl⟩;have bz:Hid (AH Y c o B (S9 g d.n l) (.slice ia d.m ic) (S9 P d.x xc) (FP hf d p)):=O (by rw[D];exact M);have b0:Hid (CQ c o (S9 g d.n l) (.slice ia d.m ic) (S9 P d.x xc) w (S9 g d.n l) (.slice ia d.m ic) (S9 P d.x xc) Y):=O (by rw[D];exact ai);have A:=(FR aq HI HN hp aw).1;have ca:=O A.core;have az:=A.sz;have aM:=(FR aq HI HN hp aw).2.2.1;have cb:(FP hf d p).m<=d.m:=b9;have cc:Hid (Small (FP hf d p)):=O ⟨by rw[aM];exact hn,oa,by unfold Lr at az;omega⟩;clear S f ag DI ah M ai A az aM cb Z av;go_wp2_with fail;rw[<-D];clear D y0 y1 y2 y3 y4 y5 y6 y7 y8 y9 bw z0 z1 z2 z3 z4 z5 z6 z7 z8 z9 bx c0 c4 f4;refine(Ga hf K c o B _ _ _ (FP hf d p) _ bz cc ca HH).mono ?_;rintro e dp ⟨⟨u,rfl⟩,t0,t2,ad,ae⟩;have ak:=O ad;have ao:=O (b0.trans ae);clear ad ae;go_wp2;go_end0;exact⟨⟨_,rfl⟩,_,_,_,ak,ao⟩
theorem WH(hf:Vl->Nat)(K:Vl->Prop)(KL:KeyLaw K hf)(c o B:Nat)(v0 v1 v2:V9)(d:Dc)(k v:Vl)(w:Y)(I:AH w c o B v0 v1 v2 d)(hS:Small d)(T:Inv K hf d)(hh:∀v,K v->XT v (hf v))
  (hk:K k) (X:Df k=true) (hv:v.ok=true) (ak:d.m<=4000000):
  C9 166 #[Pc c o,V k.kind k.num k.Ag k.str k.ref,V v.kind v.num v.Ag v.str v.ref] w fun e w'=>((∃u,e=.returned u)/\∃u0 u1 u2,AH w' c o B u0 u1 u2 (Cf hf d k v)/\CQ c o v0 v1 v2 w u0 u1 u2 w'):=by
 have D:B9 w ((w.alloc (.cells (ow k) 43)).alloc (.cells (ow v) 43)):=(n9).alloc od _;obtain⟨W,j⟩:∃W,W=(w.alloc (.cells (ow k) 43)).alloc (.cells (ow v) 43):=⟨_,rfl⟩;rw[<-j]at D;have L:=I.below D;have bk:Rj W c v0 v1 v2 w.heap.size k:=⟨⟨by rw[j];simp;omega,by rw[j];simp[go_sem],by rw[j];simp[go_sem],by rw[j];simp[go_sem],by rw[j];simp[go_sem],by rw[j];simp[go_sem]⟩,fun e=>oj I.lt,fun e=>oj (I.Up e).2⟩;have bv:Rj W c v0 v1 v2 (w.heap.size+1) v:=⟨⟨by rw[j];simp,by rw[j];simp[go_sem],by rw[j];simp[go_sem],by rw[j];simp[go_sem],by rw[j];simp[go_sem],by rw[j];simp[go_sem]⟩,fun e=>oj I.lt,fun e=>oj (I.Up e).2⟩;have Z:CQ c o v0 v1 v2 w v0 v1 v2 W:=CQ.Ar D I.lt;obtain⟨la,lc,ia,ic,xa,xc,e0,e1,e2,hP⟩:=L.ptr;subst e0 e1 e2;have hn:=hS.n;have az:=T.i0.le;have aM:0<=d.live:=oj T.i0.log.EH;have a6:=T.i0.turns;have E:=O (T.i0.place KL hk);have HP:=O hP;have HM:=O L;have ae:=O Z;have M:=O bk;have af:=O bv;have HS:=O hS;have U:=O T;have HH:=O hh;have ag:=O KL;have HK:=O (And.intro hk (And.intro X hv));clear I L bk bv Z hS T hh KL hk X hv hP D
 go_enter func166,ntmps166
 go_wp2_with fail
 rw[<-j];clear j;obtain⟨bl,k0,k1,k2,k3,k4⟩:=M.box;refine m9 (LG c o la lc ia ic xa xc d k (hf k) _ HP HS U.i0.d3 U.i0.d4 (HH k HK.1)) fun w1 P=>?_;have l:CQ c o (.slice la d.n lc) (.slice ia d.m ic) (.slice xa d.x xc) W (.slice la d.n lc) (.slice ia d.m ic) (.slice xa d.x xc) w1:=CQ.Ar P HM.lt;have b:=O (HM.below P);have q:=O (ae.trans l);have ad:=O (M.step l);have F:=O (af.step l);clear P l HM ae M af HP bl k0 k1 k2 k3 k4;obtain⟨bl,k0,k1,k2,k3,k4⟩:=ad.box;obtain⟨a7,q0,q1,q2,q3,q4⟩:=F.box;have a8:=b.lt;have c0:=b.c0;have c4:=b.c4;have c5:=b.c5;rcases z E with⟨i,hi,Q,ah,f⟩|⟨ai,f⟩
 ·rw[f];have ao:=O Q;by_cases a:v.kind=0
  ·have s:Hid (Cf hf d k v=XL hf d i):=O (by rw[Kf oa a,f];rfl);have t:(v.kind==0)=true:=by simp[a]
   clear a f ah Q E;go_wp2_with fail;refine(YL hf K ag c o B _ _ _ d i _ b HS U.i0 U.next HH hi ao).mono ?_;rintro e w2 ⟨⟨u,rfl⟩,t0,t1,t2,A,C⟩;have R:=O A;have S:=O (q.trans C);clear A C;go_wp2;go_end0;exact⟨⟨_,rfl⟩,_,_,_,by rw[z s];exact R,S⟩
  ·have s:Hid (Cf hf d k v=I7 d i v):=O (by rw[Ik oa a,f];rfl);have t:(v.kind==0)=false:=by simp[a]
   obtain⟨g,cp,eg,bb,bc,bd,aj,r⟩:=b.log.form oa;cases eg;obtain⟨_,_,_,_,_,y5,y6,y7,y8,y9,_⟩:=aj i hi;have z5:=r (i*11+5);have z6:=r (i*11+6);have z7:=r (i*11+7);have z8:=r (i*11+8);have z9:=r (i*11+9);have bf:g≠c:=fun e=>b.nc (.inl (by rw[<-e];rfl));have aq:g≠w.heap.size+1:=fun e=>F.no (.inl (by rw[<-e];rfl));have bg:w.heap.size+1≠g:=fun e=>aq e.symm;obtain⟨h1,h2⟩:=b.mX hi v;have ar:=O (h1.below (Cs _ _).drew);have au:=O ((q.trans h2).trans (CQ.Ar (Cs _ _).drew h1.lt));clear a f ah Q E aj r h1 h2;go_wp2_with fail
   go_region
   go_wp2;go_end0;exact⟨⟨_,rfl⟩,_,_,_,by rw[z s];exact ar,au⟩
 ·rw[f];have av:=O ai;have H:¬0<=Aw d k (hf k):=oa;have p:=O H;clear f ai H E;by_cases a:v.kind=0
  ·have s:Hid (Cf hf d k v=d):=O (FH p (fun h=>h.1 a));have t:(v.kind !=0)=false:=by simp[a]
   clear a;go_wp2;go_end0;exact⟨⟨_,rfl⟩,_,_,_,by rw[z s];exact b,q⟩
  have t:(v.kind !=0)=true:=by simp[a]
  by_cases hl:d.live<500
  case neg=>
   have s:Hid (Cf hf d k v=d):=O (FH p (fun h=>hl h.2.1));have aw:decide (d.live<500)=false:=oe;clear a hl;go_wp2;go_end0;exact⟨⟨_,rfl⟩,_,_,_,by rw[z s];exact b,q⟩
  have aw:decide (d.live<500)=true:=by simp[hl]
  by_cases ht:d.turns<1000000000000
  case neg=>
   have s:Hid (Cf hf d k v=d):=O (FH p (fun h=>ht h.2.2));have ax:decide (d.turns<1000000000000)=false:=oe;clear a hl ht;go_wp2;go_end0;exact⟨⟨_,rfl⟩,_,_,_,by rw[z s];exact b,q⟩
  have ax:decide (d.turns<1000000000000)=true:=by simp[ht]
  have s:Hid (Cf hf d k v=Hd hf d k v):=O (Fp p ⟨a,hl,ht⟩);have ay:=O a;clear a;go_wp2_with fail;refine(Nk hf K ag c o B _ _ _ d k v _ b HS U.i0 U.next HH HK.1 HK.2.1 HK.2.2 ay av hl ht ak).mono ?_;rintro e w2 ⟨⟨u,rfl⟩,t0,t1,t2,A,C⟩;have R:=O A;have S:=O (q.trans C);clear A C;go_wp2;go_end0;exact⟨⟨_,rfl⟩,_,_,_,by rw[z s];exact R,S⟩
structure TD (w:Y) (b:Nat) (k:Vl):Prop where
 lt:b<w.heap.size
 c0:w.cell? (G b 0)=some (J k.kind)
 c1:w.cell? (G b 1)=some (J k.num)
 c2:w.cell? (G b 2)=some (F9 k.Ag)
 c3:w.cell? (G b 3)=some (.string k.str)
 c4:w.cell? (G b 4)=some (J k.ref)
theorem TD.keep{k:Vl}(h:TD w b k)(hl:w.heap.size<=w'.heap.size)(hk:w'.heap[b]?=w.heap[b]?):TD w' b k:=
 ⟨oj h.lt,(As (a:=(G b 0)) hk).trans h.c0,(As (a:=(G b 1)) hk).trans h.c1,(As (a:=(G b 2)) hk).trans h.c2,(As (a:=(G b 3)) hk).trans h.c3,(As (a:=(G b 4)) hk).trans h.c4⟩
theorem TD.below{k:Vl}(h:TD w b k)(hb:Below B w w')(a:b<B):TD w' b k:=h.keep hb.size (hb.block _ a)
end Go.Proofs.YtgmlkfgfjjggnaaGreatDoor
