import Derived.Test.YtgmlkfgfjjggnaaGreatDoorSPAH
import Derived.Test.YtgmlkfgfjjggnaaGreatDoorSPAG
set_option linter.all false
set_option maxHeartbeats 40000000
set_option maxRecDepth 100000
namespace Go.Proofs.YtgmlkfgfjjggnaaGreatDoor
open Go.Proofs.Tryz
open Go.RowKit
attribute [local go_sem] Am Aj Cx
variable {b c p a j n B0 g ab m i B lo hi:Nat}{k:Vl}{v vT:V9}{A:Ad}{t x:Tb}{W W' w w':Y}{f:Nat->Vl}{s:AK}{Bk:Nat->Nat}{Z:Nat->Prop}{h:Hs}
section
attribute [local go_sem] U9
def Ho(b c a p:Nat)(k v:Vl)(A:Ad)(t:Tb)(W:Y):Prop:=
 W.cell? (G b 0)=some (J k.kind)/\W.cell? (G b 1)=some (J k.num)/\W.cell? (G b 2)=some (F9 k.Ag)/\W.cell? (G b 3)=some (.string k.str)/\W.cell? (G b 4)=some (J k.ref)/\
 W.cell? (G c 0)=some (J v.kind)/\W.cell? (G c 1)=some (J v.num)/\W.cell? (G c 2)=some (F9 v.Ag)/\W.cell? (G c 3)=some (.string v.str)/\W.cell? (G c 4)=some (J v.ref)/\
 W.cell? (G a 0)=some (.slice A.va t.nv A.vc)/\W.cell? (G a 1)=some (.slice A.la t.d.n A.lc)/\W.cell? (G a 2)=some (.slice A.ia t.d.m A.ic)/\W.cell? (G a 3)=some (.slice A.xa t.d.x A.xc)/\W.cell? (G a 4)=some (J t.d.used)/\W.cell? (G a 5)=some (J t.d.live)/\W.cell? (G a 6)=some (J t.d.turns)/\W.cell? (G a 7)=some (Q9 p)
theorem Ho.keep{d:Nat}{v:Vl}(h:Ho b c d p k v A t W)(h1:W'.heap[b]?=W.heap[b]?)(h2:W'.heap[c]?=W.heap[c]?)(h3:W'.heap[d]?=W.heap[d]?):Ho b c d p k v A t W':=by
 have e1:∀q,W'.cell? (G b q)=W.cell? (G b q):=fun q=>As (a:=(G b q)) h1;have e2:∀q,W'.cell? (G c q)=W.cell? (G c q):=fun q=>As (a:=(G c q)) h2;have e3:∀q,W'.cell? (G d q)=W.cell? (G d q):=fun q=>As (a:=(G d q)) h3;obtain⟨a0,a1,a2,a3,a4,a5,n,o,r,a9,e,f,a12,g,i,j,l,m⟩:=h;exact⟨(e1 _).trans a0,(e1 _).trans a1,(e1 _).trans a2,(e1 _).trans a3,(e1 _).trans a4,(e2 _).trans a5,(e2 _).trans n,(e2 _).trans o,(e2 _).trans r,(e2 _).trans a9,(e3 _).trans e,(e3 _).trans f,(e3 _).trans a12,(e3 _).trans g,(e3 _).trans i,(e3 _).trans j,(e3 _).trans l,(e3 _).trans m⟩
theorem Ho.of{v:Vl}(h:dT w W k v)(b:W.heap[a]?=some (.cells (B4 p A t).toArray 236 (0,0))):Ho w.heap.size (w.heap.size+1) a p k v A t W:=by
 obtain⟨⟨k0,k1,k2,k3,k4⟩,⟨v0,v1,v2,v3,v4⟩⟩:=h.cells;have hc:=En b;exact⟨k0,k1,k2,k3,k4,v0,v1,v2,v3,v4,hc 0 _ rfl,hc 1 _ rfl,hc 2 _ rfl,hc 3 _ rfl,hc 4 _ rfl,hc 5 _ rfl,hc 6 _ rfl,hc 7 _ rfl⟩
section
variable {Z:Nat->Prop} {w w1 w2:Y} {c B0:Nat} {vN vT vS vU:V9} {Bk:Nat->Nat} {A:Nat->Ad} {s:AK} {t:Nat} {k v:Vl} {e:Ending}
theorem Br.boxes{b d f:V9}(g:Br (Au B0 c vN vT vS w1) w1 (Au B0 c b d f w2) w2)(a:AZ Z w1 c B0 vN vT vS vU Bk A s){q:Nat}{cs:Array Value}{ty:TypeId}(hq:w1.heap[q]?=some (Obj.cells cs ty (0,0)))(h:ty=236\/ty=43\/ty=45\/ty=51):w2.heap[q]?=w1.heap[q]?:=
 g.block q (Ah hq) (fun e=>by
  rcases h with rfl|rfl|rfl|rfl
  ·exact a.Em hq oc oc oc oc oc e
  ·exact a.Em hq oc oc oc oc oc e
  ·exact a.Em hq oc oc oc oc oc e
  ·exact a.Em hq oc oc oc oc oc e)
theorem XG(h:BN s (s.T t) k v=.loose){j:Nat}(hx:(s.T t).shape=j):Cv s t k v=0/\CC s t k v=BW s t (Ew (s.T t) (Av s.F j (s.T t).V (s.T t).nv) k v):=by
 unfold Cv CC;rw[h];refine⟨rfl,?_⟩;show BW s t (Ew (s.T t) (Av s.F (s.T t).shape.toNat (s.T t).V (s.T t).nv) k v)=_;rw[hx];rfl
theorem OP{F:Nat->A3}{V:Nat->Vl}{d:Dc}(h:P6 F j V n d)(hn:n<=12):EP d k v=false:=by
 unfold EP;rw[h.live,h.turns,decide_eq_false (p:=((n:Int)=500)) oa,decide_eq_false (p:=((n:Int)=1000000000000)) oa];simp
end
theorem Z1(Z:Nat->Prop)(c B0:Nat)(vN vT vS:V9)(Bk:Nat->Nat)(A:Nat->Ad)(s:AK)(t j:Nat)(k v:Vl)(w:Y)(M:AZ Z w c B0 vN vT vS (N9) Bk A s)(hf:Ax s.nf s.F=0)(ht:t<s.nt)(b6:s.nt<=100)(hT:BH w)(hx:(s.T t).shape=j)(hj:j<s.nf)(U:(s.T t).nv=nf s.F j)(bm:bare (s.T t).d)(az:∀i,i<(s.T t).nv->OV ((s.T t).V i)=true)(hk:Ky k)(hv:v.ok=true)(b7:MI k v)(b8:5<=B0)(bn:∀i,i<s.nt->(s.T i).shape=-1\/∃j:Nat,(s.T i).shape=j/\j<s.nf):
  C9 203 #[Q9 c,J (t:Int),Gf k,Gf v] w fun e w'=>UZ Z c B0 vN vT vS s t k v w e w':=by
 obtain⟨g,P,b9,ca,cx,aM,cb⟩:=M.CP ht;subst b9;have bp:AG Bk (A t) (s.T t)=.iface 236 (CA (Bk j) (A t) (s.T t)):=by
  unfold AG;rw[C3 oa,hx];rfl
 rw[bp]at aM;obtain⟨W,hW,X,a6,cc⟩:=nP w k v;have cd:=M.lt;have bh:(s.T t).nv<=12:=by rw[U];exact Gq hf hj
 obtain⟨gv,au⟩:∃gv,gv=Cm s.F (s.T t) k:=⟨_,rfl⟩;have ah:Hid (∀w1,B9 W w1->C9 342 #[CA (Bk j) (A t) (s.T t),Gf k] w1 (R9 (Gf gv) w1)):=O (fun w1 h1=>by
  have a:=X.trans (h1.mono oa);rw[au];exact Jh (A t) (s.T t) s B0 Bk j k w1 (I2.below M.nd a) hf hj hx U (((M.rd t ht).now.1).below a rfl))
 have cg:Hid (∀w1,B9 w w1->v.kind=0/\gv.kind=0->UZ Z c B0 vN (S9 g s.nt P) vS s t k v w (.returned (Bp 0)) w1):=O (fun w1 h1 h2=>by
  obtain⟨e1,e2⟩:=Z0 (s:=s) (t:=t) (k:=k) (v:=v) (by rw[<-au];exact h2);obtain⟨m1,d1⟩:=M.below h1;exact⟨_,_,_,_,by rw[e1],d1,.inl ⟨e1,Bk,A,by rw[e2];exact m1⟩⟩)
 have ch:Hid (∀w1,B9 w w1->¬(v.kind=0/\gv.kind=0)->C9 233 #[Q9 c,CA (Bk j) (A t) (s.T t),Gf k,Gf v] w1 fun e w'=>lA Z c B0 vN (S9 g s.nt P) vS (N9) Bk A s t k v w1 e w'):=O (fun w1 h1 f=>Me Z c B0 vN _ vS _ Bk A s t j k v w1 (M.below h1).1 hf ht hx hj U bm hk (by rw[<-au];exact f) bn);have HY:Hid (∀w1 w3 w4 l B' p a' x' s',B9 w w1->AG B' a' x'=.iface 236 (.agg (B4 p a' x').toArray)->BW s' t x'=CC s t k v->BN s (s.T t) k v≠.full->s'.nt=s.nt->AZ Z w3 c B0 l (S9 g s.nt P) vS (N9) B' A s'->Br (Au B0 c vN (S9 g s.nt P) vS w1) w1 (Au B0 c l (S9 g s.nt P) vS w3) w3->Rd (OZ Z B0 c l (S9 g s.nt P) vS w3) w3 a' x'->B9 w3 w4->
   C9 208 #[Q9 c,J (t:Int),.iface 236 (.agg (B4 p a' x').toArray)] w4 fun e w'=>(∃u,e=.returned u)/\UZ Z c B0 vN (S9 g s.nt P) vS s t k v w (.returned (Bp 0)) w'):=O (fun w1 w3 w4 l B' p a' x' s' h1 e1 e2 e3 e4 m3 d3 hR h4=>by
  obtain⟨m4,d4⟩:=m3.below h4;obtain⟨_,d1⟩:=M.below h1;have hc:Cv s t k v=0:=by unfold Cv;rw[C3 e3]
  rw[<-e1];refine(Il Z c B0 l _ vS B' A s' t a' x' w4 m4 oa oa (hR.step d4.oz)).mono ?_;rintro e Q ⟨hu,a7,m5,d5,_⟩;exact⟨hu,l,_,vS,a7,by rw[hc],((d1.trans d3).trans d4).trans d5,.inl ⟨hc,B',AY A t a',by rw[<-e2];exact m5⟩⟩)
 have av:=Fo hf hj (W:=(s.T t).V) (fun q hq=>az q oa) (s.T t).nv oa;have bq:Hid (∀w4,B9 w w4\/(∃w3,AZ Z w3 c B0 vN (S9 g s.nt P) vS (N9) Bk A s/\BH w3/\B9 w3 w4)->C9 235 #[CA (Bk j) (A t) (s.T t)] w4 fun e w'=>(∃v0 v1 v2,e=.returned (dO v0 v1 v2 (Av s.F j (s.T t).V (s.T t).nv))/\DV (Av s.F j (s.T t).V (s.T t).nv) w' v0 v1 v2 w4.heap.size w'.heap.size)/\B9 w4 w'):=O (fun w4 h4=>by
  have hq:∃w3,AZ Z w3 c B0 vN (S9 g s.nt P) vS (N9) Bk A s/\BH w3/\B9 w3 w4:=h4.elim (fun h=>⟨w,M,hT,h⟩) id;obtain⟨w3,m3,R,hb⟩:=hq;exact TG (A t) (s.T t) s B0 Bk j w4 (Bg _ _ R hb) (I2.below m3.nd hb) hf hj U (((m3.rd t ht).now.1).below hb rfl) az)
 have br:Hid (∀w1 w3 Q u0 c0 u1 c1 u2 c2,B9 w w1->BN s (s.T t) k v=.loose->AZ Z w3 c B0 vN (S9 g s.nt P) vS (N9) Bk A s->BH w3->Br (Au B0 c vN (S9 g s.nt P) vS w1) w1 (Au B0 c vN (S9 g s.nt P) vS w3) w3->B9 w3 Q->G8 Q u0 u1 u2 (Av s.F j (s.T t).V (s.T t).nv)->
   C9 234 #[Q9 c,J (t:Int),Dv u0 c0 u1 c1 u2 c2 (Av s.F j (s.T t).V (s.T t).nv),Gf k,Gf v] Q fun e w'=>e=.returned (Bp 0)/\UZ Z c B0 vN (S9 g s.nt P) vS s t k v w (.returned (Bp 0)) w'/\∀(q:Nat) (cs:Array Value) (ty:TypeId),Q.heap[q]?=some (Obj.cells cs ty (0,0))->(ty=236\/ty=43\/ty=45\/ty=51)->w'.heap[q]?=Q.heap[q]?):=O (fun w1 w3 Q u0 c0 u1 c1 u2 c2 h1 hw m3 R d3 h5 hD=>by
  obtain⟨m5,d5⟩:=m3.below h5;obtain⟨_,d1⟩:=M.below h1;obtain⟨e1,e2⟩:=XG hw hx;refine(Iv Z c B0 vN _ vS Bk A s t u0 c0 u1 c1 u2 c2 _ k v Q m5 ht b6 (Bg _ _ R h5) hD av.ls.inv (by rw[av.m];omega) hk hv b7 b8).mono ?_;rintro e w6 ⟨he,a7,a',m6,d6,_⟩;rw[OP av bh]at he;refine⟨he,⟨vN,_,vS,a7,by rw[e1],((d1.trans d3).trans d5).trans d6,.inl ⟨e1,Bk,AY A t a',by rw[e2];exact m6⟩⟩,fun q cs ty hq hty=>d6.boxes m5 hq hty⟩)
 have x1:=ol X cd M.cells.2.1;have xg:=ol X ca aM;obtain⟨⟨k0,k1,k2,k3,k4⟩,⟨v0,v1,v2,v3,v4⟩⟩:=a6.cells;have lc:c<W.heap.size:=oa;have lg:g<W.heap.size:=oa;have l0:w.heap.size<W.heap.size:=oa;have l1:w.heap.size+1<W.heap.size:=oa;have cj:=O a6;have bt:=O X;have ck:=O hT;have cl:=O M;have b5:=M.base;have cy:=nF (CA (Bk j) (A t) (s.T t));obtain⟨D,hD⟩:∃D,D=Av s.F j (s.T t).V (s.T t).nv:=⟨_,rfl⟩;rw[<-hD]at bq br;clear M hT hk hv au X a6 aM cb bp hx cc hf U bm az bn av hD
 go_enter func203,ntmps203
 go_upto_region 1 with fail
 rw[<-hW];clear hW;by_cases f:v.kind=0/\gv.kind=0
 case pos=>
  have d1:(v.kind==0)=true:=by simp[f.1]
  have d2:(gv.kind==0)=true:=by simp[f.2]
  have HN:=O f;clear f;refine qr W ?_;refine N (h:=N (h:=N (h:=N (h:=N (h:=N (h:=N (h:=N (h:=N (h:=N (h:=N (h:=N (h:=?_))))))))))));refine N (h:=?_);refine GS (fun K hK=>?_);go_simp;apply Exists.intro;refine And.intro (fun w' E=>?_) (hK _ ?_)
  ·go_invoke
   (try go_simp)
   refine((ah _ E)).mono ?_;rintro e cm ⟨rfl,hb⟩;exact⟨rfl,oo E hb⟩
  clear hK K;refine N (h:=N (h:=N (h:=?_)));refine H7 ?_;intro w1 a;have HE:=O (cg w1 (bt.trans (a.mono oa)) HN);clear a;go_wp2;refine E1 (v:=Bp 0) (by simp[results,results203,go_sem,Bp]) rfl HE
 have ar:(v.kind=0/\gv.kind≠0)\/v.kind≠0:=by
  by_cases h:v.kind=0
  ·exact .inl ⟨h,fun e=>f ⟨h,e⟩⟩
  ·exact .inr h
 have HN:=O f;clear f;rcases ar with⟨h1,h2⟩|h1
 case' inl=>
  have d1:(v.kind==0)=true:=by simp[h1]
  have d2:(gv.kind==0)=false:=by simp[h2]
  clear h1 h2;refine qr W ?_;refine N (h:=N (h:=N (h:=N (h:=N (h:=N (h:=N (h:=N (h:=N (h:=N (h:=N (h:=N (h:=?_))))))))))));refine N (h:=?_);refine GS (fun K hK=>?_);go_simp;apply Exists.intro;refine And.intro (fun w' E=>?_) (hK _ ?_)
  ·go_invoke
   (try go_simp)
   refine((ah _ E)).mono ?_;rintro e cm ⟨rfl,hb⟩;exact⟨rfl,oo E hb⟩
  clear hK K;refine N (h:=N (h:=N (h:=?_)));refine H7 ?_;intro w1 a
 case' inr=>
  have d1:(v.kind==0)=false:=by simp[h1]
  clear h1
  go_quiet (fail)
  obtain⟨w1,a8⟩:∃w1,w1=W.drewN nq:=⟨_,rfl⟩;have a:B9 W w1:=by rw[a8];exact⟨rfl,rfl,rfl,Be _,fun _ _=>rfl⟩
  rw[<-a8];clear a8
 all_goals
  have x1:=ol a lc x1;have xg:=ol a lg xg;have z1:=a.size;have cz:c<w1.heap.size:=oa;have cD:g<w1.heap.size:=oa;have cN:w.heap.size<w1.heap.size:=oa;have c3:w.heap.size+1<w1.heap.size:=oa;obtain⟨S,aw⟩:∃S,S=w1.alloc (.cells #[.slice (A t).va (s.T t).nv (A t).vc,.slice (A t).la (s.T t).d.n (A t).lc,.slice (A t).ia (s.T t).d.m (A t).ic,.slice (A t).xa (s.T t).d.x (A t).xc,J (s.T t).d.used,J (s.T t).d.live,J (s.T t).d.turns,Q9 (Bk j)] 236):=⟨_,rfl⟩;have bb:B9 w1 S:=by rw[aw];exact(Cs _ _).alloc (Be _) _
  have ax:S.heap[w1.heap.size]?=some (.cells (B4 (Bk j) (A t) (s.T t)).toArray 236 (0,0)):=by rw[aw];exact BE _ _
  have ai:B9 w S:=(bt.trans (a.mono oa)).trans (bb.mono oa);have af:=O ai;have ad:=(cj.below a).below bb;have L:=O ad;have bu:=O ax;obtain⟨⟨k0,k1,k2,k3,k4⟩,⟨v0,v1,v2,v3,v4⟩⟩:=ad.cells;have cn:Hid (S.heap[w1.heap.size]?=some (.cells #[.slice (A t).va (s.T t).nv (A t).vc,.slice (A t).la (s.T t).d.n (A t).lc,.slice (A t).ia (s.T t).d.m (A t).ic,.slice (A t).xa (s.T t).d.x (A t).xc,J (s.T t).d.used,J (s.T t).d.live,J (s.T t).d.turns,Q9 (Bk j)] 236 (0,0))):=O ax;have z2:=Ah ax;have c4:w.heap.size<S.heap.size:=oa;have c5:w.heap.size+1<S.heap.size:=oa;have bj:Hid ((Instr.storeAt 236 (Q9 w1.heap.size) (CA (Bk j) (A t) (s.T t))).run prog (w1.alloc (.cells Cc 236))=.ok () S):=O (by rw[aw];exact Q7 w1 (Bk j) (A t) (s.T t));clear a bb ax ai ad aw;go_upto_region 6 with(refine Ai rfl rfl _ bj ?_)
  clear x1 xg;go_wp2_with (first|(refine Aat rfl 236 _ rfl w1.heap.size rfl _ _ _ _ cn underlying236 rfl LB ?_));refine(ch S af HN).mono ?_;rintro e w3 (⟨rfl,aj,m3,d3⟩|⟨l,B',p,a',x',s',rfl,e1,e2,e3,e4,m3,d3,hR⟩)
  focus
   have ag:=(cl.below af).1;have ak:dT w w3 k v:=⟨(d3.boxes ag L.k (.inr (.inl rfl))).trans L.k,(d3.boxes ag L.v (.inr (.inl rfl))).trans L.v⟩;have bc:=(d3.boxes ag bu (.inl rfl)).trans bu;have R:BH w3:=(Bg _ _ ck af).below (B:=B0) ⟨d3.os,d3.tape,d3.output,d3.size,fun q hq=>d3.block q oa (fun e=>oj (ag.Ol e).1)⟩ oa;have bw:=O m3;have cq:=O d3;have bx:=O R;have cr:=O aj;obtain⟨H,o⟩:∃H,H=w3.alloc (.cells Cc 236):=⟨_,rfl⟩;have I:B9 w3 H:=by rw[o];exact(Cs _ _).alloc (Be _) _
   have r:=ak.below I;have C:=(I.block _ (Ah bc)).trans bc;have bz:Ho w.heap.size (w.heap.size+1) w1.heap.size (Bk j) k v (A t) (s.T t) H.drew:=Ho.of (W:=H) r C;have ae:Hid ((Instr.storeAt 236 (Q9 w3.heap.size) (.agg Cc)).run prog (w3.alloc (.cells Cc 236))=.ok () H):=O (by
    rw[o];exact E3 (t:=236) (v:=.agg Cc) (old:=Cc.toList) (vs:=Cc.toList) Ee w3 (ty:=236) rfl rfl Mr rfl)
   have bd:=O I;have ao:=O r;have ct:=O C;have b0:=Ah r.k;have b1:=Ah r.v;have b2:=Ah C;clear m3 d3 R aj ag ak bc I r C o k0 k1 k2 k3 k4 v0 v1 v2 v3 v4;go_upto_region 10 with(refine Ai rfl rfl _ ae ?_)
   refine Hl (Ho w.heap.size (w.heap.size+1) w1.heap.size (Bk j) k v (A t) (s.T t)) ?_;refine tz 0 (h:=tz 1 (h:=tz 2 (h:=tz 4 (h:=tz 5 (h:=?_)))));refine ry 3 (fun K hK=>?_);go_simp;have aq:B9 w3 H.drew:=bd.drew;refine(bq _ (.inr ⟨w3,bw,bx,aq⟩)).mono ?_;rintro e Q ⟨⟨u0,u1,u2,rfl,b3⟩,b⟩;have b:B9 H Q:=AaK (Cs _ _).drew b;obtain⟨ua,uc,ub,ud,ue,uf,q0,q1,q2,b4⟩:=b3.at;subst q0 q1 q2;have bf:=bz.keep (W':=Q) (b.block _ b0) (b.block _ b1) (b.block _ b2);have bk:=O (br S w3 Q ua uc ub ud ue uf af cr bw bx cq (oo bd b) b4);have bg:=O (And.intro ((b.block _ b0).trans ao.k) (And.intro ((b.block _ b1).trans ao.v) ((b.block _ b2).trans ct)));refine hK.out _ _ bf (fun _=>?_);clear hK K bz b3 b4 b aq;refine ry 6 (fun K hK=>?_);go_simp;refine bk.mono ?_;rintro e w6 ⟨rfl,hP,ay⟩;have cu:=bf.keep (W':=w6) (ay _ _ _ bg.1 (.inr (.inl rfl))) (ay _ _ _ bg.2.1 (.inr (.inl rfl))) (ay _ _ _ bg.2.2 (.inl rfl));have HP:=O hP;refine hK.out _ _ cu (fun _=>?_);clear hK K bf hP ay;refine tz 7 (h:=?_);refine Fj ?_;go_wp2_with fail
  rotate_left
  focus
   obtain⟨H,o⟩:∃H,H=w3.alloc (.cells (B4 p a' x').toArray 236):=⟨_,rfl⟩;have I:B9 w3 H:=by rw[o];exact(Cs _ _).alloc (Be _) _
   have C:H.heap[w3.heap.size]?=some (.cells (B4 p a' x').toArray 236 (0,0)):=by rw[o];exact BE _ _
   have ae:Hid ((Instr.storeAt 236 (Q9 w3.heap.size) (.agg (B4 p a' x').toArray)).run prog (w3.alloc (.cells Cc 236))=.ok () H):=O (by
    rw[o];exact Q7 w3 p a' x')
   have cv:=O (HY S w3 H l B' p a' x' s' af e1 e2 e3 e4 m3 d3 hR I);have cw:=O C;have l4:=Ah C;clear m3 d3 e1 e2 e3 e4 hR I C o k0 k1 k2 k3 k4 v0 v1 v2 v3 v4;go_upto_region 8 with(refine Ai rfl rfl _ ae ?_)
   go_wp2_with (first|(refine Aat rfl 236 _ rfl w3.heap.size rfl _ _ _ _ cw underlying236 rfl LB ?_))
   refine cv.mono ?_;rintro e Q ⟨⟨uu,rfl⟩,hP⟩;have HP:=O hP;clear hP;go_wp2
  rotate_left;all_goals
   refine E1 (v:=Bp 0) (by simp[results,results203,go_sem,Bp]) rfl HP
theorem Ob(Z:Nat->Prop)(c B0:Nat)(vN vT vS:V9)(Bk:Nat->Nat)(A:Nat->Ad)(s:AK)(t:Nat)(k v:Vl)(w:Y)(h:AZ Z w c B0 vN vT vS (N9) Bk A s)(a:KH s)(g:t<s.nt)(l:BH w)(hk:Ky k)(n:v.ok=true)(b:MI k v)(d:5<=B0):
  C9 203 #[Q9 c,J (t:Int),Gf k,Gf v] w fun e w'=>UZ Z c B0 vN vT vS s t k v w e w':=by
 have hx:=a.t t g;rcases hx.way with⟨h1,h2,h3⟩|⟨j,h1,h2,h3,h4,h5⟩
 ·exact Z2 Z c B0 vN vT vS Bk A s t k v w h g a.nt l h1 h3 hx.wf hx.m hk n b d
 ·exact Z1 Z c B0 vN vT vS Bk A s t j k v w h a.f g a.nt l h1 h2 h3 h4 (fun i hi=>(h5 i hi).1) hk n b d (fun i hi=>by
   rcases(a.t i hi).way with⟨e,_⟩|⟨q,e,hq,_⟩
   ·exact .inl e
   ·exact .inr ⟨q,e,hq⟩)
end
theorem Ua{t:Nat}(hf:Ax s.nf s.F=0)(hx:Oi s (s.T t))(n:Int):
  (AG Bk A (s.T t)=.iface 239 (KD A (s.T t))/\∃b,∀w,VN w s B0 Bk A (s.T t)->C9 347 #[KD A (s.T t),J n] w (R9 (eN b ((Uu s t).next n)) w))\/
  (∃p,AG Bk A (s.T t)=.iface 236 (CA p A (s.T t))/\∃b,∀w,VN w s B0 Bk A (s.T t)->C9 340 #[CA p A (s.T t),J n] w (R9 (eN b ((Uu s t).next n)) w)):=by
 rcases hx.way with⟨h1,h2,h3⟩|⟨j,h1,h2,h3,h4,h5⟩
 ·refine .inl ⟨DD h1,(Kc (s.T t).d n).1,fun w a=>?_⟩;rw[Zc h1 h3];exact Ku A (s.T t) n w a.tb a.d hx.small hx.wf (FW h3)
 ·refine .inr ⟨Bk j,?_,Qy s j (s.T t) n,fun w a=>?_⟩
  ·unfold AG;rw[C3 oa,h1];rfl
  ·rw[Uv h1];exact Mb A (s.T t) s B0 Bk j n w a.nd hf h2 h3 a.v
def GB(c g ab t:Nat)(vT a:V9)(n:Int)(W:Y):Prop:=W.cell? (G c 1)=some vT/\W.cell? (G g t)=some a/\W.cell? (G ab 1)=some (J (t:Int))/\W.cell? (G ab 3)=some (J n)
theorem GB.keep{t:Nat}{b:V9}{n:Int}(h:GB c g ab t vT b n w)(hc:w'.heap[c]?=w.heap[c]?)(e:w'.heap[g]?=w.heap[g]?)(d:w'.heap[ab]?=w.heap[ab]?):GB c g ab t vT b n w':=by
 obtain⟨h1,h2,h3,h4⟩:=h;exact⟨(As (a:=(G c 1)) hc).trans h1,(As (a:=(G g t)) e).trans h2,(As (a:=(G ab 1)) d).trans h3,(As (a:=(G ab 3)) d).trans h4⟩
theorem Yh(b:Bool)(p:Pr)(w:Y):(Instr.field 254 (eN b p) 1).run prog w=.ok (.agg (Db p).toArray) w:=og
theorem ZI(hb:w.heap[b]?=some (.cells eW.toArray 96 (0,0)))(p:Pr):∃w',(Instr.storeAt 96 (Q9 b) (.agg (Db p).toArray)).run prog w=.ok () w'/\Bn w w' b (Db p).toArray 96:=
 BM (old:=eW) (vs:=Db p) VI hb rfl rfl (Fh p) rfl
def fA(p:Pr):An:=⟨0,p.turn,p.key,p.val⟩
attribute [local go_sem] Yh
theorem iQ(Z:Nat->Prop)(c B0:Nat)(vN vT vS vU:V9)(Bk:Nat->Nat)(A:Nat->Ad)(s:AK)(a:Ac)(t:Nat)(w:Y)(L:AZ Z w c B0 vN vT vS vU Bk A s)(hf:Ax s.nf s.F=0)(hx:Oi s (s.T t))(hT:BH w)(et:a.t=t)(ht:t<s.nt)(ao:s.nt<=100):
  C9 144 #[Q9 c,Lm a] w (R9 (.tuple #[Dw (fA ((Uu s t).next a.n)),Bp 0]) w):=by
 obtain⟨g,V,hv,X,aq,M,ad⟩:=L.CP ht;subst hv;obtain⟨W,hW,o,hA,hR,hz⟩:=boxes w a;have ae:=L.lt;have P:=(L.lT hT ht).below o;have f:∀kv,AG Bk (A t) (s.T t)=kv->GB c g w.heap.size t (S9 g s.nt V) kv a.n W.drew:=fun kv e=>by
  obtain⟨a0,a1,a2,a3,_⟩:=hA.all;rw[et]at a1;exact⟨(o.cell (p:=(G c 1)) ae).trans L.cells.2.1,(o.cell (p:=(G g t)) X).trans (M.trans (by rw[e])),a1,a3⟩
 have Q:=O P;have HB:=O o;have HQ:=O hR;have af:=O f;have R:=O (Ua (B0:=B0) (Bk:=Bk) (A:=A t) hf hx a.n);obtain⟨p,hp⟩:∃p,p=(Uu s t).next a.n:=⟨_,rfl⟩;rw[<-hp]at R ⊢;have zw:=o.size;clear L hA hR P f hf hx hT M ad o et hp
 go_enter func144,ntmps144
 go_wp2_with fail
 rw[<-hW];clear hW;rcases z R with⟨H,fb,hC⟩|⟨pn,H,fb,hC⟩
 case' inl=>refine Dh (GB c g w.heap.size t (S9 g s.nt V) (.iface 239 (KD (A t) (s.T t))) a.n) og ?_
 case' inr=>refine Dh (GB c g w.heap.size t (S9 g s.nt V) (.iface 236 (CA pn (A t) (s.T t))) a.n) og ?_
 all_goals
  have f:=z af _ H;have HC:=O hC;clear hC H;change wpAnyH _ _ _ _ _ _ _ _ (World.drew _);refine tz 0 (h:=tz 1 (h:=tz 2 (h:=tz 3 (h:=tz 4 (h:=tz 5 (h:=tz 6 (h:=tz 7 (h:=tz 8 (h:=tz 9 (h:=tz 10 (h:=?_)))))))))));refine AaE (rs:=[11,13]) og od ?_;refine SO rfl (fun K hK=>?_) (SO rfl (fun K hK=>?_) AaH)
  focus
   go_simp;refine(HC _ (Q.below (Cs _ _).drew)).mono ?_;rintro e w3 ⟨rfl,d⟩;have d:B9 W w3:=AaK (Cs _ _).drew d;have i:=f.keep (w':=w3) (d.block c oa) (d.block g oa) (d.block w.heap.size oa);have z3:=d.size;have B:GB c g w.heap.size t _ _ a.n (w3.alloc (.cells eW.toArray 96)):=i.keep (DO _ _ _ oa) (DO _ _ _ oa) (DO _ _ _ oa);have j:GB c g w.heap.size t _ _ a.n (w3.alloc (.cells (Db p).toArray 96)):=i.keep (DO _ _ _ oa) (DO _ _ _ oa) (DO _ _ _ oa);have ag:=O d;refine hK.out _ _ i (fun _=>?_);clear hK K f d;refine tz 12 (h:=?_);refine ry 13 (fun K hK=>?_);go_simp;refine hK.out _ _ B (fun _=>?_);clear hK K;refine ry 14 (fun K hK=>?_);refine BJ rfl rfl _ (N4 w3 p) ?_;refine hK.out _ _ j (fun _=>?_);clear hK K;refine Fj ?_;obtain⟨w4,u⟩:∃w4,w4=w3.alloc (.cells (Db p).toArray 96):=⟨_,rfl⟩;have b:w4.heap[w3.heap.size]?=some (.cells (Db p).toArray 96 (0,0)):=by rw[u];exact BE _ _
   have x:Hid (B9 W w4):=O (by rw[u];exact ag.alloc z3 _);rw[<-u];obtain⟨k,r⟩:∃k,k=w3.heap.size:=⟨_,rfl⟩;rw[<-r]at b ⊢;clear u i B j r
  rotate_left
  focus
   go_simp;have m:B9 W (W.alloc (.cells eW.toArray 96)).drew:=(n9).drew;have C:GB c g w.heap.size t _ _ a.n (W.alloc (.cells eW.toArray 96)).drew:=f.keep (m.block c oa) (m.block g oa) (m.block w.heap.size oa);refine hK.out _ _ C (fun _=>?_);clear hK K;refine ry 11 (fun K hK=>?_);go_simp;refine(HC _ (Q.below m)).mono ?_;rintro e w3 ⟨rfl,d⟩;have l:B9 W w3:=oo m d;have S:w3.heap[W.heap.size]?=some (.cells eW.toArray 96 (0,0)):=(d.block _ od).trans (BE W _);have i:=f.keep (w':=w3) (l.block c oa) (l.block g oa) (l.block w.heap.size oa);obtain⟨w4,D,q⟩:=ZI S p;have j:=i.keep (w':=w4) (q.other c oa) (q.other g oa) (q.other w.heap.size oa);have b:=q.BB;have x:Hid (B9 W w4):=O (q.below l (Be _));have U:=O D;refine hK.out _ _ i (fun _=>?_);clear hK K f d l m C D q S;refine tz 12 (h:=?_);refine ry 14 (fun K hK=>?_);refine BJ rfl rfl _ U ?_;refine hK.out _ _ j (fun _=>?_);clear hK K i j;refine Fj ?_;obtain⟨k,r⟩:∃k,k=W.heap.size:=⟨_,rfl⟩;have ar:w.heap.size+1≠k:=oa;rw[<-r]at b ⊢;clear r
  rotate_left;all_goals
   have au:=Ah b;have z4:=x.size;have p0:w4.cell? (G k 0)=some (J p.key.kind):=by rw[MM w4 _ _ _ _ _ b];rfl
   have p1:w4.cell? (G k 1)=some (J p.key.num):=by rw[MM w4 _ _ _ _ _ b];rfl
   have p2:w4.cell? (G k 2)=some (F9 p.key.Ag):=by rw[MM w4 _ _ _ _ _ b];rfl
   have p3:w4.cell? (G k 3)=some (.string p.key.str):=by rw[MM w4 _ _ _ _ _ b];rfl
   have p4:w4.cell? (G k 4)=some (J p.key.ref):=by rw[MM w4 _ _ _ _ _ b];rfl
   have p5:w4.cell? (G k 5)=some (J p.val.kind):=by rw[MM w4 _ _ _ _ _ b];rfl
   have p6:w4.cell? (G k 6)=some (J p.val.num):=by rw[MM w4 _ _ _ _ _ b];rfl
   have p7:w4.cell? (G k 7)=some (F9 p.val.Ag):=by rw[MM w4 _ _ _ _ _ b];rfl
   have p8:w4.cell? (G k 8)=some (.string p.val.str):=by rw[MM w4 _ _ _ _ _ b];rfl
   have p9:w4.cell? (G k 9)=some (J p.val.ref):=by rw[MM w4 _ _ _ _ _ b];rfl
   have lP:w4.cell? (G k 10)=some (J p.turn):=by rw[MM w4 _ _ _ _ _ b];rfl
   obtain⟨w5,E,I⟩:=Bs (HQ.below x oa) (fA p);have ah:=O E;have ai:=O I;obtain⟨r0,r1,r2,r3,r4,r5,r6,r7,r8,r9,aj,ak⟩:=An.read I.BB;clear E I b;go_wp2_with (refine Ai rfl rfl _ ah ?_);refine E1 (v:=.tuple #[Dw (fA p),Bp 0]) (by simp[results,results144,go_sem,r0,r1,r2,r3,r4,r5,r6,r7,r8,r9,aj,ak,Bp]) rfl ⟨rfl,?_⟩;exact ai.below (oo HB x) oa
noncomputable def WK(x:Tb):Int:=if x.shape=-1 then FC x.d else 0
def VW(x:Tb):Int:=if x.shape=-1 then x.d.live else x.nv
theorem Lf(p:Nat)(A:Ad)(t:Tb)(w:Y):C9 344 #[CA p A t] w (R9 (J 0) w):=by
 go_enter func344,ntmps344
 go_wp2;go_ret;exact⟨rfl,n9⟩
theorem Mc(p:Nat)(A:Ad)(t:Tb)(w:Y):C9 341 #[CA p A t] w (R9 (J (t.nv:Int)) w):=by
 go_enter func341,ntmps341
 go_wp2;go_ret;exact⟨rfl,n9⟩
theorem Kv(A:Ad)(t:Tb)(w:Y):C9 348 #[KD A t] w (R9 (J t.d.live) w):=by
 go_enter func348,ntmps348
 go_wp2;go_ret;exact⟨rfl,n9⟩
theorem JG(A:Ad)(t:Tb)(w:Y)(f:BH w)(hA:G8 w A.la A.ia A.xa t.d)(g:Small t.d)(a:VQ t.d)(h:C6 t.d (hD t.d)=0):C9 351 #[KD A t] w (R9 (J (FC t.d)) w):=by
 have hb:∀o,B9 w (w.alloc o):=fun o=>n9;have j:Hid (∀o,C9 355 #[Dv A.la A.lc A.ia A.ic A.xa A.xc t.d] (w.alloc o) fun e w'=>e=.returned (J (FC t.d))/\Below (w.alloc o).heap.size (w.alloc o) w'):=O (fun o=>YF A.la A.lc A.ia A.ic A.xa A.xc t.d (w.alloc o) (Bg _ _ f (hb o)) (hA.below (hb o)) g a h);have i:=O hb;clear f hA g a hb h
 go_enter func351,ntmps351
 go_wp2_with fail
 refine(j _).mono ?_;rintro e w1 ⟨rfl,b⟩;have c:=O (oo (i _) b);clear b;go_wp2;go_ret;exact⟨rfl,c⟩
theorem YK(hx:Oi s x):
  (AG Bk A x=.iface 239 (KD A x)/\∀w,VN w s B0 Bk A x->C9 351 #[KD A x] w (R9 (J (WK x)) w))\/
  (∃p,AG Bk A x=.iface 236 (CA p A x)/\∀w,VN w s B0 Bk A x->C9 344 #[CA p A x] w (R9 (J (WK x)) w)):=by
 rcases hx.way with⟨h1,h2,h3⟩|⟨j,h1,h2,h3,h4,h5⟩
 ·have e:WK x=FC x.d:=DD h1;rw[e];exact .inl ⟨DD h1,fun w a=>JG A x w a.tb a.d hx.small hx.wf (FW h3)⟩
 ·have e:WK x=0:=C3 oa;rw[e];refine .inr ⟨Bk j,?_,fun w a=>Lf (Bk j) A x w⟩;unfold AG;rw[C3 oa,h1];rfl
theorem eL(Z:Nat->Prop)(c B0:Nat)(vN vT vS vU:V9)(Bk:Nat->Nat)(A:Nat->Ad)(s:AK)(a:Ac)(t:Nat)(w:Y)(n:AZ Z w c B0 vN vT vS vU Bk A s)(hx:Oi s (s.T t))(hT:BH w)(et:a.t=t)(ht:t<s.nt)(ad:s.nt<=100):
  C9 145 #[Q9 c,Lm a] w (R9 (.tuple #[Dw (DJ (WK (s.T t))),Bp 0]) w):=by
 obtain⟨g,C,hv,D,ae,o,E⟩:=n.CP ht;subst hv;obtain⟨W,hW,d,hA,hR,hz⟩:=boxes w a;have F:=n.lt;have q:=(n.lT hT ht).below d;have f:∀H,AG Bk (A t) (s.T t)=H->Ha c g w.heap.size t (S9 g s.nt C) H a.k W.drew:=fun H e=>by
  obtain⟨a0,a1,a2,a3,a4,a5,a6,a7,a8,a9⟩:=hA.all;rw[et]at a1;exact⟨(d.cell (p:=(G c 1)) F).trans n.cells.2.1,(d.cell (p:=(G g t)) D).trans (o.trans (by rw[e])),a1,a4,a5,a6,a7,a8⟩
 have I:=O q;have L:=O d;have HQ:=O hR;have M:=O f;have P:=O (YK (B0:=B0) (Bk:=Bk) (A:=A t) hx);clear n hA hR q f hx hT o E d et
 go_enter func145,ntmps145
 go_wp2_with fail
 rw[<-hW];clear hW;rcases z P with⟨l,Q⟩|⟨p,l,Q⟩
 case' inl=>refine Dh (Ha c g w.heap.size t (S9 g s.nt C) (.iface 239 (KD (A t) (s.T t))) a.k) og ?_
 case' inr=>refine Dh (Ha c g w.heap.size t (S9 g s.nt C) (.iface 236 (CA p (A t) (s.T t))) a.k) og ?_
 all_goals
  have f:=z M _ l;have HC:=O Q;clear Q l;change wpAnyH _ _ _ _ _ _ _ _ (World.drew _);refine tz 0 (h:=tz 1 (h:=tz 2 (h:=tz 3 (h:=tz 4 (h:=tz 5 (h:=tz 6 (h:=tz 7 (h:=tz 8 (h:=?_)))))))));have zw:=L.size;refine ry 9 (fun K hK=>?_);go_simp;refine(HC _ (I.below (Cs _ _).drew)).mono ?_;rintro e w3 ⟨rfl,b⟩;have b:B9 W w3:=AaK (Cs _ _).drew b;have r:=f.keep (w':=w3) (b.block c oa) (b.block g oa) (b.block w.heap.size oa);obtain⟨B,m⟩:∃B,B=WK (s.T t):=⟨_,rfl⟩;rw[<-m];have R:=O m;clear m;obtain⟨w4,j,i⟩:=Bs (HQ.below b oa) (DJ B);have u:=r.keep (w':=w4) (i.other c oa) (i.other g oa) (i.other w.heap.size oa);have S:=O b;have U:=O j;have x:=O i;refine hK.out _ _ r (fun _=>?_);clear hK K f b j i;refine tz 10 (h:=?_);refine ry 11 (fun K hK=>?_);refine BJ rfl rfl _ U ?_;refine hK.out _ _ u (fun af=>?_);clear hK K;refine tz 12 (h:=?_);refine Fj ?_;obtain⟨r0,r1,r2,r3,r4,r5,r6,r7,r8,r9,V,X⟩:=An.read x.BB;go_wp2_with fail;refine E1 (v:=.tuple #[Dw (DJ B),Bp 0]) (by simp[results,results145,go_sem,r0,r1,r2,r3,r4,r5,r6,r7,r8,r9,V,X,Bp]) rfl ⟨by rw[z R],?_⟩;exact x.below (oo L S) oa
theorem YJ(hx:Oi s x):
  (AG Bk A x=.iface 239 (KD A x)/\∀w,VN w s B0 Bk A x->C9 348 #[KD A x] w (R9 (J (VW x)) w))\/
  (∃p,AG Bk A x=.iface 236 (CA p A x)/\∀w,VN w s B0 Bk A x->C9 341 #[CA p A x] w (R9 (J (VW x)) w)):=by
 rcases hx.way with⟨h1,h2,h3⟩|⟨j,h1,h2,h3,h4,h5⟩
 ·have e:VW x=x.d.live:=DD h1;rw[e];exact .inl ⟨DD h1,fun w a=>Kv A x w⟩
 ·have e:VW x=(x.nv:Int):=C3 oa;rw[e];refine .inr ⟨Bk j,?_,fun w a=>Mc (Bk j) A x w⟩;unfold AG;rw[C3 oa,h1];rfl
theorem iR(Z:Nat->Prop)(c B0:Nat)(vN vT vS vU:V9)(Bk:Nat->Nat)(A:Nat->Ad)(s:AK)(a:Ac)(t:Nat)(w:Y)(n:AZ Z w c B0 vN vT vS vU Bk A s)(hx:Oi s (s.T t))(hT:BH w)(et:a.t=t)(ht:t<s.nt)(ad:s.nt<=100):
  C9 146 #[Q9 c,Lm a] w (R9 (.tuple #[Dw (DJ (VW (s.T t))),Bp 0]) w):=by
 obtain⟨g,C,hv,D,ae,o,E⟩:=n.CP ht;subst hv;obtain⟨W,hW,d,hA,hR,hz⟩:=boxes w a;have F:=n.lt;have q:=(n.lT hT ht).below d;have f:∀H,AG Bk (A t) (s.T t)=H->Ha c g w.heap.size t (S9 g s.nt C) H a.k W.drew:=fun H e=>by
  obtain⟨a0,a1,a2,a3,a4,a5,a6,a7,a8,a9⟩:=hA.all;rw[et]at a1;exact⟨(d.cell (p:=(G c 1)) F).trans n.cells.2.1,(d.cell (p:=(G g t)) D).trans (o.trans (by rw[e])),a1,a4,a5,a6,a7,a8⟩
 have I:=O q;have L:=O d;have HQ:=O hR;have M:=O f;have P:=O (YJ (B0:=B0) (Bk:=Bk) (A:=A t) hx);clear n hA hR q f hx hT o E d et
 go_enter func146,ntmps146
 go_wp2_with fail
 rw[<-hW];clear hW;rcases z P with⟨l,Q⟩|⟨p,l,Q⟩
 case' inl=>refine Dh (Ha c g w.heap.size t (S9 g s.nt C) (.iface 239 (KD (A t) (s.T t))) a.k) og ?_
 case' inr=>refine Dh (Ha c g w.heap.size t (S9 g s.nt C) (.iface 236 (CA p (A t) (s.T t))) a.k) og ?_
 all_goals
  have f:=z M _ l;have HC:=O Q;clear Q l;change wpAnyH _ _ _ _ _ _ _ _ (World.drew _);refine tz 0 (h:=tz 1 (h:=tz 2 (h:=tz 3 (h:=tz 4 (h:=tz 5 (h:=tz 6 (h:=tz 7 (h:=tz 8 (h:=?_)))))))));have zw:=L.size;refine ry 9 (fun K hK=>?_);go_simp;refine(HC _ (I.below (Cs _ _).drew)).mono ?_;rintro e w3 ⟨rfl,b⟩;have b:B9 W w3:=AaK (Cs _ _).drew b;have r:=f.keep (w':=w3) (b.block c oa) (b.block g oa) (b.block w.heap.size oa);obtain⟨B,m⟩:∃B,B=VW (s.T t):=⟨_,rfl⟩;rw[<-m];have R:=O m;clear m;obtain⟨w4,j,i⟩:=Bs (HQ.below b oa) (DJ B);have u:=r.keep (w':=w4) (i.other c oa) (i.other g oa) (i.other w.heap.size oa);have S:=O b;have U:=O j;have x:=O i;refine hK.out _ _ r (fun _=>?_);clear hK K f b j i;refine tz 10 (h:=?_);refine ry 11 (fun K hK=>?_);refine BJ rfl rfl _ U ?_;refine hK.out _ _ u (fun af=>?_);clear hK K;refine tz 12 (h:=?_);refine Fj ?_;obtain⟨r0,r1,r2,r3,r4,r5,r6,r7,r8,r9,V,X⟩:=An.read x.BB;go_wp2_with fail;refine E1 (v:=.tuple #[Dw (DJ B),Bp 0]) (by simp[results,results146,go_sem,r0,r1,r2,r3,r4,r5,r6,r7,r8,r9,V,X,Bp]) rfl ⟨by rw[z R],?_⟩;exact x.below (oo L S) oa
section
attribute [local go_sem] U8
def Gz(Z:Nat->Prop)(c B0:Nat)(vN vT vS:V9)(s':AK)(x0:An)(w:Y)(e:Ending)(w':Y):Prop:=
 ∃x g a b d f,e=.returned (.tuple #[Dw x,Bp g])/\Br (Au B0 c vN vT vS w) w (Au B0 c a b d w') w'/\
  ((g=0/\x=x0/\∃Bk' A',AZ Z w' c B0 a b d f Bk' A' s')\/(g≠0/\x0=Bc g/\Ow Z w' c B0 a b d f s'))
section
variable {Z:Nat->Prop} {w w2 w3 w4:Y} {c B0:Nat} {vN vT vS vU:V9} {Bk:Nat->Nat} {A:Nat->Ad} {s:AK} {t:Nat} {k v:Vl} {e:Ending}
theorem Gz.read(a:AZ Z w c B0 vN vT vS vU Bk A s)(hb:B9 w w2)(x:An):Gz Z c B0 vN vT vS s x w (.returned (.tuple #[Dw x,Bp 0])) w2:=by
 obtain⟨m1,d1⟩:=a.below hb;exact⟨x,0,vN,vT,vS,vU,rfl,d1,.inl ⟨rfl,rfl,Bk,A,m1⟩⟩
theorem UZ.jG(a:Br (Au B0 c vN vT vS w) w (Au B0 c vN vT vS w2) w2)(h:UZ (ZB Z w.heap.size n) c B0 vN vT vS s t k v w2 e w3)(b:B0<=w.heap.size)(d:w.heap.size<=m)(hz:m<n)(o:Ge w3 m)(f:Bn w3 w4 m (Ey (Bc 0)).toArray 45):Gz Z c B0 vN vT vS (CC s t k v) (Bc (Cv s t k v)) w (.returned (.tuple #[Dw (Bc 0),Bp (Cv s t k v)])) w4:=by
 obtain⟨g,i,j,l,_,p,h⟩:=h;rcases h with⟨e1,Bk',A',m3⟩|⟨e1,u3⟩
 ·obtain⟨f1,f2⟩:=m3.Jt (a.trans p) b d hz o f;exact⟨Bc 0,_,g,i,j,l,rfl,f2,.inl ⟨e1,by rw[e1],Bk',A',f1⟩⟩
 ·obtain⟨f1,f2⟩:=u3.Jt (a.trans p) b d hz o f;exact⟨Bc 0,_,g,i,j,l,rfl,f2,.inr ⟨e1,rfl,f1⟩⟩
end
def MD(ab:Nat)(t:Int)(k v:Vl)(W:Y):Prop:=W.cell? (G ab 1)=some (J t)/\W.cell? (G ab 4)=some (J k.kind)/\W.cell? (G ab 5)=some (J k.num)/\W.cell? (G ab 6)=some (F9 k.Ag)/\W.cell? (G ab 7)=some (.string k.str)/\W.cell? (G ab 8)=some (J k.ref)/\W.cell? (G ab 9)=some (J v.kind)/\W.cell? (G ab 10)=some (J v.num)/\W.cell? (G ab 11)=some (F9 v.Ag)/\W.cell? (G ab 12)=some (.string v.str)/\W.cell? (G ab 13)=some (J v.ref)
theorem MD.keep{t:Int}{v:Vl}(h:MD ab t k v W)(h1:W'.heap[ab]?=W.heap[ab]?):MD ab t k v W':=by
 have e:∀q,W'.cell? (G ab q)=W.cell? (G ab q):=fun q=>As (a:=(G ab q)) h1;obtain⟨a0,a1,a2,a3,a4,a5,c,d,f,a9,b⟩:=h;exact⟨(e _).trans a0,(e _).trans a1,(e _).trans a2,(e _).trans a3,(e _).trans a4,(e _).trans a5,(e _).trans c,(e _).trans d,(e _).trans f,(e _).trans a9,(e _).trans b⟩
theorem kW(Z:Nat->Prop)(c B0:Nat)(vN vT vS:V9)(Bk:Nat->Nat)(A:Nat->Ad)(s:AK)(a:Ac)(t:Nat)(w:Y)(D:AZ Z w c B0 vN vT vS (N9) Bk A s)(hG:KH s)(hT:BH w)(et:a.t=t)(ht:t<s.nt)(hk:Ky (DY a.k))(hv:a.v.ok=true)(E:MI (DY a.k) a.v)(F:5<=B0):
  C9 142 #[Q9 c,Lm a] w fun e w'=>Gz Z c B0 vN vT vS (CC s t (DY a.k) a.v) (Bc (Cv s t (DY a.k) a.v)) w e w':=by
 obtain⟨W,hW,m,hA,hR,hz⟩:=boxes w a;have af:=D.lt;have n:=D.base;obtain⟨hE,q⟩:=D.enter m;have r:MD w.heap.size (t:Int) a.k a.v W.drew:=by
  obtain⟨a0,a1,a2,a3,a4,a5,a6,a7,a8,a9,H,I,a12,L⟩:=hA.all;rw[et]at a1;exact⟨a1,a4,a5,a6,a7,a8,a9,H,I,a12,L⟩
 obtain⟨i,b⟩:∃i,i=DY a.k:=⟨_,rfl⟩;have M:Hid (∀w2,B9 W w2->C9 203 #[Q9 c,J (t:Int),Gf i,Gf a.v] w2 fun e w3=>e=.returned (Bp (Cv s t i a.v))/\w3.heap[w.heap.size]?=w2.heap[w.heap.size]?/\Ge w3 (w.heap.size+1)/\∀w4,Bn w3 w4 (w.heap.size+1) (Ey (Bc 0)).toArray 45->Gz Z c B0 vN vT vS (CC s t i a.v) (Bc (Cv s t i a.v)) w (.returned (.tuple #[Dw (Bc 0),Bp (Cv s t i a.v)])) w4):=O (fun w2 h2=>by
  obtain⟨m2,d2⟩:=hE.below h2;refine(Ob _ c B0 vN vT vS Bk A s t i a.v w2 m2 hG ht (Bg _ _ hT (m.trans (h2.mono oa))) (by rw[b];exact hk) hv (by rw[b];exact E) F).mono ?_;intro e w3 hP;obtain⟨ag,ah,ai,aj,he,hd,_⟩:=id hP;have P:w2.heap[w.heap.size]?=some (.cells (Dn a) 51 (0,0)):=(h2.block _ oa).trans hA;have u:w2.heap[w.heap.size+1]?=some (.cells Om 45 (0,0)):=(h2.block _ oa).trans hR;have d:Ge w3 (w.heap.size+1):=(hd.boxes m2 u (.inr (.inr (.inl rfl)))).trans u;exact⟨he,hd.boxes m2 P (.inr (.inr (.inr rfl))),d,fun w4 h4=>UZ.jG (q.trans d2) hP n oa oa d h4⟩)
 have Q:=O b;rw[<-b];have lW:w.heap.size<W.heap.size:=oa;clear D hG hT et hk hv hE q hA hR m b
 go_enter func142,ntmps142
 go_wp2_with fail
 rw[<-hW];clear hW;refine Hl (MD w.heap.size (t:Int) a.k a.v) ?_;refine tz 0 (h:=tz 1 (h:=tz 2 (h:=tz 3 (h:=tz 4 (h:=tz 5 (h:=tz 8 (h:=tz 9 (h:=?_))))))));refine ry 6 (fun K hK=>?_);go_simp;refine m9 (Hx a.k.kind a.k.num a.k.Ag a.k.str a.k.ref _) fun w2 f=>?_;have f:B9 W w2:=AaK (Cs _ _).drew f;have o:=r.keep (W':=w2) (f.block _ lW);rw[DX,<-z Q];obtain⟨kc,x⟩:∃kc,kc=De a.k:=⟨_,rfl⟩;rw[<-x];clear x;have R:=O f;refine hK.out _ _ o (fun _=>?_);clear hK K r f;refine tz 7 (h:=?_);refine ry 10 (fun K hK=>?_);go_simp;refine(M _ R).mono ?_;rintro e w3 ⟨rfl,hab,d,g⟩;have B:=o.keep (W':=w3) hab;obtain⟨S,p⟩:∃S,S=Cv s t i a.v:=⟨_,rfl⟩;rw[<-p]at g ⊢;have T:=O p;obtain⟨w4,l,j⟩:=Bs d (Bc 0);have U:=O (g w4 j);have C:=B.keep (W':=w4) (j.other _ oa);have V:=O l;have X:=O j;refine hK.out _ _ B (fun _=>?_);clear hK K o hab d g l j p;refine ry 11 (fun K hK=>?_);refine BJ rfl rfl _ V ?_;refine hK.out _ _ C (fun _=>?_);clear hK K;refine tz 12 (h:=?_);refine Fj ?_;obtain⟨r0,r1,r2,r3,r4,r5,r6,r7,r8,r9,ad,ae⟩:=An.read X.BB;go_wp2_with fail;refine E1 (v:=.tuple #[Dw (Bc 0),Bp S]) (by simp[results,results142,go_sem,r0,r1,r2,r3,r4,r5,r6,r7,r8,r9,ad,ae]) rfl ?_;have h:=z U;rw[z T]at h ⊢;exact h
end
def KF(c g ab t i:Nat)(vT a:V9)(W:Y):Prop:=W.cell? (G c 1)=some vT/\W.cell? (G g t)=some a/\W.cell? (G ab 1)=some (J (t:Int))/\W.cell? (G ab 2)=some (J (i:Int))
theorem KF.keep{t:Nat}{b:V9}(h:KF c g ab t i vT b w)(hc:w'.heap[c]?=w.heap[c]?)(e:w'.heap[g]?=w.heap[g]?)(d:w'.heap[ab]?=w.heap[ab]?):KF c g ab t i vT b w':=by
 obtain⟨h1,h2,h3,h4⟩:=h;exact⟨(As (a:=(G c 1)) hc).trans h1,(As (a:=(G g t)) e).trans h2,(As (a:=(G ab 1)) d).trans h3,(As (a:=(G ab 2)) d).trans h4⟩
theorem ZJ(w:Y){vs:List Value}(a:vs.length=8)(h1:∀u∈vs,u.oneCell'=true):(Instr.storeAt 236 (Q9 w.heap.size) (.agg vs.toArray)).run prog (w.alloc (.cells Cc 236))=.ok () (w.alloc (.cells vs.toArray 236)):=
 E3 (old:=Cc.toList) Ee w (by rw[a];rfl) a h1 rfl
theorem aF(Z:Nat->Prop)(c B0:Nat)(vN vT vS vU:V9)(Bk:Nat->Nat)(A:Nat->Ad)(s:AK)(a:Ac)(t i:Nat)(w:Y)(hM:AZ Z w c B0 vN vT vS vU Bk A s)(I:KH s)(hT:BH w)(et:a.t=t)(L:t<s.nt)(ei:a.site=i)(hi:i<s.ns)(cq:5<=B0):
  C9 148 #[Q9 c,Lm a] w fun e w'=>Gz Z c B0 vN vT vS (AV s i t) (E4 (if 0<=Bj s i t then(s.T t).V (Bj s i t).toNat else Cm s.F (s.T t) (BA (s.S i).key))) w e w':=by
 obtain⟨X,hX⟩:∃X,X=E4 (if 0<=Bj s i t then(s.T t).V (Bj s i t).toNat else Cm s.F (s.T t) (BA (s.S i).key)):=⟨_,rfl⟩;rw[<-hX];have a7:=O hX;clear hX;obtain⟨g,E,bz,cr,ct,b0,b3⟩:=hM.CP L;subst bz;obtain⟨W,hW,ah,hA,hR,hz⟩:=boxes w a;have cu:=hM.lt;have ag:=hM.base;obtain⟨hE,a8⟩:=hM.enter ah;have hx:=I.t t L;have bb:=I.ns;have b4:=I.nt;have hf:=I.f;have bc:0<=Bj s i t->∃q:Nat,Bj s i t=q/\q<(s.T t).nv:=fun h=>by
  obtain⟨_,q,_,_,h1,h2,_⟩:=IC I hi L h;exact⟨q,h1,h2⟩
 have ay:=O (P2 _ c B0 vN _ vS vU Bk A s i t W hE hf hi bb L b4 hx (I.si i hi));obtain⟨a0,a1,a2,a3,_⟩:=hA.all;rw[et]at a1;rw[ei]at a2;have HA:=O hA;have HR:=O hR;have HE:=O hE;have b5:=O a8;have b6:=O (Bg _ _ hT ah);have bd:=O bc;have b7:=O (Sl (B0:=B0) (Bk:=Bk) (A:=A t) hf hx (F8 (I.si i hi).1));have lW:w.heap.size<W.heap.size:=oa;have lc:c<W.heap.size:=oa;have M:Hid (∀w3 P x,AZ (ZB Z w.heap.size W.heap.size) w3 c B0 vN (S9 g s.nt E) vS vU Bk A (AV s i t)->Br (Au B0 c vN (S9 g s.nt E) vS w) w (Au B0 c vN (S9 g s.nt E) vS w3) w3->Ge w3 (w.heap.size+1)->Bn w3 P (w.heap.size+1) (Ey x).toArray 45->Gz Z c B0 vN (S9 g s.nt E) vS (AV s i t) x w (.returned (.tuple #[Dw x,Bp 0])) P):=O (fun w3 P x m3 d3 hr b8=>by
  obtain⟨f1,f2⟩:=m3.Jt d3 ag oa oa hr b8;exact⟨x,0,_,_,_,_,rfl,f2,.inl ⟨rfl,rfl,Bk,A,f1⟩⟩)
 clear hM I hT et ei hE a8 hA hR ah b0 b3 hx hf bc
 go_enter func148,ntmps148
 go_upto_region 1 with fail
 rw[<-hW];clear hW;go_wp2_with fail;refine ay.mono ?_;rintro e w3 ⟨vs,h8,h1,rfl,bf,m3,d3⟩;have hab:=(d3.boxes HE HA (.inr (.inr (.inr rfl))));have bg:=(d3.boxes HE HR (.inr (.inr (.inl rfl))));have z3:=d3.size;obtain⟨b,H⟩:∃b,b=w3.alloc (.cells vs.toArray 236):=⟨_,rfl⟩;have l:B9 w3 b:=by rw[H];exact(Cs _ _).alloc (Be _) _
 have ai:b.heap[w3.heap.size]?=some (.cells vs.toArray 236 (0,0)):=by rw[H];exact BE _ _
 have Q:Hid ((Instr.storeAt 236 (Q9 w3.heap.size) (.agg vs.toArray)).run prog (w3.alloc (.cells Cc 236))=.ok () b):=O (by rw[H];exact ZJ w3 h8 h1);obtain⟨m4,d4⟩:=m3.below l;have bh:=(b5.trans d3).trans d4;have bj:Ge b (w.heap.size+1):=(l.block _ oa).trans (bg.trans HR);have b9:Og b w.heap.size a:=(l.block _ oa).trans (hab.trans HA);have b1:b.cell? (y w 1)=some (J (t:Int)):=(As (a:=(y w 1)) ((l.block w.heap.size oa).trans hab)).trans a1;have b2:b.cell? (y w 2)=some (J (i:Int)):=(As (a:=(y w 2)) ((l.block w.heap.size oa).trans hab)).trans a2;have u:=O m4;have bk:=O bh;have aj:=O bj;have bm:=O bf;have ca:=O ai;have cb:Hid (BH b):=O (by
  have h3:BH w3:=b6.below (B:=B0) ⟨d3.os,d3.tape,d3.output,d3.size,fun q hq=>d3.block q oa (fun e=>oj (HE.Ol e).1)⟩ oa;exact Bg _ _ h3 l)
 have z4:=Ah ai;obtain⟨fi,C⟩:∃fi,fi=Bj s i t:=⟨_,rfl⟩;rw[<-C]at bm bd ⊢;clear m3 d3 hab bg l ai H m4 d4 bh bj b9 bf a0 a1 a2 a3;by_cases R:0<=fi
 ·obtain⟨q,hq,cc⟩:=z bd R;obtain⟨j,hj,bn⟩:=z bm R;have bp:decide (0<=fi)=true:=by simp[R]
  have hc:=En (p:=Bk j) (A:=A t) (t:=s.T t) (by rw[<-bn];exact ca);have p0:b.cell? (y w3 0)=some (.slice (A t).va (s.T t).nv (A t).vc):=hc 0 _ rfl;have hV:I4 b (A t).va (s.T t).nv (s.T t).V:=(u.rd t L).now.1;obtain⟨vb,off,bq,cv,br⟩:=hV.resolve_left oa;obtain⟨y0,y1,y2,y3,y4⟩:=br q cc;rw[bq]at p0;have bt:(fi.toNat)=q:=oa;have HR:Hid (X=E4 ((s.T t).V q)):=O (by rw[z a7,<-C,DD R,bt]);obtain⟨P,U,k⟩:=Bs aj (E4 ((s.T t).V q));have az:=O U;have cw:=O k;obtain⟨r0,r1,r2,r3,r4,r5,r6,r7,r8,r9,ak,ao⟩:=An.read k.BB;have aq:=O (M b P (E4 ((s.T t).V q)) u bk aj k);rw[hq]at bp ⊢;generalize (s.T t).V q=x at*;clear hc hV br bq bn U k bt R C hq;go_upto_region 2 with(refine Ai rfl rfl _ Q ?_)
  go_wp2_with (refine Ai rfl rfl _ az ?_)
  refine E1 (v:=.tuple #[Dw (E4 x),Bp 0]) (by simp[results,results148,go_sem,r0,r1,r2,r3,r4,r5,r6,r7,r8,r9,ak,ao,Bp]) rfl ?_;rw[z HR];exact aq
 ·have bp:decide (0<=fi)=false:=by simp[R]
  have cd:Hid (X=E4 (Cm s.F (s.T t) (BA (s.S i).key))):=O (by rw[z a7,<-C,C3 R]);clear R C;have m:=z u;obtain⟨_,_,bu,ar,_,ad,_⟩:=m.CP (t:=t) L;have cg:Value.slice (some (G g 0)) s.nt E=_:=bu;clear bu;cases cg;have x1:=m.cells.2.1;have au:=m.lt;have ch:=O (LN (ZB Z w.heap.size W.heap.size) c B0 vN (S9 g s.nt E) vS vU Bk A (AV s i t) i);have cj:Hid (VN b s B0 Bk (A t) (s.T t)):=O ⟨m.nd,(m.rd t L).now.1,(m.rd t L).now.2,cb⟩;have bw:((AV s i t).S i).key=(s.S i).key:=by
   show(AY s.S i (DE s i t) i).key=_;rw[Ak];unfold DE
   split
   ·rfl
   ·split<;>rfl
  have ck:=O bw;have D:∀kv,AG Bk (A t) (s.T t)=kv->KF c g w.heap.size t i (S9 g s.nt E) kv b.drew:=fun kv e=>⟨x1,ad.trans (by rw[<-e];rfl),b1,b2⟩;have cl:=O D;clear m ad D bw x1 b1 b2;go_upto_region 4 with(refine Ai rfl rfl _ Q ?_)
  rcases z b7 with⟨av,hC⟩|⟨p,av,hC⟩
  case' inl=>refine Dh (KF c g w.heap.size t i (S9 g s.nt E) (.iface 239 (KD (A t) (s.T t)))) og ?_
  case' inr=>refine Dh (KF c g w.heap.size t i (S9 g s.nt E) (.iface 236 (CA p (A t) (s.T t)))) og ?_
  all_goals
   have D:=z cl _ av;have HC:=O hC;clear hC av;change wpAnyH _ _ _ _ _ _ _ _ (World.drew _);refine tz 0 (h:=tz 1 (h:=tz 2 (h:=tz 3 (h:=tz 4 (h:=tz 5 (h:=tz 6 (h:=tz 7 (h:=tz 8 (h:=tz 9 (h:=tz 10 (h:=tz 11 (h:=?_))))))))))));refine tz 13 (h:=tz 14 (h:=?_));refine ry 12 (fun K hK=>?_);go_simp;have ae:B9 b b.drew:=(Cs _ _).drew;refine(ch _ (u.below ae).1 hi bb).mono ?_;rintro e P ⟨rfl,n⟩;have n:B9 b P:=AaK (Cs _ _).drew n;have k:=D.keep (w':=P) (n.block c au) (n.block g ar) (n.block w.heap.size oa);rw[z ck];have o:=O n;refine hK.out _ _ k (fun _=>?_);clear hK K D n ae;refine ry 15 (fun K hK=>?_);go_simp;refine(HC _ (cj.below o)).mono ?_;rintro e w6 ⟨rfl,d⟩;have d:B9 b w6:=oo o d;have bx:=k.keep (w':=w6) ((d.block c au).trans (o.block c au).symm) ((d.block g ar).trans (o.block g ar).symm) ((d.block w.heap.size oa).trans (o.block w.heap.size oa).symm);obtain⟨gv,aw⟩:∃gv,gv=Cm s.F (s.T t) (BA (s.S i).key):=⟨_,rfl⟩;rw[<-aw];have cm:=O aw;obtain⟨m6,d6⟩:=u.below d;have ax:Ge w6 (w.heap.size+1):=(d.block _ oa).trans aj;obtain⟨w7,af,r⟩:=Bs ax (E4 gv);have aq:=O (M w6 w7 (E4 gv) m6 (bk.trans d6) ax r);have z6:=d.size;have aM:=bx.keep (w':=w7) (r.other c oa) (r.other g oa) (r.other w.heap.size oa);have a6:=O af;have cn:=O r;refine hK.out _ _ bx (fun _=>?_);clear hK K k d m6 d6 ax af r aw;refine tz 16 (h:=?_);refine ry 17 (fun K hK=>?_);refine BJ rfl rfl _ a6 ?_;refine hK.out _ _ aM (fun _=>?_);clear hK K;refine tz 18 (h:=?_);refine Fj ?_;obtain⟨r0,r1,r2,r3,r4,r5,r6,r7,r8,r9,ak,ao⟩:=An.read cn.BB;go_wp2_with fail;refine E1 (v:=.tuple #[Dw (E4 gv),Bp 0]) (by simp[results,results148,go_sem,r0,r1,r2,r3,r4,r5,r6,r7,r8,r9,ak,ao,Bp]) rfl ?_;rw[z cd,<-z cm];exact aq
def ME(ab a p t:Nat)(v:Vl)(A:Ad)(x:Tb)(W:Y):Prop:=W.cell? (G ab 1)=some (J (t:Int))/\W.cell? (G ab 9)=some (J v.kind)/\W.cell? (G ab 10)=some (J v.num)/\W.cell? (G ab 11)=some (F9 v.Ag)/\W.cell? (G ab 12)=some (.string v.str)/\W.cell? (G ab 13)=some (J v.ref)/\
 W.cell? (G a 0)=some (.slice A.va x.nv A.vc)/\W.cell? (G a 1)=some (.slice A.la x.d.n A.lc)/\W.cell? (G a 2)=some (.slice A.ia x.d.m A.ic)/\W.cell? (G a 3)=some (.slice A.xa x.d.x A.xc)/\W.cell? (G a 4)=some (J x.d.used)/\W.cell? (G a 5)=some (J x.d.live)/\W.cell? (G a 6)=some (J x.d.turns)/\W.cell? (G a 7)=some (Q9 p)
theorem ME.keep{t:Nat}{v:Vl}(h:ME ab b p t v A x W)(h1:W'.heap[ab]?=W.heap[ab]?)(h2:W'.heap[b]?=W.heap[b]?):ME ab b p t v A x W':=by
 have e1:∀q,W'.cell? (G ab q)=W.cell? (G ab q):=fun q=>As (a:=(G ab q)) h1;have e2:∀q,W'.cell? (G b q)=W.cell? (G b q):=fun q=>As (a:=(G b q)) h2;obtain⟨a0,a1,a2,a3,a4,a5,f,g,i,a9,c,d,a12,e⟩:=h;exact⟨(e1 _).trans a0,(e1 _).trans a1,(e1 _).trans a2,(e1 _).trans a3,(e1 _).trans a4,(e1 _).trans a5,(e2 _).trans f,(e2 _).trans g,(e2 _).trans i,(e2 _).trans a9,(e2 _).trans c,(e2 _).trans d,(e2 _).trans a12,(e2 _).trans e⟩
def MF(ab t i:Nat)(v:Vl)(W:Y):Prop:=W.cell? (G ab 1)=some (J (t:Int))/\W.cell? (G ab 2)=some (J (i:Int))/\W.cell? (G ab 9)=some (J v.kind)/\W.cell? (G ab 10)=some (J v.num)/\W.cell? (G ab 11)=some (F9 v.Ag)/\W.cell? (G ab 12)=some (.string v.str)/\W.cell? (G ab 13)=some (J v.ref)
theorem MF.keep{t:Nat}{v:Vl}(h:MF ab t i v W)(h1:W'.heap[ab]?=W.heap[ab]?):MF ab t i v W':=by
 have e1:∀q,W'.cell? (G ab q)=W.cell? (G ab q):=fun q=>As (a:=(G ab q)) h1;obtain⟨a0,a1,a2,a3,a4,a5,b⟩:=h;exact⟨(e1 _).trans a0,(e1 _).trans a1,(e1 _).trans a2,(e1 _).trans a3,(e1 _).trans a4,(e1 _).trans a5,(e1 _).trans b⟩
theorem Ym(s:AK)(i t:Nat):((AV s i t).S i).key=(s.S i).key:=by
 show(AY s.S i (DE s i t) i).key=_;rw[Ak];unfold DE
 split
 ·rfl
 ·split<;>rfl
theorem aG(Z:Nat->Prop)(c B0:Nat)(vN vT vS:V9)(Bk:Nat->Nat)(A:Nat->Ad)(s:AK)(a:Ac)(t i:Nat)(w:Y)(hM:AZ Z w c B0 vN vT vS (N9) Bk A s)(hG:KH s)(hT:BH w)(et:a.t=t)(ht:t<s.nt)(ei:a.site=i)(hi:i<s.ns)(hv:a.v.ok=true)(cc:5<=B0):
  C9 149 #[Q9 c,Lm a] w fun e w'=>Gz Z c B0 vN vT vS (if 0<=Bj s i t/\a.v.kind≠0 then BW (AV s i t) t (Eh (s.T t) (Bj s i t).toNat a.v)else CC (AV s i t) t (BA (s.S i).key) a.v) (if 0<=Bj s i t/\a.v.kind≠0 then Bc 0 else Bc (Cv (AV s i t) t (BA (s.S i).key) a.v)) w e w':=by
 obtain⟨S',aq⟩:∃S',S'=(if 0<=Bj s i t/\a.v.kind≠0 then BW (AV s i t) t (Eh (s.T t) (Bj s i t).toNat a.v)else CC (AV s i t) t (BA (s.S i).key) a.v):=⟨_,rfl⟩;obtain⟨X,hX⟩:∃X,X=(if 0<=Bj s i t/\a.v.kind≠0 then Bc 0 else Bc (Cv (AV s i t) t (BA (s.S i).key) a.v)):=⟨_,rfl⟩;rw[<-aq,<-hX];have ai:=O (And.intro aq hX);clear aq hX;obtain⟨W,hW,ar,hA,hR,hz⟩:=boxes w a;have df:=hM.lt;have H:=hM.base;obtain⟨hE,bj⟩:=hM.enter ar;have hx:=hG.t t ht;have bk:=hG.ns;have bm:=hG.nt;have hf:=hG.f;have bf:=Oi.nv hx hf;have bg:=O (P2 _ c B0 vN vT vS _ Bk A s i t W hE hf hi bk ht bm hx (hG.si i hi));have cg:Hid (0<=Bj s i t->∃j q:Nat,(s.T t).shape=j/\j<s.nf/\Bj s i t=q/\q<(s.T t).nv/\BO s.F j (s.S i).key=q):=O (fun h=>IC hG hi ht h);have ch:=O (IE hG hi ht);have cj:=O (F8 (hG.si i hi).1);have ck:=O hx;have HA:=O hA;have HR:=O hR;have HE:=O hE;have cl:=O bj;have cm:=O (Bg _ _ hT ar);have cn:=O hv;have dh:=O (And.intro et ei);obtain⟨a0,a1,a2,a3,a4,a5,a6,a7,a8,a9,bn,bp,a12,bq⟩:=hA.all;rw[et]at a1;rw[ei]at a2;have lW:w.heap.size<W.heap.size:=oa;have lc:c<W.heap.size:=oa;clear hM hG hT et ei hE bj hA hR ar hx hf hv
 go_enter func149,ntmps149
 go_upto_region 1 with fail
 rw[<-hW];clear hW;go_wp2_with fail;refine bg.mono ?_;rintro e w3 ⟨vs,h8,h1,rfl,br,m3,d3⟩;have hab:=(d3.boxes HE HA (.inr (.inr (.inr rfl))));have bt:=(d3.boxes HE HR (.inr (.inr (.inl rfl))));have z3:=d3.size;obtain⟨l,aj⟩:∃l,l=w3.alloc (.cells vs.toArray 236):=⟨_,rfl⟩;have E:B9 w3 l:=by rw[aj];exact(Cs _ _).alloc (Be _) _
 have au:l.heap[w3.heap.size]?=some (.cells vs.toArray 236 (0,0)):=by rw[aj];exact BE _ _
 have af:Hid ((Instr.storeAt 236 (Q9 w3.heap.size) (.agg vs.toArray)).run prog (w3.alloc (.cells Cc 236))=.ok () l):=O (by rw[aj];exact ZJ w3 h8 h1);obtain⟨m4,d4⟩:=m3.below E;have bu:=(cl.trans d3).trans d4;have av:Ge l (w.heap.size+1):=(E.block _ oa).trans (bt.trans HR);have aw:Og l w.heap.size a:=(E.block _ oa).trans (hab.trans HA);have ag:l.heap[w.heap.size]?=W.heap[w.heap.size]?:=(E.block _ oa).trans hab;have eb:∀q,l.cell? (y w q)=W.cell? (y w q):=fun q=>As (a:=(y w q)) ag;have b1:=(eb 1).trans a1;have b2:=(eb 2).trans a2;have b9:=(eb 9).trans a9;have bw:=(eb 10).trans bn;have bx:=(eb 11).trans bp;have bz:=(eb 12).trans a12;have b0:=(eb 13).trans bq;have I:=O m4;have b3:=O bu;have b4:=O av;have b5:=O aw;have cq:=O br;have cr:=O au;have ct:Hid (BH l):=O (by
  have h3:BH w3:=cm.below (B:=B0) ⟨d3.os,d3.tape,d3.output,d3.size,fun q hq=>d3.block q oa (fun e=>oj (HE.Ol e).1)⟩ oa;exact Bg _ _ h3 E)
 have z4:=Ah au;have ak:=Ah aw;have b6:=Ah av;clear m3 d3 hab bt E au aj m4 d4 bu av aw ag eb br a0 a1 a2 a3 a4 a5 a6 a7 a8 a9 bn bp a12 bq;by_cases b:0<=Bj s i t/\a.v.kind≠0
 ·obtain⟨j,q,hj,di,hq,cu,_⟩:=z cg b.1;obtain⟨j',cv,b7⟩:=z cq b.1;have cw:j'=j:=oa;subst cw;have ax:decide (0<=Bj s i t)=true:=by simp[b.1]
  have cx:(a.v.kind !=0)=true:=by simp[b.2]
  have L:Hid (S'=BW (AV s i t) t (Eh (s.T t) q a.v)/\X=Bc 0):=O (by rw[(z ai).1,(z ai).2,DD b,DD b,hq];exact⟨rfl,rfl⟩);have hr:l.heap[w3.heap.size]?=some (.cells (B4 (Bk j') (A t) (s.T t)).toArray 236 (0,0)):=by rw[<-b7];exact cr
  have hc:=En hr;have M:ME w.heap.size w3.heap.size (Bk j') t a.v (A t) (s.T t) l.drew:=⟨b1,b9,bw,bx,bz,b0,hc 0 _ rfl,hc 1 _ rfl,hc 2 _ rfl,hc 3 _ rfl,hc 4 _ rfl,hc 5 _ rfl,hc 6 _ rfl,hc 7 _ rfl⟩;have cy:Hid (I4 l (A t).va (s.T t).nv (s.T t).V):=O (I.rd t ht).now.1;have b8:bare (s.T t).d:=by
   rcases ck.way with⟨e,_⟩|⟨_,_,_,_,h,_⟩
   ·omega
   ·exact h
  have cz:=O b8;have cD:=O hr;have HJ:=O hj;rw[hq]at ax ⊢;clear b hq hc hr b7 hj cv b8;go_upto_region 3 with(refine Ai rfl rfl _ af ?_)
  refine Hl (ME w.heap.size w3.heap.size (Bk j') t a.v (A t) (s.T t)) ?_;refine tz 0 (h:=tz 1 (h:=tz 2 (h:=tz 3 (h:=tz 4 (h:=tz 5 (h:=tz 6 (h:=?_)))))));refine ry 7 (fun K hK=>?_);go_simp;refine(Tm (Bk j') (A t) (s.T t) q a.v _ (cy.below (w':=l.drew) (B:=l.heap.size) (Cs _ _).drew rfl) cu bf).mono ?_;rintro e n ⟨⟨gg,cp,rfl,D⟩,g⟩;have g:B9 l n:=AaK (Cs _ _).drew g;have x:=M.keep (W':=n) (g.block _ ak) (g.block _ z4);obtain⟨m5,d5⟩:=I.below g;have cN:=(D.lt gg rfl).1;have P:Rd (OZ (ZB Z w.heap.size W.heap.size) B0 c vN vT vS n) n {A t with va:=some (G gg 0),vc:=cp} (Eh (s.T t) q a.v):=Rd.iO (t:=Eh (s.T t) q a.v) D rfl (m5.Um (w0:=l) (fun k e=>by have:=I.z k e;exact this) D cN) cz;have C:AG Bk {A t with va:=some (G gg 0),vc:=cp} (Eh (s.T t) q a.v)=.iface 236 (CA (Bk j') {A t with va:=some (G gg 0),vc:=cp} (Eh (s.T t) q a.v)):=by
   unfold AG;rw[C3 (by show¬(s.T t).shape=-1;rw[z HJ];omega)];show Value.iface _ (CA (Bk (s.T t).shape.toNat) _ _)=_;rw[z HJ];rfl
  have ca:=O (Il _ c B0 vN vT vS Bk A (AV s i t) t {A t with va:=some (G gg 0),vc:=cp} (Eh (s.T t) q a.v) n m5 ht bm P);rw[C]at ca;have ay:=O m5;have c0:=O (b3.trans d5);have o:=(g.block _ ak).trans b5;have p:=(g.block _ z4).trans cD;have m:Ge n (w.heap.size+1):=(g.block _ b6).trans b4;have c3:=O (And.intro o (And.intro p m));refine hK.out _ _ x (fun _=>?_);clear hK K M g m5 d5 D P C o p m;refine tz 8 (h:=?_);refine ry 9 (fun K hK=>?_);go_simp;refine ca.mono ?_;rintro e w6 ⟨⟨uu,rfl⟩,c4,m6,d6,c5,_⟩;obtain⟨o,p,m⟩:=z c3;have ao:=x.keep (W':=w6) (d6.boxes ay o (.inr (.inr (.inr rfl)))) (d6.boxes ay p (.inl rfl));have Q:Ge w6 (w.heap.size+1):=(d6.boxes ay m (.inr (.inr (.inl rfl)))).trans m;obtain⟨w7,r,u⟩:=Bs Q (Bc 0);obtain⟨f1,f2⟩:=m6.Jt (c0.trans d6) H oa oa Q u;have az:Hid (Gz Z c B0 vN vT vS (BW (AV s i t) t (Eh (s.T t) q a.v)) (Bc 0) w (.returned (.tuple #[Dw (Bc 0),Bp 0])) w7):=O ⟨Bc 0,0,_,_,_,_,rfl,f2,.inl ⟨rfl,rfl,Bk,_,f1⟩⟩;have R:=O r;have aM:=O u;refine hK.out _ _ ao (fun _=>?_);clear hK K x m6 d6 c5 o p m Q r u f1 f2;refine Fj ?_;obtain⟨r0,r1,r2,r3,r4,r5,r6,r7,r8,r9,bb,bc⟩:=An.read aM.BB;go_wp2_with (refine Ai rfl rfl _ R ?_);refine E1 (v:=.tuple #[Dw (Bc 0),Bp 0]) (by simp[results,results149,go_sem,r0,r1,r2,r3,r4,r5,r6,r7,r8,r9,bb,bc,Bp]) rfl ?_;rw[(z L).1,(z L).2];exact az
 ·have L:Hid (S'=CC (AV s i t) t (BA (s.S i).key) a.v/\X=Bc (Cv (AV s i t) t (BA (s.S i).key) a.v)):=O (by rw[(z ai).1,(z ai).2,C3 b,C3 b];exact⟨rfl,rfl⟩);have M:MF w.heap.size t i a.v l.drew:=⟨b1,b2,b9,bw,bx,bz,b0⟩;obtain⟨kv,C⟩:∃kv,kv=BA (s.S i).key:=⟨_,rfl⟩;have c6:=O (LN (ZB Z w.heap.size W.heap.size) c B0 vN vT vS (N9) Bk A (AV s i t) i);have c7:Hid (BA ((AV s i t).S i).key=kv):=O (by rw[Ym,C]);have c8:Hid (∀n,B9 l n->C9 203 #[Q9 c,J (t:Int),Gf kv,Gf a.v] n fun e w6=>e=.returned (Bp (Cv (AV s i t) t kv a.v))/\w6.heap[w.heap.size]?=n.heap[w.heap.size]?/\Ge w6 (w.heap.size+1)/\∀w7,Bn w6 w7 (w.heap.size+1) (Ey (Bc 0)).toArray 45->Gz Z c B0 vN vT vS (CC (AV s i t) t kv a.v) (Bc (Cv (AV s i t) t kv a.v)) w (.returned (.tuple #[Dw (Bc 0),Bp (Cv (AV s i t) t kv a.v)])) w7):=O (fun n h5=>by
   obtain⟨m5,d5⟩:=I.below h5;refine(Ob _ c B0 vN vT vS Bk A (AV s i t) t kv a.v n m5 ch ht (Bg _ _ ct h5) (by rw[C];exact cj) cn (kJ _ _) cc).mono ?_;intro e w6 hP;obtain⟨dj,dk,dm,c4,he,hd,_⟩:=id hP;have c9:n.heap[w.heap.size]?=some (.cells (Dn a) 51 (0,0)):=(h5.block _ ak).trans b5;have P:n.heap[w.heap.size+1]?=some (.cells Om 45 (0,0)):=(h5.block _ b6).trans b4;have U:Ge w6 (w.heap.size+1):=(hd.boxes m5 P (.inr (.inr (.inl rfl)))).trans P;exact⟨he,hd.boxes m5 c9 (.inr (.inr (.inr rfl))),U,fun w7 h7=>UZ.jG (b3.trans d5) hP H oa oa U h7⟩)
  have da:=O C;have ad:(0<=Bj s i t/\a.v.kind=0)\/¬0<=Bj s i t:=by
   by_cases h:0<=Bj s i t
   ·exact .inl ⟨h,Classical.not_not.1 (fun e=>b ⟨h,e⟩)⟩
   ·exact .inr h
  clear b C;obtain⟨fi,cb⟩:∃fi,fi=Bj s i t:=⟨_,rfl⟩;rw[<-cb]at ad ⊢;clear cb;rcases ad with⟨q1,q2⟩|q1
  case' inl=>
   have ax:decide (0<=fi)=true:=by simp[q1]
   have cx:(a.v.kind !=0)=false:=by simp[q2]
   clear q1 q2
  case' inr=>
   have ax:decide (0<=fi)=false:=by simp[q1]
   clear q1
  all_goals
   go_upto_region 5 with(refine Ai rfl rfl _ af ?_)
   refine Hl (MF w.heap.size t i a.v) ?_;refine tz 0 (h:=tz 1 (h:=tz 2 (h:=tz 3 (h:=tz 4 (h:=tz 5 (h:=tz 6 (h:=tz 8 (h:=tz 9 (h:=?_)))))))));refine ry 7 (fun K hK=>?_);go_simp;have ah:B9 l l.drew:=(Cs _ _).drew;refine(c6 _ (I.below ah).1 hi bk).mono ?_;rintro e n ⟨rfl,g⟩;have g:B9 l n:=AaK (Cs _ _).drew g;have x:=M.keep (W':=n) (g.block _ ak);rw[z c7];have dc:=O g;refine hK.out _ _ x (fun _=>?_);clear hK K M g ah;refine ry 10 (fun K hK=>?_);go_simp;refine(c8 _ dc).mono ?_;rintro e w6 ⟨rfl,hab,U,ae⟩;have ao:=x.keep (W':=w6) hab;obtain⟨cd,bd⟩:∃cd,cd=Cv (AV s i t) t kv a.v:=⟨_,rfl⟩;rw[<-bd]at ae ⊢;have dd:=O bd;obtain⟨w7,r,u⟩:=Bs U (Bc 0);have az:=O (ae w7 u);have bh:=ao.keep (W':=w7) (u.other _ oa);have R:=O r;have aM:=O u;refine hK.out _ _ ao (fun _=>?_);clear hK K x hab U ae r u bd;refine ry 11 (fun K hK=>?_);refine BJ rfl rfl _ R ?_;refine hK.out _ _ bh (fun _=>?_);clear hK K;refine tz 12 (h:=?_);refine Fj ?_;obtain⟨r0,r1,r2,r3,r4,r5,r6,r7,r8,r9,bb,bc⟩:=An.read aM.BB;go_wp2_with fail;refine E1 (v:=.tuple #[Dw (Bc 0),Bp cd]) (by simp[results,results149,go_sem,r0,r1,r2,r3,r4,r5,r6,r7,r8,r9,bb,bc]) rfl ?_;rw[(z L).1,(z L).2,<-z da];have h:=z az;rw[z dd]at h ⊢;exact h
theorem U6{c:Int}(h:c≠0):Bp c=.iface 267 (.agg #[J c]):=by unfold Bp;rw[C3 h]
section
section
variable {Z:Nat->Prop} {w w2 w3:Y} {c B0:Nat} {vN vT vS:V9} {Bk:Nat->Nat} {A:Nat->Ad} {s s':AK} {x0:An} {e:Ending}
theorem Gz.fin(b:Br (Au B0 c vN vT vS w) w (Au B0 c vN vT vS w2) w2)(h:Gz (ZB Z w.heap.size n) c B0 vN vT vS s' x0 w2 e w3)(d:B0<=w.heap.size)(f:w.heap.size<=m)(hz:m<n)(o:Ge w3 m):
  ∃x a,e=.returned (.tuple #[Dw x,Bp a])/\∀w4,Bn w3 w4 m (Ey x).toArray 45->Gz Z c B0 vN vT vS s' x0 w (.returned (.tuple #[Dw x,Bp a])) w4:=by
 obtain⟨x,a,g,i,j,k,q,p,h⟩:=h;refine⟨x,a,q,fun w4 l=>?_⟩;rcases h with⟨e1,e2,Bk',A',m3⟩|⟨e1,e2,u3⟩
 ·obtain⟨f1,f2⟩:=m3.Jt (b.trans p) d f hz o l;exact⟨x,a,g,i,j,k,rfl,f2,.inl ⟨e1,e2,Bk',A',f1⟩⟩
 ·obtain⟨f1,f2⟩:=u3.Jt (b.trans p) d f hz o l;exact⟨x,a,g,i,j,k,rfl,f2,.inr ⟨e1,e2,f1⟩⟩
theorem Gz.dst{s':AK}(h:Gz Z c B0 vN vT vS s' x0 w2 e w3):∃a b d,Br (Au B0 c vN vT vS w2) w2 (Au B0 c a b d w3) w3:=by
 obtain⟨x,i,a,b,d,f,j,g,h⟩:=h;exact⟨_,_,_,g⟩
end
def P3(a:Ac):Prop:=∀(Z:Nat->Prop) (c B0:Nat) (vN vT vS:V9) (Bk:Nat->Nat) (A:Nat->Ad) (s:AK) (w:Y),AZ Z w c B0 vN vT vS (N9) Bk A s->KH s->BH w->GD a s.nt s.ns=0->Wf a.k->5<=B0->
  ∃F:Nat,(∀w,(Instr.index 149 DU (J a.op)).run prog w=.ok (.agg #[J (mN a.op),.func (.func F) #[] #[]]) w)/\(∀args w,(callFunc F args).run prog w=.ok (.enter F args) w)/\∀w2,B9 w w2->C9 F #[Q9 c,Lm a] w2 fun e w3=>Gz Z c B0 vN vT vS (Dg s a) (F5 s a) w2 e w3
theorem My.of{a:Ac}(h:Og W ab a):My ab a W:=by
 obtain⟨a0,a1,a2,a3,a4,a5,e,f,g,a9,b,c,a12,d⟩:=h.all;exact⟨a0,a1,a2,a3,a4,a5,e,f,g,a9,b,c,a12,d⟩
theorem Yg(x:Int)(fn:V9)(w:Y):(Instr.field 148 (.agg #[J x,fn]) 1).run prog w=.ok fn w:=og
attribute [local go_sem] Yg
theorem ZY(Z:Nat->Prop)(c B0:Nat)(vN vT vS:V9)(Bk:Nat->Nat)(A:Nat->Ad)(s:AK)(a:Ac)(w:Y)(L:AZ Z w c B0 vN vT vS (N9) Bk A s)(hG:KH s)(hT:BH w)(af:Wf a.k)(ag:5<=B0)(hD:P3 a):
  C9 113 #[Q9 c,Lm a] w fun e w'=>Gz Z c B0 vN vT vS (BU s a) (Dl s a) w e w':=by
 have o:=O hD;clear hD;obtain⟨ta,tc,rfl⟩:=Ay L.t;obtain⟨sa,sc,rfl⟩:=Ay L.si;have ah:=hG.nt;have ai:=hG.ns;obtain⟨W,hW,l,hA,hR,hz⟩:=boxes w a;have bf:=L.lt;have i:=L.base;obtain⟨hE,P⟩:=L.enter l;obtain⟨_,c1,c2,_,_⟩:=hE.cells;obtain⟨a0,a1,a2,a3,a4,a5,a6,a7,a8,a9,aj,ak,a12,ao⟩:=hA.all;have aq:w.heap.size<W.heap.size:=oa;have ar:c<W.heap.size:=oa;have HT:=O (Bg _ _ hT l);have HB:=O l;have HA:=O hA;have HQ:=O hR;have HG:=O hG;have HE:=O hE;have Q:=O P;clear L l hA hR hG hT hE P
 go_enter func113,ntmps113
 go_wp2_with fail
 rw[<-hW];clear hW;refine qr W ?_;refine N (h:=N (h:=N (h:=N (h:=N (h:=N (h:=N (h:=N (h:=N (h:=N (h:=N (h:=N (h:=?_))))))))))));refine GS (fun K hK=>?_);go_simp;refine⟨_,fun w' au=>qk au (VU a s.nt s.ns _ ah ai),hK _ ?_⟩;clear hK K;refine N (h:=?_);refine H7 ?_;intro w1 p;have M:=O p;have z1:=p.size;clear p a0 a1 a2 a3 a4 a5 a6 a7 a8 a9 aj ak a12 ao c1 c2 ar aq;by_cases hc:GD a s.nt s.ns=0
 case neg=>
  have b:Hid (BU s a=s/\Dl s a=Bc (GD a s.nt s.ns)):=O (by unfold BU Dl;rw[C3 hc,C3 hc];exact⟨rfl,rfl⟩);have HC:=O hc;clear hc;rw[U6 (z HC)];obtain⟨m,R⟩:∃m,m=GD a s.nt s.ns:=⟨_,rfl⟩;rw[<-R]at HC b ⊢;clear R;have q:Ge w1 (w.heap.size+1):=HQ.below M oa;obtain⟨w4,d,f⟩:=Bs q (Bc 0);obtain⟨m1,d1⟩:=HE.below M;have hu:Ow (ZB Z w.heap.size W.heap.size) w1 c B0 vN (.slice ta s.nt tc) (.slice sa s.ns sc) (N9) s:=⟨Bk,A,s,m1,.inl ⟨rfl,MJ.refl s⟩⟩;obtain⟨f1,f2⟩:=hu.Jt (Q.trans d1) i oa oa q f;have r:Hid (Gz Z c B0 vN (.slice ta s.nt tc) (.slice sa s.ns sc) s (Bc m) w (.returned (.tuple #[Dw (Bc 0),.iface 267 (.agg #[J m])])) w4):=O ⟨Bc 0,m,_,_,_,_,by rw[U6 (z HC)],f2,.inr ⟨HC,rfl,f1⟩⟩;have u:=O d;obtain⟨r0,r1,r2,r3,r4,r5,r6,r7,r8,r9,B,C⟩:=An.read f.BB;clear q d f m1 d1 hu f1 f2;go_wp2_with (refine Ai rfl rfl _ u ?_);refine E1 (v:=.tuple #[Dw (Bc 0),.iface 267 (.agg #[J m])]) (by simp[results,results113,go_sem,r0,r1,r2,r3,r4,r5,r6,r7,r8,r9,B,C]) rfl ?_;rw[(z b).1,(z b).2];exact r
 have b:Hid (BU s a=Dg s a/\Dl s a=F5 s a):=O (by unfold BU Dl;rw[DD hc,DD hc];exact⟨rfl,rfl⟩);obtain⟨m1,d1⟩:=HE.below M;obtain⟨F,bg,bh,j⟩:=o _ c B0 vN _ _ Bk A s w1 m1 HG (Bg _ _ HT M) hc af ag;have D:Og w1 w.heap.size a:=HA.below M oa;have S:Ge w1 (w.heap.size+1):=HQ.below M oa;have av:My w.heap.size a w1.drew:=My.of (W:=w1) D;have aw:=O D;have ax:=O S;have ay:=O m1;have az:=O (Q.trans d1);have o:=O j;rw[hc];clear hc m1 d1 D S j;have e0:Bp 0=.nilIface:=rfl;rw[e0];clear e0;go_wp2_with fail;refine Hl (My w.heap.size a) ?_;refine tz 1 (h:=tz 2 (h:=tz 5 (h:=tz 6 (h:=?_))));refine ry 0 (fun K hK=>?_);go_simp;refine m9 (KQ _) fun w2 g=>?_;have g:B9 w1 w2:=AaK (Cs _ _).drew g;have E:Og w2 w.heap.size a:=aw.below g oa;have T:Ge w2 (w.heap.size+1):=ax.below g oa;have U:My w.heap.size a w2:=My.of E;obtain⟨m2,d2⟩:=ay.below g;have V:=O m2;have aM:=O (az.trans d2);have X:=O E;have ae:=O T;have bb:=O (o w2 g);refine hK.out _ _ U (fun _=>?_);clear hK K av g m2 d2 E T;refine tz 3 (h:=tz 4 (h:=?_));refine ry 7 (fun K hK=>?_);go_simp;refine bb.mono ?_;intro e w3 hD;obtain⟨_,_,_,hd⟩:=hD.dst;have H:Og w3 w.heap.size a:=(hd.boxes V X (.inr (.inr (.inr rfl)))).trans X;have I:Ge w3 (w.heap.size+1):=(hd.boxes V ae (.inr (.inr (.inl rfl)))).trans ae;have bc:My w.heap.size a w3:=My.of H;obtain⟨x,m,rfl,n⟩:=Gz.fin aM hD i oa oa I;obtain⟨w4,d,f⟩:=Bs I x;have r:=O (n w4 f);have ad:My w.heap.size a w4:=My.of (W:=w4) ((f.other _ oa).trans H);have u:=O d;have bd:=O f;refine hK.out _ _ bc (fun _=>?_);clear hK K U hD hd H I n d f;refine tz 8 (h:=tz 9 (h:=?_));refine ry 10 (fun K hK=>?_);refine BJ rfl rfl _ u ?_;refine hK.out _ _ ad (fun _=>?_);clear hK K;refine tz 11 (h:=?_);refine Fj ?_;obtain⟨r0,r1,r2,r3,r4,r5,r6,r7,r8,r9,B,C⟩:=An.read bd.BB;go_wp2_with fail;refine E1 (v:=.tuple #[Dw x,Bp m]) (by simp[results,results113,go_sem,r0,r1,r2,r3,r4,r5,r6,r7,r8,r9,B,C]) rfl ?_;rw[(z b).1,(z b).2];exact r
end
theorem Gg.dst{O':Nat->Prop}(h:Gg w)(a:Br Z w O' w')(b:¬Z 0):Gg w':=
 (As (a.block _ h.lt b)).trans h
def eM(Z:Nat->Prop)(c B0:Nat)(vN vT vS:V9)(s':AK)(x:An)(w:Y)(e:Ending)(w':Y):Prop:=
 e=.returned (Dw x)/\∃a b d f Bk' A',AZ Z w' c B0 a b d f Bk' A' s'/\Br (Au B0 c vN vT vS w) w (Au B0 c a b d w') w'
theorem ZX(Z:Nat->Prop)(c B0:Nat)(vN vT vS vU:V9)(Bk:Nat->Nat)(A:Nat->Ad)(s:AK)(a:Ac)(w:Y)(U:AZ Z w c B0 vN vT vS vU Bk A s)(hG:KH s)(hT:BH w)(au:Wf a.k)(av:5<=B0)(E:Gg w)(bp:0<B0)(hD:P3 a):
  C9 57 #[Q9 c,Lm a] w fun e w'=>eM Z c B0 vN vT vS (BU s a) (Dl s a) w e w':=by
 obtain⟨W,hW,l,hA,hR,hz⟩:=boxes w a;have bq:=U.lt;have f:=U.base;obtain⟨hE,V⟩:=U.enter l;obtain⟨_,_,_,c3,cf⟩:=hE.cells;have f3:=cf 3;obtain⟨mU,r⟩:=hE.kO (ua:=none) (un:=0) (uc:=0);obtain⟨d,g⟩:∃d,d=W.setCell (G c 3) (N9):=⟨_,rfl⟩;rw[<-g]at mU r;have b:∀k,k≠c->d.heap[k]?=W.heap[k]?:=fun k hk=>by rw[g];exact A0 _ _ _ _ (by exact hk)
 have F:Og d w.heap.size a:=(b _ oa).trans hA;have X:Ge d (w.heap.size+1):=(b _ oa).trans hR;have ad:BH d:=by
  have m:BH W:=Bg _ _ hT l;exact m.below (B:=B0) ⟨r.os,r.tape,r.output,r.size,fun q hq=>r.block q oa (fun e=>oj (hE.Ol e).1)⟩ oa
 have ae:Gg d:=(As (a:=(G 0 0)) (b 0 (oj U.ge))).trans (E.below l E.lt);have aw:∃u,W.cell? (G c 3)=some u:=⟨_,c3⟩;obtain⟨a0,a1,a2,a3,a4,a5,a6,a7,a8,a9,ax,ay,a12,az⟩:=F.all;have aM:=O (ZY _ c B0 vN vT vS Bk A s a d mU hG ad au av hD);clear hD;have af:=O mU;have bb:=O (V.trans r);have br:=O F;have ag:=O X;have bc:=O ae;have ah:=O g;have z0:d.heap.size=W.heap.size:=by rw[g];simp
 have zc:c<W.heap.size:=oa;have bt:w.heap.size<d.heap.size:=oa;have bu:w.heap.size+1<d.heap.size:=oa;have zz:W.heap.size<=d.heap.size:=oa;clear U hG hT E l hA hR hE V mU r b F X ad ae cf z0 aw g
 go_enter func57,ntmps57
 go_upto_region 1 with fail
 rw[<-hW];clear hW;go_upto_region 2 with fail
 rw[<-z ah];clear ah c3 f3;go_wp2_with fail;refine aM.mono ?_;rintro e w1 ⟨x,t,bw,bx,bz,b0,rfl,hd,i⟩;have ai:Ge w1 (w.heap.size+1):=(hd.boxes af ag (.inr (.inr (.inl rfl)))).trans ag;have bd:=O ai;have aj:=O (bb.trans hd);have bf:=O i;have z1:d.heap.size<=w1.heap.size:=hd.size;have ak:Hid (Gg w1):=O (bc.dst hd (fun h=>oj (af.Ol h).1));clear hd ai i a0 a1 a2 a3 a4 a5 a6 a7 a8 a9 ax ay a12 az;rw[show Dw x=jE x from rfl];have HF:Hid (∀w4,w4=w1.alloc (.cells (Ey x).toArray 45)->B9 w1 w4/\w4.heap[w1.heap.size]?=some (.cells (Ey x).toArray 45 (0,0))):=O (fun w4 h=>by
  exact⟨by rw[h];exact(Cs _ _).alloc (Be _) _,by rw[h];exact BE _ _⟩)
 go_upto_region 3 with(refine Ai rfl rfl _ (ZF w1 x) ?_)
 generalize ao:w1.alloc (.cells (Ey x).toArray 45)=w4;obtain⟨H,aq⟩:=z HF _ ao.symm;have n:=O aq;have I:=O H;have z4:=H.size;clear ao H aq HF;go_wp2_with fail;refine m9 (TK t _ (ak.below I (by have:=ak.lt;exact this))) fun w5 o=>?_;have bg:Hid (w5.heap[w1.heap.size]?=some (.cells (Ey x).toArray 45 (0,0))):=O ((o.block _ (Ah n)).trans n);have K:=O (I.trans (o.mono z4));have z5:w1.heap.size<w5.heap.size:=At (Ah n) o.size;have ar:Ge w5 (w.heap.size+1):=bd.below K oa;have p:=O ar;clear o n I ar;rcases z bf with⟨m,hx,Bk',A',m3⟩|⟨m,hx,u3⟩
 ·have d0:(t !=0)=false:=by simp[m]
  have d1:(t==0)=true:=by simp[m]
  obtain⟨m5,j⟩:=m3.below K;obtain⟨w6,C,L⟩:=Bs p x;obtain⟨f1,f2⟩:=m5.Jt (aj.trans j) f oa oa p L;have M:Hid (eM Z c B0 vN vT vS (BU s a) (Dl s a) w (.returned (Dw x)) w6):=O ⟨by rw[hx],_,_,_,_,_,_,f1,f2⟩;have P:=O C;obtain⟨r0,r1,r2,r3,r4,r5,r6,r7,r8,r9,Q,R⟩:=An.read L.BB;have bh:Hid (w5.heap[w1.heap.size]?=some (.cells #[J x.code,J x.num,J x.key.kind,J x.key.num,F9 x.key.Ag,.string x.key.str,J x.key.ref,J x.val.kind,J x.val.num,F9 x.val.Ag,.string x.val.str,J x.val.ref] 45 (0,0))):=O bg;clear m hx m3 m5 j C L f1 f2;go_wp2_with (first|(refine Aat rfl 45 _ rfl w1.heap.size rfl _ _ _ _ bh underlying45 rfl og ?_)|(refine Ai rfl rfl _ P ?_));refine E1 (v:=Dw x) (by simp[results,results57,go_sem,r0,r1,r2,r3,r4,r5,r6,r7,r8,r9,Q,R]) rfl M
 ·have d0:(t !=0)=true:=by simp[m]
  have d1:(t==0)=false:=by simp[m]
  obtain⟨u5,j⟩:=u3.below K;have bj:=O (XE u5);have bk:=O hx;have bm:=O (aj.trans j);have bn:=O u5;clear m hx u3 u5 j;go_wp2_with fail;refine bj.mono ?_;rintro e w6 ⟨⟨uu,rfl⟩,b1,b2,b3,b4,A2,m6,d6⟩;obtain⟨_,_,_,mu,_⟩:=z bn;have S:Ge w6 (w.heap.size+1):=(d6.boxes mu p (.inr (.inr (.inl rfl)))).trans p;obtain⟨w7,D,T⟩:=Bs S (Bc t);obtain⟨f1,f2⟩:=m6.Jt (bm.trans d6) f oa oa S T;have M:Hid (eM Z c B0 vN vT vS (BU s a) (Dl s a) w (.returned (Dw (Bc t))) w7):=O ⟨by rw[z bk],_,_,_,_,_,_,f1,f2⟩;have P:=O D;obtain⟨r0,r1,r2,r3,r4,r5,r6,r7,r8,r9,Q,R⟩:=An.read T.BB;clear m6 d6 mu S D T f1 f2;go_wp2_with (refine Ai rfl rfl _ P ?_);refine E1 (v:=Dw (Bc t)) (by simp[results,results57,go_sem,r0,r1,r2,r3,r4,r5,r6,r7,r8,r9,Q,R]) rfl M
theorem AZ.nA{vN vS vU:V9}{A:Nat->Ad}(h:AZ Z w c B0 vN vT vS vU Bk A s){b:Nat}{cs:Array Value}{ty:TypeId}(hb:Z b)(m:B0<=b)(hn:¬Au B0 c vN vT vS w b)(j:w.grownBy w' (some b))(hc:w'.heap[b]?=some (.cells cs ty (0,0)))(B:ty≠208):
  AZ Z w' c B0 vN vT vS vU Bk A s/\¬Au B0 c vN vT vS w' b/\∀k,Au B0 c vN vT vS w' k->Au B0 c vN vT vS w k\/w.heap.size<=k:=by
 have hk:∀k,k<w.heap.size->k≠b->w'.heap[k]?=w.heap[k]?:=fun k h1 h2=>j.block k h1 (fun e=>h2 (by cases e;rfl));have o:¬D7 208 w' b:=by
  rintro(⟨x,hx⟩|⟨es,x,hx⟩)
  ·rw[hc]at hx;cases hx;exact B rfl
  ·rw[hc]at hx;cases hx
 have p:∀k,Au B0 c vN vT vS w' k->Au B0 c vN vT vS w k\/w.heap.size<=k:=fun k e=>by
  rcases e with e|e|e|e|⟨e1,e2⟩
  ·exact .inl (.inl e)
  ·exact .inl (.inr (.inl e))
  ·exact .inl (.inr (.inr (.inl e)))
  ·exact .inl (.inr (.inr (.inr (.inl e))))
  ·by_cases a:k=b
   ·subst a;exact absurd e2 o
   ·by_cases q:k<w.heap.size
    ·refine .inl (.inr (.inr (.inr (.inr ⟨e1,?_⟩))));unfold D7 at*;rw[hk k q a]at e2;exact e2
    ·exact .inr oa
 have C:=h.z b hb;have l:∀k,Au B0 c vN vT vS w k->w'.heap[k]?=w.heap[k]?:=fun k e=>hk k (h.Ol e).2 (fun e'=>hn (e'▸e));obtain⟨X,M,hN,hid⟩:=h.nd;refine⟨⟨(l c (.inl rfl)).trans h.BB,h.ge,Ae h.n (fun g e=>l g (.inr (.inl e))),⟨X,M,hN.keep (fun b' d=>?_),hid⟩,Ae h.t (fun g e=>l g (.inr (.inr (.inl e)))),Ae h.si (fun g e=>l g (.inr (.inr (.inr (.inl e))))),h.u,fun k e=>At (h.z k e) j.size,fun i hi r hs v=>?_⟩,fun e=>(p b e).elim hn (fun e=>oa),p⟩
 ·by_cases f:b'=b
  ·subst f;exact absurd (.inr (.inr (.inr (.inr ⟨m,d⟩)))) hn
  ·exact hk b' (Ib d) f
 ·exact h.rd i hi r (GO j.size hs) (fun k k1 k2=>(v k (At k1 j.size) (fun e=>k2 (e.elim (fun e=>(p k e).elim .inl (fun e=>oa)) .inr))).trans (hk k k1 (fun e=>k2 (.inr (e▸hb)))))
structure MG (w:Y) (B c a n:Nat) (b:AK) (f:Nat->Ac) (q:Nat) (wr:Y):Prop where
 wk:∃vN vT vS vU Bk A,AZ (fun k=>k=a) wr c B vN vT vS vU Bk A (Bz b f q)/\¬Au B c vN vT vS wr a
 row:wr.ownsRow B 45 12 (S9 a q n) q (Qj (EA b f) q)
 below:Below B w wr
theorem MG.step{d:AK}{f:Nat->Ac}{q:Nat}{wr w3 w4 h:Y}(g:w4.ownsRow B 45 12 (S9 a q n) q (Qj (EA d f) q))
  {vN vT vS vU:V9} {Bk:Nat->Nat} {A:Nat->Ad} (i:AZ (fun k=>k=a) w4 c B vN vT vS vU Bk A (Bz d f (q+1))) (hn:¬Au B c vN vT vS w4 a) (hb:Below B w w4)
  (h5:w4.grownBy h (some a)) (b:h.ownsRow B 45 12 (S9 a (q+1) n) (q+1) (Qj (EA d f) q++Ey (EA d f q))):MG w B c a n d f (q+1) h:=by
 have j:=g.lt a rfl;obtain⟨cur,hc,_⟩:=AJ b (q:=a) rfl;obtain⟨m1,m2,_⟩:=i.nA rfl j.1 hn h5 hc oc;exact⟨⟨_,_,_,_,_,_,m1,m2⟩,b,⟨h5.os.trans hb.os,h5.tape.trans hb.tape,h5.output.trans hb.output,GO hb.size h5.size,fun k hk=>(h5.block k (by have:=hb.size;have:=i.base;omega) (fun e=>by cases e;omega)).trans (hb.block k hk)⟩⟩
abbrev lY(c:Nat):Value:=.func (.func 57) #[Q9 c] #[]
theorem Ql(c B ab ah:Nat)(vN vT vS vU:V9)(Bk:Nat->Nat)(A:Nat->Ad)(d:AK)(n:Nat)(f:Nat->Ac)(w:Y)(hn:n<=1000)(hab:ab<B)(hcs:∀i,i<n->∀j u,(Dn (f i)).toList[j]?=some u->w.cell? (G ab (i*14+j))=some u)(hM:AZ (fun _=>False) w c B vN vT vS vU Bk A d)(hG:∀q,q<=n->KH (Bz d f q))(Q:∀i,i<n->Wf (f i).k)(hT:BH w)(R:5<=B)(hE:Gg w)(hB:0<B)(hD:∀i,i<n->P3 (f i)):
  C9 69 #[lY c,S9 ab n ah] w fun e w'=>e=.returned (S9 w.heap.size n n)/\MG w B c w.heap.size n d f n w':=by
 have ai:=O hD;clear hD;have S:B<=w.heap.size:=hM.base;obtain⟨i0,T,aj,U,ak⟩:=P9 Vj;obtain⟨W,bj,b,m⟩:=run_make_own (P:=prog) w B 60 45 i0 (.agg Om) 12 underlying60 T aj U .i64 .i64 n (by rw[ak];omega) (by unfold maxLen;omega) S;have C:B9 w W:=QA m (fun q e=>by cases e) (Be _);have V:=(b.lt w.heap.size rfl).2;have H0:Hid (MG w B c w.heap.size n d f 0 W):=O (by
  obtain⟨m1,d1⟩:=hM.enter C;refine⟨⟨vN,vT,vS,vU,Bk,A,m1.leave (fun k e=>.inr (by subst e;exact⟨Be _,V⟩)),fun e=>?_⟩,b,C.mono S⟩;obtain⟨cur,hc,_⟩:=AJ b (q:=w.heap.size) rfl;rcases e with e|e|e|e|⟨_,e⟩
  ·exact m1.A9 b oc (by rw[e];rfl)
  ·exact BV m1.n b oc e rfl
  ·exact BV m1.t b oc e rfl
  ·exact BV m1.si b oc e rfl
  ·exact DB b oc rfl e)
 obtain⟨g,D⟩:∃g,g=w.heap.size:=⟨_,rfl⟩;have ao:=O hcs;have HE:=O hE;have HT:=O hT;have HG:=O hG;have aq:=O Q;clear hcs hM hE hT hG Q b m C
 go_enter func69,ntmps69
 go_wp2_with fail
 rw[<-D]at H0 V ⊢;have bg:B<=g:=oa;go_loopw [5,13] (fun o ix wr=>∃(q:Nat),q<=n/\ix=J q/\o=S9 g q n/\MG w B c g n d f q wr) (fun _ ix _=>n-(intOf ix).toNat)
 case atStart=>exact⟨0,Re _,rfl,rfl,H0⟩
 case round=>
  have ar:=O D;clear H0 D;obtain⟨q,hq,rfl,rfl,E⟩:=hrel;have HR:=O E;have bk:w.heap.size<=wr.heap.size:=E.below.size;have bh:ab<wr.heap.size:=oa;by_cases F:q<n
  ·obtain⟨au,av,aw,ax,ay,A1,H,X⟩:=E.wk;have a:∀j u,(Dn (f q)).toList[j]?=some u->wr.cell? (G ab (q*14+j))=some u:=fun j u hu=>ol E.below hab (ao q F j u hu);obtain⟨b0,b1,b2,b3,b4,b5,b6,b7,b8,b9,az,aM,a6,a7⟩:=ot a;rw[W4]at b0;have I:B9 wr (wr.alloc (.cells (Dn (f q)) 51)):=n9;obtain⟨m2,d2⟩:=H.below I;have l:=E.below.trans (I.mono (by omega:B<=wr.heap.size));have r:=O (ZX _ c B au av aw ax ay A1 (Bz d f q) (f q) _ m2 (HG q hq) (HT.below l R) (aq q F) R (HE.below l hB) hB (ai q F));have Z:=O d2;have ad:=O X;have bm:=O l;have ae:=O H;clear E a H X I m2 d2 l;go_wp2_with fail;refine r.mono ?_;rintro e w3 ⟨rfl,bn,bp,bq,br,bt,A2,af,K⟩;obtain⟨x,hx⟩:∃x,EA d f q=x:=⟨_,rfl⟩;rw[show Dl (Bz d f q) (f q)=x from hx];have a8:=O hx;have z3:wr.heap.size+1<=w3.heap.size:=by have:=K.size;simpa using this
   have bb:g<wr.heap.size:=(HR.row.lt g rfl).2;have ag:Hid ((w3.alloc (.cells (Ey x).toArray 45)).ownsRow B 45 12 (S9 g q n) q (Qj (EA d f) q)/\∀M,M.ownsRow B 45 12 (S9 g (q+1) n) (q+1) (Qj (EA d f) q++Ey x)->(w3.alloc (.cells (Ey x).toArray 45)).grownBy M (some g)->MG w B c g n d f (q+1) M):=O (by
    have bc:B9 w3 (w3.alloc (.cells (Ey x).toArray 45)):=n9;obtain⟨m4,d4⟩:=af.below bc;have L:=(Z.trans K).trans d4;have s:(w3.alloc (.cells (Ey x).toArray 45)).ownsRow B 45 12 (S9 g q n) q (Qj (EA d f) q):=Ae HR.row (fun k e=>by cases e;exact L.block _ bb ad);refine⟨s,fun M k1 k2=>MG.step (w3:=w3) (wr:=wr) s m4 (fun e=>(L.own _ e).elim ad (fun e=>oa)) ?_ k2 (by rw[z a8];exact k1)⟩;have hb:=HR.below;exact⟨L.os.trans hb.os,L.tape.trans hb.tape,L.output.trans hb.output,GO hb.size L.size,fun k hk=>(L.block k oa (fun e=>oj (ae.Ol e).1)).trans (hb.block k hk)⟩)
   clear af K hx b0 b1 b2 b3 b4 b5 b6 b7 b8 b9 az aM a6 a7 r Z ae;go_wp2_with (first|(at_builtin;refine wpList_append_fits _ rfl _ _ 60 rfl B 45 i0 12 underlying60 T U g q n (Qj (EA d f) q) rfl ag.1 (y w3 0) 1 1 (Ey x) rfl rfl (H8 (BE w3 _)) (Qi x) oa ?_;intro M h v;have bd:=O (ag.2 M h v);clear h v)|go_in);go_roundw
   case rel=>exact⟨q+1,oa,oh,rfl,bd⟩
   case measure=>simp[intOf];omega
  ·have bf:q=n:=oa;subst bf;clear E;go_wp2_with fail;go_ret;rw[<-z ar];exact⟨rfl,HR⟩
theorem Oj.of(h:Cp w B v n f):Oj f n w v B w.heap.size:=by
 have b:=h.lt;obtain⟨hl,⟨c,d⟩|⟨g',cap,cur,c,hb,a,h1,h2,h3,h4⟩⟩:=h
 ·exact .inl ⟨d,c⟩
 ·subst c;refine .inr ⟨g',cap,cap*5,fun j=>(cur[j]?).getD undef,rfl,hb,(b g' rfl).2,⟨cur,a,h3,fun i hi=>by simp[Aag (show i<cur.size by omega)]⟩,oa,fun j hj=>?_⟩;have h5:=Ri (f:=f) (n:=n) (i:=j/5) (j:=j%5) oa oa;rw[show j/5*5+j%5=j by omega,<-h4,AaG,DD hj,Array.getElem?_toList]at h5;show(cur[j]?).getD undef=_;rw[h5];rfl
theorem UW.news{a:Option Addr}{f:Nat->Pr}(h:UW w a n f):n=0\/∃d,a=some d/\∀j u,(pL f n)[j]?=some u->w.cell? (d.add j)=some u:=by
 rcases h with h|⟨b,off,e,g,hc⟩
 ·exact .inl h
 ·refine .inr ⟨_,e,fun j u hu=>?_⟩;have c:((G b off):Addr).add j=(G b (off+j)):=by unfold Addr.add;split<;>simp_all
  rw[c];have hj:j<n*11:=by
   have:=(It.1 hu).1
   rwa [CU]at this
  obtain⟨i,r,hi,k,e⟩:∃i r,i<n/\r<11/\j=i*11+r:=⟨j/11,j%11,oa,oa,oa⟩;subst e;rw[Ig hi k]at hu;obtain⟨c0,c1,c2,c3,c4,c5,c6,c7,m,o,l⟩:=hc i hi;rw[<-Nat.add_assoc];rcases r with _|_|_|_|_|_|_|_|_|_|_|r;all_goals first|(cases hu;assumption)|omega
theorem UU.news{a:Option Addr}{f:Nat->Int}(h:UU w a n f):n=0\/∃d,a=some d/\∀j u,(iL f n)[j]?=some u->w.cell? (d.add j)=some u:=by
 rcases h with h|⟨b,off,e,g,hc⟩
 ·exact .inl h
 ·refine .inr ⟨_,e,fun j u hu=>?_⟩;have c:((G b off):Addr).add j=(G b (off+j)):=by unfold Addr.add;split<;>simp_all
  rw[c];have hj:j<n:=by
   have:=(It.1 hu).1
   rwa [BL]at this
  rw[F7 hj]at hu;cases hu;exact hc j hj
theorem YB(f:Nat->Int)(n:Nat):∀u∈iL f n,u.oneCell'=true:=by
 intro u hu;obtain⟨j,hj,rfl⟩:=List.getElem_of_mem hu;have a:j<n:=by rwa [BL]at hj
 have:=F7 (f:=f) a;rw[List.getElem?_eq_getElem hj]at this;rw[Aap this];rfl
theorem II(hb:Below B w W)(b:B<=W.heap.size)(a:W.grownBy w' none):Below B w w':=⟨a.os.trans hb.os,a.tape.trans hb.tape,a.output.trans hb.output,GO hb.size a.size,fun k hk=>(a.block k oa od).trans (hb.block k hk)⟩
theorem jS:(prog.info? 92).map (·.size)=some 6:=og
theorem Qr(la:T9)(lc:Nat)(ia:T9)(ic:Nat)(xa:T9)(xc:Nat)(d:Dc)(w:Y)(hD:G8 w la ia xa d)(hS:Small d):
  C9 356 #[Dv la lc ia ic xa xc d] w fun e w'=>(∃v0 v1 v2,e=.returned (dO v0 v1 v2 d)/\DV d w' v0 v1 v2 w.heap.size w'.heap.size)/\B9 w w':=by
 obtain⟨i0,bm,bn,bp,bq⟩:=P9 FB;obtain⟨j0,ag,ah,ai,aj⟩:=P9 QG;have hn:=hS.n;have hm:=hS.m;have hx:=hS.x;obtain⟨W,hW⟩:∃W,W=(w.alloc (.cells #[.slice la d.n lc,.slice ia d.m ic,.slice xa d.x xc,J d.used,J d.live,J d.turns] 92)).alloc (.cells D0 92):=⟨_,rfl⟩;have S:B9 w W:=by rw[hW];exact(n9).alloc od _
 have ak:W.heap.size=w.heap.size+1+1:=by rw[hW];simp
 have b0:W.heap[w.heap.size]?=some (.cells #[.slice la d.n lc,.slice ia d.m ic,.slice xa d.x xc,J d.used,J d.live,J d.turns] 92 (0,0)):=by
  rw[hW];exact(DO _ _ _ od).trans (BE _ _)
 have b1:W.heap[w.heap.size+1]?=some (.cells D0 92 (0,0)):=by
  rw[hW];have h1:=BE (w.alloc (.cells #[.slice la d.n lc,.slice ia d.m ic,.slice xa d.x xc,J d.used,J d.live,J d.turns] 92)) (.cells D0 92);simpa using h1
 have br:=O (UW.news (hD.log.below S rfl));have bt:=O S;have ao:=O (And.intro b0 b1);have aq:=O hD;clear S b0 b1 hD hS
 go_enter func356,ntmps356
 go_upto_region 2 with(at_builtin;rw[<-hW];refine Cz rfl _ _ 85 rfl w.heap.size 96 i0 PZ 11 104 underlying85 bm bn bp bq rfl oc rfl la d.n lc (pL d.L d.n) rfl (CU _ _) br (Y6 _ _) (by unfold maxLen;omega) oa oa (w.heap.size+1+1) ak ?_;intro a1 c1 w1 o h p;have f:=(h.block w.heap.size oa od).trans ao.1;have M:=(h.block (w.heap.size+1) oa od).trans ao.2;have x0:w1.cell? (G w.heap.size 0)=some (.slice la d.n lc):=(by simp[World.cell?,f]);have xf:w1.frozen? (G w.heap.size 0)=false:=(by simp[World.frozen?,f]);have l0:=Ah f;have ar:=O (II bt oa h);have au:=O o;have T:=O p;have l:=O (And.intro f M);clear h o p f M)
 obtain⟨w2,i⟩:∃w2,w2=w1.setCell (G w.heap.size 0) (.slice a1 d.n c1):=⟨_,rfl⟩;rw[<-i];have o2:∀k,k≠w.heap.size->w2.heap[k]?=w1.heap[k]?:=fun k hk=>by rw[i];exact A0 _ _ _ _ (by exact hk)
 have e2:w2.heap[w.heap.size]?=some (.cells #[.slice a1 d.n c1,.slice ia d.m ic,.slice xa d.x xc,J d.used,J d.live,J d.turns] 92 (0,0)):=by rw[i];exact(Is _ _ _ _ _ _ l.1).trans od
 have f2:=(o2 (w.heap.size+1) oa).trans l.2;have E:B9 w w2:=by rw[i];exact ar.setCell (Be _) _
 have z2:w2.heap.size=w1.heap.size:=by rw[i];simp
 have ad:w.heap.size+1<w1.heap.size:=Ah l.2;have U:=O (Ae (w':=w2) au (fun q e=>o2 q (oj (z T q e))));have av:∀q,(Value.slice a1 d.n c1).ownBlock=some q->w.heap.size+1<q/\q<w2.heap.size:=fun q e=>⟨oj (z T q e),(U.lt q e).2⟩;have aw:=O (UU.news (aq.ints.below E rfl));have y1:w2.cell? (G w.heap.size 1)=some (.slice ia d.m ic):=by simp[World.cell?,e2]
 have ly:=Ah e2;have V:w.heap.size<=w2.heap.size:=E.size;have ax:=O E;have j:=O (And.intro e2 f2);have r:=O av;clear i o2 e2 f2 E z2 ad av x0 xf l0 l au ar T ak;go_upto_region 3 with(at_builtin;refine Cz rfl _ _ 90 rfl w.heap.size 3 j0 (J 0) 1 8 underlying90 ag ah ai aj rfl oc rfl ia d.m ic (iL d.I d.m) rfl (by rw[BL,Nat.mul_one]) aw (YB _ _) (by unfold maxLen;omega) oa V w2.heap.size rfl ?_;intro a3 c3 w3 s g t;have f:=(g.block w.heap.size (Ah j.1) od).trans j.1;have M:=(g.block (w.heap.size+1) (Ah j.2) od).trans j.2;have x0:w3.cell? (G w.heap.size 1)=some (.slice ia d.m ic):=(by simp[World.cell?,f]);have xf:w3.frozen? (G w.heap.size 1)=false:=(by simp[World.frozen?,f]);have l0:=Ah f;have ay:=O (II ax V g);have az:=O s;have aM:=O (Ae (w':=w3) U (fun q e=>g.block q (r q e).2 od));have F:=O t;have l:=O (And.intro f M);clear g s t f M)
 clear y1 ly;obtain⟨w4,u⟩:∃w4,w4=w3.setCell (G w.heap.size 1) (.slice a3 d.m c3):=⟨_,rfl⟩;rw[<-u];have o4:∀k,k≠w.heap.size->w4.heap[k]?=w3.heap[k]?:=fun k hk=>by rw[u];exact A0 _ _ _ _ (by exact hk)
 have e4:w4.heap[w.heap.size]?=some (.cells #[.slice a1 d.n c1,.slice a3 d.m c3,.slice xa d.x xc,J d.used,J d.live,J d.turns] 92 (0,0)):=by rw[u];exact(Is _ _ _ _ _ _ l.1).trans od
 have f4:=(o4 (w.heap.size+1) oa).trans l.2;have H:B9 w w4:=by rw[u];exact ay.setCell (Be _) _
 have ae:w.heap.size+1<w2.heap.size:=Ah j.2;have a6:=O (Ae (w':=w4) az (fun q e=>o4 q (oj (z F q e))));have a7:=O (Ae (w':=w4) aM (fun q e=>o4 q (oj (r q e).1)));have a8:∀q,(Value.slice a3 d.m c3).ownBlock=some q->w.heap.size+1<q/\q<w4.heap.size/\w2.heap.size<=q:=fun q e=>⟨oj (z F q e),(a6.lt q e).2,oj (z F q e)⟩;have P:∀q,(Value.slice a1 d.n c1).ownBlock=some q->w.heap.size+1<q/\q<w4.heap.size/\q<w2.heap.size:=fun q e=>⟨(r q e).1,(a7.lt q e).2,(r q e).2⟩;have bu:=O (UU.news (aq.index.below H rfl));have y2:w4.cell? (G w.heap.size 2)=some (.slice xa d.x xc):=by simp[World.cell?,e4]
 have ly:=Ah e4;have bb:w.heap.size<=w4.heap.size:=H.size;have bw:=O H;have A:=O (And.intro e4 f4);have b:=O (And.intro a8 P);clear u o4 e4 f4 H ae a8 P x0 xf l0 l az aM ay F U j r aw ax V;go_upto_region 4 with(at_builtin;refine Cz rfl _ _ 90 rfl w.heap.size 3 j0 (J 0) 1 8 underlying90 ag ah ai aj rfl oc rfl xa d.x xc (iL d.X d.x) rfl (by rw[BL,Nat.mul_one]) bu (YB _ _) (by unfold maxLen;omega) oa bb w4.heap.size rfl ?_;intro a5 c5 Z B c C;have f:=(c.block w.heap.size (Ah A.1) od).trans A.1;have M:=(c.block (w.heap.size+1) (Ah A.2) od).trans A.2;have x0:Z.cell? (G w.heap.size 2)=some (.slice xa d.x xc):=(by simp[World.cell?,f]);have xf:Z.frozen? (G w.heap.size 2)=false:=(by simp[World.frozen?,f]);have l0:=Ah f;have bx:=O (II bw bb c);have bz:=O B;have b2:=O (Ae (w':=Z) a7 (fun q e=>c.block q (b.2 q e).2.1 od));have b3:=O (Ae (w':=Z) a6 (fun q e=>c.block q (b.1 q e).2.1 od));have K:=O C;have l:=O (And.intro f M);clear c B C f M)
 clear y2 ly;obtain⟨Q,D⟩:∃Q,Q=Z.setCell (G w.heap.size 2) (.slice a5 d.x c5):=⟨_,rfl⟩;rw[<-D];have o6:∀k,k≠w.heap.size->Q.heap[k]?=Z.heap[k]?:=fun k hk=>by rw[D];exact A0 _ _ _ _ (by exact hk)
 have e6:Q.heap[w.heap.size]?=some (.cells #[.slice a1 d.n c1,.slice a3 d.m c3,.slice a5 d.x c5,J d.used,J d.live,J d.turns] 92 (0,0)):=by rw[D];exact(Is _ _ _ _ _ _ l.1).trans od
 have f6:=(o6 (w.heap.size+1) oa).trans l.2;have bc:B9 w Q:=by rw[D];exact bx.setCell (Be _) _
 have af:w.heap.size+1<w4.heap.size:=Ah A.2;have bd:=Ae (w':=Q) bz (fun q e=>o6 q (oj (z K q e)));have bf:=Ae (w':=Q) b3 (fun q e=>o6 q (oj (b.1 q e).1));have bg:=Ae (w':=Q) b2 (fun q e=>o6 q (oj (b.2 q e).1));obtain⟨w7,R,a⟩:=Ta f6 a1 a3 a5 d.n d.m d.x c1 c3 c5 d;have bh:=Ae (w':=w7) bd (fun q e=>a.other q (oj (z K q e)));have bj:=Ae (w':=w7) bf (fun q e=>a.other q (oj (b.1 q e).1));have bk:=Ae (w':=w7) bg (fun q e=>a.other q (oj (b.2 q e).1));have b4:Hid (DV d w7 (.slice a1 d.n c1) (.slice a3 d.m c3) (.slice a5 d.x c5) w.heap.size w7.heap.size):=O ⟨Kz.of bk,Hb.of bj,Hb.of bh,fun q e e'=>by
   have:=(b.1 q e').2.2;have:=(b.2 q e).2.2;omega,fun q e e'=>by
   have:=z K q e';have:=(b.2 q e).2.1;omega,fun q e e'=>by
   have:=z K q e';have:=(b.1 q e).2.1;omega⟩
 have b5:=O (a.below bc oa);have b6:=O R;have HX:=O e6;have r0:=Ab (vs:=[.slice a1 d.n c1,.slice a3 d.m c3,.slice a5 d.x c5,J d.used,J d.live,J d.turns]) a 0 _ rfl;have r1:=Ab (vs:=[.slice a1 d.n c1,.slice a3 d.m c3,.slice a5 d.x c5,J d.used,J d.live,J d.turns]) a 1 _ rfl;have r2:=Ab (vs:=[.slice a1 d.n c1,.slice a3 d.m c3,.slice a5 d.x c5,J d.used,J d.live,J d.turns]) a 2 _ rfl;have r3:=Ab (vs:=[.slice a1 d.n c1,.slice a3 d.m c3,.slice a5 d.x c5,J d.used,J d.live,J d.turns]) a 3 _ rfl;have r4:=Ab (vs:=[.slice a1 d.n c1,.slice a3 d.m c3,.slice a5 d.x c5,J d.used,J d.live,J d.turns]) a 4 _ rfl;have r5:=Ab (vs:=[.slice a1 d.n c1,.slice a3 d.m c3,.slice a5 d.x c5,J d.used,J d.live,J d.turns]) a 5 _ rfl;clear D o6 e6 f6 bc af bd bf bg bh bj bk R a x0 xf l0 l;go_wp2_with (first|(refine Aat rfl 92 _ rfl w.heap.size rfl _ _ _ _ HX underlying92 rfl jS ?_)|(refine Ai rfl rfl _ b6 ?_));refine E1 (v:=dO (.slice a1 d.n c1) (.slice a3 d.m c3) (.slice a5 d.x c5) d) (by simp[results,results356,go_sem,r0,r1,r2,r3,r4,r5]) rfl ⟨⟨_,_,_,rfl,b4⟩,b5⟩
structure Ov (lo hi:Nat) (w:Y) (h:Hs) (t:Tb):Prop where
 v:Oj t.V t.nv w h.v lo hi
 l:Kz t.d.L t.d.n w h.l lo hi
 i:Hb t.d.I t.d.m w h.i lo hi
 x:Hb t.d.X t.d.x w h.x lo hi
 vl:∀q,h.v.ownBlock=some q->h.l.ownBlock≠some q
 vi:∀q,h.v.ownBlock=some q->h.i.ownBlock≠some q
 vx:∀q,h.v.ownBlock=some q->h.x.ownBlock≠some q
 li:∀q,h.l.ownBlock=some q->h.i.ownBlock≠some q
 lx:∀q,h.l.ownBlock=some q->h.x.ownBlock≠some q
 ix:∀q,h.i.ownBlock=some q->h.x.ownBlock≠some q
theorem Oj.own(h:Oj f n w v lo hi){b:Nat}(e:v.ownBlock=some b):lo<=b/\b<hi/\b<w.heap.size:=by
 rcases h with⟨_,rfl⟩|⟨b',a,Z,g,rfl,h2,h3,h4,_⟩
 ·cases e
 ·cases e;exact⟨h2,h3,Ok h4⟩
theorem Hb.DZ{f:Nat->Int}(h:Hb f n w v lo hi){b:Nat}(e:v.ownBlock=some b):lo<=b/\b<hi/\b<w.heap.size:=by
 rcases h with⟨_,rfl⟩|⟨b',a,Z,g,rfl,h2,h3,h4,_⟩
 ·cases e
 ·cases e;exact⟨h2,h3,Ok h4⟩
theorem Ov.own(H:Ov lo hi w h t){q:Nat}(e:h.own q):lo<=q/\q<hi/\q<w.heap.size:=by
 rcases e with e|e|e|e
 ·exact H.v.own e
 ·exact H.l.own e
 ·exact H.i.DZ e
 ·exact H.x.DZ e
theorem Ov.one(H:Ov lo hi w h t):∃a1 c1 a2 c2 a3 c3 a4 c4,h=⟨.slice a1 t.nv c1,.slice a2 t.d.n c2,.slice a3 t.d.m c3,.slice a4 t.d.x c4⟩:=by
 obtain⟨a1,c1,e1,_⟩:=H.v.at;obtain⟨a2,c2,e2,_⟩:=H.l.at;obtain⟨a3,c3,e3,_⟩:=H.i.VT;obtain⟨a4,c4,a,_⟩:=H.x.VT;cases h;simp only at e1 e2 e3 a;exact⟨a1,c1,a2,c2,a3,c3,a4,c4,by rw[e1,e2,e3,a]⟩
theorem Ov.keep(H:Ov lo hi w h t)(hk:∀q,h.own q->w'.heap[q]?=w.heap[q]?):Ov lo hi w' h t:=
 ⟨H.v.keep (fun b e=>hk b (.inl e)),H.l.CD (fun b e=>hk b (.inr (.inl e))),H.i.CD (fun b e=>hk b (.inr (.inr (.inl e)))),H.x.CD (fun b e=>hk b (.inr (.inr (.inr e)))),H.vl,H.vi,H.vx,H.li,H.lx,H.ix⟩
theorem Oj.wide(h:Oj f n w v lo hi)(h1:a<=lo)(h2:hi<=c):Oj f n w v a c:=by
 rcases h with h|⟨b,d,Z,g,e1,e2,e3,e⟩
 ·exact .inl h
 ·exact .inr ⟨b,d,Z,g,e1,oa,oa,e⟩
theorem Ov.wide(H:Ov lo hi w h t)(h1:a<=lo)(h2:hi<=b):Ov a b w h t:=
 ⟨H.v.wide h1 h2,H.l.wide h1 h2,H.i.wide h1 h2,H.x.wide h1 h2,H.vl,H.vi,H.vx,H.li,H.lx,H.ix⟩
abbrev Z8:Array Value:=#[J 0,N9,N9,N9,N9,J 0,J 0,J 0]
theorem Td(w:Y):(sizeOf 94).run prog w=.ok 8 w:=og
def Hn(a nb j:Nat)(va:T9)(n vc:Nat)(W:Y):Prop:=W.cell? (G a 7)=some (Q9 nb)/\W.cell? (G nb 0)=some (J (j:Int))/\W.cell? (G a 0)=some (.slice va n vc)
theorem Hn.keep{nb:Nat}{va:Option Addr}{vc:Nat}(h:Hn b nb j va n vc W)(h1:W'.heap[b]?=W.heap[b]?)(h2:W'.heap[nb]?=W.heap[nb]?):Hn b nb j va n vc W':=
 ⟨(As (a:=(G b 7)) h1).trans h.1,(As (a:=(G nb 0)) h2).trans h.2.1,(As (a:=(G b 0)) h1).trans h.2.2⟩
def VP(t:Tb)(w:Y)(e:Ending)(w':Y):Prop:=(∃h,e=.returned (.agg (Ks h t).toArray)/\Ov w.heap.size w'.heap.size w' h t)/\B9 w w'
theorem Md(A:Ad)(t:Tb)(s:AK)(b0:Nat)(B:Nat->Nat)(j:Nat)(w:Y)(hN:I2 w s b0 B)(hj:j<s.nf)(hs:t.shape=j)(hn:t.nv<=12)(hb:bare t.d)(hV:I4 w A.va t.nv t.V):
  C9 345 #[CA (B j) A t] w fun e w'=>VP t w e w':=by
 obtain⟨i0,E,F,H,I⟩:=P9 IK;obtain⟨W,r⟩:∃W,W=(w.alloc (.cells #[.slice A.va t.nv A.vc,.slice A.la t.d.n A.lc,.slice A.ia t.d.m A.ic,.slice A.xa t.d.x A.xc,J t.d.used,J t.d.live,J t.d.turns,Q9 (B j)] 236)).alloc (.cells Z8 94):=⟨_,rfl⟩;have b:B9 w W:=by rw[r];exact(n9).alloc od _
 have L:W.heap.size=w.heap.size+1+1:=by rw[r];simp
 obtain⟨x0,x7⟩:W.cell? (y w 0)=some (.slice A.va t.nv A.vc)/\W.cell? (y w 7)=some (Q9 (B j)):=by rw[r];simp[go_sem]
 have b1:W.heap[w.heap.size+1]?=some (.cells Z8 94 (0,0)):=by
  rw[r];have h1:=BE (w.alloc (.cells #[.slice A.va t.nv A.vc,.slice A.la t.d.n A.lc,.slice A.ia t.d.m A.ic,.slice A.xa t.d.x A.xc,J t.d.used,J t.d.live,J t.d.turns,Q9 (B j)] 236)) (.cells Z8 94);simpa using h1
 obtain⟨nl,n0,_⟩:=I2.cell (hN.below b) hj;have M:Hn w.heap.size (B j) j A.va t.nv A.vc W.drew:=⟨x7,n0,x0⟩;have C:t.nv=0\/∃ad,A.va=some ad/\∀j u,(Oa t.V t.nv)[j]?=some u->W.cell? (ad.add j)=some u:=by
  rcases hV with h|⟨vb,off,P,Q,R⟩
  ·exact .inl h
  ·exact .inr ⟨_,P,I4.news (w:=W) (fun i hi=>(R i hi).keep (fun q=>b.cell (p:=(G vb q)) Q))⟩
 have HF:Hid (∀a3 c3 w3,w3.ownsRow w.heap.size 43 5 (.slice a3 t.nv c3) t.nv (Oa t.V t.nv)->W.drew.grownBy w3 none->(∀q,(Value.slice a3 t.nv c3).ownBlock=some q->q=w.heap.size+1+1)->
   Hn w.heap.size (B j) j A.va t.nv A.vc w3/\∃w4,(Instr.storeAt 94 (Q9 (w.heap.size+1)) (.agg #[J (j:Int),.slice a3 t.nv c3,N9,N9,N9,J 0,J 0,J 0])).run prog w3=.ok () w4/\Bn w3 w4 (w.heap.size+1) #[J (j:Int),.slice a3 t.nv c3,N9,N9,N9,J 0,J 0,J 0] 94/\Hn w.heap.size (B j) j A.va t.nv A.vc w4/\
   VP t w (.returned (.agg #[J (j:Int),.slice a3 t.nv c3,N9,N9,N9,J 0,J 0,J 0])) w4):=O (by
  intro a3 c3 w3 h1 h2 h3;have hk:∀k,k<W.heap.size->w3.heap[k]?=W.heap[k]?:=fun k hk=>h2.block k hk od;have ai:W.heap.size<=w3.heap.size:=h2.size;have g:Hn w.heap.size (B j) j A.va t.nv A.vc w3:=M.keep (hk _ oa) (hk _ nl);obtain⟨d1,d2,d3,d4,d5,d6⟩:=hb;have S:B9 w w3:=⟨h2.os.trans b.os,h2.tape.trans b.tape,h2.output.trans b.output,oa,fun k T=>(hk k oa).trans (b.block k T)⟩;have U:w3.heap[w.heap.size+1]?=some (.cells Z8 94 (0,0)):=(hk _ oa).trans b1;obtain⟨w4,k1,k2⟩:=BM (t:=94) (v:=.agg #[J (j:Int),.slice a3 t.nv c3,N9,N9,N9,J 0,J 0,J 0]) (old:=Z8.toList) (vs:=[J (j:Int),.slice a3 t.nv c3,N9,N9,N9,J 0,J 0,J 0]) Td U rfl rfl (by simp[Value.oneCell']) rfl;have X:=Ae (w':=w4) h1 (fun q e=>k2.other q (oj (h3 q e)));have Z:B j≠w.heap.size+1:=oj (I2.cell hN hj).1;refine⟨g,w4,k1,k2,g.keep (k2.other _ oa) (k2.other _ Z),⟨⟨.slice a3 t.nv c3,N9,N9,N9⟩,?_,?_⟩,k2.below S oa⟩
  ·show _=Ending.returned (.agg #[J t.shape,.slice a3 t.nv c3,N9,N9,N9,J t.d.used,J t.d.live,J t.d.turns]);rw[hs,d4,d5,d6]
  ·exact⟨Oj.of X,.inl ⟨d1,rfl⟩,.inl ⟨d2,rfl⟩,.inl ⟨d3,rfl⟩,(fun q _ e=>by cases e),(fun q _ e=>by cases e),(fun q _ e=>by cases e),(fun q e=>by cases e),(fun q e=>by cases e),(fun q e=>by cases e)⟩)
 have ae:=O C;have af:w.heap.size<=W.heap.size:=oa;clear hV hN hs hb C b b1 x0 x7 n0
 go_enter func345,ntmps345
 go_wp2_with fail
 rw[<-r];clear r;refine Hl (Hn w.heap.size (B j) j A.va t.nv A.vc) ?_;refine tz 0 (h:=tz 1 (h:=tz 2 (h:=tz 3 (h:=tz 4 (h:=tz 5 (h:=tz 6 (h:=tz 7 (h:=?_))))))));refine ry 8 (fun K hK=>?_);refine Gx _ rfl (.const (N9)) (.tmp 10) 89 rfl w.heap.size 43 i0 (V 0 0 0 ⟨#[]⟩ 0) 5 48 underlying89 E F H I rfl oc (by simp[Act.eval]) A.va t.nv A.vc (Oa t.V t.nv) (by simp[Act.eval]) (G7 _ _) ae (Mu _ _) (by unfold maxLen;omega) oa af (w.heap.size+1+1) L ?_;intro a3 c3 w3 c l f;obtain⟨g,w4,o,D,ag,hP⟩:=z HF a3 c3 w3 c l f;have ah:=O o;have HP:=O hP;have a:=O D;refine hK.out _ _ g (fun _=>?_);clear hK K c l f o hP D;simp only[Act.put,AaM,AaC,AaB,Aad,AaX,AaW];refine tz 9 (h:=?_);refine ry 10 (fun K hK=>?_);refine BJ rfl rfl _ ah ?_;refine hK.out _ _ ag (fun _=>?_);clear hK K;refine Fj ?_;have r0:=Ab (vs:=[J (j:Int),.slice a3 t.nv c3,N9,N9,N9,J 0,J 0,J 0]) a 0 _ rfl;have r1:=Ab (vs:=[J (j:Int),.slice a3 t.nv c3,N9,N9,N9,J 0,J 0,J 0]) a 1 _ rfl;have r2:=Ab (vs:=[J (j:Int),.slice a3 t.nv c3,N9,N9,N9,J 0,J 0,J 0]) a 2 _ rfl;have r3:=Ab (vs:=[J (j:Int),.slice a3 t.nv c3,N9,N9,N9,J 0,J 0,J 0]) a 3 _ rfl;have r4:=Ab (vs:=[J (j:Int),.slice a3 t.nv c3,N9,N9,N9,J 0,J 0,J 0]) a 4 _ rfl;have r5:=Ab (vs:=[J (j:Int),.slice a3 t.nv c3,N9,N9,N9,J 0,J 0,J 0]) a 5 _ rfl;have r6:=Ab (vs:=[J (j:Int),.slice a3 t.nv c3,N9,N9,N9,J 0,J 0,J 0]) a 6 _ rfl;have r7:=Ab (vs:=[J (j:Int),.slice a3 t.nv c3,N9,N9,N9,J 0,J 0,J 0]) a 7 _ rfl;go_wp2_with fail;refine E1 (v:=.agg #[J (j:Int),.slice a3 t.nv c3,N9,N9,N9,J 0,J 0,J 0]) (by simp[results,results345,go_sem,r0,r1,r2,r3,r4,r5,r6,r7]) rfl HP
theorem Kw(A:Ad)(t:Tb)(w:Y)(hs:t.shape=-1)(hn:t.nv=0)(hD:G8 w A.la A.ia A.xa t.d)(p:Small t.d):
  C9 352 #[KD A t] w fun e w'=>VP t w e w':=by
 obtain⟨W,j⟩:∃W,W=(w.alloc (.cells #[.slice A.va t.nv A.vc,.slice A.la t.d.n A.lc,.slice A.ia t.d.m A.ic,.slice A.xa t.d.x A.xc,J t.d.used,J t.d.live,J t.d.turns] 239)).alloc (.cells Z8 94):=⟨_,rfl⟩;have i:B9 w W:=by rw[j];exact(n9).alloc od _
 have k:W.heap.size=w.heap.size+1+1:=by rw[j];simp
 have b1:W.heap[w.heap.size+1]?=some (.cells Z8 94 (0,0)):=by
  rw[j];have h1:=BE (w.alloc (.cells #[.slice A.va t.nv A.vc,.slice A.la t.d.n A.lc,.slice A.ia t.d.m A.ic,.slice A.xa t.d.x A.xc,J t.d.used,J t.d.live,J t.d.turns] 239)) (.cells Z8 94);simpa using h1
 have r:=O (Qr A.la A.lc A.ia A.ic A.xa A.xc t.d W (hD.below i) p);have s:Hid (∀v0 v1 v2 w3,DV t.d w3 v0 v1 v2 W.heap.size w3.heap.size->B9 W w3->∃a0 c0 a1 c1 a2 c2 w4,v0=.slice a0 t.d.n c0/\v1=.slice a1 t.d.m c1/\v2=.slice a2 t.d.x c2/\(Instr.storeAt 94 (Q9 (w.heap.size+1)) (.agg #[J (-1),N9,.slice a0 t.d.n c0,.slice a1 t.d.m c1,.slice a2 t.d.x c2,J t.d.used,J t.d.live,J t.d.turns])).run prog w3=.ok () w4/\Bn w3 w4 (w.heap.size+1) #[J (-1),N9,.slice a0 t.d.n c0,.slice a1 t.d.m c1,.slice a2 t.d.x c2,J t.d.used,J t.d.live,J t.d.turns] 94/\
   VP t w (.returned (.agg #[J (-1),N9,.slice a0 t.d.n c0,.slice a1 t.d.m c1,.slice a2 t.d.x c2,J t.d.used,J t.d.live,J t.d.turns])) w4):=O (by
  intro v0 v1 v2 w3 f g;obtain⟨a0,c0,a1,c1,a2,c2,rfl,rfl,rfl,-⟩:=f.at;have l:=(g.block (w.heap.size+1) oa).trans b1;obtain⟨w4,k1,k2⟩:=BM (t:=94) (v:=.agg #[J (-1),N9,.slice a0 t.d.n c0,.slice a1 t.d.m c1,.slice a2 t.d.x c2,J t.d.used,J t.d.live,J t.d.turns]) (old:=Z8.toList) (vs:=[J (-1),N9,.slice a0 t.d.n c0,.slice a1 t.d.m c1,.slice a2 t.d.x c2,J t.d.used,J t.d.live,J t.d.turns]) Td l rfl rfl (by simp[Value.oneCell']) rfl;have a:DV t.d w4 (.slice a0 t.d.n c0) (.slice a1 t.d.m c1) (.slice a2 t.d.x c2) w.heap.size w4.heap.size:=(f.keep (fun b hb _=>k2.other b oa)).wide oa (by rw[k2.size];exact Be _);refine⟨a0,c0,a1,c1,a2,c2,w4,rfl,rfl,rfl,k1,k2,⟨⟨N9,.slice a0 t.d.n c0,.slice a1 t.d.m c1,.slice a2 t.d.x c2⟩,?_,⟨.inl ⟨hn,rfl⟩,a.log,a.ints,a.index,(fun q e=>by cases e),(fun q e=>by cases e),(fun q e=>by cases e),a.lB,a.lC,a.a12⟩⟩,k2.below (i.trans (g.mono oa)) oa⟩;show _=Ending.returned (.agg #[J t.shape,N9,.slice a0 t.d.n c0,.slice a1 t.d.m c1,.slice a2 t.d.x c2,J t.d.used,J t.d.live,J t.d.turns]);rw[hs])
 clear hD p hs hn i b1 k
 go_enter func352,ntmps352
 go_wp2_with fail
 rw[<-j];clear j;refine r.mono ?_;rintro e w3 ⟨⟨v0,v1,v2,rfl,f⟩,g⟩;obtain⟨a0,c0,a1,c1,a2,c2,w4,rfl,rfl,rfl,h,c,u⟩:=z s v0 v1 v2 w3 f g;have o:=O h;have B:=O u;have r0:=Ab (vs:=[J (-1),N9,.slice a0 t.d.n c0,.slice a1 t.d.m c1,.slice a2 t.d.x c2,J t.d.used,J t.d.live,J t.d.turns]) c 0 _ rfl;have r1:=Ab (vs:=[J (-1),N9,.slice a0 t.d.n c0,.slice a1 t.d.m c1,.slice a2 t.d.x c2,J t.d.used,J t.d.live,J t.d.turns]) c 1 _ rfl;have r2:=Ab (vs:=[J (-1),N9,.slice a0 t.d.n c0,.slice a1 t.d.m c1,.slice a2 t.d.x c2,J t.d.used,J t.d.live,J t.d.turns]) c 2 _ rfl;have C:=Ab (vs:=[J (-1),N9,.slice a0 t.d.n c0,.slice a1 t.d.m c1,.slice a2 t.d.x c2,J t.d.used,J t.d.live,J t.d.turns]) c 3 _ rfl;have D:=Ab (vs:=[J (-1),N9,.slice a0 t.d.n c0,.slice a1 t.d.m c1,.slice a2 t.d.x c2,J t.d.used,J t.d.live,J t.d.turns]) c 4 _ rfl;have E:=Ab (vs:=[J (-1),N9,.slice a0 t.d.n c0,.slice a1 t.d.m c1,.slice a2 t.d.x c2,J t.d.used,J t.d.live,J t.d.turns]) c 5 _ rfl;have F:=Ab (vs:=[J (-1),N9,.slice a0 t.d.n c0,.slice a1 t.d.m c1,.slice a2 t.d.x c2,J t.d.used,J t.d.live,J t.d.turns]) c 6 _ rfl;have H:=Ab (vs:=[J (-1),N9,.slice a0 t.d.n c0,.slice a1 t.d.m c1,.slice a2 t.d.x c2,J t.d.used,J t.d.live,J t.d.turns]) c 7 _ rfl;clear f g h c u s r;go_wp2_with (refine Ai rfl rfl _ o ?_);refine E1 (v:=.agg #[J (-1),N9,.slice a0 t.d.n c0,.slice a1 t.d.m c1,.slice a2 t.d.x c2,J t.d.used,J t.d.live,J t.d.turns]) (by simp[results,results352,go_sem,r0,r1,r2,C,D,E,F,H]) rfl B
theorem Q5(f:Nat->Si):∀n,∀u∈Ji f n,u.oneCell'=true
 |0,u,h=>by cases h
 |n+1,u,h=>by
  rcases List.mem_append.1 h with h|h
  ·exact Q5 f n u h
  ·simp only[IZ,List.mem_cons,AaD,or_false]at h;rcases h with h|h|h|h|h<;>(rw[h];rfl)
theorem LS.news{a:Option Addr}{f:Nat->Si}(h:LS w a n f):n=0\/∃d,a=some d/\∀j u,(Ji f n)[j]?=some u->w.cell? (d.add j)=some u:=by
 rcases h with h|⟨b,off,e,g,hc⟩
 ·exact .inl h
 ·refine .inr ⟨_,e,fun j u hu=>?_⟩;have c:((G b off):Addr).add j=(G b (off+j)):=by unfold Addr.add;split<;>simp_all
  rw[c];have hj:j<n*5:=by
   have:=(It.1 hu).1
   rwa [FN]at this
  obtain⟨i,r,hi,k,e⟩:∃i r,i<n/\r<5/\j=i*5+r:=⟨j/5,j%5,oa,oa,oa⟩;subst e;rw[Mt hi k]at hu;obtain⟨c0,c1,c2,c3,c4⟩:=hc i hi;rw[<-Nat.add_assoc];rcases r with _|_|_|_|_|r;all_goals first|(cases hu;assumption)|omega
theorem Lq.news{a:Option Addr}{f:Nat->Si}(h:Lq w B (.slice a n g) n f):n=0\/∃c,a=some c/\∀j u,(Ji f n)[j]?=some u->w.cell? (c.add j)=some u:=by
 obtain⟨hl,⟨d,i⟩|⟨g',cap,cur,d,hb,e,h1,h2,h3,h4⟩⟩:=id h
 ·exact .inl i
 ·cases d;refine .inr ⟨_,rfl,fun j u hu=>?_⟩;have hj:j<n*5:=by
   have:=(It.1 hu).1
   rwa [FN]at this
  have b:((G g' 0):Addr).add j=(G g' j):=by unfold Addr.add;split<;>simp_all
  rw[b,IH h j hj];exact hu
theorem Ts.of{f:Nat->Si}(h:Lq w B v n f):Ts f n w v B w.heap.size:=by
 have b:=h.lt;obtain⟨hl,⟨c,d⟩|⟨g',cap,cur,c,hb,a,h1,h2,h3,h4⟩⟩:=h
 ·exact .inl ⟨d,c⟩
 ·subst c;refine .inr ⟨g',cap,cap*5,fun j=>(cur[j]?).getD undef,rfl,hb,(b g' rfl).2,⟨cur,a,h3,fun i hi=>by simp[Aag (show i<cur.size by omega)]⟩,oa,fun j hj=>?_⟩;have h5:=Mt (f:=f) (n:=n) (i:=j/5) (j:=j%5) oa oa;rw[show j/5*5+j%5=j by omega,<-h4,AaG,DD hj,Array.getElem?_toList]at h5;show(cur[j]?).getD undef=_;rw[h5];rfl
theorem GV.of{f:Nat->A3}(h:Ev w B v n f)(hn:0<n):GV f n w v B w.heap.size:=by
 have a:=h.lt;obtain⟨hl,⟨b,d⟩|⟨g',cap,cur,b,hb,c,h1,h2,h3,h4⟩⟩:=id h
 ·exact .inl ⟨d,b⟩
 ·subst b;obtain⟨k1,k2⟩:=Ev.in h;exact .inr ⟨hn,g',cap,rfl,k1,(a g' rfl).2,k2⟩
def MB(a:Nat)(vN vT:V9)(W:Y):Prop:=W.cell? (G a 0)=some vN/\W.cell? (G a 1)=some vT
theorem QW(B0:Nat)(d:T9)(f nc:Nat)(g:T9)(tn tc:Nat)(sa:T9)(sc:Nat)(Bk:Nat->Nat)(A:Nat->Ad)(s:AK)(w:Y)(hB:B0<=w.heap.size)(ad:s.ns<=50)(hn:Rm w B0 (.slice d f nc) s.nf Bk)(p:I2 w s B0 Bk)(t:Ro w B0 (.slice g tn tc) s.nt Bk A s)(V:LS w sa s.ns s.S)(hr:∀w' (X:Nat->Prop),B9 w w'->(∀k,X k->B0<=k)->∀i,i<s.nt->Rd X w' (A i) (s.T i)):
  C9 56 #[.agg #[.slice d f nc,.slice g tn tc],.slice sa s.ns sc] w fun e w'=>(∃c vS,e=.returned (Q9 c)/\AZ (fun _=>False) w' c B0 (.slice d f nc) (.slice g tn tc) vS (N9) Bk A s)/\B9 w w':=by
 obtain⟨i0,u,x,B,C⟩:=P9 J2;obtain⟨W,o⟩:∃W,W=w.alloc (.cells #[.slice d f nc,.slice g tn tc] 118):=⟨_,rfl⟩;have j:B9 w W:=by rw[o];exact(Cs _ _).alloc (Be _) _
 have D:W.heap.size=w.heap.size+1:=by rw[o];simp
 obtain⟨x0,x1⟩:W.cell? (y w 0)=some (.slice d f nc)/\W.cell? (y w 1)=some (.slice g tn tc):=by rw[o];simp[go_sem]
 have ae:MB w.heap.size (.slice d f nc) (.slice g tn tc) W.drew:=⟨x0,x1⟩;have E:=O (LS.news (V.below j rfl));have HF:Hid (∀a3 c3 w3,w3.ownsRow B0 103 5 (.slice a3 s.ns c3) s.ns (Ji s.S s.ns)->W.drew.grownBy w3 none->(∀q,(Value.slice a3 s.ns c3).ownBlock=some q->q=w.heap.size+1)->
   MB w.heap.size (.slice d f nc) (.slice g tn tc) w3/\MB w.heap.size (.slice d f nc) (.slice g tn tc) (w3.alloc (.cells #[.slice d f nc,.slice g tn tc,.slice a3 s.ns c3,N9] 198))/\AZ (fun _=>False) (w3.alloc (.cells #[.slice d f nc,.slice g tn tc,.slice a3 s.ns c3,N9] 198)) w3.heap.size B0 (.slice d f nc) (.slice g tn tc) (.slice a3 s.ns c3) (N9) Bk A s/\B9 w (w3.alloc (.cells #[.slice d f nc,.slice g tn tc,.slice a3 s.ns c3,N9] 198))):=O (by
  intro a3 c3 w3 h1 h2 h3;have hk:∀k,k<W.heap.size->w3.heap[k]?=W.heap[k]?:=fun k hk=>h2.block k hk od;have af:W.heap.size<=w3.heap.size:=h2.size;have F:B9 w w3:=⟨h2.os.trans j.os,h2.tape.trans j.tape,h2.output.trans j.output,oa,fun k H=>(hk k oa).trans (j.block k H)⟩;have b:B9 w (w3.alloc (.cells #[.slice d f nc,.slice g tn tc,.slice a3 s.ns c3,N9] 198)):=F.alloc oa _;have I:MB w.heap.size (.slice d f nc) (.slice g tn tc) w3:=⟨(As (a:=(y w 0)) (hk w.heap.size oa)).trans x0,(As (a:=(y w 1)) (hk w.heap.size oa)).trans x1⟩;obtain⟨Z,M,L,P⟩:=p;refine⟨I,⟨(As (a:=(y w 0)) (DO _ _ w.heap.size oa)).trans I.1,(As (a:=(y w 1)) (DO _ _ w.heap.size oa)).trans I.2⟩,⟨BE _ _,oa,Uq hn b,⟨Z,M,L.below b,P⟩,Uq t b,On h1 _,⟨_,_,_,rfl⟩,fun k e=>e.elim,fun i hi=>?_⟩,b⟩;refine hr _ _ b (fun k e=>?_) i hi;rcases e with e|e
  ·rcases e with e|e|e|e|⟨e,_⟩
   ·omega
   ·exact(hn.lt k e).1
   ·exact(t.lt k e).1
   ·exact(h1.lt k e).1
   ·exact e
  ·exact e.elim)
 have Q:B0<=W.heap.size:=oa;clear hn p t V hr x0 x1 j
 go_enter func56,ntmps56
 go_wp2_with fail
 rw[<-o];clear o;refine Hl (MB w.heap.size (.slice d f nc) (.slice g tn tc)) ?_;refine tz 0 (h:=tz 1 (h:=?_));refine ry 2 (fun K hK=>?_);refine Gx _ rfl (.const (N9)) (.tmp 6) 40 rfl B0 103 i0 (.agg #[E9,J 0,J 0,J 0,J 0]) 5 48 underlying40 u x B C rfl oc (by simp[Act.eval]) sa s.ns sc (Ji s.S s.ns) (by simp[Act.eval]) (FN _ _) E (Q5 _ _) (by unfold maxLen;omega) oa Q (w.heap.size+1) D ?_;intro a3 c3 w3 l n m;obtain⟨R,U,r,b⟩:=z HF a3 c3 w3 l n m;have HM:=O (And.intro r b);refine hK.out _ _ R (fun _=>?_);clear hK K l n m r b;simp only[Act.put,AaM,AaC,AaB,Aad,AaX,AaW];refine tz 3 (h:=?_);refine ry 4 (fun K hK=>?_);go_simp;refine hK.out _ _ U (fun _=>?_);clear hK K;refine tz 5 (h:=?_);refine Fj ?_;go_wp2_with fail;refine E1 (v:=Q9 w3.heap.size) (by simp[results,results56,go_sem]) rfl ⟨⟨_,_,rfl,HM.1⟩,HM.2⟩
theorem ZP(w:Y):(sizeOf 42).run prog w=.ok 3 w:=og
theorem jR:(prog.info? 42).map (·.size)=some 3:=og
abbrev kY:Array Value:=#[N9,N9,N9]
theorem Ub(hf:Ax s.nf s.F=0)(hx:Oi s x):
  (AG Bk A x=.iface 239 (KD A x)/\∀w,I2 w s B0 Bk->I4 w A.va x.nv x.V->G8 w A.la A.ia A.xa x.d->C9 352 #[KD A x] w fun e w'=>VP x w e w')\/
  (∃p,AG Bk A x=.iface 236 (CA p A x)/\∀w,I2 w s B0 Bk->I4 w A.va x.nv x.V->G8 w A.la A.ia A.xa x.d->C9 345 #[CA p A x] w fun e w'=>VP x w e w'):=by
 rcases hx.way with⟨h1,h2,h3⟩|⟨j,h1,h2,h3,h4,h5⟩
 ·exact .inl ⟨DD h1,fun w _ _ a=>Kw A x w h1 h2 a hx.small⟩
 ·refine .inr ⟨Bk j,?_,fun w hn b _=>Md A x s B0 Bk j w hn h2 h1 (Oi.nv hx hf) h4 b⟩;unfold AG;rw[C3 oa,h1];rfl
structure I3 (w:Y) (b:Nat) (vF vT vS:V9) (s:AK) (n k:Nat) (H:Nat->Hs) (L:Nat->Nat) (wr:Y):Prop where
 box:wr.heap[b]?=some (.cells #[vF,vT,vS] 42 (0,0))
 res:wr.heap[w.heap.size]?=some (.cells kY 42 (0,0))
 lt:w.heap.size<b
 CN:B9 w wr
 f:Ev wr w.heap.size vF n s.F
 si:Lq wr w.heap.size vS s.ns s.S
 t:wr.ownsRow w.heap.size 94 8 vT k (JF (fun i=>Ks (H i) (s.T i)) k)
 rows:∀i,i<k->Ov (L i) (L (i+1)) wr (H i) (s.T i)
 lo:w.heap.size<=L 0
 mono:∀i,i<k->L i<=L (i+1)
 hi:L k<=wr.heap.size
theorem Kz.type{f:Nat->Pr}(h:Kz f n w v lo hi){b:Nat}(e:v.ownBlock=some b):∃cs,w.heap[b]?=some (.cells cs 96 (0,0)):=by
 rcases h with⟨_,rfl⟩|⟨b',a,Z,g,rfl,h2,h3,⟨c,hc,_⟩,_⟩
 ·cases e
 ·cases e;exact⟨_,hc⟩
theorem Oj.type(h:Oj f n w v lo hi){b:Nat}(e:v.ownBlock=some b):∃cs,w.heap[b]?=some (.cells cs 43 (0,0)):=by
 rcases h with⟨_,rfl⟩|⟨b',a,Z,g,rfl,h2,h3,⟨c,hc,_⟩,_⟩
 ·cases e
 ·cases e;exact⟨_,hc⟩
theorem Hb.type{f:Nat->Int}(h:Hb f n w v lo hi){b:Nat}(e:v.ownBlock=some b):∃cs,w.heap[b]?=some (.cells cs 3 (0,0)):=by
 rcases h with⟨_,rfl⟩|⟨b',a,Z,g,rfl,h2,h3,⟨c,hc,_⟩,_⟩
 ·cases e
 ·cases e;exact⟨_,hc⟩
theorem Ov.type(H:Ov lo hi w h t){q:Nat}(e:h.own q):∃cs ty,w.heap[q]?=some (.cells cs ty (0,0))/\(ty=43\/ty=96\/ty=3):=by
 rcases e with e|e|e|e
 ·obtain⟨cs,h⟩:=H.v.type e;exact⟨cs,_,h,.inl rfl⟩
 ·obtain⟨cs,h⟩:=H.l.type e;exact⟨cs,_,h,.inr (.inl rfl)⟩
 ·obtain⟨cs,h⟩:=H.i.type e;exact⟨cs,_,h,.inr (.inr rfl)⟩
 ·obtain⟨cs,h⟩:=H.x.type e;exact⟨cs,_,h,.inr (.inr rfl)⟩
section
variable {w:Y} {b:Nat} {vF vT vS:V9} {s:AK} {n k:Nat} {H:Nat->Hs} {L:Nat->Nat} {wr w' X w3:Y}
theorem I3.below(h:I3 w b vF vT vS s n k H L wr)(hb:B9 wr w'):I3 w b vF vT vS s n k H L w':=
 ⟨(hb.block _ (Ah h.box)).trans h.box,(hb.block _ (Ah h.res)).trans h.res,h.lt,oo h.CN hb,Uq h.f hb,Uq h.si hb,Uq h.t hb,fun i hi=>(h.rows i hi).keep (fun q e=>hb.block q ((h.rows i hi).own e).2.2),h.lo,h.mono,GO h.hi hb.size⟩
theorem I3.shape(h:I3 w b vF vT vS s n k H L wr)(x:B9 wr X)(d:X.grownBy w3 vF.ownBlock){g3 a:Nat}(c:w3.ownsRow w.heap.size 205 3 (S9 g3 (n+1) a) (n+1) (SZ s.F n++[J (s.F n).parent,.string (s.F n).key,J (s.F n).count]))(g:vF.ownBlock=some g3\/X.heap.size<=g3):
  w3.heap[b]?=some (.cells #[vF,vT,vS] 42 (0,0))/\I3 w b (S9 g3 (n+1) a) vT vS s (n+1) k H L (w3.setCell (G b 0) (S9 g3 (n+1) a)):=by
 have hx:=h.below x;have l:∀(q:Nat) (cs:Array Value) (ty:TypeId),X.heap[q]?=some (Obj.cells cs ty (0,0))->ty≠205->w3.heap[q]?=X.heap[q]?:=fun q cs ty hq A=>d.block q (Ah hq) (fun e=>by
  obtain⟨cur,hc,_⟩:=AJ hx.f e.symm;rw[hc]at hq;cases hq;exact A rfl)
 have o:∀q,q≠b->(w3.setCell (G b 0) (S9 g3 (n+1) a)).heap[q]?=w3.heap[q]?:=fun q hq=>A0 _ _ _ _ (by exact hq);have j:=(l _ _ _ hx.box oc).trans hx.box;have B:=Ah hx.box;have p:g3≠b:=fun e=>by
  rcases g with h1|h1
  ·obtain⟨cur,hc,_⟩:=AJ hx.f h1;rw[e,hx.box]at hc;cases hc
  ·omega
 have r:∀{e Z m:Nat} {v:V9} {xs:List Value},X.ownsRow w.heap.size e Z v m xs->e≠205->e≠42->(w3.setCell (G b 0) (S9 g3 (n+1) a)).ownsRow w.heap.size e Z v m xs:=fun u h1 h2=>Ae u (fun q e=>by
  obtain⟨cur,hc,_⟩:=AJ u e;exact(o q (fun e'=>by rw[e',hx.box]at hc;cases hc;exact h2 rfl)).trans (l _ _ _ hc h1))
 have hz:=d.size;refine⟨j,⟨(Is _ _ _ _ _ _ j).trans od,(o _ (oj h.lt)).trans ((l _ _ _ hx.res oc).trans hx.res),h.lt,?_,?_,r hx.si oc oc,r hx.t oc oc,fun i hi=>(hx.rows i hi).keep (fun q e=>?_),h.lo,h.mono,by have:=hx.hi;simp;omega⟩⟩
 ·refine PC ?_ (by show w.heap.size<=b;have:=h.lt;omega) _;exact⟨d.os.trans hx.CN.os,d.tape.trans hx.CN.tape,d.output.trans hx.CN.output,oj hx.CN.size,fun q hq=>(d.block q (oj hx.CN.size) (fun e=>oj (hx.f.lt q e.symm).1)).trans (hx.CN.block q hq)⟩
 ·rw[NY s.F n (s.F n) rfl]at c;exact Ae c (fun q e=>o q (by cases e;exact p))
 ·obtain⟨cs,ty,hc,hty⟩:=(hx.rows i hi).type e;refine(o q (fun e'=>?_)).trans (l _ _ _ hc ?_)
  ·rw[e',hx.box]at hc;cases hc;rcases hty with h|h|h<;>cases h
  ·rcases hty with rfl|rfl|rfl<;>decide
theorem I3.table(h:I3 w b vF vT vS s n k H L wr)(B:B9 wr X){c:Hs}(D:Ov wr.heap.size X.heap.size X c (s.T k))(d:X.grownBy w3 vT.ownBlock){g3 a:Nat}(j:w3.ownsRow w.heap.size 94 8 (S9 g3 (k+1) a) (k+1) (JF (fun i=>Ks (H i) (s.T i)) k++Ks c (s.T k)))(l:vT.ownBlock=some g3\/X.heap.size<=g3):
  w3.heap[b]?=some (.cells #[vF,vT,vS] 42 (0,0))/\I3 w b vF (S9 g3 (k+1) a) vS s n (k+1) (AY H k c) (fun i=>if i<=k then(if i=k then wr.heap.size else L i)else X.heap.size) (w3.setCell (G b 1) (S9 g3 (k+1) a)):=by
 have hx:=h.below B;have x:∀(q:Nat) (cs:Array Value) (ty:TypeId),X.heap[q]?=some (Obj.cells cs ty (0,0))->ty≠94->w3.heap[q]?=X.heap[q]?:=fun q cs ty hq E=>d.block q (Ah hq) (fun e=>by
  obtain⟨cur,hc,_⟩:=AJ hx.t e.symm;rw[hc]at hq;cases hq;exact E rfl)
 have o:∀q,q≠b->(w3.setCell (G b 1) (S9 g3 (k+1) a)).heap[q]?=w3.heap[q]?:=fun q hq=>A0 _ _ _ _ (by exact hq);have p:=(x _ _ _ hx.box oc).trans hx.box;have F:=Ah hx.box;have A:g3≠b:=fun e=>by
  rcases l with h1|h1
  ·obtain⟨cur,hc,_⟩:=AJ hx.t h1;rw[e,hx.box]at hc;cases hc
  ·omega
 have C:∀{e Z m:Nat} {v:V9} {xs:List Value},X.ownsRow w.heap.size e Z v m xs->e≠94->e≠42->(w3.setCell (G b 1) (S9 g3 (k+1) a)).ownsRow w.heap.size e Z v m xs:=fun r h1 h2=>Ae r (fun q e=>by
  obtain⟨cur,hc,_⟩:=AJ r e;exact(o q (fun e'=>by rw[e',hx.box]at hc;cases hc;exact h2 rfl)).trans (x _ _ _ hc h1))
 have hz:=d.size;have u:∀{lo hi:Nat} {hq:Hs} {t:Tb},Ov lo hi X hq t->Ov lo hi (w3.setCell (G b 1) (S9 g3 (k+1) a)) hq t:=fun r=>r.keep (fun q e=>by
  obtain⟨cs,ty,hc,hty⟩:=r.type e;refine(o q (fun e'=>?_)).trans (x _ _ _ hc ?_)
  ·rw[e',hx.box]at hc;cases hc;rcases hty with h|h|h<;>cases h
  ·rcases hty with rfl|rfl|rfl<;>decide)
 refine⟨p,⟨(Is _ _ _ _ _ _ p).trans od,(o _ (oj h.lt)).trans ((x _ _ _ hx.res oc).trans hx.res),h.lt,?_,C hx.f oc oc,C hx.si oc oc,?_,fun i hi=>?_,?_,fun i hi=>?_,?_⟩⟩
 ·refine PC ?_ (by show w.heap.size<=b;have:=h.lt;omega) _;exact⟨d.os.trans hx.CN.os,d.tape.trans hx.CN.tape,d.output.trans hx.CN.output,oj hx.CN.size,fun q hq=>(d.block q (oj hx.CN.size) (fun e=>oj (hx.t.lt q e.symm).1)).trans (hx.CN.block q hq)⟩
 ·have e:JF (fun i=>Ks (AY H k c i) (s.T i)) (k+1)=JF (fun i=>Ks (H i) (s.T i)) k++Ks c (s.T k):=by
   rw[JF,Ak,CW (f:=fun i=>Ks (AY H k c i) (s.T i)) (g:=fun i=>Ks (H i) (s.T i)) (fun i hi=>by rw[Al _ _ oa])]
  rw[e];exact Ae j (fun q e=>o q (by cases e;exact A))
 ·by_cases e:i=k
  ·subst e;rw[Ak,DD (Be _),DD rfl,C3 oa];exact u D
  ·rw[Al _ _ e,DD oa,C3 e];have h1:=u (hx.rows i oa);by_cases e2:i+1=k
   ·rw[DD oa,DD e2];have:=h.hi;rw[<-e2]at this;exact h1.wide (Be _) this
   ·rw[DD oa,C3 e2];exact h1
 ·show w.heap.size<=if 0<=k then(if 0=k then wr.heap.size else L 0)else X.heap.size
  rw[DD (Re _)]
  split
  ·exact h.CN.size
  ·exact h.lo
 ·have I:=h.hi;show(if i<=k then(if i=k then wr.heap.size else L i)else X.heap.size)<=(if i+1<=k then(if i+1=k then wr.heap.size else L (i+1))else X.heap.size);rw[DD oa];by_cases e:i=k
  ·rw[DD e,C3 oa];exact B.size
  ·rw[C3 e,DD oa];by_cases e2:i+1=k
   ·rw[DD e2];have h3:=h.mono i oa;rw[e2]at h3;omega
   ·rw[C3 e2];exact h.mono i oa
 ·show(if k+1<=k then(if k+1=k then wr.heap.size else L (k+1))else X.heap.size)<=_;rw[C3 oa];simp;omega
theorem I3.whole(h:I3 w b vF vT vS s s.nf s.nt H L wr)(hn:0<s.nf){w4:Y}(c:Bn wr w4 w.heap.size #[vF,vT,vS] 42):Pb w.heap.size w4.heap.size w4 vF vT vS s H/\B9 w w4:=by
 have D:∀{e Z m:Nat} {v:V9} {xs:List Value},wr.ownsRow w.heap.size e Z v m xs->e≠42->w4.ownsRow w.heap.size e Z v m xs:=fun r h1=>Ae r (fun q e=>by
  obtain⟨cur,hc,_⟩:=AJ r e;exact c.other q (fun e'=>by rw[e',h.res]at hc;cases hc;exact h1 rfl))
 have a:∀i,i<s.nt->Ov (L i) (L (i+1)) w4 (H i) (s.T i):=fun i hi=>(h.rows i hi).keep (fun q e=>c.other q (fun e'=>by
  obtain⟨cs,ty,hc,hty⟩:=(h.rows i hi).type e;rw[e',h.res]at hc;cases hc;rcases hty with h|h|h<;>cases h))
 have hmono:∀i j,i<=j->j<=s.nt->L i<=L j:=fun i j K=>by
  induction j with
  |zero=>
   intro _;have:i=0:=oa;subst this;exact Be _
  |succ j ih=>
   intro hj;by_cases e:i=j+1
   ·subst e;exact Be _
   ·exact GO (ih oa oa) (h.mono j oa)
 have g:∀i,i<s.nt->Ov w.heap.size w4.heap.size w4 (H i) (s.T i):=fun i hi=>(a i hi).wide (GO h.lo (hmono 0 i (Re _) oa)) (by
  rw[c.size];exact GO (hmono (i+1) s.nt oa (Be _)) h.hi)
 have n:=D h.t oc;have A:=D h.f oc;have B:=D h.si oc;have E:∀i q,i<s.nt->(H i).own q->∀{e Z m:Nat} {v:V9} {xs:List Value},w4.ownsRow w.heap.size e Z v m xs->e≠43->e≠96->e≠3->v.ownBlock≠some q:=fun i q hi hq e Z m v xs r h1 h2 h3 k=>by
  obtain⟨cs,ty,hc,hty⟩:=(a i hi).type hq;obtain⟨cur,o,_⟩:=AJ r k;rw[hc]at o;cases o;rcases hty with h|h|h
  ·exact h1 h
  ·exact h2 h
  ·exact h3 h
 have d:∀i j q,i<s.nt->j<s.nt->(H i).own q->(H j).own q->i=j:=fun i j q hi hj h1 h2=>by
  have a1:=(a i hi).own h1;have a2:=(a j hj).own h2;rcases Nat.lt_trichotomy i j with h3|h3|h3
  ·have:=hmono (i+1) j oa oa;omega
  ·exact h3
  ·have:=hmono (j+1) i oa oa;omega
 refine⟨⟨GV.of A hn,?_,Ts.of B,fun q e=>BV A n oc e,fun q e=>BV A B oc e,fun q i e hi k=>E i q hi k A oc oc oc e,fun q e=>BV B n oc e,fun q i e hi k=>E i q hi k B oc oc oc e⟩,c.below h.CN (Be _)⟩;have F:=n.lt;obtain⟨hl,⟨I,M⟩|⟨g',cap,cur,I,hb,p,h1,h2,h3,h4⟩⟩:=id n
 ·exact .inl ⟨M,I⟩
 ·subst I;refine .inr ⟨g',cap,cap*8,fun j=>(cur[j]?).getD undef,rfl,hb,(F g' rfl).2,⟨cur,p,h3,fun i hi=>by simp[Aag (show i<cur.size by omega)]⟩,oa,fun i hi=>?_,⟨fun i hi k=>E i g' hi k n oc oc oc rfl,d,fun i q hi=>(a i hi).vl q,fun i q hi=>(a i hi).vi q,fun i q hi=>(a i hi).vx q,fun i q hi=>(a i hi).li q,fun i q hi=>(a i hi).lx q,fun i q hi=>(a i hi).ix q⟩⟩;have hc:∀j u,(Ks (H i) (s.T i))[j]?=some u->w4.cell? (G g' (i*8+j))=some u:=fun j u hu=>by
   have hj:j<8:=(It.1 hu).1;rw[IH n (i*8+j) oa,GZ (m:=8) (fun _=>rfl) hi hj,hu]
  have C:=g i hi;exact⟨hc 0 _ rfl,hc 1 _ rfl,hc 2 _ rfl,hc 3 _ rfl,hc 4 _ rfl,hc 5 _ rfl,hc 6 _ rfl,hc 7 _ rfl,C.v,C.l,C.i,C.x⟩
end
end Go.Proofs.YtgmlkfgfjjggnaaGreatDoor
