import Derived.Test.YtoobllcjfinmoaaGreatDoorSDAJ
import Derived.Test.YtoobllcjfinmoaaGreatDoorSDAG
set_option linter.all false
set_option maxHeartbeats 40000000
set_option maxRecDepth 100000
namespace Go.Proofs.YtoobllcjfinmoaaGreatDoor
open Go.Proofs.Tryz
open Go.RowKit
attribute [local go_sem] Ar Am C5
variable {b c p t n B0 g ab m o B i lo hi:Nat}{d:Dc}{k v:Vl}{A:Nat->Ad}{W W' w w':Y}{a:Ac}{f:Nat->Si}{Z:Nat->Prop}{vN vT vS vU:V9}{s:AK}{x:Tb}
section
attribute [local go_sem] XG
def Ht(b c a p:Nat)(k v:Vl)(A:Ad)(t:Tb)(W:Y):Prop:=
 W.cell? (G b 0)=some (J k.kind)/\W.cell? (G b 1)=some (J k.num)/\W.cell? (G b 2)=some (F9 k.Af)/\W.cell? (G b 3)=some (.string k.str)/\W.cell? (G b 4)=some (J k.ref)/\
 W.cell? (G c 0)=some (J v.kind)/\W.cell? (G c 1)=some (J v.num)/\W.cell? (G c 2)=some (F9 v.Af)/\W.cell? (G c 3)=some (.string v.str)/\W.cell? (G c 4)=some (J v.ref)/\
 W.cell? (G a 0)=some (.slice A.va t.nv A.vc)/\W.cell? (G a 1)=some (.slice A.la t.d.n A.lc)/\W.cell? (G a 2)=some (.slice A.ia t.d.m A.ic)/\W.cell? (G a 3)=some (.slice A.xa t.d.x A.xc)/\W.cell? (G a 4)=some (J t.d.used)/\W.cell? (G a 5)=some (J t.d.live)/\W.cell? (G a 6)=some (J t.d.turns)/\W.cell? (G a 7)=some (Q9 p)
def Ht.keep{d}{A}{t}(h:Ht b c d p k v A t W)(h1:W'.heap[b]?=W.heap[b]?)(h2:W'.heap[c]?=W.heap[c]?)(h3:W'.heap[d]?=W.heap[d]?):Ht b c d p k v A t W':=by
 have e1:∀q,W'.cell? (G b q)=W.cell? (G b q):=λq=>As (a:=G b q) h1;have e2:∀q,W'.cell? (G c q)=W.cell? (G c q):=λq=>As (a:=G c q) h2;have e3:∀q,W'.cell? (G d q)=W.cell? (G d q):=λq=>As (a:=G d q) h3;grind [Ht]
def Ht.of{a}{A}{t}(h:lN w W k v)(b:W.heap[a]?=some (.cells (CJ p A t).toArray 197 (0,0))):Ht w.heap.size (w.heap.size+1) a p k v A t W:=by
 obtain⟨⟨k0,k1,k2,k3,k4⟩,⟨v0,v1,v2,v3,v4⟩⟩:=h.cells;have hc:=EJ b;exact⟨k0,k1,k2,k3,k4,v0,v1,v2,v3,v4,hc 0 _ rfl,hc 1 _ rfl,hc 2 _ rfl,hc 3 _ rfl,hc 4 _ rfl,hc 5 _ rfl,hc 6 _ rfl,hc 7 _ rfl⟩
section
variable {Z:Nat->Prop} {w w1 w2:Y} {c B0:Nat} {vN vT vS vU:V9} {Bk:Nat->Nat} {A:Nat->Ad} {s:AK} {t:Nat} {k v:Vl} {e:Ending}
def BF.boxes{b d f}(g:BF (Az B0 c vN vT vS w1) w1 (Az B0 c b d f w2) w2)(a:A6 Z w1 c B0 vN vT vS vU Bk A s){q:Nat}{cs}{ty}(hq:w1.heap[q]?=some (Obj.cells cs ty (0,0)))(h:ty=197\/ty=43\/ty=45\/ty=51):w2.heap[q]?=w1.heap[q]?:=
 g.block q (Ah hq) (λe=>by
  rcases h with rfl|rfl|rfl|rfl
  .exact a.EH hq oo oo oo oo oo e
  .exact a.EH hq oo oo oo oo oo e
  .exact a.EH hq oo oo oo oo oo e
  exact a.EH hq oo oo oo oo oo e)
def Z5(h:B8 s (s.T t) k v=.loose){j:Nat}(a:(s.T t).shape=j):CE s t k v=0/\Ct s t k v=BJ s t (Eo (s.T t) (AA s.F j (s.T t).V (s.T t).nv) k v):=by
 grind [B8,CE,Ct,BJ,Eo,AA]
def Qj{F}{j}{V}(h:RB F j V n d)(hn:n<=12):Ep d k v=false:=by
 unfold Ep;rw[h.live,h.turns,decide_eq_false (p:=(n:Int)=500) om,decide_eq_false (p:=(n:Int)=1000000000000) om];simp
end
def gR{Bk}(t j:Nat){k v}{w}(P:A6 Z w c B0 vN vT vS (N9) Bk A s)(hf:Aq s.nf s.F=0)(ht:t<s.nt)(b1:s.nt<=100)(hT:B2 w)(hx:(s.T t).shape=j)(hj:j<s.nf)(R:(s.T t).nv=nf s.F j)(bd:bare (s.T t).d)(ar:∀i,i<(s.T t).nv->J2 ((s.T t).V i)=true)(hk:Ky k)(hv:v.ok=true)(b2:Mm k v)(b3:5<=B0)(bf:∀i,i<s.nt->(s.T i).shape=-1\/∃j:Nat,(s.T i).shape=j/\j<s.nf):
  C9 168 #[Q9 c,J t,GR k,GR v] w λe w'=>Xn Z c B0 vN vT vS s t k v w e w':=by
 obtain⟨g,Q,b4,b5,cm,au,b6⟩:=P.CU ht;subst b4;have bg:AL Bk (A t) (s.T t)=.iface 197 (Cz (Bk j) (A t)<|s.T t):=by
  unfold AL;rw[Cs om,hx];rfl
 rw[bg]at au;obtain⟨W,hW,S,bh,b7⟩:=vA w k v;have b8:=P.lt;have a8:(s.T t).nv<=12:=by rw[R];exact IB hf hj
 obtain⟨gv,ak⟩:=o9<|Cg s.F (s.T t) k;have ae:Hid<|∀w1,B9 W w1->C9 290 #[Cz (Bk j) (A t) (s.T t),GR k] w1 (R9 (GR gv) w1):=O (λw1 h1=>by
  have a:=S.trans (h1.mono om);rw[ak];exact J6 (A t) (s.T t) j k (KA.below P.nd a) hf hj hx R (((P.rd t ht).now.1).below a rfl))
 have b9:Hid<|∀w1,B9 w w1->v.kind=0/\gv.kind=0->Xn Z c B0 vN (S9 g s.nt Q) vS s t k v w (.returned<|CB 0) w1:=O (λw1 h1 h2=>by
  obtain⟨e1,e2⟩:=gQ (by rw[<-ak];exact h2);obtain⟨m1,d1⟩:=P.below h1;exact⟨_,_,_,_,by rw[e1],d1,.inl ⟨e1,Bk,A,by rw[e2];exact m1⟩⟩)
 have ca:Hid<|∀w1,B9 w w1->¬(v.kind=0/\gv.kind=0)->C9 182 #[Q9 c,Cz (Bk j) (A t)<|s.T t,GR k,GR v] w1 λe w'=>sL Z c B0 vN (S9 g s.nt Q) vS N9 Bk A s t k v w1 e w':=O λw1 h1 f=>Ni t j v (P.below h1).1 hf ht hx hj R bd hk (by rw[<-ak];exact f) bf;have HY:Hid (∀w1 w3 w4 l B' p a' x' s',B9 w w1->AL B' a' x'=.iface 197 (.agg (CJ p a' x').toArray)->BJ s' t x'=Ct s t k v->B8 s (s.T t) k v≠.full->s'.nt=s.nt->A6 Z w3 c B0 l (S9 g s.nt Q) vS N9 B' A s'->BF (Az B0 c vN (S9 g s.nt Q) vS w1) w1 (Az B0 c l (S9 g s.nt Q) vS w3) w3->Rd (OZ Z B0 c l (S9 g s.nt Q) vS w3) w3 a' x'->B9 w3 w4->
   C9 172 #[Q9 c,J (t:Int),.iface 197 (.agg (CJ p a' x').toArray)] w4 λe w'=>(∃u,e=.returned u)/\Xn Z c B0 vN (S9 g s.nt Q) vS s t k v w (.returned (CB 0)) w'):=O (λw1 w3 w4 l B' p a' x' s' h1 e1 e2 e3 e4 m3 d3 hR h4=>by
  obtain⟨m4,d4⟩:=m3.below h4;obtain⟨_,d1⟩:=P.below h1;have hc:CE s t k v=0:=by unfold CE;rw[Cs e3]
  rw[<-e1];refine(Jc Z c B0 l _ vS B' A s' t a' x' w4 m4 om om (hR.step d4.oz)).mono ?_;rintro e w5 ⟨hu,av,m5,d5,_⟩;exact⟨hu,l,_,vS,av,by rw[hc],((d1.trans d3).trans d4).trans d5,.inl ⟨hc,B',AX A t a',by rw[<-e2];exact m5⟩⟩)
 have ao:=FQ hf hj (λq hq=>ar q om) (s.T t).nv om;have bj:Hid<|∀w4,B9 w w4\/(∃w3,A6 Z w3 c B0 vN (S9 g s.nt Q) vS N9 Bk A s/\B2 w3/\B9 w3 w4)->C9 184 #[Cz (Bk j) (A t) (s.T t)] w4 λe w'=>(∃v0 v1 v2,e=.returned (lJ v0 v1 v2<|AA s.F j (s.T t).V (s.T t).nv)/\DV (AA s.F j (s.T t).V (s.T t).nv) w' v0 v1 v2 w4.heap.size w'.heap.size)/\B9 w4 w':=O (λw4 h4=>by
  have hq:=h4.elim (λh=>⟨w,P,hT,h⟩) id;obtain⟨w3,m3,M,hb⟩:=hq;exact Vx (A t) (s.T t) j (A1 _ _ M hb) (KA.below m3.nd hb) hf hj R (((m3.rd t ht).now.1).below hb rfl) ar)
 have bk:Hid (∀w1 w3 w5 u0 c0 u1 c1 u2 c2,B9 w w1->B8 s (s.T t) k v=.loose->A6 Z w3 c B0 vN (S9 g s.nt Q) vS N9 Bk A s->B2 w3->BF (Az B0 c vN (S9 g s.nt Q) vS w1) w1 (Az B0 c vN (S9 g s.nt Q) vS w3) w3->B9 w3 w5->Ea w5 u0 u1 u2 (AA s.F j (s.T t).V (s.T t).nv)->
   C9 183 #[Q9 c,J (t:Int),Dv u0 c0 u1 c1 u2 c2 (AA s.F j (s.T t).V (s.T t).nv),GR k,GR v] w5 λe w'=>e=.returned (CB 0)/\Xn Z c B0 vN (S9 g s.nt Q) vS s t k v w (.returned (CB 0)) w'/\∀(q:Nat) (cs:Array Value) (ty:TypeId),w5.heap[q]?=some (Obj.cells cs ty (0,0))->(ty=197\/ty=43\/ty=45\/ty=51)->w'.heap[q]?=w5.heap[q]?):=O (λw1 w3 w5 u0 c0 u1 c1 u2 c2 h1 hw m3 M d3 h5 hD=>by
  rcases m3.below h5,P.below h1,Z5 hw hx with⟨⟨m5,d5⟩,⟨_,d1⟩,⟨e1,e2⟩⟩;refine(Jm t c0 c1 c2 m5 ht b1 (A1 _ _ M h5) hD ao.ls.inv (by rw[ao.m];omega) hk hv b2 b3).mono ?_;rintro e w6 ⟨he,av,a',m6,d6,_⟩;rw[Qj ao a8]at he;refine⟨he,⟨vN,_,vS,av,by rw[e1],((d1.trans d3).trans d5).trans d6,.inl ⟨e1,Bk,AX A t a',by rw[e2];exact m6⟩⟩,λq cs ty hq hty=>d6.boxes m5 hq hty⟩)
 rcases (S.cell b8).trans P.cells.2.1,(S.cell b5).trans au,bh.cells with⟨x1,xg,⟨⟨k0,k1,k2,k3,k4⟩,⟨v0,v1,v2,v3,v4⟩⟩⟩;have lc:c<W.heap.size:=om;have lg:g<W.heap.size:=om;have l0:w.heap.size<W.heap.size:=om;have l1:w.heap.size+1<W.heap.size:=om;rcases P.base,pQ<|Cz (Bk j) (A t)<|s.T t,o9 (AA s.F j (s.T t).V (s.T t).nv) with⟨b0,cn,⟨D,hD⟩⟩;rw[<-hD]at bj bk;clear hk hv ak au b6 bg hx b7 hf R bd ar bf ao hD;go_enter func168,ntmps168;go_upto_region 1 with fail
 rw[<-hW];clear hW;by_cases f:v.kind=0/\gv.kind=0
 case pos=>
  have d1:(v.kind==0)=true:=by simp[f.1]
  have d2:(gv.kind==0)=true:=by simp[f.2]
  have HN:=O f;clear f;refine qr W ?_;(iterate 12 refine N (h:=?_));refine N (h:=?_);refine GC λK hK=>?_;go_simp;apply Exists.intro;refine qj (λw' C=>?_)<|hK _ ?_
  .go_invoke
   (try go_simp)
   refine(ae _ C).mono ?_;rintro e cb ⟨rfl,hb⟩;exact⟨rfl,o8 C hb⟩
  clear hK K;refine N (h:=N (h:=N (h:=?_)));refine GS ?_;intro w1 a;have HE:=z b9 w1 (S.trans<|a.mono om) HN;clear a;go_wp2;refine GO (v:=CB 0) (by simp[results,results168,go_sem,CB]) rfl HE
 have aj:(v.kind=0/\gv.kind≠0)\/v.kind≠0:=by
  by_cases h:v.kind=0
  .exact .inl ⟨h,λe=>f ⟨h,e⟩⟩
  exact .inr h
 have HN:=O f;clear f;rcases aj with⟨h1,h2⟩|h1
 case' inl=>
  have d1:(v.kind==0)=true:=by simp[h1]
  have d2:(gv.kind==0)=false:=by simp[h2]
  clear h1 h2;refine qr W ?_;(iterate 12 refine N (h:=?_));refine N (h:=?_);refine GC λK hK=>?_;go_simp;apply Exists.intro;refine qj (λw' C=>?_)<|hK _ ?_
  .go_invoke
   (try go_simp)
   refine(ae _ C).mono ?_;rintro e cb ⟨rfl,hb⟩;exact⟨rfl,o8 C hb⟩
  clear hK K;refine N (h:=N (h:=N (h:=?_)));refine GS ?_;intro w1 a
 case' inr=>
  have d1:(v.kind==0)=false:=by simp[h1]
  clear h1;go_quiet (fail);obtain⟨w1,aw⟩:=o9<|W.drewN nq;have a:B9 W w1:=by rw[aw];exact⟨rfl,rfl,rfl,Be _,λ_ _=>rfl⟩
  rw[<-aw];clear aw
 all_goals
  rcases (a.cell lc).trans x1,(a.cell lg).trans xg,a.size with⟨x1,xg,z1⟩;have cq:w.heap.size<w1.heap.size:=om;have cr:w.heap.size+1<w1.heap.size:=om;obtain⟨W2,bm,ax,_,o0⟩:=JQ w1<|.cells #[.slice (A t).va (s.T t).nv (A t).vc,.slice (A t).la (s.T t).d.n (A t).lc,.slice (A t).ia (s.T t).d.m (A t).ic,.slice (A t).xa (s.T t).d.x (A t).xc,J (s.T t).d.used,J (s.T t).d.live,J (s.T t).d.turns,Q9 (Bk j)] 197;have ay:W2.heap[w1.heap.size]?=some (.cells (CJ (Bk j) (A t)<|s.T t).toArray 197 (0,0)):=o0;have o:=(S.trans<|a.mono om).trans<|ax.mono om;have U:=(bh.below a).below ax;rcases O U,O ay,U.cells with⟨L,bn,⟨⟨k0,k1,k2,k3,k4⟩,⟨v0,v1,v2,v3,v4⟩⟩⟩;have cc:Hid<|W2.heap[w1.heap.size]?=some (.cells #[.slice (A t).va (s.T t).nv (A t).vc,.slice (A t).la (s.T t).d.n (A t).lc,.slice (A t).ia (s.T t).d.m (A t).ic,.slice (A t).xa (s.T t).d.x (A t).xc,J (s.T t).d.used,J (s.T t).d.live,J (s.T t).d.turns,Q9 (Bk j)] 197 (0,0)):=O ay;have bb:Hid<|(Instr.storeAt 197 (Q9 w1.heap.size)<|Cz (Bk j) (A t)<|s.T t).run prog (w1.alloc<|.cells EM 197)=.ok () W2:=O (by rw[bm];exact SG w1 (Bk j) (A t)<|s.T t);clear a ax ay U bm;go_upto_region 6 with(refine Ag rfl rfl _ bb ?_)
  clear x1 xg;go_wp2_with (first|(refine Aal rfl 197 _ rfl w1.heap.size rfl _ _ _ _ cc underlying197 rfl MA ?_));refine(ca W2 o HN).mono ?_;rintro e w3 (⟨rfl,af,m3,d3⟩|⟨l,B',p,a',x',s',rfl,e1,e2,e3,e4,m3,d3,hR⟩)
  focus
   have X:=(P.below o).1;have ag:lN w w3 k v:=⟨(d3.boxes X L.k<|.inr<|.inl rfl).trans L.k,(d3.boxes X L.v<|.inr<|.inl rfl).trans L.v⟩;have az:=(d3.boxes X bn<|.inl rfl).trans bn;rcases (A1 _ _ hT o).below (B:=B0) ⟨d3.os,d3.tape,d3.output,d3.size,λq hq=>d3.block q om λe=>oS (X.Pm e).1⟩ om,O m3,O d3 with⟨M,bp,cd⟩;rcases O M,O af,JQ w3 (.cells EM 197) with⟨bq,cg,⟨W4,E,H,_⟩⟩;have r:=ag.below H;have I:=(H.block _<|Ah az).trans az;have br:Ht w.heap.size (w.heap.size+1) w1.heap.size (Bk j) k v (A t) (s.T t) W4.drew:=Ht.of (W:=W4) r I;have ad:Hid<|(Instr.storeAt 197 (Q9 w3.heap.size)<|.agg EM).run prog (w3.alloc<|.cells EM 197)=.ok () W4:=O (by
    rw[E];exact Fw (t:=197) (v:=.agg EM) (old:=EM.toList) (vs:=EM.toList) Eu w3 (ty:=197) rfl rfl NC rfl)
   rcases O H,O r,O I,Ah r.k,Ah r.v,Ah I with⟨aM,ah,ch,bt,bu,bw⟩;clear m3 d3 M af X ag az H r I E k0 k1 k2 k3 k4 v0 v1 v2 v3 v4;go_upto_region 10 with(refine Ag rfl rfl _ ad ?_)
   refine Gq (Ht w.heap.size (w.heap.size+1) w1.heap.size (Bk j) k v (A t)<|s.T t) ?_;refine tz 0 (h:=tz 1 (h:=tz 2 (h:=tz 4 (h:=tz 5 (h:=?_)))));refine ry 3 λK hK=>?_;go_simp;have ai:=aM.drew;refine(bj _<|.inr ⟨w3,bp,bq,ai⟩).mono ?_;rintro e w5 ⟨⟨u0,u1,u2,rfl,bx⟩,b⟩;have b:B9 W4 w5:=AaD (BE _ _).drew b;obtain⟨ua,uc,ub,ud,ue,uf,q0,q1,q2,bz⟩:=bx.at;subst q0 q1 q2;rcases br.keep (b.block _ bt) (b.block _ bu) (b.block _ bw),O<|bk W2 w3 w5 ua uc ub ud ue uf o cg bp bq cd (o8 aM b) bz,O (qj ((b.block _ bt).trans ah.k)<|qj ((b.block _ bu).trans ah.v)<|(b.block _ bw).trans ch) with⟨a6,bc,a7⟩;refine hK.out _ _ a6 λ_=>?_;clear hK K br bx bz b ai;refine ry 6 λK hK=>?_;go_simp;refine bc.mono ?_;rintro e w6 ⟨rfl,hP,aq⟩;have cj:=a6.keep (aq _ _ _ a7.1<|.inr<|.inl rfl) (aq _ _ _ a7.2.1<|.inr<|.inl rfl)<|aq _ _ _ a7.2.2<|.inl rfl;have HP:=O hP;refine hK.out _ _ cj λ_=>?_;clear hK K a6 hP aq;refine tz 7 (h:=?_);refine Fj ?_;go_wp2_with fail
  rotate_left
  focus
   obtain⟨W4,E⟩:=o9<|w3.alloc<|.cells (CJ p a' x').toArray 197;have H:B9 w3 W4:=by rw[E];exact(BE _ _).alloc (Be _) _
   have I:W4.heap[w3.heap.size]?=some (.cells (CJ p a' x').toArray 197 (0,0)):=by rw[E];exact DD _ _
   have ad:Hid<|(Instr.storeAt 197 (Q9 w3.heap.size)<|.agg (CJ p a' x').toArray).run prog (w3.alloc<|.cells EM 197)=.ok () W4:=O (by
    rw[E];exact SG w3 p a' x')
   have ck:=O<|HY W2 w3 W4 l B' p a' x' s' o e1 e2 e3 e4 m3 d3 hR H;have cl:=O I;clear m3 d3 e1 e2 e3 e4 hR H I E k0 k1 k2 k3 k4 v0 v1 v2 v3 v4;go_upto_region 8 with(refine Ag rfl rfl _ ad ?_)
   go_wp2_with (first|(refine Aal rfl 197 _ rfl w3.heap.size rfl _ _ _ _ cl underlying197 rfl MA ?_))
   refine ck.mono ?_;rintro e w5 ⟨⟨uu,rfl⟩,hP⟩;have HP:=O hP;clear hP;go_wp2
  all_goals
   refine GO (v:=CB 0) (by simp[results,results168,go_sem,CB]) rfl HP
def PK{Bk}t k v{w}(l:A6 Z w c B0 vN vT vS (N9) Bk A s)(a:Ls s)(g:t<s.nt)(n:B2 w)(hk:Ky k)(o:v.ok=true)(b:Mm k v)(d:5<=B0):
  C9 168 #[Q9 c,J t,GR k,GR v] w λe w'=>Xn Z c B0 vN vT vS s t k v w e w':=by
 have h:=a.t t g;rcases h.way with⟨h1,h2,h3⟩|⟨j,h1,h2,h3,h4,h5⟩
 .exact gU t l g a.nt n h1 h3 h.wf h.m hk o b d
 exact gR t j l a.f g a.nt n h1 h2 h3 h4 (λi hi=>(h5 i hi).1) hk o b d (λi hi=>by
  rcases(a.t i hi).way with⟨e,_⟩|⟨q,e,hq,_⟩
  .exact .inl e
  exact .inr ⟨q,e,hq⟩)
end
def VT{Bk}{A}(hf:Aq s.nf s.F=0)(c:PO s<|s.T t)n:
  (AL Bk A (s.T t)=.iface 194 (KC A<|s.T t)/\∃b,∀w,Yq w s B0 Bk A (s.T t)->C9 265 #[KC A (s.T t),J n] w (R9 (mK b<|(Uv s t).next n) w))\/
  (∃p,AL Bk A (s.T t)=.iface 197 (Cz p A<|s.T t)/\∃b,∀w,Yq w s B0 Bk A (s.T t)->C9 288 #[Cz p A (s.T t),J n] w (R9 (mK b<|(Uv s t).next n) w)):=by
 rcases c.way with⟨h1,h2,h3⟩|⟨j,h1,h2,h3,h4,h5⟩
 .refine .inl ⟨C3 h1,(K5 (s.T t).d n).1,λw a=>?_⟩;rw[dQ h1 h3];exact Lm A (s.T t) n a.tb a.d c.small c.wf<|Gv h3
 refine .inr ⟨Bk j,?_,RX s j (s.T t) n,λw a=>?_⟩
 .unfold AL;rw[Cs om,h1];rfl
 rw[Wt h1];exact Nc A (s.T t) j n a.nd hf h2 h3 a.v
def Hp(c g ab t:Nat)(vT a:V9)(n:Int)(W:Y):Prop:=W.cell? (G c 1)=some vT/\W.cell? (G g t)=some a/\W.cell? (G ab 1)=some (J (t:Int))/\W.cell? (G ab 3)=some (J n)
def Hp.keep{b}{n}(h:Hp c g ab t vT b n w)(hc:w'.heap[c]?=w.heap[c]?)(e:w'.heap[g]?=w.heap[g]?)(d:w'.heap[ab]?=w.heap[ab]?):Hp c g ab t vT b n w':=by
 obtain⟨h1,h2,h3,h4⟩:=h;exact⟨(As (a:=G c 1) hc).trans h1,(As (a:=G g t) e).trans h2,(As (a:=G ab 1) d).trans h3,(As (a:=G ab 3) d).trans h4⟩
theorem bN b p w:(Instr.field 179 (mK b p) 1).run prog w=.ok (.agg (De p).toArray) w:=ou
def fP(hb:w.heap[b]?=some (.cells qE.toArray 166 (0,0)))p:∃w',(Instr.storeAt 166 (Q9 b)<|.agg (De p).toArray).run prog w=.ok () w'/\Bj w w' b (De p).toArray 166:=
 BM (old:=qE) (vs:=De p) Yj hb rfl rfl (Ff p) rfl
def mT(p:Pr):An:=⟨0,p.turn,p.key,p.val⟩
attribute [local go_sem] bN
def Xa{Bk}(a:Ac)t{w}(I:A6 Z w c B0 vN vT vS vU Bk A s)(hf:Aq s.nf s.F=0)(hx:PO s<|s.T t)(hT:B2 w)(et:a.t=t)(ht:t<s.nt)(ai:s.nt<=100):
  C9 139 #[Q9 c,Kz a] w (R9 (.tuple #[Hk (mT<|(Uv s t).next a.n),CB 0]) w):=by
 obtain⟨g,S,hv,U,aj,L,V⟩:=I.CU ht;subst hv;obtain⟨W,hW,q,hA,hR,hz⟩:=boxes w a;have X:=I.lt;have M:=(I.sR hT ht).below q;have f:∀kv,AL Bk (A t) (s.T t)=kv->Hp c g w.heap.size t (S9 g s.nt S) kv a.n W.drew:=λkv e=>by
  obtain⟨a0,a1,a2,a3,_⟩:=hA.all;rw[et]at a1;exact⟨(q.cell (p:=G c 1) X).trans I.cells.2.1,(q.cell (p:=G g t) U).trans<|L.trans<|by rw[e],a1,a3⟩
 rcases O f,O<|VT (B0:=B0) (Bk:=Bk) (A:=A t) hf hx a.n,o9 ((Uv s t).next a.n) with⟨ad,P,⟨p,hp⟩⟩;rw[<-hp]at P ⊢;clear I hA f hf hx hT L V et hp;go_enter func139,ntmps139;go_wp2_with fail;rw[<-hW];clear hW;rcases z P with⟨C,fb,hC⟩|⟨pn,C,fb,hC⟩
 case' inl=>refine Dr (Hp c g w.heap.size t (S9 g s.nt S) (.iface 194<|KC (A t)<|s.T t) a.n) ou ?_
 case' inr=>refine Dr (Hp c g w.heap.size t (S9 g s.nt S) (.iface 197<|Cz pn (A t)<|s.T t) a.n) ou ?_
 all_goals
  have f:=z ad _ C;have HC:=O hC;clear hC C;change wpAnyH _ _ _ _ _ _ _ _ (World.drew _);refine tz 0 (h:=tz 1 (h:=tz 2 (h:=tz 3 (h:=tz 4 (h:=tz 5 (h:=tz 6 (h:=tz 7 (h:=tz 8 (h:=tz 9 (h:=tz 10 (h:=?_)))))))))));refine TO (rs:=[11,13]) ou oq ?_;refine IH rfl (λK hK=>?_) (IH rfl (λK hK=>?_) SO)
  focus
   go_simp;refine(HC _<|M.below (BE _ _).drew).mono ?_;rintro e w3 ⟨rfl,d⟩;have d:B9 W w3:=AaD (BE _ _).drew d;have i:=f.keep (d.block c om) (d.block g om)<|d.block w.heap.size om;have z3:=d.size;have u:Hp c g w.heap.size t _ _ a.n<|w3.alloc<|.cells qE.toArray 166:=i.keep (DO _ _ _ om) (DO _ _ _ om)<|DO _ _ _ om;have j:Hp c g w.heap.size t _ _ a.n<|w3.alloc<|.cells (De p).toArray 166:=i.keep (DO _ _ _ om) (DO _ _ _ om)<|DO _ _ _ om;have ae:=O d;refine hK.out _ _ i λ_=>?_;clear hK K f d;refine tz 12 (h:=?_);refine ry 13 λK hK=>?_;go_simp;refine hK.out _ _ u λ_=>?_;clear hK K;refine ry 14 λK hK=>?_;refine Bd rfl rfl _ (PB w3 p) ?_;refine hK.out _ _ j λ_=>?_;clear hK K;refine Fj ?_;obtain⟨w4,D,_,_,b⟩:=JQ w3<|.cells (De p).toArray 166;have E:B9 W w4:=by rw[D];exact ae.alloc z3 _
   rw[<-D];obtain⟨l,r⟩:=o9 w3.heap.size;rw[<-r]at b ⊢;clear D i u j r
  rotate_left
  focus
   go_simp;have m:B9 W (W.alloc<|.cells qE.toArray 166).drew:=(n9).drew;have v:Hp c g w.heap.size t _ _ a.n (W.alloc<|.cells qE.toArray 166).drew:=f.keep (m.block c om) (m.block g om)<|m.block w.heap.size om;refine hK.out _ _ v λ_=>?_;clear hK K;refine ry 11 λK hK=>?_;go_simp;refine(HC _<|M.below m).mono ?_;rintro e w3 ⟨rfl,d⟩;have k:=o8 m d;have Q:=(d.block _ oq).trans<|DD W _;have i:=f.keep (k.block c om) (k.block g om)<|k.block w.heap.size om;obtain⟨w4,x,o⟩:=fP Q p;rcases i.keep (o.other c om) (o.other g om) (o.other w.heap.size om),o.Bw,o.below k<|Be _,O x with⟨j,b,E,R⟩;refine hK.out _ _ i λ_=>?_;clear hK K f d k m v x o Q;refine tz 12 (h:=?_);refine ry 14 λK hK=>?_;refine Bd rfl rfl _ R ?_;refine hK.out _ _ j λ_=>?_;clear hK K i j;refine Fj ?_;obtain⟨l,r⟩:=o9 W.heap.size;rw[<-r]at b ⊢;clear r
  all_goals
   have p0:w4.cell? (G l 0)=some (J p.key.kind):=by rw[MM w4 _ _ _ _ _ b];rfl
   have p1:w4.cell? (G l 1)=some (J p.key.num):=by rw[MM w4 _ _ _ _ _ b];rfl
   have p2:w4.cell? (G l 2)=some (F9 p.key.Af):=by rw[MM w4 _ _ _ _ _ b];rfl
   have p3:w4.cell? (G l 3)=some (.string p.key.str):=by rw[MM w4 _ _ _ _ _ b];rfl
   have p4:w4.cell? (G l 4)=some (J p.key.ref):=by rw[MM w4 _ _ _ _ _ b];rfl
   have p5:w4.cell? (G l 5)=some (J p.val.kind):=by rw[MM w4 _ _ _ _ _ b];rfl
   have p6:w4.cell? (G l 6)=some (J p.val.num):=by rw[MM w4 _ _ _ _ _ b];rfl
   have p7:w4.cell? (G l 7)=some (F9 p.val.Af):=by rw[MM w4 _ _ _ _ _ b];rfl
   have p8:w4.cell? (G l 8)=some (.string p.val.str):=by rw[MM w4 _ _ _ _ _ b];rfl
   have p9:w4.cell? (G l 9)=some (J p.val.ref):=by rw[MM w4 _ _ _ _ _ b];rfl
   have rP:w4.cell? (G l 10)=some (J p.turn):=by rw[MM w4 _ _ _ _ _ b];rfl
   obtain⟨w5,B,H⟩:=BB (hR.below E om)<|mT p;rcases O B,O H,O (H.Bw) with⟨af,ag,ah⟩;clear B H b;go_wp2_with (refine Ag rfl rfl _ af ?_);refine GQ results139 underlying45 ah ⟨rfl,?_⟩;exact ag.below (o8 q E) om
noncomputable def V4(x:Tb):Int:=if x.shape=-1 then F3 x.d else 0
def Vz(x:Tb):Int:=if x.shape=-1 then x.d.live else x.nv
def Mc p A t w:C9 292 #[Cz p A t] w<|R9 (J 0) w:=by
 go_enter func292,ntmps292;go_wp2;go_ret;exact⟨rfl,n9⟩
def Nf p A t w:C9 289 #[Cz p A t] w<|R9 (J (t.nv:Int)) w:=by
 go_enter func289,ntmps289;go_wp2;go_ret;exact⟨rfl,n9⟩
def Ln A t w:C9 266 #[KC A t] w<|R9 (J t.d.live) w:=by
 go_enter func266,ntmps266;go_wp2;go_ret;exact⟨rfl,n9⟩
def Kw A t{w}(f:B2 w)(hA:Ea w A.la A.ia A.xa t.d)(g:Small t.d)(a:S4 t.d)(h:BI t.d (hD t.d)=0):C9 269 #[KC A t] w<|R9 (J<|F3 t.d) w:=by
 have hb:∀o,B9 w<|w.alloc o:=λo=>n9;have j:Hid<|∀o,C9 275 #[Dv A.la A.lc A.ia A.ic A.xa A.xc t.d] (w.alloc o) λe w'=>e=.returned (J<|F3 t.d)/\Below (w.alloc o).heap.size (w.alloc o) w':=O λo=>cJ A.lc A.ic A.xc (A1 _ _ f<|hb o) (hA.below<|hb o) g a h;have i:=O hb;clear f hA g a hb h;go_enter func269,ntmps269;go_wp2_with fail;refine(j _).mono ?_;rintro e w1 ⟨rfl,b⟩;have c:=O<|o8 (i _) b;clear b;go_wp2;go_ret;exact⟨rfl,c⟩
def cQ{Bk}{A}(a:PO s x):
  (AL Bk A x=.iface 194 (KC A x)/\∀w,Yq w s B0 Bk A x->C9 269 #[KC A x] w (R9 (J<|V4 x) w))\/
  (∃p,AL Bk A x=.iface 197 (Cz p A x)/\∀w,Yq w s B0 Bk A x->C9 292 #[Cz p A x] w (R9 (J<|V4 x) w)):=by
 rcases a.way with⟨h1,h2,h3⟩|⟨j,h1,h2,h3,h4,h5⟩
 .have e:V4 x=F3 x.d:=C3 h1;rw[e];exact .inl ⟨C3 h1,λw b=>Kw A x b.tb b.d a.small a.wf<|Gv h3⟩
 have e:V4 x=0:=Cs om;rw[e];refine .inr ⟨Bk j,?_,λw b=>Mc (Bk j) A x w⟩;unfold AL;rw[Cs om,h1];rfl
def Ve{Bk}(a:Ac)t{w}(m:A6 Z w c B0 vN vT vS vU Bk A s)(P:PO s<|s.T t)(Q:B2 w)(et:a.t=t)(R:t<s.nt)(V:s.nt<=100):
  C9 140 #[Q9 c,Kz a] w (R9 (.tuple #[Hk (DI<|V4<|s.T t),CB 0]) w):=by
 obtain⟨g,u,X,v,ad,n,x⟩:=m.CU R;subst X;obtain⟨W,S,d,hA,hR,hz⟩:=boxes w a;have B:=m.lt;have C:=(m.sR Q R).below d;have f:∀D,AL Bk (A t) (s.T t)=D->Iu c g w.heap.size t (S9 g s.nt u) D a.k W.drew:=λD e=>by
  obtain⟨a0,a1,a2,a3,a4,a5,a6,a7,a8,a9⟩:=hA.all;rw[et]at a1;exact⟨(d.cell (p:=G c 1) B).trans m.cells.2.1,(d.cell (p:=G g t) v).trans<|n.trans<|by rw[e],a1,a4,a5,a6,a7,a8⟩
 have E:=O f;have F:=O<|cQ (B0:=B0) (Bk:=Bk) (A:=A t) P;clear m hA f P Q n x et;go_enter func140,ntmps140;go_wp2_with fail;rw[<-S];clear S;rcases z F with⟨o,U⟩|⟨p,o,U⟩
 case' inl=>refine Dr (Iu c g w.heap.size t (S9 g s.nt u) (.iface 194<|KC (A t)<|s.T t) a.k) ou ?_
 case' inr=>refine Dr (Iu c g w.heap.size t (S9 g s.nt u) (.iface 197<|Cz p (A t)<|s.T t) a.k) ou ?_
 all_goals
  have f:=z E _ o;have HC:=O U;change wpAnyH _ _ _ _ _ _ _ _ (World.drew _);refine tz 0 (h:=tz 1 (h:=tz 2 (h:=tz 3 (h:=tz 4 (h:=tz 5 (h:=tz 6 (h:=tz 7 (h:=tz 8 (h:=?_)))))))));refine ry 9 λK hK=>?_;go_simp;refine(HC _<|C.below (BE _ _).drew).mono ?_;rintro e w3 ⟨rfl,b⟩;have b:B9 W w3:=AaD (BE _ _).drew b;have q:=f.keep (b.block c om) (b.block g om)<|b.block w.heap.size om;obtain⟨H,l⟩:=o9<|V4<|s.T t;rw[<-l];have I:=O l;clear l;obtain⟨w4,j,i⟩:=BB (hR.below b om)<|DI H;have r:=q.keep (i.other c om) (i.other g om)<|i.other w.heap.size om;have L:=O j;refine hK.out _ _ q λ_=>?_;clear hK K f j;refine tz 10 (h:=?_);refine ry 11 λK hK=>?_;refine Bd rfl rfl _ L ?_;refine hK.out _ _ r λae=>?_;clear hK K;refine tz 12 (h:=?_);refine Fj ?_;have M:=O<|i.Bw;go_wp2_with fail;refine GQ results140 underlying45 M ⟨(qg I),?_⟩;exact i.below (o8 d b) om
def cP{Bk}{A}(a:PO s x):
  (AL Bk A x=.iface 194 (KC A x)/\∀w,Yq w s B0 Bk A x->C9 266 #[KC A x] w (R9 (J<|Vz x) w))\/
  (∃p,AL Bk A x=.iface 197 (Cz p A x)/\∀w,Yq w s B0 Bk A x->C9 289 #[Cz p A x] w (R9 (J<|Vz x) w)):=by
 rcases a.way with⟨h1,h2,h3⟩|⟨j,h1,h2,h3,h4,h5⟩
 .have e:Vz x=x.d.live:=C3 h1;rw[e];exact .inl ⟨C3 h1,λw b=>Ln A x w⟩
 have e:Vz x=(x.nv:Int):=Cs om;rw[e];refine .inr ⟨Bk j,?_,λw b=>Nf (Bk j) A x w⟩;unfold AL;rw[Cs om,h1];rfl
def Xb{Bk}(a:Ac)t{w}(m:A6 Z w c B0 vN vT vS vU Bk A s)(P:PO s<|s.T t)(Q:B2 w)(et:a.t=t)(R:t<s.nt)(V:s.nt<=100):
  C9 141 #[Q9 c,Kz a] w (R9 (.tuple #[Hk (DI<|Vz<|s.T t),CB 0]) w):=by
 obtain⟨g,u,X,v,ad,n,x⟩:=m.CU R;subst X;obtain⟨W,S,d,hA,hR,hz⟩:=boxes w a;have B:=m.lt;have C:=(m.sR Q R).below d;have f:∀D,AL Bk (A t) (s.T t)=D->Iu c g w.heap.size t (S9 g s.nt u) D a.k W.drew:=λD e=>by
  obtain⟨a0,a1,a2,a3,a4,a5,a6,a7,a8,a9⟩:=hA.all;rw[et]at a1;exact⟨(d.cell (p:=G c 1) B).trans m.cells.2.1,(d.cell (p:=G g t) v).trans<|n.trans<|by rw[e],a1,a4,a5,a6,a7,a8⟩
 have E:=O f;have F:=O<|cP (B0:=B0) (Bk:=Bk) (A:=A t) P;clear m hA f P Q n x et;go_enter func141,ntmps141;go_wp2_with fail;rw[<-S];clear S;rcases z F with⟨o,U⟩|⟨p,o,U⟩
 case' inl=>refine Dr (Iu c g w.heap.size t (S9 g s.nt u) (.iface 194<|KC (A t)<|s.T t) a.k) ou ?_
 case' inr=>refine Dr (Iu c g w.heap.size t (S9 g s.nt u) (.iface 197<|Cz p (A t)<|s.T t) a.k) ou ?_
 all_goals
  have f:=z E _ o;have HC:=O U;change wpAnyH _ _ _ _ _ _ _ _ (World.drew _);refine tz 0 (h:=tz 1 (h:=tz 2 (h:=tz 3 (h:=tz 4 (h:=tz 5 (h:=tz 6 (h:=tz 7 (h:=tz 8 (h:=?_)))))))));refine ry 9 λK hK=>?_;go_simp;refine(HC _<|C.below (BE _ _).drew).mono ?_;rintro e w3 ⟨rfl,b⟩;have b:B9 W w3:=AaD (BE _ _).drew b;have q:=f.keep (b.block c om) (b.block g om)<|b.block w.heap.size om;obtain⟨H,l⟩:=o9<|Vz<|s.T t;rw[<-l];have I:=O l;clear l;obtain⟨w4,j,i⟩:=BB (hR.below b om)<|DI H;have r:=q.keep (i.other c om) (i.other g om)<|i.other w.heap.size om;have L:=O j;refine hK.out _ _ q λ_=>?_;clear hK K f j;refine tz 10 (h:=?_);refine ry 11 λK hK=>?_;refine Bd rfl rfl _ L ?_;refine hK.out _ _ r λae=>?_;clear hK K;refine tz 12 (h:=?_);refine Fj ?_;have M:=O<|i.Bw;go_wp2_with fail;refine GQ results141 underlying45 M ⟨(qg I),?_⟩;exact i.below (o8 d b) om
section
attribute [local go_sem] XF
def Fz(Z:Nat->Prop)(c B0:Nat)(vN vT vS:V9)(s':AK)(x0:An)(w:Y)(e:Ending)(w':Y):Prop:=
 ∃x g a b d f,e=.returned (.tuple #[Hk x,CB g])/\BF (Az B0 c vN vT vS w) w (Az B0 c a b d w') w'/\
  ((g=0/\x=x0/\∃h A',A6 Z w' c B0 a b d f h A' s')\/(g≠0/\x0=BH g/\P0 Z w' c B0 a b d f s'))
section
variable {Z:Nat->Prop} {w w2 w3 w4:Y} {c B0:Nat} {vN vT vS vU:V9} {Bk:Nat->Nat} {A:Nat->Ad} {s:AK} {t:Nat} {k v:Vl} {e:Ending}
def Fz.read(a:A6 Z w c B0 vN vT vS vU Bk A s)(hb:B9 w w2)x:Fz Z c B0 vN vT vS s x w (.returned<|.tuple #[Hk x,CB 0]) w2:=by
 obtain⟨m1,d1⟩:=a.below hb;grind [Fz,CB]
def Xn.qP(a:BF (Az B0 c vN vT vS w) w (Az B0 c vN vT vS w2) w2)(h:Xn (ZB Z w.heap.size o) c B0 vN vT vS s t k v w2 e w3)(b:B0<=w.heap.size)(d:w.heap.size<=m)(hz:m<o)(p:Iw w3 m)(f:Bj w3 w4 m (LL<|BH 0).toArray 45):Fz Z c B0 vN vT vS (Ct s t k v) (BH<|CE s t k v) w (.returned<|.tuple #[Hk (BH 0),CB (CE s t k v)]) w4:=by
 obtain⟨g,i,j,l,_,q,h⟩:=h;rcases h with⟨e1,n,A',m3⟩|⟨e1,u3⟩
 .obtain⟨f1,f2⟩:=m3.Ki (a.trans q) b d hz p f;exact⟨BH 0,_,g,i,j,l,rfl,f2,.inl ⟨e1,by rw[e1],n,A',f1⟩⟩
 obtain⟨f1,f2⟩:=u3.Ki (a.trans q) b d hz p f;exact⟨BH 0,_,g,i,j,l,rfl,f2,.inr ⟨e1,rfl,f1⟩⟩
end
def LA(ab:Nat)(t:Int)(k v:Vl)(W:Y):Prop:=W.cell? (G ab 1)=some (J t)/\W.cell? (G ab 4)=some (J k.kind)/\W.cell? (G ab 5)=some (J k.num)/\W.cell? (G ab 6)=some (F9 k.Af)/\W.cell? (G ab 7)=some (.string k.str)/\W.cell? (G ab 8)=some (J k.ref)/\W.cell? (G ab 9)=some (J v.kind)/\W.cell? (G ab 10)=some (J v.num)/\W.cell? (G ab 11)=some (F9 v.Af)/\W.cell? (G ab 12)=some (.string v.str)/\W.cell? (G ab 13)=some (J v.ref)
def LA.keep{t}(h:LA ab t k v W)(h1:W'.heap[ab]?=W.heap[ab]?):LA ab t k v W':=by
 have e:∀q,W'.cell? (G ab q)=W.cell? (G ab q):=λq=>As (a:=G ab q) h1;grind [LA]
def gM{Bk}(a:Ac)(t:Nat){w}(B:A6 Z w c B0 vN vT vS (N9) Bk A s)(T:Ls s)(U:B2 w)(et:a.t=t)(ht:t<s.nt)(hk:Ky<|DA a.k)(V:a.v.ok=true)(C:Mm (DA a.k) a.v)(D:5<=B0):
  C9 137 #[Q9 c,Kz a] w λe w'=>Fz Z c B0 vN vT vS (Ct s t (DA a.k) a.v) (BH<|CE s t (DA a.k) a.v) w e w':=by
 obtain⟨W,X,l,hA,hR,hz⟩:=boxes w a;obtain⟨hE,p⟩:=B.enter l;have q:LA w.heap.size (t:Int) a.k a.v W.drew:=by
  obtain⟨a0,a1,a2,a3,a4,a5,a6,a7,a8,a9,E,F,a12,H⟩:=hA.all;rw[et]at a1;exact⟨a1,a4,a5,a6,a7,a8,a9,E,F,a12,H⟩
 obtain⟨g,b⟩:=o9<|DA a.k;have I:Hid<|∀w2,B9 W w2->C9 168 #[Q9 c,J (t:Int),GR g,GR a.v] w2 λe w3=>e=.returned (CB<|CE s t g a.v)/\w3.heap[w.heap.size]?=w2.heap[w.heap.size]?/\Iw w3 (w.heap.size+1)/\∀w4,Bj w3 w4 (w.heap.size+1) (LL<|BH 0).toArray 45->Fz Z c B0 vN vT vS (Ct s t g a.v) (BH<|CE s t g a.v) w (.returned<|.tuple #[Hk (BH 0),CB (CE s t g a.v)]) w4:=O (λw2 h2=>by
  obtain⟨m2,d2⟩:=hE.below h2;refine(PK t g a.v m2 T ht (A1 _ _ U (l.trans (h2.mono om))) (by rw[b];exact hk) V (by rw[b];exact C) D).mono ?_;intro e w3 hP;obtain⟨ad,ae,af,ag,he,hd,_⟩:=id hP;have L:=(h2.block _ om).trans hA;have r:=(h2.block _ om).trans hR;have d:Iw w3 (w.heap.size+1):=(hd.boxes m2 r (.inr (.inr (.inl rfl)))).trans r;exact⟨he,hd.boxes m2 L (.inr (.inr (.inr rfl))),d,λw4 h4=>Xn.qP (p.trans d2) hP B.base om om d h4⟩)
 have M:=O b;rw[<-b];have lW:w.heap.size<W.heap.size:=om;clear B T U et hk V hE p hA hR l b;go_enter func137,ntmps137;go_wp2_with fail;rw[<-X];clear X;refine Gq (LA w.heap.size (t:Int) a.k a.v) ?_;refine tz 0 (h:=tz 1 (h:=tz 2 (h:=tz 3 (h:=tz 4 (h:=tz 5 (h:=tz 8 (h:=tz 9 (h:=?_))))))));refine ry 6 λK hK=>?_;go_simp;refine m9 (F2 a.k.kind a.k.num a.k.Af a.k.str a.k.ref _) λw2 i=>?_;have i:B9 W w2:=AaD (BE _ _).drew i;have m:=q.keep<|i.block _ lW;rw[Ei,<-z M];obtain⟨kc,P⟩:=o9<|Dg a.k;rw[<-P];refine hK.out _ _ m λ_=>?_;clear hK K q;refine tz 7 (h:=?_);refine ry 10 λK hK=>?_;go_simp;refine(I _ i).mono ?_;rintro e w3 ⟨rfl,hab,d,f⟩;have u:=m.keep hab;obtain⟨cd,n⟩:=o9<|CE s t g a.v;rw[<-n]at f ⊢;have Q:=O n;obtain⟨w4,j,o⟩:=BB d<|BH 0;have R:=f w4 o;have x:=u.keep<|o.other _ om;have S:=O j;refine hK.out _ _ u λ_=>?_;clear hK K m hab d f j n;refine ry 11 λK hK=>?_;refine Bd rfl rfl _ S ?_;refine hK.out _ _ x λ_=>?_;clear hK K;refine tz 12 (h:=?_);refine Fj ?_;go_wp2_with fail;refine GQ results137 underlying45 (z<|O<|o.Bw) ?_;have h:=z R;rw[z Q]at h ⊢;exact h
end
theorem SD(f:Nat->Si):∀n,∀u∈Jk f n,u.oneCell'=true
 |0,u,h=>by cases h
 |n+1,u,h=>by
  rcases List.mem_append.1 h with h|h
  .exact SD f n u h
  simp only[GD,List.mem_cons,AaI,or_false]at h;rcases h with h|h|h|h|h<;>(rw[h];rfl)
def FX.news{a:Option Addr}(h:FX w a n f):n=0\/∃d,a=some d/\∀j u,(Jk f n)[j]?=some u->w.cell? (d.add j)=some u:=by
 rcases h with h|⟨b,off,e,g,hc⟩
 .exact .inl h
 refine .inr ⟨_,e,λj u hu=>?_⟩;have c:((G b off):Addr).add j=(G b<|off+j):=by unfold Addr.add;split<;>simp_all
 rw[c];have hj:j<n*5:=by grind [FX,Jk,Gk]
 obtain⟨i,r,hi,k,e⟩:∃i r,i<n/\r<5/\j=i*5+r:=⟨j/5,j%5,om,om,om⟩;subst e;rw[NF hi k]at hu;obtain⟨c0,c1,c2,c3,c4⟩:=hc i hi;rw[<-Nat.add_assoc];rcases r with _|_|_|_|_|r;all_goals first|(cases hu;assumption)|omega
def Mn.news{a}(h:Mn w B (.slice a n g) n f):n=0\/∃c,a=some c/\∀j u,(Jk f n)[j]?=some u->w.cell? (c.add j)=some u:=by
 obtain⟨hl,⟨d,i⟩|⟨g',cap,cur,d,hb,e,h1,h2,h3,h4⟩⟩:=id h
 .exact .inl i
 cases d;refine .inr ⟨_,rfl,λj u hu=>?_⟩;have hj:j<n*5:=by grind [Jk,Gk]
 have b:((G g' 0):Addr).add j=(G g' j):=by unfold Addr.add;split<;>simp_all
 rw[b,Ok h j hj];exact hu
def Vk.of{v}(h:Mn w B v n f):Vk f n w v B w.heap.size:=by
 have b:=h.lt;obtain⟨hl,⟨c,d⟩|⟨g',cap,cur,c,hb,a,h1,h2,h3,h4⟩⟩:=h
 .exact .inl ⟨d,c⟩
 subst c;refine .inr ⟨g',cap,cap*5,λj=>(cur[j]?).getD undef,rfl,hb,(b g' rfl).2,⟨cur,a,h3,λi hi=>by simp[UP (show i<cur.size by omega)]⟩,om,λj hj=>?_⟩;have h5:=NF (f:=f) (n:=n) (i:=j/5) (j:=j%5) om om;rw[show j/5*5+j%5=j by omega,<-h4,List.getElem?_take,C3 hj,Array.getElem?_toList]at h5;show(cur[j]?).getD undef=_;rw[h5];rfl
def GV.of{f}{v}(h:EO w B v n f)(hn:0<n):GV f n w v B w.heap.size:=by
 have b:=h.lt;obtain⟨hl,⟨c,d⟩|⟨g',cap,cur,c,hb,a,h1,h2,h3,h4⟩⟩:=id h;all_goals grind [GV,EO.in]
def FA.cL{a:Option Addr}{f}(h:FA w a n f)(hs:w.heap.size<=w'.heap.size)(hk:∀b,b<w.heap.size->w'.heap[b]?=w.heap[b]?):FA w' a n f:=by
 rcases h with h|⟨b,off,e,c,hc⟩
 .exact .inl h
 exact .inr ⟨b,off,e,A0 c hs,λi hi=>(hc i hi).keep λq=>As (a:=G b q)<|hk b c⟩
def Ea.cL{la ia xa:Option Addr}(h:Ea w la ia xa d)(hs:w.heap.size<=w'.heap.size)(hk:∀b,b<w.heap.size->w'.heap[b]?=w.heap[b]?):Ea w' la ia xa d:=by
 have hi:∀{a:Option Addr} {n:Nat} {f:Nat->Int},JP w a n f->JP w' a n f:=λh=>by
  rcases h with h|⟨b,off,e,c,hc⟩
  .exact .inl h
  exact .inr ⟨b,off,e,A0 c hs,λi hi=>(As (a:=G b<|off+i)<|hk b c).trans<|hc i hi⟩
 refine⟨?_,hi h.ints,hi h.index⟩;rcases h.log with h|⟨b,off,e,c,hc⟩
 .exact .inl h
 exact .inr ⟨b,off,e,A0 c hs,λi hi=>(hc i hi).keep λq=>As (a:=G b q)<|hk b c⟩
def Rd.arg{w0}{A}{t}(c:FA w0 A.va t.nv t.V)(hD:Ea w0 A.la A.ia A.xa t.d)(hb:B9 w0 w)(f:∀k,Z k->w0.heap.size<=k):Rd Z w A t:=λw' hs hk=>by
 have a:∀b,b<w0.heap.size->w'.heap[b]?=w0.heap[b]?:=λk a=>(hk k (A0 a hb.size) λe=>oS<|f k e).trans<|hb.block k a;exact⟨c.cL (GP hb.size hs) a,hD.cL (GP hb.size hs) a⟩
def NQ(a:Nat)(vN vT:V9)(W:Y):Prop:=W.cell? (G a 0)=some vN/\W.cell? (G a 1)=some vT
def Sw B0 d f nc ta tn tc{sa:Option Addr}sc Bk A s{w}(hB:B0<=w.heap.size)(V:s.ns<=50)(hn:aT w B0 (.slice d f nc) s.nf Bk)(o:KA w s B0 Bk)(R:aW w B0 (.slice ta tn tc) s.nt Bk A s)(hS:FX w sa s.ns s.S)(hr:∀w' (X),B9 w w'->(∀k,X k->B0<=k)->∀i,i<s.nt->Rd X w' (A i) (s.T i)):
  C9 27 #[.agg #[.slice d f nc,.slice ta tn tc],.slice sa s.ns sc] w λe w'=>(∃c vS,e=.returned (Q9 c)/\A6 (λ_=>False) w' c B0 (.slice d f nc) (.slice ta tn tc) vS N9 Bk A s)/\B9 w w':=by
 obtain⟨i0,p,r,t,u⟩:=ON G5;obtain⟨W,x,g,B,_⟩:=JQ w<|.cells #[.slice d f nc,.slice ta tn tc] 73;have x0:W.cell? (y w 0)=some (.slice d f nc):=by rw[x];simp[go_sem]
 have x1:W.cell? (y w 1)=some (.slice ta tn tc):=by rw[x];simp[go_sem]
 have ad:NQ w.heap.size (.slice d f nc) (.slice ta tn tc) W.drew:=⟨x0,x1⟩;have C:=O<|FX.news<|hS.below g rfl;have HF:Hid (∀a3 c3 w3,w3.ownsRow B0 107 5 (.slice a3 s.ns c3) s.ns (Jk s.S s.ns)->W.drew.grownBy w3 none->(∀q,(Value.slice a3 s.ns c3).ownBlock=some q->q=w.heap.size+1)->
   NQ w.heap.size (.slice d f nc) (.slice ta tn tc) w3/\NQ w.heap.size (.slice d f nc) (.slice ta tn tc) (w3.alloc (.cells #[.slice d f nc,.slice ta tn tc,.slice a3 s.ns c3,N9] 134))/\A6 (λ_=>False) (w3.alloc (.cells #[.slice d f nc,.slice ta tn tc,.slice a3 s.ns c3,N9] 134)) w3.heap.size B0 (.slice d f nc) (.slice ta tn tc) (.slice a3 s.ns c3) N9 Bk A s/\B9 w (w3.alloc (.cells #[.slice d f nc,.slice ta tn tc,.slice a3 s.ns c3,N9] 134))):=O (by
  intro a3 c3 w3 h1 h2 h3;have hk:∀k,k<W.heap.size->w3.heap[k]?=W.heap[k]?:=λk hk=>h2.block k hk oq;have ae:W.heap.size<=w3.heap.size:=h2.size;have D:B9 w w3:=⟨h2.os.trans g.os,h2.tape.trans g.tape,h2.output.trans g.output,om,λk E=>(hk k om).trans<|g.block k E⟩;have b:B9 w<|w3.alloc<|.cells #[.slice d f nc,.slice ta tn tc,.slice a3 s.ns c3,N9] 134:=D.alloc om _;have F:NQ w.heap.size (.slice d f nc) (.slice ta tn tc) w3:=⟨(As (a:=y w 0)<|hk w.heap.size om).trans x0,(As (a:=y w 1)<|hk w.heap.size om).trans x1⟩;obtain⟨Z,M,H,I⟩:=o;refine⟨F,⟨(As (a:=y w 0)<|DO _ _ w.heap.size om).trans F.1,(As (a:=y w 1)<|DO _ _ w.heap.size om).trans F.2⟩,⟨DD _ _,om,Wo hn b,⟨Z,M,H.below b,I⟩,Wo R b,OR h1 _,⟨_,_,_,rfl⟩,λk e=>e.elim,λi hi=>?_⟩,b⟩;refine hr _ _ b (λk e=>?_) i hi;rcases e with e|e
  .rcases e with e|e|e|e|⟨e,_⟩
   .omega
   .exact(hn.lt k e).1
   .exact(R.lt k e).1
   .exact(h1.lt k e).1
   exact e
  exact e.elim)
 have L:B0<=W.heap.size:=om;go_enter func27,ntmps27;go_wp2_with fail;rw[<-x];refine Gq (NQ w.heap.size (.slice d f nc)<|.slice ta tn tc) ?_;refine tz 0 (h:=tz 1 (h:=?_));refine ry 2 λK hK=>?_;refine Hg _ rfl (.const N9) (.tmp 6) 40 rfl B0 107 i0 (.agg #[E9,J 0,J 0,J 0,J 0]) 5 48 underlying40 p r t u rfl oo og sa s.ns sc (Jk s.S s.ns) og (Gk _ _) C (SD _ _) od om L (w.heap.size+1) B ?_;intro a3 c3 w3 j m l;obtain⟨P,Q,n,b⟩:=z HF a3 c3 w3 j m l;have U:=O<|qj n b;refine hK.out _ _ P λ_=>?_;clear hK K j m l n b;simp only[Act.put,AaQ,AaF,AaE,Aac,AaY,AaX];refine tz 3 (h:=?_);refine ry 4 λK hK=>?_;go_simp;refine hK.out _ _ Q λ_=>?_;clear hK K;refine tz 5 (h:=?_);refine Fj ?_;go_wp2_with fail;refine GO (v:=Q9 w3.heap.size) (by simp[results,results27,go_sem]) rfl ⟨⟨_,_,rfl,U.1⟩,U.2⟩
def Lz(c g ab t i:Nat)(vT a:V9)(W:Y):Prop:=W.cell? (G c 1)=some vT/\W.cell? (G g t)=some a/\W.cell? (G ab 1)=some (J (t:Int))/\W.cell? (G ab 2)=some (J (i:Int))
def Lz.keep{b}(h:Lz c g ab t i vT b w)(hc:w'.heap[c]?=w.heap[c]?)(e:w'.heap[g]?=w.heap[g]?)(d:w'.heap[ab]?=w.heap[ab]?):Lz c g ab t i vT b w':=by
 obtain⟨h1,h2,h3,h4⟩:=h;exact⟨(As (a:=G c 1) hc).trans h1,(As (a:=G g t) e).trans h2,(As (a:=G ab 1) d).trans h3,(As (a:=G ab 2) d).trans h4⟩
def fQ(w:Y){vs:List Value}(a:vs.length=8)(h1:∀u∈vs,u.oneCell'=true):(Instr.storeAt 197 (Q9 w.heap.size)<|.agg vs.toArray).run prog (w.alloc<|.cells EM 197)=.ok () (w.alloc<|.cells vs.toArray 197):=
 Fw (old:=EM.toList) Eu w (qh a) a h1 rfl
def Qv{Bk}(a:Ac)(t i:Nat){w}(hM:A6 Z w c B0 vN vT vS vU Bk A s)(C:Ls s)(hT:B2 w)(et:a.t=t)(D:t<s.nt)(ei:a.site=i)(hi:i<s.ns)(cb:5<=B0):
  C9 143 #[Q9 c,Kz a] w λe w'=>Fz Z c B0 vN vT vS (AY s i t) (GI<|if 0<=Bh s i t then(s.T t).V (Bh s i t).toNat else Cg s.F (s.T t) (BL (s.S i).key)) w e w':=by
 obtain⟨X,hX⟩:=o9<|GI<|if 0<=Bh s i t then(s.T t).V (Bh s i t).toNat else Cg s.F (s.T t) (BL (s.S i).key);rw[<-hX];have av:=O hX;clear hX;obtain⟨g,v,bn,cc,cd,bp,bq⟩:=hM.CU D;subst bn;rcases boxes w a,hM.lt,hM.base with⟨⟨W,hW,R,hA,hR,hz⟩,cg,U⟩;rcases hM.enter R,C.t t D,C.ns,C.nt,C.f with⟨⟨hE,br⟩,hx,aw,bt,hf⟩;have ax:0<=Bh s i t->∃q:Nat,Bh s i t=q/\q<(s.T t).nv:=λh=>by
  obtain⟨_,q,_,_,h1,h2,_⟩:=Js C hi D h;exact⟨q,h1,h2⟩
 have ao:=O<|Rt i t hE hf hi aw D bt hx<|C.si i hi;obtain⟨a0,a1,a2,a3,_⟩:=hA.all;rw[et]at a1;rw[ei]at a2;rcases O hR,A1 _ _ hT R,O ax,O (T6 (B0:=B0) (Bk:=Bk) (A:=A t) hf hx<|GK (C.si i hi).1) with⟨HR,bu,ay,bw⟩;have E:Hid<|∀w3 w5 x,A6 (ZB Z w.heap.size W.heap.size) w3 c B0 vN (S9 g s.nt v) vS vU Bk A (AY s i t)->BF (Az B0 c vN (S9 g s.nt v) vS w) w (Az B0 c vN (S9 g s.nt v) vS w3) w3->Iw w3 (w.heap.size+1)->Bj w3 w5 (w.heap.size+1) (LL x).toArray 45->Fz Z c B0 vN (S9 g s.nt v) vS (AY s i t) x w (.returned<|.tuple #[Hk x,CB 0]) w5:=O (λw3 w5 x m3 d3 hr bx=>by
  obtain⟨f1,f2⟩:=m3.Ki d3 U om om hr bx;exact⟨x,0,_,_,_,_,rfl,f2,.inl ⟨rfl,rfl,Bk,A,f1⟩⟩)
 clear hM C hT et ei hR R bp bq hx hf ax;go_enter func143,ntmps143;go_upto_region 1 with fail
 rw[<-hW];clear hW;go_wp2_with fail;refine ao.mono ?_;rintro e w3 ⟨vs,h8,h1,rfl,az,m3,d3⟩;rcases (d3.boxes hE hA<|.inr<|.inr<|.inr rfl),(d3.boxes hE HR<|.inr<|.inr<|.inl rfl),d3.size,JQ w3 (.cells vs.toArray 197) with⟨hab,aM,z3,⟨n,a6,m,_,a7⟩⟩;have H:Hid<|(Instr.storeAt 197 (Q9 w3.heap.size)<|.agg vs.toArray).run prog (w3.alloc<|.cells EM 197)=.ok () n:=O (by rw[a6];exact fQ w3 h8 h1);obtain⟨m4,d4⟩:=m3.below m;have a8:=(br.trans d3).trans d4;have ad:Iw n<|w.heap.size+1:=(m.block _ om).trans<|aM.trans HR;have b1:n.cell? (y w 1)=some (J (t:Int)):=(As (a:=y w 1)<|(m.block w.heap.size om).trans hab).trans a1;have b2:n.cell? (y w 2)=some (J (i:Int)):=(As (a:=y w 2)<|(m.block w.heap.size om).trans hab).trans a2;have bb:=O az;have bz:=O a7;have b0:Hid<|B2 n:=O (by
  have h3:=bu.below (B:=B0) ⟨d3.os,d3.tape,d3.output,d3.size,λq hq=>d3.block q om (λe=>oS (hE.Pm e).1)⟩ om;exact A1 _ _ h3 m)
 obtain⟨fi,o⟩:=o9<|Bh s i t;rw[<-o]at bb ay ⊢;clear m3 d3 hab aM m a7 a6 d4 az a0 a1 a2 a3;by_cases I:0<=fi
 .obtain⟨q,hq,b3⟩:=z ay I;obtain⟨j,hj,bc⟩:=z bb I;have bd:decide (0<=fi)=true:=by simp[I]
  have hc:=EJ (by rw[<-bc];exact bz);have p0:=hc 0 _ rfl;have hV:FA n (A t).va (s.T t).nv (s.T t).V:=(m4.rd t D).now.1;obtain⟨vb,off,bf,ch,bg⟩:=hV.resolve_left om;obtain⟨y0,y1,y2,y3,y4⟩:=bg q b3;rw[bf]at p0;have bh:(fi.toNat)=q:=om;have HR:Hid<|X=GI ((s.T t).V q):=O (by rw[z av,<-o,C3 I,bh]);obtain⟨w5,L,k⟩:=BB ad<|GI<|(s.T t).V q;rcases O L,O<|k.Bw,z E n w5 (GI<|(s.T t).V q) m4 a8 ad k with⟨aq,ae,af⟩;rw[hq]at bd ⊢;generalize (s.T t).V q=x at*;clear hc hV bg bf bc L k bh I o hq;go_upto_region 2 with(refine Ag rfl rfl _ H ?_)
  go_wp2_with (refine Ag rfl rfl _ aq ?_)
  refine GQ results143 underlying45 ae ?_;rw[z HR];exact af
 have bd:decide (0<=fi)=false:=by simp[I]
 have b4:Hid<|X=GI (Cg s.F (s.T t)<|BL (s.S i).key):=O (by rw[z av,<-o,Cs I]);clear I o;have l:=m4;obtain⟨_,_,bj,ag,_,M,_⟩:=l.CU D;have b5:Value.slice (some<|G g 0) s.nt v=_:=bj;clear bj;cases b5;rcases l.cells.2.1,l.lt,O (MK (ZB Z w.heap.size W.heap.size) c B0 vN (S9 g s.nt v) vS vU Bk A (AY s i t) i) with⟨x1,ah,b6⟩;have b7:Hid<|Yq n s B0 Bk (A t)<|s.T t:=O ⟨l.nd,(l.rd t D).now.1,(l.rd t D).now.2,b0⟩;have bk:((AY s i t).S i).key=(s.S i).key:=by
  show(AX s.S i (DS s i t) i).key=_;rw[Ai];unfold DS;split
  .rfl
  split<;>rfl
 have b8:=O bk;have r:∀kv,AL Bk (A t) (s.T t)=kv->Lz c g w.heap.size t i (S9 g s.nt v) kv n.drew:=λkv e=>⟨x1,M.trans<|by rw[<-e];rfl,b1,b2⟩;have b9:=O r;clear l M r bk x1 b1 b2;go_upto_region 4 with(refine Ag rfl rfl _ H ?_)
 rcases z bw with⟨ai,hC⟩|⟨p,ai,hC⟩
 case' inl=>refine Dr (Lz c g w.heap.size t i (S9 g s.nt v)<|.iface 194<|KC (A t)<|s.T t) ou ?_
 case' inr=>refine Dr (Lz c g w.heap.size t i (S9 g s.nt v)<|.iface 197<|Cz p (A t)<|s.T t) ou ?_
 all_goals
  have r:=z b9 _ ai;have HC:=O hC;clear hC ai;change wpAnyH _ _ _ _ _ _ _ _ (World.drew _);refine tz 0 (h:=tz 1 (h:=tz 2 (h:=tz 3 (h:=tz 4 (h:=tz 5 (h:=tz 6 (h:=tz 7 (h:=tz 8 (h:=tz 9 (h:=tz 10 (h:=tz 11 (h:=?_))))))))))));refine tz 13 (h:=tz 14 (h:=?_));refine ry 12 λK hK=>?_;go_simp;have P:B9 n n.drew:=(BE _ _).drew;refine(b6 _ (m4.below P).1 hi aw).mono ?_;rintro e w5 ⟨rfl,b⟩;have b:B9 n w5:=AaD (BE _ _).drew b;have k:=r.keep (b.block c ah) (b.block g ag)<|b.block w.heap.size om;rw[z b8];refine hK.out _ _ k λ_=>?_;clear hK K r P;refine ry 15 λK hK=>?_;go_simp;refine(HC _<|b7.below b).mono ?_;rintro e w6 ⟨rfl,d⟩;have d:=o8 b d;have bm:=k.keep ((d.block c ah).trans (b.block c ah).symm) ((d.block g ag).trans (b.block g ag).symm)<|(d.block w.heap.size om).trans (b.block w.heap.size om).symm;obtain⟨gv,aj⟩:=o9<|Cg s.F (s.T t)<|BL (s.S i).key;rw[<-aj];have ca:=O aj;obtain⟨m6,d6⟩:=m4.below d;have ak:Iw w6<|w.heap.size+1:=(d.block _ om).trans ad;obtain⟨w7,Q,u⟩:=BB ak<|GI gv;have af:=z E w6 w7 (GI gv) m6 (a8.trans d6) ak u;have ar:=bm.keep (u.other c om) (u.other g om)<|u.other w.heap.size om;have au:=O Q;refine hK.out _ _ bm λ_=>?_;clear hK K k d m6 d6 ak Q aj;refine tz 16 (h:=?_);refine ry 17 λK hK=>?_;refine Bd rfl rfl _ au ?_;refine hK.out _ _ ar λ_=>?_;clear hK K;refine tz 18 (h:=?_);refine Fj ?_;have ae:=O<|u.Bw;go_wp2_with fail;refine GQ results143 underlying45 ae ?_;rw[z b4,<-z ca];exact af
def LC(ab a p t:Nat)(v:Vl)(A:Ad)(x:Tb)(W:Y):Prop:=W.cell? (G ab 1)=some (J (t:Int))/\W.cell? (G ab 9)=some (J v.kind)/\W.cell? (G ab 10)=some (J v.num)/\W.cell? (G ab 11)=some (F9 v.Af)/\W.cell? (G ab 12)=some (.string v.str)/\W.cell? (G ab 13)=some (J v.ref)/\
 W.cell? (G a 0)=some (.slice A.va x.nv A.vc)/\W.cell? (G a 1)=some (.slice A.la x.d.n A.lc)/\W.cell? (G a 2)=some (.slice A.ia x.d.m A.ic)/\W.cell? (G a 3)=some (.slice A.xa x.d.x A.xc)/\W.cell? (G a 4)=some (J x.d.used)/\W.cell? (G a 5)=some (J x.d.live)/\W.cell? (G a 6)=some (J x.d.turns)/\W.cell? (G a 7)=some (Q9 p)
def LC.keep{A}(h:LC ab b p t v A x W)(h1:W'.heap[ab]?=W.heap[ab]?)(h2:W'.heap[b]?=W.heap[b]?):LC ab b p t v A x W':=by
 have e1:∀q,W'.cell? (G ab q)=W.cell? (G ab q):=λq=>As (a:=G ab q) h1;have e2:∀q,W'.cell? (G b q)=W.cell? (G b q):=λq=>As (a:=G b q) h2;grind [LC]
def LD(ab t i:Nat)(v:Vl)(W:Y):Prop:=W.cell? (G ab 1)=some (J (t:Int))/\W.cell? (G ab 2)=some (J (i:Int))/\W.cell? (G ab 9)=some (J v.kind)/\W.cell? (G ab 10)=some (J v.num)/\W.cell? (G ab 11)=some (F9 v.Af)/\W.cell? (G ab 12)=some (.string v.str)/\W.cell? (G ab 13)=some (J v.ref)
def LD.keep(h:LD ab t i v W)(h1:W'.heap[ab]?=W.heap[ab]?):LD ab t i v W':=by
 have e1:∀q,W'.cell? (G ab q)=W.cell? (G ab q):=λq=>As (a:=G ab q) h1;grind [LD]
def bS s i t:((AY s i t).S i).key=(s.S i).key:=by
 show(AX s.S i (DS s i t) i).key=_;grind [AY,Ai,DS]
def Qw{Bk}(a:Ac)(t i:Nat){w}(hM:A6 Z w c B0 vN vT vS (N9) Bk A s)(hG:Ls s)(hT:B2 w)(et:a.t=t)(ht:t<s.nt)(ei:a.site=i)(hi:i<s.ns)(hv:a.v.ok=true)(b4:5<=B0):
  C9 144 #[Q9 c,Kz a] w λe w'=>Fz Z c B0 vN vT vS (if 0<=Bh s i t/\a.v.kind≠0 then BJ (AY s i t) t (Gn (s.T t) (Bh s i t).toNat a.v)else Ct (AY s i t) t (BL (s.S i).key) a.v) (if 0<=Bh s i t/\a.v.kind≠0 then BH 0 else BH (CE (AY s i t) t (BL (s.S i).key) a.v)) w e w':=by
 obtain⟨S',aj⟩:=o9<|if 0<=Bh s i t/\a.v.kind≠0 then BJ (AY s i t) t (Gn (s.T t) (Bh s i t).toNat a.v)else Ct (AY s i t) t (BL (s.S i).key) a.v;obtain⟨X,hX⟩:=o9<|if 0<=Bh s i t/\a.v.kind≠0 then BH 0 else BH (CE (AY s i t) t (BL (s.S i).key) a.v);rw[<-aj,<-hX];have ag:=O<|qj aj hX;clear aj hX;obtain⟨W,hW,ak,hA,hR,hz⟩:=boxes w a;have E:=hM.base;rcases hM.enter ak,hG.t t ht,hG.ns,hG.nt,hG.f with⟨⟨hE,b5⟩,hx,bd,bf,hf⟩;have aM:=PO.nv hx hf;have bb:=O<|Rt i t hE hf hi bd ht bf hx<|hG.si i hi;have b6:Hid (0<=Bh s i t->∃j q:Nat,(s.T t).shape=j/\j<s.nf/\Bh s i t=q/\q<(s.T t).nv/\Bc s.F j (s.S i).key=q):=O λh=>Js hG hi ht h;rcases O (Jt hG hi ht),GK (hG.si i hi).1,A1 _ _ hT ak,O hv,hA.all with⟨b7,b8,ca,cb,⟨a0,a1,a2,a3,a4,a5,a6,a7,a8,a9,bg,bh,a12,bj⟩⟩;rw[et]at a1;rw[ei]at a2;clear hM hG hT et ei ak hf hv;go_enter func144,ntmps144;go_upto_region 1 with fail
 rw[<-hW];clear hW;go_wp2_with fail;refine bb.mono ?_;rintro e w3 ⟨vs,h8,h1,rfl,bk,m3,d3⟩;rcases (d3.boxes hE hA<|.inr<|.inr<|.inr rfl),(d3.boxes hE hR<|.inr<|.inr<|.inl rfl),d3.size,JQ w3 (.cells vs.toArray 197) with⟨hab,bm,z3,⟨m,bn,D,_,ao⟩⟩;have ad:Hid<|(Instr.storeAt 197 (Q9 w3.heap.size)<|.agg vs.toArray).run prog (w3.alloc<|.cells EM 197)=.ok () m:=O (by rw[bn];exact fQ w3 h8 h1);obtain⟨m4,d4⟩:=m3.below D;have bp:=(b5.trans d3).trans d4;have aq:Iw m<|w.heap.size+1:=(D.block _ om).trans<|bm.trans hR;have ar:PU m w.heap.size a:=(D.block _ om).trans<|hab.trans hA;have ae:=(D.block _ om).trans hab;have eb:∀q,m.cell? (y w q)=W.cell? (y w q):=λq=>As (a:=y w q) ae;rcases (eb 1).trans a1,(eb 2).trans a2,(eb 9).trans a9,(eb 10).trans bg,(eb 11).trans bh,(eb 12).trans a12,(eb 13).trans bj,O bk,O ao with⟨b1,b2,b9,bq,br,bt,bu,cc,cg⟩;have ch:Hid<|B2 m:=O (by
  have h3:=ca.below (B:=B0) ⟨d3.os,d3.tape,d3.output,d3.size,λq hq=>d3.block q om (λe=>oS (hE.Pm e).1)⟩ om;exact A1 _ _ h3 D)
 rcases Ah ao,Ah ar,Ah aq with⟨z4,ah,bw⟩;clear m3 d3 hab bm D ao bn d4 ae eb bk a0 a1 a2 a3 a4 a5 a6 a7 a8 a9 bg bh a12 bj;by_cases b:0<=Bh s i t/\a.v.kind≠0
 .obtain⟨j,q,hj,c5,hq,cj,_⟩:=z b6 b.1;obtain⟨j',ck,bx⟩:=z cc b.1;have cl:j'=j:=om;subst cl;have au:decide (0<=Bh s i t)=true:=by simp[b.1]
  have cm:(a.v.kind !=0)=true:=by simp[b.2]
  have H:Hid<|S'=BJ (AY s i t) t (Gn (s.T t) q a.v)/\X=BH 0:=O (by rw[(z ag).1,(z ag).2,C3 b,C3 b,hq];exact⟨rfl,rfl⟩);have hr:m.heap[w3.heap.size]?=some (.cells (CJ (Bk j') (A t)<|s.T t).toArray 197 (0,0)):=by rw[<-bx];exact cg
  have hc:=EJ hr;have I:LC w.heap.size w3.heap.size (Bk j') t a.v (A t) (s.T t) m.drew:=⟨b1,b9,bq,br,bt,bu,hc 0 _ rfl,hc 1 _ rfl,hc 2 _ rfl,hc 3 _ rfl,hc 4 _ rfl,hc 5 _ rfl,hc 6 _ rfl,hc 7 _ rfl⟩;have cn:Hid<|FA m (A t).va (s.T t).nv (s.T t).V:=O (m4.rd t ht).now.1;have bz:bare (s.T t).d:=by
   rcases hx.way with⟨e,_⟩|⟨_,_,_,_,h,_⟩
   .omega
   exact h
  rcases O bz,O hr,O hj with⟨cq,cr,HJ⟩;rw[hq]at au ⊢;clear b hq hc hr bx hj ck bz;go_upto_region 3 with(refine Ag rfl rfl _ ad ?_)
  refine Gq (LC w.heap.size w3.heap.size (Bk j') t a.v (A t)<|s.T t) ?_;refine tz 0 (h:=tz 1 (h:=tz 2 (h:=tz 3 (h:=tz 4 (h:=tz 5 (h:=tz 6 (h:=?_)))))));refine ry 7 λK hK=>?_;go_simp;refine(Vg (Bk j') (A t) (s.T t) q a.v (cn.below (w':=m.drew) (B:=m.heap.size) (BE _ _).drew rfl) cj aM).mono ?_;rintro e w5 ⟨⟨gg,cp,rfl,C⟩,g⟩;have g:B9 m w5:=AaD (BE _ _).drew g;rcases I.keep (g.block _ ah) (g.block _ z4),m4.below g,(C.lt gg rfl).1 with⟨u,⟨m5,d5⟩,ct⟩;have L:Rd (OZ (ZB Z w.heap.size W.heap.size) B0 c vN vT vS w5) w5 {A t with va:=some (G gg 0),vc:=cp}<|Gn (s.T t) q a.v:=Rd.pZ (t:=Gn (s.T t) q a.v) C rfl (m5.Wk (w0:=m) (λk e=>by have:=m4.z k e;exact this) C ct) cq;have x:AL Bk {A t with va:=some (G gg 0),vc:=cp} (Gn (s.T t) q a.v)=.iface 197 (Cz (Bk j') {A t with va:=some (G gg 0),vc:=cp}<|Gn (s.T t) q a.v):=by
   unfold AL;rw[Cs (by show¬(s.T t).shape=-1;rw[z HJ];omega)];show Value.iface _ (Cz (Bk (s.T t).shape.toNat) _ _)=_;rw[z HJ];rfl
  have b0:=O<|Jc _ c B0 vN vT vS Bk A (AY s i t) t {A t with va:=some (G gg 0),vc:=cp} (Gn (s.T t) q a.v) w5 m5 ht bf L;rw[x]at b0;rcases O m5,O<|bp.trans d5,(g.block _ ah).trans ar,(g.block _ z4).trans cr with⟨av,cu,n,o⟩;have l:Iw w5<|w.heap.size+1:=(g.block _ bw).trans aq;have cv:=O<|qj n<|qj o l;refine hK.out _ _ u λ_=>?_;clear hK K I g m5 d5 C L x n o l;refine tz 8 (h:=?_);refine ry 9 λK hK=>?_;go_simp;refine b0.mono ?_;rintro e w6 ⟨⟨uu,rfl⟩,cw,m6,d6,cx,_⟩;obtain⟨n,o,l⟩:=z cv;have ai:=u.keep (d6.boxes av n<|.inr<|.inr<|.inr rfl)<|d6.boxes av o<|.inl rfl;have M:Iw w6<|w.heap.size+1:=(d6.boxes av l<|.inr<|.inr<|.inl rfl).trans l;obtain⟨w7,p,r⟩:=BB M<|BH 0;obtain⟨f1,f2⟩:=m6.Ki (cu.trans d6) E om om M r;have aw:Hid<|Fz Z c B0 vN vT vS (BJ (AY s i t) t<|Gn (s.T t) q a.v) (BH 0) w (.returned<|.tuple #[Hk (BH 0),CB 0]) w7:=O ⟨BH 0,0,_,_,_,_,rfl,f2,.inl ⟨rfl,rfl,Bk,_,f1⟩⟩;have P:=O p;have ax:=O r;refine hK.out _ _ ai λ_=>?_;clear hK K u m6 d6 cx n o l M p r f1 f2;refine Fj ?_;have ay:=O<|ax.Bw;go_wp2_with (refine Ag rfl rfl _ P ?_);refine GQ results144 underlying45 ay ?_;rw[(z H).1,(z H).2];exact aw
 have H:Hid<|S'=Ct (AY s i t) t (BL (s.S i).key) a.v/\X=BH (CE (AY s i t) t (BL (s.S i).key) a.v):=O (by rw[(z ag).1,(z ag).2,Cs b,Cs b];exact⟨rfl,rfl⟩);have I:LD w.heap.size t i a.v m.drew:=⟨b1,b2,b9,bq,br,bt,bu⟩;obtain⟨kv,x⟩:=o9<|BL (s.S i).key;have cy:=O<|MK (ZB Z w.heap.size W.heap.size) c B0 vN vT vS N9 Bk A (AY s i t) i;have cz:Hid<|BL ((AY s i t).S i).key=kv:=O (by rw[bS,x]);have cD:Hid<|∀w5,B9 m w5->C9 168 #[Q9 c,J (t:Int),GR kv,GR a.v] w5 λe w6=>e=.returned (CB<|CE (AY s i t) t kv a.v)/\w6.heap[w.heap.size]?=w5.heap[w.heap.size]?/\Iw w6 (w.heap.size+1)/\∀w7,Bj w6 w7 (w.heap.size+1) (LL<|BH 0).toArray 45->Fz Z c B0 vN vT vS (Ct (AY s i t) t kv a.v) (BH<|CE (AY s i t) t kv a.v) w (.returned<|.tuple #[Hk (BH 0),CB (CE (AY s i t) t kv a.v)]) w7:=O (λw5 h5=>by
  obtain⟨m5,d5⟩:=m4.below h5;refine(PK t kv a.v m5 b7 ht (A1 _ _ ch h5) (by rw[x];exact b8) cb (mF _ _) b4).mono ?_;intro e w6 hP;rcases id hP,(h5.block _ ah).trans ar,(h5.block _ bw).trans aq with⟨⟨c6,c7,c8,cw,he,hd,_⟩,cN,L⟩;have Q:Iw w6 (w.heap.size+1):=(hd.boxes m5 L (.inr (.inr (.inl rfl)))).trans L;exact⟨he,hd.boxes m5 cN (.inr (.inr (.inr rfl))),Q,λw7 h7=>Xn.qP (bp.trans d5) hP E om om Q h7⟩)
 have c0:=O x;have R:(0<=Bh s i t/\a.v.kind=0)\/¬0<=Bh s i t:=by
  by_cases h:0<=Bh s i t
  .exact .inl ⟨h,Classical.not_not.1 λe=>b ⟨h,e⟩⟩
  exact .inr h
 clear b x;obtain⟨fi,b3⟩:=o9<|Bh s i t;rw[<-b3]at R ⊢;clear b3;rcases R with⟨q1,q2⟩|q1
 case' inl=>
  have au:decide (0<=fi)=true:=by simp[q1]
  have cm:(a.v.kind !=0)=false:=by simp[q2]
  clear q1 q2
 case' inr=>
  have au:decide (0<=fi)=false:=by simp[q1]
  clear q1
 all_goals
  go_upto_region 5 with(refine Ag rfl rfl _ ad ?_)
  refine Gq (LD w.heap.size t i a.v) ?_;refine tz 0 (h:=tz 1 (h:=tz 2 (h:=tz 3 (h:=tz 4 (h:=tz 5 (h:=tz 6 (h:=tz 8 (h:=tz 9 (h:=?_)))))))));refine ry 7 λK hK=>?_;go_simp;have af:B9 m m.drew:=(BE _ _).drew;refine(cy _ (m4.below af).1 hi bd).mono ?_;rintro e w5 ⟨rfl,g⟩;have g:B9 m w5:=AaD (BE _ _).drew g;have u:=I.keep<|g.block _ ah;rw[z cz];have c3:=O g;refine hK.out _ _ u λ_=>?_;clear hK K I g af;refine ry 10 λK hK=>?_;go_simp;refine(cD _ c3).mono ?_;rintro e w6 ⟨rfl,hab,Q,U⟩;have ai:=u.keep hab;obtain⟨cd,az⟩:=o9<|CE (AY s i t) t kv a.v;rw[<-az]at U ⊢;have c4:=O az;obtain⟨w7,p,r⟩:=BB Q<|BH 0;have aw:=O<|U w7 r;rcases ai.keep (r.other _ om),O p,O r with⟨bc,P,ax⟩;refine hK.out _ _ ai λ_=>?_;clear hK K u hab Q U p r az;refine ry 11 λK hK=>?_;refine Bd rfl rfl _ P ?_;refine hK.out _ _ bc λ_=>?_;clear hK K;refine tz 12 (h:=?_);refine Fj ?_;have ay:=O<|ax.Bw;go_wp2_with fail;refine GQ results144 underlying45 ay ?_;rw[(z H).1,(z H).2,<-z c0];have h:=z aw;rw[z c4]at h ⊢;exact h
def XD{c}(h:c≠0):CB c=.iface 207 (.agg #[J c]):=by unfold CB;rw[Cs h]
section
section
variable {Z:Nat->Prop} {w w2 w3:Y} {c B0:Nat} {vN vT vS:V9} {Bk:Nat->Nat} {A:Nat->Ad} {s s':AK} {x0:An} {e:Ending}
def Fz.fin(b:BF (Az B0 c vN vT vS w) w (Az B0 c vN vT vS w2) w2)(h:Fz (ZB Z w.heap.size o) c B0 vN vT vS s' x0 w2 e w3)(d:B0<=w.heap.size)(f:w.heap.size<=m)(hz:m<o)(p:Iw w3 m):
  ∃x a,e=.returned (.tuple #[Hk x,CB a])/\∀w4,Bj w3 w4 m (LL x).toArray 45->Fz Z c B0 vN vT vS s' x0 w (.returned<|.tuple #[Hk x,CB a]) w4:=by
 obtain⟨x,a,g,i,j,k,r,q,h⟩:=h;refine⟨x,a,r,λw4 l=>?_⟩;rcases h with⟨e1,e2,n,A',m3⟩|⟨e1,e2,u3⟩
 .obtain⟨f1,f2⟩:=m3.Ki (b.trans q) d f hz p l;exact⟨x,a,g,i,j,k,rfl,f2,.inl ⟨e1,e2,n,A',f1⟩⟩
 obtain⟨f1,f2⟩:=u3.Ki (b.trans q) d f hz p l;exact⟨x,a,g,i,j,k,rfl,f2,.inr ⟨e1,e2,f1⟩⟩
def Fz.dst{s'}(h:Fz Z c B0 vN vT vS s' x0 w2 e w3):∃a b d,BF (Az B0 c vN vT vS w2) w2 (Az B0 c a b d w3) w3:=by
 grind [Fz,Az]
end
def EW(a:Ac):Prop:=∀(Z:Nat->Prop) (c B0:Nat) (vN vT vS:V9) (Bk:Nat->Nat) (A:Nat->Ad) (s:AK) (w:Y),A6 Z w c B0 vN vT vS (N9) Bk A s->Ls s->B2 w->IV a s.nt s.ns=0->Wf a.k->5<=B0->
  ∃F:Nat,(∀w,(Instr.index 204 Eh<|J a.op).run prog w=.ok (.agg #[J (tN a.op),.func (.func F) #[] #[]]) w)/\(∀args w,(callFunc F args).run prog w=.ok (.enter F args) w)/\∀w2,B9 w w2->C9 F #[Q9 c,Kz a] w2 λe w3=>Fz Z c B0 vN vT vS (BK s a) (Dk s a) w2 e w3
theorem nA(h:a.op=1):EW a:=by
 intro Z c B0 vN vT vS Bk A s w l j u hc m n;obtain⟨c1,c2,c3,c4⟩:=FY hc;obtain⟨r1,r2,v,x,B,C,D⟩:=CL c1;have g:∀w2,B9 w w2->A6 Z w2 c B0 vN vT vS N9 Bk A s:=λw2 h=>(l.below h).1;refine⟨136,by rw[h];exactλw=>ou,λargs w=>ou,λw2 h2=>?_⟩;have k:BK s a=if s.nt=100 then s else{s with nt:=s.nt+1,T:=AX s.T s.nt Lv}:=by unfold BK;rw[C3 h]
 have hN:Dk s a=if s.nt=100 then BH 5 else DI s.nt:=by unfold Dk;rw[C3 h]
 obtain⟨f1,_⟩:=Av j.f;refine(Qu a (g w2 h2) j.nt<|oS f1.1).mono ?_;rintro e w3 ⟨b,d,A',m3,d3,e1,e2⟩;by_cases hn:s.nt=100
 .obtain⟨e3,o,p,q,r,t⟩:=e2 hn;rw[k,hN,C3 hn,C3 hn];refine⟨BH 0,5,vN,b,vS,d,e3,d3,.inr ⟨oo,rfl,Bk,A',_,m3,.inr<|.inl ⟨s.nt,o,p,q,r,t,Nat.le_succ _,Nat.succ_pos _,by show s.nt+1<=200;omega,⟨rfl,rfl,rfl,rfl,λi hi=>?_,λ_ _=>rfl⟩⟩⟩⟩;exact Ak _ _ (by have hi:i<s.nt:=hi;omega)
 rw[k,hN,Cs hn,Cs hn];exact⟨DI s.nt,0,vN,b,vS,d,e1 hn,d3,.inl ⟨rfl,rfl,Bk,A',m3⟩⟩
theorem nC(h:a.op=2)(d:Mm (DA a.k) a.v):EW a:=by
 intro Z c B0 vN vT vS Bk A s w j l m hc e f;obtain⟨c1,c2,c3,c4⟩:=FY hc;obtain⟨r1,r2,q,n,r,u,x⟩:=CL c1;have g:∀w2,B9 w w2->A6 Z w2 c B0 vN vT vS N9 Bk A s:=λw2 h=>(j.below h).1;have i:∀w2,B9 w w2->B2 w2:=λw2 h=>A1 _ _ m h;have b:CV a.op=true->∃t:Nat,a.t=t/\t<s.nt/\a.t.toNat=t:=λh=>⟨a.t.toNat,om,oS<|c2 h,rfl⟩;refine⟨137,by rw[h];exactλw=>ou,λargs w=>ou,λw2 h2=>?_⟩;obtain⟨t,et,o,en⟩:=b (by simp[CV,h]);have p:BK s a=Ct s t (DA a.k) a.v:=by unfold BK;rw[Cs om,Cs om,C3 h,en]
 have hN:Dk s a=BH (CE s t (DA a.k) a.v):=by unfold Dk;rw[Cs om,Cs om,C3 h,en]
 rw[p,hN];exact gM a t (g w2 h2) l (i w2 h2) et o (KR e<|c4<|.inl h) n d f
theorem nD(h:a.op=3):EW a:=by
 intro Z c B0 vN vT vS Bk A s w l e m hc g n;obtain⟨c1,c2,c3,c4⟩:=FY hc;obtain⟨r1,r2,p,q,r,u,v⟩:=CL c1;have b:∀w2,B9 w w2->A6 Z w2 c B0 vN vT vS N9 Bk A s:=λw2 h=>(l.below h).1;have i:∀w2,B9 w w2->B2 w2:=λw2 h=>A1 _ _ m h;have d:CV a.op=true->∃t:Nat,a.t=t/\t<s.nt/\a.t.toNat=t:=λh=>⟨a.t.toNat,om,oS<|c2 h,rfl⟩;refine⟨138,by rw[h];exactλw=>ou,λargs w=>ou,λw2 h2=>?_⟩;obtain⟨t,et,j,en⟩:=d (by simp[CV,h]);have o:BK s a=s:=by unfold BK;rw[Cs om,Cs om,Cs om,Cs om,Cs om]
 have hN:Dk s a=GI (Cg s.F (s.T t)<|DA a.k):=by unfold Dk;rw[Cs om,Cs om,Cs om,Cs om,C3 h,en]
 rw[o,hN];refine m9 (gL a t (b w2 h2) e.f (e.t t j) (i w2 h2) et j e.nt<|KR g<|c4<|.inr h) λw3 hb=>?_;exact Fz.read (b w2 h2) hb _
theorem nE(h:a.op=4):EW a:=by
 intro Z c B0 vN vT vS Bk A s w j e k hc l m;obtain⟨c1,c2,c3,c4⟩:=FY hc;obtain⟨r1,r2,p,q,r,u,v⟩:=CL c1;have b:∀w2,B9 w w2->A6 Z w2 c B0 vN vT vS N9 Bk A s:=λw2 h=>(j.below h).1;have g:∀w2,B9 w w2->B2 w2:=λw2 h=>A1 _ _ k h;have d:CV a.op=true->∃t:Nat,a.t=t/\t<s.nt/\a.t.toNat=t:=λh=>⟨a.t.toNat,om,oS<|c2 h,rfl⟩;refine⟨139,by rw[h];exactλw=>ou,λargs w=>ou,λw2 h2=>?_⟩;obtain⟨t,et,i,en⟩:=d (by simp[CV,h]);have o:BK s a=s:=by unfold BK;rw[Cs om,Cs om,Cs om,Cs om,Cs om]
 have hN:Dk s a=mT ((Uv s t).next a.n):=by unfold Dk;rw[Cs om,Cs om,Cs om,Cs om,Cs om,Cs om,en];unfold Pl.ask;rw[C3 h];rfl
 rw[o,hN];refine m9 (Xa a t (b w2 h2) e.f (e.t t i) (g w2 h2) et i e.nt) λw3 hb=>?_;exact Fz.read (b w2 h2) hb _
theorem nF(h:a.op=5):EW a:=by
 intro Z c B0 vN vT vS Bk A s w i e j hc k l;obtain⟨c1,c2,c3,c4⟩:=FY hc;obtain⟨r1,r2,n,o,p,q,r⟩:=CL c1;have b:∀w2,B9 w w2->A6 Z w2 c B0 vN vT vS N9 Bk A s:=λw2 h=>(i.below h).1;have f:∀w2,B9 w w2->B2 w2:=λw2 h=>A1 _ _ j h;have d:CV a.op=true->∃t:Nat,a.t=t/\t<s.nt/\a.t.toNat=t:=λh=>⟨a.t.toNat,om,oS<|c2 h,rfl⟩;refine⟨140,by rw[h];exactλw=>ou,λargs w=>ou,λw2 h2=>?_⟩;obtain⟨t,et,g,en⟩:=d (by simp[CV,h]);have m:BK s a=s:=by unfold BK;rw[Cs om,Cs om,Cs om,Cs om,Cs om]
 have hN:Dk s a=DI (V4<|s.T t):=by unfold Dk;rw[Cs om,Cs om,Cs om,Cs om,Cs om,Cs om,en];unfold Pl.ask;rw[Cs om,Cs om,kM (e.t t g)];rfl
 rw[m,hN];refine m9 (Ve a t (b w2 h2) (e.t t g) (f w2 h2) et g e.nt) λw3 hb=>?_;exact Fz.read (b w2 h2) hb _
theorem nG(h:a.op=6):EW a:=by
 intro Z c B0 vN vT vS Bk A s w i e j hc k l;obtain⟨c1,c2,c3,c4⟩:=FY hc;obtain⟨r1,r2,n,o,p,q,r⟩:=CL c1;have b:∀w2,B9 w w2->A6 Z w2 c B0 vN vT vS N9 Bk A s:=λw2 h=>(i.below h).1;have f:∀w2,B9 w w2->B2 w2:=λw2 h=>A1 _ _ j h;have d:CV a.op=true->∃t:Nat,a.t=t/\t<s.nt/\a.t.toNat=t:=λh=>⟨a.t.toNat,om,oS<|c2 h,rfl⟩;refine⟨141,by rw[h];exactλw=>ou,λargs w=>ou,λw2 h2=>?_⟩;obtain⟨t,et,g,en⟩:=d (by simp[CV,h]);have m:BK s a=s:=by unfold BK;rw[Cs om,Cs om,Cs om,Cs om,Cs om]
 have hN:Dk s a=DI (Vz<|s.T t):=by unfold Dk;rw[Cs om,Cs om,Cs om,Cs om,Cs om,Cs om,en];unfold Pl.ask;rw[Cs om,C3 h,kK (e.t t g)];rfl
 rw[m,hN];refine m9 (Xb a t (b w2 h2) (e.t t g) (f w2 h2) et g e.nt) λw3 hb=>?_;exact Fz.read (b w2 h2) hb _
theorem nH(h:a.op=7):EW a:=by
 intro Z c B0 vN vT vS Bk A s w j l u hc m n;obtain⟨c1,c2,c3,c4⟩:=FY hc;obtain⟨r1,r2,v,x,B,C,D⟩:=CL c1;have f:∀w2,B9 w w2->A6 Z w2 c B0 vN vT vS N9 Bk A s:=λw2 h=>(j.below h).1;refine⟨142,by rw[h];exactλw=>ou,λargs w=>ou,λw2 h2=>?_⟩;have g:BK s a=if s.ns=50 then s else{s with ns:=s.ns+1,S:=AX s.S s.ns ⟨a.k.str,-1,0,0,0⟩}:=by unfold BK;rw[Cs om,C3 h]
 have hN:Dk s a=if s.ns=50 then BH 5 else DI s.ns:=by unfold Dk;rw[Cs om,C3 h]
 refine(S3 a (f w2 h2) l.ns).mono ?_;rintro e w3 ⟨b,d,m3,d3,e1,e2⟩;by_cases hn:s.ns=50
 .obtain⟨e3,o,p,q,r,t⟩:=e2 hn;rw[g,hN,C3 hn,C3 hn];refine⟨BH 0,5,vN,vT,b,d,e3,d3,.inr ⟨oo,rfl,Bk,A,_,m3,.inr<|.inr<|.inl ⟨s.ns,o,p,q,r,t,Nat.le_succ _,Nat.succ_pos _,by show s.ns+1<=200;omega,⟨rfl,rfl,rfl,rfl,λ_ _=>rfl,λi hi=>?_⟩⟩⟩⟩;exact Ak _ _ (by have hi:i<s.ns:=hi;omega)
 rw[g,hN,Cs hn,Cs hn];exact⟨DI s.ns,0,vN,vT,b,d,e1 hn,d3,.inl ⟨rfl,rfl,Bk,A,m3⟩⟩
theorem nI(h:a.op=8):EW a:=by
 intro Z c B0 vN vT vS Bk A s w k l m hc n f;obtain⟨c1,c2,c3,c4⟩:=FY hc;obtain⟨r1,r2,r,u,v,x,B⟩:=CL c1;have g:∀w2,B9 w w2->A6 Z w2 c B0 vN vT vS N9 Bk A s:=λw2 h=>(k.below h).1;have j:∀w2,B9 w w2->B2 w2:=λw2 h=>A1 _ _ m h;have b:CV a.op=true->∃t:Nat,a.t=t/\t<s.nt/\a.t.toNat=t:=λh=>⟨a.t.toNat,om,oS<|c2 h,rfl⟩;have d:El a.op=true->∃i:Nat,a.site=i/\i<s.ns/\a.site.toNat=i:=λh=>⟨a.site.toNat,om,oS<|c3 h,rfl⟩;refine⟨143,by rw[h];exactλw=>ou,λargs w=>ou,λw2 h2=>?_⟩;obtain⟨t,et,o,en⟩:=b (by simp[CV,h]);obtain⟨i,p,hi,e⟩:=d (by simp[El,h]);have q:BK s a=AY s i t:=by unfold BK;rw[Cs om,Cs om,Cs om,C3 h,en,e]
 have hN:Dk s a=GI (if 0<=Bh s i t then(s.T t).V (Bh s i t).toNat else Cg s.F (s.T t) (BL (s.S i).key)):=by unfold Dk;rw[Cs om,Cs om,Cs om,Cs om,Cs om,C3 h,en,e]
 rw[q,hN];exact Qv a t i (g w2 h2) l (j w2 h2) et o p hi f
theorem nJ(h:a.op=9):EW a:=by
 intro Z c B0 vN vT vS Bk A s w k l m hc n f;obtain⟨c1,c2,c3,c4⟩:=FY hc;obtain⟨r1,r2,u,o,x,B,C⟩:=CL c1;have g:∀w2,B9 w w2->A6 Z w2 c B0 vN vT vS N9 Bk A s:=λw2 h=>(k.below h).1;have j:∀w2,B9 w w2->B2 w2:=λw2 h=>A1 _ _ m h;have b:CV a.op=true->∃t:Nat,a.t=t/\t<s.nt/\a.t.toNat=t:=λh=>⟨a.t.toNat,om,oS<|c2 h,rfl⟩;have d:El a.op=true->∃i:Nat,a.site=i/\i<s.ns/\a.site.toNat=i:=λh=>⟨a.site.toNat,om,oS<|c3 h,rfl⟩;refine⟨144,by rw[h];exactλw=>ou,λargs w=>ou,λw2 h2=>?_⟩;obtain⟨t,et,p,en⟩:=b (by simp[CV,h]);obtain⟨i,q,hi,e⟩:=d (by simp[El,h]);have r:BK s a=if 0<=Bh s i t/\a.v.kind≠0 then BJ (AY s i t) t (Gn (s.T t) (Bh s i t).toNat a.v)else Ct (AY s i t) t (BL (s.S i).key) a.v:=by unfold BK;rw[Cs om,Cs om,Cs om,Cs om,C3 h,en,e]
 have hN:Dk s a=if 0<=Bh s i t/\a.v.kind≠0 then BH 0 else BH (CE (AY s i t) t (BL (s.S i).key) a.v):=by unfold Dk;rw[Cs om,Cs om,Cs om,C3 h,en,e]
 rw[r,hN];exact Qw a t i (g w2 h2) l (j w2 h2) et p q hi o f
def iQ a:EW a:=by
 by_cases h:1<=a.op/\a.op<=9
 .grind [EW,nA,nC,mF,nD,nE,nF,nG,nH,nI,nJ]
 intro Z c B0 vN vT vS Bk A s w e f g hc;obtain⟨c1,_⟩:=FY hc;obtain⟨_,_,_,_,_,b,d⟩:=CL c1;exact absurd ⟨b,d⟩ h
def Hr(ab:Nat)(a:Ac)(W:Y):Prop:=W.cell? (G ab 0)=some (J a.op)/\W.cell? (G ab 1)=some (J a.t)/\W.cell? (G ab 2)=some (J a.site)/\W.cell? (G ab 3)=some (J a.n)/\W.cell? (G ab 4)=some (J a.k.kind)/\W.cell? (G ab 5)=some (J a.k.num)/\W.cell? (G ab 6)=some (F9 a.k.Af)/\W.cell? (G ab 7)=some (.string a.k.str)/\W.cell? (G ab 8)=some (J a.k.ref)/\W.cell? (G ab 9)=some (J a.v.kind)/\W.cell? (G ab 10)=some (J a.v.num)/\W.cell? (G ab 11)=some (F9 a.v.Af)/\W.cell? (G ab 12)=some (.string a.v.str)/\W.cell? (G ab 13)=some (J a.v.ref)
def Hr.of(h:PU W ab a):Hr ab a W:=by
 obtain⟨a0,a1,a2,a3,a4,a5,e,f,g,a9,b,c,a12,d⟩:=h.all;grind [PU,Hr]
theorem bM x fn w:(Instr.field 203 (.agg #[J x,fn]) 1).run prog w=.ok fn w:=ou
attribute [local go_sem] bM
def gO{Bk}(D:A6 Z w c B0 vN vT vS (N9) Bk A s)(V:Ls s)(hT:B2 w)(X:Wf a.k)(ad:5<=B0)(hD:EW a):
  C9 60 #[Q9 c,Kz a] w λe w'=>Fz Z c B0 vN vT vS (AO s a) (Dd s a) w e w':=by
 have n:=O hD;clear hD;obtain⟨ta,tc,rfl⟩:=AE D.t;obtain⟨sa,sc,rfl⟩:=AE D.si;rcases V.nt,V.ns,boxes w a,D.lt,D.base with⟨ae,af,⟨W,hW,o,hA,hR,hz⟩,aM,j⟩;obtain⟨hE,H⟩:=D.enter o;obtain⟨_,c1,c2,_,_⟩:=hE.cells;obtain⟨a0,a1,a2,a3,a4,a5,a6,a7,a8,a9,ag,ah,a12,ai⟩:=hA.all;have aj:w.heap.size<W.heap.size:=om;have ak:c<W.heap.size:=om;have HT:=A1 _ _ hT o;clear D o hT;go_enter func60,ntmps60;go_wp2_with fail;rw[<-hW];clear hW;refine qr W ?_;(iterate 12 refine N (h:=?_));refine GC λK hK=>?_;go_simp;refine⟨_,λw' ao=>qk ao<|Yw a s.nt s.ns _ ae af,hK _ ?_⟩;clear hK K;refine N (h:=?_);refine GS ?_;intro w1 g;have z1:=g.size;clear a0 a1 a2 a3 a4 a5 a6 a7 a8 a9 ag ah a12 ai c1 c2 ak aj;by_cases hc:IV a s.nt s.ns=0
 case neg=>
  have b:Hid<|AO s a=s/\Dd s a=BH (IV a s.nt s.ns):=O (by unfold AO Dd;rw[Cs hc,Cs hc];exact⟨rfl,rfl⟩);have U:=O hc;clear hc;rw[XD (z U)];obtain⟨E,I⟩:=o9<|IV a s.nt s.ns;rw[<-I]at U b ⊢;clear I;have p:=hR.below g om;obtain⟨w4,d,f⟩:=BB p<|BH 0;obtain⟨m1,d1⟩:=hE.below g;have hu:P0 (ZB Z w.heap.size W.heap.size) w1 c B0 vN (.slice ta s.nt tc) (.slice sa s.ns sc) N9 s:=⟨Bk,A,s,m1,.inl ⟨rfl,NR.refl s⟩⟩;obtain⟨f1,f2⟩:=hu.Ki (H.trans d1) j om om p f;have q:Hid<|Fz Z c B0 vN (.slice ta s.nt tc) (.slice sa s.ns sc) s (BH E) w (.returned<|.tuple #[Hk (BH 0),.iface 207 (.agg #[J E])]) w4:=O ⟨BH 0,E,_,_,_,_,by rw[XD (z U)],f2,.inr ⟨U,rfl,f1⟩⟩;have r:=O d;have u:=O<|f.Bw;clear p d f m1 d1 hu f1 f2;go_wp2_with (refine Ag rfl rfl _ r ?_);refine GQ results60 underlying45 u ?_;rw[(z b).1,(z b).2];exact q
 have b:Hid<|AO s a=BK s a/\Dd s a=Dk s a:=O (by unfold AO Dd;rw[C3 hc,C3 hc];exact⟨rfl,rfl⟩);obtain⟨m1,d1⟩:=hE.below g;obtain⟨F,bb,bc,l⟩:=n _ c B0 vN _ _ Bk A s w1 m1 V (A1 _ _ HT g) hc X ad;have L:=hA.below g om;have aq:=hR.below g om;have ar:Hr w.heap.size a w1.drew:=Hr.of (W:=w1) L;rcases O m1,O<|H.trans d1,O l with⟨au,av,n⟩;rw[hc];clear hc m1 d1 l;have e0:CB 0=.nilIface:=rfl;rw[e0];clear e0;go_wp2_with fail;refine Gq (Hr w.heap.size a) ?_;refine tz 1 (h:=tz 2 (h:=tz 5 (h:=tz 6 (h:=?_))));refine ry 0 λK hK=>?_;go_simp;refine m9 (LP _) λw2 i=>?_;have i:B9 w1 w2:=AaD (BE _ _).drew i;have v:=L.below i om;rcases aq.below i om,Hr.of v,au.below i with⟨M,P,⟨m2,d2⟩⟩;rcases O m2,O<|av.trans d2,O v,O M,O (n w2 i) with⟨Q,aw,R,S,ax⟩;refine hK.out _ _ P λ_=>?_;clear hK K ar i m2 d2 v M;refine tz 3 (h:=tz 4 (h:=?_));refine ry 7 λK hK=>?_;go_simp;refine ax.mono ?_;intro e w3 hD;obtain⟨_,_,_,hd⟩:=hD.dst;have B:PU w3 w.heap.size a:=(hd.boxes Q R<|.inr<|.inr<|.inr rfl).trans R;have C:Iw w3<|w.heap.size+1:=(hd.boxes Q S<|.inr<|.inr<|.inl rfl).trans S;have ay:=Hr.of B;obtain⟨x,E,rfl,m⟩:=Fz.fin aw hD j om om C;obtain⟨w4,d,f⟩:=BB C x;have q:=O<|m w4 f;rcases Hr.of (W:=w4) ((f.other _ om).trans B),O d,O f with⟨T,r,az⟩;refine hK.out _ _ ay λ_=>?_;clear hK K P hD hd B C m d f;refine tz 8 (h:=tz 9 (h:=?_));refine ry 10 λK hK=>?_;refine Bd rfl rfl _ r ?_;refine hK.out _ _ T λ_=>?_;clear hK K;refine tz 11 (h:=?_);refine Fj ?_;have u:=O<|az.Bw;go_wp2_with fail;refine GQ results60 underlying45 u ?_;rw[(z b).1,(z b).2];exact q
end
def JO.dst{O'}(h:JO w)(a:BF Z w O' w')(b:¬Z 0):JO w':=
 (As<|a.block _ h.lt b).trans h
def mJ(Z:Nat->Prop)(c B0:Nat)(vN vT vS:V9)(s':AK)(x:An)(w:Y)(e:Ending)(w':Y):Prop:=
 e=.returned (Hk x)/\∃a b d f g A',A6 Z w' c B0 a b d f g A' s'/\BF (Az B0 c vN vT vS w) w (Az B0 c a b d w') w'
def gK{Bk}(P:A6 Z w c B0 vN vT vS vU Bk A s)(hG:Ls s)(hT:B2 w)(ai:Wf a.k)(aj:5<=B0)(r:JO w)(bf:0<B0)(hD:EW a):
  C9 28 #[Q9 c,Kz a] w λe w'=>mJ Z c B0 vN vT vS (AO s a) (Dd s a) w e w':=by
 rcases boxes w a,P.lt,P.base with⟨⟨W,hW,j,hA,hR,hz⟩,bg,d⟩;obtain⟨hE,Q⟩:=P.enter j;obtain⟨_,_,_,c3,cf⟩:=hE.cells;rcases cf 3,hE.rX (ua:=none) (un:=0) (uc:=0),o9 (W.setCell (G c 3) N9) with⟨f3,⟨mU,n⟩,⟨l,f⟩⟩;rw[<-f]at mU n;have b:∀k,k≠c->l.heap[k]?=W.heap[k]?:=λk hk=>by rw[f];exact At _ _ _ _<|by exact hk
 have R:PU l w.heap.size a:=(b _ om).trans hA;have S:Iw l<|w.heap.size+1:=(b _ om).trans hR;have T:B2 l:=by
  have t:=A1 _ _ hT j;exact t.below (B:=B0) ⟨n.os,n.tape,n.output,n.size,λq hq=>n.block q om λe=>oS (hE.Pm e).1⟩ om
 have ak:JO l:=(As (a:=G 0 0)<|b 0<|oS P.ge).trans<|r.below j r.lt;obtain⟨a0,a1,a2,a3,a4,a5,a6,a7,a8,a9,ao,aq,a12,ar⟩:=R.all;have au:=O<|gO mU hG T ai aj hD;clear hD;rcases O mU,O<|Q.trans n,O f with⟨U,av,V⟩;have z0:l.heap.size=W.heap.size:=by rw[f];simp
 have bh:w.heap.size+1<l.heap.size:=om;clear P hG hT r j hA hR hE Q mU n b R T cf z0 f;go_enter func28,ntmps28;go_upto_region 1 with fail
 rw[<-hW];clear hW;go_upto_region 2 with fail
 rw[<-z V];clear V c3 f3;go_wp2_with fail;refine au.mono ?_;rintro e w1 ⟨x,X,bj,bk,bm,bn,rfl,hd,g⟩;have aw:Iw w1<|w.heap.size+1:=(hd.boxes U S<|.inr<|.inr<|.inl rfl).trans S;rcases av.trans hd,O g,hd.size with⟨ad,ax,z1⟩;have ae:=O<|ak.dst hd λh=>oS (U.Pm h).1;clear hd g a0 a1 a2 a3 a4 a5 a6 a7 a8 a9 ao aq a12 ar;rw[show Hk x=qF x from rfl];have HF:Hid<|∀w4,w4=w1.alloc (.cells (LL x).toArray 45)->B9 w1 w4/\w4.heap[w1.heap.size]?=some (.cells (LL x).toArray 45 (0,0)):=O (λw4 h=>by
  exact⟨by rw[h];exact(BE _ _).alloc (Be _) _,by rw[h];exact DD _ _⟩)
 go_upto_region 3 with(refine Ag rfl rfl _ (WM w1 x) ?_)
 generalize af:w1.alloc (.cells (LL x).toArray 45)=w4;obtain⟨u,ag⟩:=z HF _ af.symm;rcases O ag,O u,u.size with⟨v,C,z4⟩;clear af u ag HF;go_wp2_with fail;refine m9 (VA X<|ae.below C<|by have:=ae.lt;exact this) λw5 D=>?_;have ay:=O<|(D.block _<|Ah v).trans v;have E:=O<|C.trans<|D.mono z4;have ah:=aw.below E om;have m:=O ah;clear D v C ah;rcases z ax with⟨t,hx,bp,A',m3⟩|⟨t,hx,u3⟩
 .have d0:(X !=0)=false:=by simp[t]
  obtain⟨m5,i⟩:=m3.below E;obtain⟨w6,o,F⟩:=BB m x;obtain⟨f1,f2⟩:=m5.Ki (ad.trans i) d om om m F;have H:Hid<|mJ Z c B0 vN vT vS (AO s a) (Dd s a) w (.returned<|Hk x) w6:=O ⟨by rw[hx],_,_,_,_,_,_,f1,f2⟩;have I:=O o;have K:=O<|F.Bw;have az:Hid<|w5.heap[w1.heap.size]?=some (.cells #[J x.code,J x.num,J x.key.kind,J x.key.num,F9 x.key.Af,.string x.key.str,J x.key.ref,J x.val.kind,J x.val.num,F9 x.val.Af,.string x.val.str,J x.val.ref] 45 (0,0)):=O ay;clear t hx m3 m5 i o F f1 f2;go_wp2_with (first|(refine Aal rfl 45 _ rfl w1.heap.size rfl _ _ _ _ az underlying45 rfl ou ?_)|(refine Ag rfl rfl _ I ?_));refine FD results28 underlying45 K H
 have d0:(X !=0)=true:=by simp[t]
 obtain⟨u5,i⟩:=u3.below E;rcases O (Z3 u5),O hx,O<|ad.trans i,O u5 with⟨aM,bb,bc,bd⟩;clear t hx u3 u5 i;go_wp2_with fail;refine aM.mono ?_;rintro e w6 ⟨⟨uu,rfl⟩,bq,br,bt,bu,A2,m6,d6⟩;obtain⟨_,_,_,mu,_⟩:=z bd;have L:Iw w6<|w.heap.size+1:=(d6.boxes mu m<|.inr<|.inr<|.inl rfl).trans m;obtain⟨w7,p,M⟩:=BB L<|BH X;obtain⟨f1,f2⟩:=m6.Ki (bc.trans d6) d om om L M;have H:Hid<|mJ Z c B0 vN vT vS (AO s a) (Dd s a) w (.returned<|Hk<|BH X) w7:=O ⟨qg bb,_,_,_,_,_,_,f1,f2⟩;have I:=O p;have K:=O<|M.Bw;clear m6 d6 mu L p M f1 f2;go_wp2_with (refine Ag rfl rfl _ I ?_);refine FD results28 underlying45 K H
def gC w:(sizeOf 42).run prog w=.ok 3 w:=ou
def rC:(prog.info? 42).map (·.size)=some 3:=ou
abbrev uM:Array Value:=#[N9,N9,N9]
def VU{Bk}{A}(hf:Aq s.nf s.F=0)(a:PO s x):
  (AL Bk A x=.iface 194 (KC A x)/\∀w,KA w s B0 Bk->FA w A.va x.nv x.V->Ea w A.la A.ia A.xa x.d->C9 270 #[KC A x] w λe w'=>Yr x w e w')\/
  (∃p,AL Bk A x=.iface 197 (Cz p A x)/\∀w,KA w s B0 Bk->FA w A.va x.nv x.V->Ea w A.la A.ia A.xa x.d->C9 293 #[Cz p A x] w λe w'=>Yr x w e w'):=by
 rcases a.way with⟨h1,h2,h3⟩|⟨j,h1,h2,h3,h4,h5⟩
 .exact .inl ⟨C3 h1,λw _ _ b=>Lq A x h1 h2 b a.small⟩
 refine .inr ⟨Bk j,?_,λw hn c _=>Nh A x j hn h2 h1 (PO.nv a hf) h4 c⟩;unfold AL;rw[Cs om,h1];rfl
structure Hu (w:Y) (b:Nat) (vF vT vS:V9) (s:AK) (n k:Nat) (H:Nat->Hs) (L:Nat->Nat) (wr:Y):Prop where
 box:wr.heap[b]?=some (.cells #[vF,vT,vS] 42 (0,0))
 res:wr.heap[w.heap.size]?=some (.cells uM 42 (0,0))
 lt:w.heap.size<b
 CX:B9 w wr
 f:EO wr w.heap.size vF n s.F
 si:Mn wr w.heap.size vS s.ns s.S
 t:wr.ownsRow w.heap.size 105 8 vT k<|Je (λi=>SK (H i)<|s.T i) k
 rows:∀i,i<k->PQ (L i) (L<|i+1) wr (H i) (s.T i)
 lo:w.heap.size<=L 0
 mono:∀i,i<k->L i<=L (i+1)
 hi:L k<=wr.heap.size
def Lr.type{f}{v}(h:Lr f n w v lo hi){b}(e:v.ownBlock=some b):∃cs,w.heap[b]?=some (.cells cs 166 (0,0)):=by
 rcases h with⟨_,rfl⟩|⟨b',a,Z,g,rfl,h2,h3,⟨c,hc,_⟩,_⟩
 .cases e
 cases e;exact⟨_,hc⟩
def PR.type{f}{v}(h:PR f n w v lo hi){b}(e:v.ownBlock=some b):∃cs,w.heap[b]?=some (.cells cs 43 (0,0)):=by
 rcases h with⟨_,rfl⟩|⟨b',a,Z,g,rfl,h2,h3,⟨c,hc,_⟩,_⟩
 .cases e
 cases e;exact⟨_,hc⟩
def Iv.type{f}{v}(h:Iv f n w v lo hi){b}(e:v.ownBlock=some b):∃cs,w.heap[b]?=some (.cells cs 3 (0,0)):=by
 rcases h with⟨_,rfl⟩|⟨b',a,Z,g,rfl,h2,h3,⟨c,hc,_⟩,_⟩
 .cases e
 cases e;exact⟨_,hc⟩
def PQ.type{h}{t}(H:PQ lo hi w h t){q}(e:h.own q):∃cs ty,w.heap[q]?=some (.cells cs ty (0,0))/\(ty=43\/ty=166\/ty=3):=by
 rcases e with e|e|e|e
 .obtain⟨cs,h⟩:=H.v.type e;exact⟨cs,_,h,.inl rfl⟩
 .obtain⟨cs,h⟩:=H.l.type e;exact⟨cs,_,h,.inr<|.inl rfl⟩
 .obtain⟨cs,h⟩:=H.i.type e;exact⟨cs,_,h,.inr<|.inr rfl⟩
 obtain⟨cs,h⟩:=H.x.type e;exact⟨cs,_,h,.inr<|.inr rfl⟩
section
variable {w:Y} {b:Nat} {vF vT vS:V9} {s:AK} {n k:Nat} {H:Nat->Hs} {L:Nat->Nat} {wr w' X w3:Y}
def Hu.below(h:Hu w b vF vT vS s n k H L wr)(hb:B9 wr w'):Hu w b vF vT vS s n k H L w':=
 ⟨(hb.block _<|Ah h.box).trans h.box,(hb.block _<|Ah h.res).trans h.res,h.lt,o8 h.CX hb,Wo h.f hb,Wo h.si hb,Wo h.t hb,λi hi=>(h.rows i hi).keep λq e=>hb.block q ((h.rows i hi).own e).2.2,h.lo,h.mono,GP h.hi hb.size⟩
def Hu.shape(h:Hu w b vF vT vS s n k H L wr)(A:B9 wr X)(g:X.grownBy w3 vF.ownBlock){g3 c}(d:w3.ownsRow w.heap.size 142 3 (S9 g3 (n+1) c) (n+1)<|Ta s.F n++[J (s.F n).parent,.string (s.F n).key,J (s.F n).count])(j:vF.ownBlock=some g3\/X.heap.size<=g3):
  w3.heap[b]?=some (.cells #[vF,vT,vS] 42 (0,0))/\Hu w b (S9 g3 (n+1) c) vT vS s (n+1) k H L (w3.setCell (G b 0)<|S9 g3 (n+1) c):=by
 have a:=h.below A;have p:∀(q:Nat) (cs:Array Value) (ty:TypeId),X.heap[q]?=some (Obj.cells cs ty (0,0))->ty≠142->w3.heap[q]?=X.heap[q]?:=λq cs ty hq B=>g.block q (Ah hq) (λe=>by
  obtain⟨cur,hc,_⟩:=AV a.f e.symm;rw[hc]at hq;cases hq;exact B rfl)
 have o:∀q,q≠b->(w3.setCell (G b 0)<|S9 g3 (n+1) c).heap[q]?=w3.heap[q]?:=λq hq=>At _ _ _ _ (by exact hq);have l:=(p _ _ _ a.box oo).trans a.box;have C:=Ah a.box;have r:g3≠b:=λe=>by
  rcases j with h1|h1
  .obtain⟨cur,hc,_⟩:=AV a.f h1;rw[e,a.box]at hc;cases hc
  omega
 have u:∀{e Z m:Nat} {v:V9} {xs:List Value},X.ownsRow w.heap.size e Z v m xs->e≠142->e≠42->(w3.setCell (G b 0)<|S9 g3 (n+1) c).ownsRow w.heap.size e Z v m xs:=λx h1 h2=>Ab x (λq e=>by
  obtain⟨cur,hc,_⟩:=AV x e;exact(o q (λe'=>by rw[e',a.box]at hc;cases hc;exact h2 rfl)).trans (p _ _ _ hc h1))
 have hz:=g.size;refine⟨l,⟨(Lo _ _ _ _ _ _ l).trans oq,(o _<|oS h.lt).trans<|(p _ _ _ a.res oo).trans a.res,h.lt,?_,?_,u a.si oo oo,u a.t oo oo,λi hi=>(a.rows i hi).keep λq e=>?_,h.lo,h.mono,by have:=a.hi;simp;omega⟩⟩
 .refine NO ?_ (by show w.heap.size<=b;have:=h.lt;omega) _;exact⟨g.os.trans a.CX.os,g.tape.trans a.CX.tape,g.output.trans a.CX.output,oS a.CX.size,λq hq=>(g.block q (oS a.CX.size) λe=>oS (a.f.lt q e.symm).1).trans<|a.CX.block q hq⟩
 .rw[Pv s.F n (s.F n) rfl]at d;exact Ab d λq e=>o q<|by cases e;exact r
 obtain⟨cs,ty,hc,hty⟩:=(a.rows i hi).type e;grind [Ta,Hu.box]
def Hu.table(h:Hu w b vF vT vS s n k H L wr)(A:B9 wr X){g}(I:PQ wr.heap.size X.heap.size X g<|s.T k)(d:X.grownBy w3 vT.ownBlock){g3 c}(j:w3.ownsRow w.heap.size 105 8 (S9 g3 (k+1) c) (k+1)<|Je (λi=>SK (H i)<|s.T i) k++SK g (s.T k))(l:vT.ownBlock=some g3\/X.heap.size<=g3):
  w3.heap[b]?=some (.cells #[vF,vT,vS] 42 (0,0))/\Hu w b vF (S9 g3 (k+1) c) vS s n (k+1) (AX H k g) (λi=>if i<=k then(if i=k then wr.heap.size else L i)else X.heap.size) (w3.setCell (G b 1)<|S9 g3 (k+1) c):=by
 have a:=h.below A;have u:∀(q:Nat) (cs:Array Value) (ty:TypeId),X.heap[q]?=some (Obj.cells cs ty (0,0))->ty≠105->w3.heap[q]?=X.heap[q]?:=λq cs ty hq C=>d.block q (Ah hq) (λe=>by
  obtain⟨cur,hc,_⟩:=AV a.t e.symm;rw[hc]at hq;cases hq;exact C rfl)
 have o:∀q,q≠b->(w3.setCell (G b 1)<|S9 g3 (k+1) c).heap[q]?=w3.heap[q]?:=λq hq=>At _ _ _ _ (by exact hq);have p:=(u _ _ _ a.box oo).trans a.box;have D:=Ah a.box;have x:g3≠b:=λe=>by
  rcases l with h1|h1
  .obtain⟨cur,hc,_⟩:=AV a.t h1;rw[e,a.box]at hc;cases hc
  omega
 have B:∀{e Z m:Nat} {v:V9} {xs:List Value},X.ownsRow w.heap.size e Z v m xs->e≠105->e≠42->(w3.setCell (G b 1)<|S9 g3 (k+1) c).ownsRow w.heap.size e Z v m xs:=λr h1 h2=>Ab r (λq e=>by
  obtain⟨cur,hc,_⟩:=AV r e;exact(o q (λe'=>by rw[e',a.box]at hc;cases hc;exact h2 rfl)).trans (u _ _ _ hc h1))
 have hz:=d.size;have E:∀{lo hi:Nat} {hq:Hs} {t:Tb},PQ lo hi X hq t->PQ lo hi (w3.setCell (G b 1)<|S9 g3 (k+1) c) hq t:=λr=>r.keep (λq e=>by
  obtain⟨cs,ty,hc,hty⟩:=r.type e;refine(o q λe'=>?_).trans (u _ _ _ hc ?_)
  .rw[e',a.box]at hc;cases hc;rcases hty with h|h|h<;>cases h
  rcases hty with rfl|rfl|rfl<;>decide)
 refine⟨p,⟨(Lo _ _ _ _ _ _ p).trans oq,(o _<|oS h.lt).trans<|(u _ _ _ a.res oo).trans a.res,h.lt,?_,B a.f oo oo,B a.si oo oo,?_,λi hi=>?_,?_,λi hi=>?_,?_⟩⟩
 .refine NO ?_ (by show w.heap.size<=b;have:=h.lt;omega) _;exact⟨d.os.trans a.CX.os,d.tape.trans a.CX.tape,d.output.trans a.CX.output,oS a.CX.size,λq hq=>(d.block q (oS a.CX.size) λe=>oS (a.t.lt q e.symm).1).trans<|a.CX.block q hq⟩
 .have e:Je (λi=>SK (AX H k g i)<|s.T i) (k+1)=Je (λi=>SK (H i)<|s.T i) k++SK g (s.T k):=by grind [Je,SK,AX,Ai,C6,Ak]
  rw[e];exact Ab j λq e=>o q<|by cases e;exact x
 .grind [Je,SK,AX,Ai,Ak,Hu.hi,Hu.rows,PQ.wide]
 .show w.heap.size<=if 0<=k then(if 0=k then wr.heap.size else L 0)else X.heap.size
  rw[C3 (W9 _)];split
  .exact h.CX.size
  exact h.lo
 .have F:=h.hi;show(if i<=k then(if i=k then wr.heap.size else L i)else X.heap.size)<=(if i+1<=k then(if i+1=k then wr.heap.size else L (i+1))else X.heap.size);rw[C3 om];by_cases e:i=k
  .rw[C3 e,Cs om];exact A.size
  rw[Cs e,C3 om];by_cases e2:i+1=k
  .rw[C3 e2];have h3:=h.mono i om;rw[e2]at h3;omega
  rw[Cs e2];exact h.mono i om
 show(if k+1<=k then(if k+1=k then wr.heap.size else L (k+1))else X.heap.size)<=_;rw[Cs om];simp;omega
def Hu.whole(h:Hu w b vF vT vS s s.nf s.nt H L wr)(hn:0<s.nf){w4}(c:Bj wr w4 w.heap.size #[vF,vT,vS] 42):MR w.heap.size w4.heap.size w4 vF vT vS s H/\B9 w w4:=by
 have D:∀{e Z m:Nat} {v:V9} {xs:List Value},wr.ownsRow w.heap.size e Z v m xs->e≠42->w4.ownsRow w.heap.size e Z v m xs:=λr h1=>Ab r (λq e=>by
  obtain⟨cur,hc,_⟩:=AV r e;exact c.other q (λe'=>by rw[e',h.res]at hc;cases hc;exact h1 rfl))
 have a:∀i,i<s.nt->PQ (L i) (L<|i+1) w4 (H i) (s.T i):=λi hi=>(h.rows i hi).keep (λq e=>c.other q (λe'=>by
  obtain⟨cs,ty,hc,hty⟩:=(h.rows i hi).type e;rw[e',h.res]at hc;cases hc;rcases hty with h|h|h<;>cases h))
 have hmono:∀i j,i<=j->j<=s.nt->L i<=L j:=λi j I=>by
  induction j with
  |zero=>
   intro _;have:i=0:=om;subst this;exact Be _
  |succ j ih=>
   intro hj;by_cases e:i=j+1
   .subst e;exact Be _
   exact GP (ih om om)<|h.mono j om
 have g:∀i,i<s.nt->PQ w.heap.size w4.heap.size w4 (H i) (s.T i):=λi hi=>(a i hi).wide (GP h.lo<|hmono 0 i (W9 _) om) (by
  rw[c.size];exact GP (hmono (i+1) s.nt om (Be _)) h.hi)
 have n:=D h.t oo;have A:=D h.f oo;have B:=D h.si oo;have E:∀i q,i<s.nt->(H i).own q->∀{e Z m:Nat} {v:V9} {xs:List Value},w4.ownsRow w.heap.size e Z v m xs->e≠43->e≠166->e≠3->v.ownBlock≠some q:=λi q hi hq e Z m v xs r h1 h2 h3 k=>by
  obtain⟨cs,ty,hc,hty⟩:=(a i hi).type hq;obtain⟨cur,o,_⟩:=AV r k;rw[hc]at o;cases o;rcases hty with h|h|h
  .exact h1 h
  .exact h2 h
  exact h3 h
 have d:∀i j q,i<s.nt->j<s.nt->(H i).own q->(H j).own q->i=j:=λi j q hi hj h1 h2=>by
  have a1:=(a i hi).own h1;have a2:=(a j hj).own h2;rcases Nat.lt_trichotomy i j with h3|h3|h3
  .have:=hmono (i+1) j om om;omega
  .exact h3
  have:=hmono (j+1) i om om;omega
 refine⟨⟨GV.of A hn,?_,Vk.of B,λq e=>Cd A n oo e,λq e=>Cd A B oo e,λq i e hi k=>E i q hi k A oo oo oo e,λq e=>Cd B n oo e,λq i e hi k=>E i q hi k B oo oo oo e⟩,c.below h.CX<|Be _⟩;obtain⟨hl,⟨F,K⟩|⟨g',cap,cur,F,hb,p,h1,h2,h3,h4⟩⟩:=id n
 .exact .inl ⟨K,F⟩
 subst F;refine .inr ⟨g',cap,cap*8,λj=>(cur[j]?).getD undef,rfl,hb,(n.lt g' rfl).2,⟨cur,p,h3,λi hi=>by simp[UP (show i<cur.size by omega)]⟩,om,λi hi=>?_,⟨λi hi k=>E i g' hi k n oo oo oo rfl,d,λi q hi=>(a i hi).vl q,λi q hi=>(a i hi).vi q,λi q hi=>(a i hi).vx q,λi q hi=>(a i hi).li q,λi q hi=>(a i hi).lx q,λi q hi=>(a i hi).ix q⟩⟩;have hc:∀j u,(SK (H i)<|s.T i)[j]?=some u->w4.cell? (G g'<|i*8+j)=some u:=λj u hu=>by
  have hj:j<8:=(So.1 hu).1;rw[Ok n (i*8+j) om,Ik (m:=8) (λ_=>rfl) hi hj,hu]
 have C:=g i hi;exact⟨hc 0 _ rfl,hc 1 _ rfl,hc 2 _ rfl,hc 3 _ rfl,hc 4 _ rfl,hc 5 _ rfl,hc 6 _ rfl,hc 7 _ rfl,C.v,C.l,C.i,C.x⟩
end
def Hq(nb:Nat)(p:A9)(W:Y):Prop:=W.cell? (G nb 1)=some (J p.parent)/\W.cell? (G nb 2)=some (.string p.key)/\W.cell? (G nb 3)=some (J p.count)
def Hq.keep{nb}{p}(h:Hq nb p W)(hk:W'.heap[nb]?=W.heap[nb]?):Hq nb p W':=
 ⟨(As (a:=G nb 1) hk).trans h.1,(As (a:=G nb 2) hk).trans h.2.1,(As (a:=G nb 3) hk).trans h.2.2⟩
def Nk(_:Y):Prop:=True
def KA.shape{b0}{B}(h:KA w s b0 B){j}(hj:j<s.nf):Hq (B j) (s.F j) w/\∃cs,w.heap[B j]?=some (.cells cs 145 (0,0)):=by
 obtain⟨Z,M,h1,h2⟩:=h;have a:=h1.node j hj<|h2 j hj;refine⟨⟨a.cell (i:=1) om,a.cell (i:=2) om,a.cell (i:=3) om⟩,?_⟩;obtain⟨c,hc,_⟩:=a;exact⟨c,hc⟩
def A6.rL{Bk}(h:A6 Z w c B0 vN vT vS vU Bk A s)(hn:0<s.nf):∃g d,vN=.slice (some<|G g 0) s.nf d/\g<w.heap.size/\∀i,i<s.nf->w.cell? (G g i)=some (.pointer<|some<|G (Bk i) 0):=by
 obtain⟨hl,⟨b,e⟩|⟨g,cap,cur,b,hb,a,h1,h2,h3,h4⟩⟩:=h.n
 .omega
 exact⟨g,cap,b,(E1.1 a).1,λi hi=>by rw[Ok (b▸h.n) i om,K7 hi]⟩
def Xc{Bk}(hM:A6 Z w c B0 vN vT vS vU Bk A s)(hG:Ls s):
  C9 29 #[Q9 c] w λe w'=>(∃vF bc r H,e=.returned (.agg #[vF,bc,r])/\MR w.heap.size w'.heap.size w' vF bc r s H)/\B9 w w':=by
 rcases ON G5,ON JA,ON JB,Av hG.f with⟨⟨i0,bu,bw,bz,b1⟩,⟨k0,b2,b3,b4,b5⟩,⟨t0,b6,b7,b8,b9⟩,⟨f1,_⟩⟩;have aj:0<s.nf:=oS f1.1;rcases f1.2,hG.ns,hG.nt with⟨cq,cr,ct⟩;obtain⟨gN,cN,rfl,ca,bd⟩:=hM.rL aj;obtain⟨ta,tc,rfl⟩:=AE hM.t;obtain⟨sa,sc,rfl⟩:=AE hM.si;obtain⟨W,hW,aw,cb,b0⟩:=JQ w<|.cells uM 42;have ax:=(hM.below aw).1;rcases ax.cells.2.2.1,O<|Mn.news ax.si,O bd with⟨c2,bf,cc⟩;have a7:w.heap.size<=W.heap.size:=om;have bg:Hid<|∀a1 c1 w1,w1.ownsRow w.heap.size 107 5 (.slice a1 s.ns c1) s.ns (Jk s.S s.ns)->W.grownBy w1 none->(∀q,(Value.slice a1 s.ns c1).ownBlock=some q->q=w.heap.size+1)->Hu w w1.heap.size N9 N9 (.slice a1 s.ns c1) s 0 0 (λ_=>⟨.nilFunc,.nilFunc,.nilFunc,.nilFunc⟩) (λ_=>w.heap.size) (w1.alloc<|.cells #[N9,N9,.slice a1 s.ns c1] 42):=O (by
  intro a1 c1 w1 h1 h2 h3;have V:=Jv aw om h2;have hz:=h2.size;have B:B9 w (w1.alloc (.cells #[N9,N9,.slice a1 s.ns c1] 42)):=V.alloc V.size _;refine⟨DD _ _,(DO _ _ _ om).trans ((h2.block _ om oq).trans b0),om,B,NB _ _ _ _,OR h1 _,NB _ _ _ _,λi hi=>absurd hi (Tn _),Be _,λi hi=>absurd hi (Tn _),B.size⟩)
 clear ax bd aw b0;go_enter func29,ntmps29;go_upto_region 1 with fail
 rw[<-hW];clear hW;go_upto_region 2 with(at_builtin;refine CF rfl _ _ 40 rfl w.heap.size 107 i0 (.agg #[E9,J 0,J 0,J 0,J 0]) 5 48 underlying40 bu bw bz b1 rfl oo rfl sa s.ns sc (Jk s.S s.ns) rfl (Gk _ _) bf (SD _ _) od om a7 (w.heap.size+1) cb ?_;intro a1 c1 w1 X ae ad;have HI:=O<|bg a1 c1 w1 X ae ad;have zz:=ae.size;clear X ae ad)
 obtain⟨w2,bh⟩:=o9<|w1.alloc<|.cells #[N9,N9,.slice a1 s.ns c1] 42;rw[<-bh]at HI ⊢;obtain⟨j,bj⟩:=o9 w1.heap.size;rw[<-bj]at HI ⊢;obtain⟨r,ak⟩:=o9<|Value.slice a1 s.ns c1;rw[<-ak]at HI;have cp:=HI.lt;have c0:=((hM.below HI.CX).1).cells.1;clear bh bj ak c2 bg bf zz;go_wp2_with fail;go_loopw [20] (λi wr=>∃(k:Nat) (vF:V9),k<=s.nf/\i=J k/\Hu w j vF N9 r s k 0 (λ_=>⟨.nilFunc,.nilFunc,.nilFunc,.nilFunc⟩) (λ_=>w.heap.size) wr) λi _=>s.nf-(intOf i).toNat
 .exact⟨0,_,om,rfl,HI⟩
 clear HI c0;obtain⟨k,vF,hk,rfl,a⟩:=hrel;rcases (hM.below a.CX).1,O a,a.CX.size with⟨C,U,bk⟩;by_cases u:k<s.nf
 ·
  obtain⟨ay,cs,hcs⟩:=KA.shape C.nd u;have xN:=oT a.CX ca<|cc k u;have bm:=Ah hcs;obtain⟨P,Q,rfl⟩:=AE a.f;have g:=a.box;have y0:wr.cell? (G j 0)=some (.slice P k Q):=by simp[World.cell?,g]
  have az:=Ah g;have cd:Bk k≠j:=λe=>by rw[e,g]at hcs;cases hcs
  have ao:Hq (Bk k) (s.F k) wr.drew:=ay;have ar:B9 wr<|(wr.alloc<|.cells #[J (s.F k).parent,.string (s.F k).key,J (s.F k).count] 142).drew:=(n9).drew;rcases ay.keep (ar.block _ bm),oT ar az y0,O a.f with⟨D,yX,au⟩;have HF:Hid (∀g3 b w3,w3.ownsRow w.heap.size 142 3 (S9 g3 (k+1) b) (k+1) (Ta s.F k++[J (s.F k).parent,.string (s.F k).key,J (s.F k).count])->(wr.alloc<|.cells #[J (s.F k).parent,.string (s.F k).key,J (s.F k).count] 142).drew.grownBy w3 (Value.ownBlock<|.slice P k Q)->(Value.ownBlock (.slice P k Q)=some g3\/g3=(wr.alloc<|.cells #[J (s.F k).parent,.string (s.F k).key,J (s.F k).count] 142).drew.heap.size)->
    Hq (Bk k) (s.F k) w3/\Hq (Bk k) (s.F k) (w3.setCell (G j 0) (S9 g3 (k+1) b))/\w3.cell? (G j 0)=some (.slice P k Q)/\w3.frozen? (G j 0)=false/\j<w3.heap.size/\Hu w j (S9 g3 (k+1) b) N9 r s (k+1) 0 (λ_=>⟨.nilFunc,.nilFunc,.nilFunc,.nilFunc⟩) (λ_=>w.heap.size) (w3.setCell (G j 0) (S9 g3 (k+1) b))):=O (by
   intro g3 b w3 h1 h2 h3;obtain⟨p1,p2⟩:=a.shape ar h2 h1<|h3.imp id λe=>om;have af:Hq (Bk k) (s.F k) w3:=D.keep (h2.block _ (A0 bm ar.size) (λe=>by
    obtain⟨cur,hc,_⟩:=AV a.f e.symm;rw[hc]at hcs;cases hcs))
   exact⟨af,af.keep (At _ _ _ _ (by exact cd)),by simp[World.cell?,p1],by simp[World.frozen?,p1],Ah p1,p2⟩)
  clear C a ay hcs g U;go_wp2_with fail;refine Gq (Hq (Bk k)<|s.F k) ?_;refine tz 0 (h:=tz 1 (h:=tz 3 (h:=tz 4 (h:=tz 5 (h:=tz 6 (h:=?_))))));refine TO (rs:=[2,7]) ou oq ?_;refine IH rfl (λK hK=>?armA) (IH rfl (λK hK=>?armB) SO)
  case' armA=>
   go_simp;refine hK.out _ _ ao λ_=>?_;clear hK K;refine ry 7 λK hK=>?_;go_simp;refine hK.out _ _ D λbn=>?_;clear hK K
  case' armB=>
   go_simp;refine hK.out _ _ D λbn=>?_;clear hK K;refine ry 2 λK hK=>?_;go_simp;refine hK.out _ _ D λ_=>?_;clear hK K
  all_goals
   refine ry 8 λK hK=>?_;refine To _ rfl (.tmp 26) (.tmp 31) 36 rfl w.heap.size 142 k0 (Sh 0 ⟨#[]⟩ 0) 3 32 underlying36 b2 b3 b4 b5 rfl oo (.slice P k Q) k (Ta s.F k) og (World.ownsRow.drew<|OR au _) (y wr 0) 1 1 [J (s.F k).parent,.string (s.F k).key,J (s.F k).count] og rfl (Is (w:=(wr.alloc<|.cells #[J (s.F k).parent,.string (s.F k).key,J (s.F k).count] 142).drew)<|DD wr _) oh oo od om ot _ rfl ?_;intro g3 b w3 l E o a8;obtain⟨af,I,x3,f3,cg,M⟩:=z HF g3 b w3 l E o;have ag:=O M;clear l E o M;refine hK.out _ _ af λbb=>?_;clear hK K;simp only[Act.put,AaQ,AaF,AaE,Aac,AaY,AaX];refine tz 9 (h:=tz 10 (h:=?_));refine ry 11 λK hK=>?_;go_simp;refine hK.out _ _ I λ_=>?_;clear hK K;refine Fj ?_;clear af I bb x3 f3 bn ao D yX y0 xN;obtain⟨w4,ah⟩:=o9<|w3.setCell (G j 0)<|S9 g3 (k+1) b;rw[<-ah]at ag ⊢;clear ah;go_wp2;go_roundw
   .exact⟨k+1,_,om,ov,ag⟩
   exact ow
 have aM:k=s.nf:=om;subst aM;have c1:=C.cells.2.1;clear C a u;go_wp2_with fail;go_loopw [42] (λi wr=>∃(k:Nat) (vT:V9) (H:Nat->Hs) (L:Nat->Nat),k<=s.nt/\i=J k/\Hu w j vF vT r s s.nf k H L wr) λi _=>s.nt-(intOf i).toNat
 .exact⟨0,_,_,_,om,rfl,U⟩
 clear U c1 bk;obtain⟨k,vT,H,L,hk,rfl,a⟩:=hrel;rcases (hM.below a.CX).1,(hM.below a.CX.drew).1,a.CX.size,O a with⟨C,ai,bk,U⟩;by_cases u:k<s.nt
 .obtain⟨gT,cu,ch,cv,_,xT,_⟩:=C.CU u;cases ch;obtain⟨P,Q,rfl⟩:=AE a.t;have g:=a.box;have az:=Ah g;have y1:wr.cell? (G j 1)=some (.slice P k Q):=by simp[World.cell?,g]
  have au:=O a.t;have HF:Hid (∀w2 hh g3 b w3,PQ wr.heap.size w2.heap.size w2 hh (s.T k)->Below wr.heap.size wr.drew w2->w3.ownsRow w.heap.size 105 8 (S9 g3 (k+1) b) (k+1) (Je (λi=>SK (H i)<|s.T i) k++SK hh (s.T k))->(w2.alloc<|.cells (SK hh<|s.T k).toArray 105).grownBy w3 (Value.ownBlock<|.slice P k Q)->(Value.ownBlock (.slice P k Q)=some g3\/g3=(w2.alloc<|.cells (SK hh<|s.T k).toArray 105).heap.size)->
    w3.cell? (G j 1)=some (.slice P k Q)/\w3.frozen? (G j 1)=false/\j<w3.heap.size/\∃H' L',Hu w j vF (S9 g3 (k+1) b) r s s.nf (k+1) H' L' (w3.setCell (G j 1) (S9 g3 (k+1) b))):=O (by
   intro w2 hh g3 b w3 hR hb h1 h2 h3;have V:=(BE _ _).drew.trans hb;have B:B9 wr (w2.alloc (.cells (SK hh (s.T k)).toArray 105)):=V.alloc V.size _;have cj:PQ wr.heap.size (w2.alloc (.cells (SK hh (s.T k)).toArray 105)).heap.size (w2.alloc (.cells (SK hh (s.T k)).toArray 105)) hh (s.T k):=(hR.keep (λq e=>DO _ _ _ (hR.own e).2.2)).wide (Be _) oq;obtain⟨p1,p2⟩:=a.table B cj h2 h1 (h3.imp id (λe=>om));exact⟨by simp[World.cell?,p1],by simp[World.frozen?,p1],Ah p1,_,_,p2⟩)
  have ck:Nk wr.drew:=trivial;rcases VU (B0:=B0) (Bk:=Bk) (A:=A k) hG.f (hG.t k u)with⟨a6,R⟩|⟨pk,a6,R⟩;all_goals
   rw[a6]at xT;have HC:=O<|R wr.drew ai.nd (ai.rd k u).now.1 (ai.rd k u).now.2;clear a6 R C ai a g U;go_wp2_with fail;refine Gq Nk ?_;refine tz 0 (h:=tz 2 (h:=?_));refine TO (rs:=[1,3]) ou oq ?_;refine IH rfl (λK hK=>?_) (IH rfl (λK hK=>?_) SO);go_simp;refine hK.out _ _ ck λ_=>?_;clear hK K;refine ry 3 λK hK=>?_;go_simp;rotate_left;go_simp;all_goals
    refine HC.mono ?_;rintro e w2 ⟨⟨hh,rfl,hR⟩,B⟩;obtain⟨a1,c1,a2,c2,a3,c3,a4,c4,rfl⟩:=hR.one;have av:B9 wr w2:=(BE _ _).drew.trans B;have z2:=av.size;have y2:=oT av az y1;have y3:(w2.alloc<|.cells #[J (s.T k).shape,.slice a1 (s.T k).nv c1,.slice a2 (s.T k).d.n c2,.slice a3 (s.T k).d.m c3,.slice a4 (s.T k).d.x c4,J (s.T k).d.used,J (s.T k).d.live,J (s.T k).d.turns] 105).cell? (G j 1)=some (.slice P k Q):=Kc y2;have bp:=Wo au av;have bq:=O λg3 b w3=>HF w2 _ g3 b w3 hR B;have br:Nk w2:=trivial;have e8:(SK ⟨.slice a1 (s.T k).nv c1,.slice a2 (s.T k).d.n c2,.slice a3 (s.T k).d.m c3,.slice a4 (s.T k).d.x c4⟩<|s.T k).toArray=#[J (s.T k).shape,.slice a1 (s.T k).nv c1,.slice a2 (s.T k).d.n c2,.slice a3 (s.T k).d.m c3,.slice a4 (s.T k).d.x c4,J (s.T k).d.used,J (s.T k).d.live,J (s.T k).d.turns]:=rfl;rw[e8];refine hK.out _ _ br λ_=>?_;clear hK K hR B av e8
   refine TO (rs:=[1,4]) ou oq ?_;refine IH rfl (λK hK=>?_) (IH rfl (λK hK=>?_) SO);go_simp;refine hK.out _ _ br λ_=>?_;clear hK K;refine ry 4 λK hK=>?_;go_simp;refine hK.out _ _ trivial (λ_=>?_);clear hK K;rotate_left;go_simp;refine hK.out _ _ trivial (λ_=>?_);clear hK K;refine ry 1 λK hK=>?_;go_simp;refine hK.out _ _ trivial (λ_=>?_);clear hK K;rotate_left;refine ry 4 λK hK=>?_;go_simp;refine hK.out _ _ trivial (λ_=>?_);clear hK K;all_goals
    clear HC HF au;refine ry 5 λK hK=>?_;refine To _ rfl (.tmp 47) (.tmp 50) 39 rfl w.heap.size 105 t0 (.agg qJ) 8 128 underlying39 b6 b7 b8 b9 rfl oo (.slice P k Q) k (Je (λi=>SK (H i)<|s.T i) k) og (OR bp _) (y w2 0) 1 1 [J (s.T k).shape,.slice a1 (s.T k).nv c1,.slice a2 (s.T k).d.n c2,.slice a3 (s.T k).d.m c3,.slice a4 (s.T k).d.x c4,J (s.T k).d.used,J (s.T k).d.live,J (s.T k).d.turns] og rfl (Is<|DD w2 _) oh oo od om ot _ rfl ?_;intro g3 b w3 l E o a8;obtain⟨x3,f3,cg,H',L',M⟩:=z bq g3 b w3 l E o;have ag:=O M;have cl:Nk w3:=trivial;clear l E o M bq bp y1 y2 y3 xT;refine hK.out _ _ cl λ_=>?_;clear hK K;simp only[Act.put,AaQ,AaF,AaE,Aac,AaY,AaX];refine tz 6 (h:=?_);refine ry 7 λK hK=>?_;go_simp;refine hK.out _ _ trivial (λ_=>?_);clear hK K;refine Fj ?_;clear x3 f3;obtain⟨w4,ah⟩:=o9<|w3.setCell (G j 1)<|S9 g3 (k+1) b;rw[<-ah]at ag ⊢;clear ah;go_wp2;go_roundw
    .exact⟨k+1,_,_,_,om,ov,ag⟩
    exact ow
 have aM:k=s.nt:=om;subst aM;obtain⟨ga,gc,rfl⟩:=AE a.f;obtain⟨P,Q,rfl⟩:=AE a.t;obtain⟨za,zc,rfl⟩:=AE a.si;obtain⟨w4,aq,I⟩:=BM (v:=.agg #[.slice ga s.nf gc,.slice P s.nt Q,.slice za s.ns zc]) (vs:=[.slice ga s.nf gc,.slice P s.nt Q,.slice za s.ns zc]) gC a.res rfl rfl oh rfl;rcases O aq,O a.box,O<|a.whole aj I,AZ I 0 _ rfl,AZ I 1 _ rfl,AZ I 2 _ rfl with⟨cm,cn,bt,r0,r1,r2⟩;clear C ai a U aq I u;go_wp2_with (first|(refine Aal rfl 42 _ rfl j rfl _ _ _ _ cn underlying42 rfl rC ?_)|(refine Ag rfl rfl _ cm ?_));refine GO (v:=.agg #[.slice ga s.nf gc,.slice P s.nt Q,.slice za s.ns zc]) (by simp[results,results29,go_sem,r0,r1,r2]) rfl ⟨⟨_,_,_,_,rfl,bt.1⟩,bt.2⟩
def MR.forms{vF}{H}(h:MR lo hi w vF vT vS s H):∃c d ta tc sa sc,vF=.slice c s.nf d/\vT=.slice ta s.nt tc/\vS=.slice sa s.ns sc:=by
 obtain⟨c,d,hf⟩:=h.f.form;have j:∃ta tc,vT=.slice ta s.nt tc:=by
  rcases h.t with⟨e,a⟩|⟨b,i,Z,g,a,_⟩;all_goals grind
 have hs:∃ta tc,vS=.slice ta s.ns tc:=by
  rcases h.si with⟨e,a⟩|⟨b,i,Z,g,a,_⟩;all_goals grind
 all_goals grind
def OB{T}(hL:En T){m}(fc){ta:Option Addr}(tc){sa:Option Addr}(sc){s}(D){A}{w:Y}(bn:T w)(hF:Bg w m s.nf s.F)(hT:Th w ta s.nt s.T A)(hS:FX w sa s.ns s.S)(hs:J9 s)(hk:∀i,i<s.ns->(s.S i).key.size<=maxLen)
  (hD:∀i,i<s.nt->∀la lc ia ic xa xc,aQ T la lc ia ic xa xc (s.T i).d<|D i):
  C9 26 #[PY (some<|G m 0) fc ta tc sa sc s] w λe w'=>iB w s D A e w'/\B9 w w':=by
 rcases hF.lt,hs.nt,hs.n,hs.f.1,ON TX,O hs,O hk,O hD,S7 w (.cells #[.slice (some<|G m 0) s.nf fc,.slice ta s.nt tc,.slice sa s.ns sc] 42) (.cells #[N9,N9] 73) with⟨b8,cv,cw,b9,⟨i0,hi,bp,bq,br⟩,ca,HK,HD,⟨W,hW,ai,bt,o0,_⟩⟩;obtain⟨_,x1,x2⟩:=v3 o0;have r0:W.cell? (Y9 w 0)=some (N9):=by rw[hW];simp[go_sem]
 obtain⟨r1,f0,f1⟩:W.cell? (Y9 w 1)=some (N9)/\W.frozen? (Y9 w 0)=false/\W.frozen? (Y9 w 1)=false:=by rw[hW];simp[go_sem]
 have lw:w.heap.size<W.heap.size:=om;have lr:w.heap.size+1<W.heap.size:=om;rcases O (hF.below ai b8),O<|hT.below ai,O<|hS.below ai rfl,O<|hL _ _ bn ai,O bt with⟨HF,HT,HS,cb,HZ⟩;clear hs hk hD hF hT hS bn bt;go_enter func26,ntmps26;go_wp2_with fail;rw[<-hW];clear hW;refine(Y0 fc HF b9).mono ?_;rintro e w1 ⟨hj,E⟩;rcases (E.cell lw).trans x1,(E.cell lw).trans x2,(E.cell lr).trans r0,(E.cell lr).trans r1,(E.frozen lr).trans f0,(E.frozen lr).trans f1,A0 lw E.size,A0 lr E.size,o8 ai E with⟨y1,y2,s0,s1,g0,g1,bu,l,ak⟩;rcases hj with⟨r,rfl,hr,ay⟩|⟨g,cp,B,Z,M,rfl,h1,hN,hid,⟨cc,av⟩,az⟩
 .have cx:(r !=0)=true:=by simpa using ay
  have HO:=O<|UW (D:=D) (by rw[<-hr];exact ay);clear E hr ay;go_wp2;refine GO (v:=.tuple #[.agg #[N9,N9],J 1]) (by simp[results,results26,go_sem,s0,s1]) rfl ⟨.inl ⟨1,rfl,HO.symm,oo⟩,?_⟩;repeat(refine NO ?_ ox _)
  exact ak
 have H1:=O h1;have cd:w1.ownsRow w.heap.size 140 1 (.slice (some<|G g 0) s.nf cp) s.nf<|ptrs B s.nf:=Pd av<|oS<|z HZ;clear av;have af:g≠w.heap.size+1:=λe=>by
  have bw:=az 0<|oS (Av h1).1.1;rw[e,s0]at bw;cases bw
 have bx:Hid<|Nd w1 s (w.heap.size+1+1) g B Z M:=O ⟨(z HZ)▸hN,hid,cc,az⟩;rcases HT.below E,O<|HS.below E rfl,O (hL _ _ cb E) with⟨cg,ch,bg⟩;clear h1 hN hid az E x1 x2 r0 r1 f0 f1 HF HT HS;by_cases h2:100<s.nt
 .have HO:=O<|Lh (D:=D) H1 λh=>om;go_wp2;refine GO (v:=.tuple #[.agg #[N9,N9],J 2]) (by simp[results,results26,go_sem,s0,s1]) rfl ⟨.inl ⟨2,rfl,HO.symm,oo⟩,?_⟩;repeat(refine NO ?_ ox _)
  exact ak
 by_cases h3:50<s.ns
 .have HO:=O<|Lh (D:=D) H1 λh=>om;go_wp2;refine GO (v:=.tuple #[.agg #[N9,N9],J 2]) (by simp[results,results26,go_sem,s0,s1]) rfl ⟨.inl ⟨2,rfl,HO.symm,oo⟩,?_⟩;repeat(refine NO ?_ ox _)
  exact ak
 have H2:Hid<|s.nt<=100/\s.ns<=50:=O ⟨om,om⟩;go_wp2;go_loopw [6,35] (λv i wr=>∃(k:Nat),k<=s.nt/\i=J k/\wr.ownsRow w1.heap.size 128 1 v k (kL B A s k)/\B9 w1 wr/\∀q,q<k->Nv s (D q) (s.T q)) λ_ i _=>s.nt-(intOf i).toNat
 .exact⟨0,om,rfl,NB _ _ _ _,BE _ _,λq hq=>om⟩
 obtain⟨k,hk,rfl,ho,hb,H⟩:=hrel;rcases (hb.cell bu).trans y1,(hb.cell bu).trans y2,hb.size with⟨p1,p2,cy⟩;by_cases I:k<s.nt
 case pos=>
  obtain⟨b,off,rfl,aM,hcs⟩:=cg.resolve_left om;obtain⟨e0,e1,e2,e3,e4,e5,e6,e7⟩:=(hcs k I).1.EG λq _=>hb.cell aM;have ae:Hid<|∀o,B9 w<|wr.alloc o:=O λo=>(ak.trans<|hb.mono om).alloc om _;have R:Hid<|∀o,B9 w1<|wr.alloc o:=O λo=>hb.alloc om _;have ah:Hid<|FA wr (A k).va (s.T k).nv (s.T k).V/\Ea wr (A k).la (A k).ia (A k).xa (s.T k).d/\T wr/\Nd wr s (w.heap.size+1+1) g B Z M:=O ⟨(hcs k I).2.1.below hb rfl,(hcs k I).2.2.below hb,hL _ _ bg hb,bx.below hb⟩;rcases O H,O ho,O ho.lt,ca.nv I with⟨ag,aw,ar,bz⟩;clear hcs H ho;by_cases U:(s.T k).shape=-1
  .have a6:Hid<|AL B (A k) (s.T k)=.iface 194 (KC (A k)<|s.T k):=O<|C3 U;have ao:Hid<|Nv s (D k) (s.T k)↔((s.T k).nv=0/\D k=0):=O ⟨λh=>by rcases h with h|h;exact h.2;omega,λh=>.inl ⟨U,h⟩⟩;rw[U]at e0;clear U hb;go_wp2_with fail;refine m9 (T5 (some<|G g 0) s.nf cp (A k) (s.T k) _) λw3 t=>?_;have z3:=t.size;simp at z3;have K:=O<|o8 (ae _) t;have X:=O<|o8 (R _) t;have C:=O<|((BE wr.heap.size wr).alloc (Be _)<|.cells #[J (-1),.slice (A k).va (s.T k).nv (A k).vc,.slice (A k).la (s.T k).d.n (A k).lc,.slice (A k).ia (s.T k).d.m (A k).ic,.slice (A k).xa (s.T k).d.x (A k).xc,J (s.T k).d.used,J (s.T k).d.live,J (s.T k).d.turns] 105).trans<|t.mono oq;clear e0 e1 e2 e3 e4 e5 e6 e7 p1 p2 t;go_wp2_with fail;refine m9 (Lp hL (A k).vc (s.T k) (hL _ _ ah.2.2.1 C) (ah.1.below C rfl) bz (ah.2.1.below C)<|HD k I _ _ _ _ _ _) λw4 L=>?_;have z4:=L.size;have a7:=O<|o8 K L;have P:=O<|X.trans<|L.mono om;have a8:=O<|Wo aw<|C.trans<|L.mono om;clear L;by_cases hO:Nv s (D k)<|s.T k
   case neg=>
    rw[Ae (λc=>hO ((z ao).2 c))];rcases O (Li H1 H2 λh=>hO<|h k I),(P.cell l).trans s0,(P.cell l).trans s1,(P.frozen l).trans g0,(P.frozen l).trans g1 with⟨HO,s0,s1,g0,g1⟩;clear hO;go_wp2;refine GO (v:=.tuple #[.agg #[N9,N9],J 3]) (by simp[results,results26,go_sem,s0,s1]) rfl ⟨.inl ⟨3,rfl,HO.symm,oo⟩,?_⟩;repeat(refine NO ?_ ox _)
    exact a7
   rw[Aj ((z ao).1 hO)];have aq:=O hO;clear hO;go_wp2_with (first|(at_builtin;refine RC _ rfl _ _ 71 rfl w1.heap.size 128 i0 .nilIface 1 16 underlying71 hi bp bq br rfl oo u6 k (kL B A s k) rfl (a8.alloc _) (y w4 0) 1 1 [AL B (A k) (s.T k)] rfl rfl (by rw[z a6];exact Is<|DD _ _) (by intro u hu;rw[List.mem_singleton]at hu;subst hu;exact QW _ _ _) oo od om ot _ rfl ?_;intro g3 cj w5 Q ad au bh;have bb:=O<|(P.alloc om _).trans<|CO ad (λq e=>(ar q e).1) ot;have bc:=O Q;clear Q ad)|go_in);go_roundw
   .refine⟨k+1,om,ov,?_,bb,λq hq=>?_⟩
    .rw[<-Sa];exact bc
    by_cases e:q=k
    .subst e;exact aq
    exact ag q om
   exact ow
  by_cases aj:0<=(s.T k).shape/\(s.T k).shape<s.nf
  case neg=>
   rcases O (Li (D:=D) H1 H2 λh=>by rcases h k I with q|q;exact U q.1;exact aj ⟨q.1,q.2.1⟩),O U,O aj with⟨HO,ck,cl⟩;clear U aj hb;go_wp2_with fail;refine m9 (VS (some<|G g 0) s.nf cp (A k) (s.T k) (s.T k).shape _ ck cl) λw3 t=>?_;have K:=O<|o8 (ae _) t;have X:=o8 (R _) t;clear e0 e1 e2 e3 e4 e5 e6 e7 p1 p2 t;rcases (X.cell l).trans s0,(X.cell l).trans s1,(X.frozen l).trans g0,(X.frozen l).trans g1 with⟨s0,s1,g0,g1⟩;go_wp2;refine GO (v:=.tuple #[.agg #[N9,N9],J 3]) (by simp[results,results26,go_sem,s0,s1]) rfl ⟨.inl ⟨3,rfl,HO.symm,oo⟩,?_⟩;repeat(refine NO ?_ ox _)
   exact K
  obtain⟨j,hj⟩:∃j:Nat,(s.T k).shape=j:=⟨(s.T k).shape.toNat,om⟩;have bd:j<s.nf:=om;have a6:Hid<|AL B (A k) (s.T k)=.iface 197 (Cz (B j) (A k)<|s.T k):=O (by unfold AL;rw[Cs U,hj];rfl);have ao:Hid<|Nv s (D k) (s.T k)↔Vm s j (s.T k):=O ⟨λh=>by
   rcases h with h|h
   .exact absurd h.1 U
   have:=h.2.2;rwa [hj]at this,λh=>.inr ⟨aj.1,aj.2,by rw[hj];exact h⟩⟩
  rw[hj]at e0;have ax:=ah.2.2.2;rcases ax.qN j bd,ax.CI bd,ax.lt with⟨b1,⟨cm,b2⟩,bj⟩;clear U aj hj ax hb;have cn:=O b1;have bk:=O b2;clear b1 b2;go_wp2_with fail;refine m9 (Y4 g s.nf cp (B j) (A k) (s.T k) j _ bd ot<|(Hi _ _ _<|by exact bj).trans cn) λw3 t=>?_;have z3:=t.size;simp at z3;have K:=o8 (ae _) t;have X:=o8 (R _) t;have C:=((BE wr.heap.size wr).alloc (Be _)<|.cells #[J (j:Int),.slice (A k).va (s.T k).nv (A k).vc,.slice (A k).la (s.T k).d.n (A k).lc,.slice (A k).ia (s.T k).d.m (A k).ic,.slice (A k).xa (s.T k).d.x (A k).xc,J (s.T k).d.used,J (s.T k).d.live,J (s.T k).d.turns] 105).trans<|t.mono oq;clear e0 e1 e2 e3 e4 e5 e6 e7 p1 p2 t;go_wp2_with fail;refine m9 (Ng (A k).vc (A k).la (A k).lc (A k).ia (A k).ic (A k).xa (A k).xc (s.T k) s j (B j) (ah.1.below C rfl) bz om<|oT C cm bk) λw4 L=>?_;have z4:=L.size;have a7:=O<|o8 K L;have P:=O<|X.trans<|L.mono om;have a8:=O<|Wo aw<|C.trans<|L.mono om;clear L;by_cases hO:Nv s (D k)<|s.T k
  case neg=>
   rw[Ae (λc=>hO ((z ao).2 c))];rcases O (Li H1 H2 λh=>hO<|h k I),(P.cell l).trans s0,(P.cell l).trans s1,(P.frozen l).trans g0,(P.frozen l).trans g1 with⟨HO,s0,s1,g0,g1⟩;clear hO;go_wp2;refine GO (v:=.tuple #[.agg #[N9,N9],J 3]) (by simp[results,results26,go_sem,s0,s1]) rfl ⟨.inl ⟨3,rfl,HO.symm,oo⟩,?_⟩;repeat(refine NO ?_ ox _)
   exact a7
  rw[Aj ((z ao).1 hO)];have aq:=O hO;clear hO;go_wp2_with (first|(at_builtin;refine RC _ rfl _ _ 71 rfl w1.heap.size 128 i0 .nilIface 1 16 underlying71 hi bp bq br rfl oo u6 k (kL B A s k) rfl (a8.alloc _) (y w4 0) 1 1 [AL B (A k) (s.T k)] rfl rfl (by rw[z a6];exact Is<|DD _ _) (by intro u hu;rw[List.mem_singleton]at hu;subst hu;exact QW _ _ _) oo od om ot _ rfl ?_;intro g3 cj w5 Q ad au bh;have bb:=O<|(P.alloc om _).trans<|CO ad (λq e=>(ar q e).1) ot;have bc:=O Q;clear Q ad)|go_in);go_roundw
  .refine⟨k+1,om,ov,?_,bb,λq hq=>?_⟩
   .rw[<-Sa];exact bc
   by_cases e:q=k
   .subst e;exact aq
   exact ag q om
  exact ow
 have bf:k=s.nt:=om;have H3:Hid<|∀q,q<s.nt->Nv s (D q) (s.T q):=O λq hq=>H q om;have cz:w.heap.size<wr.heap.size:=om;have b3:=O<|bx.below hb;have cq:=ch.below hb rfl;rcases ak.trans (hb.mono om),O ho,O hb with⟨b4,aw,b5⟩;subst bf;clear hb H I y1 y2 ho;obtain⟨w2,rfl⟩:∃u,u=wr:=⟨wr,rfl⟩;go_wp2;go_loopw [58] (λi wr=>∃(k:Nat),k<=s.ns/\i=J k/\B9 w2 wr/\∀q,q<k->Pb s (s.S q)) λi _=>s.ns-(intOf i).toNat
 .exact⟨0,om,rfl,BE _ _,λq hq=>om⟩
 obtain⟨k,hk,rfl,hb,H⟩:=hrel;have cu:=hb.size;by_cases I:k<s.ns
 case pos=>
  obtain⟨b,off,rfl,aM,hcs⟩:=cq.resolve_left om;obtain⟨e0,e1,e2,e3,e4⟩:=(hcs k I).keep λq=>hb.cell aM;have ae:Hid<|∀o,B9 w<|wr.alloc o:=O λo=>(b4.trans<|hb.mono om).alloc om _;have R:Hid<|∀o,B9 w2<|wr.alloc o:=O λo=>hb.alloc om _;have b6:Hid<|∀o,B9 w1<|wr.alloc o:=O λo=>(b5.trans<|hb.mono om).alloc om _;have ah:Hid<|∀o,Nd (wr.alloc o) s (w.heap.size+1+1) g B Z M:=O λo=>b3.below<|R o;have ag:=O H;clear hcs hb H p1 p2;go_wp2_with fail;refine m9 (Qs cp (s.S k) (HK k I) (ah _) H1) λw3 t=>?_;rcases o8 (ae _) t,o8 (R _) t,o8 (b6 _) t with⟨K,X,C⟩;clear t e0 e1 e2 e3 e4;by_cases hO:Pb s<|s.S k
  .rw[Aj hO];have aq:=O hO;clear hO;go_wp2;go_roundw
   .refine⟨k+1,om,ov,X,λq hq=>?_⟩;by_cases e:q=k
    .subst e;exact aq
    exact ag q om
   exact ow
  rw[Ae hO];have HO:=O<|UX H1 H2 H3 λh=>hO<|h k I;clear hO;rcases (C.cell l).trans s0,(C.cell l).trans s1,(C.frozen l).trans g0,(C.frozen l).trans g1 with⟨s0,s1,g0,g1⟩;go_wp2;refine GO (v:=.tuple #[.agg #[N9,N9],J 4]) (by simp[results,results26,go_sem,s0,s1]) rfl ⟨.inl ⟨4,rfl,HO.symm,oo⟩,?_⟩;repeat(refine NO ?_ ox _)
  exact K
 have HO:=O<|PE H1 H2 H3 λq hq=>H q om;have K:=b4.trans<|hb.mono om;rcases b5.trans (hb.mono om),b3.below hb,Wo aw hb with⟨C,cr,b7⟩;have bf:k=s.ns:=om;clear hb H I p1 p2;subst bf;rcases (C.cell l).trans s0,(C.cell l).trans s1,(C.frozen l).trans g0,(C.frozen l).trans g1 with⟨s0,s1,g0,g1⟩;obtain⟨ka,kc,rfl⟩:∃a c,u6=.slice a s.nt c:=by
  obtain⟨_,⟨hv,h0⟩|⟨g',cap,cur,hv,_⟩⟩:=z b7
  .exact⟨none,0,by rw[hv,h0]⟩
  exact⟨_,_,hv⟩
 go_wp2;refine GO (v:=.tuple #[.agg #[.slice (some<|G g 0) s.nf cp,.slice ka s.nt kc],J 0]) (by simp[results,results26,go_sem,s0,s1]) rfl ⟨.inr ⟨g,cp,B,Z,M,_,w1.heap.size,rfl,HO,?_,⟨om,?_⟩,?_⟩,?_⟩
 .refine Nd.SB (b0:=w.heap.size+1+1) (cr.OD (λb hb _=>?_) ?_) om
  .exact(At _ _ _ _<|by show b≠w.heap.size+1;omega).trans (At _ _ _ _<|by show b≠w.heap.size+1;omega)
  exact(At _ _ _ _<|by exact af).trans (At _ _ _ _<|by exact af)
 .have av:=Wo cd C;obtain⟨hl,⟨hv,h0⟩|⟨g',cap,cur,hv,ct,bm,h1,h2,h3,h4⟩⟩:=av
  .cases hv
  cases hv;exact⟨hl,.inr ⟨g,_,cur,rfl,ct,((At _ _ _ _<|by exact af).trans<|At _ _ _ _<|by exact af).trans bm,h1,h2,h3,h4⟩⟩
 .refine Wp b7 λb hb _=>?_;exact(At _ _ _ _<|by show b≠w.heap.size+1;omega).trans (At _ _ _ _<|by show b≠w.heap.size+1;omega)
 repeat(refine NO ?_ ox _)
 exact K
end Go.Proofs.YtoobllcjfinmoaaGreatDoor
