import Derived.Test.YtkpfgniijbgkoaaGreatDoorSSAF
set_option linter.all false
set_option maxHeartbeats 40000000
set_option maxRecDepth 100000
namespace Go.Proofs.YtkpfgniijbgkoaaGreatDoor
open Go.Proofs.Tryz
open Go.RowKit
attribute [local go_sem] AB Aw
variable {w W w1 w' W':Y}{c B b ab i g nt cp a vc q tc g3 M n B' m b0 l k j bk R2:Nat}{vF vT vS FT BT B1 v r0 r1:V9}{H H':Nat->Hs}{s:AE}{x:Vl}{t:TypeId}{ta la:Option Addr}{f:Nat->Option Addr}{L:List Ac}{K:Kd}{d:Dc}{Q:Exit->Act->World->Prop}{E S:Nat->Nat}
def SM.fin{w2}{rb n'}{s'}{cs}{ty}(hb:B9 w W)(f:∀k,Ba c vF vT vS H s.nt k->k<w.heap.size)(i:w.heap.size<=rb)(g:rb<W.heap.size)(h:SM w1 c B FT BT B1 H' s')(hn:s'.nt=n')(b:BB (Ba c vF vT vS H s.nt) W (Ba c FT BT B1 H' n') w1)(a:Bu w1 w2 rb cs ty):
  SM w2 c B FT BT B1 H' s'/\BB (Ba c vF vT vS H s.nt) w (Ba c FT BT B1 H' n') w2:=by
 have d:∀k,Ba c FT BT B1 H' n' k->k≠rb:=λk hk e=>by
  rcases b.own k hk with h1|h1
  .have:=f k h1;omega
  omega
 refine⟨h.keep λk hk=>a.other k<|d k<|by rw[<-hn];exact hk,⟨a.os.trans<|b.os.trans hb.os,a.tape.trans<|b.tape.trans hb.tape,a.output.trans<|b.output.trans hb.output,by rw[a.size];exact GO hb.size b.size,λk hk hn=>?_,λk hk=>?_⟩⟩
 .rw[a.other k om,b.block k (A0 hk hb.size) hn,hb.block k hk]
 rcases b.own k hk with h1|h1;all_goals grind [Ba,BB.size,Bu.size]
def YR{old:List Value}(h:w.heap[b]?=some (.cells old.toArray 32 (0,0)))(hl:old.length=5)x:∃w',(Instr.storeAt 32 (Q9 b)<|V x.kind x.num x.Ah x.str x.ref).run prog w=.ok () w'/\Bu w w' b (H8 x).toArray 32:=
 BP (old:=old) (vs:=H8 x) jV h (qm hl) rfl (by simp[H8,Value.oneCell']) rfl
def XU.stored(h:Bu w w' b (H8 x).toArray 32):XU w' b x:=by
 have hc:=A9 h;exact⟨Ai h.BH,hc 0 _ rfl,hc 1 _ rfl,hc 2 _ rfl,hc 3 _ rfl,hc 4 _ rfl⟩
def Oh s t k v:(Ci s t k v).nt=s.nt:=by
 unfold Ci;split<;>rfl
def OA(c ab gs i:Nat)(vS:V9)(key:ByteArray)(W:Y):Prop:=W.cell? (G c 2)=some vS/\W.cell? (G ab 2)=some (J (i:Int))/\W.cell? (G gs<|i*5)=some (.string key)
def OA.keep{gs}{key}(h:OA c ab gs i vS key W)(h1:W'.heap[c]?=W.heap[c]?)(h2:W'.heap[ab]?=W.heap[ab]?)(h3:W'.heap[gs]?=W.heap[gs]?):OA c ab gs i vS key W':=
 ⟨(As h1).trans h.1,(As h2).trans h.2.1,(As h3).trans h.2.2⟩
def OB(c ab g nt cp t a nv vc q:Nat)(x:Vl)(W:Y):Prop:=W.cell? (G c 1)=some (S9 g nt cp)/\W.cell? (G ab 1)=some (J (t:Int))/\W.cell? (G g<|t*8+1)=some (S9 a nv vc)/\W.cell? (G a<|q*5)=some (J x.kind)/\W.cell? (G a<|q*5+1)=some (J x.num)/\W.cell? (G a<|q*5+2)=some (F9 x.Ah)/\W.cell? (G a<|q*5+3)=some (.string x.str)/\W.cell? (G a<|q*5+4)=some (J x.ref)
def OB.keep{t nv}(h:OB c ab g nt cp t a nv vc q x W)(h1:W'.heap[c]?=W.heap[c]?)(h2:W'.heap[ab]?=W.heap[ab]?)(h3:W'.heap[g]?=W.heap[g]?)(h4:W'.heap[a]?=W.heap[a]?):OB c ab g nt cp t a nv vc q x W':=
 ⟨(As h1).trans h.1,(As h2).trans h.2.1,(As h3).trans h.2.2.1,(As h4).trans h.2.2.2.1,(As h4).trans h.2.2.2.2.1,(As h4).trans h.2.2.2.2.2.1,(As h4).trans h.2.2.2.2.2.2.1,(As h4).trans h.2.2.2.2.2.2.2⟩
def Mk(c ab g nt cp t a nv vc:Nat)(x:Vl)(W:Y):Prop:=W.cell? (G c 1)=some (S9 g nt cp)/\W.cell? (G ab 1)=some (J (t:Int))/\W.cell? (G g<|t*8+1)=some (S9 a nv vc)/\W.cell? (G ab 9)=some (J x.kind)/\W.cell? (G ab 10)=some (J x.num)/\W.cell? (G ab 11)=some (F9 x.Ah)/\W.cell? (G ab 12)=some (.string x.str)/\W.cell? (G ab 13)=some (J x.ref)
def Mk.keep{t nv}(h:Mk c ab g nt cp t a nv vc x W)(h1:W'.heap[c]?=W.heap[c]?)(h2:W'.heap[ab]?=W.heap[ab]?)(h3:W'.heap[g]?=W.heap[g]?):Mk c ab g nt cp t a nv vc x W':=
 ⟨(As h1).trans h.1,(As h2).trans h.2.1,(As h3).trans h.2.2.1,(As h2).trans h.2.2.2.1,(As h2).trans h.2.2.2.2.1,(As h2).trans h.2.2.2.2.2.1,(As h2).trans h.2.2.2.2.2.2.1,(As h2).trans h.2.2.2.2.2.2.2⟩
def UT(a:Ac)(t i:Nat){w}(hM:SM w c B vF vT vS H s)(hG:Kl s)(et:a.t=t)(M:t<s.nt)(U:a.site=i)(hi:i<s.ns)(hop:a.op=8\/a.op=9)(hv:a.v.ok=true):
  C9 71 #[Q9 c,I5 a] w λe w'=>e=.returned (H9<|Dh s a)/\∃FT H',SM w' c B FT vT vS H' (BJ s a)/\BB (Ba c vF vT vS H s.nt) w (Ba c FT vT vS H' s.nt) w':=by
 obtain⟨gs,sc,rfl,ch,_,hcs,_⟩:=hM.Ex hi;rcases hG.ns,hG.nt,hM.lt,hcs 0 _ rfl with⟨cu,cv,bp,y0⟩;simp only[Aag]at y0;obtain⟨W,hW,ar,hA,hR,hz⟩:=boxes w a;have HO:Hid<|∀k,Ba c vF vT (S9 gs s.ns sc) H s.nt k->k<w.heap.size:=O λk h=>(hM.IC h).2;obtain⟨a0,a1,a2,a3,a4,a5,a6,a7,a8,a9,A,C,a12,D⟩:=hA.all;have E:OA c w.heap.size gs i (S9 gs s.ns sc) (s.S i).key W.drew:=⟨(ar.cell (p:=G c 2) bp).trans hM.cells.2.2.1,a2.trans<|by rw[U],(ar.cell (p:=G gs<|i*5) ch).trans y0⟩;rcases O hM,O ar,O hA,O hR,O hG,O (qp et U) with⟨HM,HB,HA,HR,HG,HE⟩;clear hM ar hA hR hG et U hcs y0 a0 a1 a2 a3 a4 a5 a6 a7 a8 a9 A C a12 D;go_enter func71,ntmps71;go_upto_region 1 with fail
 rw[<-hW];clear hW
 go_cut [5] λq wx=>∃kb,q=Q9 kb/\W.heap.size<=kb/\XU wx kb (Bz (s.S i).key)/\B9 W wx
 case first=>
  have zB:=HB.size;obtain⟨Z,hY⟩:=qa<|(W.alloc<|.cells #[J 0,J 0,F9 0,E9,J 0] 32).drew;have L:B9 W Z:=by rw[hY];exact(n9).drew
  have ae:Z.heap[W.heap.size]?=some (.cells #[J 0,J 0,F9 0,E9,J 0] 32 (0,0)):=by rw[hY];exact DO W _
  have zY:Z.heap.size=W.heap.size+1:=by rw[hY];simp
  have bq:=E.keep (L.block c om) (L.block w.heap.size om)<|L.block gs om;have br:=O<|qp hY<|qp L<|qp ae zY;clear hY L ae zY;refine Hx (OA c w.heap.size gs i (S9 gs s.ns sc) (s.S i).key) ?_;refine tz 0 (h:=tz 1 (h:=tz 2 (h:=tz 3 (h:=tz 4 (h:=tz 5 (h:=tz 6 (h:=tz 7 (h:=tz 8 (h:=?_)))))))));refine Aaz (rs:=[9,10]) ou oq ?_;refine OK rfl (λK hK=>?armA) (OK rfl (λK hK=>?armB) Aay)
  case armA=>
   go_simp;refine m9 (Px (s.S i).key _) λw1 d=>?_;have z1:=d.size;have af:=E.keep (d.block c<|by show c<W.heap.size;omega) (d.block w.heap.size<|by show w.heap.size<W.heap.size;omega)<|d.block gs (by show gs<W.heap.size;omega);refine hK.out _ _ af λ_=>?_;clear hK K;have bt:B9 W w1:=⟨d.os,d.tape,d.output,d.size,λk hk=>d.block k hk⟩;obtain⟨X,hX,ag,_,o0⟩:=Ll w1<|.cells #[J 0,J 0,F9 0,E9,J 0] 32;have bu:=o0;have z2:W.heap.size<=w1.heap.size:=d.size;have bw:=af.keep (ag.block c om) (ag.block w.heap.size om)<|ag.block gs om;obtain⟨w2,j,l⟩:=YR bu rfl (Bz (s.S i).key);have bb:=bw.keep (l.other c om) (l.other w.heap.size om)<|l.other gs om;have cj:=O hX;have HF:Hid<|W.heap.size<=w1.heap.size/\XU w2 w1.heap.size (Bz (s.S i).key)/\B9 W w2:=O ⟨z2,.stored l,l.below (bt.trans<|ag.mono z2) z2⟩;have n:=O j;clear d bt hX ag bu j l;refine ry 10 λK hK=>?_;go_simp;rw[<-z cj];refine hK.out _ _ bw λ_=>?_;clear hK K;refine ry 11 λK hK=>?_;refine BK rfl rfl w2 n ?_;refine hK.out _ _ bb λ_=>?_;clear hK K;refine FI ?_;go_wp2_with fail;go_meet
   case rel=>exact⟨_,rfl,HF⟩
  case armB=>
   go_simp;rw[<-(z br).1];refine hK.out _ _ bq λ_=>?_;clear hK K;refine ry 9 λK hK=>?_;go_simp;refine m9 (Px (s.S i).key _) λw1 d=>?_;obtain⟨_,L,ae,zY⟩:=z br;have z1:=d.size;have af:=bq.keep (d.block c om) (d.block w.heap.size om)<|d.block gs om;refine hK.out _ _ af λ_=>?_;clear hK K;obtain⟨w2,j,l⟩:=YR ((d.block W.heap.size om).trans ae) rfl (Bz (s.S i).key);have bb:=af.keep (l.other c om) (l.other w.heap.size om)<|l.other gs om;have HF:Hid<|W.heap.size<=W.heap.size/\XU w2 W.heap.size (Bz (s.S i).key)/\B9 W w2:=O ⟨Be _,.stored l,l.below (L.trans<|d.mono om)<|Be _⟩;have n:=O j;clear d L ae zY j l;refine ry 11 λK hK=>?_;refine BK rfl rfl w2 n ?_;refine hK.out _ _ bb λ_=>?_;clear hK K;refine FI ?_;go_wp2_with fail;go_meet
   case rel=>exact⟨_,rfl,HF⟩
 obtain⟨kb,rfl,cw,bx,hbc⟩:=hcut;clear E;rcases z HE,HB.size,hbc.size with⟨⟨et,U⟩,zB,zc⟩;have bz:=O<|HM.below<|HB.trans<|hbc.mono zB;have au:=HA.below hbc om;have b0:=HR.below hbc hz;obtain⟨a0,a1,a2,a3,a4,a5,a6,a7,a8,a9,A,C,a12,D⟩:=au.all;rw[et]at a1;rw[U]at a2;rcases au.lt,O<|WV i t bz HG hi M,O bx,O au,O b0,O hbc with⟨la,I,bc,b1,b2,b3⟩;clear bx au b0 hbc et U;go_wp2_with fail;refine I.mono ?_;rintro e w3 ⟨rfl,b4,ah⟩;have av:∀b,w.heap.size<=b->b<wc.heap.size->w3.heap[b]?=wc.heap[b]?:=λb h1 h2=>ah.block b h2 λe=>oT<|z HO b e;have bd:Qs w3 w.heap.size a:=(av w.heap.size (Be _) la).trans b1;have b5:IV w3<|w.heap.size+1:=(av (w.heap.size+1) om om).trans b2;rcases bc.keep ah.size (av kb om bc.lt),JX HG hi M,O<|(BB.Am b3).trans ah,qa (Bd s i t) with⟨b6,b7,aw,⟨fi,bf⟩⟩;rw[<-bf];rcases O bf,O b4,O bd,O b5,O b6,O b7,ah.size,bd.lt with⟨ai,o,ck,ax,b8,b9,z3,cx⟩;clear a0 a1 a2 a3 a4 a5 a6 a7 a8 a9 A C a12 D la b4 ah av bd b5 b6 b7 bf I b1 b2 b3 bz bc;obtain⟨a0,a1,a2,a3,a4,a5,a6,a7,a8,a9,A,C,a12,D⟩:=ck.all;rw[(z HE).1]at a1;rw[(z HE).2]at a2;have ca:=O<|G4 (HG.si i hi).1;have I:Hid (0<=fi->∃q:Nat,fi=q/\q<(s.T t).nv):=O (λh0=>by
  obtain⟨_,q,_,_,hq,hn,_⟩:=JW HG hi M (by rw[<-z ai];exact h0);exact⟨q,ai.trans hq,hn⟩)
 obtain⟨g,cp,bg,lg,_,cb,cy⟩:=o.CA M;have bg:vT=S9 g s.nt cp:=bg;subst bg;rcases o.cells.2.1,o.lt,cb 1 _ rfl,Au<|o.v t M,o.v t M with⟨c1,cz,g1,⟨va,vc,ev⟩,bh⟩;rw[ev]at bh;have g1:w3.cell? (G g<|t*8+1)=some (.slice va (s.T t).nv vc):=g1.trans<|qm ev;have aj:Hid<|Cf w3 B (.slice va (s.T t).nv vc) (s.T t).nv (s.T t).V:=O bh;have ay:Hid<|(H t).v=.slice va (s.T t).nv vc:=O ev;clear ev bh cb;have cD:=bp;have cN:=z HO g<|.inr<|.inr<|.inl rfl;have R:Hid (∀{w4 w5:Y} {FT:V9} {H':Nat->Hs} {s':AE} {cs:Array Value} {ty:TypeId},SM w4 c B FT (S9 g s.nt cp) (S9 gs s.ns sc) H' s'->s'.nt=s.nt->BB (Ba c vF (S9 g s.nt cp) (S9 gs s.ns sc) H s.nt) W (Ba c FT (S9 g s.nt cp) (S9 gs s.ns sc) H' s.nt) w4->Bu w4 w5 (w.heap.size+1) cs ty->
   SM w5 c B FT (S9 g s.nt cp) (S9 gs s.ns sc) H' s'/\BB (Ba c vF (S9 g s.nt cp) (S9 gs s.ns sc) H s.nt) w (Ba c FT (S9 g s.nt cp) (S9 gs s.ns sc) H' s.nt) w5):=O (λh hn hd j=>SM.fin HB HO om hz h hn hd j)
 rcases hop with hop|hop
 .have d8:(a.op==8)=true:=by simp[hop]
  have u:Hid<|Dh s a=FL (if 0<=fi then(s.T t).V fi.toNat else Cb s.F (s.T t) (Bz (s.S i).key))/\BJ s a=A7 s i t:=O (by
   obtain⟨et,U⟩:=z HE;unfold Dh BJ;simp[hop,et,U,z ai])
  clear hop;by_cases h0:0<=fi
  .obtain⟨q,rfl,az⟩:=z I h0;have r:Hid<|Dh s a=FL ((s.T t).V q)/\BJ s a=A7 s i t:=O (by
    refine⟨u.1.trans ?_,u.2⟩;rw[DD h0,NO])
   clear u h0 I;obtain⟨m,rfl,cl⟩:∃m,va=some (G m 0)/\m<w3.heap.size:=by
    obtain⟨hl,⟨hv,h0⟩|⟨g,cp,cur,hv,_,ad,_⟩⟩:=id aj
    .omega
    cases hv;exact⟨_,rfl,Ai ad⟩
   have cm:=z HO m<|.inr<|.inr<|.inr<|.inr ⟨t,M,.inl<|ql ay⟩;obtain⟨e0,e1,e2,e3,e4⟩:=Cf.at aj az;have E:OB c w.heap.size g s.nt cp t m (s.T t).nv vc q ((s.T t).V q) w3.drew:=⟨c1,a1,g1,e0,e1,e2,e3,e4⟩;have cn:=Qo.nv (HG.t t M) HG.f;generalize (s.T t).V q=x at*;obtain⟨w4,j,l⟩:=BL (w:=w3.drew) ax<|FL x;rcases E.keep (l.other c om) (l.other w.heap.size om) (l.other g om) (l.other m om),O j,O<|R (o.keep (w':=w3.drew) λ_ _=>rfl) rfl (aw.below (BE _ _).drew) l,O<|l.BH,Ai l.BH with⟨cc,n,P,Q,l4⟩;clear j l c1 a1 g1 e0 e1 e2 e3 e4 a2 a3 a4 a5 a6 a7 a8 a9 A C a12 D;go_upto_region 5 with fail
   have cq:t<(A7 s i t).nt:=M;refine Hx (OB c w.heap.size g s.nt cp t m (s.T t).nv vc q x) ?_;refine tz 0 (h:=tz 1 (h:=tz 2 (h:=tz 3 (h:=tz 4 (h:=tz 5 (h:=tz 6 (h:=tz 7 (h:=tz 8 (h:=tz 9 (h:=tz 10 (h:=tz 11 (h:=?_))))))))))));refine tz 12 (h:=?_);refine ry 13 λK hK=>?_;refine BK rfl rfl w4 n ?_;refine hK.out _ _ cc λ_=>?_;clear hK K E cc;refine FI ?_;go_wp2_with fail;refine FP results71 underlying40 Q ?_;rw[(z r).1,(z r).2];exact⟨rfl,_,_,P⟩
  have r:Hid<|Dh s a=FL (Cb s.F (s.T t)<|Bz (s.S i).key)/\BJ s a=A7 s i t:=O (by
   refine⟨u.1.trans ?_,u.2⟩;rw[C3 h0])
  have hd:decide (0<=fi)=false:=ot;clear u h0 I;have ak:=O<|MH t o b9 M ca;obtain⟨lk,k0,k1,k2,k3,k4⟩:=z b8;clear c1 g1;go_wp2_with fail;refine ak.mono ?_;rintro e w4 ⟨rfl,aM⟩;obtain⟨x,hx⟩:=qa<|Cb s.F (s.T t)<|Bz (s.S i).key;rw[show Cb (A7 s i t).F ((A7 s i t).T t) (Bz (s.S i).key)=x from hx.symm];have bj:=O hx;obtain⟨w5,j,l⟩:=BL (ax.below aM om)<|FL x;rcases O j,O<|R (o.below aM) rfl (aw.below aM) l,O<|l.BH,Ai l.BH with⟨n,P,Q,l4⟩;clear j l hx aM ak a0 a1 a2 a3 a4 a5 a6 a7 a8 a9 A C a12 D k0 k1 k2 k3 k4;go_wp2_with (refine Af rfl rfl _ n ?_);refine FP results71 underlying40 Q ?_;rw[(z r).1,(z r).2,<-z bj];exact⟨rfl,_,_,P⟩
 have d8:(a.op==8)=false:=by simp[hop]
 by_cases hc:0<=fi/\a.v.kind≠0
 .obtain⟨q,rfl,az⟩:=z I hc.1;have r:Hid<|Dh s a=BD 0/\BJ s a=Bm (A7 s i t) t (E7 (s.T t) q a.v):=O (by
   obtain⟨et,U⟩:=z HE;have h1:=ai.symm;unfold Dh BJ;simp[hop,et,U,h1,hc.2])
  have c0:(a.v.kind !=0)=true:=by simp[hc.2]
  clear hc hop I;obtain⟨m,rfl,cl⟩:∃m,va=some (G m 0)/\m<w3.heap.size:=by
   obtain⟨hl,⟨hv,h0⟩|⟨g,cp,cur,hv,_,ad,_⟩⟩:=id aj
   .omega
   cases hv;exact⟨_,rfl,Ai ad⟩
  have cm:=z HO m<|.inr<|.inr<|.inr<|.inr ⟨t,M,.inl<|ql ay⟩;obtain⟨e0,e1,e2,e3,e4⟩:=Cf.at aj az;have fv:=λq=>World.ownsRow.frozenAt aj q;have bk:=o.apart M (q:=m)<|.inl<|ql ay;have cr:c≠m:=λe=>bk.1 e.symm;have ct:g≠m:=λe=>bk.2.2.1<|qm e;have E:Mk c w.heap.size g s.nt cp t m (s.T t).nv vc a.v w3.drew:=⟨c1,a1,g1,a9,A,C,a12,D⟩;have cn:=Qo.nv (HG.t t M) HG.f;have bm:=o.iV M ay az a.v;obtain⟨w5,j,l⟩:=BL (w:=(Hp w3 m (q*5) a.v).drew) ((Ew w3 m (q*5) a.v om).trans ax)<|BD 0;rcases O j,O<|R (bm.1.keep (w':=(Hp w3 m (q*5) a.v).drew) λ_ _=>rfl) rfl ((aw.trans bm.2).below (BE _ _).drew) l,O<|l.BH,Ai l.BH with⟨n,P,Q,l4⟩;clear j l bk bm c1 g1 a1 a2 a3 a4 a5 a6 a7 a8 A C a12 D;go_upto_region 8 with fail
  have cq:t<(A7 s i t).nt:=M;refine Hx (Mk c w.heap.size g s.nt cp t m (s.T t).nv vc a.v) ?_;refine tz 0 (h:=tz 1 (h:=tz 2 (h:=tz 3 (h:=tz 4 (h:=tz 5 (h:=tz 6 (h:=tz 7 (h:=tz 8 (h:=tz 9 (h:=tz 10 (h:=tz 11 (h:=?_))))))))))));refine tz 12 (h:=?_);refine ry 13 λK hK=>?_;go_simp;refine hK.out _ (World.drew<|Hp w3 m (q*5) a.v) (Mk.keep (W:=w3) E (Ew w3 m (q*5) a.v cr) (Ew w3 m (q*5) a.v om)<|Ew w3 m (q*5) a.v ct) λ_=>?_;clear hK K E;refine FI ?_;clear e0 e1 e2 e3 e4 fv a0 a9;go_wp2_with (refine Af rfl rfl _ n ?_);refine FP results71 underlying40 Q ?_;rw[(z r).1,(z r).2];exact⟨rfl,_,_,P⟩
 have r:Hid<|Dh s a=BD (Ct (A7 s i t) t (Bz (s.S i).key) a.v)/\BJ s a=Ci (A7 s i t) t (Bz (s.S i).key) a.v:=O (by
  obtain⟨et,U⟩:=z HE;have h1:¬(0<=Bd s i t/\a.v.kind≠0):=by rw[<-z ai];exact hc
  unfold Dh BJ;simp only[hop,et,U,NO];simp only[C3 h1];exact⟨rfl,rfl⟩)
 have ao:=O<|Rv t a.v o b9 M ca hv;obtain⟨lk,k0,k1,k2,k3,k4⟩:=z b8;have harm:(0<=fi/\a.v.kind=0)\/¬0<=fi:=by
  by_cases h0:0<=fi
  .exact .inl ⟨h0,AaO λh=>hc ⟨h0,h⟩⟩
  exact .inr h0
 clear hc hop I c1 g1;rcases harm with⟨h0,h1⟩|h0
 case' inl=>
  have hd:decide (0<=fi)=true:=by simp[h0]
  have c3:(a.v.kind !=0)=false:=by simp[h1]
  clear h0 h1;go_upto_region 10 with fail
 case' inr=>
  have hd:decide (0<=fi)=false:=ot;clear h0;go_upto_region 10 with fail
 all_goals
  go_wp2_with fail
  refine ao.mono ?_;rintro e w4 ⟨rfl,FT,H',cd,bn⟩;have cg:IV w4<|w.heap.size+1:=(bn.block _ om λe=>oT<|z HO _ e).trans ax;obtain⟨x,hx⟩:=qa<|Ct (A7 s i t) t (Bz (s.S i).key) a.v;rw[<-hx];have bj:=O hx;obtain⟨w5,j,l⟩:=BL cg<|BD x;have n:=O j;have aq:(Ci (A7 s i t) t (Bz (s.S i).key) a.v).nt=s.nt:=Oh _ _ _ _;have P:=O<|R cd aq (aw.trans bn) l;have Q:=O<|l.BH;clear j l hx cd bn cg aq ao a0 a1 a2 a3 a4 a5 a6 a7 a8 a9 A C a12 D k0 k1 k2 k3 k4 hd;go_wp2_with (refine Af rfl rfl _ n ?_);refine FP results71 underlying40 Q ?_;rw[(z r).1,(z r).2,<-z bj];exact⟨rfl,_,_,P⟩
def Mh:Hs:=⟨N9,N9,N9,N9⟩
def SR:¬Mh.own q:=by
 rintro(e|e|e|e)<;>cases e
section
variable {W X w3:Y} {c B:Nat} {vF vS:V9} {H:Nat->Hs} {s:AE}
def SM.vZ(h:SM W c B vF (.slice ta s.nt tc) vS H s)(hb:B9 W X)(g:X.grownBy w3 (Value.slice ta s.nt tc).ownBlock)(r:w3.ownsRow B 71 8 (S9 g3 (s.nt+1) b) (s.nt+1)<|RY H s.T s.nt++IL Mh Ja)(hl:(Value.slice ta s.nt tc).ownBlock=some g3\/X.heap.size<=g3):
  w3.heap[c]?=some (.cells #[vF,.slice ta s.nt tc,vS] 29 (0,0))/\SM (w3.setCell (G c 1)<|S9 g3 (s.nt+1) b) c B vF (S9 g3 (s.nt+1) b) vS (AM H s.nt Mh) {s with nt:=s.nt+1,T:=AM s.T s.nt Ja}/\
  BB (Ba c vF (.slice ta s.nt tc) vS H s.nt) W (Ba c vF (S9 g3 (s.nt+1) b) vS (AM H s.nt Mh)<|s.nt+1) (w3.setCell (G c 1)<|S9 g3 (s.nt+1) b):=by
 have hk:∀k,k<W.heap.size->(Value.slice ta s.nt tc).ownBlock≠some k->w3.heap[k]?=W.heap[k]?:=λk h1 h2=>(g.block k (oT hb.size) λe=>h2 e.symm).trans<|hb.block k h1;have w:=(hk c h.lt<|h.Bc h.t oo).trans h.BH;have st:∀k,k≠c->(w3.setCell (G c 1)<|S9 g3 (s.nt+1) b).heap[k]?=w3.heap[k]?:=λk hk=>At _ _ _ _ (by exact hk);have row:∀{e Z n:Nat} {u:V9} {xs:List Value},W.ownsRow B e Z u n xs->e≠29->e≠71->∀q,u.ownBlock=some q->(w3.setCell (G c 1)<|S9 g3 (s.nt+1) b).heap[q]?=W.heap[q]?:=λp h1 h2 q e=>(st q λe'=>h.Bc p h1<|by rw[<-e'];exact e).trans<|hk q (p.lt q e).2<|Cv p h.t h2 e;have A:g3≠c:=by
  rcases hl with e|e
  .exactλe'=>h.Bc h.t oo<|by rw[<-e'];exact e
  have:=h.lt;have:=hb.size;omega
 refine⟨w,⟨h.base,?_,Ae h.f<|row h.f oo oo,?_,Ae h.si<|row h.si oo oo,λj hj=>?_,λj hj=>?_,λj hj=>?_,λj hj=>?_,λj hj=>?_,λj k q hj o e e'=>?_⟩,⟨g.os.trans hb.os,g.tape.trans hb.tape,g.output.trans hb.output,by have:=g.size;have:=hb.size;simp;omega,λk k1 k2=>?_,λk e=>?_⟩⟩
 .simp[World.setCell,Aap,w]
 .rw[Vz]at r;exact Ae r λq e=>by
   have:g3=q:=oS e;exact st q om
 .show Cf _ B (AM H s.nt Mh j).v (AM s.T s.nt Ja j).nv (AM s.T s.nt Ja j).V;by_cases e:j=s.nt
  .subst e;rw[Aj,Aj];exact IF _ _ _ _
  have a:j<s.nt:=by have:j<s.nt+1:=hj;omega
  rw[Ak _ _ e,Ak _ _ e];exact Ae (h.v j a)<|row (h.v j a) oo oo
 .show BU _ B (AM H s.nt Mh j).l (AM s.T s.nt Ja j).d.n (AM s.T s.nt Ja j).d.L;by_cases e:j=s.nt
  .subst e;rw[Aj,Aj];exact IF _ _ _ _
  have a:j<s.nt:=by have:j<s.nt+1:=hj;omega
  rw[Ak _ _ e,Ak _ _ e];exact Ae (h.l j a)<|row (h.l j a) oo oo
 .show Bt _ B (AM H s.nt Mh j).i (AM s.T s.nt Ja j).d.m (AM s.T s.nt Ja j).d.I;by_cases e:j=s.nt
  .subst e;rw[Aj,Aj];exact IF _ _ _ _
  have a:j<s.nt:=by have:j<s.nt+1:=hj;omega
  rw[Ak _ _ e,Ak _ _ e];exact Ae (h.i j a)<|row (h.i j a) oo oo
 .show Bt _ B (AM H s.nt Mh j).x (AM s.T s.nt Ja j).d.x (AM s.T s.nt Ja j).d.X;by_cases e:j=s.nt
  .subst e;rw[Aj,Aj];exact IF _ _ _ _
  have a:j<s.nt:=by have:j<s.nt+1:=hj;omega
  rw[Ak _ _ e,Ak _ _ e];exact Ae (h.x j a)<|row (h.x j a) oo oo
 .show∀q,(AM H s.nt Mh j).i.ownBlock=some q->(AM H s.nt Mh j).x.ownBlock≠some q;by_cases e:j=s.nt
  .subst e;rw[Aj];intro q e;cases e
  have a:j<s.nt:=by have:j<s.nt+1:=hj;omega
  rw[Ak _ _ e];exact h.ap j a
 .have hj:j<s.nt+1:=hj;have o:k<s.nt+1:=o;by_cases e1:j=s.nt
  .subst e1;rw[Aj]at e;exact absurd e SR
  by_cases e2:k=s.nt
  .subst e2;rw[Aj]at e';exact absurd e' SR
  rw[Ak _ _ e1]at e;rw[Ak _ _ e2]at e';exact h.ij j k q om om e e'
 .exact(st k λe=>k2<|.inl e).trans (hk k k1 λe=>k2<|.inr<|.inr<|.inl e)
 rcases e with e|e|e|e|⟨j,hj,e⟩
 .exact .inl (.inl e)
 .exact .inl (.inr<|.inl e)
 .have e':g3=k:=oS e;rcases hl with h1|h1
  .exact .inl (.inr<|.inr<|.inl<|by rw[<-e'];exact h1)
  exact .inr<|oT hb.size
 .exact .inl (.inr<|.inr<|.inr<|.inl e)
 by_cases e1:j=s.nt
 .subst e1;rw[Aj]at e;exact absurd e SR
 rw[Ak _ _ e1]at e;exact .inl<|.inr<|.inr<|.inr<|.inr ⟨j,om,e⟩
def SM.pQ{sa}{sc}(h:SM W c B vF vT (.slice sa s.ns sc) H s)x(hb:B9 W X)(b:X.grownBy w3 (Value.slice sa s.ns sc).ownBlock)(g:w3.ownsRow B 57 5 (S9 g3 (s.ns+1) a) (s.ns+1)<|JI s.S s.ns++Hr x)(hl:(Value.slice sa s.ns sc).ownBlock=some g3\/X.heap.size<=g3):
  w3.heap[c]?=some (.cells #[vF,vT,.slice sa s.ns sc] 29 (0,0))/\SM (w3.setCell (G c 2)<|S9 g3 (s.ns+1) a) c B vF vT (S9 g3 (s.ns+1) a) H {s with ns:=s.ns+1,S:=AM s.S s.ns x}/\
  BB (Ba c vF vT (.slice sa s.ns sc) H s.nt) W (Ba c vF vT (S9 g3 (s.ns+1) a) H s.nt) (w3.setCell (G c 2)<|S9 g3 (s.ns+1) a):=by
 have hk:∀k,k<W.heap.size->(Value.slice sa s.ns sc).ownBlock≠some k->w3.heap[k]?=W.heap[k]?:=λk h1 h2=>(b.block k (oT hb.size) λe=>h2 e.symm).trans<|hb.block k h1;have m:=(hk c h.lt<|h.Bc h.si oo).trans h.BH;have st:∀k,k≠c->(w3.setCell (G c 2)<|S9 g3 (s.ns+1) a).heap[k]?=w3.heap[k]?:=λk hk=>At _ _ _ _ (by exact hk);have row:∀{e Z n:Nat} {u:V9} {xs:List Value},W.ownsRow B e Z u n xs->e≠29->e≠57->∀q,u.ownBlock=some q->(w3.setCell (G c 2)<|S9 g3 (s.ns+1) a).heap[q]?=W.heap[q]?:=λd h1 h2 q e=>(st q λe'=>h.Bc d h1<|by rw[<-e'];exact e).trans<|hk q (d.lt q e).2<|Cv d h.si h2 e;have o:g3≠c:=by
  rcases hl with e|e
  .exactλe'=>h.Bc h.si oo<|by rw[<-e'];exact e
  have:=h.lt;have:=hb.size;omega
 refine⟨m,⟨h.base,?_,Ae h.f<|row h.f oo oo,Ae h.t<|row h.t oo oo,?_,λj hj=>Ae (h.v j hj)<|row (h.v j hj) oo oo,λj hj=>Ae (h.l j hj)<|row (h.l j hj) oo oo,λj hj=>Ae (h.i j hj)<|row (h.i j hj) oo oo,λj hj=>Ae (h.x j hj)<|row (h.x j hj) oo oo,h.ap,h.ij⟩,⟨b.os.trans hb.os,b.tape.trans hb.tape,b.output.trans hb.output,by have:=b.size;have:=hb.size;simp;omega,λk k1 k2=>?_,λk e=>?_⟩⟩
 .simp[World.setCell,Aap,m]
 .rw[Vr]at g;exact Ae g λq e=>by
   have:g3=q:=oS e;exact st q om
 .exact(st k λe=>k2<|.inl e).trans (hk k k1 λe=>k2<|.inr<|.inr<|.inr<|.inl e)
 rcases e with e|e|e|e|e
 .exact .inl (.inl e)
 .exact .inl (.inr<|.inl e)
 .exact .inl (.inr<|.inr<|.inl e)
 .have e':g3=k:=oS e;rcases hl with h1|h1
  .exact .inl (.inr<|.inr<|.inr<|.inl<|by rw[<-e'];exact h1)
  exact .inr<|oT hb.size
 exact .inl<|.inr<|.inr<|.inr<|.inr e
end
section
variable {W X w3:Y} {c B:Nat} {vF vS:V9} {H:Nat->Hs} {s:AE}
def SM.vY{b}{t0}(h:SM W c B vF (.slice ta s.nt tc) vS H s)(hb:B9 W X)(p:X.grownBy w3 (Value.slice ta s.nt tc).ownBlock)(D:w3.ownsRow B 71 8 (S9 g3 (s.nt+1) g) (s.nt+1)<|RY H s.T s.nt++IL b t0)(hl:(Value.slice ta s.nt tc).ownBlock=some g3\/X.heap.size<=g3)
  (nv:Cf X B b.v t0.nv t0.V) (E:BU X B b.l t0.d.n t0.d.L) (F:Bt X B b.i t0.d.m t0.d.I) (K:Bt X B b.x t0.d.x t0.d.X) (C:∀q,b.i.ownBlock=some q->b.x.ownBlock≠some q) (r:∀q,b.own q->W.heap.size<=q):
  w3.heap[c]?=some (.cells #[vF,.slice ta s.nt tc,vS] 29 (0,0))/\SM (w3.setCell (G c 1)<|S9 g3 (s.nt+1) g) c B vF (S9 g3 (s.nt+1) g) vS (AM H s.nt b) {s with nt:=s.nt+1,T:=AM s.T s.nt t0}/\
  BB (Ba c vF (.slice ta s.nt tc) vS H s.nt) W (Ba c vF (S9 g3 (s.nt+1) g) vS (AM H s.nt b)<|s.nt+1) (w3.setCell (G c 1)<|S9 g3 (s.nt+1) g):=by
 have hk:∀k,k<W.heap.size->(Value.slice ta s.nt tc).ownBlock≠some k->w3.heap[k]?=W.heap[k]?:=λk h1 h2=>(p.block k (oT hb.size) λe=>h2 e.symm).trans<|hb.block k h1;have M:=(hk c h.lt<|h.Bc h.t oo).trans h.BH;have st:∀k,k≠c->(w3.setCell (G c 1)<|S9 g3 (s.nt+1) g).heap[k]?=w3.heap[k]?:=λk hk=>At _ _ _ _ (by exact hk);have row:∀{e Z n:Nat} {u:V9} {xs:List Value},W.ownsRow B e Z u n xs->e≠29->e≠71->∀q,u.ownBlock=some q->(w3.setCell (G c 1)<|S9 g3 (s.nt+1) g).heap[q]?=W.heap[q]?:=λw h1 h2 q e=>(st q λe'=>h.Bc w h1<|by rw[<-e'];exact e).trans<|hk q (w.lt q e).2<|Cv w h.t h2 e;have o:∀{e Z n:Nat} {u:V9} {xs:List Value},X.ownsRow B e Z u n xs->(∀q,u.ownBlock=some q->b.own q)->e≠71->∀q,u.ownBlock=some q->(w3.setCell (G c 1)<|S9 g3 (s.nt+1) g).heap[q]?=X.heap[q]?:=λw h1 h2 q e=>(st q λe'=>by have:=r q<|h1 q e;have:=h.lt;omega).trans<|p.block q (w.lt q e).2 (λe'=>by have:=r q<|h1 q e;have:=(h.t.lt q e'.symm).2;omega);have P:g3≠c:=by
  rcases hl with e|e
  .exactλe'=>h.Bc h.t oo<|by rw[<-e'];exact e
  have:=h.lt;have:=hb.size;omega
 refine⟨M,⟨h.base,?_,Ae h.f<|row h.f oo oo,?_,Ae h.si<|row h.si oo oo,λj hj=>?_,λj hj=>?_,λj hj=>?_,λj hj=>?_,λj hj=>?_,λj k q hj A e e'=>?_⟩,⟨p.os.trans hb.os,p.tape.trans hb.tape,p.output.trans hb.output,by have:=p.size;have:=hb.size;simp;omega,λk k1 k2=>?_,λk e=>?_⟩⟩
 .simp[World.setCell,Aap,M]
 .rw[Vz]at D;exact Ae D λq e=>by
   have:g3=q:=oS e;exact st q om
 .show Cf _ B (AM H s.nt b j).v (AM s.T s.nt t0 j).nv (AM s.T s.nt t0 j).V;by_cases e:j=s.nt
  .subst e;rw[Aj,Aj];exact Ae nv<|o nv (λq e=>.inl e) oo
  have a:j<s.nt:=by have:j<s.nt+1:=hj;omega
  rw[Ak _ _ e,Ak _ _ e];exact Ae (h.v j a)<|row (h.v j a) oo oo
 .show BU _ B (AM H s.nt b j).l (AM s.T s.nt t0 j).d.n (AM s.T s.nt t0 j).d.L;by_cases e:j=s.nt
  .subst e;rw[Aj,Aj];exact Ae E<|o E (λq e=>.inr<|.inl e) oo
  have a:j<s.nt:=by have:j<s.nt+1:=hj;omega
  rw[Ak _ _ e,Ak _ _ e];exact Ae (h.l j a)<|row (h.l j a) oo oo
 .show Bt _ B (AM H s.nt b j).i (AM s.T s.nt t0 j).d.m (AM s.T s.nt t0 j).d.I;by_cases e:j=s.nt
  .subst e;rw[Aj,Aj];exact Ae F<|o F (λq e=>.inr<|.inr<|.inl e) oo
  have a:j<s.nt:=by have:j<s.nt+1:=hj;omega
  rw[Ak _ _ e,Ak _ _ e];exact Ae (h.i j a)<|row (h.i j a) oo oo
 .show Bt _ B (AM H s.nt b j).x (AM s.T s.nt t0 j).d.x (AM s.T s.nt t0 j).d.X;by_cases e:j=s.nt
  .subst e;rw[Aj,Aj];exact Ae K<|o K (λq e=>.inr<|.inr<|.inr e) oo
  have a:j<s.nt:=by have:j<s.nt+1:=hj;omega
  rw[Ak _ _ e,Ak _ _ e];exact Ae (h.x j a)<|row (h.x j a) oo oo
 .show∀q,(AM H s.nt b j).i.ownBlock=some q->(AM H s.nt b j).x.ownBlock≠some q;by_cases e:j=s.nt
  .subst e;rw[Aj];exact C
  have a:j<s.nt:=by have:j<s.nt+1:=hj;omega
  rw[Ak _ _ e];exact h.ap j a
 .have hj:j<s.nt+1:=hj;have A:k<s.nt+1:=A;by_cases e1:j=s.nt
  .by_cases e2:k=s.nt
   .omega
   subst e1;rw[Aj]at e;rw[Ak _ _ e2]at e';have:=r q e;have:=(h.row (i:=k) om e').2.1;omega
  by_cases e2:k=s.nt
  .subst e2;rw[Aj]at e';rw[Ak _ _ e1]at e;have:=r q e';have:=(h.row (i:=j) om e).2.1;omega
  rw[Ak _ _ e1]at e;rw[Ak _ _ e2]at e';exact h.ij j k q om om e e'
 .exact(st k λe=>k2<|.inl e).trans (hk k k1 λe=>k2<|.inr<|.inr<|.inl e)
 rcases e with e|e|e|e|⟨j,hj,e⟩
 .exact .inl (.inl e)
 .exact .inl (.inr<|.inl e)
 .have e':g3=k:=oS e;rcases hl with h1|h1
  .exact .inl (.inr<|.inr<|.inl<|by rw[<-e'];exact h1)
  exact .inr<|oT hb.size
 .exact .inl (.inr<|.inr<|.inr<|.inl e)
 by_cases e1:j=s.nt
 .subst e1;rw[Aj]at e;exact .inr<|r k e
 rw[Ak _ _ e1]at e;exact .inl<|.inr<|.inr<|.inr<|.inr ⟨j,om,e⟩
end
structure TS (wr:Y) (va:T9) (vc:Nat) (la:T9) (lc:Nat) (ia:T9) (ic:Nat) (xa:T9) (xc:Nat) (t:Tb) (q:Nat) (vV:V9) (wj:Y):Prop where
 b5:wj.heap[wr.heap.size]?=some (.cells #[J t.shape,.slice va t.nv vc,.slice la t.d.n lc,.slice ia t.d.m ic,.slice xa t.d.x xc,J t.d.used,J t.d.live,J t.d.turns] 71 (0,0))
 b6:wj.heap[wr.heap.size+1]?=some (.cells #[J t.shape,vV,N9,N9,N9,J 0,J 0,J 0] 71 (0,0))
 row:Cf wj (wr.heap.size+2) vV q t.V
 below:B9 wr wj
section
variable {wr wj X w5:Y} {va:Option Addr} {vc:Nat} {la:Option Addr} {lc:Nat} {ia:Option Addr} {ic:Nat} {xa:Option Addr} {xc:Nat} {t:Tb} {q:Nat} {vV:V9}
def TS.step(h:TS wr va vc la lc ia ic xa xc t q vV wj){g3 a}(hb:B9 wj X)(c:X.grownBy w5 vV.ownBlock)(d:w5.ownsRow (wr.heap.size+2) 32 5 (S9 g3 (q+1) a) (q+1)<|Mf t.V q++H8 (t.V q))(hl:vV.ownBlock=some g3\/X.heap.size<=g3):
  w5.heap[wr.heap.size+1]?=some (.cells #[J t.shape,vV,N9,N9,N9,J 0,J 0,J 0] 71 (0,0))/\TS wr va vc la lc ia ic xa xc t (q+1) (S9 g3 (q+1) a) (w5.setCell (Y9 wr 1)<|S9 g3 (q+1) a):=by
 have g:=Ai h.b6;have b:∀k,vV.ownBlock=some k->wr.heap.size+2<=k:=λk e=>(h.row.lt k e).1;have hk:∀k,k<wj.heap.size->vV.ownBlock≠some k->w5.heap[k]?=wj.heap[k]?:=λk h1 h2=>(c.block k (oT hb.size) λe=>h2 e.symm).trans<|hb.block k h1;have st:∀k,k≠wr.heap.size+1->(w5.setCell (Y9 wr 1)<|S9 g3 (q+1) a).heap[k]?=w5.heap[k]?:=λk hk=>At _ _ _ _ (by exact hk);have f:=(hk (wr.heap.size+1) g λe=>oT<|b _ e).trans h.b6;have i:g3≠wr.heap.size+1:=by
  rcases hl with e|e
  .have:=b _ e;omega
  have:=hb.size;omega
 rcases hb.size,c.size,h.below.size with⟨j,z2,z3⟩;refine⟨f,(st _ om).trans<|(hk _ om λe=>oT<|b _ e).trans h.b5,C8 f _,?_,?_⟩
 .rw[Mg,IM]at d;exact Ae d λk e=>by
   have:g3=k:=oS e;exact st k om
 have hs:=Ha w5 (Y9 wr 1)<|S9 g3 (q+1) a;exact⟨by rw[hs.1,c.os,hb.os,h.below.os],by rw[hs.2.1,c.tape,hb.tape,h.below.tape],by rw[hs.2.2.1,c.output,hb.output,h.below.output],by rw[hs.2.2.2];omega,λk k1=>(st k om).trans<|(hk k om λe=>oT<|b _ e).trans<|h.below.block k k1⟩
def TS.Km(h:TS wr va vc la lc ia ic xa xc t t.nv vV wj){w4:Y}{v0 v1 v2}(hb:B9 wj w4)(b:kU w4 (wj.heap.size+1) v0 v1 v2 t.d){a:Y}(c:a=(((((w4.setCell (G (wr.heap.size+1) 2) v0).setCell (G (wr.heap.size+1) 3) v1).setCell (G (wr.heap.size+1) 4) v2).setCell (G (wr.heap.size+1) 5)<|J t.d.used).setCell (G (wr.heap.size+1) 6)<|J t.d.live).setCell (G (wr.heap.size+1) 7) (J t.d.turns)):
  a.heap[wr.heap.size+1]?=some (.cells (IL ⟨vV,v0,v1,v2⟩ t).toArray 71 (0,0))/\Cf a (wr.heap.size+2) vV t.nv t.V/\BU a (wr.heap.size+2) v0 t.d.n t.d.L/\Bt a (wr.heap.size+2) v1 t.d.m t.d.I/\Bt a (wr.heap.size+2) v2 t.d.x t.d.X/\B9 wr a:=by
 have f:=Ai h.b6;have g:=(hb.block _ f).trans h.b6;have st:∀k,k≠wr.heap.size+1->a.heap[k]?=w4.heap[k]?:=λk hk=>by
  rw[c];iterate 6 rw[At _ _ _ _ (by exact hk)]
 have hs:a.os=w4.os/\a.tape=w4.tape/\a.output=w4.output/\a.heap.size=w4.heap.size:=by
  rw[c];refine⟨?_,?_,?_,?_⟩
  .iterate 6 rw[(Ha _ _ _).1]
  .iterate 6 rw[(Ha _ _ _).2.1]
  .iterate 6 rw[(Ha _ _ _).2.2.1]
  iterate 6 rw[(Ha _ _ _).2.2.2]
 have i:=hb.size;have z3:=h.below.size;refine⟨?_,Ae h.row λk e=>?_,Ae (Eu b.log om) λk e=>st k<|oT (b.log.lt k e).1,Ae (Eu b.ints om) λk e=>st k<|oT (b.ints.lt k e).1,Ae (Eu b.index om) λk e=>st k<|oT (b.index.lt k e).1,⟨by rw[hs.1,hb.os,h.below.os],by rw[hs.2.1,hb.tape,h.below.tape],by rw[hs.2.2.1,hb.output,h.below.output],by rw[hs.2.2.2];omega,λk k1=>(st k om).trans<|(hb.block k om).trans<|h.below.block k k1⟩⟩
 .rw[c];exact C8 (C8 (C8 (C8 (C8 (C8 g _) _) _) _) _) _
 have:=h.row.lt k e;exact(st k om).trans (hb.block k this.2)
end
def Se(b:Nat)(h:Hs)(t:Tb)(W:Y):Prop:=W.cell? (G b 0)=some (J t.shape)/\W.cell? (G b 1)=some h.v/\W.cell? (G b 2)=some h.l/\W.cell? (G b 3)=some h.i/\W.cell? (G b 4)=some h.x/\W.cell? (G b 5)=some (J t.d.used)/\W.cell? (G b 6)=some (J t.d.live)/\W.cell? (G b 7)=some (J t.d.turns)
def J3{h}{t}(hb:W.heap[b]?=some (.cells (IL h t).toArray 71 (0,0))):Se b h t W:=by
 refine⟨?_,?_,?_,?_,?_,?_,?_,?_⟩;all_goals(rw[Hi W b _ _ _ _ hb];rfl)
def Sd(b:Nat)(x:Si)(W:Y):Prop:=W.cell? (G b 0)=some (.string x.key)/\W.cell? (G b 1)=some (J x.shape)/\W.cell? (G b 2)=some (J x.place)/\W.cell? (G b 3)=some (J x.BO)/\W.cell? (G b 4)=some (J x.misses)
def J2{x}(hb:W.heap[b]?=some (.cells (Hr x).toArray 57 (0,0))):Sd b x W:=by
 refine⟨?_,?_,?_,?_,?_⟩;all_goals(rw[Hi W b _ _ _ _ hb];rfl)
abbrev VX(c B:Nat)(vF vT vS:V9)(H:Nat->Hs)(s:AE)(a:Ac)(w:Y):Prop:=
 C9 30 #[Q9 c,I5 a] w λe w'=>e=.returned (H9<|Dg s a)/\∃FT BT B1 H',SM w' c B FT BT B1 H' (AR s a)/\BB (Ba c vF vT vS H s.nt) w (Ba c FT BT B1 H' (AR s a).nt) w'
def SM.ends(hb:B9 w W)(a:∀k,Ba c vF vT vS H s.nt k->k<w.heap.size)(hz:w.heap.size+1<W.heap.size)(b:SM W c B vF vT vS H s)(d:IV W<|w.heap.size+1)(h1:B9 W w1)x:
  ∃w2,(Instr.storeAt 40 (Q9<|w.heap.size+1)<|H9 x).run prog w1=.ok () w2/\w2.heap[w.heap.size+1]?=some (.cells (Mx x).toArray 40 (0,0))/\SM w2 c B vF vT vS H s/\BB (Ba c vF vT vS H s.nt) w (Ba c vF vT vS H s.nt) w2:=by
 obtain⟨w2,h2,h3⟩:=BL (d.below h1 hz) x;exact⟨w2,h2,h3.BH,SM.fin hb a om hz (b.below h1) rfl (BB.Am h1) h3⟩
theorem tA c B vF vT vS H s a w(hD:SM w c B vF vT vS H s)(m:Kl s)(b:Cx a=false):VX c B vF vT vS H s a w:=by
 have d:Hid<|Dg s a=BD 1/\AR s a=s:=O (by simp[Dg,AR,H7,b]);obtain⟨ta,tc,rfl⟩:=Au hD.t;obtain⟨sa,sc,rfl⟩:=Au hD.si;rcases m.nt,m.ns,boxes w a with⟨v,x,⟨W,q,g,hA,r,hz⟩⟩;have A:Hid<|∀k,Ba c vF (.slice ta s.nt tc) (.slice sa s.ns sc) H s.nt k->k<w.heap.size:=O λk h=>(hD.IC h).2;rcases hD.lt,O<|hD.below g,O g,O hA,O r,O m with⟨C,D,E,I,F,K⟩;clear hD g hA r m;go_enter func30,ntmps30;go_wp2_with fail;rw[<-q];clear q;refine(Fm a _).mono ?_;rw[b];rintro e w1 ⟨rfl,i⟩;have u:=O i;clear i;have L:=u.size;have M:w.heap.size<w1.heap.size:=om;have P:w.heap.size+1<w1.heap.size:=om;have Q:c<w1.heap.size:=om;obtain⟨R,j,l,f⟩:=SM.ends E A hz D F u<|BD 1;rcases O j,O f,O l with⟨n,o,p⟩;clear j f l;go_wp2_with (refine Af rfl rfl _ n ?_);refine FP results30 underlying40 p ?_;rw[(z d).1,(z d).2];exact⟨rfl,_,_,_,_,o⟩
theorem tB c B vF vT vS H s a w(hD:SM w c B vF vT vS H s)(o:Kl s)(b:Cx a=true)(A:Dl a.op=true)(h2:(s.nt:Int)<=a.t):VX c B vF vT vS H s a w:=by
 have d:Hid<|Dg s a=BD 2/\AR s a=s:=O (by simp[Dg,AR,H7,b,A,h2]);have e2:decide ((s.nt:Int)<=a.t)=true:=by simpa using h2
 clear h2;generalize P:EH a.op=sB;obtain⟨ta,tc,rfl⟩:=Au hD.t;obtain⟨sa,sc,rfl⟩:=Au hD.si;rcases o.nt,o.ns,boxes w a with⟨Q,R,⟨W,C,i,hA,D,hz⟩⟩;have S:Hid<|∀k,Ba c vF (.slice ta s.nt tc) (.slice sa s.ns sc) H s.nt k->k<w.heap.size:=O λk h=>(hD.IC h).2;rcases hD.lt,O<|hD.below i,O i,O hA,O D,O o with⟨T,E,U,V,X,HG⟩;clear hD i hA D o;go_enter func30,ntmps30;go_wp2_with fail;rw[<-C];clear C;refine(Fm a _).mono ?_;rw[b];rintro e w1 ⟨rfl,j⟩;have f:=O j;clear j;have F:=f.size;have I:w.heap.size<w1.heap.size:=om;have K:w.heap.size+1<w1.heap.size:=om;have L:c<w1.heap.size:=om;obtain⟨a0,a1,a2,a3,a4,a5,Z,a7,a8,a9,p,q,a12,r⟩:=(V.below f om).all;obtain⟨_,c1,c2,_⟩:=(E.below f).cells;go_wp2_with fail;refine(FA a.op _).mono ?_;rw[A,P];rintro e w2 ⟨rfl,M⟩;rw[M];clear M w2;go_wp2_with fail;refine qr w1 ?_;(iterate 11 refine N (h:=?_));refine Hz ?_;intro w2 l;clear F I K L a0 a1 a2 a3 a4 a5 Z a7 a8 a9 p q a12 r c1 c2;have f:=O<|o9 f l;clear l;have F:=f.size;have I:w.heap.size<w2.heap.size:=om;have K:w.heap.size+1<w2.heap.size:=om;have L:c<w2.heap.size:=om;obtain⟨w9,m,n,g⟩:=SM.ends U S hz E X f<|BD 2;rcases O m,O g,O n with⟨u,v,x⟩;clear m g n;go_wp2_with (refine Af rfl rfl _ u ?_);refine FP results30 underlying40 x ?_;rw[(z d).1,(z d).2];exact⟨rfl,_,_,_,_,v⟩
theorem tC c B vF vT vS H s a w(hD:SM w c B vF vT vS H s)(R:Kl s)(d:Cx a=true)(u:Dl a.op=true)(v:EH a.op=true)(h2:a.t<(s.nt:Int))(h3:(s.ns:Int)<=a.site):VX c B vF vT vS H s a w:=by
 have f:Hid<|Dg s a=BD 3/\AR s a=s:=O (by simp[Dg,AR,H7,d,u,v,h3,show¬(s.nt:Int)<=a.t by omega]);have e2:decide ((s.nt:Int)<=a.t)=false:=by simpa using h2
 have e3:decide ((s.ns:Int)<=a.site)=true:=by simpa using h3
 obtain⟨ta,tc,rfl⟩:=Au hD.t;obtain⟨sa,sc,rfl⟩:=Au hD.si;obtain⟨W,E,i,hA,F,hz⟩:=boxes w a;have I:Hid<|∀k,Ba c vF (.slice ta s.nt tc) (.slice sa s.ns sc) H s.nt k->k<w.heap.size:=O λk h=>(hD.IC h).2;have K:=hD.lt;have l:=hD.below i;go_enter func30,ntmps30;go_wp2_with fail;rw[<-E];refine(Fm a _).mono ?_;rw[d];rintro e w1 ⟨rfl,m⟩;have b:=O m;have x:=b.size;have A:w.heap.size<w1.heap.size:=om;have C:w.heap.size+1<w1.heap.size:=om;have D:c<w1.heap.size:=om;obtain⟨a0,a1,a2,a3,a4,a5,L,M,P,a9,n,o,a12,p⟩:=(hA.below b om).all;obtain⟨_,c1,c2,_⟩:=(l.below b).cells;go_wp2_with fail;refine(FA a.op _).mono ?_;rw[u,v];rintro e w2 ⟨rfl,Q⟩;rw[Q];go_wp2_with fail;refine qr w1 ?_;(iterate 11 refine N (h:=?_));refine Hz ?_;intro w2 g;have b:=o9 b g;have x:=b.size;have A:w.heap.size<w2.heap.size:=om;have C:w.heap.size+1<w2.heap.size:=om;have D:c<w2.heap.size:=om;obtain⟨a0,a1,a2,a3,a4,a5,L,M,P,a9,n,o,a12,p⟩:=(hA.below b om).all;obtain⟨_,c1,c2,_⟩:=(l.below b).cells;go_wp2_with fail;refine qr w2 ?_;(iterate 11 refine N (h:=?_));refine Hz ?_;intro w3 g;have b:=o9 b g;have x:=b.size;have A:w.heap.size<w3.heap.size:=om;have C:w.heap.size+1<w3.heap.size:=om;have D:c<w3.heap.size:=om;obtain⟨S,q,r,j⟩:=SM.ends i I hz l F b<|BD 3;go_wp2_with (refine Af rfl rfl _ (z<|O q) ?_);refine FP results30 underlying40 (z<|O r) ?_;rw[(z f).1,(z f).2];exact⟨rfl,_,_,_,_,z<|O j⟩
def jP{a}(h:a.op=8\/a.op=9):(BJ s a).nt=s.nt:=by
 unfold BJ;rcases h with h|h
 .simp[h,A7]
 simp only[h];simp only[show¬((9:Int)=1) by decide,show¬((9:Int)=7) by decide,show¬((9:Int)=2) by decide,show¬((9:Int)=8) by decide,Aad,if_true];split
 .rfl
 exact Oh _ _ _ _
def RR{a}(hD:SM w c B vF vT vS H s)(Z:Kl s)(m:Cx a=true)(hop:a.op=8\/a.op=9)(t:Nat)(et:a.t=t)(h2:t<s.nt)(i:Nat)(es:a.site=i)(h3:i<s.ns)(hv:a.v.ok=true):VX c B vF vT vS H s a w:=by
 rcases hop with hop|hop
 case' inl=>
  have d8:(a.op==8)=true:=by simp[hop]
  have d9:(a.op==9)=false:=by simp[hop]
 case' inr=>
  have d8:(a.op==8)=false:=by simp[hop]
  have d9:(a.op==9)=true:=by simp[hop]
 all_goals
  have hT:Dl a.op=true:=by rw[hop];decide
  have hS:EH a.op=true:=by rw[hop];decide
  obtain⟨kc,M⟩:=qd<|De a.k;obtain⟨q,P⟩:=qd<|CZ a.k;have n:Hid<|Dg s a=Dh s a/\AR s a=BJ s a:=O (by
   have h0:H7 a s.nt s.ns=0:=by
    have x1:¬(s.nt:Int)<=a.t:=om;have x2:¬(s.ns:Int)<=a.site:=om;simp[H7,m,Dl,EH,hop,x1,x2]
   rw[Dg,AR,DD h0,DD h0];exact⟨rfl,rfl⟩)
  have e2:decide ((s.nt:Int)<=a.t)=false:=ot;have e3:decide ((s.ns:Int)<=a.site)=false:=ot;have ES:=O es;have o:Hid<|a.op=8\/a.op=9:=O om;clear es;have ad:=O M;have ae:=O P;clear M P;have d1:(a.op==1)=false:=by simp[hop]
  have d2:(a.op==2)=false:=by simp[hop]
  have d3:(a.op==3)=false:=by simp[hop]
  have d7:(a.op==7)=false:=by simp[hop]
  have aj:=O hop;clear hop;have ET:=O et;clear et;obtain⟨ta,tc,rfl⟩:=Au hD.t;obtain⟨sa,sc,rfl⟩:=Au hD.si;rcases Z.nt,Z.ns,boxes w a with⟨ak,ao,⟨W,hW,r,hA,hR,hz⟩⟩;have HO:Hid<|∀k,Ba c vF (.slice ta s.nt tc) (.slice sa s.ns sc) H s.nt k->k<w.heap.size:=O λk h=>(hD.IC h).2;rcases hD.lt,O<|hD.below r,O r,O hA,O hR,O Z with⟨aq,Q,HB,HA,HQ,HG⟩;clear hD r hA hR Z;go_enter func30,ntmps30;go_wp2_with fail;rw[<-hW];clear hW;refine(Fm a _).mono ?_;rw[m];rintro e w1 ⟨rfl,R⟩;have b:=O R;clear R;have u:=b.size;have A:w.heap.size<w1.heap.size:=om;have C:w.heap.size+1<w1.heap.size:=om;have D:c<w1.heap.size:=om;obtain⟨a0,a1,a2,a3,a4,a5,E,F,I,a9,d,f,a12,g⟩:=(HA.below b om).all;obtain⟨_,c1,c2,_⟩:=(Q.below b).cells;go_wp2_with fail;refine(FA a.op _).mono ?_;rw[hT,hS];rintro e w2 ⟨rfl,ew⟩;rw[ew];clear ew w2;go_wp2_with fail;refine qr w1 ?_;(iterate 11 refine N (h:=?_));refine Hz ?_;intro w2 j;clear u A C D a0 a1 a2 a3 a4 a5 E F I a9 d f a12 g c1 c2;have b:=O<|o9 b j;clear j;have u:=b.size;have A:w.heap.size<w2.heap.size:=om;have C:w.heap.size+1<w2.heap.size:=om;have D:c<w2.heap.size:=om;obtain⟨a0,a1,a2,a3,a4,a5,E,F,I,a9,d,f,a12,g⟩:=(HA.below b om).all;obtain⟨_,c1,c2,_⟩:=(Q.below b).cells;go_wp2_with fail;refine qr w2 ?_;(iterate 11 refine N (h:=?_));refine Hz ?_;intro w3 j;clear u A C D a0 a1 a2 a3 a4 a5 E F I a9 d f a12 g c1 c2;have b:=O<|o9 b j;clear j;have u:=b.size;have A:w.heap.size<w3.heap.size:=om;have C:w.heap.size+1<w3.heap.size:=om;have D:c<w3.heap.size:=om;obtain⟨a0,a1,a2,a3,a4,a5,E,F,I,a9,d,f,a12,g⟩:=(HA.below b om).all;obtain⟨_,c1,c2,_⟩:=(Q.below b).cells;go_wp2_with fail;refine(Ht a.k.kind a.k.num a.k.Ah a.k.str a.k.ref _).mono ?_;rw[EF,z ad,z ae];rintro e w4 ⟨rfl,S⟩;clear u A C D a0 a1 a2 a3 a4 a5 E F I a9 d f a12 g c1 c2;have b:=O<|o9 b S;clear S;have u:=b.size;have A:w.heap.size<w4.heap.size:=om;have C:w.heap.size+1<w4.heap.size:=om;have D:c<w4.heap.size:=om;obtain⟨a0,a1,a2,a3,a4,a5,E,F,I,a9,d,f,a12,g⟩:=(HA.below b om).all;obtain⟨_,c1,c2,_⟩:=(Q.below b).cells;have l:Hid<|B9 W<|w4.alloc<|.cells #[J kc,J q.kind,J q.num,F9 q.Ah,.string q.str,J q.ref] 133:=O<|b.alloc b.size _;have T:=O<|UT a t i (Q.below l) HG ET h2 ES h3 o hv;go_wp2_with fail;refine T.mono ?_;rintro e w5 ⟨rfl,ar,H5,U,K⟩;obtain⟨x,hx⟩:=qa<|Dh s a;rw[<-hx];have af:=O hx;clear hx T;clear u A C D a0 a1 a2 a3 a4 a5 E F I a9 d f a12 g c1 c2;have p:(BJ s a).nt=s.nt:=jP o;have V:IV w5<|w.heap.size+1:=(K.block _ (oT l.size) λe=>oT<|z HO _ e).trans<|HQ.below l om;obtain⟨w9,X,L⟩:=BL V x;have ag:=O X;have ah:=O<|SM.fin HB HO om hz U p ((BB.Am l).trans K) L;have ai:=O<|L.BH;clear V X L U K;go_wp2_with (refine Af rfl rfl _ ag ?_);refine FP results30 underlying40 ai ?_;rw[(z n).1,(z n).2,<-z af,p];exact⟨rfl,_,_,_,_,ah⟩
theorem Vm c B vF vT vS H s a w(hD:SM w c B vF vT vS H s)(hG:Kl s)(r:Cx a=true)(h:(a.op=1/\s.nt=100)\/(a.op=7/\s.ns=50)\/(a.op=1/\s.nt≠100)\/(a.op=7/\s.ns≠50)):VX c B vF vT vS H s a w:=by
 rcases h with⟨d,hf⟩|⟨d,hf⟩|⟨d,hf⟩|⟨d,hf⟩
 case' inl=>
  have g:Hid<|Dg s a=BD 5/\AR s a=s:=O (by
   have L:H7 a s.nt s.ns=0:=by simp[H7,r,Dl,EH,d]
   rw[Dg,AR,DD L,DD L];simp[Dh,BJ,d,hf])
  have e5:((s.nt:Int)==100)=true:=ot;have d1:(a.op==1)=true:=by simp[d]
  have d7:(a.op==7)=false:=by simp[d]
 case' inr.inl=>
  have g:Hid<|Dg s a=BD 5/\AR s a=s:=O (by
   have L:H7 a s.nt s.ns=0:=by simp[H7,r,Dl,EH,d]
   rw[Dg,AR,DD L,DD L];simp[Dh,BJ,d,hf])
  have e5:((s.ns:Int)==50)=true:=ot;have d1:(a.op==1)=false:=by simp[d]
  have d7:(a.op==7)=true:=by simp[d]
 case' inr.inr.inl=>
  have g:Hid<|Dg s a=Dx s.nt/\AR s a={s with nt:=s.nt+1,T:=AM s.T s.nt Ja}:=O (by
   have L:H7 a s.nt s.ns=0:=by simp[H7,r,Dl,EH,d]
   rw[Dg,AR,DD L,DD L];simp[Dh,BJ,d,hf])
  have e5:((s.nt:Int)==100)=false:=ot;have d1:(a.op==1)=true:=by simp[d]
  have d7:(a.op==7)=false:=by simp[d]
 case' inr.inr.inr=>
  have g:Hid<|Dg s a=Dx s.ns/\AR s a={s with ns:=s.ns+1,S:=AM s.S s.ns ⟨a.k.str,-1,0,0,0⟩}:=O (by
   have L:H7 a s.nt s.ns=0:=by simp[H7,r,Dl,EH,d]
   rw[Dg,AR,DD L,DD L];simp[Dh,BJ,d,hf])
  have e5:((s.ns:Int)==50)=false:=ot;have d1:(a.op==1)=false:=by simp[d]
  have d7:(a.op==7)=true:=by simp[d]
 all_goals
  have hT:Dl a.op=false:=by rw[d];decide
  have hS:EH a.op=false:=by rw[d];decide
  have d2:(a.op==2)=false:=by simp[d]
  have d3:(a.op==3)=false:=by simp[d]
  clear d;obtain⟨kc,aw⟩:=qd<|De a.k;obtain⟨l,ax⟩:=qd<|CZ a.k;have bf:=O aw;have bg:=O ax;clear aw ax;clear hf;obtain⟨ta,tc,rfl⟩:=Au hD.t;obtain⟨sa,sc,rfl⟩:=Au hD.si;rcases hG.nt,hG.ns,boxes w a with⟨bp,bq,⟨W,hW,V,hA,hR,hz⟩⟩;have HO:Hid<|∀k,Ba c vF (.slice ta s.nt tc) (.slice sa s.ns sc) H s.nt k->k<w.heap.size:=O λk h=>(hD.IC h).2;rcases hD.lt,hD.below V,O hA with⟨br,M,HA⟩;clear hD hA hG;go_enter func30,ntmps30;go_wp2_with fail;rw[<-hW];clear hW;refine(Fm a _).mono ?_;rw[r];rintro e w1 ⟨rfl,ay⟩;have i:=O ay;clear ay;have zz:=i.size;have za:w.heap.size<w1.heap.size:=om;have zr:w.heap.size+1<w1.heap.size:=om;have zc:c<w1.heap.size:=om;obtain⟨a0,a1,a2,a3,a4,a5,a6,a7,a8,a9,C,D,a12,E⟩:=(HA.below i om).all;obtain⟨_,c1,c2,_⟩:=(M.below i).cells;go_wp2_with fail;refine(FA a.op _).mono ?_;rw[hT,hS];rintro e w2 ⟨rfl,ew⟩;rw[ew];clear ew w2;go_wp2_with fail;refine qr w1 ?_;refine N (h:=N (h:=?_));iterate 8 (go_big_quiet_step (fail))
  refine N (h:=?_);refine Hz ?_;intro w2 P;clear zz za zr zc a0 a1 a2 a3 a4 a5 a6 a7 a8 a9 C D a12 E c1 c2;have i:=o9 i P;clear P;have zz:=i.size;have za:w.heap.size<w2.heap.size:=om;have zr:w.heap.size+1<w2.heap.size:=om;have zc:c<w2.heap.size:=om;obtain⟨a0,a1,a2,a3,a4,a5,a6,a7,a8,a9,C,D,a12,E⟩:=(HA.below i om).all;obtain⟨_,c1,c2,_⟩:=(M.below i).cells;go_wp2_with fail;refine qr w2 ?_;refine N (h:=N (h:=?_));iterate 8 (go_big_quiet_step (fail))
  refine N (h:=?_);refine Hz ?_;intro w3 P;clear zz za zr zc a0 a1 a2 a3 a4 a5 a6 a7 a8 a9 C D a12 E c1 c2;have i:=o9 i P;clear P;have zz:=i.size;have za:w.heap.size<w3.heap.size:=om;have zr:w.heap.size+1<w3.heap.size:=om;have zc:c<w3.heap.size:=om;obtain⟨a0,a1,a2,a3,a4,a5,a6,a7,a8,a9,C,D,a12,E⟩:=(HA.below i om).all;obtain⟨_,c1,c2,_⟩:=(M.below i).cells;go_wp2_with fail;refine(Ht a.k.kind a.k.num a.k.Ah a.k.str a.k.ref _).mono ?_;rw[EF,z bf,z bg];rintro e w4 ⟨rfl,F⟩;clear zz za zr zc a0 a1 a2 a3 a4 a5 a6 a7 a8 a9 C D a12 E c1 c2;have i:=o9 i F;clear F;have zz:=i.size;have za:w.heap.size<w4.heap.size:=om;have zr:w.heap.size+1<w4.heap.size:=om;have zc:c<w4.heap.size:=om;obtain⟨a0,a1,a2,a3,a4,a5,a6,a7,a8,a9,C,D,a12,E⟩:=(HA.below i om).all;obtain⟨_,c1,c2,_⟩:=(M.below i).cells
 .obtain⟨i0,ag,ah,ai,aj⟩:=Ok Jo;obtain⟨X,hX,F,_⟩:=Ll w4<|.cells #[J kc,J l.kind,J l.num,F9 l.Ah,.string l.str,J l.ref] 133;have az:B9 W X:=o9 i F;obtain⟨Z,hY⟩:=qa<|(X.alloc<|.cells #[.string a.k.str,J (-1),J 0,J 0,J 0] 57).drew;have ae:B9 X Z:=by rw[hY];exact(n9).drew
  have zX:=az.size;have zY:Z.heap.size=X.heap.size+1:=by rw[hY];simp
  have o:B9 W Z:=az.trans<|ae.mono zX;have ak:Z.ownsRow B 57 5 (.slice sa s.ns sc) s.ns<|JI s.S s.ns:=Xf (M.si) o;have bh:Hid<|∀j u,(Hr ⟨a.k.str,-1,0,0,0⟩)[j]?=some u->Z.cell? (((y X 0):Addr).add j)=some u:=O (by rw[hY];exact Is (w:=(X.alloc _).drew)<|DO X _);have aM:B<=Z.heap.size:=oT M.base;have ao:X.drew.cell? (y w 7)=some (.string a.k.str):=(F.cell (p:=y w 7) za).trans a7;have af:Z.cell? (y w 7)=some (.string a.k.str):=o7 ae (by show w.heap.size<X.heap.size;omega) ao;have xc:X.cell? (G c 2)=some (.slice sa s.ns sc):=o7 F zc c2;have yc:Z.cell? (G c 2)=some (.slice sa s.ns sc):=o7 ae (by show c<X.heap.size;omega) xc;have HF:Hid (∀g3 f w3,w3.ownsRow B 57 5 (S9 g3 (s.ns+1) f) (s.ns+1) (JI s.S s.ns++Hr ⟨a.k.str,-1,0,0,0⟩)->Z.grownBy w3 (Value.slice sa s.ns sc).ownBlock->((Value.slice sa s.ns sc).ownBlock=some g3\/g3=Z.heap.size)->
    w3.cell? (y w 7)=some (.string a.k.str)/\(w3.setCell (G c 2) (S9 g3 (s.ns+1) f)).cell? (y w 7)=some (.string a.k.str)/\w3.cell? (G c 2)=some (.slice sa s.ns sc)/\w3.frozen? (G c 2)=false/\c<w3.heap.size/\∃A,Hid ((Instr.storeAt 40 (Q9 (w.heap.size+1)) (H9 (Dx s.ns))).run prog (w3.setCell (G c 2) (S9 g3 (s.ns+1) f))=.ok () A)/\A.heap[w.heap.size+1]?=some (.cells (Mx (Dx s.ns)).toArray 40 (0,0))/\Hid (∃FT BT B1 H',SM A c B FT BT B1 H' {s with ns:=s.ns+1,S:=AM s.S s.ns ⟨a.k.str,-1,0,0,0⟩}/\BB (Ba c vF (.slice ta s.nt tc) (.slice sa s.ns sc) H s.nt) w (Ba c FT BT B1 H' s.nt) A)):=O (λg3 f w3 h1 h2 h3=>by
   obtain⟨k1,k2,k3⟩:=M.pQ ⟨a.k.str,-1,0,0,0⟩ o h2 h1 (h3.imp id (λe=>om));have hq:=hR.below o om;have hA:=HA.below o om;have no:∀b,w.heap.size<=b->b<Z.heap.size->w3.heap[b]?=Z.heap[b]?:=λb h4 h5=>h2.block b h5 (λe=>oT (z HO b (.inr (.inr (.inr (.inl e.symm))))));have bb:Qs w3 w.heap.size a:=(no _ (Be _) hA.lt).trans hA;have st:∀k,k≠c->(w3.setCell (G c 2) (S9 g3 (s.ns+1) f)).heap[k]?=w3.heap[k]?:=λk hk=>At _ _ _ _ (by exact hk);have aq:IV (w3.setCell (G c 2) (S9 g3 (s.ns+1) f)) (w.heap.size+1):=(st _ om).trans ((no _ om hq.lt).trans hq);have bj:Qs (w3.setCell (G c 2) (S9 g3 (s.ns+1) f)) w.heap.size a:=(st _ om).trans bb;obtain⟨A,I,Q⟩:=BL aq (Dx s.ns);exact⟨bb.all.2.2.2.2.2.2.2.1,bj.all.2.2.2.2.2.2.2.1,by rw[Hi w3 c 2 _ _ _ k1];rfl,by simp[World.frozen?,k1],Ai k1,A,O I,Q.BH,O ⟨_,_,_,_,SM.fin V HO om hz k2 rfl k3 Q⟩⟩)
  have bk:IntKind.i64.wrap (((s.ns+1:Nat):Int)-1)=(s.ns:Int):=oj;have HY:=O hY;go_wp2_with fail;rw[<-hX];clear zz za zr zc a0 a1 a2 a3 a4 a5 a6 a7 a8 a9 C D a12 E c1 c2;clear hX o F hY ae zY;refine Hx (λW'=>W'.cell? (y w 7)=some (.string a.k.str)) ?_;refine tz 0 (h:=tz 1 (h:=tz 2 (h:=tz 3 (h:=tz 5 (h:=tz 6 (h:=tz 7 (h:=tz 8 (h:=?_))))))));refine Aaz (rs:=[4,9]) ou oq ?_;refine OK rfl (λK hK=>?armA) (OK rfl (λK hK=>?armB) Aay)
  case' armA=>
   go_simp;refine hK.out _ _ ao λ_=>?_;clear hK K;refine ry 9 λK hK=>?_;go_simp;rw[<-z HY];refine hK.out _ _ af λ_=>?_;clear hK K
  case' armB=>
   go_simp;rw[<-z HY];refine hK.out _ _ af λ_=>?_;clear hK K;refine ry 4 λK hK=>?_;go_simp;refine hK.out _ _ af λ_=>?_;clear hK K
  all_goals
   refine ry 10 λK hK=>?_;refine Re _ rfl (.tmp 100) (.tmp 105) 27 rfl B 57 i0 (.agg #[E9,J 0,J 0,J 0,J 0]) 5 48 underlying27 ag ah ai aj rfl oo (.slice sa s.ns sc) s.ns (JI s.S s.ns) og ak (y X 0) 1 1 (Hr ⟨a.k.str,-1,0,0,0⟩) (by simp[Act.eval]<;>omega) rfl bh (by simp[Hr,Value.oneCell']) oo od om aM _ rfl ?_;intro g3 f w3 m x q av;obtain⟨bc,bd,x0,x1,x2,A,R,n,U⟩:=z HF g3 f w3 m x q;obtain⟨r0,r1,r2,r3,r4,r5,r6,r7,r8,r9,ar,au⟩:=An.read n;have l9:=Ai n;clear m x q n;refine hK.out _ _ bc λ_=>?_;clear hK K;refine tz 11 (h:=tz 12 (h:=?_));refine ry 13 λK hK=>?_;go_simp;refine hK.out _ _ bd λ_=>?_;clear hK K;refine FI ?_;clear bc bd ao af xc yc;go_wp2_with (refine Af rfl rfl _ R ?_);refine Fs (v:=H9<|Dx s.ns) (by simp[results,results30,go_sem,l9,r0,r1,r2,r3,r4,r5,r6,r7,r8,r9,ar,au]) rfl ?_;rw[(z g).1,(z g).2];exact⟨rfl,U⟩
 .obtain⟨i0,ag,ah,ai,aj⟩:=Ok MC;have o:B9 W<|(w4.alloc<|.cells #[J kc,J l.kind,J l.num,F9 l.Ah,.string l.str,J l.ref] 133).alloc<|.cells (IL Mh Ja).toArray 71:=(i.alloc i.size _).alloc (by have:=i.size;simp;omega) _;have ak:=NX (NX (M.below i).t<|.cells #[J kc,J l.kind,J l.num,F9 l.Ah,.string l.str,J l.ref] 133)<|.cells (IL Mh Ja).toArray 71;have aM:B<=w4.heap.size+1+1:=oT M.base;have HF:Hid (∀g3 f w3,w3.ownsRow B 71 8 (S9 g3 (s.nt+1) f) (s.nt+1) (RY H s.T s.nt++IL Mh Ja)->((w4.alloc<|.cells #[J kc,J l.kind,J l.num,F9 l.Ah,.string l.str,J l.ref] 133).alloc<|.cells (IL Mh Ja).toArray 71).grownBy w3 (Value.slice ta s.nt tc).ownBlock->((Value.slice ta s.nt tc).ownBlock=some g3\/g3=w4.heap.size+1+1)->
    w3.cell? (G c 1)=some (.slice ta s.nt tc)/\w3.frozen? (G c 1)=false/\c<w3.heap.size/\∃A,Hid ((Instr.storeAt 40 (Q9 (w.heap.size+1)) (H9 (Dx s.nt))).run prog (w3.setCell (G c 1) (S9 g3 (s.nt+1) f))=.ok () A)/\A.heap[w.heap.size+1]?=some (.cells (Mx (Dx s.nt)).toArray 40 (0,0))/\Hid (∃FT BT B1 H',SM A c B FT BT B1 H' {s with nt:=s.nt+1,T:=AM s.T s.nt Ja}/\BB (Ba c vF (.slice ta s.nt tc) (.slice sa s.ns sc) H s.nt) w (Ba c FT BT B1 H' (s.nt+1)) A)):=O (λg3 f w3 h1 h2 h3=>by
   obtain⟨k1,k2,k3⟩:=M.vZ o h2 h1 (h3.imp id (λe=>ot));have hq:=hR.below o om;have aq:IV (w3.setCell (G c 1) (S9 g3 (s.nt+1) f)) (w.heap.size+1):=(At _ _ _ _ (by show w.heap.size+1≠c;omega)).trans ((h2.block _ hq.lt (λe=>oT (z HO _ (.inr (.inr (.inl e.symm)))))).trans hq);obtain⟨A,I,Q⟩:=BL aq (Dx s.nt);exact⟨by rw[Hi w3 c 1 _ _ _ k1];rfl,by simp[World.frozen?,k1],Ai k1,A,O I,Q.BH,O ⟨_,_,_,_,SM.fin V HO om hz k2 rfl k3 Q⟩⟩)
  have bk:IntKind.i64.wrap (((s.nt+1:Nat):Int)-1)=(s.nt:Int):=oj;clear o;go_wp2_with (first|(at_builtin;refine ON _ rfl _ _ 26 rfl B 71 i0 (.agg (IL Mh Ja).toArray) 8 128 underlying26 ag ah ai aj rfl oo (.slice ta s.nt tc) s.nt (RY H s.T s.nt) rfl ak (Y9 w4 0) 1 1 (IL Mh Ja) rfl rfl (PK w4 _ (IL Mh Ja) _) (by simp[IL,Mh,Value.oneCell']) oo od om ot (w4.heap.size+1+1) oq ?_;intro g3 f w3 m x q av;obtain⟨x0,x1,x2,A,R,n,U⟩:=z HF g3 f w3 m x q;obtain⟨r0,r1,r2,r3,r4,r5,r6,r7,r8,r9,ar,au⟩:=An.read n;have l9:=Ai n;clear m x n)|(refine Af rfl rfl _ R ?_));refine Fs (v:=H9<|Dx s.nt) (by simp[results,results30,go_sem,l9,r0,r1,r2,r3,r4,r5,r6,r7,r8,r9,ar,au]) rfl ?_;rw[(z g).1,(z g).2];exact⟨rfl,U⟩
 all_goals
  have bm:B9 W<|w4.alloc<|.cells #[J kc,J l.kind,J l.num,F9 l.Ah,.string l.str,J l.ref] 133:=i.alloc i.size _;obtain⟨A,I,n,ad⟩:=SM.ends V HO hz M hR bm<|BD 5;rcases O I,O ad,O n with⟨R,U,bn⟩;clear I ad n;go_wp2_with (refine Af rfl rfl _ R ?_);refine FP results30 underlying40 bn ?_;rw[(z g).1,(z g).2];exact⟨rfl,_,_,_,_,U⟩
abbrev f1:Nat->Br:=λ_=>⟨-1,⟨#[]⟩,0⟩
abbrev ES(v:V9):Value:=.agg #[v,N9,N9]
noncomputable def KH(a:AE)(f:Nat->Ac):Nat->AE
 |0=>a
 |q+1=>AR (KH a f q)<|f q
def XA(n:GA M s)(o:s.nt=0)a(b:Wf a.k)(c:Wf a.v):GA M<|AR s a:=by
 have h:=Hw n a b c;refine⟨h.f,h.nt,h.ns,λi hi=>⟨(h.t i hi).way,(h.t i hi).wf,?_⟩,h.si⟩;unfold AR at hi ⊢;split at hi
 .rename_i hc
  rw[DD hc];obtain⟨c1,c2,c3,c4⟩:=FM hc;obtain⟨r1,r2,p,q,r,_,_⟩:=CO c1;have g:Dl a.op=true->False:=λe=>oT<|c2 e;unfold BJ at hi ⊢;split at hi
  .rename_i h1
   rw[DD h1];rw[C3 om]at hi ⊢;have hi:i<s.nt+1:=hi;show(AM s.T s.nt Ja i).d.m<=M;rw[show i=s.nt by omega,Aj];exact To _
  rename_i h1
  rw[C3 h1];split at hi
  .grind [AR,GA.ns,GA.nt,Hc.nt]
  rename_i u
  by_cases h2:a.op=2
  .exact(g<|qm h2).elim
  rw[C3 h2]at hi;by_cases j:a.op=8
  .exact(g<|qm j).elim
  rw[C3 j]at hi;by_cases l:a.op=9
  .exact(g<|qm l).elim
  rw[C3 l]at hi;omega
 omega
theorem Mw{c:AE}(d:GA 0 c)(b:c.nt=0){f:Nat->Ac}{n:Nat}(a:∀i,i<n->Wf (f i).k/\Wf (f i).v):∀q,q<=n->GA (4002*(q-1)) (KH c f q)
 |0,_=>d
 |1,h=>XA d b _ (a 0 h).1 (a 0 h).2
 |q+2,h=>by
  have h1:=Hw (Mw d b a (q+1) om) (f<|q+1) (a (q+1) h).1 (a (q+1) h).2;exact h1.mono ot
def lD{a}(d:GA 0 a)(b:a.nt=0){f}{n}(c:∀i,i<n->Wf (f i).k/\Wf (f i).v)(hn:n<=1000){q}(hq:q<=n):Kl<|KH a f q:=
 (Mw d b c q hq).mono om
def E0:AE:=⟨1,f1,0,λ_=>Ja,0,λ_=>default⟩
def dP:Ar 1 (λ_=>⟨-1,⟨#[]⟩,0⟩)=0:=JY ⟨oo,oo⟩ ⟨rfl,ou,rfl⟩ (λi h1 h2=>om) (λi k h1 h2 h3=>om) λi t h1 h2=>om
def R8:GA 0 E0:=⟨dP,To _,To _,λi hi=>absurd hi<|P9 _,λi hi=>absurd hi<|P9 _⟩
theorem GA.ok(h:GA M s):A6 s (Dz s)=0:=by
 refine JK h.f ⟨h.nt,h.ns⟩ (λi hi=>?_) h.si;rcases(h.t i hi).way with⟨h1,h2,h3⟩|⟨j,h1,h2,h3,h4,h5⟩
 .exact .inl ⟨h1,h2,Ft h3⟩
 obtain⟨r1,r2,a,_,_⟩:=Av h.f;have hc:=(Bh r2 (λq h1 h2=>a q h1 h2) j h2).1;refine .inr ⟨om,om,?_⟩;rw[h1,NO];refine⟨?_,h4,λq hq=>(h5 q hq).1⟩;rw[h3];unfold nf;omega
def GA.TQ(h:Kl s):Hc s:=by
 obtain⟨r1,r2,a,_,_⟩:=Av h.f;refine⟨⟨oT r1.2,λi hi=>?_⟩,oT h.nt,λ{i} hi=>?_,λ{i} hi=>Qo.small<|h.t i hi,oT h.ns⟩
 .by_cases c:i=0
  .subst c;have:=r2.2.1;have e:=congrArg List.length<|toList_inj (b:=⟨#[]⟩)<|this.trans ou;have e2:(s.F 0).key.size=0:=by show(s.F 0).key.data.size=0;rw[<-Array.length_toList];exact e
   omega
  have:=(a i om hi).2.2.2.2;omega
 rcases(h.t i hi).way with⟨_,h2,_⟩|⟨j,_,h2,h3,_⟩
 .omega
 rw[h3];have:=IZ h.f h2;omega
def Cf.vat{f}(h:Cf w B v n f):∃a cp,v=.slice a n cp/\IX w a n f:=by
 obtain⟨hl,⟨c,d⟩|⟨g,cap,cur,c,hb,b,_⟩⟩:=id h;all_goals grind [IX,Au,Ai,Cf.at]
def SM.zF(h:SM w c B vF (.slice ta s.nt tc) vS H s):cR w ta s.nt s.T:=by
 rcases Aas s.nt with e|e
 .exact .inl e
 obtain⟨g,cp,j,k,_,_,_⟩:=h.CA e;cases j;refine .inr ⟨g,0,rfl,k,λi hi=>?_⟩;obtain⟨g',cp',hv',_,_,hc,_⟩:=h.CA hi;cases hv';rcases (h.v i hi).vat,(h.l i hi).at,(h.i i hi).at,(h.x i hi).at,hc 0 _ rfl,hc 1 _ rfl,hc 2 _ rfl,hc 3 _ rfl,hc 4 _ rfl with⟨⟨va,vc,m,n⟩,⟨la,lc,el,o⟩,⟨ia,ic,p,q⟩,⟨xa,xc,ex,r⟩,t,a,b,d,f⟩;rw[m]at a;rw[el]at b;rw[p]at d;rw[ex]at f;rw[X9];exact⟨va,vc,la,lc,ia,ic,xa,xc,⟨t,a,b,d,f,hc 5 _ rfl,hc 6 _ rfl,hc 7 _ rfl⟩,n,o,q,r⟩
def tL(h:Kl s){t}(a:t<s.nt):bV s (s.T t)<=500:=by
 unfold bV;split
 .rcases(h.t t a).way with⟨_,_,b⟩|⟨j,e,_⟩
  .have h1:=b.i0.log.CX;have h2:=b.i0.le;omega
  omega
 rcases(h.t t a).way with⟨e,_⟩|⟨j,e,hj,_⟩
 .omega
 have:=IZ h.f hj;grind [bV]
def Mj(ab:Nat)(a:Ac)(W:Y):Prop:=W.cell? (G ab 0)=some (J a.op)/\W.cell? (G ab 1)=some (J a.t)/\W.cell? (G ab 2)=some (J a.site)/\W.cell? (G ab 3)=some (J a.n)/\W.cell? (G ab 4)=some (J a.k.kind)/\W.cell? (G ab 5)=some (J a.k.num)/\W.cell? (G ab 6)=some (F9 a.k.Ah)/\W.cell? (G ab 7)=some (.string a.k.str)/\W.cell? (G ab 8)=some (J a.k.ref)/\W.cell? (G ab 9)=some (J a.v.kind)/\W.cell? (G ab 10)=some (J a.v.num)/\W.cell? (G ab 11)=some (F9 a.v.Ah)/\W.cell? (G ab 12)=some (.string a.v.str)/\W.cell? (G ab 13)=some (J a.v.ref)
def nV{a}(hD:SM w c B vF vT vS H s)(hG:Kl s)(D:Cx a=true)(t:Nat)(et:a.t=t)(h2:t<s.nt)(aw:Wf a.k)(hv:a.v.ok=true)(hm:0<=a.n)(h:(a.op=2/\De a.k=0)\/(a.op=3/\De a.k=0)\/(a.op=4\/a.op=5\/a.op=6)\/((a.op=2\/a.op=3)/\De a.k≠0)):VX c B vF vT vS H s a w:=by
 rcases h with⟨hop,h4⟩|⟨hop,h4⟩|hop|⟨hop,h4⟩
 case' inl=>
  have hT:Dl a.op=true:=by rw[hop];decide
  have hS:EH a.op=false:=by rw[hop];decide
  rcases LD aw h4,qd<|De a.k,qd (CZ a.k) with⟨S,⟨p,l⟩,⟨b,j⟩⟩;rw[j]at S;have d:Hid<|Dg s a=BD (Ct s t b a.v)/\AR s a=Ci s t b a.v:=O (by
   have h0:H7 a s.nt s.ns=0:=by
    have x1:¬(s.nt:Int)<=a.t:=om;simp[H7,D,Dl,EH,hop,x1,h4]
   rw[Dg,AR,DD h0,DD h0];simp[Dh,BJ,hop,et,j])
  have e2:decide ((s.nt:Int)<=a.t)=false:=ot;have e4:(p !=0)=false:=by rw[<-l];simp[h4]
  clear h4;have ag:=O l;have ah:=O j;clear l j;have d1:(a.op==1)=false:=by simp[hop]
  have d2:(a.op==2)=true:=by simp[hop]
  have d3:(a.op==3)=false:=by simp[hop]
  have d7:(a.op==7)=false:=by simp[hop]
  have d8:(a.op==8)=false:=by simp[hop]
  have d9:(a.op==9)=false:=by simp[hop]
  clear hop;have ET:=O et;clear et
 case' inr.inl=>
  have hT:Dl a.op=true:=by rw[hop];decide
  have hS:EH a.op=false:=by rw[hop];decide
  rcases LD aw h4,qd<|De a.k,qd (CZ a.k) with⟨S,⟨p,l⟩,⟨b,j⟩⟩;rw[j]at S;have d:Hid<|Dg s a=FL (Cb s.F (s.T t) b)/\AR s a=s:=O (by
   have h0:H7 a s.nt s.ns=0:=by
    have x1:¬(s.nt:Int)<=a.t:=om;simp[H7,D,Dl,EH,hop,x1,h4]
   rw[Dg,AR,DD h0,DD h0];simp[Dh,BJ,hop,et,j])
  have e2:decide ((s.nt:Int)<=a.t)=false:=ot;have e4:(p !=0)=false:=by rw[<-l];simp[h4]
  clear h4;have ag:=O l;have ah:=O j;clear l j;have d1:(a.op==1)=false:=by simp[hop]
  have d2:(a.op==2)=false:=by simp[hop]
  have d3:(a.op==3)=true:=by simp[hop]
  have d7:(a.op==7)=false:=by simp[hop]
  have d8:(a.op==8)=false:=by simp[hop]
  have d9:(a.op==9)=false:=by simp[hop]
  clear hop;have ET:=O et;clear et
 case' inr.inr.inl=>
  have hT:Dl a.op=true:=by rcases hop with h|h|h<;>rw[h]<;>decide
  have hS:EH a.op=false:=by rcases hop with h|h|h<;>rw[h]<;>decide
  obtain⟨p,l⟩:=qd<|De a.k;obtain⟨b,j⟩:=qd<|CZ a.k;have d:Hid<|Dg s a=(RL s t).ask a/\AR s a=s:=O (by
   have h0:H7 a s.nt s.ns=0:=by
    have x1:¬(s.nt:Int)<=a.t:=om;rcases hop with h|h|h<;>simp[H7,D,Dl,EH,h,x1]
   rw[Dg,AR,DD h0,DD h0];rcases hop with h|h|h<;>simp[Dh,BJ,h,et])
  have e2:decide ((s.nt:Int)<=a.t)=false:=ot;have ag:=O l;have ah:=O j;clear l j;have d1:(a.op==1)=false:=by rcases hop with h|h|h<;>simp[h]
  have d2:(a.op==2)=false:=by rcases hop with h|h|h<;>simp[h]
  have d3:(a.op==3)=false:=by rcases hop with h|h|h<;>simp[h]
  have d7:(a.op==7)=false:=by rcases hop with h|h|h<;>simp[h]
  have d8:(a.op==8)=false:=by rcases hop with h|h|h<;>simp[h]
  have d9:(a.op==9)=false:=by rcases hop with h|h|h<;>simp[h]
  have ET:=O et;clear hop et
 case' inr.inr.inr=>
  have hT:Dl a.op=true:=by rcases hop with h|h<;>rw[h]<;>decide
  have hS:EH a.op=false:=by rcases hop with h|h<;>rw[h]<;>decide
  have d:Hid<|Dg s a=BD 4/\AR s a=s:=O (by simp[Dg,AR,H7,D,hT,hS,h4,hop,show¬(s.nt:Int)<=a.t by omega]);have e2:decide ((s.nt:Int)<=a.t)=false:=ot;obtain⟨p,l⟩:=qd<|De a.k;obtain⟨b,j⟩:=qd<|CZ a.k;have e4:(p !=0)=true:=by rw[<-l];simpa using h4
  have ag:=O l;have ah:=O j;clear l j;have d23:((a.op==2)=true)\/((a.op==2)=false/\(a.op==3)=true):=by rcases hop with h|h<;>simp[h]
  have bk:=O d23;clear h4 hop d23;have ET:=O et;clear et
 all_goals
  obtain⟨ta,tc,rfl⟩:=Au hD.t;obtain⟨sa,sc,rfl⟩:=Au hD.si;obtain⟨W,hW,U,hA,hR,hz⟩:=boxes w a;have HO:Hid<|∀k,Ba c vF (.slice ta s.nt tc) (.slice sa s.ns sc) H s.nt k->k<w.heap.size:=O λk h=>(hD.IC h).2;rcases hD.lt,hD.below U,O hA with⟨bu,R,HA⟩;clear hD hA;go_enter func30,ntmps30;go_wp2_with fail;rw[<-hW];clear hW;refine(Fm a _).mono ?_;rw[D];rintro e w1 ⟨rfl,ax⟩;have g:=O ax;clear ax;have zz:=g.size;have za:w.heap.size<w1.heap.size:=om;have zr:w.heap.size+1<w1.heap.size:=om;have zc:c<w1.heap.size:=om;obtain⟨a0,a1,a2,a3,a4,a5,a6,a7,a8,a9,q,r,a12,u⟩:=(HA.below g om).all;obtain⟨_,c1,c2,_⟩:=(R.below g).cells;go_wp2_with fail;refine(FA a.op _).mono ?_;rw[hT,hS];rintro e w2 ⟨rfl,ew⟩;rw[ew];clear ew w2;go_wp2_with fail;refine qr w1 ?_;(iterate 11 refine N (h:=?_));refine Hz ?_;intro w2 V;clear zz za zr zc a0 a1 a2 a3 a4 a5 a6 a7 a8 a9 q r a12 u c1 c2;have g:=o9 g V;clear V;have zz:=g.size;have za:w.heap.size<w2.heap.size:=om;have zr:w.heap.size+1<w2.heap.size:=om;have zc:c<w2.heap.size:=om;obtain⟨a0,a1,a2,a3,a4,a5,a6,a7,a8,a9,q,r,a12,u⟩:=(HA.below g om).all;obtain⟨_,c1,c2,_⟩:=(R.below g).cells;go_wp2_with fail;refine qr w2 ?_;refine N (h:=N (h:=?_));iterate 8 (go_big_quiet_step (fail))
  refine N (h:=?_);refine Hz ?_;intro w3 V;clear zz za zr zc a0 a1 a2 a3 a4 a5 a6 a7 a8 a9 q r a12 u c1 c2;have g:=o9 g V;clear V;have zz:=g.size;have za:w.heap.size<w3.heap.size:=om;have zr:w.heap.size+1<w3.heap.size:=om;have zc:c<w3.heap.size:=om;obtain⟨a0,a1,a2,a3,a4,a5,a6,a7,a8,a9,q,r,a12,u⟩:=(HA.below g om).all;obtain⟨_,c1,c2,_⟩:=(R.below g).cells;go_wp2_with fail;refine(Ht a.k.kind a.k.num a.k.Ah a.k.str a.k.ref _).mono ?_;rw[EF,z ag,z ah];rintro e w4 ⟨rfl,ay⟩;clear zz za zr zc a0 a1 a2 a3 a4 a5 a6 a7 a8 a9 q r a12 u c1 c2;have g:=o9 g ay;clear ay;have zz:=g.size;have za:w.heap.size<w4.heap.size:=om;have zr:w.heap.size+1<w4.heap.size:=om;have zc:c<w4.heap.size:=om;obtain⟨a0,a1,a2,a3,a4,a5,a6,a7,a8,a9,q,r,a12,u⟩:=(HA.below g om).all
 .have i:B9 W<|w4.alloc<|.cells #[J p,J b.kind,J b.num,F9 b.Ah,.string b.str,J b.ref] 133:=g.alloc g.size _;rcases z bk with d2|⟨d2,d3⟩;all_goals
   obtain⟨w9,o,E,m⟩:=SM.ends U HO hz R hR i<|BD 4;rcases O o,O m,O E with⟨Z,I,L⟩;clear o m E;go_wp2_with (refine Af rfl rfl _ Z ?_);refine FP results30 underlying40 L ?_;rw[(z d).1,(z d).2];exact⟨rfl,_,_,_,_,I⟩
 .obtain⟨_,c1,c2,_⟩:=(R.below g).cells;have i:Hid<|B9 W<|w4.alloc<|.cells #[J p,J b.kind,J b.num,F9 b.Ah,.string b.str,J b.ref] 133:=O<|g.alloc g.size _;obtain⟨X,hX⟩:=qa<|w4.alloc<|.cells #[J p,J b.kind,J b.num,F9 b.Ah,.string b.str,J b.ref] 133;rw[<-hX]at i;have az:=R.below i;have ak:=HA.below i om;have aM:Hid<|C9 73 #[Q9 c,J a.t] X.drew λe w'=>(∃v,e=.returned v/\BU w' X.drew.heap.size v (bV s<|s.T t) (jZ s<|s.T t))/\Below X.drew.heap.size X.drew w':=O (by
   rw[z ET];have bm:0<s.nf:=oT (Av hG.f).1.1;have ai:SM X.drew c B vF (.slice ta s.nt tc) (.slice sa s.ns sc) H s:=az.keep (λ_ _=>rfl);rcases ai.Lq bm,ai.zF.addr,ai.cells with⟨⟨fb,fc,bn,_,_,hF⟩,⟨A,hA⟩,ao⟩;rw[bn]at ao;exact UO c fc tc t ao.1 ao.2.1 ai.lt hF hA (GA.TQ hG) (GA.ok hG) h2)
  have bp:Mj w.heap.size a X.drew:=ak.all;have hn:bV s (s.T t)<=500:=tL hG h2;have bq:=O ak;go_wp2_with fail;rw[<-hX];clear zz za zr zc a0 a1 a2 a3 a4 a5 a6 a7 a8 a9 q r a12 u c1 c2;clear hX az ak;refine Hx (Mj w.heap.size a) ?_;refine tz 0 (h:=tz 1 (h:=tz 2 (h:=tz 4 (h:=?_))));refine ry 3 λK hK=>?_;go_simp;refine aM.mono ?_;rintro e w5 ⟨⟨v,rfl,bb⟩,C⟩;obtain⟨la,lc,rfl,bc⟩:=bb.at;have M:B9 X w5:=⟨C.os,C.tape,C.output,C.size,λk hk=>C.block k hk⟩;have zX:=i.size;have z5:=M.size;have aq:=bq.below M om;have bd:Mj w.heap.size a w5:=aq.all;rcases O aq,O<|i.trans<|M.mono zX,O (ZU lc (RL s t) a bc hn hm) with⟨br,bf,ad⟩;refine hK.out _ _ bd λ_=>?_;clear hK K bb bc C M bp aq;refine ry 5 λK hK=>?_;go_simp;refine ad.mono ?_;rintro e w6 ⟨rfl,ar⟩;obtain⟨x,hx⟩:=qa<|(RL s t).ask a;rw[<-hx];rw[<-hx]at d;have au:=br.below ar om;have bg:Mj w.heap.size a w6:=au.all;refine hK.out _ _ bg λ_=>?_;clear hK K;have aj:=o9 bf ar;obtain⟨w9,o,P⟩:=BL (hR.below aj hz) x;have Q:Mj w.heap.size a w9:=(show Qs w9 w.heap.size a from(P.other _ om).trans au).all;have E:=P.BH;have m:=SM.fin U HO om hz (R.below aj) rfl (BB.Am aj) P;refine ry 6 λK hK=>?_;refine BK rfl rfl w9 o ?_;refine hK.out _ _ Q λ_=>?_;clear hK K;refine FI ?_;have L:=O E;have I:=O m;clear o P aj E m bd bg au Q ar ad aM hx;go_wp2_with fail;refine FP results30 underlying40 L ?_;rw[(z d).1,(z d).2];exact⟨rfl,_,_,_,_,I⟩
 .obtain⟨_,c1,c2,_⟩:=(R.below g).cells;rw[z ET]at a1;have i:Hid<|B9 W<|w4.alloc<|.cells #[J p,J b.kind,J b.num,F9 b.Ah,.string b.str,J b.ref] 133:=O<|g.alloc g.size _;have ae:=O<|MH t (R.below i) hG h2 S;go_wp2_with fail;refine ae.mono ?_;rintro e w5 ⟨rfl,C⟩;obtain⟨x,hx⟩:=qa<|Cb s.F (s.T t) b;rw[<-hx];rw[<-hx]at d;clear hx ae;clear zz za zr zc a0 a1 a2 a3 a4 a5 a6 a7 a8 a9 q r a12 u c1 c2;have g:=O<|o9 i C;clear C;obtain⟨w9,o,E,m⟩:=SM.ends U HO hz R hR g<|FL x;rcases O o,O m,O E with⟨Z,I,L⟩;clear o m E;go_wp2_with (refine Af rfl rfl _ Z ?_);refine FP results30 underlying40 L ?_;rw[(z d).1,(z d).2];exact⟨rfl,_,_,_,_,I⟩
 obtain⟨_,c1,c2,_⟩:=(R.below g).cells;rw[z ET]at a1;have i:Hid<|B9 W<|w4.alloc<|.cells #[J p,J b.kind,J b.num,F9 b.Ah,.string b.str,J b.ref] 133:=O<|g.alloc g.size _;have af:=O<|Rv t a.v (R.below i) hG h2 S hv;go_wp2_with fail;refine af.mono ?_;rintro e w5 ⟨rfl,bw,H5,bh,av⟩;obtain⟨x,hx⟩:=qa<|Ct s t b a.v;rw[<-hx];have bt:=O hx;clear hx af;clear zz za zr zc a0 a1 a2 a3 a4 a5 a6 a7 a8 a9 q r a12 u c1 c2;have bj:IV w5<|w.heap.size+1:=(av.block _ (oT i.size) λe=>oT<|z HO _ e).trans<|hR.below i om;obtain⟨w9,o,Q⟩:=BL bj<|BD x;have Z:=O o;have I:=O<|SM.fin U HO om hz bh (Oh _ _ _ _) ((BB.Am i).trans av) Q;have L:=O<|Q.BH;clear bj o Q bh av;go_wp2_with (refine Af rfl rfl _ Z ?_);refine FP results30 underlying40 L ?_;rw[(z d).1,(z d).2,<-z bt,Oh];exact⟨rfl,_,_,_,_,I⟩
def kZ{a}(h:Cx a=true):(1<=a.op/\a.op<=9)/\0<=a.t/\a.t<100/\0<=a.site/\a.site<50/\0<=a.n:=by
 unfold Cx at h
 revert h
 unfold JB El;intro h;by_cases h1:a.op=1<;>by_cases h2:a.op=2<;>by_cases h3:a.op=3<;>by_cases h4:a.op=4<;>by_cases h5:a.op=5<;>by_cases b:a.op=6<;>by_cases c:a.op=7<;>by_cases d:a.op=8<;>by_cases e:a.op=9<;>simp_all<;>omega
def lB{a}(h:Cx a=true):a.v.ok=true:=by
 grind [Cx,JB]
def US a{w}(hD:SM w c B vF vT vS H s)(g:Kl s)(i:Wf a.k):VX c B vF vT vS H s a w:=by
 by_cases b:Cx a=true
 .obtain⟨⟨o1,q⟩,n,_,Mh,_,j⟩:=kZ b;have l:=lB b;by_cases h1:a.op=1
  .grind [hD,Vm]
  by_cases o:a.op=7
  .grind [hD,Vm]
  have r:Dl a.op=true:=by simp[Dl,h1,o]
  by_cases h2:(s.nt:Int)<=a.t
  .grind [hD,tB]
  have p:a.t<(s.nt:Int):=om;have d:a.t.toNat<s.nt:=om;have et:a.t=(a.t.toNat:Int):=om;by_cases m:EH a.op=true
  .by_cases h3:(s.ns:Int)<=a.site
   .grind [hD,tC]
   have e:a.site.toNat<s.ns:=om;have es:a.site=(a.site.toNat:Int):=om;have f:a.op=8\/a.op=9:=by simpa[EH]using m
   rcases f with h|h
   .exact RR hD g b (.inl h) _ et d _ es e l
   exact RR hD g b (.inr h) _ et d _ es e l
  have f:a.op≠8/\a.op≠9:=by simpa[EH]using m
  exact nV hD g b _ et d i l j (by
   by_cases h4:De a.k=0
   .rcases(by omega:a.op=2\/a.op=3\/(a.op=4\/a.op=5\/a.op=6))with h|h|h
    .exact .inl ⟨h,h4⟩
    .exact .inr (.inl ⟨h,h4⟩)
    exact .inr<|.inr<|.inl h
   rcases(by omega:(a.op=2\/a.op=3)\/(a.op=4\/a.op=5\/a.op=6))with h|h
   .exact .inr (.inr<|.inr ⟨h,h4⟩)
   exact .inr (.inr (.inl h)))
 grind [hD,tA]
def SM.Kt(h:SM w c B vF vT vS H s)(hb:B'<=B):SM w c B' vF vT vS H s:=
 ⟨oT h.base,h.BH,Eu h.f hb,Eu h.t hb,Eu h.si hb,λi hi=>Eu (h.v i hi) hb,λi hi=>Eu (h.l i hi) hb,λi hi=>Eu (h.i i hi) hb,λi hi=>Eu (h.x i hi) hb,h.ap,h.ij⟩
def Pz fc{ta:Option Addr}tc{sa:Option Addr}sc{s}{w}(hF:BQ w m s.nf s.F)(cb:s.nf<=200)(hT:cR w ta s.nt s.T)(hS:Lh w sa s.ns s.S)(bu:Hc s)(dh:s.nt<=100)(di:s.ns<=50):
  C9 29 #[NF (some<|G m 0) fc ta tc sa sc s] w λe w'=>(∃c vF vT vS H,e=.returned (Q9 c)/\SM w' c w.heap.size vF vT vS H s)/\B9 w w':=by
 have hl:=hF.lt;obtain⟨W,hW,hb,hz,o0⟩:=Ll w<|.cells #[S9 m s.nf fc,.slice ta s.nt tc,.slice sa s.ns sc] 29;rcases v3 o0,O<|WQ fc (hF.below hb hl) cb,hT.below hb rfl,hS.below hb rfl,Ok MC,Ok Jo,Ok F3 with⟨⟨_,s1,s2⟩,HC,HT,HS,⟨i0,cc,cd,cg,ch⟩,⟨j0,cj,ck,cl,cm⟩,⟨v0,cn,cp,cq,cr⟩⟩;clear hF hT hS;go_enter func29,ntmps29;go_wp2_with fail;rw[<-hW];refine HC.mono ?_;rintro e w1 ⟨⟨vF,rfl,hO⟩,aw⟩;have z1:=aw.size;have t1:=(aw.cell<|by show w.heap.size<W.heap.size;omega).trans s1;have l1:w.heap.size<w1.heap.size:=om;clear hW s1 HC;obtain⟨w2,bw,ax,_,ar⟩:=Ll w1<|.cells #[vF,N9,N9] 29;have u1:=(ax.cell l1).trans t1;have bx:Hid<|SM w2 w1.heap.size W.heap.size vF N9 N9 (λ_=>Mh) {s with nt:=0,ns:=0}:=O ⟨om,ar,Xf hO ax,IF _ _ _ _,IF _ _ _ _,λi hi=>absurd hi<|P9 _,λi hi=>absurd hi<|P9 _,λi hi=>absurd hi<|P9 _,λi hi=>absurd hi<|P9 _,λi hi=>absurd hi<|P9 _,λi j q hi=>absurd hi<|P9 _⟩;have ct:=aw.trans<|ax.mono z1;clear ax ar;obtain⟨c,hc⟩:=qa w1.heap.size;rw[<-hc]at bx;go_wp2_with fail;rw[<-bw,<-hc];clear bw t1 hc hO aw;go_loopw [19] (λi wr=>∃(k:Nat) (vT:V9) (H:Nat->Hs),k<=s.nt/\i=J k/\SM wr c W.heap.size vF vT N9 H {s with nt:=k,ns:=0}/\B9 W wr) λi _=>s.nt-(intOf i).toNat
 .exact⟨0,_,_,To _,rfl,bx,ct⟩
 obtain⟨k,vT,H,hk,rfl,hM,o⟩:=hrel;obtain⟨w0,cu⟩:=qa wr;subst cu;by_cases aM:k<s.nt
 case pos=>
  obtain⟨b,off,rfl,a6,hcs⟩:=HT.resolve_left om;obtain⟨va,vc,la,lc,ia,ic,xa,xc,cv,hv,hd⟩:=(hcs k aM).below o a6;obtain⟨e0,e1,e2,e3,e4,e5,e6,e7⟩:=cv;have bz:=o.size;have cw:=hM.lt;obtain⟨ua,uc,rfl⟩:=Au hM.t;rcases O hM,O o,qd<|s.T k,O (qp (bu.nv aM)<|bu.Km aM) with⟨R,B,⟨t,ht⟩,a7⟩;rw[ht]at e0 e1 e2 e3 e4 e5 e6 e7 hv hd a7;rcases O ht,a7.1,qa ((w0.alloc<|.cells #[J t.shape,.slice va t.nv vc,.slice la t.d.n lc,.slice ia t.d.m ic,.slice xa t.d.x xc,J t.d.used,J t.d.live,J t.d.turns] 71).alloc<|.cells #[J t.shape,N9,N9,N9,N9,J 0,J 0,J 0] 71) with⟨a8,dj,⟨X6,E⟩⟩;have H6:Hid<|TS w0 va vc la lc ia ic xa xc t 0 N9 X6:=O (by
   rw[E];refine⟨(E1 _ _ _ oq).trans (DO _ _),?_,IF _ _ _ _,(n9).alloc oq _⟩;have h:=DO (w0.alloc (.cells #[J t.shape,.slice va t.nv vc,.slice la t.d.n lc,.slice ia t.d.m ic,.slice xa t.d.x xc,J t.d.used,J t.d.live,J t.d.turns] 71)) (.cells #[J t.shape,N9,N9,N9,N9,J 0,J 0,J 0] 71);rw[show(w0.alloc (.cells #[J t.shape,.slice va t.nv vc,.slice la t.d.n lc,.slice ia t.d.m ic,.slice xa t.d.x xc,J t.d.used,J t.d.live,J t.d.turns] 71)).heap.size=w0.heap.size+1 by simp]at h;exact h)
  have x1:X6.cell? (y w0 1)=some (.slice va t.nv vc):=by rw[E];simp[go_sem]
  clear hM o hcs ht HT;go_wp2_with fail;rw[<-E];clear E e0 e1 e2 e3 e4 e5 e6 e7;go_loopw [29] (λj wj=>∃(q:Nat) (vV:V9),q<=t.nv/\j=J q/\TS w0 va vc la lc ia ic xa xc t q vV wj) λj _=>t.nv-(intOf j).toNat
  .exact⟨0,_,To _,rfl,H6⟩
  obtain⟨q,vV,hq,rfl,Q⟩:=hrel;obtain⟨oa,oc,rfl⟩:=Au Q.row;have b0:=Ai Q.b6;by_cases bb:q<t.nv
  case pos=>
   obtain⟨b',bq,rfl,br,au⟩:=hv.resolve_left om;obtain⟨f0,f1,f2,f3,f4⟩:=(au q bb).keep λp=>Q.below.cell br;have y1:wr.cell? (Y9 w0 1)=some (.slice oa q oc):=by rw[Hi wr _ 1 _ _ _ Q.b6];rfl
   obtain⟨x,hx⟩:=qd<|t.V q;rw[hx]at f0 f1 f2 f3 f4;obtain⟨X8,bc,bd,z8,_⟩:=Ll wr<|.cells (H8 x).toArray 32;have bf:B9 wr<|X8.alloc<|.cells (H8 x).toArray 32:=bd.alloc om _;have af:=Xf Q.row bf;have cx:Hid (∀g3 a w5,w5.ownsRow (w0.heap.size+2) 32 5 (S9 g3 (q+1) a) (q+1) (Mf t.V q++H8 x)->(X8.alloc<|.cells (H8 x).toArray 32).grownBy w5 (Value.slice oa q oc).ownBlock->((Value.slice oa q oc).ownBlock=some g3\/g3=X8.heap.size+1)->
     w5.heap[w0.heap.size+1]?=some (.cells #[J t.shape,.slice oa q oc,N9,N9,N9,J 0,J 0,J 0] 71 (0,0))/\TS w0 (some (G b' bq)) vc la lc ia ic xa xc t (q+1) (S9 g3 (q+1) a) (w5.setCell (Y9 w0 1) (S9 g3 (q+1) a))):=O (λg3 a w5 k1 k2 k3=>Q.step bf k2 (by rw[hx];exact k1) (k3.imp id (λe=>by rw[e];simp)))
   have HX:=O bc;have x5:∀j u,(H8 x)[j]?=some u->X8.cell? (y wr j)=some u:=λj u hu=>by
    have cy:X8.heap[wr.heap.size]?=some (.cells (H8 x).toArray 32 (0,0)):=by rw[bc];exact DO _ _
    rw[Hi X8 _ j _ _ _ cy];simpa using hu
   rcases x5 0 _ rfl,x5 1 _ rfl,x5 2 _ rfl,x5 3 _ rfl,x5 4 _ rfl,o7 bd b0 y1 with⟨p0,p1,p2,p3,p4,y8⟩;have zz:w0.heap.size+1<X8.heap.size:=om;clear Q au bd bf hx x5 bc z8;go_upto_region 9 with fail
   rw[show wr.alloc (.cells (qi x) 32)=X8 from(z HX).symm];clear HX y1;go_wp2_with (first|(at_builtin;refine ON _ rfl _ _ 65 rfl (w0.heap.size+2) 32 v0 (V 0 0 0 ⟨#[]⟩ 0) 5 48 underlying65 cn cp cq cr rfl oo (.slice oa q oc) q (Mf t.V q) rfl af (y X8 0) 1 1 (H8 x) rfl rfl (Is<|DO X8 _) (by simp[H8,Value.oneCell']) oo od om ot (X8.heap.size+1) oq ?_;intro g3 a w5 f A g av;obtain⟨o5,b1⟩:=z cx g3 a w5 f A g;have cz:=O b1;have dk:=Ai o5;have dm:w5.cell? (Y9 w0 1)=some (.slice oa q oc):=(by rw[Hi w5 _ 1 _ _ _ o5];rfl);have dn:w5.frozen? (Y9 w0 1)=false:=(by simp[World.frozen?,o5]);clear f A g b1 o5)|go_in);go_roundw
   .exact⟨q+1,_,om,ov,cz⟩
   exact ow
  case neg=>
   have bg:q=t.nv:=om;subst bg;have y2:wr.cell? (y w0 2)=some (.slice la t.d.n lc):=by rw[Hi wr _ 2 _ _ _ Q.b5];rfl
   have y3:wr.cell? (y w0 3)=some (.slice ia t.d.m ic):=by rw[Hi wr _ 3 _ _ _ Q.b5];rfl
   have y4:wr.cell? (y w0 4)=some (.slice xa t.d.x xc):=by rw[Hi wr _ 4 _ _ _ Q.b5];rfl
   have y5:wr.cell? (y w0 5)=some (J t.d.used):=by rw[Hi wr _ 5 _ _ _ Q.b5];rfl
   have y6:wr.cell? (y w0 6)=some (J t.d.live):=by rw[Hi wr _ 6 _ _ _ Q.b5];rfl
   have y7:wr.cell? (y w0 7)=some (J t.d.turns):=by rw[Hi wr _ 7 _ _ _ Q.b5];rfl
   have HC:=O Q;have b2:=O<|Pt lc ic xc (hd.below Q.below) a7.2;clear Q;go_wp2_with fail;refine b2.mono ?_;rintro e w4 ⟨⟨c4,d0,d1,d2,rfl,cD,D⟩,bh⟩;subst cD;obtain⟨b3,b4,b7,b8,b9,ca,rfl,rfl,rfl,cN⟩:=D.ptr;rcases D.c0,D.c1,D.c2,D.c3,D.c4,D.c5,(bh.block _ b0).trans HC.b6 with⟨n0,n1,n2,n3,n4,n5,k6⟩;have m2:w4.cell? (Y9 w0 2)=some (N9):=by rw[Hi w4 _ 2 _ _ _ k6];rfl
   have m3:w4.cell? (Y9 w0 3)=some (N9):=by rw[Hi w4 _ 3 _ _ _ k6];rfl
   have m4:w4.cell? (Y9 w0 4)=some (N9):=by rw[Hi w4 _ 4 _ _ _ k6];rfl
   have m5:w4.cell? (Y9 w0 5)=some (J 0):=by rw[Hi w4 _ 5 _ _ _ k6];rfl
   have m6:w4.cell? (Y9 w0 6)=some (J 0):=by rw[Hi w4 _ 6 _ _ _ k6];rfl
   have m7:w4.cell? (Y9 w0 7)=some (J 0):=by rw[Hi w4 _ 7 _ _ _ k6];rfl
   have c6:∀j,w4.frozen? (Y9 w0 j)=false:=λj=>by simp[World.frozen?,k6]
   obtain⟨X,hX⟩:=qa<|(((((w4.setCell (Y9 w0 2)<|.slice b3 t.d.n b4).setCell (Y9 w0 3)<|.slice b7 t.d.m b8).setCell (Y9 w0 4)<|.slice b9 t.d.x ca).setCell (Y9 w0 5)<|J t.d.used).setCell (Y9 w0 6)<|J t.d.live).setCell (Y9 w0 7)<|J t.d.turns;have c7:=O<|HC.Km bh D hX;have c8:=O D.ap;obtain⟨r,ay⟩:∃r:Hs,r=⟨.slice oa t.nv oc,.slice b3 t.d.n b4,.slice b7 t.d.m b8,.slice b9 t.d.x ca⟩:=⟨_,rfl⟩;have U:Hid<|X.heap[w0.heap.size+1]?=some (.cells (IL r t).toArray 71 (0,0))/\Cf X (w0.heap.size+2) r.v t.nv t.V/\BU X (w0.heap.size+2) r.l t.d.n t.d.L/\Bt X (w0.heap.size+2) r.i t.d.m t.d.I/\Bt X (w0.heap.size+2) r.x t.d.x t.d.X/\B9 w0 X:=O (by rw[ay];exact c7);have c9:Hid<|∀q,r.i.ownBlock=some q->r.x.ownBlock≠some q:=O (by rw[ay];exact c8);obtain⟨Z,hY⟩:=qa<|(X.alloc<|.cells (IL r t).toArray 71).drew;have C:B9 X Z:=by rw[hY];exact(n9).drew
   have zY:Z.heap.size=X.heap.size+1:=by rw[hY];simp
   have zX:=U.2.2.2.2.2.size;have bj:=Ai U.1;have M:=U.2.2.2.2.2.trans<|C.mono zX;have af:Z.ownsRow W.heap.size 71 8 (.slice ua k uc) k<|RY H s.T k:=Xf (R.t) M;have bk:Hid<|∀j u,(IL r t)[j]?=some u->Z.cell? (((y X 0):Addr).add j)=some u:=O (by rw[hY];exact Is (w:=(X.alloc _).drew)<|DO X _);have bt:Hid<|∀u∈IL r t,u.oneCell'=true:=O (by rw[ay];simp[IL,Value.oneCell']);have bm:W.heap.size<=Z.heap.size:=om;have ag:=J3 (W:=X.drew) U.1;have ae:=(C.block _ bj).trans U.1;rcases J3 ae,(R.below U.2.2.2.2.2).cells.2.1,(R.below M).cells.2.1 with⟨P,bn,bp⟩;have HF:Hid (∀g3 a w3,w3.ownsRow W.heap.size 71 8 (S9 g3 (k+1) a) (k+1) (RY H s.T k++IL r t)->Z.grownBy w3 (Value.slice ua k uc).ownBlock->((Value.slice ua k uc).ownBlock=some g3\/g3=Z.heap.size)->
     Se (w0.heap.size+1) r t w3/\Se (w0.heap.size+1) r t (w3.setCell (G c 1) (S9 g3 (k+1) a))/\w3.cell? (G c 1)=some (.slice ua k uc)/\w3.frozen? (G c 1)=false/\c<w3.heap.size/\Hid (SM (w3.setCell (G c 1) (S9 g3 (k+1) a)) c W.heap.size vF (S9 g3 (k+1) a) N9 (AM H k r) {s with nt:=k+1,ns:=0}/\B9 W (w3.setCell (G c 1) (S9 g3 (k+1) a)))):=O (λg3 a w3 h1 h2 h3=>by
    obtain⟨_,q1,q2,q3,q4,q5⟩:=z U;have da:∀q,r.own q->w0.heap.size<=q:=λq e=>by
     rcases e with e|e|e|e
     .have:=(q1.lt q e).1;omega
     .have:=(q2.lt q e).1;omega
     .have:=(q3.lt q e).1;omega
     have:=(q4.lt q e).1;omega
    have az:W.heap.size<=w0.heap.size+2:=om;obtain⟨k1,k2,k3⟩:=SM.vY (s:={s with nt:=k,ns:=0}) (t0:=t) R M h2 h1 (h3.imp id λe=>Nat.le_of_eq e.symm) (Eu (Xf q1 C) az) (Eu (Xf q2 C) az) (Eu (Xf q3 C) az) (Eu (Xf q4 C) az) c9 da;have eT:=IM s.T k;rw[z a8]at eT;have ah:=(h2.block _ om λe=>oT (R.t.lt _ e.symm).2).trans ae;refine⟨J3 ah,J3<|(At _ _ _ _<|by show w0.heap.size+1≠c;omega).trans ah,by rw[Hi w3 c 1 _ _ _ k1];rfl,by simp[World.frozen?,k1],Ai k1,O ⟨?_,?_⟩⟩
    .have ai:SM _ c W.heap.size vF (S9 g3 (k+1) a) N9 (AM H k r) {s with nt:=k+1,ns:=0,T:=AM s.T k t}:=k2;rw[eT]at ai;exact ai
    exact⟨k3.os.trans B.os,k3.tape.trans B.tape,k3.output.trans B.output,GO bz k3.size,λq hq=>(k3.block q om (λe=>oT (R.IC e).1)).trans (B.block q hq)⟩)
   have HY:=O hY;have aj:=O hX;clear D bh cN k6 y2 y3 y4 y5 y6 y7 b2 hX hY C zY M ae;go_upto_region 12 with fail
   rw[<-z aj];clear aj m2 m3 m4 m5 m6 m7 c6 n0 n1 n2 n3 n4 n5;clear ay;refine Hx (Se (w0.heap.size+1) r t) ?_;refine tz 0 (h:=tz 1 (h:=tz 2 (h:=tz 3 (h:=tz 5 (h:=?_)))));refine Aaz (rs:=[4,6]) ou oq ?_;refine OK rfl (λK hK=>?armA) (OK rfl (λK hK=>?armB) Aay)
   case' armA=>
    go_simp;refine hK.out _ _ ag λ_=>?_;clear hK K;refine ry 6 λK hK=>?_;go_simp;rw[show(World.drew (X.alloc (.cells #[J t.shape,r.v,r.l,r.i,r.x,J t.d.used,J t.d.live,J t.d.turns] 71)))=Z from(z HY).symm];refine hK.out _ _ P λ_=>?_;clear hK K
   case' armB=>
    go_simp;rw[show(World.drew (X.alloc (.cells #[J t.shape,r.v,r.l,r.i,r.x,J t.d.used,J t.d.live,J t.d.turns] 71)))=Z from(z HY).symm];refine hK.out _ _ P λ_=>?_;clear hK K;refine ry 4 λK hK=>?_;go_simp;refine hK.out _ _ P λ_=>?_;clear hK K
   all_goals
    refine ry 7 λK hK=>?_;refine Re _ rfl (.tmp 50) (.tmp 52) 26 rfl W.heap.size 71 i0 (.agg #[J 0,N9,N9,N9,N9,J 0,J 0,J 0]) 8 128 underlying26 cc cd cg ch rfl oo (.slice ua k uc) k (RY H s.T k) og af (y X 0) 1 1 (IL r t) og rfl bk bt oo od om bm _ rfl ?_;intro g3 a w3 f A g av;obtain⟨ak,ao,x0,dc,x2,aq⟩:=z HF g3 a w3 f A g;clear f A g;refine hK.out _ _ ak λ_=>?_;clear hK K;refine tz 8 (h:=tz 9 (h:=?_));refine ry 10 λK hK=>?_;go_simp;refine hK.out _ _ ao λ_=>?_;clear hK K;refine FI ?_;clear ak ao ag P bn bp;go_wp2_with fail;go_roundw
    .exact⟨k+1,_,_,om,ov,aq.1,aq.2⟩
    exact ow
 case neg=>
  have dd:k=s.nt:=om;subst dd;have bz:=o.size;rcases o7 o (by show w.heap.size<W.heap.size;omega) s2,O hM,O o with⟨u2,R,B⟩;clear hM o;go_wp2_with fail;go_loopw [60] (λi wr=>∃(q:Nat) (vS:V9),q<=s.ns/\i=J q/\SM wr c W.heap.size vF vT vS H {s with ns:=q}/\B9 W wr) λi _=>s.ns-(intOf i).toNat
  .exact⟨0,_,To _,rfl,R,B⟩
  obtain⟨q,vS,hq,rfl,hM,o⟩:=hrel;by_cases bb:q<s.ns
  case neg=>
   have bg:q=s.ns:=om;subst bg;have HE:Hid<|(∃c' vF vT vS H,Ending.returned (Q9 c)=.returned (Q9 c')/\SM wr c' w.heap.size vF vT vS H s)/\B9 w wr:=O ⟨⟨c,vF,vT,vS,H,rfl,hM.Kt om⟩,o9 hb o⟩;clear hM o;go_wp2;go_ret;exact HE
  case pos=>
   obtain⟨b,off,rfl,a6,hcs⟩:=HS.resolve_left om;rcases (hcs q bb).keep (λp=>o.cell a6),o.size,hM.lt with⟨⟨f0,f1,f2,f3,f4⟩,df,cw⟩;obtain⟨ua,uc,rfl⟩:=Au hM.si;obtain⟨x,hx⟩:=qd<|s.S q;rw[hx]at f0 f1 f2 f3 f4;rcases O hx,O hM,O o,Ll wr (.cells (Hr x).toArray 57) with⟨a8,R,B,⟨X,hX,ad,_,E⟩⟩;obtain⟨Z,hY⟩:=qa<|(X.alloc<|.cells (Hr x).toArray 57).drew;have C:B9 X Z:=by rw[hY];exact(n9).drew
   have zY:Z.heap.size=X.heap.size+1:=by rw[hY];simp
   have zX:=ad.size;have bj:=Ai E;have M:=ad.trans<|C.mono zX;have af:Z.ownsRow W.heap.size 57 5 (.slice ua q uc) q<|JI s.S q:=Xf (R.si) M;have bk:Hid<|∀j u,(Hr x)[j]?=some u->Z.cell? (((y X 0):Addr).add j)=some u:=O (by rw[hY];exact Is (w:=(X.alloc _).drew)<|DO X _);have bm:W.heap.size<=Z.heap.size:=om;have ag:=J2 (W:=X.drew) E;have ae:=(C.block _ bj).trans E;have P:=J2 ae;have bn:X.cell? (G c 2)=some (.slice ua q uc):=(R.below ad).cells.2.2.1;have bp:Z.cell? (G c 2)=some (.slice ua q uc):=(R.below M).cells.2.2.1;have HF:Hid (∀g3 a w3,w3.ownsRow W.heap.size 57 5 (S9 g3 (q+1) a) (q+1) (JI s.S q++Hr x)->Z.grownBy w3 (Value.slice ua q uc).ownBlock->((Value.slice ua q uc).ownBlock=some g3\/g3=Z.heap.size)->
     Sd wr.heap.size x w3/\Sd wr.heap.size x (w3.setCell (G c 2) (S9 g3 (q+1) a))/\w3.cell? (G c 2)=some (.slice ua q uc)/\w3.frozen? (G c 2)=false/\c<w3.heap.size/\Hid (SM (w3.setCell (G c 2) (S9 g3 (q+1) a)) c W.heap.size vF vT (S9 g3 (q+1) a) H {s with ns:=q+1}/\B9 W (w3.setCell (G c 2) (S9 g3 (q+1) a)))):=O (λg3 a w3 h1 h2 h3=>by
    obtain⟨k1,k2,k3⟩:=SM.pQ R x M h2 h1<|h3.imp id λe=>Nat.le_of_eq e.symm;have eT:=IM s.S q;rw[z a8]at eT;have ah:=(h2.block _ om λe=>oT (R.si.lt _ e.symm).2).trans ae;refine⟨J2 ah,J2<|(At _ _ _ _<|by show wr.heap.size≠c;omega).trans ah,by rw[Hi w3 c 2 _ _ _ k1];rfl,by simp[World.frozen?,k1],Ai k1,O ⟨?_,?_⟩⟩
    .have ai:SM _ c W.heap.size vF vT (S9 g3 (q+1) a) H {s with ns:=q+1,S:=AM s.S q x}:=k2;rw[eT]at ai;exact ai
    exact⟨k3.os.trans B.os,k3.tape.trans B.tape,k3.output.trans B.output,GO df k3.size,λq hq=>(k3.block q om (λe=>oT (R.IC e).1)).trans (B.block q hq)⟩)
   have HY:=O hY;have aj:=O hX;clear hM o hX hY C zY M ad E ae hcs hx;go_upto_region 17 with fail
   rw[show wr.alloc (.cells #[.string x.key,J x.shape,J x.place,J x.BO,J x.misses] 57)=X from(z aj).symm];clear aj f0 f1 f2 f3 f4;refine Hx (Sd wr.heap.size x) ?_;refine tz 0 (h:=tz 1 (h:=tz 2 (h:=tz 3 (h:=tz 5 (h:=?_)))));refine Aaz (rs:=[4,6]) ou oq ?_;refine OK rfl (λK hK=>?armC) (OK rfl (λK hK=>?armD) Aay)
   case' armC=>
    go_simp;refine hK.out _ _ ag λ_=>?_;clear hK K;refine ry 6 λK hK=>?_;go_simp;rw[show(World.drew (X.alloc (.cells #[.string x.key,J x.shape,J x.place,J x.BO,J x.misses] 57)))=Z from(z HY).symm];refine hK.out _ _ P λ_=>?_;clear hK K
   case' armD=>
    go_simp;rw[show(World.drew (X.alloc (.cells #[.string x.key,J x.shape,J x.place,J x.BO,J x.misses] 57)))=Z from(z HY).symm];refine hK.out _ _ P λ_=>?_;clear hK K;refine ry 4 λK hK=>?_;go_simp;refine hK.out _ _ P λ_=>?_;clear hK K
   all_goals
    refine ry 7 λK hK=>?_;refine Re _ rfl (.tmp 68) (.tmp 70) 27 rfl W.heap.size 57 j0 (.agg #[E9,J 0,J 0,J 0,J 0]) 5 48 underlying27 cj ck cl cm rfl oo (.slice ua q uc) q (JI s.S q) og af (y X 0) 1 1 (Hr x) (by simp[Act.eval]<;>omega) rfl bk (by simp[Hr,Value.oneCell']) oo od om bm _ rfl ?_;intro g3 a w3 f A g av;obtain⟨ak,ao,x0,dc,x2,aq⟩:=z HF g3 a w3 f A g;clear f A g;refine hK.out _ _ ak λ_=>?_;clear hK K;refine tz 8 (h:=tz 9 (h:=?_));refine ry 10 λK hK=>?_;go_simp;refine hK.out _ _ ao λ_=>?_;clear hK K;refine FI ?_;clear ak ao ag P bn bp;go_wp2_with fail;go_roundw
    .exact⟨q+1,_,om,ov,aq.1,aq.2⟩
    exact ow
def SM.mono(h:SM w c B vF vT vS H s)(hb:B'<=B):SM w c B' vF vT vS H s:=
 ⟨oT h.base,h.BH,Eu h.f hb,Eu h.t hb,Eu h.si hb,λi hi=>Eu (h.v i hi) hb,λi hi=>Eu (h.l i hi) hb,λi hi=>Eu (h.i i hi) hb,λi hi=>Eu (h.x i hi) hb,h.ap,h.ij⟩
def I7(L:List Ac)(i:Nat):Ac:=L.getD i VQ
theorem XX:∀(L:List Ac) {i j:Nat},i<L.length->j<14->(TZ L)[i*14+j]?=(Bn<|I7 L i).toList[j]?
 |a::L,0,j,_,hj=>by show((Bn a).toList++TZ L)[0*14+j]?=_;rw[Aak ot];simp[I7]
 |a::L,i+1,j,hi,hj=>by
  show((Bn a).toList++TZ L)[(i+1)*14+j]?=_;rw[Aav ot,show(i+1)*14+j-(Bn a).toList.length=i*14+j by simp;omega,XX L (by simpa using hi) hj];simp[I7]
def U9(h:w.ownsRow B 34 14 v L.length<|TZ L)(c:0<L.length):
  ∃g cap,v=.slice (some<|G g 0) L.length cap/\B<=g/\g<w.heap.size/\∀i,i<L.length->∀j u,(Bn<|I7 L i).toList[j]?=some u->w.cell? (G g<|i*14+j)=some u:=by
 obtain⟨hl,⟨b,d⟩|⟨g,cap,cur,b,hb,a,h1,h2,h3,h4⟩⟩:=id h
 .omega
 refine⟨g,cap,b,hb,(GC.1 a).1,λi hi j u hu=>?_⟩;have hj:j<14:=(SO.1 hu).1;rw[Lo (b▸h) (i*14+j) om,XX L hi hj,hu]
def TG(h:∀a∈L,VP a)i:Wf (I7 L i).k/\Wf (I7 L i).v:=by
 unfold I7;by_cases hi:i<L.length
 .have e:L.getD i VQ=L[i]:=by simp[List.getD,hi]
  rw[e];exact⟨Qk (h _<|List.getElem_mem hi).1,Qk (h _<|List.getElem_mem hi).2⟩
 have e:L.getD i VQ=VQ:=by simp[List.getD,Nat.not_lt.1 hi]
 rw[e];exact⟨Qk Cc,Qk Cc⟩
structure uN (K:Kd) (c:Cs) (b N:Nat) (w:Y) (bl:Nat) (f:Nat->Ac) (n ab q:Nat) (vF vT vS:V9) (H:Nat->Hs) (wr:Y):Prop where
 cu:Cq K c b N wr
 gr:Gr b w wr
 sm:SM wr bl w.heap.size vF vT vS H<|KH E0 f q
 ac:∀i,i<n->∀j u,(Bn<|f i).toList[j]?=some u->wr.cell? (G ab<|i*14+j)=some u
 ap:¬Ba bl vF vT vS H (KH E0 f q).nt ab
 lt:ab<wr.heap.size
 bw:b<w.heap.size
def uN.step{c}{Z}{bl}{f}{wr wx w3:Y}(h:uN K c b Z w bl f n ab q vF vT vS H wr)(hb:B9 wr wx)(l:SM w3 bl w.heap.size FT BT B1 H'<|KH E0 f<|q+1)
  (hD:BB (Ba bl vF vT vS H (KH E0 f q).nt) wx (Ba bl FT BT B1 H' (KH E0 f<|q+1).nt) w3):uN K c b Z w bl f n ab (q+1) FT BT B1 H' w3:=by
 rcases hb.size,h.gr.size,h.bw with⟨hz,o,d⟩;have g:Below w.heap.size wr w3:=⟨hD.os.trans hb.os,hD.tape.trans hb.tape,hD.output.trans hb.output,GO hz hD.size,λk hk=>(hD.block k om λe=>oT (h.sm.IC e).1).trans<|hb.block k om⟩;have m:w3.heap[ab]?=wr.heap[ab]?:=(hD.block ab (oT h.lt) h.ap).trans<|hb.block ab h.lt;refine⟨h.cu.below g d,h.gr.EI g<|Be _,l,λi hi j u hu=>?_,λe=>?_,A0 h.lt<|GO hz hD.size,d⟩
 .rw[As (w:=wr) (a:=G ab (i*14+j)) m];exact h.ac i hi j u hu
 rcases hD.own _ e with e|e
 .exact h.ap e
 have:=h.lt;omega
def QU(w:Y):C9 76 #[] w λe w'=>e=.returned (.agg #[S9 (w.heap.size+1) 1 1,N9,N9])/\w'.rowIs (w.heap.size+1) 108 3 (cellOf λ_=>⟨-1,⟨#[]⟩,0⟩)/\B9 w w':=by
 go_enter func76,ntmps76;go_wp2;refine Fs (v:=.agg #[S9 (w.heap.size+1) 1 1,N9,N9]) (by simp[results,results76,go_sem]) rfl ⟨rfl,?_,(n9).alloc oq _⟩;have h:=World.rowIs_alloc (w.alloc<|.cells #[S9 (w.heap.size+1) 1 1,N9,N9] 29) #[J (-1),E9,J 0] 108 (cellOf λ_=>⟨-1,⟨#[]⟩,0⟩) (λi hi=>by
  have:i<3:=hi
  match i,this with
  |0,_=>rfl
  |1,_=>rfl
  |2,_=>rfl)
 rw[Deep.nblk_alloc]at h;exact h
def oG{c}(b Z)(w)(h:Cq K c b Z w)(hN:Z<=1099511400000):
  C9 34 #[Q9 b] w λe w'=>∃L c' bl vF vT vS H,e=.returned (Q9 bl)/\(∀a∈L,VP a)/\L.length<=200/\GD K c=(L.map Bv,c')/\Cq K c' b (Z+20000) w'/\Gr b w w'/\SM w' bl w.heap.size vF vT vS H (KH E0 (I7 L) L.length):=by
 have j:=h.lt;go_enter func34,ntmps34;go_wp2_with fail;refine(QU _).mono ?_;rintro e w1 ⟨rfl,l,m⟩;obtain⟨B,o⟩:=qa<|w1.alloc<|.cells #[S9 (w.heap.size+1) 1 1,N9,N9] 29;have p:B9 w1 B:=by rw[o];exact(BE _ _).alloc (Be _) _
 have r:BQ w1 (w.heap.size+1) 1 f1:=⟨3,_,oo,l,λ_ _=>rfl⟩;have t:=o9 m p;go_wp2_with fail;rw[<-o];refine(z<|O<|Pz (ta:=none) (sa:=none) (s:=E0) 1 0 0 (r.below p r.lt) oo (.inl rfl) (.inl rfl) (GA.TQ<|R8.mono oo) oo oo).mono ?_;rintro e w2 ⟨⟨bl,C,D,E,W,rfl,F⟩,I⟩;have V:=t.size;have u:B9 w w2:=t.trans<|I.mono V;have f:=F.mono V;have M:=Gr.Am (b:=b) u;go_wp2_with fail;refine(cW b Z _ (z<|h.below u j) hN).mono ?_;rintro e w3 ⟨L,v,c',rfl,⟨P,X⟩,hp,hA⟩;obtain⟨ab,ad,rfl,hab,x,hcs⟩:=U9 hA.own P;have A:=O hA.wf;have Q:Hid<|∀q,q<=L.length->Kl (KH E0 (I7 L) q):=O λq hq=>lD R8 rfl (λi _=>TG hA.wf i) (show L.length<=1000 by omega) hq;have H0:Hid<|uN K c' b (Z+20000) w bl (I7 L) L.length ab 0 C D E W w3:=O
  ⟨hA.cu,M.trans hA.gr,f.keep λk hk=>hA.gr.block k (oT (f.IC hk).1) (f.IC hk).2,hcs,λe=>oT (f.IC e).2,x,j⟩
 generalize hn:L.length=n at*;go_wp2_with fail;go_loopw [13] (λix wr=>∃(q:Nat) (vF vT vS:V9) (h:Nat->Hs),q<=n/\ix=J q/\uN K c' b (Z+20000) w bl (I7 L) n ab q vF vT vS h wr) λix _=>n-(intOf ix).toNat
 .exact⟨0,_,_,_,_,To _,rfl,H0⟩
 obtain⟨q,vF,vT,vS,Hq,hq,rfl,g⟩:=hrel;by_cases R:q<n
 .have d:=g.ac q R;obtain⟨b0,b1,b2,b3,b4,b5,b6,b7,b8,b9,ae,af,ag,ah⟩:=qg d;rw[Aag]at b0;go_wp2_with fail;refine(US (I7 L q) (g.sm.below n9) (Q q hq) (TG A q).1).mono ?_;rintro e w4 ⟨rfl,FT,BT,B1,H',S,T⟩;go_wp2_with fail;go_roundw
  .exact⟨q+1,_,_,_,_,om,ov,z<|g.step n9 S T⟩
  exact ow
 have U:q=n:=om;subst U;go_wp2_with fail;go_ret;exact⟨L,c',bl,vF,vT,vS,Hq,rfl,A,om,z<|O hp,g.cu,g.gr,by rw[hn];exact g.sm⟩
section
open Go.RowKit Go.Shelf
def Jm{T}(a:EJ T){la:Option Addr}lc{ia:Option Addr}ic{xa:Option Addr}xc{d}{H}{w:Y}(b:T w)(hD:FJ w la ia xa d)(c:Small d)(e:∀i,i<d.n->Ch (d.L i).key=true->Qt T (d.L i).key (H i))(f:BI d H=0):
  C9 235 #[Dv la lc ia ic xa xc d] w (R9 (J 0) w):=by
 have h:=Pg a lc ic xc H b hD c e;rw[f]at h;exact h
end
section
open Go.RowKit Go.Shelf
def eY lc{ia:Option Addr}ic{xa:Option Addr}xc{d}v{f}{w}(hA:FJ w la ia xa d)(X:Small d)(hW:M9 d)(hk:LC v.kind v.num v.Ah v.str v.ref=KV 0 f.kind f.num f.Ah f.str f.ref)(hh:Qt BZ f<|hN f)(l:BI d (hD d)=0)(hT:BZ w):
  C9 233 #[Dv la lc ia ic xa xc d,Ga v] w (R9 (Ga<|Zw d 0 f) w):=by
 have Z:=O hk;have HR:Hid<|Zw d 0 f=Eb d (Ay d f<|hN f):=O<|DD ⟨l,rfl⟩;have i:=Hu l;have ad:=O l;clear hk l;have H:B9 w<|((w.alloc<|.cells #[.slice la d.n lc,.slice ia d.m ic,.slice xa d.x xc,J d.used,J d.live,J d.turns] 69).alloc<|.cells (qi v) 32).alloc<|.cells #[J 0,J 0,F9 0,E9,J 0] 32:=((n9).alloc oq _).alloc ot _;go_enter func233,ntmps233;go_wp2_with fail;refine m9 (Gd v.kind v.num v.Ah v.str v.ref _) λw1 r=>?_;rw[z Z];obtain⟨c,I⟩:=BF r;have ae:=r.size;simp at ae;have C:w.heap.size<w1.heap.size:=om;have D:w.heap.size+1+1<w1.heap.size:=om;have q0:w1.cell? (y w 0)=some (.slice la d.n lc):=by rw[c _ _ ot];simp[go_sem]
 have q1:w1.cell? (y w 1)=some (.slice ia d.m ic):=by rw[c _ _ ot];simp[go_sem]
 have q2:w1.cell? (y w 2)=some (.slice xa d.x xc):=by rw[c _ _ ot];simp[go_sem]
 have q3:w1.cell? (y w 3)=some (J d.used):=by rw[c _ _ ot];simp[go_sem]
 have q4:w1.cell? (y w 4)=some (J d.live):=by rw[c _ _ ot];simp[go_sem]
 have q5:w1.cell? (y w 5)=some (J d.turns):=by rw[c _ _ ot];simp[go_sem]
 have r0:w1.cell? (Z9 w 0)=some (J 0):=by rw[c _ _ oq];simp[go_sem]
 have r1:w1.cell? (Z9 w 1)=some (J 0):=by rw[c _ _ oq];simp[go_sem]
 have r2:w1.cell? (Z9 w 2)=some (F9 0):=by rw[c _ _ oq];simp[go_sem]
 have r3:w1.cell? (Z9 w 3)=some (E9):=by rw[c _ _ oq];simp[go_sem]
 have r4:w1.cell? (Z9 w 4)=some (J 0):=by rw[c _ _ oq];simp[go_sem]
 have fr:∀o,w1.frozen? (Z9 w o)=false:=λo=>by rw[I _ _ oq];simp[go_sem]
 have af:=o9 H r;have h:Hid<|∀o,B9 w<|w1.alloc o:=O λo=>af.alloc om _;clear r c I;go_wp2_with fail;refine m9 (Jm Bb lc ic xc (Bb _ _ hT<|h _) (hA.below<|h _) X (λq hq hk=>vE hk ((hW) q hq).1) ad) λw2 s=>?_;obtain⟨a,K⟩:=BF s;have ag:=s.size;simp at ag;have z0:w.heap.size<w2.heap.size:=om;have z2:w.heap.size+1+1<w2.heap.size:=om;have z3:w1.heap.size<w2.heap.size:=om;have aw:w2.cell? (y w 0)=some (.slice la d.n lc):=by rw[a _ _ ot,It _ _ _ (by exact C)];exact q0
 have ax:w2.cell? (y w 1)=some (.slice ia d.m ic):=by rw[a _ _ ot,It _ _ _ (by exact C)];exact q1
 have ay:w2.cell? (y w 2)=some (.slice xa d.x xc):=by rw[a _ _ ot,It _ _ _ (by exact C)];exact q2
 have az:w2.cell? (y w 3)=some (J d.used):=by rw[a _ _ ot,It _ _ _ (by exact C)];exact q3
 have aM:w2.cell? (y w 4)=some (J d.live):=by rw[a _ _ ot,It _ _ _ (by exact C)];exact q4
 have a6:w2.cell? (y w 5)=some (J d.turns):=by rw[a _ _ ot,It _ _ _ (by exact C)];exact q5
 have ah:w2.cell? (Z9 w 0)=some (J 0):=by rw[a _ _ ot,It _ _ _ (by exact D)];exact r0
 have ai:w2.cell? (Z9 w 1)=some (J 0):=by rw[a _ _ ot,It _ _ _ (by exact D)];exact r1
 have aj:w2.cell? (Z9 w 2)=some (F9 0):=by rw[a _ _ ot,It _ _ _ (by exact D)];exact r2
 have ak:w2.cell? (Z9 w 3)=some (E9):=by rw[a _ _ ot,It _ _ _ (by exact D)];exact r3
 have ao:w2.cell? (Z9 w 4)=some (J 0):=by rw[a _ _ ot,It _ _ _ (by exact D)];exact r4
 have k1:w2.cell? (y w1 1)=some (J f.kind):=by rw[a _ _ oq];simp[go_sem]
 have k2:w2.cell? (y w1 2)=some (J f.num):=by rw[a _ _ oq];simp[go_sem]
 have k3:w2.cell? (y w1 3)=some (F9 f.Ah):=by rw[a _ _ oq];simp[go_sem]
 have k4:w2.cell? (y w1 4)=some (.string f.str):=by rw[a _ _ oq];simp[go_sem]
 have k5:w2.cell? (y w1 5)=some (J f.ref):=by rw[a _ _ oq];simp[go_sem]
 have aq:∀o,w2.frozen? (Z9 w o)=false:=λo=>by rw[K _ _ ot];exact o8 ((BE w1.heap.size w1).alloc (Be _) _) D<|fr o
 have t:=o9 (h _) s;clear s a K fr q0 q1 q2 q3 q4 q5 r0 r1 r2 r3 r4;rcases hA.below t.drew,Bb _ _ hT t.drew,O t.drew with⟨M,P,j⟩;go_wp2_with fail
 go_region_law (first
  |(go_simp;go_at_call 139;refine(Iy lc ic xc M X i.d3 i.d4).mono ?_;rintro e w3 ⟨⟨bk,R0,R1,R2,E,S,rfl,Q⟩,b⟩;have n1:=o7 b z3 k1;have n2:=o7 b z3 k2;have n3:=o7 b z3 k3;have n4:=o7 b z3 k4;have n5:=o7 b z3 k5;have m0:=o7 b z2 ah;have m1:=o7 b z2 ai;have m2:=o7 b z2 aj;have m3:=o7 b z2 ak;have m4:=o7 b z2 ao;have mf:∀o,w3.frozen? (Z9 w o)=false:=λo=>o8 b z2<|aq o;have x2:=A0 z2 b.size;have x3:=A0 z3 b.size;have R:=O<|Bb _ _ P b;have u:=O Q;have A:=O<|o9 j b;clear b Q)
  |(go_simp;go_at_call 142;refine m9 (JU Bb hh R u X i.d3 i.d4) λw4 g=>?_;have s0:=o7 g x2 m0;have s1:=o7 g x2 m1;have s2:=o7 g x2 m2;have s3:=o7 g x2 m3;have s4:=o7 g x2 m4;have sf:∀o,w4.frozen? (Z9 w o)=false:=λo=>o8 g x2 (mf o);have x4:=A0 x2 g.size;have T:=O (u.below g);have ar:=O (o9 A g);clear g))
 all_goals
  clear u A R M P j m0 m1 m2 m3 m4 n1 n2 n3 n4 n5 mf x2 x3;obtain⟨U,V⟩:=Jy i.d3 i.d4 f<|hN f;generalize au:Ay d f (hN f)=pl at HR U V ⊢;clear au;by_cases W:pl<0
  focus
   have B:=O<|HR.trans<|C3 om;have k:Dr E pl=none:=C3 om;rw[k];clear k;go_wp2;refine Fs (v:=.agg #[J 0,J 0,F9 0,E9,J 0]) (by simp[results,results233,go_sem,s0,s1,s2,s3,s4]) rfl ⟨ql B,?_⟩
  rotate_left
  focus
   obtain⟨q,hq⟩:∃q:Nat,pl=(q:Int):=⟨pl.toNat,om⟩;subst hq;have av:q<d.n:=om;have B:Hid<|Zw d 0 f=(d.L q).val:=O<|HR.trans (by unfold Eb;rw[DD om];rfl);have k:Dr E (q:Int)=some (G (E q) 0):=by unfold Dr;rw[DD om];rfl
   rw[k];have F:=T.CH q av;rcases F.v0,F.v1,F.v2,F.v3,F.v4 with⟨e0,e1,e2,e3,e4⟩;clear k F U V W;go_wp2;refine Fs (v:=Ga (d.L q).val) (by simp[results,results233,go_sem,s0,s1,s2,s3,s4]) rfl ⟨ql B,?_⟩
  all_goals
   iterate 5 (refine On ?_ oy _)
   exact ar
end
def Lc(w:Y)(s:AE)(b0:Nat)(B:Nat->Nat):Prop:=∃Z M,CE w s.F b0 s.nf B Z M/\∀i,i<s.nf->Z i=i
def Lc.below{B}(h:Lc w s b0 B)(hb:B9 w w'):Lc w' s b0 B:=by
 obtain⟨Z,M,h1,h2⟩:=h;exact⟨Z,M,h1.below hb,h2⟩
def Lc.place{B}(h:Lc w s b0 B)(a:Ar s.nf s.F=0){j}(hj:j<s.nf)key:
  C9 88 #[Q9 (B j),.string key] w (R9 (J<|Bj s.F j key) w):=by
 obtain⟨Z,M,h1,h2⟩:=h;refine(GN w b0 B Z M h1 h2 (Av a).2.1 (Av a).2.2.1 j hj key).mono ?_;rintro e w' ⟨⟨b,_⟩,rfl⟩;exact⟨b,BE _ _⟩
def Lc.cell{B}(h:Lc w s b0 B){j}(hj:j<s.nf):B j<w.heap.size/\w.cell? (G (B j) 0)=some (J<|j)/\b0<=B j:=by
 obtain⟨Z,M,h1,h2⟩:=h;have:=DH h1 h2 hj;exact⟨by have:=I9 _ _ this.1;exact this,this.1,h1.base j hj⟩
def KC A(t:Tb){s}{b0}{B}j k{w}(hN:Lc w s b0 B)(hf:Ar s.nf s.F=0)(hj:j<s.nf)(hs:t.shape=j)(g:t.nv=nf s.F j)(I:IX w A.va t.nv t.V):
  C9 251 #[CK (B j) A t,Ga k] w (R9 (Ga<|Cb s.F t k) w):=by
 obtain⟨W,u,b,C,_,_,a⟩:=kS w (.cells #[.slice A.va t.nv A.vc,.slice A.la t.d.n A.lc,.slice A.ia t.d.m A.ic,.slice A.xa t.d.x A.xc,J t.d.used,J t.d.live,J t.d.turns,Q9 (B j)] 156) (.cells (qi k) 32)<|.cells #[J 0,J 0,F9 0,E9,J 0] 32;have x0:W.cell? (y w 0)=some (.slice A.va t.nv A.vc):=by rw[u];simp[go_sem]
 rcases O (I.below b rfl),O<|hN.below b,O hf,O (qp hs g) with⟨L,M,K,f⟩;have l0:w.heap.size<W.heap.size:=om;have l2:w.heap.size+1+1<W.heap.size:=om;clear I hN hf hs g C;by_cases hk:k.kind=4
 case neg=>
  have P:(k.kind !=4)=true:=by simpa using hk
  have l:Hid<|Cb s.F t k=Cd:=O (by unfold Cb;rw[C3 (by rw[(z f).1];omega),C3 (λh=>hk h.1)]);have p:=O a;obtain⟨r0,r1,r2,q,r⟩:=v5 a;have rf:∀o,W.frozen? (Z9 w o)=false:=λo=>by simp[World.frozen?,a]
  go_enter func251,ntmps251;go_wp2_with fail;rw[<-u];go_wp2;refine Fs (v:=Ga Cd) (by simp[results,results251,go_sem,r0,r1,r2,q,r]) rfl ⟨ql l,?_⟩;exact b
 have P:(k.kind !=4)=false:=by simpa using hk
 have HK:=O hk;have p:=O a;clear hk a;go_enter func251,ntmps251;go_wp2_with fail;rw[<-u];go_wp2_with fail;refine(M.place K hj k.str).mono ?_;rintro e w1 ⟨rfl,c⟩;have Q:=(c.cell l0).trans x0;have a:=(c.block _ l2).trans p;obtain⟨r0,r1,r2,q,r⟩:=v5 a;have rf:∀o,w1.frozen? (Z9 w o)=false:=λo=>by simp[World.frozen?,a]
 have D:=o9 b c;rcases Kc K hj k.str with hp|⟨i,hp,hi⟩
 focus
  have l:Hid<|Cb s.F t k=Cd:=O (by unfold Cb;rw[C3 (by rw[(z f).1];omega),C3 (λh=>by rw[(z f).1]at h;have h2:=h.2;rw[show(j:Int).toNat=j by omega,hp]at h2;omega)]);rw[hp];go_wp2;refine Fs (v:=Ga Cd) (by simp[results,results251,go_sem,r0,r1,r2,q,r]) rfl ⟨ql l,?_⟩
 rotate_left
 focus
  have l:Hid<|Cb s.F t k=t.V i:=O (by unfold Cb;rw[C3 (by rw[(z f).1];omega),(z f).1,show(j:Int).toNat=j by omega,hp,DD ⟨z HK,om⟩]<;>first|rfl|(congr 1<;>omega));rw[hp];have Ko:i<t.nv:=by rw[(z f).2];exact hi
  obtain⟨vb,off,E,R,H⟩:=(z<|L.below c rfl).resolve_left om;obtain⟨v0,v1,v2,v3,v4⟩:=H i Ko;rw[E]at Q;go_wp2;refine Fs (v:=Ga<|t.V i) (by simp[results,results251,go_sem,r0,r1,r2,q,r]) rfl ⟨ql l,?_⟩
 all_goals
  iterate 5 (refine On ?_ oy _)
  exact D
def I2 A t F{k}{w}(p:BZ w)(hs:t.shape=-1)(i:Inv Ky hN t.d)(f:M9 t.d)(q:Small t.d)(hk:Ky k)(hA:FJ w A.la A.ia A.xa t.d):
  C9 228 #[Le A t,Ga k] w (R9 (Ga<|Cb F t k) w):=by
 obtain⟨W,r,b,j,_,_,a⟩:=kS w (.cells #[.slice A.va t.nv A.vc,.slice A.la t.d.n A.lc,.slice A.ia t.d.m A.ic,.slice A.xa t.d.x A.xc,J t.d.used,J t.d.live,J t.d.turns] 153) (.cells (qi k) 32)<|.cells #[J 0,J 0,F9 0,E9,J 0] 32;have l2:w.heap.size+1+1<W.heap.size:=om;have u:Hid<|Cb F t k=Zw t.d 0 k:=O (by unfold Cb Zw;rw[DD om,DD ⟨Ft i,rfl⟩]);have s:=O<|eY A.lc A.ic A.xc k (hA.below b) q f (ZK hk) (N3 k hk) (Ft i)<|Bb _ _ p b;have h:=O b;clear hA p hs i f q hk b j;go_enter func228,ntmps228;go_wp2_with fail;rw[<-r];clear r;refine s.mono ?_;rintro e w1 ⟨rfl,c⟩;have a:=(c.block _ l2).trans a;obtain⟨r0,r1,r2,B,C⟩:=v5 a;have rf:∀o,w1.frozen? (Z9 w o)=false:=λo=>by simp[World.frozen?,a]
 have l:=O<|o9 h c;clear c a s;generalize Zw t.d 0 k=g at*;go_wp2;refine Fs (v:=Ga g) (by simp[results,results228,go_sem,r0,r1,r2,B,C]) rfl ⟨ql u,?_⟩;iterate 5 (refine On ?_ oy _)
 exact l
def UC n a nm w:
  C9 22 #[J n,J a,J nm] w λe w'=>e=.returned (.bool<|DP n a nm)/\w'=w:=by
 go_enter func22,ntmps22;go_wp2;all_goals
  go_ret;exact⟨by simp_all [DP]<;>omega,rfl⟩
def QD v nm w:
  C9 23 #[V v.kind v.num v.Ah v.str v.ref,J nm] w (R9 (.bool<|Hj v nm) w):=by
 have a:B9 w<|w.alloc<|.cells (qi v) 32:=n9;have b:=O a;clear a;go_enter func23,ntmps23;go_wp2_with fail;refine m9 (Cu v.kind v.num v.Ah v.str v.ref _) λw1 hb=>?_;obtain⟨hc,hf⟩:=BF hb;have b:=O<|o9 b hb;clear hb;go_wp2;all_goals
  go_ret;exact⟨by clear hc hf;simp_all [Hj,Vl.ok],b⟩
def UD op(h1:1<=op)(a:op<=9):∃fn,∀w,(Instr.index 77 ED<|J op).run prog w=.ok (.agg #[J (xV op),fn]) w:=by
 rcases(by omega:op=1\/op=2\/op=3\/op=4\/op=5\/op=6\/op=7\/op=8\/op=9)with rfl|rfl|rfl|rfl|rfl|rfl|rfl|rfl|rfl
 .exact⟨.func (.func 50) #[] #[],λw=>ou⟩
 .exact⟨.func (.func 51) #[] #[],λw=>ou⟩
 .exact⟨.func (.func 52) #[] #[],λw=>ou⟩
 .exact⟨.func (.func 53) #[] #[],λw=>ou⟩
 .exact⟨.func (.func 54) #[] #[],λw=>ou⟩
 .exact⟨.func (.func 55) #[] #[],λw=>ou⟩
 .exact⟨.func (.func 56) #[] #[],λw=>ou⟩
 .exact⟨.func (.func 57) #[] #[],λw=>ou⟩
 exact⟨.func (.func 58) #[] #[],λw=>ou⟩
def Yd x fn w:(Instr.field 76 (.agg #[J x,fn]) 0).run prog w=.ok (J x) w:=ou
def Rq a w:
  C9 7 #[I5 a] w (R9 (.bool<|Cx a) w):=by
 obtain⟨W,i,d,hk⟩:=Wb a w;have j:=O d;have HK:=O hk;have c:Hid<|B9 W W:=O<|BE _ _;obtain⟨l0,k0,k1,k2,k3,k4,l,m,n,o,v4,v5,v6,p,v8⟩:=hk W<|BE _ _;clear hk d;by_cases h1:a.op<1
 .have t:decide (a.op<1)=true:=by simp[h1]
  have q:Hid<|Cx a=false:=O (by unfold Cx;(iterate 9 rw[C3 om]);exact Bool.and_false _);clear h1;go_enter func7,ntmps7;go_wp2_with fail;go_ret;exact⟨ql q,by rw[<-i];exact j⟩
 have t:decide (a.op<1)=false:=by simp[h1]
 by_cases k:9<a.op
 .have f:decide (9<a.op)=true:=by simp[k]
  have q:Hid<|Cx a=false:=O (by unfold Cx;(iterate 9 rw[C3 om]);exact Bool.and_false _);clear h1 k;go_enter func7,ntmps7;go_wp2_with fail;go_ret;exact⟨ql q,by rw[<-i];exact j⟩
 have f:decide (9<a.op)=false:=by simp[k]
 obtain⟨fn,r⟩:=UD a.op om om;have s:=Yd;have u:Hid<|1<=a.op/\a.op<=9:=O ⟨om,om⟩;clear h1 k;go_enter func7,ntmps7;go_wp2_with fail;rw[<-i];clear i;refine qr W ?_;refine GS λK hK=>?_;go_simp;refine⟨_,λw' b=>qk b<|MA _,hK _ ?_⟩;clear hK K;refine N (h:=N (h:=?_));refine GS λK hK=>?_;go_simp;apply Exists.intro;refine qp (λw' b=>?_)<|hK _ ?_
 .rfl
 clear hK K;refine GS λK hK=>?_;go_simp;apply Exists.intro;refine qp (λw' b=>?_)<|hK _ ?_
 .rfl
 clear hK K;refine N (h:=?_);refine Hz ?_;intro w1 g;have c:=O g;have v:=O<|eV a u.1 u.2;clear g l0 k0 k1 k2 k3 k4 l m n o v4 v5 v6 p v8 t f r s;obtain⟨l0,k0,k1,k2,k3,k4,l,m,n,o,v4,v5,v6,p,v8⟩:=z HK w1 c;go_wp2_with (first|(go_at_call 22;refine(UC _ _ _ _).mono ?_;rintro e w2 ⟨rfl,x⟩;rw[x];clear x)|(go_at_call 23;refine m9 (QD _ _ _) λw3 hb=>?_;have c:=O<|show B9 W w3 from o9 c hb;obtain⟨l0,k0,k1,k2,k3,k4,l,m,n,o,v4,v5,v6,p,v8⟩:=z HK w3 c;clear hb));all_goals
  go_ret;refine⟨?_,o9 j<|z (by assumption:Hid<|B9 W _)⟩;rw[<-z v];clear HK v;unfold EK
  simp_all
section
open Go.RowKit Go.Shelf
attribute [local go_sem] Oper.semAt_some
def Sv(d:Dc)(t:Int)(l:List Nat):Option Nat:=l.find? λi=>decide (t<(d.L i).turn)
theorem Mv{t}{l}(h:∀i∈l,¬t<(d.L i).turn):Sv d t l=none:=by
 grind [Sv]
def T1{t}{l a}(h:∀j∈l,¬t<(d.L j).turn)(hp:l++[i]<+:a)(hi:t<(d.L i).turn):Sv d t a=some i:=by
 grind [Sv,Mv]
def xZ(d:Dc):Option Nat->Bool×Pr
 |none=>(false,default)
 |some i=>(true,d.L i)
open Classical in
noncomputable def LM(d:Dc)(t:Int):Bool×Pr:=if BI d (hD d)=0 then xZ d (Sv d t<|A8 d d.n)else(false,default)
def RI{t}(h:BI d (hD d)=0)(e:Sv d t (A8 d d.n)=none):LM d t=(false,default):=by unfold LM;rw[DD h,e];rfl
def RJ{t}(h:BI d (hD d)=0)(e:Sv d t (A8 d d.n)=some i):LM d t=(true,d.L i):=by unfold LM;rw[DD h,e];rfl
def qK(d:Dc)(t:Int)(pre:List<|M4 d):Prop:=∀Z∈pre,¬t<(d.L Z.1).turn
def zI(d:Dc)(t:Int)(b:Nat)(pre:List<|M4 d)(W:Y):Prop:=∃(a:List<|M4 d) (Z:M4 d),pre=a++[Z]/\qK d t a/\t<(d.L Z.1).turn/\W.cell? (G b 0)=some (.bool true)/\W.cell? (G b 1)=some (J (d.L Z.1).key.kind)/\W.cell? (G b 2)=some (J (d.L Z.1).key.num)/\W.cell? (G b 3)=some (F9 (d.L Z.1).key.Ah)/\W.cell? (G b 4)=some (.string (d.L Z.1).key.str)/\W.cell? (G b 5)=some (J (d.L Z.1).key.ref)/\W.cell? (G b 6)=some (J (d.L Z.1).val.kind)/\W.cell? (G b 7)=some (J (d.L Z.1).val.num)/\W.cell? (G b 8)=some (F9 (d.L Z.1).val.Ah)/\W.cell? (G b 9)=some (.string (d.L Z.1).val.str)/\W.cell? (G b 10)=some (J (d.L Z.1).val.ref)/\W.cell? (G b 11)=some (J (d.L Z.1).turn)
end
def TN(f:Nat->Int)(m:Nat):Nat->Nat->Nat
 |k,0=>k
 |k,g+1=>if f k=0 then k else TN f m (k+1) g
def QG(d:Dc):Nat:=TN d.I d.m 0 d.m
def eM{f}(h:f k=0)(hk:k<m):TN f m k (m-k)=k:=by
 obtain⟨g,a⟩:∃g,m-k=g+1:=⟨m-k-1,om⟩;rw[a];exact DD h
def eL{f}(h:f k≠0)(hk:k<m):TN f m k (m-k)=TN f m (k+1) (m-(k+1)):=by
 obtain⟨g,a⟩:∃g,m-k=g+1:=⟨m-k-1,om⟩;grind [TN]
open Classical in
noncomputable def Ge(d:Dc):Int:=if BI d (hD d)=0 then(QG d:Int)else 0
def vW(hj:j<K0 d):∃i,i<d.n/\(d.L i).turn≠0/\EL d j=d.L i:=by
 obtain⟨i,h1,h2,h3⟩:=F7 d.n hj;exact⟨i,h1,h2,by rw[<-h3];exact FN h1 h2⟩
def pP(hi:i<d.n)(a:(d.L i).turn≠0):(A8 d i).length<K0 d/\EL d (A8 d i).length=d.L i:=⟨LR hi a,FN hi a⟩
theorem X1{p}:0<=Y6 p n↔∃j,j<n/\p j=true:=by
 constructor
 .grind [JT]
 rintro⟨j,h1,h2⟩;rcases JT p n with e|⟨i,e,_⟩
 .have:=Hd e j (To _) om;rw[this]at h2;cases h2
 rw[e];omega
def VS(d:Dc):Pl:=⟨K0 d,EL d,0⟩
def YI{m}:(VS d).has m=true↔∃i,i<d.n/\(d.L i).turn≠0/\(d.L i).key.kind=2/\(d.L i).key.num=m:=by
 rw[Pl.has,decide_eq_true_iff,X1];constructor
 .rintro⟨j,h1,h2⟩;obtain⟨i,a,i2,i3⟩:=vW h1;have h2:((EL d j).key.kind==2&&(EL d j).key.num==m)=true:=h2;grind
 rintro⟨i,a,i2,i3,i4⟩;obtain⟨h1,h2⟩:=pP a i2;refine⟨_,h1,?_⟩;show((EL d _).key.kind==2&&(EL d _).key.num==m)=true;simp[h2,i3,i4]
theorem Uo(f:Nat->Int)(m:Nat):∀g k,k+g=m->TN f m k g<=m/\(∀j,k<=j->j<TN f m k g->f j≠0)/\k<=TN f m k g/\(TN f m k g=m\/(TN f m k g<m/\f (TN f m k g)=0))
 |0,k,h=>⟨by show k<=m;omega,λj h1 h2=>by have h2:j<k:=h2;omega,Be _,.inl<|by show k=m;omega⟩
 |g+1,k,h=>by
  show(if f k=0 then k else TN f m (k+1) g)<=m/\_;by_cases e:f k=0
  .have e2:TN f m k (g+1)=k:=DD e;rw[e2,DD e];exact⟨om,λj h1 h2=>om,Be _,.inr ⟨om,e⟩⟩
  have e2:TN f m k (g+1)=TN f m (k+1) g:=C3 e;obtain⟨h1,h2,h3,h4⟩:=Uo f m g (k+1) om;rw[e2,C3 e];refine⟨h1,λj c a=>?_,om,h4⟩;by_cases b:j=k
  .subst b;exact e
  exact h2 j om a
def nL(h:Inv Ky hN d):((VS d).len:Int)=Ge d:=by
 obtain⟨l1,l2,_,a⟩:=Uo d.I d.m d.m 0 om;have e:Ge d=(QG d:Int):=DD<|Ft h;rw[e];have l2:∀j,0<=j->j<QG d->d.I j≠0:=l2;have a:QG d=d.m\/(QG d<d.m/\d.I (QG d)=0):=a;have:(VS d).len=QG d:=by
  refine Pl.WY (λj hj=>?_) ?_
  .rw[YI];rcases h.i0.ints j om with e|⟨e1,e2,e3,c,f⟩;all_goals grind [hN,VS]
  cases hh:(VS d).has<|(QG d:Int)+1
  .rfl
  obtain⟨i,b,i2,i3,i4⟩:=YI.1 hh;exfalso;rcases a with a|⟨a,g⟩
  .exact h.next i b i2 ⟨i3,by rw[i4,a]⟩
  have:=h.i0.small i b i2 ⟨i3,om,om⟩;all_goals grind [hN,VS,QG]
 rw[this]
def gM(h:Inv Ky hN d)n:(VS d).next n=(LM d n).2:=by
 rw[Pl.next,Pl.FC];rcases Lk (λj=>decide (n<((VS d).P j).turn)) (VS d).n 0 with e|⟨j,e,h1,h2,h3,h4⟩
 .have e':Y6 (λj=>decide (n<((VS d).P j).turn)) (VS d).n=-1:=e;rw[e'];have a:Sv d n (A8 d d.n)=none:=Mv (λi hi=>by
   obtain⟨c,i2⟩:i<d.n/\(d.L i).turn≠0:=by simpa[A8]using hi
   obtain⟨k1,k2⟩:=pP c i2;have:=Hd e (A8 d i).length (To _) (by rw[X9];exact k1);have:decide (n<(EL d (A8 d i).length).turn)=false:=this;rw[k2]at this;simpa using this)
  rw[RI (Ft h) a];rfl
 have e':Y6 (λj=>decide (n<((VS d).P j).turn)) (VS d).n=j:=e;rw[e',C3 om];have hj:j<(A8 d d.n).length:=by rw[X9]at h2;exact h2
 have f:∀q (hq:q<(A8 d d.n).length),EL d q=d.L (A8 d d.n)[q]:=λq hq=>by
  rw[EL,List.getD_eq_getElem?_getD,List.getElem?_eq_getElem hq];rfl
 have a:Sv d n (A8 d d.n)=some (A8 d d.n)[j]:=by
  refine T1 (l:=(A8 d d.n).take j) (λx b=>?_) ⟨(A8 d d.n).drop<|j+1,?_⟩ ?_
  .obtain⟨q,hq,b⟩:=List.getElem_of_mem b;rw[List.length_take]at hq;have:=h4 q (To _) om;have:decide (n<(EL d q).turn)=false:=this;grind [hN,VS]
  .rw[List.append_assoc,List.singleton_append,List.getElem_cons_drop,List.take_append_drop]
  have:decide (n<(EL d j).turn)=true:=h3;grind
 rw[RJ (Ft h) a];exact f j hj
section
open Go.RowKit Go.Shelf
attribute [local go_sem] Oper.semAt_some
def WD lc{ia:Option Addr}ic{xa:Option Addr}xc{d}t{w}(hT:BZ w)(hA:FJ w la ia xa d)(hS:Small d)(hW:M9 d)(hk:BI d (hD d)=0):
  C9 232 #[Dv la lc ia ic xa xc d,J t] w (R9 (qD (LM d t).1 (LM d t).2) w):=by
 have ag:=O hk;have aw:=Hu hk;have V:B9 w<|((w.alloc<|.cells #[.slice la d.n lc,.slice ia d.m ic,.slice xa d.x xc,J d.used,J d.live,J d.turns] 69).alloc<|.cells #[J t] 3).alloc<|.cells #[.bool false,J 0,J 0,F9 0,E9,J 0,J 0,J 0,F9 0,E9,J 0,J 0] 170:=((n9).alloc oq _).alloc ot _;refine(W0 (n:=20)).1 ?_;refine callsIn_of_wp_marks func232 rfl trivial ?_ rfl;simp only[ntmps232,Aaw,Aac,VC,Nat.reduceAdd,Nat.reduceSub,Aaf,Aae,Aax,Aam,Wx,Aau];gi_wp2_with fail;refine⟨trivial,?_⟩;refine(W0.2<|Jm Bb lc ic xc (Bb _ _ hT V) (hA.below V) hS (λq hq hk=>vE hk ((hW) q hq).1) ag).mono ?_;rintro e w1 ⟨rfl,ah⟩;obtain⟨j,bb⟩:=BF ah;have bc:=ah.size;simp at bc;have y1:w.heap.size+1<w1.heap.size:=om;have I:w.heap.size+1+1<w1.heap.size:=om;have q0:w1.cell? (y w 0)=some (.slice la d.n lc):=by rw[j _ _ ot];simp[go_sem]
 have q1:w1.cell? (y w 1)=some (.slice ia d.m ic):=by rw[j _ _ ot];simp[go_sem]
 have q2:w1.cell? (y w 2)=some (.slice xa d.x xc):=by rw[j _ _ ot];simp[go_sem]
 have q3:w1.cell? (y w 3)=some (J d.used):=by rw[j _ _ ot];simp[go_sem]
 have q4:w1.cell? (y w 4)=some (J d.live):=by rw[j _ _ ot];simp[go_sem]
 have q5:w1.cell? (y w 5)=some (J d.turns):=by rw[j _ _ ot];simp[go_sem]
 have tq:w1.cell? (Y9 w 0)=some (J t):=by rw[j _ _ oq];simp[go_sem]
 have r0:w1.cell? (Z9 w 0)=some (.bool false):=by rw[j _ _ oq];simp[go_sem]
 have r1:w1.cell? (Z9 w 1)=some (J 0):=by rw[j _ _ oq];simp[go_sem]
 have r2:w1.cell? (Z9 w 2)=some (J 0):=by rw[j _ _ oq];simp[go_sem]
 have r3:w1.cell? (Z9 w 3)=some (F9 0):=by rw[j _ _ oq];simp[go_sem]
 have r4:w1.cell? (Z9 w 4)=some (E9):=by rw[j _ _ oq];simp[go_sem]
 have r5:w1.cell? (Z9 w 5)=some (J 0):=by rw[j _ _ oq];simp[go_sem]
 have r6:w1.cell? (Z9 w 6)=some (J 0):=by rw[j _ _ oq];simp[go_sem]
 have r7:w1.cell? (Z9 w 7)=some (J 0):=by rw[j _ _ oq];simp[go_sem]
 have r8:w1.cell? (Z9 w 8)=some (F9 0):=by rw[j _ _ oq];simp[go_sem]
 have r9:w1.cell? (Z9 w 9)=some (E9):=by rw[j _ _ oq];simp[go_sem]
 have bd:w1.cell? (Z9 w 10)=some (J 0):=by rw[j _ _ oq];simp[go_sem]
 have bf:w1.cell? (Z9 w 11)=some (J 0):=by rw[j _ _ oq];simp[go_sem]
 have fr:∀o,w1.frozen? (Z9 w o)=false:=λo=>by rw[bb _ _ oq];simp[go_sem]
 have ai:=o9 V ah;gi_wp2_with fail;refine⟨trivial,?_⟩;refine(W0.2<|Iy lc ic xc (hA.below ai) hS aw.d3 aw.d4).mono ?_;rintro e w2 ⟨⟨bk,R0,R1,R2,E,S,rfl,bg⟩,ax⟩;gi_wp2_with fail;refine⟨trivial,?_⟩;refine(W0.2<|Iv bk _).mono ?_;rintro e w4 ⟨rfl,rfl⟩;gi_wp2_with fail;obtain⟨u,hu⟩:=qa<|w2.alloc<|.cells #[Q9 bk] 215;rw[<-hu];have ay:B9 w2 u:=by rw[hu];exact(BE _ _).alloc (Be _) _
 have bh:u.cell? (y w2 0)=some (Q9 bk):=by rw[hu];simp[go_sem]
 have ad:=(z<|O bg).below ay;have k:=o9 ax ay;rcases o9 ai k,(k.cell y1).trans tq,(k.cell I).trans r0,(k.cell I).trans r1,(k.cell I).trans r2,(k.cell I).trans r3,(k.cell I).trans r4,(k.cell I).trans r5,(k.cell I).trans r6,(k.cell I).trans r7,(k.cell I).trans r8,(k.cell I).trans r9,(k.cell I).trans bd,(k.cell I).trans bf with⟨M,tu,x0,x1,x2,x3,x4,x5,x6,x7,x8,x9,az,aM⟩;have fu:∀o,u.frozen? (Z9 w o)=false:=λo=>o8 k I<|fr o;have aj:=A0 y1 k.size;have g:=A0 I k.size;have bj:=O<|GO (Aaa aj)<|Be _;refine wpIn_rangeFunc_ownF rfl oo (gf:=194) (lb:=#[Q9 w2.heap.size]) rfl trivial (enters_of func194 ou rfl)
  (LH 19 oo w2.heap.size u.heap.size ad hS ad.l0 (λi hi=>(ad.CH i hi).lt) bh) belowK_t (belowK_b<|Be _) (BE _ _) (λ_=>rfl)
  (λpre W=>qK d t pre/\B9 u W)
  (λc pre W=>(c=.ret/\zI d t (w.heap.size+1+1) pre W)/\B9 w W)
  (OwnFrom.and (ownFrom_pure _ λpre:List (M4 d)=>qK d t pre)<|ownFrom_below (Be _)<|Be _)
  (λc=>OwnFrom.and (Own.from (λs A B row hs P Q=>⟨hs.1,by obtain⟨R,Z,h1,h2,h3,c0,c1,c2,c3,c4,c5,c6,c7,c8,c9,T,U⟩:=hs.2;exact⟨R,Z,h1,h2,h3,NB c0 P Q,NB c1 P Q,NB c2 P Q,NB c3 P Q,NB c4 P Q,NB c5 P Q,NB c6 P Q,NB c7 P Q,NB c8 P Q,NB c9 P Q,NB T P Q,NB U P Q⟩⟩) _)<|ownFrom_below (Be _)<|by have:=z bj;have:=y1;omega)
  ⟨λZ hy=>(by cases hy),BE _ _⟩
  ?a1 ?assign ?body ?done ?stop
 case assign=>
  intro l x W K hK;gi_wp2;exact hK
 case body=>
  rintro l pre ⟨i,hi,ht⟩ W ⟨hp,a⟩ _;rcases (ad.below a).CH i hi,(a.cell aj).trans tu,A0 aj a.size,A0 g a.size,(a.cell g).trans x0,(a.cell g).trans x1,(a.cell g).trans x2,(a.cell g).trans x3,(a.cell g).trans x4,(a.cell g).trans x5,(a.cell g).trans x6,(a.cell g).trans x7,(a.cell g).trans x8,(a.cell g).trans x9,(a.cell g).trans az,(a.cell g).trans aM with⟨⟨H,k0,k1,k2,k3,k4,v0,v1,v2,v3,v4,tn,_,_⟩,tW,b6,F,a0,a1,a2,a3,a4,a5,a6,a7,a8,a9,bm,bn⟩;have fW:∀o,W.frozen? (Z9 w o)=false:=λo=>o8 a g<|fu o;have HP:=O hp;by_cases ae:t<(d.L i).turn
  .have HL:=O ae;have aq:decide (t<(d.L i).turn)=true:=by simp[ae]
   gi_wp2;refine wpIn_region_quiet (C:=λw'=>B9 W w') ou ou ou ((BE _ _).drew) ?_;show wpQuiet _ _ _ _ [_,_,_,_,_,_,_] _;(iterate 7 refine N (h:=?_));refine Hz ?_;intro w5 f;rcases B7 f,o9 M<|a.trans<|f.mono a.size,(f.cell H).trans k0,(f.cell H).trans k1,(f.cell H).trans k2,(f.cell H).trans k3,(f.cell H).trans k4,(f.cell H).trans v0,(f.cell H).trans v1,(f.cell H).trans v2,(f.cell H).trans v3,(f.cell H).trans v4,(f.cell H).trans tn,(f.cell F).trans a0,(f.cell F).trans a1,(f.cell F).trans a2,(f.cell F).trans a3,(f.cell F).trans a4,(f.cell F).trans a5,(f.cell F).trans a6,(f.cell F).trans a7,(f.cell F).trans a8,(f.cell F).trans a9,(f.cell F).trans bm,(f.cell F).trans bn with⟨HK,af,b7,b8,b9,ca,cb,cc,cd,cg,ch,cj,b5,bp,bq,br,bt,bu,bw,bx,bz,b0,b1,ar,au⟩;have f5:∀o,w5.frozen? (Z9 w o)=false:=λo=>o8 f F<|fW o;gi_wp2;refine⟨?_,⟨rfl,pre,⟨i,hi,ht⟩,rfl,HP,HL,?_⟩,?_⟩
   .refine HK.trans ?_;iterate 11 (refine KeepsOthers.trans ?_<|Q2 _ _ _)
    exact Q2 _ _ _
   .refine⟨?_,?_,?_,?_,?_,?_,?_,?_,?_,?_,?_,?_⟩<;>simp[go_sem,bp,bq,br,bt,bu,bw,bx,bz,b0,b1,ar,au]
   iterate 12 (refine On ?_ oy _)
   exact af
  have HL:=O ae;have aq:decide (t<(d.L i).turn)=false:=by simp[ae]
  gi_wp2;refine wpIn_region_quiet (C:=λw'=>B9 W w') ou ou ou ((BE _ _).drew) ?_;show wpQuiet _ _ _ _ [_,_,_,_,_,_,_] _;(iterate 7 refine N (h:=?_));refine Hz ?_;intro w5 f;have af:=O f;gi_wp2;exact⟨z<|B7 f,af.mono a.size,λZ hy=>(AaG.1 hy).elim (HP Z) (λe=>by rw[List.mem_singleton]at e;subst e;exact Int.not_lt.2 HL),o9 a af⟩
 case done=>
  rintro D ys W hD b2 ⟨hp,a⟩ hK;have HR:Hid<|LM d t=(false,default):=O (RI ag (Mv (λi hi=>by
   rw[<-show ys.map (·.1)=A8 d d.n from b2]at hi;obtain⟨Z,hy,rfl⟩:=List.mem_map.1 hi;exact hp Z hy)))
  rcases (a.cell g).trans x0,(a.cell g).trans x1,(a.cell g).trans x2,(a.cell g).trans x3,(a.cell g).trans x4,(a.cell g).trans x5,(a.cell g).trans x6,(a.cell g).trans x7,(a.cell g).trans x8,(a.cell g).trans x9,(a.cell g).trans az,(a.cell g).trans aM with⟨c0,c1,c2,c3,c4,c5,c6,c7,c8,c9,T,U⟩;have fW:∀o,W.frozen? (Z9 w o)=false:=λo=>o8 a g<|fu o;gi_wp2;obtain⟨Y,v⟩:=qa<|(((((((((((W.setCell (Z9 w 0)<|.bool false).setCell (Z9 w 1)<|J 0).setCell (Z9 w 2)<|J 0).setCell (Z9 w 3)<|F9 0).setCell (Z9 w 4) E9).setCell (Z9 w 5)<|J 0).setCell (Z9 w 6)<|J 0).setCell (Z9 w 7)<|J 0).setCell (Z9 w 8)<|F9 0).setCell (Z9 w 9) E9).setCell (Z9 w 10)<|J 0).setCell (Z9 w 11)<|J 0;rw[<-v];have b3:KeepsOthers W Y:=by
   rw[v];iterate 11 (refine KeepsOthers.trans ?_<|Q2 _ _ _)
   exact Q2 _ _ _
  have hK':=b3.same D _ hK rfl;have b4:B9 w Y:=by
   rw[v];iterate 12 (refine On ?_ oy _)
   exact o9 M a
  have d0:Y.cell? (Z9 w 0)=some (.bool false):=by rw[v];simp[go_sem,c0]
  have d1:Y.cell? (Z9 w 1)=some (J 0):=by rw[v];simp[go_sem,c1]
  have d2:Y.cell? (Z9 w 2)=some (J 0):=by rw[v];simp[go_sem,c2]
  have d3:Y.cell? (Z9 w 3)=some (F9 0):=by rw[v];simp[go_sem,c3]
  have d4:Y.cell? (Z9 w 4)=some (E9):=by rw[v];simp[go_sem,c4]
  have d5:Y.cell? (Z9 w 5)=some (J 0):=by rw[v];simp[go_sem,c5]
  have d6:Y.cell? (Z9 w 6)=some (J 0):=by rw[v];simp[go_sem,c6]
  have d7:Y.cell? (Z9 w 7)=some (J 0):=by rw[v];simp[go_sem,c7]
  have d8:Y.cell? (Z9 w 8)=some (F9 0):=by rw[v];simp[go_sem,c8]
  have d9:Y.cell? (Z9 w 9)=some (E9):=by rw[v];simp[go_sem,c9]
  have d10:Y.cell? (Z9 w 10)=some (J 0):=by rw[v];simp[go_sem,T]
  have d11:Y.cell? (Z9 w 11)=some (J 0):=by rw[v];simp[go_sem,U]
  refine⟨oq,.inl ⟨_,_,rfl,AaJ hK',?_⟩⟩;have e0:=NB d0 (MM _ D<|.deferred none) (λr e=>by cases e;exact⟨_,hK',rfl⟩);have e1:=NB d1 (MM _ D<|.deferred none) (λr e=>by cases e;exact⟨_,hK',rfl⟩);have e2:=NB d2 (MM _ D<|.deferred none) (λr e=>by cases e;exact⟨_,hK',rfl⟩);have e3:=NB d3 (MM _ D<|.deferred none) (λr e=>by cases e;exact⟨_,hK',rfl⟩);have e4:=NB d4 (MM _ D<|.deferred none) (λr e=>by cases e;exact⟨_,hK',rfl⟩);have e5:=NB d5 (MM _ D<|.deferred none) (λr e=>by cases e;exact⟨_,hK',rfl⟩);have e6:=NB d6 (MM _ D<|.deferred none) (λr e=>by cases e;exact⟨_,hK',rfl⟩);have e7:=NB d7 (MM _ D<|.deferred none) (λr e=>by cases e;exact⟨_,hK',rfl⟩);have e8:=NB d8 (MM _ D<|.deferred none) (λr e=>by cases e;exact⟨_,hK',rfl⟩);have e9:=NB d9 (MM _ D<|.deferred none) (λr e=>by cases e;exact⟨_,hK',rfl⟩);have ak:=NB d10 (MM _ D<|.deferred none) (λr e=>by cases e;exact⟨_,hK',rfl⟩);have ao:=NB d11 (MM _ D<|.deferred none) (λr e=>by cases e;exact⟨_,hK',rfl⟩);refine⟨.agg #[.bool false,J 0,J 0,F9 0,E9,J 0,J 0,J 0,F9 0,E9,J 0,J 0],?_,ql HR,b4.trans<|belowK_b (w:=w) (Be _) _ D _ _ (GO M.size hD) hK' rfl rfl⟩;simp[results,f232,go_sem,e0,e1,e2,e3,e4,e5,e6,e7,e8,e9,ak,ao]
 case stop=>
  rintro D c pre W hD av ⟨⟨rfl,R,Z,rfl,h1,h2,c0,c1,c2,c3,c4,c5,c6,c7,c8,c9,T,U⟩,a⟩ hK;have hp:(R++[Z]).map (·.1)<+:A8 d d.n:=av;rw[Aaj]at hp;have HR:Hid<|LM d t=(true,d.L Z.1):=O<|RJ ag<|T1 (λb hb=>by obtain⟨X,hz,rfl⟩:=List.mem_map.1 hb;exact h1 X hz) hp h2;gi_wp2;refine⟨oq,.inl ⟨_,_,rfl,AaJ hK,?_⟩⟩;have e0:=NB c0 (MM _ D<|.deferred none) (λr e=>by cases e;exact⟨_,hK,rfl⟩);have e1:=NB c1 (MM _ D<|.deferred none) (λr e=>by cases e;exact⟨_,hK,rfl⟩);have e2:=NB c2 (MM _ D<|.deferred none) (λr e=>by cases e;exact⟨_,hK,rfl⟩);have e3:=NB c3 (MM _ D<|.deferred none) (λr e=>by cases e;exact⟨_,hK,rfl⟩);have e4:=NB c4 (MM _ D<|.deferred none) (λr e=>by cases e;exact⟨_,hK,rfl⟩);have e5:=NB c5 (MM _ D<|.deferred none) (λr e=>by cases e;exact⟨_,hK,rfl⟩);have e6:=NB c6 (MM _ D<|.deferred none) (λr e=>by cases e;exact⟨_,hK,rfl⟩);have e7:=NB c7 (MM _ D<|.deferred none) (λr e=>by cases e;exact⟨_,hK,rfl⟩);have e8:=NB c8 (MM _ D<|.deferred none) (λr e=>by cases e;exact⟨_,hK,rfl⟩);have e9:=NB c9 (MM _ D<|.deferred none) (λr e=>by cases e;exact⟨_,hK,rfl⟩);have ak:=NB T (MM _ D<|.deferred none) (λr e=>by cases e;exact⟨_,hK,rfl⟩);have ao:=NB U (MM _ D<|.deferred none) (λr e=>by cases e;exact⟨_,hK,rfl⟩);refine⟨qD true<|d.L Z.1,?_,ql HR,a.trans<|belowK_b (w:=w) (Be _) W D _ _ (GO M.size hD) hK rfl rfl⟩;simp[results,f232,go_sem,e0,e1,e2,e3,e4,e5,e6,e7,e8,e9,ak,ao]
end
def PQ{t}(h:(s.T t).shape=-1):RL s t=VS (s.T t).d:=by
 rw[RL,VS,bV,jZ,DD h,DD h]
theorem Xk{t}(h:(s.T t).shape=j):RL s t=⟨nf s.F j,FZ s j<|s.T t,0⟩:=by
 grind [RL,nf,FZ,bV,jZ]
def nP{t}(h:Qo s<|s.T t):((RL s t).len:Int)=if(s.T t).shape=-1 then Ge (s.T t).d else 0:=by
 rcases h.way with⟨h1,h2,h3⟩|⟨j,h1,_⟩
 .rw[DD h1,PQ h1];exact nL h3
 rw[C3 om,Xk h1];have:(⟨nf s.F j,FZ s j<|s.T t,0⟩:Pl).len=0:=by
  refine Pl.WY (λq hq=>om) ?_;grind [RL,nf,FZ,Pl.has,X1]
 rw[this];rfl
def nO{t}(h:Qo s<|s.T t):((RL s t).n:Int)=if(s.T t).shape=-1 then(s.T t).d.live else((s.T t).nv:Int):=by
 rcases h.way with⟨h1,h2,h3⟩|⟨j,h1,_,h2,_⟩
 .rw[DD h1,PQ h1];exact h3.i0.log.CX
 grind [Xk]
def gO{t}(h1:(s.T t).shape=-1)(h3:Inv Ky hN (s.T t).d)n:(RL s t).next n=(LM (s.T t).d n).2:=by
 rw[PQ h1];exact gM h3 n
theorem gH(f:Nat->Pr):∀n,∀u∈pL f n,u.oneCell'=true
 |0,u,h=>by cases h
 |n+1,u,h=>by
  rcases AaG.1 h with h|h
  .exact gH f n u h
  exact EZ _ u h
abbrev uA:List Value:=[J 0,J 0,F9 0,E9,J 0,J 0,J 0,F9 0,E9,J 0,J 0]
def Nl:(prog.info? 156).map (·.size)=some 8:=ou
abbrev Fa:Array Value:=#[N9,N9,N9,N9,J 0,J 0,J 0,.pointer none]
def VJ p A t(i:Nat)v{w}(hV:IX w A.va t.nv t.V)(hi:i<t.nv)(hn:t.nv<=12):
  C9 103 #[CK p A t,J i,Ga v] w λe w'=>(∃g cp,e=.returned (CK p {A with va:=some (G g 0),vc:=cp}<|E7 t i v)/\Cf w' w.heap.size (S9 g t.nv cp) t.nv (AM t.V i v))/\B9 w w':=by
 obtain⟨i0,K,L,M,P⟩:=Ok F3;obtain⟨vb,off,r,Q,R⟩:=hV.resolve_left om;obtain⟨va,vc,la,lc,ia,ic,xa,xc⟩:=A;have r:va=some (G vb off):=r;subst r;show C9 103 #[kY p (some<|G vb off) vc la lc ia ic xa xc t,J (i:Int),Ga v] w _;obtain⟨W,hW,C,S,b0,b1,b2⟩:=kS w (.cells #[.slice (some<|G vb off) t.nv vc,.slice la t.d.n lc,.slice ia t.d.m ic,.slice xa t.d.x xc,J t.d.used,J t.d.live,J t.d.turns,Q9 p] 156) (.cells (qi v) 32)<|.cells Fa 156;have x0:W.cell? (y w 0)=some (.slice (some<|G vb off) t.nv vc):=by simp[World.cell?,b0]
 have T:=O<|IX.news λi hi=>(R i hi).keep λq=>C.cell Q;have D:=O<|qp b0<|qp b1 b2;have HF:Hid (∀g3 a w3,w3.ownsRow w.heap.size 32 5 (S9 g3 (0+t.nv) a) (0+t.nv) ([]++Mf t.V t.nv)->W.grownBy w3 none->g3=w.heap.size+1+1+1->w3.heap[w.heap.size]?=W.heap[w.heap.size]?/\w.heap.size<w3.heap.size/\
   (Cf (w3.setCell (y w 0)<|S9 g3 t.nv a) w.heap.size (S9 g3 t.nv a) t.nv t.V/\B9 w (w3.setCell (y w 0)<|S9 g3 t.nv a)/\
   (w3.setCell (y w 0)<|S9 g3 t.nv a).heap[w.heap.size]?=some (.cells #[S9 g3 t.nv a,.slice la t.d.n lc,.slice ia t.d.m ic,.slice xa t.d.x xc,J t.d.used,J t.d.live,J t.d.turns,Q9 p] 156 (0,0))/\
   (w3.setCell (y w 0)<|S9 g3 t.nv a).heap[w.heap.size+1]?=some (.cells (qi v) 32 (0,0))/\
   (w3.setCell (y w 0) (S9 g3 t.nv a)).heap[w.heap.size+1+1]?=some (.cells Fa 156 (0,0)))):=O (by
  intro g3 a w3 h1 h2 h3;obtain⟨b0,b1,b2⟩:=z D;have hk:∀k,k<W.heap.size->w3.heap[k]?=W.heap[k]?:=λk hk=>h2.block k hk oq;have hz:=h2.size;have hb:=C;rw[X9,Wx]at h1;have U:B9 w w3:=⟨h2.os.trans hb.os,h2.tape.trans hb.tape,h2.output.trans hb.output,GO hb.size h2.size,λk hk=>(h2.block k (A0 hk hb.size) oq).trans (hb.block k hk)⟩;refine⟨hk _ om,om,Ae h1 (λq e=>At _ _ _ _ (by cases e;show g3≠w.heap.size;omega)),U.setCell (Be _) _,(IH _ _ _ _ _ _ ((hk _ om).trans b0)).trans oq,(At _ _ _ _ (by show w.heap.size+1≠w.heap.size;omega)).trans ((hk _ om).trans b1),(At _ _ _ _ (by show w.heap.size+1+1≠w.heap.size;omega)).trans ((hk _ om).trans b2)⟩)
 go_enter func103,ntmps103;go_upto_region 2 with(at_builtin;rw[<-hW];refine ON _ rfl _ _ 65 rfl w.heap.size 32 i0 (V 0 0 0 ⟨#[]⟩ 0) 5 48 underlying65 K L M P rfl oo N9 0 [] rfl (IF _ _ _ _) (G vb off) t.nv vc (Mf t.V t.nv) rfl (IP _ _) T (Ot _ _) om od om om (w.heap.size+1+1+1) S ?_;intro g3 a w3 c o f af;simp only[X9];have s:g3=w.heap.size+1+1+1:=f.resolve_left (by simp[Value.ownBlock]);obtain⟨E,l0,h⟩:=z HF g3 a w3 c o s;have u:=O h;have j:=O s;clear c o f h s;have b0:=E.trans D.1;have x0:w3.cell? (y w 0)=some (.slice (some<|G vb off) t.nv vc):=(by simp[World.cell?,b0]);have xf:w3.frozen? (y w 0)=false:=(by simp[World.frozen?,b0]);clear E b0)
 obtain⟨w4,F⟩:=qa<|w3.setCell (y w 0)<|S9 g3 t.nv a;rw[<-F]at u ⊢;clear F x0 xf;obtain⟨l,H,c0,c1,c2⟩:=z u;have x0:w4.cell? (y w 0)=some (S9 g3 t.nv a):=by simp[World.cell?,c0]
 have y0:w4.cell? (Y9 w 0)=some (J v.kind):=by simp[World.cell?,c1]
 have y1:w4.cell? (Y9 w 1)=some (J v.num):=by simp[World.cell?,c1]
 have y2:w4.cell? (Y9 w 2)=some (F9 v.Ah):=by simp[World.cell?,c1]
 have y3:w4.cell? (Y9 w 3)=some (.string v.str):=by simp[World.cell?,c1]
 have y4:w4.cell? (Y9 w 4)=some (J v.ref):=by simp[World.cell?,c1]
 obtain⟨v0,v1,v2,v3,v4⟩:=Cf.at l hi;have ag:∀q,w4.frozen? (G g3 q)=false:=λq=>by obtain⟨cur,hb,_⟩:=A5 l rfl;simp[World.frozen?,hb]
 go_upto_region 3 with fail
 obtain⟨w5,b⟩:=qa<|((((w4.setCell (G g3<|i*5)<|J v.kind).setCell (G g3<|i*5+1)<|J v.num).setCell (G g3<|i*5+2)<|F9 v.Ah).setCell (G g3<|i*5+3)<|.string v.str).setCell (G g3<|i*5+4)<|J v.ref;rw[<-b];have b:w5=Hp w4 g3 (i*5) v:=b;obtain⟨l,H,c0,c1,c2⟩:=z u;have X:Cf w5 w.heap.size (S9 g3 t.nv a) t.nv<|AM t.V i v:=by rw[b];exact Cf.Hp l hi v
 have I:∀k,k≠g3->w5.heap[k]?=w4.heap[k]?:=λk hk=>by rw[b];exact Ew _ _ _ _ hk
 have Z:B9 w w5:=by
  rw[b];iterate 5 (refine On ?_ (by show w.heap.size<=g3;have:=z j;omega) _)
  exact H
 have c0:=(I _<|oT<|z j).trans c0;have c2:=(I _<|oT<|z j).trans c2;have x0:w5.cell? (y w 0)=some (S9 g3 t.nv a):=by simp[World.cell?,c0]
 obtain⟨w6,ad,B⟩:=BP (v:=kY p (some<|G g3 0) a la lc ia ic xa xc t) (vs:=[S9 g3 t.nv a,.slice la t.d.n lc,.slice ia t.d.m ic,.slice xa t.d.x xc,J t.d.used,J t.d.live,J t.d.turns,Q9 p]) (old:=Fa.toList) EN c2 rfl rfl oh rfl;have ae:g3≠w.heap.size+1+1:=oT<|z j;go_wp2_with (first|(refine Aah rfl 156 _ rfl w.heap.size rfl _ _ _ _ (z<|O c0) underlying156 rfl Nl ?_)|(refine Af rfl rfl _ (z<|O ad) ?_))
 refine FP results103 underlying156 B.BH ⟨⟨g3,a,rfl,?_⟩,?_⟩
 .exact Ae X λq e=>B.other q<|by cases e;exact ae
 exact B.below Z om
section
open Go.RowKit Go.Shelf
section
variable {P:Program} {ops:Array Oper} {md:Region.Mode}
theorem VK{o:Oper}{a}{K g}(j:∀c,o.op≠.defer c)(h:∀a w,K a w->g a w)(hh:o.wp P a w K<|QN Q):o.wpIn (Fence.wide.inRound l) n P a w g Q:=by
 unfold Oper.wp at hh;refine⟨λ_ _=>trivial,?_⟩;show o.uponIn (Fence.wide.inRound l) n P a g Q ((o.semAt (some l) a.eval).run P w);rw[Oper.semAt_some l _ _ j];generalize (execOp a.eval o).run P w=r at*;cases r with
 |ok x w'=>
  cases x<;>simp only[Oper.upon]at hh<;>simp only[Oper.uponIn]
  case value u=>exact h _ _ hh
  case skip=>exact h _ _ hh
  case defer d=>exact h _ _ hh
  case enter f args=>
   refine⟨λhh=>(by cases hh),CallsIn.inRound l<|W0.2<|hh.mono λe b i=>?_⟩;cases e with
   |returned v=>exact h _ _ i
   |panicked c=>exact False.elim i
   |outgrown=>exact absurd i QN.no
  case row row args=>
   refine⟨λhh=>(by cases hh),λc cs k=>?_⟩;obtain⟨v,b,r,s⟩:=hh c cs;exact⟨v,b,h _ _ r,stepsIn_wide.2 s⟩
 |halt x w'=>cases x<;>simp only[Oper.upon]at hh<;>exact False.elim hh
def NW{a}{K b}(e:GK ops=true)(h:∀a w,K a w->b a w)(hh:wpOp P ops (QN Q) i K a w):wpOpIn (Fence.wide.inRound l) n P ops Q i b a w:=by
 unfold wpOp at hh;rw[wpOpIn];split
 .grind [QN]
 rename_i o c
 simp only[c]at hh;split
 .grind [GK,QN,VK,QN.no]
 rename_i d;simp only[d]at hh;exact⟨λ_ _=>trivial,h _ _ hh⟩
theorem I4(b:GK ops=true):∀(fuel:Nat) (listed:Array Bool) (a:Act) (w:Y),wpAny P md ops (QN Q) fuel listed a w->wpAnyIn (Fence.wide.inRound l) n P md ops Q fuel listed a w
 |0,_,_,_,h=>h
 |fuel+1,_,_,_,h=>⟨h.1,λi hi=>NW b (λa' w' h'=>I4 b fuel _ a' w' h')<|h.2 i hi⟩
def Qm{id}{a}S(b:P.follows .mixedOrders=true)(c:GK ops=true)(h:wpAnyH P .any ops (QN Q) S ops.size (Array.replicate ops.size false) a {w with drawn:=w.drawn+1}):(Code.region id ops true).wpIn (Fence.wide.inRound l) n P Q a w:=
 wpIn_region_any b (I4 c _ _ _ _<|wpAny_of_held _ _ _ _ h)
def Qn{id}{a}S(b:P.follows .mixedOrders=true)(h:wpAnyH P .any ops (QN Q) S ops.size (Array.replicate ops.size false) a {w with drawn:=w.drawn+1}):(Code.region id ops true).wpIn Fence.wide n P Q a w:=
 wpIn_wide.2 (DL S b h)
end
end
def G8(f:Nat->Option Addr):Nat->List Value
 |0=>[]
 |k+1=>G8 f k++[.pointer (f k)]
theorem Dj f n:(G8 f n).length=n:=by
 induction n with
 |zero=>rfl
 |succ n ih=>simp[G8,ih]
theorem LN(hi:i<n):(G8 f n)[i]?=some (.pointer<|f i):=by
 induction n with
 |zero=>omega
 |succ n ih=>
  show(G8 f n++[.pointer (f n)])[i]?=_;by_cases h:i<n
  .rw[Aak (by rw[Dj];omega),ih h]
  have:i=n:=om;subst this;rw[Aav (by rw[Dj];omega),Dj];simp
def Oe{xs}(hl:xs.length=n)(h:∀i,i<n->xs[i]?=some (.pointer<|f i)):xs=G8 f n:=by
 apply AaF;grind [LN,Dj]
theorem MQ{g}(h:∀i,i<n->f i=g i):G8 f n=G8 g n:=Oe (Dj f n) λi hi=>by rw[LN hi,h i hi]
theorem nU f n i a(hi:i<n):(G8 f n).set i (.pointer a)=G8 (AW f i a) n:=by
 refine Oe (by rw[List.length_set,Dj]) λq hq=>?_;grind [AW,Dj,LN]
theorem Ve f n a:G8 f n++[.pointer a]=G8 (AW f n a) (n+1):=by
 grind [G8,AW,MQ]
theorem gY f n j(h:j<=n):(G8 f n).take j=G8 f j:=by
 refine Oe (by rw[List.length_take,Dj];omega) λq hq=>?_;grind [LN]
abbrev DB:TypeId:=218
abbrev Vy:TypeId:=246
abbrev Rw(w:Y)(B:Nat)(t:TypeId)(v:V9)(n:Nat)(f:Nat->Option Addr):Prop:=w.ownsRow B t 1 v n<|G8 f n
def Rw.form(h:Rw w B t v n f)(hn:0<n):∃g cp,v=S9 g n cp/\B<=g/\g<w.heap.size/\n<=cp/\(∀i,i<n->w.cell? (G g i)=some (.pointer<|f i))/\∀q,w.frozen? (G g q)=false:=by
 have h':=h;obtain⟨hl,⟨a,c⟩|⟨g,cap,cur,a,hb,b,h1,h2,h3,h4⟩⟩:=h'
 .omega
 subst a;exact⟨g,cap,rfl,hb,(h.lt g rfl).2,h1,λi hi=>by rw[Lo h _ om,LN hi],λq=>World.ownsRow.frozenAt h q⟩
def Rw.slice(h:Rw w B t v n f):∃a cp,v=.slice a n cp:=by
 obtain⟨hl,⟨b,c⟩|⟨g,cap,cur,b,_⟩⟩:=h;all_goals grind
def Rw.set(h:Rw w B t (S9 g n cp) n f){i}(hi:i<n)a:Rw (w.setCell (G g i)<|.pointer a) B t (S9 g n cp) n<|AW f i a:=by
 have h1:=(We h i<|.pointer a).1;grind [nU]
def Rw.cut(h:Rw w B t (S9 g n cp) n f){j}(hj:j<=n):Rw w B t (S9 g j cp) j f:=by
 obtain⟨hl,⟨b,c⟩|⟨g',cap,cur,b,hb,a,h1,h2,h3,h4⟩⟩:=h
 .cases b
 cases b;refine⟨by rw[Dj];omega,.inr ⟨g,cp,cur,rfl,hb,a,om,h2,h3,?_⟩⟩;have:cur.toList.take (j*1)=(cur.toList.take<|n*1).take j:=by rw[List.take_take];congr 1;omega
 grind [gY]
theorem Rw.congr{g}(h:Rw w B t v n f)(e:∀i,i<n->g i=f i):Rw w B t v n g:=by
 grind [G8,MQ]
theorem Dw.own{R}(h:Dw w R n t f)(a:B<=R)(hn:n<=4194304):Rw w B t (S9 R n n) n f:=by
 obtain⟨g,⟨c,hb,hs,hc⟩,b⟩:=h;refine⟨by rw[Dj];omega,.inr ⟨R,n,c,rfl,a,hb,Be _,od,om,?_⟩⟩;refine Oe (by rw[List.length_take,Array.length_toList];omega) λi hi=>?_;grind
def BC{c c'}{t'}{fr a}(h:w.heap[b]?=some (.cells c t fr))(h':w.heap[b]?=some (.cells c' t' a))(d:t≠t'):False:=by
 rw[h]at h';cases h';exact d rfl
def Rw.block(h:Rw w B t v n f)(e:v.ownBlock=some b):∃c,w.heap[b]?=some (.cells c t (0,0)):=by
 obtain⟨hl,⟨d,i⟩|⟨g,cap,cur,d,hb,a,_⟩⟩:=h
 .subst d;cases e
 subst d;have e':g=b:=oS e;subst e';exact⟨cur,a⟩
structure AL (w:Y) (bk:Nat) (r0 r1:V9) (R2:Nat) (E S:Nat->Nat) (d:Dc):Prop where
 lt:bk<w.heap.size
 c0:w.cell? (G bk 0)=some r0
 c1:w.cell? (G bk 1)=some r1
 c2:w.cell? (G bk 2)=some Pe
 c3:w.cell? (G bk 3)=some (S9 R2 d.x d.x)
 c4:w.cell? (G bk 4)=some (J d.used)
 c5:w.cell? (G bk 5)=some (J d.live)
 c6:w.cell? (G bk 6)=some (J d.turns)
 fz:∀q,w.frozen? (G bk q)=false
 log:Rw w (bk+1) DB r0 d.n λi=>some<|G (E i) 0
 ints:Rw w (bk+1) DB r1 d.m λi=>CY E<|d.I i
 rf:∃a k1,r1=S9 a d.m k1
 slots:Rw w (bk+1) Vy (S9 R2 d.x d.x) d.x λj=>DX S j<|d.X j
 ap:∀q,r0.ownBlock=some q->r1.ownBlock≠some q
 CH:∀i,i<d.n->BM w (E i) (d.L i) i
 eb:∀i,i<d.n->bk<E i
 inj:∀i j,i<d.n->j<d.n->E i=E j->i=j
 sl:∀j,j<d.x->DY w E S d j
 sg:∀j,j<d.x->d.X j≠0->bk<S j
def AL.Yz(h:Kj w bk a b R2 E S d)(s:V8 w B bk a b R2 E S d)(c:Small d):AL w bk (S9 a d.n d.n) (S9 b d.m d.m) R2 E S d:=
 ⟨h.lt,s.e0,s.e1,h.c2,h.c3,h.c4,h.c5,h.c6,s.fz,s.o0.own s.g0 c.n,s.o1.own s.g1 c.m,⟨_,_,rfl⟩,s.o2.own s.g2 c.x,λq e e'=>by
  have e1:a=q:=oS e;have e2:b=q:=oS e';exact s.zT (e1.trans e2.symm),h.CH,s.gE,h.inj,h.sl,λj hj f=>Nat.lt_trans s.g2 (s.gS j hj f)⟩
def AL.PS(h:AL w bk r0 r1 R2 E S d):bk<R2/\R2<w.heap.size:=h.slots.lt R2 rfl
def AL.book(h:AL w bk r0 r1 R2 E S d):∃k b,Kj w bk k b R2 E S d:=by
 obtain⟨b,k1,e1⟩:=h.rf;have c:=h.ints.lt b<|qm e1;have hi:∀i,i<d.m->w.cell? (G b i)=some (.pointer<|CY E<|d.I i):=λi hi=>by
  obtain⟨g,cp,e,_,_,_,hc,_⟩:=h.ints.form om;rw[e1]at e;cases e;exact hc i hi
 have f:∀j,j<d.x->w.cell? (G R2 j)=some (.pointer<|DX S j<|d.X j):=λj hj=>by
  obtain⟨g,cp,e,_,_,_,hc,_⟩:=h.slots.form om;cases e;exact hc j hj
 by_cases hn:0<d.n
 .obtain⟨g,cp,e,l,hl,_,hc,_⟩:=h.log.form hn;refine⟨g,b,h.lt,⟨_,_,by rw[h.c0,e],λ_=>rfl⟩,⟨k1,by rw[h.c1,e1]⟩,h.c2,h.c3,h.c4,h.c5,h.c6,hc,h.CH,h.inj,hi,f,h.sl,hl,c.2,h.PS.2⟩
 obtain⟨a,cp,e⟩:=h.log.slice;exact⟨bk,b,h.lt,⟨_,_,by rw[h.c0,e],λh'=>absurd h' hn⟩,⟨k1,by rw[h.c1,e1]⟩,h.c2,h.c3,h.c4,h.c5,h.c6,λi hi=>om,h.CH,h.inj,hi,f,h.sl,h.lt,c.2,h.PS.2⟩
def DY.keep(h:DY w E S d j)(hs:w.heap.size<=w'.heap.size)(e:∀c,w.heap[S j]?=some (.cells c 248 (0,0))->w'.heap[S j]?=w.heap[S j]?):DY w' E S d j:=
 ⟨λhp=>(h.1 hp).keep hs<|e _ (h.1 hp).ob,λhp=>(h.2 hp).keep hs<|e _ (h.2 hp).ob⟩
def AL.below(h:AL w bk r0 r1 R2 E S d)(hb:B9 w w'):AL w' bk r0 r1 R2 E S d:=by
 have e:∀q,w'.cell? (G bk q)=w.cell? (G bk q):=λq=>hb.cell h.lt;exact⟨A0 h.lt hb.size,(e _).trans h.c0,(e _).trans h.c1,(e _).trans h.c2,(e _).trans h.c3,(e _).trans h.c4,(e _).trans h.c5,(e _).trans h.c6,λq=>(hb.frozen h.lt).trans<|h.fz q,Dp h.log hb.size λq _ hq=>hb.block q hq,Dp h.ints hb.size λq _ hq=>hb.block q hq,h.rf,Dp h.slots hb.size λq _ hq=>hb.block q hq,h.ap,λi hi=>(h.CH i hi).keep hb.size<|hb.block _ (h.CH i hi).lt,h.eb,h.inj,λj hj=>(h.sl j hj).keep hb.size λc hc=>hb.block _ (GC.1 hc).1,h.sg⟩
def AL.of_same{E'}{e}(h:AL w bk r0 r1 R2 E S d)(n:e.n=d.n)(m:e.m=d.m)(x:e.x=d.x)(u:e.used=d.used)(l:e.live=d.live)(t:e.turns=d.turns)(I:∀i,i<d.m->e.I i=d.I i)(X:∀j,j<d.x->e.X j=d.X j)
  (L:∀i,i<d.n->e.L i=d.L i) (a:∀i,i<d.n->E' i=E i) (c:∀i,i<d.m->d.I i<=d.n) (f:∀j,j<d.x->d.X j<=d.n):AL w bk r0 r1 R2 E' S e:=by
 have eP:∀p:Int,p<=d.n->CY E' p=CY E p:=λp hp=>by
  unfold CY;by_cases b:0<p
  .rw[DD b,DD b,a _ om]
  rw[C3 b,C3 b]
 refine⟨h.lt,h.c0,h.c1,h.c2,by rw[x];exact h.c3,by rw[u];exact h.c4,by rw[l];exact h.c5,by rw[t];exact h.c6,h.fz,?_,?_,by rw[m];exact h.rf,?_,h.ap,λi hi=>?_,λi hi=>?_,λi j hi hj=>?_,λj hj=>?_,λj hj b=>h.sg j om<|by rw[<-X j om];exact b⟩
 .rw[n];exact h.log.congr λi hi=>by rw[a i hi]
 .rw[m];exact h.ints.congr λi hi=>by rw[I i hi,eP _ (c i hi)]
 .rw[x];exact h.slots.congr λj hj=>by rw[X j hj]
 .rw[n]at hi;rw[a i hi,L i hi];exact h.CH i hi
 .rw[n]at hi;rw[a i hi];exact h.eb i hi
 .rw[n]at hi hj;rw[a i hi,a j hj];exact h.inj i j hi hj
 rw[x]at hj;have hs:=h.sl j hj;unfold DY at hs ⊢;grind
section
variable {w:Y} {bk:Nat} {r0 r1:V9} {R2:Nat} {E S:Nat->Nat} {d:Dc}
theorem AL.DU(h:AL w bk r0 r1 R2 E S d){q}{u:V9}{g s1:V9}{k}{S'}{e}
  (g0:(w.setCell (G bk q) u).cell? (G bk 0)=some g) (g1:(w.setCell (G bk q) u).cell? (G bk 1)=some s1) (g2:(w.setCell (G bk q) u).cell? (G bk 2)=some Pe) (g3:(w.setCell (G bk q) u).cell? (G bk 3)=some (S9 k e.x e.x))
  (g4:(w.setCell (G bk q) u).cell? (G bk 4)=some (J e.used)) (g5:(w.setCell (G bk q) u).cell? (G bk 5)=some (J e.live)) (g6:(w.setCell (G bk q) u).cell? (G bk 6)=some (J e.turns))
  (l:Rw w (bk+1) DB g e.n λi=>some<|G (E i) 0) (i:Rw w (bk+1) DB s1 e.m λi=>CY E<|e.I i) (rf:∃o k1,s1=S9 o e.m k1) (x:Rw w (bk+1) Vy (S9 k e.x e.x) e.x λj=>DX S' j<|e.X j) (ap:∀q,g.ownBlock=some q->s1.ownBlock≠some q)
  (en:∀i,i<e.n->BM w (E i) (e.L i) i) (eb:∀i,i<e.n->bk<E i) (inj:∀i j,i<e.n->j<e.n->E i=E j->i=j) (sl:∀j,j<e.x->DY w E S' e j) (sb:∀j,j<e.x->e.X j≠0->bk<S' j):AL (w.setCell (G bk q) u) bk g s1 k E S' e:=by
 have ob:∀b,b≠bk->(w.setCell (G bk q) u).heap[b]?=w.heap[b]?:=λb hb=>At _ _ _ _ (by exact hb);have nb:∀{v:V9} {n:Nat} {f:Nat->Option Addr} {t:TypeId},Rw w (bk+1) t v n f->v.ownBlock≠some bk:=λhh e=>oT (hh.lt bk e).1;have a:w.heap.size<=(w.setCell (G bk q) u).heap.size:=oq;refine⟨by simpa using h.lt,g0,g1,g2,g3,g4,g5,g6,λp=>by rw[PC];exact h.fz p,AaL l (CI w _ _)<|.inr<|nb l,AaL i (CI w _ _)<|.inr<|nb i,rf,AaL x (CI w _ _)<|.inr<|nb x,ap,λi hi=>(en i hi).keep a<|ob _<|oT<|eb i hi,eb,inj,λj hj=>?_,sb⟩;by_cases r:e.X j=0
 .grind [DX,DY]
 exact(sl j hj).keep a λc _=>ob _<|oT<|sb j hj r
def AL.Kg(h:AL w bk r0 r1 R2 E S d)u:AL (w.setCell (G bk 4)<|J u) bk r0 r1 R2 E S {d with used:=u}:=
 h.DU ((Aa oo).trans h.c0) ((Aa oo).trans h.c1) ((Aa oo).trans h.c2) ((Aa oo).trans h.c3) (ID _ _ _<|by rw[h.c4];rfl) ((Aa oo).trans h.c5) ((Aa oo).trans h.c6) h.log h.ints h.rf h.slots h.ap h.CH h.eb h.inj h.sl h.sg
def AL.GQ(h:AL w bk r0 r1 R2 E S d)u:AL (w.setCell (G bk 5)<|J u) bk r0 r1 R2 E S {d with live:=u}:=
 h.DU ((Aa oo).trans h.c0) ((Aa oo).trans h.c1) ((Aa oo).trans h.c2) ((Aa oo).trans h.c3) ((Aa oo).trans h.c4) (ID _ _ _<|by rw[h.c5];rfl) ((Aa oo).trans h.c6) h.log h.ints h.rf h.slots h.ap h.CH h.eb h.inj h.sl h.sg
def AL.LX(h:AL w bk r0 r1 R2 E S d)u:AL (w.setCell (G bk 6)<|J u) bk r0 r1 R2 E S {d with turns:=u}:=
 h.DU ((Aa oo).trans h.c0) ((Aa oo).trans h.c1) ((Aa oo).trans h.c2) ((Aa oo).trans h.c3) ((Aa oo).trans h.c4) ((Aa oo).trans h.c5) (ID _ _ _<|by rw[h.c6];rfl) h.log h.ints h.rf h.slots h.ap h.CH h.eb h.inj h.sl h.sg
def AL.Oi(h:AL w bk r0 r1 R2 E S d){u}{m}{I}(i:Rw w (bk+1) DB u m λi=>CY E<|I i)(rf:∃a k1,u=S9 a m k1)(ap:∀q,r0.ownBlock=some q->u.ownBlock≠some q):AL (w.setCell (G bk 1) u) bk r0 u R2 E S {d with m:=m,I:=I}:=
 h.DU ((Aa oo).trans h.c0) (ID _ _ _<|by rw[h.c1];rfl) ((Aa oo).trans h.c2) ((Aa oo).trans h.c3) ((Aa oo).trans h.c4) ((Aa oo).trans h.c5) ((Aa oo).trans h.c6) h.log i rf h.slots ap h.CH h.eb h.inj h.sl h.sg
def AL.iR(h:AL w bk r0 r1 R2 E S d){a x}{X}(i:Rw w (bk+1) Vy (S9 a x x) x λj=>DX S j<|X j)(sl:∀j,j<x->DY w E S {d with x:=x,X:=X} j)(sg:∀j,j<x->X j≠0->bk<S j):AL (w.setCell (G bk 3)<|S9 a x x) bk r0 r1 a E S {d with x:=x,X:=X}:=
 h.DU ((Aa oo).trans h.c0) ((Aa oo).trans h.c1) ((Aa oo).trans h.c2) (ID _ _ _<|by rw[h.c3];rfl) ((Aa oo).trans h.c4) ((Aa oo).trans h.c5) ((Aa oo).trans h.c6) h.log h.ints h.rf i h.ap h.CH h.eb h.inj sl sg
theorem AL.row(h:AL w bk r0 r1 R2 E S d){g q}{u:V9}(f:bk<g){e}(a:e.x=d.x)(hu:e.used=d.used)(hl:e.live=d.live)(b:e.turns=d.turns)(c:e.m=d.m)
  (l:Rw (w.setCell (G g q) u) (bk+1) DB r0 e.n λi=>some<|G (E i) 0) (i:Rw (w.setCell (G g q) u) (bk+1) DB r1 e.m λi=>CY E<|e.I i) (x:Rw (w.setCell (G g q) u) (bk+1) Vy (S9 R2 e.x e.x) e.x λj=>DX S j<|e.X j)
  (en:∀i,i<e.n->BM (w.setCell (G g q) u) (E i) (e.L i) i) (eb:∀i,i<e.n->bk<E i) (inj:∀i j,i<e.n->j<e.n->E i=E j->i=j) (sl:∀j,j<e.x->DY (w.setCell (G g q) u) E S e j) (sg:∀j,j<e.x->e.X j≠0->bk<S j):AL (w.setCell (G g q) u) bk r0 r1 R2 E S e:=by
 have hc:∀p,(w.setCell (G g q) u).cell? (G bk p)=w.cell? (G bk p):=λp=>Aq om;exact⟨by simpa using h.lt,(hc _).trans h.c0,(hc _).trans h.c1,(hc _).trans h.c2,by rw[a];exact(hc _).trans h.c3,by rw[hu];exact(hc _).trans h.c4,by rw[hl];exact(hc _).trans h.c5,by rw[b];exact(hc _).trans h.c6,λp=>by rw[PC];exact h.fz p,l,i,by rw[c];exact h.rf,x,h.ap,en,eb,inj,sl,sg⟩
def UF{u:V9}(h:Rw w B t v n f)(a:v.ownBlock≠some g):Rw (w.setCell (G g q) u) B t v n f:=AaL h (CI w _ _)<|.inr a
def AL.Xp{k1}(h:AL w bk r0 (.slice (some<|G a 0) d.m k1) R2 E S d){i}(hi:i<d.m)x:AL (w.setCell (G a i)<|.pointer<|CY E x) bk r0 (.slice (some<|G a 0) d.m k1) R2 E S {d with I:=AW d.I i x}:=by
 rcases h.ints.lt a rfl,h.ints.block rfl,h.slots.block rfl with⟨g,⟨c1,f⟩,⟨c2,k⟩⟩;have l:∀i,i<d.n->E i≠a:=λj hj e=>BC (e▸(h.CH j hj).ob) f oo;have ob:∀b,b≠a->(w.setCell (G a i)<|.pointer<|CY E x).heap[b]?=w.heap[b]?:=λb hb=>At _ _ _ _ (by exact hb);refine h.row g.1 rfl rfl rfl rfl rfl (UF h.log λe=>h.ap a e rfl) ?_ (UF h.slots λe=>?_) (λj hj=>(h.CH j hj).keep oq<|ob _<|l j hj) h.eb h.inj (λj hj=>?_) h.sg
 .refine(h.ints.set hi<|CY E x).congr λj hj=>?_;grind [AW,Ax]
 .have e':R2=a:=oS e;grind [AW]
 refine(h.sl j hj).keep oq λc hc=>ob _ λe=>?_;grind [AW]
def AL.PR(h:AL w bk r0 r1 R2 E S d){j}(hj:j<d.x){x}(B:x≠0){A}(t:(0<x->A=jE (d.L (x-1).toNat).key (E (x-1).toNat))/\(x<0->A=Yi)):
  AL ((w.setCell (G R2 j)<|.pointer<|some<|G w.heap.size 0).alloc<|.cells A 248) bk r0 r1 R2 E (AW S j w.heap.size) {d with X:=AW d.X j x}:=by
 rcases h.PS,h.slots.block rfl,h.lt,qa ((w.setCell (G R2 j)<|.pointer<|some<|G w.heap.size 0).alloc<|.cells A 248) with⟨H,⟨c2,l⟩,m,⟨W,g⟩⟩;rw[<-g];have C:W.heap.size=w.heap.size+1:=by rw[g];simp
 have ob:∀b,b<w.heap.size->b≠R2->W.heap[b]?=w.heap[b]?:=λb hb o=>by rw[g];exact(E1 _ _ _<|by simpa using hb).trans (At _ _ _ _<|by exact o)
 have a:W.heap[w.heap.size]?=some (.cells A 248 (0,0)):=by
  rw[g];simpa using (DO (w.setCell (G R2 j)<|.pointer<|some<|G w.heap.size 0)<|.cells A 248)
 have gr:w.grownBy W<|some R2:=⟨qm g,qm g,qm g,om,λk hk r=>ob k hk λe=>r<|by rw[e]⟩;have hc:∀p,W.cell? (G bk p)=w.cell? (G bk p):=λp=>As<|ob bk m om;have u:∀{v:V9} {n:Nat} {f:Nat->Option Addr},Rw w (bk+1) DB v n f->Rw W (bk+1) DB v n f:=λ{v n f} hh=>J6 hh gr (λb e e'=>by
  cases e;obtain⟨c,hb⟩:=hh.block e';exact BC l hb oo)
 have D:∀i,i<d.n->E i≠R2:=λi hi e=>BC (e▸(h.CH i hi).ob) l oo;refine⟨om,(hc _).trans h.c0,(hc _).trans h.c1,(hc _).trans h.c2,(hc _).trans h.c3,(hc _).trans h.c4,(hc _).trans h.c5,(hc _).trans h.c6,λq=>(GW<|ob bk m om).trans<|h.fz q,u h.log,u h.ints,h.rf,?_,h.ap,λi hi=>(h.CH i hi).keep om<|ob _ (h.CH i hi).lt<|D i hi,h.eb,h.inj,λi hi=>?_,λi hi F=>?_⟩
 .have hs:=(h.slots.set hj<|some<|G w.heap.size 0).alloc<|.cells A 248;rw[<-g]at hs;refine Rw.congr hs λi hi=>?_;show DX (AW S j w.heap.size) i (AW d.X j x i)=AW (λj=>DX S j<|d.X j) j (some<|G w.heap.size 0) i;by_cases e:i=j
  .subst e;rw[Ax,Ax];rw[DX,C3 B,Ax]
  rw[Ao _ _ e,Ao _ _ e];simp only[DX,Ao _ _ e]
 .show(0<AW d.X j x i->IW W (AW S j w.heap.size i) (d.L (AW d.X j x i-1).toNat).key (E (AW d.X j x i-1).toNat))/\(AW d.X j x i<0->Q0 W (AW S j w.heap.size i));by_cases e:i=j
  .subst e;rw[Ax,Ax];refine⟨λhp=>?_,λhp=>?_⟩
   .have hA:=t.1 hp;subst hA;constructor<;>first|omega|exact a|simp[World.cell?,a]
   have hA:=t.2 hp;subst hA;exact⟨om,by simp[World.cell?,a],a⟩
  rw[Ao _ _ e,Ao _ _ e];have hk:=(h.sl i hi).keep om λc hc=>ob _ (GC.1 hc).1 (λe'=>by rw[e']at hc;exact BC hc l oo);exact hk
 by_cases e:i=j
 .subst e;rw[Ax];exact m
 rw[Ao _ _ e];exact h.sg i hi (by have s:AW d.X j x i≠0:=F;rwa [Ao _ _ e]at s)
end
def Ep(d:Dc):Prop:=8<=d.n/\2*d.live<(d.n:Int)
def Nn(b:AL w bk r0 r1 R2 E S d)(g:Small d)(hl:0<=d.live)(i:d.live<=500):
  C9 170 #[Q9 bk] w (R9 (.bool<|tells<|Ep d) w):=by
 obtain⟨a,cp,rfl⟩:=b.log.slice;rcases b.c0,b.c5,b.lt,g.n with⟨c0,c5,j,hn⟩;clear b g;by_cases k:(8:Int)<=d.n
 case neg=>
  have c:=O<|Ag (p:=Ep d) λh=>k<|oT h.1;have e:decide ((8:Int)<=d.n)=false:=ot;go_enter func170,ntmps170;go_wp2
  go_region
  go_wp2;go_ret;exact⟨ql c,(BE _ _).drew⟩
 have e:decide ((8:Int)<=d.n)=true:=ot;by_cases h2:2*d.live<(d.n:Int)
 focus
  have c:=O<|Al (p:=Ep d) ⟨om,h2⟩;have f:decide (2*d.live<(d.n:Int))=true:=ot
 rotate_left
 focus
  have c:=O<|Ag (p:=Ep d) λh=>h2 h.2;have f:decide (2*d.live<(d.n:Int))=false:=ot
 all_goals
  go_enter func170,ntmps170;go_wp2
  go_region
  go_wp2;go_ret;exact⟨ql c,(BE _ _).drew⟩
def QC(n:Nat)w(hn:n<=500):
  C9 196 #[J n] w (R9 (J ((if n=0 then 0 else Cz n:Nat):Int)) w):=by
 by_cases e:n=0
 .subst e;go_enter func196,ntmps196;go_wp2;go_ret;exact⟨rfl,BE _ _⟩
 have j:Hid<|(if n=0 then 0 else Cz n:Nat)=Dk 9 8 (4*n):=O<|C3 e;have f:((n:Int)==0)=false:=ot;go_enter func196,ntmps196;go_wp2;go_loopw [3] (λi wr=>∃(k s:Nat),k<=9/\i=J (s:Int)/\s<=4000/\8<=s/\2000<=s*2^k/\Dk 9 8 (4*n)=Dk k s (4*n)/\B9 w wr) λi _=>4000-(intOf i).toNat
 .exact⟨9,8,om,rfl,om,om,oo,rfl,BE _ _⟩
 obtain⟨k,s,hk,rfl,hs,g,h2,b,hb⟩:=hrel;by_cases a:s<4*n
 .obtain⟨k',rfl⟩:∃k',k=k'+1:=⟨k-1,by
   cases k with
   |zero=>simp at h2;omega
   |succ k=>omega⟩
  have c:=O<|b.trans<|DD a;have h:Hid<|2000<=2*s*2^k':=O (by rw[AaB]at h2;calc 2000<=s*(2^k'*2):=h2
   _=2*s*2^k':=by rw[AaN (2^k') 2,<-So,AaN s 2])
  have d:=O hb;clear b h2 hb;go_wp2;go_roundw
  .exact⟨k',2*s,om,ov,om,om,h,c,d⟩
  exact ow
 have c:Hid<|Dk 9 8 (4*n)=s:=O (b.trans (by cases k with
  |zero=>rfl
  |succ k=>exact C3 a))
 have d:=O hb;clear b h2 hb;go_wp2;go_ret;exact⟨by rw[show Cz n=s from z c];rfl,d⟩
def QF(w:Y)(b q:Nat):Nat:=match w.cell? (G b q)with
 |some (.slice _ n _)=>n
 |_=>0
def N6{a}(h:w.cell? (G b q)=some (.slice a n c)):QF w b q=n:=by unfold QF;rw[h]
def QP q{w}(a:AL w bk r0 r1 R2 E S d)(t:Small d)(hq:q<d.m)(v:∀j,j<d.m->0<=d.I j):
  C9 168 #[Q9 bk,J ((q)+1)] w λe w'=>((∃u,e=.returned u)/\∃l,AL w' bk r0 l R2 E S {d with m:=shrink (AW d.I q 0) d.m,I:=AW d.I q 0})/\Below bk w w':=by
 obtain⟨c,k1,rfl⟩:=a.rf;rcases t.m,a.c1,a.ints.lt c rfl with⟨x,c1,C⟩;obtain⟨g,cp,e,_,_,A,hc,hf⟩:=a.ints.form om;cases e;have d0:=hc q hq;have f0:=hf q;have n:∀j,j<d.m->0<=AW d.I q 0 j:=λj hj=>by
  by_cases e:j=q
  .subst e;rw[Ax];exact Int.le_refl _
  rw[Ao _ _ e];exact v j hj
 have f:=a.Xp hq 0;have uE:CY E 0=none:=C3 oo;rw[uE]at f;have o:Below bk w<|w.setCell (G c q)<|.pointer none:=(BE _ _).setCell (by show bk<=c;omega) _;go_enter func168,ntmps168;go_wp2;go_loopw [11] (λ_ wr=>∃k:Nat,k<=d.m/\AL wr bk r0 (S9 c k k1) R2 E S {d with m:=k,I:=AW d.I q 0}/\Below bk w wr/\shrink (AW d.I q 0) d.m=shrink (AW d.I q 0) k) λ_ wr=>QF wr bk 1
 .exact⟨d.m,Be _,f,o,rfl⟩
 obtain⟨k,hk,a,p,b⟩:=hrel;have c1:=a.c1;have f1:=a.fz 1;cases k with
 |zero=>
  have h:Hid<|shrink (AW d.I q 0) d.m=0:=O b;have i:=O a;have r:=O p;go_wp2
  go_region
  go_wp2;go_end0;exact⟨⟨⟨_,rfl⟩,_,by rw[z h];exact i.below (BE _ _).drew⟩,r.drew⟩
 |succ k=>
  obtain⟨g',cp',e',_,B,s,hc,_⟩:=a.ints.form (by show 0<k+1;omega);cases e';have e0:wr.cell? (G c k)=some (.pointer<|CY E<|AW d.I q 0 k):=hc k (by show k<k+1;omega);by_cases hz:AW d.I q 0 k=0
  .rw[hz,show CY E 0=none from C3 oo]at e0;have h:=O<|b.trans<|JH hz;have i:=AL.Oi (I:=AW d.I q 0) (m:=k) a (Rw.cut a.ints (j:=k)<|by show k<=k+1;omega) ⟨_,_,rfl⟩ a.ap;have r:=O p;go_wp2
   go_region
   go_wp2
   go_region
   go_wp2;go_roundw
   .exact⟨k,om,i.below (BE _ _).drew.drew,(r.setCell (by exact Be _) _).drew.drew,h⟩
   rw[show QF (wr.setCell (G bk 1) (S9 c k k1)).drew.drew bk 1=k from N6 (z i).c1,N6 c1];omega
  have hp:CY E (AW d.I q 0 k)=some (G (E (AW d.I q 0 k-1).toNat) 0):=DD<|oT<|z (O n) k om;rw[hp]at e0;have h:=O<|b.trans<|JG hz;go_wp2
  go_region
  go_wp2;go_end0;exact⟨⟨⟨_,rfl⟩,_,by rw[z h];exact(z<|O a).below (BE _ _).drew⟩,(z<|O p).drew⟩
section
open Go.RowKit Go.Shelf
attribute [local go_sem] Oper.semAt_some
theorem AL.grown{row}(h:AL w bk r0 r1 R2 E S d)(g:w.grownBy w' row)(k:∀r,row=some r->∃o,w.heap[r]?=some o/\o.isCells=false):AL w' bk r0 r1 R2 E S d:=by
 have ne:∀{b:Nat} {c:Array Value} {t:TypeId} {fr:Nat×Nat},w.heap[b]?=some (.cells c t fr)->w'.heap[b]?=w.heap[b]?:=λ{b c t fr} hb=>g.block b (GC.1 hb).1 (λe=>by
  obtain⟨o,l,hc⟩:=k b e.symm;rw[hb]at l;cases l;cases hc)
 have m:∀{t:TypeId} {v:V9} {n:Nat} {f:Nat->Option Addr},Rw w (bk+1) t v n f->Rw w' (bk+1) t v n f:=λ{t v n f} hh=>J6 hh g (λb e e'=>by
  obtain⟨c,hb⟩:=hh.block e';obtain⟨o,l,hc⟩:=k b e;rw[hb]at l;cases l;cases hc)
 exact⟨A0 h.lt g.size,NB h.c0 g k,NB h.c1 g k,NB h.c2 g k,NB h.c3 g k,NB h.c4 g k,NB h.c5 g k,NB h.c6 g k,λq=>(GW (a:=G bk q) (by
  have hc:=h.c0;unfold World.cell? at hc;cases hb:w.heap[bk]? with
  |none=>simp[hb]at hc
  |some o=>
   cases o with
   |cells c t fr=>rw[<-hb];exact ne hb
   |_=>simp[hb]at hc)).trans (h.fz q),m h.log,m h.ints,h.rf,m h.slots,h.ap,λi hi=>(h.CH i hi).keep g.size (ne (h.CH i hi).ob),h.eb,h.inj,λj hj=>(h.sl j hj).keep g.size (λc hc=>ne hc),h.sg⟩
end
end Go.Proofs.YtkpfgniijbgkoaaGreatDoor
