import Derived.Test.YtkpfgniijbgkoaaGreatDoorSSAK
set_option linter.all false
set_option maxHeartbeats 40000000
set_option maxRecDepth 100000
namespace Go.Proofs.YtkpfgniijbgkoaaGreatDoor
open Go.Proofs.Tryz
open Go.RowKit
attribute [local go_sem] AB Aw
variable {K:Kd}{a:Ac}{s t:AE}{b M bl B g tc vc q:Nat}{w w1 w':Y}{vF vT vS:V9}{H:Nat->Hs}{va ta sa:Option Addr}{c c6:Cs}{ty:TypeId}
def EB(K:Kd)(x:Int)(c:Cs)(s:AE):AE×Cs:=
 if x=0 then Ls K c s
 else if x=1 then(if s.ns=0 then(s,c)else({s with S:=AM s.S (Ab K s.ns c).1.toNat {s.S (Ab K s.ns c).1.toNat with shape:=(Ab K 6 (Ab K s.ns c).2).1-2,place:=(Ab K 4 (Ab K 6 (Ab K s.ns c).2).2).1-1}},(Ab K 4 (Ab K 6 (Ab K s.ns c).2).2).2))
 else if s.nt=0 then(s,c)
 else if x=2 then(Bm s (Ab K s.nt c).1.toNat {s.T (Ab K s.nt c).1.toNat with shape:=(Ab K 6 (Ab K s.nt c).2).1-2},(Ab K 6 (Ab K s.nt c).2).2)
 else if x=3 then(Bm s (Ab K s.nt c).1.toNat {s.T (Ab K s.nt c).1.toNat with nv:=(s.T (Ab K s.nt c).1.toNat).nv+1,V:=AM (s.T (Ab K s.nt c).1.toNat).V (s.T (Ab K s.nt c).1.toNat).nv (He K (Ab K s.nt c).2).1},(He K (Ab K s.nt c).2).2)
 else(Bm s (Ab K s.nt c).1.toNat {s.T (Ab K s.nt c).1.toNat with d:=(JJ K (Ab K s.nt c).2 (s.T (Ab K s.nt c).1.toNat).d).1},(JJ K (Ab K s.nt c).2 (s.T (Ab K s.nt c).1.toNat).d).2)
def Oo(K:Kd)(c:Cs)(s:AE):AE×Cs:=EB K (Ab K 5 c).1 (Ab K 5 c).2 s
def uB.pre{P a}{Z}(h:uB K P s b Z w1 bl B vF vT vS H w')(c:Gr b w w1)(d:a=P)(e:Z<=M):uB K a s b M w bl B vF vT vS H w':=by
 obtain⟨s',c',FT,BT,B1,H',h1,h3,h4,h5,f⟩:=h;exact⟨s',c',FT,BT,B1,H',d.trans h1,h3.pre c,h4,h5.mono e,f⟩
def tN(hA:pC s){t}(b:t<s.nt){x}(h1:x.nv<=(s.T t).nv+1)(h2:x.d.n<=(s.T t).d.n+1)(h3:x.d.m<=(s.T t).d.m+1)(h4:x.d.x<=(s.T t).d.x+9)(h5:M9 x.d)(a:∀j,j<x.nv->Wf (x.V j)):qI s<|Bm s t x:=by
 have e:∀i,(Bm s t x).T i=if i=t then x else s.T i:=λi=>rfl
 refine⟨UP _,rfl,rfl,λi hi=>.inl ⟨i,hi,rfl⟩,λi hi=>?_,λi hi=>?_,λi hi=>?_,λi hi=>?_,λi hi=>?_,λi hi=>?_,λ_ _=>rfl⟩;all_goals
  rw[e];split
 .next h=>rw[h];exact h1
 .omega
 .next h=>rw[h];exact h2
 .omega
 .next h=>rw[h];exact h3
 .omega
 .next h=>rw[h];exact h4
 .omega
 .exact h5
 .exact hA.bW i hi
 .exact a
 exact hA.bX i hi
def yJ(hA:pC s){i}{x}(a:x.key=(s.S i).key):qI s {s with S:=AM s.S i x}:=
 ⟨UP _,rfl,rfl,λi hi=>.inl ⟨i,hi,rfl⟩,λ_ _=>UP _,λ_ _=>UP _,λ_ _=>UP _,λ_ _=>Aal _ _,hA.bW,hA.bX,λj hj=>by
  show(AM s.S i x j).key=_;unfold AM;split
  .next h=>rw[h];exact a
  rfl⟩
def SM.fV{w4 w5:Y}{g5 a k}{o}(i:SM w4 bl B vF (S9 g s.nt tc) vS H s)(hk:k<s.nt)(b:(H k).v=.slice va (s.T k).nv vc)(v0)
  (f:w5.ownsRow B 32 5 (S9 g5 ((s.T k).nv+1) a) ((s.T k).nv+1)<|Mf (s.T k).V (s.T k).nv++H8 v0) (c:(w4.alloc o).grownBy w5 (Value.slice va (s.T k).nv vc).ownBlock) (j:(Value.slice va (s.T k).nv vc).ownBlock=some g5\/g5=(w4.alloc o).heap.size):
  (w5.cell? (G bl 1)=some (S9 g s.nt tc)/\w5.cell? (G g<|k*8+1)=some (.slice va (s.T k).nv vc)/\w5.frozen? (G g<|k*8+1)=false/\bl<w5.heap.size/\g<w5.heap.size)/\
  Hid (SM (w5.setCell (G g<|k*8+1)<|S9 g5 ((s.T k).nv+1) a) bl B vF (S9 g s.nt tc) vS (AM H k {H k with v:=S9 g5 ((s.T k).nv+1) a}) (Bm s k {s.T k with nv:=(s.T k).nv+1,V:=AM (s.T k).V (s.T k).nv v0})/\BB (Ba bl vF (S9 g s.nt tc) vS H s.nt) w4 (Ba bl vF (S9 g s.nt tc) vS (AM H k {H k with v:=S9 g5 ((s.T k).nv+1) a}) s.nt) (w5.setCell (G g<|k*8+1)<|S9 g5 ((s.T k).nv+1) a)):=by
 obtain⟨g',cp',m,l,_,n,p⟩:=i.CA hk;cases m;have r:=i.lt;have hz:w4.heap.size<w5.heap.size:=A0 oq c.size;have nb:(Value.slice va (s.T k).nv vc).ownBlock≠some bl:=λe=>(i.apart hk<|.inl<|by rw[b];exact e).1 rfl;have w:(Value.slice va (s.T k).nv vc).ownBlock≠some g:=λe=>(i.apart hk<|.inl<|by rw[b];exact e).2.2.1 rfl;have d:∀q,q<w4.heap.size->(Value.slice va (s.T k).nv vc).ownBlock≠some q->w5.heap[q]?=w4.heap[q]?:=λq hq t=>(c.block q ot λe=>t e.symm).trans<|E1 w4 _ q hq;refine⟨⟨(As<|d bl r nb).trans i.cells.2.1,(As<|d g l w).trans<|by rw[<-b];exact n 1 _ rfl,(GW<|d g l w).trans<|p _,om,om⟩,O ?_⟩;rw[Mg]at f;exact i.cY hk rfl rfl (W:=w5) (u:=S9 g5 ((s.T k).nv+1) a) (v:=v0) (λq h1 h2=>d q h1<|by rw[<-b];exact h2) ⟨c.os,c.tape,c.output,om⟩ f (λq e=>by
  have e':g5=q:=oS e;rcases j with h|h
  .exact .inl (by rw[b,<-e'];exact h)
  exact .inr (by simp at h;omega))
def jH(b Z)(w){bl B}{vF vT vS}{H}{s}(hC:Cq K c b Z w)(hM:SM w bl B vF vT vS H s)(h1:1<=s.nf)(h2:s.nf<=200)(aq:∀i,i<s.nf->0<=(s.F i).count/\(s.F i).count<=12)(c0:s.nt<=100)(c3:s.ns<=50)(ax:∀i,i<s.nt->(s.T i).nv<=12)(hS:∀i,i<s.nt->Small (s.T i).d)(hr:∀i,i<s.nt->wU (s.T i).d)(hA:pC s)(hb:b<B)(hN:Z<=1099510000000):
  C9 35 #[Q9 b,Q9 bl] w λe w'=>(∃v,e=.returned v)/\uB K (Oo K c<|AU s) s b (Z+60) w bl B vF vT vS H w':=by
 rcases hM.base,O hM,O hC,O hA,O (qp aq<|qp ax<|qp hS hr) with⟨c5,HM,HC,R,HH⟩;clear hM hC hA aq ax hS hr;go_enter func35,ntmps35;go_wp2_with fail;refine(AF b Z 5 _ HC om om om).mono ?_;rintro e w1 ⟨x,c1,rfl,c7,c8,bq,br,ay⟩;have av:=HM.gr ay.gr hb;rcases av.cells,av.lt,O av,O br,O ay.gr with⟨⟨q0,q1,q2,qf⟩,az,f,q,r⟩;have E:Hid<|Oo K c (AU s)=EB K x c1 (AU s):=O (by simp only[Oo,bq]);clear av br ay bq HM HC;by_cases x0:x=0
 .subst x0;go_wp2_with fail;refine(eG b (Z+2) _ q f h1 h2 HH.1 R hb om).mono ?_;rintro e w2 ⟨⟨v,rfl⟩,ag⟩;have aM:=O ag;clear ag;go_wp2;exact Aan (v:=.tuple #[]) (by simp[results,results35,go_sem]) rfl ⟨⟨_,rfl⟩,aM.pre r E om⟩
 have b0:(x==0)=false:=by simp[x0]
 by_cases x1:x=1
 .subst x1;obtain⟨sa,sc,b7⟩:=Au f.si;subst b7;by_cases hn:s.ns=0
  .have ln:decide ((0:Int)<(s.ns:Int))=false:=ot;go_wp2;exact Aan (v:=.tuple #[]) (by simp[results,results35,go_sem]) rfl ⟨⟨_,rfl⟩,Gw (s':=s) (E.trans<|by simp only[EB,show(AU s).ns=s.ns from rfl,hn];rfl) r (BB.refl _ _) f f (q.mono om) hb R.same⟩
  have ln:decide ((0:Int)<(s.ns:Int))=true:=ot;go_wp2_with fail
  refine(AF b (Z+2) s.ns _ q om om om).mono ?_;rintro e w2 ⟨i,c2,rfl,a6,a7,A,C,p⟩;obtain⟨k,rfl⟩:∃k:Nat,i=k:=⟨i.toNat,om⟩;have hk:k<s.ns:=om;have a:=f.gr p.gr hb;obtain⟨g,cp,o,a8,aw,h,l⟩:=a.Ex hk;cases o;rcases a.cells.2.2.1,a.lt,O a.drew,O C.drew,O (r.trans p.gr).drew,O A with⟨p0,bb,I,L,U,af⟩;clear a C p A f q r q0 q1 q2 qf az h l;go_wp2
  go_region_law (first
   |(go_simp;go_at_call 15;refine(AF b (Z+4) 6 _ L om om om).mono ?_;rintro e w4 ⟨X,c4,rfl,b8,bc,M,P,D⟩;have b9:IntKind.i64.wrap (X-2)=X-2:=oj;have n:=I.gr D.gr hb;obtain⟨g',cp',o,ar,_,h,l⟩:=n.Ex hk;cases o;have kT:=n.cells.2.2.1;have e1:=h 1 _ rfl;have f1:=l (k*5+1);have bt:=n.lt;have Q:=O n;have ah:=O P;have ai:=O (U.trans D.gr);have aj:=O M;clear n P D M h l))
  all_goals
   go_wp2;obtain⟨W5,bd⟩:=qa<|w4.setCell (G g<|k*5+1)<|J<|X-2;rw[<-bd];have m:=Q.Eh rfl hk (j:=1) om (u:=J<|X-2) (x':={s.S k with shape:=X-2}) rfl;rw[<-bd]at m;have bf:k<({s with S:=AM s.S k {s.S k with shape:=X-2}}:AE).ns:=hk;have bu:Cq K c4 b (Z+6) W5:=ah.below (m.2.DP (B:=B) (λk e=>(Q.IC e).1) om) hb;rcases O m.1.drew,O m.2.drew,O bu.drew,m.1.Ex bf with⟨I,ca,L,⟨g',cp',o,cw,_,h,l⟩⟩;cases o;have e5:=m.1.cells.2.2.1;have c9:=m.1.lt;clear m bu bd h l e1 f1 kT
   go_region_law (first
    |(go_simp;go_at_call 15;refine(AF b (Z+6) 4 _ L om om om).mono ?_;rintro e w6 ⟨z6,c6,rfl,cx,cy,bw,bx,bg⟩;have cz:IntKind.i64.wrap (z6-1)=z6-1:=oj;have ak:=I.gr bg.gr hb;obtain⟨g',cp',o,cD,_,h,l⟩:=ak.Ex bf;cases o;have da:=ak.cells.2.2.1;have e6:=h 2 _ rfl;have f6:=l (k*5+2);have dc:=ak.lt;have bz:=O ak;have cb:=O bx;have cc:=O bg.gr;have cd:=O bw;clear ak bx bg bw h l))
   all_goals
    go_wp2;have m:=bz.Eh (g:=g) (cp:=sc) rfl bf (j:=2) om (u:=J<|z6-1) (x':={s.S k with shape:=X-2,place:=z6-1}) (by rw[show({s with S:=AM s.S k {s.S k with shape:=X-2}}:AE).S k={s.S k with shape:=X-2}from Aj _ _ _];rfl);have cg:=cb.below (m.2.DP (B:=B) (λk e=>(bz.IC e).1) om) hb;have ch:AM (AM s.S k {s.S k with shape:=X-2}) k {s.S k with shape:=X-2,place:=z6-1}=AM s.S k {s.S k with shape:=X-2,place:=z6-1}:=by
     funext j
     unfold AM;split<;>rfl
    have b4:=m.1;simp only[ch]at b4;exact Aan (v:=.tuple #[]) (by simp[results,results35,go_sem]) rfl ⟨⟨_,rfl⟩,{s with S:=AM s.S k {s.S k with shape:=X-2,place:=z6-1}},c6,_,_,_,_,E.trans<|by simp[EB,show(AU s).ns=s.ns from rfl,hn,z af,z aj,z cd];rfl,((TT.of ai ca).gr cc).trans m.2,b4,cg.mono om,yJ R rfl⟩
 have b1:(x==1)=false:=by simp[x1]
 by_cases x2:x=2
 .subst x2;obtain⟨ta,tc,ao⟩:=Au f.t;subst ao;by_cases hn:s.nt=0
  .have ln:decide ((0:Int)<(s.nt:Int))=false:=ot;go_wp2;exact Aan (v:=.tuple #[]) (by simp[results,results35,go_sem]) rfl ⟨⟨_,rfl⟩,Gw (s':=s) (E.trans<|by simp[EB,show(AU s).nt=s.nt from rfl,hn]) r (BB.refl _ _) f f (q.mono om) hb R.same⟩
  have ln:decide ((0:Int)<(s.nt:Int))=true:=ot;go_wp2_with fail
  refine(AF b (Z+2) s.nt _ q om om om).mono ?_;rintro e w2 ⟨i,c2,rfl,a6,a7,A,C,p⟩;obtain⟨k,rfl⟩:∃k:Nat,i=k:=⟨i.toNat,om⟩;have hk:k<s.nt:=om;have a:=f.gr p.gr hb;obtain⟨g,cp,o,a8,aw,h,l⟩:=a.CA hk;cases o;rcases a.cells.2.1,a.lt,O a.drew,O C.drew,O (r.trans p.gr).drew,O A with⟨p0,bb,I,L,U,af⟩;clear a C p A f q r q0 q1 q2 qf az h l;go_wp2
  go_region_law (first
   |(go_simp;go_at_call 15;refine(AF b (Z+4) 6 _ L om om om).mono ?_;rintro e w4 ⟨X,c4,rfl,b8,bc,M,P,D⟩;have b9:IntKind.i64.wrap (X-2)=X-2:=oj;have n:=I.gr D.gr hb;obtain⟨g',cp',o,ar,_,h,l⟩:=n.CA hk;cases o;have kT:=n.cells.2.1;have e1:=h 0 _ rfl;have f1:=l (k*8);rw[Aag]at e1;have bt:=n.lt;have Q:=O n;have ah:=O P;have ai:=O (U.trans D.gr);have aj:=O M;clear n P D M h l))
  all_goals
   go_wp2;have m:=Q.Vp hk rfl (X-2);exact Aan (v:=.tuple #[]) (by simp[results,results35,go_sem]) rfl ⟨⟨_,rfl⟩,Gw (s':=Bm s k {s.T k with shape:=X-2}) (E.trans (by simp only[EB,show(AU s).nt=s.nt from rfl,C3 hn,z af,z aj,NO];exact congrArg (·,c4)<|FF s k {s.T k with shape:=X-2})) ai m.2 Q m.1 (ah.mono om) hb<|tN R hk (UP _) (UP _) (UP _) (Aal _ _) (R.bW k hk)<|R.bX k hk⟩
 have b2:(x==2)=false:=by simp[x2]
 by_cases x3:x=3
 .subst x3;obtain⟨ta,tc,ao⟩:=Au f.t;subst ao;by_cases hn:s.nt=0
  .have ln:decide ((0:Int)<(s.nt:Int))=false:=ot;go_wp2;exact Aan (v:=.tuple #[]) (by simp[results,results35,go_sem]) rfl ⟨⟨_,rfl⟩,Gw (s':=s) (E.trans<|by simp[EB,show(AU s).nt=s.nt from rfl,hn]) r (BB.refl _ _) f f (q.mono om) hb R.same⟩
  have ln:decide ((0:Int)<(s.nt:Int))=true:=ot;go_wp2_with fail
  refine(AF b (Z+2) s.nt _ q om om om).mono ?_;rintro e w2 ⟨i,c2,rfl,a6,a7,A,C,p⟩;obtain⟨k,rfl⟩:∃k:Nat,i=k:=⟨i.toNat,om⟩;have hk:k<s.nt:=om;have a:=f.gr p.gr hb;obtain⟨g,cp,o,a8,aw,h,l⟩:=a.CA hk;cases o;rcases a.cells.2.1,a.lt,O a.drew,O C.drew,O (r.trans p.gr).drew,O A,O (HH.2.1 k hk) with⟨p0,bb,I,L,U,af,cj⟩;rcases z cj,Au<|a.v k hk,h 1 _ rfl,Ok F3 with⟨ax,⟨va,vc,bh⟩,r1,⟨i0,bk,bm,bn,bp⟩⟩;clear a C p A f q r q0 q1 q2 qf az h l;replace r1:w2.cell? (G g<|k*8+1)=some (.slice va (s.T k).nv vc):=by rw[<-bh];exact r1
  have bj:=O bh;clear bh;go_wp2
  go_region_law (first
   |(go_simp;go_at_call 42;refine(T8 b (Z+4) _ L om).mono ?_;rintro e w4 ⟨kind,num,Ah,str,ref,c4,rfl,ck,hf,M,P,D⟩;have n:=I.gr D hb;obtain⟨g',cp',o,ar,_,h,l⟩:=n.CA hk;cases o;have kT:=n.cells.2.1;have e1:w4.cell? (G g<|k*8+1)=some (.slice va (s.T k).nv vc):=(by rw[<-z bj];exact h 1 _ rfl);have f1:=l<|k*8+1;have bt:=n.lt;have b5:Hid<|(w4.alloc<|.cells #[J kind,J num,F9 Ah,.string str,J ref] 32).ownsRow B 32 5 (.slice va (s.T k).nv vc) (s.T k).nv<|Mf (s.T k).V (s.T k).nv:=O (by rw[<-z bj];exact NX (n.v k hk) _);have Q:=O n;have ah:=O P;have ai:=O<|U.trans D;have aj:=O M;clear n P D M h l)
   |(refine Re _ rfl (.tmp 124) (.tmp 127) 65 rfl B 32 i0 (V 0 0 0 ⟨#[]⟩ 0) 5 48 underlying65 bk bm bn bp rfl oo (.slice va (s.T k).nv vc) (s.T k).nv (Mf (s.T k).V (s.T k).nv) og b5 (y w4 0) 1 1 (H8 ⟨kind,num,Ah,str,ref⟩) og rfl (Is (DO _ _)) (by simp[H8,Value.oneCell']) oo od om ot _ rfl ?_;intro g5 dd w5 ad au ae cN;obtain⟨⟨y5,x5,f5,l5,df⟩,cl⟩:=Q.fV hk bj ⟨kind,num,Ah,str,ref⟩ ad au ae;clear ad au ae b5))
  all_goals
   go_wp2;have m:=z cl;exact Aan (v:=.tuple #[]) (by simp[results,results35,go_sem]) rfl ⟨⟨_,rfl⟩,Gw (s':=Bm s k {s.T k with nv:=(s.T k).nv+1,V:=AM (s.T k).V (s.T k).nv ⟨kind,num,Ah,str,ref⟩}) (E.trans (by
    have e:EB K 3 c1 (AU s)=(Bm (AU s) (Ab K s.nt c1).1.toNat {(AU s).T (Ab K s.nt c1).1.toNat with nv:=((AU s).T (Ab K s.nt c1).1.toNat).nv+1,V:=AM ((AU s).T (Ab K s.nt c1).1.toNat).V ((AU s).T (Ab K s.nt c1).1.toNat).nv (He K (Ab K s.nt c1).2).1},(He K (Ab K s.nt c1).2).2):=by
     simp only[EB,show(AU s).nt=s.nt from rfl,C3 hn];rfl
    rw[e];simp only[z af,z aj,NO];refine congrArg (·,c4) ?_;rw[<-FF];refine congrArg (Bm (AU s) k) ?_;show(⟨(s.T k).shape,(s.T k).nv+1,AM (λi=>Bl ((s.T k).V i)) (s.T k).nv (Bl ⟨kind,num,Ah,str,ref⟩),AP (s.T k).d⟩:Tb)=⟨(s.T k).shape,(s.T k).nv+1,λj=>Bl (AM (s.T k).V (s.T k).nv ⟨kind,num,Ah,str,ref⟩ j),AP (s.T k).d⟩;rw[Me Bl (s.T k).V (s.T k).nv ⟨kind,num,Ah,str,ref⟩])) ai m.2 Q m.1 (ah.mono om) hb (tN R hk (Be _) (UP _) (UP _) (Aal _ _) (R.bW k hk) (λj hj=>by
     show Wf (AM (s.T k).V (s.T k).nv ⟨kind,num,Ah,str,ref⟩ j);have hj:j<(s.T k).nv+1:=hj;by_cases e:j=(s.T k).nv
     .rw[e,Aj];exact Qk ⟨ck,hf⟩
     rw[Ak _ _ e];exact R.bX k hk j om))⟩
 have b3:(x==3)=false:=by simp[x3]
 obtain⟨ta,tc,ao⟩:=Au f.t;subst ao;obtain rfl:x=4:=om;by_cases hn:s.nt=0
 .have ln:decide ((0:Int)<(s.nt:Int))=false:=ot;go_wp2;exact Aan (v:=.tuple #[]) (by simp[results,results35,go_sem]) rfl ⟨⟨_,rfl⟩,Gw (s':=s) (E.trans<|by simp[EB,show(AU s).nt=s.nt from rfl,hn]) r (BB.refl _ _) f f (q.mono om) hb R.same⟩
 have ln:decide ((0:Int)<(s.nt:Int))=true:=ot;obtain⟨g,cp,o,a8,aw,h,l⟩:=f.CA (t:=0) om;cases o;rcases O f.drew,O q.drew,O r.drew with⟨I,L,U⟩;clear h l f q r;go_wp2
 go_region_law (first
  |(go_simp;go_at_call 15;refine(AF b (Z+2) s.nt _ L om om om).mono ?_;rintro e w2 ⟨i,c2,rfl,a6,a7,A,C,p⟩;obtain⟨k,rfl⟩:∃k:Nat,i=k:=⟨i.toNat,om⟩;have hk:k<s.nt:=om;have a:=I.gr p.gr hb;have p0:=a.cells.2.1;have bb:=a.lt;have b6:=O a;have cm:=O C;have cn:=O<|U.trans p.gr;have af:=O A;clear a C p A)
  |(go_simp;go_at_call 78;refine(oD b (Z+4) _ cm (b6.rF hk rfl) (HH.2.2.1 k hk) (HH.2.2.2 k hk) (R.bW k hk) hb aw om).mono ?_;rintro e w3 ⟨⟨v,rfl⟩,ag⟩;have aM:=O ag;clear ag))
 all_goals
  go_wp2;obtain⟨d',u0,u1,u2,wm,c',hP,hg,cq,cr,hc,ct,bc,cu,cv⟩:=z aM;have m:=(b6.gr hg hb).uX hk rfl cr cq;exact Aan (v:=.tuple #[]) (by simp[results,results35,go_sem]) rfl ⟨⟨_,rfl⟩,Bm s k {s.T k with d:=d'},c',_,_,_,_,E.trans (by
   have e:EB K 4 c1 (AU s)=(Bm (AU s) (Ab K s.nt c1).1.toNat {(AU s).T (Ab K s.nt c1).1.toNat with d:=(JJ K (Ab K s.nt c1).2 ((AU s).T (Ab K s.nt c1).1.toNat).d).1},(JJ K (Ab K s.nt c1).2 ((AU s).T (Ab K s.nt c1).1.toNat).d).2):=by
    simp only[EB,show(AU s).nt=s.nt from rfl,C3 hn];rfl
   rw[e];simp only[z af,NO];rw[show((AU s).T k).d=AP (s.T k).d from rfl,hP];exact congrArg (·,c') (FF s k {s.T k with d:=d'})),TT.of (cn.trans hg) m.2,m.1,hc.mono om,tN R hk (UP _) bc cu cv ct (R.bX k hk)⟩
noncomputable def E3(L:List Ac):AE:=KH E0 (I7 L) L.length
noncomputable def jQ(K:Kd)(s:AE)(x:Int×Cs):AE×Cs:=if x.1=0 then Oo K x.2 s else(s,x.2)
noncomputable def K9(K:Kd)(c:Cs):AE×Cs:=jQ K (E3 (GD K c).1)<|Ab K 8 (GD K c).2
def XW L i:Bv (I7 L i)=I7 (L.map Bv) i:=by
 unfold I7;grind [Bv,VQ,Df]
def Xr L:AU (E3 L)=E3 (L.map Bv):=by
 unfold E3;rw[T2,AaR];congr 1
 funext i
 exact XW L i
structure cQ (s:AE):Prop where
 TQ:Hc s
 wf:Y2 s
 key:∀i,i<s.ns->(s.S i).key.size<=maxLen
 dm:∀i,i<s.nt->(s.T i).d.m<=3000000
 nt:s.nt<=100
 ns:s.ns<=50
structure zG (s:AE):Prop where
 h1:1<=s.nf
 h2:s.nf<=200
 CX:∀i,i<s.nf->0<=(s.F i).count/\(s.F i).count<=12
 nt:s.nt<=100
 ns:s.ns<=50
 nv:∀i,i<s.nt->(s.T i).nv<=12
 sm:∀i,i<s.nt->Small (s.T i).d
 rg:∀i,i<s.nt->wU (s.T i).d
 a:pC s
def sW{d}(h:Inv Ky hN d):wU d:=by
 have hs:=Hu<|Ft h;obtain⟨l0,l1,t0,t1,_⟩:=hs.d1;obtain⟨a,_,hu,hh⟩:=hs.d4;refine⟨⟨om,?_⟩,⟨l0,om⟩,⟨t0,t1⟩⟩;omega
def tK{t}(h:Wa M s t):t.d.n<=1000/\t.d.x<=4000:=by
 rcases h.way with⟨_,_,e⟩|⟨j,_,_,_,e,_⟩
 .have hs:=Hu<|Ft e;obtain⟨l0,l1,t0,t1,hn⟩:=hs.d1;obtain⟨a,_,hu,hh⟩:=hs.d4;omega
 obtain⟨e1,e2,e3,_⟩:=e;omega
def Xx(h:GA M s)(d:M<=3000000):zG s:=by
 have a:Kl s:=h.mono om;obtain⟨r1,r2,b,_,_⟩:=Av h.f;have hc:∀i,i<s.nf->0<=(s.F i).count/\(s.F i).count<=12:=λi hi=>by
  by_cases c:i=0
  .have:=r2.2.2;rw[c,this];omega
  have:=F0 r2 b hi om;omega
 refine⟨oT r1.1,r1.2,hc,h.nt,h.ns,λi hi=>?_,λi hi=>(GA.TQ a).Km hi,λi hi=>?_,⟨λi hi=>(h.t i hi).wf,λi hi j hj=>?_⟩⟩
 .rcases(h.t i hi).way with⟨_,e,_⟩|⟨j,_,hj,e,_⟩;all_goals grind [nf]
 .rcases(h.t i hi).way with⟨_,_,e⟩|⟨j,_,_,_,e,_⟩
  .exact sW e
  obtain⟨_,_,_,e1,e2,e3⟩:=e;exact⟨om,om,om⟩
 rcases(h.t i hi).way with⟨_,e,_⟩|⟨q,_,_,_,_,e⟩
 .omega
 exact(e j hj).2
def jI(h:GA M s)(b:M<=3000000):cQ s:=by
 have d:Kl s:=h.mono om;have c:=Xx h b;refine⟨GA.TQ d,λi hi=>⟨c.a.bX i hi,c.a.bW i hi⟩,λi hi=>?_,λi hi=>GO (h.t i hi).m b,h.nt,h.ns⟩;have:=(h.si i hi).1;unfold maxLen;omega
def oE{s'}(h:GA M s)(d:M<=2999999)(hb:qI s s'):cQ s':=by
 have b:=jI h om;have c:=Xx h om;have a:=b.TQ;refine⟨⟨⟨?_,λi hi=>?_⟩,?_,λ{i} hi=>?_,λ{i} hi=>?_,?_⟩,λi hi=>?_,λi hi=>?_,λi hi=>?_,?_,?_⟩
 .have:=hb.nf;have:=c.h2;omega
 .rcases hb.key i hi with⟨j,hj,e⟩|e
  .rw[e];exact a.f.2 j hj
  omega
 .rw[hb.nt];exact a.nt
 .rw[hb.nt]at hi;have:=hb.nv i hi;have:=c.nv i hi;omega
 .rw[hb.nt]at hi;rcases hb.dn i hi,hb.dm i hi,hb.dx i hi,tK<|h.t i hi,(h.t i hi).m with⟨h1,h2,h3,h4,h5⟩;exact⟨om,om,om⟩
 .rw[hb.ns];exact a.n
 .rw[hb.nt]at hi;exact⟨hb.bX i hi,hb.bW i hi⟩
 .rw[hb.ns]at hi;rw[hb.sk i hi];exact b.key i hi
 .rw[hb.nt]at hi;have:=hb.dm i hi;have:=(h.t i hi).m;omega
 .rw[hb.nt];exact b.nt
 rw[hb.ns];exact b.ns
def TT.zN{Z O'}{w2}(h:TT b Z w1 O' w2)(a:Gr b w w1)(c:∀k,Z k->B<=k)(d:w.heap.size<=B):Gr b w w2:=
 ⟨h.os.trans a.os,h.tape.trans a.tape,h.output.trans a.output,GO a.size h.size,λk hb hk=>(h.block k (A0 hk a.size) hb λe=>oT<|c k e).trans<|a.block k hb hk⟩
def Tm(w:Y)(q:Nat)(v0 v1 v2:V9):World:=((w.setCell (G q 0) v0).setCell (G q 1) v1).setCell (G q 2) v2
def Xt w q v0 v1 v2{k}(hk:k≠q):(Tm w q v0 v1 v2).heap[k]?=w.heap[k]?:=by
 unfold Tm;iterate 3 rw[At _ _ _ _ (by exact hk)]
def P1 v0 v1 v2(a:B<=q):Below B w<|Tm w q v0 v1 v2:=
 (((BE B w).setCell (p:=G q 0) a v0).setCell (p:=G q 1) a v1).setCell (p:=G q 2) a v2
def pN{c'}{w3}{v0 v1 v2}(a:SM w3 bl B vF vT vS H s)(hc:Cq K c' b M w3)(c:Gr b w w3)(hb:b<w.heap.size)(hq:w.heap.size<=q)(d:q<B):
  Cq K c' b M (Tm w3 q v0 v1 v2)/\Gr b w (Tm w3 q v0 v1 v2)/\SM (Tm w3 q v0 v1 v2) bl w.heap.size vF vT vS H s:=
 ⟨hc.below (P1 _ _ _ hq) hb,c.EI (P1 _ _ _ hq)<|Be _,(a.keep λk hk=>Xt _ _ _ _ _<|oT (a.IC hk).1).mono om⟩
def ZV(b Z)(w)(h:Cq K c b Z w)(hN:Z<=1099509000000):
  C9 13 #[Q9 b] w λe w'=>∃s c' bl vF vT vS H,e=.returned (.agg #[vF,vT,vS])/\K9 K c=(AU s,c')/\cQ s/\Cq K c' b (Z+30000) w'/\Gr b w w'/\SM w' bl w.heap.size vF vT vS H s:=by
 have u:=h.lt;have n0:¬w.heap.size=b:=om;obtain⟨r,m⟩:=qa<|w.alloc<|.cells #[N9,N9,N9] 29;have A:B9 w r:=by rw[m];exact(BE _ _).alloc (Be _) _
 have P:r.heap[w.heap.size]?=some (.cells #[N9,N9,N9] 29 (0,0)):=by rw[m];exact DO _ _
 have ak:r.heap.size=w.heap.size+1:=by rw[m];simp
 rcases O (h.below A u),O<|Gr.Am (b:=b) A,O P with⟨H0,Q,p⟩;clear h P A;go_enter func13,ntmps13;go_wp2_with fail;rw[<-m];clear m;refine(oG b Z _ H0 om).mono ?_;rintro e w1 ⟨L,c1,bl,vF,vT,vS,H,rfl,R,hL,S,T,U,V⟩;rcases O S,O T,O V,O U with⟨W,X,ad,ae⟩;have C:Hid<|GA (4002*(L.length-1))<|E3 L:=O<|Mw R8 rfl (λi _=>TG R i) L.length (Be _);clear R S T V U H0;go_wp2_with fail;refine(AF b (Z+20000) 8 _ X om om om).mono ?_;rintro e w2 ⟨x,c2,rfl,ao,aq,af,ag,D⟩;rcases O (ad.gr D.gr om),O ag,O (ae.trans D.gr) with⟨l,q,j⟩;have ah:Hid<|K9 K c=jQ K (AU<|E3 L) (x,c2):=O (by simp only[K9,z W,af,Xr]);clear ag D af ad X ae W;by_cases x0:x=0
 .subst x0;have n:=Xx C om;go_wp2_with fail;refine(jH b (Z+20002) _ q l n.h1 n.h2 n.CX n.nt n.ns n.nv n.sm n.rg n.a om om).mono ?_;rintro e w3 ⟨⟨v,rfl⟩,s',c',FT,BT,B1,H',hP,hD,hM,hc,hB⟩;have E:=O<|hD.zN (Q.trans j) (B:=r.heap.size) (λk e=>(l.IC e).1) om;have F:Hid<|w3.heap[w.heap.size]?=some (.cells #[N9,N9,N9] 29 (0,0)):=O<|(hD.block _ (oT j.size) n0 λe=>oT (l.IC e).1).trans<|(j.block _ n0 om).trans p;rcases O hM,O hc,O (qp hP hB) with⟨d,I,ai⟩;clear n hP hD hM hc hB l q j p;obtain⟨fa,fc,rfl⟩:=Au d.f;obtain⟨ta,tc,rfl⟩:=Au d.t;obtain⟨sa,sc,rfl⟩:=Au d.si;obtain⟨q0,q1,q2,qf⟩:=d.cells;have l3:=d.lt;have g:w3.heap[w.heap.size]?=some (.cells #[N9,N9,N9] 29 (0,0)):=F;have p0:w3.cell? (y w 0)=some (N9):=by rw[Hi w3 _ 0 _ _ _ g];rfl
  have p1:w3.cell? (y w 1)=some (N9):=by rw[Hi w3 _ 1 _ _ _ g];rfl
  have p2:w3.cell? (y w 2)=some (N9):=by rw[Hi w3 _ 2 _ _ _ g];rfl
  have pf:∀o,w3.frozen? (y w o)=false:=λo=>by simp[World.frozen?,g]
  have lr:=Ai g;have M:=O λv0 v1 v2=>pN (v0:=v0) (v1:=v1) (v2:=v2) d I E u (Be _) (by omega:w.heap.size<r.heap.size);clear g;go_wp2;exact Fs (v:=.agg #[.slice fa s'.nf fc,.slice ta s'.nt tc,.slice sa s'.ns sc]) (by simp[results,results13,go_sem,p0,p1,p2,E3]) rfl ⟨_,_,bl,_,_,_,_,rfl,ah.trans<|(DD rfl).trans ai.1,oE C om ai.2,(M _ _ _).1.mono om,(M _ _ _).2.1,(M _ _ _).2.2⟩
 have b0:(x==0)=false:=by simp[x0]
 obtain⟨w3,aj⟩:=qa w2;subst aj;have E:=O<|Q.trans j;have F:Hid<|w3.heap[w.heap.size]?=some (.cells #[N9,N9,N9] 29 (0,0)):=O<|(j.block _ n0 om).trans p;have d:=O l;have I:=O q;clear l q j p;obtain⟨fa,fc,rfl⟩:=Au d.f;obtain⟨ta,tc,rfl⟩:=Au d.t;obtain⟨sa,sc,rfl⟩:=Au d.si;obtain⟨q0,q1,q2,qf⟩:=d.cells;have l3:=d.lt;have g:w3.heap[w.heap.size]?=some (.cells #[N9,N9,N9] 29 (0,0)):=F;have p0:w3.cell? (y w 0)=some (N9):=by rw[Hi w3 _ 0 _ _ _ g];rfl
 have p1:w3.cell? (y w 1)=some (N9):=by rw[Hi w3 _ 1 _ _ _ g];rfl
 have p2:w3.cell? (y w 2)=some (N9):=by rw[Hi w3 _ 2 _ _ _ g];rfl
 have pf:∀o,w3.frozen? (y w o)=false:=λo=>by simp[World.frozen?,g]
 have lr:=Ai g;have M:=O λv0 v1 v2=>pN (v0:=v0) (v1:=v1) (v2:=v2) d I E u (Be _) (by omega:w.heap.size<r.heap.size);clear g;go_wp2;exact Fs (v:=.agg #[.slice fa (E3 L).nf fc,.slice ta (E3 L).nt tc,.slice sa (E3 L).ns sc]) (by simp[results,results13,go_sem,p0,p1,p2,E3]) rfl ⟨_,_,bl,_,_,_,_,rfl,ah.trans<|C3 x0,jI C om,(M _ _ _).1.mono om,(M _ _ _).2.1,(M _ _ _).2.2⟩
noncomputable def pH(K:Kd)(c:Cs):Ac×Cs:=
 if(Ab K 8 (Ab K ((GD K c).1.length:Nat) (GD K c).2).2).1=0 then Z3 K (Ab K 8 (Ab K ((GD K c).1.length:Nat) (GD K c).2).2).2
 else(I7 (GD K c).1 (Ab K ((GD K c).1.length:Nat) (GD K c).2).1.toNat,(Ab K 8 (Ab K ((GD K c).1.length:Nat) (GD K c).2).2).2)
def uD(K:Kd)(s:AE)(a:Ac)(c:Cs):AE×Ac:=
 if 0<s.ns/\0<s.nt/\(Ab K 5 c).1=0 then
  ({s with S:=AM s.S (Ab K s.ns (Ab K 5 c).2).1.toNat {s.S (Ab K s.ns (Ab K 5 c).2).1.toNat with BO:=1000000000000-(Ab K 2 (Ab K s.ns (Ab K 5 c).2).2).1,misses:=1000000000000-(Ab K 2 (Ab K 2 (Ab K s.ns (Ab K 5 c).2).2).2).1}},
   ⟨8,(Ab K s.nt (Ab K 2 (Ab K 2 (Ab K s.ns (Ab K 5 c).2).2).2).2).1,(Ab K s.ns (Ab K 5 c).2).1,0,Cd,Cd⟩)
 else(s,a)
noncomputable def uW(K:Kd):AE×Ac:=uD K (K9 K ⟨0,0⟩).1 (pH K (K9 K ⟨0,0⟩).2).1 (pH K (K9 K ⟨0,0⟩).2).2
def QZ(K:Kd)(w:Y)(b:Nat):Prop:=K.len<9007199254740992/\(K.len=0\/∃k off,K.a=some (G k off)/\k<b/\∀i,i<K.len->w.cell? (G k<|off+i)=some (.int .u8<|K.C i)/\0<=K.C i/\K.C i<256)
structure NY (K:Kd) (c:Cs) (b N B:Nat) (w:Y) (bl:Nat) (vF vT vS:V9) (H:Nat->Hs) (s:AE) (sb qb:Nat) (a:Ac) (wr:Y):Prop where
 cu:Cq K c b N wr
 m:SM wr bl B vF vT vS H s
 QQ:wr.heap[sb]?=some (.cells #[vF,vT,vS] 29 (0,0))
 sV:wr.heap[qb]?=some (.cells (Bn a) 34 (0,0))
 r0:wr.heap[w.heap.size]?=some (.cells #[N9,N9,N9] 29 (0,0))
 r1:wr.heap[w.heap.size+1]?=some (.cells (Bn VQ) 34 (0,0))
 C7:B9 w wr
 no:¬Ba bl vF vT vS H s.nt sb/\¬Ba bl vF vT vS H s.nt qb
 rg:w.heap.size+1<b/\b<B/\B<=sb/\sb<qb
 wf:VP a
section
variable {K:Kd} {c c':Cs} {b n0 xC B:Nat} {w wr wx:Y} {bl:Nat} {vF vT vS:V9} {H:Nat->Hs} {s:AE} {sb qb:Nat} {a a':Ac}
theorem NY.next(h:NY K c b n0 B w bl vF vT vS H s sb qb a wr)(hc:Cq K c' b xC wx)(d:Gr b wr wx):NY K c' b xC B w bl vF vT vS H s sb qb a wx:=by
 obtain⟨g1,g2,g3,g4⟩:=h.rg;exact⟨hc,h.m.gr d g2,(d.block sb om<|Ai h.QQ).trans h.QQ,(d.block qb om<|Ai h.sV).trans h.sV,(d.block _ om<|Ai h.r0).trans h.r0,(d.block _ om<|Ai h.r1).trans h.r1,h.C7.trans<|d.below om<|oT<|Ai h.r0,h.no,h.rg,h.wf⟩
def NY.act(h:NY K c b n0 B w bl vF vT vS H s sb qb a wr)(h1:wx.heap[qb]?=some (.cells (Bn a') 34 (0,0)))(h2:∀k,k≠qb->wx.heap[k]?=wr.heap[k]?)(h3:wx.heap.size=wr.heap.size/\wx.os=wr.os/\wx.tape=wr.tape/\wx.output=wr.output)(f:VP a'):NY K c b n0 B w bl vF vT vS H s sb qb a' wx:=by
 obtain⟨g1,g2,g3,g4⟩:=h.rg;have d:Below qb wr wx:=⟨h3.2.1,h3.2.2.1,h3.2.2.2,by rw[h3.1];exact Be _,λk hk=>h2 k om⟩;exact⟨h.cu.below d om,h.m.keep λk hk=>h2 k λe=>h.no.2<|e▸hk,(h2 sb om).trans h.QQ,h1,(h2 _ om).trans h.r0,(h2 _ om).trans h.r1,h.C7.trans<|d.mono om,h.no,h.rg,f⟩
def NY.mono(h:NY K c b n0 B w bl vF vT vS H s sb qb a wr)(d:n0<=xC):NY K c b xC B w bl vF vT vS H s sb qb a wr:=⟨h.cu.mono d,h.m,h.QQ,h.sV,h.r0,h.r1,h.C7,h.no,h.rg,h.wf⟩
def NY.site{sc}(h:NY K c b n0 B w bl vF vT (.slice (some<|G g 0) s.ns sc) H s sb qb a wr){k j}(hk:k<s.ns)(hj:j<5){u:V9}{x'}(n:Hr x'=(Hr<|s.S k).set j u):
  NY K c b n0 B w bl vF vT (.slice (some<|G g 0) s.ns sc) H {s with S:=AM s.S k x'} sb qb a (wr.setCell (G g<|k*5+j) u):=by
 obtain⟨g1,g2,g3,g4⟩:=h.rg;have f:=h.m.Eh (g:=g) (cp:=sc) rfl hk hj n;have d:Ba bl vF vT (.slice (some<|G g 0) s.ns sc) H s.nt g:=.inr<|.inr<|.inr<|.inl rfl;have i:=(h.m.IC d).1;have k0:∀q,q≠g->(wr.setCell (G g<|k*5+j) u).heap[q]?=wr.heap[q]?:=λq hq=>At _ _ _ _ (by exact hq);have l:Below B wr<|wr.setCell (G g<|k*5+j) u:=(BE B wr).setCell (p:=G g<|k*5+j) i u;exact⟨h.cu.below l g2,f.1,(k0 sb λe=>h.no.1<|e▸d).trans h.QQ,(k0 qb λe=>h.no.2<|e▸d).trans h.sV,(k0 _ om).trans h.r0,(k0 _ om).trans h.r1,h.C7.trans<|l.mono om,h.no,h.rg,h.wf⟩
def NY.drew(h:NY K c b n0 B w bl vF vT vS H s sb qb a wr):NY K c b n0 B w bl vF vT vS H s sb qb a wr.drew:=h.next h.cu.drew<|Gr.Am<|(BE wr.heap.size wr).drew
def NY.fin(h:NY K c b n0 B w bl vF vT vS H s sb qb a wr)(h2:∀k,k≠w.heap.size->k≠w.heap.size+1->wx.heap[k]?=wr.heap[k]?)(h3:wx.heap.size=wr.heap.size/\wx.os=wr.os/\wx.tape=wr.tape/\wx.output=wr.output):B9 w wx/\SM wx bl w.heap.size vF vT vS H s:=by
 obtain⟨g1,g2,g3,g4⟩:=h.rg;refine⟨h.C7.trans ⟨h3.2.1,h3.2.2.1,h3.2.2.2,by rw[h3.1];exact Be _,λk hk=>h2 k om om⟩,(h.m.keep λk hk=>?_).mono om⟩;have:=(h.m.IC hk).1;exact h2 k om om
end
def VA(K:Kd)(s:AE)(c:Cs):Bool×Cs:=if 0<s.ns/\0<s.nt then(decide ((Ab K 5 c).1=0),(Ab K 5 c).2)else(false,c)
def rH(h:VA K s c=(false,c6)):uD K s a c=(s,a):=by
 unfold uD;rw[C3];rintro⟨h1,h2,h3⟩;unfold VA at h;rw[DD ⟨h1,h2⟩,h3]at h;simp at h
def bC(h:VA K s c=(true,c6)):0<s.ns/\0<s.nt/\Ab K 5 c=(0,c6):=by
 unfold VA at h;split at h
 .next hh=>
  have h1:=congrArg Prod.fst h;have h2:=congrArg Prod.snd h;simp at h1 h2;exact⟨hh.1,hh.2,Prod.ext h1 h2⟩
 cases h
def jJ(h:cQ s){k}{x}(a:x.key=(s.S k).key):cQ {s with S:=AM s.S k x}:=
 ⟨⟨h.TQ.f,h.TQ.nt,h.TQ.nv,h.TQ.Km,h.TQ.n⟩,h.wf,λi hi=>by
  show(AM s.S k x i).key.size<=maxLen;unfold AM;split
  .next e=>rw[a,<-e];exact h.key i hi
  exact h.key i hi,h.dm,h.nt,h.ns⟩
def Ji(W:Y):W.drew.heap=W.heap/\W.drew.os=W.os/\W.drew.tape=W.tape/\W.drew.output=W.output:=⟨rfl,rfl,rfl,rfl⟩
def dO{S}{A}{c1 c5}(h1:K9 K ⟨0,0⟩=(S,c1))(h2:pH K c1=(A,c5)):uW K=uD K S A c5:=by
 unfold uW;rw[h1];show uD K S (pH K c1).1 (pH K c1).2=_;rw[h2]
def Ue(w)(hc:QZ K w w.heap.size):
  C9 4 #[.slice K.a K.len K.cap] w λe w'=>∃s a bl vF vT vS H,e=.returned (.tuple #[.agg #[vF,vT,vS],I5 a])/\uW K=(AU s,Bv a)/\cQ s/\VP a/\Below w.heap.size w w'/\SM w' bl w.heap.size vF vT vS H s:=by
 obtain⟨A,E⟩:=qa<|((w.alloc<|.cells yM 29).alloc<|.cells (Bn VQ) 34).alloc<|.cells #[.slice K.a K.len K.cap,J 0,.int .u64 0] 50;have bq:Below w.heap.size w A:=by rw[E];exact((n9).alloc oq _).alloc ot _
 have bc:A.heap.size=w.heap.size+3:=by rw[E];simp
 have ai:A.heap[w.heap.size+2]?=some (.cells #[.slice K.a K.len K.cap,J 0,.int .u64 0] 50 (0,0)):=by
  rw[E];have:=DO ((w.alloc<|.cells yM 29).alloc<|.cells (Bn VQ) 34)<|.cells #[.slice K.a K.len K.cap,J 0,.int .u64 0] 50;simpa using this
 have ck:A.heap[w.heap.size+1]?=some (.cells (Bn VQ) 34 (0,0)):=by
  rw[E,E1 _ _ _ oq];have:=DO (w.alloc<|.cells yM 29)<|.cells (Bn VQ) 34;simpa using this
 have cl:A.heap[w.heap.size]?=some (.cells yM 29 (0,0)):=by
  rw[E,E1 _ _ _ ot,E1 _ _ _ oq];exact DO _ _
 have cm:Cq K ⟨0,0⟩ (w.heap.size+2) 0 A:=by
  refine⟨by rw[Hi A _ 0 _ _ _ ai];rfl,by rw[Hi A _ 1 _ _ _ ai];rfl,by rw[Hi A _ 2 _ _ _ ai];rfl,λo=>by simp[World.frozen?,ai],?_,oo,oo⟩;obtain⟨h1,h2⟩:=hc;refine⟨h1,h2.imp id λ⟨k,off,e,hk,cn⟩=>⟨k,off,e,om,λi hi=>⟨?_,(cn i hi).2⟩⟩⟩;exact o7 bq hk (cn i hi).1
 obtain⟨b,hb⟩:=qd<|w.heap.size+1+1;have HC:Hid<|Cq K ⟨0,0⟩ b 0 A:=O<|hb▸cm;have fg:b<A.heap.size:=om;have cq:=O bq;have HR:=O<|qp cl ck;clear cm bq cl ck ai hc;go_enter func4,ntmps4;go_wp2_with fail;rw[show(((w.alloc (.cells #[N9,N9,N9] 29)).alloc (.cells #[J 0,J 0,J 0,J 0,J 0,J 0,F9 0,E9,J 0,J 0,J 0,F9 0,E9,J 0] 34)).alloc (.cells #[.slice K.a K.len K.cap,J 0,.int .u64 0] 50))=A from E.symm];clear E;refine(ZV b 0 _ HC om).mono ?_;rintro e w1 ⟨s,c1,bl,vF,vT,vS,H,rfl,cr,ct,br,ad,V⟩;obtain⟨fa,fc,rfl⟩:=Au V.f;obtain⟨ta,tc,rfl⟩:=Au V.t;obtain⟨sa,sc,rfl⟩:=Au V.si;obtain⟨W1,aj⟩:=qa<|w1.alloc<|.cells #[.slice fa s.nf fc,.slice ta s.nt tc,.slice sa s.ns sc] 29;have bd:Below w1.heap.size w1 W1:=by rw[aj];exact(BE _ _).alloc (Be _) _
 have cv:W1.heap[w1.heap.size]?=some (.cells #[.slice fa s.nf fc,.slice ta s.nt tc,.slice sa s.ns sc] 29 (0,0)):=by rw[aj];exact DO _ _
 rcases ad.size,O<|V.below bd,O<|br.below bd br.lt,O<|ad.trans<|Gr.Am bd,O cv,O (qp cr ct) with⟨z1,cw,cx,cy,bf,F⟩;have ej:Hid<|¬Ba bl (.slice fa s.nf fc) (.slice ta s.nt tc) (.slice sa s.ns sc) H s.nt w1.heap.size:=O λe=>oT (V.IC e).2;have ek:Hid<|W1.heap.size=w1.heap.size+1:=O (by rw[aj];simp);clear V br ad cv cr ct bd HC;go_wp2_with fail;rw[<-aj];clear aj;refine(cW b 30000 _ cx om).mono ?_;rintro e w2 ⟨L,v,c2,rfl,⟨eo,fh⟩,cz,hA⟩;obtain⟨ab,fj,rfl,hab,cg,hcs⟩:=U9 hA.own eo;rcases O hA,O hcs,O cz,O hA.wf,hA.gr.size,O (cy.trans hA.gr) with⟨bg,cD,cN,ep,fk,c0⟩;clear hcs cz hA;go_wp2_with fail;refine(AF b (30000+20000) (L.length:Int) _ bg.cu om om om).mono ?_;rintro e w3 ⟨X,c3,rfl,bc,bt,c9,bu,W⟩;obtain⟨k,rfl⟩:∃k:Nat,X=k:=⟨X.toNat,om⟩;have hk:k<L.length:=om;have fl:W1.heap.size=w1.heap.size+1:=by have:=Ai bf;have:=z ek;omega
 have c:∀j u,(Bn<|I7 L k).toList[j]?=some u->w3.cell? (G ab<|k*14+j)=some u:=λj u hu=>(W.gr.cell ab _ om cg).trans<|cD k hk j u hu;obtain⟨b0,b1,b2,b3,b4,b5,b6,b7,b8,b9,eu,ev,ew,ey⟩:=qg c;rw[Aag]at b0;have z3:=W.size;have da:VP<|I7 L k:=by
  unfold I7;rw[show L.getD k VQ=L[k] by simp[List.getD,hk]];exact ep _<|List.getElem_mem hk
 have T:=c0.trans W.gr;have bw:=(cw.gr bg.gr om).gr W.gr om;have dc:=(W.gr.block _ om om).trans<|(bg.gr.block _ om<|Ai bf).trans bf;have dd:¬Ba bl (.slice fa s.nf fc) (.slice ta s.nt tc) (.slice sa s.ns sc) H s.nt w1.heap.size:=ej;have HI:Hid<|∀wx,wx=w3.alloc (.cells (Bn<|I7 L k) 34)->NY K c3 b 50002 A.heap.size w bl (.slice fa s.nf fc) (.slice ta s.nt tc) (.slice sa s.ns sc) H s w1.heap.size w3.heap.size (I7 L k) wx:=O (λwx hx=>by
  have ah:Below w3.heap.size w3 wx:=by rw[hx];exact(BE _ _).alloc (Be _) _
  refine⟨bu.below ah bu.lt,bw.below ah,(ah.block _ om).trans dc,by rw[hx];exact DO _ _,(ah.block _ om).trans ((T.block _ om om).trans HR.1),(ah.block _ om).trans ((T.block _ om om).trans HR.2),cq.trans ((T.below om om).trans (ah.mono om)),⟨dd,λe=>oT (bw.IC e).2⟩,⟨om,om,om,om⟩,da⟩)
 have df:=O c9;clear z3 c da T bw dc dd c9 bu W bg cD cw cx cy bf c0 HR cq;go_wp2_with fail;generalize dh:w3.alloc (.cells (qj<|I7 L k) 34)=W3;have bx:=O<|HI W3 dh.symm;clear dh HI b0 b1 b2 b3 b4 b5 b6 b7 b8 b9 eu ev ew ey;generalize w3.heap.size=qb at*;refine(AF b 50002 8 _ bx.cu om om om).mono ?_;rintro e w4 ⟨x,c4,rfl,fm,fo,di,dj,dk⟩;have bh:=O<|bx.next dj dk.gr;have dm:=O di;have bz:Hid<|pH K c1=if x=0 then Z3 K c4 else(Bv<|I7 L k,c4):=O (by
  simp only[pH,z cN,AaR,z df,z dm,NO];rw[XW])
 clear dj dk di bx dm df cN
 go_upto_if 25 with fail
 go_cut [25] λ_ wx=>∃(a1:Ac) (c5:Cs),pH K c1=(Bv a1,c5)/\NY K c5 b 60000 A.heap.size w bl (.slice fa s.nf fc) (.slice ta s.nt tc) (.slice sa s.ns sc) H s w1.heap.size qb a1 wx
 case first=>
  by_cases x0:x=0
  .subst x0;go_wp2_with fail;refine(pR b (50002+2) _ bh.cu om).mono ?_;rintro e w5 ⟨a,c5,rfl,ez,dn,dp,dq⟩;have l:=O<|bh.next dp dq;have eA:=O dn;obtain⟨W5,ak,hS⟩:=L4 l.sV a;have r:=O<|(l.act hS.BH (λk hk=>hS.other k hk) ⟨hS.size,hS.os,hS.tape,hS.output⟩ ez).mono (xC:=60000) om;have ca:=O ak;clear ak hS dp dq dn;go_wp2_with (refine Af rfl rfl _ ca ?_);go_meet
   case rel=>exact⟨a,c5,bz.trans<|(DD trivial).trans eA,r⟩
  have b0:(x==0)=false:=by simp[x0]
  go_wp2_with fail
  go_meet
  case rel=>exact⟨_,c4,bz.trans<|C3 x0,bh.mono om⟩
 obtain⟨a1,c5,dr,hI⟩:=hcut;have ae:=O dr;have l:=O hI;clear dr hI bz bh;have l1:=Ai l.QQ;have k2:wc.cell? (G w1.heap.size 2)=some (.slice sa s.ns sc):=by rw[Hi wc _ 2 _ _ _ (z l).QQ];rfl
 have k1:wc.cell? (G w1.heap.size 1)=some (.slice ta s.nt tc):=by rw[Hi wc _ 1 _ _ _ (z l).QQ];rfl
 rcases F.2.ns,F.2.nt,qa wc with⟨eI,eP,⟨wy,eS⟩⟩;subst eS;go_upto_region 7 with fail
 go_cut [42] λq wx=>∃(bb:Bool) (c6:Cs),q=.bool bb/\VA K (AU s) c5=(bb,c6)/\NY K c6 b (60000+2) A.heap.size w bl (.slice fa s.nf fc) (.slice ta s.nt tc) (.slice sa s.ns sc) H s w1.heap.size qb a1 wx
 case first=>
  by_cases Mh:s.ns=0
  .have ln:decide ((0:Int)<(s.ns:Int))=false:=ot;go_wp2_with fail
   go_meet
   case rel=>exact⟨false,c5,oq,C3 (λh=>by have:=h.1;rw[show(AU s).ns=s.ns from rfl]at this;omega),l.mono om⟩
  by_cases fq:s.nt=0
  .have lt:decide ((0:Int)<(s.nt:Int))=false:=ot;go_wp2_with fail
   go_meet
   case rel=>exact⟨false,c5,oq,C3 (λh=>by have:=h.2;rw[show(AU s).nt=s.nt from rfl]at this;omega),l.mono om⟩
  go_wp2_with fail
  refine(AF b 60000 5 _ l.cu om om om).mono ?_;rintro e w6 ⟨Z,c6,rfl,fr,ft,ao,dt,du⟩;have r:=O<|l.next dt du.gr;have bj:=O ao;clear dt du ao;go_wp2_with fail;go_meet
  case rel=>exact⟨decide (Z=0),c6,by first|rfl|(simp;rfl),(DD ⟨by rw[show(AU s).ns=s.ns from rfl];omega,by rw[show(AU s).nt=s.nt from rfl];omega⟩).trans<|ql bj,r⟩
 obtain⟨bb,c6,rfl,dv,dw⟩:=hcut;have bk:=O dv;have r:=O dw;clear dv dw l l1 k1 k2
 go_upto_if 42 with fail
 go_cut [42] λ_ wx=>∃(s':AE) (a':Ac) (c':Cs),s'.ns=s.ns/\uW K=(AU s',Bv a')/\cQ s'/\NY K c' b 70000 A.heap.size w bl (.slice fa s.nf fc) (.slice ta s.nt tc) (.slice sa s.ns sc) H s' w1.heap.size qb a' wx
 case first=>
  cases bb
  .go_wp2_with fail
   go_meet
   case rel=>exact⟨s,a1,c6,rfl,(dO F.1 ae).trans<|rH bk,F.2,r.mono om⟩
  obtain⟨dx,dy,ao⟩:=bC bk;replace dx:0<s.ns:=dx;replace dy:0<s.nt:=dy;have bj:=O ao;have l1:=Ai r.QQ;have k2:wc.cell? (G w1.heap.size 2)=some (.slice sa s.ns sc):=by rw[Hi wc _ 2 _ _ _ (z r).QQ];rfl
  clear ao bk;go_wp2_with fail;refine(AF b (60000+2) (s.ns:Int) _ r.cu om om om).mono ?_;rintro e w7 ⟨kk,c7,rfl,fu,fw,dz,dC,dU⟩;obtain⟨k,rfl⟩:∃k:Nat,kk=k:=⟨kk.toNat,om⟩;have hk:k<s.ns:=om;have bm:=r.next dC dU.gr;obtain⟨g,cp,aq,fx,fy,I,M⟩:=bm.m.Ex hk;cases aq;have k7:w7.cell? (G w1.heap.size 2)=some (S9 g s.ns sc):=by rw[Hi w7 _ 2 _ _ _ bm.QQ];rfl
  have cb:=O bm.drew;have ea:=O dz;clear bm dC dU dz k2 l1 I M r;go_upto_region 9 with fail
  go_cut [55] λ_ wx=>∃(X:Int) (c8:Cs),Ab K 2 c7=(X,c8)/\(0<=X/\X<2)/\NY K c8 b (60000+2+2+2) A.heap.size w bl (.slice fa s.nf fc) (.slice ta s.nt tc) (S9 g s.ns sc) H {s with S:=AM s.S k {s.S k with BO:=1000000000000-X}} w1.heap.size qb a1 wx
  case first=>
   go_region_law (first
    |(go_simp;go_at_call 15;refine(AF b (60000+2+2) 2 _ cb.cu om om om).mono ?_;rintro e w8 ⟨X,c8,rfl,bc,bt,ar,eb,ec⟩;have fz:IntKind.i64.wrap (1000000000000-X)=1000000000000-X:=oj;have au:=cb.next eb ec.gr;obtain⟨g',cp',aq,fE,_,I,M⟩:=au.m.Ex hk;cases aq;have k8:w8.cell? (G w1.heap.size 2)=some (S9 g s.ns sc):=(by rw[Hi w8 _ 2 _ _ _ au.QQ];rfl);have e8:=I 3 _ rfl;have f8:=M (k*5+3);have l8:=Ai au.QQ;have eT:=O au;have bn:=O ar;clear au eb ec ar I M))
   all_goals
    go_wp2_with fail
    go_meet
    case rel=>exact⟨X,c8,bn,⟨bc,bt⟩,eT.site hk (j:=3) om (u:=J<|1000000000000-X) (x':={s.S k with BO:=1000000000000-X}) rfl⟩
  obtain⟨X,c8,ar,⟨bc,bt⟩,cc⟩:=hcut;obtain⟨w9,eX⟩:=qa wc;subst eX;have bn:=O ar;have k9:w9.cell? (G w1.heap.size 2)=some (S9 g s.ns sc):=by rw[Hi w9 _ 2 _ _ _ cc.QQ];rfl
  have cd:=O cc.drew;clear cc ar cb k7;go_upto_region 10 with fail
  go_cut [63] λ_ wx=>∃(z2:Int) (av:Cs),Ab K 2 c8=(z2,av)/\(0<=z2/\z2<2)/\NY K av b (60000+2+2+2+2) A.heap.size w bl (.slice fa s.nf fc) (.slice ta s.nt tc) (S9 g s.ns sc) H {s with S:=AM s.S k {s.S k with BO:=1000000000000-X,misses:=1000000000000-z2}} w1.heap.size qb a1 wx
  case first=>
   go_region_law (first
    |(go_simp;go_at_call 15;refine(AF b (60000+2+2+2) 2 _ cd.cu om om om).mono ?_;rintro e ef ⟨z2,av,rfl,aw,ax,C,ay,az⟩;have e7:IntKind.i64.wrap (1000000000000-z2)=1000000000000-z2:=oj;have D:=cd.next ay az.gr;obtain⟨g',cp',aq,e9,_,I,M⟩:=D.m.Ex (show k<({s with S:=AM s.S k {s.S k with BO:=1000000000000-X}}:AE).ns from hk);cases aq;have fW:ef.cell? (G w1.heap.size 2)=some (S9 g s.ns sc):=(by rw[Hi ef _ 2 _ _ _ D.QQ];rfl);have ga:=I 4 _ rfl;have f10:=M (k*5+4);have l10:=Ai D.QQ;have ch:=O D;have U:=O C;clear D ay az C I M))
   all_goals
    go_wp2_with fail
    have B:=NY.site (s:={s with S:=AM s.S k {s.S k with BO:=1000000000000-X}}) ch (k:=k) hk (j:=4) om (u:=J<|1000000000000-z2) (x':={s.S k with BO:=1000000000000-X,misses:=1000000000000-z2}) (by rw[show({s with S:=AM s.S k {s.S k with BO:=1000000000000-X}}:AE).S k={s.S k with BO:=1000000000000-X}from Aj _ _ _];rfl);have e0:AM (AM s.S k {s.S k with BO:=1000000000000-X}) k {s.S k with BO:=1000000000000-X,misses:=1000000000000-z2}=AM s.S k {s.S k with BO:=1000000000000-X,misses:=1000000000000-z2}:=by
     funext j
     unfold AM;split<;>rfl
    simp only[e0]at B;go_meet
    case rel=>exact⟨z2,av,U,⟨aw,ax⟩,B⟩
  obtain⟨z2,av,C,⟨aw,ax⟩,B⟩:=hcut;have U:=O C;have af:=O B;have e3:wc.cell? (G w1.heap.size 1)=some (.slice ta s.nt tc):=by rw[Hi wc _ 1 _ _ _ B.QQ];rfl
  clear B C cd k9;go_wp2_with fail;refine(AF b (60000+2+2+2+2) (s.nt:Int) _ af.cu om om om).mono ?_;rintro e gb ⟨tq,e4,rfl,fb,fe,aM,a6,a7⟩;have ag:=af.next a6 a7.gr;obtain⟨gd,ak,P⟩:=L4 ag.sV ⟨8,tq,(k:Int),0,Cd,Cd⟩;have cj:=O<|ag.act P.BH (λk hk=>P.other k hk) ⟨P.size,P.os,P.tape,P.output⟩ ⟨Cc,Cc⟩;have ca:=O ak;have bp:Hid<|uW K=(AU {s with S:=AM s.S k {s.S k with BO:=1000000000000-X,misses:=1000000000000-z2}},Bv ⟨8,tq,(k:Int),0,Cd,Cd⟩):=O ((dO F.1 ae).trans (by
   have e1:Bv ⟨8,tq,(k:Int),0,Cd,Cd⟩=⟨8,tq,(k:Int),0,Cd,Cd⟩:=by unfold Bv;simp only[Df]
   rw[e1];unfold uD;rw[show(AU s).ns=s.ns from rfl,show(AU s).nt=s.nt from rfl,z bj,DD ⟨om,om,rfl⟩];simp only[z ea,z bn,z U,aM,NO];rfl))
  have e5:Hid<|cQ {s with S:=AM s.S k {s.S k with BO:=1000000000000-X,misses:=1000000000000-z2}}:=O<|jJ F.2 rfl;clear ag ak P a6 a7 aM af ea bn U bj e3;go_wp2_with (refine Af rfl rfl _ ca ?_);go_meet
  case rel=>exact⟨{s with S:=AM s.S k {s.S k with BO:=1000000000000-X,misses:=1000000000000-z2}},⟨8,tq,(k:Int),0,Cd,Cd⟩,e4,rfl,bp,e5,cj.mono om⟩
 obtain⟨s',a',c',ff,eh,ei,a8⟩:=hcut;have bp:=O<|qp eh ei;have l:=O a8;clear eh ei a8 r bk ae F eI eP;have d:=z l;have l1:=Ai d.QQ;have k0:wc.cell? (G w1.heap.size 0)=some (.slice fa s.nf fc):=by rw[Hi wc _ 0 _ _ _ d.QQ];rfl
 have k1:wc.cell? (G w1.heap.size 1)=some (.slice ta s.nt tc):=by rw[Hi wc _ 1 _ _ _ d.QQ];rfl
 have k2:wc.cell? (G w1.heap.size 2)=some (.slice sa s.ns sc):=by rw[Hi wc _ 2 _ _ _ d.QQ];rfl
 have Q:∀j u,(Bn a').toList[j]?=some u->wc.cell? (G qb j)=some u:=λj u hu=>by rw[Hi wc _ j _ _ _ d.sV];simpa using hu
 obtain⟨n0,n1,n2,n3,n4,n5,n6,n7,n8,n9,gf,gg,gh,gi⟩:=qg Q;have p0:wc.cell? (G w.heap.size 0)=some (N9):=by rw[Hi wc _ 0 _ _ _ d.r0];rfl
 have p1:wc.cell? (G w.heap.size 1)=some (N9):=by rw[Hi wc _ 1 _ _ _ d.r0];rfl
 have p2:wc.cell? (G w.heap.size 2)=some (N9):=by rw[Hi wc _ 2 _ _ _ d.r0];rfl
 have pf:∀o,wc.frozen? (G w.heap.size o)=false:=λo=>by simp[World.frozen?,d.r0]
 have R:∀j u,(Bn VQ).toList[j]?=some u->wc.cell? (G (w.heap.size+1) j)=some u:=λj u hu=>by rw[Hi wc _ j _ _ _ d.r1];simpa using hu
 obtain⟨m0,m1,m2,m3,m4,m5,m6,m7,m8,m9,m10,m11,m12,m13⟩:=qg R;have mf:∀o,wc.frozen? (G (w.heap.size+1) o)=false:=λo=>by simp[World.frozen?,d.r1]
 obtain⟨g1,g2,g3,g4⟩:=d.rg;have gj:¬w.heap.size+1=w1.heap.size:=om;have e6:¬w.heap.size=w.heap.size+1:=om;clear d Q R;go_wp2
 go_region
 go_wp2;refine Fs (v:=.tuple #[.agg #[.slice fa s.nf fc,.slice ta s.nt tc,.slice sa s.ns sc],I5 a']) (by simp[results,results4,go_sem,p0,p1,p2,m0,m1,m2,m3,m4,m5,m6,m7,m8,m9,m10,m11,m12,m13,e6]) rfl ⟨s',a',bl,_,_,_,H,rfl,bp.1,bp.2,l.wf,l.fin (λk h1 h2=>?_) ⟨?_,?_,?_,?_⟩⟩
 .have g:∀(w:Y) b j v,k≠b->(w.setCell (G b j) v).heap[k]?=w.heap[k]?:=λw b j v h=>At _ _ _ _ (by exact h);rw[(Ji _).1];iterate 14 rw[g _ _ _ _ h2]
  iterate 3 rw[g _ _ _ _ h1]
 .rw[(Ji _).1];iterate 17 rw[(Ha _ _ _).2.2.2]
 .rw[(Ji _).2.1];iterate 17 rw[(Ha _ _ _).1]
 .rw[(Ji _).2.2.1];iterate 17 rw[(Ha _ _ _).2.1]
 rw[(Ji _).2.2.2];iterate 17 rw[(Ha _ _ _).2.2.1]
def uS{f f'}(h:cn f=cn f'):f=f'\/(C1 f=true/\C1 f'=true):=by
 have e:=(Lr f).symm.trans<|(congrArg C1 h).trans<|Lr f';by_cases h1:C1 f=true
 .exact .inr ⟨h1,by rw[<-e];exact h1⟩
 have h2:¬C1 f'=true:=by rw[<-e];exact h1
 left;rw[show cn f=f from C3 h1,show cn f'=f' from C3 h2]at h;exact h
def JP(kind num)(Ah a)(s)(ref)(h:cn Ah=cn a)(w:Y):
  C9 33 #[V kind num Ah s ref,V kind num a s ref] w (R9 (.bool true) w):=by
 rcases uS h with rfl|⟨h1,h2⟩
 .exact bL _ _ _ _ _ _
 have g1:(O9 Ah Ah !=some .eq)=true:=h1;have g2:(O9 a a !=some .eq)=true:=h2;clear h1 h2 h;go_enter func33,ntmps33;go_wp2;go_ret;exact⟨rfl,(n9).alloc oq _⟩
def bJ p p'(h:Gy p=Gy p')(w:Y):C9 115 #[PV p,PV p'] w<|R9 (.bool true) w:=by
 obtain⟨⟨k1,k,f1,s1,r1⟩,⟨k2,l,f2,s2,r2⟩,t⟩:=p;obtain⟨⟨m,n,g,q,r⟩,⟨s,u,i,v,x⟩,t'⟩:=p';simp only[Gy,Bl,Pr.mk.injEq,Vl.mk.injEq]at h;obtain⟨⟨rfl,rfl,c,rfl,rfl⟩,⟨rfl,rfl,j,rfl,rfl⟩,rfl⟩:=h;have d:B9 w<|(w.alloc<|.cells #[J k1,J k,F9 f1,.string s1,J r1,J k2,J l,F9 f2,.string s2,J r2,J t] 168).alloc<|.cells #[J k1,J k,F9 g,.string s1,J r1,J k2,J l,F9 i,.string s2,J r2,J t] 168:=(n9).alloc oq _;go_enter func115,ntmps115;go_wp2_with fail;refine m9 (JP _ _ _ _ _ _ (z<|O c) _) λw1 a=>?_;obtain⟨e,c⟩:=BF a;have rc:∀o,w1.cell? (y w o)=_:=λo=>e _ _ ot;have rd:∀o,w1.cell? (Y9 w o)=_:=λo=>e _ _ oq;have f:=o9 d a;have hz:w.heap.size+1<w1.heap.size:=A0 oq a.size;go_wp2_with fail;refine m9 (JP _ _ _ _ _ _ (z<|O j) _) λw2 b=>?_;have sc:∀o,w2.cell? (y w o)=_:=λo=>o7 b (by show w.heap.size<w1.heap.size;omega)<|rc o;have A:∀o,w2.cell? (Y9 w o)=_:=λo=>o7 b hz<|rd o;go_wp2;go_ret;exact⟨rfl,z<|o9 f b⟩
def XL(a a')(n cap e)(f f')(hf:∀i,i<n->Gy (f i)=Gy (f' i))(w)(hA:VN w a n f)(s:VN w a' n f')(hn:n<=4194304):
  C9 74 #[.slice a n cap,.slice a' n e] w (R9 (.bool true) w):=by
 go_enter func74,ntmps74;go_wp2;go_loopw [13] (λi wr=>∃(k:Nat),k<=n/\i=J k/\B9 w wr) λi _=>n-(intOf i).toNat
 .exact⟨0,om,rfl,BE _ _⟩
 obtain⟨k,hk,rfl,hb⟩:=hrel;by_cases d:k<n
 .obtain⟨b,off,rfl,g,hcs⟩:=hA.resolve_left om;obtain⟨b',r,rfl,c,j⟩:=s.resolve_left om;obtain⟨e0,e1,e2,e3,v,x,A,B,C,D,t⟩:=(hcs k d).keep λq=>hb.cell (p:=G b q) g;obtain⟨d0,d1,d2,d3,d4,d5,d6,d7,d8,d9,d10⟩:=(j k d).keep λq=>hb.cell (p:=G b' q) c;have E:b<wr.heap.size:=A0 g hb.size;have u:b'<wr.heap.size:=A0 c hb.size;go_wp2_with fail;refine qr wr ?_;(iterate 8 refine N (h:=?_));refine GS λK hK=>?_;go_simp;refine⟨_,λw' l=>qk l<|bJ (f k) (f' k) (z (O hf) k d) _,hK _ ?_⟩;clear hK K;refine N (h:=?_);refine Hz ?_;intro w2 m;have o:=o9 hb m;go_wp2;go_roundw
  .exact⟨k+1,om,ov,o⟩
  exact ow
 have:k=n:=om;subst this;go_wp2;go_ret;exact⟨rfl,z<|O hb⟩
def Qh(a a')(n cap d)(f)(w)(hA:TK w a n f)(q:TK w a' n f)(hn:n<=4194304):
  C9 75 #[.slice a n cap,.slice a' n d] w (R9 (.bool true) w):=by
 go_enter func75,ntmps75;go_wp2;go_loopw [13] (λi wr=>∃(k:Nat),k<=n/\i=J k/\B9 w wr) λi _=>n-(intOf i).toNat
 .exact⟨0,om,rfl,BE _ _⟩
 obtain⟨k,hk,rfl,hb⟩:=hrel;by_cases e:k<n
 .obtain⟨b,off,rfl,g,hcs⟩:=hA.resolve_left om;obtain⟨b',j,rfl,c,l⟩:=q.resolve_left om;have e0:=o7 hb g<|hcs k e;have d0:=o7 hb c<|l k e;have s:b<wr.heap.size:=A0 g hb.size;have r:b'<wr.heap.size:=A0 c hb.size;go_wp2_with fail;refine qr wr ?_;(iterate 9 refine N (h:=?_));refine Hz ?_;intro w2 m;have o:=o9 hb m;go_wp2;go_roundw
  .exact⟨k+1,om,ov,o⟩
  exact ow
 have:k=n:=om;subst this;go_wp2;go_ret;exact⟨rfl,z<|O hb⟩
def bH(la a ia b xa c)(lc g ic h xc j)(d d')(C:AP d=AP d')(w)(hA:FJ w la ia xa d)(K:FJ w a b c d')(M:Small d):
  C9 32 #[Dv la lc ia ic xa xc d,Dv a g b h c j d'] w (R9 (.bool true) w):=by
 obtain⟨n,L,m,I,x,X,us,r,s⟩:=d;obtain⟨n',L',Z,I',x',X',P,Q,R⟩:=d';simp only[AP,Dc.mk.injEq]at C;obtain⟨rfl,S,rfl,rfl,rfl,rfl,rfl,rfl,rfl⟩:=C;have T:Hid<|∀i,Gy (L i)=Gy (L' i):=O λi=>congrFun S i;obtain⟨W,t⟩:=qa<|(w.alloc<|.cells #[.slice la n lc,.slice ia m ic,.slice xa x xc,J us,J r,J s] 69).alloc<|.cells #[.slice a n g,.slice b m h,.slice c x j,J us,J r,J s] 69;have k:B9 w W:=by rw[t];exact(n9).alloc oq _
 have u:w.heap.size+1<W.heap.size:=by rw[t];simp
 obtain⟨hn,U,V⟩:=M;simp only at hn U V;have D:=hA.below k;have E:=K.below k;have c0:∀o,W.cell? (y w o)=((w.alloc<|.cells #[.slice la n lc,.slice ia m ic,.slice xa x xc,J us,J r,J s] 69).alloc<|.cells #[.slice a n g,.slice b m h,.slice c x j,J us,J r,J s] 69).cell? (y w o):=λo=>by rw[t]
 have c1:∀o,W.cell? (Y9 w o)=((w.alloc<|.cells #[.slice la n lc,.slice ia m ic,.slice xa x xc,J us,J r,J s] 69).alloc<|.cells #[.slice a n g,.slice b m h,.slice c x j,J us,J r,J s] 69).cell? (Y9 w o):=λo=>by rw[t]
 go_enter func32,ntmps32;go_wp2_with fail;rw[<-t];refine m9 (XL la a n lc g L L' (λi _=>T i) _ D.log E.log om) λw1 e=>?_;rcases D.below e,E.below e,o9 k e with⟨v,A,F⟩;have k0:∀o,w1.cell? (y w o)=_:=λo=>o7 e (by show w.heap.size<W.heap.size;omega)<|c0 o;have k1:∀o,w1.cell? (Y9 w o)=_:=λo=>o7 e u<|c1 o;have l:w.heap.size+1<w1.heap.size:=A0 u e.size;go_wp2_with fail;refine m9 (Qh ia b m ic h I _ v.ints A.ints om) λw2 f=>?_;have H:=o9 F f;have l0:∀o,w2.cell? (y w o)=_:=λo=>o7 f (by show w.heap.size<w1.heap.size;omega)<|k0 o;have l1:∀o,w2.cell? (Y9 w o)=_:=λo=>o7 f l<|k1 o;have B:w.heap.size+1<w2.heap.size:=A0 l f.size;go_wp2_with fail;refine m9 (Qh xa c x xc j X _ (z<|v.below f).index (z<|A.below f).index om) λw3 q=>?_;have m0:∀o,w3.cell? (y w o)=_:=λo=>o7 q (by show w.heap.size<w2.heap.size;omega)<|l0 o;have m1:∀o,w3.cell? (Y9 w o)=_:=λo=>o7 q B<|l1 o;go_wp2;go_ret;exact⟨rfl,z<|o9 H q⟩
def Z1 p k n(w:Y):(binOp .neq 108 (Sh p k n)<|Sh p k n).run prog w=.ok (.bool false) w:=by
 rw[PJ];simp
def XK(a a')(n cap d)(f)(w)(hA:TX w a n f)(m:TX w a' n f)(hn:n<=1048576):
  C9 31 #[.agg #[.slice a n cap],.agg #[.slice a' n d]] w (R9 (.bool true) w):=by
 go_enter func31,ntmps31;go_wp2;go_loopw [16] (λi wr=>∃(k:Nat),k<=n/\i=J k/\B9 w wr/\wr.cell? (y w 0)=some (.slice a n cap)/\wr.cell? (Y9 w 0)=some (.slice a' n d)) λi _=>n-(intOf i).toNat
 .exact⟨0,om,rfl,(n9).alloc oq _,oe,oe⟩
 obtain⟨k,hk,rfl,hb,x0,x1⟩:=hrel;by_cases g:k<n
 .obtain⟨b,off,rfl,e,hcs⟩:=hA.resolve_left om;obtain⟨b',j,rfl,c,h⟩:=m.resolve_left om;obtain⟨c0,c1,c2⟩:=hcs k g;obtain⟨d0,d1,d2⟩:=h k g;rcases (hb.cell e).trans c0,(hb.cell e).trans c1,(hb.cell e).trans c2,(hb.cell c).trans d0,(hb.cell c).trans d1,(hb.cell c).trans d2,Z1 (f k).parent (f k).key (f k).count with⟨c0,c1,c2,d0,d1,d2,l⟩;go_wp2;go_quiet (fail);go_wp2;go_roundw
  .exact⟨k+1,om,ov,AQ hb _,x0,x1⟩
  exact ow
 go_wp2;go_ret;exact⟨rfl,hb⟩
def kF x x'(h:Jt x=Jt x')(w:Y):C9 12 #[H9 x,H9 x'] w<|R9 (.bool true) w:=by
 obtain⟨k,nm,⟨k1,l,f1,s1,r1⟩,⟨k2,m,f2,s2,r2⟩⟩:=x;obtain⟨n,p,⟨q,r,f,s,t⟩,⟨u,v,g,A,B⟩⟩:=x';simp only[Jt,Bl,An.mk.injEq,Vl.mk.injEq]at h;obtain⟨rfl,rfl,⟨rfl,rfl,a,rfl,rfl⟩,⟨rfl,rfl,i,rfl,rfl⟩⟩:=h;have b:B9 w<|(w.alloc<|.cells #[J k,J nm,J k1,J l,F9 f1,.string s1,J r1,J k2,J m,F9 f2,.string s2,J r2] 40).alloc<|.cells #[J k,J nm,J k1,J l,F9 f,.string s1,J r1,J k2,J m,F9 g,.string s2,J r2] 40:=(n9).alloc oq _;go_enter func12,ntmps12;go_wp2_with fail;refine m9 (JP _ _ _ _ _ _ (z<|O a) _) λw1 c=>?_;obtain⟨d,a⟩:=BF c;have rc:∀o,w1.cell? (y w o)=_:=λo=>d _ _ ot;have rd:∀o,w1.cell? (Y9 w o)=_:=λo=>d _ _ oq;have e:=o9 b c;go_wp2_with fail;refine m9 (JP _ _ _ _ _ _ (z<|O i) _) λw2 j=>?_;go_wp2;go_ret;exact⟨rfl,z<|o9 e j⟩
def mY x(w:Y):(binOp .neq 57 (SV x)<|SV x).run prog w=.ok (.bool false) w:=by
 go_simp
def Xd{t t'}(h:Dy t=Dy t'):t'.shape=t.shape/\t'.nv=t.nv/\(∀i,Bl (t.V i)=Bl (t'.V i))/\AP t.d=AP t'.d:=by
 obtain⟨a,b,V,d⟩:=t;obtain⟨a',b',c,d'⟩:=t';simp only[Dy,Tb.mk.injEq]at h;obtain⟨h1,h2,h3,h4⟩:=h;exact⟨h1.symm,h2.symm,λi=>congrFun h3 i,h4⟩
def tV v v'(h:Bl v=Bl v')(w:Y):C9 33 #[Ga v,Ga v'] w<|R9 (.bool true) w:=by
 obtain⟨k1,g,f1,s1,r1⟩:=v;obtain⟨b,c,d,e,f⟩:=v';simp only[Bl,Vl.mk.injEq]at h;obtain⟨rfl,rfl,a,rfl,rfl⟩:=h;exact JP _ _ _ _ _ _ a _
def Qi{fa E v A:Option Addr}(fc Q tc H sc I){s s'}(h:AU s=AU s')(w)(hA:kO w fa ta sa s)(hB:kO w E v A s')(hS:Hc s):
  C9 11 #[NF fa fc ta tc sa sc s,NF E Q v H A I s'] w (R9 (.bool true) w):=by
 obtain⟨nf,F,nt,T,ns,S⟩:=s;obtain⟨bp,F',bq,T',br,S'⟩:=s';simp only[AU,AE.mk.injEq]at h;obtain⟨rfl,rfl,rfl,hT,rfl,rfl⟩:=h;have ax:∀i,Dy (T i)=Dy (T' i):=λi=>congrFun hT i;obtain⟨W,R⟩:=qa<|(w.alloc<|.cells #[.slice fa nf fc,.slice ta nt tc,.slice sa ns sc] 29).alloc<|.cells #[.slice E nf Q,.slice v nt H,.slice A ns I] 29;have L:B9 w W:=by rw[R];exact(n9).alloc oq _
 have hz:W.heap.size=w.heap.size+2:=by rw[R];simp
 obtain⟨a1,a2,b1,b2⟩:W.cell? (y w 1)=some (.slice ta nt tc)/\W.cell? (y w 2)=some (.slice sa ns sc)/\W.cell? (Y9 w 1)=some (.slice v nt H)/\W.cell? (Y9 w 2)=some (.slice A ns I):=by rw[R];simp[go_sem]
 have HX:Hid<|∀wr,B9 W wr->(wr.cell? (y w 1)=some (.slice ta nt tc)/\wr.cell? (y w 2)=some (.slice sa ns sc))/\(wr.cell? (Y9 w 1)=some (.slice v nt H)/\wr.cell? (Y9 w 2)=some (.slice A ns I))/\w.heap.size+1<wr.heap.size:=O (λwr hb=>
  have k:∀q o,q<w.heap.size+2->wr.cell? (G q o)=W.cell? (G q o):=λq o hq=>hb.cell (p:=G q o)<|by show q<W.heap.size;omega
  ⟨⟨(k _ _ om).trans a1,(k _ _ om).trans a2⟩,⟨(k _ _ om).trans b1,(k _ _ om).trans b2⟩,oT hb.size⟩)
 rcases hA.below L,hB.below L,hS.f.1,hS.nt,hS.n with⟨HA,HB,ag,ay,az⟩;simp only at ag ay az;go_enter func11,ntmps11;go_wp2_with fail;rw[<-R];refine m9 (XK fa E nf fc Q F _ HA.f HB.f ag) λw1 ah=>?_;obtain⟨⟨x1,x2⟩,⟨y1,y2⟩,lx⟩:=z HX w1 ah;go_wp2_with fail;go_loopw [37] (λi wr=>∃(k:Nat),k<=nt/\i=J k/\B9 W wr) λi _=>nt-(intOf i).toNat
 .exact⟨0,om,rfl,ah⟩
 obtain⟨k,hk,rfl,hb⟩:=hrel;obtain⟨g,aM⟩:=qa wr;subst aM;obtain⟨⟨x1,x2⟩,⟨y1,y2⟩,lx⟩:=z HX g hb;by_cases M:k<nt
 .obtain⟨b,off,rfl,l,hcs⟩:=HA.t.resolve_left (by show¬nt=0;omega);obtain⟨b',ad,rfl,a,B⟩:=HB.t.resolve_left (by show¬nt=0;omega);obtain⟨va,vc,la,lc,ia,ic,xa,xc,a6,hv,hd⟩:=(hcs k M).below hb l;obtain⟨U,Z,ai,aj,ak,ao,aq,ar,ae,hv',au⟩:=(B k M).below hb a;obtain⟨e0,e1,e2,e3,e4,e5,e6,e7⟩:=a6;obtain⟨d0,d1,d2,d3,d4,d5,d6,d7⟩:=ae;obtain⟨a7,a8,bb,bc⟩:=Xd<|z (O ax) k;simp only at e0 e1 e2 e3 e4 e5 e6 e7 d0 d1 d2 d3 d4 d5 d6 d7 hv hv' hd au;have bk:b'<g.heap.size:=A0 a hb.size;have bm:(T k).nv<=1048576:=hS.nv M;obtain⟨u0,bt⟩:=qa<|(T' k).shape;have av:=O hb;rw[a7]at d0;rw[a8]at d1;obtain⟨X,hX⟩:=qa<|(g.alloc<|.cells #[J (T k).shape,.slice va (T k).nv vc,.slice la (T k).d.n lc,.slice ia (T k).d.m ic,.slice xa (T k).d.x xc,J (T k).d.used,J (T k).d.live,J (T k).d.turns] 71).alloc<|.cells #[J (T k).shape,.slice U (T k).nv Z,.slice ai (T' k).d.n aj,.slice ak (T' k).d.m ao,.slice aq (T' k).d.x ar,J (T' k).d.used,J (T' k).d.live,J (T' k).d.turns] 71;have C:B9 g X:=by rw[hX];exact(n9).alloc oq _
  have bu:X.heap.size=g.heap.size+2:=by rw[hX];simp
  obtain⟨p1,r1⟩:X.cell? (y g 1)=some (.slice va (T k).nv vc)/\X.cell? (Y9 g 1)=some (.slice U (T k).nv Z):=by rw[hX];simp[go_sem]
  go_wp2_with fail
  rw[<-hX];refine m9 (bH la ai ia ak xa aq lc aj ic ao xc ar (T k).d (T' k).d (z<|O bc) _ ((z<|O hd).below C) (au.below C)<|hS.Km M) λw2 aw=>?_;have HY:Hid<|∀D,B9 X D->D.cell? (y g 1)=some (.slice va (T k).nv vc)/\D.cell? (Y9 g 1)=some (.slice U (T k).nv Z)/\g.heap.size+1<D.heap.size/\B9 W D:=O λD hq=>⟨o7 hq (by show g.heap.size<X.heap.size;omega) p1,o7 hq (by show g.heap.size+1<X.heap.size;omega) r1,oT hq.size,o9 av<|C.trans<|hq.mono om⟩;obtain⟨p2,r2,l2,_⟩:=z HY w2 aw;go_wp2_with fail;go_loopw [75] (λj D=>∃(m:Nat),m<=(T k).nv/\j=J m/\B9 X D) λj _=>(T k).nv-(intOf j).toNat
  .exact⟨0,om,rfl,aw⟩
  obtain⟨m,hm,rfl,hq⟩:=hrel;obtain⟨p3,r3,l3,bd⟩:=z HY wr hq;by_cases P:m<(T k).nv
  .obtain⟨vb,vo,rfl,r,bf⟩:=(z<|O hv).resolve_left om;obtain⟨bw,bx,rfl,e,af⟩:=hv'.resolve_left om;have c:B9 g wr:=o9 C hq;obtain⟨f0,f1,f2,f3,f4⟩:=bf m P;rcases af m om,(c.cell r).trans f0,(c.cell r).trans f1,(c.cell r).trans f2,(c.cell r).trans f3,(c.cell r).trans f4 with⟨⟨g0,g1,g2,g3,g4⟩,f0,f1,f2,f3,f4⟩;rcases (c.cell e).trans g0,(c.cell e).trans g1,(c.cell e).trans g2,(c.cell e).trans g3,(c.cell e).trans g4,A0 r c.size,A0 e c.size with⟨g0,g1,g2,g3,g4,hx,bg⟩;have l4:g.heap.size<wr.heap.size:=om;have HQ:=O hq;go_wp2_with fail;refine qr wr ?_;(iterate 10 refine N (h:=?_));refine GS λK hK=>?_;go_simp;refine⟨_,λw' bh=>qk bh<|tV ((T k).V m) ((T' k).V m) (z (O bb) m) _,hK _ ?_⟩;clear hK K;refine N (h:=?_);refine Hz ?_;intro w3 bj;go_wp2;go_roundw
   .exact⟨m+1,om,ov,z<|o9 HQ bj⟩
   exact ow
  go_wp2;go_roundw
  .exact⟨k+1,om,ov,bd⟩
  exact ow
 go_wp2_with fail
 go_loopw [95] (λj D=>∃(m:Nat),m<=ns/\j=J m/\B9 W D) λj _=>ns-(intOf j).toNat
 .exact⟨0,om,rfl,z<|O hb⟩
 obtain⟨m,hm,rfl,hq⟩:=hrel;obtain⟨⟨x1,x2⟩,⟨y1,y2⟩,lx⟩:=z HX wr hq;by_cases P:m<ns
 .obtain⟨b,off,rfl,l,hcs⟩:=HA.si.resolve_left (by show¬ns=0;omega);obtain⟨b',ad,rfl,a,B⟩:=HB.si.resolve_left (by show¬ns=0;omega);obtain⟨f0,f1,f2,f3,f4⟩:=hcs m P;obtain⟨g0,g1,g2,g3,g4⟩:=B m P;rcases (hq.cell l).trans f0,(hq.cell l).trans f1,(hq.cell l).trans f2,(hq.cell l).trans f3,(hq.cell l).trans f4,(hq.cell a).trans g0,(hq.cell a).trans g1,(hq.cell a).trans g2,(hq.cell a).trans g3,(hq.cell a).trans g4,A0 l hq.size,A0 a hq.size,mY<|S m,O hq with⟨f0,f1,f2,f3,f4,g0,g1,g2,g3,g4,hx,bg,bn,HQ⟩;go_wp2_with fail;go_quiet (fail);go_wp2;go_roundw
  .exact⟨m+1,om,ov,AQ HQ _⟩
  exact ow
 go_wp2;go_ret;exact⟨rfl,z<|o9 L hq⟩
def VO.sat{a:Option Addr}(h:VO w a ta sa s):kO w a ta sa s:=by
 refine⟨?_,h.t,h.si⟩;rcases h.f with e|⟨m,rfl,b⟩
 .exact .inl e
 exact b.at
def SM.forms{c}(h:SM w c B vF vT vS H s):∃i j ta tc sa sc,vF=.slice i s.nf j/\vT=.slice ta s.nt tc/\vS=.slice sa s.ns sc/\VO w i ta sa s:=by
 obtain⟨i,j,rfl⟩:∃a c,vF=.slice a s.nf c:=by
  obtain⟨_,⟨b,d⟩|⟨g,cap,cur,b,_⟩⟩:=h.f
  .exact⟨none,0,by rw[b,d]⟩
  exact⟨_,_,b⟩
 obtain⟨ta,tc,rfl⟩:∃a c,vT=.slice a s.nt c:=by
  obtain⟨_,⟨b,d⟩|⟨g,cap,cur,b,_⟩⟩:=h.t
  .exact⟨none,0,by rw[b,d]⟩
  exact⟨_,_,b⟩
 obtain⟨sa,sc,rfl⟩:∃a c,vS=.slice a s.ns c:=by
  obtain⟨_,⟨b,d⟩|⟨g,cap,cur,b,_⟩⟩:=h.si
  .exact⟨none,0,by rw[b,d]⟩
  exact⟨_,_,b⟩
 refine⟨i,j,ta,tc,sa,sc,rfl,rfl,rfl,?_,h.sat.t,h.sat.si⟩;rcases Aas s.nf with e|e
 .exact .inl e
 obtain⟨g,cp,b,_,_,k⟩:=h.Lq e;cases b;exact .inr ⟨g,rfl,k⟩
def XS.zV{lo hi}{a}{c sc}(h:XS lo hi w (.slice a s.nf c) (.slice ta s.nt tc) (.slice sa s.ns sc) s H):VO w a ta sa s:=by
 refine⟨?_,h.sat.t,h.sat.si⟩;rcases h.f with⟨e,_⟩|⟨_,b,cp,e,_,_,d⟩
 .exact .inl e
 cases e;exact .inr ⟨b,rfl,d⟩
def Ku{n:Option Addr}(p tc sc){s}{w}(h:VO w n ta sa s)(hs:Hc s)(C:Y2 s)(hk:∀i,i<s.ns->(s.S i).key.size<=maxLen)(f:BZ w):
  C9 5 #[NF n p ta tc sa sc s] w (R9 (J<|A6 s<|Dz s) w):=by
 obtain⟨W,q⟩:=qa<|w.alloc<|.cells #[.slice n s.nf p,.slice ta s.nt tc,.slice sa s.ns sc] 29;have b:B9 w W:=by rw[q];exact(BE _ _).alloc (Be _) _
 obtain⟨A,hA⟩:=(h.below b).t.addr;have D:=O<|LA p tc sc (Bb _ _ f b) (h.below b) hA hs C hk;have j:=O b;clear h hA hs C hk b f;go_enter func5,ntmps5;go_wp2_with fail;rw[<-q];clear q;refine D.mono ?_;rintro e w1 ⟨hj,d⟩;have k:=O<|o9 j d;have l:Hid<|∀o,B9 w<|w1.alloc o:=O λo=>k.alloc k.size _;clear d D;rcases hj with⟨r,rfl,E,u⟩|⟨g,cp,B,Z,M,H,b1,rfl,m,hN,⟨d,_⟩,F⟩
 .have v:=O E;clear E u;go_wp2;go_ret;exact⟨by rw[<-z v]<;>rfl,l _⟩
 obtain⟨I,K,rfl⟩:∃a c,H=.slice a s.nt c:=by
  obtain⟨_,⟨x,m⟩|⟨g',cap,cur,x,_⟩⟩:=F
  .exact⟨none,0,by rw[x,m]⟩
  exact⟨_,_,x⟩
 have v:=O m;clear m hN F d;go_wp2;go_ret;exact⟨by rw[z v]<;>rfl,l _⟩
def eW{c:Option Addr}(d tc sc){s}(a){w}(h:VO w c ta sa s)(b:cQ s)(f:VP a)(g:BZ w)(i:Ib w):
  C9 9 #[NF c d ta tc sa sc s,I5 a] w λe w'=>Ov w (Nh s a) (Wn s a) e w':=
 (WE d tc sc a h b.TQ b.wf b.key b.dm (Qk f.1) (Qk f.2) g i).mono λe w' j=>j.says
def jG{c:Option Addr}(d tc sc){s}(a){w}(h:VO w c ta sa s)(b:cQ s)(f:VP a):
  C9 10 #[NF c d ta tc sa sc s,I5 a] w λe w'=>Ou w (Nh s a) (Wn s a) e w':=
 (Xw d tc sc a h b.TQ b.wf b.key b.dm (Qk f.1)<|Qk f.2).mono λe w' g=>g.says
def lS(h:A6 s (Dz s)=0)(d:cQ s)(f:VP a):A6 (Nh s a) (Dz<|Nh s a)=0/\Hc (Nh s a)/\Y2 (Nh s a)/\∀i,i<(Nh s a).ns->((Nh s a).S i).key.size<=maxLen:=by
 have e:Nh s a=AR s a:=DD h;have b:=Hw (Tp h d.wf d.dm) a (Qk f.1)<|Qk f.2;have c:Kl<|AR s a:=b.mono om;rw[e];refine⟨b.ok,GA.TQ c,λi hi=>⟨λj hj=>?_,(b.t i hi).wf⟩,λi hi=>?_⟩
 .rcases(b.t i hi).way with⟨_,e,_⟩|⟨q,_,_,_,_,e⟩
  .omega
  exact(e j hj).2
 have:=(b.si i hi).1;unfold maxLen;omega
def rG(h:¬A6 s (Dz s)=0):Nh s a=N0:=C3 h
def nI(h:AU s=AU t):A6 s (Dz s)=A6 t (Dz t):=by rw[<-GR s,<-GR t,h]
def dN a(h:AU s=AU t):AU (Nh s a)=AU (Nh t a):=by rw[<-X7,<-X7,h]
def dM a(h:AU s=AU t):Jt (Wn s a)=Jt (Wn t a):=by rw[<-X5,<-X5,h]
def QZ.below(h:QZ K w w.heap.size)(hb:B9 w w'):QZ K w' w'.heap.size:=by
 obtain⟨h1,h2⟩:=h;refine⟨h1,?_⟩;rcases h2 with h2|⟨k,off,e,hk,hc⟩
 .exact .inl h2
 exact .inr ⟨k,off,e,A0 hk hb.size,λi hi=>⟨(As<|hb.block _ hk).trans (hc i hi).1,(hc i hi).2⟩⟩
structure wV (w:Y) (b0 b1 b2:Nat) (b:T9) (d:Nat) (ta:T9) (tc:Nat) (sa:T9) (sc:Nat) (s:AE) (c:T9) (gc:Nat) (ua:T9) (uc:Nat) (va:T9) (vc:Nat) (t:AE) (a:Ac) (wr:Y):Prop where
 r0:wr.heap[b0]?=some (.cells #[.slice b s.nf d,.slice ta s.nt tc,.slice sa s.ns sc] 29 (0,0))
 r1:wr.heap[b1]?=some (.cells (Bn a) 34 (0,0))
 r2:wr.heap[b2]?=some (.cells #[.slice c t.nf gc,.slice ua t.nt uc,.slice va t.ns vc] 29 (0,0))
 st:VO wr b ta sa s
 su:VO wr c ua va t
 be:B9 w wr
def wV.keep{b0 b1 b2}{b:Option Addr}{c}{sc}{d:Option Addr}{gc}{ua:Option Addr}{uc}{wr wx:Y}(h:wV w b0 b1 b2 b c ta tc sa sc s d gc ua uc va vc t a wr)(hb:B9 wr wx):wV w b0 b1 b2 b c ta tc sa sc s d gc ua uc va vc t a wx:=
 ⟨(hb.block _<|Ai h.r0).trans h.r0,(hb.block _<|Ai h.r1).trans h.r1,(hb.block _<|Ai h.r2).trans h.r2,h.st.below hb,h.su.below hb,o9 h.be hb⟩
def uJ(b:Nat)(u0 u1 u2:V9)(w:Y):Prop:=w.cell? (G b 0)=some u0/\w.cell? (G b 1)=some u1/\w.cell? (G b 2)=some u2
def IK{u0 u1 u2:V9}(h:w.heap[b]?=some (.cells #[u0,u1,u2] ty (0,0))):uJ b u0 u1 u2 w:=by
 refine⟨?_,?_,?_⟩<;>(rw[Hi w b _ _ _ _ h];rfl)
def Sp(h:w.heap[b]?=some (.cells (Bn a) ty (0,0))):Mj b a w:=by
 refine⟨?_,?_,?_,?_,?_,?_,?_,?_,?_,?_,?_,?_,?_,?_⟩<;>(rw[Hi w b _ _ _ _ h];rfl)
def ZW(w)(hc:QZ K w w.heap.size)(c7:(K.len:Int)<=1048576)(hT:BZ w)(hE:Ib w):
  C9 3 #[.slice K.a K.len K.cap] w (R9 (.bool true) w):=by
 have cy:=hE.lt;go_enter func3,ntmps3;go_wp2_with fail;refine(Ue w hc).mono ?_;rintro e w1 ⟨s,a,bl,vF,vT,vS,H,rfl,bt,b,d,ag,bu⟩;obtain⟨fa,fc,ta,tc,sa,sc,rfl,rfl,rfl,bw⟩:=bu.forms;obtain⟨W1,bx,ah,cz,r0,r1⟩:=TM w1 (.cells #[.slice fa s.nf fc,.slice ta s.nt tc,.slice sa s.ns sc] 29)<|.cells (Bn a) 34;have F:=o9 ag ah;rcases hc.below F,O<|qp r0<|qp r1<|bw.below ah,O (qp bt<|qp b d) with⟨bz,I,L⟩;clear bt b d ag bu bw ah r0 r1;go_wp2_with fail;rw[<-bx];clear bx;refine(Ue _ bz).mono ?_;rintro e w2 ⟨t,a2,c8,vG,vU,vV,H2,rfl,b1,o,bn,ai,b2⟩;obtain⟨ga,gc,ua,uc,va,vc,rfl,rfl,rfl,b3⟩:=b2.forms;obtain⟨W2,b4,p,cD,q0,q1⟩:=TM w2 (.cells #[.slice ga t.nf gc,.slice ua t.nt uc,.slice va t.ns vc] 29)<|.cells (Bn a2) 34;have j:=o9 ai p;have hN:AU s=AU t:=congrArg Prod.fst<|L.1.symm.trans b1;have g:wV w w1.heap.size (w1.heap.size+1) w2.heap.size fa fc ta tc sa sc s ga gc ua uc va vc t a W2:=
  ⟨(j.block _ om).trans I.1,(j.block _ om).trans I.2.1,q0,I.2.2.below j,b3.below p,o9 F j⟩
 rcases qa (A6 s<|Dz s),qa<|Nh s a,qa<|Wn s a,qa<|Nh t a,qa<|Wn t a,qa<|Cx a,L.2.1,L.2.2 with⟨⟨r,hr⟩,⟨S,hS⟩,⟨X,hX⟩,⟨S',aj⟩,⟨X',ak⟩,⟨bb,ao⟩,b,d⟩;have M:Hid<|∀w',B9 w w'->BZ w'/\Ib w':=O λw' hb=>⟨hT.below hb hT.sz,hE.below hb cy⟩;have b5:Hid<|∀w',B9 W2 w'->C9 5 #[NF fa fc ta tc sa sc s] w' λe c=>e=.returned (J r)/\B9 w' c:=O (λw' hb=>by
  rw[hr];exact Ku fc tc sc (g.keep hb).st b.TQ b.wf b.key (M _ (g.keep hb).be).1)
 have aq:Hid<|∀w',B9 W2 w'->C9 6 #[NF ga gc ua uc va vc t] w' λe c=>e=.returned (J r)/\B9 w' c:=O (λw' hb=>by
  rw[hr,nI hN];exact KD gc uc vc (g.keep hb).su o.TQ o.wf o.key)
 have b6:Hid<|∀w',C9 7 #[I5 a] w' λe c=>e=.returned (.bool bb)/\B9 w' c:=O (λw'=>by rw[ao];exact Rq a w');have b7:Hid<|∀w',C9 8 #[I5 a] w' λe c=>e=.returned (.bool bb)/\B9 w' c:=O (λw'=>by rw[ao];exact Fm a w');have b8:Hid<|∀w',B9 W2 w'->C9 9 #[NF fa fc ta tc sa sc s,I5 a] w' λe c=>Ov w' S X e c:=O (λw' hb=>by
  rw[hS,hX];exact eW fc tc sc a (g.keep hb).st b d (M _ (g.keep hb).be).1 (M _ (g.keep hb).be).2)
 have b9:Hid<|∀w',B9 W2 w'->C9 10 #[NF ga gc ua uc va vc t,I5 a] w' λe c=>Ou w' S' X' e c:=O (λw' hb=>by
  rw[aj,ak];exact jG gc uc vc a (g.keep hb).su o d)
 have HN:Hid<|AU s=AU t/\AU S=AU S'/\Jt X=Jt X':=O ⟨hN,by rw[hS,aj];exact dN a hN,by rw[hX,ak];exact dM a hN⟩;have ca:Hid<|Hc s/\Hc S:=O ⟨b.TQ,by rw[hS];exact(lQ b.wf b.dm (Qk d.1)<|Qk d.2).1⟩;have HG:Hid (r=0->A6 S (Dz S)=0/\Hc S/\Y2 S/\∀i,i<S.ns->(S.S i).key.size<=maxLen):=O (λe=>by rw[hS];exact lS (hr.symm.trans e) b d);have HZ:Hid<|¬r=0->S.nt=0/\S.nf=0:=O (λe=>by rw[hS,rG (by rw[<-hr];exact e)];exact⟨rfl,rfl⟩);rcases IK g.r0,Sp g.r1,IK g.r2,Ai g.r0,Ai g.r1,Ai g.r2 with⟨⟨i0,i1,i2⟩,⟨a0,a1,a2,a3,a4,a5,a6,a7,a8,a9,ar,au,a12,av⟩,⟨j0,j1,j2⟩,l0,l1,l2⟩;clear cz cD hr hS hX aj ak ao b d hN j p q0 q1 b1 o bn ai b2 b3 bz L I F hc hT hE;go_upto_region 5 with fail
 rw[<-b4];clear b4;refine qr W2 ?_;refine N (h:=?_);refine GS λK hK=>?_;go_simp;refine⟨_,λw' f=>qk f<|b5 _ f,hK _ ?_⟩;clear hK K;refine N (h:=?_);refine GS λK hK=>?_;go_simp;refine⟨_,λw' f=>qk f<|aq _ f,hK _ ?_⟩;clear hK K;refine N (h:=N (h:=N (h:=?_)));refine GS λK hK=>?_;go_simp;refine⟨_,λw' f=>qk f<|b6 _,hK _ ?_⟩;clear hK K;refine N (h:=?_);refine GS λK hK=>?_;go_simp;refine⟨_,λw' f=>qk f<|b7 _,hK _ ?_⟩;clear hK K;refine N (h:=N (h:=?_));refine Hz ?_;intro w3 q;have u:=g.keep q;rcases IK u.r0,Sp u.r1,Ai u.r0,Ai u.r1 with⟨⟨i0,i1,i2⟩,⟨a0,a1,a2,a3,a4,a5,a6,a7,a8,a9,ar,au,a12,av⟩,l0,l1⟩;clear u b5 b6 b7;go_wp2_with fail;refine(b8 _ q).mono ?_;rintro e w4 ⟨ka,kc,ma,mc,na,nc,H4,lo,rfl,cb,cN,aw⟩;obtain⟨V4,cc,V,_,p4⟩:=Ll w4<|.cells oW.toArray 42;obtain⟨W4,W,ax⟩:=Kh p4 ka ma na S.nf kc S.nt mc S.ns nc X;have bp:Hid<|(Instr.storeAt 42 (Q9 w4.heap.size)<|kV (.slice ka S.nf kc) (.slice ma S.nt mc) (.slice na S.ns nc) X).run prog (w4.alloc<|.cells oW.toArray 42)=.ok () W4:=O (by rw[<-cc];exact W);have v:=ax.below V<|Be _;rcases o9 q (aw.trans<|v.mono aw.size),cb.zV.below v,O ax.BH with⟨k,cd,ay⟩;have x:=g.keep k;replace ⟨i0,i1,i2⟩:=IK x.r2;replace ⟨a0,a1,a2,a3,a4,a5,a6,a7,a8,a9,ar,au,a12,av⟩:=Sp x.r1;replace l0:=Ai x.r2;replace l1:=Ai x.r1;clear cb p4 x cN aw V v W ax cc b8 q;go_wp2_with (refine Af rfl rfl _ bp ?_);refine(b9 _ k).mono ?_;rintro e w5 ⟨cg,az,ch,aM,cj,bc,rfl,ck,bd⟩;obtain⟨V5,cl,Z,_,p5⟩:=Ll w5<|.cells oW.toArray 42;obtain⟨W5,ad,A⟩:=Kh p5 cg ch cj S'.nf az S'.nt aM S'.ns bc X';have bq:Hid<|(Instr.storeAt 42 (Q9 w5.heap.size)<|kV (.slice cg S'.nf az) (.slice ch S'.nt aM) (.slice cj S'.ns bc) X').run prog (w5.alloc<|.cells oW.toArray 42)=.ok () W5:=O (by rw[<-cl];exact ad);have B:=A.below Z<|Be _;have m:=o9 bd B;rcases o9 k m,cd.below m,ck.now.below B,(m.block _<|Ai ay).trans ay with⟨bf,bg,ae,P⟩;rcases O (qp P A.BH),Hf P,Hf A.BH,Ai P,Ai A.BH with⟨bh,⟨g0,g1,g2,g3,g4,g5,g6,g7,g8,g9,g10,g11,g12,g13,g14⟩,⟨h0,h1,h2,h3,h4,h5,h6,h7,h8,h9,cm,cn,cp,cq,cr⟩,m4,m5⟩;clear m ck p5 bd Z B ad A cl P b9 ay cd i0 i1 i2 a0 a1 a2 a3 a4 a5 a6 a7 a8 a9 ar au a12 av l0 l1 k;go_wp2_with (refine Af rfl rfl _ bq ?_);refine m9 (Qi kc az mc aM nc bc HN.2.1 _ bg.sat ae ca.2) λw6 C=>?_;rcases o9 bf C,bg.below C,O (qp ((C.block _ m4).trans bh.1)<|(C.block _ m5).trans bh.2) with⟨bj,ct,n⟩;replace ⟨g0,g1,g2,g3,g4,g5,g6,g7,g8,g9,g10,g11,g12,g13,g14⟩:=Hf n.1;replace ⟨h0,h1,h2,h3,h4,h5,h6,h7,h8,h9,cm,cn,cp,cq,cr⟩:=Hf n.2;replace m4:=Ai n.1;replace m5:=Ai n.2;clear C bf bg ae bh;go_wp2_with fail;refine m9 (kF X X' HN.2.2 _) λw7 D=>?_;rcases D.size,o9 bj D,O<|ct.below D,O ((D.block _ m4).trans n.1) with⟨z7,Q,cu,cv⟩;have l:=g.keep Q;rcases IK l.r0,IK l.r2,Ai l.r0,Ai l.r2,O (Qi fc gc tc uc sc vc HN.1 _ l.st.sat l.su.sat ca.1) with⟨⟨i0,i1,i2⟩,⟨j0,j1,j2⟩,l0,l2,cw⟩;clear D l bj ct n m5 g0 g1 g2 g3 g4 g5 g6 g7 g8 g9 g10 g11 g12 g13 g14 h0 h1 h2 h3 h4 h5 h6 h7 h8 h9 cm cn cp cq cr;go_wp2_with fail;refine cw.mono ?_;rintro e w8 ⟨rfl,R⟩;have E:=o9 Q R;have cx:=cu.below R;have bk:=O<|(R.block _ om).trans cv;have bm:=g.keep E;replace ⟨j0,j1,j2⟩:=IK bm.r2;replace l2:=Ai bm.r2;clear R bm Q cu cv cw i0 i1 i2 l0;go_wp2_with fail;refine(aq _ E).mono ?_;rintro e w9 ⟨rfl,T⟩;rcases o9 E T,O<|cx.below T,O ((T.block _<|Ai bk).trans bk) with⟨c0,c3,c4⟩;have U:=O (g.keep c0).be;obtain⟨g0,g1,g2,_⟩:=Hf c4;clear T E cx bk j0 j1 j2 l2 aq;by_cases r0:r=0
 .subst r0;have c5:=O<|Ku kc mc nc c3 (HG rfl).2.1 (HG rfl).2.2.1 (HG rfl).2.2.2 (M _ U).1;have c6:=O (HG rfl).1;go_wp2_with fail;refine c5.mono ?_;rintro e c9 ⟨rfl,af⟩;rw[z c6];have br:=O<|o9 U af;clear af;go_wp2_with fail;go_ret;exact⟨rfl,br⟩
 obtain⟨e1,e2⟩:=z HZ r0;rw[e2]at g0;rw[e1]at g1;have b0:(r==0)=false:=by simp[r0]
 clear e1 e2;go_wp2_with fail;go_ret;exact⟨rfl,U⟩
end Go.Proofs.YtkpfgniijbgkoaaGreatDoor
