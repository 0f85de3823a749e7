import Derived.Test.YtgmlkfgfjjggnaaGreatDoorSPAI
set_option linter.all false
set_option maxHeartbeats 40000000
set_option maxRecDepth 100000
namespace Go.Proofs.YtgmlkfgfjjggnaaGreatDoor
open Go.Proofs.Tryz
open Go.RowKit
attribute [local go_sem] Am Aj Cx
variable {p B c b lo hi n tc sc:Nat}{w w':Y}{s:AK}{vT vS vF va:V9}{H:Nat->Hs}{f:Nat->Ac}{sa:Option Addr}{ok:Bool}
def F4(nb:Nat)(p:A3)(W:Y):Prop:=W.cell? (G nb 1)=some (J p.parent)/\W.cell? (G nb 2)=some (.string p.key)/\W.cell? (G nb 3)=some (J p.count)
theorem F4.keep{nb:Nat}{p:A3}{W W':Y}(h:F4 nb p W)(hk:W'.heap[nb]?=W.heap[nb]?):F4 nb p W':=
 ⟨(As (a:=(G nb 1)) hk).trans h.1,(As (a:=(G nb 2)) hk).trans h.2.1,(As (a:=(G nb 3)) hk).trans h.2.2⟩
def Mg(_:Y):Prop:=True
theorem I2.shape{b0:Nat}{B:Nat->Nat}(h:I2 w s b0 B){j:Nat}(hj:j<s.nf):F4 (B j) (s.F j) w/\∃cs,w.heap[B j]?=some (.cells cs 208 (0,0)):=by
 obtain⟨Z,M,h1,h2⟩:=h;have a:=h1.node j hj (h2 j hj);refine⟨⟨a.cell (i:=1) oa,a.cell (i:=2) oa,a.cell (i:=3) oa⟩,?_⟩;obtain⟨c,hc,_⟩:=a;exact⟨c,hc⟩
theorem AZ.jZ{Z:Nat->Prop}{B0:Nat}{vN vU:V9}{Bk:Nat->Nat}{A:Nat->Ad}(h:AZ Z w c B0 vN vT vS vU Bk A s)(hn:0<s.nf):∃g d,vN=.slice (some (G g 0)) s.nf d/\g<w.heap.size/\∀i,i<s.nf->w.cell? (G g i)=some (.pointer (some (G (Bk i) 0))):=by
 obtain⟨hl,⟨b,e⟩|⟨g,cap,cur,b,hb,a,h1,h2,h3,h4⟩⟩:=h.n
 ·omega
 ·exact⟨g,cap,b,(GC.1 a).1,fun i hi=>by rw[IH (b▸h.n) i oa,Ke hi]⟩
theorem UR(Z:Nat->Prop)(c B0:Nat)(vN vT vS vU:V9)(Bk:Nat->Nat)(A:Nat->Ad)(s:AK)(w:Y)(hM:AZ Z w c B0 vN vT vS vU Bk A s)(hG:KH s):
  C9 58 #[Q9 c] w fun e w'=>(∃vF bc B H,e=.returned (.agg #[vF,bc,B])/\Pb w.heap.size w'.heap.size w' vF bc B s H)/\B9 w w':=by
 obtain⟨i0,bu,bw,bz,b1⟩:=P9 J2;obtain⟨k0,b2,b3,b4,b5⟩:=P9 KT;obtain⟨t0,b6,b7,b8,b9⟩:=P9 Pt;obtain⟨f1,_⟩:=AB hG.f;have aj:0<s.nf:=oj f1.1;have ct:s.nf<=200:=f1.2;have cu:=hG.ns;have cv:=hG.nt;obtain⟨gN,cN,rfl,ca,bd⟩:=hM.jZ aj;obtain⟨ta,tc,rfl⟩:=Ay hM.t;obtain⟨sa,sc,rfl⟩:=Ay hM.si;obtain⟨W,hW⟩:∃W,W=w.alloc (.cells kY 42):=⟨_,rfl⟩;have ar:B9 w W:=by rw[hW];exact(Cs _ _).alloc (Be _) _
 have cb:W.heap.size=w.heap.size+1:=by rw[hW];simp
 have b0:W.heap[w.heap.size]?=some (.cells kY 42 (0,0)):=by rw[hW];exact BE _ _
 have cw:=hM.lt;have ax:=(hM.below ar).1;have c2:=ax.cells.2.2.1;have bf:=O (Lq.news ax.si);have HM:=O hM;have HG:=O hG;have cc:=O bd;have cx:=O ar;have cy:=O b0;have lc:c<W.heap.size:=oa;have a7:w.heap.size<=W.heap.size:=oa;have bg:Hid (∀a1 c1 w1,w1.ownsRow w.heap.size 103 5 (.slice a1 s.ns c1) s.ns (Ji s.S s.ns)->W.grownBy w1 none->(∀q,(Value.slice a1 s.ns c1).ownBlock=some q->q=w.heap.size+1)->I3 w w1.heap.size (N9) (N9) (.slice a1 s.ns c1) s 0 0 (fun _=>⟨.nilFunc,.nilFunc,.nilFunc,.nilFunc⟩) (fun _=>w.heap.size) (w1.alloc (.cells #[N9,N9,.slice a1 s.ns c1] 42))):=O (by
  intro a1 c1 w1 h1 h2 h3;have V:B9 w w1:=II ar oa h2;have hz:=h2.size;have E:B9 w (w1.alloc (.cells #[N9,N9,.slice a1 s.ns c1] 42)):=V.alloc V.size _;refine⟨BE _ _,(DO _ _ _ oa).trans ((h2.block _ oa od).trans b0),oa,E,IF _ _ _ _,On h1 _,IF _ _ _ _,fun i hi=>absurd hi (OR _),Be _,fun i hi=>absurd hi (OR _),E.size⟩)
 clear hM ax hG bd ar b0
 go_enter func58,ntmps58
 go_upto_region 1 with fail
 rw[<-hW];clear hW;go_upto_region 2 with(at_builtin;refine Cz rfl _ _ 40 rfl w.heap.size 103 i0 (.agg #[E9,J 0,J 0,J 0,J 0]) 5 48 underlying40 bu bw bz b1 rfl oc rfl sa s.ns sc (Ji s.S s.ns) rfl (FN _ _) bf (Q5 _ _) (by unfold maxLen;omega) oa a7 (w.heap.size+1) cb ?_;intro a1 c1 w1 X ae ad;have HI:=O (bg a1 c1 w1 X ae ad);have zz:=ae.size;clear X ae ad)
 obtain⟨w2,bh⟩:∃w2,w2=w1.alloc (.cells #[N9,N9,.slice a1 s.ns c1] 42):=⟨_,rfl⟩;rw[<-bh]at HI ⊢;obtain⟨g,bj⟩:∃g,g=w1.heap.size:=⟨_,rfl⟩;rw[<-bj]at HI ⊢;obtain⟨B,ak⟩:∃B,B=Value.slice a1 s.ns c1:=⟨_,rfl⟩;rw[<-ak]at HI;have cr:w.heap.size<g:=HI.lt;have c0:=((HM.below HI.CN).1).cells.1;have cd:=((HM.below HI.CN).1).lt;clear bh bj ak c2 bg bf lc zz;go_wp2_with fail;go_loopw [20] (fun i wr=>∃(k:Nat) (vF:V9),k<=s.nf/\i=J k/\I3 w g vF (N9) B s k 0 (fun _=>⟨.nilFunc,.nilFunc,.nilFunc,.nilFunc⟩) (fun _=>w.heap.size) wr) (fun i _=>s.nf-(intOf i).toNat)
 case atStart=>exact⟨0,_,oa,rfl,HI⟩
 case round=>
  clear HI c0 cd;obtain⟨k,vF,hk,rfl,a⟩:=hrel;have C:=(HM.below a.CN).1;have U:=O a;have bk:=a.CN.size;by_cases D:k<s.nf
  ·
   obtain⟨ay,cs,hcs⟩:=I2.shape (w:=wr) (s:=s) C.nd D;have xN:wr.cell? (G gN k)=some (Q9 (Bk k)):=ol a.CN ca (cc k D);have cz:gN<wr.heap.size:=oa;have bm:=Ah hcs;obtain⟨r,u,rfl⟩:=Ay a.f;have j:=a.box;have y0:wr.cell? (G g 0)=some (.slice r k u):=by simp[World.cell?,j]
   have az:=Ah j;have cg:Bk k≠g:=fun e=>by rw[e,j]at hcs;cases hcs
   have ao:F4 (Bk k) (s.F k) wr.drew:=ay;have au:B9 wr ((wr.alloc (.cells #[J (s.F k).parent,.string (s.F k).key,J (s.F k).count] 205)).drew):=(n9).drew;have I:F4 (Bk k) (s.F k) (wr.alloc (.cells #[J (s.F k).parent,.string (s.F k).key,J (s.F k).count] 205)).drew:=ay.keep (au.block _ bm);have yX:(wr.alloc (.cells #[J (s.F k).parent,.string (s.F k).key,J (s.F k).count] 205)).drew.cell? (G g 0)=some (.slice r k u):=ol au az y0;have yY:(wr.alloc (.cells #[J (s.F k).parent,.string (s.F k).key,J (s.F k).count] 205)).cell? (G g 0)=some (.slice r k u):=yX;have av:=O a.f;have HF:Hid (∀g3 b w3,w3.ownsRow w.heap.size 205 3 (S9 g3 (k+1) b) (k+1) (SZ s.F k++[J (s.F k).parent,.string (s.F k).key,J (s.F k).count])->(wr.alloc (.cells #[J (s.F k).parent,.string (s.F k).key,J (s.F k).count] 205)).drew.grownBy w3 (Value.ownBlock (.slice r k u))->(Value.ownBlock (.slice r k u)=some g3\/g3=(wr.alloc (.cells #[J (s.F k).parent,.string (s.F k).key,J (s.F k).count] 205)).drew.heap.size)->
     F4 (Bk k) (s.F k) w3/\F4 (Bk k) (s.F k) (w3.setCell (G g 0) (S9 g3 (k+1) b))/\w3.cell? (G g 0)=some (.slice r k u)/\w3.frozen? (G g 0)=false/\g<w3.heap.size/\I3 w g (S9 g3 (k+1) b) (N9) B s (k+1) 0 (fun _=>⟨.nilFunc,.nilFunc,.nilFunc,.nilFunc⟩) (fun _=>w.heap.size) (w3.setCell (G g 0) (S9 g3 (k+1) b))):=O (by
    intro g3 b w3 h1 h2 h3;obtain⟨p1,p2⟩:=a.shape au h2 h1 (h3.imp id (fun e=>oa));have af:F4 (Bk k) (s.F k) w3:=I.keep (h2.block _ (At bm au.size) (fun e=>by
     obtain⟨cur,hc,_⟩:=AJ a.f e.symm;rw[hc]at hcs;cases hcs))
    exact⟨af,af.keep (A0 _ _ _ _ (by exact cg)),by simp[World.cell?,p1],by simp[World.frozen?,p1],Ah p1,p2⟩)
   clear C a ay hcs j U;go_wp2_with fail;refine Hl (F4 (Bk k) (s.F k)) ?_;refine tz 0 (h:=tz 1 (h:=tz 3 (h:=tz 4 (h:=tz 5 (h:=tz 6 (h:=?_))))));refine AaE (rs:=[2,7]) og od ?_;refine SO rfl (fun K hK=>?armA) (SO rfl (fun K hK=>?armB) AaH)
   case' armA=>
    go_simp;refine hK.out _ _ ao (fun _=>?_);clear hK K;refine ry 7 (fun K hK=>?_);go_simp;refine hK.out _ _ I (fun bn=>?_);clear hK K
   case' armB=>
    go_simp;refine hK.out _ _ I (fun bn=>?_);clear hK K;refine ry 2 (fun K hK=>?_);go_simp;refine hK.out _ _ I (fun _=>?_);clear hK K
   all_goals
    refine ry 8 (fun K hK=>?_);refine Aaa _ rfl (.tmp 26) (.tmp 31) 36 rfl w.heap.size 205 k0 (Sh 0 ⟨#[]⟩ 0) 3 32 underlying36 b2 b3 b4 b5 rfl oc (.slice r k u) k (SZ s.F k) (by simp[Act.eval]) (World.ownsRow.drew (On av _)) (y wr 0) 1 1 [J (s.F k).parent,.string (s.F k).key,J (s.F k).count] (by simp[Act.eval]) rfl (H8 (w:=(wr.alloc (.cells #[J (s.F k).parent,.string (s.F k).key,J (s.F k).count] 205)).drew) (BE wr _)) (by simp[Value.oneCell']) oc (by unfold maxLen;omega) oa oe _ rfl ?_;intro g3 b w3 l M o a8;obtain⟨af,P,x3,f3,ch,Q⟩:=z HF g3 b w3 l M o;have ag:=O Q;clear l M o Q;refine hK.out _ _ af (fun bb=>?_);clear hK K;simp only[Act.put,AaM,AaC,AaB,Aad,AaX,AaW];refine tz 9 (h:=tz 10 (h:=?_));refine ry 11 (fun K hK=>?_);go_simp;refine hK.out _ _ P (fun _=>?_);clear hK K;refine Fj ?_;clear af P bb x3 f3 bn ao I yX yY y0 xN;obtain⟨w4,ah⟩:∃w4,w4=w3.setCell (G g 0) (S9 g3 (k+1) b):=⟨_,rfl⟩;rw[<-ah]at ag ⊢;clear ah;go_wp2;go_roundw
    case rel=>exact⟨k+1,_,oa,oh,ag⟩
    case measure=>simp[intOf];omega
  ·have aM:k=s.nf:=oa;subst aM;have c1:=C.cells.2.1;have cj:=C.lt;clear C a D;go_wp2_with fail;go_loopw [42] (fun i wr=>∃(k:Nat) (vT:V9) (H:Nat->Hs) (L:Nat->Nat),k<=s.nt/\i=J k/\I3 w g vF vT B s s.nf k H L wr) (fun i _=>s.nt-(intOf i).toNat)
   case atStart=>exact⟨0,_,_,_,oa,rfl,U⟩
   case round=>
    clear U c1 cj bk;obtain⟨k,vT,H,L,hk,rfl,a⟩:=hrel;have C:=(HM.below a.CN).1;have ai:=(HM.below a.CN.drew).1;have bk:=a.CN.size;have U:=O a;by_cases D:k<s.nt
    ·obtain⟨gT,cD,ck,c5,_,xT,_⟩:=C.CP D;cases ck;obtain⟨r,u,rfl⟩:=Ay a.t;have j:=a.box;have az:=Ah j;have y1:wr.cell? (G g 1)=some (.slice r k u):=by simp[World.cell?,j]
     have av:=O a.t;have HF:Hid (∀w2 hh g3 b w3,Ov wr.heap.size w2.heap.size w2 hh (s.T k)->Below wr.heap.size wr.drew w2->w3.ownsRow w.heap.size 94 8 (S9 g3 (k+1) b) (k+1) (JF (fun i=>Ks (H i) (s.T i)) k++Ks hh (s.T k))->(w2.alloc (.cells (Ks hh (s.T k)).toArray 94)).grownBy w3 (Value.ownBlock (.slice r k u))->(Value.ownBlock (.slice r k u)=some g3\/g3=(w2.alloc (.cells (Ks hh (s.T k)).toArray 94)).heap.size)->
       w3.cell? (G g 1)=some (.slice r k u)/\w3.frozen? (G g 1)=false/\g<w3.heap.size/\∃H' L',I3 w g vF (S9 g3 (k+1) b) B s s.nf (k+1) H' L' (w3.setCell (G g 1) (S9 g3 (k+1) b))):=O (by
      intro w2 hh g3 b w3 hR hb h1 h2 h3;have V:B9 wr w2:=(Cs _ _).drew.trans hb;have E:B9 wr (w2.alloc (.cells (Ks hh (s.T k)).toArray 94)):=V.alloc V.size _;have cl:Ov wr.heap.size (w2.alloc (.cells (Ks hh (s.T k)).toArray 94)).heap.size (w2.alloc (.cells (Ks hh (s.T k)).toArray 94)) hh (s.T k):=(hR.keep (fun q e=>DO _ _ _ (hR.own e).2.2)).wide (Be _) od;obtain⟨p1,p2⟩:=a.table E cl h2 h1 (h3.imp id (fun e=>oa));exact⟨by simp[World.cell?,p1],by simp[World.frozen?,p1],Ah p1,_,_,p2⟩)
     have cm:Mg wr.drew:=trivial;rcases Ub (B0:=B0) (Bk:=Bk) (A:=A k) HG.f (HG.t k D)with⟨a6,R⟩|⟨pk,a6,R⟩;all_goals
      rw[a6]at xT;have HC:=O (R wr.drew ai.nd (ai.rd k D).now.1 (ai.rd k D).now.2);clear a6 R C ai a j U;go_wp2_with fail;refine Hl Mg ?_;refine tz 0 (h:=tz 2 (h:=?_));refine AaE (rs:=[1,3]) og od ?_;refine SO rfl (fun K hK=>?_) (SO rfl (fun K hK=>?_) AaH);go_simp;refine hK.out _ _ cm (fun _=>?_);clear hK K;refine ry 3 (fun K hK=>?_);go_simp;rotate_left;go_simp;all_goals
       refine HC.mono ?_;rintro e w2 ⟨⟨hh,rfl,hR⟩,E⟩;obtain⟨a1,c1,a2,c2,a3,c3,a4,c4,rfl⟩:=hR.one;have aw:B9 wr w2:=(Cs _ _).drew.trans E;have z2:=aw.size;have y2:w2.cell? (G g 1)=some (.slice r k u):=ol aw az y1;have y3:(w2.alloc (.cells #[J (s.T k).shape,.slice a1 (s.T k).nv c1,.slice a2 (s.T k).d.n c2,.slice a3 (s.T k).d.m c3,.slice a4 (s.T k).d.x c4,J (s.T k).d.used,J (s.T k).d.live,J (s.T k).d.turns] 94)).cell? (G g 1)=some (.slice r k u):=Jo y2;have bp:=O (Uq av aw);have bq:=O (fun g3 b w3=>HF w2 _ g3 b w3 hR E);have br:Mg w2:=trivial;have e8:(Ks ⟨.slice a1 (s.T k).nv c1,.slice a2 (s.T k).d.n c2,.slice a3 (s.T k).d.m c3,.slice a4 (s.T k).d.x c4⟩ (s.T k)).toArray=#[J (s.T k).shape,.slice a1 (s.T k).nv c1,.slice a2 (s.T k).d.n c2,.slice a3 (s.T k).d.m c3,.slice a4 (s.T k).d.x c4,J (s.T k).d.used,J (s.T k).d.live,J (s.T k).d.turns]:=rfl;rw[e8];refine hK.out _ _ br (fun _=>?_);clear hK K hR E aw e8
      refine AaE (rs:=[1,4]) og od ?_;refine SO rfl (fun K hK=>?_) (SO rfl (fun K hK=>?_) AaH);go_simp;refine hK.out _ _ br (fun _=>?_);clear hK K;refine ry 4 (fun K hK=>?_);go_simp;refine hK.out _ _ trivial (fun _=>?_);clear hK K;rotate_left;go_simp;refine hK.out _ _ trivial (fun _=>?_);clear hK K;refine ry 1 (fun K hK=>?_);go_simp;refine hK.out _ _ trivial (fun _=>?_);clear hK K;rotate_left;refine ry 4 (fun K hK=>?_);go_simp;refine hK.out _ _ trivial (fun _=>?_);clear hK K;all_goals
       clear HC HF av;refine ry 5 (fun K hK=>?_);refine Aaa _ rfl (.tmp 47) (.tmp 50) 39 rfl w.heap.size 94 t0 (.agg Z8) 8 128 underlying39 b6 b7 b8 b9 rfl oc (.slice r k u) k (JF (fun i=>Ks (H i) (s.T i)) k) (by simp[Act.eval]) (On bp _) (y w2 0) 1 1 [J (s.T k).shape,.slice a1 (s.T k).nv c1,.slice a2 (s.T k).d.n c2,.slice a3 (s.T k).d.m c3,.slice a4 (s.T k).d.x c4,J (s.T k).d.used,J (s.T k).d.live,J (s.T k).d.turns] (by simp[Act.eval]) rfl (H8 (BE w2 _)) (by simp[Value.oneCell']) oc (by unfold maxLen;omega) oa oe _ rfl ?_;intro g3 b w3 l M o a8;obtain⟨x3,f3,ch,H',L',Q⟩:=z bq g3 b w3 l M o;have ag:=O Q;have cn:Mg w3:=trivial;clear l M o Q bq bp y1 y2 y3 xT;refine hK.out _ _ cn (fun _=>?_);clear hK K;simp only[Act.put,AaM,AaC,AaB,Aad,AaX,AaW];refine tz 6 (h:=?_);refine ry 7 (fun K hK=>?_);go_simp;refine hK.out _ _ trivial (fun _=>?_);clear hK K;refine Fj ?_;clear x3 f3;obtain⟨w4,ah⟩:∃w4,w4=w3.setCell (G g 1) (S9 g3 (k+1) b):=⟨_,rfl⟩;rw[<-ah]at ag ⊢;clear ah;go_wp2;go_roundw
       case rel=>exact⟨k+1,_,_,_,oa,oh,ag⟩
       case measure=>simp[intOf];omega
    ·have aM:k=s.nt:=oa;subst aM;obtain⟨ga,gc,rfl⟩:=Ay a.f;obtain⟨r,u,rfl⟩:=Ay a.t;obtain⟨za,zc,rfl⟩:=Ay a.si;obtain⟨w4,aq,P⟩:=BM (v:=.agg #[.slice ga s.nf gc,.slice r s.nt u,.slice za s.ns zc]) (old:=kY.toList) (vs:=[.slice ga s.nf gc,.slice r s.nt u,.slice za s.ns zc]) ZP a.res rfl rfl (by simp[Value.oneCell']) rfl;have cp:=O aq;have cq:=O a.box;have bt:=O (a.whole aj P);have r0:=Ab (vs:=[.slice ga s.nf gc,.slice r s.nt u,.slice za s.ns zc]) P 0 _ rfl;have r1:=Ab (vs:=[.slice ga s.nf gc,.slice r s.nt u,.slice za s.ns zc]) P 1 _ rfl;have r2:=Ab (vs:=[.slice ga s.nf gc,.slice r s.nt u,.slice za s.ns zc]) P 2 _ rfl;clear C ai a U aq P D;go_wp2_with (first|(refine Aat rfl 42 _ rfl g rfl _ _ _ _ cq underlying42 rfl jR ?_)|(refine Ai rfl rfl _ cp ?_));refine E1 (v:=.agg #[.slice ga s.nf gc,.slice r s.nt u,.slice za s.ns zc]) (by simp[results,results58,go_sem,r0,r1,r2]) rfl ⟨⟨_,_,_,_,rfl,bt.1⟩,bt.2⟩
theorem Xq(w:Y):(sizeOf 62).run prog w=.ok 5 w:=og
abbrev lV:Array Value:=#[.bool false,N9,N9,N9,N9]
theorem Ya(h:GV f1 1 w (SB b) lo hi):Cl w b E0.nf E0.F/\lo<=b:=by
 rcases h with⟨h,_⟩|⟨_,b',a,e,h1,h2,h3⟩
 ·cases h
 ·cases e;exact⟨h3,h1⟩
theorem bS(b:Nat)(w:Y)(C:Cl w b E0.nf E0.F)(L:BH w):
  C9 55 #[ES (SB b)] w fun e w'=>(∃g m B v,e=.returned (.tuple #[.agg #[S9 g 1 m,v],J 0])/\Rm w' w.heap.size (S9 g 1 m) 1 B/\I2 w' E0 w.heap.size B/\Ro w' w.heap.size v 0 B (fun _=>default) E0)/\B9 w w':=by
 have D:=C.lt;obtain⟨i0,hi,P,Q,R⟩:=P9 R8;obtain⟨W,c⟩:∃W,W=(w.alloc (.cells #[S9 b 1 1,N9,N9] 42)).alloc (.cells #[N9,N9] 118):=⟨_,rfl⟩;have k:B9 w W:=by rw[c];exact(n9).alloc od _
 obtain⟨x0,x1,x2,r0,r1,f0,n⟩:W.cell? (y w 0)=some (S9 b 1 1)/\W.cell? (y w 1)=some (N9)/\W.cell? (y w 2)=some (N9)/\W.cell? (Y9 w 0)=some (N9)/\W.cell? (Y9 w 1)=some (N9)/\W.frozen? (Y9 w 0)=false/\W.frozen? (Y9 w 1)=false:=by rw[c];simp[go_sem]
 have o:w.heap.size<W.heap.size:=by rw[c];simp;omega
 have s:w.heap.size+1<W.heap.size:=by rw[c];simp
 have S:=O (C.below k D);have t:=O k;clear k C L
 go_enter func55,ntmps55
 go_wp2_with fail
 rw[<-c];clear c;refine(Wy b 1 1 f1 _ S oc).mono ?_;rintro e w1 ⟨hj,a⟩;have y1:=ol a o x1;have y2:=ol a o x2;have K:=ol a s r0;have s1:=ol a s r1;have g0:=om a s f0;have g1:=om a s n;have T:w.heap.size<w1.heap.size:=At o a.size;have U:w.heap.size+1<w1.heap.size:=At s a.size;have E:=O (oo t a);rcases hj with⟨r,rfl,V,H⟩|⟨g,m,B,Z,M,rfl,h1,hN,hid,⟨f,h⟩,d⟩
 ·exact absurd (V.trans RA) H
 have X:=O (And.intro hN (And.intro hid (And.intro f (And.intro h d))));clear h1 hN hid f h d a x0 x1 x2 r0 r1 f0 n;go_wp2_with fail;go_loopw [6,35] (fun v i wr=>v=N9/\i=J 0/\wr=w1) (fun _ _ _=>0)
 case atStart=>exact⟨rfl,rfl,rfl⟩
 case round=>
  obtain⟨rfl,rfl,l⟩:=hrel;have l:=l.symm;subst l;go_wp2_with fail;go_loopw [58] (fun i wr=>i=J 0/\wr=w1) (fun _ _=>0)
  case atStart=>exact⟨rfl,rfl⟩
  case round=>
   obtain⟨rfl,l⟩:=hrel;have l:=l.symm;subst l;go_wp2_with fail;obtain⟨hN,hid,f,h,d⟩:=z X;refine E1 (v:=.tuple #[.agg #[S9 g 1 m,N9],J 0]) (by simp[results,results55,go_sem,K,s1]) rfl ?_;have j:g≠w.heap.size+1:=fun e=>by
    have u:=d 0 oc;rw[e,K]at u;cases u
   have x:((w1.setCell (Y9 w 0) (S9 g 1 m)).setCell (Y9 w 1) (N9)).heap[g]?=w1.heap[g]?:=(A0 _ _ _ _ (by exact j)).trans (A0 _ _ _ _ (by exact j));have I:Nd w1 E0 W.heap.size g B Z M:=⟨hN,hid,f,d⟩;have A:=Nd.Q3 (I.Ni (fun b hb _=>(A0 _ _ _ _ (by show b≠w.heap.size+1;omega)).trans (A0 _ _ _ _ (by show b≠w.heap.size+1;omega))) x) (Aax o);refine⟨⟨g,m,B,_,rfl,Ae (NI h (Aax o)) (fun q e=>by cases e;exact x),⟨Z,M,A.ns,A.id⟩,IF _ _ _ _⟩,?_⟩;repeat(refine PC ?_ (by show w.heap.size<=w.heap.size+1;omega) _)
   exact E
theorem gR(g a:Nat)(B:Nat->Nat)(b:T9)(tc B0:Nat)(w:Y)(f:B0<=w.heap.size)(hn:Rm w B0 (S9 g 1 a) 1 B)(d:I2 w E0 B0 B)(h:Ro w B0 (.slice b 0 tc) 0 B (fun _=>default) E0):
  C9 56 #[.agg #[S9 g 1 a,.slice b 0 tc],N9] w fun e w'=>(∃c vS,e=.returned (Q9 c)/\AZ (fun _=>False) w' c B0 (S9 g 1 a) (.slice b 0 tc) vS (N9) B (fun _=>default) E0)/\B9 w w':=
 QW B0 _ _ _ _ _ _ none 0 B (fun _=>default) E0 w f (Re _) hn d h (.inl rfl) (fun w' Z h1 h2 i hi=>absurd hi (OR _))
theorem Pb.forms(h:Pb lo hi w vF vT vS s H):∃i j c tc sa sc,vF=.slice i s.nf j/\vT=.slice c s.nt tc/\vS=.slice sa s.ns sc:=by
 obtain⟨i,j,hf⟩:=h.f.form;have d:∃c tc,vT=.slice c s.nt tc:=by
  rcases h.t with⟨e,a⟩|⟨b,k,Z,g,a,_⟩
  ·exact⟨none,0,by rw[a,e]⟩
  ·exact⟨_,_,a⟩
 have hs:∃c tc,vS=.slice c s.ns tc:=by
  rcases h.si with⟨e,a⟩|⟨b,k,Z,g,a,_⟩
  ·exact⟨none,0,by rw[a,e]⟩
  ·exact⟨_,_,a⟩
 obtain⟨c,tc,d⟩:=d;obtain⟨sa,sc,hs⟩:=hs;exact⟨_,_,_,_,_,_,hf,d,hs⟩
structure dV (w w':Y) (n:Nat) (f:Nat->Ac) (va vF vT vS:V9) (H:Nat->Hs) (lo:Nat):Prop where
 row:w'.ownsRow w.heap.size 45 12 va n (Qj (EA E0 f) n)
 st:Pb lo w'.heap.size w' vF vT vS (Bz E0 f n) H
 lt:∀k,va.ownBlock=some k->k<lo
 ge:w.heap.size<=lo
 below:B9 w w'
theorem QF(v:V9)(n:Nat)(f:Nat->Ac)(w:Y)(hA:Tu w v n f)(hn:n<=1000)(L:∀i,i<n->Wf (f i).k/\Wf (f i).v)(hT:BH w)(hE:Gg w)(hD:∀i,i<n->P3 (f i)):
  C9 23 #[v] w fun e w'=>∃va vF vT vS H lo,e=.returned (.agg #[.bool true,va,vF,vT,vS])/\dV w w' n f va vF vT vS H lo:=by
 have ar:=O hD;clear hD;obtain⟨ab,au,rfl,M,hcs⟩:=hA;obtain⟨W,P⟩:∃W,W=w.alloc (.cells lV 62):=⟨_,rfl⟩;have Q:B9 w W:=by rw[P];exact(Cs _ _).alloc (Be _) _
 have R:W.heap[w.heap.size]?=some (.cells lV 62 (0,0)):=by rw[P];exact BE _ _
 have av:W.heap.size=w.heap.size+1:=by rw[P];simp
 have aw:=hE.lt;have bc:=hT.sz;have d0:decide ((1000:Int)<(n:Int))=false:=oe;have HB:=O Q;have ax:=O R;have ay:=O hcs;have HT:=O hT;have HE:=O hE;have C:=O L;have az:w.heap.size<W.heap.size:=oa;clear hcs Q R hT hE L av
 go_enter func23,ntmps23
 go_upto_region 1 with fail
 rw[<-P];clear P;go_wp2_with fail;refine(T4 _).mono ?_;rintro e w1 ⟨⟨b,rfl,S⟩,s⟩;obtain⟨T,aM⟩:=Ya S;have D:=O (oo HB s);have U:=O ((s.block _ az).trans ax);have z1:=s.size;have HJ:=O (bS b w1 T (Bg _ _ HT D));clear S T aM s;go_wp2_with fail;refine HJ.mono ?_;rintro e w2 ⟨⟨g,cp,Bk,vt,rfl,V,Z,E⟩,o⟩;obtain⟨ta,tc,rfl⟩:=Ay E;have z2:=o.size;have m:B9 w2 (w2.alloc (.cells #[S9 g 1 cp,.slice ta 0 tc] 118)):=n9;obtain⟨X,K⟩:∃X,X=w2.alloc (.cells #[S9 g 1 cp,.slice ta 0 tc] 118):=⟨_,rfl⟩;have x0:X.cell? (y w2 0)=some (S9 g 1 cp):=by rw[K];simp[go_sem]
 have x1:X.cell? (y w2 1)=some (.slice ta 0 tc):=by rw[K];simp[go_sem]
 have lX:w2.heap.size<X.heap.size:=by rw[K];simp
 rw[<-K]at m;have ah:=O (oo D (o.trans (m.mono o.size)));have ad:=O ((m.block _ oa).trans ((o.block _ oa).trans U));have HO:=O (gR g cp Bk ta tc w1.heap.size X oa (Uq V m) (I2.below Z m) (Uq E m));clear V Z E o m HJ;go_upto_region 4 with fail
 rw[<-K];clear K;go_wp2_with fail;refine HO.mono ?_;rintro e w3 ⟨⟨c,vS,rfl,ai⟩,t⟩;have z3:=t.size;have l:=oo ah t;have a6:=O l;have ae:=O ((t.block _ oa).trans ad);have aj:=O (Ql c w1.heap.size ab au _ _ _ _ _ _ E0 n f w3 hn oa (fun i hi j u hu=>ol l M (ay i hi j u hu)) ai (fun q hq=>JR JJ rfl C hn hq) (fun i hi=>(C i hi).1) (Bg _ _ HT l) oa (HE.below l aw) oa ar);clear ai t l x0 x1 HO;go_wp2_with fail;refine aj.mono ?_;rintro e w4 ⟨rfl,F⟩;obtain⟨bd,bf,bg,bh,bj,A4,ak,a7⟩:=F.wk;have z4:=F.below.size;have HS:=O (UR _ c _ _ _ _ _ _ _ (Bz E0 f n) w4 ak (JR JJ rfl C hn (Be _)));have HR:=O F;have ao:=(F.row.lt _ rfl);have af:=O ((F.below.block w.heap.size oa).trans ae);have aq:=O (a6.trans (F.below.mono oa));clear F ak a7 aj;go_wp2_with fail;refine HS.mono ?_;rintro e w5 ⟨⟨vF,vT,bk,H,rfl,I⟩,r⟩;obtain⟨x,A,d,h,sa,sc,rfl,rfl,rfl⟩:=I.forms;have z5:=r.size;obtain⟨w6,B,a⟩:=BM (v:=.agg #[.bool true,S9 w3.heap.size n n,.slice x (Bz E0 f n).nf A,.slice d (Bz E0 f n).nt h,.slice sa (Bz E0 f n).ns sc]) (old:=lV.toList) (vs:=[.bool true,S9 w3.heap.size n n,.slice x (Bz E0 f n).nf A,.slice d (Bz E0 f n).nt h,.slice sa (Bz E0 f n).ns sc]) Xq ((r.block _ oa).trans af) rfl rfl (by simp[Value.oneCell']) rfl;have a8:Hid (dV w w6 n f (S9 w3.heap.size n n) (.slice x (Bz E0 f n).nf A) (.slice d (Bz E0 f n).nt h) (.slice sa (Bz E0 f n).ns sc) H w4.heap.size):=O (by
  have ag:=oo aq r;refine⟨WY (Ae HR.row (fun k e=>?_)) oa,?_,fun k e=>by cases e;exact ao.2,oa,a.below ag (Be _)⟩
  ·cases e;exact(a.other w3.heap.size oa).trans (r.block _ ao.2)
  ·rw[a.size];exact I.keep (fun q h1 _ _=>a.other q oa))
 have bb:=O B;have r0:=Ab (vs:=[.bool true,S9 w3.heap.size n n,.slice x (Bz E0 f n).nf A,.slice d (Bz E0 f n).nt h,.slice sa (Bz E0 f n).ns sc]) a 0 _ rfl;have r1:=Ab (vs:=[.bool true,S9 w3.heap.size n n,.slice x (Bz E0 f n).nf A,.slice d (Bz E0 f n).nt h,.slice sa (Bz E0 f n).ns sc]) a 1 _ rfl;have r2:=Ab (vs:=[.bool true,S9 w3.heap.size n n,.slice x (Bz E0 f n).nf A,.slice d (Bz E0 f n).nt h,.slice sa (Bz E0 f n).ns sc]) a 2 _ rfl;have r3:=Ab (vs:=[.bool true,S9 w3.heap.size n n,.slice x (Bz E0 f n).nf A,.slice d (Bz E0 f n).nt h,.slice sa (Bz E0 f n).ns sc]) a 3 _ rfl;have r4:=Ab (vs:=[.bool true,S9 w3.heap.size n n,.slice x (Bz E0 f n).nf A,.slice d (Bz E0 f n).nt h,.slice sa (Bz E0 f n).ns sc]) a 4 _ rfl;clear I r B a HS;go_wp2_with (refine Ai rfl rfl _ bb ?_);refine E1 (v:=.agg #[.bool true,S9 w3.heap.size n n,.slice x (Bz E0 f n).nf A,.slice d (Bz E0 f n).nt h,.slice sa (Bz E0 f n).ns sc]) (by simp[results,results23,go_sem,r0,r1,r2,r3,r4]) rfl ⟨_,_,_,_,_,_,rfl,a8⟩
theorem oP(a:Ac):P3 a:=by
 intro Z c B0 vN vT vS Bk A s w P l Q hc u r;obtain⟨c1,c2,c3,c4⟩:=X7 hc;obtain⟨r1,r2,R,M,U,W,X⟩:=Hp c1;have b:∀w2,B9 w w2->AZ Z w2 c B0 vN vT vS (N9) Bk A s:=fun w2 h=>(P.below h).1;have m:∀w2,B9 w w2->BH w2:=fun w2 h=>Bg _ _ Q h;have d:Eu a.op=true->∃t:Nat,a.t=t/\t<s.nt/\a.t.toNat=t:=fun h=>⟨a.t.toNat,oa,oj (c2 h),rfl⟩;have q:EG a.op=true->∃i:Nat,a.site=i/\i<s.ns/\a.site.toNat=i:=fun h=>⟨a.site.toNat,oa,oj (c3 h),rfl⟩;have C:a.op=1\/a.op=2\/a.op=3\/a.op=4\/a.op=5\/a.op=6\/a.op=7\/a.op=8\/a.op=9:=oa;rcases C with h|h|h|h|h|h|h|h|h
 ·refine⟨141,by rw[h];exact fun w=>og,fun args w=>og,fun w2 h2=>?_⟩;have g:Dg s a=if s.nt=100 then s else{s with nt:=s.nt+1,T:=AY s.T s.nt Kq}:=by unfold Dg;rw[DD h]
  have hN:F5 s a=if s.nt=100 then Bc 5 else DJ s.nt:=by unfold F5;rw[DD h]
  obtain⟨f1,_⟩:=AB l.f;refine(aE Z c B0 vN vT vS Bk A s a w2 (b w2 h2) l.nt (oj f1.1)).mono ?_;rintro e w3 ⟨x,o,A',m3,d3,e1,e2⟩;by_cases hn:s.nt=100
  ·obtain⟨e3,D,E,H,I,K⟩:=e2 hn;rw[g,hN,DD hn,DD hn];refine⟨Bc 0,5,vN,x,vS,o,e3,d3,.inr ⟨oc,rfl,Bk,A',_,m3,.inr (.inl ⟨s.nt,D,E,H,I,K,Nat.le_succ _,Nat.succ_pos _,by show s.nt+1<=200;omega,⟨rfl,rfl,rfl,rfl,fun i hi=>?_,fun _ _=>rfl⟩⟩)⟩⟩;exact Al _ _ (by have hi:i<s.nt:=hi;omega)
  ·rw[g,hN,C3 hn,C3 hn];exact⟨DJ s.nt,0,vN,x,vS,o,e1 hn,d3,.inl ⟨rfl,rfl,Bk,A',m3⟩⟩
 ·refine⟨142,by rw[h];exact fun w=>og,fun args w=>og,fun w2 h2=>?_⟩;obtain⟨t,et,j,en⟩:=d (by simp[Eu,h]);have g:Dg s a=CC s t (DY a.k) a.v:=by unfold Dg;rw[C3 oa,C3 oa,DD h,en]
  have hN:F5 s a=Bc (Cv s t (DY a.k) a.v):=by unfold F5;rw[C3 oa,C3 oa,DD h,en]
  rw[g,hN];exact kW Z c B0 vN vT vS Bk A s a t w2 (b w2 h2) l (m w2 h2) et j (QK u (c4 (.inl h))) M (kJ _ _) r
 ·refine⟨143,by rw[h];exact fun w=>og,fun args w=>og,fun w2 h2=>?_⟩;obtain⟨t,et,j,en⟩:=d (by simp[Eu,h]);have g:Dg s a=s:=by unfold Dg;rw[C3 oa,C3 oa,C3 oa,C3 oa,C3 oa]
  have hN:F5 s a=E4 (Cm s.F (s.T t) (DY a.k)):=by unfold F5;rw[C3 oa,C3 oa,C3 oa,C3 oa,DD h,en]
  rw[g,hN];refine m9 (kV Z c B0 vN vT vS _ Bk A s a t w2 (b w2 h2) l.f (l.t t j) (m w2 h2) et j l.nt (QK u (c4 (.inr h)))) fun w3 hb=>?_;exact Gz.read (b w2 h2) hb _
 ·refine⟨144,by rw[h];exact fun w=>og,fun args w=>og,fun w2 h2=>?_⟩;obtain⟨t,et,j,en⟩:=d (by simp[Eu,h]);have g:Dg s a=s:=by unfold Dg;rw[C3 oa,C3 oa,C3 oa,C3 oa,C3 oa]
  have hN:F5 s a=fA ((Uu s t).next a.n):=by unfold F5;rw[C3 oa,C3 oa,C3 oa,C3 oa,C3 oa,C3 oa,en];unfold Pl.ask;rw[DD h];rfl
  rw[g,hN];refine m9 (iQ Z c B0 vN vT vS _ Bk A s a t w2 (b w2 h2) l.f (l.t t j) (m w2 h2) et j l.nt) fun w3 hb=>?_;exact Gz.read (b w2 h2) hb _
 ·refine⟨145,by rw[h];exact fun w=>og,fun args w=>og,fun w2 h2=>?_⟩;obtain⟨t,et,j,en⟩:=d (by simp[Eu,h]);have g:Dg s a=s:=by unfold Dg;rw[C3 oa,C3 oa,C3 oa,C3 oa,C3 oa]
  have hN:F5 s a=DJ (WK (s.T t)):=by unfold F5;rw[C3 oa,C3 oa,C3 oa,C3 oa,C3 oa,C3 oa,en];unfold Pl.ask;rw[C3 oa,C3 oa,lS (l.t t j)];rfl
  rw[g,hN];refine m9 (eL Z c B0 vN vT vS _ Bk A s a t w2 (b w2 h2) (l.t t j) (m w2 h2) et j l.nt) fun w3 hb=>?_;exact Gz.read (b w2 h2) hb _
 ·refine⟨146,by rw[h];exact fun w=>og,fun args w=>og,fun w2 h2=>?_⟩;obtain⟨t,et,j,en⟩:=d (by simp[Eu,h]);have g:Dg s a=s:=by unfold Dg;rw[C3 oa,C3 oa,C3 oa,C3 oa,C3 oa]
  have hN:F5 s a=DJ (VW (s.T t)):=by unfold F5;rw[C3 oa,C3 oa,C3 oa,C3 oa,C3 oa,C3 oa,en];unfold Pl.ask;rw[C3 oa,DD h,lQ (l.t t j)];rfl
  rw[g,hN];refine m9 (iR Z c B0 vN vT vS _ Bk A s a t w2 (b w2 h2) (l.t t j) (m w2 h2) et j l.nt) fun w3 hb=>?_;exact Gz.read (b w2 h2) hb _
 ·refine⟨147,by rw[h];exact fun w=>og,fun args w=>og,fun w2 h2=>?_⟩;have g:Dg s a=if s.ns=50 then s else{s with ns:=s.ns+1,S:=AY s.S s.ns ⟨a.k.str,-1,0,0,0⟩}:=by unfold Dg;rw[C3 oa,DD h]
  have hN:F5 s a=if s.ns=50 then Bc 5 else DJ s.ns:=by unfold F5;rw[C3 oa,DD h]
  refine(dH Z c B0 vN vT vS Bk A s a w2 (b w2 h2) l.ns).mono ?_;rintro e w3 ⟨B,o,m3,d3,e1,e2⟩;by_cases hn:s.ns=50
  ·obtain⟨e3,D,E,H,I,K⟩:=e2 hn;rw[g,hN,DD hn,DD hn];refine⟨Bc 0,5,vN,vT,B,o,e3,d3,.inr ⟨oc,rfl,Bk,A,_,m3,.inr (.inr (.inl ⟨s.ns,D,E,H,I,K,Nat.le_succ _,Nat.succ_pos _,by show s.ns+1<=200;omega,⟨rfl,rfl,rfl,rfl,fun _ _=>rfl,fun i hi=>?_⟩⟩))⟩⟩;exact Al _ _ (by have hi:i<s.ns:=hi;omega)
  ·rw[g,hN,C3 hn,C3 hn];exact⟨DJ s.ns,0,vN,vT,B,o,e1 hn,d3,.inl ⟨rfl,rfl,Bk,A,m3⟩⟩
 ·refine⟨148,by rw[h];exact fun w=>og,fun args w=>og,fun w2 h2=>?_⟩;obtain⟨t,et,j,en⟩:=d (by simp[Eu,h]);obtain⟨i,L,hi,p⟩:=q (by simp[EG,h]);have g:Dg s a=AV s i t:=by unfold Dg;rw[C3 oa,C3 oa,C3 oa,DD h,en,p]
  have hN:F5 s a=E4 (if 0<=Bj s i t then(s.T t).V (Bj s i t).toNat else Cm s.F (s.T t) (BA (s.S i).key)):=by unfold F5;rw[C3 oa,C3 oa,C3 oa,C3 oa,C3 oa,DD h,en,p]
  rw[g,hN];exact aF Z c B0 vN vT vS _ Bk A s a t i w2 (b w2 h2) l (m w2 h2) et j L hi r
 ·refine⟨149,by rw[h];exact fun w=>og,fun args w=>og,fun w2 h2=>?_⟩;obtain⟨t,et,j,en⟩:=d (by simp[Eu,h]);obtain⟨i,L,hi,p⟩:=q (by simp[EG,h]);have g:Dg s a=if 0<=Bj s i t/\a.v.kind≠0 then BW (AV s i t) t (Eh (s.T t) (Bj s i t).toNat a.v)else CC (AV s i t) t (BA (s.S i).key) a.v:=by unfold Dg;rw[C3 oa,C3 oa,C3 oa,C3 oa,DD h,en,p]
  have hN:F5 s a=if 0<=Bj s i t/\a.v.kind≠0 then Bc 0 else Bc (Cv (AV s i t) t (BA (s.S i).key) a.v):=by unfold F5;rw[C3 oa,C3 oa,C3 oa,DD h,en,p]
  rw[g,hN];exact aG Z c B0 vN vT vS Bk A s a t i w2 (b w2 h2) l (m w2 h2) et j L hi M r
abbrev iV(ok:Bool)(va vF vT vS:V9):Value:=.agg #[.bool ok,va,vF,vT,vS]
def N0:AK:=⟨0,fun _=>default,0,fun _=>Kq,0,fun _=>default⟩
noncomputable def Q0(f:Nat->Ac)(n:Nat):AK:=if n<=1000 then Bz E0 f n else N0
def FI(n:Nat):Bool:=decide (n<=1000)
def L8(n:Nat):Nat:=if n<=1000 then n else 0
theorem gW(n:Nat):L8 n<=1000:=by unfold L8;split<;>omega
theorem cT(a:∀i,i<n->Wf (f i).k/\Wf (f i).v):TA (Q0 f n)/\(Q0 f n).nt<=100:=by
 unfold Q0
 split
 ·rename_i h
  have b:=JR JJ rfl a h (Be n);exact⟨KI.nS b,b.nt⟩
 ·exact⟨⟨⟨oc,fun i hi=>absurd hi (OR _)⟩,oc,fun hi=>absurd hi (OR _),fun hi=>absurd hi (OR _),oc⟩,oc⟩
theorem Tf{f:Nat->Tb}(h:∀i,i<n->tw (f i)<=14000000):∀k,k<=n->Iu f k<=k*14000000
 |0,_=>Re _
 |k+1,hk=>by
  have h1:=Tf h k oa;have h2:=h k oa;show Iu f k+tw (f k)<=_;omega
theorem TA.marks(h:TA s)(hn:s.nt<=100):XV s:=by
 refine⟨h.f.1,?_,h.n⟩;have:=Tf (f:=s.T) (n:=s.nt) (fun i hi=>by
  have h1:=h.nv hi;have h2:=h.MX hi;have:=h2.n;have:=h2.m;have:=h2.x;unfold tw dw;omega) s.nt (Be _)
 omega
structure iZ (w:Y) (B lo hi:Nat) (va vF vT vS:V9) (n:Nat) (g:Nat->An) (s:AK) (H:Nat->Hs):Prop where
 row:Mv w B va n g
 st:Pb lo hi w vF vT vS s H
 lt:∀k,va.ownBlock=some k->k<lo
 ge:B<=lo
 le:lo<=hi
 hi:hi<=w.heap.size
theorem iZ.keep{g:Nat->An}(h:iZ w B lo hi va vF vT vS n g s H)(hs:w.heap.size<=w'.heap.size)(hk:∀k,B<=k->k<hi->w'.heap[k]?=w.heap[k]?):iZ w' B lo hi va vF vT vS n g s H:=
 ⟨Ae h.row fun k e=>hk k (h.row.lt k e).1 (by have:=h.lt k e;have:=h.le;omega),h.st.keep fun q h1 h2 _=>hk q (oj h.ge) h2,h.lt,h.ge,h.le,GO h.hi hs⟩
theorem Pb.sat{a b:Option Addr}(h:Pb lo hi w (.slice a s.nf c) (.slice b s.nt tc) (.slice sa s.ns sc) s H):Z6 w a b sa s:=by
 obtain⟨a1,c1,e1,h1⟩:=h.f.at;obtain⟨a2,c2,e2,h2⟩:=h.t.at;obtain⟨a3,c3,e3,h3⟩:=h.si.at;cases e1;cases e2;cases e3;exact⟨h1,h2,h3⟩
theorem SM.sat{f:Nat}{b d:Option Addr}(h:SM w c B (.slice b s.nf f) (.slice d s.nt tc) (.slice sa s.ns sc) H s):Z6 w b d sa s:=by
 refine⟨?_,h.nU,?_⟩
 ·rcases W0 s.nf with e|e
  ·exact .inl e
  ·obtain⟨g,j,a,_,_,k⟩:=h.M0 e;cases a;exact k.at
 ·rcases W0 s.ns with e|e
  ·exact .inl e
  ·obtain⟨g,j,a,l,_,_,_⟩:=h.F1 e;cases a;refine .inr ⟨g,0,rfl,l,fun i hi=>?_⟩;obtain⟨g',m,hv',_,_,hc,_⟩:=h.F1 hi;cases hv';rw[Wx];exact⟨hc 0 _ rfl,hc 1 _ rfl,hc 2 _ rfl,hc 3 _ rfl,hc 4 _ rfl⟩
def MH(w:Y)(n:Nat)(f:Nat->Ac)(e:Ending)(w':Y):Prop:=
 ∃aa ac a b c tc sa sc H lo hi,e=.returned (iV (FI n) (.slice aa (L8 n) ac) (.slice a (Q0 f n).nf b) (.slice c (Q0 f n).nt tc) (.slice sa (Q0 f n).ns sc))/\iZ w' w.heap.size lo hi (.slice aa (L8 n) ac) (.slice a (Q0 f n).nf b) (.slice c (Q0 f n).nt tc) (.slice sa (Q0 f n).ns sc) (L8 n) (EA E0 f) (Q0 f n) H/\B9 w w'
def Qb(w:Y)(n:Nat)(f:Nat->Ac)(e:Ending)(w':Y):Prop:=
 ∃aa ac a c b tc sa sc,e=.returned (iV (FI n) (.slice aa (L8 n) ac) (.slice a (Q0 f n).nf c) (.slice b (Q0 f n).nt tc) (.slice sa (Q0 f n).ns sc))/\Oq 12 w' aa (L8 n) (fun i=>Ey (EA E0 f i))/\Z6 w' a b sa (Q0 f n)/\B9 w w'
theorem O2(b a n:Nat)(f:Nat->Ac)(w:Y)(hA:Tu w (S9 b n a) n f)(d:∀i,i<n->Wf (f i).k/\Wf (f i).v):C9 21 #[S9 b n a] w fun e w'=>Qb w n f e w':=by
 by_cases hn:n<=1000
 ·have e1:L8 n=n:=DD hn;have e2:Q0 f n=Bz E0 f n:=DD hn;have e3:FI n=true:=by simp[FI,hn]
  refine(Q6 _ n f w hA hn d).mono ?_;rintro e w' ⟨c,va,vF,vT,vS,H,g,h⟩;obtain⟨aa,ac,rfl⟩:=Ay h.row;obtain⟨j,l,rfl⟩:=Ay h.dm.f;obtain⟨m,tc,rfl⟩:=Ay h.dm.t;obtain⟨sa,sc,rfl⟩:=Ay h.dm.si;unfold Qb;rw[e1,e2,e3];exact⟨aa,ac,j,l,m,tc,sa,sc,g,Mv.rat h.row,h.dm.sat,h.below⟩
 ·have e1:L8 n=0:=C3 hn;have e2:Q0 f n=N0:=C3 hn;have e3:FI n=false:=by simp[FI];omega
  refine(O3 _ n a w oa).mono ?_;rintro e w' ⟨g,hb⟩;unfold Qb;rw[e1,e2,e3];exact⟨none,0,none,0,none,0,none,0,g,.inl rfl,⟨.inl rfl,.inl rfl,.inl rfl⟩,hb⟩
theorem Jb(b c n:Nat)(f:Nat->Ac)(w:Y)(hA:Tu w (S9 b n c) n f)(a:∀i,i<n->Wf (f i).k/\Wf (f i).v)(j:BH w)(l:Gg w):C9 23 #[S9 b n c] w fun e w'=>MH w n f e w':=by
 by_cases hn:n<=1000
 ·have e1:L8 n=n:=DD hn;have e2:Q0 f n=Bz E0 f n:=DD hn;have e3:FI n=true:=by simp[FI,hn]
  refine(QF _ n f w hA hn a j l (fun i _=>oP (f i))).mono ?_;rintro e w' ⟨va,vF,vT,vS,H,lo,d,h⟩;obtain⟨aa,ac,rfl⟩:=Ay h.row;obtain⟨m,o,p,tc,sa,sc,rfl,rfl,rfl⟩:=h.st.forms;unfold MH;rw[e1,e2,e3];have g:lo<=w'.heap.size:=by
   rcases h.st.f with⟨s,_⟩|⟨_,b,_,_,h2,h3,_⟩
   ·have r:=(JR JJ rfl a hn (Be n)).f;have:=(AB r).1.1;omega
   ·omega
  exact⟨aa,ac,m,o,p,tc,sa,sc,H,lo,w'.heap.size,d,⟨h.row,h.st,h.lt,h.ge,g,Be _⟩,h.below⟩
 ·have e1:L8 n=0:=C3 hn;have e2:Q0 f n=N0:=C3 hn;have e3:FI n=false:=by simp[FI];omega
  refine(OG _ n c w oa).mono ?_;rintro e w' ⟨d,hb⟩;unfold MH;rw[e1,e2,e3];exact⟨none,0,none,0,none,0,none,0,fun _=>KS,w.heap.size,w.heap.size,d,⟨IF _ _ _ _,⟨.inl ⟨rfl,rfl⟩,.inl ⟨rfl,rfl⟩,.inl ⟨rfl,rfl⟩,fun q e=>(by cases e),fun q e=>(by cases e),fun q i e=>(by cases e),fun q e=>(by cases e),fun q i e=>(by cases e)⟩,fun k e=>(by cases e),Be _,Be _,hb.size⟩,hb⟩
theorem Hu(ok:Bool)(aa k r c t d sa f:T9)(n ac q A l tc m sc o:Nat)(g:Nat->An)(s:AK)(w:Y)(hA:Oq 12 w aa n (fun i=>Ey (g i)))(u:Oq 12 w k n (fun i=>Ey (g i)))(h:Z6 w r t sa s)(h':Z6 w c d f s)(hn:n<=1000)(hs:TA s):
  C9 24 #[iV ok (.slice aa n ac) (.slice r s.nf A) (.slice t s.nt tc) (.slice sa s.ns sc),iV ok (.slice k n q) (.slice c s.nf l) (.slice d s.nt m) (.slice f s.ns o)] w (R9 (.bool true) w):=by
 obtain⟨W,j⟩:∃W,W=(w.alloc (.cells #[.bool ok,.slice aa n ac,.slice r s.nf A,.slice t s.nt tc,.slice sa s.ns sc] 62)).alloc (.cells #[.bool ok,.slice k n q,.slice c s.nf l,.slice d s.nt m,.slice f s.ns o] 62):=⟨_,rfl⟩;have b:B9 w W:=by rw[j];exact(n9).alloc od _
 obtain⟨x2,F,x4,H,I,K⟩:W.cell? (y w 2)=some (.slice r s.nf A)/\W.cell? (y w 3)=some (.slice t s.nt tc)/\W.cell? (y w 4)=some (.slice sa s.ns sc)/\W.cell? (Y9 w 2)=some (.slice c s.nf l)/\W.cell? (Y9 w 3)=some (.slice d s.nt m)/\W.cell? (Y9 w 4)=some (.slice f s.ns o):=by rw[j];simp[go_sem]
 have hz:w.heap.size+1<W.heap.size:=by rw[j];simp
 have B:=O (Qt aa k n ac q g W (hA.below b) (u.below b) oa);have L:=O (And.intro (h.below b) (h'.below b));have M:=O b;have C:=O hs;clear hA u h h' b hs
 go_enter func24,ntmps24
 go_wp2_with fail
 rw[<-j];clear j;refine B.mono ?_;rintro e w1 ⟨rfl,a⟩;have P:=a.size;have hl:w.heap.size<W.heap.size:=oa;have x2:=ol a hl x2;have F:=ol a hl F;have x4:=ol a hl x4;have H:=ol a hz H;have I:=ol a hz I;have K:=ol a hz K;have Q:w.heap.size<w1.heap.size:=oa;have z2:w.heap.size+1<w1.heap.size:=oa;have v:=O (oo M a);have D:=O (TM r c t d sa f A l tc m sc o s w1 (L.1.below a) (L.2.below a) C);clear a;go_wp2_with fail;refine D.mono ?_;rintro e w2 ⟨rfl,x⟩;have E:=O (oo v x);clear x;go_wp2;go_ret;exact⟨rfl,E⟩
theorem Nw(ok:Bool)(B lo hi n ac:Nat)(aa:T9)(j l sa:T9)(m tc sc:Nat)(g:Nat->An)(s:AK)(H:Nat->Hs)(w:Y)(h:iZ w B lo hi (.slice aa n ac) (.slice j s.nf m) (.slice l s.nt tc) (.slice sa s.ns sc) n g s H)(hn:n<=1000)(hs:XV s):
  C9 27 #[iV ok (.slice aa n ac) (.slice j s.nf m) (.slice l s.nt tc) (.slice sa s.ns sc),J 1] w fun e w'=>e=.returned (J (Hf s (1+12*n):Int))/\Oq 12 w' aa n (J7 1)/\Pb lo hi w' (.slice j s.nf m) (.slice l s.nt tc) (.slice sa s.ns sc) (Sz s (1+12*n)) H/\Ou B hi w w':=by
 obtain⟨W,u⟩:∃W,W=w.alloc (.cells #[.bool ok,.slice aa n ac,.slice j s.nf m,.slice l s.nt tc,.slice sa s.ns sc] 62):=⟨_,rfl⟩;have f:B9 w W:=by rw[u];exact(Cs _ _).alloc (Be _) _
 have o:W.heap[w.heap.size]?=some (.cells #[.bool ok,.slice aa n ac,.slice j s.nf m,.slice l s.nt tc,.slice sa s.ns sc] 62 (0,0)):=by rw[u];exact BE _ _
 have x:=h.keep (w':=W) f.size fun k _ hk=>f.block k (oj h.hi);have M:=O (Su aa B n ac 1 g W x.row oa oa);have P:=h.le;have Q:=h.ge;have R:=h.hi;have i:=O x;have v:=O f;have p:=O o;have A:=O hs;clear h x f o hs
 go_enter func27,ntmps27
 go_wp2_with fail
 rw[<-u];clear u;refine M.mono ?_;rintro e w1 ⟨rfl,r,c⟩;have C:w.heap.size<W.heap.size:=Ah p;have d:=(c.block w.heap.size C (fun e=>oj (i.lt _ e))).trans p;have x2:w1.cell? (y w 2)=some (.slice j s.nf m):=by rw[MM w1 _ 2 _ _ _ d];rfl
 have T:w1.cell? (y w 3)=some (.slice l s.nt tc):=by rw[MM w1 _ 3 _ _ _ d];rfl
 have x4:w1.cell? (y w 4)=some (.slice sa s.ns sc):=by rw[MM w1 _ 4 _ _ _ d];rfl
 have U:=Ah d;have L:=O (bX (i.st.keep (w':=w1) fun q h1 h2 h3=>c.block q h3 (fun e=>oj (i.lt q e))) A (1+12*n) oa oa);have D:=O r;have E:Hid (Ou B hi w w1):=O ⟨c.os.trans v.os,c.tape.trans v.tape,c.output.trans v.output,oa,fun k hk hn=>(c.block k oa (fun e=>by have h1:=i.lt k e;have h2:=(i.row.lt k e).1;omega)).trans (v.block k hk)⟩;clear r c d;rw[show((1+12*n:Nat):Int)=((1:Nat):Int)+12*(n:Int) by omega]at L;go_wp2_with fail;refine L.mono ?_;rintro e w2 ⟨⟨rfl,t⟩,a⟩;have F:=O t;have I:=O (D.keep a.size fun b e=>a.block b (by
  have:=i.lt b (by rw[e];rfl);omega) (.inl (i.lt b (by rw[e];rfl))))
 have K:Hid (Ou B hi w w2):=O (E.trans ⟨a.os,a.tape,a.output,a.size,fun k hk hn=>a.block k hk oa⟩);clear t a;obtain⟨Z,hz⟩:∃Z,Hf s (1+12*n)=Z:=⟨_,rfl⟩;rw[hz];have S:=O hz;clear hz;go_wp2;go_ret;exact⟨by rw[z S]<;>rfl,I,F,K⟩
theorem Ja(ok:Bool)(lo hi n ac:Nat)(aa:T9)(g h sa:T9)(i tc sc:Nat)(s:AK)(H:Nat->Hs)(w:Y)(hA:Oq 12 w aa n (J7 1))(m:Pb lo hi w (.slice g s.nf i) (.slice h s.nt tc) (.slice sa s.ns sc) (Sz s (1+12*n)) H)(hn:n<=1000)(hs:XV s)(t:hi<=w.heap.size):
  C9 28 #[iV ok (.slice aa n ac) (.slice g s.nf i) (.slice h s.nt tc) (.slice sa s.ns sc),J 1] w (R9 (J (Hf s (1+12*n):Int)) w):=by
 obtain⟨W,c⟩:∃W,W=w.alloc (.cells #[.bool ok,.slice aa n ac,.slice g s.nf i,.slice h s.nt tc,.slice sa s.ns sc] 62):=⟨_,rfl⟩;have b:B9 w W:=by rw[c];exact(Cs _ _).alloc (Be _) _
 obtain⟨x2,o,x4⟩:W.cell? (y w 2)=some (.slice g s.nf i)/\W.cell? (y w 3)=some (.slice h s.nt tc)/\W.cell? (y w 4)=some (.slice sa s.ns sc):=by rw[c];simp[go_sem]
 have hz:w.heap.size<W.heap.size:=by rw[c];simp
 have u:=O (T1 aa n ac 1 W (hA.below b) oa oa);have v:=O (m.below b t);have q:=O b;have j:=O hs;clear hA m b hs
 go_enter func28,ntmps28
 go_wp2_with fail
 rw[<-c];clear c;refine u.mono ?_;rintro e w1 ⟨rfl,a⟩;have x2:=ol a hz x2;have o:=ol a hz o;have x4:=ol a hz x4;have A:w.heap.size<w1.heap.size:=oj a.size;have r:=O (bH (k:=1+12*n) (v.below a oa) j oa oa);have d:=O (oo q a);have d0:decide (((1:Nat):Int)+12*(n:Int)<0)=false:=oe;have d1:decide ((1:Int)+12*(n:Int)<0)=false:=oe;clear a;rw[show((1+12*n:Nat):Int)=((1:Nat):Int)+12*(n:Int) by omega]at r;go_wp2_with fail;refine r.mono ?_;rintro e w2 ⟨rfl,f⟩;have l:=O (oo d f);clear f;have d2:decide ((Hf s (1+12*n):Int)<0)=false:=od;obtain⟨Z,hz⟩:∃Z,Hf s (1+12*n)=Z:=⟨_,rfl⟩;rw[hz]at d2;rw[hz];have x:=O hz;clear hz;go_wp2;go_ret;exact⟨by rw[z x]<;>rfl,l⟩
theorem Gk{g:Nat->Value}(h:w.rowIs b 51 (n*14) g)(a:∀j,j<n*14->g j=jD f j):∀i,i<n->∀j u,(U0 (f i))[j]?=some u->w.cell? (G b (i*14+j))=some u:=by
 intro i hi j u hu;have hj:j<14:=(It.1 hu).1;rw[h.cell (i:=i*14+j) oa,a _ oa,X0 f i j hj,hu];rfl
def Z5(w:Y)(p:Nat)(ok:Bool)(va vF vT vS:V9):Prop:=w.heap[p]?=some (.cells #[.bool ok,va,vF,vT,vS] 62 (0,0))
theorem Z5.all(h:Z5 w p ok va vF vT vS):p<w.heap.size/\w.cell? (G p 0)=some (.bool ok)/\w.cell? (G p 1)=some va/\w.cell? (G p 2)=some vF/\w.cell? (G p 3)=some vT/\w.cell? (G p 4)=some vS:=by
 unfold Z5 at h;refine⟨Ah h,?_,?_,?_,?_,?_⟩;all_goals(rw[MM w p _ _ _ _ h];rfl)
theorem Z5.below(h:Z5 w p ok va vF vT vS)(hb:Below B w w')(a:p<B):Z5 w' p ok va vF vT vS:=(hb.block p a).trans h
theorem YQ(a:T9)(n cap:Nat)(f:Nat->Ac)(w:Y)(hA:eQ w a n f)(hm:n<=maxLen)(q:∀i,i<n->Wf (f i).k/\Wf (f i).v)(hT:BH w)(hE:Gg w):
  C9 4 #[.slice a n cap] w (R9 (.bool true) w):=by
 have Q:=O hA;have HE:=O hE;have cg:=hE.lt;have hN:=gW n;obtain⟨bd,ch⟩:=cT q;have R:=O bd;have T:=O (bd.marks ch);have cj:=O hT;have bf:=O q;have ck:=O (UH a n cap f w hA hm (fun i hi=>⟨(q i hi).1.str,(q i hi).2.str⟩));obtain⟨S,bg⟩:∃S,Q0 f n=S:=⟨_,rfl⟩;rw[bg]at R T;have bh:=O bg;clear hA hE hm q hT bd ch bg
 go_enter func4,ntmps4
 go_wp2_with fail
 refine ck.mono ?_;rintro e w1 ⟨⟨r,rfl,hr⟩,cl⟩;have U:=O cl;clear cl ck;rcases hr with rfl|⟨dC,hn⟩
 ·go_wp2;go_ret;exact⟨rfl,U⟩
 have dr:decide (r<0)=false:=oe;go_wp2_with fail
 refine(G5 a n cap f _ (Q.below U) hn).mono ?_;rintro e w2 ⟨⟨rfl,g2,bj,cm⟩,cn⟩;have cp:=O (oo U cn);have cq:Hid (Tu w2 (S9 w1.heap.size n n) n f):=O ⟨_,_,rfl,bj.lt,Gk bj cm⟩;clear bj cm cn dr;go_wp2_with fail;refine(O2 w1.heap.size n n f _ cq bf).mono ?_;unfold Qb;rw[z bh];rintro e w3 ⟨ma,s,mf,t,mt,u,ms,x,rfl,cr,ct,cu⟩;have cv:=O (oo cp cu);have bk:=O (And.intro cr ct);clear cr ct cu cq;go_wp2_with fail;generalize bm:w3.alloc (.cells #[.bool (FI n),.slice ma (L8 n) s,.slice mf S.nf t,.slice mt S.nt u,.slice ms S.ns x] 62)=v3;have h:B9 w3 v3:=by rw[<-bm];exact(Cs _ _).alloc (Be _) _
 have V:Hid (Z5 v3 w3.heap.size (FI n) (.slice ma (L8 n) s) (.slice mf S.nf t) (.slice mt S.nt u) (.slice ms S.ns x)):=O (by rw[<-bm];exact BE _ _);have HS:=O (And.intro (bk.1.below h) (bk.2.below h));have A:=O (oo cv h);have bn:w3.heap.size<v3.heap.size:=Ah V;clear bm h bk;refine(G5 a n cap f _ (Q.below A) hn).mono ?_;rintro e w4 ⟨⟨rfl,g4,B,bp⟩,bq⟩;have cw:=O bq;have W:=O (oo A bq);have cx:Hid (Tu w4 (S9 v3.heap.size n n) n f):=O ⟨_,_,rfl,B.lt,Gk B bp⟩;have br:=O (And.intro B bp);have dt:v3.heap.size<w4.heap.size:=B.lt;clear B bp bq;go_wp2_with fail;refine(Jb v3.heap.size n n f _ cx bf (Bg _ _ cj W) (HE.below W cg)).mono ?_;unfold MH;rw[z bh];rintro e w5 ⟨aa,ac,X,fc,ta,tc,sa,sc,H,lo,hi,rfl,C,D⟩;have dU:=C.ge;have ea:=C.le;have eb:=C.hi;have cy:=O C;have bt:=O (cw.trans (D.mono oa));have bu:=O (oo W D);have bw:=O (And.intro (br.1.of_block (D.block _ dt)) br.2);have ec:w4.heap.size<=w5.heap.size:=D.size;clear C D cx br;obtain⟨y1,o0,o1,o2,o3,o4⟩:=(V.below bt bn).all;go_wp2_with fail;generalize bx:w5.alloc (.cells #[.bool (FI n),.slice aa (L8 n) ac,.slice X S.nf fc,.slice ta S.nt tc,.slice sa S.ns sc] 62)=v5;have g:B9 w5 v5:=by rw[<-bx];exact(Cs _ _).alloc (Be _) _
 have cz:Hid (Z5 v5 w5.heap.size (FI n) (.slice aa (L8 n) ac) (.slice X S.nf fc) (.slice ta S.nt tc) (.slice sa S.ns sc)):=O (by rw[<-bx];exact BE _ _);have HI:=O (cy.keep (w':=v5) g.size fun k _ hk=>g.block k oa);have HV:=O (bt.trans (g.mono oa));have cD:=O (oo bu g);have aM:=O (And.intro (bw.1.of_block (g.block _ oa)) bw.2);have du:w5.heap.size<v5.heap.size:=Ah cz;clear g cy bt bu bw cw bx y1 o0 o1 o2 o3 o4;refine m9 (Hu (FI n) aa ma X mf ta mt sa ms (L8 n) ac s fc t tc u sc x (EA E0 f) S _ (Mv.rat HI.row) (HS.1.below HV) HI.st.sat (HS.2.below HV) hN R) fun w6 bz=>?_;have cN:=O bz;have b0:=O (oo cD bz);clear bz;go_wp2_with fail;refine(G5 a n cap f _ (Q.below b0) hn).mono ?_;rintro e w7 ⟨⟨rfl,g7,b1,c0⟩,b2⟩;have b3:=O (oo cN b2);have c3:=O (oo b0 b2);have c4:Hid (Oq 14 w7 (some (G w6.heap.size 0)) n (fun i=>U0 (f i))):=O (.inr ⟨_,rfl,b1.lt,Gk b1 c0⟩);have E:=aM.1.of_block (b3.block _ oa);have c5:Hid (Oq 14 w7 (some (G v3.heap.size 0)) n (fun i=>U0 (f i))):=O (.inr ⟨_,rfl,E.lt,Gk E aM.2⟩);clear b1 c0 b2 E;go_wp2_with fail;refine m9 (Qs (some (G v3.heap.size 0)) (some (G w6.heap.size 0)) n n n f _ c5 c4 oa) fun w8 b4=>?_;have a6:=O (oo b3 b4);have dv:=O (oo c3 b4);have dw:=O (aM.1.of_block (a6.block _ oa));clear b4 c5 c4 aM;go_wp2_with fail;refine(YX v3.heap.size n n (n*14) 1 g4 _ dw (Be _) oa oa).mono ?_;rintro e w9 ⟨rfl,F⟩;have z8:=a6.size;have b5:∀k,k<v5.heap.size->k≠v3.heap.size->w9.heap[k]?=v5.heap[k]?:=fun k hk dx=>(F.block k oa dx).trans (a6.block k hk);have b6:Below v3.heap.size w8 w9:=F.below (Be _) oa;have a7:=O ((HV.trans (a6.mono oa)).trans b6);have c6:=O (dv.trans (b6.mono (oj A.size)));have a8:=O (HI.keep (w':=w9) (oj F.size) fun k h1 h2=>b5 k oa oa);have b7:Hid (Z5 w9 w5.heap.size (FI n) (.slice aa (L8 n) ac) (.slice X S.nf fc) (.slice ta S.nt tc) (.slice sa S.ns sc)):=O ((b5 _ du oa).trans cz);have z9:v5.heap.size<=w9.heap.size:=oj F.size;have dk:decide (((1:Nat):Int)+14*(n:Int)<0)=false:=oe;have ef:decide ((1:Int)+14*(n:Int)<0)=false:=oe;clear F b5 b6;obtain⟨y0,q0,q1,q2,q3,q4⟩:=b7.all;obtain⟨y1,o0,o1,o2,o3,o4⟩:=(V.below a7 bn).all;go_wp2_with fail;refine m9 (Hu (FI n) aa ma X mf ta mt sa ms (L8 n) ac s fc t tc u sc x (EA E0 f) S _ (Mv.rat a8.row) (HS.1.below a7) a8.st.sat (HS.2.below a7) hN R) fun bb d=>?_;have ca:=O (a7.trans (d.mono oa));have cb:=O (oo c6 d);have ad:=O (a8.keep (w':=bb) d.size fun k _ hk=>d.block k oa);have I:=O (b7.below d y0);have eh:w9.heap.size<=bb.heap.size:=d.size;clear d y0 q0 q1 q2 q3 q4 y1 o0 o1 o2 o3 o4 a8 b7;obtain⟨y0,q0,q1,q2,q3,q4⟩:=I.all;go_wp2_with fail;refine(Nw (FI n) w4.heap.size lo hi (L8 n) ac aa X ta sa fc tc sc (EA E0 f) S H _ ad hN T).mono ?_;rintro e b8 ⟨rfl,c7,c8,c⟩;have b9:Below v3.heap.size bb b8:=⟨c.os,c.tape,c.output,c.size,fun k hk=>c.block k oa oa⟩;have cc:=O (ca.trans b9);have ae:=O (cb.trans (b9.mono (oj A.size)));have af:Hid (Z5 b8 w5.heap.size (FI n) (.slice aa (L8 n) ac) (.slice X S.nf fc) (.slice ta S.nt tc) (.slice sa S.ns sc)):=O ((c.block _ y0 (.inr oa)).trans I);have bc:=O (And.intro c7 c8);have ei:bb.heap.size<=b8.heap.size:=c.size;clear c7 c8 c b9 y0 q0 q1 q2 q3 q4 ad I;obtain⟨Z,hz⟩:∃Z,Hf S (1+12*L8 n)=Z:=⟨_,rfl⟩;have HZ:=O hz;rw[hz];clear hz;have dz:decide ((Z:Int)<0)=false:=od;obtain⟨y0,q0,q1,q2,q3,q4⟩:=af.all;go_wp2_with fail;refine(Ja (FI n) lo hi (L8 n) ac aa X ta sa fc tc sc S H _ bc.1 bc.2 hN T oa).mono ?_;rw[z HZ];rintro e c9 ⟨rfl,j⟩;have ag:=O j;have ah:=O (cc.trans (j.mono oa));have K:=O (oo ae j);clear j y0 q0 q1 q2 q3 q4;go_wp2_with fail;refine(G5 a n cap f _ (Q.below K) hn).mono ?_;rintro e dy ⟨⟨rfl,g13,L,ai⟩,l⟩;have aj:=O (oo ag l);have ak:=O (oo ah l);have m:=O (oo K l);have ao:Hid (Tu dy (S9 c9.heap.size n n) n f):=O ⟨_,_,rfl,L.lt,Gk L ai⟩;clear L ai l;go_wp2_with fail;refine(Jb c9.heap.size n n f _ ao bf (Bg _ _ cj m) (HE.below m cg)).mono ?_;unfold MH;rw[z bh];rintro e da ⟨dc,dd,df,dh,lU,di,dj,dm,H2,ej,ek,rfl,aq,o⟩;have ar:=O aq;have au:=O (oo aj o);have M:=O (oo ak o);have av:=O (oo m o);clear aq o ao;obtain⟨y1,o0,o1,o2,o3,o4⟩:=(V.below M bn).all;go_wp2_with fail;generalize aw:da.alloc (.cells #[.bool (FI n),.slice dc (L8 n) dd,.slice df S.nf dh,.slice lU S.nt di,.slice dj S.ns dm] 62)=dn;have b:B9 da dn:=by rw[<-aw];exact(Cs _ _).alloc (Be _) _
 have HI:=O (ar.keep (w':=dn) b.size fun k _ hk=>b.block k (oj ar.hi));have dp:=O (oo au b);have dq:=O (oo M b);have ax:=O (oo av b);clear b aw y1 o0 o1 o2 o3 o4;refine m9 (Hu (FI n) dc ma df mf lU mt dj ms (L8 n) dd s dh t di u dm x (EA E0 f) S _ (Mv.rat HI.row) (HS.1.below dq) HI.st.sat (HS.2.below dq) hN R) fun eo P=>?_;have p:=O (oo dp P);have ay:=O (oo ax P);clear P;obtain⟨y0,q0,q1,q2,q3,q4⟩:=(af.below p oa).all;go_wp2_with fail;refine(Ja (FI n) lo hi (L8 n) ac aa X ta sa fc tc sc S H _ (bc.1.below p) (bc.2.below p oa) hN T (oj p.size)).mono ?_;rw[z HZ];rintro e ep ⟨rfl,az⟩;have cd:=O (oo ay az);clear az y0 q0 q1 q2 q3 q4;go_wp2_with fail;go_ret;exact⟨rfl,cd⟩
end Go.Proofs.YtgmlkfgfjjggnaaGreatDoor
