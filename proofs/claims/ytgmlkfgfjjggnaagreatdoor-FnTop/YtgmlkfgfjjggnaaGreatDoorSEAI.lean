import Derived.Test.YtgmlkfgfjjggnaaGreatDoorSEAH
import Derived.Test.YtgmlkfgfjjggnaaGreatDoorSEAE
set_option linter.all false
set_option maxHeartbeats 40000000
set_option maxRecDepth 100000
namespace Go.Proofs.YtgmlkfgfjjggnaaGreatDoor
open Go.Proofs.Tryz
open Go.RowKit
attribute [local go_sem] AA Aw Cl
section
def RB(v:Vl):Prop:=v.str.size<=4000/\aO v.Ae
def Wh(a:Ac):Prop:=RB a.k/\RB a.v
theorem Bb:RB nov:=⟨P9 _,by decide,by decide⟩
theorem DN(n:Int):RB ⟨2,n,0,⟨#[]⟩,0⟩:=⟨P9 _,by show(0:Nat)<_;decide,by show(0:Nat)≠_;decide⟩
theorem Ub(b Z:Nat)(w:Y)(h:Cu b Z w)(hN:Z<=1099511620000):
  C9 134 #[Q9 b] w fun e w'=>(∃v:Vl,e=.returned (FQ v)/\RB v)/\Cu b (Z+4) w'/\Gr b w w':=by
 have f:=h.lt;have n0:¬w.heap.size=b:=by omega
 have r:=O (Gr.Ay (b:=b) ((DD w.heap.size w).alloc (A0 _) (.cells #[J 0,J 0,F9 0,E9,J 0] 43)));have H:=O (h.below ((DD w.heap.size w).alloc (A0 _) (.cells #[J 0,J 0,F9 0,E9,J 0] 43)) f);clear h
 go_enter func134,ntmps134
 go_wp2_with fail
 refine(Ax b Z 4 _ H (by omega) (by omega) (by omega)).mono ?_;rintro e w1 ⟨⟨x,rfl,C,D⟩,g,a⟩;have s:=a.size;simp at s;have i:=O g;have j:=O (r.trans a.gr);have rc:∀o,w1.cell? (y w o)=(w.alloc (.cells #[J 0,J 0,F9 0,E9,J 0] 43)).cell? (y w o):=fun o=>a.cell _ _ n0
 have rf:∀o,w1.frozen? (y w o)=(w.alloc (.cells #[J 0,J 0,F9 0,E9,J 0] 43)).frozen? (y w o):=fun o=>a.frozen _ _ n0
 clear g a;by_cases x0:x=0
 ·subst x0;go_wp2_with fail
  have k:=A5 (DD w.heap.size w1) w.heap.size (A0 _) (J 0) (J 0) (F9 0) (E9) (J 0);exact DO (v:=FQ nov) (by simp[results,results134,go_sem,rc,nov]) rfl ⟨⟨nov,rfl,Bb⟩,(i.mono (by omega)).below k f,j.AR k (A0 _)⟩
 ·have b0:(x==0)=false:=by simp[x0]
  go_wp2_with fail
  refine(Ax b (Z+2) 90 _ i (by omega) (by omega) (by omega)).mono ?_;rintro e w2 ⟨⟨X,rfl,E,F⟩,l,c⟩;have I:=c.size;have m:∀o,w2.cell? (y w o)=(w.alloc (.cells #[J 0,J 0,F9 0,E9,J 0] 43)).cell? (y w o):=fun o=>(c.cell _ _ n0).trans (rc o)
  have n:∀o,w2.frozen? (y w o)=(w.alloc (.cells #[J 0,J 0,F9 0,E9,J 0] 43)).frozen? (y w o):=fun o=>(c.frozen _ _ n0).trans (rf o)
  have q:=O l;have t:=O (j.trans c.gr);clear l c rc rf;go_wp2_with fail
  refine m9 (Bv X _) fun w3 d=>?_
  have hl:w.heap.size<w2.heap.size:=by omega
  have u:∀o,w3.cell? (y w o)=(w.alloc (.cells #[J 0,J 0,F9 0,E9,J 0] 43)).cell? (y w o):=fun o=>(d.cell (p:=(y w o)) hl).trans (m o)
  have K:∀o,w3.frozen? (y w o)=(w.alloc (.cells #[J 0,J 0,F9 0,E9,J 0] 43)).frozen? (y w o):=fun o=>(d.frozen (p:=(y w o)) hl).trans (n o)
  have A:=O (q.below d q.lt);have B:=O (t.trans (Gr.Ay d));clear d m n;go_wp2_with fail
  have k:=A5 (DD w.heap.size w3) w.heap.size (A0 _) (J 2) (J X) (F9 0) (E9) (J 0);exact DO (v:=FQ ⟨2,X,0,⟨#[]⟩,0⟩) (by simp[results,results134,go_sem,u]) rfl ⟨⟨⟨2,X,0,⟨#[]⟩,0⟩,rfl,DN X⟩,A.below k f,B.AR k (A0 _)⟩
def gY:Ac:=⟨0,0,0,0,nov,nov⟩
theorem Yh(w:Y):(sizeOf 51).run prog w=.ok 14 w:=by kernel_rfl
theorem PO{w:Y}{b:Nat}{o:Ac}(h:w.heap[b]?=some (.cells (Bn o) 51 (0,0)))(a:Ac):∃w',(Instr.storeAt 51 (Q9 b) (IC a)).run prog w=.ok () w'/\Bt w w' b (Bn a) 51:=
 BD (old:=(Bn o).toList) (vs:=(Bn a).toList) Yh h rfl rfl (O7 a) rfl
structure LY (b ab rb M:Nat) (w W:Y) (a:Ac):Prop where
 cu:Cu b M W
 gr:Gr b w W
 VS:W.heap[ab]?=some (.cells (Bn a) 51 (0,0))
 gB:W.heap[rb]?=some (.cells (Bn gY) 51 (0,0))
 wf:Wh a
section
variable {b ab rb M M':Nat} {w W W':Y} {a a':Ac}
theorem LY.next(h:LY b ab rb M w W a)(hc:Cu b M' W')(hg:Gr b W W')(h1:ab≠b)(h2:rb≠b):LY b ab rb M' w W' a:=
 ⟨hc,h.gr.trans hg,(hg.block ab h1 (Aj h.VS)).trans h.VS,(hg.block rb h2 (Aj h.gB)).trans h.gB,h.wf⟩
theorem LY.mono(h:LY b ab rb M w W a)(c:M<=M'):LY b ab rb M' w W a:=⟨h.cu.mono c,h.gr,h.VS,h.gB,h.wf⟩
theorem LY.cell(h:LY b ab rb M w W a)(j:Nat)(u:V9)(hu:(Bn a).toList[j]?=some u):W.cell? (G ab j)=some u:=by
 rw[NB W ab j _ _ _ h.VS];simpa using hu
theorem LY.fz(h:LY b ab rb M w W a)(j:Nat):W.frozen? (G ab j)=false:=by simp[World.frozen?,h.VS]
theorem LY.set(h:LY b ab rb M w W a)(e:w.heap.size<=ab)(c:ab≠rb)(hb:b<ab)(h1:W'.heap[ab]?=some (.cells (Bn a') 51 (0,0)))(h2:∀k,k≠ab->W'.heap[k]?=W.heap[k]?)(h3:W'.heap.size=W.heap.size/\W'.os=W.os/\W'.tape=W.tape/\W'.output=W.output)(d:Wh a'):LY b ab rb M w W' a':=
 ⟨h.cu.below (B:=ab) ⟨h3.2.1,h3.2.2.1,h3.2.2.2,by rw[h3.1];exact A0 _,fun k hk=>h2 k (by omega)⟩ hb,⟨h3.2.1.trans h.gr.os,h3.2.2.1.trans h.gr.tape,h3.2.2.2.trans h.gr.output,by rw[h3.1];exact h.gr.size,fun k hk hl=>(h2 k (by omega)).trans (h.gr.block k hk hl)⟩,h1,(h2 rb c.symm).trans h.gB,d⟩
theorem LY.put(h:LY b ab rb M w W a)(c:w.heap.size<=ab)(d:ab≠rb)(hb:b<ab)(hs:Bt W W' ab (Bn a') 51)(e:Wh a'):LY b ab rb M w W' a':=h.set c d hb hs.BR (fun k hk=>hs.other k hk) ⟨hs.size,hs.os,hs.tape,hs.output⟩ e
end
theorem Mk{W:Y}{ab q:Nat}{cs:Array Value}{ty:TypeId}(h:W.heap[ab]?=some (.cells cs ty (0,0)))(v0 v1 v2 v3 v4:V9):(((((W.setCell (G ab q) v0).setCell (G ab (q+1)) v1).setCell (G ab (q+2)) v2).setCell (G ab (q+3)) v3).setCell (G ab (q+4)) v4).heap[ab]?=some (.cells (((((cs.setIfInBounds q v0).setIfInBounds (q+1) v1).setIfInBounds (q+2) v2).setIfInBounds (q+3) v3).setIfInBounds (q+4) v4) ty (0,0)):=by
 simp[World.setCell,Array.getElem?_modify,h]
theorem ZO(w:Y)(a:Ac):(Instr.storeAt 51 (Q9 w.heap.size) (IC a)).run prog (w.alloc (.cells (Bn gY) 51))=.ok () (w.alloc (.cells (Bn a) 51)):=by
 have h:=Dm (P:=prog) w 51 (Bn a).toList [] (Bn gY).toList rfl (O7 a);have hs:=Yh;unfold Instr.storeAt storeVar;simp only[So,UP]at h;have hc:(IC a).cells.toList=(Bn a).toList:=rfl;have hn:(IC a).cells.size=14:=rfl;simp only[AaA];have b:∀w',(Instr.sureAddr (Q9 w.heap.size)).run prog w'=.ok (y w 0) w':=fun w'=>by simp[go_sem]
 simp[b,hs,hc,hn];exact h
theorem Zt(b Z:Nat)(w:Y)(h:Cu b Z w)(hN:Z<=1099511500000):
  C9 78 #[Q9 b] w fun e w'=>(∃a:Ac,e=.returned (IC a)/\Wh a)/\Cu b (Z+100) w'/\Gr b w w':=by
 have A:=h.lt;have n0:¬w.heap.size=b:=by omega
 obtain⟨B,g⟩:∃B,B=w.alloc (.cells #[J 0,J 0,J 0,J 0,J 0,J 0,F9 0,E9,J 0,J 0,J 0,F9 0,E9,J 0] 51):=⟨_,rfl⟩;have o:Below w.heap.size w B:=by rw[g];exact(DD _ _).alloc (A0 _) _
 have C:B.heap[w.heap.size]?=some (.cells (Bn gY) 51 (0,0)):=by rw[g];exact BE _ _
 have ad:B.heap.size=w.heap.size+1:=by rw[g];simp
 have H:=O (h.below o A);have D:=O (Gr.Ay (b:=b) o);have E:=O C;clear h C o
 go_enter func78,ntmps78
 go_upto_region 1 with fail
 rw[<-g];clear g;go_wp2_with fail
 refine(Ax b Z 11 _ H (by omega) (by omega) (by omega)).mono ?_;rintro e w1 ⟨⟨x1,rfl,_,_⟩,F,I⟩;have ae:=O F;have af:=O I;clear F I;go_wp2_with fail
 refine(Ax b (Z+2) 8 _ ae (by omega) (by omega) (by omega)).mono ?_;rintro e w2 ⟨⟨x2,rfl,_,_⟩,K,L⟩;have ag:=O K;have ah:=O (af.trans L);clear K L;go_wp2_with fail
 refine(Ax b (Z+4) 6 _ ag (by omega) (by omega) (by omega)).mono ?_;rintro e w3 ⟨⟨T,rfl,_,_⟩,M,P⟩;have ai:=O M;have aj:=O (ah.trans P);clear M P;go_wp2_with fail
 refine(Ax b (Z+6) 4 _ ai (by omega) (by omega) (by omega)).mono ?_;rintro e w4 ⟨⟨x4,rfl,_,_⟩,Q,R⟩;have p:=O Q;have n:=O (aj.trans R);clear Q R;go_upto_region 2 with(refine Ak rfl rfl _ (ZO w4 ⟨x1,x2,T,x4,nov,nov⟩) ?_)
 generalize r:w4.alloc (.cells (Bn ⟨x1,x2,T,x4,nov,nov⟩) 51)=S;have ak:w.heap.size+1<=w4.heap.size:=by rw[(z n).size];omega
 have d:LY b w4.heap.size w.heap.size (Z+8) w S ⟨x1,x2,T,x4,nov,nov⟩:=by
  have t:Below w4.heap.size w4 S:=by rw[<-r];exact(DD _ _).alloc (A0 _) _
  refine⟨p.below t p.lt,(D.trans n.gr).trans (Gr.Ay t),by rw[<-r];exact BE _ _,?_,Bb,Bb⟩;exact(t.block _ (by omega)).trans ((n.block _ n0).trans E)
 generalize (⟨x1,x2,T,x4,nov,nov⟩:Ac)=a0 at d;generalize w4.heap.size=ab at d ak ⊢;have c:=O d;clear d r p n D E;go_wp2_with fail
 refine(Ax b (Z+8) 2 _ c.cu (by omega) (by omega) (by omega)).mono ?_;rintro e U1 ⟨⟨x,rfl,_,_⟩,hc,hs⟩;have c:=O (c.next hc hs.gr (by omega) (by omega));clear hc hs
 go_upto_if 15 with fail
 go_cut [15] (fun _ u=>∃a1:Ac,LY b ab w.heap.size (Z+8+22) w u a1)
 case first=>
  by_cases hx:x=0
  ·subst hx;go_wp2_with fail
   refine(Ti b (Z+8+2) _ c.cu (by omega)).mono ?_;rintro e V1 ⟨⟨kind,num,Ae,s,ref,rfl,i,hf⟩,hc,hg⟩;have c:=O (c.next hc hg (by omega) (by omega));clear hc hg;have c4:=c.cell 4 _ rfl;have c5:=c.cell 5 _ rfl;have c6:=c.cell 6 _ rfl;have c7:=c.cell 7 _ rfl;have c8:=c.cell 8 _ rfl;have lb:=Aj c.VS;have fz:=c.fz;obtain⟨W1,j⟩:∃W,W=(((((V1.setCell (G ab 4) (J kind)).setCell (G ab 5) (J num)).setCell (G ab 6) (F9 Ae)).setCell (G ab 7) (.string s)).setCell (G ab 8) (J ref)):=⟨_,rfl⟩;have d:LY b ab w.heap.size (Z+8+22) w W1 {a0 with k:=⟨kind,num,Ae,s,ref⟩}:=by
    refine(c.set (by omega) (by omega) (by omega) ?_ ?_ ?_ ?_).mono (by omega)
    ·rw[j];exact Mk (q:=4) c.VS _ _ _ _ _
    ·intro k hk;rw[j];iterate 5 rw[At _ _ _ _ (by exact hk)]
    ·rw[j];exact⟨by simp,rfl,rfl,rfl⟩
    ·exact⟨⟨i,hf⟩,c.wf.2⟩
   have HW:=O j;have c:=O d;clear j d;go_wp2_with fail
   rw[<-z HW]
   go_meet
   case rel=>exact⟨_,c⟩
  ·have b0:(x==0)=false:=by simp[hx]
   go_wp2_with fail
   go_meet
   case rel=>exact⟨_,c.mono (by omega)⟩
 obtain⟨a1,d⟩:=hcut;have c:=O d;clear d;go_wp2_with fail
 refine(Ax b (Z+30) 2 _ c.cu (by omega) (by omega) (by omega)).mono ?_;rintro e U2 ⟨⟨x,rfl,_,_⟩,hc,hs⟩;have c:=O (c.next hc hs.gr (by omega) (by omega));clear hc hs
 go_upto_if 21 with fail
 go_cut [21] (fun _ u=>∃a2:Ac,LY b ab w.heap.size (Z+30+22) w u a2)
 case first=>
  by_cases hx:x=0
  ·subst hx;go_wp2_with fail
   refine(Ti b (Z+30+2) _ c.cu (by omega)).mono ?_;rintro e V2 ⟨⟨kind,num,Ae,s,ref,rfl,i,hf⟩,hc,hg⟩;have c:=O (c.next hc hg (by omega) (by omega));clear hc hg;have c9:=c.cell 9 _ rfl;have az:=c.cell 10 _ rfl;have RG:=c.cell 11 _ rfl;have aM:=c.cell 12 _ rfl;have a6:=c.cell 13 _ rfl;have lb:=Aj c.VS;have fz:=c.fz;obtain⟨W2,j⟩:∃W,W=(((((V2.setCell (G ab 9) (J kind)).setCell (G ab 10) (J num)).setCell (G ab 11) (F9 Ae)).setCell (G ab 12) (.string s)).setCell (G ab 13) (J ref)):=⟨_,rfl⟩;have d:LY b ab w.heap.size (Z+30+22) w W2 {a1 with v:=⟨kind,num,Ae,s,ref⟩}:=by
    refine(c.set (by omega) (by omega) (by omega) ?_ ?_ ?_ ?_).mono (by omega)
    ·rw[j];exact Mk (q:=9) c.VS _ _ _ _ _
    ·intro k hk;rw[j];iterate 5 rw[At _ _ _ _ (by exact hk)]
    ·rw[j];exact⟨by simp,rfl,rfl,rfl⟩
    ·exact⟨c.wf.1,i,hf⟩
   have HW:=O j;have c:=O d;clear j d;go_wp2_with fail
   rw[<-z HW]
   go_meet
   case rel=>exact⟨_,c⟩
  ·have b0:(x==0)=false:=by simp[hx]
   go_wp2_with fail
   go_meet
   case rel=>exact⟨_,c.mono (by omega)⟩
 obtain⟨a2,d⟩:=hcut;have c:=O d;clear d;go_wp2_with fail
 refine(Ax b (Z+52) 3 _ c.cu (by omega) (by omega) (by omega)).mono ?_;rintro e U3 ⟨⟨x,rfl,_,_⟩,hc,hs⟩;have c:=O (c.next hc hs.gr (by omega) (by omega));clear hc hs
 go_upto_if 27 with fail
 go_cut [27] (fun _ u=>∃a3:Ac,LY b ab w.heap.size (Z+70) w u a3)
 case first=>
  by_cases hx:x=0
  ·subst hx;go_wp2_with fail
   refine(Ax b (Z+54) 5 _ c.cu (by omega) (by omega) (by omega)).mono ?_;rintro e V ⟨⟨X,rfl,ao,aq⟩,hc,hs⟩;have c:=O (c.next hc hs.gr (by omega) (by omega));clear hc hs;go_wp2_with fail
   refine(Ax b (Z+56) 102 _ c.cu (by omega) (by omega) (by omega)).mono ?_;rintro e V ⟨⟨U,rfl,ad,a7⟩,hc,hs⟩;have c:=O (c.next hc hs.gr (by omega) (by omega));clear hc hs;go_wp2_with fail
   refine(Pt b (Z+58) _ c.cu (by omega)).mono ?_;rintro e V3 ⟨⟨kind,num,Ae,s,ref,rfl,i,hf⟩,hc,hg⟩;have c:=O (c.next hc hg (by omega) (by omega));clear hc hg;obtain⟨W3,f,m⟩:=PO c.VS ⟨2+X,U,0,0,⟨kind,num,Ae,s,ref⟩,nov⟩;have c:=O ((c.put (by omega) (by omega) (by omega) m ⟨⟨i,hf⟩,Bb⟩).mono (M':=Z+70) (by omega));have l:=O f;clear f m;go_wp2_with (refine Ak rfl rfl _ l ?_)
   go_meet
   case rel=>exact⟨_,c⟩
  ·have b0:(x==0)=false:=by simp[hx]
   go_wp2_with fail
   go_meet
   case rel=>exact⟨_,c.mono (by omega)⟩
 obtain⟨a3,d⟩:=hcut;have c:=O d;clear d;go_wp2_with fail
 refine(Ax b (Z+70) 12 _ c.cu (by omega) (by omega) (by omega)).mono ?_;rintro e U4 ⟨⟨x,rfl,_,_⟩,hc,hs⟩;have c:=O (c.next hc hs.gr (by omega) (by omega));clear hc hs
 go_upto_if 38 with fail
 go_cut [38] (fun _ u=>∃a4:Ac,LY b ab w.heap.size (Z+74) w u a4)
 case first=>
  by_cases hx:x=0
  ·subst hx;go_wp2_with fail
   refine(Ax b (Z+72) 2 _ c.cu (by omega) (by omega) (by omega)).mono ?_;rintro e V ⟨⟨X,rfl,ao,aq⟩,hc,hs⟩;have c:=O (c.next hc hs.gr (by omega) (by omega));clear hc hs;obtain⟨W4,f,m⟩:=PO c.VS ⟨1+6*X,0,0,0,nov,nov⟩;have c:=O ((c.put (by omega) (by omega) (by omega) m ⟨Bb,Bb⟩).mono (M':=Z+74) (by omega));have l:=O f;clear f m;go_wp2_with (refine Ak rfl rfl _ l ?_)
   go_meet
   case rel=>exact⟨_,c⟩
  ·have b0:(x==0)=false:=by simp[hx]
   go_wp2_with fail
   go_meet
   case rel=>exact⟨_,c.mono (by omega)⟩
 obtain⟨a4,d⟩:=hcut;have c:=O d;clear d;have d:=z c;clear c;obtain⟨W5,f,m⟩:=PO d.gB a4;have r0:=Aa (vs:=(Bn a4).toList) m;have ar:Hid ((∃a:Ac,Ending.returned (IC a4)=.returned (IC a)/\Wh a)/\Cu b (Z+100) W5/\Gr b w W5):=O ⟨⟨a4,rfl,d.wf⟩,(d.cu.mono (by omega)).below (m.below (DD w.heap.size wc) (A0 _)) A,d.gr.AR (m.below (DD w.heap.size wc) (A0 _)) (A0 _)⟩;have l:=O f;have au:=O d.VS;have q0:=r0 0 _ rfl;have q1:=r0 1 _ rfl;have q2:=r0 2 _ rfl;have q3:=r0 3 _ rfl;have q4:=r0 4 _ rfl;have q5:=r0 5 _ rfl;have q6:=r0 6 _ rfl;have q7:=r0 7 _ rfl;have q8:=r0 8 _ rfl;have q9:=r0 9 _ rfl;have av:=r0 10 _ rfl;have aw:=r0 11 _ rfl;have ax:=r0 12 _ rfl;have ay:=r0 13 _ rfl;clear f m d r0;go_wp2_with (first|(refine Aan rfl 51 _ rfl ab rfl _ _ _ _ au underlying51 rfl (by kernel_rfl) ?_)|(refine Ak rfl rfl _ l ?_))
 refine DO (v:=IC a4) (by simp[results,results78,go_sem,q0,q1,q2,q3,q4,q5,q6,q7,q8,q9,av,aw,ax,ay]) rfl ar
end
section
structure AG (b M:Nat) (w:Y) (L:List Ac) (v:V9) (W:Y):Prop where
 cu:Cu b M W
 gr:Gr b w W
 own:W.ownsRow w.heap.size 51 14 v L.length (L9 L)
 wf:∀a∈L,Wh a
 lt:b<w.heap.size
section
variable {b M M':Nat} {w W W':Y} {L:List Ac} {v:V9}
theorem AG.next(h:AG b M w L v W)(hc:Cu b M' W')(hg:Gr b W W'):AG b M' w L v W':=
 ⟨hc,h.gr.trans hg,Ai h.own fun q e=>hg.block q (by have:=(h.own.lt q e).1;have:=h.lt;omega) (h.own.lt q e).2,h.wf,h.lt⟩
theorem AG.mono(h:AG b M w L v W)(a:M<=M'):AG b M' w L v W:=⟨h.cu.mono a,h.gr,h.own,h.wf,h.lt⟩
theorem AG.below(h:AG b M w L v W)(hb:B9 W W'):AG b M w L v W':=h.next (h.cu.below hb h.cu.lt) (Gr.Ay hb)
theorem AG.slice(h:AG b M w L v W){K:Nat}(hK:L.length=K):∃a c,v=.slice a K c:=by
 subst hK;exact Ao h.own
theorem append_actsG(A:List Ac){m:Nat}{ops:Array Oper}{rest:List Oper}{o:Oper}{a:Act}{Q:Exit->Act->World->Prop}(g:o.guard=none)(s x:Operand)
  (B:o.op=.call {callee:=.builtin .append,args:=#[s,x],argTypes:=#[64,64]}) (hA:AG b M w L v W) (hs:a.eval s=v) (hx:a.eval x=S9 W.heap.size m m) (r:A.length=m) (i:0<m) (hl:L.length+m<=2000) (C:∀a∈A,Wh a)
  (h:∀v' w',AG b M w (L++A) v' w'->wpList prog ops Q rest (a.put o.dst v') w'):wpList prog ops Q (o::rest) a (W.alloc (.cells (L9 A).toArray 51)):=by
 obtain⟨i0,j,l,n,p⟩:=Tn Xa;refine Aah _ g s x 64 B w.heap.size 51 i0 dS 14 128 underlying64 j l n p rfl (by decide) v L.length (L9 L) hs (IH hA.own _) (y W 0) m m (L9 A) hx (by rw[Mb,r]) (GP (BE W _)) (Tc _) i (by unfold maxLen;omega) (by omega) (by have:=hA.gr.size;simp;omega) _ rfl ?_;intro g3 D E d c q t;have f:=hA.below ((DD _ _).alloc (A0 _) (.cells (L9 A).toArray 51));have hz:=f.gr.size;have u:Below w.heap.size (W.alloc (.cells (L9 A).toArray 51)) E:=⟨c.os,c.tape,c.output,c.size,fun k hk=>c.block k (by omega) (fun e=>by have:=(f.own.lt k e.symm).1;omega)⟩;have hn:L.length+m=(L++A).length:=by simp[r]
 refine h _ _ ⟨f.cu.below u hA.lt,f.gr.AR u (A0 _),?_,fun a F=>(AaM.1 F).elim (hA.wf a) (C a),hA.lt⟩;rw[<-Ma]at d;rw[<-hn];exact d
end
theorem AG.start{b M:Nat}{w:Y}(h:Cu b M w):AG b M w [] (N9) w:=⟨h,⟨rfl,rfl,rfl,A0 _,fun _ _ _=>rfl⟩,ON _ _ _ _,fun _ h=>(by cases h),h.lt⟩
structure AK (b M:Nat) (w:Y) (L:List Ac) (v:V9) (kb:Nat) (k:Vl) (W:Y):Prop where
 ag:AG b M w L v W
 TK:W.heap[kb]?=some (.cells #[J k.kind,J k.num,F9 k.Ae,.string k.str,J k.ref] 43 (0,0))
 cJ:RB k
 dO:w.heap.size<=kb
section
variable {b M M' kb:Nat} {w W W':Y} {L:List Ac} {v:V9} {k k':Vl}
theorem AK.next(h:AK b M w L v kb k W)(hc:Cu b M' W')(hg:Gr b W W'):AK b M' w L v kb k W':=
 ⟨h.ag.next hc hg,(hg.block kb (by have:=h.dO;have:=h.ag.lt;omega) (Aj h.TK)).trans h.TK,h.cJ,h.dO⟩
theorem AK.mono(h:AK b M w L v kb k W)(a:M<=M'):AK b M' w L v kb k W:=⟨h.ag.mono a,h.TK,h.cJ,h.dO⟩
theorem AK.below(h:AK b M w L v kb k W)(hb:B9 W W'):AK b M w L v kb k W':=h.next (h.ag.cu.below hb h.ag.cu.lt) (Gr.Ay hb)
theorem AK.cells(h:AK b M w L v kb k W):W.cell? (G kb 0)=some (J k.kind)/\W.cell? (G kb 1)=some (J k.num)/\W.cell? (G kb 2)=some (F9 k.Ae)/\W.cell? (G kb 3)=some (.string k.str)/\W.cell? (G kb 4)=some (J k.ref)/\(∀j,W.frozen? (G kb j)=false)/\kb<W.heap.size:=by
 exact⟨by simp[World.cell?,h.TK],by simp[World.cell?,h.TK],by simp[World.cell?,h.TK],by simp[World.cell?,h.TK],by simp[World.cell?,h.TK],fun j=>by simp[World.frozen?,h.TK],Aj h.TK⟩
theorem AG.key(h:AG b M w L v W)(a:RB k):AK b M w L v W.heap.size k (W.alloc (.cells #[J k.kind,J k.num,F9 k.Ae,.string k.str,J k.ref] 43)):=
 ⟨h.below (n9),BE _ _,a,h.gr.size⟩
theorem AK.set(h:AK b M w L v kb k W)(f:RB k'):AK b M w L v kb k' (((((W.setCell (G kb 0) (J k'.kind)).setCell (G kb 1) (J k'.num)).setCell (G kb 2) (F9 k'.Ae)).setCell (G kb 3) (.string k'.str)).setCell (G kb 4) (J k'.ref)):=by
 obtain⟨W',a⟩:∃W',W'=(((((W.setCell (G kb 0) (J k'.kind)).setCell (G kb 1) (J k'.num)).setCell (G kb 2) (F9 k'.Ae)).setCell (G kb 3) (.string k'.str)).setCell (G kb 4) (J k'.ref)):=⟨_,rfl⟩;rw[<-a];have h2:∀q,q≠kb->W'.heap[q]?=W.heap[q]?:=fun q hq=>by rw[a];iterate 5 rw[At _ _ _ _ (by exact hq)]
 have hz:W'.heap.size=W.heap.size:=by rw[a];simp
 have c:W'.os=W.os/\W'.tape=W.tape/\W'.output=W.output:=by rw[a];exact⟨rfl,rfl,rfl⟩
 have hk:=h.dO;have d:Below w.heap.size W W':=⟨c.1,c.2.1,c.2.2,by omega,fun q hq=>h2 q (by omega)⟩;refine⟨⟨h.ag.cu.below d h.ag.lt,h.ag.gr.AR d (A0 _),Ai h.ag.own fun q e=>h2 q ?_,h.ag.wf,h.ag.lt⟩,?_,f,h.dO⟩
 ·rintro rfl;obtain⟨cur,hc,_⟩:=A3 h.ag.own e;rw[h.TK]at hc;cases hc
 ·rw[a];have:=Mk (q:=0) h.TK (J k'.kind) (J k'.num) (F9 k'.Ae) (.string k'.str) (J k'.ref);simpa using this
end
structure Rs (b M:Nat) (w:Y) (L:List Ac) (v:V9) (kb:Nat) (k:Vl) (vb:Nat) (x:Vl) (W:Y):Prop where
 k_:AK b M w L v kb k W
 v_:AK b M w L v vb x W
 ne:kb≠vb
section
variable {b M M' kb vb:Nat} {w W W':Y} {L:List Ac} {v:V9} {k x x':Vl}
theorem Rs.next(h:Rs b M w L v kb k vb x W)(hc:Cu b M' W')(hg:Gr b W W'):Rs b M' w L v kb k vb x W':=⟨h.k_.next hc hg,h.v_.next hc hg,h.ne⟩
theorem Rs.mono(h:Rs b M w L v kb k vb x W)(a:M<=M'):Rs b M' w L v kb k vb x W:=⟨h.k_.mono a,h.v_.mono a,h.ne⟩
theorem Rs.below(h:Rs b M w L v kb k vb x W)(hb:B9 W W'):Rs b M w L v kb k vb x W':=⟨h.k_.below hb,h.v_.below hb,h.ne⟩
theorem AK.val(h:AK b M w L v kb k W)(a:RB x):Rs b M w L v kb k W.heap.size x (W.alloc (.cells #[J x.kind,J x.num,F9 x.Ae,.string x.str,J x.ref] 43)):=
 ⟨h.below (n9),h.ag.key a,by have:=Aj h.TK;omega⟩
theorem Rs.set(h:Rs b M w L v kb k vb x W)(a:RB x'):Rs b M w L v kb k vb x' (((((W.setCell (G vb 0) (J x'.kind)).setCell (G vb 1) (J x'.num)).setCell (G vb 2) (F9 x'.Ae)).setCell (G vb 3) (.string x'.str)).setCell (G vb 4) (J x'.ref)):=by
 have h1:=h.v_.set a;refine⟨⟨h1.ag,?_,h.k_.cJ,h.k_.dO⟩,h1,h.ne⟩;iterate 5 rw[At _ _ _ _ (by exact h.ne)]
 exact h.k_.TK
end
theorem Wi(b Z:Nat)(w:Y)(h:Cu b Z w)(hN:Z<=1099511400000):
  C9 76 #[Q9 b] w fun e w'=>∃L v,e=.returned v/\(0<L.length/\L.length<=200)/\AG b (Z+20000) w L v w':=by
 have B:=O (AG.start h);clear h
 go_enter func76,ntmps76
 go_wp2_with fail
 refine(Ax b Z 5 _ B.cu (by omega) (by omega) (by omega)).mono ?_;rintro e w1 ⟨⟨tb,rfl,ay,az⟩,hc,hs⟩;have B:=O (B.next hc hs.gr);clear hc hs;go_wp2_with fail
 refine(Ax b (Z+2) 4 _ B.cu (by omega) (by omega) (by omega)).mono ?_;rintro e w2 ⟨⟨st,rfl,aM,a6⟩,hc,hs⟩;have B:=O (B.next hc hs.gr);clear hc hs;have a7:IntKind.i64.wrap (1+tb)=1+tb:=by rw[It];omega
 have a8:IntKind.i64.wrap (1+st)=1+st:=by rw[It];omega
 obtain⟨tn,U⟩:∃tn:Nat,1+tb=(tn:Int):=⟨(1+tb).toNat,by omega⟩;obtain⟨E,V⟩:∃E:Nat,1+st=(E:Int):=⟨(1+st).toNat,by omega⟩;have HT:=O U;have HS:=O V;have aw:tn<=5:=by omega
 have ax:E<=4:=by omega
 clear U V;go_wp2_with fail
 go_loopw [3,6] (fun v i wr=>∃(k:Nat) (L:List Ac),k<=tn/\i=J k/\L.length=k/\AG b (Z+4) w L v wr) (fun _ i _=>tn-(intOf i).toNat)
 case atStart=>exact⟨0,[],by omega,rfl,rfl,B⟩
 case round=>
  obtain⟨k,L,hk,rfl,p,hA⟩:=hrel;obtain⟨av,cv,rfl⟩:=hA.slice p;have B:=O hA;clear hA;by_cases ad:k<tn
  ·have d1:decide ((k:Int)<1+tb)=true:=by have:=z HT;simp;omega
   go_wp2_with (refine append_actsG [⟨1,0,0,0,nov,nov⟩] rfl (.tmp 25) (.tmp 27) rfl B rfl rfl rfl (by decide) (by omega) (fun a h=>by rw[MM.1 h];exact⟨Bb,Bb⟩) ?_;intro v' w' c;obtain⟨d,f,rfl⟩:=c.slice (show _=k+1 by simp[p]);have r:=O c;clear c)
   go_roundw
   case rel=>exact⟨k+1,_,by omega,by go_num,by simp[p],r⟩
   case measure=>simp[intOf];omega
  ·have d1:decide ((k:Int)<1+tb)=false:=by have:=z HT;simp;omega
   have ae:k=tn:=by omega
   subst ae;have HL:=O p;clear p ad hk;go_wp2_with fail
   go_loopw [3,7] (fun v i wr=>∃(j:Nat) (L:List Ac),j<=E/\i=J j/\L.length=k+j/\AG b (Z+4+4*j) w L v wr) (fun _ i _=>E-(intOf i).toNat)
   case atStart=>exact⟨0,L,by omega,rfl,HL,B⟩
   case round=>
    obtain⟨j,L2,hj,rfl,p,hA⟩:=hrel;obtain⟨bc,bd,rfl⟩:=hA.slice p;have r:=O hA;clear hA;by_cases af:j<E
    ·have d2:decide ((j:Int)<1+st)=true:=by have:=z HS;simp;omega
     go_wp2_with fail
     refine(Ia b (Z+4+4*j) _ r.cu (by omega)).mono ?_;rintro e w3 ⟨⟨str,rfl,F⟩,hc,hg⟩;have C:=O (r.next hc hg);clear hc hg;go_wp2_with fail
     refine m9 (DW str _) fun w4 hb=>?_
     have H:=O (C.below hb);clear hb;go_wp2_with (refine append_actsG [⟨7,0,0,0,⟨4,0,0,str,0⟩,nov⟩] rfl (.tmp 34) (.tmp 39) rfl H rfl rfl rfl (by decide) (by omega) (fun a h=>by rw[MM.1 h];exact⟨⟨F,by show(0:Nat)<_;decide,by show(0:Nat)≠_;decide⟩,Bb⟩) ?_;intro v' w' c;obtain⟨d,f,rfl⟩:=c.slice (show _=k+j+1 by simp[p]);have ah:=O c;clear c)
     go_roundw
     case rel=>exact⟨j+1,_,by omega,by go_num,by simp[p];omega,ah.mono (by omega)⟩
     case measure=>simp[intOf];omega
    ·have d2:decide ((j:Int)<1+st)=false:=by have:=z HS;simp;omega
     have ai:j=E:=by omega
     subst ai;have aj:=O p;have bf:L2.length<=9:=by have:=z HT;have:=z HS;omega
     clear p af hj;go_wp2_with fail
     refine(Ax b (Z+4+4*j) 4 _ r.cu (by omega) (by omega) (by omega)).mono ?_;rintro e w3 ⟨⟨T,rfl,bg,bh⟩,hc,hs⟩;have C:=O (r.next hc hs.gr);clear hc hs;go_wp2_with fail
     refine(Ax b (Z+4+4*j+2) 120 _ C.cu (by omega) (by omega) (by omega)).mono ?_;rintro e w4 ⟨⟨nn,rfl,bj,bk⟩,hc,hs⟩;have H:=O (C.next hc hs.gr);clear hc hs;obtain⟨n,rfl⟩:∃n:Nat,nn=n:=⟨nn.toNat,by omega⟩;go_wp2_with fail
     go_loopw [3,9] (fun v i wr=>∃(m:Nat) (L:List Ac),i=J m/\m<=n/\L.length=L2.length+(n-m)/\AG b (Z+30+150*(n-m)) w L v wr) (fun _ i _=>(intOf i).toNat)
     case atStart=>exact⟨n,L2,rfl,by omega,by omega,H.mono (by have:=z HS;omega)⟩
     case round=>
      obtain⟨m,g,rfl,bm,p,hA⟩:=hrel;obtain⟨I,K,rfl⟩:=hA.slice rfl;have s:=O hA;have P:=O p;have bn:g.length<=130:=by omega
      clear hA p;by_cases hm:0<m
      case neg=>
       have hz:m=0:=by omega
       subst hz;go_wp2;go_ret;exact⟨g,_,rfl,⟨by have:=z P;have:=z aj;have:=z HT;omega,by omega⟩,s.mono (by omega)⟩
      have d3:decide ((0:Int)<m)=true:=by simp;omega
      obtain⟨M,hM⟩:∃M,M=Z+30+150*(n-m):=⟨_,rfl⟩;rw[<-hM]at s;have bp:M<=Z+30+150*119:=by omega
      have W:=O hM;clear hM;go_wp2_with fail
      refine(QO b M (1+tb) _ s.cu (by omega) (by omega) (by omega)).mono ?_;rintro e w5 ⟨⟨tt,rfl,_,_⟩,hc,hs⟩;have s:=O (s.next hc hs.gr);clear hc hs;go_wp2_with fail
      refine(QO b (M+2) (1+st) _ s.cu (by omega) (by omega) (by omega)).mono ?_;rintro e w6 ⟨⟨ss,rfl,_,_⟩,hc,hs⟩;have s:=O (s.next hc hs.gr);clear hc hs;go_wp2_with fail
      refine(Pt b (M+4) _ s.cu (by omega)).mono ?_;rintro e w7 ⟨⟨kind,num,Ae,str,ref,rfl,F,hf⟩,hc,hg⟩;have s:=O (s.next hc hg);have HK:=O (s.key (k:=⟨kind,num,Ae,str,ref⟩) ⟨F,hf⟩);clear hc hg s
      go_upto_if 58 with fail
      generalize Q:w7.alloc (.cells #[J kind,J num,F9 Ae,.string str,J ref] 43)=w8 at HK ⊢;generalize (⟨kind,num,Ae,str,ref⟩:Vl)=k0 at HK;generalize w7.heap.size=kb at HK ⊢;clear Q
      go_cut [58] (fun _ R=>∃k:Vl,AK b (M+20) w g (.slice I g.length K) kb k R)
      case first=>
       by_cases t:T=0
       ·subst t;go_wp2_with fail
        refine(Ia b (M+14) _ HK.ag.cu (by omega)).mono ?_;rintro e w9 ⟨⟨s2,rfl,ak⟩,hc,hg⟩;have HK:=O (HK.next hc hg);clear hc hg;go_wp2_with fail
        refine m9 (DW s2 _) fun l hb=>?_
        have HK:=O (HK.below hb);clear hb;obtain⟨c0,c1,c2,c3,c4,fz,lk⟩:=HK.cells;go_wp2_with fail
        go_meet
        case rel=>exact⟨⟨4,0,0,s2,0⟩,(HK.set ⟨ak,by show(0:Nat)<_;decide,by show(0:Nat)≠_;decide⟩).mono (by omega)⟩
       ·have e0:(T==0)=false:=by simp[t]
        by_cases D:T=1
        ·subst D;go_wp2_with fail
         refine(Ax b (M+14) 12 _ HK.ag.cu (by omega) (by omega) (by omega)).mono ?_;rintro e w9 ⟨⟨X,rfl,ao,aq⟩,hc,hs⟩;have HK:=O (HK.next hc hs.gr);clear hc hs;have ar:IntKind.i64.wrap (1+X)=1+X:=by rw[It];omega
         go_wp2_with fail
         refine m9 (Bv (1+X) _) fun l hb=>?_
         have HK:=O (HK.below hb);clear hb;obtain⟨c0,c1,c2,c3,c4,fz,lk⟩:=HK.cells;go_wp2_with fail
         go_meet
         case rel=>exact⟨⟨2,1+X,0,⟨#[]⟩,0⟩,(HK.set (DN _)).mono (by omega)⟩
        ·have e1:(T==1)=false:=by simp[D]
         go_wp2_with fail
         go_meet
         case rel=>exact⟨k0,HK.mono (by omega)⟩
      obtain⟨k,hK⟩:=hcut;have HK:=O hK;clear hK;go_wp2_with fail
      refine(Ax b (M+20) 14 _ HK.ag.cu (by omega) (by omega) (by omega)).mono ?_;rintro e w9 ⟨⟨x,rfl,bq,br⟩,hc,hs⟩;have HK:=O (HK.next hc hs.gr);clear hc hs;rcases(by omega:x<=4\/x=5\/x=6\/x=7\/x=8\/x=9\/x=10\/x=11\/x=12\/x=13)with hx|hx|hx|hx|hx|hx|hx|hx|hx|hx
      focus
       go_upto_if 75 with fail
       go_cut [75] (fun q R=>q=.bool true/\R=w9)
       case first=>
        rcases(by omega:x=0\/x=1\/x=2\/x=3\/x=4)with hx|hx|hx|hx|hx
        all_goals
         subst hx;go_wp2_with fail
         go_meet
         case rel=>exact⟨rfl,rfl⟩
       obtain⟨rfl,rfl⟩:=hcut;go_wp2_with fail
       refine(Ub b (M+22) _ HK.ag.cu (by omega)).mono ?_;rintro e l ⟨⟨x0,rfl,u⟩,hc,hg⟩;have HK:=O (HK.next hc hg);have o:=O (HK.val u);clear hc hg HK;go_upto_region 31 with fail
       generalize Q:l.alloc (.cells #[J x0.kind,J x0.num,F9 x0.Ae,.string x0.str,J x0.ref] 43)=bt at o ⊢;generalize l.heap.size=vb at o ⊢;clear Q
       go_cut [89] (fun q R=>∃bb:Bool,q=.bool bb/\Rs b (M+28) w g (.slice I g.length K) kb k vb x0 R)
       case first=>
        by_cases t:T=0
        focus
         subst t;go_wp2_with fail
         refine(Ax b (M+26) 6 _ o.k_.ag.cu (by omega) (by omega) (by omega)).mono ?_;rintro e au ⟨⟨X,rfl,_,_⟩,hc,hs⟩;have o:=O (o.next hc hs.gr);clear hc hs
        rotate_left
        focus
         have e0:(T==0)=false:=by simp[t]
        rotate_left;all_goals
         go_wp2_with fail
         go_meet
         case rel=>exact⟨_,rfl,o.mono (by omega)⟩
       obtain⟨bb,rfl,S⟩:=hcut;have o:=O S;clear S
       go_upto_if 89 with fail
       go_cut [89] (fun _ R=>∃x1:Vl,Rs b (M+28) w g (.slice I g.length K) kb k vb x1 R)
       case first=>
        cases bb
        ·go_wp2_with fail
         go_meet
         case rel=>exact⟨_,o⟩
        ·go_wp2_with fail
         refine m9 (Bv (m:Int) _) fun au hb=>?_
         have o:=O (o.below hb);clear hb;obtain⟨c0,c1,c2,c3,c4,fz,lk⟩:=o.v_.cells;go_wp2_with fail
         go_meet
         case rel=>exact⟨⟨2,m,0,⟨#[]⟩,0⟩,o.set (DN _)⟩
       obtain⟨x1,S⟩:=hcut;obtain⟨c0,c1,c2,c3,c4,fz,lk⟩:=S.k_.cells;obtain⟨q0,q1,q2,q3,q4,bu,lq⟩:=S.v_.cells;have o:=O S;clear S;go_wp2_with (refine append_actsG [⟨2,tt,0,0,k,x1⟩] rfl (.tmp 92) (.tmp 97) rfl o.k_.ag rfl rfl rfl (by decide) (by omega) (fun a h=>by rw[MM.1 h];exact⟨o.k_.cJ,o.v_.cJ⟩) ?_;intro v' w' c;obtain⟨d,f,rfl⟩:=c.slice (show _=g.length+1 by simp);have A:=O c;clear c)
      rotate_left
      focus
       subst hx;obtain⟨c0,c1,c2,c3,c4,fz,lk⟩:=HK.cells;go_upto_region 36 with fail
       go_wp2_with (refine append_actsG [⟨3,tt,0,0,k,nov⟩] rfl (.tmp 102) (.tmp 106) rfl HK.ag rfl rfl rfl (by decide) (by omega) (fun a h=>by rw[MM.1 h];exact⟨HK.cJ,Bb⟩) ?_;intro v' w' c;obtain⟨d,f,rfl⟩:=c.slice (show _=g.length+1 by simp);have A:=O c;clear c)
      rotate_left
      focus
       subst hx;obtain⟨c0,c1,c2,c3,c4,fz,lk⟩:=HK.cells;go_upto_region 36 with fail
       go_wp2_with (refine append_actsG [⟨3,tt,0,0,k,nov⟩] rfl (.tmp 102) (.tmp 106) rfl HK.ag rfl rfl rfl (by decide) (by omega) (fun a h=>by rw[MM.1 h];exact⟨HK.cJ,Bb⟩) ?_;intro v' w' c;obtain⟨d,f,rfl⟩:=c.slice (show _=g.length+1 by simp);have A:=O c;clear c)
      rotate_left
      focus
       subst hx;go_wp2_with fail
       refine(Ax b (M+22) 14 _ HK.ag.cu (by omega) (by omega) (by omega)).mono ?_;rintro e l ⟨⟨X,rfl,_,_⟩,hc,hs⟩;have HK:=O (HK.next hc hs.gr);clear hc hs;go_wp2_with (refine append_actsG [⟨4,tt,0,X,nov,nov⟩] rfl (.tmp 110) (.tmp 115) rfl HK.ag rfl rfl rfl (by decide) (by omega) (fun a h=>by rw[MM.1 h];exact⟨Bb,Bb⟩) ?_;intro v' w' c;obtain⟨d,f,rfl⟩:=c.slice (show _=g.length+1 by simp);have A:=O c;clear c)
      rotate_left
      focus
       subst hx;go_wp2_with fail
       refine(Ax b (M+22) 2 _ HK.ag.cu (by omega) (by omega) (by omega)).mono ?_;rintro e l ⟨⟨X,rfl,ao,aq⟩,hc,hs⟩;have HK:=O (HK.next hc hs.gr);clear hc hs;have ar:IntKind.i64.wrap (5+X)=5+X:=by rw[It];omega
       go_wp2_with (refine append_actsG [⟨5+X,tt,0,0,nov,nov⟩] rfl (.tmp 119) (.tmp 125) rfl HK.ag rfl rfl rfl (by decide) (by omega) (fun a h=>by rw[MM.1 h];exact⟨Bb,Bb⟩) ?_;intro v' w' c;obtain⟨d,f,rfl⟩:=c.slice (show _=g.length+1 by simp);have A:=O c;clear c)
      rotate_left
      focus
       subst hx;go_upto_region 44 with fail
       go_wp2_with (refine append_actsG [⟨8,tt,ss,0,nov,nov⟩] rfl (.tmp 131) (.tmp 135) rfl HK.ag rfl rfl rfl (by decide) (by omega) (fun a h=>by rw[MM.1 h];exact⟨Bb,Bb⟩) ?_;intro v' w' c;obtain⟨d,f,rfl⟩:=c.slice (show _=g.length+1 by simp);have A:=O c;clear c)
      rotate_left
      focus
       subst hx;go_upto_region 44 with fail
       go_wp2_with (refine append_actsG [⟨8,tt,ss,0,nov,nov⟩] rfl (.tmp 131) (.tmp 135) rfl HK.ag rfl rfl rfl (by decide) (by omega) (fun a h=>by rw[MM.1 h];exact⟨Bb,Bb⟩) ?_;intro v' w' c;obtain⟨d,f,rfl⟩:=c.slice (show _=g.length+1 by simp);have A:=O c;clear c)
      rotate_left
      focus
       subst hx;go_upto_region 44 with fail
       go_wp2_with (refine append_actsG [⟨8,tt,ss,0,nov,nov⟩] rfl (.tmp 131) (.tmp 135) rfl HK.ag rfl rfl rfl (by decide) (by omega) (fun a h=>by rw[MM.1 h];exact⟨Bb,Bb⟩) ?_;intro v' w' c;obtain⟨d,f,rfl⟩:=c.slice (show _=g.length+1 by simp);have A:=O c;clear c)
      rotate_left
      focus
       subst hx;go_wp2_with fail
       refine(Ub b (M+22) _ HK.ag.cu (by omega)).mono ?_;rintro e l ⟨⟨x0,rfl,u⟩,hc,hg⟩;have HK:=O (HK.next hc hg);clear hc hg;go_wp2_with (refine append_actsG [⟨9,tt,ss,0,nov,x0⟩] rfl (.tmp 139) (.tmp 145) rfl HK.ag rfl rfl rfl (by decide) (by omega) (fun a h=>by rw[MM.1 h];exact⟨Bb,u⟩) ?_;intro v' w' c;obtain⟨d,f,rfl⟩:=c.slice (show _=g.length+1 by simp);have A:=O c;clear c)
      rotate_left
      focus
       subst hx;go_wp2_with fail
       refine(Zt b (M+22) _ HK.ag.cu (by omega)).mono ?_;rintro e l ⟨⟨x0,rfl,u⟩,hc,hg⟩;have HK:=O (HK.next hc hg);clear hc hg;go_wp2_with (refine append_actsG [x0] rfl (.tmp 70) (.tmp 73) rfl HK.ag rfl rfl rfl (by decide) (by omega) (fun a h=>by rw[MM.1 h];exact u) ?_;intro v' w' c;obtain⟨d,f,rfl⟩:=c.slice (show _=g.length+1 by simp);have A:=O c;clear c)
      rotate_left;all_goals
       go_roundw
       case rel=>first|exact⟨m-1,_,by go_num,by omega,by have:=z P;simp;omega,A.mono (by have:=z W;omega)⟩|((repeat apply Exists.intro);exact⟨⟨m-1,_,by go_num,by omega,by have:=z P;simp;omega,A.mono (by have:=z W;omega)⟩,rfl⟩)
       case measure=>simp[intOf];omega
end
def fM:Value->Nat|.slice _ n _=>n|_=>0
theorem P0{s:ByteArray}(h:s.size<=4000):RB ⟨4,0,0,s,0⟩:=⟨h,by show(0:Nat)<_;decide,by show(0:Nat)≠_;decide⟩
theorem Y2:∀a∈([⟨6,0,0,0,nov,nov⟩,⟨2,0,0,0,⟨2,1,0,⟨#[]⟩,0⟩,⟨2,2,0,⟨#[]⟩,0⟩⟩,⟨2,0,0,0,⟨2,1,0,⟨#[]⟩,0⟩,nov⟩,⟨2,0,0,0,⟨4,0,0,⟨#[110]⟩,0⟩,⟨2,3,0,⟨#[]⟩,0⟩⟩]:List Ac),Wh a:=by
 intro a h;simp only[Aau,Aaq,or_false]at h;rcases h with rfl|rfl|rfl|rfl
 ·exact⟨Bb,Bb⟩
 ·exact⟨DN _,DN _⟩
 ·exact⟨DN _,Bb⟩
 ·exact⟨P0 (by decide),DN _⟩
theorem Xq(b Z:Nat)(w:Y)(h:Cu b Z w)(hN:Z<=1099511400000):
  C9 154 #[Q9 b] w fun e w'=>∃L v,e=.returned v/\(0<L.length/\L.length<=1001)/\AG b (Z+20000) w L v w':=by
 have Q:=O (AG.start h);clear h
 go_enter func154,ntmps154
 go_upto_region 3 with(refine append_actsG [⟨1,0,0,0,nov,nov⟩] rfl (.tmp 9) (.tmp 11) rfl Q rfl rfl rfl (by decide) (by simp) (fun a h=>by rw[MM.1 h];exact⟨Bb,Bb⟩) ?_;intro v' w' c;obtain⟨g,j,rfl⟩:=c.slice (show _=1 by simp);have f:=O c;clear c)
 simp only[So]at f;go_wp2_with fail
 refine(Ax b Z 5 _ f.cu (by omega) (by omega) (by omega)).mono ?_;rintro e w1 ⟨⟨x,rfl,S,T⟩,hc,hs⟩;have f:=O (f.next hc hs.gr);clear hc hs Q;rcases(by omega:x=0\/x=1\/x=2\/x=3\/x=4)with hx|hx|hx|hx|hx
 ·subst hx;go_wp2_with fail
  refine(Ax b (Z+2) 3 _ f.cu (by omega) (by omega) (by omega)).mono ?_;rintro e w2 ⟨⟨X,rfl,o,p⟩,hc,hs⟩;have f:=O (f.next hc hs.gr);clear hc hs;obtain⟨n,hn⟩:∃n:Nat,99+X=(n:Int):=⟨(99+X).toNat,by omega⟩;have K:IntKind.i64.wrap (99+X)=n:=by rw[It];omega
  have C:n<=101:=by omega
  clear hn o p;go_wp2_with fail
  go_loopw [3,4] (fun v i wr=>∃(m:Nat) (L:List Ac),i=J m/\m<=n/\L.length=1+(n-m)/\AG b (Z+4) w L v wr) (fun _ i _=>(intOf i).toNat)
  case atStart=>exact⟨n,_,rfl,by omega,by simp,f⟩
  case round=>
   obtain⟨m,L,rfl,D,t,hA⟩:=hrel;obtain⟨H,I,rfl⟩:=hA.slice rfl;have d:=O hA;have s:=O t;have r:L.length<=102:=by omega
   clear hA t;by_cases R:0<m
   case neg=>
    have hz:m=0:=by omega
    subst hz;go_wp2;go_ret;exact⟨L,_,rfl,⟨by first|(have:=z s;omega)|omega,by omega⟩,d.mono (by omega)⟩
   have d3:decide ((0:Int)<m)=true:=by simp;omega
   go_wp2_with (refine append_actsG [⟨1,0,0,0,nov,nov⟩] rfl (.tmp 39) (.tmp 41) rfl d rfl rfl rfl (by decide) (by omega) (fun a h=>by rw[MM.1 h];exact⟨Bb,Bb⟩) ?_;intro v' w' c;obtain⟨g,j,rfl⟩:=c.slice (show _=L.length+1 by simp);have l:=O c;clear c)
   go_roundw
   case rel=>exact⟨m-1,_,by go_num,by omega,by have:=z s;simp;omega,l⟩
   case measure=>simp[intOf];omega
 ·subst hx;go_wp2_with fail
  refine(Ax b (Z+2) 3 _ f.cu (by omega) (by omega) (by omega)).mono ?_;rintro e w2 ⟨⟨X,rfl,o,p⟩,hc,hs⟩;have f:=O (f.next hc hs.gr);clear hc hs;obtain⟨n,hn⟩:∃n:Nat,49+X=(n:Int):=⟨(49+X).toNat,by omega⟩;have K:IntKind.i64.wrap (49+X)=n:=by rw[It];omega
  have C:n<=51:=by omega
  clear hn o p;go_wp2_with fail
  go_loopw [3,5] (fun v i wr=>∃(m:Nat) (L:List Ac),i=J m/\m<=n/\L.length=1+(n-m)/\AG b (Z+4) w L v wr) (fun _ i _=>(intOf i).toNat)
  case atStart=>exact⟨n,_,rfl,by omega,by simp,f⟩
  case round=>
   obtain⟨m,L,rfl,D,t,hA⟩:=hrel;obtain⟨H,I,rfl⟩:=hA.slice rfl;have d:=O hA;have s:=O t;have r:L.length<=51+1:=by omega
   clear hA t;by_cases R:0<m
   case neg=>
    have hz:m=0:=by omega
    subst hz;go_wp2;go_ret;exact⟨L,_,rfl,⟨by first|(have:=z s;omega)|omega,by omega⟩,d.mono (by omega)⟩
   have d3:decide ((0:Int)<m)=true:=by simp;omega
   go_wp2_with fail
   refine m9 (DW ⟨#[107]⟩ _) fun w3 hb=>?_
   have d:=O (d.below hb);clear hb;go_wp2_with (refine append_actsG [⟨7,0,0,0,⟨4,0,0,⟨#[107]⟩,0⟩,nov⟩] rfl (.tmp 52) (.tmp 55) rfl d rfl rfl rfl (by decide) (by omega) (fun a h=>by rw[MM.1 h];exact⟨P0 (by decide),Bb⟩) ?_;intro v' w' c;obtain⟨g,j,rfl⟩:=c.slice (show _=L.length+1 by simp);have l:=O c;clear c)
   go_roundw
   case rel=>exact⟨m-1,_,by go_num,by omega,by have:=z s;simp;omega,l⟩
   case measure=>simp[intOf];omega
 ·subst hx;go_wp2_with fail
  refine(Ax b (Z+2) 3 _ f.cu (by omega) (by omega) (by omega)).mono ?_;rintro e w2 ⟨⟨X,rfl,o,p⟩,hc,hs⟩;have f:=O (f.next hc hs.gr);clear hc hs;obtain⟨n,hn⟩:∃n:Nat,499+X=(n:Int):=⟨(499+X).toNat,by omega⟩;have K:IntKind.i64.wrap (499+X)=n:=by rw[It];omega
  have C:n<=501:=by omega
  clear hn o p;go_wp2_with fail
  go_loopw [3,6] (fun v i wr=>∃(m:Nat) (L:List Ac),i=J m/\m<=n/\L.length=1+(n-m)/\AG b (Z+4) w L v wr) (fun _ i _=>(intOf i).toNat)
  case atStart=>exact⟨n,_,rfl,by omega,by simp,f⟩
  case round=>
   obtain⟨m,L,rfl,D,t,hA⟩:=hrel;obtain⟨H,I,rfl⟩:=hA.slice rfl;have d:=O hA;have s:=O t;have r:L.length<=501+1:=by omega
   clear hA t;by_cases R:0<m
   case neg=>
    have hz:m=0:=by omega
    subst hz;go_wp2_with fail
    refine m9 (Bv 1 _) fun w3 hb=>?_
    have d:=O (d.below hb);clear hb;go_wp2_with fail
    refine m9 (Bv 2 _) fun w3 hb=>?_
    have d:=O (d.below hb);clear hb;go_wp2_with fail
    refine m9 (Bv 1 _) fun w3 hb=>?_
    have d:=O (d.below hb);clear hb;go_wp2_with fail
    refine m9 (DW ⟨#[110]⟩ _) fun w3 hb=>?_
    have d:=O (d.below hb);clear hb;go_wp2_with fail
    refine m9 (Bv 3 _) fun w3 hb=>?_
    have d:=O (d.below hb);clear hb;go_wp2_with (refine append_actsG [⟨6,0,0,0,nov,nov⟩,⟨2,0,0,0,⟨2,1,0,⟨#[]⟩,0⟩,⟨2,2,0,⟨#[]⟩,0⟩⟩,⟨2,0,0,0,⟨2,1,0,⟨#[]⟩,0⟩,nov⟩,⟨2,0,0,0,⟨4,0,0,⟨#[110]⟩,0⟩,⟨2,3,0,⟨#[]⟩,0⟩⟩] rfl (.tmp 75) (.tmp 85) rfl d rfl rfl rfl (by decide) (by omega) Y2 ?_;intro v' w' c;obtain⟨g,j,rfl⟩:=c.slice (show _=L.length+4 by simp);have l:=O c;clear c)
    go_ret;exact⟨_,_,rfl,⟨by simp,by have:=z s;simp;omega⟩,l.mono (by omega)⟩
   have d3:decide ((0:Int)<m)=true:=by simp;omega
   obtain⟨q,hq⟩:∃q,IntKind.i64.wrap ((m:Int)*m)=q:=⟨_,rfl⟩;go_wp2_with fail
   refine m9 (Bv q _) fun w3 hb=>?_
   have d:=O (d.below hb);clear hb;go_wp2_with fail
   refine m9 (Bv 1 _) fun w3 hb=>?_
   have d:=O (d.below hb);clear hb;go_wp2_with (refine append_actsG [⟨2,0,0,0,⟨2,q,0,⟨#[]⟩,0⟩,⟨2,1,0,⟨#[]⟩,0⟩⟩] rfl (.tmp 66) (.tmp 73) rfl d rfl rfl rfl (by decide) (by omega) (fun a h=>by rw[MM.1 h];exact⟨DN _,DN _⟩) ?_;intro v' w' c;obtain⟨g,j,rfl⟩:=c.slice (show _=L.length+1 by simp);have l:=O c;clear c)
   go_roundw
   case rel=>exact⟨m-1,_,by go_num,by omega,by have:=z s;simp;omega,l⟩
   case measure=>simp[intOf];omega
 ·subst hx;have u:=O (f.mono (M':=Z+10) (by omega));clear f;go_wp2_with fail
  go_loopw [3,7] (fun v i wr=>∃(k:Nat) (L:List Ac),i=J k/\k<=300/\(0<L.length/\L.length<=1+2*k)/\AG b (Z+10) w L v wr) (fun _ i _=>300-(intOf i).toNat)
  case atStart=>exact⟨0,_,rfl,by omega,⟨by simp,by simp⟩,u⟩
  case round=>
   obtain⟨k,L,rfl,hk,⟨E,r⟩,hA⟩:=hrel;obtain⟨H,I,rfl⟩:=hA.slice rfl;have d:=O hA;clear hA;by_cases U:k<300
   case neg=>
    have d1:decide ((k:Int)<300)=false:=by simp;omega
    go_wp2;go_ret;exact⟨L,_,rfl,⟨by first|(have:=z s;omega)|omega,by omega⟩,d.mono (by omega)⟩
   have d1:decide ((k:Int)<300)=true:=by simp;omega
   go_upto_if 95 with fail
   go_cut [3,95] (fun v _ V=>∃L':List Ac,L'.length<=2+2*k/\AG b (Z+10) w L' v V)
   case first=>
    cases hb:((k:Int)%12==0)
    ·go_wp2_with fail
     go_meet
     case rel=>exact⟨L,by omega,d⟩
    ·go_wp2_with (refine append_actsG [⟨1,0,0,0,nov,nov⟩] rfl (.tmp 96) (.tmp 98) rfl d rfl rfl rfl (by decide) (by omega) (fun a h=>by rw[MM.1 h];exact⟨Bb,Bb⟩) ?_;intro v' w' c;obtain⟨g,j,rfl⟩:=c.slice (show _=L.length+1 by simp);have l:=O c;clear c)
     go_meet
     case rel=>exact⟨_,by simp;omega,l⟩
   obtain⟨L',W,hA⟩:=hcut;obtain⟨ad,ae,rfl⟩:=hA.slice rfl;have d:=O hA;clear hA;obtain⟨F,A⟩:∃F:ByteArray,F=⟨[UInt8.ofNat (97+(k:Int)%12).toNat,UInt8.ofNat (97+(k:Int)/12).toNat].toArray⟩:=⟨_,rfl⟩;have M:F.size<=4000:=by rw[A];show 2<=4000;decide
   have P:=Wp (97+(k:Int)%12) (97+(k:Int)/12) (by omega) (by omega) (by omega) (by omega) wc;rw[<-A]at P;have af:IntKind.i64.wrap (1+(k:Int)/12)=1+(k:Int)/12:=by rw[It];omega
   clear A;go_wp2_with fail
   refine m9 (DW F _) fun w3 hb=>?_
   have d:=O ((d.below ((DD _ _).alloc (A0 _) (.cells #[.int .u8 (97+(k:Int)%12),.int .u8 (97+(k:Int)/12)] 5))).below hb);clear hb;go_wp2_with fail
   refine m9 (Bv (k:Int) _) fun w4 hb=>?_
   have d:=O (d.below hb);clear hb;go_wp2_with (refine append_actsG [⟨2,1+(k:Int)/12,0,0,⟨4,0,0,F,0⟩,⟨2,k,0,⟨#[]⟩,0⟩⟩] rfl (.tmp 110) (.tmp 119) rfl d rfl rfl rfl (by decide) (by omega) (fun a h=>by rw[MM.1 h];exact⟨P0 M,DN _⟩) ?_;intro v' w' c;obtain⟨g,j,rfl⟩:=c.slice (show _=L'.length+1 by simp);have l:=O c;clear c)
   go_roundw
   case rel=>first|exact⟨k+1,_,by go_num,by omega,⟨by simp,by simp;omega⟩,l⟩|((repeat apply Exists.intro);exact⟨⟨k+1,_,by go_num,by omega,⟨by simp,by simp;omega⟩,l⟩,rfl⟩)
   case measure=>simp[intOf];omega
 ·subst hx;have u:=O (f.mono (M':=Z+10+2*1) (by omega));clear f;go_wp2_with fail
  go_loopw [3] (fun v wr=>∃L:List Ac,(0<L.length/\L.length<=1001)/\AG b (Z+10+2*L.length) w L v wr) (fun v _=>1001-fM v)
  case atStart=>exact⟨[⟨1,0,0,0,nov,nov⟩],⟨by simp,by simp⟩,u⟩
  case round=>
   obtain⟨L,⟨E,r⟩,hA⟩:=hrel;obtain⟨H,I,rfl⟩:=hA.slice rfl;have d:=O hA;clear hA;go_wp2_with fail
   refine(Ax b (Z+10+2*L.length) 3 _ d.cu (by omega) (by omega) (by omega)).mono ?_;rintro e w2 ⟨⟨X,rfl,o,p⟩,hc,hs⟩;have d:=O (d.next hc hs.gr);clear hc hs;have K:IntKind.i64.wrap (999+X)=999+X:=by rw[It];omega
   by_cases B:(L.length:Int)<999+X
   ·have d1:decide ((L.length:Int)<999+X)=true:=by simp[B]
    have ag:L.length<1001:=by omega
    clear B;obtain⟨q,hq⟩:∃q,(L.length:Int)%37=q:=⟨_,rfl⟩;go_wp2_with fail
    refine m9 (Bv q _) fun w3 hb=>?_
    have d:=O (d.below hb);clear hb;go_wp2_with fail
    refine m9 (Bv 7 _) fun w3 hb=>?_
    have d:=O (d.below hb);clear hb;go_wp2_with (refine append_actsG [⟨2,0,0,0,⟨2,q,0,⟨#[]⟩,0⟩,⟨2,7,0,⟨#[]⟩,0⟩⟩] rfl (.tmp 21) (.tmp 28) rfl d rfl rfl rfl (by decide) (by omega) (fun a h=>by rw[MM.1 h];exact⟨DN _,DN _⟩) ?_;intro v' w' c;obtain⟨g,j,rfl⟩:=c.slice (show _=L.length+1 by simp);have l:=O c;clear c)
    go_roundw
    case rel=>exact⟨_,⟨by simp,by simp;omega⟩,l.mono (by simp;omega)⟩
    case measure=>simp[fM];omega
   ·have d1:decide ((L.length:Int)<999+X)=false:=by simp;omega
    clear B;go_wp2;go_ret;exact⟨L,_,rfl,⟨E,r⟩,d.mono (by omega)⟩
theorem Sd(a:T9)(len cap:Nat)(w:Y)(b:Dh w w.heap.size a len):
  C9 89 #[.slice a len cap] w fun e w'=>(∃L v,e=.returned v/\(0<L.length/\L.length<=1001)/\w'.ownsRow w.heap.size 51 14 v L.length (L9 L)/\∀a∈L,Wh a)/\B9 w w':=by
 obtain⟨W,c⟩:∃W,W=w.alloc (.cells #[.slice a len cap,J 0,.int .u64 0] 138):=⟨_,rfl⟩;have q:B9 w W:=by rw[c];exact(DD _ _).alloc (A0 _) _
 have s:W.heap.size=w.heap.size+1:=by rw[c];simp
 have f:Cu w.heap.size 0 W:=by
  refine⟨⟨a,len,cap,0,0,by rw[c];simp[go_sem],by rw[c];simp[go_sem],by rw[c];simp[go_sem],by omega,by omega,by omega,by omega,?_⟩,fun o=>by rw[c];simp[go_sem]⟩;obtain⟨h1,h2⟩:=b;refine⟨h1,?_⟩;rcases h2 with h|⟨k,off,e,hk,hc⟩
  ·exact .inl h
  ·refine .inr ⟨k,off,e,by omega,fun i hi=>?_⟩;obtain⟨Z,hz,t⟩:=hc i hi;exact⟨Z,(q.cell (p:=(G k (off+i))) hk).trans hz,t⟩
 have u:=O q;have A:=O f;clear b q f;have d:Hid (∀(w1 w2:Y) (M:Nat) (L:List Ac) (v:V9),KK w.heap.size W w1->AG w.heap.size M w1 L v w2->(0<L.length/\L.length<=1001)->(∃L' v',Ending.returned v=.returned v'/\(0<L'.length/\L'.length<=1001)/\w2.ownsRow w.heap.size 51 14 v' L'.length (L9 L')/\∀a∈L',Wh a)/\B9 w w2):=O (fun w1 w2 M L v hs hA g=>by
  have hz:=hs.size;exact⟨⟨L,v,rfl,g,DK hA.own (by omega),hA.wf⟩,u.trans ((hs.below (A0 _)).trans (hA.gr.below (A0 _) (by omega)))⟩)
 go_enter func89,ntmps89
 go_upto_region 2 with fail
 rw[<-c];clear c;go_wp2_with fail
 refine(Ax w.heap.size 0 16 _ A (by omega) (by omega) (by omega)).mono ?_;rintro e w1 ⟨⟨x,rfl,B,C⟩,j,l⟩;have m:=O j;have n:=O l;clear j l;by_cases x0:x=0
 ·subst x0;go_wp2_with fail
  refine(Xq w.heap.size 2 _ m (by omega)).mono ?_;rintro e w2 ⟨L,v,rfl,g,hA⟩;have r:=O (d w1 w2 _ L v n hA g);clear hA;go_wp2;go_ret;exact r
 ·have b0:(x==0)=false:=by simp[x0]
  go_wp2_with fail
  refine(Wi w.heap.size 2 _ m (by omega)).mono ?_;rintro e w2 ⟨L,v,rfl,g,hA⟩;have r:=O (d w1 w2 _ L v n hA ⟨g.1,by omega⟩);clear hA;go_wp2;go_ret;exact r
theorem Uo(a:T9)(len cap:Nat)(w:Y)(b:Dh w w.heap.size a len):
  C9 36 #[.slice a len cap] w fun e w'=>(∃L v,e=.returned v/\(0<L.length/\L.length<=1001)/\w'.ownsRow w.heap.size 51 14 v L.length (L9 L)/\∀a∈L,Wh a)/\B9 w w':=by
 have d:=O b;clear b
 go_enter func36,ntmps36
 go_wp2_with fail
 refine(Sd a len cap w d).mono ?_;rintro e w2 ⟨⟨L,v,rfl,h⟩,hb⟩;have c:=O (And.intro h hb);clear h hb;go_wp2;go_ret;exact⟨⟨L,v,rfl,c.1⟩,c.2⟩
section
def Di(t:Pl)(p:Pr):Prop:=∃i,i<t.n/\t.P i=p
structure S7 (t:Pl):Prop where
 ord:∀i j,i<j->j<t.n->(t.P i).turn<(t.P j).turn
 le:∀i,i<t.n->(t.P i).turn<=t.turns
theorem QQ:∀(a b:List Pr),a.Pairwise (fun p q=>p.turn<q.turn)->b.Pairwise (fun p q=>p.turn<q.turn)->(∀p,p∈a↔p∈b)->a=b
 |[],[],_,_,_=>rfl
 |[],Z::b,_,_,h=>absurd ((h Z).2 (List.mem_cons_self ..)) (Aaq)
 |x::a,[],_,_,h=>absurd ((h x).1 (List.mem_cons_self ..)) (Aaq)
 |x::a,Z::b,j,hb,h=>by
  obtain⟨c,g⟩:=List.pairwise_cons.1 j;obtain⟨d,i⟩:=List.pairwise_cons.1 hb;have e:x=Z:=by
   rcases Aau.1 ((h x).1 (List.mem_cons_self ..))with e|e
   ·exact e
   ·rcases Aau.1 ((h Z).2 (List.mem_cons_self ..))with e'|e'
    ·exact e'.symm
    ·have:=d x e;have:=c Z e';omega
  subst e;rw[QQ a b g i fun p=>?_];constructor
  ·intro f;rcases Aau.1 ((h p).1 (List.mem_cons_of_mem _ f))with e|e
   ·subst e;have:=c p f;omega
   ·exact e
  ·intro f;rcases Aau.1 ((h p).2 (List.mem_cons_of_mem _ f))with e|e
   ·subst e;have:=d p f;omega
   ·exact e
theorem S7.list{t:Pl}(h:S7 t):((List.range t.n).map t.P).Pairwise (fun p q=>p.turn<q.turn):=by
 refine List.pairwise_map.2 (List.Pairwise.imp_of_mem ?_ List.pairwise_lt_range);intro a b _ hb hab;exact h.ord a b hab (AaR.1 hb)
theorem QG{t:Pl}{p:Pr}:p∈(List.range t.n).map t.P↔Di t p:=by
 rw[List.mem_map];constructor
 ·rintro⟨i,h1,h2⟩;exact⟨i,AaR.1 h1,h2⟩
 ·rintro⟨i,h1,h2⟩;exact⟨i,AaR.2 h1,h2⟩
theorem S7.same{a b:Pl}(c:S7 a)(hb:S7 b)(h:Di a=Di b):a.n=b.n/\∀i,i<a.n->a.P i=b.P i:=by
 have hl:(List.range a.n).map a.P=(List.range b.n).map b.P:=QQ _ _ c.list hb.list fun p=>by rw[QG,QG,h]
 have hn:a.n=b.n:=by have:=congrArg List.length hl;simpa using this
 refine⟨hn,fun i hi=>?_⟩;have e:((List.range a.n).map a.P)[i]?=((List.range b.n).map b.P)[i]?:=by rw[hl]
 rw[List.getElem?_map,List.getElem?_map,List.getElem?_range hi,List.getElem?_range (hn▸hi)]at e;exact Aaj e
def F3(A:Pr->Prop)(tu:Int)(full:Prop)(k v:Vl)(A':Pr->Prop)(a:Int):Prop:=
 (∃q,A q/\Ap q.key k=true/\v.kind=0/\(∀p,A' p↔A p/\Ap p.key k=false)/\a=tu)\/
 (∃q,A q/\Ap q.key k=true/\v.kind≠0/\(∀p,A' p↔(A p/\Ap p.key k=false)\/p=⟨q.key,v,q.turn⟩)/\a=tu)\/
 ((∀p,A p->Ap p.key k=false)/\v.kind≠0/\¬full/\(∀p,A' p↔A p\/p=⟨k,v,tu+1⟩)/\a=tu+1)\/
 ((∀p,A p->Ap p.key k=false)/\(v.kind=0\/full)/\(∀p,A' p↔A p)/\a=tu)
theorem F3.kK{A d e:Pr->Prop}{tu t1 t2:Int}{full:Prop}{k v:Vl}(h1:F3 A tu full k v d t1)(h2:F3 A tu full k v e t2)(hu:∀p q,A p->A q->Ap p.key k=true->Ap q.key k=true->p=q):d=e/\t1=t2:=by
 have no:∀{q},A q->Ap q.key k=true->(∀p,A p->Ap p.key k=false)->False:=fun{q} a b c=>by rw[c q a]at b;cases b
 rcases h1 with⟨q,a1,a2,a3,a4,a5⟩|⟨q,a1,a2,a3,a4,a5⟩|⟨a1,a2,a3,a4,a5⟩|⟨a1,a2,a3,a4⟩
 ·rcases h2 with⟨r,b1,b2,b3,b4,b5⟩|⟨r,b1,b2,b3,b4,b5⟩|⟨b1,b2,b3,b4,b5⟩|⟨b1,b2,b3,b4⟩
  ·exact⟨funext fun p=>propext ((a4 p).trans (b4 p).symm),a5.trans b5.symm⟩
  ·exact absurd a3 b3
  ·exact(no a1 a2 b1).elim
  ·exact(no a1 a2 b1).elim
 ·rcases h2 with⟨r,b1,b2,b3,b4,b5⟩|⟨r,b1,b2,b3,b4,b5⟩|⟨b1,b2,b3,b4,b5⟩|⟨b1,b2,b3,b4⟩
  ·exact absurd b3 a3
  ·obtain rfl:=hu q r a1 b1 a2 b2;exact⟨funext fun p=>propext ((a4 p).trans (b4 p).symm),a5.trans b5.symm⟩
  ·exact(no a1 a2 b1).elim
  ·exact(no a1 a2 b1).elim
 ·rcases h2 with⟨r,b1,b2,b3,b4,b5⟩|⟨r,b1,b2,b3,b4,b5⟩|⟨b1,b2,b3,b4,b5⟩|⟨b1,b2,b3,b4⟩
  ·exact(no b1 b2 a1).elim
  ·exact(no b1 b2 a1).elim
  ·exact⟨funext fun p=>propext ((a4 p).trans (b4 p).symm),a5.trans b5.symm⟩
  ·rcases b2 with b2|b2
   ·exact absurd b2 a2
   ·exact absurd b2 a3
 ·rcases h2 with⟨r,b1,b2,b3,b4,b5⟩|⟨r,b1,b2,b3,b4,b5⟩|⟨b1,b2,b3,b4,b5⟩|⟨b1,b2,b3,b4⟩
  ·exact(no b1 b2 a1).elim
  ·exact(no b1 b2 a1).elim
  ·rcases a2 with a2|a2
   ·exact absurd a2 b2
   ·exact absurd a2 b3
  ·exact⟨funext fun p=>propext ((a3 p).trans (b3 p).symm),a4.trans b4.symm⟩
section
variable {t:Pl} {k v:Vl}
theorem Pl.Ft(t:Pl)(k:Vl):(t.at k=-1/\∀p,Di t p->Ap p.key k=false)\/∃j:Nat,t.at k=(j:Int)/\j<t.n/\Ap (t.P j).key k=true:=by
 unfold Pl.at;rcases atF_rng (fun j=>cL (t.P j).key k) t.n 0 with h|⟨j,h1,h2,h3,h4,h5⟩
 ·refine .inl ⟨h,?_⟩;rintro p ⟨i,hi,rfl⟩;exact Fq h i (P9 _) (by omega)
 ·exact .inr ⟨j,h1,by omega,h4⟩
theorem Pl.PI(hu:∀i j,i<t.n->j<t.n->Ap (t.P i).key k=true->Ap (t.P j).key k=true->i=j):F3 (Di t) t.turns (t.full=true) k v (Di (t.put k v)) (t.put k v).turns:=by
 unfold Pl.put;rcases t.Ft k with⟨h1,h2⟩|⟨j,h1,h2,h3⟩
 ·rw[h1,Cs (by omega)];by_cases b:v.kind=0
  ·rw[C3 b];exact .inr (.inr (.inr ⟨h2,.inl b,fun p=>Iff.rfl,rfl⟩))
  ·rw[Cs b];by_cases hf:t.full=true
   ·rw[C3 hf];exact .inr (.inr (.inr ⟨h2,.inr hf,fun p=>Iff.rfl,rfl⟩))
   ·rw[Cs hf];refine .inr (.inr (.inl ⟨h2,b,hf,fun p=>?_,rfl⟩));constructor
    ·rintro⟨i,hi,e⟩;have hi:i<t.n+1:=hi;have e:AM t.P t.n ⟨k,v,t.turns+1⟩ i=p:=e;by_cases Nr:i=t.n
     ·rw[Nr,Ah]at e;exact .inr e.symm
     ·rw[Ag _ _ Nr]at e;exact .inl ⟨i,by omega,e⟩
    ·rintro(⟨i,hi,e⟩|rfl)
     ·exact⟨i,by show i<t.n+1;omega,by show AM t.P t.n _ i=_;rw[Ag _ _ (by omega)];exact e⟩
     ·exact⟨t.n,by show t.n<t.n+1;omega,by show AM t.P t.n _ t.n=_;rw[Ah]⟩
 ·rw[h1,C3 (by omega)];simp only[Lo];have Cy:∀i,i<t.n->(Ap (t.P i).key k=false↔i≠j):=fun i hi=>by
   constructor
   ·intro e e';rw[e',h3]at e;cases e
   ·intro e;cases h:Ap (t.P i).key k
    ·rfl
    ·exact absurd (hu i j hi h2 h h3) e
  by_cases b:v.kind=0
  ·rw[C3 b];refine .inl ⟨t.P j,⟨j,h2,rfl⟩,h3,b,fun p=>?_,rfl⟩;constructor
   ·rintro⟨i,hi,e⟩;have hi:i<t.n-1:=hi;have e:(if i<j then t.P i else t.P (i+1))=p:=e;by_cases a:i<j
    ·rw[C3 a]at e;subst e;exact⟨⟨i,by omega,rfl⟩,(Cy i (by omega)).2 (by omega)⟩
    ·rw[Cs a]at e;subst e;exact⟨⟨i+1,by omega,rfl⟩,(Cy (i+1) (by omega)).2 (by omega)⟩
   ·rintro⟨⟨i,hi,rfl⟩,hl⟩;have:=(Cy i hi).1 hl;by_cases a:i<j
    ·exact⟨i,by show i<t.n-1;omega,C3 a⟩
    ·refine⟨i-1,by show i-1<t.n-1;omega,?_⟩;show(if i-1<j then t.P (i-1)else t.P (i-1+1))=_;rw[Cs (by omega),show i-1+1=i by omega]
  ·rw[Cs b];refine .inr (.inl ⟨t.P j,⟨j,h2,rfl⟩,h3,b,fun p=>?_,rfl⟩);constructor
   ·rintro⟨i,hi,e⟩;have hi:i<t.n:=hi;have e:AM t.P j ⟨(t.P j).key,v,(t.P j).turn⟩ i=p:=e;by_cases a:i=j
    ·rw[a,Ah]at e;exact .inr e.symm
    ·rw[Ag _ _ a]at e;subst e;exact .inl ⟨⟨i,hi,rfl⟩,(Cy i hi).2 a⟩
   ·rintro(⟨⟨i,hi,rfl⟩,hl⟩|rfl)
    ·exact⟨i,hi,by show AM t.P j _ i=_;rw[Ag _ _ ((Cy i hi).1 hl)]⟩
    ·exact⟨j,h2,by show AM t.P j _ j=_;rw[Ah]⟩
theorem S7.put(h:S7 t)(d:0<=t.turns):S7 (t.put k v):=by
 unfold Pl.put;rcases t.Ft k with⟨h1,h2⟩|⟨j,h1,h2,h3⟩
 ·rw[h1,Cs (by omega)]
  split
  ·exact h
  ·split
   ·exact h
   ·refine⟨fun a b hab hb=>?_,fun a c=>?_⟩
    ·have hb:b<t.n+1:=hb;show(AM t.P t.n _ a).turn<(AM t.P t.n _ b).turn;rw[Ag _ _ (show a≠t.n by omega)];by_cases e:b=t.n
     ·rw[e,Ah];have:=h.le a (by omega);show _<t.turns+1;omega
     ·rw[Ag _ _ e];exact h.ord a b hab (by omega)
    ·have c:a<t.n+1:=c;show(AM t.P t.n _ a).turn<=t.turns+1;by_cases e:a=t.n
     ·rw[e,Ah];exact AaC _
     ·rw[Ag _ _ e];have:=h.le a (by omega);omega
 ·rw[h1,C3 (by omega)];simp only[Lo]
  split
  ·refine⟨fun a b hab hb=>?_,fun a c=>?_⟩
   ·have hb:b<t.n-1:=hb;show(if a<j then t.P a else t.P (a+1)).turn<(if b<j then t.P b else t.P (b+1)).turn
    split<;>split<;>exact h.ord _ _ (by omega) (by omega)
   ·have c:a<t.n-1:=c;show(if a<j then t.P a else t.P (a+1)).turn<=t.turns
    split<;>exact h.le _ (by omega)
  ·have e:∀a,(AM t.P j ⟨(t.P j).key,v,(t.P j).turn⟩ a).turn=(t.P a).turn:=fun a=>by
    unfold AM;split
    ·rename_i h;rw[h]
    ·rfl
   exact⟨fun a b hab hb=>by show(AM t.P j _ a).turn<(AM t.P j _ b).turn;rw[e,e];exact h.ord a b hab hb,fun a c=>by show(AM t.P j _ a).turn<=_;rw[e];exact h.le a c⟩
theorem Pl.Y4{p:Pr}(hu:∀i j,i<t.n->j<t.n->Ap (t.P i).key k=true->Ap (t.P j).key k=true->i=j)(a:Di t p)(hl:Ap p.key k=true):t.get k=p.val:=by
 unfold Pl.get;obtain⟨i,hi,rfl⟩:=a;rcases t.Ft k with⟨h1,h2⟩|⟨j,h1,h2,h3⟩
 ·rw[h2 _ ⟨i,hi,rfl⟩]at hl;cases hl
 ·rw[h1,Cs (by omega),Lo,hu i j hi h2 hl h3]
theorem Pl.WX(h:∀p,Di t p->Ap p.key k=false):t.get k=nov:=by
 unfold Pl.get;rcases t.Ft k with⟨h1,h2⟩|⟨j,h1,h2,h3⟩
 ·rw[h1,C3 (by omega)]
 ·rw[h _ ⟨j,h2,rfl⟩]at h3;cases h3
end
theorem Wm{a b:Pl}(hn:a.n=b.n)(h:∀i,i<a.n->a.P i=b.P i)(x:Ac):a.ask x=b.ask x:=by
 have e1:∀m,a.nextI m=b.nextI m:=fun m=>by
  unfold Pl.nextI;rw[<-hn];exact Kc _ _ fun j _ hj=>by rw[h j (by omega)]
 have e2:∀m,a.next m=b.next m:=fun m=>by
  unfold Pl.next;rw[<-e1 m];rcases FT (fun j=>decide (m<(a.P j).turn)) a.n with g|⟨j,g,hj,_⟩
  ·have g:a.nextI m=-1:=g;rw[g,C3 (by omega),C3 (by omega)]
  ·have g:a.nextI m=j:=g;rw[g,Cs (by omega),Cs (by omega),Lo,h j hj]
 have e3:∀m,a.has m=b.has m:=fun m=>by
  unfold Pl.has;rw[<-hn]
  congr 2
  exact Kc _ _ fun j _ hj=>by rw[h j (by omega)]
 have d:∀c m,Se a c m=Se b c m:=fun c=>by
  induction c with
  |zero=>intro m;rfl
  |succ c ih=>intro m;unfold Se;rw[e3,ih]
 have e:a.len=b.len:=by unfold Pl.len;rw[d,hn]
 unfold Pl.ask;rw[e2,hn,e]
end
section
theorem eG{a b:ByteArray}(h:a.toList=b.toList):a=b:=by
 have h2:=toList_inj h;cases a with
 |mk x=>cases b with
  |mk Z=>
   have:x=Z:=Array.toList_inj.1 h2;rw[this]
noncomputable def DR(s:AV)(x:Tb):Pl:=⟨VB s x,Ym s x,if x.shape=-1 then x.d.turns else x.nv⟩
section
variable {M:Nat} {s:AV} {x:Tb} {k v:Vl} {j:Nat} {d:Dc}
theorem Eu(h:x.shape=-1):DR s x=⟨II x.d,DX x.d,x.d.turns⟩:=by
 unfold DR VB Ym;rw[C3 h,C3 h,C3 h]
theorem Cq(h:x.shape=j):DR s x=⟨nf s.F j,Ey s j x,x.nv⟩:=by
 unfold DR VB Ym;rw[Cs (by omega),Cs (by omega),Cs (by omega),h,Lo]
theorem Y7:Di ⟨II d,DX d,d.turns⟩=Has d:=by
 funext p
 apply propext;constructor
 ·rintro⟨i,hi,rfl⟩;obtain⟨q,h1,h2,h3⟩:=aH hi;have h3:DX d i=d.L q:=h3;show Has d (DX d i);rw[h3];exact EY h1 h2
 ·rintro⟨i,h1,h2,rfl⟩;obtain⟨a,b⟩:=Xp h1 h2;exact⟨_,a,b⟩
theorem En(h:x.shape=-1):Di (DR s x)=Has x.d:=by rw[Eu h];exact Y7
theorem Zj{k i:Nat}:i∈AU d k↔i<k/\(d.L i).turn≠0:=by
 unfold AU;rw[List.mem_filter,AaR];simp
theorem ZN(h:Inv Ky hN d):S7 ⟨II d,DX d,d.turns⟩:=by
 have hg:∀{j:Nat} (hj:j<(AU d d.n).length),DX d j=d.L (AU d d.n)[j]/\(AU d d.n)[j]<d.n/\(d.L (AU d d.n)[j]).turn≠0:=fun{j} hj=>by
  have e:=Zj.1 (List.getElem_mem hj);refine⟨?_,e.1,e.2⟩;unfold DX;rw[Aab,List.getElem?_eq_getElem hj];rfl
 refine⟨fun a b hab hb=>?_,fun a c=>?_⟩
 ·have hb:b<(AU d d.n).length:=hb;have g1:=hg hb;have g2:=hg (Nat.lt_trans hab hb);show(DX d a).turn<(DX d b).turn;rw[g1.1,g2.1];exact h.i0.log.ord _ _ (List.pairwise_iff_getElem.1 (List.Pairwise.filter _ List.pairwise_lt_range) a b _ hb hab) g1.2.1 g2.2.2 g1.2.2
 ·have c:a<(AU d d.n).length:=c;have g:=hg c;show(DX d a).turn<=d.turns;rw[g.1];exact(h.entry (EY g.2.1 g.2.2)).2.1
theorem T4(hx:P1 M s x):S7 (DR s x):=by
 rcases hx.way with⟨e,_,d⟩|⟨j,e,hj,f,_⟩
 ·rw[Eu e];exact ZN d
 ·rw[Cq e];exact⟨fun a b hab hb=>by show(a:Int)+1<(b:Int)+1;omega,fun a c=>by have c:a<nf s.F j:=c;show(a:Int)+1<=x.nv;omega⟩
theorem Ip{a:ByteArray}(h:Ap (A7 a) k=true):k.kind=4/\a.toList=k.str.toList:=by
 refine⟨?_,(Gj h).2.1⟩;unfold Ap at h;simp only[OR,beq_iff_eq]at h;exact h.1.symm
theorem OO{a:ByteArray}(hk:Ky k)(h4:k.kind=4)(h:a.toList=k.str.toList):Ap (A7 a) k=true:=by
 have h1:=hk.1;unfold Db Vl.ok AB at h1;simp[h4]at h1;unfold Ap A7;simp only[OR,beq_iff_eq];refine⟨h4.symm,?_,?_,h,?_⟩
 ·have:=h1.1.1.1;simpa using this.symm
 ·exact WU WV (by simpa using h1.1.1.2)
 ·have:=h1.1.2;simpa using this.symm
theorem Nj(i:Fg M s)(hx:P1 M s x)(hk:Ky k):∀p q,Di (DR s x) p->Di (DR s x) q->Ap p.key k=true->Ap q.key k=true->p=q:=by
 intro p q c hq h1 h2;rcases hx.way with⟨e,_,d⟩|⟨j,e,hj,l,_⟩
 ·rw[En e]at c hq;exact d.uniq c hq (BA.trans _ _ _ (d.keyOf c) hk (d.keyOf hq) h1 (BA.symm _ _ (d.keyOf hq) hk h2))
 ·rw[Cq e]at c hq;obtain⟨a,g,rfl⟩:=c;obtain⟨b,hb,rfl⟩:=hq;have g:a<nf s.F j:=g;have hb:b<nf s.F j:=hb;have e1:=(Ip (a:=DF s.F j a) h1).2;have e2:=(Ip (a:=DF s.F j b) h2).2;have hab:a=b:=by
   rcases AaL a b with h|h|h
   ·exact absurd (e1.trans e2.symm) (Kf i.f hj h hb)
   ·exact h
   ·exact absurd (e2.trans e1.symm) (Kf i.f hj h g)
  subst hab;rfl
theorem Ua{t:Pl}(hs:S7 t)(hu:∀p q,Di t p->Di t q->Ap p.key k=true->Ap q.key k=true->p=q):∀i j,i<t.n->j<t.n->Ap (t.P i).key k=true->Ap (t.P j).key k=true->i=j:=by
 intro i j hi hj h1 h2;have e:=hu _ _ ⟨i,hi,rfl⟩ ⟨j,hj,rfl⟩ h1 h2;rcases AaL i j with h|h|h
 ·have:=hs.ord i j h hj;rw[e]at this;omega
 ·exact h
 ·have:=hs.ord j i h hi;rw[e]at this;omega
theorem aZ(h:Inv Ky hN d)(hk:Ky k){p:Pr}(a:Has d p)(hl:Ap p.key k=true):GB d (AE d k (hN k))=p.val:=by
 obtain⟨i,a1,a2,rfl⟩:=a;rcases h.i0.place BA hk with⟨j,h1,h2,h3,h4⟩|⟨h1,h2⟩
 ·have e:i=j:=by
   by_cases e:i=j
   ·exact e
   ·have:=(Ho BA h.i0 hk h1 h2 h3 a1 a2).2 e;rw[this]at hl;cases hl
  subst e;have h4:AE d k (hN k)=i:=h4;rw[h4];unfold GB;rw[C3 (by omega)];simp
 ·rw[h1 i a1 a2]at hl;cases hl
theorem Ra(h:Fg M s)(hx:P1 M s x)(hk:Ky k){p:Pr}(b:Di (DR s x) p)(hl:Ap p.key k=true):CX s.F x k=p.val/\p.val.kind≠0:=by
 rcases hx.way with⟨e,_,g⟩|⟨j,e,hj,i,_,c⟩
 ·rw[En e]at b;refine⟨?_,(g.entry b).2.2.2⟩;unfold CX;rw[C3 (by omega)];exact aZ g hk b hl
 ·rw[Cq e]at b;obtain⟨a,d,rfl⟩:=b;have d:a<nf s.F j:=d;obtain⟨e1,e2⟩:=Ip (a:=DF s.F j a) hl;obtain⟨_,h2,h3,_,h5⟩:=Au h.f;have b:=PF h2 h3 h5 hj k.str d e2;refine⟨?_,?_⟩
  ·unfold CX;rw[Cs (by omega),e,Lo,b,C3 ⟨e1,by omega⟩,Lo];rfl
  ·have:=(c a (by omega)).1;simp[MQ]at this;exact this.2
theorem Vz(l:Fg M s)(hx:P1 M s x)(hk:Ky k)(h:∀p,Di (DR s x) p->Ap p.key k=false):CX s.F x k=nov:=by
 rcases hx.way with⟨e,_,m⟩|⟨j,e,hj,n,_,o⟩
 ·rw[En e]at h;unfold CX;rw[C3 (by omega)];rcases m.i0.place BA hk with⟨j,d,a,g,q⟩|⟨d,a⟩
  ·rw[h _ (EY d a)]at g;cases g
  ·rw[a];rfl
 ·rw[Cq e]at h;unfold CX;rw[Cs (by omega),e,Lo];by_cases hc:k.kind=4/\0<=BW s.F j k.str
  ·exfalso;obtain⟨_,h2,h3,_,h5⟩:=Au l.f;by_cases hn:∀i,i<nf s.F j->(DF s.F j i).toList≠k.str.toList
   ·have:=MV h2 h3 hj k.str hn;omega
   ·obtain⟨i,hi⟩:=Classical.not_forall.1 hn;obtain⟨b,c⟩:=Classical.not_imp.1 hi;have:=h (Ey s j x i) ⟨i,b,rfl⟩;rw[show(Ey s j x i).key=A7 (DF s.F j i)from rfl,OO hk hc.1 (Classical.not_not.1 c)]at this;cases this
  ·rw[Cs hc]
theorem Qd(h:Inv Ky hN d)(hk:Ky k)(b:v.ok=true){full:Prop}(c:full↔d.live=500\/d.turns=1000000000000):F3 (Has d) d.turns full k v (Has (CB hN d k v)) (CB hN d k v).turns:=by
 have hi:=Gs BA h hk hk.1 b;have h1:=hi.i0.le;have h2:=hi.i0.turns;have h3:=h.i0.le;have h4:=h.i0.turns;rcases Hu BA h hk hk.1 b with⟨q,a1,a2,a3,a4,a5,a⟩|⟨q,a1,a2,a3,a4,a5,a⟩|⟨a1,a2,a3,a4,a5⟩|⟨a1,a2,a3⟩
 ·exact .inl ⟨q,a1,a2,a3,a4,a⟩
 ·exact .inr (.inl ⟨q,a1,a2,a3,a4,a⟩)
 ·exact .inr (.inr (.inl ⟨a1,a2,by rw[c];omega,a3,a5⟩))
 ·refine .inr (.inr (.inr ⟨a1,?_,fun p=>by rw[a3],by rw[a3]⟩));by_cases e:v.kind=0
  ·exact .inl e
  ·right;rw[c];by_cases h5:d.live=500
   ·exact .inl h5
   ·right;by_cases f:d.turns=1000000000000
    ·exact f
    ·exact absurd ⟨e,by omega,by omega⟩ a2
theorem Ik(e:x.shape=-1)(a:Inv Ky hN x.d):(DR s x).full=true↔x.d.live=500\/x.d.turns=1000000000000:=by
 have hc:(II x.d:Int)=x.d.live:=a.i0.log.EM;rw[Eu e];unfold Pl.full;simp only[Bool.or_eq_true,beq_iff_eq];omega
theorem Pk(a:Fg M s)(hx:P1 M s x)(e:x.shape=j)(hj:j<s.nf):(DR s x).full=false:=by
 have:=IU a.f hj;rcases hx.way with⟨e',_⟩|⟨i,e',_,b,_⟩
 ·omega
 ·obtain rfl:i=j:=by omega
  rw[Cq e];unfold Pl.full;simp only[Bool.or_eq_false_iff,beq_eq_false_iff_ne];omega
theorem has_eq{a b:Pl}(hn:a.n=b.n)(h:∀i,i<a.n->a.P i=b.P i):Di a=Di b:=by
 funext p
 apply propext;constructor
 ·rintro⟨i,hi,rfl⟩;exact⟨i,by omega,(h i hi).symm⟩
 ·rintro⟨i,hi,rfl⟩;exact⟨i,by omega,h i (by omega)⟩
end
section
variable {M:Nat} {s:AV} {t:Nat} {k v:Vl}
theorem VD{s s':AV}{x:Tb}(hn:∀i:Nat,x.shape=i->nf s'.F i=nf s.F i/\∀q,DF s'.F i q=DF s.F i q)(hx:x.shape=-1\/∃j:Nat,x.shape=j):DR s' x=DR s x:=by
 rcases hx with e|⟨j,e⟩
 ·rw[Eu e,Eu e]
 ·rw[Cq e,Cq e,(hn j e).1]
  congr 1
  funext q
  unfold Ey;rw[(hn j e).2]
theorem XM(o:Fg M s)(ht:t<s.nt)(hk:Ky k)(hz:k.kind=4->k=A7 k.str)(hv:v.ok=true)(hw:Wf v):
  F3 (Di (DR s (s.T t))) (DR s (s.T t)).turns ((DR s (s.T t)).full=true) k v (Di (DR (BO s t k v) ((BO s t k v).T t))) (DR (BO s t k v) ((BO s t k v).T t)).turns/\
  (∀u,u<s.nt->u≠t->DR (BO s t k v) ((BO s t k v).T u)=DR s (s.T u))/\(BO s t k v).nt=s.nt/\(BO s t k v).ns=s.ns/\(BO s t k v).S=s.S:=by
 have hx:=o.t t ht;have hU:=Ua (T4 hx) (Nj o hx hk);have ae:k.kind=4->k.str.size<=4000:=fun h=>by
  have h1:=hk.1;unfold Db Vl.ok AB at h1;simp[h]at h1;omega
 have w:∀{x':Tb} {u:Nat},u<s.nt->u≠t->DR (Cg s t x') ((Cg s t x').T u)=DR s (s.T u):=fun{x'} {u} hu c=>by
  show DR (Cg s t x') (AM s.T t x' u)=_;rw[Ag _ _ c];rfl
 by_cases A:v.kind=0/\(CX s.F (s.T t) k).kind=0
 ·have e:BO s t k v=s:=by
   have:Ce s (s.T t) k v=.no:=C3 A;unfold BO;rw[this]
  rw[e];refine⟨.inr (.inr (.inr ⟨fun p hp=>?_,.inl A.1,fun p=>Iff.rfl,rfl⟩)),fun _ _ _=>rfl,rfl,rfl,rfl⟩;cases hl:Ap p.key k
  ·rfl
  ·obtain⟨g1,g2⟩:=Ra o hx hk hp hl;rw[g1]at A;exact absurd A.2 g2
 rcases KE s (s.T t) k v with h|⟨h,h0,h1,h2,h3⟩|⟨h,h0,h1,h2,h3,h4⟩|⟨h,h0⟩|⟨h,h0,h1⟩|⟨h,h0,h1⟩
 ·exfalso;unfold Ce at h;rw[Cs A]at h
  split at h
  ·split at h
   ·split at h
    ·cases h
    ·split at h<;>cases h
   ·cases h
  ·split at h<;>cases h
 ·rcases hx.way with⟨e,_⟩|⟨j,e,hj,E,hb,H⟩
  ·omega
  ·have I:(s.T t).shape.toNat=j:=by omega
   rw[I]at h3;rcases JK o.f hj k.str with h4|⟨i,h4,h5⟩
   ·omega
   have es:BO s t k v=Cg s t (Dn (s.T t) i v):=by unfold BO;rw[h];simp only[I,h4,Lo]
   rw[es];refine⟨?_,fun u hu c=>w hu c,rfl,rfl,rfl⟩;have K:Ap ((DR s (s.T t)).P i).key k=true:=by
    obtain⟨_,Q,C,_,q5⟩:=Au o.f;rw[Cq e];refine OO hk h1 ?_;by_cases hn:∀q,q<nf s.F j->(DF s.F j q).toList≠k.str.toList
    ·have:=MV Q C hj k.str hn;omega
    ·obtain⟨q,hq⟩:=Classical.not_forall.1 hn;obtain⟨af,X⟩:=Classical.not_imp.1 hq;have:=PF Q C q5 hj k.str af (Classical.not_not.1 X);obtain rfl:q=i:=by omega
     exact Classical.not_not.1 X
   have Nr:i<(DR s (s.T t)).n:=by rw[Cq e];exact h5
   have ep:(DR s (s.T t)).put k v=(DR s (s.T t)).EE i v:=by
    unfold Pl.put;rcases(DR s (s.T t)).Ft k with⟨_,g⟩|⟨q,g1,g2,g3⟩
    ·rw[g _ ⟨i,Nr,rfl⟩]at K;cases K
    ·obtain rfl:q=i:=hU q i g2 Nr g3 K;rw[g1,C3 (by omega),Cs h2,Lo]
   have et:DR (Cg s t (Dn (s.T t) i v)) ((Cg s t (Dn (s.T t) i v)).T t)=(DR s (s.T t)).EE i v:=by
    show DR (Cg s t (Dn (s.T t) i v)) (AM s.T t (Dn (s.T t) i v) t)=_;rw[Ah,Cq (x:=Dn (s.T t) i v) (j:=j) e,Cq e];show(⟨_,_,_⟩:Pl)=⟨_,AM (Ey s j (s.T t)) i _,_⟩
    congr 1
    funext q
    by_cases hq:q=i
    ·rw[hq,Ah];show(⟨_,AM (s.T t).V i v i,_⟩:Pr)=_;rw[Ah];rfl
    ·rw[Ag _ _ hq];show(⟨_,AM (s.T t).V i v q,_⟩:Pr)=_;rw[Ag _ _ hq];rfl
   rw[et,<-ep];exact Pl.PI hU
 ·rcases hx.way with⟨e,_⟩|⟨j,e,hj,E,hb,H⟩
  ·omega
  ·have I:(s.T t).shape.toNat=j:=by omega
   rw[I]at h3 h4;obtain⟨r,hr⟩:∃r:Nat,EN s.nf s.F j k.str=r:=⟨(EN s.nf s.F j k.str).toNat,by omega⟩;obtain⟨g1,g2,g3,g4,g5⟩:=Oe o hj (ae h1) h3 hr;have es:BO s t k v={Cg s t (CI (s.T t) r v)with nf:=Em s.nf s.F j k.str,F:=C6 s.nf s.F j k.str}:=by unfold BO;rw[h];simp only[I,hr]
   rw[es];obtain⟨_,Q,C,_,q5⟩:=Au o.f;obtain⟨_,p2,p3,_,_⟩:=Au g1;have B:∀q,q<s.nf->nf (C6 s.nf s.F j k.str) q=nf s.F q:=fun q hq=>MP g3 hq
   have Z:∀q,q<s.nf->∀a,DF (C6 s.nf s.F j k.str) q a=DF s.F q a:=fun q hq a=>UB Q C g3 hq a
   refine⟨?_,fun u hu c=>?_,rfl,rfl,rfl⟩
   ·have R:∀p,Di (DR s (s.T t)) p->Ap p.key k=false:=by
     rw[Cq e];rintro p ⟨a,m,rfl⟩;have m:a<nf s.F j:=m;cases hl:Ap (Ey s j (s.T t) a).key k
     ·rfl
     ·have:=PF Q C q5 hj k.str m (Ip (a:=DF s.F j a) hl).2;omega
    have l:=Pk o hx e hj;have ep:(DR s (s.T t)).put k v=(DR s (s.T t)).add k v:=by
     unfold Pl.put;rcases(DR s (s.T t)).Ft k with⟨g,_⟩|⟨q,q1,Q,C⟩
     ·rw[g,Cs (by omega),Cs h2,l];rfl
     ·rw[R _ ⟨q,Q,rfl⟩]at C;cases C
    have U:=Pl.PI (t:=DR s (s.T t)) (k:=k) (v:=v) hU;rw[ep]at U;show F3 _ _ _ k v (Di (DR _ (AM s.T t (CI (s.T t) r v) t))) (DR _ (AM s.T t (CI (s.T t) r v) t)).turns;rw[Ah];have ag:DR ({Cg s t (CI (s.T t) r v)with nf:=Em s.nf s.F j k.str,F:=C6 s.nf s.F j k.str}:AV) (CI (s.T t) r v)=⟨nf (C6 s.nf s.F j k.str) r,Ey {Cg s t (CI (s.T t) r v)with nf:=Em s.nf s.F j k.str,F:=C6 s.nf s.F j k.str} r (CI (s.T t) r v),((s.T t).nv+1:Nat)⟩:=Cq (x:=CI (s.T t) r v) (j:=r) rfl;rw[ag];have eh:Di ⟨nf (C6 s.nf s.F j k.str) r,Ey {Cg s t (CI (s.T t) r v)with nf:=Em s.nf s.F j k.str,F:=C6 s.nf s.F j k.str} r (CI (s.T t) r v),((s.T t).nv+1:Nat)⟩=Di ((DR s (s.T t)).add k v):=by
     have e1:nf (C6 s.nf s.F j k.str) r=nf s.F j+1:=by rw[Pw p2 p3 g5,B j hj]
     refine has_eq (by rw[Cq e];exact e1) fun a m=>?_
     have m:a<nf (C6 s.nf s.F j k.str) r:=m;rw[e1]at m;rw[Cq e];show(⟨A7 (DF (C6 s.nf s.F j k.str) r a),AM (s.T t).V (s.T t).nv v a,(a:Int)+1⟩:Pr)=AM (Ey s j (s.T t)) (nf s.F j) ⟨k,v,((s.T t).nv:Int)+1⟩ a;by_cases ea:a=nf s.F j
     ·have e2:=Ph p2 p3 g5;rw[B j hj]at e2;rw[ea,Ah,eG e2,<-hz h1,<-E,Ah]
     ·rw[Ag _ _ ea,Ag _ _ (by omega),YZ p2 p3 g5 (by rw[B j hj];omega),Z j hj];rfl
    rw[eh];have e3:((DR s (s.T t)).add k v).turns=(((s.T t).nv+1:Nat):Int):=by rw[Cq e];show((s.T t).nv:Int)+1=_;omega
    rw[e3]at U;exact U
   ·show DR _ (AM s.T t (CI (s.T t) r v) u)=_;rw[Ag _ _ c];have ad:=(o.t u hu).way;refine VD (fun i hi=>?_) (ad.elim (fun a=>.inl a.1) (fun⟨i,a,_⟩=>.inr ⟨i,a⟩));rcases ad with⟨a,_⟩|⟨i',a,b,_⟩
    ·omega
    ·obtain rfl:i'=i:=by omega
     exact⟨B i' b,Z i' b⟩
 ·rcases hx.way with⟨e,_⟩|⟨j,e,hj,E,hb,H⟩
  ·omega
  ·have I:(s.T t).shape.toNat=j:=by omega
   have D:=Gk o.f hj (W:=(s.T t).V) (fun q hq=>(H q (by omega)).1) (s.T t).nv (by omega);have es:BO s t k v=Cg s t (Dk (s.T t) (Bc s.F j (s.T t).V (s.T t).nv) k v):=by unfold BO;rw[h];simp only[I]
   rw[es];refine⟨?_,fun u hu c=>w hu c,rfl,rfl,rfl⟩;show F3 _ _ _ k v (Di (DR _ (AM s.T t (Dk (s.T t) (Bc s.F j (s.T t).V (s.T t).nv) k v) t))) (DR _ (AM s.T t (Dk (s.T t) (Bc s.F j (s.T t).V (s.T t).nv) k v) t)).turns;rw[Ah];have e9:(Dk (s.T t) (Bc s.F j (s.T t).V (s.T t).nv) k v).shape=-1:=rfl;rw[En e9,Eu e9];have e1:Di (DR s (s.T t))=Has (Bc s.F j (s.T t).V (s.T t).nv):=by
    rw[Cq e]
    funext p
    apply propext;constructor
    ·rintro⟨a,m,rfl⟩;have m:a<nf s.F j:=m;have:=D.L a (by omega);refine⟨a,by rw[D.n];omega,by rw[this];show(a:Int)+1≠0;omega,this⟩
    ·rintro⟨a,m,_,rfl⟩;rw[D.n]at m;exact⟨a,by show a<nf s.F j;omega,(D.L a m).symm⟩
   have e2:(DR s (s.T t)).turns=(Bc s.F j (s.T t).V (s.T t).nv).turns:=by rw[Cq e,D.turns]
   have l:=Pk o hx e hj;have ah:=IU o.f hj;rw[e1,e2];refine Qd D.ls.inv hk hv ?_;rw[l,D.live,D.turns];constructor
   ·intro h;cases h
   ·intro h;omega
 ·rcases hx.way with⟨e,e2,hI⟩|⟨j,e,_⟩
  ·have es:BO s t k v=Cg s t (Dk (s.T t) (s.T t).d k v):=by unfold BO;rw[h]
   rw[es];refine⟨?_,fun u hu c=>w hu c,rfl,rfl,rfl⟩;show F3 _ _ _ k v (Di (DR _ (AM s.T t (Dk (s.T t) (s.T t).d k v) t))) (DR _ (AM s.T t (Dk (s.T t) (s.T t).d k v) t)).turns;rw[Ah];have e9:(Dk (s.T t) (s.T t).d k v).shape=-1:=rfl;rw[En e9,Eu e9,En e,show(DR s (s.T t)).turns=(s.T t).d.turns by rw[Eu e]];exact Qd hI hk hv (Ik e hI)
  ·omega
 ·rcases hx.way with⟨e,e2,hI⟩|⟨j,e,_⟩
  ·have es:BO s t k v=s:=by unfold BO;rw[h]
   rw[es];unfold El at h1;simp only[OR,Bool.or_eq_true,AaJ]at h1;refine⟨.inr (.inr (.inr ⟨fun p hp=>?_,.inr ((Ik e hI).2 h1.2.2),fun p=>Iff.rfl,rfl⟩)),fun _ _ _=>rfl,rfl,rfl,rfl⟩;rw[En e]at hp;cases hl:Ap p.key k
   ·rfl
   ·have:=Gn hI hk hp hl;omega
  ·omega
end
end
section
structure L6 (s:AV) (D:Ds):Prop where
 nt:s.nt=D.nt
 ns:s.ns=D.ns
 si:∀i,i<s.ns->(s.S i).key=D.S i
 has:∀i,i<s.nt->Di (DR s (s.T i))=Di (D.T i)
 tu:∀i,i<s.nt->(DR s (s.T i)).turns=(D.T i).turns
 dG:∀i,i<s.nt->S7 (D.T i)
section
variable {M:Nat} {s:AV} {D:Ds} {t:Nat} {k v:Vl}
theorem L6.same(h:L6 s D)(b:Fg M s)(a:t<s.nt):(DR s (s.T t)).n=(D.T t).n/\∀i,i<(DR s (s.T t)).n->(DR s (s.T t)).P i=(D.T t).P i:=(T4 (b.t t a)).same (h.dG t a) (h.has t a)
theorem L6.full(h:L6 s D)(b:Fg M s)(a:t<s.nt):(DR s (s.T t)).full=(D.T t).full:=by
 unfold Pl.full;rw[(h.same b a).1,h.tu t a]
theorem L6.uniq(h:L6 s D)(b:Fg M s)(a:t<s.nt)(hk:Ky k):∀i j,i<(D.T t).n->j<(D.T t).n->Ap ((D.T t).P i).key k=true->Ap ((D.T t).P j).key k=true->i=j:=
 Ua (h.dG t a) (by have:=Nj b (b.t t a) hk;rwa [h.has t a]at this)
theorem VF(a:Fg M s)(b:t<s.nt):0<=(DR s (s.T t)).turns:=by
 rcases(a.t t b).way with⟨e,_,c⟩|⟨j,e,hj,d,_⟩
 ·rw[Eu e];exact c.i0.turns.1
 ·rw[Cq e];show(0:Int)<=((s.T t).nv:Int);omega
theorem L6.code(h:L6 s D)(g:Fg M s)(i:t<s.nt)(hk:Ky k):C2 s t k v=(D.T t).code k v:=by
 have hx:=g.t t i;have a:Ce s (s.T t) k v=.full↔(∀p,Di (DR s (s.T t)) p->Ap p.key k=false)/\v.kind≠0/\(DR s (s.T t)).full=true:=by
  constructor
  ·intro b;rcases KE s (s.T t) k v with h|⟨h,_⟩|⟨h,_⟩|⟨h,_⟩|⟨h,_⟩|⟨h,q,h1⟩
   ·rw[h]at b;cases b
   ·rw[h]at b;cases b
   ·rw[h]at b;cases b
   ·rw[h]at b;cases b
   ·rw[h]at b;cases b
   ·rcases hx.way with⟨e,e2,c⟩|⟨j,e,_⟩
    ·unfold El at h1;simp only[OR,Bool.or_eq_true,AaJ]at h1;refine⟨fun p m=>?_,h1.1,(Ik e c).2 h1.2.2⟩;rw[En e]at m;cases hl:Ap p.key k
     ·rfl
     ·have:=Gn c hk m hl;omega
    ·omega
  ·rintro⟨h1,h2,h3⟩;rcases hx.way with⟨e,e2,c⟩|⟨j,e,hj,_⟩
   ·have hf:El (s.T t).d k v=true:=by
     unfold El;simp only[OR,Bool.or_eq_true,AaJ];refine⟨h2,?_,(Ik e c).1 h3⟩;rw[En e]at h1;rcases c.i0.place BA hk with⟨j,n,l,o,r⟩|⟨n,l⟩
     ·rw[h1 _ (EY n l)]at o;cases o
     ·rw[l];decide
    unfold Ce;rw[Cs (fun h=>h2 h.1),Cs (by omega),C3 hf]
   ·rw[Pk g hx e hj]at h3;cases h3
 unfold C2 Pl.code;rw[h.has t i,h.full g i]at a;rcases(D.T t).Ft k with⟨g1,g2⟩|⟨j,g1,g2,g3⟩
 ·rw[g1,Cs (show¬(0:Int)<=-1 by decide)];by_cases f:v.kind=0
  ·rw[C3 f,Cs (fun b=>(a.1 b).2.1 f)]
  ·rw[Cs f];by_cases hf:(D.T t).full=true
   ·rw[C3 hf,C3 (a.2 ⟨g2,f,hf⟩)]
   ·rw[Cs hf,Cs (fun b=>hf (a.1 b).2.2)]
 ·rw[g1,C3 (show(0:Int)<=(j:Int) by omega),Cs (fun b=>?_)];have:=(a.1 b).1 _ ⟨j,g2,rfl⟩;rw[g3]at this;cases this
theorem L6.put(h:L6 s D)(b:Fg M s)(a:t<s.nt)(hk:Ky k)(hz:k.kind=4->k=A7 k.str)(d:v.ok=true)(f:Wf v):L6 (BO s t k v) (D.Gt t k v):=by
 obtain⟨p1,p2,g,j,l⟩:=XM b a hk hz d f;have c:=Pl.PI (t:=D.T t) (k:=k) (v:=v) (h.uniq b a hk);rw[<-h.has t a,<-h.tu t a,<-h.full b a]at c;obtain⟨d1,d2⟩:=F3.kK p1 c (Nj b (b.t t a) hk);refine⟨by rw[g];exact h.nt,by rw[j];exact h.ns,fun i hi=>by rw[l];exact h.si i (by omega),fun i hi=>?_,fun i hi=>?_,fun i hi=>?_⟩
 ·show _=Di (AM D.T t _ i);by_cases e:i=t
  ·subst e;rw[Ah];exact d1
  ·rw[Ag _ _ e,p2 i (by omega) e];exact h.has i (by omega)
 ·show _=(AM D.T t _ i).turns;by_cases e:i=t
  ·subst e;rw[Ah];exact d2
  ·rw[Ag _ _ e,p2 i (by omega) e];exact h.tu i (by omega)
 ·show S7 (AM D.T t _ i);by_cases e:i=t
  ·subst e;rw[Ah];exact(h.dG i a).put (by rw[<-h.tu i a];exact VF b a)
  ·rw[Ag _ _ e];exact h.dG i (by omega)
theorem L6.get(h:L6 s D)(b:Fg M s)(c:t<s.nt)(hk:Ky k):CX s.F (s.T t) k=(D.T t).get k:=by
 by_cases a:∃p,Di (DR s (s.T t)) p/\Ap p.key k=true
 ·obtain⟨p,a,hl⟩:=a;rw[(Ra b (b.t t c) hk a hl).1];rw[h.has t c]at a;exact(Pl.Y4 (h.uniq b c hk) a hl).symm
 ·have hn:∀p,Di (DR s (s.T t)) p->Ap p.key k=false:=fun p hq=>by
   cases hl:Ap p.key k
   ·rfl
   ·exact absurd ⟨p,hq,hl⟩ a
  rw[Vz b (b.t t c) hk hn];rw[h.has t c]at hn;exact(Pl.WX hn).symm
theorem L6.find(h:L6 s D)(i t:Nat):L6 (Ba s i t) D:=by
 refine⟨h.nt,h.ns,fun q hq=>?_,h.has,h.tu,h.dG⟩;show(AM s.S i (Ej s i t) q).key=_;by_cases e:q=i
 ·subst e;rw[Ah];have:(Ej s q t).key=(s.S q).key:=by unfold Ej;split;rfl;split<;>rfl
  rw[this];exact h.si q hq
 ·rw[Ag _ _ e];exact h.si q hq
theorem WK(a:Fg M s){i:Nat}(hi:i<s.ns)(b:t<s.nt):(if 0<=Bg s i t then(s.T t).V (Bg s i t).toNat else CX s.F (s.T t) (A7 (s.S i).key))=CX s.F (s.T t) (A7 (s.S i).key):=by
 by_cases h:0<=Bg s i t
 ·rw[C3 h];obtain⟨j,q,e1,e2,e3,d,c⟩:=Gg a hi b h;unfold CX;rw[Cs (by omega),e1,Lo,C3 ⟨rfl,by show 0<=BW s.F j (s.S i).key;omega⟩,e3];show _=(s.T t).V (BW s.F j (s.S i).key).toNat;rw[c]
 ·rw[Cs h]
theorem Qi(c:Fg M s){i:Nat}(hi:i<s.ns)(d:t<s.nt)(a:v.kind≠0)(h:0<=Bg s i t):BO (Ba s i t) t (A7 (s.S i).key) v=Cg (Ba s i t) t (Dn (s.T t) (Bg s i t).toNat v)/\C2 (Ba s i t) t (A7 (s.S i).key) v=0:=by
 obtain⟨j,q,e1,e2,e3,f,e⟩:=Gg c hi d h;have b:Ce (Ba s i t) ((Ba s i t).T t) (A7 (s.S i).key) v=.DF:=by
  unfold Ce;rw[Cs (fun h=>a h.1)];show(if 0<=(s.T t).shape then _ else _)=_;rw[C3 (by omega),C3 ⟨rfl,a⟩];show(if 0<=BW s.F (s.T t).shape.toNat (s.S i).key then _ else _)=_;rw[e1,Lo,C3 (by omega)]
 constructor
 ·unfold BO;rw[b];show Cg (Ba s i t) t (Dn (s.T t) (BW s.F (s.T t).shape.toNat (s.S i).key).toNat v)=_;rw[e1,Lo,e,e3]
 ·unfold C2;rw[b];rfl
theorem L6.step(h:L6 s D)(d:Fg M s)(a:Ac)(p:Wf a.k)(r:Wf a.v)(hz:(Bw a.k).kind=4->Bw a.k=A7 (Bw a.k).str):L6 (FH s a) (D.step a)/\Lk s a=D.I6 a:=by
 unfold FH Ds.step Lk Ds.I6;rw[<-h.nt,<-h.ns];by_cases hc:FL a s.nt s.ns=0
 case neg=>rw[Cs hc,Cs hc,Cs hc,Cs hc];exact⟨h,rfl⟩
 rw[C3 hc,C3 hc,C3 hc,C3 hc];obtain⟨c1,c2,c3,c4⟩:=Eg hc;obtain⟨r1,r2,E,A,H,_,_⟩:=BX c1;unfold Df Ds.FB FO Ds.Hh;by_cases h1:a.op=1
 ·rw[C3 h1,C3 h1,C3 h1,C3 h1,<-h.nt];by_cases hn:s.nt=100
  ·simp only[C3 hn];exact⟨h,trivial⟩
  ·simp only[Cs hn];refine⟨⟨rfl,h.ns,h.si,fun i hi=>?_,fun i hi=>?_,fun i hi=>?_⟩,trivial⟩
   ·have hi:i<s.nt+1:=hi;show Di (DR _ (AM s.T s.nt SL i))=Di (AM D.T s.nt _ i);by_cases e:i=s.nt
    ·rw[e,Ah,Ah];obtain⟨_,h2,_⟩:=Au d.f;refine has_eq ?_ fun q hq=>?_
     ·rw[Cq (x:=SL) (j:=0) rfl];show(s.F 0).count.toNat=0;rw[h2.2.2];rfl
     ·exfalso;rw[Cq (x:=SL) (j:=0) rfl]at hq;have hq:q<(s.F 0).count.toNat:=hq;rw[h2.2.2]at hq;exact absurd hq (NO _)
    ·rw[Ag _ _ e,Ag _ _ e];exact h.has i (by omega)
   ·have hi:i<s.nt+1:=hi;show(DR _ (AM s.T s.nt SL i)).turns=(AM D.T s.nt _ i).turns;by_cases e:i=s.nt
    ·rw[e,Ah,Ah,Cq (x:=SL) (j:=0) rfl];rfl
    ·rw[Ag _ _ e,Ag _ _ e];exact h.tu i (by omega)
   ·have hi:i<s.nt+1:=hi;show S7 (AM D.T s.nt _ i);by_cases e:i=s.nt
    ·rw[e,Ah];exact⟨fun a b _ hb=>absurd hb (NO _),fun a C=>absurd C (NO _)⟩
    ·rw[Ag _ _ e];exact h.dG i (by omega)
 rw[Cs h1,Cs h1,Cs h1,Cs h1];by_cases g:a.op=7
 ·rw[C3 g,C3 g,C3 g,C3 g,<-h.ns];by_cases hn:s.ns=50
  ·simp only[C3 hn];exact⟨h,trivial⟩
  ·simp only[Cs hn];refine⟨⟨h.nt,rfl,fun i hi=>?_,h.has,h.tu,h.dG⟩,trivial⟩;have hi:i<s.ns+1:=hi;show(AM s.S s.ns _ i).key=AM D.S s.ns _ i;by_cases e:i=s.ns
   ·rw[e,Ah,Ah]
   ·rw[Ag _ _ e,Ag _ _ e];exact h.si i (by omega)
 rw[Cs g,Cs g,Cs g,Cs g];have c:a.t.toNat<s.nt:=by have:=c2 (by simp[B7,h1,g]);omega
 by_cases h2:a.op=2
 ·rw[C3 h2,C3 h2,C3 h2,C3 h2];have hk:=JE p (c4 (.inl h2));exact⟨h.put d c hk hz A r,by rw[h.code d c hk]⟩
 rw[Cs h2,Cs h2,Cs h2,Cs h2];by_cases l:a.op=9
 ·rw[Cs (show¬a.op=8 by omega),C3 l,C3 l,C3 l,C3 l];have hs:a.site.toNat<s.ns:=by have:=c3 (by simp[Cp,l]);omega
  have hk:=F5 (d.si _ hs).1;have u:=Ij d hs c;have B:=h.find a.site.toNat a.t.toNat;have m:=B.put (t:=a.t.toNat) (k:=A7 (s.S a.site.toNat).key) (v:=a.v) u c hk (fun _=>rfl) A r;have n:=B.code (t:=a.t.toNat) (k:=A7 (s.S a.site.toNat).key) (v:=a.v) u c hk;have e2:(if 0<=Bg s a.site.toNat a.t.toNat/\a.v.kind≠0 then Cg (Ba s a.site.toNat a.t.toNat) a.t.toNat (Dn (s.T a.t.toNat) (Bg s a.site.toNat a.t.toNat).toNat a.v)else BO (Ba s a.site.toNat a.t.toNat) a.t.toNat (A7 (s.S a.site.toNat).key) a.v)=BO (Ba s a.site.toNat a.t.toNat) a.t.toNat (A7 (s.S a.site.toNat).key) a.v:=by
   split
   ·rename_i w;exact(Qi d hs c w.2 w.1).1.symm
   ·rfl
  have e3:(if 0<=Bg s a.site.toNat a.t.toNat/\a.v.kind≠0 then AO 0 else AO (C2 (Ba s a.site.toNat a.t.toNat) a.t.toNat (A7 (s.S a.site.toNat).key) a.v))=AO (C2 (Ba s a.site.toNat a.t.toNat) a.t.toNat (A7 (s.S a.site.toNat).key) a.v):=by
   split
   ·rename_i w;rw[(Qi d hs c w.2 w.1).2]
   ·rfl
  rw[e2,e3,n,h.si _ hs];rw[h.si _ hs]at m;exact⟨m,rfl⟩
 rw[Cs l,Cs l,Cs l,Cs l];by_cases o:a.op=8
 ·rw[C3 o,Cs (show¬a.op=3 by omega),Cs (show¬a.op=3 by omega),C3 o,C3 o];have hs:a.site.toNat<s.ns:=by have:=c3 (by simp[Cp,o]);omega
  have hk:=F5 (d.si _ hs).1;refine⟨h.find _ _,?_⟩;rw[WK d hs c,h.get d c hk,h.si _ hs]
 rw[Cs o,Cs o,Cs o];refine⟨h,?_⟩;by_cases h3:a.op=3
 ·rw[C3 h3,C3 h3];rw[h.get d c (JE p (c4 (.inr h3)))]
 rw[Cs h3,Cs h3];obtain⟨e1,e2⟩:=h.same d c;exact Wm (a:=TV s a.t.toNat) (b:=D.T a.t.toNat) e1 e2 a
end
theorem PN{d:AV}{f:Nat->Ac}{n:Nat}(e:L6 d bQ)(b:Fg 0 d)(c:d.nt=0)(a:∀i,i<n->Wf (f i).k/\Wf (f i).v)(hz:∀i,i<n->(Bw (f i).k).kind=4->Bw (f i).k=A7 (Bw (f i).k).str)(hn:n<=1000):∀q,q<=n->L6 (CV d f q) (FR f q)
 |0,_=>e
 |q+1,hq=>((PN e b c a hz hn q (by omega)).step (Jt b c a hn (show q<=n by omega)) (f q) (a q hq).1 (a q hq).2 (hz q hq)).1
theorem T3{d:AV}{f:Nat->Ac}{n:Nat}(e:L6 d bQ)(b:Fg 0 d)(c:d.nt=0)(a:∀i,i<n->Wf (f i).k/\Wf (f i).v)(hz:∀i,i<n->(Bw (f i).k).kind=4->Bw (f i).k=A7 (Bw (f i).k).str)(hn:n<=1000){q:Nat}(hq:q<n):Mg d f q=FN f q:=
 ((PN e b c a hz hn q (by omega)).step (Jt b c a hn (show q<=n by omega)) (f q) (a q hq).1 (a q hq).2 (hz q hq)).2
end
theorem H8{v:Vl}(h:RB v):Wf v:=⟨h.2.1,by have:=h.1;unfold maxLen;omega⟩
theorem Ri{v:Vl}(h:RB v)(h4:(Bw v).kind=4):Bw v=A7 (Bw v).str:=by
 have d:v.ok=true/\v.kind=4/\Bw v=v:=by
  unfold Bw at h4 ⊢;by_cases a:v.ok=true
  ·rw[C3 a]at h4 ⊢;by_cases b:v.kind=0
   ·rw[C3 b]at h4;exact absurd h4 (by decide)
   ·rw[Cs b]at h4 ⊢;by_cases h3:v.kind=3
    ·rw[C3 h3]at h4;by_cases hn:Ea v.Ae=true
     ·rw[C3 hn]at h4;exact absurd h4 (by decide)
     ·rw[Cs hn]at h4;by_cases c:B2 v.Ae=true
      ·rw[C3 c]at h4;exact absurd h4 (by show¬(2:Int)=4;decide)
      ·rw[Cs c]at h4;omega
    ·rw[Cs h3]at h4 ⊢;exact⟨a,h4,rfl⟩
  ·rw[Cs a]at h4;exact absurd h4 (by decide)
 obtain⟨a,hk,e⟩:=d;rw[e];unfold Vl.ok AB at a;simp only[hk]at a;simp at a;obtain⟨⟨⟨e1,e2⟩,e3⟩,f⟩:=a;have hf:v.Ae=0:=WH (by unfold Nx;simpa[fz]using e2) h.2.1 (by decide) h.2.2 (by decide);cases v;simp only at hk e1 e3 hf;subst hk e1 e3 hf;rfl
theorem SF:L6 E0 bQ:=⟨rfl,rfl,fun i hi=>absurd hi (NO _),fun i hi=>absurd hi (NO _),fun i hi=>absurd hi (NO _),fun i hi=>absurd hi (NO _)⟩
theorem Fg.ok{M:Nat}{s:AV}(h:Fg M s):Fe s (Dz s)=0:=by
 refine Ye h.f ⟨h.nt,h.ns⟩ (fun i hi=>?_) h.si;rcases(h.t i hi).way with⟨h1,h2,h3⟩|⟨j,h1,h2,h3,h4,h5⟩
 ·exact .inl ⟨h1,h2,FW h3⟩
 ·obtain⟨r1,r2,a,_,_⟩:=Au h.f;have hc:=(BC (k:=s.nf) r2 (fun q h1 h2=>a q h1 h2) j h2).1;refine .inr ⟨by omega,by omega,?_⟩;rw[h1,Lo];refine⟨?_,h4,fun q hq=>(h5 q hq).1⟩;rw[h3];unfold nf;omega
theorem Fg.gO{s:AV}(h:V7 s):Ug s:=by
 obtain⟨r1,r2,a,_,_⟩:=Au h.f;refine⟨⟨by have:=r1.2;omega,fun i hi=>?_⟩,by have:=h.nt;omega,fun{i} hi=>?_,fun{i} hi=>O4.small (h.t i hi),by have:=h.ns;omega⟩
 ·by_cases c:i=0
  ·subst c;have:=r2.2.1;have e:=congrArg List.length (toList_inj (b:=⟨#[]⟩) (this.trans (by kernel_rfl)));have e2:(s.F 0).key.size=0:=by show(s.F 0).key.data.size=0;rw[<-Array.length_toList];exact e
   omega
  ·have:=(a i (by omega) hi).2.2.2.2;omega
 ·rcases(h.t i hi).way with⟨_,h2,_⟩|⟨j,_,h2,h3,_⟩
  ·omega
  ·rw[h3];have:=IU h.f h2;omega
theorem Fg.kC{M:Nat}{s:AV}(h:Fg M s):gQ s:=fun i hi=>by
 refine⟨?_,(h.t i hi).wf⟩;rcases(h.t i hi).way with⟨_,h2,_⟩|⟨j,_,_,_,_,h5⟩
 ·intro q hq;omega
 ·exact fun q hq=>(h5 q hq).2
theorem VM(x:An)(w:Y):C9 35 #[DS x,DS x] w (R9 (.bool true) w):=by
 obtain⟨W,b⟩:∃W,W=(w.alloc (.cells #[J x.code,J x.num,J x.key.kind,J x.key.num,F9 x.key.Ae,.string x.key.str,J x.key.ref,J x.val.kind,J x.val.num,F9 x.val.Ae,.string x.val.str,J x.val.ref] 45)).alloc (.cells #[J x.code,J x.num,J x.key.kind,J x.key.num,F9 x.key.Ae,.string x.key.str,J x.key.ref,J x.val.kind,J x.val.num,F9 x.val.Ae,.string x.val.str,J x.val.ref] 45):=⟨_,rfl⟩;have c:B9 w W:=by rw[b];exact(n9).alloc (by simp) _
 have hz:W.heap.size=w.heap.size+1+1:=by rw[b];simp
 have b0:W.heap[w.heap.size]?=some (.cells (EX x).toArray 45 (0,0)):=by rw[b];exact(Fs _ _ _ (by simp)).trans (BE _ _)
 have b1:W.heap[w.heap.size+1]?=some (.cells (EX x).toArray 45 (0,0)):=by
  rw[b];have h:=BE (w.alloc (.cells (EX x).toArray 45)) (.cells (EX x).toArray 45);rw[show(w.alloc (.cells (EX x).toArray 45)).heap.size=w.heap.size+1 by simp]at h;exact h
 obtain⟨x0,x1,x2,n,x4,o,p,q,r,s,g,i⟩:=An.read b0;obtain⟨t,u,v,A,B,C,D,E,F,H,j,k⟩:=An.read b1;have d:=O c;have I:=O b0;have K:=O b1;have l0:w.heap.size<W.heap.size:=by omega
 have l1:w.heap.size+1<W.heap.size:=by omega
 clear c b0 b1
 go_enter func35,ntmps35
 go_upto_region 1 with fail
 rw[<-b];clear b;go_wp2_with fail
 refine m9 (IB _ _ _ _ _ _) fun w1 a=>?_
 have m:=a.size;obtain⟨_,_,_,_,_,_,_,Q,R,S,fY,L⟩:=An.read ((a.block _ l0).trans I);obtain⟨_,_,_,_,_,_,_,T,U,V,M,P⟩:=An.read ((a.block _ l1).trans K);have m0:w.heap.size<w1.heap.size:=by omega
 have m1:w.heap.size+1<w1.heap.size:=by omega
 have e:=O (d.trans (a.mono d.size));clear a x0 x1 x2 n x4 o p q r s g i t u v A B C D E F H j k;go_wp2_with fail
 refine m9 (IB _ _ _ _ _ _) fun w2 f=>?_
 have l:=O (e.trans (f.mono e.size));clear f;go_wp2;go_ret;exact⟨rfl,l⟩
theorem IZ.read{w:Y}{B g a n:Nat}{f:Nat->An}(h:IZ w B (S9 g n a) n f){i:Nat}(hi:i<n):∀j u,(EX (f i))[j]?=some u->w.cell? (G g (i*12+j))=some u:=fun j u hu=>by
 have hj:j<12:=(On.1 hu).1;rw[I9 h (i*12+j) (by omega),YJ hi hj,hu]
theorem IZ.form{w:Y}{B n:Nat}{v:V9}{f:Nat->An}(h:IZ w B v n f)(hn:0<n):∃g c,v=S9 g n c/\g<w.heap.size:=by
 obtain⟨_,⟨b,d⟩|⟨g,cap,cur,b,hb,a,_⟩⟩:=id h
 ·omega
 ·exact⟨g,cap,b,Aj a⟩
theorem EJ(B B':Nat)(v v':V9)(n:Nat)(f:Nat->An)(w:Y)(hA:IZ w B v n f)(o:IZ w B' v' n f)(hn:n<=1000):
  C9 38 #[v,v'] w (R9 (.bool true) w):=by
 obtain⟨P,Q,rfl⟩:=Ao hA;obtain⟨A,C,rfl⟩:=Ao o;have t:=O hA;have x:=O o;clear hA o
 go_enter func38,ntmps38
 go_wp2;go_loopw [13] (fun i wr=>∃(k:Nat),k<=n/\i=J k/\B9 w wr) (fun i _=>n-(intOf i).toNat)
 case atStart=>exact⟨0,by omega,rfl,DD _ _⟩
 case round=>
  obtain⟨k,hk,rfl,hb⟩:=hrel;by_cases e:k<n
  ·obtain⟨b,c1,e1,g⟩:=t.form (by omega);obtain⟨b',c2,e2,c⟩:=x.form (by omega);cases e1;cases e2;have a:=fun j u h=>(hb.cell (p:=(G b (k*12+j))) g).trans (t.read e j u h)
   have hs:=fun j u h=>(hb.cell (p:=(G b' (k*12+j))) c).trans (x.read e j u h)
   have e0:=a 0 _ rfl;have e1:=a 1 _ rfl;have e2:=a 2 _ rfl;have e3:=a 3 _ rfl;have D:=a 4 _ rfl;have E:=a 5 _ rfl;have F:=a 6 _ rfl;have H:=a 7 _ rfl;have I:=a 8 _ rfl;have L:=a 9 _ rfl;have q:=a 10 _ rfl;have r:=a 11 _ rfl;have d0:=hs 0 _ rfl;have d1:=hs 1 _ rfl;have d2:=hs 2 _ rfl;have d3:=hs 3 _ rfl;have d4:=hs 4 _ rfl;have d5:=hs 5 _ rfl;have d6:=hs 6 _ rfl;have d7:=hs 7 _ rfl;have d8:=hs 8 _ rfl;have d9:=hs 9 _ rfl;have d10:=hs 10 _ rfl;have d11:=hs 11 _ rfl;simp only[Nat.add_zero]at e0 d0;have hx:b<wr.heap.size:=Be g hb.size;have M:b'<wr.heap.size:=Be c hb.size;have l:=O hb;clear hb a hs;go_wp2_with fail
   refine qr wr ?_;refine N (h:=N (h:=N (h:=N (h:=N (h:=N (h:=N (h:=N (h:=?_))))))));refine GS (fun K hK=>?_);go_simp;refine⟨_,fun w' s=>qk s (VM (f k) _),hK _ ?_⟩;clear hK K;refine N (h:=?_);refine GO ?_;intro w2 m;have d:=O (l.trans (m.mono l.size));clear m e0 e1 e2 e3 D E F H I L q r d0 d1 d2 d3 d4 d5 d6 d7 d8 d9 d10 d11;go_wp2;go_roundw
   case rel=>exact⟨k+1,by omega,by go_num,d⟩
   case measure=>simp[intOf];omega
  ·have:k=n:=by omega
   subst this;have d:=O hb;clear hb;go_wp2;go_ret;exact⟨rfl,d⟩
theorem IM(aa:T9)(n a:Nat)(w:Y)(hn:1000<n):
  C9 23 #[.slice aa n a] w (R9 (.agg #[.bool false,N9,N9,N9,N9]) w):=by
 have c:decide ((1000:Int)<n)=true:=by simp;omega
 have b:Hid (B9 w (w.alloc (.cells #[.bool false,N9,N9,N9,N9] 62))):=O (n9)
 go_enter func23,ntmps23
 go_wp2;refine DO (v:=.agg #[.bool false,N9,N9,N9,N9]) (by simp[results,results23,go_sem]) rfl ⟨rfl,b⟩
theorem KA(aa:T9)(n a:Nat)(w:Y)(hn:1000<n):
  C9 37 #[.slice aa n a] w (R9 (gP false (N9) (N9)) w):=by
 have d0:decide ((1000:Int)<(n:Int))=true:=by simp;omega
 go_enter func37,ntmps37
 go_wp2;exact DO (v:=gP false (N9) (N9)) (by simp[results,results37,go_sem]) rfl ⟨rfl,n9⟩
theorem NN(s:AV)(b0 g A:Nat)(B Z:Nat->Nat)(M:Nat->Option Nat)(x:Si)(j:Nat)(w:Y)(H:fT x)(hN:Nd w s b0 g B Z M)(C:Ar s.nf s.F=0)(i:j<s.nf)(D:0<=x.place):
  C9 112 #[SJ (j:Int) x,.slice (some (G g 0)) s.nf A] w (R9 (.bool (BW s.F j x.key==x.place)) w):=by
 obtain⟨h1,h2,h3,h4,h5⟩:=H;have q:(decide (0<=x.EB)&&decide (x.EB<=1000000000000))=true:=by simp;omega
 have r:(decide (0<=x.Bh)&&decide (x.Bh<=1000000000000))=true:=by simp;omega
 have I:=hN.lt;have L:((j:Int)==-1)=false:=by simp
 have P:=O C;have Q:=O hN;have k:B9 w (w.alloc (.cells #[.string x.key,J j,J x.place,J x.EB,J x.Bh] 103)):=n9;have E:=O k;clear k C hN
 go_enter func112,ntmps112
 go_wp2_with fail
 refine m9 (FX x.EB _) fun w1 d=>?_
 rw[q];obtain⟨b,t⟩:=AJ d;have u:=d.size;simp at u;have o:w.heap.size<w1.heap.size:=by omega
 have c0:w1.cell? (y w 0)=some (.string x.key):=by rw[b _ _ (by simp)];simp[go_sem]
 have c1:w1.cell? (y w 1)=some (J j):=by rw[b _ _ (by simp)];simp[go_sem]
 have c2:w1.cell? (y w 2)=some (J x.place):=by rw[b _ _ (by simp)];simp[go_sem]
 have c3:w1.cell? (y w 4)=some (J x.Bh):=by rw[b _ _ (by simp)];simp[go_sem]
 have l:=O (E.trans (d.mono E.size));clear d b t;go_wp2_with fail
 refine m9 (FX x.Bh _) fun W a=>?_
 rw[r];have l0:w.heap.size<W.heap.size:=Be o a.size;have V:=(a.cell (p:=(y w 0)) o).trans c0;have R:=(a.cell (p:=(y w 1)) o).trans c1;have X:=(a.cell (p:=(y w 2)) o).trans c2;have f:=O (l.trans (a.mono l.size));have m:=O (Q.below f);have lg:g<W.heap.size:=by omega
 clear a c0 c1 c2 c3;have S:(decide ((0:Int)<=(j:Int))&&decide ((j:Int)<(s.nf:Int)))=true:=by simp;omega
 have T:decide (0<=x.place)=true:=by simpa using D
 have cg:=m.eN j i;clear D;go_wp2_with fail
 refine qr W ?_;refine N (h:=N (h:=N (h:=?_)));refine GS (fun K hK=>?_);go_simp;apply Exists.intro;refine And.intro (fun w' c=>?_) (hK _ ?_)
 ·refine((S▸K2 (some (G g 0)) s.nf A (j:Int) _)).mono ?_;rintro e U ⟨rfl,hb⟩;exact⟨rfl,c.trans (hb.mono c.size)⟩
 clear hK K;refine N (h:=N (h:=N (h:=N (h:=N (h:=N (h:=N (h:=N (h:=N (h:=N (h:=N (h:=N (h:=?_))))))))))));refine N (h:=?_);refine GS (fun K hK=>?_);go_simp;refine⟨_,fun w' c=>qk c (Nd.place (m.below c) P i x.key),hK _ ?_⟩;clear hK K;refine N (h:=N (h:=N (h:=N (h:=N (h:=?_)))));refine GO ?_;intro w2 n;have v:=O (f.trans (n.mono f.size));clear n;go_wp2;go_ret;exact⟨rfl,v⟩
theorem SG(s:AV)(b0 g b:Nat)(B Z:Nat->Nat)(M:Nat->Option Nat)(x:Si)(w:Y)(hN:Nd w s b0 g B Z M)(d:Ar s.nf s.F=0)(c:Rr s x):
  C9 112 #[SV x,S9 g s.nf b] w (R9 (.bool true) w):=by
 have a:=fU c;rw[<-Bl c];unfold SV;by_cases h1:x.shape=-1
 ·rw[Xu (s:=s) a h1,h1];exact M9 (some (G g 0)) s.nf b x w a
 ·have q:0<=x.shape/\x.shape<s.nf/\0<=x.place:=Decidable.byContradiction fun q=>by have:=Zu h1 q;rw[Bl c]at this;cases this
  obtain⟨j,hj⟩:∃j:Nat,x.shape=j:=⟨x.shape.toNat,by omega⟩;rw[cR (j:=j) a hj (by omega) q.2.2,hj];exact NN s b0 g b B Z M x j w a hN d (by omega) q.2.2
theorem Nk(T:World->Prop)(r:DT T)(va:T9)(vc:Nat)(la:T9)(lc:Nat)(ia:T9)(ic:Nat)(xa:T9)(xc:Nat)(t:Tb)(w:Y)(s:T w)(u:Hg w va t.nv t.V)(v:t.nv=0)(hA:Gy w la ia xa t.d)(hD:SZ T la lc ia ic xa xc t.d 0):
  C9 350 #[iM va vc la lc ia ic xa xc t] w (R9 (.bool true) w):=by
 have A:=O v;clear v;obtain⟨W,c⟩:∃W,W=w.alloc (.cells #[.slice va t.nv vc,.slice la t.d.n lc,.slice ia t.d.m ic,.slice xa t.d.x xc,J t.d.used,J t.d.live,J t.d.turns] 239):=⟨_,rfl⟩;have f:B9 w W:=by rw[c];exact(DD _ _).alloc (A0 _) _
 have b:w.heap.size<W.heap.size:=by rw[c];simp
 have x0:W.cell? (y w 0)=some (.slice va t.nv vc):=by rw[c];simp[go_sem]
 have x1:W.cell? (y w 1)=some (.slice la t.d.n lc):=by rw[c];simp[go_sem]
 have x2:W.cell? (y w 2)=some (.slice ia t.d.m ic):=by rw[c];simp[go_sem]
 have B:W.cell? (y w 3)=some (.slice xa t.d.x xc):=by rw[c];simp[go_sem]
 have x4:W.cell? (y w 4)=some (J t.d.used):=by rw[c];simp[go_sem]
 have C:W.cell? (y w 5)=some (J t.d.live):=by rw[c];simp[go_sem]
 have D:W.cell? (y w 6)=some (J t.d.turns):=by rw[c];simp[go_sem]
 have E:=O (u.below f rfl);have F:=O (hA.below f);have k:=O (r _ _ s f);have H:=O hD;have g:=O f;clear f u hA hD s
 go_enter func350,ntmps350
 go_wp2_with fail
 rw[<-c];clear c;refine m9 (KW va vc la lc ia ic xa xc t 0 _ E (by have:=z A;omega)) fun w1 a=>?_
 obtain⟨I,p1,p2,K,L,M,P⟩:w1.cell? (y w 0)=some (.slice va t.nv vc)/\w1.cell? (y w 1)=some (.slice la t.d.n lc)/\w1.cell? (y w 2)=some (.slice ia t.d.m ic)/\w1.cell? (y w 3)=some (.slice xa t.d.x xc)/\w1.cell? (y w 4)=some (J t.d.used)/\w1.cell? (y w 5)=some (J t.d.live)/\w1.cell? (y w 6)=some (J t.d.turns):=
  ⟨(a.cell (p:=(y w 0)) b).trans x0,(a.cell (p:=(y w 1)) b).trans x1,(a.cell (p:=(y w 2)) b).trans x2,(a.cell (p:=(y w 3)) b).trans B,(a.cell (p:=(y w 4)) b).trans x4,(a.cell (p:=(y w 5)) b).trans C,(a.cell (p:=(y w 6)) b).trans D⟩
 have l:=O (F.below a);have o:=O (r _ _ k a);have h:=O (g.trans (a.mono g.size));clear a x0 x1 x2 B x4 C D;rw[Bl (p:=KD t/\(t.nv:Int)=0) (by have:=z A;exact⟨fun i hi=>by omega,by omega⟩)];go_wp2_with fail
 refine(H _ o l).mono ?_;rintro e w2 ⟨rfl,j⟩;have q:=O (h.trans (j.mono h.size));clear j I p1 p2 K L M P;go_wp2;go_ret;exact⟨rfl,q⟩
theorem PK(va:T9)(vc:Nat)(la:T9)(lc:Nat)(ia:T9)(ic:Nat)(xa:T9)(xc:Nat)(t:Tb)(s:AV)(j p:Nat)(w:Y)(r:Hg w va t.nv t.V)(hn:t.nv<=1048576)(u:p<w.heap.size)(h3:w.cell? (G p 3)=some (J (s.F j).count))(i:jG s j t):
  C9 343 #[V8 p va vc la lc ia ic xa xc t] w (R9 (.bool true) w):=by
 obtain⟨W,b⟩:∃W,W=w.alloc (.cells #[.slice va t.nv vc,.slice la t.d.n lc,.slice ia t.d.m ic,.slice xa t.d.x xc,J t.d.used,J t.d.live,J t.d.turns,.pointer (some (G p 0))] 236):=⟨_,rfl⟩;have c:B9 w W:=by rw[b];exact(DD _ _).alloc (A0 _) _
 have v:w.heap.size<W.heap.size:=by rw[b];simp
 have x0:W.cell? (y w 0)=some (.slice va t.nv vc):=by rw[b];simp[go_sem]
 have x1:W.cell? (y w 1)=some (.slice la t.d.n lc):=by rw[b];simp[go_sem]
 have x2:W.cell? (y w 2)=some (.slice ia t.d.m ic):=by rw[b];simp[go_sem]
 have B:W.cell? (y w 3)=some (.slice xa t.d.x xc):=by rw[b];simp[go_sem]
 have x4:W.cell? (y w 4)=some (J t.d.used):=by rw[b];simp[go_sem]
 have C:W.cell? (y w 5)=some (J t.d.live):=by rw[b];simp[go_sem]
 have D:W.cell? (y w 6)=some (J t.d.turns):=by rw[b];simp[go_sem]
 have E:W.cell? (y w 7)=some (.pointer (some (G p 0))):=by rw[b];simp[go_sem]
 have H:W.cell? (G p 3)=some (J (s.F j).count):=(c.cell (p:=(G p 3)) u).trans h3;have I:p<W.heap.size:=by omega
 have A:=O (r.below c rfl);have f:=O c;clear c r;have k:=Bl (p:=KD t/\(t.nv:Int)=(s.F j).count) ⟨i.2.2,i.1⟩;have l:=Bl i.2.1;clear i
 go_enter func343,ntmps343
 go_wp2_with fail
 rw[<-b];clear b;refine qr W ?_;refine N (h:=N (h:=N (h:=N (h:=N (h:=N (h:=N (h:=N (h:=?_))))))));refine GS (fun K hK=>?_);go_simp;apply Exists.intro;refine And.intro (fun w' a=>?_) (hK _ ?_)
 ·refine((k▸KW va vc la lc ia ic xa xc t (s.F j).count _ (A.below a rfl) hn)).mono ?_;rintro e o ⟨rfl,hb⟩;exact⟨rfl,a.trans (hb.mono a.size)⟩
 clear hK K;refine N (h:=N (h:=N (h:=?_)));refine GS (fun K hK=>?_);go_simp;apply Exists.intro;refine And.intro (fun w' a=>?_) (hK _ ?_)
 ·refine((l▸Nz va t.nv vc la lc ia ic xa xc t.d _)).mono ?_;rintro e o ⟨rfl,hb⟩;exact⟨rfl,a.trans (hb.mono a.size)⟩
 clear hK K;refine N (h:=N (h:=?_));refine GO ?_;intro w2 g;have q:=O (f.trans (g.mono f.size));clear g;go_wp2;go_ret;exact⟨rfl,q⟩
theorem K4(T:World->Prop)(hL:DT T)(m fc:Nat)(ta:T9)(tc:Nat)(sa:T9)(sc:Nat)(s:AV)(D:Nat->Int)(A:Nat->Ad)(w:Y)(az:T w)(hF:Du w m s.nf s.F)(hT:RA w ta s.nt s.T A)(hS:L4 w sa s.ns s.S)(hs:Ug s)
  (hD:∀i,i<s.nt->D i=0->∀la lc ia ic xa xc,SZ T la lc ia ic xa xc (s.T i).d 0) (h0:Fe s D=0):
  C9 55 #[iO (some (G m 0)) fc ta tc sa sc s] w fun e w'=>(∃g cp B Z M v b1,e=.returned (.tuple #[.agg #[.slice (some (G g 0)) s.nf cp,v],J 0])/\Nd w' s w.heap.size g B Z M/\w'.ownsRow b1 162 1 v s.nt (kL B A s s.nt))/\B9 w w':=by
 obtain⟨z1,z2,z3,z4⟩:=JX h0;have Z3:=O z3;have Z4:=O z4;have H1:=O z1;have d2:¬100<s.nt:=by omega
 have d3:¬50<s.ns:=by omega
 clear h0 z1 z2 z3 z4;have bq:=hF.lt;have cl:=hs.nt;have cm:=hs.n;have br:=hs.f.1;obtain⟨i0,hi,bt,bu,bw⟩:=Tn MA;have bx:=O hs;have HD:=O hD;obtain⟨W,R⟩:∃W,W=(w.alloc (.cells #[.slice (some (G m 0)) s.nf fc,.slice ta s.nt tc,.slice sa s.ns sc] 42)).alloc (.cells #[N9,N9] 118):=⟨_,rfl⟩;have P:B9 w W:=by rw[R];exact(n9).alloc (by simp) _
 have aM:W.heap.size=w.heap.size+1+1:=by rw[R];simp
 have x0:W.cell? (y w 0)=some (.slice (some (G m 0)) s.nf fc):=by rw[R];simp[go_sem]
 have x1:W.cell? (y w 1)=some (.slice ta s.nt tc):=by rw[R];simp[go_sem]
 have x2:W.cell? (y w 2)=some (.slice sa s.ns sc):=by rw[R];simp[go_sem]
 have r0:W.cell? (Y9 w 0)=some (N9):=by rw[R];simp[go_sem]
 have r1:W.cell? (Y9 w 1)=some (N9):=by rw[R];simp[go_sem]
 have f0:W.frozen? (Y9 w 0)=false:=by rw[R];simp[go_sem]
 have f1:W.frozen? (Y9 w 1)=false:=by rw[R];simp[go_sem]
 have lm:m<W.heap.size:=by omega
 have lw:w.heap.size<W.heap.size:=by omega
 have lr:w.heap.size+1<W.heap.size:=by omega
 have HF:=O (hF.below P bq);have HT:=O (hT.below P);have HS:=O (hS.below P rfl);have bz:=O (hL _ _ az P);have a6:=O P;have HZ:=O aM;clear hs hD P hF hT hS az aM
 go_enter func55,ntmps55
 go_wp2_with fail
 rw[<-R];clear R;refine(Oj m s.nf fc s.F _ HF br).mono ?_;rintro e w1 ⟨hj,C⟩;have y1:=(C.cell (p:=(y w 1)) lw).trans x1;have y2:=(C.cell (p:=(y w 2)) lw).trans x2;have s0:=(C.cell (p:=(Y9 w 0)) lr).trans r0;have s1:=(C.cell (p:=(Y9 w 1)) lr).trans r1;have g0:=(C.frozen (p:=(Y9 w 0)) lr).trans f0;have g1:=(C.frozen (p:=(Y9 w 1)) lr).trans f1;have a7:w.heap.size<w1.heap.size:=Be lw C.size;have af:w.heap.size+1<w1.heap.size:=Be lr C.size;have a8:=O (a6.trans (C.mono a6.size));rcases hj with⟨r,rfl,hr,b2⟩|⟨g,cp,B,Z,M,rfl,h1,hN,hid,⟨b3,b4⟩,aj⟩
 ·exact absurd (hr.trans H1) b2
 clear b4;have ad:g≠w.heap.size+1:=fun e=>by
  have bb:=aj 0 (by have:=(Au h1).1.1;omega);rw[e,s0]at bb;cases bb
 have bc:Hid (Nd w1 s (w.heap.size+1+1) g B Z M):=O ⟨(z HZ)▸hN,hid,b3,aj⟩;have b5:=O (HT.below C);have b6:=O (HS.below C rfl);have av:=O (hL _ _ bz C);clear h1 hN hid aj C x0 x1 x2 r0 r1 f0 f1 HF HT HS;go_wp2;go_loopw [6,35] (fun v i wr=>∃(k:Nat),k<=s.nt/\i=J k/\wr.ownsRow w1.heap.size 162 1 v k (kL B A s k)/\B9 w1 wr) (fun _ i _=>s.nt-(intOf i).toNat)
 case atStart=>exact⟨0,by omega,rfl,ON _ _ _ _,DD _ _⟩
 case round=>
  obtain⟨k,hk,rfl,ho,hb⟩:=hrel;have p1:=(hb.cell (p:=(y w 1)) a7).trans y1;have p2:=(hb.cell (p:=(y w 2)) a7).trans y2;have cn:=hb.size;by_cases t:k<s.nt
  case pos=>
   obtain⟨b,off,rfl,ak,hcs⟩:=b5.resolve_left (by omega);obtain⟨e0,e1,e2,e3,e4,e5,e6,e7⟩:=(hcs k t).1.R7 (fun q _=>hb.cell (p:=(G b (off+k*8+q))) ak);have K:Hid (∀o,B9 w (wr.alloc o)):=O (fun o=>(a8.trans (hb.mono (by omega))).alloc (by omega) _);have H:Hid (∀o,B9 w1 (wr.alloc o)):=O (fun o=>hb.alloc (by omega) _);have L:Hid (Hg wr (A k).va (s.T k).nv (s.T k).V/\Gy wr (A k).la (A k).ia (A k).xa (s.T k).d/\T wr/\Nd wr s (w.heap.size+1+1) g B Z M):=O ⟨(hcs k t).2.1.below hb rfl,(hcs k t).2.2.below hb,hL _ _ av hb,bc.below hb⟩;have cq:w.heap.size<wr.heap.size:=by omega
   have ao:=O ho;have aw:=O ho.lt;have b7:=bx.nv t;clear hcs ho;by_cases I:(s.T k).shape=-1
   case' pos=>
    have bd:Hid (AF B (A k) (s.T k)=.iface 239 (IJ (A k) (s.T k))):=O (C3 I);have ag:Hid (dQ s (D k) (s.T k)↔((s.T k).nv=0/\D k=0)):=O ⟨fun h=>by rcases h with h|h;exact h.2;omega,fun h=>.inl ⟨I,h⟩⟩;rw[I]at e0;clear I hb;go_wp2_with fail
    refine m9 (QD (some (G g 0)) s.nf cp (A k) (s.T k) _) fun w3 l=>?_
    have z3:=l.size;simp at z3;have Q:=O ((K _).trans (l.mono (K _).size));have ah:=O ((H _).trans (l.mono (H _).size));have E:=O (((DD wr.heap.size wr).alloc (A0 _) (.cells #[J (-1),.slice (A k).va (s.T k).nv (A k).vc,.slice (A k).la (s.T k).d.n (A k).lc,.slice (A k).ia (s.T k).d.m (A k).ic,.slice (A k).xa (s.T k).d.x (A k).xc,J (s.T k).d.used,J (s.T k).d.live,J (s.T k).d.turns] 94)).trans (l.mono (by simp)));clear e0 e1 e2 e3 e4 e5 e6 e7 p1 p2 l;go_wp2_with fail
    refine(Nk T hL (A k).va (A k).vc (A k).la (A k).lc (A k).ia (A k).ic (A k).xa (A k).xc (s.T k) _ (hL _ _ L.2.2.1 E) (L.1.below E rfl) (ag.1 (Z3 k t)).1 (L.2.1.below E) (HD k t (ag.1 (Z3 k t)).2 _ _ _ _ _ _)).mono ?_
   case' neg=>
    have aq:0<=(s.T k).shape/\(s.T k).shape<s.nf:=by
     rcases z Z3 k t with h|h
     ·exact absurd h.1 I
     ·exact⟨h.1,h.2.1⟩
    obtain⟨j,hj⟩:∃j:Nat,(s.T k).shape=j:=⟨(s.T k).shape.toNat,by omega⟩;have ar:j<s.nf:=by omega
    have bd:Hid (AF B (A k) (s.T k)=.iface 236 (B4 (B j) (A k) (s.T k))):=O (by unfold AF;rw[Cs I,hj];rfl);have ag:Hid (dQ s (D k) (s.T k)↔jG s j (s.T k)):=O ⟨fun h=>by
     rcases h with h|h
     ·exact absurd h.1 I
     ·have:=h.2.2;rwa [hj]at this,fun h=>.inr ⟨aq.1,aq.2,by rw[hj];exact h⟩⟩
    rw[hj]at e0;have ai:=L.2.2.2;have bf:=ai.eN j ar;obtain⟨b8,bg⟩:=ai.EM ar;have ax:=ai.lt;clear I aq hj ai hb;have b9:=O bf;have ay:=O bg;clear bf bg;go_wp2_with fail
    refine m9 (U6 g s.nf cp (B j) (A k) (s.T k) j _ ar (by simp;omega) ((GC _ _ _ (by exact ax)).trans b9)) fun w3 l=>?_
    have z3:=l.size;simp at z3;have Q:=O ((K _).trans (l.mono (K _).size));have ah:=O ((H _).trans (l.mono (H _).size));have E:=O (((DD wr.heap.size wr).alloc (A0 _) (.cells #[J (j:Int),.slice (A k).va (s.T k).nv (A k).vc,.slice (A k).la (s.T k).d.n (A k).lc,.slice (A k).ia (s.T k).d.m (A k).ic,.slice (A k).xa (s.T k).d.x (A k).xc,J (s.T k).d.used,J (s.T k).d.live,J (s.T k).d.turns] 94)).trans (l.mono (by simp)));clear e0 e1 e2 e3 e4 e5 e6 e7 p1 p2 l;go_wp2_with fail
    refine(PK (A k).va (A k).vc (A k).la (A k).lc (A k).ia (A k).ic (A k).xa (A k).xc (s.T k) s j (B j) _ (L.1.below E rfl) b7 (by omega) ((E.cell (p:=(G (B j) 3)) b8).trans ay) (ag.1 (Z3 k t))).mono ?_
   all_goals
    rintro e w4 ⟨rfl,U⟩;have z4:=U.size;have cr:=O (Q.trans (U.mono Q.size));have ca:=O (ah.trans (U.mono (by omega)));have cb:Hid (w4.ownsRow w1.heap.size 162 1 u6 k (kL B A s k)):=O (AP ao (E.trans (U.mono (by omega))));clear U;go_wp2_with (first|(at_builtin;refine Aah _ rfl _ _ 116 rfl w1.heap.size 162 i0 .nilIface 1 16 underlying116 hi bt bu bw rfl (by decide) u6 k (kL B A s k) rfl (cb.alloc _) (y w4 0) 1 1 [AF B (A k) (s.T k)] rfl rfl (by rw[z bd];exact GP (BE _ _)) (by intro u hu;rw[MM]at hu;subst hu;exact Ol _ _ _) (by decide) (by unfold maxLen;omega) (by omega) (by simp;omega) _ rfl ?_;intro g3 ct w5 X ae bp cj;have cc:=O ((ca.alloc (by omega) _).trans (KT ae (fun q e=>(aw q e).1) (by simp;omega)));have cd:=O X;clear X ae)|go_in)
    go_roundw
    case rel=>exact⟨k+1,by omega,by go_num,by rw[<-TJ];exact cd,cc⟩
    case measure=>simp[intOf];omega
  have au:k=s.nt:=by omega
  have cu:w.heap.size<wr.heap.size:=by omega
  have bh:=O (bc.below hb);have cg:=O (b6.below hb rfl);have bj:=O (a8.trans (hb.mono (by omega)));have ao:=O ho;have bk:=O hb;subst au;clear hb t y1 y2 ho;obtain⟨w2,rfl⟩:∃u,u=wr:=⟨wr,rfl⟩;go_wp2;go_loopw [58] (fun i wr=>∃(k:Nat),k<=s.ns/\i=J k/\B9 w2 wr) (fun i _=>s.ns-(intOf i).toNat)
  case atStart=>exact⟨0,by omega,rfl,DD _ _⟩
  case round=>
   obtain⟨k,hk,rfl,hb⟩:=hrel;have ck:=hb.size;by_cases t:k<s.ns
   case pos=>
    obtain⟨b,off,rfl,ak,hcs⟩:=cg.resolve_left (by omega);obtain⟨e0,e1,e2,e3,e4⟩:=(hcs k t).keep (fun q=>hb.cell (p:=(G b q)) ak);have K:Hid (∀o,B9 w (wr.alloc o)):=O (fun o=>(bj.trans (hb.mono (by omega))).alloc (by omega) _);have H:Hid (∀o,B9 w2 (wr.alloc o)):=O (fun o=>hb.alloc (by omega) _);have bm:Hid (∀o,B9 w1 (wr.alloc o)):=O (fun o=>(bk.trans (hb.mono (by omega))).alloc (by omega) _);have L:Hid (∀o,Nd (wr.alloc o) s (w.heap.size+1+1) g B Z M):=O (fun o=>bh.below (H o));clear hcs hb p1 p2;go_wp2_with fail
    refine m9 (SG s (w.heap.size+1+1) g cp B Z M (s.S k) _ (L _) H1 (Z4 k t)) fun w3 l=>?_
    have Q:=O ((K _).trans (l.mono (K _).size));have ah:=O ((H _).trans (l.mono (H _).size));have E:=O ((bm _).trans (l.mono (bm _).size));clear l e0 e1 e2 e3 e4;go_wp2;go_roundw
    case rel=>exact⟨k+1,by omega,by go_num,ah⟩
    case measure=>simp[intOf];omega
   have Q:=O (bj.trans (hb.mono (by omega)));have E:=O (bk.trans (hb.mono (by omega)));have ch:=O (bh.below hb);have bn:=O (AP ao hb);have au:k=s.ns:=by omega
   clear hb t p1 p2;subst au;have s0:=(E.cell (p:=(Y9 w 0)) af).trans s0;have s1:=(E.cell (p:=(Y9 w 1)) af).trans s1;have g0:=(E.frozen (p:=(Y9 w 0)) af).trans g0;have g1:=(E.frozen (p:=(Y9 w 1)) af).trans g1;obtain⟨ka,kc,rfl⟩:∃a c,u6=.slice a s.nt c:=by
    obtain⟨_,⟨hv,h0⟩|⟨g',cap,cur,hv,_⟩⟩:=z bn
    ·exact⟨none,0,by rw[hv,h0]⟩
    ·exact⟨_,_,hv⟩
   go_wp2;refine DO (v:=.tuple #[.agg #[.slice (some (G g 0)) s.nf cp,.slice ka s.nt kc],J 0]) (by simp[results,results55,go_sem,s0,s1]) rfl ⟨⟨g,cp,B,Z,M,_,w1.heap.size,rfl,?_,?_⟩,?_⟩
   ·refine Nd.MZ (b0:=w.heap.size+1+1) (ch.JC (fun b hb _=>?_) ?_) (by omega)
    ·exact(At _ _ _ _ (by show b≠w.heap.size+1;omega)).trans (At _ _ _ _ (by show b≠w.heap.size+1;omega))
    ·exact(At _ _ _ _ (by exact ad)).trans (At _ _ _ _ (by exact ad))
   ·refine St bn (fun b hb _=>?_);exact(At _ _ _ _ (by show b≠w.heap.size+1;omega)).trans (At _ _ _ _ (by show b≠w.heap.size+1;omega))
   ·repeat(refine W0 ?_ (by show w.heap.size<=w.heap.size+1;omega) _)
    exact Q
theorem Pp(T:World->Prop)(E:DT T)(m q:Nat)(n:T9)(tc:Nat)(sa:T9)(sc:Nat)(s:AV)(D:Nat->Int)(w:Y)(f:T w)(r:Du w m s.nf s.F)(H:aC w n s.nt s.T)(I:L4 w sa s.ns s.S)(hs:Ug s)
  (hD:∀i,i<s.nt->D i=0->∀la lc ia ic xa xc,SZ T la lc ia ic xa xc (s.T i).d 0) (p:Fe s D=0):
  C9 30 #[iO (some (G m 0)) q n tc sa sc s] w (R9 (J 0) w):=by
 have t:=r.lt;obtain⟨A,hA⟩:=H.addr;obtain⟨W,u⟩:∃W,W=w.alloc (.cells #[S9 m s.nf q,.slice n s.nt tc,.slice sa s.ns sc] 42):=⟨_,rfl⟩;have b:B9 w W:=by rw[u];exact(DD _ _).alloc (A0 _) _
 have K:=O (r.below b t);have L:=O (hA.below b);have h:=O (I.below b rfl);have v:=O (E _ _ f b);have Q:=O hs;have R:=O p;have U:=O hD;have j:=O b;clear r H hA I hs p hD b f
 go_enter func30,ntmps30
 go_wp2_with fail
 rw[<-u];clear u;refine(K4 T E m q n tc sa sc s D A _ v K L h Q U R).mono ?_;rintro e w1 ⟨hj,k⟩;have l:=O (j.trans (k.mono j.size));have x:Hid (∀o,B9 w (w1.alloc o)):=O (fun o=>l.alloc l.size _);clear k K L h;obtain⟨g,X,B,Z,M,V,b1,rfl,hN,P⟩:=hj;obtain⟨ka,kc,rfl⟩:∃a c,V=.slice a s.nt c:=by
  obtain⟨_,⟨C,p⟩|⟨g',cap,cur,C,_⟩⟩:=P
  ·exact⟨none,0,by rw[C,p]⟩
  ·exact⟨_,_,C⟩
 clear hN P;go_wp2;go_ret;exact⟨rfl,x _⟩
theorem TE{s:AV}(hs:Ug s)(a:gQ s):∀i,i<s.nt->Dz s i=0->∀la lc ia ic xa xc,SZ A8 la lc ia ic xa xc (s.T i).d 0:=
 fun i hi b la lc ia ic xa xc W c hA=>EP A8 AL la lc ia ic xa xc (s.T i).d (hD (s.T i).d) W c hA (hs.Nw hi) (fun q hq hk=>dN hk ((a i hi).2 q hq).1) b
theorem NK(A:Ad)(t:Tb)(w:Y)(g:A8 w)(hA:Gy w A.la A.ia A.xa t.d)(h:Small t.d)(i:Rp t.d)(hk:CE t.d (hD t.d)=0):
  C9 92 #[.iface 239 (IJ A t)] w fun e w'=>(∃v,e=.returned v/\Ci w' w.heap.size v (II t.d) (DX t.d))/\B9 w w':=by
 have a:∀o,B9 w (w.alloc o):=fun o=>n9
 have c:=O a;have k:Hid (∀o,A8 (w.alloc o)):=O (fun o=>AL _ _ g (a o));have l:=O hA;have m:=O h;have n:=O i;have HK:=O hk;clear a g hA h i hk;have p:=jT (IJ A t);have q:=kD (IJ A t)
 go_enter func92,ntmps92
 go_wp2_with fail
 refine(R3 A.la A.lc A.ia A.ic A.xa A.xc t.d _ (k _) (l.below (c _)) m n HK).mono ?_;rintro e w1 ⟨⟨v,rfl,j⟩,b⟩;have f:=O ((c _).trans (b.mono (c _).size));have r:=O (DK j (c _).size);clear b j;go_wp2;go_ret;exact⟨⟨v,rfl,r⟩,f⟩
theorem PE(s:AV)(b0 g:Nat)(B Z:Nat->Nat)(M:Nat->Option Nat)(A:Ad)(i:Nat)(w:Y)(c:A8 w)(hN:Nd w s b0 g B Z M)(f:Hg w A.va (s.T i).nv (s.T i).V)(hA:Gy w A.la A.ia A.xa (s.T i).d)(hs:Ug s)(k:gQ s)(l:Fe s (Dz s)=0)(hi:i<s.nt):
  C9 92 #[AF B A (s.T i)] w fun e w'=>(∃v,e=.returned v/\Ci w' w.heap.size v (VB s (s.T i)) (Ym s (s.T i)))/\B9 w w':=by
 obtain⟨h1,h2,h3,h4⟩:=JX l;rcases Vh (h3 i hi)with⟨a,m⟩|⟨j,a,hj,b⟩
 ·have h:=NK A (s.T i) w c hA (hs.Nw hi) (k i hi).2 m;unfold VB Ym AF;rw[C3 a,C3 a,C3 a];exact h
 ·have h:=Su s b0 g B Z M A (s.T i) j w hN h1 hj f b;unfold VB Ym AF;rw[Cs (by omega),Cs (by omega),Cs (by omega),a,Lo];exact h
theorem Po(m P:Nat)(K:T9)(tc:Nat)(sa:T9)(sc:Nat)(s:AV)(k:Nat)(w:Y)(p:A8 w)(Q:Du w m s.nf s.F)(hT:aC w K s.nt s.T)(hS:L4 w sa s.ns s.S)(hs:Ug s)(hw:gQ s)(q:Fe s (Dz s)=0)(d:k<s.nt):
  C9 40 #[iO (some (G m 0)) P K tc sa sc s,J k] w fun e w'=>(∃v,e=.returned v/\Ci w' w.heap.size v (VB s (s.T k)) (Ym s (s.T k)))/\B9 w w':=by
 have R:=Q.lt;have ai:=hs.nt;obtain⟨A,hA⟩:=hT.addr;obtain⟨W,U⟩:∃W,W=w.alloc (.cells #[S9 m s.nf P,.slice K s.nt tc,.slice sa s.ns sc] 42):=⟨_,rfl⟩;have b:B9 w W:=by rw[U];exact(DD _ _).alloc (A0 _) _
 have HF:=O (Q.below b R);have V:=O (hA.below b);have r:=O (hS.below b rfl);have t:=O (AL _ _ p b);have X:=O hs;have H0:=O q;have HW:=O hw;have u:=O b;clear Q hT hA hS hs q hw b p
 go_enter func40,ntmps40
 go_wp2_with fail
 rw[<-U];clear U;refine(K4 A8 AL m P K tc sa sc s (Dz s) A _ t HF V r X (TE X HW) H0).mono ?_;rintro e w1 ⟨hj,f⟩;have C:=O (V.below f);have ad:=O (AL _ _ t f);have D:=O (u.trans (f.mono u.size));have l:Hid (∀o,B9 w (w1.alloc o)):=O (fun o=>D.alloc D.size _);clear f HF V r;obtain⟨g,cp,B,Z,M,L,b1,rfl,hN,ho⟩:=hj;obtain⟨ka,kc,rfl⟩:∃a c,L=.slice a s.nt c:=by
  obtain⟨_,⟨h,q⟩|⟨g',cap,cur,h,_⟩⟩:=ho
  ·exact⟨none,0,by rw[h,q]⟩
  ·exact⟨_,_,h⟩
 have HN:=O hN;have HO:=O ho;clear hN ho;have h1:¬(k:Int)<0:=by omega
 have h2:¬(s.nt:Int)<=k:=by omega
 obtain⟨kb,ck,ae⟩:∃kb,ka=some (G kb 0)/\kb<w1.heap.size/\w1.cell? (G kb k)=some (AF B (A k) (s.T k)):=by
  have hc:=HO;obtain⟨_,⟨h,q⟩|⟨g',cap,cur,h,aj,E,q1,q2,q3,q4⟩⟩:=hc
  ·omega
  ·cases h;refine⟨g',rfl,(E1.1 E).1,?_⟩;have:=HO.cellAt k (by omega);exact this.trans (Je d)
 obtain⟨af,n⟩:=ae;subst ck;have H:∀o,(w1.alloc o).cell? (G kb k)=some (AF B (A k) (s.T k)):=fun o=>(GC _ _ _ (by exact af)).trans n
 obtain⟨L,i⟩:∃x,x=AF B (A k) (s.T k):=⟨_,rfl⟩;rw[<-i]at n;have ak:L.oneCell'=true:=by rw[i];exact Ol _ _ _
 clear H;have ag:Hid (∀o,C9 92 #[L] (w1.alloc o) fun e w'=>(∃v,e=.returned v/\Ci w' (w1.alloc o).heap.size v (VB s (s.T k)) (Ym s (s.T k)))/\Below (w1.alloc o).heap.size (w1.alloc o) w'):=O (fun o=>by
  have j:B9 w1 (w1.alloc o):=n9;rw[i];exact PE s W.heap.size g B Z M (A k) k _ (AL _ _ ad j) (HN.below j) ((C.below j).one d).1 ((C.below j).one d).2 X HW H0 d)
 clear i;go_wp2_with fail
 refine(ag _).mono ?_;rintro e w2 ⟨⟨v,rfl,h⟩,I⟩;have ah:=O ((l _).trans (I.mono (l _).size));have HV:=O (DK h (l _).size);clear I h n;go_wp2;go_ret;exact⟨⟨v,rfl,HV⟩,ah⟩
theorem eF{w:Y}{B:Nat}{L:List Ac}{v:V9}(h:w.ownsRow B 51 14 v L.length (L9 L))(c:0<L.length):Ud w v L.length (YH L):=by
 obtain⟨hl,⟨b,d⟩|⟨g,cap,cur,b,hb,a,h1,h2,h3,h4⟩⟩:=id h
 ·omega
 ·refine⟨g,cap,b,(E1.1 a).1,fun i hi j u hu=>?_⟩;have hj:j<14:=(On.1 hu).1;rw[I9 (b▸h) (i*14+j) (by omega),Ta L hi hj,hu]
theorem Ka{g h:Nat->An}:∀n,(∀i,i<n->g i=h i)->Mf g n=Mf h n
 |0,_=>rfl
 |n+1,a=>by show Mf g n++EX (g n)=Mf h n++EX (h n);rw[Ka n (fun i hi=>a i (by omega)),a n (by omega)]
theorem O0.congr{w:Y}{a:Option Addr}{n:Nat}{p q:Nat->Pr}(h:O0 w a n p)(c:∀i,i<n->p i=q i):O0 w a n q:=
 h.imp id (fun⟨b,off,e,hb,hc⟩=>⟨b,off,e,hb,fun i hi=>c i hi▸hc i hi⟩)
def Hc(a b g k:Nat)(vF vT vS c u:V9)(W:Y):Prop:=W.cell? (G a 2)=some vF/\W.cell? (G a 3)=some vT/\W.cell? (G a 4)=some vS/\W.cell? (G b 2)=some c/\W.cell? (G g (k*2))=some u
theorem Hc.below{a b g k:Nat}{vF vT vS c u:V9}{W W':Y}{B:Nat}(h:Hc a b g k vF vT vS c u W)(hb:Below B W W')(h1:a<B)(h2:b<B)(h3:g<B):Hc a b g k vF vT vS c u W':=
 ⟨(hb.cell (p:=(G a 2)) h1).trans h.1,(hb.cell (p:=(G a 3)) h1).trans h.2.1,(hb.cell (p:=(G a 4)) h1).trans h.2.2.1,(hb.cell (p:=(G b 2)) h2).trans h.2.2.2.1,(hb.cell (p:=(G g (k*2))) h3).trans h.2.2.2.2⟩
theorem Zi(a:T9)(len cap:Nat)(w:Y)(hT:A8 w)(hE:Gc w)(aw:Dh w w.heap.size a len)(gi:(len:Int)<=1048576):
  C9 6 #[.slice a len cap] w (R9 (.bool true) w):=by
 have ax:=O aw;have HT:=O hT;have HE:=O hE;have d0:decide ((1048576:Int)<(len:Int))=false:=by simp;omega
 clear aw hT hE
 go_enter func6,ntmps6
 go_wp2_with fail
 refine(Uo a len cap _ ax).mono ?_;rintro e w1 ⟨⟨L,v,rfl,⟨c8,eP⟩,bu,V⟩,bz⟩;have cc:=eF bu c8;obtain⟨ab,bg,rfl,gg,hcs⟩:=id cc;have c9:A8 w1:=AL _ _ HT bz;have bh:=O cc;have cd:=O c9;have b0:=O bz;have B:Hid (∀i,i<L.length->RB (YH L i).k/\RB (YH L i).v):=O (fun i hi=>by
  have e:YH L i=L[i]:=by simp[YH,List.getD,hi]
  rw[e];exact V _ (List.getElem_mem hi))
 have b2:=O (HE.below bz HE.lt);clear cc c9 bz bu V ax;generalize hf:YH L=f at bh B hcs;generalize hn:L.length=n at bh B c8 eP hcs ⊢;clear hf hn;by_cases ae:1000<n
 ·go_wp2_with fail
  refine m9 (KA (some (G ab 0)) n bg _ ae) fun w2 ay=>?_
  obtain⟨A,X⟩:∃A,A=w2.alloc (.cells #[.bool false,N9,N9] 81):=⟨_,rfl⟩;have S:B9 w2 A:=by rw[X];exact(DD _ _).alloc (A0 _) _
  have r:A.heap[w2.heap.size]?=some (.cells #[.bool false,N9,N9] 81 (0,0)):=by rw[X];exact BE _ _
  have ao:=O r;have Z:=O (b0.trans ((ay.trans (S.mono ay.size)).mono b0.size));clear ay S r;go_upto_region 5 with fail
  rw[<-X];clear X;go_wp2_with fail
  refine m9 (IM (some (G ab 0)) n bg _ ae) fun w3 bj=>?_
  obtain⟨C,af⟩:∃C,C=w3.alloc (.cells #[.bool false,N9,N9,N9,N9] 62):=⟨_,rfl⟩;have x:B9 w3 C:=by rw[af];exact(DD _ _).alloc (A0 _) _
  have I:C.heap[w3.heap.size]?=some (.cells #[.bool false,N9,N9,N9,N9] 62 (0,0)):=by rw[af];exact BE _ _
  have eS:=Aj ao;have eU:=bj.size;have r:C.heap[w2.heap.size]?=some (.cells #[.bool false,N9,N9] 81 (0,0)):=(x.block _ (by omega)).trans ((bj.block _ eS).trans ao);have aq:=O (Z.trans ((bj.trans (x.mono bj.size)).mono Z.size));have cg:=O I;have bw:=O r;have q0:C.cell? (y w2 0)=some (.bool false):=by simp[World.cell?,r]
  have q1:C.cell? (y w2 1)=some (N9):=by simp[World.cell?,r]
  have q2:C.cell? (y w2 2)=some (N9):=by simp[World.cell?,r]
  have r0:C.cell? (y w3 0)=some (.bool false):=by simp[World.cell?,I]
  have r1:C.cell? (y w3 1)=some (N9):=by simp[World.cell?,I]
  have l2:=Aj r;have l3:=Aj I;clear x I r bj ao;go_upto_region 6 with fail
  rw[<-af];clear af;go_wp2_with fail
  refine m9 (EJ 0 0 _ _ 0 (FN f) _ (ON _ _ _ _) (ON _ _ _ _) (by omega)) fun w4 E=>?_
  have eX:=E.size;have aM:=(E.block _ l2).trans bw;have u:=(E.block _ l3).trans cg;have ch:w4.cell? (y w2 2)=some (N9):=by simp[World.cell?,aM]
  have gj:w4.cell? (y w2 1)=some (N9):=by simp[World.cell?,aM]
  have da:w4.cell? (y w3 0)=some (.bool false):=by simp[World.cell?,u]
  have gl:w4.cell? (y w3 1)=some (N9):=by simp[World.cell?,u]
  have cj:w4.cell? (y w3 3)=some (N9):=by simp[World.cell?,u]
  have m2:w2.heap.size<w4.heap.size:=by omega
  have m3:w3.heap.size<w4.heap.size:=by omega
  have M:=O (aq.trans (E.mono aq.size));clear E aM u q0 q1 q2 r0 r1;go_wp2_with fail
  go_loopw [54] (fun i wr=>i=J 0/\wr=w4) (fun _ _=>0)
  case atStart=>exact⟨rfl,rfl⟩
  case round=>
   obtain⟨rfl,rfl⟩:=hrel;go_wp2_with fail
   go_loopw [73] (fun i wx=>i=J 0/\wx=wr) (fun _ _=>0)
   case atStart=>exact⟨rfl,rfl⟩
   case round=>
    obtain⟨rfl,rfl⟩:=hrel;go_wp2_with fail
    go_loopw [86] (fun i Q=>i=J 0/\Q=wr) (fun _ _=>0)
    case atStart=>exact⟨rfl,rfl⟩
    case round=>
     obtain⟨rfl,rfl⟩:=hrel;have dc:∀w:World,(Instr.field 62 (.agg #[.bool false,N9,N9,N9,N9]) 1).run prog w=.ok (N9) w:=fun w=>by kernel_rfl
     go_wp2_with fail
     refine qr wr ?_;refine N (h:=?_);refine GS (fun K hK=>?_);go_simp;refine⟨_,fun w' ck=>qk ck (IM (some (G ab 0)) n bg _ ae),hK _ ?_⟩;clear hK K;refine N (h:=N (h:=N (h:=?_)));refine GS (fun K hK=>?_);go_simp;refine⟨_,fun w' ck=>qk ck (EJ 0 0 _ _ 0 (FN f) _ (ON _ _ _ _) (ON _ _ _ _) (by omega)),hK _ ?_⟩;clear hK K;refine N (h:=?_);refine GO ?_;intro w9 dd;have e0:=O (M.trans (dd.mono M.size));clear dd;go_wp2;go_ret;exact⟨rfl,e0⟩
 have hn:n<=1000:=by omega
 go_wp2_with fail
 refine(Ly _ n f _ bh hn).mono ?_;rintro e w2 ⟨c,va,vT,vS,U,rfl,hI⟩;obtain⟨xa,xc,rfl⟩:=Ao hI.row;obtain⟨ya,yc,rfl⟩:=Ao hI.dm.tb;have ay:=hI.below;have HI:=O hI;obtain⟨A,X⟩:∃A,A=w2.alloc (.cells #[.bool true,.slice xa n xc,.slice ya (FR f n).nt yc] 81):=⟨_,rfl⟩;have S:B9 w2 A:=by rw[X];exact(DD _ _).alloc (A0 _) _
 have r:A.heap[w2.heap.size]?=some (.cells #[.bool true,.slice xa n xc,.slice ya (FR f n).nt yc] 81 (0,0)):=by rw[X];exact BE _ _
 have bk:B9 w1 A:=ay.trans (S.mono ay.size);have ao:=O r;have Z:=O bk;have cl:=O S;have HP:Hid (C9 23 #[S9 ab n bg] A fun e w'=>∃va vF vT vS H lo,e=.returned (.agg #[.bool true,va,vF,vT,vS])/\S3 A w' n f va vF vT vS H lo):=O (Jz _ n f A (bh.below bk) hn (fun i hi=>⟨H8 (B i hi).1,H8 (B i hi).2⟩) (AL _ _ cd bk) (b2.below bk b2.lt) (fun i hi=>Tp _));clear hI ay S r bk;go_upto_region 5 with fail
 rw[<-X];clear X;go_wp2_with fail
 refine HP.mono ?_;rintro e w3 ⟨va,vF,vT,gm,H,lo,rfl,hP⟩;obtain⟨pa,pc,rfl⟩:=Ao hP.row;obtain⟨fa,fc,ta,tc,sa,sc,rfl,rfl,rfl⟩:=hP.st.forms;have V:∀i,i<n->Wf (f i).k/\Wf (f i).v:=fun i hi=>⟨H8 (B i hi).1,H8 (B i hi).2⟩
 have hz:∀i,i<n->(Bw (f i).k).kind=4->Bw (f i).k=A7 (Bw (f i).k).str:=fun i hi h=>Ri (B i hi).1 h
 have HG:=O (Jt Ie rfl V hn (A0 n));have ai:=PN SF Ie rfl V hz hn n (A0 n);have ad:IZ w3 A.heap.size (.slice pa n pc) n (FN f):=by
  have h:=hP.row;rw[Ka n (fun i hi=>T3 SF Ie rfl V hz hn hi)]at h;exact h
 have a6:=hP.st;generalize CV E0 f n=s at a6 HG ai ⊢;have df:=O ai.nt;obtain⟨C,af⟩:∃C,C=w3.alloc (.cells #[.bool true,.slice pa n pc,.slice fa s.nf fc,.slice ta s.nt tc,.slice sa s.ns sc] 62):=⟨_,rfl⟩;have x:B9 w3 C:=by rw[af];exact(DD _ _).alloc (A0 _) _
 have I:C.heap[w3.heap.size]?=some (.cells #[.bool true,.slice pa n pc,.slice fa s.nf fc,.slice ta s.nt tc,.slice sa s.ns sc] 62 (0,0)):=by rw[af];exact BE _ _
 have bm:=Aj ao;have eU:=hP.below.size;have r:C.heap[w2.heap.size]?=some (.cells #[.bool true,.slice xa n xc,.slice ya (FR f n).nt yc] 81 (0,0)):=(x.block _ (by omega)).trans ((hP.below.block _ bm).trans ao);have cm:B9 A C:=hP.below.trans (x.mono hP.below.size);have hx:IZ C w1.heap.size (.slice xa n xc) n (FN f):=AP (AP HI.row cl) cm;have hy:IZ C A.heap.size (.slice pa n pc) n (FN f):=AP ad x;have HX:=O hx;have e3:Hid (IZ A w1.heap.size (.slice xa n xc) n (FN f)):=O (AP HI.row cl);have bx:=O ao;have HY:=O hy;have dh:=O (a6.below x (A0 _));have e4:=O hP;have cN:=O ai;have aq:=O cm;have cg:=O I;have bw:=O r;have q0:C.cell? (y w2 0)=some (.bool true):=by simp[World.cell?,r]
 have q1:C.cell? (y w2 1)=some (.slice xa n xc):=by simp[World.cell?,r]
 have q2:C.cell? (y w2 2)=some (.slice ya (FR f n).nt yc):=by simp[World.cell?,r]
 have r0:C.cell? (y w3 0)=some (.bool true):=by simp[World.cell?,I]
 have r1:C.cell? (y w3 1)=some (.slice pa n pc):=by simp[World.cell?,I]
 have l2:=Aj r;have l3:=Aj I;clear hP ad x I r cm hx hy ai ao V hz a6;go_upto_region 6 with fail
 rw[<-af];clear af;go_wp2_with fail
 refine m9 (EJ _ _ _ _ n (FN f) _ HY HX hn) fun w4 E=>?_
 have eX:=E.size;have ch:=(E.cell (p:=(y w2 2)) l2).trans q2;have da:=(E.cell (p:=(y w3 0)) l3).trans r0;have u:=(E.block _ l3).trans cg;have di:w4.cell? (y w3 2)=some (.slice fa s.nf fc):=by simp[World.cell?,u]
 have cj:w4.cell? (y w3 3)=some (.slice ta s.nt tc):=by simp[World.cell?,u]
 have dj:w4.cell? (y w3 4)=some (.slice sa s.ns sc):=by simp[World.cell?,u]
 have m2:w2.heap.size<w4.heap.size:=by omega
 have m3:w3.heap.size<w4.heap.size:=by omega
 have dn:((s.nt:Int)!=((FR f n).nt:Int))=false:=by rw[z df];simp
 have c0:=O u;have M:=O E;clear E u q0 q1 q2 r0 r1;go_wp2_with fail
 have aj:=dh.below M (FZ (show w3.heap.size<=C.heap.size by omega) (A0 _));obtain⟨fb,e5,dk⟩:∃fb,fa=some (G fb 0)/\Du w4 fb s.nf s.F:=by
  rcases aj.f with⟨h0,_⟩|⟨_,b,cp,hv,_,_,h⟩
  ·have:=(Au HG.f).1.1;omega
  ·cases hv;exact⟨b,rfl,h⟩
 subst e5;obtain⟨_,_,e1,dp⟩:=aj.t.at;cases e1;obtain⟨_,_,e2,dq⟩:=aj.si.at;cases e2;have cn:=O dk;have dr:=O dp;have dt:=O dq;have cq:B9 w1 w4:=Z.trans ((aq.trans (M.mono aq.size)).mono Z.size);have gn:=O cq;have du:=O (AL _ _ cd cq);clear aj dk dp dq cq;refine m9 (Pp A8 AL fb fc ta tc sa sc s (Dz s) w4 du cn dr dt (Fg.gO HG) (TE (Fg.gO HG) HG.kC) HG.ok) fun w5 ag=>?_
 have gp:=ag.size;have dv:=(ag.cell (p:=(y w2 2)) m2).trans ch;have dw:=(ag.cell (p:=(y w3 2)) m3).trans di;have dx:=(ag.cell (p:=(y w3 3)) m3).trans cj;have dy:=(ag.cell (p:=(y w3 4)) m3).trans dj;have n2:w2.heap.size<w5.heap.size:=by omega
 have n3:w3.heap.size<w5.heap.size:=by omega
 have c3:=O ((ag.block _ m3).trans c0);have bf:=O ag;have e7:Hid (AQ 158 w5 c w1.heap.size (.slice ya (FR f n).nt yc) vS U (FR f n)):=O (((HI.dm.below cl).below aq).below M |>.below ag);clear ag ch da di cj dj;go_wp2_with fail
 go_loopw [54] (fun i wr=>∃(k:Nat),k<=(FR f n).nt/\i=J k/\B9 w5 wr) (fun i _=>(FR f n).nt-(intOf i).toNat)
 case atStart=>exact⟨0,by omega,rfl,DD _ _⟩
 case round=>
  obtain⟨k,hk,rfl,hb⟩:=hrel;by_cases b4:k<(FR f n).nt
  ·obtain⟨g,cp,ua,uc,e1,hg,hu,t0,t1,cr⟩:=e7.look b4;cases e1;have dz:k<s.nt:=by have:=z df;omega
   obtain⟨g1,g2⟩:=cN.same HG dz;have e8:((FR f n).T k).n<=500:=((Ju f n).t k b4).1;obtain⟨D,hD⟩:∃D,D=(FR f n).T k:=⟨_,rfl⟩;rw[<-hD]at t0 t1 cr g1 g2 e8;have dC:Hid (k+1<=(FR f n).nt):=O b4;have eI:k<100:=Be b4 (Ju f n).nt;have dU:=hb.size;have ea:Hc w3.heap.size w2.heap.size g k (S9 fb s.nf fc) (.slice ta s.nt tc) (.slice sa s.ns sc) (S9 g (FR f n).nt yc) (.slice ua D.n uc) wr.drew:=Hc.below (W:=w5) ⟨dw,dx,dy,dv,t0⟩ hb.drew n3 n2 hg;have eb:Hid (∀w',B9 wr w'->C9 40 #[.agg #[S9 fb s.nf fc,.slice ta s.nt tc,.slice sa s.ns sc],J k] w' fun e w6=>(∃av cv,e=.returned (.slice av D.n cv)/\O0 w6 av D.n D.P)/\B9 w' w6):=O (fun w' hw=>by
    have b6:B9 w4 w':=bf.trans ((hb.trans (hw.mono dU)).mono bf.size);refine(Po fb fc ta tc sa sc s k w' (AL _ _ du b6) (cn.below b6 cn.lt) (dr.below b6 rfl) (dt.below b6 rfl) (Fg.gO HG) HG.kC HG.ok dz).mono ?_;rintro e w6 ⟨⟨v6,rfl,hO⟩,ah⟩;obtain⟨av,cv,rfl,bn⟩:=hO.at;have ec:VB s (s.T k)=D.n:=g1;rw[ec]at bn;exact⟨⟨av,cv,by rw[ec],bn.congr (fun i hi=>g2 i (by show i<VB s (s.T k);omega))⟩,ah⟩)
   have e9:=O (cr.below hb rfl);have ef:=O hb;have fe:g<wr.heap.size:=by omega
   have ff:w2.heap.size<wr.heap.size:=by omega
   have ct:w3.heap.size<wr.heap.size:=by omega
   have fg:decide ((k:Int)<((FR f n).nt:Int))=true:=by simp;omega
   clear hb cr t0 t1 hu hD g1 g2;go_wp2_with fail
   refine H9 (Hc w3.heap.size w2.heap.size g k (S9 fb s.nf fc) (.slice ta s.nt tc) (.slice sa s.ns sc) (S9 g (FR f n).nt yc) (.slice ua D.n uc)) ?_;refine tz 0 (h:=tz 1 (h:=tz 2 (h:=tz 4 (h:=tz 5 (h:=tz 6 (h:=tz 7 (h:=tz 8 (h:=tz 9 (h:=?_)))))))));refine ry 3 (fun K hK=>?_);go_simp;refine(eb _ (DD _ _).drew).mono ?_;rintro e w6 ⟨⟨av,cv,rfl,bn⟩,ah⟩;have ak:B9 wr w6:=⟨ah.os,ah.tape,ah.output,ah.size,fun k hk=>ah.block k hk⟩;have gq:=ak.size;have cu:Hc w3.heap.size w2.heap.size g k (S9 fb s.nf fc) (.slice ta s.nt tc) (.slice sa s.ns sc) (S9 g (FR f n).nt yc) (.slice ua D.n uc) w6:=ea.below ah ct ff fe;have fh:=O (Rh av ua D.n cv uc D.P w6 bn (e9.below ak rfl) (by omega));have b7:=O (ef.trans (ak.mono ef.size));refine hK.out _ _ cu (fun _=>?_);clear hK K ea ah ak bn eb;refine ry 10 (fun K hK=>?_);go_simp;refine fh.mono ?_;rintro e w7 ⟨rfl,az⟩;have bp:Hc w3.heap.size w2.heap.size g k (S9 fb s.nf fc) (.slice ta s.nt tc) (.slice sa s.ns sc) (S9 g (FR f n).nt yc) (.slice ua D.n uc) w7:=cu.below az (by omega) (by omega) (by omega);have fj:=O (b7.trans (az.mono b7.size));refine hK.out _ _ bp (fun _=>?_);clear hK K az cu;refine tz 11 (h:=?_);refine FM ?_;go_wp2;go_roundw
   case rel=>exact⟨k+1,dC,by go_num,fj⟩
   case measure=>
    have:=z dC;simp[intOf];omega
  have fg:decide ((k:Int)<((FR f n).nt:Int))=false:=by simp;omega
  have dU:=hb.size;have a7:=O ((hb.block _ n3).trans c3);have fk:Hid (IZ wr A.heap.size (.slice pa n pc) n (FN f)):=O (AP (AP (AP HY M) bf) hb);have fl:=O (((dh.below M (by omega)).below bf (by omega)).below hb (by omega));have b7:Hid (B9 A wr):=O (aq.trans ((M.trans ((bf.trans (hb.mono bf.size)).mono M.size)).mono aq.size));have eh:A.heap.size<=lo:=e4.ge;have gu:s.nt<=100:=HG.nt;have gv:wr.cell? (y w3 1)=some (.slice pa n pc):=by simp[World.cell?,z a7]
  have ct:w3.heap.size<wr.heap.size:=by omega
  have b8:Hid (∀Q,Kp A.heap.size wr Q->Q.cell? (y w3 1)=some (.slice pa n pc)/\Q.cell? (y w3 3)=some (.slice ta s.nt tc)/\w3.heap.size<Q.heap.size):=O (fun Q h=>by
   have e:=(h.same a7 (by unfold Wt;decide)).trans a7;exact⟨by simp[World.cell?,e],by simp[World.cell?,e],by rw[h.size];exact ct⟩)
  obtain⟨w6,e6⟩:∃w6,w6=wr:=⟨_,rfl⟩;subst e6;clear hb dv dw dx dy;go_wp2_with fail
  go_loopw [73] (fun i Q=>∃(q:Nat),q<=n/\i=J q/\Kp A.heap.size w6 Q) (fun i _=>n-(intOf i).toNat)
  case atStart=>exact⟨0,by omega,rfl,Kp.refl _ _⟩
  case round=>
   obtain⟨q,hq,rfl,o⟩:=hrel;obtain⟨b1,b3,b5⟩:=z b8 _ o;by_cases ei:q<n
   ·obtain⟨ga,e1,fm,ar⟩:=cV fk (by omega);cases e1;have m:=ar.kp o;have ej:=m.lt;obtain⟨⟨y0,ek⟩,z0⟩:=m.cell (j:=q*12) (by omega);obtain⟨⟨y1,eo⟩,z1⟩:=m.cell (j:=q*12+1) (by omega);obtain⟨⟨y2,ep⟩,z2⟩:=m.cell (j:=q*12+2) (by omega);obtain⟨⟨y3,eu⟩,z3⟩:=m.cell (j:=q*12+3) (by omega);obtain⟨⟨y4,ew⟩,z4⟩:=m.cell (j:=q*12+4) (by omega);obtain⟨⟨y5,fo⟩,z5⟩:=m.cell (j:=q*12+5) (by omega);obtain⟨⟨y6,fq⟩,z6⟩:=m.cell (j:=q*12+6) (by omega);obtain⟨⟨y7,fr⟩,z7⟩:=m.cell (j:=q*12+7) (by omega);obtain⟨⟨y8,ft⟩,z8⟩:=m.cell (j:=q*12+8) (by omega);obtain⟨⟨y9,fu⟩,z9⟩:=m.cell (j:=q*12+9) (by omega);obtain⟨⟨fw,c4⟩,fx⟩:=m.cell (j:=q*12+10) (by omega);obtain⟨⟨gw,gh⟩,gx⟩:=m.cell (j:=q*12+11) (by omega);have ey:decide ((q:Int)<(n:Int))=true:=by simp;omega
    have bq:=O (Kp.SD fm (.inl rfl) [J 77,J 0,J 0,J 0,F9 0,E9,J 0,J 0,J 0,F9 0,E9,J 0] _ (q*12) o m);clear o ar m;go_wp2_with fail
    go_roundw
    case rel=>exact⟨q+1,ei,by go_num,bq⟩
    case measure=>simp[intOf];omega
   have ey:decide ((q:Int)<(n:Int))=false:=by simp;omega
   have R:=O o;clear o;go_wp2_with fail
   go_loopw [86] (fun i Q=>∃(t:Nat),t<=s.nt/\i=J t/\Kp A.heap.size w6 Q) (fun i _=>s.nt-(intOf i).toNat)
   case atStart=>exact⟨0,by omega,rfl,R⟩
   case round=>
    clear b1 b3 b5 R ey hq ei;obtain⟨t,ht,rfl,o⟩:=hrel;obtain⟨b1,b3,b5⟩:=z b8 _ o;by_cases b9:t<s.nt
    ·obtain⟨tb,gy,e1,a8,ez⟩:=fl.kF (by omega);cases e1;have hO:=ez t b9;obtain⟨va,vc,ev,hv⟩:=hO.v.rz;obtain⟨la,lc,el,hl⟩:=hO.l.rz;have br:Hid (∀Q,Kp A.heap.size w6 Q->Q.cell? (G tb (t*8+1))=some (.slice va (s.T t).nv vc)/\Q.cell? (G tb (t*8+2))=some (.slice la (s.T t).d.n lc)/\tb<Q.heap.size):=O (fun Q h=>by
      have e:=h.same a8 (by unfold Wt;decide);exact⟨(As e).trans (hO.c1.trans (by rw[ev])),(As e).trans (hO.c2.trans (by rw[el])),by rw[h.size];exact Aj a8⟩)
     have fy:(s.T t).nv<=1048576:=(Fg.gO HG).nv b9;have fz:(s.T t).d.n<=4194304:=((Fg.gO HG).Nw b9).1;have HV:=O hv;have HL:=O hl;clear hO hv hl ev el ez a8;generalize (s.T t).nv=nv at br HV fy;generalize (s.T t).d.n=dn at br HL fz;obtain⟨x1,x2,x3⟩:=z br _ o;have c5:decide ((t:Int)<(s.nt:Int))=true:=by simp;omega
     have R:=O o;clear o;go_wp2_with fail
     go_loopw [97] (fun i Q=>∃(j:Nat),j<=nv/\i=J j/\Kp A.heap.size w6 Q) (fun i _=>nv-(intOf i).toNat)
     case atStart=>exact⟨0,by omega,rfl,R⟩
     case round=>
      clear b1 b3 b5 x1 x2 x3 R;obtain⟨j,hj,rfl,o⟩:=hrel;obtain⟨b1,b3,b5⟩:=z b8 _ o;obtain⟨x1,x2,x3⟩:=z br _ o;by_cases ca:j<nv
      ·obtain⟨vb,e1,cw,ar⟩:=z HV (by omega);cases e1;have m:=ar.kp o;have ej:=m.lt;obtain⟨⟨y0,ek⟩,z0⟩:=m.cell (j:=j*5) (by omega);obtain⟨⟨y1,eo⟩,z1⟩:=m.cell (j:=j*5+1) (by omega);obtain⟨⟨y2,ep⟩,z2⟩:=m.cell (j:=j*5+2) (by omega);obtain⟨⟨y3,eu⟩,z3⟩:=m.cell (j:=j*5+3) (by omega);obtain⟨⟨y4,ew⟩,z4⟩:=m.cell (j:=j*5+4) (by omega);have cb:decide ((j:Int)<(nv:Int))=true:=by simp;omega
       have bq:=O (Kp.SD (FZ eh cw) (.inr (.inl rfl)) [J 77,J 0,F9 0,E9,J 0] _ (j*5) o m);clear o ar m;go_wp2_with fail
       go_roundw
       case rel=>exact⟨j+1,ca,by go_num,bq⟩
       case measure=>simp[intOf];omega
      have cb:decide ((j:Int)<(nv:Int))=false:=by simp;omega
      have R:=O o;clear o;go_wp2_with fail
      go_loopw [120] (fun i Q=>∃(j:Nat),j<=dn/\i=J j/\Kp A.heap.size w6 Q) (fun i _=>dn-(intOf i).toNat)
      case atStart=>exact⟨0,by omega,rfl,R⟩
      case round=>
       clear b1 b3 b5 x1 x2 x3 R cb hj ca;obtain⟨j,hj,rfl,o⟩:=hrel;obtain⟨b1,b3,b5⟩:=z b8 _ o;obtain⟨x1,x2,x3⟩:=z br _ o;by_cases ca:j<dn
       ·obtain⟨vb,e1,cw,ar⟩:=z HL (by omega);cases e1;have m:=ar.kp o;have ej:=m.lt;obtain⟨⟨y0,ek⟩,z0⟩:=m.cell (j:=j*11) (by omega);obtain⟨⟨y1,eo⟩,z1⟩:=m.cell (j:=j*11+1) (by omega);obtain⟨⟨y2,ep⟩,z2⟩:=m.cell (j:=j*11+2) (by omega);obtain⟨⟨y3,eu⟩,z3⟩:=m.cell (j:=j*11+3) (by omega);obtain⟨⟨y4,ew⟩,z4⟩:=m.cell (j:=j*11+4) (by omega);obtain⟨⟨y5,fo⟩,z5⟩:=m.cell (j:=j*11+5) (by omega);obtain⟨⟨y6,fq⟩,z6⟩:=m.cell (j:=j*11+6) (by omega);obtain⟨⟨y7,fr⟩,z7⟩:=m.cell (j:=j*11+7) (by omega);obtain⟨⟨y8,ft⟩,z8⟩:=m.cell (j:=j*11+8) (by omega);obtain⟨⟨y9,fu⟩,z9⟩:=m.cell (j:=j*11+9) (by omega);obtain⟨⟨fw,c4⟩,fx⟩:=m.cell (j:=j*11+10) (by omega);have cb:decide ((j:Int)<(dn:Int))=true:=by simp;omega
        have bq:=O (Kp.SD (FZ eh cw) (.inr (.inr rfl)) [J 0,J 0,F9 0,E9,J 0,J 0,J 0,F9 0,E9,J 0,J (-7)] _ (j*11) o m);clear o ar m;go_wp2_with fail
        go_roundw
        case rel=>exact⟨j+1,ca,by go_num,bq⟩
        case measure=>simp[intOf];omega
       have cb:decide ((j:Int)<(dn:Int))=false:=by simp;omega
       have R:=O o;clear o;go_wp2_with fail
       go_roundw
       case rel=>exact⟨t+1,b9,by go_num,R⟩
       case measure=>simp[intOf];omega
    have c5:decide ((t:Int)<(s.nt:Int))=false:=by simp;omega
    have bt:B9 A wr:=b7.trans o.below;have bb:B9 w1 wr:=Z.trans (bt.mono Z.size);have fE:Hid (∀w',B9 wr w'->C9 23 #[S9 ab n bg] w' fun e w9=>∃va vF vT vS H lo,e=.returned (.agg #[.bool true,va,vF,vT,vS])/\S3 w' w9 n f va vF vT vS H lo):=O (fun w' hw=>by
     have hB:B9 w1 w':=bb.trans (hw.mono bb.size);exact Jz _ n f w' (bh.below hB) hn (fun i hi=>⟨H8 (B i hi).1,H8 (B i hi).2⟩) (AL _ _ cd hB) (b2.below hB b2.lt) (fun i hi=>Tp _))
    have bm:=Aj bx;have q1:wr.cell? (y w2 1)=some (.slice xa n xc):=by have e:=(bt.block _ bm).trans bx;simp[World.cell?,e]
    have fW:w2.heap.size<wr.heap.size:=Be bm bt.size;have eA:=O bt;clear bt bb o b1 b3;go_wp2_with fail
    refine H9 (fun W=>W.cell? (y w2 1)=some (.slice xa n xc)) ?_;have gb:wr.drew.cell? (y w2 1)=some (.slice xa n xc):=q1;refine tz 0 (h:=tz 3 (h:=tz 4 (h:=?_)));refine ry 1 (fun K hK=>?_);go_simp;refine(fE _ (DD _ _).drew).mono ?_;rintro e w7 ⟨ua,uF,uT,uS,H7,gE,rfl,au⟩;obtain⟨cx,cy,rfl⟩:=Ao au.row;have ad:IZ w7 wr.heap.size (.slice cx n cy) n (FN f):=by
     have h:=au.row;have V:∀i,i<n->Wf (f i).k/\Wf (f i).v:=fun i hi=>⟨H8 (B i hi).1,H8 (B i hi).2⟩
     have hz:∀i,i<n->(Bw (f i).k).kind=4->Bw (f i).k=A7 (Bw (f i).k).str:=fun i hi h=>Ri (B i hi).1 h
     rw[Ka n (fun i hi=>T3 SF Ie rfl V hz hn hi)]at h;exact h
    have az:B9 wr w7:=⟨au.below.os,au.below.tape,au.below.output,au.below.size,fun k hk=>au.below.block k hk⟩;have bp:w7.cell? (y w2 1)=some (.slice xa n xc):=(az.cell (p:=(y w2 1)) fW).trans q1;have bc:B9 A w7:=eA.trans (az.mono eA.size);have bd:=O bc;have gd:=O (EJ _ _ _ _ n (FN f) w7 ad (AP e3 bc) hn);refine hK.out _ _ bp (fun _=>?_);clear hK K au ad az bc q1 gb;have dc:∀w:World,(Instr.field 62 (.agg #[.bool true,.slice cx n cy,uF,uT,uS]) 1).run prog w=.ok (.slice cx n cy) w:=fun w=>by kernel_rfl
    refine tz 2 (h:=?_);clear dc;refine ry 5 (fun K hK=>?_);go_simp;refine gd.mono ?_;rintro e w8 ⟨rfl,cz⟩;have c6:w2.heap.size<w7.heap.size:=Be bm bd.size;have gf:w8.cell? (y w2 1)=some (.slice xa n xc):=(cz.cell (p:=(y w2 1)) c6).trans bp;have c7:=O (bd.trans (cz.mono bd.size));refine hK.out _ _ gf (fun _=>?_);clear hK K cz bp;refine tz 6 (h:=?_);refine FM ?_;go_wp2;go_ret;exact⟨rfl,b0.trans ((Z.trans (c7.mono Z.size)).mono b0.size)⟩
end Go.Proofs.YtgmlkfgfjjggnaaGreatDoor
