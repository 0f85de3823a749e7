import Derived.Test.YtkpfgniijbgkoaaGreatDoorSSAD
set_option linter.all false
set_option maxHeartbeats 40000000
set_option maxRecDepth 100000
namespace Go.Proofs.YtkpfgniijbgkoaaGreatDoor
open Go.Proofs.Tryz
open Go.RowKit
attribute [local go_sem] AB Aw
variable {w W w' w3:Y}{b o q c x g B e n cp m t k i M:Nat}{K:Kd}{α:Type}{d a:Dc}{f:Nat->Pr}{v0 v1 v2 u0 u1 u2:V9}{v:Vl}{xs:List Value}{hf:Vl->Nat}{c' c4 c5:Cs}{P:Program}
def Bv(a:Ac):Ac:={a with k:=Bl a.k,v:=Bl a.v}
theorem Df:Bl Cd=Cd:=GM _ _ _ _
def sN(K:Kd)(c:Cs):Ac×Cs:=
 (⟨(Ab K 11 c).1,(Ab K 8 (Ab K 11 c).2).1,(Ab K 6 (Ab K 8 (Ab K 11 c).2).2).1,(Ab K 4 (Ab K 6 (Ab K 8 (Ab K 11 c).2).2).2).1,Cd,Cd⟩,(Ab K 4 (Ab K 6 (Ab K 8 (Ab K 11 c).2).2).2).2)
def nD(K:Kd)(p:Ac×Cs):Ac×Cs:=
 if(Ab K 2 p.2).1=0 then({p.1 with k:=(He K (Ab K 2 p.2).2).1},(He K (Ab K 2 p.2).2).2)else(p.1,(Ab K 2 p.2).2)
def nE(K:Kd)(p:Ac×Cs):Ac×Cs:=
 if(Ab K 2 p.2).1=0 then({p.1 with v:=(He K (Ab K 2 p.2).2).1},(He K (Ab K 2 p.2).2).2)else(p.1,(Ab K 2 p.2).2)
def nF(K:Kd)(p:Ac×Cs):Ac×Cs:=
 if(Ab K 3 p.2).1=0 then(⟨2+(Ab K 5 (Ab K 3 p.2).2).1,(Ab K 102 (Ab K 5 (Ab K 3 p.2).2).2).1,0,0,(EO K (Ab K 102 (Ab K 5 (Ab K 3 p.2).2).2).2).1,Cd⟩,(EO K (Ab K 102 (Ab K 5 (Ab K 3 p.2).2).2).2).2)else(p.1,(Ab K 3 p.2).2)
def nG(K:Kd)(p:Ac×Cs):Ac×Cs:=
 if(Ab K 12 p.2).1=0 then(⟨1+6*(Ab K 2 (Ab K 12 p.2).2).1,0,0,0,Cd,Cd⟩,(Ab K 2 (Ab K 12 p.2).2).2)else(p.1,(Ab K 12 p.2).2)
def Z3(K:Kd)(c:Cs):Ac×Cs:=nG K<|nF K<|nE K<|nD K<|sN K c
def Sq a:∀u∈(Bn a).toList,u.oneCell'=true:=oh
def VQ:Ac:=⟨0,0,0,0,Cd,Cd⟩
def jS(w:Y):(sizeOf 34).run prog w=.ok 14 w:=ou
def L4{o}(h:w.heap[b]?=some (.cells (Bn o) 34 (0,0)))a:∃w',(Instr.storeAt 34 (Q9 b)<|I5 a).run prog w=.ok () w'/\Bu w w' b (Bn a) 34:=
 BP (old:=(Bn o).toList) (vs:=(Bn a).toList) jS h rfl rfl (Sq a) rfl
structure OD (K:Kd) (c:Cs) (b ab rb M:Nat) (w W:Y) (a:Ac):Prop where
 cu:Cq K c b M W
 gr:Gr b w W
 kR:W.heap[ab]?=some (.cells (Bn a) 34 (0,0))
 wJ:W.heap[rb]?=some (.cells (Bn VQ) 34 (0,0))
 wf:VP a
section
variable {K:Kd} {c c':Cs} {b ab rb M M':Nat} {w W W':Y} {a a':Ac}
theorem OD.next(h:OD K c b ab rb M w W a)(hc:Cq K c' b M' W')(d:Gr b W W')(h1:ab≠b)(h2:rb≠b):OD K c' b ab rb M' w W' a:=
 ⟨hc,h.gr.trans d,(d.block ab h1<|Ai h.kR).trans h.kR,(d.block rb h2<|Ai h.wJ).trans h.wJ,h.wf⟩
def OD.mono(h:OD K c b ab rb M w W a)(d:M<=M'):OD K c b ab rb M' w W a:=⟨h.cu.mono d,h.gr,h.kR,h.wJ,h.wf⟩
def OD.cell(h:OD K c b ab rb M w W a)(j:Nat)(u:V9)(hu:(Bn a).toList[j]?=some u):W.cell? (G ab j)=some u:=by
 rw[Hi W ab j _ _ _ h.kR];simpa using hu
theorem OD.fz(h:OD K c b ab rb M w W a)j:W.frozen? (G ab j)=false:=by simp[World.frozen?,h.kR]
def OD.set(h:OD K c b ab rb M w W a)(f:w.heap.size<=ab)(d:ab≠rb)(hb:b<ab)(h1:W'.heap[ab]?=some (.cells (Bn a') 34 (0,0)))(h2:∀k,k≠ab->W'.heap[k]?=W.heap[k]?)(h3:W'.heap.size=W.heap.size/\W'.os=W.os/\W'.tape=W.tape/\W'.output=W.output)(e:VP a'):OD K c b ab rb M w W' a':=
 ⟨h.cu.below (B:=ab) ⟨h3.2.1,h3.2.2.1,h3.2.2.2,by rw[h3.1];exact Be _,λk hk=>h2 k om⟩ hb,⟨h3.2.1.trans h.gr.os,h3.2.2.1.trans h.gr.tape,h3.2.2.2.trans h.gr.output,by rw[h3.1];exact h.gr.size,λk hk hl=>(h2 k om).trans<|h.gr.block k hk hl⟩,h1,(h2 rb d.symm).trans h.wJ,e⟩
def OD.put(h:OD K c b ab rb M w W a)(d:w.heap.size<=ab)(e:ab≠rb)(hb:b<ab)(hs:Bu W W' ab (Bn a') 34)(f:VP a'):OD K c b ab rb M w W' a':=h.set d e hb hs.BH (λk hk=>hs.other k hk) ⟨hs.size,hs.os,hs.tape,hs.output⟩ f
end
def OU{ab}{cs}{ty}(h:W.heap[ab]?=some (.cells cs ty (0,0)))(v0 v1 v2 v3 v4:V9):(((((W.setCell (G ab q) v0).setCell (G ab<|q+1) v1).setCell (G ab<|q+2) v2).setCell (G ab<|q+3) v3).setCell (G ab<|q+4) v4).heap[ab]?=some (.cells (((((cs.setIfInBounds q v0).setIfInBounds (q+1) v1).setIfInBounds (q+2) v2).setIfInBounds (q+3) v3).setIfInBounds (q+4) v4) ty (0,0)):=by
 simp[World.setCell,Aap,h]
def oF(w:Y)a:(Instr.storeAt 34 (Q9 w.heap.size)<|I5 a).run prog (w.alloc<|.cells (Bn VQ) 34)=.ok () (w.alloc<|.cells (Bn a) 34):=by
 have h:=Ea (P:=prog) w 34 (Bn a).toList [] (Bn VQ).toList rfl (Sq a);have hs:=jS;unfold Instr.storeAt storeVar;simp only[Wx,VC]at h;have hc:(I5 a).cells.toList=(Bn a).toList:=rfl;have hn:(I5 a).cells.size=14:=rfl;simp only[AaM];have b:∀w',(Instr.sureAddr<|Q9 w.heap.size).run prog w'=.ok (y w 0) w':=λw'=>oe;simp[b,hs,hc,hn];exact h
def pR{c}(b Z)(w)(h:Cq K c b Z w)(hN:Z<=1099511500000):
  C9 16 #[Q9 b] w λe w'=>∃(a:Ac) (c':Cs),e=.returned (I5 a)/\VP a/\Z3 K c=(Bv a,c')/\Cq K c' b (Z+100) w'/\Gr b w w':=by
 have M:=h.lt;have n0:¬w.heap.size=b:=om;obtain⟨P,n⟩:=qa<|w.alloc<|.cells #[J 0,J 0,J 0,J 0,J 0,J 0,F9 0,E9,J 0,J 0,J 0,F9 0,E9,J 0] 34;have A:Below w.heap.size w P:=by rw[n];exact(BE _ _).alloc (Be _) _
 have Q:P.heap[w.heap.size]?=some (.cells (Bn VQ) 34 (0,0)):=by rw[n];exact DO _ _
 have ai:P.heap.size=w.heap.size+1:=by rw[n];simp
 rcases h.below A M,Gr.Am (b:=b) A,O Q with⟨H,aj,ak⟩;clear h Q A;go_enter func16,ntmps16;go_upto_region 1 with fail
 rw[<-n];clear n;go_wp2_with fail;refine(AF b Z 11 _ H om om om).mono ?_;rintro e w1 ⟨x1,d1,rfl,_,_,ao,aq,ar⟩;have au:=O ao;go_wp2_with fail;refine(AF b (Z+2) 8 _ aq om om om).mono ?_;rintro e w2 ⟨x2,d2,rfl,_,_,av,aw,ax⟩;have ay:=O av;have az:=ar.trans ax;go_wp2_with fail;refine(AF b (Z+4) 6 _ aw om om om).mono ?_;rintro e w3 ⟨R,d3,rfl,_,_,aM,a6,a7⟩;have a8:=O aM;have bb:=az.trans a7;go_wp2_with fail;refine(AF b (Z+6) 4 _ a6 om om om).mono ?_;rintro e w4 ⟨x4,d4,rfl,_,_,bc,S,bd⟩;have bf:=O bc;have B:=bb.trans bd;go_upto_region 2 with(refine Af rfl rfl _ (oF w4 ⟨x1,x2,R,x4,Cd,Cd⟩) ?_)
 generalize T:w4.alloc (.cells (Bn ⟨x1,x2,R,x4,Cd,Cd⟩) 34)=af;have bg:w.heap.size+1<=w4.heap.size:=by rw[(z B).size];omega
 have ag:sN K c=(Bv ⟨x1,x2,R,x4,Cd,Cd⟩,d4):=by simp[sN,z au,z ay,z a8,z bf,Bv,Df]
 have f:OD K d4 b w4.heap.size w.heap.size (Z+8) w af ⟨x1,x2,R,x4,Cd,Cd⟩:=by
  have C:Below w4.heap.size w4 af:=by rw[<-T];exact(BE _ _).alloc (Be _) _
  refine⟨S.below C S.lt,(aj.trans B.gr).trans<|Gr.Am C,by rw[<-T];exact DO _ _,?_,Cc,Cc⟩;exact(C.block _ om).trans ((B.block _ n0).trans ak)
 generalize (⟨x1,x2,R,x4,Cd,Cd⟩:Ac)=a0 at f ag;have bh:=O ag;generalize w4.heap.size=ab at f bg ⊢;have d:=O f;go_wp2_with fail;refine(AF b (Z+8) 2 _ d.cu om om om).mono ?_;rintro e U1 ⟨x,d5,rfl,_,_,bj,hc,hs⟩;have g:=O bj;have d:=d.next hc hs.gr om om
 go_upto_if 15 with fail
 go_cut [15] λ_ wx=>∃(a1:Ac) (c1:Cs),OD K c1 b ab w.heap.size (Z+8+22) w wx a1/\nD K (Bv a0,d4)=(Bv a1,c1)
 case first=>
  by_cases j:x=0
  .subst j;go_wp2_with fail;refine(T8 b (Z+8+2) _ d.cu om).mono ?_;rintro e V1 ⟨kind,num,Ah,s,ref,d6,rfl,o,hf,D,hc,hg⟩;have i:=O D;have d:=d.next hc hg om om;rcases d.cell 4 _ rfl,d.cell 5 _ rfl,d.cell 6 _ rfl,d.cell 7 _ rfl,d.cell 8 _ rfl,d.fz,qa (((((V1.setCell (G ab 4)<|J kind).setCell (G ab 5)<|J num).setCell (G ab 6)<|F9 Ah).setCell (G ab 7)<|.string s).setCell (G ab 8)<|J ref) with⟨c4,c5,c6,c7,c8,fz,⟨W1,r⟩⟩;have f:OD K d6 b ab w.heap.size (Z+8+22) w W1 {a0 with k:=⟨kind,num,Ah,s,ref⟩}:=by
    refine(d.set om om om ?_ ?_ ?_ ?_).mono om
    .rw[r];exact OU (q:=4) d.kR _ _ _ _ _
    .intro k hk;rw[r];iterate 5 rw[At _ _ _ _ (by exact hk)]
    .rw[r];exact⟨oq,rfl,rfl,rfl⟩
    exact⟨⟨o,hf⟩,d.wf.2⟩
   have HW:=O r;have d:=O f;go_wp2_with fail;rw[<-z HW];go_meet
   case rel=>exact⟨_,_,d,by simp[nD,Bv,Bl,z g,z i,EU]⟩
  have b0:(x==0)=false:=by simp[j]
  go_wp2_with fail
  go_meet
  case rel=>exact⟨_,_,d.mono om,by simp[nD,Bv,Bl,z g,j,EU]⟩
 obtain⟨a1,c1,f,bk⟩:=hcut;have bm:=O bk;have d:=O f;go_wp2_with fail;refine(AF b (Z+30) 2 _ d.cu om om om).mono ?_;rintro e U2 ⟨x,d6,rfl,_,_,D,hc,hs⟩;have i:=O D;have d:=d.next hc hs.gr om om
 go_upto_if 21 with fail
 go_cut [21] λ_ wx=>∃(a2:Ac) (c2:Cs),OD K c2 b ab w.heap.size (Z+30+22) w wx a2/\nE K (Bv a1,c1)=(Bv a2,c2)
 case first=>
  by_cases j:x=0
  .subst j;go_wp2_with fail;refine(T8 b (Z+30+2) _ d.cu om).mono ?_;rintro e V2 ⟨kind,num,Ah,s,ref,d7,rfl,o,hf,E,hc,hg⟩;have m:=O E;have d:=d.next hc hg om om;rcases d.cell 9 _ rfl,d.cell 10 _ rfl,d.cell 11 _ rfl,d.cell 12 _ rfl,d.cell 13 _ rfl,d.fz,qa (((((V2.setCell (G ab 9)<|J kind).setCell (G ab 10)<|J num).setCell (G ab 11)<|F9 Ah).setCell (G ab 12)<|.string s).setCell (G ab 13)<|J ref) with⟨c9,b5,b6,b7,b8,fz,⟨W2,r⟩⟩;have f:OD K d7 b ab w.heap.size (Z+30+22) w W2 {a1 with v:=⟨kind,num,Ah,s,ref⟩}:=by
    refine(d.set om om om ?_ ?_ ?_ ?_).mono om
    .rw[r];exact OU (q:=9) d.kR _ _ _ _ _
    .intro k hk;rw[r];iterate 5 rw[At _ _ _ _ (by exact hk)]
    .rw[r];exact⟨oq,rfl,rfl,rfl⟩
    exact⟨d.wf.1,o,hf⟩
   have HW:=O r;have d:=O f;go_wp2_with fail;rw[<-z HW];go_meet
   case rel=>exact⟨_,_,d,by simp[nE,Bv,Bl,z g,z i,z m,EU]⟩
  have b0:(x==0)=false:=by simp[j]
  go_wp2_with fail
  go_meet
  case rel=>exact⟨_,_,d.mono om,by simp[nE,Bv,Bl,z g,z i,j,EU]⟩
 obtain⟨a2,c2,f,bn⟩:=hcut;have bp:=O bn;have d:=O f;go_wp2_with fail;refine(AF b (Z+52) 3 _ d.cu om om om).mono ?_;rintro e U3 ⟨x,d7,rfl,_,_,E,hc,hs⟩;have m:=O E;have d:=d.next hc hs.gr om om
 go_upto_if 27 with fail
 go_cut [27] λ_ wx=>∃(a3:Ac) (c3:Cs),OD K c3 b ab w.heap.size (Z+70) w wx a3/\nF K (Bv a2,c2)=(Bv a3,c3)
 case first=>
  by_cases j:x=0
  .subst j;go_wp2_with fail;refine(AF b (Z+54) 5 _ d.cu om om om).mono ?_;rintro e V ⟨X,d8,rfl,bq,br,F,hc,hs⟩;have t:=O F;have d:=d.next hc hs.gr om om;go_wp2_with fail;refine(AF b (Z+56) 102 _ d.cu om om om).mono ?_;rintro e V ⟨U,d9,rfl,ai,b9,I,hc,hs⟩;have L:=O I;have d:=d.next hc hs.gr om om;go_wp2_with fail;refine(fH b (Z+58) _ d.cu om).mono ?_;rintro e V3 ⟨kind,num,Ah,s,ref,d10,rfl,o,hf,ad,hc,hg⟩;have ae:=O ad;have d:=d.next hc hg om om;obtain⟨W3,l,u⟩:=L4 d.kR ⟨2+X,U,0,0,⟨kind,num,Ah,s,ref⟩,Cd⟩;have d:=(d.put om om om u ⟨⟨o,hf⟩,Cc⟩).mono (M':=Z+70) om;have p:=O l;go_wp2_with (refine Af rfl rfl _ p ?_);go_meet
   case rel=>exact⟨_,_,d,by simp[nF,Bv,Bl,z g,z i,z m,z t,z L,z ae,EU]⟩
  have b0:(x==0)=false:=by simp[j]
  go_wp2_with fail
  go_meet
  case rel=>exact⟨_,_,d.mono om,by simp[nF,Bv,Bl,z g,z i,z m,j,EU]⟩
 obtain⟨a3,c3,f,bt⟩:=hcut;have bu:=O bt;have d:=O f;go_wp2_with fail;refine(AF b (Z+70) 12 _ d.cu om om om).mono ?_;rintro e U4 ⟨x,d8,rfl,_,_,F,hc,hs⟩;have t:=O F;have d:=d.next hc hs.gr om om
 go_upto_if 38 with fail
 go_cut [38] λ_ wx=>∃(a4:Ac) (c4:Cs),OD K c4 b ab w.heap.size (Z+74) w wx a4/\nG K (Bv a3,c3)=(Bv a4,c4)
 case first=>
  by_cases j:x=0
  .subst j;go_wp2_with fail;refine(AF b (Z+72) 2 _ d.cu om om om).mono ?_;rintro e V ⟨X,d9,rfl,bq,br,I,hc,hs⟩;have L:=O I;have d:=d.next hc hs.gr om om;clear hc hs;obtain⟨W4,l,u⟩:=L4 d.kR ⟨1+6*X,0,0,0,Cd,Cd⟩;have d:=(d.put om om om u ⟨Cc,Cc⟩).mono (M':=Z+74) om;have p:=O l;clear l u;go_wp2_with (refine Af rfl rfl _ p ?_);go_meet
   case rel=>exact⟨_,_,d,by simp[nG,Bv,Bl,z g,z i,z m,z t,z L,EU]⟩
  have b0:(x==0)=false:=by simp[j]
  go_wp2_with fail
  go_meet
  case rel=>exact⟨_,_,d.mono om,by simp[nG,Bv,Bl,z g,z i,z m,z t,j,EU]⟩
 obtain⟨a4,c4,f,ah⟩:=hcut;have bw:=O ah;clear ah;have d:=O f;clear f;have f:=z d;clear d;obtain⟨W5,l,u⟩:=L4 f.wJ a4;have r0:=A9 (vs:=(Bn a4).toList) u;have bx:Hid<|∃(a:Ac) (c':Cs),Ending.returned (I5 a4)=.returned (I5 a)/\VP a/\Z3 K c=(Bv a,c')/\Cq K c' b (Z+100) W5/\Gr b w W5:=O ⟨a4,c4,rfl,f.wf,by simp[Z3,z bh,z bm,z bp,z bu,z bw],(f.cu.mono om).below (u.below (BE w.heap.size wc)<|Be _) M,f.gr.EI (u.below (BE w.heap.size wc)<|Be _)<|Be _⟩;rcases O l,O f.kR,qg r0 with⟨p,bz,⟨q0,q1,q2,q3,q4,q5,q6,q7,q8,q9,b1,b2,b3,b4⟩⟩;clear l u f r0;go_wp2_with (first|(refine Aah rfl 34 _ rfl ab rfl _ _ _ _ bz underlying34 rfl ou ?_)|(refine Af rfl rfl _ p ?_));refine Fs (v:=I5 a4) (by simp[results,results16,go_sem,q0,q1,q2,q3,q4,q5,q6,q7,q8,q9,b1,b2,b3,b4]) rfl bx
theorem Zr(h:C1 x=true):∃s f,Ieee.double.read x=.nan s f:=by
 have h':((Ieee.double.read x).order (Ieee.double.read x)!=some .eq)=true:=h;cases a:Ieee.double.read x with
 |nan s f=>exact⟨s,f,rfl⟩
 |infinity s=>rw[a]at h';cases s<;>cases h'
 |number s m i=>rw[a]at h';simp[Ieee.Datum.order]at h'
theorem Z0:Ieee.double.read fX=.nan false 2251799813685249:=oo
def LS(P:Ieee.Datum->Ieee.Datum->Prop)(a:∀d,P d d)(h1:∀s f s' f',P (.nan s f)<|.nan s' f')x:P (Ieee.double.read<|cn x)<|Ieee.double.read x:=by
 grind [cn,Zr,Z0]
def Jw x Z:O9 (cn x) Z=O9 x Z:=
 LS (λa b=>a.order (Ieee.double.read Z)=b.order (Ieee.double.read Z)) (λ_=>rfl) (λ_ _ _ _=>rfl) x
def RH(d:Ieee.Datum)s f:d.order (.nan s f)=none:=by cases d<;>rfl
def U8 x Z:O9 Z (cn x)=O9 Z x:=
 LS (λa b=>(Ieee.double.read Z).order a=(Ieee.double.read Z).order b) (λ_=>rfl) (λ_ _ _ _=>by rw[RH,RH]) x
def vC x:fz (cn x)=fz x:=by unfold fz;rw[Jw]
theorem Lr x:C1 (cn x)=C1 x:=by unfold C1;rw[Jw,U8]
def rJ x Z:NI (cn x) (cn Z)=NI x Z:=by unfold NI;rw[Jw,U8]
def sE x:Qq (cn x)=Qq x:=by
 unfold Qq;exact LS (λa b=>(match a with|.number s m i=>decide (Fl.sc s m i=Fl.sg s (Fl.whole m i)*Fl.U)|_=>false)=(match b with|.number s m i=>decide (Fl.sc s m i=Fl.sg s (Fl.whole m i)*Fl.U)|_=>false)) (λ_=>rfl) (λ_ _ _ _=>rfl) x
theorem mA x:KR (cn x)=KR x:=by
 unfold KR;exact LS (λa b=>(match a with|.number s m i=>Fl.sg s (Fl.whole m i)|_=>0)=(match b with|.number s m i=>Fl.sg s (Fl.whole m i)|_=>0)) (λ_=>rfl) (λ_ _ _ _=>rfl) x
theorem R7 x:Ce (cn x)=Ce x:=by unfold Ce VR TP;rw[sE,Jw,Jw]
def mE x:EE (cn x)=EE x:=by
 unfold EE;exact LS (λa b=>(match a with|.infinity s=>(if s then[45]else[])++[105,110,102]|.number s m i=>Lt s (2*(m/2^Lib.ctz 64 m/2)+1) (i+Lib.ctz 64 m)|_=>[])=(match b with|.infinity s=>(if s then[45]else[])++[105,110,102]|.number s m i=>Lt s (2*(m/2^Lib.ctz 64 m/2)+1) (i+Lib.ctz 64 m)|_=>[])) (λ_=>rfl) (λ_ _ _ _=>rfl) x
def LK:Bl default=default:=GM _ _ _ _
theorem Ju v:(Bl v).ok=v.ok:=by unfold Vl.ok Bl Bf;simp only[vC]
def fF v:Ch (Bl v)=Ch v:=by
 grind [Ch,Bl,Ju,Lr,R7]
def RF v:C0 (Bl v)=C0 v:=by unfold C0;rw[Ju];rfl
theorem gC v:I8 (Bl v)=I8 v:=by unfold I8;rw[Ju];rfl
def nH v:Jb (Bl v)=Jb v:=by unfold Jb;rw[Ju];rfl
def ZX a b:AH (Bl a) (Bl b)=AH a b:=by unfold AH;simp only[Bl,rJ]
def WB v:hN (Bl v)=hN v:=by unfold hN DK;simp only[Bl,mE];rfl
theorem ZI v:De (Bl v)=De v:=by unfold De;rw[Ju];simp only[Bl,Lr]
def UI v:CZ (Bl v)=Bl (CZ v):=by
 grind [CZ,Bl,Ju,cn,Lr,R7,mA,GM]
theorem cV a:Cx (Bv a)=Cx a:=by
 grind [Cx,Bv,El,JB,Bl,Ju,gC]
theorem X2 a nt ns:H7 (Bv a) nt ns=H7 a nt ns:=by
 grind [H7,Bv,cV,Bl,ZI]
def Gy(p:Pr):Pr:=⟨Bl p.key,Bl p.val,p.turn⟩
def AP(d:Dc):Dc:={d with L:=λi=>Gy (d.L i)}
def RG:Gy default=default:=by
 show(⟨Bl default,Bl default,0⟩:Pr)=⟨default,default,0⟩;rw[LK]
def GX f i p:(λj=>Gy<|AW f i p j)=AW (λj=>Gy<|f j) i (Gy p):=by
 funext j
 unfold AW;split<;>rfl
def Me{α β}(g:α->β)f i p:(λj=>g<|AM f i p j)=AM (λj=>g<|f j) i (g p):=by
 funext j
 unfold AM;split<;>rfl
theorem RM(d:Dc)(v:Vl):∀f a,probe (AP d) (Bl v) a f=probe d v a f
 |0,_=>rfl
 |f+1,a=>by
  show(if d.X a=0 then none else if 0<d.X a/\AH (Bl (d.at<|d.X a).key) (Bl v)=true then some a else probe (AP d) (Bl v) ((a+1)%d.x) f)=_;rw[ZX,RM d v f];rfl
def K8 d v h:A1 (AP d) (Bl v) h=A1 d v h:=by
 grind [A1,AP,Bl,probe,RM]
def Xl d v h:Ay (AP d) (Bl v) h=Ay d v h:=by
 unfold Ay;rw[K8];rfl
theorem IA d v:Ay (AP d) (Bl v) (hN<|Bl v)=Ay d v (hN v):=by rw[WB,Xl]
theorem O2 d k p:AY hN (AP d) (Bl k) p=AP (AY hN d k p):=by
 unfold AY;rw[WB];show(match Db d.x d.X (hN k%d.x)with|none=>AP d|some a=>_)=_;cases Db d.x d.X (hN k%d.x)<;>rfl
theorem Uv(d:Dc):∀k,BV (AP d) k=BV d k
 |0=>rfl
 |k+1=>by
  unfold BV;rw[Uv d k];rfl
theorem K6(d:Dc)(x:Nat):∀k,Bp hN (AP d) x k=AP (Bp hN d x k)
 |0=>rfl
 |k+1=>by
  by_cases h:AZ d k
  .rw[D9 h,D9 (d:=AP d) h,K6 d x k];exact O2 _ _ _
  rw[Eg h,Eg (d:=AP d) h,K6 d x k]
theorem LW d more:A3 hN (AP d) more=AP (A3 hN d more):=by
 unfold A3;rw[Uv,K6];show(if BV d d.n+more=0 then AP {d with x:=0,used:=0}else _)=_;split<;>rfl
theorem aB d:Co (AP d)=AP (Co d):=rfl
def Lp d:Ap hN (AP d)=AP (Ap hN d):=by
 grind [Ap,hN,AP,aB,LW]
def SE{d:Dc}{g}(h:f=g)n m I x X u l t:(⟨n,f,m,I,x,X,u,l,t⟩:Dc)=⟨n,g,m,I,x,X,u,l,t⟩:=by rw[h]
theorem cX c k v:B3 (AP c) (Bl k) (Bl v)=AP (B3 c k v):=SE (d:=c) (GX c.L c.n ⟨k,v,c.turns+1⟩).symm _ _ _ _ _ _ _ _
theorem Ss c k v:B5 (AP c) (Bl k) (Bl v)=AP (B5 c k v):=SE (d:=c) (GX c.L c.n ⟨k,v,c.turns+1⟩).symm _ _ _ _ _ _ _ _
theorem T0 c k v:B4 (AP c) (Bl k) (Bl v)=AP (B4 c k v):=SE (d:=c) (GX c.L c.n ⟨k,v,c.turns+1⟩).symm _ _ _ _ _ _ _ _
def fC n:Bl (CM n)=CM n:=GM _ _ _ _
theorem RD:∀(f:Nat) (d:Dc),Cy hN f (AP d)=AP (Cy hN f d)
 |0,d=>rfl
 |f+1,d=>by
  have e:=K8 d (CM<|(d.m:Int)+1)<|hN<|CM<|(d.m:Int)+1;rw[fC]at e;show(match A1 (AP d) (CM<|(d.m:Int)+1) (hN<|CM<|(d.m:Int)+1)with|none=>AP d|some s=>Cy hN f<|AP<|DW d s)=AP (match A1 d (CM<|(d.m:Int)+1) (hN<|CM<|(d.m:Int)+1)with|none=>d|some s=>Cy hN f<|DW d s);rw[e];cases A1 d (CM<|(d.m:Int)+1) (hN<|CM<|(d.m:Int)+1)with
  |none=>rfl
  |some s=>exact RD f _
theorem aI c:CT hN (AP c)=AP (CT hN c):=by
 grind [CT,hN,AP,LW,A3]
open Classical in
def Y8 c k v:Bx hN (AP c) (Bl k) (Bl v)=AP (Bx hN c k v):=by
 grind [Bx,hN,AP,Bl,Ss,T0,aI,cX,O2,RD,AA,B5,Cy,B4,AY,B3,CT]
theorem Zb d k v:GF hN (AP d) (Bl k) (Bl v)=AP (GF hN d k v):=by
 unfold GF;rw[Lp,Y8]
def Rc(d:Dc)p:(λi=>Gy<|AW d.L p default i)=AW (λi=>Gy<|d.L i) p default:=by rw[GX,RG]
open Classical in
def mG d p:GG hN (AP d) p=AP (GG hN d p):=by
 unfold GG;rw[show((AP d).L p).key=Bl (d.L p).key from rfl,WB,K8];have e1:goSmall (AP d) p=AP (goSmall d p):=SE (d:=d) (Rc d p).symm _ _ _ _ _ _ _ _;have e2:∀s,DQ (AP d) p s=AP (DQ d p s):=λs=>SE (d:=d) (Rc d p).symm _ _ _ _ _ _ _ _;rw[e1];show(if AA d.m (d.L p).key then AP (goSmall d p)else _)=_;grind [GG,hN,AP,A1]
theorem mI d p:Wv hN (AP d) p=AP (Wv hN d p):=by
 unfold Wv;rw[mG,Lp]
theorem iU d p v:II (AP d) p (Bl v)=AP (II d p v):=SE (d:=d) (GX d.L p ⟨(d.L p).key,v,(d.L p).turn⟩).symm _ _ _ _ _ _ _ _
def Vg d k v:Ca hN (AP d) (Bl k) (Bl v)=AP (Ca hN d k v):=by
 grind [Ca,hN,AP,Bl,IA,mI,iU,Zb,Ay]
def Yw:AP bU=bU:=by
 show(⟨0,λ_=>Gy default,0,λ_=>0,0,λ_=>0,0,0,0⟩:Dc)=_;rw[RG];rfl
def T7 d p:Eb (AP d) p=Bl (Eb d p):=by
 unfold Eb;split
 .rfl
 exact LK.symm
theorem Ry(d:Dc):∀k,CR (AP d) k=CR d k
 |0=>rfl
 |k+1=>by
  unfold CR;rw[Ry d k];cases CR d k with
  |none=>rfl
  |some p=>
   have e1:C0 ((AP d).L k).key=C0 (d.L k).key:=RF _;have e2:C0 ((AP d).L k).val=C0 (d.L k).val:=RF _;have e3:Eo (AP d).turns p.2 ((AP d).L k)=Eo d.turns p.2 (d.L k):=by
    unfold Eo;rw[show((AP d).L k).key=Bl (d.L k).key from rfl,show((AP d).L k).val=Bl (d.L k).val from rfl,fF,Ju];rfl
   obtain⟨a,b⟩:=p;simp only at e3 ⊢;rw[e1,e2,e3];rfl
theorem qB d:D5 (AP d) (hD<|AP d)↔D5 d (hD d):=by
 unfold D5;have e:∀i,Ay (AP d) ((AP d).L i).key (hD (AP d) i)=Ay d (d.L i).key (hD d i):=λi=>IA d (d.L i).key;constructor
 .intro h i hi a;have:=h i hi a;rw[e i]at this;exact this
 intro h i hi a;have:=h i hi a;rw[<-e i]at this;exact this
theorem Qg(d:Dc):∀k,BS (AP d) k=BS d k
 |0=>rfl
 |k+1=>by
  unfold BS;rw[Qg d k];rfl
def Wl d:BI (AP d) (hD<|AP d)=BI d (hD d):=by
 have e1:D1 (AP d)↔D1 d:=Iff.rfl;have e2:D2 (AP d)↔D2 d:=by unfold D2;rw[Ry];exact Iff.rfl
 have e3:D3 (AP d)↔D3 d:=Iff.rfl;have a:D4 (AP d)↔D4 d:=by unfold D4;rw[Qg];exact Iff.rfl
 grind [BI,AP,hD,D2,D3,D4,D5,N2,qB,SK,SI,SH,SG,SF]
def GZ(v0 v1 v2:V9)(b:Nat):Prop:=v0.ownBlock=some b\/v1.ownBlock=some b\/v2.ownBlock=some b
structure AO (w:Y) (c o B:Nat) (v0 v1 v2:V9) (d:Dc):Prop where
 lt:c<w.heap.size
 c0:w.cell? (G c o)=some v0
 c1:w.cell? (G c<|o+1)=some v1
 c2:w.cell? (G c<|o+2)=some v2
 c3:w.cell? (G c<|o+3)=some (J d.used)
 c4:w.cell? (G c<|o+4)=some (J d.live)
 c5:w.cell? (G c<|o+5)=some (J d.turns)
 fz:∀q,w.frozen? (G c q)=false
 log:BU w B v0 d.n d.L
 ints:Bt w B v1 d.m d.I
 index:Bt w B v2 d.x d.X
 ap:∀q,v1.ownBlock=some q->v2.ownBlock≠some q
 nc:¬GZ v0 v1 v2 c
 base:B<=w.heap.size
def YY(w w':Y)(c:Nat):Prop:=∀cs ty,w.heap[c]?=some (.cells cs ty (0,0))->∃a,w'.heap[c]?=some (.cells a ty (0,0))/\a.size=cs.size
theorem YY.same(h:w'.heap[c]?=w.heap[c]?):YY w w' c:=λcs ty e=>⟨cs,h.trans e,rfl⟩
theorem YY.trans{a}(h:YY w w' c)(k:YY w' a c):YY w a c:=λcs ty e=>by
 obtain⟨d,h1,h2⟩:=h cs ty e;obtain⟨b,k1,k2⟩:=k d ty h1;exact⟨b,k1,k2.trans h2⟩
def YY.set w c a u:YY w (w.setCell a u) c:=λcs ty e=>by
 by_cases h:c=a.block
 .subst h;exact⟨if a.spot.isSome=true then cs else cs.setIfInBounds a.off u,by simp[World.setCell,Aap,e],by split<;>simp⟩
 exact⟨cs,(At _ _ _ _ h).trans e,rfl⟩
structure CN (c o:Nat) (v0 v1 v2:V9) (w:Y) (u0 u1 u2:V9) (w':Y):Prop where
 os:w'.os=w.os
 tape:w'.tape=w.tape
 output:w'.output=w.output
 size:w.heap.size<=w'.heap.size
 block:∀b,b<w.heap.size->b≠c->¬GZ v0 v1 v2 b->w'.heap[b]?=w.heap[b]?
 cell:∀q,(q<o\/o+6<=q)->w'.cell? (G c q)=w.cell? (G c q)
 sub:∀b,GZ u0 u1 u2 b->GZ v0 v1 v2 b\/w.heap.size<=b
 ty:YY w w' c
def CN.refl c o v0 v1 v2 w:CN c o v0 v1 v2 w v0 v1 v2 w:=⟨rfl,rfl,rfl,Be _,λ_ _ _ _=>rfl,λ_ _=>rfl,λ_ h=>.inl h,.same rfl⟩
theorem CN.trans{t0 t1 t2}{a}(h:CN c o v0 v1 v2 w u0 u1 u2 w')(k:CN c o u0 u1 u2 w' t0 t1 t2 a):CN c o v0 v1 v2 w t0 t1 t2 a:=
 ⟨k.os.trans h.os,k.tape.trans h.tape,k.output.trans h.output,GO h.size k.size,λb hb hc d=>(k.block b (A0 hb h.size) hc λe=>(h.sub b e).elim d λe'=>absurd hb om).trans<|h.block b hb hc d,λq hq=>(k.cell q hq).trans<|h.cell q hq,λb hb=>(k.sub b hb).elim (h.sub b) λe=>.inr<|GO h.size e,h.ty.trans k.ty⟩
def CN.Am(h:B9 w w')(hc:c<w.heap.size):CN c o v0 v1 v2 w v0 v1 v2 w':=
 ⟨h.os,h.tape,h.output,h.size,λb hb _ _=>h.block b hb,λq _=>h.cell hc,λ_ e=>.inl e,.same<|h.block c hc⟩
def AO.NM(h:AO w c o B v0 v1 v2 d){b}(e:GZ v0 v1 v2 b):B<=b/\b<w.heap.size:=by
 rcases e with e|e|e
 .exact h.log.lt b e
 .exact h.ints.lt b e
 exact h.index.lt b e
def AO.below(h:AO w c o B v0 v1 v2 d)(hb:B9 w w'):AO w' c o B v0 v1 v2 d:=by
 have e:∀q,w'.cell? (G c q)=w.cell? (G c q):=λq=>hb.cell h.lt;exact⟨A0 h.lt hb.size,(e _).trans h.c0,(e _).trans h.c1,(e _).trans h.c2,(e _).trans h.c3,(e _).trans h.c4,(e _).trans h.c5,λq=>(hb.frozen h.lt).trans<|h.fz q,Dp h.log hb.size λq _ hq=>hb.block q hq,Dp h.ints hb.size λq _ hq=>hb.block q hq,Dp h.index hb.size λq _ hq=>hb.block q hq,h.ap,h.nc,GO h.base hb.size⟩
def AO.ptr(h:AO w c o B v0 v1 v2 d):∃la lc ia ic xa xc,v0=.slice la d.n lc/\v1=.slice ia d.m ic/\v2=.slice xa d.x xc/\Ia w c o la lc ia ic xa xc d:=by
 rcases h.log.at,h.ints.at,h.index.at with⟨⟨la,lc,e0,a⟩,⟨ia,ic,e1,b⟩,⟨xa,xc,e2,e⟩⟩;subst e0 e1 e2;exact⟨la,lc,ia,ic,xa,xc,rfl,rfl,rfl,h.lt,h.c0,h.c1,h.c2,h.c3,h.c4,h.c5,a,b,e⟩
def AO.of_same{e}(h:AO w c o B v0 v1 v2 d)(n:e.n=d.n)(L:∀i,i<d.n->e.L i=d.L i)(m:e.m=d.m)(I:∀i,i<d.m->e.I i=d.I i)(x:e.x=d.x)(X:∀i,i<d.x->e.X i=d.X i)(hu:e.used=d.used)(hl:e.live=d.live)(a:e.turns=d.turns):AO w c o B v0 v1 v2 e:=by
 have hp:∀(f g:Nat->Pr) (n:Nat),(∀i,i<n->f i=g i)->pL f n=pL g n:=by
  intro f g n hh
  induction n with
  |zero=>rfl
  |succ n ih=>show pL f n++DA (f n)=pL g n++DA (g n);rw[ih (λj hj=>hh j om),hh n om]
 have hi:∀(f g:Nat->Int) (n:Nat),(∀i,i<n->f i=g i)->iL f n=iL g n:=by
  intro f g n hh
  induction n with
  |zero=>rfl
  |succ n ih=>show iL f n++[_]=iL g n++[_];rw[ih (λj hj=>hh j om),hh n om]
 refine⟨h.lt,h.c0,h.c1,h.c2,by rw[hu];exact h.c3,by rw[hl];exact h.c4,by rw[a];exact h.c5,h.fz,?_,?_,?_,h.ap,h.nc,h.base⟩
 .show w.ownsRow _ _ _ _ e.n (pL e.L e.n);rw[n,hp e.L d.L d.n L];exact h.log
 .show w.ownsRow _ _ _ _ e.m (iL e.I e.m);rw[m,hi e.I d.I d.m I];exact h.ints
 show w.ownsRow _ _ _ _ e.x (iL e.X e.x);rw[x,hi e.X d.X d.x X];exact h.index
def Bt.form{v}{f}(h:Bt w B v n f)(hn:0<n):∃g cp,v=S9 g n cp/\B<=g/\g<w.heap.size/\n<=cp/\(∀i,i<n->w.cell? (G g i)=some (J<|f i))/\∀q,w.frozen? (G g q)=false:=by
 have h':=h;obtain⟨hl,⟨a,c⟩|⟨g,cap,cur,a,hb,b,h1,h2,h3,h4⟩⟩:=h'
 .omega
 subst a;exact⟨g,cap,rfl,hb,(h.lt g rfl).2,h1,λi hi=>by rw[Lo h _ om,KS hi],λq=>World.ownsRow.frozenAt h q⟩
def BU.form{v}(h:BU w B v n f)(hn:0<n):∃g cp,v=S9 g n cp/\B<=g/\g<w.heap.size/\n<=cp/\(∀i,i<n->Jd w g (i*11) (f i))/\∀q,w.frozen? (G g q)=false:=by
 have h':=h;obtain⟨hl,⟨a,c⟩|⟨g,cap,cur,a,hb,b,h1,h2,h3,h4⟩⟩:=h'
 .omega
 subst a;refine⟨g,cap,rfl,hb,(h.lt g rfl).2,h1,λi hi=>Jd.of λj u hu=>?_,λq=>World.ownsRow.frozenAt h q⟩;have hj:j<11:=by
  have:=(SO.1 hu).1;simpa[DA]using this
 rw[Lo h _ om,MO hi hj,hu]
theorem rP f n i x(hi:i<n):(iL f n).set i (J x)=iL (AW f i x) n:=by
 apply AaF;grind [iL,AW,C4,KS,Ax]
def Bt.set{f}(h:Bt w B (S9 g n cp) n f){i}(hi:i<n)x:Bt (w.setCell (G g i)<|J x) B (S9 g n cp) n<|AW f i x:=by
 have h1:=(We h i<|J x).1;grind [rP]
def Bi{size}{v:V9}(h:w.ownsRow B e size v n xs){a}u(b:v.ownBlock≠some a.block):(w.setCell a u).ownsRow B e size v n xs:=
 AaL h (CI w a u) (.inr b)
def Ef{B' n'}{v v'}{f'}(h:BU w B v n f)(h':Bt w B' v' n' f'){q}(e:v.ownBlock=some q):v'.ownBlock≠some q:=by
 intro e';obtain⟨_,⟨rfl,_⟩|⟨g,cap,cur,rfl,hb,b,_⟩⟩:=h
 .cases e
 obtain⟨_,⟨rfl,_⟩|⟨g',c,d,rfl,i,a,_⟩⟩:=h'
 .cases e'
 simp[Value.ownBlock]at e e';grind
def CG{v u:V9}(h:w.cell? (G b o)=some u):(w.setCell (G b o) v).cell? (G b o)=some v:=ID _ _ _<|qm h
def Cn u(hq:o<=q/\q<o+6)(hs:∀b,GZ u0 u1 u2 b->GZ v0 v1 v2 b\/w.heap.size<=b):CN c o v0 v1 v2 w u0 u1 u2<|w.setCell (G c q) u:=
 ⟨rfl,rfl,rfl,oq,λb _ hc _=>At _ _ _ _<|by exact hc,λp hp=>Aa om,hs,.set _ _ _ _⟩
def DJ u(a:GZ v0 v1 v2 g)(hc:g≠c):CN c o v0 v1 v2 w v0 v1 v2<|w.setCell (G g q) u:=
 ⟨rfl,rfl,rfl,oq,λb _ _ d=>At _ _ _ _ λe=>d (by have e:b=g:=e;rw[e];exact a),λp _=>Aq hc,λb e=>.inl e,.set _ _ _ _⟩
section
variable {w:Y} {c o B:Nat} {v0 v1 v2:V9} {d:Dc}
theorem AO.DU(h:AO w c o B v0 v1 v2 d){q}{u:V9}{u0 u1 u2:V9}{e}
  (g0:(w.setCell (G c q) u).cell? (G c o)=some u0) (g1:(w.setCell (G c q) u).cell? (G c<|o+1)=some u1) (g2:(w.setCell (G c q) u).cell? (G c<|o+2)=some u2)
  (g3:(w.setCell (G c q) u).cell? (G c<|o+3)=some (J e.used)) (g4:(w.setCell (G c q) u).cell? (G c<|o+4)=some (J e.live)) (g5:(w.setCell (G c q) u).cell? (G c<|o+5)=some (J e.turns))
  (l:BU w B u0 e.n e.L) (i:Bt w B u1 e.m e.I) (x:Bt w B u2 e.x e.X) (ap:∀q,u1.ownBlock=some q->u2.ownBlock≠some q) (nc:¬GZ u0 u1 u2 c):AO (w.setCell (G c q) u) c o B u0 u1 u2 e:=
 ⟨by simpa using h.lt,g0,g1,g2,g3,g4,g5,λp=>by rw[PC];exact h.fz p,Bi l _ λe=>nc<|.inl e,Bi i _ λe=>nc<|.inr<|.inl e,Bi x _ λe=>nc<|.inr<|.inr e,ap,nc,by simpa using h.base⟩
def AO.iP(h:AO w c o B v0 v1 v2 d){u}{n}{L}(l:BU w B u n L)(nc:u.ownBlock≠some c):AO (w.setCell (G c o) u) c o B u v1 v2 {d with n:=n,L:=L}:=
 h.DU (CG h.c0) ((Aa om).trans h.c1) ((Aa om).trans h.c2) ((Aa om).trans h.c3) ((Aa om).trans h.c4) ((Aa om).trans h.c5) l h.ints h.index h.ap λe=>e.elim nc λe=>h.nc<|.inr e
def AO.Oi(h:AO w c o B v0 v1 v2 d){u}{m}{I}(l:Bt w B u m I)(nc:u.ownBlock≠some c)(ap:∀q,u.ownBlock=some q->v2.ownBlock≠some q):AO (w.setCell (G c<|o+1) u) c o B v0 u v2 {d with m:=m,I:=I}:=
 h.DU ((Aa om).trans h.c0) (CG h.c1) ((Aa om).trans h.c2) ((Aa om).trans h.c3) ((Aa om).trans h.c4) ((Aa om).trans h.c5) h.log l h.index ap λe=>e.elim (λe=>h.nc<|.inl e) λe=>e.elim nc λe=>h.nc<|.inr<|.inr e
def AO.setIndex(h:AO w c o B v0 v1 v2 d){u}{x}{X}(l:Bt w B u x X)(nc:u.ownBlock≠some c)(ap:∀q,v1.ownBlock=some q->u.ownBlock≠some q):AO (w.setCell (G c<|o+2) u) c o B v0 v1 u {d with x:=x,X:=X}:=
 h.DU ((Aa om).trans h.c0) ((Aa om).trans h.c1) (CG h.c2) ((Aa om).trans h.c3) ((Aa om).trans h.c4) ((Aa om).trans h.c5) h.log h.ints l ap λe=>e.elim (λe=>h.nc<|.inl e) λe=>e.elim (λe=>h.nc<|.inr<|.inl e) nc
def AO.Kg(h:AO w c o B v0 v1 v2 d)u:AO (w.setCell (G c<|o+3)<|J u) c o B v0 v1 v2 {d with used:=u}:=
 h.DU ((Aa om).trans h.c0) ((Aa om).trans h.c1) ((Aa om).trans h.c2) (CG h.c3) ((Aa om).trans h.c4) ((Aa om).trans h.c5) h.log h.ints h.index h.ap h.nc
def AO.GQ(h:AO w c o B v0 v1 v2 d)u:AO (w.setCell (G c<|o+4)<|J u) c o B v0 v1 v2 {d with live:=u}:=
 h.DU ((Aa om).trans h.c0) ((Aa om).trans h.c1) ((Aa om).trans h.c2) ((Aa om).trans h.c3) (CG h.c4) ((Aa om).trans h.c5) h.log h.ints h.index h.ap h.nc
def AO.LX(h:AO w c o B v0 v1 v2 d)u:AO (w.setCell (G c<|o+5)<|J u) c o B v0 v1 v2 {d with turns:=u}:=
 h.DU ((Aa om).trans h.c0) ((Aa om).trans h.c1) ((Aa om).trans h.c2) ((Aa om).trans h.c3) ((Aa om).trans h.c4) (CG h.c5) h.log h.ints h.index h.ap h.nc
def AO.sX(h:AO w c o B v0 v1 v2 d){g q}{u:V9}(a:GZ v0 v1 v2 g){e}(hu:e.used=d.used)(hl:e.live=d.live)(b:e.turns=d.turns)
  (l:BU (w.setCell (G g q) u) B v0 e.n e.L) (i:Bt (w.setCell (G g q) u) B v1 e.m e.I) (x:Bt (w.setCell (G g q) u) B v2 e.x e.X):AO (w.setCell (G g q) u) c o B v0 v1 v2 e:=by
 have hc:g≠c:=λe=>h.nc<|e▸a;exact⟨by simpa using h.lt,(Aq hc).trans h.c0,(Aq hc).trans h.c1,(Aq hc).trans h.c2,by rw[hu];exact(Aq hc).trans h.c3,by rw[hl];exact(Aq hc).trans h.c4,by rw[b];exact(Aq hc).trans h.c5,λp=>by rw[PC];exact h.fz p,l,i,x,h.ap,h.nc,by simpa using h.base⟩
end
def AO.PR(h:AO w c o B v0 v1 (S9 g d.x cp) d){i}(hi:i<d.x)x:AO (w.setCell (G g i)<|J x) c o B v0 v1 (S9 g d.x cp) {d with X:=AW d.X i x}:=
 h.sX (.inr<|.inr rfl) rfl rfl rfl (Bi h.log _ λe=>Ef h.log h.index e rfl) (Bi h.ints _ λe=>h.ap _ e rfl) (h.index.set hi x)
def AO.Xp(h:AO w c o B v0 (S9 g d.m cp) v2 d){i}(hi:i<d.m)x:AO (w.setCell (G g i)<|J x) c o B v0 (S9 g d.m cp) v2 {d with I:=AW d.I i x}:=
 h.sX (.inr<|.inl rfl) rfl rfl rfl (Bi h.log _ λe=>Ef h.log h.ints e rfl) (h.ints.set hi x) (Bi h.index _ λe=>h.ap _ rfl e)
def Tv ob u(hc:c<w.heap.size)(hq:o<=q/\q<o+6)(hs:∀b,GZ u0 u1 u2 b->GZ v0 v1 v2 b\/w.heap.size<=b):CN c o v0 v1 v2 w u0 u1 u2<|(w.alloc ob).setCell (G c q) u:=
 ⟨rfl,rfl,rfl,oq,λb hb hc _=>(At _ _ _ _<|by exact hc).trans<|E1 _ _ _ hb,λp hp=>(Aa om).trans<|It _ _ _<|by exact hc,hs,(YY.same<|E1 _ _ _ hc).trans<|.set _ _ _ _⟩
def MY{row}u(a:w.grownBy w3 row)(d:∀b,row=some b->GZ v0 v1 v2 b\/w.heap.size<=b)(hc:c<w.heap.size)(hn:row≠some c)(hq:o<=q/\q<o+6)(hs:∀b,GZ u0 u1 u2 b->GZ v0 v1 v2 b\/w.heap.size<=b):CN c o v0 v1 v2 w u0 u1 u2<|w3.setCell (G c q) u:=
 ⟨a.os,a.tape,a.output,by simpa using a.size,λb hb hc f=>(At _ _ _ _<|by exact hc).trans<|a.block b hb λe=>(d b e.symm).elim f λe'=>om,λp hp=>(Aa om).trans<|As<|a.block c hc λe=>hn e.symm,hs,(YY.same<|a.block c hc λe=>hn e.symm).trans<|.set _ _ _ _⟩
def mP n:(madeCells #[Value.int .i64 0] n).toList=iL (λ_=>0) n:=by
 rw[toList_madeCells_one]
 induction n with
 |zero=>rfl
 |succ n ih=>rw[List.replicate_succ'];show _=iL (λ_=>0) n++[J 0];rw[<-ih]
def Bt.made(w:Y)B n(hb:B<=w.heap.size)(hn:n<=4194304):Bt (w.alloc<|.cells (madeCells #[Value.int .i64 0] n) 3) B (S9 w.heap.size n n) n λ_=>0:=by
 have h:=World.ownsRow_lit (e:=3) (size:=1) w (madeCells #[Value.int .i64 0] n) n hb od (by rw[size_madeCells];omega);rw[mP]at h;exact h
def Bt.cut{I}(h:Bt w B (S9 g m cp) m I){n}(hn:n<=m):Bt w B (S9 g n cp) n I:=by
 obtain⟨hl,⟨b,c⟩|⟨g',cap,cur,b,hb,a,h1,h2,h3,h4⟩⟩:=h
 .cases b
 cases b;refine⟨by rw[C4];omega,.inr ⟨g,cp,cur,rfl,hb,a,om,h2,h3,?_⟩⟩;have e:∀j,iL I (n+j)=iL I n++(iL I<|n+j).drop n:=by
  intro j;have hp:iL I n<+:iL I (n+j):=by
   induction j with
   |zero=>exact List.prefix_refl _
   |succ j ih=>exact ih.trans<|List.prefix_append _ _
  obtain⟨t,d⟩:=hp;grind [C4]
 have e':=e<|m-n;have:cur.toList.take (n*1)=(cur.toList.take<|m*1).take n:=by rw[List.take_take];congr 1;omega
 grind [C4]
def OQ{a}(c:a<x)(b:t<x):((a+t)%x+x-a)%x=t:=by
 by_cases h:a+t<x
 .rw[TC h,show a+t+x-a=t+x by omega,Nat.add_mod_right,TC b]
 have e:(a+t)%x=a+t-x:=by rw[Nat.mod_eq_sub_mod om,TC om]
 rw[e,show a+t-x+x-a=t by omega,TC b]
def fY{a}(b:0<x):((a+t)%x+1)%x=(a+(t+1))%x:=by
 rw[Nat.mod_add_mod];rfl
def Jp hf c o B v0 v1 v2 d k(p:Nat)w(D:AO w c o B v0 v1 v2 d)(F:8<=d.x/\d.x<=4000/\Hb d.x)(hu:Cj d.X d.x<d.x)(aq:0<=d.used/\d.used<=4000)(hp:p<=4194304)(hh:YZ k<|hf k):
  C9 150 #[Pc c o,V k.kind k.num k.Ah k.str k.ref,J p] w λe w'=>((∃u,e=.returned u)/\AO w' c o B v0 v1 v2 (AY hf d k p))/\CN c o v0 v1 v2 w v0 v1 v2 w':=by
 obtain⟨T,hT,H,m,n⟩:=Fp (a:=hf k%d.x) (Tn _ om) hu;have U:=O<|Fy (p:=p) H;obtain⟨g,cp,rfl,ar,I,au,hcs,K⟩:=D.index.form om;have hand:=T3 (h:=hf k) F.2.2 F.2.1 hh.lt;have f:hf k%d.x<d.x:=Tn _ om;obtain⟨a0,L⟩:=qa<|hf k%d.x;rw[<-L]at hand f m n U;rcases F.1,F.2.1,D.c2,D.lt with⟨av,aw,c2,M⟩;have r:g≠c:=λe=>D.nc<|.inr<|.inr (by rw[<-e];rfl);have ax:c≠g:=λe=>r e.symm;rcases O m,O n,O hcs,O K with⟨Z,ad,ae,af⟩;have P:B9 w<|w.alloc<|.cells (qi k) 32:=n9;clear F m n hcs K L H;go_enter func150,ntmps150;go_wp2_with fail;refine(hh.call _).mono ?_;rintro e w1 ⟨rfl,ag⟩;have i:=o9 P ag;go_wp2_with fail;go_loopw [7] (λa wr=>∃t:Nat,a=J (((a0+t)%d.x:Nat):Int)/\t<=T/\wr=w1) λa _=>d.x-(((intOf a).toNat+d.x-a0)%d.x)
 .exact⟨0,by rw[Aag,TC f],om,rfl⟩
 obtain⟨t,rfl,ay,rfl⟩:=hrel;have c2:=(i.cell M).trans D.c2;obtain⟨a,E⟩:=qa<|(a0+t)%d.x;have s:a<d.x:=by rw[E];exact Tn _ om
 have e0:=(i.cell I).trans<|ae a s;have HA:=O E;have HN:Hid<|(a+1)%d.x=(a0+(t+1))%d.x:=O (by rw[E];exact fY om);have HK:Hid<|(a+d.x-a0)%d.x=t:=O (by rw[E];exact OQ f om);rw[<-E];clear E;by_cases ah:t<T
 .have Q:0<d.X a:=by rw[z HA];exact ad t ah
  have v:decide (0<d.X a)=true:=by simp[Q]
  by_cases hw:a+1=d.x
  .have ai:((a:Int)+1==d.x)=true:=ot;have l:Hid<|(a0+(t+1))%d.x=0:=O (by rw[<-z HN,hw];exact Nat.mod_self _);go_wp2;go_roundw
   .exact⟨t+1,ql l,om,by first|rfl|trivial⟩
   have h1:=OQ (a:=a0) (t:=t+1) f om;rw[z l]at h1;have h2:=z HK;have e0:((0:Int).toNat+d.x-a0)%d.x=t+1:=h1;simp only[intOf,NO];rw[h2,e0];omega
  have ai:((a:Int)+1==d.x)=false:=ot;have l:Hid<|(a0+(t+1))%d.x=a+1:=O (by rw[<-z HN];exact TC om);have ao:a+1<d.x:=om;go_wp2;go_roundw
  .exact⟨t+1,by rw[z l];go_num,om,by first|rfl|trivial⟩
  have h1:=OQ (a:=a0) (t:=t+1) f om;rw[z l]at h1;have e1:((a:Int)+1).toNat=a+1:=om;simp only[intOf,NO];rw[z HK,e1,h1];omega
 have R:t=T:=om;subst R;have az:d.X a<=0:=by rw[z HA];exact Z
 have v:decide (0<d.X a)=false:=ot;have j:=D.below i;have f0:=o8 i I<|af a;have f3:=j.fz<|o+3;have c3:=j.c3;rw[<-z HA]at U;have S:CN c o v0 v1 (S9 g d.x cp) w v0 v1 (S9 g d.x cp) wr:=CN.Am i M;by_cases W:d.X a=0
 focus
  have l:Hid<|AY hf d k p={d with X:=AW d.X a ((p:Int)+1),used:=d.used+1}:=O (by rw[z U,DD W]);rw[W]at e0;have aj:AO (wr.setCell (G c<|o+3)<|J<|d.used+1) c o B v0 v1 (S9 g d.x cp) {d with used:=d.used+1}:=j.Kg _;have A:=AO.PR (d:={d with used:=d.used+1}) aj s<|(p:Int)+1;have ak:=(S.trans<|Cn (o:=o) (v0:=v0) (v1:=v1) (v2:=S9 g d.x cp) (q:=o+3) (J<|d.used+1) om λb e=>.inl e).trans<|DJ (q:=a) (J<|(p:Int)+1) (.inr<|.inr rfl) r;have C:=O<|qp A ak
 rotate_left
 focus
  have l:Hid<|AY hf d k p={d with X:=AW d.X a ((p:Int)+1)}:=O (by rw[z U,C3 W]);have aM:(d.X a==0)=false:=by simp[W]
  have A:=j.PR s<|(p:Int)+1;have C:=O<|qp A<|S.trans<|DJ (q:=a) (J<|(p:Int)+1) (.inr<|.inr rfl) r
 all_goals
  go_wp2;go_end0;exact⟨⟨⟨_,rfl⟩,by rw[z l];exact C.1⟩,C.2⟩
def Gi(n:Nat)(hn:n<=4194304)w:
  (Instr.makeSlice 67 (J n)<|J n).run prog w=.ok (S9 w.heap.size n n) (w.alloc<|.cells (madeCells #[Value.int .i64 0] n) 3):=by
 have:=MI n hn w;simpa[Value.cells]using this
def ownB(h:(Value.slice (some<|G g 0) n cp).ownBlock=some b):g=b:=oS h
theorem Dc.pI{b}(n:a.n=b.n)(L:a.L=b.L)(m:a.m=b.m)(I:a.I=b.I)(x:a.x=b.x)(X:a.X=b.X)(u:a.used=b.used)(l:a.live=b.live)(t:a.turns=b.turns):a=b:=by
 obtain⟨⟩:=a;obtain⟨⟩:=b;grind
def aH(h:BV d k<x):{d with x:=x,X:=(Bp hf d x k).X,used:=(Bp hf d x k).used}=Bp hf d x k:=by
 obtain⟨f1,f2,f3,f4,f5,f6,f7,f8,f9,f10⟩:=DF (hf:=hf) (x:=x) k h;exact Dc.pI f5.symm f6.symm f7.symm f8.symm f4.symm rfl rfl f9.symm f10.symm
def Kv hf{c o B}{v0 v1 v2}{d}more{w}(hM:AO w c o B v0 v1 v2 d)(hS:Small d)(hm:BV d d.n+more<=500)(hh:∀i,i<d.n->AZ d i->YZ (d.L i).key (hf (d.L i).key)):
  C9 149 #[Pc c o,J more] w λe w'=>((∃u,e=.returned u)/\∃u2,AO w' c o B v0 v1 u2 (A3 hf d more)/\CN c o v0 v1 v2 w v0 v1 u2 w'):=by
 rcases hS.n,hM.c0,hM.lt,hM.log.at with⟨hn,c0,a7,⟨la,lc,e0,_⟩⟩;subst e0;have HH:=O hh;clear hh;go_enter func149,ntmps149;go_wp2_with fail;go_loopw [14,4] (λi q wr=>∃k:Nat,i=J (k:Int)/\k<=d.n/\q=J ((BV d k+more:Nat):Int)/\B9 w wr) λi _ _=>d.n-(intOf i).toNat
 .exact⟨0,rfl,om,by simp[BV],BE _ _⟩
 obtain⟨k,rfl,hk,rfl,hb⟩:=hrel;by_cases l:k<d.n
 .have g:=hM.below hb;obtain⟨a8,bb,ia,ic,xa,xc,R,rfl,rfl,hP⟩:=g.ptr;cases R;have bx:=GO (F2 d om) (show BV d d.n<=500 by omega);have HP:=O hP;clear g hP;go_wp2_with fail;refine m9 (Fv k HP hS l) λw1 p=>?_;have ai:=o9 hb p;clear p;by_cases t:AZ d k
  .rw[Al t];have H:=O<|EW t;clear t;go_wp2;go_roundw
   .exact⟨k+1,ov,om,by rw[z H];go_num,ai⟩
   exact ow
  rw[Ag t];have H:=O<|GI t;clear t;go_wp2;go_roundw
  .exact⟨k+1,ov,om,by rw[z H,Int.natCast_add],ai⟩
  exact ow
 have v:k=d.n:=om;subst v;have g:=hM.below hb;have aj:CN c o (.slice la d.n lc) v1 v2 w (.slice la d.n lc) v1 v2 wr:=CN.Am hb a7;rcases g.lt,g.c2,g.c3,g.fz<|o+2,g.fz (o+3) with⟨j,c2,c3,f2,f3⟩;have h:=(g.setIndex (x:=0) (X:=λ_=>0) (IF _ _ _ _) (λe=>by cases e) λq _ e=>by cases e).Kg 0;have S:=(aj.trans<|Cn (u2:=N9) (q:=o+2) N9 om λb e=>.inl<|e.elim .inl λe=>e.elim (λe=>.inr<|.inl e) λe=>by cases e).trans<|Cn (q:=o+3) (J 0) om λb e=>.inl e;clear g aj hk l;by_cases hz:BV d d.n+more=0
 .have HR:=O<|Ev (hf:=hf) hz;have T:(((BV d d.n+more:Nat):Int)==0)=true:=qm hz
  generalize BV d d.n+more=W at hz T hm;clear hz;go_wp2;refine Fs (AaE rfl _ _ _) rfl ?_;refine⟨⟨_,rfl⟩,_,?_,S⟩;rw[z HR];exact h.of_same rfl (λ_ _=>rfl) rfl (λ_ _=>rfl) rfl (λi hi=>by cases hi) rfl rfl rfl
 have HR:=O<|CJ (hf:=hf) hz;have A:=O<|DI hm;have I:BV d d.n<=BV d d.n+more:=om;have T:(((BV d d.n+more:Nat):Int)==0)=false:=ot;have U:Hid<|BV d d.n<Cz (BV d d.n+more):=O<|oT A.1;generalize bc:BV d d.n+more=W at hz T hm HR A U I;clear bc I;obtain⟨W1,V⟩:=qa<|(wr.setCell (G c<|o+2) N9).setCell (G c<|o+3)<|J 0;go_wp2_with fail;rw[<-V];rw[<-V]at h S;clear V c2 c3 f2 f3 j;go_loopw [6] (λa wr=>∃f s:Nat,a=J (s:Int)/\Dk f s (4*W)=Cz W/\8<=s/\s<=4000/\wr=W1) λa _=>4*W-(intOf a).toNat
 .exact⟨9,8,rfl,rfl,om,om,rfl⟩
 obtain⟨f,s,rfl,r,bd,bf,rfl⟩:=hrel;by_cases ak:s<4*W
 .obtain⟨f',rfl⟩:∃f',f=f'+1:=by
   cases f with
   |zero=>
    exfalso;have h1:=A.1;have h2:Dk 0 s (4*W)=s:=rfl;omega
   |succ f=>exact⟨f,rfl⟩
  have HG:Hid<|Dk f' (2*s) (4*W)=Cz W:=O (by
   have h1:Dk (f'+1) s (4*W)=if s<4*W then Dk f' (2*s) (4*W)else s:=rfl
   rw[h1,DD ak]at r;exact r)
  clear r;go_wp2;go_roundw
  .exact⟨f',2*s,ov,HG,om,om,by first|rfl|trivial⟩
  exact ow
 have HG:Hid<|s=Cz W:=O (by
  cases f with
  |zero=>exact r
  |succ f=>
   have h1:Dk (f+1) s (4*W)=if s<4*W then Dk f (2*s) (4*W)else s:=rfl
   rw[h1,C3 ak]at r;exact r)
 clear r;rcases Gi s om,h.c2,h.fz<|o+2,h.c0,h.lt,qa ((wr.setCell (G c<|o+2)<|.slice (some<|G wr.heap.size 0) s s).alloc<|.cells (madeCells #[Value.int .i64 0] s) 3) with⟨mk,c2,f2,c0,j,⟨WA,ad⟩⟩;have C:=(h.below<|(BE _ _).alloc (Be _)<|.cells (madeCells #[Value.int .i64 0] s) 3).setIndex (Bt.made wr B s h.base om) (λe=>Nat.ne_of_gt j<|ownB e) (λq e e'=>by
   have e1:=h.NM (.inr (.inl e));have e2:=ownB e';omega)
 have ae:=S.trans<|Tv (u1:=v1) (u2:=.slice (some<|G wr.heap.size 0) s s) (q:=o+2) (.cells (madeCells #[Value.int .i64 0] s) 3) (.slice (some<|G wr.heap.size 0) s s) j om λb e=>e.elim (λe=>.inl<|.inl e) λe=>e.elim (λe=>.inl<|.inr<|.inl e) λe=>.inr<|Nat.le_of_eq<|ownB e;rw[World.setCell_alloc_past _ _ _ _ j,<-ad]at C ae;have af:AO WA c o B (.slice la d.n lc) v1 (.slice (some<|G wr.heap.size 0) s s)<|Bp hf d s 0:=C.of_same rfl (λ_ _=>rfl) rfl (λ_ _=>rfl) rfl (λ_ _=>rfl) rfl rfl rfl;have ao:=O C.c0;have bg:=O C.lt;clear C;obtain⟨Z,ag⟩:=qa wr.heap.size;rw[<-ag]at af ae;go_wp2_with fail;rw[<-ad,<-ag];clear ag;have c0:=z ao;clear ad mk c2 f2;go_wp2_with fail;have aq:=A.2.2.2;rw[<-z HG]at aq;have ar:BV d d.n<s:=by have:=z U;rw[<-z HG]at this;exact this
 have K:=O ar;have bh:Hid<|A3 hf d more=Bp hf d s d.n:=O (by rw[z HR,z HG]);clear ar HG U HR A;go_loopw [47] (λi wz=>∃(k:Nat) (X':Nat->Int) (u':Int),i=J (k:Int)/\k<=d.n/\{d with x:=s,X:=X',used:=u'}=Bp hf d s k/\AO wz c o B (.slice la d.n lc) v1 (.slice (some<|G Z 0) s s) {d with x:=s,X:=X',used:=u'}/\CN c o (.slice la d.n lc) v1 (.slice (some<|G Z 0) s s) WA (.slice la d.n lc) v1 (.slice (some<|G Z 0) s s) wz) λi _=>d.n-(intOf i).toNat
 .exact⟨0,_,_,rfl,om,rfl,af,CN.refl _ _ _ _ _ _⟩
 clear af c0 ao bg;obtain⟨k,X',u',rfl,hk,heq,hd,F⟩:=hrel;by_cases l:k<d.n
 .have bj:BV d k<s:=by have h1:=F2 d (k:=k) (n:=d.n) om;have h2:=z K;omega
  obtain⟨f1,f2,f3,f4,f5,f6,f7,f8,f9,f10⟩:=DF (hf:=hf) (x:=s) k bj;rw[<-heq]at f2 f3;have f2:(Cj X' s:Int)=u':=f2;have f3:Cj X' s<=BV d k:=f3;have au:0<=u'/\u'<=4000:=om;have av:Cj X' s<s:=om;have aw:=O<|qp au av;have ax:=O heq;have bk:Small {d with x:=s,X:=X',used:=u'}:=⟨hS.n,hS.m,by show s<=_;omega⟩;rcases O F,O hd,hd.ptr with⟨bm,bn,⟨a8,bb,ia,ic,xa,xc,R,bp,bq,hP⟩⟩;cases R;cases bq;subst bp;rcases hd.lt,qa la,hP.rows.log,O hP with⟨br,⟨lb,bt⟩,ay,HP⟩;clear hd hP F heq au av f1 f2 f3 f4 f5 f6 f7 f8 f9 f10 bt lb;go_wp2_with fail;refine m9 (Fv k HP bk l) λw1 p=>?_;rcases bn.below p,bm.trans<|CN.Am p br,ay.below p rfl with⟨D,M,E⟩;have az:=D.c0;clear p ay;by_cases t:AZ d k
  .rw[show tells (AZ {d with x:=s,X:=X',used:=u'} k)=true from Al t];have bu:=z HH k l t;have H:Hid<|{d with x:=s,X:=(Bp hf d s (k+1)).X,used:=(Bp hf d s (k+1)).used}=Bp hf d s (k+1):=O<|aH (by have h1:=F2 d (k:=k+1) (n:=d.n) om;have h2:=z K;omega);have bw:Hid<|Bp hf d s (k+1)=AY hf {d with x:=s,X:=X',used:=u'} (d.L k).key k:=O (by rw[D9 t,z ax]);obtain⟨pb,off,rfl,bz,aM⟩:=E.resolve_left (by show d.n≠0;omega);obtain⟨p0,p1,p2,p3,p4,_,_,_,_,_,_⟩:=aM k l;clear t aM E;go_wp2_with fail;refine(Jp hf c o B _ _ (.slice (some<|G Z 0) s s) {d with x:=s,X:=X',used:=u'} (d.L k).key k _ D ⟨bd,bf,aq⟩ aw.2 aw.1 om bu).mono ?_;rintro e w2 ⟨⟨⟨u,rfl⟩,a6⟩,P⟩;rw[<-z bw,<-z H]at a6;have ah:=M.trans P;clear P p0 p1 p2 p3 p4 az;go_wp2;go_roundw
   .exact⟨k+1,_,_,ov,om,H,a6,ah⟩
   exact ow
  rw[show tells (AZ {d with x:=s,X:=X',used:=u'} k)=false from Ag t];have H:Hid<|{d with x:=s,X:=X',used:=u'}=Bp hf d s (k+1):=O (by rw[Eg t,z ax]);clear t E az;go_wp2;go_roundw
  .exact⟨k+1,X',u',ov,om,H,D,M⟩
  exact ow
 have v:k=d.n:=om;subst v;have Q:=O<|qp (heq▸hd)<|ae.trans F;clear hd F heq hk l;go_wp2;go_end0;exact⟨⟨_,rfl⟩,_,by rw[z bh];exact Q.1,Q.2⟩
def OH(w:Y)(b:Nat)(d:Dc)(k:Nat):Prop:=∃g,w.rowIs b 3 d.n g/\∀j,j<k->(d.L j).turn≠0->g j=J ((CF d j:Int)+1)
def OH.keep(h:OH w b d k)(e:w'.heap[b]?=w.heap[b]?):OH w' b d k:=by
 obtain⟨g,h1,h2⟩:=h;exact⟨g,h1.of_block e,h2⟩
def OH.lt(h:OH w b d k):b<w.heap.size:=by
 obtain⟨g,h1,h2⟩:=h;exact h1.lt
def OH.cell(h:OH w b d k){j}(hj:j<k)(hn:j<d.n)(a:(d.L j).turn≠0):w.cell? (G b j)=some (J<|(CF d j:Int)+1):=by
 obtain⟨g,h1,h2⟩:=h;rw[h1.cell hn,h2 j hj a]
def OH.any(h:OH w b d k){j}(hn:j<d.n):∃u,w.cell? (G b j)=some u:=by
 obtain⟨g,h1,h2⟩:=h;exact⟨_,h1.cell hn⟩
def OH.frozen(h:OH w b d k)j:w.frozen? (G b j)=false:=by
 obtain⟨g,h1,h2⟩:=h;exact h1.frozen j
def OH.put(h:OH w b d k):OH (w.setCell (G b k)<|J<|(CF d k)+1) b d<|k+1:=by
 obtain⟨g,h1,h2⟩:=h;refine⟨_,h1.set k _,λj hj a=>?_⟩;grind [OH,CF]
def OH.skip(h:OH w b d k)(a:(d.L k).turn=0):OH w b d<|k+1:=by
 grind [OH]
def Gn(d:Dc)(k:Nat):Nat->Int:=λj=>if j<k then(Co d).I j else d.I j
def Xj d j:Gn d 0 j=d.I j:=C3 om
def gI d k:Gn d k k=d.I k:=C3 om
def aC{j}(h:j<k):Gn d k j=(Co d).I j:=DD h
def Xh(h:¬0<d.I k)j:Gn d (k+1) j=Gn d k j:=by
 unfold Gn;by_cases e:j=k
 .subst e;rw[DD om,C3 om];show(if 0<d.I j then _ else d.I j)=_;rw[C3 h]
 omega
def Xi(h:d.I k=(q)+1)j:Gn d (k+1) j=AW (Gn d k) k ((CF d q:Int)+1) j:=by
 unfold Gn;by_cases e:j=k
 .subst e;rw[DD om,Ax];show(if 0<d.I j then(CF d (d.I j-1).toNat:Int)+1 else d.I j)=_;grind [Gn,AW,CF]
 grind [Gn,AW,CF,Ao]
def Ln(h:(d.n:Int)<8\/(d.n:Int)<=2*d.live):Ap hf d=d:=DD h
def SC(h:¬((d.n:Int)<8\/(d.n:Int)<=2*d.live)):Ap hf d=A3 hf (Co d) 0:=C3 h
def Fu hf{K}{c o B}{v0 v1 v2}{d}{w}(hM:AO w c o B v0 v1 v2 d)(hS:Small d)(hC:Core K d)(hh:∀v,K v->YZ v (hf v)):
  C9 148 #[Pc c o] w λe w'=>((∃u,e=.returned u)/\∃u0 u2,AO w' c o B u0 v1 u2 (Ap hf d)/\CN c o v0 v1 v2 w u0 v1 u2 w'):=by
 rcases Ok EX,hS.n,hS.m,hC.KY,hC.le,hM.c0,hM.c4,hM.lt,hM.log.at with⟨⟨i0,hi,bg,bh,bj⟩,hn,hm,cc,cd,c0,c4,E,⟨la,lc,e0,ar⟩⟩;subst e0;have HH:=O hh;have cg:IntKind.i64.wrap (2*d.live)=2*d.live:=oj;clear hh;by_cases h1:(d.n:Int)<8
 .have HR:=O<|Ln (hf:=hf)<|.inl h1;have R:decide ((d.n:Int)<8)=true:=ot;clear h1;go_enter func148,ntmps148;go_wp2_with fail;go_quiet (fail);go_wp2;refine Fs (AaE rfl _ _ _) rfl ?_;exact⟨⟨_,rfl⟩,_,_,by rw[z HR];exact hM.below<|AQ (BE _ _) _,CN.Am (AQ (BE _ _) _) E⟩
 have R:decide ((d.n:Int)<8)=false:=ot;by_cases h2:(d.n:Int)<=2*d.live
 .have HR:=O<|Ln (hf:=hf)<|.inr h2;have bk:decide ((d.n:Int)<=2*d.live)=true:=ot;clear h1 h2;go_enter func148,ntmps148;go_wp2_with fail;go_quiet (fail);go_wp2;refine Fs (AaE rfl _ _ _) rfl ?_;exact⟨⟨_,rfl⟩,_,_,by rw[z HR];exact hM.below<|AQ (BE _ _) _,CN.Am (AQ (BE _ _) _) E⟩
 have bk:decide ((d.n:Int)<=2*d.live)=false:=ot;have HR:=O<|SC (hf:=hf) (d:=d) om;have mk:=Gi d.n hn;clear h1 h2;go_enter func148,ntmps148;go_wp2_with fail;go_quiet (fail);obtain⟨l,S⟩:=qa<|w.drewN nq;rw[<-S];have ad:B9 w l:=by rw[S];exact AQ (BE _ _) _
 have au:l.heap.size=w.heap.size:=qm S
 have ae:=O au;clear au;clear S;have H:=hM.below ad;rcases H.c0,H.lt,ar.below ad rfl,H.base with⟨c0,E,ai,ch⟩;clear c4 ar;go_wp2_with fail;obtain⟨W,hW⟩:=qa<|l.alloc<|.cells (madeCells #[Value.int .i64 0] d.n) 3;rw[<-hW];have av:B9 l W:=by rw[hW];exact(BE _ _).alloc (Be _) _
 have b9:l.heap.size<W.heap.size:=by rw[hW];simp
 have p:Hid<|OH W l.heap.size d 0:=O ⟨_,by rw[hW];have h:=K1 l d.n;simpa[Value.cells]using h,λj hj=>om⟩;clear hW mk;go_loopw [38,2] (λi q wr=>∃(k:Nat) (v:V9),i=J (k:Int)/\k<=d.n/\v=q/\BU wr W.heap.size v (A8 d k).length (EL d)/\OH wr l.heap.size d k/\B9 l wr/\W.heap.size<=wr.heap.size) λi _ _=>d.n-(intOf i).toNat
 .exact⟨0,_,rfl,om,rfl,IF _ _ _ _,p,av,Be _⟩
 clear p av;obtain⟨k,v,rfl,hk,rfl,f,r,F,cj⟩:=hrel;by_cases M:k<d.n
 .obtain⟨pb,off,rfl,bm,aw⟩:=ai.resolve_left om;rcases (aw k M).keep (λq=>F.cell bm),F.size,FW d k,O r with⟨⟨e0,e1,e2,e3,e4,e5,e6,e7,e8,e9,bn⟩,bp,ck,p⟩;clear aw r;by_cases hp:0<(d.L k).turn
  .have af:(d.L k).turn≠0:=om;have HF:=O<|FN M af;have HN:=O<|Bs af;have ax:decide (0<(d.L k).turn)=true:=by simp[hp]
   have U:=O f.lt;have ay:=p.lt;clear af hp;go_wp2_with (first|(at_builtin;refine ON _ rfl _ _ 66 rfl W.heap.size 168 i0 PZ 11 104 underlying66 hi bg bh bj rfl oo v (A8 d k).length (pL (EL d) (A8 d k).length) rfl ((f.alloc _).alloc _) (G (wr.heap.size+1) 0) 1 1 (DA<|d.L k) rfl rfl (PK wr _ (DA<|d.L k) _) (EZ _) oo od om ot _ rfl ?_;intro g3 cl w3 s C bf ca;have V:w3.heap[l.heap.size]?=wr.heap[l.heap.size]?:=((C.block l.heap.size ot λe=>oT (U _ e.symm).1).trans<|E1 _ _ _ ot).trans<|E1 _ _ _ ay;have t:=O<|p.keep V;have bq:W.heap.size<=w3.heap.size:=(by have:=C.size;simp at this;omega);obtain⟨wu,r0⟩:=t.any M;have r1:=t.frozen k;have cb:=t.lt;have br:=O<|((F.alloc om _).alloc ot _).trans<|Dd C (λq e=>GO om (U q e).1) ot;have cm:=(s.lt g3 rfl).1;have bt:=O s;clear s C V)|go_in);go_roundw
   .refine⟨k+1,_,ov,om,rfl,?_,?_,br.setCell (by exact Be _) _,by simpa using bq⟩
    .have h:=Bi (a:=G l.heap.size k) bt (J<|(CF d k:Int)+1) (λe=>by have e':g3=l.heap.size:=ownB e;omega);rw[z HN,OR,Aao];show World.ownsRow _ W.heap.size _ 11 _ _ (pL (EL d) (A8 d k).length++DA (EL d (A8 d k).length));rw[z HF];exact h
    exact t.put
   exact ow
  have D:(d.L k).turn=0:=by
   rcases hC.log.CH k M with h|h
   .exact h.1
   exact absurd h.1 hp
  have HN:=O<|Cm D;have t:=O<|p.skip D;clear hp;rw[D]at bn;clear D;go_wp2;go_roundw
  .refine⟨k+1,_,ov,om,rfl,?_,t.keep<|E1 _ _ _ t.lt,F.alloc bp _,ot⟩;rw[z HN];exact f.alloc _
  exact ow
 have aj:k=d.n:=om;subst aj;have A:=H.below F;have R:=A.iP (Eu f om) λe=>oT<|f.lt c e;have az:CN c o (.slice la d.n lc) v1 v2 w v v1 v2<|wr.setCell (G c o) v:=by
  refine MY (row:=none) v (Jj<|ad.trans<|F.mono<|Nat.le_of_eq ae.symm) (λb e=>by cases e) (by rw[<-z ae];exact E) (λe=>by cases e) om λb e=>?_;rcases e with e|e
  .right;have h1:=(f.lt b e).1;have h2:=z ae;omega
  exact .inl<|.inr e
 have P:OH (wr.setCell (G c o) v) l.heap.size d d.n:=r.keep<|At _ _ _ _ (by show l.heap.size≠c;omega);rcases A.c0,A.fz o,A.c1 with⟨bu,bw,bx⟩;have aM:∀b,GZ v v1 v2 b->b≠l.heap.size:=λb e=>by
  rcases e with e|e
  .have:=(f.lt b e).1;omega
  have:=(H.NM<|.inr e).2;omega
 obtain⟨ia,ic,e1,_⟩:=A.ints.at;have bz:Hid (0<d.m->∃g cp,v1=S9 g d.m cp):=O (λh=>by obtain⟨g,cp,h,_⟩:=A.ints.form h;exact⟨g,cp,h⟩);subst e1;rcases O aM,O R,qa (wr.setCell (G c o) v) with⟨b0,Q,⟨W1,ag⟩⟩;have a6:=Q.c1;have X:=Q.lt;rw[<-ag]at Q az P a6 X;obtain⟨va,vc,ev,_⟩:=f.at;subst ev;clear A R r aM hk M;go_wp2_with fail;rw[<-ag];clear ag bu bw bx;go_loopw [65] (λi wz=>∃(k:Nat),i=J (k:Int)/\k<=d.m/\AO wz c o B (.slice va (A8 d d.n).length vc) (.slice ia d.m ic) v2 {d with n:=K0 d,L:=EL d,I:=Gn d k}/\OH wz l.heap.size d d.n/\CN c o (.slice va (A8 d d.n).length vc) (.slice ia d.m ic) v2 W1 (.slice va (A8 d d.n).length vc) (.slice ia d.m ic) v2 wz) λi _=>d.m-(intOf i).toNat
 .exact⟨0,rfl,om,Q.of_same rfl (λ_ _=>rfl) rfl (λj _=>Xj d j) rfl (λ_ _=>rfl) rfl rfl rfl,P,CN.refl _ _ _ _ _ _⟩
 clear Q a6 X P;obtain⟨k,rfl,hk,hd,r,ah⟩:=hrel;by_cases T:k<d.m
 .obtain⟨g,cp,eg⟩:=z bz om;cases eg;obtain⟨g',cp',b1,cn,cq,a7,hcs,a8⟩:=hd.ints.form (by show 0<d.m;omega);cases b1;have e0:=hcs k T;rw[show({d with n:=K0 d,L:=EL d,I:=Gn d k}:Dc).I k=d.I k from gI d k]at e0;have f0:=a8 k;have b2:=z b0 g<|.inr<|.inl rfl;have b3:l.heap.size≠g:=λe=>b2 e.symm;have b4:g≠c:=λe=>hd.nc<|.inr<|.inl (by rw[<-e];rfl);rcases hd.c1,hd.lt,O r,r.lt with⟨c1,E,p,ay⟩;clear hcs a8 r;rcases hC.ints k T with hz|⟨g1,g2,g3,g4,g5⟩
  .rw[hz]at e0;go_wp2;go_roundw
   .exact⟨k+1,ov,om,hd.of_same rfl (λ_ _=>rfl) rfl (λj _=>Xh om j) rfl (λ_ _=>rfl) rfl rfl rfl,p,ah⟩
   exact ow
  obtain⟨q,hq⟩:∃q:Nat,d.I k=(q:Int)+1:=⟨(d.I k-1).toNat,om⟩;have bb:q<d.n:=om;have bc:(d.L q).turn≠0:=by have h:=g3;unfold Dc.at at h;rw[hq,show((q:Int)+1-1).toNat=q by omega]at h;exact h
  have r0:=p.cell bb bb bc;have HN:Hid<|AO (wr.setCell (G g k)<|J<|(CF d q:Int)+1) c o B (.slice va (A8 d d.n).length vc) (S9 g d.m ic) v2 {d with n:=K0 d,L:=EL d,I:=Gn d (k+1)}:=O (by
   have h:=AO.Xp (d:={d with n:=K0 d,L:=EL d,I:=Gn d k}) hd T ((CF d q:Int)+1);exact h.of_same rfl (λ_ _=>rfl) rfl (λj _=>Xi hq j) rfl (λ_ _=>rfl) rfl rfl rfl)
  have Z:=ah.trans<|DJ (o:=o) (v0:=.slice va (A8 d d.n).length vc) (v1:=S9 g d.m ic) (v2:=v2) (w:=wr) (g:=g) (q:=k) (J<|(CF d q:Int)+1) (.inr<|.inl rfl) b4;have ak:=O Z;have b5:=O<|p.keep (w':=wr.setCell (G g k)<|J<|(CF d q:Int)+1)<|At _ _ _ _ (by exact b3);have cr:IntKind.i64.wrap (q:Int)=q:=oj;rw[hq]at e0;clear hq g1 g2 g3 g4 g5 Z bc;go_wp2_with fail
  go_region
  go_wp2;go_roundw
  .exact⟨k+1,ov,om,HN.below (BE _ _).drew,b5.keep rfl,ak.trans<|CN.Am (BE _ _).drew<|by simpa using E⟩
  exact ow
 have ao:k=d.m:=om;subst ao;have ax:AO wr c o B (.slice va (A8 d d.n).length vc) (.slice ia d.m ic) v2<|Co d:=hd.of_same rfl (λ_ _=>rfl) rfl (λj hj=>(aC hj).symm) rfl (λ_ _=>rfl) rfl rfl rfl;have b6:Small<|Co d:=⟨GO (sI d) hn,hm,hS.x⟩;have a7:=Gm hC;have aq:=az.trans ah;clear r hk T;go_wp2_with fail;refine(Kv hf 0 ax b6 (Ka hC) λi hi hx=>HH _<|a7.keys i hi<|oT hx.1).mono ?_;rintro e w9 ⟨⟨u,rfl⟩,u2,b7,bd⟩;have b8:=aq.trans bd;clear bd;go_wp2;go_end0;exact⟨⟨_,rfl⟩,_,_,by rw[z HR];exact b7,b8⟩
def YU{α}f i(a b:α):AW (AW f i a) i b=AW f i b:=by
 grind [AW,Ax,Ao]
theorem sS f n i j u p(hi:i<n)(hj:j<11)(hp:DA p=(DA<|f i).set j u):(pL f n).set (i*11+j) u=pL (AW f i p) n:=by
 apply AaF;intro q;rw[List.getElem?_set];by_cases hq:q<n*11
 .obtain⟨a,b,rfl,hb⟩:∃a b,q=a*11+b/\b<11:=⟨q/11,q%11,om,om⟩;have ha:a<n:=om;have:=MO (f:=f) ha hb;have:=MO (f:=AW f i p) ha hb;grind [DA,AW,C5]
 grind [DA,pL,AW,C5]
def BU.iO(h:BU w B (S9 g n cp) n f){i}(hi:i<n)j(hj:j<11)u p(hp:DA p=(DA<|f i).set j u):BU (w.setCell (G g<|i*11+j) u) B (S9 g n cp) n<|AW f i p:=by
 have h1:=(We h (i*11+j) u).1;grind [DA,AW,sS]
def AO.sU(h:AO w c o B (S9 g d.n cp) v1 v2 d){i}(hi:i<d.n)j(hj:j<11)u p(hp:DA p=(DA<|d.L i).set j u):AO (w.setCell (G g<|i*11+j) u) c o B (S9 g d.n cp) v1 v2 {d with L:=AW d.L i p}:=
 h.sX (.inl rfl) rfl rfl rfl (h.log.iO hi j hj u p hp) (Bi h.ints _ λe=>Ef h.log h.ints rfl e) (Bi h.index _ λe=>Ef h.log h.index rfl e)
def dQ{b}{k}{p}(c:a.x=b.x)(d:a.X=b.X)(hu:a.used=b.used):(AY hf a k p).X=(AY hf b k p).X/\(AY hf a k p).used=(AY hf b k p).used:=by
 grind [AY,Db]
theorem iF{b}:∀k,BV a k<x->BV b k<x->(∀i,i<k->(AZ a i↔AZ b i))->(∀i,i<k->(a.L i).key=(b.L i).key)->(Bp hf a x k).X=(Bp hf b x k).X/\(Bp hf a x k).used=(Bp hf b x k).used:=by
 intro k
 induction k with
 |zero=>intro _ _ _ _;exact⟨rfl,rfl⟩
 |succ k ih=>
  intro f hb hi hk;have c:=Aar (F2 a (k:=k) om) f;have d:=Aar (F2 b (k:=k) om) hb;obtain⟨e,i2⟩:=ih c d (λi h=>hi i om) λi h=>hk i om;by_cases h:AZ a k
  .rw[D9 h,D9 ((hi k om).1 h),hk k om];exact dQ ((DF k c).2.2.2.1.trans (DF k d).2.2.2.1.symm) e i2
  rw[Eg h,Eg (λh'=>h ((hi k om).2 h'))];exact⟨e,i2⟩
theorem Pf{b}:∀k,(∀i,i<k->(AZ a i↔AZ b i))->BV a k=BV b k:=by
 intro k
 induction k with
 |zero=>intro _;rfl
 |succ k ih=>
  intro h;have e:=ih λi hi=>h i om;by_cases hh:AZ a k
  .rw[EW hh,EW ((h k om).1 hh),e]
  rw[GI hh,GI (λh'=>hh ((h k om).2 h')),e]
def EC(c:Dc)(k v:Vl):Dc:={B3 c k v with L:=AW c.L c.n ⟨k,v,0⟩}
theorem OP{c}{k}(h:i<c.n):(EC c k v).L i=c.L i:=Ao _ _ om
theorem Im{c}{k}(h:i<c.n):AZ (EC c k v) i↔AZ c i:=by
 unfold AZ;rw[OP h];exact Iff.rfl
theorem Mu{c}{k}:¬AZ (EC c k v) c.n:=by
 unfold AZ;rw[show(EC c k v).L c.n=⟨k,v,0⟩from Ax _ _ _];grind [AZ,EC]
theorem Mt{c}{k}:BV (EC c k v) (EC c k v).n=BV c c.n:=by
 show BV (EC c k v) (c.n+1)=_;rw[GI Mu];exact Pf _ λi hi=>Im hi
def Su{c}{k}(a:BV c c.n+1<=500):{A3 hf (EC c k v) 1 with L:=AW c.L c.n ⟨k,v,c.turns+1⟩}=B3 (A3 hf c 1) k v:=by
 grind [BV,A3,EC,AW,B3,Mt,CJ,DI,DF,Cz,Bp,Eg,Mu,iF,Im,OP,Pf,Dc.pI]
def CN.far(h:CN c o v0 v1 v2 w u0 u1 u2 w'){b}(hb:b<w.heap.size)(hc:b≠c)(a:¬GZ v0 v1 v2 b):w'.heap[b]?=w.heap[b]?/\b<w'.heap.size/\¬GZ u0 u1 u2 b:=
 ⟨h.block b hb hc a,A0 hb h.size,λe=>(h.sub b e).elim a λe'=>om⟩
structure wT (w:Y) (b:Nat) (v:Vl):Prop where
 lt:b<w.heap.size
 k0:w.cell? (G b 0)=some (J v.kind)
 k1:w.cell? (G b 1)=some (J v.num)
 k2:w.cell? (G b 2)=some (F9 v.Ah)
 k3:w.cell? (G b 3)=some (.string v.str)
 k4:w.cell? (G b 4)=some (J v.ref)
def wT.keep(h:wT w b v)(hs:w.heap.size<=w'.heap.size)(e:w'.heap[b]?=w.heap[b]?):wT w' b v:=by
 have e':∀q,w'.cell? (G b q)=w.cell? (G b q):=λq=>As e;exact⟨A0 h.lt hs,(e' _).trans h.k0,(e' _).trans h.k1,(e' _).trans h.k2,(e' _).trans h.k3,(e' _).trans h.k4⟩
def fR(w:Y)(c o:Nat):Nat:=match w.cell? (G c<|o+1)with
 |some (.slice _ n _)=>n
 |_=>0
def UU{a}(h:w.cell? (G c<|o+1)=some (.slice a n cp)):fR w c o=n:=by unfold fR;rw[h]
def PU{more}(b:BV d d.n+more<=500):DS (A3 hf d more) d:=by
 by_cases e:BV d d.n+more=0
 .rw[Ev e];exact⟨rfl,rfl,rfl,rfl,rfl,rfl⟩
 rw[CJ e];obtain⟨s1,s2,i,j⟩:=DI b;obtain⟨h1,h2,h3,h4,h5,c,f,g,h,a⟩:=DF (hf:=hf) (d:=d) (x:=Cz<|BV d d.n+more) d.n om;exact⟨h5,c,f,g,h,a⟩
structure TR (w:Y) (c:Nat) (v0 v1 v2:V9) (b:Nat) (v:Vl):Prop where
 box:wT w b v
 nc:b≠c
 no:¬GZ v0 v1 v2 b
def TR.step(h:TR w c v0 v1 v2 b v)(k:CN c o v0 v1 v2 w u0 u1 u2 w'):TR w' c u0 u1 u2 b v:=by
 obtain⟨h1,h2,h3⟩:=k.far h.box.lt h.nc h.no;exact⟨h.box.keep k.size h1,h.nc,h3⟩
def Pd{o}{row}(h:(W.drew.alloc o).grownBy w3 row):W.grownBy w3 row:=
 ⟨h.os,h.tape,h.output,by have:=h.size;simp at this;omega,λb hb a=>(h.block b ot a).trans<|E1 _ _ _ hb⟩
def Nk{o}{row}(h:(W.alloc o).grownBy w3 row):W.grownBy w3 row:=
 ⟨h.os,h.tape,h.output,by have:=h.size;simp at this;omega,λb hb a=>(h.block b ot a).trans<|E1 _ _ _ hb⟩
def YG f n p:pL f n++DA p=pL (AW f n p) (n+1):=by
 show _=pL (AW f n p) n++DA (AW f n p n);rw[Ax];congr 1;have:∀m,m<=n->pL f m=pL (AW f n p) m:=by
  intro m
  induction m with
  |zero=>intro _;rfl
  |succ m ih=>intro a;show pL f m++DA (f m)=pL (AW f n p) m++DA (AW f n p m);rw[ih om,Ao _ _ om]
 exact this n<|Be _
def Yp f n x:iL f n++[J x]=iL (AW f n x) (n+1):=by
 show _=iL (AW f n x) n++[J (AW f n x n)];rw[Ax];congr 1;have:∀m,m<=n->iL f m=iL (AW f n x) m:=by
  intro m
  induction m with
  |zero=>intro _;rfl
  |succ m ih=>intro a;show iL f m++[_]=iL (AW f n x) m++[_];rw[ih om,Ao _ _ om]
 exact this n<|Be _
def J6{size}{v:V9}{row}(h:w.ownsRow B e size v n xs)(c:w.grownBy w3 row)(d:∀b,row=some b->v.ownBlock≠some b):w3.ownsRow B e size v n xs:=by
 cases a:v.ownBlock with
 |none=>exact h.kept c<|.inl a
 |some b=>exact h.kept c<|.inr<|by rw[a];intro e;exact d b e.symm a
section
variable {w w3:Y} {c o B:Nat} {v0 v1 v2 u:V9} {d:Dc}
def AO.pK(h:AO w c o B v0 v1 v2 d)(a:w.grownBy w3 v0.ownBlock){n}{L}(hu:BU w3 B u n L)(hs:∀b,u.ownBlock=some b->v0.ownBlock=some b\/w.heap.size<=b):
  AO (w3.setCell (G c o) u) c o B u v1 v2 {d with n:=n,L:=L}/\CN c o v0 v1 v2 w u v1 v2 (w3.setCell (G c o) u):=by
 have hc:v0.ownBlock≠some c:=λe=>h.nc<|.inl e;have e3:=a.block c h.lt λe=>hc e.symm;have f:∀q,w3.cell? (G c q)=w.cell? (G c q):=λq=>As e3;have g:u.ownBlock≠some c:=λe=>(hs c e).elim hc λe'=>oT h.lt;have hi:Bt w3 B v1 d.m d.I:=J6 h.ints a λb e=>Ef h.log h.ints e;have i:Bt w3 B v2 d.x d.X:=J6 h.index a λb e=>Ef h.log h.index e;refine⟨⟨by simpa using A0 h.lt a.size,CG<|(f _).trans h.c0,(Aa om).trans<|(f _).trans h.c1,(Aa om).trans<|(f _).trans h.c2,(Aa om).trans<|(f _).trans h.c3,(Aa om).trans<|(f _).trans h.c4,(Aa om).trans<|(f _).trans h.c5,λq=>by rw[PC];exact(GW e3).trans (h.fz q),Bi hu _ g,Bi hi _ λe=>h.nc<|.inr<|.inl e,Bi i _ λe=>h.nc<|.inr<|.inr e,h.ap,λe=>e.elim g λe=>h.nc<|.inr e,by simpa using GO h.base a.size⟩,?_⟩;exact MY u a (λb e=>.inl<|.inl e) h.lt hc om λb e=>e.elim (λe=>(hs b e).elim (λe=>.inl<|.inl e) .inr) λe=>.inl<|.inr e
def AO.pJ(h:AO w c o B v0 v1 v2 d)(a:w.grownBy w3 v1.ownBlock){m}{I}(hu:Bt w3 B u m I)(hs:∀b,u.ownBlock=some b->v1.ownBlock=some b\/w.heap.size<=b):
  AO (w3.setCell (G c<|o+1) u) c o B v0 u v2 {d with m:=m,I:=I}/\CN c o v0 v1 v2 w v0 u v2 (w3.setCell (G c<|o+1) u):=by
 have hc:v1.ownBlock≠some c:=λe=>h.nc<|.inr<|.inl e;have e3:=a.block c h.lt λe=>hc e.symm;have f:∀q,w3.cell? (G c q)=w.cell? (G c q):=λq=>As e3;have g:u.ownBlock≠some c:=λe=>(hs c e).elim hc λe'=>oT h.lt;have hl:BU w3 B v0 d.n d.L:=J6 h.log a λb e e'=>Ef h.log h.ints e' e;have i:Bt w3 B v2 d.x d.X:=J6 h.index a λb e=>h.ap b e;refine⟨⟨by simpa using A0 h.lt a.size,(Aa om).trans<|(f _).trans h.c0,CG<|(f _).trans h.c1,(Aa om).trans<|(f _).trans h.c2,(Aa om).trans<|(f _).trans h.c3,(Aa om).trans<|(f _).trans h.c4,(Aa om).trans<|(f _).trans h.c5,λq=>by rw[PC];exact(GW e3).trans (h.fz q),Bi hl _ λe=>h.nc<|.inl e,Bi hu _ g,Bi i _ λe=>h.nc<|.inr<|.inr e,?_,λe=>e.elim (λe=>h.nc<|.inl e) λe=>e.elim g λe=>h.nc<|.inr<|.inr e,by simpa using GO h.base a.size⟩,?_⟩
 .intro q e e';exact(hs q e).elim (λe1=>h.ap q e1 e') λe1=>oT (h.index.lt q e').2
 exact MY u a (λb e=>.inl<|.inr<|.inl e) h.lt hc om λb e=>e.elim (λe=>.inl<|.inl e) λe=>e.elim (λe=>(hs b e).elim (λe=>.inl<|.inr<|.inl e) .inr) λe=>.inl<|.inr<|.inr e
end
def Ps{K}(KL:KeyLaw K hf){c o B}{v0 v1 v2}{d}{k}(v){w}(hM:AO w c o B v0 v1 v2 d)(hS:Small d)(hI:BW K hf d)(hN:Next d)(hh:∀v,K v->YZ v (hf v))
  (hk:K k) (e8:Ch k=true) (hv:v.ok=true) (e9:v.kind≠0) (fa:∀i,i<d.n->(d.L i).turn≠0->AH (d.L i).key k=false) (hl:d.live<500) (ht:d.turns<1000000000000) (fb:d.m<=4000000):
  C9 133 #[Pc c o,V k.kind k.num k.Ah k.str k.ref,V v.kind v.num v.Ah v.str v.ref] w λe w'=>((∃u,e=.returned u)/\∃u0 u1 u2,AO w' c o B u0 u1 u2 (GF hf d k v)/\CN c o v0 v1 v2 w u0 u1 u2 w'):=by
 obtain⟨i0,hi,fc,fe,ff⟩:=Ok EX;obtain⟨j0,ji,dr,dt,du⟩:=Ok N4;have df:B9 w<|(w.alloc<|.cells (qi k) 32).alloc<|.cells (qi v) 32:=(n9).alloc oq _;obtain⟨W,hW⟩:=qa<|(w.alloc<|.cells (qi k) 32).alloc<|.cells (qi v) 32;rw[<-hW]at df;have fg:=hM.below df;have bk:TR W c v0 v1 v2 w.heap.size k:=⟨by constructor<;>rw[hW]<;>simp[go_sem]<;>omega,λe=>oT hM.lt,λe=>oT (hM.NM e).2⟩;have bv:TR W c v0 v1 v2 (w.heap.size+1) v:=⟨by constructor<;>rw[hW]<;>simp[go_sem]<;>omega,λe=>oT hM.lt,λe=>oT (hM.NM e).2⟩;have fh:CN c o v0 v1 v2 w v0 v1 v2 W:=CN.Am df hM.lt;rcases Ed hI,Er (hf:=hf) hI.core hN,B2 (hf:=hf) hI.core with⟨fj,fk,⟨fl,fm,dv,fo⟩⟩;have ct:∀i,i<(Ap hf d).n->((Ap hf d).L i).turn≠0->AH ((Ap hf d).L i).key k=false:=by
  intro i hi hC;cases e:AH ((Ap hf d).L i).key k
  .rfl
  obtain⟨j,g1,g2,g3⟩:=(DZ hI.core λp=>AH p.key k=true).1 ⟨i,hi,hC,e⟩;rw[fa j g1 g2]at g3;cases g3
 have a6:=hI.core;have hm:=fb;rcases O fj,O fk,O ct,O fg,O bk,O bv,O fh,O hS,O a6,O hh,O KL,O (qp hk<|qp e8<|qp hv e9) with⟨R,fq,dw,fr,ft,fu,fw,HS,fx,HH,dh,HK⟩;have b3:Hid<|GF hf d k v=Bx hf (Ap hf d) k v:=O rfl;clear hM fg bk bv fh hS hI hN hh KL hk e8 hv e9 fa ct fj fk df a6;go_enter func133,ntmps133;go_wp2_with fail;rw[<-hW];clear hW;refine(Fu hf fr HS fx HH).mono ?_;rintro e w1 ⟨⟨u,rfl⟩,t0,t2,S,aw⟩;rcases O (ft.step aw),O<|fu.step aw,O (fw.trans aw) with⟨cu,cv,fy⟩;generalize hD:Ap hf d=l at S R fq dw b3 fl fm dv fo;have im:l.n<=1000:=om;have hE:0<=l.turns/\l.turns<1000000000000:=⟨R.turns.1,om⟩;have dx:l.live<500/\0<=l.live:=⟨om,oT R.log.CX⟩;have hF:l.m<=4000000:=by rw[dv];exact hm
 obtain⟨la,lc,e0,_⟩:=S.log.at;subst e0;rcases S.c0,S.c4,S.c5,S.fz o,S.fz<|o+4,S.fz<|o+5,S.lt,O S with⟨c0,c4,c5,f0,f4,f5,C,fE⟩;clear aw S hD ft fu fw fr fl fm dv fo hl ht hm fb;obtain⟨W2,dy⟩:=qa<|(w1.setCell (G c<|o+5)<|J<|l.turns+1).setCell (G c<|o+4)<|J<|l.live+1;have dz:=(fE.LX<|l.turns+1).GQ<|l.live+1;have bh:=(fy.trans<|Cn (o:=o) (v0:=.slice la l.n lc) (v1:=v1) (v2:=t2) (w:=w1) (q:=o+5) (J<|l.turns+1) om λb e=>.inl e).trans<|Cn (q:=o+4) (J<|l.live+1) om λb e=>.inl e;have ak:CN c o (.slice la l.n lc) v1 t2 w1 (.slice la l.n lc) v1 t2<|(w1.setCell (G c<|o+5)<|J<|l.turns+1).setCell (G c<|o+4)<|J<|l.live+1:=(Cn (q:=o+5) (J<|l.turns+1) om λb e=>.inl e).trans<|Cn (q:=o+4) (J<|l.live+1) om λb e=>.inl e;have ae:=O<|cu.step ak;have af:=O<|cv.step ak;rw[<-dy]at dz bh ae af;have U:=O dz;have dC:=O bh;clear dz bh ak fE fy cu cv;go_wp2_with fail;rw[<-dy];clear dy c0 c4 c5 f0 f4 f5 C;rcases U.c0,U.c5,U.fz o,U.lt,ae.box,af.box with⟨c0,c5,f0,C,⟨bl,k0,k1,k2,k3,k4⟩,⟨hG,q0,q1,q2,q3,q4⟩⟩;have b8:Hid<|BU W2.drew B (.slice la l.n lc) l.n l.L:=O U.log.drew;have hH:=U.base;have HG:Hid (∀(g3 t:Nat) (w3:Y),w3.ownsRow B 168 11 (S9 g3 (l.n+1) t) (l.n+1) (pL l.L l.n++DA ⟨k,v,l.turns+1⟩)->W2.grownBy w3 (Value.slice la l.n lc).ownBlock->((Value.slice la l.n lc).ownBlock=some g3\/W2.heap.size<=g3)->
   AO (w3.setCell (G c o) (S9 g3 (l.n+1) t)) c o B (S9 g3 (l.n+1) t) v1 t2 (B3 l k v)/\CN c o (.slice la l.n lc) v1 t2 W2 (S9 g3 (l.n+1) t) v1 t2 (w3.setCell (G c o) (S9 g3 (l.n+1) t))):=O (λg3 t w3 h1 h2 h3=>by
  rw[YG]at h1;exact U.pK h2 h1 (λb e=>by rw[<-ownB e];exact h3))
 have ax:(Value.slice la l.n lc).ownBlock≠some c:=λe=>U.nc<|.inl e;have ay:=O ax;clear ax
 go_cut [44] λ_ wx=>∃g3 t:Nat,AO wx c o B (S9 g3 (l.n+1) t) v1 t2 (B3 l k v)/\CN c o (.slice la l.n lc) v1 t2 W2 (S9 g3 (l.n+1) t) v1 t2 wx
 case first=>
  clear R fq dw HS fx HH dh HK b3 dC ae af U dx hF j0 ji dr dt du
  go_region_law (refine Re _ rfl (.tmp 33) (.tmp 41) 66 rfl B 168 i0 PZ 11 104 underlying66 hi fc fe ff rfl oo (.slice la l.n lc) l.n (pL l.L l.n) og (b8.alloc _) (G W2.heap.size 0) 1 1 (DA ⟨k,v,l.turns+1⟩) og rfl (Is<|DO _ _) (EZ _) oo od om ot _ rfl ?_;intro g3 t w3 a7 cw a8 ag;have bt:=Pd cw;have fW:=z HG g3 t w3 a7 bt<|a8.imp id (λe=>by rw[e];simp);have e3:w3.heap[c]?=W2.heap[c]?:=bt.block c C λe=>ay e.symm;have x3:=(As (a:=G c o) e3).trans c0;have f3:=(GW (a:=G c o) e3).trans f0;have ga:=O fW;clear a7 cw bt fW e3 a8 HG b8 hi fc fe ff k0 k1 k2 k3 k4 q0 q1 q2 q3 q4 c0 c5)
  all_goals(go_wp2_with fail;go_meet;exact⟨_,_,ga.1,ga.2⟩)
 case rest=>
 obtain⟨g3,t,F,bj⟩:=hcut;obtain⟨W3,e⟩:=qa wc;subst e;clear HG b8 ay c0 c5 f0 C k0 k1 k2 k3 k4 q0 q1 q2 q3 q4 bl hG hH;rcases O (ae.step bj),O<|af.step bj,O (dC.trans bj) with⟨bu,cx,gb⟩;have gd:Small<|B3 l k v:=⟨by show l.n+1<=_;omega,by show l.m<=_;omega,by show l.x<=_;have h:=R.sz;unfold GB at h;omega⟩;rcases O gd,F.ints.at,F.index.at with⟨hJ,⟨ia,ic,e1,b9⟩,⟨xa,xc,e2,ca⟩⟩;replace e1:v1=.slice ia l.m ic:=e1;replace e2:t2=.slice xa l.x xc:=e2;have di:Hid (0<l.m->∃g cp,v1=S9 g l.m cp):=O (λh=>by obtain⟨g,cp,h,_⟩:=F.ints.form h;exact⟨g,cp,h⟩);have b4:Hid (0<l.x->∃g cp,t2=S9 g l.x cp):=O (λh=>by obtain⟨g,cp,h,_⟩:=F.index.form h;exact⟨g,cp,h⟩);have gf:=O F;obtain⟨bl,k0,k1,k2,k3,k4⟩:=bu.box;have gg:Ia W3 c o (some<|G g3 0) t ia ic xa xc<|B3 l k v:=⟨F.lt,F.c0,by rw[F.c1,e1];rfl,by rw[F.c2,e2];rfl,F.c3,F.c4,F.c5,by obtain⟨a,cp,e,h⟩:=F.log.at;cases e;exact h,b9,ca⟩;subst e1 e2;have gh:=O gg;have ag:=F.lt;clear F bj gd b9 ca gg ae af U dC;go_wp2_with fail;refine m9 (GJ k gh hJ) λw4 cb=>?_;rcases O (gf.below cb),O<|gb.trans<|CN.Am cb ag,O<|bu.step<|CN.Am (o:=o) cb ag,O (cx.step<|CN.Am (o:=o) cb ag) with⟨H,cc,ar,cy⟩;clear cb gf gb bu cx gh ag bl k0 k1 k2 k3 k4;rcases ar.box,H.lt,H.c1 with⟨⟨bl,k0,k1,k2,k3,k4⟩,C,c1⟩;by_cases hs:AA l.m k
 .rw[show tells (AA (B3 l k v).m k)=true from Al hs];have HR:Hid<|Bx hf l k v=B5 l k v:=O (by unfold Bx;rw[DD hs]);obtain⟨s1,s2,s3⟩:=hs;obtain⟨q,hq⟩:∃q:Nat,k.num=(q:Int)+1:=⟨(k.num-1).toNat,om⟩;have gi:q<l.m:=om;obtain⟨g,cp,eg⟩:=z di om;cases eg;obtain⟨g',cp',dU,hO,ea,hQ,hcs,cd⟩:=H.ints.form (by show 0<l.m;omega);cases dU;have e0:=hcs q gi;have f0:=cd q;have eb:g≠c:=λe=>H.nc<|.inr<|.inl (by rw[<-e];rfl);have iq:IntKind.i64.wrap (q:Int)=q:=oj;have hd:=AO.Xp (d:=B3 l k v) H gi<|(l.n:Int)+1;have cg:=cc.trans<|DJ (q:=q) (J<|(l.n:Int)+1) (.inr<|.inl rfl) eb;have HE:Hid<|{B3 l k v with I:=AW (B3 l k v).I q ((l.n:Int)+1)}=B5 l k v:=O (by unfold B5;rw[hq,show((q:Int)+1-1).toNat=q by omega];rfl);have HD:=O hd;have dj:=O cg;rw[hq]at k1;clear hd cg hcs cd hq s1 s2 s3 di b4;go_wp2_with fail
  go_region
  go_wp2;refine Fs (AaE rfl _ _ _) rfl ?_;refine⟨⟨_,rfl⟩,_,_,_,?_,dj.trans<|CN.Am (BE _ _).drew<|by simpa using C⟩;rw[z b3,z HR,<-z HE];exact HD.below (BE _ _).drew
 rw[show tells (AA (B3 l k v).m k)=false from Ag hs];have gj:=O hs;clear hs;have iu:IntKind.i64.wrap ((l.m:Int)+1)=(l.m:Int)+1:=oj;by_cases hx:k.kind=2/\k.num=(l.m:Int)+1
 .have HR:Hid<|Bx hf l k v=Cy hf (l.x+1) (B4 l k v):=O (by unfold Bx;rw[C3 (z gj),DD hx]);have gl:=O<|Jf dh R HK.1 HK.2.1 HK.2.2.1 HK.2.2.2 dw hx.1 hx.2 dx.1 hE.2;have au:(k.kind==2)=true:=by simp[hx.1]
  have bw:(k.num==(l.m:Int)+1)=true:=by simp[hx.2]
  clear hx;go_wp2_with fail;go_quiet (fail);obtain⟨W5,bm⟩:=qa<|w4.drewN nq;rw[<-bm];have T:B9 w4 W5:=by rw[bm];exact AQ (BE _ _) _
  clear bm;have E:=O<|H.below T;have bn:=O<|cc.trans<|CN.Am T C;clear T H cc ar cy c1 C bl k0 k1 k2 k3 k4 au bw;rcases E.c1,E.fz<|o+1,E.lt,E.base with⟨c1,f1,C,hR⟩;have ax:(Value.slice ia l.m ic).ownBlock≠some c:=λe=>E.nc<|.inr<|.inl e;have ay:=O ax;clear ax;have HG:Hid (∀(g4 aq:Nat) (w5:Y),w5.ownsRow B 3 1 (S9 g4 (l.m+1) aq) (l.m+1) (iL l.I l.m++[J ((l.n:Int)+1)])->W5.grownBy w5 (Value.slice ia l.m ic).ownBlock->((Value.slice ia l.m ic).ownBlock=some g4\/W5.heap.size<=g4)->
    AO (w5.setCell (G c (o+1)) (S9 g4 (l.m+1) aq)) c o B (S9 g3 (l.n+1) t) (S9 g4 (l.m+1) aq) (.slice xa l.x xc) (B4 l k v)/\CN c o (S9 g3 (l.n+1) t) (.slice ia l.m ic) (.slice xa l.x xc) W5 (S9 g3 (l.n+1) t) (S9 g4 (l.m+1) aq) (.slice xa l.x xc) (w5.setCell (G c (o+1)) (S9 g4 (l.m+1) aq))):=O (λg4 aq w5 h1 h2 h3=>by
   rw[Yp]at h1;exact E.pJ h2 h1 (λb e=>by rw[<-ownB e];exact h3))
  have gm:=O E.ints;have hT:Hid<|W5.heap.size=W5.heap.size:=O rfl;go_wp2_with (first|(at_builtin;refine ON _ rfl _ _ 67 rfl B 3 j0 (J 0) 1 8 underlying67 ji dr dt du rfl oo (.slice ia l.m ic) l.m (iL l.I l.m) rfl (gm.alloc _) (G W5.heap.size 0) 1 1 [J ((l.n:Int)+1)] rfl rfl (Is<|DO _ _) oh oo od om ot _ rfl ?_;intro g4 aq w5 bb cz bc eA;have dk:=Nk cz;have gn:=z HG g4 aq w5 bb dk<|bc.imp id (λe=>by rw[e];simp);have e4:w5.heap[c]?=W5.heap[c]?:=dk.block c C λe=>ay e.symm;have x4:=(As (a:=G c<|o+1) e4).trans c1;have f4:=(GW (a:=G c<|o+1) e4).trans f1;have dm:=O gn;have eI:c<w5.heap.size:=A0 C dk.size;clear bb cz dk gn e4 bc)|go_in);obtain⟨WL,ec⟩:=qa<|w5.setCell (G c<|o+1)<|S9 g4 (l.m+1) aq;rw[<-ec]at dm;rw[<-ec];clear ec;have ch:=O dm.1;have bp:=O<|bn.trans dm.2;clear dm bn E HG gm ay hT x4 f4 eI c1 f1 C hR eA di b4;have hU:l.x<=4000:=by have h:=R.sz;unfold GB at h;omega
  go_loopw [7] (λ_ wr=>∃(f:Nat) (r:Dc) (u1 u2:V9),Cy hf f r=Cy hf (l.x+1) (B4 l k v)/\FX r.X r.x<f/\r.m+f=l.m+1+(l.x+1)/\BW K hf r/\r.n=l.n+1/\AO wr c o B (S9 g3 (l.n+1) t) u1 u2 r/\CN c o v0 (.slice ia l.m ic) v2 w (S9 g3 (l.n+1) t) u1 u2 wr) λ_ wr=>(l.m+1+(l.x+1))-fR wr c o
  .exact⟨l.x+1,B4 l k v,_,_,rfl,by have:=Od l.X l.x;show FX l.X l.x<_;omega,rfl,gl,rfl,ch,bp⟩
  clear ch bp gl;obtain⟨f,r,u1,u2,gp,h9,iv,bx,dn,hd,cg⟩:=hrel;rcases hd.ints.at,hd.index.at,bx.sz with⟨⟨bq,br,e1,b9⟩,⟨hV,ef,e2,ca⟩,gq⟩;have iw:r.x<=4000:=by unfold GB at gq;omega
  have b4:Hid (0<r.x->∃g cp,u2=S9 g r.x cp):=O (λh=>by obtain⟨g,cp,h,_⟩:=hd.index.form h;exact⟨g,cp,h⟩);have hP:Ia wr c o (some<|G g3 0) t bq br hV ef r:=⟨hd.lt,by rw[hd.c0,dn],by rw[hd.c1,e1],by rw[hd.c2,e2],hd.c3,hd.c4,hd.c5,by have hl:=hd.log;rw[dn]at hl;obtain⟨a,cp,e,h⟩:=hl.at;cases e;rw[dn];exact h,b9,ca⟩;have gu:Small r:=⟨om,om,om⟩;subst e1 e2;rcases O hP,O gu,O hd,O cg,O bx,O gp,hd.c1,hd.lt,O<|UU hd.c1,O (HH _<|dh.own<|(r.m:Int)+1) with⟨HP,hX,HD,dj,av,eh,c1,C,eP,hY⟩;have ib:IntKind.i64.wrap ((r.m:Int)+1)=(r.m:Int)+1:=oj;clear b9 ca hP gu hd cg bx gp gq;go_wp2_with fail;refine m9 (Fh ((r.m:Int)+1) _) λw6 cj=>?_;rcases O (HP.below cj),O<|HD.below cj,O<|dj.trans<|CN.Am cj C,A0 C cj.size with⟨gv,ch,cN,ah⟩;clear cj HP HD dj c1 C;go_wp2_with fail;have a9:=KU gv hX av.d4 hY;refine m9 a9 λw7 ei=>?_;clear a9;have M:=O<|ch.below ei;have bz:=O<|cN.trans<|CN.Am ei ah;clear ei gv ch cN ah;rcases M.c1,M.c2,M.fz<|o+1,M.lt,M.base with⟨c1,c2,f1,C,ix⟩;cases b5:A1 r (CM<|(r.m:Int)+1) (hf<|CM<|(r.m:Int)+1)with
  |none=>
   have eS:Hid<|r=Cy hf (l.x+1) (B4 l k v):=O (by rw[<-z eh,Gj b5]);simp only[FR];clear b5 c1 c2 f1;go_wp2;refine Fs (AaE rfl _ _ _) rfl ?_;refine⟨⟨_,rfl⟩,_,_,_,?_,bz⟩;rw[z b3,z HR,<-z eS];exact M
  |some s=>
   obtain⟨aw,bh,bj,hZ⟩:=av.slot b5;obtain⟨f',rfl⟩:∃f',f=f'+1:=⟨f-1,om⟩;have eT:Hid<|Cy hf f' (DW r s)=Cy hf (l.x+1) (B4 l k v):=O (by rw[<-z eh,Gk b5]);have dc:=O<|ML dh av b5;have gw:=K4 bh r.x;rw[DD aw]at gw;have eX:Hid<|FX (DW r s).X (DW r s).x<f':=O (by show FX (AW r.X s (-1)) r.x<f';omega);obtain⟨g,cp,eg⟩:=z b4 om;cases eg;obtain⟨g',cp',dU,hO,ea,hQ,hcs,cd⟩:=M.index.form om;cases dU;have e0:=hcs s aw;have f0:=cd s;have eb:g≠c:=λe=>M.nc<|.inr<|.inr (by rw[<-e];rfl);have h0:0<r.X s/\r.X s<=1001:=⟨bh,oT bj.1⟩;simp only[FR];clear b5 bh bj hZ hcs cd gw h0;go_wp2_with fail;have b8:Hid<|Bt w7.drew B (.slice bq r.m br) r.m r.I:=O M.ints.drew;have ax:(Value.slice bq r.m br).ownBlock≠some c:=λe=>M.nc<|.inr<|.inl e;have gx:(Value.slice bq r.m br).ownBlock≠some g:=λe=>M.ap g e rfl;have ay:=O<|qp ax gx;have HG:Hid (∀(g5 az:Nat) (w9:Y),w9.ownsRow B 3 1 (S9 g5 (r.m+1) az) (r.m+1) (iL r.I r.m++[J (r.X s)])->w7.grownBy w9 (Value.slice bq r.m br).ownBlock->((Value.slice bq r.m br).ownBlock=some g5\/w7.heap.size<=g5)->
     AO ((w9.setCell (G c (o+1)) (S9 g5 (r.m+1) az)).setCell (G g s) (J (-1))) c o B (S9 g3 (l.n+1) t) (S9 g5 (r.m+1) az) (S9 g r.x ef) (DW r s)/\CN c o v0 (.slice ia l.m ic) v2 w (S9 g3 (l.n+1) t) (S9 g5 (r.m+1) az) (S9 g r.x ef) ((w9.setCell (G c (o+1)) (S9 g5 (r.m+1) az)).setCell (G g s) (J (-1)))):=O (λg5 az w9 h1 h2 h3=>by
    rw[Yp]at h1;obtain⟨a1,a2⟩:=M.pJ h2 h1 (λb e=>by rw[<-ownB e];exact h3);exact⟨AO.PR (d:={r with m:=r.m+1,I:=AW r.I r.m (r.X s)}) a1 (i:=s) aw (-1),(bz.trans a2).trans (DJ (q:=s) (J (-1)) (.inr (.inr rfl)) eb)⟩)
   clear ax gx M bz av eh b4
   go_region_law (refine Re _ rfl (.tmp 98) (.tmp 106) 67 rfl B 3 j0 (J 0) 1 8 underlying67 ji dr dt du rfl oo (.slice bq r.m br) r.m (iL r.I r.m) og (b8.alloc _) (G w7.heap.size 0) 1 1 [J (r.X s)] og rfl (Is<|DO _ _) oh oo od om ot _ rfl ?_;intro g5 az w9 bd c6 bf ie;have b6:=Pd c6;have gy:=z HG g5 az w9 bd b6<|bf.imp id (λe=>by rw[e];simp);have e5:w9.heap[c]?=w7.heap[c]?:=b6.block c C λe=>ay.1 e.symm;have e6:w9.heap[g]?=w7.heap[g]?:=b6.block g ea λe=>ay.2 e.symm;have x5:=(As (a:=G c<|o+1) e5).trans c1;have x6:=(As (a:=G c<|o+2) e5).trans c2;have y5:=(As (a:=G g s) e6).trans e0;have z5:=(GW (a:=G g s) e6).trans f0;have f5:=(GW (a:=G c<|o+1) e5).trans f1;have ig:=A0 C b6.size;have ih:=A0 ea b6.size;have ej:=O gy;clear bd c6 b6 gy e5 e6 bf HG)
   all_goals
    go_wp2;go_roundw
    .exact⟨f',DW r s,_,_,eT,eX,by show r.m+1+f'=_;omega,dc,dn,ej.1,ej.2⟩
    rw[UU (z ej).1.c1,z eP];omega
 have HR:Hid<|Bx hf l k v=AY hf (B3 (CT hf l) k v) k l.n:=O (by unfold Bx;rw[C3 (z gj),C3 hx]);have hU:l.x<=4000:=by have h:=R.sz;unfold GB at h;omega
 have iy:0<=l.used/\l.used<=4000:=by have h1:=R.used;have h2:=YV l.X l.x;omega
 have ao:Hid<|∀(Q:Prop),(k.kind≠2->Q)->(k.kind=2->k.num≠(l.m:Int)+1->Q)->Q:=O (λQ h1 h2=>by
  by_cases e:k.kind=2
  .exact h2 e λe'=>hx ⟨e,e'⟩
  exact h1 e)
 clear hx;have c2:=H.c2;have c3:=H.c3;have bg:(B3 l k v).used=l.used:=rfl;rw[bg]at c3;obtain⟨lb,h4,ek,h5,gE,e7,ai,aj⟩:=H.log.form (by show 0<l.n+1;omega);cases ek;have ck:=(ai l.n<|by show l.n<l.n+1;omega).tn;have hL:(B3 l k v).L l.n=⟨k,v,l.turns+1⟩:=Cg;rw[hL]at ck;have ck:w4.cell? (G g3<|l.n*11+10)=some (J<|l.turns+1):=ck;have gN:=aj<|l.n*11+10;have iz:IntKind.i64.wrap (l.used+1)=l.used+1:=oj;have i1:IntKind.i64.wrap (2*(l.used+1))=2*(l.used+1):=oj;have c0:=H.c0;have i6:(B3 l k v).n=l.n+1:=rfl;have b0:g3≠c:=λe=>H.nc<|.inl (by rw[<-e];rfl);have ad:=O<|Hn R dx.1;clear ai aj hL bg di b4;refine ao _ (λDM=>?_) λDM gS=>?_
 focus
  have au:(k.kind==2)=false:=by simp[DM]
  clear DM ao;go_wp2_with fail;go_quiet (fail)
 rotate_left
 focus
  have au:(k.kind==2)=true:=by simp[DM]
  have bw:(k.num==(l.m:Int)+1)=false:=by simp[gS]
  clear DM gS ao;go_wp2_with fail;go_quiet (fail);clear bw
 all_goals
  obtain⟨W5,bm⟩:=qa<|w4.drewN nq;rw[<-bm];have T:B9 w4 W5:=by rw[bm];exact AQ (BE _ _) _
  clear bm;rcases O (H.below T),O<|cc.trans<|CN.Am T C,O (ar.step<|CN.Am (o:=o) T C) with⟨E,bn,b1⟩;have c0:=E.c0;have c2:=E.c2;have c3:W5.cell? (G c<|o+3)=some (J l.used):=E.c3;rcases (T.cell gE).trans ck,(T.frozen gE).trans gN,A0 C T.size with⟨ck,gN,C⟩;clear bl k0 k1 k2 k3 k4;obtain⟨bl,k0,k1,k2,k3,k4⟩:=b1.box;clear T H cc ar cy au;by_cases P:(l.x:Int)<2*(l.used+1)
  .have dp:Hid<|CT hf l=A3 hf l 1:=O<|DD P;have h6:decide ((l.x:Int)<2*(l.used+1))=true:=by simp[P]
   have ij:=R.core.eU;have eo:BV l l.n+1<=500:=om;have hz:AO (W5.setCell (G g3<|l.n*11+10)<|J 0) c o B (S9 g3 (l.n+1) t) (.slice ia l.m ic) (.slice xa l.x xc)<|EC l k v:=by
    have h:=AO.sU (d:=B3 l k v) E (i:=l.n) (by show l.n<l.n+1;omega) 10 om (J 0) ⟨k,v,0⟩<|qm Cg;refine h.of_same rfl (λi _=>?_) rfl (λ_ _=>rfl) rfl (λ_ _=>rfl) rfl rfl rfl;show AW l.L l.n ⟨k,v,0⟩ i=AW (AW l.L l.n ⟨k,v,l.turns+1⟩) l.n ⟨k,v,0⟩ i;rw[YU]
   have gT:=bn.trans<|DJ (v2:=.slice xa l.x xc) (q:=l.n*11+10) (J 0) (.inl rfl) b0;have c7:CN c o (S9 g3 (l.n+1) t) (.slice ia l.m ic) (.slice xa l.x xc) W5 (S9 g3 (l.n+1) t) (.slice ia l.m ic) (.slice xa l.x xc)<|W5.setCell (G g3<|l.n*11+10)<|J 0:=DJ (q:=l.n*11+10) (J 0) (.inl rfl) b0;have HZ:=O<|hz.below (BE _ _).drew;have ha:=O<|gT.trans<|CN.Am (BE _ _).drew (by simpa using C);have hb:=O<|(b1.step c7).step<|CN.Am (o:=o) (BE _ _).drew (by simpa using C);have hg:Small<|EC l k v:=⟨by show l.n+1<=_;omega,by show l.m<=_;omega,by show l.x<=_;omega⟩;have hn:=O hg;have ho:Hid<|∀i,i<(EC l k v).n->AZ (EC l k v) i->YZ ((EC l k v).L i).key (hf ((EC l k v).L i).key):=O (λi hi hx=>by
    have hi:i<l.n+1:=hi;by_cases e:i=l.n
    .subst e;exact absurd hx Mu
    have ep:i<l.n:=om;rw[OP ep];exact HH _ (R.keys i ep (oT ((Im ep).1 hx).1)))
   clear hz gT c7 hg P E bn b1 bl k0 k1 k2 k3 k4;go_wp2_with fail
   go_region
   go_wp2_with fail
   refine(Kv hf 1 HZ hn (by rw[Mt];exact eo) ho).mono ?_;rintro e w6 ⟨⟨u9,rfl⟩,t9,hp,eu⟩;have c8:=O<|hb.step eu;have bp:=O<|ha.trans eu;have A:=PU (hf:=hf) (d:=EC l k v) (by rw[Mt];exact eo);have i7:(A3 hf (EC l k v) 1).n=l.n+1:=A.n;have b7:AO w6 c o B (S9 g3 (l.n+1) t) (.slice ia l.m ic) t9 {EC l k v with x:=(A3 hf (EC l k v) 1).x,X:=(A3 hf (EC l k v) 1).X,used:=(A3 hf (EC l k v) 1).used}:=hp.of_same A.n.symm (λi _=>by rw[A.L]) A.m.symm (λi _=>by rw[A.I]) rfl (λ_ _=>rfl) rfl A.live.symm A.turns.symm;obtain⟨lb,h4,ek,h5,ik,e7,ai,aj⟩:=b7.log.form (by show 0<l.n+1;omega);cases ek;have c9:=(ai l.n<|by show l.n<l.n+1;omega).tn;have il:=aj<|l.n*11+10;have ja:w6.cell? (G g3<|l.n*11+10)=some (J 0):=by
    have hL:(EC l k v).L l.n=⟨k,v,0⟩:=Ax _ _ _;have h:=c9;rw[hL]at h;exact h
   have ah:=b7.lt;have jb:=b7.c0;have jc:w6.cell? (G c<|o+5)=some (J<|l.turns+1):=b7.c5;have h8:AO (w6.setCell (G g3<|l.n*11+10)<|J<|l.turns+1) c o B (S9 g3 (l.n+1) t) (.slice ia l.m ic) t9<|B3 (CT hf l) k v:=by
    have h:=AO.sU (d:={EC l k v with x:=(A3 hf (EC l k v) 1).x,X:=(A3 hf (EC l k v) 1).X,used:=(A3 hf (EC l k v) 1).used}) b7 (by show l.n<l.n+1;omega) 10 om (J<|l.turns+1) ⟨k,v,l.turns+1⟩ (by show _=(DA<|(EC l k v).L l.n).set 10 _;rw[show(EC l k v).L l.n=⟨k,v,0⟩from Ax _ _ _];rfl);rw[z dp,<-Su eo];refine h.of_same A.n (λi _=>?_) A.m (λi _=>by rw[show({A3 hf (EC l k v) 1 with L:=AW l.L l.n ⟨k,v,l.turns+1⟩}:Dc).I=(A3 hf (EC l k v) 1).I from rfl,A.I]) rfl (λ_ _=>rfl) rfl A.live A.turns;show AW l.L l.n ⟨k,v,l.turns+1⟩ i=AW (AW l.L l.n ⟨k,v,0⟩) l.n ⟨k,v,l.turns+1⟩ i;rw[YU]
   have b2:CN c o (S9 g3 (l.n+1) t) (.slice ia l.m ic) t9 w6 (S9 g3 (l.n+1) t) (.slice ia l.m ic) t9<|w6.setCell (G g3<|l.n*11+10)<|J<|l.turns+1:=DJ (q:=l.n*11+10) (J<|l.turns+1) (.inl rfl) b0;have hr:=O<|h8.below (BE _ _).drew;have hB:=O<|(bp.trans b2).trans<|CN.Am (BE _ _).drew (by simpa using ah);have da:=O<|(c8.step b2).step<|CN.Am (o:=o) (BE _ _).drew (by simpa using ah);clear hp eu b7 h8 b2 ai aj c9 A HZ ha hb c8 bp ho hn;go_wp2_with fail
   go_region
   obtain⟨W8,ev⟩:=qa<|(w6.setCell (G g3<|l.n*11+10)<|J<|l.turns+1).drew;rw[<-ev];rw[<-ev]at hr hB da;clear ev;rcases da.box,ad.1,ad.2.1 with⟨⟨bl,k0,k1,k2,k3,k4⟩,aM,dq⟩;have cl:=aM.sz;have ew:=aM.used;have cm:=cl.resolve_left om;have cn:=z HH k HK.1;have D:=O<|qp cm<|qp (show Cj (CT hf l).X (CT hf l).x<(CT hf l).x by omega)<|qp (show 0<=(CT hf l).used/\(CT hf l).used<=4000 by omega) cn;clear aM dq cl ew cm cn;go_wp2_with fail;refine(Jp hf c o B _ _ t9 (B3 (CT hf l) k v) k l.n _ hr D.1 D.2.1 D.2.2.1 om D.2.2.2).mono ?_;rintro e w9 ⟨⟨⟨u8,rfl⟩,cq⟩,cr⟩;have ey:=O cq;have ez:=O<|hB.trans cr;clear cq cr;go_wp2;go_end0;exact⟨⟨_,rfl⟩,_,_,_,by rw[z b3,z HR];exact ey,ez⟩
  have dp:Hid<|CT hf l=l:=O<|C3 P;have h6:decide ((l.x:Int)<2*(l.used+1))=false:=by simp[P]
  have aM:=ad.1;have dq:=ad.2.1;rw[z dp]at aM dq;have cl:=aM.sz;have ew:=aM.used;have cm:=cl.resolve_left om;have cn:=z HH k HK.1;rcases O (qp cm<|qp (show Cj l.X l.x<l.x by omega)<|qp (show 0<=l.used/\l.used<=4000 by omega) cn),O<|E.below (BE _ _).drew,O (bn.trans<|CN.Am (BE _ _).drew C) with⟨D,h7,bp⟩;clear aM dq cl ew cm cn P E bn;go_wp2_with fail
  go_region
  go_wp2_with fail
  refine(Jp hf c o B _ _ (.slice xa l.x xc) (B3 l k v) k l.n _ h7 D.1 D.2.1 D.2.2.1 om D.2.2.2).mono ?_;rintro e w9 ⟨⟨⟨u8,rfl⟩,cq⟩,cr⟩;have ey:=O cq;have ez:=O<|bp.trans cr;clear cq cr;go_wp2;go_end0;exact⟨⟨_,rfl⟩,_,_,_,by rw[z b3,z HR,z dp];exact ey,ez⟩
def MT:List Value->Nat->List Value->List Value
 |xs,_,[]=>xs
 |xs,q,u::us=>MT (xs.set q u) (q+1) us
def Gz(g:Nat):World->Nat->List Value->World
 |w,_,[]=>w
 |w,q,u::us=>Gz g (w.setCell (G g q) u) (q+1) us
def Vo:∀(us xs) (q j),q+us.length<=xs.length->(MT xs q us)[j]?=if q<=j/\j<q+us.length then us[j-q]? else xs[j]?:=by
 intro us
 induction us with
 |nil=>intro xs q j _;rw[C3 oq];rfl
 |cons u us ih=>
  intro xs q j h;simp only[Aac]at h ⊢;show(MT (xs.set q u) (q+1) us)[j]?=_;rw[ih _ _ _ ot,List.getElem?_set];by_cases e:j=q
  .subst e;rw[C3 om,DD rfl,DD om,DD om,Nat.sub_self];rfl
  by_cases e2:q+1<=j/\j<q+1+us.length
  .rw[DD e2,DD om];obtain⟨i,hi⟩:∃i,j-q=i+1:=⟨j-q-1,om⟩;rw[hi,show j-(q+1)=i by omega];rfl
  rw[C3 e2,C3 (λe'=>e e'.symm),C3 om]
def Va{size cap}:∀(us) (w) (q) (xs),w.ownsRow B e size (S9 g n cap) n xs->(Gz g w q us).ownsRow B e size (S9 g n cap) n (MT xs q us):=by
 intro us
 induction us with
 |nil=>intro w q xs h;exact h
 |cons u us ih=>intro w q xs h;exact ih _ _ _ (We h q u).1
def P2:∀(us) (w) (q b),b≠g->(Gz g w q us).heap[b]?=w.heap[b]?:=by
 intro us
 induction us with
 |nil=>intro w q b _;rfl
 |cons u us ih=>intro w q b hb;exact(ih _ _ _ hb).trans (At _ _ _ _<|by exact hb)
def RT:∀(us) (w) (q),(Gz g w q us).heap.size=w.heap.size/\(Gz g w q us).os=w.os/\(Gz g w q us).tape=w.tape/\(Gz g w q us).output=w.output:=by
 intro us
 induction us with
 |nil=>intro w q;exact⟨rfl,rfl,rfl,rfl⟩
 |cons u us ih=>intro w q;obtain⟨h1,h2,h3,h4⟩:=ih (w.setCell (G g q) u)<|q+1;exact⟨h1.trans oq,h2,h3,h4⟩
def nK f{n}i a us p(hi:i<n)(b:a+us.length<=11)(hp:∀j,(DA p)[j]?=if a<=j/\j<a+us.length then us[j-a]? else(DA<|f i)[j]?):MT (pL f n) (i*11+a) us=pL (AW f i p) n:=by
 apply AaF;intro q;rw[Vo _ _ _ _ (by rw[C5];omega)];by_cases hq:q<n*11
 .obtain⟨x,y,rfl,hb⟩:∃x y,q=x*11+y/\y<11:=⟨q/11,q%11,om,om⟩;have ha:x<n:=om;have:=MO (f:=f) ha hb;have:=MO (f:=AW f i p) ha hb;grind [DA,MT,AW,Ax,Ao]
 grind [DA,MT,pL,AW,C5]
def AO.gZ(h:AO w c o B (S9 g d.n cp) v1 v2 d){i}(hi:i<d.n)a us p(r:a+us.length<=11)(hp:∀j,(DA p)[j]?=if a<=j/\j<a+us.length then us[j-a]? else(DA<|d.L i)[j]?):
  AO (Gz g w (i*11+a) us) c o B (S9 g d.n cp) v1 v2 {d with L:=AW d.L i p}/\CN c o (S9 g d.n cp) v1 v2 w (S9 g d.n cp) v1 v2 (Gz g w (i*11+a) us):=by
 obtain⟨s1,s2,k,l⟩:=RT (g:=g) us w<|i*11+a;have hc:c≠g:=λe=>h.nc<|.inl<|qm e;have eb:=P2 (g:=g) us w<|i*11+a;have f:∀q,(Gz g w (i*11+a) us).cell? (G c q)=w.cell? (G c q):=λq=>As<|eb c hc;have hl:=Va us w (i*11+a) _ h.log;rw[nK d.L i a us p hi r hp]at hl;have m:w.grownBy (Gz g w (i*11+a) us)<|some g:=⟨s2,k,l,Nat.le_of_eq s1.symm,λb _ hb=>eb b λe=>hb<|by rw[e]⟩;have s:=J6 h.ints m (λb e=>by cases e;exact Ef h.log h.ints rfl);have kx:=J6 h.index m (λb e=>by cases e;exact Ef h.log h.index rfl);exact⟨⟨by rw[s1];exact h.lt,(f _).trans h.c0,(f _).trans h.c1,(f _).trans h.c2,(f _).trans h.c3,(f _).trans h.c4,(f _).trans h.c5,λq=>(GW<|eb c hc).trans<|h.fz q,hl,s,kx,h.ap,h.nc,by rw[s1];exact h.base⟩,⟨s2,k,l,Nat.le_of_eq s1.symm,λb _ _ t=>eb b λe=>t<|.inl<|qm e,λq _=>f q,λb e=>.inl e,.same<|eb c hc⟩⟩
def AO.kill(h:AO w c o B (S9 g d.n cp) v1 v2 d){i}(hi:i<d.n):
  AO (Gz g w (i*11+0)<|DA default) c o B (S9 g d.n cp) v1 v2 {d with L:=AW d.L i default}/\CN c o (S9 g d.n cp) v1 v2 w (S9 g d.n cp) v1 v2 (Gz g w (i*11+0)<|DA default):=
 h.gZ hi 0 (DA default) default (by simp[DA]) (λj=>by
  by_cases e:j<11
  .rw[DD (by simp[DA];omega),Nat.sub_zero]
  rw[Aab (by simp[DA];omega),C3 (by simp[DA];omega),Aab (by simp[DA];omega)])
abbrev vL(v:Vl):List Value:=[J v.kind,J v.num,F9 v.Ah,.string v.str,J v.ref]
def AO.wI(h:AO w c o B (S9 g d.n cp) v1 v2 d){i}(hi:i<d.n)v:
  AO (Gz g w (i*11+5)<|vL v) c o B (S9 g d.n cp) v1 v2 (II d i v)/\CN c o (S9 g d.n cp) v1 v2 w (S9 g d.n cp) v1 v2 (Gz g w (i*11+5)<|vL v):=
 h.gZ hi 5 (vL v) ⟨(d.L i).key,v,(d.L i).turn⟩ oq (λj=>by
  match j with
  |0|1|2|3|4|5|6|7|8|9|10=>rfl
  |n+11=>rw[C3 oq,Aab (by simp[DA]),Aab (by simp[DA])])
def pY(X:Nat->Int)(n i:Nat):Nat->Int:=AW (AW X i<|X<|(i+1)%n) ((i+1)%n)<|X i
def Gv(K:Kd)(v:Int)(i:Nat)(Z:Int×Cs)(d:Dc):Dc×Cs:=
 if Z.1=0 then({d with L:=AW d.L i ⟨(He K Z.2).1,(d.L i).val,(d.L i).turn⟩},(He K Z.2).2)
 else if Z.1=1 then({d with L:=AW d.L i ⟨(d.L i).key,(He K Z.2).1,(d.L i).turn⟩},(He K Z.2).2)
 else if Z.1=2 then({d with L:=AW d.L i ⟨(d.L i).key,(d.L i).val,v⟩},Z.2)
 else({d with n:=d.n-1},Z.2)
def Fo(K:Kd)(v x:Int)(c:Cs)(d:Dc):Dc×Cs:=
 if x=0 then({d with used:=d.used+((Ab K 3 c).1-1)},(Ab K 3 c).2)
 else if x=1 then({d with live:=d.live+((Ab K 3 c).1-1)},(Ab K 3 c).2)
 else if x=2 then({d with turns:=d.turns+((Ab K 5 c).1-3)},(Ab K 5 c).2)
 else if x=3 then(if 0<d.m then({d with I:=AW d.I (Ab K d.m c).1.toNat v},(Ab K d.m c).2)else({d with m:=1,I:=λ_=>v},c))
 else if x=4 then(if 0<d.x then({d with X:=AW d.X (Ab K d.x c).1.toNat v},(Ab K d.x c).2)else({d with x:=(Ab K 9 c).1.toNat,X:=λ_=>0},(Ab K 9 c).2))
 else if x=5 then(if 0<d.x then({d with X:=pY d.X d.x (Ab K d.x c).1.toNat},(Ab K d.x c).2)else(d,c))
 else if d.n=0 then({d with n:=1,L:=λ_=>⟨Cd,Cd,v⟩},c)
 else Gv K v (Ab K d.n c).1.toNat (Ab K 4 (Ab K d.n c).2) d
def JJ(K:Kd)(c:Cs)(d:Dc):Dc×Cs:=Fo K ((Ab K 8 c).1-2) (Ab K 9 (Ab K 8 c).2).1 (Ab K 9 (Ab K 8 c).2).2 d
def Qk(h:bT v):Wf v:=⟨h.2.1,GO h.1 oo⟩
structure wU (d:Dc):Prop where
 u:0<=d.used/\d.used<=1000000000000
 l:0<=d.live/\d.live<=1000000000000
 t:0<=d.turns/\d.turns<=1000000000000
def xH(K:Kd)(P:Dc×Cs)(d:Dc)(b Z:Nat)(w:Y)(cc o B:Nat)(v0 v1 v2:V9)(w':Y):Prop:=
 ∃d' u0 u1 u2 a c',P=(AP d',c')/\Gr b w a/\CN cc o v0 v1 v2 a u0 u1 u2 w'/\AO w' cc o B u0 u1 u2 d'/\Cq K c' b Z w'/\M9 d'/\d'.n<=d.n+1/\d'.m<=d.m+1/\d'.x<=d.x+9
section
variable {K:Kd} {c:Cs} {b n0 cc o B:Nat} {w w':Y} {v0 v1 v2 u0 u1 u2:V9} {d d':Dc}
def Cq.drew(h:Cq K c b n0 w):Cq K c b n0 w.drew:=h.below ((BE w.heap.size w).drew) h.lt
def AO.gr(h:AO w cc o B v0 v1 v2 d)(a:Gr b w w')(hb:b<B)(c:B<=cc):AO w' cc o B v0 v1 v2 d:=by
 have k:∀q,GZ v0 v1 v2 q->w'.heap[q]?=w.heap[q]?:=λq e=>a.block q (oT (h.NM e).1) (h.NM e).2;have e:∀q,w'.cell? (G cc q)=w.cell? (G cc q):=λq=>a.cell cc q om h.lt;exact⟨A0 h.lt a.size,(e _).trans h.c0,(e _).trans h.c1,(e _).trans h.c2,(e _).trans h.c3,(e _).trans h.c4,(e _).trans h.c5,λq=>(a.frozen cc q om h.lt).trans<|h.fz q,Ae h.log λq e=>k q<|.inl e,Ae h.ints λq e=>k q<|.inr<|.inl e,Ae h.index λq e=>k q<|.inr<|.inr e,h.ap,h.nc,GO h.base a.size⟩
def AO.drew(h:AO w cc o B v0 v1 v2 d):AO w.drew cc o B v0 v1 v2 d:=h.below<|(BE w.heap.size w).drew
def Gr.drew{u}(h:Gr b u w):Gr b u w.drew:=h.trans<|Gr.Am<|(BE w.heap.size w).drew
def Ts{a:Y}{P:Dc×Cs}(f:P=(AP d',c'))(g:Gr b w a)(hs:CN cc o v0 v1 v2 a u0 u1 u2 w')(c:AO a cc o B v0 v1 v2 d)(h:AO w' cc o B u0 u1 u2 d')(hc:Cq K c' b M a)(hb:b<B)(i:B<=cc)(j:M9 d')(hz:d'.n<=d.n+1/\d'.m<=d.m+1/\d'.x<=d.x+9:=by first|omega|(dsimp only;omega))(hN:M<=n0:=by first|omega):xH K P d b n0 w cc o B v0 v1 v2 w':=
 ⟨d',u0,u1,u2,a,c',f,g,hs,h,(hc.mono hN).below (by have:=c.base;exact⟨hs.os,hs.tape,hs.output,hs.size,λk hk=>hs.block k om om λe=>by have:=(c.NM e).1;omega⟩) hb,j,hz⟩
def E5{a:Act}{c:Y}{P:Dc×Cs}(f:P=(AP d',c'))(g:Gr b w c)(hs:CN cc o v0 v1 v2 c u0 u1 u2 w')(h:AO c cc o B v0 v1 v2 d)(i:AO w' cc o B u0 u1 u2 d')(hc:Cq K c' b M c)(hb:b<B)(j:B<=cc)(k:M9 d')(hz:d'.n<=d.n+1/\d'.m<=d.m+1/\d'.x<=d.x+9:=by first|omega|(dsimp only;omega))(hN:M<=n0:=by first|omega)(l:a.defers=[]:=by rfl):bodyPost prog f78 (λe w'=>(∃v,e=.returned v)/\xH K P d b n0 w cc o B v0 v1 v2 w') .normal a w':=
 Aan (v:=.tuple #[]) (by simp[results,results78,go_sem]) l ⟨⟨_,rfl⟩,Ts f g hs h i hc hb j k hz hN⟩
end
def nZ{v}{k}(h:He K c4=(Bl k,c5)):Gv K v i (0,c4) (AP d)=(AP {d with L:=AW d.L i ⟨k,(d.L i).val,(d.L i).turn⟩},c5):=by
 unfold Gv;rw[DD rfl,h];exact congrArg (·,c5)<|SE (d:=d) (GX d.L i ⟨k,(d.L i).val,(d.L i).turn⟩).symm _ _ _ _ _ _ _ _
def oA{v}{k}(h:He K c4=(Bl k,c5)):Gv K v i (1,c4) (AP d)=(AP {d with L:=AW d.L i ⟨(d.L i).key,k,(d.L i).turn⟩},c5):=by
 unfold Gv;rw[C3 (by show¬(1:Int)=0;decide),DD rfl,h];exact congrArg (·,c5)<|SE (d:=d) (GX d.L i ⟨(d.L i).key,k,(d.L i).turn⟩).symm _ _ _ _ _ _ _ _
def oB{v}:Gv K v i (2,c4) (AP d)=(AP {d with L:=AW d.L i ⟨(d.L i).key,(d.L i).val,v⟩},c4):=by
 unfold Gv;rw[C3 (by show¬(2:Int)=0;decide),C3 (by show¬(2:Int)=1;decide),DD rfl];exact congrArg (·,c4)<|SE (d:=d) (GX d.L i ⟨(d.L i).key,(d.L i).val,v⟩).symm _ _ _ _ _ _ _ _
def oC{v}:Gv K v i (3,c4) (AP d)=(AP {d with n:=d.n-1},c4):=by
 unfold Gv;rw[C3 (by show¬(3:Int)=0;decide),C3 (by show¬(3:Int)=1;decide),C3 (by show¬(3:Int)=2;decide)];rfl
def TF(h:M9 d){i}{p}(hk:Wf p.key)(a:Wf p.val):M9 {d with L:=AW d.L i p}:=λj hj=>by
 show Wf (AW d.L i p j).key/\Wf (AW d.L i p j).val;unfold AW;split
 .exact⟨hk,a⟩
 exact h j hj
def AO.yG(h:AO w c o B (S9 g d.n cp) v1 v2 d){i}(hi:i<d.n)(k):
  AO (Gz g w (i*11+0)<|vL k) c o B (S9 g d.n cp) v1 v2 {d with L:=AW d.L i ⟨k,(d.L i).val,(d.L i).turn⟩}/\CN c o (S9 g d.n cp) v1 v2 w (S9 g d.n cp) v1 v2 (Gz g w (i*11+0)<|vL k):=
 h.gZ hi 0 (vL k) ⟨k,(d.L i).val,(d.L i).turn⟩ oq (λj=>by
  match j with
  |0|1|2|3|4|5|6|7|8|9|10=>rfl
  |n+11=>rw[C3 oq,Aab (by simp[DA]),Aab (by simp[DA])])
def BU.xJ{L}(h:BU w B (S9 g m cp) m L)(c:0<m):BU w B (S9 g (m-1) cp) (m-1) L:=by
 obtain⟨hl,⟨b,d⟩|⟨g',cap,cur,b,hb,a,h1,h2,h3,h4⟩⟩:=h
 .cases b
 cases b;obtain⟨q,rfl⟩:∃q,m=q+1:=⟨m-1,om⟩;refine⟨by rw[C5],.inr ⟨g,cp,cur,rfl,hb,a,om,h2,h3,?_⟩⟩;rw[Nat.add_sub_cancel];have e:cur.toList.take (q*11)=(cur.toList.take<|(q+1)*11).take (q*11):=by rw[List.take_take];congr 1;omega
 rw[e,h4,pL,List.take_append_of_le_length (by rw[C5];exact Be _),List.take_of_length_le (by rw[C5];exact Be _)]
def oD{c}(b Z)(w){cc o B}{v0 v1 v2}{d}(hC:Cq K c b Z w)(hM:AO w cc o B v0 v1 v2 d)(hS:Small d)(hr:wU d)(hw:M9 d)(hb:b<B)(H:B<=cc)(hN:Z<=1099511000000):
  C9 78 #[Q9 b,.pointer (some<|G cc o)] w λe w'=>(∃v,e=.returned v)/\xH K (JJ K c<|AP d) d b (Z+40) w cc o B v0 v1 v2 w':=by
 rcases O hC,O hM,O hw with⟨HC,HM,HW⟩;clear hC hM hw;go_enter func78,ntmps78;go_wp2_with fail;refine(AF b Z 8 _ HC om om om).mono ?_;rintro e w1 ⟨v,c1,rfl,df,dh,b7,b8,bg⟩;have di:IntKind.i64.wrap (v-2)=v-2:=oj;rcases O (HM.gr bg.gr hb H),O b8,O bg.gr,O b7 with⟨b9,ca,cb,cd⟩;clear b8 bg b7 HM HC;go_wp2_with fail;refine(AF b (Z+2) 9 _ ca om om om).mono ?_;rintro e w2 ⟨x,c2,rfl,cv,dj,cg,ch,bh⟩;have bj:=b9.gr bh.gr hb H;rcases O bj,O ch,O (cb.trans bh.gr) with⟨f,R,S⟩;have I:Hid<|JJ K c (AP d)=Fo K (v-2) x c2 (AP d):=O (by simp only[JJ,z cd,cg]);have aM:=bj.lt;clear bj ch bh cg b9 ca cb cd;rcases O f.drew,O R.drew,O S.drew with⟨af,ag,ah⟩;by_cases x2:x<=2
 .obtain⟨_,_,_⟩:=hr;rcases f.c3,f.c4,f.c5,f.fz with⟨q3,q4,q5,fz⟩;rcases(by omega:x=0\/x=1\/x=2)with rfl|rfl|rfl;all_goals
   go_wp2
   go_region_law (first
    |(go_simp;go_at_call 15;refine(AF b (Z+2+2) _ _ ag om om om).mono ?_;rintro e w4 ⟨U,c4,rfl,ai,aj,u,A,s⟩;have dk:IntKind.i64.wrap (U-1)=U-1:=oj;have dm:IntKind.i64.wrap (U-3)=U-3:=oj;have dn:IntKind.i64.wrap (d.used+(U-1))=d.used+(U-1):=oj;have dp:IntKind.i64.wrap (d.live+(U-1))=d.live+(U-1):=oj;have dq:IntKind.i64.wrap (d.turns+(U-3))=d.turns+(U-3):=oj;have j:=af.gr s.gr hb H;have e3:=j.c3;have e4:=j.c4;have e5:=j.c5;have e1:=j.fz;have l4:=j.lt;have k:=O j;have D:=O A;have E:=O (ah.trans s.gr);have M:=O u;clear j A s u))
   all_goals
    go_wp2;first
     |exact E5 (I.trans<|by simp[Fo,z M];rfl) E (Cn (q:=o+3) _ om λ_ h=>.inl h) k (k.Kg _) D hb H HW
     |exact E5 (I.trans<|by simp[Fo,z M];rfl) E (Cn (q:=o+4) _ om λ_ h=>.inl h) k (k.GQ _) D hb H HW
     |exact E5 (I.trans<|by simp[Fo,z M];rfl) E (Cn (q:=o+5) _ om λ_ h=>.inl h) k (k.LX _) D hb H HW
 have x0:¬x=0:=om;have x1:¬x=1:=om;replace x2:¬x=2:=om;have b0:(x==0)=false:=by simp[x0]
 have b1:(x==1)=false:=by simp[x1]
 have b2:(x==2)=false:=by simp[x2]
 by_cases x3:x=3
 .subst x3;by_cases hm:0<d.m
  .obtain⟨g,cp,rfl,bk,bm,bn,l,r⟩:=f.ints.form hm;rcases hS.m,f.c1,f.fz (o+1) with⟨bp,q0,fz⟩;have ln:decide ((0:Int)<(d.m:Int))=true:=ot;clear l r;go_wp2
   go_region_law (first
    |(go_simp;go_at_call 15;refine(AF b (Z+2+2) (d.m:Int) _ ag om om om).mono ?_;rintro e w4 ⟨U,c4,rfl,ai,aj,u,A,s⟩;obtain⟨p,rfl⟩:∃p:Nat,U=p:=⟨U.toNat,om⟩;have t:p<d.m:=om;have j:=af.gr s.gr hb H;obtain⟨g',cp',F,_,l5,_,l,r⟩:=j.ints.form hm;cases F;have e0:=j.c1;have e1:=l p t;have e2:=r p;have l4:=j.lt;have k:=O j;have D:=O A;have E:=O (ah.trans s.gr);have M:=O u;clear j A s u l r))
   all_goals
    go_wp2;have T:g≠cc:=λe=>k.nc<|.inr<|.inl<|qm e;exact E5 (I.trans<|by simp[Fo,AP,hm,z M]) E (DJ _ (.inr<|.inl rfl) T) k (k.Xp t _) D hb H HW
  have av:d.m=0:=om;have q0:=f.c1;have fz:=f.fz<|o+1;have ln:decide ((0:Int)<(d.m:Int))=false:=ot;obtain⟨ia,ic,e1⟩:=Au f.ints;subst e1;have bq:B9 w2<|w2.alloc<|.cells #[J (v-2)] 3:=n9;have a6:=f.below bq;rcases a6.c1,a6.fz<|o+1,O a6,O bq with⟨q3,dr,a7,dt⟩;clear a6 bq;go_wp2;have aq:Bt (w2.alloc<|.cells #[J (v-2)] 3) B (S9 w2.heap.size 1 1) 1 λ_=>v-2:=by
   refine⟨rfl,.inr ⟨w2.heap.size,1,#[J (v-2)],rfl,f.base,DO _ _,om,oo,rfl,rfl⟩⟩
  have P:∀q,(Value.slice (some<|G w2.heap.size 0) 1 1).ownBlock=some q->q=w2.heap.size:=λq h=>by simpa[Value.ownBlock]using h.symm
  refine Aan (v:=.tuple #[]) (by simp[results,results78,go_sem]) rfl ⟨⟨_,rfl⟩,?_⟩;rw[<-World.setCell_alloc_past _ _ _ _ aM];exact Ts (I.trans<|by simp[Fo,AP,av]) S (Tv _ _ aM (q:=o+1) om λq h=>h.elim (λh=>.inl<|.inl h) λh=>h.elim (λh=>.inr<|by rw[P q h];exact Be _) λh=>.inl<|.inr<|.inr h) f (a7.Oi aq (λh=>oT<|P _ h) λq hq e=>by have:=P _ hq;have:=(f.NM<|.inr<|.inr e).2;omega) R hb H HW
 have b3:(x==3)=false:=by simp[x3]
 by_cases x4:x=4
 .subst x4;by_cases hm:0<d.x
  .obtain⟨g,cp,rfl,bk,bm,bn,l,r⟩:=f.index.form hm;rcases hS.x,f.c2,f.fz (o+2) with⟨bp,q0,fz⟩;have ln:decide ((0:Int)<(d.x:Int))=true:=ot;clear l r;go_wp2
   go_region_law (first
    |(go_simp;go_at_call 15;refine(AF b (Z+2+2) (d.x:Int) _ ag om om om).mono ?_;rintro e w4 ⟨U,c4,rfl,ai,aj,u,A,s⟩;obtain⟨p,rfl⟩:∃p:Nat,U=p:=⟨U.toNat,om⟩;have t:p<d.x:=om;have j:=af.gr s.gr hb H;obtain⟨g',cp',F,_,l5,_,l,r⟩:=j.index.form hm;cases F;have e0:=j.c2;have e1:=l p t;have e2:=r p;have l4:=j.lt;have k:=O j;have D:=O A;have E:=O (ah.trans s.gr);have M:=O u;clear j A s u l r))
   all_goals
    go_wp2;have T:g≠cc:=λe=>k.nc<|.inr<|.inr<|qm e;exact E5 (I.trans<|by simp[Fo,AP,hm,z M]) E (DJ _ (.inr<|.inr rfl) T) k (k.PR t _) D hb H HW
  have av:d.x=0:=om;have q0:=f.c2;have fz:=f.fz<|o+2;have ln:decide ((0:Int)<(d.x:Int))=false:=ot;obtain⟨xa,xc,e1⟩:=Au f.index;subst e1;go_wp2_with fail;refine(AF b (Z+2+2) 9 _ R om om om).mono ?_;rintro e w4 ⟨U,c4,rfl,ai,aj,u,A,s⟩;obtain⟨p,rfl⟩:∃p:Nat,U=p:=⟨U.toNat,om⟩;have mk:=Gi p om;have j:=f.gr s.gr hb H;have cj:B9 w4<|w4.alloc<|.cells (madeCells #[Value.int .i64 0] p) 3:=n9;rcases j.c2,j.fz<|o+2,j.lt,O j,O<|j.below cj,O A,O<|S.trans s.gr,O u with⟨q4,du,l4,k,Q,D,E,M⟩;clear j A s u cj q0 fz;go_wp2;have aq:=Bt.made w4 B p k.base om;have P:∀q,(Value.slice (some<|G w4.heap.size 0) p p).ownBlock=some q->q=w4.heap.size:=λq h=>by simpa[Value.ownBlock]using h.symm
  refine Aan (v:=.tuple #[]) (by simp[results,results78,go_sem]) rfl ⟨⟨_,rfl⟩,?_⟩;rw[<-World.setCell_alloc_past _ _ _ _ l4];exact Ts (I.trans<|by simp[Fo,AP,av,z M]) E (Tv _ _ l4 (q:=o+2) om λq h=>h.elim (λh=>.inl<|.inl h) λh=>h.elim (λh=>.inl<|.inr<|.inl h) λh=>.inr<|by rw[P q h];exact Be _) k (Q.setIndex aq (λh=>oT<|P _ h) λq hq e=>by have:=P _ e;have:=(k.NM<|.inr<|.inl hq).2;omega) D hb H HW
 have b4:(x==4)=false:=by simp[x4]
 by_cases x5:x=5
 .subst x5;by_cases hm:0<d.x
  .obtain⟨g,cp,rfl,bk,bm,bn,l,r⟩:=f.index.form hm;rcases hS.x,f.c2,f.fz (o+2) with⟨bp,q0,fz⟩;have ln:decide ((0:Int)<(d.x:Int))=true:=ot;clear l r;go_wp2_with fail;refine(AF b (Z+2+2) (d.x:Int) _ R om om om).mono ?_;rintro e w4 ⟨U,c4,rfl,ai,aj,u,A,s⟩;obtain⟨p,rfl⟩:∃p:Nat,U=p:=⟨U.toNat,om⟩;have t:p<d.x:=om;obtain⟨V,hy⟩:∃V:Nat,(p+1)%d.x=V:=⟨_,rfl⟩;have br:V<d.x:=by rw[<-hy];exact Tn _ hm
   have dv:IntKind.i64.wrap ((p:Int)+1)=(p:Int)+1:=oj;have dw:((p:Int)+1).tmod (d.x:Int)=(V:Int):=by rw[<-hy];simp[Int.tmod_eq_emod_of_nonneg (show(0:Int)<=(p:Int)+1 by omega)]
   have j:=f.gr s.gr hb H;obtain⟨g',cp',F,_,l5,_,l,r⟩:=j.index.form hm;cases F;have T:g≠cc:=λe=>j.nc<|.inr<|.inr<|qm e;rcases j.c2,l p t,l V br,r p,r V,j.lt with⟨e0,e1,e2,f1,f2,l4⟩;have cv:((d.x:Int)==0)=false:=ot;rcases O j,O A,O<|S.trans s.gr,O u with⟨k,D,E,M⟩;clear j A s u l r q0 fz;go_wp2
   go_region
   obtain⟨W5,a8⟩:=qa<|(w4.setCell (G g p)<|J<|d.X V).drew;rw[<-a8];have C:AO W5 cc o B v0 v1 (S9 g d.x cp) {d with X:=AW d.X p (d.X V)}:=by rw[a8];exact(k.PR t<|d.X V).drew
   have bb:CN cc o v0 v1 (S9 g d.x cp) w4 v0 v1 (S9 g d.x cp) W5:=by rw[a8];exact(DJ _ (.inr<|.inr rfl) T).trans (CN.Am ((BE _ _).drew)<|by simpa using l4)
   obtain⟨g',cp',F,_,l6,_,l,r⟩:=C.index.form hm;cases F;rcases C.c2,l V br,r V,C.lt,O C,O bb with⟨e0,e2,f2,l7,Q,cw⟩;clear C bb l r a8 e1 f1 l4 l5;go_wp2
   go_region
   go_wp2;exact E5 (d':={d with X:=AW (AW d.X p (d.X V)) V (d.X p)}) (I.trans<|by simp[Fo,AP,hm,z M,pY,hy]) E (cw.trans<|(DJ _ (.inr<|.inr rfl) T).trans<|CN.Am ((BE _ _).drew)<|by simpa using l7) k (AO.PR (d:={d with X:=AW d.X p (d.X V)}) Q br<|d.X p).drew D hb H HW
  have av:d.x=0:=om;have q0:=f.c2;have fz:=f.fz<|o+2;have ln:decide ((0:Int)<(d.x:Int))=false:=ot;obtain⟨xa,xc,e1⟩:=Au f.index;subst e1;go_wp2;exact E5 (I.trans<|by simp[Fo,AP,av]) S (CN.refl _ _ _ _ _ _) f f R hb H HW
 have b5:(x==5)=false:=by simp[x5]
 have ck:Fo K (v-2) x c2 (AP d)=(if d.n=0 then({AP d with n:=1,L:=λ_=>⟨Cd,Cd,v-2⟩},c2)else Gv K (v-2) (Ab K d.n c2).1.toNat (Ab K 4 (Ab K d.n c2).2) (AP d)):=by
  simp only[Fo,C3 x0,C3 x1,C3 x2,C3 x3,C3 x4,C3 x5];rfl
 have bt:=O<|I.trans ck;clear ck I;by_cases hn:d.n=0
 .obtain⟨la,lc,e1⟩:=Au f.log;subst e1;have q0:=f.c0;have fz:=f.fz o;have ln:((d.n:Int)==0)=true:=by simp[hn]
  have dx:=hS.n;have cx:=O hn;clear hn;rcases Ok EX,O f.log,f.base with⟨⟨i0,hi,ai,aj,cy⟩,cz,dy⟩;have cD:Hid<|(Value.slice la d.n lc).ownBlock≠some cc:=O λe=>f.nc<|.inl e;have HG:Hid (∀g3 ar w3,w3.ownsRow B 168 11 (S9 g3 (d.n+1) ar) (d.n+1) (pL d.L d.n++DA ⟨Cd,Cd,v-2⟩)->w2.grownBy w3 (Value.slice la d.n lc).ownBlock->((Value.slice la d.n lc).ownBlock=some g3\/w2.heap.size<=g3)->
    AO (w3.setCell (G cc o) (S9 g3 (d.n+1) ar)) cc o B (S9 g3 (d.n+1) ar) v1 v2 {d with n:=d.n+1,L:=AW d.L d.n ⟨Cd,Cd,v-2⟩}/\CN cc o (.slice la d.n lc) v1 v2 w2 (S9 g3 (d.n+1) ar) v1 v2 (w3.setCell (G cc o) (S9 g3 (d.n+1) ar))):=O (λg3 ar w3 h1 h2 h3=>by
   rw[YG]at h1;exact f.pK h2 h1 (λb e=>by rw[<-ownB e];exact h3))
  go_wp2_with (first|(at_builtin;refine ON _ rfl _ _ 66 rfl B 168 i0 PZ 11 104 underlying66 hi ai aj cy rfl oo (.slice la d.n lc) d.n (pL d.L d.n) rfl (cz.alloc _) (y w2 0) 1 1 (DA ⟨Cd,Cd,v-2⟩) rfl rfl (Is<|DO _ _) (EZ _) oo od om ot _ rfl ?_;intro g4 cN w5 ad az ae c8;have bc:=Nk az;have cl:=z HG g4 cN w5 ad bc<|ae.imp id (λe=>by rw[e];simp);have e4:w5.heap[cc]?=w2.heap[cc]?:=bc.block cc aM λe=>cD e.symm;have dz:=(As (a:=G cc o) e4).trans q0;have f4:=(GW (a:=G cc o) e4).trans fz;have cm:=O cl;have c9:cc<w5.heap.size:=A0 aM bc.size;clear ad az bc cl e4 ae)|go_in)
  have hn:=z cx;have bd:=cm.1.of_same (e:={d with n:=1,L:=λ_=>⟨Cd,Cd,v-2⟩}) (by show 1=d.n+1;omega) (λi hi=>by
   have:i=d.n:=by have:i<d.n+1:=hi;omega
   rw[this];exact(Ax _ _ _).symm) rfl (λ_ _=>rfl) rfl (λ_ _=>rfl) rfl rfl rfl
  refine Fs (v:=.tuple #[]) (by simp[results,results78,go_sem]) rfl ⟨⟨_,rfl⟩,Ts (bt.trans<|(DD hn).trans<|by simp[AP,Gy,Df]) S cm.2 f bd R hb H λi hi=>⟨Qk Cc,Qk Cc⟩⟩
 have aw:0<d.n:=om;obtain⟨g,cp,rfl,bk,bm,bn,l,r⟩:=f.log.form aw;have bp:=hS.n;have q0:=f.c0;have ln:((d.n:Int)==0)=false:=ot;clear l r;go_wp2_with fail;refine(AF b (Z+2+2) (d.n:Int) _ R om om om).mono ?_;rintro e w3 ⟨U,c3,rfl,ai,aj,cn,cq,bu⟩;obtain⟨p,rfl⟩:∃p:Nat,U=p:=⟨U.toNat,om⟩;have t:p<d.n:=om;rcases O (f.gr bu.gr hb H),O cq,O<|S.trans bu.gr,O cn with⟨a7,cr,ct,cu⟩;clear cq bu cn q0 f R S;go_wp2_with fail;refine(AF b (Z+6) 4 _ cr om om om).mono ?_;rintro e w4 ⟨V,c4,rfl,dC,dU,u,A,s⟩;have j:=a7.gr s.gr hb H;rcases j.lt,j.c0,O j,O A,O (ct.trans s.gr) with⟨l4,e0,k,D,E⟩;have bf:Hid<|JJ K c (AP d)=Gv K (v-2) p (V,c4) (AP d):=O<|bt.trans<|(C3 hn).trans (by simp[z cu,u]);clear j A s u a7 cr ct bt cu;have T:g≠cc:=λe=>k.nc<|.inl<|qm e;by_cases y0:V=0
 .subst y0;rcases O k.drew,O D.drew,O E.drew with⟨af,ag,ah⟩;go_wp2
  go_region_law (first
   |(go_simp;go_at_call 42;refine(T8 b (Z+8) _ ag om).mono ?_;rintro e w5 ⟨kind,num,Ah,str,ref,c5,rfl,bw,hf,ax,ay,ak⟩;have C:=af.gr ak hb H;obtain⟨g',cp',F,_,l6,_,l,r⟩:=C.log.form aw;cases F;obtain⟨p0,p1,p2,p3,p4,p5,p6,p7,p8,p9,sR⟩:=l p t;have e5:=C.c0;have l5:=C.lt;have Q:=O C;have bx:=O ay;have bz:=O (ah.trans ak);have b6:=O ax;clear C ay ak ax l))
  all_goals
   go_wp2;have ao:=AO.yG Q t ⟨kind,num,Ah,str,ref⟩;have au:=z HW p t;exact E5 (d':={d with L:=AW d.L p ⟨⟨kind,num,Ah,str,ref⟩,(d.L p).val,(d.L p).turn⟩}) (bf.trans<|nZ b6) bz ao.2 Q ao.1 bx hb H<|TF HW (Qk ⟨bw,hf⟩) au.2
 have da:(V==0)=false:=by simp[y0]
 by_cases y1:V=1
 .subst y1;rcases O k.drew,O D.drew,O E.drew with⟨af,ag,ah⟩;go_wp2
  go_region_law (first
   |(go_simp;go_at_call 42;refine(T8 b (Z+8) _ ag om).mono ?_;rintro e w5 ⟨kind,num,Ah,str,ref,c5,rfl,bw,hf,ax,ay,ak⟩;have C:=af.gr ak hb H;obtain⟨g',cp',F,_,l6,_,l,r⟩:=C.log.form aw;cases F;obtain⟨p0,p1,p2,p3,p4,p5,p6,p7,p8,p9,sR⟩:=l p t;have e5:=C.c0;have l5:=C.lt;have Q:=O C;have bx:=O ay;have bz:=O (ah.trans ak);have b6:=O ax;clear C ay ak ax l))
  all_goals
   go_wp2;have ao:=AO.wI Q t ⟨kind,num,Ah,str,ref⟩;have au:=z HW p t;exact E5 (d':={d with L:=AW d.L p ⟨(d.L p).key,⟨kind,num,Ah,str,ref⟩,(d.L p).turn⟩}) (bf.trans<|oA b6) bz ao.2 Q ao.1 bx hb H<|TF HW au.1<|Qk ⟨bw,hf⟩
 have dc:(V==1)=false:=by simp[y1]
 by_cases y2:V=2
 .subst y2;obtain⟨g',cp',F,_,l6,_,l,r⟩:=k.log.form aw;cases F;obtain⟨p0,p1,p2,p3,p4,p5,p6,p7,p8,p9,sR⟩:=l p t;have f10:=r<|p*11+10;clear l r;go_wp2;have ao:=AO.sU k t 10 om (J<|v-2) ⟨(d.L p).key,(d.L p).val,v-2⟩ rfl;have au:=z HW p t;exact E5 (d':={d with L:=AW d.L p ⟨(d.L p).key,(d.L p).val,v-2⟩}) (bf.trans oB) E (DJ _ (.inl rfl) T) k ao D hb H<|TF HW au.1 au.2
 have dd:(V==2)=false:=by simp[y2]
 obtain rfl:V=3:=om;have ea:IntKind.i64.wrap ((d.n:Int)-1)=(d.n:Int)-1:=oj;obtain⟨q,hq⟩:∃q:Nat,d.n=q+1:=⟨d.n-1,om⟩;have eb:(d.n:Int)-1=(q:Int):=om;have fo:=k.fz o;have hcut:=k.log.xJ aw;rw[show d.n-1=q by omega]at hcut;have bd:=k.iP hcut λe=>k.nc<|.inl e;have c6:=O bd;clear bd hcut;go_wp2
 go_region
 go_wp2;have bb:CN cc o (S9 g d.n cp) v1 v2 w4 (S9 g q cp) v1 v2<|w4.setCell (G cc o)<|S9 g q cp:=Cn (q:=o) _ om λb e=>.inl e;have c7:=bb.trans<|CN.Am ((BE (w4.setCell (G cc o)<|S9 g q cp).heap.size _).drew) (by simpa using l4);exact E5 (d':={d with n:=q}) (u0:=S9 g q cp) (u1:=v1) (u2:=v2) (bf.trans<|oC.trans<|by rw[show d.n-1=q by omega]) E c7 k c6.drew D hb H λi hi=>HW i (by have:i<q:=hi;omega)
def NP w t ty e i(b:P.underlying t=some (.slice e))(hi:P.info? e=some i)a c:
  (Builtin.append_ #[t,t] ty #[N9,.slice a 0 c]).run P w=.ok N9 w:=by
 cases a<;>simp[Builtin.append_,run_underlying b,sizeOf,typeInfo,hi,Builtin.lenOf,Builtin.firstCells,loadCells,loadCellsFrom]
def Wz(w:Y):w.grownBy w none:=⟨rfl,rfl,rfl,Be _,λ_ _ _=>rfl⟩
def NN(w)(t ty)(base)(e)(i)(Z)(size bytes)(p:P.underlying t=some (.slice e))(hi:P.info? e=some i)(hz:i.zero=some Z)
  (b:i.size=size) (k:i.bytes=bytes) (l:Z.cells.size=size) (n:0<size)
  (o) (m c) news (hl:news.length=m*size) (d:m=0\/∃h,o=some h/\∀j u,news[j]?=some u->w.cell? (h.add j)=some u) (h1:∀u∈news,u.oneCell'=true)
  (s:m<=maxLen) (a:m*bytes<=140737488355328) (f:base<=w.heap.size) H (v:w.heap.size=H):
  ∃a' cap w',(Builtin.append_ #[t,t] ty #[N9,.slice o m c]).run P w=.ok (.slice a' m cap) w'/\
   w'.ownsRow base e size (.slice a' m cap) m news/\w.grownBy w' none/\(∀q,(Value.slice a' m cap).ownBlock=some q->q=H):=by
 rcases Aas m with h0|h0
 .subst h0;have hn:=List.eq_nil_of_length_eq_zero (by rw[hl];simp);subst hn;exact⟨none,0,w,NP w t ty e i p hi o c,IF _ _ _ _,Wz w,λq e=>by cases e⟩
 obtain⟨h,rfl,hn⟩:=d.resolve_left om;obtain⟨g,cap,w',r,h2,h3,h4,h5⟩:=run_append_lies w t ty base e i Z size bytes p hi hz b k l n N9 0 [] (IF _ _ _ _) h m c news hl hn h1 h0 om (by simpa using a) f H v;simp only[X9]at r h2;exact⟨some<|G g 0,cap,w',r,h2,h3,λq e=>by cases e;exact h4.resolve_left<|by simp[Value.ownBlock]⟩
def JR(w){o:Oper}{a}{K}{Q}(s x)(t)
  (A:o.op=.call {callee:=.builtin .append,args:=#[s,x],argTypes:=#[t,t]})
  (base) e i Z (size bytes) (B:P.underlying t=some (.slice e)) (hi:P.info? e=some i) (hz:i.zero=some Z)
  (d:i.size=size) (k:i.bytes=bytes) (l:Z.cells.size=size) (n:0<size) (hs:a.eval s=N9)
  (p) (m c) news (C:a.eval x=.slice p m c) (hl:news.length=m*size) (f:m=0\/∃v,p=some v/\∀j u,news[j]?=some u->w.cell? (v.add j)=some u) (h1:∀u∈news,u.oneCell'=true)
  (r:m<=maxLen) (b:m*bytes<=140737488355328) (g:base<=w.heap.size) H (D:w.heap.size=H)
  (h:∀a' cap w',w'.ownsRow base e size (.slice a' m cap) m news->w.grownBy w' none->(∀q,(Value.slice a' m cap).ownBlock=some q->q=H)->K (a.put o.dst<|.slice a' m cap) w'):o.wp P a w K Q:=by
 obtain⟨a',cap,w',E,h2,h3,h4⟩:=NN w t o.type base e i Z size bytes B hi hz d k l n p m c news hl f h1 r b g H D;simp only[Oper.wp,execOp,A,resolve,invoke,builtin,AaM,Sem.run_pure,Result.andThen_ok,List.map_toArray,List.map_cons,List.map_nil,hs,C,E];exact h a' cap w' h2 h3 h4
def CV{ops}{rest}{o}{a}{Q}(k:o.guard=none)(s x)(t)
  (B:o.op=.call {callee:=.builtin .append,args:=#[s,x],argTypes:=#[t,t]})
  (base) e i Z (size bytes) (C:P.underlying t=some (.slice e)) (hi:P.info? e=some i) (hz:i.zero=some Z)
  (d:i.size=size) (l:i.bytes=bytes) (n:Z.cells.size=size) (p:0<size) (hs:a.eval s=N9)
  (r) (m c) news (D:a.eval x=.slice r m c) (hl:news.length=m*size) (f:m=0\/∃A,r=some A/\∀j u,news[j]?=some u->w.cell? (A.add j)=some u) (h1:∀u∈news,u.oneCell'=true)
  (v:m<=maxLen) (b:m*bytes<=140737488355328) (g:base<=w.heap.size) H (E:w.heap.size=H)
  (h:∀a' cap w',w'.ownsRow base e size (.slice a' m cap) m news->w.grownBy w' none->(∀q,(Value.slice a' m cap).ownBlock=some q->q=H)->wpList P ops Q rest (a.put o.dst<|.slice a' m cap) w'):wpList P ops Q (o::rest) a w:=
 wpList_plain k λ_ hK=>JR w s x t B base e i Z size bytes C hi hz d l n p hs r m c news D hl f h1 v b g H E λa' cap w' h2 h3 h4=>hK _ _<|h a' cap w' h2 h3 h4
def Hv(w){ops}{o}{a}{K}{Q}{E}(k:o.guard=none)(s x)(t)
  (B:o.op=.call {callee:=.builtin .append,args:=#[s,x],argTypes:=#[t,t]})
  (base) e i Z (size bytes) (C:P.underlying t=some (.slice e)) (hi:P.info? e=some i) (hz:i.zero=some Z)
  (d:i.size=size) (l:i.bytes=bytes) (n:Z.cells.size=size) (p:0<size) (hs:a.eval s=N9)
  (r) (m c) news (D:a.eval x=.slice r m c) (hl:news.length=m*size) (f:m=0\/∃A,r=some A/\∀j u,news[j]?=some u->w.cell? (A.add j)=some u) (h1:∀u∈news,u.oneCell'=true)
  (v:m<=maxLen) (b:m*bytes<=140737488355328) (g:base<=w.heap.size) H (F:w.heap.size=H)
  (h:∀a' cap w',w'.ownsRow base e size (.slice a' m cap) m news->w.grownBy w' none->(∀q,(Value.slice a' m cap).ownBlock=some q->q=H)->K (a.put o.dst<|.slice a' m cap) w'):
  if Region.wanted o (yielded ops a.tmps)=true then Oper.wp P o a w K Q else E:=by
 have I:Region.wanted o (yielded ops a.tmps)=true:=by simp[Region.wanted,k]
 rw[DD I];exact JR w s x t B base e i Z size bytes C hi hz d l n p hs r m c news D hl f h1 v b g H F h
end Go.Proofs.YtkpfgniijbgkoaaGreatDoor
