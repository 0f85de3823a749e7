import Derived.Test.YtkpfgniijbgkoaaGreatDoorSSAE
set_option linter.all false
set_option maxHeartbeats 40000000
set_option maxRecDepth 100000
namespace Go.Proofs.YtkpfgniijbgkoaaGreatDoor
open Go.Proofs.Tryz
open Go.RowKit
attribute [local go_sem] AB Aw CU
variable {L T:List Ac}{k:Vl}{K:Kd}{n j b m Z lo hi B o cp vb:Nat}{c c0 c':Cs}{s:AE}{a:Act}{w w' W W':Y}{t:Tb}{g:Nat->Value}{f:Nat->Int}{v vF vT vS:V9}{Q:Exit->Act->World->Prop}{S:World->Prop}{l rest:List Oper}{P:Program}{md:Region.Mode}{ops:Array Oper}{F:Nat->Br}{hf:Vl->Nat}{d:Dc}
abbrev uH:Value:=.agg #[J 0,J 0,J 0,J 0,J 0,J 0,F9 0,E9,J 0,J 0,J 0,F9 0,E9,J 0]
def fA:(prog.info? 34).map (λi=>(i.zero,i.size,i.bytes))=some (some uH,14,128):=ou
def TZ:List Ac->List Value
 |[]=>[]
 |a::L=>(Bn a).toList++TZ L
theorem OJ:∀L:List Ac,(TZ L).length=L.length*14
 |[]=>rfl
 |a::L=>by show((Bn a).toList++TZ L).length=_;rw[OR,OJ L];simp;omega
theorem OI:∀(L M:List Ac),TZ (L++M)=TZ L++TZ M
 |[],M=>rfl
 |a::L,M=>by show _++TZ (L++M)=_;rw[OI L M];simp[TZ]
theorem XY:∀L:List Ac,∀u∈TZ L,u.oneCell'=true
 |[],u,h=>by cases h
 |a::L,u,h=>(AaG.1<|show u∈(Bn a).toList++TZ L from h).elim (Sq a u)<|XY L u
def qJ:Ac:=⟨1,0,0,0,Cd,Cd⟩
def I1(K:Kd):Nat->Cs->List Ac×Cs
 |0,c=>([],c)
 |j+1,c=>(⟨7,0,0,0,⟨4,0,0,(Hy K c).1,0⟩,Cd⟩::(I1 K j (Hy K c).2).1,(I1 K j (Hy K c).2).2)
def ZJ(K:Kd)(a:Int)(p:Vl×Cs):Vl×Cs:=
 if a=0 then(⟨4,0,0,(Hy K p.2).1,0⟩,(Hy K p.2).2)else if a=1 then(⟨2,1+(Ab K 12 p.2).1,0,⟨#[]⟩,0⟩,(Ab K 12 p.2).2)else p
def kB(K:Kd)(a:Int)(c:Cs):Bool×Cs:=if a=0 then(decide (0<(Ab K 6 c).1),(Ab K 6 c).2)else(false,c)
def tQ(K:Kd)(a:Int)(n:Int)(p:Vl×Cs):Vl×Cs:=(if(kB K a p.2).1=true then⟨2,n,0,⟨#[]⟩,0⟩else p.1,(kB K a p.2).2)
def Qw(K:Kd)(a n t s:Int)(k:Vl)(x:Int×Cs):Ac×Cs:=
 if x.1<=4 then(⟨2,t,0,0,k,(tQ K a n<|XG K x.2).1⟩,(tQ K a n<|XG K x.2).2)
 else if x.1<=6 then(⟨3,t,0,0,k,Cd⟩,x.2)
 else if x.1=7 then(⟨4,t,0,(Ab K 14 x.2).1,Cd,Cd⟩,(Ab K 14 x.2).2)
 else if x.1=8 then(⟨5+(Ab K 2 x.2).1,t,0,0,Cd,Cd⟩,(Ab K 2 x.2).2)
 else if x.1<=11 then(⟨8,t,s,0,Cd,Cd⟩,x.2)
 else if x.1=12 then(⟨9,t,s,0,Cd,(XG K x.2).1⟩,(XG K x.2).2)
 else Z3 K x.2
def RW(K:Kd)(tb st a n:Int)(c:Cs):Ac×Cs:=
 Qw K a n (Ab K (1+tb) c).1 (Ab K (1+st) (Ab K (1+tb) c).2).1 (ZJ K a<|EO K (Ab K (1+st) (Ab K (1+tb) c).2).2).1
  (Ab K 14 (ZJ K a<|EO K (Ab K (1+st) (Ab K (1+tb) c).2).2).2)
def Jr(K:Kd)(tb st a:Int):Nat->Cs->List Ac×Cs
 |0,c=>([],c)
 |n+1,c=>((RW K tb st a (n+1:Nat) c).1::(Jr K tb st a n (RW K tb st a (n+1:Nat) c).2).1,(Jr K tb st a n (RW K tb st a (n+1:Nat) c).2).2)
def pG(K:Kd)(tb st:Int)(L:List Ac)(c:Cs):List Ac×Cs:=
 (L++(Jr K tb st (Ab K 4 c).1 (Ab K 120 (Ab K 4 c).2).1.toNat (Ab K 120 (Ab K 4 c).2).2).1,(Jr K tb st (Ab K 4 c).1 (Ab K 120 (Ab K 4 c).2).1.toNat (Ab K 120 (Ab K 4 c).2).2).2)
def GD(K:Kd)(c:Cs):List Ac×Cs:=
 pG K (Ab K 5 c).1 (Ab K 4 (Ab K 5 c).2).1 (List.replicate (1+(Ab K 5 c).1).toNat qJ++(I1 K (1+(Ab K 4 (Ab K 5 c).2).1).toNat (Ab K 4 (Ab K 5 c).2).2).1)
  (I1 K (1+(Ab K 4 (Ab K 5 c).2).1).toNat (Ab K 4 (Ab K 5 c).2).2).2
def iG{k}(h:L.map Bv=List.replicate k qJ):(L++[(⟨1,0,0,0,Cd,Cd⟩:Ac)]).map Bv=List.replicate (k+1) qJ:=by
 have e:Bv ⟨1,0,0,0,Cd,Cd⟩=qJ:=by unfold Bv qJ;simp only[Df]
 rw[Aaj,h,List.replicate_succ',List.map_singleton,e]
def kP(K:Kd)(T:List Ac)(n:Nat)(c0:Cs)(j:Nat)(L:List Ac)(c:Cs):Prop:=
 L.map Bv++(I1 K (n-j) c).1=T++(I1 K n c0).1/\(I1 K (n-j) c).2=(I1 K n c0).2
def kP.start(h:L.map Bv=T):kP K T n c 0 L c:=⟨qm h,rfl⟩
theorem kP.next{s}(h:kP K T n c0 j L c)(hj:j<n)(b:Hy K c=(s,c')):kP K T n c0 (j+1) (L++[⟨7,0,0,0,⟨4,0,0,s,0⟩,Cd⟩]) c':=by
 obtain⟨h1,h2⟩:=h;obtain⟨q,hq⟩:∃q,n-j=q+1:=⟨n-j-1,om⟩;have a:n-(j+1)=q:=om;rw[hq,I1,b]at h1 h2;unfold kP;have e:Bv ⟨7,0,0,0,⟨4,0,0,s,0⟩,Cd⟩=⟨7,0,0,0,⟨4,0,0,s,0⟩,Cd⟩:=by unfold Bv;simp only[Df,GM]
 rw[a,Aaj,List.append_assoc,List.map_singleton,e];exact⟨h1,h2⟩
def kP.done(h:kP K T n c0 n L c):L.map Bv=T++(I1 K n c0).1/\c=(I1 K n c0).2:=by
 obtain⟨h1,h2⟩:=h;rw[Nat.sub_self,I1]at h1 h2;exact⟨by rw[<-h1,List.append_nil],h2⟩
def tZ(K:Kd)(tb st a:Int)(T:List Ac)(C:Cs)(m:Nat)(L:List Ac)(c:Cs):Prop:=
 L.map Bv++(Jr K tb st a m c).1=T/\(Jr K tb st a m c).2=C
theorem tZ.next{tb st b}{C}{a}(h:tZ K tb st b T C m L c)(d:0<m)(hs:RW K tb st b m c=(Bv a,c')):tZ K tb st b T C (m-1) (L++[a]) c':=by
 obtain⟨h1,h2⟩:=h;obtain⟨q,rfl⟩:∃q,m=q+1:=⟨m-1,om⟩;rw[Jr,hs]at h1 h2;unfold tZ;rw[Nat.add_sub_cancel,Aaj,List.append_assoc];exact⟨h1,h2⟩
structure AG (K:Kd) (c:Cs) (b M:Nat) (w:Y) (L:List Ac) (v:V9) (W:Y):Prop where
 cu:Cq K c b M W
 gr:Gr b w W
 own:W.ownsRow w.heap.size 34 14 v L.length<|TZ L
 wf:∀a∈L,VP a
 lt:b<w.heap.size
section
variable {K:Kd} {c c':Cs} {b M M':Nat} {w W W':Y} {L:List Ac} {v:V9}
theorem AG.next(h:AG K c b M w L v W)(hc:Cq K c' b M' W')(a:Gr b W W'):AG K c' b M' w L v W':=
 ⟨hc,h.gr.trans a,Ae h.own λq e=>a.block q (by have:=(h.own.lt q e).1;have:=h.lt;omega) (h.own.lt q e).2,h.wf,h.lt⟩
def AG.mono(h:AG K c b M w L v W)(a:M<=M'):AG K c b M' w L v W:=⟨h.cu.mono a,h.gr,h.own,h.wf,h.lt⟩
def AG.below(h:AG K c b M w L v W)(hb:B9 W W'):AG K c b M w L v W':=h.next (h.cu.below hb h.cu.lt)<|Gr.Am hb
def AG.slice(h:AG K c b M w L v W){n}(hK:L.length=n):∃a d,v=.slice a n d:=by
 subst hK;exact Au h.own
def C6(A:Ac){ops:Array Oper}{rest:List Oper}{o:Oper}{a:Act}{Q:Exit->Act->World->Prop}(s x:Operand)(B:VP A)(hA:AG K c b M w L v W)
  (h:∀q r w',Hid (AG K c b M w (L++[A]) (.slice q (L.length+1) r) w')->wpList prog ops Q rest (a.put o.dst<|.slice q (L.length+1) r) w') (hl:L.length<2000:=by first|omega) (i:o.guard=none:=by rfl)
  (C:o.op=.call {callee:=.builtin .append,args:=#[s,x],argTypes:=#[52,52]}:=by rfl) (hs:a.eval s=v:=by rfl) (D:a.eval x=.slice (some<|G W.heap.size 0) 1 1:=by rfl):wpList prog ops Q (o::rest) a<|W.alloc<|.cells (Bn A) 34:=by
 obtain⟨i0,j,l,m,n⟩:=Ok fA;refine ON _ i s x 52 C w.heap.size 34 i0 uH 14 128 underlying52 j l m n rfl oo v L.length (TZ L) hs (NX hA.own _) (y W 0) 1 1 (TZ [A]) D (OJ _) (Is<|DO W _) (XY _) oo od om (by have:=hA.gr.size;simp;omega) _ rfl ?_;intro g3 E w5 f d p t;have g:=hA.below<|(BE _ _).alloc (Be _)<|.cells (Bn A) 34;have hz:=g.gr.size;have u:Below w.heap.size (W.alloc<|.cells (Bn A) 34) w5:=⟨d.os,d.tape,d.output,d.size,λk hk=>d.block k om λe=>oT (g.own.lt k e.symm).1⟩;refine h _ _ _<|O ⟨g.cu.below u hA.lt,g.gr.EI u<|Be _,?_,λa F=>(AaG.1 F).elim (hA.wf a) λe=>List.mem_singleton.1 e▸B,hA.lt⟩;rw[<-OI]at f;rw[OR];exact f
end
def AG.start{M}(h:Cq K c b M w):AG K c b M w [] (N9) w:=⟨h,⟨rfl,rfl,rfl,Be _,λ_ _ _=>rfl⟩,IF _ _ _ _,λ_ h=>(by cases h),h.lt⟩
structure AK (K:Kd) (c:Cs) (b M:Nat) (w:Y) (L:List Ac) (v:V9) (kb:Nat) (k:Vl) (W:Y):Prop where
 ag:AG K c b M w L v W
 mR:W.heap[kb]?=some (.cells (qi k) 32 (0,0))
 uG:bT k
 uF:w.heap.size<=kb
section
variable {K:Kd} {c c':Cs} {b M M' kb:Nat} {w W W':Y} {L:List Ac} {v:V9} {k k':Vl}
theorem AK.next(h:AK K c b M w L v kb k W)(hc:Cq K c' b M' W')(a:Gr b W W'):AK K c' b M' w L v kb k W':=
 ⟨h.ag.next hc a,(a.block kb (by have:=h.uF;have:=h.ag.lt;omega)<|Ai h.mR).trans h.mR,h.uG,h.uF⟩
def AK.mono(h:AK K c b M w L v kb k W)(a:M<=M'):AK K c b M' w L v kb k W:=⟨h.ag.mono a,h.mR,h.uG,h.uF⟩
def AK.below(h:AK K c b M w L v kb k W)(hb:B9 W W'):AK K c b M w L v kb k W':=h.next (h.ag.cu.below hb h.ag.cu.lt)<|Gr.Am hb
def AK.cells(h:AK K c b M w L v kb k W):W.cell? (G kb 0)=some (J k.kind)/\W.cell? (G kb 1)=some (J k.num)/\W.cell? (G kb 2)=some (F9 k.Ah)/\W.cell? (G kb 3)=some (.string k.str)/\W.cell? (G kb 4)=some (J k.ref)/\(∀j,W.frozen? (G kb j)=false)/\kb<W.heap.size:=by
 refine⟨?_,?_,?_,?_,?_,?_,Ai h.mR⟩<;>simp[World.cell?,World.frozen?,h.mR]
theorem AG.key(h:AG K c b M w L v W)(a:bT k):AK K c b M w L v W.heap.size k<|W.alloc<|.cells (qi k) 32:=
 ⟨h.below n9,DO _ _,a,h.gr.size⟩
def AK.set(h:AK K c b M w L v kb k W)(g:bT k'):AK K c b M w L v kb k'<|((((W.setCell (G kb 0)<|J k'.kind).setCell (G kb 1)<|J k'.num).setCell (G kb 2)<|F9 k'.Ah).setCell (G kb 3)<|.string k'.str).setCell (G kb 4)<|J k'.ref:=by
 obtain⟨W',a⟩:=qa<|((((W.setCell (G kb 0)<|J k'.kind).setCell (G kb 1)<|J k'.num).setCell (G kb 2)<|F9 k'.Ah).setCell (G kb 3)<|.string k'.str).setCell (G kb 4)<|J k'.ref;rw[<-a];have h2:∀q,q≠kb->W'.heap[q]?=W.heap[q]?:=λq hq=>by rw[a];iterate 5 rw[At _ _ _ _ (by exact hq)]
 have hz:W'.heap.size=W.heap.size:=by rw[a];simp
 have d:W'.os=W.os/\W'.tape=W.tape/\W'.output=W.output:=by rw[a];exact⟨rfl,rfl,rfl⟩
 have hk:=h.uF;have f:Below w.heap.size W W':=⟨d.1,d.2.1,d.2.2,om,λq hq=>h2 q om⟩;refine⟨⟨h.ag.cu.below f h.ag.lt,h.ag.gr.EI f<|Be _,Ae h.ag.own λq e=>h2 q ?_,h.ag.wf,h.ag.lt⟩,?_,g,h.uF⟩
 .rintro rfl;obtain⟨cur,hc,_⟩:=A5 h.ag.own e;rw[h.mR]at hc;cases hc
 rw[a];have:=OU (q:=0) h.mR (J k'.kind) (J k'.num) (F9 k'.Ah) (.string k'.str)<|J k'.ref;simpa using this
end
structure VT (K:Kd) (c:Cs) (b M:Nat) (w:Y) (L:List Ac) (v:V9) (kb:Nat) (k:Vl) (vb:Nat) (x:Vl) (W:Y):Prop where
 k_:AK K c b M w L v kb k W
 v_:AK K c b M w L v vb x W
 ne:kb≠vb
section
variable {K:Kd} {c c':Cs} {b M M' kb vb:Nat} {w W W':Y} {L:List Ac} {v:V9} {k x x':Vl}
theorem VT.next(h:VT K c b M w L v kb k vb x W)(hc:Cq K c' b M' W')(a:Gr b W W'):VT K c' b M' w L v kb k vb x W':=⟨h.k_.next hc a,h.v_.next hc a,h.ne⟩
def VT.mono(h:VT K c b M w L v kb k vb x W)(a:M<=M'):VT K c b M' w L v kb k vb x W:=⟨h.k_.mono a,h.v_.mono a,h.ne⟩
def VT.below(h:VT K c b M w L v kb k vb x W)(hb:B9 W W'):VT K c b M w L v kb k vb x W':=⟨h.k_.below hb,h.v_.below hb,h.ne⟩
def AK.val(h:AK K c b M w L v kb k W)(a:bT x):VT K c b M w L v kb k W.heap.size x<|W.alloc<|.cells (qi x) 32:=
 ⟨h.below n9,h.ag.key a,oT<|Ai h.mR⟩
def VT.set(h:VT K c b M w L v kb k vb x W)(a:bT x'):VT K c b M w L v kb k vb x'<|((((W.setCell (G vb 0)<|J x'.kind).setCell (G vb 1)<|J x'.num).setCell (G vb 2)<|F9 x'.Ah).setCell (G vb 3)<|.string x'.str).setCell (G vb 4)<|J x'.ref:=by
 have h1:=h.v_.set a;refine⟨⟨h1.ag,?_,h.k_.uG,h.k_.uF⟩,h1,h.ne⟩;iterate 5 rw[At _ _ _ _ (by exact h.ne)]
 exact h.k_.mR
end
def cW(b Z)(w)(h:Cq K c b Z w)(hN:Z<=1099511400000):
  C9 14 #[Q9 b] w λe w'=>∃L v c',e=.returned v/\(0<L.length/\L.length<=200)/\GD K c=(L.map Bv,c')/\AG K c' b (Z+20000) w L v w':=by
 have P:=O<|AG.start h;clear h;go_enter func14,ntmps14;go_wp2_with fail;refine(AF b Z 5 _ P.cu om om om).mono ?_;rintro e w1 ⟨tb,c5,rfl,c6,c7,az,hc,hs⟩;have bz:=O az;clear az;have P:=O<|P.next hc hs.gr;clear hc hs;go_wp2_with fail;refine(AF b (Z+2) 4 _ P.cu om om om).mono ?_;rintro e w2 ⟨st,ae,rfl,Mh,c8,aM,hc,hs⟩;have b0:=O aM;clear aM;have P:=O<|P.next hc hs.gr;clear hc hs;have da:IntKind.i64.wrap (1+tb)=1+tb:=oj;have dc:IntKind.i64.wrap (1+st)=1+st:=oj;obtain⟨tn,a6⟩:∃tn:Nat,1+tb=(tn:Int):=⟨(1+tb).toNat,om⟩;obtain⟨S,a7⟩:∃S:Nat,1+st=(S:Int):=⟨(1+st).toNat,om⟩;have HT:=O a6;have HS:=O a7;have cx:tn<=5:=om;have cy:S<=4:=om;clear a6 a7;go_wp2_with fail;go_loopw [3,6] (λv i wr=>∃(k:Nat) (L:List Ac),k<=tn/\i=J k/\L.length=k/\L.map Bv=List.replicate k qJ/\AG K ae b (Z+4) w L v wr) λ_ i _=>tn-(intOf i).toNat
 .exact⟨0,[],om,rfl,rfl,rfl,P⟩
 obtain⟨k,L,hk,rfl,t,a8,hA⟩:=hrel;have bc:=O a8;clear a8;obtain⟨av,cv,rfl⟩:=hA.slice t;have P:=O hA;clear hA;by_cases b1:k<tn
 .have d1:decide ((k:Int)<1+tb)=true:=by have:=z HT;simp;omega
  go_wp2_with (refine C6 ⟨1,0,0,0,Cd,Cd⟩ (.tmp 25) (.tmp 27) ⟨Cc,Cc⟩ P ?_;intro a d w' u)
  go_roundw
  .exact⟨k+1,_,om,ov,by simp[t],iG bc,by rw[<-t];exact u⟩
  exact ow
 have d1:decide ((k:Int)<1+tb)=false:=by have:=z HT;simp;omega
 have b2:k=tn:=om;subst b2;have HL:=O t;clear t b1 hk;go_wp2_with fail;go_loopw [3,7] (λv i wr=>∃(j:Nat) (L:List Ac) (cj:Cs),j<=S/\i=J j/\L.length=k+j/\kP K (List.replicate k qJ) S ae j L cj/\AG K cj b (Z+4+4*j) w L v wr) λ_ i _=>S-(intOf i).toNat
 .exact⟨0,L,ae,om,rfl,HL,kP.start bc,P⟩
 obtain⟨j,L2,cj,hj,rfl,t,bd,hA⟩:=hrel;have bf:=O bd;clear bd;obtain⟨dd,df,rfl⟩:=hA.slice t;have u:=O hA;clear hA;by_cases bg:j<S
 .have d2:decide ((j:Int)<1+st)=true:=by have:=z HS;simp;omega
  go_wp2_with fail
  refine(TI b (Z+4+4*j) _ u.cu om).mono ?_;rintro e w3 ⟨str,dh,rfl,af,bh,hc,f⟩;have b3:=O bh;clear bh;have R:=O<|u.next hc f;clear hc f;go_wp2_with fail;refine m9 (MG str _) λw4 hb=>?_;have ah:=O<|R.below hb;clear hb;go_wp2_with (refine C6 ⟨7,0,0,0,⟨4,0,0,str,0⟩,Cd⟩ (.tmp 34) (.tmp 39) ⟨⟨af,by show(0:Nat)<_;decide,by show(0:Nat)≠_;decide⟩,Cc⟩ ah ?_;intro a d w' b4);go_roundw
  .exact⟨j+1,_,_,om,ov,by simp[t];omega,bf.next bg b3,by rw[<-t];exact b4.mono om⟩
  exact ow
 have d2:decide ((j:Int)<1+st)=false:=by have:=z HS;simp;omega
 have b5:j=S:=om;subst b5;have b6:=O t;have di:L2.length<=9:=by have:=z HT;have:=z HS;omega
 clear t bg hj;go_wp2_with fail;refine(AF b (Z+4+4*j) 4 _ u.cu om om om).mono ?_;rintro e w3 ⟨g,dj,rfl,dk,dm,bj,hc,hs⟩;have b7:=O bj;clear bj;have R:=O<|u.next hc hs.gr;clear hc hs;go_wp2_with fail;refine(AF b (Z+4+4*j+2) 120 _ R.cu om om om).mono ?_;rintro e w4 ⟨nn,C,rfl,dn,dp,bk,hc,hs⟩;have b8:=O bk;clear bk;have ah:=O<|R.next hc hs.gr;clear hc hs;obtain⟨n,rfl⟩:∃n:Nat,nn=n:=⟨nn.toNat,om⟩;go_wp2_with fail;go_loopw [3,9] (λv i wr=>∃(m:Nat) (L:List Ac) (cm:Cs),i=J m/\m<=n/\L.length=L2.length+(n-m)/\tZ K tb st g (L2.map Bv++(Jr K tb st g n C).1) (Jr K tb st g n C).2 m L cm/\AG K cm b (Z+30+150*(n-m)) w L v wr) λ_ i _=>(intOf i).toNat
 .exact⟨n,L2,C,rfl,om,om,⟨rfl,rfl⟩,ah.mono<|oT<|z HS⟩
 obtain⟨m,Q,cm,rfl,dq,t,bm,hA⟩:=hrel;have ai:=O bm;clear bm;obtain⟨aj,ak,rfl⟩:=hA.slice rfl;have A:=O hA;have bn:=O t;have dr:Q.length<=130:=om;clear hA t;by_cases hm:0<m
 case neg=>
  have hz:m=0:=om;subst hz;go_wp2;go_ret;refine⟨Q,_,cm,rfl,⟨by have:=z bn;have:=z b6;have:=z HT;omega,om⟩,?_,A.mono om⟩;have e1:(1+tb).toNat=k:=oT<|z HT;have e2:(1+st).toNat=j:=oT<|z HS;have e3:=bf.done;have e4:Q.map Bv=_:=(List.append_nil _).symm.trans ai.1;have e5:cm=_:=ai.2;simp only[GD,pG,z bz,z b0,e1,e2,<-e3.1,<-e3.2,z b7,z b8,NO];rw[e4,<-e5]
 have d3:decide ((0:Int)<m)=true:=ot;obtain⟨M,hM⟩:=qa<|Z+30+150*(n-m);rw[<-hM]at A;have dt:M<=Z+30+150*119:=om;have b9:=O hM;clear hM;go_wp2_with fail;refine(AF b M (1+tb) _ A.cu om om om).mono ?_;rintro e w5 ⟨T,du,rfl,_,_,bp,hc,hs⟩;have ca:=O bp;clear bp;have A:=O<|A.next hc hs.gr;clear hc hs;go_wp2_with fail;refine(AF b (M+2) (1+st) _ A.cu om om om).mono ?_;rintro e w6 ⟨ss,dv,rfl,_,_,bq,hc,hs⟩;have cc:=O bq;clear bq;have A:=O<|A.next hc hs.gr;clear hc hs;go_wp2_with fail;refine(fH b (M+4) _ A.cu om).mono ?_;rintro e w7 ⟨kind,num,Ah,str,ref,cd,rfl,af,hf,br,hc,f⟩;have bt:=O br;clear br;have A:=O<|A.next hc f;have HK:=O<|A.key (k:=⟨kind,num,Ah,str,ref⟩) ⟨af,hf⟩;clear hc f A
 go_upto_if 58 with fail
 generalize ao:w7.alloc (.cells #[J kind,J num,F9 Ah,.string str,J ref] 32)=w8 at HK ⊢;generalize (⟨kind,num,Ah,str,ref⟩:Vl)=k0 at HK bt;generalize w7.heap.size=kb at HK ⊢;clear ao
 go_cut [58] λ_ wx=>∃(k:Vl) (ck:Cs),ZJ K g (Bl k0,cd)=(Bl k,ck)/\AK K ck b (M+20) w Q (.slice aj Q.length ak) kb k wx
 case first=>
  by_cases s:g=0
  .subst s;go_wp2_with fail;refine(TI b (M+14) _ HK.ag.cu om).mono ?_;rintro e w9 ⟨s2,aq,rfl,cg,D,hc,f⟩;have ar:=O D;clear D;have HK:=O<|HK.next hc f;clear hc f;go_wp2_with fail;refine m9 (MG s2 _) λl hb=>?_;have HK:=O<|HK.below hb;clear hb;obtain⟨c0,c1,c2,c3,c4,fz,lk⟩:=HK.cells;go_wp2_with fail;go_meet
   case rel=>exact⟨⟨4,0,0,s2,0⟩,_,by simp[ZJ,z ar],(HK.set ⟨cg,by show(0:Nat)<_;decide,by show(0:Nat)≠_;decide⟩).mono om⟩
  have e0:(g==0)=false:=by simp[s]
  by_cases E:g=1
  .subst E;go_wp2_with fail;refine(AF b (M+14) 12 _ HK.ag.cu om om om).mono ?_;rintro e w9 ⟨X,U,rfl,ch,cl,o,hc,hs⟩;have F:=O o;clear o;have HK:=O<|HK.next hc hs.gr;clear hc hs;have cn:IntKind.i64.wrap (1+X)=1+X:=oj;go_wp2_with fail
   refine m9 (Fh (1+X) _) λl hb=>?_;have HK:=O<|HK.below hb;clear hb;obtain⟨c0,c1,c2,c3,c4,fz,lk⟩:=HK.cells;go_wp2_with fail;go_meet
   case rel=>exact⟨⟨2,1+X,0,⟨#[]⟩,0⟩,_,by simp[ZJ,z F],(HK.set<|TH _).mono om⟩
  have e1:(g==1)=false:=by simp[E]
  go_wp2_with fail
  go_meet
  case rel=>exact⟨k0,_,by simp[ZJ,s,E],HK.mono om⟩
 obtain⟨k,ck,bu,hK⟩:=hcut;have HK:=O hK;have cp:=O bu;clear hK bu;go_wp2_with fail;refine(AF b (M+20) 14 _ HK.ag.cu om om om).mono ?_;rintro e w9 ⟨x,aq,rfl,dw,dx,D,hc,hs⟩;have ar:=O D;clear D;have HK:=O<|HK.next hc hs.gr;clear hc hs;have cq:=O (show RW K tb st g m cm=Qw K g m T ss (Bl k) (x,aq)from by simp[RW,z ca,z cc,z bt,z cp,z ar]);have HE:Hid<|∀{a':Ac} {c9:Cs} {v':V9} {w':Y} {M':Nat},Qw K g m T ss (Bl k) (x,aq)=(Bv a',c9)->AG K c9 b M' w (Q++[a']) v' w'->M'<=M+150->∃(m':Nat) (L:List Ac) (c':Cs),Value.int .i64 ((m:Int)-1)=J m'/\m'<=n/\L.length=L2.length+(n-m')/\tZ K tb st g (L2.map Bv++(Jr K tb st g n C).1) (Jr K tb st g n C).2 m' L c'/\AG K c' b (Z+30+150*(n-m')) w L v' w':=O λh1 h2 h3=>⟨m-1,_,_,ov,om,by have:=z bn;simp;omega,ai.next hm<|cq.trans h1,h2.mono<|oT<|z b9⟩;rcases(by omega:x<=4\/(x=5\/x=6)\/x=7\/x=8\/(x=9\/x=10\/x=11)\/x=12\/x=13)with hx|hx|hx|hx|hx|hx|hx
 .go_upto_if 75 with fail
  go_cut [75] λq wx=>q=.bool true/\wx=w9
  case first=>
   rcases(by omega:x=0\/x=1\/x=2\/x=3\/x=4)with hx|hx|hx|hx|hx
   all_goals
    subst hx;go_wp2_with fail;go_meet
    case rel=>exact⟨rfl,rfl⟩
  obtain⟨rfl,rfl⟩:=hcut;go_wp2_with fail;refine(pZ b (M+22) _ HK.ag.cu om).mono ?_;rintro e l ⟨x0,U,rfl,H,o,hc,f⟩;have F:=O o;clear o;have HK:=O<|HK.next hc f;have p:=O<|HK.val H;clear hc f HK;go_upto_region 31 with fail
  generalize ao:l.alloc (.cells (qi x0) 32)=dy at p ⊢;generalize l.heap.size=vb at p ⊢;clear ao
  go_cut [89] λq wx=>∃(bb:Bool) (cb:Cs),q=.bool bb/\kB K g U=(bb,cb)/\VT K cb b (M+28) w Q (.slice aj Q.length ak) kb k vb x0 wx
  case first=>
   by_cases s:g=0
   .subst s;go_wp2_with fail;refine(AF b (M+26) 6 _ p.k_.ag.cu om om om).mono ?_;rintro e cr ⟨X,au,rfl,_,_,r,hc,hs⟩;have I:=O r;clear r;have p:=O<|p.next hc hs.gr;clear hc hs;go_wp2_with fail;go_meet
    case rel=>exact⟨_,_,rfl,by simp[kB,z I],p.mono om⟩
   have e0:(g==0)=false:=by simp[s]
   go_wp2_with fail
   go_meet
   case rel=>exact⟨_,_,rfl,by simp[kB,s],p.mono om⟩
  obtain⟨bb,cb,rfl,bw,hV⟩:=hcut;have p:=O hV;have ct:=O bw;clear hV bw
  go_upto_if 89 with fail
  go_cut [89] λ_ wx=>∃x1:Vl,Bl x1=(if bb=true then⟨2,(m:Int),0,⟨#[]⟩,0⟩else Bl x0)/\VT K cb b (M+28) w Q (.slice aj Q.length ak) kb k vb x1 wx
  case first=>
   cases bb
   .go_wp2_with fail
    go_meet
    case rel=>exact⟨_,rfl,p⟩
   go_wp2_with fail
   refine m9 (Fh (m:Int) _) λcr hb=>?_;have p:=O<|p.below hb;clear hb;obtain⟨c0,c1,c2,c3,c4,fz,lk⟩:=p.v_.cells;go_wp2_with fail;go_meet
   case rel=>exact⟨⟨2,m,0,⟨#[]⟩,0⟩,GM _ _ _ _,p.set<|TH _⟩
  obtain⟨x1,bx,hV⟩:=hcut;have cw:=O bx;clear bx;rcases hV.k_.cells,hV.v_.cells,O hV with⟨⟨c0,c1,c2,c3,c4,fz,lk⟩,⟨q0,q1,q2,q3,q4,dz,lq⟩,p⟩;clear hV;go_wp2_with (refine C6 ⟨2,T,0,0,k,x1⟩ (.tmp 92) (.tmp 97) ⟨p.k_.uG,p.v_.uG⟩ p.k_.ag ?_;intro a d w' B);go_roundw
  .exact HE (by simp[Qw,tQ,hx,z F,z ct,z cw,Bv,Df]) B om
  exact ow
 .rcases hx with rfl|rfl;all_goals
   obtain⟨c0,c1,c2,c3,c4,fz,lk⟩:=HK.cells;go_upto_region 36 with fail
   go_wp2_with (refine C6 ⟨3,T,0,0,k,Cd⟩ (.tmp 102) (.tmp 106) ⟨HK.uG,Cc⟩ HK.ag ?_;intro a d w' B)
   go_roundw
   .exact HE (by simp[Qw,Bv,Df]) B om
   exact ow
 .subst hx;go_wp2_with fail;refine(AF b (M+22) 14 _ HK.ag.cu om om om).mono ?_;rintro e l ⟨X,au,rfl,_,_,r,hc,hs⟩;have I:=O r;clear r;have HK:=O<|HK.next hc hs.gr;clear hc hs;go_wp2_with (refine C6 ⟨4,T,0,X,Cd,Cd⟩ (.tmp 110) (.tmp 115) ⟨Cc,Cc⟩ HK.ag ?_;intro a d w' B);go_roundw
  .exact HE (by simp[Qw,z I,Bv,Df]) B om
  exact ow
 .subst hx;go_wp2_with fail;refine(AF b (M+22) 2 _ HK.ag.cu om om om).mono ?_;rintro e l ⟨X,cz,rfl,ch,cl,V,hc,hs⟩;have aw:=O V;clear V;have HK:=O<|HK.next hc hs.gr;clear hc hs;have cn:IntKind.i64.wrap (5+X)=5+X:=oj;go_wp2_with (refine C6 ⟨5+X,T,0,0,Cd,Cd⟩ (.tmp 119) (.tmp 125) ⟨Cc,Cc⟩ HK.ag ?_;intro a d w' B)
  go_roundw
  .exact HE (by simp[Qw,z aw,Bv,Df]) B om
  exact ow
 .rcases hx with rfl|rfl|rfl;all_goals
   go_upto_region 44 with fail
   go_wp2_with (refine C6 ⟨8,T,ss,0,Cd,Cd⟩ (.tmp 131) (.tmp 135) ⟨Cc,Cc⟩ HK.ag ?_;intro a d w' B)
   go_roundw
   .exact HE (by simp[Qw,Bv,Df]) B om
   exact ow
 .subst hx;go_wp2_with fail;refine(pZ b (M+22) _ HK.ag.cu om).mono ?_;rintro e l ⟨x0,cD,rfl,H,W,hc,f⟩;have ax:=O W;clear W;have HK:=O<|HK.next hc f;clear hc f;go_wp2_with (refine C6 ⟨9,T,ss,0,Cd,x0⟩ (.tmp 139) (.tmp 145) ⟨Cc,H⟩ HK.ag ?_;intro a d w' B);go_roundw
  .exact HE (by simp[Qw,z ax,Bv,Df]) B om
  exact ow
 subst hx;go_wp2_with fail;refine(pR b (M+22) _ HK.ag.cu om).mono ?_;rintro e l ⟨x0,cN,rfl,H,ad,hc,f⟩;have ay:=O ad;clear ad;have HK:=O<|HK.next hc f;clear hc f;go_wp2_with (refine C6 x0 (.tmp 70) (.tmp 73) H HK.ag ?_;intro a d w' B);go_roundw
 .exact HE (by simp[Qw,z ay]) B om
 exact ow
def YW(f:Nat->Vl)(j:Nat):Value:=((H8<|f<|j/5)[j%5]?).getD undef
def YN(f:Nat->Si)(j:Nat):Value:=((Hr<|f<|j/5)[j%5]?).getD undef
def kC f k i(hi:i<5):YW f (k*5+i)=((H8<|f k)[i]?).getD undef:=by
 grind [YW,H8]
def iK f k i(hi:i<5):YN f (k*5+i)=((Hr<|f k)[i]?).getD undef:=by
 grind [YN,Hr]
def tT{t}{f}(h:w.rowIs b t Z g)(hN:n*5<=Z)(a:∀j,j<n*5->g j=YW f j){i}(hi:i<n):Ks w b (i*5)<|f i:=by
 have e:∀j,j<5->w.cell? (G b<|i*5+j)=some (((H8<|f i)[j]?).getD undef):=λj hj=>by
  rw[h.cell (i:=i*5+j) om,a _ om,kC f i j hj]
 exact⟨e 0 om,e 1 om,e 2 om,e 3 om,e 4 om⟩
def sZ{t}{f}(h:w.rowIs b t Z g)(hN:n*5<=Z)(a:∀j,j<n*5->g j=YN f j){i}(hi:i<n):uM w b (i*5)<|f i:=by
 have e:∀j,j<5->w.cell? (G b<|i*5+j)=some (((Hr<|f i)[j]?).getD undef):=λj hj=>by
  rw[h.cell (i:=i*5+j) om,a _ om,iK f i j hj]
 exact⟨e 0 om,e 1 om,e 2 om,e 3 om,e 4 om⟩
def Kk(f:Nat->Int)(n:Nat)(w:Y)(v:V9)(lo hi:Nat):Prop:=
 (n=0/\v=N9)\/∃b cp Z g,v=S9 b n cp/\lo<=b/\b<hi/\w.rowIs b 3 Z g/\n<=Z/\∀j,j<n->g j=J (f j)
def Kk.keep(h:Kk f n w v lo hi)(hk:∀b,v.ownBlock=some b->lo<=b->b<hi->w'.heap[b]?=w.heap[b]?):Kk f n w' v lo hi:=by
 rcases h with h|⟨b,cp,Z,g,h1,h2,h3,h4,h5,a⟩
 .exact .inl h
 exact .inr ⟨b,cp,Z,g,h1,h2,h3,TO h4<|hk b (qm h1) h2 h3,h5,a⟩
def Kk.of(h:Bt w B v n f):Kk f n w v B w.heap.size:=by
 have b:=h.lt;obtain⟨hl,⟨c,d⟩|⟨g',cap,cur,c,hb,a,h1,h2,h3,h4⟩⟩:=h
 .exact .inl ⟨d,c⟩
 subst c;refine .inr ⟨g',cap,cap,λj=>(cur[j]?).getD undef,rfl,hb,(b g' rfl).2,⟨cur,a,om,λi hi=>by simp[AaP (show i<cur.size by omega)]⟩,h1,λj hj=>?_⟩;have h5:=KS (f:=f) (i:=j) hj;grind [Kk]
theorem Kk.at(h:Kk f n w v lo hi):∃a cp,v=.slice a n cp/\TK w a n f:=by
 rcases h with⟨c,rfl⟩|⟨b,cp,Z,g,h1,h2,h3,h4,h5,d⟩
 .subst c;exact⟨_,_,rfl,.inl rfl⟩
 exact⟨_,_,h1,.inr ⟨b,0,rfl,RC h4,λi hi=>by rw[X9,h4.cell om,d i hi]⟩⟩
def TL(f:Nat->Vl)(n:Nat)(w:Y)(v:V9)(lo hi:Nat):Prop:=
 (n=0/\v=N9)\/∃b cp Z g,v=S9 b n cp/\lo<=b/\b<hi/\w.rowIs b 32 Z g/\n*5<=Z/\∀j,j<n*5->g j=YW f j
def TL.keep{f}(h:TL f n w v lo hi)(hk:∀b,v.ownBlock=some b->w'.heap[b]?=w.heap[b]?):TL f n w' v lo hi:=by
 rcases h with h|⟨b,cp,Z,g,rfl,h2,h3,h4,h5,a⟩
 .exact .inl h
 exact .inr ⟨b,cp,Z,g,rfl,h2,h3,TO h4<|hk b rfl,h5,a⟩
theorem TL.at{f}(h:TL f n w v lo hi):∃a cp,v=.slice a n cp/\IX w a n f:=by
 rcases h with⟨c,rfl⟩|⟨b,cp,Z,g,h1,h2,h3,h4,h5,d⟩
 .subst c;exact⟨_,_,rfl,.inl rfl⟩
 exact⟨_,_,h1,.inr ⟨b,0,rfl,RC h4,λi hi=>by rw[X9];exact tT h4 h5 d hi⟩⟩
def N1.LB{f}(h:N1 f n w v lo hi)(hk:∀b,v.ownBlock=some b->w'.heap[b]?=w.heap[b]?):N1 f n w' v lo hi:=by
 rcases h with h|⟨b,cp,Z,g,rfl,h2,h3,h4,h5,a⟩
 .exact .inl h
 exact .inr ⟨b,cp,Z,g,rfl,h2,h3,TO h4<|hk b rfl,h5,a⟩
def Kk.LB(h:Kk f n w v lo hi)(hk:∀b,v.ownBlock=some b->w'.heap[b]?=w.heap[b]?):Kk f n w' v lo hi:=by
 rcases h with h|⟨b,cp,Z,g,rfl,h2,h3,h4,h5,a⟩
 .exact .inl h
 exact .inr ⟨b,cp,Z,g,rfl,h2,h3,TO h4<|hk b rfl,h5,a⟩
def Kk.Y6(h:Kk f n w v lo hi):∃a cp,v=.slice a n cp/\TK w a n f:=by
 rcases h with⟨c,rfl⟩|⟨b,cp,Z,g,h1,h2,h3,h4,h5,d⟩
 .subst c;exact⟨_,_,rfl,.inl rfl⟩
 exact⟨_,_,h1,.inr ⟨b,0,rfl,RC h4,λi hi=>by rw[X9,h4.cell om,d i hi]⟩⟩
structure Hs where
 v:Value
 l:Value
 i:Value
 x:Value
def Hs.own(h:Hs)(q:Nat):Prop:=h.v.ownBlock=some q\/h.l.ownBlock=some q\/h.i.ownBlock=some q\/h.x.ownBlock=some q
structure pF (lo hi:Nat) (w:Y) (b o:Nat) (h:Hs) (t:Tb):Prop where
 c0:w.cell? (G b o)=some (J t.shape)
 c1:w.cell? (G b<|o+1)=some h.v
 c2:w.cell? (G b<|o+2)=some h.l
 c3:w.cell? (G b<|o+3)=some h.i
 c4:w.cell? (G b<|o+4)=some h.x
 c5:w.cell? (G b<|o+5)=some (J t.d.used)
 c6:w.cell? (G b<|o+6)=some (J t.d.live)
 c7:w.cell? (G b<|o+7)=some (J t.d.turns)
 v:TL t.V t.nv w h.v lo hi
 l:N1 t.d.L t.d.n w h.l lo hi
 i:Kk t.d.I t.d.m w h.i lo hi
 x:Kk t.d.X t.d.x w h.x lo hi
def pF.keep{h}(H:pF lo hi w b o h t)(hk:∀q,h.own q->w'.heap[q]?=w.heap[q]?)(hc:∀j,j<8->w'.cell? (G b<|o+j)=w.cell? (G b<|o+j)):pF lo hi w' b o h t:=
 ⟨(hc 0 om).trans H.c0,(hc 1 om).trans H.c1,(hc 2 om).trans H.c2,(hc 3 om).trans H.c3,(hc 4 om).trans H.c4,(hc 5 om).trans H.c5,(hc 6 om).trans H.c6,(hc 7 om).trans H.c7,
  H.v.keep (λq e=>hk q (.inl e)),H.l.LB (λq e=>hk q (.inr (.inl e))),H.i.LB (λq e=>hk q (.inr (.inr (.inl e)))),H.x.LB (λq e=>hk q (.inr (.inr (.inr e))))⟩
def pF.lt{h}(H:pF lo hi w b o h t){q}(hq:h.own q):q<w.heap.size/\lo<=q/\q<hi:=by
 rcases hq with e|e|e|e
 .rcases H.v with⟨_,h1⟩|⟨b,cp,Z,g,h1,h2,h3,h4,h5,a⟩
  .rw[h1]at e;cases e
  rw[h1]at e;cases e;exact⟨RC h4,h2,h3⟩
 .rcases H.l with⟨_,h1⟩|⟨b,cp,Z,g,h1,h2,h3,h4,h5,a⟩
  .rw[h1]at e;cases e
  rw[h1]at e;cases e;exact⟨RC h4,h2,h3⟩
 .rcases H.i with⟨_,h1⟩|⟨b,cp,Z,g,h1,h2,h3,h4,h5,a⟩
  .rw[h1]at e;cases e
  rw[h1]at e;cases e;exact⟨RC h4,h2,h3⟩
 rcases H.x with⟨_,h1⟩|⟨b,cp,Z,g,h1,h2,h3,h4,h5,a⟩
 .rw[h1]at e;cases e
 rw[h1]at e;cases e;exact⟨RC h4,h2,h3⟩
theorem pF.at{h}(H:pF lo hi w b o h t):cS w b o t:=by
 rcases H.v.at,H.l.at,H.i.Y6,H.x.Y6 with⟨⟨va,vc,e0,r0⟩,⟨la,lc,e1,r1⟩,⟨ia,ic,e2,r2⟩,⟨xa,xc,e3,a⟩⟩;exact⟨va,vc,la,lc,ia,ic,xa,xc,⟨H.c0,H.c1.trans<|by rw[e0],H.c2.trans<|by rw[e1],H.c3.trans<|by rw[e2],H.c4.trans<|by rw[e3],H.c5,H.c6,H.c7⟩,r0,⟨r1,r2,a⟩⟩
structure uI (b n:Nat) (H:Nat->Hs):Prop where
 nb:∀i,i<n->¬(H i).own b
 ij:∀i j q,i<n->j<n->(H i).own q->(H j).own q->i=j
 vl:∀i q,i<n->(H i).v.ownBlock=some q->(H i).l.ownBlock≠some q
 vi:∀i q,i<n->(H i).v.ownBlock=some q->(H i).i.ownBlock≠some q
 vx:∀i q,i<n->(H i).v.ownBlock=some q->(H i).x.ownBlock≠some q
 li:∀i q,i<n->(H i).l.ownBlock=some q->(H i).i.ownBlock≠some q
 lx:∀i q,i<n->(H i).l.ownBlock=some q->(H i).x.ownBlock≠some q
 ix:∀i q,i<n->(H i).i.ownBlock=some q->(H i).x.ownBlock≠some q
def IL(h:Hs)(t:Tb):List Value:=[J t.shape,h.v,h.l,h.i,h.x,J t.d.used,J t.d.live,J t.d.turns]
def RY(H:Nat->Hs)(T:Nat->Tb)(n:Nat):List Value:=JD (λi=>IL (H i)<|T i) n
def XD H T n:(RY H T n).length=n*8:=CC (m:=8) (f:=λi=>IL (H i)<|T i) (λ_=>rfl) n
def L8{H}{T}{i}(hi:i<n)(hj:j<8):(RY H T n)[i*8+j]?=(IL (H i)<|T i)[j]?:=IE (m:=8) (λ_=>rfl) hi hj
def aY{H H'}{T T'}(h:∀i,i<n->IL (H i) (T i)=IL (H' i) (T' i)):RY H T n=RY H' T' n:=Dt h
def Vz H T n h t:RY H T n++IL h t=RY (AM H n h) (AM T n t) (n+1):=by
 grind [RY,IL,AM,JD,Aj,Dt,Ak]
abbrev TY(w:Y)(B:Nat)(v:V9)(n:Nat)(H:Nat->Hs)(T:Nat->Tb):Prop:=w.ownsRow B 71 8 v n<|RY H T n
def Ba(c:Nat)(vF vT vS:V9)(H:Nat->Hs)(n k:Nat):Prop:=k=c\/vF.ownBlock=some k\/vT.ownBlock=some k\/vS.ownBlock=some k\/∃i,i<n/\(H i).own k
structure SM (w:Y) (c B:Nat) (vF vT vS:V9) (H:Nat->Hs) (s:AE):Prop where
 base:B<=c
 BH:w.heap[c]?=some (.cells #[vF,vT,vS] 29 (0,0))
 f:ER w B vF s.nf s.F
 t:TY w B vT s.nt H s.T
 si:M6 w B vS s.ns s.S
 v:∀i,i<s.nt->Cf w B (H i).v (s.T i).nv (s.T i).V
 l:∀i,i<s.nt->BU w B (H i).l (s.T i).d.n (s.T i).d.L
 i:∀i,i<s.nt->Bt w B (H i).i (s.T i).d.m (s.T i).d.I
 x:∀i,i<s.nt->Bt w B (H i).x (s.T i).d.x (s.T i).d.X
 ap:∀i,i<s.nt->∀q,(H i).i.ownBlock=some q->(H i).x.ownBlock≠some q
 ij:∀i j q,i<s.nt->j<s.nt->(H i).own q->(H j).own q->i=j
section
variable {w w' X w3:Y} {c B:Nat} {vF vT vS:V9} {H:Nat->Hs} {s:AE}
def SM.lt(h:SM w c B vF vT vS H s):c<w.heap.size:=Ai h.BH
theorem SM.row(h:SM w c B vF vT vS H s){i q}(hi:i<s.nt)(e:(H i).own q):B<=q/\q<w.heap.size/\∃cur ty,w.heap[q]?=some (.cells cur ty (0,0))/\(ty=32\/ty=168\/ty=3):=by
 rcases e with e|e|e|e
 .obtain⟨cur,h1,h2⟩:=A5 (h.v i hi) e;grind [Ai]
 .obtain⟨cur,h1,h2⟩:=A5 (h.l i hi) e;grind [Ai]
 .obtain⟨cur,h1,h2⟩:=A5 (h.i i hi) e;grind [Ai]
 obtain⟨cur,h1,h2⟩:=A5 (h.x i hi) e;grind [Ai]
def SM.IC(h:SM w c B vF vT vS H s){k}(hk:Ba c vF vT vS H s.nt k):B<=k/\k<w.heap.size:=by
 rcases hk with rfl|e|e|e|⟨i,hi,e⟩
 .exact⟨h.base,h.lt⟩
 .exact h.f.lt k e
 .exact h.t.lt k e
 .exact h.si.lt k e
 exact⟨(h.row hi e).1,(h.row hi e).2.1⟩
def SM.keep(h:SM w c B vF vT vS H s)(hk:∀k,Ba c vF vT vS H s.nt k->w'.heap[k]?=w.heap[k]?):SM w' c B vF vT vS H s:=
 ⟨h.base,(hk c<|.inl rfl).trans h.BH,Ae h.f λg e=>hk g<|.inr<|.inl e,Ae h.t λg e=>hk g<|.inr<|.inr<|.inl e,Ae h.si λg e=>hk g<|.inr<|.inr<|.inr<|.inl e,
  λi hi=>Ae (h.v i hi) λg e=>hk g<|.inr<|.inr<|.inr<|.inr ⟨i,hi,.inl e⟩,λi hi=>Ae (h.l i hi) λg e=>hk g<|.inr<|.inr<|.inr<|.inr ⟨i,hi,.inr<|.inl e⟩,
  λi hi=>Ae (h.i i hi) λg e=>hk g (.inr (.inr (.inr (.inr ⟨i,hi,.inr (.inr (.inl e))⟩)))),λi hi=>Ae (h.x i hi) λg e=>hk g (.inr (.inr (.inr (.inr ⟨i,hi,.inr (.inr (.inr e))⟩)))),h.ap,h.ij⟩
def SM.below(h:SM w c B vF vT vS H s)(hb:B9 w w'):SM w' c B vF vT vS H s:=h.keep λk hk=>hb.block k (h.IC hk).2
def SM.apart(h:SM w c B vF vT vS H s){i q}(hi:i<s.nt)(e:(H i).own q):q≠c/\vF.ownBlock≠some q/\vT.ownBlock≠some q/\vS.ownBlock≠some q:=by
 obtain⟨_,_,cur,ty,hb,a⟩:=h.row hi e;refine⟨λe=>?_,λe=>?_,λe=>?_,λe=>?_⟩
 .subst e;rw[h.BH]at hb;cases hb;revert a;decide
 .obtain⟨cu,hc,_⟩:=A5 h.f e;rw[hc]at hb;cases hb;revert a;decide
 .obtain⟨cu,hc,_⟩:=A5 h.t e;rw[hc]at hb;cases hb;revert a;decide
 obtain⟨cu,hc,_⟩:=A5 h.si e;rw[hc]at hb;cases hb;revert a;decide
def SM.Bc(h:SM w c B vF vT vS H s){e b Z n:Nat}{v:V9}{xs}(h':w.ownsRow b e Z v n xs)(a:e≠29):v.ownBlock≠some c:=by
 intro hq;obtain⟨cur,hb,_⟩:=A5 h' hq;rw[h.BH]at hb;cases hb;exact a rfl
def SM.table(h:SM w c B vF vT vS H s){i}(hi:i<s.nt){h'}{t'}
  (a:w'.os=w.os/\w'.tape=w.tape/\w'.output=w.output/\w.heap.size<=w'.heap.size)
  (hk:∀k,k<w.heap.size->vT.ownBlock≠some k->¬(H i).own k->w'.heap[k]?=w.heap[k]?)
  (A:TY w' B vT s.nt (AM H i h')<|AM s.T i t') (C:Cf w' B h'.v t'.nv t'.V) (hl:BU w' B h'.l t'.d.n t'.d.L) (r:Bt w' B h'.i t'.d.m t'.d.I) (D:Bt w' B h'.x t'.d.x t'.d.X) (E:∀q,h'.i.ownBlock=some q->h'.x.ownBlock≠some q)
  (u:∀q,h'.own q->(H i).own q\/w.heap.size<=q):
  SM w' c B vF vT vS (AM H i h') (Bm s i t')/\BB (Ba c vF vT vS H s.nt) w (Ba c vF vT vS (AM H i h') s.nt) w':=by
 have F:=hk c h.lt (h.Bc h.t oo) λe=>(h.apart hi e).1 rfl;have K:∀g,vF.ownBlock=some g->w'.heap[g]?=w.heap[g]?:=λg e=>hk g (h.f.lt g e).2 (Cv h.f h.t oo e) λe'=>(h.apart hi e').2.1 e;have ks:∀g,vS.ownBlock=some g->w'.heap[g]?=w.heap[g]?:=λg e=>hk g (h.si.lt g e).2 (Cv h.si h.t oo e) λe'=>(h.apart hi e').2.2.2 e;have p:∀j g,j<s.nt->j≠i->(H j).own g->w'.heap[g]?=w.heap[g]?:=λj g hj b e=>hk g (h.row hj e).2.1 (h.apart hj e).2.2.1 λe'=>b<|h.ij j i g hj hi e e';refine⟨⟨h.base,F.trans h.BH,Ae h.f K,A,Ae h.si ks,λj hj=>?_,λj hj=>?_,λj hj=>?_,λj hj=>?_,λj hj=>?_,λj k q hj o e e'=>?_⟩,⟨a.1,a.2.1,a.2.2.1,a.2.2.2,λk k1 k2=>hk k k1 (λe=>k2<|.inr<|.inr<|.inl e) λe=>k2<|.inr<|.inr<|.inr<|.inr ⟨i,hi,e⟩,λk e=>?_⟩⟩
 .show Cf w' B (AM H i h' j).v (AM s.T i t' j).nv (AM s.T i t' j).V;by_cases e:j=i
  .subst e;rw[Aj,Aj];exact C
  rw[Ak _ _ e,Ak _ _ e];exact Ae (h.v j hj) λg e2=>p j g hj e<|.inl e2
 .show BU w' B (AM H i h' j).l (AM s.T i t' j).d.n (AM s.T i t' j).d.L;by_cases e:j=i
  .subst e;rw[Aj,Aj];exact hl
  rw[Ak _ _ e,Ak _ _ e];exact Ae (h.l j hj) λg e2=>p j g hj e<|.inr<|.inl e2
 .show Bt w' B (AM H i h' j).i (AM s.T i t' j).d.m (AM s.T i t' j).d.I;by_cases e:j=i
  .subst e;rw[Aj,Aj];exact r
  rw[Ak _ _ e,Ak _ _ e];exact Ae (h.i j hj) λg e2=>p j g hj e<|.inr<|.inr<|.inl e2
 .show Bt w' B (AM H i h' j).x (AM s.T i t' j).d.x (AM s.T i t' j).d.X;by_cases e:j=i
  .subst e;rw[Aj,Aj];exact D
  rw[Ak _ _ e,Ak _ _ e];exact Ae (h.x j hj) λg e2=>p j g hj e<|.inr<|.inr<|.inr e2
 .show∀q,(AM H i h' j).i.ownBlock=some q->(AM H i h' j).x.ownBlock≠some q;by_cases e:j=i
  .subst e;rw[Aj];exact E
  rw[Ak _ _ e];exact h.ap j hj
 .have new:∀j q,j<s.nt->j≠i->(H j).own q->¬h'.own q:=λj q hj b e e'=>by
   rcases u q e' with e2|e2
   .exact b (h.ij j i q hj hi e e2)
   have:=(h.row hj e).2.1;omega
  by_cases e1:j=i
  .subst e1;rw[Aj]at e;by_cases e2:k=j
   .exact e2.symm
   rw[Ak _ _ e2]at e';exact absurd e<|new k q o e2 e'
  rw[Ak _ _ e1]at e;by_cases e2:k=i
  .subst e2;rw[Aj]at e';exact absurd e'<|new j q hj e1 e
  rw[Ak _ _ e2]at e';exact h.ij j k q hj o e e'
 rcases e with e|e|e|e|⟨j,hj,e⟩
 .exact .inl (.inl e)
 .exact .inl (.inr<|.inl e)
 .exact .inl (.inr<|.inr<|.inl e)
 .exact .inl (.inr<|.inr<|.inr<|.inl e)
 by_cases e1:j=i
 .subst e1;rw[Aj]at e;exact(u k e).elim (λe=>.inl<|.inr<|.inr<|.inr<|.inr ⟨j,hj,e⟩) .inr
 rw[Ak _ _ e1]at e;exact .inl<|.inr<|.inr<|.inr<|.inr ⟨j,hj,e⟩
end
def Z8{g}{e}{xs ys}(h:w.ownsRow B e Z (S9 g n cp) n xs)(hc:YY w w' g)(hl:ys.length=n*Z)(hy:∀j,j<n*Z->w'.cell? (G g j)=ys[j]?):w'.ownsRow B e Z (S9 g n cp) n ys:=by
 obtain⟨_,⟨c,f⟩|⟨g',cap,cur,c,hb,a,h1,h2,h3,h4⟩⟩:=h
 .cases c
 cases c;obtain⟨b,k1,k2⟩:=hc cur e a;refine⟨hl,.inr ⟨g,cp,b,rfl,hb,k1,h1,h2,k2.trans h3,?_⟩⟩;have d:n*Z<=b.size:=by rw[k2,h3];exact Aat _ h1
 refine AaF λj=>?_;rw[List.getElem?_take];by_cases hj:j<n*Z
 .rw[DD hj,<-hy j hj,Hi w' g j _ _ _ k1];simp
 grind [YY]
section
variable {w w':Y} {c B:Nat} {vF vT vS:V9} {H:Nat->Hs} {s:AE}
def SM.cells(h:SM w c B vF vT vS H s):w.cell? (G c 0)=some vF/\w.cell? (G c 1)=some vT/\w.cell? (G c 2)=some vS/\∀q,w.frozen? (G c q)=false:=
 by simp[World.cell?,World.frozen?,h.BH]
def SM.CA(h:SM w c B vF vT vS H s){t}(d:t<s.nt):∃g cp,vT=.slice (some<|G g 0) s.nt cp/\g<w.heap.size/\B<=g/\(∀j u,(IL (H t)<|s.T t)[j]?=some u->w.cell? (G g<|t*8+j)=some u)/\∀q,w.frozen? (G g q)=false:=by
 obtain⟨hl,⟨b,e⟩|⟨g,cap,cur,b,hb,a,h1,h2,h3,h4⟩⟩:=id h.t
 .omega
 refine⟨g,cap,b,Ai a,hb,λj u hu=>?_,λq=>by simp[World.frozen?,a]⟩;have hj:j<8:=(SO.1 hu).1;rw[Lo (b▸h.t) (t*8+j) om,L8 d hj,hu]
def SM.tJ(h:SM w c B vF vT vS H s){g cp}(a:vT=.slice (some<|G g 0) s.nt cp){j}(hj:j<s.nt*8):w.cell? (G g j)=(RY H s.T s.nt)[j]?:=by
 rw[Lo (a▸h.t) j hj]
def SM.Ex(h:SM w c B vF vT vS H s){i}(hi:i<s.ns):∃g cp,vS=.slice (some<|G g 0) s.ns cp/\g<w.heap.size/\B<=g/\(∀j u,(Hr<|s.S i)[j]?=some u->w.cell? (G g<|i*5+j)=some u)/\∀q,w.frozen? (G g q)=false:=by
 obtain⟨hl,⟨b,d⟩|⟨g,cap,cur,b,hb,a,h1,h2,h3,h4⟩⟩:=id h.si
 .omega
 refine⟨g,cap,b,Ai a,hb,λj u hu=>?_,λq=>by simp[World.frozen?,a]⟩;have hj:j<5:=(SO.1 hu).1;rw[Lo (b▸h.si) (i*5+j) om,Om hi hj,hu]
def SM.Lq(h:SM w c B vF vT vS H s)(hn:0<s.nf):∃g cp,vF=S9 g s.nf cp/\g<w.heap.size/\B<=g/\BQ w g s.nf s.F:=by
 obtain⟨hl,⟨b,d⟩|⟨g,cap,cur,b,hb,a,h1,h2,h3,h4⟩⟩:=id h.f;all_goals grind [BQ,Ai,ER.in,SM.f]
def SM.rF(h:SM w c B vF vT vS H s){t}(a:t<s.nt){g cp}(b:vT=S9 g s.nt cp):AO w g (t*8+2) B (H t).l (H t).i (H t).x (s.T t).d:=by
 obtain⟨g',cp',hv',f,hb,hc,hf⟩:=h.CA a;rw[b]at hv';cases hv';refine⟨f,hc 2 _ rfl,hc 3 _ rfl,hc 4 _ rfl,hc 5 _ rfl,hc 6 _ rfl,hc 7 _ rfl,hf,h.l t a,h.i t a,h.x t a,h.ap t a,?_,by have:=h.base;have:=h.lt;omega⟩;rintro(e|e|e)
 .exact(h.apart a<|.inr<|.inl e).2.2.1 (qm b)
 .exact(h.apart a<|.inr<|.inr<|.inl e).2.2.1 (qm b)
 exact(h.apart a<|.inr<|.inr<|.inr e).2.2.1 (qm b)
def SM.uX(h:SM w c B vF vT vS H s){t}(a:t<s.nt){g cp}(m:vT=S9 g s.nt cp){u0 u1 u2}{d'}(f:AO w' g (t*8+2) B u0 u1 u2 d')(b:CN g (t*8+2) (H t).l (H t).i (H t).x w u0 u1 u2 w'):
  SM w' c B vF vT vS (AM H t ⟨(H t).v,u0,u1,u2⟩) (Bm s t {s.T t with d:=d'})/\BB (Ba c vF vT vS H s.nt) w (Ba c vF vT vS (AM H t ⟨(H t).v,u0,u1,u2⟩) s.nt) w':=by
 have hD:=h.rF a m;have n:∀q,GZ (H t).l (H t).i (H t).x q->(H t).own q:=λq e=>.inr e;have o:∀q,(H t).v.ownBlock=some q->w'.heap[q]?=w.heap[q]?:=λq e=>by
  obtain⟨cur,hc,_⟩:=A5 (h.v t a) e;refine b.block q (Ai hc) (λe'=>(h.apart a<|.inl e).2.2.1<|by rw[m,e'];rfl) ?_;rintro(e'|e'|e')
  .exact Cv (h.v t a) (h.l t a) oo e e'
  .exact Cv (h.v t a) (h.i t a) oo e e'
  exact Cv (h.v t a) (h.x t a) oo e e'
 refine h.table a ⟨b.os,b.tape,b.output,b.size⟩ (λk k1 k2 k3=>b.block k k1 (λe=>k2<|by rw[m,e];rfl) λe=>k3<|n k e) ?_ (Ae (h.v t a) o) f.log f.ints f.index f.ap λq e=>?_
 .have u:=h.t;rw[m]at u ⊢;refine Z8 u b.ty (XD _ _ _) λj hj=>?_;obtain⟨i,r,A,p⟩:∃i r,r<8/\j=i*8+r:=⟨j/8,j%8,Tn _ oo,om⟩;subst p;have hi:i<s.nt:=om;rw[L8 hi A];by_cases e:i=t
  .subst e;rw[Aj,Aj];rcases(by omega:r=0\/r=1\/r=2\/r=3\/r=4\/r=5\/r=6\/r=7)with rfl|rfl|rfl|rfl|rfl|rfl|rfl|rfl
   .rw[b.cell _ (.inl om),h.tJ m hj,L8 hi oo];rfl
   .rw[b.cell _ (.inl om),h.tJ m hj,L8 hi oo];rfl
   .exact f.c0
   .exact f.c1
   .exact f.c2
   .exact f.c3
   .exact f.c4
   exact f.c5
  rw[Ak _ _ e,Ak _ _ e,b.cell _ om,h.tJ m hj,L8 hi A]
 rcases e with e|e
 .exact .inl (.inl e)
 rcases b.sub q e with e'|e';all_goals grind [AM,Bm,Ba]
end
def QN(Q:Exit->Act->World->Prop):Exit->Act->World->Prop
 |.normal,a,w=>Q .normal a w
 |_,_,_=>False
theorem QN.no:¬LetsOut (QN Q):=λ⟨a,w,h⟩=>h
def QN.normal(h:Q .normal a w):QN Q .normal a w:=h
section
variable {P:Program} {ops:Array Oper} {md:Region.Mode}
def tk(i){oi}{v:V9}{fuel}{listed}{a}{w:Y}(b:l.drop i=oi::rest)(hc:(Region.noSelect l.toArray&&Region.free md l.toArray listed i&&(Region.ready md l.toArray listed).contains i)=true)
  (c:Region.wanted oi (yielded l.toArray a.tmps)=true) (hy:∀w,S w->(execOp a.eval oi).run P w=.ok (.value v) w) (d:S w) (h:wpAnyH P md l.toArray (QN Q) S fuel (listed.setIfInBounds i true) (a.put oi.dst v) w):wpAnyH P md l.toArray (QN Q) S (fuel+1) listed a w:=by
 simp only[AaC]at hc;have hi:l.toArray[i]?=some oi:=by
  have h1:(l.drop i)[0]?=some oi:=qm b
  rw[List.getElem?_drop]at h1;simpa using h1
 exact wpAnyH_take hi hc.1.1 hc.1.2 hc.2 (λ_ _ _ h=>h) (Or.inl ⟨c,hy⟩) d h
def QN.imp:∀(e) (a) (w),QN Q e a w->Q e a w:=λe a w h=>by
 cases e<;>first|exact h|exact False.elim h
def DL{id}S(b:P.follows .mixedOrders=true)(h:wpAnyH P .any ops (QN Q) S ops.size (Array.replicate ops.size false) a {w with drawn:=w.drawn+1}):(Code.region id ops true).wp P Q a w:=
 Code.wp_mono QN.imp (wp_region_held b h)
end
def tz(i:Nat){oi:Oper}{v:V9}{fuel:Nat}{listed:Array Bool}{a b:Act}{w:Y}(c:l.drop i=oi::rest:=by rfl)(hc:(Region.noSelect l.toArray&&Region.free md l.toArray listed i&&(Region.ready md l.toArray listed).contains i)=true:=by kernel_rfl)(d:Region.wanted oi (yielded l.toArray a.tmps)=true:=by rfl)(hy:∀w,S w->(execOp a.eval oi).run P w=.ok (.value v) w:=by(intro w' hs;(repeat(obtain⟨_,hs⟩:=hs));go_simp;try with_reducible rfl))(e:S w:=by assumption)(hb:a.put oi.dst v=b:=by(simp only[pS];rfl))(h:wpAnyH P md l.toArray (QN Q) S fuel (listed.setIfInBounds i true) b w):wpAnyH P md l.toArray (QN Q) S (fuel+1) listed a w:=tk i c hc d hy e<|hb▸h
def ry(i:Nat){fuel:Nat}{listed:Array Bool}{a:Act}{w:Y}{o:Oper}(h:∀b:Act->World->Prop,Shut (∀a w,S w->(S w->wpAnyH P md ops Q S fuel (listed.setIfInBounds i true) a w)->b a w)->if Region.wanted o (yielded ops a.tmps)=true then Oper.wp P o a w b Q else b (a.put o.dst undef) w)(c:ops[i]?=some o:=by rfl)(d:Region.ready md ops listed=[i]:=by kernel_rfl):wpAnyH P md ops Q S (fuel+1) listed a w:=Aaz d oq<|.cons c h .nil
def Hx{id:Nat}(S:World->Prop)(h:wpAnyH P .any ops (QN Q) S ops.size (Array.replicate ops.size false) a<|World.drew w)(b:P.follows .mixedOrders=true:=by kernel_rfl):(Code.region id ops true).wp P Q a w:=DL S b h
def FI{fuel:Nat}{listed:Array Bool}(h:Q .normal a w)(b:Region.ready md ops listed=[]:=by kernel_rfl):wpAnyH P md ops (QN Q) S fuel listed a w:=wpAnyH_done b (QN.normal h) fuel
def MH{c}{H}t{k}{w}(D:SM w c B vF vT vS H s)(hG:Kl s)(E:t<s.nt)(hk:Ky k):
  C9 70 #[Q9 c,J t,Ga k] w (R9 (Ga<|Cb s.F (s.T t) k) w):=by
 obtain⟨I,R,S,_,U⟩:=Av hG.f;have av:0<s.nf:=oT I.1;obtain⟨g,cp,rfl,hg,_,hc,_⟩:=D.CA E;obtain⟨fb,fc,rfl,aw,_,hF⟩:=D.Lq av;rcases D.cells,D.lt,hG.t t E,Au<|D.v t E,(D.l t E).at,(D.i t E).at,(D.x t E).at,D.v t E with⟨⟨c0,c1,c2,_⟩,ax,hx,⟨va,vc,ev⟩,⟨la,lc,el,X⟩,⟨ia,ic,ei,Z⟩,⟨xa,xc,ex,af⟩,ag⟩;rw[ev]at ag;obtain⟨y0,y1,y2,y3,y4,y5,y6,y7⟩:=qh hc;rw[ev]at y1;rw[el]at y2;rw[ei]at y3;rw[ex]at y4;simp only[Aag]at y0;have HR:=O<|qp I<|qp R<|qp S U;have ay:Hid<|FJ w la ia xa (s.T t).d:=O ⟨X,Z,af⟩;obtain⟨W,M,r,az,o0,o1,o2⟩:=kS w (.cells (qi k) 32) (.cells #[J 0,J 0,F9 0,E9,J 0] 32)<|.cells #[J (s.T t).shape,.slice va (s.T t).nv vc,.slice la (s.T t).d.n lc,.slice ia (s.T t).d.m ic,.slice xa (s.T t).d.x xc,J (s.T t).d.used,J (s.T t).d.live,J (s.T t).d.turns] 71;obtain⟨k0,k1,k2,k3,k4⟩:=v5 o0;obtain⟨r0,r1,r2,r3,r4⟩:=v5 o1;have fr:∀o,W.frozen? (Y9 w o)=false:=λo=>by rw[M];simp[go_sem]
 obtain⟨x0,x1,x2,x3,x4,x5,x6,x7⟩:=v8 o2;have C:w.heap.size+1<W.heap.size:=om;have lx:w.heap.size+1+1<W.heap.size:=om;have lk:w.heap.size<W.heap.size:=om;have ah:Hid<|Ia W (w.heap.size+1+1) 2 la lc ia ic xa xc (s.T t).d:=O ⟨om,x2,x3,x4,x5,x6,x7,ay.below r⟩;have ai:=(r.cell ax).trans c0;have bg:c<W.heap.size:=om;clear az;clear D I R S U X Z af hc;rcases hx.way with⟨e,e2,hI⟩|⟨j,e,hj,aj,e2,e3⟩
 .have hd:decide ((s.T t).shape<0)=true:=ot;have A:Hid<|Cb s.F (s.T t) k=Eb (s.T t).d (Ay (s.T t).d k<|hN k):=O (by unfold Cb;rw[DD om]);have aM:=Qo.small hx;clear e e2;go_enter func70,ntmps70;go_upto_region 2 with fail
  rw[<-M];clear M;go_wp2_with fail;refine m9 (Jq ah aM hI.i0.d3 hI.i0.d4<|xR hk.1 hk.2) λw1 a=>?_;obtain⟨ak,ao⟩:=Jy hI.i0.d3 hI.i0.d4 k<|hN k;generalize a6:Ay (s.T t).d k (hN k)=pl at A ak ao;clear a6;have z1:=a.size;have l1:w.heap.size+1<w1.heap.size:=om;rcases (a.cell C).trans r0,(a.cell C).trans r1,(a.cell C).trans r2,(a.cell C).trans r3,(a.cell C).trans r4 with⟨s0,s1,s2,s3,s4⟩;have a7:∀o,w1.frozen? (Y9 w o)=false:=λo=>o8 a C<|fr o;rcases (a.cell lx).trans x2,o9 r a,O ((ah.below a).rows.log) with⟨q2,P,a8⟩;clear a r0 r1 r2 r3 r4 fr k0 k1 k2 k3 k4 x0 x1 x2 x3 x4 x5 x6 x7 y0 y1 y2 y3 y4 y5 y6 y7 c0 c1 c2 ai;by_cases ad:pl<0
  focus
   have u:=O<|A.trans<|C3 om;go_wp2;refine Fs (v:=.agg #[J 0,J 0,F9 0,E9,J 0]) (by simp[results,results70,go_sem,s0,s1,s2,s3,s4]) rfl ⟨ql u,?_⟩
  rotate_left
  focus
   obtain⟨q,hq⟩:∃q:Nat,pl=(q:Int):=⟨pl.toNat,om⟩;subst hq;have bb:q<(s.T t).d.n:=om;have u:Hid<|Cb s.F (s.T t) k=((s.T t).d.L q).val:=O<|A.trans (by unfold Eb;rw[DD om];rfl);obtain⟨b,off,rfl,bh,hcs⟩:=a8.resolve_left om;obtain⟨_,_,_,_,_,e5,e6,e7,e8,e9,_⟩:=hcs q bb;clear hcs ak ao ad;go_wp2;refine Fs (v:=Ga ((s.T t).d.L q).val) (by simp[results,results70,go_sem,s0,s1,s2,s3,s4]) rfl ⟨ql u,?_⟩
  all_goals
   iterate 5 (refine On ?_ ox _)
   exact P
 have hd:decide ((s.T t).shape<0)=false:=ot;have Q:=O<|qp e<|qp hj aj;clear e e2 e3 hj aj;by_cases h4:k.kind=4
 .have bc:(k.kind==4)=true:=by simp[h4]
  have A:Hid<|Cb s.F (s.T t) k=if 0<=Bj s.F j k.str then(s.T t).V (Bj s.F j k.str).toNat else Cd:=O (by
   unfold Cb;rw[C3 (oT (z Q).1),(z Q).1,NO];by_cases hp:0<=Bj s.F j k.str
   .rw[DD ⟨h4,hp⟩,DD hp]
   rw[C3 (λh=>hp h.2),C3 hp])
  have bd:Hid<|∀w',BQ w' fb s.nf s.F->C9 49 #[.agg #[S9 fb s.nf fc],J (s.T t).shape,.string k.str] w' λe bf=>e=.returned (J<|Bj s.F j k.str)/\B9 w' bf:=O (λw' hS=>by
   rw[(z Q).1];exact LF fc j k.str hS HR.1 HR.2.1 HR.2.2.1 HR.2.2.2 Q.2.1)
  have aq:=O<|hF.below r aw;clear h4;go_enter func70,ntmps70;go_upto_region 2 with fail
  rw[<-M];clear M;go_upto_region 8 with fail
  clear y0 y1 y2 y3 y4 y5 y6 y7 c0 c1 c2;refine qr W ?_;(iterate 8 refine N (h:=?_));refine GS λK hK=>?_;go_simp;refine⟨_,λw' ar=>qk ar<|bd _<|aq.below ar aq.lt,hK _ ?_⟩;clear hK K;refine N (h:=?_);refine Hz ?_;intro w1 a;have z1:=a.size;have l1:w.heap.size+1<w1.heap.size:=om;rcases (a.cell C).trans r0,(a.cell C).trans r1,(a.cell C).trans r2,(a.cell C).trans r3,(a.cell C).trans r4 with⟨s0,s1,s2,s3,s4⟩;have a7:∀o,w1.frozen? (Y9 w o)=false:=λo=>o8 a C<|fr o;rcases (a.cell lx).trans x1,o9 r a,Xf ag (o9 r a) with⟨q1,P,au⟩;clear a r0 r1 r2 r3 r4 fr k0 k1 k2 k3 k4 x0 x1 x2 x3 x4 x5 x6 x7 ai;rcases Kc hG.f Q.2.1 k.str with hp|⟨i,hp,hi⟩
  focus
   have u:=O<|A.trans<|C3 om;rw[hp];clear hp;go_wp2;refine Fs (v:=.agg #[J 0,J 0,F9 0,E9,J 0]) (by simp[results,results70,go_sem,s0,s1,s2,s3,s4]) rfl ⟨ql u,?_⟩
  rotate_left
  focus
   have u:=O<|A.trans (by rw[DD om,hp,NO]);have Ko:i<(s.T t).nv:=by rw[(z Q).2.2];exact hi
   rw[hp];obtain⟨vb,rfl,bj⟩:∃vb,va=some (G vb 0)/\vb<w1.heap.size:=by
    obtain⟨hl,⟨hv,h0⟩|⟨g,cp,cur,hv,_,ae,_⟩⟩:=id au
    .omega
    cases hv;exact⟨_,rfl,Ai ae⟩
   obtain⟨e0,e1,e2,e3,e4⟩:=Cf.at au Ko;clear hp hi;go_wp2;refine Fs (v:=Ga<|(s.T t).V i) (by simp[results,results70,go_sem,s0,s1,s2,s3,s4]) rfl ⟨ql u,?_⟩
  all_goals
   iterate 5 (refine On ?_ ox _)
   exact P
 have bc:(k.kind==4)=false:=by simp[h4]
 have u:Hid<|Cb s.F (s.T t) k=Cd:=O (by
  unfold Cb;rw[C3 (oT (z Q).1),C3 (λh=>h4 h.1)])
 clear h4;go_enter func70,ntmps70;go_upto_region 2 with fail
 rw[<-M];clear M;clear y0 y1 y2 y3 y4 y5 y6 y7 c0 c1 c2;go_wp2;refine Fs (v:=.agg #[J 0,J 0,F9 0,E9,J 0]) (by simp[results,results70,go_sem,r0,r1,r2,r3,r4]) rfl ⟨ql u,?_⟩;iterate 5 (refine On ?_ ox _)
 exact r
section
variable {w w':Y} {c B:Nat} {vF vT vS:V9} {H:Nat->Hs} {s:AE}
def SM.Eh(h:SM w c B vF vT vS H s){g cp i j}(d:vS=.slice (some<|G g 0) s.ns cp)(hi:i<s.ns)(hj:j<5){u:V9}{x'}(n:Hr x'=(Hr<|s.S i).set j u):
  SM (w.setCell (G g<|i*5+j) u) c B vF vT vS H {s with S:=AM s.S i x'}/\BB (Ba c vF vT vS H s.nt) w (Ba c vF vT vS H s.nt) (w.setCell (G g<|i*5+j) u):=by
 have a:vS.ownBlock=some g:=qm d
 have hk:∀k,k≠g->(w.setCell (G g<|i*5+j) u).heap[k]?=w.heap[k]?:=λk hk=>At _ _ _ _ (by exact hk);have o:=hk c λe=>h.Bc h.si oo (by rw[e];exact a);have p:∀q,vF.ownBlock=some q->(w.setCell (G g<|i*5+j) u).heap[q]?=w.heap[q]?:=λq e=>hk q λe'=>Cv h.f h.si oo e (by rw[e'];exact a);have r:∀q,vT.ownBlock=some q->(w.setCell (G g<|i*5+j) u).heap[q]?=w.heap[q]?:=λq e=>hk q λe'=>Cv h.t h.si oo e (by rw[e'];exact a);have b:∀j' q,j'<s.nt->(H j').own q->(w.setCell (G g<|i*5+j) u).heap[q]?=w.heap[q]?:=λj' q m e=>hk q λe'=>(h.apart m e).2.2.2 (by rw[e'];exact a);refine⟨⟨h.base,o.trans h.BH,Ae h.f p,Ae h.t r,?_,λj hj=>Ae (h.v j hj) λq e=>b j q hj<|.inl e,λj hj=>Ae (h.l j hj) λq e=>b j q hj<|.inr<|.inl e,λj hj=>Ae (h.i j hj) λq e=>b j q hj<|.inr<|.inr<|.inl e,λj hj=>Ae (h.x j hj) λq e=>b j q hj<|.inr<|.inr<|.inr e,h.ap,h.ij⟩,⟨rfl,rfl,rfl,oq,λk k1 k2=>hk k λe=>k2<|.inr<|.inr<|.inr<|.inl<|by rw[e];exact a,λk e=>.inl e⟩⟩;have h1:=(We (d▸h.si:w.ownsRow B 57 5 (.slice (some<|G g 0) s.ns cp) s.ns<|JI s.S s.ns) (i*5+j) u).1;rw[YP hi hj n,<-d]at h1;exact h1
end
def YE{n}(h:n<1000000000000):Et n=n+1:=DD h
def YD{n}(h:¬n<1000000000000)(h2:n<=1000000000000):Et n=n:=by unfold Et;rw[C3 h];omega
def WV{c}{H}i t{w}(C:SM w c B vF vT vS H s)(hG:Kl s)(hi:i<s.ns)(ht:t<s.nt):
  C9 112 #[Q9 c,J i,J t] w λe w'=>e=.returned (J<|Bd s i t)/\SM w' c B vF vT vS H (A7 s i t)/\BB (Ba c vF vT vS H s.nt) w (Ba c vF vT vS H s.nt) w':=by
 obtain⟨D,R,U,_,V⟩:=Av hG.f;have X:0<s.nf:=oT D.1;obtain⟨g,cp,rfl,hg,_,hc,_⟩:=C.CA ht;obtain⟨sb,sp,rfl,bb,_,m,bc⟩:=C.Ex hi;obtain⟨Z,fc,rfl,bd,_,hF⟩:=C.Lq X;rcases C.cells,C.lt,hG.si i hi,hc 0 _ rfl with⟨⟨c0,c1,c2,_⟩,bf,⟨o1,o2,o3,o4,o5,_⟩,y0⟩;simp only[Aag]at y0;rcases m 0 _ rfl,m 1 _ rfl,m 2 _ rfl,m 3 _ rfl,m 4 _ rfl with⟨s0,s1,s2,s3,s4⟩;simp only[Aag]at s0;rcases O C,O hG,O (qp D<|qp R<|qp U V) with⟨HM,HG,HR⟩;clear hG D R U V hc m C;by_cases hh:Lx s i t=true
 .have e0:0<=(s.T t).shape/\(s.T t).shape=(s.S i).shape:=by unfold Lx at hh;simpa using hh
  have d1:decide (0<=(s.T t).shape)=true:=by simp[e0.1]
  have d2:((s.T t).shape==(s.S i).shape)=true:=by simp[e0.2]
  have b:Hid<|Bd s i t=(s.S i).place:=O (by unfold Bd;rw[DD hh]);have d:Hid<|En s i t={s.S i with BO:=Et (s.S i).BO}:=O (by unfold En;rw[DD hh]);clear hh e0;by_cases hl:(s.S i).BO<1000000000000
  .have d3:decide ((s.S i).BO<1000000000000)=true:=by simp[hl]
   have HS:=O<|SM.Eh (j:=3) (u:=J<|(s.S i).BO+1) (x':=En s i t) HM rfl hi oo (by rw[z d,YE hl];rfl);go_enter func112,ntmps112;go_wp2;go_ret;exact⟨ql b,HS.1,HS.2⟩
  have d3:decide ((s.S i).BO<1000000000000)=false:=ot;have HS:Hid<|A7 s i t=s:=O (by
   unfold A7;rw[z d,YD hl o4,show({s.S i with BO:=(s.S i).BO}:Si)=s.S i from rfl,IM])
  go_enter func112,ntmps112;go_wp2;go_ret;rw[z HS];exact⟨ql b,HM,BB.refl _ _⟩
 .have b:Hid<|Bd s i t=if 0<=(s.T t).shape then Bj s.F (s.T t).shape.toNat (s.S i).key else -1:=O (by unfold Bd;rw[C3 hh]);have d:Hid<|En s i t=if 0<=(s.T t).shape/\0<=Bj s.F (s.T t).shape.toNat (s.S i).key then⟨(s.S i).key,(s.T t).shape,Bj s.F (s.T t).shape.toNat (s.S i).key,(s.S i).BO,Et (s.S i).misses⟩else{s.S i with misses:=Et (s.S i).misses}:=O (by unfold En;rw[C3 hh]);have ar:(decide (0<=(s.T t).shape)=false)\/(decide (0<=(s.T t).shape)=true/\((s.T t).shape==(s.S i).shape)=false):=by
   unfold Lx at hh;by_cases h0:0<=(s.T t).shape
   .right;simp[h0]at hh ⊢;exact hh
   left;simp[h0]
  clear hh;obtain⟨x1,n⟩:∃x1:Si,x1={s.S i with misses:=Et (s.S i).misses}:=⟨_,rfl⟩;have au:∃W,(((s.S i).misses<1000000000000/\W=w.setCell (G sb<|i*5+4) (J<|(s.S i).misses+1))\/(¬(s.S i).misses<1000000000000/\W=w))/\SM W c B (S9 Z s.nf fc) (S9 g s.nt cp) (S9 sb s.ns sp) H {s with S:=AM s.S i x1}/\BB (Ba c (S9 Z s.nf fc) (S9 g s.nt cp) (S9 sb s.ns sp) H s.nt) w (Ba c (S9 Z s.nf fc) (S9 g s.nt cp) (S9 sb s.ns sp) H s.nt) W:=by
   by_cases hl:(s.S i).misses<1000000000000
   .have hS:=SM.Eh (j:=4) (u:=J<|(s.S i).misses+1) (x':=x1) HM rfl hi oo (by rw[n,YE hl];rfl);exact⟨_,.inl ⟨hl,rfl⟩,hS.1,hS.2⟩
   refine⟨w,.inr ⟨hl,rfl⟩,?_,BB.refl _ _⟩;rw[n,YD hl o5,show({s.S i with misses:=(s.S i).misses}:Si)=s.S i from rfl,IM];exact HM
  obtain⟨W,o,k,ae⟩:=au;have af:=O ae;obtain⟨g',cp',e1,bg,_,av,_⟩:=k.CA ht;cases e1;obtain⟨aw,ax,e2,ad,_,a,a6⟩:=k.Ex hi;cases e2;rcases k.cells,k.lt,k.Lq X with⟨⟨E,I,L,_⟩,a7,⟨bh,bj,e3,a8,_,ag⟩⟩;cases e3;rcases a 0 _ rfl,a 1 _ rfl,a 2 _ rfl,a 3 _ rfl,a 4 _ rfl with⟨u0,u1,u2,u3,u4⟩;simp only[Aag,Aj]at u0 u1 u2 u3 u4;have ah:x1.key=(s.S i).key:=by rw[n]
  rw[ah]at u0;rw[show x1.shape=(s.S i).shape by rw[n]]at u1;clear u2 u3 u4;have ai:=O ag;have M:=O n;clear ae av a ag n ah;go_enter func112,ntmps112;rcases ar with d1|⟨d1,d2⟩
  .have l:Hid<|Bd s i t=-1:=O (by
    have:¬0<=(s.T t).shape:=by simpa using d1
    rw[z b,C3 this])
   have p:Hid<|A7 s i t={s with S:=AM s.S i x1}:=O (by
    have:¬0<=(s.T t).shape:=by simpa using d1
    unfold A7;rw[z d,C3 (λh=>this h.1),z M])
   have d4:decide ((s.T t).shape<0)=true:=by
    have:¬0<=(s.T t).shape:=by simpa using d1
    simp;omega
   clear b d;rcases o with⟨hl,o⟩|⟨hl,o⟩
   focus
    have d3:decide ((s.S i).misses<1000000000000)=true:=by simp[hl]
    clear hl u0 u1 E I L;go_upto_region 9 with fail
    rw[<-o];clear o s0 s1 s2 s3 s4
   rotate_left
   focus
    have d3:decide ((s.S i).misses<1000000000000)=false:=ot;clear hl u0 u1 E I L;subst o
   all_goals
    go_wp2;go_ret;rw[z p];exact⟨ql l,k,af⟩
  have h0:0<=(s.T t).shape:=by simpa using d1
  obtain⟨j,hj⟩:∃j:Nat,(s.T t).shape=j:=⟨(s.T t).shape.toNat,om⟩;have P:j<s.nf:=by
   rcases(HG.t t ht).way with⟨e,_⟩|⟨j',e,bk,_⟩
   .omega
   omega
  have l:Hid<|Bd s i t=Bj s.F j (s.S i).key:=O (by rw[z b,DD h0,hj,NO]);have x:Hid<|En s i t=if 0<=Bj s.F j (s.S i).key then⟨(s.S i).key,(s.T t).shape,Bj s.F j (s.S i).key,(s.S i).BO,Et (s.S i).misses⟩else{s.S i with misses:=Et (s.S i).misses}:=O (by
   rw[z d,hj,NO];by_cases hp:0<=Bj s.F j (s.S i).key
   .rw[DD ⟨om,hp⟩,DD hp]
   rw[C3 (λh=>hp h.2),C3 hp])
  have ay:Hid<|∀w',BQ w' Z s.nf s.F->C9 49 #[.agg #[S9 Z s.nf fc],J (s.T t).shape,.string (s.S i).key] w' λe az=>e=.returned (J<|Bj s.F j (s.S i).key)/\B9 w' az:=O (λw' hS=>by
   rw[hj];exact LF fc j (s.S i).key hS HR.1 HR.2.1 HR.2.2.1 HR.2.2.2 P)
  have d4:decide ((s.T t).shape<0)=false:=ot;have aM:=O P;clear h0 hj b d P;rcases o with⟨hl,o⟩|⟨hl,o⟩
  case' inl=>
   have d3:decide ((s.S i).misses<1000000000000)=true:=by simp[hl]
   clear hl;go_upto_region 9 with fail
   rw[<-o];clear o s0 s1 s2 s3 s4 c0 c1 c2
  case' inr=>
   have d3:decide ((s.S i).misses<1000000000000)=false:=ot;clear hl;subst o;go_upto_region 9 with fail
   clear s0 s1 s2 s3 s4 c0 c1 c2
  all_goals
   go_upto_region 11 with fail
   refine qr W ?_;(iterate 9 refine N (h:=?_));refine GS λK hK=>?_;go_simp;refine⟨_,λw' aj=>qk aj<|ay _<|ai.below aj ai.lt,hK _ ?_⟩;clear hK K;refine N (h:=?_);refine Hz ?_;intro w1 v;rcases O (k.below v),O<|af.below v,(v.cell ad).trans u1 with⟨Q,ak,v1⟩;obtain⟨aw,ax,e4,_,_,A,r⟩:=Q.Ex hi;cases e4;rcases A 2 _ rfl,r<|i*5+1,r (i*5+2) with⟨v2,f1,f2⟩;clear v A r u0 u1 E I L;rcases Kc HG.f aM (s.S i).key with hp|⟨q,hp,hq⟩
   .have p:Hid<|A7 s i t={s with S:=AM s.S i x1}:=O (by
     unfold A7;rw[z x,C3 om,z M])
    rw[hp];have HP:=O hp;clear hp;go_wp2;go_ret;rw[z p];exact⟨by rw[z l,z HP];rfl,Q,ak⟩
   have ao:=O<|SM.Eh (j:=1) (u:=J (s.T t).shape) (x':={x1 with shape:=(s.T t).shape}) Q rfl hi oo (by show _=(Hr<|AM s.S i x1 i).set 1 _;rw[Aj];rfl);have aq:=O<|SM.Eh (j:=2) (u:=J (q:Int)) (x':={x1 with shape:=(s.T t).shape,place:=(q:Int)}) ao.1 rfl hi oo (by show _=(Hr<|AM (AM s.S i x1) i _ i).set 2 _;rw[Aj];rfl);have p:Hid<|A7 s i t={s with S:=AM (AM (AM s.S i x1) i {x1 with shape:=(s.T t).shape}) i {x1 with shape:=(s.T t).shape,place:=(q:Int)}}:=O (by
    unfold A7;rw[GU,GU,z x,DD om,hp,z M])
   rw[hp];have HP:=O hp;clear hp;go_wp2;go_ret;rw[z p];exact⟨by rw[z l,z HP];rfl,aq.1,ak.trans<|ao.2.trans aq.2⟩
def Hg{f}(h:Ar n f=0){j}(hj:j<n){i}(hi:i<nf f j):(DU f j i).size<=4000:=by
 obtain⟨h1,h2,h3,h4,h5⟩:=Av h;have hp:=Sy h2 h3 hj (t:=nf f j-1-i) om;have hb:=(Fg h2 h3 hj (nf f j-1-i) om).1;exact(h3 _ hp hb).2.2.2.2
theorem Zp{f}(h:Ar n f=0){j}(hj:j<n){q i}(hq:q<i)(hi:i<nf f j):(DU f j q).toList≠(DU f j i).toList:=by
 grind [Ar,DU,Q8]
structure Kr (F:Nat->Br) (j i:Nat) (d:Dc):Prop where
 inv:Inv Ky hN d
 keys:∀p,Has d p->∃q,q<i/\p.key=Bz (DU F j q)
 live:0<=d.live/\d.live<=i
 turns:0<=d.turns/\d.turns<=i
theorem Kr.no(h:Ar n F=0){j}(hj:j<n){i}{d}(a:Kr F j i d)(hi:i<nf F j):∀q,q<d.n->(d.L q).turn≠0->AH (d.L q).key (Bz<|DU F j i)=false:=by
 grind [AH,Bz,Ip,Zp,Kr.keys]
def Kr.place(h:Ar n F=0){j}(hj:j<n){i}{d}(a:Kr F j i d)(hi:i<nf F j):Ay d (Bz<|DU F j i) (hN<|Bz<|DU F j i)<0:=by
 rcases a.inv.i0.place Cl (G4<|Hg h hj hi)with⟨q,h1,h2,h3,h4⟩|⟨h1,h2⟩
 .rw[a.no h hj hi q h1 h2]at h3;cases h3
 omega
def KZ(h:Ar n F=0){j}(hj:j<n){i}{d}(a:Kr F j i d)(hi:i<nf F j){v}(b:Jb v=true):
  Ca hN d (Bz<|DU F j i) v=GF hN d (Bz<|DU F j i) v/\Kr F j (i+1) (Ca hN d (Bz<|DU F j i) v):=by
 have hky:=G4<|Hg h hj hi;have hv':v.ok=true/\v.kind≠0:=by simpa[Jb]using b
 rcases IZ h hj,a.live,a.turns with⟨hn,h1,h2⟩;refine⟨Hk (oT<|a.place h hj hi) ⟨hv'.2,om,om⟩,Jz Cl a.inv hky hky.1 hv'.1,λp hp=>?_,?_,?_⟩
 .rcases LQ Cl a.inv hky hky.1 hv'.1 with⟨q,a1,a2,a3,_⟩|⟨q,a1,a2,a3,_⟩|⟨a1,a2,a3,_⟩|⟨a1,a2,a3⟩
  all_goals grind [nf,hN,Kr.keys]
 .rcases LQ Cl a.inv hky hky.1 hv'.1 with⟨q,a1,a2,a3,_⟩|⟨q,a1,a2,a3,_⟩|⟨a1,a2,a3,a4,a5⟩|⟨a1,a2,a3⟩
  all_goals omega
 rcases LQ Cl a.inv hky hky.1 hv'.1 with⟨q,a1,a2,a3,_⟩|⟨q,a1,a2,a3,_⟩|⟨a1,a2,a3,a4,a5⟩|⟨a1,a2,a3⟩
 all_goals omega
theorem RA(h:Ar n F=0){j:Nat}(hj:j<n){W:Nat->Vl}(a:∀i,i<nf F j->Jb (W i)=true):∀i,i<=nf F j->Kr F j i (Az F j W i)
 |0,_=>⟨Td,λp hp=>by obtain⟨q,h1,_⟩:=hp;exact absurd h1<|P9 _,⟨Int.le_refl _,Int.le_refl _⟩,⟨Int.le_refl _,Int.le_refl _⟩⟩
 |i+1,hi=>(KZ h hj (RA h hj a i om) om<|a i om).2
def comeC_str{c}{v}(h:BW Ky hN c)(a:k.kind=4)(hl:c.live<500):(Bx hN c k v).m=c.m:=by
 rw[Bx,C3 (λh=>by have h1:k.kind=2:=h.1;omega),C3 (λh=>by have h1:k.kind=2:=h.1;omega),Yb];exact(Hn h hl).2.2.m
structure Sf (F:Nat->Br) (j:Nat) (W:Nat->Vl) (i:Nat) (d:Dc):Prop where
 ls:Kr F j i d
 n:d.n=i
 live:d.live=i
 turns:d.turns=i
 m:d.m=0
 L:∀q,q<i->d.L q=⟨Bz<|DU F j q,W q,(q:Int)+1⟩
theorem F5(h:Ar n F=0){j:Nat}(hj:j<n){W:Nat->Vl}(a:∀i,i<nf F j->Jb (W i)=true):∀i,i<=nf F j->Sf F j W i (Az F j W i)
 |0,hi=>⟨RA h hj a 0 hi,rfl,rfl,rfl,rfl,λq hq=>absurd hq<|P9 _⟩
 |i+1,hi=>by
  have ih:=F5 h hj a i om;have hn:=IZ h hj;obtain⟨e1,e2⟩:=KZ h hj ih.ls om<|a i om;have hky:=G4<|Hg h hj (show i<nf F j by omega);have hv':(W i).ok=true/\(W i).kind≠0:=by simpa[Jb]using a i om
  have hc:Ap hN (Az F j W i)=Az F j W i:=DD<|.inr (by rw[ih.n,ih.live];omega);have e3:Az F j W (i+1)=Bx hN (Az F j W i) (Bz<|DU F j i) (W i):=by
   show Ca hN _ _ _=_;rw[e1];show Bx hN (Ap hN<|Az F j W i) _ _=_;rw[hc]
  have hl:(Az F j W i).live<500:=by rw[ih.live];omega
  obtain⟨_,_,c3,c4,c5,c6⟩:=JV Cl ih.ls.inv.i0 ih.ls.inv.next hky hky.1 hv'.1 hv'.2 (ih.ls.no h hj<|show i<nf F j by omega) hl (by rw[ih.turns];omega);refine⟨e2,by rw[e3,c3,ih.n],by rw[e3,c5,ih.live];push_cast;rfl,by rw[e3,c6,ih.turns];push_cast;rfl,by rw[e3,comeC_str ih.ls.inv.i0 rfl hl,ih.m],λq hq=>?_⟩;rw[e3,c4,ih.n,ih.turns];by_cases e:q=i
  .subst e;exact Ax _ _ _
  rw[Ao _ _ e];exact ih.L q om
def iJ{f}(hf:∀i,(f i).length=m){n}i a us p(hi:i<n)(l:a+us.length<=m)(hl:p.length=m)(hp:∀j,p[j]?=if a<=j/\j<a+us.length then us[j-a]? else(f i)[j]?):MT (JD f n) (i*m+a) us=JD (AM f i p) n:=by
 have c:∀k,(AM f i p k).length=m:=λk=>by
  by_cases e:k=i
  .rw[e,Aj];exact hl
  rw[Ak _ _ e];exact hf k
 have b:=CC hf n;have d:i*m+m<=n*m:=by rw[<-Nat.succ_mul];exact Aat _ hi
 apply AaF;intro q;rw[Vo _ _ _ _ (by rw[b];omega)];by_cases hq:q<n*m
 .have g:0<m:=by grind [MT,JD,AM]
  have h2:q%m<m:=Tn _ g;have e1:q=q/m*m+q%m:=by have:=Nat.div_add_mod q m;rw[AaN]at this;omega
  have h1:q/m<n:=by
   refine Nat.lt_of_not_le λh=>?_;have:=Aat m h;omega
  have g1:(JD f n)[q]?=(f<|q/m)[q%m]?:=by have:=IE hf h1 h2;rwa [<-e1]at this
  have g2:(JD (AM f i p) n)[q]?=(AM f i p<|q/m)[q%m]?:=by have:=IE c h1 h2;rwa [<-e1]at this
  rw[g2];by_cases e:q/m=i
  .grind [MT,JD,AM,Aj]
  rw[Ak _ _ e,g1,C3];rcases Nat.lt_or_gt_of_ne e with h|h
  .have:=Aat m h;grind
  have:=Aat m h;grind
 grind [MT,JD,AM,CC]
def jY H T{n}i h t a us(hi:i<n)(b:a+us.length<=8)(hp:∀j,(IL h t)[j]?=if a<=j/\j<a+us.length then us[j-a]? else(IL (H i)<|T i)[j]?):MT (RY H T n) (i*8+a) us=RY (AM H i h) (AM T i t) n:=by
 unfold RY;rw[iJ (m:=8) (λ_=>rfl) i a us (IL h t) hi b rfl hp];grind [IL,MT,RY,AM,Dt,Aj,Ak]
section
variable {w W:Y} {c B:Nat} {vF vT vS:V9} {H:Nat->Hs} {s:AE}
def SM.Gs(h:SM w c B vF vT vS H s){t g cp}(o:t<s.nt)(A:vT=S9 g s.nt cp)(hb:∀k,k<w.heap.size->¬(H t).own k->W.heap[k]?=w.heap[k]?)(b:W.os=w.os/\W.tape=w.tape/\W.output=w.output/\w.heap.size<=W.heap.size)(a)(us){h'}{t'}(E:a+us.length<=8)(hp:∀j,(IL h' t')[j]?=if a<=j/\j<a+us.length then us[j-a]? else(IL (H t)<|s.T t)[j]?)
  (h1:Cf W B h'.v t'.nv t'.V) (h2:BU W B h'.l t'.d.n t'.d.L) (h3:Bt W B h'.i t'.d.m t'.d.I) (h4:Bt W B h'.x t'.d.x t'.d.X) (h5:∀q,h'.i.ownBlock=some q->h'.x.ownBlock≠some q) (C:∀q,h'.own q->(H t).own q\/w.heap.size<=q):
  SM (Gz g W (t*8+a) us) c B vF vT vS (AM H t h') (Bm s t t')/\BB (Ba c vF vT vS H s.nt) w (Ba c vF vT vS (AM H t h') s.nt) (Gz g W (t*8+a) us):=by
 obtain⟨s1,s2,F,K⟩:=RT (g:=g) us W<|t*8+a;have eb:=P2 (g:=g) us W<|t*8+a;have f:vT.ownBlock=some g:=qm A
 have r:=(h.t.lt g f).2;have p:∀q,h'.own q->q≠g:=λq e e'=>by
  rcases C q e with h7|h7
  .exact(h.apart o h7).2.2.1 (by rw[e'];exact f)
  omega
 have u:¬(H t).own g:=λe=>(h.apart o e).2.2.1 f;refine h.table o ⟨s2.trans b.1,F.trans b.2.1,K.trans b.2.2.1,by rw[s1];exact b.2.2.2⟩ (λk k1 k2 k3=>(eb k λe=>k2<|by rw[e];exact f).trans<|hb k k1 k3) ?_ (Ae h1 λq e=>eb q<|p q<|.inl e) (Ae h2 λq e=>eb q<|p q<|.inr<|.inl e) (Ae h3 λq e=>eb q<|p q<|.inr<|.inr<|.inl e) (Ae h4 λq e=>eb q<|p q<|.inr<|.inr<|.inr e) h5 C;have D:TY W B vT s.nt H s.T:=Ae h.t λq e=>by
  rw[f]at e;cases e;exact hb g r u
 rw[A]at D ⊢;have:=Va (g:=g) us W (t*8+a) _ D
 rwa [jY H s.T t h' t' a us o E hp]at this
end
def Jc(a vb nv vc k:Nat)(v:Vl)(W:Y):Prop:=W.cell? (G a 1)=some (S9 vb nv vc)/\W.cell? (G vb<|k*5)=some (J v.kind)/\W.cell? (G vb<|k*5+1)=some (J v.num)/\W.cell? (G vb<|k*5+2)=some (F9 v.Ah)/\W.cell? (G vb<|k*5+3)=some (.string v.str)/\W.cell? (G vb<|k*5+4)=some (J v.ref)
def Jc.of{a nv vc k}{v}(h:Jc a vb nv vc k v W)(h1:W'.heap[a]?=W.heap[a]?)(h2:W'.heap[vb]?=W.heap[vb]?):Jc a vb nv vc k v W':=
 ⟨(As h1).trans h.1,(As h2).trans h.2.1,(As h2).trans h.2.2.1,(As h2).trans h.2.2.2.1,(As h2).trans h.2.2.2.2.1,(As h2).trans h.2.2.2.2.2⟩
def VZ(c db g nt cp:Nat)(u0 u1 u2:V9)(d:Dc)(W:Y):Prop:=W.cell? (G c 1)=some (S9 g nt cp)/\W.cell? (G db 0)=some u0/\W.cell? (G db 1)=some u1/\W.cell? (G db 2)=some u2/\W.cell? (G db 3)=some (J d.used)/\W.cell? (G db 4)=some (J d.live)/\W.cell? (G db 5)=some (J d.turns)
def SZ{c}{H}(t j:Nat){w}(hM:SM w c B vF vT vS H s)(hG:Kl s)(ht:t<s.nt)(az:(s.T t).shape=j)(hj:j<s.nf)(ao:(s.T t).nv=nf s.F j)(aq:∀i,i<(s.T t).nv->Jb ((s.T t).V i)=true):
  C9 109 #[Q9 c,J t] w λe w'=>(∃u,e=.returned u)/\∃h',SM w' c B vF vT vS (AM H t h') (Bm s t ⟨-1,0,(s.T t).V,Az s.F j (s.T t).V (s.T t).nv⟩)/\BB (Ba c vF vT vS H s.nt) w (Ba c vF vT vS (AM H t h') s.nt) w':=by
 obtain⟨aM,bq,br,_,bt⟩:=Av hG.f;have bu:0<s.nf:=oT aM.1;obtain⟨g,cp,rfl,hg,_,hc,a6⟩:=hM.CA ht;obtain⟨fb,fc,rfl,bw,_,hF⟩:=hM.Lq bu;rcases hM.cells,hM.lt,Au<|hM.v t ht,(hM.l t ht).at,(hM.i t ht).at,(hM.x t ht).at,hM.v t ht with⟨⟨c0,c1,c2,_⟩,a7,⟨va,vc,ev⟩,⟨la,lc,el,bx⟩,⟨ia,ic,ei,bz⟩,⟨xa,xc,ex,b0⟩,au⟩;rw[ev]at au;obtain⟨y0,y1,y2,y3,y4,y5,y6,y7⟩:=qh hc;rw[ev]at y1;rw[el]at y2;rw[ei]at y3;rw[ex]at y4;rw[az]at y0;simp only[Aag]at y0;have cj:(s.T t).nv<=12:=by rw[ao];exact IZ hG.f hj
 have a8:Hid<|∀i,i<=(s.T t).nv->Sf s.F j (s.T t).V i (Az s.F j (s.T t).V i):=O λi hi=>F5 hG.f hj (λq hq=>aq q om) i om;have ax:Hid<|∀k,k<(s.T t).nv->Az s.F j (s.T t).V (k+1)=GF hN (Az s.F j (s.T t).V k) (Bz<|DU s.F j k) ((s.T t).V k)/\Ky (Bz<|DU s.F j k)/\((s.T t).V k).ok=true/\((s.T t).V k).kind≠0/\(∀i,i<(Az s.F j (s.T t).V k).n->((Az s.F j (s.T t).V k).L i).turn≠0->AH ((Az s.F j (s.T t).V k).L i).key (Bz<|DU s.F j k)=false):=O (λk hk=>by
  have hl:=(a8 k om).ls;have hky:=G4<|Hg hG.f hj (show k<nf s.F j by omega);have hv':((s.T t).V k).ok=true/\((s.T t).V k).kind≠0:=by simpa[Jb]using aq k hk
  exact⟨(KZ hG.f hj hl om (aq k hk)).1,hky,hv'.1,hv'.2,hl.no hG.f hj om⟩)
 obtain⟨W,hW,C,ck,o0,_⟩:=TM w (.cells #[J (j:Int),.slice va (s.T t).nv vc,.slice la (s.T t).d.n lc,.slice ia (s.T t).d.m ic,.slice xa (s.T t).d.x xc,J (s.T t).d.used,J (s.T t).d.live,J (s.T t).d.turns] 71)<|.cells #[N9,N9,N9,J 0,J 0,J 0] 69;obtain⟨x0,x1,_⟩:=v8 o0;have bb:AO W (w.heap.size+1) 0 B N9 N9 N9 bU:=⟨om,by rw[hW];simp[go_sem],by rw[hW];simp[go_sem],by rw[hW];simp[go_sem],by rw[hW];simp[go_sem,bU],by rw[hW];simp[go_sem,bU],by rw[hW];simp[go_sem,bU],λq=>by rw[hW];simp[go_sem],IF _ _ _ _,IF _ _ _ _,IF _ _ _ _,λq e=>(by cases e),(by rintro(e|e|e)<;>cases e),oT hM.base⟩;have z0:=(C.cell a7).trans c0;have z1:=(C.cell a7).trans c1;have lw:w.heap.size<W.heap.size:=om;have b1:c<W.heap.size:=om;have b2:fb<W.heap.size:=om;rcases O (hF.below C bw),Xf au C,O hc,O (λq=>(C.frozen hg).trans<|a6 q) with⟨b3,bc,HY,b4⟩;clear hG bt hF bx bz b0 hc aq az ev el ei ex a6;obtain⟨n,hn⟩:=qa<|nf s.F j;rw[<-hn]at ao;have b5:=O hn;have ai:=O ao;clear ao;go_enter func109,ntmps109;go_upto_region 2 with fail
 rw[<-hW];clear hW y0 y1 y2 y3 y4 y5 y6 y7 c0 c1 c2
 go_region_law (go_simp;go_at_call 94;refine(Iq fc j (b3.below (BE _ _).drew b2) aM bq br hj).mono ?_;rintro e w1 ⟨⟨m',rfl,hm,ad⟩,D⟩;rw[<-hn]at ad;have y1:=o7 D lw x1;have cl:w.heap.size+1<w1.heap.size:=(by have:W.heap.size<=w1.heap.size:=D.size;omega);have b6:=RC ad;have ae:B9 W w1:=⟨D.os,D.tape,D.output,D.size,λk hk=>D.block k hk⟩;have b7:=O<|bb.below ae;have b8:=O<|Xf bc ae;have ah:=O ae;have b9:=O ad;have cm:W.heap.size<=m':=hm;clear D ae ad hm)
 all_goals
  clear hn x0 x1 z0 bc bb;go_wp2;simp only[Act.put,AaQ,AaI,AaH,XN,AaW,AaV];rw[<-z b5];go_loopw [23] (λi wr=>∃(k:Nat) (u0 u1 u2:V9),k<=n/\i=J k/\AO wr (w.heap.size+1) 0 B u0 u1 u2 (Az s.F j (s.T t).V k)/\CN (w.heap.size+1) 0 N9 N9 N9 w1 u0 u1 u2 wr) (λi _=>n-(intOf i).toNat)
  .exact⟨0,_,_,_,om,rfl,b7,CN.refl _ _ _ _ _ _⟩
  obtain⟨k,u0,u1,u2,hk,rfl,A,o⟩:=hrel;have a:∀b,b<w1.heap.size->b≠w.heap.size+1->wr.heap[b]?=w1.heap[b]?:=λb h1 h2=>o.block b h1 h2 (by rintro(e|e|e)<;>cases e);have cn:=o.size;by_cases ca:k<n
  case neg=>
   have cb:k=n:=om;subst cb;have cq:=O o;obtain⟨E,I,M,P,Q,R,rfl,rfl,rfl,_⟩:=A.ptr;have r:∀b,b<w.heap.size->wr.heap[b]?=w.heap[b]?:=λb h=>(a b om om).trans<|(ah.block b om).trans<|C.block b h;rcases (As<|r g hg).trans (HY 0 _ rfl),(As<|r g hg).trans<|HY 1 _ rfl,(As<|r g hg).trans<|HY 2 _ rfl,(As<|r g hg).trans<|HY 3 _ rfl,(As<|r g hg).trans<|HY 4 _ rfl,(As<|r g hg).trans<|HY 5 _ rfl,(As<|r g hg).trans<|HY 6 _ rfl,(As<|r g hg).trans (HY 7 _ rfl) with⟨y0,y1,y2,y3,y4,y5,y6,y7⟩;simp only[Aag]at y0;have aj:=O (SM.Gs hM (t:=t) (W:=wr) ht rfl (λb h _=>r b h) ⟨o.os.trans<|ah.os.trans C.os,o.tape.trans<|ah.tape.trans C.tape,o.output.trans<|ah.output.trans C.output,om⟩ 0 (IL ⟨N9,.slice E (Az s.F j (s.T t).V k).n I,.slice M (Az s.F j (s.T t).V k).m P,.slice Q (Az s.F j (s.T t).V k).x R⟩ ⟨-1,0,(s.T t).V,Az s.F j (s.T t).V k⟩) (h':=⟨N9,.slice E (Az s.F j (s.T t).V k).n I,.slice M (Az s.F j (s.T t).V k).m P,.slice Q (Az s.F j (s.T t).V k).x R⟩) (t':=⟨-1,0,(s.T t).V,Az s.F j (s.T t).V k⟩) (by simp[IL]) (λq=>by
    by_cases e:q<8
    .rw[DD (by simp[IL];omega),Nat.sub_zero]
    .rw[C3 (by simp[IL];omega),Aab (by simp[IL];omega),Aab (by simp[IL];omega)]) (IF _ _ _ _) A.log A.ints A.index A.ap (by
    rintro q (e|e)
    .cases e
    rcases o.sub q e with e'|e'
    .rcases e' with e'|e'|e'<;>cases e'
    exact .inr om))
   have bd:=a g om om;have bf:=a c om om;have Z:VZ c (w.heap.size+1) g s.nt cp (.slice E (Az s.F j (s.T t).V k).n I) (.slice M (Az s.F j (s.T t).V k).m P) (.slice Q (Az s.F j (s.T t).V k).x R) (Az s.F j (s.T t).V k) wr.drew:=⟨(As bf).trans<|(ah.cell (p:=G c 1) b1).trans z1,A.c0,A.c1,A.c2,A.c3,A.c4,A.c5⟩;have cc:Hid<|∀q,wr.frozen? (G g q)=false:=O λq=>(GW bd).trans<|o8 ah (by show g<W.heap.size;omega)<|b4 q;have cr:=z cc;have cd:c≠g:=λe=>hM.Bc hM.t oo<|qm e;obtain⟨W8,ar⟩:∃W8:World,W8=((((((((wr.setCell (G g<|t*8)<|J (-1)).setCell (G g<|t*8+1) N9).setCell (G g<|t*8+2)<|.slice E (Az s.F j (s.T t).V k).n I).setCell (G g<|t*8+3)<|.slice M (Az s.F j (s.T t).V k).m P).setCell (G g<|t*8+4)<|.slice Q (Az s.F j (s.T t).V k).x R).setCell (G g<|t*8+5)<|J (Az s.F j (s.T t).V k).used).setCell (G g<|t*8+6)<|J (Az s.F j (s.T t).V k).live).setCell (G g<|t*8+7)<|J (Az s.F j (s.T t).V k).turns):=⟨_,rfl⟩;have S:∀b,b≠g->W8.heap[b]?=wr.heap[b]?:=λb hb=>by
    rw[ar];iterate 8 rw[At _ _ _ _ (by exact hb)]
   have cg:Hid<|VZ c (w.heap.size+1) g s.nt cp (.slice E (Az s.F j (s.T t).V k).n I) (.slice M (Az s.F j (s.T t).V k).m P) (.slice Q (Az s.F j (s.T t).V k).x R) (Az s.F j (s.T t).V k) W8.drew:=O ⟨(As<|S c cd).trans Z.1,(As<|S (w.heap.size+1) om).trans A.c0,(As<|S (w.heap.size+1) om).trans A.c1,(As<|S (w.heap.size+1) om).trans A.c2,(As<|S (w.heap.size+1) om).trans A.c3,(As<|S (w.heap.size+1) om).trans A.c4,(As<|S (w.heap.size+1) om).trans A.c5⟩;have ag:Hid<|SM W8 c B (S9 fb s.nf fc) (S9 g s.nt cp) vS (AM H t ⟨N9,.slice E (Az s.F j (s.T t).V k).n I,.slice M (Az s.F j (s.T t).V k).m P,.slice Q (Az s.F j (s.T t).V k).x R⟩) (Bm s t ⟨-1,0,(s.T t).V,Az s.F j (s.T t).V k⟩)/\BB (Ba c (S9 fb s.nf fc) (S9 g s.nt cp) vS H s.nt) w (Ba c (S9 fb s.nf fc) (S9 g s.nt cp) vS (AM H t ⟨N9,.slice E (Az s.F j (s.T t).V k).n I,.slice M (Az s.F j (s.T t).V k).m P,.slice Q (Az s.F j (s.T t).V k).x R⟩) s.nt) W8:=O (by rw[ar];exact aj);have ch:=O ar;clear A o a bd bf r S ar aj;go_wp2_with fail;refine Hx (VZ c (w.heap.size+1) g s.nt cp (.slice E (Az s.F j (s.T t).V k).n I) (.slice M (Az s.F j (s.T t).V k).m P) (.slice Q (Az s.F j (s.T t).V k).x R)<|Az s.F j (s.T t).V k) ?_;refine tz 0 (h:=tz 1 (h:=tz 2 (h:=tz 3 (h:=tz 4 (h:=tz 5 (h:=tz 6 (h:=tz 7 (h:=?_))))))));refine ry 8 λK hK=>?_;go_simp;rw[<-z ch];refine hK.out _ _ cg λ_=>?_;clear hK K Z;refine FI ?_;go_wp2;go_end0;rw[z ai];exact⟨⟨_,rfl⟩,_,ag.1.keep λ_ _=>rfl,ag.2.os,ag.2.tape,ag.2.output,ag.2.size,ag.2.block,ag.2.own⟩
  have bg:k<(s.T t).nv:=oT<|z ai;obtain⟨f1,f2,f3,f4,f5⟩:=z ax k bg;have U:=z a8 k om;obtain⟨vb,rfl,ct⟩:∃vb,va=some (G vb 0)/\vb<w.heap.size:=by
   obtain⟨hl,⟨hv,h0⟩|⟨g,cp,cur,hv,_,ay,_⟩⟩:=id au
   .omega
   cases hv;exact⟨_,rfl,Ai ay⟩
  obtain⟨e0,e1,e2,e3,e4⟩:=Cf.at b8 bg;have bh:=a w.heap.size om om;have bj:=a vb om om;have Z:=Jc.of (W:=w1) ⟨y1,e0,e1,e2,e3,e4⟩ bh bj;have q0:wr.cell? (G m' k)=some (.string<|DU s.F j k):=(As<|a m' b6 om).trans<|World.rowIs.cell b9 ca;have cu:m'<wr.heap.size:=om;have af:Hid<|∀w2,B9 wr w2->C9 133 #[Q9 (w.heap.size+1),V 4 0 0 (DU s.F j k) 0,Ga ((s.T t).V k)] w2 λe w3=>((∃u,e=.returned u)/\∃a0 a1 a2,AO w3 (w.heap.size+1) 0 B a0 a1 a2 (Az s.F j (s.T t).V<|k+1)/\CN (w.heap.size+1) 0 N9 N9 N9 w1 a0 a1 a2 w3)/\Jc w.heap.size vb (s.T t).nv vc k ((s.T t).V k) w3:=O (λw2 h2=>by
   refine(Ps Cl ((s.T t).V k) (A.below h2) (U.ls.inv.small (by rw[U.m];omega)) U.ls.inv.i0 U.ls.inv.next Yo f2 f2.1 f3 f4 f5 (by rw[U.live];omega) (by rw[U.turns];omega) (by rw[U.m];omega)).mono ?_;rintro e w3 ⟨hu,a0,a1,a2,av,aw⟩;have hS:=(o.trans (CN.Am h2 om)).trans aw;have bk:∀b,b<w1.heap.size->b≠w.heap.size+1->w3.heap[b]?=w1.heap[b]?:=λb h1 h2=>hS.block b h1 h2 (by rintro(e|e|e)<;>cases e);exact⟨⟨hu,a0,a1,a2,by rw[f1];exact av,hS⟩,Jc.of (W:=w1) ⟨y1,e0,e1,e2,e3,e4⟩ (bk _ om om) (bk _ om om)⟩)
  clear A o a U f1 f2 f3 f4 f5 e0 e1 e2 e3 e4 bh bj;go_wp2_with fail;have Z:Jc w.heap.size vb (s.T t).nv vc k ((s.T t).V k) wr.drew:=Z;refine Hx (Jc w.heap.size vb (s.T t).nv vc k<|(s.T t).V k) ?_;refine tz 0 (h:=tz 2 (h:=tz 3 (h:=tz 4 (h:=tz 5 (h:=tz 6 (h:=?_))))));refine ry 1 λK hK=>?_;go_simp;refine m9 (fM (DU s.F j k) _) λw2 X=>?_;have ak:B9 wr w2:=⟨X.os,X.tape,X.output,X.size,λk hk=>X.block k hk⟩;have bm:=Z.of (X.block _<|by show w.heap.size<wr.heap.size;omega)<|X.block _ (by show vb<wr.heap.size;omega);have bn:=O<|af w2 ak;refine hK.out _ _ bm λ_=>?_;clear hK K Z af X ak;refine ry 7 λK hK=>?_;go_simp;refine bn.mono ?_;rintro e w3 ⟨⟨⟨uu,rfl⟩,a0,a1,a2,av,aw⟩,bp⟩;refine hK.out _ _ bp λ_=>?_;clear hK K bp bm bn;refine FI ?_;go_wp2;go_roundw
  .exact⟨k+1,a0,a1,a2,om,ov,av,aw⟩
  exact ow
def fL{K}(KL:KeyLaw K hf){c o B}{v0 v1 v2}{d}p{w}(hM:AO w c o B v0 v1 v2 d)(hS:Small d)(hI:BW K hf d)(hN:Next d)(hh:∀v,K v->YZ v (hf v))(hp:p<d.n)(bp:(d.L p).turn≠0):
  C9 134 #[Pc c o,J p] w λe w'=>((∃u,e=.returned u)/\∃u0 u1 u2,AO w' c o B u0 u1 u2 (Wv hf d p)/\CN c o v0 v1 v2 w u0 u1 u2 w'):=by
 obtain⟨g,cp,rfl,dt,du,dv,T,af⟩:=hM.log.form om;rcases T p hp,hS.n,hS.m,hI.le with⟨⟨p0,p1,p2,p3,p4,_,_,_,_,_,_⟩,hn,hm,dn⟩;have dp:0<=d.live:=oT hI.log.CX;have dw:g≠c:=λe=>hM.nc<|.inl (by rw[<-e];rfl);obtain⟨k,hk⟩:=qa<|(d.L p).key;rw[<-hk]at p0 p1 p2 p3 p4;have hK:K k:=by rw[hk];exact hI.keys p hp bp
 obtain⟨W,hW,bq,_⟩:=Ll w<|.cells (qi k) 32;have bk:TR W c (S9 g d.n cp) v1 v2 w.heap.size k:=⟨by constructor<;>rw[hW]<;>simp[go_sem]<;>omega,λe=>oT hM.lt,λe=>oT (hM.NM e).2⟩;rcases hM.c0,hM.lt,hM.below bq with⟨c0,P,t⟩;have ck:CN c o (S9 g d.n cp) v1 v2 w (S9 g d.n cp) v1 v2 W:=CN.Am bq hM.lt;rcases O hh,O hK,O bp,t.ints.at,t.index.at with⟨HH,HK,ag,⟨ia,ic,e1,b5⟩,⟨xa,xc,e2,b6⟩⟩;have cl:Hid (0<d.m->∃g cp,v1=S9 g d.m cp):=O (λh=>by obtain⟨g,cp,h,_⟩:=t.ints.form h;exact⟨g,cp,h⟩);have cm:Hid (0<d.x->∃g cp,v2=S9 g d.x cp):=O (λh=>by obtain⟨g,cp,h,_⟩:=t.index.form h;exact⟨g,cp,h⟩);have b7:Hid<|Ia W c o (some<|G g 0) cp ia ic xa xc d:=O ⟨t.lt,t.c0,by rw[(z t).c1,e1],by rw[(z t).c2,e2],t.c3,t.c4,t.c5,by obtain⟨a,cp,e,h⟩:=t.log.at;cases e;exact h,b5,b6⟩;subst e1 e2;have ah:=O hk;clear hM bq hh hK bp b5 b6 T af hk;go_enter func134,ntmps134;go_wp2_with fail;rw[<-hW];obtain⟨bl,k0,k1,k2,k3,k4⟩:=bk.box;refine m9 (GJ k b7 hS) λw1 br=>?_;have ae:CN c o (S9 g d.n cp) (.slice ia d.m ic) (.slice xa d.x xc) W (S9 g d.n cp) (.slice ia d.m ic) (.slice xa d.x xc) w1:=CN.Am br t.lt;rcases t.below br,ck.trans ae,bk.step ae,b7.below br with⟨R,b8,a6,cn⟩;rcases a6.box,R.lt,R.c1,R.c2 with⟨⟨bl,k0,k1,k2,k3,k4⟩,P,c1,c2⟩;by_cases hs:AA d.m k
 .rw[Al hs];have HR:Hid<|GG hf d p=goSmall d p:=O<|J0 (by rw[<-z ah];exact hs);obtain⟨s1,s2,s3⟩:=hs;obtain⟨q,hq⟩:∃q:Nat,k.num=(q:Int)+1:=⟨(k.num-1).toNat,om⟩;have b9:q<d.m:=om;have cq:((d.L p).key.num-1).toNat=q:=by rw[<-z ah,hq];omega
  obtain⟨A,dx,eg⟩:=z cl om;cases eg;obtain⟨g',cp',C,cr,ct,b0,hcs,af⟩:=R.ints.form om;cases C;have e0:=hcs q b9;have f0:=af q;have ca:A≠c:=λe=>R.nc<|.inr<|.inl (by rw[<-e];rfl);have dy:IntKind.i64.wrap (q:Int)=q:=oj;have cu:=R.Xp b9 0;have b1:CN c o (S9 g d.n cp) (S9 A d.m ic) (.slice xa d.x xc) w1 (S9 g d.n cp) (S9 A d.m ic) (.slice xa d.x xc)<|w1.setCell (G A q)<|J 0:=DJ (q:=q) (J 0) (.inr<|.inl rfl) ca;obtain⟨W2,bg⟩:=qa<|(w1.setCell (G A q)<|J 0).drew;have cv:AO W2 c o B (S9 g d.n cp) (S9 A d.m ic) (.slice xa d.x xc) {d with I:=AW d.I q 0}:=by rw[bg];exact cu.below (BE _ _).drew
  have bt:=b8.trans<|b1.trans<|CN.Am (BE _ _).drew (by simpa using P);rw[<-bg]at bt;have S:=O cv;have bu:=O bt;rw[hq]at k1;go_wp2_with fail
  go_region
  rw[<-bg];clear bg e0 f0 c1 c2 P bl k0 k1 k2 k3 k4;have c1:=S.c1;have P:=S.lt;obtain⟨g',cp',C,cr,ct,b0,hcs,af⟩:=S.ints.form (by show 0<d.m;omega);cases C;have hcs:∀i,i<d.m->W2.cell? (G A i)=some (J<|AW d.I q 0 i):=hcs;have bh:=O hcs;clear hcs af;go_wp2_with fail;go_loopw [5] (λa wr=>∃j:Nat,a=J (j:Int)/\j<=d.m/\shrink (AW d.I q 0) d.m=shrink (AW d.I q 0) j/\wr=W2) λa _=>(intOf a).toNat
  .exact⟨d.m,rfl,Be _,rfl,rfl⟩
  obtain⟨j,rfl,hj,cb,rfl⟩:=hrel;by_cases bw:∃i,j=i+1/\AW d.I q 0 i=0
  .obtain⟨i,rfl,hz⟩:=bw;have e0:=z bh i om;rw[hz]at e0;have aj:=O<|cb.trans<|JH hz;go_wp2;go_roundw
   .exact⟨i,ov,om,aj,by first|rfl|trivial⟩
   simp[intOf]
  have aj:Hid<|shrink (AW d.I q 0) d.m=j:=O (by
   rw[cb];cases j with
   |zero=>rfl
   |succ i=>exact JG (λe=>bw ⟨i,rfl,e⟩))
  have bx:Hid<|∀(Q:Prop),(j=0->Q)->(∀i,j=i+1->AW d.I q 0 i≠0->Q)->Q:=O (λQ h1 h2=>by
   cases j with
   |zero=>exact h1 rfl
   |succ i=>exact h2 i rfl (λe=>bw ⟨i,rfl,e⟩))
  have cw:=AO.Oi S (Bt.cut S.ints hj) (λe=>ca<|ownB e) λq' e e'=>S.ap q' (by rw[<-ownB e];rfl) e';have bj:=bu.trans<|Cn (o:=o) (v0:=S9 g d.n cp) (v1:=S9 A d.m ic) (v2:=.slice xa d.x xc) (u0:=S9 g d.n cp) (u1:=S9 A j ic) (u2:=.slice xa d.x xc) (w:=wr) (q:=o+1) (S9 A j ic) om λb e=>.inl<|e.elim .inl λe=>e.elim (λe=>.inr<|.inl<|by rw[<-ownB e];rfl) λe=>.inr<|.inr e;have l:=O cw;have bm:=O bj;have ai:Hid<|GG hf d p={d with I:=AW d.I q 0,m:=j,L:=AW d.L p default,live:=d.live-1}:=O (by
   rw[z HR];unfold goSmall;rw[cq,z aj];rfl)
  have bn:Hid<|(GG hf d p).m<=d.m:=O (by rw[z ai];exact hj);have dz:=S.fz<|o+1;refine bx _ (λcx=>?_) λi cy hz=>?_
  .clear bx aj bh;subst cx;obtain⟨g',cp',C,a7,a8,bb,T,f⟩:=l.log.form (by show 0<d.n;omega);cases C;rcases T p hp,f<|p*11,f<|p*11+1,f<|p*11+2,f<|p*11+3,f<|p*11+4,f<|p*11+5,f<|p*11+6,f<|p*11+7,f<|p*11+8,f<|p*11+9,f<|p*11+10,l.c0 with⟨⟨y0,y1,y2,y3,y4,y5,y6,y7,y8,y9,cc⟩,z0,z1,z2,z3,z4,z5,z6,z7,z8,z9,cd,c0⟩;have c4:(wr.setCell (G c<|o+1)<|S9 A 0 ic).cell? (G c<|o+4)=some (J d.live):=l.c4;rcases l.fz (o+4),l.lt,AO.kill (d:={d with I:=AW d.I q 0,m:=0}) l hp with⟨f4,P,⟨ak,DM⟩⟩;have ao:=AO.GQ ak<|d.live-1;have aq:=(bm.trans DM).trans<|Cn (o:=o) (v0:=S9 g d.n cp) (q:=o+4) (J<|d.live-1) om λb e=>.inl e;have U:AO ((Gz g (wr.setCell (G c<|o+1)<|S9 A 0 ic) (p*11+0)<|DA default).setCell (G c<|o+4)<|J<|d.live-1) c o B (S9 g d.n cp) (S9 A 0 ic) (.slice xa d.x xc)<|GG hf d p:=by rw[z ai];exact ao
   obtain⟨Y,D⟩:=qa<|((((((((((((wr.setCell (G c<|o+1)<|S9 A 0 ic).setCell (G g<|p*11)<|J 0).setCell (G g<|p*11+1)<|J 0).setCell (G g<|p*11+2)<|F9 0).setCell (G g<|p*11+3) E9).setCell (G g<|p*11+4)<|J 0).setCell (G g<|p*11+5)<|J 0).setCell (G g<|p*11+6)<|J 0).setCell (G g<|p*11+7)<|F9 0).setCell (G g<|p*11+8) E9).setCell (G g<|p*11+9)<|J 0).setCell (G g<|p*11+10)<|J 0).setCell (G c<|o+4)<|J<|d.live-1;have ar:AO Y c o B (S9 g d.n cp) (S9 A 0 ic) (.slice xa d.x xc)<|GG hf d p:=by rw[D];exact U
   have au:CN c o (S9 g d.n cp) (S9 A d.m ic) (.slice xa d.x xc) w (S9 g d.n cp) (S9 A 0 ic) (.slice xa d.x xc) Y:=by rw[D];exact aq
   have r:=(Fq KL hI hN hp ag).1;rcases O r.core,r.sz,(Fq KL hI hN hp ag).2.2.1,z bn with⟨av,aw,ax,cg⟩;have ay:Hid<|Small<|GG hf d p:=O ⟨by rw[ax];exact hn,om,by unfold GB at aw;omega⟩;go_wp2_with fail;rw[<-D];refine(Fu hf ar ay av HH).mono ?_;rintro e ch ⟨⟨u,rfl⟩,t0,t2,F,H⟩;have Z:=O F;have ad:=au.trans H;clear F H;go_wp2;go_end0;exact⟨⟨_,rfl⟩,_,_,_,Z,ad⟩
  have e0:=z bh i om;have dC:(AW d.I q 0 i==0)=false:=by simp[hz]
  have dq:(j:Int)-1=(i:Int):=om;clear bx aj bh cy hz;obtain⟨g',cp',C,a7,a8,bb,T,f⟩:=l.log.form (by show 0<d.n;omega);cases C;rcases T p hp,f<|p*11,f<|p*11+1,f<|p*11+2,f<|p*11+3,f<|p*11+4,f<|p*11+5,f<|p*11+6,f<|p*11+7,f<|p*11+8,f<|p*11+9,f<|p*11+10,l.c0 with⟨⟨y0,y1,y2,y3,y4,y5,y6,y7,y8,y9,cc⟩,z0,z1,z2,z3,z4,z5,z6,z7,z8,z9,cd,c0⟩;have c4:(wr.setCell (G c<|o+1)<|S9 A j ic).cell? (G c<|o+4)=some (J d.live):=l.c4;rcases l.fz (o+4),l.lt,AO.kill (d:={d with I:=AW d.I q 0,m:=j}) l hp with⟨f4,P,⟨ak,DM⟩⟩;have ao:=AO.GQ ak<|d.live-1;have aq:=(bm.trans DM).trans<|Cn (o:=o) (v0:=S9 g d.n cp) (q:=o+4) (J<|d.live-1) om λb e=>.inl e;have U:AO ((Gz g (wr.setCell (G c<|o+1)<|S9 A j ic) (p*11+0)<|DA default).setCell (G c<|o+4)<|J<|d.live-1) c o B (S9 g d.n cp) (S9 A j ic) (.slice xa d.x xc)<|GG hf d p:=by rw[z ai];exact ao
  obtain⟨Y,D⟩:=qa<|((((((((((((wr.setCell (G c<|o+1)<|S9 A j ic).setCell (G g<|p*11)<|J 0).setCell (G g<|p*11+1)<|J 0).setCell (G g<|p*11+2)<|F9 0).setCell (G g<|p*11+3) E9).setCell (G g<|p*11+4)<|J 0).setCell (G g<|p*11+5)<|J 0).setCell (G g<|p*11+6)<|J 0).setCell (G g<|p*11+7)<|F9 0).setCell (G g<|p*11+8) E9).setCell (G g<|p*11+9)<|J 0).setCell (G g<|p*11+10)<|J 0).setCell (G c<|o+4)<|J<|d.live-1;have ar:AO Y c o B (S9 g d.n cp) (S9 A j ic) (.slice xa d.x xc)<|GG hf d p:=by rw[D];exact U
  have au:CN c o (S9 g d.n cp) (S9 A d.m ic) (.slice xa d.x xc) w (S9 g d.n cp) (S9 A j ic) (.slice xa d.x xc) Y:=by rw[D];exact aq
  have r:=(Fq KL hI hN hp ag).1;rcases O r.core,r.sz,(Fq KL hI hN hp ag).2.2.1,z bn with⟨av,aw,ax,cg⟩;have ay:Hid<|Small<|GG hf d p:=O ⟨by rw[ax];exact hn,om,by unfold GB at aw;omega⟩;go_wp2_with fail;rw[<-D];refine(Fu hf ar ay av HH).mono ?_;rintro e ch ⟨⟨u,rfl⟩,t0,t2,F,H⟩;have Z:=O F;have ad:=au.trans H;go_wp2;go_end0;exact⟨⟨_,rfl⟩,_,_,_,Z,ad⟩
 rw[Ag hs];obtain⟨s,cj,bt,bj⟩:=hI.found KL HK ⟨hp,ag,by rw[<-z ah];exact hs⟩ (by rw[<-z ah];exact KL.refl _ HK);have HR:=O<|Lu (by rw[<-z ah];exact hs) (by rw[<-z ah];exact bj);obtain⟨M,dU,eg⟩:=z cm om;cases eg;obtain⟨g',cp',C,ea,cz,dr,hcs,af⟩:=R.index.form om;cases C;have e0:=hcs s cj;have f0:=af s;have bz:M≠c:=λe=>R.nc<|.inr<|.inr (by rw[<-e];rfl);have eb:c≠M:=λe=>bz e.symm;have cD:w.heap.size≠M:=λe=>a6.no<|.inr<|.inr<|qm e;have az:M≠w.heap.size:=λe=>cD e.symm;have bf:Hid (∀W:World,Ia W c o (some<|G g 0) cp ia ic (some<|G M 0) xc d->C9 136 #[Pc c o,V k.kind k.num k.Ah k.str k.ref] W (R9 (J (s:Int)) W)):=O (λW hP=>by
  have h:=KU hP hS hI.d4 (HH k HK);rw[bj]at h;exact h)
 rcases R.below (BE _ _).drew,b8.trans<|CN.Am (BE _ _).drew P,cn.below (BE _ _).drew with⟨b2,b3,b4⟩;have cN:w1.drew.cell? (G c<|o+2)=some (S9 M d.x xc):=c2;have c6:w1.drew.cell? (y w 0)=some (J k.kind):=k0;have c7:w1.drew.cell? (y w 1)=some (J k.num):=k1;have c8:w1.drew.cell? (y w 2)=some (F9 k.Ah):=k2;have c9:w1.drew.cell? (y w 3)=some (.string k.str):=k3;have da:w1.drew.cell? (y w 4)=some (J k.ref):=k4;have bc:c<w1.drew.heap.size:=P;have aM:w.heap.size<w1.drew.heap.size:=bl;have bd:M<w1.drew.heap.size:=cz;have dc:=O<|show w1.drew.cell? (G M s)=some (J<|d.X s)from e0;have dd:=O<|show w1.drew.frozen? (G M s)=false from f0;go_wp2_with fail
 go_region_held3 (λw'=>w'.cell? (G c<|o+2)=some (S9 M d.x xc)/\w'.cell? (y w 0)=some (J k.kind)/\w'.cell? (y w 1)=some (J k.num)/\w'.cell? (y w 2)=some (F9 k.Ah)/\w'.cell? (y w 3)=some (.string k.str)/\w'.cell? (y w 4)=some (J k.ref)) (first|(with_reducible exact⟨ol,ol,ol,ol,ol,ol⟩)|(exact⟨(Aq bz).trans df,(Aq az).trans dh,(Aq az).trans di,(Aq az).trans dj,(Aq az).trans dk,(Aq az).trans dm⟩)|go_keep)
  (first|(go_at_call 136;refine(bf _ b4).mono ?_;rintro e w2 ⟨rfl,E⟩;have df:=o7 E bc cN;have dh:=o7 E aM c6;have di:=o7 E aM c7;have dj:=o7 E aM c8;have dk:=o7 E aM c9;have dm:=o7 E aM da;have e0:=o7 E bd dc;have f0:=o8 E bd dd;have S:=O<|b2.below E;have bu:=O<|b3.trans<|CN.Am E bc;clear E))
 have l:=S.PR cj (-1);have bm:=bu.trans<|DJ (o:=o) (v0:=S9 g d.n cp) (v1:=.slice ia d.m ic) (v2:=S9 M d.x xc) (q:=s) (J (-1)) (.inr<|.inr rfl) bz;have ai:Hid<|GG hf d p={d with X:=AW d.X s (-1),L:=AW d.L p default,live:=d.live-1}:=O<|ql HR;have bn:Hid<|(GG hf d p).m<=d.m:=O (by rw[z ai];exact Be _);obtain⟨g',cp',C,a7,a8,bb,T,f⟩:=l.log.form (by show 0<d.n;omega);cases C;rcases T p hp,f<|p*11,f<|p*11+1,f<|p*11+2,f<|p*11+3,f<|p*11+4,f<|p*11+5,f<|p*11+6,f<|p*11+7,f<|p*11+8,f<|p*11+9,f<|p*11+10,l.c0 with⟨⟨y0,y1,y2,y3,y4,y5,y6,y7,y8,y9,cc⟩,z0,z1,z2,z3,z4,z5,z6,z7,z8,z9,cd,c0⟩;have c4:(w2.setCell (G M s)<|J (-1)).cell? (G c<|o+4)=some (J d.live):=l.c4;rcases l.fz (o+4),l.lt,AO.kill (d:={d with X:=AW d.X s (-1)}) l hp with⟨f4,P,⟨ak,DM⟩⟩;have ao:=AO.GQ ak<|d.live-1;have aq:=(bm.trans DM).trans<|Cn (o:=o) (v0:=S9 g d.n cp) (q:=o+4) (J<|d.live-1) om λb e=>.inl e;have U:AO ((Gz g (w2.setCell (G M s)<|J (-1)) (p*11+0)<|DA default).setCell (G c<|o+4)<|J<|d.live-1) c o B (S9 g d.n cp) (.slice ia d.m ic) (S9 M d.x xc)<|GG hf d p:=by rw[z ai];exact ao
 obtain⟨Y,D⟩:=qa<|((((((((((((w2.setCell (G M s)<|J (-1)).setCell (G g<|p*11)<|J 0).setCell (G g<|p*11+1)<|J 0).setCell (G g<|p*11+2)<|F9 0).setCell (G g<|p*11+3) E9).setCell (G g<|p*11+4)<|J 0).setCell (G g<|p*11+5)<|J 0).setCell (G g<|p*11+6)<|J 0).setCell (G g<|p*11+7)<|F9 0).setCell (G g<|p*11+8) E9).setCell (G g<|p*11+9)<|J 0).setCell (G g<|p*11+10)<|J 0).setCell (G c<|o+4)<|J<|d.live-1;have ar:AO Y c o B (S9 g d.n cp) (.slice ia d.m ic) (S9 M d.x xc)<|GG hf d p:=by rw[D];exact U
 have au:CN c o (S9 g d.n cp) (.slice ia d.m ic) (S9 M d.x xc) w (S9 g d.n cp) (.slice ia d.m ic) (S9 M d.x xc) Y:=by rw[D];exact aq
 have r:=(Fq KL hI hN hp ag).1;rcases O r.core,r.sz,(Fq KL hI hN hp ag).2.2.1,z bn with⟨av,aw,ax,cg⟩;have ay:Hid<|Small<|GG hf d p:=O ⟨by rw[ax];exact hn,om,by unfold GB at aw;omega⟩;go_wp2_with fail;rw[<-D];refine(Fu hf ar ay av HH).mono ?_;rintro e ch ⟨⟨u,rfl⟩,t0,t2,F,H⟩;have Z:=O F;have ad:=au.trans H;go_wp2;go_end0;exact⟨⟨_,rfl⟩,_,_,_,Z,ad⟩
def ZS{K}(R:KeyLaw K hf){c o B}{v0 v1 v2}{d}{k}(v){w}(H:AO w c o B v0 v1 v2 d)(M:Small d)(t:Inv K hf d)(hh:∀v,K v->YZ v (hf v))
  (hk:K k) (S:Ch k=true) (hv:v.ok=true) (T:d.m<=4000000):
  C9 110 #[Pc c o,V k.kind k.num k.Ah k.str k.ref,V v.kind v.num v.Ah v.str v.ref] w λe w'=>((∃u,e=.returned u)/\∃u0 u1 u2,AO w' c o B u0 u1 u2 (Ca hf d k v)/\CN c o v0 v1 v2 w u0 u1 u2 w'):=by
 have C:B9 w<|(w.alloc<|.cells (qi k) 32).alloc<|.cells (qi v) 32:=(n9).alloc oq _;obtain⟨W,P⟩:=qa<|(w.alloc<|.cells (qi k) 32).alloc<|.cells (qi v) 32;rw[<-P]at C;have D:=H.below C;have bk:TR W c v0 v1 v2 w.heap.size k:=⟨by constructor<;>rw[P]<;>simp[go_sem]<;>omega,λe=>oT H.lt,λe=>oT (H.NM e).2⟩;have bv:TR W c v0 v1 v2 (w.heap.size+1) v:=⟨by constructor<;>rw[P]<;>simp[go_sem]<;>omega,λe=>oT H.lt,λe=>oT (H.NM e).2⟩;have U:CN c o v0 v1 v2 w v0 v1 v2 W:=CN.Am C H.lt;obtain⟨la,lc,ia,ic,xa,xc,e0,e1,e2,hP⟩:=D.ptr;subst e0 e1 e2;have hn:=M.n;have aj:=t.i0.le;have ak:0<=d.live:=oT t.i0.log.CX;rcases t.i0.turns,O hh,O (qp hk<|qp S hv) with⟨ao,X,HK⟩;go_enter func110,ntmps110;go_wp2_with fail;rw[<-P];obtain⟨bl,k0,k1,k2,k3,k4⟩:=bk.box;refine m9 (Jq hP M t.i0.d3 t.i0.d4<|X k HK.1) λw1 I=>?_;have l:CN c o (.slice la d.n lc) (.slice ia d.m ic) (.slice xa d.x xc) W (.slice la d.n lc) (.slice ia d.m ic) (.slice xa d.x xc) w1:=CN.Am I D.lt;rcases D.below I,U.trans l,bv.step l,(z<|bk.step l).box with⟨a,j,A,⟨bl,k0,k1,k2,k3,k4⟩⟩;rcases A.box,a.c0,a.c4,a.c5 with⟨⟨aq,q0,q1,q2,q3,q4⟩,c0,c4,c5⟩;rcases z (O<|t.i0.place R hk)with⟨i,hi,Z,ar,p⟩|⟨ad,p⟩
 .rw[p];by_cases b:v.kind=0
  .have q:Hid<|Ca hf d k v=Wv hf d i:=O (by rw[Og om b,p];rfl);have r:(v.kind==0)=true:=by simp[b]
   go_wp2_with fail
   refine(fL R i a M t.i0 t.next X hi<|z<|O Z).mono ?_;rintro e w2 ⟨⟨u,rfl⟩,t0,t1,t2,E,F⟩;have ae:=O E;have af:=j.trans F;go_wp2;go_end0;exact⟨⟨_,rfl⟩,_,_,_,by rw[z q];exact ae,af⟩
  have q:Hid<|Ca hf d k v=II d i v:=O (by rw[LP om b,p];rfl);have r:(v.kind==0)=false:=by simp[b]
  obtain⟨g,cp,eg,au,av,aw,ag,s⟩:=a.log.form om;cases eg;rcases ag i hi,s<|i*11+5,s<|i*11+6,s<|i*11+7,s<|i*11+8,s (i*11+9) with⟨⟨_,_,_,_,_,y5,y6,y7,y8,y9,_⟩,z5,z6,z7,z8,z9⟩;have ax:g≠w.heap.size+1:=λe=>A.no<|.inl (by rw[<-e];rfl);obtain⟨h1,h2⟩:=a.wI hi v;go_wp2_with fail
  go_region
  go_wp2;go_end0;exact⟨⟨_,rfl⟩,_,_,_,by rw[z q];exact z<|h1.below (BE _ _).drew,z<|(j.trans h2).trans<|CN.Am (BE _ _).drew h1.lt⟩
 rw[p];have L:¬0<=Ay d k (hf k):=om;have f:=O L;by_cases b:v.kind=0
 .have q:=O<|Hl f λh=>h.1 b;have r:(v.kind !=0)=false:=by simp[b]
  go_wp2;go_end0;exact⟨⟨_,rfl⟩,_,_,_,by rw[z q];exact a,j⟩
 have r:(v.kind !=0)=true:=by simp[b]
 by_cases hl:d.live<500
 case neg=>
  have q:Hid<|Ca hf d k v=d:=O<|Hl f λh=>hl h.2.1;have ah:decide (d.live<500)=false:=ot;go_wp2;go_end0;exact⟨⟨_,rfl⟩,_,_,_,by rw[z q];exact a,j⟩
 have ah:decide (d.live<500)=true:=by simp[hl]
 by_cases Q:d.turns<1000000000000
 case neg=>
  have q:Hid<|Ca hf d k v=d:=O<|Hl f λh=>Q h.2.2;have ai:decide (d.turns<1000000000000)=false:=ot;go_wp2;go_end0;exact⟨⟨_,rfl⟩,_,_,_,by rw[z q];exact a,j⟩
 have ai:decide (d.turns<1000000000000)=true:=by simp[Q]
 have q:=O<|Hk f ⟨b,hl,Q⟩;go_wp2_with fail;refine(Ps R v a M t.i0 t.next X HK.1 HK.2.1 HK.2.2 (z<|O b) (z<|O ad) hl Q T).mono ?_;rintro e w2 ⟨⟨u,rfl⟩,t0,t1,t2,E,F⟩;go_wp2;go_end0;exact⟨⟨_,rfl⟩,_,_,_,by rw[z q];exact z<|O E,z<|j.trans F⟩
structure XU (w:Y) (b:Nat) (k:Vl):Prop where
 lt:b<w.heap.size
 c0:w.cell? (G b 0)=some (J k.kind)
 c1:w.cell? (G b 1)=some (J k.num)
 c2:w.cell? (G b 2)=some (F9 k.Ah)
 c3:w.cell? (G b 3)=some (.string k.str)
 c4:w.cell? (G b 4)=some (J k.ref)
def XU.keep(h:XU w b k)(hl:w.heap.size<=w'.heap.size)(hk:w'.heap[b]?=w.heap[b]?):XU w' b k:=
 ⟨oT h.lt,(As hk).trans h.c0,(As hk).trans h.c1,(As hk).trans h.c2,(As hk).trans h.c3,(As hk).trans h.c4⟩
def XU.below(h:XU w b k)(hb:Below B w w')(a:b<B):XU w' b k:=h.keep hb.size<|hb.block _ a
section
variable {w w' W:Y} {c B:Nat} {vF vT vS:V9} {H:Nat->Hs} {s:AE}
def SM.iV(h:SM w c B vF vT vS H s){t i vb vc}(a:t<s.nt)(b:(H t).v=S9 vb (s.T t).nv vc)(hi:i<(s.T t).nv)v:
  SM (Hp w vb (i*5) v) c B vF vT vS H (Bm s t<|E7 (s.T t) i v)/\BB (Ba c vF vT vS H s.nt) w (Ba c vF vT vS H s.nt) (Hp w vb (i*5) v):=by
 obtain⟨s1,s2,f,p⟩:=nW w vb (i*5) v;have hb:(H t).v.ownBlock=some vb:=qm b
 have nb:∀{e Z n:Nat} {u:V9} {xs:List Value},w.ownsRow B e Z u n xs->e≠32->∀g,u.ownBlock=some g->(Hp w vb (i*5) v).heap[g]?=w.heap[g]?:=λj m g e=>Ew w vb (i*5) v λe'=>Cv j (h.v t a) m e (by rw[e'];exact hb);have d:=h.v t a;rw[b]at d;have:=h.table (w':=Hp w vb (i*5) v) a (h':=H t) (t':=E7 (s.T t) i v) ⟨s1,s2,f,om⟩ (λk k1 k2 k3=>Ew w vb (i*5) v λe=>k3<|.inl<|by rw[e];exact hb) (by
   have o:TY (Hp w vb (i*5) v) B vT s.nt H s.T:=Ae h.t<|nb h.t oo;rw[IM];unfold TY;rw[aY (T':=s.T) (H':=H) (λq hq=>by
    by_cases e:q=t
    .subst e;rw[Aj];rfl
    rw[Ak _ _ e])]
   exact o) (by rw[b];exact Cf.Hp d hi v) (Ae (h.l t a) (nb (h.l t a) oo)) (Ae (h.i t a) (nb (h.i t a) oo)) (Ae (h.x t a) (nb (h.x t a) oo)) (h.ap t a) (λq e=>.inl e)
 rw[IM]at this;exact this
def SM.Wt{d}(h:SM w c B (S9 d s.nf m) vT vS H s)(hb:VU c d w w'){b' cp' n'}{f'}(hl:b'=d\/w.heap.size<=b')(hc:w'.cell? (G c 0)=some (S9 b' n' cp'))(o:ER w' B (S9 b' n' cp') n' f'):
  SM w' c B (S9 b' n' cp') vT vS H {s with nf:=n',F:=f'}/\BB (Ba c (S9 d s.nf m) vT vS H s.nt) w (Ba c (S9 b' n' cp') vT vS H s.nt) w':=by
 have b:w'.heap[c]?=some (.cells #[S9 b' n' cp',vT,vS] 29 (0,0)):=by
  rcases hb.box with e|⟨u,e⟩
  .have h1:=As (a:=G c 0) e;rw[hc,h.cells.1]at h1;cases h1;exact e.trans h.BH
  have h1:=e _ _ h.BH;have h2:w'.cell? (G c 0)=some u:=by simp[World.cell?,h1]
  grind [nf,Ba]
 have hk:∀{e Z n:Nat} {u:V9} {xs:List Value},w.ownsRow B e Z u n xs->e≠29->e≠108->∀g,u.ownBlock=some g->w'.heap[g]?=w.heap[g]?:=λj h1 h2 g e=>hb.block g (j.lt g e).2 (λe'=>h.Bc j h1<|by rw[<-e'];exact e) λe'=>Cv j h.f h2 e<|qm e';refine⟨⟨h.base,b,o,Ae h.t<|hk h.t oo oo,Ae h.si<|hk h.si oo oo,λi hi=>Ae (h.v i hi)<|hk (h.v i hi) oo oo,λi hi=>Ae (h.l i hi)<|hk (h.l i hi) oo oo,λi hi=>Ae (h.i i hi)<|hk (h.i i hi) oo oo,λi hi=>Ae (h.x i hi)<|hk (h.x i hi) oo oo,h.ap,h.ij⟩,⟨hb.os,hb.tape,hb.output,hb.size,λk k1 k2=>hb.block k k1 (λe=>k2<|.inl e) λe=>k2<|.inr<|.inl<|qm e,?_⟩⟩;rintro k (e|e|e)
 .exact .inl (.inl e)
 .have:b'=k:=oS e;rcases hl with h1|h1
  .exact .inl (.inr<|.inl<|by rw[<-this,h1];rfl)
  exact .inr om
 exact .inl<|.inr<|.inr e
def SM.Vp(h:SM w c B vF vT vS H s){t g cp}(a:t<s.nt)(b:vT=S9 g s.nt cp)r:
  SM (w.setCell (G g<|t*8)<|J r) c B vF vT vS H (Bm s t {s.T t with shape:=r})/\BB (Ba c vF vT vS H s.nt) w (Ba c vF vT vS H s.nt) (w.setCell (G g<|t*8)<|J r):=by
 have:=h.Gs (W:=w) a b (λ_ _ _=>rfl) ⟨rfl,rfl,rfl,Be _⟩ 0 [J r] (h':=H t) (t':={s.T t with shape:=r}) oq (λj=>by
  rcases j with _|j
  .rfl
  rw[C3 oq];rfl) (h.v t a) (h.l t a) (h.i t a) (h.x t a) (h.ap t a) (λq e=>.inl e)
 rw[IM]at this;exact this
def SM.cY(h:SM w c B vF vT vS H s){t g cp}(a:t<s.nt)(m:vT=S9 g s.nt cp){x}(o:s.T t=x){u}{v}(hk:∀k,k<w.heap.size->(H t).v.ownBlock≠some k->W.heap[k]?=w.heap[k]?)(d:W.os=w.os/\W.tape=w.tape/\W.output=w.output/\w.heap.size<=W.heap.size)
  (hu:Cf W B u (x.nv+1)<|AM x.V x.nv v) (hq:∀q,u.ownBlock=some q->(H t).v.ownBlock=some q\/w.heap.size<=q):
  SM (W.setCell (G g<|t*8+1) u) c B vF vT vS (AM H t {H t with v:=u}) (Bm s t {x with nv:=x.nv+1,V:=AM x.V x.nv v})/\BB (Ba c vF vT vS H s.nt) w (Ba c vF vT vS (AM H t {H t with v:=u}) s.nt) (W.setCell (G g<|t*8+1) u):=by
 subst o;have b:∀{e Z n:Nat} {u:V9} {xs:List Value},w.ownsRow B e Z u n xs->e≠32->∀q,u.ownBlock=some q->W.heap[q]?=w.heap[q]?:=λf p q e=>hk q (f.lt q e).2<|Cv f (h.v t a) p e;exact h.Gs (W:=W) a m (λk k1 k2=>hk k k1 λe=>k2<|.inl e) d 1 [u] (h':={H t with v:=u}) (t':={s.T t with nv:=(s.T t).nv+1,V:=AM (s.T t).V (s.T t).nv v}) oq (λj=>by
  rcases j with _|_|j
  .rfl
  .rfl
  .rw[C3 oq];rfl) hu (Ae (h.l t a) (b (h.l t a) oo)) (Ae (h.i t a) (b (h.i t a) oo)) (Ae (h.x t a) (b (h.x t a) oo)) (h.ap t a) (λq e=>by
  rcases e with e|e
  .exact(hq q e).imp .inl id
  exact .inl (.inr e))
end
def MP(h:Inv Ky hN d)(hk:Ky k){p}(hp:Has d p)(hl:AH p.key k=true):0<=Ay d k (hN k):=by
 rcases h.i0.place Cl hk with⟨i,h1,h2,h3,h4⟩|⟨h1,h2⟩;all_goals grind [Ky,hN,Has,AH,Ay]
def Zv{v}(h:Inv Ky hN d)(hk:Ky k)(a:v.ok=true):D6 d k v=(decide (v.kind≠0)&&decide (Ay (Ca hN d k v) k (hN k)<0)):=by
 rcases Jz Cl h hk hk.1 a,h.i0.le,h.i0.turns with⟨hi,b,c⟩;unfold D6;rcases LQ Cl h hk hk.1 a with⟨q,a1,a2,a3,_⟩|⟨q,a1,a2,a3,a4,_⟩|⟨a1,a2,a3,a4,a5⟩|⟨a1,a2,a3⟩
 .simp[a3]
 .have h1:=MP h hk a1 a2;have h2:=MP hi hk ((a4 ⟨q.key,v,q.turn⟩).2<|.inr rfl) a2;grind [Ky,hN,D6,Ay,Ca]
 .have h2:=MP hi hk ((a3 ⟨k,v,d.turns+1⟩).2<|.inr rfl)<|Cl.refl _ hk;grind [Ky,hN,D6,Ay,Ca,Inv.i0]
 grind [Ky,hN,D6,Ay,Ca,Cl,Ip,Inv.i0]
def qQ(h:Inv Ky hN d)(hk:Ky k):(Eb d<|Ay d k<|hN k).kind=0↔Ay d k (hN k)<0:=by
 rcases h.i0.place Cl hk with⟨i,h1,h2,h3,h4⟩|⟨h1,h2⟩
 .have:=(h.entry<|Ip h1 h2).2.2.2;grind [Ky,hN,Eb,Ay]
 rw[h2];exact⟨λ_=>om,λ_=>rfl⟩
theorem dK{x}(h1:x.shape=-1)(h2:x.nv=0)k v:DT x x.d k v={x with d:=Ca hN x.d k v}:=by
 grind [DT,Ca,hN]
theorem YO s t:Bm s t (s.T t)=s:=by
 unfold Bm;rw[IM]
def Vq s t x Z:Bm (Bm s t x) t Z=Bm s t Z:=by
 unfold Bm;have:AM (AM s.T t x) t Z=AM s.T t Z:=by grind [Bm,Aj,Ak]
 grind [Bm,AM]
structure cM (s:AE) (t:Nat) (k v:Vl) (x:Tb):Prop where
 sh:x.shape=-1
 nv:x.nv=0
 inv:Inv Ky hN x.d
 m:x.d.m<=4000000
 yes:(Cb s.F (s.T t) k).kind=0->(x.d.live=500\/x.d.turns=1000000000000)->Ct s t k v=5/\Ci s t k v=Bm s t x
 no:¬((Cb s.F (s.T t) k).kind=0/\(x.d.live=500\/x.d.turns=1000000000000))->Ct s t k v=0/\Ci s t k v=Bm s t {x with d:=Ca hN x.d k v}
section
variable {s:AE} {t:Nat} {k v:Vl}
def aW(f:Kl s)(g:t<s.nt)(hk:Ky k)(hn:¬(v.kind=0/\(Cb s.F (s.T t) k).kind=0))(hs:(s.T t).shape<0):cM s t k v<|s.T t:=by
 have b:=f.t t g;rcases b.way with⟨e1,e2,c⟩|⟨j,e,_⟩
 .have h:Cb s.F (s.T t) k=Eb (s.T t).d (Ay (s.T t).d k<|hN k):=DD hs;have a:=qQ c hk;rw[<-h]at a;refine⟨e1,e2,c,b.m,λi h1=>?_,λi=>?_⟩;all_goals grind [Ky,Cb,BX,D6,Ay,hN,Ct,Ci,YO,Bm,DT,dK]
 omega
def XC(c:Kl s){j:Nat}(d:(s.T t).shape=j)(hj:j<s.nf)(e:(s.T t).nv=nf s.F j)(b:∀i,i<(s.T t).nv->Jb ((s.T t).V i)=true)(g:BX s (s.T t) k v=.loose):cM s t k v ⟨-1,0,(s.T t).V,Az s.F j (s.T t).V (s.T t).nv⟩:=by
 have a:=F5 c.f hj (λi hi=>b i om) (s.T t).nv om;have hn:=IZ c.f hj;rcases a.live,a.turns,a.m with⟨h1,h2,h3⟩;refine⟨rfl,rfl,a.ls.inv,?_,λ_ h=>?_,λ_=>?_⟩
 .show(Az s.F j (s.T t).V (s.T t).nv).m<=_;omega
 .have h:(Az s.F j (s.T t).V (s.T t).nv).live=500\/(Az s.F j (s.T t).V (s.T t).nv).turns=1000000000000:=h;omega
 unfold Ct Ci;rw[g];refine⟨rfl,?_⟩;show Bm s t (DT (s.T t) (Az s.F (s.T t).shape.toNat (s.T t).V (s.T t).nv) k v)=_;rw[d,NO];rfl
end
def V0(a kb:Nat)(sh:Int)(str:ByteArray)(W:Y):Prop:=W.cell? (G a 0)=some (J sh)/\W.cell? (G kb 3)=some (.string str)
def Ig(c vb:Nat)(vT:V9)(v:Vl)(W:Y):Prop:=W.cell? (G c 1)=some vT/\W.cell? (G vb 0)=some (J v.kind)/\W.cell? (G vb 1)=some (J v.num)/\W.cell? (G vb 2)=some (F9 v.Ah)/\W.cell? (G vb 3)=some (.string v.str)/\W.cell? (G vb 4)=some (J v.ref)
def Ig.keep{c}{v}(h:Ig c vb vT v W)(h1:W'.heap[c]?=W.heap[c]?)(h3:W'.heap[vb]?=W.heap[vb]?):Ig c vb vT v W':=
 ⟨(As h1).trans h.1,(As h3).trans h.2.1,(As h3).trans h.2.2.1,(As h3).trans h.2.2.2.1,(As h3).trans h.2.2.2.2.1,(As h3).trans h.2.2.2.2.2⟩
def Mn(c g nt cp t vb:Nat)(u:V9)(v:Vl)(W:Y):Prop:=W.cell? (G c 1)=some (S9 g nt cp)/\W.cell? (G g<|t*8+1)=some u/\W.cell? (G vb 0)=some (J v.kind)/\W.cell? (G vb 1)=some (J v.num)/\W.cell? (G vb 2)=some (F9 v.Ah)/\W.cell? (G vb 3)=some (.string v.str)/\W.cell? (G vb 4)=some (J v.ref)
def Mn.keep{c g nt t}{u}{v}(h:Mn c g nt cp t vb u v W)(h1:W'.heap[c]?=W.heap[c]?)(h2:W'.heap[g]?=W.heap[g]?)(h3:W'.heap[vb]?=W.heap[vb]?):Mn c g nt cp t vb u v W':=
 ⟨(As h1).trans h.1,(As h2).trans h.2.1,(As h3).trans h.2.2.1,(As h3).trans h.2.2.2.1,(As h3).trans h.2.2.2.2.1,(As h3).trans h.2.2.2.2.2.1,(As h3).trans h.2.2.2.2.2.2⟩
def Rv{c}{H}t{k}v{w}(hM:SM w c B vF vT vS H s)(hG:Kl s)(L:t<s.nt)(hk:Ky k)(hv:v.ok=true):
  C9 69 #[Q9 c,J t,Ga k,Ga v] w λe w'=>e=.returned (J<|Ct s t k v)/\∃FT H',SM w' c B FT vT vS H' (Ci s t k v)/\BB (Ba c vF vT vS H s.nt) w (Ba c FT vT vS H' s.nt) w':=by
 obtain⟨b8,da,dc,dd,df⟩:=Av hG.f;have ey:0<s.nf:=oT b8.1;obtain⟨g,cp,rfl,hg,fz,hc,fE⟩:=hM.CA L;obtain⟨fb,fc,rfl,ez,fW,hF⟩:=hM.Lq ey;rcases hM.cells,hM.lt,Au<|hM.v t L,(hM.l t L).at,(hM.i t L).at,(hM.x t L).at,qh hc with⟨⟨c0,c1,c2,_⟩,ga,⟨va,vc,ev⟩,⟨la,lc,el,eA⟩,⟨ia,ic,ei,eI⟩,⟨xa,xc,ex,eP⟩,⟨y0,y1,y2,y3,y4,y5,y6,y7⟩⟩;rw[ev]at y1;rw[el]at y2;rw[ei]at y3;rw[ex]at y4;simp only[Aag]at y0;obtain⟨W,hW,b9,bx,_⟩:=kS w (.cells (qi k) 32) (.cells (qi v) 32)<|.cells #[J (s.T t).shape,.slice va (s.T t).nv vc,.slice la (s.T t).d.n lc,.slice ia (s.T t).d.m ic,.slice xa (s.T t).d.x xc,J (s.T t).d.used,J (s.T t).d.live,J (s.T t).d.turns] 71;have U:XU W w.heap.size k:=by constructor<;>rw[hW]<;>simp[go_sem]<;>omega
 have dh:XU W (w.heap.size+1) v:=by constructor<;>rw[hW]<;>simp[go_sem]<;>omega
 have di:W.cell? (G (w.heap.size+1+1) 0)=some (J (s.T t).shape):=by rw[hW];simp[go_sem]
 rcases O (MH t (hM.below b9) hG L hk),O hM,O hG,O hk,O<|qp b8<|qp da<|qp dc<|qp df dd,O<|qp U<|qp dh di,O b9,O bx,O hF,O ev,U.c0,U.c1,U.c2,U.c3,U.c4,U.lt with⟨bn,HM,HG,HK,HR,av,ca,HZ,HF,M,eS,eX,DM,e5,aM,lk⟩;clear hM hG hk b8 da dc dd df U dh di b9 bx eA eI eP hc hF ev el ei ex;go_enter func69,ntmps69;go_upto_region 2 with fail
 rw[<-hW];clear hW y0 y1 y2 y3 y4 y5 y6 y7 c0 c1 c2;go_wp2_with fail;refine bn.mono ?_;rintro e w1 ⟨rfl,bz⟩;clear bn;obtain⟨o,ho⟩:=qa<|Cb s.F (s.T t) k;rw[<-ho];have HO:=O ho;clear eS eX DM e5 aM lk ho;go_upto_region 3 with fail
 obtain⟨X,hX⟩:=qa<|w1.alloc<|.cells (qi o) 32;rw[<-hX];have A:Below W.heap.size W X:=by rw[hX];exact bz.alloc bz.size _
 rcases o9 ca A,z HZ,bz.size with⟨b0,bx,cb⟩;have dj:X.heap.size=w1.heap.size+1:=by rw[hX];simp
 have dk:=av.1.below A av.1.lt;have b1:=av.2.1.below A av.2.1.lt;have x0:=o7 A (by show w.heap.size+1+1<W.heap.size;omega) av.2.2;have o0:X.cell? (G w1.heap.size 0)=some (J o.kind):=by rw[hX];simp[go_sem]
 have b2:=O<|HM.below b0;have dm:Hid<|∀{O':Nat->Prop} {w':Y},BB (Ba c (S9 fb s.nf fc) (S9 g s.nt cp) vS H s.nt) X O' w'->∀b,w.heap.size<=b->b<X.heap.size->w'.heap[b]?=X.heap[b]?:=O λhd b h1 h2=>hd.block b h2 λe=>oT (HM.IC e).2;have a8:Hid<|BB (Ba c (S9 fb s.nf fc) (S9 g s.nt cp) vS H s.nt) w (Ba c (S9 fb s.nf fc) (S9 g s.nt cp) vS H s.nt) X:=O<|BB.Am b0;have dn:w1.heap.size<X.heap.size:=om;have e6:w.heap.size+1+1<w1.heap.size:=om;have cc:w.heap.size+1+1<X.heap.size:=om;have gb:c<X.heap.size:=om;generalize w1.heap.size=ob at dj o0 dn e6 hX ⊢;rcases O dk,O b1,b1.c0,b1.lt,O b0 with⟨bc,dp,v0,lv,cw⟩;clear ca av bz A hX dj cb bx HZ dk b1 b0
 go_cut [32] λq wx=>∃bb:Bool,q=.bool bb/\(bb=true↔o.kind=0/\v.kind=0)/\wx=X
 case first=>
  by_cases a:o.kind=0
  .have d0:(o.kind==0)=true:=by simp[a]
   by_cases h1:v.kind=0
   .have d1:(v.kind==0)=true:=by simp[h1]
    have I:=O<|qp a h1;clear a h1;go_wp2_with fail;go_meet
    case rel=>exact⟨true,rfl,⟨λ_=>I,λ_=>rfl⟩,rfl⟩
   have d1:(v.kind==0)=false:=by simp[h1]
   have I:=O h1;clear a h1;go_wp2_with fail;go_meet
   case rel=>exact⟨false,rfl,⟨λe=>(by cases e),λe=>absurd e.2 I⟩,rfl⟩
  have d0:(o.kind==0)=false:=by simp[a]
  have I:=O a;clear a;go_wp2_with fail;go_meet
  case rel=>exact⟨false,rfl,⟨λe=>(by cases e),λe=>absurd e.1 I⟩,rfl⟩
 obtain⟨bb,rfl,C,bd⟩:=hcut;cases bd;cases bb
 case true=>
  have cd:=C.1 rfl;have dq:Hid<|Ct s t k v=0/\Ci s t k v=s:=O (by
   have hw:BX s (s.T t) k v=.no:=DD ⟨cd.2,by rw[<-z HO];exact cd.1⟩;unfold Ct Ci;rw[hw];exact⟨rfl,rfl⟩)
  clear cd C;go_wp2_with fail;go_ret;exact⟨by rw[(z dq).1];rfl,_,H,by rw[(z dq).2];exact b2,a8⟩
 have b3:Hid<|¬(v.kind=0/\(Cb s.F (s.T t) k).kind=0):=O (λh=>by have:=C.2 ⟨by rw[z HO];exact h.2,h.1⟩;cases this);clear C;have k0:=bc.c0;have lk:=bc.lt;go_upto_region 5 with fail
 go_cut [45] λq wx=>∃bb:Bool,q=.bool bb/\(bb=true↔0<=(s.T t).shape/\k.kind=4/\v.kind≠0)/\wx=X
 case first=>
  by_cases a:0<=(s.T t).shape
  .have d0:decide (0<=(s.T t).shape)=true:=by simp[a]
   by_cases h1:k.kind=4
   .have d1:(k.kind==4)=true:=by simp[h1]
    by_cases h2:v.kind=0
    .have d2:(v.kind !=0)=false:=by simp[h2]
     have I:=O h2;clear a h1 h2;go_wp2_with fail;go_meet
     case rel=>exact⟨false,rfl,⟨λe=>(by cases e),λe=>absurd I e.2.2⟩,rfl⟩
    have d2:(v.kind !=0)=true:=by simp[h2]
    have I:=O<|qp a<|qp h1 h2;clear a h1 h2;go_wp2_with fail;go_meet
    case rel=>exact⟨true,rfl,⟨λ_=>I,λ_=>rfl⟩,rfl⟩
   have d1:(k.kind==4)=false:=by simp[h1]
   have I:=O h1;clear a h1;go_wp2_with fail;go_meet
   case rel=>exact⟨false,rfl,⟨λe=>(by cases e),λe=>absurd e.2.1 I⟩,rfl⟩
  have d0:decide (0<=(s.T t).shape)=false:=ot;have I:Hid<|(s.T t).shape<0:=O om;clear a;go_wp2_with fail;go_meet
  case rel=>exact⟨false,rfl,⟨λe=>(by cases e),λe=>absurd e.1<|oT<|z I⟩,rfl⟩
 obtain⟨bb,rfl,C,bd⟩:=hcut;cases bd;have dr:=O C;clear C
 go_upto_if 45 with fail
 go_cut [11,12] λ_ _ wx=>∃FT,SM wx c B FT (S9 g s.nt cp) vS H s/\BB (Ba c (S9 fb s.nf fc) (S9 g s.nt cp) vS H s.nt) X (Ba c FT (S9 g s.nt cp) vS H s.nt) wx/\(0<=(s.T t).shape->BX s (s.T t) k v=.loose)
 case first=>
  cases bb
  case false=>
   have I:Hid<|0<=(s.T t).shape->BX s (s.T t) k v=.loose:=O (λa=>by
    unfold BX;rw[C3 (z b3),DD a,C3];rintro⟨h1,h2⟩;have:=dr.2 ⟨a,h1,h2⟩;cases this)
   go_wp2_with fail
   go_meet
   case rel=>exact⟨_,b2,BB.refl _ _,I⟩
  obtain⟨Mh,aM,cg⟩:=dr.1 rfl;obtain⟨j,he,hj,ao,_,bf⟩:∃j:Nat,(s.T t).shape=j/\j<s.nf/\(s.T t).nv=nf s.F j/\bare (s.T t).d/\∀i,i<(s.T t).nv->Jb ((s.T t).V i)=true/\Wf ((s.T t).V i):=by
   rcases(HG.t t L).way with⟨e,_⟩|h
   .omega
   exact h
  have ew:(s.T t).nv<=12:=by rw[ao];exact IZ HG.f hj
  have HJ:=O<|qp he<|qp hj ao;have dt:Hid<|∀w',BQ w' fb s.nf s.F->C9 49 #[.agg #[S9 fb s.nf fc],J (s.T t).shape,.string k.str] w' λe e7=>e=.returned (J<|Bj s.F j k.str)/\Below w'.heap.size w' e7:=O (λw' hS=>by
   rw[(z HJ).1];exact LF fc j k.str hS HR.1 HR.2.1 HR.2.2.1 HR.2.2.2.1 HJ.2.1)
  rcases b2.cells.1,bc.c3,O (HF.below cw ez) with⟨c0,k3,ch⟩;have du:Hid (∀i:Nat,Bj s.F j k.str=i->BX s (s.T t) k v=.DU):=O (λi hp=>by
   unfold BX;rw[C3 (z b3),DD Mh,DD ⟨aM,cg⟩,DD];rw[he,NO,hp];omega)
  have dv:Hid<|Bj s.F j k.str=-1->BX s (s.T t) k v=if 0<=Es s.nf s.F j k.str then .grow else .loose:=O (λhp=>by
   unfold BX;rw[C3 (z b3),DD Mh,DD ⟨aM,cg⟩,he,NO,hp,C3 om])
  clear Mh aM cg he hj ao bf;go_upto_region 6 with fail
  refine qr X ?_;(iterate 8 refine N (h:=?_));refine GS λK hK=>?_;go_simp;refine⟨_,λw' dw=>qk dw<|dt _<|ch.below dw ch.lt,hK _ ?_⟩;clear hK K;refine N (h:=?_);refine Hz ?_;intro w2 A;have D:=O<|b2.below A;have bg:Hid<|BB (Ba c (S9 fb s.nf fc) (S9 g s.nt cp) vS H s.nt) X (Ba c (S9 fb s.nf fc) (S9 g s.nt cp) vS H s.nt) w2:=O<|BB.Am A;rcases O (dp.below A lv),O<|bc.below A lk,(A.cell cc).trans x0,A.size,D.cells,D.CA L with⟨aw,e8,x2,gd,⟨_,c1,_,e9⟩,⟨g',cp',eg,_,_,ae,cx⟩⟩;cases eg;have g1:=ae 1 _ rfl;rw[z M]at g1;have aq:=D.v t L;rw[z M]at aq;have cj:=O aq;have fa:c≠g:=λe=>HM.Bc HM.t oo<|qm e;have dx:c<w2.heap.size:=om;clear A ae aq v0 x0 o0 k0 k3 c0 ch dt;rcases Kc HG.f HJ.2.1 k.str with hp|⟨i,hp,hi⟩
  .have bp:=O<|dv hp;rw[hp];clear hp dv du;have k3:=e8.c3;have af:V0 (w.heap.size+1+1) w.heap.size (s.T t).shape k.str w2.drew:=⟨x2,k3⟩;have cy:c≠fb:=λe=>HM.Bc HM.f oo<|qm e;have bw:Hid<|C9 108 #[Q9 c,J (s.T t).shape,.string k.str] w2.drew λe w3=>(∃r n' f',e=.returned (J r)/\Ox s.nf s.F j k.str n' f' r/\∃b' cp',c≠b'/\(b'=fb\/w2.drew.heap.size<=b')/\w3.frozen? (G c 0)=false/\w3.cell? (G c 0)=some (S9 b' n' cp')/\ER w3 B (S9 b' n' cp') n' f')/\VU c fb w2.drew w3:=O (by
    rw[(z HJ).1];exact UN c fb fc j B k.str w2.drew D.cells.1 (D.cells.2.2.2 0) (World.ownsRow.drew D.f) cy dx (by have:=D.base;show B<=w2.heap.size;omega) HR.1 HR.2.1 HR.2.2.1 HJ.2.1)
   have dy:=O<|qp x2 k3;clear x2 k3 c1 g1 e9 cx;go_upto_region 10 with fail
   refine Hx (V0 (w.heap.size+1+1) w.heap.size (s.T t).shape k.str) ?_;refine tz 0 (h:=tz 1 (h:=tz 2 (h:=tz 3 (h:=tz 4 (h:=tz 5 (h:=tz 6 (h:=?_)))))));refine ry 7 λK hK=>?_;go_simp;refine bw.mono ?_;rintro e w3 ⟨⟨r,n',f',rfl,ad,b',cp',_,a4,_,a6,a7⟩,P⟩;have DM:∀b,w.heap.size<=b->b<X.heap.size->w3.heap[b]?=w2.heap[b]?:=λb h1 h2=>P.block b (by show b<w2.heap.size;omega) om om;have ck:V0 (w.heap.size+1+1) w.heap.size (s.T t).shape k.str w3:=⟨(As<|DM (w.heap.size+1+1) om cc).trans dy.1,(As<|DM w.heap.size (Be _) lk).trans dy.2⟩;refine hK.out _ _ ck λbq=>?_;clear hK K af;refine tz 8 (h:=?_);refine FI ?_;have ag:=(D.keep (w':=w2.drew) λ_ _=>rfl).Wt P a4 a6 a7;have b4:=(bg.below (BE _ _).drew).trans ag.2;have cl:=aw.keep P.size<|DM (w.heap.size+1) om lv;obtain⟨e1,e2,e3⟩:=Lv HR.2.2.2.2 ad;have gf:w2.heap.size<=w3.heap.size:=P.size;by_cases hr:0<=r
   .have fe:decide (0<=r)=true:=by simp[hr]
    have dz:Hid<|Ct s t k v=0/\Ci s t k v={Bm s t (GH (s.T t) r v)with nf:=n',F:=f'}:=O (by
     have hw:BX s (s.T t) k v=.grow:=by rw[z bp,DD (by rw[<-e3];exact hr)]
     unfold Ct Ci;rw[hw];refine⟨rfl,?_⟩;show({Bm s t (GH (s.T t) (Es s.nf s.F (s.T t).shape.toNat k.str) v)with nf:=Fc s.nf s.F (s.T t).shape.toNat k.str,F:=Fb s.nf s.F (s.T t).shape.toNat k.str}:AE)=_;rw[(z HJ).1,NO,e1,e2,e3])
    rcases Ok F3,O ag.1,O b4,ag.1.cells.2.1,ag.1.CA L with⟨⟨i0,ff,fg,cb,cz⟩,cm,b5,c1,⟨g',cD,eg,gg,_,ae,cN⟩⟩;cases eg;have g0:=ae 0 _ rfl;simp only[Aag]at g0;have gh:c<w3.heap.size:=om;obtain⟨w4,ax⟩:=qa<|w3.setCell (G g<|t*8)<|J r;have E:=ag.1.Vp L rfl r;rw[<-ax]at E;have Q:XU w4 (w.heap.size+1) v:=cl.keep (by rw[ax];simp) (by rw[ax];exact At _ _ _ _<|by show w.heap.size+1≠g;omega);have cn:w4.heap.size=w3.heap.size:=by rw[ax];simp
    have dC:=O<|qp E<|qp Q cn;clear ag b4 ad P a4 a6 a7 E Q cn e1 e2 e3 hr ae cl ck bq DM;go_upto_region 13 with fail
    rw[<-ax];clear ax g0 c1 cN;obtain⟨E,Q,cn⟩:=z dC;have c1:=E.1.cells.2.1;obtain⟨g',cD,eg,gi,_,ae,br⟩:=E.1.CA L;cases eg;have g1:=ae 1 _ rfl;rw[z M]at g1;have eT:(Bm {s with nf:=n',F:=f'} t {s.T t with shape:=r}).T t={s.T t with shape:=r}:=Aj _ _ _;have aq:=E.1.v t L;rw[eT,z M]at aq;have af:Ig c (w.heap.size+1) (S9 g s.nt cp) v w4.drew:=⟨c1,Q.c0,Q.c1,Q.c2,Q.c3,Q.c4⟩;obtain⟨Z,hY⟩:=qa<|(w4.alloc<|.cells (qi v) 32).drew;have R:Below w4.heap.size w4 Z:=by rw[hY];exact(n9).drew
    have gj:Z.heap.size=w4.heap.size+1:=by rw[hY];simp
    have ar:=Ig.keep (W:=w4) af (R.block c om)<|R.block (w.heap.size+1) om;have gl:=(R.cell<|by show g<w4.heap.size;omega).trans g1;have dU:Z.ownsRow B 32 5 (.slice va (s.T t).nv vc) (s.T t).nv<|Mf (s.T t).V (s.T t).nv:=Xf aq R;have ai:∀j u,(H8 v)[j]?=some u->Z.cell? (((G w4.heap.size 0):Addr).add j)=some u:=by rw[hY];exact Is (w:=(w4.alloc _).drew)<|DO w4 _
    have c6:=fa;have HF:Hid (∀g5 S w5,w5.ownsRow B 32 5 (S9 g5 ((s.T t).nv+1) S) ((s.T t).nv+1) (Mf (s.T t).V (s.T t).nv++H8 v)->Z.grownBy w5 (Value.slice va (s.T t).nv vc).ownBlock->((Value.slice va (s.T t).nv vc).ownBlock=some g5\/g5=Z.heap.size)->
      Ig c (w.heap.size+1) (S9 g s.nt cp) v w5/\Ig c (w.heap.size+1) (S9 g s.nt cp) v (w5.setCell (G g<|t*8+1)<|S9 g5 ((s.T t).nv+1) S)/\w5.cell? (G g<|t*8+1)=some (.slice va (s.T t).nv vc)/\w5.frozen? (G g<|t*8+1)=false/\c<w5.heap.size/\g<w5.heap.size/\
      Hid (∃FT H',SM (w5.setCell (G g (t*8+1)) (S9 g5 ((s.T t).nv+1) S)) c B FT (S9 g s.nt cp) vS H' (Ci s t k v)/\BB (Ba c (S9 fb s.nf fc) (S9 g s.nt cp) vS H s.nt) w (Ba c FT (S9 g s.nt cp) vS H' s.nt) (w5.setCell (G g (t*8+1)) (S9 g5 ((s.T t).nv+1) S)))):=O (by
     intro g5 S w5 ea bh fh;have cq:∀q,(Value.slice va (s.T t).nv vc).ownBlock=some q->q<w.heap.size/\q≠c/\q≠g:=λq e=>by
      have e':(H t).v.ownBlock=some q:=by rw[z M];exact e
      have h1:=HM.apart L<|.inl e';exact⟨(HM.row L (q:=q)<|.inl e').2.1,h1.1,λe2=>h1.2.2.1<|qm e2⟩
     have b6:∀q,q<w4.heap.size->(Value.slice va (s.T t).nv vc).ownBlock≠some q->w5.heap[q]?=w4.heap[q]?:=λq h1 h2=>(bh.block q om λe=>h2 e.symm).trans<|R.block q h1;have kc:=b6 c om λe=>(cq c e).2.1 rfl;have kg:=b6 g om λe=>(cq g e).2.2 rfl;have kv:=b6 (w.heap.size+1) om λe=>oT (cq _ e).1;have gm:=bh.size;have ah:=Ig.keep (W:=w4) af kc kv;have st:∀q,q≠g->(w5.setCell (G g<|t*8+1)<|S9 g5 ((s.T t).nv+1) S).heap[q]?=w5.heap[q]?:=λq hq=>At _ _ _ _ (by exact hq);refine⟨ah,ah.keep (st c c6)<|st (w.heap.size+1) om,(As kg).trans g1,(GW kg).trans<|br _,om,om,O ?_⟩;rw[Mg]at ea;have hA:=E.1.cY L rfl eT (W:=w5) (u:=S9 g5 ((s.T t).nv+1) S) (v:=v) (λq h1 h2=>b6 q h1<|by rw[<-z M];exact h2) ⟨bh.os.trans R.os,bh.tape.trans R.tape,bh.output.trans R.output,om⟩ ea (λq e=>by
      have e':g5=q:=oS e;rcases fh with h|h
      .exact .inl (by rw[z M,<-e'];exact h)
      exact .inr om)
     refine⟨_,_,?_,(a8.trans (b5.trans E.2)).trans hA.2⟩;rw[(z dz).2];have h1:=hA.1;rw[Vq]at h1;exact h1)
    have HY:=O hY;have fj:B<=Z.heap.size:=oT HM.base;have fk:=O dU;have fl:=O ai;clear E Q aq ae eT R dU ai cm b5 dC br hY;refine Hx (Ig c (w.heap.size+1) (S9 g s.nt cp) v) ?_;refine tz 0 (h:=tz 1 (h:=tz 2 (h:=tz 3 (h:=tz 4 (h:=tz 5 (h:=tz 6 (h:=tz 7 (h:=tz 8 (h:=tz 9 (h:=tz 10 (h:=tz 11 (h:=?_))))))))))));refine tz 13 (h:=?_);refine Aaz (rs:=[12,14]) ou oq ?_;refine OK rfl (λK hK=>?armA) (OK rfl (λK hK=>?armB) Aay)
    case' armA=>
     go_simp;refine hK.out _ _ af λ_=>?_;clear hK K;refine ry 14 λK hK=>?_;go_simp;rw[<-z HY];refine hK.out _ _ ar λfm=>?_;clear hK K
    case' armB=>
     go_simp;rw[<-z HY];refine hK.out _ _ ar λfm=>?_;clear hK K;refine ry 12 λK hK=>?_;go_simp;refine hK.out _ _ ar λ_=>?_;clear hK K
    all_goals
     refine ry 15 λK hK=>?_;refine Re _ rfl (.tmp 98) (.tmp 100) 65 rfl B 32 i0 (V 0 0 0 ⟨#[]⟩ 0) 5 48 underlying65 ff fg cb cz rfl oo (.slice va (s.T t).nv vc) (s.T t).nv (Mf (s.T t).V (s.T t).nv) (by simp[Act.eval]<;>omega) fk (G w4.heap.size 0) 1 1 (H8 v) (by simp[Act.eval]<;>omega) rfl fl (by simp[H8,Value.oneCell']) oo od om fj _ rfl ?_;intro g5 S w5 aj bt ak fy;obtain⟨ah,eb,x5,f5,gn,gp,c7⟩:=z HF g5 S w5 aj bt ak;clear aj bt ak;refine hK.out _ _ ah λc8=>?_;clear hK K;refine tz 16 (h:=tz 17 (h:=?_));refine ry 18 λK hK=>?_;go_simp;refine hK.out _ _ eb λ_=>?_;clear hK K;refine FI ?_;clear ah eb c8 x5 f5;go_wp2;go_ret;exact⟨by rw[(z dz).1];rfl,c7⟩
   have fe:decide (0<=r)=false:=ot;have HL:Hid<|BX s (s.T t) k v=.loose:=O (by rw[z bp,C3 (by rw[<-e3];exact hr)]);have cm:Hid<|SM w3 c B (S9 b' n' cp') (S9 g s.nt cp) vS H s:=O (by
    have h1:=ag.1;rcases ad with⟨q,_,h2,_⟩|⟨_,_,_,h3,h4⟩|⟨_,_,_,h2,_⟩
    .omega
    .rw[h3,h4]at h1;rw[h3];exact h1
    omega)
   have b5:=O b4;clear ag b4 ad P a4 a6 a7 e1 e2 e3 hr cl ck bq DM;go_wp2_with fail;go_meet
   case rel=>exact⟨_,cm,b5,λ_=>HL⟩
  ·
   have Ko:i<(s.T t).nv:=by rw[(z HJ).2.2];exact hi
   have ec:Hid<|Ct s t k v=0/\Ci s t k v=Bm s t (E7 (s.T t) i v):=O (by
    unfold Ct Ci;rw[z du i hp];refine⟨rfl,?_⟩;show Bm s t (E7 (s.T t) (Bj s.F (s.T t).shape.toNat k.str).toNat v)=_;rw[(z HJ).1,NO,hp,NO])
   rw[hp];clear hp hi;obtain⟨vv,rfl,gq⟩:∃vv,va=some (G vv 0)/\vv<w2.heap.size:=by
    obtain⟨hl,⟨hv,a⟩|⟨g,cp,cur,hv,_,c9,_⟩⟩:=id cj
    .omega
    cases hv;exact⟨_,rfl,Ai c9⟩
   obtain⟨e0,e1,e2,e3,e4⟩:=Cf.at cj Ko;have fv:=λq=>World.ownsRow.frozenAt cj q;have cr:=D.apart L (q:=vv)<|.inl<|ql M;have gu:=(HM.row L (q:=vv)<|.inl<|ql M).2.1;have fo:g≠vv:=λe=>cr.2.2.1<|qm e;have af:Mn c g s.nt cp t (w.heap.size+1) (S9 vv (s.T t).nv vc) v w2.drew:=⟨c1,g1,aw.c0,aw.c1,aw.c2,aw.c3,aw.c4⟩;have bu:=O<|D.iV L M Ko v;have fq:c≠vv:=λe=>cr.1 e.symm;clear cr c1 g1 x2;go_upto_region 8 with fail
   refine Hx (Mn c g s.nt cp t (w.heap.size+1) (S9 vv (s.T t).nv vc) v) ?_;refine tz 0 (h:=tz 1 (h:=tz 2 (h:=tz 3 (h:=tz 4 (h:=tz 5 (h:=tz 6 (h:=tz 7 (h:=tz 8 (h:=tz 9 (h:=tz 10 (h:=?_)))))))))));refine ry 11 λK hK=>?_;go_simp;refine hK.out _ (World.drew<|Hp w2 vv (i*5) v) (Mn.keep (W:=w2) af (Ew w2 vv (i*5) v fq) (Ew w2 vv (i*5) v fo)<|Ew w2 vv (i*5) v om) λ_=>?_;clear hK K af;refine FI ?_;go_wp2;go_ret;exact⟨by rw[(z ec).1];rfl,_,H,by rw[(z ec).2];exact bu.1.keep λ_ _=>rfl,((a8.trans bg).trans bu.2).below (BE _ _).drew⟩
 obtain⟨fr,ef,ct,eh⟩:=hcut;have x1:wc.cell? (G (w.heap.size+1+1) 0)=some (J (s.T t).shape):=(As<|dm ct (w.heap.size+1+1) om cc).trans x0;rcases O ef,O ct,O eh with⟨cu,cv,ej⟩;clear ef ct eh
 go_upto_if 106 with fail
 go_cut [11] λ_ wx=>∃FT H' x',SM wx c B FT (S9 g s.nt cp) vS H' (Bm s t x')/\BB (Ba c (S9 fb s.nf fc) (S9 g s.nt cp) vS H s.nt) X (Ba c FT (S9 g s.nt cp) vS H' s.nt) wx/\cM s t k v x'
 case first=>
  by_cases a:0<=(s.T t).shape
  .have ft:¬(s.T t).shape<0:=om;obtain⟨j,he,hj,ao,_,bf⟩:∃j:Nat,(s.T t).shape=j/\j<s.nf/\(s.T t).nv=nf s.F j/\bare (s.T t).d/\∀i,i<(s.T t).nv->Jb ((s.T t).V i)=true/\Wf ((s.T t).V i):=by
    rcases(HG.t t L).way with⟨e,_⟩|h
    .omega
    exact h
   have ay:=O<|XC HG he hj ao (λi hi=>(bf i hi).1)<|ej a;have ek:=O<|SZ t j cu HG L he hj ao λi hi=>(bf i hi).1;clear a he hj ao bf;go_wp2_with fail;refine ek.mono ?_;rintro e w4 ⟨⟨u,rfl⟩,h',E,eo⟩;have fu:=O E;have fw:=O<|cv.trans eo;clear E eo ek x1;go_wp2_with fail;go_meet
   case rel=>exact⟨_,_,_,fu,fw,ay⟩
  have ft:(s.T t).shape<0:=om;have ay:=O<|aW HG L HK b3 om;clear a;go_wp2_with fail;go_meet
  case rel=>exact⟨fr,H,s.T t,by rw[YO];exact cu,cv,ay⟩
 clear x1 cu cv ej;obtain⟨ep,H2,x2,bj,bk,az⟩:=hcut;have b7:∀b,w.heap.size<=b->b<X.heap.size->wc.heap[b]?=X.heap[b]?:=λb h1 h2=>dm bk b h1 h2;have o2:wc.cell? (G ob 0)=some (J o.kind):=(As<|b7 ob om dn).trans o0;obtain⟨gv,k0,k1,k2,k3,k4⟩:=bc.keep bk.size<|b7 w.heap.size (Be _) lk;rcases dp.keep bk.size (b7 (w.heap.size+1) om lv),bj.cells.2.1,bj.lt with⟨⟨gw,v0,v1,v2,v3,v4⟩,c1,dx⟩;have eT:(Bm s t x2).T t=x2:=Aj _ _ _;have bm:=bj.rF L rfl;rw[eT]at bm;have d4:=bm.c4;have d5:=bm.c5;rcases O (ZS Cl v bm (az.inv.small<|oT az.m) az.inv Yo HK HK.1 hv az.m),O az,O bj,O bk,O eT with⟨au,ay,D,bg,fx⟩;clear b7 bm az bj bk eT x0 o0;go_upto_region 18 with fail
 go_cut [133] λq wx=>∃bb:Bool,q=.bool bb/\(bb=true↔o.kind=0/\(x2.d.live=500\/x2.d.turns=1000000000000))/\wx=wc
 case first=>
  by_cases a:o.kind=0
  .have e0:(o.kind==0)=true:=by simp[a]
   by_cases h1:x2.d.live=500
   .have e1:(x2.d.live==500)=true:=by simp[h1]
    have I:=O<|qp a h1;clear a h1;go_wp2_with fail;go_meet
    case rel=>exact⟨true,rfl,⟨λ_=>⟨I.1,.inl I.2⟩,λ_=>rfl⟩,rfl⟩
   have e1:(x2.d.live==500)=false:=by simp[h1]
   by_cases h2:x2.d.turns=1000000000000
   .have e2:(x2.d.turns==1000000000000)=true:=by simp[h2]
    have I:=O<|qp a h2;clear a h1 h2;go_wp2_with fail;go_meet
    case rel=>exact⟨true,rfl,⟨λ_=>⟨I.1,.inr I.2⟩,λ_=>rfl⟩,rfl⟩
   have e2:(x2.d.turns==1000000000000)=false:=by simp[h2]
   have I:=O<|qp h1 h2;clear a h1 h2;go_wp2_with fail;go_meet
   case rel=>exact⟨false,rfl,⟨λe=>(by cases e),λe=>e.2.elim (λe=>absurd e I.1) λe=>absurd e I.2⟩,rfl⟩
  have e0:(o.kind==0)=false:=by simp[a]
  have I:=O a;clear a;go_wp2_with fail;go_meet
  case rel=>exact⟨false,rfl,⟨λe=>(by cases e),λe=>absurd e.1 I⟩,rfl⟩
 obtain⟨bb,rfl,C,bd⟩:=hcut;cases bd;cases bb
 case true=>
  have HY:=O<|ay.yes (by rw[<-z HO];exact(C.1 rfl).1) (C.1 rfl).2;clear C au;go_wp2_with fail;go_ret;exact⟨by rw[(z HY).1];rfl,ep,H2,by rw[(z HY).2];exact D,a8.trans bg⟩
 have HY:=O<|ay.no (λh=>by have:=C.2 ⟨by rw[z HO];exact h.1,h.2⟩;cases this);clear C;go_wp2_with fail;refine au.mono ?_;rintro e w5 ⟨⟨u,rfl⟩,u0,u1,u2,eu,ah⟩;have hN:=D.uX L rfl eu ah;rw[Vq,z fx]at hN;have HN:=O hN;clear hN eu ah au;go_wp2_with fail;go_ret;exact⟨by rw[(z HY).1];rfl,ep,_,by rw[(z HY).2];exact HN.1,(a8.trans bg).trans HN.2⟩
def FA op w:
  C9 67 #[J op] w λe w'=>e=.returned (.tuple #[.bool (Dl op),.bool (EH op)])/\w'=w:=by
 go_enter func67,ntmps67;go_wp2;all_goals exact Fs (v:=.tuple #[.bool (Dl op),.bool (EH op)]) (by simp_all [results,results67,go_sem,Dl,EH]) rfl ⟨rfl,rfl⟩
def Px s w:
  C9 36 #[.string s] w (R9 (V (Bz s).kind (Bz s).num (Bz s).Ah (Bz s).str (Bz s).ref) w):=by
 go_enter func36,ntmps36;go_wp2;exact Fs (v:=V 4 0 0 s 0) (by simp[results,results36,go_sem]) rfl ⟨rfl,n9⟩
section
variable {M:Nat} {s:AE}
def U7{n}(a:0<=n)(h1:n<=1000000000000):0<=Et n/\Et n<=1000000000000:=by
 unfold Et;split<;>omega
def JW(a:GA M s){i t}(hi:i<s.ns)(b:t<s.nt)(h:0<=Bd s i t):∃j q:Nat,(s.T t).shape=j/\j<s.nf/\Bd s i t=q/\q<(s.T t).nv/\Bj s.F j (s.S i).key=q:=by
 obtain⟨_,_,_,_,_,hs⟩:=a.si i hi;unfold Bd at h ⊢;rcases(a.t t b).way with⟨e,_⟩|⟨j,e,hj,c,_⟩
 .all_goals grind [Bd,Bj,Lx]
 by_cases hh:Lx s i t=true
 focus
  rw[DD hh]at h ⊢;have h2:(s.T t).shape=(s.S i).shape:=by unfold Lx at hh;simp at hh;exact hh.2
  rcases hs with⟨h3,_⟩|⟨h3,h4,h5,d⟩
  .omega
  rw[<-h2,e,show(j:Int).toNat=j by omega]at d
 rotate_left
 focus
  rw[C3 hh,DD om,e,show(j:Int).toNat=j by omega]at h ⊢
 all_goals
  rcases Kc a.f hj (s.S i).key with g|⟨q,g,k⟩;all_goals grind [Bd,Bj]
def Wa.vX{S'}{a}(h:Wa M s t):Wa M {s with ns:=a,S:=S'} t:=⟨h.way,h.wf,h.m⟩
theorem JX(a:GA M s){i t}(hi:i<s.ns)(d:t<s.nt):GA M<|A7 s i t:=by
 refine⟨a.f,a.nt,a.ns,λq hq=>(a.t q hq).vX,λq hq=>?_⟩;show Ob _ (AM s.S i (En s i t) q);by_cases e:q=i
 .subst e;rw[Aj];obtain⟨h1,h2,h3,h4,h5,b⟩:=a.si q hi;have o1:=U7 h2 h4;have o2:=U7 h3 h5;unfold En;split
  .exact⟨h1,o1.1,h3,o1.2,h5,b⟩
  split
  .rename_i g c
   refine⟨h1,h2,o2.1,h4,o2.2,.inr ⟨c.1,?_,c.2,rfl⟩⟩;rcases(a.t t d).way with⟨e,_⟩|⟨j,e,hj,_⟩;all_goals grind [A7]
  exact⟨h1,h2,o2.1,h4,o2.2,b⟩
 rw[Ak _ _ e];exact a.si q hq
def Kf(a:GA M s){t}{x}(b:Wa M s x):GA M<|Bm s t x:=by
 refine⟨a.f,a.nt,a.ns,λq hq=>?_,a.si⟩;show Wa M _ (AM s.T t x q);by_cases e:q=t
 .subst e;rw[Aj];exact⟨b.way,b.wf,b.m⟩
 rw[Ak _ _ e];have h:=a.t q hq;exact⟨h.way,h.wf,h.m⟩
def Zy(b:GA M s){j}(hj:j<s.nf){key}(hk:key.size<=4000)(hp:Bj s.F j key<0){r:Nat}(c:Es s.nf s.F j key=r):Ar (Fc s.nf s.F j key) (Fb s.nf s.F j key)=0/\s.nf<=Fc s.nf s.F j key/\(∀i,i<s.nf->Fb s.nf s.F j key i=s.F i)/\r<Fc s.nf s.F j key/\NC (Fc s.nf s.F j key) (Fb s.nf s.F j key) j key r:=by
 rcases Uq s.nf s.F j key with⟨q,h1,h2,h3,h4⟩|⟨h1,h2,h3,h4,h5⟩|⟨h1,h2,h3,h4,h5,a⟩
 .rw[h3,h4];grind [Bj,Es,Ar,Fc,Fb,NC,GA.f]
 .omega
 rw[h5,a];have:r=s.nf:=om;grind [Bj,Es,Ar,Fc,Fb,NC,Wy,EV,Rp,GA.f]
def bM s x k v:
  (BX s x k v=.no)\/
  (BX s x k v=.DU/\0<=x.shape/\k.kind=4/\v.kind≠0/\0<=Bj s.F x.shape.toNat k.str)\/
  (BX s x k v=.grow/\0<=x.shape/\k.kind=4/\v.kind≠0/\Bj s.F x.shape.toNat k.str<0/\0<=Es s.nf s.F x.shape.toNat k.str)\/
  (BX s x k v=.loose/\0<=x.shape)\/(BX s x k v=.Km/\x.shape<0/\D6 x.d k v=false)\/(BX s x k v=.full/\x.shape<0/\D6 x.d k v=true):=by
 unfold BX;split
 .exact .inl rfl
 split
 all_goals grind [BX,DU,Bj,Es,D6]
theorem RO(c:GA M s){t}(I:t<s.nt){k v}(hk:Ky k)(C:v.ok=true)(D:Wf v):GA (M+4002)<|Ci s t k v:=by
 have a:=c.mono<|Aal M 4002;have g:=c.t t I;have p:k.kind=4->k.str.size<=4000:=λh=>by
  have h1:=hk.1;unfold Ch Vl.ok Bf at h1;simp[h]at h1;omega
 unfold Ci;rcases bM s (s.T t) k v with h|⟨h,o,h1,h2,h3⟩|⟨h,o,h1,h2,h3,h4⟩|⟨h,o⟩|⟨h,o,h1⟩|⟨h,o,h1⟩
 .rw[h];exact a
 .rw[h];rcases g.way with⟨e,_⟩|⟨j,e,hj,l,hb,b⟩
  .omega
  refine Kf a ⟨.inr ⟨j,e,hj,l,hb,λi hi=>?_⟩,g.wf,GO g.m<|Aal _ _⟩;show Jb (AM (s.T t).V _ v i)=true/\Wf (AM (s.T t).V _ v i);by_cases e2:i=(Bj s.F (s.T t).shape.toNat k.str).toNat
  .grind [Ky,Ci,Aj,Jb]
  rw[Ak _ _ e2];exact b i hi
 .rw[h];rcases g.way with⟨e,_⟩|⟨j,e,hj,l,hb,b⟩
  .omega
  have n:(s.T t).shape.toNat=j:=om;rw[n]at h3 h4 ⊢;obtain⟨r,E⟩:∃r:Nat,Es s.nf s.F j k.str=r:=⟨(Es s.nf s.F j k.str).toNat,om⟩;obtain⟨g1,g2,g3,g4,g5⟩:=Zy c hj (p h1) h3 E;rw[E];obtain⟨_,K,L,_,_⟩:=Av c.f;obtain⟨_,p2,P,_,_⟩:=Av g1;have u:∀q,q<s.nf->nf (Fb s.nf s.F j k.str) q=nf s.F q:=λq hq=>gA g3 hq;refine⟨g1,c.nt,c.ns,λq hq=>?_,λq hq=>?_⟩
  .show Wa _ _ (AM s.T t (GH (s.T t) (r:Int) v) q);by_cases e2:q=t
   .subst e2;rw[Aj];refine⟨.inr ⟨r,rfl,g4,?_,hb,λi hi=>?_⟩,g.wf,GO g.m<|Aal _ _⟩
    .show(s.T q).nv+1=nf (Fb s.nf s.F j k.str) r;rw[sK p2 P g5,u j hj,l]
    show Jb (AM (s.T q).V (s.T q).nv v i)=true/\Wf (AM (s.T q).V (s.T q).nv v i);have hi:i<(s.T q).nv+1:=hi;grind [Ky,Ci,Aj,Jb,Ak]
   rw[Ak _ _ e2];have h5:=c.t q hq;refine⟨?_,h5.wf,GO h5.m<|Aal _ _⟩;grind [Ky,Ci,Wa.way]
  obtain⟨a1,a2,a3,a4,a5,w⟩:=c.si q hq;refine⟨a1,a2,a3,a4,a5,?_⟩;rcases w with w|⟨b1,b2,b3,b4⟩
  .exact .inl w
  have x:(s.S q).shape.toNat<s.nf:=om;refine .inr ⟨b1,by show(s.S q).shape<((Fc s.nf s.F j k.str:Nat):Int);omega,b3,?_⟩;show Bj (Fb s.nf s.F j k.str) (s.S q).shape.toNat (s.S q).key=(s.S q).place;rw[K3 K L g3 x];exact b4
 .rw[h];rcases g.way with⟨e,_⟩|⟨j,e,hj,l,hb,b⟩
  .omega
  have n:(s.T t).shape.toNat=j:=om;have A:=F5 c.f hj (λq hq=>(b q om).1) (s.T t).nv om;have B:∀i,i<=(s.T t).nv->M9 (Az s.F j (s.T t).V i):=λi=>by
   induction i with
   |zero=>exactλ_ q hq=>absurd hq<|P9 _
   |succ i ih=>exactλhi=>(ih om).put (G4<|Hg c.f hj<|show i<nf s.F j by omega).2 (b i om).2
  refine Kf a ⟨.inl ⟨rfl,rfl,?_⟩,?_,?_⟩
  .show Inv Ky hN (Ca hN (Az s.F (s.T t).shape.toNat (s.T t).V (s.T t).nv) k v);rw[n];exact Jz Cl A.ls.inv hk hk.1 C
  .show M9 (Ca hN (Az s.F (s.T t).shape.toNat (s.T t).V (s.T t).nv) k v);rw[n];exact(B _<|Be _).put hk.2 D
  show(Ca hN (Az s.F (s.T t).shape.toNat (s.T t).V (s.T t).nv) k v).m<=_;rw[n];have:=Xo (v:=v) Cl A.ls.inv hk;rw[A.m]at this;omega
 .rw[h];rcases g.way with⟨e,e2,H⟩|⟨j,e,_⟩
  .refine Kf a ⟨.inl ⟨rfl,rfl,Jz Cl H hk hk.1 C⟩,g.wf.put hk.2 D,?_⟩;have:=Xo (v:=v) Cl H hk;have:=g.m;show(Ca hN (s.T t).d k v).m<=_;omega
  omega
 rw[h];exact a
def jX(a:GA M s):Wa M s Ja:=by
 obtain⟨h1,h2,_⟩:=Av a.f;refine⟨.inr ⟨0,rfl,oT h1.1,?_,⟨rfl,rfl,rfl,rfl,rfl,rfl⟩,λi hi=>absurd hi<|P9 _⟩,λq hq=>absurd hq<|P9 _,To _⟩;show 0=(s.F 0).count.toNat;rw[h2.2.2];rfl
theorem LD{v}(b:Wf v)(h:De v=0):Ky<|CZ v:=by
 obtain⟨c,a,h1,h2⟩:=sG b;rw[EF]at h1;have e:De v=c/\(CZ v).kind=a.kind/\(CZ v).num=a.num/\(CZ v).Ah=a.Ah/\(CZ v).str=a.str/\(CZ v).ref=a.ref:=by
  simp[KV]at h1;exact h1
 obtain⟨e0,e1,e2,e3,f,g⟩:=e;have d:CZ v=a:=by
  generalize CZ v=x at*;cases x;cases a;grind [De,Ky,CZ]
 rw[d];exact h2 om
def Hw(c:GA M s)a(w:Wf a.k)(g:Wf a.v):GA (M+4002)<|AR s a:=by
 have b:=c.mono<|Aal M 4002;unfold AR;split
 .rename_i hc
  obtain⟨c1,c2,c3,c4⟩:=FM hc;obtain⟨r1,r2,C,x,D,_,_⟩:=CO c1;unfold BJ;split
  .split
   .exact b
   rename_i h1 h2
   refine⟨c.f,by show s.nt+1<=100;have:=c.nt;omega,c.ns,λi hi=>?_,c.si⟩;show Wa _ _ (AM s.T s.nt Ja i);have hi:i<s.nt+1:=hi;by_cases e:i=s.nt
   .rw[e,Aj];have:=jX b;exact⟨this.way,this.wf,this.m⟩
   rw[Ak _ _ e];have:=b.t i om;exact⟨this.way,this.wf,this.m⟩
  split
  .split
   .exact b
   rename_i h1 p h2
   have A:=Y4 c1 p;refine⟨c.f,c.nt,by show s.ns+1<=50;have:=c.ns;omega,λi hi=>(b.t i hi).vX,λi hi=>?_⟩;grind [AR,Ob,AM,Aj,tH,Ak,GA.ns,GA.si]
  split
  .grind [AR,Dl,RO,LD]
  split
  .grind [AR,Dl,EH,JX]
  split
  .rename_i h1 p h2 E r
   have F:=c2 (by simp[Dl,r]);have hs:=c3 (by simp[EH,r]);have hi:a.site.toNat<s.ns:=om;have d:a.t.toNat<s.nt:=om;have u:=JX c hi d;split
   .rename_i h
    obtain⟨j,q,e1,e2,e3,H,I⟩:=JW c hi d h.1;refine Kf (u.mono<|Aal M 4002) ?_;have l:=b.t a.t.toNat d;rcases l.way with⟨e,_⟩|⟨j',e,hj,n,hb,o⟩
    .omega
    refine⟨.inr ⟨j',e,hj,n,hb,λi hi=>?_⟩,l.wf,l.m⟩;show Jb (AM (s.T a.t.toNat).V _ a.v i)=true/\Wf (AM (s.T a.t.toNat).V _ a.v i);by_cases B:i=(Bd s a.site.toNat a.t.toNat).toNat
    .grind [AR,Aj,Jb]
    rw[Ak _ _ B];exact o i hi
   exact RO u d (G4 (c.si _ hi).1) x g
  exact b
 exact b
end
end Go.Proofs.YtkpfgniijbgkoaaGreatDoor
