import Derived.Handy
import Derived.Test.YtgmlkfgfjjggnaaGreatDoorSEAC
set_option linter.all false
set_option maxHeartbeats 40000000
set_option maxRecDepth 100000
namespace Go.Proofs.YtgmlkfgfjjggnaaGreatDoor
open Go.Proofs.Tryz
open Go.RowKit
attribute [local go_sem] AA Aw Cl
def RA(w:Y)(a:T9)(n:Nat)(f:Nat->Tb)(A:Nat->Ad):Prop:=
 n=0\/∃b off,a=some (G b off)/\b<w.heap.size/\∀i,i<n->N0 w b (off+i*8) (A i).va (A i).vc (A i).la (A i).lc (A i).ia (A i).ic (A i).xa (A i).xc (f i)/\Hg w (A i).va (f i).nv (f i).V/\Gy w (A i).la (A i).ia (A i).xa (f i).d
theorem aC.addr{w:Y}{a:Option Addr}{n:Nat}{f:Nat->Tb}(h:aC w a n f):∃A,RA w a n f A:=by
 rcases h with h|⟨b,off,e,c,hc⟩
 ·exact⟨fun _=>default,.inl h⟩
 ·have h2:∀i,∃A:Ad,i<n->N0 w b (off+i*8) A.va A.vc A.la A.lc A.ia A.ic A.xa A.xc (f i)/\Hg w A.va (f i).nv (f i).V/\Gy w A.la A.ia A.xa (f i).d:=fun i=>by
   by_cases hi:i<n
   ·obtain⟨va,vc,la,lc,ia,ic,xa,xc,h1⟩:=hc i hi;exact⟨⟨va,vc,la,lc,ia,ic,xa,xc⟩,fun _=>h1⟩
   ·exact⟨default,fun h=>absurd h hi⟩
  obtain⟨A,hA⟩:=Classical.skolem.1 h2;exact⟨A,.inr ⟨b,off,e,c,hA⟩⟩
theorem RA.below{w w':Y}{a:Option Addr}{n:Nat}{f:Nat->Tb}{A:Nat->Ad}(h:RA w a n f A)(hb:B9 w w'):RA w' a n f A:=by
 rcases h with h|⟨b,off,e,c,hc⟩
 ·exact .inl h
 ·exact .inr ⟨b,off,e,Be c hb.size,fun i hi=>⟨(hc i hi).1.R7 (fun q _=>hb.cell (p:=(G b (off+i*8+q))) c),(hc i hi).2.1.below hb rfl,(hc i hi).2.2.below hb⟩⟩
theorem RA.one{w:Y}{a:Option Addr}{n:Nat}{f:Nat->Tb}{A:Nat->Ad}(h:RA w a n f A){i:Nat}(hi:i<n):Hg w (A i).va (f i).nv (f i).V/\Gy w (A i).la (A i).ia (A i).xa (f i).d:=by
 rcases h with h|⟨b,off,e,c,hc⟩
 ·omega
 ·exact(hc i hi).2
def AF(B:Nat->Nat)(A:Ad)(t:Tb):Value:=if t.shape=-1 then .iface 239 (IJ A t)else .iface 236 (B4 (B t.shape.toNat) A t)
def kL(B:Nat->Nat)(A:Nat->Ad)(s:AV)(k:Nat):List Value:=(List.range k).map fun i=>AF B (A i) (s.T i)
theorem TJ(B:Nat->Nat)(A:Nat->Ad)(s:AV)(k:Nat):kL B A s k++[AF B (A k) (s.T k)]=kL B A s (k+1):=by
 unfold kL;rw[List.range_succ,Aac];rfl
theorem Je{B:Nat->Nat}{A:Nat->Ad}{s:AV}{k i:Nat}(h:i<k):(kL B A s k)[i]?=some (AF B (A i) (s.T i)):=by simp[kL,h]
theorem Ol(B:Nat->Nat)(A:Ad)(t:Tb):(AF B A t).oneCell'=true:=by
 unfold AF
 split<;>rfl
theorem MA:(prog.info? 162).map (fun i=>(i.zero,i.size,i.bytes))=some (some .nilIface,1,16):=by kernel_rfl
theorem AP{w w':Y}{base e size:Nat}{v:V9}{n:Nat}{xs:List Value}(h:w.ownsRow base e size v n xs)(hb:B9 w w'):w'.ownsRow base e size v n xs:=by
 obtain⟨hl,⟨b,d⟩|⟨g',cap,cur,b,c,a,h1,h2,h3,h4⟩⟩:=h
 ·exact⟨hl,.inl ⟨b,d⟩⟩
 ·refine⟨hl,.inr ⟨g',cap,cur,b,c,?_,h1,h2,h3,h4⟩⟩;rw[hb.block g' (E1.1 a).1];exact a
theorem Nd.JC{w w':Y}{s:AV}{b0 g:Nat}{B Z:Nat->Nat}{M:Nat->Option Nat}(h:Nd w s b0 g B Z M)(hk:∀b,b0<=b->b<w.heap.size->w'.heap[b]?=w.heap[b]?)(hg:w'.heap[g]?=w.heap[g]?):Nd w' s b0 g B Z M:=
 ⟨{h.ns with
  node:=fun i hi hn=>(h.ns.node i hi hn).of_block (hk _ (h.ns.base i hi) (We (h.ns.node i hi hn)))
  kids:=fun i m hi hn a=>by
   obtain⟨g,hg,hK⟩:=h.ns.kids i m hi hn a;obtain⟨es,c,hc⟩:=hg.isMap;exact⟨g,hg.block (hk _ (h.ns.mbase i m hi hn a) (E1.1 hc).1),hK⟩},h.id,Y8 hg h.lt,fun i hi=>(As hg).trans (h.eN i hi)⟩
theorem Nd.MZ{w:Y}{s:AV}{b0 b1 g:Nat}{B Z:Nat->Nat}{M:Nat->Option Nat}(h:Nd w s b0 g B Z M)(hb:b1<=b0):Nd w s b1 g B Z M:=⟨h.ns.MZ hb,h.id,h.lt,h.eN⟩
theorem St{w w':Y}{base e size:Nat}{v:V9}{n:Nat}{xs:List Value}(h:w.ownsRow base e size v n xs)(hk:∀q,base<=q->q<w.heap.size->w'.heap[q]?=w.heap[q]?):w'.ownsRow base e size v n xs:=by
 obtain⟨hl,⟨c,d⟩|⟨g',cap,cur,c,b,a,h1,h2,h3,h4⟩⟩:=h
 ·exact⟨hl,.inl ⟨c,d⟩⟩
 ·refine⟨hl,.inr ⟨g',cap,cur,c,b,?_,h1,h2,h3,h4⟩⟩;rw[hk g' b (E1.1 a).1];exact a
theorem Ng(s:ByteArray)(w:Y):
  C9 211 #[.string s] w (R9 (V 4 0 0 s 0) w):=by
 go_enter func211,ntmps211
 go_wp2;exact DO (v:=V 4 0 0 s 0) (by simp[results,results211,go_sem]) rfl ⟨rfl,n9⟩
def Ey(s:AV)(j:Nat)(t:Tb)(i:Nat):Pr:=⟨⟨4,0,0,DF s.F j i,0⟩,t.V i,(i:Int)+1⟩
theorem FF(s:AV)(b0:Nat)(B Z:Nat->Nat)(M:Nat->Option Nat)(A:Ad)(t:Tb)(j:Nat)(w:Y)(hN:B8 w s.F b0 s.nf B Z M)(hid:∀i,i<s.nf->Z i=i)(h0:Ar s.nf s.F=0)(hj:j<s.nf)(hV:Hg w A.va t.nv t.V)(H:t.nv=nf s.F j):
  C9 157 #[B4 (B j) A t] w fun e w'=>(∃v,e=.returned v/\Ci w' w.heap.size v (nf s.F j) (Ey s j t))/\B9 w w':=by
 obtain⟨h1,h2,h3,h4,h5⟩:=Au h0;have I:nf s.F j<=12:=by have:=(BC (k:=s.nf) h2 (fun q h1 h2=>h3 q h1 h2) j hj).2;unfold nf;omega
 obtain⟨i0,hi,T,U,X⟩:=Tn Gi;obtain⟨W,E⟩:∃W,W=w.alloc (.cells #[.slice A.va t.nv A.vc,.slice A.la t.d.n A.lc,.slice A.ia t.d.m A.ic,.slice A.xa t.d.x A.xc,J t.d.used,J t.d.live,J t.d.turns,Q9 (B j)] 236):=⟨_,rfl⟩;have l:B9 w W:=by rw[E];exact(DD _ _).alloc (A0 _) _
 have lw:w.heap.size<W.heap.size:=by rw[E];simp
 have x0:W.cell? (y w 0)=some (.slice A.va t.nv A.vc):=by rw[E];simp[go_sem]
 have x7:W.cell? (y w 7)=some (Q9 (B j)):=by rw[E];simp[go_sem]
 have r:=O (And.intro (hN.below l) hid);have K:=O (hV.below l rfl);have L:=O l;have H2:=O h2;have H3:=O h3;have u:=O H;clear l hV hN hid h0 h1 h2 h3 h4 h5 H;obtain⟨n,hn⟩:∃n,n=nf s.F j:=⟨_,rfl⟩;rw[<-hn]at I u ⊢;have bb:=O hn
 go_enter func157,ntmps157
 go_wp2_with fail
 rw[<-E];clear E;refine(RM _ s.F b0 s.nf B Z M r.1 r.2 H2 H3 j hj).mono ?_;rintro e w1 ⟨⟨m,rfl,hm,c⟩,f⟩;rw[<-hn]at c ⊢;clear hn;have y0:=(f.cell (p:=(y w 0)) lw).trans x0;have ae:w.heap.size<w1.heap.size:=Be lw f.size;have af:=We c;have ag:=O (K.below f rfl);have C:=O (L.trans (f.mono L.size));have ah:=O c;clear f x0 x7 c K r;go_wp2;go_loopw [3,10] (fun v i wr=>∃(k:Nat),k<=n/\i=J k/\Ci wr w1.heap.size v k (Ey s j t)/\B9 w1 wr) (fun _ i _=>n-(intOf i).toNat)
 case atStart=>exact⟨0,by omega,rfl,ON _ _ _ _,DD _ _⟩
 case round=>
  obtain⟨k,hk,rfl,P,hb⟩:=hrel;by_cases Q:k<n
  case neg=>
   have ai:k=n:=by omega
   have D:=O (C.trans (hb.mono C.size));have HO:=O P;clear hb P Q;subst ai;go_wp2;go_ret;exact⟨⟨_,rfl,DK HO C.size⟩,D⟩
  obtain⟨b,off,R,aj,hcs⟩:=ag.resolve_left (by have:=z u;omega);have ak:k<t.nv:=by have:=z u;omega
  obtain⟨e0,e1,e2,e3,e4⟩:=(hcs k ak).keep (fun q=>hb.cell (p:=(G b q)) aj);have p0:wr.cell? (y w 0)=some (.slice (some (G b off)) t.nv A.vc):=by rw[<-R];exact(hb.cell (p:=(y w 0)) ae).trans y0
  have q0:wr.cell? (G m k)=some (.string (DF s.F j k)):=(hb.cell (p:=(G m k)) af).trans (World.rowIs.cell ah Q);have bc:=hb.size;have ao:w.heap.size<wr.heap.size:=by omega
  have g:b<wr.heap.size:=by omega
  have D:=O hb;have aq:Hid (Ci wr.drew w1.heap.size u3 k (Ey s j t)):=O P.drew;have S:=O P.lt;clear hb P hcs R;go_wp2_with fail
  have bd:IntKind.i64.wrap ((k:Int)+1)=(k:Int)+1:=by rw[It];omega
  go_region_law (first
   |(go_simp;go_at_call 211;refine m9 (Ng (DF s.F j k) _) fun w2 a=>?_;have bf:wr.heap.size<=w2.heap.size:=a.size;have ar:=(a.cell (p:=(y w 0)) ao).trans p0;have au:=(a.cell (p:=(G b (off+k*5))) g).trans e0;have av:=(a.cell (p:=(G b (off+k*5+1))) g).trans e1;have aw:=(a.cell (p:=(G b (off+k*5+2))) g).trans e2;have ax:=(a.cell (p:=(G b (off+k*5+3))) g).trans e3;have ay:=(a.cell (p:=(G b (off+k*5+4))) g).trans e4;have l2:w.heap.size<w2.heap.size:=(by omega);have bg:b<w2.heap.size:=(by omega);have az:=O (AP aq a);have aM:=O (D.trans (show Below w1.heap.size wr w2 from⟨a.os,a.tape,a.output,a.size,fun k hk=>a.block k (by show k<wr.heap.size;omega)⟩));clear a)
   |(refine Aap _ rfl (.tmp 15) (.tmp 27) 85 rfl w1.heap.size 96 i0 PZ 11 104 underlying85 hi T U X rfl (by decide) u3 k (pL (Ey s j t) k) (by simp[Act.eval]) (az.alloc _) (y w2 0) 1 1 (Eb (Ey s j t k)) (by simp[Act.eval]) rfl (GP (BE _ _)) (Er _) (by decide) (by unfold maxLen;omega) (by omega) (by simp;omega) _ rfl ?_;intro g3 bh w3 h o ad a8;have a6:=O ((aM.alloc (by omega) _).trans (KT o (fun q e=>(S q e).1) (by simp;omega)));have a7:=O h;clear h o))
  all_goals
   clear e0 e1 e2 e3 e4 p0 q0 au av aw ax ay ar;go_wp2;go_roundw
   case rel=>exact⟨k+1,by omega,by go_num,a7,a6⟩
   case measure=>simp[intOf];omega
theorem Lw(s:AV)(b0 g:Nat)(B Z:Nat->Nat)(M:Nat->Option Nat)(A:Ad)(t:Tb)(j:Nat)(w:Y)(hN:Nd w s b0 g B Z M)(b:Ar s.nf s.F=0)(hj:j<s.nf)(c:Hg w A.va t.nv t.V)(a:t.nv=nf s.F j):
  C9 157 #[B4 (B j) A t] w fun e w'=>(∃v,e=.returned v/\Ci w' w.heap.size v (nf s.F j) (Ey s j t))/\B9 w w':=FF s b0 B Z M A t j w hN.ns hN.id b hj c a
noncomputable def Dz(s:AV)(i:Nat):Int:=CE (s.T i).d (hD (s.T i).d)
open Classical in
noncomputable def VB(s:AV)(t:Tb):Nat:=if t.shape=-1 then II t.d else nf s.F t.shape.toNat
open Classical in
noncomputable def Ym(s:AV)(t:Tb):Nat->Pr:=if t.shape=-1 then DX t.d else Ey s t.shape.toNat t
theorem Vh{s:AV}{i:Nat}(h:dQ s (Dz s i) (s.T i)):((s.T i).shape=-1/\CE (s.T i).d (hD (s.T i).d)=0)\/∃j:Nat,(s.T i).shape=j/\j<s.nf/\(s.T i).nv=nf s.F j:=by
 rcases h with h|h
 ·exact .inl ⟨h.1,h.2.2⟩
 ·refine .inr ⟨(s.T i).shape.toNat,by omega,by omega,?_⟩;have:=h.2.2.1;unfold nf;omega
theorem iK(v:V9)(W:Y):Sem.run prog (Instr.typeAssert (.iface 236 v) 162 236 true) W=.ok (.tuple #[v,.bool true]) W:=by
 kernel_rfl
theorem kD(v:V9)(W:Y):Sem.run prog (Instr.typeAssert (.iface 239 v) 162 239 true) W=.ok (.tuple #[v,.bool true]) W:=by
 kernel_rfl
theorem jT(v:V9)(W:Y):Sem.run prog (Instr.typeAssert (.iface 239 v) 162 236 true) W=.ok (.tuple #[.agg #[N9,N9,N9,N9,J 0,J 0,J 0,.pointer none],.bool false]) W:=by
 kernel_rfl
theorem Su(s:AV)(b0 g:Nat)(B Z:Nat->Nat)(M:Nat->Option Nat)(A:Ad)(t:Tb)(j:Nat)(w:Y)(hN:Nd w s b0 g B Z M)(k:Ar s.nf s.F=0)(hj:j<s.nf)(l:Hg w A.va t.nv t.V)(a:t.nv=nf s.F j):
  C9 92 #[.iface 236 (B4 (B j) A t)] w fun e w'=>(∃v,e=.returned v/\Ci w' w.heap.size v (nf s.F j) (Ey s j t))/\B9 w w':=by
 have b:∀o,B9 w (w.alloc o):=fun o=>n9
 have c:=O b;have n:=O hN;have f:=O l;have p:=O k;have h:=O a;clear b hN l k a;have q:=iK (B4 (B j) A t)
 go_enter func92,ntmps92
 go_wp2_with fail
 refine(Lw s b0 g B Z M A t j _ (n.below (c _)) p hj (f.below (c _) rfl) h).mono ?_;rintro e w1 ⟨⟨v,rfl,m⟩,d⟩;have i:=O ((c _).trans (d.mono (c _).size));have f:=O (DK m (c _).size);clear d m;go_wp2;go_ret;exact⟨⟨v,rfl,f⟩,i⟩
section
noncomputable def CX(F:Nat->Bf)(x:Tb)(k:Vl):Vl:=
 if x.shape<0 then GB x.d (AE x.d k (hN k))
 else if k.kind=4/\0<=BW F x.shape.toNat k.str then x.V (BW F x.shape.toNat k.str).toNat else nov
def U5(n:Nat)(f:Nat->Bf)(i:Nat)(key:ByteArray):Int:=Te (fun j=>decide (0<j)&&(decide ((f j).parent=(i:Int))&&((f j).key.toList==key.toList))) n
def EN(n:Nat)(f:Nat->Bf)(i:Nat)(key:ByteArray):Int:=if 0<=U5 n f i key then U5 n f i key else if(f i).count=12\/n=200 then -1 else n
def Em(n:Nat)(f:Nat->Bf)(i:Nat)(key:ByteArray):Nat:=if 0<=U5 n f i key then n else if(f i).count=12\/n=200 then n else n+1
def C6(n:Nat)(f:Nat->Bf)(i:Nat)(key:ByteArray):Nat->Bf:=if 0<=U5 n f i key then f else if(f i).count=12\/n=200 then f else grown f n i key
theorem TM{n:Nat}{f:Nat->Bf}{i:Nat}{key:ByteArray}{j:Nat}:NY n f i key j↔j<n/\(decide (0<j)&&(decide ((f j).parent=(i:Int))&&((f j).key.toList==key.toList)))=true:=by
 simp only[OR,AaJ,beq_iff_eq];constructor
 ·rintro⟨a,b,c,d⟩;exact⟨b,a,c,d⟩
 ·rintro⟨b,a,c,d⟩;exact⟨a,b,c,d⟩
theorem Qr(n:Nat)(f:Nat->Bf)(i:Nat)(key:ByteArray):VW n f i key (Em n f i key) (C6 n f i key) (EN n f i key):=by
 unfold Em C6 EN;rcases atF_rng (fun j=>decide (0<j)&&(decide ((f j).parent=(i:Int))&&((f j).key.toList==key.toList))) n 0 with h|⟨j,h1,h2,h3,h4,h5⟩
 ·have hk:U5 n f i key=-1:=h;have c:∀j,¬NY n f i key j:=fun j hj=>by
   obtain⟨a,b⟩:=TM.1 hj;have:=Fq h j (P9 _) (by omega);rw[this]at b;cases b
  have d:¬(0:Int)<=-1:=by decide
  simp only[hk,Cs d];by_cases hc:(f i).count=12\/n=200
  ·simp only[C3 hc];exact .inr (.inl ⟨c,hc,rfl,rfl,rfl⟩)
  ·simp only[Cs hc];exact .inr (.inr ⟨c,fun e=>hc (.inl e),fun e=>hc (.inr e),rfl,rfl,rfl⟩)
 ·have hk:U5 n f i key=j:=h1;have d:(0:Int)<=(j:Int):=by omega
  simp only[hk,C3 d];exact .inl ⟨j,TM.2 ⟨by omega,h4⟩,rfl,rfl,rfl⟩
theorem LD{n:Nat}{f:Nat->Bf}{i:Nat}{key:ByteArray}{n':Nat}{f':Nat->Bf}{r:Int}(h4:Gd n f)(h:VW n f i key n' f' r):n'=Em n f i key/\f'=C6 n f i key/\r=EN n f i key:=h.unique h4 (Qr n f i key)
noncomputable def Bc(F:Nat->Bf)(j:Nat)(W:Nat->Vl):Nat->Dc
 |0=>dP
 |i+1=>CB hN (Bc F j W i) (A7 (DF F j i)) (W i)
noncomputable def El(d:Dc)(k v:Vl):Bool:=decide (v.kind≠0)&&(decide (AE d k (hN k)<0)&&(decide (d.live=500)||decide (d.turns=1000000000000)))
noncomputable def Dk(x:Tb)(d:Dc)(k v:Vl):Tb:=⟨-1,0,x.V,CB hN d k v⟩
def Cg(s:AV)(t:Nat)(x:Tb):AV:={s with T:=AM s.T t x}
def Dn(x:Tb)(i:Nat)(v:Vl):Tb:={x with V:=AM x.V i v}
def CI(x:Tb)(r:Int)(v:Vl):Tb:={x with shape:=r,nv:=x.nv+1,V:=AM x.V x.nv v}
inductive Way where
 |no|DF|grow|loose|Nw|full
 deriving DecidableEq
noncomputable def Ce(s:AV)(x:Tb)(k v:Vl):Way:=
 if v.kind=0/\(CX s.F x k).kind=0 then .no
 else if 0<=x.shape then
  (if k.kind=4/\v.kind≠0 then
   (if 0<=BW s.F x.shape.toNat k.str then .DF
    else if 0<=EN s.nf s.F x.shape.toNat k.str then .grow else .loose)
   else .loose)
 else if El x.d k v=true then .full else .Nw
noncomputable def BO(s:AV)(t:Nat)(k v:Vl):AV:=
 match Ce s (s.T t) k v with
 |.no=>s
 |.DF=>Cg s t (Dn (s.T t) (BW s.F (s.T t).shape.toNat k.str).toNat v)
 |.grow=>{Cg s t (CI (s.T t) (EN s.nf s.F (s.T t).shape.toNat k.str) v)with nf:=Em s.nf s.F (s.T t).shape.toNat k.str,F:=C6 s.nf s.F (s.T t).shape.toNat k.str}
 |.loose=>Cg s t (Dk (s.T t) (Bc s.F (s.T t).shape.toNat (s.T t).V (s.T t).nv) k v)
 |.Nw=>Cg s t (Dk (s.T t) (s.T t).d k v)
 |.full=>s
noncomputable def C2(s:AV)(t:Nat)(k v:Vl):Int:=if Ce s (s.T t) k v=.full then 5 else 0
def FC(n:Int):Int:=if n<1000000000000 then n+1 else 1000000000000
def My(s:AV)(i t:Nat):Bool:=decide (0<=(s.T t).shape)&&decide ((s.T t).shape=(s.S i).shape)
noncomputable def Ej(s:AV)(i t:Nat):Si:=
 if My s i t=true then{s.S i with EB:=FC (s.S i).EB}
 else if 0<=(s.T t).shape/\0<=BW s.F (s.T t).shape.toNat (s.S i).key then⟨(s.S i).key,(s.T t).shape,BW s.F (s.T t).shape.toNat (s.S i).key,(s.S i).EB,FC (s.S i).Bh⟩
 else{s.S i with Bh:=FC (s.S i).Bh}
noncomputable def Bg(s:AV)(i t:Nat):Int:=
 if My s i t=true then(s.S i).place else if 0<=(s.T t).shape then BW s.F (s.T t).shape.toNat (s.S i).key else -1
noncomputable def Ba(s:AV)(i t:Nat):AV:={s with S:=AM s.S i (Ej s i t)}
def SL:Tb:=⟨0,0,fun _=>default,dP⟩
noncomputable def TV(s:AV)(t:Nat):Pl:=⟨VB s (s.T t),Ym s (s.T t),0⟩
noncomputable def Df(s:AV)(a:Ac):AV:=
 if a.op=1 then(if s.nt=100 then s else{s with nt:=s.nt+1,T:=AM s.T s.nt SL})
 else if a.op=7 then(if s.ns=50 then s else{s with ns:=s.ns+1,S:=AM s.S s.ns ⟨a.k.str,-1,0,0,0⟩})
 else if a.op=2 then BO s a.t.toNat (Bw a.k) a.v
 else if a.op=8 then Ba s a.site.toNat a.t.toNat
 else if a.op=9 then
  (if 0<=Bg s a.site.toNat a.t.toNat/\a.v.kind≠0 then Cg (Ba s a.site.toNat a.t.toNat) a.t.toNat (Dn (s.T a.t.toNat) (Bg s a.site.toNat a.t.toNat).toNat a.v)
   else BO (Ba s a.site.toNat a.t.toNat) a.t.toNat (A7 (s.S a.site.toNat).key) a.v)
 else s
noncomputable def FO(s:AV)(a:Ac):An:=
 if a.op=1 then(if s.nt=100 then AO 5 else B5 s.nt)
 else if a.op=7 then(if s.ns=50 then AO 5 else B5 s.ns)
 else if a.op=2 then AO (C2 s a.t.toNat (Bw a.k) a.v)
 else if a.op=9 then
  (if 0<=Bg s a.site.toNat a.t.toNat/\a.v.kind≠0 then AO 0
   else AO (C2 (Ba s a.site.toNat a.t.toNat) a.t.toNat (A7 (s.S a.site.toNat).key) a.v))
 else if a.op=3 then CL (CX s.F (s.T a.t.toNat) (Bw a.k))
 else if a.op=8 then CL (if 0<=Bg s a.site.toNat a.t.toNat then(s.T a.t.toNat).V (Bg s a.site.toNat a.t.toNat).toNat else CX s.F (s.T a.t.toNat) (A7 (s.S a.site.toNat).key))
 else(TV s a.t.toNat).ask a
noncomputable def FH(s:AV)(a:Ac):AV:=if FL a s.nt s.ns=0 then Df s a else s
noncomputable def Lk(s:AV)(a:Ac):An:=if FL a s.nt s.ns=0 then FO s a else AO (FL a s.nt s.ns)
structure P1 (M:Nat) (s:AV) (t:Tb):Prop where
 way:(t.shape=-1/\t.nv=0/\Inv Ky hN t.d)\/∃j:Nat,t.shape=j/\j<s.nf/\t.nv=nf s.F j/\bare t.d/\∀i,i<t.nv->MQ (t.V i)=true/\Wf (t.V i)
 wf:Rp t.d
 m:t.d.m<=M
abbrev O4(s:AV)(t:Tb):Prop:=P1 4000000 s t
structure Fg (M:Nat) (s:AV):Prop where
 f:Ar s.nf s.F=0
 nt:s.nt<=100
 ns:s.ns<=50
 t:∀i,i<s.nt->P1 M s (s.T i)
 si:∀i,i<s.ns->Rr s (s.S i)
abbrev V7(s:AV):Prop:=Fg 4000000 s
theorem P1.mono{M M':Nat}{s:AV}{t:Tb}(h:P1 M s t)(a:M<=M'):P1 M' s t:=⟨h.way,h.wf,FZ h.m a⟩
theorem Fg.mono{M M':Nat}{s:AV}(h:Fg M s)(a:M<=M'):Fg M' s:=⟨h.f,h.nt,h.ns,fun i hi=>(h.t i hi).mono a,h.si⟩
theorem O4.small{s:AV}{t:Tb}(h:O4 s t):Small t.d:=by
 have b:=h.m;rcases h.way with⟨_,_,a⟩|⟨j,_,_,_,hb,_⟩
 ·exact a.small (by omega)
 ·obtain⟨b1,b2,b3,_⟩:=hb;exact⟨by omega,by omega,by omega⟩
theorem IU{n:Nat}{f:Nat->Bf}(h:Ar n f=0){j:Nat}(hj:j<n):nf f j<=12:=by
 obtain⟨h1,h2,h3,h4,h5⟩:=Au h;have:=(BC (k:=n) h2 (fun j a b=>h3 j a b) j hj).2;unfold nf;omega
theorem O4.nv{s:AV}{t:Tb}(h:O4 s t)(hf:Ar s.nf s.F=0):t.nv<=12:=by
 rcases h.way with⟨_,h1,_⟩|⟨j,_,h1,h2,_,_⟩
 ·omega
 ·have:=IU hf h1;omega
theorem JK{n:Nat}{f:Nat->Bf}(h:Ar n f=0){j:Nat}(hj:j<n)(key:ByteArray):BW f j key=-1\/∃i:Nat,BW f j key=i/\i<nf f j:=by
 obtain⟨h1,h2,h3,h4,h5⟩:=Au h;by_cases hn:∀i,i<nf f j->(DF f j i).toList≠key.toList
 ·exact .inl (MV h2 h3 hj key hn)
 ·obtain⟨i,hi⟩:=Classical.not_forall.1 hn;obtain⟨a,b⟩:=Classical.not_imp.1 hi;exact .inr ⟨i,PF h2 h3 h5 hj key a (Classical.not_not.1 b),a⟩
theorem FW{d:Dc}(h:Inv Ky hN d):CE d (hD d)=0:=(h.sound BA).zero
theorem UZ{k:Vl}(hk:Ky k):JD k.kind k.num k.Ae k.str k.ref=KV 0 k.kind k.num k.Ae k.str k.ref:=by
 have h:=hk.1;unfold Db Vl.ok at h;unfold JD;by_cases h3:k.kind=3
 ·simp[h3]at h ⊢;simp[h]
 ·simp[h3]at h ⊢;simp[h]
theorem F5{s:ByteArray}(h:s.size<=4000):Ky (A7 s):=by
 refine⟨?_,⟨by show 0<_;omega,by show s.size<=_;unfold maxLen;omega⟩⟩;unfold Db;rw[T6 h];rfl
def Ld(f:Nat->List Value):Nat->List Value
 |0=>[]
 |n+1=>Ld f n++f n
theorem C4{f:Nat->List Value}{m:Nat}(hf:∀i,(f i).length=m):∀n,(Ld f n).length=n*m
 |0=>by simp[Ld]
 |n+1=>by rw[Ld,To,C4 hf n,hf,Nat.succ_mul]
theorem LM{f:Nat->List Value}{m:Nat}(hf:∀i,(f i).length=m):∀{n i j:Nat},i<n->j<m->(Ld f n)[i*m+j]?=(f i)[j]?
 |0,i,j,hi,_=>by omega
 |n+1,i,j,hi,hj=>by
  rw[Ld];rcases Nat.lt_or_eq_of_le (Nat.le_of_lt_succ hi)with h|h
  ·rw[PC (by rw[C4 hf];calc i*m+j<i*m+m:=by omega
     _=(i+1)*m:=(Nat.succ_mul i m).symm
     _<=n*m:=Nat.mul_le_mul_right m h)]
   exact LM hf h hj
  ·subst h;rw[TO (by rw[C4 hf];omega),C4 hf]
   congr 1
   omega
theorem D6{f g:Nat->List Value}:∀{n:Nat},(∀i,i<n->f i=g i)->Ld f n=Ld g n
 |0,_=>rfl
 |n+1,h=>by rw[Ld,Ld,D6 (fun i hi=>h i (by omega)),h n (by omega)]
theorem GU{f:Nat->List Value}{m:Nat}(hf:∀i,(f i).length=m){u:V9}:∀{n i j:Nat},i<n->j<m->(Ld f n).set (i*m+j) u=Ld (AM f i ((f i).set j u)) n
 |0,i,j,hi,_=>by omega
 |n+1,i,j,hi,hj=>by
  rw[Ld,Ld];rcases Nat.lt_or_eq_of_le (Nat.le_of_lt_succ hi)with h|h
  ·rw[List.set_append_left _ _ (by rw[C4 hf];calc i*m+j<i*m+m:=by omega
     _=(i+1)*m:=(Nat.succ_mul i m).symm
     _<=n*m:=Nat.mul_le_mul_right m h),GU hf h hj,Ag _ _ (by omega)]
  ·subst h;rw[List.set_append_right _ _ (by rw[C4 hf];omega),C4 hf,show i*m+j-i*m=j by omega,Ah];rw[D6 (f:=f) (g:=AM f i ((f i).set j u)) (fun q hq=>(Ag _ _ (by omega)).symm)]
def Kz(f:Nat->Si)(n:Nat):List Value:=Ld (fun i=>M8 (f i)) n
theorem FG(f:Nat->Si)(n:Nat):(Kz f n).length=n*5:=C4 (m:=5) (f:=fun i=>M8 (f i)) (fun _=>rfl) n
theorem PL{f:Nat->Si}{n i j:Nat}(hi:i<n)(hj:j<5):(Kz f n)[i*5+j]?=(M8 (f i))[j]?:=LM (m:=5) (fun _=>rfl) hi hj
theorem Vu{f g:Nat->Si}{n:Nat}(h:∀i,i<n->f i=g i):Kz f n=Kz g n:=D6 (fun i hi=>by rw[h i hi])
theorem X3(f:Nat->Si)(n:Nat)(x:Si):Kz f n++M8 x=Kz (AM f n x) (n+1):=by
 unfold Kz;rw[Ld,Ah,D6 (f:=fun i=>M8 (f i)) (g:=fun i=>M8 (AM f n x i)) (fun i hi=>by rw[Ag _ _ (by omega)])]
theorem ZM{f:Nat->Si}{n i j:Nat}(hi:i<n)(hj:j<5){u:V9}{x:Si}(hx:M8 x=(M8 (f i)).set j u):(Kz f n).set (i*5+j) u=Kz (AM f i x) n:=by
 unfold Kz;rw[GU (m:=5) (fun _=>rfl) hi hj];refine D6 (fun q hq=>?_);by_cases e:q=i
 ·subst e;rw[Ah,Ah];exact hx.symm
 ·rw[Ag _ _ e,Ag _ _ e]
abbrev L5(w:Y)(B:Nat)(v:V9)(n:Nat)(f:Nat->Si):Prop:=w.ownsRow B 103 5 v n (Kz f n)
abbrev P4(w:Y)(B:Nat)(v:V9)(n:Nat)(Bk:Nat->Nat):Prop:=w.ownsRow B 163 1 v n (ptrs Bk n)
abbrev P6(w:Y)(B:Nat)(v:V9)(n:Nat)(Bk:Nat->Nat)(A:Nat->Ad)(s:AV):Prop:=w.ownsRow B 162 1 v n (kL Bk A s n)
def Aq(B0 c:Nat)(vN vT vS:V9)(w:Y)(k:Nat):Prop:=k=c\/vN.ownBlock=some k\/vT.ownBlock=some k\/vS.ownBlock=some k\/(B0<=k/\DU 208 w k)
def OZ(Z:Nat->Prop)(B0 c:Nat)(vN vT vS:V9)(w:Y)(k:Nat):Prop:=Aq B0 c vN vT vS w k\/Z k
def Rd(Z:Nat->Prop)(w:Y)(A:Ad)(t:Tb):Prop:=
 ∀w',w.heap.size<=w'.heap.size->(∀k,k<w.heap.size->¬Z k->w'.heap[k]?=w.heap[k]?)->Hg w' A.va t.nv t.V/\Gy w' A.la A.ia A.xa t.d
theorem Rd.now{Z:Nat->Prop}{w:Y}{A:Ad}{t:Tb}(h:Rd Z w A t):Hg w A.va t.nv t.V/\Gy w A.la A.ia A.xa t.d:=h w (A0 _) (fun _ _ _=>rfl)
theorem Rd.step{Z O':Nat->Prop}{w w':Y}{A:Ad}{t:Tb}(h:Rd Z w A t)(a:BG Z w O' w'):Rd O' w' A t:=fun b hs hk=>
 h b (FZ a.size hs) (fun k h1 h2=>(hk k (Be h1 a.size) (fun e=>(a.own k e).elim h2 (fun e'=>absurd h1 (by omega)))).trans (a.block k h1 h2))
structure AZ (Z:Nat->Prop) (w:Y) (c B0:Nat) (vN vT vS vU:V9) (Bk:Nat->Nat) (A:Nat->Ad) (s:AV):Prop where
 BR:w.heap[c]?=some (.cells #[vN,vT,vS,vU] 198 (0,0))
 ge:B0<=c
 n:P4 w B0 vN s.nf Bk
 nd:∃N M,B8 w s.F B0 s.nf Bk N M/\∀i,i<s.nf->N i=i
 t:P6 w B0 vT s.nt Bk A s
 si:L5 w B0 vS s.ns s.S
 u:∃ua un uc,vU=.slice ua un uc
 z:∀k,Z k->k<w.heap.size
 rd:∀i,i<s.nt->Rd (OZ Z B0 c vN vT vS w) w (A i) (s.T i)
section
variable {Z:Nat->Prop} {w w':Y} {c B0:Nat} {vN vT vS vU:V9} {Bk:Nat->Nat} {A:Nat->Ad} {s:AV}
theorem AZ.lt(h:AZ Z w c B0 vN vT vS vU Bk A s):c<w.heap.size:=Aj h.BR
theorem AZ.cells(h:AZ Z w c B0 vN vT vS vU Bk A s):w.cell? (G c 0)=some vN/\w.cell? (G c 1)=some vT/\w.cell? (G c 2)=some vS/\w.cell? (G c 3)=some vU/\∀q,w.frozen? (G c q)=false:=
 ⟨by simp[World.cell?,h.BR],by simp[World.cell?,h.BR],by simp[World.cell?,h.BR],by simp[World.cell?,h.BR],fun q=>by simp[World.frozen?,h.BR]⟩
theorem DC{e e' b b' Z j n n':Nat}{v v':V9}{xs xs':List Value}(h:w.ownsRow b e Z v n xs)(h':w.ownsRow b' e' j v' n' xs')(k:e≠e'){q:Nat}(hq:v.ownBlock=some q):v'.ownBlock≠some q:=by
 intro a;obtain⟨_,⟨d,_⟩|⟨g,cap,cur,d,_,hb,_⟩⟩:=h
 ·rw[d]at hq;cases hq
 ·obtain⟨_,⟨hv',_⟩|⟨g',f,i,hv',_,c,_⟩⟩:=h'
  ·rw[hv']at a;cases a
  ·rw[d]at hq;rw[hv']at a;cases hq;cases a;rw[hb]at c;cases c;exact k rfl
theorem A3{e b Z n:Nat}{v:V9}{xs:List Value}(h:w.ownsRow b e Z v n xs){q:Nat}(hq:v.ownBlock=some q):∃cur,w.heap[q]?=some (.cells cur e (0,0))/\b<=q:=by
 obtain⟨_,⟨a,_⟩|⟨g,cap,cur,a,hb,hg,_⟩⟩:=h
 ·rw[a]at hq;cases hq
 ·rw[a]at hq;cases hq;exact⟨cur,hg,hb⟩
theorem Dp{e b Z n:Nat}{v:V9}{xs:List Value}(h:w.ownsRow b e Z v n xs)(a:e≠208){q:Nat}(hq:v.ownBlock=some q):¬DU 208 w q:=by
 obtain⟨cur,hb,_⟩:=A3 h hq;rintro(⟨c,hc⟩|⟨es,c,hc⟩)
 ·rw[hb]at hc;cases hc;exact a rfl
 ·rw[hb]at hc;cases hc
theorem AZ.BS(h:AZ Z w c B0 vN vT vS vU Bk A s){e b X n:Nat}{v:V9}{xs:List Value}(h':w.ownsRow b e X v n xs)(a:e≠198):v.ownBlock≠some c:=by
 intro hq;obtain⟨cur,hb,_⟩:=A3 h' hq;rw[h.BR]at hb;cases hb;exact a rfl
theorem AZ.F0(h:AZ Z w c B0 vN vT vS vU Bk A s):¬DU 208 w c:=by
 rintro(⟨x,hc⟩|⟨es,x,hc⟩)
 ·rw[h.BR]at hc;cases hc
 ·rw[h.BR]at hc;cases hc
theorem AZ.Lc(h:AZ Z w c B0 vN vT vS vU Bk A s){k:Nat}(hk:Aq B0 c vN vT vS w k):B0<=k/\k<w.heap.size:=by
 rcases hk with rfl|e|e|e|⟨e1,e2⟩
 ·exact⟨h.ge,h.lt⟩
 ·exact h.n.lt k e
 ·exact h.t.lt k e
 ·exact h.si.lt k e
 ·refine⟨e1,?_⟩;rcases e2 with⟨x,hx⟩|⟨es,x,hx⟩
  ·exact(E1.1 hx).1
  ·exact(E1.1 hx).1
theorem AZ.next(h:AZ Z w c B0 vN vT vS vU Bk A s){a b d f:V9}{Bk':Nat->Nat}{A':Nat->Ad}{s':AV}
  (g:w'.os=w.os/\w'.tape=w.tape/\w'.output=w.output) (hz:w.heap.size<=w'.heap.size) (hb:∀k,k<w.heap.size->¬Aq B0 c vN vT vS w k->w'.heap[k]?=w.heap[k]?)
  (q:∀k,a.ownBlock=some k->vN.ownBlock=some k\/w.heap.size<=k) (t:∀k,b.ownBlock=some k->vT.ownBlock=some k\/w.heap.size<=k) (u:∀k,d.ownBlock=some k->vS.ownBlock=some k\/w.heap.size<=k)
  (hc:w'.heap[c]?=some (.cells #[a,b,d,f] 198 (0,0))) (n':P4 w' B0 a s'.nf Bk') (l:∃X M,B8 w' s'.F B0 s'.nf Bk' X M/\∀i,i<s'.nf->X i=i)
  (t':P6 w' B0 b s'.nt Bk' A' s') (m:L5 w' B0 d s'.ns s'.S) (u':∃ua un uc,f=.slice ua un uc)
  (n:∀i,i<s'.nt->Rd (OZ Z B0 c vN vT vS w) w (A' i) (s'.T i)\/Rd (OZ Z B0 c a b d w') w' (A' i) (s'.T i)):
  AZ Z w' c B0 a b d f Bk' A' s'/\BG (Aq B0 c vN vT vS w) w (Aq B0 c a b d w') w':=by
 have j:BG (Aq B0 c vN vT vS w) w (Aq B0 c a b d w') w':=by
  refine⟨g.1,g.2.1,g.2.2,hz,hb,fun k hk=>?_⟩;by_cases o:k<w.heap.size
  ·by_cases G4:Aq B0 c vN vT vS w k
   ·exact .inl G4
   ·rcases hk with e|e|e|e|⟨e1,e2⟩
    ·exact .inl (.inl e)
    ·exact(q k e).elim (fun e=>.inl (.inr (.inl e))) .inr
    ·exact(t k e).elim (fun e=>.inl (.inr (.inr (.inl e)))) .inr
    ·exact(u k e).elim (fun e=>.inl (.inr (.inr (.inr (.inl e))))) .inr
    ·refine .inl (.inr (.inr (.inr (.inr ⟨e1,?_⟩))));unfold DU at*;rw[hb k o G4]at e2;exact e2
  ·exact .inr (by omega)
 have p:BG (OZ Z B0 c vN vT vS w) w (OZ Z B0 c a b d w') w':=⟨j.os,j.tape,j.output,j.size,fun k h1 h2=>j.block k h1 (fun e=>h2 (.inl e)),fun k e=>e.elim (fun e=>(j.own k e).imp .inl id) (fun e=>.inl (.inr e))⟩;exact⟨⟨hc,h.ge,n',l,t',m,u',fun k e=>Be (h.z k e) hz,fun i hi=>(n i hi).elim (fun r=>r.step p) (fun r=>r)⟩,j⟩
theorem Hq{a k:Nat}(h:DU a w k):k<w.heap.size:=by
 rcases h with⟨x,hx⟩|⟨es,x,hx⟩
 ·exact(E1.1 hx).1
 ·exact(E1.1 hx).1
theorem AZ.below(h:AZ Z w c B0 vN vT vS vU Bk A s)(hb:B9 w w'):AZ Z w' c B0 vN vT vS vU Bk A s/\BG (Aq B0 c vN vT vS w) w (Aq B0 c vN vT vS w') w':=by
 obtain⟨X,M,hN,hid⟩:=h.nd;exact h.next ⟨hb.os,hb.tape,hb.output⟩ hb.size (fun k hk _=>hb.block k hk) (fun _ e=>.inl e) (fun _ e=>.inl e) (fun _ e=>.inl e) ((hb.block c h.lt).trans h.BR) (AP h.n hb) ⟨X,M,hN.keep (fun b hn=>hb.block b (Hq hn)),hid⟩ (AP h.t hb) (AP h.si hb) h.u (fun i hi=>.inl (h.rd i hi))
theorem Rd.mono{Z O':Nat->Prop}{A:Ad}{t:Tb}(h:Rd Z w A t)(a:∀k,O' k->Z k):Rd O' w A t:=fun w' hs hk=>h w' hs (fun k h1 h2=>hk k h1 (fun e=>h2 (a k e)))
def ZB(Z:Nat->Prop)(a b k:Nat):Prop:=Z k\/(a<=k/\k<b)
theorem AZ.enter(h:AZ Z w c B0 vN vT vS vU Bk A s)(hb:B9 w w'):AZ (ZB Z w.heap.size w'.heap.size) w' c B0 vN vT vS vU Bk A s/\BG (Aq B0 c vN vT vS w) w (Aq B0 c vN vT vS w') w':=by
 obtain⟨h1,b⟩:=h.below hb;refine⟨⟨h1.BR,h1.ge,h1.n,h1.nd,h1.t,h1.si,h1.u,fun k e=>e.elim (fun e=>h1.z k e) (fun e=>e.2),fun i hi a hs hk=>?_⟩,b⟩;refine h.rd i hi a (FZ hb.size hs) (fun k k1 k2=>(hk k (Be k1 hb.size) (fun e=>?_)).trans (hb.block k k1));rcases e with e|e|e
 ·exact(b.own k e).elim (fun e=>k2 (.inl e)) (fun e=>by omega)
 ·exact k2 (.inr e)
 ·omega
theorem AZ.leave{a:Nat->Prop}(h:AZ Z w c B0 vN vT vS vU Bk A s)(hz:∀k,a k->Z k):AZ a w c B0 vN vT vS vU Bk A s:=
 ⟨h.BR,h.ge,h.n,h.nd,h.t,h.si,h.u,fun k e=>h.z k (hz k e),fun i hi=>(h.rd i hi).mono (fun k e=>e.imp id (hz k))⟩
theorem AZ.box(h:AZ Z w c B0 vN vT vS vU Bk A s){b:Nat}{cs:Array Value}{ty:TypeId}(hb:Z b)(l:B0<=b)(hn:¬Aq B0 c vN vT vS w b)(a:w'.os=w.os/\w'.tape=w.tape/\w'.output=w.output/\w'.heap.size=w.heap.size)(hk:∀k,k≠b->w'.heap[k]?=w.heap[k]?)(hc:w'.heap[b]?=some (.cells cs ty (0,0)))(r:ty≠208):
  AZ Z w' c B0 vN vT vS vU Bk A s/\∀k,Aq B0 c vN vT vS w' k->Aq B0 c vN vT vS w k:=by
 have q:∀k,Aq B0 c vN vT vS w' k->Aq B0 c vN vT vS w k:=fun k e=>by
  rcases e with e|e|e|e|⟨e1,e2⟩
  ·exact .inl e
  ·exact .inr (.inl e)
  ·exact .inr (.inr (.inl e))
  ·exact .inr (.inr (.inr (.inl e)))
  ·by_cases d:k=b
   ·subst d;rcases e2 with⟨x,hx⟩|⟨es,x,hx⟩
    ·rw[hc]at hx;cases hx;exact absurd rfl r
    ·rw[hc]at hx;cases hx
   ·refine .inr (.inr (.inr (.inr ⟨e1,?_⟩)));unfold DU at*;rw[hk k d]at e2;exact e2
 have j:∀k,Aq B0 c vN vT vS w k->w'.heap[k]?=w.heap[k]?:=fun k e=>hk k (fun e'=>hn (e'▸e))
 obtain⟨X,M,hN,hid⟩:=h.nd;refine⟨⟨(j c (.inl rfl)).trans h.BR,h.ge,Ai h.n (fun g e=>j g (.inr (.inl e))),⟨X,M,hN.keep (fun b' m=>?_),hid⟩,Ai h.t (fun g e=>j g (.inr (.inr (.inl e)))),Ai h.si (fun g e=>j g (.inr (.inr (.inr (.inl e))))),h.u,fun k e=>by rw[a.2.2.2];exact h.z k e,fun i hi o hs p=>?_⟩,q⟩
 ·by_cases f:b'=b
  ·subst f;exact absurd (.inr (.inr (.inr (.inr ⟨l,m⟩)))) hn
  ·exact hk b' f
 ·refine h.rd i hi o (by rw[<-a.2.2.2];exact hs) (fun k k1 k2=>(p k (by rw[a.2.2.2];exact k1) (fun e=>k2 (e.imp (q k) id))).trans (hk k (fun e=>k2 (.inr (e▸hb)))))
theorem AZ.fin{m:Nat->Prop}{a:Y}{d f g l:V9}{Bk':Nat->Nat}{A':Nat->Ad}{s':AV}(h:AZ m w' c B0 d f g l Bk' A' s')(j:BG (Aq B0 c vN vT vS w) w (Aq B0 c d f g w') w')(n:B0<=w.heap.size)
  {b:Nat} {cs:Array Value} {ty:TypeId} (hb:m b) (o:w.heap.size<=b) (hn:¬Aq B0 c d f g w' b) (p:∀k,Z k->m k) (i:a.os=w'.os/\a.tape=w'.tape/\a.output=w'.output/\a.heap.size=w'.heap.size) (hk:∀k,k≠b->a.heap[k]?=w'.heap[k]?) (hc:a.heap[b]?=some (.cells cs ty (0,0))) (q:ty≠208):
  AZ Z a c B0 d f g l Bk' A' s'/\BG (Aq B0 c vN vT vS w) w (Aq B0 c d f g a) a:=by
 obtain⟨h1,r⟩:=h.box hb (FZ n o) hn i hk hc q;exact⟨h1.leave p,⟨i.1.trans j.os,i.2.1.trans j.tape,i.2.2.1.trans j.output,by rw[i.2.2.2];exact j.size,fun k k1 k2=>(hk k (by omega)).trans (j.block k k1 k2),fun k e=>j.own k (r k e)⟩⟩
theorem AZ.gG(h:AZ Z w c B0 vN vT vS vU Bk A s){ua:Option Addr}{un uc:Nat}:AZ Z (w.setCell (G c 3) (.slice ua un uc)) c B0 vN vT vS (.slice ua un uc) Bk A s/\BG (Aq B0 c vN vT vS w) w (Aq B0 c vN vT vS (w.setCell (G c 3) (.slice ua un uc))) (w.setCell (G c 3) (.slice ua un uc)):=by
 obtain⟨X,M,hN,hid⟩:=h.nd;have a:∀k,k≠c->(w.setCell (G c 3) (.slice ua un uc)).heap[k]?=w.heap[k]?:=fun k hk=>At _ _ _ _ (by exact hk)
 refine h.next ⟨rfl,rfl,rfl⟩ (by simp) (fun k _ hk=>a k (fun e=>hk (.inl e))) (fun _ e=>.inl e) (fun _ e=>.inl e) (fun _ e=>.inl e) ?_ (Ai h.n (fun g e=>a g (fun e'=>h.BS h.n (by decide) (e'▸e)))) ⟨X,M,hN.keep (fun b hn=>a b (fun e=>h.F0 (e▸hn))),hid⟩
  (Ai h.t (fun g e=>a g (fun e'=>h.BS h.t (by decide) (e'▸e)))) (Ai h.si (fun g e=>a g (fun e'=>h.BS h.si (by decide) (e'▸e)))) ⟨_,_,_,rfl⟩ (fun i hi=>.inl (h.rd i hi))
 exact(GW _ _ _ _ _ _ h.BR).trans (by simp)
theorem AZ.drew(h:AZ Z w c B0 vN vT vS vU Bk A s):AZ Z w.drew c B0 vN vT vS vU Bk A s:=(h.below (DD _ _).drew).1
theorem BG.Qf{Z:Nat->Prop}(h:BG Z w (Aq B0 c vN vT vS w') w'):BG Z w (Aq B0 c vN vT vS w'.drew) w'.drew:=⟨h.os,h.tape,h.output,h.size,h.block,fun k e=>h.own k e⟩
end
end
section
theorem Io(Bk:Nat->Nat)(A:Nat->Ad)(s:AV)(n:Nat):(kL Bk A s n).length=n:=by simp[kL]
theorem MD{Bk Bk':Nat->Nat}{A A':Nat->Ad}{s s':AV}{n:Nat}(h:∀i,i<n->AF Bk (A i) (s.T i)=AF Bk' (A' i) (s'.T i)):kL Bk A s n=kL Bk' A' s' n:=by
 unfold kL;exact List.map_congr_left (fun i hi=>h i (AaR.1 hi))
theorem cH{Bk:Nat->Nat}{A:Nat->Ad}{s:AV}{n t:Nat}(a:t<n)(a':Ad)(x':Tb):(kL Bk A s n).set t (AF Bk a' x')=kL Bk (AM A t a') (Cg s t x') n:=by
 apply List.ext_getElem?;intro q;rw[List.getElem?_set];by_cases hq:q<n
 ·by_cases e:t=q
  ·subst e;rw[C3 rfl,C3 (by rw[Io];exact hq),Je hq];show _=some (AF Bk (AM A t a' t) (AM s.T t x' t));rw[Ah,Ah]
  ·rw[Cs e,Je hq,Je hq];show _=some (AF Bk (AM A t a' q) (AM s.T t x' q));rw[Ag _ _ (fun e'=>e e'.symm),Ag _ _ (fun e'=>e e'.symm)]
 ·rw[SO (by rw[Io];omega),Cs (by omega),SO (by rw[Io];omega)]
section
variable {Z:Nat->Prop} {w w' X w3:Y} {c B0:Nat} {vN vT vS vU:V9} {Bk:Nat->Nat} {A:Nat->Ad} {s:AV}
theorem AZ.FI(h:AZ Z w c B0 vN vT vS vU Bk A s){t:Nat}(d:t<s.nt):∃g e,vT=.slice (some (G g 0)) s.nt e/\g<w.heap.size/\B0<=g/\w.cell? (G g t)=some (AF Bk (A t) (s.T t))/\∀q,w.frozen? (G g q)=false:=by
 obtain⟨hl,⟨b,f⟩|⟨g,cap,cur,b,hb,a,h1,h2,h3,h4⟩⟩:=h.t
 ·omega
 ·refine⟨g,cap,b,(E1.1 a).1,hb,?_,fun q=>by simp[World.frozen?,a]⟩;rw[I9 (b▸h.t) t (by omega),Je d]
theorem AZ.Jm(h:AZ Z w c B0 vN vT vS vU Bk A s){g j t:Nat}(d:vT=.slice (some (G g 0)) s.nt j)(l:t<s.nt){a':Ad}{x':Tb}(m:Rd (OZ Z B0 c vN vT vS w) w a' x'):
  AZ Z (w.setCell (G g t) (AF Bk a' x')) c B0 vN vT vS vU Bk (AM A t a') (Cg s t x')/\BG (Aq B0 c vN vT vS w) w (Aq B0 c vN vT vS (w.setCell (G g t) (AF Bk a' x'))) (w.setCell (G g t) (AF Bk a' x')):=by
 obtain⟨X,M,hN,hid⟩:=h.nd;have hg:vT.ownBlock=some g:=by rw[d];rfl
 have a:∀k,k≠g->(w.setCell (G g t) (AF Bk a' x')).heap[k]?=w.heap[k]?:=fun k hk=>At _ _ _ _ (by exact hk)
 have f:c≠g:=fun e=>h.BS h.t (by decide) (e▸hg)
 refine h.next ⟨rfl,rfl,rfl⟩ (by simp) (fun k _ hk=>a k (fun e=>hk (.inr (.inr (.inl (e▸hg)))))) (fun _ e=>.inl e) (fun _ e=>.inl e) (fun _ e=>.inl e) ((a c f).trans h.BR) (Ai h.n (fun q e=>a q (fun e'=>DC h.t h.n (by decide) hg (e'▸e)))) ⟨X,M,hN.keep (fun b hn=>a b (fun e=>Dp h.t (by decide) hg (e▸hn))),hid⟩ ?_
  (Ai h.si (fun q e=>a q (fun e'=>DC h.t h.si (by decide) hg (e'▸e)))) h.u (fun i hi=>?_)
 ·have h1:=(Wx (d▸h.t:w.ownsRow B0 162 1 (.slice (some (G g 0)) s.nt j) s.nt (kL Bk A s s.nt)) t (AF Bk a' x')).1;rw[cH l]at h1;rw[<-d]at h1;exact h1
 ·show Rd _ _ (AM A t a' i) (AM s.T t x' i)\/_;by_cases e:i=t
  ·subst e;rw[Ah,Ah];exact .inl m
  ·rw[Ag _ _ e,Ag _ _ e];exact .inl (h.rd i hi)
theorem AZ.more(h:AZ Z w c B0 vN vT vS vU Bk A s)(d:B9 w X){row:Option Nat}(b:X.grownBy w3 row)(f:∀k,row=some k->k≠c):w3.heap[c]?=some (.cells #[vN,vT,vS,vU] 198 (0,0))/\∀q,q<w.heap.size->row≠some q->w3.heap[q]?=w.heap[q]?:=by
 have a:∀q,q<w.heap.size->row≠some q->w3.heap[q]?=w.heap[q]?:=fun q hq h1=>(b.block q (Be hq d.size) (fun e=>h1 e.symm)).trans (d.block q hq)
 exact⟨(a c h.lt (fun e=>f c e rfl)).trans h.BR,a⟩
theorem Rd.empty{Z:Nat->Prop}{w:Y}{a:Ad}{t:Tb}(h1:t.nv=0)(h2:t.d.n=0)(h3:t.d.m=0)(h4:t.d.x=0):Rd Z w a t:=fun w' _ _=>⟨.inl h1,.inl h2,.inl h3,.inl h4⟩
theorem AZ.XL(h:AZ Z w c B0 vN vT vS vU Bk A s){g3 a:Nat}{a':Ad}{x':Tb}(j:B9 w X)(d:X.grownBy w3 vT.ownBlock)
  (l:w3.ownsRow B0 162 1 (.slice (some (G g3 0)) (s.nt+1) a) (s.nt+1) (kL Bk A s s.nt++[AF Bk a' x'])) (g:vT.ownBlock=some g3\/w.heap.size<=g3) (v:Rd (OZ Z B0 c vN vT vS w) w a' x'):
  w3.heap[c]?=some (.cells #[vN,vT,vS,vU] 198 (0,0))/\AZ Z (w3.setCell (G c 1) (.slice (some (G g3 0)) (s.nt+1) a)) c B0 vN (.slice (some (G g3 0)) (s.nt+1) a) vS vU Bk (AM A s.nt a') {s with nt:=s.nt+1,T:=AM s.T s.nt x'}/\BG (Aq B0 c vN vT vS w) w (Aq B0 c vN (.slice (some (G g3 0)) (s.nt+1) a) vS (w3.setCell (G c 1) (.slice (some (G g3 0)) (s.nt+1) a))) (w3.setCell (G c 1) (.slice (some (G g3 0)) (s.nt+1) a)):=by
 obtain⟨W,M,hN,hid⟩:=h.nd;obtain⟨m,f⟩:=h.more j d (fun k e e'=>h.BS h.t (by decide) (e'▸e));have o:∀k,k≠c->(w3.setCell (G c 1) (.slice (some (G g3 0)) (s.nt+1) a)).heap[k]?=w3.heap[k]?:=fun k hk=>At _ _ _ _ (by exact hk)
 have p:g3≠c:=fun e=>by
  rcases g with h1|h1
  ·exact h.BS h.t (by decide) (e▸h1)
  ·have:=h.lt;omega
 refine⟨m,h.next ⟨d.os.trans j.os,d.tape.trans j.tape,d.output.trans j.output⟩ (by have:=j.size;have:=d.size;simp;omega) (fun k r hk=>(o k (fun e=>hk (.inl e))).trans (f k r (fun e=>hk (.inr (.inr (.inl e)))))) (fun _ e=>.inl e) (fun k e=>by cases e;exact g) (fun _ e=>.inl e) ((GW _ _ _ _ _ _ m).trans (by simp))
  (Ai h.n (fun q e=>(o q (fun e'=>h.BS h.n (by decide) (e'▸e))).trans (f q (h.n.lt q e).2 (DC h.n h.t (by decide) e)))) ⟨W,M,hN.keep (fun b hn=>(o b (fun e=>h.F0 (e▸hn))).trans (f b (Hq hn) (fun e=>Dp h.t (by decide) e hn))),hid⟩ ?_
  (Ai h.si (fun q e=>(o q (fun e'=>h.BS h.si (by decide) (e'▸e))).trans (f q (h.si.lt q e).2 (DC h.si h.t (by decide) e)))) h.u (fun i hi=>?_)⟩
 ·refine Ai ?_ (fun q e=>o q (by cases e;exact p));have e:kL Bk (AM A s.nt a') {s with nt:=s.nt+1,T:=AM s.T s.nt x'} (s.nt+1)=kL Bk A s s.nt++[AF Bk a' x']:=by
   rw[<-TJ];show kL _ _ _ _++[AF Bk (AM A s.nt a' s.nt) (AM s.T s.nt x' s.nt)]=_;rw[Ah,Ah,MD (s':=s) (A':=A) (Bk':=Bk) (fun i hi=>by show AF Bk (AM A s.nt a' i) (AM s.T s.nt x' i)=_;rw[Ag _ _ (by omega),Ag _ _ (by omega)])]
  show w3.ownsRow _ _ _ _ _ _;rw[e];exact l
 ·have hi:i<s.nt+1:=hi;show Rd _ _ (AM A s.nt a' i) (AM s.T s.nt x' i)\/_;by_cases e:i=s.nt
  ·subst e;rw[Ah,Ah];exact .inl v
  ·rw[Ag _ _ e,Ag _ _ e];exact .inl (h.rd i (by omega))
theorem TS{e B g n b m Z:Nat}{xs ys:List Value}(h:w.ownsRow B e Z (S9 g n b) n xs)(d:m<=n)(hl:ys.length=m*Z)(f:ys<+:xs):w.ownsRow B e Z (S9 g m b) m ys:=by
 obtain⟨i,⟨c,k⟩|⟨g',cap,cur,c,hb,a,h1,h2,h3,h4⟩⟩:=h
 ·cases c
 ·cases c;refine⟨hl,.inr ⟨g,b,cur,rfl,hb,a,by omega,h2,h3,?_⟩⟩;obtain⟨r,j⟩:=f;have h5:(cur.toList.take (n*Z)).take (m*Z)=ys:=by rw[h4,<-j,<-hl];exact List.take_left
  rw[List.take_take,Nat.min_eq_left (Nat.mul_le_mul_right Z d)]at h5;exact h5
theorem AZ.iX(h:AZ Z w c B0 vN vT vS vU Bk A s){g a m:Nat}(l:vT=.slice (some (G g 0)) s.nt a)(o:m<=s.nt):
  AZ Z (w.setCell (G c 1) (.slice (some (G g 0)) m a)) c B0 vN (.slice (some (G g 0)) m a) vS vU Bk A {s with nt:=m}/\BG (Aq B0 c vN vT vS w) w (Aq B0 c vN (.slice (some (G g 0)) m a) vS (w.setCell (G c 1) (.slice (some (G g 0)) m a))) (w.setCell (G c 1) (.slice (some (G g 0)) m a)):=by
 obtain⟨X,M,hN,hid⟩:=h.nd;have hg:vT.ownBlock=some g:=by rw[l];rfl
 have d:∀k,k≠c->(w.setCell (G c 1) (.slice (some (G g 0)) m a)).heap[k]?=w.heap[k]?:=fun k hk=>At _ _ _ _ (by exact hk)
 have f:g≠c:=fun e=>h.BS h.t (by decide) (e▸hg)
 refine h.next ⟨rfl,rfl,rfl⟩ (by simp) (fun k _ hk=>d k (fun e=>hk (.inl e))) (fun _ e=>.inl e) (fun k e=>by cases e;exact .inl hg) (fun _ e=>.inl e) ((GW _ _ _ _ _ _ h.BR).trans (by simp)) (Ai h.n (fun q e=>d q (fun e'=>h.BS h.n (by decide) (e'▸e)))) ⟨X,M,hN.keep (fun b hn=>d b (fun e=>h.F0 (e▸hn))),hid⟩ ?_
  (Ai h.si (fun q e=>d q (fun e'=>h.BS h.si (by decide) (e'▸e)))) h.u (fun i hi=>.inl (h.rd i (by have hi:i<m:=hi;omega)))
 refine Ai (TS (l▸h.t:w.ownsRow B0 162 1 (.slice (some (G g 0)) s.nt a) s.nt (kL Bk A s s.nt)) o (by rw[Io];exact(Nat.mul_one m).symm) ?_) (fun q e=>d q (by cases e;exact f));show kL Bk A s m<+:kL Bk A s s.nt;unfold kL;refine List.IsPrefix.map _ ?_;obtain⟨j,hj⟩:∃j,s.nt=m+j:=⟨s.nt-m,by omega⟩;rw[hj];exact⟨(List.range j).map (m+·),by rw[List.range_add]⟩
theorem AZ.XK(h:AZ Z w c B0 vN vT vS vU Bk A s){g3 a:Nat}{x':Si}(j:B9 w X)(d:X.grownBy w3 vS.ownBlock)
  (l:w3.ownsRow B0 103 5 (.slice (some (G g3 0)) (s.ns+1) a) (s.ns+1) (Kz s.S s.ns++M8 x')) (g:vS.ownBlock=some g3\/w.heap.size<=g3):
  w3.heap[c]?=some (.cells #[vN,vT,vS,vU] 198 (0,0))/\AZ Z (w3.setCell (G c 2) (.slice (some (G g3 0)) (s.ns+1) a)) c B0 vN vT (.slice (some (G g3 0)) (s.ns+1) a) vU Bk A {s with ns:=s.ns+1,S:=AM s.S s.ns x'}/\BG (Aq B0 c vN vT vS w) w (Aq B0 c vN vT (.slice (some (G g3 0)) (s.ns+1) a) (w3.setCell (G c 2) (.slice (some (G g3 0)) (s.ns+1) a))) (w3.setCell (G c 2) (.slice (some (G g3 0)) (s.ns+1) a)):=by
 obtain⟨W,M,hN,hid⟩:=h.nd;obtain⟨m,f⟩:=h.more j d (fun k e e'=>h.BS h.si (by decide) (e'▸e));have o:∀k,k≠c->(w3.setCell (G c 2) (.slice (some (G g3 0)) (s.ns+1) a)).heap[k]?=w3.heap[k]?:=fun k hk=>At _ _ _ _ (by exact hk)
 have p:g3≠c:=fun e=>by
  rcases g with h1|h1
  ·exact h.BS h.si (by decide) (e▸h1)
  ·have:=h.lt;omega
 refine⟨m,h.next ⟨d.os.trans j.os,d.tape.trans j.tape,d.output.trans j.output⟩ (by have:=j.size;have:=d.size;simp;omega) (fun k r hk=>(o k (fun e=>hk (.inl e))).trans (f k r (fun e=>hk (.inr (.inr (.inr (.inl e))))))) (fun _ e=>.inl e) (fun _ e=>.inl e) (fun k e=>by cases e;exact g) ((GW _ _ _ _ _ _ m).trans (by simp))
  (Ai h.n (fun q e=>(o q (fun e'=>h.BS h.n (by decide) (e'▸e))).trans (f q (h.n.lt q e).2 (DC h.n h.si (by decide) e)))) ⟨W,M,hN.keep (fun b hn=>(o b (fun e=>h.F0 (e▸hn))).trans (f b (Hq hn) (fun e=>Dp h.si (by decide) e hn))),hid⟩
  (Ai h.t (fun q e=>(o q (fun e'=>h.BS h.t (by decide) (e'▸e))).trans (f q (h.t.lt q e).2 (DC h.t h.si (by decide) e)))) ?_ h.u (fun i hi=>.inl (h.rd i hi))⟩
 refine Ai ?_ (fun q e=>o q (by cases e;exact p));show w3.ownsRow _ _ _ _ _ (Kz (AM s.S s.ns x') (s.ns+1));rw[<-X3];exact l
theorem AZ.iW(h:AZ Z w c B0 vN vT vS vU Bk A s){g a m:Nat}(l:vS=.slice (some (G g 0)) s.ns a)(o:m<=s.ns):
  AZ Z (w.setCell (G c 2) (.slice (some (G g 0)) m a)) c B0 vN vT (.slice (some (G g 0)) m a) vU Bk A {s with ns:=m}/\BG (Aq B0 c vN vT vS w) w (Aq B0 c vN vT (.slice (some (G g 0)) m a) (w.setCell (G c 2) (.slice (some (G g 0)) m a))) (w.setCell (G c 2) (.slice (some (G g 0)) m a)):=by
 obtain⟨X,M,hN,hid⟩:=h.nd;have hg:vS.ownBlock=some g:=by rw[l];rfl
 have d:∀k,k≠c->(w.setCell (G c 2) (.slice (some (G g 0)) m a)).heap[k]?=w.heap[k]?:=fun k hk=>At _ _ _ _ (by exact hk)
 have f:g≠c:=fun e=>h.BS h.si (by decide) (e▸hg)
 refine h.next ⟨rfl,rfl,rfl⟩ (by simp) (fun k _ hk=>d k (fun e=>hk (.inl e))) (fun _ e=>.inl e) (fun _ e=>.inl e) (fun k e=>by cases e;exact .inl hg) ((GW _ _ _ _ _ _ h.BR).trans (by simp)) (Ai h.n (fun q e=>d q (fun e'=>h.BS h.n (by decide) (e'▸e)))) ⟨X,M,hN.keep (fun b hn=>d b (fun e=>h.F0 (e▸hn))),hid⟩
  (Ai h.t (fun q e=>d q (fun e'=>h.BS h.t (by decide) (e'▸e)))) ?_ h.u (fun i hi=>.inl (h.rd i hi))
 refine Ai (TS (l▸h.si:w.ownsRow B0 103 5 (.slice (some (G g 0)) s.ns a) s.ns (Kz s.S s.ns)) o (FG _ _) ?_) (fun q e=>d q (by cases e;exact f));obtain⟨j,hj⟩:∃j,s.ns=m+j:=⟨s.ns-m,by omega⟩;show Kz s.S m<+:Kz s.S s.ns;rw[hj];clear hj
 induction j with
 |zero=>exact List.prefix_refl _
 |succ j ih=>exact ih.trans (List.prefix_append _ _)
theorem AZ.M6(h:AZ Z w c B0 vN vT vS vU Bk A s){i:Nat}(hi:i<s.ns):∃g d,vS=.slice (some (G g 0)) s.ns d/\g<w.heap.size/\B0<=g/\(∀j u,(M8 (s.S i))[j]?=some u->w.cell? (G g (i*5+j))=some u)/\∀q,w.frozen? (G g q)=false:=by
 obtain⟨hl,⟨b,e⟩|⟨g,cap,cur,b,hb,a,h1,h2,h3,h4⟩⟩:=h.si
 ·omega
 ·refine⟨g,cap,b,(E1.1 a).1,hb,fun j u hu=>?_,fun q=>by simp[World.frozen?,a]⟩;have hj:j<5:=by have:=(On.1 hu).1;exact this
  rw[I9 (b▸h.si) (i*5+j) (by omega),PL hi hj,hu]
theorem AZ.JT(h:AZ Z w c B0 vN vT vS vU Bk A s){g l i j:Nat}(d:vS=.slice (some (G g 0)) s.ns l)(hi:i<s.ns)(hj:j<5){u:V9}{x':Si}(hx:M8 x'=(M8 (s.S i)).set j u):
  AZ Z (w.setCell (G g (i*5+j)) u) c B0 vN vT vS vU Bk A {s with S:=AM s.S i x'}/\BG (Aq B0 c vN vT vS w) w (Aq B0 c vN vT vS (w.setCell (G g (i*5+j)) u)) (w.setCell (G g (i*5+j)) u):=by
 obtain⟨X,M,hN,hid⟩:=h.nd;have hg:vS.ownBlock=some g:=by rw[d];rfl
 have a:∀k,k≠g->(w.setCell (G g (i*5+j)) u).heap[k]?=w.heap[k]?:=fun k hk=>At _ _ _ _ (by exact hk)
 have f:c≠g:=fun e=>h.BS h.si (by decide) (e▸hg)
 refine h.next ⟨rfl,rfl,rfl⟩ (by simp) (fun k _ hk=>a k (fun e=>hk (.inr (.inr (.inr (.inl (e▸hg))))))) (fun _ e=>.inl e) (fun _ e=>.inl e) (fun _ e=>.inl e) ((a c f).trans h.BR) (Ai h.n (fun q e=>a q (fun e'=>DC h.si h.n (by decide) hg (e'▸e)))) ⟨X,M,hN.keep (fun b hn=>a b (fun e=>Dp h.si (by decide) hg (e▸hn))),hid⟩
  (Ai h.t (fun q e=>a q (fun e'=>DC h.si h.t (by decide) hg (e'▸e)))) ?_ h.u (fun i hi=>.inl (h.rd i hi))
 have h1:=(Wx (d▸h.si:w.ownsRow B0 103 5 (.slice (some (G g 0)) s.ns l) s.ns (Kz s.S s.ns)) (i*5+j) u).1;rw[ZM hi hj hx,<-d]at h1;exact h1
theorem AZ.Eo(h:AZ Z w c B0 vN vT vS vU Bk A s){b:Nat}{cs:Array Value}{ty:TypeId}(hb:w.heap[b]?=some (.cells cs ty (0,0)))(h1:ty≠198)(h2:ty≠163)(h3:ty≠162)(h4:ty≠103)(h5:ty≠208):¬Aq B0 c vN vT vS w b:=by
 rintro(rfl|e|e|e|⟨_,e⟩)
 ·rw[h.BR]at hb;cases hb;exact h1 rfl
 ·obtain⟨cur,hc,_⟩:=A3 h.n e;rw[hc]at hb;cases hb;exact h2 rfl
 ·obtain⟨cur,hc,_⟩:=A3 h.t e;rw[hc]at hb;cases hb;exact h3 rfl
 ·obtain⟨cur,hc,_⟩:=A3 h.si e;rw[hc]at hb;cases hb;exact h4 rfl
 ·rcases e with⟨x,hx⟩|⟨es,x,hx⟩
  ·rw[hx]at hb;cases hb;exact h5 rfl
  ·rw[hx]at hb;cases hb
theorem AZ.base(h:AZ Z w c B0 vN vT vS vU Bk A s):B0<=w.heap.size:=FZ h.ge (Aar h.lt)
end
end
def OT(f:Nat->Vl)(n:Nat):List Value:=Ld (fun i=>OS (f i)) n
theorem GZ(f:Nat->Vl)(n:Nat):(OT f n).length=n*5:=C4 (m:=5) (f:=fun i=>OS (f i)) (fun _=>rfl) n
theorem PX{f:Nat->Vl}{n i j:Nat}(hi:i<n)(hj:j<5):(OT f n)[i*5+j]?=(OS (f i))[j]?:=LM (m:=5) (fun _=>rfl) hi hj
theorem Yp(f:Nat->Vl)(n:Nat)(x:Vl):OT f n++OS x=OT (AM f n x) (n+1):=by
 unfold OT;rw[Ld,Ah,D6 (f:=fun i=>OS (f i)) (g:=fun i=>OS (AM f n x i)) (fun i hi=>by rw[Ag _ _ (by omega)])]
theorem LP(f:Nat->Vl):∀n,∀u∈OT f n,u.oneCell'=true
 |0,u,h=>by cases h
 |n+1,u,h=>by
  rcases AaM.1 h with h|h
  ·exact LP f n u h
  ·simp only[OS,Aau,Aaq,or_false]at h;rcases h with h|h|h|h|h<;>(rw[h];rfl)
abbrev EZ(w:Y)(B:Nat)(v:V9)(n:Nat)(f:Nat->Vl):Prop:=w.ownsRow B 43 5 v n (OT f n)
theorem Hg.news{w:Y}{b off n:Nat}{f:Nat->Vl}(h:∀i,i<n->IK w b (off+i*5) (f i)):∀j u,(OT f n)[j]?=some u->w.cell? (((G b off):Addr).add j)=some u:=fun j u hu=>by
 have a:((G b off):Addr).add j=(G b (off+j)):=by unfold Addr.add;split<;>simp_all
 rw[a];have hj:j<n*5:=by
  have:=(On.1 hu).1
  rwa [GZ]at this
 obtain⟨i,r,hi,c,e⟩:∃i r,i<n/\r<5/\j=i*5+r:=⟨j/5,j%5,by omega,by omega,by omega⟩;subst e;rw[PX hi c]at hu;obtain⟨c0,c1,c2,c3,c4⟩:=h i hi;rw[<-Nat.add_assoc];rcases(by omega:r=0\/r=1\/r=2\/r=3\/r=4)with rfl|rfl|rfl|rfl|rfl
 ·simp[OS]at hu;rw[<-hu];exact c0
 ·simp[OS]at hu;rw[<-hu];exact c1
 ·simp[OS]at hu;rw[<-hu];exact c2
 ·simp[OS]at hu;rw[<-hu];exact c3
 ·simp[OS]at hu;rw[<-hu];exact c4
theorem EZ.at{w:Y}{B g a n:Nat}{f:Nat->Vl}(h:EZ w B (S9 g n a) n f){i:Nat}(hi:i<n):IK w g (i*5) (f i):=by
 refine IK.of (fun j u hu=>?_);have hj:j<5:=by have:=(On.1 hu).1;exact this
 rw[I9 h (i*5+j) (by omega),PX hi hj,hu]
theorem EZ.Hx{w:Y}{B g b n:Nat}{f:Nat->Vl}(h:EZ w B (S9 g n b) n f){i:Nat}(hi:i<n)(v:Vl):EZ (Hx w g (i*5) v) B (S9 g n b) n (AM f i v):=by
 have c:=(Wx h (i*5+0) (J v.kind)).1;have h1:=(Wx c (i*5+1) (J v.num)).1;have h2:=(Wx h1 (i*5+2) (F9 v.Ae)).1;have h3:=(Wx h2 (i*5+3) (.string v.str)).1;have h4:=(Wx h3 (i*5+4) (J v.ref)).1;have hl:∀(q:Nat->List Value) (a:List Value),(∀j,(q j).length=5)->a.length=5->∀j,(AM q i a j).length=5:=fun q a hq d j=>by
  unfold AM;split
  ·exact d
  ·exact hq j
 have e:((((((OT f n).set (i*5+0) (J v.kind)).set (i*5+1) (J v.num)).set (i*5+2) (F9 v.Ae)).set (i*5+3) (.string v.str)).set (i*5+4) (J v.ref))=OT (AM f i v) n:=by
  unfold OT;rw[GU (m:=5) (fun _=>rfl) hi (by omega)];rw[GU (m:=5) (hl _ _ (fun _=>rfl) rfl) hi (by omega),Ah,EI];rw[GU (m:=5) (hl _ _ (fun _=>rfl) rfl) hi (by omega),Ah,EI];rw[GU (m:=5) (hl _ _ (fun _=>rfl) rfl) hi (by omega),Ah,EI];rw[GU (m:=5) (hl _ _ (fun _=>rfl) rfl) hi (by omega),Ah,EI];refine D6 (fun q hq=>?_);by_cases eq:q=i
  ·subst eq;rw[Ah,Ah];rfl
  ·rw[Ag _ _ eq,Ag _ _ eq]
 rw[e]at h4;exact h4
theorem Rd.dK{Z:Nat->Prop}{w:Y}{A:Ad}{t:Tb}{B g c:Nat}(h:EZ w B (S9 g t.nv c) t.nv t.V)(b:A.va=some (G g 0))(hg:¬Z g)(f:bare t.d):Rd Z w A t:=fun w' hs hk=>by
 obtain⟨d1,d2,d3,_⟩:=f;obtain⟨cur,hb,_⟩:=A3 h rfl;have a:=Aj hb;have h':=Ai h (fun q e=>by cases e;exact hk g a hg);refine⟨.inr ⟨g,0,b,Be a hs,fun i hi=>?_⟩,.inl d1,.inl d2,.inl d3⟩;rw[Aaa];exact EZ.at h' hi
section
structure Bt (w w':Y) (b:Nat) (cs:Array Value) (ty:TypeId):Prop where
 BR:w'.heap[b]?=some (.cells cs ty (0,0))
 other:∀k,k≠b->w'.heap[k]?=w.heap[k]?
 os:w'.os=w.os
 tape:w'.tape=w.tape
 output:w'.output=w.output
 size:w'.heap.size=w.heap.size
theorem Bt.below{w0 w w':Y}{b:Nat}{cs:Array Value}{ty:TypeId}(h:Bt w w' b cs ty){B:Nat}(hb:Below B w0 w)(a:B<=b):Below B w0 w':=
 ⟨h.os.trans hb.os,h.tape.trans hb.tape,h.output.trans hb.output,by rw[h.size];exact hb.size,fun k hk=>(h.other k (by omega)).trans (hb.block k hk)⟩
theorem Yf{P:Program}(w:Y)(b:Nat)(cs:List Value)(t:TypeId)(i:Nat)(v u:V9)(hb:w.heap[b]?=some (.cells cs.toArray t (0,0)))(a:v.oneCell'=true)(hi:cs[i]?=some u):(store (G b i) v).run P w=.ok () (w.setCell (G b i) v)/\(w.setCell (G b i) v).heap[b]?=some (.cells (cs.set i v).toArray t (0,0)):=by
 have h:=run_store P w (G b i) v .plain a;have h1:w.cell? (G b i)=some u:=by simp[World.cell?,hb,hi]
 have h2:w.frozen? (G b i)=false:=by simp[World.frozen?,hb]
 refine⟨?_,(E5 hb v).trans (by simp)⟩;rw[h,h1,h2];rfl
theorem IY{P:Program}(b:Nat)(t:TypeId):∀(vs pre old:List Value) (w:Y),w.heap[b]?=some (.cells (pre++old).toArray t (0,0))->vs.length=old.length->(∀v∈vs,v.oneCell'=true)->
  ∃w',(storeCells (G b 0) vs pre.length).run P w=.ok () w'/\Bt w w' b (pre++vs).toArray t
 |[],pre,[],w,hb,_,_=>⟨w,by simp[storeCells],hb,fun _ _=>rfl,rfl,rfl,rfl,rfl⟩
 |v::vs,pre,o::old,w,hb,hl,c=>by
  obtain⟨h,a⟩:=Yf (P:=P) w b (pre++o::old) t pre.length v o hb (c v (by simp)) (by simp);have e1:(pre++o::old).set pre.length v=(pre++[v])++old:=by simp
  rw[e1]at a;obtain⟨w',h2,h3⟩:=IY b t vs (pre++[v]) old (w.setCell (G b pre.length) v) a (by simpa using hl) (fun x hx=>c x (by simp[hx])) (P:=P);have e2:((G b 0):Addr).add pre.length=(G b pre.length):=by
   cases pre<;>simp[Addr.add]
  have so:=FE w (G b pre.length) v;refine⟨w',?_,⟨by simpa using h3.BR,fun k hk=>(h3.other k hk).trans (At _ _ _ _ (by exact hk)),h3.os.trans so.1,h3.tape.trans so.2.1,h3.output.trans so.2.2.1,h3.size.trans so.2.2.2⟩⟩;unfold storeCells;rw[e2];simp only[To,Aad,UP,Aaa]at h2 ⊢;simp[go_sem,h,h2]
theorem BD{t:TypeId}{n:Nat}(hs:∀w,(sizeOf t).run prog w=.ok n w){w:Y}{b:Nat}{old vs:List Value}{ty:TypeId}(hb:w.heap[b]?=some (.cells old.toArray ty (0,0)))(hl:vs.length=old.length)(hn:vs.length=n)(h1:∀v∈vs,v.oneCell'=true){v:V9}(c:v.cells=vs.toArray):
  ∃w',(Instr.storeAt t (Q9 b) v).run prog w=.ok () w'/\Bt w w' b vs.toArray ty:=by
 obtain⟨w',h,h3⟩:=IY (P:=prog) b ty vs [] old w hb hl h1;refine⟨w',?_,by simpa using h3⟩;unfold Instr.storeAt storeVar;simp only[UP]at h;have a:∀w',(Instr.sureAddr (Q9 b)).run prog w'=.ok (G b 0) w':=fun w'=>by simp[go_sem]
 simp only[AaA];simp[a,hs,c,hn];exact h
theorem D7(w:Y):(sizeOf 236).run prog w=.ok 8 w:=by kernel_rfl
theorem ZP(w:Y):(sizeOf 45).run prog w=.ok 12 w:=by kernel_rfl
theorem Wj(x:An):∀u∈EX x,u.oneCell'=true:=by
 intro u h;simp only[EX,Aau,Aaq,or_false]at h;rcases h with rfl|rfl|rfl|rfl|rfl|rfl|rfl|rfl|rfl|rfl|rfl|rfl<;>rfl
theorem CC{w:Y}{b:Nat}(h:FK w b)(x:An):∃w',(Instr.storeAt 45 (Q9 b) (DS x)).run prog w=.ok () w'/\Bt w w' b (EX x).toArray 45:=
 BD (old:=Ns.toList) (vs:=EX x) ZP h rfl rfl (Wj x) rfl
theorem Aa{w w':Y}{b:Nat}{vs:List Value}{ty:TypeId}(h:Bt w w' b vs.toArray ty):∀j u,vs[j]?=some u->w'.cell? (G b j)=some u:=fun j u hu=>by
 rw[NB w' b j _ _ _ h.BR];simpa using hu
section
variable {Z:Nat->Prop} {w:Y} {c B0:Nat} {vN vT vS:V9}
theorem AZ.Jd{w1 b:Y}{d f g i:V9}{Bk':Nat->Nat}{A':Nat->Ad}{s':AV}{rb m:Nat}{x:An}(h:AZ (ZB Z w.heap.size m) w1 c B0 d f g i Bk' A' s')(n:BG (Aq B0 c vN vT vS w) w (Aq B0 c d f g w1) w1)(l:B0<=w.heap.size)(j:w.heap.size<=rb)(hz:rb<m)(o:FK w1 rb)(a:Bt w1 b rb (EX x).toArray 45):
  AZ Z b c B0 d f g i Bk' A' s'/\BG (Aq B0 c vN vT vS w) w (Aq B0 c d f g b) b:=
 h.fin n l (.inr ⟨j,hz⟩) j (h.Eo o (by decide) (by decide) (by decide) (by decide) (by decide)) (fun k e=>.inl e) ⟨a.os,a.tape,a.output,a.size⟩ a.other a.BR (by decide)
end
theorem An.read{w:Y}{b:Nat}{x:An}(h:w.heap[b]?=some (.cells (EX x).toArray 45 (0,0))):w.cell? (G b 0)=some (J x.code)/\w.cell? (G b 1)=some (J x.num)/\w.cell? (G b 2)=some (J x.key.kind)/\w.cell? (G b 3)=some (J x.key.num)/\w.cell? (G b 4)=some (F9 x.key.Ae)/\w.cell? (G b 5)=some (.string x.key.str)/\w.cell? (G b 6)=some (J x.key.ref)/\w.cell? (G b 7)=some (J x.val.kind)/\w.cell? (G b 8)=some (J x.val.num)/\w.cell? (G b 9)=some (F9 x.val.Ae)/\w.cell? (G b 10)=some (.string x.val.str)/\w.cell? (G b 11)=some (J x.val.ref):=by
 refine⟨?_,?_,?_,?_,?_,?_,?_,?_,?_,?_,?_,?_⟩<;>(rw[NB w b _ _ _ _ h];rfl)
theorem Cm{P:Program}{ops:Array Oper}{o:Oper}{a:Act}{w:Y}{K:Act->World->Prop}{Q:Exit->Act->World->Prop}{E:Prop}{t:TypeId}{x Z:Operand}(b:o.guard=none)(c:o.op=.store t x Z)(w':Y)(d:(Instr.storeAt t (a.eval x) (a.eval Z)).run P w=.ok () w')(h:K (a.put o.dst undef) w'):
  if Region.wanted o (yielded ops a.tmps)=true then Oper.wp P o a w K Q else E:=by
 have f:Region.wanted o (yielded ops a.tmps)=true:=by simp[Region.wanted,b]
 rw[C3 f];have e:(execOp a.eval o).run P w=.ok .skip w':=by
  unfold execOp;rw[c];simp only[AaA];rw[d];rfl
 unfold Oper.wp;rw[e];exact h
end
def IE(w:Y)(s:AV)(b0:Nat)(B:Nat->Nat):Prop:=∃Z M,B8 w s.F b0 s.nf B Z M/\∀i,i<s.nf->Z i=i
theorem IE.below{w w':Y}{s:AV}{b0:Nat}{B:Nat->Nat}(h:IE w s b0 B)(hb:B9 w w'):IE w' s b0 B:=by
 obtain⟨Z,M,h1,h2⟩:=h;exact⟨Z,M,h1.below hb,h2⟩
theorem IE.place{w:Y}{s:AV}{b0:Nat}{B:Nat->Nat}(h:IE w s b0 B)(a:Ar s.nf s.F=0){j:Nat}(hj:j<s.nf)(key:ByteArray):
  C9 181 #[Q9 (B j),.string key] w (R9 (J (BW s.F j key)) w):=by
 obtain⟨Z,M,h1,h2⟩:=h;refine(F1 w s.F b0 s.nf B Z M h1 h2 (Au a).2.1 (Au a).2.2.1 j hj key).mono ?_;rintro e w' ⟨⟨b,_⟩,rfl⟩;exact⟨b,DD _ _⟩
theorem IE.cell{w:Y}{s:AV}{b0:Nat}{B:Nat->Nat}(h:IE w s b0 B){j:Nat}(hj:j<s.nf):B j<w.heap.size/\w.cell? (G (B j) 0)=some (J (j:Int))/\b0<=B j:=by
 obtain⟨Z,M,h1,h2⟩:=h;have:=C1 h1 h2 hj;exact⟨by have:=Hi _ _ this.1;exact this,this.1,h1.base j hj⟩
theorem IX(A:Ad)(t:Tb)(s:AV)(b0:Nat)(B:Nat->Nat)(j:Nat)(k:Vl)(w:Y)(hN:IE w s b0 B)(hf:Ar s.nf s.F=0)(hj:j<s.nf)(hs:t.shape=j)(r:t.nv=nf s.F j)(P:Hg w A.va t.nv t.V):
  C9 342 #[B4 (B j) A t,FQ k] w (R9 (FQ (CX s.F t k)) w):=by
 obtain⟨W,b⟩:∃W,W=((w.alloc (.cells #[.slice A.va t.nv A.vc,.slice A.la t.d.n A.lc,.slice A.ia t.d.m A.ic,.slice A.xa t.d.x A.xc,J t.d.used,J t.d.live,J t.d.turns,Q9 (B j)] 236)).alloc (.cells #[J k.kind,J k.num,F9 k.Ae,.string k.str,J k.ref] 43)).alloc (.cells #[J 0,J 0,F9 0,E9,J 0] 43):=⟨_,rfl⟩;have f:B9 w W:=by rw[b];exact((n9).alloc (by simp) _).alloc (by simp;omega) _
 have K:W.heap.size=w.heap.size+1+1+1:=by rw[b];simp
 have x0:W.cell? (y w 0)=some (.slice A.va t.nv A.vc):=by rw[b];simp[go_sem]
 have S:W.cell? (y w 7)=some (Q9 (B j)):=by rw[b];simp[go_sem]
 have k0:W.cell? (Y9 w 0)=some (J k.kind):=by rw[b];simp[go_sem]
 have k3:W.cell? (Y9 w 3)=some (.string k.str):=by rw[b];simp[go_sem]
 have a:W.heap[w.heap.size+1+1]?=some (.cells #[J 0,J 0,F9 0,E9,J 0] 43 (0,0)):=by
  rw[b];have h1:=BE ((w.alloc (.cells #[.slice A.va t.nv A.vc,.slice A.la t.d.n A.lc,.slice A.ia t.d.m A.ic,.slice A.xa t.d.x A.xc,J t.d.used,J t.d.live,J t.d.turns,Q9 (B j)] 236)).alloc (.cells #[J k.kind,J k.num,F9 k.Ae,.string k.str,J k.ref] 43)) (.cells #[J 0,J 0,F9 0,E9,J 0] 43);simpa using h1
 have T:=O (P.below f rfl);have U:=O (hN.below f);have Q:=O hf;have q:=O (And.intro hs r);have g:=O f;have l0:w.heap.size<W.heap.size:=by omega
 have l1:w.heap.size+1<W.heap.size:=by omega
 have l2:w.heap.size+1+1<W.heap.size:=by omega
 clear P hN hf hs r f K;by_cases hk:k.kind=4
 case neg=>
  have R:(k.kind !=4)=true:=by simpa using hk
  have u:Hid (CX s.F t k=nov):=O (by unfold CX;rw[Cs (by rw[(z q).1];omega),Cs (fun h=>hk h.1)]);have C:=O a;have r0:W.cell? (Z9 w 0)=some (J 0):=by simp[World.cell?,a]
  have r1:W.cell? (Z9 w 1)=some (J 0):=by simp[World.cell?,a]
  have r2:W.cell? (Z9 w 2)=some (F9 0):=by simp[World.cell?,a]
  have H:W.cell? (Z9 w 3)=some (E9):=by simp[World.cell?,a]
  have I:W.cell? (Z9 w 4)=some (J 0):=by simp[World.cell?,a]
  have rf:∀o,W.frozen? (Z9 w o)=false:=fun o=>by simp[World.frozen?,a]
  clear a hk
  go_enter func342,ntmps342
  go_wp2_with fail
  rw[<-b];clear b;go_wp2;refine DO (v:=FQ nov) (by simp[results,results342,go_sem,r0,r1,r2,H,I]) rfl ⟨by rw[z u],?_⟩;exact g
 have R:(k.kind !=4)=false:=by simpa using hk
 have HK:=O hk;have C:=O a;clear hk a
 go_enter func342,ntmps342
 go_wp2_with fail
 rw[<-b];clear b;go_wp2_with fail
 refine(U.place Q hj k.str).mono ?_;rintro e w1 ⟨rfl,c⟩;have X:=(c.cell (p:=(y w 0)) l0).trans x0;have a:=(c.block _ l2).trans C;have r0:w1.cell? (Z9 w 0)=some (J 0):=by simp[World.cell?,a]
 have r1:w1.cell? (Z9 w 1)=some (J 0):=by simp[World.cell?,a]
 have r2:w1.cell? (Z9 w 2)=some (F9 0):=by simp[World.cell?,a]
 have H:w1.cell? (Z9 w 3)=some (E9):=by simp[World.cell?,a]
 have I:w1.cell? (Z9 w 4)=some (J 0):=by simp[World.cell?,a]
 have rf:∀o,w1.frozen? (Z9 w o)=false:=fun o=>by simp[World.frozen?,a]
 have L:=O (g.trans (c.mono g.size));have M:=O (T.below c rfl);clear c a x0 S k0 k3 R;rcases JK Q hj k.str with l|⟨i,l,hi⟩
 focus
  have u:Hid (CX s.F t k=nov):=O (by unfold CX;rw[Cs (by rw[(z q).1];omega),Cs (fun h=>by rw[(z q).1]at h;have h2:=h.2;rw[show((j:Int)).toNat=j by omega,l]at h2;omega)]);rw[l];clear l;go_wp2;refine DO (v:=FQ nov) (by simp[results,results342,go_sem,r0,r1,r2,H,I]) rfl ⟨by rw[z u],?_⟩
 rotate_left
 focus
  have u:Hid (CX s.F t k=t.V i):=O (by unfold CX;rw[Cs (by rw[(z q).1];omega),(z q).1,show((j:Int)).toNat=j by omega,l,C3 ⟨z HK,by omega⟩]<;>first|rfl|(congr 1<;>omega));rw[l];have Nr:i<t.nv:=by rw[(z q).2];exact hi
  obtain⟨vb,off,D,Z,E⟩:=M.resolve_left (by omega);obtain⟨v0,v1,v2,v3,v4⟩:=E i Nr;rw[D]at X;clear l E D hi;go_wp2;refine DO (v:=FQ (t.V i)) (by simp[results,results342,go_sem,r0,r1,r2,H,I]) rfl ⟨by rw[z u],?_⟩
 rotate_left;all_goals
  iterate 5 (refine W0 ?_ (by show w.heap.size<=w.heap.size+1+1;omega) _)
  exact L
theorem G6(A:Ad)(t:Tb)(F:Nat->Bf)(k:Vl)(w:Y)(q:A8 w)(hs:t.shape=-1)(j:Inv Ky hN t.d)(f:Rp t.d)(r:Small t.d)(hk:Ky k)(hA:Gy w A.la A.ia A.xa t.d):
  C9 349 #[IJ A t,FQ k] w (R9 (FQ (CX F t k)) w):=by
 obtain⟨W,h⟩:∃W,W=((w.alloc (.cells #[.slice A.va t.nv A.vc,.slice A.la t.d.n A.lc,.slice A.ia t.d.m A.ic,.slice A.xa t.d.x A.xc,J t.d.used,J t.d.live,J t.d.turns] 239)).alloc (.cells #[J k.kind,J k.num,F9 k.Ae,.string k.str,J k.ref] 43)).alloc (.cells #[J 0,J 0,F9 0,E9,J 0] 43):=⟨_,rfl⟩;have b:B9 w W:=by rw[h];exact((n9).alloc (by simp) _).alloc (by simp;omega) _
 have l:W.heap.size=w.heap.size+1+1+1:=by rw[h];simp
 have a:W.heap[w.heap.size+1+1]?=some (.cells #[J 0,J 0,F9 0,E9,J 0] 43 (0,0)):=by
  rw[h];have h1:=BE ((w.alloc (.cells #[.slice A.va t.nv A.vc,.slice A.la t.d.n A.lc,.slice A.ia t.d.m A.ic,.slice A.xa t.d.x A.xc,J t.d.used,J t.d.live,J t.d.turns] 239)).alloc (.cells #[J k.kind,J k.num,F9 k.Ae,.string k.str,J k.ref] 43)) (.cells #[J 0,J 0,F9 0,E9,J 0] 43);simpa using h1
 have l2:w.heap.size+1+1<W.heap.size:=by omega
 have u:Hid (CX F t k=RT t.d 0 k):=O (by unfold CX RT;rw[C3 (by omega),C3 ⟨FW j,rfl⟩]);have s:=O (W7 A.la A.lc A.ia A.ic A.xa A.xc t.d k k W (hA.below b) r f (UZ hk) (LF k hk) (FW j) (AL _ _ q b));have i:=O b;clear hA q hs j f r hk b l
 go_enter func349,ntmps349
 go_wp2_with fail
 rw[<-h];clear h;refine s.mono ?_;rintro e w1 ⟨rfl,c⟩;have a:=(c.block _ l2).trans a;have r0:w1.cell? (Z9 w 0)=some (J 0):=by simp[World.cell?,a]
 have r1:w1.cell? (Z9 w 1)=some (J 0):=by simp[World.cell?,a]
 have r2:w1.cell? (Z9 w 2)=some (F9 0):=by simp[World.cell?,a]
 have B:w1.cell? (Z9 w 3)=some (E9):=by simp[World.cell?,a]
 have C:w1.cell? (Z9 w 4)=some (J 0):=by simp[World.cell?,a]
 have rf:∀o,w1.frozen? (Z9 w o)=false:=fun o=>by simp[World.frozen?,a]
 have p:=O (i.trans (c.mono i.size));clear c a s;generalize RT t.d 0 k=g at*;go_wp2;refine DO (v:=FQ g) (by simp[results,results349,go_sem,r0,r1,r2,B,C]) rfl ⟨by rw[z u],?_⟩;iterate 5 (refine W0 ?_ (by show w.heap.size<=w.heap.size+1+1;omega) _)
 exact p
section
open Go.RowKit Go.Extern
abbrev VU:Value:=.iface 341 (.agg #[.pointer (some (G 5 200))])
def Gc(w:Y):Prop:=w.cell? (G 0 0)=some VU
theorem Gc.lt{w:Y}(h:Gc w):0<w.heap.size:=by
 rcases Nat.lt_or_ge 0 w.heap.size with h1|h1
 ·exact h1
 ·unfold Gc at h;simp[World.cell?,Array.getElem?_eq_none h1]at h
theorem Gc.below{B:Nat}{w w':Y}(h:Gc w)(hb:Below B w w')(a:0<B):Gc w':=
 (As (hb.block _ a)).trans h
theorem YY(t:Addr)(w:Y):(ReflectliteValue.unpack (.iface 269 (.pointer (some t)))).run prog w
  =.ok (.agg #[.pointer (some (G 5 269)),Q9 w.heap.size,.int .u64 150]) (w.alloc (.cells #[.pointer (some t)] 269)):=by kernel_rfl
theorem YW(a:Addr)(w:Y):(ReflectliteValue.methodAny (ReflectliteValue.valueError "reflectlite.Value.Type" 0) (fun t _ _ _=>ReflectliteType.toType t) #[.agg #[.pointer (some (G 5 269)),.pointer (some a),.int .u64 150]]).run prog w
  =.ok (.iface 341 (.agg #[.pointer (some (G 5 269))])) w:=by kernel_rfl
theorem WC(w:Y):((ReflectliteType.abiMethod fun t=>(fun a:Nat=>Value.int IntKind.u8 (a:Int)) <$> Rtype.kind t) #[.pointer (some (G 5 269))]).run prog w=.ok (.int .u8 22) w:=by kernel_rfl
theorem WB(w:Y):((ReflectliteType.abiMethod fun t=>(fun a:Nat=>Value.int IntKind.u8 (a:Int)) <$> Rtype.kind t) #[.pointer (some (G 5 267))]).run prog w=.ok (.int .u8 25) w:=by kernel_rfl
theorem eZ(Z:Sem Value)(f:TypeId->Addr->Nat->Nat->Sem Value)(v:V9):
  ReflectliteValue.method Z f #[v]=(do match<-ReflectliteValue.parts v with|none=>Z|some (t,a,b)=>f t a b (b%32)):=rfl
theorem N8(a:Addr)(w:Y):(ReflectliteValue.parts (.agg #[.pointer (some (G 5 269)),.pointer (some a),.int .u64 150])).run prog w=.ok (some (269,a,150)) w:=by kernel_rfl
theorem WA(a p:Addr)(W:Y)(b:W.cell? a=some (.pointer (some p))):
  (ReflectliteValue.method (ReflectliteValue.valueError "reflectlite.Value.IsNil" 0) ReflectliteValue.isNil #[.agg #[.pointer (some (G 5 269)),.pointer (some a),.int .u64 150]]).run prog W=.ok (.bool false) W:=by
 rw[eZ];simp only[AaA,N8,Result.andThen];simp[ReflectliteValue.isNil,loadVar,isAgg,underlying,underlying269,b,Result.andThen]
theorem YT(w:Y):(ReflectliteType.method ReflectliteType.elem #[.agg #[.pointer (some (G 5 269))]]).run prog w=.ok (.iface 341 (.agg #[.pointer (some (G 5 267))])) w:=by kernel_rfl
theorem YU(w:Y):(ReflectliteType.relation "Implements" ReflectliteType.implements_ #[.agg #[.pointer (some (G 5 267))],VU]).run prog w=.ok (.bool true) w:=by kernel_rfl
theorem Ux(v:V9)(w:Y):(ReflectliteType.typeOf #[.iface 267 v]).run prog w=.ok (.iface 341 (.agg #[.pointer (some (G 5 267))])) w:=by kernel_rfl
theorem Us(w:Y):(ReflectliteType.relation "AssignableTo" ReflectliteType.assignableTo #[.agg #[.pointer (some (G 5 267))],.iface 341 (.agg #[.pointer (some (G 5 267))])]).run prog w=.ok (.bool true) w:=by kernel_rfl
theorem YX(c:Int)(w:Y):(ReflectliteValue.unpack (.iface 267 (.agg #[J c]))).run prog w
  =.ok (.agg #[.pointer (some (G 5 267)),Q9 w.heap.size,.int .u64 153]) (w.alloc (.cells #[J c] 267)):=by kernel_rfl
theorem Uu(w:Y):(Rtype.elem? 269).run prog w=.ok (some 267) w:=by kernel_rfl
theorem fA(p:Addr)(w:Y):(ReflectliteValue.mk 267 p ReflectliteValue.flagAddr).run prog w=.ok (.agg #[.pointer (some (G 5 267)),.pointer (some p),.int .u64 409]) w:=by kernel_rfl
theorem Wz(a p:Addr)(W:Y)(b:W.cell? a=some (.pointer (some p))):
  (ReflectliteValue.method (ReflectliteValue.valueError "reflectlite.Value.Elem" 0) ReflectliteValue.elem #[.agg #[.pointer (some (G 5 269)),.pointer (some a),.int .u64 150]]).run prog W
   =.ok (.agg #[.pointer (some (G 5 267)),.pointer (some p),.int .u64 409]) W:=by
 rw[eZ];simp only[AaA,N8,Result.andThen];simp[ReflectliteValue.elem,loadVar,isAgg,underlying,underlying269,b,Result.andThen,Uu,fA]
theorem iY(v x:V9):ReflectliteValue.set #[v,x]=(do
  let (some (dst,a,c),some (src,b,_)):=(<-ReflectliteValue.parts v,<-ReflectliteValue.parts x)
   |unsupported (.noEntry "extern/(internal/reflectlite.Value).Set.zeroValue")
  if c/ReflectliteValue.flagAddr%2==0 then unsupported (.noEntry "extern/(internal/reflectlite.Value).Set.unaddressable")
  let val<-loadVar src b
  if<-Rtype.directlyAssignable dst src then storeVar dst a val
  else if<-Rtype.implements dst src then
   if(<-Rtype.kind src)==20 then
    match val with
    |.nilIface=>unsupported (.noEntry "extern/reflectlite: a nil value of one interface type handed on as a value of another")
    |_=>storeVar dst a val
   else storeVar dst a (.iface src val)
  else panicString ("reflectlite.Set: value of type " ++(<-Rtype.spelt src)++ " is not assignable to type " ++(<-Rtype.spelt dst))
  pure (.tuple #[])):=rfl
theorem Uv(a:Addr)(w:Y):(ReflectliteValue.parts (.agg #[.pointer (some (G 5 267)),.pointer (some a),.int .u64 409])).run prog w=.ok (some (267,a,409)) w:=by kernel_rfl
theorem Uw(a:Addr)(w:Y):(ReflectliteValue.parts (.agg #[.pointer (some (G 5 267)),.pointer (some a),.int .u64 153])).run prog w=.ok (some (267,a,153)) w:=by kernel_rfl
theorem Ut(w:Y):(Rtype.directlyAssignable 267 267).run prog w=.ok true w:=by kernel_rfl
theorem YV(w:Y)(c:Int):(loadVar 267 (y w 0)).run prog (w.alloc (.cells #[J c] 267))=.ok (.agg #[J c]) (w.alloc (.cells #[J c] 267)):=by
 simp[loadVar,isAgg,underlying,underlying267,Result.andThen,go_sem]
theorem bR(tb:Nat)(c:Int)(old:V9)(w:Y)(hl:tb<w.heap.size)(a:w.cell? (G tb 0)=some old)(hf:w.frozen? (G tb 0)=false):
  (ReflectliteValue.set #[.agg #[.pointer (some (G 5 267)),Q9 tb,.int .u64 409],.agg #[.pointer (some (G 5 267)),Q9 w.heap.size,.int .u64 153]]).run prog (w.alloc (.cells #[J c] 267))
   =.ok (.tuple #[]) ((w.alloc (.cells #[J c] 267)).setCell (G tb 0) (J c)):=by
 rw[iY];simp only[AaA,Uv,Uw,Result.andThen];simp only[ReflectliteValue.flagAddr];simp[YV,Ut,Result.andThen,storeVar,Value.cells,storeCells,Addr.add];rw[run_store prog _ (G tb 0) _ _ (by rfl)];simp[GC _ _ (G tb 0) hl,World.frozen?_alloc_old _ _ (G tb 0) (Nat.ne_of_lt hl),a,hf]
theorem aY(t:V9)(w:Y):
  C9 183 #[.nilIface,t] w fun e w'=>e=.returned (.bool false)/\w'=w:=by
 go_enter func183,ntmps183
 go_wp2;go_ret;exact⟨rfl,rfl⟩
theorem aX(c:Int)(tb:Nat)(old:V9)(w:Y)(hg:Gc w)(hl:tb<w.heap.size)(a:w.cell? (G tb 0)=some old)(b:w.frozen? (G tb 0)=false):
  C9 183 #[.iface 267 (.agg #[J c]),.iface 269 (Q9 tb)] w fun f w'=>f=.returned (.bool true)/\w'=((((w.alloc (.cells #[Q9 tb] 269)).alloc (.cells #[.pointer (some (G 5 269)),Q9 w.heap.size,.int .u64 150] 305)).alloc (.cells #[.pointer (some (G 5 269)),Q9 w.heap.size,.int .u64 150] 305)).alloc (.cells #[J c] 267)).setCell (G tb 0) (J c):=by
 have s:=@run_callFunc_extern prog 224 _ (fun args=>ReflectliteValue.unpack (args.getD 0 (.tuple #[]))) func224 (by kernel_rfl) (by kernel_rfl) (by kernel_rfl) (by kernel_rfl);have u:=@run_callFunc_extern prog 225 _ (ReflectliteValue.methodAny (ReflectliteValue.valueError "reflectlite.Value.Type" 0) (fun t _ _ _=>ReflectliteType.toType t)) func225 (by kernel_rfl) (by kernel_rfl) (by kernel_rfl) (by kernel_rfl);have v:=@run_callFunc_extern prog 226 _ (ReflectliteValue.method (ReflectliteValue.valueError "reflectlite.Value.IsNil" 0) ReflectliteValue.isNil) func226 (by kernel_rfl) (by kernel_rfl) (by kernel_rfl) (by kernel_rfl);have g:=@run_callFunc_extern prog 336 _ (ReflectliteType.abiMethod fun t=>do pure (.int .u8 (<-Rtype.kind t))) func336 (by kernel_rfl) (by kernel_rfl) (by kernel_rfl) (by kernel_rfl);have h:=@run_callFunc_extern prog 364 _ (ReflectliteType.method ReflectliteType.elem) func364 (by kernel_rfl) (by kernel_rfl) (by kernel_rfl) (by kernel_rfl);have i:=@run_callFunc_extern prog 365 _ (ReflectliteType.relation "Implements" ReflectliteType.implements_) func365 (by kernel_rfl) (by kernel_rfl) (by kernel_rfl) (by kernel_rfl);have j:=@run_callFunc_extern prog 255 _ ReflectliteType.typeOf func255 (by kernel_rfl) (by kernel_rfl) (by kernel_rfl) (by kernel_rfl);have k:=@run_callFunc_extern prog 362 _ (ReflectliteType.relation "AssignableTo" ReflectliteType.assignableTo) func362 (by kernel_rfl) (by kernel_rfl) (by kernel_rfl) (by kernel_rfl);have l:=@run_callFunc_extern prog 256 _ (ReflectliteValue.method (ReflectliteValue.valueError "reflectlite.Value.Elem" 0) ReflectliteValue.elem) func256 (by kernel_rfl) (by kernel_rfl) (by kernel_rfl) (by kernel_rfl);have m:=@run_callFunc_extern prog 257 _ ReflectliteValue.set func257 (by kernel_rfl) (by kernel_rfl) (by kernel_rfl) (by kernel_rfl);have x:=Ux;have a25:=Us;have v25:=YX;have f6:=YY;have f7:=YW;have n:=WC;have o:=WB;have p:=YT;have i25:=YU;obtain⟨e,q⟩:∃e,e=(w.alloc (.cells #[Q9 tb] 269)).alloc (.cells #[.pointer (some (G 5 269)),Q9 w.heap.size,.int .u64 150] 305):=⟨_,rfl⟩;have A:=WA (y w 0) (G tb 0) ((w.alloc (.cells #[Q9 tb] 269)).alloc (.cells #[.pointer (some (G 5 269)),Q9 w.heap.size,.int .u64 150] 305)) (by simp);have d:=hg.lt;have r:((w.alloc (.cells #[Q9 tb] 269)).alloc (.cells #[.pointer (some (G 5 269)),Q9 w.heap.size,.int .u64 150] 305)).cell? (G 0 0)=some VU:=by
  rw[GC _ _ (G 0 0) (by simp<;>omega),GC _ _ (G 0 0) d];exact hg
 have el:=Wz (y w 0) (G tb 0) (((w.alloc (.cells #[Q9 tb] 269)).alloc (.cells #[.pointer (some (G 5 269)),Q9 w.heap.size,.int .u64 150] 305)).alloc (.cells #[.pointer (some (G 5 269)),Q9 w.heap.size,.int .u64 150] 305)) (by rw[GC _ _ (y w 0) (by simp;omega)];simp);have st:=bR tb c old (((w.alloc (.cells #[Q9 tb] 269)).alloc (.cells #[.pointer (some (G 5 269)),Q9 w.heap.size,.int .u64 150] 305)).alloc (.cells #[.pointer (some (G 5 269)),Q9 w.heap.size,.int .u64 150] 305)) (by simp;omega)
  (by rw[GC _ _ (G tb 0) (by simp;omega),GC _ _ (G tb 0) (by simp;omega),GC _ _ (G tb 0) hl];exact a)
  (by rw[World.frozen?_alloc_old _ _ (G tb 0) (by simp;omega),World.frozen?_alloc_old _ _ (G tb 0) (by simp;omega),World.frozen?_alloc_old _ _ (G tb 0) (Nat.ne_of_lt hl)];exact b)
 have sz:(((w.alloc (.cells #[Q9 tb] 269)).alloc (.cells #[.pointer (some (G 5 269)),Q9 w.heap.size,.int .u64 150] 305)).alloc (.cells #[.pointer (some (G 5 269)),Q9 w.heap.size,.int .u64 150] 305)).heap.size=w.heap.size+1+1+1:=by simp
 rw[sz]at st
 go_enter func183,ntmps183
 go_wp2;refine wp_loop_rounds 1 ?_;rw[rounds_succ];go_wp2;go_ret;exact⟨rfl,rfl⟩
end
def Bp(c:Int):Value:=if c=0 then .nilIface else .iface 267 (.agg #[J c])
theorem RJ(c:Int)(w:Y)(hg:Gc w):
  C9 114 #[Bp c] w (R9 (J c) w):=by
 unfold Bp;by_cases f:c=0
 ·subst f;rw[C3 rfl]
  go_enter func114,ntmps114
  go_wp2_with (go_at_call 183;refine(aY _ _).mono ?_;rintro e w1 ⟨rfl,rfl⟩)
  go_ret;exact⟨rfl,n9⟩
 ·rw[Cs f];clear f;have g:=hg.lt;obtain⟨W,a⟩:∃W,W=w.alloc (.cells #[J 0] 267):=⟨_,rfl⟩;have b:B9 w W:=by rw[a];exact(DD _ _).alloc (A0 _) _
  have d:Gc W:=hg.below b g;have hl:w.heap.size<W.heap.size:=by rw[a];simp
  have h:W.cell? (y w 0)=some (J 0):=by rw[a];simp[go_sem]
  have j:W.frozen? (y w 0)=false:=by rw[a];simp[go_sem]
  have k:=O b
  go_enter func114,ntmps114
  go_wp2_with fail
  rw[<-a];refine(aX c w.heap.size _ W d hl h j).mono ?_;rintro e w1 ⟨rfl,h1⟩;have i:B9 w w1:=by
   rw[h1];refine W0 (p:=(y w 0)) ?_ (A0 _) _;exact(((k.alloc (by omega) _).alloc (by simp;omega) _).alloc (by simp;omega) _).alloc (by simp;omega) _
  have l:w1.cell? (y w 0)=some (J c):=by
   rw[h1];apply World.cell?_setCell_same (u:=J 0);rw[GC _ _ (y w 0) (by simp;omega),GC _ _ (y w 0) (by simp;omega),GC _ _ (y w 0) (by simp;omega),GC _ _ (y w 0) hl];exact h
  clear h1 a h j d;go_wp2_with fail
  go_ret;exact⟨rfl,i⟩
theorem kJ{op:Int}(h1:1<=op)(a:op<=9):(bt op 1!=0)=B7 op/\(bt op 2!=0)=Cp op/\(bt op 8!=0)=(op==2||op==3||op==7):=by
 rcases(by omega:op=1\/op=2\/op=3\/op=4\/op=5\/op=6\/op=7\/op=8\/op=9)with rfl|rfl|rfl|rfl|rfl|rfl|rfl|rfl|rfl
 ·rw[gZ.1,gZ.2.1,gZ.2.2.2.1];decide
 ·rw[iA.1,iA.2.1,iA.2.2.2.1];decide
 ·rw[iB.1,iB.2.1,iB.2.2.2.1];decide
 ·rw[iC.1,iC.2.1,iC.2.2.2.1];decide
 ·rw[iD.1,iD.2.1,iD.2.2.2.1];decide
 ·rw[iE.1,iE.2.1,iE.2.2.2.1];decide
 ·rw[iF.1,iF.2.1,iF.2.2.2.1];decide
 ·rw[iG.1,iG.2.1,iG.2.2.2.1];decide
 ·rw[iH.1,iH.2.1,iH.2.2.2.1];decide
theorem WG(c k n:Int)(f:Nat)(s:ByteArray)(r:Int)(w:Y):(Instr.field 182 (KV c k n f s r) 0).run prog w=.ok (J c) w:=by kernel_rfl
theorem X4{a:Ac}(h:AY a=true)(b:a.op=7):Cj a.k=0:=by
 have h1:=J6 h b;have h2:=(BX h).2.2.1;unfold Cj;rw[C3 h2,Cs (by omega),Cs (by omega)]
theorem bA{a:Ac}(h:AY a=true)(nt ns:Nat):FL a nt ns=if(bt a.op 1!=0)=true/\(nt:Int)<=a.t then 2 else if(bt a.op 2!=0)=true/\(ns:Int)<=a.site then 3 else if(bt a.op 8!=0)=true/\Cj a.k≠0 then 4 else 0:=by
 obtain⟨_,_,_,_,_,h1,c⟩:=BX h;obtain⟨e1,e2,e3⟩:=kJ h1 c;unfold FL;rw[Cs (by rw[h];simp),e1,e2,e3];by_cases b:a.op=7
 ·have hk:=X4 h b;simp[hk]
 ·congr 2
  simp[b]
theorem Uj(a:Ac)(nt ns:Nat)(w:Y)(P:nt<=100)(Q:ns<=50):
  C9 182 #[IC a,J nt,J ns] w (R9 (Bp (FL a nt ns)) w):=by
 obtain⟨W,b⟩:∃W,W=w.alloc (.cells #[J a.op,J a.t,J a.site,J a.n,J a.k.kind,J a.k.num,F9 a.k.Ae,.string a.k.str,J a.k.ref,J a.v.kind,J a.v.num,F9 a.v.Ae,.string a.v.str,J a.v.ref] 51):=⟨_,rfl⟩;have m:B9 w W:=by rw[b];exact(DD _ _).alloc (A0 _) _
 have c0:W.cell? (y w 0)=some (J a.op):=by rw[b];simp[go_sem]
 have c1:W.cell? (y w 1)=some (J a.t):=by rw[b];simp[go_sem]
 have c2:W.cell? (y w 2)=some (J a.site):=by rw[b];simp[go_sem]
 have c4:W.cell? (y w 4)=some (J a.k.kind):=by rw[b];simp[go_sem]
 have c5:W.cell? (y w 5)=some (J a.k.num):=by rw[b];simp[go_sem]
 have c6:W.cell? (y w 6)=some (F9 a.k.Ae):=by rw[b];simp[go_sem]
 have c7:W.cell? (y w 7)=some (.string a.k.str):=by rw[b];simp[go_sem]
 have o:W.cell? (y w 8)=some (J a.k.ref):=by rw[b];simp[go_sem]
 have hz:w.heap.size<W.heap.size:=by rw[b];simp
 have E:=O (And.intro c0 (And.intro c1 (And.intro c2 (And.intro c4 (And.intro c5 (And.intro c6 (And.intro c7 o)))))));have F:=O m;clear m c0 c1 c2 c4 c5 c6 c7 o
 go_enter func182,ntmps182
 go_wp2_with fail
 rw[<-b];clear b;refine m9 (UO a _) fun w1 c=>?_
 have g:=O (F.trans (c.mono F.size));have q:w.heap.size<w1.heap.size:=Be hz c.size;have c0:=(c.cell (p:=(y w 0)) hz).trans E.1;have r:Hid (w1.heap[w.heap.size]?=W.heap[w.heap.size]?):=O (c.block _ hz);clear c;cases hA:AY a
 ·have i:Hid (FL a nt ns=1):=O (by unfold FL;rw[C3 hA]);go_wp2_with fail
  go_ret;exact⟨by rw[z i];rfl,g⟩
 ·have i:=O (bA hA nt ns);obtain⟨_,_,_,_,_,h1,R⟩:=BX hA;obtain⟨fn,x⟩:=QA a.op (by omega) (by omega);have A:=Tt;clear h1 R;go_wp2_with fail
  refine qr w1 ?_;refine GS (fun K hK=>?_);go_simp;refine⟨_,fun w' j=>qk j (Ke _),hK _ ?_⟩;clear hK K;refine N (h:=N (h:=?_));refine GS (fun K hK=>?_);go_simp;apply Exists.intro;refine And.intro (fun w' j=>?_) (hK _ ?_)
  ·rfl
  clear hK K;refine GS (fun K hK=>?_);go_simp;apply Exists.intro;refine And.intro (fun w' j=>?_) (hK _ ?_)
  ·rfl
  clear hK K;refine N (h:=?_);refine GO ?_;intro w2 e;have S:w.heap.size<w2.heap.size:=Be q e.size;have G4:=(e.block _ q).trans r;obtain⟨_,c1,c2,c4,c5,c6,c7,o⟩:=z E;have c1:=(As (a:=(y w 1)) G4).trans c1;have c2:=(As (a:=(y w 2)) G4).trans c2;have c4:=(As (a:=(y w 4)) G4).trans c4;have c5:=(As (a:=(y w 5)) G4).trans c5;have c6:=(As (a:=(y w 6)) G4).trans c6;have c7:=(As (a:=(y w 7)) G4).trans c7;have o:=(As (a:=(y w 8)) G4).trans o;have d:=O (g.trans (e.mono g.size));have s:=BI a.k;have B:=O s;have T:=WG;clear e G4 x A r c0 s;generalize H:(bt a.op 1!=0)=x1 at i;generalize I:(bt a.op 2!=0)=x2 at i;generalize L:(bt a.op 8!=0)=U at i;by_cases g1:x1=true/\(nt:Int)<=a.t
  ·have f:Hid (FL a nt ns=2):=O (i.trans (C3 g1));obtain⟨rfl,g1⟩:=g1;go_wp2_with fail
   go_ret;exact⟨by rw[z f];rfl,d⟩
  ·have u:=O (i.trans (Cs g1));have C:x1=false\/(x1=true/\¬(nt:Int)<=a.t):=by
    cases x1
    ·exact .inl rfl
    ·exact .inr ⟨rfl,fun h=>g1 ⟨rfl,h⟩⟩
   clear g1;by_cases g2:x2=true/\(ns:Int)<=a.site
   ·have f:Hid (FL a nt ns=3):=O (u.trans (C3 g2));obtain⟨rfl,g2⟩:=g2;rcases C with rfl|⟨rfl,g1⟩;all_goals(go_wp2_with fail;go_ret;exact⟨by rw[z f];rfl,d⟩)
   ·have l:=O (u.trans (Cs g2));have M:x2=false\/(x2=true/\¬(ns:Int)<=a.site):=by
     cases x2
     ·exact .inl rfl
     ·exact .inr ⟨rfl,fun h=>g2 ⟨rfl,h⟩⟩
    clear g2;cases U
    ·have f:Hid (FL a nt ns=0):=O (l.trans (Cs (by simp)));rcases C with rfl|⟨rfl,g1⟩<;>rcases M with rfl|⟨rfl,g2⟩
     all_goals(go_wp2_with fail;go_ret;exact⟨by rw[z f];rfl,d⟩)
    ·by_cases g3:Cj a.k=0
     focus
      have f:Hid (FL a nt ns=0):=O (l.trans (Cs (by simp[g3])));have d3:(Cj a.k !=0)=false:=by simp[g3]
     rotate_left
     focus
      have f:Hid (FL a nt ns=4):=O (l.trans (C3 ⟨rfl,g3⟩));have d3:(Cj a.k !=0)=true:=by simp[g3]
     rotate_left;all_goals
      clear g3;rcases C with rfl|⟨rfl,g1⟩<;>rcases M with rfl|⟨rfl,g2⟩
      all_goals(go_wp2_with (go_at_call 204;refine m9 (Hm a.k.kind a.k.num a.k.Ae a.k.str a.k.ref _) fun w3 D=>?_;rw[z B]);go_ret;exact⟨by rw[z f];rfl,d.trans (D.mono d.size)⟩)
structure Ue (w:Y) (s:AV) (B0:Nat) (Bk:Nat->Nat) (A:Ad) (x:Tb):Prop where
 nd:IE w s B0 Bk
 v:Hg w A.va x.nv x.V
 d:Gy w A.la A.ia A.xa x.d
 tb:A8 w
theorem Ue.below{w w':Y}{s:AV}{B0:Nat}{Bk:Nat->Nat}{A:Ad}{x:Tb}(h:Ue w s B0 Bk A x)(hb:B9 w w'):Ue w' s B0 Bk A x:=⟨h.nd.below hb,h.v.below hb rfl,h.d.below hb,AL _ _ h.tb hb⟩
theorem AZ.iJ{Z:Nat->Prop}{w:Y}{c B0:Nat}{vN vT vS vU:V9}{Bk:Nat->Nat}{A:Nat->Ad}{s:AV}(h:AZ Z w c B0 vN vT vS vU Bk A s)(b:A8 w){t:Nat}(a:t<s.nt):Ue w s B0 Bk (A t) (s.T t):=⟨h.nd,(h.rd t a).now.1,(h.rd t a).now.2,b⟩
theorem QE{s:AV}{B0:Nat}{Bk:Nat->Nat}{A:Ad}{x:Tb}(hf:Ar s.nf s.F=0)(hx:O4 s x){k:Vl}(hk:Ky k):
  (AF Bk A x=.iface 239 (IJ A x)/\∀w,Ue w s B0 Bk A x->C9 349 #[IJ A x,FQ k] w (R9 (FQ (CX s.F x k)) w))\/
  (∃p,AF Bk A x=.iface 236 (B4 p A x)/\∀w,Ue w s B0 Bk A x->C9 342 #[B4 p A x,FQ k] w (R9 (FQ (CX s.F x k)) w)):=by
 rcases hx.way with⟨h1,h2,h3⟩|⟨j,h1,h2,h3,h4,h5⟩
 ·exact .inl ⟨C3 h1,fun w a=>G6 A x s.F k w a.tb h1 h3 hx.wf hx.small hk a.d⟩
 ·refine .inr ⟨Bk j,?_,fun w a=>IX A x s B0 Bk j k w a.nd hf h2 h1 h3 a.v⟩;unfold AF;rw[Cs (by omega),h1];rfl
theorem Tu(c k n:Int)(f:Nat)(s:ByteArray)(r:Int)(w:Y):(Instr.field 182 (KV c k n f s r) 1).run prog w=.ok (V k n f s r) w:=by kernel_rfl
attribute [local go_sem] Tu
def G3(c g ab t:Nat)(vT a:V9)(k:Vl)(W:Y):Prop:=W.cell? (G c 1)=some vT/\W.cell? (G g t)=some a/\W.cell? (G ab 1)=some (J (t:Int))/\W.cell? (G ab 4)=some (J k.kind)/\W.cell? (G ab 5)=some (J k.num)/\W.cell? (G ab 6)=some (F9 k.Ae)/\W.cell? (G ab 7)=some (.string k.str)/\W.cell? (G ab 8)=some (J k.ref)
theorem G3.keep{c g ab t:Nat}{vT d:V9}{k:Vl}{w w':Y}(h:G3 c g ab t vT d k w)(hc:w'.heap[c]?=w.heap[c]?)(hg:w'.heap[g]?=w.heap[g]?)(b:w'.heap[ab]?=w.heap[ab]?):G3 c g ab t vT d k w':=by
 obtain⟨h1,h2,h3,h4,h5,e,f,i⟩:=h;exact⟨(As (a:=(G c 1)) hc).trans h1,(As (a:=(G g t)) hg).trans h2,(As (a:=(G ab 1)) b).trans h3,(As (a:=(G ab 4)) b).trans h4,(As (a:=(G ab 5)) b).trans h5,(As (a:=(G ab 6)) b).trans e,(As (a:=(G ab 7)) b).trans f,(As (a:=(G ab 8)) b).trans i⟩
theorem Yr(Z:Nat->Prop)(c B0:Nat)(vN vT vS vU:V9)(Bk:Nat->Nat)(A:Nat->Ad)(s:AV)(a:Ac)(t:Nat)(w:Y)(u:AZ Z w c B0 vN vT vS vU Bk A s)(hf:Ar s.nf s.F=0)(hx:O4 s (s.T t))(hT:A8 w)(et:a.t=t)(ht:t<s.nt)(aj:s.nt<=100)(hk:Ky (Bw a.k)):
  C9 143 #[Q9 c,IC a] w (R9 (.tuple #[DS (CL (CX s.F (s.T t) (Bw a.k))),Bp 0]) w):=by
 obtain⟨g,L,hv,M,ak,x,P⟩:=u.FI ht;subst hv;obtain⟨W,hW,j,hA,hR,hz⟩:=boxes w a;have Q:=u.lt;have B:=(u.iJ hT ht).below j;have l:∀o,AF Bk (A t) (s.T t)=o->G3 c g w.heap.size t (S9 g s.nt L) o a.k W.drew:=fun o e=>by
  obtain⟨a0,a1,a2,a3,a4,a5,a6,a7,a8,a9⟩:=hA.all;rw[et]at a1;exact⟨(j.cell (p:=(G c 1)) Q).trans u.cells.2.1,(j.cell (p:=(G g t)) M).trans (x.trans (by rw[e])),a1,a4,a5,a6,a7,a8⟩
 have R:=O B;have S:=O j;have HQ:=O hR;have U:=O l;have V:=O (QE (B0:=B0) (Bk:=Bk) (A:=A t) hf hx hk);have ao:=hz;clear u hA hR B l hf hx hT hk x P j et
 go_enter func143,ntmps143
 go_wp2_with fail
 rw[<-hW];clear hW;rcases z V with⟨d,X⟩|⟨p,d,X⟩
 case' inl=>refine Da (G3 c g w.heap.size t (S9 g s.nt L) (.iface 239 (IJ (A t) (s.T t))) a.k) (by kernel_rfl) ?_
 case' inr=>refine Da (G3 c g w.heap.size t (S9 g s.nt L) (.iface 236 (B4 p (A t) (s.T t))) a.k) (by kernel_rfl) ?_
 all_goals
  have l:=z U _ d;have HC:=O X;clear X d;change wpAnyH _ _ _ _ _ _ _ _ (World.drew _);refine tz 0 (h:=tz 1 (h:=tz 2 (h:=tz 3 (h:=tz 4 (h:=tz 5 (h:=tz 6 (h:=tz 7 (h:=tz 8 (h:=tz 9 (h:=tz 10 (h:=tz 13 (h:=?_))))))))))));refine tz 14 (h:=?_);have zw:=S.size;refine ry 11 (fun K hK=>?_);go_simp;refine m9 (Hm a.k.kind a.k.num a.k.Ae a.k.str a.k.ref _) fun w2 f=>?_
  have f:B9 W w2:=Below.trans (DD _ _).drew f;have q:=l.keep (w':=w2) (f.block c (by omega)) (f.block g (by omega)) (f.block w.heap.size (by omega));rw[BI];have i:=O f;obtain⟨o,d⟩:∃o,o=Bw a.k:=⟨_,rfl⟩;obtain⟨kc,C⟩:∃kc,kc=Cj a.k:=⟨_,rfl⟩;rw[<-d]at HC ⊢;rw[<-C];have ad:=O d;clear d C;refine hK.out _ _ q (fun _=>?_);clear hK K l f;refine tz 12 (h:=?_);refine ry 15 (fun K hK=>?_);go_simp;refine(HC _ (R.below i)).mono ?_;rintro e w3 ⟨rfl,b⟩;have b:B9 W w3:=i.trans (b.mono i.size);have D:=q.keep (w':=w3) ((b.block c (by omega)).trans (i.block c (by omega)).symm) ((b.block g (by omega)).trans (i.block g (by omega)).symm) ((b.block w.heap.size (by omega)).trans (i.block w.heap.size (by omega)).symm);obtain⟨I,r⟩:∃I,I=CX s.F (s.T t) o:=⟨_,rfl⟩;rw[<-r];have ae:=O r;clear r;obtain⟨w4,n,m⟩:=CC (HQ.below b (by omega)) (CL I);have E:=D.keep (w':=w4) (m.other c (by omega)) (m.other g (by omega)) (m.other w.heap.size (by omega));have af:=O b;have ag:=O n;have H:=O m;refine hK.out _ _ D (fun _=>?_);clear hK K q b n m;refine tz 16 (h:=?_);refine ry 17 (fun K hK=>?_);refine Cm rfl rfl _ ag ?_;refine hK.out _ _ E (fun aq=>?_);clear hK K;refine tz 18 (h:=?_);refine FM ?_;obtain⟨r0,r1,r2,r3,r4,r5,r6,r7,r8,r9,ah,ai⟩:=An.read H.BR;go_wp2_with fail
  refine DO (v:=.tuple #[DS (CL I),Bp 0]) (by simp[results,results143,go_sem,r0,r1,r2,r3,r4,r5,r6,r7,r8,r9,ah,ai,Bp]) rfl ⟨by rw[z ae,z ad],?_⟩;exact H.below (S.trans (af.mono S.size)) (by omega)
theorem aH{d:Dc}{j:Nat}(hj:j<II d):∃i,i<d.n/\(d.L i).turn≠0/\DX d j=d.L i:=by
 obtain⟨i,h1,h2,h3⟩:=Fk d.n hj;exact⟨i,h1,h2,by rw[<-h3];exact F6 h1 h2⟩
theorem Xp{d:Dc}{i:Nat}(hi:i<d.n)(a:(d.L i).turn≠0):(AU d i).length<II d/\DX d (AU d i).length=d.L i:=⟨JQ hi a,F6 hi a⟩
theorem Tf{p:Nat->Bool}{n:Nat}:0<=Te p n↔∃j,j<n/\p j=true:=by
 constructor
 ·intro h;rcases FT p n with e|⟨j,e,h1,h2⟩
  ·rw[e]at h;omega
  ·exact⟨j,h1,h2⟩
 ·rintro⟨j,h1,h2⟩;rcases FT p n with e|⟨i,e,_⟩
  ·have:=Fq e j (P9 _) (by omega);rw[this]at h2;cases h2
  ·rw[e];omega
def Vm(d:Dc):Pl:=⟨II d,DX d,0⟩
theorem TU{d:Dc}{m:Int}:(Vm d).has m=true↔∃i,i<d.n/\(d.L i).turn≠0/\(d.L i).key.kind=2/\(d.L i).key.num=m:=by
 unfold Pl.has;rw[decide_eq_true_iff,Tf];constructor
 ·rintro⟨j,h1,h2⟩;obtain⟨i,a,i2,i3⟩:=aH (d:=d) h1;have h2:((DX d j).key.kind==2&&(DX d j).key.num==m)=true:=h2;rw[i3]at h2;simp at h2;exact⟨i,a,i2,h2.1,h2.2⟩
 ·rintro⟨i,a,i2,i3,i4⟩;obtain⟨h1,h2⟩:=Xp a i2;refine⟨_,h1,?_⟩;show((DX d _).key.kind==2&&(DX d _).key.num==m)=true;rw[h2];simp[i3,i4]
theorem Qo(f:Nat->Int)(m:Nat):∀g k,k+g=m->Pm f m k g<=m/\(∀j,k<=j->j<Pm f m k g->f j≠0)/\k<=Pm f m k g/\(Pm f m k g=m\/(Pm f m k g<m/\f (Pm f m k g)=0))
 |0,k,h=>⟨by show k<=m;omega,fun j h1 h2=>by have h2:j<k:=h2;omega,A0 _,.inl (by show k=m;omega)⟩
 |g+1,k,h=>by
  show(if f k=0 then k else Pm f m (k+1) g)<=m/\_;by_cases e:f k=0
  ·have e2:Pm f m k (g+1)=k:=C3 e;rw[e2,C3 e];exact⟨by omega,fun j h1 h2=>by omega,A0 _,.inr ⟨by omega,e⟩⟩
  ·have e2:Pm f m k (g+1)=Pm f m (k+1) g:=Cs e;obtain⟨h1,h2,h3,h4⟩:=Qo f m g (k+1) (by omega);rw[e2,Cs e];refine⟨h1,fun j c a=>?_,by omega,h4⟩;by_cases b:j=k
   ·subst b;exact e
   ·exact h2 j (by omega) a
theorem Zx{d:Dc}(h:Inv Ky hN d):((Vm d).len:Int)=Fx d:=by
 obtain⟨l1,l2,_,a⟩:=Qo d.I d.m d.m 0 (by omega);have e:Fx d=(Lp d:Int):=C3 (FW h);rw[e];have l1:Lp d<=d.m:=l1;have l2:∀j,0<=j->j<Lp d->d.I j≠0:=l2;have a:Lp d=d.m\/(Lp d<d.m/\d.I (Lp d)=0):=a;have:(Vm d).len=Lp d:=by
  refine Pl.Sg (fun j hj=>?_) ?_
  ·rw[TU];rcases h.i0.ints j (by omega)with e|⟨e1,e2,e3,c,f⟩
   ·exact absurd e (l2 j (P9 _) hj)
   ·exact⟨(d.I j-1).toNat,by omega,e3,c,f⟩
  ·cases g:(Vm d).has ((Lp d:Int)+1)
   ·rfl
   ·obtain⟨i,b,i2,i3,i4⟩:=TU.1 g;exfalso;rcases a with a|⟨a,k⟩
    ·exact h.next i b i2 ⟨i3,by rw[i4,a]⟩
    ·have:=h.i0.small i b i2 ⟨i3,by omega,by omega⟩;rw[i4,show((Lp d:Int)+1-1).toNat=Lp d by omega,k]at this;omega
 rw[this]
theorem XC{d:Dc}(h:Inv Ky hN d)(n:Int):(Vm d).next n=(JJ d n).2:=by
 unfold Pl.next Pl.nextI;rcases atF_rng (fun j=>decide (n<((Vm d).P j).turn)) (Vm d).n 0 with e|⟨j,e,h1,h2,h3,h4⟩
 ·have e':Te (fun j=>decide (n<((Vm d).P j).turn)) (Vm d).n=-1:=e;rw[e',C3 (by omega)];have a:Pa d n (AU d d.n)=none:=J9 (fun i hi=>by
   obtain⟨b,i2⟩:i<d.n/\(d.L i).turn≠0:=by simpa[AU]using hi
   obtain⟨k1,k2⟩:=Xp b i2;have:=Fq e (AU d i).length (P9 _) (by rw[Aaa];exact k1);have:decide (n<(DX d (AU d i).length).turn)=false:=this;rw[k2]at this;simpa using this)
  rw[OA (FW h) a];rfl
 ·have e':Te (fun j=>decide (n<((Vm d).P j).turn)) (Vm d).n=j:=e;rw[e',Cs (by omega),show((j:Int)).toNat=j by omega];have hj:j<(AU d d.n).length:=by rw[Aaa]at h2;exact h2
  have hg:∀q (hq:q<(AU d d.n).length),DX d q=d.L (AU d d.n)[q]:=fun q hq=>by
   unfold DX;rw[Aab,List.getElem?_eq_getElem hq];rfl
  have a:Pa d n (AU d d.n)=some (AU d d.n)[j]:=by
   refine P7 (l:=(AU d d.n).take j) (fun x hx=>?_) ⟨(AU d d.n).drop (j+1),?_⟩ ?_
   ·obtain⟨q,hq,hx⟩:=List.getElem_of_mem hx;rw[List.length_take]at hq;rw[List.getElem_take]at hx;have:=h4 q (P9 _) (by omega);have:decide (n<(DX d q).turn)=false:=this;rw[hg q (by omega),hx]at this;simpa using this
   ·rw[List.append_assoc,List.singleton_append,List.getElem_cons_drop,List.take_append_drop]
   ·have:decide (n<(DX d j).turn)=true:=h3;rw[hg j hj]at this;simpa using this
  rw[OB (FW h) a];exact hg j hj
abbrev Z1:Array Value:=#[.bool false,J 0,J 0,F9 0,E9,J 0,J 0,J 0,F9 0,E9,J 0,J 0]
def iI(b:Bool)(p:Pr):List Value:=.bool b::Eb p
theorem Yi(w:Y):(sizeOf 254).run prog w=.ok 12 w:=by kernel_rfl
theorem Y1(b:Bool)(p:Pr):∀u∈iI b p,u.oneCell'=true:=by
 intro u h;simp only[iI,Eb,Aau,Aaq,or_false]at h;rcases h with rfl|rfl|rfl|rfl|rfl|rfl|rfl|rfl|rfl|rfl|rfl|rfl<;>rfl
theorem Nb{w:Y}{q:Nat}(h:w.heap[q]?=some (.cells Z1 254 (0,0)))(b:Bool)(p:Pr):∃w',(Instr.storeAt 254 (Q9 q) (FV b p)).run prog w=.ok () w'/\Bt w w' q (iI b p).toArray 254:=
 BD (old:=Z1.toList) (vs:=iI b p) Yi h rfl rfl (Y1 b p) rfl
theorem JZ(A:Ad)(t:Tb)(n:Int)(w:Y)(C:A8 w)(hA:Gy w A.la A.ia A.xa t.d)(D:Small t.d)(h:Rp t.d)(E:CE t.d (hD t.d)=0):C9 347 #[IJ A t,J n] w (R9 (FV (JJ t.d n).1 (JJ t.d n).2) w):=by
 obtain⟨W,k⟩:∃W,W=(w.alloc (.cells #[.slice A.va t.nv A.vc,.slice A.la t.d.n A.lc,.slice A.ia t.d.m A.ic,.slice A.xa t.d.x A.xc,J t.d.used,J t.d.live,J t.d.turns] 239)).alloc (.cells Z1 254):=⟨_,rfl⟩;have c:B9 w W:=by rw[k];exact(n9).alloc (by simp) _
 have f:W.heap[w.heap.size+1]?=some (.cells Z1 254 (0,0)):=by
  rw[k];have h1:=BE (w.alloc (.cells #[.slice A.va t.nv A.vc,.slice A.la t.d.n A.lc,.slice A.ia t.d.m A.ic,.slice A.xa t.d.x A.xc,J t.d.used,J t.d.live,J t.d.turns] 239)) (.cells Z1 254);simpa using h1
 have l:=Aj f;have F:=O (RY A.la A.lc A.ia A.ic A.xa A.xc t.d n W (AL _ _ C c) (hA.below c) D h E);have i:=O c;have o:=O f;clear hA C D h c f E
 go_enter func347,ntmps347
 go_wp2_with fail
 rw[<-k];clear k;refine F.mono ?_;rintro e w1 ⟨rfl,g⟩;obtain⟨x,hx⟩:∃x,x=JJ t.d n:=⟨_,rfl⟩;rw[<-hx];have H:=O hx;obtain⟨b,p⟩:=x;obtain⟨w2,j,a⟩:=Nb ((g.block _ l).trans o) b p;have q:=O j;have r:=O (i.trans (g.mono i.size));have e0:=Aa a 0 _ rfl;have e1:=Aa a 1 _ rfl;have e2:=Aa a 2 _ rfl;have e3:=Aa a 3 _ rfl;have I:=Aa a 4 _ rfl;have K:=Aa a 5 _ rfl;have L:=Aa a 6 _ rfl;have M:=Aa a 7 _ rfl;have P:=Aa a 8 _ rfl;have Q:=Aa a 9 _ rfl;have s:=Aa a 10 _ rfl;have u:=Aa a 11 _ rfl;have B:=O a;clear g j a F hx;go_wp2_with (refine Ak rfl rfl _ q ?_)
 refine DO (v:=FV b p) (by simp[results,results347,go_sem,e0,e1,e2,e3,I,K,L,M,P,Q,s,u]) rfl ⟨by rw[<-z H],?_⟩;exact B.below r (by omega)
theorem MU{s:AV}{t:Nat}(h:(s.T t).shape=-1):TV s t=Vm (s.T t).d:=by
 unfold TV Vm VB Ym;rw[C3 h,C3 h]
theorem Sv{s:AV}{t j:Nat}(h:(s.T t).shape=j):TV s t=⟨nf s.F j,Ey s j (s.T t),0⟩:=by
 unfold TV VB Ym;rw[Cs (by omega),Cs (by omega),h];rfl
theorem Zz{s:AV}{t:Nat}(h:O4 s (s.T t)):((TV s t).len:Int)=if(s.T t).shape=-1 then Fx (s.T t).d else 0:=by
 rcases h.way with⟨h1,h2,h3⟩|⟨j,h1,_⟩
 ·rw[C3 h1,MU h1];exact Zx h3
 ·rw[Cs (by omega),Sv h1];have:(⟨nf s.F j,Ey s j (s.T t),0⟩:Pl).len=0:=by
   refine Pl.Sg (fun q hq=>by omega) ?_;cases a:(⟨nf s.F j,Ey s j (s.T t),0⟩:Pl).has ((0:Nat)+1)
   ·rfl
   ·unfold Pl.has at a;rw[decide_eq_true_iff,Tf]at a;obtain⟨q,_,hq⟩:=a;have hq:((4:Int)==2&&(0:Int)==_)=true:=hq;simp at hq
  rw[this];rfl
theorem Zy{s:AV}{t:Nat}(h:O4 s (s.T t)):((TV s t).n:Int)=if(s.T t).shape=-1 then(s.T t).d.live else((s.T t).nv:Int):=by
 rcases h.way with⟨h1,h2,h3⟩|⟨j,h1,_,h2,_⟩
 ·rw[C3 h1,MU h1];exact h3.i0.log.EM
 ·rw[Cs (by omega),Sv h1,h2]
theorem XD{s:AV}{t:Nat}(h1:(s.T t).shape=-1)(h3:Inv Ky hN (s.T t).d)(n:Int):(TV s t).next n=(JJ (s.T t).d n).2:=by
 rw[MU h1];exact XC h3 n
theorem T7(w:Y):(sizeOf 96).run prog w=.ok 11 w:=by kernel_rfl
theorem EW{t:TypeId}{n:Nat}(hs:∀w,(sizeOf t).run prog w=.ok n w)(w:Y){old vs:List Value}{ty:TypeId}(hl:vs.length=old.length)(hn:vs.length=n)(h1:∀v∈vs,v.oneCell'=true){v:V9}(b:v.cells=vs.toArray):
  (Instr.storeAt t (Q9 w.heap.size) v).run prog (w.alloc (.cells old.toArray ty))=.ok () (w.alloc (.cells vs.toArray ty)):=by
 have h:=Dm (P:=prog) w ty vs [] old hl h1;unfold Instr.storeAt storeVar;simp only[So,UP]at h;have a:∀w',(Instr.sureAddr (Q9 w.heap.size)).run prog w'=.ok (y w 0) w':=fun w'=>by simp[go_sem]
 simp only[AaA];simp[a,hs,b,hn];exact h
theorem R4:(prog.info? 96).map (·.size)=some 11:=by kernel_rfl
theorem Nc(w:Y)(p:Pr):(Instr.storeAt 96 (Q9 w.heap.size) (.agg (Eb p).toArray)).run prog (w.alloc (.cells aT.toArray 96))=.ok () (w.alloc (.cells (Eb p).toArray 96)):=
 EW T7 w (by rfl) (by rfl) (Er p) rfl
theorem QM{w:Y}{g i:Nat}{p:Pr}(h:Hf w g (i*11) p):w.rangeAt g (i*11) (Eb p):=by
 intro j v a;have hj:j<11:=(On.1 a).1;obtain⟨c0,c1,c2,c3,c4,c5,c6,c7,c,d,b⟩:=h;rcases j with _|_|_|_|_|_|_|_|_|_|_|j;all_goals first|(cases a;assumption)|omega
def Pj(s:AV)(j:Nat)(t:Tb)(n:Int):Bool:=decide (0<=(⟨nf s.F j,Ey s j t,0⟩:Pl).nextI n)
theorem Zq{Q:Pl}{n:Int}(h:∀q,q<Q.n->¬n<(Q.P q).turn):decide (0<=Q.nextI n)=false/\Q.next n=⟨nov,nov,0⟩:=by
 have e:Q.nextI n=-1:=by
  unfold Pl.nextI;rcases FT (fun j=>decide (n<(Q.P j).turn)) Q.n with e|⟨j,e,h1,h2⟩
  ·exact e
  ·exact absurd (by simpa using h2) (h j h1)
 unfold Pl.next;rw[e];exact⟨rfl,rfl⟩
theorem Zo{Q:Pl}{n:Int}{k:Nat}(hk:k<Q.n)(h:∀q,q<k->¬n<(Q.P q).turn)(h2:n<(Q.P k).turn):decide (0<=Q.nextI n)=true/\Q.next n=Q.P k:=by
 have e:Q.nextI n=k:=by
  unfold Pl.nextI;rcases atF_rng (fun j=>decide (n<(Q.P j).turn)) Q.n 0 with e|⟨j,e,h3,h4,h5,a⟩
  ·have:=Fq e k (P9 _) (by omega);simp at this;omega
  ·have h5:n<(Q.P j).turn:=by simpa using h5
   have:j=k:=by
    rcases AaL j k with h7|h7|h7
    ·exact absurd h5 (h j h7)
    ·exact h7
    ·have:=a k (P9 _) h7;simp at this;omega
   rw[<-this];exact e
 unfold Pl.next;rw[e];refine⟨by simp,?_⟩;rw[Cs (by omega)];simp
theorem Lu(A:Ad)(t:Tb)(s:AV)(b0:Nat)(B:Nat->Nat)(j:Nat)(n:Int)(w:Y)(hN:IE w s b0 B)(hf:Ar s.nf s.F=0)(hj:j<s.nf)(ae:t.nv=nf s.F j)(hV:Hg w A.va t.nv t.V):
  C9 340 #[B4 (B j) A t,J n] w (R9 (FV (Pj s j t n) ((⟨nf s.F j,Ey s j t,0⟩:Pl).next n)) w):=by
 obtain⟨W,hW⟩:∃W,W=(w.alloc (.cells #[.slice A.va t.nv A.vc,.slice A.la t.d.n A.lc,.slice A.ia t.d.m A.ic,.slice A.xa t.d.x A.xc,J t.d.used,J t.d.live,J t.d.turns,Q9 (B j)] 236)).alloc (.cells Z1 254):=⟨_,rfl⟩;have o:B9 w W:=by rw[hW];exact(n9).alloc (by simp) _
 have ar:W.heap.size=w.heap.size+1+1:=by rw[hW];simp
 have af:W.heap[w.heap.size]?=some (.cells #[.slice A.va t.nv A.vc,.slice A.la t.d.n A.lc,.slice A.ia t.d.m A.ic,.slice A.xa t.d.x A.xc,J t.d.used,J t.d.live,J t.d.turns,Q9 (B j)] 236 (0,0)):=by
  rw[hW];exact(Fs _ _ _ (by simp)).trans (BE _ _)
 have b1:W.heap[w.heap.size+1]?=some (.cells Z1 254 (0,0)):=by
  rw[hW];have h1:=BE (w.alloc (.cells #[.slice A.va t.nv A.vc,.slice A.la t.d.n A.lc,.slice A.ia t.d.m A.ic,.slice A.xa t.d.x A.xc,J t.d.used,J t.d.live,J t.d.turns,Q9 (B j)] 236)) (.cells Z1 254);simpa using h1
 obtain⟨Z,M,ag,ah⟩:=hN;have HC:=O (FF s b0 B Z M A t j W (ag.below o) ah hf hj (hV.below o rfl) ae);have ad:=IU hf hj;obtain⟨m,hm⟩:∃m,m=nf s.F j:=⟨_,rfl⟩;rw[<-hm]at HC ad;have HM:=O hm;obtain⟨P,hP⟩:∃P,P=Ey s j t:=⟨_,rfl⟩;rw[<-hP]at HC;have HP:=O hP;have au:=O o;have ai:=O af;have aj:=O b1;clear ag ah hf hj ae hV o hm hP af b1
 go_enter func340,ntmps340
 go_wp2_with fail
 rw[<-hW];clear hW;go_wp2_with (first|(refine Aan rfl 236 _ rfl w.heap.size rfl _ _ _ _ ai underlying236 rfl K0 ?_))
 refine HC.mono ?_;rintro e w1 ⟨⟨v,rfl,f⟩,r⟩;obtain⟨va,vc,rfl⟩:=Ao f;have l1:w.heap.size+1<w1.heap.size:=by have:=r.size;omega
 have av:=O ((r.block _ (by omega)).trans aj);have H:=O (au.trans (r.mono (by omega)));have HO:=O f;clear r f HC ai aj ar;go_wp2_with fail
 go_loopw [10] (fun i wr=>∃(k:Nat),k<=m/\i=J k/\B9 w1 wr/\∀q,q<k->¬n<(P q).turn) (fun i _=>m-(intOf i).toNat)
 case atStart=>exact⟨0,by omega,rfl,DD _ _,fun q hq=>by omega⟩
 case round=>
  obtain⟨k,hk,rfl,hb,b⟩:=hrel;have a7:=hb.size;have K:=O ((hb.block _ l1).trans av);have u:=O (H.trans (hb.mono H.size));have lr:w.heap.size+1<wr.heap.size:=by omega
  by_cases L:k<m
  case neg=>
   have ak:k=m:=by omega
   obtain⟨e1,e2⟩:=Zq (Q:=⟨nf s.F j,Ey s j t,0⟩) (n:=n) (fun q hq=>by
    have:=b q (by rw[ak,z HM];exact hq);rw[z HP]at this;exact this)
   have HR:=O (And.intro e1 e2);obtain⟨w2,l,a⟩:=Nb K false ⟨nov,nov,0⟩;have R:=O l;have c0:=Aa a 0 _ rfl;have c1:=Aa a 1 _ rfl;have c2:=Aa a 2 _ rfl;have c3:=Aa a 3 _ rfl;have c4:=Aa a 4 _ rfl;have c5:=Aa a 5 _ rfl;have c6:=Aa a 6 _ rfl;have c7:=Aa a 7 _ rfl;have c8:=Aa a 8 _ rfl;have c9:=Aa a 9 _ rfl;have S:=Aa a 10 _ rfl;have RG:=Aa a 11 _ rfl;have T:=O a;clear hb b L e1 e2 l a;subst ak;go_wp2_with (refine Ak rfl rfl _ R ?_)
   refine DO (v:=FV false ⟨nov,nov,0⟩) (by simp[results,results340,go_sem,c0,c1,c2,c3,c4,c5,c6,c7,c8,c9,S,RG]) rfl ⟨by unfold Pj;rw[(z HR).1,(z HR).2],?_⟩;exact T.below u (by omega)
  obtain⟨g,cp,hv,a8,aw,_,ao,_⟩:=Ci.form HO (by omega);cases hv;have U:=O (QM ((ao k L).keep (fun q=>hb.cell (p:=(G g q)) aw)));obtain⟨p,hp⟩:∃p,p=P k:=⟨_,rfl⟩;rw[<-hp]at U;have X:=O hp;have I:=O b;have aq:=O hb;have bb:g<wr.heap.size:=by omega
  clear hb b ao hp;go_upto_region 4 with(first|(refine wpList_load_mid rfl 96 _ rfl g (k*11) rfl (Eb p) _ U underlying96 rfl R4 ?_)|(refine Ak rfl rfl _ (Nc wr p) ?_))
  obtain⟨w4,C⟩:∃w4,w4=wr.alloc (.cells (Eb p).toArray 96):=⟨_,rfl⟩;rw[<-C];have D:B9 wr w4:=by rw[C];exact(DD _ _).alloc (A0 _) _
  have E:w4.heap[wr.heap.size]?=some (.cells (Eb p).toArray 96 (0,0)):=by rw[C];exact BE _ _
  have t10:w4.cell? (y wr 10)=some (J p.turn):=by rw[NB w4 _ _ _ _ _ E];rfl
  have l4:=Aj E;have ax:Hid (w4.heap[wr.heap.size]?=some (.cells #[J p.key.kind,J p.key.num,F9 p.key.Ae,.string p.key.str,J p.key.ref,J p.val.kind,J p.val.num,F9 p.val.Ae,.string p.val.str,J p.val.ref,J p.turn] 96 (0,0))):=O E;have ay:=O (u.trans (D.mono u.size));have az:=O (aq.trans (D.mono aq.size));have aM:=O ((D.block _ lr).trans K);clear C D E U K u;by_cases c:n<p.turn
  ·have hd:decide (n<p.turn)=true:=by simp[c]
   obtain⟨e1,e2⟩:=Zo (Q:=⟨nf s.F j,Ey s j t,0⟩) (n:=n) (k:=k) (by rw[<-z HM];exact L) (fun q hq=>by
    have:=z I q hq;rw[z HP]at this;exact this) (by have h:=c;rw[z X,z HP]at h;exact h)
   have e3:(⟨nf s.F j,Ey s j t,0⟩:Pl).P k=p:=by rw[z X,z HP]
   have HR:=O (And.intro e1 (e2.trans e3));obtain⟨w2,l,a⟩:=Nb aM true p;have R:=O l;have c0:=Aa a 0 _ rfl;have c1:=Aa a 1 _ rfl;have c2:=Aa a 2 _ rfl;have c3:=Aa a 3 _ rfl;have c4:=Aa a 4 _ rfl;have c5:=Aa a 5 _ rfl;have c6:=Aa a 6 _ rfl;have c7:=Aa a 7 _ rfl;have c8:=Aa a 8 _ rfl;have c9:=Aa a 9 _ rfl;have S:=Aa a 10 _ rfl;have RG:=Aa a 11 _ rfl;have T:=O a;clear e1 e2 e3 l a c;go_wp2_with (first|(refine Aan rfl 96 _ rfl wr.heap.size rfl _ _ _ _ ax underlying96 rfl R4 ?_)|(refine Ak rfl rfl _ R ?_))
   refine DO (v:=FV true p) (by simp[results,results340,go_sem,c0,c1,c2,c3,c4,c5,c6,c7,c8,c9,S,RG]) rfl ⟨by unfold Pj;rw[(z HR).1,(z HR).2],?_⟩;exact T.below ay (by omega)
  ·have hd:decide (n<p.turn)=false:=by simp[c]
   have a6:=O c;clear c;go_wp2;go_roundw
   case rel=>exact⟨k+1,by omega,by go_num,az,fun q hq=>by
    by_cases e:q=k
    ·subst e;have h:=z a6;rw[z X]at h;exact h
    ·exact I q (by omega)⟩
   case measure=>simp[intOf];omega
theorem Ht(n:Int)(w:Y)(c:0<=n)(h1:n<=1000000000000):
  C9 239 #[J n] w fun e w'=>e=.returned (J (FC n))/\w'=w:=by
 have d:IntKind.i64.wrap (n+1)=n+1:=by rw[It];omega
 by_cases hn:n<1000000000000
 focus
  have a:Hid (FC n=n+1):=O (C3 hn);have b:min (n+1) 1000000000000=n+1:=by omega
 rotate_left
 focus
  have a:Hid (FC n=1000000000000):=O (Cs hn);have b:min (n+1) 1000000000000=1000000000000:=by omega
 rotate_left;all_goals
  go_enter func239,ntmps239
  go_wp2;go_ret;exact⟨by rw[z a];simp[b],rfl⟩
theorem Lh(Z:Nat->Prop)(c B0:Nat)(vN vT vS vU:V9)(Bk:Nat->Nat)(A:Nat->Ad)(s:AV)(i:Nat)(w:Y)(h:AZ Z w c B0 vN vT vS vU Bk A s)(hi:i<s.ns)(p:s.ns<=50):
  C9 207 #[Q9 c,J (i:Int)] w (R9 (FQ (A7 (s.S i).key)) w):=by
 obtain⟨g,C,q,r,t,d,k⟩:=h.M6 hi;subst q;have u:=h.lt;obtain⟨W,j⟩:∃W,W=w.alloc (.cells #[J 0,J 0,F9 0,E9,J 0] 43):=⟨_,rfl⟩;have e:B9 w W:=by rw[j];exact(DD _ _).alloc (A0 _) _
 have a:W.heap[w.heap.size]?=some (.cells #[J 0,J 0,F9 0,E9,J 0] 43 (0,0)):=by rw[j];exact BE _ _
 have l:w.heap.size<W.heap.size:=Aj a;have c2:=h.cells.2.2.1;have k0:w.cell? (G g (i*5))=some (.string (s.S i).key):=d 0 _ rfl;have f:=O e;have m:=O a;clear h d k e a
 go_enter func207,ntmps207
 go_wp2_with fail
 rw[<-j];clear j c2 k0;refine m9 (Ng (s.S i).key _) fun w1 b=>?_
 have a:=(b.block _ l).trans m;have l1:=Aj a;have r0:w1.cell? (y w 0)=some (J 0):=by simp[World.cell?,a]
 have r1:w1.cell? (y w 1)=some (J 0):=by simp[World.cell?,a]
 have r2:w1.cell? (y w 2)=some (F9 0):=by simp[World.cell?,a]
 have x:w1.cell? (y w 3)=some (E9):=by simp[World.cell?,a]
 have B:w1.cell? (y w 4)=some (J 0):=by simp[World.cell?,a]
 have rf:∀o,w1.frozen? (y w o)=false:=fun o=>by simp[World.frozen?,a]
 have n:=O (f.trans (b.mono f.size));clear b a;go_wp2;refine DO (v:=FQ (A7 (s.S i).key)) (by simp[results,results207,go_sem,r0,r1,r2,x,B,A7]) rfl ⟨rfl,?_⟩;repeat(refine W0 ?_ (by show w.heap.size<=w.heap.size;omega) _)
 exact n
theorem K0:(prog.info? 236).map (·.size)=some 8:=by kernel_rfl
abbrev B3:Array Value:=#[N9,N9,N9,N9,J 0,J 0,J 0,.pointer none]
theorem Rl(p:Nat)(A:Ad)(t:Tb)(i:Nat)(v:Vl)(w:Y)(U:Hg w A.va t.nv t.V)(hi:i<t.nv)(hn:t.nv<=12):
  C9 209 #[B4 p A t,J (i:Int),FQ v] w fun e w'=>(∃g cp,e=.returned (B4 p {A with va:=some (G g 0),vc:=cp} (Dn t i v))/\EZ w' w.heap.size (S9 g t.nv cp) t.nv (AM t.V i v))/\B9 w w':=by
 obtain⟨i0,X,Z,ad,ae⟩:=Tn Ki;obtain⟨vb,off,C,af,I⟩:=U.resolve_left (by omega);obtain⟨va,vc,la,lc,ia,ic,xa,xc⟩:=A;have C:va=some (G vb off):=C;subst C;have U:Hg w (some (G vb off)) t.nv t.V:=U;show C9 209 #[V8 p (some (G vb off)) vc la lc ia ic xa xc t,J (i:Int),FQ v] w _;obtain⟨W,H⟩:∃W,W=((w.alloc (.cells #[.slice (some (G vb off)) t.nv vc,.slice la t.d.n lc,.slice ia t.d.m ic,.slice xa t.d.x xc,J t.d.used,J t.d.live,J t.d.turns,Q9 p] 236)).alloc (.cells #[J v.kind,J v.num,F9 v.Ae,.string v.str,J v.ref] 43)).alloc (.cells B3 236):=⟨_,rfl⟩;have D:B9 w W:=by rw[H];exact((n9).alloc (by simp) _).alloc (by simp;omega) _
 have K:W.heap.size=w.heap.size+1+1+1:=by rw[H];simp
 have b0:W.heap[w.heap.size]?=some (.cells #[.slice (some (G vb off)) t.nv vc,.slice la t.d.n lc,.slice ia t.d.m ic,.slice xa t.d.x xc,J t.d.used,J t.d.live,J t.d.turns,Q9 p] 236 (0,0)):=by
  rw[H];iterate 2 (refine(Fs _ _ _ (by simp;try omega)).trans ?_)
  exact BE _ _
 have b1:W.heap[w.heap.size+1]?=some (.cells #[J v.kind,J v.num,F9 v.Ae,.string v.str,J v.ref] 43 (0,0)):=by
  rw[H];refine(Fs _ _ _ (by simp)).trans ?_;have h1:=BE (w.alloc (.cells #[.slice (some (G vb off)) t.nv vc,.slice la t.d.n lc,.slice ia t.d.m ic,.slice xa t.d.x xc,J t.d.used,J t.d.live,J t.d.turns,Q9 p] 236)) (.cells #[J v.kind,J v.num,F9 v.Ae,.string v.str,J v.ref] 43);simpa using h1
 have b2:W.heap[w.heap.size+1+1]?=some (.cells B3 236 (0,0)):=by
  rw[H];have h1:=BE ((w.alloc (.cells #[.slice (some (G vb off)) t.nv vc,.slice la t.d.n lc,.slice ia t.d.m ic,.slice xa t.d.x xc,J t.d.used,J t.d.live,J t.d.turns,Q9 p] 236)).alloc (.cells #[J v.kind,J v.num,F9 v.Ae,.string v.str,J v.ref] 43)) (.cells B3 236);simpa using h1
 have x0:W.cell? (y w 0)=some (.slice (some (G vb off)) t.nv vc):=by simp[World.cell?,b0]
 have ag:=O (Hg.news (w:=W) (fun i hi=>(I i hi).keep (fun q=>D.cell (p:=(G vb q)) af)));have L:=O (And.intro b0 (And.intro b1 b2));have ah:=O D;have HZ:=O K;clear I U b0 b1 b2 D;have HF:Hid (∀g3 a w3,w3.ownsRow w.heap.size 43 5 (S9 g3 (0+t.nv) a) (0+t.nv) ([]++OT t.V t.nv)->W.grownBy w3 none->g3=w.heap.size+1+1+1->w3.heap[w.heap.size]?=W.heap[w.heap.size]?/\w.heap.size<w3.heap.size/\
   (EZ (w3.setCell (y w 0) (S9 g3 t.nv a)) w.heap.size (S9 g3 t.nv a) t.nv t.V/\B9 w (w3.setCell (y w 0) (S9 g3 t.nv a))/\
   (w3.setCell (y w 0) (S9 g3 t.nv a)).heap[w.heap.size]?=some (.cells #[S9 g3 t.nv a,.slice la t.d.n lc,.slice ia t.d.m ic,.slice xa t.d.x xc,J t.d.used,J t.d.live,J t.d.turns,Q9 p] 236 (0,0))/\
   (w3.setCell (y w 0) (S9 g3 t.nv a)).heap[w.heap.size+1]?=some (.cells #[J v.kind,J v.num,F9 v.Ae,.string v.str,J v.ref] 43 (0,0))/\
   (w3.setCell (y w 0) (S9 g3 t.nv a)).heap[w.heap.size+1+1]?=some (.cells B3 236 (0,0)))):=O (by
  intro g3 a w3 h1 h2 h3;obtain⟨b0,b1,b2⟩:=z L;have hk:∀k,k<W.heap.size->w3.heap[k]?=W.heap[k]?:=fun k hk=>h2.block k hk (by simp)
  have hz:=h2.size;have hb:=z ah;rw[Aaa,So]at h1;have ai:B9 w w3:=⟨h2.os.trans hb.os,h2.tape.trans hb.tape,h2.output.trans hb.output,FZ hb.size h2.size,fun k hk=>(h2.block k (Be hk hb.size) (by simp)).trans (hb.block k hk)⟩;refine⟨hk _ (by omega),by omega,Ai h1 (fun q e=>At _ _ _ _ (by cases e;show g3≠w.heap.size;omega)),ai.setCell (A0 _) _,(GW _ _ _ _ _ _ ((hk _ (by omega)).trans b0)).trans (by simp),(At _ _ _ _ (by show w.heap.size+1≠w.heap.size;omega)).trans ((hk _ (by omega)).trans b1),(At _ _ _ _ (by show w.heap.size+1+1≠w.heap.size;omega)).trans ((hk _ (by omega)).trans b2)⟩)
 go_enter func209,ntmps209
 go_upto_region 2 with(at_builtin;rw[<-H];refine Aah _ rfl _ _ 89 rfl w.heap.size 43 i0 (V 0 0 0 ⟨#[]⟩ 0) 5 48 underlying89 X Z ad ae rfl (by decide) (N9) 0 [] rfl (ON _ _ _ _) (G vb off) t.nv vc (OT t.V t.nv) rfl (GZ _ _) ag (LP _ _) (by omega) (by unfold maxLen;omega) (by omega) (by omega) (w.heap.size+1+1+1) K ?_;intro g3 a w3 j B l aw;simp only[Aaa];have E:g3=w.heap.size+1+1+1:=l.resolve_left (by simp[Value.ownBlock]);obtain⟨M,l0,o⟩:=z HF g3 a w3 j B E;have r:=O o;have s:=O E;clear j B l o E;have b0:=M.trans L.1;have x0:w3.cell? (y w 0)=some (.slice (some (G vb off)) t.nv vc):=(by simp[World.cell?,b0]);have xf:w3.frozen? (y w 0)=false:=(by simp[World.frozen?,b0]);clear M b0)
 obtain⟨w4,P⟩:∃w4,w4=w3.setCell (y w 0) (S9 g3 t.nv a):=⟨_,rfl⟩;rw[<-P]at r ⊢;clear P x0 xf l0;obtain⟨c,u,c0,c1,c2⟩:=z r;have l0:=Aj c0;have l1:=Aj c1;have x0:w4.cell? (y w 0)=some (S9 g3 t.nv a):=by simp[World.cell?,c0]
 have y0:w4.cell? (Y9 w 0)=some (J v.kind):=by simp[World.cell?,c1]
 have y1:w4.cell? (Y9 w 1)=some (J v.num):=by simp[World.cell?,c1]
 have y2:w4.cell? (Y9 w 2)=some (F9 v.Ae):=by simp[World.cell?,c1]
 have y3:w4.cell? (Y9 w 3)=some (.string v.str):=by simp[World.cell?,c1]
 have y4:w4.cell? (Y9 w 4)=some (J v.ref):=by simp[World.cell?,c1]
 obtain⟨v0,v1,v2,v3,v4⟩:=EZ.at c hi;have aj:∀q,w4.frozen? (G g3 q)=false:=fun q=>by obtain⟨cur,hb,_⟩:=A3 c rfl;simp[World.frozen?,hb]
 have ak:=(c.lt g3 rfl).2;clear c u c0 c1 c2;go_upto_region 3 with fail
 obtain⟨h,f⟩:∃h,h=((((w4.setCell (G g3 (i*5)) (J v.kind)).setCell (G g3 (i*5+1)) (J v.num)).setCell (G g3 (i*5+2)) (F9 v.Ae)).setCell (G g3 (i*5+3)) (.string v.str)).setCell (G g3 (i*5+4)) (J v.ref):=⟨_,rfl⟩;rw[<-f];have f:h=Hx w4 g3 (i*5) v:=f;obtain⟨c,u,c0,c1,c2⟩:=z r;have Q:EZ h w.heap.size (S9 g3 t.nv a) t.nv (AM t.V i v):=by rw[f];exact EZ.Hx c hi v
 have F:∀k,k≠g3->h.heap[k]?=w4.heap[k]?:=fun k hk=>by rw[f];exact M5 _ _ _ _ hk
 have R:B9 w h:=by
  rw[f];iterate 5 (refine W0 ?_ (by show w.heap.size<=g3;have:=z s;omega) _)
  exact u
 have c0:=(F _ (by have:=z s;omega)).trans c0;have c2:=(F _ (by have:=z s;omega)).trans c2;clear f F u c r x0 y0 y1 y2 y3 y4 v0 v1 v2 v3 v4 aj ak l0 l1;have l0:=Aj c0;have l2:=Aj c2;have x0:h.cell? (y w 0)=some (S9 g3 t.nv a):=by simp[World.cell?,c0]
 have x1:h.cell? (y w 1)=some (.slice la t.d.n lc):=by simp[World.cell?,c0]
 have x2:h.cell? (y w 2)=some (.slice ia t.d.m ic):=by simp[World.cell?,c0]
 have x3:h.cell? (y w 3)=some (.slice xa t.d.x xc):=by simp[World.cell?,c0]
 have x4:h.cell? (y w 4)=some (J t.d.used):=by simp[World.cell?,c0]
 have x5:h.cell? (y w 5)=some (J t.d.live):=by simp[World.cell?,c0]
 have x6:h.cell? (y w 6)=some (J t.d.turns):=by simp[World.cell?,c0]
 have x7:h.cell? (y w 7)=some (Q9 p):=by simp[World.cell?,c0]
 obtain⟨w6,S,b⟩:=BD (t:=236) (v:=V8 p (some (G g3 0)) a la lc ia ic xa xc t) (vs:=[S9 g3 t.nv a,.slice la t.d.n lc,.slice ia t.d.m ic,.slice xa t.d.x xc,J t.d.used,J t.d.live,J t.d.turns,Q9 p]) (old:=B3.toList) D7 c2 rfl rfl (by simp[Value.oneCell']) rfl;have ao:=O S;have e0:=Aa b 0 _ rfl;have e1:=Aa b 1 _ rfl;have e2:=Aa b 2 _ rfl;have e3:=Aa b 3 _ rfl;have e4:=Aa b 4 _ rfl;have e5:=Aa b 5 _ rfl;have e6:=Aa b 6 _ rfl;have e7:=Aa b 7 _ rfl;have T:=O b;have aq:=O Q;have ar:=O R;have au:g3≠w.heap.size+1+1:=by have:=z s;omega
 have av:=O c0;clear c0 c2 Q R S b x0 x1 x2 x3 x4 x5 x6 x7;go_wp2_with (first|(refine Aan rfl 236 _ rfl w.heap.size rfl _ _ _ _ av underlying236 rfl K0 ?_)|(refine Ak rfl rfl _ ao ?_))
 refine DO (v:=V8 p (some (G g3 0)) a la lc ia ic xa xc t) (by simp[results,results209,go_sem,e0,e1,e2,e3,e4,e5,e6,e7]) rfl ⟨⟨g3,a,rfl,?_⟩,?_⟩
 ·exact Ai aq (fun q e=>T.other q (by cases e;exact au))
 ·exact T.below ar (by omega)
def BT(p:Nat)(A:Ad)(t:Tb):List Value:=[.slice A.va t.nv A.vc,.slice A.la t.d.n A.lc,.slice A.ia t.d.m A.ic,.slice A.xa t.d.x A.xc,J t.d.used,J t.d.live,J t.d.turns,Q9 p]
theorem JU(p:Nat)(A:Ad)(t:Tb):∀u∈BT p A t,u.oneCell'=true:=by
 intro u h;simp only[BT,Aau,Aaq,or_false]at h;rcases h with rfl|rfl|rfl|rfl|rfl|rfl|rfl|rfl<;>rfl
theorem LN:∀u∈B3.toList,u.oneCell'=true:=by
 intro u h;simp only[Aau,Aaq,or_false]at h;rcases h with rfl|rfl|rfl|rfl|rfl|rfl|rfl|rfl<;>rfl
theorem PQ(w:Y)(p:Nat)(A:Ad)(t:Tb):(Instr.storeAt 236 (Q9 w.heap.size) (B4 p A t)).run prog (w.alloc (.cells B3 236))=.ok () (w.alloc (.cells (BT p A t).toArray 236)):=
 EW (old:=B3.toList) D7 w (by rfl) (by rfl) (JU p A t) rfl
theorem SI{w:Y}{b:Nat}(hb:w.heap[b]?=some (.cells B3 236 (0,0)))(p:Nat)(A:Ad)(t:Tb):∃w',(Instr.storeAt 236 (Q9 b) (.agg (BT p A t).toArray)).run prog w=.ok () w'/\Bt w w' b (BT p A t).toArray 236:=
 BD (old:=B3.toList) (vs:=BT p A t) D7 hb rfl rfl (JU p A t) rfl
theorem Yd{w:Y}{b:Nat}(hb:w.heap[b]?=some (.cells B3 236 (0,0))):∃w',(Instr.storeAt 236 (Q9 b) (.agg B3)).run prog w=.ok () w'/\Bt w w' b B3 236:=
 BD (old:=B3.toList) (vs:=B3.toList) D7 hb rfl rfl LN rfl
theorem Et{w:Y}{b p:Nat}{A:Ad}{t:Tb}(h:w.heap[b]?=some (.cells (BT p A t).toArray 236 (0,0))):∀j u,(BT p A t)[j]?=some u->w.cell? (G b j)=some u:=fun j u hu=>by
 rw[NB w b j _ _ _ h];simpa using hu
theorem AZ.WJ{Z:Nat->Prop}{w:Y}{c B0:Nat}{vN vT vS:V9}{w1 b:Y}{d f g i:V9}{Bk':Nat->Nat}{A':Nat->Ad}{s':AV}{rb n:Nat}{cs l:Array Value}(h:AZ (ZB Z w.heap.size n) w1 c B0 d f g i Bk' A' s')(o:BG (Aq B0 c vN vT vS w) w (Aq B0 c d f g w1) w1)(m:B0<=w.heap.size)(j:w.heap.size<=rb)(hz:rb<n)(p:w1.heap[rb]?=some (.cells l 236 (0,0)))(a:Bt w1 b rb cs 236):
  AZ Z b c B0 d f g i Bk' A' s'/\BG (Aq B0 c vN vT vS w) w (Aq B0 c d f g b) b:=
 h.fin o m (.inr ⟨j,hz⟩) j (h.Eo p (by decide) (by decide) (by decide) (by decide) (by decide)) (fun k e=>.inl e) ⟨a.os,a.tape,a.output,a.size⟩ a.other a.BR (by decide)
def LQ(Z:Nat->Prop)(c B0:Nat)(vN vT vS vU:V9)(Bk:Nat->Nat)(A:Nat->Ad)(s:AV)(i t:Nat)(w:Y)(e:Ending)(w':Y):Prop:=
 ∃vs:List Value,vs.length=8/\(∀u∈vs,u.oneCell'=true)/\e=.returned (.tuple #[.agg vs.toArray,J (Bg s i t)])/\(0<=Bg s i t->∃j:Nat,(s.T t).shape=j/\vs=BT (Bk j) (A t) (s.T t))/\AZ Z w' c B0 vN vT vS vU Bk A (Ba s i t)/\BG (Aq B0 c vN vT vS w) w (Aq B0 c vN vT vS w') w'
def SY(b g o:Nat)(pl:Int)(p:Nat)(A:Ad)(t:Tb)(W:Y):Prop:=W.cell? (G b 0)=some (.slice A.va t.nv A.vc)/\W.cell? (G b 1)=some (.slice A.la t.d.n A.lc)/\W.cell? (G b 2)=some (.slice A.ia t.d.m A.ic)/\W.cell? (G b 3)=some (.slice A.xa t.d.x A.xc)/\W.cell? (G b 4)=some (J t.d.used)/\W.cell? (G b 5)=some (J t.d.live)/\W.cell? (G b 6)=some (J t.d.turns)/\W.cell? (G b 7)=some (Q9 p)/\W.cell? (G g (o+2))=some (J pl)
theorem WL(Z:Nat->Prop)(c B0:Nat)(vN vT vS vU:V9)(Bk:Nat->Nat)(A:Nat->Ad)(s:AV)(i t j:Nat)(w:Y)(M:AZ Z w c B0 vN vT vS vU Bk A s)(hi:i<s.ns)(bh:s.ns<=50)(ht:t<s.nt)(bj:s.nt<=100)(F:(s.T t).shape=j)(hj:j<s.nf)(P:(s.S i).shape=j)(W:0<=(s.S i).EB)(X:(s.S i).EB<=1000000000000):
  C9 206 #[Q9 c,J (i:Int),J (t:Int)] w fun e w'=>LQ Z c B0 vN vT vS vU Bk A s i t w e w':=by
 obtain⟨Q,C,aw,I,_,D,_⟩:=M.FI ht;obtain⟨g,cp,R,H,bk,U,ae⟩:=M.M6 hi;subst aw R;have af:AF Bk (A t) (s.T t)=.iface 236 (B4 (Bk j) (A t) (s.T t)):=by
  unfold AF;rw[Cs (by omega),F];rfl
 rw[af]at D;have E:My s i t=true:=by unfold My;simp[F,P]
 have eI:Bg s i t=(s.S i).place:=by unfold Bg;rw[C3 E]
 have eX:Ej s i t={s.S i with EB:=FC (s.S i).EB}:=by unfold Ej;rw[C3 E]
 obtain⟨b,r⟩:∃b,b=(w.alloc (.cells B3 236)).alloc (.cells (BT (Bk j) (A t) (s.T t)).toArray 236):=⟨_,rfl⟩;have B:B9 w b:=by rw[r];exact(n9).alloc (by simp) _
 have ax:b.heap.size=w.heap.size+1+1:=by rw[r];simp
 have b0:b.heap[w.heap.size]?=some (.cells B3 236 (0,0)):=by
  rw[r];exact(Fs _ _ _ (by simp)).trans (BE _ _)
 have b1:b.heap[w.heap.size+1]?=some (.cells (BT (Bk j) (A t) (s.T t)).toArray 236 (0,0)):=by
  rw[r];have h1:=BE (w.alloc (.cells B3 236)) (.cells (BT (Bk j) (A t) (s.T t)).toArray 236);simpa using h1
 obtain⟨hE,ag⟩:=M.enter B;have ay:=M.lt;have bf:c<w.heap.size+1:=by omega
 have bg:g<w.heap.size+1:=by omega
 have av:Q<w.heap.size+1:=by omega
 obtain⟨c0,c1,c2,c3,cf⟩:=M.cells;have ad:Hid ((Instr.storeAt 236 (Q9 (w.heap.size+1)) (B4 (Bk j) (A t) (s.T t))).run prog ((w.alloc (.cells B3 236)).alloc (.cells B3 236))=.ok () b):=O (by
  have h:=PQ (w.alloc (.cells B3 236)) (Bk j) (A t) (s.T t);rw[World.size_alloc]at h;rw[r];exact h)
 have L:Hid (∀q f,f=(b.drewN q).setCell (G g (i*5+3)) (J (FC (s.S i).EB))->SY (w.heap.size+1) g (i*5) (s.S i).place (Bk j) (A t) (s.T t) f.drew/\w.heap.size<f.heap.size/\
   ∃w3,(Instr.storeAt 236 (Q9 w.heap.size) (.agg (BT (Bk j) (A t) (s.T t)).toArray)).run prog f.drew=.ok () w3/\Bt f.drew w3 w.heap.size (BT (Bk j) (A t) (s.T t)).toArray 236/\SY (w.heap.size+1) g (i*5) (s.S i).place (Bk j) (A t) (s.T t) w3/\
   AZ Z w3 c B0 vN (S9 Q s.nt C) (S9 g s.ns cp) vU Bk A (Ba s i t)/\BG (Aq B0 c vN (S9 Q s.nt C) (S9 g s.ns cp) w) w (Aq B0 c vN (S9 Q s.nt C) (S9 g s.ns cp) w3) w3):=O (by
  intro q f hq;have az:B9 b (b.drewN q):=⟨rfl,rfl,rfl,A0 _,fun _ _=>rfl⟩;obtain⟨m1,d1⟩:=hE.below az;obtain⟨m2,d2⟩:=m1.JT (i:=i) (j:=3) (u:=J (FC (s.S i).EB)) (x':=Ej s i t) rfl hi (by omega) (by rw[eX];rfl);rw[<-hq]at m2 d2;have bm:f.heap.size=b.heap.size:=by rw[hq];simp
  have st:∀k,k≠g->f.heap[k]?=b.heap[k]?:=fun k hk=>by rw[hq];exact At _ _ _ _ (by exact hk)
  have ah:f.drew.heap[w.heap.size]?=some (.cells B3 236 (0,0)):=(st _ (by omega)).trans b0;have ai:f.drew.heap[w.heap.size+1]?=some (.cells (BT (Bk j) (A t) (s.T t)).toArray 236 (0,0)):=(st _ (by omega)).trans b1;obtain⟨_,_,R,_,_,aM,_⟩:=m2.M6 (i:=i) hi;cases R;have aj:f.drew.cell? (G g (i*5+2))=some (J (s.S i).place):=aM 2 _ (by
   show(M8 (AM s.S i (Ej s i t) i))[2]?=_;rw[Ah,eX];rfl)
  have hc:=Et ai;have hH:SY (w.heap.size+1) g (i*5) (s.S i).place (Bk j) (A t) (s.T t) f.drew:=⟨hc 0 _ rfl,hc 1 _ rfl,hc 2 _ rfl,hc 3 _ rfl,hc 4 _ rfl,hc 5 _ rfl,hc 6 _ rfl,hc 7 _ rfl,aj⟩;obtain⟨w3,k1,k2⟩:=SI ah (Bk j) (A t) (s.T t);have l:=Et ((k2.other _ (by omega)).trans ai);have hd:BG (Aq B0 c vN (S9 Q s.nt C) (S9 g s.ns cp) w) w (Aq B0 c vN (S9 Q s.nt C) (S9 g s.ns cp) f.drew) f.drew:=((ag.trans d1).trans d2).Qf;obtain⟨f1,f2⟩:=AZ.WJ (m2.drew) hd M.base (A0 _) (by omega) ah k2;exact⟨hH,by omega,w3,k1,k2,⟨l 0 _ rfl,l 1 _ rfl,l 2 _ rfl,l 3 _ rfl,l 4 _ rfl,l 5 _ rfl,l 6 _ rfl,l 7 _ rfl,(As (a:=(G g (i*5+2))) (k2.other g (by omega))).trans aj⟩,f1,f2⟩)
 obtain⟨_,y1,y2,_,_⟩:=hE.cells;have yT:=(B.cell (p:=(G Q t)) I).trans D;have s1:=(B.cell (p:=(G g (i*5+1))) H).trans (U 1 _ rfl);have s3:=(B.cell (p:=(G g (i*5+3))) H).trans (U 3 _ rfl);have f3:b.frozen? (G g (i*5+3))=false:=(B.frozen (p:=(G g (i*5+3))) H).trans (ae _);obtain⟨nl,n0,_⟩:=IE.cell hE.nd hj;have p7:b.cell? (G (w.heap.size+1) 7)=some (Q9 (Bk j)):=Et b1 7 _ rfl;have l1:w.heap.size+1<b.heap.size:=by omega
 have lc:c<b.heap.size:=by omega
 have lg:g<b.heap.size:=by omega
 rw[P]at s1;have d0:((j:Int)==(j:Int))=true:=by simp
 have a6:=O eI;have a7:=O F;have a8:=iK (B4 (Bk j) (A t) (s.T t));have bb:=O (Ht (s.S i).EB);have HH:=O (And.intro W X);clear M hE ag B ax b0 b1 af E eI eX r ae F P cf c3 c0 W X
 go_enter func206,ntmps206
 go_upto_region 3 with(refine Ak rfl rfl _ ad ?_)
 clear c1 c2 D U ay H I;go_wp2_with fail
 go_quiet (fail)
 go_wp2_with fail
 refine(bb _ HH.1 HH.2).mono ?_;rintro e w2 ⟨rfl,rfl⟩;go_upto_region 5 with fail
 obtain⟨f,V⟩:∃f,f=(b.drewN nq).setCell (G g (i*5+3)) (J (FC (s.S i).EB)):=⟨_,rfl⟩;rw[<-V];obtain⟨bn,l2,w3,ak,ao,bc,aq,ar⟩:=z L nq f V;have bd:=O ak;have o:=O ao;have au:=O (And.intro aq ar);clear V ak ao aq ar L s1 s3 f3 n0 p7 y1 y2 yT d0 a8;refine H9 (SY (w.heap.size+1) g (i*5) (s.S i).place (Bk j) (A t) (s.T t)) ?_;refine tz 0 (h:=tz 1 (h:=tz 2 (h:=tz 3 (h:=tz 4 (h:=?_)))));refine ry 5 (fun K hK=>?_);refine Cm rfl rfl _ bd ?_;refine hK.out _ _ bc (fun _=>?_);clear hK K;refine tz 6 (h:=?_);refine FM ?_;have r0:w3.cell? (G w.heap.size 0)=some (.slice (A t).va (s.T t).nv (A t).vc):=Aa o 0 _ rfl;have r1:w3.cell? (G w.heap.size 1)=some (.slice (A t).la (s.T t).d.n (A t).lc):=Aa o 1 _ rfl;have r2:w3.cell? (G w.heap.size 2)=some (.slice (A t).ia (s.T t).d.m (A t).ic):=Aa o 2 _ rfl;have r3:w3.cell? (G w.heap.size 3)=some (.slice (A t).xa (s.T t).d.x (A t).xc):=Aa o 3 _ rfl;have r4:w3.cell? (G w.heap.size 4)=some (J (s.T t).d.used):=Aa o 4 _ rfl;have r5:w3.cell? (G w.heap.size 5)=some (J (s.T t).d.live):=Aa o 5 _ rfl;have r6:w3.cell? (G w.heap.size 6)=some (J (s.T t).d.turns):=Aa o 6 _ rfl;have r7:w3.cell? (G w.heap.size 7)=some (Q9 (Bk j)):=Aa o 7 _ rfl;go_wp2_with fail
 refine DO (v:=.tuple #[.agg (BT (Bk j) (A t) (s.T t)).toArray,J (s.S i).place]) (by simp[results,results206,go_sem,r0,r1,r2,r3,r4,r5,r6,r7,BT]) rfl ⟨BT (Bk j) (A t) (s.T t),rfl,JU _ _ _,by rw[z a6],fun _=>⟨j,a7,rfl⟩,au.1,au.2⟩
theorem IE.XE{w:Y}{s:AV}{b0:Nat}{B:Nat->Nat}(h:IE w s b0 B)(a:Ar s.nf s.F=0){j:Nat}(hj:j<s.nf)(key:ByteArray):
  C9 181 #[Q9 (B j),.string key] w fun e w'=>e=.returned (J (BW s.F j key))/\w'=w:=by
 obtain⟨Z,M,h1,h2⟩:=h;refine(F1 w s.F b0 s.nf B Z M h1 h2 (Au a).2.1 (Au a).2.2.1 j hj key).mono ?_;rintro e w' ⟨⟨b,_⟩,rfl⟩;exact⟨b,rfl⟩
theorem UA(Z:Nat->Prop)(c B0:Nat)(vN vT vS vU:V9)(Bk:Nat->Nat)(A:Nat->Ad)(s:AV)(i t:Nat)(w:Y)(B:AZ Z w c B0 vN vT vS vU Bk A s)(hi:i<s.ns)(aw:s.ns<=50)(ht:t<s.nt)(ax:s.nt<=100)(n:(s.T t).shape=-1)(F:0<=(s.S i).Bh)(H:(s.S i).Bh<=1000000000000):
  C9 206 #[Q9 c,J (i:Int),J (t:Int)] w fun e w'=>LQ Z c B0 vN vT vS vU Bk A s i t w e w':=by
 obtain⟨I,C,ag,r,_,d,_⟩:=B.FI ht;obtain⟨g,cp,ah,D,ay,K,L⟩:=B.M6 hi;subst ag ah;have M:AF Bk (A t) (s.T t)=.iface 239 (IJ (A t) (s.T t)):=C3 n;rw[M]at d;have f:My s i t=false:=by unfold My;simp[n]
 have eI:Bg s i t=-1:=by unfold Bg;rw[Cs (by rw[f];decide),Cs (by omega)]
 have eX:Ej s i t={s.S i with Bh:=FC (s.S i).Bh}:=by unfold Ej;rw[Cs (by rw[f];decide),Cs (by omega)]
 obtain⟨b,l⟩:∃b,b=(w.alloc (.cells B3 236)).alloc (.cells B3 236):=⟨_,rfl⟩;have m:B9 w b:=by rw[l];exact(n9).alloc (by simp) _
 have ai:b.heap.size=w.heap.size+1+1:=by rw[l];simp
 have b0:b.heap[w.heap.size]?=some (.cells B3 236 (0,0)):=by
  rw[l];exact(Fs _ _ _ (by simp)).trans (BE _ _)
 obtain⟨hE,P⟩:=B.enter m;have aj:=B.lt;have au:c<w.heap.size+1:=by omega
 have av:g<w.heap.size+1:=by omega
 have af:I<w.heap.size+1:=by omega
 obtain⟨c0,c1,c2,c3,cf⟩:=B.cells;have Q:Hid ((Instr.storeAt 236 (Q9 (w.heap.size+1)) (.agg B3)).run prog ((w.alloc (.cells B3 236)).alloc (.cells B3 236))=.ok () b):=O (by
  have h:=EW (t:=236) (v:=.agg B3) (old:=B3.toList) (vs:=B3.toList) D7 (w.alloc (.cells B3 236)) (ty:=236) rfl rfl LN rfl;rw[World.size_alloc]at h;rw[l];exact h)
 have x:Hid (∀q o,o=(b.drewN q).setCell (G g (i*5+4)) (J (FC (s.S i).Bh))->
   ∃w3,(Instr.storeAt 236 (Q9 w.heap.size) (.agg B3)).run prog o=.ok () w3/\Bt o w3 w.heap.size B3 236/\
   AZ Z w3 c B0 vN (S9 I s.nt C) (S9 g s.ns cp) vU Bk A (Ba s i t)/\BG (Aq B0 c vN (S9 I s.nt C) (S9 g s.ns cp) w) w (Aq B0 c vN (S9 I s.nt C) (S9 g s.ns cp) w3) w3):=O (by
  intro q o hq;have ak:B9 b (b.drewN q):=⟨rfl,rfl,rfl,A0 _,fun _ _=>rfl⟩;obtain⟨m1,d1⟩:=hE.below ak;obtain⟨m2,d2⟩:=m1.JT (i:=i) (j:=4) (u:=J (FC (s.S i).Bh)) (x':=Ej s i t) rfl hi (by omega) (by rw[eX];rfl);rw[<-hq]at m2 d2;have st:∀k,k≠g->o.heap[k]?=b.heap[k]?:=fun k hk=>by rw[hq];exact At _ _ _ _ (by exact hk)
  have R:=(st _ (by omega)).trans b0;obtain⟨w3,k1,k2⟩:=Yd R;obtain⟨f1,f2⟩:=AZ.WJ m2 ((P.trans d1).trans d2) B.base (A0 _) (by omega) R k2;exact⟨w3,k1,k2,f1,f2⟩)
 obtain⟨_,y1,y2,_,_⟩:=hE.cells;have yT:=(m.cell (p:=(G I t)) r).trans d;have s4:=(m.cell (p:=(G g (i*5+4))) D).trans (K 4 _ rfl);have f4:b.frozen? (G g (i*5+4))=false:=(m.frozen (p:=(G g (i*5+4))) D).trans (L _);have l1:w.heap.size+1<b.heap.size:=by omega
 have lc:c<b.heap.size:=by omega
 have lg:g<b.heap.size:=by omega
 have U:=O eI;have az:=O n;have ao:=jT (IJ (A t) (s.T t));have aq:=O (Ht (s.S i).Bh);have HH:=O (And.intro F H);clear B hE P m ai b0 M f eI eX L n cf c3 c0 F H l
 go_enter func206,ntmps206
 go_upto_region 3 with(refine Ak rfl rfl _ Q ?_)
 clear c1 c2 d K aj D r;go_wp2_with fail
 go_quiet (fail)
 go_wp2_with fail
 refine(aq _ HH.1 HH.2).mono ?_;rintro e w2 ⟨rfl,rfl⟩;go_upto_region 7 with fail
 obtain⟨o,E⟩:∃o,o=(b.drewN nq).setCell (G g (i*5+4)) (J (FC (s.S i).Bh)):=⟨_,rfl⟩;rw[<-E];obtain⟨w3,V,W,X,ad⟩:=z x nq o E;have ar:=O V;have a:=O W;have ae:=O (And.intro X ad);clear E V W X ad x s4 f4 y1 y2 yT ao;have r0:w3.cell? (y w 0)=some (N9):=Aa (vs:=B3.toList) a 0 _ rfl;have r1:w3.cell? (y w 1)=some (N9):=Aa (vs:=B3.toList) a 1 _ rfl;have r2:w3.cell? (y w 2)=some (N9):=Aa (vs:=B3.toList) a 2 _ rfl;have r3:w3.cell? (y w 3)=some (N9):=Aa (vs:=B3.toList) a 3 _ rfl;have r4:w3.cell? (y w 4)=some (J 0):=Aa (vs:=B3.toList) a 4 _ rfl;have r5:w3.cell? (y w 5)=some (J 0):=Aa (vs:=B3.toList) a 5 _ rfl;have r6:w3.cell? (y w 6)=some (J 0):=Aa (vs:=B3.toList) a 6 _ rfl;have r7:w3.cell? (y w 7)=some (.pointer none):=Aa (vs:=B3.toList) a 7 _ rfl;go_wp2_with (refine Ak rfl rfl _ ar ?_)
 refine DO (v:=.tuple #[.agg B3,J (-1)]) (by simp[results,results206,go_sem,r0,r1,r2,r3,r4,r5,r6,r7]) rfl ⟨B3.toList,rfl,LN,by rw[z U],fun h=>absurd h (by rw[z U];decide),ae.1,ae.2⟩
theorem Uz(Z:Nat->Prop)(c B0:Nat)(vN vT vS vU:V9)(Bk:Nat->Nat)(A:Nat->Ad)(s:AV)(i t j:Nat)(w:Y)(hM:AZ Z w c B0 vN vT vS vU Bk A s)(hf:Ar s.nf s.F=0)(hi:i<s.ns)(b7:s.ns<=50)(ht:t<s.nt)(b8:s.nt<=100)(B:(s.T t).shape=j)(hj:j<s.nf)(bk:(s.S i).shape≠j)(ar:0<=(s.S i).Bh)(au:(s.S i).Bh<=1000000000000):
  C9 206 #[Q9 c,J (i:Int),J (t:Int)] w fun e w'=>LQ Z c B0 vN vT vS vU Bk A s i t w e w':=by
 obtain⟨E,l,bm,W,_,H,_⟩:=hM.FI ht;obtain⟨g,L,bn,M,b9,af,av⟩:=hM.M6 hi;subst bm bn;have aw:AF Bk (A t) (s.T t)=.iface 236 (B4 (Bk j) (A t) (s.T t)):=by
  unfold AF;rw[Cs (by omega),B];rfl
 rw[aw]at H;have I:My s i t=false:=by unfold My;rw[B];simp;omega
 obtain⟨pl,P⟩:∃pl,pl=BW s.F j (s.S i).key:=⟨_,rfl⟩;have eI:Bg s i t=pl:=by unfold Bg;rw[Cs (by rw[I];decide),C3 (by omega),B,P];rfl
 have eX:Ej s i t=if 0<=pl then⟨(s.S i).key,(j:Int),pl,(s.S i).EB,FC (s.S i).Bh⟩else{s.S i with Bh:=FC (s.S i).Bh}:=by
  unfold Ej;rw[Cs (by rw[I];decide),B,show((j:Int)).toNat=j by omega,<-P];by_cases K:0<=pl
  ·rw[C3 ⟨by omega,K⟩,C3 K]
  ·rw[Cs (fun h=>K h.2),Cs K]
 obtain⟨o,C⟩:∃o,o=(w.alloc (.cells B3 236)).alloc (.cells (BT (Bk j) (A t) (s.T t)).toArray 236):=⟨_,rfl⟩;have D:B9 w o:=by rw[C];exact(n9).alloc (by simp) _
 have bp:o.heap.size=w.heap.size+1+1:=by rw[C];simp
 have b0:o.heap[w.heap.size]?=some (.cells B3 236 (0,0)):=by
  rw[C];exact(Fs _ _ _ (by simp)).trans (BE _ _)
 have b1:o.heap[w.heap.size+1]?=some (.cells (BT (Bk j) (A t) (s.T t)).toArray 236 (0,0)):=by
  rw[C];have h1:=BE (w.alloc (.cells B3 236)) (.cells (BT (Bk j) (A t) (s.T t)).toArray 236);simpa using h1
 obtain⟨hE,ax⟩:=hM.enter D;have bq:=hM.lt;have b5:c<w.heap.size+1:=by omega
 have b6:g<w.heap.size+1:=by omega
 have bj:E<w.heap.size+1:=by omega
 obtain⟨c0,c1,c2,c3,cf⟩:=hM.cells;have X:Hid ((Instr.storeAt 236 (Q9 (w.heap.size+1)) (B4 (Bk j) (A t) (s.T t))).run prog ((w.alloc (.cells B3 236)).alloc (.cells B3 236))=.ok () o):=O (by
  have h:=PQ (w.alloc (.cells B3 236)) (Bk j) (A t) (s.T t);rw[World.size_alloc]at h;rw[C];exact h)
 obtain⟨x1,ag⟩:∃x1:Si,x1={s.S i with Bh:=FC (s.S i).Bh}:=⟨_,rfl⟩;have ad:Hid (∀q b,b=(o.drewN q).setCell (G g (i*5+4)) (J (FC (s.S i).Bh))->
   AZ (ZB Z w.heap.size o.heap.size) b c B0 vN (S9 E s.nt l) (S9 g s.ns L) vU Bk A {s with S:=AM s.S i x1}/\BG (Aq B0 c vN (S9 E s.nt l) (S9 g s.ns L) w) w (Aq B0 c vN (S9 E s.nt l) (S9 g s.ns L) b) b/\
   b.heap[w.heap.size]?=some (.cells B3 236 (0,0))/\b.heap[w.heap.size+1]?=some (.cells (BT (Bk j) (A t) (s.T t)).toArray 236 (0,0))/\(∀q2,C9 181 #[Q9 (Bk j),.string (s.S i).key] (b.drewN q2) fun e w'=>e=.returned (J pl)/\w'=b.drewN q2)):=O (by
  intro q b hq;have br:B9 o (o.drewN q):=⟨rfl,rfl,rfl,A0 _,fun _ _=>rfl⟩;obtain⟨m1,d1⟩:=hE.below br;obtain⟨m2,d2⟩:=m1.JT (i:=i) (j:=4) (u:=J (FC (s.S i).Bh)) (x':=x1) rfl hi (by omega) (by rw[ag];rfl);rw[<-hq]at m2 d2;have st:∀k,k≠g->b.heap[k]?=o.heap[k]?:=fun k hk=>by rw[hq];exact At _ _ _ _ (by exact hk)
  refine⟨m2,(ax.trans d1).trans d2,(st _ (by omega)).trans b0,(st _ (by omega)).trans b1,fun q2=>?_⟩;have f:B9 b (b.drewN q2):=⟨rfl,rfl,rfl,A0 _,fun _ _=>rfl⟩;have hn:IE (b.drewN q2) s B0 Bk:=(m2.below f).1.nd;rw[P];exact hn.XE hf hj _)
 have ae:Hid (∀a,AZ (ZB Z w.heap.size o.heap.size) a c B0 vN (S9 E s.nt l) (S9 g s.ns L) vU Bk A (Ba s i t)->BG (Aq B0 c vN (S9 E s.nt l) (S9 g s.ns L) w) w (Aq B0 c vN (S9 E s.nt l) (S9 g s.ns L) a) a->a.heap[w.heap.size]?=some (.cells B3 236 (0,0))->
   ∃w3,(Instr.storeAt 236 (Q9 w.heap.size) (.agg (BT (Bk j) (A t) (s.T t)).toArray)).run prog a=.ok () w3/\Bt a w3 w.heap.size (BT (Bk j) (A t) (s.T t)).toArray 236/\
   LQ Z c B0 vN (S9 E s.nt l) (S9 g s.ns L) vU Bk A s i t w (.returned (.tuple #[.agg (BT (Bk j) (A t) (s.T t)).toArray,J pl])) w3):=O (by
  intro a m3 d3 hb;obtain⟨w3,k1,k2⟩:=SI hb (Bk j) (A t) (s.T t);obtain⟨f1,f2⟩:=AZ.WJ m3 d3 hM.base (A0 _) (by omega) hb k2;exact⟨w3,k1,k2,BT (Bk j) (A t) (s.T t),rfl,JU _ _ _,by rw[eI],fun _=>⟨j,B,rfl⟩,f1,f2⟩)
 have ay:=O eX;have ah:=O ag;obtain⟨_,y1,y2,_,_⟩:=hE.cells;have yT:=(D.cell (p:=(G E t)) W).trans H;have s1:=(D.cell (p:=(G g (i*5+1))) M).trans (af 1 _ rfl);have s4:=(D.cell (p:=(G g (i*5+4))) M).trans (af 4 _ rfl);have f4:o.frozen? (G g (i*5+4))=false:=(D.frozen (p:=(G g (i*5+4))) M).trans (av _);obtain⟨nl,n0,_⟩:=IE.cell hE.nd hj;have p7:o.cell? (Y9 w 7)=some (Q9 (Bk j)):=Et b1 7 _ rfl;have l1:w.heap.size+1<o.heap.size:=by omega
 have lc:c<o.heap.size:=by omega
 have lg:g<o.heap.size:=by omega
 have d0:((j:Int)==(s.S i).shape)=false:=by simp;omega
 have bt:=iK (B4 (Bk j) (A t) (s.T t));have az:=O (Ht (s.S i).Bh);have HH:=O (And.intro ar au);have bu:g≠w.heap.size:=by omega
 have ao:g≠w.heap.size+1:=by omega
 clear hM hE ax D bp b0 b1 aw I eI eX av B bk cf c3 c0 ar au C ag P hf
 go_enter func206,ntmps206
 go_upto_region 3 with(refine Ak rfl rfl _ X ?_)
 clear c1 c2 H af bq M W;go_wp2_with fail
 go_quiet (fail)
 go_wp2_with fail
 refine(az _ HH.1 HH.2).mono ?_;rintro e w2 ⟨rfl,rfl⟩;go_upto_region 7 with fail
 obtain⟨b,ai⟩:∃b,b=(o.drewN nq).setCell (G g (i*5+4)) (J (FC (s.S i).Bh)):=⟨_,rfl⟩;rw[<-ai];obtain⟨Q,aM,a6,R,a7⟩:=z ad nq b ai;obtain⟨ca,cb,_⟩:=IE.cell (s:={s with S:=AM s.S i x1}) Q.nd hj;obtain⟨_,_,aq,cc,_,U,aj⟩:=Q.M6 (i:=i) hi;cases aq;have cd:b.cell? (G g (i*5))=some (.string (s.S i).key):=U 0 _ (by
  show(M8 (AM s.S i x1 i))[0]?=_;rw[Ah,z ah];rfl)
 obtain⟨k1,cg⟩:∃u,b.cell? (G g (i*5+1))=some u:=⟨_,U 1 _ rfl⟩;obtain⟨k2,G4⟩:∃u,b.cell? (G g (i*5+2))=some u:=⟨_,U 2 _ rfl⟩;have g1:=aj (i*5+1);have g2:=aj (i*5+2);have q7:b.cell? (Y9 w 7)=some (Q9 (Bk j)):=Et R 7 _ rfl;have bw:=Aj R;have a8:=O (And.intro Q aM);have bb:=O a6;have bc:=O R;have bx:=O a7;clear ai Q aM a6 R a7 ad s1 s4 f4 n0 p7 y1 y2 yT d0 bt U aj nl HH az X;go_wp2_with fail
 go_quiet (exact Calls.quiet_of_same (bx _))
 by_cases K:0<=pl
 focus
  have bz:decide (0<=pl)=true:=by simp[K]
  have ak:Hid (∀q a,a=((b.drewN q).setCell (G g (i*5+1)) (J (j:Int))).setCell (G g (i*5+2)) (J pl)->a.heap[w.heap.size+1]?=some (.cells (BT (Bk j) (A t) (s.T t)).toArray 236 (0,0))/\∃w3,(Instr.storeAt 236 (Q9 w.heap.size) (.agg (BT (Bk j) (A t) (s.T t)).toArray)).run prog a=.ok () w3/\Bt a w3 w.heap.size (BT (Bk j) (A t) (s.T t)).toArray 236/\
   LQ Z c B0 vN (S9 E s.nt l) (S9 g s.ns L) vU Bk A s i t w (.returned (.tuple #[.agg (BT (Bk j) (A t) (s.T t)).toArray,J pl])) w3):=O (by
   intro q a hq;obtain⟨m2,d2⟩:=z a8;have f:B9 b (b.drewN q):=⟨rfl,rfl,rfl,A0 _,fun _ _=>rfl⟩;obtain⟨m3,d3⟩:=m2.below f;obtain⟨m4,d4⟩:=m3.JT (i:=i) (j:=1) (u:=J (j:Int)) (x':={x1 with shape:=(j:Int)}) rfl hi (by omega) (by
    show _=(M8 (AM s.S i x1 i)).set 1 _;rw[Ah];rfl)
   obtain⟨m5,d5⟩:=m4.JT (i:=i) (j:=2) (u:=J pl) (x':={x1 with shape:=(j:Int),place:=pl}) rfl hi (by omega) (by
    show _=(M8 (AM (AM s.S i x1) i {x1 with shape:=(j:Int)} i)).set 2 _;rw[Ah];rfl)
   rw[<-hq]at m5 d5;have st:∀k,k≠g->a.heap[k]?=b.heap[k]?:=fun k hk=>by
    rw[hq];exact(At _ _ _ _ (by exact hk)).trans (At _ _ _ _ (by exact hk))
   have eS:Ba s i t={s with S:=AM (AM (AM s.S i x1) i {x1 with shape:=(j:Int)}) i {x1 with shape:=(j:Int),place:=pl}}:=by
    unfold Ba;rw[EI,EI,z ay,C3 K,z ah]
   refine⟨(st _ (fun e=>ao e.symm)).trans bc,ae a (by rw[eS];exact m5) (((d2.trans d3).trans d4).trans d5) ((st _ (fun e=>bu e.symm)).trans bb)⟩)
  clear K;go_upto_region 12 with fail
  obtain⟨a,V⟩:∃a,a=((b.drewN nq).setCell (G g (i*5+1)) (J (j:Int))).setCell (G g (i*5+2)) (J pl):=⟨_,rfl⟩
 rotate_left
 focus
  have bz:decide (0<=pl)=false:=by simp[K]
  have ak:Hid (∀q a,a=b.drewN q->a.heap[w.heap.size+1]?=some (.cells (BT (Bk j) (A t) (s.T t)).toArray 236 (0,0))/\∃w3,(Instr.storeAt 236 (Q9 w.heap.size) (.agg (BT (Bk j) (A t) (s.T t)).toArray)).run prog a=.ok () w3/\Bt a w3 w.heap.size (BT (Bk j) (A t) (s.T t)).toArray 236/\
   LQ Z c B0 vN (S9 E s.nt l) (S9 g s.ns L) vU Bk A s i t w (.returned (.tuple #[.agg (BT (Bk j) (A t) (s.T t)).toArray,J pl])) w3):=O (by
   intro q a hq;obtain⟨m2,d2⟩:=z a8;have f:B9 b a:=by rw[hq];exact⟨rfl,rfl,rfl,A0 _,fun _ _=>rfl⟩
   obtain⟨m3,d3⟩:=m2.below f;have eS:Ba s i t={s with S:=AM s.S i x1}:=by
    unfold Ba;rw[z ay,Cs K,z ah]
   refine⟨(f.block _ bw).trans bc,ae a (by rw[eS];exact m3) (d2.trans d3) ((f.block _ (by omega)).trans bb)⟩)
  clear K;go_upto_region 12 with fail
  obtain⟨a,V⟩:∃a,a=b.drewN nq:=⟨_,rfl⟩
 rotate_left;all_goals
  rw[<-V];obtain⟨bd,w3,bf,bg,bh⟩:=z ak nq a V;have b2:=O bf;have r:=O bg;have b3:=O bh;have b4:Hid (a.heap[w.heap.size+1]?=some (.cells #[.slice (A t).va (s.T t).nv (A t).vc,.slice (A t).la (s.T t).d.n (A t).lc,.slice (A t).ia (s.T t).d.m (A t).ic,.slice (A t).xa (s.T t).d.x (A t).xc,J (s.T t).d.used,J (s.T t).d.live,J (s.T t).d.turns,Q9 (Bk j)] 236 (0,0))):=O bd;clear bf bg bh bd V ak;have r0:w3.cell? (y w 0)=some (.slice (A t).va (s.T t).nv (A t).vc):=Aa r 0 _ rfl;have r1:w3.cell? (y w 1)=some (.slice (A t).la (s.T t).d.n (A t).lc):=Aa r 1 _ rfl;have r2:w3.cell? (y w 2)=some (.slice (A t).ia (s.T t).d.m (A t).ic):=Aa r 2 _ rfl;have r3:w3.cell? (y w 3)=some (.slice (A t).xa (s.T t).d.x (A t).xc):=Aa r 3 _ rfl;have r4:w3.cell? (y w 4)=some (J (s.T t).d.used):=Aa r 4 _ rfl;have r5:w3.cell? (y w 5)=some (J (s.T t).d.live):=Aa r 5 _ rfl;have r6:w3.cell? (y w 6)=some (J (s.T t).d.turns):=Aa r 6 _ rfl;have r7:w3.cell? (y w 7)=some (Q9 (Bk j)):=Aa r 7 _ rfl;go_wp2_with (first|(refine Aan rfl 236 _ rfl (w.heap.size+1) rfl _ _ _ _ b4 underlying236 rfl K0 ?_)|(refine Ak rfl rfl _ b2 ?_))
  refine DO (v:=.tuple #[.agg (BT (Bk j) (A t) (s.T t)).toArray,J pl]) (by simp[results,results206,go_sem,r0,r1,r2,r3,r4,r5,r6,r7,BT]) rfl b3
theorem OU(Z:Nat->Prop)(c B0:Nat)(vN vT vS vU:V9)(Bk:Nat->Nat)(A:Nat->Ad)(s:AV)(i t:Nat)(w:Y)(f:AZ Z w c B0 vN vT vS vU Bk A s)(hf:Ar s.nf s.F=0)(hi:i<s.ns)(a:s.ns<=50)(g:t<s.nt)(b:s.nt<=100)(hx:O4 s (s.T t))(hs:Rr s (s.S i)):
  C9 206 #[Q9 c,J (i:Int),J (t:Int)] w fun e w'=>LQ Z c B0 vN vT vS vU Bk A s i t w e w':=by
 obtain⟨_,h1,h2,h3,h4,_⟩:=hs;rcases hx.way with⟨e,_⟩|⟨j,e,hj,_⟩
 ·exact UA Z c B0 vN vT vS vU Bk A s i t w f hi a g b e h2 h4
 ·by_cases d:(s.S i).shape=j
  ·exact WL Z c B0 vN vT vS vU Bk A s i t j w f hi a g b e hj d h1 h3
  ·exact Uz Z c B0 vN vT vS vU Bk A s i t j w f hf hi a g b e hj d h2 h4
abbrev VL(g a:Nat):Ad:=⟨some (G g 0),a,none,0,none,0,none,0⟩
theorem UM{t:Tb}(hb:bare t.d)(a g b:Nat)(r:Int)(v:Vl):B4 a (VL g b) (CI t r v)=.agg #[S9 g (t.nv+1) b,N9,N9,N9,J 0,J 0,J 0,Q9 a]:=by
 obtain⟨h1,h2,h3,h4,h5,c⟩:=hb;show Value.agg #[S9 g (t.nv+1) b,.slice none t.d.n 0,.slice none t.d.m 0,.slice none t.d.x 0,J t.d.used,J t.d.live,J t.d.turns,Q9 a]=_;rw[h1,h2,h3,h4,h5,c]
theorem UL(p l:Nat)(A:Ad)(t:Tb)(r:Int)(v:Vl)(w:Y)(hV:Hg w A.va t.nv t.V)(hn:t.nv<=12)(hb:bare t.d):
  C9 260 #[B4 p A t,Q9 l,FQ v] w fun e w'=>(∃g cp,w.heap.size<=g/\e=.returned (B4 l (VL g cp) (CI t r v))/\EZ w' w.heap.size (S9 g (t.nv+1) cp) (t.nv+1) (AM t.V t.nv v))/\B9 w w':=by
 obtain⟨i0,P,Q,R,S⟩:=Tn Ki;obtain⟨W,M⟩:∃W,W=((w.alloc (.cells #[.slice A.va t.nv A.vc,.slice A.la t.d.n A.lc,.slice A.ia t.d.m A.ic,.slice A.xa t.d.x A.xc,J t.d.used,J t.d.live,J t.d.turns,Q9 p] 236)).alloc (.cells #[J v.kind,J v.num,F9 v.Ae,.string v.str,J v.ref] 43)).alloc (.cells B3 236):=⟨_,rfl⟩;have I:B9 w W:=by rw[M];exact((n9).alloc (by simp) _).alloc (by simp;omega) _
 have T:W.heap.size=w.heap.size+1+1+1:=by rw[M];simp
 have x0:W.cell? (y w 0)=some (.slice A.va t.nv A.vc):=by rw[M];simp[go_sem]
 have b1:W.heap[w.heap.size+1]?=some (.cells #[J v.kind,J v.num,F9 v.Ae,.string v.str,J v.ref] 43 (0,0)):=by
  rw[M];refine(Fs _ _ _ (by simp)).trans ?_;have h1:=BE (w.alloc (.cells #[.slice A.va t.nv A.vc,.slice A.la t.d.n A.lc,.slice A.ia t.d.m A.ic,.slice A.xa t.d.x A.xc,J t.d.used,J t.d.live,J t.d.turns,Q9 p] 236)) (.cells #[J v.kind,J v.num,F9 v.Ae,.string v.str,J v.ref] 43);simpa using h1
 have b2:W.heap[w.heap.size+1+1]?=some (.cells B3 236 (0,0)):=by
  rw[M];have h1:=BE ((w.alloc (.cells #[.slice A.va t.nv A.vc,.slice A.la t.d.n A.lc,.slice A.ia t.d.m A.ic,.slice A.xa t.d.x A.xc,J t.d.used,J t.d.live,J t.d.turns,Q9 p] 236)).alloc (.cells #[J v.kind,J v.num,F9 v.Ae,.string v.str,J v.ref] 43)) (.cells B3 236);simpa using h1
 have ai:Hid (t.nv=0\/∃ad,A.va=some ad/\∀j u,(OT t.V t.nv)[j]?=some u->W.cell? (ad.add j)=some u):=O (by
  rcases hV with h|⟨vb,off,aj,ak,ao⟩
  ·exact .inl h
  ·exact .inr ⟨_,aj,Hg.news (w:=W) (fun i hi=>(ao i hi).keep (fun q=>I.cell (p:=(G vb q)) ak))⟩)
 have U:=O (And.intro b1 b2);have aq:=O I;have ar:=O hb;clear b1 b2 I hV hb
 go_enter func260,ntmps260
 go_upto_region 2 with(at_builtin;rw[<-M];refine Cn rfl _ _ 89 rfl w.heap.size 43 i0 (V 0 0 0 ⟨#[]⟩ 0) 5 48 underlying89 P Q R S rfl (by decide) rfl A.va t.nv A.vc (OT t.V t.nv) rfl (GZ _ _) ai (LP _ _) (by unfold maxLen;omega) (by omega) (by omega) (w.heap.size+1+1+1) T ?_;intro a3 E w3 o a s)
 have hb:=z aq;have c:B9 w w3:=⟨a.os.trans hb.os,a.tape.trans hb.tape,a.output.trans hb.output,FZ hb.size a.size,fun k hk=>(a.block k (Be hk hb.size) (by simp)).trans (hb.block k hk)⟩;have z3:=a.size;have c1:=(a.block (w.heap.size+1) (by omega) (by simp)).trans U.1;have c2:=(a.block (w.heap.size+1+1) (by omega) (by simp)).trans U.2;have l1:=Aj c1;have l2:=Aj c2;have y0:w3.cell? (Y9 w 0)=some (J v.kind):=by simp[World.cell?,c1]
 have y1:w3.cell? (Y9 w 1)=some (J v.num):=by simp[World.cell?,c1]
 have y2:w3.cell? (Y9 w 2)=some (F9 v.Ae):=by simp[World.cell?,c1]
 have y3:w3.cell? (Y9 w 3)=some (.string v.str):=by simp[World.cell?,c1]
 have y4:w3.cell? (Y9 w 4)=some (J v.ref):=by simp[World.cell?,c1]
 have X:∀q,(Value.slice a3 t.nv E).ownBlock=some q->w.heap.size+1+1<q:=fun q e=>by rw[s q e];omega
 have au:=O c;have av:=O o;have aw:=O c2;have K:=O X;have a6:w.heap.size<=w3.heap.size:=by omega
 clear a o s hb c c1 c2 X z3 T;have Z:Hid (∀g4 b w4,w4.ownsRow w.heap.size 43 5 (S9 g4 (t.nv+1) b) (t.nv+1) (OT t.V t.nv++OS v)->(w3.alloc (.cells (OS v).toArray 43)).grownBy w4 (Value.ownBlock (.slice a3 t.nv E))->(Value.ownBlock (.slice a3 t.nv E)=some g4\/g4=w3.heap.size+1)->
   (∃L,(Instr.storeAt 236 (Q9 (w.heap.size+1+1)) (.agg #[S9 g4 (t.nv+1) b,N9,N9,N9,J 0,J 0,J 0,Q9 l])).run prog w4=.ok () L/\Bt w4 L (w.heap.size+1+1) #[S9 g4 (t.nv+1) b,N9,N9,N9,J 0,J 0,J 0,Q9 l] 236/\
   w.heap.size<=g4/\EZ L w.heap.size (S9 g4 (t.nv+1) b) (t.nv+1) (AM t.V t.nv v)/\B9 w L)):=O (by
  intro g4 b w4 h1 h2 h3;have ae:w.heap.size+1+1<g4:=h3.elim (fun e=>K g4 e) (fun e=>by omega);have c2:w4.heap[w.heap.size+1+1]?=some (.cells B3 236 (0,0)):=(h2.block _ (by simp;omega) (fun e=>by have:=z K _ e.symm;omega)).trans ((Fs _ _ _ l2).trans aw);obtain⟨L,k1,k2⟩:=BD (t:=236) (v:=.agg #[S9 g4 (t.nv+1) b,N9,N9,N9,J 0,J 0,J 0,Q9 l]) (vs:=[S9 g4 (t.nv+1) b,N9,N9,N9,J 0,J 0,J 0,Q9 l]) (old:=B3.toList) D7 c2 rfl rfl (by simp[Value.oneCell']) rfl;refine⟨L,k1,k2,by omega,?_,?_⟩
  ·rw[Yp]at h1;exact Ai h1 (fun q e=>k2.other q (by cases e;show g4≠_;omega))
  ·have c:=z au;refine k2.below (B:=w.heap.size) ⟨h2.os.trans c.os,h2.tape.trans c.tape,h2.output.trans c.output,FZ c.size (FZ (by simp) h2.size),fun k hk=>?_⟩ (by omega);exact(h2.block k (by simp;omega) (fun e=>by have:=z K _ e.symm;omega)).trans ((Fs _ _ _ (by omega)).trans (c.block k hk)))
 go_wp2_with (first|(at_builtin;refine Aah _ rfl _ _ 89 rfl w.heap.size 43 i0 (V 0 0 0 ⟨#[]⟩ 0) 5 48 underlying89 P Q R S rfl (by decide) (.slice a3 t.nv E) t.nv (OT t.V t.nv) rfl (IH av _) (y w3 0) 1 1 (OS v) rfl rfl (GP (BE w3 _)) (by simp[OS,Value.oneCell']) (by decide) (by unfold maxLen;omega) (by omega) (by simp;omega) (w3.heap.size+1) (by simp) ?_;intro g4 b w4 C F D aM;obtain⟨L,H,af,ae,ag,ah⟩:=z Z g4 b w4 C F D;have ax:=O H;have f:=O af;have ay:=O ag;have az:=O ah;clear C F D H af ag ah)|(refine Ak rfl rfl _ ax ?_)|go_in)
 have e0:=Aa f 0 _ rfl;have e1:=Aa f 1 _ rfl;have e2:=Aa f 2 _ rfl;have e3:=Aa f 3 _ rfl;have e4:=Aa f 4 _ rfl;have e5:=Aa f 5 _ rfl;have e6:=Aa f 6 _ rfl;have e7:=Aa f 7 _ rfl;refine DO (v:=.agg #[S9 g4 (t.nv+1) b,N9,N9,N9,J 0,J 0,J 0,Q9 l]) (by simp[results,results260,go_sem,e0,e1,e2,e3,e4,e5,e6,e7]) rfl ⟨⟨g4,b,ae,by rw[UM (z ar)],ay⟩,az⟩
theorem AZ.Em{Z:Nat->Prop}{w w1 X w3:Y}{c B0:Nat}{vN vT vS vU:V9}{Bk B':Nat->Nat}{A:Nat->Ad}{s:AV}{F':Nat->Bf}{r g3 a:Nat}(h:AZ Z w c B0 vN vT vS vU Bk A s)
  (o:OX B0 w w1) (D:∃W M,B8 w1 F' B0 (s.nf+1) B' W M/\∀i,i<s.nf+1->W i=i) (L:B' s.nf=r) (K:∀i,i<s.nf->B' i=Bk i) (p:B9 w1 X) (d:X.grownBy w3 vN.ownBlock)
  (g:w3.ownsRow B0 163 1 (.slice (some (G g3 0)) (s.nf+1) a) (s.nf+1) (ptrs Bk s.nf++[.pointer (some (G r 0))])) (l:vN.ownBlock=some g3\/w.heap.size<=g3) (E:∀i,i<s.nt->(s.T i).shape=-1\/∃j:Nat,(s.T i).shape=j/\j<s.nf):
  w3.heap[c]?=some (.cells #[vN,vT,vS,vU] 198 (0,0))/\AZ Z (w3.setCell (G c 0) (.slice (some (G g3 0)) (s.nf+1) a)) c B0 (.slice (some (G g3 0)) (s.nf+1) a) vT vS vU B' A {s with nf:=s.nf+1,F:=F'}/\BG (Aq B0 c vN vT vS w) w (Aq B0 c (.slice (some (G g3 0)) (s.nf+1) a) vT vS (w3.setCell (G c 0) (.slice (some (G g3 0)) (s.nf+1) a))) (w3.setCell (G c 0) (.slice (some (G g3 0)) (s.nf+1) a)):=by
 obtain⟨W,M,hN,hid⟩:=D;have k1:∀q,q<w.heap.size->(q<B0\/¬DU 208 w q)->w1.heap[q]?=w.heap[q]?:=fun q hq hn=>o.block q hq hn
 have k3:∀q,q<w1.heap.size->vN.ownBlock≠some q->w3.heap[q]?=w1.heap[q]?:=fun q hq hn=>(d.block q (Be hq p.size) (fun e=>hn e.symm)).trans (p.block q hq)
 have f:∀q,q<w.heap.size->(q<B0\/¬DU 208 w q)->vN.ownBlock≠some q->w3.heap[q]?=w.heap[q]?:=fun q hq hn P=>(k3 q (Be hq o.size) P).trans (k1 q hq hn)
 have v:=(f c h.lt (.inr h.F0) (h.BS h.n (by decide))).trans h.BR;have B:=(k1 c h.lt (.inr h.F0)).trans h.BR;have C:∀k,k≠c->(w3.setCell (G c 0) (.slice (some (G g3 0)) (s.nf+1) a)).heap[k]?=w3.heap[k]?:=fun k hk=>At _ _ _ _ (by exact hk)
 have H:g3≠c:=fun e=>by
  rcases l with h1|h1
  ·exact h.BS h.n (by decide) (e▸h1)
  ·have:=h.lt;omega
 refine⟨v,h.next ⟨d.os.trans (p.os.trans o.os),d.tape.trans (p.tape.trans o.tape),d.output.trans (p.output.trans o.output)⟩ (by have:=p.size;have:=d.size;have:=o.size;simp;omega)
  (fun k I hk=>(C k (fun e=>hk (.inl e))).trans (f k I ?_ (fun e=>hk (.inr (.inl e))))) (fun k e=>by cases e;exact l) (fun _ e=>.inl e) (fun _ e=>.inl e) ((GW _ _ _ _ _ _ v).trans (by simp)) ?_ ⟨W,M,hN.keep (fun b hn=>?_),hid⟩ ?_
  (Ai h.si (fun q e=>(C q (fun e'=>h.BS h.si (by decide) (e'▸e))).trans (f q (h.si.lt q e).2 (.inr (Dp h.si (by decide) e)) (DC h.si h.n (by decide) e)))) h.u (fun i hi=>.inl (h.rd i hi))⟩
 ·by_cases hb:k<B0
  ·exact .inl hb
  ·exact .inr (fun hn=>hk (.inr (.inr (.inr (.inr ⟨by omega,hn⟩)))))
 ·rw[OE K L]at g;exact Ai g (fun q e=>C q (by cases e;exact H))
 ·have hbc:b≠c:=fun e=>by
   subst e;rcases hn with⟨x,hx⟩|⟨es,x,hx⟩
   ·rw[B]at hx;cases hx
   ·rw[B]at hx;cases hx
  refine(C b hbc).trans (k3 b (Hq hn) (fun e=>?_));have m:=Dp h.n (by decide) e;have e1:=k1 b (h.n.lt b e).2 (.inr m);unfold DU at hn m;rw[e1]at hn;exact m hn
 ·have e:kL B' A {s with nf:=s.nf+1,F:=F'} s.nt=kL Bk A s s.nt:=MD (fun i hi=>by
   show AF B' (A i) (s.T i)=AF Bk (A i) (s.T i);unfold AF;rcases E i hi with e|⟨j,e,hj⟩
   ·rw[C3 e,C3 e]
   ·rw[Cs (by omega),Cs (by omega),e,show((j:Int)).toNat=j by omega,K j hj])
  show World.ownsRow _ _ _ _ _ _ (kL B' A {s with nf:=s.nf+1,F:=F'} s.nt);rw[e];exact Ai h.t (fun q e=>(C q (fun e'=>h.BS h.t (by decide) (e'▸e))).trans (f q (h.t.lt q e).2 (.inr (Dp h.t (by decide) e)) (DC h.t h.n (by decide) e)))
def SX(Z:Nat->Prop)(c B0:Nat)(vN vT vS vU:V9)(Bk:Nat->Nat)(A:Nat->Ad)(s:AV)(k:Nat)(key:ByteArray)(w:Y)(e:Ending)(w':Y):Prop:=
 (EN s.nf s.F k key=-1/\e=.returned (.pointer none)/\AZ Z w' c B0 vN vT vS vU Bk A s/\BG (Aq B0 c vN vT vS w) w (Aq B0 c vN vT vS w') w')\/
 (∃r:Nat,EN s.nf s.F k key=r/\∃a B',e=.returned (Q9 (B' r))/\AZ Z w' c B0 a vT vS vU B' A {s with nf:=Em s.nf s.F k key,F:=C6 s.nf s.F k key}/\BG (Aq B0 c vN vT vS w) w (Aq B0 c a vT vS w') w')
theorem VN(Z:Nat->Prop)(c B0:Nat)(vN vT vS vU:V9)(Bk:Nat->Nat)(A:Nat->Ad)(s:AV)(k:Nat)(key:ByteArray)(w:Y)(I:AZ Z w c B0 vN vT vS vU Bk A s)(hf:Ar s.nf s.F=0)(hk:k<s.nf)(V:key.size<=4000)(L:∀i,i<s.nt->(s.T i).shape=-1\/∃j:Nat,(s.T i).shape=j/\j<s.nf):
  C9 259 #[Q9 c,Q9 (Bk k),.string key] w fun e w'=>SX Z c B0 vN vT vS vU Bk A s k key w e w':=by
 obtain⟨h1,h2,h3,h4,h5⟩:=Au hf;obtain⟨x,nc,rfl⟩:=Ao I.n;obtain⟨X,M,hN,hid⟩:=I.nd;have W:=I.lt;have c0:=I.cells.1;have aq:s.nf<=200:=h1.2;have S:=O (Pz w s.F B0 s.nf Bk X M hN hid h1 h2 h3 h4 k hk key V);have U:=O I;have ad:=O L;have B:=O h4;clear I hN hid h1 h2 h3 h4 h5 hf L
 go_enter func259,ntmps259
 go_wp2_with fail
 refine S.mono ?_;rintro e w1 (⟨j,hj,rfl,hb⟩|⟨f,h,rfl,hb⟩|⟨f,l,E,r,B',N',M',rfl,H,m,C,P,K⟩)
 ·have HE:Hid (∀q,SX Z c B0 (.slice x s.nf nc) vT vS vU Bk A s k key w (.returned (Q9 (Bk j))) (w1.drewN q)):=O (fun q=>by
   obtain⟨e1,e2,e3⟩:=LD B (.inl ⟨j,hj,rfl,rfl,rfl⟩);obtain⟨m1,d1⟩:=U.below (w':=w1.drewN q) ⟨hb.os,hb.tape,hb.output,hb.size,hb.block⟩;refine .inr ⟨j,e3.symm,_,Bk,rfl,?_,d1⟩;rw[<-e1,<-e2];exact m1)
  have ae:j<s.nf:=hj.2.1;obtain⟨m1,d1⟩:=U.below hb;obtain⟨l1,n1,_⟩:=IE.cell m1.nd ae;have y0:=m1.cells.1;have lc:=m1.lt;have d0:((j:Int)==(s.nf:Int))=false:=by simp;omega
  clear m1 d1 hb hj S;go_wp2_with fail
  go_quiet (fail)
  go_wp2;exact DO (v:=Q9 (Bk j)) (by simp[results,results259,go_sem]) rfl (HE _)
 ·have HE:Hid (∀q,SX Z c B0 (.slice x s.nf nc) vT vS vU Bk A s k key w (.returned (.pointer none)) (w1.drewN q)):=O (fun q=>by
   obtain⟨e1,e2,e3⟩:=LD B (.inr (.inl ⟨f,h,rfl,rfl,rfl⟩));obtain⟨m1,d1⟩:=U.below (w':=w1.drewN q) ⟨hb.os,hb.tape,hb.output,hb.size,hb.block⟩;exact .inl ⟨e3.symm,rfl,m1,d1⟩)
  clear hb f h S;go_wp2_with fail
  go_quiet (fail)
  go_wp2;exact DO (v:=.pointer none) (by simp[results,results259,go_sem]) rfl (HE _)
 ·obtain⟨i0,af,ag,ah,ai⟩:=Tn TH;have b:=z U;have Q:w1.heap[c]?=w.heap[c]?:=K.block c W (.inr b.F0);have d:=Q.trans b.BR;have y0:w1.cell? (G c 0)=some (.slice x s.nf nc):=by simp[World.cell?,d]
  have yf:w1.frozen? (G c 0)=false:=by simp[World.frozen?,d]
  have lc:=Aj d;obtain⟨l1,n1,_,_⟩:=C1 H m (show s.nf<s.nf+1 by omega);rw[C]at l1 n1;have ar:r<w1.heap.size:=Hi _ _ l1;have d0:((s.nf:Int)==(s.nf:Int))=true:=by simp
  have au:B0<=w1.heap.size:=FZ b.base K.size;have aj:Hid (∀q o,((w1.drewN q).alloc o).ownsRow B0 163 1 (.slice x s.nf nc) s.nf (ptrs Bk s.nf)):=O (fun q o=>by
   have h1:w1.ownsRow B0 163 1 (.slice x s.nf nc) s.nf (ptrs Bk s.nf):=Ai b.n (fun g e=>K.block g (b.n.lt g e).2 (.inr (Dp b.n (by decide) e)));exact IH (Ai h1 (w':=w1.drewN q) (fun _ _=>rfl)) o)
  have HF:Hid (∀q g3 p w3,w3.ownsRow B0 163 1 (S9 g3 (s.nf+1) p) (s.nf+1) (ptrs Bk s.nf++[Q9 r])->((w1.drewN q).alloc (.cells #[Q9 r] 163)).grownBy w3 (Value.ownBlock (.slice x s.nf nc))->(Value.ownBlock (.slice x s.nf nc)=some g3\/g3=w1.heap.size+1)->
    w3.cell? (G c 0)=some (.slice x s.nf nc)/\w3.frozen? (G c 0)=false/\c<w3.heap.size/\SX Z c B0 (.slice x s.nf nc) vT vS vU Bk A s k key w (.returned (Q9 r)) (w3.setCell (G c 0) (S9 g3 (s.nf+1) p))):=O (by
   intro q g3 p w3 a1 a2 a3;have hX:B9 w1 ((w1.drewN q).alloc (.cells #[Q9 r] 163)):=Below.alloc (a:=w1) (w:=w1.drewN q) ⟨rfl,rfl,rfl,A0 _,fun _ _=>rfl⟩ (A0 _) _;obtain⟨b1,b2,b3⟩:=b.Em K ⟨N',M',H,m⟩ C P hX a2 a1 (a3.imp id (fun e=>by have:=K.size;omega)) ad;refine⟨by simp[World.cell?,b1],by simp[World.frozen?,b1],Aj b1,.inr ⟨s.nf,?_,_,B',by rw[C],?_,b3⟩⟩
   ·obtain⟨e1,e2,e3⟩:=LD B (.inr (.inr ⟨f,l,E,rfl,rfl,rfl⟩));exact e3.symm
   ·obtain⟨e1,e2,e3⟩:=LD B (.inr (.inr ⟨f,l,E,rfl,rfl,rfl⟩));rw[<-e1,<-e2];exact b2)
  clear f l E H m C P K b Q d S n1;go_wp2_with fail
  go_quiet (fail)
  go_wp2_with (at_builtin;refine Aah _ rfl _ _ 115 rfl B0 163 i0 (.pointer none) 1 8 underlying115 af ag ah ai rfl (by decide) (.slice x s.nf nc) s.nf (ptrs Bk s.nf) rfl (aj _ _) (y w1 0) 1 1 [Q9 r] rfl rfl (GP (BE _ _)) (by simp[Value.oneCell']) (by decide) (by unfold maxLen;omega) (by omega) (by simp;omega) (w1.heap.size+1) (by simp) ?_;intro g3 p w3 t D u ao;obtain⟨x3,f3,l3,R⟩:=z HF _ g3 p w3 t D u;have ak:=O R;clear t D u R)
  exact DO (v:=Q9 r) (by simp[results,results259,go_sem]) rfl ak
end Go.Proofs.YtgmlkfgfjjggnaaGreatDoor
